/- Jb01 -/
import Derived.OrdersHeld
import Derived.Deep.RegionHeld
import Derived.KernelRfl
import Derived.Deep.DeepCutAuto
import Derived.Deep.RegionHeld3
import Derived.Test.YtjeplinbleofnaaJb00
import Derived.Test.YtjeplinbleofnaaProg
set_option maxRecDepth 100000
set_option linter.unusedVariables false
set_option linter.unusedSimpArgs false
set_option linter.unnecessarySimpa false
namespace Go.Proofs.Ytjeplinbleofnaa
open Go.Proofs.Try
open Go.RowKit
theorem Mem.row {w wr:World} {rs:List (Nat×Nat×Nat×Nat×Nat)} (h:Mem w wr rs) {b c0 c1 c2 c3:Nat} (hm:(b,c0,c1,c2,c3)∈rs):Row4 wr b c0 c1 c2 c3:=(h.2 _ hm).2
theorem Mem.lt {w wr:World} {rs:List (Nat×Nat×Nat×Nat×Nat)} (h:Mem w wr rs) {b c0 c1 c2 c3:Nat} (hm:(b,c0,c1,c2,c3)∈rs):b<wr.heap.size:=(h.2 _ hm).1
theorem tD {N k L:Nat} (hk:k<L):N/2^(L-(k+1))=2*(N/2^(L-k))+iH N (L-1-k):=by
 have:=IP N (L-1-k);rw[show L-1-k+1=L-k by omega]at this;rw[show L-(k+1)=L-1-k by omega,this]
set_option maxHeartbeats 4000000 in
theorem cV (F:FC) (hF:F.Ok) (A b a0 a1 a2 a3 n0 n1 n2 n3:Nat) (ha:bQ a0 a1 a2 a3) (hn:bQ n0 n1 n2 n3) (hA:aB a0 a1 a2 a3=kp F A) (w:World) (hk:KIs w b F) :
  Calls prog 116 #[.pointer (some ⟨b,0,none⟩),.agg #[.int .u64 a0,.int .u64 a1,.int .u64 a2,.int .u64 a3],.agg #[.int .u64 n0,.int .u64 n1,.int .u64 n2,.int .u64 n3]] w (fI (kp F (A^aB n0 n1 n2 n3)) w):=by
 have HK:=Lib.hid hk;have HF:=Lib.hid hF;have HA:=Lib.hid hA;have la:aB a0 a1 a2 a3<F.M:=by rw[hA]; exact iA hF _
 have hL:=hk.lt;have HLA:=Lib.hid la;clear hk hF hA la
 go_enter func116,ntmps116
 go_wp2_with fail;have M0:=((((Mem.nil w).new w.heap.size a0 a1 a2 a3 99 rfl).new (w.heap.size+1) n0 n1 n2 n3 27 (by simp)).new (w.heap.size+1+1) 0 0 0 0 99 (by simp));refine (pK F HF.out b _ (HK.out.same M0.1)).mono ?_
 rintro e w1 ⟨s0,s1,s2,s3,rfl,hs,hv,hbl⟩
 have M1:=M0.on hbl;have HV1:=Lib.hid hv;have hz1:w.heap.size+1+1<w1.heap.size:=M1.lt (c0:=0) (c1:=0) (c2:=0) (c3:=0) (by simp);have R1:=M1.row (b:=w.heap.size+1) (c0:=n0) (c1:=n1) (c2:=n2) (c3:=n3) (by simp);have x0:=R1.c0; have x1:=R1.c1; have x2:=R1.c2; have x3:=R1.c3;have lt1:w.heap.size+1<w1.heap.size:=by omega
 have M2:=Lib.hid (M1.new w1.heap.size s0 s1 s2 s3 99 rfl);clear hbl hv R1 M0 M1;go_wp2_with fail;refine (pP n0 n1 n2 n3 hn _).mono ?_
 rintro e w2 ⟨L,rfl,hL256,hLen,hbl⟩
 have HLen:=Lib.hid hLen;have M3:=Lib.hid (M2.out.on hbl);have hz2:w1.heap.size<w2.heap.size:=by have:=hbl.size; simp at this; omega
 clear hbl hLen x0 x1 x2 x3;go_wp2_with fail
 go_loopw [15] (fun i wr=>∃k r0 r1 r2 r3:Nat,k≤L∧i=.int .i64 k∧bQ r0 r1 r2 r3∧Hid (aB r0 r1 r2 r3=kp F (A^(aB n0 n1 n2 n3/2^(L-k))))∧Hid (Mem w wr [(w1.heap.size,r0,r1,r2,r3),(w.heap.size+1+1,0,0,0,0),(w.heap.size+1,n0,n1,n2,n3),(w.heap.size,a0,a1,a2,a3)])) (fun i _=>L-(intOf i).toNat)
 case atStart =>
  refine⟨0,s0,s1,s2,s3,Nat.zero_le _,rfl,hs,Lib.hid ?_,M3⟩;rw[HV1.out,Nat.sub_zero,Nat.div_eq_of_lt HLen.out.1,Nat.pow_zero]
 case round =>
  obtain⟨k,r0,r1,r2,r3,hkL,rfl,hr,HV,HM⟩:=hrel;have hrl:aB r0 r1 r2 r3<F.M:=by rw[HV.out]; exact iA HF.out _
  by_cases hlt:k<L
  ·have Rr:=HM.out.row (b:=w1.heap.size) (c0:=r0) (c1:=r1) (c2:=r2) (c3:=r3) (by simp);have x0:=Rr.c0; have x1:=Rr.c1; have x2:=Rr.c2; have x3:=Rr.c3;have ltr:=HM.out.lt (b:=w1.heap.size) (c0:=r0) (c1:=r1) (c2:=r2) (c3:=r3) (by simp);have Hrl:=Lib.hid hrl;clear Rr hrl;go_wp2_with fail;refine (bC F HF.out b r0 r1 r2 r3 r0 r1 r2 r3 hr hr Hrl.out _ (HK.out.same HM.out.1)).mono ?_
   rintro e w3 ⟨p0,p1,p2,p3,rfl,hp,hv,hbl⟩
   have hv':aB p0 p1 p2 p3=kp F (A^(aB n0 n1 n2 n3/2^(L-k))*A^(aB n0 n1 n2 n3/2^(L-k))%F.M):=by rw[hv,HV.out,cZ HF.out]
   have HP:=Lib.hid hv';have M4:=HM.out.on hbl;have lt4:=M4.lt (b:=w1.heap.size) (c0:=r0) (c1:=r1) (c2:=r2) (c3:=r3) (by simp);have Rr:=M4.row (b:=w1.heap.size) (c0:=r0) (c1:=r1) (c2:=r2) (c3:=r3) (by simp);have Rn:=M4.row (b:=w.heap.size+1) (c0:=n0) (c1:=n1) (c2:=n2) (c3:=n3) (by simp);have Ra:=M4.row (b:=w.heap.size) (c0:=a0) (c1:=a1) (c2:=a2) (c3:=a3) (by simp);have M5:=Lib.hid (M4.put p0 p1 p2 p3 (by omega) (by intro r hr; simp at hr; rcases hr with rfl|rfl|rfl<;>simp<;>omega));clear x0 x1 x2 x3 hv hv' hbl M4;have x0:=Rr.c0; have x1:=Rr.c1; have x2:=Rr.c2; have x3:=Rr.c3; have xf:=Rr.fr;have y0:=Rn.c0; have y1:=Rn.c1; have y2:=Rn.c2; have y3:=Rn.c3;have ne1:¬w.heap.size+1=w1.heap.size:=by omega
   have ne1':¬w1.heap.size=w.heap.size+1:=by omega
   clear Rr Rn Ra;obtain⟨L1,e1,hL1⟩:∃L1:Nat,(L:Int)-1=(L1:Int)∧L1+1=L:=⟨L-1,by omega,by omega⟩
   obtain⟨j,e2,hj⟩:∃j:Nat,(L1:Int)-(k:Int)=(j:Int)∧j+k=L1:=⟨L1-k,by omega,by omega⟩
   have hj256:j<256:=by omega
   have hjk:j=L-1-k:=by omega
   have HJ:=Lib.hid hjk;clear hjk;go_wp2_with fail;refine (SF n0 n1 n2 n3 j hn hj256 _).mono ?_
   rintro e w4 ⟨he,hbl⟩
   have M5':=M5.out;unfold set4 at M5';have M6:=M5'.on hbl;clear hbl M5' x0 x1 x2 x3 xf y0 y1 y2 y3;have lt6:=M6.lt (b:=w1.heap.size) (c0:=p0) (c1:=p1) (c2:=p2) (c3:=p3) (by simp)
   rcases uT (aB n0 n1 n2 n3) j with hb|hb
   ·rw[hb]at he;subst he;have HS:=Lib.hid (show aB p0 p1 p2 p3=kp F (A^(aB n0 n1 n2 n3/2^(L-(k+1)))) by
     rw[HP.out,tD hlt,←HJ.out,hb]; exact ((lT F A _ 0 (Or.inl rfl)).1 rfl).symm)
    have M7:=Lib.hid M6;clear hb M6;go_wp2_with fail
    go_roundw
    case rel=>exact⟨k+1,p0,p1,p2,p3,by omega,by go_num,hp,HS,M7⟩
    case measure=>simp[intOf]; omega
   ·rw[hb]at he;subst he;have Rr:=M6.row (b:=w1.heap.size) (c0:=p0) (c1:=p1) (c2:=p2) (c3:=p3) (by simp);have Ra:=M6.row (b:=w.heap.size) (c0:=a0) (c1:=a1) (c2:=a2) (c3:=a3) (by simp);have x0:=Rr.c0; have x1:=Rr.c1; have x2:=Rr.c2; have x3:=Rr.c3;have z0:=Ra.c0; have z1:=Ra.c1; have z2:=Ra.c2; have z3:=Ra.c3;have HB:=Lib.hid hb;have M7:=Lib.hid M6;clear hb M6 Rr Ra;go_wp2_with fail;refine (bC F HF.out b p0 p1 p2 p3 a0 a1 a2 a3 hp ha HLA.out _ (HK.out.same M7.out.1)).mono ?_
    rintro e w5 ⟨q0,q1,q2,q3,rfl,hq,hv,hbl⟩
    have hv':aB q0 q1 q2 q3=kp F (A^(aB n0 n1 n2 n3/2^(L-(k+1)))):=by
     rw[hv,HP.out,HA.out,cZ HF.out,tD hlt,←HJ.out,HB.out]; exact ((lT F A _ 1 (Or.inr rfl)).2 rfl).symm
    have HS:=Lib.hid hv';have M8:=M7.out.on hbl;have lt8:=M8.lt (b:=w1.heap.size) (c0:=p0) (c1:=p1) (c2:=p2) (c3:=p3) (by simp);have Rr:=M8.row (b:=w1.heap.size) (c0:=p0) (c1:=p1) (c2:=p2) (c3:=p3) (by simp);have M9:=Lib.hid (M8.put q0 q1 q2 q3 (by omega) (by intro r hr; simp at hr; rcases hr with rfl|rfl|rfl<;>simp<;>omega));clear x0 x1 x2 x3 z0 z1 z2 z3 hv hv' hbl M8;have x0:=Rr.c0; have x1:=Rr.c1; have x2:=Rr.c2; have x3:=Rr.c3; have xf:=Rr.fr;clear Rr;go_wp2_with fail
    go_roundw
    case rel=>exact⟨k+1,q0,q1,q2,q3,by omega,by go_num,hq,HS,M9⟩
    case measure=>simp[intOf]; omega
  ·obtain rfl:k=L:=by omega
   have Rr:=HM.out.row (b:=w1.heap.size) (c0:=r0) (c1:=r1) (c2:=r2) (c3:=r3) (by simp);have x0:=Rr.c0; have x1:=Rr.c1; have x2:=Rr.c2; have x3:=Rr.c3;have Ro:=HM.out.row (b:=w.heap.size+1+1) (c0:=0) (c1:=0) (c2:=0) (c3:=0) (by simp);have o0:=Ro.c0; have o1:=Ro.c1; have o2:=Ro.c2; have o3:=Ro.c3; have of:=Ro.fr;have ltr:=HM.out.lt (b:=w1.heap.size) (c0:=r0) (c1:=r1) (c2:=r2) (c3:=r3) (by simp);have lto:=HM.out.lt (b:=w.heap.size+1+1) (c0:=0) (c1:=0) (c2:=0) (c3:=0) (by simp);clear Rr Ro hrl;go_wp2_with fail;refine bodyPost_ret (v:=.agg #[.int .u64 r0,.int .u64 r1,.int .u64 r2,.int .u64 r3]) (by simp[results,results116,go_sem, *]) rfl ?_;refine⟨_,_,_,_,rfl,hr,by rw[HV.out,Nat.sub_self,Nat.pow_zero,Nat.div_one],?_⟩;exact aW HM.out.1 (by omega) _ _ _ _
def ML (M A T R S C:Nat):Prop:=1≤T∧R*R%M=A*S%M∧C^2^(T-1)%M=M-1∧S^2^(T-1)%M=1
theorem eS (x k:Nat):x^2^(k+1)=x^2^k*x^2^k:=by rw[Nat.pow_succ,Nat.mul_comm,Nat.two_mul,Nat.pow_add]
theorem DC {M g:Nat} (hr:Root M g) (h2:2<M) {A T o R S C:Nat} (h:ML M A T R S C) (ho:0<o) (hoT:o<T) (h1:S^2^o%M=1) (hmin:S^2^(o-1)%M≠1) :
  ML M A o (R*C^2^(T-o-1)) (S*(C^2^(T-o-1)*C^2^(T-o-1))) (C^2^(T-o-1)*C^2^(T-o-1)):=by
 obtain⟨hT,hR,hC,hS⟩:=h;have hD:(C^2^(T-o-1)*C^2^(T-o-1))^2^(o-1)%M=M-1:=by
  rw[←eS,←Nat.pow_mul,←Nat.pow_add,show T-o-1+1+(o-1)=T-1 by omega]; exact hC
 have hx:S^2^(o-1)%M=M-1:=by
  have hlt:=Nat.mod_lt (S^2^(o-1)) (show 0<M by omega);have e:S^2^(o-1)%M*(S^2^(o-1)%M)%M=1:=by
   rw[←Nat.mul_mod,←eS,show o-1+1=o by omega]; exact h1
  rcases PP hr (by omega) hlt e with q|q
  ·exact absurd q hmin
  ·exact q
 refine⟨ho,?_,hD,?_⟩
 ·generalize C^2^(T-o-1)=D at *;rw[show R*D*(R*D)=R*R*(D*D) by simp only[Nat.mul_comm,Nat.mul_left_comm,Nat.mul_assoc],←Nat.mul_assoc A S];exact iF hR rfl
 ·rw[Nat.mul_pow,Nat.mul_mod,hD,hx];exact OU h2
theorem tF {M A H T:Nat} (hM:M=2^T*(2*H+1)+1) (hT:1≤T):(A^(2*H+1))^2^(T-1)=A^(M/2):=by
 rw[←Nat.pow_mul];congr 1;obtain⟨t,rfl⟩:∃t,T=t+1:=⟨T-1,by omega⟩
 rw[hM,Nat.pow_succ,show t+1-1=t by omega,Nat.mul_comm (2^t) 2,Nat.mul_assoc,Nat.mul_comm (2*H+1)];omega
theorem AF {M A H T C:Nat} (hM:M=2^T*(2*H+1)+1) (hT:1≤T) (hC:C^2^(T-1)%M=M-1) (hs:A^(M/2)%M=1) :
  ML M A T (A*A^H) (A*A^H*A^H) C:=by
 have e:A*A^H*A^H=A^(2*H+1):=by rw[Nat.mul_assoc,←Nat.pow_add,←Nat.pow_succ']; congr 1; omega
 refine⟨hT,?_,hC,?_⟩
 ·rw[show A*A^H*(A*A^H)=A*(A*A^H*A^H) by simp only[Nat.mul_comm,Nat.mul_left_comm,Nat.mul_assoc]]
 ·rw[e,tF hM hT,hs]
theorem nD {M H T:Nat} (hM:M=2^T*(2*H+1)+1) (hT:1≤T):M/2^(T+1)=H:=by
 obtain⟨t,rfl⟩:∃t,T=t+1:=⟨T-1,by omega⟩
 have hp:=Nat.two_pow_pos t;rw[hM,Nat.pow_succ 2 (t+1),Nat.pow_succ 2 t];generalize 2^t=x at *;rw[show x*2*(2*H+1)+1=x*2+1+x*2*2*H by rw[Nat.mul_add,←Nat.mul_assoc]; omega];rw[Nat.add_mul_div_left _ _ (by omega),Nat.div_eq_of_lt (by omega),Nat.zero_add]
theorem PY {M S i j:Nat} (h1:1<M) (hij:i≤j) (h:S^2^i%M=1):S^2^j%M=1:=by
 obtain⟨d,rfl⟩:∃d,j=i+d:=⟨j-i,by omega⟩
 rw[Nat.pow_add,Nat.pow_mul,Nat.pow_mod,h,Nat.one_pow,Nat.mod_eq_of_lt h1]
theorem GQ (d:Nat) (a0 a1 a2 a3 b0 b1 b2 b3:Nat) (w:World):(Op.equalIn (d+1+1) 99 (.agg #[.int .u64 a0,.int .u64 a1,.int .u64 a2,.int .u64 a3]) (.agg #[.int .u64 b0,.int .u64 b1,.int .u64 b2,.int .u64 b3])).run prog w=.ok (rR a0 a1 a2 a3 b0 b1 b2 b3) w:=by
 have h0:∀(x y:Int) (w:World),(Op.equalIn (d+1) 22 (.int .u64 x) (.int .u64 y)).run prog w=.ok (x==y) w:=fun x y w=>run_equalIn_int w d 22 .u64 .u64 x y underlying22
 rw[Op.equalIn];simp only[Sem.run_bind,run_underlying underlying99,Result.andThen_ok,Try.sizeOf22];simp[Std.Legacy.Range.forIn_eq_forIn_range',Std.Legacy.Range.size,List.range',part,h0,Sem.run_bind,Result.andThen_ok];unfold rR
 by_cases q0:a0=b0<;>by_cases q1:a1=b1<;>by_cases q2:a2=b2<;>by_cases q3:a3=b3<;>simp[q0,q1,q2,q3]<;>omega
theorem kG (d:Nat) (a0 a1 a2 a3 b0 b1 b2 b3:Nat) (w:World):(Op.equalIn (d+1+1) 24 (.agg #[.int .u64 a0,.int .u64 a1,.int .u64 a2,.int .u64 a3]) (.agg #[.int .u64 b0,.int .u64 b1,.int .u64 b2,.int .u64 b3])).run prog w=.ok (rR a0 a1 a2 a3 b0 b1 b2 b3) w:=by
 have h0:∀(x y:Int) (w:World),(Op.equalIn (d+1) 22 (.int .u64 x) (.int .u64 y)).run prog w=.ok (x==y) w:=fun x y w=>run_equalIn_int w d 22 .u64 .u64 x y underlying22
 rw[Op.equalIn];simp only[Sem.run_bind,run_underlying underlying24,Result.andThen_ok,Try.sizeOf22];simp[Std.Legacy.Range.forIn_eq_forIn_range',Std.Legacy.Range.size,List.range',part,h0,Sem.run_bind,Result.andThen_ok];unfold rR
 by_cases q0:a0=b0<;>by_cases q1:a1=b1<;>by_cases q2:a2=b2<;>by_cases q3:a3=b3<;>simp[q0,q1,q2,q3]<;>omega
theorem Mem.drew {w wr:World} {rs:List (Nat×Nat×Nat×Nat×Nat)} (h:Mem w wr rs):Mem w wr.drew rs :=
 ⟨h.1.drew,fun r hr=>⟨(h.2 r hr).1,⟨(h.2 r hr).2.c0,(h.2 r hr).2.c1,(h.2 r hr).2.c2,(h.2 r hr).2.c3,(h.2 r hr).2.fr⟩⟩⟩
theorem GT:prog.eqGuardType prog.depth 99=false:=by kernel_rfl
theorem kH:prog.eqGuardType prog.depth 24=false:=by kernel_rfl
set_option maxHeartbeats 1000000 in
theorem nW (F:FC) (hF:F.Ok) (A b a0 a1 a2 a3:Nat) (ha:bQ a0 a1 a2 a3) (hA:aB a0 a1 a2 a3=kp F A) (w:World) (hk:KIs w b F) :
  Calls prog 110 #[.pointer (some ⟨b,0,none⟩),.agg #[.int .u64 a0,.int .u64 a1,.int .u64 a2,.int .u64 a3]] w (fI (kp F (A^(F.M-2))) w):=by
 have HK:=Lib.hid hk;have HF:=Lib.hid hF;have HA:=Lib.hid hA;have hL:=hk.lt;have hL1:b<w.heap.size+1:=by omega
 have k0:=hk.k0; have k1:=hk.k1; have k2:=hk.k2; have k3:=hk.k3;clear hk hF hA
 go_enter func110,ntmps110
 go_wp2_with fail;have M0:=(((Mem.nil w).new w.heap.size a0 a1 a2 a3 99 rfl).new (w.heap.size+1) 0 0 0 0 99 (by simp));refine (pC F.m0 F.m1 F.m2 F.m3 2 0 0 0 HF.out.okm ⟨by omega,by omega,by omega,by omega⟩ _).mono ?_
 rintro e w1 ⟨n0,n1,n2,n3,c,rfl,hn,hc,hv,hbl⟩
 have hv':aB n0 n1 n2 n3=F.M-2:=by
  have e2:aB 2 0 0 0=2:=rfl;have:=dB hn; have:=HF.out.gt; have:=HF.out.two;rw[e2,show aB F.m0 F.m1 F.m2 F.m3=F.M from rfl]at hv;omega
 have HV:=Lib.hid hv';have M1:=M0.on hbl;have hz1:w.heap.size+1<w1.heap.size:=M1.lt (c0:=0) (c1:=0) (c2:=0) (c3:=0) (by simp);have R1:=M1.row (b:=w.heap.size) (c0:=a0) (c1:=a1) (c2:=a2) (c3:=a3) (by simp);have x0:=R1.c0; have x1:=R1.c1; have x2:=R1.c2; have x3:=R1.c3;have lt1:w.heap.size<w1.heap.size:=by omega
 have M2:=Lib.hid (M1.new w1.heap.size n0 n1 n2 n3 27 rfl);clear hbl hv hv' R1 M0 M1 k0 k1 k2 k3;go_wp2_with fail;refine (cV F HF.out A b a0 a1 a2 a3 n0 n1 n2 n3 ha hn HA.out _ (HK.out.same M2.out.1)).mono ?_
 rintro e w2 ⟨s0,s1,s2,s3,rfl,hs,hv,hbl⟩
 have HVs:=Lib.hid hv;have M3:=Lib.hid (M2.out.on hbl);have Ro:=M3.out.row (b:=w.heap.size+1) (c0:=0) (c1:=0) (c2:=0) (c3:=0) (by simp);have o0:=Ro.c0; have o1:=Ro.c1; have o2:=Ro.c2; have o3:=Ro.c3; have of:=Ro.fr;have lto:=M3.out.lt (b:=w.heap.size+1) (c0:=0) (c1:=0) (c2:=0) (c3:=0) (by simp);clear hbl hv Ro x0 x1 x2 x3;go_wp2_with fail;refine bodyPost_ret (v:=.agg #[.int .u64 s0,.int .u64 s1,.int .u64 s2,.int .u64 s3]) (by simp[results,results110,go_sem, *]) rfl ?_;refine⟨_,_,_,_,rfl,hs,by rw[HVs.out,HV.out],?_⟩;exact aW M3.out.1 (by omega) _ _ _ _
def bP (M A:Nat):Bool:=decide (A≤(0+M-A)%M)
theorem LD (M A:Nat):decide (fK A ((0+M-A)%M)≤0)=bP M A:=by
 unfold bP fK
 by_cases h:A=(0+M-A)%M
 ·rw[if_pos h,decide_eq_true (by omega),decide_eq_true (by omega)]
 ·rw[if_neg h]
  by_cases h2:A<(0+M-A)%M
  ·rw[if_pos h2,decide_eq_true (by omega),decide_eq_true (by omega)]
  ·rw[if_neg h2,decide_eq_false (by omega),decide_eq_false (by omega)]
set_option maxHeartbeats 1000000 in
theorem iX (F:FC) (hF:F.Ok) (b a0 a1 a2 a3:Nat) (ha:bQ a0 a1 a2 a3) (la:aB a0 a1 a2 a3<F.M) (w:World) (hk:KIs w b F) :
  Calls prog 100 #[.pointer (some ⟨b,0,none⟩),.agg #[.int .u64 a0,.int .u64 a1,.int .u64 a2,.int .u64 a3]] w fun e w'=>e=.returned (.bool (bP F.M (aB a0 a1 a2 a3)))∧Below w.heap.size w w':=by
 have HK:=Lib.hid hk;have HF:=Lib.hid hF;have HLA:=Lib.hid la;have hL:=hk.lt;have hL1:b<w.heap.size+1:=by omega
 clear hk hF la
 go_enter func100,ntmps100
 go_wp2_with fail;have M0:=Lib.hid ((Mem.nil w).new w.heap.size a0 a1 a2 a3 24 rfl)
 go_region_with (first
  | (go_at_call 106; (refine (hJ F HF.out b 0 0 0 0 a0 a1 a2 a3 ⟨by omega,by omega,by omega,by omega⟩ ha HF.out.pos HLA.out _ (HK.out.same (by repeat (first|exact Below.refl _ _|refine Below.drew ?_|refine Below.alloc ?_ (by first|(simp; done)|(simp; omega)) _)))).mono ?_; rintro e w1 ⟨s0,s1,s2,s3,rfl,hs,hv,hbl⟩; have HV:=Lib.hid hv; have M1:=Lib.hid (M0.out.drew.on hbl); have R1:=M1.out.row (b:=w.heap.size) (c0:=a0) (c1:=a1) (c2:=a2) (c3:=a3) (by simp); have x0:=R1.c0; have x1:=R1.c1; have x2:=R1.c2; have x3:=R1.c3; have lt1:=M1.out.lt (b:=w.heap.size) (c0:=a0) (c1:=a1) (c2:=a2) (c3:=a3) (by simp); clear hv hbl R1))
  | (go_at_call 115; refine (BT a0 a1 a2 a3 s0 s1 s2 s3 ha hs _).mono ?_; rintro e w2 ⟨rfl,hbl⟩; have HB:=Lib.hid (M1.out.on hbl).1; clear hbl))
 all_goals (
  go_wp2_with fail;go_ret;exact⟨sV (by rw[HV.out]; exact LD _ _),HB.out⟩)
def MS (M A T:Nat) (w:World) (e:Ending) (w':World):Prop :=
 ∃o:Nat,e=.returned (.int .i64 o)∧o≤T∧(∀j,j<o→A^2^j%M≠1)∧(o<T→A^2^o%M=1)∧Below w.heap.size w w'
theorem RH {F:FC} (hF:F.Ok) {a0 a1 a2 a3 s0 s1 s2 s3 A:Nat} (ha:bQ a0 a1 a2 a3) (hs:bQ s0 s1 s2 s3) (hA:aB a0 a1 a2 a3=kp F A) (hS:aB s0 s1 s2 s3=kp F 1):rR a0 a1 a2 a3 s0 s1 s2 s3=true↔A%F.M=1:=by
 have h1:1<F.M:=by have:=hF.gt; omega
 rw[iQ ha hs,hA,hS,←dL F A];exact⟨fun h=>QI hF (Nat.mod_lt _ (by omega)) h1 h,fun h=>by rw[h]⟩
set_option maxHeartbeats 4000000 in
theorem hZ (F:FC) (hF:F.Ok) (A b a0 a1 a2 a3 T:Nat) (ha:bQ a0 a1 a2 a3) (hA:aB a0 a1 a2 a3=kp F A) (hT:T≤256) (w:World) (hk:KIs w b F) :
  Calls prog 117 #[.pointer (some ⟨b,0,none⟩),.agg #[.int .u64 a0,.int .u64 a1,.int .u64 a2,.int .u64 a3],.int .i64 T] w (MS F.M A T w):=by
 have HK:=Lib.hid hk;have HF:=Lib.hid hF;have HA:=Lib.hid hA;have hL:=hk.lt;have hG:=GT;clear hk hF hA
 go_enter func117,ntmps117
 go_wp2_with fail;have M0:=(Mem.nil w).new w.heap.size a0 a1 a2 a3 99 rfl;refine (pK F HF.out b _ (HK.out.same M0.1)).mono ?_
 rintro e w1 ⟨s0,s1,s2,s3,rfl,hs,hv,hbl⟩
 have M1:=M0.on hbl;have HV1:=Lib.hid hv;have hz1:w.heap.size<w1.heap.size:=M1.lt (c0:=a0) (c1:=a1) (c2:=a2) (c3:=a3) (by simp);have M2:=Lib.hid ((M1.new w1.heap.size s0 s1 s2 s3 99 rfl).sub (rs':=[(w.heap.size,a0,a1,a2,a3),(w1.heap.size,s0,s1,s2,s3)]) (by simp));clear hbl hv M0 M1;go_wp2_with fail
 go_loopw [12] (fun i wr=>∃k r0 r1 r2 r3:Nat,k≤T∧i=.int .i64 k∧bQ r0 r1 r2 r3∧Hid (aB r0 r1 r2 r3=kp F (A^2^k))∧Hid (∀j,j<k→A^2^j%F.M≠1)∧Hid (Mem w wr [(w.heap.size,r0,r1,r2,r3),(w1.heap.size,s0,s1,s2,s3)])) (fun i _=>T-(intOf i).toNat)
 case atStart =>
  exact⟨0,a0,a1,a2,a3,Nat.zero_le _,rfl,ha,Lib.hid (by rw[HA.out,Nat.pow_zero,Nat.pow_one]),Lib.hid (fun j hj=>absurd hj (by omega)),M2⟩
 case round =>
  obtain⟨k,r0,r1,r2,r3,hkT,rfl,hr,HV,HN,HM⟩:=hrel
  by_cases hlt:k<T
  ·have Rr:=HM.out.row (b:=w.heap.size) (c0:=r0) (c1:=r1) (c2:=r2) (c3:=r3) (by simp);have x0:=Rr.c0; have x1:=Rr.c1; have x2:=Rr.c2; have x3:=Rr.c3;have Ro:=HM.out.row (b:=w1.heap.size) (c0:=s0) (c1:=s1) (c2:=s2) (c3:=s3) (by simp);have o0:=Ro.c0; have o1:=Ro.c1; have o2:=Ro.c2; have o3:=Ro.c3;have ltr:=HM.out.lt (b:=w.heap.size) (c0:=r0) (c1:=r1) (c2:=r2) (c3:=r3) (by simp);have lto:=HM.out.lt (b:=w1.heap.size) (c0:=s0) (c1:=s1) (c2:=s2) (c3:=s3) (by simp);have hE:=fun w=>GQ 9998 r0 r1 r2 r3 s0 s1 s2 s3 w
   have hq:=RH HF.out hr hs HV.out HV1.out;clear Rr Ro;cases q:rR r0 r1 r2 r3 s0 s1 s2 s3
   ·rw[q]at hE hq;have HN1:=Lib.hid (show ¬A^2^k%F.M=1 from fun h=>by simpa using hq.2 h);have hrl:=Lib.hid (show aB r0 r1 r2 r3<F.M by rw[HV.out]; exact iA HF.out _);clear q hq;go_wp2_with fail;refine (bC F HF.out b r0 r1 r2 r3 r0 r1 r2 r3 hr hr hrl.out _ (HK.out.same HM.out.1)).mono ?_
    rintro e w3 ⟨p0,p1,p2,p3,rfl,hp,hv,hbl⟩
    have HP:=Lib.hid (show aB p0 p1 p2 p3=kp F (A^2^(k+1)) by rw[hv,HV.out,cZ HF.out,dL,eS]);have M4:=HM.out.on hbl;have lt4:=M4.lt (b:=w.heap.size) (c0:=r0) (c1:=r1) (c2:=r2) (c3:=r3) (by simp);have Rr:=M4.row (b:=w.heap.size) (c0:=r0) (c1:=r1) (c2:=r2) (c3:=r3) (by simp);have M5:=Lib.hid (M4.put p0 p1 p2 p3 (by omega) (by intro r hr; simp at hr; rcases hr with rfl; simp; omega));clear x0 x1 x2 x3 o0 o1 o2 o3 hv hbl M4 hE;have x0:=Rr.c0; have x1:=Rr.c1; have x2:=Rr.c2; have x3:=Rr.c3; have xf:=Rr.fr;clear Rr;go_wp2_with fail
    go_roundw
    case rel =>
     exact⟨k+1,p0,p1,p2,p3,by omega,by go_num,hp,HP,Lib.hid (fun j hj=>by
      by_cases h:j=k
      ·subst h; exact HN1.out
      ·exact HN.out j (by omega)),M5⟩
    case measure=>simp[intOf]; omega
   ·rw[q]at hE hq;have HN1:=Lib.hid (hq.1 rfl);clear q hq;go_wp2_with fail;go_ret;exact⟨k,rfl,by omega,HN.out,fun _=>HN1.out,HM.out.1⟩
  ·obtain rfl:k=T:=by omega
   go_wp2_with fail;go_ret;exact⟨k,rfl,Nat.le_refl _,HN.out,fun h=>absurd h (by omega),HM.out.1⟩
theorem UC (a0 a1 a2 a3:Nat) (n:Int) (ha:bQ a0 a1 a2 a3) (h0:0<n) (hq:n/64=0) (w:World) :
  Calls prog 70 #[.agg #[.int .u64 a0,.int .u64 a1,.int .u64 a2,.int .u64 a3],.int .i64 n] w (fH (fun v=>v=aB a0 a1 a2 a3/2^n.toNat) w):=by
 obtain⟨p,hr,hp,en⟩:=LY (by omega) 0 hq (by omega);have b1:n<256:=by omega
 have t0:decide (n≤0)=false:=decide_eq_false (by omega);obtain⟨lo0,up0,u0,d0,bl0,bu0,e0,g0,m0⟩:=eE (a:=a0) (p:=p) ha.1 hp;obtain⟨lo1,up1,u1,d1,bl1,bu1,e1,g1,m1⟩:=eE (a:=a1) (p:=p) ha.2.1 hp;obtain⟨lo2,up2,u2,d2,bl2,bu2,e2,g2,m2⟩:=eE (a:=a2) (p:=p) ha.2.2.1 hp;obtain⟨lo3,up3,u3,d3,bl3,bu3,e3,g3,m3⟩:=eE (a:=a3) (p:=p) ha.2.2.2 hp;obtain⟨s0,o0,bs0,f0⟩:=jI bl0 bu1 g0 m1;obtain⟨s1,o1,bs1,f1⟩:=jI bl1 bu2 g1 m2;obtain⟨s2,o2,bs2,f2⟩:=jI bl2 bu3 g2 m3;have HF:Hid (aB s0 s1 s2 lo3=aB a0 a1 a2 a3/2^n.toNat):=Lib.hid (by
  rw[en,tE,←Nat.div_div_eq_div_mul];have hq':aB a0 a1 a2 a3/18446744073709551616^((0:Int)).toNat=aB a0 a1 a2 a3:=by
   rw[show 18446744073709551616^((0:Int)).toNat=1 by simp];obtain⟨k0,k1,k2,k3⟩:=ha;unfold aB; omega
  rw[hq'];obtain⟨v0,x0,y0,z0⟩:=e0.out;obtain⟨v1,x1,y1,z1⟩:=e1.out;obtain⟨v2,x2,y2,z2⟩:=e2.out;obtain⟨v3,x3,y3,z3⟩:=e3.out;have f0:=f0.out;have f1:=f1.out;have f2:=f2.out;refine mS (m:=v0) ?_ y0;have hD:aB s0 s1 s2 lo3*2^p=1*(s0*2^p)+18446744073709551616*(s1*2^p)+340282366920938463463374607431768211456*(s2*2^p)+6277101735386680763835789423207666416102355444464034512896*(lo3*2^p):=by
   unfold aB; simp only[Nat.add_mul,Nat.mul_add,Nat.mul_assoc,Nat.mul_zero,Nat.zero_mul,Nat.add_zero]; omega
  rw[hD];have k0:s0*2^p=lo0*2^p+up1*2^p:=by rw[f0,Nat.add_mul]
  have k1:s1*2^p=lo1*2^p+up2*2^p:=by rw[f1,Nat.add_mul]
  have k2:s2*2^p=lo2*2^p+up3*2^p:=by rw[f2,Nat.add_mul]
  unfold aB;omega)
 clear e0 g0 m0 e1 g1 m1 e2 g2 m2 e3 g3 m3 f0 f1 f2;have HEN:=Lib.hid en;clear en
 go_enter func70,ntmps70
 go_wp2_with fail;refine wp_loop_rounds 5 ?_;rw[rounds_succ];go_wp2_with fail
 go_region
 go_wp2_with fail;rw[rounds_succ];go_wp2_with fail
 go_region
 go_wp2_with fail;rw[rounds_succ];go_wp2_with fail
 go_region
 go_wp2_with fail;rw[rounds_succ];go_wp2_with fail;rw[rounds_succ];go_wp2_with fail;refine bodyPost_ret (v:=.agg #[.int .u64 s0,.int .u64 s1,.int .u64 s2,.int .u64 lo3]) (by simp[results,results70,go_sem]) rfl ?_;refine⟨s0,s1,s2,lo3,rfl,⟨bs0,bs1,bs2,bl3⟩,HF.out,?_⟩
 repeat (first|exact Below.refl _ _|refine Below.drew ?_|refine Below.alloc ?_ (by first|(simp; done)|(simp; omega)) _)
theorem UB (a0 a1 a2 a3:Nat) (n:Int) (ha:bQ a0 a1 a2 a3) (h0:0<n) (hq:n/64=1) (w:World) :
  Calls prog 70 #[.agg #[.int .u64 a0,.int .u64 a1,.int .u64 a2,.int .u64 a3],.int .i64 n] w (fH (fun v=>v=aB a0 a1 a2 a3/2^n.toNat) w):=by
 obtain⟨p,hr,hp,en⟩:=LY (by omega) 1 hq (by omega);have b1:n<256:=by omega
 have t0:decide (n≤0)=false:=decide_eq_false (by omega);obtain⟨lo1,up1,u1,d1,bl1,bu1,e1,g1,m1⟩:=eE (a:=a1) (p:=p) ha.2.1 hp;obtain⟨lo2,up2,u2,d2,bl2,bu2,e2,g2,m2⟩:=eE (a:=a2) (p:=p) ha.2.2.1 hp;obtain⟨lo3,up3,u3,d3,bl3,bu3,e3,g3,m3⟩:=eE (a:=a3) (p:=p) ha.2.2.2 hp;obtain⟨s1,o1,bs1,f1⟩:=jI bl1 bu2 g1 m2;obtain⟨s2,o2,bs2,f2⟩:=jI bl2 bu3 g2 m3;have HF:Hid (aB s1 s2 lo3 0=aB a0 a1 a2 a3/2^n.toNat):=Lib.hid (by
  rw[en,tE,←Nat.div_div_eq_div_mul];have hq':aB a0 a1 a2 a3/18446744073709551616^((1:Int)).toNat=aB a1 a2 a3 0:=by
   rw[show 18446744073709551616^((1:Int)).toNat=18446744073709551616 by simp];obtain⟨k0,k1,k2,k3⟩:=ha;unfold aB; omega
  rw[hq'];obtain⟨v1,x1,y1,z1⟩:=e1.out;obtain⟨v2,x2,y2,z2⟩:=e2.out;obtain⟨v3,x3,y3,z3⟩:=e3.out;have f1:=f1.out;have f2:=f2.out;refine mS (m:=v1) ?_ y1;have hD:aB s1 s2 lo3 0*2^p=1*(s1*2^p)+18446744073709551616*(s2*2^p)+340282366920938463463374607431768211456*(lo3*2^p):=by
   unfold aB; simp only[Nat.add_mul,Nat.mul_add,Nat.mul_assoc,Nat.mul_zero,Nat.zero_mul,Nat.add_zero]; omega
  rw[hD];have k1:s1*2^p=lo1*2^p+up2*2^p:=by rw[f1,Nat.add_mul]
  have k2:s2*2^p=lo2*2^p+up3*2^p:=by rw[f2,Nat.add_mul]
  unfold aB;omega)
 clear e1 g1 m1 e2 g2 m2 e3 g3 m3 f1 f2;have HEN:=Lib.hid en;clear en
 go_enter func70,ntmps70
 go_wp2_with fail;refine wp_loop_rounds 4 ?_;rw[rounds_succ];go_wp2_with fail
 go_region
 go_wp2_with fail;rw[rounds_succ];go_wp2_with fail
 go_region
 go_wp2_with fail;rw[rounds_succ];go_wp2_with fail;rw[rounds_succ];go_wp2_with fail;refine bodyPost_ret (v:=.agg #[.int .u64 s1,.int .u64 s2,.int .u64 lo3,.int .u64 0]) (by simp[results,results70,go_sem]) rfl ?_;refine⟨s1,s2,lo3,0,rfl,⟨bs1,bs2,bl3,(by omega)⟩,HF.out,?_⟩
 repeat (first|exact Below.refl _ _|refine Below.drew ?_|refine Below.alloc ?_ (by first|(simp; done)|(simp; omega)) _)
theorem UA (a0 a1 a2 a3:Nat) (n:Int) (ha:bQ a0 a1 a2 a3) (h0:0<n) (hq:n/64=2) (w:World) :
  Calls prog 70 #[.agg #[.int .u64 a0,.int .u64 a1,.int .u64 a2,.int .u64 a3],.int .i64 n] w (fH (fun v=>v=aB a0 a1 a2 a3/2^n.toNat) w):=by
 obtain⟨p,hr,hp,en⟩:=LY (by omega) 2 hq (by omega);have b1:n<256:=by omega
 have t0:decide (n≤0)=false:=decide_eq_false (by omega);obtain⟨lo2,up2,u2,d2,bl2,bu2,e2,g2,m2⟩:=eE (a:=a2) (p:=p) ha.2.2.1 hp;obtain⟨lo3,up3,u3,d3,bl3,bu3,e3,g3,m3⟩:=eE (a:=a3) (p:=p) ha.2.2.2 hp;obtain⟨s2,o2,bs2,f2⟩:=jI bl2 bu3 g2 m3;have HF:Hid (aB s2 lo3 0 0=aB a0 a1 a2 a3/2^n.toNat):=Lib.hid (by
  rw[en,tE,←Nat.div_div_eq_div_mul];have hq':aB a0 a1 a2 a3/18446744073709551616^((2:Int)).toNat=aB a2 a3 0 0:=by
   rw[show 18446744073709551616^((2:Int)).toNat=340282366920938463463374607431768211456 by simp];obtain⟨k0,k1,k2,k3⟩:=ha;unfold aB; omega
  rw[hq'];obtain⟨v2,x2,y2,z2⟩:=e2.out;obtain⟨v3,x3,y3,z3⟩:=e3.out;have f2:=f2.out;refine mS (m:=v2) ?_ y2;have hD:aB s2 lo3 0 0*2^p=1*(s2*2^p)+18446744073709551616*(lo3*2^p):=by
   unfold aB; simp only[Nat.add_mul,Nat.mul_add,Nat.mul_assoc,Nat.mul_zero,Nat.zero_mul,Nat.add_zero]; omega
  rw[hD];have k2:s2*2^p=lo2*2^p+up3*2^p:=by rw[f2,Nat.add_mul]
  unfold aB;omega)
 clear e2 g2 m2 e3 g3 m3 f2;have HEN:=Lib.hid en;clear en
 go_enter func70,ntmps70
 go_wp2_with fail;refine wp_loop_rounds 3 ?_;rw[rounds_succ];go_wp2_with fail
 go_region
 go_wp2_with fail;rw[rounds_succ];go_wp2_with fail;rw[rounds_succ];go_wp2_with fail;refine bodyPost_ret (v:=.agg #[.int .u64 s2,.int .u64 lo3,.int .u64 0,.int .u64 0]) (by simp[results,results70,go_sem]) rfl ?_;refine⟨s2,lo3,0,0,rfl,⟨bs2,bl3,(by omega),(by omega)⟩,HF.out,?_⟩
 repeat (first|exact Below.refl _ _|refine Below.drew ?_|refine Below.alloc ?_ (by first|(simp; done)|(simp; omega)) _)
theorem TZ (a0 a1 a2 a3:Nat) (n:Int) (ha:bQ a0 a1 a2 a3) (h0:0<n) (hq:n/64=3) (w:World) :
  Calls prog 70 #[.agg #[.int .u64 a0,.int .u64 a1,.int .u64 a2,.int .u64 a3],.int .i64 n] w (fH (fun v=>v=aB a0 a1 a2 a3/2^n.toNat) w):=by
 obtain⟨p,hr,hp,en⟩:=LY (by omega) 3 hq (by omega);have b1:n<256:=by omega
 have t0:decide (n≤0)=false:=decide_eq_false (by omega);obtain⟨lo3,up3,u3,d3,bl3,bu3,e3,g3,m3⟩:=eE (a:=a3) (p:=p) ha.2.2.2 hp;have HF:Hid (aB lo3 0 0 0=aB a0 a1 a2 a3/2^n.toNat):=Lib.hid (by
  rw[en,tE,←Nat.div_div_eq_div_mul];have hq':aB a0 a1 a2 a3/18446744073709551616^((3:Int)).toNat=aB a3 0 0 0:=by
   rw[show 18446744073709551616^((3:Int)).toNat=6277101735386680763835789423207666416102355444464034512896 by simp];obtain⟨k0,k1,k2,k3⟩:=ha;unfold aB; omega
  rw[hq'];obtain⟨v3,x3,y3,z3⟩:=e3.out;refine mS (m:=v3) ?_ y3;have hD:aB lo3 0 0 0*2^p=1*(lo3*2^p):=by
   unfold aB; simp only[Nat.add_mul,Nat.mul_add,Nat.mul_assoc,Nat.mul_zero,Nat.zero_mul,Nat.add_zero]; omega
  rw[hD];unfold aB;omega)
 clear e3 g3 m3;have HEN:=Lib.hid en;clear en
 go_enter func70,ntmps70
 go_wp2_with fail;refine wp_loop_rounds 2 ?_;rw[rounds_succ];go_wp2_with fail;rw[rounds_succ];go_wp2_with fail;refine bodyPost_ret (v:=.agg #[.int .u64 lo3,.int .u64 0,.int .u64 0,.int .u64 0]) (by simp[results,results70,go_sem]) rfl ?_;refine⟨lo3,0,0,0,rfl,⟨bl3,(by omega),(by omega),(by omega)⟩,HF.out,?_⟩
 repeat (first|exact Below.refl _ _|refine Below.drew ?_|refine Below.alloc ?_ (by first|(simp; done)|(simp; omega)) _)
theorem DS (a0 a1 a2 a3:Nat) (n:Int) (ha:bQ a0 a1 a2 a3) (h0:n≤0) (w:World) :
  Calls prog 70 #[.agg #[.int .u64 a0,.int .u64 a1,.int .u64 a2,.int .u64 a3],.int .i64 n] w (fH (fun v=>v=aB a0 a1 a2 a3) w):=by
 have t0:decide (n≤0)=true:=decide_eq_true h0
 go_enter func70,ntmps70
 go_wp2_with fail;refine bodyPost_ret (v:=.agg #[.int .u64 a0,.int .u64 a1,.int .u64 a2,.int .u64 a3]) (by simp[results,results70,go_sem]) rfl ?_;refine⟨a0,a1,a2,a3,rfl,ha,rfl,?_⟩
 repeat (first|exact Below.refl _ _|refine Below.drew ?_|refine Below.alloc ?_ (by first|(simp; done)|(simp; omega)) _)
theorem JQ (a0 a1 a2 a3:Nat) (n:Int) (ha:bQ a0 a1 a2 a3) (h0:256≤n) (h1:n≤9223372036854775807) (w:World) :
  Calls prog 70 #[.agg #[.int .u64 a0,.int .u64 a1,.int .u64 a2,.int .u64 a3],.int .i64 n] w (fH (fun v=>v=0) w):=by
 have t0:decide (n≤0)=false:=decide_eq_false (by omega);obtain⟨q,hq,bq,bq'⟩:∃q:Nat,n/64=(q:Int)∧4≤q∧q≤9223372036854775807:=⟨(n/64).toNat,by omega,by omega,by omega⟩
 have t1:decide ((0:Int)<4-(q:Int))=false:=decide_eq_false (by omega)
 go_enter func70,ntmps70
 go_wp2_with fail;refine wp_loop_rounds 1 ?_;rw[rounds_succ];go_wp2_with fail;refine bodyPost_ret (v:=.agg #[.int .u64 0,.int .u64 0,.int .u64 0,.int .u64 0]) (by simp[results,results70,go_sem]) rfl ?_;refine⟨0,0,0,0,rfl,⟨by omega,by omega,by omega,by omega⟩,rfl,?_⟩
 repeat (first|exact Below.refl _ _|refine Below.drew ?_|refine Below.alloc ?_ (by first|(simp; done)|(simp; omega)) _)
theorem fX (a0 a1 a2 a3:Nat) (n:Int) (ha:bQ a0 a1 a2 a3) (h0:0≤n) (h1:n≤9223372036854775807) (w:World) :
  Calls prog 70 #[.agg #[.int .u64 a0,.int .u64 a1,.int .u64 a2,.int .u64 a3],.int .i64 n] w (fH (fun v=>v=aB a0 a1 a2 a3/2^n.toNat) w):=by
 by_cases hz:n≤0
 ·refine (DS a0 a1 a2 a3 n ha hz w).mono ?_
  rintro e w' ⟨s0,s1,s2,s3,he,hs,hv,hb⟩
  refine⟨s0,s1,s2,s3,he,hs,?_,hb⟩;have:=dB ha;rw[hv,show n.toNat=0 by omega,Nat.pow_zero]; omega
 ·by_cases hf:256≤n
  ·refine (JQ a0 a1 a2 a3 n ha hf h1 w).mono ?_
   rintro e w' ⟨s0,s1,s2,s3,he,hs,hv,hb⟩
   refine⟨s0,s1,s2,s3,he,hs,?_,hb⟩;rw[hv];have hp:=Nat.pow_le_pow_right (show 0<2 by omega) (show 256≤n.toNat by omega);have:=dB ha;exact (Nat.div_eq_of_lt (Nat.lt_of_lt_of_le this hp)).symm
  ·have hq:n/64=0∨n/64=1∨n/64=2∨n/64=3:=by omega
   rcases hq with h|h|h|h
   ·exact UC a0 a1 a2 a3 n ha (by omega) h w
   ·exact UB a0 a1 a2 a3 n ha (by omega) h w
   ·exact UA a0 a1 a2 a3 n ha (by omega) h w
   ·exact TZ a0 a1 a2 a3 n ha (by omega) h w
section
variable {P:Program} {ops:Array Oper} {Q:Exit→Act→World→Prop} {md:Region.Mode} {S:World→Prop} {L:Nat}
def dE (P:Program) (md:Region.Mode) (ops:Array Oper) (Q:Exit→Act→World→Prop) (S:World→Prop) (L:Nat):Nat→Array Bool→Act→World→Prop
 | 0,got,a,w=>Region.ready md ops got=[]∧Q .normal a w
 | m+1,got,a,w =>
  (Region.ready md ops got=[]→Q .normal a w) ∧
  ∀i∈Region.ready md ops got,wpOp P ops Q i (fun b u=>(i=L∨S u)∧dE P md ops Q S L m (got.setIfInBounds i true) b u) a w
theorem mC:∀(m:Nat) (got:Array Bool) (a:Act) (w:World),dE P md ops Q S L m got a w→wpAny P md ops Q m got a w
 | 0,_,_,_,h=>h
 | m+1,_,_,_,h=>⟨h.1,fun i hi=>wpOp_mono (fun b u k=>mC m _ b u k.2) (h.2 i hi)⟩
def CY (md:Region.Mode) (ops:Array Oper) (L i:Nat):Bool :=
 match ops[L]? with
 | some o=>o.after.any fun e=>Region.binds md e&&e.on==i
 | none=>false
theorem vF {i:Nat} {oi:Oper} {v:Value} (hi:ops[i]?=some oi) (hsel:∀(j:Nat) (o:Oper) cs b,ops[j]?=some o→o.op ≠ .select cs b)
  (hL:CY md ops L i=true) (hQ:∀c a w,Q (.panic c) (a.put oi.dst v) w→Q (.panic c) a w) :
  ∀(m:Nat) (got:Array Bool) (a:Act) (w:World),
   (∀j oj,ops[j]?=some oj→j≠i→got.getD j true=false→(∀e∈oj.after,Region.binds md e=true→e.on≠i)→oi.apart ops oj=true) →
   i∈Region.ready md ops got→YieldsIf P ops S oi v a→S w →
   dE P md ops Q S L m (got.setIfInBounds i true) (a.put oi.dst v) w→dE P md ops Q S L (m+1) got a w:=by
 intro m
 induction m with
 | zero =>
  intro got a w _ hr hy hS H;refine⟨fun h=>(by rw[h]at hr; cases hr),fun j hj => ?_⟩
  by_cases hji:j=i
  ·subst hji; exact hy.wpOp hi hS ⟨.inr hS,H⟩
  ·have:=ready_mono hj hji;rw[H.1]at this;cases this
 | succ m ih =>
  intro got a w hfree hr hy hS H;refine⟨fun h=>(by rw[h]at hr; cases hr),fun j hj => ?_⟩
  by_cases hji:j=i
  ·subst hji; exact hy.wpOp hi hS ⟨.inr hS,H⟩
  ·obtain⟨hun,oj,hoj,hall⟩:=mem_ready.1 hj;have hno:∀e∈oj.after,Region.binds md e=true→e.on≠i:=fun e he hb heq=>by
    have h1:=hall e he hb;have h0:=(mem_ready.1 hr).1;rw[heq]at h1
    rcases Nat.lt_or_ge i got.size with h'|h'
    ·simp[h']at h0 h1; rw[h0]at h1; cases h1
    ·simp[Array.getElem?_eq_none h']at h1
   have hjL:j≠L:=fun e=>by
    subst e;unfold CY at hL;rw[hoj]at hL;obtain⟨x,hx,hx2⟩:=Array.any_eq_true'.1 hL;simp only[Bool.and_eq_true,beq_iff_eq]at hx2;exact hno x hx hx2.1 hx2.2
   have h2:=wpOp_putIf hoj (hfree j oj hoj hji hun hno) (fun cs b=>hsel i oi cs b hi) (fun cs b=>hsel j oj cs b hoj) hQ hy (H.2 j (ready_mono hj hji));have hfree':∀k ok,ops[k]?=some ok→k≠i→(got.setIfInBounds j true).getD k true=false →
     (∀e∈ok.after,Region.binds md e=true→e.on≠i)→oi.apart ops ok=true:=fun k ok hk hki hu hn=>by
    refine hfree k ok hk hki ?_ hn
    by_cases hjk:j=k
    ·subst hjk; exact hun
    ·rw[getD_set_ne true hjk]at hu; exact hu
   refine wpOp_mono (fun b u h3=>⟨h3.2.1,ih (got.setIfInBounds j true) b u hfree' (ready_mono hr (Ne.symm hji)) h3.1 (h3.2.1.resolve_left hjL) ?_⟩) h2;rw[Array.setIfInBounds_comm _ _ hji];exact h3.2.2
theorem aH {i:Nat} {oi:Oper} {v:Value} {m:Nat} {got:Array Bool} {a:Act} {w:World} (hi:ops[i]?=some oi)
  (hs:Region.noSelect ops=true) (hf:Region.free md ops got i=true) (hr:(Region.ready md ops got).contains i=true) (hL:CY md ops L i=true)
  (hQ:∀c a w,Q (.panic c) (a.put oi.dst v) w→Q (.panic c) a w) (hS:S w) (hy:YieldsIf P ops S oi v a)
  (h:dE P md ops Q S L m (got.setIfInBounds i true) (a.put oi.dst v) w):dE P md ops Q S L (m+1) got a w :=
 vF hi (Region.noSelect_spec hs) hL hQ m got a w (Region.free_spec hi hf) (by simpa using hr) hy hS h
theorem aG {i:Nat} {o:Oper} {m:Nat} {got:Array Bool} {a:Act} {w:World} (hr:Region.ready md ops got=[i]) (ho:ops[i]?=some o)
  (h:∀K:Act→World→Prop,Shut (∀b u,(i=L∨S u)→((i=L∨S u)→dE P md ops Q S L m (got.setIfInBounds i true) b u)→K b u)→if Region.wanted o (yielded ops a.tmps)=true then Oper.wp P o a w K Q else K (a.put o.dst undef) w) :
  dE P md ops Q S L (m+1) got a w :=
 ⟨fun h0=>(by rw[hr]at h0; cases h0),fun j hj=>by
  rw[hr]at hj;obtain rfl:j=i:=by simpa using hj
  exact wpOp_step ho (fun K hK=>h K (fun b u hS hW=>hK b u ⟨hS,hW hS⟩))⟩
theorem bK {got:Array Bool} {a:Act} {w:World} (hr:Region.ready md ops got=[]) (h:Q .normal a w):dE P md ops Q S L 0 got a w:=⟨hr,h⟩
theorem eF (S:World→Prop) (L:Nat) {id:Nat} {a:Act} {w:World} (hm:P.follows .mixedOrders=true)
  (h:dE P .any ops Q S L ops.size (Array.replicate ops.size false) a w.drew):(Code.region id ops true).wp P Q a w :=
 wp_region_any hm (mC _ _ _ _ h)
end
theorem dH {P:Program} {ops:Array Oper} {Q:Exit→Act→World→Prop} {md:Region.Mode} {S:World→Prop} {L:Nat} {i j:Nat} {oi oj:Oper} {m:Nat} {got:Array Bool} {a:Act} {w:World} (hr:Region.ready md ops got=[i,j]) (hoi:ops[i]?=some oi) (hoj:ops[j]?=some oj)
  (h1:∀K:Act→World→Prop,Shut (∀b u,(i=L∨S u)→((i=L∨S u)→dE P md ops Q S L m (got.setIfInBounds i true) b u)→K b u)→if Region.wanted oi (yielded ops a.tmps)=true then Oper.wp P oi a w K Q else K (a.put oi.dst undef) w)
  (h2:∀K:Act→World→Prop,Shut (∀b u,(j=L∨S u)→((j=L∨S u)→dE P md ops Q S L m (got.setIfInBounds j true) b u)→K b u)→if Region.wanted oj (yielded ops a.tmps)=true then Oper.wp P oj a w K Q else K (a.put oj.dst undef) w) :
  dE P md ops Q S L (m+1) got a w :=
 ⟨fun h0=>(by rw[hr]at h0; cases h0),fun k hk=>by
  rw[hr]at hk
  rcases List.mem_cons.1 hk with rfl|hk
  ·exact wpOp_step hoi (fun K hK=>h1 K (fun b u hS hW=>hK b u ⟨hS,hW hS⟩))
  ·obtain rfl:k=j:=by simpa using hk
   exact wpOp_step hoj (fun K hK=>h2 K (fun b u hS hW=>hK b u ⟨hS,hW hS⟩))⟩
set_option maxHeartbeats 4000000 in
theorem jT (F:FC) (hF:F.Ok) (g:Nat) (hr:Root F.M g) (A H T C b a0 a1 a2 a3 c0 c1 c2 c3:Nat) (ha:bQ a0 a1 a2 a3) (hc:bQ c0 c1 c2 c3) (hA:aB a0 a1 a2 a3=kp F A) (hC:aB c0 c1 c2 c3=kp F C) (hT:1≤T) (hT2:T≤200)
  (hM:F.M=2^T*(2*H+1)+1) (hC2:C^2^(T-1)%F.M=F.M-1) (hs:A^(F.M/2)%F.M=1) (w:World) (hk:KIs w b F) :
  Calls prog 103 #[.pointer (some ⟨b,0,none⟩),.agg #[.int .u64 a0,.int .u64 a1,.int .u64 a2,.int .u64 a3],.int .i64 T,.agg #[.int .u64 c0,.int .u64 c1,.int .u64 c2,.int .u64 c3]] w fun e w' =>
   ∃r0 r1 r2 r3 R:Nat,e=.returned (.tuple #[.agg #[.int .u64 r0,.int .u64 r1,.int .u64 r2,.int .u64 r3],.bool true])∧bQ r0 r1 r2 r3∧aB r0 r1 r2 r3=kp F R∧R*R%F.M=A%F.M∧Below w.heap.size w w':=by
 have HK:=Lib.hid hk;have HF:=Lib.hid hF;have HA:=Lib.hid hA;have HC:=Lib.hid hC;have HS2:=Lib.hid (nD hM hT);have HI:=Lib.hid (AF hM hT hC2 hs);have hL:=hk.lt;have hL1:b<w.heap.size+1:=by omega
 have hL2:b<w.heap.size+1+1:=by omega
 have k0:=hk.k0; have k1:=hk.k1; have k2:=hk.k2; have k3:=hk.k3;obtain⟨T1,e1,hT1⟩:∃T1:Nat,(T:Int)+1=(T1:Int)∧T1=T+1:=⟨T+1,by omega,rfl⟩
 have HT1:=Lib.hid hT1;have bT1:T1≤201:=by omega
 clear hk hF hA hC hM hC2 hs hT1
 go_enter func103,ntmps103
 go_upto_region 1 with fail
 have M0:=Lib.hid (((Mem.nil w).new w.heap.size a0 a1 a2 a3 99 rfl).new (w.heap.size+1) c0 c1 c2 c3 99 (by simp) |>.new (w.heap.size+1+1) 0 0 0 0 99 (by simp))
 go_cut [10] (fun s10 wx=>∃g p0 p1 p2 p3:Nat,s10=.pointer (some ⟨g,0,none⟩)∧bQ p0 p1 p2 p3∧Hid (aB p0 p1 p2 p3=kp F (A^H))∧w.heap.size+1+1<g∧Hid (Mem w wx [(g,p0,p1,p2,p3),(w.heap.size+1+1,0,0,0,0),(w.heap.size+1,c0,c1,c2,c3),(w.heap.size,a0,a1,a2,a3)]))
 case first =>
  refine eF (fun wx=>Mem w wx [(w.heap.size+1+1,0,0,0,0),(w.heap.size+1,c0,c1,c2,c3),(w.heap.size,a0,a1,a2,a3)]) 11 (by kernel_rfl) ?_;have HS:=M0.out.drewN 1;have HM:=Lib.hid HS;refine aH (i:=0) (v:=.pointer (some ⟨b,0,none⟩)) rfl (by kernel_rfl) (by kernel_rfl) (by kernel_rfl) (by kernel_rfl) (fun _ _ _ h=>h) HS (Or.inl ⟨by kernel_rfl,fun wx hx => ?_⟩) ?_
  ·clear HS hx;go_simp
  simp only[Act.put,List.setIfInBounds_toArray,List.set_cons_zero,List.set_cons_succ];refine aH (i:=1) (v:=.agg #[.int .u64 a0,.int .u64 a1,.int .u64 a2,.int .u64 a3]) rfl (by kernel_rfl) (by kernel_rfl) (by kernel_rfl) (by kernel_rfl) (fun _ _ _ h=>h) HS (Or.inl ⟨by kernel_rfl,fun wx hx => ?_⟩) ?_
  ·have kr:=hx.row (b:=w.heap.size) (c0:=a0) (c1:=a1) (c2:=a2) (c3:=a3) (by simp);have x0:=kr.c0; have x1:=kr.c1; have x2:=kr.c2; have x3:=kr.c3;clear kr k0 k1 k2 k3;clear HS hx;go_simp
  simp only[Act.put,List.setIfInBounds_toArray,List.set_cons_zero,List.set_cons_succ];refine aH (i:=2) (v:=.pointer (some ⟨b,0,none⟩)) rfl (by kernel_rfl) (by kernel_rfl) (by kernel_rfl) (by kernel_rfl) (fun _ _ _ h=>h) HS (Or.inl ⟨by kernel_rfl,fun wx hx => ?_⟩) ?_
  ·clear HS hx;go_simp
  simp only[Act.put,List.setIfInBounds_toArray,List.set_cons_zero,List.set_cons_succ];refine aH (i:=3) (v:=.pointer (some ⟨b,0,none⟩)) rfl (by kernel_rfl) (by kernel_rfl) (by kernel_rfl) (by kernel_rfl) (fun _ _ _ h=>h) HS (Or.inl ⟨by kernel_rfl,fun wx hx => ?_⟩) ?_
  ·clear HS hx;go_simp
  simp only[Act.put,List.setIfInBounds_toArray,List.set_cons_zero,List.set_cons_succ];refine aH (i:=4) (v:=.pointer (some ⟨b,0,none⟩)) rfl (by kernel_rfl) (by kernel_rfl) (by kernel_rfl) (by kernel_rfl) (fun _ _ _ h=>h) HS (Or.inl ⟨by kernel_rfl,fun wx hx => ?_⟩) ?_
  ·clear HS hx;go_simp
  simp only[Act.put,List.setIfInBounds_toArray,List.set_cons_zero,List.set_cons_succ];refine aH (i:=5) (v:=.agg #[.int .u64 F.m0,.int .u64 F.m1,.int .u64 F.m2,.int .u64 F.m3]) rfl (by kernel_rfl) (by kernel_rfl) (by kernel_rfl) (by kernel_rfl) (fun _ _ _ h=>h) HS (Or.inl ⟨by kernel_rfl,fun wx hx => ?_⟩) ?_
  ·have kk:=HK.out.same hx.1;have x0:=kk.k0; have x1:=kk.k1; have x2:=kk.k2; have x3:=kk.k3;clear kk k0 k1 k2 k3;clear HS hx;go_simp
  simp only[Act.put,List.setIfInBounds_toArray,List.set_cons_zero,List.set_cons_succ];refine aH (i:=6) (v:=.int .i64 (T:Nat)) rfl (by kernel_rfl) (by kernel_rfl) (by kernel_rfl) (by kernel_rfl) (fun _ _ _ h=>h) HS (Or.inl ⟨by kernel_rfl,fun wx hx => ?_⟩) ?_
  ·clear HS hx;go_simp
  simp only[Act.put,List.setIfInBounds_toArray,List.set_cons_zero,List.set_cons_succ];refine aH (i:=7) (v:=.int .i64 (T1:Nat)) rfl (by kernel_rfl) (by kernel_rfl) (by kernel_rfl) (by kernel_rfl) (fun _ _ _ h=>h) HS (Or.inl ⟨by kernel_rfl,fun wx hx => ?_⟩) ?_
  ·have hw:IntKind.i64.wrap (T1:Int)=(T1:Int):=IntWalk.i64_in _ (by omega);clear HS hx;go_simp
  simp only[Act.put,List.setIfInBounds_toArray,List.set_cons_zero,List.set_cons_succ];clear HS;refine dH (i:=8) (j:=10) (by kernel_rfl) rfl rfl (fun K hK => ?_) (fun K hK => ?_)
  ·go_simp;refine (fX F.m0 F.m1 F.m2 F.m3 T1 HF.out.okm (by omega) (by have:=HT1.out; omega) _).mono ?_
   rintro e w1 ⟨n0,n1,n2,n3,rfl,hn,hv,hbl⟩
   have HS:=HM.out.on hbl;clear HM;have HM:=Lib.hid HS;have HV:=Lib.hid (show aB n0 n1 n2 n3=H by rw[hv,show (T1:Int).toNat=T+1 by have:=HT1.out; omega]; exact HS2.out);clear hv hbl;refine hK.out _ _ (Or.inr (HS.sub (by simp))) (fun _ => ?_);clear hK K;clear HS;refine dH (i:=9) (j:=10) (by kernel_rfl) rfl rfl (fun K hK => ?_) (fun K hK => ?_)
   ·go_simp;refine (cV F HF.out A b a0 a1 a2 a3 n0 n1 n2 n3 ha hn HA.out _ (HK.out.same HM.out.1)).mono ?_
    rintro e w2 ⟨p0,p1,p2,p3,rfl,hp,hv,hbl⟩
    have HS:=HM.out.on hbl;clear HM;have HM:=Lib.hid HS;have HVp:=Lib.hid (show aB p0 p1 p2 p3=kp F (A^H) by rw[hv,HV.out]);clear hv hbl;refine hK.out _ _ (Or.inr (HS.sub (by simp))) (fun _ => ?_);clear hK K;clear HS;refine aG (i:=10) (by kernel_rfl) rfl (fun K hK => ?_);go_simp;have HS:=HM.out.new w2.heap.size 0 0 0 0 99 (by first|rfl|(simp; done));have hg:w.heap.size+1+1<w2.heap.size:=by first|(simp; done)|exact HM.out.lt (b:=w.heap.size+1+1) (c0:=0) (c1:=0) (c2:=0) (c3:=0) (by simp)
    have HM9:=HM;clear HM;have HM:=Lib.hid HS;refine hK.out _ _ (Or.inr (HS.sub (by simp))) (fun _ => ?_);clear hK K;clear HS;have kr:=HM.out.row (b:=w2.heap.size) (c0:=0) (c1:=0) (c2:=0) (c3:=0) (by simp);have lr:=HM.out.lt (b:=w2.heap.size) (c0:=0) (c1:=0) (c2:=0) (c3:=0) (by simp);have x0:=kr.c0; have x1:=kr.c1; have x2:=kr.c2; have x3:=kr.c3; have xf:=kr.fr;clear kr;refine aG (i:=11) (by kernel_rfl) rfl (fun K hK => ?_);go_simp;refine hK.out _ _ (Or.inl rfl) (fun _ => ?_);clear hK K;refine bK (by kernel_rfl) ?_;go_wp2_with fail
    go_meet
    refine⟨w2.heap.size,p0,p1,p2,p3,rfl,hp,HVp,hg,Lib.hid ?_⟩;exact HM9.out.new w2.heap.size p0 p1 p2 p3 99 rfl
   ·go_simp;have HS:=HM.out.new w1.heap.size 0 0 0 0 99 (by first|rfl|(simp; done));have hg:w.heap.size+1+1<w1.heap.size:=by first|(simp; done)|exact HM.out.lt (b:=w.heap.size+1+1) (c0:=0) (c1:=0) (c2:=0) (c3:=0) (by simp)
    have HM9:=HM;clear HM;have HM:=Lib.hid HS;refine hK.out _ _ (Or.inr (HS.sub (by simp))) (fun _ => ?_);clear hK K;clear HS;refine aG (i:=9) (by kernel_rfl) rfl (fun K hK => ?_);go_simp;refine (cV F HF.out A b a0 a1 a2 a3 n0 n1 n2 n3 ha hn HA.out _ (HK.out.same HM.out.1)).mono ?_
    rintro e w2 ⟨p0,p1,p2,p3,rfl,hp,hv,hbl⟩
    have HS:=HM.out.on hbl;clear HM;have HM:=Lib.hid HS;have HVp:=Lib.hid (show aB p0 p1 p2 p3=kp F (A^H) by rw[hv,HV.out]);clear hv hbl;refine hK.out _ _ (Or.inr (HS.sub (by simp))) (fun _ => ?_);clear hK K;clear HS;have kr:=HM.out.row (b:=w1.heap.size) (c0:=0) (c1:=0) (c2:=0) (c3:=0) (by simp);have lr:=HM.out.lt (b:=w1.heap.size) (c0:=0) (c1:=0) (c2:=0) (c3:=0) (by simp);have x0:=kr.c0; have x1:=kr.c1; have x2:=kr.c2; have x3:=kr.c3; have xf:=kr.fr;clear kr;refine aG (i:=11) (by kernel_rfl) rfl (fun K hK => ?_);go_simp;refine hK.out _ _ (Or.inl rfl) (fun _ => ?_);clear hK K;refine bK (by kernel_rfl) ?_;go_wp2_with fail
    go_meet
    refine⟨w1.heap.size,p0,p1,p2,p3,rfl,hp,HVp,hg,Lib.hid ?_⟩;exact HM.out.put p0 p1 p2 p3 (by omega) (by intro r hr; simp at hr; rcases hr with rfl|rfl|rfl<;>simp<;>omega)
  ·go_simp;have HS:=HM.out.new (w.heap.size+1+1+1) 0 0 0 0 99 (by first|rfl|(simp; done));have hg:w.heap.size+1+1<(w.heap.size+1+1+1):=by first|(simp; done)|exact HM.out.lt (b:=w.heap.size+1+1) (c0:=0) (c1:=0) (c2:=0) (c3:=0) (by simp)
   have HM9:=HM;clear HM;have HM:=Lib.hid HS;refine hK.out _ _ (Or.inr (HS.sub (by simp))) (fun _ => ?_);clear hK K;clear HS;refine aG (i:=8) (by kernel_rfl) rfl (fun K hK => ?_);go_simp;refine (fX F.m0 F.m1 F.m2 F.m3 T1 HF.out.okm (by omega) (by have:=HT1.out; omega) _).mono ?_
   rintro e w1 ⟨n0,n1,n2,n3,rfl,hn,hv,hbl⟩
   have HS:=HM.out.on hbl;clear HM;have HM:=Lib.hid HS;have HV:=Lib.hid (show aB n0 n1 n2 n3=H by rw[hv,show (T1:Int).toNat=T+1 by have:=HT1.out; omega]; exact HS2.out);clear hv hbl;refine hK.out _ _ (Or.inr (HS.sub (by simp))) (fun _ => ?_);clear hK K;clear HS;refine aG (i:=9) (by kernel_rfl) rfl (fun K hK => ?_);go_simp;refine (cV F HF.out A b a0 a1 a2 a3 n0 n1 n2 n3 ha hn HA.out _ (HK.out.same HM.out.1)).mono ?_
   rintro e w2 ⟨p0,p1,p2,p3,rfl,hp,hv,hbl⟩
   have HS:=HM.out.on hbl;clear HM;have HM:=Lib.hid HS;have HVp:=Lib.hid (show aB p0 p1 p2 p3=kp F (A^H) by rw[hv,HV.out]);clear hv hbl;refine hK.out _ _ (Or.inr (HS.sub (by simp))) (fun _ => ?_);clear hK K;clear HS;have kr:=HM.out.row (b:=(w.heap.size+1+1+1)) (c0:=0) (c1:=0) (c2:=0) (c3:=0) (by simp);have lr:=HM.out.lt (b:=(w.heap.size+1+1+1)) (c0:=0) (c1:=0) (c2:=0) (c3:=0) (by simp);have x0:=kr.c0; have x1:=kr.c1; have x2:=kr.c2; have x3:=kr.c3; have xf:=kr.fr;clear kr;refine aG (i:=11) (by kernel_rfl) rfl (fun K hK => ?_);go_simp;refine hK.out _ _ (Or.inl rfl) (fun _ => ?_);clear hK K;refine bK (by kernel_rfl) ?_;go_wp2_with fail
   go_meet
   refine⟨(w.heap.size+1+1+1),p0,p1,p2,p3,rfl,hp,HVp,hg,Lib.hid ?_⟩;exact HM.out.put p0 p1 p2 p3 (by omega) (by intro r hr; simp at hr; rcases hr with rfl|rfl|rfl<;>simp<;>omega)
 case rest =>
  obtain⟨g',p0,p1,p2,p3,rfl,hp,HVp,hg,HM⟩:=hcut;clear k0 k1 k2 k3 e1 bT1;have kr:=HM.out.row (b:=w.heap.size) (c0:=a0) (c1:=a1) (c2:=a2) (c3:=a3) (by simp);have x0:=kr.c0; have x1:=kr.c1; have x2:=kr.c2; have x3:=kr.c3;clear kr;have xl:=HM.out.lt (b:=w.heap.size) (c0:=a0) (c1:=a1) (c2:=a2) (c3:=a3) (by simp);have kr:=HM.out.row (b:=g') (c0:=p0) (c1:=p1) (c2:=p2) (c3:=p3) (by simp);have y0:=kr.c0; have y1:=kr.c1; have y2:=kr.c2; have y3:=kr.c3;clear kr;have yl:=HM.out.lt (b:=g') (c0:=p0) (c1:=p1) (c2:=p2) (c3:=p3) (by simp);go_wp2_with fail;refine (bC F HF.out b a0 a1 a2 a3 p0 p1 p2 p3 (by assumption) (by assumption) (by rw[HVp.out]; exact iA HF.out _) _ (HK.out.same HM.out.1)).mono ?_
  rintro e w3 ⟨q0,q1,q2,q3,rfl,hq,hv,hbl⟩
  have HVq:=Lib.hid (show aB q0 q1 q2 q3=kp F (A*A^H) by rw[hv,HA.out,HVp.out,cZ HF.out,dL]);have MM:=HM.out.on hbl;clear HM hv hbl x0 x1 x2 x3 xl y0 y1 y2 y3 yl;have HM:=Lib.hid (MM.new w3.heap.size q0 q1 q2 q3 99 rfl);have hg3:w.heap.size+1+1<w3.heap.size:=MM.lt (b:=w.heap.size+1+1) (c0:=0) (c1:=0) (c2:=0) (c3:=0) (by simp);clear MM;have kr:=HM.out.row (b:=w3.heap.size) (c0:=q0) (c1:=q1) (c2:=q2) (c3:=q3) (by simp);have x0:=kr.c0; have x1:=kr.c1; have x2:=kr.c2; have x3:=kr.c3;clear kr;have xl:=HM.out.lt (b:=w3.heap.size) (c0:=q0) (c1:=q1) (c2:=q2) (c3:=q3) (by simp);have kr:=HM.out.row (b:=g') (c0:=p0) (c1:=p1) (c2:=p2) (c3:=p3) (by simp);have y0:=kr.c0; have y1:=kr.c1; have y2:=kr.c2; have y3:=kr.c3;clear kr;have yl:=HM.out.lt (b:=g') (c0:=p0) (c1:=p1) (c2:=p2) (c3:=p3) (by simp);go_wp2_with fail;refine (bC F HF.out b q0 q1 q2 q3 p0 p1 p2 p3 (by assumption) (by assumption) (by rw[HVp.out]; exact iA HF.out _) _ (HK.out.same HM.out.1)).mono ?_
  rintro e w4 ⟨s0,s1,s2,s3,rfl,hs,hv,hbl⟩
  have HVs:=Lib.hid (show aB s0 s1 s2 s3=kp F (A*A^H*A^H) by rw[hv,HVq.out,HVp.out,cZ HF.out,dL]);have MM:=HM.out.on hbl;clear HM hv hbl x0 x1 x2 x3 xl y0 y1 y2 y3 yl;have HM:=Lib.hid (MM.new w4.heap.size s0 s1 s2 s3 99 rfl);have hg4:w3.heap.size<w4.heap.size:=MM.lt (b:=w3.heap.size) (c0:=q0) (c1:=q1) (c2:=q2) (c3:=q3) (by simp);clear MM;have HM':=Lib.hid (HM.out.sub (rs':=[(w3.heap.size,q0,q1,q2,q3),(w4.heap.size,s0,s1,s2,s3),(w.heap.size+1,c0,c1,c2,c3),(w.heap.size+1+1,0,0,0,0)]) (by simp));clear HM;have HM:=HM';clear HM';go_wp2_with fail
  go_loopw [2] (fun t wr=>∃U R S D r0 r1 r2 r3 s0 s1 s2 s3 d0 d1 d2 d3:Nat,t=.int .i64 U∧U≤200∧bQ r0 r1 r2 r3∧bQ s0 s1 s2 s3∧bQ d0 d1 d2 d3∧Hid (aB r0 r1 r2 r3=kp F R)∧Hid (aB s0 s1 s2 s3=kp F S)∧Hid (aB d0 d1 d2 d3=kp F D)∧Hid (ML F.M A U R S D)∧Hid (Mem w wr [(w3.heap.size,r0,r1,r2,r3),(w4.heap.size,s0,s1,s2,s3),(w.heap.size+1,d0,d1,d2,d3),(w.heap.size+1+1,0,0,0,0)])) (fun t _=>(intOf t).toNat)
  case atStart=>exact⟨T,_,_,C,q0,q1,q2,q3,s0,s1,s2,s3,c0,c1,c2,c3,rfl,hT2,hq,hs,hc,HVq,HVs,HC,HI,HM⟩
  case round =>
   clear HVq HVs hq hs HVp hp HC hc HI HA HM ha;obtain⟨U,R,S,D,r0,r1,r2,r3,s0,s1,s2,s3,d0,d1,d2,d3,rfl,hU,hr',hs,hd,HVr,HVs,HVd,HI,HM⟩:=hrel;obtain⟨wo,rfl⟩:∃wo:World,wo=wr:=⟨_,rfl⟩
   have kr:=HM.out.row (b:=w4.heap.size) (c0:=s0) (c1:=s1) (c2:=s2) (c3:=s3) (by simp);have x0:=kr.c0; have x1:=kr.c1; have x2:=kr.c2; have x3:=kr.c3;clear kr;have xl:=HM.out.lt (b:=w4.heap.size) (c0:=s0) (c1:=s1) (c2:=s2) (c3:=s3) (by simp);go_wp2_with fail;refine (hZ F HF.out S b s0 s1 s2 s3 U hs HVs.out (by omega) _ (HK.out.same HM.out.1)).mono ?_
   rintro e w5 ⟨o,rfl,ho,hmin,hone,hbl⟩
   have hoU:o<U:=by
    rcases Nat.lt_or_ge o U with q|q
    ·exact q
    ·exact absurd HI.out.2.2.2 (hmin (U-1) (by have:=HI.out.1; omega))
   have H1:=Lib.hid (hone hoU);have HN:=Lib.hid hmin;have HM5:=Lib.hid (HM.out.on hbl);clear HM hbl hmin hone x0 x1 x2 x3 xl;have HM:=HM5;clear HM5
   rcases Nat.eq_zero_or_pos o with rfl|ho0
   ·have HE:=Lib.hid (show R*R%F.M=A%F.M by
      have h1:=H1.out;rw[Nat.pow_zero,Nat.pow_one]at h1;rw[HI.out.2.1,Nat.mul_mod,h1,Nat.mul_one,Nat.mod_mod])
    have kr:=HM.out.row (b:=w3.heap.size) (c0:=r0) (c1:=r1) (c2:=r2) (c3:=r3) (by simp);have x0:=kr.c0; have x1:=kr.c1; have x2:=kr.c2; have x3:=kr.c3;clear kr;have xl:=HM.out.lt (b:=w3.heap.size) (c0:=r0) (c1:=r1) (c2:=r2) (c3:=r3) (by simp);have kr:=HM.out.row (b:=w.heap.size+1+1) (c0:=0) (c1:=0) (c2:=0) (c3:=0) (by simp);have y0:=kr.c0; have y1:=kr.c1; have y2:=kr.c2; have y3:=kr.c3; have yf:=kr.fr;clear kr;have yl:=HM.out.lt (b:=w.heap.size+1+1) (c0:=0) (c1:=0) (c2:=0) (c3:=0) (by simp);go_wp2_with fail;refine bodyPost_ret (v:=.tuple #[.agg #[.int .u64 r0,.int .u64 r1,.int .u64 r2,.int .u64 r3],.bool true]) (by simp[results,results103,go_sem, *]) rfl ?_;refine⟨_,_,_,_,R,rfl,hr',HVr.out,HE.out,?_⟩;exact aW HM.out.1 (by omega) _ _ _ _
   ·have t0:((o:Int)==0)=false:=by simp; omega
    have t1:((o:Int)==(U:Int))=false:=by simp; omega
    obtain⟨V,e1,hV⟩:∃V:Nat,(U:Int)-(o:Int)=(V:Int)∧V+o=U:=⟨U-o,by omega,by omega⟩
    obtain⟨N,e2,hN⟩:∃N:Nat,(V:Int)-1=(N:Int)∧N+1=V:=⟨V-1,by omega,by omega⟩
    have HNN:=Lib.hid (show N=U-o-1 by omega);have bV:V≤200:=by omega
    have bN:N≤200:=by omega
    have HI2:=Lib.hid (DC hr HF.out.gt HI.out ho0 hoU H1.out (HN.out (o-1) (by omega)));rw[←show N=U-o-1 from HNN.out]at HI2;clear H1 HN HI hV hN HNN;go_wp2_with fail
    go_loopw [47] (fun i wr=>∃k f0 f1 f2 f3:Nat,k≤N∧i=.int .i64 k∧bQ f0 f1 f2 f3∧Hid (aB f0 f1 f2 f3=kp F (D^2^k))∧Hid (Mem w wr [(w3.heap.size,r0,r1,r2,r3),(w4.heap.size,s0,s1,s2,s3),(w.heap.size+1,f0,f1,f2,f3),(w.heap.size+1+1,0,0,0,0)])) (fun i _=>N-(intOf i).toNat)
    case atStart=>exact⟨0,d0,d1,d2,d3,Nat.zero_le _,rfl,hd,Lib.hid (by rw[HVd.out,Nat.pow_zero,Nat.pow_one]),HM⟩
    case round =>
     clear HM HVd hd;obtain⟨k,f0,f1,f2,f3,hk,rfl,hf,HVf,HM⟩:=hrel
     by_cases hlt:k<N
     ·have kr:=HM.out.row (b:=w.heap.size+1) (c0:=f0) (c1:=f1) (c2:=f2) (c3:=f3) (by simp);have x0:=kr.c0; have x1:=kr.c1; have x2:=kr.c2; have x3:=kr.c3;clear kr;have xl:=HM.out.lt (b:=w.heap.size+1) (c0:=f0) (c1:=f1) (c2:=f2) (c3:=f3) (by simp);go_wp2_with fail;refine (bC F HF.out b f0 f1 f2 f3 f0 f1 f2 f3 (by assumption) (by assumption) (by rw[HVf.out]; exact iA HF.out _) _ (HK.out.same HM.out.1)).mono ?_
      rintro e w6 ⟨j0,j1,j2,j3,rfl,hj,hv,hbl⟩
      have HVj:=Lib.hid (show aB j0 j1 j2 j3=kp F (D^2^(k+1)) by rw[hv,HVf.out,cZ HF.out,dL,←eS]);have MM:=HM.out.on hbl;clear HM hv hbl x0 x1 x2 x3 xl;have kr:=MM.row (b:=w.heap.size+1) (c0:=f0) (c1:=f1) (c2:=f2) (c3:=f3) (by simp);have x0:=kr.c0; have x1:=kr.c1; have x2:=kr.c2; have x3:=kr.c3; have xf:=kr.fr;clear kr;have xl:=MM.lt (b:=w.heap.size+1) (c0:=f0) (c1:=f1) (c2:=f2) (c3:=f3) (by simp);have HM:=Lib.hid ((MM.sub (rs':=[(w.heap.size+1,f0,f1,f2,f3),(w3.heap.size,r0,r1,r2,r3),(w4.heap.size,s0,s1,s2,s3),(w.heap.size+1+1,0,0,0,0)]) (by simp)).put j0 j1 j2 j3 (by omega) (by intro r hr; simp at hr; rcases hr with rfl|rfl|rfl<;>simp<;>omega));clear MM;have HM':=Lib.hid (HM.out.sub (rs':=[(w3.heap.size,r0,r1,r2,r3),(w4.heap.size,s0,s1,s2,s3),(w.heap.size+1,j0,j1,j2,j3),(w.heap.size+1+1,0,0,0,0)]) (by simp));clear HM;have HM:=HM';clear HM';go_wp2_with fail
      go_roundw
      case rel=>exact⟨k+1,j0,j1,j2,j3,by omega,by go_num,hj,HVj,HM⟩
      case measure=>simp[intOf]; omega
     ·obtain rfl:k=N:=by omega
      have kr:=HM.out.row (b:=w3.heap.size) (c0:=r0) (c1:=r1) (c2:=r2) (c3:=r3) (by simp);have x0:=kr.c0; have x1:=kr.c1; have x2:=kr.c2; have x3:=kr.c3;clear kr;have xl:=HM.out.lt (b:=w3.heap.size) (c0:=r0) (c1:=r1) (c2:=r2) (c3:=r3) (by simp);have kr:=HM.out.row (b:=w.heap.size+1) (c0:=f0) (c1:=f1) (c2:=f2) (c3:=f3) (by simp);have y0:=kr.c0; have y1:=kr.c1; have y2:=kr.c2; have y3:=kr.c3;clear kr;have yl:=HM.out.lt (b:=w.heap.size+1) (c0:=f0) (c1:=f1) (c2:=f2) (c3:=f3) (by simp);go_wp2_with fail;refine (bC F HF.out b r0 r1 r2 r3 f0 f1 f2 f3 (by assumption) (by assumption) (by rw[HVf.out]; exact iA HF.out _) _ (HK.out.same HM.out.1)).mono ?_
      rintro e w7 ⟨q0,q1,q2,q3,rfl,hq,hv,hbl⟩
      have HVq:=Lib.hid (show aB q0 q1 q2 q3=kp F (R*D^2^k) by rw[hv,HVr.out,HVf.out,cZ HF.out,dL]);have MM:=HM.out.on hbl;clear HM hv hbl x0 x1 x2 x3 xl y0 y1 y2 y3 yl;have kr:=MM.row (b:=w3.heap.size) (c0:=r0) (c1:=r1) (c2:=r2) (c3:=r3) (by simp);have x0:=kr.c0; have x1:=kr.c1; have x2:=kr.c2; have x3:=kr.c3; have xf:=kr.fr;clear kr;have xl:=MM.lt (b:=w3.heap.size) (c0:=r0) (c1:=r1) (c2:=r2) (c3:=r3) (by simp);have HM:=Lib.hid ((MM.sub (rs':=[(w3.heap.size,r0,r1,r2,r3),(w4.heap.size,s0,s1,s2,s3),(w.heap.size+1,f0,f1,f2,f3),(w.heap.size+1+1,0,0,0,0)]) (by simp)).put q0 q1 q2 q3 (by omega) (by intro r hr; simp at hr; rcases hr with rfl|rfl|rfl<;>simp<;>omega));clear MM;have HM':=Lib.hid (HM.out.sub (rs':=[(w3.heap.size,q0,q1,q2,q3),(w4.heap.size,s0,s1,s2,s3),(w.heap.size+1,f0,f1,f2,f3),(w.heap.size+1+1,0,0,0,0)]) (by simp));clear HM;have HM:=HM';clear HM';unfold set4 at HM;have kr:=HM.out.row (b:=w.heap.size+1) (c0:=f0) (c1:=f1) (c2:=f2) (c3:=f3) (by simp);have x0:=kr.c0; have x1:=kr.c1; have x2:=kr.c2; have x3:=kr.c3;clear kr;have xl:=HM.out.lt (b:=w.heap.size+1) (c0:=f0) (c1:=f1) (c2:=f2) (c3:=f3) (by simp);go_wp2_with fail;refine (bC F HF.out b f0 f1 f2 f3 f0 f1 f2 f3 (by assumption) (by assumption) (by rw[HVf.out]; exact iA HF.out _) _ (HK.out.same HM.out.1)).mono ?_
      rintro e w8 ⟨i0,i1,i2,i3,rfl,hi,hv,hbl⟩
      have HVi:=Lib.hid (show aB i0 i1 i2 i3=kp F (D^2^k*D^2^k) by rw[hv,HVf.out,cZ HF.out,dL]);have MM:=HM.out.on hbl;clear HM hv hbl x0 x1 x2 x3 xl;have kr:=MM.row (b:=w.heap.size+1) (c0:=f0) (c1:=f1) (c2:=f2) (c3:=f3) (by simp);have x0:=kr.c0; have x1:=kr.c1; have x2:=kr.c2; have x3:=kr.c3; have xf:=kr.fr;clear kr;have xl:=MM.lt (b:=w.heap.size+1) (c0:=f0) (c1:=f1) (c2:=f2) (c3:=f3) (by simp);have HM:=Lib.hid ((MM.sub (rs':=[(w.heap.size+1,f0,f1,f2,f3),(w3.heap.size,q0,q1,q2,q3),(w4.heap.size,s0,s1,s2,s3),(w.heap.size+1+1,0,0,0,0)]) (by simp)).put i0 i1 i2 i3 (by omega) (by intro r hr; simp at hr; rcases hr with rfl|rfl|rfl<;>simp<;>omega));clear MM;have HM':=Lib.hid (HM.out.sub (rs':=[(w3.heap.size,q0,q1,q2,q3),(w4.heap.size,s0,s1,s2,s3),(w.heap.size+1,i0,i1,i2,i3),(w.heap.size+1+1,0,0,0,0)]) (by simp));clear HM;have HM:=HM';clear HM';unfold set4 at HM;have kr:=HM.out.row (b:=w4.heap.size) (c0:=s0) (c1:=s1) (c2:=s2) (c3:=s3) (by simp);have x0:=kr.c0; have x1:=kr.c1; have x2:=kr.c2; have x3:=kr.c3;clear kr;have xl:=HM.out.lt (b:=w4.heap.size) (c0:=s0) (c1:=s1) (c2:=s2) (c3:=s3) (by simp);have kr:=HM.out.row (b:=w.heap.size+1) (c0:=i0) (c1:=i1) (c2:=i2) (c3:=i3) (by simp);have y0:=kr.c0; have y1:=kr.c1; have y2:=kr.c2; have y3:=kr.c3;clear kr;have yl:=HM.out.lt (b:=w.heap.size+1) (c0:=i0) (c1:=i1) (c2:=i2) (c3:=i3) (by simp);go_wp2_with fail;refine (bC F HF.out b s0 s1 s2 s3 i0 i1 i2 i3 (by assumption) (by assumption) (by rw[HVi.out]; exact iA HF.out _) _ (HK.out.same HM.out.1)).mono ?_
      rintro e w9 ⟨l0,l1,l2,l3,rfl,hl,hv,hbl⟩
      have HVl:=Lib.hid (show aB l0 l1 l2 l3=kp F (S*(D^2^k*D^2^k)) by rw[hv,HVs.out,HVi.out,cZ HF.out,dL]);have MM:=HM.out.on hbl;clear HM hv hbl x0 x1 x2 x3 xl y0 y1 y2 y3 yl;have kr:=MM.row (b:=w4.heap.size) (c0:=s0) (c1:=s1) (c2:=s2) (c3:=s3) (by simp);have x0:=kr.c0; have x1:=kr.c1; have x2:=kr.c2; have x3:=kr.c3; have xf:=kr.fr;clear kr;have xl:=MM.lt (b:=w4.heap.size) (c0:=s0) (c1:=s1) (c2:=s2) (c3:=s3) (by simp);have HM:=Lib.hid ((MM.sub (rs':=[(w4.heap.size,s0,s1,s2,s3),(w3.heap.size,q0,q1,q2,q3),(w.heap.size+1,i0,i1,i2,i3),(w.heap.size+1+1,0,0,0,0)]) (by simp)).put l0 l1 l2 l3 (by omega) (by intro r hr; simp at hr; rcases hr with rfl|rfl|rfl<;>simp<;>omega));clear MM;have HM':=Lib.hid (HM.out.sub (rs':=[(w3.heap.size,q0,q1,q2,q3),(w4.heap.size,l0,l1,l2,l3),(w.heap.size+1,i0,i1,i2,i3),(w.heap.size+1+1,0,0,0,0)]) (by simp));clear HM;have HM:=HM';clear HM';go_wp2_with fail
      go_roundw
      case rel=>exact⟨o,_,_,_,q0,q1,q2,q3,l0,l1,l2,l3,i0,i1,i2,i3,rfl,by omega,hq,hl,hi,HVq,HVl,HVi,HI2,HM⟩
      case measure=>simp[intOf]; omega
set_option maxHeartbeats 4000000 in
theorem mM (F:FC) (hF:F.Ok) (g:Nat) (hr:Root F.M g) (A H T C b a0 a1 a2 a3 c0 c1 c2 c3:Nat) (ha:bQ a0 a1 a2 a3) (hc:bQ c0 c1 c2 c3) (hA:aB a0 a1 a2 a3=kp F A) (hC:aB c0 c1 c2 c3=kp F C) (hT:1≤T) (hT2:T≤200)
  (hM:F.M=2^T*(2*H+1)+1) (hs:A^(F.M/2)%F.M≠1) (w:World) (hk:KIs w b F) :
  Calls prog 103 #[.pointer (some ⟨b,0,none⟩),.agg #[.int .u64 a0,.int .u64 a1,.int .u64 a2,.int .u64 a3],.int .i64 T,.agg #[.int .u64 c0,.int .u64 c1,.int .u64 c2,.int .u64 c3]] w fun e w' =>
   e=.returned (.tuple #[.agg #[.int .u64 0,.int .u64 0,.int .u64 0,.int .u64 0],.bool false])∧Below w.heap.size w w':=by
 have HK:=Lib.hid hk;have HF:=Lib.hid hF;have HA:=Lib.hid hA;have HC:=Lib.hid hC;have HS2:=Lib.hid (nD hM hT);have HI:=Lib.hid (show (A*A^H*A^H)^2^(T-1)%F.M≠1 by
  rw[show A*A^H*A^H=A^(2*H+1) by rw[Nat.mul_assoc,←Nat.pow_add,←Nat.pow_succ']; congr 1; omega,tF hM hT]; exact hs)
 have hL:=hk.lt;have hL1:b<w.heap.size+1:=by omega
 have hL2:b<w.heap.size+1+1:=by omega
 have k0:=hk.k0; have k1:=hk.k1; have k2:=hk.k2; have k3:=hk.k3;obtain⟨T1,e1,hT1⟩:∃T1:Nat,(T:Int)+1=(T1:Int)∧T1=T+1:=⟨T+1,by omega,rfl⟩
 have HT1:=Lib.hid hT1;have bT1:T1≤201:=by omega
 clear hk hF hA hC hM hs hT1
 go_enter func103,ntmps103
 go_upto_region 1 with fail
 have M0:=Lib.hid (((Mem.nil w).new w.heap.size a0 a1 a2 a3 99 rfl).new (w.heap.size+1) c0 c1 c2 c3 99 (by simp) |>.new (w.heap.size+1+1) 0 0 0 0 99 (by simp))
 go_cut [10] (fun s10 wx=>∃g p0 p1 p2 p3:Nat,s10=.pointer (some ⟨g,0,none⟩)∧bQ p0 p1 p2 p3∧Hid (aB p0 p1 p2 p3=kp F (A^H))∧w.heap.size+1+1<g∧Hid (Mem w wx [(g,p0,p1,p2,p3),(w.heap.size+1+1,0,0,0,0),(w.heap.size+1,c0,c1,c2,c3),(w.heap.size,a0,a1,a2,a3)]))
 case first =>
  refine eF (fun wx=>Mem w wx [(w.heap.size+1+1,0,0,0,0),(w.heap.size+1,c0,c1,c2,c3),(w.heap.size,a0,a1,a2,a3)]) 11 (by kernel_rfl) ?_;have HS:=M0.out.drewN 1;have HM:=Lib.hid HS;refine aH (i:=0) (v:=.pointer (some ⟨b,0,none⟩)) rfl (by kernel_rfl) (by kernel_rfl) (by kernel_rfl) (by kernel_rfl) (fun _ _ _ h=>h) HS (Or.inl ⟨by kernel_rfl,fun wx hx => ?_⟩) ?_
  ·clear HS hx;go_simp
  simp only[Act.put,List.setIfInBounds_toArray,List.set_cons_zero,List.set_cons_succ];refine aH (i:=1) (v:=.agg #[.int .u64 a0,.int .u64 a1,.int .u64 a2,.int .u64 a3]) rfl (by kernel_rfl) (by kernel_rfl) (by kernel_rfl) (by kernel_rfl) (fun _ _ _ h=>h) HS (Or.inl ⟨by kernel_rfl,fun wx hx => ?_⟩) ?_
  ·have kr:=hx.row (b:=w.heap.size) (c0:=a0) (c1:=a1) (c2:=a2) (c3:=a3) (by simp);have x0:=kr.c0; have x1:=kr.c1; have x2:=kr.c2; have x3:=kr.c3;clear kr k0 k1 k2 k3;clear HS hx;go_simp
  simp only[Act.put,List.setIfInBounds_toArray,List.set_cons_zero,List.set_cons_succ];refine aH (i:=2) (v:=.pointer (some ⟨b,0,none⟩)) rfl (by kernel_rfl) (by kernel_rfl) (by kernel_rfl) (by kernel_rfl) (fun _ _ _ h=>h) HS (Or.inl ⟨by kernel_rfl,fun wx hx => ?_⟩) ?_
  ·clear HS hx;go_simp
  simp only[Act.put,List.setIfInBounds_toArray,List.set_cons_zero,List.set_cons_succ];refine aH (i:=3) (v:=.pointer (some ⟨b,0,none⟩)) rfl (by kernel_rfl) (by kernel_rfl) (by kernel_rfl) (by kernel_rfl) (fun _ _ _ h=>h) HS (Or.inl ⟨by kernel_rfl,fun wx hx => ?_⟩) ?_
  ·clear HS hx;go_simp
  simp only[Act.put,List.setIfInBounds_toArray,List.set_cons_zero,List.set_cons_succ];refine aH (i:=4) (v:=.pointer (some ⟨b,0,none⟩)) rfl (by kernel_rfl) (by kernel_rfl) (by kernel_rfl) (by kernel_rfl) (fun _ _ _ h=>h) HS (Or.inl ⟨by kernel_rfl,fun wx hx => ?_⟩) ?_
  ·clear HS hx;go_simp
  simp only[Act.put,List.setIfInBounds_toArray,List.set_cons_zero,List.set_cons_succ];refine aH (i:=5) (v:=.agg #[.int .u64 F.m0,.int .u64 F.m1,.int .u64 F.m2,.int .u64 F.m3]) rfl (by kernel_rfl) (by kernel_rfl) (by kernel_rfl) (by kernel_rfl) (fun _ _ _ h=>h) HS (Or.inl ⟨by kernel_rfl,fun wx hx => ?_⟩) ?_
  ·have kk:=HK.out.same hx.1;have x0:=kk.k0; have x1:=kk.k1; have x2:=kk.k2; have x3:=kk.k3;clear kk k0 k1 k2 k3;clear HS hx;go_simp
  simp only[Act.put,List.setIfInBounds_toArray,List.set_cons_zero,List.set_cons_succ];refine aH (i:=6) (v:=.int .i64 (T:Nat)) rfl (by kernel_rfl) (by kernel_rfl) (by kernel_rfl) (by kernel_rfl) (fun _ _ _ h=>h) HS (Or.inl ⟨by kernel_rfl,fun wx hx => ?_⟩) ?_
  ·clear HS hx;go_simp
  simp only[Act.put,List.setIfInBounds_toArray,List.set_cons_zero,List.set_cons_succ];refine aH (i:=7) (v:=.int .i64 (T1:Nat)) rfl (by kernel_rfl) (by kernel_rfl) (by kernel_rfl) (by kernel_rfl) (fun _ _ _ h=>h) HS (Or.inl ⟨by kernel_rfl,fun wx hx => ?_⟩) ?_
  ·have hw:IntKind.i64.wrap (T1:Int)=(T1:Int):=IntWalk.i64_in _ (by omega);clear HS hx;go_simp
  simp only[Act.put,List.setIfInBounds_toArray,List.set_cons_zero,List.set_cons_succ];clear HS;refine dH (i:=8) (j:=10) (by kernel_rfl) rfl rfl (fun K hK => ?_) (fun K hK => ?_)
  ·go_simp;refine (fX F.m0 F.m1 F.m2 F.m3 T1 HF.out.okm (by omega) (by have:=HT1.out; omega) _).mono ?_
   rintro e w1 ⟨n0,n1,n2,n3,rfl,hn,hv,hbl⟩
   have HS:=HM.out.on hbl;clear HM;have HM:=Lib.hid HS;have HV:=Lib.hid (show aB n0 n1 n2 n3=H by rw[hv,show (T1:Int).toNat=T+1 by have:=HT1.out; omega]; exact HS2.out);clear hv hbl;refine hK.out _ _ (Or.inr (HS.sub (by simp))) (fun _ => ?_);clear hK K;clear HS;refine dH (i:=9) (j:=10) (by kernel_rfl) rfl rfl (fun K hK => ?_) (fun K hK => ?_)
   ·go_simp;refine (cV F HF.out A b a0 a1 a2 a3 n0 n1 n2 n3 ha hn HA.out _ (HK.out.same HM.out.1)).mono ?_
    rintro e w2 ⟨p0,p1,p2,p3,rfl,hp,hv,hbl⟩
    have HS:=HM.out.on hbl;clear HM;have HM:=Lib.hid HS;have HVp:=Lib.hid (show aB p0 p1 p2 p3=kp F (A^H) by rw[hv,HV.out]);clear hv hbl;refine hK.out _ _ (Or.inr (HS.sub (by simp))) (fun _ => ?_);clear hK K;clear HS;refine aG (i:=10) (by kernel_rfl) rfl (fun K hK => ?_);go_simp;have HS:=HM.out.new w2.heap.size 0 0 0 0 99 (by first|rfl|(simp; done));have hg:w.heap.size+1+1<w2.heap.size:=by first|(simp; done)|exact HM.out.lt (b:=w.heap.size+1+1) (c0:=0) (c1:=0) (c2:=0) (c3:=0) (by simp)
    have HM9:=HM;clear HM;have HM:=Lib.hid HS;refine hK.out _ _ (Or.inr (HS.sub (by simp))) (fun _ => ?_);clear hK K;clear HS;have kr:=HM.out.row (b:=w2.heap.size) (c0:=0) (c1:=0) (c2:=0) (c3:=0) (by simp);have lr:=HM.out.lt (b:=w2.heap.size) (c0:=0) (c1:=0) (c2:=0) (c3:=0) (by simp);have x0:=kr.c0; have x1:=kr.c1; have x2:=kr.c2; have x3:=kr.c3; have xf:=kr.fr;clear kr;refine aG (i:=11) (by kernel_rfl) rfl (fun K hK => ?_);go_simp;refine hK.out _ _ (Or.inl rfl) (fun _ => ?_);clear hK K;refine bK (by kernel_rfl) ?_;go_wp2_with fail
    go_meet
    refine⟨w2.heap.size,p0,p1,p2,p3,rfl,hp,HVp,hg,Lib.hid ?_⟩;exact HM9.out.new w2.heap.size p0 p1 p2 p3 99 rfl
   ·go_simp;have HS:=HM.out.new w1.heap.size 0 0 0 0 99 (by first|rfl|(simp; done));have hg:w.heap.size+1+1<w1.heap.size:=by first|(simp; done)|exact HM.out.lt (b:=w.heap.size+1+1) (c0:=0) (c1:=0) (c2:=0) (c3:=0) (by simp)
    have HM9:=HM;clear HM;have HM:=Lib.hid HS;refine hK.out _ _ (Or.inr (HS.sub (by simp))) (fun _ => ?_);clear hK K;clear HS;refine aG (i:=9) (by kernel_rfl) rfl (fun K hK => ?_);go_simp;refine (cV F HF.out A b a0 a1 a2 a3 n0 n1 n2 n3 ha hn HA.out _ (HK.out.same HM.out.1)).mono ?_
    rintro e w2 ⟨p0,p1,p2,p3,rfl,hp,hv,hbl⟩
    have HS:=HM.out.on hbl;clear HM;have HM:=Lib.hid HS;have HVp:=Lib.hid (show aB p0 p1 p2 p3=kp F (A^H) by rw[hv,HV.out]);clear hv hbl;refine hK.out _ _ (Or.inr (HS.sub (by simp))) (fun _ => ?_);clear hK K;clear HS;have kr:=HM.out.row (b:=w1.heap.size) (c0:=0) (c1:=0) (c2:=0) (c3:=0) (by simp);have lr:=HM.out.lt (b:=w1.heap.size) (c0:=0) (c1:=0) (c2:=0) (c3:=0) (by simp);have x0:=kr.c0; have x1:=kr.c1; have x2:=kr.c2; have x3:=kr.c3; have xf:=kr.fr;clear kr;refine aG (i:=11) (by kernel_rfl) rfl (fun K hK => ?_);go_simp;refine hK.out _ _ (Or.inl rfl) (fun _ => ?_);clear hK K;refine bK (by kernel_rfl) ?_;go_wp2_with fail
    go_meet
    refine⟨w1.heap.size,p0,p1,p2,p3,rfl,hp,HVp,hg,Lib.hid ?_⟩;exact HM.out.put p0 p1 p2 p3 (by omega) (by intro r hr; simp at hr; rcases hr with rfl|rfl|rfl<;>simp<;>omega)
  ·go_simp;have HS:=HM.out.new (w.heap.size+1+1+1) 0 0 0 0 99 (by first|rfl|(simp; done));have hg:w.heap.size+1+1<(w.heap.size+1+1+1):=by first|(simp; done)|exact HM.out.lt (b:=w.heap.size+1+1) (c0:=0) (c1:=0) (c2:=0) (c3:=0) (by simp)
   have HM9:=HM;clear HM;have HM:=Lib.hid HS;refine hK.out _ _ (Or.inr (HS.sub (by simp))) (fun _ => ?_);clear hK K;clear HS;refine aG (i:=8) (by kernel_rfl) rfl (fun K hK => ?_);go_simp;refine (fX F.m0 F.m1 F.m2 F.m3 T1 HF.out.okm (by omega) (by have:=HT1.out; omega) _).mono ?_
   rintro e w1 ⟨n0,n1,n2,n3,rfl,hn,hv,hbl⟩
   have HS:=HM.out.on hbl;clear HM;have HM:=Lib.hid HS;have HV:=Lib.hid (show aB n0 n1 n2 n3=H by rw[hv,show (T1:Int).toNat=T+1 by have:=HT1.out; omega]; exact HS2.out);clear hv hbl;refine hK.out _ _ (Or.inr (HS.sub (by simp))) (fun _ => ?_);clear hK K;clear HS;refine aG (i:=9) (by kernel_rfl) rfl (fun K hK => ?_);go_simp;refine (cV F HF.out A b a0 a1 a2 a3 n0 n1 n2 n3 ha hn HA.out _ (HK.out.same HM.out.1)).mono ?_
   rintro e w2 ⟨p0,p1,p2,p3,rfl,hp,hv,hbl⟩
   have HS:=HM.out.on hbl;clear HM;have HM:=Lib.hid HS;have HVp:=Lib.hid (show aB p0 p1 p2 p3=kp F (A^H) by rw[hv,HV.out]);clear hv hbl;refine hK.out _ _ (Or.inr (HS.sub (by simp))) (fun _ => ?_);clear hK K;clear HS;have kr:=HM.out.row (b:=(w.heap.size+1+1+1)) (c0:=0) (c1:=0) (c2:=0) (c3:=0) (by simp);have lr:=HM.out.lt (b:=(w.heap.size+1+1+1)) (c0:=0) (c1:=0) (c2:=0) (c3:=0) (by simp);have x0:=kr.c0; have x1:=kr.c1; have x2:=kr.c2; have x3:=kr.c3; have xf:=kr.fr;clear kr;refine aG (i:=11) (by kernel_rfl) rfl (fun K hK => ?_);go_simp;refine hK.out _ _ (Or.inl rfl) (fun _ => ?_);clear hK K;refine bK (by kernel_rfl) ?_;go_wp2_with fail
   go_meet
   refine⟨(w.heap.size+1+1+1),p0,p1,p2,p3,rfl,hp,HVp,hg,Lib.hid ?_⟩;exact HM.out.put p0 p1 p2 p3 (by omega) (by intro r hr; simp at hr; rcases hr with rfl|rfl|rfl<;>simp<;>omega)
 case rest =>
  obtain⟨g',p0,p1,p2,p3,rfl,hp,HVp,hg,HM⟩:=hcut;clear k0 k1 k2 k3 e1 bT1;have kr:=HM.out.row (b:=w.heap.size) (c0:=a0) (c1:=a1) (c2:=a2) (c3:=a3) (by simp);have x0:=kr.c0; have x1:=kr.c1; have x2:=kr.c2; have x3:=kr.c3;clear kr;have xl:=HM.out.lt (b:=w.heap.size) (c0:=a0) (c1:=a1) (c2:=a2) (c3:=a3) (by simp);have kr:=HM.out.row (b:=g') (c0:=p0) (c1:=p1) (c2:=p2) (c3:=p3) (by simp);have y0:=kr.c0; have y1:=kr.c1; have y2:=kr.c2; have y3:=kr.c3;clear kr;have yl:=HM.out.lt (b:=g') (c0:=p0) (c1:=p1) (c2:=p2) (c3:=p3) (by simp);go_wp2_with fail;refine (bC F HF.out b a0 a1 a2 a3 p0 p1 p2 p3 (by assumption) (by assumption) (by rw[HVp.out]; exact iA HF.out _) _ (HK.out.same HM.out.1)).mono ?_
  rintro e w3 ⟨q0,q1,q2,q3,rfl,hq,hv,hbl⟩
  have HVq:=Lib.hid (show aB q0 q1 q2 q3=kp F (A*A^H) by rw[hv,HA.out,HVp.out,cZ HF.out,dL]);have MM:=HM.out.on hbl;clear HM hv hbl x0 x1 x2 x3 xl y0 y1 y2 y3 yl;have HM:=Lib.hid (MM.new w3.heap.size q0 q1 q2 q3 99 rfl);have hg3:w.heap.size+1+1<w3.heap.size:=MM.lt (b:=w.heap.size+1+1) (c0:=0) (c1:=0) (c2:=0) (c3:=0) (by simp);clear MM;have kr:=HM.out.row (b:=w3.heap.size) (c0:=q0) (c1:=q1) (c2:=q2) (c3:=q3) (by simp);have x0:=kr.c0; have x1:=kr.c1; have x2:=kr.c2; have x3:=kr.c3;clear kr;have xl:=HM.out.lt (b:=w3.heap.size) (c0:=q0) (c1:=q1) (c2:=q2) (c3:=q3) (by simp);have kr:=HM.out.row (b:=g') (c0:=p0) (c1:=p1) (c2:=p2) (c3:=p3) (by simp);have y0:=kr.c0; have y1:=kr.c1; have y2:=kr.c2; have y3:=kr.c3;clear kr;have yl:=HM.out.lt (b:=g') (c0:=p0) (c1:=p1) (c2:=p2) (c3:=p3) (by simp);go_wp2_with fail;refine (bC F HF.out b q0 q1 q2 q3 p0 p1 p2 p3 (by assumption) (by assumption) (by rw[HVp.out]; exact iA HF.out _) _ (HK.out.same HM.out.1)).mono ?_
  rintro e w4 ⟨s0,s1,s2,s3,rfl,hs,hv,hbl⟩
  have HVs:=Lib.hid (show aB s0 s1 s2 s3=kp F (A*A^H*A^H) by rw[hv,HVq.out,HVp.out,cZ HF.out,dL]);have MM:=HM.out.on hbl;clear HM hv hbl x0 x1 x2 x3 xl y0 y1 y2 y3 yl;have HM:=Lib.hid (MM.new w4.heap.size s0 s1 s2 s3 99 rfl);clear MM;go_wp2_with fail;refine wp_loop_rounds 1 ?_;rw[rounds_succ];have kr:=HM.out.row (b:=w4.heap.size) (c0:=s0) (c1:=s1) (c2:=s2) (c3:=s3) (by simp);have x0:=kr.c0; have x1:=kr.c1; have x2:=kr.c2; have x3:=kr.c3;clear kr;have xl:=HM.out.lt (b:=w4.heap.size) (c0:=s0) (c1:=s1) (c2:=s2) (c3:=s3) (by simp);go_wp2_with fail;refine (hZ F HF.out (A*A^H*A^H) b s0 s1 s2 s3 T hs HVs.out (by omega) _ (HK.out.same HM.out.1)).mono ?_
  rintro e w5 ⟨o,rfl,ho,hmin,hone,hbl⟩
  obtain rfl:o=T:=by
   rcases Nat.lt_or_ge o T with q|q
   ·exact absurd (PY (by have:=HF.out.gt; omega) (by omega) (hone q)) HI.out
   ·omega
  have HM5:=Lib.hid (HM.out.on hbl);clear HM hbl hmin hone ho x0 x1 x2 x3 xl;have HM:=HM5;clear HM5;have t0:((o:Int)==0)=false:=by simp; omega
  have kr:=HM.out.row (b:=w.heap.size+1+1) (c0:=0) (c1:=0) (c2:=0) (c3:=0) (by simp);have y0:=kr.c0; have y1:=kr.c1; have y2:=kr.c2; have y3:=kr.c3; have yf:=kr.fr;clear kr;have yl:=HM.out.lt (b:=w.heap.size+1+1) (c0:=0) (c1:=0) (c2:=0) (c3:=0) (by simp);go_wp2_with fail;refine bodyPost_ret (v:=.tuple #[.agg #[.int .u64 0,.int .u64 0,.int .u64 0,.int .u64 0],.bool false]) (by simp[results,results103,go_sem, *]) rfl ?_;refine⟨rfl,?_⟩;exact aW HM.out.1 (by omega) 0 0 0 0
def FieldIs (f:Int) (F:FC):Prop:=f=1∧F=FP∨f=2∧F=FR
theorem FieldIs.ok {f:Int} {F:FC} (h:FieldIs f F):F.Ok:=by rcases h with⟨_,rfl⟩|⟨_,rfl⟩; exact XG; exact XE
theorem FieldIs.root {f:Int} {F:FC} (h:FieldIs f F):∃g,Root F.M g:=by
 rcases h with⟨_,rfl⟩|⟨_,rfl⟩
 ·exact⟨3,by rw[Ac]; exact PB⟩
 ·exact⟨5,by rw[XF]; exact DY⟩
def Bad1 (f:Int) (A:Nat) (c:Int):Prop:=f≠1∧f≠2∧c=1∨∃F,FieldIs f F∧¬A<F.M∧c=21
def Bad2 (f:Int) (A B:Nat) (c:Int):Prop:=Bad1 f A c∨∃F,FieldIs f F∧A<F.M∧¬B<F.M∧c=21
def JC (c:Int) (V:Nat) (w:World) (e:Ending) (w':World):Prop :=
 ∃s0 s1 s2 s3:Nat,e=.returned (.tuple #[.agg #[.int .u64 s0,.int .u64 s1,.int .u64 s2,.int .u64 s3],.int .i64 c])∧bQ s0 s1 s2 s3∧aB s0 s1 s2 s3=V∧Below w.heap.size w w'
theorem CK:bQ 0 0 0 0:=⟨by omega,by omega,by omega,by omega⟩
theorem KIs.new (w:World) (F:FC) (t:TypeId):KIs (w.alloc (.cells #[.int .u64 F.m0,.int .u64 F.m1,.int .u64 F.m2,.int .u64 F.m3,.int .u64 F.inv,.int .u64 F.s0,.int .u64 F.s1,.int .u64 F.s2,.int .u64 F.s3] t)) w.heap.size F :=
 ⟨by rw[World.cell?_alloc_new]; rfl,by rw[World.cell?_alloc_new]; rfl,by rw[World.cell?_alloc_new]; rfl,by rw[World.cell?_alloc_new]; rfl,by rw[World.cell?_alloc_new]; rfl,by rw[World.cell?_alloc_new]; rfl,by rw[World.cell?_alloc_new]; rfl,by rw[World.cell?_alloc_new]; rfl,by rw[World.cell?_alloc_new]; rfl,by simp⟩
set_option maxHeartbeats 2000000 in
theorem bU (f:Int) (F:FC) (hf:FieldIs f F) (w:World):Calls prog 77 #[.int .i64 f] w fun e w'=>e=.returned (.tuple #[.agg #[.int .u64 F.m0,.int .u64 F.m1,.int .u64 F.m2,.int .u64 F.m3,.int .u64 F.inv,.int .u64 F.s0,.int .u64 F.s1,.int .u64 F.s2,.int .u64 F.s3],.int .i64 0])∧Below w.heap.size w w':=by
 rcases hf with⟨rfl,rfl⟩|⟨rfl,rfl⟩
 ·go_enter func77,ntmps77
  go_wp2_with fail;refine bodyPost_ret (v:=.tuple #[.agg #[.int .u64 FP.m0,.int .u64 FP.m1,.int .u64 FP.m2,.int .u64 FP.m3,.int .u64 FP.inv,.int .u64 FP.s0,.int .u64 FP.s1,.int .u64 FP.s2,.int .u64 FP.s3],.int .i64 0]) (by simp[results,results77,go_sem,FP]) rfl ?_;refine⟨rfl,?_⟩
  repeat (first|exact Below.refl _ _|refine Below.drew ?_|refine Below.alloc ?_ (by first|(simp; done)|(simp; omega)) _|refine Below.setCell ?_ (by simp) _)
 ·go_enter func77,ntmps77
  go_wp2_with fail;refine bodyPost_ret (v:=.tuple #[.agg #[.int .u64 FR.m0,.int .u64 FR.m1,.int .u64 FR.m2,.int .u64 FR.m3,.int .u64 FR.inv,.int .u64 FR.s0,.int .u64 FR.s1,.int .u64 FR.s2,.int .u64 FR.s3],.int .i64 0]) (by simp[results,results77,go_sem,FR]) rfl ?_;refine⟨rfl,?_⟩
  repeat (first|exact Below.refl _ _|refine Below.drew ?_|refine Below.alloc ?_ (by first|(simp; done)|(simp; omega)) _|refine Below.setCell ?_ (by simp) _)
set_option maxHeartbeats 2000000 in
theorem BS (f:Int) (h1:f≠1) (h2:f≠2) (w:World):Calls prog 77 #[.int .i64 f] w fun e w'=>e=.returned (.tuple #[.agg #[.int .u64 0,.int .u64 0,.int .u64 0,.int .u64 0,.int .u64 0,.int .u64 0,.int .u64 0,.int .u64 0,.int .u64 0],.int .i64 1])∧Below w.heap.size w w':=by
 have t1:(f==1)=false:=by simp[h1]
 have t2:(f==2)=false:=by simp[h2]
 go_enter func77,ntmps77
 go_wp2_with fail;refine bodyPost_ret (v:=.tuple #[.agg #[.int .u64 0,.int .u64 0,.int .u64 0,.int .u64 0,.int .u64 0,.int .u64 0,.int .u64 0,.int .u64 0,.int .u64 0],.int .i64 1]) (by simp[results,results77,go_sem]) rfl ?_;refine⟨rfl,?_⟩
 repeat (first|exact Below.refl _ _|refine Below.drew ?_|refine Below.alloc ?_ (by first|(simp; done)|(simp; omega)) _|refine Below.setCell ?_ (by simp) _)
theorem sW (w:World):Calls prog 79 #[.int .i64 1] w fun e w'=>e=.returned (.int .i64 1)∧w'=w:=by
 go_enter func79,ntmps79
 go_wp2_with fail;go_ret;exact⟨rfl,rfl⟩
theorem lO (w:World):Calls prog 79 #[.int .i64 0] w fun e w'=>e=.returned (.int .i64 21)∧w'=w:=by
 go_enter func79,ntmps79
 go_wp2_with fail;go_ret;exact⟨rfl,rfl⟩
set_option maxHeartbeats 2000000 in
theorem LU (f:Int) (F:FC) (hf:FieldIs f F) (a0 a1 a2 a3 b0 b1 b2 b3:Nat) (ha:bQ a0 a1 a2 a3) (hb:bQ b0 b1 b2 b3) (la:aB a0 a1 a2 a3<F.M) (lb:aB b0 b1 b2 b3<F.M) (w:World) :
  Calls prog 87 #[.int .i64 f,.agg #[.int .u64 a0,.int .u64 a1,.int .u64 a2,.int .u64 a3],.agg #[.int .u64 b0,.int .u64 b1,.int .u64 b2,.int .u64 b3]] w (JC 0 ((aB a0 a1 a2 a3+aB b0 b1 b2 b3)%F.M) w):=by
 go_enter func87,ntmps87
 go_wp2_with fail;refine (bU f F hf _).mono ?_
 rintro e w1 ⟨rfl,hbl⟩
 have M1:=((((Mem.nil w).new (w.heap.size) a0 a1 a2 a3 24 (by simp)).new (w.heap.size+1) b0 b1 b2 b3 24 (by simp)).new (w.heap.size+1+1) 0 0 0 0 24 (by simp)).on hbl;clear hbl;have z0:w.heap.size<w1.heap.size:=M1.lt (c0:=a0) (c1:=a1) (c2:=a2) (c3:=a3) (by simp);have z1:w.heap.size+1<w1.heap.size:=M1.lt (c0:=b0) (c1:=b1) (c2:=b2) (c3:=b3) (by simp);have z2:w.heap.size+1+1<w1.heap.size:=M1.lt (c0:=0) (c1:=0) (c2:=0) (c3:=0) (by simp);have HM:=Lib.hid (M1.on ((Below.refl _ _).alloc (Nat.le_refl _) (.cells #[.int .u64 F.m0,.int .u64 F.m1,.int .u64 F.m2,.int .u64 F.m3,.int .u64 F.inv,.int .u64 F.s0,.int .u64 F.s1,.int .u64 F.s2,.int .u64 F.s3] 101)));have KK:=Lib.hid (KIs.new w1 F 101);have kr:=M1.row (b:=w.heap.size) (c0:=a0) (c1:=a1) (c2:=a2) (c3:=a3) (by simp);have x0:=kr.c0; have x1:=kr.c1; have x2:=kr.c2; have x3:=kr.c3;clear kr;have xl:=M1.lt (b:=w.heap.size) (c0:=a0) (c1:=a1) (c2:=a2) (c3:=a3) (by simp);go_wp2_with fail;refine (bG F hf.ok w1.heap.size a0 a1 a2 a3 ha _ KK.out).mono ?_
 rintro e w2 ⟨he,hbl⟩
 rw[show pR (aB a0 a1 a2 a3) F.M=true from decide_eq_true la]at he;subst he;have HM':=Lib.hid (HM.out.on hbl);have KK':=Lib.hid (KK.out.same hbl);have zk:=KK'.out.lt;clear HM KK hbl M1;have HM:=HM';have KK:=KK';clear HM' KK';clear x0 x1 x2 x3 xl zk;have kr:=HM.out.row (b:=w.heap.size+1) (c0:=b0) (c1:=b1) (c2:=b2) (c3:=b3) (by simp);have x0:=kr.c0; have x1:=kr.c1; have x2:=kr.c2; have x3:=kr.c3;clear kr;have xl:=HM.out.lt (b:=w.heap.size+1) (c0:=b0) (c1:=b1) (c2:=b2) (c3:=b3) (by simp);go_wp2_with fail;refine (bG F hf.ok w1.heap.size b0 b1 b2 b3 hb _ KK.out).mono ?_
 rintro e w3 ⟨he,hbl⟩
 rw[show pR (aB b0 b1 b2 b3) F.M=true from decide_eq_true lb]at he;subst he;have HM':=Lib.hid (HM.out.on hbl);have KK':=Lib.hid (KK.out.same hbl);have zk:=KK'.out.lt;clear HM KK hbl;have HM:=HM';have KK:=KK';clear HM' KK';clear x0 x1 x2 x3 xl zk;have kr:=HM.out.row (b:=w.heap.size) (c0:=a0) (c1:=a1) (c2:=a2) (c3:=a3) (by simp);have x0:=kr.c0; have x1:=kr.c1; have x2:=kr.c2; have x3:=kr.c3;clear kr;have xl:=HM.out.lt (b:=w.heap.size) (c0:=a0) (c1:=a1) (c2:=a2) (c3:=a3) (by simp);have kr:=HM.out.row (b:=w.heap.size+1) (c0:=b0) (c1:=b1) (c2:=b2) (c3:=b3) (by simp);have u0:=kr.c0; have u1:=kr.c1; have u2:=kr.c2; have u3:=kr.c3;clear kr;have ul:=HM.out.lt (b:=w.heap.size+1) (c0:=b0) (c1:=b1) (c2:=b2) (c3:=b3) (by simp);go_wp2_with fail;refine (vZ F hf.ok w1.heap.size a0 a1 a2 a3 b0 b1 b2 b3 ha hb la lb _ KK.out).mono ?_
 rintro e w4 ⟨s0,s1,s2,s3,rfl,hs,hv,hbl⟩
 have HV:=Lib.hid hv;clear hv;have HM':=Lib.hid (HM.out.on hbl);have KK':=Lib.hid (KK.out.same hbl);have zk:=KK'.out.lt;clear HM KK hbl;have HM:=HM';have KK:=KK';clear HM' KK';clear x0 x1 x2 x3 xl u0 u1 u2 u3 ul zk;have kr:=HM.out.row (b:=w.heap.size+1+1) (c0:=0) (c1:=0) (c2:=0) (c3:=0) (by simp);have y0:=kr.c0; have y1:=kr.c1; have y2:=kr.c2; have y3:=kr.c3; have yf:=kr.fr;clear kr;have yl:=HM.out.lt (b:=w.heap.size+1+1) (c0:=0) (c1:=0) (c2:=0) (c3:=0) (by simp);go_wp2_with fail;refine bodyPost_ret (v:=.tuple #[.agg #[.int .u64 s0,.int .u64 s1,.int .u64 s2,.int .u64 s3],.int .i64 0]) (by simp[results,results87,go_sem, *]) rfl ?_;refine⟨_,_,_,_,rfl,hs,HV.out,?_⟩;exact aW HM.out.1 (by omega) _ _ _ _
set_option maxHeartbeats 2000000 in
theorem LR (f:Int) (F:FC) (hf:FieldIs f F) (a0 a1 a2 a3 b0 b1 b2 b3:Nat) (ha:bQ a0 a1 a2 a3) (hb:bQ b0 b1 b2 b3) (la:aB a0 a1 a2 a3<F.M) (lb:aB b0 b1 b2 b3<F.M) (w:World) :
  Calls prog 88 #[.int .i64 f,.agg #[.int .u64 a0,.int .u64 a1,.int .u64 a2,.int .u64 a3],.agg #[.int .u64 b0,.int .u64 b1,.int .u64 b2,.int .u64 b3]] w (JC 0 ((aB a0 a1 a2 a3+F.M-aB b0 b1 b2 b3)%F.M) w):=by
 go_enter func88,ntmps88
 go_wp2_with fail;refine (bU f F hf _).mono ?_
 rintro e w1 ⟨rfl,hbl⟩
 have M1:=((((Mem.nil w).new (w.heap.size) a0 a1 a2 a3 24 (by simp)).new (w.heap.size+1) b0 b1 b2 b3 24 (by simp)).new (w.heap.size+1+1) 0 0 0 0 24 (by simp)).on hbl;clear hbl;have z0:w.heap.size<w1.heap.size:=M1.lt (c0:=a0) (c1:=a1) (c2:=a2) (c3:=a3) (by simp);have z1:w.heap.size+1<w1.heap.size:=M1.lt (c0:=b0) (c1:=b1) (c2:=b2) (c3:=b3) (by simp);have z2:w.heap.size+1+1<w1.heap.size:=M1.lt (c0:=0) (c1:=0) (c2:=0) (c3:=0) (by simp);have HM:=Lib.hid (M1.on ((Below.refl _ _).alloc (Nat.le_refl _) (.cells #[.int .u64 F.m0,.int .u64 F.m1,.int .u64 F.m2,.int .u64 F.m3,.int .u64 F.inv,.int .u64 F.s0,.int .u64 F.s1,.int .u64 F.s2,.int .u64 F.s3] 101)));have KK:=Lib.hid (KIs.new w1 F 101);have kr:=M1.row (b:=w.heap.size) (c0:=a0) (c1:=a1) (c2:=a2) (c3:=a3) (by simp);have x0:=kr.c0; have x1:=kr.c1; have x2:=kr.c2; have x3:=kr.c3;clear kr;have xl:=M1.lt (b:=w.heap.size) (c0:=a0) (c1:=a1) (c2:=a2) (c3:=a3) (by simp);go_wp2_with fail;refine (bG F hf.ok w1.heap.size a0 a1 a2 a3 ha _ KK.out).mono ?_
 rintro e w2 ⟨he,hbl⟩
 rw[show pR (aB a0 a1 a2 a3) F.M=true from decide_eq_true la]at he;subst he;have HM':=Lib.hid (HM.out.on hbl);have KK':=Lib.hid (KK.out.same hbl);have zk:=KK'.out.lt;clear HM KK hbl M1;have HM:=HM';have KK:=KK';clear HM' KK';clear x0 x1 x2 x3 xl zk;have kr:=HM.out.row (b:=w.heap.size+1) (c0:=b0) (c1:=b1) (c2:=b2) (c3:=b3) (by simp);have x0:=kr.c0; have x1:=kr.c1; have x2:=kr.c2; have x3:=kr.c3;clear kr;have xl:=HM.out.lt (b:=w.heap.size+1) (c0:=b0) (c1:=b1) (c2:=b2) (c3:=b3) (by simp);go_wp2_with fail;refine (bG F hf.ok w1.heap.size b0 b1 b2 b3 hb _ KK.out).mono ?_
 rintro e w3 ⟨he,hbl⟩
 rw[show pR (aB b0 b1 b2 b3) F.M=true from decide_eq_true lb]at he;subst he;have HM':=Lib.hid (HM.out.on hbl);have KK':=Lib.hid (KK.out.same hbl);have zk:=KK'.out.lt;clear HM KK hbl;have HM:=HM';have KK:=KK';clear HM' KK';clear x0 x1 x2 x3 xl zk;have kr:=HM.out.row (b:=w.heap.size) (c0:=a0) (c1:=a1) (c2:=a2) (c3:=a3) (by simp);have x0:=kr.c0; have x1:=kr.c1; have x2:=kr.c2; have x3:=kr.c3;clear kr;have xl:=HM.out.lt (b:=w.heap.size) (c0:=a0) (c1:=a1) (c2:=a2) (c3:=a3) (by simp);have kr:=HM.out.row (b:=w.heap.size+1) (c0:=b0) (c1:=b1) (c2:=b2) (c3:=b3) (by simp);have u0:=kr.c0; have u1:=kr.c1; have u2:=kr.c2; have u3:=kr.c3;clear kr;have ul:=HM.out.lt (b:=w.heap.size+1) (c0:=b0) (c1:=b1) (c2:=b2) (c3:=b3) (by simp);go_wp2_with fail;refine (hJ F hf.ok w1.heap.size a0 a1 a2 a3 b0 b1 b2 b3 ha hb la lb _ KK.out).mono ?_
 rintro e w4 ⟨s0,s1,s2,s3,rfl,hs,hv,hbl⟩
 have HV:=Lib.hid hv;clear hv;have HM':=Lib.hid (HM.out.on hbl);have KK':=Lib.hid (KK.out.same hbl);have zk:=KK'.out.lt;clear HM KK hbl;have HM:=HM';have KK:=KK';clear HM' KK';clear x0 x1 x2 x3 xl u0 u1 u2 u3 ul zk;have kr:=HM.out.row (b:=w.heap.size+1+1) (c0:=0) (c1:=0) (c2:=0) (c3:=0) (by simp);have y0:=kr.c0; have y1:=kr.c1; have y2:=kr.c2; have y3:=kr.c3; have yf:=kr.fr;clear kr;have yl:=HM.out.lt (b:=w.heap.size+1+1) (c0:=0) (c1:=0) (c2:=0) (c3:=0) (by simp);go_wp2_with fail;refine bodyPost_ret (v:=.tuple #[.agg #[.int .u64 s0,.int .u64 s1,.int .u64 s2,.int .u64 s3],.int .i64 0]) (by simp[results,results88,go_sem, *]) rfl ?_;refine⟨_,_,_,_,rfl,hs,HV.out,?_⟩;exact aW HM.out.1 (by omega) _ _ _ _
set_option maxHeartbeats 2000000 in
theorem LS (f:Int) (F:FC) (hf:FieldIs f F) (a0 a1 a2 a3 b0 b1 b2 b3:Nat) (ha:bQ a0 a1 a2 a3) (hb:bQ b0 b1 b2 b3) (la:aB a0 a1 a2 a3<F.M) (lb:aB b0 b1 b2 b3<F.M) (w:World) :
  Calls prog 86 #[.int .i64 f,.agg #[.int .u64 a0,.int .u64 a1,.int .u64 a2,.int .u64 a3],.agg #[.int .u64 b0,.int .u64 b1,.int .u64 b2,.int .u64 b3]] w (JC 0 (aB a0 a1 a2 a3*aB b0 b1 b2 b3%F.M) w):=by
 go_enter func86,ntmps86
 go_wp2_with fail;refine (bU f F hf _).mono ?_
 rintro e w1 ⟨rfl,hbl⟩
 have M1:=((((Mem.nil w).new (w.heap.size) a0 a1 a2 a3 24 (by simp)).new (w.heap.size+1) b0 b1 b2 b3 24 (by simp)).new (w.heap.size+1+1) 0 0 0 0 24 (by simp)).on hbl;clear hbl;have z0:w.heap.size<w1.heap.size:=M1.lt (c0:=a0) (c1:=a1) (c2:=a2) (c3:=a3) (by simp);have z1:w.heap.size+1<w1.heap.size:=M1.lt (c0:=b0) (c1:=b1) (c2:=b2) (c3:=b3) (by simp);have z2:w.heap.size+1+1<w1.heap.size:=M1.lt (c0:=0) (c1:=0) (c2:=0) (c3:=0) (by simp);have HM:=Lib.hid (M1.on ((Below.refl _ _).alloc (Nat.le_refl _) (.cells #[.int .u64 F.m0,.int .u64 F.m1,.int .u64 F.m2,.int .u64 F.m3,.int .u64 F.inv,.int .u64 F.s0,.int .u64 F.s1,.int .u64 F.s2,.int .u64 F.s3] 101)));have KK:=Lib.hid (KIs.new w1 F 101);have kr:=M1.row (b:=w.heap.size) (c0:=a0) (c1:=a1) (c2:=a2) (c3:=a3) (by simp);have x0:=kr.c0; have x1:=kr.c1; have x2:=kr.c2; have x3:=kr.c3;clear kr;have xl:=M1.lt (b:=w.heap.size) (c0:=a0) (c1:=a1) (c2:=a2) (c3:=a3) (by simp);go_wp2_with fail;refine (bG F hf.ok w1.heap.size a0 a1 a2 a3 ha _ KK.out).mono ?_
 rintro e w2 ⟨he,hbl⟩
 rw[show pR (aB a0 a1 a2 a3) F.M=true from decide_eq_true la]at he;subst he;have HM':=Lib.hid (HM.out.on hbl);have KK':=Lib.hid (KK.out.same hbl);have zk:=KK'.out.lt;clear HM KK hbl M1;have HM:=HM';have KK:=KK';clear HM' KK';clear x0 x1 x2 x3 xl zk;have kr:=HM.out.row (b:=w.heap.size+1) (c0:=b0) (c1:=b1) (c2:=b2) (c3:=b3) (by simp);have x0:=kr.c0; have x1:=kr.c1; have x2:=kr.c2; have x3:=kr.c3;clear kr;have xl:=HM.out.lt (b:=w.heap.size+1) (c0:=b0) (c1:=b1) (c2:=b2) (c3:=b3) (by simp);go_wp2_with fail;refine (bG F hf.ok w1.heap.size b0 b1 b2 b3 hb _ KK.out).mono ?_
 rintro e w3 ⟨he,hbl⟩
 rw[show pR (aB b0 b1 b2 b3) F.M=true from decide_eq_true lb]at he;subst he;have HM':=Lib.hid (HM.out.on hbl);have KK':=Lib.hid (KK.out.same hbl);have zk:=KK'.out.lt;clear HM KK hbl;have HM:=HM';have KK:=KK';clear HM' KK';clear x0 x1 x2 x3 xl zk;have kr:=HM.out.row (b:=w.heap.size) (c0:=a0) (c1:=a1) (c2:=a2) (c3:=a3) (by simp);have x0:=kr.c0; have x1:=kr.c1; have x2:=kr.c2; have x3:=kr.c3;clear kr;have xl:=HM.out.lt (b:=w.heap.size) (c0:=a0) (c1:=a1) (c2:=a2) (c3:=a3) (by simp);have kr:=HM.out.row (b:=w.heap.size+1) (c0:=b0) (c1:=b1) (c2:=b2) (c3:=b3) (by simp);have u0:=kr.c0; have u1:=kr.c1; have u2:=kr.c2; have u3:=kr.c3;clear kr;have ul:=HM.out.lt (b:=w.heap.size+1) (c0:=b0) (c1:=b1) (c2:=b2) (c3:=b3) (by simp);go_wp2_with fail;refine (oW F hf.ok w1.heap.size a0 a1 a2 a3 b0 b1 b2 b3 ha hb lb _ KK.out).mono ?_
 rintro e w4 ⟨s0,s1,s2,s3,rfl,hs,hv,hbl⟩
 have HV:=Lib.hid hv;clear hv;have HM':=Lib.hid (HM.out.on hbl);have KK':=Lib.hid (KK.out.same hbl);have zk:=KK'.out.lt;clear HM KK hbl;have HM:=HM';have KK:=KK';clear HM' KK';clear x0 x1 x2 x3 xl u0 u1 u2 u3 ul zk;have kr:=HM.out.row (b:=w.heap.size+1+1) (c0:=0) (c1:=0) (c2:=0) (c3:=0) (by simp);have y0:=kr.c0; have y1:=kr.c1; have y2:=kr.c2; have y3:=kr.c3; have yf:=kr.fr;clear kr;have yl:=HM.out.lt (b:=w.heap.size+1+1) (c0:=0) (c1:=0) (c2:=0) (c3:=0) (by simp);go_wp2_with fail;refine bodyPost_ret (v:=.tuple #[.agg #[.int .u64 s0,.int .u64 s1,.int .u64 s2,.int .u64 s3],.int .i64 0]) (by simp[results,results86,go_sem, *]) rfl ?_;refine⟨_,_,_,_,rfl,hs,HV.out,?_⟩;exact aW HM.out.1 (by omega) _ _ _ _
set_option maxHeartbeats 2000000 in
theorem wV (f c:Int) (a0 a1 a2 a3:Nat) (ha:bQ a0 a1 a2 a3) (h:Bad1 f (aB a0 a1 a2 a3) c) (w:World) :
  Calls prog 85 #[.int .i64 f,.agg #[.int .u64 a0,.int .u64 a1,.int .u64 a2,.int .u64 a3]] w fun e w'=>e=.returned (.int .i64 c)∧Below w.heap.size w w':=by
 rcases h with⟨h1,h2,rfl⟩|⟨F,hf,la,rfl⟩
 ·go_enter func85,ntmps85
  go_wp2_with fail;refine (BS f h1 h2 _).mono ?_
  rintro e w1 ⟨rfl,hbl⟩
  have M1:=((Mem.nil w).new (w.heap.size) a0 a1 a2 a3 24 (by simp)).on hbl;clear hbl;have z0:w.heap.size<w1.heap.size:=M1.lt (c0:=a0) (c1:=a1) (c2:=a2) (c3:=a3) (by simp);have HM:=Lib.hid (M1.on ((Below.refl _ _).alloc (Nat.le_refl _) (.cells #[.int .u64 0,.int .u64 0,.int .u64 0,.int .u64 0,.int .u64 0,.int .u64 0,.int .u64 0,.int .u64 0,.int .u64 0] 101)));go_wp2_with fail;refine (sW _).mono ?_
  rintro e w2 ⟨rfl,rfl⟩
  go_wp2_with fail;refine bodyPost_ret (v:=.int .i64 1) (by simp[results,results85,go_sem, *]) rfl ?_;exact⟨rfl,HM.out.1⟩
 ·go_enter func85,ntmps85
  go_wp2_with fail;refine (bU f F hf _).mono ?_
  rintro e w1 ⟨rfl,hbl⟩
  have M1:=((Mem.nil w).new (w.heap.size) a0 a1 a2 a3 24 (by simp)).on hbl;clear hbl;have z0:w.heap.size<w1.heap.size:=M1.lt (c0:=a0) (c1:=a1) (c2:=a2) (c3:=a3) (by simp);have HM:=Lib.hid (M1.on ((Below.refl _ _).alloc (Nat.le_refl _) (.cells #[.int .u64 F.m0,.int .u64 F.m1,.int .u64 F.m2,.int .u64 F.m3,.int .u64 F.inv,.int .u64 F.s0,.int .u64 F.s1,.int .u64 F.s2,.int .u64 F.s3] 101)));have KK:=Lib.hid (KIs.new w1 F 101);have kr:=M1.row (b:=w.heap.size) (c0:=a0) (c1:=a1) (c2:=a2) (c3:=a3) (by simp);have x0:=kr.c0; have x1:=kr.c1; have x2:=kr.c2; have x3:=kr.c3;clear kr;have xl:=M1.lt (b:=w.heap.size) (c0:=a0) (c1:=a1) (c2:=a2) (c3:=a3) (by simp);go_wp2_with fail;refine (bG F hf.ok w1.heap.size a0 a1 a2 a3 ha _ KK.out).mono ?_
  rintro e w2 ⟨he,hbl⟩
  rw[show pR (aB a0 a1 a2 a3) F.M=false from decide_eq_false la]at he;subst he;have HM':=Lib.hid (HM.out.on hbl);have KK':=Lib.hid (KK.out.same hbl);have zk:=KK'.out.lt;clear HM KK hbl M1;have HM:=HM';have KK:=KK';clear HM' KK';clear x0 x1 x2 x3 xl zk;go_wp2_with fail;refine (lO _).mono ?_
  rintro e w3 ⟨rfl,rfl⟩
  go_wp2_with fail;refine bodyPost_ret (v:=.int .i64 21) (by simp[results,results85,go_sem, *]) rfl ?_;exact⟨rfl,HM.out.1⟩
set_option maxHeartbeats 2000000 in
theorem BP (f:Int) (F:FC) (hf:FieldIs f F) (a0 a1 a2 a3:Nat) (ha:bQ a0 a1 a2 a3) (la:aB a0 a1 a2 a3<F.M) (w:World) :
  Calls prog 85 #[.int .i64 f,.agg #[.int .u64 a0,.int .u64 a1,.int .u64 a2,.int .u64 a3]] w (fun e w'=>e=.returned (.int .i64 0)∧Below w.heap.size w w'):=by
 go_enter func85,ntmps85
 go_wp2_with fail;refine (bU f F hf _).mono ?_
 rintro e w1 ⟨rfl,hbl⟩
 have M1:=((Mem.nil w).new (w.heap.size) a0 a1 a2 a3 24 (by simp)).on hbl;clear hbl;have z0:w.heap.size<w1.heap.size:=M1.lt (c0:=a0) (c1:=a1) (c2:=a2) (c3:=a3) (by simp);have HM:=Lib.hid (M1.on ((Below.refl _ _).alloc (Nat.le_refl _) (.cells #[.int .u64 F.m0,.int .u64 F.m1,.int .u64 F.m2,.int .u64 F.m3,.int .u64 F.inv,.int .u64 F.s0,.int .u64 F.s1,.int .u64 F.s2,.int .u64 F.s3] 101)));have KK:=Lib.hid (KIs.new w1 F 101);have kr:=M1.row (b:=w.heap.size) (c0:=a0) (c1:=a1) (c2:=a2) (c3:=a3) (by simp);have x0:=kr.c0; have x1:=kr.c1; have x2:=kr.c2; have x3:=kr.c3;clear kr;have xl:=M1.lt (b:=w.heap.size) (c0:=a0) (c1:=a1) (c2:=a2) (c3:=a3) (by simp);go_wp2_with fail;refine (bG F hf.ok w1.heap.size a0 a1 a2 a3 ha _ KK.out).mono ?_
 rintro e w2 ⟨he,hbl⟩
 rw[show pR (aB a0 a1 a2 a3) F.M=true from decide_eq_true la]at he;subst he;have HM':=Lib.hid (HM.out.on hbl);have KK':=Lib.hid (KK.out.same hbl);have zk:=KK'.out.lt;clear HM KK hbl M1;have HM:=HM';have KK:=KK';clear HM' KK';clear x0 x1 x2 x3 xl zk;go_wp2_with fail;go_ret;exact⟨rfl,HM.out.1⟩
set_option maxHeartbeats 2000000 in
theorem BO (f:Int) (F:FC) (hf:FieldIs f F) (a0 a1 a2 a3:Nat) (ha:bQ a0 a1 a2 a3) (la:aB a0 a1 a2 a3<F.M) (w:World) :
  Calls prog 81 #[.int .i64 f,.agg #[.int .u64 a0,.int .u64 a1,.int .u64 a2,.int .u64 a3]] w (fun e w'=>e=.returned (.tuple #[.bool (bP F.M (aB a0 a1 a2 a3)),.int .i64 0])∧Below w.heap.size w w'):=by
 go_enter func81,ntmps81
 go_wp2_with fail;refine (bU f F hf _).mono ?_
 rintro e w1 ⟨rfl,hbl⟩
 have M1:=((Mem.nil w).new (w.heap.size) a0 a1 a2 a3 24 (by simp)).on hbl;clear hbl;have z0:w.heap.size<w1.heap.size:=M1.lt (c0:=a0) (c1:=a1) (c2:=a2) (c3:=a3) (by simp);have HM:=Lib.hid (M1.on ((Below.refl _ _).alloc (Nat.le_refl _) (.cells #[.int .u64 F.m0,.int .u64 F.m1,.int .u64 F.m2,.int .u64 F.m3,.int .u64 F.inv,.int .u64 F.s0,.int .u64 F.s1,.int .u64 F.s2,.int .u64 F.s3] 101)));have KK:=Lib.hid (KIs.new w1 F 101);have kr:=M1.row (b:=w.heap.size) (c0:=a0) (c1:=a1) (c2:=a2) (c3:=a3) (by simp);have x0:=kr.c0; have x1:=kr.c1; have x2:=kr.c2; have x3:=kr.c3;clear kr;have xl:=M1.lt (b:=w.heap.size) (c0:=a0) (c1:=a1) (c2:=a2) (c3:=a3) (by simp);go_wp2_with fail;refine (bG F hf.ok w1.heap.size a0 a1 a2 a3 ha _ KK.out).mono ?_
 rintro e w2 ⟨he,hbl⟩
 rw[show pR (aB a0 a1 a2 a3) F.M=true from decide_eq_true la]at he;subst he;have HM':=Lib.hid (HM.out.on hbl);have KK':=Lib.hid (KK.out.same hbl);have zk:=KK'.out.lt;clear HM KK hbl M1;have HM:=HM';have KK:=KK';clear HM' KK';clear x0 x1 x2 x3 xl zk;have kr:=HM.out.row (b:=w.heap.size) (c0:=a0) (c1:=a1) (c2:=a2) (c3:=a3) (by simp);have x0:=kr.c0; have x1:=kr.c1; have x2:=kr.c2; have x3:=kr.c3;clear kr;have xl:=HM.out.lt (b:=w.heap.size) (c0:=a0) (c1:=a1) (c2:=a2) (c3:=a3) (by simp);go_wp2_with fail;refine (iX F hf.ok w1.heap.size a0 a1 a2 a3 ha la _ KK.out).mono ?_
 rintro e w4 ⟨rfl,hbl⟩
 have HM':=Lib.hid (HM.out.on hbl);have KK':=Lib.hid (KK.out.same hbl);have zk:=KK'.out.lt;clear HM KK hbl;have HM:=HM';have KK:=KK';clear HM' KK';clear x0 x1 x2 x3 xl zk;go_wp2_with fail
 go_ret2
 exact⟨rfl,HM.out.1⟩
structure MR (w wr:World) (g9 g10:Nat) (h0 h1 h2 h3 l0 l1 l2 l3 b0 b1 b2 b3 r0 r1 r2 r3:Nat):Prop where
 below:Below w.heap.size w wr
 lo:w.heap.size+1+1+1<g9
 mid:g9<g10
 size:g10<wr.heap.size
 rowH:Row4 wr w.heap.size h0 h1 h2 h3
 rowL:Row4 wr (w.heap.size+1) l0 l1 l2 l3
 rowB:Row4 wr g9 b0 b1 b2 b3
 rowR:Row4 wr g10 r0 r1 r2 r3
 rowO:Row4 wr (w.heap.size+1+1+1) 0 0 0 0
theorem MR.on {w wr w':World} {g9 g10:Nat} {h0 h1 h2 h3 l0 l1 l2 l3 b0 b1 b2 b3 r0 r1 r2 r3:Nat} (m:MR w wr g9 g10 h0 h1 h2 h3 l0 l1 l2 l3 b0 b1 b2 b3 r0 r1 r2 r3) (hb:Below wr.heap.size wr w'):MR w w' g9 g10 h0 h1 h2 h3 l0 l1 l2 l3 b0 b1 b2 b3 r0 r1 r2 r3 :=
 ⟨m.below.trans (hb.mono m.below.size),m.lo,m.mid,Nat.lt_of_lt_of_le m.size hb.size,m.rowH.below hb (by have:=m.lo; have:=m.mid; have:=m.size; omega),m.rowL.below hb (by have:=m.lo; have:=m.mid; have:=m.size; omega),
  m.rowB.below hb (by have:=m.mid; have:=m.size; omega),m.rowR.below hb m.size,m.rowO.below hb (by have:=m.lo; have:=m.mid; have:=m.size; omega)⟩
theorem MR.drewN {w wr:World} {g9 g10:Nat} {h0 h1 h2 h3 l0 l1 l2 l3 b0 b1 b2 b3 r0 r1 r2 r3:Nat} (m:MR w wr g9 g10 h0 h1 h2 h3 l0 l1 l2 l3 b0 b1 b2 b3 r0 r1 r2 r3) (n:Nat):MR w (wr.drewN n) g9 g10 h0 h1 h2 h3 l0 l1 l2 l3 b0 b1 b2 b3 r0 r1 r2 r3:=m.on (aV _ _ n)
theorem MR.put {w wr:World} {g9 g10:Nat} {h0 h1 h2 h3 l0 l1 l2 l3 b0 b1 b2 b3 r0 r1 r2 r3:Nat} (m:MR w wr g9 g10 h0 h1 h2 h3 l0 l1 l2 l3 b0 b1 b2 b3 r0 r1 r2 r3) (s0 s1 s2 s3:Nat):MR w (set4 wr g10 s0 s1 s2 s3) g9 g10 h0 h1 h2 h3 l0 l1 l2 l3 b0 b1 b2 b3 s0 s1 s2 s3 :=
 ⟨aW m.below (by have:=m.lo; have:=m.mid; omega) _ _ _ _,m.lo,m.mid,by unfold set4; simp only[World.size_setCell]; exact m.size,m.rowH.set4_other (by have:=m.lo; have:=m.mid; omega) _ _ _ _,m.rowL.set4_other (by have:=m.lo; have:=m.mid; omega) _ _ _ _,
  m.rowB.set4_other (by have:=m.mid; omega) _ _ _ _,m.rowR.set4 _ _ _ _,m.rowO.set4_other (by have:=m.lo; have:=m.mid; omega) _ _ _ _⟩
end Go.Proofs.Ytjeplinbleofnaa
