/- Et05 -/
import Derived.OrdersHeld
import Derived.Deep.RegionHeld
import Derived.KernelRfl
import Derived.Deep.DeepCutAuto
import Derived.Test.YtpjlhhpjpnacmaaGreatDoorEt03
import Derived.Test.YtpjlhhpjpnacmaaGreatDoorEt04
import Derived.Test.YtpjlhhpjpnacmaaGreatDoorEt02
import Derived.Test.YtpjlhhpjpnacmaaGreatDoorProg
set_option maxRecDepth 100000
set_option linter.unusedVariables false
set_option linter.unusedSimpArgs false
set_option linter.unnecessarySimpa false
namespace Go.Proofs.YtpjlhhpjpnacmaaGreatDoor
open Go.Proofs.Tryz
open Go.RowKit
theorem aCP (a0 a1 a2 a3:Nat) (n:Int) (ha:cF a0 a1 a2 a3) (h0:0<n) (hq:n/64=0) (w:World) :
  Calls prog 116 #[.agg #[.int .u64 a0,.int .u64 a1,.int .u64 a2,.int .u64 a3],.int .i64 n] w (cZ (fun v=>v=aC a0 a1 a2 a3/2^n.toNat) w):=by
 obtain⟨p,hr,hp,en⟩:=JJ (by omega) 0 hq (by omega);have b1:n<256:=by omega
 have t0:decide (n≤0)=false:=decide_eq_false (by omega);obtain⟨lo0,up0,u0,d0,bl0,bu0,e0,g0,m0⟩:=iY (a:=a0) (p:=p) ha.1 hp;obtain⟨lo1,up1,u1,d1,bl1,bu1,e1,g1,m1⟩:=iY (a:=a1) (p:=p) ha.2.1 hp;obtain⟨lo2,up2,u2,d2,bl2,bu2,e2,g2,m2⟩:=iY (a:=a2) (p:=p) ha.2.2.1 hp;obtain⟨lo3,up3,u3,d3,bl3,bu3,e3,g3,m3⟩:=iY (a:=a3) (p:=p) ha.2.2.2 hp;obtain⟨s0,o0,bs0,f0⟩:=oF bl0 bu1 g0 m1;obtain⟨s1,o1,bs1,f1⟩:=oF bl1 bu2 g1 m2;obtain⟨s2,o2,bs2,f2⟩:=oF bl2 bu3 g2 m3;have HF:Hid (aC s0 s1 s2 lo3=aC a0 a1 a2 a3/2^n.toNat):=Lib.hid (by
  rw[en,sD,←Nat.div_div_eq_div_mul];have hq':aC a0 a1 a2 a3/18446744073709551616^((0:Int)).toNat=aC a0 a1 a2 a3:=by
   rw[show 18446744073709551616^((0:Int)).toNat=1 by simp];obtain⟨k0,k1,k2,k3⟩:=ha;unfold aC; omega
  rw[hq'];obtain⟨v0,x0,y0,z0⟩:=e0.out;obtain⟨v1,x1,y1,z1⟩:=e1.out;obtain⟨v2,x2,y2,z2⟩:=e2.out;obtain⟨v3,x3,y3,z3⟩:=e3.out;have f0:=f0.out;have f1:=f1.out;have f2:=f2.out;refine vS (m:=v0) ?_ y0;have hD:aC s0 s1 s2 lo3*2^p=1*(s0*2^p)+18446744073709551616*(s1*2^p)+340282366920938463463374607431768211456*(s2*2^p)+6277101735386680763835789423207666416102355444464034512896*(lo3*2^p):=by
   unfold aC; simp only[Nat.add_mul,Nat.mul_add,Nat.mul_assoc,Nat.mul_zero,Nat.zero_mul,Nat.add_zero]; omega
  rw[hD];have k0:s0*2^p=lo0*2^p+up1*2^p:=by rw[f0,Nat.add_mul]
  have k1:s1*2^p=lo1*2^p+up2*2^p:=by rw[f1,Nat.add_mul]
  have k2:s2*2^p=lo2*2^p+up3*2^p:=by rw[f2,Nat.add_mul]
  unfold aC;omega)
 clear e0 g0 m0 e1 g1 m1 e2 g2 m2 e3 g3 m3 f0 f1 f2;have HEN:=Lib.hid en;clear en
 go_enter func116,ntmps116
 go_wp2_with fail;refine wp_loop_rounds 5 ?_;rw[rounds_succ];go_wp2_with fail
 go_region
 go_wp2_with fail;rw[rounds_succ];go_wp2_with fail
 go_region
 go_wp2_with fail;rw[rounds_succ];go_wp2_with fail
 go_region
 go_wp2_with fail;rw[rounds_succ];go_wp2_with fail;rw[rounds_succ];go_wp2_with fail;refine bodyPost_ret (v:=.agg #[.int .u64 s0,.int .u64 s1,.int .u64 s2,.int .u64 lo3]) (by simp[results,results116,go_sem]) rfl ?_;refine⟨s0,s1,s2,lo3,rfl,⟨bs0,bs1,bs2,bl3⟩,HF.out,?_⟩
 repeat (first|exact Below.refl _ _|refine Below.drew ?_|refine Below.alloc ?_ (by first|(simp; done)|(simp; omega)) _)
theorem aCO (a0 a1 a2 a3:Nat) (n:Int) (ha:cF a0 a1 a2 a3) (h0:0<n) (hq:n/64=1) (w:World) :
  Calls prog 116 #[.agg #[.int .u64 a0,.int .u64 a1,.int .u64 a2,.int .u64 a3],.int .i64 n] w (cZ (fun v=>v=aC a0 a1 a2 a3/2^n.toNat) w):=by
 obtain⟨p,hr,hp,en⟩:=JJ (by omega) 1 hq (by omega);have b1:n<256:=by omega
 have t0:decide (n≤0)=false:=decide_eq_false (by omega);obtain⟨lo1,up1,u1,d1,bl1,bu1,e1,g1,m1⟩:=iY (a:=a1) (p:=p) ha.2.1 hp;obtain⟨lo2,up2,u2,d2,bl2,bu2,e2,g2,m2⟩:=iY (a:=a2) (p:=p) ha.2.2.1 hp;obtain⟨lo3,up3,u3,d3,bl3,bu3,e3,g3,m3⟩:=iY (a:=a3) (p:=p) ha.2.2.2 hp;obtain⟨s1,o1,bs1,f1⟩:=oF bl1 bu2 g1 m2;obtain⟨s2,o2,bs2,f2⟩:=oF bl2 bu3 g2 m3;have HF:Hid (aC s1 s2 lo3 0=aC a0 a1 a2 a3/2^n.toNat):=Lib.hid (by
  rw[en,sD,←Nat.div_div_eq_div_mul];have hq':aC a0 a1 a2 a3/18446744073709551616^((1:Int)).toNat=aC a1 a2 a3 0:=by
   rw[show 18446744073709551616^((1:Int)).toNat=18446744073709551616 by simp];obtain⟨k0,k1,k2,k3⟩:=ha;unfold aC; omega
  rw[hq'];obtain⟨v1,x1,y1,z1⟩:=e1.out;obtain⟨v2,x2,y2,z2⟩:=e2.out;obtain⟨v3,x3,y3,z3⟩:=e3.out;have f1:=f1.out;have f2:=f2.out;refine vS (m:=v1) ?_ y1;have hD:aC s1 s2 lo3 0*2^p=1*(s1*2^p)+18446744073709551616*(s2*2^p)+340282366920938463463374607431768211456*(lo3*2^p):=by
   unfold aC; simp only[Nat.add_mul,Nat.mul_add,Nat.mul_assoc,Nat.mul_zero,Nat.zero_mul,Nat.add_zero]; omega
  rw[hD];have k1:s1*2^p=lo1*2^p+up2*2^p:=by rw[f1,Nat.add_mul]
  have k2:s2*2^p=lo2*2^p+up3*2^p:=by rw[f2,Nat.add_mul]
  unfold aC;omega)
 clear e1 g1 m1 e2 g2 m2 e3 g3 m3 f1 f2;have HEN:=Lib.hid en;clear en
 go_enter func116,ntmps116
 go_wp2_with fail;refine wp_loop_rounds 4 ?_;rw[rounds_succ];go_wp2_with fail
 go_region
 go_wp2_with fail;rw[rounds_succ];go_wp2_with fail
 go_region
 go_wp2_with fail;rw[rounds_succ];go_wp2_with fail;rw[rounds_succ];go_wp2_with fail;refine bodyPost_ret (v:=.agg #[.int .u64 s1,.int .u64 s2,.int .u64 lo3,.int .u64 0]) (by simp[results,results116,go_sem]) rfl ?_;refine⟨s1,s2,lo3,0,rfl,⟨bs1,bs2,bl3,(by omega)⟩,HF.out,?_⟩
 repeat (first|exact Below.refl _ _|refine Below.drew ?_|refine Below.alloc ?_ (by first|(simp; done)|(simp; omega)) _)
theorem aCN (a0 a1 a2 a3:Nat) (n:Int) (ha:cF a0 a1 a2 a3) (h0:0<n) (hq:n/64=2) (w:World) :
  Calls prog 116 #[.agg #[.int .u64 a0,.int .u64 a1,.int .u64 a2,.int .u64 a3],.int .i64 n] w (cZ (fun v=>v=aC a0 a1 a2 a3/2^n.toNat) w):=by
 obtain⟨p,hr,hp,en⟩:=JJ (by omega) 2 hq (by omega);have b1:n<256:=by omega
 have t0:decide (n≤0)=false:=decide_eq_false (by omega);obtain⟨lo2,up2,u2,d2,bl2,bu2,e2,g2,m2⟩:=iY (a:=a2) (p:=p) ha.2.2.1 hp;obtain⟨lo3,up3,u3,d3,bl3,bu3,e3,g3,m3⟩:=iY (a:=a3) (p:=p) ha.2.2.2 hp;obtain⟨s2,o2,bs2,f2⟩:=oF bl2 bu3 g2 m3;have HF:Hid (aC s2 lo3 0 0=aC a0 a1 a2 a3/2^n.toNat):=Lib.hid (by
  rw[en,sD,←Nat.div_div_eq_div_mul];have hq':aC a0 a1 a2 a3/18446744073709551616^((2:Int)).toNat=aC a2 a3 0 0:=by
   rw[show 18446744073709551616^((2:Int)).toNat=340282366920938463463374607431768211456 by simp];obtain⟨k0,k1,k2,k3⟩:=ha;unfold aC; omega
  rw[hq'];obtain⟨v2,x2,y2,z2⟩:=e2.out;obtain⟨v3,x3,y3,z3⟩:=e3.out;have f2:=f2.out;refine vS (m:=v2) ?_ y2;have hD:aC s2 lo3 0 0*2^p=1*(s2*2^p)+18446744073709551616*(lo3*2^p):=by
   unfold aC; simp only[Nat.add_mul,Nat.mul_add,Nat.mul_assoc,Nat.mul_zero,Nat.zero_mul,Nat.add_zero]; omega
  rw[hD];have k2:s2*2^p=lo2*2^p+up3*2^p:=by rw[f2,Nat.add_mul]
  unfold aC;omega)
 clear e2 g2 m2 e3 g3 m3 f2;have HEN:=Lib.hid en;clear en
 go_enter func116,ntmps116
 go_wp2_with fail;refine wp_loop_rounds 3 ?_;rw[rounds_succ];go_wp2_with fail
 go_region
 go_wp2_with fail;rw[rounds_succ];go_wp2_with fail;rw[rounds_succ];go_wp2_with fail;refine bodyPost_ret (v:=.agg #[.int .u64 s2,.int .u64 lo3,.int .u64 0,.int .u64 0]) (by simp[results,results116,go_sem]) rfl ?_;refine⟨s2,lo3,0,0,rfl,⟨bs2,bl3,(by omega),(by omega)⟩,HF.out,?_⟩
 repeat (first|exact Below.refl _ _|refine Below.drew ?_|refine Below.alloc ?_ (by first|(simp; done)|(simp; omega)) _)
theorem aCM (a0 a1 a2 a3:Nat) (n:Int) (ha:cF a0 a1 a2 a3) (h0:0<n) (hq:n/64=3) (w:World) :
  Calls prog 116 #[.agg #[.int .u64 a0,.int .u64 a1,.int .u64 a2,.int .u64 a3],.int .i64 n] w (cZ (fun v=>v=aC a0 a1 a2 a3/2^n.toNat) w):=by
 obtain⟨p,hr,hp,en⟩:=JJ (by omega) 3 hq (by omega);have b1:n<256:=by omega
 have t0:decide (n≤0)=false:=decide_eq_false (by omega);obtain⟨lo3,up3,u3,d3,bl3,bu3,e3,g3,m3⟩:=iY (a:=a3) (p:=p) ha.2.2.2 hp;have HF:Hid (aC lo3 0 0 0=aC a0 a1 a2 a3/2^n.toNat):=Lib.hid (by
  rw[en,sD,←Nat.div_div_eq_div_mul];have hq':aC a0 a1 a2 a3/18446744073709551616^((3:Int)).toNat=aC a3 0 0 0:=by
   rw[show 18446744073709551616^((3:Int)).toNat=6277101735386680763835789423207666416102355444464034512896 by simp];obtain⟨k0,k1,k2,k3⟩:=ha;unfold aC; omega
  rw[hq'];obtain⟨v3,x3,y3,z3⟩:=e3.out;refine vS (m:=v3) ?_ y3;have hD:aC lo3 0 0 0*2^p=1*(lo3*2^p):=by
   unfold aC; simp only[Nat.add_mul,Nat.mul_add,Nat.mul_assoc,Nat.mul_zero,Nat.zero_mul,Nat.add_zero]; omega
  rw[hD];unfold aC;omega)
 clear e3 g3 m3;have HEN:=Lib.hid en;clear en
 go_enter func116,ntmps116
 go_wp2_with fail;refine wp_loop_rounds 2 ?_;rw[rounds_succ];go_wp2_with fail;rw[rounds_succ];go_wp2_with fail;refine bodyPost_ret (v:=.agg #[.int .u64 lo3,.int .u64 0,.int .u64 0,.int .u64 0]) (by simp[results,results116,go_sem]) rfl ?_;refine⟨lo3,0,0,0,rfl,⟨bl3,(by omega),(by omega),(by omega)⟩,HF.out,?_⟩
 repeat (first|exact Below.refl _ _|refine Below.drew ?_|refine Below.alloc ?_ (by first|(simp; done)|(simp; omega)) _)
theorem YX (a0 a1 a2 a3:Nat) (n:Int) (ha:cF a0 a1 a2 a3) (h0:n≤0) (w:World) :
  Calls prog 116 #[.agg #[.int .u64 a0,.int .u64 a1,.int .u64 a2,.int .u64 a3],.int .i64 n] w (cZ (fun v=>v=aC a0 a1 a2 a3) w):=by
 have t0:decide (n≤0)=true:=decide_eq_true h0
 go_enter func116,ntmps116
 go_wp2_with fail;refine bodyPost_ret (v:=.agg #[.int .u64 a0,.int .u64 a1,.int .u64 a2,.int .u64 a3]) (by simp[results,results116,go_sem]) rfl ?_;refine⟨a0,a1,a2,a3,rfl,ha,rfl,?_⟩
 repeat (first|exact Below.refl _ _|refine Below.drew ?_|refine Below.alloc ?_ (by first|(simp; done)|(simp; omega)) _)
theorem Jg (a0 a1 a2 a3:Nat) (n:Int) (ha:cF a0 a1 a2 a3) (h0:256≤n) (h1:n≤9223372036854775807) (w:World) :
  Calls prog 116 #[.agg #[.int .u64 a0,.int .u64 a1,.int .u64 a2,.int .u64 a3],.int .i64 n] w (cZ (fun v=>v=0) w):=by
 have t0:decide (n≤0)=false:=decide_eq_false (by omega);obtain⟨q,hq,bq,bq'⟩:∃q:Nat,n/64=(q:Int)∧4≤q∧q≤9223372036854775807:=⟨(n/64).toNat,by omega,by omega,by omega⟩
 have t1:decide ((0:Int)<4-(q:Int))=false:=decide_eq_false (by omega)
 go_enter func116,ntmps116
 go_wp2_with fail;refine wp_loop_rounds 1 ?_;rw[rounds_succ];go_wp2_with fail;refine bodyPost_ret (v:=.agg #[.int .u64 0,.int .u64 0,.int .u64 0,.int .u64 0]) (by simp[results,results116,go_sem]) rfl ?_;refine⟨0,0,0,0,rfl,⟨by omega,by omega,by omega,by omega⟩,rfl,?_⟩
 repeat (first|exact Below.refl _ _|refine Below.drew ?_|refine Below.alloc ?_ (by first|(simp; done)|(simp; omega)) _)
theorem gT (a0 a1 a2 a3:Nat) (n:Int) (ha:cF a0 a1 a2 a3) (h0:0≤n) (h1:n≤9223372036854775807) (w:World) :
  Calls prog 116 #[.agg #[.int .u64 a0,.int .u64 a1,.int .u64 a2,.int .u64 a3],.int .i64 n] w (cZ (fun v=>v=aC a0 a1 a2 a3/2^n.toNat) w):=by
 by_cases hz:n≤0
 ·refine (YX a0 a1 a2 a3 n ha hz w).mono ?_
  rintro e w' ⟨s0,s1,s2,s3,he,hs,hv,hb⟩
  refine⟨s0,s1,s2,s3,he,hs,?_,hb⟩;have:=bT ha;rw[hv,show n.toNat=0 by omega,Nat.pow_zero]; omega
 ·by_cases hf:256≤n
  ·refine (Jg a0 a1 a2 a3 n ha hf h1 w).mono ?_
   rintro e w' ⟨s0,s1,s2,s3,he,hs,hv,hb⟩
   refine⟨s0,s1,s2,s3,he,hs,?_,hb⟩;rw[hv];have hp:=Nat.pow_le_pow_right (show 0<2 by omega) (show 256≤n.toNat by omega);have:=bT ha;exact (Nat.div_eq_of_lt (Nat.lt_of_lt_of_le this hp)).symm
  ·have hq:n/64=0∨n/64=1∨n/64=2∨n/64=3:=by omega
   rcases hq with h|h|h|h
   ·exact aCP a0 a1 a2 a3 n ha (by omega) h w
   ·exact aCO a0 a1 a2 a3 n ha (by omega) h w
   ·exact aCN a0 a1 a2 a3 n ha (by omega) h w
   ·exact aCM a0 a1 a2 a3 n ha (by omega) h w
theorem DE (a0 a1 a2 a3 b0 b1 b2 b3:Nat) (ha:cF a0 a1 a2 a3) (hb:cF b0 b1 b2 b3) (w:World) :
  Calls prog 149 #[.agg #[.int .u64 a0,.int .u64 a1,.int .u64 a2,.int .u64 a3],.agg #[.int .u64 b0,.int .u64 b1,.int .u64 b2,.int .u64 b3]] w (cZ (fun v=>v=aC a0 a1 a2 a3 ||| aC b0 b1 b2 b3) w):=by
 obtain⟨s0,o0,bs0,f0⟩:∃s:Nat,bits .or .u64 (a0:Int) (b0:Int)=(s:Int)∧s<18446744073709551616∧Hid (s=a0 ||| b0):=⟨a0 ||| b0,bits_or_u64_nat _ _ ha.1 hb.1,Nat.or_lt_two_pow (n:=64) ha.1 hb.1,Lib.hid rfl⟩
 obtain⟨s1,o1,bs1,f1⟩:∃s:Nat,bits .or .u64 (a1:Int) (b1:Int)=(s:Int)∧s<18446744073709551616∧Hid (s=a1 ||| b1):=⟨a1 ||| b1,bits_or_u64_nat _ _ ha.2.1 hb.2.1,Nat.or_lt_two_pow (n:=64) ha.2.1 hb.2.1,Lib.hid rfl⟩
 obtain⟨s2,o2,bs2,f2⟩:∃s:Nat,bits .or .u64 (a2:Int) (b2:Int)=(s:Int)∧s<18446744073709551616∧Hid (s=a2 ||| b2):=⟨a2 ||| b2,bits_or_u64_nat _ _ ha.2.2.1 hb.2.2.1,Nat.or_lt_two_pow (n:=64) ha.2.2.1 hb.2.2.1,Lib.hid rfl⟩
 obtain⟨s3,o3,bs3,f3⟩:∃s:Nat,bits .or .u64 (a3:Int) (b3:Int)=(s:Int)∧s<18446744073709551616∧Hid (s=a3 ||| b3):=⟨a3 ||| b3,bits_or_u64_nat _ _ ha.2.2.2 hb.2.2.2,Nat.or_lt_two_pow (n:=64) ha.2.2.2 hb.2.2.2,Lib.hid rfl⟩
 have HF:Hid (aC s0 s1 s2 s3=aC a0 a1 a2 a3 ||| aC b0 b1 b2 b3):=Lib.hid (by rw[f0.out,f1.out,f2.out,f3.out]; exact or4 ha hb);clear f0 f1 f2 f3
 go_enter func149,ntmps149
 go_wp2_with fail;refine wp_loop_rounds 5 ?_;rw[rounds_succ];go_wp2_with fail
 go_region
 go_wp2_with fail;rw[rounds_succ];go_wp2_with fail
 go_region
 go_wp2_with fail;rw[rounds_succ];go_wp2_with fail
 go_region
 go_wp2_with fail;rw[rounds_succ];go_wp2_with fail
 go_region
 go_wp2_with fail;rw[rounds_succ];go_wp2_with fail;refine bodyPost_ret (v:=.agg #[.int .u64 s0,.int .u64 s1,.int .u64 s2,.int .u64 s3]) (by simp[results,results149,go_sem]) rfl ?_;refine⟨s0,s1,s2,s3,rfl,⟨bs0,bs1,bs2,bs3⟩,HF.out,?_⟩
 repeat (first|exact Below.refl _ _|refine Below.drew ?_|refine Below.alloc ?_ (by first|(simp; done)|(simp; omega)) _)
section
variable {P:Program} {ops:Array Oper} {Q:Exit→Act→World→Prop} {md:Region.Mode} {S:World→Prop} {L:Nat}
def dQ (P:Program) (md:Region.Mode) (ops:Array Oper) (Q:Exit→Act→World→Prop) (S:World→Prop) (L:Nat):Nat→Array Bool→Act→World→Prop
 | 0,got,a,w=>Region.ready md ops got=[]∧Q .normal a w
 | m+1,got,a,w =>
  (Region.ready md ops got=[]→Q .normal a w) ∧
  ∀i∈Region.ready md ops got,wpOp P ops Q i (fun b u=>(i=L∨S u)∧dQ P md ops Q S L m (got.setIfInBounds i true) b u) a w
theorem oO:∀(m:Nat) (got:Array Bool) (a:Act) (w:World),dQ P md ops Q S L m got a w→wpAny P md ops Q m got a w
 | 0,_,_,_,h=>h
 | m+1,_,_,_,h=>⟨h.1,fun i hi=>wpOp_mono (fun b u k=>oO m _ b u k.2) (h.2 i hi)⟩
def XQ (md:Region.Mode) (ops:Array Oper) (L i:Nat):Bool :=
 match ops[L]? with
 | some o=>o.after.any fun e=>Region.binds md e&&e.on==i
 | none=>false
theorem LF {i:Nat} {oi:Oper} {v:Value} (hi:ops[i]?=some oi) (hsel:∀(j:Nat) (o:Oper) cs b,ops[j]?=some o→o.op ≠ .select cs b)
  (hL:XQ md ops L i=true) (hQ:∀c a w,Q (.panic c) (a.put oi.dst v) w→Q (.panic c) a w) :
  ∀(m:Nat) (got:Array Bool) (a:Act) (w:World),
   (∀j oj,ops[j]?=some oj→j≠i→got.getD j true=false→(∀e∈oj.after,Region.binds md e=true→e.on≠i)→oi.apart ops oj=true) →
   i∈Region.ready md ops got→YieldsIf P ops S oi v a→S w →
   dQ P md ops Q S L m (got.setIfInBounds i true) (a.put oi.dst v) w→dQ P md ops Q S L (m+1) got a w:=by
 intro m
 induction m with
 | zero =>
  intro got a w _ hr hy hS H;refine⟨fun h=>(by rw[h]at hr; cases hr),fun j hj => ?_⟩
  by_cases hji:j=i
  ·subst hji; exact hy.wpOp hi hS ⟨.inr hS,H⟩
  ·have:=ready_mono hj hji;rw[H.1]at this;cases this
 | succ m ih =>
  intro got a w hfree hr hy hS H;refine⟨fun h=>(by rw[h]at hr; cases hr),fun j hj => ?_⟩
  by_cases hji:j=i
  ·subst hji; exact hy.wpOp hi hS ⟨.inr hS,H⟩
  ·obtain⟨hun,oj,hoj,hall⟩:=mem_ready.1 hj;have hno:∀e∈oj.after,Region.binds md e=true→e.on≠i:=fun e he hb heq=>by
    have h1:=hall e he hb;have h0:=(mem_ready.1 hr).1;rw[heq]at h1
    rcases Nat.lt_or_ge i got.size with h'|h'
    ·simp[h']at h0 h1; rw[h0]at h1; cases h1
    ·simp[Array.getElem?_eq_none h']at h1
   have hjL:j≠L:=fun e=>by
    subst e;unfold XQ at hL;rw[hoj]at hL;obtain⟨x,hx,hx2⟩:=Array.any_eq_true'.1 hL;simp only[Bool.and_eq_true,beq_iff_eq]at hx2;exact hno x hx hx2.1 hx2.2
   have h2:=wpOp_putIf hoj (hfree j oj hoj hji hun hno) (fun cs b=>hsel i oi cs b hi) (fun cs b=>hsel j oj cs b hoj) hQ hy (H.2 j (ready_mono hj hji));have hfree':∀k ok,ops[k]?=some ok→k≠i→(got.setIfInBounds j true).getD k true=false →
     (∀e∈ok.after,Region.binds md e=true→e.on≠i)→oi.apart ops ok=true:=fun k ok hk hki hu hn=>by
    refine hfree k ok hk hki ?_ hn
    by_cases hjk:j=k
    ·subst hjk; exact hun
    ·rw[getD_set_ne true hjk]at hu; exact hu
   refine wpOp_mono (fun b u h3=>⟨h3.2.1,ih (got.setIfInBounds j true) b u hfree' (ready_mono hr (Ne.symm hji)) h3.1 (h3.2.1.resolve_left hjL) ?_⟩) h2;rw[Array.setIfInBounds_comm _ _ hji];exact h3.2.2
theorem aD {i:Nat} {oi:Oper} {v:Value} {m:Nat} {got:Array Bool} {a:Act} {w:World} (hi:ops[i]?=some oi)
  (hs:Region.noSelect ops=true) (hf:Region.free md ops got i=true) (hr:(Region.ready md ops got).contains i=true) (hL:XQ md ops L i=true)
  (hQ:∀c a w,Q (.panic c) (a.put oi.dst v) w→Q (.panic c) a w) (hS:S w) (hy:YieldsIf P ops S oi v a)
  (h:dQ P md ops Q S L m (got.setIfInBounds i true) (a.put oi.dst v) w):dQ P md ops Q S L (m+1) got a w :=
 LF hi (Region.noSelect_spec hs) hL hQ m got a w (Region.free_spec hi hf) (by simpa using hr) hy hS h
theorem aF {i:Nat} {o:Oper} {m:Nat} {got:Array Bool} {a:Act} {w:World} (hr:Region.ready md ops got=[i]) (ho:ops[i]?=some o)
  (h:∀K:Act→World→Prop,Shut (∀b u,(i=L∨S u)→((i=L∨S u)→dQ P md ops Q S L m (got.setIfInBounds i true) b u)→K b u)→if Region.wanted o (yielded ops a.tmps)=true then Oper.wp P o a w K Q else K (a.put o.dst undef) w) :
  dQ P md ops Q S L (m+1) got a w :=
 ⟨fun h0=>(by rw[hr]at h0; cases h0),fun j hj=>by
  rw[hr]at hj;obtain rfl:j=i:=by simpa using hj
  exact wpOp_step ho (fun K hK=>h K (fun b u hS hW=>hK b u ⟨hS,hW hS⟩))⟩
theorem bR {got:Array Bool} {a:Act} {w:World} (hr:Region.ready md ops got=[]) (h:Q .normal a w):dQ P md ops Q S L 0 got a w:=⟨hr,h⟩
theorem cG (S:World→Prop) (L:Nat) {id:Nat} {a:Act} {w:World} (hm:P.follows .mixedOrders=true)
  (h:dQ P .any ops Q S L ops.size (Array.replicate ops.size false) a w.drew):(Code.region id ops true).wp P Q a w :=
 wp_region_any hm (oO _ _ _ _ h)
end
theorem fD {P:Program} {ops:Array Oper} {Q:Exit→Act→World→Prop} {md:Region.Mode} {S:World→Prop} {L:Nat} {i j:Nat} {oi oj:Oper} {m:Nat} {got:Array Bool} {a:Act} {w:World} (hr:Region.ready md ops got=[i,j]) (hoi:ops[i]?=some oi) (hoj:ops[j]?=some oj)
  (h1:∀K:Act→World→Prop,Shut (∀b u,(i=L∨S u)→((i=L∨S u)→dQ P md ops Q S L m (got.setIfInBounds i true) b u)→K b u)→if Region.wanted oi (yielded ops a.tmps)=true then Oper.wp P oi a w K Q else K (a.put oi.dst undef) w)
  (h2:∀K:Act→World→Prop,Shut (∀b u,(j=L∨S u)→((j=L∨S u)→dQ P md ops Q S L m (got.setIfInBounds j true) b u)→K b u)→if Region.wanted oj (yielded ops a.tmps)=true then Oper.wp P oj a w K Q else K (a.put oj.dst undef) w) :
  dQ P md ops Q S L (m+1) got a w :=
 ⟨fun h0=>(by rw[hr]at h0; cases h0),fun k hk=>by
  rw[hr]at hk
  rcases List.mem_cons.1 hk with rfl|hk
  ·exact wpOp_step hoi (fun K hK=>h1 K (fun b u hS hW=>hK b u ⟨hS,hW hS⟩))
  ·obtain rfl:k=j:=by simpa using hk
   exact wpOp_step hoj (fun K hK=>h2 K (fun b u hS hW=>hK b u ⟨hS,hW hS⟩))⟩
set_option maxHeartbeats 4000000 in
theorem rV (F:FC) (hF:F.Ok) (g:Nat) (hr:Root F.M g) (A H T C b a0 a1 a2 a3 c0 c1 c2 c3:Nat) (ha:cF a0 a1 a2 a3) (hc:cF c0 c1 c2 c3) (hA:aC a0 a1 a2 a3=kp F A) (hC:aC c0 c1 c2 c3=kp F C) (hT:1≤T) (hT2:T≤200)
  (hM:F.M=2^T*(2*H+1)+1) (hC2:C^2^(T-1)%F.M=F.M-1) (hs:A^(F.M/2)%F.M=1) (w:World) (hk:KIs w b F) :
  Calls prog 153 #[.pointer (some ⟨b,0,none⟩),.agg #[.int .u64 a0,.int .u64 a1,.int .u64 a2,.int .u64 a3],.int .i64 T,.agg #[.int .u64 c0,.int .u64 c1,.int .u64 c2,.int .u64 c3]] w fun e w' =>
   ∃r0 r1 r2 r3 R:Nat,e=.returned (.tuple #[.agg #[.int .u64 r0,.int .u64 r1,.int .u64 r2,.int .u64 r3],.bool true])∧cF r0 r1 r2 r3∧aC r0 r1 r2 r3=kp F R∧R*R%F.M=A%F.M∧Below w.heap.size w w':=by
 have HK:=Lib.hid hk;have HF:=Lib.hid hF;have HA:=Lib.hid hA;have HC:=Lib.hid hC;have HS2:=Lib.hid (wG hM hT);have HI:=Lib.hid (TA hM hT hC2 hs);have hL:=hk.lt;have hL1:b<w.heap.size+1:=by omega
 have hL2:b<w.heap.size+1+1:=by omega
 have k0:=hk.k0; have k1:=hk.k1; have k2:=hk.k2; have k3:=hk.k3;obtain⟨T1,e1,hT1⟩:∃T1:Nat,(T:Int)+1=(T1:Int)∧T1=T+1:=⟨T+1,by omega,rfl⟩
 have HT1:=Lib.hid hT1;have bT1:T1≤201:=by omega
 clear hk hF hA hC hM hC2 hs hT1
 go_enter func153,ntmps153
 go_upto_region 1 with fail
 have M0:=Lib.hid (((Mem.nil w).new w.heap.size a0 a1 a2 a3 155 rfl).new (w.heap.size+1) c0 c1 c2 c3 155 (by simp) |>.new (w.heap.size+1+1) 0 0 0 0 155 (by simp))
 go_cut [10] (fun s10 wx=>∃g p0 p1 p2 p3:Nat,s10=.pointer (some ⟨g,0,none⟩)∧cF p0 p1 p2 p3∧Hid (aC p0 p1 p2 p3=kp F (A^H))∧w.heap.size+1+1<g∧Hid (Mem w wx [(g,p0,p1,p2,p3),(w.heap.size+1+1,0,0,0,0),(w.heap.size+1,c0,c1,c2,c3),(w.heap.size,a0,a1,a2,a3)]))
 case first =>
  refine cG (fun wx=>Mem w wx [(w.heap.size+1+1,0,0,0,0),(w.heap.size+1,c0,c1,c2,c3),(w.heap.size,a0,a1,a2,a3)]) 11 (by kernel_rfl) ?_;have HS:=M0.out.drewN 1;have HM:=Lib.hid HS;refine aD (i:=0) (v:=.pointer (some ⟨b,0,none⟩)) rfl (by kernel_rfl) (by kernel_rfl) (by kernel_rfl) (by kernel_rfl) (fun _ _ _ h=>h) HS (Or.inl ⟨by kernel_rfl,fun wx hx => ?_⟩) ?_
  ·clear HS hx;go_simp
  simp only[Act.put,List.setIfInBounds_toArray,List.set_cons_zero,List.set_cons_succ];refine aD (i:=1) (v:=.agg #[.int .u64 a0,.int .u64 a1,.int .u64 a2,.int .u64 a3]) rfl (by kernel_rfl) (by kernel_rfl) (by kernel_rfl) (by kernel_rfl) (fun _ _ _ h=>h) HS (Or.inl ⟨by kernel_rfl,fun wx hx => ?_⟩) ?_
  ·have kr:=hx.row (b:=w.heap.size) (c0:=a0) (c1:=a1) (c2:=a2) (c3:=a3) (by simp);have x0:=kr.c0; have x1:=kr.c1; have x2:=kr.c2; have x3:=kr.c3;clear kr k0 k1 k2 k3;clear HS hx;go_simp
  simp only[Act.put,List.setIfInBounds_toArray,List.set_cons_zero,List.set_cons_succ];refine aD (i:=2) (v:=.pointer (some ⟨b,0,none⟩)) rfl (by kernel_rfl) (by kernel_rfl) (by kernel_rfl) (by kernel_rfl) (fun _ _ _ h=>h) HS (Or.inl ⟨by kernel_rfl,fun wx hx => ?_⟩) ?_
  ·clear HS hx;go_simp
  simp only[Act.put,List.setIfInBounds_toArray,List.set_cons_zero,List.set_cons_succ];refine aD (i:=3) (v:=.pointer (some ⟨b,0,none⟩)) rfl (by kernel_rfl) (by kernel_rfl) (by kernel_rfl) (by kernel_rfl) (fun _ _ _ h=>h) HS (Or.inl ⟨by kernel_rfl,fun wx hx => ?_⟩) ?_
  ·clear HS hx;go_simp
  simp only[Act.put,List.setIfInBounds_toArray,List.set_cons_zero,List.set_cons_succ];refine aD (i:=4) (v:=.pointer (some ⟨b,0,none⟩)) rfl (by kernel_rfl) (by kernel_rfl) (by kernel_rfl) (by kernel_rfl) (fun _ _ _ h=>h) HS (Or.inl ⟨by kernel_rfl,fun wx hx => ?_⟩) ?_
  ·clear HS hx;go_simp
  simp only[Act.put,List.setIfInBounds_toArray,List.set_cons_zero,List.set_cons_succ];refine aD (i:=5) (v:=.agg #[.int .u64 F.m0,.int .u64 F.m1,.int .u64 F.m2,.int .u64 F.m3]) rfl (by kernel_rfl) (by kernel_rfl) (by kernel_rfl) (by kernel_rfl) (fun _ _ _ h=>h) HS (Or.inl ⟨by kernel_rfl,fun wx hx => ?_⟩) ?_
  ·have kk:=HK.out.same hx.1;have x0:=kk.k0; have x1:=kk.k1; have x2:=kk.k2; have x3:=kk.k3;clear kk k0 k1 k2 k3;clear HS hx;go_simp
  simp only[Act.put,List.setIfInBounds_toArray,List.set_cons_zero,List.set_cons_succ];refine aD (i:=6) (v:=.int .i64 (T:Nat)) rfl (by kernel_rfl) (by kernel_rfl) (by kernel_rfl) (by kernel_rfl) (fun _ _ _ h=>h) HS (Or.inl ⟨by kernel_rfl,fun wx hx => ?_⟩) ?_
  ·clear HS hx;go_simp
  simp only[Act.put,List.setIfInBounds_toArray,List.set_cons_zero,List.set_cons_succ];refine aD (i:=7) (v:=.int .i64 (T1:Nat)) rfl (by kernel_rfl) (by kernel_rfl) (by kernel_rfl) (by kernel_rfl) (fun _ _ _ h=>h) HS (Or.inl ⟨by kernel_rfl,fun wx hx => ?_⟩) ?_
  ·have hw:IntKind.i64.wrap (T1:Int)=(T1:Int):=IntWalk.i64_in _ (by omega);clear HS hx;go_simp
  simp only[Act.put,List.setIfInBounds_toArray,List.set_cons_zero,List.set_cons_succ];clear HS;refine fD (i:=8) (j:=10) (by kernel_rfl) rfl rfl (fun K hK => ?_) (fun K hK => ?_)
  ·go_simp;refine (gT F.m0 F.m1 F.m2 F.m3 T1 HF.out.okm (by omega) (by have:=HT1.out; omega) _).mono ?_
   rintro e w1 ⟨n0,n1,n2,n3,rfl,hn,hv,hbl⟩
   have HS:=HM.out.on hbl;clear HM;have HM:=Lib.hid HS;have HV:=Lib.hid (show aC n0 n1 n2 n3=H by rw[hv,show (T1:Int).toNat=T+1 by have:=HT1.out; omega]; exact HS2.out);clear hv hbl;refine hK.out _ _ (Or.inr (HS.sub (by simp))) (fun _ => ?_);clear hK K;clear HS;refine fD (i:=9) (j:=10) (by kernel_rfl) rfl rfl (fun K hK => ?_) (fun K hK => ?_)
   ·go_simp;refine (fV F HF.out A b a0 a1 a2 a3 n0 n1 n2 n3 ha hn HA.out _ (HK.out.same HM.out.1)).mono ?_
    rintro e w2 ⟨p0,p1,p2,p3,rfl,hp,hv,hbl⟩
    have HS:=HM.out.on hbl;clear HM;have HM:=Lib.hid HS;have HVp:=Lib.hid (show aC p0 p1 p2 p3=kp F (A^H) by rw[hv,HV.out]);clear hv hbl;refine hK.out _ _ (Or.inr (HS.sub (by simp))) (fun _ => ?_);clear hK K;clear HS;refine aF (i:=10) (by kernel_rfl) rfl (fun K hK => ?_);go_simp;have HS:=HM.out.new w2.heap.size 0 0 0 0 155 (by first|rfl|(simp; done));have hg:w.heap.size+1+1<w2.heap.size:=by first|(simp; done)|exact HM.out.lt (b:=w.heap.size+1+1) (c0:=0) (c1:=0) (c2:=0) (c3:=0) (by simp)
    have HM9:=HM;clear HM;have HM:=Lib.hid HS;refine hK.out _ _ (Or.inr (HS.sub (by simp))) (fun _ => ?_);clear hK K;clear HS;have kr:=HM.out.row (b:=w2.heap.size) (c0:=0) (c1:=0) (c2:=0) (c3:=0) (by simp);have lr:=HM.out.lt (b:=w2.heap.size) (c0:=0) (c1:=0) (c2:=0) (c3:=0) (by simp);have x0:=kr.c0; have x1:=kr.c1; have x2:=kr.c2; have x3:=kr.c3; have xf:=kr.fr;clear kr;refine aF (i:=11) (by kernel_rfl) rfl (fun K hK => ?_);go_simp;refine hK.out _ _ (Or.inl rfl) (fun _ => ?_);clear hK K;refine bR (by kernel_rfl) ?_;go_wp2_with fail
    go_meet
    refine⟨w2.heap.size,p0,p1,p2,p3,rfl,hp,HVp,hg,Lib.hid ?_⟩;exact HM9.out.new w2.heap.size p0 p1 p2 p3 155 rfl
   ·go_simp;have HS:=HM.out.new w1.heap.size 0 0 0 0 155 (by first|rfl|(simp; done));have hg:w.heap.size+1+1<w1.heap.size:=by first|(simp; done)|exact HM.out.lt (b:=w.heap.size+1+1) (c0:=0) (c1:=0) (c2:=0) (c3:=0) (by simp)
    have HM9:=HM;clear HM;have HM:=Lib.hid HS;refine hK.out _ _ (Or.inr (HS.sub (by simp))) (fun _ => ?_);clear hK K;clear HS;refine aF (i:=9) (by kernel_rfl) rfl (fun K hK => ?_);go_simp;refine (fV F HF.out A b a0 a1 a2 a3 n0 n1 n2 n3 ha hn HA.out _ (HK.out.same HM.out.1)).mono ?_
    rintro e w2 ⟨p0,p1,p2,p3,rfl,hp,hv,hbl⟩
    have HS:=HM.out.on hbl;clear HM;have HM:=Lib.hid HS;have HVp:=Lib.hid (show aC p0 p1 p2 p3=kp F (A^H) by rw[hv,HV.out]);clear hv hbl;refine hK.out _ _ (Or.inr (HS.sub (by simp))) (fun _ => ?_);clear hK K;clear HS;have kr:=HM.out.row (b:=w1.heap.size) (c0:=0) (c1:=0) (c2:=0) (c3:=0) (by simp);have lr:=HM.out.lt (b:=w1.heap.size) (c0:=0) (c1:=0) (c2:=0) (c3:=0) (by simp);have x0:=kr.c0; have x1:=kr.c1; have x2:=kr.c2; have x3:=kr.c3; have xf:=kr.fr;clear kr;refine aF (i:=11) (by kernel_rfl) rfl (fun K hK => ?_);go_simp;refine hK.out _ _ (Or.inl rfl) (fun _ => ?_);clear hK K;refine bR (by kernel_rfl) ?_;go_wp2_with fail
    go_meet
    refine⟨w1.heap.size,p0,p1,p2,p3,rfl,hp,HVp,hg,Lib.hid ?_⟩;exact HM.out.put p0 p1 p2 p3 (by omega) (by intro r hr; simp at hr; rcases hr with rfl|rfl|rfl<;>simp<;>omega)
  ·go_simp;have HS:=HM.out.new (w.heap.size+1+1+1) 0 0 0 0 155 (by first|rfl|(simp; done));have hg:w.heap.size+1+1<(w.heap.size+1+1+1):=by first|(simp; done)|exact HM.out.lt (b:=w.heap.size+1+1) (c0:=0) (c1:=0) (c2:=0) (c3:=0) (by simp)
   have HM9:=HM;clear HM;have HM:=Lib.hid HS;refine hK.out _ _ (Or.inr (HS.sub (by simp))) (fun _ => ?_);clear hK K;clear HS;refine aF (i:=8) (by kernel_rfl) rfl (fun K hK => ?_);go_simp;refine (gT F.m0 F.m1 F.m2 F.m3 T1 HF.out.okm (by omega) (by have:=HT1.out; omega) _).mono ?_
   rintro e w1 ⟨n0,n1,n2,n3,rfl,hn,hv,hbl⟩
   have HS:=HM.out.on hbl;clear HM;have HM:=Lib.hid HS;have HV:=Lib.hid (show aC n0 n1 n2 n3=H by rw[hv,show (T1:Int).toNat=T+1 by have:=HT1.out; omega]; exact HS2.out);clear hv hbl;refine hK.out _ _ (Or.inr (HS.sub (by simp))) (fun _ => ?_);clear hK K;clear HS;refine aF (i:=9) (by kernel_rfl) rfl (fun K hK => ?_);go_simp;refine (fV F HF.out A b a0 a1 a2 a3 n0 n1 n2 n3 ha hn HA.out _ (HK.out.same HM.out.1)).mono ?_
   rintro e w2 ⟨p0,p1,p2,p3,rfl,hp,hv,hbl⟩
   have HS:=HM.out.on hbl;clear HM;have HM:=Lib.hid HS;have HVp:=Lib.hid (show aC p0 p1 p2 p3=kp F (A^H) by rw[hv,HV.out]);clear hv hbl;refine hK.out _ _ (Or.inr (HS.sub (by simp))) (fun _ => ?_);clear hK K;clear HS;have kr:=HM.out.row (b:=(w.heap.size+1+1+1)) (c0:=0) (c1:=0) (c2:=0) (c3:=0) (by simp);have lr:=HM.out.lt (b:=(w.heap.size+1+1+1)) (c0:=0) (c1:=0) (c2:=0) (c3:=0) (by simp);have x0:=kr.c0; have x1:=kr.c1; have x2:=kr.c2; have x3:=kr.c3; have xf:=kr.fr;clear kr;refine aF (i:=11) (by kernel_rfl) rfl (fun K hK => ?_);go_simp;refine hK.out _ _ (Or.inl rfl) (fun _ => ?_);clear hK K;refine bR (by kernel_rfl) ?_;go_wp2_with fail
   go_meet
   refine⟨(w.heap.size+1+1+1),p0,p1,p2,p3,rfl,hp,HVp,hg,Lib.hid ?_⟩;exact HM.out.put p0 p1 p2 p3 (by omega) (by intro r hr; simp at hr; rcases hr with rfl|rfl|rfl<;>simp<;>omega)
 case rest =>
  obtain⟨g',p0,p1,p2,p3,rfl,hp,HVp,hg,HM⟩:=hcut;clear k0 k1 k2 k3 e1 bT1;have kr:=HM.out.row (b:=w.heap.size) (c0:=a0) (c1:=a1) (c2:=a2) (c3:=a3) (by simp);have x0:=kr.c0; have x1:=kr.c1; have x2:=kr.c2; have x3:=kr.c3;clear kr;have xl:=HM.out.lt (b:=w.heap.size) (c0:=a0) (c1:=a1) (c2:=a2) (c3:=a3) (by simp);have kr:=HM.out.row (b:=g') (c0:=p0) (c1:=p1) (c2:=p2) (c3:=p3) (by simp);have y0:=kr.c0; have y1:=kr.c1; have y2:=kr.c2; have y3:=kr.c3;clear kr;have yl:=HM.out.lt (b:=g') (c0:=p0) (c1:=p1) (c2:=p2) (c3:=p3) (by simp);go_wp2_with fail;refine (cE F HF.out b a0 a1 a2 a3 p0 p1 p2 p3 (by assumption) (by assumption) (by rw[HVp.out]; exact kS HF.out _) _ (HK.out.same HM.out.1)).mono ?_
  rintro e w3 ⟨q0,q1,q2,q3,rfl,hq,hv,hbl⟩
  have HVq:=Lib.hid (show aC q0 q1 q2 q3=kp F (A*A^H) by rw[hv,HA.out,HVp.out,eK HF.out,gK]);have MM:=HM.out.on hbl;clear HM hv hbl x0 x1 x2 x3 xl y0 y1 y2 y3 yl;have HM:=Lib.hid (MM.new w3.heap.size q0 q1 q2 q3 155 rfl);have hg3:w.heap.size+1+1<w3.heap.size:=MM.lt (b:=w.heap.size+1+1) (c0:=0) (c1:=0) (c2:=0) (c3:=0) (by simp);clear MM;have kr:=HM.out.row (b:=w3.heap.size) (c0:=q0) (c1:=q1) (c2:=q2) (c3:=q3) (by simp);have x0:=kr.c0; have x1:=kr.c1; have x2:=kr.c2; have x3:=kr.c3;clear kr;have xl:=HM.out.lt (b:=w3.heap.size) (c0:=q0) (c1:=q1) (c2:=q2) (c3:=q3) (by simp);have kr:=HM.out.row (b:=g') (c0:=p0) (c1:=p1) (c2:=p2) (c3:=p3) (by simp);have y0:=kr.c0; have y1:=kr.c1; have y2:=kr.c2; have y3:=kr.c3;clear kr;have yl:=HM.out.lt (b:=g') (c0:=p0) (c1:=p1) (c2:=p2) (c3:=p3) (by simp);go_wp2_with fail;refine (cE F HF.out b q0 q1 q2 q3 p0 p1 p2 p3 (by assumption) (by assumption) (by rw[HVp.out]; exact kS HF.out _) _ (HK.out.same HM.out.1)).mono ?_
  rintro e w4 ⟨s0,s1,s2,s3,rfl,hs,hv,hbl⟩
  have HVs:=Lib.hid (show aC s0 s1 s2 s3=kp F (A*A^H*A^H) by rw[hv,HVq.out,HVp.out,eK HF.out,gK]);have MM:=HM.out.on hbl;clear HM hv hbl x0 x1 x2 x3 xl y0 y1 y2 y3 yl;have HM:=Lib.hid (MM.new w4.heap.size s0 s1 s2 s3 155 rfl);have hg4:w3.heap.size<w4.heap.size:=MM.lt (b:=w3.heap.size) (c0:=q0) (c1:=q1) (c2:=q2) (c3:=q3) (by simp);clear MM;have HM':=Lib.hid (HM.out.sub (rs':=[(w3.heap.size,q0,q1,q2,q3),(w4.heap.size,s0,s1,s2,s3),(w.heap.size+1,c0,c1,c2,c3),(w.heap.size+1+1,0,0,0,0)]) (by simp));clear HM;have HM:=HM';clear HM';go_wp2_with fail
  go_loopw [2] (fun t wr=>∃U R S D r0 r1 r2 r3 s0 s1 s2 s3 d0 d1 d2 d3:Nat,t=.int .i64 U∧U≤200∧cF r0 r1 r2 r3∧cF s0 s1 s2 s3∧cF d0 d1 d2 d3∧Hid (aC r0 r1 r2 r3=kp F R)∧Hid (aC s0 s1 s2 s3=kp F S)∧Hid (aC d0 d1 d2 d3=kp F D)∧Hid (Qx F.M A U R S D)∧Hid (Mem w wr [(w3.heap.size,r0,r1,r2,r3),(w4.heap.size,s0,s1,s2,s3),(w.heap.size+1,d0,d1,d2,d3),(w.heap.size+1+1,0,0,0,0)])) (fun t _=>(intOf t).toNat)
  case atStart=>exact⟨T,_,_,C,q0,q1,q2,q3,s0,s1,s2,s3,c0,c1,c2,c3,rfl,hT2,hq,hs,hc,HVq,HVs,HC,HI,HM⟩
  case round =>
   clear HVq HVs hq hs HVp hp HC hc HI HA HM ha;obtain⟨U,R,S,D,r0,r1,r2,r3,s0,s1,s2,s3,d0,d1,d2,d3,rfl,hU,hr',hs,hd,HVr,HVs,HVd,HI,HM⟩:=hrel;obtain⟨wo,rfl⟩:∃wo:World,wo=wr:=⟨_,rfl⟩
   have kr:=HM.out.row (b:=w4.heap.size) (c0:=s0) (c1:=s1) (c2:=s2) (c3:=s3) (by simp);have x0:=kr.c0; have x1:=kr.c1; have x2:=kr.c2; have x3:=kr.c3;clear kr;have xl:=HM.out.lt (b:=w4.heap.size) (c0:=s0) (c1:=s1) (c2:=s2) (c3:=s3) (by simp);go_wp2_with fail;refine (oB F HF.out S b s0 s1 s2 s3 U hs HVs.out (by omega) _ (HK.out.same HM.out.1)).mono ?_
   rintro e w5 ⟨o,rfl,ho,hmin,hone,hbl⟩
   have hoU:o<U:=by
    rcases Nat.lt_or_ge o U with q|q
    ·exact q
    ·exact absurd HI.out.2.2.2 (hmin (U-1) (by have:=HI.out.1; omega))
   have H1:=Lib.hid (hone hoU);have HN:=Lib.hid hmin;have HM5:=Lib.hid (HM.out.on hbl);clear HM hbl hmin hone x0 x1 x2 x3 xl;have HM:=HM5;clear HM5
   rcases Nat.eq_zero_or_pos o with rfl|ho0
   ·have HE:=Lib.hid (show R*R%F.M=A%F.M by
      have h1:=H1.out;rw[Nat.pow_zero,Nat.pow_one]at h1;rw[HI.out.2.1,Nat.mul_mod,h1,Nat.mul_one,Nat.mod_mod])
    have kr:=HM.out.row (b:=w3.heap.size) (c0:=r0) (c1:=r1) (c2:=r2) (c3:=r3) (by simp);have x0:=kr.c0; have x1:=kr.c1; have x2:=kr.c2; have x3:=kr.c3;clear kr;have xl:=HM.out.lt (b:=w3.heap.size) (c0:=r0) (c1:=r1) (c2:=r2) (c3:=r3) (by simp);have kr:=HM.out.row (b:=w.heap.size+1+1) (c0:=0) (c1:=0) (c2:=0) (c3:=0) (by simp);have y0:=kr.c0; have y1:=kr.c1; have y2:=kr.c2; have y3:=kr.c3; have yf:=kr.fr;clear kr;have yl:=HM.out.lt (b:=w.heap.size+1+1) (c0:=0) (c1:=0) (c2:=0) (c3:=0) (by simp);go_wp2_with fail;refine bodyPost_ret (v:=.tuple #[.agg #[.int .u64 r0,.int .u64 r1,.int .u64 r2,.int .u64 r3],.bool true]) (by simp[results,results153,go_sem, *]) rfl ?_;refine⟨_,_,_,_,R,rfl,hr',HVr.out,HE.out,?_⟩;exact aZ HM.out.1 (by omega) _ _ _ _
   ·have t0:((o:Int)==0)=false:=by simp; omega
    have t1:((o:Int)==(U:Int))=false:=by simp; omega
    obtain⟨V,e1,hV⟩:∃V:Nat,(U:Int)-(o:Int)=(V:Int)∧V+o=U:=⟨U-o,by omega,by omega⟩
    obtain⟨N,e2,hN⟩:∃N:Nat,(V:Int)-1=(N:Int)∧N+1=V:=⟨V-1,by omega,by omega⟩
    have HNN:=Lib.hid (show N=U-o-1 by omega);have bV:V≤200:=by omega
    have bN:N≤200:=by omega
    have HI2:=Lib.hid (XW hr HF.out.gt HI.out ho0 hoU H1.out (HN.out (o-1) (by omega)));rw[←show N=U-o-1 from HNN.out]at HI2;clear H1 HN HI hV hN HNN;go_wp2_with fail
    go_loopw [47] (fun i wr=>∃k f0 f1 f2 f3:Nat,k≤N∧i=.int .i64 k∧cF f0 f1 f2 f3∧Hid (aC f0 f1 f2 f3=kp F (D^2^k))∧Hid (Mem w wr [(w3.heap.size,r0,r1,r2,r3),(w4.heap.size,s0,s1,s2,s3),(w.heap.size+1,f0,f1,f2,f3),(w.heap.size+1+1,0,0,0,0)])) (fun i _=>N-(intOf i).toNat)
    case atStart=>exact⟨0,d0,d1,d2,d3,Nat.zero_le _,rfl,hd,Lib.hid (by rw[HVd.out,Nat.pow_zero,Nat.pow_one]),HM⟩
    case round =>
     clear HM HVd hd;obtain⟨k,f0,f1,f2,f3,hk,rfl,hf,HVf,HM⟩:=hrel
     by_cases hlt:k<N
     ·have kr:=HM.out.row (b:=w.heap.size+1) (c0:=f0) (c1:=f1) (c2:=f2) (c3:=f3) (by simp);have x0:=kr.c0; have x1:=kr.c1; have x2:=kr.c2; have x3:=kr.c3;clear kr;have xl:=HM.out.lt (b:=w.heap.size+1) (c0:=f0) (c1:=f1) (c2:=f2) (c3:=f3) (by simp);go_wp2_with fail;refine (cE F HF.out b f0 f1 f2 f3 f0 f1 f2 f3 (by assumption) (by assumption) (by rw[HVf.out]; exact kS HF.out _) _ (HK.out.same HM.out.1)).mono ?_
      rintro e w6 ⟨j0,j1,j2,j3,rfl,hj,hv,hbl⟩
      have HVj:=Lib.hid (show aC j0 j1 j2 j3=kp F (D^2^(k+1)) by rw[hv,HVf.out,eK HF.out,gK,←jQ]);have MM:=HM.out.on hbl;clear HM hv hbl x0 x1 x2 x3 xl;have kr:=MM.row (b:=w.heap.size+1) (c0:=f0) (c1:=f1) (c2:=f2) (c3:=f3) (by simp);have x0:=kr.c0; have x1:=kr.c1; have x2:=kr.c2; have x3:=kr.c3; have xf:=kr.fr;clear kr;have xl:=MM.lt (b:=w.heap.size+1) (c0:=f0) (c1:=f1) (c2:=f2) (c3:=f3) (by simp);have HM:=Lib.hid ((MM.sub (rs':=[(w.heap.size+1,f0,f1,f2,f3),(w3.heap.size,r0,r1,r2,r3),(w4.heap.size,s0,s1,s2,s3),(w.heap.size+1+1,0,0,0,0)]) (by simp)).put j0 j1 j2 j3 (by omega) (by intro r hr; simp at hr; rcases hr with rfl|rfl|rfl<;>simp<;>omega));clear MM;have HM':=Lib.hid (HM.out.sub (rs':=[(w3.heap.size,r0,r1,r2,r3),(w4.heap.size,s0,s1,s2,s3),(w.heap.size+1,j0,j1,j2,j3),(w.heap.size+1+1,0,0,0,0)]) (by simp));clear HM;have HM:=HM';clear HM';go_wp2_with fail
      go_roundw
      case rel=>exact⟨k+1,j0,j1,j2,j3,by omega,by go_num,hj,HVj,HM⟩
      case measure=>simp[intOf]; omega
     ·obtain rfl:k=N:=by omega
      have kr:=HM.out.row (b:=w3.heap.size) (c0:=r0) (c1:=r1) (c2:=r2) (c3:=r3) (by simp);have x0:=kr.c0; have x1:=kr.c1; have x2:=kr.c2; have x3:=kr.c3;clear kr;have xl:=HM.out.lt (b:=w3.heap.size) (c0:=r0) (c1:=r1) (c2:=r2) (c3:=r3) (by simp);have kr:=HM.out.row (b:=w.heap.size+1) (c0:=f0) (c1:=f1) (c2:=f2) (c3:=f3) (by simp);have y0:=kr.c0; have y1:=kr.c1; have y2:=kr.c2; have y3:=kr.c3;clear kr;have yl:=HM.out.lt (b:=w.heap.size+1) (c0:=f0) (c1:=f1) (c2:=f2) (c3:=f3) (by simp);go_wp2_with fail;refine (cE F HF.out b r0 r1 r2 r3 f0 f1 f2 f3 (by assumption) (by assumption) (by rw[HVf.out]; exact kS HF.out _) _ (HK.out.same HM.out.1)).mono ?_
      rintro e w7 ⟨q0,q1,q2,q3,rfl,hq,hv,hbl⟩
      have HVq:=Lib.hid (show aC q0 q1 q2 q3=kp F (R*D^2^k) by rw[hv,HVr.out,HVf.out,eK HF.out,gK]);have MM:=HM.out.on hbl;clear HM hv hbl x0 x1 x2 x3 xl y0 y1 y2 y3 yl;have kr:=MM.row (b:=w3.heap.size) (c0:=r0) (c1:=r1) (c2:=r2) (c3:=r3) (by simp);have x0:=kr.c0; have x1:=kr.c1; have x2:=kr.c2; have x3:=kr.c3; have xf:=kr.fr;clear kr;have xl:=MM.lt (b:=w3.heap.size) (c0:=r0) (c1:=r1) (c2:=r2) (c3:=r3) (by simp);have HM:=Lib.hid ((MM.sub (rs':=[(w3.heap.size,r0,r1,r2,r3),(w4.heap.size,s0,s1,s2,s3),(w.heap.size+1,f0,f1,f2,f3),(w.heap.size+1+1,0,0,0,0)]) (by simp)).put q0 q1 q2 q3 (by omega) (by intro r hr; simp at hr; rcases hr with rfl|rfl|rfl<;>simp<;>omega));clear MM;have HM':=Lib.hid (HM.out.sub (rs':=[(w3.heap.size,q0,q1,q2,q3),(w4.heap.size,s0,s1,s2,s3),(w.heap.size+1,f0,f1,f2,f3),(w.heap.size+1+1,0,0,0,0)]) (by simp));clear HM;have HM:=HM';clear HM';unfold set4 at HM;have kr:=HM.out.row (b:=w.heap.size+1) (c0:=f0) (c1:=f1) (c2:=f2) (c3:=f3) (by simp);have x0:=kr.c0; have x1:=kr.c1; have x2:=kr.c2; have x3:=kr.c3;clear kr;have xl:=HM.out.lt (b:=w.heap.size+1) (c0:=f0) (c1:=f1) (c2:=f2) (c3:=f3) (by simp);go_wp2_with fail;refine (cE F HF.out b f0 f1 f2 f3 f0 f1 f2 f3 (by assumption) (by assumption) (by rw[HVf.out]; exact kS HF.out _) _ (HK.out.same HM.out.1)).mono ?_
      rintro e w8 ⟨i0,i1,i2,i3,rfl,hi,hv,hbl⟩
      have HVi:=Lib.hid (show aC i0 i1 i2 i3=kp F (D^2^k*D^2^k) by rw[hv,HVf.out,eK HF.out,gK]);have MM:=HM.out.on hbl;clear HM hv hbl x0 x1 x2 x3 xl;have kr:=MM.row (b:=w.heap.size+1) (c0:=f0) (c1:=f1) (c2:=f2) (c3:=f3) (by simp);have x0:=kr.c0; have x1:=kr.c1; have x2:=kr.c2; have x3:=kr.c3; have xf:=kr.fr;clear kr;have xl:=MM.lt (b:=w.heap.size+1) (c0:=f0) (c1:=f1) (c2:=f2) (c3:=f3) (by simp);have HM:=Lib.hid ((MM.sub (rs':=[(w.heap.size+1,f0,f1,f2,f3),(w3.heap.size,q0,q1,q2,q3),(w4.heap.size,s0,s1,s2,s3),(w.heap.size+1+1,0,0,0,0)]) (by simp)).put i0 i1 i2 i3 (by omega) (by intro r hr; simp at hr; rcases hr with rfl|rfl|rfl<;>simp<;>omega));clear MM;have HM':=Lib.hid (HM.out.sub (rs':=[(w3.heap.size,q0,q1,q2,q3),(w4.heap.size,s0,s1,s2,s3),(w.heap.size+1,i0,i1,i2,i3),(w.heap.size+1+1,0,0,0,0)]) (by simp));clear HM;have HM:=HM';clear HM';unfold set4 at HM;have kr:=HM.out.row (b:=w4.heap.size) (c0:=s0) (c1:=s1) (c2:=s2) (c3:=s3) (by simp);have x0:=kr.c0; have x1:=kr.c1; have x2:=kr.c2; have x3:=kr.c3;clear kr;have xl:=HM.out.lt (b:=w4.heap.size) (c0:=s0) (c1:=s1) (c2:=s2) (c3:=s3) (by simp);have kr:=HM.out.row (b:=w.heap.size+1) (c0:=i0) (c1:=i1) (c2:=i2) (c3:=i3) (by simp);have y0:=kr.c0; have y1:=kr.c1; have y2:=kr.c2; have y3:=kr.c3;clear kr;have yl:=HM.out.lt (b:=w.heap.size+1) (c0:=i0) (c1:=i1) (c2:=i2) (c3:=i3) (by simp);go_wp2_with fail;refine (cE F HF.out b s0 s1 s2 s3 i0 i1 i2 i3 (by assumption) (by assumption) (by rw[HVi.out]; exact kS HF.out _) _ (HK.out.same HM.out.1)).mono ?_
      rintro e w9 ⟨l0,l1,l2,l3,rfl,hl,hv,hbl⟩
      have HVl:=Lib.hid (show aC l0 l1 l2 l3=kp F (S*(D^2^k*D^2^k)) by rw[hv,HVs.out,HVi.out,eK HF.out,gK]);have MM:=HM.out.on hbl;clear HM hv hbl x0 x1 x2 x3 xl y0 y1 y2 y3 yl;have kr:=MM.row (b:=w4.heap.size) (c0:=s0) (c1:=s1) (c2:=s2) (c3:=s3) (by simp);have x0:=kr.c0; have x1:=kr.c1; have x2:=kr.c2; have x3:=kr.c3; have xf:=kr.fr;clear kr;have xl:=MM.lt (b:=w4.heap.size) (c0:=s0) (c1:=s1) (c2:=s2) (c3:=s3) (by simp);have HM:=Lib.hid ((MM.sub (rs':=[(w4.heap.size,s0,s1,s2,s3),(w3.heap.size,q0,q1,q2,q3),(w.heap.size+1,i0,i1,i2,i3),(w.heap.size+1+1,0,0,0,0)]) (by simp)).put l0 l1 l2 l3 (by omega) (by intro r hr; simp at hr; rcases hr with rfl|rfl|rfl<;>simp<;>omega));clear MM;have HM':=Lib.hid (HM.out.sub (rs':=[(w3.heap.size,q0,q1,q2,q3),(w4.heap.size,l0,l1,l2,l3),(w.heap.size+1,i0,i1,i2,i3),(w.heap.size+1+1,0,0,0,0)]) (by simp));clear HM;have HM:=HM';clear HM';go_wp2_with fail
      go_roundw
      case rel=>exact⟨o,_,_,_,q0,q1,q2,q3,l0,l1,l2,l3,i0,i1,i2,i3,rfl,by omega,hq,hl,hi,HVq,HVl,HVi,HI2,HM⟩
      case measure=>simp[intOf]; omega
set_option maxHeartbeats 4000000 in
theorem vM (F:FC) (hF:F.Ok) (g:Nat) (hr:Root F.M g) (A H T C b a0 a1 a2 a3 c0 c1 c2 c3:Nat) (ha:cF a0 a1 a2 a3) (hc:cF c0 c1 c2 c3) (hA:aC a0 a1 a2 a3=kp F A) (hC:aC c0 c1 c2 c3=kp F C) (hT:1≤T) (hT2:T≤200)
  (hM:F.M=2^T*(2*H+1)+1) (hs:A^(F.M/2)%F.M≠1) (w:World) (hk:KIs w b F) :
  Calls prog 153 #[.pointer (some ⟨b,0,none⟩),.agg #[.int .u64 a0,.int .u64 a1,.int .u64 a2,.int .u64 a3],.int .i64 T,.agg #[.int .u64 c0,.int .u64 c1,.int .u64 c2,.int .u64 c3]] w fun e w' =>
   e=.returned (.tuple #[.agg #[.int .u64 0,.int .u64 0,.int .u64 0,.int .u64 0],.bool false])∧Below w.heap.size w w':=by
 have HK:=Lib.hid hk;have HF:=Lib.hid hF;have HA:=Lib.hid hA;have HC:=Lib.hid hC;have HS2:=Lib.hid (wG hM hT);have HI:=Lib.hid (show (A*A^H*A^H)^2^(T-1)%F.M≠1 by
  rw[show A*A^H*A^H=A^(2*H+1) by rw[Nat.mul_assoc,←Nat.pow_add,←Nat.pow_succ']; congr 1; omega,GQ hM hT]; exact hs)
 have hL:=hk.lt;have hL1:b<w.heap.size+1:=by omega
 have hL2:b<w.heap.size+1+1:=by omega
 have k0:=hk.k0; have k1:=hk.k1; have k2:=hk.k2; have k3:=hk.k3;obtain⟨T1,e1,hT1⟩:∃T1:Nat,(T:Int)+1=(T1:Int)∧T1=T+1:=⟨T+1,by omega,rfl⟩
 have HT1:=Lib.hid hT1;have bT1:T1≤201:=by omega
 clear hk hF hA hC hM hs hT1
 go_enter func153,ntmps153
 go_upto_region 1 with fail
 have M0:=Lib.hid (((Mem.nil w).new w.heap.size a0 a1 a2 a3 155 rfl).new (w.heap.size+1) c0 c1 c2 c3 155 (by simp) |>.new (w.heap.size+1+1) 0 0 0 0 155 (by simp))
 go_cut [10] (fun s10 wx=>∃g p0 p1 p2 p3:Nat,s10=.pointer (some ⟨g,0,none⟩)∧cF p0 p1 p2 p3∧Hid (aC p0 p1 p2 p3=kp F (A^H))∧w.heap.size+1+1<g∧Hid (Mem w wx [(g,p0,p1,p2,p3),(w.heap.size+1+1,0,0,0,0),(w.heap.size+1,c0,c1,c2,c3),(w.heap.size,a0,a1,a2,a3)]))
 case first =>
  refine cG (fun wx=>Mem w wx [(w.heap.size+1+1,0,0,0,0),(w.heap.size+1,c0,c1,c2,c3),(w.heap.size,a0,a1,a2,a3)]) 11 (by kernel_rfl) ?_;have HS:=M0.out.drewN 1;have HM:=Lib.hid HS;refine aD (i:=0) (v:=.pointer (some ⟨b,0,none⟩)) rfl (by kernel_rfl) (by kernel_rfl) (by kernel_rfl) (by kernel_rfl) (fun _ _ _ h=>h) HS (Or.inl ⟨by kernel_rfl,fun wx hx => ?_⟩) ?_
  ·clear HS hx;go_simp
  simp only[Act.put,List.setIfInBounds_toArray,List.set_cons_zero,List.set_cons_succ];refine aD (i:=1) (v:=.agg #[.int .u64 a0,.int .u64 a1,.int .u64 a2,.int .u64 a3]) rfl (by kernel_rfl) (by kernel_rfl) (by kernel_rfl) (by kernel_rfl) (fun _ _ _ h=>h) HS (Or.inl ⟨by kernel_rfl,fun wx hx => ?_⟩) ?_
  ·have kr:=hx.row (b:=w.heap.size) (c0:=a0) (c1:=a1) (c2:=a2) (c3:=a3) (by simp);have x0:=kr.c0; have x1:=kr.c1; have x2:=kr.c2; have x3:=kr.c3;clear kr k0 k1 k2 k3;clear HS hx;go_simp
  simp only[Act.put,List.setIfInBounds_toArray,List.set_cons_zero,List.set_cons_succ];refine aD (i:=2) (v:=.pointer (some ⟨b,0,none⟩)) rfl (by kernel_rfl) (by kernel_rfl) (by kernel_rfl) (by kernel_rfl) (fun _ _ _ h=>h) HS (Or.inl ⟨by kernel_rfl,fun wx hx => ?_⟩) ?_
  ·clear HS hx;go_simp
  simp only[Act.put,List.setIfInBounds_toArray,List.set_cons_zero,List.set_cons_succ];refine aD (i:=3) (v:=.pointer (some ⟨b,0,none⟩)) rfl (by kernel_rfl) (by kernel_rfl) (by kernel_rfl) (by kernel_rfl) (fun _ _ _ h=>h) HS (Or.inl ⟨by kernel_rfl,fun wx hx => ?_⟩) ?_
  ·clear HS hx;go_simp
  simp only[Act.put,List.setIfInBounds_toArray,List.set_cons_zero,List.set_cons_succ];refine aD (i:=4) (v:=.pointer (some ⟨b,0,none⟩)) rfl (by kernel_rfl) (by kernel_rfl) (by kernel_rfl) (by kernel_rfl) (fun _ _ _ h=>h) HS (Or.inl ⟨by kernel_rfl,fun wx hx => ?_⟩) ?_
  ·clear HS hx;go_simp
  simp only[Act.put,List.setIfInBounds_toArray,List.set_cons_zero,List.set_cons_succ];refine aD (i:=5) (v:=.agg #[.int .u64 F.m0,.int .u64 F.m1,.int .u64 F.m2,.int .u64 F.m3]) rfl (by kernel_rfl) (by kernel_rfl) (by kernel_rfl) (by kernel_rfl) (fun _ _ _ h=>h) HS (Or.inl ⟨by kernel_rfl,fun wx hx => ?_⟩) ?_
  ·have kk:=HK.out.same hx.1;have x0:=kk.k0; have x1:=kk.k1; have x2:=kk.k2; have x3:=kk.k3;clear kk k0 k1 k2 k3;clear HS hx;go_simp
  simp only[Act.put,List.setIfInBounds_toArray,List.set_cons_zero,List.set_cons_succ];refine aD (i:=6) (v:=.int .i64 (T:Nat)) rfl (by kernel_rfl) (by kernel_rfl) (by kernel_rfl) (by kernel_rfl) (fun _ _ _ h=>h) HS (Or.inl ⟨by kernel_rfl,fun wx hx => ?_⟩) ?_
  ·clear HS hx;go_simp
  simp only[Act.put,List.setIfInBounds_toArray,List.set_cons_zero,List.set_cons_succ];refine aD (i:=7) (v:=.int .i64 (T1:Nat)) rfl (by kernel_rfl) (by kernel_rfl) (by kernel_rfl) (by kernel_rfl) (fun _ _ _ h=>h) HS (Or.inl ⟨by kernel_rfl,fun wx hx => ?_⟩) ?_
  ·have hw:IntKind.i64.wrap (T1:Int)=(T1:Int):=IntWalk.i64_in _ (by omega);clear HS hx;go_simp
  simp only[Act.put,List.setIfInBounds_toArray,List.set_cons_zero,List.set_cons_succ];clear HS;refine fD (i:=8) (j:=10) (by kernel_rfl) rfl rfl (fun K hK => ?_) (fun K hK => ?_)
  ·go_simp;refine (gT F.m0 F.m1 F.m2 F.m3 T1 HF.out.okm (by omega) (by have:=HT1.out; omega) _).mono ?_
   rintro e w1 ⟨n0,n1,n2,n3,rfl,hn,hv,hbl⟩
   have HS:=HM.out.on hbl;clear HM;have HM:=Lib.hid HS;have HV:=Lib.hid (show aC n0 n1 n2 n3=H by rw[hv,show (T1:Int).toNat=T+1 by have:=HT1.out; omega]; exact HS2.out);clear hv hbl;refine hK.out _ _ (Or.inr (HS.sub (by simp))) (fun _ => ?_);clear hK K;clear HS;refine fD (i:=9) (j:=10) (by kernel_rfl) rfl rfl (fun K hK => ?_) (fun K hK => ?_)
   ·go_simp;refine (fV F HF.out A b a0 a1 a2 a3 n0 n1 n2 n3 ha hn HA.out _ (HK.out.same HM.out.1)).mono ?_
    rintro e w2 ⟨p0,p1,p2,p3,rfl,hp,hv,hbl⟩
    have HS:=HM.out.on hbl;clear HM;have HM:=Lib.hid HS;have HVp:=Lib.hid (show aC p0 p1 p2 p3=kp F (A^H) by rw[hv,HV.out]);clear hv hbl;refine hK.out _ _ (Or.inr (HS.sub (by simp))) (fun _ => ?_);clear hK K;clear HS;refine aF (i:=10) (by kernel_rfl) rfl (fun K hK => ?_);go_simp;have HS:=HM.out.new w2.heap.size 0 0 0 0 155 (by first|rfl|(simp; done));have hg:w.heap.size+1+1<w2.heap.size:=by first|(simp; done)|exact HM.out.lt (b:=w.heap.size+1+1) (c0:=0) (c1:=0) (c2:=0) (c3:=0) (by simp)
    have HM9:=HM;clear HM;have HM:=Lib.hid HS;refine hK.out _ _ (Or.inr (HS.sub (by simp))) (fun _ => ?_);clear hK K;clear HS;have kr:=HM.out.row (b:=w2.heap.size) (c0:=0) (c1:=0) (c2:=0) (c3:=0) (by simp);have lr:=HM.out.lt (b:=w2.heap.size) (c0:=0) (c1:=0) (c2:=0) (c3:=0) (by simp);have x0:=kr.c0; have x1:=kr.c1; have x2:=kr.c2; have x3:=kr.c3; have xf:=kr.fr;clear kr;refine aF (i:=11) (by kernel_rfl) rfl (fun K hK => ?_);go_simp;refine hK.out _ _ (Or.inl rfl) (fun _ => ?_);clear hK K;refine bR (by kernel_rfl) ?_;go_wp2_with fail
    go_meet
    refine⟨w2.heap.size,p0,p1,p2,p3,rfl,hp,HVp,hg,Lib.hid ?_⟩;exact HM9.out.new w2.heap.size p0 p1 p2 p3 155 rfl
   ·go_simp;have HS:=HM.out.new w1.heap.size 0 0 0 0 155 (by first|rfl|(simp; done));have hg:w.heap.size+1+1<w1.heap.size:=by first|(simp; done)|exact HM.out.lt (b:=w.heap.size+1+1) (c0:=0) (c1:=0) (c2:=0) (c3:=0) (by simp)
    have HM9:=HM;clear HM;have HM:=Lib.hid HS;refine hK.out _ _ (Or.inr (HS.sub (by simp))) (fun _ => ?_);clear hK K;clear HS;refine aF (i:=9) (by kernel_rfl) rfl (fun K hK => ?_);go_simp;refine (fV F HF.out A b a0 a1 a2 a3 n0 n1 n2 n3 ha hn HA.out _ (HK.out.same HM.out.1)).mono ?_
    rintro e w2 ⟨p0,p1,p2,p3,rfl,hp,hv,hbl⟩
    have HS:=HM.out.on hbl;clear HM;have HM:=Lib.hid HS;have HVp:=Lib.hid (show aC p0 p1 p2 p3=kp F (A^H) by rw[hv,HV.out]);clear hv hbl;refine hK.out _ _ (Or.inr (HS.sub (by simp))) (fun _ => ?_);clear hK K;clear HS;have kr:=HM.out.row (b:=w1.heap.size) (c0:=0) (c1:=0) (c2:=0) (c3:=0) (by simp);have lr:=HM.out.lt (b:=w1.heap.size) (c0:=0) (c1:=0) (c2:=0) (c3:=0) (by simp);have x0:=kr.c0; have x1:=kr.c1; have x2:=kr.c2; have x3:=kr.c3; have xf:=kr.fr;clear kr;refine aF (i:=11) (by kernel_rfl) rfl (fun K hK => ?_);go_simp;refine hK.out _ _ (Or.inl rfl) (fun _ => ?_);clear hK K;refine bR (by kernel_rfl) ?_;go_wp2_with fail
    go_meet
    refine⟨w1.heap.size,p0,p1,p2,p3,rfl,hp,HVp,hg,Lib.hid ?_⟩;exact HM.out.put p0 p1 p2 p3 (by omega) (by intro r hr; simp at hr; rcases hr with rfl|rfl|rfl<;>simp<;>omega)
  ·go_simp;have HS:=HM.out.new (w.heap.size+1+1+1) 0 0 0 0 155 (by first|rfl|(simp; done));have hg:w.heap.size+1+1<(w.heap.size+1+1+1):=by first|(simp; done)|exact HM.out.lt (b:=w.heap.size+1+1) (c0:=0) (c1:=0) (c2:=0) (c3:=0) (by simp)
   have HM9:=HM;clear HM;have HM:=Lib.hid HS;refine hK.out _ _ (Or.inr (HS.sub (by simp))) (fun _ => ?_);clear hK K;clear HS;refine aF (i:=8) (by kernel_rfl) rfl (fun K hK => ?_);go_simp;refine (gT F.m0 F.m1 F.m2 F.m3 T1 HF.out.okm (by omega) (by have:=HT1.out; omega) _).mono ?_
   rintro e w1 ⟨n0,n1,n2,n3,rfl,hn,hv,hbl⟩
   have HS:=HM.out.on hbl;clear HM;have HM:=Lib.hid HS;have HV:=Lib.hid (show aC n0 n1 n2 n3=H by rw[hv,show (T1:Int).toNat=T+1 by have:=HT1.out; omega]; exact HS2.out);clear hv hbl;refine hK.out _ _ (Or.inr (HS.sub (by simp))) (fun _ => ?_);clear hK K;clear HS;refine aF (i:=9) (by kernel_rfl) rfl (fun K hK => ?_);go_simp;refine (fV F HF.out A b a0 a1 a2 a3 n0 n1 n2 n3 ha hn HA.out _ (HK.out.same HM.out.1)).mono ?_
   rintro e w2 ⟨p0,p1,p2,p3,rfl,hp,hv,hbl⟩
   have HS:=HM.out.on hbl;clear HM;have HM:=Lib.hid HS;have HVp:=Lib.hid (show aC p0 p1 p2 p3=kp F (A^H) by rw[hv,HV.out]);clear hv hbl;refine hK.out _ _ (Or.inr (HS.sub (by simp))) (fun _ => ?_);clear hK K;clear HS;have kr:=HM.out.row (b:=(w.heap.size+1+1+1)) (c0:=0) (c1:=0) (c2:=0) (c3:=0) (by simp);have lr:=HM.out.lt (b:=(w.heap.size+1+1+1)) (c0:=0) (c1:=0) (c2:=0) (c3:=0) (by simp);have x0:=kr.c0; have x1:=kr.c1; have x2:=kr.c2; have x3:=kr.c3; have xf:=kr.fr;clear kr;refine aF (i:=11) (by kernel_rfl) rfl (fun K hK => ?_);go_simp;refine hK.out _ _ (Or.inl rfl) (fun _ => ?_);clear hK K;refine bR (by kernel_rfl) ?_;go_wp2_with fail
   go_meet
   refine⟨(w.heap.size+1+1+1),p0,p1,p2,p3,rfl,hp,HVp,hg,Lib.hid ?_⟩;exact HM.out.put p0 p1 p2 p3 (by omega) (by intro r hr; simp at hr; rcases hr with rfl|rfl|rfl<;>simp<;>omega)
 case rest =>
  obtain⟨g',p0,p1,p2,p3,rfl,hp,HVp,hg,HM⟩:=hcut;clear k0 k1 k2 k3 e1 bT1;have kr:=HM.out.row (b:=w.heap.size) (c0:=a0) (c1:=a1) (c2:=a2) (c3:=a3) (by simp);have x0:=kr.c0; have x1:=kr.c1; have x2:=kr.c2; have x3:=kr.c3;clear kr;have xl:=HM.out.lt (b:=w.heap.size) (c0:=a0) (c1:=a1) (c2:=a2) (c3:=a3) (by simp);have kr:=HM.out.row (b:=g') (c0:=p0) (c1:=p1) (c2:=p2) (c3:=p3) (by simp);have y0:=kr.c0; have y1:=kr.c1; have y2:=kr.c2; have y3:=kr.c3;clear kr;have yl:=HM.out.lt (b:=g') (c0:=p0) (c1:=p1) (c2:=p2) (c3:=p3) (by simp);go_wp2_with fail;refine (cE F HF.out b a0 a1 a2 a3 p0 p1 p2 p3 (by assumption) (by assumption) (by rw[HVp.out]; exact kS HF.out _) _ (HK.out.same HM.out.1)).mono ?_
  rintro e w3 ⟨q0,q1,q2,q3,rfl,hq,hv,hbl⟩
  have HVq:=Lib.hid (show aC q0 q1 q2 q3=kp F (A*A^H) by rw[hv,HA.out,HVp.out,eK HF.out,gK]);have MM:=HM.out.on hbl;clear HM hv hbl x0 x1 x2 x3 xl y0 y1 y2 y3 yl;have HM:=Lib.hid (MM.new w3.heap.size q0 q1 q2 q3 155 rfl);have hg3:w.heap.size+1+1<w3.heap.size:=MM.lt (b:=w.heap.size+1+1) (c0:=0) (c1:=0) (c2:=0) (c3:=0) (by simp);clear MM;have kr:=HM.out.row (b:=w3.heap.size) (c0:=q0) (c1:=q1) (c2:=q2) (c3:=q3) (by simp);have x0:=kr.c0; have x1:=kr.c1; have x2:=kr.c2; have x3:=kr.c3;clear kr;have xl:=HM.out.lt (b:=w3.heap.size) (c0:=q0) (c1:=q1) (c2:=q2) (c3:=q3) (by simp);have kr:=HM.out.row (b:=g') (c0:=p0) (c1:=p1) (c2:=p2) (c3:=p3) (by simp);have y0:=kr.c0; have y1:=kr.c1; have y2:=kr.c2; have y3:=kr.c3;clear kr;have yl:=HM.out.lt (b:=g') (c0:=p0) (c1:=p1) (c2:=p2) (c3:=p3) (by simp);go_wp2_with fail;refine (cE F HF.out b q0 q1 q2 q3 p0 p1 p2 p3 (by assumption) (by assumption) (by rw[HVp.out]; exact kS HF.out _) _ (HK.out.same HM.out.1)).mono ?_
  rintro e w4 ⟨s0,s1,s2,s3,rfl,hs,hv,hbl⟩
  have HVs:=Lib.hid (show aC s0 s1 s2 s3=kp F (A*A^H*A^H) by rw[hv,HVq.out,HVp.out,eK HF.out,gK]);have MM:=HM.out.on hbl;clear HM hv hbl x0 x1 x2 x3 xl y0 y1 y2 y3 yl;have HM:=Lib.hid (MM.new w4.heap.size s0 s1 s2 s3 155 rfl);clear MM;go_wp2_with fail;refine wp_loop_rounds 1 ?_;rw[rounds_succ];have kr:=HM.out.row (b:=w4.heap.size) (c0:=s0) (c1:=s1) (c2:=s2) (c3:=s3) (by simp);have x0:=kr.c0; have x1:=kr.c1; have x2:=kr.c2; have x3:=kr.c3;clear kr;have xl:=HM.out.lt (b:=w4.heap.size) (c0:=s0) (c1:=s1) (c2:=s2) (c3:=s3) (by simp);go_wp2_with fail;refine (oB F HF.out (A*A^H*A^H) b s0 s1 s2 s3 T hs HVs.out (by omega) _ (HK.out.same HM.out.1)).mono ?_
  rintro e w5 ⟨o,rfl,ho,hmin,hone,hbl⟩
  obtain rfl:o=T:=by
   rcases Nat.lt_or_ge o T with q|q
   ·exact absurd (Xp (by have:=HF.out.gt; omega) (by omega) (hone q)) HI.out
   ·omega
  have HM5:=Lib.hid (HM.out.on hbl);clear HM hbl hmin hone ho x0 x1 x2 x3 xl;have HM:=HM5;clear HM5;have t0:((o:Int)==0)=false:=by simp; omega
  have kr:=HM.out.row (b:=w.heap.size+1+1) (c0:=0) (c1:=0) (c2:=0) (c3:=0) (by simp);have y0:=kr.c0; have y1:=kr.c1; have y2:=kr.c2; have y3:=kr.c3; have yf:=kr.fr;clear kr;have yl:=HM.out.lt (b:=w.heap.size+1+1) (c0:=0) (c1:=0) (c2:=0) (c3:=0) (by simp);go_wp2_with fail;refine bodyPost_ret (v:=.tuple #[.agg #[.int .u64 0,.int .u64 0,.int .u64 0,.int .u64 0],.bool false]) (by simp[results,results153,go_sem, *]) rfl ?_;refine⟨rfl,?_⟩;exact aZ HM.out.1 (by omega) 0 0 0 0
def FieldIs (f:Int) (F:FC):Prop:=f=1∧F=FP∨f=2∧F=FR
theorem FieldIs.ok {f:Int} {F:FC} (h:FieldIs f F):F.Ok:=by rcases h with⟨_,rfl⟩|⟨_,rfl⟩; exact aHE; exact aHC
theorem FieldIs.root {f:Int} {F:FC} (h:FieldIs f F):∃g,Root F.M g:=by
 rcases h with⟨_,rfl⟩|⟨_,rfl⟩
 ·exact⟨3,by rw[aKC]; exact Wc⟩
 ·exact⟨5,by rw[aHD]; exact ZK⟩
def aKD (f:Int) (A:Nat) (c:Int):Prop:=f≠1∧f≠2∧c=1∨∃F,FieldIs f F∧¬A<F.M∧c=21
def He (c:Int) (V:Nat) (w:World) (e:Ending) (w':World):Prop :=
 ∃s0 s1 s2 s3:Nat,e=.returned (.tuple #[.agg #[.int .u64 s0,.int .u64 s1,.int .u64 s2,.int .u64 s3],.int .i64 c])∧cF s0 s1 s2 s3∧aC s0 s1 s2 s3=V∧Below w.heap.size w w'
theorem KQ:cF 0 0 0 0:=⟨by omega,by omega,by omega,by omega⟩
theorem KIs.new (w:World) (F:FC) (t:TypeId):KIs (w.alloc (.cells #[.int .u64 F.m0,.int .u64 F.m1,.int .u64 F.m2,.int .u64 F.m3,.int .u64 F.inv,.int .u64 F.s0,.int .u64 F.s1,.int .u64 F.s2,.int .u64 F.s3] t)) w.heap.size F :=
 ⟨by rw[World.cell?_alloc_new]; rfl,by rw[World.cell?_alloc_new]; rfl,by rw[World.cell?_alloc_new]; rfl,by rw[World.cell?_alloc_new]; rfl,by rw[World.cell?_alloc_new]; rfl,by rw[World.cell?_alloc_new]; rfl,by rw[World.cell?_alloc_new]; rfl,by rw[World.cell?_alloc_new]; rfl,by rw[World.cell?_alloc_new]; rfl,by simp⟩
set_option maxHeartbeats 2000000 in
theorem dL (f:Int) (F:FC) (hf:FieldIs f F) (w:World):Calls prog 96 #[.int .i64 f] w fun e w'=>e=.returned (.tuple #[.agg #[.int .u64 F.m0,.int .u64 F.m1,.int .u64 F.m2,.int .u64 F.m3,.int .u64 F.inv,.int .u64 F.s0,.int .u64 F.s1,.int .u64 F.s2,.int .u64 F.s3],.int .i64 0])∧Below w.heap.size w w':=by
 rcases hf with⟨rfl,rfl⟩|⟨rfl,rfl⟩
 ·go_enter func96,ntmps96
  go_wp2_with fail;refine bodyPost_ret (v:=.tuple #[.agg #[.int .u64 FP.m0,.int .u64 FP.m1,.int .u64 FP.m2,.int .u64 FP.m3,.int .u64 FP.inv,.int .u64 FP.s0,.int .u64 FP.s1,.int .u64 FP.s2,.int .u64 FP.s3],.int .i64 0]) (by simp[results,results96,go_sem,FP]) rfl ?_;refine⟨rfl,?_⟩
  repeat (first|exact Below.refl _ _|refine Below.drew ?_|refine Below.alloc ?_ (by first|(simp; done)|(simp; omega)) _|refine Below.setCell ?_ (by simp) _)
 ·go_enter func96,ntmps96
  go_wp2_with fail;refine bodyPost_ret (v:=.tuple #[.agg #[.int .u64 FR.m0,.int .u64 FR.m1,.int .u64 FR.m2,.int .u64 FR.m3,.int .u64 FR.inv,.int .u64 FR.s0,.int .u64 FR.s1,.int .u64 FR.s2,.int .u64 FR.s3],.int .i64 0]) (by simp[results,results96,go_sem,FR]) rfl ?_;refine⟨rfl,?_⟩
  repeat (first|exact Below.refl _ _|refine Below.drew ?_|refine Below.alloc ?_ (by first|(simp; done)|(simp; omega)) _|refine Below.setCell ?_ (by simp) _)
set_option maxHeartbeats 2000000 in
theorem VP (f:Int) (h1:f≠1) (h2:f≠2) (w:World):Calls prog 96 #[.int .i64 f] w fun e w'=>e=.returned (.tuple #[.agg #[.int .u64 0,.int .u64 0,.int .u64 0,.int .u64 0,.int .u64 0,.int .u64 0,.int .u64 0,.int .u64 0,.int .u64 0],.int .i64 1])∧Below w.heap.size w w':=by
 have t1:(f==1)=false:=by simp[h1]
 have t2:(f==2)=false:=by simp[h2]
 go_enter func96,ntmps96
 go_wp2_with fail;refine bodyPost_ret (v:=.tuple #[.agg #[.int .u64 0,.int .u64 0,.int .u64 0,.int .u64 0,.int .u64 0,.int .u64 0,.int .u64 0,.int .u64 0,.int .u64 0],.int .i64 1]) (by simp[results,results96,go_sem]) rfl ?_;refine⟨rfl,?_⟩
 repeat (first|exact Below.refl _ _|refine Below.drew ?_|refine Below.alloc ?_ (by first|(simp; done)|(simp; omega)) _|refine Below.setCell ?_ (by simp) _)
theorem GH (w:World):Calls prog 98 #[.int .i64 1] w fun e w'=>e=.returned (.int .i64 1)∧w'=w:=by
 go_enter func98,ntmps98
 go_wp2_with fail;go_ret;exact⟨rfl,rfl⟩
theorem uN (w:World):Calls prog 98 #[.int .i64 0] w fun e w'=>e=.returned (.int .i64 21)∧w'=w:=by
 go_enter func98,ntmps98
 go_wp2_with fail;go_ret;exact⟨rfl,rfl⟩
set_option maxHeartbeats 2000000 in
theorem Oq (f:Int) (F:FC) (hf:FieldIs f F) (a0 a1 a2 a3 b0 b1 b2 b3:Nat) (ha:cF a0 a1 a2 a3) (hb:cF b0 b1 b2 b3) (la:aC a0 a1 a2 a3<F.M) (lb:aC b0 b1 b2 b3<F.M) (w:World) :
  Calls prog 195 #[.int .i64 f,.agg #[.int .u64 a0,.int .u64 a1,.int .u64 a2,.int .u64 a3],.agg #[.int .u64 b0,.int .u64 b1,.int .u64 b2,.int .u64 b3]] w (He 0 ((aC a0 a1 a2 a3+aC b0 b1 b2 b3)%F.M) w):=by
 go_enter func195,ntmps195
 go_wp2_with fail;refine (dL f F hf _).mono ?_
 rintro e w1 ⟨rfl,hbl⟩
 have M1:=((((Mem.nil w).new (w.heap.size) a0 a1 a2 a3 27 (by simp)).new (w.heap.size+1) b0 b1 b2 b3 27 (by simp)).new (w.heap.size+1+1) 0 0 0 0 27 (by simp)).on hbl;clear hbl;have z0:w.heap.size<w1.heap.size:=M1.lt (c0:=a0) (c1:=a1) (c2:=a2) (c3:=a3) (by simp);have z1:w.heap.size+1<w1.heap.size:=M1.lt (c0:=b0) (c1:=b1) (c2:=b2) (c3:=b3) (by simp);have z2:w.heap.size+1+1<w1.heap.size:=M1.lt (c0:=0) (c1:=0) (c2:=0) (c3:=0) (by simp);have HM:=Lib.hid (M1.on ((Below.refl _ _).alloc (Nat.le_refl _) (.cells #[.int .u64 F.m0,.int .u64 F.m1,.int .u64 F.m2,.int .u64 F.m3,.int .u64 F.inv,.int .u64 F.s0,.int .u64 F.s1,.int .u64 F.s2,.int .u64 F.s3] 157)));have KK:=Lib.hid (KIs.new w1 F 157);have kr:=M1.row (b:=w.heap.size) (c0:=a0) (c1:=a1) (c2:=a2) (c3:=a3) (by simp);have x0:=kr.c0; have x1:=kr.c1; have x2:=kr.c2; have x3:=kr.c3;clear kr;have xl:=M1.lt (b:=w.heap.size) (c0:=a0) (c1:=a1) (c2:=a2) (c3:=a3) (by simp);go_wp2_with fail;refine (cW F hf.ok w1.heap.size a0 a1 a2 a3 ha _ KK.out).mono ?_
 rintro e w2 ⟨he,hbl⟩
 rw[show yT (aC a0 a1 a2 a3) F.M=true from decide_eq_true la]at he;subst he;have HM':=Lib.hid (HM.out.on hbl);have KK':=Lib.hid (KK.out.same hbl);have zk:=KK'.out.lt;clear HM KK hbl M1;have HM:=HM';have KK:=KK';clear HM' KK';clear x0 x1 x2 x3 xl zk;have kr:=HM.out.row (b:=w.heap.size+1) (c0:=b0) (c1:=b1) (c2:=b2) (c3:=b3) (by simp);have x0:=kr.c0; have x1:=kr.c1; have x2:=kr.c2; have x3:=kr.c3;clear kr;have xl:=HM.out.lt (b:=w.heap.size+1) (c0:=b0) (c1:=b1) (c2:=b2) (c3:=b3) (by simp);go_wp2_with fail;refine (cW F hf.ok w1.heap.size b0 b1 b2 b3 hb _ KK.out).mono ?_
 rintro e w3 ⟨he,hbl⟩
 rw[show yT (aC b0 b1 b2 b3) F.M=true from decide_eq_true lb]at he;subst he;have HM':=Lib.hid (HM.out.on hbl);have KK':=Lib.hid (KK.out.same hbl);have zk:=KK'.out.lt;clear HM KK hbl;have HM:=HM';have KK:=KK';clear HM' KK';clear x0 x1 x2 x3 xl zk;have kr:=HM.out.row (b:=w.heap.size) (c0:=a0) (c1:=a1) (c2:=a2) (c3:=a3) (by simp);have x0:=kr.c0; have x1:=kr.c1; have x2:=kr.c2; have x3:=kr.c3;clear kr;have xl:=HM.out.lt (b:=w.heap.size) (c0:=a0) (c1:=a1) (c2:=a2) (c3:=a3) (by simp);have kr:=HM.out.row (b:=w.heap.size+1) (c0:=b0) (c1:=b1) (c2:=b2) (c3:=b3) (by simp);have u0:=kr.c0; have u1:=kr.c1; have u2:=kr.c2; have u3:=kr.c3;clear kr;have ul:=HM.out.lt (b:=w.heap.size+1) (c0:=b0) (c1:=b1) (c2:=b2) (c3:=b3) (by simp);go_wp2_with fail;refine (wV F hf.ok w1.heap.size a0 a1 a2 a3 b0 b1 b2 b3 ha hb la lb _ KK.out).mono ?_
 rintro e w4 ⟨s0,s1,s2,s3,rfl,hs,hv,hbl⟩
 have HV:=Lib.hid hv;clear hv;have HM':=Lib.hid (HM.out.on hbl);have KK':=Lib.hid (KK.out.same hbl);have zk:=KK'.out.lt;clear HM KK hbl;have HM:=HM';have KK:=KK';clear HM' KK';clear x0 x1 x2 x3 xl u0 u1 u2 u3 ul zk;have kr:=HM.out.row (b:=w.heap.size+1+1) (c0:=0) (c1:=0) (c2:=0) (c3:=0) (by simp);have y0:=kr.c0; have y1:=kr.c1; have y2:=kr.c2; have y3:=kr.c3; have yf:=kr.fr;clear kr;have yl:=HM.out.lt (b:=w.heap.size+1+1) (c0:=0) (c1:=0) (c2:=0) (c3:=0) (by simp);go_wp2_with fail;refine bodyPost_ret (v:=.tuple #[.agg #[.int .u64 s0,.int .u64 s1,.int .u64 s2,.int .u64 s3],.int .i64 0]) (by simp[results,results195,go_sem, *]) rfl ?_;refine⟨_,_,_,_,rfl,hs,HV.out,?_⟩;exact aZ HM.out.1 (by omega) _ _ _ _
set_option maxHeartbeats 2000000 in
theorem Og (f:Int) (F:FC) (hf:FieldIs f F) (a0 a1 a2 a3 b0 b1 b2 b3:Nat) (ha:cF a0 a1 a2 a3) (hb:cF b0 b1 b2 b3) (la:aC a0 a1 a2 a3<F.M) (lb:aC b0 b1 b2 b3<F.M) (w:World) :
  Calls prog 158 #[.int .i64 f,.agg #[.int .u64 a0,.int .u64 a1,.int .u64 a2,.int .u64 a3],.agg #[.int .u64 b0,.int .u64 b1,.int .u64 b2,.int .u64 b3]] w (He 0 ((aC a0 a1 a2 a3+F.M-aC b0 b1 b2 b3)%F.M) w):=by
 go_enter func158,ntmps158
 go_wp2_with fail;refine (dL f F hf _).mono ?_
 rintro e w1 ⟨rfl,hbl⟩
 have M1:=((((Mem.nil w).new (w.heap.size) a0 a1 a2 a3 27 (by simp)).new (w.heap.size+1) b0 b1 b2 b3 27 (by simp)).new (w.heap.size+1+1) 0 0 0 0 27 (by simp)).on hbl;clear hbl;have z0:w.heap.size<w1.heap.size:=M1.lt (c0:=a0) (c1:=a1) (c2:=a2) (c3:=a3) (by simp);have z1:w.heap.size+1<w1.heap.size:=M1.lt (c0:=b0) (c1:=b1) (c2:=b2) (c3:=b3) (by simp);have z2:w.heap.size+1+1<w1.heap.size:=M1.lt (c0:=0) (c1:=0) (c2:=0) (c3:=0) (by simp);have HM:=Lib.hid (M1.on ((Below.refl _ _).alloc (Nat.le_refl _) (.cells #[.int .u64 F.m0,.int .u64 F.m1,.int .u64 F.m2,.int .u64 F.m3,.int .u64 F.inv,.int .u64 F.s0,.int .u64 F.s1,.int .u64 F.s2,.int .u64 F.s3] 157)));have KK:=Lib.hid (KIs.new w1 F 157);have kr:=M1.row (b:=w.heap.size) (c0:=a0) (c1:=a1) (c2:=a2) (c3:=a3) (by simp);have x0:=kr.c0; have x1:=kr.c1; have x2:=kr.c2; have x3:=kr.c3;clear kr;have xl:=M1.lt (b:=w.heap.size) (c0:=a0) (c1:=a1) (c2:=a2) (c3:=a3) (by simp);go_wp2_with fail;refine (cW F hf.ok w1.heap.size a0 a1 a2 a3 ha _ KK.out).mono ?_
 rintro e w2 ⟨he,hbl⟩
 rw[show yT (aC a0 a1 a2 a3) F.M=true from decide_eq_true la]at he;subst he;have HM':=Lib.hid (HM.out.on hbl);have KK':=Lib.hid (KK.out.same hbl);have zk:=KK'.out.lt;clear HM KK hbl M1;have HM:=HM';have KK:=KK';clear HM' KK';clear x0 x1 x2 x3 xl zk;have kr:=HM.out.row (b:=w.heap.size+1) (c0:=b0) (c1:=b1) (c2:=b2) (c3:=b3) (by simp);have x0:=kr.c0; have x1:=kr.c1; have x2:=kr.c2; have x3:=kr.c3;clear kr;have xl:=HM.out.lt (b:=w.heap.size+1) (c0:=b0) (c1:=b1) (c2:=b2) (c3:=b3) (by simp);go_wp2_with fail;refine (cW F hf.ok w1.heap.size b0 b1 b2 b3 hb _ KK.out).mono ?_
 rintro e w3 ⟨he,hbl⟩
 rw[show yT (aC b0 b1 b2 b3) F.M=true from decide_eq_true lb]at he;subst he;have HM':=Lib.hid (HM.out.on hbl);have KK':=Lib.hid (KK.out.same hbl);have zk:=KK'.out.lt;clear HM KK hbl;have HM:=HM';have KK:=KK';clear HM' KK';clear x0 x1 x2 x3 xl zk;have kr:=HM.out.row (b:=w.heap.size) (c0:=a0) (c1:=a1) (c2:=a2) (c3:=a3) (by simp);have x0:=kr.c0; have x1:=kr.c1; have x2:=kr.c2; have x3:=kr.c3;clear kr;have xl:=HM.out.lt (b:=w.heap.size) (c0:=a0) (c1:=a1) (c2:=a2) (c3:=a3) (by simp);have kr:=HM.out.row (b:=w.heap.size+1) (c0:=b0) (c1:=b1) (c2:=b2) (c3:=b3) (by simp);have u0:=kr.c0; have u1:=kr.c1; have u2:=kr.c2; have u3:=kr.c3;clear kr;have ul:=HM.out.lt (b:=w.heap.size+1) (c0:=b0) (c1:=b1) (c2:=b2) (c3:=b3) (by simp);go_wp2_with fail;refine (oA F hf.ok w1.heap.size a0 a1 a2 a3 b0 b1 b2 b3 ha hb la lb _ KK.out).mono ?_
 rintro e w4 ⟨s0,s1,s2,s3,rfl,hs,hv,hbl⟩
 have HV:=Lib.hid hv;clear hv;have HM':=Lib.hid (HM.out.on hbl);have KK':=Lib.hid (KK.out.same hbl);have zk:=KK'.out.lt;clear HM KK hbl;have HM:=HM';have KK:=KK';clear HM' KK';clear x0 x1 x2 x3 xl u0 u1 u2 u3 ul zk;have kr:=HM.out.row (b:=w.heap.size+1+1) (c0:=0) (c1:=0) (c2:=0) (c3:=0) (by simp);have y0:=kr.c0; have y1:=kr.c1; have y2:=kr.c2; have y3:=kr.c3; have yf:=kr.fr;clear kr;have yl:=HM.out.lt (b:=w.heap.size+1+1) (c0:=0) (c1:=0) (c2:=0) (c3:=0) (by simp);go_wp2_with fail;refine bodyPost_ret (v:=.tuple #[.agg #[.int .u64 s0,.int .u64 s1,.int .u64 s2,.int .u64 s3],.int .i64 0]) (by simp[results,results158,go_sem, *]) rfl ?_;refine⟨_,_,_,_,rfl,hs,HV.out,?_⟩;exact aZ HM.out.1 (by omega) _ _ _ _
set_option maxHeartbeats 2000000 in
theorem Oi (f:Int) (F:FC) (hf:FieldIs f F) (a0 a1 a2 a3 b0 b1 b2 b3:Nat) (ha:cF a0 a1 a2 a3) (hb:cF b0 b1 b2 b3) (la:aC a0 a1 a2 a3<F.M) (lb:aC b0 b1 b2 b3<F.M) (w:World) :
  Calls prog 189 #[.int .i64 f,.agg #[.int .u64 a0,.int .u64 a1,.int .u64 a2,.int .u64 a3],.agg #[.int .u64 b0,.int .u64 b1,.int .u64 b2,.int .u64 b3]] w (He 0 (aC a0 a1 a2 a3*aC b0 b1 b2 b3%F.M) w):=by
 go_enter func189,ntmps189
 go_wp2_with fail;refine (dL f F hf _).mono ?_
 rintro e w1 ⟨rfl,hbl⟩
 have M1:=((((Mem.nil w).new (w.heap.size) a0 a1 a2 a3 27 (by simp)).new (w.heap.size+1) b0 b1 b2 b3 27 (by simp)).new (w.heap.size+1+1) 0 0 0 0 27 (by simp)).on hbl;clear hbl;have z0:w.heap.size<w1.heap.size:=M1.lt (c0:=a0) (c1:=a1) (c2:=a2) (c3:=a3) (by simp);have z1:w.heap.size+1<w1.heap.size:=M1.lt (c0:=b0) (c1:=b1) (c2:=b2) (c3:=b3) (by simp);have z2:w.heap.size+1+1<w1.heap.size:=M1.lt (c0:=0) (c1:=0) (c2:=0) (c3:=0) (by simp);have HM:=Lib.hid (M1.on ((Below.refl _ _).alloc (Nat.le_refl _) (.cells #[.int .u64 F.m0,.int .u64 F.m1,.int .u64 F.m2,.int .u64 F.m3,.int .u64 F.inv,.int .u64 F.s0,.int .u64 F.s1,.int .u64 F.s2,.int .u64 F.s3] 157)));have KK:=Lib.hid (KIs.new w1 F 157);have kr:=M1.row (b:=w.heap.size) (c0:=a0) (c1:=a1) (c2:=a2) (c3:=a3) (by simp);have x0:=kr.c0; have x1:=kr.c1; have x2:=kr.c2; have x3:=kr.c3;clear kr;have xl:=M1.lt (b:=w.heap.size) (c0:=a0) (c1:=a1) (c2:=a2) (c3:=a3) (by simp);go_wp2_with fail;refine (cW F hf.ok w1.heap.size a0 a1 a2 a3 ha _ KK.out).mono ?_
 rintro e w2 ⟨he,hbl⟩
 rw[show yT (aC a0 a1 a2 a3) F.M=true from decide_eq_true la]at he;subst he;have HM':=Lib.hid (HM.out.on hbl);have KK':=Lib.hid (KK.out.same hbl);have zk:=KK'.out.lt;clear HM KK hbl M1;have HM:=HM';have KK:=KK';clear HM' KK';clear x0 x1 x2 x3 xl zk;have kr:=HM.out.row (b:=w.heap.size+1) (c0:=b0) (c1:=b1) (c2:=b2) (c3:=b3) (by simp);have x0:=kr.c0; have x1:=kr.c1; have x2:=kr.c2; have x3:=kr.c3;clear kr;have xl:=HM.out.lt (b:=w.heap.size+1) (c0:=b0) (c1:=b1) (c2:=b2) (c3:=b3) (by simp);go_wp2_with fail;refine (cW F hf.ok w1.heap.size b0 b1 b2 b3 hb _ KK.out).mono ?_
 rintro e w3 ⟨he,hbl⟩
 rw[show yT (aC b0 b1 b2 b3) F.M=true from decide_eq_true lb]at he;subst he;have HM':=Lib.hid (HM.out.on hbl);have KK':=Lib.hid (KK.out.same hbl);have zk:=KK'.out.lt;clear HM KK hbl;have HM:=HM';have KK:=KK';clear HM' KK';clear x0 x1 x2 x3 xl zk;have kr:=HM.out.row (b:=w.heap.size) (c0:=a0) (c1:=a1) (c2:=a2) (c3:=a3) (by simp);have x0:=kr.c0; have x1:=kr.c1; have x2:=kr.c2; have x3:=kr.c3;clear kr;have xl:=HM.out.lt (b:=w.heap.size) (c0:=a0) (c1:=a1) (c2:=a2) (c3:=a3) (by simp);have kr:=HM.out.row (b:=w.heap.size+1) (c0:=b0) (c1:=b1) (c2:=b2) (c3:=b3) (by simp);have u0:=kr.c0; have u1:=kr.c1; have u2:=kr.c2; have u3:=kr.c3;clear kr;have ul:=HM.out.lt (b:=w.heap.size+1) (c0:=b0) (c1:=b1) (c2:=b2) (c3:=b3) (by simp);go_wp2_with fail;refine (zF F hf.ok w1.heap.size a0 a1 a2 a3 b0 b1 b2 b3 ha hb lb _ KK.out).mono ?_
 rintro e w4 ⟨s0,s1,s2,s3,rfl,hs,hv,hbl⟩
 have HV:=Lib.hid hv;clear hv;have HM':=Lib.hid (HM.out.on hbl);have KK':=Lib.hid (KK.out.same hbl);have zk:=KK'.out.lt;clear HM KK hbl;have HM:=HM';have KK:=KK';clear HM' KK';clear x0 x1 x2 x3 xl u0 u1 u2 u3 ul zk;have kr:=HM.out.row (b:=w.heap.size+1+1) (c0:=0) (c1:=0) (c2:=0) (c3:=0) (by simp);have y0:=kr.c0; have y1:=kr.c1; have y2:=kr.c2; have y3:=kr.c3; have yf:=kr.fr;clear kr;have yl:=HM.out.lt (b:=w.heap.size+1+1) (c0:=0) (c1:=0) (c2:=0) (c3:=0) (by simp);go_wp2_with fail;refine bodyPost_ret (v:=.tuple #[.agg #[.int .u64 s0,.int .u64 s1,.int .u64 s2,.int .u64 s3],.int .i64 0]) (by simp[results,results189,go_sem, *]) rfl ?_;refine⟨_,_,_,_,rfl,hs,HV.out,?_⟩;exact aZ HM.out.1 (by omega) _ _ _ _
set_option maxHeartbeats 2000000 in
theorem OD (f c:Int) (a0 a1 a2 a3:Nat) (ha:cF a0 a1 a2 a3) (h:aKD f (aC a0 a1 a2 a3) c) (w:World) :
  Calls prog 81 #[.int .i64 f,.agg #[.int .u64 a0,.int .u64 a1,.int .u64 a2,.int .u64 a3]] w fun e w'=>e=.returned (.int .i64 c)∧Below w.heap.size w w':=by
 rcases h with⟨h1,h2,rfl⟩|⟨F,hf,la,rfl⟩
 ·go_enter func81,ntmps81
  go_wp2_with fail;refine (VP f h1 h2 _).mono ?_
  rintro e w1 ⟨rfl,hbl⟩
  have M1:=((Mem.nil w).new (w.heap.size) a0 a1 a2 a3 27 (by simp)).on hbl;clear hbl;have z0:w.heap.size<w1.heap.size:=M1.lt (c0:=a0) (c1:=a1) (c2:=a2) (c3:=a3) (by simp);have HM:=Lib.hid (M1.on ((Below.refl _ _).alloc (Nat.le_refl _) (.cells #[.int .u64 0,.int .u64 0,.int .u64 0,.int .u64 0,.int .u64 0,.int .u64 0,.int .u64 0,.int .u64 0,.int .u64 0] 157)));go_wp2_with fail;refine (GH _).mono ?_
  rintro e w2 ⟨rfl,rfl⟩
  go_wp2_with fail;refine bodyPost_ret (v:=.int .i64 1) (by simp[results,results81,go_sem, *]) rfl ?_;exact⟨rfl,HM.out.1⟩
 ·go_enter func81,ntmps81
  go_wp2_with fail;refine (dL f F hf _).mono ?_
  rintro e w1 ⟨rfl,hbl⟩
  have M1:=((Mem.nil w).new (w.heap.size) a0 a1 a2 a3 27 (by simp)).on hbl;clear hbl;have z0:w.heap.size<w1.heap.size:=M1.lt (c0:=a0) (c1:=a1) (c2:=a2) (c3:=a3) (by simp);have HM:=Lib.hid (M1.on ((Below.refl _ _).alloc (Nat.le_refl _) (.cells #[.int .u64 F.m0,.int .u64 F.m1,.int .u64 F.m2,.int .u64 F.m3,.int .u64 F.inv,.int .u64 F.s0,.int .u64 F.s1,.int .u64 F.s2,.int .u64 F.s3] 157)));have KK:=Lib.hid (KIs.new w1 F 157);have kr:=M1.row (b:=w.heap.size) (c0:=a0) (c1:=a1) (c2:=a2) (c3:=a3) (by simp);have x0:=kr.c0; have x1:=kr.c1; have x2:=kr.c2; have x3:=kr.c3;clear kr;have xl:=M1.lt (b:=w.heap.size) (c0:=a0) (c1:=a1) (c2:=a2) (c3:=a3) (by simp);go_wp2_with fail;refine (cW F hf.ok w1.heap.size a0 a1 a2 a3 ha _ KK.out).mono ?_
  rintro e w2 ⟨he,hbl⟩
  rw[show yT (aC a0 a1 a2 a3) F.M=false from decide_eq_false la]at he;subst he;have HM':=Lib.hid (HM.out.on hbl);have KK':=Lib.hid (KK.out.same hbl);have zk:=KK'.out.lt;clear HM KK hbl M1;have HM:=HM';have KK:=KK';clear HM' KK';clear x0 x1 x2 x3 xl zk;go_wp2_with fail;refine (uN _).mono ?_
  rintro e w3 ⟨rfl,rfl⟩
  go_wp2_with fail;refine bodyPost_ret (v:=.int .i64 21) (by simp[results,results81,go_sem, *]) rfl ?_;exact⟨rfl,HM.out.1⟩
set_option maxHeartbeats 2000000 in
theorem VD (f:Int) (F:FC) (hf:FieldIs f F) (a0 a1 a2 a3:Nat) (ha:cF a0 a1 a2 a3) (la:aC a0 a1 a2 a3<F.M) (w:World) :
  Calls prog 81 #[.int .i64 f,.agg #[.int .u64 a0,.int .u64 a1,.int .u64 a2,.int .u64 a3]] w (fun e w'=>e=.returned (.int .i64 0)∧Below w.heap.size w w'):=by
 go_enter func81,ntmps81
 go_wp2_with fail;refine (dL f F hf _).mono ?_
 rintro e w1 ⟨rfl,hbl⟩
 have M1:=((Mem.nil w).new (w.heap.size) a0 a1 a2 a3 27 (by simp)).on hbl;clear hbl;have z0:w.heap.size<w1.heap.size:=M1.lt (c0:=a0) (c1:=a1) (c2:=a2) (c3:=a3) (by simp);have HM:=Lib.hid (M1.on ((Below.refl _ _).alloc (Nat.le_refl _) (.cells #[.int .u64 F.m0,.int .u64 F.m1,.int .u64 F.m2,.int .u64 F.m3,.int .u64 F.inv,.int .u64 F.s0,.int .u64 F.s1,.int .u64 F.s2,.int .u64 F.s3] 157)));have KK:=Lib.hid (KIs.new w1 F 157);have kr:=M1.row (b:=w.heap.size) (c0:=a0) (c1:=a1) (c2:=a2) (c3:=a3) (by simp);have x0:=kr.c0; have x1:=kr.c1; have x2:=kr.c2; have x3:=kr.c3;clear kr;have xl:=M1.lt (b:=w.heap.size) (c0:=a0) (c1:=a1) (c2:=a2) (c3:=a3) (by simp);go_wp2_with fail;refine (cW F hf.ok w1.heap.size a0 a1 a2 a3 ha _ KK.out).mono ?_
 rintro e w2 ⟨he,hbl⟩
 rw[show yT (aC a0 a1 a2 a3) F.M=true from decide_eq_true la]at he;subst he;have HM':=Lib.hid (HM.out.on hbl);have KK':=Lib.hid (KK.out.same hbl);have zk:=KK'.out.lt;clear HM KK hbl M1;have HM:=HM';have KK:=KK';clear HM' KK';clear x0 x1 x2 x3 xl zk;go_wp2_with fail;go_ret;exact⟨rfl,HM.out.1⟩
set_option maxHeartbeats 2000000 in
theorem VA (f:Int) (F:FC) (hf:FieldIs f F) (a0 a1 a2 a3:Nat) (ha:cF a0 a1 a2 a3) (la:aC a0 a1 a2 a3<F.M) (w:World) :
  Calls prog 99 #[.int .i64 f,.agg #[.int .u64 a0,.int .u64 a1,.int .u64 a2,.int .u64 a3]] w (fun e w'=>e=.returned (.tuple #[.bool (dT F.M (aC a0 a1 a2 a3)),.int .i64 0])∧Below w.heap.size w w'):=by
 go_enter func99,ntmps99
 go_wp2_with fail;refine (dL f F hf _).mono ?_
 rintro e w1 ⟨rfl,hbl⟩
 have M1:=((Mem.nil w).new (w.heap.size) a0 a1 a2 a3 27 (by simp)).on hbl;clear hbl;have z0:w.heap.size<w1.heap.size:=M1.lt (c0:=a0) (c1:=a1) (c2:=a2) (c3:=a3) (by simp);have HM:=Lib.hid (M1.on ((Below.refl _ _).alloc (Nat.le_refl _) (.cells #[.int .u64 F.m0,.int .u64 F.m1,.int .u64 F.m2,.int .u64 F.m3,.int .u64 F.inv,.int .u64 F.s0,.int .u64 F.s1,.int .u64 F.s2,.int .u64 F.s3] 157)));have KK:=Lib.hid (KIs.new w1 F 157);have kr:=M1.row (b:=w.heap.size) (c0:=a0) (c1:=a1) (c2:=a2) (c3:=a3) (by simp);have x0:=kr.c0; have x1:=kr.c1; have x2:=kr.c2; have x3:=kr.c3;clear kr;have xl:=M1.lt (b:=w.heap.size) (c0:=a0) (c1:=a1) (c2:=a2) (c3:=a3) (by simp);go_wp2_with fail;refine (cW F hf.ok w1.heap.size a0 a1 a2 a3 ha _ KK.out).mono ?_
 rintro e w2 ⟨he,hbl⟩
 rw[show yT (aC a0 a1 a2 a3) F.M=true from decide_eq_true la]at he;subst he;have HM':=Lib.hid (HM.out.on hbl);have KK':=Lib.hid (KK.out.same hbl);have zk:=KK'.out.lt;clear HM KK hbl M1;have HM:=HM';have KK:=KK';clear HM' KK';clear x0 x1 x2 x3 xl zk;have kr:=HM.out.row (b:=w.heap.size) (c0:=a0) (c1:=a1) (c2:=a2) (c3:=a3) (by simp);have x0:=kr.c0; have x1:=kr.c1; have x2:=kr.c2; have x3:=kr.c3;clear kr;have xl:=HM.out.lt (b:=w.heap.size) (c0:=a0) (c1:=a1) (c2:=a2) (c3:=a3) (by simp);go_wp2_with fail;refine (pQ F hf.ok w1.heap.size a0 a1 a2 a3 ha la _ KK.out).mono ?_
 rintro e w4 ⟨rfl,hbl⟩
 have HM':=Lib.hid (HM.out.on hbl);have KK':=Lib.hid (KK.out.same hbl);have zk:=KK'.out.lt;clear HM KK hbl;have HM:=HM';have KK:=KK';clear HM' KK';clear x0 x1 x2 x3 xl zk;go_wp2_with fail
 go_ret2
 exact⟨rfl,HM.out.1⟩
set_option maxHeartbeats 2000000 in
theorem Oo (f:Int) (F:FC) (hf:FieldIs f F) (a0 a1 a2 a3 b0 b1 b2 b3:Nat) (ha:cF a0 a1 a2 a3) (hb:cF b0 b1 b2 b3) (la:aC a0 a1 a2 a3<F.M) (lb:aC b0 b1 b2 b3<F.M) (hz:aC b0 b1 b2 b3≠0) (w:World) :
  Calls prog 157 #[.int .i64 f,.agg #[.int .u64 a0,.int .u64 a1,.int .u64 a2,.int .u64 a3],.agg #[.int .u64 b0,.int .u64 b1,.int .u64 b2,.int .u64 b3]] w (He 0 (aC a0 a1 a2 a3*(aC b0 b1 b2 b3^(F.M-2))%F.M) w):=by
 have HE:=Lib.hid (show ∀w,(Op.equalIn 10000 27 (.agg #[.int .u64 b0,.int .u64 b1,.int .u64 b2,.int .u64 b3]) (.agg #[.int .u64 0,.int .u64 0,.int .u64 0,.int .u64 0])).run prog w=.ok false w from fun w=>by
  have h:=mC 9998 b0 b1 b2 b3 0 0 0 0 w;have q:yU b0 b1 b2 b3 0 0 0 0=false:=by
   cases q:yU b0 b1 b2 b3 0 0 0 0
   ·rfl
   ·exact absurd (((jU hb KQ).1 q).trans rfl) hz
  rw[q]at h;exact h)
 have hG:=sV;clear hz
 go_enter func157,ntmps157
 go_wp2_with fail;refine (dL f F hf _).mono ?_
 rintro e w1 ⟨rfl,hbl⟩
 have M1:=((((Mem.nil w).new (w.heap.size) a0 a1 a2 a3 27 (by simp)).new (w.heap.size+1) b0 b1 b2 b3 27 (by simp)).new (w.heap.size+1+1) 0 0 0 0 27 (by simp)).on hbl;clear hbl;have z0:w.heap.size<w1.heap.size:=M1.lt (c0:=a0) (c1:=a1) (c2:=a2) (c3:=a3) (by simp);have z1:w.heap.size+1<w1.heap.size:=M1.lt (c0:=b0) (c1:=b1) (c2:=b2) (c3:=b3) (by simp);have z2:w.heap.size+1+1<w1.heap.size:=M1.lt (c0:=0) (c1:=0) (c2:=0) (c3:=0) (by simp);have HM:=Lib.hid (M1.on ((Below.refl _ _).alloc (Nat.le_refl _) (.cells #[.int .u64 F.m0,.int .u64 F.m1,.int .u64 F.m2,.int .u64 F.m3,.int .u64 F.inv,.int .u64 F.s0,.int .u64 F.s1,.int .u64 F.s2,.int .u64 F.s3] 157)));have KK:=Lib.hid (KIs.new w1 F 157);have kr:=M1.row (b:=w.heap.size) (c0:=a0) (c1:=a1) (c2:=a2) (c3:=a3) (by simp);have x0:=kr.c0; have x1:=kr.c1; have x2:=kr.c2; have x3:=kr.c3;clear kr;have xl:=M1.lt (b:=w.heap.size) (c0:=a0) (c1:=a1) (c2:=a2) (c3:=a3) (by simp);go_wp2_with fail;refine (cW F hf.ok w1.heap.size a0 a1 a2 a3 ha _ KK.out).mono ?_
 rintro e w2 ⟨he,hbl⟩
 rw[show yT (aC a0 a1 a2 a3) F.M=true from decide_eq_true la]at he;subst he;have HM':=Lib.hid (HM.out.on hbl);have KK':=Lib.hid (KK.out.same hbl);have zk:=KK'.out.lt;clear HM KK hbl M1;have HM:=HM';have KK:=KK';clear HM' KK';clear x0 x1 x2 x3 xl zk;have kr:=HM.out.row (b:=w.heap.size+1) (c0:=b0) (c1:=b1) (c2:=b2) (c3:=b3) (by simp);have x0:=kr.c0; have x1:=kr.c1; have x2:=kr.c2; have x3:=kr.c3;clear kr;have xl:=HM.out.lt (b:=w.heap.size+1) (c0:=b0) (c1:=b1) (c2:=b2) (c3:=b3) (by simp);go_wp2_with fail;refine (cW F hf.ok w1.heap.size b0 b1 b2 b3 hb _ KK.out).mono ?_
 rintro e w3 ⟨he,hbl⟩
 rw[show yT (aC b0 b1 b2 b3) F.M=true from decide_eq_true lb]at he;subst he;have HM':=Lib.hid (HM.out.on hbl);have KK':=Lib.hid (KK.out.same hbl);have zk:=KK'.out.lt;clear HM KK hbl;have HM:=HM';have KK:=KK';clear HM' KK';clear x0 x1 x2 x3 xl zk;have kr:=HM.out.row (b:=w.heap.size+1) (c0:=b0) (c1:=b1) (c2:=b2) (c3:=b3) (by simp);have u0:=kr.c0; have u1:=kr.c1; have u2:=kr.c2; have u3:=kr.c3;clear kr;have ul:=HM.out.lt (b:=w.heap.size+1) (c0:=b0) (c1:=b1) (c2:=b2) (c3:=b3) (by simp);have hE:=HE.out;go_wp2_with fail;clear u0 u1 u2 u3 ul hE;refine cG (fun wx=>Mem w wx [(w.heap.size+1,b0,b1,b2,b3),(w.heap.size,a0,a1,a2,a3)]) 6 (by kernel_rfl) ?_;have HM':=Lib.hid (HM.out.drewN 1);have KK':=Lib.hid (KK.out.drewN 1);clear HM KK;have HM:=HM';have KK:=KK';clear HM' KK';have HS:=HM.out.sub (rs':=[(w.heap.size+1,b0,b1,b2,b3),(w.heap.size,a0,a1,a2,a3)]) (by simp);refine aD (i:=0) (v:=.agg #[.int .u64 b0,.int .u64 b1,.int .u64 b2,.int .u64 b3]) rfl (by kernel_rfl) (by kernel_rfl) (by kernel_rfl) (by kernel_rfl) (fun _ _ _ h=>h) HS (Or.inl ⟨by kernel_rfl,fun wx hx => ?_⟩) ?_
 ·have kr:=hx.row (b:=w.heap.size+1) (c0:=b0) (c1:=b1) (c2:=b2) (c3:=b3) (by simp);have x0:=kr.c0; have x1:=kr.c1; have x2:=kr.c2; have x3:=kr.c3;clear kr HS hx;go_simp
 simp only[Act.put,List.setIfInBounds_toArray,List.set_cons_zero,List.set_cons_succ];refine aD (i:=3) (v:=.agg #[.int .u64 a0,.int .u64 a1,.int .u64 a2,.int .u64 a3]) rfl (by kernel_rfl) (by kernel_rfl) (by kernel_rfl) (by kernel_rfl) (fun _ _ _ h=>h) HS (Or.inl ⟨by kernel_rfl,fun wx hx => ?_⟩) ?_
 ·have kr:=hx.row (b:=w.heap.size) (c0:=a0) (c1:=a1) (c2:=a2) (c3:=a3) (by simp);have x0:=kr.c0; have x1:=kr.c1; have x2:=kr.c2; have x3:=kr.c3;clear kr HS hx;go_simp
 simp only[Act.put,List.setIfInBounds_toArray,List.set_cons_zero,List.set_cons_succ];clear HS;refine aF (i:=1) (by kernel_rfl) rfl (fun K hK => ?_);go_simp;refine (cU F hf.ok w1.heap.size b0 b1 b2 b3 hb _ KK.out).mono ?_
 rintro e w4 ⟨i0,i1,i2,i3,rfl,hi,hv,hbl⟩
 have HVi:=Lib.hid hv;clear hv;have HM':=Lib.hid (HM.out.on hbl);have KK':=Lib.hid (KK.out.same hbl);have zk_w4:=KK'.out.lt;clear HM KK hbl;have HM:=HM';have KK:=KK';clear HM' KK';have HS:=HM.out.sub (rs':=[(w.heap.size+1,b0,b1,b2,b3),(w.heap.size,a0,a1,a2,a3)]) (by simp);refine hK.out _ _ (Or.inr HS) (fun _ => ?_);clear hK K;clear HS;refine aF (i:=2) (by kernel_rfl) rfl (fun K hK => ?_);go_simp;refine (oD F hf.ok (aC b0 b1 b2 b3) w1.heap.size i0 i1 i2 i3 hi HVi.out _ KK.out).mono ?_
 rintro e w5 ⟨j0,j1,j2,j3,rfl,hj,hv,hbl⟩
 have HVj:=Lib.hid hv;clear hv;have HM':=Lib.hid (HM.out.on hbl);have KK':=Lib.hid (KK.out.same hbl);have zk_w5:=KK'.out.lt;clear HM KK hbl;have HM:=HM';have KK:=KK';clear HM' KK';have HS:=HM.out.sub (rs':=[(w.heap.size+1,b0,b1,b2,b3),(w.heap.size,a0,a1,a2,a3)]) (by simp);refine hK.out _ _ (Or.inr HS) (fun _ => ?_);clear hK K;clear HS;refine aF (i:=4) (by kernel_rfl) rfl (fun K hK => ?_);go_simp;refine (cE F hf.ok w1.heap.size j0 j1 j2 j3 a0 a1 a2 a3 hj ha la _ KK.out).mono ?_
 rintro e w6 ⟨s0,s1,s2,s3,rfl,hs,hv,hbl⟩
 have HVs:=Lib.hid (show aC s0 s1 s2 s3=aC a0 a1 a2 a3*(aC b0 b1 b2 b3^(F.M-2))%F.M by rw[hv,HVj.out,xJ hf.ok,Nat.mul_comm]);clear hv;have HM':=Lib.hid (HM.out.on hbl);have KK':=Lib.hid (KK.out.same hbl);have zk_w6:=KK'.out.lt;clear HM KK hbl;have HM:=HM';have KK:=KK';clear HM' KK';have HS:=HM.out.sub (rs':=[(w.heap.size+1,b0,b1,b2,b3),(w.heap.size,a0,a1,a2,a3)]) (by simp);refine hK.out _ _ (Or.inr HS) (fun _ => ?_);clear hK K;clear HS;have kr:=HM.out.row (b:=w.heap.size+1+1) (c0:=0) (c1:=0) (c2:=0) (c3:=0) (by simp);have y0:=kr.c0; have y1:=kr.c1; have y2:=kr.c2; have y3:=kr.c3; have yf:=kr.fr;clear kr;have yl:=HM.out.lt (b:=w.heap.size+1+1) (c0:=0) (c1:=0) (c2:=0) (c3:=0) (by simp);refine aF (i:=5) (by kernel_rfl) rfl (fun K hK => ?_);go_simp;have HM':=Lib.hid ((HM.out.sub (rs':=[(w.heap.size+1+1,0,0,0,0),(w.heap.size+1,b0,b1,b2,b3),(w.heap.size,a0,a1,a2,a3)]) (by simp)).put s0 s1 s2 s3 (by omega) (by intro r hr; simp at hr; rcases hr with rfl|rfl<;>simp<;>omega));clear HM;have HM:=HM';clear HM';have HS:=HM.out.sub (rs':=[(w.heap.size+1,b0,b1,b2,b3),(w.heap.size,a0,a1,a2,a3)]) (by simp);refine hK.out _ _ (Or.inr HS) (fun _ => ?_);clear hK K;clear HS;refine aF (i:=6) (by kernel_rfl) rfl (fun K hK => ?_);go_simp;refine hK.out _ _ (Or.inl rfl) (fun _ => ?_);clear hK K;refine bR (by kernel_rfl) ?_;go_wp2_with fail;refine bodyPost_ret (v:=.tuple #[.agg #[.int .u64 s0,.int .u64 s1,.int .u64 s2,.int .u64 s3],.int .i64 0]) (by simp[results,results157,go_sem, *]) rfl ?_;exact⟨_,_,_,_,rfl,hs,HVs.out,HM.out.1⟩
end Go.Proofs.YtpjlhhpjpnacmaaGreatDoor
namespace Go.Proofs.YtpjlhhpjpnacmaaGreatDoor.Ex
open Go.Proofs.Tryz
open Go.RowKit
abbrev RM:Nat:=Go.Proofs.YtpjlhhpjpnacmaaGreatDoor.FR.M
abbrev aG:Nat:=115792089237316195423570985008687907853269984665640564039457584007913129639936
theorem fT {x:Nat} (h:x<RM):x<aG:=Nat.lt_trans h (by decide)
theorem eE:0<RM:=by decide
def Nr:gE
 | [.v (.im (.int .u64 (.ofNat n)))]=>some ([n<18446744073709551616],.one (.fl [.q n]))
 | _=>none
theorem Wk:∀cs pre r,Nr cs=some (pre,r)→bC pre→∀(args:List Value) (w:World),cP w cs args→bG prog 106 r args w:=by
 intro cs pre r hg hp args w ha;unfold Nr at hg;split at hg
 ·rename_i n;cases hg
  match args,ha with
  | [t],ha =>
   have h1:t=.int .u64 (Int.ofNat n):=ha.1;subst h1;refine (IH n hp.1 w).mono ?_
   rintro e w' ⟨rfl,hb⟩
   refine⟨?_,hb⟩;obtain⟨e0,e1,e2,e3⟩:=gY (s0:=n) (s1:=0) (s2:=0) (s3:=0) (x:=n) ⟨hp.1,by omega,by omega,by omega⟩ (by have:=hp.1; omega) (by unfold aC; omega);show Ending.returned _=Ending.returned (.agg #[.int .u64 (fw n 0:Nat),.int .u64 (fw n 1:Nat),.int .u64 (fw n 2:Nat),.int .u64 (fw n 3:Nat)]);rw[←e0,←e1,←e2,←e3];rfl
  | [],ha=>exact ha.elim
  | _::_::_,ha=>exact ha.2.elim
 ·cases hg
def el (f:Nat→Nat) (j:Nat):List At:=[.q (f j)]
def LV (w:World) (v:Value) (N:Nat) (f:Nat→Nat):Prop:=∃p m,v=.slice p N m∧N≤m∧(∀j,j<N→f j<aG)∧(0<N→∃b o,p=some ⟨b,o,none⟩∧b<w.heap.size∧w.rangeAt b o (aA (cJ (el f) 0 N)))
theorem LV.on {w w':World} {v:Value} {N:Nat} {f:Nat→Nat} (h:LV w v N f) (hb:Below w.heap.size w w'):LV w' v N f:=by
 obtain⟨p,m,h1,h2,h3,h4⟩:=h;exact⟨p,m,h1,h2,h3,fun h=>by
  obtain⟨b,o,e,h5,h6⟩:=h4 h;exact⟨b,o,e,Nat.lt_of_lt_of_le h5 hb.size,bJ hb h5 h6⟩⟩
theorem LV.ofS {w:World} {l:List At} {n m N:Nat} {f:Nat→Nat} {v:Value} (h:CA.ok w (.s l n m) v) (h1:aA l=aA (cJ (el f) 0 N)) (h2:n=N) (h3:N≤m) (h4:∀j,j<N→f j<aG):LV w v N f:=by
 obtain⟨b,o,rfl,hb,hr⟩:=h;rw[h1]at hr;exact⟨_,m,by rw[h2],h3,h4,fun _=>⟨b,o,rfl,hb,hr⟩⟩
theorem nU {w:World} {b o N i:Nat} {f:Nat→Nat} (hb:b<w.heap.size) (hr:w.rangeAt b o (aA (cJ (el f) 0 N))) (hi:i<N):oldOf w b (o+i*4) [.q (f i)] :=
 ⟨hb,TQ (f:=el f) (c:=4) (fun _=>rfl) hi hr⟩
def xO (w:World) (idx:Nat→Option Nat) (ld:Nat→Option (List At)) (gen:Nat→Option Value):Ext:={ Ext.none with idx:=idx,ld:=ld,gen:=gen,old:=oldOf w,T2:=WR,T3:=SS,T4:=XB,T5:=kX,T6:=Gy }
theorem dS (w:World) (idx:Nat→Option Nat) (ld:Nat→Option (List At)) (gen:Nat→Option Value):bQ prog { qG prog with x:=xO w idx ld gen } w.heap.size w :=
 ⟨(aV _).1,jT (fun b o l h=>h) (fun w' _=>FrAt.none _ _) (fun w' _=>FsAt.none _ _)⟩
def iP (x y:Nat):Nat:=(x+y)%RM
def iC (x y:Nat):Nat:=(x+RM-y)%RM
def bI (x y:Nat):Nat:=x*y%RM
def rnv (x:Nat):Nat:=1*(x^(RM-2))%RM
theorem dJ (x y:Nat):iP x y<RM:=Nat.mod_lt _ eE
theorem cS (x y:Nat):iC x y<RM:=Nat.mod_lt _ eE
theorem aL (x y:Nat):bI x y<RM:=Nat.mod_lt _ eE
theorem We (x:Nat):rnv x<RM:=Nat.mod_lt _ eE
theorem qQ:FieldIs 2 Go.Proofs.YtpjlhhpjpnacmaaGreatDoor.FR:=Or.inr ⟨rfl,rfl⟩
theorem pR {x:Nat} (h:x<RM):aC (fw x 0) (fw x 1) (fw x 2) (fw x 3)=x:=fG (fT h)
def Hm (op:Nat→Nat→Nat):gE
 | [.v (.im (.int .i64 2)),.v (.fl l),.v (.fl m)]=>match qZ l,qZ m with
  | some x,some y=>some ([x<RM,y<RM],.many [.fl [.q (op x y)],.im (.int .i64 0)])
  | _,_=>none
 | _=>none
theorem NX {fid:FuncId} {op:Nat→Nat→Nat} (hlt:∀x y,op x y<RM) (h:∀x y,x<RM→y<RM→∀w,Calls prog fid #[.int .i64 2,.agg (aA [At.q x]).toArray,.agg (aA [At.q y]).toArray] w (He 0 (op x y) w)) :
  ∀cs pre r,Hm op cs=some (pre,r)→bC pre→∀(args:List Value) (w:World),cP w cs args→bG prog fid r args w:=by
 intro cs pre r hg hp args w ha;unfold Hm at hg;split at hg
 ·rename_i l m;split at hg
  ·rename_i x y hx hy;cases hg
   match args,ha with
   | [t,v,u],ha =>
    obtain⟨h1,h2,h3,_⟩:=ha;have h1:t=.int .i64 2:=h1;have h2:v=.agg (aA l).toArray:=h2;have h3:u=.agg (aA m).toArray:=h3;rw[dP l x hx]at h2;rw[dP m y hy]at h3;subst h1; subst h2; subst h3;refine (h x y hp.1 hp.2.1 w).mono ?_
    rintro e w' ⟨s0,s1,s2,s3,rfl,hs,hv,hb⟩
    obtain⟨rfl,rfl,rfl,rfl⟩:=gY hs (fT (hlt x y)) hv;exact⟨rfl,hb⟩
   | [],ha=>exact ha.elim
   | [_],ha=>exact ha.2.elim
   | [_,_],ha=>exact ha.2.2.elim
   | _::_::_::_::_,ha=>exact ha.2.2.2.elim
  ·cases hg
 ·cases hg
theorem Sh:∀cs pre r,Hm iP cs=some (pre,r)→bC pre→∀(args:List Value) (w:World),cP w cs args→bG prog 195 r args w :=
 NX dJ fun x y hx hy w=>by
  have:=Oq 2 _ qQ _ _ _ _ _ _ _ _ (eN x) (eN y) (by rw[pR hx]; exact hx) (by rw[pR hy]; exact hy) w;rw[pR hx,pR hy]at this;exact this
theorem aCZ:∀cs pre r,Hm iC cs=some (pre,r)→bC pre→∀(args:List Value) (w:World),cP w cs args→bG prog 158 r args w :=
 NX cS fun x y hx hy w=>by
  have:=Og 2 _ qQ _ _ _ _ _ _ _ _ (eN x) (eN y) (by rw[pR hx]; exact hx) (by rw[pR hy]; exact hy) w;rw[pR hx,pR hy]at this;exact this
theorem Sg:∀cs pre r,Hm bI cs=some (pre,r)→bC pre→∀(args:List Value) (w:World),cP w cs args→bG prog 189 r args w :=
 NX aL fun x y hx hy w=>by
  have:=Oi 2 _ qQ _ _ _ _ _ _ _ _ (eN x) (eN y) (by rw[pR hx]; exact hx) (by rw[pR hy]; exact hy) w;rw[pR hx,pR hy]at this;exact this
def VT (x:Nat):Int:=if x<RM then 0 else 21
def Ob:gE
 | [.v (.im (.int .i64 2)),.v (.fl l)]=>match qZ l with
  | some x=>some ([x<aG],.one (.im (.int .i64 (VT x))))
  | none=>none
 | _=>none
theorem QM:∀cs pre r,Ob cs=some (pre,r)→bC pre→∀(args:List Value) (w:World),cP w cs args→bG prog 81 r args w:=by
 intro cs pre r hg hp args w ha;unfold Ob at hg;split at hg
 ·rename_i l;split at hg
  ·rename_i x hx;cases hg
   match args,ha with
   | [t,v],ha =>
    obtain⟨h1,h2,_⟩:=ha;have h1:t=.int .i64 2:=h1;have h2:v=.agg (aA l).toArray:=h2;rw[dP l x hx]at h2;subst h1; subst h2;unfold VT
    by_cases h:x<RM
    ·rw[if_pos h];exact VD 2 _ qQ _ _ _ _ (eN x) (by rw[fG hp.1]; exact h) w
    ·rw[if_neg h];exact OD 2 21 _ _ _ _ (eN x) (Or.inr ⟨_,qQ,by rw[fG hp.1]; exact h,rfl⟩) w
   | [],ha=>exact ha.elim
   | [_],ha=>exact ha.2.elim
   | _::_::_::_,ha=>exact ha.2.2.elim
  ·cases hg
 ·cases hg
def Zl (op:Nat→Nat) (c:Nat→List Prop):gE
 | [.v (.fl l)]=>match qZ l with|some x=>some (c x,.one (.fl [.q (op x)]))|none=>none
 | _=>none
def Tb (op:Nat→Nat→Nat) (c:Nat→Nat→List Prop):gE
 | [.v (.fl l),.v (.fl m)]=>match qZ l,qZ m with|some x,some y=>some (c x y,.one (.fl [.q (op x y)]))|_,_=>none
 | _=>none
def To (x y:Nat):List Prop:=[x<RM,y<RM]
theorem uE {f:FuncId} {op:Nat→Nat→Nat} {c:Nat→Nat→List Prop} (h:∀x y,bC (c x y)→∀args w,cP w [.v (.fl [.q x]),.v (.fl [.q y])] args→bG prog f (.one (.fl [.q (op x y)])) args w) :
  ∀cs pre r,Tb op c cs=some (pre,r)→bC pre→∀(args:List Value) (w:World),cP w cs args→bG prog f r args w:=by
 intro cs pre r hg hp args w ha;unfold Tb at hg;split at hg
 ·rename_i l m;split at hg
  ·rename_i x y hx hy;cases hg;refine h x y hp args w ?_
   match args,ha with
   | [v,u],ha =>
    refine⟨?_,?_,trivial⟩
    ·show v=.agg (aA (q1 x)).toArray;rw[←dP l x hx]; exact ha.1
    ·show u=.agg (aA (q1 y)).toArray;rw[←dP m y hy]; exact ha.2.1
   | [],ha=>exact ha.elim
   | [_],ha=>exact ha.2.elim
   | _::_::_::_,ha=>exact ha.2.2.elim
  ·cases hg
 ·cases hg
theorem xS {f:FuncId} {op:Nat→Nat} {c:Nat→List Prop} (h:∀x,bC (c x)→∀args w,cP w [.v (.fl [.q x])] args→bG prog f (.one (.fl [.q (op x)])) args w) :
  ∀cs pre r,Zl op c cs=some (pre,r)→bC pre→∀(args:List Value) (w:World),cP w cs args→bG prog f r args w:=by
 intro cs pre r hg hp args w ha;unfold Zl at hg;split at hg
 ·rename_i l;split at hg
  ·rename_i x hx;cases hg;refine h x hp args w ?_
   match args,ha with
   | [v],ha =>
    refine⟨?_,trivial⟩;show v=.agg (aA (q1 x)).toArray;rw[←dP l x hx]; exact ha.1
   | [],ha=>exact ha.elim
   | _::_::_,ha=>exact ha.2.elim
  ·cases hg
 ·cases hg
def PQ (v:Value) (N i:Nat):List Fact:=[.slot 5 (.im v),.slot 6 (.im (iI N)),.slot 7 (.im (iI i))]
theorem DY {x:Nat} (h:x<RM):aN .neq .i64 (VT x) 0=some (.bool false):=by unfold VT; rw[if_pos h]; rfl
theorem DZ {x:Nat} (h:¬x<RM):aN .neq .i64 (VT x) 0=some (.bool true):=by unfold VT; rw[if_neg h]; rfl
theorem VB {p:Nat→Prop} [DecidablePred p]:∀{N:Nat},(¬ ∀j,j<N→p j)→∃j,j<N∧(∀k,k<j→p k)∧¬p j:=by
 intro N
 induction N with
 | zero=>exact fun h=>(h fun j hj=>by omega).elim
 | succ N ih =>
  intro h
  by_cases h0:∀j,j<N→p j
  ·refine⟨N,by omega,h0,fun hp=>h fun j hj => ?_⟩
   by_cases e:j=N
   ·rw[e]; exact hp
   ·exact h0 j (by omega)
  ·obtain⟨j,h1,h2⟩:=ih h0;exact⟨j,by omega,h2⟩
def pM (N:Nat) (f:Nat→Nat):Prop:=∀j,j<N→f j<RM
instance (N:Nat) (f:Nat→Nat):Decidable (pM N f):=Nat.decidableBallLT N fun j _=>f j<RM
def Eo (f g:Nat→Nat):Nat→Nat
 | 0=>0
 | n+1=>iP (Eo f g n) (bI (f n) (g n))
theorem El (f g:Nat→Nat):∀n,Eo f g n<RM
 | 0=>eE
 | n+1=>dJ _ _
def Oj (x:Nat):Nat:=bI (bI (bI x x) (bI x x)) x
def inv (x:Nat):Nat:=x^(RM-2)%RM
theorem NN (x:Nat):inv x<RM:=Nat.mod_lt _ eE
def rz (wd fl pt r:Nat):Nat:=if r<fl/2 then wd else if fl/2+pt≤r then wd else 1
def pK (g f:Nat→Nat) (j q:Nat):Nat:=if q<j then g q else f q
theorem Br (g f:Nat→Nat):pK g f 0=f:=funext fun q=>by unfold pK; rw[if_neg (by omega)]
def wO (xs:Nat→Nat) (wd r:Nat) (f:Nat→Nat) (q:Nat):Nat:=iP (f q) (xs (r*wd+q))
def TK (k:Nat) (f:Nat→Nat):Nat→Nat:=pK (fun q=>Oj (f q)) f k
def zB (wd:Nat) (f:Nat→Nat) (j:Nat):Nat:=Eo (fun q=>inv (wd+(j+q))) f wd
def rnd (xs:Nat→Nat) (wd fl pt r:Nat) (f:Nat→Nat):Nat→Nat:=zB wd (TK (rz wd fl pt r) (wO xs wd r f))
def iK (xs:Nat→Nat) (wd fl pt:Nat):Nat→(Nat→Nat)→Nat→Nat
 | 0,f=>f
 | r+1,f=>rnd xs wd fl pt r (iK xs wd fl pt r f)
theorem Zw (x:Nat):Oj x<RM:=aL _ _
theorem Kl (xs:Nat→Nat) (wd r:Nat) (f:Nat→Nat) (q:Nat):wO xs wd r f q<RM:=dJ _ _
theorem Kk {k:Nat} {f:Nat→Nat} (h:∀q,f q<RM) (q:Nat):TK k f q<RM:=by
 unfold TK pK
 by_cases e:q<k
 ·rw[if_pos e]; exact Zw _
 ·rw[if_neg e]; exact h q
theorem QJ (wd:Nat) (f:Nat→Nat) (j:Nat):zB wd f j<RM:=El _ _ _
theorem QT {xs:Nat→Nat} {wd fl pt:Nat} {f:Nat→Nat} (h:∀q,q<wd→f q<RM):∀r q,q<wd→iK xs wd fl pt r f q<RM
 | 0,q,hq=>h q hq
 | r+1,q,hq=>QJ _ _ _
end Go.Proofs.YtpjlhhpjpnacmaaGreatDoor.Ex
