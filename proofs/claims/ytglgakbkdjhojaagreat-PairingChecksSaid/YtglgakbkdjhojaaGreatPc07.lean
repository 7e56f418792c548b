/- Pc07 -/
import Derived.Deep.RegionHeld3
import Derived.Deep.DeepCutAuto
import Derived.Deep.LoopGhost
import Derived.RegionTactic
import Derived.Laws.StructEq
import Derived.IntWalk
import Derived.LoopTactic
import Derived.StillTail
import Derived.KernelRfl
import Derived.Test.YtglgakbkdjhojaaGreatPc05
import Derived.Test.YtglgakbkdjhojaaGreatPc06
import Derived.Test.YtglgakbkdjhojaaGreatPc00
import Derived.Test.YtglgakbkdjhojaaGreatPc03
import Derived.Test.YtglgakbkdjhojaaGreatPc04
import Derived.Test.YtglgakbkdjhojaaGreatProg
set_option maxRecDepth 100000
set_option linter.unusedVariables false
set_option linter.unusedSimpArgs false
noncomputable section
namespace Go.Proofs.YtglgakbkdjhojaaGreat
open Go.Proofs.Tryz
open Go.RowKit
theorem aUT (a0 a1 a2 a3:Nat) (n:Int) (ha:cQ a0 a1 a2 a3) (h0:0<n) (hq:n/64=0) (w:World) :
  Calls prog 264 #[.agg #[.int .u64 a0,.int .u64 a1,.int .u64 a2,.int .u64 a3],.int .i64 n] w (cZ (fun v=>v=aG a0 a1 a2 a3*2^n.toNat%115792089237316195423570985008687907853269984665640564039457584007913129639936) w):=by
 obtain⟨p,hr,hp,en⟩:=Aq (by omega) 0 hq (by omega);have b1:n<256:=by omega
 have t0:decide (n≤0)=false:=decide_eq_false (by omega);obtain⟨lo0,hi0,u0,d0,bl0,bh0,e0,g0,m0⟩:=vL (a:=a0) (p:=p) ha.1 hp;obtain⟨lo1,hi1,u1,d1,KQ,bh1,e1,g1,m1⟩:=vL (a:=a1) (p:=p) ha.2.1 hp;obtain⟨lo2,hi2,u2,d2,KP,bh2,e2,g2,m2⟩:=vL (a:=a2) (p:=p) ha.2.2.1 hp;obtain⟨lo3,hi3,u3,d3,bl3,bh3,e3,g3,m3⟩:=vL (a:=a3) (p:=p) ha.2.2.2 hp;obtain⟨s1,o1,bs1,f1⟩:=NR KQ bh0 g0 m1;obtain⟨s2,o2,bs2,f2⟩:=NR KP bh1 g1 m2;obtain⟨s3,o3,bs3,f3⟩:=NR bl3 bh2 g2 m3;have HF:Hid (aG lo0 s1 s2 s3=aG a0 a1 a2 a3*2^n.toNat%115792089237316195423570985008687907853269984665640564039457584007913129639936):=Lib.hid (by
  have hk:cQ lo0 s1 s2 s3:=⟨bl0,bs1,bs2,bs3⟩;rw[en,xY];have:=e0.out;have:=e1.out;have:=e2.out;have:=e3.out;have:=f1.out;have:=f2.out;have:=f3.out;have hv:=bP hk;have hT:aG a0 a1 a2 a3*(18446744073709551616^((0:Int)).toNat*2^p)=aG a0 a1 a2 a3*2^p*1:=by
   rw[show 18446744073709551616^((0:Int)).toNat=1 by simp,Nat.mul_comm 1,Nat.mul_assoc]
  rw[hT];have hD:aG a0 a1 a2 a3*2^p=a0*2^p+18446744073709551616*(a1*2^p)+340282366920938463463374607431768211456*(a2*2^p)+6277101735386680763835789423207666416102355444464034512896*(a3*2^p):=by
   unfold aG; simp only[Nat.add_mul,Nat.mul_assoc]; omega
  rw[hD];unfold aG at hv ⊢;generalize 2^p=T at *;omega)
 clear e0 g0 m0 e1 g1 m1 e2 g2 m2 e3 g3 m3 f1 f2 f3;have HEN:=Lib.hid en;clear en
 go_enter func264,ntmps264
 go_wp2_with fail;refine wp_loop_rounds 5 ?_;rw[rounds_succ];go_wp2_with fail;rw[rounds_succ];go_wp2_with fail
 go_region
 go_wp2_with fail;rw[rounds_succ];go_wp2_with fail
 go_region
 go_wp2_with fail;rw[rounds_succ];go_wp2_with fail
 go_region
 go_wp2_with fail;rw[rounds_succ];go_wp2_with fail;refine bodyPost_ret (v:=.agg #[.int .u64 lo0,.int .u64 s1,.int .u64 s2,.int .u64 s3]) (by simp[results,results264,go_sem]) rfl ?_;refine⟨lo0,s1,s2,s3,rfl,⟨bl0,bs1,bs2,bs3⟩,HF.out,?_⟩
 repeat (first|exact Below.refl _ _|refine Below.drew ?_|refine Below.alloc ?_ (by first|(simp; done)|(simp; omega)) _)
theorem aUS (a0 a1 a2 a3:Nat) (n:Int) (ha:cQ a0 a1 a2 a3) (h0:0<n) (hq:n/64=1) (w:World) :
  Calls prog 264 #[.agg #[.int .u64 a0,.int .u64 a1,.int .u64 a2,.int .u64 a3],.int .i64 n] w (cZ (fun v=>v=aG a0 a1 a2 a3*2^n.toNat%115792089237316195423570985008687907853269984665640564039457584007913129639936) w):=by
 obtain⟨p,hr,hp,en⟩:=Aq (by omega) 1 hq (by omega);have b1:n<256:=by omega
 have t0:decide (n≤0)=false:=decide_eq_false (by omega);obtain⟨lo0,hi0,u0,d0,bl0,bh0,e0,g0,m0⟩:=vL (a:=a0) (p:=p) ha.1 hp;obtain⟨lo1,hi1,u1,d1,KQ,bh1,e1,g1,m1⟩:=vL (a:=a1) (p:=p) ha.2.1 hp;obtain⟨lo2,hi2,u2,d2,KP,bh2,e2,g2,m2⟩:=vL (a:=a2) (p:=p) ha.2.2.1 hp;obtain⟨s1,o1,bs1,f1⟩:=NR KQ bh0 g0 m1;obtain⟨s2,o2,bs2,f2⟩:=NR KP bh1 g1 m2;have HF:Hid (aG 0 lo0 s1 s2=aG a0 a1 a2 a3*2^n.toNat%115792089237316195423570985008687907853269984665640564039457584007913129639936):=Lib.hid (by
  have hk:cQ 0 lo0 s1 s2:=⟨(by omega),bl0,bs1,bs2⟩;rw[en,xY];have:=e0.out;have:=e1.out;have:=e2.out;have:=f1.out;have:=f2.out;have hv:=bP hk;have hT:aG a0 a1 a2 a3*(18446744073709551616^((1:Int)).toNat*2^p)=aG a0 a1 a2 a3*2^p*18446744073709551616:=by
   rw[show 18446744073709551616^((1:Int)).toNat=18446744073709551616 by simp,Nat.mul_comm 18446744073709551616,Nat.mul_assoc]
  rw[hT];have hD:aG a0 a1 a2 a3*2^p=a0*2^p+18446744073709551616*(a1*2^p)+340282366920938463463374607431768211456*(a2*2^p)+6277101735386680763835789423207666416102355444464034512896*(a3*2^p):=by
   unfold aG; simp only[Nat.add_mul,Nat.mul_assoc]; omega
  rw[hD];unfold aG at hv ⊢;generalize 2^p=T at *;omega)
 clear e0 g0 m0 e1 g1 m1 e2 g2 m2 f1 f2;have HEN:=Lib.hid en;clear en
 go_enter func264,ntmps264
 go_wp2_with fail;refine wp_loop_rounds 4 ?_;rw[rounds_succ];go_wp2_with fail;rw[rounds_succ];go_wp2_with fail
 go_region
 go_wp2_with fail;rw[rounds_succ];go_wp2_with fail
 go_region
 go_wp2_with fail;rw[rounds_succ];go_wp2_with fail;refine bodyPost_ret (v:=.agg #[.int .u64 0,.int .u64 lo0,.int .u64 s1,.int .u64 s2]) (by simp[results,results264,go_sem]) rfl ?_;refine⟨0,lo0,s1,s2,rfl,⟨(by omega),bl0,bs1,bs2⟩,HF.out,?_⟩
 repeat (first|exact Below.refl _ _|refine Below.drew ?_|refine Below.alloc ?_ (by first|(simp; done)|(simp; omega)) _)
theorem aUR (a0 a1 a2 a3:Nat) (n:Int) (ha:cQ a0 a1 a2 a3) (h0:0<n) (hq:n/64=2) (w:World) :
  Calls prog 264 #[.agg #[.int .u64 a0,.int .u64 a1,.int .u64 a2,.int .u64 a3],.int .i64 n] w (cZ (fun v=>v=aG a0 a1 a2 a3*2^n.toNat%115792089237316195423570985008687907853269984665640564039457584007913129639936) w):=by
 obtain⟨p,hr,hp,en⟩:=Aq (by omega) 2 hq (by omega);have b1:n<256:=by omega
 have t0:decide (n≤0)=false:=decide_eq_false (by omega);obtain⟨lo0,hi0,u0,d0,bl0,bh0,e0,g0,m0⟩:=vL (a:=a0) (p:=p) ha.1 hp;obtain⟨lo1,hi1,u1,d1,KQ,bh1,e1,g1,m1⟩:=vL (a:=a1) (p:=p) ha.2.1 hp;obtain⟨s1,o1,bs1,f1⟩:=NR KQ bh0 g0 m1;have HF:Hid (aG 0 0 lo0 s1=aG a0 a1 a2 a3*2^n.toNat%115792089237316195423570985008687907853269984665640564039457584007913129639936):=Lib.hid (by
  have hk:cQ 0 0 lo0 s1:=⟨(by omega),(by omega),bl0,bs1⟩;rw[en,xY];have:=e0.out;have:=e1.out;have:=f1.out;have hv:=bP hk;have hT:aG a0 a1 a2 a3*(18446744073709551616^((2:Int)).toNat*2^p)=aG a0 a1 a2 a3*2^p*340282366920938463463374607431768211456:=by
   rw[show 18446744073709551616^((2:Int)).toNat=340282366920938463463374607431768211456 by simp,Nat.mul_comm 340282366920938463463374607431768211456,Nat.mul_assoc]
  rw[hT];have hD:aG a0 a1 a2 a3*2^p=a0*2^p+18446744073709551616*(a1*2^p)+340282366920938463463374607431768211456*(a2*2^p)+6277101735386680763835789423207666416102355444464034512896*(a3*2^p):=by
   unfold aG; simp only[Nat.add_mul,Nat.mul_assoc]; omega
  rw[hD];unfold aG at hv ⊢;generalize 2^p=T at *;omega)
 clear e0 g0 m0 e1 g1 m1 f1;have HEN:=Lib.hid en;clear en
 go_enter func264,ntmps264
 go_wp2_with fail;refine wp_loop_rounds 3 ?_;rw[rounds_succ];go_wp2_with fail;rw[rounds_succ];go_wp2_with fail
 go_region
 go_wp2_with fail;rw[rounds_succ];go_wp2_with fail;refine bodyPost_ret (v:=.agg #[.int .u64 0,.int .u64 0,.int .u64 lo0,.int .u64 s1]) (by simp[results,results264,go_sem]) rfl ?_;refine⟨0,0,lo0,s1,rfl,⟨(by omega),(by omega),bl0,bs1⟩,HF.out,?_⟩
 repeat (first|exact Below.refl _ _|refine Below.drew ?_|refine Below.alloc ?_ (by first|(simp; done)|(simp; omega)) _)
theorem aUQ (a0 a1 a2 a3:Nat) (n:Int) (ha:cQ a0 a1 a2 a3) (h0:0<n) (hq:n/64=3) (w:World) :
  Calls prog 264 #[.agg #[.int .u64 a0,.int .u64 a1,.int .u64 a2,.int .u64 a3],.int .i64 n] w (cZ (fun v=>v=aG a0 a1 a2 a3*2^n.toNat%115792089237316195423570985008687907853269984665640564039457584007913129639936) w):=by
 obtain⟨p,hr,hp,en⟩:=Aq (by omega) 3 hq (by omega);have b1:n<256:=by omega
 have t0:decide (n≤0)=false:=decide_eq_false (by omega);obtain⟨lo0,hi0,u0,d0,bl0,bh0,e0,g0,m0⟩:=vL (a:=a0) (p:=p) ha.1 hp;have HF:Hid (aG 0 0 0 lo0=aG a0 a1 a2 a3*2^n.toNat%115792089237316195423570985008687907853269984665640564039457584007913129639936):=Lib.hid (by
  have hk:cQ 0 0 0 lo0:=⟨(by omega),(by omega),(by omega),bl0⟩;rw[en,xY];have:=e0.out;have hv:=bP hk;have hT:aG a0 a1 a2 a3*(18446744073709551616^((3:Int)).toNat*2^p)=aG a0 a1 a2 a3*2^p*6277101735386680763835789423207666416102355444464034512896:=by
   rw[show 18446744073709551616^((3:Int)).toNat=6277101735386680763835789423207666416102355444464034512896 by simp,Nat.mul_comm 6277101735386680763835789423207666416102355444464034512896,Nat.mul_assoc]
  rw[hT];have hD:aG a0 a1 a2 a3*2^p=a0*2^p+18446744073709551616*(a1*2^p)+340282366920938463463374607431768211456*(a2*2^p)+6277101735386680763835789423207666416102355444464034512896*(a3*2^p):=by
   unfold aG; simp only[Nat.add_mul,Nat.mul_assoc]; omega
  rw[hD];unfold aG at hv ⊢;generalize 2^p=T at *;omega)
 clear e0 g0 m0;have HEN:=Lib.hid en;clear en
 go_enter func264,ntmps264
 go_wp2_with fail;refine wp_loop_rounds 2 ?_;rw[rounds_succ];go_wp2_with fail;rw[rounds_succ];go_wp2_with fail;refine bodyPost_ret (v:=.agg #[.int .u64 0,.int .u64 0,.int .u64 0,.int .u64 lo0]) (by simp[results,results264,go_sem]) rfl ?_;refine⟨0,0,0,lo0,rfl,⟨(by omega),(by omega),(by omega),bl0⟩,HF.out,?_⟩
 repeat (first|exact Below.refl _ _|refine Below.drew ?_|refine Below.alloc ?_ (by first|(simp; done)|(simp; omega)) _)
theorem Yq (a0 a1 a2 a3:Nat) (n:Int) (ha:cQ a0 a1 a2 a3) (h0:n≤0) (w:World) :
  Calls prog 264 #[.agg #[.int .u64 a0,.int .u64 a1,.int .u64 a2,.int .u64 a3],.int .i64 n] w (cZ (fun v=>v=aG a0 a1 a2 a3) w):=by
 have t0:decide (n≤0)=true:=decide_eq_true h0
 go_enter func264,ntmps264
 go_wp2_with fail;refine bodyPost_ret (v:=.agg #[.int .u64 a0,.int .u64 a1,.int .u64 a2,.int .u64 a3]) (by simp[results,results264,go_sem]) rfl ?_;refine⟨a0,a1,a2,a3,rfl,ha,rfl,?_⟩
 repeat (first|exact Below.refl _ _|refine Below.drew ?_|refine Below.alloc ?_ (by first|(simp; done)|(simp; omega)) _)
theorem aGu (a0 a1 a2 a3:Nat) (n:Int) (ha:cQ a0 a1 a2 a3) (h0:256≤n) (h1:n≤9223372036854775807) (w:World) :
  Calls prog 264 #[.agg #[.int .u64 a0,.int .u64 a1,.int .u64 a2,.int .u64 a3],.int .i64 n] w (cZ (fun v=>v=0) w):=by
 have t0:decide (n≤0)=false:=decide_eq_false (by omega);obtain⟨q,hq,bq,bq'⟩:∃q:Nat,n/64=(q:Int)∧4≤q∧q≤9223372036854775807:=⟨(n/64).toNat,by omega,by omega,by omega⟩
 have t1:decide ((0:Int)<4-(q:Int))=false:=decide_eq_false (by omega)
 go_enter func264,ntmps264
 go_wp2_with fail;refine wp_loop_rounds 1 ?_;rw[rounds_succ];go_wp2_with fail;refine bodyPost_ret (v:=.agg #[.int .u64 0,.int .u64 0,.int .u64 0,.int .u64 0]) (by simp[results,results264,go_sem]) rfl ?_;refine⟨0,0,0,0,rfl,⟨by omega,by omega,by omega,by omega⟩,rfl,?_⟩
 repeat (first|exact Below.refl _ _|refine Below.drew ?_|refine Below.alloc ?_ (by first|(simp; done)|(simp; omega)) _)
theorem zM (a0 a1 a2 a3:Nat) (n:Int) (ha:cQ a0 a1 a2 a3) (h0:0≤n) (h1:n≤9223372036854775807) (w:World) :
  Calls prog 264 #[.agg #[.int .u64 a0,.int .u64 a1,.int .u64 a2,.int .u64 a3],.int .i64 n] w (cZ (fun v=>v=aG a0 a1 a2 a3*2^n.toNat%115792089237316195423570985008687907853269984665640564039457584007913129639936) w):=by
 by_cases hz:n≤0
 ·refine (Yq a0 a1 a2 a3 n ha hz w).mono ?_
  rintro e w' ⟨s0,s1,s2,s3,he,hs,hv,hb⟩
  refine⟨s0,s1,s2,s3,he,hs,?_,hb⟩;have:=bP ha;rw[hv,show n.toNat=0 by omega,Nat.pow_zero]; omega
 ·by_cases hf:256≤n
  ·refine (aGu a0 a1 a2 a3 n ha hf h1 w).mono ?_
   rintro e w' ⟨s0,s1,s2,s3,he,hs,hv,hb⟩
   refine⟨s0,s1,s2,s3,he,hs,?_,hb⟩;rw[hv];obtain⟨k,hk⟩:∃k,n.toNat=256+k:=⟨n.toNat-256,by omega⟩
   rw[hk,Nat.pow_add,Nat.mul_left_comm,show (2:Nat)^256=115792089237316195423570985008687907853269984665640564039457584007913129639936 by simp];exact (Nat.mul_mod_right _ _).symm
  ·have hq:n/64=0∨n/64=1∨n/64=2∨n/64=3:=by omega
   rcases hq with h|h|h|h
   ·exact aUT a0 a1 a2 a3 n ha (by omega) h w
   ·exact aUS a0 a1 a2 a3 n ha (by omega) h w
   ·exact aUR a0 a1 a2 a3 n ha (by omega) h w
   ·exact aUQ a0 a1 a2 a3 n ha (by omega) h w
theorem aIU {m L:Nat} (hL:L≤256) (h:LenIs m L) (hm:0<m):0<L∧m*2^(256-L)<115792089237316195423570985008687907853269984665640564039457584007913129639936∧57896044618658097711785492504343953926634992332820282019728792003956564819968≤m*2^(256-L):=by
 have hpos:0<L:=by
  rcases Nat.eq_zero_or_pos L with e|e
  ·subst e; have:=h.1; simp at this; omega
  ·exact e
 have e:2^L*2^(256-L)=115792089237316195423570985008687907853269984665640564039457584007913129639936:=by rw[←Nat.pow_add,show L+(256-L)=256 by omega]
 have e':2^(L-1)*2^(256-L)=57896044618658097711785492504343953926634992332820282019728792003956564819968:=by rw[←Nat.pow_add,show L-1+(256-L)=255 by omega]
 refine⟨hpos,?_,?_⟩
 ·have:=Nat.mul_lt_mul_of_pos_right h.1 (Nat.two_pow_pos (256-L));rw[e]at this; exact this
 ·have:=Nat.mul_le_mul_right (2^(256-L)) (h.2 hpos);rw[e']at this; exact this
theorem aFT {b0 b1 b2 b3:Nat} (h:cQ b0 b1 b2 b3) (hb:57896044618658097711785492504343953926634992332820282019728792003956564819968≤aG b0 b1 b2 b3):9223372036854775808≤b3:=by
 obtain⟨h0,h1,h2,h3⟩:=h;unfold aG at hb; omega
theorem aHk {x m L:Nat} (hL:L≤256) (hm:0<m) (hx:x<115792089237316195423570985008687907853269984665640564039457584007913129639936):x/2^L<m*2^(256-L):=by
 have e:2^(256-L)*2^L=115792089237316195423570985008687907853269984665640564039457584007913129639936:=by rw[←Nat.pow_add,show 256-L+L=256 by omega]
 have h1:x/2^L<2^(256-L):=by rw[Nat.div_lt_iff_lt_mul (Nat.two_pow_pos _),e]; exact hx
 have h2:=Nat.mul_le_mul_right (2^(256-L)) (show 1≤m from hm);omega
theorem UY {x L:Nat} (hL:L≤256):x/2^L*115792089237316195423570985008687907853269984665640564039457584007913129639936+x*2^(256-L)%115792089237316195423570985008687907853269984665640564039457584007913129639936=x*2^(256-L):=by
 have e:2^L*2^(256-L)=115792089237316195423570985008687907853269984665640564039457584007913129639936:=by rw[←Nat.pow_add,show L+(256-L)=256 by omega]
 have hd:x*2^(256-L)/115792089237316195423570985008687907853269984665640564039457584007913129639936=x/2^L:=by rw[←e]; exact Nat.mul_div_mul_right _ _ (Nat.two_pow_pos _)
 rw[←hd]; omega
theorem aCI {x y L:Nat} (hL:L≤256) (hy:y<115792089237316195423570985008687907853269984665640564039457584007913129639936):(x*2^(256-L)%115792089237316195423570985008687907853269984665640564039457584007913129639936) ||| (y/2^L)=x*2^(256-L)%115792089237316195423570985008687907853269984665640564039457584007913129639936+y/2^L:=by
 have e:2^L*2^(256-L)=115792089237316195423570985008687907853269984665640564039457584007913129639936:=by rw[←Nat.pow_add,show L+(256-L)=256 by omega]
 have hlt:y/2^L<2^(256-L):=by rw[Nat.div_lt_iff_lt_mul (Nat.two_pow_pos _),Nat.mul_comm,e]; exact hy
 have hm:x*2^(256-L)%115792089237316195423570985008687907853269984665640564039457584007913129639936=2^(256-L)*(x%2^L):=by
  rw[←e,Nat.mul_mod_mul_right,Nat.mul_comm]
 rw[hm,←Nat.two_pow_add_eq_or_of_lt hlt]
theorem Uo (n m x b:Nat):((n%b)*m+x)%b=(n*m+x)%b:=by
 rw[Nat.add_mod,Nat.mul_mod,Nat.mod_mod,←Nat.mul_mod,←Nat.add_mod]
theorem aIP {h l m L r1 r2:Nat} (hL:L≤256)
  (e1:r1=(h/2^L*115792089237316195423570985008687907853269984665640564039457584007913129639936+(h*2^(256-L)%115792089237316195423570985008687907853269984665640564039457584007913129639936+l/2^L))%(m*2^(256-L)))
  (e2:r2=(r1*115792089237316195423570985008687907853269984665640564039457584007913129639936+l*2^(256-L)%115792089237316195423570985008687907853269984665640564039457584007913129639936)%(m*2^(256-L))):r2/2^(256-L)=(h*115792089237316195423570985008687907853269984665640564039457584007913129639936+l)%m:=by
 have k1:=UY (x:=h) hL;have k2:=UY (x:=l) hL;rw[e1,Uo]at e2;have e3:(h/2^L*115792089237316195423570985008687907853269984665640564039457584007913129639936+(h*2^(256-L)%115792089237316195423570985008687907853269984665640564039457584007913129639936+l/2^L))*115792089237316195423570985008687907853269984665640564039457584007913129639936+l*2^(256-L)%115792089237316195423570985008687907853269984665640564039457584007913129639936=(h*115792089237316195423570985008687907853269984665640564039457584007913129639936+l)*2^(256-L):=by
  have:(h*115792089237316195423570985008687907853269984665640564039457584007913129639936+l)*2^(256-L)=h*2^(256-L)*115792089237316195423570985008687907853269984665640564039457584007913129639936+l*2^(256-L):=by rw[Nat.add_mul,Nat.mul_right_comm]
  rw[this];generalize h*2^(256-L)%115792089237316195423570985008687907853269984665640564039457584007913129639936=Q at *;generalize l*2^(256-L)%115792089237316195423570985008687907853269984665640564039457584007913129639936=U at *;rw[←k1,←k2];simp only[Nat.add_mul,Nat.add_assoc]
 rw[e3,Nat.mul_mod_mul_right]at e2;rw[e2,Nat.mul_div_cancel _ (Nat.two_pow_pos _)]
def aKL (P:Nat→Nat→Prop) (w:World) (e:Ending) (w':World):Prop :=
 ∃s0 s1 s2 s3 c:Nat,e=.returned (.tuple #[.agg #[.int .u64 s0,.int .u64 s1,.int .u64 s2,.int .u64 s3],.int .i64 c])∧cQ s0 s1 s2 s3∧P (aG s0 s1 s2 s3) c∧Below w.heap.size w w'
theorem Vk (a0 a1 a2 a3:Nat) (w:World):(Op.equalIn 10000 24 (.agg #[.int .u64 a0,.int .u64 a1,.int .u64 a2,.int .u64 a3]) (.agg #[.int .u64 0,.int .u64 0,.int .u64 0,.int .u64 0])).run prog w=.ok (eqW a0 a1 a2 a3 0 0 0 0) w :=
 aDM 9998 a0 a1 a2 a3 0 0 0 0 w
structure MR (w wr:World) (g9 g10:Nat) (h0 h1 h2 h3 l0 l1 l2 l3 b0 b1 b2 b3 r0 r1 r2 r3:Nat):Prop where
 below:Below w.heap.size w wr
 lo:w.heap.size+1+1+1<g9
 mid:g9<g10
 size:g10<wr.heap.size
 rowH:Row4 wr w.heap.size h0 h1 h2 h3
 rowL:Row4 wr (w.heap.size+1) l0 l1 l2 l3
 rowB:Row4 wr g9 b0 b1 b2 b3
 rowR:Row4 wr g10 r0 r1 r2 r3
 rowO:Row4 wr (w.heap.size+1+1+1) 0 0 0 0
theorem MR.on {w wr w':World} {g9 g10:Nat} {h0 h1 h2 h3 l0 l1 l2 l3 b0 b1 b2 b3 r0 r1 r2 r3:Nat} (m:MR w wr g9 g10 h0 h1 h2 h3 l0 l1 l2 l3 b0 b1 b2 b3 r0 r1 r2 r3) (hb:Below wr.heap.size wr w'):MR w w' g9 g10 h0 h1 h2 h3 l0 l1 l2 l3 b0 b1 b2 b3 r0 r1 r2 r3 :=
 ⟨m.below.trans (hb.mono m.below.size),m.lo,m.mid,Nat.lt_of_lt_of_le m.size hb.size,m.rowH.below hb (by have:=m.lo; have:=m.mid; have:=m.size; omega),m.rowL.below hb (by have:=m.lo; have:=m.mid; have:=m.size; omega),
  m.rowB.below hb (by have:=m.mid; have:=m.size; omega),m.rowR.below hb m.size,m.rowO.below hb (by have:=m.lo; have:=m.mid; have:=m.size; omega)⟩
theorem MR.drewN {w wr:World} {g9 g10:Nat} {h0 h1 h2 h3 l0 l1 l2 l3 b0 b1 b2 b3 r0 r1 r2 r3:Nat} (m:MR w wr g9 g10 h0 h1 h2 h3 l0 l1 l2 l3 b0 b1 b2 b3 r0 r1 r2 r3) (n:Nat):MR w (wr.drewN n) g9 g10 h0 h1 h2 h3 l0 l1 l2 l3 b0 b1 b2 b3 r0 r1 r2 r3:=m.on (bO _ _ n)
theorem MR.onDrew {w wr w':World} {g9 g10:Nat} {h0 h1 h2 h3 l0 l1 l2 l3 b0 b1 b2 b3 r0 r1 r2 r3:Nat} (m:MR w wr g9 g10 h0 h1 h2 h3 l0 l1 l2 l3 b0 b1 b2 b3 r0 r1 r2 r3) (hb:Below wr.drew.heap.size wr.drew w'):MR w w' g9 g10 h0 h1 h2 h3 l0 l1 l2 l3 b0 b1 b2 b3 r0 r1 r2 r3:=(m.drewN 1).on hb
theorem MR.put {w wr:World} {g9 g10:Nat} {h0 h1 h2 h3 l0 l1 l2 l3 b0 b1 b2 b3 r0 r1 r2 r3:Nat} (m:MR w wr g9 g10 h0 h1 h2 h3 l0 l1 l2 l3 b0 b1 b2 b3 r0 r1 r2 r3) (s0 s1 s2 s3:Nat):MR w (set4 wr g10 s0 s1 s2 s3) g9 g10 h0 h1 h2 h3 l0 l1 l2 l3 b0 b1 b2 b3 s0 s1 s2 s3 :=
 ⟨bB m.below (by have:=m.lo; have:=m.mid; omega) _ _ _ _,m.lo,m.mid,by unfold set4; simp only[World.size_setCell]; exact m.size,m.rowH.set4_other (by have:=m.lo; have:=m.mid; omega) _ _ _ _,m.rowL.set4_other (by have:=m.lo; have:=m.mid; omega) _ _ _ _,
  m.rowB.set4_other (by have:=m.mid; omega) _ _ _ _,m.rowR.set4 _ _ _ _,m.rowO.set4_other (by have:=m.lo; have:=m.mid; omega) _ _ _ _⟩
set_option maxHeartbeats 4000000 in
theorem aCo (h0 h1 h2 h3 l0 l1 l2 l3 m0 m1 m2 m3:Nat) (hh:cQ h0 h1 h2 h3) (hl:cQ l0 l1 l2 l3) (hm:cQ m0 m1 m2 m3) (hpz:0<aG m0 m1 m2 m3) (w:World) :
  Calls prog 258 #[.agg #[.int .u64 h0,.int .u64 h1,.int .u64 h2,.int .u64 h3],.agg #[.int .u64 l0,.int .u64 l1,.int .u64 l2,.int .u64 l3],.agg #[.int .u64 m0,.int .u64 m1,.int .u64 m2,.int .u64 m3]] w (aKL (fun v c=>v=(aG h0 h1 h2 h3*115792089237316195423570985008687907853269984665640564039457584007913129639936+aG l0 l1 l2 l3)%aG m0 m1 m2 m3∧c=0) w):=by
 have hE:=fun w=>Vk m0 m1 m2 m3 w
 have hG:=aDP;have q:eqW m0 m1 m2 m3 0 0 0 0=false:=by
  have:=SJ hm (show cQ 0 0 0 0 from⟨by omega,by omega,by omega,by omega⟩)
  rcases h:eqW m0 m1 m2 m3 0 0 0 0 with _|_
  ·rfl
  ·exact absurd (this.1 h) (by unfold aG at hpz ⊢; omega)
 rw[q]at hE;clear q
 go_enter func258,ntmps258
 go_wp2_with fail;refine (AQ m0 m1 m2 m3 hm _).mono ?_
 rintro e w1 ⟨L,rfl,bL,lenL,hbl⟩
 obtain⟨hpos,hb1,hb2⟩:=aIU bL lenL hpz;obtain⟨S,eS⟩:∃S,S=256-L:=⟨_,rfl⟩
 have wS:(256:Int)-(L:Int)=(S:Int):=by omega
 have wL:(256:Int)-(S:Int)=(L:Int):=by omega
 have bS:S≤256:=by omega
 have H1:=(((Row4.new w h0 h1 h2 h3 24).alloc (by simp) _).alloc (by simp; omega) _).alloc (by simp; omega) _ |>.below hbl (by simp; omega)
 have L1:=(((Row4.new (w.alloc _) l0 l1 l2 l3 24).alloc (by simp) _).alloc (by simp) _).below hbl (by simp);have M1:=((Row4.new ((w.alloc _).alloc _) m0 m1 m2 m3 24).alloc (by simp) _).below hbl (by simp);have O1:=(Row4.new (((w.alloc _).alloc _).alloc _) 0 0 0 0 24).below hbl (by simp);simp only[World.size_alloc]at L1 M1 O1;have hz1:w.heap.size+1+1+1<w1.heap.size:=by have:=hbl.size; simp at this; omega
 have B1:=(aEO w _ _ _ _).trans (hbl.mono (by simp; omega));have HeS:=Lib.hid eS; have Hb1:=Lib.hid hb1; have Hb2:=Lib.hid hb2; have HL:=Lib.hid lenL; have HB1:=Lib.hid B1;have HH1:=Lib.hid H1; have HL1:=Lib.hid L1; have HM1:=Lib.hid M1; have HO1:=Lib.hid O1;have y0:w.heap.size<w1.heap.size:=by omega
 have y1:w.heap.size+1<w1.heap.size:=by omega
 have y2:w.heap.size+1+1<w1.heap.size:=by omega
 obtain⟨m0',m1',m2',m3',mf⟩:=M1;clear hE hG eS hb1 hb2 lenL B1 H1 L1 O1 hbl;go_wp2_with fail;refine (zM m0 m1 m2 m3 S hm (by omega) (by omega) _).mono ?_
 rintro e w2 ⟨b0,b1,b2,b3,rfl,hb,vb,hbl⟩
 rw[Int.toNat_natCast]at vb;have H2:=HH1.out.below hbl y0;have L2:=HL1.out.below hbl y1;have O2:=HO1.out.below hbl hz1;have hz2:w1.heap.size≤w2.heap.size:=hbl.size;have B2:=HB1.out.trans (hbl.mono HB1.out.size);have HH2:=Lib.hid H2; have HL2:=Lib.hid L2; have HO2:=Lib.hid O2; have HB2:=Lib.hid B2; have Hvb:=Lib.hid vb;have z0:w.heap.size<w2.heap.size:=by omega
 have z1:w.heap.size+1<w2.heap.size:=by omega
 have z3:w.heap.size+1+1+1<w2.heap.size:=by omega
 obtain⟨h0',h1',h2',h3',hf⟩:=H2;clear L2 O2 B2 vb hbl m0' m1' m2' m3' mf;go_wp2_with fail;refine (tW h0 h1 h2 h3 L hh (by omega) (by omega) _).mono ?_
 rintro e w3 ⟨r0,r1,r2,r3,rfl,hr,vr,hbl⟩
 rw[Int.toNat_natCast]at vr;clear h0' h1' h2' h3' hf;have MR1:MR w (w3.alloc (.cells #[.int .u64 r0,.int .u64 r1,.int .u64 r2,.int .u64 r3] 24)) w2.heap.size w3.heap.size h0 h1 h2 h3 l0 l1 l2 l3 b0 b1 b2 b3 r0 r1 r2 r3:=by
  have hb':=hbl;have hz3:=hb'.size;rw[World.size_alloc]at hz3;have hall:∀{x:Nat} {c0 c1 c2 c3:Nat},Row4 w2 x c0 c1 c2 c3→x<w2.heap.size→Row4 (w3.alloc (.cells #[.int .u64 r0,.int .u64 r1,.int .u64 r2,.int .u64 r3] 24)) x c0 c1 c2 c3:=fun q hx =>
   ((q.alloc hx _).below hb' (by rw[World.size_alloc]; omega)).alloc (by omega) _
  refine⟨((HB2.out.alloc (by omega) _).trans (hb'.mono (by rw[World.size_alloc]; omega))).alloc (by omega) _,z3,by omega,by simp,hall HH2.out z0,hall HL2.out z1,?_,Row4.new _ _ _ _ _ _,hall HO2.out z3⟩;exact ((Row4.new w2 b0 b1 b2 b3 24).below hb' (by simp)).alloc (by omega) _
 go_wp2_with fail;clear hbl;have Hvr:=Lib.hid vr;clear vr;generalize w3.alloc (.cells #[.int .u64 r0,.int .u64 r1,.int .u64 r2,.int .u64 r3] 24)=W at *;generalize w2.heap.size=g9 at *;generalize w3.heap.size=g10 at *;have M:=MR1;clear MR1;have wLL:IntKind.i64.wrap (L:Int)=(L:Int):=by simp[IntKind.wrap,IntKind.bits,IntKind.signed]; omega
 have HM:=Lib.hid M;have evb:aG b0 b1 b2 b3=aG m0 m1 m2 m3*2^S:=by rw[Hvb.out,HeS.out,Nat.mod_eq_of_lt Hb1.out]
 have hb3:9223372036854775808≤b3:=aFT hb (by rw[evb,HeS.out]; exact Hb2.out);have hrb:aG r0 r1 r2 r3<aG b0 b1 b2 b3:=by rw[evb,Hvr.out,HeS.out]; exact aHk bL hpz (bP hh)
 have Hevb:=Lib.hid evb;clear evb;clear M y0 y1 y2 z0 z1 z3 hz1 hz2 HH1 HL1 HM1 HO1 HB1 HH2 HL2 HO2 HB2;have g0:∀k,W.cell? ⟨w.heap.size,k,none⟩=W.cell? ⟨w.heap.size,k,none⟩:=fun _=>rfl
 clear g0;clear wS wL;have wL':IntKind.i64.wrap (256-(S:Int))=(L:Int):=by have:=HeS.out; simp[IntKind.wrap,IntKind.bits,IntKind.signed]; omega
 go_wp2_with fail;refine kW (fun wx=>MR w wx g9 g10 h0 h1 h2 h3 l0 l1 l2 l3 b0 b1 b2 b3 r0 r1 r2 r3) 11 (by kernel_rfl) ?_;have HS:(fun wx=>MR w wx g9 g10 h0 h1 h2 h3 l0 l1 l2 l3 b0 b1 b2 b3 r0 r1 r2 r3) W.drew:=HM.out.drewN 1;refine bF (i:=0) (v:=.agg #[.int .u64 r0,.int .u64 r1,.int .u64 r2,.int .u64 r3]) rfl (by kernel_rfl) (by kernel_rfl) (by kernel_rfl) (by kernel_rfl) (fun _ _ _ h=>h) HS (Or.inl ⟨by rfl,fun wx hx => ?_⟩) ?_
 ·obtain⟨k0,k1,k2,k3,kf⟩:=MR.rowR hx;clear HS;go_simp
 simp only[Act.put,List.setIfInBounds_toArray,List.set_cons_zero,List.set_cons_succ];refine bF (i:=1) (v:=.agg #[.int .u64 h0,.int .u64 h1,.int .u64 h2,.int .u64 h3]) rfl (by kernel_rfl) (by kernel_rfl) (by kernel_rfl) (by kernel_rfl) (fun _ _ _ h=>h) HS (Or.inl ⟨by rfl,fun wx hx => ?_⟩) ?_
 ·obtain⟨k0,k1,k2,k3,kf⟩:=MR.rowH hx;clear HS;go_simp
 simp only[Act.put,List.setIfInBounds_toArray,List.set_cons_zero,List.set_cons_succ];refine bF (i:=2) (v:=.int .i64 (S:Nat)) rfl (by kernel_rfl) (by kernel_rfl) (by kernel_rfl) (by kernel_rfl) (fun _ _ _ h=>h) HS (Or.inl ⟨by rfl,fun wx hx => ?_⟩) ?_
 ·clear hx HS;go_simp
 simp only[Act.put,List.setIfInBounds_toArray,List.set_cons_zero,List.set_cons_succ];refine bF (i:=4) (v:=.agg #[.int .u64 l0,.int .u64 l1,.int .u64 l2,.int .u64 l3]) rfl (by kernel_rfl) (by kernel_rfl) (by kernel_rfl) (by kernel_rfl) (fun _ _ _ h=>h) HS (Or.inl ⟨by rfl,fun wx hx => ?_⟩) ?_
 ·obtain⟨k0,k1,k2,k3,kf⟩:=MR.rowL hx;clear HS;go_simp
 simp only[Act.put,List.setIfInBounds_toArray,List.set_cons_zero,List.set_cons_succ];refine bF (i:=5) (v:=.int .i64 (S:Nat)) rfl (by kernel_rfl) (by kernel_rfl) (by kernel_rfl) (by kernel_rfl) (fun _ _ _ h=>h) HS (Or.inl ⟨by rfl,fun wx hx => ?_⟩) ?_
 ·clear hx HS;go_simp
 simp only[Act.put,List.setIfInBounds_toArray,List.set_cons_zero,List.set_cons_succ];refine bF (i:=6) (v:=.int .i64 (L:Nat)) rfl (by kernel_rfl) (by kernel_rfl) (by kernel_rfl) (by kernel_rfl) (fun _ _ _ h=>h) HS (Or.inl ⟨by rfl,fun wx hx => ?_⟩) ?_
 ·clear hx HS;go_simp
 simp only[Act.put,List.setIfInBounds_toArray,List.set_cons_zero,List.set_cons_succ];refine bF (i:=9) (v:=.agg #[.int .u64 b0,.int .u64 b1,.int .u64 b2,.int .u64 b3]) rfl (by kernel_rfl) (by kernel_rfl) (by kernel_rfl) (by kernel_rfl) (fun _ _ _ h=>h) HS (Or.inl ⟨by rfl,fun wx hx => ?_⟩) ?_
 ·obtain⟨k0,k1,k2,k3,kf⟩:=MR.rowB hx;clear HS;go_simp
 simp only[Act.put,List.setIfInBounds_toArray,List.set_cons_zero,List.set_cons_succ];clear HS;refine cF (i:=3) (by kernel_rfl) rfl (fun K hK => ?_);go_simp;refine (zM h0 h1 h2 h3 S hh (by omega) (by omega) _).mono ?_
 rintro e w4 ⟨x0,x1,x2,x3,rfl,hx,vx,hbl⟩
 rw[Int.toNat_natCast]at vx;have Hvx:=Lib.hid vx;clear vx;have M4:=HM.out.onDrew hbl;clear hbl;go_wp2_with fail;refine hK.out _ _ (Or.inr M4) (fun hHeld => ?_);clear hK K hHeld
 try simp only[Act.put,List.setIfInBounds_toArray,List.set_cons_zero,List.set_cons_succ]
 refine cF (i:=7) (by kernel_rfl) rfl (fun K hK => ?_);go_simp;refine (tW l0 l1 l2 l3 L hl (by omega) (by omega) _).mono ?_
 rintro e w5 ⟨y0,y1,y2,y3,rfl,hy,vy,hbl⟩
 rw[Int.toNat_natCast]at vy;have Hvy:=Lib.hid vy;clear vy;have M5:=M4.on hbl;clear hbl;go_wp2_with fail;refine hK.out _ _ (Or.inr M5) (fun hHeld => ?_);clear hK K hHeld
 try simp only[Act.put,List.setIfInBounds_toArray,List.set_cons_zero,List.set_cons_succ]
 refine cF (i:=8) (by kernel_rfl) rfl (fun K hK => ?_);go_simp;refine (RO x0 x1 x2 x3 y0 y1 y2 y3 hx hy _).mono ?_
 rintro e w6 ⟨z0,z1,z2,z3,rfl,hz,vz,hbl⟩
 have Hvz:=Lib.hid vz;clear vz;have M6:=M5.on hbl;clear hbl;go_wp2_with fail;refine hK.out _ _ (Or.inr M6) (fun hHeld => ?_);clear hK K hHeld
 try simp only[Act.put,List.setIfInBounds_toArray,List.set_cons_zero,List.set_cons_succ]
 refine cF (i:=10) (by kernel_rfl) rfl (fun K hK => ?_);go_simp;refine (xG r0 r1 r2 r3 z0 z1 z2 z3 b0 b1 b2 b3 hr hz hb hb3 hrb _).mono ?_
 rintro e w7 ⟨n0,n1,n2,n3,rfl,hn,vn,hbl⟩
 have Hvn:=Lib.hid vn;clear vn;have M7:=M6.on hbl;clear hbl;go_wp2_with fail;refine hK.out _ _ (Or.inr M7) (fun hHeld => ?_);clear hK K hHeld
 try simp only[Act.put,List.setIfInBounds_toArray,List.set_cons_zero,List.set_cons_succ]
 obtain⟨q0,q1,q2,q3,qf⟩:=M7.rowR;have M8:=M7.put n0 n1 n2 n3;refine cF (i:=11) (by kernel_rfl) rfl (fun K hK => ?_);have hsz:=M7.size;clear M4 M5 M6 M7;have HM8:=Lib.hid M8;clear M8;go_simp;refine hK.out _ _ (Or.inl rfl) (fun hHeld => ?_);clear hK K hHeld q0 q1 q2 q3 qf;refine pC (by kernel_rfl) ?_;have hnb:aG n0 n1 n2 n3<aG b0 b1 b2 b3:=by rw[Hvn.out]; exact Nat.mod_lt _ (by omega)
 have HG:=HM8.out;unfold set4 at HG;generalize (((w7.setCell ⟨g10,0,none⟩ (.int .u64 (n0:Nat))).setCell ⟨g10,1,none⟩ (.int .u64 (n1:Nat))).setCell ⟨g10,2,none⟩ (.int .u64 (n2:Nat))).setCell ⟨g10,3,none⟩ (.int .u64 (n3:Nat))=W2 at HG ⊢;have HM9:=Lib.hid HG;clear HG HM8 hrb;go_wp2_with fail;refine kW (fun wx=>MR w wx g9 g10 h0 h1 h2 h3 l0 l1 l2 l3 b0 b1 b2 b3 n0 n1 n2 n3) 6 (by kernel_rfl) ?_;have HS:(fun wx=>MR w wx g9 g10 h0 h1 h2 h3 l0 l1 l2 l3 b0 b1 b2 b3 n0 n1 n2 n3) W2.drew:=HM9.out.drewN 1;refine bF (i:=0) (v:=.agg #[.int .u64 n0,.int .u64 n1,.int .u64 n2,.int .u64 n3]) rfl (by kernel_rfl) (by kernel_rfl) (by kernel_rfl) (by kernel_rfl) (fun _ _ _ h=>h) HS (Or.inl ⟨by rfl,fun wx hx => ?_⟩) ?_
 ·obtain⟨k0,k1,k2,k3,kf⟩:=MR.rowR hx;clear HS;go_simp
 simp only[Act.put,List.setIfInBounds_toArray,List.set_cons_zero,List.set_cons_succ];refine bF (i:=1) (v:=.agg #[.int .u64 l0,.int .u64 l1,.int .u64 l2,.int .u64 l3]) rfl (by kernel_rfl) (by kernel_rfl) (by kernel_rfl) (by kernel_rfl) (fun _ _ _ h=>h) HS (Or.inl ⟨by rfl,fun wx hx => ?_⟩) ?_
 ·obtain⟨k0,k1,k2,k3,kf⟩:=MR.rowL hx;clear HS;go_simp
 simp only[Act.put,List.setIfInBounds_toArray,List.set_cons_zero,List.set_cons_succ];refine bF (i:=2) (v:=.int .i64 (S:Nat)) rfl (by kernel_rfl) (by kernel_rfl) (by kernel_rfl) (by kernel_rfl) (fun _ _ _ h=>h) HS (Or.inl ⟨by rfl,fun wx hx => ?_⟩) ?_
 ·clear hx HS;go_simp
 simp only[Act.put,List.setIfInBounds_toArray,List.set_cons_zero,List.set_cons_succ];refine bF (i:=4) (v:=.agg #[.int .u64 b0,.int .u64 b1,.int .u64 b2,.int .u64 b3]) rfl (by kernel_rfl) (by kernel_rfl) (by kernel_rfl) (by kernel_rfl) (fun _ _ _ h=>h) HS (Or.inl ⟨by rfl,fun wx hx => ?_⟩) ?_
 ·obtain⟨k0,k1,k2,k3,kf⟩:=MR.rowB hx;clear HS;go_simp
 simp only[Act.put,List.setIfInBounds_toArray,List.set_cons_zero,List.set_cons_succ];clear HS;refine cF (i:=3) (by kernel_rfl) rfl (fun K hK => ?_);go_simp;refine (zM l0 l1 l2 l3 S hl (by omega) (by omega) _).mono ?_
 rintro e w8 ⟨u0,u1,u2,u3,rfl,hu,vu,hbl⟩
 rw[Int.toNat_natCast]at vu;have Hvu:=Lib.hid vu;clear vu;have M4:=HM9.out.onDrew hbl;clear hbl;go_wp2_with fail;refine hK.out _ _ (Or.inr M4) (fun hHeld => ?_);clear hK K hHeld
 try simp only[Act.put,List.setIfInBounds_toArray,List.set_cons_zero,List.set_cons_succ]
 refine cF (i:=5) (by kernel_rfl) rfl (fun K hK => ?_);go_simp;refine (xG n0 n1 n2 n3 u0 u1 u2 u3 b0 b1 b2 b3 hn hu hb hb3 hnb _).mono ?_
 rintro e w9 ⟨p0,p1,p2,p3,rfl,hp,vp,hbl⟩
 have Hvp:=Lib.hid vp;clear vp;have M7:=M4.on hbl;clear hbl;go_wp2_with fail;refine hK.out _ _ (Or.inr M7) (fun hHeld => ?_);clear hK K hHeld
 try simp only[Act.put,List.setIfInBounds_toArray,List.set_cons_zero,List.set_cons_succ]
 obtain⟨q0,q1,q2,q3,qf⟩:=M7.rowR;have M8:=M7.put p0 p1 p2 p3;refine cF (i:=6) (by kernel_rfl) rfl (fun K hK => ?_);have hsz:=M7.size;clear M4 M7;have HM8:=Lib.hid M8;clear M8;go_simp;refine hK.out _ _ (Or.inl rfl) (fun hHeld => ?_);clear hK K hHeld q0 q1 q2 q3 qf;refine pC (by kernel_rfl) ?_;have HG:=HM8.out;unfold set4 at HG;generalize (((w9.setCell ⟨g10,0,none⟩ (.int .u64 (p0:Nat))).setCell ⟨g10,1,none⟩ (.int .u64 (p1:Nat))).setCell ⟨g10,2,none⟩ (.int .u64 (p2:Nat))).setCell ⟨g10,3,none⟩ (.int .u64 (p3:Nat))=W3 at HG ⊢;have HM10:=Lib.hid HG;obtain⟨q0,q1,q2,q3,qf⟩:=HG.rowR;clear HG HM8;go_wp2_with fail;refine (tW p0 p1 p2 p3 S hp (by omega) (by omega) _).mono ?_
 rintro e wz ⟨s0,s1,s2,s3,rfl,hs,vs,hbl⟩
 rw[Int.toNat_natCast]at vs;have HF:Hid (aG s0 s1 s2 s3=(aG h0 h1 h2 h3*115792089237316195423570985008687907853269984665640564039457584007913129639936+aG l0 l1 l2 l3)%aG m0 m1 m2 m3):=Lib.hid (by
  rw[vs,HeS.out];refine aIP (L:=L) (r1:=aG n0 n1 n2 n3) bL ?_ ?_
  ·rw[Hvn.out,Hvz.out,Hvx.out,Hvy.out,Hevb.out,Hvr.out,HeS.out,aCI bL (bP hl)]
  ·rw[Hvp.out,Hvu.out,Hevb.out,HeS.out])
 have M11:=HM10.out.on hbl;obtain⟨o0,o1,o2,o3,of⟩:=M11.rowO;have HB:=Lib.hid M11.below;clear vs hbl M11 q0 q1 q2 q3 qf;go_wp2_with fail;refine bodyPost_ret (v:=.tuple #[.agg #[.int .u64 s0,.int .u64 s1,.int .u64 s2,.int .u64 s3],.int .i64 0]) (by simp[results,results258,go_sem, *]) rfl ?_;exact⟨s0,s1,s2,s3,0,rfl,hs,⟨HF.out,rfl⟩,bB HB.out (by omega) _ _ _ _⟩
def Va (B:Nat→Nat) (s:Nat):Nat→Nat
 | 0=>0
 | n+1=>Va B s n*256+B (s+n)
def RowB (w:World) (b n:Nat) (P:Nat→Nat):Prop:=∀k,k<n→w.cell? ⟨b,k,none⟩=some (.int .u8 (P k:Nat))∧w.frozen? ⟨b,k,none⟩=false
theorem RowB.below {w w':World} {b n:Nat} {P:Nat→Nat} (h:RowB w b n P) {B:Nat} (hb:Below B w w') (hB:b<B):RowB w' b n P:=fun k hk =>
 ⟨(hb.cell (p:=⟨b,k,none⟩) hB).trans (h k hk).1,(hb.frozen (p:=⟨b,k,none⟩) hB).trans (h k hk).2⟩
theorem RowB.set {w:World} {b n i v:Nat} {P:Nat→Nat} (h:RowB w b n P) (hi:i<n):RowB (w.setCell ⟨b,i,none⟩ (.int .u8 (v:Nat))) b n (upd P i v):=by
 intro k hk;refine⟨?_,by rw[World.frozen?_setCell]; exact (h k hk).2⟩;unfold upd
 by_cases e:k=i
 ·subst e; rw[if_pos rfl]; exact World.cell?_setCell_same (h:=(h k hk).1) ..
 ·rw[if_neg e,World.cell?_setCell_other (h:=fun he=>e (by simpa using (congrArg Addr.off he).symm)) ..]; exact (h k hk).1
theorem RowB.other {w:World} {b n i:Nat} {P:Nat→Nat} (h:RowB w b n P) {c:Nat} (hc:c≠b) (x:Value):RowB (w.setCell ⟨c,i,none⟩ x) b n P:=by
 intro k hk;exact⟨by rw[World.cell?_setCell_other (h:=fun he=>hc (by simpa using congrArg Addr.block he)) ..]; exact (h k hk).1,by rw[World.frozen?_setCell]; exact (h k hk).2⟩
theorem RowB.drewN {w:World} {b n:Nat} {P:Nat→Nat} (h:RowB w b n P) (m:Nat):RowB (w.drewN m) b n P:=h
theorem RowB.ext {w:World} {b n:Nat} {P R:Nat→Nat} (h:RowB w b n P) (e:∀k,k<n→P k=R k):RowB w b n R:=fun k hk=>⟨by rw[←e k hk]; exact (h k hk).1,(h k hk).2⟩
set_option maxHeartbeats 2000000 in
theorem Hg (f:Int) (F:FC) (hf:FieldIs f F) (g0 g1 g2 g3 l0 l1 l2 l3:Nat) (hg:cQ g0 g1 g2 g3) (hl:cQ l0 l1 l2 l3) (w:World) :
  Calls prog 249 #[.int .i64 f,.agg #[.int .u64 g0,.int .u64 g1,.int .u64 g2,.int .u64 g3],.agg #[.int .u64 l0,.int .u64 l1,.int .u64 l2,.int .u64 l3]] w (Ji 0 ((aG g0 g1 g2 g3*115792089237316195423570985008687907853269984665640564039457584007913129639936+aG l0 l1 l2 l3)%F.M) w):=by
 go_enter func249,ntmps249
 go_wp2_with fail;refine (eK f F hf _).mono ?_
 rintro e w1 ⟨rfl,hbl⟩
 have M1:=((((Mem.nil w).new (w.heap.size) g0 g1 g2 g3 24 (by simp)).new (w.heap.size+1) l0 l1 l2 l3 24 (by simp)).new (w.heap.size+1+1) 0 0 0 0 25 (by simp)).on hbl;clear hbl;have z0:w.heap.size<w1.heap.size:=M1.lt (c0:=g0) (c1:=g1) (c2:=g2) (c3:=g3) (by simp);have z1:w.heap.size+1<w1.heap.size:=M1.lt (c0:=l0) (c1:=l1) (c2:=l2) (c3:=l3) (by simp);have z2:w.heap.size+1+1<w1.heap.size:=M1.lt (c0:=0) (c1:=0) (c2:=0) (c3:=0) (by simp);have HM:=Lib.hid (M1.on ((Below.refl _ _).alloc (Nat.le_refl _) (.cells #[.int .u64 F.m0,.int .u64 F.m1,.int .u64 F.m2,.int .u64 F.m3,.int .u64 F.inv,.int .u64 F.s0,.int .u64 F.s1,.int .u64 F.s2,.int .u64 F.s3] 115)));have KK:=Lib.hid (KIs.new w1 F 115);have kr:=M1.row (b:=w.heap.size) (c0:=g0) (c1:=g1) (c2:=g2) (c3:=g3) (by simp);have x0:=kr.c0; have x1:=kr.c1; have x2:=kr.c2; have x3:=kr.c3;clear kr;have xl:=M1.lt (b:=w.heap.size) (c0:=g0) (c1:=g1) (c2:=g2) (c3:=g3) (by simp);have kr:=M1.row (b:=w.heap.size+1) (c0:=l0) (c1:=l1) (c2:=l2) (c3:=l3) (by simp);have u0:=kr.c0; have u1:=kr.c1; have u2:=kr.c2; have u3:=kr.c3;clear kr;have ul:=M1.lt (b:=w.heap.size+1) (c0:=l0) (c1:=l1) (c2:=l2) (c3:=l3) (by simp);have k0:=KK.out.k0; have k1:=KK.out.k1; have k2:=KK.out.k2; have k3:=KK.out.k3;go_wp2_with fail;refine (aCo g0 g1 g2 g3 l0 l1 l2 l3 F.m0 F.m1 F.m2 F.m3 hg hl hf.ok.okm hf.ok.pos _).mono ?_
 rintro e w2 ⟨s0,s1,s2,s3,er,rfl,hs,⟨hv,rfl⟩,hbl⟩
 have HV:=Lib.hid hv;clear hv;have HM':=Lib.hid (HM.out.on hbl);have KK':=Lib.hid (KK.out.same hbl);have zk:=KK'.out.lt;clear HM KK hbl M1;have HM:=HM';have KK:=KK';clear HM' KK';clear zk k0 k1 k2 k3 x0 x1 x2 x3 xl u0 u1 u2 u3 ul;have wz:w.heap.size+1+1<w2.heap.size:=HM.out.lt (b:=w.heap.size+1+1) (c0:=0) (c1:=0) (c2:=0) (c3:=0) (by simp);have kr:=HM.out.row (b:=w.heap.size+1+1) (c0:=0) (c1:=0) (c2:=0) (c3:=0) (by simp);have y0:=kr.c0; have y1:=kr.c1; have y2:=kr.c2; have y3:=kr.c3; have yf:=kr.fr;clear kr;have yl:=HM.out.lt (b:=w.heap.size+1+1) (c0:=0) (c1:=0) (c2:=0) (c3:=0) (by simp);go_wp2_with fail;refine bodyPost_ret (v:=.tuple #[.agg #[.int .u64 s0,.int .u64 s1,.int .u64 s2,.int .u64 s3],.int .i64 0]) (by simp[results,results249,go_sem, *]) rfl ?_;refine⟨_,_,_,_,rfl,hs,HV.out,?_⟩
 repeat (first|exact HM.out.1|refine Below.alloc ?_ (by first|(simp; done)|(simp; omega)) _|refine Below.setCell ?_ (by first|(simp; done)|(simp; omega)) _)
theorem tG:FieldIs 1 FP:=Or.inl ⟨rfl,rfl⟩
def FwPost (x:Nat) (w:World) (e:Ending) (w':World):Prop:=e=.returned (.agg #[.int .u64 (fw x 0:Nat),.int .u64 (fw x 1:Nat),.int .u64 (fw x 2:Nat),.int .u64 (fw x 3:Nat)])∧Below w.heap.size w w'
theorem FwPost.of {x:Nat} {w:World} {e:Ending} {w':World} (hx:x<FP.M) (h:gW x w e w'):FwPost x w e w':=by
 obtain⟨s0,s1,s2,s3,rfl,hs,hv,hb⟩:=h;obtain⟨rfl,rfl,rfl,rfl⟩:=lM hs (rY hx) hv;exact⟨rfl,hb⟩
set_option maxHeartbeats 4000000 in
theorem OR (a0 a1 a2 a3 b0 b1 b2 b3:Nat) (ha:cQ a0 a1 a2 a3) (hb:cQ b0 b1 b2 b3) (la:aG a0 a1 a2 a3<FP.M) (lb:aG b0 b1 b2 b3<FP.M) (w:World) :
  Calls prog 222 #[.agg #[.int .u64 a0,.int .u64 a1,.int .u64 a2,.int .u64 a3],.agg #[.int .u64 b0,.int .u64 b1,.int .u64 b2,.int .u64 b3]] w (gW ((aG a0 a1 a2 a3+aG b0 b1 b2 b3)%FP.M) w):=by
 go_enter func222,ntmps222
 go_wp2_with fail;have HM:=Lib.hid ((((Mem.nil w).new (w.heap.size) a0 a1 a2 a3 25 (by simp)).new (w.heap.size+1) b0 b1 b2 b3 25 (by simp)).new (w.heap.size+1+1) 0 0 0 0 25 (by simp));refine (Nv 1 FP tG a0 a1 a2 a3 b0 b1 b2 b3 ha hb la lb _).mono ?_
 rintro e w1 ⟨s0,s1,s2,s3,rfl,hs,hv,hbl⟩
 have HV:=Lib.hid hv;have HM':=Lib.hid (HM.out.on hbl);clear hv hbl;clear HM;have HM:=HM';clear HM';have kr:=HM.out.row (b:=w.heap.size+1+1) (c0:=0) (c1:=0) (c2:=0) (c3:=0) (by simp);have y0:=kr.c0; have y1:=kr.c1; have y2:=kr.c2; have y3:=kr.c3; have yf:=kr.fr;clear kr;have yl:=HM.out.lt (b:=w.heap.size+1+1) (c0:=0) (c1:=0) (c2:=0) (c3:=0) (by simp);have HB1:=Lib.hid HM.out.1;clear HM;go_wp2_with fail;refine bodyPost_ret (v:=.agg #[.int .u64 s0,.int .u64 s1,.int .u64 s2,.int .u64 s3]) (by simp[results,results222,go_sem, *]) rfl ?_;refine⟨_,_,_,_,rfl,hs,HV.out,?_⟩;have hbx:=HB1.out;have hsz:=hbx.size
 repeat (first|exact hbx|refine Below.drew ?_|refine Below.alloc ?_ (by first|exact hsz|(simp; done)|(simp; omega)) _|refine Below.setCell ?_ (by first|(simp; done)|(simp; omega)) _)
theorem VF (x y:Nat) (hx:x<FP.M) (hy:y<FP.M) (w:World):Calls prog 222 #[.agg #[.int .u64 (fw x 0:Nat),.int .u64 (fw x 1:Nat),.int .u64 (fw x 2:Nat),.int .u64 (fw x 3:Nat)],.agg #[.int .u64 (fw y 0:Nat),.int .u64 (fw y 1:Nat),.int .u64 (fw y 2:Nat),.int .u64 (fw y 3:Nat)]] w (FwPost ((x+y)%FP.M) w):=by
 refine (OR _ _ _ _ _ _ _ _ (dE x) (dE y) (by rw[bU hx]; exact hx) (by rw[bU hy]; exact hy) w).mono ?_;rw[bU hx,bU hy];exact fun e w' h=>FwPost.of (Nat.mod_lt _ fV) h
set_option maxHeartbeats 4000000 in
theorem KU (a0 a1 a2 a3 b0 b1 b2 b3:Nat) (ha:cQ a0 a1 a2 a3) (hb:cQ b0 b1 b2 b3) (la:aG a0 a1 a2 a3<FP.M) (lb:aG b0 b1 b2 b3<FP.M) (w:World) :
  Calls prog 221 #[.agg #[.int .u64 a0,.int .u64 a1,.int .u64 a2,.int .u64 a3],.agg #[.int .u64 b0,.int .u64 b1,.int .u64 b2,.int .u64 b3]] w (gW ((aG a0 a1 a2 a3+FP.M-aG b0 b1 b2 b3)%FP.M) w):=by
 go_enter func221,ntmps221
 go_wp2_with fail;have HM:=Lib.hid ((((Mem.nil w).new (w.heap.size) a0 a1 a2 a3 25 (by simp)).new (w.heap.size+1) b0 b1 b2 b3 25 (by simp)).new (w.heap.size+1+1) 0 0 0 0 25 (by simp));refine (Nj 1 FP tG a0 a1 a2 a3 b0 b1 b2 b3 ha hb la lb _).mono ?_
 rintro e w1 ⟨s0,s1,s2,s3,rfl,hs,hv,hbl⟩
 have HV:=Lib.hid hv;have HM':=Lib.hid (HM.out.on hbl);clear hv hbl;clear HM;have HM:=HM';clear HM';have kr:=HM.out.row (b:=w.heap.size+1+1) (c0:=0) (c1:=0) (c2:=0) (c3:=0) (by simp);have y0:=kr.c0; have y1:=kr.c1; have y2:=kr.c2; have y3:=kr.c3; have yf:=kr.fr;clear kr;have yl:=HM.out.lt (b:=w.heap.size+1+1) (c0:=0) (c1:=0) (c2:=0) (c3:=0) (by simp);have HB1:=Lib.hid HM.out.1;clear HM;go_wp2_with fail;refine bodyPost_ret (v:=.agg #[.int .u64 s0,.int .u64 s1,.int .u64 s2,.int .u64 s3]) (by simp[results,results221,go_sem, *]) rfl ?_;refine⟨_,_,_,_,rfl,hs,HV.out,?_⟩;have hbx:=HB1.out;have hsz:=hbx.size
 repeat (first|exact hbx|refine Below.drew ?_|refine Below.alloc ?_ (by first|exact hsz|(simp; done)|(simp; omega)) _|refine Below.setCell ?_ (by first|(simp; done)|(simp; omega)) _)
theorem OZ (x y:Nat) (hx:x<FP.M) (hy:y<FP.M) (w:World):Calls prog 221 #[.agg #[.int .u64 (fw x 0:Nat),.int .u64 (fw x 1:Nat),.int .u64 (fw x 2:Nat),.int .u64 (fw x 3:Nat)],.agg #[.int .u64 (fw y 0:Nat),.int .u64 (fw y 1:Nat),.int .u64 (fw y 2:Nat),.int .u64 (fw y 3:Nat)]] w (FwPost ((x+FP.M-y)%FP.M) w):=by
 refine (KU _ _ _ _ _ _ _ _ (dE x) (dE y) (by rw[bU hx]; exact hx) (by rw[bU hy]; exact hy) w).mono ?_;rw[bU hx,bU hy];exact fun e w' h=>FwPost.of (Nat.mod_lt _ fV) h
set_option maxHeartbeats 4000000 in
theorem KT (a0 a1 a2 a3 b0 b1 b2 b3:Nat) (ha:cQ a0 a1 a2 a3) (hb:cQ b0 b1 b2 b3) (la:aG a0 a1 a2 a3<FP.M) (lb:aG b0 b1 b2 b3<FP.M) (w:World) :
  Calls prog 225 #[.agg #[.int .u64 a0,.int .u64 a1,.int .u64 a2,.int .u64 a3],.agg #[.int .u64 b0,.int .u64 b1,.int .u64 b2,.int .u64 b3]] w (gW (aG a0 a1 a2 a3*aG b0 b1 b2 b3%FP.M) w):=by
 go_enter func225,ntmps225
 go_wp2_with fail;have HM:=Lib.hid ((((Mem.nil w).new (w.heap.size) a0 a1 a2 a3 25 (by simp)).new (w.heap.size+1) b0 b1 b2 b3 25 (by simp)).new (w.heap.size+1+1) 0 0 0 0 25 (by simp));refine (Nn 1 FP tG a0 a1 a2 a3 b0 b1 b2 b3 ha hb la lb _).mono ?_
 rintro e w1 ⟨s0,s1,s2,s3,rfl,hs,hv,hbl⟩
 have HV:=Lib.hid hv;have HM':=Lib.hid (HM.out.on hbl);clear hv hbl;clear HM;have HM:=HM';clear HM';have kr:=HM.out.row (b:=w.heap.size+1+1) (c0:=0) (c1:=0) (c2:=0) (c3:=0) (by simp);have y0:=kr.c0; have y1:=kr.c1; have y2:=kr.c2; have y3:=kr.c3; have yf:=kr.fr;clear kr;have yl:=HM.out.lt (b:=w.heap.size+1+1) (c0:=0) (c1:=0) (c2:=0) (c3:=0) (by simp);have HB1:=Lib.hid HM.out.1;clear HM;go_wp2_with fail;refine bodyPost_ret (v:=.agg #[.int .u64 s0,.int .u64 s1,.int .u64 s2,.int .u64 s3]) (by simp[results,results225,go_sem, *]) rfl ?_;refine⟨_,_,_,_,rfl,hs,HV.out,?_⟩;have hbx:=HB1.out;have hsz:=hbx.size
 repeat (first|exact hbx|refine Below.drew ?_|refine Below.alloc ?_ (by first|exact hsz|(simp; done)|(simp; omega)) _|refine Below.setCell ?_ (by first|(simp; done)|(simp; omega)) _)
theorem OP (x y:Nat) (hx:x<FP.M) (hy:y<FP.M) (w:World):Calls prog 225 #[.agg #[.int .u64 (fw x 0:Nat),.int .u64 (fw x 1:Nat),.int .u64 (fw x 2:Nat),.int .u64 (fw x 3:Nat)],.agg #[.int .u64 (fw y 0:Nat),.int .u64 (fw y 1:Nat),.int .u64 (fw y 2:Nat),.int .u64 (fw y 3:Nat)]] w (FwPost (x*y%FP.M) w):=by
 refine (KT _ _ _ _ _ _ _ _ (dE x) (dE y) (by rw[bU hx]; exact hx) (by rw[bU hy]; exact hy) w).mono ?_;rw[bU hx,bU hy];exact fun e w' h=>FwPost.of (Nat.mod_lt _ fV) h
set_option maxHeartbeats 4000000 in
theorem VG (a0 a1 a2 a3:Nat) (ha:cQ a0 a1 a2 a3) (la:aG a0 a1 a2 a3<FP.M) (w:World) :
  Calls prog 223 #[.agg #[.int .u64 a0,.int .u64 a1,.int .u64 a2,.int .u64 a3]] w (gW ((0+FP.M-aG a0 a1 a2 a3)%FP.M) w):=by
 go_enter func223,ntmps223
 go_wp2_with fail;have HM:=Lib.hid (((Mem.nil w).new (w.heap.size) a0 a1 a2 a3 25 (by simp)).new (w.heap.size+1) 0 0 0 0 25 (by simp));refine (SD 1 FP tG a0 a1 a2 a3 ha la _).mono ?_
 rintro e w1 ⟨s0,s1,s2,s3,rfl,hs,hv,hbl⟩
 have HV:=Lib.hid hv;have HM':=Lib.hid (HM.out.on hbl);clear hv hbl;clear HM;have HM:=HM';clear HM';have kr:=HM.out.row (b:=w.heap.size+1) (c0:=0) (c1:=0) (c2:=0) (c3:=0) (by simp);have y0:=kr.c0; have y1:=kr.c1; have y2:=kr.c2; have y3:=kr.c3; have yf:=kr.fr;clear kr;have yl:=HM.out.lt (b:=w.heap.size+1) (c0:=0) (c1:=0) (c2:=0) (c3:=0) (by simp);have kr:=HM.out.row (b:=w.heap.size) (c0:=a0) (c1:=a1) (c2:=a2) (c3:=a3) (by simp);have x0:=kr.c0; have x1:=kr.c1; have x2:=kr.c2; have x3:=kr.c3; have xf:=kr.fr;clear kr;have xl:=HM.out.lt (b:=w.heap.size) (c0:=a0) (c1:=a1) (c2:=a2) (c3:=a3) (by simp);go_wp2_with fail;refine bodyPost_ret (v:=.agg #[.int .u64 s0,.int .u64 s1,.int .u64 s2,.int .u64 s3]) (by simp[results,results223,go_sem, *]) rfl ?_;refine⟨_,_,_,_,rfl,hs,HV.out,?_⟩;exact bB (bB HM.out.1 (Nat.le_refl _) _ _ _ _) (by omega) _ _ _ _
theorem Ci (x:Nat) (hx:x<FP.M) (w:World):Calls prog 223 #[.agg #[.int .u64 (fw x 0:Nat),.int .u64 (fw x 1:Nat),.int .u64 (fw x 2:Nat),.int .u64 (fw x 3:Nat)]] w (FwPost ((0+FP.M-x)%FP.M) w):=by
 refine (VG _ _ _ _ (dE x) (by rw[bU hx]; exact hx) w).mono ?_;rw[bU hx];exact fun e w' h=>FwPost.of (Nat.mod_lt _ fV) h
set_option maxHeartbeats 4000000 in
theorem OQ (a0 a1 a2 a3:Nat) (ha:cQ a0 a1 a2 a3) (w:World) :
  Calls prog 220 #[.agg #[.int .u64 a0,.int .u64 a1,.int .u64 a2,.int .u64 a3]] w (gW (aG a0 a1 a2 a3%FP.M) w):=by
 go_enter func220,ntmps220
 go_wp2_with fail;have HM:=Lib.hid (((Mem.nil w).new (w.heap.size) a0 a1 a2 a3 25 (by simp)).new (w.heap.size+1) 0 0 0 0 25 (by simp))
 by_cases la:aG a0 a1 a2 a3<FP.M
 ·refine (NQ 1 FP tG a0 a1 a2 a3 ha la _).mono ?_
  rintro e w1 ⟨rfl,hbl⟩
  have HL:=Lib.hid la;have HM':=Lib.hid (HM.out.on hbl);clear hbl la;clear HM;have HM:=HM';clear HM';have kr:=HM.out.row (b:=w.heap.size+1) (c0:=0) (c1:=0) (c2:=0) (c3:=0) (by simp);have y0:=kr.c0; have y1:=kr.c1; have y2:=kr.c2; have y3:=kr.c3; have yf:=kr.fr;clear kr;have yl:=HM.out.lt (b:=w.heap.size+1) (c0:=0) (c1:=0) (c2:=0) (c3:=0) (by simp);have kr:=HM.out.row (b:=w.heap.size) (c0:=a0) (c1:=a1) (c2:=a2) (c3:=a3) (by simp);have x0:=kr.c0; have x1:=kr.c1; have x2:=kr.c2; have x3:=kr.c3;clear kr;have xl:=HM.out.lt (b:=w.heap.size) (c0:=a0) (c1:=a1) (c2:=a2) (c3:=a3) (by simp);go_wp2_with fail;refine bodyPost_ret (v:=.agg #[.int .u64 a0,.int .u64 a1,.int .u64 a2,.int .u64 a3]) (by simp[results,results220,go_sem, *]) rfl ?_;refine⟨_,_,_,_,rfl,ha,by rw[Nat.mod_eq_of_lt HL.out],?_⟩;exact bB HM.out.1 (by omega) _ _ _ _
 ·refine (JA 1 21 a0 a1 a2 a3 ha (Or.inr ⟨FP,tG,la,rfl⟩) _).mono ?_
  rintro e w1 ⟨rfl,hbl⟩
  have HM':=Lib.hid (HM.out.on hbl);clear hbl la;clear HM;have HM:=HM';clear HM';have kr:=HM.out.row (b:=w.heap.size) (c0:=a0) (c1:=a1) (c2:=a2) (c3:=a3) (by simp);have x0:=kr.c0; have x1:=kr.c1; have x2:=kr.c2; have x3:=kr.c3;clear kr;have xl:=HM.out.lt (b:=w.heap.size) (c0:=a0) (c1:=a1) (c2:=a2) (c3:=a3) (by simp);go_wp2_with fail;refine (Hg 1 FP tG 0 0 0 0 a0 a1 a2 a3 zok ha _).mono ?_
  rintro e w2 ⟨s0,s1,s2,s3,rfl,hs,hv,hbl⟩
  have HV:=Lib.hid (show aG s0 s1 s2 s3=aG a0 a1 a2 a3%FP.M by rw[hv,show aG 0 0 0 0=0 from rfl,Nat.zero_mul,Nat.zero_add]);have HM':=Lib.hid (HM.out.on hbl);clear hv hbl x0 x1 x2 x3 xl;clear HM;have HM:=HM';clear HM';have kr:=HM.out.row (b:=w.heap.size+1) (c0:=0) (c1:=0) (c2:=0) (c3:=0) (by simp);have y0:=kr.c0; have y1:=kr.c1; have y2:=kr.c2; have y3:=kr.c3; have yf:=kr.fr;clear kr;have yl:=HM.out.lt (b:=w.heap.size+1) (c0:=0) (c1:=0) (c2:=0) (c3:=0) (by simp);have kr:=HM.out.row (b:=w.heap.size) (c0:=a0) (c1:=a1) (c2:=a2) (c3:=a3) (by simp);have x0:=kr.c0; have x1:=kr.c1; have x2:=kr.c2; have x3:=kr.c3; have xf:=kr.fr;clear kr;have xl:=HM.out.lt (b:=w.heap.size) (c0:=a0) (c1:=a1) (c2:=a2) (c3:=a3) (by simp);go_wp2_with fail;refine bodyPost_ret (v:=.agg #[.int .u64 s0,.int .u64 s1,.int .u64 s2,.int .u64 s3]) (by simp[results,results220,go_sem, *]) rfl ?_;refine⟨_,_,_,_,rfl,hs,HV.out,?_⟩;exact bB (bB HM.out.1 (Nat.le_refl _) _ _ _ _) (by omega) _ _ _ _
theorem VE (a0 a1 a2 a3:Nat) (ha:cQ a0 a1 a2 a3) (w:World):Calls prog 220 #[.agg #[.int .u64 a0,.int .u64 a1,.int .u64 a2,.int .u64 a3]] w (FwPost (aG a0 a1 a2 a3%FP.M) w) :=
 (OQ a0 a1 a2 a3 ha w).mono fun e w' h=>FwPost.of (Nat.mod_lt _ fV) h
set_option maxHeartbeats 4000000 in
theorem CW (A B:Nat→Nat→Nat) (p q:Option Addr) (la ca cb:Nat) (h2:la≤65536) (ia:vM FP.M la A) (ib:vM FP.M la B) (w:World) (hA:FIs w p la A) (hB:FIs w q la B) :
  Calls prog 224 #[.slice p la ca,.slice q la cb] w (FwPost (pU FP.M (jT A) (jT B) la) w):=by
 have HA:=Lib.hid hA;have HB:=Lib.hid hB;have IA:=Lib.hid ia;have IB:=Lib.hid ib;clear hA hB ia ib
 suffices h:Calls prog 224 #[.slice p la ca,.slice q la cb] w (gW (pU FP.M (jT A) (jT B) la) w)from h.mono fun e w' h=>FwPost.of (SN fV _ _ _) h
 go_enter func224,ntmps224
 go_wp2_with fail;have HM:=Lib.hid ((Mem.nil w).new (w.heap.size) 0 0 0 0 25 (by simp));refine (EG 1 FP tG p q la ca la cb A B rfl h2 IA.out IB.out _ (HA.out.on HM.out.1) (HB.out.on HM.out.1)).mono ?_
 rintro e w1 ⟨s0,s1,s2,s3,rfl,hs,hv,hbl⟩
 have HV:=Lib.hid hv;have HM':=Lib.hid (HM.out.on hbl);clear hv hbl;clear HM;have HM:=HM';clear HM';have kr:=HM.out.row (b:=w.heap.size) (c0:=0) (c1:=0) (c2:=0) (c3:=0) (by simp);have y0:=kr.c0; have y1:=kr.c1; have y2:=kr.c2; have y3:=kr.c3; have yf:=kr.fr;clear kr;have yl:=HM.out.lt (b:=w.heap.size) (c0:=0) (c1:=0) (c2:=0) (c3:=0) (by simp);have HB1:=Lib.hid HM.out.1;clear HM;go_wp2_with fail;refine bodyPost_ret (v:=.agg #[.int .u64 s0,.int .u64 s1,.int .u64 s2,.int .u64 s3]) (by simp[results,results224,go_sem, *]) rfl ?_;refine⟨_,_,_,_,rfl,hs,HV.out,?_⟩;have hbx:=HB1.out;have hsz:=hbx.size
 repeat (first|exact hbx|refine Below.drew ?_|refine Below.alloc ?_ (by first|exact hsz|(simp; done)|(simp; omega)) _|refine Below.setCell ?_ (by first|(simp; done)|(simp; omega)) _)
end Go.Proofs.YtglgakbkdjhojaaGreat
namespace Go.Proofs.YtglgakbkdjhojaaGreat.Ex
open Go.Proofs.Tryz
open Go.RowKit
theorem NA {x:Nat} {f:FuncId} {args:List Value} {w:World} {y:Fq} (h:Calls prog f args.toArray w (FwPost x w)) (e:x=y.1):Good prog f (.one (.fl (e1 y))) args w:=by
 subst e;exact h.mono fun e w' h=>h
theorem CQ {l:List At} {args:List Value} {w:World} (h:bQ w [.v (.fl l)] args):args=[.agg (aA l).toArray]:=by
 match args,h with
 | [v],h=>rw[show v=_ from h.1]; rfl
 | [],h=>exact h.elim
 | _::_::_,h=>exact h.2.elim
theorem OG {l m:List At} {args:List Value} {w:World} (h:bQ w [.v (.fl l),.v (.fl m)] args):args=[.agg (aA l).toArray,.agg (aA m).toArray]:=by
 match args,h with
 | [v,u],h=>rw[show v=_ from h.1,show u=_ from h.2.1]; rfl
 | [],h=>exact h.elim
 | [_],h=>exact h.2.elim
 | _::_::_::_,h=>exact h.2.2.elim
theorem aSZ (x y:Fq) (args:List Value) (w:World) (ha:bQ w [.v (.fl (e1 x)),.v (.fl (e1 y))] args):Good prog 222 (.one (.fl (e1 (F1.add x y)))) args w:=by
 rw[OG ha];exact NA (VF x.1 y.1 x.2 y.2 w) rfl
theorem aGc (x y:Fq):(x.1+FP.M-y.1)%FP.M=(F1.sub x y).1:=by
 show _=(x.1+(0+FP.M-y.1)%FP.M)%FP.M;have:=y.2;rw[Nat.add_mod_mod];congr 1;omega
theorem aKv (x y:Fq) (args:List Value) (w:World) (ha:bQ w [.v (.fl (e1 x)),.v (.fl (e1 y))] args):Good prog 221 (.one (.fl (e1 (F1.sub x y)))) args w:=by
 rw[OG ha];exact NA (OZ x.1 y.1 x.2 y.2 w) (aGc x y)
theorem aKu (x y:Fq) (args:List Value) (w:World) (ha:bQ w [.v (.fl (e1 x)),.v (.fl (e1 y))] args):Good prog 225 (.one (.fl (e1 (F1.mul x y)))) args w:=by
 rw[OG ha];exact NA (OP x.1 y.1 x.2 y.2 w) rfl
theorem aXM (x:Fq) (args:List Value) (w:World) (ha:bQ w [.v (.fl (e1 x))] args):Good prog 223 (.one (.fl (e1 (F1.neg x)))) args w:=by
 rw[CQ ha];exact NA (Ci x.1 x.2 w) rfl
theorem aSX (x:Nat) (args:List Value) (w:World) (ha:bQ w [.v (.fl (q1 x))] args):Good prog 220 (.one (.fl (e1 (m1 x)))) args w:=by
 rw[CQ ha];exact NA (VE _ _ _ _ (dE x) w) rfl
theorem uC:∀{n:Nat} {l:List At} {x:List Fq},YY n l=some x→x.length=n∧∃r,l=x.map .f++r
 | 0,l,x,h=>by cases h; exact⟨rfl,l,rfl⟩
 | n+1,.f a::r,x,h=>by
  unfold YY at h;split at h
  ·rename_i l hl;cases h;obtain⟨h1,s,h2⟩:=uC hl;exact⟨by rw[List.length_cons,h1],s,by rw[h2]; rfl⟩
  ·cases h
 | n+1,[],x,h=>by cases h
 | n+1,.q _::_,x,h=>by cases h
 | n+1,.c _::_,x,h=>by cases h
def lw (x:List Fq) (k i:Nat):Nat:=fw ((x[k]?).getD F1.zero).1 i
theorem aDE:∀(x:List Fq) (k:Nat),k<x.length→∀i,i<4→(aA (x.map .f))[k*4+i]?=some (.int .u64 (lw x k i:Nat))
 | a::r,0,_,i,hi=>by
  show (w4 a.1++aA (r.map .f))[0*4+i]?=_;rw[List.getElem?_append_left (by show _<4; omega)]
  match i,hi with
  | 0,_=>rfl
  | 1,_=>rfl
  | 2,_=>rfl
  | 3,_=>rfl
 | a::r,k+1,h,i,hi=>by
  show (w4 a.1++aA (r.map .f))[(k+1)*4+i]?=_;rw[List.getElem?_append_right (by show 4≤_; omega),show (k+1)*4+i-(w4 a.1).length=k*4+i by show _-4=_; omega,aDE r k (by simpa using h) i hi];simp[lw]
theorem RC {n:Nat} {l:List At} {x:List Fq} (h:YY n l=some x) (h6:n≤6) {b o:Nat} {w:World} (hb:b<w.heap.size) (hr:w.rangeAt b o (aA l)):FIs w (some ⟨b,o,none⟩) n (lw x):=by
 obtain⟨h1,r,h2⟩:=uC h;refine⟨by omega,fun k hk=>dE _,fun _=>⟨b,o,rfl,hb,fun k hk => ?_⟩⟩;have hc:∀i,i<4→w.cell? ⟨b,o+k*4+i,none⟩=some (.int .u64 (lw x k i:Nat)):=fun i hi=>by
  rw[Nat.add_assoc];refine hr (k*4+i) _ ?_;rw[h2,aS,List.getElem?_append_left (by
   rw[aR];have:∀x:List Fq,cO (x.map .f)=4*x.length:=fun x=>by
    induction x with
    | nil=>rfl
    | cons a r ih=>show 4+cO (r.map .f)=4*(r.length+1); omega
   rw[this,h1]; omega)]
  exact aDE x k (by omega) i hi
 exact⟨hc 0 (by omega),hc 1 (by omega),hc 2 (by omega),hc 3 (by omega)⟩
theorem ND (x:List Fq) (k:Nat):jT (lw x) k=((x[k]?).getD F1.zero).1:=bU (Fin.isLt _)
theorem Bb:∀(x y:List Fq) (a:Fq) (X Y:Nat→Nat) (k:Nat),x.length=y.length→(∀j,j<x.length→X (k+j)=((x[j]?).getD F1.zero).1)→(∀j,j<y.length→Y (k+j)=((y[j]?).getD F1.zero).1)→a.1=pU FP.M X Y k→(Vp a x y).1=pU FP.M X Y (k+x.length)
 | [],[],a,X,Y,k,_,_,_,h=>h
 | p::x,q::y,a,X,Y,k,hl,hX,hY,h=>by
  have e:(F1.add a (F1.mul p q)).1=pU FP.M X Y (k+1):=by
   show (a.1+p.1*q.1%FP.M)%FP.M=(pU FP.M X Y k+X k*Y k)%FP.M;rw[Nat.add_mod_mod,h];have h1:=hX 0 (by simp);have h2:=hY 0 (by simp);rw[Nat.add_zero]at h1 h2;rw[h1,h2];rfl
  have:=Bb x y (F1.add a (F1.mul p q)) X Y (k+1) (by simpa using hl) (fun j hj=>by have:=hX (j+1) (by simpa using hj); rw[show k+1+j=k+(j+1) by omega,this]; simp)
   (fun j hj=>by have:=hY (j+1) (by simpa using hj); rw[show k+1+j=k+(j+1) by omega,this]; simp) e
  rw[show k+(p::x).length=k+1+x.length by simp; omega];exact this
 | [],_::_,_,_,_,_,h,_,_,_=>by cases h
 | _::_,[],_,_,_,_,h,_,_,_=>by cases h
theorem Bc (x y:List Fq) (hl:x.length=y.length):(rL x y).1=pU FP.M (jT (lw x)) (jT (lw y)) x.length:=by
 have h0:(Vp F1.zero x y).1=pU FP.M (jT (lw x)) (jT (lw y)) (0+x.length):=Bb x y F1.zero _ _ 0 hl (fun j _=>by rw[Nat.zero_add]; exact ND x j) (fun j _=>by rw[Nat.zero_add]; exact ND y j) rfl;rw[Nat.zero_add]at h0;rw[←h0];cases x with
 | nil=>cases y<;>rfl
 | cons a r =>
  cases y with
  | nil=>cases hl
  | cons b s =>
   show (Vp (F1.mul a b) r s).1=(Vp (F1.add F1.zero (F1.mul a b)) r s).1;rw[F1.zero_add]
theorem aSY:∀cs pre r,aDk cs=some (pre,r)→aZ pre→∀(args:List Value) (w:World),bQ w cs args→Good prog 224 r args w:=by
 intro cs pre r hg hp args w ha;unfold aDk at hg;split at hg
 ·rename_i l n m l' n' m';cases hb:(Nat.beq n n'&&Nat.ble n 6)<;>rw[hb]at hg
  ·cases hg
  ·simp only[cond_true]at hg;split at hg
   ·rename_i x y hx hy;cases hg;rw[Bool.and_eq_true]at hb;cases Nat.eq_of_beq_eq_true hb.1;have h6:=Nat.le_of_ble_eq_true hb.2
    match args,ha with
    | [v,u],ha =>
     obtain⟨⟨b,o,rfl,h1,h2⟩,⟨b',o',rfl,h3,h4⟩,_⟩:=ha;have l1:=(uC hx).1;have l2:=(uC hy).1;refine NA (CW (lw x) (lw y) _ _ n m m' (by omega) (fun k hk=>by rw[ND]; exact Fin.isLt _) (fun k hk=>by rw[ND]; exact Fin.isLt _) w (RC hx h6 h1 h2) (RC hy h6 h3 h4)) ?_;rw[Bc x y (by omega),l1]
    | [],ha=>exact ha.elim
    | [_],ha=>exact ha.2.elim
    | _::_::_::_,ha=>exact ha.2.2.elim
   ·cases hg
 ·cases hg
theorem bAI:∀cs pre r,gOf cs=some (pre,r)→aZ pre→∀(args:List Value) (w:World),bQ w cs args→Good prog 97 r args w:=by
 intro cs pre r hg hp args w ha;unfold gOf at hg;split at hg
 ·rename_i n;cases hb:Nat.blt n 18446744073709551616<;>rw[hb]at hg
  ·cases hg
  ·cases hg;have hn:n<18446744073709551616:=by simpa using hb
   match args,ha with
   | [v],ha =>
    rw[show v=_ from ha.1];refine (IE n hn w).mono ?_
    rintro e w' ⟨rfl,hbl⟩
    refine⟨?_,hbl⟩;have hM:n<FP.M:=Nat.lt_trans hn (by decide);obtain⟨e0,e1',e2',e3'⟩:=lM (s0:=n) (s1:=0) (s2:=0) (s3:=0) ⟨hn,by omega,by omega,by omega⟩ (rY hM) (show aG n 0 0 0=n by unfold aG; omega);show _=Ending.returned (.agg (w4 (n%FP.M)).toArray);rw[Nat.mod_eq_of_lt hM];unfold w4;rw[←e0,←e1',←e2',←e3'];rfl
   | [],ha=>exact ha.elim
   | _::_::_,ha=>exact ha.2.elim
 ·cases hg
theorem aTa (x:Fq) (h:x≠F1.zero) (w:World):Calls prog 256 #[.int .i64 1,.agg (aA (e1 x)).toArray] w (fun e w'=>e=.returned (RV.many [.fl (e1 (cT x)),.im (.int .i64 0)]).den∧Below w.heap.size w w'):=by
 have hz:x.1≠0:=fun e=>h (Fin.ext e)
 refine (No 1 0 _ _ _ _ _ (fun W=>aJQ 1 FP tG 1 0 0 0 _ _ _ _ (by unfold cQ; decide) (dE x.1) (by decide) (by rw[bU x.2]; exact x.2) (by rw[bU x.2]; exact hz) W) w).mono ?_
 rintro e w' ⟨s0,s1,s2,s3,rfl,hs,hv,hb⟩
 have hf:=Ao x;rw[Nat.one_mul]at hf;rw[bU x.2,show aG 1 0 0 0=1 from rfl,Nat.one_mul,←hf]at hv;obtain⟨rfl,rfl,rfl,rfl⟩:=lM hs (rY (cT x).2) hv;exact⟨rfl,hb⟩
theorem aTb (w:World):Calls prog 256 #[.int .i64 1,.agg (aA (e1 F1.zero)).toArray] w (fun e w'=>e=.returned (RV.many [.fl (e1 F1.zero),.im (.int .i64 22)]).den∧Below w.heap.size w w'):=by
 refine (No 1 22 0 _ _ _ _ (fun W=>aDH 1 FP tG 1 0 0 0 _ _ _ _ (by unfold cQ; decide) (dE 0) (by decide) (by rw[bU fV]; exact fV) (by rw[bU fV]) W) w).mono ?_
 rintro e w' ⟨s0,s1,s2,s3,rfl,hs,hv,hb⟩
 obtain⟨rfl,rfl,rfl,rfl⟩:=lM hs (rY fV) hv;exact⟨rfl,hb⟩
theorem aXN (c:Bool):∀cs pre r,aRp c cs=some (pre,r)→aZ pre→∀(args:List Value) (w:World),bQ w cs args→Good prog 256 r args w:=by
 intro cs pre r hg hp args w ha;unfold aRp at hg;split at hg
 ·rename_i l;split at hg
  ·rename_i x hx
   match args,ha with
   | [v,u],ha =>
    have h1:v=.int .i64 1:=ha.1;have h2:u=.agg (aA l).toArray:=ha.2.1;rw[lW l x hx]at h2;subst h1; subst h2;cases c
    ·cases hg;have hz:x=F1.zero:=hp.1;subst hz;exact aTb w
    ·cases hg;exact aTa x hp.1 w
   | [],ha=>exact ha.elim
   | [_],ha=>exact ha.2.elim
   | _::_::_::_,ha=>exact ha.2.2.elim
  ·cases hg
 ·cases hg
theorem aIC (c:Bool):TabOk prog (oZ c) :=
 ((((((((zB prog).ad func222 (fC lW lW fun x y _ args w ha=>aSZ x y args w ha)).ad func221 (fC lW lW fun x y _ args w ha=>aKv x y args w ha)).add
  func225 (by kernel_rfl) (by kernel_rfl) (fC lW lW fun x y _ args w ha=>aKu x y args w ha)).ad func223 (bM lW fun x _ args w ha=>aXM x args w ha)).add
  func220 (by kernel_rfl) (by kernel_rfl) (bM fJ fun x _ args w ha=>aSX x args w ha)).ad func224 aSY).ad func97 bAI).ad func256 (aXN c)
def nv2 (x:Q2):N2:=(x.1.1,x.2.1)
def nv6 (x:Q6):N6:=(nv2 x.1,nv2 x.2.1,nv2 x.2.2)
def lJ (x:aM):tR:=(nv6 x.1,nv6 x.2)
theorem Mr (x:Fq):m1 x.1=x:=Fin.ext (by show wv x.1%FP.M=x.1; unfold wv; rw[bU x.2,Nat.mod_eq_of_lt x.2])
theorem aCq (x:Q2):m2 (nv2 x)=x:=Prod.ext (Mr _) (Mr _)
theorem aLY (x:Q6):m6 (nv6 x)=x:=Prod.ext (aCq _) (Prod.ext (aCq _) (aCq _))
theorem fH (x:aM):gC (lJ x)=x:=Prod.ext (aLY _) (aLY _)
def z0:At:=.f F1.zero
theorem Ly (c:Bool):TabOk prog (BQ c):=aID c (aIC c)
def vl:At→Option Fq
 | .f x=>some x
 | .q x=>some (m1 x)
 | .c _=>none
def vls:List At→Option (List Fq)
 | []=>some []
 | a::r=>match vl a,vls r with|some x,some l=>some (x::l)|_,_=>none
def rv1 (l:List At):Option Fq:=match vls l with|some [a]=>some a|_=>none
def LY (l:List At):Option Q2:=match vls l with|some [a,b]=>some (a,b)|_=>none
def VW (l:List At):Option aM:=match vls l with|some [a,b,c,d,e,f,g,h,i,j,k,l]=>some (((a,b),(c,d),(e,f)),((g,h),(i,j),(k,l)))|_=>none
def Rdv {α γ:Type} (rd:List At→Option α) (qn:γ→List At) (mm:γ→α):Prop:=∀l x,rd l=some x→∃n,aA l=aA (qn n)∧mm n=x
theorem OL:∀{l:List At} {m:List Fq},vls l=some m→∃ns:List Nat,aA l=aA (ns.map At.q)∧ns.map m1=m
 | [],m,h=>by cases h; exact⟨[],rfl,rfl⟩
 | a::r,m,h=>by
  unfold vls at h;split at h
  ·rename_i x l' h1 h2;cases h;obtain⟨ns,e1,e2⟩:=OL h2;cases a with
   | f y=>cases h1; exact⟨x.1::ns,by show w4 x.1++aA r=w4 x.1++aA (ns.map At.q); rw[e1],by rw[List.map_cons,e2,Mr]⟩
   | q y=>cases h1; exact⟨y::ns,by show w4 y++aA r=w4 y++aA (ns.map At.q); rw[e1],by rw[List.map_cons,e2]⟩
   | c v=>cases h1
  ·cases h
theorem Yu:Rdv rv1 q1 m1:=fun l x h=>by
 unfold rv1 at h;split at h
 ·rename_i a hn;cases h;obtain⟨ns,e1,e2⟩:=OL hn
  match ns,e2 with
  | [n],e2=>cases e2; exact⟨n,e1,rfl⟩
 ·cases h
theorem fR:Rdv LY q2 m2:=fun l x h=>by
 unfold LY at h;split at h
 ·rename_i a b hn;cases h;obtain⟨ns,e1,e2⟩:=OL hn
  match ns,e2 with
  | [n,m],e2=>cases e2; exact⟨(n,m),e1,rfl⟩
 ·cases h
theorem tX:Rdv VW uA gC:=fun l x h=>by
 unfold VW at h;split at h
 ·rename_i hn;cases h;obtain⟨ns,e1,e2⟩:=OL hn
  match ns,e2 with
  | [a,b,c,d,e,f,g,h,i,j,k,l],e2=>cases e2; exact⟨(((a,b),(c,d),(e,f)),((g,h),(i,j),(k,l))),e1,rfl⟩
 ·cases h
theorem kK {P:Program} {f:FuncId} {α γ:Type} {rd:List At→Option α} {qn:γ→List At} {mm:γ→α} (hr:Rdv rd qn mm) {op:α→List Prop×RV} (h:∀x,aZ (op (mm x)).1→∀args w,bQ w [.v (.fl (qn x))] args→Good P f (op (mm x)).2 args w) :
  ∀cs pre r,g1 rd op cs=some (pre,r)→aZ pre→∀(args:List Value) (w:World),bQ w cs args→Good P f r args w:=by
 intro cs pre r hg hp args w ha;unfold g1 at hg;split at hg
 ·rename_i l;split at hg
  ·rename_i x hx;obtain⟨n,e1,rfl⟩:=hr l x hx;have e:op (mm n)=(pre,r):=by simpa using hg
   have:=h n (by rw[e]; exact hp) args w (by
    rw[CQ ha,e1];exact⟨rfl,trivial⟩)
   rw[e]at this;exact this
  ·cases hg
 ·cases hg
theorem AW {P:Program} {f:FuncId} {α γ α' γ':Type} {rd:List At→Option α} {qn:γ→List At} {mm:γ→α} {rd':List At→Option α'} {qn':γ'→List At} {mm':γ'→α'} (hr:Rdv rd qn mm) (hr':Rdv rd' qn' mm') {op:α→α'→List Prop×RV}
  (h:∀x y,aZ (op (mm x) (mm' y)).1→∀args w,bQ w [.v (.fl (qn x)),.v (.fl (qn' y))] args→Good P f (op (mm x) (mm' y)).2 args w) :
  ∀cs pre r,g2 rd rd' op cs=some (pre,r)→aZ pre→∀(args:List Value) (w:World),bQ w cs args→Good P f r args w:=by
 intro cs pre r hg hp args w ha;unfold g2 at hg;split at hg
 ·rename_i l m;split at hg
  ·rename_i x y hx hy;obtain⟨n,e1,rfl⟩:=hr l x hx;obtain⟨n',e2,rfl⟩:=hr' m y hy;have e:op (mm n) (mm' n')=(pre,r):=by simpa using hg
   have:=h n n' (by rw[e]; exact hp) args w (by
    rw[OG ha,e1,e2];exact⟨rfl,rfl,trivial⟩)
   rw[e]at this;exact this
  ·cases hg
 ·cases hg
theorem KY (c:Bool)  : bN prog (BQ c) qN (fun _=>true) f185 60 []=some ([],.one (.fl [.f Hi.1,.f Hi.2,.f JB.1,.f JB.2,.f CL.1,.f CL.2,.f Nt.1,.f Nt.2,.f Ns.1,.f Ns.2,.f fb5.1,.f fb5.2])):=by kernel_rfl
def tP (c:Bool):Tab:=(BQ c).add 185 (g0 (.one (.fl [.f Hi.1,.f Hi.2,.f JB.1,.f JB.2,.f CL.1,.f CL.2,.f Nt.1,.f Nt.2,.f Ns.1,.f Ns.2,.f fb5.1,.f fb5.2])))
theorem yC (c:Bool):TabOk prog (tP c):=(Ly c).ad func185 (gI fun w=>aH aF (Ly c) aL func185 (KY c) trivial (args:=[]) trivial)
theorem FQ (c:Bool)  : bN prog (tP c) qN (fun _=>true) f183 60 []=some ([],.one (.fl [.f Qq,.f Jx,.f Qp,.f Qo,.f Qn,.f Qm])):=by kernel_rfl
def rO (c:Bool):Tab:=(tP c).add 183 (g0 (.one (.fl [.f Qq,.f Jx,.f Qp,.f Qo,.f Qn,.f Qm])))
theorem vH (c:Bool):TabOk prog (rO c):=(yC c).ad func183 (gI fun w=>aH aF (yC c) aL func183 (FQ c) trivial (args:=[]) trivial)
theorem Zs (c:Bool) (x:aM):bN prog (rO c) qN (fun _=>true) f141 80 [.v (.fl (aN x))]=some ([],.one (.fl (aN (cU x)))):=by kernel_rfl
def Ip (c:Bool):Tab:=(rO c).add 141 (g1 qQ fun x=>([],.one (.fl (aN (cU x)))))
theorem Lq (c:Bool):TabOk prog (Ip c):=(vH c).ad func141 (bM eF fun x hp args w ha=>aH aF (vH c) aL func141 (Zs c x) hp ha)
theorem Qv (c:Bool) (x:aM):bN prog (Ip c) qN (fun _=>true) f140 80 [.v (.fl (aN x))]=some ([],.one (.fl (aN (cM x)))):=by kernel_rfl
def TO (c:Bool):Tab:=(Ip c).add 140 (g1 qQ fun x=>([],.one (.fl (aN (cM x)))))
theorem ZC (c:Bool):TabOk prog (TO c):=(Lq c).ad func140 (bM eF fun x hp args w ha=>aH aF (Lq c) aL func140 (Qv c x) hp ha)
theorem aNZ {R:Type} (K:CR R) (a b v:R):K.add (K.mul a a) (K.mul v (K.mul b b))=K.sub (K.sub (K.mul (K.add a b) (K.add a (K.mul v b))) (K.mul a b)) (K.mul v (K.mul a b)) :=
 aE K (aU K [a,b,v]) (Z0*Z0+Z2*(Z1*Z1)) ((Z0+Z1)*(Z0+Z2*Z1)-Z0*Z1-Z2*(Z0*Z1)) (by decide)
theorem aNY {R:Type} (K:CR R) (a b:R):K.add (K.mul a b) (K.mul b a)=K.add (K.mul a b) (K.mul a b):=by rw[K.mul_comm b a]
theorem Dk (c:Bool) (x:aM):bN prog (TO c) qN (fun _=>true) f168 60 [.v (.fl (aN x))]=some ([],.one (.fl (aN ((F6.sub (F6.sub (F6.mul (F6.add x.1 x.2) (F6.add x.1 (F6.mul vE x.2))) (F6.mul x.1 x.2)) (F6.mul vE (F6.mul x.1 x.2)),F6.add (F6.mul x.1 x.2) (F6.mul x.1 x.2)))))):=by kernel_rfl
theorem Fc (x:aM):aC.mul x x=(F6.sub (F6.sub (F6.mul (F6.add x.1 x.2) (F6.add x.1 (F6.mul vE x.2))) (F6.mul x.1 x.2)) (F6.mul vE (F6.mul x.1 x.2)),F6.add (F6.mul x.1 x.2) (F6.mul x.1 x.2)):=by
 exact Prod.ext (aNZ F6 x.1 x.2 vE) (aNY F6 x.1 x.2)
def eE (c:Bool):Tab:=(TO c).add 168 (g1 qQ fun x=>([],.one (.fl (aN (aC.mul x x)))))
theorem dM (c:Bool):TabOk prog (eE c):=(ZC c).ad func168 (bM eF fun x hp args w ha=>by show Good _ _ (.one (.fl (aN (aC.mul x x)))) _ _; rw[Fc]; exact aH aF (ZC c) aL func168 (Dk c x) hp ha)
def bR (n:Int):Int:=(IntKind.i64.wrap (n.tmod 12+12)).tmod 12
def eC:Nat→aM→aM
 | 0,x=>x
 | n+1,x=>cU (eC n x)
theorem Ep (c:Bool) (x:tR) (n:Int):aT prog qN (fun _=>⟨fun _=>eE c,fun _=>true,fun s=>bif Nat.beq s 9 then some (.int .i64 0)else none⟩) f72 60 [.v (.fl (uA x)),.v (.im (.int .i64 n))]=some ([aI .rem .i64 (IntKind.i64.wrap (n.tmod 12+12)) 12=some (.int .i64 0)],.one (.fl (aN (gC x)))):=by kernel_rfl
theorem Eo (c:Bool) (x:tR) (n:Int):aT prog qN (fun _=>⟨fun _=>eE c,fun _=>true,fun s=>bif Nat.beq s 9 then some (.int .i64 1)else none⟩) f72 60 [.v (.fl (uA x)),.v (.im (.int .i64 n))]=some ([aI .rem .i64 (IntKind.i64.wrap (n.tmod 12+12)) 12=some (.int .i64 1)],.one (.fl (aN (cU (gC x))))):=by kernel_rfl
theorem En (c:Bool) (x:tR) (n:Int):aT prog qN (fun _=>⟨fun _=>eE c,fun _=>true,fun s=>bif Nat.beq s 9 then some (.int .i64 2)else none⟩) f72 60 [.v (.fl (uA x)),.v (.im (.int .i64 n))]=some ([aI .rem .i64 (IntKind.i64.wrap (n.tmod 12+12)) 12=some (.int .i64 2)],.one (.fl (aN (cM (gC x))))):=by kernel_rfl
theorem El (c:Bool) (x:tR) (n:Int):aT prog qN (fun _=>⟨fun _=>eE c,fun _=>true,fun s=>bif Nat.beq s 9 then some (.int .i64 3)else none⟩) f72 60 [.v (.fl (uA x)),.v (.im (.int .i64 n))]=some ([aI .rem .i64 (IntKind.i64.wrap (n.tmod 12+12)) 12=some (.int .i64 3)],.one (.fl (aN (cU (cM (gC x)))))):=by kernel_rfl
theorem Ek (c:Bool) (x:tR) (n:Int):aT prog qN (fun _=>⟨fun _=>eE c,fun _=>true,fun s=>bif Nat.beq s 9 then some (.int .i64 4)else none⟩) f72 60 [.v (.fl (uA x)),.v (.im (.int .i64 n))]=some ([aI .rem .i64 (IntKind.i64.wrap (n.tmod 12+12)) 12=some (.int .i64 4)],.one (.fl (aN (cM (cM (gC x)))))):=by kernel_rfl
theorem Ej (c:Bool) (x:tR) (n:Int):aT prog qN (fun _=>⟨fun _=>eE c,fun _=>true,fun s=>bif Nat.beq s 9 then some (.int .i64 5)else none⟩) f72 60 [.v (.fl (uA x)),.v (.im (.int .i64 n))]=some ([aI .rem .i64 (IntKind.i64.wrap (n.tmod 12+12)) 12=some (.int .i64 5)],.one (.fl (aN (cU (cM (cM (gC x))))))):=by kernel_rfl
theorem Ei (c:Bool) (x:tR) (n:Int):aT prog qN (fun _=>⟨fun _=>eE c,fun _=>true,fun s=>bif Nat.beq s 9 then some (.int .i64 6)else none⟩) f72 60 [.v (.fl (uA x)),.v (.im (.int .i64 n))]=some ([aI .rem .i64 (IntKind.i64.wrap (n.tmod 12+12)) 12=some (.int .i64 6)],.one (.fl (aN (cE (gC x))))):=by kernel_rfl
theorem Eh (c:Bool) (x:tR) (n:Int):aT prog qN (fun _=>⟨fun _=>eE c,fun _=>true,fun s=>bif Nat.beq s 9 then some (.int .i64 7)else none⟩) f72 60 [.v (.fl (uA x)),.v (.im (.int .i64 n))]=some ([aI .rem .i64 (IntKind.i64.wrap (n.tmod 12+12)) 12=some (.int .i64 7)],.one (.fl (aN (cU (cE (gC x)))))):=by kernel_rfl
theorem Eg (c:Bool) (x:tR) (n:Int):aT prog qN (fun _=>⟨fun _=>eE c,fun _=>true,fun s=>bif Nat.beq s 9 then some (.int .i64 8)else none⟩) f72 60 [.v (.fl (uA x)),.v (.im (.int .i64 n))]=some ([aI .rem .i64 (IntKind.i64.wrap (n.tmod 12+12)) 12=some (.int .i64 8)],.one (.fl (aN (cM (cE (gC x)))))):=by kernel_rfl
theorem Ef (c:Bool) (x:tR) (n:Int):aT prog qN (fun _=>⟨fun _=>eE c,fun _=>true,fun s=>bif Nat.beq s 9 then some (.int .i64 9)else none⟩) f72 60 [.v (.fl (uA x)),.v (.im (.int .i64 n))]=some ([aI .rem .i64 (IntKind.i64.wrap (n.tmod 12+12)) 12=some (.int .i64 9)],.one (.fl (aN (cU (cM (cE (gC x))))))):=by kernel_rfl
theorem XD (c:Bool) (x:tR) (n:Int):aT prog qN (fun _=>⟨fun _=>eE c,fun _=>true,fun s=>bif Nat.beq s 9 then some (.int .i64 10)else none⟩) f72 60 [.v (.fl (uA x)),.v (.im (.int .i64 n))]=some ([aI .rem .i64 (IntKind.i64.wrap (n.tmod 12+12)) 12=some (.int .i64 10)],.one (.fl (aN (cM (cM (cE (gC x))))))):=by kernel_rfl
theorem XC (c:Bool) (x:tR) (n:Int):aT prog qN (fun _=>⟨fun _=>eE c,fun _=>true,fun s=>bif Nat.beq s 9 then some (.int .i64 11)else none⟩) f72 60 [.v (.fl (uA x)),.v (.im (.int .i64 n))]=some ([aI .rem .i64 (IntKind.i64.wrap (n.tmod 12+12)) 12=some (.int .i64 11)],.one (.fl (aN (cU (cM (cM (cE (gC x)))))))):=by kernel_rfl
def aDn:jV
 | [.v (.fl l),.v (.im (.int .i64 n))]=>match VW l with
  | some x=>some ([],.one (.fl (aN (eC (bR n).toNat x))))
  | none=>none
 | _=>none
theorem yM (k:Nat) (x:aM):eC (k+2) x=cM (eC k x):=ZA _
theorem AR (x:aM):eC 6 x=cE x:=by rw[yM 4,yM 2,yM 0,←xD]; rfl
theorem qY (m:Nat):∀(n:Nat) (x:aM),eC (n+m) x=eC n (eC m x)
 | 0,x=>by rw[Nat.zero_add]; rfl
 | n+1,x=>by rw[show n+1+m=(n+m)+1 by omega]; show cU (eC (n+m) x)=cU (eC n (eC m x)); rw[qY m n x]
theorem aCN (x:aM):eC 0 x=x:=rfl
theorem Gs (x:aM):eC 1 x=(cU x):=rfl
theorem RQ (x:aM):eC 2 x=(cM x):=by rw[yM 0]; rfl
theorem Gr (x:aM):eC 3 x=(cU (cM x)):=by show cU (eC 2 x)=_; rw[yM 0]; rfl
theorem aCM (x:aM):eC 4 x=(cM (cM x)):=by rw[yM 2,yM 0]; rfl
theorem aCL (x:aM):eC 5 x=(cU (cM (cM x))):=by show cU (eC 4 x)=_; rw[yM 2,yM 0]; rfl
theorem aQH (x:aM):eC 6 x=(cE x):=by rw[show (6:Nat)=0+6 from rfl,qY,AR]; exact aCN _
theorem aQG (x:aM):eC 7 x=(cU (cE x)):=by rw[show (7:Nat)=1+6 from rfl,qY,AR]; exact Gs _
theorem aQF (x:aM):eC 8 x=(cM (cE x)):=by rw[show (8:Nat)=2+6 from rfl,qY,AR]; exact RQ _
theorem aQE (x:aM):eC 9 x=(cU (cM (cE x))):=by rw[show (9:Nat)=3+6 from rfl,qY,AR]; exact Gr _
theorem aJb (x:aM):eC 10 x=(cM (cM (cE x))):=by rw[show (10:Nat)=4+6 from rfl,qY,AR]; exact aCM _
theorem aJa (x:aM):eC 11 x=(cU (cM (cM (cE x)))):=by rw[show (11:Nat)=5+6 from rfl,qY,AR]; exact aCL _
theorem eJ {n:Int} {k:Int} (h:bR n=k):aI .rem .i64 (IntKind.i64.wrap (n.tmod 12+12)) 12=some (.int .i64 k):=by
 show some (Value.int .i64 ((IntKind.i64.wrap (n.tmod 12+12)).tmod 12))=_;rw[show (IntKind.i64.wrap (n.tmod 12+12)).tmod 12=k from h]
theorem aFZ (n:Int) : -12<n.tmod 12∧n.tmod 12<12:=by
 constructor
 ·exact Int.lt_tmod_of_pos n (by omega)
 ·exact Int.tmod_lt_of_pos n (by omega)
theorem Fb (n:Int):bR n=(n.tmod 12+12).tmod 12∧0≤bR n∧bR n<12:=by
 have h:=aFZ n;have e:IntKind.i64.wrap (n.tmod 12+12)=n.tmod 12+12:=IntWalk.i64_in _ (by omega);unfold bR;rw[e];exact⟨rfl,Int.tmod_nonneg 12 (by omega),Int.tmod_lt_of_pos _ (by omega)⟩
theorem aJO (c:Bool):∀cs pre r,aDn cs=some (pre,r)→aZ pre→∀(args:List Value) (w:World),bQ w cs args→Good prog 72 r args w:=by
 intro cs pre r hg hp args w ha;unfold aDn at hg;split at hg
 ·rename_i l n;split at hg
  ·rename_i x hx;cases hg;obtain⟨a,e1,rfl⟩:=tX l x hx;have ha':bQ w [.v (.fl (uA a)),.v (.im (.int .i64 n))] args:=by
    match args,ha with
    | [v,u],ha =>
     refine⟨?_,ha.2.1,trivial⟩;show v=.agg (aA (uA a)).toArray;rw[←e1];exact ha.1
    | [],ha=>exact ha.elim
    | [_],ha=>exact ha.2.elim
    | _::_::_::_,ha=>exact ha.2.2.elim
   obtain⟨_,h0,h1⟩:=Fb n;have hk:(bR n).toNat=0∨(bR n).toNat=1∨(bR n).toNat=2∨(bR n).toNat=3∨(bR n).toNat=4∨(bR n).toNat=5∨(bR n).toNat=6∨(bR n).toNat=7∨(bR n).toNat=8∨(bR n).toNat=9∨(bR n).toNat=10∨(bR n).toNat=11:=by omega
   rcases hk with h|h|h|h|h|h|h|h|h|h|h|h
   ·rw[h,aCN];exact aB aF (fun _ _=>dM c) aL func72 (Ep c a n) ⟨eJ (by omega),trivial⟩ ha'
   ·rw[h,Gs];exact aB aF (fun _ _=>dM c) aL func72 (Eo c a n) ⟨eJ (by omega),trivial⟩ ha'
   ·rw[h,RQ];exact aB aF (fun _ _=>dM c) aL func72 (En c a n) ⟨eJ (by omega),trivial⟩ ha'
   ·rw[h,Gr];exact aB aF (fun _ _=>dM c) aL func72 (El c a n) ⟨eJ (by omega),trivial⟩ ha'
   ·rw[h,aCM];exact aB aF (fun _ _=>dM c) aL func72 (Ek c a n) ⟨eJ (by omega),trivial⟩ ha'
   ·rw[h,aCL];exact aB aF (fun _ _=>dM c) aL func72 (Ej c a n) ⟨eJ (by omega),trivial⟩ ha'
   ·rw[h,aQH];exact aB aF (fun _ _=>dM c) aL func72 (Ei c a n) ⟨eJ (by omega),trivial⟩ ha'
   ·rw[h,aQG];exact aB aF (fun _ _=>dM c) aL func72 (Eh c a n) ⟨eJ (by omega),trivial⟩ ha'
   ·rw[h,aQF];exact aB aF (fun _ _=>dM c) aL func72 (Eg c a n) ⟨eJ (by omega),trivial⟩ ha'
   ·rw[h,aQE];exact aB aF (fun _ _=>dM c) aL func72 (Ef c a n) ⟨eJ (by omega),trivial⟩ ha'
   ·rw[h,aJb];exact aB aF (fun _ _=>dM c) aL func72 (XD c a n) ⟨eJ (by omega),trivial⟩ ha'
   ·rw[h,aJa];exact aB aF (fun _ _=>dM c) aL func72 (XC c a n) ⟨eJ (by omega),trivial⟩ ha'
  ·cases hg
 ·cases hg
def KG (c:Bool):Tab:=(eE c).add 72 aDn
theorem MZ (c:Bool):TabOk prog (KG c):=(dM c).ad func72 (aJO c)
theorem Ey (c:Bool) (x:tR):bN prog (KG c) qN (fun _=>true) f110 40 [.v (.fl (uA x))]=some ([],.one (.fl (aN (cE (gC x))))):=by kernel_rfl
def Bu (c:Bool):Tab:=(KG c).add 110 (g1 VW (fun x=>([],.one (.fl (aN (cE x))))))
theorem Uj (c:Bool):TabOk prog (Bu c):=(MZ c).ad func110 (kK tX fun x hp args w ha=>aH aF (MZ c) aL func110 (Ey c x) hp ha)
theorem Xd {x y:Fq} (h:w4 x.1=w4 y.1):x=y:=by
 unfold w4 at h;simp only[List.cons.injEq,Value.int.injEq,true_and,and_true,Int.ofNat_inj]at h;apply Fin.ext;rw[←bU x.2,←bU y.2,h.1,h.2.1,h.2.2.1,h.2.2.2]
theorem yP:∀(l m:List Fq),aA (l.map .f)=aA (m.map .f)→l=m
 | [],[],_=>rfl
 | a::r,b::s,h=>by
  have h':w4 a.1++aA (r.map .f)=w4 b.1++aA (s.map .f):=h;obtain⟨h1,h2⟩:=List.append_inj h' rfl;rw[Xd h1,yP r s h2]
 | [],b::s,h=>by cases h
 | a::r,[],h=>by cases h
theorem aRZ {a b:Fq} (h:aA [.f a]=aA [.f b]):a=b:=Xd (by
 have h':w4 a.1++[]=w4 b.1++[]:=h
 rwa [List.append_nil,List.append_nil]at h')
theorem aRY {a b:Q2} (h:aA (e2 a)=aA (e2 b)):a=b:=by
 have:=yP [a.1,a.2] [b.1,b.2] h;simp only[List.cons.injEq,and_true]at this;exact Prod.ext this.1 this.2
def LT:Nat:=4965661367192848881
def zN:Nat:=6*LT
def q4N:Nat:=FP.M^4-FP.M^2+1
theorem oE (x:aM):cU x=bH aC x FP.M:=(p12 x).symm
def KM:Nat:=FP.M*FP.M
def p6N:Nat:=KM*(KM*KM)
theorem xE (x:aM):cM x=bH aC x KM:=by rw[←ZA,oE,oE,←dQ,KM]
theorem JL (x:aM):cE x=bH aC x p6N:=by
 rw[←xD,xE,xE,xE,←dQ,←dQ,p6N]
theorem MA (x:aM):bH aC x 1=x:=by show aC.mul aC.one x=x; rw[aC.one_mul]
def rE (y:aM):aM:=bH aC y zN
def RX (y:aM):aM:=bH aC (rE y) LT
def hCu (y:aM):aM:=bH aC (RX y) zN
def hT (y:aM):aM:=aC.mul (RX y) (RX y)
def hG (y:aM):aM:=aC.mul (aC.mul (aC.mul (hCu y) (RX y)) (hT y)) (aC.mul (rE y) (rE y))
def hR (y:aM):aM:=aC.mul (aC.mul (aC.mul (hG y) (hT y)) (rE y)) (aC.mul y y)
def hX (y:aM):aM:=aC.mul (aC.mul (aC.mul (eC 3 y) (eC 2 (aC.mul y (RX y)))) (eC 1 (aC.mul y (cE (hG y))))) (cE (hR y))
def eS2:Nat:=zN*LT
def eCu:Nat:=eS2*zN
def eT:Nat:=eS2+eS2
def eG:Nat:=eCu+eS2+eT+(zN+zN)
def eR:Nat:=eG+eT+zN+(1+1)
def eX:Nat:=KM*FP.M+(1+eS2)*KM+(1+eG*p6N)*FP.M+eR*p6N
theorem RW (y:aM):RX y=bH aC y eS2:=by unfold RX rE eS2; rw[←dQ]
theorem aQV (y:aM):hCu y=bH aC y eCu:=by unfold hCu eCu; rw[RW,←dQ]
theorem aMk (y:aM):hT y=bH aC y eT:=by unfold hT eT; rw[RW,←cJ]
theorem aMl (y:aM):hG y=bH aC y eG:=by unfold hG eG; rw[aQV,RW,aMk,show rE y=bH aC y zN from rfl,←cJ,←cJ,←cJ,←cJ]
theorem aUK (y:aM):aC.mul y y=bH aC y (1+1):=by rw[cJ,MA]
theorem aWE (y:aM):hR y=bH aC y eR:=by unfold hR eR; rw[aMl,aMk,show rE y=bH aC y zN from rfl,aUK,←cJ,←cJ,←cJ]
theorem aQI (y:aM):eC 3 y=bH aC y (KM*FP.M):=by rw[Gr,oE,xE,←dQ]
theorem aQJ (y:aM):eC 2 y=bH aC y KM:=by rw[RQ,xE]
theorem aQK (y:aM):eC 1 y=bH aC y FP.M:=by rw[Gs,oE]
theorem GQ (y:aM) (n:Nat):aC.mul y (bH aC y n)=bH aC y (1+n):=by rw[cJ,MA]
theorem CK (y:aM):hX y=bH aC y eX:=by
 unfold hX eX;rw[RW,GQ,aQI,aQJ,aMl,JL (bH aC y eG),←dQ aC y eG,GQ,aQK,aWE,JL (bH aC y eR),←dQ,←dQ,←dQ,←cJ,←cJ,←cJ]
theorem Kl {x k:aM} (h:aC.mul x k=aC.one) (n:Nat):aC.mul (bH aC x n) (bH aC k n)=aC.one:=by rw[←mL,h,mK]
theorem aFP {x k:aM} (h:aC.mul x k=aC.one):x≠aC.zero:=fun e=>by
 rw[e,aC.mul_comm,aC.mul_zero]at h;exact jJ.1 h.symm
theorem IU {y:aM} (h:oY y) (n:Nat):oY (bH aC y n):=by
 obtain⟨hz,h2⟩:=h;obtain⟨k,hk⟩:=jJ.2 y hz;refine⟨aFP (Kl hk n),?_⟩;have e:∀z,cM (bH aC z n)=bH aC (cM z) n:=fun z=>(mM aC aC cM (by decide) pB z n).symm
 rw[e,e,←mL,h2]
theorem aVw:KM+q4N=KM*KM+1:=by kernel_rfl
theorem Fd {y:aM} (h:oY y):bH aC y q4N=aC.one:=by
 obtain⟨hz,h2⟩:=h;obtain⟨k,hk⟩:=jJ.2 y hz;have h3:bH aC y (KM*KM+1)=bH aC y KM:=by
  rw[cJ,MA,dQ,←xE,←xE];exact h2
 rw[←aVw,cJ]at h3;have hu:=Kl hk KM;have h4:aC.mul (bH aC k KM) (aC.mul (bH aC y KM) (bH aC y q4N))=aC.mul (bH aC k KM) (bH aC y KM):=congrArg (fun t=>aC.mul (bH aC k KM) t) h3;rw[←aC.mul_assoc,aC.mul_comm (bH aC k KM),hu,aC.one_mul]at h4;exact h4
def kX:Nat:=eX*Go.Proofs.YtglgakbkdjhojaaGreat.FR.M/q4N
theorem bAr:eX*Go.Proofs.YtglgakbkdjhojaaGreat.FR.M=q4N*kX:=by kernel_rfl
theorem aWA {y:aM} (h:oY y):bH aC (hX y) Go.Proofs.YtglgakbkdjhojaaGreat.FR.M=aC.one:=by
 rw[CK,←dQ,bAr,dQ,Fd h,mK]
theorem aWD {y:aM} (h:oY y):oY (hX y):=by rw[CK]; exact IU h _
theorem aXw (x:aM):cE (cE x)=x:=by
 refine Prod.ext rfl ?_;show F6.add F6.zero (F6.neg (F6.add F6.zero (F6.neg x.2)))=x.2;rw[F6.zero_add,F6.zero_add,F6.neg_neg]
def eZ (a:aM):aM:=aC.mul (cM (aC.mul (cE a) (kI a))) (aC.mul (cE a) (kI a))
def jW (a:aM):aM:=hX (eZ a)
theorem Nz {a:aM} (h:uU a≠F1.zero):oY (eZ a):=by
 have hk:aC.mul a (kI a)=aC.one:=UM h;unfold eZ;generalize kI a=k at hk;generalize hy:aC.mul (cE a) k=y;have hk2:aC.mul (cE a) (cE k)=aC.one:=by rw[←JM,hk]; decide
 have h1:aC.mul (cE y) y=aC.one:=by
  rw[←hy,JM,aXw];have:aC.mul (aC.mul a (cE k)) (aC.mul (cE a) k)=aC.mul (aC.mul a k) (aC.mul (cE a) (cE k)):=by
   rw[aC.mul_assoc,aC.mul_assoc,aC.mul_left_comm (cE k),aC.mul_left_comm k,aC.mul_comm (cE k) k,aC.mul_left_comm (cE a) k,aC.mul_left_comm k (cE a)]
  rw[this,hk,hk2,aC.one_mul]
 have h3:cM (cM (cM y))=cE y:=xD y;have hne:y≠aC.zero:=fun e=>by rw[e,aC.mul_zero]at h1; exact jJ.1 h1.symm
 refine⟨fun e => ?_,?_⟩
 ·have h2:aC.mul (cM (cE y)) (cM y)=aC.one:=by rw[←pB,h1]; decide
  have h4:=congrArg (fun t=>aC.mul (aC.mul (cM (cE y)) (cE y)) t) e;simp only[aC.mul_zero]at h4;have h5:aC.mul (aC.mul (cM (cE y)) (cE y)) (aC.mul (cM y) y)=aC.one:=by
   rw[aC.mul_assoc,aC.mul_left_comm (cE y),←aC.mul_assoc,h2,h1,aC.one_mul]
  rw[h5]at h4;exact jJ.1 h4
 ·rw[pB,pB,h3];rw[aC.mul_comm (cE y),aC.mul_assoc,aC.mul_left_comm (cE y),h1,aC.mul_one]
end Go.Proofs.YtglgakbkdjhojaaGreat.Ex
namespace Go.Proofs.YtglgakbkdjhojaaGreat
open Go.Proofs.Tryz
open Go.RowKit
def Pr (a0 a1 a2 a3 a4 a5 a6 a7:Nat):Nat:=a0+4294967296*(a1+4294967296*(a2+4294967296*(a3+4294967296*(a4+4294967296*(a5+4294967296*(a6+4294967296*a7))))))
def ok8 (a0 a1 a2 a3 a4 a5 a6 a7:Nat):Prop:=a0<4294967296∧a1<4294967296∧a2<4294967296∧a3<4294967296∧a4<4294967296∧a5<4294967296∧a6<4294967296∧a7<4294967296
structure QW (w wr:World) (A B P:Nat→Nat):Prop where
 below:Below w.heap.size w wr
 size:w.heap.size+1+1+1<wr.heap.size
 rowA:RowIs wr w.heap.size 4 A
 rowB:RowIs wr (w.heap.size+1) 4 B
 rowR:RowIs wr (w.heap.size+1+1) 4 (fun _=>0)
 rowP:RowIs wr (w.heap.size+1+1+1) 4 P
theorem QW.set {w wr:World} {A B P:Nat→Nat} (h:QW w wr A B P) {k d:Nat} (hk:k<4):QW w (wr.setCell ⟨w.heap.size+1+1+1,k,none⟩ (.int .u64 (d:Nat))) A B (upd P k d) :=
 ⟨h.below.setCell (p:=⟨w.heap.size+1+1+1,k,none⟩) (by simp; omega) _,by rw[World.size_setCell]; exact h.size,h.rowA.other (by omega) _,h.rowB.other (by omega) _,h.rowR.other (by omega) _,h.rowP.set hk⟩
theorem QW.drewN {w wr:World} {A B P:Nat→Nat} (h:QW w wr A B P) (n:Nat):QW w (wr.drewN n) A B P:=⟨h.below.trans (bO _ _ _),h.size,h.rowA,h.rowB,h.rowR,h.rowP⟩
theorem QW.start (w:World) (a0 a1 a2 a3 b0 b1 b2 b3:Nat) (t:TypeId):QW w ((((w.alloc (.cells #[.int .u64 a0,.int .u64 a1,.int .u64 a2,.int .u64 a3] t)).alloc (.cells #[.int .u64 b0,.int .u64 b1,.int .u64 b2,.int .u64 b3] t)).alloc (.cells #[.int .u64 0,.int .u64 0,.int .u64 0,.int .u64 0] t)).alloc (.cells #[.int .u64 0,.int .u64 0,.int .u64 0,.int .u64 0] t)) (iV [a0,a1,a2,a3]) (iV [b0,b1,b2,b3]) (fun _=>0):=by
 refine⟨?_,by simp,?_,?_,?_,?_⟩
 ·repeat (first|exact Below.refl _ _|refine Below.alloc ?_ (by first|(simp; done)|(simp; omega)) _)
 ·exact RowIs.mk4 (by simp[go_sem]) (by simp[go_sem]) (by simp[go_sem]) (by simp[go_sem]) (fun k=>by simp[go_sem])
 ·exact RowIs.mk4 (by simp[go_sem]) (by simp[go_sem]) (by simp[go_sem]) (by simp[go_sem]) (fun k=>by simp[go_sem])
 ·intro k hk
  match k,hk with
  | 0,_|1,_|2,_|3,_=>exact⟨by simp[go_sem],by simp[go_sem]⟩
 ·intro k hk
  match k,hk with
  | 0,_|1,_|2,_|3,_=>exact⟨by simp[go_sem],by simp[go_sem]⟩
def aFu (A:Nat) (t:Value):Prop:=∃x0 x1 x2 x3 x4 x5 x6 x7:Nat,t=.agg #[.int .u64 x0,.int .u64 x1,.int .u64 x2,.int .u64 x3,.int .u64 x4,.int .u64 x5,.int .u64 x6,.int .u64 x7]∧ok8 x0 x1 x2 x3 x4 x5 x6 x7∧Hid (Pr x0 x1 x2 x3 x4 x5 x6 x7=A)
def Jh (wr u:World) (t:Value):Prop:=∃p,t=.pointer (some ⟨p,0,none⟩)∧wr.heap.size≤p∧p<u.heap.size∧RowIs u p 8 (fun _=>0)
def set8 (w:World) (b:Nat) (d0 d1 d2 d3 d4 d5 d6 d7:Nat):World :=
 (((((((w.setCell ⟨b,0,none⟩ (.int .u64 d0)).setCell ⟨b,1,none⟩ (.int .u64 d1)).setCell ⟨b,2,none⟩ (.int .u64 d2)).setCell ⟨b,3,none⟩ (.int .u64 d3)).setCell ⟨b,4,none⟩ (.int .u64 d4)).setCell ⟨b,5,none⟩ (.int .u64 d5)).setCell ⟨b,6,none⟩ (.int .u64 d6)).setCell ⟨b,7,none⟩ (.int .u64 d7)
theorem RowIs.ext {w:World} {b n:Nat} {P R:Nat→Nat} (h:RowIs w b n P) (e:∀k,k<n→P k=R k):RowIs w b n R:=fun k hk=>⟨by rw[←e k hk]; exact h.cell hk,h.free hk⟩
theorem RowIs.set8 {w:World} {b:Nat} {P:Nat→Nat} (h:RowIs w b 8 P) (d0 d1 d2 d3 d4 d5 d6 d7:Nat):RowIs (Go.Proofs.YtglgakbkdjhojaaGreat.set8 w b d0 d1 d2 d3 d4 d5 d6 d7) b 8 (iV [d0,d1,d2,d3,d4,d5,d6,d7]):=by
 have r:=(((((((h.set (show 0<8 by omega) (v:=d0)).set (show 1<8 by omega) (v:=d1)).set (show 2<8 by omega) (v:=d2)).set (show 3<8 by omega) (v:=d3)).set (show 4<8 by omega) (v:=d4)).set (show 5<8 by omega) (v:=d5)).set (show 6<8 by omega) (v:=d6)).set (show 7<8 by omega) (v:=d7);unfold Go.Proofs.YtglgakbkdjhojaaGreat.set8;refine r.ext fun k hk => ?_
 match k,hk with
 | 0,_|1,_|2,_|3,_|4,_|5,_|6,_|7,_=>rfl
theorem RowIs.set8_other {w:World} {b c n:Nat} {P:Nat→Nat} (h:RowIs w b n P) (hc:c≠b) (d0 d1 d2 d3 d4 d5 d6 d7:Nat):RowIs (Go.Proofs.YtglgakbkdjhojaaGreat.set8 w c d0 d1 d2 d3 d4 d5 d6 d7) b n P :=
 (((((((h.other hc _).other hc _).other hc _).other hc _).other hc _).other hc _).other hc _).other hc _
theorem wR {B:Nat} {w w':World} {b:Nat} (h:Below B w w') (hb:B≤b) (d0 d1 d2 d3 d4 d5 d6 d7:Nat):Below B w (set8 w' b d0 d1 d2 d3 d4 d5 d6 d7) :=
 (((((((h.setCell (p:=⟨b,0,none⟩) hb _).setCell (p:=⟨b,1,none⟩) hb _).setCell (p:=⟨b,2,none⟩) hb _).setCell (p:=⟨b,3,none⟩) hb _).setCell (p:=⟨b,4,none⟩) hb _).setCell (p:=⟨b,5,none⟩) hb _).setCell (p:=⟨b,6,none⟩) hb _).setCell (p:=⟨b,7,none⟩) hb _
theorem gL (w:World) (b d0 d1 d2 d3 d4 d5 d6 d7:Nat):(set8 w b d0 d1 d2 d3 d4 d5 d6 d7).heap.size=w.heap.size:=by
 unfold set8; simp only[World.size_setCell]
theorem IX {x0 x1 x2 x3 x4 x5 x6 x7:Nat} (h:ok8 x0 x1 x2 x3 x4 x5 x6 x7) (k:Nat):iV [x0,x1,x2,x3,x4,x5,x6,x7] k<4294967296:=by
 obtain⟨h0,h1,h2,h3,h4,h5,h6,h7⟩:=h;unfold iV
 match k with
 | 0=>exact h0
 | 1=>exact h1
 | 2=>exact h2
 | 3=>exact h3
 | 4=>exact h4
 | 5=>exact h5
 | 6=>exact h6
 | 7=>exact h7
 | k+8=>simp
theorem FB (P:Nat→Nat):Pr (P 0) (P 1) (P 2) (P 3) (P 4) (P 5) (P 6) (P 7)=tot 4294967296 P 8:=by
 unfold Pr;simp only[tot];omega
structure R3 (got:Nat→Bool) (wr:World) (f:Int) (F:FC) (a0 a1 a2 a3 b0 b1 b2 b3:Nat) (t7 t8 t9 s21 s22 s23 s24 s25 s26 s27:Value) (u:World):Prop where
 below:Below wr.heap.size wr u
 g0:got 0=true→s21=.agg #[.int .u64 a0,.int .u64 a1,.int .u64 a2,.int .u64 a3]
 g1:got 1=true→aFu (aG a0 a1 a2 a3) s22
 g2:got 2=true→s23=.agg #[.int .u64 b0,.int .u64 b1,.int .u64 b2,.int .u64 b3]
 g3:got 3=true→aFu (aG b0 b1 b2 b3) s24
 g4:got 4=true→s25=.int .i64 f
 g5:got 5=true→s26=.agg #[.int .u64 F.m0,.int .u64 F.m1,.int .u64 F.m2,.int .u64 F.m3]
 g6:got 6=true→aFu F.M s27
 g7:got 7=true→Jh wr u t7
 g8:got 8=true→Jh wr u t8
 g9:got 9=true→Jh wr u t9
 n78:got 7=true→got 8=true→t7≠t8
 n79:got 7=true→got 9=true→t7≠t9
 n89:got 8=true→got 9=true→t8≠t9
section
variable {got:Nat→Bool} {wr u u':World} {f:Int} {F:FC} {a0 a1 a2 a3 b0 b1 b2 b3:Nat} {t7 t8 t9 s21 s22 s23 s24 s25 s26 s27:Value}
theorem R3.start (wr:World) (f:Int) (F:FC) (a0 a1 a2 a3 b0 b1 b2 b3:Nat):R3 (fun _=>false) wr f F a0 a1 a2 a3 b0 b1 b2 b3 undef undef undef undef undef undef undef undef undef undef wr.drew :=
 ⟨(Below.refl _ _).drew,fun h=>Bool.noConfusion h,fun h=>Bool.noConfusion h,fun h=>Bool.noConfusion h,fun h=>Bool.noConfusion h,fun h=>Bool.noConfusion h,fun h=>Bool.noConfusion h,fun h=>Bool.noConfusion h,fun h=>Bool.noConfusion h,fun h=>Bool.noConfusion h,fun h=>Bool.noConfusion h,fun h=>Bool.noConfusion h,fun h=>Bool.noConfusion h,fun h=>Bool.noConfusion h⟩
end
structure ThreeH (wr u:World) (p q r:Nat) (X Y Z:Nat→Nat) (A B M:Nat):Prop where
 below:Below wr.heap.size wr u
 lp:wr.heap.size≤p
 lq:wr.heap.size≤q
 lr:wr.heap.size≤r
 up:p<u.heap.size
 uq:q<u.heap.size
 ur:r<u.heap.size
 pq:p≠q
 pr:p≠r
 qr:q≠r
 rowX:RowIs u p 8 X
 rowY:RowIs u q 8 Y
 rowZ:RowIs u r 8 Z
 ltX:∀k,X k<4294967296
 ltY:∀k,Y k<4294967296
 ltZ:∀k,Z k<4294967296
 eX:tot 4294967296 X 8=A
 eY:tot 4294967296 Y 8=B
 eZ:tot 4294967296 Z 8=M
theorem ThreeH.store {wr u:World} {p q r A B M x0 x1 x2 x3 x4 x5 x6 x7 y0 y1 y2 y3 y4 y5 y6 y7 z0 z1 z2 z3 z4 z5 z6 z7:Nat} (hx:ok8 x0 x1 x2 x3 x4 x5 x6 x7) (hy:ok8 y0 y1 y2 y3 y4 y5 y6 y7) (hz:ok8 z0 z1 z2 z3 z4 z5 z6 z7) (ex:Hid (Pr x0 x1 x2 x3 x4 x5 x6 x7=A)) (ey:Hid (Pr y0 y1 y2 y3 y4 y5 y6 y7=B)) (ez:Hid (Pr z0 z1 z2 z3 z4 z5 z6 z7=M))
  (lp:wr.heap.size≤p) (lq:wr.heap.size≤q) (lr:wr.heap.size≤r) (up:p<u.heap.size) (uq:q<u.heap.size) (ur:r<u.heap.size) (pq:p≠q) (pr:p≠r) (qr:q≠r) (rp:RowIs u p 8 (fun _=>0)) (rq:RowIs u q 8 (fun _=>0)) (rr:RowIs u r 8 (fun _=>0)) (hbl:Below wr.heap.size wr u) :
  ThreeH wr (set8 (set8 (set8 u p x0 x1 x2 x3 x4 x5 x6 x7) q y0 y1 y2 y3 y4 y5 y6 y7) r z0 z1 z2 z3 z4 z5 z6 z7) p q r (iV [x0,x1,x2,x3,x4,x5,x6,x7]) (iV [y0,y1,y2,y3,y4,y5,y6,y7]) (iV [z0,z1,z2,z3,z4,z5,z6,z7]) A B M :=
 ⟨wR (wR (wR hbl lp _ _ _ _ _ _ _ _) lq _ _ _ _ _ _ _ _) lr _ _ _ _ _ _ _ _,lp,lq,lr,by rw[gL,gL,gL]; exact up,by rw[gL,gL,gL]; exact uq,by rw[gL,gL,gL]; exact ur,pq,pr,qr,
  ((rp.set8 _ _ _ _ _ _ _ _).set8_other (fun e=>pq e.symm) _ _ _ _ _ _ _ _).set8_other (fun e=>pr e.symm) _ _ _ _ _ _ _ _,((rq.set8_other pq _ _ _ _ _ _ _ _).set8 _ _ _ _ _ _ _ _).set8_other (fun e=>qr e.symm) _ _ _ _ _ _ _ _,((rr.set8_other pr _ _ _ _ _ _ _ _).set8_other qr _ _ _ _ _ _ _ _).set8 _ _ _ _ _ _ _ _,IX hx,IX hy,IX hz,
  (FB (iV [x0,x1,x2,x3,x4,x5,x6,x7])).symm.trans ex.out,(FB (iV [y0,y1,y2,y3,y4,y5,y6,y7])).symm.trans ey.out,(FB (iV [z0,z1,z2,z3,z4,z5,z6,z7])).symm.trans ez.out⟩
structure MT (w wr:World) (p q r t:Nat) (X Y Z P:Nat→Nat):Prop where
 below:Below w.heap.size w wr
 res:Row4 wr (w.heap.size+1+1) 0 0 0 0
 rowX:RowIs wr p 8 X
 rowY:RowIs wr q 8 Y
 rowZ:RowIs wr r 8 Z
 rowP:RowIs wr t 10 P
 lt:∀k,P k<4294967296
section
variable {w wr:World} {p q r t:Nat} {X Y Z P:Nat→Nat}
theorem MT.set (h:MT w wr p q r t X Y Z P) (h2:w.heap.size+1+1<t) (pt:p<t) (qt:q<t) (rt:r<t) {k d:Nat} (hk:k<10) (hd:d<4294967296) :
  MT w (wr.setCell ⟨t,k,none⟩ (.int .u64 (d:Nat))) p q r t X Y Z (upd P k d) :=
 ⟨h.below.setCell (p:=⟨t,k,none⟩) (by show w.heap.size≤t; omega) _,h.res.other (by omega) _,h.rowX.other (by omega) _,h.rowY.other (by omega) _,h.rowZ.other (by omega) _,h.rowP.set hk,
  fun j=>by unfold upd; split; exact hd; exact h.lt j⟩
theorem MT.drewN (h:MT w wr p q r t X Y Z P) (n:Nat):MT w (wr.drewN n) p q r t X Y Z P:=⟨h.below.trans (bO _ _ _),h.res.drewN n,h.rowX,h.rowY,h.rowZ,h.rowP,h.lt⟩
end
structure OW (w wr:World) (t o:Nat) (P O:Nat→Nat):Prop where
 below:Below w.heap.size w wr
 res:Row4 wr (w.heap.size+1+1) 0 0 0 0
 rowP:RowIs wr t 10 P
 rowO:RowIs wr o 4 O
 lo:o<wr.heap.size
theorem OW.drewN {w wr:World} {t o:Nat} {P O:Nat→Nat} (h:OW w wr t o P O) (n:Nat):OW w (wr.drewN n) t o P O:=⟨h.below.trans (bO _ _ _),h.res.drewN n,h.rowP,h.rowO,h.lo⟩
theorem OW.set {w wr:World} {t o:Nat} {P O:Nat→Nat} (h:OW w wr t o P O) (h2:w.heap.size+1+1<t) (ht:t<o) {k d:Nat} (hk:k<4):OW w (wr.setCell ⟨o,k,none⟩ (.int .u64 (d:Nat))) t o P (upd O k d) :=
 ⟨h.below.setCell (p:=⟨o,k,none⟩) (by show w.heap.size≤o; omega) _,h.res.other (by omega) _,h.rowP.other (by omega) _,h.rowO.set hk,by rw[World.size_setCell]; exact h.lo⟩
end Go.Proofs.YtglgakbkdjhojaaGreat
