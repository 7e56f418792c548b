/- Eo10 -/
import Derived.Deep.RegionHeld3
import Derived.Deep.DeepCutAuto
import Derived.Laws.AppendOwn
import Derived.Laws.OwnMore
import Derived.Deep.LoopGhost
import Derived.KernelRfl
import Derived.Test.YtpjlhhpjpnacmaaGreatDoorEo04
import Derived.Test.YtpjlhhpjpnacmaaGreatDoorEo03
import Derived.Test.YtpjlhhpjpnacmaaGreatDoorEo05
import Derived.Test.YtpjlhhpjpnacmaaGreatDoorEo02
import Derived.Test.YtpjlhhpjpnacmaaGreatDoorProg
set_option maxRecDepth 100000
set_option linter.unusedVariables false
set_option linter.unusedSimpArgs false
set_option linter.unnecessarySimpa false
noncomputable section
namespace Go.Proofs.YtpjlhhpjpnacmaaGreatDoor
open Go.Proofs.Tryz
open Go.RowKit
structure LW (w wr:World) (s0 s1 s2 s3 a0 a1 a2 a3 b0 b1 b2 b3:Nat):Prop where
 below:Below w.heap.size w wr
 size:w.heap.size+1+1+1<wr.heap.size
 rowS:Row4 wr w.heap.size s0 s1 s2 s3
 rowA:Row4 wr (w.heap.size+1) a0 a1 a2 a3
 rowB:Row4 wr (w.heap.size+1+1) b0 b1 b2 b3
 rowO:Row4 wr (w.heap.size+1+1+1) 0 0 0 0
theorem MB (w:World) (o1 o2 o3 o4:Obj):Below w.heap.size w ((((w.alloc o1).alloc o2).alloc o3).alloc o4) :=
 (MC w o1 o2 o3).alloc (by simp; omega) o4
def UU (a0 a1 a2 a3:Nat):Nat→Nat
 | 0=>0
 | 1=>a3
 | 2=>a3*18446744073709551616+a2
 | 3=>(a3*18446744073709551616+a2)*18446744073709551616+a1
 | _=>((a3*18446744073709551616+a2)*18446744073709551616+a1)*18446744073709551616+a0
def BX (a0 a1 a2 a3:Nat):Nat→Nat
 | 0=>a3
 | 1=>a2
 | 2=>a1
 | _=>a0
theorem PR (a0 a1 a2 a3:Nat) {k:Nat} (h:k<4):UU a0 a1 a2 a3 (k+1)=UU a0 a1 a2 a3 k*18446744073709551616+BX a0 a1 a2 a3 k:=by
 match k,h with
 | 0,_=>simp[UU,BX]
 | 1,_=>rfl
 | 2,_=>rfl
 | 3,_=>rfl
theorem UM {a0 a1 a2 a3:Nat} (h:cC a0 a1 a2 a3) (k:Nat):BX a0 a1 a2 a3 k<18446744073709551616:=by
 obtain⟨h0,h1,h2,h3⟩:=h
 match k with
 | 0=>exact h3
 | 1=>exact h2
 | 2=>exact h1
 | k+3=>exact h0
theorem YE (n m x b:Nat):((n%b)*m+x)%b=(n*m+x)%b:=by
 rw[Nat.add_mod,Nat.mul_mod,Nat.mod_mod,←Nat.mul_mod,←Nat.add_mod]
def TIn (R b:Nat) (a0 a1 a2 a3 k v:Nat):Prop:=v<b∧v=(R*18446744073709551616^k+UU a0 a1 a2 a3 k)%b
theorem UY {R b k v x:Nat} {a0 a1 a2 a3:Nat} (h:TIn R b a0 a1 a2 a3 k v) (hk:k<4) (hb:0<b) (hx:x=BX a0 a1 a2 a3 k):TIn R b a0 a1 a2 a3 (k+1) ((v*18446744073709551616+x)%b):=by
 refine⟨Nat.mod_lt _ hb,?_⟩;rw[h.2,YE,PR _ _ _ _ hk,hx,Nat.pow_succ,Nat.add_mul,Nat.mul_assoc,Nat.add_assoc]
theorem Ed {R b v:Nat} {a0 a1 a2 a3:Nat} (h:TIn R b a0 a1 a2 a3 4 v):v=(R*115792089237316195423570985008687907853269984665640564039457584007913129639936+aC a0 a1 a2 a3)%b:=by
 rw[h.2,show 18446744073709551616^4=115792089237316195423570985008687907853269984665640564039457584007913129639936 by simp,show UU a0 a1 a2 a3 4=aC a0 a1 a2 a3 by show ((a3*18446744073709551616+a2)*18446744073709551616+a1)*18446744073709551616+a0=_; unfold aC; omega]
theorem WC {w:World} {g:Nat} {a0 a1 a2 a3:Nat} (rA:Row4 w g a0 a1 a2 a3) (k:Nat) (hk:k<4):∃j x,j+k=3∧x=BX a0 a1 a2 a3 k∧w.cell? ⟨g,j,none⟩=some (.int .u64 (x:Nat)):=by
 match k,hk with
 | 0,_=>exact⟨3,_,rfl,rfl,rA.c3⟩
 | 1,_=>exact⟨2,_,rfl,rfl,rA.c2⟩
 | 2,_=>exact⟨1,_,rfl,rfl,rA.c1⟩
 | 3,_=>exact⟨0,_,rfl,rfl,rA.c0⟩
set_option maxHeartbeats 1000000 in
theorem pP (r0 r1 r2 r3 a0 a1 a2 a3 b0 b1 b2 b3:Nat) (hr:cC r0 r1 r2 r3) (ha:cC a0 a1 a2 a3) (hb:cC b0 b1 b2 b3) (h3:9223372036854775808≤b3) (hlt:aC r0 r1 r2 r3<aC b0 b1 b2 b3) (w:World) :
  Calls prog 148 #[.agg #[.int .u64 r0,.int .u64 r1,.int .u64 r2,.int .u64 r3],.agg #[.int .u64 a0,.int .u64 a1,.int .u64 a2,.int .u64 a3],.agg #[.int .u64 b0,.int .u64 b1,.int .u64 b2,.int .u64 b3]] w (cS (fun n=>n=(aC r0 r1 r2 r3*115792089237316195423570985008687907853269984665640564039457584007913129639936+aC a0 a1 a2 a3)%aC b0 b1 b2 b3) w):=by
 go_enter func148,ntmps148
 go_wp2_with fail
 go_loopw [8] (fun i wr=>∃k s0 s1 s2 s3:Nat,k≤4∧i=.int .i64 k∧cC s0 s1 s2 s3∧Hid (TIn (aC r0 r1 r2 r3) (aC b0 b1 b2 b3) a0 a1 a2 a3 k (aC s0 s1 s2 s3))∧LW w wr s0 s1 s2 s3 a0 a1 a2 a3 b0 b1 b2 b3) (fun i _=>4-(intOf i).toNat)
 case atStart =>
  refine⟨0,r0,r1,r2,r3,by omega,rfl,hr,Lib.hid ⟨hlt,by show _=(_*18446744073709551616^0+0)%_; rw[Nat.pow_zero,Nat.mul_one,Nat.add_zero,Nat.mod_eq_of_lt hlt]⟩,⟨MB _ _ _ _ _,by simp,?_,?_,?_,?_⟩⟩
  all_goals exact⟨by simp[go_sem],by simp[go_sem],by simp[go_sem],by simp[go_sem],fun k=>by simp[go_sem]⟩
 case round =>
  obtain⟨k,s0,s1,s2,s3,hk,rfl,hs,ti,lw⟩:=hrel;have hsz:=lw.size;obtain⟨x0,x1,x2,x3,xf⟩:=lw.rowS;obtain⟨z0,z1,z2,z3,zf⟩:=lw.rowB
  by_cases hlt':k<4
  ·obtain⟨j,x,hj,hx,cx⟩:=WC lw.rowA k hlt';have wj:IntKind.i64.wrap (3-(k:Int))=(j:Int):=by simp[IntKind.wrap,IntKind.bits,IntKind.signed]; omega
   have bj:(j:Int)<4:=by omega
   have bx:x<18446744073709551616:=by rw[hx]; exact UM ha k
   have Hx:=Lib.hid hx;have HL:=Lib.hid lw;clear lw hx hj;go_wp2_with fail;refine wp_region_still_tail 6 (by kernel_rfl) (by kernel_rfl) ?_;simp only[List.take_succ_cons,List.take_zero,List.drop_succ_cons,List.drop_zero];change wpStill _ _ wr.drew _ _ _
   repeat still_step
   refine wpStill_nil ?_;change wpList _ _ _ _ _ wr.drew;go_wp2_with fail;refine (uH s0 s1 s2 s3 x b0 b1 b2 b3 hs bx hb h3 ti.out.1 _).mono ?_
   rintro e w3 ⟨n0,n1,n2,n3,rfl,hn,en,hbl⟩
   have hz3:wr.heap.size≤w3.heap.size:=hbl.size;have S3:=HL.out.rowS.drewN 1 |>.below hbl (show w.heap.size<wr.heap.size by omega)
   have T3:LW w (set4 w3 w.heap.size n0 n1 n2 n3) n0 n1 n2 n3 a0 a1 a2 a3 b0 b1 b2 b3 :=
    ⟨bF ((HL.out.below.drew).trans (hbl.mono HL.out.below.size)) (Nat.le_refl _) _ _ _ _,by unfold set4; simp only[World.size_setCell]; omega,S3.set4 _ _ _ _,
     (HL.out.rowA.drewN 1 |>.below hbl (show w.heap.size+1<wr.heap.size by omega)).set4_other (by omega) _ _ _ _,
     (HL.out.rowB.drewN 1 |>.below hbl (show w.heap.size+1+1<wr.heap.size by omega)).set4_other (by omega) _ _ _ _,
     (HL.out.rowO.drewN 1 |>.below hbl (show w.heap.size+1+1+1<wr.heap.size by omega)).set4_other (by omega) _ _ _ _⟩
   have HT:=Lib.hid T3;have Hti:=Lib.hid (UY ti.out hlt' (by have:=ti.out.1; omega) Hx.out);rw[←en]at Hti;obtain⟨v0,v1,v2,v3,vf⟩:=S3;clear hbl en T3 ti;go_wp2_with fail
   go_roundw
   case rel=>exact⟨k+1,n0,n1,n2,n3,by omega,by go_num,hn,Hti,HT.out⟩
   case measure=>simp[intOf]; omega
  ·obtain rfl:k=4:=by omega
   have HF:=Lib.hid (Ed ti.out);obtain⟨o0,o1,o2,o3,of⟩:=lw.rowO;have HB:=Lib.hid lw.below;clear ti lw;go_wp2_with fail;refine bodyPost_ret (v:=.agg #[.int .u64 s0,.int .u64 s1,.int .u64 s2,.int .u64 s3]) (by simp[results,results148,go_sem, *]) rfl ?_;exact⟨s0,s1,s2,s3,rfl,hs,HF.out,bF HB.out (by omega) _ _ _ _⟩
theorem Zr (a0 a1 a2 a3:Nat) (n:Int) (ha:cC a0 a1 a2 a3) (h0:0<n) (hq:n/64=0) (w:World) :
  Calls prog 147 #[.agg #[.int .u64 a0,.int .u64 a1,.int .u64 a2,.int .u64 a3],.int .i64 n] w (cS (fun v=>v=aC a0 a1 a2 a3*2^n.toNat%115792089237316195423570985008687907853269984665640564039457584007913129639936) w):=by
 obtain⟨p,hr,hp,en⟩:=FM (by omega) 0 hq (by omega);have b1:n<256:=by omega
 have t0:decide (n≤0)=false:=decide_eq_false (by omega);obtain⟨lo0,hi0,u0,d0,bl0,bh0,e0,g0,m0⟩:=oL (a:=a0) (p:=p) ha.1 hp;obtain⟨lo1,hi1,u1,d1,bl1,bh1,e1,g1,m1⟩:=oL (a:=a1) (p:=p) ha.2.1 hp;obtain⟨lo2,hi2,u2,d2,bl2,bh2,e2,g2,m2⟩:=oL (a:=a2) (p:=p) ha.2.2.1 hp;obtain⟨lo3,hi3,u3,d3,bl3,bh3,e3,g3,m3⟩:=oL (a:=a3) (p:=p) ha.2.2.2 hp;obtain⟨s1,o1,bs1,f1⟩:=yG bl1 bh0 g0 m1;obtain⟨s2,o2,bs2,f2⟩:=yG bl2 bh1 g1 m2;obtain⟨s3,o3,bs3,f3⟩:=yG bl3 bh2 g2 m3;have HF:Hid (aC lo0 s1 s2 s3=aC a0 a1 a2 a3*2^n.toNat%115792089237316195423570985008687907853269984665640564039457584007913129639936):=Lib.hid (by
  have hk:cC lo0 s1 s2 s3:=⟨bl0,bs1,bs2,bs3⟩;rw[en,qD];have:=e0.out;have:=e1.out;have:=e2.out;have:=e3.out;have:=f1.out;have:=f2.out;have:=f3.out;have hv:=bP hk;have hT:aC a0 a1 a2 a3*(18446744073709551616^((0:Int)).toNat*2^p)=aC a0 a1 a2 a3*2^p*1:=by
   rw[show 18446744073709551616^((0:Int)).toNat=1 by simp,Nat.mul_comm 1,Nat.mul_assoc]
  rw[hT];have hD:aC a0 a1 a2 a3*2^p=a0*2^p+18446744073709551616*(a1*2^p)+340282366920938463463374607431768211456*(a2*2^p)+6277101735386680763835789423207666416102355444464034512896*(a3*2^p):=by
   unfold aC; simp only[Nat.add_mul,Nat.mul_assoc]; omega
  rw[hD];unfold aC at hv ⊢;generalize 2^p=T at *;omega)
 clear e0 g0 m0 e1 g1 m1 e2 g2 m2 e3 g3 m3 f1 f2 f3;have HEN:=Lib.hid en;clear en
 go_enter func147,ntmps147
 go_wp2_with fail;refine wp_loop_rounds 5 ?_;rw[rounds_succ];go_wp2_with fail;rw[rounds_succ];go_wp2_with fail
 go_region
 go_wp2_with fail;rw[rounds_succ];go_wp2_with fail
 go_region
 go_wp2_with fail;rw[rounds_succ];go_wp2_with fail
 go_region
 go_wp2_with fail;rw[rounds_succ];go_wp2_with fail;refine bodyPost_ret (v:=.agg #[.int .u64 lo0,.int .u64 s1,.int .u64 s2,.int .u64 s3]) (by simp[results,results147,go_sem]) rfl ?_;refine⟨lo0,s1,s2,s3,rfl,⟨bl0,bs1,bs2,bs3⟩,HF.out,?_⟩
 repeat (first|exact Below.refl _ _|refine Below.drew ?_|refine Below.alloc ?_ (by first|(simp; done)|(simp; omega)) _)
theorem Zq (a0 a1 a2 a3:Nat) (n:Int) (ha:cC a0 a1 a2 a3) (h0:0<n) (hq:n/64=1) (w:World) :
  Calls prog 147 #[.agg #[.int .u64 a0,.int .u64 a1,.int .u64 a2,.int .u64 a3],.int .i64 n] w (cS (fun v=>v=aC a0 a1 a2 a3*2^n.toNat%115792089237316195423570985008687907853269984665640564039457584007913129639936) w):=by
 obtain⟨p,hr,hp,en⟩:=FM (by omega) 1 hq (by omega);have b1:n<256:=by omega
 have t0:decide (n≤0)=false:=decide_eq_false (by omega);obtain⟨lo0,hi0,u0,d0,bl0,bh0,e0,g0,m0⟩:=oL (a:=a0) (p:=p) ha.1 hp;obtain⟨lo1,hi1,u1,d1,bl1,bh1,e1,g1,m1⟩:=oL (a:=a1) (p:=p) ha.2.1 hp;obtain⟨lo2,hi2,u2,d2,bl2,bh2,e2,g2,m2⟩:=oL (a:=a2) (p:=p) ha.2.2.1 hp;obtain⟨s1,o1,bs1,f1⟩:=yG bl1 bh0 g0 m1;obtain⟨s2,o2,bs2,f2⟩:=yG bl2 bh1 g1 m2;have HF:Hid (aC 0 lo0 s1 s2=aC a0 a1 a2 a3*2^n.toNat%115792089237316195423570985008687907853269984665640564039457584007913129639936):=Lib.hid (by
  have hk:cC 0 lo0 s1 s2:=⟨(by omega),bl0,bs1,bs2⟩;rw[en,qD];have:=e0.out;have:=e1.out;have:=e2.out;have:=f1.out;have:=f2.out;have hv:=bP hk;have hT:aC a0 a1 a2 a3*(18446744073709551616^((1:Int)).toNat*2^p)=aC a0 a1 a2 a3*2^p*18446744073709551616:=by
   rw[show 18446744073709551616^((1:Int)).toNat=18446744073709551616 by simp,Nat.mul_comm 18446744073709551616,Nat.mul_assoc]
  rw[hT];have hD:aC a0 a1 a2 a3*2^p=a0*2^p+18446744073709551616*(a1*2^p)+340282366920938463463374607431768211456*(a2*2^p)+6277101735386680763835789423207666416102355444464034512896*(a3*2^p):=by
   unfold aC; simp only[Nat.add_mul,Nat.mul_assoc]; omega
  rw[hD];unfold aC at hv ⊢;generalize 2^p=T at *;omega)
 clear e0 g0 m0 e1 g1 m1 e2 g2 m2 f1 f2;have HEN:=Lib.hid en;clear en
 go_enter func147,ntmps147
 go_wp2_with fail;refine wp_loop_rounds 4 ?_;rw[rounds_succ];go_wp2_with fail;rw[rounds_succ];go_wp2_with fail
 go_region
 go_wp2_with fail;rw[rounds_succ];go_wp2_with fail
 go_region
 go_wp2_with fail;rw[rounds_succ];go_wp2_with fail;refine bodyPost_ret (v:=.agg #[.int .u64 0,.int .u64 lo0,.int .u64 s1,.int .u64 s2]) (by simp[results,results147,go_sem]) rfl ?_;refine⟨0,lo0,s1,s2,rfl,⟨(by omega),bl0,bs1,bs2⟩,HF.out,?_⟩
 repeat (first|exact Below.refl _ _|refine Below.drew ?_|refine Below.alloc ?_ (by first|(simp; done)|(simp; omega)) _)
theorem Zp (a0 a1 a2 a3:Nat) (n:Int) (ha:cC a0 a1 a2 a3) (h0:0<n) (hq:n/64=2) (w:World) :
  Calls prog 147 #[.agg #[.int .u64 a0,.int .u64 a1,.int .u64 a2,.int .u64 a3],.int .i64 n] w (cS (fun v=>v=aC a0 a1 a2 a3*2^n.toNat%115792089237316195423570985008687907853269984665640564039457584007913129639936) w):=by
 obtain⟨p,hr,hp,en⟩:=FM (by omega) 2 hq (by omega);have b1:n<256:=by omega
 have t0:decide (n≤0)=false:=decide_eq_false (by omega);obtain⟨lo0,hi0,u0,d0,bl0,bh0,e0,g0,m0⟩:=oL (a:=a0) (p:=p) ha.1 hp;obtain⟨lo1,hi1,u1,d1,bl1,bh1,e1,g1,m1⟩:=oL (a:=a1) (p:=p) ha.2.1 hp;obtain⟨s1,o1,bs1,f1⟩:=yG bl1 bh0 g0 m1;have HF:Hid (aC 0 0 lo0 s1=aC a0 a1 a2 a3*2^n.toNat%115792089237316195423570985008687907853269984665640564039457584007913129639936):=Lib.hid (by
  have hk:cC 0 0 lo0 s1:=⟨(by omega),(by omega),bl0,bs1⟩;rw[en,qD];have:=e0.out;have:=e1.out;have:=f1.out;have hv:=bP hk;have hT:aC a0 a1 a2 a3*(18446744073709551616^((2:Int)).toNat*2^p)=aC a0 a1 a2 a3*2^p*340282366920938463463374607431768211456:=by
   rw[show 18446744073709551616^((2:Int)).toNat=340282366920938463463374607431768211456 by simp,Nat.mul_comm 340282366920938463463374607431768211456,Nat.mul_assoc]
  rw[hT];have hD:aC a0 a1 a2 a3*2^p=a0*2^p+18446744073709551616*(a1*2^p)+340282366920938463463374607431768211456*(a2*2^p)+6277101735386680763835789423207666416102355444464034512896*(a3*2^p):=by
   unfold aC; simp only[Nat.add_mul,Nat.mul_assoc]; omega
  rw[hD];unfold aC at hv ⊢;generalize 2^p=T at *;omega)
 clear e0 g0 m0 e1 g1 m1 f1;have HEN:=Lib.hid en;clear en
 go_enter func147,ntmps147
 go_wp2_with fail;refine wp_loop_rounds 3 ?_;rw[rounds_succ];go_wp2_with fail;rw[rounds_succ];go_wp2_with fail
 go_region
 go_wp2_with fail;rw[rounds_succ];go_wp2_with fail;refine bodyPost_ret (v:=.agg #[.int .u64 0,.int .u64 0,.int .u64 lo0,.int .u64 s1]) (by simp[results,results147,go_sem]) rfl ?_;refine⟨0,0,lo0,s1,rfl,⟨(by omega),(by omega),bl0,bs1⟩,HF.out,?_⟩
 repeat (first|exact Below.refl _ _|refine Below.drew ?_|refine Below.alloc ?_ (by first|(simp; done)|(simp; omega)) _)
theorem Zo (a0 a1 a2 a3:Nat) (n:Int) (ha:cC a0 a1 a2 a3) (h0:0<n) (hq:n/64=3) (w:World) :
  Calls prog 147 #[.agg #[.int .u64 a0,.int .u64 a1,.int .u64 a2,.int .u64 a3],.int .i64 n] w (cS (fun v=>v=aC a0 a1 a2 a3*2^n.toNat%115792089237316195423570985008687907853269984665640564039457584007913129639936) w):=by
 obtain⟨p,hr,hp,en⟩:=FM (by omega) 3 hq (by omega);have b1:n<256:=by omega
 have t0:decide (n≤0)=false:=decide_eq_false (by omega);obtain⟨lo0,hi0,u0,d0,bl0,bh0,e0,g0,m0⟩:=oL (a:=a0) (p:=p) ha.1 hp;have HF:Hid (aC 0 0 0 lo0=aC a0 a1 a2 a3*2^n.toNat%115792089237316195423570985008687907853269984665640564039457584007913129639936):=Lib.hid (by
  have hk:cC 0 0 0 lo0:=⟨(by omega),(by omega),(by omega),bl0⟩;rw[en,qD];have:=e0.out;have hv:=bP hk;have hT:aC a0 a1 a2 a3*(18446744073709551616^((3:Int)).toNat*2^p)=aC a0 a1 a2 a3*2^p*6277101735386680763835789423207666416102355444464034512896:=by
   rw[show 18446744073709551616^((3:Int)).toNat=6277101735386680763835789423207666416102355444464034512896 by simp,Nat.mul_comm 6277101735386680763835789423207666416102355444464034512896,Nat.mul_assoc]
  rw[hT];have hD:aC a0 a1 a2 a3*2^p=a0*2^p+18446744073709551616*(a1*2^p)+340282366920938463463374607431768211456*(a2*2^p)+6277101735386680763835789423207666416102355444464034512896*(a3*2^p):=by
   unfold aC; simp only[Nat.add_mul,Nat.mul_assoc]; omega
  rw[hD];unfold aC at hv ⊢;generalize 2^p=T at *;omega)
 clear e0 g0 m0;have HEN:=Lib.hid en;clear en
 go_enter func147,ntmps147
 go_wp2_with fail;refine wp_loop_rounds 2 ?_;rw[rounds_succ];go_wp2_with fail;rw[rounds_succ];go_wp2_with fail;refine bodyPost_ret (v:=.agg #[.int .u64 0,.int .u64 0,.int .u64 0,.int .u64 lo0]) (by simp[results,results147,go_sem]) rfl ?_;refine⟨0,0,0,lo0,rfl,⟨(by omega),(by omega),(by omega),bl0⟩,HF.out,?_⟩
 repeat (first|exact Below.refl _ _|refine Below.drew ?_|refine Below.alloc ?_ (by first|(simp; done)|(simp; omega)) _)
theorem VS (a0 a1 a2 a3:Nat) (n:Int) (ha:cC a0 a1 a2 a3) (h0:n≤0) (w:World) :
  Calls prog 147 #[.agg #[.int .u64 a0,.int .u64 a1,.int .u64 a2,.int .u64 a3],.int .i64 n] w (cS (fun v=>v=aC a0 a1 a2 a3) w):=by
 have t0:decide (n≤0)=true:=decide_eq_true h0
 go_enter func147,ntmps147
 go_wp2_with fail;refine bodyPost_ret (v:=.agg #[.int .u64 a0,.int .u64 a1,.int .u64 a2,.int .u64 a3]) (by simp[results,results147,go_sem]) rfl ?_;refine⟨a0,a1,a2,a3,rfl,ha,rfl,?_⟩
 repeat (first|exact Below.refl _ _|refine Below.drew ?_|refine Below.alloc ?_ (by first|(simp; done)|(simp; omega)) _)
theorem Ev (a0 a1 a2 a3:Nat) (n:Int) (ha:cC a0 a1 a2 a3) (h0:256≤n) (h1:n≤9223372036854775807) (w:World) :
  Calls prog 147 #[.agg #[.int .u64 a0,.int .u64 a1,.int .u64 a2,.int .u64 a3],.int .i64 n] w (cS (fun v=>v=0) w):=by
 have t0:decide (n≤0)=false:=decide_eq_false (by omega);obtain⟨q,hq,bq,bq'⟩:∃q:Nat,n/64=(q:Int)∧4≤q∧q≤9223372036854775807:=⟨(n/64).toNat,by omega,by omega,by omega⟩
 have t1:decide ((0:Int)<4-(q:Int))=false:=decide_eq_false (by omega)
 go_enter func147,ntmps147
 go_wp2_with fail;refine wp_loop_rounds 1 ?_;rw[rounds_succ];go_wp2_with fail;refine bodyPost_ret (v:=.agg #[.int .u64 0,.int .u64 0,.int .u64 0,.int .u64 0]) (by simp[results,results147,go_sem]) rfl ?_;refine⟨0,0,0,0,rfl,⟨by omega,by omega,by omega,by omega⟩,rfl,?_⟩
 repeat (first|exact Below.refl _ _|refine Below.drew ?_|refine Below.alloc ?_ (by first|(simp; done)|(simp; omega)) _)
theorem rQ (a0 a1 a2 a3:Nat) (n:Int) (ha:cC a0 a1 a2 a3) (h0:0≤n) (h1:n≤9223372036854775807) (w:World) :
  Calls prog 147 #[.agg #[.int .u64 a0,.int .u64 a1,.int .u64 a2,.int .u64 a3],.int .i64 n] w (cS (fun v=>v=aC a0 a1 a2 a3*2^n.toNat%115792089237316195423570985008687907853269984665640564039457584007913129639936) w):=by
 by_cases hz:n≤0
 ·refine (VS a0 a1 a2 a3 n ha hz w).mono ?_
  rintro e w' ⟨s0,s1,s2,s3,he,hs,hv,hb⟩
  refine⟨s0,s1,s2,s3,he,hs,?_,hb⟩;have:=bP ha;rw[hv,show n.toNat=0 by omega,Nat.pow_zero]; omega
 ·by_cases hf:256≤n
  ·refine (Ev a0 a1 a2 a3 n ha hf h1 w).mono ?_
   rintro e w' ⟨s0,s1,s2,s3,he,hs,hv,hb⟩
   refine⟨s0,s1,s2,s3,he,hs,?_,hb⟩;rw[hv];obtain⟨k,hk⟩:∃k,n.toNat=256+k:=⟨n.toNat-256,by omega⟩
   rw[hk,Nat.pow_add,Nat.mul_left_comm,show (2:Nat)^256=115792089237316195423570985008687907853269984665640564039457584007913129639936 by simp];exact (Nat.mul_mod_right _ _).symm
  ·have hq:n/64=0∨n/64=1∨n/64=2∨n/64=3:=by omega
   rcases hq with h|h|h|h
   ·exact Zr a0 a1 a2 a3 n ha (by omega) h w
   ·exact Zq a0 a1 a2 a3 n ha (by omega) h w
   ·exact Zp a0 a1 a2 a3 n ha (by omega) h w
   ·exact Zo a0 a1 a2 a3 n ha (by omega) h w
theorem Hy {m L:Nat} (hL:L≤256) (h:LenIs m L) (hm:0<m):0<L∧m*2^(256-L)<115792089237316195423570985008687907853269984665640564039457584007913129639936∧57896044618658097711785492504343953926634992332820282019728792003956564819968≤m*2^(256-L):=by
 have hpos:0<L:=by
  rcases Nat.eq_zero_or_pos L with e|e
  ·subst e; have:=h.1; simp at this; omega
  ·exact e
 have e:2^L*2^(256-L)=115792089237316195423570985008687907853269984665640564039457584007913129639936:=by rw[←Nat.pow_add,show L+(256-L)=256 by omega]
 have e':2^(L-1)*2^(256-L)=57896044618658097711785492504343953926634992332820282019728792003956564819968:=by rw[←Nat.pow_add,show L-1+(256-L)=255 by omega]
 refine⟨hpos,?_,?_⟩
 ·have:=Nat.mul_lt_mul_of_pos_right h.1 (Nat.two_pow_pos (256-L));rw[e]at this; exact this
 ·have:=Nat.mul_le_mul_right (2^(256-L)) (h.2 hpos);rw[e']at this; exact this
theorem Ea {b0 b1 b2 b3:Nat} (h:cC b0 b1 b2 b3) (hb:57896044618658097711785492504343953926634992332820282019728792003956564819968≤aC b0 b1 b2 b3):9223372036854775808≤b3:=by
 obtain⟨h0,h1,h2,h3⟩:=h;unfold aC at hb; omega
theorem Fx {x m L:Nat} (hL:L≤256) (hm:0<m) (hx:x<115792089237316195423570985008687907853269984665640564039457584007913129639936):x/2^L<m*2^(256-L):=by
 have e:2^(256-L)*2^L=115792089237316195423570985008687907853269984665640564039457584007913129639936:=by rw[←Nat.pow_add,show 256-L+L=256 by omega]
 have h1:x/2^L<2^(256-L):=by rw[Nat.div_lt_iff_lt_mul (Nat.two_pow_pos _),e]; exact hx
 have h2:=Nat.mul_le_mul_right (2^(256-L)) (show 1≤m from hm);omega
theorem BY {x L:Nat} (hL:L≤256):x/2^L*115792089237316195423570985008687907853269984665640564039457584007913129639936+x*2^(256-L)%115792089237316195423570985008687907853269984665640564039457584007913129639936=x*2^(256-L):=by
 have e:2^L*2^(256-L)=115792089237316195423570985008687907853269984665640564039457584007913129639936:=by rw[←Nat.pow_add,show L+(256-L)=256 by omega]
 have hd:x*2^(256-L)/115792089237316195423570985008687907853269984665640564039457584007913129639936=x/2^L:=by rw[←e]; exact Nat.mul_div_mul_right _ _ (Nat.two_pow_pos _)
 rw[←hd]; omega
theorem ZD {x y L:Nat} (hL:L≤256) (hy:y<115792089237316195423570985008687907853269984665640564039457584007913129639936):(x*2^(256-L)%115792089237316195423570985008687907853269984665640564039457584007913129639936) ||| (y/2^L)=x*2^(256-L)%115792089237316195423570985008687907853269984665640564039457584007913129639936+y/2^L:=by
 have e:2^L*2^(256-L)=115792089237316195423570985008687907853269984665640564039457584007913129639936:=by rw[←Nat.pow_add,show L+(256-L)=256 by omega]
 have hlt:y/2^L<2^(256-L):=by rw[Nat.div_lt_iff_lt_mul (Nat.two_pow_pos _),Nat.mul_comm,e]; exact hy
 have hm:x*2^(256-L)%115792089237316195423570985008687907853269984665640564039457584007913129639936=2^(256-L)*(x%2^L):=by
  rw[←e,Nat.mul_mod_mul_right,Nat.mul_comm]
 rw[hm,←Nat.two_pow_add_eq_or_of_lt hlt]
theorem QQ (n m x b:Nat):((n%b)*m+x)%b=(n*m+x)%b:=by
 rw[Nat.add_mod,Nat.mul_mod,Nat.mod_mod,←Nat.mul_mod,←Nat.add_mod]
theorem Hp {h l m L r1 r2:Nat} (hL:L≤256)
  (e1:r1=(h/2^L*115792089237316195423570985008687907853269984665640564039457584007913129639936+(h*2^(256-L)%115792089237316195423570985008687907853269984665640564039457584007913129639936+l/2^L))%(m*2^(256-L)))
  (e2:r2=(r1*115792089237316195423570985008687907853269984665640564039457584007913129639936+l*2^(256-L)%115792089237316195423570985008687907853269984665640564039457584007913129639936)%(m*2^(256-L))):r2/2^(256-L)=(h*115792089237316195423570985008687907853269984665640564039457584007913129639936+l)%m:=by
 have k1:=BY (x:=h) hL;have k2:=BY (x:=l) hL;rw[e1,QQ]at e2;have e3:(h/2^L*115792089237316195423570985008687907853269984665640564039457584007913129639936+(h*2^(256-L)%115792089237316195423570985008687907853269984665640564039457584007913129639936+l/2^L))*115792089237316195423570985008687907853269984665640564039457584007913129639936+l*2^(256-L)%115792089237316195423570985008687907853269984665640564039457584007913129639936=(h*115792089237316195423570985008687907853269984665640564039457584007913129639936+l)*2^(256-L):=by
  have:(h*115792089237316195423570985008687907853269984665640564039457584007913129639936+l)*2^(256-L)=h*2^(256-L)*115792089237316195423570985008687907853269984665640564039457584007913129639936+l*2^(256-L):=by rw[Nat.add_mul,Nat.mul_right_comm]
  rw[this];generalize h*2^(256-L)%115792089237316195423570985008687907853269984665640564039457584007913129639936=Q at *;generalize l*2^(256-L)%115792089237316195423570985008687907853269984665640564039457584007913129639936=U at *;rw[←k1,←k2];simp only[Nat.add_mul,Nat.add_assoc]
 rw[e3,Nat.mul_mod_mul_right]at e2;rw[e2,Nat.mul_div_cancel _ (Nat.two_pow_pos _)]
def BP (P:Nat→Nat→Prop) (w:World) (e:Ending) (w':World):Prop :=
 ∃s0 s1 s2 s3 c:Nat,e=.returned (.tuple #[.agg #[.int .u64 s0,.int .u64 s1,.int .u64 s2,.int .u64 s3],.int .i64 c])∧cC s0 s1 s2 s3∧P (aC s0 s1 s2 s3) c∧Below w.heap.size w w'
theorem RY (a0 a1 a2 a3:Nat) (w:World):(Op.equalIn 10000 24 (.agg #[.int .u64 a0,.int .u64 a1,.int .u64 a2,.int .u64 a3]) (.agg #[.int .u64 0,.int .u64 0,.int .u64 0,.int .u64 0])).run prog w=.ok (KX a0 a1 a2 a3 0 0 0 0) w :=
 vS 9998 a0 a1 a2 a3 0 0 0 0 w
theorem Ag (w:World):(Op.equalIn 10000 24 (.agg #[.int .u64 0,.int .u64 0,.int .u64 0,.int .u64 0]) (.agg #[.int .u64 0,.int .u64 0,.int .u64 0,.int .u64 0])).run prog w=.ok true w :=
 vS 9998 0 0 0 0 0 0 0 0 w
structure MR (w wr:World) (g9 g10:Nat) (h0 h1 h2 h3 l0 l1 l2 l3 b0 b1 b2 b3 r0 r1 r2 r3:Nat):Prop where
 below:Below w.heap.size w wr
 lo:w.heap.size+1+1+1<g9
 mid:g9<g10
 size:g10<wr.heap.size
 rowH:Row4 wr w.heap.size h0 h1 h2 h3
 rowL:Row4 wr (w.heap.size+1) l0 l1 l2 l3
 rowB:Row4 wr g9 b0 b1 b2 b3
 rowR:Row4 wr g10 r0 r1 r2 r3
 rowO:Row4 wr (w.heap.size+1+1+1) 0 0 0 0
theorem MR.on {w wr w':World} {g9 g10:Nat} {h0 h1 h2 h3 l0 l1 l2 l3 b0 b1 b2 b3 r0 r1 r2 r3:Nat} (m:MR w wr g9 g10 h0 h1 h2 h3 l0 l1 l2 l3 b0 b1 b2 b3 r0 r1 r2 r3) (hb:Below wr.heap.size wr w'):MR w w' g9 g10 h0 h1 h2 h3 l0 l1 l2 l3 b0 b1 b2 b3 r0 r1 r2 r3 :=
 ⟨m.below.trans (hb.mono m.below.size),m.lo,m.mid,Nat.lt_of_lt_of_le m.size hb.size,m.rowH.below hb (by have:=m.lo; have:=m.mid; have:=m.size; omega),m.rowL.below hb (by have:=m.lo; have:=m.mid; have:=m.size; omega),
  m.rowB.below hb (by have:=m.mid; have:=m.size; omega),m.rowR.below hb m.size,m.rowO.below hb (by have:=m.lo; have:=m.mid; have:=m.size; omega)⟩
theorem MR.drewN {w wr:World} {g9 g10:Nat} {h0 h1 h2 h3 l0 l1 l2 l3 b0 b1 b2 b3 r0 r1 r2 r3:Nat} (m:MR w wr g9 g10 h0 h1 h2 h3 l0 l1 l2 l3 b0 b1 b2 b3 r0 r1 r2 r3) (n:Nat):MR w (wr.drewN n) g9 g10 h0 h1 h2 h3 l0 l1 l2 l3 b0 b1 b2 b3 r0 r1 r2 r3:=m.on (bK _ _ n)
theorem MR.onDrew {w wr w':World} {g9 g10:Nat} {h0 h1 h2 h3 l0 l1 l2 l3 b0 b1 b2 b3 r0 r1 r2 r3:Nat} (m:MR w wr g9 g10 h0 h1 h2 h3 l0 l1 l2 l3 b0 b1 b2 b3 r0 r1 r2 r3) (hb:Below wr.drew.heap.size wr.drew w'):MR w w' g9 g10 h0 h1 h2 h3 l0 l1 l2 l3 b0 b1 b2 b3 r0 r1 r2 r3:=(m.drewN 1).on hb
theorem MR.put {w wr:World} {g9 g10:Nat} {h0 h1 h2 h3 l0 l1 l2 l3 b0 b1 b2 b3 r0 r1 r2 r3:Nat} (m:MR w wr g9 g10 h0 h1 h2 h3 l0 l1 l2 l3 b0 b1 b2 b3 r0 r1 r2 r3) (s0 s1 s2 s3:Nat):MR w (set4 wr g10 s0 s1 s2 s3) g9 g10 h0 h1 h2 h3 l0 l1 l2 l3 b0 b1 b2 b3 s0 s1 s2 s3 :=
 ⟨bF m.below (by have:=m.lo; have:=m.mid; omega) _ _ _ _,m.lo,m.mid,by unfold set4; simp only[World.size_setCell]; exact m.size,m.rowH.set4_other (by have:=m.lo; have:=m.mid; omega) _ _ _ _,m.rowL.set4_other (by have:=m.lo; have:=m.mid; omega) _ _ _ _,
  m.rowB.set4_other (by have:=m.mid; omega) _ _ _ _,m.rowR.set4 _ _ _ _,m.rowO.set4_other (by have:=m.lo; have:=m.mid; omega) _ _ _ _⟩
theorem YD (h0 h1 h2 h3 l0 l1 l2 l3:Nat) (w:World) :
  Calls prog 95 #[.agg #[.int .u64 h0,.int .u64 h1,.int .u64 h2,.int .u64 h3],.agg #[.int .u64 l0,.int .u64 l1,.int .u64 l2,.int .u64 l3],.agg #[.int .u64 0,.int .u64 0,.int .u64 0,.int .u64 0]] w (BP (fun v c=>v=0∧c=22) w):=by
 have hE:=fun w=>Ag w
 have hG:=vU
 go_enter func95,ntmps95
 go_wp2_with fail;refine bodyPost_ret (v:=.tuple #[.agg #[.int .u64 0,.int .u64 0,.int .u64 0,.int .u64 0],.int .i64 22]) (by simp[results,results95,go_sem]) rfl ?_;refine⟨0,0,0,0,22,rfl,⟨by omega,by omega,by omega,by omega⟩,⟨rfl,rfl⟩,MB _ _ _ _ _⟩
set_option maxHeartbeats 4000000 in
theorem YF (h0 h1 h2 h3 l0 l1 l2 l3 m0 m1 m2 m3:Nat) (hh:cC h0 h1 h2 h3) (hl:cC l0 l1 l2 l3) (hm:cC m0 m1 m2 m3) (hpz:0<aC m0 m1 m2 m3) (w:World) :
  Calls prog 95 #[.agg #[.int .u64 h0,.int .u64 h1,.int .u64 h2,.int .u64 h3],.agg #[.int .u64 l0,.int .u64 l1,.int .u64 l2,.int .u64 l3],.agg #[.int .u64 m0,.int .u64 m1,.int .u64 m2,.int .u64 m3]] w (BP (fun v c=>v=(aC h0 h1 h2 h3*115792089237316195423570985008687907853269984665640564039457584007913129639936+aC l0 l1 l2 l3)%aC m0 m1 m2 m3∧c=0) w):=by
 have hE:=fun w=>RY m0 m1 m2 m3 w
 have hG:=vU;have q:KX m0 m1 m2 m3 0 0 0 0=false:=by
  have:=rD hm (show cC 0 0 0 0 from⟨by omega,by omega,by omega,by omega⟩)
  rcases h:KX m0 m1 m2 m3 0 0 0 0 with _|_
  ·rfl
  ·exact absurd (this.1 h) (by unfold aC at hpz ⊢; omega)
 rw[q]at hE;clear q
 go_enter func95,ntmps95
 go_wp2_with fail;refine (sI m0 m1 m2 m3 hm _).mono ?_
 rintro e w1 ⟨L,rfl,bL,lenL,hbl⟩
 obtain⟨hpos,hb1,hb2⟩:=Hy bL lenL hpz;obtain⟨S,eS⟩:∃S,S=256-L:=⟨_,rfl⟩
 have wS:(256:Int)-(L:Int)=(S:Int):=by omega
 have wL:(256:Int)-(S:Int)=(L:Int):=by omega
 have bS:S≤256:=by omega
 have H1:=(((Row4.new w h0 h1 h2 h3 24).alloc (by simp) _).alloc (by simp; omega) _).alloc (by simp; omega) _ |>.below hbl (by simp; omega)
 have L1:=(((Row4.new (w.alloc _) l0 l1 l2 l3 24).alloc (by simp) _).alloc (by simp) _).below hbl (by simp);have M1:=((Row4.new ((w.alloc _).alloc _) m0 m1 m2 m3 24).alloc (by simp) _).below hbl (by simp);have O1:=(Row4.new (((w.alloc _).alloc _).alloc _) 0 0 0 0 24).below hbl (by simp);simp only[World.size_alloc]at L1 M1 O1;have hz1:w.heap.size+1+1+1<w1.heap.size:=by have:=hbl.size; simp at this; omega
 have B1:=(MB w _ _ _ _).trans (hbl.mono (by simp; omega));have HeS:=Lib.hid eS; have Hb1:=Lib.hid hb1; have Hb2:=Lib.hid hb2; have HL:=Lib.hid lenL; have HB1:=Lib.hid B1;have HH1:=Lib.hid H1; have HL1:=Lib.hid L1; have HM1:=Lib.hid M1; have HO1:=Lib.hid O1;have y0:w.heap.size<w1.heap.size:=by omega
 have y1:w.heap.size+1<w1.heap.size:=by omega
 have y2:w.heap.size+1+1<w1.heap.size:=by omega
 obtain⟨m0',m1',m2',m3',mf⟩:=M1;clear hE hG eS hb1 hb2 lenL B1 H1 L1 O1 hbl;go_wp2_with fail;refine (rQ m0 m1 m2 m3 S hm (by omega) (by omega) _).mono ?_
 rintro e w2 ⟨b0,b1,b2,b3,rfl,hb,vb,hbl⟩
 rw[Int.toNat_natCast]at vb;have H2:=HH1.out.below hbl y0;have L2:=HL1.out.below hbl y1;have O2:=HO1.out.below hbl hz1;have hz2:w1.heap.size≤w2.heap.size:=hbl.size;have B2:=HB1.out.trans (hbl.mono HB1.out.size);have HH2:=Lib.hid H2; have HL2:=Lib.hid L2; have HO2:=Lib.hid O2; have HB2:=Lib.hid B2; have Hvb:=Lib.hid vb;have z0:w.heap.size<w2.heap.size:=by omega
 have z1:w.heap.size+1<w2.heap.size:=by omega
 have z3:w.heap.size+1+1+1<w2.heap.size:=by omega
 obtain⟨h0',h1',h2',h3',hf⟩:=H2;clear L2 O2 B2 vb hbl m0' m1' m2' m3' mf;go_wp2_with fail;refine (nM h0 h1 h2 h3 L hh (by omega) (by omega) _).mono ?_
 rintro e w3 ⟨r0,r1,r2,r3,rfl,hr,vr,hbl⟩
 rw[Int.toNat_natCast]at vr;clear h0' h1' h2' h3' hf;have MR1:MR w (w3.alloc (.cells #[.int .u64 r0,.int .u64 r1,.int .u64 r2,.int .u64 r3] 24)) w2.heap.size w3.heap.size h0 h1 h2 h3 l0 l1 l2 l3 b0 b1 b2 b3 r0 r1 r2 r3:=by
  have hb':=hbl;have hz3:=hb'.size;rw[World.size_alloc]at hz3;have hall:∀{x:Nat} {c0 c1 c2 c3:Nat},Row4 w2 x c0 c1 c2 c3→x<w2.heap.size→Row4 (w3.alloc (.cells #[.int .u64 r0,.int .u64 r1,.int .u64 r2,.int .u64 r3] 24)) x c0 c1 c2 c3:=fun q hx =>
   ((q.alloc hx _).below hb' (by rw[World.size_alloc]; omega)).alloc (by omega) _
  refine⟨((HB2.out.alloc (by omega) _).trans (hb'.mono (by rw[World.size_alloc]; omega))).alloc (by omega) _,z3,by omega,by simp,hall HH2.out z0,hall HL2.out z1,?_,Row4.new _ _ _ _ _ _,hall HO2.out z3⟩;exact ((Row4.new w2 b0 b1 b2 b3 24).below hb' (by simp)).alloc (by omega) _
 go_wp2_with fail;clear hbl;have Hvr:=Lib.hid vr;clear vr;generalize w3.alloc (.cells #[.int .u64 r0,.int .u64 r1,.int .u64 r2,.int .u64 r3] 24)=W at *;generalize w2.heap.size=g9 at *;generalize w3.heap.size=g10 at *;have M:=MR1;clear MR1;have wLL:IntKind.i64.wrap (L:Int)=(L:Int):=by simp[IntKind.wrap,IntKind.bits,IntKind.signed]; omega
 have HM:=Lib.hid M;have evb:aC b0 b1 b2 b3=aC m0 m1 m2 m3*2^S:=by rw[Hvb.out,HeS.out,Nat.mod_eq_of_lt Hb1.out]
 have hb3:9223372036854775808≤b3:=Ea hb (by rw[evb,HeS.out]; exact Hb2.out);have hrb:aC r0 r1 r2 r3<aC b0 b1 b2 b3:=by rw[evb,Hvr.out,HeS.out]; exact Fx bL hpz (bP hh)
 have Hevb:=Lib.hid evb;clear evb;clear M y0 y1 y2 z0 z1 z3 hz1 hz2 HH1 HL1 HM1 HO1 HB1 HH2 HL2 HO2 HB2;have g0:∀k,W.cell? ⟨w.heap.size,k,none⟩=W.cell? ⟨w.heap.size,k,none⟩:=fun _=>rfl
 clear g0;clear wS wL;have wL':IntKind.i64.wrap (256-(S:Int))=(L:Int):=by have:=HeS.out; simp[IntKind.wrap,IntKind.bits,IntKind.signed]; omega
 go_wp2_with fail;refine cM (fun wx=>MR w wx g9 g10 h0 h1 h2 h3 l0 l1 l2 l3 b0 b1 b2 b3 r0 r1 r2 r3) 11 (by kernel_rfl) ?_;have HS:(fun wx=>MR w wx g9 g10 h0 h1 h2 h3 l0 l1 l2 l3 b0 b1 b2 b3 r0 r1 r2 r3) W.drew:=HM.out.drewN 1;refine aE (i:=0) (v:=.agg #[.int .u64 r0,.int .u64 r1,.int .u64 r2,.int .u64 r3]) rfl (by kernel_rfl) (by kernel_rfl) (by kernel_rfl) (by kernel_rfl) (fun _ _ _ h=>h) HS (Or.inl ⟨by rfl,fun wx hx => ?_⟩) ?_
 ·obtain⟨k0,k1,k2,k3,kf⟩:=MR.rowR hx;clear HS;go_simp
 simp only[Act.put,List.setIfInBounds_toArray,List.set_cons_zero,List.set_cons_succ];refine aE (i:=1) (v:=.agg #[.int .u64 h0,.int .u64 h1,.int .u64 h2,.int .u64 h3]) rfl (by kernel_rfl) (by kernel_rfl) (by kernel_rfl) (by kernel_rfl) (fun _ _ _ h=>h) HS (Or.inl ⟨by rfl,fun wx hx => ?_⟩) ?_
 ·obtain⟨k0,k1,k2,k3,kf⟩:=MR.rowH hx;clear HS;go_simp
 simp only[Act.put,List.setIfInBounds_toArray,List.set_cons_zero,List.set_cons_succ];refine aE (i:=2) (v:=.int .i64 (S:Nat)) rfl (by kernel_rfl) (by kernel_rfl) (by kernel_rfl) (by kernel_rfl) (fun _ _ _ h=>h) HS (Or.inl ⟨by rfl,fun wx hx => ?_⟩) ?_
 ·clear hx HS;go_simp
 simp only[Act.put,List.setIfInBounds_toArray,List.set_cons_zero,List.set_cons_succ];refine aE (i:=4) (v:=.agg #[.int .u64 l0,.int .u64 l1,.int .u64 l2,.int .u64 l3]) rfl (by kernel_rfl) (by kernel_rfl) (by kernel_rfl) (by kernel_rfl) (fun _ _ _ h=>h) HS (Or.inl ⟨by rfl,fun wx hx => ?_⟩) ?_
 ·obtain⟨k0,k1,k2,k3,kf⟩:=MR.rowL hx;clear HS;go_simp
 simp only[Act.put,List.setIfInBounds_toArray,List.set_cons_zero,List.set_cons_succ];refine aE (i:=5) (v:=.int .i64 (S:Nat)) rfl (by kernel_rfl) (by kernel_rfl) (by kernel_rfl) (by kernel_rfl) (fun _ _ _ h=>h) HS (Or.inl ⟨by rfl,fun wx hx => ?_⟩) ?_
 ·clear hx HS;go_simp
 simp only[Act.put,List.setIfInBounds_toArray,List.set_cons_zero,List.set_cons_succ];refine aE (i:=6) (v:=.int .i64 (L:Nat)) rfl (by kernel_rfl) (by kernel_rfl) (by kernel_rfl) (by kernel_rfl) (fun _ _ _ h=>h) HS (Or.inl ⟨by rfl,fun wx hx => ?_⟩) ?_
 ·clear hx HS;go_simp
 simp only[Act.put,List.setIfInBounds_toArray,List.set_cons_zero,List.set_cons_succ];refine aE (i:=9) (v:=.agg #[.int .u64 b0,.int .u64 b1,.int .u64 b2,.int .u64 b3]) rfl (by kernel_rfl) (by kernel_rfl) (by kernel_rfl) (by kernel_rfl) (fun _ _ _ h=>h) HS (Or.inl ⟨by rfl,fun wx hx => ?_⟩) ?_
 ·obtain⟨k0,k1,k2,k3,kf⟩:=MR.rowB hx;clear HS;go_simp
 simp only[Act.put,List.setIfInBounds_toArray,List.set_cons_zero,List.set_cons_succ];clear HS;refine aQ (i:=3) (by kernel_rfl) rfl (fun K hK => ?_);go_simp;refine (rQ h0 h1 h2 h3 S hh (by omega) (by omega) _).mono ?_
 rintro e w4 ⟨x0,x1,x2,x3,rfl,hx,vx,hbl⟩
 rw[Int.toNat_natCast]at vx;have Hvx:=Lib.hid vx;clear vx;have M4:=HM.out.onDrew hbl;clear hbl;go_wp2_with fail;refine hK.out _ _ (Or.inr M4) (fun hHeld => ?_);clear hK K hHeld
 try simp only[Act.put,List.setIfInBounds_toArray,List.set_cons_zero,List.set_cons_succ]
 refine aQ (i:=7) (by kernel_rfl) rfl (fun K hK => ?_);go_simp;refine (nM l0 l1 l2 l3 L hl (by omega) (by omega) _).mono ?_
 rintro e w5 ⟨y0,y1,y2,y3,rfl,hy,vy,hbl⟩
 rw[Int.toNat_natCast]at vy;have Hvy:=Lib.hid vy;clear vy;have M5:=M4.on hbl;clear hbl;go_wp2_with fail;refine hK.out _ _ (Or.inr M5) (fun hHeld => ?_);clear hK K hHeld
 try simp only[Act.put,List.setIfInBounds_toArray,List.set_cons_zero,List.set_cons_succ]
 refine aQ (i:=8) (by kernel_rfl) rfl (fun K hK => ?_);go_simp;refine (AO x0 x1 x2 x3 y0 y1 y2 y3 hx hy _).mono ?_
 rintro e w6 ⟨z0,z1,z2,z3,rfl,hz,vz,hbl⟩
 have Hvz:=Lib.hid vz;clear vz;have M6:=M5.on hbl;clear hbl;go_wp2_with fail;refine hK.out _ _ (Or.inr M6) (fun hHeld => ?_);clear hK K hHeld
 try simp only[Act.put,List.setIfInBounds_toArray,List.set_cons_zero,List.set_cons_succ]
 refine aQ (i:=10) (by kernel_rfl) rfl (fun K hK => ?_);go_simp;refine (pP r0 r1 r2 r3 z0 z1 z2 z3 b0 b1 b2 b3 hr hz hb hb3 hrb _).mono ?_
 rintro e w7 ⟨n0,n1,n2,n3,rfl,hn,vn,hbl⟩
 have Hvn:=Lib.hid vn;clear vn;have M7:=M6.on hbl;clear hbl;go_wp2_with fail;refine hK.out _ _ (Or.inr M7) (fun hHeld => ?_);clear hK K hHeld
 try simp only[Act.put,List.setIfInBounds_toArray,List.set_cons_zero,List.set_cons_succ]
 obtain⟨q0,q1,q2,q3,qf⟩:=M7.rowR;have M8:=M7.put n0 n1 n2 n3;refine aQ (i:=11) (by kernel_rfl) rfl (fun K hK => ?_);have hsz:=M7.size;clear M4 M5 M6 M7;have HM8:=Lib.hid M8;clear M8;go_simp;refine hK.out _ _ (Or.inl rfl) (fun hHeld => ?_);clear hK K hHeld q0 q1 q2 q3 qf;refine cU (by kernel_rfl) ?_;have hnb:aC n0 n1 n2 n3<aC b0 b1 b2 b3:=by rw[Hvn.out]; exact Nat.mod_lt _ (by omega)
 have HG:=HM8.out;unfold set4 at HG;generalize (((w7.setCell ⟨g10,0,none⟩ (.int .u64 (n0:Nat))).setCell ⟨g10,1,none⟩ (.int .u64 (n1:Nat))).setCell ⟨g10,2,none⟩ (.int .u64 (n2:Nat))).setCell ⟨g10,3,none⟩ (.int .u64 (n3:Nat))=W2 at HG ⊢;have HM9:=Lib.hid HG;clear HG HM8 hrb;go_wp2_with fail;refine cM (fun wx=>MR w wx g9 g10 h0 h1 h2 h3 l0 l1 l2 l3 b0 b1 b2 b3 n0 n1 n2 n3) 6 (by kernel_rfl) ?_;have HS:(fun wx=>MR w wx g9 g10 h0 h1 h2 h3 l0 l1 l2 l3 b0 b1 b2 b3 n0 n1 n2 n3) W2.drew:=HM9.out.drewN 1;refine aE (i:=0) (v:=.agg #[.int .u64 n0,.int .u64 n1,.int .u64 n2,.int .u64 n3]) rfl (by kernel_rfl) (by kernel_rfl) (by kernel_rfl) (by kernel_rfl) (fun _ _ _ h=>h) HS (Or.inl ⟨by rfl,fun wx hx => ?_⟩) ?_
 ·obtain⟨k0,k1,k2,k3,kf⟩:=MR.rowR hx;clear HS;go_simp
 simp only[Act.put,List.setIfInBounds_toArray,List.set_cons_zero,List.set_cons_succ];refine aE (i:=1) (v:=.agg #[.int .u64 l0,.int .u64 l1,.int .u64 l2,.int .u64 l3]) rfl (by kernel_rfl) (by kernel_rfl) (by kernel_rfl) (by kernel_rfl) (fun _ _ _ h=>h) HS (Or.inl ⟨by rfl,fun wx hx => ?_⟩) ?_
 ·obtain⟨k0,k1,k2,k3,kf⟩:=MR.rowL hx;clear HS;go_simp
 simp only[Act.put,List.setIfInBounds_toArray,List.set_cons_zero,List.set_cons_succ];refine aE (i:=2) (v:=.int .i64 (S:Nat)) rfl (by kernel_rfl) (by kernel_rfl) (by kernel_rfl) (by kernel_rfl) (fun _ _ _ h=>h) HS (Or.inl ⟨by rfl,fun wx hx => ?_⟩) ?_
 ·clear hx HS;go_simp
 simp only[Act.put,List.setIfInBounds_toArray,List.set_cons_zero,List.set_cons_succ];refine aE (i:=4) (v:=.agg #[.int .u64 b0,.int .u64 b1,.int .u64 b2,.int .u64 b3]) rfl (by kernel_rfl) (by kernel_rfl) (by kernel_rfl) (by kernel_rfl) (fun _ _ _ h=>h) HS (Or.inl ⟨by rfl,fun wx hx => ?_⟩) ?_
 ·obtain⟨k0,k1,k2,k3,kf⟩:=MR.rowB hx;clear HS;go_simp
 simp only[Act.put,List.setIfInBounds_toArray,List.set_cons_zero,List.set_cons_succ];clear HS;refine aQ (i:=3) (by kernel_rfl) rfl (fun K hK => ?_);go_simp;refine (rQ l0 l1 l2 l3 S hl (by omega) (by omega) _).mono ?_
 rintro e w8 ⟨u0,u1,u2,u3,rfl,hu,vu,hbl⟩
 rw[Int.toNat_natCast]at vu;have Hvu:=Lib.hid vu;clear vu;have M4:=HM9.out.onDrew hbl;clear hbl;go_wp2_with fail;refine hK.out _ _ (Or.inr M4) (fun hHeld => ?_);clear hK K hHeld
 try simp only[Act.put,List.setIfInBounds_toArray,List.set_cons_zero,List.set_cons_succ]
 refine aQ (i:=5) (by kernel_rfl) rfl (fun K hK => ?_);go_simp;refine (pP n0 n1 n2 n3 u0 u1 u2 u3 b0 b1 b2 b3 hn hu hb hb3 hnb _).mono ?_
 rintro e w9 ⟨p0,p1,p2,p3,rfl,hp,vp,hbl⟩
 have Hvp:=Lib.hid vp;clear vp;have M7:=M4.on hbl;clear hbl;go_wp2_with fail;refine hK.out _ _ (Or.inr M7) (fun hHeld => ?_);clear hK K hHeld
 try simp only[Act.put,List.setIfInBounds_toArray,List.set_cons_zero,List.set_cons_succ]
 obtain⟨q0,q1,q2,q3,qf⟩:=M7.rowR;have M8:=M7.put p0 p1 p2 p3;refine aQ (i:=6) (by kernel_rfl) rfl (fun K hK => ?_);have hsz:=M7.size;clear M4 M7;have HM8:=Lib.hid M8;clear M8;go_simp;refine hK.out _ _ (Or.inl rfl) (fun hHeld => ?_);clear hK K hHeld q0 q1 q2 q3 qf;refine cU (by kernel_rfl) ?_;have HG:=HM8.out;unfold set4 at HG;generalize (((w9.setCell ⟨g10,0,none⟩ (.int .u64 (p0:Nat))).setCell ⟨g10,1,none⟩ (.int .u64 (p1:Nat))).setCell ⟨g10,2,none⟩ (.int .u64 (p2:Nat))).setCell ⟨g10,3,none⟩ (.int .u64 (p3:Nat))=W3 at HG ⊢;have HM10:=Lib.hid HG;obtain⟨q0,q1,q2,q3,qf⟩:=HG.rowR;clear HG HM8;go_wp2_with fail;refine (nM p0 p1 p2 p3 S hp (by omega) (by omega) _).mono ?_
 rintro e wz ⟨s0,s1,s2,s3,rfl,hs,vs,hbl⟩
 rw[Int.toNat_natCast]at vs;have HF:Hid (aC s0 s1 s2 s3=(aC h0 h1 h2 h3*115792089237316195423570985008687907853269984665640564039457584007913129639936+aC l0 l1 l2 l3)%aC m0 m1 m2 m3):=Lib.hid (by
  rw[vs,HeS.out];refine Hp (L:=L) (r1:=aC n0 n1 n2 n3) bL ?_ ?_
  ·rw[Hvn.out,Hvz.out,Hvx.out,Hvy.out,Hevb.out,Hvr.out,HeS.out,ZD bL (bP hl)]
  ·rw[Hvp.out,Hvu.out,Hevb.out,HeS.out])
 have M11:=HM10.out.on hbl;obtain⟨o0,o1,o2,o3,of⟩:=M11.rowO;have HB:=Lib.hid M11.below;clear vs hbl M11 q0 q1 q2 q3 qf;go_wp2_with fail;refine bodyPost_ret (v:=.tuple #[.agg #[.int .u64 s0,.int .u64 s1,.int .u64 s2,.int .u64 s3],.int .i64 0]) (by simp[results,results95,go_sem, *]) rfl ?_;exact⟨s0,s1,s2,s3,0,rfl,hs,⟨HF.out,rfl⟩,bF HB.out (by omega) _ _ _ _⟩
theorem QR (h0 h1 h2 h3 l0 l1 l2 l3 m0 m1 m2 m3:Nat) (hh:cC h0 h1 h2 h3) (hl:cC l0 l1 l2 l3) (hm:cC m0 m1 m2 m3) (w:World) :
  Calls prog 95 #[.agg #[.int .u64 h0,.int .u64 h1,.int .u64 h2,.int .u64 h3],.agg #[.int .u64 l0,.int .u64 l1,.int .u64 l2,.int .u64 l3],.agg #[.int .u64 m0,.int .u64 m1,.int .u64 m2,.int .u64 m3]] w (BP (fun v c=>aC m0 m1 m2 m3=0∧v=0∧c=22∨0<aC m0 m1 m2 m3∧v=(aC h0 h1 h2 h3*115792089237316195423570985008687907853269984665640564039457584007913129639936+aC l0 l1 l2 l3)%aC m0 m1 m2 m3∧c=0) w):=by
 rcases Nat.eq_zero_or_pos (aC m0 m1 m2 m3)with hz|hz
 ·obtain⟨e0,e1,e2,e3⟩:=uC hm (show cC 0 0 0 0 from⟨by omega,by omega,by omega,by omega⟩) (hz.trans (show 0=aC 0 0 0 0 from rfl));subst e0; subst e1; subst e2; subst e3;exact (YD h0 h1 h2 h3 l0 l1 l2 l3 w).mono fun e w' ⟨s0,s1,s2,s3,c,he,hs,hv,hb⟩=>⟨s0,s1,s2,s3,c,he,hs,Or.inl ⟨hz,hv⟩,hb⟩
 ·exact (YF h0 h1 h2 h3 l0 l1 l2 l3 m0 m1 m2 m3 hh hl hm hz w).mono fun e w' ⟨s0,s1,s2,s3,c,he,hs,hv,hb⟩=>⟨s0,s1,s2,s3,c,he,hs,Or.inr ⟨hz,hv⟩,hb⟩
theorem Hu:∃o:Obj,(∀w,(Instr.makeSlice 25 (.int .i64 32) (.int .i64 32)).run prog w=.ok (.slice (some ⟨w.heap.size,0,none⟩) 32 32) (w.alloc o))∧(∀(w:World) (b:Nat),b=w.heap.size→RowB (w.alloc o) b 32 (fun _=>0))∧(∀(w:World) (b:Nat),b=w.heap.size→∀j,(w.alloc o).frozen? ⟨b,j,none⟩=false):=by
 refine⟨.cells (Array.replicate 32 (.int .u8 0)) 5,fun _=>by kernel_rfl,fun w b hb k hk => ?_,fun w b hb j => ?_⟩
 ·subst hb;refine⟨?_,World.frozen?_alloc_new _ _ _ _⟩;rw[World.cell?_alloc_new];simp[hk]
 ·subst hb;exact World.frozen?_alloc_new _ _ _ _
set_option maxHeartbeats 1000000 in
theorem rJ (a0 a1 a2 a3:Nat) (ha:cC a0 a1 a2 a3) (w:World) :
  Calls prog 37 #[.agg #[.int .u64 a0,.int .u64 a1,.int .u64 a2,.int .u64 a3]] w (fun e w'=>∃b:Nat,e=.returned (.slice (some ⟨b,0,none⟩) 32 32)∧w.heap.size≤b∧b<w'.heap.size∧RowB w' b 32 (bT (aC a0 a1 a2 a3))∧Below w.heap.size w w'∧∀j,w'.frozen? ⟨b,j,none⟩=false):=by
 obtain⟨o,hmk,ho,hof⟩:=Hu;have Hof:=Lib.hid hof;have hix:∀W,Row4 W w.heap.size a0 a1 a2 a3→RowIs W w.heap.size 4 (dU [a0,a1,a2,a3]):=fun W h=>h.rows
 have hP:=AW ha;have HA:=Lib.hid (MV a0 a1 a2 a3);have Ho:=Lib.hid ho;have R0:=Lib.hid ((RowIs.mk w 24 [a0,a1,a2,a3] w.heap.size rfl).alloc (by simp) o);have HP:=Lib.hid hP;clear ho hix hP hof;generalize dU [a0,a1,a2,a3]=P at *;rw[HA.out];clear HA;generalize hv:eP 18446744073709551616 P 4=A;have Hv:=Lib.hid hv;clear hv
 go_enter func37,ntmps37
 go_wp2_with fail
 go_loopw [6] (fun x wr=>∃i:Nat,i≤32∧x=.int .i64 i∧RowIs wr w.heap.size 4 P∧RowB wr (w.heap.size+1) 32 (fun p=>if 32≤p+i then bT A p else 0)∧Below w.heap.size w wr∧w.heap.size+1<wr.heap.size∧Hid (∀j,wr.frozen? ⟨w.heap.size+1,j,none⟩=false)) (fun x _=>32-(intOf x).toNat)
 case atStart =>
  refine⟨0,by omega,rfl,R0.out,(Ho.out _ _ (by simp)).ext (fun k hk=>by rw[if_neg (by omega)]),?_,by simp,Lib.hid (fun j=>Hof.out _ _ (by simp) j)⟩;exact ((Below.refl _ _).alloc (Nat.le_refl _) _).alloc (by simp) _
 case round =>
  obtain⟨i,hi,rfl,rP,rB,hb,hz,HF⟩:=hrel;have HB:=Lib.hid hb
  by_cases hlt:i<32
  ·obtain⟨j,m,s,p,q1,q2,q3,q4,hj,hm,hs,hp,e⟩:=Oe hlt;have cx:=rP.cell hj;have cb:=(rB p hp).1;have fb:=(rB p hp).2;have lx:=HP.out j;obtain⟨t,e1,e2,lt⟩:=Kf (b:=bT A p) (s:=s) lx (by
    obtain⟨k1,k2,k3⟩:=e.out;rw[k2,PN P HP.out 4 j m hj hm,Hv.out,←k1];unfold bT;rw[k3,show 31-(31-i)=i by omega])
   have HrP:=Lib.hid rP;have HrB:=Lib.hid ((rB.set (v:=bT A p) hp).ext (R:=fun k=>if 32≤k+(i+1)then bT A k else 0) (fun k hk=>by
    obtain⟨k1,k2,k3⟩:=e.out;unfold gY
    by_cases h:k=p
    ·rw[if_pos h,if_pos (by omega),h]
    ·rw[if_neg h];show (if 32≤k+i then bT A k else 0)=_
     by_cases h':32≤k+i
     ·rw[if_pos h',if_pos (by omega)]
     ·rw[if_neg h',if_neg (by omega)]))
   have lb:=yR A p;generalize P j=x at *;generalize bT A p=b at *;clear rP rB hb e;go_wp2_with fail
   go_roundw
   case rel=>exact⟨i+1,by omega,by go_num,HrP.out.other (by omega) _,HrB.out,HB.out.setCell (p:=⟨w.heap.size+1,p,none⟩) (by simp) _,by rw[World.size_setCell]; exact hz,Lib.hid (fun j=>by rw[World.frozen?_setCell]; exact HF.out j)⟩
   case measure=>first|(simp[intOf]; done)|(simp[intOf]; omega)
  ·obtain rfl:i=32:=by omega
   have HrB:=Lib.hid (rB.ext (R:=bT A) (fun k hk=>by rw[if_pos (by omega)]));clear rB rP hb;go_wp2_with fail;go_ret;exact⟨w.heap.size+1,rfl,by omega,hz,HrB.out,HB.out,HF.out⟩
end Go.Proofs.YtpjlhhpjpnacmaaGreatDoor
namespace Go.Proofs.YtpjlhhpjpnacmaaGreatDoor.Ex
open Go.Proofs.Tryz
inductive RE|v (i:Nat)|add (a b:RE)|mul (a b:RE)|neg (a:RE)|zero|one
instance:Add RE:=⟨.add⟩
instance:Mul RE:=⟨.mul⟩
instance:Neg RE:=⟨.neg⟩
instance:Sub RE:=⟨fun a b=>.add a (.neg b)⟩
abbrev Z0:RE:=.v 0
abbrev Z1:RE:=.v 1
abbrev Z2:RE:=.v 2
abbrev Z3:RE:=.v 3
abbrev Z4:RE:=.v 4
abbrev Z5:RE:=.v 5
abbrev Z6:RE:=.v 6
abbrev Z7:RE:=.v 7
abbrev Z8:RE:=.v 8
abbrev Z9:RE:=.v 9
abbrev Z10:RE:=.v 10
abbrev Z11:RE:=.v 11
section
variable {R:Type} (K:CR R) (env:Nat→R)
def RE.den:RE→R
 | .v i=>env i
 | .add a b=>K.add (a.den) (b.den)
 | .mul a b=>K.mul (a.den) (b.den)
 | .neg a=>K.neg a.den
 | .zero=>K.zero
 | .one=>K.one
def nt (x:R):Nat→R
 | 0=>K.zero
 | n+1=>K.add (nt x n) x
def zt (x:R):Int→R
 | .ofNat n=>nt K x n
 | .negSucc n=>K.neg (nt K x (n+1))
def mono:List Nat→R
 | []=>K.one
 | i::r=>K.mul (env i) (mono r)
def iH:List (Int×List Nat)→R
 | []=>K.zero
 | (c,m)::r=>K.add (zt K (mono K env m) c) (iH r)
end
def ltL:List Nat→List Nat→Bool
 | [],[]=>false
 | [],_::_=>true
 | _::_,[]=>false
 | a::r,b::s=>bif Nat.blt a b then true else bif Nat.blt b a then false else ltL r s
def eqL:List Nat→List Nat→Bool
 | [],[]=>true
 | a::r,b::s=>bif Nat.beq a b then eqL r s else false
 | _,_=>false
theorem Ah:∀{a b:List Nat},eqL a b=true→a=b
 | [],[],_=>rfl
 | a::r,b::s,h=>by
  unfold eqL at h;cases hb:Nat.beq a b<;>rw[hb]at h
  ·cases h
  ·rw[Nat.eq_of_beq_eq_true hb,Ah h]
 | [],_::_,h=>by cases h
 | _::_,[],h=>by cases h
def Nw (c:Int) (m:List Nat):List (Int×List Nat)→List (Int×List Nat)
 | []=>[(c,m)]
 | (d,k)::r=>bif eqL m k then (c+d,k)::r else bif ltL m k then (c,m)::(d,k)::r else (d,k)::Nw c m r
def JH:List (Int×List Nat)→List (Int×List Nat)→List (Int×List Nat)
 | [],q=>q
 | (c,m)::r,q=>Nw c m (JH r q)
def RB (i:Nat):List Nat→List Nat
 | []=>[i]
 | j::r=>bif Nat.ble i j then i::j::r else j::RB i r
def XZ:List Nat→List Nat→List Nat
 | [],m=>m
 | i::r,m=>RB i (XZ r m)
def DT (c:Int) (m:List Nat):List (Int×List Nat)→List (Int×List Nat)
 | []=>[]
 | (d,k)::r=>Nw (c*d) (XZ m k) (DT c m r)
def WW:List (Int×List Nat)→List (Int×List Nat)→List (Int×List Nat)
 | [],_=>[]
 | (c,m)::r,q=>JH (DT c m q) (WW r q)
def WV:List (Int×List Nat)→List (Int×List Nat)
 | []=>[]
 | (c,m)::r=>(-c,m)::WV r
def RE.norm:RE→List (Int×List Nat)
 | .v i=>[(1,[i])]
 | .add a b=>JH a.norm b.norm
 | .mul a b=>WW a.norm b.norm
 | .neg a=>WV a.norm
 | .zero=>[]
 | .one=>[(1,[])]
def isZ:List (Int×List Nat)→Bool
 | []=>true
 | (.ofNat 0,_)::r=>isZ r
 | _=>false
section
variable {R:Type} (K:CR R) (env:Nat→R)
theorem sG (x:R) (n:Nat):∀m,nt K x (n+m)=K.add (nt K x n) (nt K x m)
 | 0=>(K.add_zero _).symm
 | m+1=>by show K.add (nt K x (n+m)) x=_; rw[sG x n m,K.add_assoc]; rfl
theorem dT:K.neg K.zero=K.zero:=by
 apply K.add_cancel (a:=K.zero);rw[K.add_neg,K.add_zero]
theorem UE (x:R) (n m:Nat):zt K x (Int.subNatNat n m)=K.add (nt K x n) (K.neg (nt K x m)):=by
 unfold Int.subNatNat;split
 ·rename_i h;have:n=m+(n-m):=by omega
  show nt K x (n-m)=_
  conv=>rhs; rw[this,sG]
  rw[K.add_comm (nt K x m),K.add_assoc,K.add_neg,K.add_zero]
 ·rename_i k h;have:m=n+(k+1):=by omega
  show K.neg (nt K x (k+1))=K.add (nt K x n) (K.neg (nt K x m));rw[this,sG K x n (k+1),K.neg_add' (nt K x n),←K.add_assoc,K.add_neg,K.zero_add]
theorem UF (x:R) (a b:Int):zt K x (a+b)=K.add (zt K x a) (zt K x b):=by
 cases a with
 | ofNat n =>
  cases b with
  | ofNat m=>exact sG K x n m
  | negSucc m=>exact UE K x n (m+1)
 | negSucc n =>
  cases b with
  | ofNat m=>show zt K x (Int.subNatNat m (n+1))=_; rw[UE,K.add_comm]; rfl
  | negSucc m =>
   show K.neg (nt K x (n+m+1+1))=K.add (K.neg (nt K x (n+1))) (K.neg (nt K x (m+1)));rw[←K.neg_add',←sG,show n+1+(m+1)=n+m+1+1 by omega]
theorem oN (x:R) (a:Int):zt K x (-a)=K.neg (zt K x a):=by
 apply K.add_cancel (a:=zt K x a);rw[←UF,K.add_neg,Int.add_right_neg];rfl
theorem JM (x y:R) (n:Nat):∀m,K.mul (nt K x n) (nt K y m)=nt K (K.mul x y) (n*m)
 | 0=>K.mul_zero _
 | m+1=>by
  show K.mul _ (K.add (nt K y m) y)=_;rw[K.mul_add,JM x y n m,Nat.mul_add,Nat.mul_one,sG];congr 1;clear JM
  induction n with
  | zero=>exact K.zero_mul _
  | succ n ih=>show K.mul (K.add (nt K x n) x) y=_; rw[K.add_mul,ih]; rfl
theorem Pc (x y:R) (a b:Int):K.mul (zt K x a) (zt K y b)=zt K (K.mul x y) (a*b):=by
 have hn:∀(c:Int),∃n:Nat,c=n∨c = -(n:Int):=fun c=>⟨c.natAbs,Int.natAbs_eq c⟩
 have h0:∀n m:Nat,K.mul (zt K x n) (zt K y m)=zt K (K.mul x y) ((n:Int)*m):=fun n m=>by
  rw[←Int.natCast_mul]; exact JM K x y n m
 obtain⟨n,rfl|rfl⟩:=hn a
 ·obtain⟨m,rfl|rfl⟩:=hn b
  ·exact h0 n m
  ·rw[oN,K.mul_neg,h0,Int.mul_neg,oN]
 ·obtain⟨m,rfl|rfl⟩:=hn b
  ·rw[oN,K.neg_mul,h0,Int.neg_mul,oN]
  ·rw[oN,oN,K.neg_mul,K.mul_neg,K.neg_neg,h0,Int.neg_mul_neg]
theorem AQ (c:Int) (m:List Nat):∀q,iH K env (Nw c m q)=K.add (zt K (mono K env m) c) (iH K env q)
 | []=>rfl
 | (d,k)::r=>by
  unfold Nw;cases he:eqL m k
  ·cases hl:ltL m k
   ·show K.add (zt K (mono K env k) d) (iH K env (Nw c m r))=K.add _ (K.add _ _);rw[AQ c m r,K.add_left_comm]
   ·rfl
  ·rw[Ah he];show K.add (zt K (mono K env k) (c+d)) (iH K env r)=K.add _ (K.add _ _);rw[UF,K.add_assoc]
theorem uV:∀p q,iH K env (JH p q)=K.add (iH K env p) (iH K env q)
 | [],q=>(K.zero_add _).symm
 | (c,m)::r,q=>by
  show iH K env (Nw c m (JH r q))=K.add (K.add _ _) _;rw[AQ,uV r q,K.add_assoc]
theorem FF (i:Nat):∀m,mono K env (RB i m)=K.mul (env i) (mono K env m)
 | []=>rfl
 | j::r=>by
  unfold RB;cases Nat.ble i j
  ·show K.mul (env j) (mono K env (RB i r))=K.mul _ (K.mul _ _);rw[FF i r,K.mul_left_comm]
  ·rfl
theorem ER:∀m k,mono K env (XZ m k)=K.mul (mono K env m) (mono K env k)
 | [],k=>(K.one_mul _).symm
 | i::r,k=>by
  show mono K env (RB i (XZ r k))=K.mul (K.mul _ _) _;rw[FF,ER r k,K.mul_assoc]
theorem xS (c:Int) (m:List Nat):∀q,iH K env (DT c m q)=K.mul (zt K (mono K env m) c) (iH K env q)
 | []=>(K.mul_zero _).symm
 | (d,k)::r=>by
  show iH K env (Nw (c*d) (XZ m k) (DT c m r))=K.mul _ (K.add _ _);rw[AQ,xS c m r,K.mul_add,ER,Pc]
theorem DS:∀p q,iH K env (WW p q)=K.mul (iH K env p) (iH K env q)
 | [],q=>(K.zero_mul _).symm
 | (c,m)::r,q=>by
  show iH K env (JH (DT c m q) (WW r q))=K.mul (K.add _ _) _;rw[uV,xS,DS r q,K.add_mul]
theorem DR:∀p,iH K env (WV p)=K.neg (iH K env p)
 | []=>(dT K).symm
 | (c,m)::r=>by
  show K.add (zt K (mono K env m) (-c)) (iH K env (WV r))=K.neg (K.add _ _);rw[DR r,K.neg_add',oN]
theorem kK:∀e:RE,iH K env e.norm=e.den K env
 | .v i=>by show K.add (K.add K.zero (K.mul (env i) K.one)) K.zero=env i; rw[K.add_zero,K.zero_add,K.mul_one]
 | .add a b=>by show iH K env (JH _ _)=K.add _ _; rw[uV,kK a,kK b]
 | .mul a b=>by show iH K env (WW _ _)=K.mul _ _; rw[DS,kK a,kK b]
 | .neg a=>by show iH K env (WV _)=K.neg _; rw[DR,kK a]
 | .zero=>rfl
 | .one=>by show K.add (K.add K.zero K.one) K.zero=K.one; rw[K.add_zero,K.zero_add]
theorem OG:∀p,isZ p=true→iH K env p=K.zero
 | [],_=>rfl
 | (.ofNat 0,m)::r,h=>by
  show K.add K.zero (iH K env r)=_;rw[K.zero_add];exact OG r h
 | (.ofNat (_+1),_)::_,h=>by cases h
 | (.negSucc _,_)::_,h=>by cases h
theorem aY (a b:RE) (h:isZ (RE.norm (.add a (.neg b)))=true):a.den K env=b.den K env:=by
 have:=OG K env _ h;rw[kK]at this;have h2:K.add (K.add (a.den K env) (K.neg (b.den K env))) (b.den K env)=K.add K.zero (b.den K env):=congrArg (fun x=>K.add x (b.den K env)) this
 rwa [K.add_assoc,K.neg_add,K.add_zero,K.zero_add]at h2
end
def cI {R:Type} (K:CR R) (l:List R) (i:Nat):R:=(l[i]?).getD K.zero
structure FD {R:Type} (K:CR R) (inv:R→R):Prop where
 ne:K.one≠K.zero
 inv:∀x,x≠K.zero→K.mul x (inv x)=K.one
section
variable {R:Type} {K:CR R} {inv:R→R}
theorem FD.zd (h:FD K inv) {a b:R} (e:K.mul a b=K.zero) (ha:a≠K.zero):b=K.zero:=by
 have:=congrArg (K.mul (inv a)) e
 rwa [←K.mul_assoc,K.mul_comm (inv a),h.inv a ha,K.one_mul,K.mul_zero]at this
theorem FD.mul_ne (h:FD K inv) {a b:R} (ha:a≠K.zero) (hb:b≠K.zero):K.mul a b≠K.zero:=fun e=>hb (h.zd e ha)
theorem FD.cancel (h:FD K inv) {a b c:R} (ha:a≠K.zero) (e:K.mul a b=K.mul a c):b=c:=by
 have:=congrArg (K.mul (inv a)) e
 rwa [←K.mul_assoc,←K.mul_assoc,K.mul_comm (inv a),h.inv a ha,K.one_mul,K.one_mul]at this
theorem iU {a b:R} (h:K.add a (K.neg b)=K.zero):a=b:=by
 have h2:K.add (K.add a (K.neg b)) b=K.add K.zero b:=congrArg (fun x=>K.add x b) h
 rwa [K.add_assoc,K.neg_add,K.add_zero,K.zero_add]at h2
theorem fA {a b:R} (h:a=b):K.add a (K.neg b)=K.zero:=by rw[h,K.add_neg]
theorem iM {A B L1 R1 c1:R} (h1:L1=R1) (e:K.add A (K.neg B)=K.mul c1 (K.add L1 (K.neg R1))):A=B:=by
 apply iU (K:=K);rw[e,fA h1,K.mul_zero]
theorem mV {A B L1 R1 c1 L2 R2 c2:R} (h1:L1=R1) (h2:L2=R2) (e:K.add A (K.neg B)=K.add (K.mul c1 (K.add L1 (K.neg R1))) (K.mul c2 (K.add L2 (K.neg R2)))):A=B:=by
 apply iU (K:=K);rw[e,fA h1,fA h2,K.mul_zero,K.mul_zero,K.add_zero]
theorem tH {A B L1 R1 c1 L2 R2 c2 L3 R3 c3:R} (h1:L1=R1) (h2:L2=R2) (h3:L3=R3) (e:K.add A (K.neg B)=K.add (K.add (K.mul c1 (K.add L1 (K.neg R1))) (K.mul c2 (K.add L2 (K.neg R2)))) (K.mul c3 (K.add L3 (K.neg R3)))):A=B:=by
 apply iU (K:=K);rw[e,fA h1,fA h2,fA h3,K.mul_zero,K.mul_zero,K.mul_zero,K.add_zero,K.add_zero]
end
section
variable {R:Type} (K:CR R)
def tl (f:Nat→R):Nat→R:=fun n=>f (n+1)
def mW:Nat→(Nat→R)→(Nat→R)→R
 | 0,f,g=>K.mul (f 0) (g 0)
 | n+1,f,g=>K.add (K.mul (f 0) (g (n+1))) (mW n (tl f) g)
def RX (f g:Nat→R):Nat→R:=fun n=>K.add (f n) (g n)
def fsc (c:R) (f:Nat→R):Nat→R:=fun n=>K.mul c (f n)
def KQ (f g:Nat→R):Nat→R:=fun n=>mW K n f g
def aGx (f:Nat→R):Nat→R:=fun n=>K.neg (f n)
def fze:Nat→R:=fun _=>K.zero
def Ur (c:R):Nat→R|0=>c|_+1=>K.zero
theorem yL:∀(n:Nat) (f g h:Nat→R),mW K n f (RX K g h)=K.add (mW K n f g) (mW K n f h)
 | 0,f,g,h=>K.mul_add _ _ _
 | n+1,f,g,h=>by
  show K.add (K.mul (f 0) (K.add _ _)) (mW K n (tl f) (RX K g h))=K.add (K.add _ _) (K.add _ _);rw[yL n,K.mul_add,K.add_assoc,K.add_assoc,K.add_left_comm (K.mul (f 0) (h (n+1)))]
theorem yM:∀(n:Nat) (f g h:Nat→R),mW K n (RX K f g) h=K.add (mW K n f h) (mW K n g h)
 | 0,f,g,h=>K.add_mul _ _ _
 | n+1,f,g,h=>by
  show K.add (K.mul (K.add _ _) (h (n+1))) (mW K n (RX K (tl f) (tl g)) h)=K.add (K.add _ _) (K.add _ _);rw[yM n,K.add_mul,K.add_assoc,K.add_assoc,K.add_left_comm (K.mul (g 0) (h (n+1)))]
theorem Bi:∀(n:Nat) (c:R) (f g:Nat→R),mW K n (fsc K c f) g=K.mul c (mW K n f g)
 | 0,c,f,g=>K.mul_assoc _ _ _
 | n+1,c,f,g=>by
  show K.add (K.mul (K.mul c (f 0)) _) (mW K n (fsc K c (tl f)) g)=K.mul c (K.add _ _);rw[Bi n,K.mul_add,K.mul_assoc]
theorem LJ:∀(n:Nat) (g:Nat→R),mW K n (fze K) g=K.zero
 | 0,g=>K.zero_mul _
 | n+1,g=>by
  show K.add (K.mul K.zero _) (mW K n (fze K) g)=_;rw[LJ n,K.zero_mul,K.add_zero]
theorem LL (c:R) (g:Nat→R):∀n,mW K n (Ur K c) g=K.mul c (g n)
 | 0=>rfl
 | n+1=>by
  show K.add (K.mul c _) (mW K n (fze K) g)=_;rw[LJ,K.add_zero]
theorem yK:∀(n:Nat) (f g h:Nat→R),mW K n (KQ K f g) h=mW K n f (KQ K g h)
 | 0,f,g,h=>K.mul_assoc _ _ _
 | n+1,f,g,h=>by
  have e:tl (KQ K f g)=RX K (fsc K (f 0) (tl g)) (KQ K (tl f) g):=rfl;show K.add (K.mul (K.mul (f 0) (g 0)) (h (n+1))) (mW K n (tl (KQ K f g)) h)=K.add (K.mul (f 0) (K.add (K.mul (g 0) (h (n+1))) (mW K n (tl g) h))) (mW K n (tl f) (KQ K g h));rw[e,yM,Bi,yK n,K.mul_add,K.mul_assoc,K.add_assoc]
theorem rI:∀(n:Nat) (f g:Nat→R),mW K n f g=mW K n g f
 | 0,f,g=>K.mul_comm _ _
 | 1,f,g=>by
  show K.add (K.mul (f 0) (g 1)) (K.mul (f 1) (g 0))=K.add (K.mul (g 0) (f 1)) (K.mul (g 1) (f 0));rw[K.add_comm,K.mul_comm (f 1),K.mul_comm (f 0)]
 | n+2,f,g=>by
  show K.add (K.mul (f 0) (g (n+2))) (mW K (n+1) (tl f) g)=K.add (K.mul (g 0) (f (n+2))) (mW K (n+1) (tl g) f);rw[rI (n+1) (tl f) g,rI (n+1) (tl g) f];show K.add (K.mul (f 0) (g (n+2))) (K.add (K.mul (g 0) (f (n+2))) (mW K n (tl g) (tl f)))=K.add (K.mul (g 0) (f (n+2))) (K.add (K.mul (f 0) (g (n+2))) (mW K n (tl f) (tl g)));rw[K.add_left_comm,rI n (tl g) (tl f)]
theorem LK:∀(a b:Nat) (f g:Nat→R),(∀i,a≤i→f i=K.zero)→(∀i,b≤i→g i=K.zero)→∀n,a+b≤n+1→mW K n f g=K.zero
 | 0,b,f,g,hf,hg,n,h=>by
  have:f=fze K:=funext fun i=>hf i (Nat.zero_le _)
  rw[this,LJ]
 | a+1,b,f,g,hf,hg,0,h=>by
  show K.mul (f 0) (g 0)=_;rw[hg 0 (by omega),K.mul_zero]
 | a+1,b,f,g,hf,hg,n+1,h=>by
  show K.add (K.mul (f 0) (g (n+1))) (mW K n (tl f) g)=_;rw[hg (n+1) (by omega),K.mul_zero,K.zero_add];exact LK a b (tl f) g (fun i hi=>hf (i+1) (by omega)) hg n (by omega)
def Pol:Type:={f:Nat→R // ∃n,∀i,n≤i→f i=K.zero}
variable {K}
theorem Pol.ext {f g:Pol K} (h:∀n,f.1 n=g.1 n):f=g:=Subtype.ext (funext h)
def bH:CR (Pol K) where
 add f g:=⟨RX K f.1 g.1,by
  obtain⟨a,ha⟩:=f.2; obtain⟨b,hb⟩:=g.2;exact⟨a+b,fun i hi=>by show K.add (f.1 i) (g.1 i)=_; rw[ha i (by omega),hb i (by omega),K.add_zero]⟩⟩
 mul f g:=⟨KQ K f.1 g.1,by
  obtain⟨a,ha⟩:=f.2; obtain⟨b,hb⟩:=g.2;exact⟨a+b,fun i hi=>LK K a b f.1 g.1 ha hb i (by omega)⟩⟩
 neg f:=⟨aGx K f.1,by
  obtain⟨a,ha⟩:=f.2;exact⟨a,fun i hi=>by show K.neg (f.1 i)=_; rw[ha i hi,dT]⟩⟩
 zero:=⟨fze K,0,fun _ _=>rfl⟩
 one:=⟨Ur K K.one,1,fun i hi=>by cases i with|zero=>omega|succ i=>rfl⟩
 add_assoc a b c:=Pol.ext fun n=>K.add_assoc _ _ _
 add_comm a b:=Pol.ext fun n=>K.add_comm _ _
 zero_add a:=Pol.ext fun n=>K.zero_add _
 neg_add a:=Pol.ext fun n=>K.neg_add _
 mul_assoc a b c:=Pol.ext fun n=>yK K n _ _ _
 mul_comm a b:=Pol.ext fun n=>rI K n _ _
 one_mul a:=Pol.ext fun n=>by show mW K n (Ur K K.one) a.1=_; rw[LL,K.one_mul]
 mul_add a b c:=Pol.ext fun n=>yL K n _ _ _
def iJ (c:R):Pol K:=⟨Ur K c,1,fun i hi=>by cases i with|zero=>omega|succ i=>rfl⟩
def pX:Pol K:=⟨fun n=>match n with|1=>K.one|_=>K.zero,2,fun i hi=>by match i,hi with|i+2,_=>rfl⟩
theorem NO (a b:R):(iJ (K.add a b):Pol K)=bH.add (iJ a) (iJ b):=Pol.ext fun n=>by
 cases n with
 | zero=>rfl
 | succ n=>exact (K.zero_add _).symm
theorem Gv (a:R):(iJ (K.neg a):Pol K)=bH.neg (iJ a):=Pol.ext fun n=>by
 cases n with
 | zero=>rfl
 | succ n=>exact (dT K).symm
theorem tW (a b:R):(iJ (K.mul a b):Pol K)=bH.mul (iJ a) (iJ b):=Pol.ext fun n=>by
 show _=mW K n (Ur K a) (Ur K b);rw[LL];cases n with
 | zero=>rfl
 | succ n=>exact (K.mul_zero _).symm
def dg (f:Pol K) (n:Nat):Prop:=f.1 n≠K.zero∧∀i,n<i→f.1 i=K.zero
theorem Bc {f:Pol K} {n:Nat} (h:dg f n):f≠bH.zero:=fun e=>h.1 (by rw[e]; rfl)
theorem Vh {f:Pol K} {n m:Nat} (h:dg f n) (g:dg f m):n=m:=by
 rcases Nat.lt_trichotomy n m with q|q|q
 ·exact absurd (h.2 m q) g.1
 ·exact q
 ·exact absurd (g.2 n q) h.1
theorem OP (f:Pol K) (h:f≠bH.zero):∃n,dg f n:=by
 obtain⟨b,hb⟩:=f.2;have:∀b,(∀i,b≤i→f.1 i=K.zero)→∃n,dg f n:=by
  intro b
  induction b with
  | zero=>exact fun hb=>absurd (Pol.ext fun n=>hb n (Nat.zero_le _)) h
  | succ b ih =>
   intro hb
   by_cases h0:f.1 b=K.zero
   ·exact ih fun i hi=>by
     rcases Nat.lt_or_ge b i with q|q
     ·exact hb i q
     ·rw[show i=b by omega,h0]
   ·exact⟨b,h0,hb⟩
 exact this b hb
variable {inv:R→R}
theorem OU:∀(a b:Nat) (f g:Nat→R),(∀i,a<i→f i=K.zero)→(∀i,b<i→g i=K.zero)→mW K (a+b) f g=K.mul (f a) (g b)
 | 0,b,f,g,hf,hg=>by
  have:f=Ur K (f 0):=funext fun i=>by cases i with|zero=>rfl|succ i=>exact hf _ (by omega)
  rw[this,LL,Nat.zero_add]; rfl
 | a+1,b,f,g,hf,hg=>by
  rw[show a+1+b=(a+b)+1 by omega];show K.add (K.mul (f 0) (g (a+b+1))) (mW K (a+b) (tl f) g)=_;rw[hg (a+b+1) (by omega),K.mul_zero,K.zero_add];exact OU a b (tl f) g (fun i hi=>hf (i+1) (by omega)) hg
theorem jX (F:FD K inv) {f g:Pol K} {n m:Nat} (hf:dg f n) (hg:dg g m):dg (bH.mul f g) (n+m):=by
 refine⟨?_,fun i hi=>LK K (n+1) (m+1) f.1 g.1 (fun j hj=>hf.2 j hj) (fun j hj=>hg.2 j hj) i (by omega)⟩
 ·show mW K (n+m) f.1 g.1≠_;rw[OU n m f.1 g.1 hf.2 hg.2];exact F.mul_ne hf.1 hg.1
theorem vX {f g:Pol K} {n:Nat} (hf:dg f n) (hg:∀i,n≤i→g.1 i=K.zero):dg (bH.add f g) n:=by
 refine⟨?_,fun i hi => ?_⟩
 ·show K.add (f.1 n) (g.1 n)≠_;rw[hg n (Nat.le_refl _),K.add_zero]; exact hf.1
 ·show K.add (f.1 i) (g.1 i)=_;rw[hf.2 i hi,hg i (by omega),K.add_zero]
theorem Su {a:R} (h:a≠K.zero):K.neg a≠K.zero:=fun e=>h (by rw[←K.neg_neg a,e,dT])
theorem Bb {f:Pol K} {n:Nat} (hf:dg f n):dg (bH.neg f) n :=
 ⟨Su hf.1,fun i hi=>by show K.neg (f.1 i)=_; rw[hf.2 i hi,dT]⟩
theorem vW (F:FD K inv) (c:R):dg (bH.sub (pX:Pol K) (iJ c)) 1:=by
 refine⟨?_,fun i hi => ?_⟩
 ·show K.add K.one (K.neg K.zero)≠_;rw[dT,K.add_zero]; exact F.ne
 ·match i,hi with
  | i+2,_=>show K.add K.zero (K.neg K.zero)=_; rw[dT,K.add_zero]
def qP (c:R):Pol K:=bH.add (bH.mul pX (bH.mul pX pX)) (iJ c)
theorem Vi (F:FD K inv):dg (pX:Pol K) 1:=⟨F.ne,fun i hi=>by match i,hi with|i+2,_=>rfl⟩
theorem aCI (F:FD K inv) (c:R):dg (qP c:Pol K) 3 :=
 vX (jX F (Vi F) (jX F (Vi F) (Vi F))) fun i hi=>by match i,hi with|i+1,_=>rfl
theorem xX (F:FD K inv) {c k:R} {h:Pol K} (e:bH.mul (bH.sub (pX:Pol K) (iJ c)) h=iJ k):k=K.zero:=by
 by_cases h0:h=bH.zero
 ·rw[h0,bH.mul_zero]at e;exact (congrArg (fun p:Pol K=>p.1 0) e).symm
 ·obtain⟨n,hn⟩:=OP h h0;have:=jX F (vW F c) hn;rw[e]at this;exact absurd (by rw[Nat.add_comm]; rfl) this.1
end
section
variable {A:Type} {K:CR A}
theorem Oj {M N L1 R1 c1 L2 R2 c2 L3 R3 c3 L4 R4 c4:A} (h1:L1=R1) (h2:L2=R2) (h3:L3=R3) (h4:L4=R4) (e:K.add M (K.neg N)=K.add (K.add (K.add (K.mul c1 (K.add L1 (K.neg R1))) (K.mul c2 (K.add L2 (K.neg R2)))) (K.mul c3 (K.add L3 (K.neg R3)))) (K.mul c4 (K.add L4 (K.neg R4)))):M=N:=by
 apply iU (K:=K);rw[e,fA h1,fA h2,fA h3,fA h4,K.mul_zero,K.mul_zero,K.mul_zero,K.mul_zero,K.add_zero,K.add_zero,K.add_zero]
def op (K:CR A) (X Y x y:A) (S:A→Prop):A→Prop:=fun z=>∃s t,S s∧S t∧z=K.add (K.mul (K.sub X x) s) (K.mul (K.sub Y y) t)
structure Idl (K:CR A) (S:A→Prop):Prop where
 add:∀a b,S a→S b→S (K.add a b)
 mul:∀a c,S a→S (K.mul c a)
theorem Idl.neg {S:A→Prop} (h:Idl K S) {a:A} (ha:S a):S (K.neg a):=by
 have:=h.mul a (K.neg K.one) ha
 rwa [K.neg_mul,K.one_mul]at this
theorem Idl.sub {S:A→Prop} (h:Idl K S) {a b:A} (ha:S a) (hb:S b):S (K.sub a b):=h.add _ _ ha (h.neg hb)
def Eqv (K:CR A) (S T:A→Prop):Prop:=∃a b,a≠K.zero∧b≠K.zero∧(∀s,S s→∃t,T t∧K.mul a s=K.mul b t)∧(∀t,T t→∃s,S s∧K.mul a s=K.mul b t)
def Dom (K:CR A):Prop:=K.one≠K.zero∧∀a b,a≠K.zero→b≠K.zero→K.mul a b≠K.zero
theorem Eqv.refl (D:Dom K) (S:A→Prop):Eqv K S S:=⟨K.one,K.one,D.1,D.1,fun s h=>⟨s,h,rfl⟩,fun s h=>⟨s,h,rfl⟩⟩
theorem Eqv.symm {S T:A→Prop} (h:Eqv K S T):Eqv K T S:=by
 obtain⟨a,b,ha,hb,h1,h2⟩:=h;exact⟨b,a,hb,ha,fun t ht=>by obtain⟨s,hs,e⟩:=h2 t ht; exact⟨s,hs,e.symm⟩,fun s hs=>by obtain⟨t,ht,e⟩:=h1 s hs; exact⟨t,ht,e.symm⟩⟩
theorem Eqv.trans (D:Dom K) {S T U:A→Prop} (h:Eqv K S T) (g:Eqv K T U):Eqv K S U:=by
 obtain⟨a,b,ha,hb,h1,h2⟩:=h;obtain⟨c,d,hc,hd,g1,g2⟩:=g;have key:∀s t u,K.mul a s=K.mul b t→K.mul c t=K.mul d u→K.mul (K.mul c a) s=K.mul (K.mul b d) u:=fun s t u e f=>by
  rw[K.mul_assoc,e,K.mul_left_comm,f,K.mul_assoc]
 refine⟨K.mul c a,K.mul b d,D.2 _ _ hc ha,D.2 _ _ hb hd,fun s hs => ?_,fun u hu => ?_⟩
 ·obtain⟨t,ht,e⟩:=h1 s hs;obtain⟨u,hu,f⟩:=g1 t ht;exact⟨u,hu,key s t u e f⟩
 ·obtain⟨t,ht,f⟩:=g2 u hu;obtain⟨s,hs,e⟩:=h2 t ht;exact⟨s,hs,key s t u e f⟩
variable {X Y:A}
theorem DZ {x y al be s s2 t t2:A} (e:K.mul al s=K.mul be t) (f:K.mul al s2=K.mul be t2):K.mul al (K.add (K.mul (K.sub X x) s) (K.mul (K.sub Y y) s2))=K.mul be (K.add (K.mul (K.sub X x) t) (K.mul (K.sub Y y) t2)) :=
 mV (K:=K) (c1:=(K.sub X x)) (c2:=(K.sub Y y)) e f (aY K (cI K [al,X,x,s,Y,y,s2,be,t,t2]) (Z0*((Z1-Z2)*Z3+(Z4-Z5)*Z6)-Z7*((Z1-Z2)*Z8+(Z4-Z5)*Z9)) ((Z1-Z2)*(Z0*Z3-Z7*Z8)+(Z4-Z5)*(Z0*Z6-Z7*Z9)) (by kernel_rfl))
theorem Eqv.op {S T:A→Prop} (x y:A) (h:Eqv K S T):Eqv K (op K X Y x y S) (op K X Y x y T):=by
 obtain⟨a,b,ha,hb,h1,h2⟩:=h;refine⟨a,b,ha,hb,?_,?_⟩
 ·rintro z ⟨s,s2,hs,hs2,rfl⟩
  obtain⟨t,ht,e⟩:=h1 s hs;obtain⟨t2,ht2,f⟩:=h1 s2 hs2;exact⟨_,⟨t,t2,ht,ht2,rfl⟩,DZ e f⟩
 ·rintro z ⟨t,t2,ht,ht2,rfl⟩
  obtain⟨s,hs,e⟩:=h2 t ht;obtain⟨s2,hs2,f⟩:=h2 t2 ht2;exact⟨_,⟨s,s2,hs,hs2,rfl⟩,DZ e f⟩
theorem DY {S:A→Prop} (x y x' y':A) {z:A} (h:op K X Y x y (op K X Y x' y' S) z):op K X Y x' y' (op K X Y x y S) z:=by
 obtain⟨_,_,⟨a,bb,ha,hb,rfl⟩,⟨c,d,hc,hd,rfl⟩,rfl⟩:=h;exact⟨_,_,⟨a,c,ha,hc,rfl⟩,⟨bb,d,hb,hd,rfl⟩,aY K (cI K [X,x,x',a,Y,y',bb,y,c,d]) ((Z0-Z1)*((Z0-Z2)*Z3+(Z4-Z5)*Z6)+(Z4-Z7)*((Z0-Z2)*Z8+(Z4-Z5)*Z9)) ((Z0-Z2)*((Z0-Z1)*Z3+(Z4-Z7)*Z8)+(Z4-Z5)*((Z0-Z1)*Z6+(Z4-Z7)*Z9)) (by kernel_rfl)⟩
theorem Hc {S:A→Prop} (x y x' y':A):op K X Y x y (op K X Y x' y' S)=op K X Y x' y' (op K X Y x y S) :=
 funext fun z=>propext ⟨DY x y x' y',DY x' y' x y⟩
theorem XG {S:A→Prop} (h:Idl K S) (x y:A):Idl K (op K X Y x y S) where
 add:=by
  rintro _ _ ⟨a,b,ha,hb,rfl⟩ ⟨c,d,hc,hd,rfl⟩
  exact⟨_,_,h.add a c ha hc,h.add b d hb hd,aY K (cI K [X,x,a,Y,y,b,c,d]) ((Z0-Z1)*Z2+(Z3-Z4)*Z5+((Z0-Z1)*Z6+(Z3-Z4)*Z7)) ((Z0-Z1)*(Z2+Z6)+(Z3-Z4)*(Z5+Z7)) (by kernel_rfl)⟩
 mul:=by
  rintro _ c ⟨a,b,ha,hb,rfl⟩
  exact⟨_,_,h.mul a c ha,h.mul b c hb,aY K (cI K [c,X,x,a,Y,y,b]) (Z0*((Z1-Z2)*Z3+(Z4-Z5)*Z6)) ((Z1-Z2)*(Z0*Z3)+(Z4-Z5)*(Z0*Z6)) (by kernel_rfl)⟩
theorem Sh {b x y k:A} (hY:K.mul Y Y=K.add (K.mul X (K.mul X X)) b) (hy:K.mul y y=K.add (K.mul x (K.mul x x)) b) (hk:K.mul k (K.add y y)=K.one) (D:Dom K) (hX:K.sub X x≠K.zero) {S:A→Prop} (h:Idl K S):Eqv K (op K X Y x y (op K X Y x (K.neg y) S)) S:=by
 refine⟨K.one,K.sub X x,D.1,hX,?_,?_⟩
 ·rintro _ ⟨_,_,⟨a,bb,ha,hb,rfl⟩,⟨c,d,hc,hd,rfl⟩,rfl⟩
  refine⟨(K.add (K.add (K.add (K.mul (K.sub X x) a) (K.mul (K.sub Y (K.neg y)) bb)) (K.mul (K.sub Y y) c)) (K.mul (K.add (K.add (K.mul X X) (K.mul x X)) (K.mul x x)) d)),h.add _ _ (h.add _ _ (h.add _ _ (h.mul _ _ ha) (h.mul _ _ hb)) (h.mul _ _ hc)) (h.mul _ _ hd),?_⟩;rw[K.one_mul];exact mV (K:=K) (c1:=d) (c2:=(K.neg d)) hY hy (aY K (cI K [X,x,a,Y,y,bb,c,d,b]) ((Z0-Z1)*((Z0-Z1)*Z2+(Z3-(-Z4))*Z5)+(Z3-Z4)*((Z0-Z1)*Z6+(Z3-(-Z4))*Z7)-(Z0-Z1)*((Z0-Z1)*Z2+(Z3-(-Z4))*Z5+(Z3-Z4)*Z6+(Z0*Z0+Z1*Z0+Z1*Z1)*Z7)) (Z7*(Z3*Z3-(Z0*(Z0*Z0)+Z8))+(-Z7)*(Z4*Z4-(Z1*(Z1*Z1)+Z8))) (by kernel_rfl))
 ·intro t ht;refine⟨_,⟨_,_,⟨_,_,h.mul t K.zero ht,h.mul t k ht,rfl⟩,⟨_,_,h.mul t (K.neg k) ht,h.mul t K.zero ht,rfl⟩,rfl⟩,?_⟩;rw[K.one_mul];exact iM (K:=K) (c1:=(K.mul (K.sub X x) t)) hk (aY K (cI K [X,x,t,Y,y,k]) ((Z0-Z1)*((Z0-Z1)*(RE.zero*Z2)+(Z3-(-Z4))*(Z5*Z2))+(Z3-Z4)*((Z0-Z1)*((-Z5)*Z2)+(Z3-(-Z4))*(RE.zero*Z2))-(Z0-Z1)*Z2) ((Z0-Z1)*Z2*(Z5*(Z4+Z4)-RE.one)) (by kernel_rfl))
theorem QT {b x1 y1 x2 l:A} (hY:K.mul Y Y=K.add (K.mul X (K.mul X X)) b) (H2:(K.mul l (K.add y1 (K.add y1 (K.mul l (K.sub x2 x1)))))=(K.add (K.add (K.mul x1 x1) (K.mul x1 x2)) (K.mul x2 x2))) (H3:(K.mul y1 y1)=(K.add (K.mul x1 (K.mul x1 x1)) b)):(K.mul (K.sub X x1) (K.mul (K.sub X x2) (K.sub X (K.sub (K.sub (K.mul l l) x1) x2))))=(K.mul (K.sub (K.sub Y y1) (K.mul l (K.sub X x1))) (K.add (K.sub Y (K.sub (K.mul l (K.sub x1 (K.sub (K.sub (K.mul l l) x1) x2))) y1)) (K.mul l (K.sub X (K.sub (K.sub (K.mul l l) x1) x2))))) :=
 tH (K:=K) (c1:=(K.neg K.one)) (c2:=K.one) (c3:=(K.sub X x1)) hY H3 H2 (aY K (cI K [X,x1,x2,l,Y,y1,b]) ((Z0-Z1)*((Z0-Z2)*(Z0-(Z3*Z3-Z1-Z2)))-(Z4-Z5-Z3*(Z0-Z1))*(Z4-(Z3*(Z1-(Z3*Z3-Z1-Z2))-Z5)+Z3*(Z0-(Z3*Z3-Z1-Z2)))) ((-RE.one)*(Z4*Z4-(Z0*(Z0*Z0)+Z6))+RE.one*(Z5*Z5-(Z1*(Z1*Z1)+Z6))+(Z0-Z1)*(Z3*(Z5+(Z5+Z3*(Z2-Z1)))-(Z1*Z1+Z1*Z2+Z2*Z2))) (by kernel_rfl))
theorem Sg {b x1 y1 x2 l:A} (hY:K.mul Y Y=K.add (K.mul X (K.mul X X)) b) (H2:(K.mul l (K.add y1 (K.add y1 (K.mul l (K.sub x2 x1)))))=(K.add (K.add (K.mul x1 x1) (K.mul x1 x2)) (K.mul x2 x2))) (H3:(K.mul y1 y1)=(K.add (K.mul x1 (K.mul x1 x1)) b)) (hk:(∃k,K.mul k (K.add y1 (K.add y1 (K.mul l (K.sub x2 x1))))=K.one)∨(∃k,K.mul k (K.sub x2 x1)=K.one)) (hX:K.sub X (K.sub (K.sub (K.mul l l) x1) x2)≠K.zero) (hl:(K.sub (K.sub Y y1) (K.mul l (K.sub X x1)))≠K.zero) {S:A→Prop} (h:Idl K S):Eqv K (op K X Y x1 y1 (op K X Y x2 (K.add y1 (K.mul l (K.sub x2 x1))) S)) (op K X Y (K.sub (K.sub (K.mul l l) x1) x2) (K.sub (K.mul l (K.sub x1 (K.sub (K.sub (K.mul l l) x1) x2))) y1) S):=by
 have HC:=QT (X:=X) (Y:=Y) hY H2 H3;refine⟨K.sub X (K.sub (K.sub (K.mul l l) x1) x2),(K.sub (K.sub Y y1) (K.mul l (K.sub X x1))),hX,hl,?_,?_⟩
 ·rintro _ ⟨_,_,⟨a,bb,ha,hb,rfl⟩,⟨c,d,hc,hd,rfl⟩,rfl⟩
  exact⟨_,⟨(K.add (K.add (K.add (K.mul l a) (K.mul (K.add (K.sub X x1) (K.mul l l)) bb)) (K.mul (K.add (K.sub X x2) (K.mul l l)) c)) (K.mul (K.add (K.add (K.add (K.sub (K.sub Y y1) (K.mul l (K.sub X x1))) (K.mul l (K.sub X x1))) (K.mul l (K.sub X x2))) (K.mul l (K.mul l l))) d)),(K.add (K.add (K.add a (K.mul l bb)) (K.mul l c)) (K.mul (K.mul l l) d)),h.add _ _ (h.add _ _ (h.add _ _ (h.mul _ _ ha) (h.mul _ _ hb)) (h.mul _ _ hc)) (h.mul _ _ hd),h.add _ _ (h.add _ _ (h.add _ _ ha (h.mul _ _ hb)) (h.mul _ _ hc)) (h.mul _ _ hd),rfl⟩,iM (K:=K) (c1:=(K.add (K.add (K.add a (K.mul l bb)) (K.mul l c)) (K.mul (K.mul l l) d))) HC (aY K (cI K [X,l,x1,x2,a,Y,y1,bb,c,d]) ((Z0-(Z1*Z1-Z2-Z3))*((Z0-Z2)*((Z0-Z3)*Z4+(Z5-(Z6+Z1*(Z3-Z2)))*Z7)+(Z5-Z6)*((Z0-Z3)*Z8+(Z5-(Z6+Z1*(Z3-Z2)))*Z9))-(Z5-Z6-Z1*(Z0-Z2))*((Z0-(Z1*Z1-Z2-Z3))*(Z1*Z4+(Z0-Z2+Z1*Z1)*Z7+(Z0-Z3+Z1*Z1)*Z8+(Z5-Z6-Z1*(Z0-Z2)+Z1*(Z0-Z2)+Z1*(Z0-Z3)+Z1*(Z1*Z1))*Z9)+(Z5-(Z1*(Z2-(Z1*Z1-Z2-Z3))-Z6))*(Z4+Z1*Z7+Z1*Z8+Z1*Z1*Z9))) ((Z4+Z1*Z7+Z1*Z8+Z1*Z1*Z9)*((Z0-Z2)*((Z0-Z3)*(Z0-(Z1*Z1-Z2-Z3)))-(Z5-Z6-Z1*(Z0-Z2))*(Z5-(Z1*(Z2-(Z1*Z1-Z2-Z3))-Z6)+Z1*(Z0-(Z1*Z1-Z2-Z3))))) (by kernel_rfl))⟩
 ·rintro _ ⟨u,w,hu,hw,rfl⟩
  have hg:S (K.sub u (K.mul l w)):=h.sub hu (h.mul _ _ hw);have e0:K.mul (K.sub (K.sub Y y1) (K.mul l (K.sub X x1))) (K.add (K.mul (K.sub X (K.sub (K.sub (K.mul l l) x1) x2)) u) (K.mul (K.sub Y (K.sub (K.mul l (K.sub x1 (K.sub (K.sub (K.mul l l) x1) x2))) y1)) w))=K.mul (K.sub X (K.sub (K.sub (K.mul l l) x1) x2)) (K.add (K.mul (K.sub (K.sub Y y1) (K.mul l (K.sub X x1))) (K.sub u (K.mul l w))) (K.mul (K.sub X x1) (K.mul (K.sub X x2) w))) :=
   iM (K:=K) (c1:=(K.neg w)) HC (aY K (cI K [Y,y1,l,X,x1,x2,u,w]) ((Z0-Z1-Z2*(Z3-Z4))*((Z3-(Z2*Z2-Z4-Z5))*Z6+(Z0-(Z2*(Z4-(Z2*Z2-Z4-Z5))-Z1))*Z7)-(Z3-(Z2*Z2-Z4-Z5))*((Z0-Z1-Z2*(Z3-Z4))*(Z6-Z2*Z7)+(Z3-Z4)*((Z3-Z5)*Z7))) ((-Z7)*((Z3-Z4)*((Z3-Z5)*(Z3-(Z2*Z2-Z4-Z5)))-(Z0-Z1-Z2*(Z3-Z4))*(Z0-(Z2*(Z4-(Z2*Z2-Z4-Z5))-Z1)+Z2*(Z3-(Z2*Z2-Z4-Z5))))) (by kernel_rfl))
  generalize hge:(K.sub u (K.mul l w))=g at hg e0;rw[e0]
  rcases hk with⟨k,hk⟩|⟨k,hk⟩
  ·refine⟨_,⟨_,_,⟨_,_,h.add _ _ (h.mul g (K.mul k (K.add (K.add X x1) x2)) hg) hw,h.mul g K.zero hg,rfl⟩,⟨_,_,h.mul g K.zero hg,h.mul g (K.neg k) hg,rfl⟩,rfl⟩,congrArg (K.mul _) ?_⟩;exact Oj (K:=K) (c1:=(K.mul (K.sub (K.sub Y y1) (K.mul l (K.sub X x1))) g)) (c2:=(K.neg (K.mul k g))) (c3:=(K.mul k g)) (c4:=(K.mul (K.mul k g) (K.sub X x1))) hk hY H3 H2 (aY K (cI K [X,x1,x2,k,g,w,Y,y1,l,b]) ((Z0-Z1)*((Z0-Z2)*(Z3*(Z0+Z1+Z2)*Z4+Z5)+(Z6-(Z7+Z8*(Z2-Z1)))*(RE.zero*Z4))+(Z6-Z7)*((Z0-Z2)*(RE.zero*Z4)+(Z6-(Z7+Z8*(Z2-Z1)))*((-Z3)*Z4))-((Z6-Z7-Z8*(Z0-Z1))*Z4+(Z0-Z1)*((Z0-Z2)*Z5))) ((Z6-Z7-Z8*(Z0-Z1))*Z4*(Z3*(Z7+(Z7+Z8*(Z2-Z1)))-RE.one)+(-(Z3*Z4))*(Z6*Z6-(Z0*(Z0*Z0)+Z9))+Z3*Z4*(Z7*Z7-(Z1*(Z1*Z1)+Z9))+Z3*Z4*(Z0-Z1)*(Z8*(Z7+(Z7+Z8*(Z2-Z1)))-(Z1*Z1+Z1*Z2+Z2*Z2))) (by kernel_rfl))
  ·refine⟨_,⟨_,_,⟨_,_,hw,h.mul g k hg,rfl⟩,⟨_,_,h.mul g (K.neg k) hg,h.mul g K.zero hg,rfl⟩,rfl⟩,congrArg (K.mul _) ?_⟩;exact iM (K:=K) (c1:=(K.mul (K.sub (K.sub Y y1) (K.mul l (K.sub X x1))) g)) hk (aY K (cI K [X,x1,x2,w,Y,y1,l,k,g]) ((Z0-Z1)*((Z0-Z2)*Z3+(Z4-(Z5+Z6*(Z2-Z1)))*(Z7*Z8))+(Z4-Z5)*((Z0-Z2)*((-Z7)*Z8)+(Z4-(Z5+Z6*(Z2-Z1)))*(RE.zero*Z8))-((Z4-Z5-Z6*(Z0-Z1))*Z8+(Z0-Z1)*((Z0-Z2)*Z3))) ((Z4-Z5-Z6*(Z0-Z1))*Z8*(Z7*(Z2-Z1)-RE.one)) (by kernel_rfl))
end
open Classical
section
variable {R:Type} {K:CR R} {inv:R→R}
def eQ (K:CR R) (b:R):CR (Pol K×Pol K):=(bH (K:=K)).sq (qP b)
def cX:Pol K×Pol K:=(pX,bH.zero)
def cY:Pol K×Pol K:=(bH.zero,bH.one)
def cc (k:R):Pol K×Pol K:=(iJ k,bH.zero)
variable (b:R)
theorem mY (x y:R):(cc (K.add x y):Pol K×Pol K)=(eQ K b).add (cc x) (cc y):=Prod.ext (NO x y) (bH.zero_add _).symm
theorem Bt (x:R):(cc (K.neg x):Pol K×Pol K)=(eQ K b).neg (cc x):=Prod.ext (Gv x) (dT bH).symm
theorem wG (x y:R):(cc (K.sub x y):Pol K×Pol K)=(eQ K b).sub (cc x) (cc y):=by
 show cc (K.add _ _)=(eQ K b).add _ _;rw[mY b,Bt b]
theorem lQ (x y:R):(cc (K.mul x y):Pol K×Pol K)=(eQ K b).mul (cc x) (cc y):=by
 refine Prod.ext ?_ ?_
 ·show iJ (K.mul x y)=bH.add (bH.mul (iJ x) (iJ y)) (bH.mul (qP b) (bH.mul bH.zero bH.zero));rw[bH.mul_zero,bH.mul_zero,bH.add_zero,tW]
 ·show bH.zero=bH.add (bH.mul (iJ x) bH.zero) (bH.mul bH.zero (iJ y));rw[bH.mul_zero,bH.zero_mul,bH.add_zero]
theorem Bs:(cc K.one:Pol K×Pol K)=(eQ K b).one:=rfl
theorem aDI:(eQ K b).mul cY cY=(eQ K b).add ((eQ K b).mul cX ((eQ K b).mul cX cX)) (cc b):=by
 refine Prod.ext ?_ ?_
 ·show bH.add (bH.mul bH.zero bH.zero) (bH.mul (qP b) (bH.mul bH.one bH.one))=bH.add (bH.add (bH.mul pX (bH.add (bH.mul pX pX) (bH.mul (qP b) (bH.mul bH.zero bH.zero)))) (bH.mul (qP b) (bH.mul bH.zero (bH.add (bH.mul pX bH.zero) (bH.mul bH.zero pX))))) (iJ b);simp only[bH.mul_zero,bH.zero_mul,bH.add_zero,bH.zero_add,bH.mul_one];rfl
 ·show bH.add (bH.mul bH.zero bH.one) (bH.mul bH.one bH.zero)=bH.add (bH.add (bH.mul pX (bH.add (bH.mul pX bH.zero) (bH.mul bH.zero pX))) (bH.mul bH.zero (bH.add (bH.mul pX pX) (bH.mul (qP b) (bH.mul bH.zero bH.zero))))) bH.zero;simp only[bH.mul_zero,bH.zero_mul,bH.add_zero,bH.zero_add,bH.mul_one]
def nrm (f:Pol K×Pol K):Pol K:=bH.sub (bH.mul f.1 f.1) (bH.mul (qP b) (bH.mul f.2 f.2))
theorem NV (f g:Pol K×Pol K):nrm b ((eQ K b).mul f g)=bH.mul (nrm b f) (nrm b g) :=
 aY bH (cI bH [f.1,g.1,qP b,f.2,g.2]) ((Z0*Z1+Z2*(Z3*Z4))*(Z0*Z1+Z2*(Z3*Z4))-Z2*((Z0*Z4+Z3*Z1)*(Z0*Z4+Z3*Z1))) ((Z0*Z0-Z2*(Z3*Z3))*(Z1*Z1-Z2*(Z4*Z4))) (by kernel_rfl)
theorem AJ (F:FD K inv) (f:Pol K×Pol K) (h:f≠(eQ K b).zero):∃d,dg (nrm b f) d∧d≠1:=by
 have hq:dg (qP b:Pol K) 3:=aCI F b
 by_cases h2:f.2=bH.zero
 ·have h1:f.1≠bH.zero:=fun e=>h (Prod.ext e h2)
  obtain⟨n,hn⟩:=OP _ h1;refine⟨n+n,?_,by omega⟩;unfold nrm;rw[h2,bH.mul_zero,bH.mul_zero];show dg (bH.add _ (bH.neg bH.zero)) _;rw[dT,bH.add_zero];exact jX F hn hn
 ·obtain⟨m,hm⟩:=OP _ h2;have hr:=jX F hq (jX F hm hm)
  by_cases h1:f.1=bH.zero
  ·refine⟨3+(m+m),?_,by omega⟩;unfold nrm;rw[h1,bH.mul_zero];show dg (bH.add _ _) _;rw[bH.zero_add];exact Bb hr
  ·obtain⟨n,hn⟩:=OP _ h1;have hl:=jX F hn hn;have hr':=Bb hr
   rcases Nat.lt_or_ge (n+n) (3+(m+m))with q|q
   ·refine⟨3+(m+m),?_,by omega⟩;show dg (bH.add _ _) _;rw[bH.add_comm];exact vX hr' fun i hi=>hl.2 i (by omega)
   ·refine⟨n+n,?_,by omega⟩;exact vX hl fun i hi=>hr'.2 i (by omega)
theorem lO (F:FD K inv):Dom (eQ K b):=by
 refine⟨fun e=>F.ne (congrArg (fun z:Pol K×Pol K=>z.1.1 0) e),fun f g hf hg e => ?_⟩;obtain⟨n,hn,_⟩:=AJ b F f hf;obtain⟨m,hm,_⟩:=AJ b F g hg;have h:=Bc (jX F hn hm);rw[←NV,e]at h;refine h ?_;show bH.sub (bH.mul bH.zero bH.zero) (bH.mul (qP b) (bH.mul bH.zero bH.zero))=_;rw[bH.mul_zero,bH.mul_zero];exact bH.add_neg _
theorem LC {A:Type} {C:CR A} (D:Dom C) {a s t:A} (ha:a≠C.zero) (e:C.mul a s=C.mul a t):s=t:=by
 apply iU (K:=C)
 by_cases h:C.add s (C.neg t)=C.zero
 ·exact h
 ·exact absurd (by rw[C.mul_add,C.mul_neg,e,C.add_neg]) (D.2 _ _ ha h)
def BZ {A:Type}:A→Prop:=fun _=>True
theorem kD {A:Type} (C:CR A):Idl C BZ:=⟨fun _ _ _ _=>trivial,fun _ _ _=>trivial⟩
theorem GB (f:Pol K×Pol K):(eQ K b).mul f (f.1,bH.neg f.2)=(nrm b f,bH.zero):=by
 refine Prod.ext ?_ ?_
 ·exact aY bH (cI bH [f.1,qP b,f.2]) (Z0*Z0+Z1*(Z2*(-Z2))) (Z0*Z0-Z1*(Z2*Z2)) (by kernel_rfl)
 ·exact aY bH (cI bH [f.1,f.2]) (Z0*(-Z1)+Z1*Z0) .zero (by kernel_rfl)
theorem WK {x y:R} (h:K.mul y y=K.add (K.mul x (K.mul x x)) b):(qP b:Pol K)=bH.add (bH.mul (iJ y) (iJ y)) (bH.mul (bH.sub pX (iJ x)) (bH.add (bH.mul pX pX) (bH.add (bH.mul (iJ x) pX) (bH.mul (iJ x) (iJ x))))):=by
 have e:bH.mul (iJ y) (iJ y)=bH.add (bH.mul (iJ x) (bH.mul (iJ x) (iJ x))) (iJ b:Pol K):=by
  rw[←tW,←tW,←tW,←NO,h]
 rw[e];exact aY bH (cI bH [pX,iJ b,iJ x]) (Z0*(Z0*Z0)+Z1) (Z2*(Z2*Z2)+Z1+(Z0-Z2)*(Z0*Z0+(Z2*Z0+Z2*Z2))) (by kernel_rfl)
theorem Zz (F:FD K inv) {x y:R} (h:K.mul y y=K.add (K.mul x (K.mul x x)) b):¬Eqv (eQ K b) (op (eQ K b) cX cY (cc x) (cc y) BZ) BZ:=by
 rintro⟨a,e,ha,he,h1,h2⟩
 have D:=lO (K:=K) b F;obtain⟨f,hf,e1⟩:=h2 (eQ K b).one trivial;rw[(eQ K b).mul_one]at e1;have hm:∀g,op (eQ K b) cX cY (cc x) (cc y) BZ g→∃t,g=(eQ K b).mul f t:=fun g hg=>by
  obtain⟨t,_,e2⟩:=h1 g hg;rw[←e1,(eQ K b).mul_assoc]at e2;exact⟨t,LC D ha e2⟩
 have sz:∀z:Pol K×Pol K,(eQ K b).sub z (eQ K b).zero=z:=fun z=>by
  show (eQ K b).add z ((eQ K b).neg _)=z;rw[dT,(eQ K b).add_zero]
 obtain⟨t,ht⟩:=hm ((eQ K b).sub cX (cc x)) ⟨(eQ K b).one,(eQ K b).zero,trivial,trivial,by rw[(eQ K b).mul_one,(eQ K b).mul_zero,(eQ K b).add_zero]⟩;obtain⟨t',ht'⟩:=hm ((eQ K b).sub cY (cc y)) ⟨(eQ K b).zero,(eQ K b).one,trivial,trivial,by rw[(eQ K b).mul_one,(eQ K b).mul_zero,(eQ K b).zero_add]⟩;have hX:(eQ K b).sub cX (cc x)=(bH.sub pX (iJ x),bH.zero):=Prod.ext rfl (by show bH.add bH.zero (bH.neg bH.zero)=_; rw[dT,bH.add_zero]);have hXn:(eQ K b).sub cX (cc x)≠(eQ K b).zero:=fun q=>Bc (vW (K:=K) F x) (congrArg Prod.fst q)
 have hf0:f≠(eQ K b).zero:=fun q=>hXn (by rw[ht,q,(eQ K b).zero_mul])
 have ht0:t≠(eQ K b).zero:=fun q=>hXn (by rw[ht,q,(eQ K b).mul_zero])
 obtain⟨n,hn,n1⟩:=AJ b F f hf0;obtain⟨m,hm',m1⟩:=AJ b F t ht0;have hnm:n+m=2:=by
  have e3:=jX F hn hm';rw[←NV,←ht,hX]at e3;have e4:nrm b (bH.sub pX (iJ x),bH.zero)=bH.mul (bH.sub pX (iJ x)) (bH.sub (pX:Pol K) (iJ x)):=by
   show bH.add (bH.mul _ _) (bH.neg (bH.mul _ (bH.mul bH.zero bH.zero)))=_;rw[bH.mul_zero,bH.mul_zero,dT,bH.add_zero]
  rw[e4]at e3;exact Vh e3 (jX F (vW F x) (vW F x))
 have hc:∀p:Pol K,dg p 0→p=iJ (p.1 0):=fun p hp=>Pol.ext fun i=>by
  cases i with
  | zero=>rfl
  | succ i=>exact hp.2 _ (by omega)
 have h02:n=0∨m=0:=by omega
 rcases h02 with q0|q0
 ·subst q0;obtain⟨s,r,_,_,e5⟩:=(XG (kD (eQ K b)) (cc x) (cc y)).mul f (f.1,bH.neg f.2) hf;rw[(eQ K b).mul_comm,GB,hX]at e5;have c1:nrm b f=bH.add (bH.add (bH.mul (bH.sub pX (iJ x)) s.1) (bH.mul (qP b) (bH.mul bH.zero s.2))) (bH.add (bH.mul (bH.add bH.zero (bH.neg (iJ y))) r.1) (bH.mul (qP b) (bH.mul (bH.add bH.one (bH.neg bH.zero)) r.2))):=congrArg Prod.fst e5;have c2:bH.zero=bH.add (bH.add (bH.mul (bH.sub pX (iJ x)) s.2) (bH.mul bH.zero s.1)) (bH.add (bH.mul (bH.add bH.zero (bH.neg (iJ y))) r.2) (bH.mul (bH.add bH.one (bH.neg bH.zero)) r.1)):=congrArg Prod.snd e5;have hs:=WK b h;refine hn.1 (xX F (c:=x) (h:=(bH.add s.1 (bH.add (bH.mul (bH.add (bH.mul pX pX) (bH.add (bH.mul (iJ x) pX) (bH.mul (iJ x) (iJ x)))) r.2) (bH.mul (iJ y) s.2)))) ?_);rw[←hc _ hn,c1];refine Eq.symm ?_;exact mV (K:=bH) (c1:=(iJ y)) (c2:=r.2) c2 hs (aY bH (cI bH [pX,iJ x,s.1,qP b,s.2,iJ y,r.1,r.2]) ((Z0-Z1)*Z2+Z3*(RE.zero*Z4)+((RE.zero-Z5)*Z6+Z3*((RE.one-RE.zero)*Z7))-(Z0-Z1)*(Z2+((Z0*Z0+(Z1*Z0+Z1*Z1))*Z7+Z5*Z4))) (Z5*(RE.zero-((Z0-Z1)*Z4+RE.zero*Z2+((RE.zero-Z5)*Z7+(RE.one-RE.zero)*Z6)))+Z7*(Z3-(Z5*Z5+(Z0-Z1)*(Z0*Z0+(Z1*Z0+Z1*Z1))))) (by kernel_rfl))
 ·subst q0;have e6:(eQ K b).mul ((eQ K b).sub cX (cc x)) ((eQ K b).mul t' (t.1,bH.neg t.2))=(eQ K b).mul ((eQ K b).sub cY (cc y)) (nrm b t,bH.zero):=by
   rw[←GB,ht,ht'];generalize ((t.1,bH.neg t.2):Pol K×Pol K)=w;exact aY (eQ K b) (cI (eQ K b) [f,t,t',w]) (Z0*Z1*(Z2*Z3)) (Z0*Z2*(Z1*Z3)) (by kernel_rfl)
  rw[hX]at e6;generalize (eQ K b).mul t' (t.1,bH.neg t.2)=w at e6;have c2:bH.add (bH.mul (bH.sub pX (iJ x)) w.2) (bH.mul bH.zero w.1)=bH.add (bH.mul (bH.add bH.zero (bH.neg (iJ y))) bH.zero) (bH.mul (bH.add bH.one (bH.neg bH.zero)) (nrm b t)):=congrArg Prod.snd e6;rw[bH.zero_mul,bH.add_zero,bH.mul_zero,bH.zero_add,dT,bH.add_zero,bH.one_mul,hc _ hm']at c2;exact hm'.1 (xX F c2)
end
structure EC {R:Type} (K:CR R) (inv:R→R) (b:R):Prop where
 F:FD K inv
 two:K.add K.one K.one≠K.zero
 odd:∀x,K.add (K.mul x (K.mul x x)) b≠K.zero
section
variable {R:Type} (K:CR R) (inv:R→R) (b:R)
abbrev Pt (R:Type):=Option (R×R)
def On:Pt R→Prop
 | none=>True
 | some p=>K.mul p.2 p.2=K.add (K.mul p.1 (K.mul p.1 p.1)) b
def Nj:Pt R→Pt R
 | none=>none
 | some p=>some (p.1,K.neg p.2)
def pS (x1 y1 x2 y2:R):R :=
 if x1=x2 then K.mul (K.add (K.add (K.mul x1 x1) (K.mul x1 x1)) (K.mul x1 x1)) (inv (K.add y1 y2))else K.mul (K.sub y2 y1) (inv (K.sub x2 x1))
def sx (l x1 x2:R):R:=K.sub (K.sub (K.mul l l) x1) x2
def sy (l x1 y1 x2:R):R:=K.sub (K.mul l (K.sub x1 (sx K l x1 x2))) y1
def GT:Pt R→Pt R→Pt R
 | none,q=>q
 | some p,none=>some p
 | some p,some q =>
  if p.1=q.1∧K.add p.2 q.2=K.zero then none
  else some (sx K (pS K inv p.1 p.2 q.1 q.2) p.1 q.1,sy K (pS K inv p.1 p.2 q.1 q.2) p.1 p.2 q.1)
variable {K} {inv} {b}
theorem NH {p q:R×R} (h:p.1=q.1∧K.add p.2 q.2=K.zero):GT K inv (some p) (some q)=none:=if_pos h
theorem tV {p q:R×R} (h:¬(p.1=q.1∧K.add p.2 q.2=K.zero)):GT K inv (some p) (some q)=some (sx K (pS K inv p.1 p.2 q.1 q.2) p.1 q.1,sy K (pS K inv p.1 p.2 q.1 q.2) p.1 p.2 q.1):=if_neg h
theorem sT {x y:R} (h:K.sub x y=K.zero):x=y:=iU h
theorem Qb {x y:R} (h:x≠y):K.sub x y≠K.zero:=fun e=>h (sT e)
theorem EC.dbl_ne (E:EC K inv b) {y:R} (h:y≠K.zero):K.add y y≠K.zero:=fun e=>by
 refine E.F.mul_ne E.two h ?_;rw[K.add_mul,K.one_mul,e]
theorem EC.y_ne (E:EC K inv b) {x y:R} (h:K.mul y y=K.add (K.mul x (K.mul x x)) b):y≠K.zero:=fun e=>by
 rw[e,K.mul_zero]at h;exact E.odd x h.symm
structure Slope (K:CR R) (x1 y1 x2 y2 l:R):Prop where
 h1:y2=K.add y1 (K.mul l (K.sub x2 x1))
 h2:K.mul l (K.add y1 y2)=K.add (K.add (K.mul x1 x1) (K.mul x1 x2)) (K.mul x2 x2)
 hk:(∃k,K.mul k (K.add y1 y2)=K.one)∨(∃k,K.mul k (K.sub x2 x1)=K.one)
theorem CM (E:EC K inv b) {x1 y1 x2 y2:R} (hp:K.mul y1 y1=K.add (K.mul x1 (K.mul x1 x1)) b) (hq:K.mul y2 y2=K.add (K.mul x2 (K.mul x2 x2)) b) (hn:¬(x1=x2∧K.add y1 y2=K.zero)):Slope K x1 y1 x2 y2 (pS K inv x1 y1 x2 y2):=by
 unfold pS
 by_cases hx:x1=x2
 ·subst hx;rw[if_pos rfl];have hy:K.add y1 y2≠K.zero:=fun e=>hn ⟨rfl,e⟩
  have hi:=E.F.inv _ hy;have e:y1=y2:=by
   refine sT (K:=K) (E.F.zd (a:=K.add y1 y2) ?_ hy);have e0:K.mul (K.add y1 y2) (K.sub y1 y2)=K.sub (K.mul y1 y1) (K.mul y2 y2):=aY K (cI K [y1,y2]) ((Z0+Z1)*(Z0-Z1)) (Z0*Z0-Z1*Z1) (by kernel_rfl);rw[e0,hp,hq];exact K.add_neg _
  subst e;generalize inv (K.add y1 y1)=k at hi;refine⟨aY K (cI K [y1,x1,k]) (.v 0) (Z0+(Z1*Z1+Z1*Z1+Z1*Z1)*Z2*(Z1-Z1)) (by kernel_rfl),iM (K:=K) (c1:=(K.add (K.add (K.mul x1 x1) (K.mul x1 x1)) (K.mul x1 x1))) hi (aY K (cI K [x1,k,y1]) ((Z0*Z0+Z0*Z0+Z0*Z0)*Z1*(Z2+Z2)-(Z0*Z0+Z0*Z0+Z0*Z0)) ((Z0*Z0+Z0*Z0+Z0*Z0)*((Z2+Z2)*Z1-RE.one)) (by kernel_rfl)),Or.inl ⟨k,by rw[K.mul_comm,hi]⟩⟩
 ·rw[if_neg hx];have hd:K.sub x2 x1≠K.zero:=Qb fun e=>hx e.symm
  have hi:=E.F.inv _ hd;generalize inv (K.sub x2 x1)=k at hi;refine⟨iM (K:=K) (c1:=(K.neg (K.sub y2 y1))) hi (aY K (cI K [y2,y1,k,x2,x1]) (Z0-(Z1+(Z0-Z1)*Z2*(Z3-Z4))) ((-(Z0-Z1))*((Z3-Z4)*Z2-RE.one)) (by kernel_rfl)),?_,Or.inr ⟨k,by rw[K.mul_comm,hi]⟩⟩;refine E.F.cancel hd ?_;exact tH (K:=K) (c1:=(K.mul (K.sub y2 y1) (K.add y1 y2))) (c2:=(K.neg K.one)) (c3:=K.one) hi hp hq (aY K (cI K [x2,x1,y2,y1,k,b]) ((Z0-Z1)*((Z2-Z3)*Z4*(Z3+Z2))-(Z0-Z1)*(Z1*Z1+Z1*Z0+Z0*Z0)) ((Z2-Z3)*(Z3+Z2)*((Z0-Z1)*Z4-RE.one)+(-RE.one)*(Z3*Z3-(Z1*(Z1*Z1)+Z5))+RE.one*(Z2*Z2-(Z0*(Z0*Z0)+Z5))) (by kernel_rfl))
theorem On.sum {x1 y1 x2 y2 l:R} (hp:K.mul y1 y1=K.add (K.mul x1 (K.mul x1 x1)) b) (h:Slope K x1 y1 x2 y2 l):On K b (some (sx K l x1 x2,sy K l x1 y1 x2)):=by
 obtain⟨h1,h2,_⟩:=h;subst h1;show K.mul (K.sub (K.mul l (K.sub x1 (K.sub (K.sub (K.mul l l) x1) x2))) y1) (K.sub (K.mul l (K.sub x1 (K.sub (K.sub (K.mul l l) x1) x2))) y1)=K.add (K.mul (K.sub (K.sub (K.mul l l) x1) x2) (K.mul (K.sub (K.sub (K.mul l l) x1) x2) (K.sub (K.sub (K.mul l l) x1) x2))) b;exact mV (K:=K) (c1:=K.one) (c2:=(K.sub (K.sub (K.sub (K.mul l l) x1) x2) x1)) hp h2 (aY K (cI K [l,x1,x2,y1,b]) ((Z0*(Z1-(Z0*Z0-Z1-Z2))-Z3)*(Z0*(Z1-(Z0*Z0-Z1-Z2))-Z3)-((Z0*Z0-Z1-Z2)*((Z0*Z0-Z1-Z2)*(Z0*Z0-Z1-Z2))+Z4)) (RE.one*(Z3*Z3-(Z1*(Z1*Z1)+Z4))+(Z0*Z0-Z1-Z2-Z1)*(Z0*(Z3+(Z3+Z0*(Z2-Z1)))-(Z1*Z1+Z1*Z2+Z2*Z2))) (by kernel_rfl))
theorem On.neg:∀{p:Pt R},On K b p→On K b (Nj K p)
 | none,_=>trivial
 | some p,h=>by
  show K.mul (K.neg p.2) (K.neg p.2)=_;rw[K.neg_mul,K.mul_neg,K.neg_neg];exact h
theorem On.add (E:EC K inv b):∀{p q:Pt R},On K b p→On K b q→On K b (GT K inv p q)
 | none,_,_,h=>h
 | some _,none,h,_=>h
 | some p,some q,hp,hq=>by
  by_cases hn:p.1=q.1∧K.add p.2 q.2=K.zero
  ·rw[NH hn]; trivial
  ·rw[tV hn];exact On.sum hp (CM E hp hq hn)
def QM (K:CR R) (b:R) (p:Pt R) (S:Pol K×Pol K→Prop):Pol K×Pol K→Prop :=
 match p with
 | none=>S
 | some p=>op (eQ K b) cX cY (cc p.1) (cc p.2) S
theorem XH (p q:Pt R) (S:Pol K×Pol K→Prop):QM K b p (QM K b q S)=QM K b q (QM K b p S):=by
 cases p with
 | none=>rfl
 | some p=>cases q with
  | none=>rfl
  | some q=>exact Hc _ _ _ _
theorem Hd {S:Pol K×Pol K→Prop} (h:Idl (eQ K b) S) (p:Pt R):Idl (eQ K b) (QM K b p S):=by
 cases p with
 | none=>exact h
 | some p=>exact XG h _ _
theorem NU {S T:Pol K×Pol K→Prop} (h:Eqv (eQ K b) S T) (p:Pt R):Eqv (eQ K b) (QM K b p S) (QM K b p T):=by
 cases p with
 | none=>exact h
 | some p=>exact h.op _ _
theorem aEs (F:FD K inv) (c:R):(eQ K b).sub cX (cc c)≠(eQ K b).zero:=fun q=>Bc (vW (K:=K) F c) (congrArg Prod.fst q)
theorem Uy (F:FD K inv) (x1 y1 l:R):(eQ K b).sub ((eQ K b).sub cY (cc y1)) ((eQ K b).mul (cc l) ((eQ K b).sub cX (cc x1)))≠(eQ K b).zero:=fun q=>by
 have e:K.add (K.add K.one (K.neg K.zero)) (K.neg (K.add (K.mul l (K.add K.zero (K.neg K.zero))) (K.mul K.zero (K.add K.zero (K.neg x1)))))=K.zero:=congrArg (fun z:Pol K×Pol K=>z.2.1 0) q;rw[dT,K.add_zero,K.add_zero,K.mul_zero,K.zero_mul,K.add_zero,dT,K.add_zero]at e;exact F.ne e
theorem jS (E:EC K inv b) {S:Pol K×Pol K→Prop} (hS:Idl (eQ K b) S):∀{p q:Pt R},On K b p→On K b q→Eqv (eQ K b) (QM K b p (QM K b q S)) (QM K b (GT K inv p q) S)
 | none,_,_,_=>Eqv.refl (lO b E.F) _
 | some _,none,_,_=>Eqv.refl (lO b E.F) _
 | some ⟨x1,y1⟩,some ⟨x2,y2⟩,hp,hq=>by
  by_cases hn:x1=x2∧K.add y1 y2=K.zero
  ·rw[NH hn];obtain⟨rfl,hy⟩:=hn;have e:y2=K.neg y1:=by
    apply K.add_cancel (a:=y1);rw[hy,K.add_neg]
   subst e;show Eqv (eQ K b) (op (eQ K b) cX cY (cc x1) (cc y1) (op (eQ K b) cX cY (cc x1) (cc (K.neg y1)) S)) S;have h0:=E.F.inv _ (E.dbl_ne (E.y_ne hp));rw[Bt b];refine Sh (b:=cc b) (k:=cc (inv (K.add y1 y1))) (aDI b) ?_ ?_ (lO b E.F) (aEs E.F x1) hS
   ·rw[←lQ,←lQ,←lQ,←mY];exact congrArg cc hp
   ·rw[←mY,←lQ,K.mul_comm,h0];rfl
  ·rw[tV hn];have h:=CM E hp hq hn;dsimp only at h ⊢;generalize pS K inv x1 y1 x2 y2=l at h;obtain⟨h1,h2,hk⟩:=h;subst h1;show Eqv (eQ K b) (op (eQ K b) cX cY (cc x1) (cc y1) (op (eQ K b) cX cY (cc x2) (cc (K.add y1 (K.mul l (K.sub x2 x1)))) S)) (op (eQ K b) cX cY (cc (sx K l x1 x2)) (cc (sy K l x1 y1 x2)) S);unfold sy sx;have hX:=aEs (K:=K) (b:=b) E.F (sx K l x1 x2);have hl:=Uy (K:=K) (b:=b) E.F x1 y1 l;unfold sx at hX;simp only[mY b,lQ b,wG b]at hX ⊢;refine Sg (b:=cc b) (aDI b) ?_ ?_ ?_ hX hl hS
   ·have:=congrArg (cc (K:=K)) h2;simpa only[mY b,lQ b,wG b]using this
   ·have:=congrArg (cc (K:=K)) hp;simpa only[mY b,lQ b,wG b]using this
   ·rcases hk with⟨k,hk⟩|⟨k,hk⟩
    ·refine Or.inl ⟨cc k,?_⟩;have:=congrArg (cc (K:=K)) hk;simpa only[mY b,lQ b,wG b,Bs b]using this
    ·refine Or.inr ⟨cc k,?_⟩;have:=congrArg (cc (K:=K)) hk;simpa only[mY b,lQ b,wG b,Bs b]using this
theorem NI (p:Pt R):GT K inv (Nj K p) p=none:=by
 cases p with
 | none=>rfl
 | some p=>exact if_pos ⟨rfl,K.neg_add _⟩
theorem WL {p q:Pt R} (h:GT K inv (Nj K p) q=none):q=p:=by
 cases p with
 | none=>exact h
 | some p=>cases q with
  | none=>cases h
  | some q =>
   by_cases hh:p.1=q.1∧K.add (K.neg p.2) q.2=K.zero
   ·obtain⟨h1,h2⟩:=hh;refine congrArg some (Prod.ext h1.symm ?_);apply K.add_cancel (a:=K.neg p.2);exact h2.trans (K.neg_add p.2).symm
   ·have e:GT K inv (Nj K (some p)) (some q)=some _:=tV (p:=(p.1,K.neg p.2)) (q:=q) hh;rw[e]at h;cases h
theorem Si (E:EC K inv b) {p:Pt R} (hp:On K b p) (h:Eqv (eQ K b) (QM K b p BZ) BZ):p=none:=by
 cases p with
 | none=>rfl
 | some p=>exact absurd h (Zz b E.F hp)
theorem NT (E:EC K inv b) {p q:Pt R} (hp:On K b p) (hq:On K b q) (h:Eqv (eQ K b) (QM K b p BZ) (QM K b q BZ)):p=q:=by
 have D:=lO (K:=K) b E.F;have h1:=NU h (Nj K q);have a1:=jS E (kD (eQ K b)) hq.neg hp;have a2:=jS E (kD (eQ K b)) hq.neg hq;rw[NI]at a2;exact WL (Si E (hq.neg.add E hp) (a1.symm.trans D (h1.trans D a2)))
theorem WM (E:EC K inv b) {p q:Pt R} (hp:On K b p) (hq:On K b q):GT K inv p q=GT K inv q p:=by
 have D:=lO (K:=K) b E.F;refine NT E (hp.add E hq) (hq.add E hp) ?_;refine (jS E (kD (eQ K b)) hp hq).symm.trans D ?_;rw[XH];exact jS E (kD (eQ K b)) hq hp
theorem QE (E:EC K inv b) {p q r:Pt R} (hp:On K b p) (hq:On K b q) (hr:On K b r):GT K inv (GT K inv p q) r=GT K inv p (GT K inv q r):=by
 have D:=lO (K:=K) b E.F;have hu:=kD (eQ K b);refine NT E ((hp.add E hq).add E hr) (hp.add E (hq.add E hr)) ?_;refine (jS E hu (hp.add E hq) hr).symm.trans D ?_;refine (jS E (Hd hu r) hp hq).symm.trans D ?_;refine (NU (jS E hu hq hr) p).trans D ?_;exact jS E hu hp (hq.add E hr)
end
structure AG (G:Type) where
 add:G→G→G
 neg:G→G
 zero:G
 assoc:∀a b c,add (add a b) c=add a (add b c)
 comm:∀a b,add a b=add b a
 zadd:∀a,add zero a=a
 nadd:∀a,add (neg a) a=zero
def EC.grp {R:Type} {K:CR R} {inv:R→R} {b:R} (E:EC K inv b):AG {p:Pt R // On K b p} where
 add p q:=⟨GT K inv p.1 q.1,p.2.add E q.2⟩
 neg p:=⟨Nj K p.1,p.2.neg⟩
 zero:=⟨none,trivial⟩
 assoc p q r:=Subtype.ext (QE E p.2 q.2 r.2)
 comm p q:=Subtype.ext (WM E p.2 q.2)
 zadd p:=rfl
 nadd p:=Subtype.ext (NI p.1)
end Go.Proofs.YtpjlhhpjpnacmaaGreatDoor.Ex
