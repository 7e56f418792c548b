/- Pl07 -/
import Derived.Deep.RegionHeld3
import Derived.Deep.DeepCutAuto
import Derived.Deep.LoopGhost
import Derived.RegionTactic
import Derived.Laws.StructEq
import Derived.IntWalk
import Derived.StillTail
import Derived.KernelRfl
import Derived.Test.YtglgakbkdjhojaaGreatPl05
import Derived.Test.YtglgakbkdjhojaaGreatPl06
import Derived.Test.YtglgakbkdjhojaaGreatPl00
import Derived.Test.YtglgakbkdjhojaaGreatPl03
import Derived.Test.YtglgakbkdjhojaaGreatPl04
import Derived.Test.YtglgakbkdjhojaaGreatProg
set_option maxRecDepth 100000
set_option linter.unusedVariables false
set_option linter.unusedSimpArgs false
noncomputable section
namespace Go.Proofs.YtglgakbkdjhojaaGreat
open Go.Proofs.Tryz
open Go.RowKit
structure LW (w wr:World) (s0 s1 s2 s3 a0 a1 a2 a3 b0 b1 b2 b3:Nat):Prop where
 below:Below w.heap.size w wr
 size:w.heap.size+1+1+1<wr.heap.size
 rowS:Row4 wr w.heap.size s0 s1 s2 s3
 rowA:Row4 wr (w.heap.size+1) a0 a1 a2 a3
 rowB:Row4 wr (w.heap.size+1+1) b0 b1 b2 b3
 rowO:Row4 wr (w.heap.size+1+1+1) 0 0 0 0
theorem aKf (w:World) (o1 o2 o3 o4:Obj):Below w.heap.size w ((((w.alloc o1).alloc o2).alloc o3).alloc o4) :=
 (Py w o1 o2 o3).alloc (by simp; omega) o4
def aDI (a0 a1 a2 a3:Nat):Nat→Nat
 | 0=>0
 | 1=>a3
 | 2=>a3*18446744073709551616+a2
 | 3=>(a3*18446744073709551616+a2)*18446744073709551616+a1
 | _=>((a3*18446744073709551616+a2)*18446744073709551616+a1)*18446744073709551616+a0
def YT (a0 a1 a2 a3:Nat):Nat→Nat
 | 0=>a3
 | 1=>a2
 | 2=>a1
 | _=>a0
theorem Zg (a0 a1 a2 a3:Nat) {k:Nat} (h:k<4):aDI a0 a1 a2 a3 (k+1)=aDI a0 a1 a2 a3 k*18446744073709551616+YT a0 a1 a2 a3 k:=by
 match k,h with
 | 0,_=>simp[aDI,YT]
 | 1,_=>rfl
 | 2,_=>rfl
 | 3,_=>rfl
theorem aDr {a0 a1 a2 a3:Nat} (h:bY a0 a1 a2 a3) (k:Nat):YT a0 a1 a2 a3 k<18446744073709551616:=by
 obtain⟨h0,h1,h2,h3⟩:=h
 match k with
 | 0=>exact h3
 | 1=>exact h2
 | 2=>exact h1
 | k+3=>exact h0
theorem aHz (n m x b:Nat):((n%b)*m+x)%b=(n*m+x)%b:=by
 rw[Nat.add_mod,Nat.mul_mod,Nat.mod_mod,←Nat.mul_mod,←Nat.add_mod]
def TIn (R b:Nat) (a0 a1 a2 a3 k v:Nat):Prop:=v<b∧v=(R*18446744073709551616^k+aDI a0 a1 a2 a3 k)%b
theorem aDV {R b k v x:Nat} {a0 a1 a2 a3:Nat} (h:TIn R b a0 a1 a2 a3 k v) (hk:k<4) (hb:0<b) (hx:x=YT a0 a1 a2 a3 k):TIn R b a0 a1 a2 a3 (k+1) ((v*18446744073709551616+x)%b):=by
 refine⟨Nat.mod_lt _ hb,?_⟩;rw[h.2,aHz,Zg _ _ _ _ hk,hx,Nat.pow_succ,Nat.add_mul,Nat.mul_assoc,Nat.add_assoc]
theorem aLI {R b v:Nat} {a0 a1 a2 a3:Nat} (h:TIn R b a0 a1 a2 a3 4 v):v=(R*115792089237316195423570985008687907853269984665640564039457584007913129639936+aC a0 a1 a2 a3)%b:=by
 rw[h.2,show 18446744073709551616^4=115792089237316195423570985008687907853269984665640564039457584007913129639936 by simp,show aDI a0 a1 a2 a3 4=aC a0 a1 a2 a3 by show ((a3*18446744073709551616+a2)*18446744073709551616+a1)*18446744073709551616+a0=_; unfold aC; omega]
theorem aFm {w:World} {g:Nat} {a0 a1 a2 a3:Nat} (rA:Row4 w g a0 a1 a2 a3) (k:Nat) (hk:k<4):∃j x,j+k=3∧x=YT a0 a1 a2 a3 k∧w.cell? ⟨g,j,none⟩=some (.int .u64 (x:Nat)):=by
 match k,hk with
 | 0,_=>exact⟨3,_,rfl,rfl,rA.c3⟩
 | 1,_=>exact⟨2,_,rfl,rfl,rA.c2⟩
 | 2,_=>exact⟨1,_,rfl,rfl,rA.c1⟩
 | 3,_=>exact⟨0,_,rfl,rfl,rA.c0⟩
set_option maxHeartbeats 1000000 in
theorem zH (r0 r1 r2 r3 a0 a1 a2 a3 b0 b1 b2 b3:Nat) (hr:bY r0 r1 r2 r3) (ha:bY a0 a1 a2 a3) (hb:bY b0 b1 b2 b3) (h3:9223372036854775808≤b3) (hlt:aC r0 r1 r2 r3<aC b0 b1 b2 b3) (w:World) :
  Calls prog 265 #[.agg #[.int .u64 r0,.int .u64 r1,.int .u64 r2,.int .u64 r3],.agg #[.int .u64 a0,.int .u64 a1,.int .u64 a2,.int .u64 a3],.agg #[.int .u64 b0,.int .u64 b1,.int .u64 b2,.int .u64 b3]] w (dM (fun n=>n=(aC r0 r1 r2 r3*115792089237316195423570985008687907853269984665640564039457584007913129639936+aC a0 a1 a2 a3)%aC b0 b1 b2 b3) w):=by
 go_enter func265,ntmps265
 go_wp2_with fail
 go_loopw [8] (fun i wr=>∃k s0 s1 s2 s3:Nat,k≤4∧i=.int .i64 k∧bY s0 s1 s2 s3∧Hid (TIn (aC r0 r1 r2 r3) (aC b0 b1 b2 b3) a0 a1 a2 a3 k (aC s0 s1 s2 s3))∧LW w wr s0 s1 s2 s3 a0 a1 a2 a3 b0 b1 b2 b3) (fun i _=>4-(intOf i).toNat)
 case atStart =>
  refine⟨0,r0,r1,r2,r3,by omega,rfl,hr,Lib.hid ⟨hlt,by show _=(_*18446744073709551616^0+0)%_; rw[Nat.pow_zero,Nat.mul_one,Nat.add_zero,Nat.mod_eq_of_lt hlt]⟩,⟨aKf _ _ _ _ _,by simp,?_,?_,?_,?_⟩⟩
  all_goals exact⟨by simp[go_sem],by simp[go_sem],by simp[go_sem],by simp[go_sem],fun k=>by simp[go_sem]⟩
 case round =>
  obtain⟨k,s0,s1,s2,s3,hk,rfl,hs,ti,lw⟩:=hrel;have hsz:=lw.size;obtain⟨x0,x1,x2,x3,xf⟩:=lw.rowS;obtain⟨z0,z1,z2,z3,zf⟩:=lw.rowB
  by_cases hlt':k<4
  ·obtain⟨j,x,hj,hx,cx⟩:=aFm lw.rowA k hlt';have wj:IntKind.i64.wrap (3-(k:Int))=(j:Int):=by simp[IntKind.wrap,IntKind.bits,IntKind.signed]; omega
   have bj:(j:Int)<4:=by omega
   have bx:x<18446744073709551616:=by rw[hx]; exact aDr ha k
   have Hx:=Lib.hid hx;have HL:=Lib.hid lw;clear lw hx hj;go_wp2_with fail;refine wp_region_still_tail 6 (by kernel_rfl) (by kernel_rfl) ?_;simp only[List.take_succ_cons,List.take_zero,List.drop_succ_cons,List.drop_zero];change wpStill _ _ wr.drew _ _ _
   repeat still_step
   refine wpStill_nil ?_;change wpList _ _ _ _ _ wr.drew;go_wp2_with fail;refine (JD s0 s1 s2 s3 x b0 b1 b2 b3 hs bx hb h3 ti.out.1 _).mono ?_
   rintro e w3 ⟨n0,n1,n2,n3,rfl,hn,en,hbl⟩
   have hz3:wr.heap.size≤w3.heap.size:=hbl.size;have S3:=HL.out.rowS.drewN 1 |>.below hbl (show w.heap.size<wr.heap.size by omega)
   have T3:LW w (set4 w3 w.heap.size n0 n1 n2 n3) n0 n1 n2 n3 a0 a1 a2 a3 b0 b1 b2 b3 :=
    ⟨bF ((HL.out.below.drew).trans (hbl.mono HL.out.below.size)) (Nat.le_refl _) _ _ _ _,by unfold set4; simp only[World.size_setCell]; omega,S3.set4 _ _ _ _,
     (HL.out.rowA.drewN 1 |>.below hbl (show w.heap.size+1<wr.heap.size by omega)).set4_other (by omega) _ _ _ _,
     (HL.out.rowB.drewN 1 |>.below hbl (show w.heap.size+1+1<wr.heap.size by omega)).set4_other (by omega) _ _ _ _,
     (HL.out.rowO.drewN 1 |>.below hbl (show w.heap.size+1+1+1<wr.heap.size by omega)).set4_other (by omega) _ _ _ _⟩
   have HT:=Lib.hid T3;have Hti:=Lib.hid (aDV ti.out hlt' (by have:=ti.out.1; omega) Hx.out);rw[←en]at Hti;obtain⟨v0,v1,v2,v3,vf⟩:=S3;clear hbl en T3 ti;go_wp2_with fail
   go_roundw
   case rel=>exact⟨k+1,n0,n1,n2,n3,by omega,by go_num,hn,Hti,HT.out⟩
   case measure=>simp[intOf]; omega
  ·obtain rfl:k=4:=by omega
   have HF:=Lib.hid (aLI ti.out);obtain⟨o0,o1,o2,o3,of⟩:=lw.rowO;have HB:=Lib.hid lw.below;clear ti lw;go_wp2_with fail;refine bodyPost_ret (v:=.agg #[.int .u64 s0,.int .u64 s1,.int .u64 s2,.int .u64 s3]) (by simp[results,results265,go_sem, *]) rfl ?_;exact⟨s0,s1,s2,s3,rfl,hs,HF.out,bF HB.out (by omega) _ _ _ _⟩
theorem bBg (a0 a1 a2 a3:Nat) (n:Int) (ha:bY a0 a1 a2 a3) (h0:0<n) (hq:n/64=0) (w:World) :
  Calls prog 264 #[.agg #[.int .u64 a0,.int .u64 a1,.int .u64 a2,.int .u64 a3],.int .i64 n] w (dM (fun v=>v=aC a0 a1 a2 a3*2^n.toNat%115792089237316195423570985008687907853269984665640564039457584007913129639936) w):=by
 obtain⟨p,hr,hp,en⟩:=Gn (by omega) 0 hq (by omega);have b1:n<256:=by omega
 have t0:decide (n≤0)=false:=decide_eq_false (by omega);obtain⟨lo0,hi0,u0,d0,bl0,bh0,e0,g0,m0⟩:=xP (a:=a0) (p:=p) ha.1 hp;obtain⟨lo1,hi1,u1,d1,wV,bh1,e1,g1,m1⟩:=xP (a:=a1) (p:=p) ha.2.1 hp;obtain⟨lo2,hi2,u2,d2,tZ,bh2,e2,g2,m2⟩:=xP (a:=a2) (p:=p) ha.2.2.1 hp;obtain⟨lo3,hi3,u3,d3,bl3,bh3,e3,g3,m3⟩:=xP (a:=a3) (p:=p) ha.2.2.2 hp;obtain⟨s1,o1,bs1,f1⟩:=RB wV bh0 g0 m1;obtain⟨s2,o2,bs2,f2⟩:=RB tZ bh1 g1 m2;obtain⟨s3,o3,bs3,f3⟩:=RB bl3 bh2 g2 m3;have HF:Hid (aC lo0 s1 s2 s3=aC a0 a1 a2 a3*2^n.toNat%115792089237316195423570985008687907853269984665640564039457584007913129639936):=Lib.hid (by
  have hk:bY lo0 s1 s2 s3:=⟨bl0,bs1,bs2,bs3⟩;rw[en,AC];have:=e0.out;have:=e1.out;have:=e2.out;have:=e3.out;have:=f1.out;have:=f2.out;have:=f3.out;have hv:=bO hk;have hT:aC a0 a1 a2 a3*(18446744073709551616^((0:Int)).toNat*2^p)=aC a0 a1 a2 a3*2^p*1:=by
   rw[show 18446744073709551616^((0:Int)).toNat=1 by simp,Nat.mul_comm 1,Nat.mul_assoc]
  rw[hT];have hD:aC a0 a1 a2 a3*2^p=a0*2^p+18446744073709551616*(a1*2^p)+340282366920938463463374607431768211456*(a2*2^p)+6277101735386680763835789423207666416102355444464034512896*(a3*2^p):=by
   unfold aC; simp only[Nat.add_mul,Nat.mul_assoc]; omega
  rw[hD];unfold aC at hv ⊢;generalize 2^p=T at *;omega)
 clear e0 g0 m0 e1 g1 m1 e2 g2 m2 e3 g3 m3 f1 f2 f3;have HEN:=Lib.hid en;clear en
 go_enter func264,ntmps264
 go_wp2_with fail;refine wp_loop_rounds 5 ?_;rw[rounds_succ];go_wp2_with fail;rw[rounds_succ];go_wp2_with fail
 go_region
 go_wp2_with fail;rw[rounds_succ];go_wp2_with fail
 go_region
 go_wp2_with fail;rw[rounds_succ];go_wp2_with fail
 go_region
 go_wp2_with fail;rw[rounds_succ];go_wp2_with fail;refine bodyPost_ret (v:=.agg #[.int .u64 lo0,.int .u64 s1,.int .u64 s2,.int .u64 s3]) (by simp[results,results264,go_sem]) rfl ?_;refine⟨lo0,s1,s2,s3,rfl,⟨bl0,bs1,bs2,bs3⟩,HF.out,?_⟩
 repeat (first|exact Below.refl _ _|refine Below.drew ?_|refine Below.alloc ?_ (by first|(simp; done)|(simp; omega)) _)
theorem bBf (a0 a1 a2 a3:Nat) (n:Int) (ha:bY a0 a1 a2 a3) (h0:0<n) (hq:n/64=1) (w:World) :
  Calls prog 264 #[.agg #[.int .u64 a0,.int .u64 a1,.int .u64 a2,.int .u64 a3],.int .i64 n] w (dM (fun v=>v=aC a0 a1 a2 a3*2^n.toNat%115792089237316195423570985008687907853269984665640564039457584007913129639936) w):=by
 obtain⟨p,hr,hp,en⟩:=Gn (by omega) 1 hq (by omega);have b1:n<256:=by omega
 have t0:decide (n≤0)=false:=decide_eq_false (by omega);obtain⟨lo0,hi0,u0,d0,bl0,bh0,e0,g0,m0⟩:=xP (a:=a0) (p:=p) ha.1 hp;obtain⟨lo1,hi1,u1,d1,wV,bh1,e1,g1,m1⟩:=xP (a:=a1) (p:=p) ha.2.1 hp;obtain⟨lo2,hi2,u2,d2,tZ,bh2,e2,g2,m2⟩:=xP (a:=a2) (p:=p) ha.2.2.1 hp;obtain⟨s1,o1,bs1,f1⟩:=RB wV bh0 g0 m1;obtain⟨s2,o2,bs2,f2⟩:=RB tZ bh1 g1 m2;have HF:Hid (aC 0 lo0 s1 s2=aC a0 a1 a2 a3*2^n.toNat%115792089237316195423570985008687907853269984665640564039457584007913129639936):=Lib.hid (by
  have hk:bY 0 lo0 s1 s2:=⟨(by omega),bl0,bs1,bs2⟩;rw[en,AC];have:=e0.out;have:=e1.out;have:=e2.out;have:=f1.out;have:=f2.out;have hv:=bO hk;have hT:aC a0 a1 a2 a3*(18446744073709551616^((1:Int)).toNat*2^p)=aC a0 a1 a2 a3*2^p*18446744073709551616:=by
   rw[show 18446744073709551616^((1:Int)).toNat=18446744073709551616 by simp,Nat.mul_comm 18446744073709551616,Nat.mul_assoc]
  rw[hT];have hD:aC a0 a1 a2 a3*2^p=a0*2^p+18446744073709551616*(a1*2^p)+340282366920938463463374607431768211456*(a2*2^p)+6277101735386680763835789423207666416102355444464034512896*(a3*2^p):=by
   unfold aC; simp only[Nat.add_mul,Nat.mul_assoc]; omega
  rw[hD];unfold aC at hv ⊢;generalize 2^p=T at *;omega)
 clear e0 g0 m0 e1 g1 m1 e2 g2 m2 f1 f2;have HEN:=Lib.hid en;clear en
 go_enter func264,ntmps264
 go_wp2_with fail;refine wp_loop_rounds 4 ?_;rw[rounds_succ];go_wp2_with fail;rw[rounds_succ];go_wp2_with fail
 go_region
 go_wp2_with fail;rw[rounds_succ];go_wp2_with fail
 go_region
 go_wp2_with fail;rw[rounds_succ];go_wp2_with fail;refine bodyPost_ret (v:=.agg #[.int .u64 0,.int .u64 lo0,.int .u64 s1,.int .u64 s2]) (by simp[results,results264,go_sem]) rfl ?_;refine⟨0,lo0,s1,s2,rfl,⟨(by omega),bl0,bs1,bs2⟩,HF.out,?_⟩
 repeat (first|exact Below.refl _ _|refine Below.drew ?_|refine Below.alloc ?_ (by first|(simp; done)|(simp; omega)) _)
theorem bBe (a0 a1 a2 a3:Nat) (n:Int) (ha:bY a0 a1 a2 a3) (h0:0<n) (hq:n/64=2) (w:World) :
  Calls prog 264 #[.agg #[.int .u64 a0,.int .u64 a1,.int .u64 a2,.int .u64 a3],.int .i64 n] w (dM (fun v=>v=aC a0 a1 a2 a3*2^n.toNat%115792089237316195423570985008687907853269984665640564039457584007913129639936) w):=by
 obtain⟨p,hr,hp,en⟩:=Gn (by omega) 2 hq (by omega);have b1:n<256:=by omega
 have t0:decide (n≤0)=false:=decide_eq_false (by omega);obtain⟨lo0,hi0,u0,d0,bl0,bh0,e0,g0,m0⟩:=xP (a:=a0) (p:=p) ha.1 hp;obtain⟨lo1,hi1,u1,d1,wV,bh1,e1,g1,m1⟩:=xP (a:=a1) (p:=p) ha.2.1 hp;obtain⟨s1,o1,bs1,f1⟩:=RB wV bh0 g0 m1;have HF:Hid (aC 0 0 lo0 s1=aC a0 a1 a2 a3*2^n.toNat%115792089237316195423570985008687907853269984665640564039457584007913129639936):=Lib.hid (by
  have hk:bY 0 0 lo0 s1:=⟨(by omega),(by omega),bl0,bs1⟩;rw[en,AC];have:=e0.out;have:=e1.out;have:=f1.out;have hv:=bO hk;have hT:aC a0 a1 a2 a3*(18446744073709551616^((2:Int)).toNat*2^p)=aC a0 a1 a2 a3*2^p*340282366920938463463374607431768211456:=by
   rw[show 18446744073709551616^((2:Int)).toNat=340282366920938463463374607431768211456 by simp,Nat.mul_comm 340282366920938463463374607431768211456,Nat.mul_assoc]
  rw[hT];have hD:aC a0 a1 a2 a3*2^p=a0*2^p+18446744073709551616*(a1*2^p)+340282366920938463463374607431768211456*(a2*2^p)+6277101735386680763835789423207666416102355444464034512896*(a3*2^p):=by
   unfold aC; simp only[Nat.add_mul,Nat.mul_assoc]; omega
  rw[hD];unfold aC at hv ⊢;generalize 2^p=T at *;omega)
 clear e0 g0 m0 e1 g1 m1 f1;have HEN:=Lib.hid en;clear en
 go_enter func264,ntmps264
 go_wp2_with fail;refine wp_loop_rounds 3 ?_;rw[rounds_succ];go_wp2_with fail;rw[rounds_succ];go_wp2_with fail
 go_region
 go_wp2_with fail;rw[rounds_succ];go_wp2_with fail;refine bodyPost_ret (v:=.agg #[.int .u64 0,.int .u64 0,.int .u64 lo0,.int .u64 s1]) (by simp[results,results264,go_sem]) rfl ?_;refine⟨0,0,lo0,s1,rfl,⟨(by omega),(by omega),bl0,bs1⟩,HF.out,?_⟩
 repeat (first|exact Below.refl _ _|refine Below.drew ?_|refine Below.alloc ?_ (by first|(simp; done)|(simp; omega)) _)
theorem bBd (a0 a1 a2 a3:Nat) (n:Int) (ha:bY a0 a1 a2 a3) (h0:0<n) (hq:n/64=3) (w:World) :
  Calls prog 264 #[.agg #[.int .u64 a0,.int .u64 a1,.int .u64 a2,.int .u64 a3],.int .i64 n] w (dM (fun v=>v=aC a0 a1 a2 a3*2^n.toNat%115792089237316195423570985008687907853269984665640564039457584007913129639936) w):=by
 obtain⟨p,hr,hp,en⟩:=Gn (by omega) 3 hq (by omega);have b1:n<256:=by omega
 have t0:decide (n≤0)=false:=decide_eq_false (by omega);obtain⟨lo0,hi0,u0,d0,bl0,bh0,e0,g0,m0⟩:=xP (a:=a0) (p:=p) ha.1 hp;have HF:Hid (aC 0 0 0 lo0=aC a0 a1 a2 a3*2^n.toNat%115792089237316195423570985008687907853269984665640564039457584007913129639936):=Lib.hid (by
  have hk:bY 0 0 0 lo0:=⟨(by omega),(by omega),(by omega),bl0⟩;rw[en,AC];have:=e0.out;have hv:=bO hk;have hT:aC a0 a1 a2 a3*(18446744073709551616^((3:Int)).toNat*2^p)=aC a0 a1 a2 a3*2^p*6277101735386680763835789423207666416102355444464034512896:=by
   rw[show 18446744073709551616^((3:Int)).toNat=6277101735386680763835789423207666416102355444464034512896 by simp,Nat.mul_comm 6277101735386680763835789423207666416102355444464034512896,Nat.mul_assoc]
  rw[hT];have hD:aC a0 a1 a2 a3*2^p=a0*2^p+18446744073709551616*(a1*2^p)+340282366920938463463374607431768211456*(a2*2^p)+6277101735386680763835789423207666416102355444464034512896*(a3*2^p):=by
   unfold aC; simp only[Nat.add_mul,Nat.mul_assoc]; omega
  rw[hD];unfold aC at hv ⊢;generalize 2^p=T at *;omega)
 clear e0 g0 m0;have HEN:=Lib.hid en;clear en
 go_enter func264,ntmps264
 go_wp2_with fail;refine wp_loop_rounds 2 ?_;rw[rounds_succ];go_wp2_with fail;rw[rounds_succ];go_wp2_with fail;refine bodyPost_ret (v:=.agg #[.int .u64 0,.int .u64 0,.int .u64 0,.int .u64 lo0]) (by simp[results,results264,go_sem]) rfl ?_;refine⟨0,0,0,lo0,rfl,⟨(by omega),(by omega),(by omega),bl0⟩,HF.out,?_⟩
 repeat (first|exact Below.refl _ _|refine Below.drew ?_|refine Below.alloc ?_ (by first|(simp; done)|(simp; omega)) _)
theorem aEn (a0 a1 a2 a3:Nat) (n:Int) (ha:bY a0 a1 a2 a3) (h0:n≤0) (w:World) :
  Calls prog 264 #[.agg #[.int .u64 a0,.int .u64 a1,.int .u64 a2,.int .u64 a3],.int .i64 n] w (dM (fun v=>v=aC a0 a1 a2 a3) w):=by
 have t0:decide (n≤0)=true:=decide_eq_true h0
 go_enter func264,ntmps264
 go_wp2_with fail;refine bodyPost_ret (v:=.agg #[.int .u64 a0,.int .u64 a1,.int .u64 a2,.int .u64 a3]) (by simp[results,results264,go_sem]) rfl ?_;refine⟨a0,a1,a2,a3,rfl,ha,rfl,?_⟩
 repeat (first|exact Below.refl _ _|refine Below.drew ?_|refine Below.alloc ?_ (by first|(simp; done)|(simp; omega)) _)
theorem aMb (a0 a1 a2 a3:Nat) (n:Int) (ha:bY a0 a1 a2 a3) (h0:256≤n) (h1:n≤9223372036854775807) (w:World) :
  Calls prog 264 #[.agg #[.int .u64 a0,.int .u64 a1,.int .u64 a2,.int .u64 a3],.int .i64 n] w (dM (fun v=>v=0) w):=by
 have t0:decide (n≤0)=false:=decide_eq_false (by omega);obtain⟨q,hq,bq,bq'⟩:∃q:Nat,n/64=(q:Int)∧4≤q∧q≤9223372036854775807:=⟨(n/64).toNat,by omega,by omega,by omega⟩
 have t1:decide ((0:Int)<4-(q:Int))=false:=decide_eq_false (by omega)
 go_enter func264,ntmps264
 go_wp2_with fail;refine wp_loop_rounds 1 ?_;rw[rounds_succ];go_wp2_with fail;refine bodyPost_ret (v:=.agg #[.int .u64 0,.int .u64 0,.int .u64 0,.int .u64 0]) (by simp[results,results264,go_sem]) rfl ?_;refine⟨0,0,0,0,rfl,⟨by omega,by omega,by omega,by omega⟩,rfl,?_⟩
 repeat (first|exact Below.refl _ _|refine Below.drew ?_|refine Below.alloc ?_ (by first|(simp; done)|(simp; omega)) _)
theorem BW (a0 a1 a2 a3:Nat) (n:Int) (ha:bY a0 a1 a2 a3) (h0:0≤n) (h1:n≤9223372036854775807) (w:World) :
  Calls prog 264 #[.agg #[.int .u64 a0,.int .u64 a1,.int .u64 a2,.int .u64 a3],.int .i64 n] w (dM (fun v=>v=aC a0 a1 a2 a3*2^n.toNat%115792089237316195423570985008687907853269984665640564039457584007913129639936) w):=by
 by_cases hz:n≤0
 ·refine (aEn a0 a1 a2 a3 n ha hz w).mono ?_
  rintro e w' ⟨s0,s1,s2,s3,he,hs,hv,hb⟩
  refine⟨s0,s1,s2,s3,he,hs,?_,hb⟩;have:=bO ha;rw[hv,show n.toNat=0 by omega,Nat.pow_zero]; omega
 ·by_cases hf:256≤n
  ·refine (aMb a0 a1 a2 a3 n ha hf h1 w).mono ?_
   rintro e w' ⟨s0,s1,s2,s3,he,hs,hv,hb⟩
   refine⟨s0,s1,s2,s3,he,hs,?_,hb⟩;rw[hv];obtain⟨k,hk⟩:∃k,n.toNat=256+k:=⟨n.toNat-256,by omega⟩
   rw[hk,Nat.pow_add,Nat.mul_left_comm,show (2:Nat)^256=115792089237316195423570985008687907853269984665640564039457584007913129639936 by simp];exact (Nat.mul_mod_right _ _).symm
  ·have hq:n/64=0∨n/64=1∨n/64=2∨n/64=3:=by omega
   rcases hq with h|h|h|h
   ·exact bBg a0 a1 a2 a3 n ha (by omega) h w
   ·exact bBf a0 a1 a2 a3 n ha (by omega) h w
   ·exact bBe a0 a1 a2 a3 n ha (by omega) h w
   ·exact bBd a0 a1 a2 a3 n ha (by omega) h w
theorem aOB {m L:Nat} (hL:L≤256) (h:LenIs m L) (hm:0<m):0<L∧m*2^(256-L)<115792089237316195423570985008687907853269984665640564039457584007913129639936∧57896044618658097711785492504343953926634992332820282019728792003956564819968≤m*2^(256-L):=by
 have hpos:0<L:=by
  rcases Nat.eq_zero_or_pos L with e|e
  ·subst e; have:=h.1; simp at this; omega
  ·exact e
 have e:2^L*2^(256-L)=115792089237316195423570985008687907853269984665640564039457584007913129639936:=by rw[←Nat.pow_add,show L+(256-L)=256 by omega]
 have e':2^(L-1)*2^(256-L)=57896044618658097711785492504343953926634992332820282019728792003956564819968:=by rw[←Nat.pow_add,show L-1+(256-L)=255 by omega]
 refine⟨hpos,?_,?_⟩
 ·have:=Nat.mul_lt_mul_of_pos_right h.1 (Nat.two_pow_pos (256-L));rw[e]at this; exact this
 ·have:=Nat.mul_le_mul_right (2^(256-L)) (h.2 hpos);rw[e']at this; exact this
theorem aLu {b0 b1 b2 b3:Nat} (h:bY b0 b1 b2 b3) (hb:57896044618658097711785492504343953926634992332820282019728792003956564819968≤aC b0 b1 b2 b3):9223372036854775808≤b3:=by
 obtain⟨h0,h1,h2,h3⟩:=h;unfold aC at hb; omega
theorem aMK {x m L:Nat} (hL:L≤256) (hm:0<m) (hx:x<115792089237316195423570985008687907853269984665640564039457584007913129639936):x/2^L<m*2^(256-L):=by
 have e:2^(256-L)*2^L=115792089237316195423570985008687907853269984665640564039457584007913129639936:=by rw[←Nat.pow_add,show 256-L+L=256 by omega]
 have h1:x/2^L<2^(256-L):=by rw[Nat.div_lt_iff_lt_mul (Nat.two_pow_pos _),e]; exact hx
 have h2:=Nat.mul_le_mul_right (2^(256-L)) (show 1≤m from hm);omega
theorem YW {x L:Nat} (hL:L≤256):x/2^L*115792089237316195423570985008687907853269984665640564039457584007913129639936+x*2^(256-L)%115792089237316195423570985008687907853269984665640564039457584007913129639936=x*2^(256-L):=by
 have e:2^L*2^(256-L)=115792089237316195423570985008687907853269984665640564039457584007913129639936:=by rw[←Nat.pow_add,show L+(256-L)=256 by omega]
 have hd:x*2^(256-L)/115792089237316195423570985008687907853269984665640564039457584007913129639936=x/2^L:=by rw[←e]; exact Nat.mul_div_mul_right _ _ (Nat.two_pow_pos _)
 rw[←hd]; omega
theorem aHW {x y L:Nat} (hL:L≤256) (hy:y<115792089237316195423570985008687907853269984665640564039457584007913129639936):(x*2^(256-L)%115792089237316195423570985008687907853269984665640564039457584007913129639936) ||| (y/2^L)=x*2^(256-L)%115792089237316195423570985008687907853269984665640564039457584007913129639936+y/2^L:=by
 have e:2^L*2^(256-L)=115792089237316195423570985008687907853269984665640564039457584007913129639936:=by rw[←Nat.pow_add,show L+(256-L)=256 by omega]
 have hlt:y/2^L<2^(256-L):=by rw[Nat.div_lt_iff_lt_mul (Nat.two_pow_pos _),Nat.mul_comm,e]; exact hy
 have hm:x*2^(256-L)%115792089237316195423570985008687907853269984665640564039457584007913129639936=2^(256-L)*(x%2^L):=by
  rw[←e,Nat.mul_mod_mul_right,Nat.mul_comm]
 rw[hm,←Nat.two_pow_add_eq_or_of_lt hlt]
theorem aCh (n m x b:Nat):((n%b)*m+x)%b=(n*m+x)%b:=by
 rw[Nat.add_mod,Nat.mul_mod,Nat.mod_mod,←Nat.mul_mod,←Nat.add_mod]
theorem aOw {h l m L r1 r2:Nat} (hL:L≤256)
  (e1:r1=(h/2^L*115792089237316195423570985008687907853269984665640564039457584007913129639936+(h*2^(256-L)%115792089237316195423570985008687907853269984665640564039457584007913129639936+l/2^L))%(m*2^(256-L)))
  (e2:r2=(r1*115792089237316195423570985008687907853269984665640564039457584007913129639936+l*2^(256-L)%115792089237316195423570985008687907853269984665640564039457584007913129639936)%(m*2^(256-L))):r2/2^(256-L)=(h*115792089237316195423570985008687907853269984665640564039457584007913129639936+l)%m:=by
 have k1:=YW (x:=h) hL;have k2:=YW (x:=l) hL;rw[e1,aCh]at e2;have e3:(h/2^L*115792089237316195423570985008687907853269984665640564039457584007913129639936+(h*2^(256-L)%115792089237316195423570985008687907853269984665640564039457584007913129639936+l/2^L))*115792089237316195423570985008687907853269984665640564039457584007913129639936+l*2^(256-L)%115792089237316195423570985008687907853269984665640564039457584007913129639936=(h*115792089237316195423570985008687907853269984665640564039457584007913129639936+l)*2^(256-L):=by
  have:(h*115792089237316195423570985008687907853269984665640564039457584007913129639936+l)*2^(256-L)=h*2^(256-L)*115792089237316195423570985008687907853269984665640564039457584007913129639936+l*2^(256-L):=by rw[Nat.add_mul,Nat.mul_right_comm]
  rw[this];generalize h*2^(256-L)%115792089237316195423570985008687907853269984665640564039457584007913129639936=Q at *;generalize l*2^(256-L)%115792089237316195423570985008687907853269984665640564039457584007913129639936=U at *;rw[←k1,←k2];simp only[Nat.add_mul,Nat.add_assoc]
 rw[e3,Nat.mul_mod_mul_right]at e2;rw[e2,Nat.mul_div_cancel _ (Nat.two_pow_pos _)]
def aQq (P:Nat→Nat→Prop) (w:World) (e:Ending) (w':World):Prop :=
 ∃s0 s1 s2 s3 c:Nat,e=.returned (.tuple #[.agg #[.int .u64 s0,.int .u64 s1,.int .u64 s2,.int .u64 s3],.int .i64 c])∧bY s0 s1 s2 s3∧P (aC s0 s1 s2 s3) c∧Below w.heap.size w w'
theorem aCz (a0 a1 a2 a3:Nat) (w:World):(Op.equalIn 10000 24 (.agg #[.int .u64 a0,.int .u64 a1,.int .u64 a2,.int .u64 a3]) (.agg #[.int .u64 0,.int .u64 0,.int .u64 0,.int .u64 0])).run prog w=.ok (Xc a0 a1 a2 a3 0 0 0 0) w :=
 vF 9998 a0 a1 a2 a3 0 0 0 0 w
structure MR (w wr:World) (g9 g10:Nat) (h0 h1 h2 h3 l0 l1 l2 l3 b0 b1 b2 b3 r0 r1 r2 r3:Nat):Prop where
 below:Below w.heap.size w wr
 lo:w.heap.size+1+1+1<g9
 mid:g9<g10
 size:g10<wr.heap.size
 rowH:Row4 wr w.heap.size h0 h1 h2 h3
 rowL:Row4 wr (w.heap.size+1) l0 l1 l2 l3
 rowB:Row4 wr g9 b0 b1 b2 b3
 rowR:Row4 wr g10 r0 r1 r2 r3
 rowO:Row4 wr (w.heap.size+1+1+1) 0 0 0 0
theorem MR.on {w wr w':World} {g9 g10:Nat} {h0 h1 h2 h3 l0 l1 l2 l3 b0 b1 b2 b3 r0 r1 r2 r3:Nat} (m:MR w wr g9 g10 h0 h1 h2 h3 l0 l1 l2 l3 b0 b1 b2 b3 r0 r1 r2 r3) (hb:Below wr.heap.size wr w'):MR w w' g9 g10 h0 h1 h2 h3 l0 l1 l2 l3 b0 b1 b2 b3 r0 r1 r2 r3 :=
 ⟨m.below.trans (hb.mono m.below.size),m.lo,m.mid,Nat.lt_of_lt_of_le m.size hb.size,m.rowH.below hb (by have:=m.lo; have:=m.mid; have:=m.size; omega),m.rowL.below hb (by have:=m.lo; have:=m.mid; have:=m.size; omega),
  m.rowB.below hb (by have:=m.mid; have:=m.size; omega),m.rowR.below hb m.size,m.rowO.below hb (by have:=m.lo; have:=m.mid; have:=m.size; omega)⟩
theorem MR.drewN {w wr:World} {g9 g10:Nat} {h0 h1 h2 h3 l0 l1 l2 l3 b0 b1 b2 b3 r0 r1 r2 r3:Nat} (m:MR w wr g9 g10 h0 h1 h2 h3 l0 l1 l2 l3 b0 b1 b2 b3 r0 r1 r2 r3) (n:Nat):MR w (wr.drewN n) g9 g10 h0 h1 h2 h3 l0 l1 l2 l3 b0 b1 b2 b3 r0 r1 r2 r3:=m.on (bG _ _ n)
theorem MR.onDrew {w wr w':World} {g9 g10:Nat} {h0 h1 h2 h3 l0 l1 l2 l3 b0 b1 b2 b3 r0 r1 r2 r3:Nat} (m:MR w wr g9 g10 h0 h1 h2 h3 l0 l1 l2 l3 b0 b1 b2 b3 r0 r1 r2 r3) (hb:Below wr.drew.heap.size wr.drew w'):MR w w' g9 g10 h0 h1 h2 h3 l0 l1 l2 l3 b0 b1 b2 b3 r0 r1 r2 r3:=(m.drewN 1).on hb
theorem MR.put {w wr:World} {g9 g10:Nat} {h0 h1 h2 h3 l0 l1 l2 l3 b0 b1 b2 b3 r0 r1 r2 r3:Nat} (m:MR w wr g9 g10 h0 h1 h2 h3 l0 l1 l2 l3 b0 b1 b2 b3 r0 r1 r2 r3) (s0 s1 s2 s3:Nat):MR w (set4 wr g10 s0 s1 s2 s3) g9 g10 h0 h1 h2 h3 l0 l1 l2 l3 b0 b1 b2 b3 s0 s1 s2 s3 :=
 ⟨bF m.below (by have:=m.lo; have:=m.mid; omega) _ _ _ _,m.lo,m.mid,by unfold set4; simp only[World.size_setCell]; exact m.size,m.rowH.set4_other (by have:=m.lo; have:=m.mid; omega) _ _ _ _,m.rowL.set4_other (by have:=m.lo; have:=m.mid; omega) _ _ _ _,
  m.rowB.set4_other (by have:=m.mid; omega) _ _ _ _,m.rowR.set4 _ _ _ _,m.rowO.set4_other (by have:=m.lo; have:=m.mid; omega) _ _ _ _⟩
set_option maxHeartbeats 4000000 in
theorem aHA (h0 h1 h2 h3 l0 l1 l2 l3 m0 m1 m2 m3:Nat) (hh:bY h0 h1 h2 h3) (hl:bY l0 l1 l2 l3) (hm:bY m0 m1 m2 m3) (hpz:0<aC m0 m1 m2 m3) (w:World) :
  Calls prog 258 #[.agg #[.int .u64 h0,.int .u64 h1,.int .u64 h2,.int .u64 h3],.agg #[.int .u64 l0,.int .u64 l1,.int .u64 l2,.int .u64 l3],.agg #[.int .u64 m0,.int .u64 m1,.int .u64 m2,.int .u64 m3]] w (aQq (fun v c=>v=(aC h0 h1 h2 h3*115792089237316195423570985008687907853269984665640564039457584007913129639936+aC l0 l1 l2 l3)%aC m0 m1 m2 m3∧c=0) w):=by
 have hE:=fun w=>aCz m0 m1 m2 m3 w
 have hG:=Gu;have q:Xc m0 m1 m2 m3 0 0 0 0=false:=by
  have:=tB hm (show bY 0 0 0 0 from⟨by omega,by omega,by omega,by omega⟩)
  rcases h:Xc m0 m1 m2 m3 0 0 0 0 with _|_
  ·rfl
  ·exact absurd (this.1 h) (by unfold aC at hpz ⊢; omega)
 rw[q]at hE;clear q
 go_enter func258,ntmps258
 go_wp2_with fail;refine (DD m0 m1 m2 m3 hm _).mono ?_
 rintro e w1 ⟨L,rfl,bL,lenL,hbl⟩
 obtain⟨hpos,hb1,hb2⟩:=aOB bL lenL hpz;obtain⟨S,eS⟩:∃S,S=256-L:=⟨_,rfl⟩
 have wS:(256:Int)-(L:Int)=(S:Int):=by omega
 have wL:(256:Int)-(S:Int)=(L:Int):=by omega
 have bS:S≤256:=by omega
 have H1:=(((Row4.new w h0 h1 h2 h3 24).alloc (by simp) _).alloc (by simp; omega) _).alloc (by simp; omega) _ |>.below hbl (by simp; omega)
 have L1:=(((Row4.new (w.alloc _) l0 l1 l2 l3 24).alloc (by simp) _).alloc (by simp) _).below hbl (by simp);have M1:=((Row4.new ((w.alloc _).alloc _) m0 m1 m2 m3 24).alloc (by simp) _).below hbl (by simp);have O1:=(Row4.new (((w.alloc _).alloc _).alloc _) 0 0 0 0 24).below hbl (by simp);simp only[World.size_alloc]at L1 M1 O1;have hz1:w.heap.size+1+1+1<w1.heap.size:=by have:=hbl.size; simp at this; omega
 have B1:=(aKf w _ _ _ _).trans (hbl.mono (by simp; omega));have HeS:=Lib.hid eS; have Hb1:=Lib.hid hb1; have Hb2:=Lib.hid hb2; have HL:=Lib.hid lenL; have HB1:=Lib.hid B1;have HH1:=Lib.hid H1; have HL1:=Lib.hid L1; have HM1:=Lib.hid M1; have HO1:=Lib.hid O1;have y0:w.heap.size<w1.heap.size:=by omega
 have y1:w.heap.size+1<w1.heap.size:=by omega
 have y2:w.heap.size+1+1<w1.heap.size:=by omega
 obtain⟨m0',m1',m2',m3',mf⟩:=M1;clear hE hG eS hb1 hb2 lenL B1 H1 L1 O1 hbl;go_wp2_with fail;refine (BW m0 m1 m2 m3 S hm (by omega) (by omega) _).mono ?_
 rintro e w2 ⟨b0,b1,b2,b3,rfl,hb,vb,hbl⟩
 rw[Int.toNat_natCast]at vb;have H2:=HH1.out.below hbl y0;have L2:=HL1.out.below hbl y1;have O2:=HO1.out.below hbl hz1;have hz2:w1.heap.size≤w2.heap.size:=hbl.size;have B2:=HB1.out.trans (hbl.mono HB1.out.size);have HH2:=Lib.hid H2; have HL2:=Lib.hid L2; have HO2:=Lib.hid O2; have HB2:=Lib.hid B2; have Hvb:=Lib.hid vb;have z0:w.heap.size<w2.heap.size:=by omega
 have z1:w.heap.size+1<w2.heap.size:=by omega
 have z3:w.heap.size+1+1+1<w2.heap.size:=by omega
 obtain⟨h0',h1',h2',h3',hf⟩:=H2;clear L2 O2 B2 vb hbl m0' m1' m2' m3' mf;go_wp2_with fail;refine (vX h0 h1 h2 h3 L hh (by omega) (by omega) _).mono ?_
 rintro e w3 ⟨r0,r1,r2,r3,rfl,hr,vr,hbl⟩
 rw[Int.toNat_natCast]at vr;clear h0' h1' h2' h3' hf;have MR1:MR w (w3.alloc (.cells #[.int .u64 r0,.int .u64 r1,.int .u64 r2,.int .u64 r3] 24)) w2.heap.size w3.heap.size h0 h1 h2 h3 l0 l1 l2 l3 b0 b1 b2 b3 r0 r1 r2 r3:=by
  have hb':=hbl;have hz3:=hb'.size;rw[World.size_alloc]at hz3;have hall:∀{x:Nat} {c0 c1 c2 c3:Nat},Row4 w2 x c0 c1 c2 c3→x<w2.heap.size→Row4 (w3.alloc (.cells #[.int .u64 r0,.int .u64 r1,.int .u64 r2,.int .u64 r3] 24)) x c0 c1 c2 c3:=fun q hx =>
   ((q.alloc hx _).below hb' (by rw[World.size_alloc]; omega)).alloc (by omega) _
  refine⟨((HB2.out.alloc (by omega) _).trans (hb'.mono (by rw[World.size_alloc]; omega))).alloc (by omega) _,z3,by omega,by simp,hall HH2.out z0,hall HL2.out z1,?_,Row4.new _ _ _ _ _ _,hall HO2.out z3⟩;exact ((Row4.new w2 b0 b1 b2 b3 24).below hb' (by simp)).alloc (by omega) _
 go_wp2_with fail;clear hbl;have Hvr:=Lib.hid vr;clear vr;generalize w3.alloc (.cells #[.int .u64 r0,.int .u64 r1,.int .u64 r2,.int .u64 r3] 24)=W at *;generalize w2.heap.size=g9 at *;generalize w3.heap.size=g10 at *;have M:=MR1;clear MR1;have wLL:IntKind.i64.wrap (L:Int)=(L:Int):=by simp[IntKind.wrap,IntKind.bits,IntKind.signed]; omega
 have HM:=Lib.hid M;have evb:aC b0 b1 b2 b3=aC m0 m1 m2 m3*2^S:=by rw[Hvb.out,HeS.out,Nat.mod_eq_of_lt Hb1.out]
 have hb3:9223372036854775808≤b3:=aLu hb (by rw[evb,HeS.out]; exact Hb2.out);have hrb:aC r0 r1 r2 r3<aC b0 b1 b2 b3:=by rw[evb,Hvr.out,HeS.out]; exact aMK bL hpz (bO hh)
 have Hevb:=Lib.hid evb;clear evb;clear M y0 y1 y2 z0 z1 z3 hz1 hz2 HH1 HL1 HM1 HO1 HB1 HH2 HL2 HO2 HB2;have g0:∀k,W.cell? ⟨w.heap.size,k,none⟩=W.cell? ⟨w.heap.size,k,none⟩:=fun _=>rfl
 clear g0;clear wS wL;have wL':IntKind.i64.wrap (256-(S:Int))=(L:Int):=by have:=HeS.out; simp[IntKind.wrap,IntKind.bits,IntKind.signed]; omega
 go_wp2_with fail;refine fG (fun wx=>MR w wx g9 g10 h0 h1 h2 h3 l0 l1 l2 l3 b0 b1 b2 b3 r0 r1 r2 r3) 11 (by kernel_rfl) ?_;have HS:(fun wx=>MR w wx g9 g10 h0 h1 h2 h3 l0 l1 l2 l3 b0 b1 b2 b3 r0 r1 r2 r3) W.drew:=HM.out.drewN 1;refine aK (i:=0) (v:=.agg #[.int .u64 r0,.int .u64 r1,.int .u64 r2,.int .u64 r3]) rfl (by kernel_rfl) (by kernel_rfl) (by kernel_rfl) (by kernel_rfl) (fun _ _ _ h=>h) HS (Or.inl ⟨by rfl,fun wx hx => ?_⟩) ?_
 ·obtain⟨k0,k1,k2,k3,kf⟩:=MR.rowR hx;clear HS;go_simp
 simp only[Act.put,List.setIfInBounds_toArray,List.set_cons_zero,List.set_cons_succ];refine aK (i:=1) (v:=.agg #[.int .u64 h0,.int .u64 h1,.int .u64 h2,.int .u64 h3]) rfl (by kernel_rfl) (by kernel_rfl) (by kernel_rfl) (by kernel_rfl) (fun _ _ _ h=>h) HS (Or.inl ⟨by rfl,fun wx hx => ?_⟩) ?_
 ·obtain⟨k0,k1,k2,k3,kf⟩:=MR.rowH hx;clear HS;go_simp
 simp only[Act.put,List.setIfInBounds_toArray,List.set_cons_zero,List.set_cons_succ];refine aK (i:=2) (v:=.int .i64 (S:Nat)) rfl (by kernel_rfl) (by kernel_rfl) (by kernel_rfl) (by kernel_rfl) (fun _ _ _ h=>h) HS (Or.inl ⟨by rfl,fun wx hx => ?_⟩) ?_
 ·clear hx HS;go_simp
 simp only[Act.put,List.setIfInBounds_toArray,List.set_cons_zero,List.set_cons_succ];refine aK (i:=4) (v:=.agg #[.int .u64 l0,.int .u64 l1,.int .u64 l2,.int .u64 l3]) rfl (by kernel_rfl) (by kernel_rfl) (by kernel_rfl) (by kernel_rfl) (fun _ _ _ h=>h) HS (Or.inl ⟨by rfl,fun wx hx => ?_⟩) ?_
 ·obtain⟨k0,k1,k2,k3,kf⟩:=MR.rowL hx;clear HS;go_simp
 simp only[Act.put,List.setIfInBounds_toArray,List.set_cons_zero,List.set_cons_succ];refine aK (i:=5) (v:=.int .i64 (S:Nat)) rfl (by kernel_rfl) (by kernel_rfl) (by kernel_rfl) (by kernel_rfl) (fun _ _ _ h=>h) HS (Or.inl ⟨by rfl,fun wx hx => ?_⟩) ?_
 ·clear hx HS;go_simp
 simp only[Act.put,List.setIfInBounds_toArray,List.set_cons_zero,List.set_cons_succ];refine aK (i:=6) (v:=.int .i64 (L:Nat)) rfl (by kernel_rfl) (by kernel_rfl) (by kernel_rfl) (by kernel_rfl) (fun _ _ _ h=>h) HS (Or.inl ⟨by rfl,fun wx hx => ?_⟩) ?_
 ·clear hx HS;go_simp
 simp only[Act.put,List.setIfInBounds_toArray,List.set_cons_zero,List.set_cons_succ];refine aK (i:=9) (v:=.agg #[.int .u64 b0,.int .u64 b1,.int .u64 b2,.int .u64 b3]) rfl (by kernel_rfl) (by kernel_rfl) (by kernel_rfl) (by kernel_rfl) (fun _ _ _ h=>h) HS (Or.inl ⟨by rfl,fun wx hx => ?_⟩) ?_
 ·obtain⟨k0,k1,k2,k3,kf⟩:=MR.rowB hx;clear HS;go_simp
 simp only[Act.put,List.setIfInBounds_toArray,List.set_cons_zero,List.set_cons_succ];clear HS;refine aN (i:=3) (by kernel_rfl) rfl (fun K hK => ?_);go_simp;refine (BW h0 h1 h2 h3 S hh (by omega) (by omega) _).mono ?_
 rintro e w4 ⟨x0,x1,x2,x3,rfl,hx,vx,hbl⟩
 rw[Int.toNat_natCast]at vx;have Hvx:=Lib.hid vx;clear vx;have M4:=HM.out.onDrew hbl;clear hbl;go_wp2_with fail;refine hK.out _ _ (Or.inr M4) (fun hHeld => ?_);clear hK K hHeld
 try simp only[Act.put,List.setIfInBounds_toArray,List.set_cons_zero,List.set_cons_succ]
 refine aN (i:=7) (by kernel_rfl) rfl (fun K hK => ?_);go_simp;refine (vX l0 l1 l2 l3 L hl (by omega) (by omega) _).mono ?_
 rintro e w5 ⟨y0,y1,y2,y3,rfl,hy,vy,hbl⟩
 rw[Int.toNat_natCast]at vy;have Hvy:=Lib.hid vy;clear vy;have M5:=M4.on hbl;clear hbl;go_wp2_with fail;refine hK.out _ _ (Or.inr M5) (fun hHeld => ?_);clear hK K hHeld
 try simp only[Act.put,List.setIfInBounds_toArray,List.set_cons_zero,List.set_cons_succ]
 refine aN (i:=8) (by kernel_rfl) rfl (fun K hK => ?_);go_simp;refine (VM x0 x1 x2 x3 y0 y1 y2 y3 hx hy _).mono ?_
 rintro e w6 ⟨z0,z1,z2,z3,rfl,hz,vz,hbl⟩
 have Hvz:=Lib.hid vz;clear vz;have M6:=M5.on hbl;clear hbl;go_wp2_with fail;refine hK.out _ _ (Or.inr M6) (fun hHeld => ?_);clear hK K hHeld
 try simp only[Act.put,List.setIfInBounds_toArray,List.set_cons_zero,List.set_cons_succ]
 refine aN (i:=10) (by kernel_rfl) rfl (fun K hK => ?_);go_simp;refine (zH r0 r1 r2 r3 z0 z1 z2 z3 b0 b1 b2 b3 hr hz hb hb3 hrb _).mono ?_
 rintro e w7 ⟨n0,n1,n2,n3,rfl,hn,vn,hbl⟩
 have Hvn:=Lib.hid vn;clear vn;have M7:=M6.on hbl;clear hbl;go_wp2_with fail;refine hK.out _ _ (Or.inr M7) (fun hHeld => ?_);clear hK K hHeld
 try simp only[Act.put,List.setIfInBounds_toArray,List.set_cons_zero,List.set_cons_succ]
 obtain⟨q0,q1,q2,q3,qf⟩:=M7.rowR;have M8:=M7.put n0 n1 n2 n3;refine aN (i:=11) (by kernel_rfl) rfl (fun K hK => ?_);have hsz:=M7.size;clear M4 M5 M6 M7;have HM8:=Lib.hid M8;clear M8;go_simp;refine hK.out _ _ (Or.inl rfl) (fun hHeld => ?_);clear hK K hHeld q0 q1 q2 q3 qf;refine dT (by kernel_rfl) ?_;have hnb:aC n0 n1 n2 n3<aC b0 b1 b2 b3:=by rw[Hvn.out]; exact Nat.mod_lt _ (by omega)
 have HG:=HM8.out;unfold set4 at HG;generalize (((w7.setCell ⟨g10,0,none⟩ (.int .u64 (n0:Nat))).setCell ⟨g10,1,none⟩ (.int .u64 (n1:Nat))).setCell ⟨g10,2,none⟩ (.int .u64 (n2:Nat))).setCell ⟨g10,3,none⟩ (.int .u64 (n3:Nat))=W2 at HG ⊢;have HM9:=Lib.hid HG;clear HG HM8 hrb;go_wp2_with fail;refine fG (fun wx=>MR w wx g9 g10 h0 h1 h2 h3 l0 l1 l2 l3 b0 b1 b2 b3 n0 n1 n2 n3) 6 (by kernel_rfl) ?_;have HS:(fun wx=>MR w wx g9 g10 h0 h1 h2 h3 l0 l1 l2 l3 b0 b1 b2 b3 n0 n1 n2 n3) W2.drew:=HM9.out.drewN 1;refine aK (i:=0) (v:=.agg #[.int .u64 n0,.int .u64 n1,.int .u64 n2,.int .u64 n3]) rfl (by kernel_rfl) (by kernel_rfl) (by kernel_rfl) (by kernel_rfl) (fun _ _ _ h=>h) HS (Or.inl ⟨by rfl,fun wx hx => ?_⟩) ?_
 ·obtain⟨k0,k1,k2,k3,kf⟩:=MR.rowR hx;clear HS;go_simp
 simp only[Act.put,List.setIfInBounds_toArray,List.set_cons_zero,List.set_cons_succ];refine aK (i:=1) (v:=.agg #[.int .u64 l0,.int .u64 l1,.int .u64 l2,.int .u64 l3]) rfl (by kernel_rfl) (by kernel_rfl) (by kernel_rfl) (by kernel_rfl) (fun _ _ _ h=>h) HS (Or.inl ⟨by rfl,fun wx hx => ?_⟩) ?_
 ·obtain⟨k0,k1,k2,k3,kf⟩:=MR.rowL hx;clear HS;go_simp
 simp only[Act.put,List.setIfInBounds_toArray,List.set_cons_zero,List.set_cons_succ];refine aK (i:=2) (v:=.int .i64 (S:Nat)) rfl (by kernel_rfl) (by kernel_rfl) (by kernel_rfl) (by kernel_rfl) (fun _ _ _ h=>h) HS (Or.inl ⟨by rfl,fun wx hx => ?_⟩) ?_
 ·clear hx HS;go_simp
 simp only[Act.put,List.setIfInBounds_toArray,List.set_cons_zero,List.set_cons_succ];refine aK (i:=4) (v:=.agg #[.int .u64 b0,.int .u64 b1,.int .u64 b2,.int .u64 b3]) rfl (by kernel_rfl) (by kernel_rfl) (by kernel_rfl) (by kernel_rfl) (fun _ _ _ h=>h) HS (Or.inl ⟨by rfl,fun wx hx => ?_⟩) ?_
 ·obtain⟨k0,k1,k2,k3,kf⟩:=MR.rowB hx;clear HS;go_simp
 simp only[Act.put,List.setIfInBounds_toArray,List.set_cons_zero,List.set_cons_succ];clear HS;refine aN (i:=3) (by kernel_rfl) rfl (fun K hK => ?_);go_simp;refine (BW l0 l1 l2 l3 S hl (by omega) (by omega) _).mono ?_
 rintro e w8 ⟨u0,u1,u2,u3,rfl,hu,vu,hbl⟩
 rw[Int.toNat_natCast]at vu;have Hvu:=Lib.hid vu;clear vu;have M4:=HM9.out.onDrew hbl;clear hbl;go_wp2_with fail;refine hK.out _ _ (Or.inr M4) (fun hHeld => ?_);clear hK K hHeld
 try simp only[Act.put,List.setIfInBounds_toArray,List.set_cons_zero,List.set_cons_succ]
 refine aN (i:=5) (by kernel_rfl) rfl (fun K hK => ?_);go_simp;refine (zH n0 n1 n2 n3 u0 u1 u2 u3 b0 b1 b2 b3 hn hu hb hb3 hnb _).mono ?_
 rintro e w9 ⟨p0,p1,p2,p3,rfl,hp,vp,hbl⟩
 have Hvp:=Lib.hid vp;clear vp;have M7:=M4.on hbl;clear hbl;go_wp2_with fail;refine hK.out _ _ (Or.inr M7) (fun hHeld => ?_);clear hK K hHeld
 try simp only[Act.put,List.setIfInBounds_toArray,List.set_cons_zero,List.set_cons_succ]
 obtain⟨q0,q1,q2,q3,qf⟩:=M7.rowR;have M8:=M7.put p0 p1 p2 p3;refine aN (i:=6) (by kernel_rfl) rfl (fun K hK => ?_);have hsz:=M7.size;clear M4 M7;have HM8:=Lib.hid M8;clear M8;go_simp;refine hK.out _ _ (Or.inl rfl) (fun hHeld => ?_);clear hK K hHeld q0 q1 q2 q3 qf;refine dT (by kernel_rfl) ?_;have HG:=HM8.out;unfold set4 at HG;generalize (((w9.setCell ⟨g10,0,none⟩ (.int .u64 (p0:Nat))).setCell ⟨g10,1,none⟩ (.int .u64 (p1:Nat))).setCell ⟨g10,2,none⟩ (.int .u64 (p2:Nat))).setCell ⟨g10,3,none⟩ (.int .u64 (p3:Nat))=W3 at HG ⊢;have HM10:=Lib.hid HG;obtain⟨q0,q1,q2,q3,qf⟩:=HG.rowR;clear HG HM8;go_wp2_with fail;refine (vX p0 p1 p2 p3 S hp (by omega) (by omega) _).mono ?_
 rintro e wz ⟨s0,s1,s2,s3,rfl,hs,vs,hbl⟩
 rw[Int.toNat_natCast]at vs;have HF:Hid (aC s0 s1 s2 s3=(aC h0 h1 h2 h3*115792089237316195423570985008687907853269984665640564039457584007913129639936+aC l0 l1 l2 l3)%aC m0 m1 m2 m3):=Lib.hid (by
  rw[vs,HeS.out];refine aOw (L:=L) (r1:=aC n0 n1 n2 n3) bL ?_ ?_
  ·rw[Hvn.out,Hvz.out,Hvx.out,Hvy.out,Hevb.out,Hvr.out,HeS.out,aHW bL (bO hl)]
  ·rw[Hvp.out,Hvu.out,Hevb.out,HeS.out])
 have M11:=HM10.out.on hbl;obtain⟨o0,o1,o2,o3,of⟩:=M11.rowO;have HB:=Lib.hid M11.below;clear vs hbl M11 q0 q1 q2 q3 qf;go_wp2_with fail;refine bodyPost_ret (v:=.tuple #[.agg #[.int .u64 s0,.int .u64 s1,.int .u64 s2,.int .u64 s3],.int .i64 0]) (by simp[results,results258,go_sem, *]) rfl ?_;exact⟨s0,s1,s2,s3,0,rfl,hs,⟨HF.out,rfl⟩,bF HB.out (by omega) _ _ _ _⟩
def hor (B:Nat→Nat) (s:Nat):Nat→Nat
 | 0=>0
 | n+1=>hor B s n*256+B (s+n)
def RowB (w:World) (b n:Nat) (P:Nat→Nat):Prop:=∀k,k<n→w.cell? ⟨b,k,none⟩=some (.int .u8 (P k:Nat))∧w.frozen? ⟨b,k,none⟩=false
theorem RowB.below {w w':World} {b n:Nat} {P:Nat→Nat} (h:RowB w b n P) {B:Nat} (hb:Below B w w') (hB:b<B):RowB w' b n P:=fun k hk =>
 ⟨(hb.cell (p:=⟨b,k,none⟩) hB).trans (h k hk).1,(hb.frozen (p:=⟨b,k,none⟩) hB).trans (h k hk).2⟩
theorem RowB.set {w:World} {b n i v:Nat} {P:Nat→Nat} (h:RowB w b n P) (hi:i<n):RowB (w.setCell ⟨b,i,none⟩ (.int .u8 (v:Nat))) b n (gI P i v):=by
 intro k hk;refine⟨?_,by rw[World.frozen?_setCell]; exact (h k hk).2⟩;unfold gI
 by_cases e:k=i
 ·subst e; rw[if_pos rfl]; exact World.cell?_setCell_same (h:=(h k hk).1) ..
 ·rw[if_neg e,World.cell?_setCell_other (h:=fun he=>e (by simpa using (congrArg Addr.off he).symm)) ..]; exact (h k hk).1
theorem RowB.other {w:World} {b n i:Nat} {P:Nat→Nat} (h:RowB w b n P) {c:Nat} (hc:c≠b) (x:Value):RowB (w.setCell ⟨c,i,none⟩ x) b n P:=by
 intro k hk;exact⟨by rw[World.cell?_setCell_other (h:=fun he=>hc (by simpa using congrArg Addr.block he)) ..]; exact (h k hk).1,by rw[World.frozen?_setCell]; exact (h k hk).2⟩
theorem RowB.drewN {w:World} {b n:Nat} {P:Nat→Nat} (h:RowB w b n P) (m:Nat):RowB (w.drewN m) b n P:=h
theorem RowB.ext {w:World} {b n:Nat} {P R:Nat→Nat} (h:RowB w b n P) (e:∀k,k<n→P k=R k):RowB w b n R:=fun k hk=>⟨by rw[←e k hk]; exact (h k hk).1,(h k hk).2⟩
set_option maxHeartbeats 2000000 in
theorem Pd (f:Int) (F:FC) (hf:FieldIs f F) (g0 g1 g2 g3 l0 l1 l2 l3:Nat) (hg:bY g0 g1 g2 g3) (hl:bY l0 l1 l2 l3) (w:World) :
  Calls prog 249 #[.int .i64 f,.agg #[.int .u64 g0,.int .u64 g1,.int .u64 g2,.int .u64 g3],.agg #[.int .u64 l0,.int .u64 l1,.int .u64 l2,.int .u64 l3]] w (Yu 0 ((aC g0 g1 g2 g3*115792089237316195423570985008687907853269984665640564039457584007913129639936+aC l0 l1 l2 l3)%F.M) w):=by
 go_enter func249,ntmps249
 go_wp2_with fail;refine (gG f F hf _).mono ?_
 rintro e w1 ⟨rfl,hbl⟩
 have M1:=((((Mem.nil w).new (w.heap.size) g0 g1 g2 g3 24 (by simp)).new (w.heap.size+1) l0 l1 l2 l3 24 (by simp)).new (w.heap.size+1+1) 0 0 0 0 25 (by simp)).on hbl;clear hbl;have z0:w.heap.size<w1.heap.size:=M1.lt (c0:=g0) (c1:=g1) (c2:=g2) (c3:=g3) (by simp);have z1:w.heap.size+1<w1.heap.size:=M1.lt (c0:=l0) (c1:=l1) (c2:=l2) (c3:=l3) (by simp);have z2:w.heap.size+1+1<w1.heap.size:=M1.lt (c0:=0) (c1:=0) (c2:=0) (c3:=0) (by simp);have HM:=Lib.hid (M1.on ((Below.refl _ _).alloc (Nat.le_refl _) (.cells #[.int .u64 F.m0,.int .u64 F.m1,.int .u64 F.m2,.int .u64 F.m3,.int .u64 F.inv,.int .u64 F.s0,.int .u64 F.s1,.int .u64 F.s2,.int .u64 F.s3] 115)));have KK:=Lib.hid (KIs.new w1 F 115);have kr:=M1.row (b:=w.heap.size) (c0:=g0) (c1:=g1) (c2:=g2) (c3:=g3) (by simp);have x0:=kr.c0; have x1:=kr.c1; have x2:=kr.c2; have x3:=kr.c3;clear kr;have xl:=M1.lt (b:=w.heap.size) (c0:=g0) (c1:=g1) (c2:=g2) (c3:=g3) (by simp);have kr:=M1.row (b:=w.heap.size+1) (c0:=l0) (c1:=l1) (c2:=l2) (c3:=l3) (by simp);have u0:=kr.c0; have u1:=kr.c1; have u2:=kr.c2; have u3:=kr.c3;clear kr;have ul:=M1.lt (b:=w.heap.size+1) (c0:=l0) (c1:=l1) (c2:=l2) (c3:=l3) (by simp);have k0:=KK.out.k0; have k1:=KK.out.k1; have k2:=KK.out.k2; have k3:=KK.out.k3;go_wp2_with fail;refine (aHA g0 g1 g2 g3 l0 l1 l2 l3 F.m0 F.m1 F.m2 F.m3 hg hl hf.ok.okm hf.ok.pos _).mono ?_
 rintro e w2 ⟨s0,s1,s2,s3,er,rfl,hs,⟨hv,rfl⟩,hbl⟩
 have HV:=Lib.hid hv;clear hv;have HM':=Lib.hid (HM.out.on hbl);have KK':=Lib.hid (KK.out.same hbl);have zk:=KK'.out.lt;clear HM KK hbl M1;have HM:=HM';have KK:=KK';clear HM' KK';clear zk k0 k1 k2 k3 x0 x1 x2 x3 xl u0 u1 u2 u3 ul;have wz:w.heap.size+1+1<w2.heap.size:=HM.out.lt (b:=w.heap.size+1+1) (c0:=0) (c1:=0) (c2:=0) (c3:=0) (by simp);have kr:=HM.out.row (b:=w.heap.size+1+1) (c0:=0) (c1:=0) (c2:=0) (c3:=0) (by simp);have y0:=kr.c0; have y1:=kr.c1; have y2:=kr.c2; have y3:=kr.c3; have yf:=kr.fr;clear kr;have yl:=HM.out.lt (b:=w.heap.size+1+1) (c0:=0) (c1:=0) (c2:=0) (c3:=0) (by simp);go_wp2_with fail;refine bodyPost_ret (v:=.tuple #[.agg #[.int .u64 s0,.int .u64 s1,.int .u64 s2,.int .u64 s3],.int .i64 0]) (by simp[results,results249,go_sem, *]) rfl ?_;refine⟨_,_,_,_,rfl,hs,HV.out,?_⟩
 repeat (first|exact HM.out.1|refine Below.alloc ?_ (by first|(simp; done)|(simp; omega)) _|refine Below.setCell ?_ (by first|(simp; done)|(simp; omega)) _)
theorem oT:FieldIs 1 FP:=Or.inl ⟨rfl,rfl⟩
def FwPost (x:Nat) (w:World) (e:Ending) (w':World):Prop:=e=.returned (.agg #[.int .u64 (fw x 0:Nat),.int .u64 (fw x 1:Nat),.int .u64 (fw x 2:Nat),.int .u64 (fw x 3:Nat)])∧Below w.heap.size w w'
theorem FwPost.of {x:Nat} {w:World} {e:Ending} {w':World} (hx:x<FP.M) (h:fF x w e w'):FwPost x w e w':=by
 obtain⟨s0,s1,s2,s3,rfl,hs,hv,hb⟩:=h;obtain⟨rfl,rfl,rfl,rfl⟩:=oR hs (xN hx) hv;exact⟨rfl,hb⟩
set_option maxHeartbeats 4000000 in
theorem SI (a0 a1 a2 a3 b0 b1 b2 b3:Nat) (ha:bY a0 a1 a2 a3) (hb:bY b0 b1 b2 b3) (la:aC a0 a1 a2 a3<FP.M) (lb:aC b0 b1 b2 b3<FP.M) (w:World) :
  Calls prog 222 #[.agg #[.int .u64 a0,.int .u64 a1,.int .u64 a2,.int .u64 a3],.agg #[.int .u64 b0,.int .u64 b1,.int .u64 b2,.int .u64 b3]] w (fF ((aC a0 a1 a2 a3+aC b0 b1 b2 b3)%FP.M) w):=by
 go_enter func222,ntmps222
 go_wp2_with fail;have HM:=Lib.hid ((((Mem.nil w).new (w.heap.size) a0 a1 a2 a3 25 (by simp)).new (w.heap.size+1) b0 b1 b2 b3 25 (by simp)).new (w.heap.size+1+1) 0 0 0 0 25 (by simp));refine (Wy 1 FP oT a0 a1 a2 a3 b0 b1 b2 b3 ha hb la lb _).mono ?_
 rintro e w1 ⟨s0,s1,s2,s3,rfl,hs,hv,hbl⟩
 have HV:=Lib.hid hv;have HM':=Lib.hid (HM.out.on hbl);clear hv hbl;clear HM;have HM:=HM';clear HM';have kr:=HM.out.row (b:=w.heap.size+1+1) (c0:=0) (c1:=0) (c2:=0) (c3:=0) (by simp);have y0:=kr.c0; have y1:=kr.c1; have y2:=kr.c2; have y3:=kr.c3; have yf:=kr.fr;clear kr;have yl:=HM.out.lt (b:=w.heap.size+1+1) (c0:=0) (c1:=0) (c2:=0) (c3:=0) (by simp);have HB1:=Lib.hid HM.out.1;clear HM;go_wp2_with fail;refine bodyPost_ret (v:=.agg #[.int .u64 s0,.int .u64 s1,.int .u64 s2,.int .u64 s3]) (by simp[results,results222,go_sem, *]) rfl ?_;refine⟨_,_,_,_,rfl,hs,HV.out,?_⟩;have hbx:=HB1.out;have hsz:=hbx.size
 repeat (first|exact hbx|refine Below.drew ?_|refine Below.alloc ?_ (by first|exact hsz|(simp; done)|(simp; omega)) _|refine Below.setCell ?_ (by first|(simp; done)|(simp; omega)) _)
theorem ZE (x y:Nat) (hx:x<FP.M) (hy:y<FP.M) (w:World):Calls prog 222 #[.agg #[.int .u64 (fw x 0:Nat),.int .u64 (fw x 1:Nat),.int .u64 (fw x 2:Nat),.int .u64 (fw x 3:Nat)],.agg #[.int .u64 (fw y 0:Nat),.int .u64 (fw y 1:Nat),.int .u64 (fw y 2:Nat),.int .u64 (fw y 3:Nat)]] w (FwPost ((x+y)%FP.M) w):=by
 refine (SI _ _ _ _ _ _ _ _ (cM x) (cM y) (by rw[cK hx]; exact hx) (by rw[cK hy]; exact hy) w).mono ?_;rw[cK hx,cK hy];exact fun e w' h=>FwPost.of (Nat.mod_lt _ fV) h
set_option maxHeartbeats 4000000 in
theorem OC (a0 a1 a2 a3 b0 b1 b2 b3:Nat) (ha:bY a0 a1 a2 a3) (hb:bY b0 b1 b2 b3) (la:aC a0 a1 a2 a3<FP.M) (lb:aC b0 b1 b2 b3<FP.M) (w:World) :
  Calls prog 221 #[.agg #[.int .u64 a0,.int .u64 a1,.int .u64 a2,.int .u64 a3],.agg #[.int .u64 b0,.int .u64 b1,.int .u64 b2,.int .u64 b3]] w (fF ((aC a0 a1 a2 a3+FP.M-aC b0 b1 b2 b3)%FP.M) w):=by
 go_enter func221,ntmps221
 go_wp2_with fail;have HM:=Lib.hid ((((Mem.nil w).new (w.heap.size) a0 a1 a2 a3 25 (by simp)).new (w.heap.size+1) b0 b1 b2 b3 25 (by simp)).new (w.heap.size+1+1) 0 0 0 0 25 (by simp));refine (Wh 1 FP oT a0 a1 a2 a3 b0 b1 b2 b3 ha hb la lb _).mono ?_
 rintro e w1 ⟨s0,s1,s2,s3,rfl,hs,hv,hbl⟩
 have HV:=Lib.hid hv;have HM':=Lib.hid (HM.out.on hbl);clear hv hbl;clear HM;have HM:=HM';clear HM';have kr:=HM.out.row (b:=w.heap.size+1+1) (c0:=0) (c1:=0) (c2:=0) (c3:=0) (by simp);have y0:=kr.c0; have y1:=kr.c1; have y2:=kr.c2; have y3:=kr.c3; have yf:=kr.fr;clear kr;have yl:=HM.out.lt (b:=w.heap.size+1+1) (c0:=0) (c1:=0) (c2:=0) (c3:=0) (by simp);have HB1:=Lib.hid HM.out.1;clear HM;go_wp2_with fail;refine bodyPost_ret (v:=.agg #[.int .u64 s0,.int .u64 s1,.int .u64 s2,.int .u64 s3]) (by simp[results,results221,go_sem, *]) rfl ?_;refine⟨_,_,_,_,rfl,hs,HV.out,?_⟩;have hbx:=HB1.out;have hsz:=hbx.size
 repeat (first|exact hbx|refine Below.drew ?_|refine Below.alloc ?_ (by first|exact hsz|(simp; done)|(simp; omega)) _|refine Below.setCell ?_ (by first|(simp; done)|(simp; omega)) _)
theorem SP (x y:Nat) (hx:x<FP.M) (hy:y<FP.M) (w:World):Calls prog 221 #[.agg #[.int .u64 (fw x 0:Nat),.int .u64 (fw x 1:Nat),.int .u64 (fw x 2:Nat),.int .u64 (fw x 3:Nat)],.agg #[.int .u64 (fw y 0:Nat),.int .u64 (fw y 1:Nat),.int .u64 (fw y 2:Nat),.int .u64 (fw y 3:Nat)]] w (FwPost ((x+FP.M-y)%FP.M) w):=by
 refine (OC _ _ _ _ _ _ _ _ (cM x) (cM y) (by rw[cK hx]; exact hx) (by rw[cK hy]; exact hy) w).mono ?_;rw[cK hx,cK hy];exact fun e w' h=>FwPost.of (Nat.mod_lt _ fV) h
set_option maxHeartbeats 4000000 in
theorem OB (a0 a1 a2 a3 b0 b1 b2 b3:Nat) (ha:bY a0 a1 a2 a3) (hb:bY b0 b1 b2 b3) (la:aC a0 a1 a2 a3<FP.M) (lb:aC b0 b1 b2 b3<FP.M) (w:World) :
  Calls prog 225 #[.agg #[.int .u64 a0,.int .u64 a1,.int .u64 a2,.int .u64 a3],.agg #[.int .u64 b0,.int .u64 b1,.int .u64 b2,.int .u64 b3]] w (fF (aC a0 a1 a2 a3*aC b0 b1 b2 b3%FP.M) w):=by
 go_enter func225,ntmps225
 go_wp2_with fail;have HM:=Lib.hid ((((Mem.nil w).new (w.heap.size) a0 a1 a2 a3 25 (by simp)).new (w.heap.size+1) b0 b1 b2 b3 25 (by simp)).new (w.heap.size+1+1) 0 0 0 0 25 (by simp));refine (Wn 1 FP oT a0 a1 a2 a3 b0 b1 b2 b3 ha hb la lb _).mono ?_
 rintro e w1 ⟨s0,s1,s2,s3,rfl,hs,hv,hbl⟩
 have HV:=Lib.hid hv;have HM':=Lib.hid (HM.out.on hbl);clear hv hbl;clear HM;have HM:=HM';clear HM';have kr:=HM.out.row (b:=w.heap.size+1+1) (c0:=0) (c1:=0) (c2:=0) (c3:=0) (by simp);have y0:=kr.c0; have y1:=kr.c1; have y2:=kr.c2; have y3:=kr.c3; have yf:=kr.fr;clear kr;have yl:=HM.out.lt (b:=w.heap.size+1+1) (c0:=0) (c1:=0) (c2:=0) (c3:=0) (by simp);have HB1:=Lib.hid HM.out.1;clear HM;go_wp2_with fail;refine bodyPost_ret (v:=.agg #[.int .u64 s0,.int .u64 s1,.int .u64 s2,.int .u64 s3]) (by simp[results,results225,go_sem, *]) rfl ?_;refine⟨_,_,_,_,rfl,hs,HV.out,?_⟩;have hbx:=HB1.out;have hsz:=hbx.size
 repeat (first|exact hbx|refine Below.drew ?_|refine Below.alloc ?_ (by first|exact hsz|(simp; done)|(simp; omega)) _|refine Below.setCell ?_ (by first|(simp; done)|(simp; omega)) _)
theorem SG (x y:Nat) (hx:x<FP.M) (hy:y<FP.M) (w:World):Calls prog 225 #[.agg #[.int .u64 (fw x 0:Nat),.int .u64 (fw x 1:Nat),.int .u64 (fw x 2:Nat),.int .u64 (fw x 3:Nat)],.agg #[.int .u64 (fw y 0:Nat),.int .u64 (fw y 1:Nat),.int .u64 (fw y 2:Nat),.int .u64 (fw y 3:Nat)]] w (FwPost (x*y%FP.M) w):=by
 refine (OB _ _ _ _ _ _ _ _ (cM x) (cM y) (by rw[cK hx]; exact hx) (by rw[cK hy]; exact hy) w).mono ?_;rw[cK hx,cK hy];exact fun e w' h=>FwPost.of (Nat.mod_lt _ fV) h
set_option maxHeartbeats 4000000 in
theorem ZG (a0 a1 a2 a3:Nat) (ha:bY a0 a1 a2 a3) (la:aC a0 a1 a2 a3<FP.M) (w:World) :
  Calls prog 223 #[.agg #[.int .u64 a0,.int .u64 a1,.int .u64 a2,.int .u64 a3]] w (fF ((0+FP.M-aC a0 a1 a2 a3)%FP.M) w):=by
 go_enter func223,ntmps223
 go_wp2_with fail;have HM:=Lib.hid (((Mem.nil w).new (w.heap.size) a0 a1 a2 a3 25 (by simp)).new (w.heap.size+1) 0 0 0 0 25 (by simp));refine (Wm 1 FP oT a0 a1 a2 a3 ha la _).mono ?_
 rintro e w1 ⟨s0,s1,s2,s3,rfl,hs,hv,hbl⟩
 have HV:=Lib.hid hv;have HM':=Lib.hid (HM.out.on hbl);clear hv hbl;clear HM;have HM:=HM';clear HM';have kr:=HM.out.row (b:=w.heap.size+1) (c0:=0) (c1:=0) (c2:=0) (c3:=0) (by simp);have y0:=kr.c0; have y1:=kr.c1; have y2:=kr.c2; have y3:=kr.c3; have yf:=kr.fr;clear kr;have yl:=HM.out.lt (b:=w.heap.size+1) (c0:=0) (c1:=0) (c2:=0) (c3:=0) (by simp);have kr:=HM.out.row (b:=w.heap.size) (c0:=a0) (c1:=a1) (c2:=a2) (c3:=a3) (by simp);have x0:=kr.c0; have x1:=kr.c1; have x2:=kr.c2; have x3:=kr.c3; have xf:=kr.fr;clear kr;have xl:=HM.out.lt (b:=w.heap.size) (c0:=a0) (c1:=a1) (c2:=a2) (c3:=a3) (by simp);go_wp2_with fail;refine bodyPost_ret (v:=.agg #[.int .u64 s0,.int .u64 s1,.int .u64 s2,.int .u64 s3]) (by simp[results,results223,go_sem, *]) rfl ?_;refine⟨_,_,_,_,rfl,hs,HV.out,?_⟩;exact bF (bF HM.out.1 (Nat.le_refl _) _ _ _ _) (by omega) _ _ _ _
theorem Ip (x:Nat) (hx:x<FP.M) (w:World):Calls prog 223 #[.agg #[.int .u64 (fw x 0:Nat),.int .u64 (fw x 1:Nat),.int .u64 (fw x 2:Nat),.int .u64 (fw x 3:Nat)]] w (FwPost ((0+FP.M-x)%FP.M) w):=by
 refine (ZG _ _ _ _ (cM x) (by rw[cK hx]; exact hx) w).mono ?_;rw[cK hx];exact fun e w' h=>FwPost.of (Nat.mod_lt _ fV) h
set_option maxHeartbeats 4000000 in
theorem SH (a0 a1 a2 a3:Nat) (ha:bY a0 a1 a2 a3) (w:World) :
  Calls prog 220 #[.agg #[.int .u64 a0,.int .u64 a1,.int .u64 a2,.int .u64 a3]] w (fF (aC a0 a1 a2 a3%FP.M) w):=by
 go_enter func220,ntmps220
 go_wp2_with fail;have HM:=Lib.hid (((Mem.nil w).new (w.heap.size) a0 a1 a2 a3 25 (by simp)).new (w.heap.size+1) 0 0 0 0 25 (by simp))
 by_cases la:aC a0 a1 a2 a3<FP.M
 ·refine (RA 1 FP oT a0 a1 a2 a3 ha la _).mono ?_
  rintro e w1 ⟨rfl,hbl⟩
  have HL:=Lib.hid la;have HM':=Lib.hid (HM.out.on hbl);clear hbl la;clear HM;have HM:=HM';clear HM';have kr:=HM.out.row (b:=w.heap.size+1) (c0:=0) (c1:=0) (c2:=0) (c3:=0) (by simp);have y0:=kr.c0; have y1:=kr.c1; have y2:=kr.c2; have y3:=kr.c3; have yf:=kr.fr;clear kr;have yl:=HM.out.lt (b:=w.heap.size+1) (c0:=0) (c1:=0) (c2:=0) (c3:=0) (by simp);have kr:=HM.out.row (b:=w.heap.size) (c0:=a0) (c1:=a1) (c2:=a2) (c3:=a3) (by simp);have x0:=kr.c0; have x1:=kr.c1; have x2:=kr.c2; have x3:=kr.c3;clear kr;have xl:=HM.out.lt (b:=w.heap.size) (c0:=a0) (c1:=a1) (c2:=a2) (c3:=a3) (by simp);go_wp2_with fail;refine bodyPost_ret (v:=.agg #[.int .u64 a0,.int .u64 a1,.int .u64 a2,.int .u64 a3]) (by simp[results,results220,go_sem, *]) rfl ?_;refine⟨_,_,_,_,rfl,ha,by rw[Nat.mod_eq_of_lt HL.out],?_⟩;exact bF HM.out.1 (by omega) _ _ _ _
 ·refine (MD 1 21 a0 a1 a2 a3 ha (Or.inr ⟨FP,oT,la,rfl⟩) _).mono ?_
  rintro e w1 ⟨rfl,hbl⟩
  have HM':=Lib.hid (HM.out.on hbl);clear hbl la;clear HM;have HM:=HM';clear HM';have kr:=HM.out.row (b:=w.heap.size) (c0:=a0) (c1:=a1) (c2:=a2) (c3:=a3) (by simp);have x0:=kr.c0; have x1:=kr.c1; have x2:=kr.c2; have x3:=kr.c3;clear kr;have xl:=HM.out.lt (b:=w.heap.size) (c0:=a0) (c1:=a1) (c2:=a2) (c3:=a3) (by simp);go_wp2_with fail;refine (Pd 1 FP oT 0 0 0 0 a0 a1 a2 a3 zok ha _).mono ?_
  rintro e w2 ⟨s0,s1,s2,s3,rfl,hs,hv,hbl⟩
  have HV:=Lib.hid (show aC s0 s1 s2 s3=aC a0 a1 a2 a3%FP.M by rw[hv,show aC 0 0 0 0=0 from rfl,Nat.zero_mul,Nat.zero_add]);have HM':=Lib.hid (HM.out.on hbl);clear hv hbl x0 x1 x2 x3 xl;clear HM;have HM:=HM';clear HM';have kr:=HM.out.row (b:=w.heap.size+1) (c0:=0) (c1:=0) (c2:=0) (c3:=0) (by simp);have y0:=kr.c0; have y1:=kr.c1; have y2:=kr.c2; have y3:=kr.c3; have yf:=kr.fr;clear kr;have yl:=HM.out.lt (b:=w.heap.size+1) (c0:=0) (c1:=0) (c2:=0) (c3:=0) (by simp);have kr:=HM.out.row (b:=w.heap.size) (c0:=a0) (c1:=a1) (c2:=a2) (c3:=a3) (by simp);have x0:=kr.c0; have x1:=kr.c1; have x2:=kr.c2; have x3:=kr.c3; have xf:=kr.fr;clear kr;have xl:=HM.out.lt (b:=w.heap.size) (c0:=a0) (c1:=a1) (c2:=a2) (c3:=a3) (by simp);go_wp2_with fail;refine bodyPost_ret (v:=.agg #[.int .u64 s0,.int .u64 s1,.int .u64 s2,.int .u64 s3]) (by simp[results,results220,go_sem, *]) rfl ?_;refine⟨_,_,_,_,rfl,hs,HV.out,?_⟩;exact bF (bF HM.out.1 (Nat.le_refl _) _ _ _ _) (by omega) _ _ _ _
theorem ZD (a0 a1 a2 a3:Nat) (ha:bY a0 a1 a2 a3) (w:World):Calls prog 220 #[.agg #[.int .u64 a0,.int .u64 a1,.int .u64 a2,.int .u64 a3]] w (FwPost (aC a0 a1 a2 a3%FP.M) w) :=
 (SH a0 a1 a2 a3 ha w).mono fun e w' h=>FwPost.of (Nat.mod_lt _ fV) h
set_option maxHeartbeats 4000000 in
theorem FI (A B:Nat→Nat→Nat) (p q:Option Addr) (la ca cb:Nat) (h2:la≤65536) (ia:Hp FP.M la A) (ib:Hp FP.M la B) (w:World) (hA:FIs w p la A) (hB:FIs w q la B) :
  Calls prog 224 #[.slice p la ca,.slice q la cb] w (FwPost (BA FP.M (NY A) (NY B) la) w):=by
 have HA:=Lib.hid hA;have HB:=Lib.hid hB;have IA:=Lib.hid ia;have IB:=Lib.hid ib;clear hA hB ia ib
 suffices h:Calls prog 224 #[.slice p la ca,.slice q la cb] w (fF (BA FP.M (NY A) (NY B) la) w)from h.mono fun e w' h=>FwPost.of (aPD fV _ _ _) h
 go_enter func224,ntmps224
 go_wp2_with fail;have HM:=Lib.hid ((Mem.nil w).new (w.heap.size) 0 0 0 0 25 (by simp));refine (Wu 1 FP oT p q la ca la cb A B rfl h2 IA.out IB.out _ (HA.out.on HM.out.1) (HB.out.on HM.out.1)).mono ?_
 rintro e w1 ⟨s0,s1,s2,s3,rfl,hs,hv,hbl⟩
 have HV:=Lib.hid hv;have HM':=Lib.hid (HM.out.on hbl);clear hv hbl;clear HM;have HM:=HM';clear HM';have kr:=HM.out.row (b:=w.heap.size) (c0:=0) (c1:=0) (c2:=0) (c3:=0) (by simp);have y0:=kr.c0; have y1:=kr.c1; have y2:=kr.c2; have y3:=kr.c3; have yf:=kr.fr;clear kr;have yl:=HM.out.lt (b:=w.heap.size) (c0:=0) (c1:=0) (c2:=0) (c3:=0) (by simp);have HB1:=Lib.hid HM.out.1;clear HM;go_wp2_with fail;refine bodyPost_ret (v:=.agg #[.int .u64 s0,.int .u64 s1,.int .u64 s2,.int .u64 s3]) (by simp[results,results224,go_sem, *]) rfl ?_;refine⟨_,_,_,_,rfl,hs,HV.out,?_⟩;have hbx:=HB1.out;have hsz:=hbx.size
 repeat (first|exact hbx|refine Below.drew ?_|refine Below.alloc ?_ (by first|exact hsz|(simp; done)|(simp; omega)) _|refine Below.setCell ?_ (by first|(simp; done)|(simp; omega)) _)
end Go.Proofs.YtglgakbkdjhojaaGreat
namespace Go.Proofs.YtglgakbkdjhojaaGreat.Ex
open Go.Proofs.Tryz
open Go.RowKit
theorem QJ {x:Nat} {f:FuncId} {args:List Value} {w:World} {y:Fq} (h:Calls prog f args.toArray w (FwPost x w)) (e:x=y.1):Good prog f (.one (.fl (e1 y))) args w:=by
 subst e;exact h.mono fun e w' h=>h
theorem BH {l:List At} {args:List Value} {w:World} (h:bZ w [.v (.fl l)] args):args=[.agg (aA l).toArray]:=by
 match args,h with
 | [v],h=>rw[show v=_ from h.1]; rfl
 | [],h=>exact h.elim
 | _::_::_,h=>exact h.2.elim
theorem RY {l m:List At} {args:List Value} {w:World} (h:bZ w [.v (.fl l),.v (.fl m)] args):args=[.agg (aA l).toArray,.agg (aA m).toArray]:=by
 match args,h with
 | [v,u],h=>rw[show v=_ from h.1,show u=_ from h.2.1]; rfl
 | [],h=>exact h.elim
 | [_],h=>exact h.2.elim
 | _::_::_::_,h=>exact h.2.2.elim
theorem aZt (x y:Fq) (args:List Value) (w:World) (ha:bZ w [.v (.fl (e1 x)),.v (.fl (e1 y))] args):Good prog 222 (.one (.fl (e1 (F1.add x y)))) args w:=by
 rw[RY ha];exact QJ (ZE x.1 y.1 x.2 y.2 w) rfl
theorem aLJ (x y:Fq):(x.1+FP.M-y.1)%FP.M=(F1.sub x y).1:=by
 show _=(x.1+(0+FP.M-y.1)%FP.M)%FP.M;have:=y.2;rw[Nat.add_mod_mod];congr 1;omega
theorem aQb (x y:Fq) (args:List Value) (w:World) (ha:bZ w [.v (.fl (e1 x)),.v (.fl (e1 y))] args):Good prog 221 (.one (.fl (e1 (F1.sub x y)))) args w:=by
 rw[RY ha];exact QJ (SP x.1 y.1 x.2 y.2 w) (aLJ x y)
theorem aQa (x y:Fq) (args:List Value) (w:World) (ha:bZ w [.v (.fl (e1 x)),.v (.fl (e1 y))] args):Good prog 225 (.one (.fl (e1 (F1.mul x y)))) args w:=by
 rw[RY ha];exact QJ (SG x.1 y.1 x.2 y.2 w) rfl
theorem bEe (x:Fq) (args:List Value) (w:World) (ha:bZ w [.v (.fl (e1 x))] args):Good prog 223 (.one (.fl (e1 (F1.neg x)))) args w:=by
 rw[BH ha];exact QJ (Ip x.1 x.2 w) rfl
theorem aZr (x:Nat) (args:List Value) (w:World) (ha:bZ w [.v (.fl (q1 x))] args):Good prog 220 (.one (.fl (e1 (m1 x)))) args w:=by
 rw[BH ha];exact QJ (ZD _ _ _ _ (cM x) w) rfl
theorem wC:∀{n:Nat} {l:List At} {x:List Fq},Ej n l=some x→x.length=n∧∃r,l=x.map .f++r
 | 0,l,x,h=>by cases h; exact⟨rfl,l,rfl⟩
 | n+1,.f a::r,x,h=>by
  unfold Ej at h;split at h
  ·rename_i l hl;cases h;obtain⟨h1,s,h2⟩:=wC hl;exact⟨by rw[List.length_cons,h1],s,by rw[h2]; rfl⟩
  ·cases h
 | n+1,[],x,h=>by cases h
 | n+1,.q _::_,x,h=>by cases h
 | n+1,.c _::_,x,h=>by cases h
def lw (x:List Fq) (k i:Nat):Nat:=fw ((x[k]?).getD F1.zero).1 i
theorem aIS:∀(x:List Fq) (k:Nat),k<x.length→∀i,i<4→(aA (x.map .f))[k*4+i]?=some (.int .u64 (lw x k i:Nat))
 | a::r,0,_,i,hi=>by
  show (w4 a.1++aA (r.map .f))[0*4+i]?=_;rw[List.getElem?_append_left (by show _<4; omega)]
  match i,hi with
  | 0,_=>rfl
  | 1,_=>rfl
  | 2,_=>rfl
  | 3,_=>rfl
 | a::r,k+1,h,i,hi=>by
  show (w4 a.1++aA (r.map .f))[(k+1)*4+i]?=_;rw[List.getElem?_append_right (by show 4≤_; omega),show (k+1)*4+i-(w4 a.1).length=k*4+i by show _-4=_; omega,aIS r k (by simpa using h) i hi];simp[lw]
theorem UZ {n:Nat} {l:List At} {x:List Fq} (h:Ej n l=some x) (h6:n≤6) {b o:Nat} {w:World} (hb:b<w.heap.size) (hr:w.rangeAt b o (aA l)):FIs w (some ⟨b,o,none⟩) n (lw x):=by
 obtain⟨h1,r,h2⟩:=wC h;refine⟨by omega,fun k hk=>cM _,fun _=>⟨b,o,rfl,hb,fun k hk => ?_⟩⟩;have hc:∀i,i<4→w.cell? ⟨b,o+k*4+i,none⟩=some (.int .u64 (lw x k i:Nat)):=fun i hi=>by
  rw[Nat.add_assoc];refine hr (k*4+i) _ ?_;rw[h2,aT,List.getElem?_append_left (by
   rw[aZ];have:∀x:List Fq,dF (x.map .f)=4*x.length:=fun x=>by
    induction x with
    | nil=>rfl
    | cons a r ih=>show 4+dF (r.map .f)=4*(r.length+1); omega
   rw[this,h1]; omega)]
  exact aIS x k (by omega) i hi
 exact⟨hc 0 (by omega),hc 1 (by omega),hc 2 (by omega),hc 3 (by omega)⟩
theorem QM (x:List Fq) (k:Nat):NY (lw x) k=((x[k]?).getD F1.zero).1:=cK (Fin.isLt _)
theorem Gz:∀(x y:List Fq) (a:Fq) (X Y:Nat→Nat) (k:Nat),x.length=y.length→(∀j,j<x.length→X (k+j)=((x[j]?).getD F1.zero).1)→(∀j,j<y.length→Y (k+j)=((y[j]?).getD F1.zero).1)→a.1=BA FP.M X Y k→(aCE a x y).1=BA FP.M X Y (k+x.length)
 | [],[],a,X,Y,k,_,_,_,h=>h
 | p::x,q::y,a,X,Y,k,hl,hX,hY,h=>by
  have e:(F1.add a (F1.mul p q)).1=BA FP.M X Y (k+1):=by
   show (a.1+p.1*q.1%FP.M)%FP.M=(BA FP.M X Y k+X k*Y k)%FP.M;rw[Nat.add_mod_mod,h];have h1:=hX 0 (by simp);have h2:=hY 0 (by simp);rw[Nat.add_zero]at h1 h2;rw[h1,h2];rfl
  have:=Gz x y (F1.add a (F1.mul p q)) X Y (k+1) (by simpa using hl) (fun j hj=>by have:=hX (j+1) (by simpa using hj); rw[show k+1+j=k+(j+1) by omega,this]; simp)
   (fun j hj=>by have:=hY (j+1) (by simpa using hj); rw[show k+1+j=k+(j+1) by omega,this]; simp) e
  rw[show k+(p::x).length=k+1+x.length by simp; omega];exact this
 | [],_::_,_,_,_,_,h,_,_,_=>by cases h
 | _::_,[],_,_,_,_,h,_,_,_=>by cases h
theorem Ha (x y:List Fq) (hl:x.length=y.length):(tD x y).1=BA FP.M (NY (lw x)) (NY (lw y)) x.length:=by
 have h0:(aCE F1.zero x y).1=BA FP.M (NY (lw x)) (NY (lw y)) (0+x.length):=Gz x y F1.zero _ _ 0 hl (fun j _=>by rw[Nat.zero_add]; exact QM x j) (fun j _=>by rw[Nat.zero_add]; exact QM y j) rfl;rw[Nat.zero_add]at h0;rw[←h0];cases x with
 | nil=>cases y<;>rfl
 | cons a r =>
  cases y with
  | nil=>cases hl
  | cons b s =>
   show (aCE (F1.mul a b) r s).1=(aCE (F1.add F1.zero (F1.mul a b)) r s).1;rw[F1.zero_add]
theorem aZs:∀cs pre r,aIA cs=some (pre,r)→bC pre→∀(args:List Value) (w:World),bZ w cs args→Good prog 224 r args w:=by
 intro cs pre r hg hp args w ha;unfold aIA at hg;split at hg
 ·rename_i l n m l' n' m';cases hb:(Nat.beq n n'&&Nat.ble n 6)<;>rw[hb]at hg
  ·cases hg
  ·simp only[cond_true]at hg;split at hg
   ·rename_i x y hx hy;cases hg;rw[Bool.and_eq_true]at hb;cases Nat.eq_of_beq_eq_true hb.1;have h6:=Nat.le_of_ble_eq_true hb.2
    match args,ha with
    | [v,u],ha =>
     obtain⟨⟨b,o,rfl,h1,h2⟩,⟨b',o',rfl,h3,h4⟩,_⟩:=ha;have l1:=(wC hx).1;have l2:=(wC hy).1;refine QJ (FI (lw x) (lw y) _ _ n m m' (by omega) (fun k hk=>by rw[QM]; exact Fin.isLt _) (fun k hk=>by rw[QM]; exact Fin.isLt _) w (UZ hx h6 h1 h2) (UZ hy h6 h3 h4)) ?_;rw[Ha x y (by omega),l1]
    | [],ha=>exact ha.elim
    | [_],ha=>exact ha.2.elim
    | _::_::_::_,ha=>exact ha.2.2.elim
   ·cases hg
 ·cases hg
theorem bHc:∀cs pre r,gOf cs=some (pre,r)→bC pre→∀(args:List Value) (w:World),bZ w cs args→Good prog 97 r args w:=by
 intro cs pre r hg hp args w ha;unfold gOf at hg;split at hg
 ·rename_i n;cases hb:Nat.blt n 18446744073709551616<;>rw[hb]at hg
  ·cases hg
  ·cases hg;have hn:n<18446744073709551616:=by simpa using hb
   match args,ha with
   | [v],ha =>
    rw[show v=_ from ha.1];refine (LD n hn w).mono ?_
    rintro e w' ⟨rfl,hbl⟩
    refine⟨?_,hbl⟩;have hM:n<FP.M:=Nat.lt_trans hn (by decide);obtain⟨e0,e1',e2',e3'⟩:=oR (s0:=n) (s1:=0) (s2:=0) (s3:=0) ⟨hn,by omega,by omega,by omega⟩ (xN hM) (show aC n 0 0 0=n by unfold aC; omega);show _=Ending.returned (.agg (w4 (n%FP.M)).toArray);rw[Nat.mod_eq_of_lt hM];unfold w4;rw[←e0,←e1',←e2',←e3'];rfl
   | [],ha=>exact ha.elim
   | _::_::_,ha=>exact ha.2.elim
 ·cases hg
theorem aZu (x:Fq) (h:x≠F1.zero) (w:World):Calls prog 256 #[.int .i64 1,.agg (aA (e1 x)).toArray] w (fun e w'=>e=.returned (RV.many [.fl (e1 (cF x)),.im (.int .i64 0)]).den∧Below w.heap.size w w'):=by
 have hz:x.1≠0:=fun e=>h (Fin.ext e)
 refine (Wo 1 0 _ _ _ _ _ (fun W=>aPq 1 FP oT 1 0 0 0 _ _ _ _ (by unfold bY; decide) (cM x.1) (by decide) (by rw[cK x.2]; exact x.2) (by rw[cK x.2]; exact hz) W) w).mono ?_
 rintro e w' ⟨s0,s1,s2,s3,rfl,hs,hv,hb⟩
 have hf:=MB x;rw[Nat.one_mul]at hf;rw[cK x.2,show aC 1 0 0 0=1 from rfl,Nat.one_mul,←hf]at hv;obtain⟨rfl,rfl,rfl,rfl⟩:=oR hs (xN (cF x).2) hv;exact⟨rfl,hb⟩
theorem aZv (w:World):Calls prog 256 #[.int .i64 1,.agg (aA (e1 F1.zero)).toArray] w (fun e w'=>e=.returned (RV.many [.fl (e1 F1.zero),.im (.int .i64 22)]).den∧Below w.heap.size w w'):=by
 refine (Wo 1 22 0 _ _ _ _ (fun W=>aIV 1 FP oT 1 0 0 0 _ _ _ _ (by unfold bY; decide) (cM 0) (by decide) (by rw[cK fV]; exact fV) (by rw[cK fV]) W) w).mono ?_
 rintro e w' ⟨s0,s1,s2,s3,rfl,hs,hv,hb⟩
 obtain⟨rfl,rfl,rfl,rfl⟩:=oR hs (xN fV) hv;exact⟨rfl,hb⟩
theorem bEf (c:Bool):∀cs pre r,aXI c cs=some (pre,r)→bC pre→∀(args:List Value) (w:World),bZ w cs args→Good prog 256 r args w:=by
 intro cs pre r hg hp args w ha;unfold aXI at hg;split at hg
 ·rename_i l;split at hg
  ·rename_i x hx
   match args,ha with
   | [v,u],ha =>
    have h1:v=.int .i64 1:=ha.1;have h2:u=.agg (aA l).toArray:=ha.2.1;rw[nB l x hx]at h2;subst h1; subst h2;cases c
    ·cases hg;have hz:x=F1.zero:=hp.1;subst hz;exact aZv w
    ·cases hg;exact aZu x hp.1 w
   | [],ha=>exact ha.elim
   | [_],ha=>exact ha.2.elim
   | _::_::_::_,ha=>exact ha.2.2.elim
  ·cases hg
 ·cases hg
theorem aOj (c:Bool):TabOk prog (qU c) :=
 ((((((((xQ prog).ad func222 (dS nB nB fun x y _ args w ha=>aZt x y args w ha)).ad func221 (dS nB nB fun x y _ args w ha=>aQb x y args w ha)).add
  func225 (by kernel_rfl) (by kernel_rfl) (dS nB nB fun x y _ args w ha=>aQa x y args w ha)).ad func223 (bP nB fun x _ args w ha=>bEe x args w ha)).add
  func220 (by kernel_rfl) (by kernel_rfl) (bP dG fun x _ args w ha=>aZr x args w ha)).ad func224 aZs).ad func97 bHc).ad func256 (bEf c)
def nv2 (x:Q2):N2:=(x.1.1,x.2.1)
def nv6 (x:Q6):N6:=(nv2 x.1,nv2 x.2.1,nv2 x.2.2)
def mP (x:aQ):mX:=(nv6 x.1,nv6 x.2)
theorem Vp (x:Fq):m1 x.1=x:=Fin.ext (by show wv x.1%FP.M=x.1; unfold wv; rw[cK x.2,Nat.mod_eq_of_lt x.2])
theorem aHC (x:Q2):m2 (nv2 x)=x:=Prod.ext (Vp _) (Vp _)
theorem aRE (x:Q6):m6 (nv6 x)=x:=Prod.ext (aHC _) (Prod.ext (aHC _) (aHC _))
theorem gE (x:aQ):gB (mP x)=x:=Prod.ext (aRE _) (aRE _)
def z0:At:=.f F1.zero
theorem aGW (c:Bool):TabOk prog (NQ c):=aOk c (aOj c)
def vl:At→Option Fq
 | .f x=>some x
 | .q x=>some (m1 x)
 | .c _=>none
def vls:List At→Option (List Fq)
 | []=>some []
 | a::r=>match vl a,vls r with|some x,some l=>some (x::l)|_,_=>none
def OG (l:List At):Option Fq:=match vls l with|some [a]=>some a|_=>none
def zL (l:List At):Option Q2:=match vls l with|some [a,b]=>some (a,b)|_=>none
def rv6 (l:List At):Option Q6:=match vls l with|some [a,b,c,d,e,f]=>some ((a,b),(c,d),(e,f))|_=>none
def FJ (l:List At):Option aQ:=match vls l with|some [a,b,c,d,e,f,g,h,i,j,k,l]=>some (((a,b),(c,d),(e,f)),((g,h),(i,j),(k,l)))|_=>none
def Rdv {α γ:Type} (rd:List At→Option α) (qn:γ→List At) (mm:γ→α):Prop:=∀l x,rd l=some x→∃n,aA l=aA (qn n)∧mm n=x
theorem IU:∀{l:List At} {m:List Fq},vls l=some m→∃ns:List Nat,aA l=aA (ns.map At.q)∧ns.map m1=m
 | [],m,h=>by cases h; exact⟨[],rfl,rfl⟩
 | a::r,m,h=>by
  unfold vls at h;split at h
  ·rename_i x l' h1 h2;cases h;obtain⟨ns,e1,e2⟩:=IU h2;cases a with
   | f y=>cases h1; exact⟨x.1::ns,by show w4 x.1++aA r=w4 x.1++aA (ns.map At.q); rw[e1],by rw[List.map_cons,e2,Vp]⟩
   | q y=>cases h1; exact⟨y::ns,by show w4 y++aA r=w4 y++aA (ns.map At.q); rw[e1],by rw[List.map_cons,e2]⟩
   | c v=>cases h1
  ·cases h
theorem gL:Rdv OG q1 m1:=fun l x h=>by
 unfold OG at h;split at h
 ·rename_i a hn;cases h;obtain⟨ns,e1,e2⟩:=IU hn
  match ns,e2 with
  | [n],e2=>cases e2; exact⟨n,e1,rfl⟩
 ·cases h
theorem dU:Rdv zL q2 m2:=fun l x h=>by
 unfold zL at h;split at h
 ·rename_i a b hn;cases h;obtain⟨ns,e1,e2⟩:=IU hn
  match ns,e2 with
  | [n,m],e2=>cases e2; exact⟨(n,m),e1,rfl⟩
 ·cases h
theorem JJ:Rdv rv6 q6 m6:=fun l x h=>by
 unfold rv6 at h;split at h
 ·rename_i hn;cases h;obtain⟨ns,e1,e2⟩:=IU hn
  match ns,e2 with
  | [a,b,c,d,e,f],e2=>cases e2; exact⟨((a,b),(c,d),(e,f)),e1,rfl⟩
 ·cases h
theorem mB:Rdv FJ rH gB:=fun l x h=>by
 unfold FJ at h;split at h
 ·rename_i hn;cases h;obtain⟨ns,e1,e2⟩:=IU hn
  match ns,e2 with
  | [a,b,c,d,e,f,g,h,i,j,k,l],e2=>cases e2; exact⟨(((a,b),(c,d),(e,f)),((g,h),(i,j),(k,l))),e1,rfl⟩
 ·cases h
theorem gZ {P:Program} {f:FuncId} {α γ:Type} {rd:List At→Option α} {qn:γ→List At} {mm:γ→α} (hr:Rdv rd qn mm) {op:α→List Prop×RV} (h:∀x,bC (op (mm x)).1→∀args w,bZ w [.v (.fl (qn x))] args→Good P f (op (mm x)).2 args w) :
  ∀cs pre r,g1 rd op cs=some (pre,r)→bC pre→∀(args:List Value) (w:World),bZ w cs args→Good P f r args w:=by
 intro cs pre r hg hp args w ha;unfold g1 at hg;split at hg
 ·rename_i l;split at hg
  ·rename_i x hx;obtain⟨n,e1,rfl⟩:=hr l x hx;have e:op (mm n)=(pre,r):=by simpa using hg
   have:=h n (by rw[e]; exact hp) args w (by
    rw[BH ha,e1];exact⟨rfl,trivial⟩)
   rw[e]at this;exact this
  ·cases hg
 ·cases hg
theorem gF {P:Program} {f:FuncId} {α γ α' γ':Type} {rd:List At→Option α} {qn:γ→List At} {mm:γ→α} {rd':List At→Option α'} {qn':γ'→List At} {mm':γ'→α'} (hr:Rdv rd qn mm) (hr':Rdv rd' qn' mm') {op:α→α'→List Prop×RV}
  (h:∀x y,bC (op (mm x) (mm' y)).1→∀args w,bZ w [.v (.fl (qn x)),.v (.fl (qn' y))] args→Good P f (op (mm x) (mm' y)).2 args w) :
  ∀cs pre r,g2 rd rd' op cs=some (pre,r)→bC pre→∀(args:List Value) (w:World),bZ w cs args→Good P f r args w:=by
 intro cs pre r hg hp args w ha;unfold g2 at hg;split at hg
 ·rename_i l m;split at hg
  ·rename_i x y hx hy;obtain⟨n,e1,rfl⟩:=hr l x hx;obtain⟨n',e2,rfl⟩:=hr' m y hy;have e:op (mm n) (mm' n')=(pre,r):=by simpa using hg
   have:=h n n' (by rw[e]; exact hp) args w (by
    rw[RY ha,e1,e2];exact⟨rfl,rfl,trivial⟩)
   rw[e]at this;exact this
  ·cases hg
 ·cases hg
theorem OH (c:Bool)  : bM prog (NQ c) qN (fun _=>true) f185 60 []=some ([],.one (.fl [.f Pf.1,.f Pf.2,.f ME.1,.f ME.2,.f EX.1,.f EX.2,.f Ww.1,.f Ww.2,.f Wv.1,.f Wv.2,.f fb5.1,.f fb5.2])):=by kernel_rfl
def vM (c:Bool):Tab:=(NQ c).add 185 (g0 (.one (.fl [.f Pf.1,.f Pf.2,.f ME.1,.f ME.2,.f EX.1,.f EX.2,.f Ww.1,.f Ww.2,.f Wv.1,.f Wv.2,.f fb5.1,.f fb5.2])))
theorem AH (c:Bool):TabOk prog (vM c):=(aGW c).ad func185 (gT fun w=>aH aE (aGW c) aM func185 (OH c) trivial (args:=[]) trivial)
theorem JK (c:Bool)  : bM prog (vM c) qN (fun _=>true) f183 60 []=some ([],.one (.fl [.f sn0,.f Si,.f sn2,.f sn3,.f Zz,.f Zy])):=by kernel_rfl
def tI (c:Bool):Tab:=(vM c).add 183 (g0 (.one (.fl [.f sn0,.f Si,.f sn2,.f sn3,.f Zz,.f Zy])))
theorem xM (c:Bool):TabOk prog (tI c):=(AH c).ad func183 (gT fun w=>aH aE (AH c) aM func183 (JK c) trivial (args:=[]) trivial)
theorem aES (c:Bool) (x:aQ):bM prog (tI c) qN (fun _=>true) f141 80 [.v (.fl (aP x))]=some ([],.one (.fl (aP (dE x)))):=by kernel_rfl
def Qv (c:Bool):Tab:=(tI c).add 141 (g1 sO fun x=>([],.one (.fl (aP (dE x)))))
theorem Up (c:Bool):TabOk prog (Qv c):=(xM c).ad func141 (bP fK fun x hp args w ha=>aH aE (xM c) aM func141 (aES c x) hp ha)
theorem aAk (c:Bool) (x:aQ):bM prog (Qv c) qN (fun _=>true) f140 80 [.v (.fl (aP x))]=some ([],.one (.fl (aP (cW x)))):=by kernel_rfl
def XC (c:Bool):Tab:=(Qv c).add 140 (g1 sO fun x=>([],.one (.fl (aP (cW x)))))
theorem En (c:Bool):TabOk prog (XC c):=(Up c).ad func140 (bP fK fun x hp args w ha=>aH aE (Up c) aM func140 (aAk c x) hp ha)
theorem aUg {R:Type} (K:CR R) (a b v:R):K.add (K.mul a a) (K.mul v (K.mul b b))=K.sub (K.sub (K.mul (K.add a b) (K.add a (K.mul v b))) (K.mul a b)) (K.mul v (K.mul a b)) :=
 aG K (aV K [a,b,v]) (Z0*Z0+Z2*(Z1*Z1)) ((Z0+Z1)*(Z0+Z2*Z1)-Z0*Z1-Z2*(Z0*Z1)) (by decide)
theorem aUf {R:Type} (K:CR R) (a b:R):K.add (K.mul a b) (K.mul b a)=K.add (K.mul a b) (K.mul a b):=by rw[K.mul_comm b a]
theorem Jw (c:Bool) (x:aQ):bM prog (XC c) qN (fun _=>true) f168 60 [.v (.fl (aP x))]=some ([],.one (.fl (aP ((F6.sub (F6.sub (F6.mul (F6.add x.1 x.2) (F6.add x.1 (F6.mul vE x.2))) (F6.mul x.1 x.2)) (F6.mul vE (F6.mul x.1 x.2)),F6.add (F6.mul x.1 x.2) (F6.mul x.1 x.2)))))):=by kernel_rfl
theorem Ms (x:aQ):aF.mul x x=(F6.sub (F6.sub (F6.mul (F6.add x.1 x.2) (F6.add x.1 (F6.mul vE x.2))) (F6.mul x.1 x.2)) (F6.mul vE (F6.mul x.1 x.2)),F6.add (F6.mul x.1 x.2) (F6.mul x.1 x.2)):=by
 exact Prod.ext (aUg F6 x.1 x.2 vE) (aUf F6 x.1 x.2)
def fJ (c:Bool):Tab:=(XC c).add 168 (g1 sO fun x=>([],.one (.fl (aP (aF.mul x x)))))
theorem eK (c:Bool):TabOk prog (fJ c):=(En c).ad func168 (bP fK fun x hp args w ha=>by show Good _ _ (.one (.fl (aP (aF.mul x x)))) _ _; rw[Ms]; exact aH aE (En c) aM func168 (Jw c x) hp ha)
def cD (n:Int):Int:=(IntKind.i64.wrap (n.tmod 12+12)).tmod 12
def fE:Nat→aQ→aQ
 | 0,x=>x
 | n+1,x=>dE (fE n x)
theorem Mb (c:Bool) (x:mX) (n:Int):aO prog qN (fun _=>⟨fun _=>fJ c,fun _=>true,fun s=>bif Nat.beq s 9 then some (.int .i64 0)else none⟩) f72 60 [.v (.fl (rH x)),.v (.im (.int .i64 n))]=some ([aI .rem .i64 (IntKind.i64.wrap (n.tmod 12+12)) 12=some (.int .i64 0)],.one (.fl (aP (gB x)))):=by kernel_rfl
theorem Ma (c:Bool) (x:mX) (n:Int):aO prog qN (fun _=>⟨fun _=>fJ c,fun _=>true,fun s=>bif Nat.beq s 9 then some (.int .i64 1)else none⟩) f72 60 [.v (.fl (rH x)),.v (.im (.int .i64 n))]=some ([aI .rem .i64 (IntKind.i64.wrap (n.tmod 12+12)) 12=some (.int .i64 1)],.one (.fl (aP (dE (gB x))))):=by kernel_rfl
theorem Lz (c:Bool) (x:mX) (n:Int):aO prog qN (fun _=>⟨fun _=>fJ c,fun _=>true,fun s=>bif Nat.beq s 9 then some (.int .i64 2)else none⟩) f72 60 [.v (.fl (rH x)),.v (.im (.int .i64 n))]=some ([aI .rem .i64 (IntKind.i64.wrap (n.tmod 12+12)) 12=some (.int .i64 2)],.one (.fl (aP (cW (gB x))))):=by kernel_rfl
theorem Ly (c:Bool) (x:mX) (n:Int):aO prog qN (fun _=>⟨fun _=>fJ c,fun _=>true,fun s=>bif Nat.beq s 9 then some (.int .i64 3)else none⟩) f72 60 [.v (.fl (rH x)),.v (.im (.int .i64 n))]=some ([aI .rem .i64 (IntKind.i64.wrap (n.tmod 12+12)) 12=some (.int .i64 3)],.one (.fl (aP (dE (cW (gB x)))))):=by kernel_rfl
theorem Lx (c:Bool) (x:mX) (n:Int):aO prog qN (fun _=>⟨fun _=>fJ c,fun _=>true,fun s=>bif Nat.beq s 9 then some (.int .i64 4)else none⟩) f72 60 [.v (.fl (rH x)),.v (.im (.int .i64 n))]=some ([aI .rem .i64 (IntKind.i64.wrap (n.tmod 12+12)) 12=some (.int .i64 4)],.one (.fl (aP (cW (cW (gB x)))))):=by kernel_rfl
theorem Lw (c:Bool) (x:mX) (n:Int):aO prog qN (fun _=>⟨fun _=>fJ c,fun _=>true,fun s=>bif Nat.beq s 9 then some (.int .i64 5)else none⟩) f72 60 [.v (.fl (rH x)),.v (.im (.int .i64 n))]=some ([aI .rem .i64 (IntKind.i64.wrap (n.tmod 12+12)) 12=some (.int .i64 5)],.one (.fl (aP (dE (cW (cW (gB x))))))):=by kernel_rfl
theorem Lv (c:Bool) (x:mX) (n:Int):aO prog qN (fun _=>⟨fun _=>fJ c,fun _=>true,fun s=>bif Nat.beq s 9 then some (.int .i64 6)else none⟩) f72 60 [.v (.fl (rH x)),.v (.im (.int .i64 n))]=some ([aI .rem .i64 (IntKind.i64.wrap (n.tmod 12+12)) 12=some (.int .i64 6)],.one (.fl (aP (cO (gB x))))):=by kernel_rfl
theorem Lu (c:Bool) (x:mX) (n:Int):aO prog qN (fun _=>⟨fun _=>fJ c,fun _=>true,fun s=>bif Nat.beq s 9 then some (.int .i64 7)else none⟩) f72 60 [.v (.fl (rH x)),.v (.im (.int .i64 n))]=some ([aI .rem .i64 (IntKind.i64.wrap (n.tmod 12+12)) 12=some (.int .i64 7)],.one (.fl (aP (dE (cO (gB x)))))):=by kernel_rfl
theorem Lt (c:Bool) (x:mX) (n:Int):aO prog qN (fun _=>⟨fun _=>fJ c,fun _=>true,fun s=>bif Nat.beq s 9 then some (.int .i64 8)else none⟩) f72 60 [.v (.fl (rH x)),.v (.im (.int .i64 n))]=some ([aI .rem .i64 (IntKind.i64.wrap (n.tmod 12+12)) 12=some (.int .i64 8)],.one (.fl (aP (cW (cO (gB x)))))):=by kernel_rfl
theorem Ls (c:Bool) (x:mX) (n:Int):aO prog qN (fun _=>⟨fun _=>fJ c,fun _=>true,fun s=>bif Nat.beq s 9 then some (.int .i64 9)else none⟩) f72 60 [.v (.fl (rH x)),.v (.im (.int .i64 n))]=some ([aI .rem .i64 (IntKind.i64.wrap (n.tmod 12+12)) 12=some (.int .i64 9)],.one (.fl (aP (dE (cW (cO (gB x))))))):=by kernel_rfl
theorem Cf (c:Bool) (x:mX) (n:Int):aO prog qN (fun _=>⟨fun _=>fJ c,fun _=>true,fun s=>bif Nat.beq s 9 then some (.int .i64 10)else none⟩) f72 60 [.v (.fl (rH x)),.v (.im (.int .i64 n))]=some ([aI .rem .i64 (IntKind.i64.wrap (n.tmod 12+12)) 12=some (.int .i64 10)],.one (.fl (aP (cW (cW (cO (gB x))))))):=by kernel_rfl
theorem Ce (c:Bool) (x:mX) (n:Int):aO prog qN (fun _=>⟨fun _=>fJ c,fun _=>true,fun s=>bif Nat.beq s 9 then some (.int .i64 11)else none⟩) f72 60 [.v (.fl (rH x)),.v (.im (.int .i64 n))]=some ([aI .rem .i64 (IntKind.i64.wrap (n.tmod 12+12)) 12=some (.int .i64 11)],.one (.fl (aP (dE (cW (cW (cO (gB x)))))))):=by kernel_rfl
def aIE:kC
 | [.v (.fl l),.v (.im (.int .i64 n))]=>match FJ l with
  | some x=>some ([],.one (.fl (aP (fE (cD n).toNat x))))
  | none=>none
 | _=>none
theorem AT (k:Nat) (x:aQ):fE (k+2) x=cW (fE k x):=Ek _
theorem DF (x:aQ):fE 6 x=cO x:=by rw[AT 4,AT 2,AT 0,←zD]; rfl
theorem sU (m:Nat):∀(n:Nat) (x:aQ),fE (n+m) x=fE n (fE m x)
 | 0,x=>by rw[Nat.zero_add]; rfl
 | n+1,x=>by rw[show n+1+m=(n+m)+1 by omega]; show dE (fE (n+m) x)=dE (fE n (fE m x)); rw[sU m n x]
theorem aIb (x:aQ):fE 0 x=x:=rfl
theorem Ol (x:aQ):fE 1 x=(dE x):=rfl
theorem VO (x:aQ):fE 2 x=(cW x):=by rw[AT 0]; rfl
theorem Oj (x:aQ):fE 3 x=(dE (cW x)):=by show dE (fE 2 x)=_; rw[AT 0]; rfl
theorem aIa (x:aQ):fE 4 x=(cW (cW x)):=by rw[AT 2,AT 0]; rfl
theorem aHZ (x:aQ):fE 5 x=(dE (cW (cW x))):=by show dE (fE 4 x)=_; rw[AT 2,AT 0]; rfl
theorem aWY (x:aQ):fE 6 x=(cO x):=by rw[show (6:Nat)=0+6 from rfl,sU,DF]; exact aIb _
theorem aWX (x:aQ):fE 7 x=(dE (cO x)):=by rw[show (7:Nat)=1+6 from rfl,sU,DF]; exact Ol _
theorem aWW (x:aQ):fE 8 x=(cW (cO x)):=by rw[show (8:Nat)=2+6 from rfl,sU,DF]; exact VO _
theorem aWV (x:aQ):fE 9 x=(dE (cW (cO x))):=by rw[show (9:Nat)=3+6 from rfl,sU,DF]; exact Oj _
theorem aOG (x:aQ):fE 10 x=(cW (cW (cO x))):=by rw[show (10:Nat)=4+6 from rfl,sU,DF]; exact aIa _
theorem aOF (x:aQ):fE 11 x=(dE (cW (cW (cO x)))):=by rw[show (11:Nat)=5+6 from rfl,sU,DF]; exact aHZ _
theorem fO {n:Int} {k:Int} (h:cD n=k):aI .rem .i64 (IntKind.i64.wrap (n.tmod 12+12)) 12=some (.int .i64 k):=by
 show some (Value.int .i64 ((IntKind.i64.wrap (n.tmod 12+12)).tmod 12))=_;rw[show (IntKind.i64.wrap (n.tmod 12+12)).tmod 12=k from h]
theorem aLA (n:Int) : -12<n.tmod 12∧n.tmod 12<12:=by
 constructor
 ·exact Int.lt_tmod_of_pos n (by omega)
 ·exact Int.tmod_lt_of_pos n (by omega)
theorem Mq (n:Int):cD n=(n.tmod 12+12).tmod 12∧0≤cD n∧cD n<12:=by
 have h:=aLA n;have e:IntKind.i64.wrap (n.tmod 12+12)=n.tmod 12+12:=IntWalk.i64_in _ (by omega);unfold cD;rw[e];exact⟨rfl,Int.tmod_nonneg 12 (by omega),Int.tmod_lt_of_pos _ (by omega)⟩
theorem aPo (c:Bool):∀cs pre r,aIE cs=some (pre,r)→bC pre→∀(args:List Value) (w:World),bZ w cs args→Good prog 72 r args w:=by
 intro cs pre r hg hp args w ha;unfold aIE at hg;split at hg
 ·rename_i l n;split at hg
  ·rename_i x hx;cases hg;obtain⟨a,e1,rfl⟩:=mB l x hx;have ha':bZ w [.v (.fl (rH a)),.v (.im (.int .i64 n))] args:=by
    match args,ha with
    | [v,u],ha =>
     refine⟨?_,ha.2.1,trivial⟩;show v=.agg (aA (rH a)).toArray;rw[←e1];exact ha.1
    | [],ha=>exact ha.elim
    | [_],ha=>exact ha.2.elim
    | _::_::_::_,ha=>exact ha.2.2.elim
   obtain⟨_,h0,h1⟩:=Mq n;have hk:(cD n).toNat=0∨(cD n).toNat=1∨(cD n).toNat=2∨(cD n).toNat=3∨(cD n).toNat=4∨(cD n).toNat=5∨(cD n).toNat=6∨(cD n).toNat=7∨(cD n).toNat=8∨(cD n).toNat=9∨(cD n).toNat=10∨(cD n).toNat=11:=by omega
   rcases hk with h|h|h|h|h|h|h|h|h|h|h|h
   ·rw[h,aIb];exact aB aE (fun _ _=>eK c) aM func72 (Mb c a n) ⟨fO (by omega),trivial⟩ ha'
   ·rw[h,Ol];exact aB aE (fun _ _=>eK c) aM func72 (Ma c a n) ⟨fO (by omega),trivial⟩ ha'
   ·rw[h,VO];exact aB aE (fun _ _=>eK c) aM func72 (Lz c a n) ⟨fO (by omega),trivial⟩ ha'
   ·rw[h,Oj];exact aB aE (fun _ _=>eK c) aM func72 (Ly c a n) ⟨fO (by omega),trivial⟩ ha'
   ·rw[h,aIa];exact aB aE (fun _ _=>eK c) aM func72 (Lx c a n) ⟨fO (by omega),trivial⟩ ha'
   ·rw[h,aHZ];exact aB aE (fun _ _=>eK c) aM func72 (Lw c a n) ⟨fO (by omega),trivial⟩ ha'
   ·rw[h,aWY];exact aB aE (fun _ _=>eK c) aM func72 (Lv c a n) ⟨fO (by omega),trivial⟩ ha'
   ·rw[h,aWX];exact aB aE (fun _ _=>eK c) aM func72 (Lu c a n) ⟨fO (by omega),trivial⟩ ha'
   ·rw[h,aWW];exact aB aE (fun _ _=>eK c) aM func72 (Lt c a n) ⟨fO (by omega),trivial⟩ ha'
   ·rw[h,aWV];exact aB aE (fun _ _=>eK c) aM func72 (Ls c a n) ⟨fO (by omega),trivial⟩ ha'
   ·rw[h,aOG];exact aB aE (fun _ _=>eK c) aM func72 (Cf c a n) ⟨fO (by omega),trivial⟩ ha'
   ·rw[h,aOF];exact aB aE (fun _ _=>eK c) aM func72 (Ce c a n) ⟨fO (by omega),trivial⟩ ha'
  ·cases hg
 ·cases hg
def NR (c:Bool):Tab:=(fJ c).add 72 aIE
theorem QI (c:Bool):TabOk prog (NR c):=(eK c).ad func72 (aPo c)
theorem Mk (c:Bool) (x:mX):bM prog (NR c) qN (fun _=>true) f110 40 [.v (.fl (rH x))]=some ([],.one (.fl (aP (cO (gB x))))):=by kernel_rfl
def Hy (c:Bool):Tab:=(NR c).add 110 (g1 FJ (fun x=>([],.one (.fl (aP (cO x))))))
theorem aBZ (c:Bool):TabOk prog (Hy c):=(QI c).ad func110 (gZ mB fun x hp args w ha=>aH aE (QI c) aM func110 (Mk c x) hp ha)
theorem aDu {x y:Fq} (h:w4 x.1=w4 y.1):x=y:=by
 unfold w4 at h;simp only[List.cons.injEq,Value.int.injEq,true_and,and_true,Int.ofNat_inj]at h;apply Fin.ext;rw[←cK x.2,←cK y.2,h.1,h.2.1,h.2.2.1,h.2.2.2]
theorem AX:∀(l m:List Fq),aA (l.map .f)=aA (m.map .f)→l=m
 | [],[],_=>rfl
 | a::r,b::s,h=>by
  have h':w4 a.1++aA (r.map .f)=w4 b.1++aA (s.map .f):=h;obtain⟨h1,h2⟩:=List.append_inj h' rfl;rw[aDu h1,AX r s h2]
 | [],b::s,h=>by cases h
 | a::r,[],h=>by cases h
theorem aYp {a b:Fq} (h:aA [.f a]=aA [.f b]):a=b:=aDu (by
 have h':w4 a.1++[]=w4 b.1++[]:=h
 rwa [List.append_nil,List.append_nil]at h')
theorem aYo {a b:Q2} (h:aA (e2 a)=aA (e2 b)):a=b:=by
 have:=AX [a.1,a.2] [b.1,b.2] h;simp only[List.cons.injEq,and_true]at this;exact Prod.ext this.1 this.2
def PD:Nat:=4965661367192848881
def BX:Nat:=6*PD
def q4N:Nat:=FP.M^4-FP.M^2+1
theorem pM (x:aQ):dE x=bR aF x FP.M:=(p12 x).symm
def NV:Nat:=FP.M*FP.M
def p6N:Nat:=NV*(NV*NV)
theorem zF (x:aQ):cW x=bR aF x NV:=by rw[←Ek,pM,pM,←eW,NV]
theorem MM (x:aQ):cO x=bR aF x p6N:=by
 rw[←zD,zF,zF,zF,←eW,←eW,p6N]
theorem PH (x:aQ):bR aF x 1=x:=by show aF.mul aF.one x=x; rw[aF.one_mul]
def sZ (y:aQ):aQ:=bR aF y BX
def VU (y:aQ):aQ:=bR aF (sZ y) PD
def hCu (y:aQ):aQ:=bR aF (VU y) BX
def hT (y:aQ):aQ:=aF.mul (VU y) (VU y)
def hG (y:aQ):aQ:=aF.mul (aF.mul (aF.mul (hCu y) (VU y)) (hT y)) (aF.mul (sZ y) (sZ y))
def hR (y:aQ):aQ:=aF.mul (aF.mul (aF.mul (hG y) (hT y)) (sZ y)) (aF.mul y y)
def hX (y:aQ):aQ:=aF.mul (aF.mul (aF.mul (fE 3 y) (fE 2 (aF.mul y (VU y)))) (fE 1 (aF.mul y (cO (hG y))))) (cO (hR y))
def eS2:Nat:=BX*PD
def eCu:Nat:=eS2*BX
def eT:Nat:=eS2+eS2
def eG:Nat:=eCu+eS2+eT+(BX+BX)
def eR:Nat:=eG+eT+BX+(1+1)
def eX:Nat:=NV*FP.M+(1+eS2)*NV+(1+eG*p6N)*FP.M+eR*p6N
theorem VT (y:aQ):VU y=bR aF y eS2:=by unfold VU sZ eS2; rw[←eW]
theorem aXm (y:aQ):hCu y=bR aF y eCu:=by unfold hCu eCu; rw[VT,←eW]
theorem aRP (y:aQ):hT y=bR aF y eT:=by unfold hT eT; rw[VT,←cS]
theorem aRQ (y:aQ):hG y=bR aF y eG:=by unfold hG eG; rw[aXm,VT,aRP,show sZ y=bR aF y BX from rfl,←cS,←cS,←cS,←cS]
theorem bAX (y:aQ):aF.mul y y=bR aF y (1+1):=by rw[cS,PH]
theorem bDb (y:aQ):hR y=bR aF y eR:=by unfold hR eR; rw[aRQ,aRP,show sZ y=bR aF y BX from rfl,bAX,←cS,←cS,←cS]
theorem aWZ (y:aQ):fE 3 y=bR aF y (NV*FP.M):=by rw[Oj,pM,zF,←eW]
theorem aXa (y:aQ):fE 2 y=bR aF y NV:=by rw[VO,zF]
theorem aXb (y:aQ):fE 1 y=bR aF y FP.M:=by rw[Ol,pM]
theorem KL (y:aQ) (n:Nat):aF.mul y (bR aF y n)=bR aF y (1+n):=by rw[cS,PH]
theorem EV (y:aQ):hX y=bR aF y eX:=by
 unfold hX eX;rw[VT,KL,aWZ,aXa,aRQ,MM (bR aF y eG),←eW aF y eG,KL,aXb,bDb,MM (bR aF y eR),←eW,←eW,←eW,←cS,←cS,←cS]
theorem Tc {x k:aQ} (h:aF.mul x k=aF.one) (n:Nat):aF.mul (bR aF x n) (bR aF k n)=aF.one:=by rw[←nQ,h,nP]
theorem aLp {x k:aQ} (h:aF.mul x k=aF.one):x≠aF.zero:=fun e=>by
 rw[e,aF.mul_comm,aF.mul_zero]at h;exact lK.1 h.symm
theorem LU {y:aQ} (h:qT y) (n:Nat):qT (bR aF y n):=by
 obtain⟨hz,h2⟩:=h;obtain⟨k,hk⟩:=lK.2 y hz;refine⟨aLp (Tc hk n),?_⟩;have e:∀z,cW (bR aF z n)=bR aF (cW z) n:=fun z=>(nR aF aF cW (by decide) qW z n).symm
 rw[e,e,←nQ,h2]
theorem bBR:NV+q4N=NV*NV+1:=by kernel_rfl
theorem Mt {y:aQ} (h:qT y):bR aF y q4N=aF.one:=by
 obtain⟨hz,h2⟩:=h;obtain⟨k,hk⟩:=lK.2 y hz;have h3:bR aF y (NV*NV+1)=bR aF y NV:=by
  rw[cS,PH,eW,←zF,←zF];exact h2
 rw[←bBR,cS]at h3;have hu:=Tc hk NV;have h4:aF.mul (bR aF k NV) (aF.mul (bR aF y NV) (bR aF y q4N))=aF.mul (bR aF k NV) (bR aF y NV):=congrArg (fun t=>aF.mul (bR aF k NV) t) h3;rw[←aF.mul_assoc,aF.mul_comm (bR aF k NV),hu,aF.one_mul]at h4;exact h4
def kX:Nat:=eX*Go.Proofs.YtglgakbkdjhojaaGreat.FR.M/q4N
theorem bGN:eX*Go.Proofs.YtglgakbkdjhojaaGreat.FR.M=q4N*kX:=by kernel_rfl
theorem bCX {y:aQ} (h:qT y):bR aF (hX y) Go.Proofs.YtglgakbkdjhojaaGreat.FR.M=aF.one:=by
 rw[EV,←eW,bGN,eW,Mt h,nP]
theorem bDa {y:aQ} (h:qT y):qT (hX y):=by rw[EV]; exact LU h _
theorem bDT (x:aQ):cO (cO x)=x:=by
 refine Prod.ext rfl ?_;show F6.add F6.zero (F6.neg (F6.add F6.zero (F6.neg x.2)))=x.2;rw[F6.zero_add,F6.zero_add,F6.neg_neg]
def eZ (a:aQ):aQ:=aF.mul (cW (aF.mul (cO a) (lZ a))) (aF.mul (cO a) (lZ a))
def lY (a:aQ):aQ:=hX (eZ a)
theorem Xd {a:aQ} (h:xD a≠F1.zero):qT (eZ a):=by
 have hk:aF.mul a (lZ a)=aF.one:=YL h;unfold eZ;generalize lZ a=k at hk;generalize hy:aF.mul (cO a) k=y;have hk2:aF.mul (cO a) (cO k)=aF.one:=by rw[←MN,hk]; decide
 have h1:aF.mul (cO y) y=aF.one:=by
  rw[←hy,MN,bDT];have:aF.mul (aF.mul a (cO k)) (aF.mul (cO a) k)=aF.mul (aF.mul a k) (aF.mul (cO a) (cO k)):=by
   rw[aF.mul_assoc,aF.mul_assoc,aF.mul_left_comm (cO k),aF.mul_left_comm k,aF.mul_comm (cO k) k,aF.mul_left_comm (cO a) k,aF.mul_left_comm k (cO a)]
  rw[this,hk,hk2,aF.one_mul]
 have h3:cW (cW (cW y))=cO y:=zD y;have hne:y≠aF.zero:=fun e=>by rw[e,aF.mul_zero]at h1; exact lK.1 h1.symm
 refine⟨fun e => ?_,?_⟩
 ·have h2:aF.mul (cW (cO y)) (cW y)=aF.one:=by rw[←qW,h1]; decide
  have h4:=congrArg (fun t=>aF.mul (aF.mul (cW (cO y)) (cO y)) t) e;simp only[aF.mul_zero]at h4;have h5:aF.mul (aF.mul (cW (cO y)) (cO y)) (aF.mul (cW y) y)=aF.one:=by
   rw[aF.mul_assoc,aF.mul_left_comm (cO y),←aF.mul_assoc,h2,h1,aF.one_mul]
  rw[h5]at h4;exact lK.1 h4
 ·rw[qW,qW,h3];rw[aF.mul_comm (cO y),aF.mul_assoc,aF.mul_left_comm (cO y),h1,aF.mul_one]
end Go.Proofs.YtglgakbkdjhojaaGreat.Ex
namespace Go.Proofs.YtglgakbkdjhojaaGreat
open Go.Proofs.Tryz
open Go.RowKit
def xU (a0 a1 a2 a3 a4 a5 a6 a7:Nat):Nat:=a0+4294967296*(a1+4294967296*(a2+4294967296*(a3+4294967296*(a4+4294967296*(a5+4294967296*(a6+4294967296*a7))))))
def ok8 (a0 a1 a2 a3 a4 a5 a6 a7:Nat):Prop:=a0<4294967296∧a1<4294967296∧a2<4294967296∧a3<4294967296∧a4<4294967296∧a5<4294967296∧a6<4294967296∧a7<4294967296
theorem pT {a:Nat} (ha:a<18446744073709551616):∃l h:Nat,bits .and .u64 (a:Int) 4294967295=(l:Int)∧(a:Int)/4294967296=(h:Int)∧l<4294967296∧h<4294967296∧Hid (l+4294967296*h=a):=by
 obtain⟨h,l,e1,e2,h1,h2,e⟩:=WH ha;exact⟨l,h,e2,e1,h2,h1,Lib.hid (by omega)⟩
def Rm (A:Nat) (w:World) (e:Ending) (w':World):Prop :=
 ∃h0 h1 h2 h3 h4 h5 h6 h7:Nat,e=.returned (.agg #[.int .u64 h0,.int .u64 h1,.int .u64 h2,.int .u64 h3,.int .u64 h4,.int .u64 h5,.int .u64 h6,.int .u64 h7])∧ok8 h0 h1 h2 h3 h4 h5 h6 h7∧Hid (xU h0 h1 h2 h3 h4 h5 h6 h7=A)∧Below w.heap.size w w'
set_option maxHeartbeats 1000000 in
theorem sW (a0 a1 a2 a3:Nat) (ha:bY a0 a1 a2 a3) (w:World) :
  Calls prog 73 #[.agg #[.int .u64 a0,.int .u64 a1,.int .u64 a2,.int .u64 a3]] w (Rm (aC a0 a1 a2 a3) w):=by
 obtain⟨h0,h1,d0,d1,b0,b1,e0⟩:=pT ha.1;obtain⟨h2,h3,d2,d3,b2,b3,e1⟩:=pT ha.2.1;obtain⟨h4,h5,d4,d5,b4,b5,e2⟩:=pT ha.2.2.1;obtain⟨h6,h7,d6,d7,b6,b7,e3⟩:=pT ha.2.2.2
 go_enter func73,ntmps73
 go_wp2_with fail;refine wp_loop_rounds 5 ?_;rw[rounds_succ];go_wp2_with fail;rw[rounds_succ];go_wp2_with fail;rw[rounds_succ];go_wp2_with fail;rw[rounds_succ];go_wp2_with fail;rw[rounds_succ];go_wp2_with fail;refine bodyPost_ret (v:=.agg #[.int .u64 h0,.int .u64 h1,.int .u64 h2,.int .u64 h3,.int .u64 h4,.int .u64 h5,.int .u64 h6,.int .u64 h7]) (by simp[results,results73,go_sem]) rfl ?_;refine⟨h0,h1,h2,h3,h4,h5,h6,h7,rfl,⟨b0,b1,b2,b3,b4,b5,b6,b7⟩,?_,?_⟩
 ·have:=e0.out; have:=e1.out; have:=e2.out; have:=e3.out;exact Lib.hid (by unfold aC xU; omega)
 repeat (first|exact Below.refl _ _|refine Below.drew ?_|refine Below.alloc ?_ (by first|(simp; done)|(simp; omega)) _)
theorem aPs {l h:Nat} (hl:l<4294967296) (hh:h<4294967296):∃u s:Nat,(h:Int)*4294967296=(u:Int)∧bits .or .u64 (l:Int) (u:Int)=(s:Int)∧u<18446744073709551616∧s<18446744073709551616∧Hid (s=l+4294967296*h):=by
 obtain⟨s,e,hs,f⟩:=yO (k:=32) (lo:=l) (up:=h*4294967296) (by omega) (by omega) (Lib.hid (by omega)) (Lib.hid ⟨h,by omega⟩);have:=f.out;exact⟨h*4294967296,s,by omega,e,by omega,hs,Lib.hid (by omega)⟩
section
variable {P:Program} {ops:Array Oper} {Q:Exit→Act→World→Prop} {md:Region.Mode}
def aSl (md:Region.Mode) (ops:Array Oper) (n:Nat):Bool :=
 (List.range n).all fun i=>match ops[i]? with
  | some o=>o.after.all fun e => !Region.binds md e||decide (e.on<i)
  | none=>false
def xZ (md:Region.Mode) (ops:Array Oper) (got:Nat→Bool) (i:Nat):Bool :=
 match ops[i]? with
  | some o=>o.after.all fun e => !Region.binds md e||got e.on
  | none=>false
def lO (listed:Array Bool):Nat→Nat
 | 0=>0
 | n+1=>lO listed n+if listed.getD n false=true then 0 else 1
theorem pH (listed:Array Bool) (n:Nat):lO listed (n+1)=lO listed n+if listed.getD n false=true then 0 else 1:=rfl
theorem IX {listed:Array Bool} {i:Nat} (hi:i<listed.size) (h:listed.getD i false=false):∀n,lO (listed.setIfInBounds i true) n+(if i<n then 1 else 0)=lO listed n
 | 0=>by simp[lO]
 | n+1=>by
  have ih:=IX hi h n;rw[pH,pH]
  by_cases e:i=n
  ·subst e;have h1:(listed.setIfInBounds i true).getD i false=true:=by simp[hi]
   rw[h1,h];simp at ih ⊢;omega
  ·rw[getD_set_ne false e]
   by_cases h2:i<n
   ·rw[if_pos h2]at ih; rw[if_pos (show i<n+1 by omega)]; omega
   ·rw[if_neg h2]at ih; rw[if_neg (show ¬i<n+1 by omega)]; omega
theorem uE {listed:Array Bool}:∀{n:Nat},lO listed n=0→∀j,j<n→listed.getD j false=true
 | 0,_,j,hj=>by omega
 | n+1,h,j,hj=>by
  rw[pH]at h
  by_cases e:listed.getD n false=true
  ·rw[if_pos e]at h
   rcases Nat.lt_or_ge j n with h1|h1
   ·exact uE (by omega) j h1
   ·obtain rfl:j=n:=by omega
    exact e
  ·rw[if_neg e]at h; omega
theorem uF {listed:Array Bool}:∀{n:Nat},0<lO listed n→∃j,j<n∧listed.getD j false=false∧∀k,k<j→listed.getD k false=true
 | 0,h=>by unfold lO at h; omega
 | n+1,h=>by
  rcases Nat.eq_zero_or_pos (lO listed n)with h0|h0
  ·unfold lO at h;rw[h0]at h;refine⟨n,by omega,?_,uE h0⟩;cases e:listed.getD n false with
   | true=>rw[e]at h; simp at h
   | false=>rfl
  ·obtain⟨j,hj,h1,h2⟩:=uF h0;exact⟨j,by omega,h1,h2⟩
def rX (n m:Nat):Array Bool:=Array.replicate n true++Array.replicate (m-n) false
theorem zC {n:Nat} {Inv:(Nat→Bool)→Act→World→Prop} {l:List Oper} (hl:ops=l.toArray) (hn:n<ops.size)
  (hs:Region.sinkB md ops n=true) (hc:Region.chainB md ops n=true) (hb:aSl md ops n=true) (hq:Region.seqB md ops (ops.size-n) n (rX n ops.size)=true)
  (step:∀(got:Nat→Bool) b u i,i<n→got i=false→xZ md ops got i=true→Inv got b u→wpOp P ops Q i (Inv (fun j=>j==i||got j)) b u)
  (tail:∀got b u,(∀j,j<n→got j=true)→Inv got b u→wpList P ops Q (l.drop n) b u) :
  ∀(m:Nat) (listed:Array Bool) (b:Act) (u:World),HeadInv md ops n listed→lO listed n=m→Inv (fun j=>listed.getD j false) b u→wpAny P md ops Q (m+(ops.size-n)) listed b u
 | 0,listed,b,u,inv,hm,h=>by
  have hall:=uE hm;have he:listed=rX n ops.size:=by
   refine Array.ext (by simp[rX,inv.size]; omega) fun j h1 h2 => ?_
   rcases Nat.lt_or_ge j n with hj|hj
   ·have:=hall j hj;simp[h1]at this;rw[this];simp[rX,hj]
   ·have:=inv.tail j hj (by rw[←inv.size]; exact h1);simp[h1]at this;rw[this];simp[rX,hj]
  subst he;have hlen:(l.drop n).length=ops.size-n:=by subst hl; simp
  rw[Nat.zero_add,←hlen];exact wpAny_of_seq (l.drop n) n _ b u (fun j=>by subst hl; simp[List.getElem?_drop]) (by rw[hlen]; exact hq) (tail _ b u hall h)
 | m+1,listed,b,u,inv,hm,h=>by
  rw[show m+1+(ops.size-n)=m+(ops.size-n)+1 by omega];refine⟨fun h0 => ?_,fun i hi => ?_⟩
  ·obtain⟨j,hj,h1,h2⟩:=uF (n:=n) (listed:=listed) (by omega);have hjr:j∈Region.ready md ops listed:=by
    have hbj:=List.all_eq_true.1 hb j (List.mem_range.2 hj);cases ho:ops[j]? with
    | none=>rw[ho]at hbj; cases hbj
    | some o =>
     rw[ho]at hbj;refine mem_ready.2 ⟨getD_in (by rw[inv.size]; omega) h1,o,ho,fun e he hbi=>h2 _ ?_⟩;have:=(Array.all_eq_true_iff_forall_mem.1 hbj) e he;simp[hbi]at this;exact this
   rw[h0]at hjr; cases hjr
  ·obtain⟨hun,o,ho,hall⟩:=mem_ready.1 hi;have hin:i<n:=by
    rcases Nat.lt_or_ge i n with h'|h'
    ·exact h'
    ·obtain⟨j,hj,h1,h2⟩:=uF (n:=n) (listed:=listed) (by omega);exact absurd hi (tail_waits hs hc hn inv _ j rfl hj (getD_in (by rw[inv.size]; omega) h1) i h')
   have his:i<listed.size:=by rw[inv.size]; omega
   have hun':=getD_both hun;refine wpOp_mono (fun b' u' h' => ?_) (step _ b u i hin hun' (by
    unfold xZ;rw[ho];refine Array.all_eq_true_iff_forall_mem.2 fun e he => ?_
    cases hbi:Region.binds md e with
    | false=>rfl
    | true=>simpa[hbi]using hall e he hbi) h)
   refine zC hl hn hs hc hb hq step tail m _ b' u' (inv.set hi hin) ?_ ?_
   ·have:=IX his hun' n;rw[if_pos hin]at this; omega
   ·have hf:(fun j=>(listed.setIfInBounds i true).getD j false)=fun j=>j==i||listed.getD j false:=by
     funext j
     by_cases e:j=i
     ·subst e; simp[his]
     ·rw[getD_set_ne false (Ne.symm e)]; simp[e]
    rw[hf]; exact h'
theorem IY (k:Nat):∀n,lO (Array.replicate k false) n=n
 | 0=>rfl
 | n+1=>by rw[pH,IY k n,getD_replicate_false]; simp
theorem Db (n:Nat) (Inv:(Nat→Bool)→Act→World→Prop) {id:Nat} {a:Act} {w:World} {l:List Oper} (hm:P.follows .mixedOrders=true) (hn:n<l.length)
  (hs:Region.sinkB .any l.toArray n=true) (hc:Region.chainB .any l.toArray n=true) (hb:aSl .any l.toArray n=true) (hq:Region.seqB .any l.toArray (l.toArray.size-n) n (rX n l.toArray.size)=true)
  (start:Inv (fun _=>false) a w.drew)
  (step:∀(got:Nat→Bool) b u i,i<n→got i=false→xZ .any l.toArray got i=true→Inv got b u→wpOp P l.toArray Q i (Inv (fun j=>j==i||got j)) b u)
  (tail:∀got b u,(∀j,j<n→got j=true)→Inv got b u→wpList P l.toArray Q (l.drop n) b u):(Code.region id l.toArray true).wp P Q a w:=by
 have hn':n<l.toArray.size:=by simpa using hn
 have inv0:HeadInv .any l.toArray n (Array.replicate l.toArray.size false) :=
  ⟨by simp,fun j oj _ hl=>(by rw[getD_replicate_false]at hl; cases hl),fun t _ ht=>getD_in (by simpa using ht) (getD_replicate_false _ _)⟩
 refine wp_region_any hm ?_;have hf:(fun j=>(Array.replicate l.toArray.size false).getD j false)=fun _:Nat=>false:=by funext j; exact getD_replicate_false _ _
 have H:=zC (md:=.any) rfl hn' hs hc hb hq step tail n _ a w.drew inv0 (IY _ n) (by rw[hf]; exact start);rw[show n+(l.toArray.size-n)=l.toArray.size by omega]at H;exact H
end
end Go.Proofs.YtglgakbkdjhojaaGreat
