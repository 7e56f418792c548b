/- Ea04 -/
import Derived.Deep.LoopGhost
import Derived.KernelRfl
import Derived.Deep.RegionWith
import Derived.Lib.Hide
import Derived.Below
import Derived.LoopTactic
import Derived.Outline
import Derived.OrdersHeld
import Derived.Deep.RegionHeld
import Derived.Deep.DeepCutAuto
import Derived.Test.YtpbljiejmfahcaaGreatDoorEa03
import Derived.Test.YtpbljiejmfahcaaGreatDoorEa02
import Derived.Test.YtpbljiejmfahcaaGreatDoorEa00
import Derived.Test.YtpbljiejmfahcaaGreatDoorProg
set_option maxRecDepth 100000
set_option linter.unusedVariables false
set_option linter.unusedSimpArgs false
set_option linter.unnecessarySimpa false
namespace Go.Proofs.YtpbljiejmfahcaaGreatDoor
open Go.Proofs.Tryz
open Go.RowKit
theorem Ar (F:FC) (hF:F.Ok) {x y0 y1 y2 y3 t0 t1 t2 t3:Nat} {X:Nat→Nat} {k:Nat} (hk:k<4) (hx:x<18446744073709551616) (hX:X k=x) (hy:cC y0 y1 y2 y3) (hY:aC y0 y1 y2 y3<F.M) (ht:cC t0 t1 t2 t3) (g:NN F.M X (aC y0 y1 y2 y3) k (aC t0 t1 t2 t3)) :
  ∃o0 l0 cl c0 z o1 l1 c1 n0 o2 l2 c2 n1 o3 l3 c3 n2 n3:Nat,
  (∀w,Calls prog 135 #[.int .u64 x,.int .u64 y0,.int .u64 t0,.int .u64 0] w fun e w'=>e=.returned (.tuple #[.int .u64 (o0:Nat),.int .u64 (l0:Nat)])∧w'=w) ∧
  IntKind.u64.wrap ((l0:Int)*(F.inv:Int))=(cl:Int) ∧
  (∀w,Calls prog 135 #[.int .u64 cl,.int .u64 F.m0,.int .u64 l0,.int .u64 0] w fun e w'=>e=.returned (.tuple #[.int .u64 (c0:Nat),.int .u64 (z:Nat)])∧w'=w) ∧
  (∀w,Calls prog 135 #[.int .u64 x,.int .u64 y1,.int .u64 t1,.int .u64 o0] w fun e w'=>e=.returned (.tuple #[.int .u64 (o1:Nat),.int .u64 (l1:Nat)])∧w'=w) ∧
  (∀w,Calls prog 135 #[.int .u64 cl,.int .u64 F.m1,.int .u64 l1,.int .u64 c0] w fun e w'=>e=.returned (.tuple #[.int .u64 (c1:Nat),.int .u64 (n0:Nat)])∧w'=w) ∧
  (∀w,Calls prog 135 #[.int .u64 x,.int .u64 y2,.int .u64 t2,.int .u64 o1] w fun e w'=>e=.returned (.tuple #[.int .u64 (o2:Nat),.int .u64 (l2:Nat)])∧w'=w) ∧
  (∀w,Calls prog 135 #[.int .u64 cl,.int .u64 F.m2,.int .u64 l2,.int .u64 c1] w fun e w'=>e=.returned (.tuple #[.int .u64 (c2:Nat),.int .u64 (n1:Nat)])∧w'=w) ∧
  (∀w,Calls prog 135 #[.int .u64 x,.int .u64 y3,.int .u64 t3,.int .u64 o2] w fun e w'=>e=.returned (.tuple #[.int .u64 (o3:Nat),.int .u64 (l3:Nat)])∧w'=w) ∧
  (∀w,Calls prog 135 #[.int .u64 cl,.int .u64 F.m3,.int .u64 l3,.int .u64 c2] w fun e w'=>e=.returned (.tuple #[.int .u64 (c3:Nat),.int .u64 (n2:Nat)])∧w'=w) ∧
  (o3:Int)+(c3:Int)=(n3:Int)∧o3+c3<18446744073709551616∧cC n0 n1 n2 n3∧Hid (NN F.M X (aC y0 y1 y2 y3) (k+1) (aC n0 n1 n2 n3)):=by
 obtain⟨o0,l0,r0,bo0,bl0,e0⟩:=tL hx hy.1 ht.1 (show 0<18446744073709551616 by omega);obtain⟨cl,hcl⟩:∃cl,cl=l0*F.inv%18446744073709551616:=⟨_,rfl⟩
 have bcl:cl<18446744073709551616:=by omega
 obtain⟨c0,z,s0,bc0,bz,f0⟩:=tL bcl hF.okm.1 bl0 (show 0<18446744073709551616 by omega);obtain⟨o1,l1,r1,bo1,bl1,e1⟩:=tL hx hy.2.1 ht.2.1 bo0;obtain⟨c1,n0,s1,bc1,bn0,f1⟩:=tL bcl hF.okm.2.1 bl1 bc0;obtain⟨o2,l2,r2,bo2,bl2,e2⟩:=tL hx hy.2.2.1 ht.2.2.1 bo1;obtain⟨c2,n1,s2,bc2,bn1,f2⟩:=tL bcl hF.okm.2.2.1 bl2 bc1;obtain⟨o3,l3,r3,bo3,bl3,e3⟩:=tL hx hy.2.2.2 ht.2.2.2 bo2;obtain⟨c3,n2,s3,bc3,bn2,f3⟩:=tL bcl hF.okm.2.2.2 bl3 bc2;have hz:z=0:=by
  have h:=MN (l:=l0) hF.turn;rw[←hcl]at h;have:=f0.out;omega
 subst hz;have ha:=DP (e0.out) (f0.out) e1.out f1.out e2.out f2.out e3.out f3.out;have hg:=SJ (X:=X) hk g (by rw[hX]; exact hx) hY bcl (N:=aC n0 n1 n2 (o3+c3)) (by rw[hX]; exact ha);have hn3:o3+c3<18446744073709551616:=VD (B:=0) (Nat.lt_trans hg.1 hF.two);refine⟨o0,l0,cl,c0,0,o1,l1,c1,n0,o2,l2,c2,n1,o3,l3,c3,n2,o3+c3,r0,?_,s0,r1,s1,r2,s2,r3,s3,?_,hn3,⟨bn0,bn1,bn2,hn3⟩,Lib.hid hg⟩
 ·rw[hcl,←Int.natCast_mul]; exact lG _
 ·exact (Int.natCast_add _ _).symm
theorem LG (x0 x1 x2 x3 k:Nat) (hk:k<4) (w:World):(Instr.index 104 (.agg #[.int .u64 x0,.int .u64 x1,.int .u64 x2,.int .u64 x3]) (.int .i64 k)).run prog w=.ok (.int .u64 (dL [x0,x1,x2,x3] k:Nat)) w:=by
 have h0:∀w,(Instr.index 104 (.agg #[.int .u64 x0,.int .u64 x1,.int .u64 x2,.int .u64 x3]) (.int .i64 0)).run prog w=.ok (.int .u64 x0) w:=fun _=>by kernel_rfl
 have h1:∀w,(Instr.index 104 (.agg #[.int .u64 x0,.int .u64 x1,.int .u64 x2,.int .u64 x3]) (.int .i64 1)).run prog w=.ok (.int .u64 x1) w:=fun _=>by kernel_rfl
 have h2:∀w,(Instr.index 104 (.agg #[.int .u64 x0,.int .u64 x1,.int .u64 x2,.int .u64 x3]) (.int .i64 2)).run prog w=.ok (.int .u64 x2) w:=fun _=>by kernel_rfl
 have h3:∀w,(Instr.index 104 (.agg #[.int .u64 x0,.int .u64 x1,.int .u64 x2,.int .u64 x3]) (.int .i64 3)).run prog w=.ok (.int .u64 x3) w:=fun _=>by kernel_rfl
 have:k=0∨k=1∨k=2∨k=3:=by omega
 rcases this with rfl|rfl|rfl|rfl
 ·exact h0 w
 ·exact h1 w
 ·exact h2 w
 ·exact h3 w
set_option maxHeartbeats 4000000 in
theorem dE (F:FC) (hF:F.Ok) (b x0 x1 x2 x3 y0 y1 y2 y3:Nat) (hx:cC x0 x1 x2 x3) (hy:cC y0 y1 y2 y3) (hY:aC y0 y1 y2 y3<F.M) (w:World) (hk:KIs w b F) :
  Calls prog 118 #[.pointer (some ⟨b,0,none⟩),.agg #[.int .u64 x0,.int .u64 x1,.int .u64 x2,.int .u64 x3],.agg #[.int .u64 y0,.int .u64 y1,.int .u64 y2,.int .u64 y3]] w (jQ (aC x0 x1 x2 x3*aC y0 y1 y2 y3*F.Ri%F.M) w):=by
 obtain⟨X,eX⟩:∃X,X=dL [x0,x1,x2,x3]:=⟨_,rfl⟩
 have HX:=Lib.hid eX;have hXlt:=GI hx;have HXlt:=Lib.hid hXlt;have HY:=Lib.hid hY;have HF:=Lib.hid hF;have HK:=Lib.hid hk;have HI:=Lib.hid (LG x0 x1 x2 x3);have hL:=hk.lt;have hL1:b<w.heap.size+1:=by omega
 have hL2:b<w.heap.size+1+1:=by omega
 have k0:=hk.k0; have k1:=hk.k1; have k2:=hk.k2; have k3:=hk.k3; have k4:=hk.k4;have bi:=hF.inv;have HG:=Lib.hid (SI (Y:=aC y0 y1 y2 y3) X (show 0<F.M by have:=hF.gt; omega));clear eX hXlt hY hF hk
 go_enter func118,ntmps118
 go_wp2_with fail
 go_loop [8,9,10,11,23] (fun v0 v1 v2 v3 i=>∃k t0 t1 t2 t3:Nat,k≤4∧i=.int .i64 k∧v0=.int .u64 t0∧v1=.int .u64 t1∧v2=.int .u64 t2∧v3=.int .u64 t3∧cC t0 t1 t2 t3∧Hid (NN F.M X (aC y0 y1 y2 y3) k (aC t0 t1 t2 t3))) (fun _ _ _ _ i=>4-(intOf i).toNat)
 case atStart=>exact⟨0,0,0,0,0,by omega,rfl,rfl,rfl,rfl,rfl,⟨by omega,by omega,by omega,by omega⟩,HG⟩
 case round =>
  obtain⟨k,t0,t1,t2,t3,hk,rfl,rfl,rfl,rfl,rfl,ht,g⟩:=hrel
  by_cases hlt:k<4
  ·obtain⟨x,ex⟩:∃x,x=dL [x0,x1,x2,x3] k:=⟨_,rfl⟩
   have hi:=HI.out k hlt;rw[←ex]at hi;have bx:x<18446744073709551616:=by rw[ex]; exact HXlt.out k
   obtain⟨o0,l0,cl,c0,z,o1,l1,c1,n0,o2,l2,c2,n1,o3,l3,c3,n2,n3,r0,q,s0,r1,s1,r2,s2,r3,s3,p,hp,hn,hg⟩:=Ar F HF.out hlt bx (by rw[ex,HX.out]) hy HY.out ht g.out;clear ex g;go_wp2_with (first|(with_reducible refine (r0 _).mono ?_; rintro e w' ⟨rfl,rfl⟩)|(with_reducible refine (s0 _).mono ?_; rintro e w' ⟨rfl,rfl⟩)|(with_reducible refine (r1 _).mono ?_; rintro e w' ⟨rfl,rfl⟩)|(with_reducible refine (s1 _).mono ?_; rintro e w' ⟨rfl,rfl⟩)|(with_reducible refine (r2 _).mono ?_; rintro e w' ⟨rfl,rfl⟩)|(with_reducible refine (s2 _).mono ?_; rintro e w' ⟨rfl,rfl⟩)|(with_reducible refine (r3 _).mono ?_; rintro e w' ⟨rfl,rfl⟩)|(with_reducible refine (s3 _).mono ?_; rintro e w' ⟨rfl,rfl⟩))
   go_round
   case rel=>exact⟨k+1,n0,n1,n2,n3,by omega,by go_num,rfl,rfl,rfl,rfl,hn,hg⟩
   case measure=>simp[intOf]; omega
  ·obtain rfl:k=4:=by omega
   obtain⟨ge,gv⟩:=Ai HF.out (x0:=x0) (x1:=x1) (x2:=x2) (x3:=x3) (by rw[HX.out]; rfl) (by rw[HX.out]; rfl) (by rw[HX.out]; rfl) (by rw[HX.out]; rfl) g.out;have HGV:=Lib.hid gv;clear gv g;go_wp2_with fail;refine (vJ F HF.out b t0 t1 t2 t3 ht ge _ (HK.out.same ?_)).mono ?_
   ·repeat (first|exact Below.refl _ _|refine Below.drew ?_|refine Below.alloc ?_ (by first|(simp; done)|(simp; omega)) _)
   rintro e w1 ⟨s0,s1,s2,s3,rfl,hs,hv,hbl⟩
   have HV:=Lib.hid hv;obtain⟨hc,hf⟩:=tR hbl;have hz:w.heap.size+1+1<w1.heap.size:=by have:=hbl.size; simp at this; omega
   have HBL:=Lib.hid hbl;clear hv hbl;go_wp2_with fail;refine bodyPost_ret (v:=.agg #[.int .u64 s0,.int .u64 s1,.int .u64 s2,.int .u64 s3]) (by simp[results,results118,go_sem, *]) rfl ?_;refine⟨_,_,_,_,rfl,hs,HV.out.trans HGV.out,?_⟩;refine bF (Below.trans ?_ (HBL.out.mono (by simp; omega))) (by omega) _ _ _ _
   repeat (first|exact Below.refl _ _|refine Below.drew ?_|refine Below.alloc ?_ (by first|(simp; done)|(simp; omega)) _)
def LC (V M:Nat):Bool:=decide (V<M)
theorem Rm {V M c D:Nat} (hD:D<115792089237316195423570985008687907853269984665640564039457584007913129639936) (hc:c≤1) (e:D+M=V+115792089237316195423570985008687907853269984665640564039457584007913129639936*c) (hM:M<115792089237316195423570985008687907853269984665640564039457584007913129639936) (hV:V<115792089237316195423570985008687907853269984665640564039457584007913129639936):((c:Int)==1)=LC V M:=by
 have:c=0∨c=1:=by omega
 unfold LC
 rcases this with rfl|rfl
 ·rw[decide_eq_false (by omega)]; rfl
 ·rw[decide_eq_true (by omega)]; rfl
theorem WQ {a b:Bool} (h:a=b):Ending.returned (.bool a)=.returned (.bool b):=by rw[h]
set_option maxHeartbeats 1000000 in
theorem eP (F:FC) (hF:F.Ok) (b a0 a1 a2 a3:Nat) (ha:cC a0 a1 a2 a3) (w:World) (hk:KIs w b F) :
  Calls prog 60 #[.pointer (some ⟨b,0,none⟩),.agg #[.int .u64 a0,.int .u64 a1,.int .u64 a2,.int .u64 a3]] w fun e w'=>e=.returned (.bool (LC (aC a0 a1 a2 a3) F.M))∧Below w.heap.size w w':=by
 obtain⟨d0,c0,d1,c1,d2,c2,d3,c3,r0,r1,r2,r3,hd,hc,e⟩:=BP ha hF.okm;have HB:=Lib.hid (Rm (bN hd) hc e.out (bN hF.okm) (bN ha));have hL:=hk.lt;have hL':b≠w.heap.size:=by omega
 have k0:=hk.k0; have k1:=hk.k1; have k2:=hk.k2; have k3:=hk.k3;clear hk hF e
 go_enter func60,ntmps60
 go_wp2_with fail
 go_quiet (fail)
 go_wp2_with fail
 go_quiet (fail)
 go_wp2_with fail
 go_quiet (fail)
 go_wp2_with fail
 go_quiet (fail)
 go_wp2_with fail;go_ret;exact⟨WQ HB.out,by repeat (first|exact Below.refl _ _|refine Below.drew ?_|exact bI _ _ _|refine Below.alloc ?_ (by first|(simp; done)|(simp; omega)) _|refine Below.trans ?_ (bI _ _ _))⟩
set_option maxHeartbeats 1000000 in
theorem vE (F:FC) (hF:F.Ok) (b a0 a1 a2 a3 b0 b1 b2 b3:Nat) (ha:cC a0 a1 a2 a3) (hb:cC b0 b1 b2 b3) (la:aC a0 a1 a2 a3<F.M) (lb:aC b0 b1 b2 b3<F.M) (w:World) (hk:KIs w b F) :
  Calls prog 137 #[.pointer (some ⟨b,0,none⟩),.agg #[.int .u64 a0,.int .u64 a1,.int .u64 a2,.int .u64 a3],.agg #[.int .u64 b0,.int .u64 b1,.int .u64 b2,.int .u64 b3]] w (jQ ((aC a0 a1 a2 a3+aC b0 b1 b2 b3)%F.M) w):=by
 obtain⟨d0,c0,d1,c1,d2,c2,d3,c3,r0,r1,r2,r3,hd,hc,e⟩:=PM ha hb;have e':aC d0 d1 d2 d3=aC a0 a1 a2 a3+aC b0 b1 b2 b3:=by have:=e.out; have:=hF.two; omega
 rw[←e'];have hlt:aC d0 d1 d2 d3<2*F.M:=by omega
 have HK:=Lib.hid hk;have hL:=hk.lt;clear e e' hk
 go_enter func137,ntmps137
 go_wp2_with fail;refine (vJ F hF b d0 d1 d2 d3 hd hlt _ (HK.out.same ?_)).mono ?_
 ·repeat (first|exact Below.refl _ _|refine Below.drew ?_|refine Below.alloc ?_ (by first|(simp; done)|(simp; omega)) _)
 rintro e w1 ⟨s0,s1,s2,s3,rfl,hs,hv,hbl⟩
 have HV:=Lib.hid hv;obtain⟨hc,hf⟩:=tR hbl;have hz:w.heap.size+1+1<w1.heap.size:=by have:=hbl.size; simp at this; omega
 have HBL:=Lib.hid hbl;clear hv hbl;go_wp2_with fail;refine bodyPost_ret (v:=.agg #[.int .u64 s0,.int .u64 s1,.int .u64 s2,.int .u64 s3]) (by simp[results,results137,go_sem, *]) rfl ?_;refine⟨_,_,_,_,rfl,hs,HV.out,?_⟩;refine bF (Below.trans ?_ (HBL.out.mono (by simp; omega))) (by omega) _ _ _ _
 repeat (first|exact Below.refl _ _|refine Below.drew ?_|refine Below.alloc ?_ (by first|(simp; done)|(simp; omega)) _)
theorem RY {A B D M c:Nat} (ha:A<M) (hb:B<M) (e:D+B=A+115792089237316195423570985008687907853269984665640564039457584007913129639936*c) (hc:c≤1) (hD:D<115792089237316195423570985008687907853269984665640564039457584007913129639936) (hM:2*M<115792089237316195423570985008687907853269984665640564039457584007913129639936) :
  (c=0→D=(A+M-B)%M)∧(c=1→∀E c',E+115792089237316195423570985008687907853269984665640564039457584007913129639936*c'=D+M→c'≤1→E<115792089237316195423570985008687907853269984665640564039457584007913129639936→E=(A+M-B)%M):=by
 refine⟨fun h => ?_,fun h E c' e' hc' hE => ?_⟩
 ·subst h;rw[show A+M-B=(A-B)+M by omega,Nat.add_mod_right,Nat.mod_eq_of_lt (by omega)]; omega
 ·subst h;have:c'=0∨c'=1:=by omega
  rw[Nat.mod_eq_of_lt (by omega)]; omega
set_option maxHeartbeats 1000000 in
theorem FO (F:FC) (hF:F.Ok) (b a0 a1 a2 a3 b0 b1 b2 b3:Nat) (ha:cC a0 a1 a2 a3) (hb:cC b0 b1 b2 b3) (la:aC a0 a1 a2 a3<F.M) (lb:aC b0 b1 b2 b3<F.M) (w:World) (hk:KIs w b F) :
  Calls prog 99 #[.pointer (some ⟨b,0,none⟩),.agg #[.int .u64 a0,.int .u64 a1,.int .u64 a2,.int .u64 a3],.agg #[.int .u64 b0,.int .u64 b1,.int .u64 b2,.int .u64 b3]] w (jQ ((aC a0 a1 a2 a3+F.M-aC b0 b1 b2 b3)%F.M) w):=by
 obtain⟨d0,c0,d1,c1,d2,c2,d3,c3,r0,r1,r2,r3,hd,hc,e⟩:=BP ha hb;have hv:=RY la lb e.out hc (bN hd) hF.two;have hL:=hk.lt;have hL1:b<w.heap.size+1:=by omega
 have hL2:b<w.heap.size+1+1:=by omega
 have k0:=hk.k0; have k1:=hk.k1; have k2:=hk.k2; have k3:=hk.k3;have HM:=Lib.hid (show F.M=aC F.m0 F.m1 F.m2 F.m3 from rfl);clear la lb e hk;have hc':c3=0∨c3=1:=by omega
 rcases hc' with rfl|rfl
 ·have HV:=Lib.hid (hv.1 rfl);clear hv hF
  go_enter func99,ntmps99
  go_wp2_with fail;refine bodyPost_ret (v:=.agg #[.int .u64 d0,.int .u64 d1,.int .u64 d2,.int .u64 d3]) (by simp[results,results99,go_sem]) rfl ?_;refine⟨_,_,_,_,rfl,hd,HV.out,?_⟩
  repeat (first|exact Below.refl _ _|refine Below.drew ?_|refine Below.alloc ?_ (by first|(simp; done)|(simp; omega)) _|refine Below.setCell ?_ (by simp) _)
 ·obtain⟨n0,g0,n1,g1,n2,g2,n3,g3,q0,q1,q2,q3,hn,hg,f⟩:=PM hd hF.okm;have HV:=Lib.hid (hv.2 rfl _ _ (by rw[HM.out]; exact f.out) hg (bN hn));clear hv f hF
  go_enter func99,ntmps99
  go_wp2_with fail;refine bodyPost_ret (v:=.agg #[.int .u64 n0,.int .u64 n1,.int .u64 n2,.int .u64 n3]) (by simp[results,results99,go_sem]) rfl ?_;refine⟨_,_,_,_,rfl,hn,HV.out,?_⟩
  repeat (first|exact Below.refl _ _|refine Below.drew ?_|refine Below.alloc ?_ (by first|(simp; done)|(simp; omega)) _|refine Below.setCell ?_ (by simp) _)
theorem aZ:dO 2:=aQ 2 1 (by decide) (by decide) (by kernel_rfl)
theorem fG:dO 3:=aQ 3 1 (by decide) (by decide) (by kernel_rfl)
theorem vB:dO 13:=aQ 13 3 (by decide) (by decide) (by kernel_rfl)
theorem XE:dO 29:=aQ 29 5 (by decide) (by decide) (by kernel_rfl)
theorem Pl:dO 67:=aQ 67 8 (by decide) (by decide) (by kernel_rfl)
theorem OL:dO 229:=aQ 229 15 (by decide) (by decide) (by kernel_rfl)
theorem Gp:dO 311:=aQ 311 17 (by decide) (by decide) (by kernel_rfl)
theorem OK:dO 983:=aQ 983 31 (by decide) (by decide) (by kernel_rfl)
theorem yE:dO 11003:=aQ 11003 104 (by decide) (by decide) (by kernel_rfl)
theorem sJ:dO 11:=aQ 11 3 (by decide) (by decide) (by kernel_rfl)
theorem XC:dO 3691:=aQ 3691 60 (by decide) (by decide) (by kernel_rfl)
theorem WZ:dO 4999:=aQ 4999 70 (by decide) (by decide) (by kernel_rfl)
theorem uW:Root 405928799 22:=by
 refine bH (l:=[2,11,3691,4999]) (by kernel_rfl) fun q hq => ?_
 simp only[List.mem_cons,List.not_mem_nil,or_false]at hq
 rcases hq with rfl|rfl|rfl|rfl
 ·exact aZ
 ·exact sJ
 ·exact XC
 ·exact WZ
theorem oX:dO 405928799:=uW.prm
theorem iR:dO 5:=aQ 5 2 (by decide) (by decide) (by kernel_rfl)
theorem vA:dO 7:=aQ 7 2 (by decide) (by decide) (by kernel_rfl)
theorem sI:dO 19:=aQ 19 4 (by decide) (by decide) (by kernel_rfl)
theorem XB:dO 37:=aQ 37 6 (by decide) (by decide) (by kernel_rfl)
theorem Gs:dO 233:=aQ 233 15 (by decide) (by decide) (by kernel_rfl)
theorem DS:Root 327599 19:=by
 refine bH (l:=[2,19,37,233]) (by kernel_rfl) fun q hq => ?_
 simp only[List.mem_cons,List.not_mem_nil,or_false]at hq
 rcases hq with rfl|rfl|rfl|rfl
 ·exact aZ
 ·exact sI
 ·exact XB
 ·exact Gs
theorem JY:dO 327599:=DS.prm
theorem sH:Root 11465965001 3:=by
 refine bH (l:=[2,2,2,5,5,5,5,7,327599]) (by kernel_rfl) fun q hq => ?_
 simp only[List.mem_cons,List.not_mem_nil,or_false]at hq
 rcases hq with rfl|rfl|rfl|rfl|rfl|rfl|rfl|rfl|rfl
 ·exact aZ
 ·exact aZ
 ·exact aZ
 ·exact iR
 ·exact iR
 ·exact iR
 ·exact iR
 ·exact vA
 ·exact JY
theorem tX:dO 11465965001:=sH.prm
theorem Gq:dO 271:=aQ 271 16 (by decide) (by decide) (by kernel_rfl)
theorem AI:Root 1853641 17:=by
 refine bH (l:=[2,2,2,3,3,5,19,271]) (by kernel_rfl) fun q hq => ?_
 simp only[List.mem_cons,List.not_mem_nil,or_false]at hq
 rcases hq with rfl|rfl|rfl|rfl|rfl|rfl|rfl|rfl
 ·exact aZ
 ·exact aZ
 ·exact aZ
 ·exact fG
 ·exact fG
 ·exact iR
 ·exact sI
 ·exact Gq
theorem EG:dO 1853641:=AI.prm
theorem XG:dO 17:=aQ 17 4 (by decide) (by decide) (by kernel_rfl)
theorem OM:dO 109:=aQ 109 10 (by decide) (by decide) (by kernel_rfl)
theorem XH:dO 1231:=aQ 1231 35 (by decide) (by decide) (by kernel_rfl)
theorem AH:Root 4562087 5:=by
 refine bH (l:=[2,17,109,1231]) (by kernel_rfl) fun q hq => ?_
 simp only[List.mem_cons,List.not_mem_nil,or_false]at hq
 rcases hq with rfl|rfl|rfl|rfl
 ·exact aZ
 ·exact XG
 ·exact OM
 ·exact XH
theorem EF:dO 4562087:=AH.prm
theorem Pk:dO 73:=aQ 73 8 (by decide) (by decide) (by kernel_rfl)
theorem Pi:dO 89:=aQ 89 9 (by decide) (by decide) (by kernel_rfl)
theorem RH:dO 13327:=aQ 13327 115 (by decide) (by decide) (by kernel_rfl)
theorem uX:Root 173171039 13:=by
 refine bH (l:=[2,73,89,13327]) (by kernel_rfl) fun q hq => ?_
 simp only[List.mem_cons,List.not_mem_nil,or_false]at hq
 rcases hq with rfl|rfl|rfl|rfl
 ·exact aZ
 ·exact Pk
 ·exact Pi
 ·exact RH
theorem xQ:dO 173171039:=uX.prm
theorem Pm:dO 41:=aQ 41 6 (by decide) (by decide) (by kernel_rfl)
theorem Gg:dO 911:=aQ 911 30 (by decide) (by decide) (by kernel_rfl)
theorem XD:dO 3557:=aQ 3557 59 (by decide) (by decide) (by kernel_rfl)
theorem tT:Root 1263766531 10:=by
 refine bH (l:=[2,3,5,13,911,3557]) (by kernel_rfl) fun q hq => ?_
 simp only[List.mem_cons,List.not_mem_nil,or_false]at hq
 rcases hq with rfl|rfl|rfl|rfl|rfl|rfl
 ·exact aZ
 ·exact fG
 ·exact iR
 ·exact vB
 ·exact Gg
 ·exact XD
theorem vC:dO 1263766531:=tT.prm
theorem sE:Root 35385462869 2:=by
 refine bH (l:=[2,2,7,1263766531]) (by kernel_rfl) fun q hq => ?_
 simp only[List.mem_cons,List.not_mem_nil,or_false]at hq
 rcases hq with rfl|rfl|rfl|rfl
 ·exact aZ
 ·exact aZ
 ·exact vA
 ·exact vC
theorem tU:dO 35385462869:=sE.prm
theorem mI:Root 2480874801745591 6:=by
 refine bH (l:=[2,3,3,5,19,41,35385462869]) (by kernel_rfl) fun q hq => ?_
 simp only[List.mem_cons,List.not_mem_nil,or_false]at hq
 rcases hq with rfl|rfl|rfl|rfl|rfl|rfl|rfl
 ·exact aZ
 ·exact fG
 ·exact fG
 ·exact iR
 ·exact sI
 ·exact Pm
 ·exact tU
theorem mR:dO 2480874801745591:=mI.prm
theorem eG:Root 13427688667394608761327070753331941386769 17:=by
 refine bH (l:=[2,2,2,2,3,7,11,1853641,4562087,173171039,2480874801745591]) (by kernel_rfl) fun q hq => ?_
 simp only[List.mem_cons,List.not_mem_nil,or_false]at hq
 rcases hq with rfl|rfl|rfl|rfl|rfl|rfl|rfl|rfl|rfl|rfl|rfl
 ·exact aZ
 ·exact aZ
 ·exact aZ
 ·exact aZ
 ·exact fG
 ·exact vA
 ·exact sJ
 ·exact EG
 ·exact EF
 ·exact xQ
 ·exact mR
theorem eN:dO 13427688667394608761327070753331941386769:=eG.prm
theorem Oz:Root 21888242871839275222246405745257275088696311157297823662689037894645226208583 3:=by
 refine bH (l:=[2,3,3,13,29,67,229,311,983,11003,405928799,11465965001,13427688667394608761327070753331941386769]) (by kernel_rfl) fun q hq => ?_
 simp only[List.mem_cons,List.not_mem_nil,or_false]at hq
 rcases hq with rfl|rfl|rfl|rfl|rfl|rfl|rfl|rfl|rfl|rfl|rfl|rfl|rfl
 ·exact aZ
 ·exact fG
 ·exact fG
 ·exact vB
 ·exact XE
 ·exact Pl
 ·exact OL
 ·exact Gp
 ·exact OK
 ·exact yE
 ·exact oX
 ·exact tX
 ·exact eN
theorem Gl:dO 449:=aQ 449 21 (by decide) (by decide) (by kernel_rfl)
theorem DU:Root 237073 15:=by
 refine bH (l:=[2,2,2,2,3,11,449]) (by kernel_rfl) fun q hq => ?_
 simp only[List.mem_cons,List.not_mem_nil,or_false]at hq
 rcases hq with rfl|rfl|rfl|rfl|rfl|rfl|rfl
 ·exact aZ
 ·exact aZ
 ·exact aZ
 ·exact aZ
 ·exact fG
 ·exact sJ
 ·exact Gl
theorem KA:dO 237073:=DU.prm
theorem Gu:dO 107:=aQ 107 10 (by decide) (by decide) (by kernel_rfl)
theorem Gj:dO 661:=aQ 661 25 (by decide) (by decide) (by kernel_rfl)
theorem RB:dO 93001:=aQ 93001 304 (by decide) (by decide) (by kernel_rfl)
theorem sG:Root 12048837557 2:=by
 refine bH (l:=[2,2,7,7,661,93001]) (by kernel_rfl) fun q hq => ?_
 simp only[List.mem_cons,List.not_mem_nil,or_false]at hq
 rcases hq with rfl|rfl|rfl|rfl|rfl|rfl
 ·exact aZ
 ·exact aZ
 ·exact vA
 ·exact vA
 ·exact Gj
 ·exact RB
theorem tW:dO 12048837557:=sG.prm
theorem pF:Root 5156902474397 2:=by
 refine bH (l:=[2,2,107,12048837557]) (by kernel_rfl) fun q hq => ?_
 simp only[List.mem_cons,List.not_mem_nil,or_false]at hq
 rcases hq with rfl|rfl|rfl|rfl
 ·exact aZ
 ·exact aZ
 ·exact Gu
 ·exact tW
theorem qM:dO 5156902474397:=pF.prm
theorem mJ:Root 1670836401704629 2:=by
 refine bH (l:=[2,2,3,3,3,3,5156902474397]) (by kernel_rfl) fun q hq => ?_
 simp only[List.mem_cons,List.not_mem_nil,or_false]at hq
 rcases hq with rfl|rfl|rfl|rfl|rfl|rfl|rfl
 ·exact aZ
 ·exact aZ
 ·exact fG
 ·exact fG
 ·exact fG
 ·exact fG
 ·exact qM
theorem mS:dO 1670836401704629:=mJ.prm
theorem Gi:dO 823:=aQ 823 28 (by decide) (by decide) (by kernel_rfl)
theorem RD:dO 41927:=aQ 41927 204 (by decide) (by decide) (by kernel_rfl)
theorem AJ:Root 1593227 2:=by
 refine bH (l:=[2,19,41927]) (by kernel_rfl) fun q hq => ?_
 simp only[List.mem_cons,List.not_mem_nil,or_false]at hq
 rcases hq with rfl|rfl|rfl
 ·exact aZ
 ·exact sI
 ·exact RD
theorem EK:dO 1593227:=AJ.prm
theorem Pj:dO 83:=aQ 83 9 (by decide) (by decide) (by kernel_rfl)
theorem Gm:dO 379:=aQ 379 19 (by decide) (by decide) (by kernel_rfl)
theorem EI:dO 1637:=aQ 1637 40 (by decide) (by decide) (by kernel_rfl)
theorem Gh:dO 853:=aQ 853 29 (by decide) (by decide) (by kernel_rfl)
theorem uV:Root 639533339 2:=by
 refine bH (l:=[2,229,853,1637]) (by kernel_rfl) fun q hq => ?_
 simp only[List.mem_cons,List.not_mem_nil,or_false]at hq
 rcases hq with rfl|rfl|rfl|rfl
 ·exact aZ
 ·exact OL
 ·exact Gh
 ·exact EI
theorem xP:dO 639533339:=uV.prm
theorem lO:Root 65865678001877903 5:=by
 refine bH (l:=[2,83,379,1637,639533339]) (by kernel_rfl) fun q hq => ?_
 simp only[List.mem_cons,List.not_mem_nil,or_false]at hq
 rcases hq with rfl|rfl|rfl|rfl|rfl
 ·exact aZ
 ·exact Pj
 ·exact Gm
 ·exact EI
 ·exact xP
theorem mK:dO 65865678001877903:=lO.prm
theorem fV:Root 13818364434197438864469338081 3:=by
 refine bH (l:=[2,2,2,2,2,5,823,1593227,65865678001877903]) (by kernel_rfl) fun q hq => ?_
 simp only[List.mem_cons,List.not_mem_nil,or_false]at hq
 rcases hq with rfl|rfl|rfl|rfl|rfl|rfl|rfl|rfl|rfl
 ·exact aZ
 ·exact aZ
 ·exact aZ
 ·exact aZ
 ·exact aZ
 ·exact iR
 ·exact Gi
 ·exact EK
 ·exact mK
theorem gH:dO 13818364434197438864469338081:=fV.prm
theorem WP:Root 21888242871839275222246405745257275088548364400416034343698204186575808495617 5:=by
 refine bH (l:=[2,2,2,2,2,2,2,2,2,2,2,2,2,2,2,2,2,2,2,2,2,2,2,2,2,2,2,2,3,3,13,29,983,11003,237073,405928799,1670836401704629,13818364434197438864469338081]) (by kernel_rfl) fun q hq => ?_
 simp only[List.mem_cons,List.not_mem_nil,or_false]at hq
 rcases hq with rfl|rfl|rfl|rfl|rfl|rfl|rfl|rfl|rfl|rfl|rfl|rfl|rfl|rfl|rfl|rfl|rfl|rfl|rfl|rfl|rfl|rfl|rfl|rfl|rfl|rfl|rfl|rfl|rfl|rfl|rfl|rfl|rfl|rfl|rfl|rfl|rfl|rfl
 ·exact aZ
 ·exact aZ
 ·exact aZ
 ·exact aZ
 ·exact aZ
 ·exact aZ
 ·exact aZ
 ·exact aZ
 ·exact aZ
 ·exact aZ
 ·exact aZ
 ·exact aZ
 ·exact aZ
 ·exact aZ
 ·exact aZ
 ·exact aZ
 ·exact aZ
 ·exact aZ
 ·exact aZ
 ·exact aZ
 ·exact aZ
 ·exact aZ
 ·exact aZ
 ·exact aZ
 ·exact aZ
 ·exact aZ
 ·exact aZ
 ·exact aZ
 ·exact fG
 ·exact fG
 ·exact vB
 ·exact XE
 ·exact OK
 ·exact yE
 ·exact KA
 ·exact oX
 ·exact mS
 ·exact gH
section
variable {M g:Nat}
theorem ET (a n:Nat):(a%M)^n%M=a^n%M:=(Nat.pow_mod a n M).symm
theorem oJ (a b:Nat):a%M*b%M=a*b%M:=by rw[Nat.mul_mod,Nat.mod_mod,←Nat.mul_mod]
theorem oI (a b:Nat):a*(b%M)%M=a*b%M:=by rw[Nat.mul_mod,Nat.mod_mod,←Nat.mul_mod]
theorem Aq (hr:Root M g) {a:Nat} (h0:0<a) (h:a<M):a^(M-1)%M=1:=by
 obtain⟨h1,hg,_,hs⟩:=hr;obtain⟨k,hk,rfl⟩:=hs a h0 h;rw[ET,←Nat.pow_mul,Nat.mul_comm,mT h1 hg]
theorem uH (hr:Root M g) {a:Nat} (h2:2≤M) (h0:0<a) (h:a<M):a*(a^(M-2)%M)%M=1:=by
 rw[oI,←Nat.pow_succ',show (M-2).succ=M-1 by omega,Aq hr h0 h]
theorem IE (hr:Root M g) {a b c:Nat} (h2:2≤M) (h0:0<a) (h:a<M) (e:a*b%M=a*c%M):b%M=c%M:=by
 have hi:=uH hr h2 h0 h;have key:∀x,a^(M-2)%M*(a*x%M)%M=x%M:=fun x=>by
  rw[oI,←Nat.mul_assoc,Nat.mul_mod,Nat.mul_comm _ a,hi,Nat.one_mul,Nat.mod_mod]
 rw[←key b,e,key c]
theorem UT (hr:Root M g) {a b:Nat} (h2:2≤M) (h0:0<a) (h:a<M) (e:a*b%M=0):b%M=0:=by
 have:=IE hr (c:=0) h2 h0 h (by rw[e,Nat.mul_zero,Nat.zero_mod]);rw[this,Nat.zero_mod]
theorem mul_ne (hr:Root M g) {a b:Nat} (h2:2≤M) (ha0:0<a) (ha:a<M) (hb0:0<b) (hb:b<M):0<a*b%M:=by
 rcases Nat.eq_zero_or_pos (a*b%M)with h|h
 ·have:=UT hr h2 ha0 ha h;rw[Nat.mod_eq_of_lt hb]at this; omega
 ·exact h
theorem Rb (hr:Root M g) {a:Nat} (ho:M%2=1) (h0:0<a) (h:a<M):(a*a%M)^(M/2)%M=1:=by
 have h1:=hr.1;rw[ET,←Nat.pow_two,←Nat.pow_mul,show 2*(M/2)=M-1 by omega,Aq hr h0 h]
end
def kp (F:FC) (a:Nat):Nat:=a*F.R%F.M
section
variable {F:FC}
theorem FX (hF:F.Ok) (a:Nat):kp F a<F.M:=Nat.mod_lt _ (by have:=hF.gt; omega)
theorem kP (hF:F.Ok) (x:Nat):x*F.R*F.Ri%F.M=x%F.M:=by
 rw[Nat.mul_assoc,Nat.mul_mod,hF.ri,Nat.mul_one,Nat.mod_mod]
theorem pS {M a b c d:Nat} (h:a%M=b%M) (h':c%M=d%M):a*c%M=b*d%M:=by rw[Nat.mul_mod,h,h',←Nat.mul_mod]
theorem wW (M a:Nat):a%M%M=a%M:=Nat.mod_mod _ _
theorem mZ (hF:F.Ok) (a b:Nat):kp F a*kp F b*F.Ri%F.M=kp F (a*b%F.M):=by
 have h:kp F a*kp F b*F.Ri%F.M=a*F.R*(b*F.R)*F.Ri%F.M:=pS (pS (wW _ _) (wW _ _)) rfl;have e:a*F.R*(b*F.R)=a*b*F.R*F.R:=by rw[Nat.mul_mul_mul_comm,Nat.mul_assoc (a*b)]
 rw[h,e,kP hF];unfold kp;rw[oJ]
theorem Ib (hF:F.Ok) (a:Nat):a*aC F.s0 F.s1 F.s2 F.s3*F.Ri%F.M=kp F a:=by
 have h:a*aC F.s0 F.s1 F.s2 F.s3*F.Ri%F.M=a*(F.R*F.R)*F.Ri%F.M:=by rw[hF.sq]; exact pS (pS rfl (wW _ _)) rfl
 rw[h,←Nat.mul_assoc,kP hF];rfl
theorem Rc (hF:F.Ok) (a:Nat) (h:a<F.M):kp F a*1*F.Ri%F.M=a:=by
 have h1:kp F a*1*F.Ri%F.M=a*F.R*F.Ri%F.M:=by rw[Nat.mul_one]; exact pS (wW _ _) rfl
 rw[h1,kP hF,Nat.mod_eq_of_lt h]
theorem vP (hF:F.Ok) (a b:Nat):kp F a*b*F.Ri%F.M=a*b%F.M:=by
 have h:kp F a*b*F.Ri%F.M=a*F.R*b*F.Ri%F.M:=pS (pS (wW _ _) rfl) rfl;rw[h,Nat.mul_right_comm a,kP hF]
theorem vQ (F:FC) (a:Nat):kp F (a%F.M)=kp F a:=by unfold kp; rw[oJ]
theorem tK (F:FC) (a n b:Nat) (h:b=0∨b=1):(b=0→kp F (a^(2*n+b))=kp F (a^n*a^n%F.M))∧(b=1→kp F (a^(2*n+b))=kp F (a^n*a^n%F.M*a%F.M)):=by
 have e:a^(2*n)=a^n*a^n:=by rw[Nat.two_mul,Nat.pow_add]
 refine⟨fun h => ?_,fun h => ?_⟩
 ·subst h; rw[Nat.add_zero,vQ,e]
 ·subst h; rw[vQ,Nat.pow_succ,e,←vQ F (_%_*a),oJ,vQ]
end
theorem FC.Ok.sqlt {F:FC} (hF:F.Ok):aC F.s0 F.s1 F.s2 F.s3<F.M:=by rw[hF.sq]; exact Nat.mod_lt _ (by have:=hF.gt; omega)
theorem FC.Ok.pos {F:FC} (hF:F.Ok):0<F.M:=by have:=hF.gt; omega
set_option maxHeartbeats 1000000 in
theorem gX (F:FC) (hF:F.Ok) (b a0 a1 a2 a3:Nat) (ha:cC a0 a1 a2 a3) (w:World) (hk:KIs w b F) :
  Calls prog 97 #[.pointer (some ⟨b,0,none⟩),.agg #[.int .u64 a0,.int .u64 a1,.int .u64 a2,.int .u64 a3]] w (jQ (kp F (aC a0 a1 a2 a3)) w):=by
 have HK:=Lib.hid hk;have HF:=Lib.hid hF;have hL:=hk.lt;have hL1:b<w.heap.size+1:=by omega
 have hL2:b<w.heap.size+1+1:=by omega
 have k5:=hk.k5; have k6:=hk.k6; have k7:=hk.k7; have k8:=hk.k8;clear hk hF
 go_enter func97,ntmps97
 go_wp2_with fail
 go_region_with (go_at_call 118; refine (dE F HF.out b a0 a1 a2 a3 F.s0 F.s1 F.s2 F.s3 ha HF.out.oks HF.out.sqlt _ (HK.out.same (by repeat (first|exact Below.refl _ _|refine Below.drew ?_|refine Below.trans ?_ (bI _ _ _)|refine Below.alloc ?_ (by first|(simp; done)|(simp; omega)) _)))).mono ?_; rintro e ws ⟨s0,s1,s2,s3,rfl,hs,hv,hbl⟩; have HVs:=Lib.hid hv; obtain⟨hcs,hfs⟩:=tR hbl; have hzs:w.heap.size+1<ws.heap.size:=by { have:=hbl.size; simp at this; omega }; have HBLs:=Lib.hid hbl; clear hv hbl)
 all_goals (
  go_wp2_with fail;refine bodyPost_ret (v:=.agg #[.int .u64 s0,.int .u64 s1,.int .u64 s2,.int .u64 s3]) (by simp[results,results97,go_sem, *]) rfl ?_;refine⟨_,_,_,_,rfl,hs,HVs.out.trans (Ib HF.out _),?_⟩;refine bF (Below.trans ?_ (HBLs.out.mono (by first|(simp; done)|(simp; omega)))) (by omega) _ _ _ _
  repeat (first|exact Below.refl _ _|refine Below.drew ?_|refine Below.trans ?_ (bI _ _ _)|refine Below.alloc ?_ (by first|(simp; done)|(simp; omega)) _)
 )
set_option maxHeartbeats 1000000 in
theorem RK (F:FC) (hF:F.Ok) (b a0 a1 a2 a3:Nat) (ha:cC a0 a1 a2 a3) (w:World) (hk:KIs w b F) :
  Calls prog 98 #[.pointer (some ⟨b,0,none⟩),.agg #[.int .u64 a0,.int .u64 a1,.int .u64 a2,.int .u64 a3]] w (jQ (aC a0 a1 a2 a3*1*F.Ri%F.M) w):=by
 have HK:=Lib.hid hk;have HF:=Lib.hid hF;have hL:=hk.lt;have hL1:b<w.heap.size+1:=by omega
 have hL2:b<w.heap.size+1+1:=by omega
 clear hk hF
 go_enter func98,ntmps98
 go_wp2_with fail;refine (dE F HF.out b a0 a1 a2 a3 1 0 0 0 ha ⟨by omega,by omega,by omega,by omega⟩ (by show 1<_; have:=HF.out.gt; omega) _ (HK.out.same (by repeat (first|exact Below.refl _ _|refine Below.drew ?_|refine Below.trans ?_ (bI _ _ _)|refine Below.alloc ?_ (by first|(simp; done)|(simp; omega)) _)))).mono ?_
 rintro e ws ⟨s0,s1,s2,s3,rfl,hs,hv,hbl⟩; have HVs:=Lib.hid hv; obtain⟨hcs,hfs⟩:=tR hbl; have hzs:w.heap.size+1<ws.heap.size:=by { have:=hbl.size; simp at this; omega }; have HBLs:=Lib.hid hbl; clear hv hbl
 go_wp2_with fail;refine bodyPost_ret (v:=.agg #[.int .u64 s0,.int .u64 s1,.int .u64 s2,.int .u64 s3]) (by simp[results,results98,go_sem, *]) rfl ?_;refine⟨_,_,_,_,rfl,hs,HVs.out,?_⟩;refine bF (Below.trans ?_ (HBLs.out.mono (by first|(simp; done)|(simp; omega)))) (by omega) _ _ _ _
 repeat (first|exact Below.refl _ _|refine Below.drew ?_|refine Below.trans ?_ (bI _ _ _)|refine Below.alloc ?_ (by first|(simp; done)|(simp; omega)) _)
theorem FG (n:Nat) (hn:n<18446744073709551616) (w:World):Calls prog 69 #[.int .u64 n] w fun e w'=>e=.returned (.agg #[.int .u64 n,.int .u64 0,.int .u64 0,.int .u64 0])∧Below w.heap.size w w':=by
 go_enter func69,ntmps69
 go_wp2_with fail;refine bodyPost_ret (v:=.agg #[.int .u64 n,.int .u64 0,.int .u64 0,.int .u64 0]) (by simp[results,results69,go_sem]) rfl ?_;exact⟨rfl,by repeat (first|exact Below.refl _ _|refine Below.drew ?_|refine Below.alloc ?_ (by first|(simp; done)|(simp; omega)) _|refine Below.setCell ?_ (by simp) _)⟩
set_option maxHeartbeats 1000000 in
theorem oF (F:FC) (hF:F.Ok) (b:Nat)  (w:World) (hk:KIs w b F) :
  Calls prog 133 #[.pointer (some ⟨b,0,none⟩)] w (jQ (kp F 1) w):=by
 have HK:=Lib.hid hk;have HF:=Lib.hid hF;have hL:=hk.lt;have hL1:b<w.heap.size+1:=by omega
 have hL2:b<w.heap.size+1+1:=by omega
 clear hk hF
 go_enter func133,ntmps133
 go_wp2_with fail;refine (FG 1 (by omega) _).mono ?_
 rintro e w1 ⟨rfl,hb1⟩
 have hz1:w.heap.size<w1.heap.size:=by have:=hb1.size; simp at this; omega
 obtain⟨hc1,hf1⟩:=tR hb1;have HB1:=Lib.hid hb1;have HK1:=Lib.hid ((HK.out.same (by repeat (first|exact Below.refl _ _|refine Below.drew ?_|refine Below.trans ?_ (bI _ _ _)|refine Below.alloc ?_ (by first|(simp; done)|(simp; omega)) _)):KIs (w.alloc _) b F).same hb1);clear hb1;go_wp2_with fail;refine (gX F HF.out b 1 0 0 0 ⟨by omega,by omega,by omega,by omega⟩ _ HK1.out).mono ?_
 rintro e ws ⟨s0,s1,s2,s3,rfl,hs,hv,hbl⟩
 have HVs:=Lib.hid hv;obtain⟨hcs,hfs⟩:=tR hbl;have hzs:w.heap.size<ws.heap.size:=by have:=hbl.size; omega
 have HBLs:=Lib.hid (HB1.out.trans (hbl.mono HB1.out.size));clear hv hbl;go_wp2_with fail;refine bodyPost_ret (v:=.agg #[.int .u64 s0,.int .u64 s1,.int .u64 s2,.int .u64 s3]) (by simp[results,results133,go_sem, *]) rfl ?_;refine⟨_,_,_,_,rfl,hs,HVs.out,?_⟩;refine bF (Below.trans ?_ (HBLs.out.mono (by first|(simp; done)|(simp; omega)))) (by omega) _ _ _ _
 repeat (first|exact Below.refl _ _|refine Below.drew ?_|refine Below.trans ?_ (bI _ _ _)|refine Below.alloc ?_ (by first|(simp; done)|(simp; omega)) _)
set_option maxHeartbeats 1000000 in
theorem xN (F:FC) (hF:F.Ok) (b a0 a1 a2 a3 b0 b1 b2 b3:Nat) (ha:cC a0 a1 a2 a3) (hb:cC b0 b1 b2 b3) (lb:aC b0 b1 b2 b3<F.M) (w:World) (hk:KIs w b F) :
  Calls prog 129 #[.pointer (some ⟨b,0,none⟩),.agg #[.int .u64 a0,.int .u64 a1,.int .u64 a2,.int .u64 a3],.agg #[.int .u64 b0,.int .u64 b1,.int .u64 b2,.int .u64 b3]] w (jQ (aC a0 a1 a2 a3*aC b0 b1 b2 b3%F.M) w):=by
 have HK:=Lib.hid hk;have HF:=Lib.hid hF;have hL:=hk.lt;have hL1:b<w.heap.size+1:=by omega
 have hL2:b<w.heap.size+1+1:=by omega
 have HLB:=Lib.hid lb;clear lb;clear hk hF
 go_enter func129,ntmps129
 go_wp2_with fail
 go_region_with (first|(go_at_call 97; refine (gX F HF.out b a0 a1 a2 a3 ha _ (HK.out.same (by repeat (first|exact Below.refl _ _|refine Below.drew ?_|refine Below.trans ?_ (bI _ _ _)|refine Below.alloc ?_ (by first|(simp; done)|(simp; omega)) _)))).mono ?_; rintro e ws ⟨s0,s1,s2,s3,rfl,hs,hv,hbl⟩; have HVs:=Lib.hid hv; obtain⟨hcs,hfs⟩:=tR hbl; have hzs:w.heap.size+1+1<ws.heap.size:=by { have:=hbl.size; simp at this; omega }; have HBLs:=Lib.hid hbl; clear hv hbl; have HKs:=Lib.hid (KIs.same (F:=F) (b:=b) (HK.out.same (by repeat (first|exact Below.refl _ _|refine Below.drew ?_|refine Below.trans ?_ (bI _ _ _)|refine Below.alloc ?_ (by first|(simp; done)|(simp; omega)) _))) HBLs.out))|(go_at_call 118; refine (dE F HF.out b s0 s1 s2 s3 b0 b1 b2 b3 hs hb HLB.out _ HKs.out).mono ?_; rintro e wp ⟨p0,p1,p2,p3,rfl,hp,hv,hbl⟩; have HVp:=Lib.hid hv; obtain⟨hcp,hfp⟩:=tR hbl; have hzp:w.heap.size+1+1<wp.heap.size:=by { have:=hbl.size; omega }; have HBLp:=Lib.hid (HBLs.out.trans (hbl.mono HBLs.out.size)); clear hv hbl))
 all_goals (
  go_wp2_with fail;refine bodyPost_ret (v:=.agg #[.int .u64 p0,.int .u64 p1,.int .u64 p2,.int .u64 p3]) (by simp[results,results129,go_sem, *]) rfl ?_;refine⟨_,_,_,_,rfl,hp,HVp.out.trans (by rw[HVs.out]; exact vP HF.out _ _),?_⟩;refine bF (Below.trans ?_ (HBLp.out.mono (by first|(simp; done)|(simp; omega)))) (by omega) _ _ _ _
  repeat (first|exact Below.refl _ _|refine Below.drew ?_|refine Below.trans ?_ (bI _ _ _)|refine Below.alloc ?_ (by first|(simp; done)|(simp; omega)) _)
 )
theorem oY {a p:Nat} (ha:a<18446744073709551616) (hp:p≤63):∃lo hi:Nat,IntKind.u64.wrap ((a:Int)*2^p)=(lo:Int)∧(a:Int)/2^(64-p)=(hi:Int) ∧
  lo<18446744073709551616∧hi<18446744073709551616∧Hid (lo+18446744073709551616*hi=a*2^p)∧Hid (hi<2^p)∧Hid (∃t,lo=2^p*t):=by
 have hps:=sK p hp;have hpos:0<2^p:=Nat.two_pow_pos p;have hd:a*2^p/18446744073709551616=a/2^(64-p):=by rw[←hps]; exact Nat.mul_div_mul_right _ _ hpos
 have hh:a/2^(64-p)<2^p:=by rw[Nat.div_lt_iff_lt_mul (Nat.two_pow_pos _),Nat.mul_comm,hps]; exact ha
 refine⟨a*2^p%18446744073709551616,a/2^(64-p),?_,?_,by omega,?_,Lib.hid ?_,Lib.hid hh,Lib.hid ?_⟩
 ·rw[fL,lG]
 ·rw[Int.natCast_ediv,Int.natCast_pow]; rfl
 ·exact Nat.lt_of_le_of_lt (Nat.div_le_self _ _) ha
 ·rw[←hd]; omega
 ·refine⟨a%2^(64-p),?_⟩;rw[←hps,Nat.mul_mod_mul_right,Nat.mul_comm]
theorem yU {lo hi p:Nat} (hl:lo<18446744073709551616) (hh:hi<18446744073709551616) (h1:Hid (hi<2^p)) (h2:Hid (∃t,lo=2^p*t)):∃s:Nat,bits .or .u64 (lo:Int) (hi:Int)=(s:Int)∧s<18446744073709551616∧Hid (s=lo+hi):=by
 obtain⟨t,ht⟩:=h2.out;have e:lo ||| hi=lo+hi:=by rw[ht,←Nat.two_pow_add_eq_or_of_lt h1.out]
 refine⟨lo+hi,by rw[bits_or_u64_nat _ _ hl hh,e],?_,Lib.hid rfl⟩;rw[←e]; exact Nat.or_lt_two_pow (n:=64) hl hh
theorem iD {a p:Nat} (ha:a<18446744073709551616) (hp:p≤63):∃lo up:Nat,(a:Int)/2^p=(lo:Int)∧IntKind.u64.wrap ((a:Int)*2^(64-p))=(up:Int) ∧
  lo<18446744073709551616∧up<18446744073709551616∧Hid (∃m,a=lo*2^p+m∧m<2^p∧up*2^p=m*18446744073709551616)∧Hid (lo<2^(64-p))∧Hid (∃t,up=2^(64-p)*t):=by
 have hps:=sK p hp;have hpos:0<2^p:=Nat.two_pow_pos p;refine⟨a/2^p,a%2^p*2^(64-p),?_,?_,Nat.lt_of_le_of_lt (Nat.div_le_self _ _) ha,?_,Lib.hid ⟨a%2^p,?_,Nat.mod_lt _ hpos,?_⟩,Lib.hid ?_,Lib.hid ⟨a%2^p,Nat.mul_comm _ _⟩⟩
 ·rw[Int.natCast_ediv,Int.natCast_pow]; rfl
 ·rw[fL,lG];congr 1;rw[show 18446744073709551616=2^p*2^(64-p) by rw[Nat.mul_comm,hps],Nat.mul_mod_mul_right]
 ·have:=Nat.mul_lt_mul_of_pos_right (Nat.mod_lt a hpos) (Nat.two_pow_pos (64-p));rw[Nat.mul_comm (2^p),hps]at this;exact this
 ·rw[Nat.mul_comm]; exact (Nat.div_add_mod a (2^p)).symm
 ·rw[Nat.mul_assoc,hps]
 ·rw[Nat.div_lt_iff_lt_mul hpos,hps]; exact ha
theorem nH {lo up k:Nat} (hl:lo<18446744073709551616) (hu:up<18446744073709551616) (h1:Hid (lo<2^k)) (h2:Hid (∃t,up=2^k*t)):∃s:Nat,bits .or .u64 (lo:Int) (up:Int)=(s:Int)∧s<18446744073709551616∧Hid (s=lo+up):=by
 obtain⟨t,ht⟩:=h2.out;have e:lo ||| up=lo+up:=by rw[Nat.or_comm,ht,←Nat.two_pow_add_eq_or_of_lt h1.out,Nat.add_comm]
 refine⟨lo+up,by rw[bits_or_u64_nat _ _ hl hu,e],?_,Lib.hid rfl⟩;rw[←e]; exact Nat.or_lt_two_pow (n:=64) hl hu
theorem GM {n:Int} (h0:0≤n) (q:Int) (h:n/64=q) (h1:0≤q):∃p:Nat,n%64=(p:Int)∧p≤63∧n.toNat=64*q.toNat+p :=
 ⟨(n%64).toNat,by omega,by omega,by omega⟩
theorem qN (q p:Nat):2^(64*q+p)=18446744073709551616^q*2^p:=by rw[Nat.pow_add,Nat.pow_mul]
theorem uJ {r x T m:Nat} (h:r*T+m=x) (hm:m<T):r=x/T:=by
 subst h;rw[Nat.mul_comm,Nat.mul_add_div (by omega),Nat.div_eq_of_lt hm,Nat.add_zero]
theorem or2 {a b A B:Nat} (ha:a<18446744073709551616) (hb:b<18446744073709551616):(a ||| b)+18446744073709551616*(A ||| B)=(a+18446744073709551616*A) ||| (b+18446744073709551616*B):=by
 have h1:a+18446744073709551616*A=2^64*A ||| a:=by rw[←Nat.two_pow_add_eq_or_of_lt (show a<2^64 from ha)]; omega
 have h2:b+18446744073709551616*B=2^64*B ||| b:=by rw[←Nat.two_pow_add_eq_or_of_lt (show b<2^64 from hb)]; omega
 have h3:(a ||| b)+18446744073709551616*(A ||| B)=2^64*(A ||| B) ||| (a ||| b):=by rw[←Nat.two_pow_add_eq_or_of_lt (Nat.or_lt_two_pow (n:=64) ha hb)]; omega
 have h4:2^64*(A ||| B)=2^64*A ||| 2^64*B:=by
  rw[Nat.mul_comm _ (A ||| B),Nat.mul_comm _ A,Nat.mul_comm _ B,←Nat.shiftLeft_eq,←Nat.shiftLeft_eq,←Nat.shiftLeft_eq,Nat.shiftLeft_or_distrib]
 rw[h1,h2,h3,h4];simp only[Nat.or_assoc];congr 1;rw[←Nat.or_assoc,←Nat.or_assoc,Nat.or_comm a]
theorem or4 {a0 a1 a2 a3 b0 b1 b2 b3:Nat} (ha:cC a0 a1 a2 a3) (hb:cC b0 b1 b2 b3):aC (a0 ||| b0) (a1 ||| b1) (a2 ||| b2) (a3 ||| b3)=aC a0 a1 a2 a3 ||| aC b0 b1 b2 b3:=by
 unfold aC;rw[or2 ha.2.2.1 hb.2.2.1,or2 ha.2.1 hb.2.1,or2 ha.1 hb.1]
def LenIs (n L:Nat):Prop:=n<2^L∧(0<L→2^(L-1)≤n)
theorem LenIs.uniq {n L M:Nat} (h:LenIs n L) (k:LenIs n M):L=M:=by
 rcases Nat.lt_trichotomy L M with c|c|c
 ·have h1:=k.2 (by omega);have h2:=Nat.pow_le_pow_right (show 0<2 by omega) (show L≤M-1 by omega);have:=h.1; omega
 ·exact c
 ·have h1:=h.2 (by omega);have h2:=Nat.pow_le_pow_right (show 0<2 by omega) (show M≤L-1 by omega);have:=k.1; omega
theorem LenIs.zero:LenIs 0 0:=⟨by simp,fun h=>absurd h (by omega)⟩
theorem LenIs.up {n x L k:Nat} (hn:n<2^k) (hx:0<x) (h:LenIs x L):LenIs (n+x*2^k) (k+L):=by
 have hL:0<L:=by
  rcases Nat.eq_zero_or_pos L with e|e
  ·subst e; have:=h.1; simp at this; omega
  ·exact e
 constructor
 ·have:=Nat.mul_le_mul_right (2^k) (show x+1≤2^L from h.1);rw[Nat.add_mul,Nat.one_mul]at this;rw[Nat.pow_add,Nat.mul_comm (2^k)]; omega
 ·intro _;have:=Nat.mul_le_mul_right (2^k) (h.2 hL);rw[show k+L-1=k+(L-1) by omega,Nat.pow_add,Nat.mul_comm (2^k)]; omega
theorem As {y:Nat} (h0:0<y) (hy:y<18446744073709551616):∃S:Nat,(∀w,Calls prog 105 #[.int .u64 y] w fun e w'=>e=.returned (.int .i64 S)∧w'=w)∧S≤64∧Hid (LenIs y S):=by
 obtain⟨hl,ha,hb,hk⟩:=ZB h0 hy;refine⟨y.log2+1,fun w => ?_,by omega,Lib.hid ⟨hb,fun _=>ha⟩⟩;have:=Tryz.bits_Len64 (y:Int) w (by omega) (by omega);rw[Int.toNat_natCast,hl]at this;exact this
theorem DL (a0 a1 a2 a3:Nat) (w:World):(Instr.index 24 (.agg #[.int .u64 a0,.int .u64 a1,.int .u64 a2,.int .u64 a3]) (.int .i64 (0:Nat))).run prog w=.ok (.int .u64 (a0:Nat)) w:=by kernel_rfl
theorem DK (a0 a1 a2 a3:Nat) (w:World):(Instr.index 24 (.agg #[.int .u64 a0,.int .u64 a1,.int .u64 a2,.int .u64 a3]) (.int .i64 (1:Nat))).run prog w=.ok (.int .u64 (a1:Nat)) w:=by kernel_rfl
theorem DJ (a0 a1 a2 a3:Nat) (w:World):(Instr.index 24 (.agg #[.int .u64 a0,.int .u64 a1,.int .u64 a2,.int .u64 a3]) (.int .i64 (2:Nat))).run prog w=.ok (.int .u64 (a2:Nat)) w:=by kernel_rfl
theorem DI (a0 a1 a2 a3:Nat) (w:World):(Instr.index 24 (.agg #[.int .u64 a0,.int .u64 a1,.int .u64 a2,.int .u64 a3]) (.int .i64 (3:Nat))).run prog w=.ok (.int .u64 (a3:Nat)) w:=by kernel_rfl
theorem JN (a0 a1 a2 a3 k:Nat) (hk:k<4) (w:World):(Instr.index 24 (.agg #[.int .u64 a0,.int .u64 a1,.int .u64 a2,.int .u64 a3]) (.int .i64 (k:Nat))).run prog w=.ok (.int .u64 (dL [a0,a1,a2,a3] k:Nat)) w:=by
 match k,hk with
 | 0,_=>exact DL a0 a1 a2 a3 w
 | 1,_=>exact DK a0 a1 a2 a3 w
 | 2,_=>exact DJ a0 a1 a2 a3 w
 | 3,_=>exact DI a0 a1 a2 a3 w
def Ln (A:Nat) (w:World) (e:Ending) (w':World):Prop :=
 ∃L:Nat,e=.returned (.int .i64 L)∧L≤256∧LenIs A L∧Below w.heap.size w w'
theorem ZA {A:Nat→Nat} {k L S:Nat} (hA:∀j,j<k→A j<18446744073709551616) (h0:0<A k) (hS:LenIs (A k) S):LenIs (eR 18446744073709551616 A (k+1)) (64*k+S):=by
 have h1:=zQ 18446744073709551616 A (by omega) k hA;rw[show 18446744073709551616^k=2^(64*k) by rw[Nat.pow_mul]]at h1;rw[cP,show 18446744073709551616^k=2^(64*k) by rw[Nat.pow_mul]];exact LenIs.up h1 h0 hS
theorem sQ (a0 a1 a2 a3:Nat) (ha:cC a0 a1 a2 a3) (w:World) :
  Calls prog 77 #[.agg #[.int .u64 a0,.int .u64 a1,.int .u64 a2,.int .u64 a3]] w (Ln (aC a0 a1 a2 a3) w):=by
 have lA:∀k,dL [a0,a1,a2,a3] k<18446744073709551616:=fun k=>by
  obtain⟨h0,h1,h2,h3⟩:=ha;unfold dL
  match k with
  | 0=>exact h0
  | 1=>exact h1
  | 2=>exact h2
  | 3=>exact h3
  | k+4=>simp
 obtain⟨A,eA⟩:∃A,A=dL [a0,a1,a2,a3]:=⟨_,rfl⟩
 have hix:=fun k hk w=>JN a0 a1 a2 a3 k hk w
 rw[←eA]at lA;simp only[←eA]at hix;have hv:aC a0 a1 a2 a3=eR 18446744073709551616 A 4:=by rw[←iF,eA]; rfl
 have HV:=Lib.hid hv; have HlA:=Lib.hid lA; have Hix:=Lib.hid hix;clear eA lA hv hix
 go_enter func77,ntmps77
 go_wp2_with fail
 go_loop [3,7] (fun l i=>∃k L:Nat,k≤4∧i=.int .i64 k∧l=.int .i64 L∧L≤64*k∧Hid (LenIs (eR 18446744073709551616 A k) L)) (fun _ i=>4-(intOf i).toNat)
 case atStart=>exact⟨0,0,by omega,rfl,rfl,by omega,Lib.hid LenIs.zero⟩
 case round =>
  obtain⟨k,L,hk,rfl,rfl,hL,hl⟩:=hrel
  by_cases hlt:k<4
  ·obtain⟨x,ex⟩:∃x,x=A k:=⟨_,rfl⟩
   have hx:=Hix.out k hlt;rw[←ex]at hx;have bx:x<18446744073709551616:=by rw[ex]; exact HlA.out k
   rcases Nat.eq_zero_or_pos x with h0|h0
   ·have t0:((x:Int) != 0)=false:=by simp[h0]
    have HN:Hid (LenIs (eR 18446744073709551616 A (k+1)) L):=Lib.hid (by rw[cP,←ex,h0,Nat.zero_mul,Nat.add_zero]; exact hl.out);clear h0 ex;go_wp2_with fail
    go_round
    case rel=>exact⟨k+1,L,by omega,by go_num,rfl,by omega,HN⟩
    case measure=>simp[intOf]; omega
   ·have t0:((x:Int) != 0)=true:=by simp; omega
    obtain⟨S,rS,bS,hS⟩:=As h0 bx;have HN:Hid (LenIs (eR 18446744073709551616 A (k+1)) (64*k+S)):=Lib.hid (ZA (L:=L) (fun j _=>HlA.out j) (by omega) (by rw[←ex]; exact hS.out));clear h0 ex;go_wp2_with fail;refine (rS _).mono ?_
    rintro e w' ⟨rfl,rfl⟩
    go_wp2_with fail
    go_round
    case rel=>exact⟨k+1,64*k+S,by omega,by go_num,by go_num,by omega,HN⟩
    case measure=>simp[intOf]; omega
  ·obtain rfl:k=4:=by omega
   go_wp2_with fail;go_ret;exact⟨L,rfl,by omega,by rw[HV.out]; exact hl.out,(Below.refl _ _).alloc (Nat.le_refl _) _⟩
def nP (A i:Nat):Nat:=A/2^i%2
theorem IH (A i:Nat):nP A i=0∨nP A i=1:=by unfold nP; omega
theorem xZ (R:Nat) (P:Nat→Nat) (n:Nat):eR R P (n+1)=P 0+R*eR R (fun k=>P (1+k)) n:=by
 have:=jB R P 1 n;rw[Nat.add_comm n 1,this];simp[eR]
theorem UX (P:Nat→Nat) (hP:∀k,P k<18446744073709551616) (n j k:Nat) (hj:j<n) (hk:k<64):nP (eR 18446744073709551616 P n) (64*j+k)=P j/2^k%2:=by
 obtain⟨m,rfl⟩:∃m,n=j+(m+1):=⟨n-j-1,by omega⟩
 have h1:=jB 18446744073709551616 P j (m+1);have h2:=xZ 18446744073709551616 (fun k=>P (j+k)) m;have h3:=zQ 18446744073709551616 P (by omega) j (fun k _=>hP k);unfold nP;rw[h1,h2,qN,←Nat.div_div_eq_div_mul,Nat.add_mul_div_left _ _ (by exact Nat.pow_pos (by omega)),Nat.div_eq_of_lt h3,Nat.zero_add];have e:18446744073709551616=2^k*(2*2^(63-k)):=by
  rw[←Nat.pow_succ',←Nat.pow_add,show k+(63-k).succ=64 by omega]
 show (P j+18446744073709551616*_)/2^k%2=_;generalize eR 18446744073709551616 (fun k=>P (j+(1+k))) m=H;rw[show 18446744073709551616*H=2^k*(2*2^(63-k))*H by rw[←e],Nat.mul_assoc,Nat.add_mul_div_left _ _ (by exact Nat.pow_pos (by omega)),Nat.mul_assoc,Nat.add_mul_mod_self_left]
theorem TL {x k:Nat} (h:x/2^k%2=0):∃t l,x=2^(k+1)*t+l∧l<2^k:=by
 refine⟨x/2^k/2,x%2^k,?_,Nat.mod_lt _ (Nat.pow_pos (by omega))⟩;have h1:=Nat.div_add_mod x (2^k);have h2:x/2^k=2*(x/2^k/2):=by omega
 rw[Nat.pow_succ,Nat.mul_assoc,←h2,h1]
theorem Qh {x k:Nat} (h:x/2^k%2=0):x ||| 2^k=x+2^k:=by
 obtain⟨t,l,rfl,hl⟩:=TL h;have h1:l<2^(k+1):=by rw[Nat.pow_succ]; omega
 have h2:2^k+l<2^(k+1):=by rw[Nat.pow_succ]; omega
 have e1:=Nat.two_pow_add_eq_or_of_lt hl 1;have e2:=Nat.two_pow_add_eq_or_of_lt h1 t;have e3:=Nat.two_pow_add_eq_or_of_lt h2 t;rw[Nat.mul_one]at e1;rw[e2,Nat.or_assoc,Nat.or_comm l,←e1,←e3];omega
theorem MS {x k:Nat} (hx:x<18446744073709551616) (hk:k<64) (h:x/2^k%2=0):x+2^k<18446744073709551616:=by
 have hk':2^k<2^64:=Nat.pow_lt_pow_right (by omega) hk;rw[←Qh h];have:=Nat.or_lt_two_pow (n:=64) (x:=x) (y:=2^k) (by simpa using hx) hk';simpa using this
theorem aAQ {i:Nat} (h:i<256):∃j k:Nat,(i:Int)/64=(j:Int)∧(i:Int)%64=(k:Int)∧j<4∧k<64∧Hid (i=64*j+k) :=
 ⟨i/64,i%64,by omega,by omega,by omega,by omega,Lib.hid (by omega)⟩
theorem TU (x:Nat) (hx:x<18446744073709551616):bits .and .u64 (x:Int) 1=((x%2:Nat):Int):=by
 rw[show (1:Int)=((1:Nat):Int)from rfl,bits_and_u64_nat _ _ hx (by omega),Nat.and_one_is_mod]
theorem Sx {x k b:Nat} (hx:x<18446744073709551616) (hb:x/2^k%2=b):∃s:Nat,(x:Int)/2^k=(s:Int)∧bits .and .u64 (s:Int) 1=(b:Int)∧s<18446744073709551616:=by
 have hs:x/2^k<18446744073709551616:=Nat.lt_of_le_of_lt (Nat.div_le_self _ _) hx;exact⟨x/2^k,by rw[Int.natCast_ediv,Int.natCast_pow]; rfl,by rw[TU _ hs,hb],hs⟩
theorem Ck (A i:Nat):A/2^i=2*(A/2^(i+1))+nP A i:=by
 unfold nP;rw[Nat.pow_succ,←Nat.div_div_eq_div_mul];omega
def Lo (b:Nat) (w:World) (e:Ending) (w':World):Prop:=e=.returned (.int .i64 b)∧Below w.heap.size w w'
theorem LR {a0 a1 a2 a3:Nat} (ha:cC a0 a1 a2 a3) (k:Nat):dL [a0,a1,a2,a3] k<18446744073709551616:=by
 obtain⟨h0,h1,h2,h3⟩:=ha;unfold dL
 match k with
 | 0=>exact h0
 | 1=>exact h1
 | 2=>exact h2
 | 3=>exact h3
 | k+4=>simp
theorem Ed (a0 a1 a2 a3:Nat):aC a0 a1 a2 a3=eR 18446744073709551616 (dL [a0,a1,a2,a3]) 4:=by rw[←iF]; rfl
theorem Uf {a0 a1 a2 a3 i j k:Nat} (ha:cC a0 a1 a2 a3) (hj:j<4) (hk:k<64) (e:i=64*j+k):dL [a0,a1,a2,a3] j/2^k%2=nP (aC a0 a1 a2 a3) i:=by
 rw[Ed,e,UX _ (LR ha) 4 j k hj hk]
theorem YL (w:World) (t:TypeId) (a0 a1 a2 a3 j:Nat) (hj:j<4):(w.alloc (.cells #[.int .u64 a0,.int .u64 a1,.int .u64 a2,.int .u64 a3] t)).cell? ⟨w.heap.size,j,none⟩=some (.int .u64 (dL [a0,a1,a2,a3] j:Nat)) :=
 (RowIs.mk w t [a0,a1,a2,a3] w.heap.size rfl).cell hj
theorem Ue (a0 a1 a2 a3 i:Nat) (ha:cC a0 a1 a2 a3) (hi:i<256) (w:World) :
  Calls prog 134 #[.agg #[.int .u64 a0,.int .u64 a1,.int .u64 a2,.int .u64 a3],.int .i64 i] w (Lo (nP (aC a0 a1 a2 a3) i) w):=by
 obtain⟨j,k,q,r,hj,hk,e⟩:=aAQ hi;have hc:=YL w 24 a0 a1 a2 a3 j hj;have hx:=LR ha j;obtain⟨s,e1,e2,hs⟩:=Sx hx (Uf ha hj hk e.out);have hb:=IH (aC a0 a1 a2 a3) i;generalize nP (aC a0 a1 a2 a3) i=b at *;generalize dL [a0,a1,a2,a3] j=x at *;have hb':b≤1:=by omega
 clear hb e;have t0:decide ((i:Int)<0)=false:=decide_eq_false (by omega);have t1:decide ((256:Int)≤(i:Int))=false:=decide_eq_false (by omega)
 go_enter func134,ntmps134
 go_wp2_with fail;go_ret;exact⟨rfl,(Below.refl _ _).alloc (Nat.le_refl _) _⟩
theorem Mem.row {w wr:World} {rs:List (Nat×Nat×Nat×Nat×Nat)} (h:Mem w wr rs) {b c0 c1 c2 c3:Nat} (hm:(b,c0,c1,c2,c3)∈rs):Row4 wr b c0 c1 c2 c3:=(h.2 _ hm).2
theorem Mem.lt {w wr:World} {rs:List (Nat×Nat×Nat×Nat×Nat)} (h:Mem w wr rs) {b c0 c1 c2 c3:Nat} (hm:(b,c0,c1,c2,c3)∈rs):b<wr.heap.size:=(h.2 _ hm).1
theorem EM {N k L:Nat} (hk:k<L):N/2^(L-(k+1))=2*(N/2^(L-k))+nP N (L-1-k):=by
 have:=Ck N (L-1-k);rw[show L-1-k+1=L-k by omega]at this;rw[show L-(k+1)=L-1-k by omega,this]
set_option maxHeartbeats 4000000 in
theorem EL (F:FC) (hF:F.Ok) (A b a0 a1 a2 a3 n0 n1 n2 n3:Nat) (ha:cC a0 a1 a2 a3) (hn:cC n0 n1 n2 n3) (hA:aC a0 a1 a2 a3=kp F A) (w:World) (hk:KIs w b F) :
  Calls prog 117 #[.pointer (some ⟨b,0,none⟩),.agg #[.int .u64 a0,.int .u64 a1,.int .u64 a2,.int .u64 a3],.agg #[.int .u64 n0,.int .u64 n1,.int .u64 n2,.int .u64 n3]] w (jQ (kp F (A^aC n0 n1 n2 n3)) w):=by
 have HK:=Lib.hid hk;have HF:=Lib.hid hF;have HA:=Lib.hid hA;have la:aC a0 a1 a2 a3<F.M:=by rw[hA]; exact FX hF _
 have hL:=hk.lt;have HLA:=Lib.hid la;clear hk hF hA la
 go_enter func117,ntmps117
 go_wp2_with fail;have M0:=((((Mem.nil w).new w.heap.size a0 a1 a2 a3 104 rfl).new (w.heap.size+1) n0 n1 n2 n3 24 (by simp)).new (w.heap.size+1+1) 0 0 0 0 104 (by simp));refine (oF F HF.out b _ (HK.out.same M0.1)).mono ?_
 rintro e w1 ⟨s0,s1,s2,s3,rfl,hs,hv,hbl⟩
 have M1:=M0.on hbl;have HV1:=Lib.hid hv;have hz1:w.heap.size+1+1<w1.heap.size:=M1.lt (c0:=0) (c1:=0) (c2:=0) (c3:=0) (by simp);have R1:=M1.row (b:=w.heap.size+1) (c0:=n0) (c1:=n1) (c2:=n2) (c3:=n3) (by simp);have x0:=R1.c0; have x1:=R1.c1; have x2:=R1.c2; have x3:=R1.c3;have lt1:w.heap.size+1<w1.heap.size:=by omega
 have M2:=Lib.hid (M1.new w1.heap.size s0 s1 s2 s3 104 rfl);clear hbl hv R1 M0 M1;go_wp2_with fail;refine (sQ n0 n1 n2 n3 hn _).mono ?_
 rintro e w2 ⟨L,rfl,hL256,hLen,hbl⟩
 have HLen:=Lib.hid hLen;have M3:=Lib.hid (M2.out.on hbl);have hz2:w1.heap.size<w2.heap.size:=by have:=hbl.size; simp at this; omega
 clear hbl hLen x0 x1 x2 x3;go_wp2_with fail
 go_loopw [15] (fun i wr=>∃k r0 r1 r2 r3:Nat,k≤L∧i=.int .i64 k∧cC r0 r1 r2 r3∧Hid (aC r0 r1 r2 r3=kp F (A^(aC n0 n1 n2 n3/2^(L-k))))∧Hid (Mem w wr [(w1.heap.size,r0,r1,r2,r3),(w.heap.size+1+1,0,0,0,0),(w.heap.size+1,n0,n1,n2,n3),(w.heap.size,a0,a1,a2,a3)])) (fun i _=>L-(intOf i).toNat)
 case atStart =>
  refine⟨0,s0,s1,s2,s3,Nat.zero_le _,rfl,hs,Lib.hid ?_,M3⟩;rw[HV1.out,Nat.sub_zero,Nat.div_eq_of_lt HLen.out.1,Nat.pow_zero]
 case round =>
  obtain⟨k,r0,r1,r2,r3,hkL,rfl,hr,HV,HM⟩:=hrel;have hrl:aC r0 r1 r2 r3<F.M:=by rw[HV.out]; exact FX HF.out _
  by_cases hlt:k<L
  ·have Rr:=HM.out.row (b:=w1.heap.size) (c0:=r0) (c1:=r1) (c2:=r2) (c3:=r3) (by simp);have x0:=Rr.c0; have x1:=Rr.c1; have x2:=Rr.c2; have x3:=Rr.c3;have ltr:=HM.out.lt (b:=w1.heap.size) (c0:=r0) (c1:=r1) (c2:=r2) (c3:=r3) (by simp);have Hrl:=Lib.hid hrl;clear Rr hrl;go_wp2_with fail;refine (dE F HF.out b r0 r1 r2 r3 r0 r1 r2 r3 hr hr Hrl.out _ (HK.out.same HM.out.1)).mono ?_
   rintro e w3 ⟨p0,p1,p2,p3,rfl,hp,hv,hbl⟩
   have hv':aC p0 p1 p2 p3=kp F (A^(aC n0 n1 n2 n3/2^(L-k))*A^(aC n0 n1 n2 n3/2^(L-k))%F.M):=by rw[hv,HV.out,mZ HF.out]
   have HP:=Lib.hid hv';have M4:=HM.out.on hbl;have lt4:=M4.lt (b:=w1.heap.size) (c0:=r0) (c1:=r1) (c2:=r2) (c3:=r3) (by simp);have Rr:=M4.row (b:=w1.heap.size) (c0:=r0) (c1:=r1) (c2:=r2) (c3:=r3) (by simp);have Rn:=M4.row (b:=w.heap.size+1) (c0:=n0) (c1:=n1) (c2:=n2) (c3:=n3) (by simp);have Ra:=M4.row (b:=w.heap.size) (c0:=a0) (c1:=a1) (c2:=a2) (c3:=a3) (by simp);have M5:=Lib.hid (M4.put p0 p1 p2 p3 (by omega) (by intro r hr; simp at hr; rcases hr with rfl|rfl|rfl<;>simp<;>omega));clear x0 x1 x2 x3 hv hv' hbl M4;have x0:=Rr.c0; have x1:=Rr.c1; have x2:=Rr.c2; have x3:=Rr.c3; have xf:=Rr.fr;have y0:=Rn.c0; have y1:=Rn.c1; have y2:=Rn.c2; have y3:=Rn.c3;have ne1:¬w.heap.size+1=w1.heap.size:=by omega
   have ne1':¬w1.heap.size=w.heap.size+1:=by omega
   clear Rr Rn Ra;obtain⟨L1,e1,hL1⟩:∃L1:Nat,(L:Int)-1=(L1:Int)∧L1+1=L:=⟨L-1,by omega,by omega⟩
   obtain⟨j,e2,hj⟩:∃j:Nat,(L1:Int)-(k:Int)=(j:Int)∧j+k=L1:=⟨L1-k,by omega,by omega⟩
   have hj256:j<256:=by omega
   have hjk:j=L-1-k:=by omega
   have HJ:=Lib.hid hjk;clear hjk;go_wp2_with fail;refine (Ue n0 n1 n2 n3 j hn hj256 _).mono ?_
   rintro e w4 ⟨he,hbl⟩
   have M5':=M5.out;unfold set4 at M5';have M6:=M5'.on hbl;clear hbl M5' x0 x1 x2 x3 xf y0 y1 y2 y3;have lt6:=M6.lt (b:=w1.heap.size) (c0:=p0) (c1:=p1) (c2:=p2) (c3:=p3) (by simp)
   rcases IH (aC n0 n1 n2 n3) j with hb|hb
   ·rw[hb]at he;subst he;have HS:=Lib.hid (show aC p0 p1 p2 p3=kp F (A^(aC n0 n1 n2 n3/2^(L-(k+1)))) by
     rw[HP.out,EM hlt,←HJ.out,hb]; exact ((tK F A _ 0 (Or.inl rfl)).1 rfl).symm)
    have M7:=Lib.hid M6;clear hb M6;go_wp2_with fail
    go_roundw
    case rel=>exact⟨k+1,p0,p1,p2,p3,by omega,by go_num,hp,HS,M7⟩
    case measure=>simp[intOf]; omega
   ·rw[hb]at he;subst he;have Rr:=M6.row (b:=w1.heap.size) (c0:=p0) (c1:=p1) (c2:=p2) (c3:=p3) (by simp);have Ra:=M6.row (b:=w.heap.size) (c0:=a0) (c1:=a1) (c2:=a2) (c3:=a3) (by simp);have x0:=Rr.c0; have x1:=Rr.c1; have x2:=Rr.c2; have x3:=Rr.c3;have z0:=Ra.c0; have z1:=Ra.c1; have z2:=Ra.c2; have z3:=Ra.c3;have HB:=Lib.hid hb;have M7:=Lib.hid M6;clear hb M6 Rr Ra;go_wp2_with fail;refine (dE F HF.out b p0 p1 p2 p3 a0 a1 a2 a3 hp ha HLA.out _ (HK.out.same M7.out.1)).mono ?_
    rintro e w5 ⟨q0,q1,q2,q3,rfl,hq,hv,hbl⟩
    have hv':aC q0 q1 q2 q3=kp F (A^(aC n0 n1 n2 n3/2^(L-(k+1)))):=by
     rw[hv,HP.out,HA.out,mZ HF.out,EM hlt,←HJ.out,HB.out]; exact ((tK F A _ 1 (Or.inr rfl)).2 rfl).symm
    have HS:=Lib.hid hv';have M8:=M7.out.on hbl;have lt8:=M8.lt (b:=w1.heap.size) (c0:=p0) (c1:=p1) (c2:=p2) (c3:=p3) (by simp);have Rr:=M8.row (b:=w1.heap.size) (c0:=p0) (c1:=p1) (c2:=p2) (c3:=p3) (by simp);have M9:=Lib.hid (M8.put q0 q1 q2 q3 (by omega) (by intro r hr; simp at hr; rcases hr with rfl|rfl|rfl<;>simp<;>omega));clear x0 x1 x2 x3 z0 z1 z2 z3 hv hv' hbl M8;have x0:=Rr.c0; have x1:=Rr.c1; have x2:=Rr.c2; have x3:=Rr.c3; have xf:=Rr.fr;clear Rr;go_wp2_with fail
    go_roundw
    case rel=>exact⟨k+1,q0,q1,q2,q3,by omega,by go_num,hq,HS,M9⟩
    case measure=>simp[intOf]; omega
  ·obtain rfl:k=L:=by omega
   have Rr:=HM.out.row (b:=w1.heap.size) (c0:=r0) (c1:=r1) (c2:=r2) (c3:=r3) (by simp);have x0:=Rr.c0; have x1:=Rr.c1; have x2:=Rr.c2; have x3:=Rr.c3;have Ro:=HM.out.row (b:=w.heap.size+1+1) (c0:=0) (c1:=0) (c2:=0) (c3:=0) (by simp);have o0:=Ro.c0; have o1:=Ro.c1; have o2:=Ro.c2; have o3:=Ro.c3; have of:=Ro.fr;have ltr:=HM.out.lt (b:=w1.heap.size) (c0:=r0) (c1:=r1) (c2:=r2) (c3:=r3) (by simp);have lto:=HM.out.lt (b:=w.heap.size+1+1) (c0:=0) (c1:=0) (c2:=0) (c3:=0) (by simp);clear Rr Ro hrl;go_wp2_with fail;refine bodyPost_ret (v:=.agg #[.int .u64 r0,.int .u64 r1,.int .u64 r2,.int .u64 r3]) (by simp[results,results117,go_sem, *]) rfl ?_;refine⟨_,_,_,_,rfl,hr,by rw[HV.out,Nat.sub_self,Nat.pow_zero,Nat.div_one],?_⟩;exact bF HM.out.1 (by omega) _ _ _ _
theorem wJ (d:Nat) (a0 a1 a2 a3 b0 b1 b2 b3:Nat) (w:World):(Op.equalIn (d+1+1) 27 (.agg #[.int .u64 a0,.int .u64 a1,.int .u64 a2,.int .u64 a3]) (.agg #[.int .u64 b0,.int .u64 b1,.int .u64 b2,.int .u64 b3])).run prog w=.ok (LX a0 a1 a2 a3 b0 b1 b2 b3) w:=by
 have h0:∀(x y:Int) (w:World),(Op.equalIn (d+1) 22 (.int .u64 x) (.int .u64 y)).run prog w=.ok (x==y) w:=fun x y w=>run_equalIn_int w d 22 .u64 .u64 x y underlying22
 rw[Op.equalIn];simp only[Sem.run_bind,run_underlying underlying27,Result.andThen_ok,Tryz.sizeOf22];simp[Std.Legacy.Range.forIn_eq_forIn_range',Std.Legacy.Range.size,List.range',part,h0,Sem.run_bind,Result.andThen_ok];unfold LX
 by_cases q0:a0=b0<;>by_cases q1:a1=b1<;>by_cases q2:a2=b2<;>by_cases q3:a3=b3<;>simp[q0,q1,q2,q3]<;>omega
theorem Mem.drew {w wr:World} {rs:List (Nat×Nat×Nat×Nat×Nat)} (h:Mem w wr rs):Mem w wr.drew rs :=
 ⟨h.1.drew,fun r hr=>⟨(h.2 r hr).1,⟨(h.2 r hr).2.c0,(h.2 r hr).2.c1,(h.2 r hr).2.c2,(h.2 r hr).2.c3,(h.2 r hr).2.fr⟩⟩⟩
theorem Ax:prog.eqGuardType prog.depth 27=false:=by kernel_rfl
set_option maxHeartbeats 1000000 in
theorem nE (F:FC) (hF:F.Ok) (A b a0 a1 a2 a3:Nat) (ha:cC a0 a1 a2 a3) (hA:aC a0 a1 a2 a3=kp F A) (w:World) (hk:KIs w b F) :
  Calls prog 120 #[.pointer (some ⟨b,0,none⟩),.agg #[.int .u64 a0,.int .u64 a1,.int .u64 a2,.int .u64 a3]] w (jQ (kp F (A^(F.M-2))) w):=by
 have HK:=Lib.hid hk;have HF:=Lib.hid hF;have HA:=Lib.hid hA;have hL:=hk.lt;have hL1:b<w.heap.size+1:=by omega
 have k0:=hk.k0; have k1:=hk.k1; have k2:=hk.k2; have k3:=hk.k3;clear hk hF hA
 go_enter func120,ntmps120
 go_wp2_with fail;have M0:=(((Mem.nil w).new w.heap.size a0 a1 a2 a3 104 rfl).new (w.heap.size+1) 0 0 0 0 104 (by simp));refine (nW F.m0 F.m1 F.m2 F.m3 2 0 0 0 HF.out.okm ⟨by omega,by omega,by omega,by omega⟩ _).mono ?_
 rintro e w1 ⟨n0,n1,n2,n3,c,rfl,hn,hc,hv,hbl⟩
 have hv':aC n0 n1 n2 n3=F.M-2:=by
  have e2:aC 2 0 0 0=2:=rfl;have:=bN hn; have:=HF.out.gt; have:=HF.out.two;rw[e2,show aC F.m0 F.m1 F.m2 F.m3=F.M from rfl]at hv;omega
 have HV:=Lib.hid hv';have M1:=M0.on hbl;have hz1:w.heap.size+1<w1.heap.size:=M1.lt (c0:=0) (c1:=0) (c2:=0) (c3:=0) (by simp);have R1:=M1.row (b:=w.heap.size) (c0:=a0) (c1:=a1) (c2:=a2) (c3:=a3) (by simp);have x0:=R1.c0; have x1:=R1.c1; have x2:=R1.c2; have x3:=R1.c3;have lt1:w.heap.size<w1.heap.size:=by omega
 have M2:=Lib.hid (M1.new w1.heap.size n0 n1 n2 n3 24 rfl);clear hbl hv hv' R1 M0 M1 k0 k1 k2 k3;go_wp2_with fail;refine (EL F HF.out A b a0 a1 a2 a3 n0 n1 n2 n3 ha hn HA.out _ (HK.out.same M2.out.1)).mono ?_
 rintro e w2 ⟨s0,s1,s2,s3,rfl,hs,hv,hbl⟩
 have HVs:=Lib.hid hv;have M3:=Lib.hid (M2.out.on hbl);have Ro:=M3.out.row (b:=w.heap.size+1) (c0:=0) (c1:=0) (c2:=0) (c3:=0) (by simp);have o0:=Ro.c0; have o1:=Ro.c1; have o2:=Ro.c2; have o3:=Ro.c3; have of:=Ro.fr;have lto:=M3.out.lt (b:=w.heap.size+1) (c0:=0) (c1:=0) (c2:=0) (c3:=0) (by simp);clear hbl hv Ro x0 x1 x2 x3;go_wp2_with fail;refine bodyPost_ret (v:=.agg #[.int .u64 s0,.int .u64 s1,.int .u64 s2,.int .u64 s3]) (by simp[results,results120,go_sem, *]) rfl ?_;refine⟨_,_,_,_,rfl,hs,by rw[HVs.out,HV.out],?_⟩;exact bF M3.out.1 (by omega) _ _ _ _
theorem Wy (a0 a1 a2 a3:Nat) (n:Int) (ha:cC a0 a1 a2 a3) (h0:0<n) (hq:n/64=0) (w:World) :
  Calls prog 79 #[.agg #[.int .u64 a0,.int .u64 a1,.int .u64 a2,.int .u64 a3],.int .i64 n] w (cJ (fun v=>v=aC a0 a1 a2 a3/2^n.toNat) w):=by
 obtain⟨p,hr,hp,en⟩:=GM (by omega) 0 hq (by omega);have b1:n<256:=by omega
 have t0:decide (n≤0)=false:=decide_eq_false (by omega);obtain⟨lo0,up0,u0,d0,bl0,bu0,e0,g0,m0⟩:=iD (a:=a0) (p:=p) ha.1 hp;obtain⟨lo1,up1,u1,d1,bl1,bu1,e1,g1,m1⟩:=iD (a:=a1) (p:=p) ha.2.1 hp;obtain⟨lo2,up2,u2,d2,bl2,bu2,e2,g2,m2⟩:=iD (a:=a2) (p:=p) ha.2.2.1 hp;obtain⟨lo3,up3,u3,d3,bl3,bu3,e3,g3,m3⟩:=iD (a:=a3) (p:=p) ha.2.2.2 hp;obtain⟨s0,o0,bs0,f0⟩:=nH bl0 bu1 g0 m1;obtain⟨s1,o1,bs1,f1⟩:=nH bl1 bu2 g1 m2;obtain⟨s2,o2,bs2,f2⟩:=nH bl2 bu3 g2 m3;have HF:Hid (aC s0 s1 s2 lo3=aC a0 a1 a2 a3/2^n.toNat):=Lib.hid (by
  rw[en,qN,←Nat.div_div_eq_div_mul];have hq':aC a0 a1 a2 a3/18446744073709551616^((0:Int)).toNat=aC a0 a1 a2 a3:=by
   rw[show 18446744073709551616^((0:Int)).toNat=1 by simp];obtain⟨k0,k1,k2,k3⟩:=ha;unfold aC; omega
  rw[hq'];obtain⟨v0,x0,y0,z0⟩:=e0.out;obtain⟨v1,x1,y1,z1⟩:=e1.out;obtain⟨v2,x2,y2,z2⟩:=e2.out;obtain⟨v3,x3,y3,z3⟩:=e3.out;have f0:=f0.out;have f1:=f1.out;have f2:=f2.out;refine uJ (m:=v0) ?_ y0;have hD:aC s0 s1 s2 lo3*2^p=1*(s0*2^p)+18446744073709551616*(s1*2^p)+340282366920938463463374607431768211456*(s2*2^p)+6277101735386680763835789423207666416102355444464034512896*(lo3*2^p):=by
   unfold aC; simp only[Nat.add_mul,Nat.mul_add,Nat.mul_assoc,Nat.mul_zero,Nat.zero_mul,Nat.add_zero]; omega
  rw[hD];have k0:s0*2^p=lo0*2^p+up1*2^p:=by rw[f0,Nat.add_mul]
  have k1:s1*2^p=lo1*2^p+up2*2^p:=by rw[f1,Nat.add_mul]
  have k2:s2*2^p=lo2*2^p+up3*2^p:=by rw[f2,Nat.add_mul]
  unfold aC;omega)
 clear e0 g0 m0 e1 g1 m1 e2 g2 m2 e3 g3 m3 f0 f1 f2;have HEN:=Lib.hid en;clear en
 go_enter func79,ntmps79
 go_wp2_with fail;refine wp_loop_rounds 5 ?_;rw[rounds_succ];go_wp2_with fail
 go_region
 go_wp2_with fail;rw[rounds_succ];go_wp2_with fail
 go_region
 go_wp2_with fail;rw[rounds_succ];go_wp2_with fail
 go_region
 go_wp2_with fail;rw[rounds_succ];go_wp2_with fail;rw[rounds_succ];go_wp2_with fail;refine bodyPost_ret (v:=.agg #[.int .u64 s0,.int .u64 s1,.int .u64 s2,.int .u64 lo3]) (by simp[results,results79,go_sem]) rfl ?_;refine⟨s0,s1,s2,lo3,rfl,⟨bs0,bs1,bs2,bl3⟩,HF.out,?_⟩
 repeat (first|exact Below.refl _ _|refine Below.drew ?_|refine Below.alloc ?_ (by first|(simp; done)|(simp; omega)) _)
theorem Wx (a0 a1 a2 a3:Nat) (n:Int) (ha:cC a0 a1 a2 a3) (h0:0<n) (hq:n/64=1) (w:World) :
  Calls prog 79 #[.agg #[.int .u64 a0,.int .u64 a1,.int .u64 a2,.int .u64 a3],.int .i64 n] w (cJ (fun v=>v=aC a0 a1 a2 a3/2^n.toNat) w):=by
 obtain⟨p,hr,hp,en⟩:=GM (by omega) 1 hq (by omega);have b1:n<256:=by omega
 have t0:decide (n≤0)=false:=decide_eq_false (by omega);obtain⟨lo1,up1,u1,d1,bl1,bu1,e1,g1,m1⟩:=iD (a:=a1) (p:=p) ha.2.1 hp;obtain⟨lo2,up2,u2,d2,bl2,bu2,e2,g2,m2⟩:=iD (a:=a2) (p:=p) ha.2.2.1 hp;obtain⟨lo3,up3,u3,d3,bl3,bu3,e3,g3,m3⟩:=iD (a:=a3) (p:=p) ha.2.2.2 hp;obtain⟨s1,o1,bs1,f1⟩:=nH bl1 bu2 g1 m2;obtain⟨s2,o2,bs2,f2⟩:=nH bl2 bu3 g2 m3;have HF:Hid (aC s1 s2 lo3 0=aC a0 a1 a2 a3/2^n.toNat):=Lib.hid (by
  rw[en,qN,←Nat.div_div_eq_div_mul];have hq':aC a0 a1 a2 a3/18446744073709551616^((1:Int)).toNat=aC a1 a2 a3 0:=by
   rw[show 18446744073709551616^((1:Int)).toNat=18446744073709551616 by simp];obtain⟨k0,k1,k2,k3⟩:=ha;unfold aC; omega
  rw[hq'];obtain⟨v1,x1,y1,z1⟩:=e1.out;obtain⟨v2,x2,y2,z2⟩:=e2.out;obtain⟨v3,x3,y3,z3⟩:=e3.out;have f1:=f1.out;have f2:=f2.out;refine uJ (m:=v1) ?_ y1;have hD:aC s1 s2 lo3 0*2^p=1*(s1*2^p)+18446744073709551616*(s2*2^p)+340282366920938463463374607431768211456*(lo3*2^p):=by
   unfold aC; simp only[Nat.add_mul,Nat.mul_add,Nat.mul_assoc,Nat.mul_zero,Nat.zero_mul,Nat.add_zero]; omega
  rw[hD];have k1:s1*2^p=lo1*2^p+up2*2^p:=by rw[f1,Nat.add_mul]
  have k2:s2*2^p=lo2*2^p+up3*2^p:=by rw[f2,Nat.add_mul]
  unfold aC;omega)
 clear e1 g1 m1 e2 g2 m2 e3 g3 m3 f1 f2;have HEN:=Lib.hid en;clear en
 go_enter func79,ntmps79
 go_wp2_with fail;refine wp_loop_rounds 4 ?_;rw[rounds_succ];go_wp2_with fail
 go_region
 go_wp2_with fail;rw[rounds_succ];go_wp2_with fail
 go_region
 go_wp2_with fail;rw[rounds_succ];go_wp2_with fail;rw[rounds_succ];go_wp2_with fail;refine bodyPost_ret (v:=.agg #[.int .u64 s1,.int .u64 s2,.int .u64 lo3,.int .u64 0]) (by simp[results,results79,go_sem]) rfl ?_;refine⟨s1,s2,lo3,0,rfl,⟨bs1,bs2,bl3,(by omega)⟩,HF.out,?_⟩
 repeat (first|exact Below.refl _ _|refine Below.drew ?_|refine Below.alloc ?_ (by first|(simp; done)|(simp; omega)) _)
theorem Ww (a0 a1 a2 a3:Nat) (n:Int) (ha:cC a0 a1 a2 a3) (h0:0<n) (hq:n/64=2) (w:World) :
  Calls prog 79 #[.agg #[.int .u64 a0,.int .u64 a1,.int .u64 a2,.int .u64 a3],.int .i64 n] w (cJ (fun v=>v=aC a0 a1 a2 a3/2^n.toNat) w):=by
 obtain⟨p,hr,hp,en⟩:=GM (by omega) 2 hq (by omega);have b1:n<256:=by omega
 have t0:decide (n≤0)=false:=decide_eq_false (by omega);obtain⟨lo2,up2,u2,d2,bl2,bu2,e2,g2,m2⟩:=iD (a:=a2) (p:=p) ha.2.2.1 hp;obtain⟨lo3,up3,u3,d3,bl3,bu3,e3,g3,m3⟩:=iD (a:=a3) (p:=p) ha.2.2.2 hp;obtain⟨s2,o2,bs2,f2⟩:=nH bl2 bu3 g2 m3;have HF:Hid (aC s2 lo3 0 0=aC a0 a1 a2 a3/2^n.toNat):=Lib.hid (by
  rw[en,qN,←Nat.div_div_eq_div_mul];have hq':aC a0 a1 a2 a3/18446744073709551616^((2:Int)).toNat=aC a2 a3 0 0:=by
   rw[show 18446744073709551616^((2:Int)).toNat=340282366920938463463374607431768211456 by simp];obtain⟨k0,k1,k2,k3⟩:=ha;unfold aC; omega
  rw[hq'];obtain⟨v2,x2,y2,z2⟩:=e2.out;obtain⟨v3,x3,y3,z3⟩:=e3.out;have f2:=f2.out;refine uJ (m:=v2) ?_ y2;have hD:aC s2 lo3 0 0*2^p=1*(s2*2^p)+18446744073709551616*(lo3*2^p):=by
   unfold aC; simp only[Nat.add_mul,Nat.mul_add,Nat.mul_assoc,Nat.mul_zero,Nat.zero_mul,Nat.add_zero]; omega
  rw[hD];have k2:s2*2^p=lo2*2^p+up3*2^p:=by rw[f2,Nat.add_mul]
  unfold aC;omega)
 clear e2 g2 m2 e3 g3 m3 f2;have HEN:=Lib.hid en;clear en
 go_enter func79,ntmps79
 go_wp2_with fail;refine wp_loop_rounds 3 ?_;rw[rounds_succ];go_wp2_with fail
 go_region
 go_wp2_with fail;rw[rounds_succ];go_wp2_with fail;rw[rounds_succ];go_wp2_with fail;refine bodyPost_ret (v:=.agg #[.int .u64 s2,.int .u64 lo3,.int .u64 0,.int .u64 0]) (by simp[results,results79,go_sem]) rfl ?_;refine⟨s2,lo3,0,0,rfl,⟨bs2,bl3,(by omega),(by omega)⟩,HF.out,?_⟩
 repeat (first|exact Below.refl _ _|refine Below.drew ?_|refine Below.alloc ?_ (by first|(simp; done)|(simp; omega)) _)
theorem Wv (a0 a1 a2 a3:Nat) (n:Int) (ha:cC a0 a1 a2 a3) (h0:0<n) (hq:n/64=3) (w:World) :
  Calls prog 79 #[.agg #[.int .u64 a0,.int .u64 a1,.int .u64 a2,.int .u64 a3],.int .i64 n] w (cJ (fun v=>v=aC a0 a1 a2 a3/2^n.toNat) w):=by
 obtain⟨p,hr,hp,en⟩:=GM (by omega) 3 hq (by omega);have b1:n<256:=by omega
 have t0:decide (n≤0)=false:=decide_eq_false (by omega);obtain⟨lo3,up3,u3,d3,bl3,bu3,e3,g3,m3⟩:=iD (a:=a3) (p:=p) ha.2.2.2 hp;have HF:Hid (aC lo3 0 0 0=aC a0 a1 a2 a3/2^n.toNat):=Lib.hid (by
  rw[en,qN,←Nat.div_div_eq_div_mul];have hq':aC a0 a1 a2 a3/18446744073709551616^((3:Int)).toNat=aC a3 0 0 0:=by
   rw[show 18446744073709551616^((3:Int)).toNat=6277101735386680763835789423207666416102355444464034512896 by simp];obtain⟨k0,k1,k2,k3⟩:=ha;unfold aC; omega
  rw[hq'];obtain⟨v3,x3,y3,z3⟩:=e3.out;refine uJ (m:=v3) ?_ y3;have hD:aC lo3 0 0 0*2^p=1*(lo3*2^p):=by
   unfold aC; simp only[Nat.add_mul,Nat.mul_add,Nat.mul_assoc,Nat.mul_zero,Nat.zero_mul,Nat.add_zero]; omega
  rw[hD];unfold aC;omega)
 clear e3 g3 m3;have HEN:=Lib.hid en;clear en
 go_enter func79,ntmps79
 go_wp2_with fail;refine wp_loop_rounds 2 ?_;rw[rounds_succ];go_wp2_with fail;rw[rounds_succ];go_wp2_with fail;refine bodyPost_ret (v:=.agg #[.int .u64 lo3,.int .u64 0,.int .u64 0,.int .u64 0]) (by simp[results,results79,go_sem]) rfl ?_;refine⟨lo3,0,0,0,rfl,⟨bl3,(by omega),(by omega),(by omega)⟩,HF.out,?_⟩
 repeat (first|exact Below.refl _ _|refine Below.drew ?_|refine Below.alloc ?_ (by first|(simp; done)|(simp; omega)) _)
theorem WE (a0 a1 a2 a3:Nat) (n:Int) (ha:cC a0 a1 a2 a3) (h0:n≤0) (w:World) :
  Calls prog 79 #[.agg #[.int .u64 a0,.int .u64 a1,.int .u64 a2,.int .u64 a3],.int .i64 n] w (cJ (fun v=>v=aC a0 a1 a2 a3) w):=by
 have t0:decide (n≤0)=true:=decide_eq_true h0
 go_enter func79,ntmps79
 go_wp2_with fail;refine bodyPost_ret (v:=.agg #[.int .u64 a0,.int .u64 a1,.int .u64 a2,.int .u64 a3]) (by simp[results,results79,go_sem]) rfl ?_;refine⟨a0,a1,a2,a3,rfl,ha,rfl,?_⟩
 repeat (first|exact Below.refl _ _|refine Below.drew ?_|refine Below.alloc ?_ (by first|(simp; done)|(simp; omega)) _)
theorem Fa (a0 a1 a2 a3:Nat) (n:Int) (ha:cC a0 a1 a2 a3) (h0:256≤n) (h1:n≤9223372036854775807) (w:World) :
  Calls prog 79 #[.agg #[.int .u64 a0,.int .u64 a1,.int .u64 a2,.int .u64 a3],.int .i64 n] w (cJ (fun v=>v=0) w):=by
 have t0:decide (n≤0)=false:=decide_eq_false (by omega);obtain⟨q,hq,bq,bq'⟩:∃q:Nat,n/64=(q:Int)∧4≤q∧q≤9223372036854775807:=⟨(n/64).toNat,by omega,by omega,by omega⟩
 have t1:decide ((0:Int)<4-(q:Int))=false:=decide_eq_false (by omega)
 go_enter func79,ntmps79
 go_wp2_with fail;refine wp_loop_rounds 1 ?_;rw[rounds_succ];go_wp2_with fail;refine bodyPost_ret (v:=.agg #[.int .u64 0,.int .u64 0,.int .u64 0,.int .u64 0]) (by simp[results,results79,go_sem]) rfl ?_;refine⟨0,0,0,0,rfl,⟨by omega,by omega,by omega,by omega⟩,rfl,?_⟩
 repeat (first|exact Below.refl _ _|refine Below.drew ?_|refine Below.alloc ?_ (by first|(simp; done)|(simp; omega)) _)
theorem oA (a0 a1 a2 a3:Nat) (n:Int) (ha:cC a0 a1 a2 a3) (h0:0≤n) (h1:n≤9223372036854775807) (w:World) :
  Calls prog 79 #[.agg #[.int .u64 a0,.int .u64 a1,.int .u64 a2,.int .u64 a3],.int .i64 n] w (cJ (fun v=>v=aC a0 a1 a2 a3/2^n.toNat) w):=by
 by_cases hz:n≤0
 ·refine (WE a0 a1 a2 a3 n ha hz w).mono ?_
  rintro e w' ⟨s0,s1,s2,s3,he,hs,hv,hb⟩
  refine⟨s0,s1,s2,s3,he,hs,?_,hb⟩;have:=bN ha;rw[hv,show n.toNat=0 by omega,Nat.pow_zero]; omega
 ·by_cases hf:256≤n
  ·refine (Fa a0 a1 a2 a3 n ha hf h1 w).mono ?_
   rintro e w' ⟨s0,s1,s2,s3,he,hs,hv,hb⟩
   refine⟨s0,s1,s2,s3,he,hs,?_,hb⟩;rw[hv];have hp:=Nat.pow_le_pow_right (show 0<2 by omega) (show 256≤n.toNat by omega);have:=bN ha;exact (Nat.div_eq_of_lt (Nat.lt_of_lt_of_le this hp)).symm
  ·have hq:n/64=0∨n/64=1∨n/64=2∨n/64=3:=by omega
   rcases hq with h|h|h|h
   ·exact Wy a0 a1 a2 a3 n ha (by omega) h w
   ·exact Wx a0 a1 a2 a3 n ha (by omega) h w
   ·exact Ww a0 a1 a2 a3 n ha (by omega) h w
   ·exact Wv a0 a1 a2 a3 n ha (by omega) h w
theorem BC (a0 a1 a2 a3 b0 b1 b2 b3:Nat) (ha:cC a0 a1 a2 a3) (hb:cC b0 b1 b2 b3) (w:World) :
  Calls prog 92 #[.agg #[.int .u64 a0,.int .u64 a1,.int .u64 a2,.int .u64 a3],.agg #[.int .u64 b0,.int .u64 b1,.int .u64 b2,.int .u64 b3]] w (cJ (fun v=>v=aC a0 a1 a2 a3 ||| aC b0 b1 b2 b3) w):=by
 obtain⟨s0,o0,bs0,f0⟩:∃s:Nat,bits .or .u64 (a0:Int) (b0:Int)=(s:Int)∧s<18446744073709551616∧Hid (s=a0 ||| b0):=⟨a0 ||| b0,bits_or_u64_nat _ _ ha.1 hb.1,Nat.or_lt_two_pow (n:=64) ha.1 hb.1,Lib.hid rfl⟩
 obtain⟨s1,o1,bs1,f1⟩:∃s:Nat,bits .or .u64 (a1:Int) (b1:Int)=(s:Int)∧s<18446744073709551616∧Hid (s=a1 ||| b1):=⟨a1 ||| b1,bits_or_u64_nat _ _ ha.2.1 hb.2.1,Nat.or_lt_two_pow (n:=64) ha.2.1 hb.2.1,Lib.hid rfl⟩
 obtain⟨s2,o2,bs2,f2⟩:∃s:Nat,bits .or .u64 (a2:Int) (b2:Int)=(s:Int)∧s<18446744073709551616∧Hid (s=a2 ||| b2):=⟨a2 ||| b2,bits_or_u64_nat _ _ ha.2.2.1 hb.2.2.1,Nat.or_lt_two_pow (n:=64) ha.2.2.1 hb.2.2.1,Lib.hid rfl⟩
 obtain⟨s3,o3,bs3,f3⟩:∃s:Nat,bits .or .u64 (a3:Int) (b3:Int)=(s:Int)∧s<18446744073709551616∧Hid (s=a3 ||| b3):=⟨a3 ||| b3,bits_or_u64_nat _ _ ha.2.2.2 hb.2.2.2,Nat.or_lt_two_pow (n:=64) ha.2.2.2 hb.2.2.2,Lib.hid rfl⟩
 have HF:Hid (aC s0 s1 s2 s3=aC a0 a1 a2 a3 ||| aC b0 b1 b2 b3):=Lib.hid (by rw[f0.out,f1.out,f2.out,f3.out]; exact or4 ha hb);clear f0 f1 f2 f3
 go_enter func92,ntmps92
 go_wp2_with fail;refine wp_loop_rounds 5 ?_;rw[rounds_succ];go_wp2_with fail
 go_region
 go_wp2_with fail;rw[rounds_succ];go_wp2_with fail
 go_region
 go_wp2_with fail;rw[rounds_succ];go_wp2_with fail
 go_region
 go_wp2_with fail;rw[rounds_succ];go_wp2_with fail
 go_region
 go_wp2_with fail;rw[rounds_succ];go_wp2_with fail;refine bodyPost_ret (v:=.agg #[.int .u64 s0,.int .u64 s1,.int .u64 s2,.int .u64 s3]) (by simp[results,results92,go_sem]) rfl ?_;refine⟨s0,s1,s2,s3,rfl,⟨bs0,bs1,bs2,bs3⟩,HF.out,?_⟩
 repeat (first|exact Below.refl _ _|refine Below.drew ?_|refine Below.alloc ?_ (by first|(simp; done)|(simp; omega)) _)
section
variable {P:Program} {ops:Array Oper} {Q:Exit→Act→World→Prop} {md:Region.Mode} {S:World→Prop} {L:Nat}
def dC (P:Program) (md:Region.Mode) (ops:Array Oper) (Q:Exit→Act→World→Prop) (S:World→Prop) (L:Nat):Nat→Array Bool→Act→World→Prop
 | 0,got,a,w=>Region.ready md ops got=[]∧Q .normal a w
 | m+1,got,a,w =>
  (Region.ready md ops got=[]→Q .normal a w) ∧
  ∀i∈Region.ready md ops got,wpOp P ops Q i (fun b u=>(i=L∨S u)∧dC P md ops Q S L m (got.setIfInBounds i true) b u) a w
theorem nS:∀(m:Nat) (got:Array Bool) (a:Act) (w:World),dC P md ops Q S L m got a w→wpAny P md ops Q m got a w
 | 0,_,_,_,h=>h
 | m+1,_,_,_,h=>⟨h.1,fun i hi=>wpOp_mono (fun b u k=>nS m _ b u k.2) (h.2 i hi)⟩
def VB (md:Region.Mode) (ops:Array Oper) (L i:Nat):Bool :=
 match ops[L]? with
 | some o=>o.after.any fun e=>Region.binds md e&&e.on==i
 | none=>false
theorem JA {i:Nat} {oi:Oper} {v:Value} (hi:ops[i]?=some oi) (hsel:∀(j:Nat) (o:Oper) cs b,ops[j]?=some o→o.op ≠ .select cs b)
  (hL:VB md ops L i=true) (hQ:∀c a w,Q (.panic c) (a.put oi.dst v) w→Q (.panic c) a w) :
  ∀(m:Nat) (got:Array Bool) (a:Act) (w:World),
   (∀j oj,ops[j]?=some oj→j≠i→got.getD j true=false→(∀e∈oj.after,Region.binds md e=true→e.on≠i)→oi.apart ops oj=true) →
   i∈Region.ready md ops got→YieldsIf P ops S oi v a→S w →
   dC P md ops Q S L m (got.setIfInBounds i true) (a.put oi.dst v) w→dC P md ops Q S L (m+1) got a w:=by
 intro m
 induction m with
 | zero =>
  intro got a w _ hr hy hS H;refine⟨fun h=>(by rw[h]at hr; cases hr),fun j hj => ?_⟩
  by_cases hji:j=i
  ·subst hji; exact hy.wpOp hi hS ⟨.inr hS,H⟩
  ·have:=ready_mono hj hji;rw[H.1]at this;cases this
 | succ m ih =>
  intro got a w hfree hr hy hS H;refine⟨fun h=>(by rw[h]at hr; cases hr),fun j hj => ?_⟩
  by_cases hji:j=i
  ·subst hji; exact hy.wpOp hi hS ⟨.inr hS,H⟩
  ·obtain⟨hun,oj,hoj,hall⟩:=mem_ready.1 hj;have hno:∀e∈oj.after,Region.binds md e=true→e.on≠i:=fun e he hb heq=>by
    have h1:=hall e he hb;have h0:=(mem_ready.1 hr).1;rw[heq]at h1
    rcases Nat.lt_or_ge i got.size with h'|h'
    ·simp[h']at h0 h1; rw[h0]at h1; cases h1
    ·simp[Array.getElem?_eq_none h']at h1
   have hjL:j≠L:=fun e=>by
    subst e;unfold VB at hL;rw[hoj]at hL;obtain⟨x,hx,hx2⟩:=Array.any_eq_true'.1 hL;simp only[Bool.and_eq_true,beq_iff_eq]at hx2;exact hno x hx hx2.1 hx2.2
   have h2:=wpOp_putIf hoj (hfree j oj hoj hji hun hno) (fun cs b=>hsel i oi cs b hi) (fun cs b=>hsel j oj cs b hoj) hQ hy (H.2 j (ready_mono hj hji));have hfree':∀k ok,ops[k]?=some ok→k≠i→(got.setIfInBounds j true).getD k true=false →
     (∀e∈ok.after,Region.binds md e=true→e.on≠i)→oi.apart ops ok=true:=fun k ok hk hki hu hn=>by
    refine hfree k ok hk hki ?_ hn
    by_cases hjk:j=k
    ·subst hjk; exact hun
    ·rw[getD_set_ne true hjk]at hu; exact hu
   refine wpOp_mono (fun b u h3=>⟨h3.2.1,ih (got.setIfInBounds j true) b u hfree' (ready_mono hr (Ne.symm hji)) h3.1 (h3.2.1.resolve_left hjL) ?_⟩) h2;rw[Array.setIfInBounds_comm _ _ hji];exact h3.2.2
theorem aE {i:Nat} {oi:Oper} {v:Value} {m:Nat} {got:Array Bool} {a:Act} {w:World} (hi:ops[i]?=some oi)
  (hs:Region.noSelect ops=true) (hf:Region.free md ops got i=true) (hr:(Region.ready md ops got).contains i=true) (hL:VB md ops L i=true)
  (hQ:∀c a w,Q (.panic c) (a.put oi.dst v) w→Q (.panic c) a w) (hS:S w) (hy:YieldsIf P ops S oi v a)
  (h:dC P md ops Q S L m (got.setIfInBounds i true) (a.put oi.dst v) w):dC P md ops Q S L (m+1) got a w :=
 JA hi (Region.noSelect_spec hs) hL hQ m got a w (Region.free_spec hi hf) (by simpa using hr) hy hS h
theorem aM {i:Nat} {o:Oper} {m:Nat} {got:Array Bool} {a:Act} {w:World} (hr:Region.ready md ops got=[i]) (ho:ops[i]?=some o)
  (h:∀K:Act→World→Prop,Shut (∀b u,(i=L∨S u)→((i=L∨S u)→dC P md ops Q S L m (got.setIfInBounds i true) b u)→K b u)→if Region.wanted o (yielded ops a.tmps)=true then Oper.wp P o a w K Q else K (a.put o.dst undef) w) :
  dC P md ops Q S L (m+1) got a w :=
 ⟨fun h0=>(by rw[hr]at h0; cases h0),fun j hj=>by
  rw[hr]at hj;obtain rfl:j=i:=by simpa using hj
  exact wpOp_step ho (fun K hK=>h K (fun b u hS hW=>hK b u ⟨hS,hW hS⟩))⟩
theorem cK {got:Array Bool} {a:Act} {w:World} (hr:Region.ready md ops got=[]) (h:Q .normal a w):dC P md ops Q S L 0 got a w:=⟨hr,h⟩
theorem cF (S:World→Prop) (L:Nat) {id:Nat} {a:Act} {w:World} (hm:P.follows .mixedOrders=true)
  (h:dC P .any ops Q S L ops.size (Array.replicate ops.size false) a w.drew):(Code.region id ops true).wp P Q a w :=
 wp_region_any hm (nS _ _ _ _ h)
end
theorem uP {P:Program} {ops:Array Oper} {Q:Exit→Act→World→Prop} {md:Region.Mode} {S:World→Prop} {L:Nat} {i j:Nat} {oi oj:Oper} {m:Nat} {got:Array Bool} {a:Act} {w:World} (hr:Region.ready md ops got=[i,j]) (hoi:ops[i]?=some oi) (hoj:ops[j]?=some oj)
  (h1:∀K:Act→World→Prop,Shut (∀b u,(i=L∨S u)→((i=L∨S u)→dC P md ops Q S L m (got.setIfInBounds i true) b u)→K b u)→if Region.wanted oi (yielded ops a.tmps)=true then Oper.wp P oi a w K Q else K (a.put oi.dst undef) w)
  (h2:∀K:Act→World→Prop,Shut (∀b u,(j=L∨S u)→((j=L∨S u)→dC P md ops Q S L m (got.setIfInBounds j true) b u)→K b u)→if Region.wanted oj (yielded ops a.tmps)=true then Oper.wp P oj a w K Q else K (a.put oj.dst undef) w) :
  dC P md ops Q S L (m+1) got a w :=
 ⟨fun h0=>(by rw[hr]at h0; cases h0),fun k hk=>by
  rw[hr]at hk
  rcases List.mem_cons.1 hk with rfl|hk
  ·exact wpOp_step hoi (fun K hK=>h1 K (fun b u hS hW=>hK b u ⟨hS,hW hS⟩))
  ·obtain rfl:k=j:=by simpa using hk
   exact wpOp_step hoj (fun K hK=>h2 K (fun b u hS hW=>hK b u ⟨hS,hW hS⟩))⟩
def FieldIs (f:Int) (F:FC):Prop:=f=1∧F=FP∨f=2∧F=FR
theorem FieldIs.ok {f:Int} {F:FC} (h:FieldIs f F):F.Ok:=by rcases h with⟨_,rfl⟩|⟨_,rfl⟩; exact aDh; exact aDf
theorem FieldIs.root {f:Int} {F:FC} (h:FieldIs f F):∃g,Root F.M g:=by
 rcases h with⟨_,rfl⟩|⟨_,rfl⟩
 ·exact⟨3,by rw[aFI]; exact Oz⟩
 ·exact⟨5,by rw[aDg]; exact WP⟩
def Bad1 (f:Int) (A:Nat) (c:Int):Prop:=f≠1∧f≠2∧c=1∨∃F,FieldIs f F∧¬A<F.M∧c=21
def Bad2 (f:Int) (A B:Nat) (c:Int):Prop:=Bad1 f A c∨∃F,FieldIs f F∧A<F.M∧¬B<F.M∧c=21
def Vr (c:Int) (V:Nat) (w:World) (e:Ending) (w':World):Prop :=
 ∃s0 s1 s2 s3:Nat,e=.returned (.tuple #[.agg #[.int .u64 s0,.int .u64 s1,.int .u64 s2,.int .u64 s3],.int .i64 c])∧cC s0 s1 s2 s3∧aC s0 s1 s2 s3=V∧Below w.heap.size w w'
theorem Vt:cC 0 0 0 0:=⟨by omega,by omega,by omega,by omega⟩
theorem KIs.new (w:World) (F:FC) (t:TypeId):KIs (w.alloc (.cells #[.int .u64 F.m0,.int .u64 F.m1,.int .u64 F.m2,.int .u64 F.m3,.int .u64 F.inv,.int .u64 F.s0,.int .u64 F.s1,.int .u64 F.s2,.int .u64 F.s3] t)) w.heap.size F :=
 ⟨by rw[World.cell?_alloc_new]; rfl,by rw[World.cell?_alloc_new]; rfl,by rw[World.cell?_alloc_new]; rfl,by rw[World.cell?_alloc_new]; rfl,by rw[World.cell?_alloc_new]; rfl,by rw[World.cell?_alloc_new]; rfl,by rw[World.cell?_alloc_new]; rfl,by rw[World.cell?_alloc_new]; rfl,by rw[World.cell?_alloc_new]; rfl,by simp⟩
set_option maxHeartbeats 2000000 in
theorem gD (f:Int) (F:FC) (hf:FieldIs f F) (w:World):Calls prog 59 #[.int .i64 f] w fun e w'=>e=.returned (.tuple #[.agg #[.int .u64 F.m0,.int .u64 F.m1,.int .u64 F.m2,.int .u64 F.m3,.int .u64 F.inv,.int .u64 F.s0,.int .u64 F.s1,.int .u64 F.s2,.int .u64 F.s3],.int .i64 0])∧Below w.heap.size w w':=by
 rcases hf with⟨rfl,rfl⟩|⟨rfl,rfl⟩
 ·go_enter func59,ntmps59
  go_wp2_with fail;refine bodyPost_ret (v:=.tuple #[.agg #[.int .u64 FP.m0,.int .u64 FP.m1,.int .u64 FP.m2,.int .u64 FP.m3,.int .u64 FP.inv,.int .u64 FP.s0,.int .u64 FP.s1,.int .u64 FP.s2,.int .u64 FP.s3],.int .i64 0]) (by simp[results,results59,go_sem,FP]) rfl ?_;refine⟨rfl,?_⟩
  repeat (first|exact Below.refl _ _|refine Below.drew ?_|refine Below.alloc ?_ (by first|(simp; done)|(simp; omega)) _|refine Below.setCell ?_ (by simp) _)
 ·go_enter func59,ntmps59
  go_wp2_with fail;refine bodyPost_ret (v:=.tuple #[.agg #[.int .u64 FR.m0,.int .u64 FR.m1,.int .u64 FR.m2,.int .u64 FR.m3,.int .u64 FR.inv,.int .u64 FR.s0,.int .u64 FR.s1,.int .u64 FR.s2,.int .u64 FR.s3],.int .i64 0]) (by simp[results,results59,go_sem,FR]) rfl ?_;refine⟨rfl,?_⟩
  repeat (first|exact Below.refl _ _|refine Below.drew ?_|refine Below.alloc ?_ (by first|(simp; done)|(simp; omega)) _|refine Below.setCell ?_ (by simp) _)
set_option maxHeartbeats 2000000 in
theorem TB (f:Int) (h1:f≠1) (h2:f≠2) (w:World):Calls prog 59 #[.int .i64 f] w fun e w'=>e=.returned (.tuple #[.agg #[.int .u64 0,.int .u64 0,.int .u64 0,.int .u64 0,.int .u64 0,.int .u64 0,.int .u64 0,.int .u64 0,.int .u64 0],.int .i64 1])∧Below w.heap.size w w':=by
 have t1:(f==1)=false:=by simp[h1]
 have t2:(f==2)=false:=by simp[h2]
 go_enter func59,ntmps59
 go_wp2_with fail;refine bodyPost_ret (v:=.tuple #[.agg #[.int .u64 0,.int .u64 0,.int .u64 0,.int .u64 0,.int .u64 0,.int .u64 0,.int .u64 0,.int .u64 0,.int .u64 0],.int .i64 1]) (by simp[results,results59,go_sem]) rfl ?_;refine⟨rfl,?_⟩
 repeat (first|exact Below.refl _ _|refine Below.drew ?_|refine Below.alloc ?_ (by first|(simp; done)|(simp; omega)) _|refine Below.setCell ?_ (by simp) _)
theorem DY (w:World):Calls prog 61 #[.int .i64 1] w fun e w'=>e=.returned (.int .i64 1)∧w'=w:=by
 go_enter func61,ntmps61
 go_wp2_with fail;go_ret;exact⟨rfl,rfl⟩
theorem DX (w:World):Calls prog 61 #[.int .i64 0] w fun e w'=>e=.returned (.int .i64 21)∧w'=w:=by
 go_enter func61,ntmps61
 go_wp2_with fail;go_ret;exact⟨rfl,rfl⟩
set_option maxHeartbeats 2000000 in
theorem Js (f:Int) (F:FC) (hf:FieldIs f F) (a0 a1 a2 a3 b0 b1 b2 b3:Nat) (ha:cC a0 a1 a2 a3) (hb:cC b0 b1 b2 b3) (la:aC a0 a1 a2 a3<F.M) (lb:aC b0 b1 b2 b3<F.M) (w:World) :
  Calls prog 121 #[.int .i64 f,.agg #[.int .u64 a0,.int .u64 a1,.int .u64 a2,.int .u64 a3],.agg #[.int .u64 b0,.int .u64 b1,.int .u64 b2,.int .u64 b3]] w (Vr 0 ((aC a0 a1 a2 a3+aC b0 b1 b2 b3)%F.M) w):=by
 go_enter func121,ntmps121
 go_wp2_with fail;refine (gD f F hf _).mono ?_
 rintro e w1 ⟨rfl,hbl⟩
 have M1:=((((Mem.nil w).new (w.heap.size) a0 a1 a2 a3 27 (by simp)).new (w.heap.size+1) b0 b1 b2 b3 27 (by simp)).new (w.heap.size+1+1) 0 0 0 0 27 (by simp)).on hbl;clear hbl;have z0:w.heap.size<w1.heap.size:=M1.lt (c0:=a0) (c1:=a1) (c2:=a2) (c3:=a3) (by simp);have z1:w.heap.size+1<w1.heap.size:=M1.lt (c0:=b0) (c1:=b1) (c2:=b2) (c3:=b3) (by simp);have z2:w.heap.size+1+1<w1.heap.size:=M1.lt (c0:=0) (c1:=0) (c2:=0) (c3:=0) (by simp);have HM:=Lib.hid (M1.on ((Below.refl _ _).alloc (Nat.le_refl _) (.cells #[.int .u64 F.m0,.int .u64 F.m1,.int .u64 F.m2,.int .u64 F.m3,.int .u64 F.inv,.int .u64 F.s0,.int .u64 F.s1,.int .u64 F.s2,.int .u64 F.s3] 106)));have KK:=Lib.hid (KIs.new w1 F 106);have kr:=M1.row (b:=w.heap.size) (c0:=a0) (c1:=a1) (c2:=a2) (c3:=a3) (by simp);have x0:=kr.c0; have x1:=kr.c1; have x2:=kr.c2; have x3:=kr.c3;clear kr;have xl:=M1.lt (b:=w.heap.size) (c0:=a0) (c1:=a1) (c2:=a2) (c3:=a3) (by simp);go_wp2_with fail;refine (eP F hf.ok w1.heap.size a0 a1 a2 a3 ha _ KK.out).mono ?_
 rintro e w2 ⟨he,hbl⟩
 rw[show LC (aC a0 a1 a2 a3) F.M=true from decide_eq_true la]at he;subst he;have HM':=Lib.hid (HM.out.on hbl);have KK':=Lib.hid (KK.out.same hbl);have zk:=KK'.out.lt;clear HM KK hbl M1;have HM:=HM';have KK:=KK';clear HM' KK';clear x0 x1 x2 x3 xl zk;have kr:=HM.out.row (b:=w.heap.size+1) (c0:=b0) (c1:=b1) (c2:=b2) (c3:=b3) (by simp);have x0:=kr.c0; have x1:=kr.c1; have x2:=kr.c2; have x3:=kr.c3;clear kr;have xl:=HM.out.lt (b:=w.heap.size+1) (c0:=b0) (c1:=b1) (c2:=b2) (c3:=b3) (by simp);go_wp2_with fail;refine (eP F hf.ok w1.heap.size b0 b1 b2 b3 hb _ KK.out).mono ?_
 rintro e w3 ⟨he,hbl⟩
 rw[show LC (aC b0 b1 b2 b3) F.M=true from decide_eq_true lb]at he;subst he;have HM':=Lib.hid (HM.out.on hbl);have KK':=Lib.hid (KK.out.same hbl);have zk:=KK'.out.lt;clear HM KK hbl;have HM:=HM';have KK:=KK';clear HM' KK';clear x0 x1 x2 x3 xl zk;have kr:=HM.out.row (b:=w.heap.size) (c0:=a0) (c1:=a1) (c2:=a2) (c3:=a3) (by simp);have x0:=kr.c0; have x1:=kr.c1; have x2:=kr.c2; have x3:=kr.c3;clear kr;have xl:=HM.out.lt (b:=w.heap.size) (c0:=a0) (c1:=a1) (c2:=a2) (c3:=a3) (by simp);have kr:=HM.out.row (b:=w.heap.size+1) (c0:=b0) (c1:=b1) (c2:=b2) (c3:=b3) (by simp);have u0:=kr.c0; have u1:=kr.c1; have u2:=kr.c2; have u3:=kr.c3;clear kr;have ul:=HM.out.lt (b:=w.heap.size+1) (c0:=b0) (c1:=b1) (c2:=b2) (c3:=b3) (by simp);go_wp2_with fail;refine (vE F hf.ok w1.heap.size a0 a1 a2 a3 b0 b1 b2 b3 ha hb la lb _ KK.out).mono ?_
 rintro e w4 ⟨s0,s1,s2,s3,rfl,hs,hv,hbl⟩
 have HV:=Lib.hid hv;clear hv;have HM':=Lib.hid (HM.out.on hbl);have KK':=Lib.hid (KK.out.same hbl);have zk:=KK'.out.lt;clear HM KK hbl;have HM:=HM';have KK:=KK';clear HM' KK';clear x0 x1 x2 x3 xl u0 u1 u2 u3 ul zk;have kr:=HM.out.row (b:=w.heap.size+1+1) (c0:=0) (c1:=0) (c2:=0) (c3:=0) (by simp);have y0:=kr.c0; have y1:=kr.c1; have y2:=kr.c2; have y3:=kr.c3; have yf:=kr.fr;clear kr;have yl:=HM.out.lt (b:=w.heap.size+1+1) (c0:=0) (c1:=0) (c2:=0) (c3:=0) (by simp);go_wp2_with fail;refine bodyPost_ret (v:=.tuple #[.agg #[.int .u64 s0,.int .u64 s1,.int .u64 s2,.int .u64 s3],.int .i64 0]) (by simp[results,results121,go_sem, *]) rfl ?_;refine⟨_,_,_,_,rfl,hs,HV.out,?_⟩;exact bF HM.out.1 (by omega) _ _ _ _
set_option maxHeartbeats 2000000 in
theorem Jl (f:Int) (F:FC) (hf:FieldIs f F) (a0 a1 a2 a3 b0 b1 b2 b3:Nat) (ha:cC a0 a1 a2 a3) (hb:cC b0 b1 b2 b3) (la:aC a0 a1 a2 a3<F.M) (lb:aC b0 b1 b2 b3<F.M) (w:World) :
  Calls prog 101 #[.int .i64 f,.agg #[.int .u64 a0,.int .u64 a1,.int .u64 a2,.int .u64 a3],.agg #[.int .u64 b0,.int .u64 b1,.int .u64 b2,.int .u64 b3]] w (Vr 0 ((aC a0 a1 a2 a3+F.M-aC b0 b1 b2 b3)%F.M) w):=by
 go_enter func101,ntmps101
 go_wp2_with fail;refine (gD f F hf _).mono ?_
 rintro e w1 ⟨rfl,hbl⟩
 have M1:=((((Mem.nil w).new (w.heap.size) a0 a1 a2 a3 27 (by simp)).new (w.heap.size+1) b0 b1 b2 b3 27 (by simp)).new (w.heap.size+1+1) 0 0 0 0 27 (by simp)).on hbl;clear hbl;have z0:w.heap.size<w1.heap.size:=M1.lt (c0:=a0) (c1:=a1) (c2:=a2) (c3:=a3) (by simp);have z1:w.heap.size+1<w1.heap.size:=M1.lt (c0:=b0) (c1:=b1) (c2:=b2) (c3:=b3) (by simp);have z2:w.heap.size+1+1<w1.heap.size:=M1.lt (c0:=0) (c1:=0) (c2:=0) (c3:=0) (by simp);have HM:=Lib.hid (M1.on ((Below.refl _ _).alloc (Nat.le_refl _) (.cells #[.int .u64 F.m0,.int .u64 F.m1,.int .u64 F.m2,.int .u64 F.m3,.int .u64 F.inv,.int .u64 F.s0,.int .u64 F.s1,.int .u64 F.s2,.int .u64 F.s3] 106)));have KK:=Lib.hid (KIs.new w1 F 106);have kr:=M1.row (b:=w.heap.size) (c0:=a0) (c1:=a1) (c2:=a2) (c3:=a3) (by simp);have x0:=kr.c0; have x1:=kr.c1; have x2:=kr.c2; have x3:=kr.c3;clear kr;have xl:=M1.lt (b:=w.heap.size) (c0:=a0) (c1:=a1) (c2:=a2) (c3:=a3) (by simp);go_wp2_with fail;refine (eP F hf.ok w1.heap.size a0 a1 a2 a3 ha _ KK.out).mono ?_
 rintro e w2 ⟨he,hbl⟩
 rw[show LC (aC a0 a1 a2 a3) F.M=true from decide_eq_true la]at he;subst he;have HM':=Lib.hid (HM.out.on hbl);have KK':=Lib.hid (KK.out.same hbl);have zk:=KK'.out.lt;clear HM KK hbl M1;have HM:=HM';have KK:=KK';clear HM' KK';clear x0 x1 x2 x3 xl zk;have kr:=HM.out.row (b:=w.heap.size+1) (c0:=b0) (c1:=b1) (c2:=b2) (c3:=b3) (by simp);have x0:=kr.c0; have x1:=kr.c1; have x2:=kr.c2; have x3:=kr.c3;clear kr;have xl:=HM.out.lt (b:=w.heap.size+1) (c0:=b0) (c1:=b1) (c2:=b2) (c3:=b3) (by simp);go_wp2_with fail;refine (eP F hf.ok w1.heap.size b0 b1 b2 b3 hb _ KK.out).mono ?_
 rintro e w3 ⟨he,hbl⟩
 rw[show LC (aC b0 b1 b2 b3) F.M=true from decide_eq_true lb]at he;subst he;have HM':=Lib.hid (HM.out.on hbl);have KK':=Lib.hid (KK.out.same hbl);have zk:=KK'.out.lt;clear HM KK hbl;have HM:=HM';have KK:=KK';clear HM' KK';clear x0 x1 x2 x3 xl zk;have kr:=HM.out.row (b:=w.heap.size) (c0:=a0) (c1:=a1) (c2:=a2) (c3:=a3) (by simp);have x0:=kr.c0; have x1:=kr.c1; have x2:=kr.c2; have x3:=kr.c3;clear kr;have xl:=HM.out.lt (b:=w.heap.size) (c0:=a0) (c1:=a1) (c2:=a2) (c3:=a3) (by simp);have kr:=HM.out.row (b:=w.heap.size+1) (c0:=b0) (c1:=b1) (c2:=b2) (c3:=b3) (by simp);have u0:=kr.c0; have u1:=kr.c1; have u2:=kr.c2; have u3:=kr.c3;clear kr;have ul:=HM.out.lt (b:=w.heap.size+1) (c0:=b0) (c1:=b1) (c2:=b2) (c3:=b3) (by simp);go_wp2_with fail;refine (FO F hf.ok w1.heap.size a0 a1 a2 a3 b0 b1 b2 b3 ha hb la lb _ KK.out).mono ?_
 rintro e w4 ⟨s0,s1,s2,s3,rfl,hs,hv,hbl⟩
 have HV:=Lib.hid hv;clear hv;have HM':=Lib.hid (HM.out.on hbl);have KK':=Lib.hid (KK.out.same hbl);have zk:=KK'.out.lt;clear HM KK hbl;have HM:=HM';have KK:=KK';clear HM' KK';clear x0 x1 x2 x3 xl u0 u1 u2 u3 ul zk;have kr:=HM.out.row (b:=w.heap.size+1+1) (c0:=0) (c1:=0) (c2:=0) (c3:=0) (by simp);have y0:=kr.c0; have y1:=kr.c1; have y2:=kr.c2; have y3:=kr.c3; have yf:=kr.fr;clear kr;have yl:=HM.out.lt (b:=w.heap.size+1+1) (c0:=0) (c1:=0) (c2:=0) (c3:=0) (by simp);go_wp2_with fail;refine bodyPost_ret (v:=.tuple #[.agg #[.int .u64 s0,.int .u64 s1,.int .u64 s2,.int .u64 s3],.int .i64 0]) (by simp[results,results101,go_sem, *]) rfl ?_;refine⟨_,_,_,_,rfl,hs,HV.out,?_⟩;exact bF HM.out.1 (by omega) _ _ _ _
set_option maxHeartbeats 2000000 in
theorem Jn (f:Int) (F:FC) (hf:FieldIs f F) (a0 a1 a2 a3 b0 b1 b2 b3:Nat) (ha:cC a0 a1 a2 a3) (hb:cC b0 b1 b2 b3) (la:aC a0 a1 a2 a3<F.M) (lb:aC b0 b1 b2 b3<F.M) (w:World) :
  Calls prog 115 #[.int .i64 f,.agg #[.int .u64 a0,.int .u64 a1,.int .u64 a2,.int .u64 a3],.agg #[.int .u64 b0,.int .u64 b1,.int .u64 b2,.int .u64 b3]] w (Vr 0 (aC a0 a1 a2 a3*aC b0 b1 b2 b3%F.M) w):=by
 go_enter func115,ntmps115
 go_wp2_with fail;refine (gD f F hf _).mono ?_
 rintro e w1 ⟨rfl,hbl⟩
 have M1:=((((Mem.nil w).new (w.heap.size) a0 a1 a2 a3 27 (by simp)).new (w.heap.size+1) b0 b1 b2 b3 27 (by simp)).new (w.heap.size+1+1) 0 0 0 0 27 (by simp)).on hbl;clear hbl;have z0:w.heap.size<w1.heap.size:=M1.lt (c0:=a0) (c1:=a1) (c2:=a2) (c3:=a3) (by simp);have z1:w.heap.size+1<w1.heap.size:=M1.lt (c0:=b0) (c1:=b1) (c2:=b2) (c3:=b3) (by simp);have z2:w.heap.size+1+1<w1.heap.size:=M1.lt (c0:=0) (c1:=0) (c2:=0) (c3:=0) (by simp);have HM:=Lib.hid (M1.on ((Below.refl _ _).alloc (Nat.le_refl _) (.cells #[.int .u64 F.m0,.int .u64 F.m1,.int .u64 F.m2,.int .u64 F.m3,.int .u64 F.inv,.int .u64 F.s0,.int .u64 F.s1,.int .u64 F.s2,.int .u64 F.s3] 106)));have KK:=Lib.hid (KIs.new w1 F 106);have kr:=M1.row (b:=w.heap.size) (c0:=a0) (c1:=a1) (c2:=a2) (c3:=a3) (by simp);have x0:=kr.c0; have x1:=kr.c1; have x2:=kr.c2; have x3:=kr.c3;clear kr;have xl:=M1.lt (b:=w.heap.size) (c0:=a0) (c1:=a1) (c2:=a2) (c3:=a3) (by simp);go_wp2_with fail;refine (eP F hf.ok w1.heap.size a0 a1 a2 a3 ha _ KK.out).mono ?_
 rintro e w2 ⟨he,hbl⟩
 rw[show LC (aC a0 a1 a2 a3) F.M=true from decide_eq_true la]at he;subst he;have HM':=Lib.hid (HM.out.on hbl);have KK':=Lib.hid (KK.out.same hbl);have zk:=KK'.out.lt;clear HM KK hbl M1;have HM:=HM';have KK:=KK';clear HM' KK';clear x0 x1 x2 x3 xl zk;have kr:=HM.out.row (b:=w.heap.size+1) (c0:=b0) (c1:=b1) (c2:=b2) (c3:=b3) (by simp);have x0:=kr.c0; have x1:=kr.c1; have x2:=kr.c2; have x3:=kr.c3;clear kr;have xl:=HM.out.lt (b:=w.heap.size+1) (c0:=b0) (c1:=b1) (c2:=b2) (c3:=b3) (by simp);go_wp2_with fail;refine (eP F hf.ok w1.heap.size b0 b1 b2 b3 hb _ KK.out).mono ?_
 rintro e w3 ⟨he,hbl⟩
 rw[show LC (aC b0 b1 b2 b3) F.M=true from decide_eq_true lb]at he;subst he;have HM':=Lib.hid (HM.out.on hbl);have KK':=Lib.hid (KK.out.same hbl);have zk:=KK'.out.lt;clear HM KK hbl;have HM:=HM';have KK:=KK';clear HM' KK';clear x0 x1 x2 x3 xl zk;have kr:=HM.out.row (b:=w.heap.size) (c0:=a0) (c1:=a1) (c2:=a2) (c3:=a3) (by simp);have x0:=kr.c0; have x1:=kr.c1; have x2:=kr.c2; have x3:=kr.c3;clear kr;have xl:=HM.out.lt (b:=w.heap.size) (c0:=a0) (c1:=a1) (c2:=a2) (c3:=a3) (by simp);have kr:=HM.out.row (b:=w.heap.size+1) (c0:=b0) (c1:=b1) (c2:=b2) (c3:=b3) (by simp);have u0:=kr.c0; have u1:=kr.c1; have u2:=kr.c2; have u3:=kr.c3;clear kr;have ul:=HM.out.lt (b:=w.heap.size+1) (c0:=b0) (c1:=b1) (c2:=b2) (c3:=b3) (by simp);go_wp2_with fail;refine (xN F hf.ok w1.heap.size a0 a1 a2 a3 b0 b1 b2 b3 ha hb lb _ KK.out).mono ?_
 rintro e w4 ⟨s0,s1,s2,s3,rfl,hs,hv,hbl⟩
 have HV:=Lib.hid hv;clear hv;have HM':=Lib.hid (HM.out.on hbl);have KK':=Lib.hid (KK.out.same hbl);have zk:=KK'.out.lt;clear HM KK hbl;have HM:=HM';have KK:=KK';clear HM' KK';clear x0 x1 x2 x3 xl u0 u1 u2 u3 ul zk;have kr:=HM.out.row (b:=w.heap.size+1+1) (c0:=0) (c1:=0) (c2:=0) (c3:=0) (by simp);have y0:=kr.c0; have y1:=kr.c1; have y2:=kr.c2; have y3:=kr.c3; have yf:=kr.fr;clear kr;have yl:=HM.out.lt (b:=w.heap.size+1+1) (c0:=0) (c1:=0) (c2:=0) (c3:=0) (by simp);go_wp2_with fail;refine bodyPost_ret (v:=.tuple #[.agg #[.int .u64 s0,.int .u64 s1,.int .u64 s2,.int .u64 s3],.int .i64 0]) (by simp[results,results115,go_sem, *]) rfl ?_;refine⟨_,_,_,_,rfl,hs,HV.out,?_⟩;exact bF HM.out.1 (by omega) _ _ _ _
set_option maxHeartbeats 2000000 in
theorem LU (f c:Int) (a0 a1 a2 a3:Nat) (ha:cC a0 a1 a2 a3) (h:Bad1 f (aC a0 a1 a2 a3) c) (w:World) :
  Calls prog 102 #[.int .i64 f,.agg #[.int .u64 a0,.int .u64 a1,.int .u64 a2,.int .u64 a3]] w fun e w'=>e=.returned (.int .i64 c)∧Below w.heap.size w w':=by
 rcases h with⟨h1,h2,rfl⟩|⟨F,hf,la,rfl⟩
 ·go_enter func102,ntmps102
  go_wp2_with fail;refine (TB f h1 h2 _).mono ?_
  rintro e w1 ⟨rfl,hbl⟩
  have M1:=((Mem.nil w).new (w.heap.size) a0 a1 a2 a3 27 (by simp)).on hbl;clear hbl;have z0:w.heap.size<w1.heap.size:=M1.lt (c0:=a0) (c1:=a1) (c2:=a2) (c3:=a3) (by simp);have HM:=Lib.hid (M1.on ((Below.refl _ _).alloc (Nat.le_refl _) (.cells #[.int .u64 0,.int .u64 0,.int .u64 0,.int .u64 0,.int .u64 0,.int .u64 0,.int .u64 0,.int .u64 0,.int .u64 0] 106)));go_wp2_with fail;refine (DY _).mono ?_
  rintro e w2 ⟨rfl,rfl⟩
  go_wp2_with fail;refine bodyPost_ret (v:=.int .i64 1) (by simp[results,results102,go_sem, *]) rfl ?_;exact⟨rfl,HM.out.1⟩
 ·go_enter func102,ntmps102
  go_wp2_with fail;refine (gD f F hf _).mono ?_
  rintro e w1 ⟨rfl,hbl⟩
  have M1:=((Mem.nil w).new (w.heap.size) a0 a1 a2 a3 27 (by simp)).on hbl;clear hbl;have z0:w.heap.size<w1.heap.size:=M1.lt (c0:=a0) (c1:=a1) (c2:=a2) (c3:=a3) (by simp);have HM:=Lib.hid (M1.on ((Below.refl _ _).alloc (Nat.le_refl _) (.cells #[.int .u64 F.m0,.int .u64 F.m1,.int .u64 F.m2,.int .u64 F.m3,.int .u64 F.inv,.int .u64 F.s0,.int .u64 F.s1,.int .u64 F.s2,.int .u64 F.s3] 106)));have KK:=Lib.hid (KIs.new w1 F 106);have kr:=M1.row (b:=w.heap.size) (c0:=a0) (c1:=a1) (c2:=a2) (c3:=a3) (by simp);have x0:=kr.c0; have x1:=kr.c1; have x2:=kr.c2; have x3:=kr.c3;clear kr;have xl:=M1.lt (b:=w.heap.size) (c0:=a0) (c1:=a1) (c2:=a2) (c3:=a3) (by simp);go_wp2_with fail;refine (eP F hf.ok w1.heap.size a0 a1 a2 a3 ha _ KK.out).mono ?_
  rintro e w2 ⟨he,hbl⟩
  rw[show LC (aC a0 a1 a2 a3) F.M=false from decide_eq_false la]at he;subst he;have HM':=Lib.hid (HM.out.on hbl);have KK':=Lib.hid (KK.out.same hbl);have zk:=KK'.out.lt;clear HM KK hbl M1;have HM:=HM';have KK:=KK';clear HM' KK';clear x0 x1 x2 x3 xl zk;go_wp2_with fail;refine (DX _).mono ?_
  rintro e w3 ⟨rfl,rfl⟩
  go_wp2_with fail;refine bodyPost_ret (v:=.int .i64 21) (by simp[results,results102,go_sem, *]) rfl ?_;exact⟨rfl,HM.out.1⟩
set_option maxHeartbeats 2000000 in
theorem SP (f:Int) (F:FC) (hf:FieldIs f F) (a0 a1 a2 a3:Nat) (ha:cC a0 a1 a2 a3) (la:aC a0 a1 a2 a3<F.M) (w:World) :
  Calls prog 102 #[.int .i64 f,.agg #[.int .u64 a0,.int .u64 a1,.int .u64 a2,.int .u64 a3]] w (fun e w'=>e=.returned (.int .i64 0)∧Below w.heap.size w w'):=by
 go_enter func102,ntmps102
 go_wp2_with fail;refine (gD f F hf _).mono ?_
 rintro e w1 ⟨rfl,hbl⟩
 have M1:=((Mem.nil w).new (w.heap.size) a0 a1 a2 a3 27 (by simp)).on hbl;clear hbl;have z0:w.heap.size<w1.heap.size:=M1.lt (c0:=a0) (c1:=a1) (c2:=a2) (c3:=a3) (by simp);have HM:=Lib.hid (M1.on ((Below.refl _ _).alloc (Nat.le_refl _) (.cells #[.int .u64 F.m0,.int .u64 F.m1,.int .u64 F.m2,.int .u64 F.m3,.int .u64 F.inv,.int .u64 F.s0,.int .u64 F.s1,.int .u64 F.s2,.int .u64 F.s3] 106)));have KK:=Lib.hid (KIs.new w1 F 106);have kr:=M1.row (b:=w.heap.size) (c0:=a0) (c1:=a1) (c2:=a2) (c3:=a3) (by simp);have x0:=kr.c0; have x1:=kr.c1; have x2:=kr.c2; have x3:=kr.c3;clear kr;have xl:=M1.lt (b:=w.heap.size) (c0:=a0) (c1:=a1) (c2:=a2) (c3:=a3) (by simp);go_wp2_with fail;refine (eP F hf.ok w1.heap.size a0 a1 a2 a3 ha _ KK.out).mono ?_
 rintro e w2 ⟨he,hbl⟩
 rw[show LC (aC a0 a1 a2 a3) F.M=true from decide_eq_true la]at he;subst he;have HM':=Lib.hid (HM.out.on hbl);have KK':=Lib.hid (KK.out.same hbl);have zk:=KK'.out.lt;clear HM KK hbl M1;have HM:=HM';have KK:=KK';clear HM' KK';clear x0 x1 x2 x3 xl zk;go_wp2_with fail;go_ret;exact⟨rfl,HM.out.1⟩
end Go.Proofs.YtpbljiejmfahcaaGreatDoor
