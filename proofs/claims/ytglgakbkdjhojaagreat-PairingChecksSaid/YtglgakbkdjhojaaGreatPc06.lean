/- Pc06 -/
import Derived.Outline
import Derived.LoopTactic
import Derived.OrdersHeld
import Derived.Deep.RegionHeld
import Derived.KernelRfl
import Derived.Deep.DeepCutAuto
import Derived.Laws.MakeOwn
import Derived.Test.YtglgakbkdjhojaaGreatPc05
import Derived.Test.YtglgakbkdjhojaaGreatPc04
import Derived.Test.YtglgakbkdjhojaaGreatProg
set_option maxRecDepth 100000
set_option linter.unusedVariables false
set_option linter.unusedSimpArgs false
namespace Go.Proofs.YtglgakbkdjhojaaGreat
open Go.Proofs.Tryz
open Go.RowKit
def qA (A i:Nat):Nat:=A/2^i%2
theorem Bn (A i:Nat):qA A i=0∨qA A i=1:=by unfold qA; omega
theorem Pw (R:Nat) (P:Nat→Nat) (n:Nat):tot R P (n+1)=P 0+R*tot R (fun k=>P (1+k)) n:=by
 have:=zH R P 1 n;rw[Nat.add_comm n 1,this];simp[tot]
theorem Wz (P:Nat→Nat) (hP:∀k,P k<18446744073709551616) (n j k:Nat) (hj:j<n) (hk:k<64):qA (tot 18446744073709551616 P n) (64*j+k)=P j/2^k%2:=by
 obtain⟨m,rfl⟩:∃m,n=j+(m+1):=⟨n-j-1,by omega⟩
 have h1:=zH 18446744073709551616 P j (m+1);have h2:=Pw 18446744073709551616 (fun k=>P (j+k)) m;have h3:=Ch 18446744073709551616 P (by omega) j (fun k _=>hP k);unfold qA;rw[h1,h2,xY,←Nat.div_div_eq_div_mul,Nat.add_mul_div_left _ _ (by exact Nat.pow_pos (by omega)),Nat.div_eq_of_lt h3,Nat.zero_add];have e:18446744073709551616=2^k*(2*2^(63-k)):=by
  rw[←Nat.pow_succ',←Nat.pow_add,show k+(63-k).succ=64 by omega]
 show (P j+18446744073709551616*_)/2^k%2=_;generalize tot 18446744073709551616 (fun k=>P (j+(1+k))) m=H;rw[show 18446744073709551616*H=2^k*(2*2^(63-k))*H by rw[←e],Nat.mul_assoc,Nat.add_mul_div_left _ _ (by exact Nat.pow_pos (by omega)),Nat.mul_assoc,Nat.add_mul_mod_self_left]
theorem aXb {i:Nat} (h:i<256):∃j k:Nat,(i:Int)/64=(j:Int)∧(i:Int)%64=(k:Int)∧j<4∧k<64∧Hid (i=64*j+k) :=
 ⟨i/64,i%64,by omega,by omega,by omega,by omega,Lib.hid (by omega)⟩
theorem We (x:Nat) (hx:x<18446744073709551616):bits .and .u64 (x:Int) 1=((x%2:Nat):Int):=by
 rw[show (1:Int)=((1:Nat):Int)from rfl,bits_and_u64_nat _ _ hx (by omega),Nat.and_one_is_mod]
theorem aRQ {x k b:Nat} (hx:x<18446744073709551616) (hb:x/2^k%2=b):∃s:Nat,(x:Int)/2^k=(s:Int)∧bits .and .u64 (s:Int) 1=(b:Int)∧s<18446744073709551616:=by
 have hs:x/2^k<18446744073709551616:=Nat.lt_of_le_of_lt (Nat.div_le_self _ _) hx;exact⟨x/2^k,by rw[Int.natCast_ediv,Int.natCast_pow]; rfl,by rw[We _ hs,hb],hs⟩
theorem aEL (A i:Nat):A/2^i=2*(A/2^(i+1))+qA A i:=by
 unfold qA;rw[Nat.pow_succ,←Nat.div_div_eq_div_mul];omega
def aKO (b:Nat) (w:World) (e:Ending) (w':World):Prop:=e=.returned (.int .i64 b)∧Below w.heap.size w w'
theorem aDD {a0 a1 a2 a3:Nat} (ha:cQ a0 a1 a2 a3) (k:Nat):iV [a0,a1,a2,a3] k<18446744073709551616:=by
 obtain⟨h0,h1,h2,h3⟩:=ha;unfold iV
 match k with
 | 0=>exact h0
 | 1=>exact h1
 | 2=>exact h2
 | 3=>exact h3
 | k+4=>simp
theorem aFN (a0 a1 a2 a3:Nat):aG a0 a1 a2 a3=tot 18446744073709551616 (iV [a0,a1,a2,a3]) 4:=by rw[←UW]; rfl
theorem aSW {a0 a1 a2 a3 i j k:Nat} (ha:cQ a0 a1 a2 a3) (hj:j<4) (hk:k<64) (e:i=64*j+k):iV [a0,a1,a2,a3] j/2^k%2=qA (aG a0 a1 a2 a3) i:=by
 rw[aFN,e,Wz _ (aDD ha) 4 j k hj hk]
theorem aCf (w:World) (t:TypeId) (a0 a1 a2 a3 j:Nat) (hj:j<4):(w.alloc (.cells #[.int .u64 a0,.int .u64 a1,.int .u64 a2,.int .u64 a3] t)).cell? ⟨w.heap.size,j,none⟩=some (.int .u64 (iV [a0,a1,a2,a3] j:Nat)) :=
 (RowIs.mk w t [a0,a1,a2,a3] w.heap.size rfl).cell hj
theorem aEN (a0 a1 a2 a3 i:Nat) (ha:cQ a0 a1 a2 a3) (hi:i<256) (w:World) :
  Calls prog 167 #[.agg #[.int .u64 a0,.int .u64 a1,.int .u64 a2,.int .u64 a3],.int .i64 i] w (aKO (qA (aG a0 a1 a2 a3) i) w):=by
 obtain⟨j,k,q,r,hj,hk,e⟩:=aXb hi;have hc:=aCf w 24 a0 a1 a2 a3 j hj;have hx:=aDD ha j;obtain⟨s,e1,e2,hs⟩:=aRQ hx (aSW ha hj hk e.out);have hb:=Bn (aG a0 a1 a2 a3) i;generalize qA (aG a0 a1 a2 a3) i=b at *;generalize iV [a0,a1,a2,a3] j=x at *;have hb':b≤1:=by omega
 clear hb e;have t0:decide ((i:Int)<0)=false:=decide_eq_false (by omega);have t1:decide ((256:Int)≤(i:Int))=false:=decide_eq_false (by omega)
 go_enter func167,ntmps167
 go_wp2_with fail;go_ret;exact⟨rfl,(Below.refl _ _).alloc (Nat.le_refl _) _⟩
theorem Mem.row {w wr:World} {rs:List (Nat×Nat×Nat×Nat×Nat)} (h:Mem w wr rs) {b c0 c1 c2 c3:Nat} (hm:(b,c0,c1,c2,c3)∈rs):Row4 wr b c0 c1 c2 c3:=(h.2 _ hm).2
theorem Mem.lt {w wr:World} {rs:List (Nat×Nat×Nat×Nat×Nat)} (h:Mem w wr rs) {b c0 c1 c2 c3:Nat} (hm:(b,c0,c1,c2,c3)∈rs):b<wr.heap.size:=(h.2 _ hm).1
theorem YL {N k L:Nat} (hk:k<L):N/2^(L-(k+1))=2*(N/2^(L-k))+qA N (L-1-k):=by
 have:=aEL N (L-1-k);rw[show L-1-k+1=L-k by omega]at this;rw[show L-(k+1)=L-1-k by omega,this]
set_option maxHeartbeats 4000000 in
theorem YJ (F:FC) (hF:F.Ok) (A b a0 a1 a2 a3 n0 n1 n2 n3:Nat) (ha:cQ a0 a1 a2 a3) (hn:cQ n0 n1 n2 n3) (hA:aG a0 a1 a2 a3=kp F A) (w:World) (hk:KIs w b F) :
  Calls prog 269 #[.pointer (some ⟨b,0,none⟩),.agg #[.int .u64 a0,.int .u64 a1,.int .u64 a2,.int .u64 a3],.agg #[.int .u64 n0,.int .u64 n1,.int .u64 n2,.int .u64 n3]] w (gW (kp F (A^aG n0 n1 n2 n3)) w):=by
 have HK:=Lib.hid hk;have HF:=Lib.hid hF;have HA:=Lib.hid hA;have la:aG a0 a1 a2 a3<F.M:=by rw[hA]; exact aMe hF _
 have hL:=hk.lt;have HLA:=Lib.hid la;clear hk hF hA la
 go_enter func269,ntmps269
 go_wp2_with fail;have M0:=((((Mem.nil w).new w.heap.size a0 a1 a2 a3 113 rfl).new (w.heap.size+1) n0 n1 n2 n3 24 (by simp)).new (w.heap.size+1+1) 0 0 0 0 113 (by simp));refine (Ui F HF.out b _ (HK.out.same M0.1)).mono ?_
 rintro e w1 ⟨s0,s1,s2,s3,rfl,hs,hv,hbl⟩
 have M1:=M0.on hbl;have HV1:=Lib.hid hv;have hz1:w.heap.size+1+1<w1.heap.size:=M1.lt (c0:=0) (c1:=0) (c2:=0) (c3:=0) (by simp);have R1:=M1.row (b:=w.heap.size+1) (c0:=n0) (c1:=n1) (c2:=n2) (c3:=n3) (by simp);have x0:=R1.c0; have x1:=R1.c1; have x2:=R1.c2; have x3:=R1.c3;have lt1:w.heap.size+1<w1.heap.size:=by omega
 have M2:=Lib.hid (M1.new w1.heap.size s0 s1 s2 s3 113 rfl);clear hbl hv R1 M0 M1;go_wp2_with fail;refine (AQ n0 n1 n2 n3 hn _).mono ?_
 rintro e w2 ⟨L,rfl,hL256,hLen,hbl⟩
 have HLen:=Lib.hid hLen;have M3:=Lib.hid (M2.out.on hbl);have hz2:w1.heap.size<w2.heap.size:=by have:=hbl.size; simp at this; omega
 clear hbl hLen x0 x1 x2 x3;go_wp2_with fail
 go_loopw [15] (fun i wr=>∃k r0 r1 r2 r3:Nat,k≤L∧i=.int .i64 k∧cQ r0 r1 r2 r3∧Hid (aG r0 r1 r2 r3=kp F (A^(aG n0 n1 n2 n3/2^(L-k))))∧Hid (Mem w wr [(w1.heap.size,r0,r1,r2,r3),(w.heap.size+1+1,0,0,0,0),(w.heap.size+1,n0,n1,n2,n3),(w.heap.size,a0,a1,a2,a3)])) (fun i _=>L-(intOf i).toNat)
 case atStart =>
  refine⟨0,s0,s1,s2,s3,Nat.zero_le _,rfl,hs,Lib.hid ?_,M3⟩;rw[HV1.out,Nat.sub_zero,Nat.div_eq_of_lt HLen.out.1,Nat.pow_zero]
 case round =>
  obtain⟨k,r0,r1,r2,r3,hkL,rfl,hr,HV,HM⟩:=hrel;have hrl:aG r0 r1 r2 r3<F.M:=by rw[HV.out]; exact aMe HF.out _
  by_cases hlt:k<L
  ·have Rr:=HM.out.row (b:=w1.heap.size) (c0:=r0) (c1:=r1) (c2:=r2) (c3:=r3) (by simp);have x0:=Rr.c0; have x1:=Rr.c1; have x2:=Rr.c2; have x3:=Rr.c3;have ltr:=HM.out.lt (b:=w1.heap.size) (c0:=r0) (c1:=r1) (c2:=r2) (c3:=r3) (by simp);have Hrl:=Lib.hid hrl;clear Rr hrl;go_wp2_with fail;refine (iL F HF.out b r0 r1 r2 r3 r0 r1 r2 r3 hr hr Hrl.out _ (HK.out.same HM.out.1)).mono ?_
   rintro e w3 ⟨p0,p1,p2,p3,rfl,hp,hv,hbl⟩
   have hv':aG p0 p1 p2 p3=kp F (A^(aG n0 n1 n2 n3/2^(L-k))*A^(aG n0 n1 n2 n3/2^(L-k))%F.M):=by rw[hv,HV.out,Ac HF.out]
   have HP:=Lib.hid hv';have M4:=HM.out.on hbl;have lt4:=M4.lt (b:=w1.heap.size) (c0:=r0) (c1:=r1) (c2:=r2) (c3:=r3) (by simp);have Rr:=M4.row (b:=w1.heap.size) (c0:=r0) (c1:=r1) (c2:=r2) (c3:=r3) (by simp);have Rn:=M4.row (b:=w.heap.size+1) (c0:=n0) (c1:=n1) (c2:=n2) (c3:=n3) (by simp);have Ra:=M4.row (b:=w.heap.size) (c0:=a0) (c1:=a1) (c2:=a2) (c3:=a3) (by simp);have M5:=Lib.hid (M4.put p0 p1 p2 p3 (by omega) (by intro r hr; simp at hr; rcases hr with rfl|rfl|rfl<;>simp<;>omega));clear x0 x1 x2 x3 hv hv' hbl M4;have x0:=Rr.c0; have x1:=Rr.c1; have x2:=Rr.c2; have x3:=Rr.c3; have xf:=Rr.fr;have y0:=Rn.c0; have y1:=Rn.c1; have y2:=Rn.c2; have y3:=Rn.c3;have ne1:¬w.heap.size+1=w1.heap.size:=by omega
   have ne1':¬w1.heap.size=w.heap.size+1:=by omega
   clear Rr Rn Ra;obtain⟨L1,e1,hL1⟩:∃L1:Nat,(L:Int)-1=(L1:Int)∧L1+1=L:=⟨L-1,by omega,by omega⟩
   obtain⟨j,e2,hj⟩:∃j:Nat,(L1:Int)-(k:Int)=(j:Int)∧j+k=L1:=⟨L1-k,by omega,by omega⟩
   have hj256:j<256:=by omega
   have hjk:j=L-1-k:=by omega
   have HJ:=Lib.hid hjk;clear hjk;go_wp2_with fail;refine (aEN n0 n1 n2 n3 j hn hj256 _).mono ?_
   rintro e w4 ⟨he,hbl⟩
   have M5':=M5.out;unfold set4 at M5';have M6:=M5'.on hbl;clear hbl M5' x0 x1 x2 x3 xf y0 y1 y2 y3;have lt6:=M6.lt (b:=w1.heap.size) (c0:=p0) (c1:=p1) (c2:=p2) (c3:=p3) (by simp)
   rcases Bn (aG n0 n1 n2 n3) j with hb|hb
   ·rw[hb]at he;subst he;have HS:=Lib.hid (show aG p0 p1 p2 p3=kp F (A^(aG n0 n1 n2 n3/2^(L-(k+1)))) by
     rw[HP.out,YL hlt,←HJ.out,hb]; exact ((CH F A _ 0 (Or.inl rfl)).1 rfl).symm)
    have M7:=Lib.hid M6;clear hb M6;go_wp2_with fail
    go_roundw
    case rel=>exact⟨k+1,p0,p1,p2,p3,by omega,by go_num,hp,HS,M7⟩
    case measure=>simp[intOf]; omega
   ·rw[hb]at he;subst he;have Rr:=M6.row (b:=w1.heap.size) (c0:=p0) (c1:=p1) (c2:=p2) (c3:=p3) (by simp);have Ra:=M6.row (b:=w.heap.size) (c0:=a0) (c1:=a1) (c2:=a2) (c3:=a3) (by simp);have x0:=Rr.c0; have x1:=Rr.c1; have x2:=Rr.c2; have x3:=Rr.c3;have z0:=Ra.c0; have z1:=Ra.c1; have z2:=Ra.c2; have z3:=Ra.c3;have HB:=Lib.hid hb;have M7:=Lib.hid M6;clear hb M6 Rr Ra;go_wp2_with fail;refine (iL F HF.out b p0 p1 p2 p3 a0 a1 a2 a3 hp ha HLA.out _ (HK.out.same M7.out.1)).mono ?_
    rintro e w5 ⟨q0,q1,q2,q3,rfl,hq,hv,hbl⟩
    have hv':aG q0 q1 q2 q3=kp F (A^(aG n0 n1 n2 n3/2^(L-(k+1)))):=by
     rw[hv,HP.out,HA.out,Ac HF.out,YL hlt,←HJ.out,HB.out]; exact ((CH F A _ 1 (Or.inr rfl)).2 rfl).symm
    have HS:=Lib.hid hv';have M8:=M7.out.on hbl;have lt8:=M8.lt (b:=w1.heap.size) (c0:=p0) (c1:=p1) (c2:=p2) (c3:=p3) (by simp);have Rr:=M8.row (b:=w1.heap.size) (c0:=p0) (c1:=p1) (c2:=p2) (c3:=p3) (by simp);have M9:=Lib.hid (M8.put q0 q1 q2 q3 (by omega) (by intro r hr; simp at hr; rcases hr with rfl|rfl|rfl<;>simp<;>omega));clear x0 x1 x2 x3 z0 z1 z2 z3 hv hv' hbl M8;have x0:=Rr.c0; have x1:=Rr.c1; have x2:=Rr.c2; have x3:=Rr.c3; have xf:=Rr.fr;clear Rr;go_wp2_with fail
    go_roundw
    case rel=>exact⟨k+1,q0,q1,q2,q3,by omega,by go_num,hq,HS,M9⟩
    case measure=>simp[intOf]; omega
  ·obtain rfl:k=L:=by omega
   have Rr:=HM.out.row (b:=w1.heap.size) (c0:=r0) (c1:=r1) (c2:=r2) (c3:=r3) (by simp);have x0:=Rr.c0; have x1:=Rr.c1; have x2:=Rr.c2; have x3:=Rr.c3;have Ro:=HM.out.row (b:=w.heap.size+1+1) (c0:=0) (c1:=0) (c2:=0) (c3:=0) (by simp);have o0:=Ro.c0; have o1:=Ro.c1; have o2:=Ro.c2; have o3:=Ro.c3; have of:=Ro.fr;have ltr:=HM.out.lt (b:=w1.heap.size) (c0:=r0) (c1:=r1) (c2:=r2) (c3:=r3) (by simp);have lto:=HM.out.lt (b:=w.heap.size+1+1) (c0:=0) (c1:=0) (c2:=0) (c3:=0) (by simp);clear Rr Ro hrl;go_wp2_with fail;refine bodyPost_ret (v:=.agg #[.int .u64 r0,.int .u64 r1,.int .u64 r2,.int .u64 r3]) (by simp[results,results269,go_sem, *]) rfl ?_;refine⟨_,_,_,_,rfl,hr,by rw[HV.out,Nat.sub_self,Nat.pow_zero,Nat.div_one],?_⟩;exact bB HM.out.1 (by omega) _ _ _ _
theorem Aw (d:Nat) (a0 a1 a2 a3 b0 b1 b2 b3:Nat) (w:World):(Op.equalIn (d+1+1) 25 (.agg #[.int .u64 a0,.int .u64 a1,.int .u64 a2,.int .u64 a3]) (.agg #[.int .u64 b0,.int .u64 b1,.int .u64 b2,.int .u64 b3])).run prog w=.ok (eqW a0 a1 a2 a3 b0 b1 b2 b3) w:=by
 have h0:∀(x y:Int) (w:World),(Op.equalIn (d+1) 22 (.int .u64 x) (.int .u64 y)).run prog w=.ok (x==y) w:=fun x y w=>run_equalIn_int w d 22 .u64 .u64 x y underlying22
 rw[Op.equalIn];simp only[Sem.run_bind,run_underlying underlying25,Result.andThen_ok,Tryz.sizeOf22];simp[Std.Legacy.Range.forIn_eq_forIn_range',Std.Legacy.Range.size,List.range',part,h0,Sem.run_bind,Result.andThen_ok];unfold eqW
 by_cases q0:a0=b0<;>by_cases q1:a1=b1<;>by_cases q2:a2=b2<;>by_cases q3:a3=b3<;>simp[q0,q1,q2,q3]<;>omega
theorem Mem.drew {w wr:World} {rs:List (Nat×Nat×Nat×Nat×Nat)} (h:Mem w wr rs):Mem w wr.drew rs :=
 ⟨h.1.drew,fun r hr=>⟨(h.2 r hr).1,⟨(h.2 r hr).2.c0,(h.2 r hr).2.c1,(h.2 r hr).2.c2,(h.2 r hr).2.c3,(h.2 r hr).2.fr⟩⟩⟩
theorem Ax:prog.eqGuardType prog.depth 25=false:=by kernel_rfl
set_option maxHeartbeats 1000000 in
theorem IT (F:FC) (hF:F.Ok) (A b a0 a1 a2 a3:Nat) (ha:cQ a0 a1 a2 a3) (hA:aG a0 a1 a2 a3=kp F A) (w:World) (hk:KIs w b F) :
  Calls prog 267 #[.pointer (some ⟨b,0,none⟩),.agg #[.int .u64 a0,.int .u64 a1,.int .u64 a2,.int .u64 a3]] w (gW (kp F (A^(F.M-2))) w):=by
 have HK:=Lib.hid hk;have HF:=Lib.hid hF;have HA:=Lib.hid hA;have hL:=hk.lt;have hL1:b<w.heap.size+1:=by omega
 have k0:=hk.k0; have k1:=hk.k1; have k2:=hk.k2; have k3:=hk.k3;clear hk hF hA
 go_enter func267,ntmps267
 go_wp2_with fail;have M0:=(((Mem.nil w).new w.heap.size a0 a1 a2 a3 113 rfl).new (w.heap.size+1) 0 0 0 0 113 (by simp));refine (tV F.m0 F.m1 F.m2 F.m3 2 0 0 0 HF.out.okm ⟨by omega,by omega,by omega,by omega⟩ _).mono ?_
 rintro e w1 ⟨n0,n1,n2,n3,c,rfl,hn,hc,hv,hbl⟩
 have hv':aG n0 n1 n2 n3=F.M-2:=by
  have e2:aG 2 0 0 0=2:=rfl;have:=bP hn; have:=HF.out.gt; have:=HF.out.two;rw[e2,show aG F.m0 F.m1 F.m2 F.m3=F.M from rfl]at hv;omega
 have HV:=Lib.hid hv';have M1:=M0.on hbl;have hz1:w.heap.size+1<w1.heap.size:=M1.lt (c0:=0) (c1:=0) (c2:=0) (c3:=0) (by simp);have R1:=M1.row (b:=w.heap.size) (c0:=a0) (c1:=a1) (c2:=a2) (c3:=a3) (by simp);have x0:=R1.c0; have x1:=R1.c1; have x2:=R1.c2; have x3:=R1.c3;have lt1:w.heap.size<w1.heap.size:=by omega
 have M2:=Lib.hid (M1.new w1.heap.size n0 n1 n2 n3 24 rfl);clear hbl hv hv' R1 M0 M1 k0 k1 k2 k3;go_wp2_with fail;refine (YJ F HF.out A b a0 a1 a2 a3 n0 n1 n2 n3 ha hn HA.out _ (HK.out.same M2.out.1)).mono ?_
 rintro e w2 ⟨s0,s1,s2,s3,rfl,hs,hv,hbl⟩
 have HVs:=Lib.hid hv;have M3:=Lib.hid (M2.out.on hbl);have Ro:=M3.out.row (b:=w.heap.size+1) (c0:=0) (c1:=0) (c2:=0) (c3:=0) (by simp);have o0:=Ro.c0; have o1:=Ro.c1; have o2:=Ro.c2; have o3:=Ro.c3; have of:=Ro.fr;have lto:=M3.out.lt (b:=w.heap.size+1) (c0:=0) (c1:=0) (c2:=0) (c3:=0) (by simp);clear hbl hv Ro x0 x1 x2 x3;go_wp2_with fail;refine bodyPost_ret (v:=.agg #[.int .u64 s0,.int .u64 s1,.int .u64 s2,.int .u64 s3]) (by simp[results,results267,go_sem, *]) rfl ?_;refine⟨_,_,_,_,rfl,hs,by rw[HVs.out,HV.out],?_⟩;exact bB M3.out.1 (by omega) _ _ _ _
theorem aUP (a0 a1 a2 a3:Nat) (n:Int) (ha:cQ a0 a1 a2 a3) (h0:0<n) (hq:n/64=0) (w:World) :
  Calls prog 254 #[.agg #[.int .u64 a0,.int .u64 a1,.int .u64 a2,.int .u64 a3],.int .i64 n] w (cZ (fun v=>v=aG a0 a1 a2 a3/2^n.toNat) w):=by
 obtain⟨p,hr,hp,en⟩:=Aq (by omega) 0 hq (by omega);have b1:n<256:=by omega
 have t0:decide (n≤0)=false:=decide_eq_false (by omega);obtain⟨lo0,up0,u0,d0,bl0,bu0,e0,g0,m0⟩:=kS (a:=a0) (p:=p) ha.1 hp;obtain⟨lo1,up1,u1,d1,KQ,bu1,e1,g1,m1⟩:=kS (a:=a1) (p:=p) ha.2.1 hp;obtain⟨lo2,up2,u2,d2,KP,bu2,e2,g2,m2⟩:=kS (a:=a2) (p:=p) ha.2.2.1 hp;obtain⟨lo3,up3,u3,d3,bl3,bu3,e3,g3,m3⟩:=kS (a:=a3) (p:=p) ha.2.2.2 hp;obtain⟨s0,o0,bs0,f0⟩:=BA bl0 bu1 g0 m1;obtain⟨s1,o1,bs1,f1⟩:=BA KQ bu2 g1 m2;obtain⟨s2,o2,bs2,f2⟩:=BA KP bu3 g2 m3;have HF:Hid (aG s0 s1 s2 lo3=aG a0 a1 a2 a3/2^n.toNat):=Lib.hid (by
  rw[en,xY,←Nat.div_div_eq_div_mul];have hq':aG a0 a1 a2 a3/18446744073709551616^((0:Int)).toNat=aG a0 a1 a2 a3:=by
   rw[show 18446744073709551616^((0:Int)).toNat=1 by simp];obtain⟨k0,k1,k2,k3⟩:=ha;unfold aG; omega
  rw[hq'];obtain⟨v0,x0,y0,z0⟩:=e0.out;obtain⟨v1,x1,y1,z1⟩:=e1.out;obtain⟨v2,x2,y2,z2⟩:=e2.out;obtain⟨v3,x3,y3,z3⟩:=e3.out;have f0:=f0.out;have f1:=f1.out;have f2:=f2.out;refine EJ (m:=v0) ?_ y0;have hD:aG s0 s1 s2 lo3*2^p=1*(s0*2^p)+18446744073709551616*(s1*2^p)+340282366920938463463374607431768211456*(s2*2^p)+6277101735386680763835789423207666416102355444464034512896*(lo3*2^p):=by
   unfold aG; simp only[Nat.add_mul,Nat.mul_add,Nat.mul_assoc,Nat.mul_zero,Nat.zero_mul,Nat.add_zero]; omega
  rw[hD];have k0:s0*2^p=lo0*2^p+up1*2^p:=by rw[f0,Nat.add_mul]
  have k1:s1*2^p=lo1*2^p+up2*2^p:=by rw[f1,Nat.add_mul]
  have k2:s2*2^p=lo2*2^p+up3*2^p:=by rw[f2,Nat.add_mul]
  unfold aG;omega)
 clear e0 g0 m0 e1 g1 m1 e2 g2 m2 e3 g3 m3 f0 f1 f2;have HEN:=Lib.hid en;clear en
 go_enter func254,ntmps254
 go_wp2_with fail;refine wp_loop_rounds 5 ?_;rw[rounds_succ];go_wp2_with fail
 go_region
 go_wp2_with fail;rw[rounds_succ];go_wp2_with fail
 go_region
 go_wp2_with fail;rw[rounds_succ];go_wp2_with fail
 go_region
 go_wp2_with fail;rw[rounds_succ];go_wp2_with fail;rw[rounds_succ];go_wp2_with fail;refine bodyPost_ret (v:=.agg #[.int .u64 s0,.int .u64 s1,.int .u64 s2,.int .u64 lo3]) (by simp[results,results254,go_sem]) rfl ?_;refine⟨s0,s1,s2,lo3,rfl,⟨bs0,bs1,bs2,bl3⟩,HF.out,?_⟩
 repeat (first|exact Below.refl _ _|refine Below.drew ?_|refine Below.alloc ?_ (by first|(simp; done)|(simp; omega)) _)
theorem aUO (a0 a1 a2 a3:Nat) (n:Int) (ha:cQ a0 a1 a2 a3) (h0:0<n) (hq:n/64=1) (w:World) :
  Calls prog 254 #[.agg #[.int .u64 a0,.int .u64 a1,.int .u64 a2,.int .u64 a3],.int .i64 n] w (cZ (fun v=>v=aG a0 a1 a2 a3/2^n.toNat) w):=by
 obtain⟨p,hr,hp,en⟩:=Aq (by omega) 1 hq (by omega);have b1:n<256:=by omega
 have t0:decide (n≤0)=false:=decide_eq_false (by omega);obtain⟨lo1,up1,u1,d1,KQ,bu1,e1,g1,m1⟩:=kS (a:=a1) (p:=p) ha.2.1 hp;obtain⟨lo2,up2,u2,d2,KP,bu2,e2,g2,m2⟩:=kS (a:=a2) (p:=p) ha.2.2.1 hp;obtain⟨lo3,up3,u3,d3,bl3,bu3,e3,g3,m3⟩:=kS (a:=a3) (p:=p) ha.2.2.2 hp;obtain⟨s1,o1,bs1,f1⟩:=BA KQ bu2 g1 m2;obtain⟨s2,o2,bs2,f2⟩:=BA KP bu3 g2 m3;have HF:Hid (aG s1 s2 lo3 0=aG a0 a1 a2 a3/2^n.toNat):=Lib.hid (by
  rw[en,xY,←Nat.div_div_eq_div_mul];have hq':aG a0 a1 a2 a3/18446744073709551616^((1:Int)).toNat=aG a1 a2 a3 0:=by
   rw[show 18446744073709551616^((1:Int)).toNat=18446744073709551616 by simp];obtain⟨k0,k1,k2,k3⟩:=ha;unfold aG; omega
  rw[hq'];obtain⟨v1,x1,y1,z1⟩:=e1.out;obtain⟨v2,x2,y2,z2⟩:=e2.out;obtain⟨v3,x3,y3,z3⟩:=e3.out;have f1:=f1.out;have f2:=f2.out;refine EJ (m:=v1) ?_ y1;have hD:aG s1 s2 lo3 0*2^p=1*(s1*2^p)+18446744073709551616*(s2*2^p)+340282366920938463463374607431768211456*(lo3*2^p):=by
   unfold aG; simp only[Nat.add_mul,Nat.mul_add,Nat.mul_assoc,Nat.mul_zero,Nat.zero_mul,Nat.add_zero]; omega
  rw[hD];have k1:s1*2^p=lo1*2^p+up2*2^p:=by rw[f1,Nat.add_mul]
  have k2:s2*2^p=lo2*2^p+up3*2^p:=by rw[f2,Nat.add_mul]
  unfold aG;omega)
 clear e1 g1 m1 e2 g2 m2 e3 g3 m3 f1 f2;have HEN:=Lib.hid en;clear en
 go_enter func254,ntmps254
 go_wp2_with fail;refine wp_loop_rounds 4 ?_;rw[rounds_succ];go_wp2_with fail
 go_region
 go_wp2_with fail;rw[rounds_succ];go_wp2_with fail
 go_region
 go_wp2_with fail;rw[rounds_succ];go_wp2_with fail;rw[rounds_succ];go_wp2_with fail;refine bodyPost_ret (v:=.agg #[.int .u64 s1,.int .u64 s2,.int .u64 lo3,.int .u64 0]) (by simp[results,results254,go_sem]) rfl ?_;refine⟨s1,s2,lo3,0,rfl,⟨bs1,bs2,bl3,(by omega)⟩,HF.out,?_⟩
 repeat (first|exact Below.refl _ _|refine Below.drew ?_|refine Below.alloc ?_ (by first|(simp; done)|(simp; omega)) _)
theorem aUN (a0 a1 a2 a3:Nat) (n:Int) (ha:cQ a0 a1 a2 a3) (h0:0<n) (hq:n/64=2) (w:World) :
  Calls prog 254 #[.agg #[.int .u64 a0,.int .u64 a1,.int .u64 a2,.int .u64 a3],.int .i64 n] w (cZ (fun v=>v=aG a0 a1 a2 a3/2^n.toNat) w):=by
 obtain⟨p,hr,hp,en⟩:=Aq (by omega) 2 hq (by omega);have b1:n<256:=by omega
 have t0:decide (n≤0)=false:=decide_eq_false (by omega);obtain⟨lo2,up2,u2,d2,KP,bu2,e2,g2,m2⟩:=kS (a:=a2) (p:=p) ha.2.2.1 hp;obtain⟨lo3,up3,u3,d3,bl3,bu3,e3,g3,m3⟩:=kS (a:=a3) (p:=p) ha.2.2.2 hp;obtain⟨s2,o2,bs2,f2⟩:=BA KP bu3 g2 m3;have HF:Hid (aG s2 lo3 0 0=aG a0 a1 a2 a3/2^n.toNat):=Lib.hid (by
  rw[en,xY,←Nat.div_div_eq_div_mul];have hq':aG a0 a1 a2 a3/18446744073709551616^((2:Int)).toNat=aG a2 a3 0 0:=by
   rw[show 18446744073709551616^((2:Int)).toNat=340282366920938463463374607431768211456 by simp];obtain⟨k0,k1,k2,k3⟩:=ha;unfold aG; omega
  rw[hq'];obtain⟨v2,x2,y2,z2⟩:=e2.out;obtain⟨v3,x3,y3,z3⟩:=e3.out;have f2:=f2.out;refine EJ (m:=v2) ?_ y2;have hD:aG s2 lo3 0 0*2^p=1*(s2*2^p)+18446744073709551616*(lo3*2^p):=by
   unfold aG; simp only[Nat.add_mul,Nat.mul_add,Nat.mul_assoc,Nat.mul_zero,Nat.zero_mul,Nat.add_zero]; omega
  rw[hD];have k2:s2*2^p=lo2*2^p+up3*2^p:=by rw[f2,Nat.add_mul]
  unfold aG;omega)
 clear e2 g2 m2 e3 g3 m3 f2;have HEN:=Lib.hid en;clear en
 go_enter func254,ntmps254
 go_wp2_with fail;refine wp_loop_rounds 3 ?_;rw[rounds_succ];go_wp2_with fail
 go_region
 go_wp2_with fail;rw[rounds_succ];go_wp2_with fail;rw[rounds_succ];go_wp2_with fail;refine bodyPost_ret (v:=.agg #[.int .u64 s2,.int .u64 lo3,.int .u64 0,.int .u64 0]) (by simp[results,results254,go_sem]) rfl ?_;refine⟨s2,lo3,0,0,rfl,⟨bs2,bl3,(by omega),(by omega)⟩,HF.out,?_⟩
 repeat (first|exact Below.refl _ _|refine Below.drew ?_|refine Below.alloc ?_ (by first|(simp; done)|(simp; omega)) _)
theorem aUM (a0 a1 a2 a3:Nat) (n:Int) (ha:cQ a0 a1 a2 a3) (h0:0<n) (hq:n/64=3) (w:World) :
  Calls prog 254 #[.agg #[.int .u64 a0,.int .u64 a1,.int .u64 a2,.int .u64 a3],.int .i64 n] w (cZ (fun v=>v=aG a0 a1 a2 a3/2^n.toNat) w):=by
 obtain⟨p,hr,hp,en⟩:=Aq (by omega) 3 hq (by omega);have b1:n<256:=by omega
 have t0:decide (n≤0)=false:=decide_eq_false (by omega);obtain⟨lo3,up3,u3,d3,bl3,bu3,e3,g3,m3⟩:=kS (a:=a3) (p:=p) ha.2.2.2 hp;have HF:Hid (aG lo3 0 0 0=aG a0 a1 a2 a3/2^n.toNat):=Lib.hid (by
  rw[en,xY,←Nat.div_div_eq_div_mul];have hq':aG a0 a1 a2 a3/18446744073709551616^((3:Int)).toNat=aG a3 0 0 0:=by
   rw[show 18446744073709551616^((3:Int)).toNat=6277101735386680763835789423207666416102355444464034512896 by simp];obtain⟨k0,k1,k2,k3⟩:=ha;unfold aG; omega
  rw[hq'];obtain⟨v3,x3,y3,z3⟩:=e3.out;refine EJ (m:=v3) ?_ y3;have hD:aG lo3 0 0 0*2^p=1*(lo3*2^p):=by
   unfold aG; simp only[Nat.add_mul,Nat.mul_add,Nat.mul_assoc,Nat.mul_zero,Nat.zero_mul,Nat.add_zero]; omega
  rw[hD];unfold aG;omega)
 clear e3 g3 m3;have HEN:=Lib.hid en;clear en
 go_enter func254,ntmps254
 go_wp2_with fail;refine wp_loop_rounds 2 ?_;rw[rounds_succ];go_wp2_with fail;rw[rounds_succ];go_wp2_with fail;refine bodyPost_ret (v:=.agg #[.int .u64 lo3,.int .u64 0,.int .u64 0,.int .u64 0]) (by simp[results,results254,go_sem]) rfl ?_;refine⟨lo3,0,0,0,rfl,⟨bl3,(by omega),(by omega),(by omega)⟩,HF.out,?_⟩
 repeat (first|exact Below.refl _ _|refine Below.drew ?_|refine Below.alloc ?_ (by first|(simp; done)|(simp; omega)) _)
theorem Yp (a0 a1 a2 a3:Nat) (n:Int) (ha:cQ a0 a1 a2 a3) (h0:n≤0) (w:World) :
  Calls prog 254 #[.agg #[.int .u64 a0,.int .u64 a1,.int .u64 a2,.int .u64 a3],.int .i64 n] w (cZ (fun v=>v=aG a0 a1 a2 a3) w):=by
 have t0:decide (n≤0)=true:=decide_eq_true h0
 go_enter func254,ntmps254
 go_wp2_with fail;refine bodyPost_ret (v:=.agg #[.int .u64 a0,.int .u64 a1,.int .u64 a2,.int .u64 a3]) (by simp[results,results254,go_sem]) rfl ?_;refine⟨a0,a1,a2,a3,rfl,ha,rfl,?_⟩
 repeat (first|exact Below.refl _ _|refine Below.drew ?_|refine Below.alloc ?_ (by first|(simp; done)|(simp; omega)) _)
theorem aGt (a0 a1 a2 a3:Nat) (n:Int) (ha:cQ a0 a1 a2 a3) (h0:256≤n) (h1:n≤9223372036854775807) (w:World) :
  Calls prog 254 #[.agg #[.int .u64 a0,.int .u64 a1,.int .u64 a2,.int .u64 a3],.int .i64 n] w (cZ (fun v=>v=0) w):=by
 have t0:decide (n≤0)=false:=decide_eq_false (by omega);obtain⟨q,hq,bq,bq'⟩:∃q:Nat,n/64=(q:Int)∧4≤q∧q≤9223372036854775807:=⟨(n/64).toNat,by omega,by omega,by omega⟩
 have t1:decide ((0:Int)<4-(q:Int))=false:=decide_eq_false (by omega)
 go_enter func254,ntmps254
 go_wp2_with fail;refine wp_loop_rounds 1 ?_;rw[rounds_succ];go_wp2_with fail;refine bodyPost_ret (v:=.agg #[.int .u64 0,.int .u64 0,.int .u64 0,.int .u64 0]) (by simp[results,results254,go_sem]) rfl ?_;refine⟨0,0,0,0,rfl,⟨by omega,by omega,by omega,by omega⟩,rfl,?_⟩
 repeat (first|exact Below.refl _ _|refine Below.drew ?_|refine Below.alloc ?_ (by first|(simp; done)|(simp; omega)) _)
theorem tW (a0 a1 a2 a3:Nat) (n:Int) (ha:cQ a0 a1 a2 a3) (h0:0≤n) (h1:n≤9223372036854775807) (w:World) :
  Calls prog 254 #[.agg #[.int .u64 a0,.int .u64 a1,.int .u64 a2,.int .u64 a3],.int .i64 n] w (cZ (fun v=>v=aG a0 a1 a2 a3/2^n.toNat) w):=by
 by_cases hz:n≤0
 ·refine (Yp a0 a1 a2 a3 n ha hz w).mono ?_
  rintro e w' ⟨s0,s1,s2,s3,he,hs,hv,hb⟩
  refine⟨s0,s1,s2,s3,he,hs,?_,hb⟩;have:=bP ha;rw[hv,show n.toNat=0 by omega,Nat.pow_zero]; omega
 ·by_cases hf:256≤n
  ·refine (aGt a0 a1 a2 a3 n ha hf h1 w).mono ?_
   rintro e w' ⟨s0,s1,s2,s3,he,hs,hv,hb⟩
   refine⟨s0,s1,s2,s3,he,hs,?_,hb⟩;rw[hv];have hp:=Nat.pow_le_pow_right (show 0<2 by omega) (show 256≤n.toNat by omega);have:=bP ha;exact (Nat.div_eq_of_lt (Nat.lt_of_lt_of_le this hp)).symm
  ·have hq:n/64=0∨n/64=1∨n/64=2∨n/64=3:=by omega
   rcases hq with h|h|h|h
   ·exact aUP a0 a1 a2 a3 n ha (by omega) h w
   ·exact aUO a0 a1 a2 a3 n ha (by omega) h w
   ·exact aUN a0 a1 a2 a3 n ha (by omega) h w
   ·exact aUM a0 a1 a2 a3 n ha (by omega) h w
theorem RO (a0 a1 a2 a3 b0 b1 b2 b3:Nat) (ha:cQ a0 a1 a2 a3) (hb:cQ b0 b1 b2 b3) (w:World) :
  Calls prog 266 #[.agg #[.int .u64 a0,.int .u64 a1,.int .u64 a2,.int .u64 a3],.agg #[.int .u64 b0,.int .u64 b1,.int .u64 b2,.int .u64 b3]] w (cZ (fun v=>v=aG a0 a1 a2 a3 ||| aG b0 b1 b2 b3) w):=by
 obtain⟨s0,o0,bs0,f0⟩:∃s:Nat,bits .or .u64 (a0:Int) (b0:Int)=(s:Int)∧s<18446744073709551616∧Hid (s=a0 ||| b0):=⟨a0 ||| b0,bits_or_u64_nat _ _ ha.1 hb.1,Nat.or_lt_two_pow (n:=64) ha.1 hb.1,Lib.hid rfl⟩
 obtain⟨s1,o1,bs1,f1⟩:∃s:Nat,bits .or .u64 (a1:Int) (b1:Int)=(s:Int)∧s<18446744073709551616∧Hid (s=a1 ||| b1):=⟨a1 ||| b1,bits_or_u64_nat _ _ ha.2.1 hb.2.1,Nat.or_lt_two_pow (n:=64) ha.2.1 hb.2.1,Lib.hid rfl⟩
 obtain⟨s2,o2,bs2,f2⟩:∃s:Nat,bits .or .u64 (a2:Int) (b2:Int)=(s:Int)∧s<18446744073709551616∧Hid (s=a2 ||| b2):=⟨a2 ||| b2,bits_or_u64_nat _ _ ha.2.2.1 hb.2.2.1,Nat.or_lt_two_pow (n:=64) ha.2.2.1 hb.2.2.1,Lib.hid rfl⟩
 obtain⟨s3,o3,bs3,f3⟩:∃s:Nat,bits .or .u64 (a3:Int) (b3:Int)=(s:Int)∧s<18446744073709551616∧Hid (s=a3 ||| b3):=⟨a3 ||| b3,bits_or_u64_nat _ _ ha.2.2.2 hb.2.2.2,Nat.or_lt_two_pow (n:=64) ha.2.2.2 hb.2.2.2,Lib.hid rfl⟩
 have HF:Hid (aG s0 s1 s2 s3=aG a0 a1 a2 a3 ||| aG b0 b1 b2 b3):=Lib.hid (by rw[f0.out,f1.out,f2.out,f3.out]; exact or4 ha hb);clear f0 f1 f2 f3
 go_enter func266,ntmps266
 go_wp2_with fail;refine wp_loop_rounds 5 ?_;rw[rounds_succ];go_wp2_with fail
 go_region
 go_wp2_with fail;rw[rounds_succ];go_wp2_with fail
 go_region
 go_wp2_with fail;rw[rounds_succ];go_wp2_with fail
 go_region
 go_wp2_with fail;rw[rounds_succ];go_wp2_with fail
 go_region
 go_wp2_with fail;rw[rounds_succ];go_wp2_with fail;refine bodyPost_ret (v:=.agg #[.int .u64 s0,.int .u64 s1,.int .u64 s2,.int .u64 s3]) (by simp[results,results266,go_sem]) rfl ?_;refine⟨s0,s1,s2,s3,rfl,⟨bs0,bs1,bs2,bs3⟩,HF.out,?_⟩
 repeat (first|exact Below.refl _ _|refine Below.drew ?_|refine Below.alloc ?_ (by first|(simp; done)|(simp; omega)) _)
section
variable {P:Program} {ops:Array Oper} {Q:Exit→Act→World→Prop} {md:Region.Mode} {S:World→Prop} {L:Nat}
def kT (P:Program) (md:Region.Mode) (ops:Array Oper) (Q:Exit→Act→World→Prop) (S:World→Prop) (L:Nat):Nat→Array Bool→Act→World→Prop
 | 0,got,a,w=>Region.ready md ops got=[]∧Q .normal a w
 | m+1,got,a,w =>
  (Region.ready md ops got=[]→Q .normal a w) ∧
  ∀i∈Region.ready md ops got,wpOp P ops Q i (fun b u=>(i=L∨S u)∧kT P md ops Q S L m (got.setIfInBounds i true) b u) a w
theorem CT:∀(m:Nat) (got:Array Bool) (a:Act) (w:World),kT P md ops Q S L m got a w→wpAny P md ops Q m got a w
 | 0,_,_,_,h=>h
 | m+1,_,_,_,h=>⟨h.1,fun i hi=>wpOp_mono (fun b u k=>CT m _ b u k.2) (h.2 i hi)⟩
def Xc (md:Region.Mode) (ops:Array Oper) (L i:Nat):Bool :=
 match ops[L]? with
 | some o=>o.after.any fun e=>Region.binds md e&&e.on==i
 | none=>false
theorem Cn {i:Nat} {oi:Oper} {v:Value} (hi:ops[i]?=some oi) (hsel:∀(j:Nat) (o:Oper) cs b,ops[j]?=some o→o.op ≠ .select cs b)
  (hL:Xc md ops L i=true) (hQ:∀c a w,Q (.panic c) (a.put oi.dst v) w→Q (.panic c) a w) :
  ∀(m:Nat) (got:Array Bool) (a:Act) (w:World),
   (∀j oj,ops[j]?=some oj→j≠i→got.getD j true=false→(∀e∈oj.after,Region.binds md e=true→e.on≠i)→oi.apart ops oj=true) →
   i∈Region.ready md ops got→YieldsIf P ops S oi v a→S w →
   kT P md ops Q S L m (got.setIfInBounds i true) (a.put oi.dst v) w→kT P md ops Q S L (m+1) got a w:=by
 intro m
 induction m with
 | zero =>
  intro got a w _ hr hy hS H;refine⟨fun h=>(by rw[h]at hr; cases hr),fun j hj => ?_⟩
  by_cases hji:j=i
  ·subst hji; exact hy.wpOp hi hS ⟨.inr hS,H⟩
  ·have:=ready_mono hj hji;rw[H.1]at this;cases this
 | succ m ih =>
  intro got a w hfree hr hy hS H;refine⟨fun h=>(by rw[h]at hr; cases hr),fun j hj => ?_⟩
  by_cases hji:j=i
  ·subst hji; exact hy.wpOp hi hS ⟨.inr hS,H⟩
  ·obtain⟨hun,oj,hoj,hall⟩:=mem_ready.1 hj;have hno:∀e∈oj.after,Region.binds md e=true→e.on≠i:=fun e he hb heq=>by
    have h1:=hall e he hb;have h0:=(mem_ready.1 hr).1;rw[heq]at h1
    rcases Nat.lt_or_ge i got.size with h'|h'
    ·simp[h']at h0 h1; rw[h0]at h1; cases h1
    ·simp[Array.getElem?_eq_none h']at h1
   have hjL:j≠L:=fun e=>by
    subst e;unfold Xc at hL;rw[hoj]at hL;obtain⟨x,hx,hx2⟩:=Array.any_eq_true'.1 hL;simp only[Bool.and_eq_true,beq_iff_eq]at hx2;exact hno x hx hx2.1 hx2.2
   have h2:=wpOp_putIf hoj (hfree j oj hoj hji hun hno) (fun cs b=>hsel i oi cs b hi) (fun cs b=>hsel j oj cs b hoj) hQ hy (H.2 j (ready_mono hj hji));have hfree':∀k ok,ops[k]?=some ok→k≠i→(got.setIfInBounds j true).getD k true=false →
     (∀e∈ok.after,Region.binds md e=true→e.on≠i)→oi.apart ops ok=true:=fun k ok hk hki hu hn=>by
    refine hfree k ok hk hki ?_ hn
    by_cases hjk:j=k
    ·subst hjk; exact hun
    ·rw[getD_set_ne true hjk]at hu; exact hu
   refine wpOp_mono (fun b u h3=>⟨h3.2.1,ih (got.setIfInBounds j true) b u hfree' (ready_mono hr (Ne.symm hji)) h3.1 (h3.2.1.resolve_left hjL) ?_⟩) h2;rw[Array.setIfInBounds_comm _ _ hji];exact h3.2.2
theorem bF {i:Nat} {oi:Oper} {v:Value} {m:Nat} {got:Array Bool} {a:Act} {w:World} (hi:ops[i]?=some oi)
  (hs:Region.noSelect ops=true) (hf:Region.free md ops got i=true) (hr:(Region.ready md ops got).contains i=true) (hL:Xc md ops L i=true)
  (hQ:∀c a w,Q (.panic c) (a.put oi.dst v) w→Q (.panic c) a w) (hS:S w) (hy:YieldsIf P ops S oi v a)
  (h:kT P md ops Q S L m (got.setIfInBounds i true) (a.put oi.dst v) w):kT P md ops Q S L (m+1) got a w :=
 Cn hi (Region.noSelect_spec hs) hL hQ m got a w (Region.free_spec hi hf) (by simpa using hr) hy hS h
theorem cF {i:Nat} {o:Oper} {m:Nat} {got:Array Bool} {a:Act} {w:World} (hr:Region.ready md ops got=[i]) (ho:ops[i]?=some o)
  (h:∀K:Act→World→Prop,Shut (∀b u,(i=L∨S u)→((i=L∨S u)→kT P md ops Q S L m (got.setIfInBounds i true) b u)→K b u)→if Region.wanted o (yielded ops a.tmps)=true then Oper.wp P o a w K Q else K (a.put o.dst undef) w) :
  kT P md ops Q S L (m+1) got a w :=
 ⟨fun h0=>(by rw[hr]at h0; cases h0),fun j hj=>by
  rw[hr]at hj;obtain rfl:j=i:=by simpa using hj
  exact wpOp_step ho (fun K hK=>h K (fun b u hS hW=>hK b u ⟨hS,hW hS⟩))⟩
theorem pC {got:Array Bool} {a:Act} {w:World} (hr:Region.ready md ops got=[]) (h:Q .normal a w):kT P md ops Q S L 0 got a w:=⟨hr,h⟩
theorem kW (S:World→Prop) (L:Nat) {id:Nat} {a:Act} {w:World} (hm:P.follows .mixedOrders=true)
  (h:kT P .any ops Q S L ops.size (Array.replicate ops.size false) a w.drew):(Code.region id ops true).wp P Q a w :=
 wp_region_any hm (CT _ _ _ _ h)
end
def FieldIs (f:Int) (F:FC):Prop:=f=1∧F=FP∨f=2∧F=FR
theorem FieldIs.ok {f:Int} {F:FC} (h:FieldIs f F):F.Ok:=by rcases h with⟨_,rfl⟩|⟨_,rfl⟩; exact aXZ; exact aXY
theorem FieldIs.root {f:Int} {F:FC} (h:FieldIs f F):∃g,Root F.M g:=by
 rcases h with⟨_,rfl⟩|⟨_,rfl⟩
 ·exact⟨3,by rw[bAM]; exact aAn⟩
 ·exact⟨5,by rw[bAL]; exact aAm⟩
def Bad1 (f:Int) (A:Nat) (c:Int):Prop:=f≠1∧f≠2∧c=1∨∃F,FieldIs f F∧¬A<F.M∧c=21
def Bad2 (f:Int) (A B:Nat) (c:Int):Prop:=Bad1 f A c∨∃F,FieldIs f F∧A<F.M∧¬B<F.M∧c=21
def Ji (c:Int) (V:Nat) (w:World) (e:Ending) (w':World):Prop :=
 ∃s0 s1 s2 s3:Nat,e=.returned (.tuple #[.agg #[.int .u64 s0,.int .u64 s1,.int .u64 s2,.int .u64 s3],.int .i64 c])∧cQ s0 s1 s2 s3∧aG s0 s1 s2 s3=V∧Below w.heap.size w w'
theorem zok:cQ 0 0 0 0:=⟨by omega,by omega,by omega,by omega⟩
theorem KIs.new (w:World) (F:FC) (t:TypeId):KIs (w.alloc (.cells #[.int .u64 F.m0,.int .u64 F.m1,.int .u64 F.m2,.int .u64 F.m3,.int .u64 F.inv,.int .u64 F.s0,.int .u64 F.s1,.int .u64 F.s2,.int .u64 F.s3] t)) w.heap.size F :=
 ⟨by rw[World.cell?_alloc_new]; rfl,by rw[World.cell?_alloc_new]; rfl,by rw[World.cell?_alloc_new]; rfl,by rw[World.cell?_alloc_new]; rfl,by rw[World.cell?_alloc_new]; rfl,by rw[World.cell?_alloc_new]; rfl,by rw[World.cell?_alloc_new]; rfl,by rw[World.cell?_alloc_new]; rfl,by rw[World.cell?_alloc_new]; rfl,by simp⟩
set_option maxHeartbeats 2000000 in
theorem eK (f:Int) (F:FC) (hf:FieldIs f F) (w:World):Calls prog 55 #[.int .i64 f] w fun e w'=>e=.returned (.tuple #[.agg #[.int .u64 F.m0,.int .u64 F.m1,.int .u64 F.m2,.int .u64 F.m3,.int .u64 F.inv,.int .u64 F.s0,.int .u64 F.s1,.int .u64 F.s2,.int .u64 F.s3],.int .i64 0])∧Below w.heap.size w w':=by
 rcases hf with⟨rfl,rfl⟩|⟨rfl,rfl⟩
 ·go_enter func55,ntmps55
  go_wp2_with fail;refine bodyPost_ret (v:=.tuple #[.agg #[.int .u64 FP.m0,.int .u64 FP.m1,.int .u64 FP.m2,.int .u64 FP.m3,.int .u64 FP.inv,.int .u64 FP.s0,.int .u64 FP.s1,.int .u64 FP.s2,.int .u64 FP.s3],.int .i64 0]) (by simp[results,results55,go_sem,FP]) rfl ?_;refine⟨rfl,?_⟩
  repeat (first|exact Below.refl _ _|refine Below.drew ?_|refine Below.alloc ?_ (by first|(simp; done)|(simp; omega)) _|refine Below.setCell ?_ (by simp) _)
 ·go_enter func55,ntmps55
  go_wp2_with fail;refine bodyPost_ret (v:=.tuple #[.agg #[.int .u64 FR.m0,.int .u64 FR.m1,.int .u64 FR.m2,.int .u64 FR.m3,.int .u64 FR.inv,.int .u64 FR.s0,.int .u64 FR.s1,.int .u64 FR.s2,.int .u64 FR.s3],.int .i64 0]) (by simp[results,results55,go_sem,FR]) rfl ?_;refine⟨rfl,?_⟩
  repeat (first|exact Below.refl _ _|refine Below.drew ?_|refine Below.alloc ?_ (by first|(simp; done)|(simp; omega)) _|refine Below.setCell ?_ (by simp) _)
set_option maxHeartbeats 2000000 in
theorem Vt (f:Int) (h1:f≠1) (h2:f≠2) (w:World):Calls prog 55 #[.int .i64 f] w fun e w'=>e=.returned (.tuple #[.agg #[.int .u64 0,.int .u64 0,.int .u64 0,.int .u64 0,.int .u64 0,.int .u64 0,.int .u64 0,.int .u64 0,.int .u64 0],.int .i64 1])∧Below w.heap.size w w':=by
 have t1:(f==1)=false:=by simp[h1]
 have t2:(f==2)=false:=by simp[h2]
 go_enter func55,ntmps55
 go_wp2_with fail;refine bodyPost_ret (v:=.tuple #[.agg #[.int .u64 0,.int .u64 0,.int .u64 0,.int .u64 0,.int .u64 0,.int .u64 0,.int .u64 0,.int .u64 0,.int .u64 0],.int .i64 1]) (by simp[results,results55,go_sem]) rfl ?_;refine⟨rfl,?_⟩
 repeat (first|exact Below.refl _ _|refine Below.drew ?_|refine Below.alloc ?_ (by first|(simp; done)|(simp; omega)) _|refine Below.setCell ?_ (by simp) _)
theorem XU (w:World):Calls prog 62 #[.int .i64 1] w fun e w'=>e=.returned (.int .i64 1)∧w'=w:=by
 go_enter func62,ntmps62
 go_wp2_with fail;go_ret;exact⟨rfl,rfl⟩
theorem XT (w:World):Calls prog 62 #[.int .i64 0] w fun e w'=>e=.returned (.int .i64 21)∧w'=w:=by
 go_enter func62,ntmps62
 go_wp2_with fail;go_ret;exact⟨rfl,rfl⟩
set_option maxHeartbeats 2000000 in
theorem Nv (f:Int) (F:FC) (hf:FieldIs f F) (a0 a1 a2 a3 b0 b1 b2 b3:Nat) (ha:cQ a0 a1 a2 a3) (hb:cQ b0 b1 b2 b3) (la:aG a0 a1 a2 a3<F.M) (lb:aG b0 b1 b2 b3<F.M) (w:World) :
  Calls prog 251 #[.int .i64 f,.agg #[.int .u64 a0,.int .u64 a1,.int .u64 a2,.int .u64 a3],.agg #[.int .u64 b0,.int .u64 b1,.int .u64 b2,.int .u64 b3]] w (Ji 0 ((aG a0 a1 a2 a3+aG b0 b1 b2 b3)%F.M) w):=by
 go_enter func251,ntmps251
 go_wp2_with fail;refine (eK f F hf _).mono ?_
 rintro e w1 ⟨rfl,hbl⟩
 have M1:=((((Mem.nil w).new (w.heap.size) a0 a1 a2 a3 25 (by simp)).new (w.heap.size+1) b0 b1 b2 b3 25 (by simp)).new (w.heap.size+1+1) 0 0 0 0 25 (by simp)).on hbl;clear hbl;have z0:w.heap.size<w1.heap.size:=M1.lt (c0:=a0) (c1:=a1) (c2:=a2) (c3:=a3) (by simp);have z1:w.heap.size+1<w1.heap.size:=M1.lt (c0:=b0) (c1:=b1) (c2:=b2) (c3:=b3) (by simp);have z2:w.heap.size+1+1<w1.heap.size:=M1.lt (c0:=0) (c1:=0) (c2:=0) (c3:=0) (by simp);have HM:=Lib.hid (M1.on ((Below.refl _ _).alloc (Nat.le_refl _) (.cells #[.int .u64 F.m0,.int .u64 F.m1,.int .u64 F.m2,.int .u64 F.m3,.int .u64 F.inv,.int .u64 F.s0,.int .u64 F.s1,.int .u64 F.s2,.int .u64 F.s3] 115)));have KK:=Lib.hid (KIs.new w1 F 115);have kr:=M1.row (b:=w.heap.size) (c0:=a0) (c1:=a1) (c2:=a2) (c3:=a3) (by simp);have x0:=kr.c0; have x1:=kr.c1; have x2:=kr.c2; have x3:=kr.c3;clear kr;have xl:=M1.lt (b:=w.heap.size) (c0:=a0) (c1:=a1) (c2:=a2) (c3:=a3) (by simp);go_wp2_with fail;refine (dN F hf.ok w1.heap.size a0 a1 a2 a3 ha _ KK.out).mono ?_
 rintro e w2 ⟨he,hbl⟩
 rw[show UP (aG a0 a1 a2 a3) F.M=true from decide_eq_true la]at he;subst he;have HM':=Lib.hid (HM.out.on hbl);have KK':=Lib.hid (KK.out.same hbl);have zk:=KK'.out.lt;clear HM KK hbl M1;have HM:=HM';have KK:=KK';clear HM' KK';clear x0 x1 x2 x3 xl zk;have kr:=HM.out.row (b:=w.heap.size+1) (c0:=b0) (c1:=b1) (c2:=b2) (c3:=b3) (by simp);have x0:=kr.c0; have x1:=kr.c1; have x2:=kr.c2; have x3:=kr.c3;clear kr;have xl:=HM.out.lt (b:=w.heap.size+1) (c0:=b0) (c1:=b1) (c2:=b2) (c3:=b3) (by simp);go_wp2_with fail;refine (dN F hf.ok w1.heap.size b0 b1 b2 b3 hb _ KK.out).mono ?_
 rintro e w3 ⟨he,hbl⟩
 rw[show UP (aG b0 b1 b2 b3) F.M=true from decide_eq_true lb]at he;subst he;have HM':=Lib.hid (HM.out.on hbl);have KK':=Lib.hid (KK.out.same hbl);have zk:=KK'.out.lt;clear HM KK hbl;have HM:=HM';have KK:=KK';clear HM' KK';clear x0 x1 x2 x3 xl zk;have kr:=HM.out.row (b:=w.heap.size) (c0:=a0) (c1:=a1) (c2:=a2) (c3:=a3) (by simp);have x0:=kr.c0; have x1:=kr.c1; have x2:=kr.c2; have x3:=kr.c3;clear kr;have xl:=HM.out.lt (b:=w.heap.size) (c0:=a0) (c1:=a1) (c2:=a2) (c3:=a3) (by simp);have kr:=HM.out.row (b:=w.heap.size+1) (c0:=b0) (c1:=b1) (c2:=b2) (c3:=b3) (by simp);have u0:=kr.c0; have u1:=kr.c1; have u2:=kr.c2; have u3:=kr.c3;clear kr;have ul:=HM.out.lt (b:=w.heap.size+1) (c0:=b0) (c1:=b1) (c2:=b2) (c3:=b3) (by simp);go_wp2_with fail;refine (GK F hf.ok w1.heap.size a0 a1 a2 a3 b0 b1 b2 b3 ha hb la lb _ KK.out).mono ?_
 rintro e w4 ⟨s0,s1,s2,s3,rfl,hs,hv,hbl⟩
 have HV:=Lib.hid hv;clear hv;have HM':=Lib.hid (HM.out.on hbl);have KK':=Lib.hid (KK.out.same hbl);have zk:=KK'.out.lt;clear HM KK hbl;have HM:=HM';have KK:=KK';clear HM' KK';clear x0 x1 x2 x3 xl u0 u1 u2 u3 ul zk;have kr:=HM.out.row (b:=w.heap.size+1+1) (c0:=0) (c1:=0) (c2:=0) (c3:=0) (by simp);have y0:=kr.c0; have y1:=kr.c1; have y2:=kr.c2; have y3:=kr.c3; have yf:=kr.fr;clear kr;have yl:=HM.out.lt (b:=w.heap.size+1+1) (c0:=0) (c1:=0) (c2:=0) (c3:=0) (by simp);go_wp2_with fail;refine bodyPost_ret (v:=.tuple #[.agg #[.int .u64 s0,.int .u64 s1,.int .u64 s2,.int .u64 s3],.int .i64 0]) (by simp[results,results251,go_sem, *]) rfl ?_;refine⟨_,_,_,_,rfl,hs,HV.out,?_⟩;exact bB HM.out.1 (by omega) _ _ _ _
set_option maxHeartbeats 2000000 in
theorem Nj (f:Int) (F:FC) (hf:FieldIs f F) (a0 a1 a2 a3 b0 b1 b2 b3:Nat) (ha:cQ a0 a1 a2 a3) (hb:cQ b0 b1 b2 b3) (la:aG a0 a1 a2 a3<F.M) (lb:aG b0 b1 b2 b3<F.M) (w:World) :
  Calls prog 250 #[.int .i64 f,.agg #[.int .u64 a0,.int .u64 a1,.int .u64 a2,.int .u64 a3],.agg #[.int .u64 b0,.int .u64 b1,.int .u64 b2,.int .u64 b3]] w (Ji 0 ((aG a0 a1 a2 a3+F.M-aG b0 b1 b2 b3)%F.M) w):=by
 go_enter func250,ntmps250
 go_wp2_with fail;refine (eK f F hf _).mono ?_
 rintro e w1 ⟨rfl,hbl⟩
 have M1:=((((Mem.nil w).new (w.heap.size) a0 a1 a2 a3 25 (by simp)).new (w.heap.size+1) b0 b1 b2 b3 25 (by simp)).new (w.heap.size+1+1) 0 0 0 0 25 (by simp)).on hbl;clear hbl;have z0:w.heap.size<w1.heap.size:=M1.lt (c0:=a0) (c1:=a1) (c2:=a2) (c3:=a3) (by simp);have z1:w.heap.size+1<w1.heap.size:=M1.lt (c0:=b0) (c1:=b1) (c2:=b2) (c3:=b3) (by simp);have z2:w.heap.size+1+1<w1.heap.size:=M1.lt (c0:=0) (c1:=0) (c2:=0) (c3:=0) (by simp);have HM:=Lib.hid (M1.on ((Below.refl _ _).alloc (Nat.le_refl _) (.cells #[.int .u64 F.m0,.int .u64 F.m1,.int .u64 F.m2,.int .u64 F.m3,.int .u64 F.inv,.int .u64 F.s0,.int .u64 F.s1,.int .u64 F.s2,.int .u64 F.s3] 115)));have KK:=Lib.hid (KIs.new w1 F 115);have kr:=M1.row (b:=w.heap.size) (c0:=a0) (c1:=a1) (c2:=a2) (c3:=a3) (by simp);have x0:=kr.c0; have x1:=kr.c1; have x2:=kr.c2; have x3:=kr.c3;clear kr;have xl:=M1.lt (b:=w.heap.size) (c0:=a0) (c1:=a1) (c2:=a2) (c3:=a3) (by simp);go_wp2_with fail;refine (dN F hf.ok w1.heap.size a0 a1 a2 a3 ha _ KK.out).mono ?_
 rintro e w2 ⟨he,hbl⟩
 rw[show UP (aG a0 a1 a2 a3) F.M=true from decide_eq_true la]at he;subst he;have HM':=Lib.hid (HM.out.on hbl);have KK':=Lib.hid (KK.out.same hbl);have zk:=KK'.out.lt;clear HM KK hbl M1;have HM:=HM';have KK:=KK';clear HM' KK';clear x0 x1 x2 x3 xl zk;have kr:=HM.out.row (b:=w.heap.size+1) (c0:=b0) (c1:=b1) (c2:=b2) (c3:=b3) (by simp);have x0:=kr.c0; have x1:=kr.c1; have x2:=kr.c2; have x3:=kr.c3;clear kr;have xl:=HM.out.lt (b:=w.heap.size+1) (c0:=b0) (c1:=b1) (c2:=b2) (c3:=b3) (by simp);go_wp2_with fail;refine (dN F hf.ok w1.heap.size b0 b1 b2 b3 hb _ KK.out).mono ?_
 rintro e w3 ⟨he,hbl⟩
 rw[show UP (aG b0 b1 b2 b3) F.M=true from decide_eq_true lb]at he;subst he;have HM':=Lib.hid (HM.out.on hbl);have KK':=Lib.hid (KK.out.same hbl);have zk:=KK'.out.lt;clear HM KK hbl;have HM:=HM';have KK:=KK';clear HM' KK';clear x0 x1 x2 x3 xl zk;have kr:=HM.out.row (b:=w.heap.size) (c0:=a0) (c1:=a1) (c2:=a2) (c3:=a3) (by simp);have x0:=kr.c0; have x1:=kr.c1; have x2:=kr.c2; have x3:=kr.c3;clear kr;have xl:=HM.out.lt (b:=w.heap.size) (c0:=a0) (c1:=a1) (c2:=a2) (c3:=a3) (by simp);have kr:=HM.out.row (b:=w.heap.size+1) (c0:=b0) (c1:=b1) (c2:=b2) (c3:=b3) (by simp);have u0:=kr.c0; have u1:=kr.c1; have u2:=kr.c2; have u3:=kr.c3;clear kr;have ul:=HM.out.lt (b:=w.heap.size+1) (c0:=b0) (c1:=b1) (c2:=b2) (c3:=b3) (by simp);go_wp2_with fail;refine (CC F hf.ok w1.heap.size a0 a1 a2 a3 b0 b1 b2 b3 ha hb la lb _ KK.out).mono ?_
 rintro e w4 ⟨s0,s1,s2,s3,rfl,hs,hv,hbl⟩
 have HV:=Lib.hid hv;clear hv;have HM':=Lib.hid (HM.out.on hbl);have KK':=Lib.hid (KK.out.same hbl);have zk:=KK'.out.lt;clear HM KK hbl;have HM:=HM';have KK:=KK';clear HM' KK';clear x0 x1 x2 x3 xl u0 u1 u2 u3 ul zk;have kr:=HM.out.row (b:=w.heap.size+1+1) (c0:=0) (c1:=0) (c2:=0) (c3:=0) (by simp);have y0:=kr.c0; have y1:=kr.c1; have y2:=kr.c2; have y3:=kr.c3; have yf:=kr.fr;clear kr;have yl:=HM.out.lt (b:=w.heap.size+1+1) (c0:=0) (c1:=0) (c2:=0) (c3:=0) (by simp);go_wp2_with fail;refine bodyPost_ret (v:=.tuple #[.agg #[.int .u64 s0,.int .u64 s1,.int .u64 s2,.int .u64 s3],.int .i64 0]) (by simp[results,results250,go_sem, *]) rfl ?_;refine⟨_,_,_,_,rfl,hs,HV.out,?_⟩;exact bB HM.out.1 (by omega) _ _ _ _
set_option maxHeartbeats 2000000 in
theorem Nn (f:Int) (F:FC) (hf:FieldIs f F) (a0 a1 a2 a3 b0 b1 b2 b3:Nat) (ha:cQ a0 a1 a2 a3) (hb:cQ b0 b1 b2 b3) (la:aG a0 a1 a2 a3<F.M) (lb:aG b0 b1 b2 b3<F.M) (w:World) :
  Calls prog 252 #[.int .i64 f,.agg #[.int .u64 a0,.int .u64 a1,.int .u64 a2,.int .u64 a3],.agg #[.int .u64 b0,.int .u64 b1,.int .u64 b2,.int .u64 b3]] w (Ji 0 (aG a0 a1 a2 a3*aG b0 b1 b2 b3%F.M) w):=by
 go_enter func252,ntmps252
 go_wp2_with fail;refine (eK f F hf _).mono ?_
 rintro e w1 ⟨rfl,hbl⟩
 have M1:=((((Mem.nil w).new (w.heap.size) a0 a1 a2 a3 25 (by simp)).new (w.heap.size+1) b0 b1 b2 b3 25 (by simp)).new (w.heap.size+1+1) 0 0 0 0 25 (by simp)).on hbl;clear hbl;have z0:w.heap.size<w1.heap.size:=M1.lt (c0:=a0) (c1:=a1) (c2:=a2) (c3:=a3) (by simp);have z1:w.heap.size+1<w1.heap.size:=M1.lt (c0:=b0) (c1:=b1) (c2:=b2) (c3:=b3) (by simp);have z2:w.heap.size+1+1<w1.heap.size:=M1.lt (c0:=0) (c1:=0) (c2:=0) (c3:=0) (by simp);have HM:=Lib.hid (M1.on ((Below.refl _ _).alloc (Nat.le_refl _) (.cells #[.int .u64 F.m0,.int .u64 F.m1,.int .u64 F.m2,.int .u64 F.m3,.int .u64 F.inv,.int .u64 F.s0,.int .u64 F.s1,.int .u64 F.s2,.int .u64 F.s3] 115)));have KK:=Lib.hid (KIs.new w1 F 115);have kr:=M1.row (b:=w.heap.size) (c0:=a0) (c1:=a1) (c2:=a2) (c3:=a3) (by simp);have x0:=kr.c0; have x1:=kr.c1; have x2:=kr.c2; have x3:=kr.c3;clear kr;have xl:=M1.lt (b:=w.heap.size) (c0:=a0) (c1:=a1) (c2:=a2) (c3:=a3) (by simp);go_wp2_with fail;refine (dN F hf.ok w1.heap.size a0 a1 a2 a3 ha _ KK.out).mono ?_
 rintro e w2 ⟨he,hbl⟩
 rw[show UP (aG a0 a1 a2 a3) F.M=true from decide_eq_true la]at he;subst he;have HM':=Lib.hid (HM.out.on hbl);have KK':=Lib.hid (KK.out.same hbl);have zk:=KK'.out.lt;clear HM KK hbl M1;have HM:=HM';have KK:=KK';clear HM' KK';clear x0 x1 x2 x3 xl zk;have kr:=HM.out.row (b:=w.heap.size+1) (c0:=b0) (c1:=b1) (c2:=b2) (c3:=b3) (by simp);have x0:=kr.c0; have x1:=kr.c1; have x2:=kr.c2; have x3:=kr.c3;clear kr;have xl:=HM.out.lt (b:=w.heap.size+1) (c0:=b0) (c1:=b1) (c2:=b2) (c3:=b3) (by simp);go_wp2_with fail;refine (dN F hf.ok w1.heap.size b0 b1 b2 b3 hb _ KK.out).mono ?_
 rintro e w3 ⟨he,hbl⟩
 rw[show UP (aG b0 b1 b2 b3) F.M=true from decide_eq_true lb]at he;subst he;have HM':=Lib.hid (HM.out.on hbl);have KK':=Lib.hid (KK.out.same hbl);have zk:=KK'.out.lt;clear HM KK hbl;have HM:=HM';have KK:=KK';clear HM' KK';clear x0 x1 x2 x3 xl zk;have kr:=HM.out.row (b:=w.heap.size) (c0:=a0) (c1:=a1) (c2:=a2) (c3:=a3) (by simp);have x0:=kr.c0; have x1:=kr.c1; have x2:=kr.c2; have x3:=kr.c3;clear kr;have xl:=HM.out.lt (b:=w.heap.size) (c0:=a0) (c1:=a1) (c2:=a2) (c3:=a3) (by simp);have kr:=HM.out.row (b:=w.heap.size+1) (c0:=b0) (c1:=b1) (c2:=b2) (c3:=b3) (by simp);have u0:=kr.c0; have u1:=kr.c1; have u2:=kr.c2; have u3:=kr.c3;clear kr;have ul:=HM.out.lt (b:=w.heap.size+1) (c0:=b0) (c1:=b1) (c2:=b2) (c3:=b3) (by simp);go_wp2_with fail;refine (kP F hf.ok w1.heap.size a0 a1 a2 a3 b0 b1 b2 b3 ha hb lb _ KK.out).mono ?_
 rintro e w4 ⟨s0,s1,s2,s3,rfl,hs,hv,hbl⟩
 have HV:=Lib.hid hv;clear hv;have HM':=Lib.hid (HM.out.on hbl);have KK':=Lib.hid (KK.out.same hbl);have zk:=KK'.out.lt;clear HM KK hbl;have HM:=HM';have KK:=KK';clear HM' KK';clear x0 x1 x2 x3 xl u0 u1 u2 u3 ul zk;have kr:=HM.out.row (b:=w.heap.size+1+1) (c0:=0) (c1:=0) (c2:=0) (c3:=0) (by simp);have y0:=kr.c0; have y1:=kr.c1; have y2:=kr.c2; have y3:=kr.c3; have yf:=kr.fr;clear kr;have yl:=HM.out.lt (b:=w.heap.size+1+1) (c0:=0) (c1:=0) (c2:=0) (c3:=0) (by simp);go_wp2_with fail;refine bodyPost_ret (v:=.tuple #[.agg #[.int .u64 s0,.int .u64 s1,.int .u64 s2,.int .u64 s3],.int .i64 0]) (by simp[results,results252,go_sem, *]) rfl ?_;refine⟨_,_,_,_,rfl,hs,HV.out,?_⟩;exact bB HM.out.1 (by omega) _ _ _ _
set_option maxHeartbeats 2000000 in
theorem SD (f:Int) (F:FC) (hf:FieldIs f F) (a0 a1 a2 a3:Nat) (ha:cQ a0 a1 a2 a3) (la:aG a0 a1 a2 a3<F.M) (w:World) :
  Calls prog 23 #[.int .i64 f,.agg #[.int .u64 a0,.int .u64 a1,.int .u64 a2,.int .u64 a3]] w (Ji 0 ((0+F.M-aG a0 a1 a2 a3)%F.M) w):=by
 go_enter func23,ntmps23
 go_wp2_with fail;refine (eK f F hf _).mono ?_
 rintro e w1 ⟨rfl,hbl⟩
 have M1:=(((Mem.nil w).new (w.heap.size) a0 a1 a2 a3 25 (by simp)).new (w.heap.size+1) 0 0 0 0 25 (by simp)).on hbl;clear hbl;have z0:w.heap.size<w1.heap.size:=M1.lt (c0:=a0) (c1:=a1) (c2:=a2) (c3:=a3) (by simp);have z1:w.heap.size+1<w1.heap.size:=M1.lt (c0:=0) (c1:=0) (c2:=0) (c3:=0) (by simp);have HM:=Lib.hid (M1.on ((Below.refl _ _).alloc (Nat.le_refl _) (.cells #[.int .u64 F.m0,.int .u64 F.m1,.int .u64 F.m2,.int .u64 F.m3,.int .u64 F.inv,.int .u64 F.s0,.int .u64 F.s1,.int .u64 F.s2,.int .u64 F.s3] 115)));have KK:=Lib.hid (KIs.new w1 F 115);have kr:=M1.row (b:=w.heap.size) (c0:=a0) (c1:=a1) (c2:=a2) (c3:=a3) (by simp);have x0:=kr.c0; have x1:=kr.c1; have x2:=kr.c2; have x3:=kr.c3;clear kr;have xl:=M1.lt (b:=w.heap.size) (c0:=a0) (c1:=a1) (c2:=a2) (c3:=a3) (by simp);go_wp2_with fail;refine (dN F hf.ok w1.heap.size a0 a1 a2 a3 ha _ KK.out).mono ?_
 rintro e w2 ⟨he,hbl⟩
 rw[show UP (aG a0 a1 a2 a3) F.M=true from decide_eq_true la]at he;subst he;have HM':=Lib.hid (HM.out.on hbl);have KK':=Lib.hid (KK.out.same hbl);have zk:=KK'.out.lt;clear HM KK hbl M1;have HM:=HM';have KK:=KK';clear HM' KK';clear x0 x1 x2 x3 xl zk;have kr:=HM.out.row (b:=w.heap.size) (c0:=a0) (c1:=a1) (c2:=a2) (c3:=a3) (by simp);have x0:=kr.c0; have x1:=kr.c1; have x2:=kr.c2; have x3:=kr.c3;clear kr;have xl:=HM.out.lt (b:=w.heap.size) (c0:=a0) (c1:=a1) (c2:=a2) (c3:=a3) (by simp);go_wp2_with fail;refine (CC F hf.ok w1.heap.size 0 0 0 0 a0 a1 a2 a3 zok ha hf.ok.pos la _ KK.out).mono ?_
 rintro e w4 ⟨s0,s1,s2,s3,rfl,hs,hv,hbl⟩
 have HV:=Lib.hid hv;clear hv;have HM':=Lib.hid (HM.out.on hbl);have KK':=Lib.hid (KK.out.same hbl);have zk:=KK'.out.lt;clear HM KK hbl;have HM:=HM';have KK:=KK';clear HM' KK';clear x0 x1 x2 x3 xl zk;have kr:=HM.out.row (b:=w.heap.size+1) (c0:=0) (c1:=0) (c2:=0) (c3:=0) (by simp);have y0:=kr.c0; have y1:=kr.c1; have y2:=kr.c2; have y3:=kr.c3; have yf:=kr.fr;clear kr;have yl:=HM.out.lt (b:=w.heap.size+1) (c0:=0) (c1:=0) (c2:=0) (c3:=0) (by simp);go_wp2_with fail;refine bodyPost_ret (v:=.tuple #[.agg #[.int .u64 s0,.int .u64 s1,.int .u64 s2,.int .u64 s3],.int .i64 0]) (by simp[results,results23,go_sem, *]) rfl ?_;refine⟨_,_,_,_,rfl,hs,HV.out,?_⟩;exact bB HM.out.1 (by omega) _ _ _ _
set_option maxHeartbeats 2000000 in
theorem JA (f c:Int) (a0 a1 a2 a3:Nat) (ha:cQ a0 a1 a2 a3) (h:Bad1 f (aG a0 a1 a2 a3) c) (w:World) :
  Calls prog 124 #[.int .i64 f,.agg #[.int .u64 a0,.int .u64 a1,.int .u64 a2,.int .u64 a3]] w fun e w'=>e=.returned (.int .i64 c)∧Below w.heap.size w w':=by
 rcases h with⟨h1,h2,rfl⟩|⟨F,hf,la,rfl⟩
 ·go_enter func124,ntmps124
  go_wp2_with fail;refine (Vt f h1 h2 _).mono ?_
  rintro e w1 ⟨rfl,hbl⟩
  have M1:=((Mem.nil w).new (w.heap.size) a0 a1 a2 a3 25 (by simp)).on hbl;clear hbl;have z0:w.heap.size<w1.heap.size:=M1.lt (c0:=a0) (c1:=a1) (c2:=a2) (c3:=a3) (by simp);have HM:=Lib.hid (M1.on ((Below.refl _ _).alloc (Nat.le_refl _) (.cells #[.int .u64 0,.int .u64 0,.int .u64 0,.int .u64 0,.int .u64 0,.int .u64 0,.int .u64 0,.int .u64 0,.int .u64 0] 115)));go_wp2_with fail;refine (XU _).mono ?_
  rintro e w2 ⟨rfl,rfl⟩
  go_wp2_with fail;refine bodyPost_ret (v:=.int .i64 1) (by simp[results,results124,go_sem, *]) rfl ?_;exact⟨rfl,HM.out.1⟩
 ·go_enter func124,ntmps124
  go_wp2_with fail;refine (eK f F hf _).mono ?_
  rintro e w1 ⟨rfl,hbl⟩
  have M1:=((Mem.nil w).new (w.heap.size) a0 a1 a2 a3 25 (by simp)).on hbl;clear hbl;have z0:w.heap.size<w1.heap.size:=M1.lt (c0:=a0) (c1:=a1) (c2:=a2) (c3:=a3) (by simp);have HM:=Lib.hid (M1.on ((Below.refl _ _).alloc (Nat.le_refl _) (.cells #[.int .u64 F.m0,.int .u64 F.m1,.int .u64 F.m2,.int .u64 F.m3,.int .u64 F.inv,.int .u64 F.s0,.int .u64 F.s1,.int .u64 F.s2,.int .u64 F.s3] 115)));have KK:=Lib.hid (KIs.new w1 F 115);have kr:=M1.row (b:=w.heap.size) (c0:=a0) (c1:=a1) (c2:=a2) (c3:=a3) (by simp);have x0:=kr.c0; have x1:=kr.c1; have x2:=kr.c2; have x3:=kr.c3;clear kr;have xl:=M1.lt (b:=w.heap.size) (c0:=a0) (c1:=a1) (c2:=a2) (c3:=a3) (by simp);go_wp2_with fail;refine (dN F hf.ok w1.heap.size a0 a1 a2 a3 ha _ KK.out).mono ?_
  rintro e w2 ⟨he,hbl⟩
  rw[show UP (aG a0 a1 a2 a3) F.M=false from decide_eq_false la]at he;subst he;have HM':=Lib.hid (HM.out.on hbl);have KK':=Lib.hid (KK.out.same hbl);have zk:=KK'.out.lt;clear HM KK hbl M1;have HM:=HM';have KK:=KK';clear HM' KK';clear x0 x1 x2 x3 xl zk;go_wp2_with fail;refine (XT _).mono ?_
  rintro e w3 ⟨rfl,rfl⟩
  go_wp2_with fail;refine bodyPost_ret (v:=.int .i64 21) (by simp[results,results124,go_sem, *]) rfl ?_;exact⟨rfl,HM.out.1⟩
set_option maxHeartbeats 2000000 in
theorem NQ (f:Int) (F:FC) (hf:FieldIs f F) (a0 a1 a2 a3:Nat) (ha:cQ a0 a1 a2 a3) (la:aG a0 a1 a2 a3<F.M) (w:World) :
  Calls prog 124 #[.int .i64 f,.agg #[.int .u64 a0,.int .u64 a1,.int .u64 a2,.int .u64 a3]] w (fun e w'=>e=.returned (.int .i64 0)∧Below w.heap.size w w'):=by
 go_enter func124,ntmps124
 go_wp2_with fail;refine (eK f F hf _).mono ?_
 rintro e w1 ⟨rfl,hbl⟩
 have M1:=((Mem.nil w).new (w.heap.size) a0 a1 a2 a3 25 (by simp)).on hbl;clear hbl;have z0:w.heap.size<w1.heap.size:=M1.lt (c0:=a0) (c1:=a1) (c2:=a2) (c3:=a3) (by simp);have HM:=Lib.hid (M1.on ((Below.refl _ _).alloc (Nat.le_refl _) (.cells #[.int .u64 F.m0,.int .u64 F.m1,.int .u64 F.m2,.int .u64 F.m3,.int .u64 F.inv,.int .u64 F.s0,.int .u64 F.s1,.int .u64 F.s2,.int .u64 F.s3] 115)));have KK:=Lib.hid (KIs.new w1 F 115);have kr:=M1.row (b:=w.heap.size) (c0:=a0) (c1:=a1) (c2:=a2) (c3:=a3) (by simp);have x0:=kr.c0; have x1:=kr.c1; have x2:=kr.c2; have x3:=kr.c3;clear kr;have xl:=M1.lt (b:=w.heap.size) (c0:=a0) (c1:=a1) (c2:=a2) (c3:=a3) (by simp);go_wp2_with fail;refine (dN F hf.ok w1.heap.size a0 a1 a2 a3 ha _ KK.out).mono ?_
 rintro e w2 ⟨he,hbl⟩
 rw[show UP (aG a0 a1 a2 a3) F.M=true from decide_eq_true la]at he;subst he;have HM':=Lib.hid (HM.out.on hbl);have KK':=Lib.hid (KK.out.same hbl);have zk:=KK'.out.lt;clear HM KK hbl M1;have HM:=HM';have KK:=KK';clear HM' KK';clear x0 x1 x2 x3 xl zk;go_wp2_with fail;go_ret;exact⟨rfl,HM.out.1⟩
set_option maxHeartbeats 2000000 in
theorem vK (f:Int) (F:FC) (hf:FieldIs f F) (w:World):Calls prog 204 #[.int .i64 f] w fun e w'=>e=.returned (.agg #[.int .u64 F.m0,.int .u64 F.m1,.int .u64 F.m2,.int .u64 F.m3])∧Below w.heap.size w w':=by
 go_enter func204,ntmps204
 go_wp2_with fail;refine (eK f F hf _).mono ?_
 rintro e w1 ⟨rfl,hbl⟩
 have M1:=((Mem.nil w).new (w.heap.size) 0 0 0 0 24 (by simp)).on hbl;clear hbl;have z0:w.heap.size<w1.heap.size:=M1.lt (c0:=0) (c1:=0) (c2:=0) (c3:=0) (by simp);have HM:=Lib.hid (M1.on ((Below.refl _ _).alloc (Nat.le_refl _) (.cells #[.int .u64 F.m0,.int .u64 F.m1,.int .u64 F.m2,.int .u64 F.m3,.int .u64 F.inv,.int .u64 F.s0,.int .u64 F.s1,.int .u64 F.s2,.int .u64 F.s3] 115)));have KK:=Lib.hid (KIs.new w1 F 115);have k0:=KK.out.k0; have k1:=KK.out.k1; have k2:=KK.out.k2; have k3:=KK.out.k3;have kr:=M1.row (b:=w.heap.size) (c0:=0) (c1:=0) (c2:=0) (c3:=0) (by simp);have y0:=kr.c0; have y1:=kr.c1; have y2:=kr.c2; have y3:=kr.c3; have yf:=kr.fr;clear kr;have yl:=M1.lt (b:=w.heap.size) (c0:=0) (c1:=0) (c2:=0) (c3:=0) (by simp);go_wp2_with fail;refine bodyPost_ret (v:=.agg #[.int .u64 F.m0,.int .u64 F.m1,.int .u64 F.m2,.int .u64 F.m3]) (by simp[results,results204,go_sem, *]) rfl ?_;refine⟨rfl,?_⟩
 repeat (first|exact M1.1|exact HM.out.1|refine Below.alloc ?_ (by first|(simp; done)|(simp; omega)) _|refine Below.setCell ?_ (by first|(simp; done)|(simp; omega)) _)
open Go.ChangeShapes Go.WideShapes Go.ChangeAt Go.RowKit
def LAt (w:World) (g off len:Nat) (A:Nat→Nat→Nat):Prop:=∀k,k<len →
 w.cell? ⟨g,off+k*4,none⟩=some (.int .u64 (A k 0))∧w.cell? ⟨g,off+k*4+1,none⟩=some (.int .u64 (A k 1)) ∧
 w.cell? ⟨g,off+k*4+2,none⟩=some (.int .u64 (A k 2))∧w.cell? ⟨g,off+k*4+3,none⟩=some (.int .u64 (A k 3))
def LOk (len:Nat) (A:Nat→Nat→Nat):Prop:=∀k,k<len→cQ (A k 0) (A k 1) (A k 2) (A k 3)
theorem LAt.same {w w':World} {g off len:Nat} {A:Nat→Nat→Nat} {B:Nat} (h:LAt w g off len A) (hg:0<len→g<B) (hb:Below B w w'):LAt w' g off len A :=
 fun k hk=>have hg:=hg (Nat.lt_of_le_of_lt (Nat.zero_le _) hk); ⟨(hb.cell (p:=⟨g,off+k*4,none⟩) hg).trans (h k hk).1,(hb.cell (p:=⟨g,off+k*4+1,none⟩) hg).trans (h k hk).2.1,
  (hb.cell (p:=⟨g,off+k*4+2,none⟩) hg).trans (h k hk).2.2.1,(hb.cell (p:=⟨g,off+k*4+3,none⟩) hg).trans (h k hk).2.2.2⟩
set_option maxHeartbeats 1000000 in
theorem RT (F:FC) (hF:F.Ok) (b g off len cap:Nat) (A:Nat→Nat→Nat) (hA:LOk len A) (hm:len≤9223372036854775807) (w:World) (hk:KIs w b F) (hg:0<len→g<w.heap.size) (hl:LAt w g off len A) :
  Calls prog 56 #[.pointer (some ⟨b,0,none⟩),.slice (some ⟨g,off,none⟩) len cap] w fun e w'=>(∃t:Bool,e=.returned (.bool t)∧(t=true↔∀k,k<len→aG (A k 0) (A k 1) (A k 2) (A k 3)<F.M))∧Below w.heap.size w w':=by
 have HK:=Lib.hid hk;have HL:=Lib.hid hl;have HG:=Lib.hid hg;clear hg;have HA:=Lib.hid hA;have HF:=Lib.hid hF;clear hk hl hA hF
 go_enter func56,ntmps56
 go_wp2_with fail
 go_loopw [9] (fun t wr=>∃k:Nat,k≤len∧t=.int .i64 k∧Hid (∀j,j<k→aG (A j 0) (A j 1) (A j 2) (A j 3)<F.M)∧Below w.heap.size w wr) (fun t _=>len-(intOf t).toNat)
 case atStart=>exact⟨0,Nat.zero_le _,rfl,Lib.hid (fun j h=>absurd h (by omega)),Below.refl _ _⟩
 case round =>
  obtain⟨k,hk,rfl,ha,hbl⟩:=hrel
  by_cases hlt:k<len
  ·obtain⟨a0,a1,a2,a3,e0,e1,e2,e3⟩:∃a0 a1 a2 a3:Nat,a0=A k 0∧a1=A k 1∧a2=A k 2∧a3=A k 3:=⟨_,_,_,_,rfl,rfl,rfl,rfl⟩
   have hc:=(HL.out.same HG.out hbl) k hlt;have hok:=HA.out k hlt;rw[←e0,←e1,←e2,←e3]at hc hok;have c0:=hc.1; have c1:=hc.2.1; have c2:=hc.2.2.1; have c3:=hc.2.2.2;clear hc;have HB:=Lib.hid hbl;have HR:=Lib.hid (HK.out.same hbl);clear hbl;have HE:=Lib.hid (And.intro e0 (And.intro e1 (And.intro e2 e3)));have HO:=Lib.hid hok;clear e0 e1 e2 e3 hok;have hsz:w.heap.size≤wr.heap.size:=HB.out.size;go_wp2_with fail;refine (dN F HF.out b a0 a1 a2 a3 HO.out _ (HR.out.same ((Below.refl _ _).alloc (Nat.le_refl _) _))).mono ?_
   rintro e w2 ⟨rfl,hb2⟩
   have HW:=Lib.hid ((HB.out.alloc hsz (.cells #[.int .u64 a0,.int .u64 a1,.int .u64 a2,.int .u64 a3] 25)).trans (hb2.mono (by simp; omega)));clear hb2 c0 c1 c2 c3
   by_cases hv:aG a0 a1 a2 a3<F.M
   ·rw[show UP (aG a0 a1 a2 a3) F.M=true from decide_eq_true hv];have HN:=Lib.hid (show ∀j,j<k+1→aG (A j 0) (A j 1) (A j 2) (A j 3)<F.M from fun j h=>by
     by_cases e:j=k
     ·subst e; rw[←HE.out.1,←HE.out.2.1,←HE.out.2.2.1,←HE.out.2.2.2]; exact hv
     ·exact ha.out j (by omega))
    clear hv;go_wp2_with fail
    go_round
    case rel=>exact⟨k+1,by omega,by go_num,HN,HW.out⟩
    case measure=>simp[intOf]; omega
   ·rw[show UP (aG a0 a1 a2 a3) F.M=false from decide_eq_false hv];have HN:=Lib.hid (show ¬ ∀j,j<len→aG (A j 0) (A j 1) (A j 2) (A j 3)<F.M from fun h=>hv (by
     have:=h k hlt
     rwa [←HE.out.1,←HE.out.2.1,←HE.out.2.2.1,←HE.out.2.2.2]at this))
    clear hv;go_wp2_with fail;go_ret;exact⟨⟨false,rfl,⟨fun h=>(by cases h),fun h=>absurd h HN.out⟩⟩,HW.out⟩
  ·obtain rfl:k=len:=by omega
   have HB:=Lib.hid hbl;clear hbl;go_wp2_with fail;go_ret;exact⟨⟨true,rfl,⟨fun _=>ha.out,fun _=>rfl⟩⟩,HB.out⟩
set_option maxHeartbeats 2000000 in
theorem aDH (f:Int) (F:FC) (hf:FieldIs f F) (a0 a1 a2 a3 b0 b1 b2 b3:Nat) (ha:cQ a0 a1 a2 a3) (hb:cQ b0 b1 b2 b3) (la:aG a0 a1 a2 a3<F.M) (lb:aG b0 b1 b2 b3<F.M) (hz:aG b0 b1 b2 b3=0) (w:World) :
  Calls prog 263 #[.int .i64 f,.agg #[.int .u64 a0,.int .u64 a1,.int .u64 a2,.int .u64 a3],.agg #[.int .u64 b0,.int .u64 b1,.int .u64 b2,.int .u64 b3]] w (Ji 22 0 w):=by
 have HE:=Lib.hid (show ∀w,(Op.equalIn 10000 25 (.agg #[.int .u64 b0,.int .u64 b1,.int .u64 b2,.int .u64 b3]) (.agg #[.int .u64 0,.int .u64 0,.int .u64 0,.int .u64 0])).run prog w=.ok true w from fun w=>by
  have h:=Aw 9998 b0 b1 b2 b3 0 0 0 0 w;rw[(SJ hb zok).2 (hz.trans rfl)]at h;exact h)
 have hG:=Ax;clear hz
 go_enter func263,ntmps263
 go_wp2_with fail;refine (eK f F hf _).mono ?_
 rintro e w1 ⟨rfl,hbl⟩
 have M1:=((((Mem.nil w).new (w.heap.size) a0 a1 a2 a3 25 (by simp)).new (w.heap.size+1) b0 b1 b2 b3 25 (by simp)).new (w.heap.size+1+1) 0 0 0 0 25 (by simp)).on hbl;clear hbl;have z0:w.heap.size<w1.heap.size:=M1.lt (c0:=a0) (c1:=a1) (c2:=a2) (c3:=a3) (by simp);have z1:w.heap.size+1<w1.heap.size:=M1.lt (c0:=b0) (c1:=b1) (c2:=b2) (c3:=b3) (by simp);have z2:w.heap.size+1+1<w1.heap.size:=M1.lt (c0:=0) (c1:=0) (c2:=0) (c3:=0) (by simp);have HM:=Lib.hid (M1.on ((Below.refl _ _).alloc (Nat.le_refl _) (.cells #[.int .u64 F.m0,.int .u64 F.m1,.int .u64 F.m2,.int .u64 F.m3,.int .u64 F.inv,.int .u64 F.s0,.int .u64 F.s1,.int .u64 F.s2,.int .u64 F.s3] 115)));have KK:=Lib.hid (KIs.new w1 F 115);have kr:=M1.row (b:=w.heap.size) (c0:=a0) (c1:=a1) (c2:=a2) (c3:=a3) (by simp);have x0:=kr.c0; have x1:=kr.c1; have x2:=kr.c2; have x3:=kr.c3;clear kr;have xl:=M1.lt (b:=w.heap.size) (c0:=a0) (c1:=a1) (c2:=a2) (c3:=a3) (by simp);go_wp2_with fail;refine (dN F hf.ok w1.heap.size a0 a1 a2 a3 ha _ KK.out).mono ?_
 rintro e w2 ⟨he,hbl⟩
 rw[show UP (aG a0 a1 a2 a3) F.M=true from decide_eq_true la]at he;subst he;have HM':=Lib.hid (HM.out.on hbl);have KK':=Lib.hid (KK.out.same hbl);have zk:=KK'.out.lt;clear HM KK hbl M1;have HM:=HM';have KK:=KK';clear HM' KK';clear x0 x1 x2 x3 xl zk;have kr:=HM.out.row (b:=w.heap.size+1) (c0:=b0) (c1:=b1) (c2:=b2) (c3:=b3) (by simp);have x0:=kr.c0; have x1:=kr.c1; have x2:=kr.c2; have x3:=kr.c3;clear kr;have xl:=HM.out.lt (b:=w.heap.size+1) (c0:=b0) (c1:=b1) (c2:=b2) (c3:=b3) (by simp);go_wp2_with fail;refine (dN F hf.ok w1.heap.size b0 b1 b2 b3 hb _ KK.out).mono ?_
 rintro e w3 ⟨he,hbl⟩
 rw[show UP (aG b0 b1 b2 b3) F.M=true from decide_eq_true lb]at he;subst he;have HM':=Lib.hid (HM.out.on hbl);have KK':=Lib.hid (KK.out.same hbl);have zk:=KK'.out.lt;clear HM KK hbl;have HM:=HM';have KK:=KK';clear HM' KK';clear x0 x1 x2 x3 xl zk;have kr:=HM.out.row (b:=w.heap.size+1) (c0:=b0) (c1:=b1) (c2:=b2) (c3:=b3) (by simp);have u0:=kr.c0; have u1:=kr.c1; have u2:=kr.c2; have u3:=kr.c3;clear kr;have ul:=HM.out.lt (b:=w.heap.size+1) (c0:=b0) (c1:=b1) (c2:=b2) (c3:=b3) (by simp);have kr:=HM.out.row (b:=w.heap.size+1+1) (c0:=0) (c1:=0) (c2:=0) (c3:=0) (by simp);have y0:=kr.c0; have y1:=kr.c1; have y2:=kr.c2; have y3:=kr.c3; have yf:=kr.fr;clear kr;have yl:=HM.out.lt (b:=w.heap.size+1+1) (c0:=0) (c1:=0) (c2:=0) (c3:=0) (by simp);have hE:=HE.out;go_wp2_with fail;refine bodyPost_ret (v:=.tuple #[.agg #[.int .u64 0,.int .u64 0,.int .u64 0,.int .u64 0],.int .i64 22]) (by simp[results,results263,go_sem, *]) rfl ?_;refine⟨_,_,_,_,rfl,zok,rfl,?_⟩;exact bB HM.out.1 (by omega) 0 0 0 0
set_option maxHeartbeats 2000000 in
theorem aJQ (f:Int) (F:FC) (hf:FieldIs f F) (a0 a1 a2 a3 b0 b1 b2 b3:Nat) (ha:cQ a0 a1 a2 a3) (hb:cQ b0 b1 b2 b3) (la:aG a0 a1 a2 a3<F.M) (lb:aG b0 b1 b2 b3<F.M) (hz:aG b0 b1 b2 b3≠0) (w:World) :
  Calls prog 263 #[.int .i64 f,.agg #[.int .u64 a0,.int .u64 a1,.int .u64 a2,.int .u64 a3],.agg #[.int .u64 b0,.int .u64 b1,.int .u64 b2,.int .u64 b3]] w (Ji 0 (aG a0 a1 a2 a3*(aG b0 b1 b2 b3^(F.M-2))%F.M) w):=by
 have HE:=Lib.hid (show ∀w,(Op.equalIn 10000 25 (.agg #[.int .u64 b0,.int .u64 b1,.int .u64 b2,.int .u64 b3]) (.agg #[.int .u64 0,.int .u64 0,.int .u64 0,.int .u64 0])).run prog w=.ok false w from fun w=>by
  have h:=Aw 9998 b0 b1 b2 b3 0 0 0 0 w;have q:eqW b0 b1 b2 b3 0 0 0 0=false:=by
   cases q:eqW b0 b1 b2 b3 0 0 0 0
   ·rfl
   ·exact absurd (((SJ hb zok).1 q).trans rfl) hz
  rw[q]at h;exact h)
 have hG:=Ax;clear hz
 go_enter func263,ntmps263
 go_wp2_with fail;refine (eK f F hf _).mono ?_
 rintro e w1 ⟨rfl,hbl⟩
 have M1:=((((Mem.nil w).new (w.heap.size) a0 a1 a2 a3 25 (by simp)).new (w.heap.size+1) b0 b1 b2 b3 25 (by simp)).new (w.heap.size+1+1) 0 0 0 0 25 (by simp)).on hbl;clear hbl;have z0:w.heap.size<w1.heap.size:=M1.lt (c0:=a0) (c1:=a1) (c2:=a2) (c3:=a3) (by simp);have z1:w.heap.size+1<w1.heap.size:=M1.lt (c0:=b0) (c1:=b1) (c2:=b2) (c3:=b3) (by simp);have z2:w.heap.size+1+1<w1.heap.size:=M1.lt (c0:=0) (c1:=0) (c2:=0) (c3:=0) (by simp);have HM:=Lib.hid (M1.on ((Below.refl _ _).alloc (Nat.le_refl _) (.cells #[.int .u64 F.m0,.int .u64 F.m1,.int .u64 F.m2,.int .u64 F.m3,.int .u64 F.inv,.int .u64 F.s0,.int .u64 F.s1,.int .u64 F.s2,.int .u64 F.s3] 115)));have KK:=Lib.hid (KIs.new w1 F 115);have kr:=M1.row (b:=w.heap.size) (c0:=a0) (c1:=a1) (c2:=a2) (c3:=a3) (by simp);have x0:=kr.c0; have x1:=kr.c1; have x2:=kr.c2; have x3:=kr.c3;clear kr;have xl:=M1.lt (b:=w.heap.size) (c0:=a0) (c1:=a1) (c2:=a2) (c3:=a3) (by simp);go_wp2_with fail;refine (dN F hf.ok w1.heap.size a0 a1 a2 a3 ha _ KK.out).mono ?_
 rintro e w2 ⟨he,hbl⟩
 rw[show UP (aG a0 a1 a2 a3) F.M=true from decide_eq_true la]at he;subst he;have HM':=Lib.hid (HM.out.on hbl);have KK':=Lib.hid (KK.out.same hbl);have zk:=KK'.out.lt;clear HM KK hbl M1;have HM:=HM';have KK:=KK';clear HM' KK';clear x0 x1 x2 x3 xl zk;have kr:=HM.out.row (b:=w.heap.size+1) (c0:=b0) (c1:=b1) (c2:=b2) (c3:=b3) (by simp);have x0:=kr.c0; have x1:=kr.c1; have x2:=kr.c2; have x3:=kr.c3;clear kr;have xl:=HM.out.lt (b:=w.heap.size+1) (c0:=b0) (c1:=b1) (c2:=b2) (c3:=b3) (by simp);go_wp2_with fail;refine (dN F hf.ok w1.heap.size b0 b1 b2 b3 hb _ KK.out).mono ?_
 rintro e w3 ⟨he,hbl⟩
 rw[show UP (aG b0 b1 b2 b3) F.M=true from decide_eq_true lb]at he;subst he;have HM':=Lib.hid (HM.out.on hbl);have KK':=Lib.hid (KK.out.same hbl);have zk:=KK'.out.lt;clear HM KK hbl;have HM:=HM';have KK:=KK';clear HM' KK';clear x0 x1 x2 x3 xl zk;have kr:=HM.out.row (b:=w.heap.size+1) (c0:=b0) (c1:=b1) (c2:=b2) (c3:=b3) (by simp);have u0:=kr.c0; have u1:=kr.c1; have u2:=kr.c2; have u3:=kr.c3;clear kr;have ul:=HM.out.lt (b:=w.heap.size+1) (c0:=b0) (c1:=b1) (c2:=b2) (c3:=b3) (by simp);have hE:=HE.out;go_wp2_with fail;clear u0 u1 u2 u3 ul hE;refine kW (fun wx=>Mem w wx [(w.heap.size+1,b0,b1,b2,b3),(w.heap.size,a0,a1,a2,a3)]) 6 (by kernel_rfl) ?_;have HM':=Lib.hid (HM.out.drewN 1);have KK':=Lib.hid (KK.out.drewN 1);clear HM KK;have HM:=HM';have KK:=KK';clear HM' KK';have HS:=HM.out.sub (rs':=[(w.heap.size+1,b0,b1,b2,b3),(w.heap.size,a0,a1,a2,a3)]) (by simp);refine bF (i:=0) (v:=.agg #[.int .u64 b0,.int .u64 b1,.int .u64 b2,.int .u64 b3]) rfl (by kernel_rfl) (by kernel_rfl) (by kernel_rfl) (by kernel_rfl) (fun _ _ _ h=>h) HS (Or.inl ⟨by kernel_rfl,fun wx hx => ?_⟩) ?_
 ·have kr:=hx.row (b:=w.heap.size+1) (c0:=b0) (c1:=b1) (c2:=b2) (c3:=b3) (by simp);have x0:=kr.c0; have x1:=kr.c1; have x2:=kr.c2; have x3:=kr.c3;clear kr HS hx;go_simp
 simp only[Act.put,List.setIfInBounds_toArray,List.set_cons_zero,List.set_cons_succ];refine bF (i:=3) (v:=.agg #[.int .u64 a0,.int .u64 a1,.int .u64 a2,.int .u64 a3]) rfl (by kernel_rfl) (by kernel_rfl) (by kernel_rfl) (by kernel_rfl) (fun _ _ _ h=>h) HS (Or.inl ⟨by kernel_rfl,fun wx hx => ?_⟩) ?_
 ·have kr:=hx.row (b:=w.heap.size) (c0:=a0) (c1:=a1) (c2:=a2) (c3:=a3) (by simp);have x0:=kr.c0; have x1:=kr.c1; have x2:=kr.c2; have x3:=kr.c3;clear kr HS hx;go_simp
 simp only[Act.put,List.setIfInBounds_toArray,List.set_cons_zero,List.set_cons_succ];clear HS;refine cF (i:=1) (by kernel_rfl) rfl (fun K hK => ?_);go_simp;refine (qZ F hf.ok w1.heap.size b0 b1 b2 b3 hb _ KK.out).mono ?_
 rintro e w4 ⟨i0,i1,i2,i3,rfl,hi,hv,hbl⟩
 have HVi:=Lib.hid hv;clear hv;have HM':=Lib.hid (HM.out.on hbl);have KK':=Lib.hid (KK.out.same hbl);have zk_w4:=KK'.out.lt;clear HM KK hbl;have HM:=HM';have KK:=KK';clear HM' KK';have HS:=HM.out.sub (rs':=[(w.heap.size+1,b0,b1,b2,b3),(w.heap.size,a0,a1,a2,a3)]) (by simp);refine hK.out _ _ (Or.inr HS) (fun _ => ?_);clear hK K;clear HS;refine cF (i:=2) (by kernel_rfl) rfl (fun K hK => ?_);go_simp;refine (IT F hf.ok (aG b0 b1 b2 b3) w1.heap.size i0 i1 i2 i3 hi HVi.out _ KK.out).mono ?_
 rintro e w5 ⟨j0,j1,j2,j3,rfl,hj,hv,hbl⟩
 have HVj:=Lib.hid hv;clear hv;have HM':=Lib.hid (HM.out.on hbl);have KK':=Lib.hid (KK.out.same hbl);have zk_w5:=KK'.out.lt;clear HM KK hbl;have HM:=HM';have KK:=KK';clear HM' KK';have HS:=HM.out.sub (rs':=[(w.heap.size+1,b0,b1,b2,b3),(w.heap.size,a0,a1,a2,a3)]) (by simp);refine hK.out _ _ (Or.inr HS) (fun _ => ?_);clear hK K;clear HS;refine cF (i:=4) (by kernel_rfl) rfl (fun K hK => ?_);go_simp;refine (iL F hf.ok w1.heap.size j0 j1 j2 j3 a0 a1 a2 a3 hj ha la _ KK.out).mono ?_
 rintro e w6 ⟨s0,s1,s2,s3,rfl,hs,hv,hbl⟩
 have HVs:=Lib.hid (show aG s0 s1 s2 s3=aG a0 a1 a2 a3*(aG b0 b1 b2 b3^(F.M-2))%F.M by rw[hv,HVj.out,IL hf.ok,Nat.mul_comm]);clear hv;have HM':=Lib.hid (HM.out.on hbl);have KK':=Lib.hid (KK.out.same hbl);have zk_w6:=KK'.out.lt;clear HM KK hbl;have HM:=HM';have KK:=KK';clear HM' KK';have HS:=HM.out.sub (rs':=[(w.heap.size+1,b0,b1,b2,b3),(w.heap.size,a0,a1,a2,a3)]) (by simp);refine hK.out _ _ (Or.inr HS) (fun _ => ?_);clear hK K;clear HS;have kr:=HM.out.row (b:=w.heap.size+1+1) (c0:=0) (c1:=0) (c2:=0) (c3:=0) (by simp);have y0:=kr.c0; have y1:=kr.c1; have y2:=kr.c2; have y3:=kr.c3; have yf:=kr.fr;clear kr;have yl:=HM.out.lt (b:=w.heap.size+1+1) (c0:=0) (c1:=0) (c2:=0) (c3:=0) (by simp);refine cF (i:=5) (by kernel_rfl) rfl (fun K hK => ?_);go_simp;have HM':=Lib.hid ((HM.out.sub (rs':=[(w.heap.size+1+1,0,0,0,0),(w.heap.size+1,b0,b1,b2,b3),(w.heap.size,a0,a1,a2,a3)]) (by simp)).put s0 s1 s2 s3 (by omega) (by intro r hr; simp at hr; rcases hr with rfl|rfl<;>simp<;>omega));clear HM;have HM:=HM';clear HM';have HS:=HM.out.sub (rs':=[(w.heap.size+1,b0,b1,b2,b3),(w.heap.size,a0,a1,a2,a3)]) (by simp);refine hK.out _ _ (Or.inr HS) (fun _ => ?_);clear hK K;clear HS;refine cF (i:=6) (by kernel_rfl) rfl (fun K hK => ?_);go_simp;refine hK.out _ _ (Or.inl rfl) (fun _ => ?_);clear hK K;refine pC (by kernel_rfl) ?_;go_wp2_with fail;refine bodyPost_ret (v:=.tuple #[.agg #[.int .u64 s0,.int .u64 s1,.int .u64 s2,.int .u64 s3],.int .i64 0]) (by simp[results,results263,go_sem, *]) rfl ?_;exact⟨_,_,_,_,rfl,hs,HVs.out,HM.out.1⟩
set_option maxHeartbeats 2000000 in
theorem No (f c:Int) (V a0 a1 a2 a3:Nat) (hD:∀w,Calls prog 263 #[.int .i64 f,.agg #[.int .u64 1,.int .u64 0,.int .u64 0,.int .u64 0],.agg #[.int .u64 a0,.int .u64 a1,.int .u64 a2,.int .u64 a3]] w (Ji c V w)) (w:World) :
  Calls prog 256 #[.int .i64 f,.agg #[.int .u64 a0,.int .u64 a1,.int .u64 a2,.int .u64 a3]] w (Ji c V w):=by
 have HD:=Lib.hid hD;clear hD
 go_enter func256,ntmps256
 go_wp2_with fail;have HM:=Lib.hid (((Mem.nil w).new (w.heap.size) a0 a1 a2 a3 25 (by simp)).new (w.heap.size+1) 0 0 0 0 25 (by simp));refine kW (fun wx=>Mem w wx [(w.heap.size,a0,a1,a2,a3)]) 7 (by kernel_rfl) ?_;have HM':=Lib.hid (HM.out.drewN 1);clear HM;have HM:=HM';clear HM';have HS:=HM.out.sub (rs':=[(w.heap.size,a0,a1,a2,a3)]) (by simp);refine bF (i:=0) (v:=.int .i64 f) rfl (by kernel_rfl) (by kernel_rfl) (by kernel_rfl) (by kernel_rfl) (fun _ _ _ h=>h) HS (Or.inl ⟨by kernel_rfl,fun wx hx => ?_⟩) ?_
 ·clear HS hx;go_simp
 simp only[Act.put,List.setIfInBounds_toArray,List.set_cons_zero,List.set_cons_succ];refine bF (i:=2) (v:=.agg #[.int .u64 a0,.int .u64 a1,.int .u64 a2,.int .u64 a3]) rfl (by kernel_rfl) (by kernel_rfl) (by kernel_rfl) (by kernel_rfl) (fun _ _ _ h=>h) HS (Or.inl ⟨by kernel_rfl,fun wx hx => ?_⟩) ?_
 ·have kr:=hx.row (b:=w.heap.size) (c0:=a0) (c1:=a1) (c2:=a2) (c3:=a3) (by simp);have x0:=kr.c0; have x1:=kr.c1; have x2:=kr.c2; have x3:=kr.c3;clear kr HS hx;go_simp
 simp only[Act.put,List.setIfInBounds_toArray,List.set_cons_zero,List.set_cons_succ];clear HS;refine cF (i:=1) (by kernel_rfl) rfl (fun K hK => ?_);go_simp;refine (IE 1 (by omega) _).mono ?_
 rintro e w1 ⟨rfl,hbl⟩
 have HM':=Lib.hid (HM.out.on hbl);clear HM hbl;have HM:=HM';clear HM';have HS:=HM.out.sub (rs':=[(w.heap.size,a0,a1,a2,a3)]) (by simp);refine hK.out _ _ (Or.inr HS) (fun _ => ?_);clear hK K;clear HS;refine cF (i:=3) (by kernel_rfl) rfl (fun K hK => ?_);go_simp;refine (HD.out _).mono ?_
 rintro e w2 ⟨s0,s1,s2,s3,rfl,hs,hv,hbl⟩
 have HVs:=Lib.hid hv;clear hv;have HM':=Lib.hid (HM.out.on hbl);clear HM hbl;have HM:=HM';clear HM';have HS:=HM.out.sub (rs':=[(w.heap.size,a0,a1,a2,a3)]) (by simp);refine hK.out _ _ (Or.inr HS) (fun _ => ?_);clear hK K;refine bF (i:=4) (v:=.agg #[.int .u64 s0,.int .u64 s1,.int .u64 s2,.int .u64 s3]) rfl (by kernel_rfl) (by kernel_rfl) (by kernel_rfl) (by kernel_rfl) (fun _ _ _ h=>h) HS (Or.inl ⟨by kernel_rfl,fun wx hx => ?_⟩) ?_
 ·clear HS hx;go_simp
 simp only[Act.put,List.setIfInBounds_toArray,List.set_cons_zero,List.set_cons_succ];refine bF (i:=5) (v:=.int .i64 c) rfl (by kernel_rfl) (by kernel_rfl) (by kernel_rfl) (by kernel_rfl) (fun _ _ _ h=>h) HS (Or.inl ⟨by kernel_rfl,fun wx hx => ?_⟩) ?_
 ·clear HS hx;go_simp
 simp only[Act.put,List.setIfInBounds_toArray,List.set_cons_zero,List.set_cons_succ];clear HS;have kr:=HM.out.row (b:=w.heap.size+1) (c0:=0) (c1:=0) (c2:=0) (c3:=0) (by simp);have y0:=kr.c0; have y1:=kr.c1; have y2:=kr.c2; have y3:=kr.c3; have yf:=kr.fr;clear kr;have yl:=HM.out.lt (b:=w.heap.size+1) (c0:=0) (c1:=0) (c2:=0) (c3:=0) (by simp);refine cF (i:=6) (by kernel_rfl) rfl (fun K hK => ?_);go_simp;have HM':=Lib.hid ((HM.out.sub (rs':=[(w.heap.size+1,0,0,0,0),(w.heap.size,a0,a1,a2,a3)]) (by simp)).put s0 s1 s2 s3 (by omega) (by intro r hr; simp at hr; rcases hr with rfl<;>simp<;>omega));clear HM;have HM:=HM';clear HM';have HS:=HM.out.sub (rs':=[(w.heap.size,a0,a1,a2,a3)]) (by simp);refine hK.out _ _ (Or.inr HS) (fun _ => ?_);clear hK K;clear HS;refine cF (i:=7) (by kernel_rfl) rfl (fun K hK => ?_);go_simp;refine hK.out _ _ (Or.inl rfl) (fun _ => ?_);clear hK K;refine pC (by kernel_rfl) ?_;go_wp2_with fail;refine bodyPost_ret (v:=.tuple #[.agg #[.int .u64 s0,.int .u64 s1,.int .u64 s2,.int .u64 s3],.int .i64 c]) (by simp[results,results256,go_sem, *]) rfl ?_;exact⟨_,_,_,_,rfl,hs,HVs.out,HM.out.1⟩
theorem KIs.set4 {w:World} {b d:Nat} {F:FC} (h:KIs w b F) (hd:d≠b) (d0 d1 d2 d3:Nat):KIs (Go.Proofs.YtglgakbkdjhojaaGreat.set4 w d d0 d1 d2 d3) b F:=(((h.other hd _).other hd _).other hd _).other hd _
section
variable {M g:Nat}
end
theorem Bad1.ne {f c:Int} {A:Nat} (h:Bad1 f A c):c≠0:=by rcases h with⟨_,_,h⟩|⟨_,_,_,h⟩<;>omega
theorem Bad2.ne {f c:Int} {A B:Nat} (h:Bad2 f A B c):c≠0:=by
 rcases h with h|⟨_,_,_,_,h⟩
 ·exact h.ne
 ·omega
theorem FieldIs.uniq {f:Int} {F G:FC} (h:FieldIs f F) (k:FieldIs f G):F=G:=by
 rcases h with⟨h,rfl⟩|⟨h,rfl⟩<;>rcases k with⟨k,rfl⟩|⟨k,rfl⟩<;>first|rfl|omega
def jT (A:Nat→Nat→Nat) (j:Nat):Nat:=aG (A j 0) (A j 1) (A j 2) (A j 3)
set_option maxRecDepth 20000 in
set_option maxHeartbeats 4000000 in
theorem Gz (p:Option Addr) (cap b:Nat) (w:World) :
  Calls prog 56 #[.pointer (some ⟨b,0,none⟩),.slice p 0 cap] w fun e w'=>e=.returned (.bool true)∧w'=w:=by
 go_enter func56,ntmps56
 go_wp2_with fail;refine wp_loop_rounds 2 ?_;rw[rounds_succ];go_wp2_with fail;go_ret;exact⟨rfl,rfl⟩
def FIs (W:World) (o:Option Addr) (len:Nat) (A:Nat→Nat→Nat):Prop:=len*32≤140737488351232∧LOk len A∧(0<len→∃g off,o=some ⟨g,off,none⟩∧g<W.heap.size∧LAt W g off len A)
theorem FIs.on {W w:World} {o:Option Addr} {len:Nat} {A:Nat→Nat→Nat} (h:FIs W o len A) (hb:Below W.heap.size W w):FIs w o len A:=by
 refine⟨h.1,h.2.1,fun hl => ?_⟩;obtain⟨g,off,e,hg,hc⟩:=h.2.2 hl;exact⟨g,off,e,Nat.lt_of_lt_of_le hg hb.size,hc.same (fun _=>hg) hb⟩
def vM (M:Nat) (len:Nat) (A:Nat→Nat→Nat):Prop:=∀k,k<len→jT A k<M
theorem rC (F:FC) (hF:F.Ok) (b:Nat) (o:Option Addr) (len cap:Nat) (A:Nat→Nat→Nat) (w:World) (hk:KIs w b F) (h:FIs w o len A) :
  Calls prog 56 #[.pointer (some ⟨b,0,none⟩),.slice o len cap] w fun e w'=>(∃t:Bool,e=.returned (.bool t)∧(t=true↔vM F.M len A))∧Below w.heap.size w w':=by
 by_cases h0:0<len
 ·obtain⟨g,off,rfl,hg,hc⟩:=h.2.2 h0;exact RT F hF b g off len cap A h.2.1 (by have:=h.1; omega) w hk (fun _=>hg) hc
 ·obtain rfl:len=0:=by omega
  refine (Gz o cap b w).mono ?_
  rintro e w' ⟨he,rfl⟩
  exact⟨⟨true,he,fun _ k hk=>absurd hk (by omega),fun _=>rfl⟩,Below.refl _ _⟩
def pU (M:Nat) (X Y:Nat→Nat):Nat→Nat
 | 0=>0
 | n+1=>(pU M X Y n+X n*Y n)%M
theorem SN {M:Nat} (h:0<M) (X Y:Nat→Nat):∀n,pU M X Y n<M
 | 0=>h
 | n+1=>Nat.mod_lt _ h
theorem aDZ {F:FC} (hF:F.Ok) {s x y d:Nat} (h:s*F.R%F.M=d):(s+x*y*F.Ri%F.M)%F.M*F.R%F.M=(d+x*y)%F.M:=by
 have e1:(s+x*y*F.Ri%F.M)%F.M*F.R%F.M=(s*F.R+x*y*F.Ri*F.R)%F.M:=by
  rw[Nat.mod_mul_mod,Nat.add_mul,Nat.add_mod,Nat.mod_mul_mod,←Nat.add_mod]
 have e2:x*y*F.Ri*F.R%F.M=x*y%F.M:=by rw[Nat.mul_right_comm]; exact tZ hF _
 rw[e1,Nat.add_mod,h,e2,Nat.add_mod_mod]
set_option maxHeartbeats 4000000 in
theorem Vj (f:Int) (F:FC) (hf:FieldIs f F) (p q:Option Addr) (la ca lb cb:Nat) (A B:Nat→Nat→Nat) (h1:la=lb) (h2:la≤65536) (hbad:¬(vM F.M la A∧vM F.M lb B)) (w:World) (hA:FIs w p la A) (hB:FIs w q lb B) :
  Calls prog 21 #[.int .i64 f,.slice p la ca,.slice q lb cb] w (Ji 21 0 w):=by
 subst h1;have HA:=Lib.hid hA;have HB:=Lib.hid hB;clear hA hB
 go_enter func21,ntmps21
 go_wp2_with fail;have HM:=Lib.hid ((Mem.nil w).new (w.heap.size) 0 0 0 0 25 (by simp));refine (eK f F hf _).mono ?_
 rintro e w1 ⟨rfl,hbl⟩
 have KK:=Lib.hid (KIs.new w1 F 115);have B1:=Lib.hid (HM.out.on hbl);clear HM hbl;have HM:=Lib.hid (show Mem w (w1.alloc (.cells #[.int .u64 F.m0,.int .u64 F.m1,.int .u64 F.m2,.int .u64 F.m3,.int .u64 F.inv,.int .u64 F.s0,.int .u64 F.s1,.int .u64 F.s2,.int .u64 F.s3] 115)) [(w.heap.size,0,0,0,0)]from B1.out.on ((Below.refl _ _).alloc (Nat.le_refl _) _));clear B1;have t1:decide ((65536:Int)<(la:Int))=false:=decide_eq_false (by omega);go_wp2_with fail;refine (rC F hf.ok w1.heap.size p la ca A _ KK.out (HA.out.on HM.out.1)).mono ?_
 rintro e w2 ⟨⟨t,rfl,ht⟩,hbl⟩
 by_cases ha:vM F.M la A
 ·obtain rfl:t=true:=ht.2 ha;have KK':=Lib.hid (KK.out.same hbl);have HM':=Lib.hid (HM.out.on hbl);clear hbl KK ht;have KK:=KK';clear KK';clear HM;have HM:=HM';clear HM';go_wp2_with fail;refine (rC F hf.ok w1.heap.size q la cb B _ KK.out (HB.out.on HM.out.1)).mono ?_
  rintro e w3 ⟨⟨t,rfl,ht⟩,hbl⟩
  obtain rfl:t=false:=by
   cases t with
   | false=>rfl
   | true=>exact absurd (ht.1 rfl) (fun h=>hbad ⟨ha,h⟩)
  have KK':=Lib.hid (KK.out.same hbl);have HM':=Lib.hid (HM.out.on hbl);clear hbl KK ht;have KK:=KK';clear KK';clear HM;have HM:=HM';clear HM';have kr:=HM.out.row (b:=w.heap.size) (c0:=0) (c1:=0) (c2:=0) (c3:=0) (by simp);have y0:=kr.c0; have y1:=kr.c1; have y2:=kr.c2; have y3:=kr.c3; have yf:=kr.fr;clear kr;have yl:=HM.out.lt (b:=w.heap.size) (c0:=0) (c1:=0) (c2:=0) (c3:=0) (by simp);go_wp2_with fail;refine bodyPost_ret (v:=.tuple #[.agg #[.int .u64 (0:Nat),.int .u64 (0:Nat),.int .u64 (0:Nat),.int .u64 (0:Nat)],.int .i64 21]) (by simp[results,results21,go_sem, *]) rfl ?_;refine⟨_,_,_,_,rfl,zok,rfl,?_⟩;exact bB HM.out.1 (Nat.le_refl _) 0 0 0 0
 ·obtain rfl:t=false:=by
   cases t with
   | false=>rfl
   | true=>exact absurd (ht.1 rfl) ha
  have KK':=Lib.hid (KK.out.same hbl);have HM':=Lib.hid (HM.out.on hbl);clear hbl KK ht;have KK:=KK';clear KK';clear HM;have HM:=HM';clear HM';have kr:=HM.out.row (b:=w.heap.size) (c0:=0) (c1:=0) (c2:=0) (c3:=0) (by simp);have y0:=kr.c0; have y1:=kr.c1; have y2:=kr.c2; have y3:=kr.c3; have yf:=kr.fr;clear kr;have yl:=HM.out.lt (b:=w.heap.size) (c0:=0) (c1:=0) (c2:=0) (c3:=0) (by simp);go_wp2_with fail;refine bodyPost_ret (v:=.tuple #[.agg #[.int .u64 (0:Nat),.int .u64 (0:Nat),.int .u64 (0:Nat),.int .u64 (0:Nat)],.int .i64 21]) (by simp[results,results21,go_sem, *]) rfl ?_;refine⟨_,_,_,_,rfl,zok,rfl,?_⟩;exact bB HM.out.1 (Nat.le_refl _) 0 0 0 0
set_option maxHeartbeats 4000000 in
theorem EG (f:Int) (F:FC) (hf:FieldIs f F) (p q:Option Addr) (la ca lb cb:Nat) (A B:Nat→Nat→Nat) (h1:la=lb) (h2:la≤65536) (ia:vM F.M la A) (ib:vM F.M lb B) (w:World) (hA:FIs w p la A) (hB:FIs w q lb B) :
  Calls prog 21 #[.int .i64 f,.slice p la ca,.slice q lb cb] w (Ji 0 (pU F.M (jT A) (jT B) la) w):=by
 subst h1;have hok:=hf.ok;have hpos:=hf.ok.pos;have IA:=Lib.hid ia;have IB:=Lib.hid ib;clear ia ib;have HA:=Lib.hid hA;have HB:=Lib.hid hB;clear hA hB
 go_enter func21,ntmps21
 go_wp2_with fail;have HM:=Lib.hid ((Mem.nil w).new (w.heap.size) 0 0 0 0 25 (by simp));refine (eK f F hf _).mono ?_
 rintro e w1 ⟨rfl,hbl⟩
 have KK:=Lib.hid (KIs.new w1 F 115);have B1:=Lib.hid (HM.out.on hbl);clear HM hbl;have HM:=Lib.hid (show Mem w (w1.alloc (.cells #[.int .u64 F.m0,.int .u64 F.m1,.int .u64 F.m2,.int .u64 F.m3,.int .u64 F.inv,.int .u64 F.s0,.int .u64 F.s1,.int .u64 F.s2,.int .u64 F.s3] 115)) [(w.heap.size,0,0,0,0)]from B1.out.on ((Below.refl _ _).alloc (Nat.le_refl _) _));clear B1;have t1:decide ((65536:Int)<(la:Int))=false:=decide_eq_false (by omega);go_wp2_with fail;refine (rC F hf.ok w1.heap.size p la ca A _ KK.out (HA.out.on HM.out.1)).mono ?_
 rintro e w2 ⟨⟨t,rfl,ht⟩,hbl⟩
 obtain rfl:t=true:=ht.2 IA.out;have KK':=Lib.hid (KK.out.same hbl);have HM':=Lib.hid (HM.out.on hbl);clear hbl KK ht;have KK:=KK';clear KK';clear HM;have HM:=HM';clear HM';go_wp2_with fail;refine (rC F hf.ok w1.heap.size q la cb B _ KK.out (HB.out.on HM.out.1)).mono ?_
 rintro e w3 ⟨⟨t,rfl,ht⟩,hbl⟩
 obtain rfl:t=true:=ht.2 IB.out;have KK':=Lib.hid (KK.out.same hbl);have HM':=Lib.hid (HM.out.on hbl);clear hbl KK ht;have KK:=KK';clear KK';clear HM;have HM:=HM';clear HM';go_wp2_with fail;have kl:w1.heap.size<w3.heap.size:=KK.out.lt;have ls:w.heap.size<w3.heap.size:=HM.out.lt (b:=w.heap.size) (c0:=0) (c1:=0) (c2:=0) (c3:=0) (by simp);have HM':=Lib.hid (HM.out.new w3.heap.size 0 0 0 0 25 rfl);have KK':=Lib.hid (KK.out.same ((Below.refl _ w3).alloc (Nat.le_refl _) (.cells #[.int .u64 (0:Nat),.int .u64 (0:Nat),.int .u64 (0:Nat),.int .u64 (0:Nat)] 25)));clear KK;have KK:=KK';clear KK';clear HM;have HM:=HM';clear HM';obtain⟨W5,hW5⟩:∃W5,W5=(w3.alloc (.cells #[.int .u64 (0:Nat),.int .u64 (0:Nat),.int .u64 (0:Nat),.int .u64 (0:Nat)] 25)):=⟨_,rfl⟩
 obtain⟨gs,hgs⟩:∃gs,gs=w3.heap.size:=⟨_,rfl⟩
 rw[←hgs]at HM kl ls ⊢;clear hgs hW5 W5
 go_loopw [43] (fun t wr=>∃(k s0 s1 s2 s3:Nat),k≤la∧t=.int .i64 k∧cQ s0 s1 s2 s3∧Hid (aG s0 s1 s2 s3<F.M∧aG s0 s1 s2 s3*F.R%F.M=pU F.M (jT A) (jT B) k)∧Hid (Mem w wr [(gs,s0,s1,s2,s3),(w.heap.size,0,0,0,0)])∧Hid (KIs wr w1.heap.size F)) (fun t _=>la-(intOf t).toNat)
 case atStart=>exact⟨0,0,0,0,0,Nat.zero_le _,rfl,zok,Lib.hid ⟨hpos,by rw[show aG 0 0 0 0=0 from rfl,Nat.zero_mul,Nat.zero_mod]; rfl⟩,HM,KK⟩
 case round =>
  clear HM KK;obtain⟨k,s0,s1,s2,s3,hk,rfl,hs,HV,HM,KK⟩:=hrel
  by_cases hlt:k<la
  ·obtain⟨g,off,rfl,hg,hla⟩:=HA.out.2.2 (by omega);obtain⟨g2,off2,rfl,hg2,hlb⟩:=HB.out.2.2 (by omega);obtain⟨a0,a1,a2,a3,e0,e1,e2,e3⟩:∃a0 a1 a2 a3:Nat,a0=A k 0∧a1=A k 1∧a2=A k 2∧a3=A k 3:=⟨_,_,_,_,rfl,rfl,rfl,rfl⟩
   obtain⟨b0,b1,b2,b3,d0,d1,d2,d3⟩:∃b0 b1 b2 b3:Nat,b0=B k 0∧b1=B k 1∧b2=B k 2∧b3=B k 3:=⟨_,_,_,_,rfl,rfl,rfl,rfl⟩
   have hoka:=HA.out.2.1 k hlt;have hokb:=HB.out.2.1 k hlt;have hva:jT A k=aG a0 a1 a2 a3:=by unfold jT; rw[←e0,←e1,←e2,←e3]
   have hvb:jT B k=aG b0 b1 b2 b3:=by unfold jT; rw[←d0,←d1,←d2,←d3]
   have hlb':aG b0 b1 b2 b3<F.M:=by rw[←hvb]; exact IB.out k hlt
   rw[←e0,←e1,←e2,←e3]at hoka;rw[←d0,←d1,←d2,←d3]at hokb;have HCA:=Lib.hid (show ∀wx,Below w.heap.size w wx→wx.cell? ⟨g,off+k*4,none⟩=some (.int .u64 (a0:Nat))∧wx.cell? ⟨g,off+k*4+1,none⟩=some (.int .u64 (a1:Nat))∧wx.cell? ⟨g,off+k*4+2,none⟩=some (.int .u64 (a2:Nat))∧wx.cell? ⟨g,off+k*4+3,none⟩=some (.int .u64 (a3:Nat))from fun wx hx=>by
    have q:=(hla.same (fun _=>hg) hx) k hlt;rw[←e0,←e1,←e2,←e3]at q;exact q)
   have HCB:=Lib.hid (show ∀wx,Below w.heap.size w wx→wx.cell? ⟨g2,off2+k*4,none⟩=some (.int .u64 (b0:Nat))∧wx.cell? ⟨g2,off2+k*4+1,none⟩=some (.int .u64 (b1:Nat))∧wx.cell? ⟨g2,off2+k*4+2,none⟩=some (.int .u64 (b2:Nat))∧wx.cell? ⟨g2,off2+k*4+3,none⟩=some (.int .u64 (b3:Nat))from fun wx hx=>by
    have q:=(hlb.same (fun _=>hg2) hx) k hlt;rw[←d0,←d1,←d2,←d3]at q;exact q)
   have HO:=Lib.hid (And.intro hoka hokb);have HE:=Lib.hid (And.intro hva (And.intro hvb hlb'));clear e0 e1 e2 e3 d0 d1 d2 d3 hla hlb hoka hokb hva hvb hlb';go_wp2_with fail;refine kW (fun wx=>Below wr.heap.size wr wx) 11 (by kernel_rfl) ?_;have HS:=bO wr.heap.size wr 1;have H8:=Lib.hid HS;refine bF (i:=0) (v:=.agg #[.int .u64 s0,.int .u64 s1,.int .u64 s2,.int .u64 s3]) rfl (by kernel_rfl) (by kernel_rfl) (by kernel_rfl) (by kernel_rfl) (fun _ _ _ h=>h) HS (Or.inl ⟨by kernel_rfl,fun wx hx => ?_⟩) ?_
   ·have kr:=(HM.out.on hx).row (b:=gs) (c0:=s0) (c1:=s1) (c2:=s2) (c3:=s3) (by simp);have x0:=kr.c0; have x1:=kr.c1; have x2:=kr.c2; have x3:=kr.c3;clear kr;clear HS hx;go_simp
   simp only[Act.put,List.setIfInBounds_toArray,List.set_cons_zero,List.set_cons_succ];refine bF (i:=1) (v:=.slice (some ⟨g,off,none⟩) la ca) rfl (by kernel_rfl) (by kernel_rfl) (by kernel_rfl) (by kernel_rfl) (fun _ _ _ h=>h) HS (Or.inl ⟨by kernel_rfl,fun wx hx => ?_⟩) ?_
   ·clear HS hx;go_simp
   simp only[Act.put,List.setIfInBounds_toArray,List.set_cons_zero,List.set_cons_succ];refine bF (i:=2) (v:=.int .i64 k) rfl (by kernel_rfl) (by kernel_rfl) (by kernel_rfl) (by kernel_rfl) (fun _ _ _ h=>h) HS (Or.inl ⟨by kernel_rfl,fun wx hx => ?_⟩) ?_
   ·clear HS hx;go_simp
   simp only[Act.put,List.setIfInBounds_toArray,List.set_cons_zero,List.set_cons_succ];refine bF (i:=3) (v:=.pointer (some ⟨g,off+k*4,none⟩)) rfl (by kernel_rfl) (by kernel_rfl) (by kernel_rfl) (by kernel_rfl) (fun _ _ _ h=>h) HS (Or.inl ⟨by kernel_rfl,fun wx hx => ?_⟩) ?_
   ·clear HS hx;go_simp
   simp only[Act.put,List.setIfInBounds_toArray,List.set_cons_zero,List.set_cons_succ];refine bF (i:=4) (v:=.agg #[.int .u64 a0,.int .u64 a1,.int .u64 a2,.int .u64 a3]) rfl (by kernel_rfl) (by kernel_rfl) (by kernel_rfl) (by kernel_rfl) (fun _ _ _ h=>h) HS (Or.inl ⟨by kernel_rfl,fun wx hx => ?_⟩) ?_
   ·have q:=HCA.out wx (HM.out.on hx).1;have x0:=q.1; have x1:=q.2.1; have x2:=q.2.2.1; have x3:=q.2.2.2;clear q;clear HS hx;go_simp
   simp only[Act.put,List.setIfInBounds_toArray,List.set_cons_zero,List.set_cons_succ];refine bF (i:=5) (v:=.slice (some ⟨g2,off2,none⟩) la cb) rfl (by kernel_rfl) (by kernel_rfl) (by kernel_rfl) (by kernel_rfl) (fun _ _ _ h=>h) HS (Or.inl ⟨by kernel_rfl,fun wx hx => ?_⟩) ?_
   ·clear HS hx;go_simp
   simp only[Act.put,List.setIfInBounds_toArray,List.set_cons_zero,List.set_cons_succ];refine bF (i:=6) (v:=.int .i64 k) rfl (by kernel_rfl) (by kernel_rfl) (by kernel_rfl) (by kernel_rfl) (fun _ _ _ h=>h) HS (Or.inl ⟨by kernel_rfl,fun wx hx => ?_⟩) ?_
   ·clear HS hx;go_simp
   simp only[Act.put,List.setIfInBounds_toArray,List.set_cons_zero,List.set_cons_succ];refine bF (i:=7) (v:=.pointer (some ⟨g2,off2+k*4,none⟩)) rfl (by kernel_rfl) (by kernel_rfl) (by kernel_rfl) (by kernel_rfl) (fun _ _ _ h=>h) HS (Or.inl ⟨by kernel_rfl,fun wx hx => ?_⟩) ?_
   ·clear HS hx;go_simp
   simp only[Act.put,List.setIfInBounds_toArray,List.set_cons_zero,List.set_cons_succ];refine bF (i:=8) (v:=.agg #[.int .u64 b0,.int .u64 b1,.int .u64 b2,.int .u64 b3]) rfl (by kernel_rfl) (by kernel_rfl) (by kernel_rfl) (by kernel_rfl) (fun _ _ _ h=>h) HS (Or.inl ⟨by kernel_rfl,fun wx hx => ?_⟩) ?_
   ·have q:=HCB.out wx (HM.out.on hx).1;have x0:=q.1; have x1:=q.2.1; have x2:=q.2.2.1; have x3:=q.2.2.2;clear q;clear HS hx;go_simp
   simp only[Act.put,List.setIfInBounds_toArray,List.set_cons_zero,List.set_cons_succ];clear HS;refine cF (i:=9) (by kernel_rfl) rfl (fun K hK => ?_);go_simp;refine (iL F hok w1.heap.size a0 a1 a2 a3 b0 b1 b2 b3 HO.out.1 HO.out.2 HE.out.2.2 _ (KK.out.same H8.out)).mono ?_
   rintro e v1 ⟨p0,p1,p2,p3,rfl,hp,hv,hbl⟩
   have HVp:=Lib.hid hv;clear hv;have HS:=H8.out.trans (hbl.mono H8.out.size);clear H8 hbl;have H8:=Lib.hid HS;refine hK.out _ _ (Or.inr HS) (fun _ => ?_);clear hK K;clear HS;refine cF (i:=10) (by kernel_rfl) rfl (fun K hK => ?_);go_simp;refine (GK F hok w1.heap.size s0 s1 s2 s3 p0 p1 p2 p3 hs hp HV.out.1 (by rw[HVp.out]; exact Nat.mod_lt _ hpos) _ (KK.out.same H8.out)).mono ?_
   rintro e v2 ⟨u0,u1,u2,u3,rfl,hu,hv,hbl⟩
   have HVu:=Lib.hid (show aG u0 u1 u2 u3<F.M∧aG u0 u1 u2 u3*F.R%F.M=pU F.M (jT A) (jT B) (k+1) by
    rw[hv,HVp.out];refine⟨Nat.mod_lt _ hpos,?_⟩;rw[aDZ hok HV.out.2,←HE.out.1,←HE.out.2.1];rfl)
   clear hv;have HS:=H8.out.trans (hbl.mono H8.out.size);clear H8 hbl;have H8:=Lib.hid HS;refine hK.out _ _ (Or.inr HS) (fun _ => ?_);clear hK K;clear HS;have HM':=Lib.hid (HM.out.on H8.out);have KK':=Lib.hid (KK.out.same H8.out);clear HM KK H8;have HM:=HM';have KK:=KK';clear HM' KK';have kr:=HM.out.row (b:=gs) (c0:=s0) (c1:=s1) (c2:=s2) (c3:=s3) (by simp);have y0:=kr.c0; have y1:=kr.c1; have y2:=kr.c2; have y3:=kr.c3; have yf:=kr.fr;clear kr;have yl:=HM.out.lt (b:=gs) (c0:=s0) (c1:=s1) (c2:=s2) (c3:=s3) (by simp);refine cF (i:=11) (by kernel_rfl) rfl (fun K hK => ?_);go_simp;have HM':=Lib.hid (HM.out.put u0 u1 u2 u3 (by omega) (by intro r hr; simp at hr; subst hr; show w.heap.size≠gs; omega));have KK':=Lib.hid (KK.out.set4 (d:=gs) (by omega) u0 u1 u2 u3);clear HM KK;have HM:=HM';have KK:=KK';clear HM' KK';refine hK.out _ _ (Or.inl rfl) (fun _ => ?_);clear hK K;refine pC (by kernel_rfl) ?_;go_wp2_with fail
   go_roundw
   case rel=>exact⟨k+1,u0,u1,u2,u3,by omega,by go_num,hu,HVu,HM,KK⟩
   case measure=>simp[intOf]; omega
  ·obtain rfl:la=k:=by omega
   obtain⟨wo,rfl⟩:∃wo,wo=wr:=⟨_,rfl⟩
   have kr:=HM.out.row (b:=gs) (c0:=s0) (c1:=s1) (c2:=s2) (c3:=s3) (by simp);have x0:=kr.c0; have x1:=kr.c1; have x2:=kr.c2; have x3:=kr.c3;clear kr;have xl:=HM.out.lt (b:=gs) (c0:=s0) (c1:=s1) (c2:=s2) (c3:=s3) (by simp);clear hk hlt;go_wp2_with fail;refine (qZ F hok w1.heap.size s0 s1 s2 s3 hs _ KK.out).mono ?_
   rintro e w4 ⟨u0,u1,u2,u3,rfl,hu,hv,hbl⟩
   have HVu:=Lib.hid (show aG u0 u1 u2 u3=pU F.M (jT A) (jT B) la by rw[hv]; exact HV.out.2);have HM':=Lib.hid (HM.out.on hbl);clear hv hbl x0 x1 x2 x3 xl;clear HM;have HM:=HM';clear HM';have kr:=HM.out.row (b:=w.heap.size) (c0:=0) (c1:=0) (c2:=0) (c3:=0) (by simp);have y0:=kr.c0; have y1:=kr.c1; have y2:=kr.c2; have y3:=kr.c3; have yf:=kr.fr;clear kr;have yl:=HM.out.lt (b:=w.heap.size) (c0:=0) (c1:=0) (c2:=0) (c3:=0) (by simp);go_wp2_with fail;refine bodyPost_ret (v:=.tuple #[.agg #[.int .u64 u0,.int .u64 u1,.int .u64 u2,.int .u64 u3],.int .i64 0]) (by simp[results,results21,go_sem, *]) rfl ?_;refine⟨_,_,_,_,rfl,hu,HVu.out,?_⟩;exact bB HM.out.1 (Nat.le_refl _) _ _ _ _
structure LW (w wr:World) (s0 s1 s2 s3 a0 a1 a2 a3 b0 b1 b2 b3:Nat):Prop where
 below:Below w.heap.size w wr
 size:w.heap.size+1+1+1<wr.heap.size
 rowS:Row4 wr w.heap.size s0 s1 s2 s3
 rowA:Row4 wr (w.heap.size+1) a0 a1 a2 a3
 rowB:Row4 wr (w.heap.size+1+1) b0 b1 b2 b3
 rowO:Row4 wr (w.heap.size+1+1+1) 0 0 0 0
theorem aEO (w:World) (o1 o2 o3 o4:Obj):Below w.heap.size w ((((w.alloc o1).alloc o2).alloc o3).alloc o4) :=
 (Hw w o1 o2 o3).alloc (by simp; omega) o4
def Xp (a0 a1 a2 a3:Nat):Nat→Nat
 | 0=>0
 | 1=>a3
 | 2=>a3*18446744073709551616+a2
 | 3=>(a3*18446744073709551616+a2)*18446744073709551616+a1
 | _=>((a3*18446744073709551616+a2)*18446744073709551616+a1)*18446744073709551616+a0
def UU (a0 a1 a2 a3:Nat):Nat→Nat
 | 0=>a3
 | 1=>a2
 | 2=>a1
 | _=>a0
theorem Px (a0 a1 a2 a3:Nat) {k:Nat} (h:k<4):Xp a0 a1 a2 a3 (k+1)=Xp a0 a1 a2 a3 k*18446744073709551616+UU a0 a1 a2 a3 k:=by
 match k,h with
 | 0,_=>simp[Xp,UU]
 | 1,_=>rfl
 | 2,_=>rfl
 | 3,_=>rfl
theorem Xa {a0 a1 a2 a3:Nat} (h:cQ a0 a1 a2 a3) (k:Nat):UU a0 a1 a2 a3 k<18446744073709551616:=by
 obtain⟨h0,h1,h2,h3⟩:=h
 match k with
 | 0=>exact h3
 | 1=>exact h2
 | 2=>exact h1
 | k+3=>exact h0
theorem aCn (n m x b:Nat):((n%b)*m+x)%b=(n*m+x)%b:=by
 rw[Nat.add_mod,Nat.mul_mod,Nat.mod_mod,←Nat.mul_mod,←Nat.add_mod]
def TIn (R b:Nat) (a0 a1 a2 a3 k v:Nat):Prop:=v<b∧v=(R*18446744073709551616^k+Xp a0 a1 a2 a3 k)%b
theorem Xy {R b k v x:Nat} {a0 a1 a2 a3:Nat} (h:TIn R b a0 a1 a2 a3 k v) (hk:k<4) (hb:0<b) (hx:x=UU a0 a1 a2 a3 k):TIn R b a0 a1 a2 a3 (k+1) ((v*18446744073709551616+x)%b):=by
 refine⟨Nat.mod_lt _ hb,?_⟩;rw[h.2,aCn,Px _ _ _ _ hk,hx,Nat.pow_succ,Nat.add_mul,Nat.mul_assoc,Nat.add_assoc]
theorem aGb {R b v:Nat} {a0 a1 a2 a3:Nat} (h:TIn R b a0 a1 a2 a3 4 v):v=(R*115792089237316195423570985008687907853269984665640564039457584007913129639936+aG a0 a1 a2 a3)%b:=by
 rw[h.2,show 18446744073709551616^4=115792089237316195423570985008687907853269984665640564039457584007913129639936 by simp,show Xp a0 a1 a2 a3 4=aG a0 a1 a2 a3 by show ((a3*18446744073709551616+a2)*18446744073709551616+a1)*18446744073709551616+a0=_; unfold aG; omega]
theorem aAk {w:World} {g:Nat} {a0 a1 a2 a3:Nat} (rA:Row4 w g a0 a1 a2 a3) (k:Nat) (hk:k<4):∃j x,j+k=3∧x=UU a0 a1 a2 a3 k∧w.cell? ⟨g,j,none⟩=some (.int .u64 (x:Nat)):=by
 match k,hk with
 | 0,_=>exact⟨3,_,rfl,rfl,rA.c3⟩
 | 1,_=>exact⟨2,_,rfl,rfl,rA.c2⟩
 | 2,_=>exact⟨1,_,rfl,rfl,rA.c1⟩
 | 3,_=>exact⟨0,_,rfl,rfl,rA.c0⟩
set_option maxHeartbeats 1000000 in
theorem xG (r0 r1 r2 r3 a0 a1 a2 a3 b0 b1 b2 b3:Nat) (hr:cQ r0 r1 r2 r3) (ha:cQ a0 a1 a2 a3) (hb:cQ b0 b1 b2 b3) (h3:9223372036854775808≤b3) (hlt:aG r0 r1 r2 r3<aG b0 b1 b2 b3) (w:World) :
  Calls prog 265 #[.agg #[.int .u64 r0,.int .u64 r1,.int .u64 r2,.int .u64 r3],.agg #[.int .u64 a0,.int .u64 a1,.int .u64 a2,.int .u64 a3],.agg #[.int .u64 b0,.int .u64 b1,.int .u64 b2,.int .u64 b3]] w (cZ (fun n=>n=(aG r0 r1 r2 r3*115792089237316195423570985008687907853269984665640564039457584007913129639936+aG a0 a1 a2 a3)%aG b0 b1 b2 b3) w):=by
 go_enter func265,ntmps265
 go_wp2_with fail
 go_loopw [8] (fun i wr=>∃k s0 s1 s2 s3:Nat,k≤4∧i=.int .i64 k∧cQ s0 s1 s2 s3∧Hid (TIn (aG r0 r1 r2 r3) (aG b0 b1 b2 b3) a0 a1 a2 a3 k (aG s0 s1 s2 s3))∧LW w wr s0 s1 s2 s3 a0 a1 a2 a3 b0 b1 b2 b3) (fun i _=>4-(intOf i).toNat)
 case atStart =>
  refine⟨0,r0,r1,r2,r3,by omega,rfl,hr,Lib.hid ⟨hlt,by show _=(_*18446744073709551616^0+0)%_; rw[Nat.pow_zero,Nat.mul_one,Nat.add_zero,Nat.mod_eq_of_lt hlt]⟩,⟨aEO _ _ _ _ _,by simp,?_,?_,?_,?_⟩⟩
  all_goals exact⟨by simp[go_sem],by simp[go_sem],by simp[go_sem],by simp[go_sem],fun k=>by simp[go_sem]⟩
 case round =>
  obtain⟨k,s0,s1,s2,s3,hk,rfl,hs,ti,lw⟩:=hrel;have hsz:=lw.size;obtain⟨x0,x1,x2,x3,xf⟩:=lw.rowS;obtain⟨z0,z1,z2,z3,zf⟩:=lw.rowB
  by_cases hlt':k<4
  ·obtain⟨j,x,hj,hx,cx⟩:=aAk lw.rowA k hlt';have wj:IntKind.i64.wrap (3-(k:Int))=(j:Int):=by simp[IntKind.wrap,IntKind.bits,IntKind.signed]; omega
   have bj:(j:Int)<4:=by omega
   have bx:x<18446744073709551616:=by rw[hx]; exact Xa ha k
   have Hx:=Lib.hid hx;have HL:=Lib.hid lw;clear lw hx hj;go_wp2_with fail;refine wp_region_still_tail 6 (by kernel_rfl) (by kernel_rfl) ?_;simp only[List.take_succ_cons,List.take_zero,List.drop_succ_cons,List.drop_zero];change wpStill _ _ wr.drew _ _ _
   repeat still_step
   refine wpStill_nil ?_;change wpList _ _ _ _ _ wr.drew;go_wp2_with fail;refine (FJ s0 s1 s2 s3 x b0 b1 b2 b3 hs bx hb h3 ti.out.1 _).mono ?_
   rintro e w3 ⟨n0,n1,n2,n3,rfl,hn,en,hbl⟩
   have hz3:wr.heap.size≤w3.heap.size:=hbl.size;have S3:=HL.out.rowS.drewN 1 |>.below hbl (show w.heap.size<wr.heap.size by omega)
   have T3:LW w (set4 w3 w.heap.size n0 n1 n2 n3) n0 n1 n2 n3 a0 a1 a2 a3 b0 b1 b2 b3 :=
    ⟨bB ((HL.out.below.drew).trans (hbl.mono HL.out.below.size)) (Nat.le_refl _) _ _ _ _,by unfold set4; simp only[World.size_setCell]; omega,S3.set4 _ _ _ _,
     (HL.out.rowA.drewN 1 |>.below hbl (show w.heap.size+1<wr.heap.size by omega)).set4_other (by omega) _ _ _ _,
     (HL.out.rowB.drewN 1 |>.below hbl (show w.heap.size+1+1<wr.heap.size by omega)).set4_other (by omega) _ _ _ _,
     (HL.out.rowO.drewN 1 |>.below hbl (show w.heap.size+1+1+1<wr.heap.size by omega)).set4_other (by omega) _ _ _ _⟩
   have HT:=Lib.hid T3;have Hti:=Lib.hid (Xy ti.out hlt' (by have:=ti.out.1; omega) Hx.out);rw[←en]at Hti;obtain⟨v0,v1,v2,v3,vf⟩:=S3;clear hbl en T3 ti;go_wp2_with fail
   go_roundw
   case rel=>exact⟨k+1,n0,n1,n2,n3,by omega,by go_num,hn,Hti,HT.out⟩
   case measure=>simp[intOf]; omega
  ·obtain rfl:k=4:=by omega
   have HF:=Lib.hid (aGb ti.out);obtain⟨o0,o1,o2,o3,of⟩:=lw.rowO;have HB:=Lib.hid lw.below;clear ti lw;go_wp2_with fail;refine bodyPost_ret (v:=.agg #[.int .u64 s0,.int .u64 s1,.int .u64 s2,.int .u64 s3]) (by simp[results,results265,go_sem, *]) rfl ?_;exact⟨s0,s1,s2,s3,rfl,hs,HF.out,bB HB.out (by omega) _ _ _ _⟩
end Go.Proofs.YtglgakbkdjhojaaGreat
