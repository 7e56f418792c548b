/- Pt04 -/
import Derived.LoopTactic
import Derived.Outline
import Derived.OrdersHeld
import Derived.Deep.RegionHeld
import Derived.KernelRfl
import Derived.Deep.DeepCutAuto
import Derived.Test.YtjjnbgoepbiojaaPt03
import Derived.Test.YtjjnbgoepbiojaaPt02
import Derived.Test.YtjjnbgoepbiojaaProg
set_option maxRecDepth 100000
set_option linter.unusedVariables false
set_option linter.unusedSimpArgs false
set_option linter.unnecessarySimpa false
noncomputable section
namespace Go.Proofs.Ytjjnbgoepbiojaa
open Go.Proofs.Try
open Go.RowKit
theorem SD {y:Nat} (h0:0<y) (hy:y<18446744073709551616):∃S:Nat,(∀w,Calls prog 111 #[.int .u64 y] w fun e w'=>e=.returned (.int .i64 S)∧w'=w)∧S≤64∧Hid (LenIs y S):=by
 obtain⟨hl,ha,hb,hk⟩:=Iw h0 hy;refine⟨y.log2+1,fun w => ?_,by omega,Lib.hid ⟨hb,fun _=>ha⟩⟩;have:=Try.bits_Len64 (y:Int) w (by omega) (by omega);rw[Int.toNat_natCast,hl]at this;exact this
theorem AB (a0 a1 a2 a3:Nat) (w:World):(Instr.index 85 (.agg #[.int .u64 a0,.int .u64 a1,.int .u64 a2,.int .u64 a3]) (.int .i64 (0:Nat))).run prog w=.ok (.int .u64 (a0:Nat)) w:=by kernel_rfl
theorem AA (a0 a1 a2 a3:Nat) (w:World):(Instr.index 85 (.agg #[.int .u64 a0,.int .u64 a1,.int .u64 a2,.int .u64 a3]) (.int .i64 (1:Nat))).run prog w=.ok (.int .u64 (a1:Nat)) w:=by kernel_rfl
theorem zZ (a0 a1 a2 a3:Nat) (w:World):(Instr.index 85 (.agg #[.int .u64 a0,.int .u64 a1,.int .u64 a2,.int .u64 a3]) (.int .i64 (2:Nat))).run prog w=.ok (.int .u64 (a2:Nat)) w:=by kernel_rfl
theorem zY (a0 a1 a2 a3:Nat) (w:World):(Instr.index 85 (.agg #[.int .u64 a0,.int .u64 a1,.int .u64 a2,.int .u64 a3]) (.int .i64 (3:Nat))).run prog w=.ok (.int .u64 (a3:Nat)) w:=by kernel_rfl
theorem EB (a0 a1 a2 a3 k:Nat) (hk:k<4) (w:World):(Instr.index 85 (.agg #[.int .u64 a0,.int .u64 a1,.int .u64 a2,.int .u64 a3]) (.int .i64 (k:Nat))).run prog w=.ok (.int .u64 (eK [a0,a1,a2,a3] k:Nat)) w:=by
 match k,hk with
 | 0,_=>exact AB a0 a1 a2 a3 w
 | 1,_=>exact AA a0 a1 a2 a3 w
 | 2,_=>exact zZ a0 a1 a2 a3 w
 | 3,_=>exact zY a0 a1 a2 a3 w
def Cn (A:Nat) (w:World) (e:Ending) (w':World):Prop :=
 ∃L:Nat,e=.returned (.int .i64 L)∧L≤256∧LenIs A L∧Below w.heap.size w w'
theorem QS {A:Nat→Nat} {k L S:Nat} (hA:∀j,j<k→A j<18446744073709551616) (h0:0<A k) (hS:LenIs (A k) S):LenIs (cU 18446744073709551616 A (k+1)) (64*k+S):=by
 have h1:=DL 18446744073709551616 A (by omega) k hA;rw[show 18446744073709551616^k=2^(64*k) by rw[Nat.pow_mul]]at h1;rw[bI,show 18446744073709551616^k=2^(64*k) by rw[Nat.pow_mul]];exact LenIs.up h1 h0 hS
theorem LN (a0 a1 a2 a3:Nat) (ha:bY a0 a1 a2 a3) (w:World) :
  Calls prog 104 #[.agg #[.int .u64 a0,.int .u64 a1,.int .u64 a2,.int .u64 a3]] w (Cn (aC a0 a1 a2 a3) w):=by
 have lA:∀k,eK [a0,a1,a2,a3] k<18446744073709551616:=fun k=>by
  obtain⟨h0,h1,h2,h3⟩:=ha;unfold eK
  match k with
  | 0=>exact h0
  | 1=>exact h1
  | 2=>exact h2
  | 3=>exact h3
  | k+4=>simp
 obtain⟨A,eA⟩:∃A,A=eK [a0,a1,a2,a3]:=⟨_,rfl⟩
 have hix:=fun k hk w=>EB a0 a1 a2 a3 k hk w
 rw[←eA]at lA;simp only[←eA]at hix;have hv:aC a0 a1 a2 a3=cU 18446744073709551616 A 4:=by rw[←lI,eA]; rfl
 have HV:=Lib.hid hv; have HlA:=Lib.hid lA; have Hix:=Lib.hid hix;clear eA lA hv hix
 go_enter func104,ntmps104
 go_wp2_with fail
 go_loop [3,7] (fun l i=>∃k L:Nat,k≤4∧i=.int .i64 k∧l=.int .i64 L∧L≤64*k∧Hid (LenIs (cU 18446744073709551616 A k) L)) (fun _ i=>4-(intOf i).toNat)
 case atStart=>exact⟨0,0,by omega,rfl,rfl,by omega,Lib.hid LenIs.zero⟩
 case round =>
  obtain⟨k,L,hk,rfl,rfl,hL,hl⟩:=hrel
  by_cases hlt:k<4
  ·obtain⟨x,ex⟩:∃x,x=A k:=⟨_,rfl⟩
   have hx:=Hix.out k hlt;rw[←ex]at hx;have bx:x<18446744073709551616:=by rw[ex]; exact HlA.out k
   rcases Nat.eq_zero_or_pos x with h0|h0
   ·have t0:((x:Int) != 0)=false:=by simp[h0]
    have HN:Hid (LenIs (cU 18446744073709551616 A (k+1)) L):=Lib.hid (by rw[bI,←ex,h0,Nat.zero_mul,Nat.add_zero]; exact hl.out);clear h0 ex;go_wp2_with fail
    go_round
    case rel=>exact⟨k+1,L,by omega,by go_num,rfl,by omega,HN⟩
    case measure=>simp[intOf]; omega
   ·have t0:((x:Int) != 0)=true:=by simp; omega
    obtain⟨S,rS,bS,hS⟩:=SD h0 bx;have HN:Hid (LenIs (cU 18446744073709551616 A (k+1)) (64*k+S)):=Lib.hid (QS (L:=L) (fun j _=>HlA.out j) (by omega) (by rw[←ex]; exact hS.out));clear h0 ex;go_wp2_with fail;refine (rS _).mono ?_
    rintro e w' ⟨rfl,rfl⟩
    go_wp2_with fail
    go_round
    case rel=>exact⟨k+1,64*k+S,by omega,by go_num,by go_num,by omega,HN⟩
    case measure=>simp[intOf]; omega
  ·obtain rfl:k=4:=by omega
   go_wp2_with fail;go_ret;exact⟨L,rfl,by omega,by rw[HV.out]; exact hl.out,(Below.refl _ _).alloc (Nat.le_refl _) _⟩
def iO (A i:Nat):Nat:=A/2^i%2
theorem oS (A i:Nat):iO A i=0∨iO A i=1:=by unfold iO; omega
theorem KL (R:Nat) (P:Nat→Nat) (n:Nat):cU R P (n+1)=P 0+R*cU R (fun k=>P (1+k)) n:=by
 have:=oY R P 1 n;rw[Nat.add_comm n 1,this];simp[cU]
theorem NE (P:Nat→Nat) (hP:∀k,P k<18446744073709551616) (n j k:Nat) (hj:j<n) (hk:k<64):iO (cU 18446744073709551616 P n) (64*j+k)=P j/2^k%2:=by
 obtain⟨m,rfl⟩:∃m,n=j+(m+1):=⟨n-j-1,by omega⟩
 have h1:=oY 18446744073709551616 P j (m+1);have h2:=KL 18446744073709551616 (fun k=>P (j+k)) m;have h3:=DL 18446744073709551616 P (by omega) j (fun k _=>hP k);unfold iO;rw[h1,h2,AZ,←Nat.div_div_eq_div_mul,Nat.add_mul_div_left _ _ (by exact Nat.pow_pos (by omega)),Nat.div_eq_of_lt h3,Nat.zero_add];have e:18446744073709551616=2^k*(2*2^(63-k)):=by
  rw[←Nat.pow_succ',←Nat.pow_add,show k+(63-k).succ=64 by omega]
 show (P j+18446744073709551616*_)/2^k%2=_;generalize cU 18446744073709551616 (fun k=>P (j+(1+k))) m=H;rw[show 18446744073709551616*H=2^k*(2*2^(63-k))*H by rw[←e],Nat.mul_assoc,Nat.add_mul_div_left _ _ (by exact Nat.pow_pos (by omega)),Nat.mul_assoc,Nat.add_mul_mod_self_left]
theorem Ec {i:Nat} (h:i<256):∃j k:Nat,(i:Int)/64=(j:Int)∧(i:Int)%64=(k:Int)∧j<4∧k<64∧Hid (i=64*j+k) :=
 ⟨i/64,i%64,by omega,by omega,by omega,by omega,Lib.hid (by omega)⟩
theorem MP (x:Nat) (hx:x<18446744073709551616):bits .and .u64 (x:Int) 1=((x%2:Nat):Int):=by
 rw[show (1:Int)=((1:Nat):Int)from rfl,bits_and_u64_nat _ _ hx (by omega),Nat.and_one_is_mod]
theorem SF {x k b:Nat} (hx:x<18446744073709551616) (hb:x/2^k%2=b):∃s:Nat,(x:Int)/2^k=(s:Int)∧bits .and .u64 (s:Int) 1=(b:Int)∧s<18446744073709551616:=by
 have hs:x/2^k<18446744073709551616:=Nat.lt_of_le_of_lt (Nat.div_le_self _ _) hx;exact⟨x/2^k,by rw[Int.natCast_ediv,Int.natCast_pow]; rfl,by rw[MP _ hs,hb],hs⟩
theorem uM (A i:Nat):A/2^i=2*(A/2^(i+1))+iO A i:=by
 unfold iO;rw[Nat.pow_succ,←Nat.div_div_eq_div_mul];omega
def tV (T i:Nat):Nat:=T/2^i*2^i
def Co (b:Nat) (w:World) (e:Ending) (w':World):Prop:=e=.returned (.int .i64 b)∧Below w.heap.size w w'
theorem FY {a0 a1 a2 a3:Nat} (ha:bY a0 a1 a2 a3) (k:Nat):eK [a0,a1,a2,a3] k<18446744073709551616:=by
 obtain⟨h0,h1,h2,h3⟩:=ha;unfold eK
 match k with
 | 0=>exact h0
 | 1=>exact h1
 | 2=>exact h2
 | 3=>exact h3
 | k+4=>simp
theorem UL (a0 a1 a2 a3:Nat):aC a0 a1 a2 a3=cU 18446744073709551616 (eK [a0,a1,a2,a3]) 4:=by rw[←lI]; rfl
theorem TE {a0 a1 a2 a3 i j k:Nat} (ha:bY a0 a1 a2 a3) (hj:j<4) (hk:k<64) (e:i=64*j+k):eK [a0,a1,a2,a3] j/2^k%2=iO (aC a0 a1 a2 a3) i:=by
 rw[UL,e,NE _ (FY ha) 4 j k hj hk]
theorem BI (w:World) (t:TypeId) (a0 a1 a2 a3 j:Nat) (hj:j<4):(w.alloc (.cells #[.int .u64 a0,.int .u64 a1,.int .u64 a2,.int .u64 a3] t)).cell? ⟨w.heap.size,j,none⟩=some (.int .u64 (eK [a0,a1,a2,a3] j:Nat)) :=
 (RowIs.mk w t [a0,a1,a2,a3] w.heap.size rfl).cell hj
theorem Ma (a0 a1 a2 a3 i:Nat) (ha:bY a0 a1 a2 a3) (hi:i<256) (w:World) :
  Calls prog 105 #[.agg #[.int .u64 a0,.int .u64 a1,.int .u64 a2,.int .u64 a3],.int .i64 i] w (Co (iO (aC a0 a1 a2 a3) i) w):=by
 obtain⟨j,k,q,r,hj,hk,e⟩:=Ec hi;have hc:=BI w 85 a0 a1 a2 a3 j hj;have hx:=FY ha j;obtain⟨s,e1,e2,hs⟩:=SF hx (TE ha hj hk e.out);have hb:=oS (aC a0 a1 a2 a3) i;generalize iO (aC a0 a1 a2 a3) i=b at *;generalize eK [a0,a1,a2,a3] j=x at *;have hb':b≤1:=by omega
 clear hb e;have t0:decide ((i:Int)<0)=false:=decide_eq_false (by omega);have t1:decide ((256:Int)≤(i:Int))=false:=decide_eq_false (by omega)
 go_enter func105,ntmps105
 go_wp2_with fail;go_ret;exact⟨rfl,(Below.refl _ _).alloc (Nat.le_refl _) _⟩
theorem Mem.row {w wr:World} {rs:List (Nat×Nat×Nat×Nat×Nat)} (h:Mem w wr rs) {b c0 c1 c2 c3:Nat} (hm:(b,c0,c1,c2,c3)∈rs):Row4 wr b c0 c1 c2 c3:=(h.2 _ hm).2
theorem Mem.lt {w wr:World} {rs:List (Nat×Nat×Nat×Nat×Nat)} (h:Mem w wr rs) {b c0 c1 c2 c3:Nat} (hm:(b,c0,c1,c2,c3)∈rs):b<wr.heap.size:=(h.2 _ hm).1
theorem AY {N k L:Nat} (hk:k<L):N/2^(L-(k+1))=2*(N/2^(L-k))+iO N (L-1-k):=by
 have:=uM N (L-1-k);rw[show L-1-k+1=L-k by omega]at this;rw[show L-(k+1)=L-1-k by omega,this]
set_option maxHeartbeats 4000000 in
theorem pZ (F:FC) (hF:F.Ok) (A b a0 a1 a2 a3 n0 n1 n2 n3:Nat) (ha:bY a0 a1 a2 a3) (hn:bY n0 n1 n2 n3) (hA:aC a0 a1 a2 a3=kp F A) (w:World) (hk:KIs w b F) :
  Calls prog 95 #[.pointer (some ⟨b,0,none⟩),.agg #[.int .u64 a0,.int .u64 a1,.int .u64 a2,.int .u64 a3],.agg #[.int .u64 n0,.int .u64 n1,.int .u64 n2,.int .u64 n3]] w (eM (kp F (A^aC n0 n1 n2 n3)) w):=by
 have HK:=Lib.hid hk;have HF:=Lib.hid hF;have HA:=Lib.hid hA;have la:aC a0 a1 a2 a3<F.M:=by rw[hA]; exact Dq hF _
 have hL:=hk.lt;have HLA:=Lib.hid la;clear hk hF hA la
 go_enter func95,ntmps95
 go_wp2_with fail;have M0:=((((Mem.nil w).new w.heap.size a0 a1 a2 a3 117 rfl).new (w.heap.size+1) n0 n1 n2 n3 85 (by simp)).new (w.heap.size+1+1) 0 0 0 0 117 (by simp));refine (LJ F HF.out b _ (HK.out.same M0.1)).mono ?_
 rintro e w1 ⟨s0,s1,s2,s3,rfl,hs,hv,hbl⟩
 have M1:=M0.on hbl;have HV1:=Lib.hid hv;have hz1:w.heap.size+1+1<w1.heap.size:=M1.lt (c0:=0) (c1:=0) (c2:=0) (c3:=0) (by simp);have R1:=M1.row (b:=w.heap.size+1) (c0:=n0) (c1:=n1) (c2:=n2) (c3:=n3) (by simp);have x0:=R1.c0; have x1:=R1.c1; have x2:=R1.c2; have x3:=R1.c3;have lt1:w.heap.size+1<w1.heap.size:=by omega
 have M2:=Lib.hid (M1.new w1.heap.size s0 s1 s2 s3 117 rfl);clear hbl hv R1 M0 M1;go_wp2_with fail;refine (LN n0 n1 n2 n3 hn _).mono ?_
 rintro e w2 ⟨L,rfl,hL256,hLen,hbl⟩
 have HLen:=Lib.hid hLen;have M3:=Lib.hid (M2.out.on hbl);have hz2:w1.heap.size<w2.heap.size:=by have:=hbl.size; simp at this; omega
 clear hbl hLen x0 x1 x2 x3;go_wp2_with fail
 go_loopw [15] (fun i wr=>∃k r0 r1 r2 r3:Nat,k≤L∧i=.int .i64 k∧bY r0 r1 r2 r3∧Hid (aC r0 r1 r2 r3=kp F (A^(aC n0 n1 n2 n3/2^(L-k))))∧Hid (Mem w wr [(w1.heap.size,r0,r1,r2,r3),(w.heap.size+1+1,0,0,0,0),(w.heap.size+1,n0,n1,n2,n3),(w.heap.size,a0,a1,a2,a3)])) (fun i _=>L-(intOf i).toNat)
 case atStart =>
  refine⟨0,s0,s1,s2,s3,Nat.zero_le _,rfl,hs,Lib.hid ?_,M3⟩;rw[HV1.out,Nat.sub_zero,Nat.div_eq_of_lt HLen.out.1,Nat.pow_zero]
 case round =>
  obtain⟨k,r0,r1,r2,r3,hkL,rfl,hr,HV,HM⟩:=hrel;have hrl:aC r0 r1 r2 r3<F.M:=by rw[HV.out]; exact Dq HF.out _
  by_cases hlt:k<L
  ·have Rr:=HM.out.row (b:=w1.heap.size) (c0:=r0) (c1:=r1) (c2:=r2) (c3:=r3) (by simp);have x0:=Rr.c0; have x1:=Rr.c1; have x2:=Rr.c2; have x3:=Rr.c3;have ltr:=HM.out.lt (b:=w1.heap.size) (c0:=r0) (c1:=r1) (c2:=r2) (c3:=r3) (by simp);have Hrl:=Lib.hid hrl;clear Rr hrl;go_wp2_with fail;refine (fP F HF.out b r0 r1 r2 r3 r0 r1 r2 r3 hr hr Hrl.out _ (HK.out.same HM.out.1)).mono ?_
   rintro e w3 ⟨p0,p1,p2,p3,rfl,hp,hv,hbl⟩
   have hv':aC p0 p1 p2 p3=kp F (A^(aC n0 n1 n2 n3/2^(L-k))*A^(aC n0 n1 n2 n3/2^(L-k))%F.M):=by rw[hv,HV.out,BM HF.out]
   have HP:=Lib.hid hv';have M4:=HM.out.on hbl;have lt4:=M4.lt (b:=w1.heap.size) (c0:=r0) (c1:=r1) (c2:=r2) (c3:=r3) (by simp);have Rr:=M4.row (b:=w1.heap.size) (c0:=r0) (c1:=r1) (c2:=r2) (c3:=r3) (by simp);have Rn:=M4.row (b:=w.heap.size+1) (c0:=n0) (c1:=n1) (c2:=n2) (c3:=n3) (by simp);have Ra:=M4.row (b:=w.heap.size) (c0:=a0) (c1:=a1) (c2:=a2) (c3:=a3) (by simp);have M5:=Lib.hid (M4.put p0 p1 p2 p3 (by omega) (by intro r hr; simp at hr; rcases hr with rfl|rfl|rfl<;>simp<;>omega));clear x0 x1 x2 x3 hv hv' hbl M4;have x0:=Rr.c0; have x1:=Rr.c1; have x2:=Rr.c2; have x3:=Rr.c3; have xf:=Rr.fr;have y0:=Rn.c0; have y1:=Rn.c1; have y2:=Rn.c2; have y3:=Rn.c3;have ne1:¬w.heap.size+1=w1.heap.size:=by omega
   have ne1':¬w1.heap.size=w.heap.size+1:=by omega
   clear Rr Rn Ra;obtain⟨L1,e1,hL1⟩:∃L1:Nat,(L:Int)-1=(L1:Int)∧L1+1=L:=⟨L-1,by omega,by omega⟩
   obtain⟨j,e2,hj⟩:∃j:Nat,(L1:Int)-(k:Int)=(j:Int)∧j+k=L1:=⟨L1-k,by omega,by omega⟩
   have hj256:j<256:=by omega
   have hjk:j=L-1-k:=by omega
   have HJ:=Lib.hid hjk;clear hjk;go_wp2_with fail;refine (Ma n0 n1 n2 n3 j hn hj256 _).mono ?_
   rintro e w4 ⟨he,hbl⟩
   have M5':=M5.out;unfold set4 at M5';have M6:=M5'.on hbl;clear hbl M5' x0 x1 x2 x3 xf y0 y1 y2 y3;have lt6:=M6.lt (b:=w1.heap.size) (c0:=p0) (c1:=p1) (c2:=p2) (c3:=p3) (by simp)
   rcases oS (aC n0 n1 n2 n3) j with hb|hb
   ·rw[hb]at he;subst he;have HS:=Lib.hid (show aC p0 p1 p2 p3=kp F (A^(aC n0 n1 n2 n3/2^(L-(k+1)))) by
     rw[HP.out,AY hlt,←HJ.out,hb]; exact ((qH F A _ 0 (Or.inl rfl)).1 rfl).symm)
    have M7:=Lib.hid M6;clear hb M6;go_wp2_with fail
    go_roundw
    case rel=>exact⟨k+1,p0,p1,p2,p3,by omega,by go_num,hp,HS,M7⟩
    case measure=>simp[intOf]; omega
   ·rw[hb]at he;subst he;have Rr:=M6.row (b:=w1.heap.size) (c0:=p0) (c1:=p1) (c2:=p2) (c3:=p3) (by simp);have Ra:=M6.row (b:=w.heap.size) (c0:=a0) (c1:=a1) (c2:=a2) (c3:=a3) (by simp);have x0:=Rr.c0; have x1:=Rr.c1; have x2:=Rr.c2; have x3:=Rr.c3;have z0:=Ra.c0; have z1:=Ra.c1; have z2:=Ra.c2; have z3:=Ra.c3;have HB:=Lib.hid hb;have M7:=Lib.hid M6;clear hb M6 Rr Ra;go_wp2_with fail;refine (fP F HF.out b p0 p1 p2 p3 a0 a1 a2 a3 hp ha HLA.out _ (HK.out.same M7.out.1)).mono ?_
    rintro e w5 ⟨q0,q1,q2,q3,rfl,hq,hv,hbl⟩
    have hv':aC q0 q1 q2 q3=kp F (A^(aC n0 n1 n2 n3/2^(L-(k+1)))):=by
     rw[hv,HP.out,HA.out,BM HF.out,AY hlt,←HJ.out,HB.out]; exact ((qH F A _ 1 (Or.inr rfl)).2 rfl).symm
    have HS:=Lib.hid hv';have M8:=M7.out.on hbl;have lt8:=M8.lt (b:=w1.heap.size) (c0:=p0) (c1:=p1) (c2:=p2) (c3:=p3) (by simp);have Rr:=M8.row (b:=w1.heap.size) (c0:=p0) (c1:=p1) (c2:=p2) (c3:=p3) (by simp);have M9:=Lib.hid (M8.put q0 q1 q2 q3 (by omega) (by intro r hr; simp at hr; rcases hr with rfl|rfl|rfl<;>simp<;>omega));clear x0 x1 x2 x3 z0 z1 z2 z3 hv hv' hbl M8;have x0:=Rr.c0; have x1:=Rr.c1; have x2:=Rr.c2; have x3:=Rr.c3; have xf:=Rr.fr;clear Rr;go_wp2_with fail
    go_roundw
    case rel=>exact⟨k+1,q0,q1,q2,q3,by omega,by go_num,hq,HS,M9⟩
    case measure=>simp[intOf]; omega
  ·obtain rfl:k=L:=by omega
   have Rr:=HM.out.row (b:=w1.heap.size) (c0:=r0) (c1:=r1) (c2:=r2) (c3:=r3) (by simp);have x0:=Rr.c0; have x1:=Rr.c1; have x2:=Rr.c2; have x3:=Rr.c3;have Ro:=HM.out.row (b:=w.heap.size+1+1) (c0:=0) (c1:=0) (c2:=0) (c3:=0) (by simp);have o0:=Ro.c0; have o1:=Ro.c1; have o2:=Ro.c2; have o3:=Ro.c3; have of:=Ro.fr;have ltr:=HM.out.lt (b:=w1.heap.size) (c0:=r0) (c1:=r1) (c2:=r2) (c3:=r3) (by simp);have lto:=HM.out.lt (b:=w.heap.size+1+1) (c0:=0) (c1:=0) (c2:=0) (c3:=0) (by simp);clear Rr Ro hrl;go_wp2_with fail;refine bodyPost_ret (v:=.agg #[.int .u64 r0,.int .u64 r1,.int .u64 r2,.int .u64 r3]) (by simp[results,results95,go_sem, *]) rfl ?_;refine⟨_,_,_,_,rfl,hr,by rw[HV.out,Nat.sub_self,Nat.pow_zero,Nat.div_one],?_⟩;exact bR HM.out.1 (by omega) _ _ _ _
theorem sY {M A H T:Nat} (hM:M=2^T*(2*H+1)+1) (hT:1≤T):(A^(2*H+1))^2^(T-1)=A^(M/2):=by
 rw[←Nat.pow_mul];congr 1;obtain⟨t,rfl⟩:∃t,T=t+1:=⟨T-1,by omega⟩
 rw[hM,Nat.pow_succ,show t+1-1=t by omega,Nat.mul_comm (2^t) 2,Nat.mul_assoc,Nat.mul_comm (2*H+1)];omega
theorem SH (d:Nat) (a0 a1 a2 a3 b0 b1 b2 b3:Nat) (w:World):(Op.equalIn (d+1+1) 25 (.agg #[.int .u64 a0,.int .u64 a1,.int .u64 a2,.int .u64 a3]) (.agg #[.int .u64 b0,.int .u64 b1,.int .u64 b2,.int .u64 b3])).run prog w=.ok (SI a0 a1 a2 a3 b0 b1 b2 b3) w:=by
 have h0:∀(x y:Int) (w:World),(Op.equalIn (d+1) 23 (.int .u64 x) (.int .u64 y)).run prog w=.ok (x==y) w:=fun x y w=>run_equalIn_int w d 23 .u64 .u64 x y underlying23
 rw[Op.equalIn];simp only[Sem.run_bind,run_underlying underlying25,Result.andThen_ok,Try.sizeOf23];simp[Std.Legacy.Range.forIn_eq_forIn_range',Std.Legacy.Range.size,List.range',part,h0,Sem.run_bind,Result.andThen_ok];unfold SI
 by_cases q0:a0=b0<;>by_cases q1:a1=b1<;>by_cases q2:a2=b2<;>by_cases q3:a3=b3<;>simp[q0,q1,q2,q3]<;>omega
theorem Mem.drew {w wr:World} {rs:List (Nat×Nat×Nat×Nat×Nat)} (h:Mem w wr rs):Mem w wr.drew rs :=
 ⟨h.1.drew,fun r hr=>⟨(h.2 r hr).1,⟨(h.2 r hr).2.c0,(h.2 r hr).2.c1,(h.2 r hr).2.c2,(h.2 r hr).2.c3,(h.2 r hr).2.fr⟩⟩⟩
theorem SL:prog.eqGuardType prog.depth 25=false:=by kernel_rfl
set_option maxHeartbeats 1000000 in
theorem tS (F:FC) (hF:F.Ok) (A b a0 a1 a2 a3:Nat) (ha:bY a0 a1 a2 a3) (hA:aC a0 a1 a2 a3=kp F A) (w:World) (hk:KIs w b F) :
  Calls prog 106 #[.pointer (some ⟨b,0,none⟩),.agg #[.int .u64 a0,.int .u64 a1,.int .u64 a2,.int .u64 a3]] w (eM (kp F (A^(F.M-2))) w):=by
 have HK:=Lib.hid hk;have HF:=Lib.hid hF;have HA:=Lib.hid hA;have hL:=hk.lt;have hL1:b<w.heap.size+1:=by omega
 have k0:=hk.k0; have k1:=hk.k1; have k2:=hk.k2; have k3:=hk.k3;clear hk hF hA
 go_enter func106,ntmps106
 go_wp2_with fail;have M0:=(((Mem.nil w).new w.heap.size a0 a1 a2 a3 117 rfl).new (w.heap.size+1) 0 0 0 0 117 (by simp));refine (vE F.m0 F.m1 F.m2 F.m3 2 0 0 0 HF.out.okm ⟨by omega,by omega,by omega,by omega⟩ _).mono ?_
 rintro e w1 ⟨n0,n1,n2,n3,c,rfl,hn,hc,hv,hbl⟩
 have hv':aC n0 n1 n2 n3=F.M-2:=by
  have e2:aC 2 0 0 0=2:=rfl;have:=dE hn; have:=HF.out.gt; have:=HF.out.two;rw[e2,show aC F.m0 F.m1 F.m2 F.m3=F.M from rfl]at hv;omega
 have HV:=Lib.hid hv';have M1:=M0.on hbl;have hz1:w.heap.size+1<w1.heap.size:=M1.lt (c0:=0) (c1:=0) (c2:=0) (c3:=0) (by simp);have R1:=M1.row (b:=w.heap.size) (c0:=a0) (c1:=a1) (c2:=a2) (c3:=a3) (by simp);have x0:=R1.c0; have x1:=R1.c1; have x2:=R1.c2; have x3:=R1.c3;have lt1:w.heap.size<w1.heap.size:=by omega
 have M2:=Lib.hid (M1.new w1.heap.size n0 n1 n2 n3 85 rfl);clear hbl hv hv' R1 M0 M1 k0 k1 k2 k3;go_wp2_with fail;refine (pZ F HF.out A b a0 a1 a2 a3 n0 n1 n2 n3 ha hn HA.out _ (HK.out.same M2.out.1)).mono ?_
 rintro e w2 ⟨s0,s1,s2,s3,rfl,hs,hv,hbl⟩
 have HVs:=Lib.hid hv;have M3:=Lib.hid (M2.out.on hbl);have Ro:=M3.out.row (b:=w.heap.size+1) (c0:=0) (c1:=0) (c2:=0) (c3:=0) (by simp);have o0:=Ro.c0; have o1:=Ro.c1; have o2:=Ro.c2; have o3:=Ro.c3; have of:=Ro.fr;have lto:=M3.out.lt (b:=w.heap.size+1) (c0:=0) (c1:=0) (c2:=0) (c3:=0) (by simp);clear hbl hv Ro x0 x1 x2 x3;go_wp2_with fail;refine bodyPost_ret (v:=.agg #[.int .u64 s0,.int .u64 s1,.int .u64 s2,.int .u64 s3]) (by simp[results,results106,go_sem, *]) rfl ?_;refine⟨_,_,_,_,rfl,hs,by rw[HVs.out,HV.out],?_⟩;exact bR M3.out.1 (by omega) _ _ _ _
theorem Pi (a0 a1 a2 a3:Nat) (n:Int) (ha:bY a0 a1 a2 a3) (h0:0<n) (hq:n/64=0) (w:World) :
  Calls prog 76 #[.agg #[.int .u64 a0,.int .u64 a1,.int .u64 a2,.int .u64 a3],.int .i64 n] w (iQ (fun v=>v=aC a0 a1 a2 a3/2^n.toNat) w):=by
 obtain⟨p,hr,hp,en⟩:=Au (by omega) 0 hq (by omega);have b1:n<256:=by omega
 have t0:decide (n≤0)=false:=decide_eq_false (by omega);obtain⟨lo0,up0,u0,d0,bl0,bu0,e0,g0,m0⟩:=gL (a:=a0) (p:=p) ha.1 hp;obtain⟨lo1,up1,u1,d1,bl1,bu1,e1,g1,m1⟩:=gL (a:=a1) (p:=p) ha.2.1 hp;obtain⟨lo2,up2,u2,d2,bl2,bu2,e2,g2,m2⟩:=gL (a:=a2) (p:=p) ha.2.2.1 hp;obtain⟨lo3,up3,u3,d3,bl3,bu3,e3,g3,m3⟩:=gL (a:=a3) (p:=p) ha.2.2.2 hp;obtain⟨s0,o0,bs0,f0⟩:=nU bl0 bu1 g0 m1;obtain⟨s1,o1,bs1,f1⟩:=nU bl1 bu2 g1 m2;obtain⟨s2,o2,bs2,f2⟩:=nU bl2 bu3 g2 m3;have HF:Hid (aC s0 s1 s2 lo3=aC a0 a1 a2 a3/2^n.toNat):=Lib.hid (by
  rw[en,AZ,←Nat.div_div_eq_div_mul];have hq':aC a0 a1 a2 a3/18446744073709551616^((0:Int)).toNat=aC a0 a1 a2 a3:=by
   rw[show 18446744073709551616^((0:Int)).toNat=1 by simp];obtain⟨k0,k1,k2,k3⟩:=ha;unfold aC; omega
  rw[hq'];obtain⟨v0,x0,y0,z0⟩:=e0.out;obtain⟨v1,x1,y1,z1⟩:=e1.out;obtain⟨v2,x2,y2,z2⟩:=e2.out;obtain⟨v3,x3,y3,z3⟩:=e3.out;have f0:=f0.out;have f1:=f1.out;have f2:=f2.out;refine rQ (m:=v0) ?_ y0;have hD:aC s0 s1 s2 lo3*2^p=1*(s0*2^p)+18446744073709551616*(s1*2^p)+340282366920938463463374607431768211456*(s2*2^p)+6277101735386680763835789423207666416102355444464034512896*(lo3*2^p):=by
   unfold aC; simp only[Nat.add_mul,Nat.mul_add,Nat.mul_assoc,Nat.mul_zero,Nat.zero_mul,Nat.add_zero]; omega
  rw[hD];have k0:s0*2^p=lo0*2^p+up1*2^p:=by rw[f0,Nat.add_mul]
  have k1:s1*2^p=lo1*2^p+up2*2^p:=by rw[f1,Nat.add_mul]
  have k2:s2*2^p=lo2*2^p+up3*2^p:=by rw[f2,Nat.add_mul]
  unfold aC;omega)
 clear e0 g0 m0 e1 g1 m1 e2 g2 m2 e3 g3 m3 f0 f1 f2;have HEN:=Lib.hid en;clear en
 go_enter func76,ntmps76
 go_wp2_with fail;refine wp_loop_rounds 5 ?_;rw[rounds_succ];go_wp2_with fail
 go_region
 go_wp2_with fail;rw[rounds_succ];go_wp2_with fail
 go_region
 go_wp2_with fail;rw[rounds_succ];go_wp2_with fail
 go_region
 go_wp2_with fail;rw[rounds_succ];go_wp2_with fail;rw[rounds_succ];go_wp2_with fail;refine bodyPost_ret (v:=.agg #[.int .u64 s0,.int .u64 s1,.int .u64 s2,.int .u64 lo3]) (by simp[results,results76,go_sem]) rfl ?_;refine⟨s0,s1,s2,lo3,rfl,⟨bs0,bs1,bs2,bl3⟩,HF.out,?_⟩
 repeat (first|exact Below.refl _ _|refine Below.drew ?_|refine Below.alloc ?_ (by first|(simp; done)|(simp; omega)) _)
theorem Ph (a0 a1 a2 a3:Nat) (n:Int) (ha:bY a0 a1 a2 a3) (h0:0<n) (hq:n/64=1) (w:World) :
  Calls prog 76 #[.agg #[.int .u64 a0,.int .u64 a1,.int .u64 a2,.int .u64 a3],.int .i64 n] w (iQ (fun v=>v=aC a0 a1 a2 a3/2^n.toNat) w):=by
 obtain⟨p,hr,hp,en⟩:=Au (by omega) 1 hq (by omega);have b1:n<256:=by omega
 have t0:decide (n≤0)=false:=decide_eq_false (by omega);obtain⟨lo1,up1,u1,d1,bl1,bu1,e1,g1,m1⟩:=gL (a:=a1) (p:=p) ha.2.1 hp;obtain⟨lo2,up2,u2,d2,bl2,bu2,e2,g2,m2⟩:=gL (a:=a2) (p:=p) ha.2.2.1 hp;obtain⟨lo3,up3,u3,d3,bl3,bu3,e3,g3,m3⟩:=gL (a:=a3) (p:=p) ha.2.2.2 hp;obtain⟨s1,o1,bs1,f1⟩:=nU bl1 bu2 g1 m2;obtain⟨s2,o2,bs2,f2⟩:=nU bl2 bu3 g2 m3;have HF:Hid (aC s1 s2 lo3 0=aC a0 a1 a2 a3/2^n.toNat):=Lib.hid (by
  rw[en,AZ,←Nat.div_div_eq_div_mul];have hq':aC a0 a1 a2 a3/18446744073709551616^((1:Int)).toNat=aC a1 a2 a3 0:=by
   rw[show 18446744073709551616^((1:Int)).toNat=18446744073709551616 by simp];obtain⟨k0,k1,k2,k3⟩:=ha;unfold aC; omega
  rw[hq'];obtain⟨v1,x1,y1,z1⟩:=e1.out;obtain⟨v2,x2,y2,z2⟩:=e2.out;obtain⟨v3,x3,y3,z3⟩:=e3.out;have f1:=f1.out;have f2:=f2.out;refine rQ (m:=v1) ?_ y1;have hD:aC s1 s2 lo3 0*2^p=1*(s1*2^p)+18446744073709551616*(s2*2^p)+340282366920938463463374607431768211456*(lo3*2^p):=by
   unfold aC; simp only[Nat.add_mul,Nat.mul_add,Nat.mul_assoc,Nat.mul_zero,Nat.zero_mul,Nat.add_zero]; omega
  rw[hD];have k1:s1*2^p=lo1*2^p+up2*2^p:=by rw[f1,Nat.add_mul]
  have k2:s2*2^p=lo2*2^p+up3*2^p:=by rw[f2,Nat.add_mul]
  unfold aC;omega)
 clear e1 g1 m1 e2 g2 m2 e3 g3 m3 f1 f2;have HEN:=Lib.hid en;clear en
 go_enter func76,ntmps76
 go_wp2_with fail;refine wp_loop_rounds 4 ?_;rw[rounds_succ];go_wp2_with fail
 go_region
 go_wp2_with fail;rw[rounds_succ];go_wp2_with fail
 go_region
 go_wp2_with fail;rw[rounds_succ];go_wp2_with fail;rw[rounds_succ];go_wp2_with fail;refine bodyPost_ret (v:=.agg #[.int .u64 s1,.int .u64 s2,.int .u64 lo3,.int .u64 0]) (by simp[results,results76,go_sem]) rfl ?_;refine⟨s1,s2,lo3,0,rfl,⟨bs1,bs2,bl3,(by omega)⟩,HF.out,?_⟩
 repeat (first|exact Below.refl _ _|refine Below.drew ?_|refine Below.alloc ?_ (by first|(simp; done)|(simp; omega)) _)
theorem Pg (a0 a1 a2 a3:Nat) (n:Int) (ha:bY a0 a1 a2 a3) (h0:0<n) (hq:n/64=2) (w:World) :
  Calls prog 76 #[.agg #[.int .u64 a0,.int .u64 a1,.int .u64 a2,.int .u64 a3],.int .i64 n] w (iQ (fun v=>v=aC a0 a1 a2 a3/2^n.toNat) w):=by
 obtain⟨p,hr,hp,en⟩:=Au (by omega) 2 hq (by omega);have b1:n<256:=by omega
 have t0:decide (n≤0)=false:=decide_eq_false (by omega);obtain⟨lo2,up2,u2,d2,bl2,bu2,e2,g2,m2⟩:=gL (a:=a2) (p:=p) ha.2.2.1 hp;obtain⟨lo3,up3,u3,d3,bl3,bu3,e3,g3,m3⟩:=gL (a:=a3) (p:=p) ha.2.2.2 hp;obtain⟨s2,o2,bs2,f2⟩:=nU bl2 bu3 g2 m3;have HF:Hid (aC s2 lo3 0 0=aC a0 a1 a2 a3/2^n.toNat):=Lib.hid (by
  rw[en,AZ,←Nat.div_div_eq_div_mul];have hq':aC a0 a1 a2 a3/18446744073709551616^((2:Int)).toNat=aC a2 a3 0 0:=by
   rw[show 18446744073709551616^((2:Int)).toNat=340282366920938463463374607431768211456 by simp];obtain⟨k0,k1,k2,k3⟩:=ha;unfold aC; omega
  rw[hq'];obtain⟨v2,x2,y2,z2⟩:=e2.out;obtain⟨v3,x3,y3,z3⟩:=e3.out;have f2:=f2.out;refine rQ (m:=v2) ?_ y2;have hD:aC s2 lo3 0 0*2^p=1*(s2*2^p)+18446744073709551616*(lo3*2^p):=by
   unfold aC; simp only[Nat.add_mul,Nat.mul_add,Nat.mul_assoc,Nat.mul_zero,Nat.zero_mul,Nat.add_zero]; omega
  rw[hD];have k2:s2*2^p=lo2*2^p+up3*2^p:=by rw[f2,Nat.add_mul]
  unfold aC;omega)
 clear e2 g2 m2 e3 g3 m3 f2;have HEN:=Lib.hid en;clear en
 go_enter func76,ntmps76
 go_wp2_with fail;refine wp_loop_rounds 3 ?_;rw[rounds_succ];go_wp2_with fail
 go_region
 go_wp2_with fail;rw[rounds_succ];go_wp2_with fail;rw[rounds_succ];go_wp2_with fail;refine bodyPost_ret (v:=.agg #[.int .u64 s2,.int .u64 lo3,.int .u64 0,.int .u64 0]) (by simp[results,results76,go_sem]) rfl ?_;refine⟨s2,lo3,0,0,rfl,⟨bs2,bl3,(by omega),(by omega)⟩,HF.out,?_⟩
 repeat (first|exact Below.refl _ _|refine Below.drew ?_|refine Below.alloc ?_ (by first|(simp; done)|(simp; omega)) _)
theorem Pf (a0 a1 a2 a3:Nat) (n:Int) (ha:bY a0 a1 a2 a3) (h0:0<n) (hq:n/64=3) (w:World) :
  Calls prog 76 #[.agg #[.int .u64 a0,.int .u64 a1,.int .u64 a2,.int .u64 a3],.int .i64 n] w (iQ (fun v=>v=aC a0 a1 a2 a3/2^n.toNat) w):=by
 obtain⟨p,hr,hp,en⟩:=Au (by omega) 3 hq (by omega);have b1:n<256:=by omega
 have t0:decide (n≤0)=false:=decide_eq_false (by omega);obtain⟨lo3,up3,u3,d3,bl3,bu3,e3,g3,m3⟩:=gL (a:=a3) (p:=p) ha.2.2.2 hp;have HF:Hid (aC lo3 0 0 0=aC a0 a1 a2 a3/2^n.toNat):=Lib.hid (by
  rw[en,AZ,←Nat.div_div_eq_div_mul];have hq':aC a0 a1 a2 a3/18446744073709551616^((3:Int)).toNat=aC a3 0 0 0:=by
   rw[show 18446744073709551616^((3:Int)).toNat=6277101735386680763835789423207666416102355444464034512896 by simp];obtain⟨k0,k1,k2,k3⟩:=ha;unfold aC; omega
  rw[hq'];obtain⟨v3,x3,y3,z3⟩:=e3.out;refine rQ (m:=v3) ?_ y3;have hD:aC lo3 0 0 0*2^p=1*(lo3*2^p):=by
   unfold aC; simp only[Nat.add_mul,Nat.mul_add,Nat.mul_assoc,Nat.mul_zero,Nat.zero_mul,Nat.add_zero]; omega
  rw[hD];unfold aC;omega)
 clear e3 g3 m3;have HEN:=Lib.hid en;clear en
 go_enter func76,ntmps76
 go_wp2_with fail;refine wp_loop_rounds 2 ?_;rw[rounds_succ];go_wp2_with fail;rw[rounds_succ];go_wp2_with fail;refine bodyPost_ret (v:=.agg #[.int .u64 lo3,.int .u64 0,.int .u64 0,.int .u64 0]) (by simp[results,results76,go_sem]) rfl ?_;refine⟨lo3,0,0,0,rfl,⟨bl3,(by omega),(by omega),(by omega)⟩,HF.out,?_⟩
 repeat (first|exact Below.refl _ _|refine Below.drew ?_|refine Below.alloc ?_ (by first|(simp; done)|(simp; omega)) _)
theorem OE (a0 a1 a2 a3:Nat) (n:Int) (ha:bY a0 a1 a2 a3) (h0:n≤0) (w:World) :
  Calls prog 76 #[.agg #[.int .u64 a0,.int .u64 a1,.int .u64 a2,.int .u64 a3],.int .i64 n] w (iQ (fun v=>v=aC a0 a1 a2 a3) w):=by
 have t0:decide (n≤0)=true:=decide_eq_true h0
 go_enter func76,ntmps76
 go_wp2_with fail;refine bodyPost_ret (v:=.agg #[.int .u64 a0,.int .u64 a1,.int .u64 a2,.int .u64 a3]) (by simp[results,results76,go_sem]) rfl ?_;refine⟨a0,a1,a2,a3,rfl,ha,rfl,?_⟩
 repeat (first|exact Below.refl _ _|refine Below.drew ?_|refine Below.alloc ?_ (by first|(simp; done)|(simp; omega)) _)
theorem VG (a0 a1 a2 a3:Nat) (n:Int) (ha:bY a0 a1 a2 a3) (h0:256≤n) (h1:n≤9223372036854775807) (w:World) :
  Calls prog 76 #[.agg #[.int .u64 a0,.int .u64 a1,.int .u64 a2,.int .u64 a3],.int .i64 n] w (iQ (fun v=>v=0) w):=by
 have t0:decide (n≤0)=false:=decide_eq_false (by omega);obtain⟨q,hq,bq,bq'⟩:∃q:Nat,n/64=(q:Int)∧4≤q∧q≤9223372036854775807:=⟨(n/64).toNat,by omega,by omega,by omega⟩
 have t1:decide ((0:Int)<4-(q:Int))=false:=decide_eq_false (by omega)
 go_enter func76,ntmps76
 go_wp2_with fail;refine wp_loop_rounds 1 ?_;rw[rounds_succ];go_wp2_with fail;refine bodyPost_ret (v:=.agg #[.int .u64 0,.int .u64 0,.int .u64 0,.int .u64 0]) (by simp[results,results76,go_sem]) rfl ?_;refine⟨0,0,0,0,rfl,⟨by omega,by omega,by omega,by omega⟩,rfl,?_⟩
 repeat (first|exact Below.refl _ _|refine Below.drew ?_|refine Below.alloc ?_ (by first|(simp; done)|(simp; omega)) _)
theorem KO (a0 a1 a2 a3:Nat) (n:Int) (ha:bY a0 a1 a2 a3) (h0:0≤n) (h1:n≤9223372036854775807) (w:World) :
  Calls prog 76 #[.agg #[.int .u64 a0,.int .u64 a1,.int .u64 a2,.int .u64 a3],.int .i64 n] w (iQ (fun v=>v=aC a0 a1 a2 a3/2^n.toNat) w):=by
 by_cases hz:n≤0
 ·refine (OE a0 a1 a2 a3 n ha hz w).mono ?_
  rintro e w' ⟨s0,s1,s2,s3,he,hs,hv,hb⟩
  refine⟨s0,s1,s2,s3,he,hs,?_,hb⟩;have:=dE ha;rw[hv,show n.toNat=0 by omega,Nat.pow_zero]; omega
 ·by_cases hf:256≤n
  ·refine (VG a0 a1 a2 a3 n ha hf h1 w).mono ?_
   rintro e w' ⟨s0,s1,s2,s3,he,hs,hv,hb⟩
   refine⟨s0,s1,s2,s3,he,hs,?_,hb⟩;rw[hv];have hp:=Nat.pow_le_pow_right (show 0<2 by omega) (show 256≤n.toNat by omega);have:=dE ha;exact (Nat.div_eq_of_lt (Nat.lt_of_lt_of_le this hp)).symm
  ·have hq:n/64=0∨n/64=1∨n/64=2∨n/64=3:=by omega
   rcases hq with h|h|h|h
   ·exact Pi a0 a1 a2 a3 n ha (by omega) h w
   ·exact Ph a0 a1 a2 a3 n ha (by omega) h w
   ·exact Pg a0 a1 a2 a3 n ha (by omega) h w
   ·exact Pf a0 a1 a2 a3 n ha (by omega) h w
section
variable {P:Program} {ops:Array Oper} {Q:Exit→Act→World→Prop} {md:Region.Mode} {S:World→Prop} {L:Nat}
def fB (P:Program) (md:Region.Mode) (ops:Array Oper) (Q:Exit→Act→World→Prop) (S:World→Prop) (L:Nat):Nat→Array Bool→Act→World→Prop
 | 0,got,a,w=>Region.ready md ops got=[]∧Q .normal a w
 | m+1,got,a,w =>
  (Region.ready md ops got=[]→Q .normal a w) ∧
  ∀i∈Region.ready md ops got,wpOp P ops Q i (fun b u=>(i=L∨S u)∧fB P md ops Q S L m (got.setIfInBounds i true) b u) a w
theorem qQ:∀(m:Nat) (got:Array Bool) (a:Act) (w:World),fB P md ops Q S L m got a w→wpAny P md ops Q m got a w
 | 0,_,_,_,h=>h
 | m+1,_,_,_,h=>⟨h.1,fun i hi=>wpOp_mono (fun b u k=>qQ m _ b u k.2) (h.2 i hi)⟩
def NF (md:Region.Mode) (ops:Array Oper) (L i:Nat):Bool :=
 match ops[L]? with
 | some o=>o.after.any fun e=>Region.binds md e&&e.on==i
 | none=>false
theorem DN {i:Nat} {oi:Oper} {v:Value} (hi:ops[i]?=some oi) (hsel:∀(j:Nat) (o:Oper) cs b,ops[j]?=some o→o.op ≠ .select cs b)
  (hL:NF md ops L i=true) (hQ:∀c a w,Q (.panic c) (a.put oi.dst v) w→Q (.panic c) a w) :
  ∀(m:Nat) (got:Array Bool) (a:Act) (w:World),
   (∀j oj,ops[j]?=some oj→j≠i→got.getD j true=false→(∀e∈oj.after,Region.binds md e=true→e.on≠i)→oi.apart ops oj=true) →
   i∈Region.ready md ops got→YieldsIf P ops S oi v a→S w →
   fB P md ops Q S L m (got.setIfInBounds i true) (a.put oi.dst v) w→fB P md ops Q S L (m+1) got a w:=by
 intro m
 induction m with
 | zero =>
  intro got a w _ hr hy hS H;refine⟨fun h=>(by rw[h]at hr; cases hr),fun j hj => ?_⟩
  by_cases hji:j=i
  ·subst hji; exact hy.wpOp hi hS ⟨.inr hS,H⟩
  ·have:=ready_mono hj hji;rw[H.1]at this;cases this
 | succ m ih =>
  intro got a w hfree hr hy hS H;refine⟨fun h=>(by rw[h]at hr; cases hr),fun j hj => ?_⟩
  by_cases hji:j=i
  ·subst hji; exact hy.wpOp hi hS ⟨.inr hS,H⟩
  ·obtain⟨hun,oj,hoj,hall⟩:=mem_ready.1 hj;have hno:∀e∈oj.after,Region.binds md e=true→e.on≠i:=fun e he hb heq=>by
    have h1:=hall e he hb;have h0:=(mem_ready.1 hr).1;rw[heq]at h1
    rcases Nat.lt_or_ge i got.size with h'|h'
    ·simp[h']at h0 h1; rw[h0]at h1; cases h1
    ·simp[Array.getElem?_eq_none h']at h1
   have hjL:j≠L:=fun e=>by
    subst e;unfold NF at hL;rw[hoj]at hL;obtain⟨x,hx,hx2⟩:=Array.any_eq_true'.1 hL;simp only[Bool.and_eq_true,beq_iff_eq]at hx2;exact hno x hx hx2.1 hx2.2
   have h2:=wpOp_putIf hoj (hfree j oj hoj hji hun hno) (fun cs b=>hsel i oi cs b hi) (fun cs b=>hsel j oj cs b hoj) hQ hy (H.2 j (ready_mono hj hji));have hfree':∀k ok,ops[k]?=some ok→k≠i→(got.setIfInBounds j true).getD k true=false →
     (∀e∈ok.after,Region.binds md e=true→e.on≠i)→oi.apart ops ok=true:=fun k ok hk hki hu hn=>by
    refine hfree k ok hk hki ?_ hn
    by_cases hjk:j=k
    ·subst hjk; exact hun
    ·rw[getD_set_ne true hjk]at hu; exact hu
   refine wpOp_mono (fun b u h3=>⟨h3.2.1,ih (got.setIfInBounds j true) b u hfree' (ready_mono hr (Ne.symm hji)) h3.1 (h3.2.1.resolve_left hjL) ?_⟩) h2;rw[Array.setIfInBounds_comm _ _ hji];exact h3.2.2
theorem aN {i:Nat} {oi:Oper} {v:Value} {m:Nat} {got:Array Bool} {a:Act} {w:World} (hi:ops[i]?=some oi)
  (hs:Region.noSelect ops=true) (hf:Region.free md ops got i=true) (hr:(Region.ready md ops got).contains i=true) (hL:NF md ops L i=true)
  (hQ:∀c a w,Q (.panic c) (a.put oi.dst v) w→Q (.panic c) a w) (hS:S w) (hy:YieldsIf P ops S oi v a)
  (h:fB P md ops Q S L m (got.setIfInBounds i true) (a.put oi.dst v) w):fB P md ops Q S L (m+1) got a w :=
 DN hi (Region.noSelect_spec hs) hL hQ m got a w (Region.free_spec hi hf) (by simpa using hr) hy hS h
theorem aJ {i:Nat} {o:Oper} {m:Nat} {got:Array Bool} {a:Act} {w:World} (hr:Region.ready md ops got=[i]) (ho:ops[i]?=some o)
  (h:∀K:Act→World→Prop,Shut (∀b u,(i=L∨S u)→((i=L∨S u)→fB P md ops Q S L m (got.setIfInBounds i true) b u)→K b u)→if Region.wanted o (yielded ops a.tmps)=true then Oper.wp P o a w K Q else K (a.put o.dst undef) w) :
  fB P md ops Q S L (m+1) got a w :=
 ⟨fun h0=>(by rw[hr]at h0; cases h0),fun j hj=>by
  rw[hr]at hj;obtain rfl:j=i:=by simpa using hj
  exact wpOp_step ho (fun K hK=>h K (fun b u hS hW=>hK b u ⟨hS,hW hS⟩))⟩
theorem cZ {got:Array Bool} {a:Act} {w:World} (hr:Region.ready md ops got=[]) (h:Q .normal a w):fB P md ops Q S L 0 got a w:=⟨hr,h⟩
theorem dX (S:World→Prop) (L:Nat) {id:Nat} {a:Act} {w:World} (hm:P.follows .mixedOrders=true)
  (h:fB P .any ops Q S L ops.size (Array.replicate ops.size false) a w.drew):(Code.region id ops true).wp P Q a w :=
 wp_region_any hm (qQ _ _ _ _ h)
end
theorem lP {P:Program} {ops:Array Oper} {Q:Exit→Act→World→Prop} {md:Region.Mode} {S:World→Prop} {L:Nat} {i j:Nat} {oi oj:Oper} {m:Nat} {got:Array Bool} {a:Act} {w:World} (hr:Region.ready md ops got=[i,j]) (hoi:ops[i]?=some oi) (hoj:ops[j]?=some oj)
  (h1:∀K:Act→World→Prop,Shut (∀b u,(i=L∨S u)→((i=L∨S u)→fB P md ops Q S L m (got.setIfInBounds i true) b u)→K b u)→if Region.wanted oi (yielded ops a.tmps)=true then Oper.wp P oi a w K Q else K (a.put oi.dst undef) w)
  (h2:∀K:Act→World→Prop,Shut (∀b u,(j=L∨S u)→((j=L∨S u)→fB P md ops Q S L m (got.setIfInBounds j true) b u)→K b u)→if Region.wanted oj (yielded ops a.tmps)=true then Oper.wp P oj a w K Q else K (a.put oj.dst undef) w) :
  fB P md ops Q S L (m+1) got a w :=
 ⟨fun h0=>(by rw[hr]at h0; cases h0),fun k hk=>by
  rw[hr]at hk
  rcases List.mem_cons.1 hk with rfl|hk
  ·exact wpOp_step hoi (fun K hK=>h1 K (fun b u hS hW=>hK b u ⟨hS,hW hS⟩))
  ·obtain rfl:k=j:=by simpa using hk
   exact wpOp_step hoj (fun K hK=>h2 K (fun b u hS hW=>hK b u ⟨hS,hW hS⟩))⟩
def FieldIs (f:Int) (F:FC):Prop:=f=1∧F=FP∨f=2∧F=FR
theorem FieldIs.ok {f:Int} {F:FC} (h:FieldIs f F):F.Ok:=by rcases h with⟨_,rfl⟩|⟨_,rfl⟩; exact Xh; exact Xg
theorem FieldIs.root {f:Int} {F:FC} (h:FieldIs f F):∃g,Root F.M g:=by
 rcases h with⟨_,rfl⟩|⟨_,rfl⟩
 ·exact⟨3,by rw[aAT]; exact Gp⟩
 ·exact⟨5,by rw[aAS]; exact EH⟩
def aAU (f:Int) (A:Nat) (c:Int):Prop:=f≠1∧f≠2∧c=1∨∃F,FieldIs f F∧¬A<F.M∧c=21
def Ep (c:Int) (V:Nat) (w:World) (e:Ending) (w':World):Prop :=
 ∃s0 s1 s2 s3:Nat,e=.returned (.tuple #[.agg #[.int .u64 s0,.int .u64 s1,.int .u64 s2,.int .u64 s3],.int .i64 c])∧bY s0 s1 s2 s3∧aC s0 s1 s2 s3=V∧Below w.heap.size w w'
theorem Na:bY 0 0 0 0:=⟨by omega,by omega,by omega,by omega⟩
theorem KIs.new (w:World) (F:FC) (t:TypeId):KIs (w.alloc (.cells #[.int .u64 F.m0,.int .u64 F.m1,.int .u64 F.m2,.int .u64 F.m3,.int .u64 F.inv,.int .u64 F.s0,.int .u64 F.s1,.int .u64 F.s2,.int .u64 F.s3] t)) w.heap.size F :=
 ⟨by rw[World.cell?_alloc_new]; rfl,by rw[World.cell?_alloc_new]; rfl,by rw[World.cell?_alloc_new]; rfl,by rw[World.cell?_alloc_new]; rfl,by rw[World.cell?_alloc_new]; rfl,by rw[World.cell?_alloc_new]; rfl,by rw[World.cell?_alloc_new]; rfl,by rw[World.cell?_alloc_new]; rfl,by rw[World.cell?_alloc_new]; rfl,by simp⟩
set_option maxHeartbeats 2000000 in
theorem fT (f:Int) (F:FC) (hf:FieldIs f F) (w:World):Calls prog 91 #[.int .i64 f] w fun e w'=>e=.returned (.tuple #[.agg #[.int .u64 F.m0,.int .u64 F.m1,.int .u64 F.m2,.int .u64 F.m3,.int .u64 F.inv,.int .u64 F.s0,.int .u64 F.s1,.int .u64 F.s2,.int .u64 F.s3],.int .i64 0])∧Below w.heap.size w w':=by
 rcases hf with⟨rfl,rfl⟩|⟨rfl,rfl⟩
 ·go_enter func91,ntmps91
  go_wp2_with fail;refine bodyPost_ret (v:=.tuple #[.agg #[.int .u64 FP.m0,.int .u64 FP.m1,.int .u64 FP.m2,.int .u64 FP.m3,.int .u64 FP.inv,.int .u64 FP.s0,.int .u64 FP.s1,.int .u64 FP.s2,.int .u64 FP.s3],.int .i64 0]) (by simp[results,results91,go_sem,FP]) rfl ?_;refine⟨rfl,?_⟩
  repeat (first|exact Below.refl _ _|refine Below.drew ?_|refine Below.alloc ?_ (by first|(simp; done)|(simp; omega)) _|refine Below.setCell ?_ (by simp) _)
 ·go_enter func91,ntmps91
  go_wp2_with fail;refine bodyPost_ret (v:=.tuple #[.agg #[.int .u64 FR.m0,.int .u64 FR.m1,.int .u64 FR.m2,.int .u64 FR.m3,.int .u64 FR.inv,.int .u64 FR.s0,.int .u64 FR.s1,.int .u64 FR.s2,.int .u64 FR.s3],.int .i64 0]) (by simp[results,results91,go_sem,FR]) rfl ?_;refine⟨rfl,?_⟩
  repeat (first|exact Below.refl _ _|refine Below.drew ?_|refine Below.alloc ?_ (by first|(simp; done)|(simp; omega)) _|refine Below.setCell ?_ (by simp) _)
set_option maxHeartbeats 2000000 in
theorem MJ (f:Int) (h1:f≠1) (h2:f≠2) (w:World):Calls prog 91 #[.int .i64 f] w fun e w'=>e=.returned (.tuple #[.agg #[.int .u64 0,.int .u64 0,.int .u64 0,.int .u64 0,.int .u64 0,.int .u64 0,.int .u64 0,.int .u64 0,.int .u64 0],.int .i64 1])∧Below w.heap.size w w':=by
 have t1:(f==1)=false:=by simp[h1]
 have t2:(f==2)=false:=by simp[h2]
 go_enter func91,ntmps91
 go_wp2_with fail;refine bodyPost_ret (v:=.tuple #[.agg #[.int .u64 0,.int .u64 0,.int .u64 0,.int .u64 0,.int .u64 0,.int .u64 0,.int .u64 0,.int .u64 0,.int .u64 0],.int .i64 1]) (by simp[results,results91,go_sem]) rfl ?_;refine⟨rfl,?_⟩
 repeat (first|exact Below.refl _ _|refine Below.drew ?_|refine Below.alloc ?_ (by first|(simp; done)|(simp; omega)) _|refine Below.setCell ?_ (by simp) _)
theorem AO (w:World):Calls prog 93 #[.int .i64 1] w fun e w'=>e=.returned (.int .i64 1)∧w'=w:=by
 go_enter func93,ntmps93
 go_wp2_with fail;go_ret;exact⟨rfl,rfl⟩
theorem AN (w:World):Calls prog 93 #[.int .i64 0] w fun e w'=>e=.returned (.int .i64 21)∧w'=w:=by
 go_enter func93,ntmps93
 go_wp2_with fail;go_ret;exact⟨rfl,rfl⟩
set_option maxHeartbeats 2000000 in
theorem Ar (f:Int) (F:FC) (hf:FieldIs f F) (a0 a1 a2 a3 b0 b1 b2 b3:Nat) (ha:bY a0 a1 a2 a3) (hb:bY b0 b1 b2 b3) (la:aC a0 a1 a2 a3<F.M) (lb:aC b0 b1 b2 b3<F.M) (w:World) :
  Calls prog 99 #[.int .i64 f,.agg #[.int .u64 a0,.int .u64 a1,.int .u64 a2,.int .u64 a3],.agg #[.int .u64 b0,.int .u64 b1,.int .u64 b2,.int .u64 b3]] w (Ep 0 ((aC a0 a1 a2 a3+aC b0 b1 b2 b3)%F.M) w):=by
 go_enter func99,ntmps99
 go_wp2_with fail;refine (fT f F hf _).mono ?_
 rintro e w1 ⟨rfl,hbl⟩
 have M1:=((((Mem.nil w).new (w.heap.size) a0 a1 a2 a3 25 (by simp)).new (w.heap.size+1) b0 b1 b2 b3 25 (by simp)).new (w.heap.size+1+1) 0 0 0 0 25 (by simp)).on hbl;clear hbl;have z0:w.heap.size<w1.heap.size:=M1.lt (c0:=a0) (c1:=a1) (c2:=a2) (c3:=a3) (by simp);have z1:w.heap.size+1<w1.heap.size:=M1.lt (c0:=b0) (c1:=b1) (c2:=b2) (c3:=b3) (by simp);have z2:w.heap.size+1+1<w1.heap.size:=M1.lt (c0:=0) (c1:=0) (c2:=0) (c3:=0) (by simp);have HM:=Lib.hid (M1.on ((Below.refl _ _).alloc (Nat.le_refl _) (.cells #[.int .u64 F.m0,.int .u64 F.m1,.int .u64 F.m2,.int .u64 F.m3,.int .u64 F.inv,.int .u64 F.s0,.int .u64 F.s1,.int .u64 F.s2,.int .u64 F.s3] 119)));have KK:=Lib.hid (KIs.new w1 F 119);have kr:=M1.row (b:=w.heap.size) (c0:=a0) (c1:=a1) (c2:=a2) (c3:=a3) (by simp);have x0:=kr.c0; have x1:=kr.c1; have x2:=kr.c2; have x3:=kr.c3;clear kr;have xl:=M1.lt (b:=w.heap.size) (c0:=a0) (c1:=a1) (c2:=a2) (c3:=a3) (by simp);go_wp2_with fail;refine (dV F hf.ok w1.heap.size a0 a1 a2 a3 ha _ KK.out).mono ?_
 rintro e w2 ⟨he,hbl⟩
 rw[show BP (aC a0 a1 a2 a3) F.M=true from decide_eq_true la]at he;subst he;have HM':=Lib.hid (HM.out.on hbl);have KK':=Lib.hid (KK.out.same hbl);have zk:=KK'.out.lt;clear HM KK hbl M1;have HM:=HM';have KK:=KK';clear HM' KK';clear x0 x1 x2 x3 xl zk;have kr:=HM.out.row (b:=w.heap.size+1) (c0:=b0) (c1:=b1) (c2:=b2) (c3:=b3) (by simp);have x0:=kr.c0; have x1:=kr.c1; have x2:=kr.c2; have x3:=kr.c3;clear kr;have xl:=HM.out.lt (b:=w.heap.size+1) (c0:=b0) (c1:=b1) (c2:=b2) (c3:=b3) (by simp);go_wp2_with fail;refine (dV F hf.ok w1.heap.size b0 b1 b2 b3 hb _ KK.out).mono ?_
 rintro e w3 ⟨he,hbl⟩
 rw[show BP (aC b0 b1 b2 b3) F.M=true from decide_eq_true lb]at he;subst he;have HM':=Lib.hid (HM.out.on hbl);have KK':=Lib.hid (KK.out.same hbl);have zk:=KK'.out.lt;clear HM KK hbl;have HM:=HM';have KK:=KK';clear HM' KK';clear x0 x1 x2 x3 xl zk;have kr:=HM.out.row (b:=w.heap.size) (c0:=a0) (c1:=a1) (c2:=a2) (c3:=a3) (by simp);have x0:=kr.c0; have x1:=kr.c1; have x2:=kr.c2; have x3:=kr.c3;clear kr;have xl:=HM.out.lt (b:=w.heap.size) (c0:=a0) (c1:=a1) (c2:=a2) (c3:=a3) (by simp);have kr:=HM.out.row (b:=w.heap.size+1) (c0:=b0) (c1:=b1) (c2:=b2) (c3:=b3) (by simp);have u0:=kr.c0; have u1:=kr.c1; have u2:=kr.c2; have u3:=kr.c3;clear kr;have ul:=HM.out.lt (b:=w.heap.size+1) (c0:=b0) (c1:=b1) (c2:=b2) (c3:=b3) (by simp);go_wp2_with fail;refine (EW F hf.ok w1.heap.size a0 a1 a2 a3 b0 b1 b2 b3 ha hb la lb _ KK.out).mono ?_
 rintro e w4 ⟨s0,s1,s2,s3,rfl,hs,hv,hbl⟩
 have HV:=Lib.hid hv;clear hv;have HM':=Lib.hid (HM.out.on hbl);have KK':=Lib.hid (KK.out.same hbl);have zk:=KK'.out.lt;clear HM KK hbl;have HM:=HM';have KK:=KK';clear HM' KK';clear x0 x1 x2 x3 xl u0 u1 u2 u3 ul zk;have kr:=HM.out.row (b:=w.heap.size+1+1) (c0:=0) (c1:=0) (c2:=0) (c3:=0) (by simp);have y0:=kr.c0; have y1:=kr.c1; have y2:=kr.c2; have y3:=kr.c3; have yf:=kr.fr;clear kr;have yl:=HM.out.lt (b:=w.heap.size+1+1) (c0:=0) (c1:=0) (c2:=0) (c3:=0) (by simp);go_wp2_with fail;refine bodyPost_ret (v:=.tuple #[.agg #[.int .u64 s0,.int .u64 s1,.int .u64 s2,.int .u64 s3],.int .i64 0]) (by simp[results,results99,go_sem, *]) rfl ?_;refine⟨_,_,_,_,rfl,hs,HV.out,?_⟩;exact bR HM.out.1 (by omega) _ _ _ _
set_option maxHeartbeats 2000000 in
theorem Am (f:Int) (F:FC) (hf:FieldIs f F) (a0 a1 a2 a3 b0 b1 b2 b3:Nat) (ha:bY a0 a1 a2 a3) (hb:bY b0 b1 b2 b3) (la:aC a0 a1 a2 a3<F.M) (lb:aC b0 b1 b2 b3<F.M) (w:World) :
  Calls prog 84 #[.int .i64 f,.agg #[.int .u64 a0,.int .u64 a1,.int .u64 a2,.int .u64 a3],.agg #[.int .u64 b0,.int .u64 b1,.int .u64 b2,.int .u64 b3]] w (Ep 0 ((aC a0 a1 a2 a3+F.M-aC b0 b1 b2 b3)%F.M) w):=by
 go_enter func84,ntmps84
 go_wp2_with fail;refine (fT f F hf _).mono ?_
 rintro e w1 ⟨rfl,hbl⟩
 have M1:=((((Mem.nil w).new (w.heap.size) a0 a1 a2 a3 25 (by simp)).new (w.heap.size+1) b0 b1 b2 b3 25 (by simp)).new (w.heap.size+1+1) 0 0 0 0 25 (by simp)).on hbl;clear hbl;have z0:w.heap.size<w1.heap.size:=M1.lt (c0:=a0) (c1:=a1) (c2:=a2) (c3:=a3) (by simp);have z1:w.heap.size+1<w1.heap.size:=M1.lt (c0:=b0) (c1:=b1) (c2:=b2) (c3:=b3) (by simp);have z2:w.heap.size+1+1<w1.heap.size:=M1.lt (c0:=0) (c1:=0) (c2:=0) (c3:=0) (by simp);have HM:=Lib.hid (M1.on ((Below.refl _ _).alloc (Nat.le_refl _) (.cells #[.int .u64 F.m0,.int .u64 F.m1,.int .u64 F.m2,.int .u64 F.m3,.int .u64 F.inv,.int .u64 F.s0,.int .u64 F.s1,.int .u64 F.s2,.int .u64 F.s3] 119)));have KK:=Lib.hid (KIs.new w1 F 119);have kr:=M1.row (b:=w.heap.size) (c0:=a0) (c1:=a1) (c2:=a2) (c3:=a3) (by simp);have x0:=kr.c0; have x1:=kr.c1; have x2:=kr.c2; have x3:=kr.c3;clear kr;have xl:=M1.lt (b:=w.heap.size) (c0:=a0) (c1:=a1) (c2:=a2) (c3:=a3) (by simp);go_wp2_with fail;refine (dV F hf.ok w1.heap.size a0 a1 a2 a3 ha _ KK.out).mono ?_
 rintro e w2 ⟨he,hbl⟩
 rw[show BP (aC a0 a1 a2 a3) F.M=true from decide_eq_true la]at he;subst he;have HM':=Lib.hid (HM.out.on hbl);have KK':=Lib.hid (KK.out.same hbl);have zk:=KK'.out.lt;clear HM KK hbl M1;have HM:=HM';have KK:=KK';clear HM' KK';clear x0 x1 x2 x3 xl zk;have kr:=HM.out.row (b:=w.heap.size+1) (c0:=b0) (c1:=b1) (c2:=b2) (c3:=b3) (by simp);have x0:=kr.c0; have x1:=kr.c1; have x2:=kr.c2; have x3:=kr.c3;clear kr;have xl:=HM.out.lt (b:=w.heap.size+1) (c0:=b0) (c1:=b1) (c2:=b2) (c3:=b3) (by simp);go_wp2_with fail;refine (dV F hf.ok w1.heap.size b0 b1 b2 b3 hb _ KK.out).mono ?_
 rintro e w3 ⟨he,hbl⟩
 rw[show BP (aC b0 b1 b2 b3) F.M=true from decide_eq_true lb]at he;subst he;have HM':=Lib.hid (HM.out.on hbl);have KK':=Lib.hid (KK.out.same hbl);have zk:=KK'.out.lt;clear HM KK hbl;have HM:=HM';have KK:=KK';clear HM' KK';clear x0 x1 x2 x3 xl zk;have kr:=HM.out.row (b:=w.heap.size) (c0:=a0) (c1:=a1) (c2:=a2) (c3:=a3) (by simp);have x0:=kr.c0; have x1:=kr.c1; have x2:=kr.c2; have x3:=kr.c3;clear kr;have xl:=HM.out.lt (b:=w.heap.size) (c0:=a0) (c1:=a1) (c2:=a2) (c3:=a3) (by simp);have kr:=HM.out.row (b:=w.heap.size+1) (c0:=b0) (c1:=b1) (c2:=b2) (c3:=b3) (by simp);have u0:=kr.c0; have u1:=kr.c1; have u2:=kr.c2; have u3:=kr.c3;clear kr;have ul:=HM.out.lt (b:=w.heap.size+1) (c0:=b0) (c1:=b1) (c2:=b2) (c3:=b3) (by simp);go_wp2_with fail;refine (BL F hf.ok w1.heap.size a0 a1 a2 a3 b0 b1 b2 b3 ha hb la lb _ KK.out).mono ?_
 rintro e w4 ⟨s0,s1,s2,s3,rfl,hs,hv,hbl⟩
 have HV:=Lib.hid hv;clear hv;have HM':=Lib.hid (HM.out.on hbl);have KK':=Lib.hid (KK.out.same hbl);have zk:=KK'.out.lt;clear HM KK hbl;have HM:=HM';have KK:=KK';clear HM' KK';clear x0 x1 x2 x3 xl u0 u1 u2 u3 ul zk;have kr:=HM.out.row (b:=w.heap.size+1+1) (c0:=0) (c1:=0) (c2:=0) (c3:=0) (by simp);have y0:=kr.c0; have y1:=kr.c1; have y2:=kr.c2; have y3:=kr.c3; have yf:=kr.fr;clear kr;have yl:=HM.out.lt (b:=w.heap.size+1+1) (c0:=0) (c1:=0) (c2:=0) (c3:=0) (by simp);go_wp2_with fail;refine bodyPost_ret (v:=.tuple #[.agg #[.int .u64 s0,.int .u64 s1,.int .u64 s2,.int .u64 s3],.int .i64 0]) (by simp[results,results84,go_sem, *]) rfl ?_;refine⟨_,_,_,_,rfl,hs,HV.out,?_⟩;exact bR HM.out.1 (by omega) _ _ _ _
set_option maxHeartbeats 2000000 in
theorem An (f:Int) (F:FC) (hf:FieldIs f F) (a0 a1 a2 a3 b0 b1 b2 b3:Nat) (ha:bY a0 a1 a2 a3) (hb:bY b0 b1 b2 b3) (la:aC a0 a1 a2 a3<F.M) (lb:aC b0 b1 b2 b3<F.M) (w:World) :
  Calls prog 83 #[.int .i64 f,.agg #[.int .u64 a0,.int .u64 a1,.int .u64 a2,.int .u64 a3],.agg #[.int .u64 b0,.int .u64 b1,.int .u64 b2,.int .u64 b3]] w (Ep 0 (aC a0 a1 a2 a3*aC b0 b1 b2 b3%F.M) w):=by
 go_enter func83,ntmps83
 go_wp2_with fail;refine (fT f F hf _).mono ?_
 rintro e w1 ⟨rfl,hbl⟩
 have M1:=((((Mem.nil w).new (w.heap.size) a0 a1 a2 a3 25 (by simp)).new (w.heap.size+1) b0 b1 b2 b3 25 (by simp)).new (w.heap.size+1+1) 0 0 0 0 25 (by simp)).on hbl;clear hbl;have z0:w.heap.size<w1.heap.size:=M1.lt (c0:=a0) (c1:=a1) (c2:=a2) (c3:=a3) (by simp);have z1:w.heap.size+1<w1.heap.size:=M1.lt (c0:=b0) (c1:=b1) (c2:=b2) (c3:=b3) (by simp);have z2:w.heap.size+1+1<w1.heap.size:=M1.lt (c0:=0) (c1:=0) (c2:=0) (c3:=0) (by simp);have HM:=Lib.hid (M1.on ((Below.refl _ _).alloc (Nat.le_refl _) (.cells #[.int .u64 F.m0,.int .u64 F.m1,.int .u64 F.m2,.int .u64 F.m3,.int .u64 F.inv,.int .u64 F.s0,.int .u64 F.s1,.int .u64 F.s2,.int .u64 F.s3] 119)));have KK:=Lib.hid (KIs.new w1 F 119);have kr:=M1.row (b:=w.heap.size) (c0:=a0) (c1:=a1) (c2:=a2) (c3:=a3) (by simp);have x0:=kr.c0; have x1:=kr.c1; have x2:=kr.c2; have x3:=kr.c3;clear kr;have xl:=M1.lt (b:=w.heap.size) (c0:=a0) (c1:=a1) (c2:=a2) (c3:=a3) (by simp);go_wp2_with fail;refine (dV F hf.ok w1.heap.size a0 a1 a2 a3 ha _ KK.out).mono ?_
 rintro e w2 ⟨he,hbl⟩
 rw[show BP (aC a0 a1 a2 a3) F.M=true from decide_eq_true la]at he;subst he;have HM':=Lib.hid (HM.out.on hbl);have KK':=Lib.hid (KK.out.same hbl);have zk:=KK'.out.lt;clear HM KK hbl M1;have HM:=HM';have KK:=KK';clear HM' KK';clear x0 x1 x2 x3 xl zk;have kr:=HM.out.row (b:=w.heap.size+1) (c0:=b0) (c1:=b1) (c2:=b2) (c3:=b3) (by simp);have x0:=kr.c0; have x1:=kr.c1; have x2:=kr.c2; have x3:=kr.c3;clear kr;have xl:=HM.out.lt (b:=w.heap.size+1) (c0:=b0) (c1:=b1) (c2:=b2) (c3:=b3) (by simp);go_wp2_with fail;refine (dV F hf.ok w1.heap.size b0 b1 b2 b3 hb _ KK.out).mono ?_
 rintro e w3 ⟨he,hbl⟩
 rw[show BP (aC b0 b1 b2 b3) F.M=true from decide_eq_true lb]at he;subst he;have HM':=Lib.hid (HM.out.on hbl);have KK':=Lib.hid (KK.out.same hbl);have zk:=KK'.out.lt;clear HM KK hbl;have HM:=HM';have KK:=KK';clear HM' KK';clear x0 x1 x2 x3 xl zk;have kr:=HM.out.row (b:=w.heap.size) (c0:=a0) (c1:=a1) (c2:=a2) (c3:=a3) (by simp);have x0:=kr.c0; have x1:=kr.c1; have x2:=kr.c2; have x3:=kr.c3;clear kr;have xl:=HM.out.lt (b:=w.heap.size) (c0:=a0) (c1:=a1) (c2:=a2) (c3:=a3) (by simp);have kr:=HM.out.row (b:=w.heap.size+1) (c0:=b0) (c1:=b1) (c2:=b2) (c3:=b3) (by simp);have u0:=kr.c0; have u1:=kr.c1; have u2:=kr.c2; have u3:=kr.c3;clear kr;have ul:=HM.out.lt (b:=w.heap.size+1) (c0:=b0) (c1:=b1) (c2:=b2) (c3:=b3) (by simp);go_wp2_with fail;refine (uY F hf.ok w1.heap.size a0 a1 a2 a3 b0 b1 b2 b3 ha hb lb _ KK.out).mono ?_
 rintro e w4 ⟨s0,s1,s2,s3,rfl,hs,hv,hbl⟩
 have HV:=Lib.hid hv;clear hv;have HM':=Lib.hid (HM.out.on hbl);have KK':=Lib.hid (KK.out.same hbl);have zk:=KK'.out.lt;clear HM KK hbl;have HM:=HM';have KK:=KK';clear HM' KK';clear x0 x1 x2 x3 xl u0 u1 u2 u3 ul zk;have kr:=HM.out.row (b:=w.heap.size+1+1) (c0:=0) (c1:=0) (c2:=0) (c3:=0) (by simp);have y0:=kr.c0; have y1:=kr.c1; have y2:=kr.c2; have y3:=kr.c3; have yf:=kr.fr;clear kr;have yl:=HM.out.lt (b:=w.heap.size+1+1) (c0:=0) (c1:=0) (c2:=0) (c3:=0) (by simp);go_wp2_with fail;refine bodyPost_ret (v:=.tuple #[.agg #[.int .u64 s0,.int .u64 s1,.int .u64 s2,.int .u64 s3],.int .i64 0]) (by simp[results,results83,go_sem, *]) rfl ?_;refine⟨_,_,_,_,rfl,hs,HV.out,?_⟩;exact bR HM.out.1 (by omega) _ _ _ _
set_option maxHeartbeats 2000000 in
theorem FZ (f c:Int) (a0 a1 a2 a3:Nat) (ha:bY a0 a1 a2 a3) (h:aAU f (aC a0 a1 a2 a3) c) (w:World) :
  Calls prog 98 #[.int .i64 f,.agg #[.int .u64 a0,.int .u64 a1,.int .u64 a2,.int .u64 a3]] w fun e w'=>e=.returned (.int .i64 c)∧Below w.heap.size w w':=by
 rcases h with⟨h1,h2,rfl⟩|⟨F,hf,la,rfl⟩
 ·go_enter func98,ntmps98
  go_wp2_with fail;refine (MJ f h1 h2 _).mono ?_
  rintro e w1 ⟨rfl,hbl⟩
  have M1:=((Mem.nil w).new (w.heap.size) a0 a1 a2 a3 25 (by simp)).on hbl;clear hbl;have z0:w.heap.size<w1.heap.size:=M1.lt (c0:=a0) (c1:=a1) (c2:=a2) (c3:=a3) (by simp);have HM:=Lib.hid (M1.on ((Below.refl _ _).alloc (Nat.le_refl _) (.cells #[.int .u64 0,.int .u64 0,.int .u64 0,.int .u64 0,.int .u64 0,.int .u64 0,.int .u64 0,.int .u64 0,.int .u64 0] 119)));go_wp2_with fail;refine (AO _).mono ?_
  rintro e w2 ⟨rfl,rfl⟩
  go_wp2_with fail;refine bodyPost_ret (v:=.int .i64 1) (by simp[results,results98,go_sem, *]) rfl ?_;exact⟨rfl,HM.out.1⟩
 ·go_enter func98,ntmps98
  go_wp2_with fail;refine (fT f F hf _).mono ?_
  rintro e w1 ⟨rfl,hbl⟩
  have M1:=((Mem.nil w).new (w.heap.size) a0 a1 a2 a3 25 (by simp)).on hbl;clear hbl;have z0:w.heap.size<w1.heap.size:=M1.lt (c0:=a0) (c1:=a1) (c2:=a2) (c3:=a3) (by simp);have HM:=Lib.hid (M1.on ((Below.refl _ _).alloc (Nat.le_refl _) (.cells #[.int .u64 F.m0,.int .u64 F.m1,.int .u64 F.m2,.int .u64 F.m3,.int .u64 F.inv,.int .u64 F.s0,.int .u64 F.s1,.int .u64 F.s2,.int .u64 F.s3] 119)));have KK:=Lib.hid (KIs.new w1 F 119);have kr:=M1.row (b:=w.heap.size) (c0:=a0) (c1:=a1) (c2:=a2) (c3:=a3) (by simp);have x0:=kr.c0; have x1:=kr.c1; have x2:=kr.c2; have x3:=kr.c3;clear kr;have xl:=M1.lt (b:=w.heap.size) (c0:=a0) (c1:=a1) (c2:=a2) (c3:=a3) (by simp);go_wp2_with fail;refine (dV F hf.ok w1.heap.size a0 a1 a2 a3 ha _ KK.out).mono ?_
  rintro e w2 ⟨he,hbl⟩
  rw[show BP (aC a0 a1 a2 a3) F.M=false from decide_eq_false la]at he;subst he;have HM':=Lib.hid (HM.out.on hbl);have KK':=Lib.hid (KK.out.same hbl);have zk:=KK'.out.lt;clear HM KK hbl M1;have HM:=HM';have KK:=KK';clear HM' KK';clear x0 x1 x2 x3 xl zk;go_wp2_with fail;refine (AN _).mono ?_
  rintro e w3 ⟨rfl,rfl⟩
  go_wp2_with fail;refine bodyPost_ret (v:=.int .i64 21) (by simp[results,results98,go_sem, *]) rfl ?_;exact⟨rfl,HM.out.1⟩
set_option maxHeartbeats 2000000 in
theorem MG (f:Int) (F:FC) (hf:FieldIs f F) (a0 a1 a2 a3:Nat) (ha:bY a0 a1 a2 a3) (la:aC a0 a1 a2 a3<F.M) (w:World) :
  Calls prog 98 #[.int .i64 f,.agg #[.int .u64 a0,.int .u64 a1,.int .u64 a2,.int .u64 a3]] w (fun e w'=>e=.returned (.int .i64 0)∧Below w.heap.size w w'):=by
 go_enter func98,ntmps98
 go_wp2_with fail;refine (fT f F hf _).mono ?_
 rintro e w1 ⟨rfl,hbl⟩
 have M1:=((Mem.nil w).new (w.heap.size) a0 a1 a2 a3 25 (by simp)).on hbl;clear hbl;have z0:w.heap.size<w1.heap.size:=M1.lt (c0:=a0) (c1:=a1) (c2:=a2) (c3:=a3) (by simp);have HM:=Lib.hid (M1.on ((Below.refl _ _).alloc (Nat.le_refl _) (.cells #[.int .u64 F.m0,.int .u64 F.m1,.int .u64 F.m2,.int .u64 F.m3,.int .u64 F.inv,.int .u64 F.s0,.int .u64 F.s1,.int .u64 F.s2,.int .u64 F.s3] 119)));have KK:=Lib.hid (KIs.new w1 F 119);have kr:=M1.row (b:=w.heap.size) (c0:=a0) (c1:=a1) (c2:=a2) (c3:=a3) (by simp);have x0:=kr.c0; have x1:=kr.c1; have x2:=kr.c2; have x3:=kr.c3;clear kr;have xl:=M1.lt (b:=w.heap.size) (c0:=a0) (c1:=a1) (c2:=a2) (c3:=a3) (by simp);go_wp2_with fail;refine (dV F hf.ok w1.heap.size a0 a1 a2 a3 ha _ KK.out).mono ?_
 rintro e w2 ⟨he,hbl⟩
 rw[show BP (aC a0 a1 a2 a3) F.M=true from decide_eq_true la]at he;subst he;have HM':=Lib.hid (HM.out.on hbl);have KK':=Lib.hid (KK.out.same hbl);have zk:=KK'.out.lt;clear HM KK hbl M1;have HM:=HM';have KK:=KK';clear HM' KK';clear x0 x1 x2 x3 xl zk;go_wp2_with fail;go_ret;exact⟨rfl,HM.out.1⟩
set_option maxHeartbeats 2000000 in
theorem vB (f:Int) (F:FC) (hf:FieldIs f F) (w:World):Calls prog 74 #[.int .i64 f] w fun e w'=>e=.returned (.agg #[.int .u64 F.m0,.int .u64 F.m1,.int .u64 F.m2,.int .u64 F.m3])∧Below w.heap.size w w':=by
 go_enter func74,ntmps74
 go_wp2_with fail;refine (fT f F hf _).mono ?_
 rintro e w1 ⟨rfl,hbl⟩
 have M1:=((Mem.nil w).new (w.heap.size) 0 0 0 0 85 (by simp)).on hbl;clear hbl;have z0:w.heap.size<w1.heap.size:=M1.lt (c0:=0) (c1:=0) (c2:=0) (c3:=0) (by simp);have HM:=Lib.hid (M1.on ((Below.refl _ _).alloc (Nat.le_refl _) (.cells #[.int .u64 F.m0,.int .u64 F.m1,.int .u64 F.m2,.int .u64 F.m3,.int .u64 F.inv,.int .u64 F.s0,.int .u64 F.s1,.int .u64 F.s2,.int .u64 F.s3] 119)));have KK:=Lib.hid (KIs.new w1 F 119);have k0:=KK.out.k0; have k1:=KK.out.k1; have k2:=KK.out.k2; have k3:=KK.out.k3;have kr:=M1.row (b:=w.heap.size) (c0:=0) (c1:=0) (c2:=0) (c3:=0) (by simp);have y0:=kr.c0; have y1:=kr.c1; have y2:=kr.c2; have y3:=kr.c3; have yf:=kr.fr;clear kr;have yl:=M1.lt (b:=w.heap.size) (c0:=0) (c1:=0) (c2:=0) (c3:=0) (by simp);go_wp2_with fail;refine bodyPost_ret (v:=.agg #[.int .u64 F.m0,.int .u64 F.m1,.int .u64 F.m2,.int .u64 F.m3]) (by simp[results,results74,go_sem, *]) rfl ?_;refine⟨rfl,?_⟩
 repeat (first|exact M1.1|exact HM.out.1|refine Below.alloc ?_ (by first|(simp; done)|(simp; omega)) _|refine Below.setCell ?_ (by first|(simp; done)|(simp; omega)) _)
set_option maxHeartbeats 2000000 in
theorem Aq (f:Int) (F:FC) (hf:FieldIs f F) (a0 a1 a2 a3 b0 b1 b2 b3:Nat) (ha:bY a0 a1 a2 a3) (hb:bY b0 b1 b2 b3) (la:aC a0 a1 a2 a3<F.M) (lb:aC b0 b1 b2 b3<F.M) (hz:aC b0 b1 b2 b3≠0) (w:World) :
  Calls prog 97 #[.int .i64 f,.agg #[.int .u64 a0,.int .u64 a1,.int .u64 a2,.int .u64 a3],.agg #[.int .u64 b0,.int .u64 b1,.int .u64 b2,.int .u64 b3]] w (Ep 0 (aC a0 a1 a2 a3*(aC b0 b1 b2 b3^(F.M-2))%F.M) w):=by
 have HE:=Lib.hid (show ∀w,(Op.equalIn 10000 25 (.agg #[.int .u64 b0,.int .u64 b1,.int .u64 b2,.int .u64 b3]) (.agg #[.int .u64 0,.int .u64 0,.int .u64 0,.int .u64 0])).run prog w=.ok false w from fun w=>by
  have h:=SH 9998 b0 b1 b2 b3 0 0 0 0 w;have q:SI b0 b1 b2 b3 0 0 0 0=false:=by
   cases q:SI b0 b1 b2 b3 0 0 0 0
   ·rfl
   ·exact absurd (((rO hb Na).1 q).trans rfl) hz
  rw[q]at h;exact h)
 have hG:=SL;clear hz
 go_enter func97,ntmps97
 go_wp2_with fail;refine (fT f F hf _).mono ?_
 rintro e w1 ⟨rfl,hbl⟩
 have M1:=((((Mem.nil w).new (w.heap.size) a0 a1 a2 a3 25 (by simp)).new (w.heap.size+1) b0 b1 b2 b3 25 (by simp)).new (w.heap.size+1+1) 0 0 0 0 25 (by simp)).on hbl;clear hbl;have z0:w.heap.size<w1.heap.size:=M1.lt (c0:=a0) (c1:=a1) (c2:=a2) (c3:=a3) (by simp);have z1:w.heap.size+1<w1.heap.size:=M1.lt (c0:=b0) (c1:=b1) (c2:=b2) (c3:=b3) (by simp);have z2:w.heap.size+1+1<w1.heap.size:=M1.lt (c0:=0) (c1:=0) (c2:=0) (c3:=0) (by simp);have HM:=Lib.hid (M1.on ((Below.refl _ _).alloc (Nat.le_refl _) (.cells #[.int .u64 F.m0,.int .u64 F.m1,.int .u64 F.m2,.int .u64 F.m3,.int .u64 F.inv,.int .u64 F.s0,.int .u64 F.s1,.int .u64 F.s2,.int .u64 F.s3] 119)));have KK:=Lib.hid (KIs.new w1 F 119);have kr:=M1.row (b:=w.heap.size) (c0:=a0) (c1:=a1) (c2:=a2) (c3:=a3) (by simp);have x0:=kr.c0; have x1:=kr.c1; have x2:=kr.c2; have x3:=kr.c3;clear kr;have xl:=M1.lt (b:=w.heap.size) (c0:=a0) (c1:=a1) (c2:=a2) (c3:=a3) (by simp);go_wp2_with fail;refine (dV F hf.ok w1.heap.size a0 a1 a2 a3 ha _ KK.out).mono ?_
 rintro e w2 ⟨he,hbl⟩
 rw[show BP (aC a0 a1 a2 a3) F.M=true from decide_eq_true la]at he;subst he;have HM':=Lib.hid (HM.out.on hbl);have KK':=Lib.hid (KK.out.same hbl);have zk:=KK'.out.lt;clear HM KK hbl M1;have HM:=HM';have KK:=KK';clear HM' KK';clear x0 x1 x2 x3 xl zk;have kr:=HM.out.row (b:=w.heap.size+1) (c0:=b0) (c1:=b1) (c2:=b2) (c3:=b3) (by simp);have x0:=kr.c0; have x1:=kr.c1; have x2:=kr.c2; have x3:=kr.c3;clear kr;have xl:=HM.out.lt (b:=w.heap.size+1) (c0:=b0) (c1:=b1) (c2:=b2) (c3:=b3) (by simp);go_wp2_with fail;refine (dV F hf.ok w1.heap.size b0 b1 b2 b3 hb _ KK.out).mono ?_
 rintro e w3 ⟨he,hbl⟩
 rw[show BP (aC b0 b1 b2 b3) F.M=true from decide_eq_true lb]at he;subst he;have HM':=Lib.hid (HM.out.on hbl);have KK':=Lib.hid (KK.out.same hbl);have zk:=KK'.out.lt;clear HM KK hbl;have HM:=HM';have KK:=KK';clear HM' KK';clear x0 x1 x2 x3 xl zk;have kr:=HM.out.row (b:=w.heap.size+1) (c0:=b0) (c1:=b1) (c2:=b2) (c3:=b3) (by simp);have u0:=kr.c0; have u1:=kr.c1; have u2:=kr.c2; have u3:=kr.c3;clear kr;have ul:=HM.out.lt (b:=w.heap.size+1) (c0:=b0) (c1:=b1) (c2:=b2) (c3:=b3) (by simp);have hE:=HE.out;go_wp2_with fail;clear u0 u1 u2 u3 ul hE;refine dX (fun wx=>Mem w wx [(w.heap.size+1,b0,b1,b2,b3),(w.heap.size,a0,a1,a2,a3)]) 6 (by kernel_rfl) ?_;have HM':=Lib.hid (HM.out.drewN 1);have KK':=Lib.hid (KK.out.drewN 1);clear HM KK;have HM:=HM';have KK:=KK';clear HM' KK';have HS:=HM.out.sub (rs':=[(w.heap.size+1,b0,b1,b2,b3),(w.heap.size,a0,a1,a2,a3)]) (by simp);refine aN (i:=0) (v:=.agg #[.int .u64 b0,.int .u64 b1,.int .u64 b2,.int .u64 b3]) rfl (by kernel_rfl) (by kernel_rfl) (by kernel_rfl) (by kernel_rfl) (fun _ _ _ h=>h) HS (Or.inl ⟨by kernel_rfl,fun wx hx => ?_⟩) ?_
 ·have kr:=hx.row (b:=w.heap.size+1) (c0:=b0) (c1:=b1) (c2:=b2) (c3:=b3) (by simp);have x0:=kr.c0; have x1:=kr.c1; have x2:=kr.c2; have x3:=kr.c3;clear kr HS hx;go_simp
 simp only[Act.put,List.setIfInBounds_toArray,List.set_cons_zero,List.set_cons_succ];refine aN (i:=3) (v:=.agg #[.int .u64 a0,.int .u64 a1,.int .u64 a2,.int .u64 a3]) rfl (by kernel_rfl) (by kernel_rfl) (by kernel_rfl) (by kernel_rfl) (fun _ _ _ h=>h) HS (Or.inl ⟨by kernel_rfl,fun wx hx => ?_⟩) ?_
 ·have kr:=hx.row (b:=w.heap.size) (c0:=a0) (c1:=a1) (c2:=a2) (c3:=a3) (by simp);have x0:=kr.c0; have x1:=kr.c1; have x2:=kr.c2; have x3:=kr.c3;clear kr HS hx;go_simp
 simp only[Act.put,List.setIfInBounds_toArray,List.set_cons_zero,List.set_cons_succ];clear HS;refine aJ (i:=1) (by kernel_rfl) rfl (fun K hK => ?_);go_simp;refine (kK F hf.ok w1.heap.size b0 b1 b2 b3 hb _ KK.out).mono ?_
 rintro e w4 ⟨i0,i1,i2,i3,rfl,hi,hv,hbl⟩
 have HVi:=Lib.hid hv;clear hv;have HM':=Lib.hid (HM.out.on hbl);have KK':=Lib.hid (KK.out.same hbl);have zk_w4:=KK'.out.lt;clear HM KK hbl;have HM:=HM';have KK:=KK';clear HM' KK';have HS:=HM.out.sub (rs':=[(w.heap.size+1,b0,b1,b2,b3),(w.heap.size,a0,a1,a2,a3)]) (by simp);refine hK.out _ _ (Or.inr HS) (fun _ => ?_);clear hK K;clear HS;refine aJ (i:=2) (by kernel_rfl) rfl (fun K hK => ?_);go_simp;refine (tS F hf.ok (aC b0 b1 b2 b3) w1.heap.size i0 i1 i2 i3 hi HVi.out _ KK.out).mono ?_
 rintro e w5 ⟨j0,j1,j2,j3,rfl,hj,hv,hbl⟩
 have HVj:=Lib.hid hv;clear hv;have HM':=Lib.hid (HM.out.on hbl);have KK':=Lib.hid (KK.out.same hbl);have zk_w5:=KK'.out.lt;clear HM KK hbl;have HM:=HM';have KK:=KK';clear HM' KK';have HS:=HM.out.sub (rs':=[(w.heap.size+1,b0,b1,b2,b3),(w.heap.size,a0,a1,a2,a3)]) (by simp);refine hK.out _ _ (Or.inr HS) (fun _ => ?_);clear hK K;clear HS;refine aJ (i:=4) (by kernel_rfl) rfl (fun K hK => ?_);go_simp;refine (fP F hf.ok w1.heap.size j0 j1 j2 j3 a0 a1 a2 a3 hj ha la _ KK.out).mono ?_
 rintro e w6 ⟨s0,s1,s2,s3,rfl,hs,hv,hbl⟩
 have HVs:=Lib.hid (show aC s0 s1 s2 s3=aC a0 a1 a2 a3*(aC b0 b1 b2 b3^(F.M-2))%F.M by rw[hv,HVj.out,tN hf.ok,Nat.mul_comm]);clear hv;have HM':=Lib.hid (HM.out.on hbl);have KK':=Lib.hid (KK.out.same hbl);have zk_w6:=KK'.out.lt;clear HM KK hbl;have HM:=HM';have KK:=KK';clear HM' KK';have HS:=HM.out.sub (rs':=[(w.heap.size+1,b0,b1,b2,b3),(w.heap.size,a0,a1,a2,a3)]) (by simp);refine hK.out _ _ (Or.inr HS) (fun _ => ?_);clear hK K;clear HS;have kr:=HM.out.row (b:=w.heap.size+1+1) (c0:=0) (c1:=0) (c2:=0) (c3:=0) (by simp);have y0:=kr.c0; have y1:=kr.c1; have y2:=kr.c2; have y3:=kr.c3; have yf:=kr.fr;clear kr;have yl:=HM.out.lt (b:=w.heap.size+1+1) (c0:=0) (c1:=0) (c2:=0) (c3:=0) (by simp);refine aJ (i:=5) (by kernel_rfl) rfl (fun K hK => ?_);go_simp;have HM':=Lib.hid ((HM.out.sub (rs':=[(w.heap.size+1+1,0,0,0,0),(w.heap.size+1,b0,b1,b2,b3),(w.heap.size,a0,a1,a2,a3)]) (by simp)).put s0 s1 s2 s3 (by omega) (by intro r hr; simp at hr; rcases hr with rfl|rfl<;>simp<;>omega));clear HM;have HM:=HM';clear HM';have HS:=HM.out.sub (rs':=[(w.heap.size+1,b0,b1,b2,b3),(w.heap.size,a0,a1,a2,a3)]) (by simp);refine hK.out _ _ (Or.inr HS) (fun _ => ?_);clear hK K;clear HS;refine aJ (i:=6) (by kernel_rfl) rfl (fun K hK => ?_);go_simp;refine hK.out _ _ (Or.inl rfl) (fun _ => ?_);clear hK K;refine cZ (by kernel_rfl) ?_;go_wp2_with fail;refine bodyPost_ret (v:=.tuple #[.agg #[.int .u64 s0,.int .u64 s1,.int .u64 s2,.int .u64 s3],.int .i64 0]) (by simp[results,results97,go_sem, *]) rfl ?_;exact⟨_,_,_,_,rfl,hs,HVs.out,HM.out.1⟩
set_option maxHeartbeats 2000000 in
theorem Ao (f c:Int) (V a0 a1 a2 a3:Nat) (hD:∀w,Calls prog 97 #[.int .i64 f,.agg #[.int .u64 1,.int .u64 0,.int .u64 0,.int .u64 0],.agg #[.int .u64 a0,.int .u64 a1,.int .u64 a2,.int .u64 a3]] w (Ep c V w)) (w:World) :
  Calls prog 79 #[.int .i64 f,.agg #[.int .u64 a0,.int .u64 a1,.int .u64 a2,.int .u64 a3]] w (Ep c V w):=by
 have HD:=Lib.hid hD;clear hD
 go_enter func79,ntmps79
 go_wp2_with fail;have HM:=Lib.hid (((Mem.nil w).new (w.heap.size) a0 a1 a2 a3 25 (by simp)).new (w.heap.size+1) 0 0 0 0 25 (by simp));refine dX (fun wx=>Mem w wx [(w.heap.size,a0,a1,a2,a3)]) 7 (by kernel_rfl) ?_;have HM':=Lib.hid (HM.out.drewN 1);clear HM;have HM:=HM';clear HM';have HS:=HM.out.sub (rs':=[(w.heap.size,a0,a1,a2,a3)]) (by simp);refine aN (i:=0) (v:=.int .i64 f) rfl (by kernel_rfl) (by kernel_rfl) (by kernel_rfl) (by kernel_rfl) (fun _ _ _ h=>h) HS (Or.inl ⟨by kernel_rfl,fun wx hx => ?_⟩) ?_
 ·clear HS hx;go_simp
 simp only[Act.put,List.setIfInBounds_toArray,List.set_cons_zero,List.set_cons_succ];refine aN (i:=2) (v:=.agg #[.int .u64 a0,.int .u64 a1,.int .u64 a2,.int .u64 a3]) rfl (by kernel_rfl) (by kernel_rfl) (by kernel_rfl) (by kernel_rfl) (fun _ _ _ h=>h) HS (Or.inl ⟨by kernel_rfl,fun wx hx => ?_⟩) ?_
 ·have kr:=hx.row (b:=w.heap.size) (c0:=a0) (c1:=a1) (c2:=a2) (c3:=a3) (by simp);have x0:=kr.c0; have x1:=kr.c1; have x2:=kr.c2; have x3:=kr.c3;clear kr HS hx;go_simp
 simp only[Act.put,List.setIfInBounds_toArray,List.set_cons_zero,List.set_cons_succ];clear HS;refine aJ (i:=1) (by kernel_rfl) rfl (fun K hK => ?_);go_simp;refine (tE 1 (by omega) _).mono ?_
 rintro e w1 ⟨rfl,hbl⟩
 have HM':=Lib.hid (HM.out.on hbl);clear HM hbl;have HM:=HM';clear HM';have HS:=HM.out.sub (rs':=[(w.heap.size,a0,a1,a2,a3)]) (by simp);refine hK.out _ _ (Or.inr HS) (fun _ => ?_);clear hK K;clear HS;refine aJ (i:=3) (by kernel_rfl) rfl (fun K hK => ?_);go_simp;refine (HD.out _).mono ?_
 rintro e w2 ⟨s0,s1,s2,s3,rfl,hs,hv,hbl⟩
 have HVs:=Lib.hid hv;clear hv;have HM':=Lib.hid (HM.out.on hbl);clear HM hbl;have HM:=HM';clear HM';have HS:=HM.out.sub (rs':=[(w.heap.size,a0,a1,a2,a3)]) (by simp);refine hK.out _ _ (Or.inr HS) (fun _ => ?_);clear hK K;refine aN (i:=4) (v:=.agg #[.int .u64 s0,.int .u64 s1,.int .u64 s2,.int .u64 s3]) rfl (by kernel_rfl) (by kernel_rfl) (by kernel_rfl) (by kernel_rfl) (fun _ _ _ h=>h) HS (Or.inl ⟨by kernel_rfl,fun wx hx => ?_⟩) ?_
 ·clear HS hx;go_simp
 simp only[Act.put,List.setIfInBounds_toArray,List.set_cons_zero,List.set_cons_succ];refine aN (i:=5) (v:=.int .i64 c) rfl (by kernel_rfl) (by kernel_rfl) (by kernel_rfl) (by kernel_rfl) (fun _ _ _ h=>h) HS (Or.inl ⟨by kernel_rfl,fun wx hx => ?_⟩) ?_
 ·clear HS hx;go_simp
 simp only[Act.put,List.setIfInBounds_toArray,List.set_cons_zero,List.set_cons_succ];clear HS;have kr:=HM.out.row (b:=w.heap.size+1) (c0:=0) (c1:=0) (c2:=0) (c3:=0) (by simp);have y0:=kr.c0; have y1:=kr.c1; have y2:=kr.c2; have y3:=kr.c3; have yf:=kr.fr;clear kr;have yl:=HM.out.lt (b:=w.heap.size+1) (c0:=0) (c1:=0) (c2:=0) (c3:=0) (by simp);refine aJ (i:=6) (by kernel_rfl) rfl (fun K hK => ?_);go_simp;have HM':=Lib.hid ((HM.out.sub (rs':=[(w.heap.size+1,0,0,0,0),(w.heap.size,a0,a1,a2,a3)]) (by simp)).put s0 s1 s2 s3 (by omega) (by intro r hr; simp at hr; rcases hr with rfl<;>simp<;>omega));clear HM;have HM:=HM';clear HM';have HS:=HM.out.sub (rs':=[(w.heap.size,a0,a1,a2,a3)]) (by simp);refine hK.out _ _ (Or.inr HS) (fun _ => ?_);clear hK K;clear HS;refine aJ (i:=7) (by kernel_rfl) rfl (fun K hK => ?_);go_simp;refine hK.out _ _ (Or.inl rfl) (fun _ => ?_);clear hK K;refine cZ (by kernel_rfl) ?_;go_wp2_with fail;refine bodyPost_ret (v:=.tuple #[.agg #[.int .u64 s0,.int .u64 s1,.int .u64 s2,.int .u64 s3],.int .i64 c]) (by simp[results,results79,go_sem, *]) rfl ?_;exact⟨_,_,_,_,rfl,hs,HVs.out,HM.out.1⟩
set_option maxHeartbeats 2000000 in
theorem Ap (f:Int) (F:FC) (hf:FieldIs f F) (a0 a1 a2 a3 n0 n1 n2 n3:Nat) (ha:bY a0 a1 a2 a3) (hn:bY n0 n1 n2 n3) (la:aC a0 a1 a2 a3<F.M) (w:World) :
  Calls prog 75 #[.int .i64 f,.agg #[.int .u64 a0,.int .u64 a1,.int .u64 a2,.int .u64 a3],.agg #[.int .u64 n0,.int .u64 n1,.int .u64 n2,.int .u64 n3]] w (Ep 0 (aC a0 a1 a2 a3^aC n0 n1 n2 n3%F.M) w):=by
 go_enter func75,ntmps75
 go_wp2_with fail;refine (fT f F hf _).mono ?_
 rintro e w1 ⟨rfl,hbl⟩
 have M1:=((((Mem.nil w).new (w.heap.size) a0 a1 a2 a3 25 (by simp)).new (w.heap.size+1) n0 n1 n2 n3 85 (by simp)).new (w.heap.size+1+1) 0 0 0 0 25 (by simp)).on hbl;clear hbl;have z0:w.heap.size<w1.heap.size:=M1.lt (c0:=a0) (c1:=a1) (c2:=a2) (c3:=a3) (by simp);have z1:w.heap.size+1<w1.heap.size:=M1.lt (c0:=n0) (c1:=n1) (c2:=n2) (c3:=n3) (by simp);have z2:w.heap.size+1+1<w1.heap.size:=M1.lt (c0:=0) (c1:=0) (c2:=0) (c3:=0) (by simp);have HM:=Lib.hid (M1.on ((Below.refl _ _).alloc (Nat.le_refl _) (.cells #[.int .u64 F.m0,.int .u64 F.m1,.int .u64 F.m2,.int .u64 F.m3,.int .u64 F.inv,.int .u64 F.s0,.int .u64 F.s1,.int .u64 F.s2,.int .u64 F.s3] 119)));have KK:=Lib.hid (KIs.new w1 F 119);have kr:=M1.row (b:=w.heap.size) (c0:=a0) (c1:=a1) (c2:=a2) (c3:=a3) (by simp);have x0:=kr.c0; have x1:=kr.c1; have x2:=kr.c2; have x3:=kr.c3;clear kr;have xl:=M1.lt (b:=w.heap.size) (c0:=a0) (c1:=a1) (c2:=a2) (c3:=a3) (by simp);go_wp2_with fail;refine (dV F hf.ok w1.heap.size a0 a1 a2 a3 ha _ KK.out).mono ?_
 rintro e w2 ⟨he,hbl⟩
 rw[show BP (aC a0 a1 a2 a3) F.M=true from decide_eq_true la]at he;subst he;have HM':=Lib.hid (HM.out.on hbl);have KK':=Lib.hid (KK.out.same hbl);have zk:=KK'.out.lt;clear HM KK hbl M1;have HM:=HM';have KK:=KK';clear HM' KK';clear x0 x1 x2 x3 xl zk;go_wp2_with fail;refine dX (fun wx=>Mem w wx [(w.heap.size+1,n0,n1,n2,n3),(w.heap.size,a0,a1,a2,a3)]) 6 (by kernel_rfl) ?_;have HM':=Lib.hid (HM.out.drewN 1);have KK':=Lib.hid (KK.out.drewN 1);clear HM KK;have HM:=HM';have KK:=KK';clear HM' KK';have HS:=HM.out.sub (rs':=[(w.heap.size+1,n0,n1,n2,n3),(w.heap.size,a0,a1,a2,a3)]) (by simp);refine aN (i:=0) (v:=.agg #[.int .u64 a0,.int .u64 a1,.int .u64 a2,.int .u64 a3]) rfl (by kernel_rfl) (by kernel_rfl) (by kernel_rfl) (by kernel_rfl) (fun _ _ _ h=>h) HS (Or.inl ⟨by kernel_rfl,fun wx hx => ?_⟩) ?_
 ·have kr:=hx.row (b:=w.heap.size) (c0:=a0) (c1:=a1) (c2:=a2) (c3:=a3) (by simp);have x0:=kr.c0; have x1:=kr.c1; have x2:=kr.c2; have x3:=kr.c3;clear kr HS hx;go_simp
 simp only[Act.put,List.setIfInBounds_toArray,List.set_cons_zero,List.set_cons_succ];refine aN (i:=2) (v:=.agg #[.int .u64 n0,.int .u64 n1,.int .u64 n2,.int .u64 n3]) rfl (by kernel_rfl) (by kernel_rfl) (by kernel_rfl) (by kernel_rfl) (fun _ _ _ h=>h) HS (Or.inl ⟨by kernel_rfl,fun wx hx => ?_⟩) ?_
 ·have kr:=hx.row (b:=w.heap.size+1) (c0:=n0) (c1:=n1) (c2:=n2) (c3:=n3) (by simp);have x0:=kr.c0; have x1:=kr.c1; have x2:=kr.c2; have x3:=kr.c3;clear kr HS hx;go_simp
 simp only[Act.put,List.setIfInBounds_toArray,List.set_cons_zero,List.set_cons_succ];clear HS;refine aJ (i:=1) (by kernel_rfl) rfl (fun K hK => ?_);go_simp;refine (kK F hf.ok w1.heap.size a0 a1 a2 a3 ha _ KK.out).mono ?_
 rintro e w4 ⟨i0,i1,i2,i3,rfl,hi,hv,hbl⟩
 have HVi:=Lib.hid hv;clear hv;have HM':=Lib.hid (HM.out.on hbl);have KK':=Lib.hid (KK.out.same hbl);have zk_w4:=KK'.out.lt;clear HM KK hbl;have HM:=HM';have KK:=KK';clear HM' KK';have HS:=HM.out.sub (rs':=[(w.heap.size+1,n0,n1,n2,n3),(w.heap.size,a0,a1,a2,a3)]) (by simp);refine hK.out _ _ (Or.inr HS) (fun _ => ?_);clear hK K;clear HS;refine aJ (i:=3) (by kernel_rfl) rfl (fun K hK => ?_);go_simp;refine (pZ F hf.ok (aC a0 a1 a2 a3) w1.heap.size i0 i1 i2 i3 n0 n1 n2 n3 hi hn HVi.out _ KK.out).mono ?_
 rintro e w5 ⟨j0,j1,j2,j3,rfl,hj,hv,hbl⟩
 have HVj:=Lib.hid hv;clear hv;have HM':=Lib.hid (HM.out.on hbl);have KK':=Lib.hid (KK.out.same hbl);have zk_w5:=KK'.out.lt;clear HM KK hbl;have HM:=HM';have KK:=KK';clear HM' KK';have HS:=HM.out.sub (rs':=[(w.heap.size+1,n0,n1,n2,n3),(w.heap.size,a0,a1,a2,a3)]) (by simp);refine hK.out _ _ (Or.inr HS) (fun _ => ?_);clear hK K;clear HS;refine aJ (i:=4) (by kernel_rfl) rfl (fun K hK => ?_);go_simp;refine (LH F hf.ok w1.heap.size j0 j1 j2 j3 hj _ KK.out).mono ?_
 rintro e w6 ⟨s0,s1,s2,s3,rfl,hs,hv,hbl⟩
 have HVs:=Lib.hid (show aC s0 s1 s2 s3=aC a0 a1 a2 a3^aC n0 n1 n2 n3%F.M by rw[hv,HVj.out,←tO,Ix hf.ok _ (Nat.mod_lt _ hf.ok.pos)]);clear hv;have HM':=Lib.hid (HM.out.on hbl);have KK':=Lib.hid (KK.out.same hbl);have zk_w6:=KK'.out.lt;clear HM KK hbl;have HM:=HM';have KK:=KK';clear HM' KK';have HS:=HM.out.sub (rs':=[(w.heap.size+1,n0,n1,n2,n3),(w.heap.size,a0,a1,a2,a3)]) (by simp);refine hK.out _ _ (Or.inr HS) (fun _ => ?_);clear hK K;clear HS;have kr:=HM.out.row (b:=w.heap.size+1+1) (c0:=0) (c1:=0) (c2:=0) (c3:=0) (by simp);have y0:=kr.c0; have y1:=kr.c1; have y2:=kr.c2; have y3:=kr.c3; have yf:=kr.fr;clear kr;have yl:=HM.out.lt (b:=w.heap.size+1+1) (c0:=0) (c1:=0) (c2:=0) (c3:=0) (by simp);refine aJ (i:=5) (by kernel_rfl) rfl (fun K hK => ?_);go_simp;have HM':=Lib.hid ((HM.out.sub (rs':=[(w.heap.size+1+1,0,0,0,0),(w.heap.size+1,n0,n1,n2,n3),(w.heap.size,a0,a1,a2,a3)]) (by simp)).put s0 s1 s2 s3 (by omega) (by intro r hr; simp at hr; rcases hr with rfl|rfl<;>simp<;>omega));clear HM;have HM:=HM';clear HM';have HS:=HM.out.sub (rs':=[(w.heap.size+1,n0,n1,n2,n3),(w.heap.size,a0,a1,a2,a3)]) (by simp);refine hK.out _ _ (Or.inr HS) (fun _ => ?_);clear hK K;clear HS;refine aJ (i:=6) (by kernel_rfl) rfl (fun K hK => ?_);go_simp;refine hK.out _ _ (Or.inl rfl) (fun _ => ?_);clear hK K;refine cZ (by kernel_rfl) ?_;go_wp2_with fail;refine bodyPost_ret (v:=.tuple #[.agg #[.int .u64 s0,.int .u64 s1,.int .u64 s2,.int .u64 s3],.int .i64 0]) (by simp[results,results75,go_sem, *]) rfl ?_;exact⟨_,_,_,_,rfl,hs,HVs.out,HM.out.1⟩
end Go.Proofs.Ytjjnbgoepbiojaa
namespace Go.Proofs.Ytjjnbgoepbiojaa.Ex
open Go.Proofs.Try
open Go.RowKit
abbrev RM:Nat:=Go.Proofs.Ytjjnbgoepbiojaa.FR.M
abbrev aT:Nat:=115792089237316195423570985008687907853269984665640564039457584007913129639936
theorem eQ {x:Nat} (h:x<RM):x<aT:=Nat.lt_trans h (by decide)
theorem fD:0<RM:=by decide
def jB (x y:Nat):Nat:=(x+y)%RM
def lV (x y:Nat):Nat:=(x+RM-y)%RM
def cS (x y:Nat):Nat:=x*y%RM
def gJ (x n:Nat):Nat:=x^n%RM
def fJ (x:Nat):Nat:=1*(x^(RM-2))%RM
theorem nM (x y:Nat):jB x y<RM:=Nat.mod_lt _ fD
theorem iK (x y:Nat):lV x y<RM:=Nat.mod_lt _ fD
theorem cL (x y:Nat):cS x y<RM:=Nat.mod_lt _ fD
theorem eB (x y:Nat):gJ x y<RM:=Nat.mod_lt _ fD
theorem jH (x:Nat):fJ x<RM:=Nat.mod_lt _ fD
theorem nT:FieldIs 2 Go.Proofs.Ytjjnbgoepbiojaa.FR:=Or.inr ⟨rfl,rfl⟩
theorem pP {x:Nat} (h:x<RM):aC (fw x 0) (fw x 1) (fw x 2) (fw x 3)=x:=fZ (eQ h)
def Dx (op:Nat→Nat→Nat):iR
 | [.v (.im (.int .i64 2)),.v (.fl l),.v (.fl m)]=>match jQ l,jQ m with
  | some x,some y=>some ([x<RM,y<RM],.many [.fl [.q (op x y)],.im (.int .i64 0)])
  | _,_=>none
 | _=>none
theorem FM {fid:FuncId} {op:Nat→Nat→Nat} (hlt:∀x y,op x y<RM) (h:∀x y,x<RM→y<RM→∀w,Calls prog fid #[.int .i64 2,.agg (aB [At.q x]).toArray,.agg (aB [At.q y]).toArray] w (Ep 0 (op x y) w)) :
  ∀cs pre r,Dx op cs=some (pre,r)→aQ pre→∀(args:List Value) (w:World),cF w cs args→Good prog fid r args w:=by
 intro cs pre r hg hp args w ha;unfold Dx at hg;split at hg
 ·rename_i l m;split at hg
  ·rename_i x y hx hy;cases hg
   match args,ha with
   | [t,v,u],ha =>
    obtain⟨h1,h2,h3,_⟩:=ha;have h1:t=.int .i64 2:=h1;have h2:v=.agg (aB l).toArray:=h2;have h3:u=.agg (aB m).toArray:=h3;rw[bL l x hx]at h2;rw[bL m y hy]at h3;subst h1; subst h2; subst h3;refine (h x y hp.1 hp.2.1 w).mono ?_
    rintro e w' ⟨s0,s1,s2,s3,rfl,hs,hv,hb⟩
    obtain⟨rfl,rfl,rfl,rfl⟩:=jW hs (eQ (hlt x y)) hv;exact⟨rfl,hb⟩
   | [],ha=>exact ha.elim
   | [_],ha=>exact ha.2.elim
   | [_,_],ha=>exact ha.2.2.elim
   | _::_::_::_::_,ha=>exact ha.2.2.2.elim
  ·cases hg
 ·cases hg
theorem Qq:∀cs pre r,Dx jB cs=some (pre,r)→aQ pre→∀(args:List Value) (w:World),cF w cs args→Good prog 99 r args w :=
 FM nM fun x y hx hy w=>by
  have:=Ar 2 _ nT _ _ _ _ _ _ _ _ (dY x) (dY y) (by rw[pP hx]; exact hx) (by rw[pP hy]; exact hy) w;rw[pP hx,pP hy]at this;exact this
theorem Qn:∀cs pre r,Dx lV cs=some (pre,r)→aQ pre→∀(args:List Value) (w:World),cF w cs args→Good prog 84 r args w :=
 FM iK fun x y hx hy w=>by
  have:=Am 2 _ nT _ _ _ _ _ _ _ _ (dY x) (dY y) (by rw[pP hx]; exact hx) (by rw[pP hy]; exact hy) w;rw[pP hx,pP hy]at this;exact this
theorem Qo:∀cs pre r,Dx cS cs=some (pre,r)→aQ pre→∀(args:List Value) (w:World),cF w cs args→Good prog 83 r args w :=
 FM cL fun x y hx hy w=>by
  have:=An 2 _ nT _ _ _ _ _ _ _ _ (dY x) (dY y) (by rw[pP hx]; exact hx) (by rw[pP hy]; exact hy) w;rw[pP hx,pP hy]at this;exact this
def DE (x:Nat):Int:=if x<RM then 0 else 21
def Kn:iR
 | [.v (.im (.int .i64 2)),.v (.fl l)]=>match jQ l with
  | some x=>some ([x<aT],.one (.im (.int .i64 (DE x))))
  | none=>none
 | _=>none
theorem XP:∀cs pre r,Kn cs=some (pre,r)→aQ pre→∀(args:List Value) (w:World),cF w cs args→Good prog 98 r args w:=by
 intro cs pre r hg hp args w ha;unfold Kn at hg;split at hg
 ·rename_i l;split at hg
  ·rename_i x hx;cases hg
   match args,ha with
   | [t,v],ha =>
    obtain⟨h1,h2,_⟩:=ha;have h1:t=.int .i64 2:=h1;have h2:v=.agg (aB l).toArray:=h2;rw[bL l x hx]at h2;subst h1; subst h2;unfold DE
    by_cases h:x<RM
    ·rw[if_pos h];exact MG 2 _ nT _ _ _ _ (dY x) (by rw[fZ hp.1]; exact h) w
    ·rw[if_neg h];exact FZ 2 21 _ _ _ _ (dY x) (Or.inr ⟨_,nT,by rw[fZ hp.1]; exact h,rfl⟩) w
   | [],ha=>exact ha.elim
   | [_],ha=>exact ha.2.elim
   | _::_::_::_,ha=>exact ha.2.2.elim
  ·cases hg
 ·cases hg
def Kc:iR
 | [.v (.im (.int .i64 2)),.v (.fl l)]=>match jQ l with
  | some x=>some ([x<RM,x≠0],.many [.fl [.q (fJ x)],.im (.int .i64 0)])
  | none=>none
 | _=>none
theorem Qp:∀cs pre r,Kc cs=some (pre,r)→aQ pre→∀(args:List Value) (w:World),cF w cs args→Good prog 79 r args w:=by
 intro cs pre r hg hp args w ha;unfold Kc at hg;split at hg
 ·rename_i l;split at hg
  ·rename_i x hx;cases hg
   match args,ha with
   | [t,v],ha =>
    obtain⟨h1,h2,_⟩:=ha;have h1:t=.int .i64 2:=h1;have h2:v=.agg (aB l).toArray:=h2;rw[bL l x hx]at h2;subst h1; subst h2;refine (Ao 2 0 (fJ x) _ _ _ _ (fun w => ?_) w).mono ?_
    ·have:=Aq 2 _ nT 1 0 0 0 _ _ _ _ (by unfold bY; decide) (dY x) (by decide) (by rw[pP hp.1]; exact hp.1) (by rw[pP hp.1]; exact hp.2.1) w;rw[pP hp.1]at this;exact this
    rintro e w' ⟨s0,s1,s2,s3,rfl,hs,hv,hb⟩
    obtain⟨rfl,rfl,rfl,rfl⟩:=jW hs (eQ (jH x)) hv;exact⟨rfl,hb⟩
   | [],ha=>exact ha.elim
   | [_],ha=>exact ha.2.elim
   | _::_::_::_,ha=>exact ha.2.2.elim
  ·cases hg
 ·cases hg
def Jz:iR
 | [.v (.im (.int .i64 2)),.v (.fl l),.v (.fl m)]=>match jQ l,jQ m with
  | some x,some y=>some ([x<RM,y<aT],.many [.fl [.q (gJ x y)],.im (.int .i64 0)])
  | _,_=>none
 | _=>none
theorem Da:∀cs pre r,Jz cs=some (pre,r)→aQ pre→∀(args:List Value) (w:World),cF w cs args→Good prog 75 r args w:=by
 intro cs pre r hg hp args w ha;unfold Jz at hg;split at hg
 ·rename_i l m;split at hg
  ·rename_i x y hx hy;cases hg
   match args,ha with
   | [t,v,u],ha =>
    obtain⟨h1,h2,h3,_⟩:=ha;have h1:t=.int .i64 2:=h1;have h2:v=.agg (aB l).toArray:=h2;have h3:u=.agg (aB m).toArray:=h3;rw[bL l x hx]at h2;rw[bL m y hy]at h3;subst h1; subst h2; subst h3;have h:=Ap 2 _ nT _ _ _ _ _ _ _ _ (dY x) (dY y) (by rw[pP hp.1]; exact hp.1) w;rw[pP hp.1,fZ hp.2.1]at h;refine h.mono ?_
    rintro e w' ⟨s0,s1,s2,s3,rfl,hs,hv,hb⟩
    obtain⟨rfl,rfl,rfl,rfl⟩:=jW hs (eQ (eB x y)) hv;exact⟨rfl,hb⟩
   | [],ha=>exact ha.elim
   | [_],ha=>exact ha.2.elim
   | [_,_],ha=>exact ha.2.2.elim
   | _::_::_::_::_,ha=>exact ha.2.2.2.elim
  ·cases hg
 ·cases hg
def LY:iR
 | [.v (.im (.int .u64 (.ofNat n)))]=>some ([n<18446744073709551616],.one (.fl [.q n]))
 | _=>none
theorem Zl:∀cs pre r,LY cs=some (pre,r)→aQ pre→∀(args:List Value) (w:World),cF w cs args→Good prog 58 r args w:=by
 intro cs pre r hg hp args w ha;unfold LY at hg;split at hg
 ·rename_i n;cases hg
  match args,ha with
  | [t],ha =>
   have h1:t=.int .u64 (Int.ofNat n):=ha.1;subst h1;refine (tE n hp.1 w).mono ?_
   rintro e w' ⟨rfl,hb⟩
   refine⟨?_,hb⟩;obtain⟨e0,e1,e2,e3⟩:=jW (s0:=n) (s1:=0) (s2:=0) (s3:=0) (x:=n) ⟨hp.1,by omega,by omega,by omega⟩ (by have:=hp.1; omega) (by unfold aC; omega);show Ending.returned _=Ending.returned (.agg #[.int .u64 (fw n 0:Nat),.int .u64 (fw n 1:Nat),.int .u64 (fw n 2:Nat),.int .u64 (fw n 3:Nat)]);rw[←e0,←e1,←e2,←e3];rfl
  | [],ha=>exact ha.elim
  | _::_::_,ha=>exact ha.2.elim
 ·cases hg
def GQ:Tab:=((((((T0.add 99 (Dx jB)).add 84 (Dx lV)).add 83 (Dx cS)).add 98 Kn).add 79 Kc).add 75 Jz).add 58 LY
theorem vW:TabOk prog GQ:=(((((((Xe _).add func99 (by kernel_rfl) (by kernel_rfl) Qq).add func84 (by kernel_rfl) (by kernel_rfl) Qn).add func83 (by kernel_rfl) (by kernel_rfl) Qo).add func98 (by kernel_rfl) (by kernel_rfl) XP).add func79 (by kernel_rfl) (by kernel_rfl) Qp).add func75 (by kernel_rfl) (by kernel_rfl) Da).add func58 (by kernel_rfl) (by kernel_rfl) Zl
def el (f:Nat→Nat) (j:Nat):List At:=[.q (f j)]
def LV (w:World) (v:Value) (N:Nat) (f:Nat→Nat):Prop:=∃p m,v=.slice p N m∧N≤m∧(∀j,j<N→f j<aT)∧(0<N→∃b o,p=some ⟨b,o,none⟩∧b<w.heap.size∧w.rangeAt b o (aB (aR (el f) 0 N)))
theorem LV.on {w w':World} {v:Value} {N:Nat} {f:Nat→Nat} (h:LV w v N f) (hb:Below w.heap.size w w'):LV w' v N f:=by
 obtain⟨p,m,h1,h2,h3,h4⟩:=h;exact⟨p,m,h1,h2,h3,fun h=>by
  obtain⟨b,o,e,h5,h6⟩:=h4 h;exact⟨b,o,e,Nat.lt_of_lt_of_le h5 hb.size,cI hb h5 h6⟩⟩
theorem LV.ofS {w:World} {l:List At} {n m N:Nat} {f:Nat→Nat} {v:Value} (h:CA.ok w (.s l n m) v) (h1:aB l=aB (aR (el f) 0 N)) (h2:n=N) (h3:N≤m) (h4:∀j,j<N→f j<aT):LV w v N f:=by
 obtain⟨b,o,rfl,hb,hr⟩:=h;rw[h1]at hr;exact⟨_,m,by rw[h2],h3,h4,fun _=>⟨b,o,rfl,hb,hr⟩⟩
theorem LV.nil (w:World) (f:Nat→Nat):LV w (.slice none 0 0) 0 f:=⟨none,0,rfl,Nat.le_refl _,fun j h=>by omega,fun h=>by omega⟩
theorem dU {w:World} {b o N i:Nat} {f:Nat→Nat} (hb:b<w.heap.size) (hr:w.rangeAt b o (aB (aR (el f) 0 N))) (hi:i<N):oldOf w b (o+i*4) [.q (f i)] :=
 ⟨hb,vP (f:=el f) (c:=4) (fun _=>rfl) hi hr⟩
def xO (w:World) (idx:Nat→Option Nat) (ld:Nat→Option (List At)) (gen:Nat→Option Value):Ext:={ Ext.none with idx:=idx,ld:=ld,gen:=gen,old:=oldOf w,T2:=rG,T3:=KG,T4:=KB,T5:=KE,T6:=KF }
theorem cW (w:World) (idx:Nat→Option Nat) (ld:Nat→Option (List At)) (gen:Nat→Option Value):bH prog { qG prog with x:=xO w idx ld gen } w.heap.size w :=
 ⟨(aY _).1,fL (fun b o l h=>h) (fun w' _=>FrAt.none _ _) (fun w' _=>FsAt.none _ _)⟩
def gE1 (op:Nat→Nat) (c:Nat→List Prop):iR
 | [.v (.fl l)]=>match jQ l with|some x=>some (c x,.one (.fl [.q (op x)]))|none=>none
 | _=>none
def Tp (op:Nat→Nat→Nat) (c:Nat→Nat→List Prop):iR
 | [.v (.fl l),.v (.fl m)]=>match jQ l,jQ m with|some x,some y=>some (c x y,.one (.fl [.q (op x y)]))|_,_=>none
 | _=>none
def Bq (x y:Nat):List Prop:=[x<RM,y<RM]
theorem FU {f:FuncId} {op:Nat→Nat→Nat} {c:Nat→Nat→List Prop} (h:∀x y,aQ (c x y)→∀args w,cF w [.v (.fl [.q x]),.v (.fl [.q y])] args→Good prog f (.one (.fl [.q (op x y)])) args w) :
  ∀cs pre r,Tp op c cs=some (pre,r)→aQ pre→∀(args:List Value) (w:World),cF w cs args→Good prog f r args w:=by
 intro cs pre r hg hp args w ha;unfold Tp at hg;split at hg
 ·rename_i l m;split at hg
  ·rename_i x y hx hy;cases hg;refine h x y hp args w ?_
   match args,ha with
   | [v,u],ha =>
    refine⟨?_,?_,trivial⟩
    ·show v=.agg (aB (q1 x)).toArray;rw[←bL l x hx]; exact ha.1
    ·show u=.agg (aB (q1 y)).toArray;rw[←bL m y hy]; exact ha.2.1
   | [],ha=>exact ha.elim
   | [_],ha=>exact ha.2.elim
   | _::_::_::_,ha=>exact ha.2.2.elim
  ·cases hg
 ·cases hg
theorem Kj {f:FuncId} {op:Nat→Nat} {c:Nat→List Prop} (h:∀x,aQ (c x)→∀args w,cF w [.v (.fl [.q x])] args→Good prog f (.one (.fl [.q (op x)])) args w) :
  ∀cs pre r,gE1 op c cs=some (pre,r)→aQ pre→∀(args:List Value) (w:World),cF w cs args→Good prog f r args w:=by
 intro cs pre r hg hp args w ha;unfold gE1 at hg;split at hg
 ·rename_i l;split at hg
  ·rename_i x hx;cases hg;refine h x hp args w ?_
   match args,ha with
   | [v],ha =>
    refine⟨?_,trivial⟩;show v=.agg (aB (q1 x)).toArray;rw[←bL l x hx]; exact ha.1
   | [],ha=>exact ha.elim
   | _::_::_,ha=>exact ha.2.elim
  ·cases hg
 ·cases hg
theorem ON (x y:Nat):yK prog GQ (qG prog) (fun _=>true) f82 40 [.v (.fl [.q x]),.v (.fl [.q y])]=some ([x<RM,y<RM],.one (.fl [.q (jB x y)])):=by kernel_rfl
theorem KT (x y:Nat):yK prog GQ (qG prog) (fun _=>true) f57 40 [.v (.fl [.q x]),.v (.fl [.q y])]=some ([x<RM,y<RM],.one (.fl [.q (lV x y)])):=by kernel_rfl
theorem KS (x y:Nat):yK prog GQ (qG prog) (fun _=>true) f56 40 [.v (.fl [.q x]),.v (.fl [.q y])]=some ([x<RM,y<RM],.one (.fl [.q (cS x y)])):=by kernel_rfl
theorem zX (x:Nat):yK prog GQ (qG prog) (fun _=>true) f47 40 [.v (.fl [.q x])]=some ([x<RM,x≠0],.one (.fl [.q (fJ x)])):=by kernel_rfl
theorem OM:yK prog GQ (qG prog) (fun _=>true) f36 40 []=some ([1<18446744073709551616],.one (.fl [.q 1])):=by kernel_rfl
def dW:Tab:=((((GQ.add 82 (Tp jB Bq)).add 57 (Tp lV Bq)).add 56 (Tp cS Bq)).add 47 (gE1 fJ fun x=>[x<RM,x≠0])).add 36 (g0 (.one (.fl [.q 1])))
theorem bG:TabOk prog dW:=((((vW.add func82 (by kernel_rfl) (by kernel_rfl) (FU fun x y h args w ha=>fS aG vW (aY _) func82 (ON x y) h ha)).add
 func57 (by kernel_rfl) (by kernel_rfl) (FU fun x y h args w ha=>fS aG vW (aY _) func57 (KT x y) h ha)).add
 func56 (by kernel_rfl) (by kernel_rfl) (FU fun x y h args w ha=>fS aG vW (aY _) func56 (KS x y) h ha)).add
 func47 (by kernel_rfl) (by kernel_rfl) (Kj fun x h args w ha=>fS aG vW (aY _) func47 (zX x) h ha)).add
 func36 (by kernel_rfl) (by kernel_rfl) (BW fun w=>fS aG vW (aY _) func36 OM ⟨by omega,trivial⟩ (args:=[]) trivial)
def GP (v:Value) (N i:Nat):List Fact:=[.slot 5 (.im v),.slot 6 (.im (iI N)),.slot 7 (.im (iI i))]
def jN:Code:=(f81.body).getD .skip
def uO:Code:=gH (gH (cB (cA (cB jN))))
theorem Cf:jN=.seq (cA jN) (.seq (.seq (cA (cA (cB jN))) (.block 0 (.loop uO))) (cB (cB jN))):=by kernel_rfl
def cG (num:Nat→Option Value) (_:Nat):Cfg:=⟨fun _=>dW,fun _=>true,num⟩
theorem Ww (v:Value):aH prog (qG prog) f81.ntmps (cG fun _=>none) 40 (cA jN) (eF 0 [.v (.im v)]) [.slot 0 (.im v)]=some ([],.nrm,[.slot 0 (.im v)]):=by kernel_rfl
theorem Wv (p:Option Addr) (N m:Nat):aH prog (qG prog) f81.ntmps (cG fun _=>none) 40 (cA (cA (cB jN))) [.slot 0 (.im (.slice p N m))] (GP (.slice p N m) N 0)=some ([],.nrm,GP (.slice p N m) N 0):=by kernel_rfl
theorem Wx (w:World) (b o N m i x:Nat):aH prog { qG prog with x:=xO w (aE [(9,i)]) (aE [(10,[.q x])]) (fun _=>none) } f81.ntmps (cG (aE [(8,.bool true),(13,.bool false),(14,iI (i+1))])) 40 uO (GP (aZ b o N m) N i) (GP (aZ b o N m) N (i+1))=some ([aD .lss .i64 (Int.ofNat i) (Int.ofNat N)=some (.bool true),Int.ofNat i=Int.ofNat i,i<N,oldOf w b (o+i*4) [.q x],cR [.q x]=4,x<aT,aD .neq .i64 (DE x) 0=some (.bool false),aD .add .i64 (Int.ofNat i) 1=some (iI (i+1))],.nrm,GP (aZ b o N m) N (i+1)):=by kernel_rfl
theorem Wy (w:World) (b o N m i x:Nat):aH prog { qG prog with x:=xO w (aE [(9,i)]) (aE [(10,[.q x])]) (fun _=>none) } f81.ntmps (cG (aE [(8,.bool true),(13,.bool true)])) 40 uO (GP (aZ b o N m) N i) [.slot 2 (.im (.bool false))]=some ([aD .lss .i64 (Int.ofNat i) (Int.ofNat N)=some (.bool true),Int.ofNat i=Int.ofNat i,i<N,oldOf w b (o+i*4) [.q x],cR [.q x]=4,x<aT,aD .neq .i64 (DE x) 0=some (.bool true)],.rt,[.slot 2 (.im (.bool false))]):=by kernel_rfl
theorem Mc (v:Value) (N i:Nat):aH prog (qG prog) f81.ntmps (cG (aE [(8,.bool false)])) 40 uO (GP v N i) (GP v N i)=some ([aD .lss .i64 (Int.ofNat i) (Int.ofNat N)=some (.bool false)],.ex 0,GP v N i):=by kernel_rfl
theorem Ce (v:Value) (N i:Nat):aH prog (qG prog) f81.ntmps (cG fun _=>none) 40 (cB (cB jN)) (GP v N i) [.slot 2 (.im (.bool true))]=some ([],.rt,[.slot 2 (.im (.bool true))]):=by kernel_rfl
theorem Ll {x:Nat} (h:x<RM):aD .neq .i64 (DE x) 0=some (.bool false):=by unfold DE; rw[if_pos h]; rfl
theorem Bi {x:Nat} (h:¬x<RM):aD .neq .i64 (DE x) 0=some (.bool true):=by unfold DE; rw[if_neg h]; rfl
theorem eH {p:Nat→Prop} [DecidablePred p]:∀{N:Nat},(¬ ∀j,j<N→p j)→∃j,j<N∧(∀k,k<j→p k)∧¬p j:=by
 intro N
 induction N with
 | zero=>exact fun h=>(h fun j hj=>by omega).elim
 | succ N ih =>
  intro h
  by_cases h0:∀j,j<N→p j
  ·refine⟨N,by omega,h0,fun hp=>h fun j hj => ?_⟩
   by_cases e:j=N
   ·rw[e]; exact hp
   ·exact h0 j (by omega)
  ·obtain⟨j,h1,h2⟩:=ih h0;exact⟨j,by omega,h2⟩
theorem KA {w0:World} {b o N m i:Nat} {f:Nat→Nat} (hb:b<w0.heap.size) (hr:w0.rangeAt b o (aB (aR (el f) 0 N))) (hN:N≤4611686018427387904) (hi:i<N) (hx:f i<aT) (h:f i<RM):Ok prog w0.heap.size w0 f81.ntmps uO (GP (aZ b o N m) N i) .nrm (GP (aZ b o N m) N (i+1)) :=
 ⟨_,_,_,_,cW w0 _ _ _,fun _ _=>bG.w _ _,Wx w0 b o N m i (f i),bV hi,rfl,hi,dU hb hr hi,rfl,hx,Ll h,eT (k:=1) (by omega),trivial⟩
def bT (N:Nat) (f:Nat→Nat):Prop:=∀j,j<N→f j<RM
instance (N:Nat) (f:Nat→Nat):Decidable (bT N f):=Nat.decidableBallLT N fun j _=>f j<RM
theorem TN {w0:World} {v:Value} {N:Nat} {f:Nat→Nat} (hv:LV w0 v N f) (hN:N≤4611686018427387904):Good prog 81 (.one (.im (.bool (decide (bT N f))))) [v] w0:=by
 obtain⟨p,m,rfl,hm,h256,hmem⟩:=hv;have hG:bH prog (qG prog) w0.heap.size w0:=(aY _).w _ _;have hT:∀n d:Nat,TabOkW prog dW w0.heap.size w0:=fun _ _=>bG.w _ _
 refine bJ func81 (cs:=[.v (.im (.slice p N m))]) (args:=[.slice p N m]) (c:=jN) rfl ⟨rfl,trivial⟩ (Nat.le_of_ble_eq_true (by kernel_rfl)) fun a w' hA => ?_
 rw[Cf];refine wp_seq (aA aG hT hG (Ww _) trivial hA fun a w' hA => ?_);refine wp_seq (wp_seq (aA aG hT hG (Wv p N m) trivial hA fun a w' hA => ?_));refine wp_block ?_;have fin:∀(P Q:Exit→Act→World→Prop) e a w,P e a w→(∀e a w,P e a w→Q e a w)→Q e a w:=fun P Q e a w h k=>k e a w h
 by_cases h:bT N f
 ·rw[decide_eq_true h];refine cE aG (fun i=>GP (.slice p N m) N i) N (fun i hi => ?_) (.ex 0) (by simp) (GP (.slice p N m) N N) ⟨_,_,_,_,hG,hT,Mc _ N N,dI (Nat.le_refl _),trivial⟩ hA fun a w hA => ?_
  ·obtain⟨b,o,rfl,hb,hr⟩:=hmem (by omega);exact KA hb hr hN hi (h256 i hi) (h i hi)
  ·show (cB (cB jN)).wp _ _ _ _;exact aA aG hT hG (Ce _ N N) trivial hA fun a w' hA=>aW (l:=[.im (.bool true)]) (r:=.one (.im (.bool true))) (by kernel_rfl) (by kernel_rfl) hA
 ·rw[decide_eq_false h];obtain⟨j,hj,h1,h2⟩:=eH (p:=fun j=>f j<RM) h;obtain⟨b,o,rfl,hb,hr⟩:=hmem (by omega);refine cE aG (fun i=>GP (aZ b o N m) N i) j (fun i hi=>KA hb hr hN (by omega) (h256 i (by omega)) (h1 i hi)) .rt (by simp) [.slot 2 (.im (.bool false))] ⟨_,_,_,_,cW w0 _ _ _,hT,Wy w0 b o N m j (f j),bV hj,rfl,hj,dU hb hr hj,rfl,h256 j hj,Bi h2,trivial⟩ hA fun a w hA => ?_
  exact aW (l:=[.im (.bool false)]) (r:=.one (.im (.bool false))) (by kernel_rfl) (by kernel_rfl) hA
def nZ (f:Nat→Nat) (N i:Nat):Nat:=if i<N then f i else 0
theorem Gl (w:World) (b o N m i x:Nat):eU prog { qG prog with x:=xO w (aE [(11,i)]) (aE [(12,[.q x])]) (fun _=>none) } (cG (aE [(8,.bool true)])) f53 40 [.v (.im (aZ b o N m)),.v (.im (iI i))]=some ([aD .lss .i64 (Int.ofNat i) (Int.ofNat N)=some (.bool true),Int.ofNat i=Int.ofNat i,i<N,oldOf w b (o+i*4) [.q x],cR [.q x]=4],.one (.fl [.q x])):=by kernel_rfl
theorem WT (p:Option Addr) (N m i:Nat):eU prog (qG prog) (cG (aE [(8,.bool false)])) f53 40 [.v (.im (.slice p N m)),.v (.im (iI i))]=some ([aD .lss .i64 (Int.ofNat i) (Int.ofNat N)=some (.bool false)],.one (.fl [.f ⟨0,cY⟩])):=by kernel_rfl
theorem CS {w0:World} {v:Value} {N i:Nat} {f:Nat→Nat} (hv:LV w0 v N f):Good prog 53 (.one (.fl [.q (nZ f N i)])) [v,iI i] w0:=by
 obtain⟨p,m,rfl,hm,h256,hmem⟩:=hv;unfold nZ
 by_cases h:i<N
 ·rw[if_pos h];obtain⟨b,o,rfl,hb,hr⟩:=hmem (by omega);exact bQ aG (fun _ _=>bG.w _ _) (cW w0 _ _ _) func53 (Gl w0 b o N m i (f i)) ⟨bV h,rfl,h,dU hb hr h,rfl,trivial⟩ (args:=[aZ b o N m,iI i]) ⟨rfl,rfl,trivial⟩
 ·rw[if_neg h];exact bQ aG (fun _ _=>bG.w _ _) ((aY _).w _ _) func53 (WT p N m i) ⟨dI (by omega),trivial⟩ (args:=[.slice p N m,iI i]) ⟨rfl,rfl,trivial⟩
def aF (f:Nat→Nat):Nat→Nat
 | 0=>0
 | n+1=>if f n=0 then aF f n else n+1
theorem cC (f:Nat→Nat):∀n,aF f n≤n
 | 0=>Nat.le_refl _
 | n+1=>by
  unfold aF;have:=cC f n;split<;>omega
theorem lO (f:Nat→Nat):∀n i,aF f n≤i→i<n→f i=0
 | n+1,i,h,hi=>by
  unfold aF at h
  by_cases h0:f n=0
  ·rw[if_pos h0]at h
   by_cases e:i=n
   ·rw[e]; exact h0
   ·exact lO f n i h (by omega)
  ·rw[if_neg h0]at h; omega
theorem iC (f:Nat→Nat):∀n,0<aF f n→f (aF f n-1)≠0
 | 0,h=>absurd h (Nat.lt_irrefl 0)
 | n+1,h=>by
  unfold aF at h ⊢
  by_cases h0:f n=0
  ·rw[if_pos h0]at h ⊢; exact iC f n h
  ·rw[if_neg h0]; exact h0
theorem iS {x:Nat} (hx:x<aT):aB [At.q x]=aB [At.f ⟨0,cY⟩]↔x=0:=by
 constructor
 ·intro h;have h2:w4 x=w4 0:=by
   have h3:w4 x++[]=w4 0++[]:=h;simpa using h3
  unfold w4 at h2;simp only[List.cons.injEq,Value.int.injEq,true_and,and_true]at h2;obtain⟨e0,e1,e2,e3⟩:=h2;have h3:=fZ hx;have h4:=fZ (x:=0) (by omega);have c0:fw x 0=fw 0 0:=by omega
  have c1:fw x 1=fw 0 1:=by omega
  have c2:fw x 2=fw 0 2:=by omega
  have c3:fw x 3=fw 0 3:=by omega
  rw[c0,c1,c2,c3,h4]at h3;exact h3.symm
 ·rintro rfl
  rfl
def mV (v:Value) (i:Nat):List Fact:=[.slot 0 (.im v),.slot 3 (.im (iI i))]
def jK:Code:=(f33.body).getD .skip
def yA:Code:=gH (gH (cA (cB (cB jK))))
theorem YK:jK=.seq (cA jK) (.seq (cA (cB jK)) (.seq (.block 0 (.loop yA)) (cB (cB (cB jK))))):=by kernel_rfl
theorem Sa (p:Option Addr) (N m:Nat):aH prog (qG prog) f33.ntmps (cG fun _=>none) 40 (cA jK) (eF 0 [.v (.im (.slice p N m))]) [.slot 0 (.im (.slice p N m))]=some ([],.nrm,[.slot 0 (.im (.slice p N m))]):=by kernel_rfl
theorem Rz (p:Option Addr) (N m:Nat):aH prog (qG prog) f33.ntmps (cG fun _=>none) 40 (cA (cB jK)) [.slot 0 (.im (.slice p N m))] (mV (.slice p N m) N)=some ([],.nrm,mV (.slice p N m) N):=by kernel_rfl
def Dk (h:Bool) (num:Nat→Option Value) (_:Nat):Cfg:=⟨fun _=>dW,fun _=>h,num⟩
theorem Sb (w:World) (b o N m i x:Nat):aH prog { qG prog with x:=xO w (aE [(12,i)]) (aE [(13,[.q x])]) (fun _=>none) } f33.ntmps (Dk true (aE [(7,.bool true),(11,iI i),(18,iI i)])) 40 yA (mV (aZ b o N m) (i+1)) (mV (aZ b o N m) i)=some ([aD .gtr .i64 (Int.ofNat (i+1)) 0=some (.bool true),aD .sub .i64 (Int.ofNat (i+1)) 1=some (iI i),Int.ofNat i=Int.ofNat i,i<N,oldOf w b (o+i*4) [.q x],cR [.q x]=4,aB [.q x]=aB [.f ⟨0,cY⟩],aD .sub .i64 (Int.ofNat (i+1)) 1=some (iI i)],.nrm,mV (aZ b o N m) i):=by kernel_rfl
theorem Im (w:World) (b o N m i x:Nat):aH prog { qG prog with x:=xO w (aE [(12,i)]) (aE [(13,[.q x])]) (fun _=>none) } f33.ntmps (Dk false (aE [(7,.bool true),(11,iI i),(18,iI i)])) 40 yA (mV (aZ b o N m) (i+1)) (mV (aZ b o N m) (i+1))=some ([aD .gtr .i64 (Int.ofNat (i+1)) 0=some (.bool true),aD .sub .i64 (Int.ofNat (i+1)) 1=some (iI i),Int.ofNat i=Int.ofNat i,i<N,oldOf w b (o+i*4) [.q x],cR [.q x]=4,aB [.q x]≠aB [.f ⟨0,cY⟩]],.ex 0,mV (aZ b o N m) (i+1)):=by kernel_rfl
theorem Io (v:Value):aH prog (qG prog) f33.ntmps (Dk true (aE [(7,.bool false)])) 40 yA (mV v 0) (mV v 0)=some ([aD .gtr .i64 (Int.ofNat 0) 0=some (.bool false)],.ex 0,mV v 0):=by kernel_rfl
theorem YJ (v:Value) (i:Nat):aH prog (qG prog) f33.ntmps (cG fun _=>none) 40 (cB (cB (cB jK))) (mV v i) [.slot 2 (.im (iI i))]=some ([],.rt,[.slot 2 (.im (iI i))]):=by kernel_rfl
theorem tF {i:Nat}:aD .gtr .i64 (Int.ofNat (i+1)) 0=some (.bool true):=by
 have:=@oJ (i+1) 0;rw[decide_eq_true (Nat.succ_pos _)]at this;exact this
theorem nQ {i:Nat} (h:i<4611686018427387904):aD .sub .i64 (Int.ofNat (i+1)) 1=some (iI i):=QE (k:=1) (by omega) (by omega)
theorem QN {w0:World} {v:Value} {N:Nat} {f:Nat→Nat} (hv:LV w0 v N f) (hN:N≤2305843009213693952):Good prog 33 (.one (.im (iI (aF f N)))) [v] w0:=by
 obtain⟨p,m,rfl,hm,h256,hmem⟩:=hv;have hG:bH prog (qG prog) w0.heap.size w0:=(aY _).w _ _;have hT:∀n d:Nat,TabOkW prog dW w0.heap.size w0:=fun _ _=>bG.w _ _
 refine bJ func33 (cs:=[.v (.im (.slice p N m))]) (args:=[.slice p N m]) (c:=jK) rfl ⟨rfl,trivial⟩ (Nat.le_of_ble_eq_true (by kernel_rfl)) fun a w' hA => ?_
 rw[YK];refine wp_seq (aA aG hT hG (Sa _ _ _) trivial hA fun a w' hA => ?_);refine wp_seq (aA aG hT hG (Rz p N m) trivial hA fun a w' hA => ?_);refine wp_seq (wp_block ?_);have hle:=cC f N;have hz:=lO f N;have hl:=iC f N;generalize aF f N=T at hle hz hl ⊢;refine cE aG (fun i=>mV (.slice p N m) (N-i)) (N-T) (fun i hi => ?_) (.ex 0) (by simp) (mV (.slice p N m) T) ?_ hA fun a w hA => ?_
 ·have h0:0<N:=by omega
  have hk:N-i=(N-i-1)+1:=by omega
  have hk2:N-(i+1)=N-i-1:=by omega
  have hk3:T≤N-i-1:=by omega
  have hk4:N-i-1<N:=by omega
  have hk5:N-i-1<4611686018427387904:=by omega
  show Ok _ _ _ _ _ (mV _ (N-i)) _ (mV _ (N-(i+1)));rw[hk2,hk];clear hk hk2;obtain⟨b,o,rfl,hb,hr⟩:=hmem h0;generalize N-i-1=k at hk3 hk4 hk5 ⊢;exact⟨_,_,_,_,cW w0 _ _ _,fun _ _=>bG.w _ _,Sb w0 b o N m k (f k),tF,nQ hk5,rfl,hk4,dU hb hr hk4,rfl,(iS (h256 k hk4)).2 (hz k hk3 hk4),nQ hk5,trivial⟩
 ·have e:N-(N-T)=T:=by omega
  rw[e];cases T with
  | zero=>exact⟨_,_,_,_,hG,fun _ _=>bG.w _ _,Io _,rfl,trivial⟩
  | succ k =>
   have h0:0<N:=by omega
   have hk4:k<N:=by omega
   have hk5:k<4611686018427387904:=by omega
   obtain⟨b,o,rfl,hb,hr⟩:=hmem h0;have hl:=hl (Nat.succ_pos k);exact⟨_,_,_,_,cW w0 _ _ _,fun _ _=>bG.w _ _,Im w0 b o N m k (f k),tF,nQ hk5,rfl,hk4,dU hb hr hk4,rfl,fun h=>hl ((iS (h256 k hk4)).1 h),trivial⟩
 ·show (cB (cB (cB jK))).wp _ _ _ _;exact aA aG hT hG (YJ _ _) trivial hA fun a w' hA=>aW (l:=[.im (iI T)]) (r:=.one (.im (iI T))) (by kernel_rfl) (by kernel_rfl) hA
end Go.Proofs.Ytjjnbgoepbiojaa.Ex
