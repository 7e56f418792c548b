/- Jb02 -/
import Derived.Deep.LoopGhost
import Derived.RegionTactic
import GoSem.Claim
import Derived.Below
import Derived.Deep.MidRow
import Derived.Great.BuildSlice
import Derived.RangeFuncOwn
import Derived.Test.YtjeplinbleofnaaJb00
import Derived.Test.YtjeplinbleofnaaJb01
import Derived.Test.YtjeplinbleofnaaProg
set_option maxRecDepth 100000
set_option linter.unusedVariables false
set_option linter.unusedSimpArgs false
set_option linter.unnecessarySimpa false
namespace Go.Proofs.Ytjeplinbleofnaa
open Go.Proofs.Try
open Go.RowKit
def iU (B:Nat→Nat) (s:Nat):Nat→Nat
 | 0=>0
 | n+1=>iU B s n*256+B (s+n)
theorem GA {B:Nat→Nat} (hB:∀k,B k<256) (s:Nat):∀n,iU B s n<256^n
 | 0=>by simp[iU]
 | n+1=>by
  have h1:=GA hB s n;have h2:=hB (s+n);show iU B s n*256+B (s+n)<256^n*256;omega
theorem yF (B:Nat→Nat) (s:Nat):∀n,fT 256 (fun k=>B (s+n-1-k)) n=iU B s n
 | 0=>rfl
 | n+1=>by
  rw[kQ];show B (s+(n+1)-1-0)+256*fT 256 (fun k=>B (s+(n+1)-1-(1+k))) n=iU B s n*256+B (s+n);have e:(fun k=>B (s+(n+1)-1-(1+k)))=fun k=>B (s+n-1-k):=by
   funext k; congr 1; omega
  rw[e,yF B s n,Nat.mul_comm,show s+(n+1)-1-0=s+n by omega];omega
def aS (A p:Nat):Nat:=A/256^(31-p)%256
theorem iS (A p:Nat):aS A p<256:=Nat.mod_lt _ (by omega)
theorem pS (A:Nat) (h:A<256^32):∀n,n≤32→iU (aS A) 0 n=A/256^(32-n)
 | 0,_=>by
  show 0=_;rw[Nat.div_eq_of_lt (by simpa using h)]
 | n+1,hn=>by
  show iU (aS A) 0 n*256+aS A (0+n)=_;rw[pS A h n (by omega),Nat.zero_add];unfold aS;rw[show 32-n=(32-(n+1))+1 by omega,show 31-n=32-(n+1) by omega,Nat.pow_succ,←Nat.div_div_eq_div_mul];generalize A/256^(32-(n+1))=X;omega
theorem uE {A:Nat} (h:A<115792089237316195423570985008687907853269984665640564039457584007913129639936):iU (aS A) 0 32=A:=by
 have:=pS A (by simpa using h) 32 (by omega);simpa using this
theorem AB (P:Nat→Nat) (hP:∀k,P k<18446744073709551616) (n j m:Nat) (hj:j<n) (hm:m<8):P j/2^(8*m)%256=fT 18446744073709551616 P n/256^(8*j+m)%256:=by
 obtain⟨q,rfl⟩:∃q,n=j+(q+1):=⟨n-j-1,by omega⟩
 have h1:=iK 18446744073709551616 P j (q+1);have h2:=kQ 18446744073709551616 (fun k=>P (j+k)) q;have h3:=nB 18446744073709551616 P (by omega) j (fun k _=>hP k);have e1:256^(8*j+m)=18446744073709551616^j*2^(8*m):=by
  rw[Nat.pow_add,Nat.pow_mul,Nat.pow_mul]
 rw[h1,h2,e1,←Nat.div_div_eq_div_mul,Nat.add_mul_div_left _ _ (by exact Nat.pow_pos (by omega)),Nat.div_eq_of_lt h3,Nat.zero_add];have e:18446744073709551616=2^(8*m)*(256*2^(56-8*m)):=by
  rw[show (256:Nat)=2^8 from rfl,←Nat.pow_add,←Nat.pow_add,show 8*m+(8+(56-8*m))=64 by omega]
 show _=(P j+18446744073709551616*_)/2^(8*m)%256;generalize fT 18446744073709551616 (fun k=>P (j+(1+k))) q=H;rw[show 18446744073709551616*H=2^(8*m)*(256*2^(56-8*m))*H by rw[←e],Nat.mul_assoc,Nat.add_mul_div_left _ _ (by exact Nat.pow_pos (by omega)),Nat.mul_assoc,Nat.add_mul_mod_self_left]
theorem NV {i:Nat} (h:i<32):∃j m s p:Nat,(i:Int)/8=(j:Int)∧(i:Int)%8=(m:Int)∧(m:Int)*8=(s:Int)∧(31:Int)-(i:Int)=(p:Int)∧j<4∧m<8∧s≤56∧p<32∧Hid (i=8*j+m∧s=8*m∧p=31-i) :=
 ⟨i/8,i%8,i%8*8,31-i,by omega,by omega,by omega,by omega,by omega,by omega,by omega,by omega,Lib.hid (by omega)⟩
theorem LZ {x s b:Nat} (hx:x<18446744073709551616) (hb:x/2^s%256=b):∃t:Nat,(x:Int)/2^s=(t:Int)∧IntKind.u8.wrap (t:Int)=(b:Int)∧t<18446744073709551616:=by
 have hs:x/2^s<18446744073709551616:=Nat.lt_of_le_of_lt (Nat.div_le_self _ _) hx;refine⟨x/2^s,by rw[Int.natCast_ediv,Int.natCast_pow]; rfl,?_,hs⟩;generalize x/2^s=q at *;simp only[IntKind.wrap,IntKind.bits,IntKind.signed];simp;omega
theorem DB (R:Nat) (P:Nat→Nat) (j:Nat):∀n,j<n→P j*R^j≤fT R P n
 | 0,h=>absurd h (by omega)
 | n+1,h=>by
  rw[cU]
  rcases Nat.lt_or_ge j n with hj|hj
  ·have:=DB R P j n hj; omega
  ·obtain rfl:j=n:=by omega
   omega
theorem AO {P:Nat→Nat} {V i j m s d:Nat} (hj:j<4) (hm:m<8) (e:i=8*j+m) (es:s=8*m) (hV:fT 18446744073709551616 P 4=V) (hlt:V<256^i):P j<2^s∧fT 18446744073709551616 (oP P j (P j+d*2^s)) 4=V+d*256^i:=by
 have e1:256^i=18446744073709551616^j*2^s:=by
  rw[e,es,Nat.pow_add,Nat.pow_mul,Nat.pow_mul]
 refine⟨?_,?_⟩
 ·have h1:=DB 18446744073709551616 P j 4 hj;rw[hV]at h1;have h2:=Nat.lt_of_le_of_lt h1 hlt;rw[e1,Nat.mul_comm]at h2;exact Nat.lt_of_mul_lt_mul_left h2
 ·have h:=yE 18446744073709551616 P j (P j+d*2^s) 4 hj;rw[Nat.add_mul]at h;rw[e1,Nat.mul_comm (18446744073709551616^j),←Nat.mul_assoc,←hV];omega
theorem RD {x d s:Nat} (hd:d<256) (hs:s≤56) (hx:x<2^s):∃u z:Nat,IntKind.u64.wrap ((d:Int)*2^s)=(u:Int)∧bits .or .u64 (x:Int) (u:Int)=(z:Int)∧u<18446744073709551616∧z<18446744073709551616∧Hid (z=x+d*2^s):=by
 have h1:d*2^s<18446744073709551616:=by
  have a:=Nat.mul_lt_mul_of_pos_right hd (Nat.two_pow_pos s);have b:256*2^s≤18446744073709551616:=by
   rw[show (256:Nat)=2^8 from rfl,←Nat.pow_add,show 18446744073709551616=2^64 by simp];exact Nat.pow_le_pow_right (by omega) (by omega)
  omega
 have h2:x<18446744073709551616:=Nat.lt_of_lt_of_le hx (by
  rw[show 18446744073709551616=2^64 by simp]; exact Nat.pow_le_pow_right (by omega) (by omega))
 obtain⟨z,e1,e2,e3⟩:=jI (k:=s) h2 h1 (Lib.hid hx) (Lib.hid ⟨d,Nat.mul_comm _ _⟩);exact⟨d*2^s,z,by rw[kM,zZ _ h1],e1,h1,e2,e3⟩
def RowB (w:World) (b n:Nat) (P:Nat→Nat):Prop:=∀k,k<n→w.cell? ⟨b,k,none⟩=some (.int .u8 (P k:Nat))∧w.frozen? ⟨b,k,none⟩=false
theorem RowB.below {w w':World} {b n:Nat} {P:Nat→Nat} (h:RowB w b n P) {B:Nat} (hb:Below B w w') (hB:b<B):RowB w' b n P:=fun k hk =>
 ⟨(hb.cell (p:=⟨b,k,none⟩) hB).trans (h k hk).1,(hb.frozen (p:=⟨b,k,none⟩) hB).trans (h k hk).2⟩
theorem RowB.set {w:World} {b n i v:Nat} {P:Nat→Nat} (h:RowB w b n P) (hi:i<n):RowB (w.setCell ⟨b,i,none⟩ (.int .u8 (v:Nat))) b n (oP P i v):=by
 intro k hk;refine⟨?_,by rw[World.frozen?_setCell]; exact (h k hk).2⟩;unfold oP
 by_cases e:k=i
 ·subst e; rw[if_pos rfl]; exact World.cell?_setCell_same (h:=(h k hk).1) ..
 ·rw[if_neg e,World.cell?_setCell_other (h:=fun he=>e (by simpa using (congrArg Addr.off he).symm)) ..]; exact (h k hk).1
theorem RowB.other {w:World} {b n i:Nat} {P:Nat→Nat} (h:RowB w b n P) {c:Nat} (hc:c≠b) (x:Value):RowB (w.setCell ⟨c,i,none⟩ x) b n P:=by
 intro k hk;exact⟨by rw[World.cell?_setCell_other (h:=fun he=>hc (by simpa using congrArg Addr.block he)) ..]; exact (h k hk).1,by rw[World.frozen?_setCell]; exact (h k hk).2⟩
theorem RowB.drewN {w:World} {b n:Nat} {P:Nat→Nat} (h:RowB w b n P) (m:Nat):RowB (w.drewN m) b n P:=h
theorem RowB.ext {w:World} {b n:Nat} {P R:Nat→Nat} (h:RowB w b n P) (e:∀k,k<n→P k=R k):RowB w b n R:=fun k hk=>⟨by rw[←e k hk]; exact (h k hk).1,(h k hk).2⟩
def uZ (P:Nat→Nat→Prop) (w:World) (e:Ending) (w':World):Prop :=
 ∃s0 s1 s2 s3 c:Nat,e=.returned (.tuple #[.agg #[.int .u64 s0,.int .u64 s1,.int .u64 s2,.int .u64 s3],.int .i64 c])∧bQ s0 s1 s2 s3∧P (aB s0 s1 s2 s3) c∧Below w.heap.size w w'
set_option maxHeartbeats 1000000 in
theorem KA (g off cap:Nat) (B:Nat→Nat) (hB:∀k,B k<256) (w:World) (hg:g<w.heap.size) (hc:∀k,k<32→w.cell? ⟨g,off+k,none⟩=some (.int .u8 (B k:Nat))) :
  Calls prog 101 #[.slice (some ⟨g,off,none⟩) 32 cap] w (uZ (fun n c=>n=iU B 0 32∧c=0) w):=by
 have HC:=Lib.hid hc;have HB:=Lib.hid hB;have HE:=Lib.hid (yF B 0 32);have HT:=Lib.hid (fun i=>nB 256 (fun k=>B (0+32-1-k)) (by omega) i (fun k _=>hB _));clear hc hB;generalize eD:(fun k=>B (0+32-1-k))=D at *;have hD:∀i p,i<32→p=31-i→B p=D i:=fun i p hi hp=>by
  rw[←eD,hp]
 have HD:=Lib.hid hD;clear hD eD
 go_enter func101,ntmps101
 go_wp2_with fail;have R0:=Lib.hid (Row4.new (w.alloc (.cells #[.int .u64 0,.int .u64 0,.int .u64 0,.int .u64 0] 27)) 0 0 0 0 27).rows;have Z0:=Lib.hid ((Row4.new w 0 0 0 0 27).alloc (by simp) (.cells #[.int .u64 0,.int .u64 0,.int .u64 0,.int .u64 0] 27))
 go_loopw [10] (fun x wr=>∃(i:Nat) (P:Nat→Nat),i≤32∧x=.int .i64 i∧(∀k,P k<18446744073709551616)∧Hid (fT 18446744073709551616 P 4=fT 256 D i)∧RowIs wr (w.heap.size+1) 4 P∧Row4 wr w.heap.size 0 0 0 0∧Below w.heap.size w wr∧w.heap.size+1<wr.heap.size) (fun x _=>32-(intOf x).toNat)
 case atStart =>
  refine⟨0,dG [0,0,0,0],by omega,rfl,fun k=>rN ⟨by omega,by omega,by omega,by omega⟩ k,Lib.hid rfl,by simpa using R0.out,Z0.out,?_,by simp⟩;exact ((Below.refl _ _).alloc (Nat.le_refl _) _).alloc (by simp) _
 case round =>
  obtain⟨i,P,hi,rfl,lP,tP,rP,z0,hb,hz⟩:=hrel;have HBl:=Lib.hid hb;have HZ:=Lib.hid z0;have HlP:=Lib.hid lP;have HR:=Lib.hid rP
  by_cases hlt:i<32
  ·obtain⟨j,m,s,p,q1,q2,q3,q4,hj,hm,hs,hp,e⟩:=NV hlt;have cx:=rP.cell hj;have fx:=rP.free hj;have cb:wr.cell? ⟨g,off+p,none⟩=some (.int .u8 (B p:Nat)):=(hb.cell (p:=⟨g,off+p,none⟩) hg).trans (HC.out p hp);have lb:=HB.out p;have hbD:=HD.out i p hlt e.out.2.2;have st:=AO (d:=D i) hj hm e.out.1 e.out.2.1 tP.out (HT.out i);obtain⟨u,z,e1,e2,lu,lz,ez⟩:=RD lb hs st.1;have HN:=Lib.hid (show fT 18446744073709551616 (oP P j z) 4=fT 256 D (i+1) by
    rw[ez.out,hbD,st.2,cU])
   have lx:=lP j;generalize P j=x at *;generalize B p=b at *;clear z0 hb rP lP tP st hbD e ez;go_wp2_with fail
   go_region
   go_wp2_with fail
   go_roundw
   case rel=>exact⟨i+1,oP P j z,by omega,by go_num,fun k=>by unfold oP; split; exact lz; exact HlP.out k,HN,(HR.out.drewN 1).set hj,(HZ.out.drewN 1).other (by omega) _,(HBl.out.drew).setCell (p:=⟨w.heap.size+1,j,none⟩) (by simp) _,by show _<(wr.setCell _ _).heap.size; rw[World.size_setCell]; exact hz⟩
   case measure=>first|(simp[intOf]; done)|(simp[intOf]; omega)
  ·obtain rfl:i=32:=by omega
   have HF:=Lib.hid ((mZ P).trans (tP.out.trans HE.out));have c0:=rP.cell (show 0<4 by omega); have c1:=rP.cell (show 1<4 by omega); have c2:=rP.cell (show 2<4 by omega); have c3:=rP.cell (show 3<4 by omega);have k0:=z0.c0; have k1:=z0.c1; have k2:=z0.c2; have k3:=z0.c3; have kf:=z0.fr;have l0:=lP 0; have l1:=lP 1; have l2:=lP 2; have l3:=lP 3;clear rP z0 hb lP tP;go_wp2_with fail;refine bodyPost_ret (v:=.tuple #[.agg #[.int .u64 (P 0),.int .u64 (P 1),.int .u64 (P 2),.int .u64 (P 3)],.int .i64 0]) (by simp[results,results101,go_sem, *]) rfl ?_;exact⟨P 0,P 1,P 2,P 3,0,rfl,⟨l0,l1,l2,l3⟩,⟨HF.out,rfl⟩,aW HBl.out (by omega) _ _ _ _⟩
def xW (W:World) (v:Value) (n c:Nat):Prop:=∀w,Below W.heap.size W w→Calls prog 101 #[v] w (uZ (fun m d=>m=n∧d=c) w)
theorem pF (W:World) (g off cap:Nat) (B:Nat→Nat) (hB:∀k,B k<256) (hg:g<W.heap.size) (hc:∀k,k<32→W.cell? ⟨g,off+k,none⟩=some (.int .u8 (B k:Nat))):xW W (.slice (some ⟨g,off,none⟩) 32 cap) (iU B 0 32) 0:=fun w hb =>
 KA g off cap B hB w (Nat.lt_of_lt_of_le hg hb.size) fun k hk=>(hb.cell (p:=⟨g,off+k,none⟩) hg).trans (hc k hk)
set_option maxHeartbeats 2000000 in
theorem GG (f:Int) (F:FC) (hf:FieldIs f F) (v:Value) (n:Nat) (hlt:n<F.M) (w:World) (hR:xW w v n 0) :
  Calls prog 83 #[.int .i64 f,v] w (JC 0 n w):=by
 have HR:=Lib.hid hR;clear hR
 go_enter func83,ntmps83
 go_wp2_with fail;refine (bU f F hf _).mono ?_
 rintro e w1 ⟨rfl,hbl⟩
 have M1:=((Mem.nil w).new (w.heap.size) 0 0 0 0 24 (by simp)).on hbl;clear hbl;have z0:w.heap.size<w1.heap.size:=M1.lt (c0:=0) (c1:=0) (c2:=0) (c3:=0) (by simp);have HM:=Lib.hid (M1.on ((Below.refl _ _).alloc (Nat.le_refl _) (.cells #[.int .u64 F.m0,.int .u64 F.m1,.int .u64 F.m2,.int .u64 F.m3,.int .u64 F.inv,.int .u64 F.s0,.int .u64 F.s1,.int .u64 F.s2,.int .u64 F.s3] 101)));have KK:=Lib.hid (KIs.new w1 F 101);go_wp2_with fail;refine (HR.out _ HM.out.1).mono ?_
 rintro e w2 ⟨s0,s1,s2,s3,er,rfl,hs,⟨hv,rfl⟩,hbl⟩
 have HV:=Lib.hid hv;clear hv;have HM':=Lib.hid (HM.out.on hbl);have KK':=Lib.hid (KK.out.same hbl);have zk:=KK'.out.lt;clear HM KK hbl M1;have HM:=HM';have KK:=KK';clear HM' KK';clear zk;have wz:w.heap.size<w2.heap.size:=HM.out.lt (b:=w.heap.size) (c0:=0) (c1:=0) (c2:=0) (c3:=0) (by simp);have HM':=Lib.hid (HM.out.new w2.heap.size s0 s1 s2 s3 27 rfl);have KK':=Lib.hid (KK.out.same ((Below.refl _ _).alloc (Nat.le_refl _) (.cells #[.int .u64 s0,.int .u64 s1,.int .u64 s2,.int .u64 s3] 27)));clear HM KK;have HM:=HM';have KK:=KK';clear HM' KK';go_wp2_with fail;refine (bG F hf.ok w1.heap.size s0 s1 s2 s3 hs _ KK.out).mono ?_
 rintro e w3 ⟨he,hbl⟩
 rw[show pR (aB s0 s1 s2 s3) F.M=true from by rw[HV.out]; exact decide_eq_true hlt]at he;subst he;have HM':=Lib.hid (HM.out.on hbl);have KK':=Lib.hid (KK.out.same hbl);have zk:=KK'.out.lt;clear HM KK hbl;have HM:=HM';have KK:=KK';clear HM' KK';clear zk;have kr:=HM.out.row (b:=w2.heap.size) (c0:=s0) (c1:=s1) (c2:=s2) (c3:=s3) (by simp);have x0:=kr.c0; have x1:=kr.c1; have x2:=kr.c2; have x3:=kr.c3;clear kr;have xl:=HM.out.lt (b:=w2.heap.size) (c0:=s0) (c1:=s1) (c2:=s2) (c3:=s3) (by simp);have kr:=HM.out.row (b:=w.heap.size) (c0:=0) (c1:=0) (c2:=0) (c3:=0) (by simp);have y0:=kr.c0; have y1:=kr.c1; have y2:=kr.c2; have y3:=kr.c3; have yf:=kr.fr;clear kr;have yl:=HM.out.lt (b:=w.heap.size) (c0:=0) (c1:=0) (c2:=0) (c3:=0) (by simp);go_wp2_with fail;refine bodyPost_ret (v:=.tuple #[.agg #[.int .u64 s0,.int .u64 s1,.int .u64 s2,.int .u64 s3],.int .i64 0]) (by simp[results,results83,go_sem, *]) rfl ?_;refine⟨_,_,_,_,rfl,hs,HV.out,?_⟩;exact aW HM.out.1 (by omega) _ _ _ _
set_option maxHeartbeats 2000000 in
theorem BL (f:Int) (F:FC) (hf:FieldIs f F) (v:Value) (n:Nat) (hlt:¬n<F.M) (w:World) (hR:xW w v n 0) :
  Calls prog 83 #[.int .i64 f,v] w (JC 21 0 w):=by
 have HR:=Lib.hid hR;clear hR
 go_enter func83,ntmps83
 go_wp2_with fail;refine (bU f F hf _).mono ?_
 rintro e w1 ⟨rfl,hbl⟩
 have M1:=((Mem.nil w).new (w.heap.size) 0 0 0 0 24 (by simp)).on hbl;clear hbl;have z0:w.heap.size<w1.heap.size:=M1.lt (c0:=0) (c1:=0) (c2:=0) (c3:=0) (by simp);have HM:=Lib.hid (M1.on ((Below.refl _ _).alloc (Nat.le_refl _) (.cells #[.int .u64 F.m0,.int .u64 F.m1,.int .u64 F.m2,.int .u64 F.m3,.int .u64 F.inv,.int .u64 F.s0,.int .u64 F.s1,.int .u64 F.s2,.int .u64 F.s3] 101)));have KK:=Lib.hid (KIs.new w1 F 101);go_wp2_with fail;refine (HR.out _ HM.out.1).mono ?_
 rintro e w2 ⟨s0,s1,s2,s3,er,rfl,hs,⟨hv,rfl⟩,hbl⟩
 have HV:=Lib.hid hv;clear hv;have HM':=Lib.hid (HM.out.on hbl);have KK':=Lib.hid (KK.out.same hbl);have zk:=KK'.out.lt;clear HM KK hbl M1;have HM:=HM';have KK:=KK';clear HM' KK';clear zk;have wz:w.heap.size<w2.heap.size:=HM.out.lt (b:=w.heap.size) (c0:=0) (c1:=0) (c2:=0) (c3:=0) (by simp);have HM':=Lib.hid (HM.out.new w2.heap.size s0 s1 s2 s3 27 rfl);have KK':=Lib.hid (KK.out.same ((Below.refl _ _).alloc (Nat.le_refl _) (.cells #[.int .u64 s0,.int .u64 s1,.int .u64 s2,.int .u64 s3] 27)));clear HM KK;have HM:=HM';have KK:=KK';clear HM' KK';go_wp2_with fail;refine (bG F hf.ok w1.heap.size s0 s1 s2 s3 hs _ KK.out).mono ?_
 rintro e w3 ⟨he,hbl⟩
 rw[show pR (aB s0 s1 s2 s3) F.M=false from by rw[HV.out]; exact decide_eq_false hlt]at he;subst he;have HM':=Lib.hid (HM.out.on hbl);have KK':=Lib.hid (KK.out.same hbl);have zk:=KK'.out.lt;clear HM KK hbl;have HM:=HM';have KK:=KK';clear HM' KK';clear zk;have kr:=HM.out.row (b:=w.heap.size) (c0:=0) (c1:=0) (c2:=0) (c3:=0) (by simp);have y0:=kr.c0; have y1:=kr.c1; have y2:=kr.c2; have y3:=kr.c3; have yf:=kr.fr;clear kr;have yl:=HM.out.lt (b:=w.heap.size) (c0:=0) (c1:=0) (c2:=0) (c3:=0) (by simp);go_wp2_with fail;refine (lO _).mono ?_
 rintro e w4 ⟨rfl,rfl⟩
 go_wp2_with fail;refine bodyPost_ret (v:=.tuple #[.agg #[.int .u64 0,.int .u64 0,.int .u64 0,.int .u64 0],.int .i64 21]) (by simp[results,results83,go_sem, *]) rfl ?_;refine⟨_,_,_,_,rfl,CK,rfl,?_⟩;exact aW HM.out.1 (by omega) 0 0 0 0
def fw (x i:Nat):Nat:=x/18446744073709551616^i%18446744073709551616
theorem dN (x:Nat):bQ (fw x 0) (fw x 1) (fw x 2) (fw x 3):=⟨Nat.mod_lt _ (by omega),Nat.mod_lt _ (by omega),Nat.mod_lt _ (by omega),Nat.mod_lt _ (by omega)⟩
theorem rL {x:Nat} (h:x<115792089237316195423570985008687907853269984665640564039457584007913129639936):aB (fw x 0) (fw x 1) (fw x 2) (fw x 3)=x:=by
 unfold fw aB;have e1:(18446744073709551616:Nat)^1=18446744073709551616:=by simp
 have e2:(18446744073709551616:Nat)^2=18446744073709551616*18446744073709551616:=by simp
 have e3:(18446744073709551616:Nat)^3=18446744073709551616*18446744073709551616*18446744073709551616:=by simp
 rw[Nat.pow_zero,Nat.div_one,e1,e2,e3,←Nat.div_div_eq_div_mul,←Nat.div_div_eq_div_mul,←Nat.div_div_eq_div_mul];omega
theorem gO {s0 s1 s2 s3 x:Nat} (hs:bQ s0 s1 s2 s3) (hx:x<115792089237316195423570985008687907853269984665640564039457584007913129639936) (h:aB s0 s1 s2 s3=x):s0=fw x 0∧s1=fw x 1∧s2=fw x 2∧s3=fw x 3 :=
 sD hs (dN x) (h.trans (rL hx).symm)
theorem VM {x:Nat} (h:x<FP.M):x<115792089237316195423570985008687907853269984665640564039457584007913129639936:=Nat.lt_trans h (by decide)
theorem dS:0<FP.M:=by decide
end Go.Proofs.Ytjeplinbleofnaa
namespace Go.Proofs.Ytjeplinbleofnaa.Ex
open Go.Proofs.Try
open Go.RowKit
abbrev Fq:=Fin FP.M
inductive At|f (x:Fq)|q (x:Nat)|c (v:Value)
def w4 (x:Nat):List Value:=[.int .u64 (fw x 0:Nat),.int .u64 (fw x 1:Nat),.int .u64 (fw x 2:Nat),.int .u64 (fw x 3:Nat)]
def At.cells:At→List Value
 | .f x=>w4 x.1
 | .q x=>w4 x
 | .c v=>[v]
def At.sz:At→Nat
 | .f _=>4
 | .q _=>4
 | .c _=>1
theorem At.len (a:At):a.cells.length=a.sz:=by cases a<;>rfl
def aA:List At→List Value
 | []=>[]
 | a::r=>a.cells++aA r
def dV:List At→Nat
 | []=>0
 | a::r=>a.sz+dV r
theorem aF:∀l:List At,(aA l).length=dV l
 | []=>rfl
 | a::r=>by simp[aA,dV,At.len,aF r]
def cellAt:List At→Nat→Option Value
 | [],_=>none
 | a::r,o=>bif Nat.blt o a.sz then a.cells[o]? else cellAt r (o-a.sz)
theorem eJ:∀{l:List At} {o:Nat} {v:Value},cellAt l o=some v→(aA l)[o]?=some v
 | [],o,v,h=>by cases h
 | a::r,o,v,h=>by
  unfold cellAt at h;show (a.cells++aA r)[o]?=_;cases hb:Nat.blt o a.sz<;>rw[hb]at h
  ·have hle:a.sz≤o:=by
    rcases Nat.lt_or_ge o a.sz with q|q
    ·have:Nat.blt o a.sz=true:=by simpa using q
     rw[hb]at this; cases this
    ·exact q
   rw[List.getElem?_append_right (by rw[At.len]; exact hle),At.len];exact eJ h
  ·have hlt:o<a.sz:=by simpa using hb
   rw[List.getElem?_append_left (by rw[At.len]; exact hlt)];exact h
theorem aJ:∀l m:List At,aA (l++m)=aA l++aA m
 | [],m=>rfl
 | a::r,m=>by simp[aA,aJ r m]
theorem wS (l m:List At):dV (l++m)=dV l+dV m:=by rw[←aF,aJ,List.length_append,aF,aF]
def tk:List At→Nat→Option (List At)
 | [],n=>bif Nat.beq n 0 then some []else none
 | a::r,n=>bif Nat.beq n 0 then some []else bif Nat.ble a.sz n then (tk r (n-a.sz)).map (a :: ·)else none
def dp:List At→Nat→Option (List At)
 | [],n=>bif Nat.beq n 0 then some []else none
 | a::r,n=>bif Nat.beq n 0 then some (a::r)else bif Nat.ble a.sz n then dp r (n-a.sz)else none
theorem jP:∀(l:List At) (n:Nat) (t:List At),tk l n=some t→∃r,l=t++r∧dV t=n
 | [],n,t,h=>by
  unfold tk at h;cases hn:Nat.beq n 0<;>rw[hn]at h
  ·cases h
  ·cases h; exact⟨[],rfl,(Nat.eq_of_beq_eq_true hn).symm⟩
 | a::r,n,t,h=>by
  unfold tk at h;cases hn:Nat.beq n 0<;>rw[hn]at h
  ·cases hs:Nat.ble a.sz n<;>rw[hs]at h
   ·cases h
   ·cases hr:tk r (n-a.sz)with
    | none=>rw[hr]at h; cases h
    | some t' =>
     rw[hr]at h; cases h;obtain⟨r',e,s⟩:=jP r _ _ hr;refine⟨r',by rw[e]; rfl,?_⟩;have:=Nat.le_of_ble_eq_true hs;show a.sz+dV t'=n;omega
  ·cases h; exact⟨a::r,rfl,(Nat.eq_of_beq_eq_true hn).symm⟩
theorem kI:∀(l:List At) (n:Nat) (r:List At),dp l n=some r→∃t,l=t++r∧dV t=n
 | [],n,r,h=>by
  unfold dp at h;cases hn:Nat.beq n 0<;>rw[hn]at h
  ·cases h
  ·cases h; exact⟨[],rfl,(Nat.eq_of_beq_eq_true hn).symm⟩
 | a::l,n,r,h=>by
  unfold dp at h;cases hn:Nat.beq n 0<;>rw[hn]at h
  ·cases hs:Nat.ble a.sz n<;>rw[hs]at h
   ·cases h
   ·obtain⟨t,e,s⟩:=kI l _ _ h;refine⟨a::t,by rw[e]; rfl,?_⟩;have:=Nat.le_of_ble_eq_true hs;show a.sz+dV t=n;omega
  ·cases h; exact⟨[],rfl,(Nat.eq_of_beq_eq_true hn).symm⟩
def CM (l:List At) (o n:Nat):Option (List At):=match dp l o with|some r=>tk r n|none=>none
theorem fY {l:List At} {o n:Nat} {t:List At} (h:CM l o n=some t):∃p s,l=p++(t++s)∧dV p=o∧dV t=n:=by
 unfold CM at h;cases hd:dp l o with
 | none=>rw[hd]at h; cases h
 | some r =>
  rw[hd]at h;obtain⟨p,e,hp⟩:=kI _ _ _ hd;obtain⟨s,e2,ht⟩:=jP _ _ _ h;exact⟨p,s,by rw[e,e2],hp,ht⟩
def put (l:List At) (o:Nat) (v:List At):Option (List At) :=
 match tk l o,dp l o with
 | some a,some b=>match dp b (dV v)with|some s=>some (a++(v++s))|none=>none
 | _,_=>none
theorem oD:∀{a b:List At} {r s:List At},a++r=b++s→dV a=dV b→aA a=aA b∧aA r=aA s:=by
 intro a b r s h hs;have:=congrArg aA h;rw[aJ,aJ]at this;exact List.append_inj this (by rw[aF,aF,hs])
theorem sX {l:List At} {o:Nat} {v l':List At} (h:put l o v=some l'):∃a m s,l=a++(m++s)∧aA l'=aA a++(aA v++aA s)∧dV a=o∧dV m=dV v:=by
 unfold put at h;cases ht:tk l o with
 | none=>rw[ht]at h; cases h
 | some a =>
  cases hd:dp l o with
  | none=>rw[ht,hd]at h; cases h
  | some b =>
   rw[ht,hd]at h;simp only at h;cases hb:dp b (dV v)with
   | none=>rw[hb]at h; cases h
   | some s =>
    rw[hb]at h; cases h;obtain⟨r,e,s1⟩:=jP _ _ _ ht;obtain⟨p,e2,s2⟩:=kI _ _ _ hd;obtain⟨m,e3,s3⟩:=kI _ _ _ hb;obtain⟨h1,h2⟩:=oD (e.symm.trans e2) (s1.trans s2.symm);refine⟨p,m,s,by rw[e2,e3],?_,s2,s3⟩;rw[aJ,aJ,h1]
def nV:Value→Bool
 | .bool _=>true
 | .int _ _=>true
 | .func _ _ _=>true
 | .complex _ _ _=>true
 | .float _ _=>true
 | .slice _ _ _=>true
 | .pointer _=>true
 | _=>false
def nz:List Value→List At
 | .int .u64 (.ofNat 0) :: .int .u64 (.ofNat 0) :: .int .u64 (.ofNat 0) :: .int .u64 (.ofNat 0)::r=>.f ⟨0,dS⟩::nz r
 | v::r=>.c v::nz r
 | []=>[]
theorem yW (l:List Value):aA (nz l)=l:=by
 fun_induction nz l with
 | case1 r ih=>show w4 0++aA (nz r)=_; rw[ih]; rfl
 | case2 v r h ih=>show [v]++aA (nz r)=_; rw[ih]; rfl
 | case3=>rfl
def nq:List At→List At
 | .c (.int .u64 (.ofNat a)) :: .c (.int .u64 (.ofNat b)) :: .c (.int .u64 (.ofNat c)) :: .c (.int .u64 (.ofNat d))::r =>
  bif Nat.blt a 18446744073709551616&&(Nat.blt b 18446744073709551616&&(Nat.blt c 18446744073709551616&&Nat.blt d 18446744073709551616))then (if h:aB a b c d<FP.M then .f ⟨aB a b c d,h⟩else .q (aB a b c d))::nq r
  else .c (.int .u64 (.ofNat a)) :: .c (.int .u64 (.ofNat b)) :: .c (.int .u64 (.ofNat c)) :: .c (.int .u64 (.ofNat d))::nq r
 | v::r=>v::nq r
 | []=>[]
theorem KW (l:List At):aA (nq l)=aA l:=by
 fun_induction nq l with
 | case1 a b c d r hb ih =>
  simp only[Bool.and_eq_true,Nat.blt_eq]at hb;have h4:bQ a b c d:=⟨hb.1,hb.2.1,hb.2.2.1,hb.2.2.2⟩;have hv:aB a b c d<115792089237316195423570985008687907853269984665640564039457584007913129639936:=by
   unfold aB; obtain⟨h1,h2,h3,h5⟩:=hb; omega
  obtain⟨e0,e1,e2,e3⟩:=gO h4 hv rfl;have hc:(if h:aB a b c d<FP.M then At.f ⟨aB a b c d,h⟩else At.q (aB a b c d)).cells=w4 (aB a b c d):=by split<;>rfl
  show (if h:aB a b c d<FP.M then At.f ⟨aB a b c d,h⟩else At.q (aB a b c d)).cells++aA (nq r)=_;rw[hc,ih];unfold w4;rw[←e0,←e1,←e2,←e3];rfl
 | case2 a b c d r hb ih=>simp only[aA,ih]
 | case3 v r h ih=>show v.cells++aA (nq r)=_; rw[ih]; rfl
 | case4=>rfl
inductive TV|im (v:Value)|fl (l:List At)
def TV.den:TV→Value
 | .im v=>v
 | .fl l=>.agg (aA l).toArray
abbrev Bk:=Nat×Nat×Nat
inductive AV|im (v:Value)|fl (l:List At)|pt (k o:Nat)|sl (k o n m:Nat)|tu (l:List TV)|ic (t:Nat) (l:List At)|tf (k n m:Nat) (post:List TV)|so (k n:Nat)|tg (k n:Nat) (ante post:List TV)
def TV.av:TV→AV
 | .im v=>.im v
 | .fl l=>.fl l
def AV.den (β:Nat→Bk):AV→Value
 | .im v=>v
 | .fl l=>.agg (aA l).toArray
 | .pt k o=>.pointer (some ⟨(β k).1,(β k).2.1+o,none⟩)
 | .sl k o n m=>.slice (some ⟨(β k).1,(β k).2.1+o,none⟩) n m
 | .tu l=>.tuple (l.map TV.den).toArray
 | .ic t l=>.iface t (.agg (aA l).toArray)
 | .tf k n m post=>.tuple (.slice (some ⟨(β k).1,(β k).2.1,none⟩) n m::post.map TV.den).toArray
 | .so k n=>.slice (some ⟨(β k).1,(β k).2.1,none⟩) n (β k).2.2
 | .tg k n ante post=>.tuple (ante.map TV.den ++ .slice (some ⟨(β k).1,(β k).2.1,none⟩) n (β k).2.2::post.map TV.den).toArray
theorem TV.av_den (β:Nat→Bk) (t:TV):t.av.den β=t.den:=by cases t<;>rfl
def AV.key:AV→Option Nat
 | .pt k _=>some k
 | .sl k _ _ _=>some k
 | .tf k _ _ _=>some k
 | .so k _=>some k
 | .tg k _ _ _=>some k
 | _=>none
theorem AV.den_eq {β β':Nat→Bk} (v:AV) (h:∀k,v.key=some k→β' k=β k):v.den β'=v.den β:=by
 cases v with
 | pt k o=>simp[AV.den,h k rfl]
 | sl k o n m=>simp[AV.den,h k rfl]
 | tf k n m post=>simp[AV.den,h k rfl]
 | so k n=>simp[AV.den,h k rfl]
 | tg k n ante post=>simp[AV.den,h k rfl]
 | _=>rfl
def AppAt (w:World) (b e sz n cap:Nat):Prop:=∃cur,w.heap[b]?=some (.cells cur e (0,0))∧n≤cap∧cap≤maxLen∧cur.size=cap*sz
inductive Fact|slot (s:Nat) (v:AV)|row (k:Nat) (mP:Bool) (l:List At)|at (k b:Nat)|app (k e sz n:Nat)
def Fact.ok (base:Nat) (β:Nat→Bk) (a:Act) (w:World):Fact→Prop
 | .slot s v=>a.tmps[s]?=some (v.den β)
 | .row k mP l=>(β k).1<w.heap.size∧w.rangeAt (β k).1 (β k).2.1 (aA l)∧(mP=true→base≤(β k).1∧(β k).2.1=0∧∀j,w.frozen? ⟨(β k).1,j,none⟩=false)∧(mP=false→True)
 | .at k b=>(β k).1=b∧(β k).2.1=0
 | .app k e sz n=>AppAt w (β k).1 e sz n (β k).2.2
def lC:List Fact→Nat→Option AV
 | [],_=>none
 | .slot t v::r,s=>bif Nat.beq t s then some v else lC r s
 | .row _ _ _::r,s=>lC r s
 | .at _ _::r,s=>lC r s
 | .app _ _ _ _::r,s=>lC r s
theorem cW:∀{M:List Fact} {s:Nat} {v:AV},lC M s=some v→Fact.slot s v∈M
 | .slot t u::r,s,v,h=>by
  unfold lC at h;cases hb:Nat.beq t s<;>rw[hb]at h
  ·exact List.mem_cons_of_mem _ (cW h)
  ·cases h; cases Nat.eq_of_beq_eq_true hb; exact List.mem_cons_self
 | .row _ _ _::r,s,v,h=>List.mem_cons_of_mem _ (cW (M:=r) h)
 | .at _ _::r,s,v,h=>List.mem_cons_of_mem _ (cW (M:=r) h)
 | .app _ _ _ _::r,s,v,h=>List.mem_cons_of_mem _ (cW (M:=r) h)
def cE:List Fact→Nat→Option (Bool×List At)
 | [],_=>none
 | .row t o l::r,s=>bif Nat.beq t s then some (o,l)else cE r s
 | .slot _ _::r,s=>cE r s
 | .at _ _::r,s=>cE r s
 | .app _ _ _ _::r,s=>cE r s
theorem aP:∀{M:List Fact} {s:Nat} {o:Bool} {l:List At},cE M s=some (o,l)→Fact.row s o l∈M
 | .row t u m::r,s,o,l,h=>by
  unfold cE at h;cases hb:Nat.beq t s<;>rw[hb]at h
  ·exact List.mem_cons_of_mem _ (aP h)
  ·cases h; cases Nat.eq_of_beq_eq_true hb; exact List.mem_cons_self
 | .slot _ _::r,s,o,l,h=>List.mem_cons_of_mem _ (aP (M:=r) h)
 | .at _ _::r,s,o,l,h=>List.mem_cons_of_mem _ (aP (M:=r) h)
 | .app _ _ _ _::r,s,o,l,h=>List.mem_cons_of_mem _ (aP (M:=r) h)
def oL:List Fact→Nat→Option Nat
 | [],_=>none
 | .at t b::r,s=>bif Nat.beq t s then some b else oL r s
 | .slot _ _::r,s=>oL r s
 | .row _ _ _::r,s=>oL r s
 | .app _ _ _ _::r,s=>oL r s
theorem dI:∀{M:List Fact} {s b:Nat},oL M s=some b→Fact.at s b∈M
 | .at t c::r,s,b,h=>by
  unfold oL at h;cases hb:Nat.beq t s<;>rw[hb]at h
  ·exact List.mem_cons_of_mem _ (dI h)
  ·cases h; cases Nat.eq_of_beq_eq_true hb; exact List.mem_cons_self
 | .slot _ _::r,s,b,h=>List.mem_cons_of_mem _ (dI (M:=r) h)
 | .row _ _ _::r,s,b,h=>List.mem_cons_of_mem _ (dI (M:=r) h)
 | .app _ _ _ _::r,s,b,h=>List.mem_cons_of_mem _ (dI (M:=r) h)
def kO:List Fact→Nat→Option (Nat×Nat×Nat)
 | [],_=>none
 | .app t e sz n::r,s=>bif Nat.beq t s then some (e,sz,n)else kO r s
 | .slot _ _::r,s=>kO r s
 | .row _ _ _::r,s=>kO r s
 | .at _ _::r,s=>kO r s
theorem dZ:∀{M:List Fact} {s e sz n:Nat},kO M s=some (e,sz,n)→Fact.app s e sz n∈M
 | .app t e' sz' n'::r,s,e,sz,n,h=>by
  unfold kO at h;cases hb:Nat.beq t s<;>rw[hb]at h
  ·exact List.mem_cons_of_mem _ (dZ h)
  ·cases h; cases Nat.eq_of_beq_eq_true hb; exact List.mem_cons_self
 | .slot _ _::r,s,e,sz,n,h=>List.mem_cons_of_mem _ (dZ (M:=r) h)
 | .row _ _ _::r,s,e,sz,n,h=>List.mem_cons_of_mem _ (dZ (M:=r) h)
 | .at _ _::r,s,e,sz,n,h=>List.mem_cons_of_mem _ (dZ (M:=r) h)
def ev (M:List Fact):Operand→Option AV
 | .tmp s=>lC M s
 | .const v=>some (.im v)
 | .func f=>some (.im (.func (.func f) #[] #[]))
 | .global _=>none
theorem aD {M:List Fact} {base:Nat} {β:Nat→Bk} {a:Act} {w:World} (hM:∀φ∈M,φ.ok base β a w) {x:Operand} {v:AV} (h:ev M x=some v):a.eval x=v.den β:=by
 cases x with
 | tmp s =>
  have:=hM _ (cW h);simp only[Fact.ok]at this;simp[Act.eval,this]
 | const u=>cases h; rfl
 | func f=>cases h; rfl
 | global g=>cases h
def RG (M:List Fact):List Operand→Option (List AV)
 | []=>some []
 | x::r=>match ev M x,RG M r with|some v,some l=>some (v::l)|_,_=>none
theorem kF {M:List Fact} {base:Nat} {β:Nat→Bk} {a:Act} {w:World} (hM:∀φ∈M,φ.ok base β a w):∀{xs:List Operand} {l:List AV},RG M xs=some l→xs.map a.eval=l.map (AV.den β)
 | [],l,h=>by cases h; rfl
 | x::r,l,h=>by
  unfold RG at h;cases hx:ev M x with
  | none=>rw[hx]at h; cases h
  | some v =>
   cases hr:RG M r with
   | none=>rw[hx,hr]at h; cases h
   | some l'=>rw[hx,hr]at h; cases h; simp[aD hM hx,kF hM hr]
def tN:AV→Option (List At)
 | .fl l=>some l
 | .im v=>bif nV v then some [.c v]else none
 | _=>none
theorem jF {v:AV} {p:List At} (h:tN v=some p) (β:Nat→Bk):(v.den β).cells=(aA p).toArray:=by
 cases v with
 | fl l=>cases h; rfl
 | im u =>
  have h':(bif nV u then some [At.c u]else none)=some p:=h;cases hu:nV u<;>rw[hu]at h'
  ·cases h'
  ·cases h';cases u<;>first|rfl|cases hu
 | _=>cases h
def jE (M:List Fact):List (Nat×Operand)→Option (List (Nat×List At))
 | []=>some []
 | (i,x)::r=>match ev M x with
  | some v=>match tN v,jE M r with|some p,some l=>some ((i,p)::l)|_,_=>none
  | none=>none
def pV (place:Nat→Option (Nat×Nat)):List At→List (Nat×List At)→Option (List At)
 | l,[]=>some l
 | l,(i,p)::r=>match place i with
  | none=>none
  | some (off,sz)=>bif Nat.beq (dV p) sz then (match put l off p with|some l'=>pV place l' r|none=>none)else none
theorem uH:∀(p B A C:List Value) (k off:Nat),A.length=off+k→B.length=p.length →
  (p.zipIdx k).foldl (fun cs (x:Value×Nat)=>cs.setIfInBounds (off+x.2) x.1) (A++(B++C)).toArray=(A++(p++C)).toArray
 | [],B,A,C,k,off,hA,hB=>by
  have:B=[]:=List.length_eq_zero_iff.1 (by simpa using hB);subst this; rfl
 | v::p,B,A,C,k,off,hA,hB=>by
  cases B with
  | nil=>cases hB
  | cons b B =>
   have e:(A++(b::B++C)).toArray.setIfInBounds (off+k) v=((A++[v])++(B++C)).toArray:=by
    rw[List.setIfInBounds_toArray,←hA];simp
   simp only[List.zipIdx_cons,List.foldl_cons,e];rw[uH p B (A++[v]) C (k+1) off (by simp[hA]; omega) (by simpa using hB)];simp
theorem gF {M:List Fact} {base:Nat} {β:Nat→Bk} {a:Act} {w:World} (hM:∀φ∈M,φ.ok base β a w) (place:Nat→Option (Nat×Nat)) :
  ∀(xs:List (Nat×Operand)) (ps:List (Nat×List At)) (l l':List At),jE M xs=some ps→pV place l ps=some l' →
   Instr.fill place (aA l).toArray (xs.map fun (i,x)=>(i,a.eval x))=some (aA l').toArray
 | [],ps,l,l',h,h2=>by cases h; cases h2; rfl
 | (i,x)::r,ps,l,l',h,h2=>by
  unfold jE at h;cases hx:ev M x with
  | none=>rw[hx]at h; cases h
  | some v =>
   rw[hx]at h;simp only at h;cases hp:tN v with
   | none=>rw[hp]at h; cases h
   | some p =>
    cases hr:jE M r with
    | none=>rw[hp,hr]at h; cases h
    | some ps' =>
     rw[hp,hr]at h; cases h;unfold pV at h2;simp only[List.map_cons,Instr.fill];cases hpl:place i with
     | none=>rw[hpl]at h2; cases h2
     | some os =>
      obtain⟨off,sz⟩:=os;rw[hpl]at h2;simp only at h2;cases hb:Nat.beq (dV p) sz<;>rw[hb]at h2
      ·cases h2
      ·have hsz:=Nat.eq_of_beq_eq_true hb;simp only[cond_true]at h2;cases hq:put l off p with
       | none=>rw[hq]at h2; cases h2
       | some l1 =>
        rw[hq]at h2;obtain⟨A,m,s,e,f,ha,hm⟩:=sX hq;have hc:=jF hp β;rw[aD hM hx];have hsize:(AV.den β v).cells.size=sz:=by rw[hc]; simp[aF,hsz]
        have hle:¬(off+(AV.den β v).cells.size>(aA l).toArray.size):=by
         rw[hsize,e];simp[aJ,aF];omega
        have hset:(AV.den β v).cells.zipIdx.foldl (fun cs (c,j)=>cs.setIfInBounds (off+j) c) (aA l).toArray=(aA l1).toArray:=by
         rw[hc,f,e,aJ,aJ];have:=uH (aA p) (aA m) (aA A) (aA s) 0 off (by rw[aF,ha]; rfl) (by rw[aF,aF,hm]);simpa using this
        simp only[hset];rw[if_neg (by simp[hsize]; simpa[hsize]using hle)];exact gF hM place r ps' l1 l' hr h2
inductive CA|v (x:TV)|s (l:List At) (n m:Nat)|so (l:List At) (n:Nat)|p (l:List At) (o:Nat)
inductive RV|one (t:TV)|many (l:List TV)
def RV.av:RV→AV
 | .one t=>t.av
 | .many l=>.tu l
def RV.den:RV→Value
 | .one t=>t.den
 | .many l=>.tuple (l.map TV.den).toArray
theorem RV.av_den (β:Nat→Bk) (r:RV):r.av.den β=r.den:=by cases r with|one t=>exact TV.av_den β t|many l=>rfl
def CA.ok (w:World):CA→Value→Prop
 | .v x,u=>u=x.den
 | .s l n m,u=>∃b o,u=.slice (some ⟨b,o,none⟩) n m∧b<w.heap.size∧w.rangeAt b o (aA l)
 | .so l n,u=>∃b o m,u=.slice (some ⟨b,o,none⟩) n m∧b<w.heap.size∧w.rangeAt b o (aA l)
 | .p l o,u=>∃b,u=.pointer (some ⟨b,o,none⟩)∧b<w.heap.size∧w.rangeAt b 0 (aA l)
def bZ (w:World):List CA→List Value→Prop
 | [],[]=>True
 | c::cs,v::vs=>c.ok w v∧bZ w cs vs
 | _,_=>False
abbrev Tab:=Nat→List CA→Option (List Prop×RV)
def aQ:List Prop→Prop
 | []=>True
 | p::r=>p∧aQ r
theorem bT:∀{l m:List Prop},aQ (l++m)↔aQ l∧aQ m
 | [],m=>by simp[aQ]
 | p::r,m=>by simp[aQ,bT (l:=r),and_assoc]
def TabOk (P:Program) (T:Tab):Prop:=∀f cs pre r,T f cs=some (pre,r)→aQ pre →
 (∀args w,(callFunc f args).run P w=.ok (.enter f args) w)∧∀(args:List Value) (w:World),bZ w cs args→Calls P f args.toArray w (fun e w'=>e=.returned r.den∧Below w.heap.size w w')
def Br:At→Bool
 | .c _=>false
 | _=>true
structure FR where
 l:List At
 n:Nat
 m:Nat
 post:List TV
def FR.val (r:FR) (b:Nat):Value:=bif r.post.isEmpty then .slice (some ⟨b,0,none⟩) r.n r.m else .tuple (.slice (some ⟨b,0,none⟩) r.n r.m::r.post.map TV.den).toArray
def FR.ok (r:FR) (w:World) (e:Ending) (w':World):Prop:=∃b,e=.returned (r.val b)∧Below w.heap.size w w'∧w.heap.size≤b∧b<w'.heap.size∧w'.rangeAt b 0 (aA r.l)∧∀j,w'.frozen? ⟨b,j,none⟩=false
structure FS where
 l:List At
 n:Nat
 e:Nat
 sz:Nat
 ap:Bool
 ante:List TV
 post:List TV
def FS.lone (r:FS):Bool:=r.ante.isEmpty&&r.post.isEmpty
def FS.val (r:FS) (b cap:Nat):Value:=bif r.lone then .slice (some ⟨b,0,none⟩) r.n cap else .tuple (r.ante.map TV.den ++ .slice (some ⟨b,0,none⟩) r.n cap::r.post.map TV.den).toArray
def FS.ok (r:FS) (w:World) (e:Ending) (w':World):Prop:=∃b cap,e=.returned (r.val b cap)∧Below w.heap.size w w'∧w.heap.size≤b∧b<w'.heap.size∧w'.rangeAt b 0 (aA r.l)∧(∀j,w'.frozen? ⟨b,j,none⟩=false)∧(r.ap=true→AppAt w' b r.e r.sz r.n cap)
def Shape (w w':World):Prop:=(∀(b:Nat) (cur:Array Value) (e:Nat),w.heap[b]?=some (Obj.cells cur e (0,0))→∃cur':Array Value,w'.heap[b]?=some (Obj.cells cur' e (0,0))∧cur'.size=cur.size)∧KeepsOthers w w'
structure WrAt (w w':World) (b:Nat) (l:List At):Prop where
 os:w'.os=w.os
 tape:w'.tape=w.tape
 output:w'.output=w.output
 size:w.heap.size≤w'.heap.size
 block:∀k,k<w.heap.size→k≠b→w'.heap[k]?=w.heap[k]?
 shape:Shape w w'
 frozen:∀j,w'.frozen? ⟨b,j,none⟩=w.frozen? ⟨b,j,none⟩
structure WrC (w w':World) (b:Nat):Prop where
 below:Below b w w'
 mem:∀p:Addr,p.block<w.heap.size→p.block≠b→w'.cell? p=w.cell? p∧w'.frozen? p=w.frozen? p
 shape:Shape w w'
 free:∀j,w'.frozen? ⟨b,j,none⟩=false
inductive CB|v (x:TV)|sl (o n m:Nat)|pt (o:Nat)|r (l:List At) (n m:Nat)
def CB.ok (w:World) (b:Nat):CB→Value→Prop
 | .v x,u=>u=x.den
 | .sl o n m,u=>u=.slice (some ⟨b,o,none⟩) n m
 | .pt o,u=>u=.pointer (some ⟨b,o,none⟩)
 | .r l n m,u=>∃b' o,u=.slice (some ⟨b',o,none⟩) n m∧b'<w.heap.size∧b'≠b∧w.rangeAt b' o (aA l)
def CBs (w:World) (b:Nat):List CB→List Value→Prop
 | [],[]=>True
 | c::cs,v::vs=>c.ok w b v∧CBs w b cs vs
 | _,_=>False
structure Ext where
 idx:Nat→Option Nat
 ld:Nat→Option (List At)
 st:Nat→Option (List At)
 gen:Nat→Option Value
 mks:Nat→Option (Nat×List At)
 ky:Nat→Option Nat
 old:Nat→Nat→List At→Prop
 T2:Nat→List CA→Option (List Prop×FR)
 T3:Nat→List CA→Option (List Prop×FS):=fun _ _=>Option.none
 T4:Nat→List CA→Option (List Prop×Nat×List At):=fun _ _=>Option.none
 T5:Nat→List CA→Option (List Prop×Nat×RV×List At):=fun _ _=>Option.none
 T6:Nat→Nat→List At→List CB→Option (List Prop×RV×List At):=fun _ _ _ _=>Option.none
def Ext.none:Ext:=⟨fun _=>.none,fun _=>.none,fun _=>.none,fun _=>.none,fun _=>.none,fun _=>.none,fun _ _ _=>False,fun _ _=>.none,fun _ _=>.none,fun _ _=>.none,fun _ _=>.none,fun _ _ _ _=>.none⟩
def zW (P:Program) (T:Tab) (w:World):Prop:=∀f cs pre r,T f cs=some (pre,r)→aQ pre →
 (∀args w,(callFunc f args).run P w=.ok (.enter f args) w)∧∀(args:List Value),bZ w cs args→Calls P f args.toArray w (fun e w'=>e=.returned r.den∧Below w.heap.size w w')
def TabOkW (P:Program) (T:Tab) (base:Nat) (w0:World):Prop:=∀w,Below base w0 w→zW P T w
theorem TabOk.w {P:Program} {T:Tab} (h:TabOk P T) (base:Nat) (w0:World):TabOkW P T base w0:=fun w _ f cs pre r hg hp=>⟨(h f cs pre r hg hp).1,fun args ha=>(h f cs pre r hg hp).2 args w ha⟩
def qJ (P:Program) (x:Ext) (w:World):Prop:=(∀b o l,x.old b o l→w.rangeAt b o (aA l))∧(∀f cs pre r,x.T2 f cs=some (pre,r)→aQ pre →
 (∀args w,(callFunc f args).run P w=.ok (.enter f args) w)∧∀(args:List Value),bZ w cs args→Calls P f args.toArray w (fun e w'=>r.ok w e w')) ∧
 (∀f cs pre r,x.T3 f cs=some (pre,r)→aQ pre→(∀args w,(callFunc f args).run P w=.ok (.enter f args) w)∧∀(args:List Value),bZ w cs args→Calls P f args.toArray w (fun e w'=>r.ok w e w')) ∧
 (∀f cs pre j l,x.T4 f cs=some (pre,j,l)→aQ pre→(∀args w,(callFunc f args).run P w=.ok (.enter f args) w)∧∀(args:List Value),bZ w cs args→∀b o n m,args[j]?=some (.slice (some ⟨b,o,none⟩) n m)→(∀q,w.frozen? ⟨b,q,none⟩=false) →
  Calls P f args.toArray w (fun e w'=>e=.returned (.slice (some ⟨b,o,none⟩) n m)∧WrAt w w' b l∧w'.rangeAt b o (aA l))) ∧
 (∀f cs pre j r l,x.T5 f cs=some (pre,j,r,l)→aQ pre→(∀args w,(callFunc f args).run P w=.ok (.enter f args) w)∧∀(args:List Value),bZ w cs args→∀b o,args[j]?=some (.pointer (some ⟨b,o,none⟩))→(∀q,w.frozen? ⟨b,q,none⟩=false) →
  Calls P f args.toArray w (fun e w'=>e=.returned r.den∧WrC w w' b∧w'.rangeAt b 0 (aA l))) ∧
 ∀f b row cs pre r l,x.T6 f b row cs=some (pre,r,l)→aQ pre→(∀args w,(callFunc f args).run P w=.ok (.enter f args) w)∧∀(args:List Value),b<w.heap.size→w.rangeAt b 0 (aA row)→(∀q,w.frozen? ⟨b,q,none⟩=false)→CBs w b cs args →
  Calls P f args.toArray w (fun e w'=>e=.returned r.den∧WrC w w' b∧w'.rangeAt b 0 (aA l))
def ExtOk (P:Program) (x:Ext) (base:Nat) (w0:World):Prop:=∀w,Below base w0 w→qJ P x w
structure EqT where
 q:Nat→Option Nat
 n:Nat→Option Nat
 x:Ext:=Ext.none
 fit:Nat→List At→Bool:=fun _ l=>l.all Br
def qK (P:Program) (q:EqT):Prop:=(∀t n,q.q t=some n→P.eqGuardType P.depth t=false∧∀(l:List At) (w:World),dV l=n→q.fit t l=true→(Op.equalIn 10000 t (.agg (aA l).toArray) (.agg (aA l).toArray)).run P w=.ok true w) ∧
 (∀t n,q.n t=some n→P.eqGuardType P.depth t=false∧∀(l m:List At) (w:World),dV l=n→dV m=n→q.fit t l=true→q.fit t m=true→aA l≠aA m→(Op.equalIn 10000 t (.agg (aA l).toArray) (.agg (aA m).toArray)).run P w=.ok false w)
theorem ExtOk.none (P:Program) (base:Nat) (w0:World):ExtOk P Ext.none base w0:=fun w _=>⟨fun _ _ _ h=>h.elim,fun _ _ _ _ h=>(by cases h),fun _ _ _ _ h=>(by cases h),fun _ _ _ _ _ h=>(by cases h),fun _ _ _ _ _ _ h=>(by cases h),fun _ _ _ _ _ _ _ h=>(by cases h)⟩
def EqOk (P:Program) (q:EqT):Prop:=qK P q∧q.x=Ext.none
def dA (P:Program) (q:EqT) (base:Nat) (w0:World):Prop:=qK P q∧ExtOk P q.x base w0
theorem EqOk.w {P:Program} {q:EqT} (h:EqOk P q) (base:Nat) (w0:World):dA P q base w0:=⟨h.1,h.2▸ExtOk.none P base w0⟩
structure Env where
 P:Program
 T:Nat→Tab
 q:EqT
 hint:Nat→Bool
 num:Nat→Option Value
 nt:Nat
def SY (l:List At) (o:Nat):Option (List At):=bif Nat.beq o 0 then some l else dp l o
theorem oF {l:List At} {n:Nat} {r:List At} (h:SY l n=some r):∃t,l=t++r∧dV t=n:=by
 unfold SY at h;cases hb:Nat.beq n 0<;>rw[hb]at h
 ·exact kI l n r h
 ·cases h; exact⟨[],rfl,(Nat.eq_of_beq_eq_true hb).symm⟩
def CF (M:List Fact):AV→Option CA
 | .im v=>some (.v (.im v))
 | .fl l=>some (.v (.fl l))
 | .sl k o n m=>match cE M k with
  | some (_,l)=>match SY l o with|some r=>some (.s r n m)|none=>none
  | none=>none
 | .so k n=>match cE M k with
  | some (_,l)=>some (.so l n)
  | none=>none
 | .pt k o=>match cE M k with
  | some (true,l)=>some (.p l o)
  | _=>none
 | _=>none
def qF (M:List Fact):List AV→Option (List CA)
 | []=>some []
 | v::r=>match CF M v,qF M r with|some c,some l=>some (c::l)|_,_=>none
theorem CE {M:List Fact} {base:Nat} {β:Nat→Bk} {a:Act} {w:World} (hM:∀φ∈M,φ.ok base β a w) {v:AV} {c:CA} (h:CF M v=some c):c.ok w (v.den β):=by
 cases v with
 | im v=>cases h; rfl
 | fl l=>cases h; rfl
 | sl k o n m =>
  unfold CF at h;cases hr:cE M k with
  | none=>simp[hr]at h
  | some x =>
   obtain⟨ow,l⟩:=x;simp only[hr]at h;cases hd:SY l o with
   | none=>simp[hd]at h
   | some r =>
    simp only[hd]at h;cases h;obtain⟨h1,h2,_⟩:=hM _ (aP hr);obtain⟨p,e,hp⟩:=oF hd;refine⟨_,_,rfl,h1,fun j u hj => ?_⟩;have:=h2 (o+j) u (by rw[e,aJ,List.getElem?_append_right (by rw[aF,hp]; omega),aF,hp]; simpa using hj)
    rwa [←Nat.add_assoc]at this
 | so k n =>
  unfold CF at h;cases hr:cE M k with
  | none=>simp[hr]at h
  | some x =>
   obtain⟨ow,l⟩:=x;simp only[hr]at h;cases h;obtain⟨h1,h2,_⟩:=hM _ (aP hr);exact⟨_,_,_,rfl,h1,h2⟩
 | pt k o =>
  unfold CF at h;cases hr:cE M k with
  | none=>simp[hr]at h
  | some x =>
   obtain⟨ow,l⟩:=x;cases ow with
   | false=>simp[hr]at h
   | true =>
    simp only[hr]at h;cases h;obtain⟨h1,h2,h3,_⟩:=hM _ (aP hr);obtain⟨_,h5,_⟩:=h3 rfl;rw[h5]at h2;exact⟨(β k).1,by simp[AV.den,h5],h1,h2⟩
 | _=>cases h
theorem jM {M:List Fact} {base:Nat} {β:Nat→Bk} {a:Act} {w:World} (hM:∀φ∈M,φ.ok base β a w):∀{l:List AV} {cs:List CA},qF M l=some cs→bZ w cs (l.map (AV.den β))
 | [],cs,h=>by cases h; trivial
 | v::r,cs,h=>by
  unfold qF at h;cases hv:CF M v with
  | none=>simp[hv]at h
  | some c =>
   cases hr:qF M r with
   | none=>simp[hv,hr]at h
   | some l =>
    simp only[hv,hr]at h;cases h;exact⟨CE hM hv,jM hM hr⟩
def jG (P:Program) (t:Nat):Bool:=match P.underlying t with|some d=>d.isRow|none=>false
def cD (P:Program) (t:Nat):Option Nat:=match P.info? t with|some i=>some i.size|none=>none
def MZ (P:Program) (t:Nat):Option (List At):=match P.info? t with
 | some i=>match i.zero with|some z=>some (nz z.cells.toList)|none=>none
 | none=>none
def TI (z:List Value):List (Nat×List At)→List At
 | (_,[.c _])::_=>z.map .c
 | _=>nz z
theorem oC:∀z:List Value,aA (z.map .c)=z
 | []=>rfl
 | v::r=>by show [v]++aA (r.map .c)=_; rw[oC r]; rfl
theorem mU (z:List Value) (ps:List (Nat×List At)):aA (TI z ps)=z:=by
 unfold TI;split
 ·exact oC z
 ·exact yW z
def xP (P:Program) (t:Nat) (ps:List (Nat×List At)):Option (List At) :=
 match P.info? t,P.underlying t with
 | some it,some (.array _ e)=>match it.zero,P.info? e with
  | some z,some ie=>pV (fun i=>some (i*ie.size,ie.size)) (TI z.cells.toList ps) ps
  | _,_=>none
 | some it,some (.struct fields)=>match it.zero,fields.toList.mapM (fun f=>(P.info? f.type).map fun i=>(f.offset,i.size))with
  | some z,some places=>pV (places.toArray[·]?) (TI z.cells.toList ps) ps
  | _,_=>none
 | _,_=>none
theorem uR {P:Program} {M:List Fact} {base:Nat} {β:Nat→Bk} {a:Act} {w:World} (hM:∀φ∈M,φ.ok base β a w) {t:Nat} {xs:List (Nat×Operand)} {ps:List (Nat×List At)} {l:List At}
  (hp:jE M xs=some ps) (h:xP P t ps=some l):P.built t (xs.map fun (i,x)=>(i,a.eval x))=some (aA l).toArray:=by
 unfold xP at h;unfold Program.built;cases hi:P.info? t with
 | none=>simp[hi]at h
 | some it =>
  cases hu:P.underlying t with
  | none=>simp[hi,hu]at h
  | some d =>
   cases d<;>simp only[hi,hu]at h ⊢ <;> try (cases h; done)
   ·rename_i n e;cases hz:it.zero with
    | none=>simp[hz]at h
    | some z =>
     cases he:P.info? e with
     | none=>simp[hz,he]at h
     | some ie =>
      simp only[hz,he]at h ⊢;have:=gF hM _ xs ps _ _ hp h
      rwa [mU,Array.toArray_toList]at this
   ·rename_i fs;cases hz:it.zero with
    | none=>simp[hz]at h
    | some z =>
     cases hm:fs.toList.mapM (fun f=>(P.info? f.type).map fun i=>(f.offset,i.size))with
     | none=>simp[hz,hm]at h
     | some pl =>
      simp only[hz,hm]at h ⊢;have:=gF hM _ xs ps _ _ hp h
      rwa [mU,Array.toArray_toList]at this
def zS (P:Program) (t len:Nat) (ps:List (Nat×List At)):Option (List At) :=
 match P.underlying t with
 | some (.slice e)=>match P.info? e with
  | some ie=>match ie.zero with
   | some z=>bif Nat.ble (len*ie.size) 4096 && !(Nat.beq (len*ie.size) 0)then
     pV (fun i=>some (i*ie.size,ie.size)) (TI ((Array.range (len*ie.size)).map (z.cells[· % z.cells.size]!)).toList ps) ps else none
   | none=>none
  | none=>none
 | _=>none
structure PostB (base:Nat) (β β':Nat→Bk) (a:Act) (w:World) (dst:Option Nat) (M out:List Fact) (kill:Option Nat) (a':Act) (w':World):Prop where
 defers:a'.defers=a.defers
 size:a'.tmps.size=a.tmps.size
 tmps:∀s,dst≠some s→a'.tmps[s]?=a.tmps[s]?
 beta:∀k,dst≠some k→β' k=β k
 heap:w.heap.size≤w'.heap.size
 mem:∀p:Addr,p.block<w.heap.size→(∀k,kill=some k→p.block≠(β k).1)→w'.cell? p=w.cell? p∧w'.frozen? p=w.frozen? p
 shape:Shape w w'
 below:∀w0,Below base w0 w→Below base w0 w'
 ok:∀φ∈out,φ.ok base β' a' w'
 rows:∀k l,Fact.row k true l∈out→(w.heap.size≤(β' k).1∧dst=some k)∨(dst≠some k∧∃l0,Fact.row k true l0∈M)∨(dst=some k∧∃k0 l0,kill=some k0∧(β' k).1=(β k0).1∧Fact.row k0 true l0∈M)
 one:∀k k' l l',Fact.row k true l∈out→Fact.row k' true l'∈out→k=k'
 kills:∀k,kill=some k→∃l0,Fact.row k true l0∈M
 onlyOwn:∀k l,Fact.row k false l∈out→False:=by first|(intro k l h; simp only[List.mem_cons,List.not_mem_nil,or_false,reduceCtorEq,false_or,Fact.row.injEq,Bool.false_eq_true,false_and,and_false]at h)|(intro k l h; cases h)
theorem Shape.refl (w:World):Shape w w:=⟨fun b cur e h=>⟨cur,h,rfl⟩,KeepsOthers.refl w⟩
theorem Shape.below {w w':World} (h:Below w.heap.size w w'):Shape w w':=⟨fun b cur e hb=>⟨cur,(h.block b (Array.getElem?_eq_some_iff.1 hb).1).trans hb,rfl⟩,h.size,fun b o hb _=>(h.block b (Array.getElem?_eq_some_iff.1 hb).1).trans hb⟩
theorem Shape.alloc (w:World) (o:Obj):Shape w (w.alloc o):=⟨fun b cur e hb=>⟨cur,(Below.heap_alloc w o b (Array.getElem?_eq_some_iff.1 hb).1).trans hb,rfl⟩,KeepsOthers.alloc w o⟩
theorem Shape.trans {a b c:World} (h:Shape a b) (k:Shape b c):Shape a c:=⟨fun q cur e hq=>by
 obtain⟨c1,h1,s1⟩:=h.1 q cur e hq;obtain⟨c2,h2,s2⟩:=k.1 q c1 e h1;exact⟨c2,h2,s2.trans s1⟩,h.2.trans k.2⟩
theorem Shape.drew (w:World):Shape w w.drew:=⟨fun q cur e h=>⟨cur,h,rfl⟩,Nat.le_refl _,fun k o h _=>h⟩
theorem AppAt.shape {w w':World} (h:Shape w w') {b e sz n cap:Nat} (ha:AppAt w b e sz n cap):AppAt w' b e sz n cap:=by
 obtain⟨cur,h1,h2,h3,h4⟩:=ha;obtain⟨c',h5,h6⟩:=h.1 b cur e h1;exact⟨c',h5,h2,h3,h6.trans h4⟩
theorem dJ (a:Act) (d:Nat) (v:Value) (h:d<a.tmps.size):(a.put (some d) v).tmps[d]?=some v:=by
 simp[Act.put,h]
theorem fR (a:Act) (d s:Nat) (v:Value) (h:some d≠some s):(a.put (some d) v).tmps[s]?=a.tmps[s]?:=by
 have:d≠s:=fun e=>h (by rw[e])
 simp[Act.put,Array.getElem?_setIfInBounds_ne this]
theorem cJ (a:Act) (d:Option Nat) (v:Value):(a.put d v).tmps.size=a.tmps.size:=by cases d<;>simp[Act.put]
theorem fD (a:Act) (d:Option Nat) (v:Value):(a.put d v).defers=a.defers:=by cases d<;>rfl
theorem pI {base:Nat} {β:Nat→Bk} {a:Act} {w:World} {d:Nat} {M:List Fact} (v:AV) (h:d<a.tmps.size):PostB base β β a w (some d) M [.slot d v] none (a.put (some d) (v.den β)) w where
 defers:=rfl
 size:=cJ _ _ _
 tmps s hs:=fR _ _ _ _ hs
 beta k _:=rfl
 heap:=Nat.le_refl _
 mem p _ _:=⟨rfl,rfl⟩
 shape:=Shape.refl _
 below _ h:=h
 ok φ hφ:=by cases List.mem_singleton.1 hφ; exact dJ _ _ _ h
 rows k l hk:=by cases List.mem_singleton.1 hk
 one k k' l l' hk:=by cases List.mem_singleton.1 hk
 kills k hk:=by cases hk
theorem kX {base:Nat} {β:Nat→Bk} {a:Act} {w w':World} {d:Nat} {M:List Fact} (v:AV) (h:d<a.tmps.size) (hB:base≤w.heap.size) (hb:Below w.heap.size w w'):PostB base β β a w (some d) M [.slot d v] none (a.put (some d) (v.den β)) w' where
 defers:=rfl
 size:=cJ _ _ _
 tmps s hs:=fR _ _ _ _ hs
 beta k _:=rfl
 heap:=hb.size
 mem p hp _:=⟨hb.cell hp,hb.frozen hp⟩
 shape:=Shape.below hb
 below _ h:=h.trans (hb.mono hB)
 ok φ hφ:=by cases List.mem_singleton.1 hφ; exact dJ _ _ _ h
 rows k l hk:=by cases List.mem_singleton.1 hk
 one k k' l l' hk:=by cases List.mem_singleton.1 hk
 kills k hk:=by cases hk
def JD (β:Nat→Bk) (d b:Nat):Nat→Bk:=fun k=>bif Nat.beq k d then (b,0,0)else β k
def JA (β:Nat→Bk) (d b cap:Nat):Nat→Bk:=fun k=>bif Nat.beq k d then (b,0,cap)else β k
theorem bJ (β:Nat→Bk) (d b cap:Nat):JA β d b cap d=(b,0,cap):=by simp[JA]
theorem CQ (β:Nat→Bk) (d b cap k:Nat) (h:some d≠some k):JA β d b cap k=β k:=by
 have:k≠d:=fun e=>h (by rw[e])
 unfold JA;cases h2:Nat.beq k d
 ·rfl
 ·exact absurd (Nat.eq_of_beq_eq_true h2) this
theorem bM (β:Nat→Bk) (d b:Nat):JD β d b d=(b,0,0):=by simp[JD]
theorem CS (β:Nat→Bk) (d b k:Nat) (h:some d≠some k):JD β d b k=β k:=by
 have:k≠d:=fun e=>h (by rw[e])
 unfold JD;cases h2:Nat.beq k d
 ·rfl
 ·exact absurd (Nat.eq_of_beq_eq_true h2) this
theorem EN {base:Nat} {β:Nat→Bk} {a:Act} {w:World} {d:Nat} {M:List Fact} (v:AV) (l:List At) (t:TypeId) (h:d<a.tmps.size) (hB:base≤w.heap.size) :
  PostB base β (JD β d w.heap.size) a w (some d) M [.slot d v,.row d true l] none (a.put (some d) (v.den (JD β d w.heap.size))) (w.alloc (.cells (aA l).toArray t)) where
 defers:=rfl
 size:=cJ _ _ _
 tmps s hs:=fR _ _ _ _ hs
 beta k hk:=CS _ _ _ _ hk
 heap:=by simp
 mem p hp _:=⟨World.cell?_alloc_lt _ _ _ hp,World.frozen?_alloc_past _ _ _ hp⟩
 shape:=Shape.alloc _ _
 below _ h:=h.alloc hB _
 ok φ hφ:=by
  rcases List.mem_cons.1 hφ with rfl|hφ
  ·exact dJ _ _ _ h
  ·cases List.mem_singleton.1 hφ;refine⟨by rw[bM]; simp,fun j u hj => ?_,fun _=>⟨by rw[bM]; exact hB,by rw[bM],fun j=>by rw[bM]; exact World.frozen?_alloc_new _ _ _ _⟩,fun h=>by cases h⟩;rw[bM];show World.cell? _ ⟨_,0+j,none⟩=_;rw[Nat.zero_add,World.cell?_alloc_new];simpa using hj
 rows k l' hk:=by
  rcases List.mem_cons.1 hk with hk|hk
  ·cases hk
  ·cases List.mem_singleton.1 hk;exact Or.inl ⟨by rw[bM]; exact Nat.le_refl _,rfl⟩
 one k k' l1 l2 hk hk':=by
  rcases List.mem_cons.1 hk with hk|hk
  ·cases hk
  ·rcases List.mem_cons.1 hk' with hk'|hk'
   ·cases hk'
   ·cases List.mem_singleton.1 hk; cases List.mem_singleton.1 hk'; rfl
 kills k hk:=by cases hk
abbrev TE:=Option (List Prop×List Fact×Option Nat)
def TB:At→Bool
 | .c v=>nV v
 | _=>true
def BH (M:List Fact):List AV→Option (List Value)
 | []=>some []
 | .im v::r=>match BH M r with|some l=>some (v::l)|none=>none
 | .pt k o::r=>match oL M k,BH M r with|some b,some l=>some (.pointer (some ⟨b,o,none⟩)::l)|_,_=>none
 | _::_=>none
def zD (M:List Fact) (ky:Option Nat) (v:Value):Option (List Prop×AV) :=
 match ky with
 | none=>some ([],.im v)
 | some k=>match v,oL M k with
  | .slice (some ⟨b,0,none⟩) n m,some b'=>some ([b=b'],.sl k 0 n m)
  | .pointer (some ⟨b,0,none⟩),some b'=>some ([b=b'],.pt k 0)
  | _,_=>none
def bH (op:BinOp) (k:IntKind) (a b:Int):Option Value :=
 match op with
 | .add=>some (.int k (k.wrap (a+b)))
 | .sub=>some (.int k (k.wrap (a-b)))
 | .mul=>some (.int k (k.wrap (a*b)))
 | .rem=>if b=0 then none else some (.int k (a.tmod b))
 | .quo=>if b=0 then none else some (.int k (k.wrap (a.tdiv b)))
 | .eql=>some (.bool (a==b))
 | .neq=>some (.bool (a != b))
 | .lss=>some (.bool (decide (a<b)))
 | .leq=>some (.bool (decide (a≤b)))
 | .gtr=>some (.bool (decide (a>b)))
 | .geq=>some (.bool (decide (a≥b)))
 | _=>none
def WN (E:Env) (d:Nat) (op:BinOp) (t:Nat) (x y:AV):TE :=
 match x,y with
 | .im (.int k a),.im (.int k' b)=>if k=k' then (match E.num d with
  | some v=>some ([bH op k a b=some v],[.slot d (.im v)],none)
  | none=>match bH op k a b with|some v=>some ([],[.slot d (.im v)],none)|none=>none)else none
 | .im (.bool a),.im (.bool b)=>match E.P.underlying t with
  | some .bool=>(match op with
   | .eql=>some ([],[.slot d (.im (.bool (a==b)))],none)
   | .neq=>some ([],[.slot d (.im (.bool (a != b)))],none)
   | _=>none)
  | _=>none
 | .fl l,.fl m=>bif E.q.fit t l&&E.q.fit t m then
   (bif E.hint d then (match E.q.q t with
    | some n=>bif Nat.beq (dV l) n&&Nat.beq (dV m) n then
      (match op with
      | .eql=>some ([aA l=aA m],[.slot d (.im (.bool true))],none)
      | .neq=>some ([aA l=aA m],[.slot d (.im (.bool false))],none)
      | _=>none)else none
    | none=>none)
   else (match E.q.n t with
    | some n=>bif Nat.beq (dV l) n&&Nat.beq (dV m) n then
      (match op with
      | .eql=>some ([aA l≠aA m],[.slot d (.im (.bool false))],none)
      | .neq=>some ([aA l≠aA m],[.slot d (.im (.bool true))],none)
      | _=>none)else none
    | none=>none))else none
 | _,_=>none
def WS (P:Program) (t:Nat):Option (Nat×Nat×Nat):=match P.underlying t with
 | some (.slice e)=>(match P.info? e with
  | some i=>(match i.zero with
   | some z=>bif Nat.beq z.cells.size i.size&&Nat.blt 0 i.size then some (e,i.size,i.bytes)else none
   | none=>none)
  | none=>none)
 | _=>none
def XZ (M:List Fact) (sz:Nat):AV→Option (Nat×List At)
 | .sl k o n m=>match cE M k with
  | some (_,l)=>(match SY l o with|some r=>(match tk r (n*sz)with|some t=>some (n,t)|none=>none)|none=>none)
  | none=>none
 | .so k n=>match cE M k with
  | some (_,l)=>(match tk l (n*sz)with|some t=>some (n,t)|none=>none)
  | none=>none
 | _=>none
def Ay (M:List Fact) (e sz:Nat):AV→Option (Nat×List At×Option Nat)
 | .im (.slice none 0 0)=>some (0,[],none)
 | .so k n=>match cE M k,kO M k with
  | some (true,l),some (e',sz',n')=>bif Nat.beq e e'&&(Nat.beq sz sz'&&(Nat.beq n n'&&Nat.beq (dV l) (n*sz)))then some (n,l,some k)else none
  | _,_=>none
 | _=>none
def ZW (E:Env) (M:List Fact) (sz d:Nat) (v:AV):Option (Nat×List At×List Prop):=match E.q.x.ld d with
 | some news=>(match v with
  | .sl k o n _=>(match cE M k with|some (_,l)=>some (n,news,[CM l o (n*sz)=some news])|none=>none)
  | .so k n=>(match cE M k with|some (_,l)=>some (n,news,[CM l 0 (n*sz)=some news])|none=>none)
  | .im (.slice (some ⟨b,o,.none⟩) n _)=>some (n,news,[E.q.x.old b o news,dV news=n*sz])
  | _=>none)
 | none=>(match XZ M sz v with|some (m,t)=>some (m,t,[])|none=>none)
def ZV (M:List Fact) (e sz:Nat):AV→Option (Nat×List At×Option Nat×List Prop)
 | .im (.slice none 0 0)=>some (0,[],none,[])
 | .so k n=>match cE M k,kO M k with
  | some (true,l),some (e',sz',n')=>bif Nat.beq e e'&&Nat.beq sz sz' then some (n,l,some k,[n=n',dV l=n*sz])else none
  | _,_=>none
 | _=>none
def wI (P:Program) (t:Nat) (name:String):Option Nat :=
 match P.info? t,P.underlying t with
 | some i,some d=>(match d with
  | .pointer _=>none
  | _=>(match i.methods.find? (·.name==name)with
   | some m=>(match m.path.toList,m.func with
    | [],some (f,false)=>some f
    | _,_=>none)
   | none=>none))
 | _,_=>none
def FZ (P:Program) (t:Nat):Bool:=match P.underlying t with|some (.interface _)=>true|some _=>false|none=>true
def fN (P:Program) (t:Nat):Bool:=match P.underlying t with|some (.struct _)=>false|some (.array _ _)=>false|some _=>true|none=>false
def Ae (M:List Fact) (d:Nat) (pre:List Prop) (v:Option AV) (l':List At):TE:=match v with
 | some (.so k n)=>(match cE M k with
  | some (true,l)=>bif !(Nat.beq k d)then some (pre,[.slot d (.so k n),.row k true l'],some k)else none
  | _=>none)
 | some (.sl k 0 n m)=>(match cE M k with
  | some (true,l)=>bif !(Nat.beq k d)then some (pre,[.slot d (.sl k 0 n m),.row k true l'],some k)else none
  | _=>none)
 | _=>none
def Ad (M:List Fact) (d:Nat) (pre:List Prop) (v:Option AV) (r:RV) (l':List At):TE:=match v with
 | some (.pt k o)=>(match cE M k with
  | some (true,l)=>bif !(Nat.beq k d)then some (pre,[.slot d r.av,.row k true l'],some k)else none
  | _=>none)
 | _=>none
def fF:Option Nat→Nat→Bool
 | some d,s=>Nat.beq d s
 | none,_=>false
theorem bO {d:Option Nat} {s:Nat}:fF d s=true↔d=some s:=by
 cases d with
 | none=>simp[fF]
 | some x=>simp[fF]
def XX (M:List Fact) (k b:Nat):AV→Option (List Prop×CB)
 | .im v=>some ([],.v (.im v))
 | .fl l=>some ([],.v (.fl l))
 | .sl k' o n m=>bif Nat.beq k' k then some ([],.sl o n m)else (match cE M k',oL M k' with
  | some (_,l),some b'=>(match SY l o with|some r=>some ([b'≠b],.r r n m)|none=>none)
  | _,_=>none)
 | .pt k' o=>bif Nat.beq k' k then some ([],.pt o)else none
 | _=>none
def ME (M:List Fact) (k b:Nat):List AV→Option (List Prop×List CB)
 | []=>some ([],[])
 | v::r=>match XX M k b v,ME M k b r with|some (p,c),some (ps,l)=>some (p++ps,c::l)|_,_=>none
def II (j:Option Nat) (b:Nat):Nat→List Value→List Prop×List CB
 | _,[]=>([],[])
 | i,v::r=>match II j b (i+1) r with
  | (ps,l)=>bif fF j i then (match v with
   | .pointer (some ⟨c,o,.none⟩)=>((c=b)::ps,.pt o::l)
   | v=>(ps,.v (.im v)::l))else (ps,.v (.im v)::l)
def aZ (E:Env) (M:List Fact) (d:Nat):Op→TE
 | .move x=>match ev M x with|some v=>some ([],[.slot d v],none)|none=>none
 | .assign x=>match ev M x with|some v=>some ([],[.slot d v],none)|none=>none
 | .pick c x y=>match ev M c,ev M x,ev M y with
  | some (.im (.bool b)),some v,some u=>some ([],[.slot d (bif b then v else u)],none)
  | _,_,_=>none
 | .alloc t=>match MZ E.P t with|some l=>some ([],[.slot d (.pt d 0),.row d true l],none)|none=>none
 | .box t x=>match ev M x with
  | some v=>match tN v with|some p=>some ([],[.slot d (.pt d 0),.row d true p],none)|none=>none
  | none=>none
 | .build t ps=>match jE M ps.toList with
  | some qs=>match xP E.P t qs with
   | some l=>(match E.q.x.ld d with
    | some l'=>some ([aA l=aA l'],[.slot d (.fl l')],none)
    | none=>some ([],[.slot d (.fl (nq l))],none))
   | none=>none
  | none=>none
 | .buildSlice t n ps=>match jE M ps.toList with
  | some qs=>match zS E.P t n qs with|some l=>some ([],[.slot d (.sl d 0 n n),.row d true l],none)|none=>none
  | none=>none
 | .load t x=>match ev M x with
  | some (.pt k o)=>match cE M k,cD E.P t,jG E.P t with
   | some (_,l),some n,true=>match E.q.x.ld d with
    | some s=>some ([CM l o n=some s],[.slot d (.fl s)],none)
    | none=>match CM l o n with|some s=>some ([],[.slot d (.fl s)],none)|none=>none
   | some (_,l),some 1,false=>bif fN E.P t then (match E.q.x.gen d with
    | some v=>(match zD M (E.q.x.ky d) v with|some (p,u)=>some ((cellAt l o=some v)::p,[.slot d u],none)|none=>none)
    | none=>match cellAt l o with
     | some v=>(match zD M (E.q.x.ky d) v with|some (p,u)=>some (p,[.slot d u],none)|none=>none)
     | none=>none)else none
   | _,_,_=>none
  | some (.im (.pointer (some ⟨b,o,.none⟩)))=>match cD E.P t,jG E.P t with
   | some n,true=>(match E.q.x.ld d with
    | some s=>some ([E.q.x.old b o s,dV s=n],[.slot d (.fl s)],none)
    | none=>none)
   | some 1,false=>bif fN E.P t then (match E.q.x.gen d with
    | some v=>some ([E.q.x.old b o [.c v]],[.slot d (.im v)],none)
    | none=>none)else none
   | _,_=>none
  | _=>none
 | .makeInterface t x=>match ev M x with
  | some (.fl l)=>bif FZ E.P t then none else some ([],[.slot d (.ic t l)],none)
  | _=>none
 | .nilCheck x=>match ev M x with
  | some (.pt k o)=>some ([],[.slot d (.pt k o)],none)
  | some (.im (.pointer (some p)))=>some ([],[.slot d (.im (.pointer (some p)))],none)
  | _=>none
 | .fieldAddr s x i=>match ev M x,E.P.underlying s with
  | some (.pt k o),some (.struct fs)=>match fs[i]? with
   | some f=>match cD E.P f.type with
    | some n=>bif Nat.beq n 0 then none else some ([],[.slot d (.pt k (o+f.offset))],none)
    | none=>none
   | none=>none
  | some (.im (.pointer (some ⟨b,o,.none⟩))),some (.struct fs)=>match fs[i]? with
   | some f=>match cD E.P f.type with
    | some n=>bif Nat.beq n 0 then none else some ([],[.slot d (.im (.pointer (some ⟨b,o+f.offset,.none⟩)))],none)
    | none=>none
   | none=>none
  | _,_=>none
 | .indexAddr t x y=>match E.q.x.idx d with
  | some j=>(match ev M x,ev M y,E.P.underlying t with
   | some (.pt k o),some (.im (.int kd i)),some (.array n e)=>(match cD E.P e with
    | some s=>some ([i=Int.ofNat j,j<n],[.slot d (.pt k (o+j*s))],none)
    | none=>none)
   | some (.sl k o n m),some (.im (.int kd i)),some (.slice e)=>(match cD E.P e with
    | some s=>some ([i=Int.ofNat j,j<n],[.slot d (.pt k (o+j*s))],none)
    | none=>none)
   | some (.im (.pointer (some ⟨b,o,.none⟩))),some (.im (.int kd i)),some (.array n e)=>(match cD E.P e with
    | some s=>some ([i=Int.ofNat j,j<n],[.slot d (.im (.pointer (some ⟨b,o+j*s,.none⟩)))],none)
    | none=>none)
   | some (.im (.slice (some ⟨b,o,.none⟩) n m)),some (.im (.int kd i)),some (.slice e)=>(match cD E.P e with
    | some s=>some ([i=Int.ofNat j,j<n],[.slot d (.im (.pointer (some ⟨b,o+j*s,.none⟩)))],none)
    | none=>none)
   | _,_,_=>none)
  | none=>match ev M x,ev M y with
  | some (.pt k o),some (.im (.int kd (.ofNat i)))=>match E.P.underlying t with
   | some (.array n e)=>match cD E.P e with
    | some s=>bif Nat.blt i n then some ([],[.slot d (.pt k (o+i*s))],none)else none
    | none=>none
   | _=>none
  | some (.sl k o n m),some (.im (.int kd (.ofNat i)))=>match E.P.underlying t with
   | some (.slice e)=>match cD E.P e with
    | some s=>bif Nat.blt i n then some ([],[.slot d (.pt k (o+i*s))],none)else none
    | none=>none
   | _=>none
  | some (.so k n),some (.im (.int kd (.ofNat i)))=>match E.P.underlying t with
   | some (.slice e)=>match cD E.P e with
    | some s=>bif Nat.blt i n then some ([],[.slot d (.pt k (i*s))],none)else none
    | none=>none
   | _=>none
  | _,_=>none
 | .index t x y=>match E.q.x.gen d with
  | some v=>(match ev M x,ev M y,E.P.underlying t with
   | some (.fl l),some (.im (.int kd (.ofNat i))),some (.array n e)=>(match cD E.P e with
    | some 1=>bif fN E.P e then some ([i<n,cellAt l i=some v],[.slot d (.im v)],none)else none
    | _=>none)
   | _,_,_=>none)
  | none=>match ev M x,ev M y with
  | some (.fl l),some (.im (.int kd (.ofNat i)))=>match E.P.underlying t with
   | some (.array n e)=>match cD E.P e,jG E.P e with
    | some s,true=>bif Nat.blt i n then (match CM l (i*s) s with|some r=>some ([],[.slot d (.fl r)],none)|none=>none)else none
    | some 1,false=>bif fN E.P e&&Nat.blt i n then (match cellAt l i with|some v=>some ([],[.slot d (.im v)],none)|none=>none)else none
    | _,_=>none
   | _=>none
  | _,_=>none
 | .field s x i=>match ev M x,E.P.underlying s with
  | some (.fl l),some (.struct fs)=>match fs[i]? with
   | some f=>match cD E.P f.type,jG E.P f.type with
    | some n,true=>(match CM l f.offset n with|some r=>some ([],[.slot d (.fl r)],none)|none=>none)
    | some 1,false=>bif fN E.P f.type then (match cellAt l f.offset with|some v=>some ([],[.slot d (.im v)],none)|none=>none)else none
    | _,_=>none
   | none=>none
  | _,_=>none
 | .extract x i=>match ev M x with
  | some (.tu l)=>match l[i]? with|some t=>some ([],[.slot d t.av],none)|none=>none
  | some (.tf k n m post)=>match i with
   | 0=>some ([],[.slot d (.sl k 0 n m)],none)
   | i+1=>match post[i]? with|some t=>some ([],[.slot d t.av],none)|none=>none
  | some (.tg k n ante post)=>bif Nat.blt i ante.length then (match ante[i]? with|some t=>some ([],[.slot d t.av],none)|none=>none)
   else bif Nat.beq i ante.length then some ([],[.slot d (.so k n)],none)
   else (match post[i-ante.length-1]? with|some t=>some ([],[.slot d t.av],none)|none=>none)
  | _=>none
 | .slice t x (some lo) (some hi) none=>match E.q.x.gen d with
  | some r=>(match ev M x,ev M lo,ev M hi with
   | some (.im v),some (.im u),some (.im u')=>some ([∀w:World,(Instr.sliceAt t v (some u) (some u') none).run E.P w=.ok r w],[.slot d (.im r)],none)
   | _,_,_=>none)
  | none=>match ev M x,ev M lo,ev M hi,E.P.underlying t with
  | some (.sl k o n m),some (.im (.int _ (.ofNat i))),some (.im (.int _ (.ofNat j))),some (.slice e)=>match cD E.P e with
   | some s=>some ([i≤j,j≤m,i<m],[.slot d (.sl k (o+i*s) (j-i) (m-i))],none)
   | none=>none
  | _,_,_,_=>none
 | .slice t x (some lo) none none=>match E.q.x.gen d with
  | some r=>(match ev M x,ev M lo with
   | some (.im v),some (.im u)=>some ([∀w:World,(Instr.sliceAt t v (some u) none none).run E.P w=.ok r w],[.slot d (.im r)],none)
   | _,_=>none)
  | none=>match ev M x,ev M lo,E.P.underlying t with
   | some (.sl k o n m),some (.im (.int _ (.ofNat i))),some (.slice e)=>(match cD E.P e with
    | some s=>some ([i≤n,n≤m,i<m],[.slot d (.sl k (o+i*s) (n-i) (m-i))],none)
    | none=>none)
   | _,_,_=>none
 | .slice t x none hi none=>match ev M x,E.P.underlying t with
  | some (.pt k o),some (.array n e)=>match cD E.P e with
   | some s=>match hi with
    | none=>some ([],[.slot d (.sl k o n n)],none)
    | some y=>match ev M y with
     | some (.im (.int kd (.ofNat h)))=>bif Nat.ble h n then some ([],[.slot d (.sl k o h n)],none)else none
     | _=>none
   | none=>none
  | some (.sl k o n m),some (.slice e)=>match hi with
   | some y=>(match ev M y,cD E.P e with
    | some (.im (.int kd (.ofNat h))),some s=>some ([h≤m],[.slot d (.sl k o h m)],none)
    | _,_=>none)
   | none=>none
  | some (.im (.slice p n m)),some (.slice e)=>match hi with
   | some y=>(match ev M y,cD E.P e with
    | some (.im (.int kd (.ofNat h))),some s=>some ([h≤m],[.slot d (.im (.slice p h m))],none)
    | _,_=>none)
   | none=>none
  | _,_=>none
 | .binOp op t x y _=>match E.q.x.gen d with
  | some r=>(match ev M x,ev M y with
   | some (.im v),some (.im u)=>some ([∀w:World,(do eqGuard op t x y v u; binOp op t v u:Sem Value).run E.P w=.ok r w],[.slot d (.im r)],none)
   | _,_=>none)
  | none=>match ev M x,ev M y with|some v,some u=>WN E d op t v u|_,_=>none
 | .convert src dst x=>match E.q.x.gen d,ev M x with
  | some r,some (.im v)=>some ([∀w:World,(convert src dst v).run E.P w=.ok r w],[.slot d (.im r)],none)
  | _,_=>none
 | .makeFunc fn first captured=>match fn with
  | .func id=>bif Nat.beq first.size 0 then (match RG M captured.toList with
   | some l=>(match BH M l with|some vs=>some ([],[.slot d (.im (.func (.func id) #[] vs.toArray))],none)|none=>none)
   | none=>none)else none
  | _=>none
 | .makeSlice t l c=>match E.q.x.mks d,ev M l,ev M c with
  | some (n,L),some (.im v),some (.im u)=>some ([∃e,∀w:World,(Instr.makeSlice t v u).run E.P w=.ok (.slice (some ⟨w.heap.size,0,none⟩) n n) (w.alloc (.cells (aA L).toArray e))],[.slot d (.sl d 0 n n),.row d true L],none)
  | _,_,_=>none
 | .unOp op _ x=>match E.q.x.gen d with
  | some r=>(match ev M x with
   | some (.im v)=>some ([∀w:World,(Op.unary op v).run E.P w=.ok r w],[.slot d (.im r)],none)
   | _=>none)
  | none=>match op,ev M x with
  | .not,some (.im (.bool b))=>match E.num d with
   | some v=>some ([Value.bool (!b)=v],[.slot d (.im v)],none)
   | none=>some ([],[.slot d (.im (.bool (!b)))],none)
  | _,_=>none
 | .call c=>match c.callee with
  | .builtin .len=>match c.args.toList,c.argTypes.toList with
   | [x],[t]=>match ev M x,E.P.underlying t with
    | some (.sl k o n m),some (.slice e)=>some ([],[.slot d (.im (goInt n))],none)
    | some (.im (.slice p n m)),some (.slice e)=>some ([],[.slot d (.im (goInt n))],none)
    | some (.so k n),some (.slice e)=>some ([],[.slot d (.im (goInt n))],none)
    | _,_=>none
   | _,_=>none
  | .builtin .append=>match c.args.toList,c.argTypes.toList with
   | [x,y],[t,t']=>bif Nat.beq t t' then (match ev M x,ev M y,WS E.P t with
    | some u,some v,some (e,sz,by8)=>(match E.q.x.mks d with
     | some (N',L')=>(match ZW E M sz d v,ZV M e sz u with
      | some (m,news,p1),some (n,l,kl,p2)=>some (p1++(p2++[∀x∈aA news,x.oneCell'=true,0<m,(n+m)*by8≤140737488355328,n+m≤4611686018427387904,N'=n+m,aA L'=aA (l++news)]),[.slot d (.so d N'),.row d true L',.app d e sz N'],kl)
      | _,_=>none)
     | none=>match XZ M sz v,Ay M e sz u with
     | some (m,news),some (n,l,kl)=>bif news.all TB&&(Nat.blt 0 m&&(Nat.ble ((n+m)*by8) 140737488355328&&Nat.ble (n+m) 4611686018427387904))then some ([],[.slot d (.so d (n+m)),.row d true (l++news),.app d e sz (n+m)],kl)else none
     | _,_=>none)
    | _,_,_=>none)else none
   | _,_=>none
  | .builtin .max=>match c.args.toList with
   | [x,y]=>match ev M x,ev M y with
    | some (.im (.int k a)),some (.im (.int k' b))=>match E.num d with
     | some v=>some ([Value.int k (if b>a then b else a)=v],[.slot d (.im v)],none)
     | none=>some ([],[.slot d (.im (.int k (if b>a then b else a)))],none)
    | _,_=>none
   | _=>none
  | .builtin .min=>match c.args.toList with
   | [x,y,z]=>match ev M x,ev M y,ev M z,E.num d with
    | some (.im (.int k a)),some (.im (.int k' b)),some (.im (.int k'' c)),some v=>some ([Value.int k (if c<(if b<a then b else a)then c else (if b<a then b else a))=v],[.slot d (.im v)],none)
    | _,_,_,_=>none
   | [x,y]=>match ev M x,ev M y,E.num d with
    | some (.im (.int k a)),some (.im (.int k' b)),some v=>some ([Value.int k (if b<a then b else a)=v],[.slot d (.im v)],none)
    | _,_,_=>none
   | _=>none
  | .builtin .complex=>match E.q.x.gen d,c.args.toList with
   | some r,[x,y]=>(match ev M x,ev M y with
    | some (.im v),some (.im u)=>some ([∀w:World,(Builtin.complex_ #[] 0 #[v,u]).run E.P w=.ok r w],[.slot d (.im r)],none)
    | _,_=>none)
   | _,_=>none
  | .builtin .real=>match E.q.x.gen d,c.args.toList with
   | some r,[x]=>(match ev M x with
    | some (.im v)=>some ([∀w:World,(Builtin.real_ #[] 0 #[v]).run E.P w=.ok r w],[.slot d (.im r)],none)
    | _=>none)
   | _,_=>none
  | .builtin .imag=>match E.q.x.gen d,c.args.toList with
   | some r,[x]=>(match ev M x with
    | some (.im v)=>some ([∀w:World,(Builtin.imag_ #[] 0 #[v]).run E.P w=.ok r w],[.slot d (.im r)],none)
    | _=>none)
   | _,_=>none
  | .value f=>match ev M f with
   | some (.im (.func (.func id) first captured))=>bif Nat.beq first.size 0 then
     (match RG M c.args.toList with
     | some l=>match E.q.x.ky d with
      | some k=>(match cE M k,oL M k with
       | some (true,row),some b=>(match ME M k b l,II (E.q.x.idx d) b 0 captured.toList with
        | some (p1,cbs),(p2,cps)=>(match E.q.x.T6 id b row (cbs++cps)with
         | some (pre,r,row')=>bif !(Nat.beq k d)then some (p1++(p2++pre),[.slot d r.av,.row k true row'],some k)else none
         | none=>none)
        | _,_=>none)
       | _,_=>none)
      | none=>match qF M l with
      | some cs=>match E.T d id (cs++captured.toList.map fun v=>.v (.im v))with
       | some (pre,r)=>some (pre,[.slot d r.av],none)
       | none=>match E.q.x.T2 id (cs++captured.toList.map fun v=>.v (.im v))with
        | some (pre,r)=>some (pre,[.slot d (bif r.post.isEmpty then .sl d 0 r.n r.m else .tf d r.n r.m r.post),.row d true r.l],none)
        | none=>match E.q.x.T3 id (cs++captured.toList.map fun v=>.v (.im v))with
         | some (pre,r)=>some (pre,.slot d (bif r.lone then .so d r.n else .tg d r.n r.ante r.post) :: .row d true r.l::(bif r.ap then [.app d r.e r.sz r.n]else []),none)
         | none=>match E.q.x.T4 id (cs++captured.toList.map fun v=>.v (.im v))with
          | some (pre,j,l')=>Ae M d pre (l[j]?) l'
          | none=>match E.q.x.T5 id (cs++captured.toList.map fun v=>.v (.im v))with
           | some (pre,j,r,l')=>Ad M d pre (l[j]?) r l'
           | none=>none
      | none=>none
     | none=>none)else none
   | _=>none
  | .invoke x name=>match ev M x with
   | some (.ic t l0)=>(match wI E.P t name with
    | some id=>(match RG M c.args.toList with
     | some l=>match qF M l with
      | some cs=>match E.T d id (.v (.fl l0)::cs)with
       | some (pre,r)=>some (pre,[.slot d r.av],none)
       | none=>none
      | none=>none
     | none=>none)
    | none=>none)
   | _=>none
  | _=>none
 | _=>none
def OT (E:Env):Operand→Option (List At)
 | .tmp s=>E.q.x.st s
 | _=>none
def qN (E:Env) (M:List Fact):Op→TE
 | .store t x y=>match ev M x,ev M y with
  | some (.pt k o),some v=>match tN v,cE M k,cD E.P t with
   | some p,some (true,l),some n=>bif Nat.beq n (dV p)&&p.all TB then
     (match OT E x with
     | some l'=>some ([put l o p=some l'],[.row k true l'],some k)
     | none=>match put l o p with|some l'=>some ([],[.row k true l'],some k)|none=>none)else none
   | _,_,_=>none
  | _,_=>none
 | _=>none
def rH (ops:Array Oper) (M:List Fact):Option (Nat×Bool)→Option Bool
 | none=>some true
 | some (g,b)=>match (ops[g]?).bind (·.dst)with
  | some s=>match lC M s with|some (.im (.bool c))=>some (c==b)|some (.im (.tuple _))=>some false|_=>none
  | none=>none
def SS (E:Env) (ops:Array Oper) (M:List Fact) (o:Oper):TE :=
 match rH ops M o.guard with
 | some true=>(match o.dst with
  | some d=>bif Nat.blt d E.nt then aZ E M d o.op else none
  | none=>qN E M o.op)
 | some false=>(match o.dst with
  | some d=>bif Nat.blt d E.nt then some ([],[.slot d (.im undef)],none)else none
  | none=>none)
 | none=>none
theorem kD {ops:Array Oper} {M:List Fact} {base:Nat} {β:Nat→Bk} {a:Act} {w:World} (hM:∀φ∈M,φ.ok base β a w) {o:Oper} {t:Bool} (h:rH ops M o.guard=some t):Region.wanted o (yielded ops a.tmps)=t:=by
 unfold Region.wanted;cases hg:o.guard with
 | none=>rw[hg]at h; cases h; rfl
 | some gb =>
  obtain⟨g,b⟩:=gb;rw[hg]at h;unfold rH at h;simp only at h ⊢;unfold yielded;cases hs:(ops[g]?).bind (·.dst)with
  | none=>rw[hs]at h; cases h
  | some s =>
   rw[hs]at h;simp only at h;cases hl:lC M s with
   | none=>rw[hl]at h; cases h
   | some v =>
    rw[hl]at h;have:=hM _ (cW hl);simp only[Fact.ok]at this;cases v with
    | im u =>
     cases u<;>first|(cases h; done)|skip
     all_goals
      cases h;simp[this,AV.den]
    | _=>cases h
theorem fU {P:Program} {o:Oper} {a:Act} {w w':World} {K:Act→World→Prop} {Q:Exit→Act→World→Prop} {v:Value} (h:(execOp a.eval o).run P w=.ok (.value v) w') (hK:K (a.put o.dst v) w'):o.wp P a w K Q:=by
 unfold Oper.wp;rw[h];exact hK
theorem IG {base:Nat} {β:Nat→Bk} {a:Act} {w:World} {M:List Fact} (hM:∀φ∈M,φ.ok base β a w) {k b:Nat} (hat:(β k).1=b∧(β k).2.1=0) {v:AV} {p:List Prop} {c:CB} (h:XX M k b v=some (p,c)) (hp:aQ p):c.ok w b (v.den β):=by
 cases v with
 | im v=>cases h; rfl
 | fl l=>cases h; rfl
 | sl k' o n m =>
  unfold XX at h;simp only at h;cases hb:Nat.beq k' k<;>rw[hb]at h
  ·simp only[cond_false]at h;split at h
   ·rename_i ow l b' hr ha;split at h
    ·rename_i r hd;cases h;obtain⟨h1,h2,_⟩:=hM _ (aP hr);obtain⟨e1,e2⟩:=hM _ (dI ha);obtain⟨q,e,hq⟩:=oF hd;refine⟨(β k').1,(β k').2.1+o,rfl,h1,by rw[e1]; exact hp.1,fun j u hj => ?_⟩;have:=h2 (o+j) u (by rw[e,aJ,List.getElem?_append_right (by rw[aF,hq]; omega),aF,hq]; simpa using hj)
     rwa [←Nat.add_assoc]at this
    ·cases h
   ·cases h
  ·cases Nat.eq_of_beq_eq_true hb;cases h;show Value.slice (some ⟨(β _).1,(β _).2.1+o,none⟩) n m=_;rw[hat.1,hat.2,Nat.zero_add]
 | pt k' o =>
  unfold XX at h;simp only at h;cases hb:Nat.beq k' k<;>rw[hb]at h
  ·cases h
  ·cases Nat.eq_of_beq_eq_true hb;cases h;show Value.pointer (some ⟨(β _).1,(β _).2.1+o,none⟩)=_;rw[hat.1,hat.2,Nat.zero_add]
 | _=>cases h
theorem qE {base:Nat} {β:Nat→Bk} {a:Act} {w:World} {M:List Fact} (hM:∀φ∈M,φ.ok base β a w) {k b:Nat} (hat:(β k).1=b∧(β k).2.1=0):∀{l:List AV} {p:List Prop} {cs:List CB},ME M k b l=some (p,cs)→aQ p→CBs w b cs (l.map (AV.den β))
 | [],p,cs,h,hp=>by cases h; trivial
 | v::r,p,cs,h,hp=>by
  unfold ME at h;split at h
  ·rename_i p1 c1 p2 c2 h1 h2;cases h;rw[bT]at hp;exact⟨IG hM hat h1 hp.1,qE hM hat h2 hp.2⟩
  ·cases h
theorem iR {w:World} {j:Option Nat} {b:Nat}:∀{l:List Value} {i:Nat} {p:List Prop} {cs:List CB},II j b i l=(p,cs)→aQ p→CBs w b cs l
 | [],i,p,cs,h,hp=>by cases h; trivial
 | v::r,i,p,cs,h,hp=>by
  unfold II at h;cases hr:II j b (i+1) r with
  | mk ps l =>
   rw[hr]at h;simp only at h;cases hb:fF j i<;>rw[hb]at h
   ·cases h;exact⟨rfl,iR hr hp⟩
   ·simp only[cond_true]at h;split at h
    ·cases h;exact⟨by rw[hp.1]; rfl,iR hr hp.2⟩
    ·cases h;exact⟨rfl,iR hr hp⟩
theorem CBs.app {w:World} {b:Nat}:∀{cs ds:List CB} {vs us:List Value},CBs w b cs vs→CBs w b ds us→CBs w b (cs++ds) (vs++us)
 | [],ds,[],us,_,h=>h
 | [],ds,_::_,us,h,_=>h.elim
 | c::cs,ds,[],us,h,_=>by cases c<;>exact h.elim
 | c::cs,ds,v::vs,us,h,h2=>⟨h.1,CBs.app h.2 h2⟩
end Go.Proofs.Ytjeplinbleofnaa.Ex
