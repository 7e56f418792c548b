/- Jz14 -/
import Derived.ProofKit
import Derived.LaidMore
import Derived.OpenShut
import Derived.Stop.Joined
import Derived.Carry
import Derived.RowKit
import Derived.ChangeSame
import Derived.JoinedOf
import Derived.JoinedAt
import Derived.Laws.IdiomArrays
import Derived.Deep.Strs
import Derived.Test.YtjeplinbleofnaaGreatJz01
import Derived.Test.YtjeplinbleofnaaGreatJz08
import Derived.Test.YtjeplinbleofnaaGreatJz11
import Derived.Test.YtjeplinbleofnaaGreatJz13
import Derived.Test.YtjeplinbleofnaaGreatJz00
import Derived.Test.YtjeplinbleofnaaGreatJz12
import Derived.Test.YtjeplinbleofnaaGreatRows
import Derived.Test.YtjeplinbleofnaaGreatJz07
import Derived.Test.YtjeplinbleofnaaGreatJz09
import Derived.Test.YtjeplinbleofnaaGreatProg
set_option maxRecDepth 100000
set_option linter.unusedVariables false
set_option linter.unusedSimpArgs false
set_option linter.unnecessarySimpa false
noncomputable section
namespace Go.Proofs.YtjeplinbleofnaaGreat
open Go.Proofs.Tryz
section
variable {P:Program} {ops:Array Oper} {Q:Exit→Act→World→Prop} {md:Region.Mode} {S:World→Prop} {L:Nat}
end
open Go.RowKit
set_option maxHeartbeats 4000000 in
theorem NU (f:Int) (F:FC) (hf:FieldIs f F) (a0 a1 a2 a3:Nat) (ha:aX a0 a1 a2 a3) (hl:nN F.M (aA a0 a1 a2 a3) = -1) (w:World) :
  Calls prog 26 #[.int .i64 f,.agg #[.int .u64 a0,.int .u64 a1,.int .u64 a2,.int .u64 a3]] w (fun e w'=>∃s0 s1 s2 s3:Nat,e=.returned (.tuple #[.agg #[.int .u64 s0,.int .u64 s1,.int .u64 s2,.int .u64 s3],.int .i64 23])∧aX s0 s1 s2 s3∧aA s0 s1 s2 s3=0∧Below w.heap.size w w'):=by
 go_enter func26,ntmps26
 go_wp2_with fail;have HM:=Lib.hid (((Mem.nil w).new (w.heap.size) a0 a1 a2 a3 24 (by simp)).new (w.heap.size+1) 0 0 0 0 24 (by simp));refine (rM f F hf a0 a1 a2 a3 ha _).mono ?_
 rintro e w1 ⟨rfl,hbl⟩
 have HM':=Lib.hid (HM.out.on hbl);clear hbl;clear HM;have HM:=HM';clear HM';rw[hl];have kr:=HM.out.row (b:=w.heap.size+1) (c0:=0) (c1:=0) (c2:=0) (c3:=0) (by simp);have y0:=kr.c0; have y1:=kr.c1; have y2:=kr.c2; have y3:=kr.c3; have yf:=kr.fr;clear kr;have yl:=HM.out.lt (b:=w.heap.size+1) (c0:=0) (c1:=0) (c2:=0) (c3:=0) (by simp);clear hl;go_wp2_with fail;refine bodyPost_ret (v:=.tuple #[.agg #[.int .u64 (0:Nat),.int .u64 (0:Nat),.int .u64 (0:Nat),.int .u64 (0:Nat)],.int .i64 23]) (by simp[results,results26,go_sem, *]) rfl ?_;refine⟨_,_,_,_,rfl,vB,rfl,?_⟩;exact aL HM.out.1 (by omega) 0 0 0 0
set_option maxHeartbeats 4000000 in
theorem BO (a0 a1 a2 a3:Nat) (ha:aX a0 a1 a2 a3) (la:aA a0 a1 a2 a3<FR.M) (hs:aA a0 a1 a2 a3^(FR.M/2)%FR.M=1∨aA a0 a1 a2 a3=0) (w:World) :
  Calls prog 26 #[.int .i64 2,.agg #[.int .u64 a0,.int .u64 a1,.int .u64 a2,.int .u64 a3]] w (fun e w'=>∃s0 s1 s2 s3:Nat,e=.returned (.tuple #[.agg #[.int .u64 s0,.int .u64 s1,.int .u64 s2,.int .u64 s3],.int .i64 0])∧aX s0 s1 s2 s3∧aA s0 s1 s2 s3*aA s0 s1 s2 s3%FR.M=aA a0 a1 a2 a3∧aA s0 s1 s2 s3<FR.M∧cH FR.M (aA s0 s1 s2 s3)=true∧Below w.heap.size w w'):=by
 have hf:FieldIs 2 FR:=Or.inr ⟨rfl,rfl⟩;have hok:=hf.ok;have hpos:=hok.pos;have HSq:=Lib.hid hs;have hlv:nN FR.M (aA a0 a1 a2 a3)=0∨nN FR.M (aA a0 a1 a2 a3)=1:=by
  unfold nN
  rcases hs with h|h
  ·right; rw[if_neg (by rw[h]; decide),if_pos h]
  ·left; rw[if_pos (by rw[h,Nat.zero_pow (by decide)]; rfl)]
 clear hs
 go_enter func26,ntmps26
 go_wp2_with fail;have HM:=Lib.hid (((Mem.nil w).new (w.heap.size) a0 a1 a2 a3 24 (by simp)).new (w.heap.size+1) 0 0 0 0 24 (by simp));refine (rM 2 FR hf a0 a1 a2 a3 ha _).mono ?_
 rintro e w1 ⟨rfl,hbl⟩
 have HM':=Lib.hid (HM.out.on hbl);clear hbl;clear HM;have HM:=HM';clear HM';generalize hlg:nN _ _=lv at *;have hll:decide (lv<0)=false:=by rcases hlv with h|h<;>subst h<;>rfl
 clear hlv hlg;have kr:=HM.out.row (b:=w.heap.size) (c0:=a0) (c1:=a1) (c2:=a2) (c3:=a3) (by simp);have x0:=kr.c0; have x1:=kr.c1; have x2:=kr.c2; have x3:=kr.c3;clear kr;have xl:=HM.out.lt (b:=w.heap.size) (c0:=a0) (c1:=a1) (c2:=a2) (c3:=a3) (by simp);have gxl:w.heap.size+1<w1.heap.size:=HM.out.lt (b:=w.heap.size+1) (c0:=0) (c1:=0) (c2:=0) (c3:=0) (by simp);go_wp2_with fail;refine (tH a0 a1 a2 a3 ha HSq.out _).mono ?_
 rintro e w2 ⟨s0,s1,s2,s3,rfl,hs,hv,hlt,hbl⟩
 have HVs:=Lib.hid (show aA s0 s1 s2 s3*aA s0 s1 s2 s3%FR.M=aA a0 a1 a2 a3∧aA s0 s1 s2 s3<FR.M from⟨hv.trans (Nat.mod_eq_of_lt la),hlt⟩);clear hlt;have HM':=Lib.hid ((HM.out.new w1.heap.size 0 0 0 0 24 rfl).on hbl);clear hv hbl x0 x1 x2 x3 xl;clear HM;have HM:=HM';clear HM';have kr:=HM.out.row (b:=w1.heap.size) (c0:=0) (c1:=0) (c2:=0) (c3:=0) (by simp);have x0:=kr.c0; have x1:=kr.c1; have x2:=kr.c2; have x3:=kr.c3; have xf:=kr.fr;clear kr;have xl:=HM.out.lt (b:=w1.heap.size) (c0:=0) (c1:=0) (c2:=0) (c3:=0) (by simp);have HM':=Lib.hid (HM.out.put s0 s1 s2 s3 (by omega) (by intro r hr; simp at hr; rcases hr with rfl|rfl<;>simp<;>omega));clear HM;have HX:=HM'.out;unfold set4 at HX;clear HM';have HM:=Lib.hid HX;clear HX;have HLs:=HVs.out.2;go_wp2_with fail;refine (vR 2 FR hf s0 s1 s2 s3 hs HVs.out.2 _).mono ?_
 rintro e w3 ⟨rfl,hbl⟩
 have HM':=Lib.hid (HM.out.on hbl);clear hbl x0 x1 x2 x3 xf xl;clear HM;have HM:=HM';clear HM';have kr:=HM.out.row (b:=w1.heap.size) (c0:=s0) (c1:=s1) (c2:=s2) (c3:=s3) (by simp);have x0:=kr.c0; have x1:=kr.c1; have x2:=kr.c2; have x3:=kr.c3; have xf:=kr.fr;clear kr;have xl:=HM.out.lt (b:=w1.heap.size) (c0:=s0) (c1:=s1) (c2:=s2) (c3:=s3) (by simp);have kr:=HM.out.row (b:=w.heap.size+1) (c0:=0) (c1:=0) (c2:=0) (c3:=0) (by simp);have y0:=kr.c0; have y1:=kr.c1; have y2:=kr.c2; have y3:=kr.c3; have yf:=kr.fr;clear kr;have yl:=HM.out.lt (b:=w.heap.size+1) (c0:=0) (c1:=0) (c2:=0) (c3:=0) (by simp);cases hlo:cH FR.M (aA s0 s1 s2 s3)with
 | true =>
  have HLo:=Lib.hid hlo;clear hlo;go_wp2_with fail;refine bodyPost_ret (v:=.tuple #[.agg #[.int .u64 s0,.int .u64 s1,.int .u64 s2,.int .u64 s3],.int .i64 0]) (by simp[results,results26,go_sem, *]) rfl ?_;refine⟨_,_,_,_,rfl,hs,HVs.out.1,HVs.out.2,HLo.out,?_⟩;exact aL HM.out.1 (by omega) _ _ _ _
 | false =>
  have HLo:=Lib.hid (FX hok HVs.out.2 hlo);clear hlo;go_wp2_with fail;refine (mE 2 FR hf s0 s1 s2 s3 hs _).mono ?_
  rintro e w4 ⟨n0,n1,n2,n3,rfl,hn,hv,hbl⟩
  have HVn:=Lib.hid (show aA n0 n1 n2 n3=(0+FR.M-aA s0 s1 s2 s3)%FR.M by rw[hv,Nat.mod_eq_of_lt HVs.out.2,Nat.zero_add]);have HM':=Lib.hid (HM.out.on hbl);clear hv hbl x0 x1 x2 x3 xf xl y0 y1 y2 y3 yf yl;clear HM;have HM:=HM';clear HM';have kr:=HM.out.row (b:=w1.heap.size) (c0:=s0) (c1:=s1) (c2:=s2) (c3:=s3) (by simp);have x0:=kr.c0; have x1:=kr.c1; have x2:=kr.c2; have x3:=kr.c3; have xf:=kr.fr;clear kr;have xl:=HM.out.lt (b:=w1.heap.size) (c0:=s0) (c1:=s1) (c2:=s2) (c3:=s3) (by simp);have kr:=HM.out.row (b:=w.heap.size+1) (c0:=0) (c1:=0) (c2:=0) (c3:=0) (by simp);have y0:=kr.c0; have y1:=kr.c1; have y2:=kr.c2; have y3:=kr.c3; have yf:=kr.fr;clear kr;have yl:=HM.out.lt (b:=w.heap.size+1) (c0:=0) (c1:=0) (c2:=0) (c3:=0) (by simp);have ne1:¬w.heap.size+1=w1.heap.size:=by omega
  have ne1':¬w1.heap.size=w.heap.size+1:=by omega
  go_wp2_with fail;refine bodyPost_ret (v:=.tuple #[.agg #[.int .u64 n0,.int .u64 n1,.int .u64 n2,.int .u64 n3],.int .i64 0]) (by simp[results,results26,go_sem, *]) rfl ?_;refine⟨_,_,_,_,rfl,hn,by rw[HVn.out,HLo.out.1]; exact HVs.out.1,by rw[HVn.out]; exact HLo.out.2.1,by rw[HVn.out]; exact HLo.out.2.2,?_⟩;exact aL (aL HM.out.1 (by omega) _ _ _ _) (by omega) _ _ _ _
end Go.Proofs.YtjeplinbleofnaaGreat
namespace Go.Proofs.YtjeplinbleofnaaGreat.R1
open Go.Proofs.Tryz
open Go.RowKit
theorem rcmp_l3 (a0 a1 a2 a3 b0 b1 b2 b3:Nat) (ha:aX a0 a1 a2 a3) (hb:aX b0 b1 b2 b3) (e3:a3<b3) (w:World) :
  Calls prog 46 #[.agg #[.int .u64 a0,.int .u64 a1,.int .u64 a2,.int .u64 a3],.agg #[.int .u64 b0,.int .u64 b1,.int .u64 b2,.int .u64 b3]] w fun e w'=>e=.returned (.int .i64 (bG (aA a0 a1 a2 a3) (aA b0 b1 b2 b3)))∧Below w.heap.size w w':=by
 have hfin:bG (aA a0 a1 a2 a3) (aA b0 b1 b2 b3) = -1:=by
  obtain⟨p0,p1,p2,p3⟩:=ha; obtain⟨q0,q1,q2,q3⟩:=hb; unfold bG aA;rw[if_neg (by omega),if_pos (by omega)]
 rw[hfin];clear hfin;have l3:decide (a3<b3)=true:=decide_eq_true (by omega);clear e3
 go_enter func46,ntmps46
 go_wp2_with fail;refine wp_loop_rounds 5 ?_;rw[rounds_succ];go_wp2_with fail
 go_quiet (fail)
 go_wp2_with fail;go_ret;exact⟨rfl,by repeat (first|exact Below.refl _ _|refine Below.trans ?_ (aJ _ _ _)|refine Below.drew ?_|refine Below.alloc ?_ (by first|(simp; done)|(simp; omega)) _)⟩
theorem rcmp_g3 (a0 a1 a2 a3 b0 b1 b2 b3:Nat) (ha:aX a0 a1 a2 a3) (hb:aX b0 b1 b2 b3) (e3:b3<a3) (w:World) :
  Calls prog 46 #[.agg #[.int .u64 a0,.int .u64 a1,.int .u64 a2,.int .u64 a3],.agg #[.int .u64 b0,.int .u64 b1,.int .u64 b2,.int .u64 b3]] w fun e w'=>e=.returned (.int .i64 (bG (aA a0 a1 a2 a3) (aA b0 b1 b2 b3)))∧Below w.heap.size w w':=by
 have hfin:bG (aA a0 a1 a2 a3) (aA b0 b1 b2 b3)=1:=by
  obtain⟨p0,p1,p2,p3⟩:=ha; obtain⟨q0,q1,q2,q3⟩:=hb; unfold bG aA;rw[if_neg (by omega),if_neg (by omega)]
 rw[hfin];clear hfin;have l3:decide (a3<b3)=false:=decide_eq_false (by omega);have g3:decide (b3<a3)=true:=decide_eq_true (by omega);clear e3
 go_enter func46,ntmps46
 go_wp2_with fail;refine wp_loop_rounds 5 ?_;rw[rounds_succ];go_wp2_with fail
 go_quiet (fail)
 go_wp2_with fail
 go_quiet (fail)
 go_wp2_with fail;go_ret;exact⟨rfl,by repeat (first|exact Below.refl _ _|refine Below.trans ?_ (aJ _ _ _)|refine Below.drew ?_|refine Below.alloc ?_ (by first|(simp; done)|(simp; omega)) _)⟩
theorem rcmp_l2 (a0 a1 a2 a3 b0 b1 b2 b3:Nat) (ha:aX a0 a1 a2 a3) (hb:aX b0 b1 b2 b3) (e3:a3=b3) (e2:a2<b2) (w:World) :
  Calls prog 46 #[.agg #[.int .u64 a0,.int .u64 a1,.int .u64 a2,.int .u64 a3],.agg #[.int .u64 b0,.int .u64 b1,.int .u64 b2,.int .u64 b3]] w fun e w'=>e=.returned (.int .i64 (bG (aA a0 a1 a2 a3) (aA b0 b1 b2 b3)))∧Below w.heap.size w w':=by
 have hfin:bG (aA a0 a1 a2 a3) (aA b0 b1 b2 b3) = -1:=by
  obtain⟨p0,p1,p2,p3⟩:=ha; obtain⟨q0,q1,q2,q3⟩:=hb; unfold bG aA;rw[if_neg (by omega),if_pos (by omega)]
 rw[hfin];clear hfin;have l3:decide (a3<b3)=false:=decide_eq_false (by omega);have g3:decide (b3<a3)=false:=decide_eq_false (by omega);clear e3;have l2:decide (a2<b2)=true:=decide_eq_true (by omega);clear e2
 go_enter func46,ntmps46
 go_wp2_with fail;refine wp_loop_rounds 5 ?_;rw[rounds_succ];go_wp2_with fail
 go_quiet (fail)
 go_wp2_with fail
 go_quiet (fail)
 go_wp2_with fail;rw[rounds_succ];go_wp2_with fail
 go_quiet (fail)
 go_wp2_with fail;go_ret;exact⟨rfl,by repeat (first|exact Below.refl _ _|refine Below.trans ?_ (aJ _ _ _)|refine Below.drew ?_|refine Below.alloc ?_ (by first|(simp; done)|(simp; omega)) _)⟩
theorem rcmp_g2 (a0 a1 a2 a3 b0 b1 b2 b3:Nat) (ha:aX a0 a1 a2 a3) (hb:aX b0 b1 b2 b3) (e3:a3=b3) (e2:b2<a2) (w:World) :
  Calls prog 46 #[.agg #[.int .u64 a0,.int .u64 a1,.int .u64 a2,.int .u64 a3],.agg #[.int .u64 b0,.int .u64 b1,.int .u64 b2,.int .u64 b3]] w fun e w'=>e=.returned (.int .i64 (bG (aA a0 a1 a2 a3) (aA b0 b1 b2 b3)))∧Below w.heap.size w w':=by
 have hfin:bG (aA a0 a1 a2 a3) (aA b0 b1 b2 b3)=1:=by
  obtain⟨p0,p1,p2,p3⟩:=ha; obtain⟨q0,q1,q2,q3⟩:=hb; unfold bG aA;rw[if_neg (by omega),if_neg (by omega)]
 rw[hfin];clear hfin;have l3:decide (a3<b3)=false:=decide_eq_false (by omega);have g3:decide (b3<a3)=false:=decide_eq_false (by omega);clear e3;have l2:decide (a2<b2)=false:=decide_eq_false (by omega);have g2:decide (b2<a2)=true:=decide_eq_true (by omega);clear e2
 go_enter func46,ntmps46
 go_wp2_with fail;refine wp_loop_rounds 5 ?_;rw[rounds_succ];go_wp2_with fail
 go_quiet (fail)
 go_wp2_with fail
 go_quiet (fail)
 go_wp2_with fail;rw[rounds_succ];go_wp2_with fail
 go_quiet (fail)
 go_wp2_with fail
 go_quiet (fail)
 go_wp2_with fail;go_ret;exact⟨rfl,by repeat (first|exact Below.refl _ _|refine Below.trans ?_ (aJ _ _ _)|refine Below.drew ?_|refine Below.alloc ?_ (by first|(simp; done)|(simp; omega)) _)⟩
theorem rcmp_l1 (a0 a1 a2 a3 b0 b1 b2 b3:Nat) (ha:aX a0 a1 a2 a3) (hb:aX b0 b1 b2 b3) (e3:a3=b3) (e2:a2=b2) (e1:a1<b1) (w:World) :
  Calls prog 46 #[.agg #[.int .u64 a0,.int .u64 a1,.int .u64 a2,.int .u64 a3],.agg #[.int .u64 b0,.int .u64 b1,.int .u64 b2,.int .u64 b3]] w fun e w'=>e=.returned (.int .i64 (bG (aA a0 a1 a2 a3) (aA b0 b1 b2 b3)))∧Below w.heap.size w w':=by
 have hfin:bG (aA a0 a1 a2 a3) (aA b0 b1 b2 b3) = -1:=by
  obtain⟨p0,p1,p2,p3⟩:=ha; obtain⟨q0,q1,q2,q3⟩:=hb; unfold bG aA;rw[if_neg (by omega),if_pos (by omega)]
 rw[hfin];clear hfin;have l3:decide (a3<b3)=false:=decide_eq_false (by omega);have g3:decide (b3<a3)=false:=decide_eq_false (by omega);clear e3;have l2:decide (a2<b2)=false:=decide_eq_false (by omega);have g2:decide (b2<a2)=false:=decide_eq_false (by omega);clear e2;have l1:decide (a1<b1)=true:=decide_eq_true (by omega);clear e1
 go_enter func46,ntmps46
 go_wp2_with fail;refine wp_loop_rounds 5 ?_;rw[rounds_succ];go_wp2_with fail
 go_quiet (fail)
 go_wp2_with fail
 go_quiet (fail)
 go_wp2_with fail;rw[rounds_succ];go_wp2_with fail
 go_quiet (fail)
 go_wp2_with fail
 go_quiet (fail)
 go_wp2_with fail;rw[rounds_succ];go_wp2_with fail
 go_quiet (fail)
 go_wp2_with fail;go_ret;exact⟨rfl,by repeat (first|exact Below.refl _ _|refine Below.trans ?_ (aJ _ _ _)|refine Below.drew ?_|refine Below.alloc ?_ (by first|(simp; done)|(simp; omega)) _)⟩
theorem rcmp_g1 (a0 a1 a2 a3 b0 b1 b2 b3:Nat) (ha:aX a0 a1 a2 a3) (hb:aX b0 b1 b2 b3) (e3:a3=b3) (e2:a2=b2) (e1:b1<a1) (w:World) :
  Calls prog 46 #[.agg #[.int .u64 a0,.int .u64 a1,.int .u64 a2,.int .u64 a3],.agg #[.int .u64 b0,.int .u64 b1,.int .u64 b2,.int .u64 b3]] w fun e w'=>e=.returned (.int .i64 (bG (aA a0 a1 a2 a3) (aA b0 b1 b2 b3)))∧Below w.heap.size w w':=by
 have hfin:bG (aA a0 a1 a2 a3) (aA b0 b1 b2 b3)=1:=by
  obtain⟨p0,p1,p2,p3⟩:=ha; obtain⟨q0,q1,q2,q3⟩:=hb; unfold bG aA;rw[if_neg (by omega),if_neg (by omega)]
 rw[hfin];clear hfin;have l3:decide (a3<b3)=false:=decide_eq_false (by omega);have g3:decide (b3<a3)=false:=decide_eq_false (by omega);clear e3;have l2:decide (a2<b2)=false:=decide_eq_false (by omega);have g2:decide (b2<a2)=false:=decide_eq_false (by omega);clear e2;have l1:decide (a1<b1)=false:=decide_eq_false (by omega);have g1:decide (b1<a1)=true:=decide_eq_true (by omega);clear e1
 go_enter func46,ntmps46
 go_wp2_with fail;refine wp_loop_rounds 5 ?_;rw[rounds_succ];go_wp2_with fail
 go_quiet (fail)
 go_wp2_with fail
 go_quiet (fail)
 go_wp2_with fail;rw[rounds_succ];go_wp2_with fail
 go_quiet (fail)
 go_wp2_with fail
 go_quiet (fail)
 go_wp2_with fail;rw[rounds_succ];go_wp2_with fail
 go_quiet (fail)
 go_wp2_with fail
 go_quiet (fail)
 go_wp2_with fail;go_ret;exact⟨rfl,by repeat (first|exact Below.refl _ _|refine Below.trans ?_ (aJ _ _ _)|refine Below.drew ?_|refine Below.alloc ?_ (by first|(simp; done)|(simp; omega)) _)⟩
theorem rcmp_l0 (a0 a1 a2 a3 b0 b1 b2 b3:Nat) (ha:aX a0 a1 a2 a3) (hb:aX b0 b1 b2 b3) (e3:a3=b3) (e2:a2=b2) (e1:a1=b1) (e0:a0<b0) (w:World) :
  Calls prog 46 #[.agg #[.int .u64 a0,.int .u64 a1,.int .u64 a2,.int .u64 a3],.agg #[.int .u64 b0,.int .u64 b1,.int .u64 b2,.int .u64 b3]] w fun e w'=>e=.returned (.int .i64 (bG (aA a0 a1 a2 a3) (aA b0 b1 b2 b3)))∧Below w.heap.size w w':=by
 have hfin:bG (aA a0 a1 a2 a3) (aA b0 b1 b2 b3) = -1:=by
  obtain⟨p0,p1,p2,p3⟩:=ha; obtain⟨q0,q1,q2,q3⟩:=hb; unfold bG aA;rw[if_neg (by omega),if_pos (by omega)]
 rw[hfin];clear hfin;have l3:decide (a3<b3)=false:=decide_eq_false (by omega);have g3:decide (b3<a3)=false:=decide_eq_false (by omega);clear e3;have l2:decide (a2<b2)=false:=decide_eq_false (by omega);have g2:decide (b2<a2)=false:=decide_eq_false (by omega);clear e2;have l1:decide (a1<b1)=false:=decide_eq_false (by omega);have g1:decide (b1<a1)=false:=decide_eq_false (by omega);clear e1;have l0:decide (a0<b0)=true:=decide_eq_true (by omega);clear e0
 go_enter func46,ntmps46
 go_wp2_with fail;refine wp_loop_rounds 5 ?_;rw[rounds_succ];go_wp2_with fail
 go_quiet (fail)
 go_wp2_with fail
 go_quiet (fail)
 go_wp2_with fail;rw[rounds_succ];go_wp2_with fail
 go_quiet (fail)
 go_wp2_with fail
 go_quiet (fail)
 go_wp2_with fail;rw[rounds_succ];go_wp2_with fail
 go_quiet (fail)
 go_wp2_with fail
 go_quiet (fail)
 go_wp2_with fail;rw[rounds_succ];go_wp2_with fail
 go_quiet (fail)
 go_wp2_with fail;go_ret;exact⟨rfl,by repeat (first|exact Below.refl _ _|refine Below.trans ?_ (aJ _ _ _)|refine Below.drew ?_|refine Below.alloc ?_ (by first|(simp; done)|(simp; omega)) _)⟩
theorem rcmp_g0 (a0 a1 a2 a3 b0 b1 b2 b3:Nat) (ha:aX a0 a1 a2 a3) (hb:aX b0 b1 b2 b3) (e3:a3=b3) (e2:a2=b2) (e1:a1=b1) (e0:b0<a0) (w:World) :
  Calls prog 46 #[.agg #[.int .u64 a0,.int .u64 a1,.int .u64 a2,.int .u64 a3],.agg #[.int .u64 b0,.int .u64 b1,.int .u64 b2,.int .u64 b3]] w fun e w'=>e=.returned (.int .i64 (bG (aA a0 a1 a2 a3) (aA b0 b1 b2 b3)))∧Below w.heap.size w w':=by
 have hfin:bG (aA a0 a1 a2 a3) (aA b0 b1 b2 b3)=1:=by
  obtain⟨p0,p1,p2,p3⟩:=ha; obtain⟨q0,q1,q2,q3⟩:=hb; unfold bG aA;rw[if_neg (by omega),if_neg (by omega)]
 rw[hfin];clear hfin;have l3:decide (a3<b3)=false:=decide_eq_false (by omega);have g3:decide (b3<a3)=false:=decide_eq_false (by omega);clear e3;have l2:decide (a2<b2)=false:=decide_eq_false (by omega);have g2:decide (b2<a2)=false:=decide_eq_false (by omega);clear e2;have l1:decide (a1<b1)=false:=decide_eq_false (by omega);have g1:decide (b1<a1)=false:=decide_eq_false (by omega);clear e1;have l0:decide (a0<b0)=false:=decide_eq_false (by omega);have g0:decide (b0<a0)=true:=decide_eq_true (by omega);clear e0
 go_enter func46,ntmps46
 go_wp2_with fail;refine wp_loop_rounds 5 ?_;rw[rounds_succ];go_wp2_with fail
 go_quiet (fail)
 go_wp2_with fail
 go_quiet (fail)
 go_wp2_with fail;rw[rounds_succ];go_wp2_with fail
 go_quiet (fail)
 go_wp2_with fail
 go_quiet (fail)
 go_wp2_with fail;rw[rounds_succ];go_wp2_with fail
 go_quiet (fail)
 go_wp2_with fail
 go_quiet (fail)
 go_wp2_with fail;rw[rounds_succ];go_wp2_with fail
 go_quiet (fail)
 go_wp2_with fail
 go_quiet (fail)
 go_wp2_with fail;go_ret;exact⟨rfl,by repeat (first|exact Below.refl _ _|refine Below.trans ?_ (aJ _ _ _)|refine Below.drew ?_|refine Below.alloc ?_ (by first|(simp; done)|(simp; omega)) _)⟩
theorem rcmp_e (a0 a1 a2 a3 b0 b1 b2 b3:Nat) (ha:aX a0 a1 a2 a3) (hb:aX b0 b1 b2 b3) (e3:a3=b3) (e2:a2=b2) (e1:a1=b1) (e0:a0=b0) (w:World) :
  Calls prog 46 #[.agg #[.int .u64 a0,.int .u64 a1,.int .u64 a2,.int .u64 a3],.agg #[.int .u64 b0,.int .u64 b1,.int .u64 b2,.int .u64 b3]] w fun e w'=>e=.returned (.int .i64 (bG (aA a0 a1 a2 a3) (aA b0 b1 b2 b3)))∧Below w.heap.size w w':=by
 have hfin:bG (aA a0 a1 a2 a3) (aA b0 b1 b2 b3)=0:=by
  obtain⟨p0,p1,p2,p3⟩:=ha; obtain⟨q0,q1,q2,q3⟩:=hb; unfold bG aA;rw[if_pos (by omega)]
 rw[hfin];clear hfin;have l3:decide (a3<b3)=false:=decide_eq_false (by omega);have g3:decide (b3<a3)=false:=decide_eq_false (by omega);clear e3;have l2:decide (a2<b2)=false:=decide_eq_false (by omega);have g2:decide (b2<a2)=false:=decide_eq_false (by omega);clear e2;have l1:decide (a1<b1)=false:=decide_eq_false (by omega);have g1:decide (b1<a1)=false:=decide_eq_false (by omega);clear e1;have l0:decide (a0<b0)=false:=decide_eq_false (by omega);have g0:decide (b0<a0)=false:=decide_eq_false (by omega);clear e0
 go_enter func46,ntmps46
 go_wp2_with fail;refine wp_loop_rounds 5 ?_;rw[rounds_succ];go_wp2_with fail
 go_quiet (fail)
 go_wp2_with fail
 go_quiet (fail)
 go_wp2_with fail;rw[rounds_succ];go_wp2_with fail
 go_quiet (fail)
 go_wp2_with fail
 go_quiet (fail)
 go_wp2_with fail;rw[rounds_succ];go_wp2_with fail
 go_quiet (fail)
 go_wp2_with fail
 go_quiet (fail)
 go_wp2_with fail;rw[rounds_succ];go_wp2_with fail
 go_quiet (fail)
 go_wp2_with fail
 go_quiet (fail)
 go_wp2_with fail;rw[rounds_succ];go_wp2_with fail;go_ret;exact⟨rfl,by repeat (first|exact Below.refl _ _|refine Below.trans ?_ (aJ _ _ _)|refine Below.drew ?_|refine Below.alloc ?_ (by first|(simp; done)|(simp; omega)) _)⟩
theorem refCmp_calls (a0 a1 a2 a3 b0 b1 b2 b3:Nat) (ha:aX a0 a1 a2 a3) (hb:aX b0 b1 b2 b3) (w:World) :
  Calls prog 46 #[.agg #[.int .u64 a0,.int .u64 a1,.int .u64 a2,.int .u64 a3],.agg #[.int .u64 b0,.int .u64 b1,.int .u64 b2,.int .u64 b3]] w fun e w'=>e=.returned (.int .i64 (bG (aA a0 a1 a2 a3) (aA b0 b1 b2 b3)))∧Below w.heap.size w w':=by
 rcases Nat.lt_trichotomy a3 b3 with e3|e3|e3
 ·exact rcmp_l3 a0 a1 a2 a3 b0 b1 b2 b3 ha hb e3 w
 ·rcases Nat.lt_trichotomy a2 b2 with e2|e2|e2
  ·exact rcmp_l2 a0 a1 a2 a3 b0 b1 b2 b3 ha hb e3 e2 w
  ·rcases Nat.lt_trichotomy a1 b1 with e1|e1|e1
   ·exact rcmp_l1 a0 a1 a2 a3 b0 b1 b2 b3 ha hb e3 e2 e1 w
   ·rcases Nat.lt_trichotomy a0 b0 with e0|e0|e0
    ·exact rcmp_l0 a0 a1 a2 a3 b0 b1 b2 b3 ha hb e3 e2 e1 e0 w
    ·exact rcmp_e a0 a1 a2 a3 b0 b1 b2 b3 ha hb e3 e2 e1 e0 w
    ·exact rcmp_g0 a0 a1 a2 a3 b0 b1 b2 b3 ha hb e3 e2 e1 e0 w
   ·exact rcmp_g1 a0 a1 a2 a3 b0 b1 b2 b3 ha hb e3 e2 e1 w
  ·exact rcmp_g2 a0 a1 a2 a3 b0 b1 b2 b3 ha hb e3 e2 w
 ·exact rcmp_g3 a0 a1 a2 a3 b0 b1 b2 b3 ha hb e3 w
end Go.Proofs.YtjeplinbleofnaaGreat.R1
namespace Go.Proofs.YtjeplinbleofnaaGreat.Ex
open Go.Proofs.Tryz
open Go.RowKit
def Du:gH
 | [.v (.im (.int .i64 2))]=>some ([],.one (.fl [.q RM]))
 | _=>none
theorem Jx:Value.agg (aD (q1 RM)).toArray=.agg #[.int .u64 Go.Proofs.YtjeplinbleofnaaGreat.FR.m0,.int .u64 Go.Proofs.YtjeplinbleofnaaGreat.FR.m1,.int .u64 Go.Proofs.YtjeplinbleofnaaGreat.FR.m2,.int .u64 Go.Proofs.YtjeplinbleofnaaGreat.FR.m3]:=by kernel_rfl
theorem WF:∀cs pre r,Du cs=some (pre,r)→aP pre→∀(args:List Value) (w:World),cE w cs args→bE prog 45 r args w:=by
 intro cs pre r hg hp args w ha;unfold Du at hg;split at hg
 ·cases hg
  match args,ha with
  | [u],ha =>
   have e:u=.int .i64 2:=ha.1;subst e;refine (eN 2 Go.Proofs.YtjeplinbleofnaaGreat.FR (Or.inr ⟨rfl,rfl⟩) w).mono fun e w' h=>⟨?_,h.2⟩
   rw[h.1,←Jx];rfl
  | [],ha=>exact ha.elim
  | _::_::_,ha=>exact ha.2.elim
 ·cases hg
def Dn:gH
 | [.v (.fl l),.v (.im (.int .i64 1))]=>match lX l with
  | some n=>some ([],.one (.fl [.q (wv n/2)]))
  | none=>none
 | _=>none
theorem ZS (n:Nat):wv n<aU:=bQ (cJ n)
theorem VZ:∀cs pre r,Dn cs=some (pre,r)→aP pre→∀(args:List Value) (w:World),cE w cs args→bE prog 47 r args w:=by
 intro cs pre r hg hp args w ha;unfold Dn at hg;split at hg
 ·rename_i l;split at hg
  ·rename_i n hn;cases hg
   match args,ha with
   | [v,u],ha =>
    have e1:u=.int .i64 1:=ha.2.1;have e2:v=.agg (aD l).toArray:=ha.1;rw[bZ l n hn]at e2;subst e1; subst e2;refine (R1.refShr_calls _ _ _ _ 1 (cJ n) (by decide) w).mono ?_
    rintro e w' ⟨s0,s1,s2,s3,rfl,hs,hv,hb⟩
    have hv:aA s0 s1 s2 s3=wv n/2:=hv;obtain⟨rfl,rfl,rfl,rfl⟩:=eW hs (Nat.lt_of_le_of_lt (Nat.div_le_self _ _) (ZS n)) hv;exact⟨rfl,hb⟩
   | [],ha=>exact ha.elim
   | [_],ha=>exact ha.2.elim
   | _::_::_::_,ha=>exact ha.2.2.elim
  ·cases hg
 ·cases hg
def Dz:gH
 | [.v (.fl l),.v (.fl m)]=>match lX l,lX m with
  | some a,some b=>some ([],.one (.im (.int .i64 (Go.Proofs.YtjeplinbleofnaaGreat.bG (wv a) (wv b)))))
  | _,_=>none
 | _=>none
theorem WI:∀cs pre r,Dz cs=some (pre,r)→aP pre→∀(args:List Value) (w:World),cE w cs args→bE prog 46 r args w:=by
 intro cs pre r hg hp args w ha;unfold Dz at hg;split at hg
 ·rename_i l m;split at hg
  ·rename_i a b h1 h2;cases hg;rw[Mn ha,bZ l _ h1,bZ m _ h2];exact (R1.refCmp_calls _ _ _ _ _ _ _ _ (cJ a) (cJ b) w).mono fun e w' h=>h
  ·cases hg
 ·cases hg
def Mz:Tab:=((T0.add 45 Du).add 47 Dn).add 46 Dz
theorem Jr:TabOk prog Mz:=(((fV _).ad func45 WF).ad func47 VZ).ad func46 WI
theorem Dg (x:Nat) (c:Bool):cK prog (qG prog) (fun _=>⟨fun _=>Mz,fun _=>true,assoc [(9,.bool c)]⟩) f18 60 [.v (.fl [.q x])]=some ([bD .gtr .i64 (Go.Proofs.YtjeplinbleofnaaGreat.bG (wv x) (wv (wv RM/2))) 0=some (.bool c)],.one (.im (.bool c))):=by kernel_rfl
theorem TD:wv (wv RM/2)=RM/2:=by kernel_rfl
theorem Dh {x:Nat} (hx:x<RM):bD .gtr .i64 (Go.Proofs.YtjeplinbleofnaaGreat.bG (wv x) (wv (wv RM/2))) 0=some (.bool (!cH RM x)):=by
 show some (Value.bool (decide (Go.Proofs.YtjeplinbleofnaaGreat.bG (wv x) (wv (wv RM/2))>0)))=_;congr 2;rw[TD,show wv x=x from gT hx];have h2:=lN hx;have ho:=vQ;unfold Go.Proofs.YtjeplinbleofnaaGreat.bG
 by_cases h:2*x<RM
 ·rw[h2.2 h];refine decide_eq_false ?_
  by_cases e:x=RM/2
  ·rw[if_pos e]; decide
  ·rw[if_neg e,if_pos (by omega)]; decide
 ·rw[show cH RM x=false from Bool.eq_false_iff.2 fun q=>h (h2.1 q)];refine decide_eq_true ?_;rw[if_neg (by omega),if_neg (by omega)];decide
def Dv (c:Bool):gH:=g1 lX fun x=>([x<RM,cH RM x = !c],.one (.im (.bool c)))
theorem Lr (c:Bool):∀cs pre r,Dv c cs=some (pre,r)→aP pre→∀(args:List Value) (w:World),cE w cs args→bE prog 18 r args w :=
 gO (op:=fun x=>([x<RM,cH RM x = !c],.one (.im (.bool c)))) bZ fun x h args w ha=>by
  refine aH aT (fun _ _=>Jr) (aW _) func18 (Dg x c) ⟨?_,trivial⟩ ha;rw[Dh h.1,h.2.1,Bool.not_not]
def QL (c:Int):gH:=g1 IX fun p=>([p.1<aU,p.2<aU,cQ p=c],.one (.im (.int .i64 c)))
theorem YY (c:Int):∀cs pre r,QL c cs=some (pre,r)→aP pre→∀(args:List Value) (w:World),cE w cs args→bE prog 16 r args w :=
 gO (op:=fun p=>([p.1<aU,p.2<aU,cQ p=c],.one (.im (.int .i64 c)))) fX fun p h args w ha=>by
  have h':=BV p ⟨h.1,h.2.1⟩ args w ha;rw[h.2.2.1]at h';exact h'
def Dk (d:Bool) (V:Nat):gH
 | [.v (.im (.int .i64 2)),.v (.fl l)]=>match lX l with
  | some x=>bif d then some ([x<RM,V<RM,aI V V=x,cH RM V=true],.many [.fl [.q V],.im (.int .i64 0)])else some ([x<RM,oV RM x = -1],.many [.fl [.q 0],.im (.int .i64 23)])
  | none=>none
 | _=>none
theorem Lh (d:Bool) (V:Nat):∀cs pre r,Dk d V cs=some (pre,r)→aP pre→∀(args:List Value) (w:World),cE w cs args→bE prog 26 r args w:=by
 intro cs pre r hg hp args w ha;unfold Dk at hg;split at hg
 ·rename_i l;split at hg
  ·rename_i x hx
   match args,ha with
   | [t,v],ha =>
    have h1:t=.int .i64 2:=ha.1;have h2:v=.agg (aD l).toArray:=ha.2.1;rw[bZ l x hx]at h2;subst h1; subst h2;cases d
    ·cases hg;obtain⟨hxr,hleg,_⟩:=hp;unfold oV at hleg
     by_cases hz:x=0
     ·rw[if_pos hz]at hleg; omega
     ·rw[if_neg hz]at hleg;have h1:¬x^(RM/2)%RM=1:=fun q=>by rw[if_pos q]at hleg; omega
      have h0:¬x^(RM/2)%RM=0:=fun q=>by
       rcases QD YD (by decide) vQ (show 0<x by omega) hxr with k|k
       ·omega
       ·rw[q]at k; exact absurd k (by decide)
      refine (NU 2 Go.Proofs.YtjeplinbleofnaaGreat.FR jK _ _ _ _ (cJ x) (by
       rw[gT hxr];show nN RM x = -1;unfold nN;rw[if_neg h0,if_neg h1]) w).mono ?_
      rintro e w' ⟨s0,s1,s2,s3,rfl,hs,hv,hb⟩
      obtain⟨rfl,rfl,rfl,rfl⟩:=eW hs (fH cW) hv;exact⟨rfl,hb⟩
    ·cases hg;obtain⟨hxr,hV,hVV,hl,_⟩:=hp;have hVV:V*V%RM=x:=hVV;refine (BO _ _ _ _ (cJ x) (by rw[gT hxr]; exact hxr) (by
      rw[gT hxr]
      by_cases hz:x=0
      ·exact Or.inr hz
      ·have hv0:V≠0:=fun q=>hz (by rw[←hVV,q]; rfl)
       refine Or.inl ?_;rw[←hVV];exact CT YD (by decide) (Nat.pos_of_ne_zero hv0) hV) w).mono ?_
     rintro e w' ⟨s0,s1,s2,s3,rfl,hs,k1,k2,k3,hb⟩
     rw[gT hxr]at k1;have e1:aA s0 s1 s2 s3=V:=zE k2 hV k3 hl (k1.trans hVV.symm);obtain⟨rfl,rfl,rfl,rfl⟩:=eW hs (fH hV) e1;exact⟨rfl,hb⟩
   | [],ha=>exact ha.elim
   | [_],ha=>exact ha.2.elim
   | _::_::_::_,ha=>exact ha.2.2.elim
  ·cases hg
 ·cases hg
def Do (g:Nat→Nat):gH
 | [.s l n m]=>some ([n=32,aD l=aD (bj g),∀k,g k<256],.many [.fl [.q (Go.Proofs.YtjeplinbleofnaaGreat.gU g 0 32)],.im (.int .i64 0)])
 | _=>none
theorem Li (g:Nat→Nat):∀cs pre r,Do g cs=some (pre,r)→aP pre→∀(args:List Value) (w:World),cE w cs args→bE prog 21 r args w:=by
 intro cs pre r hg hp args w ha;unfold Do at hg;split at hg
 ·rename_i l n m;cases hg;obtain⟨rfl,he,hlt,_⟩:=hp
  match args,ha with
  | [u],ha =>
   obtain⟨b,o,e2,hb,hr⟩:=ha.1;subst e2;rw[he]at hr;refine (BU b o m g hlt w hb (sW hr)).mono ?_
   rintro e w' ⟨s0,s1,s2,s3,c',rfl,hs,⟨h1,rfl⟩,hbl⟩
   obtain⟨rfl,rfl,rfl,rfl⟩:=eW hs (YS hlt) h1;exact⟨rfl,hbl⟩
  | [],ha=>exact ha.elim
  | _::_::_,ha=>exact ha.2.elim
 ·cases hg
def SU (k:Int) (c:Bool):Tab:=(T0.add 16 (QL k)).add 18 (Dv c)
theorem PB (k:Int) (c:Bool):TabOk prog (SU k c):=((fV _).ad func16 (YY k)).ad func18 (Lr c)
def Rv:Tab3:=ZN.add 17 Dq
theorem Fw:FsOk prog Rv:=(tB _).ad func17 WB
def Nd (gen:Nat→Option Value):Ext:={ Ext.none with gen:=gen,T2:=ZO,T3:=Rv,T4:=Fs,T5:=Fx,T6:=Gw }
theorem AU (gen:Nat→Option Value) (w:World):dH prog (qY prog (Nd gen)) w.heap.size w:=yC (tC _) (fun _ _ _ h=>h.elim) Fw (pC _) (lF _) (mS _)
def dV:Code:=(f6.body).getD .skip
theorem Bo (p:NP) (k:Int):cK prog (qG prog) (fun _=>⟨fun _=>SU k true,fun _=>true,assoc [(11,.bool true)]⟩) f6 60 [.v (.fl [.q p.1,.q p.2])]=some ([p.1<aU,p.2<aU,cQ p=k,bD .neq .i64 k 0=some (.bool true)],.many [.im (.slice none 0 0),.im (.int .i64 k)]):=by kernel_rfl
def BX (p:NP):List Fact:=[.slot 1 (.pt 1 0),.row 1 true [.q p.1,.q p.2]]
def Pf (p:NP) (f:Nat→Nat):List Fact:=BX p++[.slot 5 (.im (.slice none 0 0)),.slot 6 (.so 15 32),.row 15 true (bj f),.app 15 5 1 32]
def Bp (p:NP) (f:Nat→Nat):List Fact:=BX p++[.slot 5 (.so 26 32),.row 26 true (bj f),.app 26 5 1 32]
def Je (p:NP) (cap:Nat) (f:Nat→Nat):List Fact:=BX p++[.slot 5 (.sl 26 0 32 cap),.row 26 true (bj f)]
def Qx (cap:Nat) (f:Nat→Nat):List Fact:=[.slot 2 (.sl 26 0 32 cap),.row 26 true (bj f),.slot 3 (.im (.int .i64 0))]
def SZ (c:Bool) (_:Nat):Cfg:=⟨fun _=>SU 0 c,fun _=>true,fun _=>none⟩
theorem UM:dV=.seq (cA dV) (.seq (cA (cB dV)) (.seq (cA (cB (cB dV))) (.seq (cA (cB (cB (cB dV)))) (.seq (cA (cB (cB (cB (cB dV))))) (.seq (cA (cB (cB (cB (cB (cB dV)))))) (.seq (cA (cB (cB (cB (cB (cB (cB dV))))))) ((cB (cB (cB (cB (cB (cB (cB dV)))))))))))))):=by kernel_rfl
theorem Jd (p:NP) (c:Bool):bT prog (qG prog) f6.ntmps (SZ c) 60 (cA dV) (jZ 0 [.v (.fl [.q p.1,.q p.2])]) (BX p)=some ([],.nrm,(BX p)):=by kernel_rfl
theorem Jb (p:NP) (c:Bool):bT prog (qG prog) f6.ntmps (SZ c) 60 (cA (cB dV)) (BX p) (BX p++[.slot 4 (.im (.int .i64 0))])=some ([p.1<aU,p.2<aU,cQ p=0],.nrm,(BX p++[.slot 4 (.im (.int .i64 0))])):=by kernel_rfl
theorem Ja (p:NP) (c:Bool):bT prog (qG prog) f6.ntmps (SZ c) 60 (cA (cB (cB dV))) (BX p++[.slot 4 (.im (.int .i64 0))]) (BX p)=some ([],.nrm,(BX p)):=by kernel_rfl
theorem Iz (p:NP) (c:Bool):bT prog (qG prog) f6.ntmps (SZ c) 60 (cA (cB (cB (cB dV)))) (BX p) (BX p++[.slot 5 (.im (.slice none 0 0))])=some ([],.nrm,(BX p++[.slot 5 (.im (.slice none 0 0))])):=by kernel_rfl
theorem Iy (p:NP) (c:Bool):bT prog (qY prog (Nd (fun _=>none))) f6.ntmps (SZ c) 60 (cA (cB (cB (cB (cB dV))))) (BX p++[.slot 5 (.im (.slice none 0 0))]) (Pf p (bH (wv p.2)))=some ([],.nrm,(Pf p (bH (wv p.2)))):=by kernel_rfl
theorem Ix (p:NP) (c:Bool) (f:Nat→Nat):bT prog (qG prog) f6.ntmps (SZ c) 200 (cA (cB (cB (cB (cB (cB dV)))))) (Pf p f) (Bp p (cV f))=some ([],.nrm,(Bp p (cV f))):=by kernel_rfl
theorem Bn (p:NP) (cap:Nat) (f:Nat→Nat):bT prog (qG prog) f6.ntmps (SZ false) 60 (cA (cB (cB (cB (cB (cB (cB dV))))))) (.slot 5 (.sl 26 0 32 cap)::Bp p f) (Je p cap f)=some ([p.1<RM,cH RM p.1=true],.nrm,(Je p cap f)):=by kernel_rfl
theorem Bm (p:NP) (cap:Nat) (f:Nat→Nat):bT prog (qY prog (Nd (assoc [(34,.int .u8 (Int.ofNat (f 31 ||| 128)))]))) f6.ntmps (SZ true) 60 (cA (cB (cB (cB (cB (cB (cB dV))))))) (.slot 5 (.sl 26 0 32 cap)::Bp p f) (Je p cap (CK f))=some ([p.1<RM,cH RM p.1=false,Nc .or 5 (.tmp 33) (.const (.int .u8 128)) (.int .u8 (Int.ofNat (f 31))) (.int .u8 (Int.ofNat 128)) (.int .u8 (Int.ofNat (f 31 ||| 128)))],.nrm,(Je p cap (CK f))):=by kernel_rfl
theorem YF (p:NP) (c:Bool) (cap:Nat) (f:Nat→Nat):bT prog (qG prog) f6.ntmps (SZ c) 60 (cB (cB (cB (cB (cB (cB (cB dV))))))) (Je p cap f) (Qx cap f)=some ([],.rt,(Qx cap f)):=by kernel_rfl
def Ps (f:Nat→Nat):FS:=⟨bj f,32,0,0,false,[],[.im (.int .i64 0)]⟩
theorem YU {f:Nat→Nat} {m:Nat} {w w':World} {e:Ending} (h:FR.ok ⟨bj f,32,m,[.im (.int .i64 0)]⟩ w e w'):(Ps f).ok w e w':=by
 obtain⟨b,he,h1,h2,h3,h4,h5⟩:=h;exact⟨b,m,he,h1,h2,h3,h4,h5,fun h=>by cases h⟩
theorem oD {P:Program} {fn:Func} {R R':Ending→World→Prop} {a:Act} {w:World} (h:bodyPost P fn R .ret a w) (hR:∀e w,R e w→R' e w):bodyPost P fn R' .ret a w:=by
 obtain⟨h1,v,h2,h3⟩:=h;exact⟨h1,v,h2,hR _ _ h3⟩
theorem OB (p:NP) (hp:OnJ p.1 p.2) (h0:cQ p=0) (args:List Value) (w:World) (ha:cE w [.v (.fl [.q p.1,.q p.2])] args):Calls prog 6 args.toArray w (fun e w'=>(Ps (AI p)).ok w e w'):=by
 have hG:dH prog (qG prog) w.heap.size w:=(aW _).w _ _;have hT:∀c (n d:Nat),TabOkW prog ((SZ c n).T d) w.heap.size w:=fun c _ _=>(PB 0 c).w _ _
 have hw:wv p.2=p.2:=gT hp.1.2;refine fQ func6 (c:=dV) rfl ha (Nat.le_of_ble_eq_true (by kernel_rfl)) fun a w' hA => ?_
 rw[UM];refine wp_seq (aF aT (hT true) hG (Jd p true) trivial hA fun a w' hA => ?_);refine wp_seq (aF aT (hT true) hG (Jb p true) ⟨hp.w.1,hp.w.2,h0,trivial⟩ hA fun a w' hA => ?_);refine wp_seq (aF aT (hT true) hG (Ja p true) trivial hA fun a w' hA => ?_);refine wp_seq (aF aT (hT true) hG (Iz p true) trivial hA fun a w' hA => ?_);refine wp_seq (aF aT (hT true) (AU _ w) (Iy p true) trivial hA fun a w' hA => ?_);rw[hw]at hA;refine wp_seq (aF aT (hT true) hG (Ix p true (bH p.2)) trivial hA fun a w' hA => ?_);obtain⟨cap,hcap,hA⟩:=hA.soSl (s:=5) (k:=26) (n:=32) (e:=5) (sz:=1) (l:=bj (cV (bH p.2))) (by simp[Bp]) (by simp[Bp]) (by simp[Bp]);unfold AI;cases hl:cH RM p.1
 ·refine wp_seq (aF aT (hT true) (AU _ w) (Bm p cap (cV (bH p.2))) ⟨hp.1.1,hl,SG (pA _ _) (by decide),trivial⟩ hA fun a w' hA => ?_);exact aF aT (hT true) hG (YF p true cap _) trivial hA fun a w' hA=>oD (lS (r:=⟨bj (CK (cV (bH p.2))),32,cap,[.im (.int .i64 0)]⟩) (by kernel_rfl) hA) fun e w h=>YU h
 ·refine wp_seq (aF aT (hT false) hG (Bn p cap (cV (bH p.2))) ⟨hp.1.1,hl,trivial⟩ hA fun a w' hA => ?_);exact aF aT (hT true) hG (YF p true cap _) trivial hA fun a w' hA=>oD (lS (r:=⟨bj (cV (bH p.2)),32,cap,[.im (.int .i64 0)]⟩) (by kernel_rfl) hA) fun e w h=>YU h
def ZG (g:Nat→Nat) (b d:Bool) (V:Nat) (k:Int):Tab:=((((pZ.add 22 (Ed b)).add 21 (Do g)).add 26 (Dk d V)).add 18 (Dv false)).add 16 (QL k)
theorem Cj (g:Nat→Nat) (b d:Bool) (V:Nat) (k:Int):TabOk prog (ZG g b d V k):=((((mJ.ad func22 (YZ b)).ad func21 (Li g)).ad func26 (Lh d V)).ad func18 (Lr false)).ad func16 (YY k)
def cU:Code:=(f8.body).getD .skip
def UH (f:Nat→Nat) (m:Nat):List Fact:=[.slot 0 (.sl 0 0 32 m),.row 0 false (bj f),.slot 2 (.pt 2 0),.row 2 true kC]
def Gg (f:Nat→Nat):List Fact:=[.slot 2 (.pt 2 0),.row 2 true kC,.slot 4 (.so 30 32),.row 30 true (bj f),.app 30 5 1 32]
def BS (f:Nat→Nat) (cap:Nat) (h:Bool):List Fact:=[.slot 2 (.pt 2 0),.row 2 true kC,.slot 6 (.im (.bool h)),.slot 4 (.sl 30 0 32 cap),.row 30 true (bj f)]
def Ba (P:NP) (e:Int):List Fact:=[.slot 2 (.pt 2 0),.row 2 true [.q P.1,.q P.2],.slot 3 (.im (.int .i64 e))]
def IZ (e:Int):List Fact:=[.slot 2 (.pt 2 0),.row 2 true kC,.slot 3 (.im (.int .i64 e))]
def Bb (num:Nat→Option Value) (_:Nat):Cfg:=⟨fun _=>T0,fun _=>true,num⟩
def SY (g:Nat→Nat) (b d:Bool) (V:Nat) (k:Int) (hint:Nat→Bool) (num:Nat→Option Value) (_:Nat):Cfg:=⟨fun _=>ZG g b d V k,hint,num⟩
theorem NZ (p:Option Addr) (n m:Nat):cK prog (qG prog) (fun _=>⟨fun _=>T0,fun _=>true,assoc [(18,.bool true)]⟩) f8 60 [.v (.im (.slice p n m))]=some ([bD .neq .i64 (Int.ofNat n) 32=some (.bool true)],.many [.fl kC,.im (.int .i64 3)]):=by kernel_rfl
theorem UF:cU=.seq (cA cU) (.seq (cA (cB cU)) (.seq (cA (cB (cB cU))) (.seq (cA (cB (cB (cB cU)))) (.seq (cA (cB (cB (cB (cB cU))))) (.seq (cA (cB (cB (cB (cB (cB cU)))))) ((cB (cB (cB (cB (cB (cB cU)))))))))))):=by kernel_rfl
theorem It (f:Nat→Nat) (m:Nat):bT prog (qG prog) f8.ntmps (Bb (fun _=>none)) 60 (cA cU) (jZ 0 [.s (bj f) 32 m]) (UH f m)=some ([],.nrm,(UH f m)):=by kernel_rfl
theorem Ir (f:Nat→Nat) (m:Nat):bT prog (qG prog) f8.ntmps (Bb (fun _=>none)) 60 (cA (cB cU)) (UH f m) (UH f m)=some ([],.nrm,(UH f m)):=by kernel_rfl
theorem Iq (f:Nat→Nat) (m:Nat):bT prog (qG prog) f8.ntmps (Bb (fun _=>none)) 60 (cA (cB (cB cU))) (UH f m) (UH f m++[.slot 4 (.im (.slice none 0 0))])=some ([],.nrm,(UH f m++[.slot 4 (.im (.slice none 0 0))])):=by kernel_rfl
theorem Ip (f:Nat→Nat) (m:Nat):bT prog (qG prog) f8.ntmps (Bb (fun _=>none)) 200 (cA (cB (cB (cB cU)))) (UH f m++[.slot 4 (.im (.slice none 0 0))]) (Gg (cV f))=some ([],.nrm,(Gg (cV f))):=by kernel_rfl
theorem Io (f:Nat→Nat) (cap:Nat) (h:Bool):bT prog (qG prog) f8.ntmps (Bb (assoc [(34,.bool h)])) 60 (cA (cB (cB (cB (cB cU))))) (.slot 4 (.sl 30 0 32 cap)::Gg (cV f)) (BS (cV f) cap h)=some ([bD .geq .u8 (Int.ofNat (f 31)) 128=some (.bool h)],.nrm,(BS (cV f) cap h)):=by kernel_rfl
theorem Im (f:Nat→Nat) (cap:Nat) (h:Bool):bT prog (qY prog (Nd (assoc [(39,.int .u8 (Int.ofNat (f 31%128)))]))) f8.ntmps (Bb (fun _=>none)) 60 (cA (cB (cB (cB (cB (cB cU)))))) (BS (cV f) cap h) (BS (cV (fF f)) cap h)=some ([Nc .and 5 (.tmp 38) (.const (.int .u8 127)) (.int .u8 (Int.ofNat (f 31))) (.int .u8 (Int.ofNat 127)) (.int .u8 (Int.ofNat (f 31%128)))],.nrm,(BS (cV (fF f)) cap h)):=by kernel_rfl
def Np (y:Nat):Nat:=aI (dE 1 (aI y y)) (SX (gC y))
theorem OD (y:Nat):Np y=mT y:=by
 show dE 1 (aI y y)*(1*gC y^(RM-2)%RM)%RM=dE 1 (aI y y)*gC y^(RM-2)%RM;rw[Nat.one_mul,Nat.mul_mod_mod]
def jR (g:Nat→Nat):Nat:=Go.Proofs.YtjeplinbleofnaaGreat.gU g 0 32
def rN (g:Nat→Nat) (b:Bool):List Prop:=[32=32,aD (bj g)=aD (bj g),∀k,g k<256,jR g<aU,decide (jR g<RM)=b]
def tI (y:Nat):List Prop:=[y<RM,y<RM,168696<RM,aI y y<RM,168700<RM,aI 168696 (aI y y)<RM,gC y<RM,gC y≠0,1<RM,aI y y<RM,dE 1 (aI y y)<RM,SX (gC y)<RM,Np y<RM]
def vS (y V:Nat):List Prop:=[V<RM,aI V V=Np y,cH RM V=true]
theorem Ou (g:Nat→Nat) (cap:Nat) (h:Bool):bT prog (qG prog) f8.ntmps (SY g false true 0 0 (fun _=>true) (fun _=>none)) 60 (cB (cB (cB (cB (cB (cB cU)))))) (BS g cap h) (IZ 21)=some (rN g false,.rt,(IZ 21)):=by kernel_rfl
theorem Oq (g:Nat→Nat) (cap:Nat) (h:Bool):bT prog (qG prog) f8.ntmps (SY g true false 0 0 (fun _=>true) (fun _=>none)) 60 (cB (cB (cB (cB (cB (cB cU)))))) (BS g cap h) (IZ 41)=some (rN g true++tI (jR g)++[oV RM (Np (jR g)) = -1],.rt,(IZ 41)):=by kernel_rfl
theorem Ot (g:Nat→Nat) (cap:Nat) (V:Nat):bT prog (qG prog) f8.ntmps (SY g true true V 0 (fun _=>true) (fun _=>none)) 60 (cB (cB (cB (cB (cB (cB cU)))))) (BS g cap true) (IZ 44)=some (rN g true++tI (jR g)++vS (jR g) V++[aD [At.q V]=aD [At.f ⟨0,cP⟩]],.rt,(IZ 44)):=by kernel_rfl
theorem Aw (g:Nat→Nat) (cap:Nat) (V:Nat):bT prog (qG prog) f8.ntmps (SY g true true V 0 (fun _=>true) (fun _=>none)) 60 (cB (cB (cB (cB (cB (cB cU)))))) (BS g cap false) (Ba (V,jR g) 0)=some (rN g true++tI (jR g)++vS (jR g) V++[aD [At.q V]=aD [At.f ⟨0,cP⟩],V<RM,cH RM V = !false,V<aU,jR g<aU,cQ (V,jR g)=0],.rt,(Ba (V,jR g) 0)):=by kernel_rfl
theorem Ax (g:Nat→Nat) (cap:Nat) (V:Nat) (k:Int):bT prog (qG prog) f8.ntmps (SY g true true V k (fun _=>true) (assoc [(97,.bool true)])) 60 (cB (cB (cB (cB (cB (cB cU)))))) (BS g cap false) (IZ 111)=some (rN g true++tI (jR g)++vS (jR g) V++[aD [At.q V]=aD [At.f ⟨0,cP⟩],V<RM,cH RM V = !false,V<aU,jR g<aU,cQ (V,jR g)=k,bD .neq .i64 k 0=some (.bool true)],.rt,(IZ 111)):=by kernel_rfl
theorem Ay (g:Nat→Nat) (cap:Nat) (V:Nat):bT prog (qG prog) f8.ntmps (SY g true true V 0 (fun _=>false) (fun _=>none)) 60 (cB (cB (cB (cB (cB (cB cU)))))) (BS g cap true) (Ba (dE 0 V,jR g) 0)=some (rN g true++tI (jR g)++vS (jR g) V++[aD [At.q V]≠aD [At.f ⟨0,cP⟩],V<RM,cH RM V = !false,0<RM,V<RM,dE 0 V<aU,jR g<aU,cQ (dE 0 V,jR g)=0],.rt,(Ba (dE 0 V,jR g) 0)):=by kernel_rfl
theorem Az (g:Nat→Nat) (cap:Nat) (V:Nat) (k:Int):bT prog (qG prog) f8.ntmps (SY g true true V k (fun _=>false) (assoc [(97,.bool true)])) 60 (cB (cB (cB (cB (cB (cB cU)))))) (BS g cap true) (IZ 111)=some (rN g true++tI (jR g)++vS (jR g) V++[aD [At.q V]≠aD [At.f ⟨0,cP⟩],V<RM,cH RM V = !false,0<RM,V<RM,dE 0 V<aU,jR g<aU,cQ (dE 0 V,jR g)=k,bD .neq .i64 k 0=some (.bool true)],.rt,(IZ 111)):=by kernel_rfl
theorem Au (g:Nat→Nat) (cap:Nat) (V:Nat):bT prog (qG prog) f8.ntmps (SY g true true V 0 (fun _=>false) (fun _=>none)) 60 (cB (cB (cB (cB (cB (cB cU)))))) (BS g cap false) (Ba (V,jR g) 0)=some (rN g true++tI (jR g)++vS (jR g) V++[aD [At.q V]≠aD [At.f ⟨0,cP⟩],V<RM,cH RM V = !false,V<aU,jR g<aU,cQ (V,jR g)=0],.rt,(Ba (V,jR g) 0)):=by kernel_rfl
theorem Av (g:Nat→Nat) (cap:Nat) (V:Nat) (k:Int):bT prog (qG prog) f8.ntmps (SY g true true V k (fun _=>false) (assoc [(97,.bool true)])) 60 (cB (cB (cB (cB (cB (cB cU)))))) (BS g cap false) (IZ 111)=some (rN g true++tI (jR g)++vS (jR g) V++[aD [At.q V]≠aD [At.f ⟨0,cP⟩],V<RM,cH RM V = !false,V<aU,jR g<aU,cQ (V,jR g)=k,bD .neq .i64 k 0=some (.bool true)],.rt,(IZ 111)):=by kernel_rfl
theorem Cq:∀b,b<256→b &&& 127=b%128:=by decide
def Fv (f:Nat→Nat) (R:RV):Prop:=∀m args w,cE w [.s (bj f) 32 m] args→bE prog 8 R args w
theorem nD {f:Nat→Nat} (hf:∀k,f k<256) {b:Bool} (hb:pN f=b) {C:Nat→Cfg} (hC:∀w n d,TabOkW prog ((C n).T d) (World.heap w).size w) {ps:List Prop} {L:List Fact} (hr:∀cap,bT prog (qG prog) f8.ntmps C 60 (cB (cB (cB (cB (cB (cB cU)))))) (BS (cV (fF f)) cap b) L=some (ps,.rt,L)) (hp:aP ps) {l:List TV} {R:RV} (h1:kK prog L f8.results.toList=some l) (h2:rv l=some R):Fv f R:=by
 intro m args w ha;subst hb;have hG:dH prog (qG prog) w.heap.size w:=(aW _).w _ _;have hT:∀num (n d:Nat),TabOkW prog ((Bb num n).T d) w.heap.size w:=fun _ _ _=>(fV _).w _ _
 refine fQ func8 (c:=cU) rfl ha (Nat.le_of_ble_eq_true (by kernel_rfl)) fun a w' hA => ?_
 rw[UF];refine wp_seq (aF aT (hT _) hG (It f m) trivial hA fun a w' hA => ?_);refine wp_seq (aF aT (hT _) hG (Ir f m) trivial hA fun a w' hA => ?_);refine wp_seq (aF aT (hT _) hG (Iq f m) trivial hA fun a w' hA => ?_);refine wp_seq (aF aT (hT _) hG (Ip f m) trivial hA fun a w' hA => ?_);obtain⟨cap,hcap,hA⟩:=hA.soSl (s:=4) (k:=30) (n:=32) (e:=5) (sz:=1) (l:=bj (cV f)) (by simp[Gg]) (by simp[Gg]) (by simp[Gg]);refine wp_seq (aF aT (hT _) hG (Io f cap (pN f)) ⟨MK,trivial⟩ hA fun a w' hA => ?_);refine wp_seq (aF aT (hT _) (AU _ w) (Im f cap (pN f)) ⟨by have h:=XI (t:=5) (x:=.tmp 38) (y:=.const (.int .u8 127)) (hf 31) (show 127<256 by decide); rw[Cq _ (hf 31)]at h; exact h,trivial⟩ hA fun a w' hA => ?_);exact aF aT (hC w) hG (hr cap) hp hA fun a w' hA=>gP (l:=l) (r:=R) h1 h2 hA
theorem oN (e:Int):kK prog (IZ e) f8.results.toList=some [.fl kC,.im (.int .i64 e)]:=by kernel_rfl
theorem tT (e:Int):rv [.fl kC,.im (.int .i64 e)]=some (.many [.fl kC,.im (.int .i64 e)]):=by kernel_rfl
theorem tV {f:Nat→Nat} {e:Int} (h:Fv f (.many [.fl kC,.im (.int .i64 e)])):Fv f (fD (0,0) e):=fun m args w ha=>h m args w ha
theorem BT (P:NP):kK prog (Ba P 0) f8.results.toList=some [.fl [.q P.1,.q P.2],.im (.int .i64 0)]:=by kernel_rfl
theorem NR (P:NP):rv [.fl [.q P.1,.q P.2],.im (.int .i64 0)]=some (fD P 0):=by kernel_rfl
theorem nQ (g:Nat→Nat) (b d:Bool) (V:Nat) (k:Int) (hint:Nat→Bool) (num:Nat→Option Value):∀w n d',TabOkW prog ((SY g b d V k hint num n).T d') (World.heap w).size w:=fun w _ _=>(Cj g b d V k).w _ _
theorem vT {f:Nat→Nat} (hf:∀k,f k<256) {b:Bool} (h:decide (yJ f<RM)=b):aP (rN (cV (fF f)) b):=⟨rfl,rfl,wU hf,YS (wU hf),h,trivial⟩
theorem EY {y:Nat} (hy:y<RM):aP (tI y):=⟨hy,hy,by decide,aE _ _,by decide,aE _ _,bI _ _,oZ hy,cT,aE _ _,bI _ _,rK _,aE _ _,trivial⟩
theorem UG {y V:Nat} (hV:V<RM) (hVV:aI V V=mT y) (hl:cH RM V=true):aP (vS y V):=⟨hV,by rw[OD]; exact hVV,hl,trivial⟩
theorem Ia {f:Nat→Nat} (hf:∀k,f k<256) (hy:¬yJ f<RM):Fv f (fD (0,0) 21) :=
 tV (nD hf rfl (nQ _ false true 0 0 (fun _=>true) (fun _=>none)) (fun cap=>Ou _ cap _) (vT hf (decide_eq_false hy)) (oN 21) (tT 21))
theorem Hy {f:Nat→Nat} (hf:∀k,f k<256) (hy:yJ f<RM) (hl:oV RM (mT (yJ f)) = -1):Fv f (fD (0,0) 41) :=
 tV (nD hf rfl (nQ _ true false 0 0 (fun _=>true) (fun _=>none)) (fun cap=>Oq _ cap _) (cR (cR (vT hf (decide_eq_true hy)) (EY hy)) ⟨by rw[OD]; exact hl,trivial⟩) (oN 41) (tT 41))
theorem mF {f:Nat→Nat} {V:Nat} (hf:∀k,f k<256) (hy:yJ f<RM) (hV:V<RM) (hVV:aI V V=mT (yJ f)) (hl:cH RM V=true) {l:List Prop} (h:aP l):aP (rN (cV (fF f)) true++tI (jR (cV (fF f)))++vS (jR (cV (fF f))) V++l) :=
 cR (cR (cR (vT hf (decide_eq_true hy)) (EY hy)) (UG hV hVV hl)) h
theorem Pw {V:Nat} (h:V=0):aD [At.q V]=aD [At.f ⟨0,cP⟩]:=by rw[h]; rfl
theorem WO {V:Nat} (hV:V<RM) (h:V≠0):aD [At.q V]≠aD [At.f ⟨0,cP⟩]:=fun e=>h (YV hV cW e)
theorem Hz {f:Nat→Nat} {V:Nat} (hf:∀k,f k<256) (hy:yJ f<RM) (hV:V<RM) (hVV:aI V V=mT (yJ f)) (hl:cH RM V=true) (hh:pN f=true) (hz:V=0):Fv f (fD (0,0) 44) :=
 tV (nD hf hh (nQ _ true true V 0 (fun _=>true) (fun _=>none)) (fun cap=>Ot _ cap V) (mF hf hy hV hVV hl ⟨Pw hz,trivial⟩) (oN 44) (tT 44))
theorem NH {x y:Nat} (hx:x<RM) (hy:y<RM) (h:aI x x=mT y):OnJ x y:=by
 refine⟨⟨hx,hy⟩,?_⟩;have hd:=oZ hy;have e1:dS (gC y)=KR.sub aR (KR.mul dR (KR.mul (dS y) (dS y))):=by
  unfold gC;rw[dM _ (aE _ _),dD,dD];rfl
 have e2:dS (mT y)=KR.mul (KR.sub KR.one (KR.mul (dS y) (dS y))) (KE (dS (gC y))):=by
  have e3:mT y=aI (dE 1 (aI y y)) (vU 1 (gC y)):=by
   show dE 1 (aI y y)*gC y^(RM-2)%RM=dE 1 (aI y y)*(1*gC y^(RM-2)%RM)%RM;rw[Nat.one_mul,Nat.mul_mod_mod]
  rw[e3,dD,AZ (show gC y<RM from bI _ _),dM _ (aE _ _),dD,ER]
 have e:=congrArg dS h;rw[dD,e2,e1]at e;have hi:=Kz.inv _ (RP (dS y));have ho:eC KR aR dR (dS x) (dS y):=by
  show KR.add (KR.mul aR (KR.mul (dS x) (dS x))) (KR.mul (dS y) (dS y))=KR.add KR.one (KR.mul dR (KR.mul (KR.mul (dS x) (dS x)) (KR.mul (dS y) (dS y))));generalize KE (KR.sub aR (KR.mul dR (KR.mul (dS y) (dS y))))=k at hi e;generalize KR.mul (dS x) (dS x)=u at e ⊢;generalize KR.mul (dS y) (dS y)=w at e hi ⊢;exact jT (K:=KR) (c1:=KR.sub aR (KR.mul dR w)) (c2:=KR.sub KR.one w) e hi (aN KR (bL KR [u,w,k,aR,dR]) (Z3*Z0+Z1-(RE.one+Z4*(Z0*Z1))) ((Z3-Z4*Z1)*(Z0-(RE.one-Z1)*Z2)+(RE.one-Z1)*((Z3-Z4*Z1)*Z2-RE.one)) (by kernel_rfl))
 have h2:=PA ho;rw[lH hx,lH hy]at h2;exact h2
theorem XF {f:Nat→Nat} (hf:∀k,f k<256):∃P e,Gv f (fD P e)∧Fv f (fD P e):=by
 by_cases hy:yJ f<RM
 ·rcases UC (show mT (yJ f)<RM from jF _ _)with h|⟨V,hV,hVV,hl⟩
  ·exact⟨(0,0),41,Pc hf hy h,Hy hf hy h⟩
  ·cases hh:pN f
   ·have hw:IL (yJ f) V (pN f)=fD (V,yJ f) 0:=by rw[hh]; rfl
    have hP:w2 (V,yJ f):=⟨fH hV,fH hy⟩;have hon:OnJ V (yJ f):=NH hV hy hVV
    by_cases hk:cQ (V,yJ f)=0
    ·refine⟨_,_,Iv hf hy hV hVV hl hw hP hk,?_⟩
     by_cases hz:V=0
     ·exact nD hf hh (nQ _ true true V 0 (fun _=>true) (fun _=>none)) (fun cap=>Aw _ cap V) (mF hf hy hV hVV hl ⟨Pw hz,hV,hl,hP.1,hP.2,hk,trivial⟩) (BT (V,yJ f)) (NR (V,yJ f))
     ·exact nD hf hh (nQ _ true true V 0 (fun _=>false) (fun _=>none)) (fun cap=>Au _ cap V) (mF hf hy hV hVV hl ⟨WO hV hz,hV,hl,hP.1,hP.2,hk,trivial⟩) (BT (V,yJ f)) (NR (V,yJ f))
    ·have h111:cQ (V,yJ f)=111:=by
      have h:=nZ (p:=(V,yJ f)) hon
      by_cases q:iG.grp.ns lJ (jp hon)=iG.grp.zero
      ·rw[if_pos q]at h; exact absurd h hk
      ·rw[if_neg q]at h; exact h
     refine⟨(0,0),111,Iw hf hy hV hVV hl hw hP h111 (by decide),?_⟩
     by_cases hz:V=0
     ·exact tV (nD hf hh (nQ _ true true V 111 (fun _=>true) (assoc [(97,.bool true)])) (fun cap=>Ax _ cap V 111) (mF hf hy hV hVV hl ⟨Pw hz,hV,hl,hP.1,hP.2,h111,zL (by decide),trivial⟩) (oN 111) (tT 111))
     ·exact tV (nD hf hh (nQ _ true true V 111 (fun _=>false) (assoc [(97,.bool true)])) (fun cap=>Av _ cap V 111) (mF hf hy hV hVV hl ⟨WO hV hz,hV,hl,hP.1,hP.2,h111,zL (by decide),trivial⟩) (oN 111) (tT 111))
   ·by_cases hz:V=0
    ·have hw:IL (yJ f) V (pN f)=fD (0,0) 44:=by
      rw[hh];show (if V=0 then fD (0,0) 44 else fD (dE 0 V,yJ f) 0)=_;rw[if_pos hz]
     exact⟨(0,0),44,Pd hf hy hV hVV hl hw,Hz hf hy hV hVV hl hh hz⟩
    ·have hw:IL (yJ f) V (pN f)=fD (dE 0 V,yJ f) 0:=by
      rw[hh];show (if V=0 then fD (0,0) 44 else fD (dE 0 V,yJ f) 0)=_;rw[if_neg hz]
     have hP:w2 (dE 0 V,yJ f):=⟨fH (bI _ _),fH hy⟩;have hon:OnJ (dE 0 V) (yJ f):=NH (bI _ _) hy (by rw[EX hV,hVV])
     by_cases hk:cQ (dE 0 V,yJ f)=0
     ·refine⟨_,_,Iv hf hy hV hVV hl hw hP hk,?_⟩;exact nD hf hh (nQ _ true true V 0 (fun _=>false) (fun _=>none)) (fun cap=>Ay _ cap V) (mF hf hy hV hVV hl ⟨WO hV hz,hV,hl,cW,hV,hP.1,hP.2,hk,trivial⟩) (BT (dE 0 V,yJ f)) (NR (dE 0 V,yJ f))
     ·have h111:cQ (dE 0 V,yJ f)=111:=by
       have h:=nZ (p:=(dE 0 V,yJ f)) hon
       by_cases q:iG.grp.ns lJ (jp hon)=iG.grp.zero
       ·rw[if_pos q]at h; exact absurd h hk
       ·rw[if_neg q]at h; exact h
      refine⟨(0,0),111,Iw hf hy hV hVV hl hw hP h111 (by decide),?_⟩;exact tV (nD hf hh (nQ _ true true V 111 (fun _=>false) (assoc [(97,.bool true)])) (fun cap=>Az _ cap V 111) (mF hf hy hV hVV hl ⟨WO hV hz,hV,hl,cW,hV,hP.1,hP.2,h111,zL (by decide),trivial⟩) (oN 111) (tT 111))
 ·exact⟨(0,0),21,Pe hf hy,Ia hf hy⟩
theorem NN (p:Option Addr) (n m:Nat) (hn:n≠32) (w:World):bE prog 8 (fD (0,0) 3) [.slice p n m] w :=
 aH aT (fun _ _=>fV _) (aW _) func8 (NZ p n m) ⟨by
  show some (Value.bool ((n:Int) != 32))=_;rw[bne_iff_ne.2 (by omega)],trivial⟩ (args:=[.slice p n m]) ⟨rfl,trivial⟩
def wH:gH
 | [.v (.im (.slice none 0 0)),.v (.im (.slice p 0 c))]=>some ([],.one (.im (.bool true)))
 | cs=>QG cs
theorem IV (p:Option Addr) (c:Nat):cK prog (qG prog) (fun _=>⟨fun _=>T0,fun _=>true,fun _=>none⟩) f9 60 [.v (.im (.slice none 0 0)),.v (.im (.slice p 0 c))]=some ([],.one (.im (.bool true))):=by kernel_rfl
theorem DB:∀cs pre r,wH cs=some (pre,r)→aP pre→∀(args:List Value) (w:World),cE w cs args→bE prog 9 r args w:=by
 intro cs pre r hg hp args w ha;unfold wH at hg;split at hg
 ·rename_i p c;cases hg;exact aH aT (fun _ _=>fV _) (aW prog) func9 (IV p c) trivial ha
 ·exact QF _ _ _ hg hp args w ha
def wK (k:Int):gH:=g1 IX fun p=>([p.1<aU,p.2<aU,cQ p=k,bD .neq .i64 k 0=some (.bool true)],.many [.im (.slice none 0 0),.im (.int .i64 k)])
theorem Lt (k:Int):∀cs pre r,wK k cs=some (pre,r)→aP pre→∀(args:List Value) (w:World),cE w cs args→bE prog 5 r args w :=
 gO (op:=fun p=>([p.1<aU,p.2<aU,cQ p=k,bD .neq .i64 k 0=some (.bool true)],.many [.im (.slice none 0 0),.im (.int .i64 k)])) fX fun p h args w ha=>aH aT (fun _ _=>YK k true) (aW _) func5 (Fi p k) h ha
theorem Lk (k:Int):∀cs pre r,wK k cs=some (pre,r)→aP pre→∀(args:List Value) (w:World),cE w cs args→bE prog 6 r args w :=
 gO (op:=fun p=>([p.1<aU,p.2<aU,cQ p=k,bD .neq .i64 k 0=some (.bool true)],.many [.im (.slice none 0 0),.im (.int .i64 k)])) fX fun p h args w ha=>aH aT (fun _ _=>PB k true) (aW _) func6 (Bo p k) h ha
def XP (R:RV):Tab:=((((T0.add 10 WD).add 11 (g0 (.one (.im (.bool true))))).add 9 wH).add 7 (sL 7 R)).add 8 (sL 8 R)
theorem PD (R:RV):TabOk prog (XP R):=(((((fV _).ad func10 Lp).ad func11 (pO SM)).ad func9 DB).ad func7 (lR _ _)).ad func8 (lR _ _)
def Ft (R:RV) (k:Int):Tab:=((XP R).add 5 (wK k)).add 6 (wK k)
theorem YJ (R:RV) (k:Int):TabOk prog (Ft R k):=((PD R).ad func5 (Lt k)).ad func6 (Lk k)
def Mw (R:RV):Tab:=(XP R).add 4 (sL 4 (.one (.im (.slice none 0 0))))
theorem Jo (R:RV):TabOk prog (Mw R):=(PD R).ad func4 (lR _ _)
def ZI (R:RV) (k:Int):Tab:=(Ft R k).add 4 (sL 4 (.one (.im (.slice none 0 0))))
theorem Cl (R:RV) (k:Int):TabOk prog (ZI R k):=(YJ R k).ad func4 (lR _ _)
def Dp:List CA→Option (List Prop×FS)
 | [.v (.fl l)]=>match IX l with
  | some p=>some ([OnJ p.1 p.2,cQ p=0],Ps (AI p))
  | none=>none
 | _=>none
theorem WA:∀cs pre r,Dp cs=some (pre,r)→aP pre→∀(args:List Value) (w:World),cE w cs args→Calls prog 6 args.toArray w (fun e w'=>r.ok w e w'):=by
 intro cs pre r hg hp args w ha;unfold Dp at hg;split at hg
 ·rename_i l;split at hg
  ·rename_i p hx;cases hg;refine OB p hp.1 hp.2.1 args w ?_
   match args,ha with
   | [v],ha =>
    refine⟨?_,trivial⟩;show v=.agg (aD (q2 p)).toArray;rw[←fX l p hx]; exact ha.1
   | [],ha=>exact ha.elim
   | _::_::_,ha=>exact ha.2.elim
  ·cases hg
 ·cases hg
def Rw:Tab3:=ZN.add 6 Dp
theorem Fy:FsOk prog Rw:=(tB _).ad func6 WA
def Og:Ext:={ Ext.none with T2:=Rz,T3:=Rw,T4:=Fs,T5:=Fx,T6:=Gw }
theorem MD (w:World):dH prog (qY prog Og) w.heap.size w:=yC Gc (fun _ _ _ h=>h.elim) Fy (pC _) (lF _) (mS _)
def Gy (l:List At) (n:Nat):Ext:={ Ext.none with T2:=ZO,T3:=ZN.add 4 (QJ 4 (OC l n)),T4:=Fs,T5:=Fx,T6:=Gw }
theorem TC (l:List At) (n:Nat) (w:World):dH prog (qY prog (Gy l n)) w.heap.size w:=yC (tC _) (fun _ _ _ h=>h.elim) ((tB _).ad func4 (KP _ _)) (pC _) (lF _) (mS _)
def jI:Code:=(f3.body).getD .skip
theorem VR:jI=.seq (cA jI) (.seq (cA (cB jI)) (cB (cB jI))):=by kernel_rfl
def Cw (_:Nat):Cfg:=⟨fun _=>T0,fun _=>true,fun _=>none⟩
def Sn (R:RV) (num:Nat→Option Value) (_:Nat):Cfg:=⟨fun _=>XP R,fun _=>true,num⟩
def Pm (R:RV) (k:Int) (num:Nat→Option Value) (_:Nat):Cfg:=⟨fun _=>Ft R k,fun _=>true,num⟩
def Gj (p:NP) (l:List At) (n c:Nat):List Fact:=[.slot 2 (.pt 2 0),.row 2 true [.q p.1,.q p.2],.slot 1 (.sl 1 0 n c),.row 1 false l]
def Gi (p:NP) (l:List At) (n c:Nat):List Fact:=Gj p l n c++[.slot 5 (.so 15 n),.row 15 true l,.app 15 5 1 n]
def Nt (p:NP) (l:List At) (n c cap:Nat):List Fact:=Gj p l n c++[.slot 5 (.sl 15 0 n cap),.row 15 true l]
def Nu:List Fact:=[.slot 4 (.im (.bool true))]
theorem Kd (p:NP) (l:List At) (n c:Nat):bT prog (qG prog) f3.ntmps Cw 60 (cA jI) (jZ 0 [.v (.fl [.q p.1,.q p.2]),.s l n c]) (Gj p l n c)=some ([],.nrm,Gj p l n c):=by kernel_rfl
theorem Kc (p:NP) (l:List At) (n c:Nat):bT prog (qY prog (Gy l n)) f3.ntmps Cw 60 (cA (cB jI)) (Gj p l n c) (Gi p l n c)=some ([II 4 [.s l n c] (OC l n)],.nrm,Gi p l n c):=by kernel_rfl
def Cz (p:NP):List Prop:=[OnJ p.1 p.2,cQ p=0,OnJ p.1 p.2,cQ p=0]
def Db (p:NP) (k:Int):List Prop:=[p.1<aU,p.2<aU,cQ p=k,bD .neq .i64 k 0=some (.bool true),p.1<aU,p.2<aU,cQ p=k,bD .neq .i64 k 0=some (.bool true)]
def Cx (p:NP):List Prop:=[32=32,32<4611686018427387904,XM (bj (AI p)) 32]
def Cy (l:List At) (n c cap:Nat) (R:RV):List Prop:=[gF 7 [.s l n cap] R,gF 8 [.s l n c] R]
def Da (l:List At) (n:Nat) (P:NP) (e:Int):List Prop:=[aD [At.q P.1,.q P.2]=aD [At.q P.1,.q P.2],bD .eql .i64 e e=some (.bool true),n=n,n<4611686018427387904,XM l n]
theorem Pk (p P:NP) (l:List At) (n c cap:Nat) (e:Int):bT prog (qY prog Og) f3.ntmps (Sn (fD P e) (assoc [(54,.bool true)])) 60 (cB (cB jI)) (Nt p l n c cap) Nu=some (Cz p++Cy l n c cap (fD P e)++Cx p++Da l n P e,.rt,Nu):=by kernel_rfl
theorem Pl (p P:NP) (l:List At) (n c cap:Nat) (e k:Int):bT prog (qG prog) f3.ntmps (Pm (fD P e) k (assoc [(43,.bool true),(54,.bool true)])) 60 (cB (cB jI)) (Nt p l n c cap) Nu=some (Db p k++Cy l n c cap (fD P e)++[bD .eql .i64 k k=some (.bool true)]++Da l n P e,.rt,Nu):=by kernel_rfl
theorem Ke (p:NP) (q:Option Addr) (c:Nat):cK prog (qY prog Og) (fun _=>⟨fun _=>Mw (fD (0,0) 3),fun _=>true,fun _=>none⟩) f3 120 [.v (.fl [.q p.1,.q p.2]),.v (.im (.slice q 0 c))]=some ([gF 4 [.v (.im (.slice q 0 c))] (.one (.im (.slice none 0 0)))]++Cz p++[gF 7 [.v (.im (.slice none 0 0))] (fD (0,0) 3),gF 8 [.v (.im (.slice q 0 c))] (fD (0,0) 3)]++Cx p++[aD [At.q 0,.q 0]=aD [At.q 0,.q 0]],.one (.im (.bool true))):=by kernel_rfl
theorem Kf (p:NP) (q:Option Addr) (c:Nat) (k:Int):cK prog (qG prog) (fun _=>⟨fun _=>ZI (fD (0,0) 3) k,fun _=>true,assoc [(43,.bool true)]⟩) f3 120 [.v (.fl [.q p.1,.q p.2]),.v (.im (.slice q 0 c))]=some ([gF 4 [.v (.im (.slice q 0 c))] (.one (.im (.slice none 0 0)))]++Db p k++[gF 7 [.v (.im (.slice none 0 0))] (fD (0,0) 3),gF 8 [.v (.im (.slice q 0 c))] (fD (0,0) 3),bD .eql .i64 k k=some (.bool true),aD [At.q 0,.q 0]=aD [At.q 0,.q 0]],.one (.im (.bool true))):=by kernel_rfl
theorem RT {p:NP} (h:cQ p=0):OnJ p.1 p.2:=by
 apply Classical.byContradiction;intro hn;rw[AF hn]at h;exact absurd h (by decide)
theorem GC {p:NP} (h:cQ p=0):aP (Cz p):=⟨RT h,h,RT h,h,trivial⟩
theorem GD {p:NP} (hp:w2 p) (h:cQ p≠0):aP (Db p (cQ p)):=⟨hp.1,hp.2,rfl,zL h,hp.1,hp.2,rfl,zL h,trivial⟩
theorem GB (p:NP):aP (Cx p):=⟨rfl,by decide,⟨fun k=>Int.ofNat (AI p k),fun k hk=>oE _ k hk,fun k hk=>oE _ k hk⟩,trivial⟩
theorem GA {p P:NP} {l:List At} {n c:Nat} {e:Int} (hp:w2 p) (hn:n<4611686018427387904) (hcp:II 4 [.s l n c] (OC l n)) (h1:∀cap,gF 7 [.s l n cap] (fD P e)) (h2:gF 8 [.s l n c] (fD P e)) (hu:XM l n)
  (args:List Value) (w:World) (ha:cE w [.v (.fl [.q p.1,.q p.2]),.s l n c] args):bE prog 3 (.one (.im (.bool true))) args w:=by
 have hT0:∀k d:Nat,TabOkW prog ((Cw k).T d) w.heap.size w:=fun _ _=>(fV _).w _ _
 have hG:dH prog (qG prog) w.heap.size w:=(aW _).w _ _;refine fQ func3 (c:=jI) rfl ha (Nat.le_of_ble_eq_true (by kernel_rfl)) fun a w' hA => ?_
 rw[VR];refine wp_seq (aF aT hT0 hG (Kd p l n c) trivial hA fun a w' hA => ?_);refine wp_seq (aF aT hT0 (TC l n w) (Kc p l n c) ⟨hcp,trivial⟩ hA fun a w' hA => ?_);obtain⟨cap,hc,hA⟩:=hA.soSl (s:=5) (k:=15) (n:=n) (e:=5) (sz:=1) (l:=l) (by simp[Gi]) (by simp[Gi]) (by simp[Gi]);have hA2:Holds f3.ntmps w.heap.size w (Nt p l n c cap) a w':=hA.sub fun φ hφ=>by
  simp only[Nt,Gi,Gj,List.cons_append,List.nil_append,List.mem_cons,List.not_mem_nil,or_false]at hφ ⊢
  rcases hφ with h|h|h|h|h|h<;>simp[h]
 have hr:aP (Cy l n c cap (fD P e)):=⟨h1 cap,h2,trivial⟩;have he:aP (Da l n P e):=⟨rfl,wN e,rfl,hn,hu,trivial⟩
 by_cases hk:cQ p=0
 ·exact aF aT (fun k d=>(PD _).w _ _) (MD w) (Pk p P l n c cap e) (cR (cR (cR (GC hk) hr) (GB p)) he) hA2 fun a w' hA=>gP (l:=[.im (.bool true)]) (r:=.one (.im (.bool true))) (by kernel_rfl) (by kernel_rfl) hA
 ·exact aF aT (fun k d=>(YJ _ _).w _ _) hG (Pl p P l n c cap e (cQ p)) (cR (cR (cR (GD hp hk) hr) ⟨wN _,trivial⟩) he) hA2 fun a w' hA=>gP (l:=[.im (.bool true)]) (r:=.one (.im (.bool true))) (by kernel_rfl) (by kernel_rfl) hA
theorem zF (p:NP) (hp:w2 p) (q:Option Addr) (c:Nat) (hq:q=none→c=0) (w:World):Calls prog 3 #[.agg (aD (q2 p)).toArray,.slice q 0 c] w (fun e w'=>e=.returned (.bool true)∧Below w.heap.size w w'):=by
 have hcp:gF 4 [.v (.im (.slice q 0 c))] (.one (.im (.slice none 0 0))):=QC fun w=>by
  cases q with
  | none=>rw[hq rfl]; exact DS w
  | some a=>exact AB a c w
 have h1:gF 7 [.v (.im (.slice none 0 0))] (fD (0,0) 3):=QC fun w=>yB none 0 0 (by decide) w
 have h2:gF 8 [.v (.im (.slice q 0 c))] (fD (0,0) 3):=QC fun w=>NN q 0 c (by decide) w
 have ha:cE w [.v (.fl [.q p.1,.q p.2]),.v (.im (.slice q 0 c))] [.agg (aD (q2 p)).toArray,.slice q 0 c]:=⟨rfl,rfl,trivial⟩
 by_cases hk:cQ p=0
 ·exact pP aT (fun _ _=>(Jo _).w _ _) (MD w) func3 (Ke p q c) (cR (cR (cR (cR ⟨hcp,trivial⟩ (GC hk)) ⟨h1,h2,trivial⟩) (GB p)) ⟨rfl,trivial⟩) ha
 ·exact aH aT (fun _ _=>Cl _ _) (aW _) func3 (Kf p q c (cQ p)) (cR (cR ⟨hcp,trivial⟩ (GD hp hk)) ⟨h1,h2,wN _,rfl,trivial⟩) ha
theorem uJ {f:FuncId} {l:List At} {n m:Nat} {R:RV} (h:∀p w,bE prog f R [.slice p n m] w):gF f [.s l n m] R:=fun args w ha=>by
 match args,ha with
 | [v],ha =>
  obtain⟨b',o',rfl,_,_⟩:=ha.1;exact h _ w
 | [],ha=>exact ha.elim
 | _::_::_,ha=>exact ha.2.elim
theorem SO (B:Nat→Nat):aD (XL B 32)=aD (bj B):=by rw[jA]; kernel_rfl
theorem Cv (p:NP) (hp:w2 p) (b o n c:Nat) (B:Nat→Nat) (hB:∀k,B k<256) (hn:n≤140737488355328) (w:World) (hb:b<w.heap.size) (hc:∀k,k<n→w.cell? ⟨b,o+k,none⟩=some (.int .u8 (Int.ofNat (B k)))):Calls prog 3 #[.agg (aD (q2 p)).toArray,.slice (some ⟨b,o,none⟩) n c] w (fun e w'=>e=.returned (.bool true)∧Below w.heap.size w w'):=by
 have ha:cE w [.v (.fl [.q p.1,.q p.2]),.s (XL B n) n c] [.agg (aD (q2 p)).toArray,.slice (some ⟨b,o,none⟩) n c]:=⟨rfl,⟨b,o,rfl,hb,fun j v hj=>by
  have hlt:j<n:=by have:=(List.getElem?_eq_some_iff.1 hj).1; rw[jA,vC]at this; exact this
  rw[jA,qI B n j hlt]at hj;rw[hc j hlt,hj]⟩,trivial⟩
 by_cases h0:n=0
 ·subst h0;exact zF p hp _ c (fun h=>by cases h) w
 ·have hcp:II 4 [.s (XL B n) n c] (OC (XL B n) n):=fun args w ha=>by
   match args,ha with
   | [v],ha =>
    obtain⟨b',o',rfl,_,hrr⟩:=ha.1;exact AC b' o' n c B (by omega) hn w fun k hk=>hrr k _ (by rw[jA]; exact qI B n k hk)
   | [],ha=>exact ha.elim
   | _::_::_,ha=>exact ha.2.elim
  by_cases h1:n=32
  ·subst h1;obtain⟨P,e,r1,r2⟩:=XF hB;exact GA hp (by decide) hcp (fun cap args w ha=>r1 cap args w (GY (SO B) ha)) (fun args w ha=>r2 c args w (GY (SO B) ha)) (ID B 32) _ w ha
  ·exact GA hp (by omega) hcp (fun cap=>uJ fun p w=>yB p n cap h1 w) (uJ fun p w=>NN p n c h1 w) (ID B n) _ w ha
end Go.Proofs.YtjeplinbleofnaaGreat.Ex
namespace Go.Proofs.YtjeplinbleofnaaGreat
open Go.Proofs.Tryz
open Go.ChangeShapes Go.WideShapes Go.ChangeAt Go.RowKit
theorem qO:ownKnob prog.godebug=none:=by kernel_rfl
theorem GE:laidOutB prog=true:=by kernel_rfl
theorem IQ:prog.cellsOf 22=1:=by kernel_rfl
theorem Kb {α:Type} (l:List α) (h:(⟨l⟩:Array α).size=4):∃a b c d,l=[a,b,c,d]:=by
 match l,h with
 | [a,b,c,d],_=>exact⟨a,b,c,d,rfl⟩
theorem lL {n:Int} (h:(Lit.int .u64 n).wf=true):∃k:Nat,n=(k:Int)∧k<18446744073709551616:=by
 obtain⟨h1,h2⟩:=bounds_u64 h;obtain⟨k,rfl⟩:=Int.eq_ofNat_of_zero_le h1;exact⟨k,rfl,by omega⟩
end Go.Proofs.YtjeplinbleofnaaGreat
namespace Go.Proofs.YtjeplinbleofnaaGreat.Ex
open Go.Proofs.Tryz
open Go.Deep Go.ChangeShapes Go.WideShapes Go.ChangeAt Go.RowKit
theorem Fr {P:Program} {W:World} {base:Nat} {t:TypeId} {fs:Array Field} {v:Value} (ht:P.underlying t=some (.struct fs)) (h:Value.okWide P W .any base t v):∃cs,v=.agg cs:=by
 obtain⟨cs,rfl,_⟩:∃cs,v=.agg cs∧cs.size=P.cellsOf t∧Row.okWide P W .any base t cs:=by
  simpa[Value.okWide,ht]using h
 exact⟨cs,rfl⟩
section
variable {H:Type} {enc:TypeId×Value→H} {W:World}
theorem YH {fuel:Nat} {cs:List Value} {x:DataW H×List MemPlace} (hl:cs.length=4) (h:DataW.trod enc prog W 0 (fun _=>true) true fuel 24 cs=some x):∃n:Nat,cs=aD (q1 n):=by
 obtain⟨c0,c1,c2,c3,rfl⟩:=Kb cs hl;obtain⟨y0,y1,y2,y3,m,hx,hy0,hy1,hy2,hy3⟩:=trod_array4 underlying24 IQ h;obtain⟨x0,e0,rfl,w0⟩:=DataW.trod_int underlying22 hy0;obtain⟨x1,e1,rfl,w1⟩:=DataW.trod_int underlying22 hy1;obtain⟨x2,e2,rfl,w2⟩:=DataW.trod_int underlying22 hy2;obtain⟨x3,e3,rfl,w3⟩:=DataW.trod_int underlying22 hy3;simp at e0 e1 e2 e3;obtain⟨a0,rfl,k0⟩:=lL w0;obtain⟨a1,rfl,k1⟩:=lL w1;obtain⟨a2,rfl,k2⟩:=lL w2;obtain⟨a3,rfl,k3⟩:=lL w3;subst e0 e1 e2 e3;have hv:aA a0 a1 a2 a3<115792089237316195423570985008687907853269984665640564039457584007913129639936:=by unfold aA; omega
 obtain⟨q0,q1',q2',q3⟩:=eW ⟨k0,k1,k2,k3⟩ hv rfl;refine⟨aA a0 a1 a2 a3,?_⟩;show _=w4 (aA a0 a1 a2 a3);unfold w4;rw[←q0,←q1',←q2',←q3]
end
section
variable {H:Type} {enc:TypeId×Value→H} {W:World}
theorem Ss:prog.cellsOf 26=8:=by kernel_rfl
theorem Qj:prog.cellsOf 24=4:=by kernel_rfl
theorem Kx (x:Nat):aD (q1 x)=aD (q1 (wv x)):=by
 have hl:wv x<115792089237316195423570985008687907853269984665640564039457584007913129639936:=Nat.lt_of_lt_of_eq (EN x) (by decide);obtain⟨e0,e1,e2,e3⟩:=eW (cJ x) hl rfl;show w4 x++[]=w4 (wv x)++[];unfold w4;rw[←e0,←e1,←e2,←e3]
theorem Gz (x:Nat):wv x<aU:=Nat.lt_of_lt_of_eq (EN x) (by decide)
theorem Jk {fuel:Nat} {cs:List Value} {x:DataW H×List MemPlace} (h:DataW.trod enc prog W 0 (fun _=>true) true fuel 26 cs=some x):∃n:Nat×Nat,(n.1<aU∧n.2<aU)∧cs=aD (q2 n):=by
 obtain⟨y0,y1,n,_,hl,h0,h1⟩:=trod_struct2 underlying26 h;rw[Ss]at hl;simp only[Qj]at h0 h1;obtain⟨a,ha⟩:=YH (by simp[hl]) h0;obtain⟨b,hb⟩:=YH (by simp[hl]) h1;rw[Kx]at ha hb;refine⟨(wv a,wv b),⟨Gz a,Gz b⟩,?_⟩;rw[List.drop_zero]at ha;rw[List.take_of_length_le (by simp[hl])]at hb;show cs=w4 (wv a)++(w4 (wv b)++[]);rw[List.append_nil,←List.take_append_drop 4 cs];congr 1
 all_goals first|exact ha.trans (List.append_nil _)|exact hb.trans (List.append_nil _)
theorem VA {base:Nat} {v:Value} {d:DataW H} {ps:List MemPlace} {pt:Array TypeId} {args:Array Value} (hval:∀(j:Nat) t v,pt[j]?=some t→args[j]?=some v→Value.okWide prog W .any base t v) (j:Nat) (hj:pt[j]?=some 26) (ha:args[j]?=some v)
  (h:DataW.Trod enc prog W 0 (fun _=>true) true 26 v d ps):∃x:Nat×Nat,(x.1<aU∧x.2<aU)∧v=.agg (aD (q2 x)).toArray:=by
 have hv:=hval j 26 v hj ha;obtain⟨cs,rfl⟩:=Fr (t:=26) underlying26 hv;obtain⟨fuel,hf⟩:=h;obtain⟨l⟩:=cs;obtain⟨x,hb,hx⟩:=Jk hf;subst hx;exact⟨x,hb,rfl⟩
end
end Go.Proofs.YtjeplinbleofnaaGreat.Ex
