/- Jb07 -/
import Derived.Laws.MakeOwn
import Derived.Test.YtjeplinbleofnaaJb06
import Derived.Test.YtjeplinbleofnaaJb00
import Derived.Test.YtjeplinbleofnaaJb01
import Derived.Test.YtjeplinbleofnaaJb02
import Derived.Test.YtjeplinbleofnaaJb04
import Derived.Test.YtjeplinbleofnaaProg
set_option maxRecDepth 100000
set_option linter.unusedVariables false
set_option linter.unusedSimpArgs false
set_option linter.unnecessarySimpa false
noncomputable section
namespace Go.Proofs.Ytjeplinbleofnaa
open Go.Proofs.Try
open Go.RowKit
def MX (F:FC) (w:World) (e:Ending) (w':World):Prop :=
 ∃T H c0 c1 c2 c3:Nat,e=.returned (.tuple #[.int .i64 T,.agg #[.int .u64 c0,.int .u64 c1,.int .u64 c2,.int .u64 c3]])∧bQ c0 c1 c2 c3∧1≤T∧T≤200∧F.M=2^T*(2*H+1)+1∧aB c0 c1 c2 c3^2^(T-1)%F.M=F.M-1∧Below w.heap.size w w'
theorem PO {n b e v:Nat} (he:e<2^256) (h:Nat.beq (pm n 256 b e) v=true):b^e%n=v:=by
 rw[←yR n 256 b e he]; exact Nat.eq_of_beq_eq_true h
theorem RP (e:Nat) (he:e=134217728):aB 11229192882073836016 4624371214017703636 63235024940837564 3043318377369730693^e%FR.M=FR.M-1 :=
 PO (n:=FR.M) (b:=aB 11229192882073836016 4624371214017703636 63235024940837564 3043318377369730693) (e:=e) (v:=FR.M-1) (by rw[he]; decide) (by rw[he]; kernel_rfl)
theorem WD (T:Nat) (hT:T=28):aB 11229192882073836016 4624371214017703636 63235024940837564 3043318377369730693^2^(T-1)%FR.M=FR.M-1:=RP (2^(T-1)) (by rw[hT])
theorem WE:aB 4332616871279656262 10917124144477883021 13281191951274694749 3486998266802970665^2^(1-1)%FP.M=FP.M-1:=by kernel_rfl
set_option maxHeartbeats 2000000 in
theorem lY (f:Int) (F:FC) (hf:FieldIs f F) (w:World):Calls prog 102 #[.int .i64 f] w (MX F w):=by
 rcases hf with⟨rfl,rfl⟩|⟨rfl,rfl⟩
 ·go_enter func102,ntmps102
  go_wp2_with fail;refine bodyPost_ret (v:=.tuple #[.int .i64 1,.agg #[.int .u64 4332616871279656262,.int .u64 10917124144477883021,.int .u64 13281191951274694749,.int .u64 3486998266802970665]]) (by simp[results,results102,go_sem]) rfl ?_;refine⟨1,5472060717959818805561601436314318772174077789324455915672259473661306552145,4332616871279656262,10917124144477883021,13281191951274694749,3486998266802970665,rfl,by unfold bQ; decide,by omega,by omega,by kernel_rfl,WE,?_⟩
  repeat (first|exact Below.refl _ _|refine Below.drew ?_|refine Below.alloc ?_ (by first|(simp; done)|(simp; omega)) _|refine Below.setCell ?_ (by simp) _)
 ·go_enter func102,ntmps102
  go_wp2_with fail;refine bodyPost_ret (v:=.tuple #[.int .i64 28,.agg #[.int .u64 11229192882073836016,.int .u64 4624371214017703636,.int .u64 63235024940837564,.int .u64 3043318377369730693]]) (by simp[results,results102,go_sem]) rfl ?_;refine⟨28,40770029410420498293352137776570907027550720424234931066070132305055,11229192882073836016,4624371214017703636,63235024940837564,3043318377369730693,rfl,by unfold bQ; decide,by omega,by omega,by kernel_rfl,WD 28 rfl,?_⟩
  repeat (first|exact Below.refl _ _|refine Below.drew ?_|refine Below.alloc ?_ (by first|(simp; done)|(simp; omega)) _|refine Below.setCell ?_ (by simp) _)
set_option maxHeartbeats 2000000 in
theorem BK (f:Int) (F:FC) (hf:FieldIs f F) (a0 a1 a2 a3:Nat) (ha:bQ a0 a1 a2 a3) (la:aB a0 a1 a2 a3<F.M) (hz:aB a0 a1 a2 a3=0) (w:World) :
  Calls prog 84 #[.int .i64 f,.agg #[.int .u64 a0,.int .u64 a1,.int .u64 a2,.int .u64 a3]] w (JC 0 0 w):=by
 have HE:=Lib.hid (show ∀w,(Op.equalIn 10000 24 (.agg #[.int .u64 a0,.int .u64 a1,.int .u64 a2,.int .u64 a3]) (.agg #[.int .u64 0,.int .u64 0,.int .u64 0,.int .u64 0])).run prog w=.ok true w from fun w=>by
  have h:=kG 9998 a0 a1 a2 a3 0 0 0 0 w;rw[show rR a0 a1 a2 a3 0 0 0 0=true from (iQ ha CK).2 (hz.trans rfl)]at h;exact h)
 have hG:=kH;clear hz
 go_enter func84,ntmps84
 go_wp2_with fail;refine (bU f F hf _).mono ?_
 rintro e w1 ⟨rfl,hbl⟩
 have M1:=(((Mem.nil w).new (w.heap.size) a0 a1 a2 a3 24 (by simp)).new (w.heap.size+1) 0 0 0 0 24 (by simp)).on hbl;clear hbl;have z0:w.heap.size<w1.heap.size:=M1.lt (c0:=a0) (c1:=a1) (c2:=a2) (c3:=a3) (by simp);have z1:w.heap.size+1<w1.heap.size:=M1.lt (c0:=0) (c1:=0) (c2:=0) (c3:=0) (by simp);have HM:=Lib.hid (M1.on ((Below.refl _ _).alloc (Nat.le_refl _) (.cells #[.int .u64 F.m0,.int .u64 F.m1,.int .u64 F.m2,.int .u64 F.m3,.int .u64 F.inv,.int .u64 F.s0,.int .u64 F.s1,.int .u64 F.s2,.int .u64 F.s3] 101)));have KK:=Lib.hid (KIs.new w1 F 101);have kr:=M1.row (b:=w.heap.size) (c0:=a0) (c1:=a1) (c2:=a2) (c3:=a3) (by simp);have x0:=kr.c0; have x1:=kr.c1; have x2:=kr.c2; have x3:=kr.c3;clear kr;have xl:=M1.lt (b:=w.heap.size) (c0:=a0) (c1:=a1) (c2:=a2) (c3:=a3) (by simp);go_wp2_with fail;refine (bG F hf.ok w1.heap.size a0 a1 a2 a3 ha _ KK.out).mono ?_
 rintro e w2 ⟨he,hbl⟩
 rw[show pR (aB a0 a1 a2 a3) F.M=true from decide_eq_true la]at he;subst he;have HM':=Lib.hid (HM.out.on hbl);have KK':=Lib.hid (KK.out.same hbl);have zk:=KK'.out.lt;clear HM KK hbl M1;have HM:=HM';have KK:=KK';clear HM' KK';clear x0 x1 x2 x3 xl zk;have kr:=HM.out.row (b:=w.heap.size) (c0:=a0) (c1:=a1) (c2:=a2) (c3:=a3) (by simp);have x0:=kr.c0; have x1:=kr.c1; have x2:=kr.c2; have x3:=kr.c3;clear kr;have xl:=HM.out.lt (b:=w.heap.size) (c0:=a0) (c1:=a1) (c2:=a2) (c3:=a3) (by simp);have kr:=HM.out.row (b:=w.heap.size+1) (c0:=0) (c1:=0) (c2:=0) (c3:=0) (by simp);have y0:=kr.c0; have y1:=kr.c1; have y2:=kr.c2; have y3:=kr.c3; have yf:=kr.fr;clear kr;have yl:=HM.out.lt (b:=w.heap.size+1) (c0:=0) (c1:=0) (c2:=0) (c3:=0) (by simp);have hE:=HE.out;go_wp2_with fail;refine bodyPost_ret (v:=.tuple #[.agg #[.int .u64 0,.int .u64 0,.int .u64 0,.int .u64 0],.int .i64 0]) (by simp[results,results84,go_sem, *]) rfl ?_;refine⟨_,_,_,_,rfl,CK,rfl,?_⟩;exact aW HM.out.1 (by omega) 0 0 0 0
theorem LC {F:FC} (hF:F.Ok) {v:Nat} (hv:v<F.M) (h:bP F.M v=false):(0+F.M-v)%F.M*((0+F.M-v)%F.M)%F.M=v*v%F.M∧(0+F.M-v)%F.M<F.M∧bP F.M ((0+F.M-v)%F.M)=true:=by
 unfold bP at *;have h':¬v≤(0+F.M-v)%F.M:=of_decide_eq_false h;have hp:=hF.pos;have v0:0<v:=by
  rcases Nat.eq_zero_or_pos v with q|q
  ·subst q; exact absurd (Nat.zero_le _) h'
  ·exact q
 rw[Nat.mod_eq_of_lt (show 0+F.M-v<F.M by omega)]at *;refine⟨?_,by omega,?_⟩
 ·obtain⟨d,hd⟩:∃d,F.M=v+d:=⟨F.M-v,by omega⟩
  have hdv:d<v:=by omega
  obtain⟨e,rfl⟩:∃e,v=d+e:=⟨v-d,by omega⟩
  rw[show 0+F.M-(d+e)=d by omega];have:(d+e)*(d+e)=d*d+F.M*e:=by
   rw[hd]; simp only[Nat.add_mul,Nat.mul_add,Nat.mul_comm e d]; omega
  rw[this,Nat.add_mul_mod_self_left]
 ·rw[decide_eq_true_iff,show 0+F.M-(0+F.M-v)=v by omega,Nat.mod_eq_of_lt hv]; omega
set_option maxHeartbeats 2000000 in
theorem rM (f:Int) (F:FC) (hf:FieldIs f F) (a0 a1 a2 a3:Nat) (ha:bQ a0 a1 a2 a3) (la:aB a0 a1 a2 a3<F.M) (hz:aB a0 a1 a2 a3≠0) (hs2:aB a0 a1 a2 a3^(F.M/2)%F.M=1) (w:World) :
  Calls prog 84 #[.int .i64 f,.agg #[.int .u64 a0,.int .u64 a1,.int .u64 a2,.int .u64 a3]] w (fun e w'=>∃V,JC 0 V w e w'∧V*V%F.M=aB a0 a1 a2 a3∧V<F.M∧bP F.M V=true):=by
 have HE:=Lib.hid (show ∀w,(Op.equalIn 10000 24 (.agg #[.int .u64 a0,.int .u64 a1,.int .u64 a2,.int .u64 a3]) (.agg #[.int .u64 0,.int .u64 0,.int .u64 0,.int .u64 0])).run prog w=.ok false w from fun w=>by
  have h:=kG 9998 a0 a1 a2 a3 0 0 0 0 w;rw[show rR a0 a1 a2 a3 0 0 0 0=false from pZ (fun q=>hz (((iQ ha CK).1 q).trans rfl))]at h;exact h)
 have hG:=kH;have HS2:=Lib.hid hs2;have HZ:=Lib.hid hz;clear hz hs2
 go_enter func84,ntmps84
 go_wp2_with fail;refine (bU f F hf _).mono ?_
 rintro e w1 ⟨rfl,hbl⟩
 have M1:=(((Mem.nil w).new (w.heap.size) a0 a1 a2 a3 24 (by simp)).new (w.heap.size+1) 0 0 0 0 24 (by simp)).on hbl;clear hbl;have z0:w.heap.size<w1.heap.size:=M1.lt (c0:=a0) (c1:=a1) (c2:=a2) (c3:=a3) (by simp);have z1:w.heap.size+1<w1.heap.size:=M1.lt (c0:=0) (c1:=0) (c2:=0) (c3:=0) (by simp);have HM:=Lib.hid (M1.on ((Below.refl _ _).alloc (Nat.le_refl _) (.cells #[.int .u64 F.m0,.int .u64 F.m1,.int .u64 F.m2,.int .u64 F.m3,.int .u64 F.inv,.int .u64 F.s0,.int .u64 F.s1,.int .u64 F.s2,.int .u64 F.s3] 101)));have KK:=Lib.hid (KIs.new w1 F 101);have kr:=M1.row (b:=w.heap.size) (c0:=a0) (c1:=a1) (c2:=a2) (c3:=a3) (by simp);have x0:=kr.c0; have x1:=kr.c1; have x2:=kr.c2; have x3:=kr.c3;clear kr;have xl:=M1.lt (b:=w.heap.size) (c0:=a0) (c1:=a1) (c2:=a2) (c3:=a3) (by simp);go_wp2_with fail;refine (bG F hf.ok w1.heap.size a0 a1 a2 a3 ha _ KK.out).mono ?_
 rintro e w2 ⟨he,hbl⟩
 rw[show pR (aB a0 a1 a2 a3) F.M=true from decide_eq_true la]at he;subst he;have HM':=Lib.hid (HM.out.on hbl);have KK':=Lib.hid (KK.out.same hbl);have zk:=KK'.out.lt;clear HM KK hbl M1;have HM:=HM';have KK:=KK';clear HM' KK';clear x0 x1 x2 x3 xl zk;have kr:=HM.out.row (b:=w.heap.size) (c0:=a0) (c1:=a1) (c2:=a2) (c3:=a3) (by simp);have x0:=kr.c0; have x1:=kr.c1; have x2:=kr.c2; have x3:=kr.c3;clear kr;have xl:=HM.out.lt (b:=w.heap.size) (c0:=a0) (c1:=a1) (c2:=a2) (c3:=a3) (by simp);have hE:=HE.out;go_wp2_with fail;clear hE x0 x1 x2 x3 xl;refine (lY f F hf _).mono ?_
 rintro e w3 ⟨T,H,c0,c1,c2,c3,rfl,hc,hT1,hT2,hMT,hcyc,hbl⟩
 have HMT:=Lib.hid hMT;have HCY:=Lib.hid hcyc;clear hMT hcyc;have HM':=Lib.hid (HM.out.on hbl);have KK':=Lib.hid (KK.out.same hbl);have zk:=KK'.out.lt;clear HM KK hbl;have HM:=HM';have KK:=KK';clear HM' KK';clear zk;have wz:w1.heap.size<w3.heap.size:=KK.out.lt;have HM':=Lib.hid (HM.out.new w3.heap.size c0 c1 c2 c3 24 rfl);have KK':=Lib.hid (KK.out.same ((Below.refl _ _).alloc (Nat.le_refl _) (.cells #[.int .u64 c0,.int .u64 c1,.int .u64 c2,.int .u64 c3] 24)));clear HM KK;have HM:=HM';have KK:=KK';clear HM' KK';clear HE hG
 go_upto_region 7 with fail
 go_cut [10,11] (fun s10 s11 wx=>∃gb s0 s1 s2 s3:Nat,s10=.pointer (some ⟨gb,0,none⟩)∧s11=.bool true∧bQ s0 s1 s2 s3∧Hid (∃R,aB s0 s1 s2 s3=kp F R∧R*R%F.M=aB a0 a1 a2 a3%F.M)∧Hid (Mem w wx [(gb,s0,s1,s2,s3),(w.heap.size+1,0,0,0,0)])∧Hid (KIs wx w1.heap.size F))
 case first =>
  obtain⟨gr,hroot⟩:=hf.root;have HRo:=Lib.hid hroot;clear hroot;refine eF (fun wx=>Mem w wx [(w3.heap.size,c0,c1,c2,c3),(w.heap.size+1,0,0,0,0),(w.heap.size,a0,a1,a2,a3)]∧KIs wx w1.heap.size F) 11 (by kernel_rfl) ?_;have HM':=Lib.hid (HM.out.drewN 1);have KK':=Lib.hid (KK.out.drewN 1);clear HM KK;have HM:=HM';have KK:=KK';clear HM' KK';have HS:=And.intro (HM.out.sub (rs':=[(w3.heap.size,c0,c1,c2,c3),(w.heap.size+1,0,0,0,0),(w.heap.size,a0,a1,a2,a3)]) (by simp)) KK.out;refine aH (i:=0) (v:=.agg #[.int .u64 a0,.int .u64 a1,.int .u64 a2,.int .u64 a3]) rfl (by kernel_rfl) (by kernel_rfl) (by kernel_rfl) (by kernel_rfl) (fun _ _ _ h=>h) HS (Or.inl ⟨by kernel_rfl,fun wx hx => ?_⟩) ?_
  ·have kr:=hx.1.row (b:=w.heap.size) (c0:=a0) (c1:=a1) (c2:=a2) (c3:=a3) (by simp);have x0:=kr.c0; have x1:=kr.c1; have x2:=kr.c2; have x3:=kr.c3;clear kr HS hx;go_simp
  simp only[Act.put,List.setIfInBounds_toArray,List.set_cons_zero,List.set_cons_succ];refine aH (i:=2) (v:=.int .i64 (T:Nat)) rfl (by kernel_rfl) (by kernel_rfl) (by kernel_rfl) (by kernel_rfl) (fun _ _ _ h=>h) HS (Or.inl ⟨by kernel_rfl,fun wx hx => ?_⟩) ?_
  ·clear HS hx;go_simp
  simp only[Act.put,List.setIfInBounds_toArray,List.set_cons_zero,List.set_cons_succ];refine aH (i:=3) (v:=.agg #[.int .u64 c0,.int .u64 c1,.int .u64 c2,.int .u64 c3]) rfl (by kernel_rfl) (by kernel_rfl) (by kernel_rfl) (by kernel_rfl) (fun _ _ _ h=>h) HS (Or.inl ⟨by kernel_rfl,fun wx hx => ?_⟩) ?_
  ·have kr:=hx.1.row (b:=w3.heap.size) (c0:=c0) (c1:=c1) (c2:=c2) (c3:=c3) (by simp);have x0:=kr.c0; have x1:=kr.c1; have x2:=kr.c2; have x3:=kr.c3;clear kr HS hx;go_simp
  simp only[Act.put,List.setIfInBounds_toArray,List.set_cons_zero,List.set_cons_succ];clear HS;refine dH (i:=1) (j:=9) (by kernel_rfl) rfl rfl (fun K hK => ?_) (fun K hK => ?_)
  ·go_simp;refine (bL F hf.ok w1.heap.size a0 a1 a2 a3 ha _ KK.out).mono ?_
   rintro e v1 ⟨i0,i1,i2,i3,rfl,hi,hv,hbl⟩
   have HVi:=Lib.hid hv;clear hv;have HM':=Lib.hid (HM.out.on hbl);have KK':=Lib.hid (KK.out.same hbl);clear HM KK hbl;have HM:=HM';have KK:=KK';clear HM' KK';have HS:=And.intro (HM.out.sub (rs':=[(w3.heap.size,c0,c1,c2,c3),(w.heap.size+1,0,0,0,0),(w.heap.size,a0,a1,a2,a3)]) (by simp)) KK.out;refine hK.out _ _ (Or.inr HS) (fun _ => ?_);clear hK K HS;refine dH (i:=4) (j:=9) (by kernel_rfl) rfl rfl (fun K hK => ?_) (fun K hK => ?_)
   ·go_simp;refine (bL F hf.ok w1.heap.size c0 c1 c2 c3 hc _ KK.out).mono ?_
    rintro e v2 ⟨j0,j1,j2,j3,rfl,hj,hv,hbl⟩
    have HVj:=Lib.hid hv;clear hv;have HM':=Lib.hid (HM.out.on hbl);have KK':=Lib.hid (KK.out.same hbl);clear HM KK hbl;have HM:=HM';have KK:=KK';clear HM' KK';have HS:=And.intro (HM.out.sub (rs':=[(w3.heap.size,c0,c1,c2,c3),(w.heap.size+1,0,0,0,0),(w.heap.size,a0,a1,a2,a3)]) (by simp)) KK.out;refine hK.out _ _ (Or.inr HS) (fun _ => ?_);clear hK K HS;refine dH (i:=5) (j:=9) (by kernel_rfl) rfl rfl (fun K hK => ?_) (fun K hK => ?_)
    ·go_simp;refine (jT F hf.ok gr HRo.out (aB a0 a1 a2 a3) H T (aB c0 c1 c2 c3) w1.heap.size i0 i1 i2 i3 j0 j1 j2 j3 hi hj HVi.out HVj.out hT1 hT2 HMT.out HCY.out HS2.out _ KK.out).mono ?_
     rintro e v3 ⟨s0,s1,s2,s3,R,rfl,hs,hv,hRR,hbl⟩
     have HVs:=Lib.hid (show ∃R,aB s0 s1 s2 s3=kp F R∧R*R%F.M=aB a0 a1 a2 a3%F.M from⟨R,hv,hRR⟩);clear hv hRR;have HM':=Lib.hid (HM.out.on hbl);have KK':=Lib.hid (KK.out.same hbl);clear HM KK hbl;have HM:=HM';have KK:=KK';clear HM' KK';have HS:=And.intro (HM.out.sub (rs':=[(w3.heap.size,c0,c1,c2,c3),(w.heap.size+1,0,0,0,0),(w.heap.size,a0,a1,a2,a3)]) (by simp)) KK.out;refine hK.out _ _ (Or.inr HS) (fun _ => ?_);clear hK K HS;have HS:=And.intro (HM.out.sub (rs':=[(w3.heap.size,c0,c1,c2,c3),(w.heap.size+1,0,0,0,0),(w.heap.size,a0,a1,a2,a3)]) (by simp)) KK.out;refine aH (i:=6) (v:=.tuple #[.agg #[.int .u64 s0,.int .u64 s1,.int .u64 s2,.int .u64 s3],.bool true]) rfl (by kernel_rfl) (by kernel_rfl) (by kernel_rfl) (by kernel_rfl) (fun _ _ _ h=>h) HS (Or.inl ⟨by kernel_rfl,fun wx hx => ?_⟩) ?_
     ·clear HS hx;go_simp
     simp only[Act.put,List.setIfInBounds_toArray,List.set_cons_zero,List.set_cons_succ];refine aH (i:=7) (v:=.agg #[.int .u64 s0,.int .u64 s1,.int .u64 s2,.int .u64 s3]) rfl (by kernel_rfl) (by kernel_rfl) (by kernel_rfl) (by kernel_rfl) (fun _ _ _ h=>h) HS (Or.inl ⟨by kernel_rfl,fun wx hx => ?_⟩) ?_
     ·clear HS hx;go_simp
     simp only[Act.put,List.setIfInBounds_toArray,List.set_cons_zero,List.set_cons_succ];refine aH (i:=8) (v:=.bool true) rfl (by kernel_rfl) (by kernel_rfl) (by kernel_rfl) (by kernel_rfl) (fun _ _ _ h=>h) HS (Or.inl ⟨by kernel_rfl,fun wx hx => ?_⟩) ?_
     ·clear HS hx;go_simp
     simp only[Act.put,List.setIfInBounds_toArray,List.set_cons_zero,List.set_cons_succ];clear HS;refine aG (i:=9) (by kernel_rfl) rfl (fun K hK => ?_);go_simp;have HM9:=HM;have KK9:=KK;have HM':=Lib.hid (HM.out.new (v3.heap.size) 0 0 0 0 99 (by first|rfl|(simp; done)));have KK':=Lib.hid (KK.out.same ((Below.refl _ _).alloc (Nat.le_refl _) (.cells #[.int .u64 (0:Nat),.int .u64 (0:Nat),.int .u64 (0:Nat),.int .u64 (0:Nat)] 99)));have hgk:w1.heap.size<(v3.heap.size):=by first|omega|exact KK.out.lt|(have:=KK.out.lt; simpa using this)
     have hgc:w3.heap.size<(v3.heap.size):=by first|omega|exact HM.out.lt (b:=w3.heap.size) (c0:=c0) (c1:=c1) (c2:=c2) (c3:=c3) (by simp)
     have hga:w.heap.size+1<(v3.heap.size):=by omega
     clear HM KK;have HM:=HM';have KK:=KK';clear HM' KK';have HS:=And.intro (HM.out.sub (rs':=[(w3.heap.size,c0,c1,c2,c3),(w.heap.size+1,0,0,0,0),(w.heap.size,a0,a1,a2,a3)]) (by simp)) KK.out;refine hK.out _ _ (Or.inr HS) (fun _ => ?_);clear hK K HS;have kr:=HM.out.row (b:=(v3.heap.size)) (c0:=0) (c1:=0) (c2:=0) (c3:=0) (by simp);have yl:=HM.out.lt (b:=(v3.heap.size)) (c0:=0) (c1:=0) (c2:=0) (c3:=0) (by simp);have y0:=kr.c0; have y1:=kr.c1; have y2:=kr.c2; have y3:=kr.c3; have yf:=kr.fr;clear kr;refine aG (i:=10) (by kernel_rfl) rfl (fun K hK => ?_);go_simp;have HM':=Lib.hid (HM9.out.new (v3.heap.size) s0 s1 s2 s3 99 (by first|rfl|(simp; done)));have KK':=Lib.hid (KK9.out.same ((Below.refl _ _).alloc (Nat.le_refl _) (.cells #[.int .u64 s0,.int .u64 s1,.int .u64 s2,.int .u64 s3] 99)));clear HM KK;have HM:=HM';have KK:=KK';clear HM' KK';have HS:=And.intro (HM.out.sub (rs':=[(w3.heap.size,c0,c1,c2,c3),(w.heap.size+1,0,0,0,0),(w.heap.size,a0,a1,a2,a3)]) (by simp)) KK.out;refine hK.out _ _ (Or.inr HS) (fun _ => ?_);clear hK K HS;refine aG (i:=11) (by kernel_rfl) rfl (fun K hK => ?_);go_simp;refine hK.out _ _ (Or.inl rfl) (fun _ => ?_);clear hK K;refine bK (by kernel_rfl) ?_;go_wp2_with fail
     go_meet
     exact⟨(v3.heap.size),s0,s1,s2,s3,rfl,rfl,hs,HVs,Lib.hid (HM.out.sub (by simp)),KK⟩
    ·go_simp;have HM9:=HM;have KK9:=KK;have HM':=Lib.hid (HM.out.new (v2.heap.size) 0 0 0 0 99 (by first|rfl|(simp; done)));have KK':=Lib.hid (KK.out.same ((Below.refl _ _).alloc (Nat.le_refl _) (.cells #[.int .u64 (0:Nat),.int .u64 (0:Nat),.int .u64 (0:Nat),.int .u64 (0:Nat)] 99)));have hgk:w1.heap.size<(v2.heap.size):=by first|omega|exact KK.out.lt|(have:=KK.out.lt; simpa using this)
     have hgc:w3.heap.size<(v2.heap.size):=by first|omega|exact HM.out.lt (b:=w3.heap.size) (c0:=c0) (c1:=c1) (c2:=c2) (c3:=c3) (by simp)
     have hga:w.heap.size+1<(v2.heap.size):=by omega
     clear HM KK;have HM:=HM';have KK:=KK';clear HM' KK';have HS:=And.intro (HM.out.sub (rs':=[(w3.heap.size,c0,c1,c2,c3),(w.heap.size+1,0,0,0,0),(w.heap.size,a0,a1,a2,a3)]) (by simp)) KK.out;refine hK.out _ _ (Or.inr HS) (fun _ => ?_);clear hK K HS;refine aG (i:=5) (by kernel_rfl) rfl (fun K hK => ?_);go_simp;refine (jT F hf.ok gr HRo.out (aB a0 a1 a2 a3) H T (aB c0 c1 c2 c3) w1.heap.size i0 i1 i2 i3 j0 j1 j2 j3 hi hj HVi.out HVj.out hT1 hT2 HMT.out HCY.out HS2.out _ KK.out).mono ?_
     rintro e v3 ⟨s0,s1,s2,s3,R,rfl,hs,hv,hRR,hbl⟩
     have HVs:=Lib.hid (show ∃R,aB s0 s1 s2 s3=kp F R∧R*R%F.M=aB a0 a1 a2 a3%F.M from⟨R,hv,hRR⟩);clear hv hRR;have HM':=Lib.hid (HM.out.on hbl);have KK':=Lib.hid (KK.out.same hbl);clear HM KK hbl;have HM:=HM';have KK:=KK';clear HM' KK';have HS:=And.intro (HM.out.sub (rs':=[(w3.heap.size,c0,c1,c2,c3),(w.heap.size+1,0,0,0,0),(w.heap.size,a0,a1,a2,a3)]) (by simp)) KK.out;refine hK.out _ _ (Or.inr HS) (fun _ => ?_);clear hK K HS;have HS:=And.intro (HM.out.sub (rs':=[(w3.heap.size,c0,c1,c2,c3),(w.heap.size+1,0,0,0,0),(w.heap.size,a0,a1,a2,a3)]) (by simp)) KK.out;refine aH (i:=6) (v:=.tuple #[.agg #[.int .u64 s0,.int .u64 s1,.int .u64 s2,.int .u64 s3],.bool true]) rfl (by kernel_rfl) (by kernel_rfl) (by kernel_rfl) (by kernel_rfl) (fun _ _ _ h=>h) HS (Or.inl ⟨by kernel_rfl,fun wx hx => ?_⟩) ?_
     ·clear HS hx;go_simp
     simp only[Act.put,List.setIfInBounds_toArray,List.set_cons_zero,List.set_cons_succ];refine aH (i:=7) (v:=.agg #[.int .u64 s0,.int .u64 s1,.int .u64 s2,.int .u64 s3]) rfl (by kernel_rfl) (by kernel_rfl) (by kernel_rfl) (by kernel_rfl) (fun _ _ _ h=>h) HS (Or.inl ⟨by kernel_rfl,fun wx hx => ?_⟩) ?_
     ·clear HS hx;go_simp
     simp only[Act.put,List.setIfInBounds_toArray,List.set_cons_zero,List.set_cons_succ];refine aH (i:=8) (v:=.bool true) rfl (by kernel_rfl) (by kernel_rfl) (by kernel_rfl) (by kernel_rfl) (fun _ _ _ h=>h) HS (Or.inl ⟨by kernel_rfl,fun wx hx => ?_⟩) ?_
     ·clear HS hx;go_simp
     simp only[Act.put,List.setIfInBounds_toArray,List.set_cons_zero,List.set_cons_succ];clear HS;have kr:=HM.out.row (b:=(v2.heap.size)) (c0:=0) (c1:=0) (c2:=0) (c3:=0) (by simp);have yl:=HM.out.lt (b:=(v2.heap.size)) (c0:=0) (c1:=0) (c2:=0) (c3:=0) (by simp);have y0:=kr.c0; have y1:=kr.c1; have y2:=kr.c2; have y3:=kr.c3; have yf:=kr.fr;clear kr;refine aG (i:=10) (by kernel_rfl) rfl (fun K hK => ?_);go_simp;have HM':=Lib.hid (HM.out.put s0 s1 s2 s3 (by omega) (by intro r hr; simp at hr; rcases hr with rfl|rfl|rfl<;>simp<;>omega));have KK':=Lib.hid (KK.out.set4 (d:=(v2.heap.size)) (by omega) s0 s1 s2 s3);clear HM KK;have HM:=HM';have KK:=KK';clear HM' KK';have HS:=And.intro (HM.out.sub (rs':=[(w3.heap.size,c0,c1,c2,c3),(w.heap.size+1,0,0,0,0),(w.heap.size,a0,a1,a2,a3)]) (by simp)) KK.out;refine hK.out _ _ (Or.inr HS) (fun _ => ?_);clear hK K HS;refine aG (i:=11) (by kernel_rfl) rfl (fun K hK => ?_);go_simp;refine hK.out _ _ (Or.inl rfl) (fun _ => ?_);clear hK K;refine bK (by kernel_rfl) ?_;go_wp2_with fail
     go_meet
     exact⟨(v2.heap.size),s0,s1,s2,s3,rfl,rfl,hs,HVs,Lib.hid (HM.out.sub (by simp)),KK⟩
   ·go_simp;have HM9:=HM;have KK9:=KK;have HM':=Lib.hid (HM.out.new (v1.heap.size) 0 0 0 0 99 (by first|rfl|(simp; done)));have KK':=Lib.hid (KK.out.same ((Below.refl _ _).alloc (Nat.le_refl _) (.cells #[.int .u64 (0:Nat),.int .u64 (0:Nat),.int .u64 (0:Nat),.int .u64 (0:Nat)] 99)));have hgk:w1.heap.size<(v1.heap.size):=by first|omega|exact KK.out.lt|(have:=KK.out.lt; simpa using this)
    have hgc:w3.heap.size<(v1.heap.size):=by first|omega|exact HM.out.lt (b:=w3.heap.size) (c0:=c0) (c1:=c1) (c2:=c2) (c3:=c3) (by simp)
    have hga:w.heap.size+1<(v1.heap.size):=by omega
    clear HM KK;have HM:=HM';have KK:=KK';clear HM' KK';have HS:=And.intro (HM.out.sub (rs':=[(w3.heap.size,c0,c1,c2,c3),(w.heap.size+1,0,0,0,0),(w.heap.size,a0,a1,a2,a3)]) (by simp)) KK.out;refine hK.out _ _ (Or.inr HS) (fun _ => ?_);clear hK K HS;refine aG (i:=4) (by kernel_rfl) rfl (fun K hK => ?_);go_simp;refine (bL F hf.ok w1.heap.size c0 c1 c2 c3 hc _ KK.out).mono ?_
    rintro e v2 ⟨j0,j1,j2,j3,rfl,hj,hv,hbl⟩
    have HVj:=Lib.hid hv;clear hv;have HM':=Lib.hid (HM.out.on hbl);have KK':=Lib.hid (KK.out.same hbl);clear HM KK hbl;have HM:=HM';have KK:=KK';clear HM' KK';have HS:=And.intro (HM.out.sub (rs':=[(w3.heap.size,c0,c1,c2,c3),(w.heap.size+1,0,0,0,0),(w.heap.size,a0,a1,a2,a3)]) (by simp)) KK.out;refine hK.out _ _ (Or.inr HS) (fun _ => ?_);clear hK K HS;refine aG (i:=5) (by kernel_rfl) rfl (fun K hK => ?_);go_simp;refine (jT F hf.ok gr HRo.out (aB a0 a1 a2 a3) H T (aB c0 c1 c2 c3) w1.heap.size i0 i1 i2 i3 j0 j1 j2 j3 hi hj HVi.out HVj.out hT1 hT2 HMT.out HCY.out HS2.out _ KK.out).mono ?_
    rintro e v3 ⟨s0,s1,s2,s3,R,rfl,hs,hv,hRR,hbl⟩
    have HVs:=Lib.hid (show ∃R,aB s0 s1 s2 s3=kp F R∧R*R%F.M=aB a0 a1 a2 a3%F.M from⟨R,hv,hRR⟩);clear hv hRR;have HM':=Lib.hid (HM.out.on hbl);have KK':=Lib.hid (KK.out.same hbl);clear HM KK hbl;have HM:=HM';have KK:=KK';clear HM' KK';have HS:=And.intro (HM.out.sub (rs':=[(w3.heap.size,c0,c1,c2,c3),(w.heap.size+1,0,0,0,0),(w.heap.size,a0,a1,a2,a3)]) (by simp)) KK.out;refine hK.out _ _ (Or.inr HS) (fun _ => ?_);clear hK K HS;have HS:=And.intro (HM.out.sub (rs':=[(w3.heap.size,c0,c1,c2,c3),(w.heap.size+1,0,0,0,0),(w.heap.size,a0,a1,a2,a3)]) (by simp)) KK.out;refine aH (i:=6) (v:=.tuple #[.agg #[.int .u64 s0,.int .u64 s1,.int .u64 s2,.int .u64 s3],.bool true]) rfl (by kernel_rfl) (by kernel_rfl) (by kernel_rfl) (by kernel_rfl) (fun _ _ _ h=>h) HS (Or.inl ⟨by kernel_rfl,fun wx hx => ?_⟩) ?_
    ·clear HS hx;go_simp
    simp only[Act.put,List.setIfInBounds_toArray,List.set_cons_zero,List.set_cons_succ];refine aH (i:=7) (v:=.agg #[.int .u64 s0,.int .u64 s1,.int .u64 s2,.int .u64 s3]) rfl (by kernel_rfl) (by kernel_rfl) (by kernel_rfl) (by kernel_rfl) (fun _ _ _ h=>h) HS (Or.inl ⟨by kernel_rfl,fun wx hx => ?_⟩) ?_
    ·clear HS hx;go_simp
    simp only[Act.put,List.setIfInBounds_toArray,List.set_cons_zero,List.set_cons_succ];refine aH (i:=8) (v:=.bool true) rfl (by kernel_rfl) (by kernel_rfl) (by kernel_rfl) (by kernel_rfl) (fun _ _ _ h=>h) HS (Or.inl ⟨by kernel_rfl,fun wx hx => ?_⟩) ?_
    ·clear HS hx;go_simp
    simp only[Act.put,List.setIfInBounds_toArray,List.set_cons_zero,List.set_cons_succ];clear HS;have kr:=HM.out.row (b:=(v1.heap.size)) (c0:=0) (c1:=0) (c2:=0) (c3:=0) (by simp);have yl:=HM.out.lt (b:=(v1.heap.size)) (c0:=0) (c1:=0) (c2:=0) (c3:=0) (by simp);have y0:=kr.c0; have y1:=kr.c1; have y2:=kr.c2; have y3:=kr.c3; have yf:=kr.fr;clear kr;refine aG (i:=10) (by kernel_rfl) rfl (fun K hK => ?_);go_simp;have HM':=Lib.hid (HM.out.put s0 s1 s2 s3 (by omega) (by intro r hr; simp at hr; rcases hr with rfl|rfl|rfl<;>simp<;>omega));have KK':=Lib.hid (KK.out.set4 (d:=(v1.heap.size)) (by omega) s0 s1 s2 s3);clear HM KK;have HM:=HM';have KK:=KK';clear HM' KK';have HS:=And.intro (HM.out.sub (rs':=[(w3.heap.size,c0,c1,c2,c3),(w.heap.size+1,0,0,0,0),(w.heap.size,a0,a1,a2,a3)]) (by simp)) KK.out;refine hK.out _ _ (Or.inr HS) (fun _ => ?_);clear hK K HS;refine aG (i:=11) (by kernel_rfl) rfl (fun K hK => ?_);go_simp;refine hK.out _ _ (Or.inl rfl) (fun _ => ?_);clear hK K;refine bK (by kernel_rfl) ?_;go_wp2_with fail
    go_meet
    exact⟨(v1.heap.size),s0,s1,s2,s3,rfl,rfl,hs,HVs,Lib.hid (HM.out.sub (by simp)),KK⟩
  ·go_simp;have HM9:=HM;have KK9:=KK;have HM':=Lib.hid (HM.out.new (w3.heap.size+1) 0 0 0 0 99 (by first|rfl|(simp; done)));have KK':=Lib.hid (KK.out.same ((Below.refl _ _).alloc (Nat.le_refl _) (.cells #[.int .u64 (0:Nat),.int .u64 (0:Nat),.int .u64 (0:Nat),.int .u64 (0:Nat)] 99)));have hgk:w1.heap.size<(w3.heap.size+1):=by first|omega|exact KK.out.lt|(have:=KK.out.lt; simpa using this)
   have hgc:w3.heap.size<(w3.heap.size+1):=by first|omega|exact HM.out.lt (b:=w3.heap.size) (c0:=c0) (c1:=c1) (c2:=c2) (c3:=c3) (by simp)
   have hga:w.heap.size+1<(w3.heap.size+1):=by omega
   clear HM KK;have HM:=HM';have KK:=KK';clear HM' KK';have HS:=And.intro (HM.out.sub (rs':=[(w3.heap.size,c0,c1,c2,c3),(w.heap.size+1,0,0,0,0),(w.heap.size,a0,a1,a2,a3)]) (by simp)) KK.out;refine hK.out _ _ (Or.inr HS) (fun _ => ?_);clear hK K HS;refine aG (i:=1) (by kernel_rfl) rfl (fun K hK => ?_);go_simp;refine (bL F hf.ok w1.heap.size a0 a1 a2 a3 ha _ KK.out).mono ?_
   rintro e v1 ⟨i0,i1,i2,i3,rfl,hi,hv,hbl⟩
   have HVi:=Lib.hid hv;clear hv;have HM':=Lib.hid (HM.out.on hbl);have KK':=Lib.hid (KK.out.same hbl);clear HM KK hbl;have HM:=HM';have KK:=KK';clear HM' KK';have HS:=And.intro (HM.out.sub (rs':=[(w3.heap.size,c0,c1,c2,c3),(w.heap.size+1,0,0,0,0),(w.heap.size,a0,a1,a2,a3)]) (by simp)) KK.out;refine hK.out _ _ (Or.inr HS) (fun _ => ?_);clear hK K HS;refine aG (i:=4) (by kernel_rfl) rfl (fun K hK => ?_);go_simp;refine (bL F hf.ok w1.heap.size c0 c1 c2 c3 hc _ KK.out).mono ?_
   rintro e v2 ⟨j0,j1,j2,j3,rfl,hj,hv,hbl⟩
   have HVj:=Lib.hid hv;clear hv;have HM':=Lib.hid (HM.out.on hbl);have KK':=Lib.hid (KK.out.same hbl);clear HM KK hbl;have HM:=HM';have KK:=KK';clear HM' KK';have HS:=And.intro (HM.out.sub (rs':=[(w3.heap.size,c0,c1,c2,c3),(w.heap.size+1,0,0,0,0),(w.heap.size,a0,a1,a2,a3)]) (by simp)) KK.out;refine hK.out _ _ (Or.inr HS) (fun _ => ?_);clear hK K HS;refine aG (i:=5) (by kernel_rfl) rfl (fun K hK => ?_);go_simp;refine (jT F hf.ok gr HRo.out (aB a0 a1 a2 a3) H T (aB c0 c1 c2 c3) w1.heap.size i0 i1 i2 i3 j0 j1 j2 j3 hi hj HVi.out HVj.out hT1 hT2 HMT.out HCY.out HS2.out _ KK.out).mono ?_
   rintro e v3 ⟨s0,s1,s2,s3,R,rfl,hs,hv,hRR,hbl⟩
   have HVs:=Lib.hid (show ∃R,aB s0 s1 s2 s3=kp F R∧R*R%F.M=aB a0 a1 a2 a3%F.M from⟨R,hv,hRR⟩);clear hv hRR;have HM':=Lib.hid (HM.out.on hbl);have KK':=Lib.hid (KK.out.same hbl);clear HM KK hbl;have HM:=HM';have KK:=KK';clear HM' KK';have HS:=And.intro (HM.out.sub (rs':=[(w3.heap.size,c0,c1,c2,c3),(w.heap.size+1,0,0,0,0),(w.heap.size,a0,a1,a2,a3)]) (by simp)) KK.out;refine hK.out _ _ (Or.inr HS) (fun _ => ?_);clear hK K HS;have HS:=And.intro (HM.out.sub (rs':=[(w3.heap.size,c0,c1,c2,c3),(w.heap.size+1,0,0,0,0),(w.heap.size,a0,a1,a2,a3)]) (by simp)) KK.out;refine aH (i:=6) (v:=.tuple #[.agg #[.int .u64 s0,.int .u64 s1,.int .u64 s2,.int .u64 s3],.bool true]) rfl (by kernel_rfl) (by kernel_rfl) (by kernel_rfl) (by kernel_rfl) (fun _ _ _ h=>h) HS (Or.inl ⟨by kernel_rfl,fun wx hx => ?_⟩) ?_
   ·clear HS hx;go_simp
   simp only[Act.put,List.setIfInBounds_toArray,List.set_cons_zero,List.set_cons_succ];refine aH (i:=7) (v:=.agg #[.int .u64 s0,.int .u64 s1,.int .u64 s2,.int .u64 s3]) rfl (by kernel_rfl) (by kernel_rfl) (by kernel_rfl) (by kernel_rfl) (fun _ _ _ h=>h) HS (Or.inl ⟨by kernel_rfl,fun wx hx => ?_⟩) ?_
   ·clear HS hx;go_simp
   simp only[Act.put,List.setIfInBounds_toArray,List.set_cons_zero,List.set_cons_succ];refine aH (i:=8) (v:=.bool true) rfl (by kernel_rfl) (by kernel_rfl) (by kernel_rfl) (by kernel_rfl) (fun _ _ _ h=>h) HS (Or.inl ⟨by kernel_rfl,fun wx hx => ?_⟩) ?_
   ·clear HS hx;go_simp
   simp only[Act.put,List.setIfInBounds_toArray,List.set_cons_zero,List.set_cons_succ];clear HS;have kr:=HM.out.row (b:=(w3.heap.size+1)) (c0:=0) (c1:=0) (c2:=0) (c3:=0) (by simp);have yl:=HM.out.lt (b:=(w3.heap.size+1)) (c0:=0) (c1:=0) (c2:=0) (c3:=0) (by simp);have y0:=kr.c0; have y1:=kr.c1; have y2:=kr.c2; have y3:=kr.c3; have yf:=kr.fr;clear kr;refine aG (i:=10) (by kernel_rfl) rfl (fun K hK => ?_);go_simp;have HM':=Lib.hid (HM.out.put s0 s1 s2 s3 (by omega) (by intro r hr; simp at hr; rcases hr with rfl|rfl|rfl<;>simp<;>omega));have KK':=Lib.hid (KK.out.set4 (d:=(w3.heap.size+1)) (by omega) s0 s1 s2 s3);clear HM KK;have HM:=HM';have KK:=KK';clear HM' KK';have HS:=And.intro (HM.out.sub (rs':=[(w3.heap.size,c0,c1,c2,c3),(w.heap.size+1,0,0,0,0),(w.heap.size,a0,a1,a2,a3)]) (by simp)) KK.out;refine hK.out _ _ (Or.inr HS) (fun _ => ?_);clear hK K HS;refine aG (i:=11) (by kernel_rfl) rfl (fun K hK => ?_);go_simp;refine hK.out _ _ (Or.inl rfl) (fun _ => ?_);clear hK K;refine bK (by kernel_rfl) ?_;go_wp2_with fail
   go_meet
   exact⟨(w3.heap.size+1),s0,s1,s2,s3,rfl,rfl,hs,HVs,Lib.hid (HM.out.sub (by simp)),KK⟩
 case rest =>
  obtain⟨gb,s0,s1,s2,s3,rfl,rfl,hs,HVs,HM',KK'⟩:=hcut;clear HM KK;have HM:=HM';have KK:=KK';clear HM' KK';obtain⟨R,hR1,hR2⟩:=HVs.out;have HR1:=Lib.hid hR1;have HR2:=Lib.hid hR2;clear hR1 hR2 HVs;have kr:=HM.out.row (b:=gb) (c0:=s0) (c1:=s1) (c2:=s2) (c3:=s3) (by simp);have x0:=kr.c0; have x1:=kr.c1; have x2:=kr.c2; have x3:=kr.c3;clear kr;have xl:=HM.out.lt (b:=gb) (c0:=s0) (c1:=s1) (c2:=s2) (c3:=s3) (by simp);go_wp2_with fail;refine (AU F hf.ok w1.heap.size s0 s1 s2 s3 hs _ KK.out).mono ?_
  rintro e w5 ⟨u0,u1,u2,u3,rfl,hu,hv,hbl⟩
  have HVu:=Lib.hid (show aB u0 u1 u2 u3=R%F.M by rw[hv,HR1.out,←dL,wJ hf.ok _ (Nat.mod_lt _ hf.ok.pos)]);have lu:aB u0 u1 u2 u3<F.M:=by rw[HVu.out]; exact Nat.mod_lt _ hf.ok.pos
  have HQ:=Lib.hid (show aB u0 u1 u2 u3*aB u0 u1 u2 u3%F.M=aB a0 a1 a2 a3 by rw[HVu.out,←Nat.mul_mod,HR2.out,Nat.mod_eq_of_lt la]);clear hv;have HM':=Lib.hid (HM.out.on hbl);have KK':=Lib.hid (KK.out.same hbl);have zk:=KK'.out.lt;clear HM KK hbl;have HM:=HM';have KK:=KK';clear HM' KK';have Hlu:=Lib.hid lu;clear lu zk x0 x1 x2 x3 xl;have wz5:w1.heap.size<w5.heap.size:=KK.out.lt;have wz6:w.heap.size+1<w5.heap.size:=HM.out.lt (b:=w.heap.size+1) (c0:=0) (c1:=0) (c2:=0) (c3:=0) (by simp);have HM':=Lib.hid ((HM.out.new w5.heap.size u0 u1 u2 u3 24 rfl).sub (rs':=[(w5.heap.size,u0,u1,u2,u3),(w.heap.size+1,0,0,0,0)]) (by simp));have KK':=Lib.hid (KK.out.same ((Below.refl _ _).alloc (Nat.le_refl _) (.cells #[.int .u64 u0,.int .u64 u1,.int .u64 u2,.int .u64 u3] 24)));clear HM KK;have HM:=HM';have KK:=KK';clear HM' KK';go_wp2_with fail;refine (iX F hf.ok w1.heap.size u0 u1 u2 u3 hu Hlu.out _ KK.out).mono ?_
  rintro e w6 ⟨he,hbl⟩
  have HM':=Lib.hid (HM.out.on hbl);have KK':=Lib.hid (KK.out.same hbl);clear HM KK hbl;have HM:=HM';have KK:=KK';clear HM' KK';cases q:bP F.M (aB u0 u1 u2 u3)
  ·rw[q]at he;subst he;have HQ2:=Lib.hid q;clear q;have kr:=HM.out.row (b:=w5.heap.size) (c0:=u0) (c1:=u1) (c2:=u2) (c3:=u3) (by simp);have x0:=kr.c0; have x1:=kr.c1; have x2:=kr.c2; have x3:=kr.c3;clear kr;have xl:=HM.out.lt (b:=w5.heap.size) (c0:=u0) (c1:=u1) (c2:=u2) (c3:=u3) (by simp);go_wp2_with fail;refine (hJ F hf.ok w1.heap.size 0 0 0 0 u0 u1 u2 u3 CK hu hf.ok.pos Hlu.out _ KK.out).mono ?_
   rintro e w7 ⟨n0,n1,n2,n3,rfl,hn,hv,hbl⟩
   have HVn:=Lib.hid hv;clear hv;have HM':=Lib.hid (HM.out.on hbl);have KK':=Lib.hid (KK.out.same hbl);have zk:=KK'.out.lt;clear HM KK hbl;have HM:=HM';have KK:=KK';clear HM' KK';clear zk x0 x1 x2 x3 xl;have kr:=HM.out.row (b:=w5.heap.size) (c0:=u0) (c1:=u1) (c2:=u2) (c3:=u3) (by simp);have x0:=kr.c0; have x1:=kr.c1; have x2:=kr.c2; have x3:=kr.c3; have xf:=kr.fr;clear kr;have xl:=HM.out.lt (b:=w5.heap.size) (c0:=u0) (c1:=u1) (c2:=u2) (c3:=u3) (by simp);have kr:=HM.out.row (b:=w.heap.size+1) (c0:=0) (c1:=0) (c2:=0) (c3:=0) (by simp);have y0:=kr.c0; have y1:=kr.c1; have y2:=kr.c2; have y3:=kr.c3; have yf:=kr.fr;clear kr;have yl:=HM.out.lt (b:=w.heap.size+1) (c0:=0) (c1:=0) (c2:=0) (c3:=0) (by simp);have HM':=Lib.hid (HM.out.put n0 n1 n2 n3 (by omega) (by intro r hr; simp at hr; rcases hr with rfl; simp; omega));have ne1:¬w.heap.size+1=w5.heap.size:=by omega
   clear HM;have HM:=HM';clear HM';go_wp2_with fail;refine bodyPost_ret (v:=.tuple #[.agg #[.int .u64 n0,.int .u64 n1,.int .u64 n2,.int .u64 n3],.int .i64 0]) (by simp[results,results84,go_sem, *]) rfl ?_;obtain⟨v1,v2,v3⟩:=LC hf.ok Hlu.out HQ2.out;refine⟨_,⟨_,_,_,_,rfl,hn,HVn.out,?_⟩,?_,v2,v3⟩
   ·have HB:=HM.out.1;unfold set4 at HB;exact aW HB (by omega) _ _ _ _
   ·rw[show aB 0 0 0 0=0 from rfl,v1,HQ.out]
  ·rw[q]at he;subst he;have HQ2:=Lib.hid q;clear q;have kr:=HM.out.row (b:=w5.heap.size) (c0:=u0) (c1:=u1) (c2:=u2) (c3:=u3) (by simp);have x0:=kr.c0; have x1:=kr.c1; have x2:=kr.c2; have x3:=kr.c3;clear kr;have xl:=HM.out.lt (b:=w5.heap.size) (c0:=u0) (c1:=u1) (c2:=u2) (c3:=u3) (by simp);have kr:=HM.out.row (b:=w.heap.size+1) (c0:=0) (c1:=0) (c2:=0) (c3:=0) (by simp);have y0:=kr.c0; have y1:=kr.c1; have y2:=kr.c2; have y3:=kr.c3; have yf:=kr.fr;clear kr;have yl:=HM.out.lt (b:=w.heap.size+1) (c0:=0) (c1:=0) (c2:=0) (c3:=0) (by simp);go_wp2_with fail;refine bodyPost_ret (v:=.tuple #[.agg #[.int .u64 u0,.int .u64 u1,.int .u64 u2,.int .u64 u3],.int .i64 0]) (by simp[results,results84,go_sem, *]) rfl ?_;refine⟨_,⟨_,_,_,_,rfl,hu,rfl,?_⟩,HQ.out,Hlu.out,HQ2.out⟩;exact aW HM.out.1 (by omega) _ _ _ _
set_option maxHeartbeats 2000000 in
theorem uG (f:Int) (F:FC) (hf:FieldIs f F) (a0 a1 a2 a3:Nat) (ha:bQ a0 a1 a2 a3) (la:aB a0 a1 a2 a3<F.M) (hz:aB a0 a1 a2 a3≠0) (hs2:aB a0 a1 a2 a3^(F.M/2)%F.M≠1) (w:World) :
  Calls prog 84 #[.int .i64 f,.agg #[.int .u64 a0,.int .u64 a1,.int .u64 a2,.int .u64 a3]] w (JC 23 0 w):=by
 have HE:=Lib.hid (show ∀w,(Op.equalIn 10000 24 (.agg #[.int .u64 a0,.int .u64 a1,.int .u64 a2,.int .u64 a3]) (.agg #[.int .u64 0,.int .u64 0,.int .u64 0,.int .u64 0])).run prog w=.ok false w from fun w=>by
  have h:=kG 9998 a0 a1 a2 a3 0 0 0 0 w;rw[show rR a0 a1 a2 a3 0 0 0 0=false from pZ (fun q=>hz (((iQ ha CK).1 q).trans rfl))]at h;exact h)
 have hG:=kH;have HS2:=Lib.hid hs2;have HZ:=Lib.hid hz;clear hz hs2
 go_enter func84,ntmps84
 go_wp2_with fail;refine (bU f F hf _).mono ?_
 rintro e w1 ⟨rfl,hbl⟩
 have M1:=(((Mem.nil w).new (w.heap.size) a0 a1 a2 a3 24 (by simp)).new (w.heap.size+1) 0 0 0 0 24 (by simp)).on hbl;clear hbl;have z0:w.heap.size<w1.heap.size:=M1.lt (c0:=a0) (c1:=a1) (c2:=a2) (c3:=a3) (by simp);have z1:w.heap.size+1<w1.heap.size:=M1.lt (c0:=0) (c1:=0) (c2:=0) (c3:=0) (by simp);have HM:=Lib.hid (M1.on ((Below.refl _ _).alloc (Nat.le_refl _) (.cells #[.int .u64 F.m0,.int .u64 F.m1,.int .u64 F.m2,.int .u64 F.m3,.int .u64 F.inv,.int .u64 F.s0,.int .u64 F.s1,.int .u64 F.s2,.int .u64 F.s3] 101)));have KK:=Lib.hid (KIs.new w1 F 101);have kr:=M1.row (b:=w.heap.size) (c0:=a0) (c1:=a1) (c2:=a2) (c3:=a3) (by simp);have x0:=kr.c0; have x1:=kr.c1; have x2:=kr.c2; have x3:=kr.c3;clear kr;have xl:=M1.lt (b:=w.heap.size) (c0:=a0) (c1:=a1) (c2:=a2) (c3:=a3) (by simp);go_wp2_with fail;refine (bG F hf.ok w1.heap.size a0 a1 a2 a3 ha _ KK.out).mono ?_
 rintro e w2 ⟨he,hbl⟩
 rw[show pR (aB a0 a1 a2 a3) F.M=true from decide_eq_true la]at he;subst he;have HM':=Lib.hid (HM.out.on hbl);have KK':=Lib.hid (KK.out.same hbl);have zk:=KK'.out.lt;clear HM KK hbl M1;have HM:=HM';have KK:=KK';clear HM' KK';clear x0 x1 x2 x3 xl zk;have kr:=HM.out.row (b:=w.heap.size) (c0:=a0) (c1:=a1) (c2:=a2) (c3:=a3) (by simp);have x0:=kr.c0; have x1:=kr.c1; have x2:=kr.c2; have x3:=kr.c3;clear kr;have xl:=HM.out.lt (b:=w.heap.size) (c0:=a0) (c1:=a1) (c2:=a2) (c3:=a3) (by simp);have hE:=HE.out;go_wp2_with fail;clear hE x0 x1 x2 x3 xl;refine (lY f F hf _).mono ?_
 rintro e w3 ⟨T,H,c0,c1,c2,c3,rfl,hc,hT1,hT2,hMT,hcyc,hbl⟩
 have HMT:=Lib.hid hMT;have HCY:=Lib.hid hcyc;clear hMT hcyc;have HM':=Lib.hid (HM.out.on hbl);have KK':=Lib.hid (KK.out.same hbl);have zk:=KK'.out.lt;clear HM KK hbl;have HM:=HM';have KK:=KK';clear HM' KK';clear zk;have wz:w1.heap.size<w3.heap.size:=KK.out.lt;have HM':=Lib.hid (HM.out.new w3.heap.size c0 c1 c2 c3 24 rfl);have KK':=Lib.hid (KK.out.same ((Below.refl _ _).alloc (Nat.le_refl _) (.cells #[.int .u64 c0,.int .u64 c1,.int .u64 c2,.int .u64 c3] 24)));clear HM KK;have HM:=HM';have KK:=KK';clear HM' KK';clear HE hG
 go_upto_region 7 with fail
 go_cut [10,11] (fun s10 s11 wx=>∃gb s0 s1 s2 s3:Nat,s10=.pointer (some ⟨gb,0,none⟩)∧s11=.bool false∧bQ s0 s1 s2 s3∧True∧Hid (Mem w wx [(gb,s0,s1,s2,s3),(w.heap.size+1,0,0,0,0)])∧Hid (KIs wx w1.heap.size F))
 case first =>
  obtain⟨gr,hroot⟩:=hf.root;have HRo:=Lib.hid hroot;clear hroot;refine eF (fun wx=>Mem w wx [(w3.heap.size,c0,c1,c2,c3),(w.heap.size+1,0,0,0,0),(w.heap.size,a0,a1,a2,a3)]∧KIs wx w1.heap.size F) 11 (by kernel_rfl) ?_;have HM':=Lib.hid (HM.out.drewN 1);have KK':=Lib.hid (KK.out.drewN 1);clear HM KK;have HM:=HM';have KK:=KK';clear HM' KK';have HS:=And.intro (HM.out.sub (rs':=[(w3.heap.size,c0,c1,c2,c3),(w.heap.size+1,0,0,0,0),(w.heap.size,a0,a1,a2,a3)]) (by simp)) KK.out;refine aH (i:=0) (v:=.agg #[.int .u64 a0,.int .u64 a1,.int .u64 a2,.int .u64 a3]) rfl (by kernel_rfl) (by kernel_rfl) (by kernel_rfl) (by kernel_rfl) (fun _ _ _ h=>h) HS (Or.inl ⟨by kernel_rfl,fun wx hx => ?_⟩) ?_
  ·have kr:=hx.1.row (b:=w.heap.size) (c0:=a0) (c1:=a1) (c2:=a2) (c3:=a3) (by simp);have x0:=kr.c0; have x1:=kr.c1; have x2:=kr.c2; have x3:=kr.c3;clear kr HS hx;go_simp
  simp only[Act.put,List.setIfInBounds_toArray,List.set_cons_zero,List.set_cons_succ];refine aH (i:=2) (v:=.int .i64 (T:Nat)) rfl (by kernel_rfl) (by kernel_rfl) (by kernel_rfl) (by kernel_rfl) (fun _ _ _ h=>h) HS (Or.inl ⟨by kernel_rfl,fun wx hx => ?_⟩) ?_
  ·clear HS hx;go_simp
  simp only[Act.put,List.setIfInBounds_toArray,List.set_cons_zero,List.set_cons_succ];refine aH (i:=3) (v:=.agg #[.int .u64 c0,.int .u64 c1,.int .u64 c2,.int .u64 c3]) rfl (by kernel_rfl) (by kernel_rfl) (by kernel_rfl) (by kernel_rfl) (fun _ _ _ h=>h) HS (Or.inl ⟨by kernel_rfl,fun wx hx => ?_⟩) ?_
  ·have kr:=hx.1.row (b:=w3.heap.size) (c0:=c0) (c1:=c1) (c2:=c2) (c3:=c3) (by simp);have x0:=kr.c0; have x1:=kr.c1; have x2:=kr.c2; have x3:=kr.c3;clear kr HS hx;go_simp
  simp only[Act.put,List.setIfInBounds_toArray,List.set_cons_zero,List.set_cons_succ];clear HS;refine dH (i:=1) (j:=9) (by kernel_rfl) rfl rfl (fun K hK => ?_) (fun K hK => ?_)
  ·go_simp;refine (bL F hf.ok w1.heap.size a0 a1 a2 a3 ha _ KK.out).mono ?_
   rintro e v1 ⟨i0,i1,i2,i3,rfl,hi,hv,hbl⟩
   have HVi:=Lib.hid hv;clear hv;have HM':=Lib.hid (HM.out.on hbl);have KK':=Lib.hid (KK.out.same hbl);clear HM KK hbl;have HM:=HM';have KK:=KK';clear HM' KK';have HS:=And.intro (HM.out.sub (rs':=[(w3.heap.size,c0,c1,c2,c3),(w.heap.size+1,0,0,0,0),(w.heap.size,a0,a1,a2,a3)]) (by simp)) KK.out;refine hK.out _ _ (Or.inr HS) (fun _ => ?_);clear hK K HS;refine dH (i:=4) (j:=9) (by kernel_rfl) rfl rfl (fun K hK => ?_) (fun K hK => ?_)
   ·go_simp;refine (bL F hf.ok w1.heap.size c0 c1 c2 c3 hc _ KK.out).mono ?_
    rintro e v2 ⟨j0,j1,j2,j3,rfl,hj,hv,hbl⟩
    have HVj:=Lib.hid hv;clear hv;have HM':=Lib.hid (HM.out.on hbl);have KK':=Lib.hid (KK.out.same hbl);clear HM KK hbl;have HM:=HM';have KK:=KK';clear HM' KK';have HS:=And.intro (HM.out.sub (rs':=[(w3.heap.size,c0,c1,c2,c3),(w.heap.size+1,0,0,0,0),(w.heap.size,a0,a1,a2,a3)]) (by simp)) KK.out;refine hK.out _ _ (Or.inr HS) (fun _ => ?_);clear hK K HS;refine dH (i:=5) (j:=9) (by kernel_rfl) rfl rfl (fun K hK => ?_) (fun K hK => ?_)
    ·go_simp;refine (mM F hf.ok gr HRo.out (aB a0 a1 a2 a3) H T (aB c0 c1 c2 c3) w1.heap.size i0 i1 i2 i3 j0 j1 j2 j3 hi hj HVi.out HVj.out hT1 hT2 HMT.out HS2.out _ KK.out).mono ?_
     rintro e v3 ⟨rfl,hbl⟩
     have HM':=Lib.hid (HM.out.on hbl);have KK':=Lib.hid (KK.out.same hbl);clear HM KK hbl;have HM:=HM';have KK:=KK';clear HM' KK';have HS:=And.intro (HM.out.sub (rs':=[(w3.heap.size,c0,c1,c2,c3),(w.heap.size+1,0,0,0,0),(w.heap.size,a0,a1,a2,a3)]) (by simp)) KK.out;refine hK.out _ _ (Or.inr HS) (fun _ => ?_);clear hK K HS;have HS:=And.intro (HM.out.sub (rs':=[(w3.heap.size,c0,c1,c2,c3),(w.heap.size+1,0,0,0,0),(w.heap.size,a0,a1,a2,a3)]) (by simp)) KK.out;refine aH (i:=6) (v:=.tuple #[.agg #[.int .u64 0,.int .u64 0,.int .u64 0,.int .u64 0],.bool false]) rfl (by kernel_rfl) (by kernel_rfl) (by kernel_rfl) (by kernel_rfl) (fun _ _ _ h=>h) HS (Or.inl ⟨by kernel_rfl,fun wx hx => ?_⟩) ?_
     ·clear HS hx;go_simp
     simp only[Act.put,List.setIfInBounds_toArray,List.set_cons_zero,List.set_cons_succ];refine aH (i:=7) (v:=.agg #[.int .u64 0,.int .u64 0,.int .u64 0,.int .u64 0]) rfl (by kernel_rfl) (by kernel_rfl) (by kernel_rfl) (by kernel_rfl) (fun _ _ _ h=>h) HS (Or.inl ⟨by kernel_rfl,fun wx hx => ?_⟩) ?_
     ·clear HS hx;go_simp
     simp only[Act.put,List.setIfInBounds_toArray,List.set_cons_zero,List.set_cons_succ];refine aH (i:=8) (v:=.bool false) rfl (by kernel_rfl) (by kernel_rfl) (by kernel_rfl) (by kernel_rfl) (fun _ _ _ h=>h) HS (Or.inl ⟨by kernel_rfl,fun wx hx => ?_⟩) ?_
     ·clear HS hx;go_simp
     simp only[Act.put,List.setIfInBounds_toArray,List.set_cons_zero,List.set_cons_succ];clear HS;refine aG (i:=9) (by kernel_rfl) rfl (fun K hK => ?_);go_simp;have HM9:=HM;have KK9:=KK;have HM':=Lib.hid (HM.out.new (v3.heap.size) 0 0 0 0 99 (by first|rfl|(simp; done)));have KK':=Lib.hid (KK.out.same ((Below.refl _ _).alloc (Nat.le_refl _) (.cells #[.int .u64 (0:Nat),.int .u64 (0:Nat),.int .u64 (0:Nat),.int .u64 (0:Nat)] 99)));have hgk:w1.heap.size<(v3.heap.size):=by first|omega|exact KK.out.lt|(have:=KK.out.lt; simpa using this)
     have hgc:w3.heap.size<(v3.heap.size):=by first|omega|exact HM.out.lt (b:=w3.heap.size) (c0:=c0) (c1:=c1) (c2:=c2) (c3:=c3) (by simp)
     have hga:w.heap.size+1<(v3.heap.size):=by omega
     clear HM KK;have HM:=HM';have KK:=KK';clear HM' KK';have HS:=And.intro (HM.out.sub (rs':=[(w3.heap.size,c0,c1,c2,c3),(w.heap.size+1,0,0,0,0),(w.heap.size,a0,a1,a2,a3)]) (by simp)) KK.out;refine hK.out _ _ (Or.inr HS) (fun _ => ?_);clear hK K HS;have kr:=HM.out.row (b:=(v3.heap.size)) (c0:=0) (c1:=0) (c2:=0) (c3:=0) (by simp);have yl:=HM.out.lt (b:=(v3.heap.size)) (c0:=0) (c1:=0) (c2:=0) (c3:=0) (by simp);have y0:=kr.c0; have y1:=kr.c1; have y2:=kr.c2; have y3:=kr.c3; have yf:=kr.fr;clear kr;refine aG (i:=10) (by kernel_rfl) rfl (fun K hK => ?_);go_simp;have HM':=Lib.hid (HM9.out.new (v3.heap.size) 0 0 0 0 99 (by first|rfl|(simp; done)));have KK':=Lib.hid (KK9.out.same ((Below.refl _ _).alloc (Nat.le_refl _) (.cells #[.int .u64 0,.int .u64 0,.int .u64 0,.int .u64 0] 99)));clear HM KK;have HM:=HM';have KK:=KK';clear HM' KK';have HS:=And.intro (HM.out.sub (rs':=[(w3.heap.size,c0,c1,c2,c3),(w.heap.size+1,0,0,0,0),(w.heap.size,a0,a1,a2,a3)]) (by simp)) KK.out;refine hK.out _ _ (Or.inr HS) (fun _ => ?_);clear hK K HS;refine aG (i:=11) (by kernel_rfl) rfl (fun K hK => ?_);go_simp;refine hK.out _ _ (Or.inl rfl) (fun _ => ?_);clear hK K;refine bK (by kernel_rfl) ?_;go_wp2_with fail
     go_meet
     exact⟨(v3.heap.size),0,0,0,0,rfl,rfl,CK,trivial,Lib.hid (HM.out.sub (by simp)),KK⟩
    ·go_simp;have HM9:=HM;have KK9:=KK;have HM':=Lib.hid (HM.out.new (v2.heap.size) 0 0 0 0 99 (by first|rfl|(simp; done)));have KK':=Lib.hid (KK.out.same ((Below.refl _ _).alloc (Nat.le_refl _) (.cells #[.int .u64 (0:Nat),.int .u64 (0:Nat),.int .u64 (0:Nat),.int .u64 (0:Nat)] 99)));have hgk:w1.heap.size<(v2.heap.size):=by first|omega|exact KK.out.lt|(have:=KK.out.lt; simpa using this)
     have hgc:w3.heap.size<(v2.heap.size):=by first|omega|exact HM.out.lt (b:=w3.heap.size) (c0:=c0) (c1:=c1) (c2:=c2) (c3:=c3) (by simp)
     have hga:w.heap.size+1<(v2.heap.size):=by omega
     clear HM KK;have HM:=HM';have KK:=KK';clear HM' KK';have HS:=And.intro (HM.out.sub (rs':=[(w3.heap.size,c0,c1,c2,c3),(w.heap.size+1,0,0,0,0),(w.heap.size,a0,a1,a2,a3)]) (by simp)) KK.out;refine hK.out _ _ (Or.inr HS) (fun _ => ?_);clear hK K HS;refine aG (i:=5) (by kernel_rfl) rfl (fun K hK => ?_);go_simp;refine (mM F hf.ok gr HRo.out (aB a0 a1 a2 a3) H T (aB c0 c1 c2 c3) w1.heap.size i0 i1 i2 i3 j0 j1 j2 j3 hi hj HVi.out HVj.out hT1 hT2 HMT.out HS2.out _ KK.out).mono ?_
     rintro e v3 ⟨rfl,hbl⟩
     have HM':=Lib.hid (HM.out.on hbl);have KK':=Lib.hid (KK.out.same hbl);clear HM KK hbl;have HM:=HM';have KK:=KK';clear HM' KK';have HS:=And.intro (HM.out.sub (rs':=[(w3.heap.size,c0,c1,c2,c3),(w.heap.size+1,0,0,0,0),(w.heap.size,a0,a1,a2,a3)]) (by simp)) KK.out;refine hK.out _ _ (Or.inr HS) (fun _ => ?_);clear hK K HS;have HS:=And.intro (HM.out.sub (rs':=[(w3.heap.size,c0,c1,c2,c3),(w.heap.size+1,0,0,0,0),(w.heap.size,a0,a1,a2,a3)]) (by simp)) KK.out;refine aH (i:=6) (v:=.tuple #[.agg #[.int .u64 0,.int .u64 0,.int .u64 0,.int .u64 0],.bool false]) rfl (by kernel_rfl) (by kernel_rfl) (by kernel_rfl) (by kernel_rfl) (fun _ _ _ h=>h) HS (Or.inl ⟨by kernel_rfl,fun wx hx => ?_⟩) ?_
     ·clear HS hx;go_simp
     simp only[Act.put,List.setIfInBounds_toArray,List.set_cons_zero,List.set_cons_succ];refine aH (i:=7) (v:=.agg #[.int .u64 0,.int .u64 0,.int .u64 0,.int .u64 0]) rfl (by kernel_rfl) (by kernel_rfl) (by kernel_rfl) (by kernel_rfl) (fun _ _ _ h=>h) HS (Or.inl ⟨by kernel_rfl,fun wx hx => ?_⟩) ?_
     ·clear HS hx;go_simp
     simp only[Act.put,List.setIfInBounds_toArray,List.set_cons_zero,List.set_cons_succ];refine aH (i:=8) (v:=.bool false) rfl (by kernel_rfl) (by kernel_rfl) (by kernel_rfl) (by kernel_rfl) (fun _ _ _ h=>h) HS (Or.inl ⟨by kernel_rfl,fun wx hx => ?_⟩) ?_
     ·clear HS hx;go_simp
     simp only[Act.put,List.setIfInBounds_toArray,List.set_cons_zero,List.set_cons_succ];clear HS;have kr:=HM.out.row (b:=(v2.heap.size)) (c0:=0) (c1:=0) (c2:=0) (c3:=0) (by simp);have yl:=HM.out.lt (b:=(v2.heap.size)) (c0:=0) (c1:=0) (c2:=0) (c3:=0) (by simp);have y0:=kr.c0; have y1:=kr.c1; have y2:=kr.c2; have y3:=kr.c3; have yf:=kr.fr;clear kr;refine aG (i:=10) (by kernel_rfl) rfl (fun K hK => ?_);go_simp;have HM':=Lib.hid (HM.out.put 0 0 0 0 (by omega) (by intro r hr; simp at hr; rcases hr with rfl|rfl|rfl<;>simp<;>omega));have KK':=Lib.hid (KK.out.set4 (d:=(v2.heap.size)) (by omega) 0 0 0 0);clear HM KK;have HM:=HM';have KK:=KK';clear HM' KK';have HS:=And.intro (HM.out.sub (rs':=[(w3.heap.size,c0,c1,c2,c3),(w.heap.size+1,0,0,0,0),(w.heap.size,a0,a1,a2,a3)]) (by simp)) KK.out;refine hK.out _ _ (Or.inr HS) (fun _ => ?_);clear hK K HS;refine aG (i:=11) (by kernel_rfl) rfl (fun K hK => ?_);go_simp;refine hK.out _ _ (Or.inl rfl) (fun _ => ?_);clear hK K;refine bK (by kernel_rfl) ?_;go_wp2_with fail
     go_meet
     exact⟨(v2.heap.size),0,0,0,0,rfl,rfl,CK,trivial,Lib.hid (HM.out.sub (by simp)),KK⟩
   ·go_simp;have HM9:=HM;have KK9:=KK;have HM':=Lib.hid (HM.out.new (v1.heap.size) 0 0 0 0 99 (by first|rfl|(simp; done)));have KK':=Lib.hid (KK.out.same ((Below.refl _ _).alloc (Nat.le_refl _) (.cells #[.int .u64 (0:Nat),.int .u64 (0:Nat),.int .u64 (0:Nat),.int .u64 (0:Nat)] 99)));have hgk:w1.heap.size<(v1.heap.size):=by first|omega|exact KK.out.lt|(have:=KK.out.lt; simpa using this)
    have hgc:w3.heap.size<(v1.heap.size):=by first|omega|exact HM.out.lt (b:=w3.heap.size) (c0:=c0) (c1:=c1) (c2:=c2) (c3:=c3) (by simp)
    have hga:w.heap.size+1<(v1.heap.size):=by omega
    clear HM KK;have HM:=HM';have KK:=KK';clear HM' KK';have HS:=And.intro (HM.out.sub (rs':=[(w3.heap.size,c0,c1,c2,c3),(w.heap.size+1,0,0,0,0),(w.heap.size,a0,a1,a2,a3)]) (by simp)) KK.out;refine hK.out _ _ (Or.inr HS) (fun _ => ?_);clear hK K HS;refine aG (i:=4) (by kernel_rfl) rfl (fun K hK => ?_);go_simp;refine (bL F hf.ok w1.heap.size c0 c1 c2 c3 hc _ KK.out).mono ?_
    rintro e v2 ⟨j0,j1,j2,j3,rfl,hj,hv,hbl⟩
    have HVj:=Lib.hid hv;clear hv;have HM':=Lib.hid (HM.out.on hbl);have KK':=Lib.hid (KK.out.same hbl);clear HM KK hbl;have HM:=HM';have KK:=KK';clear HM' KK';have HS:=And.intro (HM.out.sub (rs':=[(w3.heap.size,c0,c1,c2,c3),(w.heap.size+1,0,0,0,0),(w.heap.size,a0,a1,a2,a3)]) (by simp)) KK.out;refine hK.out _ _ (Or.inr HS) (fun _ => ?_);clear hK K HS;refine aG (i:=5) (by kernel_rfl) rfl (fun K hK => ?_);go_simp;refine (mM F hf.ok gr HRo.out (aB a0 a1 a2 a3) H T (aB c0 c1 c2 c3) w1.heap.size i0 i1 i2 i3 j0 j1 j2 j3 hi hj HVi.out HVj.out hT1 hT2 HMT.out HS2.out _ KK.out).mono ?_
    rintro e v3 ⟨rfl,hbl⟩
    have HM':=Lib.hid (HM.out.on hbl);have KK':=Lib.hid (KK.out.same hbl);clear HM KK hbl;have HM:=HM';have KK:=KK';clear HM' KK';have HS:=And.intro (HM.out.sub (rs':=[(w3.heap.size,c0,c1,c2,c3),(w.heap.size+1,0,0,0,0),(w.heap.size,a0,a1,a2,a3)]) (by simp)) KK.out;refine hK.out _ _ (Or.inr HS) (fun _ => ?_);clear hK K HS;have HS:=And.intro (HM.out.sub (rs':=[(w3.heap.size,c0,c1,c2,c3),(w.heap.size+1,0,0,0,0),(w.heap.size,a0,a1,a2,a3)]) (by simp)) KK.out;refine aH (i:=6) (v:=.tuple #[.agg #[.int .u64 0,.int .u64 0,.int .u64 0,.int .u64 0],.bool false]) rfl (by kernel_rfl) (by kernel_rfl) (by kernel_rfl) (by kernel_rfl) (fun _ _ _ h=>h) HS (Or.inl ⟨by kernel_rfl,fun wx hx => ?_⟩) ?_
    ·clear HS hx;go_simp
    simp only[Act.put,List.setIfInBounds_toArray,List.set_cons_zero,List.set_cons_succ];refine aH (i:=7) (v:=.agg #[.int .u64 0,.int .u64 0,.int .u64 0,.int .u64 0]) rfl (by kernel_rfl) (by kernel_rfl) (by kernel_rfl) (by kernel_rfl) (fun _ _ _ h=>h) HS (Or.inl ⟨by kernel_rfl,fun wx hx => ?_⟩) ?_
    ·clear HS hx;go_simp
    simp only[Act.put,List.setIfInBounds_toArray,List.set_cons_zero,List.set_cons_succ];refine aH (i:=8) (v:=.bool false) rfl (by kernel_rfl) (by kernel_rfl) (by kernel_rfl) (by kernel_rfl) (fun _ _ _ h=>h) HS (Or.inl ⟨by kernel_rfl,fun wx hx => ?_⟩) ?_
    ·clear HS hx;go_simp
    simp only[Act.put,List.setIfInBounds_toArray,List.set_cons_zero,List.set_cons_succ];clear HS;have kr:=HM.out.row (b:=(v1.heap.size)) (c0:=0) (c1:=0) (c2:=0) (c3:=0) (by simp);have yl:=HM.out.lt (b:=(v1.heap.size)) (c0:=0) (c1:=0) (c2:=0) (c3:=0) (by simp);have y0:=kr.c0; have y1:=kr.c1; have y2:=kr.c2; have y3:=kr.c3; have yf:=kr.fr;clear kr;refine aG (i:=10) (by kernel_rfl) rfl (fun K hK => ?_);go_simp;have HM':=Lib.hid (HM.out.put 0 0 0 0 (by omega) (by intro r hr; simp at hr; rcases hr with rfl|rfl|rfl<;>simp<;>omega));have KK':=Lib.hid (KK.out.set4 (d:=(v1.heap.size)) (by omega) 0 0 0 0);clear HM KK;have HM:=HM';have KK:=KK';clear HM' KK';have HS:=And.intro (HM.out.sub (rs':=[(w3.heap.size,c0,c1,c2,c3),(w.heap.size+1,0,0,0,0),(w.heap.size,a0,a1,a2,a3)]) (by simp)) KK.out;refine hK.out _ _ (Or.inr HS) (fun _ => ?_);clear hK K HS;refine aG (i:=11) (by kernel_rfl) rfl (fun K hK => ?_);go_simp;refine hK.out _ _ (Or.inl rfl) (fun _ => ?_);clear hK K;refine bK (by kernel_rfl) ?_;go_wp2_with fail
    go_meet
    exact⟨(v1.heap.size),0,0,0,0,rfl,rfl,CK,trivial,Lib.hid (HM.out.sub (by simp)),KK⟩
  ·go_simp;have HM9:=HM;have KK9:=KK;have HM':=Lib.hid (HM.out.new (w3.heap.size+1) 0 0 0 0 99 (by first|rfl|(simp; done)));have KK':=Lib.hid (KK.out.same ((Below.refl _ _).alloc (Nat.le_refl _) (.cells #[.int .u64 (0:Nat),.int .u64 (0:Nat),.int .u64 (0:Nat),.int .u64 (0:Nat)] 99)));have hgk:w1.heap.size<(w3.heap.size+1):=by first|omega|exact KK.out.lt|(have:=KK.out.lt; simpa using this)
   have hgc:w3.heap.size<(w3.heap.size+1):=by first|omega|exact HM.out.lt (b:=w3.heap.size) (c0:=c0) (c1:=c1) (c2:=c2) (c3:=c3) (by simp)
   have hga:w.heap.size+1<(w3.heap.size+1):=by omega
   clear HM KK;have HM:=HM';have KK:=KK';clear HM' KK';have HS:=And.intro (HM.out.sub (rs':=[(w3.heap.size,c0,c1,c2,c3),(w.heap.size+1,0,0,0,0),(w.heap.size,a0,a1,a2,a3)]) (by simp)) KK.out;refine hK.out _ _ (Or.inr HS) (fun _ => ?_);clear hK K HS;refine aG (i:=1) (by kernel_rfl) rfl (fun K hK => ?_);go_simp;refine (bL F hf.ok w1.heap.size a0 a1 a2 a3 ha _ KK.out).mono ?_
   rintro e v1 ⟨i0,i1,i2,i3,rfl,hi,hv,hbl⟩
   have HVi:=Lib.hid hv;clear hv;have HM':=Lib.hid (HM.out.on hbl);have KK':=Lib.hid (KK.out.same hbl);clear HM KK hbl;have HM:=HM';have KK:=KK';clear HM' KK';have HS:=And.intro (HM.out.sub (rs':=[(w3.heap.size,c0,c1,c2,c3),(w.heap.size+1,0,0,0,0),(w.heap.size,a0,a1,a2,a3)]) (by simp)) KK.out;refine hK.out _ _ (Or.inr HS) (fun _ => ?_);clear hK K HS;refine aG (i:=4) (by kernel_rfl) rfl (fun K hK => ?_);go_simp;refine (bL F hf.ok w1.heap.size c0 c1 c2 c3 hc _ KK.out).mono ?_
   rintro e v2 ⟨j0,j1,j2,j3,rfl,hj,hv,hbl⟩
   have HVj:=Lib.hid hv;clear hv;have HM':=Lib.hid (HM.out.on hbl);have KK':=Lib.hid (KK.out.same hbl);clear HM KK hbl;have HM:=HM';have KK:=KK';clear HM' KK';have HS:=And.intro (HM.out.sub (rs':=[(w3.heap.size,c0,c1,c2,c3),(w.heap.size+1,0,0,0,0),(w.heap.size,a0,a1,a2,a3)]) (by simp)) KK.out;refine hK.out _ _ (Or.inr HS) (fun _ => ?_);clear hK K HS;refine aG (i:=5) (by kernel_rfl) rfl (fun K hK => ?_);go_simp;refine (mM F hf.ok gr HRo.out (aB a0 a1 a2 a3) H T (aB c0 c1 c2 c3) w1.heap.size i0 i1 i2 i3 j0 j1 j2 j3 hi hj HVi.out HVj.out hT1 hT2 HMT.out HS2.out _ KK.out).mono ?_
   rintro e v3 ⟨rfl,hbl⟩
   have HM':=Lib.hid (HM.out.on hbl);have KK':=Lib.hid (KK.out.same hbl);clear HM KK hbl;have HM:=HM';have KK:=KK';clear HM' KK';have HS:=And.intro (HM.out.sub (rs':=[(w3.heap.size,c0,c1,c2,c3),(w.heap.size+1,0,0,0,0),(w.heap.size,a0,a1,a2,a3)]) (by simp)) KK.out;refine hK.out _ _ (Or.inr HS) (fun _ => ?_);clear hK K HS;have HS:=And.intro (HM.out.sub (rs':=[(w3.heap.size,c0,c1,c2,c3),(w.heap.size+1,0,0,0,0),(w.heap.size,a0,a1,a2,a3)]) (by simp)) KK.out;refine aH (i:=6) (v:=.tuple #[.agg #[.int .u64 0,.int .u64 0,.int .u64 0,.int .u64 0],.bool false]) rfl (by kernel_rfl) (by kernel_rfl) (by kernel_rfl) (by kernel_rfl) (fun _ _ _ h=>h) HS (Or.inl ⟨by kernel_rfl,fun wx hx => ?_⟩) ?_
   ·clear HS hx;go_simp
   simp only[Act.put,List.setIfInBounds_toArray,List.set_cons_zero,List.set_cons_succ];refine aH (i:=7) (v:=.agg #[.int .u64 0,.int .u64 0,.int .u64 0,.int .u64 0]) rfl (by kernel_rfl) (by kernel_rfl) (by kernel_rfl) (by kernel_rfl) (fun _ _ _ h=>h) HS (Or.inl ⟨by kernel_rfl,fun wx hx => ?_⟩) ?_
   ·clear HS hx;go_simp
   simp only[Act.put,List.setIfInBounds_toArray,List.set_cons_zero,List.set_cons_succ];refine aH (i:=8) (v:=.bool false) rfl (by kernel_rfl) (by kernel_rfl) (by kernel_rfl) (by kernel_rfl) (fun _ _ _ h=>h) HS (Or.inl ⟨by kernel_rfl,fun wx hx => ?_⟩) ?_
   ·clear HS hx;go_simp
   simp only[Act.put,List.setIfInBounds_toArray,List.set_cons_zero,List.set_cons_succ];clear HS;have kr:=HM.out.row (b:=(w3.heap.size+1)) (c0:=0) (c1:=0) (c2:=0) (c3:=0) (by simp);have yl:=HM.out.lt (b:=(w3.heap.size+1)) (c0:=0) (c1:=0) (c2:=0) (c3:=0) (by simp);have y0:=kr.c0; have y1:=kr.c1; have y2:=kr.c2; have y3:=kr.c3; have yf:=kr.fr;clear kr;refine aG (i:=10) (by kernel_rfl) rfl (fun K hK => ?_);go_simp;have HM':=Lib.hid (HM.out.put 0 0 0 0 (by omega) (by intro r hr; simp at hr; rcases hr with rfl|rfl|rfl<;>simp<;>omega));have KK':=Lib.hid (KK.out.set4 (d:=(w3.heap.size+1)) (by omega) 0 0 0 0);clear HM KK;have HM:=HM';have KK:=KK';clear HM' KK';have HS:=And.intro (HM.out.sub (rs':=[(w3.heap.size,c0,c1,c2,c3),(w.heap.size+1,0,0,0,0),(w.heap.size,a0,a1,a2,a3)]) (by simp)) KK.out;refine hK.out _ _ (Or.inr HS) (fun _ => ?_);clear hK K HS;refine aG (i:=11) (by kernel_rfl) rfl (fun K hK => ?_);go_simp;refine hK.out _ _ (Or.inl rfl) (fun _ => ?_);clear hK K;refine bK (by kernel_rfl) ?_;go_wp2_with fail
   go_meet
   exact⟨(w3.heap.size+1),0,0,0,0,rfl,rfl,CK,trivial,Lib.hid (HM.out.sub (by simp)),KK⟩
 case rest =>
  obtain⟨gb,s0,s1,s2,s3,rfl,rfl,hs,_,HM',KK'⟩:=hcut;clear HM KK;have HM:=HM';have KK:=KK';clear HM' KK';have kr:=HM.out.row (b:=w.heap.size+1) (c0:=0) (c1:=0) (c2:=0) (c3:=0) (by simp);have y0:=kr.c0; have y1:=kr.c1; have y2:=kr.c2; have y3:=kr.c3; have yf:=kr.fr;clear kr;have yl:=HM.out.lt (b:=w.heap.size+1) (c0:=0) (c1:=0) (c2:=0) (c3:=0) (by simp);go_wp2_with fail;refine bodyPost_ret (v:=.tuple #[.agg #[.int .u64 0,.int .u64 0,.int .u64 0,.int .u64 0],.int .i64 23]) (by simp[results,results84,go_sem, *]) rfl ?_;refine⟨_,_,_,_,rfl,CK,rfl,?_⟩;exact aW HM.out.1 (by omega) 0 0 0 0
section
variable {M g:Nat}
end
theorem Bad1.ne {f c:Int} {A:Nat} (h:Bad1 f A c):c≠0:=by rcases h with⟨_,_,h⟩|⟨_,_,_,h⟩<;>omega
theorem Bad2.ne {f c:Int} {A B:Nat} (h:Bad2 f A B c):c≠0:=by
 rcases h with h|⟨_,_,_,_,h⟩
 ·exact h.ne
 ·omega
theorem FieldIs.uniq {f:Int} {F G:FC} (h:FieldIs f F) (k:FieldIs f G):F=G:=by
 rcases h with⟨h,rfl⟩|⟨h,rfl⟩<;>rcases k with⟨k,rfl⟩|⟨k,rfl⟩<;>first|rfl|omega
end Go.Proofs.Ytjeplinbleofnaa
namespace Go.Proofs.Ytjeplinbleofnaa.Ex
open Go.Proofs.Try
open Go.RowKit
theorem SR:Root RM 5:=by
 show Root Go.Proofs.Ytjeplinbleofnaa.FR.M 5;rw[XF];exact DY
theorem vS:2≤RM:=by decide
def BD (x:Fin RM):Fin RM:=⟨Ah x.1,PC _⟩
theorem VO:FD KR BD:=⟨fun h=>absurd (congrArg Fin.val h) (by decide),fun x h=>Fin.ext (by
 show x.1*(1*(x.1^(RM-2))%RM)%RM=1;rw[Nat.one_mul];exact zF SR vS (Nat.pos_of_ne_zero fun e=>h (Fin.ext e)) x.2)⟩
def aR:Fin RM:=cR 168700
def dR:Fin RM:=cR 168696
theorem MD:168696^(RM/2)%RM≠1:=by
 rw[←yR RM 256 168696 (RM/2) (by decide)];exact of_decide_eq_true (by kernel_rfl)
theorem Am (x:Fin RM):KR.mul x x≠dR:=fun h=>by
 have h1:x.1*x.1%RM=168696:=(congrArg Fin.val h).trans (Nat.mod_eq_of_lt (by decide))
 by_cases h0:x.1=0
 ·rw[h0]at h1;exact absurd h1 (by decide)
 ·have h2:=FN SR (by decide) (Nat.pos_of_ne_zero h0) x.2;rw[h1]at h2;exact MD h2
def JS:Fin RM:=cR 7214280148105020021932206872019688659210616427216992810330019057549499971851
theorem gH:ED KR BD aR dR where
 F:=VO
 two:=fun h=>absurd (congrArg Fin.val h) (by decide)
 sq:=⟨JS,of_decide_eq_true (by kernel_rfl)⟩
 ns:=Am
abbrev JP:=yB KR aR dR
abbrev NJ:=Nat×Nat×Nat
def wN (p q:NJ):NJ :=
 let z:=aM p.2.2 q.2.2
 let x:=aM p.1 q.1
 let y:=aM p.2.1 q.2.1
 let both:=aM 168696 (aM x y)
 let square:=aM z z
 let more:=fJ square both
 let less:=dU square both
 let across:=dU (dU (aM (fJ p.1 p.2.1) (fJ q.1 q.2.1)) x) y
 (aM (aM z less) across,aM (aM z more) (dU y (aM 168700 x)),aM less more)
def FY (p:NJ):NJ :=
 let x:=aM p.1 p.1
 let y:=aM p.2.1 p.2.1
 let z:=aM p.2.2 p.2.2
 let across:=dU (dU (aM (fJ p.1 p.2.1) (fJ p.1 p.2.1)) x) y
 let ax:=aM 168700 x
 let more:=fJ ax y
 let less:=dU (fJ z z) more
 (aM across less,aM more (dU y ax),aM more less)
def qV (x y:Nat):Nat:=x*(y^(RM-2))%RM
theorem fQ (x y:Nat):qV x y<RM:=Nat.mod_lt _ cO
def tld (p:NJ):Nat×Nat:=(aM p.1 (qV 1 p.2.2),aM p.2.1 (qV 1 p.2.2))
def CL (p:NJ):Fin RM×Fin RM×Fin RM:=(cR p.1,cR p.2.1,cR p.2.2)
theorem cH (x:Nat) {y:Nat} (hy:y<RM):cR (dU x y)=KR.sub (cR x) (cR y):=JF x hy
theorem OJ (p q:NJ):CL (wN p q)=uL KR aR dR (CL p) (CL q):=by
 refine Prod.ext ?_ (Prod.ext ?_ ?_)
 ·simp only[CL,wN,uL,cC,gC,cH _ (aC _ _)]; rfl
 ·simp only[CL,wN,uL,cC,gC,cH _ (aC _ _)]; rfl
 ·simp only[CL,wN,uL,cC,gC,cH _ (aC _ _)]; rfl
theorem OK (p:NJ):CL (FY p)=uM KR aR (CL p):=by
 refine Prod.ext ?_ (Prod.ext ?_ ?_)
 ·simp only[CL,FY,uM,cC,gC,cH _ (aC _ _),cH _ (bR _ _)]; rfl
 ·simp only[CL,FY,uM,cC,gC,cH _ (aC _ _),cH _ (bR _ _)]; rfl
 ·simp only[CL,FY,uM,cC,gC,cH _ (aC _ _),cH _ (bR _ _)]; rfl
structure JRep (p:NJ) (P:JP):Prop where
 x:p.1<RM
 y:p.2.1<RM
 z:p.2.2<RM
 rep:iZ KR aR dR (CL p) P
theorem JRep.pl {p q:NJ} {P Q:JP} (hp:JRep p P) (hq:JRep q Q):JRep (wN p q) (gH.grp.add P Q) :=
 ⟨aC _ _,aC _ _,aC _ _,by rw[OJ]; exact gH.sum hp.rep hq.rep⟩
theorem JRep.db {p:NJ} {P:JP} (hp:JRep p P):JRep (FY p) (gH.grp.add P P) :=
 ⟨aC _ _,aC _ _,aC _ _,by rw[OK]; exact gH.dbl hp.rep⟩
theorem JRep.nz {p:NJ} {P:JP} (hp:JRep p P):p.2.2≠0:=fun e=>hp.rep.2.2 (by show cR p.2.2=KR.zero; rw[e]; rfl)
theorem vE {z:Nat} (hz:z<RM):cR (qV 1 z)=BD (cR z):=Fin.ext (by
 show qV 1 z%RM=1*((z%RM)^(RM-2))%RM;rw[Nat.mod_eq_of_lt (fQ _ _),Nat.mod_eq_of_lt hz];rfl)
theorem JRep.tld {p:NJ} {P:JP} (hp:JRep p P):tld p=(P.1.1.1,P.1.2.1):=by
 obtain⟨h1,h2⟩:=gH.told hp.rep;have e1:cR (aM p.1 (qV 1 p.2.2))=P.1.1:=by rw[cC,vE hp.z]; exact h1
 have e2:cR (aM p.2.1 (qV 1 p.2.2))=P.1.2:=by rw[cC,vE hp.z]; exact h2
 refine Prod.ext ?_ ?_
 ·show aM p.1 (qV 1 p.2.2)=_;rw[←mJ (aC p.1 (qV 1 p.2.2)),e1]
 ·show aM p.2.1 (qV 1 p.2.2)=_;rw[←mJ (aC p.2.1 (qV 1 p.2.2)),e2]
def CN (x y:Nat):Prop:=fJ (aM 168700 (aM x x)) (aM y y)=fJ 1 (aM 168696 (aM (aM x x) (aM y y)))
instance (x y:Nat):Decidable (CN x y):=Nat.decEq _ _
def OnJ (x y:Nat):Prop:=(x<RM∧y<RM)∧CN x y
instance (x y:Nat):Decidable (OnJ x y):=instDecidableAnd
theorem EW {x y:Nat} (h:CN x y):cT KR aR dR (cR x) (cR y):=by
 have e:=congrArg cR h;simp only[gC,cC,yG]at e;exact e
def jp {x y:Nat} (h:OnJ x y):JP:=⟨(cR x,cR y),EW h.2⟩
theorem lE {x y:Nat} (h:OnJ x y):JRep (x,y,1) (jp h) :=
 ⟨h.1.1,h.1.2,cP,by show iZ KR aR dR (cR x,cR y,cR 1) _; rw[yG]; exact gH.rep1 (jp h)⟩
theorem QA {x y:Fin RM} (h:cT KR aR dR x y):CN x.1 y.1:=by
 have h:KR.add (KR.mul aR (KR.mul x x)) (KR.mul y y)=KR.add KR.one (KR.mul dR (KR.mul (KR.mul x x) (KR.mul y y))):=h;have e:=congrArg Fin.val h;exact e
theorem JP.on (P:JP):OnJ P.1.1.1 P.1.2.1:=⟨⟨P.1.1.2,P.1.2.2⟩,QA P.2⟩
theorem VC (P:JP) (h:OnJ P.1.1.1 P.1.2.1):jp h=P:=Subtype.ext (Prod.ext (Fin.ext (Nat.mod_eq_of_lt P.1.1.2)) (Fin.ext (Nat.mod_eq_of_lt P.1.2.2)))
theorem wO:JRep (0,1,1) gH.grp.zero:=⟨cO,cP,cP,by
 show iZ KR aR dR (cR 0,cR 1,cR 1) _;rw[yG,DD];exact gH.rep1 gH.grp.zero⟩
def XW {α:Type} (n:Nat) (k:Nat→α):α:=Nat.rec (motive:=fun _=>α) (k 0) (fun m _=>k (Nat.succ m)) n
theorem wU {α:Type} (n:Nat) (k:Nat→α):XW n k=k n:=by cases n<;>rfl
def VN {α:Type} (p:NJ) (k:NJ→α):α:=XW p.1 fun x=>XW p.2.1 fun y=>XW p.2.2 fun z=>k (x,y,z)
theorem GK {α:Type} (p:NJ) (k:NJ→α):VN p k=k p:=by unfold VN; rw[wU,wU,wU]
def TA (p:NJ) (n L:Nat):Nat→NJ
 | 0=>(0,1,1)
 | k+1=>VN (TA p n L k) fun q=>VN (FY q) fun q2=>bif Nat.beq (n/2^(L-(k+1))%2) 1 then wN q2 p else q2
theorem zP {p:NJ} {P:JP} (h:JRep p P) (n L:Nat) (hn:n<2^L):∀k,k≤L→JRep (TA p n L k) (gH.grp.ns (n/2^(L-k)) P)
 | 0,_=>by
  rw[Nat.sub_zero,Nat.div_eq_of_lt hn];exact wO
 | k+1,hk=>by
  have ih:=zP h n L hn k (by omega);have e:n/2^(L-k)=n/2^(L-(k+1))/2:=by
   rw[show L-k=(L-(k+1))+1 by omega,Nat.pow_add,←Nat.div_div_eq_div_mul]
  rw[e]at ih;have h2:=ih.db;rw[←gH.grp.ns_add]at h2;show JRep (VN (TA p n L k) _) _;rw[GK,GK];cases hb:Nat.beq (n/2^(L-(k+1))%2) 1
  ·have hb:n/2^(L-(k+1))%2≠1:=fun q=>by rw[q]at hb; cases hb
   rw[show n/2^(L-(k+1))=n/2^(L-(k+1))/2+n/2^(L-(k+1))/2 by omega];exact h2
  ·have hb:=Nat.eq_of_beq_eq_true hb;rw[show n/2^(L-(k+1))=n/2^(L-(k+1))/2+n/2^(L-(k+1))/2+1 by omega];exact h2.pl h
theorem zQ {p:NJ} {P:JP} (h:JRep p P) (n L:Nat) (hn:n<2^L):JRep (TA p n L L) (gH.grp.ns n P):=by
 have:=zP h n L hn L (Nat.le_refl _)
 rwa [Nat.sub_self,Nat.pow_zero,Nat.div_one]at this
def iC (p:NJ):Bool:=Nat.beq p.1 0&&Nat.beq p.2.1 p.2.2
theorem kC {p:NJ} {P:JP} (h:JRep p P):iC p=true↔P=gH.grp.zero:=by
 obtain⟨hx,hy,hz,h1,h2,h3⟩:=h;have h1:cR p.1=KR.mul P.1.1 (cR p.2.2):=h1;have h2:cR p.2.1=KR.mul P.1.2 (cR p.2.2):=h2;have h3:cR p.2.2≠KR.zero:=h3;unfold iC;rw[Bool.and_eq_true];constructor
 ·rintro⟨e1,e2⟩
  have e1:=Nat.eq_of_beq_eq_true e1;have e2:=Nat.eq_of_beq_eq_true e2;rw[e1]at h1;rw[e2]at h2;refine Subtype.ext (Prod.ext ?_ ?_)
  ·refine VO.zd (a:=cR p.2.2) ?_ h3;rw[KR.mul_comm,←h1];exact DD
  ·refine VO.cancel h3 ?_;rw[KR.mul_comm,←h2];exact (KR.mul_one _).symm
 ·rintro rfl
  have e1:cR p.1=KR.zero:=h1.trans (KR.zero_mul _);have e2:cR p.2.1=cR p.2.2:=h2.trans (KR.one_mul _);refine⟨?_,?_⟩
  ·rw[mK hx cO (e1.trans DD.symm)]; rfl
  ·rw[mK hy hz e2]; exact Nat.beq_refl _
def lJ:Nat:=2736030358979909402780800718157159386076813972158567259200215660948447373041
def bX:Nat:=5299619240641551281634865583518297030282874472190772894086521144482721001553
def bY:Nat:=16950150798460657717958625567821834550301663161624707787222815936182638968203
theorem jL:OnJ bX bY:=of_decide_eq_true (by kernel_rfl)
def JB:JP:=jp jL
theorem WO:iC (TA (bX,bY,1) lJ 251 251)=true:=by kernel_rfl
theorem IQ:gH.grp.ns lJ JB=gH.grp.zero:=(kC (zQ (lE jL) lJ 251 (by decide))).1 WO
def mY:Nat:=21888242871839275222246405745257275088548364400416034343698204186575808495616
theorem LB:OnJ 0 mY:=of_decide_eq_true (by kernel_rfl)
theorem UY:iC (TA (0,mY,1) lJ 251 251)=false:=by kernel_rfl
theorem UX:gH.grp.ns lJ (jp LB)≠gH.grp.zero:=fun h=>by
 have:=(kC (zQ (lE LB) lJ 251 (by decide))).2 h;rw[UY]at this;cases this
def SW (op:Nat→Nat) (c:Nat→List Prop):jO
 | [.v (.fl l)]=>match oR l with|some x=>some (c x,.one (.fl [.q (op x)]))|none=>none
 | _=>none
def SV (op:Nat→Nat→Nat) (c:Nat→Nat→List Prop):jO
 | [.v (.fl l),.v (.fl m)]=>match oR l,oR m with|some x,some y=>some (c x y,.one (.fl [.q (op x y)]))|_,_=>none
 | _=>none
def TC (x y:Nat):List Prop:=[x<RM,y<RM]
theorem rI {f:FuncId} {op:Nat→Nat→Nat} {c:Nat→Nat→List Prop} (h:∀x y,aQ (c x y)→∀args w,bZ w [.v (.fl [.q x]),.v (.fl [.q y])] args→bF prog f (.one (.fl [.q (op x y)])) args w) :
  ∀cs pre r,SV op c cs=some (pre,r)→aQ pre→∀(args:List Value) (w:World),bZ w cs args→bF prog f r args w:=by
 intro cs pre r hg hp args w ha;unfold SV at hg;split at hg
 ·rename_i l m;split at hg
  ·rename_i x y hx hy;cases hg;refine h x y hp args w ?_
   match args,ha with
   | [v,u],ha =>
    refine⟨?_,?_,trivial⟩
    ·show v=.agg (aA (q1 x)).toArray;rw[←cN l x hx]; exact ha.1
    ·show u=.agg (aA (q1 y)).toArray;rw[←cN m y hy]; exact ha.2.1
   | [],ha=>exact ha.elim
   | [_],ha=>exact ha.2.elim
   | _::_::_::_,ha=>exact ha.2.2.elim
  ·cases hg
 ·cases hg
theorem rJ {f:FuncId} {op:Nat→Nat} {c:Nat→List Prop} (h:∀x,aQ (c x)→∀args w,bZ w [.v (.fl [.q x])] args→bF prog f (.one (.fl [.q (op x)])) args w) :
  ∀cs pre r,SW op c cs=some (pre,r)→aQ pre→∀(args:List Value) (w:World),bZ w cs args→bF prog f r args w:=by
 intro cs pre r hg hp args w ha;unfold SW at hg;split at hg
 ·rename_i l;split at hg
  ·rename_i x hx;cases hg;refine h x hp args w ?_
   match args,ha with
   | [v],ha =>
    refine⟨?_,trivial⟩;show v=.agg (aA (q1 x)).toArray;rw[←cN l x hx]; exact ha.1
   | [],ha=>exact ha.elim
   | _::_::_,ha=>exact ha.2.elim
  ·cases hg
 ·cases hg
theorem xK {x:Nat} (h:x<RM):bH .neq .i64 (IB x) 0=some (.bool false):=by unfold IB; rw[if_pos h]; rfl
theorem zR {x:Nat} (h:¬x<RM):bH .neq .i64 (IB x) 0=some (.bool true):=by unfold IB; rw[if_neg h]; rfl
def SJ (N:Nat) (f:Nat→Nat):Prop:=∀j,j<N→f j<RM
instance (N:Nat) (f:Nat→Nat):Decidable (SJ N f):=Nat.decidableBallLT N fun j _=>f j<RM
def QY:jO
 | [.v (.im (.int .i64 2)),.v (.fl l),.v (.fl m)]=>match oR l,oR m with
  | some x,some y=>some ([x<RM,y<RM,y≠0],.many [.fl [.q (qV x y)],.im (.int .i64 0)])
  | _,_=>none
 | _=>none
theorem UH:∀cs pre r,QY cs=some (pre,r)→aQ pre→∀(args:List Value) (w:World),bZ w cs args→bF prog 89 r args w:=by
 intro cs pre r hg hp args w ha;unfold QY at hg;split at hg
 ·rename_i l m;split at hg
  ·rename_i x y hx hy;cases hg
   match args,ha with
   | [t,v,u],ha =>
    obtain⟨h1,h2,h3,_⟩:=ha;have h1:t=.int .i64 2:=h1;have h2:v=.agg (aA l).toArray:=h2;have h3:u=.agg (aA m).toArray:=h3;rw[cN l x hx]at h2;rw[cN m y hy]at h3;subst h1; subst h2; subst h3;have h:=LT 2 _ lG _ _ _ _ _ _ _ _ (dN x) (dN y) (by rw[iY hp.1]; exact hp.1) (by rw[iY hp.2.1]; exact hp.2.1) (by rw[iY hp.2.1]; exact hp.2.2.1) w;rw[iY hp.1,iY hp.2.1]at h;refine h.mono ?_
    rintro e w' ⟨s0,s1,s2,s3,rfl,hs,hv,hb⟩
    obtain⟨rfl,rfl,rfl,rfl⟩:=gO hs (fB (fQ x y)) hv;exact⟨rfl,hb⟩
   | [],ha=>exact ha.elim
   | [_],ha=>exact ha.2.elim
   | [_,_],ha=>exact ha.2.2.elim
   | _::_::_::_::_,ha=>exact ha.2.2.2.elim
  ·cases hg
 ·cases hg
def CI:Tab:=(((((T0.add 87 (NU fJ)).add 88 (NU dU)).add 86 (NU aM)).add 85 RA).add 46 QS).add 89 QY
theorem tS:TabOk prog CI:=((((((jA _).ad func87 UI).ad func88 UF).ad func86 UG).ad func85 KC).ad func46 YU).ad func89 UH
theorem LI (x y:Nat):jH prog CI (qG prog) (fun _=>true) f61 40 [.v (.fl [.q x]),.v (.fl [.q y])]=some ([x<RM,y<RM],.one (.fl [.q (fJ x y)])):=by kernel_rfl
theorem FW (x y:Nat):jH prog CI (qG prog) (fun _=>true) f62 40 [.v (.fl [.q x]),.v (.fl [.q y])]=some ([x<RM,y<RM],.one (.fl [.q (dU x y)])):=by kernel_rfl
theorem FV (x y:Nat):jH prog CI (qG prog) (fun _=>true) f58 40 [.v (.fl [.q x]),.v (.fl [.q y])]=some ([x<RM,y<RM],.one (.fl [.q (aM x y)])):=by kernel_rfl
theorem LJ (x y:Nat):jH prog CI (qG prog) (fun _=>true) f64 40 [.v (.fl [.q x]),.v (.fl [.q y])]=some ([x<RM,y<RM,y≠0],.one (.fl [.q (qV x y)])):=by kernel_rfl
def CJ:Tab:=((((CI.add 61 (SV fJ TC)).add 62 (SV dU TC)).add 58 (SV aM TC)).add 64 (SV qV fun x y=>[x<RM,y<RM,y≠0]))
theorem tT:TabOk prog CJ:=((((tS.ad func61 (rI (op:=fJ) (c:=TC) fun x y h args w ha=>bI aY tS (aX _) func61 (LI x y) h ha)).ad func62 (rI (op:=dU) (c:=TC) fun x y h args w ha=>bI aY tS (aX _) func62 (FW x y) h ha)).ad func58 (rI (op:=aM) (c:=TC) fun x y h args w ha=>bI aY tS (aX _) func58 (FV x y) h ha)).ad func64 (rI (op:=qV) (c:=fun x y=>[x<RM,y<RM,y≠0]) fun x y h args w ha=>bI aY tS (aX _) func64 (LJ x y) h ha))
theorem wK (x:Nat):jH prog CJ (qG prog) (fun _=>true) f60 40 [.v (.fl [.q x])]=some ([x<RM,x<RM],.one (.fl [.q (aM x x)])):=by kernel_rfl
theorem uA (x:Nat):jH prog CJ (qG prog) (fun _=>true) f36 40 [.v (.fl [.q x])]=some ([0<RM,x<RM],.one (.fl [.q (dU 0 x)])):=by kernel_rfl
theorem BF (x:Nat):jH prog CJ (qG prog) (fun _=>true) f63 40 [.v (.fl [.q x])]=some ([168700<18446744073709551616,168700<RM,x<RM],.one (.fl [.q (aM 168700 x)])):=by kernel_rfl
theorem BE (x:Nat):jH prog CJ (qG prog) (fun _=>true) f59 40 [.v (.fl [.q x])]=some ([168696<18446744073709551616,168696<RM,x<RM],.one (.fl [.q (aM 168696 x)])):=by kernel_rfl
def xV:Tab:=((((CJ.add 60 (SW (fun x=>aM x x) fun x=>[x<RM])).add 36 (SW (dU 0) fun x=>[x<RM])).add 63 (SW (aM 168700) fun x=>[x<RM])).add 59 (SW (aM 168696) fun x=>[x<RM]))
theorem lS:TabOk prog xV:=((((tT.ad func60 (rJ (op:=fun x=>aM x x) (c:=fun x=>[x<RM]) fun x h args w ha=>bI aY tT (aX _) func60 (wK x) ⟨h.1,h.1,trivial⟩ ha)).ad func36 (rJ (op:=dU 0) (c:=fun x=>[x<RM]) fun x h args w ha=>bI aY tT (aX _) func36 (uA x) ⟨cO,h.1,trivial⟩ ha)).ad func63 (rJ (op:=aM 168700) (c:=fun x=>[x<RM]) fun x h args w ha=>bI aY tT (aX _) func63 (BF x) ⟨by decide,by decide,h.1,trivial⟩ ha)).ad func59 (rJ (op:=aM 168696) (c:=fun x=>[x<RM]) fun x h args w ha=>bI aY tT (aX _) func59 (BE x) ⟨by decide,by decide,h.1,trivial⟩ ha))
abbrev NP:=Nat×Nat
def q3 (p:NJ):List At:=[.q p.1,.q p.2.1,.q p.2.2]
def JV (l:List At):Option NJ:=match wG l with|some [a,b,c]=>some (a,b,c)|_=>none
theorem jC:Rd JV q3:=fun l x h=>by
 unfold JV at h;split at h
 ·rename_i hn; cases h; rw[jX hn]; rfl
 ·cases h
def c3 (p:NJ):List Prop:=[p.1<RM,p.2.1<RM,p.2.2<RM]
theorem wL (x y:Nat):jH prog xV (qG prog) (fun _=>true) f30 40 [.v (.fl [.q x,.q y])]=some ([1<18446744073709551616],.one (.fl [.q x,.q y,.q 1])):=by kernel_rfl
theorem wM:jH prog xV (qG prog) (fun _=>true) f23 40 []=some ([1<18446744073709551616],.one (.fl [.f ⟨0,dS⟩,.q 1])):=by kernel_rfl
theorem pQ (w:World):bF prog 23 (.one (.fl [.q 0,.q 1])) [] w:=bI aY lS (aX _) func23 wM ⟨by decide,trivial⟩ (args:=[]) trivial
theorem tZ (p q:NJ):jH prog xV (qG prog) (fun _=>true) f31 60 [.v (.fl (q3 p)),.v (.fl (q3 q))]=some ([p.2.2<RM,q.2.2<RM,p.1<RM,q.1<RM,p.2.1<RM,q.2.1<RM,(aM p.1 q.1)<RM,(aM p.2.1 q.2.1)<RM,(aM (aM p.1 q.1) (aM p.2.1 q.2.1))<RM,(aM p.2.2 q.2.2)<RM,(aM (aM p.2.2 q.2.2) (aM p.2.2 q.2.2))<RM,(aM 168696 (aM (aM p.1 q.1) (aM p.2.1 q.2.1)))<RM,(aM (aM p.2.2 q.2.2) (aM p.2.2 q.2.2))<RM,(aM 168696 (aM (aM p.1 q.1) (aM p.2.1 q.2.1)))<RM,p.1<RM,p.2.1<RM,q.1<RM,q.2.1<RM,(fJ p.1 p.2.1)<RM,(fJ q.1 q.2.1)<RM,(aM (fJ p.1 p.2.1) (fJ q.1 q.2.1))<RM,(aM p.1 q.1)<RM,(dU (aM (fJ p.1 p.2.1) (fJ q.1 q.2.1)) (aM p.1 q.1))<RM,(aM p.2.1 q.2.1)<RM,(aM p.2.2 q.2.2)<RM,(dU (aM (aM p.2.2 q.2.2) (aM p.2.2 q.2.2)) (aM 168696 (aM (aM p.1 q.1) (aM p.2.1 q.2.1))))<RM,(aM (aM p.2.2 q.2.2) (dU (aM (aM p.2.2 q.2.2) (aM p.2.2 q.2.2)) (aM 168696 (aM (aM p.1 q.1) (aM p.2.1 q.2.1)))))<RM,(dU (dU (aM (fJ p.1 p.2.1) (fJ q.1 q.2.1)) (aM p.1 q.1)) (aM p.2.1 q.2.1))<RM,(aM p.2.2 q.2.2)<RM,(fJ (aM (aM p.2.2 q.2.2) (aM p.2.2 q.2.2)) (aM 168696 (aM (aM p.1 q.1) (aM p.2.1 q.2.1))))<RM,(aM p.1 q.1)<RM,(aM p.2.1 q.2.1)<RM,(aM 168700 (aM p.1 q.1))<RM,(aM (aM p.2.2 q.2.2) (fJ (aM (aM p.2.2 q.2.2) (aM p.2.2 q.2.2)) (aM 168696 (aM (aM p.1 q.1) (aM p.2.1 q.2.1)))))<RM,(dU (aM p.2.1 q.2.1) (aM 168700 (aM p.1 q.1)))<RM,(dU (aM (aM p.2.2 q.2.2) (aM p.2.2 q.2.2)) (aM 168696 (aM (aM p.1 q.1) (aM p.2.1 q.2.1))))<RM,(fJ (aM (aM p.2.2 q.2.2) (aM p.2.2 q.2.2)) (aM 168696 (aM (aM p.1 q.1) (aM p.2.1 q.2.1))))<RM],.one (.fl (q3 (wN p q)))):=by kernel_rfl
theorem nU (p:NJ):jH prog xV (qG prog) (fun _=>true) f69 60 [.v (.fl (q3 p))]=some ([p.1<RM,p.2.1<RM,p.2.2<RM,p.1<RM,p.2.1<RM,(fJ p.1 p.2.1)<RM,(aM (fJ p.1 p.2.1) (fJ p.1 p.2.1))<RM,(aM p.1 p.1)<RM,(dU (aM (fJ p.1 p.2.1) (fJ p.1 p.2.1)) (aM p.1 p.1))<RM,(aM p.2.1 p.2.1)<RM,(aM p.1 p.1)<RM,(aM 168700 (aM p.1 p.1))<RM,(aM p.2.1 p.2.1)<RM,(aM p.2.2 p.2.2)<RM,(aM p.2.2 p.2.2)<RM,(fJ (aM p.2.2 p.2.2) (aM p.2.2 p.2.2))<RM,(fJ (aM 168700 (aM p.1 p.1)) (aM p.2.1 p.2.1))<RM,(dU (dU (aM (fJ p.1 p.2.1) (fJ p.1 p.2.1)) (aM p.1 p.1)) (aM p.2.1 p.2.1))<RM,(dU (fJ (aM p.2.2 p.2.2) (aM p.2.2 p.2.2)) (fJ (aM 168700 (aM p.1 p.1)) (aM p.2.1 p.2.1)))<RM,(aM p.2.1 p.2.1)<RM,(aM 168700 (aM p.1 p.1))<RM,(fJ (aM 168700 (aM p.1 p.1)) (aM p.2.1 p.2.1))<RM,(dU (aM p.2.1 p.2.1) (aM 168700 (aM p.1 p.1)))<RM,(fJ (aM 168700 (aM p.1 p.1)) (aM p.2.1 p.2.1))<RM,(dU (fJ (aM p.2.2 p.2.2) (aM p.2.2 p.2.2)) (fJ (aM 168700 (aM p.1 p.1)) (aM p.2.1 p.2.1)))<RM],.one (.fl (q3 (FY p)))):=by kernel_rfl
theorem LH (p:NJ):jH prog xV (qG prog) (fun _=>true) f32 60 [.v (.fl (q3 p))]=some ([1<18446744073709551616,1<RM,p.2.2<RM,p.2.2≠0,p.1<RM,(qV 1 p.2.2)<RM,p.2.1<RM,(qV 1 p.2.2)<RM],.one (.fl [.q (tld p).1,.q (tld p).2])):=by kernel_rfl
def iJ:Tab:=(((((xV.add 30 (g1 PA fun p=>([],.one (.fl (q3 (p.1,p.2,1)))))).add 23 (g0 (.one (.fl [.q 0,.q 1])))).add 31 (g2 JV JV fun p q=>(c3 p++c3 q,.one (.fl (q3 (wN p q)))))).add 69 (g1 JV fun p=>(c3 p,.one (.fl (q3 (FY p)))))).add 32 (g1 JV fun p=>(c3 p++[p.2.2≠0],.one (.fl [.q (tld p).1,.q (tld p).2]))))
theorem eQ:TabOk prog iJ:=(((((lS.ad func30 (lW (op:=fun p=>([],.one (.fl (q3 (p.1,p.2,1))))) nF fun p h args w ha=>bI aY lS (aX _) func30 (wL p.1 p.2) ⟨by decide,trivial⟩ ha)).ad func23 (nZ pQ)).ad func31 (GF (op:=fun p q=>(c3 p++c3 q,.one (.fl (q3 (wN p q))))) jC jC fun p q h args w ha=>bI aY lS (aX _) func31 (tZ p q) ⟨h.2.2.1,h.2.2.2.2.2.1,h.1,h.2.2.2.1,h.2.1,h.2.2.2.2.1,(aC _ _),(aC _ _),(aC _ _),(aC _ _),(aC _ _),(aC _ _),(aC _ _),(aC _ _),h.1,h.2.1,h.2.2.2.1,h.2.2.2.2.1,(bR _ _),(bR _ _),(aC _ _),(aC _ _),(bD _ _),(aC _ _),(aC _ _),(bD _ _),(aC _ _),(bD _ _),(aC _ _),(bR _ _),(aC _ _),(aC _ _),(aC _ _),(aC _ _),(bD _ _),(bD _ _),(bR _ _),trivial⟩ ha)).ad func69 (lW (op:=fun p=>(c3 p,.one (.fl (q3 (FY p))))) jC fun p h args w ha=>bI aY lS (aX _) func69 (nU p) ⟨h.1,h.2.1,h.2.2.1,h.1,h.2.1,(bR _ _),(aC _ _),(aC _ _),(bD _ _),(aC _ _),(aC _ _),(aC _ _),(aC _ _),(aC _ _),(aC _ _),(bR _ _),(bR _ _),(bD _ _),(bD _ _),(aC _ _),(aC _ _),(bR _ _),(bD _ _),(bR _ _),(bD _ _),trivial⟩ ha)).ad func32 (lW (op:=fun p=>(c3 p++[p.2.2≠0],.one (.fl [.q (tld p).1,.q (tld p).2]))) jC fun p h args w ha=>bI aY lS (aX _) func32 (LH p) ⟨(by decide),cP,h.2.2.1,h.2.2.2.1,h.1,(fQ _ _),h.2.1,(fQ _ _),trivial⟩ ha))
theorem IH {w:World} {l l':List At} {n m:Nat} {args:List Value} (e:aA l=aA l') (h:bZ w [.s l n m] args):bZ w [.s l' n m] args:=by
 match args,h with
 | [v],h =>
  obtain⟨⟨b,o,rfl,hb,hr⟩,_⟩:=h;exact⟨⟨b,o,rfl,hb,e▸hr⟩,trivial⟩
 | [],h=>exact h.elim
 | _::_::_,h=>exact h.2.elim
def SU (k:Nat) (c:List Nat→List Prop×RV):jO
 | [.s l n m]=>bif Nat.beq n k then (match wG l with|some x=>some (c x)|none=>none)else none
 | _=>none
theorem GE {f:FuncId} {k:Nat} {c:List Nat→List Prop×RV} (h:∀x m,aQ (c x).1→∀args w,bZ w [.s (x.map .q) k m] args→bF prog f (c x).2 args w) :
  ∀cs pre r,SU k c cs=some (pre,r)→aQ pre→∀(args:List Value) (w:World),bZ w cs args→bF prog f r args w:=by
 intro cs pre r hg hp args w ha;unfold SU at hg;split at hg
 ·rename_i l n m;cases hb:Nat.beq n k<;>rw[hb]at hg
  ·cases hg
  ·cases Nat.eq_of_beq_eq_true hb;simp only[cond_true]at hg;split at hg
   ·rename_i x hx;have e:c x=(pre,r):=by simpa using hg
    have:=h x m (by rw[e]; exact hp) args w (IH (jX hx) ha);rw[e]at this;exact this
   ·cases hg
 ·cases hg
def rY (x y:Nat):Bool:=decide (x<RM∧y<RM)
theorem BX (x y m:Nat):cL prog (qG prog) (fun _=>⟨fun _=>iJ,fun _=>true,assoc [(13,.bool false)]⟩) f56 60 [.s [.q x,.q y] 2 m]=some ([x<bE,bH .neq .i64 (IB x) 0=some (.bool false),y<bE,bH .neq .i64 (IB y) 0=some (.bool false)],.one (.im (.bool true))):=by kernel_rfl
theorem BZ (x y m:Nat):cL prog (qG prog) (fun _=>⟨fun _=>iJ,fun _=>true,assoc [(13,.bool true)]⟩) f56 60 [.s [.q x,.q y] 2 m]=some ([x<bE,bH .neq .i64 (IB x) 0=some (.bool true)],.one (.im (.bool false))):=by kernel_rfl
theorem BY (x y m:Nat):cL prog (qG prog) (fun n=>⟨fun _=>iJ,fun _=>true,assoc [(13,.bool (Nat.blt n 48))]⟩) f56 60 [.s [.q x,.q y] 2 m]=some ([x<bE,bH .neq .i64 (IB x) 0=some (.bool false),y<bE,bH .neq .i64 (IB y) 0=some (.bool true)],.one (.im (.bool false))):=by kernel_rfl
theorem CC (x y m:Nat) (hx:x<bE) (hy:y<bE) (args:List Value) (w:World) (ha:bZ w [.s [.q x,.q y] 2 m] args):bF prog 56 (.one (.im (.bool (rY x y)))) args w:=by
 unfold rY
 by_cases h1:x<RM
 ·by_cases h2:y<RM
  ·rw[decide_eq_true ⟨h1,h2⟩];exact aK aY (fun _ _=>eQ) (aX _) func56 (BX x y m) ⟨hx,xK h1,hy,xK h2,trivial⟩ ha
  ·rw[decide_eq_false (fun h=>h2 h.2)];exact aK aY (fun _ _=>eQ) (aX _) func56 (BY x y m) ⟨hx,xK h1,hy,zR h2,trivial⟩ ha
 ·rw[decide_eq_false (fun h=>h1 h.1)];exact aK aY (fun _ _=>eQ) (aX _) func56 (BZ x y m) ⟨hx,zR h1,trivial⟩ ha
def WK (b:Bool):List Nat→List Prop×RV
 | [x,y]=>([x<bE,y<bE,rY x y=b],.one (.im (.bool b)))
 | _=>([False],.one (.im (.bool b)))
theorem WA (b:Bool):∀cs pre r,SU 2 (WK b) cs=some (pre,r)→aQ pre→∀(args:List Value) (w:World),bZ w cs args→bF prog 56 r args w :=
 GE fun x m hp args w ha=>by
  match x,hp,ha with
  | [x,y],hp,ha =>
   have h:=CC x y m hp.1 hp.2.1 args w ha;rw[hp.2.2.1]at h;exact h
  | [],hp,_=>exact hp.1.elim
  | [_],hp,_=>exact hp.1.elim
  | _::_::_::_,hp,_=>exact hp.1.elim
theorem UK (x y:Nat):cL prog (qG prog) (fun _=>⟨fun _=>iJ,fun _=>true,fun _=>none⟩) f57 60 [.v (.fl [.q x]),.v (.fl [.q y])]=some ([x<RM,y<RM,aM x x<RM,aM 168700 (aM x x)<RM,aM y y<RM,1<18446744073709551616,aM x x<RM,aM y y<RM,aM (aM x x) (aM y y)<RM,1<RM,aM 168696 (aM (aM x x) (aM y y))<RM,aA [At.q (fJ (aM 168700 (aM x x)) (aM y y))]=aA [At.q (fJ 1 (aM 168696 (aM (aM x x) (aM y y))))]],.one (.im (.bool true))):=by kernel_rfl
theorem UL (x y:Nat):cL prog (qG prog) (fun _=>⟨fun _=>iJ,fun _=>false,fun _=>none⟩) f57 60 [.v (.fl [.q x]),.v (.fl [.q y])]=some ([x<RM,y<RM,aM x x<RM,aM 168700 (aM x x)<RM,aM y y<RM,1<18446744073709551616,aM x x<RM,aM y y<RM,aM (aM x x) (aM y y)<RM,1<RM,aM 168696 (aM (aM x x) (aM y y))<RM,aA [At.q (fJ (aM 168700 (aM x x)) (aM y y))]≠aA [At.q (fJ 1 (aM 168696 (aM (aM x x) (aM y y))))]],.one (.im (.bool false))):=by kernel_rfl
theorem XV {a b:Nat} (ha:a<RM) (hb:b<RM) (h:aA [At.q a]=aA [At.q b]):a=b:=by
 have h:[Value.int .u64 (fw a 0:Nat),.int .u64 (fw a 1:Nat),.int .u64 (fw a 2:Nat),.int .u64 (fw a 3:Nat)]=[Value.int .u64 (fw b 0:Nat),.int .u64 (fw b 1:Nat),.int .u64 (fw b 2:Nat),.int .u64 (fw b 3:Nat)]:=h;simp only[List.cons.injEq,Value.int.injEq,true_and,and_true,Int.natCast_inj]at h;rw[←iY ha,←iY hb,h.1,h.2.1,h.2.2.1,h.2.2.2]
theorem AX (x y:Nat) (hx:x<RM) (hy:y<RM) (args:List Value) (w:World) (ha:bZ w [.v (.fl [.q x]),.v (.fl [.q y])] args):bF prog 57 (.one (.im (.bool (decide (CN x y))))) args w:=by
 by_cases h:CN x y
 ·rw[decide_eq_true h];exact aK aY (fun _ _=>eQ) (aX _) func57 (UK x y) ⟨hx,hy,aC _ _,aC _ _,aC _ _,by decide,aC _ _,aC _ _,aC _ _,cP,aC _ _,by rw[h],trivial⟩ ha
 ·rw[decide_eq_false h];exact aK aY (fun _ _=>eQ) (aX _) func57 (UL x y) ⟨hx,hy,aC _ _,aC _ _,aC _ _,by decide,aC _ _,aC _ _,aC _ _,cP,aC _ _,fun e=>h (XV (bR _ _) (bR _ _) e),trivial⟩ ha
def QR (b:Bool):jO
 | [.v (.fl l),.v (.fl m)]=>match oR l,oR m with|some x,some y=>some ([x<RM,y<RM,decide (CN x y)=b],.one (.im (.bool b)))|_,_=>none
 | _=>none
theorem VV (b:Bool):∀cs pre r,QR b cs=some (pre,r)→aQ pre→∀(args:List Value) (w:World),bZ w cs args→bF prog 57 r args w:=by
 intro cs pre r hg hp args w ha;unfold QR at hg;split at hg
 ·rename_i l m;split at hg
  ·rename_i x y hx hy;cases hg;have h:=AX x y hp.1 hp.2.1 args w (by
    match args,ha with
    | [v,u],ha =>
     refine⟨?_,?_,trivial⟩
     ·show v=.agg (aA (q1 x)).toArray;rw[←cN l x hx]; exact ha.1
     ·show u=.agg (aA (q1 y)).toArray;rw[←cN m y hy]; exact ha.2.1
    | [],ha=>exact ha.elim
    | [_],ha=>exact ha.2.elim
    | _::_::_::_,ha=>exact ha.2.2.elim)
   rw[hp.2.2.1]at h;exact h
  ·cases hg
 ·cases hg
def MO (b c:Bool):Tab:=(iJ.add 56 (SU 2 (WK b))).add 57 (QR c)
theorem EY (b c:Bool):TabOk prog (MO b c):=(eQ.ad func56 (WA b)).ad func57 (VV c)
theorem WU (x y m:Nat):cL prog (qG prog) (fun n=>⟨fun _=>MO true true,fun _=>true,fun _=>none⟩) f29 60 [.s [.q x,.q y] 1 m]=some ([x<bE,y<bE,rY x y=true,x<RM,y<RM,decide (CN x y)=true],.one (.im (.bool true))):=by kernel_rfl
theorem WV (x y m:Nat):cL prog (qG prog) (fun n=>⟨fun _=>MO true false,fun _=>true,fun _=>none⟩) f29 60 [.s [.q x,.q y] 1 m]=some ([x<bE,y<bE,rY x y=true,x<RM,y<RM,decide (CN x y)=false],.one (.im (.bool false))):=by kernel_rfl
theorem WW (x y m:Nat):cL prog (qG prog) (fun n=>⟨fun _=>MO false false,fun _=>true,fun _=>none⟩) f29 60 [.s [.q x,.q y] 1 m]=some ([x<bE,y<bE,rY x y=false],.one (.im (.bool false))):=by kernel_rfl
def kP (x y:Nat):Bool:=decide (OnJ x y)
theorem EX {x y:Nat} (h:OnJ x y):kP x y=true:=decide_eq_true h
theorem qZ {x y:Nat}:kP x y=true↔OnJ x y:=⟨of_decide_eq_true,decide_eq_true⟩
theorem AZ (x y:Nat):(kP x y=true∧rY x y=true∧x<RM∧y<RM∧decide (CN x y)=true)∨(kP x y=false∧rY x y=true∧x<RM∧y<RM∧decide (CN x y)=false)∨(kP x y=false∧rY x y=false):=by
 by_cases h:x<RM∧y<RM
 ·by_cases k:CN x y
  ·exact Or.inl ⟨decide_eq_true ⟨h,k⟩,decide_eq_true h,h.1,h.2,decide_eq_true k⟩
  ·exact Or.inr (Or.inl ⟨decide_eq_false fun q=>k q.2,decide_eq_true h,h.1,h.2,decide_eq_false k⟩)
 ·exact Or.inr (Or.inr ⟨decide_eq_false fun q=>h q.1,decide_eq_false h⟩)
theorem CH (x y m:Nat) (hx:x<bE) (hy:y<bE) (args:List Value) (w:World) (ha:bZ w [.s [.q x,.q y] 1 m] args):bF prog 29 (.one (.im (.bool (kP x y)))) args w:=by
 rcases AZ x y with⟨e,h1,h2,h3,h4⟩|⟨e,h1,h2,h3,h4⟩|⟨e,h1⟩
 ·rw[e];exact aK aY (fun _ _=>EY _ _) (aX _) func29 (WU x y m) ⟨hx,hy,h1,h2,h3,h4,trivial⟩ ha
 ·rw[e];exact aK aY (fun _ _=>EY _ _) (aX _) func29 (WV x y m) ⟨hx,hy,h1,h2,h3,h4,trivial⟩ ha
 ·rw[e];exact aK aY (fun _ _=>EY _ _) (aX _) func29 (WW x y m) ⟨hx,hy,h1,trivial⟩ ha
def WL (b:Bool):List Nat→List Prop×RV
 | [x,y]=>([x<bE,y<bE,kP x y=b],.one (.im (.bool b)))
 | _=>([False],.one (.im (.bool b)))
theorem WB (b:Bool):∀cs pre r,SU 1 (WL b) cs=some (pre,r)→aQ pre→∀(args:List Value) (w:World),bZ w cs args→bF prog 29 r args w :=
 GE fun x m hp args w ha=>by
  match x,hp,ha with
  | [x,y],hp,ha =>
   have h:=CH x y m hp.1 hp.2.1 args w ha;rw[hp.2.2.1]at h;exact h
  | [],hp,_=>exact hp.1.elim
  | [_],hp,_=>exact hp.1.elim
  | _::_::_::_,hp,_=>exact hp.1.elim
def IY (b:Bool):Tab:=iJ.add 29 (SU 1 (WL b))
theorem FB (b:Bool):TabOk prog (IY b):=eQ.ad func29 (WB b)
abbrev oS:List At:=[.f ⟨0,dS⟩,.f ⟨0,dS⟩]
abbrev w2 (p:NP):Prop:=p.1<bE∧p.2<bE
def dW (p:NP) (e:Int):RV:=.many [.fl [.q p.1,.q p.2],.im (.int .i64 e)]
theorem PZ (p:NP) (b:Bool):cL prog (qG prog) (fun n=>⟨fun _=>IY b,fun _=>true,fun _=>none⟩) f13 60 [.v (.fl [.q p.1,.q p.2])]=some ([p.1<bE,p.2<bE,kP p.1 p.2=b],.one (.im (.bool b))):=by kernel_rfl
def cj (P:JP):NP:=(P.1.1.1,P.1.2.1)
theorem xL (P:JP):OnJ (cj P).1 (cj P).2:=P.on
theorem VD (P:JP):jp (xL P)=P:=VC P _
theorem OnJ.w {x y:Nat} (h:OnJ x y):x<bE∧y<bE:=⟨fB h.1.1,fB h.1.2⟩
theorem AY (p:NP) (hp:w2 p) (args:List Value) (w:World) (ha:bZ w [.v (.fl (q2 p))] args):bF prog 13 (.one (.im (.bool (kP p.1 p.2)))) args w :=
 aK aY (fun _ _=>FB _) (aX _) func13 (PZ p _) ⟨hp.1,hp.2,rfl,trivial⟩ ha
def XU (a b c:NJ):jO
 | [.v (.fl l),.v (.fl m)]=>some ([aA l=aA (q3 a),aA m=aA (q3 b)],.one (.fl (q3 c)))
 | _=>none
def CO (p:NJ):Prop:=p.1<RM∧p.2.1<RM∧p.2.2<RM
theorem VW {a b c:NJ} (ha:CO a) (hb:CO b) (hc:c=wN a b):∀cs pre r,XU a b c cs=some (pre,r)→aQ pre→∀(args:List Value) (w:World),bZ w cs args→bF prog 31 r args w:=by
 intro cs pre r hg hp args w h;unfold XU at hg;split at hg
 ·rename_i l m;cases hg
  match args,h with
  | [v,u],h =>
   have h1:v=.agg (aA l).toArray:=h.1;have h2:u=.agg (aA m).toArray:=h.2.1;rw[hp.1]at h1;rw[hp.2.1]at h2;subst h1; subst h2; subst hc;exact bI aY lS (aX _) func31 (tZ a b) (⟨ha.2.2,hb.2.2,ha.1,hb.1,ha.2.1,hb.2.1,(aC _ _),(aC _ _),(aC _ _),(aC _ _),(aC _ _),(aC _ _),(aC _ _),(aC _ _),ha.1,ha.2.1,hb.1,hb.2.1,(bR _ _),(bR _ _),(aC _ _),(aC _ _),(bD _ _),(aC _ _),(aC _ _),(bD _ _),(aC _ _),(bD _ _),(aC _ _),(bR _ _),(aC _ _),(aC _ _),(aC _ _),(aC _ _),(bD _ _),(bD _ _),(bR _ _),trivial⟩) (args:=[_,_]) ⟨rfl,rfl,trivial⟩
  | [],h=>exact h.elim
  | [_],h=>exact h.2.elim
  | _::_::_::_,h=>exact h.2.2.elim
 ·cases hg
def ZA (a c:NJ):jO
 | [.v (.fl l)]=>some ([aA l=aA (q3 a)],.one (.fl (q3 c)))
 | _=>none
theorem ZJ {a c:NJ} (ha:CO a) (hc:c=FY a):∀cs pre r,ZA a c cs=some (pre,r)→aQ pre→∀(args:List Value) (w:World),bZ w cs args→bF prog 69 r args w:=by
 intro cs pre r hg hp args w h;unfold ZA at hg;split at hg
 ·rename_i l;cases hg
  match args,h with
  | [v],h =>
   have h1:v=.agg (aA l).toArray:=h.1;rw[hp.1]at h1;subst h1; subst hc;exact bI aY lS (aX _) func69 (nU a) (⟨ha.1,ha.2.1,ha.2.2,ha.1,ha.2.1,(bR _ _),(aC _ _),(aC _ _),(bD _ _),(aC _ _),(aC _ _),(aC _ _),(aC _ _),(aC _ _),(aC _ _),(bR _ _),(bR _ _),(bD _ _),(bD _ _),(aC _ _),(aC _ _),(bR _ _),(bD _ _),(bR _ _),(bD _ _),trivial⟩) (args:=[_]) ⟨rfl,trivial⟩
  | [],h=>exact h.elim
  | _::_::_,h=>exact h.2.elim
 ·cases hg
end Go.Proofs.Ytjeplinbleofnaa.Ex
namespace Go.Proofs.Ytjeplinbleofnaa
open Go.Proofs.Try
open Go.ChangeShapes Go.WideShapes Go.ChangeAt Go.RowKit
def LAt (w:World) (g off len:Nat) (A:Nat→Nat→Nat):Prop:=∀k,k<len →
 w.cell? ⟨g,off+k*4,none⟩=some (.int .u64 (A k 0))∧w.cell? ⟨g,off+k*4+1,none⟩=some (.int .u64 (A k 1)) ∧
 w.cell? ⟨g,off+k*4+2,none⟩=some (.int .u64 (A k 2))∧w.cell? ⟨g,off+k*4+3,none⟩=some (.int .u64 (A k 3))
def Bv (len:Nat) (A:Nat→Nat→Nat):Prop:=∀k,k<len→bQ (A k 0) (A k 1) (A k 2) (A k 3)
theorem LAt.same {w w':World} {g off len:Nat} {A:Nat→Nat→Nat} {B:Nat} (h:LAt w g off len A) (hg:0<len→g<B) (hb:Below B w w'):LAt w' g off len A :=
 fun k hk=>have hg:=hg (Nat.lt_of_le_of_lt (Nat.zero_le _) hk); ⟨(hb.cell (p:=⟨g,off+k*4,none⟩) hg).trans (h k hk).1,(hb.cell (p:=⟨g,off+k*4+1,none⟩) hg).trans (h k hk).2.1,
  (hb.cell (p:=⟨g,off+k*4+2,none⟩) hg).trans (h k hk).2.2.1,(hb.cell (p:=⟨g,off+k*4+3,none⟩) hg).trans (h k hk).2.2.2⟩
open Go.RowKit
def FIs (W:World) (o:Option Addr) (len:Nat) (A:Nat→Nat→Nat):Prop:=len*32≤140737488351232∧Bv len A∧(0<len→∃g off,o=some ⟨g,off,none⟩∧g<W.heap.size∧LAt W g off len A)
theorem FIs.on {W w:World} {o:Option Addr} {len:Nat} {A:Nat→Nat→Nat} (h:FIs W o len A) (hb:Below W.heap.size W w):FIs w o len A:=by
 refine⟨h.1,h.2.1,fun hl => ?_⟩;obtain⟨g,off,e,hg,hc⟩:=h.2.2 hl;exact⟨g,off,e,Nat.lt_of_lt_of_le hg hb.size,hc.same (fun _=>hg) hb⟩
def FwPost (x:Nat) (w:World) (e:Ending) (w':World):Prop:=e=.returned (.agg #[.int .u64 (fw x 0:Nat),.int .u64 (fw x 1:Nat),.int .u64 (fw x 2:Nat),.int .u64 (fw x 3:Nat)])∧Below w.heap.size w w'
theorem FwPost.of {x:Nat} {w:World} {e:Ending} {w':World} (hx:x<FP.M) (h:fI x w e w'):FwPost x w e w':=by
 obtain⟨s0,s1,s2,s3,rfl,hs,hv,hb⟩:=h;obtain⟨rfl,rfl,rfl,rfl⟩:=gO hs (VM hx) hv;exact⟨rfl,hb⟩
end Go.Proofs.Ytjeplinbleofnaa
namespace Go.Proofs.Ytjeplinbleofnaa.Ex
open Go.Proofs.Try
open Go.RowKit
theorem WR {l:List At} {args:List Value} {w:World} (h:bZ w [.v (.fl l)] args):args=[.agg (aA l).toArray]:=by
 match args,h with
 | [v],h=>rw[show v=_ from h.1]; rfl
 | [],h=>exact h.elim
 | _::_::_,h=>exact h.2.elim
def jY (n:Nat):Nat:=if wv n=0 then 0 else Nat.log2 (wv n)+1
theorem rD (n:Nat):LenIs (wv n) (jY n):=by
 unfold jY
 by_cases h:wv n=0
 ·rw[if_pos h,h]; exact⟨by decide,fun h=>by cases h⟩
 ·rw[if_neg h];exact⟨Nat.lt_log2_self,fun _=>by rw[Nat.add_sub_cancel]; exact Nat.log2_self_le h⟩
theorem NB (n:Nat):wv n<2^256:=by
 obtain⟨h0,h1,h2,h3⟩:=dN n;unfold wv aB;have:(2:Nat)^256=115792089237316195423570985008687907853269984665640564039457584007913129639936:=by decide
 omega
theorem zA (n:Nat):jY n≤256:=by
 rcases Nat.lt_or_ge 256 (jY n)with h|h
 ·have h1:=(rD n).2 (by omega);have h2:=Nat.pow_le_pow_right (show 0<2 by omega) (show 256≤jY n-1 by omega);have:=NB n;omega
 ·exact h
def QU:jO
 | [.v (.fl l)]=>match oR l with
  | some n=>some ([],.one (.im (.int .i64 (jY n:Nat))))
  | none=>none
 | _=>none
theorem QF:∀cs pre r,QU cs=some (pre,r)→aQ pre→∀(args:List Value) (w:World),bZ w cs args→bF prog 68 r args w:=by
 intro cs pre r hg hp args w ha;unfold QU at hg;split at hg
 ·rename_i l;split at hg
  ·rename_i n hn;cases hg;rw[WR ha,cN l _ hn];refine (pP _ _ _ _ (dN n) w).mono ?_
   rintro e w' ⟨L,rfl,_,h,hbl⟩
   cases h.uniq (rD n);exact⟨rfl,hbl⟩
  ·cases hg
 ·cases hg
def QQ:jO
 | [.v (.fl l),.v (.im (.int .i64 (.ofNat k)))]=>match oR l with
  | some n=>some ([k<9223372036854775808],.one (.fl (q1 (wv n/2^k))))
  | none=>none
 | _=>none
theorem OV:∀cs pre r,QQ cs=some (pre,r)→aQ pre→∀(args:List Value) (w:World),bZ w cs args→bF prog 70 r args w:=by
 intro cs pre r hg hp args w ha;unfold QQ at hg;split at hg
 ·rename_i l k;split at hg
  ·rename_i n hn;cases hg
   match args,ha with
   | [v,u],ha =>
    have h1:v=.agg (aA l).toArray:=ha.1;have h2:u=.int .i64 (Int.ofNat k):=ha.2.1;rw[cN l _ hn]at h1;subst h1; subst h2;have hk:k<9223372036854775808:=hp.1;refine (fX _ _ _ _ (Int.ofNat k) (dN n) (by simp) (by simp; omega) w).mono ?_
    rintro e w' ⟨s0,s1,s2,s3,rfl,hs,hv,hb⟩
    have hlt:wv n/2^k<115792089237316195423570985008687907853269984665640564039457584007913129639936:=by
     refine Nat.lt_of_le_of_lt (Nat.div_le_self _ _) ?_;have:=NB n;have e:(2:Nat)^256=115792089237316195423570985008687907853269984665640564039457584007913129639936:=by decide
     omega
    obtain⟨rfl,rfl,rfl,rfl⟩:=gO hs hlt hv;exact⟨rfl,hb⟩
   | [],ha=>exact ha.elim
   | [_],ha=>exact ha.2.elim
   | _::_::_::_,ha=>exact ha.2.2.elim
  ·cases hg
 ·cases hg
end Go.Proofs.Ytjeplinbleofnaa.Ex
