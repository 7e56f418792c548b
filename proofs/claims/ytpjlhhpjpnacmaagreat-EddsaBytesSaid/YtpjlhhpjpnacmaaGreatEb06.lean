/- Eb06 -/
import Derived.Laws.MakeOwn
import Derived.Deep.RegionHeld3
import Derived.Deep.DeepCutAuto
import Derived.Laws.AppendOwn
import Derived.Laws.OwnMore
import Derived.Deep.LoopGhost
import Derived.Test.YtpjlhhpjpnacmaaGreatEb05
import Derived.Test.YtpjlhhpjpnacmaaGreatEb04
import Derived.Test.YtpjlhhpjpnacmaaGreatEb03
import Derived.Test.YtpjlhhpjpnacmaaGreatEb02
import Derived.Test.YtpjlhhpjpnacmaaGreatProg
set_option maxRecDepth 100000
set_option linter.unusedVariables false
set_option linter.unusedSimpArgs false
set_option linter.unnecessarySimpa false
namespace Go.Proofs.YtpjlhhpjpnacmaaGreat
open Go.Proofs.Tryz
open Go.RowKit
def Cr (F:FC) (w:World) (e:Ending) (w':World):Prop :=
 ∃T H c0 c1 c2 c3:Nat,e=.returned (.tuple #[.int .i64 T,.agg #[.int .u64 c0,.int .u64 c1,.int .u64 c2,.int .u64 c3]])∧aZ c0 c1 c2 c3∧1≤T∧T≤200∧F.M=2^T*(2*H+1)+1∧aA c0 c1 c2 c3^2^(T-1)%F.M=F.M-1∧Below w.heap.size w w'
theorem RO {n b e v:Nat} (he:e<2^256) (h:Nat.beq (pm n 256 b e) v=true):b^e%n=v:=by
 rw[←IP n 256 b e he]; exact Nat.eq_of_beq_eq_true h
theorem Kv (e:Nat) (he:e=134217728):aA 11229192882073836016 4624371214017703636 63235024940837564 3043318377369730693^e%FR.M=FR.M-1 :=
 RO (n:=FR.M) (b:=aA 11229192882073836016 4624371214017703636 63235024940837564 3043318377369730693) (e:=e) (v:=FR.M-1) (by rw[he]; decide) (by rw[he]; kernel_rfl)
theorem Sq (T:Nat) (hT:T=28):aA 11229192882073836016 4624371214017703636 63235024940837564 3043318377369730693^2^(T-1)%FR.M=FR.M-1:=Kv (2^(T-1)) (by rw[hT])
theorem Sr:aA 4332616871279656262 10917124144477883021 13281191951274694749 3486998266802970665^2^(1-1)%FP.M=FP.M-1:=by kernel_rfl
set_option maxHeartbeats 2000000 in
theorem rD (f:Int) (F:FC) (hf:FieldIs f F) (w:World):Calls prog 99 #[.int .i64 f] w (Cr F w):=by
 rcases hf with⟨rfl,rfl⟩|⟨rfl,rfl⟩
 ·go_enter func99,ntmps99
  go_wp2_with fail;refine bodyPost_ret (v:=.tuple #[.int .i64 1,.agg #[.int .u64 4332616871279656262,.int .u64 10917124144477883021,.int .u64 13281191951274694749,.int .u64 3486998266802970665]]) (by simp[results,results99,go_sem]) rfl ?_;refine⟨1,5472060717959818805561601436314318772174077789324455915672259473661306552145,4332616871279656262,10917124144477883021,13281191951274694749,3486998266802970665,rfl,by unfold aZ; decide,by omega,by omega,by kernel_rfl,Sr,?_⟩
  repeat (first|exact Below.refl _ _|refine Below.drew ?_|refine Below.alloc ?_ (by first|(simp; done)|(simp; omega)) _|refine Below.setCell ?_ (by simp) _)
 ·go_enter func99,ntmps99
  go_wp2_with fail;refine bodyPost_ret (v:=.tuple #[.int .i64 28,.agg #[.int .u64 11229192882073836016,.int .u64 4624371214017703636,.int .u64 63235024940837564,.int .u64 3043318377369730693]]) (by simp[results,results99,go_sem]) rfl ?_;refine⟨28,40770029410420498293352137776570907027550720424234931066070132305055,11229192882073836016,4624371214017703636,63235024940837564,3043318377369730693,rfl,by unfold aZ; decide,by omega,by omega,by kernel_rfl,Sq 28 rfl,?_⟩
  repeat (first|exact Below.refl _ _|refine Below.drew ?_|refine Below.alloc ?_ (by first|(simp; done)|(simp; omega)) _|refine Below.setCell ?_ (by simp) _)
set_option maxHeartbeats 2000000 in
theorem NE (f:Int) (F:FC) (hf:FieldIs f F) (a0 a1 a2 a3:Nat) (ha:aZ a0 a1 a2 a3) (la:aA a0 a1 a2 a3<F.M) (hz:aA a0 a1 a2 a3=0) (w:World) :
  Calls prog 61 #[.int .i64 f,.agg #[.int .u64 a0,.int .u64 a1,.int .u64 a2,.int .u64 a3]] w (WM 0 0 w):=by
 have HE:=Lib.hid (show ∀w,(Op.equalIn 10000 24 (.agg #[.int .u64 a0,.int .u64 a1,.int .u64 a2,.int .u64 a3]) (.agg #[.int .u64 0,.int .u64 0,.int .u64 0,.int .u64 0])).run prog w=.ok true w from fun w=>by
  have h:=jO 9998 a0 a1 a2 a3 0 0 0 0 w;rw[show yC a0 a1 a2 a3 0 0 0 0=true from (gD ha wN).2 (hz.trans rfl)]at h;exact h)
 have hG:=jQ;clear hz
 go_enter func61,ntmps61
 go_wp2_with fail;refine (dL f F hf _).mono ?_
 rintro e w1 ⟨rfl,hbl⟩
 have M1:=(((Mem.nil w).new (w.heap.size) a0 a1 a2 a3 24 (by simp)).new (w.heap.size+1) 0 0 0 0 24 (by simp)).on hbl;clear hbl;have z0:w.heap.size<w1.heap.size:=M1.lt (c0:=a0) (c1:=a1) (c2:=a2) (c3:=a3) (by simp);have z1:w.heap.size+1<w1.heap.size:=M1.lt (c0:=0) (c1:=0) (c2:=0) (c3:=0) (by simp);have HM:=Lib.hid (M1.on ((Below.refl _ _).alloc (Nat.le_refl _) (.cells #[.int .u64 F.m0,.int .u64 F.m1,.int .u64 F.m2,.int .u64 F.m3,.int .u64 F.inv,.int .u64 F.s0,.int .u64 F.s1,.int .u64 F.s2,.int .u64 F.s3] 87)));have KK:=Lib.hid (KIs.new w1 F 87);have kr:=M1.row (b:=w.heap.size) (c0:=a0) (c1:=a1) (c2:=a2) (c3:=a3) (by simp);have x0:=kr.c0; have x1:=kr.c1; have x2:=kr.c2; have x3:=kr.c3;clear kr;have xl:=M1.lt (b:=w.heap.size) (c0:=a0) (c1:=a1) (c2:=a2) (c3:=a3) (by simp);go_wp2_with fail;refine (cO F hf.ok w1.heap.size a0 a1 a2 a3 ha _ KK.out).mono ?_
 rintro e w2 ⟨he,hbl⟩
 rw[show tN (aA a0 a1 a2 a3) F.M=true from decide_eq_true la]at he;subst he;have HM':=Lib.hid (HM.out.on hbl);have KK':=Lib.hid (KK.out.same hbl);have zk:=KK'.out.lt;clear HM KK hbl M1;have HM:=HM';have KK:=KK';clear HM' KK';clear x0 x1 x2 x3 xl zk;have kr:=HM.out.row (b:=w.heap.size) (c0:=a0) (c1:=a1) (c2:=a2) (c3:=a3) (by simp);have x0:=kr.c0; have x1:=kr.c1; have x2:=kr.c2; have x3:=kr.c3;clear kr;have xl:=HM.out.lt (b:=w.heap.size) (c0:=a0) (c1:=a1) (c2:=a2) (c3:=a3) (by simp);have kr:=HM.out.row (b:=w.heap.size+1) (c0:=0) (c1:=0) (c2:=0) (c3:=0) (by simp);have y0:=kr.c0; have y1:=kr.c1; have y2:=kr.c2; have y3:=kr.c3; have yf:=kr.fr;clear kr;have yl:=HM.out.lt (b:=w.heap.size+1) (c0:=0) (c1:=0) (c2:=0) (c3:=0) (by simp);have hE:=HE.out;go_wp2_with fail;refine bodyPost_ret (v:=.tuple #[.agg #[.int .u64 0,.int .u64 0,.int .u64 0,.int .u64 0],.int .i64 0]) (by simp[results,results61,go_sem, *]) rfl ?_;refine⟨_,_,_,_,rfl,wN,rfl,?_⟩;exact aM HM.out.1 (by omega) 0 0 0 0
theorem JE {F:FC} (hF:F.Ok) {v:Nat} (hv:v<F.M) (h:cR F.M v=false):(0+F.M-v)%F.M*((0+F.M-v)%F.M)%F.M=v*v%F.M∧(0+F.M-v)%F.M<F.M∧cR F.M ((0+F.M-v)%F.M)=true:=by
 unfold cR at *;have h':¬v≤(0+F.M-v)%F.M:=of_decide_eq_false h;have hp:=hF.pos;have v0:0<v:=by
  rcases Nat.eq_zero_or_pos v with q|q
  ·subst q; exact absurd (Nat.zero_le _) h'
  ·exact q
 rw[Nat.mod_eq_of_lt (show 0+F.M-v<F.M by omega)]at *;refine⟨?_,by omega,?_⟩
 ·obtain⟨d,hd⟩:∃d,F.M=v+d:=⟨F.M-v,by omega⟩
  have hdv:d<v:=by omega
  obtain⟨e,rfl⟩:∃e,v=d+e:=⟨v-d,by omega⟩
  rw[show 0+F.M-(d+e)=d by omega];have:(d+e)*(d+e)=d*d+F.M*e:=by
   rw[hd]; simp only[Nat.add_mul,Nat.mul_add,Nat.mul_comm e d]; omega
  rw[this,Nat.add_mul_mod_self_left]
 ·rw[decide_eq_true_iff,show 0+F.M-(0+F.M-v)=v by omega,Nat.mod_eq_of_lt hv]; omega
set_option maxHeartbeats 2000000 in
theorem xZ (f:Int) (F:FC) (hf:FieldIs f F) (a0 a1 a2 a3:Nat) (ha:aZ a0 a1 a2 a3) (la:aA a0 a1 a2 a3<F.M) (hz:aA a0 a1 a2 a3≠0) (hs2:aA a0 a1 a2 a3^(F.M/2)%F.M=1) (w:World) :
  Calls prog 61 #[.int .i64 f,.agg #[.int .u64 a0,.int .u64 a1,.int .u64 a2,.int .u64 a3]] w (fun e w'=>∃V,WM 0 V w e w'∧V*V%F.M=aA a0 a1 a2 a3∧V<F.M∧cR F.M V=true):=by
 have HE:=Lib.hid (show ∀w,(Op.equalIn 10000 24 (.agg #[.int .u64 a0,.int .u64 a1,.int .u64 a2,.int .u64 a3]) (.agg #[.int .u64 0,.int .u64 0,.int .u64 0,.int .u64 0])).run prog w=.ok false w from fun w=>by
  have h:=jO 9998 a0 a1 a2 a3 0 0 0 0 w;rw[show yC a0 a1 a2 a3 0 0 0 0=false from jP (fun q=>hz (((gD ha wN).1 q).trans rfl))]at h;exact h)
 have hG:=jQ;have HS2:=Lib.hid hs2;have HZ:=Lib.hid hz;clear hz hs2
 go_enter func61,ntmps61
 go_wp2_with fail;refine (dL f F hf _).mono ?_
 rintro e w1 ⟨rfl,hbl⟩
 have M1:=(((Mem.nil w).new (w.heap.size) a0 a1 a2 a3 24 (by simp)).new (w.heap.size+1) 0 0 0 0 24 (by simp)).on hbl;clear hbl;have z0:w.heap.size<w1.heap.size:=M1.lt (c0:=a0) (c1:=a1) (c2:=a2) (c3:=a3) (by simp);have z1:w.heap.size+1<w1.heap.size:=M1.lt (c0:=0) (c1:=0) (c2:=0) (c3:=0) (by simp);have HM:=Lib.hid (M1.on ((Below.refl _ _).alloc (Nat.le_refl _) (.cells #[.int .u64 F.m0,.int .u64 F.m1,.int .u64 F.m2,.int .u64 F.m3,.int .u64 F.inv,.int .u64 F.s0,.int .u64 F.s1,.int .u64 F.s2,.int .u64 F.s3] 87)));have KK:=Lib.hid (KIs.new w1 F 87);have kr:=M1.row (b:=w.heap.size) (c0:=a0) (c1:=a1) (c2:=a2) (c3:=a3) (by simp);have x0:=kr.c0; have x1:=kr.c1; have x2:=kr.c2; have x3:=kr.c3;clear kr;have xl:=M1.lt (b:=w.heap.size) (c0:=a0) (c1:=a1) (c2:=a2) (c3:=a3) (by simp);go_wp2_with fail;refine (cO F hf.ok w1.heap.size a0 a1 a2 a3 ha _ KK.out).mono ?_
 rintro e w2 ⟨he,hbl⟩
 rw[show tN (aA a0 a1 a2 a3) F.M=true from decide_eq_true la]at he;subst he;have HM':=Lib.hid (HM.out.on hbl);have KK':=Lib.hid (KK.out.same hbl);have zk:=KK'.out.lt;clear HM KK hbl M1;have HM:=HM';have KK:=KK';clear HM' KK';clear x0 x1 x2 x3 xl zk;have kr:=HM.out.row (b:=w.heap.size) (c0:=a0) (c1:=a1) (c2:=a2) (c3:=a3) (by simp);have x0:=kr.c0; have x1:=kr.c1; have x2:=kr.c2; have x3:=kr.c3;clear kr;have xl:=HM.out.lt (b:=w.heap.size) (c0:=a0) (c1:=a1) (c2:=a2) (c3:=a3) (by simp);have hE:=HE.out;go_wp2_with fail;clear hE x0 x1 x2 x3 xl;refine (rD f F hf _).mono ?_
 rintro e w3 ⟨T,H,c0,c1,c2,c3,rfl,hc,hT1,hT2,hMT,hcyc,hbl⟩
 have HMT:=Lib.hid hMT;have HCY:=Lib.hid hcyc;clear hMT hcyc;have HM':=Lib.hid (HM.out.on hbl);have KK':=Lib.hid (KK.out.same hbl);have zk:=KK'.out.lt;clear HM KK hbl;have HM:=HM';have KK:=KK';clear HM' KK';clear zk;have wz:w1.heap.size<w3.heap.size:=KK.out.lt;have HM':=Lib.hid (HM.out.new w3.heap.size c0 c1 c2 c3 24 rfl);have KK':=Lib.hid (KK.out.same ((Below.refl _ _).alloc (Nat.le_refl _) (.cells #[.int .u64 c0,.int .u64 c1,.int .u64 c2,.int .u64 c3] 24)));clear HM KK;have HM:=HM';have KK:=KK';clear HM' KK';clear HE hG
 go_upto_region 7 with fail
 go_cut [10,11] (fun s10 s11 wx=>∃gb s0 s1 s2 s3:Nat,s10=.pointer (some ⟨gb,0,none⟩)∧s11=.bool true∧aZ s0 s1 s2 s3∧Hid (∃R,aA s0 s1 s2 s3=kp F R∧R*R%F.M=aA a0 a1 a2 a3%F.M)∧Hid (Mem w wx [(gb,s0,s1,s2,s3),(w.heap.size+1,0,0,0,0)])∧Hid (KIs wx w1.heap.size F))
 case first =>
  obtain⟨gr,hroot⟩:=hf.root;have HRo:=Lib.hid hroot;clear hroot;refine bM (fun wx=>Mem w wx [(w3.heap.size,c0,c1,c2,c3),(w.heap.size+1,0,0,0,0),(w.heap.size,a0,a1,a2,a3)]∧KIs wx w1.heap.size F) 11 (by kernel_rfl) ?_;have HM':=Lib.hid (HM.out.drewN 1);have KK':=Lib.hid (KK.out.drewN 1);clear HM KK;have HM:=HM';have KK:=KK';clear HM' KK';have HS:=And.intro (HM.out.sub (rs':=[(w3.heap.size,c0,c1,c2,c3),(w.heap.size+1,0,0,0,0),(w.heap.size,a0,a1,a2,a3)]) (by simp)) KK.out;refine aC (i:=0) (v:=.agg #[.int .u64 a0,.int .u64 a1,.int .u64 a2,.int .u64 a3]) rfl (by kernel_rfl) (by kernel_rfl) (by kernel_rfl) (by kernel_rfl) (fun _ _ _ h=>h) HS (Or.inl ⟨by kernel_rfl,fun wx hx => ?_⟩) ?_
  ·have kr:=hx.1.row (b:=w.heap.size) (c0:=a0) (c1:=a1) (c2:=a2) (c3:=a3) (by simp);have x0:=kr.c0; have x1:=kr.c1; have x2:=kr.c2; have x3:=kr.c3;clear kr HS hx;go_simp
  simp only[Act.put,List.setIfInBounds_toArray,List.set_cons_zero,List.set_cons_succ];refine aC (i:=2) (v:=.int .i64 (T:Nat)) rfl (by kernel_rfl) (by kernel_rfl) (by kernel_rfl) (by kernel_rfl) (fun _ _ _ h=>h) HS (Or.inl ⟨by kernel_rfl,fun wx hx => ?_⟩) ?_
  ·clear HS hx;go_simp
  simp only[Act.put,List.setIfInBounds_toArray,List.set_cons_zero,List.set_cons_succ];refine aC (i:=3) (v:=.agg #[.int .u64 c0,.int .u64 c1,.int .u64 c2,.int .u64 c3]) rfl (by kernel_rfl) (by kernel_rfl) (by kernel_rfl) (by kernel_rfl) (fun _ _ _ h=>h) HS (Or.inl ⟨by kernel_rfl,fun wx hx => ?_⟩) ?_
  ·have kr:=hx.1.row (b:=w3.heap.size) (c0:=c0) (c1:=c1) (c2:=c2) (c3:=c3) (by simp);have x0:=kr.c0; have x1:=kr.c1; have x2:=kr.c2; have x3:=kr.c3;clear kr HS hx;go_simp
  simp only[Act.put,List.setIfInBounds_toArray,List.set_cons_zero,List.set_cons_succ];clear HS;refine cI (i:=1) (j:=9) (by kernel_rfl) rfl rfl (fun K hK => ?_) (fun K hK => ?_)
  ·go_simp;refine (cW F hf.ok w1.heap.size a0 a1 a2 a3 ha _ KK.out).mono ?_
   rintro e v1 ⟨i0,i1,i2,i3,rfl,hi,hv,hbl⟩
   have HVi:=Lib.hid hv;clear hv;have HM':=Lib.hid (HM.out.on hbl);have KK':=Lib.hid (KK.out.same hbl);clear HM KK hbl;have HM:=HM';have KK:=KK';clear HM' KK';have HS:=And.intro (HM.out.sub (rs':=[(w3.heap.size,c0,c1,c2,c3),(w.heap.size+1,0,0,0,0),(w.heap.size,a0,a1,a2,a3)]) (by simp)) KK.out;refine hK.out _ _ (Or.inr HS) (fun _ => ?_);clear hK K HS;refine cI (i:=4) (j:=9) (by kernel_rfl) rfl rfl (fun K hK => ?_) (fun K hK => ?_)
   ·go_simp;refine (cW F hf.ok w1.heap.size c0 c1 c2 c3 hc _ KK.out).mono ?_
    rintro e v2 ⟨j0,j1,j2,j3,rfl,hj,hv,hbl⟩
    have HVj:=Lib.hid hv;clear hv;have HM':=Lib.hid (HM.out.on hbl);have KK':=Lib.hid (KK.out.same hbl);clear HM KK hbl;have HM:=HM';have KK:=KK';clear HM' KK';have HS:=And.intro (HM.out.sub (rs':=[(w3.heap.size,c0,c1,c2,c3),(w.heap.size+1,0,0,0,0),(w.heap.size,a0,a1,a2,a3)]) (by simp)) KK.out;refine hK.out _ _ (Or.inr HS) (fun _ => ?_);clear hK K HS;refine cI (i:=5) (j:=9) (by kernel_rfl) rfl rfl (fun K hK => ?_) (fun K hK => ?_)
    ·go_simp;refine (oM F hf.ok gr HRo.out (aA a0 a1 a2 a3) H T (aA c0 c1 c2 c3) w1.heap.size i0 i1 i2 i3 j0 j1 j2 j3 hi hj HVi.out HVj.out hT1 hT2 HMT.out HCY.out HS2.out _ KK.out).mono ?_
     rintro e v3 ⟨s0,s1,s2,s3,R,rfl,hs,hv,hRR,hbl⟩
     have HVs:=Lib.hid (show ∃R,aA s0 s1 s2 s3=kp F R∧R*R%F.M=aA a0 a1 a2 a3%F.M from⟨R,hv,hRR⟩);clear hv hRR;have HM':=Lib.hid (HM.out.on hbl);have KK':=Lib.hid (KK.out.same hbl);clear HM KK hbl;have HM:=HM';have KK:=KK';clear HM' KK';have HS:=And.intro (HM.out.sub (rs':=[(w3.heap.size,c0,c1,c2,c3),(w.heap.size+1,0,0,0,0),(w.heap.size,a0,a1,a2,a3)]) (by simp)) KK.out;refine hK.out _ _ (Or.inr HS) (fun _ => ?_);clear hK K HS;have HS:=And.intro (HM.out.sub (rs':=[(w3.heap.size,c0,c1,c2,c3),(w.heap.size+1,0,0,0,0),(w.heap.size,a0,a1,a2,a3)]) (by simp)) KK.out;refine aC (i:=6) (v:=.tuple #[.agg #[.int .u64 s0,.int .u64 s1,.int .u64 s2,.int .u64 s3],.bool true]) rfl (by kernel_rfl) (by kernel_rfl) (by kernel_rfl) (by kernel_rfl) (fun _ _ _ h=>h) HS (Or.inl ⟨by kernel_rfl,fun wx hx => ?_⟩) ?_
     ·clear HS hx;go_simp
     simp only[Act.put,List.setIfInBounds_toArray,List.set_cons_zero,List.set_cons_succ];refine aC (i:=7) (v:=.agg #[.int .u64 s0,.int .u64 s1,.int .u64 s2,.int .u64 s3]) rfl (by kernel_rfl) (by kernel_rfl) (by kernel_rfl) (by kernel_rfl) (fun _ _ _ h=>h) HS (Or.inl ⟨by kernel_rfl,fun wx hx => ?_⟩) ?_
     ·clear HS hx;go_simp
     simp only[Act.put,List.setIfInBounds_toArray,List.set_cons_zero,List.set_cons_succ];refine aC (i:=8) (v:=.bool true) rfl (by kernel_rfl) (by kernel_rfl) (by kernel_rfl) (by kernel_rfl) (fun _ _ _ h=>h) HS (Or.inl ⟨by kernel_rfl,fun wx hx => ?_⟩) ?_
     ·clear HS hx;go_simp
     simp only[Act.put,List.setIfInBounds_toArray,List.set_cons_zero,List.set_cons_succ];clear HS;refine aD (i:=9) (by kernel_rfl) rfl (fun K hK => ?_);go_simp;have HM9:=HM;have KK9:=KK;have HM':=Lib.hid (HM.out.new (v3.heap.size) 0 0 0 0 85 (by first|rfl|(simp; done)));have KK':=Lib.hid (KK.out.same ((Below.refl _ _).alloc (Nat.le_refl _) (.cells #[.int .u64 (0:Nat),.int .u64 (0:Nat),.int .u64 (0:Nat),.int .u64 (0:Nat)] 85)));have hgk:w1.heap.size<(v3.heap.size):=by first|omega|exact KK.out.lt|(have:=KK.out.lt; simpa using this)
     have hgc:w3.heap.size<(v3.heap.size):=by first|omega|exact HM.out.lt (b:=w3.heap.size) (c0:=c0) (c1:=c1) (c2:=c2) (c3:=c3) (by simp)
     have hga:w.heap.size+1<(v3.heap.size):=by omega
     clear HM KK;have HM:=HM';have KK:=KK';clear HM' KK';have HS:=And.intro (HM.out.sub (rs':=[(w3.heap.size,c0,c1,c2,c3),(w.heap.size+1,0,0,0,0),(w.heap.size,a0,a1,a2,a3)]) (by simp)) KK.out;refine hK.out _ _ (Or.inr HS) (fun _ => ?_);clear hK K HS;have kr:=HM.out.row (b:=(v3.heap.size)) (c0:=0) (c1:=0) (c2:=0) (c3:=0) (by simp);have yl:=HM.out.lt (b:=(v3.heap.size)) (c0:=0) (c1:=0) (c2:=0) (c3:=0) (by simp);have y0:=kr.c0; have y1:=kr.c1; have y2:=kr.c2; have y3:=kr.c3; have yf:=kr.fr;clear kr;refine aD (i:=10) (by kernel_rfl) rfl (fun K hK => ?_);go_simp;have HM':=Lib.hid (HM9.out.new (v3.heap.size) s0 s1 s2 s3 85 (by first|rfl|(simp; done)));have KK':=Lib.hid (KK9.out.same ((Below.refl _ _).alloc (Nat.le_refl _) (.cells #[.int .u64 s0,.int .u64 s1,.int .u64 s2,.int .u64 s3] 85)));clear HM KK;have HM:=HM';have KK:=KK';clear HM' KK';have HS:=And.intro (HM.out.sub (rs':=[(w3.heap.size,c0,c1,c2,c3),(w.heap.size+1,0,0,0,0),(w.heap.size,a0,a1,a2,a3)]) (by simp)) KK.out;refine hK.out _ _ (Or.inr HS) (fun _ => ?_);clear hK K HS;refine aD (i:=11) (by kernel_rfl) rfl (fun K hK => ?_);go_simp;refine hK.out _ _ (Or.inl rfl) (fun _ => ?_);clear hK K;refine aU (by kernel_rfl) ?_;go_wp2_with fail
     go_meet
     exact⟨(v3.heap.size),s0,s1,s2,s3,rfl,rfl,hs,HVs,Lib.hid (HM.out.sub (by simp)),KK⟩
    ·go_simp;have HM9:=HM;have KK9:=KK;have HM':=Lib.hid (HM.out.new (v2.heap.size) 0 0 0 0 85 (by first|rfl|(simp; done)));have KK':=Lib.hid (KK.out.same ((Below.refl _ _).alloc (Nat.le_refl _) (.cells #[.int .u64 (0:Nat),.int .u64 (0:Nat),.int .u64 (0:Nat),.int .u64 (0:Nat)] 85)));have hgk:w1.heap.size<(v2.heap.size):=by first|omega|exact KK.out.lt|(have:=KK.out.lt; simpa using this)
     have hgc:w3.heap.size<(v2.heap.size):=by first|omega|exact HM.out.lt (b:=w3.heap.size) (c0:=c0) (c1:=c1) (c2:=c2) (c3:=c3) (by simp)
     have hga:w.heap.size+1<(v2.heap.size):=by omega
     clear HM KK;have HM:=HM';have KK:=KK';clear HM' KK';have HS:=And.intro (HM.out.sub (rs':=[(w3.heap.size,c0,c1,c2,c3),(w.heap.size+1,0,0,0,0),(w.heap.size,a0,a1,a2,a3)]) (by simp)) KK.out;refine hK.out _ _ (Or.inr HS) (fun _ => ?_);clear hK K HS;refine aD (i:=5) (by kernel_rfl) rfl (fun K hK => ?_);go_simp;refine (oM F hf.ok gr HRo.out (aA a0 a1 a2 a3) H T (aA c0 c1 c2 c3) w1.heap.size i0 i1 i2 i3 j0 j1 j2 j3 hi hj HVi.out HVj.out hT1 hT2 HMT.out HCY.out HS2.out _ KK.out).mono ?_
     rintro e v3 ⟨s0,s1,s2,s3,R,rfl,hs,hv,hRR,hbl⟩
     have HVs:=Lib.hid (show ∃R,aA s0 s1 s2 s3=kp F R∧R*R%F.M=aA a0 a1 a2 a3%F.M from⟨R,hv,hRR⟩);clear hv hRR;have HM':=Lib.hid (HM.out.on hbl);have KK':=Lib.hid (KK.out.same hbl);clear HM KK hbl;have HM:=HM';have KK:=KK';clear HM' KK';have HS:=And.intro (HM.out.sub (rs':=[(w3.heap.size,c0,c1,c2,c3),(w.heap.size+1,0,0,0,0),(w.heap.size,a0,a1,a2,a3)]) (by simp)) KK.out;refine hK.out _ _ (Or.inr HS) (fun _ => ?_);clear hK K HS;have HS:=And.intro (HM.out.sub (rs':=[(w3.heap.size,c0,c1,c2,c3),(w.heap.size+1,0,0,0,0),(w.heap.size,a0,a1,a2,a3)]) (by simp)) KK.out;refine aC (i:=6) (v:=.tuple #[.agg #[.int .u64 s0,.int .u64 s1,.int .u64 s2,.int .u64 s3],.bool true]) rfl (by kernel_rfl) (by kernel_rfl) (by kernel_rfl) (by kernel_rfl) (fun _ _ _ h=>h) HS (Or.inl ⟨by kernel_rfl,fun wx hx => ?_⟩) ?_
     ·clear HS hx;go_simp
     simp only[Act.put,List.setIfInBounds_toArray,List.set_cons_zero,List.set_cons_succ];refine aC (i:=7) (v:=.agg #[.int .u64 s0,.int .u64 s1,.int .u64 s2,.int .u64 s3]) rfl (by kernel_rfl) (by kernel_rfl) (by kernel_rfl) (by kernel_rfl) (fun _ _ _ h=>h) HS (Or.inl ⟨by kernel_rfl,fun wx hx => ?_⟩) ?_
     ·clear HS hx;go_simp
     simp only[Act.put,List.setIfInBounds_toArray,List.set_cons_zero,List.set_cons_succ];refine aC (i:=8) (v:=.bool true) rfl (by kernel_rfl) (by kernel_rfl) (by kernel_rfl) (by kernel_rfl) (fun _ _ _ h=>h) HS (Or.inl ⟨by kernel_rfl,fun wx hx => ?_⟩) ?_
     ·clear HS hx;go_simp
     simp only[Act.put,List.setIfInBounds_toArray,List.set_cons_zero,List.set_cons_succ];clear HS;have kr:=HM.out.row (b:=(v2.heap.size)) (c0:=0) (c1:=0) (c2:=0) (c3:=0) (by simp);have yl:=HM.out.lt (b:=(v2.heap.size)) (c0:=0) (c1:=0) (c2:=0) (c3:=0) (by simp);have y0:=kr.c0; have y1:=kr.c1; have y2:=kr.c2; have y3:=kr.c3; have yf:=kr.fr;clear kr;refine aD (i:=10) (by kernel_rfl) rfl (fun K hK => ?_);go_simp;have HM':=Lib.hid (HM.out.put s0 s1 s2 s3 (by omega) (by intro r hr; simp at hr; rcases hr with rfl|rfl|rfl<;>simp<;>omega));have KK':=Lib.hid (KK.out.set4 (d:=(v2.heap.size)) (by omega) s0 s1 s2 s3);clear HM KK;have HM:=HM';have KK:=KK';clear HM' KK';have HS:=And.intro (HM.out.sub (rs':=[(w3.heap.size,c0,c1,c2,c3),(w.heap.size+1,0,0,0,0),(w.heap.size,a0,a1,a2,a3)]) (by simp)) KK.out;refine hK.out _ _ (Or.inr HS) (fun _ => ?_);clear hK K HS;refine aD (i:=11) (by kernel_rfl) rfl (fun K hK => ?_);go_simp;refine hK.out _ _ (Or.inl rfl) (fun _ => ?_);clear hK K;refine aU (by kernel_rfl) ?_;go_wp2_with fail
     go_meet
     exact⟨(v2.heap.size),s0,s1,s2,s3,rfl,rfl,hs,HVs,Lib.hid (HM.out.sub (by simp)),KK⟩
   ·go_simp;have HM9:=HM;have KK9:=KK;have HM':=Lib.hid (HM.out.new (v1.heap.size) 0 0 0 0 85 (by first|rfl|(simp; done)));have KK':=Lib.hid (KK.out.same ((Below.refl _ _).alloc (Nat.le_refl _) (.cells #[.int .u64 (0:Nat),.int .u64 (0:Nat),.int .u64 (0:Nat),.int .u64 (0:Nat)] 85)));have hgk:w1.heap.size<(v1.heap.size):=by first|omega|exact KK.out.lt|(have:=KK.out.lt; simpa using this)
    have hgc:w3.heap.size<(v1.heap.size):=by first|omega|exact HM.out.lt (b:=w3.heap.size) (c0:=c0) (c1:=c1) (c2:=c2) (c3:=c3) (by simp)
    have hga:w.heap.size+1<(v1.heap.size):=by omega
    clear HM KK;have HM:=HM';have KK:=KK';clear HM' KK';have HS:=And.intro (HM.out.sub (rs':=[(w3.heap.size,c0,c1,c2,c3),(w.heap.size+1,0,0,0,0),(w.heap.size,a0,a1,a2,a3)]) (by simp)) KK.out;refine hK.out _ _ (Or.inr HS) (fun _ => ?_);clear hK K HS;refine aD (i:=4) (by kernel_rfl) rfl (fun K hK => ?_);go_simp;refine (cW F hf.ok w1.heap.size c0 c1 c2 c3 hc _ KK.out).mono ?_
    rintro e v2 ⟨j0,j1,j2,j3,rfl,hj,hv,hbl⟩
    have HVj:=Lib.hid hv;clear hv;have HM':=Lib.hid (HM.out.on hbl);have KK':=Lib.hid (KK.out.same hbl);clear HM KK hbl;have HM:=HM';have KK:=KK';clear HM' KK';have HS:=And.intro (HM.out.sub (rs':=[(w3.heap.size,c0,c1,c2,c3),(w.heap.size+1,0,0,0,0),(w.heap.size,a0,a1,a2,a3)]) (by simp)) KK.out;refine hK.out _ _ (Or.inr HS) (fun _ => ?_);clear hK K HS;refine aD (i:=5) (by kernel_rfl) rfl (fun K hK => ?_);go_simp;refine (oM F hf.ok gr HRo.out (aA a0 a1 a2 a3) H T (aA c0 c1 c2 c3) w1.heap.size i0 i1 i2 i3 j0 j1 j2 j3 hi hj HVi.out HVj.out hT1 hT2 HMT.out HCY.out HS2.out _ KK.out).mono ?_
    rintro e v3 ⟨s0,s1,s2,s3,R,rfl,hs,hv,hRR,hbl⟩
    have HVs:=Lib.hid (show ∃R,aA s0 s1 s2 s3=kp F R∧R*R%F.M=aA a0 a1 a2 a3%F.M from⟨R,hv,hRR⟩);clear hv hRR;have HM':=Lib.hid (HM.out.on hbl);have KK':=Lib.hid (KK.out.same hbl);clear HM KK hbl;have HM:=HM';have KK:=KK';clear HM' KK';have HS:=And.intro (HM.out.sub (rs':=[(w3.heap.size,c0,c1,c2,c3),(w.heap.size+1,0,0,0,0),(w.heap.size,a0,a1,a2,a3)]) (by simp)) KK.out;refine hK.out _ _ (Or.inr HS) (fun _ => ?_);clear hK K HS;have HS:=And.intro (HM.out.sub (rs':=[(w3.heap.size,c0,c1,c2,c3),(w.heap.size+1,0,0,0,0),(w.heap.size,a0,a1,a2,a3)]) (by simp)) KK.out;refine aC (i:=6) (v:=.tuple #[.agg #[.int .u64 s0,.int .u64 s1,.int .u64 s2,.int .u64 s3],.bool true]) rfl (by kernel_rfl) (by kernel_rfl) (by kernel_rfl) (by kernel_rfl) (fun _ _ _ h=>h) HS (Or.inl ⟨by kernel_rfl,fun wx hx => ?_⟩) ?_
    ·clear HS hx;go_simp
    simp only[Act.put,List.setIfInBounds_toArray,List.set_cons_zero,List.set_cons_succ];refine aC (i:=7) (v:=.agg #[.int .u64 s0,.int .u64 s1,.int .u64 s2,.int .u64 s3]) rfl (by kernel_rfl) (by kernel_rfl) (by kernel_rfl) (by kernel_rfl) (fun _ _ _ h=>h) HS (Or.inl ⟨by kernel_rfl,fun wx hx => ?_⟩) ?_
    ·clear HS hx;go_simp
    simp only[Act.put,List.setIfInBounds_toArray,List.set_cons_zero,List.set_cons_succ];refine aC (i:=8) (v:=.bool true) rfl (by kernel_rfl) (by kernel_rfl) (by kernel_rfl) (by kernel_rfl) (fun _ _ _ h=>h) HS (Or.inl ⟨by kernel_rfl,fun wx hx => ?_⟩) ?_
    ·clear HS hx;go_simp
    simp only[Act.put,List.setIfInBounds_toArray,List.set_cons_zero,List.set_cons_succ];clear HS;have kr:=HM.out.row (b:=(v1.heap.size)) (c0:=0) (c1:=0) (c2:=0) (c3:=0) (by simp);have yl:=HM.out.lt (b:=(v1.heap.size)) (c0:=0) (c1:=0) (c2:=0) (c3:=0) (by simp);have y0:=kr.c0; have y1:=kr.c1; have y2:=kr.c2; have y3:=kr.c3; have yf:=kr.fr;clear kr;refine aD (i:=10) (by kernel_rfl) rfl (fun K hK => ?_);go_simp;have HM':=Lib.hid (HM.out.put s0 s1 s2 s3 (by omega) (by intro r hr; simp at hr; rcases hr with rfl|rfl|rfl<;>simp<;>omega));have KK':=Lib.hid (KK.out.set4 (d:=(v1.heap.size)) (by omega) s0 s1 s2 s3);clear HM KK;have HM:=HM';have KK:=KK';clear HM' KK';have HS:=And.intro (HM.out.sub (rs':=[(w3.heap.size,c0,c1,c2,c3),(w.heap.size+1,0,0,0,0),(w.heap.size,a0,a1,a2,a3)]) (by simp)) KK.out;refine hK.out _ _ (Or.inr HS) (fun _ => ?_);clear hK K HS;refine aD (i:=11) (by kernel_rfl) rfl (fun K hK => ?_);go_simp;refine hK.out _ _ (Or.inl rfl) (fun _ => ?_);clear hK K;refine aU (by kernel_rfl) ?_;go_wp2_with fail
    go_meet
    exact⟨(v1.heap.size),s0,s1,s2,s3,rfl,rfl,hs,HVs,Lib.hid (HM.out.sub (by simp)),KK⟩
  ·go_simp;have HM9:=HM;have KK9:=KK;have HM':=Lib.hid (HM.out.new (w3.heap.size+1) 0 0 0 0 85 (by first|rfl|(simp; done)));have KK':=Lib.hid (KK.out.same ((Below.refl _ _).alloc (Nat.le_refl _) (.cells #[.int .u64 (0:Nat),.int .u64 (0:Nat),.int .u64 (0:Nat),.int .u64 (0:Nat)] 85)));have hgk:w1.heap.size<(w3.heap.size+1):=by first|omega|exact KK.out.lt|(have:=KK.out.lt; simpa using this)
   have hgc:w3.heap.size<(w3.heap.size+1):=by first|omega|exact HM.out.lt (b:=w3.heap.size) (c0:=c0) (c1:=c1) (c2:=c2) (c3:=c3) (by simp)
   have hga:w.heap.size+1<(w3.heap.size+1):=by omega
   clear HM KK;have HM:=HM';have KK:=KK';clear HM' KK';have HS:=And.intro (HM.out.sub (rs':=[(w3.heap.size,c0,c1,c2,c3),(w.heap.size+1,0,0,0,0),(w.heap.size,a0,a1,a2,a3)]) (by simp)) KK.out;refine hK.out _ _ (Or.inr HS) (fun _ => ?_);clear hK K HS;refine aD (i:=1) (by kernel_rfl) rfl (fun K hK => ?_);go_simp;refine (cW F hf.ok w1.heap.size a0 a1 a2 a3 ha _ KK.out).mono ?_
   rintro e v1 ⟨i0,i1,i2,i3,rfl,hi,hv,hbl⟩
   have HVi:=Lib.hid hv;clear hv;have HM':=Lib.hid (HM.out.on hbl);have KK':=Lib.hid (KK.out.same hbl);clear HM KK hbl;have HM:=HM';have KK:=KK';clear HM' KK';have HS:=And.intro (HM.out.sub (rs':=[(w3.heap.size,c0,c1,c2,c3),(w.heap.size+1,0,0,0,0),(w.heap.size,a0,a1,a2,a3)]) (by simp)) KK.out;refine hK.out _ _ (Or.inr HS) (fun _ => ?_);clear hK K HS;refine aD (i:=4) (by kernel_rfl) rfl (fun K hK => ?_);go_simp;refine (cW F hf.ok w1.heap.size c0 c1 c2 c3 hc _ KK.out).mono ?_
   rintro e v2 ⟨j0,j1,j2,j3,rfl,hj,hv,hbl⟩
   have HVj:=Lib.hid hv;clear hv;have HM':=Lib.hid (HM.out.on hbl);have KK':=Lib.hid (KK.out.same hbl);clear HM KK hbl;have HM:=HM';have KK:=KK';clear HM' KK';have HS:=And.intro (HM.out.sub (rs':=[(w3.heap.size,c0,c1,c2,c3),(w.heap.size+1,0,0,0,0),(w.heap.size,a0,a1,a2,a3)]) (by simp)) KK.out;refine hK.out _ _ (Or.inr HS) (fun _ => ?_);clear hK K HS;refine aD (i:=5) (by kernel_rfl) rfl (fun K hK => ?_);go_simp;refine (oM F hf.ok gr HRo.out (aA a0 a1 a2 a3) H T (aA c0 c1 c2 c3) w1.heap.size i0 i1 i2 i3 j0 j1 j2 j3 hi hj HVi.out HVj.out hT1 hT2 HMT.out HCY.out HS2.out _ KK.out).mono ?_
   rintro e v3 ⟨s0,s1,s2,s3,R,rfl,hs,hv,hRR,hbl⟩
   have HVs:=Lib.hid (show ∃R,aA s0 s1 s2 s3=kp F R∧R*R%F.M=aA a0 a1 a2 a3%F.M from⟨R,hv,hRR⟩);clear hv hRR;have HM':=Lib.hid (HM.out.on hbl);have KK':=Lib.hid (KK.out.same hbl);clear HM KK hbl;have HM:=HM';have KK:=KK';clear HM' KK';have HS:=And.intro (HM.out.sub (rs':=[(w3.heap.size,c0,c1,c2,c3),(w.heap.size+1,0,0,0,0),(w.heap.size,a0,a1,a2,a3)]) (by simp)) KK.out;refine hK.out _ _ (Or.inr HS) (fun _ => ?_);clear hK K HS;have HS:=And.intro (HM.out.sub (rs':=[(w3.heap.size,c0,c1,c2,c3),(w.heap.size+1,0,0,0,0),(w.heap.size,a0,a1,a2,a3)]) (by simp)) KK.out;refine aC (i:=6) (v:=.tuple #[.agg #[.int .u64 s0,.int .u64 s1,.int .u64 s2,.int .u64 s3],.bool true]) rfl (by kernel_rfl) (by kernel_rfl) (by kernel_rfl) (by kernel_rfl) (fun _ _ _ h=>h) HS (Or.inl ⟨by kernel_rfl,fun wx hx => ?_⟩) ?_
   ·clear HS hx;go_simp
   simp only[Act.put,List.setIfInBounds_toArray,List.set_cons_zero,List.set_cons_succ];refine aC (i:=7) (v:=.agg #[.int .u64 s0,.int .u64 s1,.int .u64 s2,.int .u64 s3]) rfl (by kernel_rfl) (by kernel_rfl) (by kernel_rfl) (by kernel_rfl) (fun _ _ _ h=>h) HS (Or.inl ⟨by kernel_rfl,fun wx hx => ?_⟩) ?_
   ·clear HS hx;go_simp
   simp only[Act.put,List.setIfInBounds_toArray,List.set_cons_zero,List.set_cons_succ];refine aC (i:=8) (v:=.bool true) rfl (by kernel_rfl) (by kernel_rfl) (by kernel_rfl) (by kernel_rfl) (fun _ _ _ h=>h) HS (Or.inl ⟨by kernel_rfl,fun wx hx => ?_⟩) ?_
   ·clear HS hx;go_simp
   simp only[Act.put,List.setIfInBounds_toArray,List.set_cons_zero,List.set_cons_succ];clear HS;have kr:=HM.out.row (b:=(w3.heap.size+1)) (c0:=0) (c1:=0) (c2:=0) (c3:=0) (by simp);have yl:=HM.out.lt (b:=(w3.heap.size+1)) (c0:=0) (c1:=0) (c2:=0) (c3:=0) (by simp);have y0:=kr.c0; have y1:=kr.c1; have y2:=kr.c2; have y3:=kr.c3; have yf:=kr.fr;clear kr;refine aD (i:=10) (by kernel_rfl) rfl (fun K hK => ?_);go_simp;have HM':=Lib.hid (HM.out.put s0 s1 s2 s3 (by omega) (by intro r hr; simp at hr; rcases hr with rfl|rfl|rfl<;>simp<;>omega));have KK':=Lib.hid (KK.out.set4 (d:=(w3.heap.size+1)) (by omega) s0 s1 s2 s3);clear HM KK;have HM:=HM';have KK:=KK';clear HM' KK';have HS:=And.intro (HM.out.sub (rs':=[(w3.heap.size,c0,c1,c2,c3),(w.heap.size+1,0,0,0,0),(w.heap.size,a0,a1,a2,a3)]) (by simp)) KK.out;refine hK.out _ _ (Or.inr HS) (fun _ => ?_);clear hK K HS;refine aD (i:=11) (by kernel_rfl) rfl (fun K hK => ?_);go_simp;refine hK.out _ _ (Or.inl rfl) (fun _ => ?_);clear hK K;refine aU (by kernel_rfl) ?_;go_wp2_with fail
   go_meet
   exact⟨(w3.heap.size+1),s0,s1,s2,s3,rfl,rfl,hs,HVs,Lib.hid (HM.out.sub (by simp)),KK⟩
 case rest =>
  obtain⟨gb,s0,s1,s2,s3,rfl,rfl,hs,HVs,HM',KK'⟩:=hcut;clear HM KK;have HM:=HM';have KK:=KK';clear HM' KK';obtain⟨R,hR1,hR2⟩:=HVs.out;have HR1:=Lib.hid hR1;have HR2:=Lib.hid hR2;clear hR1 hR2 HVs;have kr:=HM.out.row (b:=gb) (c0:=s0) (c1:=s1) (c2:=s2) (c3:=s3) (by simp);have x0:=kr.c0; have x1:=kr.c1; have x2:=kr.c2; have x3:=kr.c3;clear kr;have xl:=HM.out.lt (b:=gb) (c0:=s0) (c1:=s1) (c2:=s2) (c3:=s3) (by simp);go_wp2_with fail;refine (LX F hf.ok w1.heap.size s0 s1 s2 s3 hs _ KK.out).mono ?_
  rintro e w5 ⟨u0,u1,u2,u3,rfl,hu,hv,hbl⟩
  have HVu:=Lib.hid (show aA u0 u1 u2 u3=R%F.M by rw[hv,HR1.out,←fU,EW hf.ok _ (Nat.mod_lt _ hf.ok.pos)]);have lu:aA u0 u1 u2 u3<F.M:=by rw[HVu.out]; exact Nat.mod_lt _ hf.ok.pos
  have HQ:=Lib.hid (show aA u0 u1 u2 u3*aA u0 u1 u2 u3%F.M=aA a0 a1 a2 a3 by rw[HVu.out,←Nat.mul_mod,HR2.out,Nat.mod_eq_of_lt la]);clear hv;have HM':=Lib.hid (HM.out.on hbl);have KK':=Lib.hid (KK.out.same hbl);have zk:=KK'.out.lt;clear HM KK hbl;have HM:=HM';have KK:=KK';clear HM' KK';have Hlu:=Lib.hid lu;clear lu zk x0 x1 x2 x3 xl;have wz5:w1.heap.size<w5.heap.size:=KK.out.lt;have wz6:w.heap.size+1<w5.heap.size:=HM.out.lt (b:=w.heap.size+1) (c0:=0) (c1:=0) (c2:=0) (c3:=0) (by simp);have HM':=Lib.hid ((HM.out.new w5.heap.size u0 u1 u2 u3 24 rfl).sub (rs':=[(w5.heap.size,u0,u1,u2,u3),(w.heap.size+1,0,0,0,0)]) (by simp));have KK':=Lib.hid (KK.out.same ((Below.refl _ _).alloc (Nat.le_refl _) (.cells #[.int .u64 u0,.int .u64 u1,.int .u64 u2,.int .u64 u3] 24)));clear HM KK;have HM:=HM';have KK:=KK';clear HM' KK';go_wp2_with fail;refine (mZ F hf.ok w1.heap.size u0 u1 u2 u3 hu Hlu.out _ KK.out).mono ?_
  rintro e w6 ⟨he,hbl⟩
  have HM':=Lib.hid (HM.out.on hbl);have KK':=Lib.hid (KK.out.same hbl);clear HM KK hbl;have HM:=HM';have KK:=KK';clear HM' KK';cases q:cR F.M (aA u0 u1 u2 u3)
  ·rw[q]at he;subst he;have HQ2:=Lib.hid q;clear q;have kr:=HM.out.row (b:=w5.heap.size) (c0:=u0) (c1:=u1) (c2:=u2) (c3:=u3) (by simp);have x0:=kr.c0; have x1:=kr.c1; have x2:=kr.c2; have x3:=kr.c3;clear kr;have xl:=HM.out.lt (b:=w5.heap.size) (c0:=u0) (c1:=u1) (c2:=u2) (c3:=u3) (by simp);go_wp2_with fail;refine (lM F hf.ok w1.heap.size 0 0 0 0 u0 u1 u2 u3 wN hu hf.ok.pos Hlu.out _ KK.out).mono ?_
   rintro e w7 ⟨n0,n1,n2,n3,rfl,hn,hv,hbl⟩
   have HVn:=Lib.hid hv;clear hv;have HM':=Lib.hid (HM.out.on hbl);have KK':=Lib.hid (KK.out.same hbl);have zk:=KK'.out.lt;clear HM KK hbl;have HM:=HM';have KK:=KK';clear HM' KK';clear zk x0 x1 x2 x3 xl;have kr:=HM.out.row (b:=w5.heap.size) (c0:=u0) (c1:=u1) (c2:=u2) (c3:=u3) (by simp);have x0:=kr.c0; have x1:=kr.c1; have x2:=kr.c2; have x3:=kr.c3; have xf:=kr.fr;clear kr;have xl:=HM.out.lt (b:=w5.heap.size) (c0:=u0) (c1:=u1) (c2:=u2) (c3:=u3) (by simp);have kr:=HM.out.row (b:=w.heap.size+1) (c0:=0) (c1:=0) (c2:=0) (c3:=0) (by simp);have y0:=kr.c0; have y1:=kr.c1; have y2:=kr.c2; have y3:=kr.c3; have yf:=kr.fr;clear kr;have yl:=HM.out.lt (b:=w.heap.size+1) (c0:=0) (c1:=0) (c2:=0) (c3:=0) (by simp);have HM':=Lib.hid (HM.out.put n0 n1 n2 n3 (by omega) (by intro r hr; simp at hr; rcases hr with rfl; simp; omega));have ne1:¬w.heap.size+1=w5.heap.size:=by omega
   clear HM;have HM:=HM';clear HM';go_wp2_with fail;refine bodyPost_ret (v:=.tuple #[.agg #[.int .u64 n0,.int .u64 n1,.int .u64 n2,.int .u64 n3],.int .i64 0]) (by simp[results,results61,go_sem, *]) rfl ?_;obtain⟨v1,v2,v3⟩:=JE hf.ok Hlu.out HQ2.out;refine⟨_,⟨_,_,_,_,rfl,hn,HVn.out,?_⟩,?_,v2,v3⟩
   ·have HB:=HM.out.1;unfold set4 at HB;exact aM HB (by omega) _ _ _ _
   ·rw[show aA 0 0 0 0=0 from rfl,v1,HQ.out]
  ·rw[q]at he;subst he;have HQ2:=Lib.hid q;clear q;have kr:=HM.out.row (b:=w5.heap.size) (c0:=u0) (c1:=u1) (c2:=u2) (c3:=u3) (by simp);have x0:=kr.c0; have x1:=kr.c1; have x2:=kr.c2; have x3:=kr.c3;clear kr;have xl:=HM.out.lt (b:=w5.heap.size) (c0:=u0) (c1:=u1) (c2:=u2) (c3:=u3) (by simp);have kr:=HM.out.row (b:=w.heap.size+1) (c0:=0) (c1:=0) (c2:=0) (c3:=0) (by simp);have y0:=kr.c0; have y1:=kr.c1; have y2:=kr.c2; have y3:=kr.c3; have yf:=kr.fr;clear kr;have yl:=HM.out.lt (b:=w.heap.size+1) (c0:=0) (c1:=0) (c2:=0) (c3:=0) (by simp);go_wp2_with fail;refine bodyPost_ret (v:=.tuple #[.agg #[.int .u64 u0,.int .u64 u1,.int .u64 u2,.int .u64 u3],.int .i64 0]) (by simp[results,results61,go_sem, *]) rfl ?_;refine⟨_,⟨_,_,_,_,rfl,hu,rfl,?_⟩,HQ.out,Hlu.out,HQ2.out⟩;exact aM HM.out.1 (by omega) _ _ _ _
set_option maxHeartbeats 2000000 in
theorem BH (f:Int) (F:FC) (hf:FieldIs f F) (a0 a1 a2 a3:Nat) (ha:aZ a0 a1 a2 a3) (la:aA a0 a1 a2 a3<F.M) (hz:aA a0 a1 a2 a3≠0) (hs2:aA a0 a1 a2 a3^(F.M/2)%F.M≠1) (w:World) :
  Calls prog 61 #[.int .i64 f,.agg #[.int .u64 a0,.int .u64 a1,.int .u64 a2,.int .u64 a3]] w (WM 23 0 w):=by
 have HE:=Lib.hid (show ∀w,(Op.equalIn 10000 24 (.agg #[.int .u64 a0,.int .u64 a1,.int .u64 a2,.int .u64 a3]) (.agg #[.int .u64 0,.int .u64 0,.int .u64 0,.int .u64 0])).run prog w=.ok false w from fun w=>by
  have h:=jO 9998 a0 a1 a2 a3 0 0 0 0 w;rw[show yC a0 a1 a2 a3 0 0 0 0=false from jP (fun q=>hz (((gD ha wN).1 q).trans rfl))]at h;exact h)
 have hG:=jQ;have HS2:=Lib.hid hs2;have HZ:=Lib.hid hz;clear hz hs2
 go_enter func61,ntmps61
 go_wp2_with fail;refine (dL f F hf _).mono ?_
 rintro e w1 ⟨rfl,hbl⟩
 have M1:=(((Mem.nil w).new (w.heap.size) a0 a1 a2 a3 24 (by simp)).new (w.heap.size+1) 0 0 0 0 24 (by simp)).on hbl;clear hbl;have z0:w.heap.size<w1.heap.size:=M1.lt (c0:=a0) (c1:=a1) (c2:=a2) (c3:=a3) (by simp);have z1:w.heap.size+1<w1.heap.size:=M1.lt (c0:=0) (c1:=0) (c2:=0) (c3:=0) (by simp);have HM:=Lib.hid (M1.on ((Below.refl _ _).alloc (Nat.le_refl _) (.cells #[.int .u64 F.m0,.int .u64 F.m1,.int .u64 F.m2,.int .u64 F.m3,.int .u64 F.inv,.int .u64 F.s0,.int .u64 F.s1,.int .u64 F.s2,.int .u64 F.s3] 87)));have KK:=Lib.hid (KIs.new w1 F 87);have kr:=M1.row (b:=w.heap.size) (c0:=a0) (c1:=a1) (c2:=a2) (c3:=a3) (by simp);have x0:=kr.c0; have x1:=kr.c1; have x2:=kr.c2; have x3:=kr.c3;clear kr;have xl:=M1.lt (b:=w.heap.size) (c0:=a0) (c1:=a1) (c2:=a2) (c3:=a3) (by simp);go_wp2_with fail;refine (cO F hf.ok w1.heap.size a0 a1 a2 a3 ha _ KK.out).mono ?_
 rintro e w2 ⟨he,hbl⟩
 rw[show tN (aA a0 a1 a2 a3) F.M=true from decide_eq_true la]at he;subst he;have HM':=Lib.hid (HM.out.on hbl);have KK':=Lib.hid (KK.out.same hbl);have zk:=KK'.out.lt;clear HM KK hbl M1;have HM:=HM';have KK:=KK';clear HM' KK';clear x0 x1 x2 x3 xl zk;have kr:=HM.out.row (b:=w.heap.size) (c0:=a0) (c1:=a1) (c2:=a2) (c3:=a3) (by simp);have x0:=kr.c0; have x1:=kr.c1; have x2:=kr.c2; have x3:=kr.c3;clear kr;have xl:=HM.out.lt (b:=w.heap.size) (c0:=a0) (c1:=a1) (c2:=a2) (c3:=a3) (by simp);have hE:=HE.out;go_wp2_with fail;clear hE x0 x1 x2 x3 xl;refine (rD f F hf _).mono ?_
 rintro e w3 ⟨T,H,c0,c1,c2,c3,rfl,hc,hT1,hT2,hMT,hcyc,hbl⟩
 have HMT:=Lib.hid hMT;have HCY:=Lib.hid hcyc;clear hMT hcyc;have HM':=Lib.hid (HM.out.on hbl);have KK':=Lib.hid (KK.out.same hbl);have zk:=KK'.out.lt;clear HM KK hbl;have HM:=HM';have KK:=KK';clear HM' KK';clear zk;have wz:w1.heap.size<w3.heap.size:=KK.out.lt;have HM':=Lib.hid (HM.out.new w3.heap.size c0 c1 c2 c3 24 rfl);have KK':=Lib.hid (KK.out.same ((Below.refl _ _).alloc (Nat.le_refl _) (.cells #[.int .u64 c0,.int .u64 c1,.int .u64 c2,.int .u64 c3] 24)));clear HM KK;have HM:=HM';have KK:=KK';clear HM' KK';clear HE hG
 go_upto_region 7 with fail
 go_cut [10,11] (fun s10 s11 wx=>∃gb s0 s1 s2 s3:Nat,s10=.pointer (some ⟨gb,0,none⟩)∧s11=.bool false∧aZ s0 s1 s2 s3∧True∧Hid (Mem w wx [(gb,s0,s1,s2,s3),(w.heap.size+1,0,0,0,0)])∧Hid (KIs wx w1.heap.size F))
 case first =>
  obtain⟨gr,hroot⟩:=hf.root;have HRo:=Lib.hid hroot;clear hroot;refine bM (fun wx=>Mem w wx [(w3.heap.size,c0,c1,c2,c3),(w.heap.size+1,0,0,0,0),(w.heap.size,a0,a1,a2,a3)]∧KIs wx w1.heap.size F) 11 (by kernel_rfl) ?_;have HM':=Lib.hid (HM.out.drewN 1);have KK':=Lib.hid (KK.out.drewN 1);clear HM KK;have HM:=HM';have KK:=KK';clear HM' KK';have HS:=And.intro (HM.out.sub (rs':=[(w3.heap.size,c0,c1,c2,c3),(w.heap.size+1,0,0,0,0),(w.heap.size,a0,a1,a2,a3)]) (by simp)) KK.out;refine aC (i:=0) (v:=.agg #[.int .u64 a0,.int .u64 a1,.int .u64 a2,.int .u64 a3]) rfl (by kernel_rfl) (by kernel_rfl) (by kernel_rfl) (by kernel_rfl) (fun _ _ _ h=>h) HS (Or.inl ⟨by kernel_rfl,fun wx hx => ?_⟩) ?_
  ·have kr:=hx.1.row (b:=w.heap.size) (c0:=a0) (c1:=a1) (c2:=a2) (c3:=a3) (by simp);have x0:=kr.c0; have x1:=kr.c1; have x2:=kr.c2; have x3:=kr.c3;clear kr HS hx;go_simp
  simp only[Act.put,List.setIfInBounds_toArray,List.set_cons_zero,List.set_cons_succ];refine aC (i:=2) (v:=.int .i64 (T:Nat)) rfl (by kernel_rfl) (by kernel_rfl) (by kernel_rfl) (by kernel_rfl) (fun _ _ _ h=>h) HS (Or.inl ⟨by kernel_rfl,fun wx hx => ?_⟩) ?_
  ·clear HS hx;go_simp
  simp only[Act.put,List.setIfInBounds_toArray,List.set_cons_zero,List.set_cons_succ];refine aC (i:=3) (v:=.agg #[.int .u64 c0,.int .u64 c1,.int .u64 c2,.int .u64 c3]) rfl (by kernel_rfl) (by kernel_rfl) (by kernel_rfl) (by kernel_rfl) (fun _ _ _ h=>h) HS (Or.inl ⟨by kernel_rfl,fun wx hx => ?_⟩) ?_
  ·have kr:=hx.1.row (b:=w3.heap.size) (c0:=c0) (c1:=c1) (c2:=c2) (c3:=c3) (by simp);have x0:=kr.c0; have x1:=kr.c1; have x2:=kr.c2; have x3:=kr.c3;clear kr HS hx;go_simp
  simp only[Act.put,List.setIfInBounds_toArray,List.set_cons_zero,List.set_cons_succ];clear HS;refine cI (i:=1) (j:=9) (by kernel_rfl) rfl rfl (fun K hK => ?_) (fun K hK => ?_)
  ·go_simp;refine (cW F hf.ok w1.heap.size a0 a1 a2 a3 ha _ KK.out).mono ?_
   rintro e v1 ⟨i0,i1,i2,i3,rfl,hi,hv,hbl⟩
   have HVi:=Lib.hid hv;clear hv;have HM':=Lib.hid (HM.out.on hbl);have KK':=Lib.hid (KK.out.same hbl);clear HM KK hbl;have HM:=HM';have KK:=KK';clear HM' KK';have HS:=And.intro (HM.out.sub (rs':=[(w3.heap.size,c0,c1,c2,c3),(w.heap.size+1,0,0,0,0),(w.heap.size,a0,a1,a2,a3)]) (by simp)) KK.out;refine hK.out _ _ (Or.inr HS) (fun _ => ?_);clear hK K HS;refine cI (i:=4) (j:=9) (by kernel_rfl) rfl rfl (fun K hK => ?_) (fun K hK => ?_)
   ·go_simp;refine (cW F hf.ok w1.heap.size c0 c1 c2 c3 hc _ KK.out).mono ?_
    rintro e v2 ⟨j0,j1,j2,j3,rfl,hj,hv,hbl⟩
    have HVj:=Lib.hid hv;clear hv;have HM':=Lib.hid (HM.out.on hbl);have KK':=Lib.hid (KK.out.same hbl);clear HM KK hbl;have HM:=HM';have KK:=KK';clear HM' KK';have HS:=And.intro (HM.out.sub (rs':=[(w3.heap.size,c0,c1,c2,c3),(w.heap.size+1,0,0,0,0),(w.heap.size,a0,a1,a2,a3)]) (by simp)) KK.out;refine hK.out _ _ (Or.inr HS) (fun _ => ?_);clear hK K HS;refine cI (i:=5) (j:=9) (by kernel_rfl) rfl rfl (fun K hK => ?_) (fun K hK => ?_)
    ·go_simp;refine (rW F hf.ok gr HRo.out (aA a0 a1 a2 a3) H T (aA c0 c1 c2 c3) w1.heap.size i0 i1 i2 i3 j0 j1 j2 j3 hi hj HVi.out HVj.out hT1 hT2 HMT.out HS2.out _ KK.out).mono ?_
     rintro e v3 ⟨rfl,hbl⟩
     have HM':=Lib.hid (HM.out.on hbl);have KK':=Lib.hid (KK.out.same hbl);clear HM KK hbl;have HM:=HM';have KK:=KK';clear HM' KK';have HS:=And.intro (HM.out.sub (rs':=[(w3.heap.size,c0,c1,c2,c3),(w.heap.size+1,0,0,0,0),(w.heap.size,a0,a1,a2,a3)]) (by simp)) KK.out;refine hK.out _ _ (Or.inr HS) (fun _ => ?_);clear hK K HS;have HS:=And.intro (HM.out.sub (rs':=[(w3.heap.size,c0,c1,c2,c3),(w.heap.size+1,0,0,0,0),(w.heap.size,a0,a1,a2,a3)]) (by simp)) KK.out;refine aC (i:=6) (v:=.tuple #[.agg #[.int .u64 0,.int .u64 0,.int .u64 0,.int .u64 0],.bool false]) rfl (by kernel_rfl) (by kernel_rfl) (by kernel_rfl) (by kernel_rfl) (fun _ _ _ h=>h) HS (Or.inl ⟨by kernel_rfl,fun wx hx => ?_⟩) ?_
     ·clear HS hx;go_simp
     simp only[Act.put,List.setIfInBounds_toArray,List.set_cons_zero,List.set_cons_succ];refine aC (i:=7) (v:=.agg #[.int .u64 0,.int .u64 0,.int .u64 0,.int .u64 0]) rfl (by kernel_rfl) (by kernel_rfl) (by kernel_rfl) (by kernel_rfl) (fun _ _ _ h=>h) HS (Or.inl ⟨by kernel_rfl,fun wx hx => ?_⟩) ?_
     ·clear HS hx;go_simp
     simp only[Act.put,List.setIfInBounds_toArray,List.set_cons_zero,List.set_cons_succ];refine aC (i:=8) (v:=.bool false) rfl (by kernel_rfl) (by kernel_rfl) (by kernel_rfl) (by kernel_rfl) (fun _ _ _ h=>h) HS (Or.inl ⟨by kernel_rfl,fun wx hx => ?_⟩) ?_
     ·clear HS hx;go_simp
     simp only[Act.put,List.setIfInBounds_toArray,List.set_cons_zero,List.set_cons_succ];clear HS;refine aD (i:=9) (by kernel_rfl) rfl (fun K hK => ?_);go_simp;have HM9:=HM;have KK9:=KK;have HM':=Lib.hid (HM.out.new (v3.heap.size) 0 0 0 0 85 (by first|rfl|(simp; done)));have KK':=Lib.hid (KK.out.same ((Below.refl _ _).alloc (Nat.le_refl _) (.cells #[.int .u64 (0:Nat),.int .u64 (0:Nat),.int .u64 (0:Nat),.int .u64 (0:Nat)] 85)));have hgk:w1.heap.size<(v3.heap.size):=by first|omega|exact KK.out.lt|(have:=KK.out.lt; simpa using this)
     have hgc:w3.heap.size<(v3.heap.size):=by first|omega|exact HM.out.lt (b:=w3.heap.size) (c0:=c0) (c1:=c1) (c2:=c2) (c3:=c3) (by simp)
     have hga:w.heap.size+1<(v3.heap.size):=by omega
     clear HM KK;have HM:=HM';have KK:=KK';clear HM' KK';have HS:=And.intro (HM.out.sub (rs':=[(w3.heap.size,c0,c1,c2,c3),(w.heap.size+1,0,0,0,0),(w.heap.size,a0,a1,a2,a3)]) (by simp)) KK.out;refine hK.out _ _ (Or.inr HS) (fun _ => ?_);clear hK K HS;have kr:=HM.out.row (b:=(v3.heap.size)) (c0:=0) (c1:=0) (c2:=0) (c3:=0) (by simp);have yl:=HM.out.lt (b:=(v3.heap.size)) (c0:=0) (c1:=0) (c2:=0) (c3:=0) (by simp);have y0:=kr.c0; have y1:=kr.c1; have y2:=kr.c2; have y3:=kr.c3; have yf:=kr.fr;clear kr;refine aD (i:=10) (by kernel_rfl) rfl (fun K hK => ?_);go_simp;have HM':=Lib.hid (HM9.out.new (v3.heap.size) 0 0 0 0 85 (by first|rfl|(simp; done)));have KK':=Lib.hid (KK9.out.same ((Below.refl _ _).alloc (Nat.le_refl _) (.cells #[.int .u64 0,.int .u64 0,.int .u64 0,.int .u64 0] 85)));clear HM KK;have HM:=HM';have KK:=KK';clear HM' KK';have HS:=And.intro (HM.out.sub (rs':=[(w3.heap.size,c0,c1,c2,c3),(w.heap.size+1,0,0,0,0),(w.heap.size,a0,a1,a2,a3)]) (by simp)) KK.out;refine hK.out _ _ (Or.inr HS) (fun _ => ?_);clear hK K HS;refine aD (i:=11) (by kernel_rfl) rfl (fun K hK => ?_);go_simp;refine hK.out _ _ (Or.inl rfl) (fun _ => ?_);clear hK K;refine aU (by kernel_rfl) ?_;go_wp2_with fail
     go_meet
     exact⟨(v3.heap.size),0,0,0,0,rfl,rfl,wN,trivial,Lib.hid (HM.out.sub (by simp)),KK⟩
    ·go_simp;have HM9:=HM;have KK9:=KK;have HM':=Lib.hid (HM.out.new (v2.heap.size) 0 0 0 0 85 (by first|rfl|(simp; done)));have KK':=Lib.hid (KK.out.same ((Below.refl _ _).alloc (Nat.le_refl _) (.cells #[.int .u64 (0:Nat),.int .u64 (0:Nat),.int .u64 (0:Nat),.int .u64 (0:Nat)] 85)));have hgk:w1.heap.size<(v2.heap.size):=by first|omega|exact KK.out.lt|(have:=KK.out.lt; simpa using this)
     have hgc:w3.heap.size<(v2.heap.size):=by first|omega|exact HM.out.lt (b:=w3.heap.size) (c0:=c0) (c1:=c1) (c2:=c2) (c3:=c3) (by simp)
     have hga:w.heap.size+1<(v2.heap.size):=by omega
     clear HM KK;have HM:=HM';have KK:=KK';clear HM' KK';have HS:=And.intro (HM.out.sub (rs':=[(w3.heap.size,c0,c1,c2,c3),(w.heap.size+1,0,0,0,0),(w.heap.size,a0,a1,a2,a3)]) (by simp)) KK.out;refine hK.out _ _ (Or.inr HS) (fun _ => ?_);clear hK K HS;refine aD (i:=5) (by kernel_rfl) rfl (fun K hK => ?_);go_simp;refine (rW F hf.ok gr HRo.out (aA a0 a1 a2 a3) H T (aA c0 c1 c2 c3) w1.heap.size i0 i1 i2 i3 j0 j1 j2 j3 hi hj HVi.out HVj.out hT1 hT2 HMT.out HS2.out _ KK.out).mono ?_
     rintro e v3 ⟨rfl,hbl⟩
     have HM':=Lib.hid (HM.out.on hbl);have KK':=Lib.hid (KK.out.same hbl);clear HM KK hbl;have HM:=HM';have KK:=KK';clear HM' KK';have HS:=And.intro (HM.out.sub (rs':=[(w3.heap.size,c0,c1,c2,c3),(w.heap.size+1,0,0,0,0),(w.heap.size,a0,a1,a2,a3)]) (by simp)) KK.out;refine hK.out _ _ (Or.inr HS) (fun _ => ?_);clear hK K HS;have HS:=And.intro (HM.out.sub (rs':=[(w3.heap.size,c0,c1,c2,c3),(w.heap.size+1,0,0,0,0),(w.heap.size,a0,a1,a2,a3)]) (by simp)) KK.out;refine aC (i:=6) (v:=.tuple #[.agg #[.int .u64 0,.int .u64 0,.int .u64 0,.int .u64 0],.bool false]) rfl (by kernel_rfl) (by kernel_rfl) (by kernel_rfl) (by kernel_rfl) (fun _ _ _ h=>h) HS (Or.inl ⟨by kernel_rfl,fun wx hx => ?_⟩) ?_
     ·clear HS hx;go_simp
     simp only[Act.put,List.setIfInBounds_toArray,List.set_cons_zero,List.set_cons_succ];refine aC (i:=7) (v:=.agg #[.int .u64 0,.int .u64 0,.int .u64 0,.int .u64 0]) rfl (by kernel_rfl) (by kernel_rfl) (by kernel_rfl) (by kernel_rfl) (fun _ _ _ h=>h) HS (Or.inl ⟨by kernel_rfl,fun wx hx => ?_⟩) ?_
     ·clear HS hx;go_simp
     simp only[Act.put,List.setIfInBounds_toArray,List.set_cons_zero,List.set_cons_succ];refine aC (i:=8) (v:=.bool false) rfl (by kernel_rfl) (by kernel_rfl) (by kernel_rfl) (by kernel_rfl) (fun _ _ _ h=>h) HS (Or.inl ⟨by kernel_rfl,fun wx hx => ?_⟩) ?_
     ·clear HS hx;go_simp
     simp only[Act.put,List.setIfInBounds_toArray,List.set_cons_zero,List.set_cons_succ];clear HS;have kr:=HM.out.row (b:=(v2.heap.size)) (c0:=0) (c1:=0) (c2:=0) (c3:=0) (by simp);have yl:=HM.out.lt (b:=(v2.heap.size)) (c0:=0) (c1:=0) (c2:=0) (c3:=0) (by simp);have y0:=kr.c0; have y1:=kr.c1; have y2:=kr.c2; have y3:=kr.c3; have yf:=kr.fr;clear kr;refine aD (i:=10) (by kernel_rfl) rfl (fun K hK => ?_);go_simp;have HM':=Lib.hid (HM.out.put 0 0 0 0 (by omega) (by intro r hr; simp at hr; rcases hr with rfl|rfl|rfl<;>simp<;>omega));have KK':=Lib.hid (KK.out.set4 (d:=(v2.heap.size)) (by omega) 0 0 0 0);clear HM KK;have HM:=HM';have KK:=KK';clear HM' KK';have HS:=And.intro (HM.out.sub (rs':=[(w3.heap.size,c0,c1,c2,c3),(w.heap.size+1,0,0,0,0),(w.heap.size,a0,a1,a2,a3)]) (by simp)) KK.out;refine hK.out _ _ (Or.inr HS) (fun _ => ?_);clear hK K HS;refine aD (i:=11) (by kernel_rfl) rfl (fun K hK => ?_);go_simp;refine hK.out _ _ (Or.inl rfl) (fun _ => ?_);clear hK K;refine aU (by kernel_rfl) ?_;go_wp2_with fail
     go_meet
     exact⟨(v2.heap.size),0,0,0,0,rfl,rfl,wN,trivial,Lib.hid (HM.out.sub (by simp)),KK⟩
   ·go_simp;have HM9:=HM;have KK9:=KK;have HM':=Lib.hid (HM.out.new (v1.heap.size) 0 0 0 0 85 (by first|rfl|(simp; done)));have KK':=Lib.hid (KK.out.same ((Below.refl _ _).alloc (Nat.le_refl _) (.cells #[.int .u64 (0:Nat),.int .u64 (0:Nat),.int .u64 (0:Nat),.int .u64 (0:Nat)] 85)));have hgk:w1.heap.size<(v1.heap.size):=by first|omega|exact KK.out.lt|(have:=KK.out.lt; simpa using this)
    have hgc:w3.heap.size<(v1.heap.size):=by first|omega|exact HM.out.lt (b:=w3.heap.size) (c0:=c0) (c1:=c1) (c2:=c2) (c3:=c3) (by simp)
    have hga:w.heap.size+1<(v1.heap.size):=by omega
    clear HM KK;have HM:=HM';have KK:=KK';clear HM' KK';have HS:=And.intro (HM.out.sub (rs':=[(w3.heap.size,c0,c1,c2,c3),(w.heap.size+1,0,0,0,0),(w.heap.size,a0,a1,a2,a3)]) (by simp)) KK.out;refine hK.out _ _ (Or.inr HS) (fun _ => ?_);clear hK K HS;refine aD (i:=4) (by kernel_rfl) rfl (fun K hK => ?_);go_simp;refine (cW F hf.ok w1.heap.size c0 c1 c2 c3 hc _ KK.out).mono ?_
    rintro e v2 ⟨j0,j1,j2,j3,rfl,hj,hv,hbl⟩
    have HVj:=Lib.hid hv;clear hv;have HM':=Lib.hid (HM.out.on hbl);have KK':=Lib.hid (KK.out.same hbl);clear HM KK hbl;have HM:=HM';have KK:=KK';clear HM' KK';have HS:=And.intro (HM.out.sub (rs':=[(w3.heap.size,c0,c1,c2,c3),(w.heap.size+1,0,0,0,0),(w.heap.size,a0,a1,a2,a3)]) (by simp)) KK.out;refine hK.out _ _ (Or.inr HS) (fun _ => ?_);clear hK K HS;refine aD (i:=5) (by kernel_rfl) rfl (fun K hK => ?_);go_simp;refine (rW F hf.ok gr HRo.out (aA a0 a1 a2 a3) H T (aA c0 c1 c2 c3) w1.heap.size i0 i1 i2 i3 j0 j1 j2 j3 hi hj HVi.out HVj.out hT1 hT2 HMT.out HS2.out _ KK.out).mono ?_
    rintro e v3 ⟨rfl,hbl⟩
    have HM':=Lib.hid (HM.out.on hbl);have KK':=Lib.hid (KK.out.same hbl);clear HM KK hbl;have HM:=HM';have KK:=KK';clear HM' KK';have HS:=And.intro (HM.out.sub (rs':=[(w3.heap.size,c0,c1,c2,c3),(w.heap.size+1,0,0,0,0),(w.heap.size,a0,a1,a2,a3)]) (by simp)) KK.out;refine hK.out _ _ (Or.inr HS) (fun _ => ?_);clear hK K HS;have HS:=And.intro (HM.out.sub (rs':=[(w3.heap.size,c0,c1,c2,c3),(w.heap.size+1,0,0,0,0),(w.heap.size,a0,a1,a2,a3)]) (by simp)) KK.out;refine aC (i:=6) (v:=.tuple #[.agg #[.int .u64 0,.int .u64 0,.int .u64 0,.int .u64 0],.bool false]) rfl (by kernel_rfl) (by kernel_rfl) (by kernel_rfl) (by kernel_rfl) (fun _ _ _ h=>h) HS (Or.inl ⟨by kernel_rfl,fun wx hx => ?_⟩) ?_
    ·clear HS hx;go_simp
    simp only[Act.put,List.setIfInBounds_toArray,List.set_cons_zero,List.set_cons_succ];refine aC (i:=7) (v:=.agg #[.int .u64 0,.int .u64 0,.int .u64 0,.int .u64 0]) rfl (by kernel_rfl) (by kernel_rfl) (by kernel_rfl) (by kernel_rfl) (fun _ _ _ h=>h) HS (Or.inl ⟨by kernel_rfl,fun wx hx => ?_⟩) ?_
    ·clear HS hx;go_simp
    simp only[Act.put,List.setIfInBounds_toArray,List.set_cons_zero,List.set_cons_succ];refine aC (i:=8) (v:=.bool false) rfl (by kernel_rfl) (by kernel_rfl) (by kernel_rfl) (by kernel_rfl) (fun _ _ _ h=>h) HS (Or.inl ⟨by kernel_rfl,fun wx hx => ?_⟩) ?_
    ·clear HS hx;go_simp
    simp only[Act.put,List.setIfInBounds_toArray,List.set_cons_zero,List.set_cons_succ];clear HS;have kr:=HM.out.row (b:=(v1.heap.size)) (c0:=0) (c1:=0) (c2:=0) (c3:=0) (by simp);have yl:=HM.out.lt (b:=(v1.heap.size)) (c0:=0) (c1:=0) (c2:=0) (c3:=0) (by simp);have y0:=kr.c0; have y1:=kr.c1; have y2:=kr.c2; have y3:=kr.c3; have yf:=kr.fr;clear kr;refine aD (i:=10) (by kernel_rfl) rfl (fun K hK => ?_);go_simp;have HM':=Lib.hid (HM.out.put 0 0 0 0 (by omega) (by intro r hr; simp at hr; rcases hr with rfl|rfl|rfl<;>simp<;>omega));have KK':=Lib.hid (KK.out.set4 (d:=(v1.heap.size)) (by omega) 0 0 0 0);clear HM KK;have HM:=HM';have KK:=KK';clear HM' KK';have HS:=And.intro (HM.out.sub (rs':=[(w3.heap.size,c0,c1,c2,c3),(w.heap.size+1,0,0,0,0),(w.heap.size,a0,a1,a2,a3)]) (by simp)) KK.out;refine hK.out _ _ (Or.inr HS) (fun _ => ?_);clear hK K HS;refine aD (i:=11) (by kernel_rfl) rfl (fun K hK => ?_);go_simp;refine hK.out _ _ (Or.inl rfl) (fun _ => ?_);clear hK K;refine aU (by kernel_rfl) ?_;go_wp2_with fail
    go_meet
    exact⟨(v1.heap.size),0,0,0,0,rfl,rfl,wN,trivial,Lib.hid (HM.out.sub (by simp)),KK⟩
  ·go_simp;have HM9:=HM;have KK9:=KK;have HM':=Lib.hid (HM.out.new (w3.heap.size+1) 0 0 0 0 85 (by first|rfl|(simp; done)));have KK':=Lib.hid (KK.out.same ((Below.refl _ _).alloc (Nat.le_refl _) (.cells #[.int .u64 (0:Nat),.int .u64 (0:Nat),.int .u64 (0:Nat),.int .u64 (0:Nat)] 85)));have hgk:w1.heap.size<(w3.heap.size+1):=by first|omega|exact KK.out.lt|(have:=KK.out.lt; simpa using this)
   have hgc:w3.heap.size<(w3.heap.size+1):=by first|omega|exact HM.out.lt (b:=w3.heap.size) (c0:=c0) (c1:=c1) (c2:=c2) (c3:=c3) (by simp)
   have hga:w.heap.size+1<(w3.heap.size+1):=by omega
   clear HM KK;have HM:=HM';have KK:=KK';clear HM' KK';have HS:=And.intro (HM.out.sub (rs':=[(w3.heap.size,c0,c1,c2,c3),(w.heap.size+1,0,0,0,0),(w.heap.size,a0,a1,a2,a3)]) (by simp)) KK.out;refine hK.out _ _ (Or.inr HS) (fun _ => ?_);clear hK K HS;refine aD (i:=1) (by kernel_rfl) rfl (fun K hK => ?_);go_simp;refine (cW F hf.ok w1.heap.size a0 a1 a2 a3 ha _ KK.out).mono ?_
   rintro e v1 ⟨i0,i1,i2,i3,rfl,hi,hv,hbl⟩
   have HVi:=Lib.hid hv;clear hv;have HM':=Lib.hid (HM.out.on hbl);have KK':=Lib.hid (KK.out.same hbl);clear HM KK hbl;have HM:=HM';have KK:=KK';clear HM' KK';have HS:=And.intro (HM.out.sub (rs':=[(w3.heap.size,c0,c1,c2,c3),(w.heap.size+1,0,0,0,0),(w.heap.size,a0,a1,a2,a3)]) (by simp)) KK.out;refine hK.out _ _ (Or.inr HS) (fun _ => ?_);clear hK K HS;refine aD (i:=4) (by kernel_rfl) rfl (fun K hK => ?_);go_simp;refine (cW F hf.ok w1.heap.size c0 c1 c2 c3 hc _ KK.out).mono ?_
   rintro e v2 ⟨j0,j1,j2,j3,rfl,hj,hv,hbl⟩
   have HVj:=Lib.hid hv;clear hv;have HM':=Lib.hid (HM.out.on hbl);have KK':=Lib.hid (KK.out.same hbl);clear HM KK hbl;have HM:=HM';have KK:=KK';clear HM' KK';have HS:=And.intro (HM.out.sub (rs':=[(w3.heap.size,c0,c1,c2,c3),(w.heap.size+1,0,0,0,0),(w.heap.size,a0,a1,a2,a3)]) (by simp)) KK.out;refine hK.out _ _ (Or.inr HS) (fun _ => ?_);clear hK K HS;refine aD (i:=5) (by kernel_rfl) rfl (fun K hK => ?_);go_simp;refine (rW F hf.ok gr HRo.out (aA a0 a1 a2 a3) H T (aA c0 c1 c2 c3) w1.heap.size i0 i1 i2 i3 j0 j1 j2 j3 hi hj HVi.out HVj.out hT1 hT2 HMT.out HS2.out _ KK.out).mono ?_
   rintro e v3 ⟨rfl,hbl⟩
   have HM':=Lib.hid (HM.out.on hbl);have KK':=Lib.hid (KK.out.same hbl);clear HM KK hbl;have HM:=HM';have KK:=KK';clear HM' KK';have HS:=And.intro (HM.out.sub (rs':=[(w3.heap.size,c0,c1,c2,c3),(w.heap.size+1,0,0,0,0),(w.heap.size,a0,a1,a2,a3)]) (by simp)) KK.out;refine hK.out _ _ (Or.inr HS) (fun _ => ?_);clear hK K HS;have HS:=And.intro (HM.out.sub (rs':=[(w3.heap.size,c0,c1,c2,c3),(w.heap.size+1,0,0,0,0),(w.heap.size,a0,a1,a2,a3)]) (by simp)) KK.out;refine aC (i:=6) (v:=.tuple #[.agg #[.int .u64 0,.int .u64 0,.int .u64 0,.int .u64 0],.bool false]) rfl (by kernel_rfl) (by kernel_rfl) (by kernel_rfl) (by kernel_rfl) (fun _ _ _ h=>h) HS (Or.inl ⟨by kernel_rfl,fun wx hx => ?_⟩) ?_
   ·clear HS hx;go_simp
   simp only[Act.put,List.setIfInBounds_toArray,List.set_cons_zero,List.set_cons_succ];refine aC (i:=7) (v:=.agg #[.int .u64 0,.int .u64 0,.int .u64 0,.int .u64 0]) rfl (by kernel_rfl) (by kernel_rfl) (by kernel_rfl) (by kernel_rfl) (fun _ _ _ h=>h) HS (Or.inl ⟨by kernel_rfl,fun wx hx => ?_⟩) ?_
   ·clear HS hx;go_simp
   simp only[Act.put,List.setIfInBounds_toArray,List.set_cons_zero,List.set_cons_succ];refine aC (i:=8) (v:=.bool false) rfl (by kernel_rfl) (by kernel_rfl) (by kernel_rfl) (by kernel_rfl) (fun _ _ _ h=>h) HS (Or.inl ⟨by kernel_rfl,fun wx hx => ?_⟩) ?_
   ·clear HS hx;go_simp
   simp only[Act.put,List.setIfInBounds_toArray,List.set_cons_zero,List.set_cons_succ];clear HS;have kr:=HM.out.row (b:=(w3.heap.size+1)) (c0:=0) (c1:=0) (c2:=0) (c3:=0) (by simp);have yl:=HM.out.lt (b:=(w3.heap.size+1)) (c0:=0) (c1:=0) (c2:=0) (c3:=0) (by simp);have y0:=kr.c0; have y1:=kr.c1; have y2:=kr.c2; have y3:=kr.c3; have yf:=kr.fr;clear kr;refine aD (i:=10) (by kernel_rfl) rfl (fun K hK => ?_);go_simp;have HM':=Lib.hid (HM.out.put 0 0 0 0 (by omega) (by intro r hr; simp at hr; rcases hr with rfl|rfl|rfl<;>simp<;>omega));have KK':=Lib.hid (KK.out.set4 (d:=(w3.heap.size+1)) (by omega) 0 0 0 0);clear HM KK;have HM:=HM';have KK:=KK';clear HM' KK';have HS:=And.intro (HM.out.sub (rs':=[(w3.heap.size,c0,c1,c2,c3),(w.heap.size+1,0,0,0,0),(w.heap.size,a0,a1,a2,a3)]) (by simp)) KK.out;refine hK.out _ _ (Or.inr HS) (fun _ => ?_);clear hK K HS;refine aD (i:=11) (by kernel_rfl) rfl (fun K hK => ?_);go_simp;refine hK.out _ _ (Or.inl rfl) (fun _ => ?_);clear hK K;refine aU (by kernel_rfl) ?_;go_wp2_with fail
   go_meet
   exact⟨(w3.heap.size+1),0,0,0,0,rfl,rfl,wN,trivial,Lib.hid (HM.out.sub (by simp)),KK⟩
 case rest =>
  obtain⟨gb,s0,s1,s2,s3,rfl,rfl,hs,_,HM',KK'⟩:=hcut;clear HM KK;have HM:=HM';have KK:=KK';clear HM' KK';have kr:=HM.out.row (b:=w.heap.size+1) (c0:=0) (c1:=0) (c2:=0) (c3:=0) (by simp);have y0:=kr.c0; have y1:=kr.c1; have y2:=kr.c2; have y3:=kr.c3; have yf:=kr.fr;clear kr;have yl:=HM.out.lt (b:=w.heap.size+1) (c0:=0) (c1:=0) (c2:=0) (c3:=0) (by simp);go_wp2_with fail;refine bodyPost_ret (v:=.tuple #[.agg #[.int .u64 0,.int .u64 0,.int .u64 0,.int .u64 0],.int .i64 23]) (by simp[results,results61,go_sem, *]) rfl ?_;refine⟨_,_,_,_,rfl,wN,rfl,?_⟩;exact aM HM.out.1 (by omega) 0 0 0 0
set_option maxHeartbeats 2000000 in
theorem fJ (f:Int) (F:FC) (hf:FieldIs f F) (w:World):Calls prog 56 #[.int .i64 f] w fun e w'=>e=.returned (.agg #[.int .u64 F.m0,.int .u64 F.m1,.int .u64 F.m2,.int .u64 F.m3])∧Below w.heap.size w w':=by
 rcases hf with⟨rfl,rfl⟩|⟨rfl,rfl⟩
 ·go_enter func56,ntmps56
  go_wp2_with fail;refine bodyPost_ret (v:=.agg #[.int .u64 FP.m0,.int .u64 FP.m1,.int .u64 FP.m2,.int .u64 FP.m3]) (by simp[results,results56,go_sem,FP]) rfl ?_;refine⟨rfl,?_⟩
  repeat (first|exact Below.refl _ _|refine Below.drew ?_|refine Below.alloc ?_ (by first|(simp; done)|(simp; omega)) _|refine Below.setCell ?_ (by simp) _)
 ·go_enter func56,ntmps56
  go_wp2_with fail;refine bodyPost_ret (v:=.agg #[.int .u64 FR.m0,.int .u64 FR.m1,.int .u64 FR.m2,.int .u64 FR.m3]) (by simp[results,results56,go_sem,FR]) rfl ?_;refine⟨rfl,?_⟩
  repeat (first|exact Below.refl _ _|refine Below.drew ?_|refine Below.alloc ?_ (by first|(simp; done)|(simp; omega)) _|refine Below.setCell ?_ (by simp) _)
section
variable {M g:Nat}
theorem vT (A B C:Nat):A*B%M*C%M=A*(B*C%M)%M:=by rw[mO,qB,Nat.mul_assoc]
end
theorem JW {s0 s1 s2 s3 t0 t1 t2 t3:Nat} (hs:aZ s0 s1 s2 s3) (ht:aZ t0 t1 t2 t3) (h:aA s0 s1 s2 s3=aA t0 t1 t2 t3) (w:World):(Op.equalIn 10000 24 (.agg #[.int .u64 s0,.int .u64 s1,.int .u64 s2,.int .u64 s3]) (.agg #[.int .u64 t0,.int .u64 t1,.int .u64 t2,.int .u64 t3])).run prog w=.ok true w:=by
 have h':=jO 9998 s0 s1 s2 s3 t0 t1 t2 t3 w;rw[(gD hs ht).2 h]at h';exact h'
theorem UD {s0 s1 s2 s3 t0 t1 t2 t3:Nat} (hs:aZ s0 s1 s2 s3) (ht:aZ t0 t1 t2 t3) (h:aA s0 s1 s2 s3≠aA t0 t1 t2 t3) (w:World):(Op.equalIn 10000 24 (.agg #[.int .u64 s0,.int .u64 s1,.int .u64 s2,.int .u64 s3]) (.agg #[.int .u64 t0,.int .u64 t1,.int .u64 t2,.int .u64 t3])).run prog w=.ok false w:=by
 have h':=jO 9998 s0 s1 s2 s3 t0 t1 t2 t3 w;rw[jP (fun q=>h ((gD hs ht).1 q))]at h';exact h'
theorem BO {s0 s1 s2 s3:Nat} (hs:aZ s0 s1 s2 s3) (h:aA s0 s1 s2 s3=0) (w:World):(Op.equalIn 10000 24 (.agg #[.int .u64 s0,.int .u64 s1,.int .u64 s2,.int .u64 s3]) (.agg #[.int .u64 0,.int .u64 0,.int .u64 0,.int .u64 0])).run prog w=.ok true w:=JW hs wN (h.trans rfl) w
theorem yE {s0 s1 s2 s3:Nat} (hs:aZ s0 s1 s2 s3) (h:aA s0 s1 s2 s3≠0) (w:World):(Op.equalIn 10000 24 (.agg #[.int .u64 s0,.int .u64 s1,.int .u64 s2,.int .u64 s3]) (.agg #[.int .u64 0,.int .u64 0,.int .u64 0,.int .u64 0])).run prog w=.ok false w:=UD hs wN (fun q=>h (q.trans rfl)) w
theorem yD {s0 s1 s2 s3:Nat} (hs:aZ s0 s1 s2 s3) (h:aA s0 s1 s2 s3=1) (w:World):(Op.equalIn 10000 24 (.agg #[.int .u64 s0,.int .u64 s1,.int .u64 s2,.int .u64 s3]) (.agg #[.int .u64 1,.int .u64 0,.int .u64 0,.int .u64 0])).run prog w=.ok true w:=JW hs (show aZ 1 0 0 0 by unfold aZ; decide) (h.trans rfl) w
theorem Bad1.ne {f c:Int} {A:Nat} (h:Bad1 f A c):c≠0:=by rcases h with⟨_,_,h⟩|⟨_,_,_,h⟩<;>omega
theorem Bad2.ne {f c:Int} {A B:Nat} (h:Bad2 f A B c):c≠0:=by
 rcases h with h|⟨_,_,_,_,h⟩
 ·exact h.ne
 ·omega
theorem FieldIs.uniq {f:Int} {F G:FC} (h:FieldIs f F) (k:FieldIs f G):F=G:=by
 rcases h with⟨h,rfl⟩|⟨h,rfl⟩<;>rcases k with⟨k,rfl⟩|⟨k,rfl⟩<;>first|rfl|omega
open Go.ChangeShapes Go.WideShapes Go.ChangeAt Go.RowKit
def FIs (W:World) (o:Option Addr) (len:Nat) (A:Nat→Nat→Nat):Prop:=len*32≤140737488351232∧LOk len A∧(0<len→∃g off,o=some ⟨g,off,none⟩∧g<W.heap.size∧LAt W g off len A)
theorem FIs.on {W w:World} {o:Option Addr} {len:Nat} {A:Nat→Nat→Nat} (h:FIs W o len A) (hb:Below W.heap.size W w):FIs w o len A:=by
 refine⟨h.1,h.2.1,fun hl => ?_⟩;obtain⟨g,off,e,hg,hc⟩:=h.2.2 hl;exact⟨g,off,e,Nat.lt_of_lt_of_le hg hb.size,hc.same (fun _=>hg) hb⟩
end Go.Proofs.YtpjlhhpjpnacmaaGreat
namespace Go.Proofs.YtpjlhhpjpnacmaaGreat.Ex
open Go.Proofs.Tryz
open Go.RowKit
def LM (w:World) (b N:Nat) (f:Nat→Nat):Prop:=b<w.heap.size∧w.rangeAt b 0 (aB (gO (el f) 0 N))
theorem LM.on {w w':World} {b N:Nat} {f:Nat→Nat} (h:LM w b N f) (hb:Below w.heap.size w w'):LM w' b N f:=⟨Nat.lt_of_lt_of_le h.1 hb.size,bI hb h.1 h.2⟩
theorem LM.lv {w:World} {b N:Nat} {f:Nat→Nat} (h:LM w b N f) (hf:∀j,j<N→f j<aO):LV w (bW b 0 N N) N f:=⟨_,N,rfl,Nat.le_refl _,hf,fun _=>⟨b,0,rfl,h.1,h.2⟩⟩
theorem LV.piece {w:World} {b o N m i k:Nat} {f:Nat→Nat} (h:LV w (bW b o N m) N f) (hi:i+k≤N):LV w (bW b (o+i*4) k (m-i)) k (fun j=>f (i+j)):=by
 obtain⟨p',m',e,h2,h3,h4⟩:=h;cases e;refine⟨_,_,rfl,by omega,fun j hj=>h3 _ (by omega),fun h0 => ?_⟩;obtain⟨b',o',e,hb,hr⟩:=h4 (by omega);cases e;refine⟨b,o+i*4,rfl,hb,?_⟩;have key:∀(n s:Nat),i+s+n≤N→w.rangeAt b (o+(i+s)*4) (aB (gO (el fun j=>f (i+j)) s n)):=fun n=>by
  induction n with
  | zero=>intro s _ j v hj; simp[gO,aB]at hj
  | succ n ih =>
   intro s hs j v hj;have hj:(aB (el (fun j=>f (i+j)) s++gO (el fun j=>f (i+j)) (s+1) n))[j]?=some v:=hj;rw[aL]at hj
   by_cases hj4:j<4
   ·rw[List.getElem?_append_left (by exact hj4)]at hj;exact (Ib hb hr (show i+s<N by omega)).2 j v hj
   ·rw[List.getElem?_append_right (by show 4≤j; omega)]at hj;have:=ih (s+1) (by omega) (j-4) v hj
    rwa [show o+(i+(s+1))*4+(j-4)=o+(i+s)*4+j by omega]at this
 exact key k 0 (by omega)
def rP (wd fl pt:Nat) (cs is:Value):List At:=[.c (iI wd),.c (iI fl),.c (iI pt),.c cs,.c is]
def Um (pb wd R r b6 m6 b7 m7:Nat) (l6 l7:List At):List Fact:=[.slot 2 (.im (ptV pb 0)),.slot 5 (.im (iI wd)),.slot 6 (.sl 1006 0 wd m6),.row 1006 true l6,.at 1006 b6,.slot 7 (.sl 1007 0 wd m7),.row 1007 true l7,.at 1007 b7,.slot 26 (.im (iI R)),.slot 27 (.im (iI r))]
section
variable (w:World) (pb wd R r b6 m6 b7 m7:Nat) (l6 l7:List At)
end
structure PmS (w1:World) (pb wd R r b6 m6 b7 m7:Nat) (f6 f7:Nat→Nat) (a:Act) (w:World):Prop where
 defers:a.defers=[]
 size:a.tmps.size=89
 t2:a.tmps[2]?=some (ptV pb 0)
 t5:a.tmps[5]?=some (iI wd)
 t6:a.tmps[6]?=some (bW b6 0 wd m6)
 t7:a.tmps[7]?=some (bW b7 0 wd m7)
 t26:a.tmps[26]?=some (iI R)
 t27:a.tmps[27]?=some (iI r)
 below:Below w1.heap.size w1 w
 shape:Shape w1 w
 o6:Own w b6 (gO (el f6) 0 wd)
 o7:Own w b7 (gO (el f7) 0 wd)
 l6:w1.heap.size≤b6
 l7:w1.heap.size≤b7
 ne:b6≠b7
section
variable {w1:World} {pb wd R r b6 m6 b7 m7:Nat} {f6 f7:Nat→Nat} {a:Act} {w:World}
theorem PmS.holds (h:PmS w1 pb wd R r b6 m6 b7 m7 f6 f7 a w):Holds 89 w1.heap.size w1 (Um pb wd R r b6 m6 b7 m7 (gO (el f6) 0 wd) (gO (el f7) 0 wd)) a w:=by
 refine⟨h.defers,h.size,h.below,h.below.size,fun k=>bif Nat.beq k 1006 then (b6,0,m6)else bif Nat.beq k 1007 then (b7,0,m7)else (w1.heap.size,0,0),fun φ hφ => ?_,fun k k' o' l l' e1 e2 hne => ?_,fun k l e1 => ?_,h.below.size,fun p q1 q2 => ?_,h.shape⟩
 ·simp only[Um,List.mem_cons,List.not_mem_nil,or_false]at hφ
  rcases hφ with rfl|rfl|rfl|rfl|rfl|rfl|rfl|rfl|rfl|rfl
  ·exact h.t2
  ·exact h.t5
  ·exact h.t6
  ·exact⟨h.o6.lt,h.o6.row,fun _=>⟨h.l6,rfl,h.o6.free⟩,fun h=>by cases h⟩
  ·exact⟨rfl,rfl⟩
  ·exact h.t7
  ·exact⟨h.o7.lt,h.o7.row,fun _=>⟨h.l7,rfl,h.o7.free⟩,fun h=>by cases h⟩
  ·exact⟨rfl,rfl⟩
  ·exact h.t26
  ·exact h.t27
 ·simp only[Um,List.mem_cons,reduceCtorEq,Fact.row.injEq,false_or,List.not_mem_nil,or_false]at e1 e2
  rcases e1 with⟨rfl,_⟩|⟨rfl,_⟩<;>rcases e2 with⟨rfl,_⟩|⟨rfl,_⟩
  ·exact (hne rfl).elim
  ·exact h.ne
  ·exact h.ne.symm
  ·exact (hne rfl).elim
 ·simp only[Um,List.mem_cons,reduceCtorEq,Fact.row.injEq,false_or,List.not_mem_nil,or_false]at e1
  rcases e1 with⟨rfl,_⟩|⟨rfl,_⟩
  ·exact Or.inr h.l6
  ·exact Or.inr h.l7
 ·exact absurd (Nat.lt_trans q1 q2) (Nat.lt_irrefl _)
end
structure PmM (w:World) (wd fl pt:Nat) (xs:Nat→Nat) (cs is:Value):Prop where
 cs:∃cb,cs=bW cb 0 (wd*(fl+pt)) (wd*(fl+pt))∧LM w cb (wd*(fl+pt)) xs
 is:∃ib,is=bW ib 0 (2*wd-1) (2*wd-1)∧LM w ib (2*wd-1) (fun j=>inv (wd+j))
 lt:∀i,i<wd*(fl+pt)→xs i<RM
theorem PmM.on {w w':World} {wd fl pt:Nat} {xs:Nat→Nat} {cs is:Value} (h:PmM w wd fl pt xs cs is) (hb:Below w.heap.size w w'):PmM w' wd fl pt xs cs is:=by
 obtain⟨⟨cb,h1,h2⟩,⟨ib,h3,h4⟩,h5⟩:=h;exact⟨⟨cb,h1,h2.on hb⟩,⟨ib,h3,h4.on hb⟩,h5⟩
def dA (v:Value) (pb rb:Nat):List Fact:=[.slot 1 (.im v),.slot 2 (.im (ptV pb 0)),.slot 4 (.im (ptV rb 0))]
def dF (v:Value) (pb rb wd sb m6:Nat) (l6:List At):List Fact:=.slot 6 (.sl 1006 0 wd m6) :: .row 1006 true l6 :: .at 1006 sb :: .slot 5 (.im (iI (wd-1)))::dA v pb rb
section
variable (w:World) (pb rb wd sb m6:Nat) (l6:List At)
end
def Tb:Code→Code
 | .cond _ x _=>x
 | c=>c
def Px (s g:Nat→Nat) (j q:Nat):Nat:=if 1≤q∧q<1+j then fA (s q) (g (q-1))else s q
def Xv (P:(Nat→Nat)→Nat→Nat) (rt:Nat):Nat→Nat→(Nat→Nat)→(Nat→Nat)→Nat
 | 0,_,_,s=>s 1
 | k+1,N,f,s=>if N-min rt N=0 then P (Px s f (min rt N)) 1 else Xv P rt k (N-min rt N) (fun j=>f (min rt N+j)) (P (Px s f (min rt N)))
structure DgS (w1:World) (pb rb wd sb m6:Nat) (v:Value) (s:Nat→Nat) (a:Act) (w:World):Prop where
 defers:a.defers=[]
 size:a.tmps.size=59
 t1:a.tmps[1]?=some v
 t2:a.tmps[2]?=some (ptV pb 0)
 t4:a.tmps[4]?=some (ptV rb 0)
 t5:a.tmps[5]?=some (iI (wd-1))
 t6:a.tmps[6]?=some (bW sb 0 wd m6)
 below:Below w1.heap.size w1 w
 shape:Shape w1 w
 o6:Own w sb (gO (el s) 0 wd)
 l6:w1.heap.size≤sb
theorem DgS.holds {w1:World} {pb rb wd sb m6:Nat} {v:Value} {s:Nat→Nat} {a:Act} {w:World} (h:DgS w1 pb rb wd sb m6 v s a w):Holds 59 w1.heap.size w1 (dF v pb rb wd sb m6 (gO (el s) 0 wd)) a w:=by
 refine⟨h.defers,h.size,h.below,h.below.size,fun k=>bif Nat.beq k 1006 then (sb,0,m6)else (w1.heap.size,0,0),fun φ hφ => ?_,fun k k' o' l l' e1 e2 hne => ?_,fun k l e1 => ?_,h.below.size,fun p q1 q2 => ?_,h.shape⟩
 ·simp only[dF,dA,List.mem_cons,List.not_mem_nil,or_false]at hφ
  rcases hφ with rfl|rfl|rfl|rfl|rfl|rfl|rfl
  ·exact h.t6
  ·exact⟨h.o6.lt,h.o6.row,fun _=>⟨h.l6,rfl,h.o6.free⟩,fun h=>by cases h⟩
  ·exact⟨rfl,rfl⟩
  ·exact h.t5
  ·exact h.t1
  ·exact h.t2
  ·exact h.t4
 ·simp only[dF,dA,List.mem_cons,reduceCtorEq,Fact.row.injEq,false_or,List.not_mem_nil,or_false]at e1 e2;exact (hne (e1.1.trans e2.1.symm)).elim
 ·simp only[dF,dA,List.mem_cons,reduceCtorEq,Fact.row.injEq,false_or,List.not_mem_nil,or_false]at e1;obtain⟨rfl,_⟩:=e1;exact Or.inr h.l6
 ·exact absurd (Nat.lt_trans q1 q2) (Nat.lt_irrefl _)
def hA (v:Value) (pb rb:Nat):List Fact:=[.slot 1 (.im v),.slot 2 (.im (ptV pb 0)),.slot 4 (.im (ptV rb 0))]
def Zu (xs:Nat→Nat) (wd fl pt N:Nat) (f:Nat→Nat):Nat:=Xv (Pf xs wd fl pt (fl+pt)) (wd-1) (N+1) N f fun q=>if q=0 then N else 0
end Go.Proofs.YtpjlhhpjpnacmaaGreat.Ex
namespace Go.Proofs.YtpjlhhpjpnacmaaGreat
open Go.Proofs.Tryz
open Go.RowKit
structure MR (w wr:World) (g9 g10:Nat) (h0 h1 h2 h3 l0 l1 l2 l3 b0 b1 b2 b3 r0 r1 r2 r3:Nat):Prop where
 below:Below w.heap.size w wr
 lo:w.heap.size+1+1+1<g9
 mid:g9<g10
 size:g10<wr.heap.size
 rowH:Row4 wr w.heap.size h0 h1 h2 h3
 rowL:Row4 wr (w.heap.size+1) l0 l1 l2 l3
 rowB:Row4 wr g9 b0 b1 b2 b3
 rowR:Row4 wr g10 r0 r1 r2 r3
 rowO:Row4 wr (w.heap.size+1+1+1) 0 0 0 0
theorem MR.on {w wr w':World} {g9 g10:Nat} {h0 h1 h2 h3 l0 l1 l2 l3 b0 b1 b2 b3 r0 r1 r2 r3:Nat} (m:MR w wr g9 g10 h0 h1 h2 h3 l0 l1 l2 l3 b0 b1 b2 b3 r0 r1 r2 r3) (hb:Below wr.heap.size wr w'):MR w w' g9 g10 h0 h1 h2 h3 l0 l1 l2 l3 b0 b1 b2 b3 r0 r1 r2 r3 :=
 ⟨m.below.trans (hb.mono m.below.size),m.lo,m.mid,Nat.lt_of_lt_of_le m.size hb.size,m.rowH.below hb (by have:=m.lo; have:=m.mid; have:=m.size; omega),m.rowL.below hb (by have:=m.lo; have:=m.mid; have:=m.size; omega),
  m.rowB.below hb (by have:=m.mid; have:=m.size; omega),m.rowR.below hb m.size,m.rowO.below hb (by have:=m.lo; have:=m.mid; have:=m.size; omega)⟩
theorem MR.drewN {w wr:World} {g9 g10:Nat} {h0 h1 h2 h3 l0 l1 l2 l3 b0 b1 b2 b3 r0 r1 r2 r3:Nat} (m:MR w wr g9 g10 h0 h1 h2 h3 l0 l1 l2 l3 b0 b1 b2 b3 r0 r1 r2 r3) (n:Nat):MR w (wr.drewN n) g9 g10 h0 h1 h2 h3 l0 l1 l2 l3 b0 b1 b2 b3 r0 r1 r2 r3:=m.on (aN _ _ n)
theorem MR.put {w wr:World} {g9 g10:Nat} {h0 h1 h2 h3 l0 l1 l2 l3 b0 b1 b2 b3 r0 r1 r2 r3:Nat} (m:MR w wr g9 g10 h0 h1 h2 h3 l0 l1 l2 l3 b0 b1 b2 b3 r0 r1 r2 r3) (s0 s1 s2 s3:Nat):MR w (set4 wr g10 s0 s1 s2 s3) g9 g10 h0 h1 h2 h3 l0 l1 l2 l3 b0 b1 b2 b3 s0 s1 s2 s3 :=
 ⟨aM m.below (by have:=m.lo; have:=m.mid; omega) _ _ _ _,m.lo,m.mid,by unfold set4; simp only[World.size_setCell]; exact m.size,m.rowH.set4_other (by have:=m.lo; have:=m.mid; omega) _ _ _ _,m.rowL.set4_other (by have:=m.lo; have:=m.mid; omega) _ _ _ _,
  m.rowB.set4_other (by have:=m.mid; omega) _ _ _ _,m.rowR.set4 _ _ _ _,m.rowO.set4_other (by have:=m.lo; have:=m.mid; omega) _ _ _ _⟩
def GU (W:World) (v:Value) (n c:Nat):Prop:=∀w,Below W.heap.size W w→Calls prog 18 #[v] w (gU (fun m d=>m=n∧d=c) w)
theorem vC (W:World) (g off cap:Nat) (B:Nat→Nat) (hB:∀k,B k<256) (hg:g<W.heap.size) (hc:∀k,k<32→W.cell? ⟨g,off+k,none⟩=some (.int .u8 (B k:Nat))):GU W (.slice (some ⟨g,off,none⟩) 32 cap) (gL B 0 32) 0:=fun w hb =>
 II g off cap B hB w (Nat.lt_of_lt_of_le hg hb.size) fun k hk=>(hb.cell (p:=⟨g,off+k,none⟩) hg).trans (hc k hk)
set_option maxHeartbeats 2000000 in
theorem TN (f:Int) (F:FC) (hf:FieldIs f F) (v:Value) (n:Nat) (hlt:n<F.M) (w:World) (hR:GU w v n 0) :
  Calls prog 59 #[.int .i64 f,v] w (WM 0 n w):=by
 have HR:=Lib.hid hR;clear hR
 go_enter func59,ntmps59
 go_wp2_with fail;refine (dL f F hf _).mono ?_
 rintro e w1 ⟨rfl,hbl⟩
 have M1:=((Mem.nil w).new (w.heap.size) 0 0 0 0 24 (by simp)).on hbl;clear hbl;have z0:w.heap.size<w1.heap.size:=M1.lt (c0:=0) (c1:=0) (c2:=0) (c3:=0) (by simp);have HM:=Lib.hid (M1.on ((Below.refl _ _).alloc (Nat.le_refl _) (.cells #[.int .u64 F.m0,.int .u64 F.m1,.int .u64 F.m2,.int .u64 F.m3,.int .u64 F.inv,.int .u64 F.s0,.int .u64 F.s1,.int .u64 F.s2,.int .u64 F.s3] 87)));have KK:=Lib.hid (KIs.new w1 F 87);go_wp2_with fail;refine (HR.out _ HM.out.1).mono ?_
 rintro e w2 ⟨s0,s1,s2,s3,er,rfl,hs,⟨hv,rfl⟩,hbl⟩
 have HV:=Lib.hid hv;clear hv;have HM':=Lib.hid (HM.out.on hbl);have KK':=Lib.hid (KK.out.same hbl);have zk:=KK'.out.lt;clear HM KK hbl M1;have HM:=HM';have KK:=KK';clear HM' KK';clear zk;have wz:w.heap.size<w2.heap.size:=HM.out.lt (b:=w.heap.size) (c0:=0) (c1:=0) (c2:=0) (c3:=0) (by simp);have HM':=Lib.hid (HM.out.new w2.heap.size s0 s1 s2 s3 27 rfl);have KK':=Lib.hid (KK.out.same ((Below.refl _ _).alloc (Nat.le_refl _) (.cells #[.int .u64 s0,.int .u64 s1,.int .u64 s2,.int .u64 s3] 27)));clear HM KK;have HM:=HM';have KK:=KK';clear HM' KK';go_wp2_with fail;refine (cO F hf.ok w1.heap.size s0 s1 s2 s3 hs _ KK.out).mono ?_
 rintro e w3 ⟨he,hbl⟩
 rw[show tN (aA s0 s1 s2 s3) F.M=true from by rw[HV.out]; exact decide_eq_true hlt]at he;subst he;have HM':=Lib.hid (HM.out.on hbl);have KK':=Lib.hid (KK.out.same hbl);have zk:=KK'.out.lt;clear HM KK hbl;have HM:=HM';have KK:=KK';clear HM' KK';clear zk;have kr:=HM.out.row (b:=w2.heap.size) (c0:=s0) (c1:=s1) (c2:=s2) (c3:=s3) (by simp);have x0:=kr.c0; have x1:=kr.c1; have x2:=kr.c2; have x3:=kr.c3;clear kr;have xl:=HM.out.lt (b:=w2.heap.size) (c0:=s0) (c1:=s1) (c2:=s2) (c3:=s3) (by simp);have kr:=HM.out.row (b:=w.heap.size) (c0:=0) (c1:=0) (c2:=0) (c3:=0) (by simp);have y0:=kr.c0; have y1:=kr.c1; have y2:=kr.c2; have y3:=kr.c3; have yf:=kr.fr;clear kr;have yl:=HM.out.lt (b:=w.heap.size) (c0:=0) (c1:=0) (c2:=0) (c3:=0) (by simp);go_wp2_with fail;refine bodyPost_ret (v:=.tuple #[.agg #[.int .u64 s0,.int .u64 s1,.int .u64 s2,.int .u64 s3],.int .i64 0]) (by simp[results,results59,go_sem, *]) rfl ?_;refine⟨_,_,_,_,rfl,hs,HV.out,?_⟩;exact aM HM.out.1 (by omega) _ _ _ _
set_option maxHeartbeats 2000000 in
theorem NF (f:Int) (F:FC) (hf:FieldIs f F) (v:Value) (n:Nat) (hlt:¬n<F.M) (w:World) (hR:GU w v n 0) :
  Calls prog 59 #[.int .i64 f,v] w (WM 21 0 w):=by
 have HR:=Lib.hid hR;clear hR
 go_enter func59,ntmps59
 go_wp2_with fail;refine (dL f F hf _).mono ?_
 rintro e w1 ⟨rfl,hbl⟩
 have M1:=((Mem.nil w).new (w.heap.size) 0 0 0 0 24 (by simp)).on hbl;clear hbl;have z0:w.heap.size<w1.heap.size:=M1.lt (c0:=0) (c1:=0) (c2:=0) (c3:=0) (by simp);have HM:=Lib.hid (M1.on ((Below.refl _ _).alloc (Nat.le_refl _) (.cells #[.int .u64 F.m0,.int .u64 F.m1,.int .u64 F.m2,.int .u64 F.m3,.int .u64 F.inv,.int .u64 F.s0,.int .u64 F.s1,.int .u64 F.s2,.int .u64 F.s3] 87)));have KK:=Lib.hid (KIs.new w1 F 87);go_wp2_with fail;refine (HR.out _ HM.out.1).mono ?_
 rintro e w2 ⟨s0,s1,s2,s3,er,rfl,hs,⟨hv,rfl⟩,hbl⟩
 have HV:=Lib.hid hv;clear hv;have HM':=Lib.hid (HM.out.on hbl);have KK':=Lib.hid (KK.out.same hbl);have zk:=KK'.out.lt;clear HM KK hbl M1;have HM:=HM';have KK:=KK';clear HM' KK';clear zk;have wz:w.heap.size<w2.heap.size:=HM.out.lt (b:=w.heap.size) (c0:=0) (c1:=0) (c2:=0) (c3:=0) (by simp);have HM':=Lib.hid (HM.out.new w2.heap.size s0 s1 s2 s3 27 rfl);have KK':=Lib.hid (KK.out.same ((Below.refl _ _).alloc (Nat.le_refl _) (.cells #[.int .u64 s0,.int .u64 s1,.int .u64 s2,.int .u64 s3] 27)));clear HM KK;have HM:=HM';have KK:=KK';clear HM' KK';go_wp2_with fail;refine (cO F hf.ok w1.heap.size s0 s1 s2 s3 hs _ KK.out).mono ?_
 rintro e w3 ⟨he,hbl⟩
 rw[show tN (aA s0 s1 s2 s3) F.M=false from by rw[HV.out]; exact decide_eq_false hlt]at he;subst he;have HM':=Lib.hid (HM.out.on hbl);have KK':=Lib.hid (KK.out.same hbl);have zk:=KK'.out.lt;clear HM KK hbl;have HM:=HM';have KK:=KK';clear HM' KK';clear zk;have kr:=HM.out.row (b:=w.heap.size) (c0:=0) (c1:=0) (c2:=0) (c3:=0) (by simp);have y0:=kr.c0; have y1:=kr.c1; have y2:=kr.c2; have y3:=kr.c3; have yf:=kr.fr;clear kr;have yl:=HM.out.lt (b:=w.heap.size) (c0:=0) (c1:=0) (c2:=0) (c3:=0) (by simp);go_wp2_with fail;refine (qR _).mono ?_
 rintro e w4 ⟨rfl,rfl⟩
 go_wp2_with fail;refine bodyPost_ret (v:=.tuple #[.agg #[.int .u64 0,.int .u64 0,.int .u64 0,.int .u64 0],.int .i64 21]) (by simp[results,results59,go_sem, *]) rfl ?_;refine⟨_,_,_,_,rfl,wN,rfl,?_⟩;exact aM HM.out.1 (by omega) 0 0 0 0
theorem WR:(prog.info? 5).map (fun i=>(i.zero,i.size,i.bytes))=some (some (.int .u8 0),1,1):=by kernel_rfl
def mF (A n:Nat):List Value:=(List.range n).map fun p=>.int .u8 (bE A p:Nat)
theorem CC (A n:Nat):mF A (n+1)=mF A n++[.int .u8 (bE A n:Nat)]:=by
 unfold mF; rw[List.range_succ,List.map_append]; rfl
theorem Ht {w:World} {base:Nat} {e:TypeId} {size:Nat} {v:Value} {n:Nat} {xs:List Value} (h:w.ownsRow base e size v n xs) {k:Nat} (hk:v.ownBlock=some k):base≤k:=by
 obtain⟨_,⟨rfl,_⟩|⟨g,cap,cur,rfl,hg,_⟩⟩:=h
 ·cases hk
 ·cases hk; exact hg
theorem RQ {w:World} {base:Nat} {e:TypeId} {size:Nat} {v:Value} {n:Nat} {xs:List Value} (h:w.ownsRow base e size v n xs) (hn:0<n):∃g cap,v=.slice (some ⟨g,0,none⟩) n cap∧base≤g∧g<w.heap.size:=by
 obtain⟨_,⟨_,h0⟩|⟨g,cap,cur,rfl,hg,hh,_⟩⟩:=h
 ·omega
 ·refine⟨g,cap,rfl,hg,?_⟩
  rcases Nat.lt_or_ge g w.heap.size with k|k
  ·exact k
  ·rw[Array.getElem?_eq_none k]at hh; cases hh
theorem RR {w:World} {base A g cap n:Nat} {e:TypeId} (h:w.ownsRow base e 1 (.slice (some ⟨g,0,none⟩) n cap) n (mF A n)) (k:Nat) (hk:k<n):w.cell? ⟨g,k,none⟩=some (.int .u8 (bE A k:Nat)):=by
 rw[h.cellAt k (by omega)];unfold mF;simp[hk]
theorem ZE:∃o:Obj,(∀w,(Instr.makeSlice 30 (.int .i64 32) (.int .i64 32)).run prog w=.ok (.slice (some ⟨w.heap.size,0,none⟩) 32 32) (w.alloc o))∧(∀(w:World) (b:Nat),b=w.heap.size→RowB (w.alloc o) b 32 (fun _=>0))∧(∀(w:World) (b:Nat),b=w.heap.size→∀j,(w.alloc o).frozen? ⟨b,j,none⟩=false):=by
 refine⟨.cells (Array.replicate 32 (.int .u8 0)) 5,fun _=>by kernel_rfl,fun w b hb k hk => ?_,fun w b hb j => ?_⟩
 ·subst hb;refine⟨?_,World.frozen?_alloc_new _ _ _ _⟩;rw[World.cell?_alloc_new];simp[hk]
 ·subst hb;exact World.frozen?_alloc_new _ _ _ _
set_option maxHeartbeats 1000000 in
theorem pL (a0 a1 a2 a3:Nat) (ha:aZ a0 a1 a2 a3) (w:World) :
  Calls prog 13 #[.agg #[.int .u64 a0,.int .u64 a1,.int .u64 a2,.int .u64 a3]] w (fun e w'=>∃b:Nat,e=.returned (.slice (some ⟨b,0,none⟩) 32 32)∧w.heap.size≤b∧b<w'.heap.size∧RowB w' b 32 (bE (aA a0 a1 a2 a3))∧Below w.heap.size w w'∧∀j,w'.frozen? ⟨b,j,none⟩=false):=by
 obtain⟨o,hmk,ho,hof⟩:=ZE;have Hof:=Lib.hid hof;have hix:∀W,Row4 W w.heap.size a0 a1 a2 a3→RowIs W w.heap.size 4 (cQ [a0,a1,a2,a3]):=fun W h=>h.rows
 have hP:=iZ ha;have HA:=Lib.hid (oD a0 a1 a2 a3);have Ho:=Lib.hid ho;have R0:=Lib.hid ((RowIs.mk w 27 [a0,a1,a2,a3] w.heap.size rfl).alloc (by simp) o);have HP:=Lib.hid hP;clear ho hix hP hof;generalize cQ [a0,a1,a2,a3]=P at *;rw[HA.out];clear HA;generalize hv:cD 18446744073709551616 P 4=A;have Hv:=Lib.hid hv;clear hv
 go_enter func13,ntmps13
 go_wp2_with fail
 go_loopw [6] (fun x wr=>∃i:Nat,i≤32∧x=.int .i64 i∧RowIs wr w.heap.size 4 P∧RowB wr (w.heap.size+1) 32 (fun p=>if 32≤p+i then bE A p else 0)∧Below w.heap.size w wr∧w.heap.size+1<wr.heap.size∧Hid (∀j,wr.frozen? ⟨w.heap.size+1,j,none⟩=false)) (fun x _=>32-(intOf x).toNat)
 case atStart =>
  refine⟨0,by omega,rfl,R0.out,(Ho.out _ _ (by simp)).ext (fun k hk=>by rw[if_neg (by omega)]),?_,by simp,Lib.hid (fun j=>Hof.out _ _ (by simp) j)⟩;exact ((Below.refl _ _).alloc (Nat.le_refl _) _).alloc (by simp) _
 case round =>
  obtain⟨i,hi,rfl,rP,rB,hb,hz,HF⟩:=hrel;have HB:=Lib.hid hb
  by_cases hlt:i<32
  ·obtain⟨j,m,s,p,q1,q2,q3,q4,hj,hm,hs,hp,e⟩:=Du hlt;have cx:=rP.cell hj;have cb:=(rB p hp).1;have fb:=(rB p hp).2;have lx:=HP.out j;obtain⟨t,e1,e2,lt⟩:=JU (b:=bE A p) (s:=s) lx (by
    obtain⟨k1,k2,k3⟩:=e.out;rw[k2,uS P HP.out 4 j m hj hm,Hv.out,←k1];unfold bE;rw[k3,show 31-(31-i)=i by omega])
   have HrP:=Lib.hid rP;have HrB:=Lib.hid ((rB.set (v:=bE A p) hp).ext (R:=fun k=>if 32≤k+(i+1)then bE A k else 0) (fun k hk=>by
    obtain⟨k1,k2,k3⟩:=e.out;unfold cV
    by_cases h:k=p
    ·rw[if_pos h,if_pos (by omega),h]
    ·rw[if_neg h];show (if 32≤k+i then bE A k else 0)=_
     by_cases h':32≤k+i
     ·rw[if_pos h',if_pos (by omega)]
     ·rw[if_neg h',if_neg (by omega)]))
   have lb:=qJ A p;generalize P j=x at *;generalize bE A p=b at *;clear rP rB hb e;go_wp2_with fail
   go_roundw
   case rel=>exact⟨i+1,by omega,by go_num,HrP.out.other (by omega) _,HrB.out,HB.out.setCell (p:=⟨w.heap.size+1,p,none⟩) (by simp) _,by rw[World.size_setCell]; exact hz,Lib.hid (fun j=>by rw[World.frozen?_setCell]; exact HF.out j)⟩
   case measure=>first|(simp[intOf]; done)|(simp[intOf]; omega)
  ·obtain rfl:i=32:=by omega
   have HrB:=Lib.hid (rB.ext (R:=bE A) (fun k hk=>by rw[if_pos (by omega)]));clear rB rP hb;go_wp2_with fail;go_ret;exact⟨w.heap.size+1,rfl,by omega,hz,HrB.out,HB.out,HF.out⟩
set_option maxHeartbeats 4000000 in
theorem rO (a0 a1 a2 a3:Nat) (ha:aZ a0 a1 a2 a3) (w:World) :
  Calls prog 16 #[.agg #[.int .u64 a0,.int .u64 a1,.int .u64 a2,.int .u64 a3]] w fun e w'=>∃b cap:Nat,e=.returned (.slice (some ⟨b,0,none⟩) 32 cap)∧w.heap.size≤b∧b<w'.heap.size∧(∀k,k<32→w'.cell? ⟨b,k,none⟩=some (.int .u8 (bE (aA a0 a1 a2 a3) k:Nat)))∧Below w.heap.size w w'∧(∀j,w'.frozen? ⟨b,j,none⟩=false)∧Ex.AppAt w' b 5 1 32 cap:=by
 have hP:=iZ ha;have HA:=Lib.hid (oD a0 a1 a2 a3);have HRow:=Lib.hid (RowIs.mk w 27 [a0,a1,a2,a3] w.heap.size rfl);have HP:=Lib.hid hP;clear hP;generalize cQ [a0,a1,a2,a3]=P at *;rw[HA.out];clear HA;generalize hv:cD 18446744073709551616 P 4=A;have Hv:=Lib.hid hv;clear hv;obtain⟨i0,hi,hz0,hz1,hz2⟩:=info_parts WR
 go_enter func16,ntmps16
 go_wp2_with fail;have HW0:=Lib.hid (show Below w.heap.size w (w.alloc (.cells #[.int .u64 a0,.int .u64 a1,.int .u64 a2,.int .u64 a3] 27))∧RowIs (w.alloc (.cells #[.int .u64 a0,.int .u64 a1,.int .u64 a2,.int .u64 a3] 27)) w.heap.size 4 P∧(w.alloc (.cells #[.int .u64 a0,.int .u64 a1,.int .u64 a2,.int .u64 a3] 27)).heap.size=w.heap.size+1 from⟨(Below.refl _ _).alloc (Nat.le_refl _) _,HRow.out,by simp⟩);clear HRow;generalize w.alloc (.cells #[.int .u64 a0,.int .u64 a1,.int .u64 a2,.int .u64 a3] 27)=W0 at HW0 ⊢
 go_loopw [3,4] (fun v x wr=>∃(q:Nat) (m:Int),q≤4∧Hid (m=3-(q:Int))∧x=.int .i64 m∧wr.ownsRow (w.heap.size+1) 5 1 v (8*q) (mF A (8*q))∧Below (w.heap.size+1) W0 wr) (fun _ x _=>(intOf x+1).toNat)
 case atStart=>exact⟨0,3,by omega,Lib.hid (by omega),rfl,⟨rfl,Or.inl ⟨rfl,rfl⟩⟩,Below.refl _ _⟩
 case round =>
  obtain⟨q,m,hq,hm,rfl,hown,hb⟩:=hrel
  by_cases hlt:q<4
  ·have Hown:=Lib.hid hown;have HB:=Lib.hid hb;obtain⟨j,rfl,hj⟩:∃j:Nat,m=(j:Int)∧j=3-q:=⟨3-q,by have:=hm.out; omega,rfl⟩
   have lj:j<4:=by omega
   have Hj:=Lib.hid hj;have t1:decide ((0:Int)≤(j:Int))=true:=decide_eq_true (by omega);clear hown hb hj hm;obtain⟨wo,rfl⟩:∃wo:World,wo=wr:=⟨_,rfl⟩
   go_wp2_with fail
   go_loopw [3,5] (fun v x wi=>∃(n:Nat) (m:Int),n≤8∧Hid (m=7-(n:Int))∧x=.int .i64 m∧wi.ownsRow (w.heap.size+1) 5 1 v (8*q+n) (mF A (8*q+n))∧Below (w.heap.size+1) W0 wi) (fun _ x _=>(intOf x+1).toNat)
   case atStart=>exact⟨0,7,by omega,Lib.hid (by omega),rfl,Hown.out,HB.out⟩
   case round =>
    clear Hown HB;obtain⟨n,m,hn,hm,rfl,hown,hb⟩:=hrel
    by_cases hn8:n<8
    ·obtain⟨kk,hkk⟩:∃kk:Nat,m=(kk:Int):=⟨7-n,by have:=hm.out; omega⟩
     subst hkk;have hk':kk=7-n:=by have:=hm.out; omega
     have lk:kk≤7:=by omega
     have t2:decide ((0:Int)≤(kk:Int))=true:=decide_eq_true (by omega);obtain⟨sh,Zu,lsh,esh⟩:∃sh:Nat,(8:Int)*(kk:Int)=(sh:Int)∧sh≤56∧sh=8*kk:=⟨8*kk,by omega,by omega,rfl⟩
     have cx:=(HW0.out.2.1.below hb (by omega)).cell lj;have lx:=HP.out j;have hby:P j/2^sh%256=bE A (8*q+n):=by
      rw[esh,uS P HP.out 4 j kk lj (by omega),Hv.out];unfold bE;have:=Hj.out;rw[show 8*j+kk=31-(8*q+n) by omega]
     obtain⟨t,e1,e2,lt⟩:=JU lx hby;have hbl:=qJ A (8*q+n);have HS:=Lib.hid (CC A (8*q+n));generalize bE A (8*q+n)=b at *;generalize P j=x at cx lx e1;have HO:=Lib.hid hown;have HB:=Lib.hid hb;have Hk:=Lib.hid hk';have hz:w.heap.size+1≤wr.heap.size:=by have:=hb.size; have:=HW0.out.2.2; omega
     clear hown hb hk' hm hby esh;go_wp2_with (at_builtin; refine wpList_append_own _ rfl _ _ 30 rfl (w.heap.size+1) 5 i0 (.int .u8 0) 1 1 underlying30 hi hz0 hz1 hz2 rfl (by decide) _ _ _ rfl (HO.out.alloc _) ⟨wr.heap.size,0,none⟩ 1 1 [.int .u8 (b:Nat)] rfl rfl ?c1 ?c2 ?c3 ?c4 ?c5 ?_)
     case c1 =>
      intro j u hj
      match j,hj with
      | 0,hj=>simp at hj; subst hj; simp[go_sem,Addr.add]
      | j+1,hj=>simp at hj
     case c2=>intro u hu; simp at hu; subst hu; rfl
     case c3=>unfold maxLen; omega
     case c4=>omega
     case c5=>simp; omega
     intro v' w1 hown1 hgrow hne;have HO1:=Lib.hid (show w1.ownsRow (w.heap.size+1) 5 1 v' (8*q+(n+1)) (mF A (8*q+(n+1))) by
      rw[show 8*q+(n+1)=8*q+n+1 by omega,HS.out]; exact hown1)
     have HB1:=Lib.hid ((HB.out.alloc (by have:=HW0.out.2.2; have:=HB.out.size; omega) _).grown hgrow (by simp; omega) (fun k hk=>Ht HO.out hk));clear hown1 hgrow hne;go_wp2_with fail
     go_roundw
     case rel=>exact⟨n+1,(kk:Int)-1,by omega,Lib.hid (by have:=Hk.out; omega),by first|rfl|go_num,HO1.out,HB1.out⟩
     case measure=>first|(simp[intOf]; done)|(simp[intOf]; omega)
    ·obtain rfl:n=8:=by omega
     obtain rfl:m = -1:=by have:=hm.out; omega
     have HO:=Lib.hid hown;have HB:=Lib.hid hb;clear hown hb hm;go_wp2_with fail
     go_roundw
     case rel=>exact⟨q+1,(j:Int)-1,by omega,Lib.hid (by have:=Hj.out; omega),by first|rfl|go_num,HO.out,HB.out⟩
     case measure=>first|(simp[intOf]; done)|(simp[intOf]; omega)
  ·obtain rfl:q=4:=by omega
   obtain rfl:m = -1:=by have:=hm.out; omega
   obtain⟨g,cap,hu,hg,lg⟩:=RQ hown (by omega);subst hu;have HF:=Lib.hid (fun k (hk:k<32)=>RR hown k hk);have HO:=Lib.hid (Ex.sB hown);have HB:=Lib.hid (HW0.out.1.trans (hb.mono (Nat.le_succ _)));clear hown hb hm;go_wp2_with fail;go_ret;exact⟨g,cap,rfl,by have:=HO.out.2.1; omega,lg,HF.out,HB.out,HO.out.2.2.2.2,HO.out.1⟩
end Go.Proofs.YtpjlhhpjpnacmaaGreat
namespace Go.Proofs.YtpjlhhpjpnacmaaGreat.Ex
open Go.Proofs.Tryz
inductive RE|v (i:Nat)|add (a b:RE)|mul (a b:RE)|neg (a:RE)|zero|one
instance:Add RE:=⟨.add⟩
instance:Mul RE:=⟨.mul⟩
instance:Neg RE:=⟨.neg⟩
instance:Sub RE:=⟨fun a b=>.add a (.neg b)⟩
abbrev Z0:RE:=.v 0
abbrev Z1:RE:=.v 1
abbrev Z2:RE:=.v 2
abbrev Z3:RE:=.v 3
abbrev Z4:RE:=.v 4
abbrev Z5:RE:=.v 5
abbrev Z6:RE:=.v 6
abbrev Z7:RE:=.v 7
abbrev Z8:RE:=.v 8
abbrev Z9:RE:=.v 9
abbrev Z10:RE:=.v 10
abbrev Z11:RE:=.v 11
section
variable {R:Type} (K:CR R) (env:Nat→R)
def RE.den:RE→R
 | .v i=>env i
 | .add a b=>K.add (a.den) (b.den)
 | .mul a b=>K.mul (a.den) (b.den)
 | .neg a=>K.neg a.den
 | .zero=>K.zero
 | .one=>K.one
def nt (x:R):Nat→R
 | 0=>K.zero
 | n+1=>K.add (nt x n) x
def zt (x:R):Int→R
 | .ofNat n=>nt K x n
 | .negSucc n=>K.neg (nt K x (n+1))
def mono:List Nat→R
 | []=>K.one
 | i::r=>K.mul (env i) (mono r)
def gV:List (Int×List Nat)→R
 | []=>K.zero
 | (c,m)::r=>K.add (zt K (mono K env m) c) (gV r)
end
def We:List Nat→List Nat→Bool
 | [],[]=>false
 | [],_::_=>true
 | _::_,[]=>false
 | a::r,b::s=>bif Nat.blt a b then true else bif Nat.blt b a then false else We r s
def Qz:List Nat→List Nat→Bool
 | [],[]=>true
 | a::r,b::s=>bif Nat.beq a b then Qz r s else false
 | _,_=>false
theorem UB:∀{a b:List Nat},Qz a b=true→a=b
 | [],[],_=>rfl
 | a::r,b::s,h=>by
  unfold Qz at h;cases hb:Nat.beq a b<;>rw[hb]at h
  ·cases h
  ·rw[Nat.eq_of_beq_eq_true hb,UB h]
 | [],_::_,h=>by cases h
 | _::_,[],h=>by cases h
def Dm (c:Int) (m:List Nat):List (Int×List Nat)→List (Int×List Nat)
 | []=>[(c,m)]
 | (d,k)::r=>bif Qz m k then (c+d,k)::r else bif We m k then (c,m)::(d,k)::r else (d,k)::Dm c m r
def EG:List (Int×List Nat)→List (Int×List Nat)→List (Int×List Nat)
 | [],q=>q
 | (c,m)::r,q=>Dm c m (EG r q)
def MV (i:Nat):List Nat→List Nat
 | []=>[i]
 | j::r=>bif Nat.ble i j then i::j::r else j::MV i r
def SM:List Nat→List Nat→List Nat
 | [],m=>m
 | i::r,m=>MV i (SM r m)
def AH (c:Int) (m:List Nat):List (Int×List Nat)→List (Int×List Nat)
 | []=>[]
 | (d,k)::r=>Dm (c*d) (SM m k) (AH c m r)
def RN:List (Int×List Nat)→List (Int×List Nat)→List (Int×List Nat)
 | [],_=>[]
 | (c,m)::r,q=>EG (AH c m q) (RN r q)
def RL:List (Int×List Nat)→List (Int×List Nat)
 | []=>[]
 | (c,m)::r=>(-c,m)::RL r
def RE.norm:RE→List (Int×List Nat)
 | .v i=>[(1,[i])]
 | .add a b=>EG a.norm b.norm
 | .mul a b=>RN a.norm b.norm
 | .neg a=>RL a.norm
 | .zero=>[]
 | .one=>[(1,[])]
def Wk:List (Int×List Nat)→Bool
 | []=>true
 | (.ofNat 0,_)::r=>Wk r
 | _=>false
section
variable {R:Type} (K:CR R) (env:Nat→R)
theorem qA (x:R) (n:Nat):∀m,nt K x (n+m)=K.add (nt K x n) (nt K x m)
 | 0=>(K.add_zero _).symm
 | m+1=>by show K.add (nt K x (n+m)) x=_; rw[qA x n m,K.add_assoc]; rfl
theorem dN:K.neg K.zero=K.zero:=by
 apply K.add_cancel (a:=K.zero);rw[K.add_neg,K.add_zero]
theorem OV (x:R) (n m:Nat):zt K x (Int.subNatNat n m)=K.add (nt K x n) (K.neg (nt K x m)):=by
 unfold Int.subNatNat;split
 ·rename_i h;have:n=m+(n-m):=by omega
  show nt K x (n-m)=_
  conv=>rhs; rw[this,qA]
  rw[K.add_comm (nt K x m),K.add_assoc,K.add_neg,K.add_zero]
 ·rename_i k h;have:m=n+(k+1):=by omega
  show K.neg (nt K x (k+1))=K.add (nt K x n) (K.neg (nt K x m));rw[this,qA K x n (k+1),K.neg_add' (nt K x n),←K.add_assoc,K.add_neg,K.zero_add]
theorem OX (x:R) (a b:Int):zt K x (a+b)=K.add (zt K x a) (zt K x b):=by
 cases a with
 | ofNat n =>
  cases b with
  | ofNat m=>exact qA K x n m
  | negSucc m=>exact OV K x n (m+1)
 | negSucc n =>
  cases b with
  | ofNat m=>show zt K x (Int.subNatNat m (n+1))=_; rw[OV,K.add_comm]; rfl
  | negSucc m =>
   show K.neg (nt K x (n+m+1+1))=K.add (K.neg (nt K x (n+1))) (K.neg (nt K x (m+1)));rw[←K.neg_add',←qA,show n+1+(m+1)=n+m+1+1 by omega]
theorem nD (x:R) (a:Int):zt K x (-a)=K.neg (zt K x a):=by
 apply K.add_cancel (a:=zt K x a);rw[←OX,K.add_neg,Int.add_right_neg];rfl
theorem EO (x y:R) (n:Nat):∀m,K.mul (nt K x n) (nt K y m)=nt K (K.mul x y) (n*m)
 | 0=>K.mul_zero _
 | m+1=>by
  show K.mul _ (K.add (nt K y m) y)=_;rw[K.mul_add,EO x y n m,Nat.mul_add,Nat.mul_one,qA];congr 1;clear EO
  induction n with
  | zero=>exact K.zero_mul _
  | succ n ih=>show K.mul (K.add (nt K x n) x) y=_; rw[K.add_mul,ih]; rfl
theorem Ez (x y:R) (a b:Int):K.mul (zt K x a) (zt K y b)=zt K (K.mul x y) (a*b):=by
 have hn:∀(c:Int),∃n:Nat,c=n∨c = -(n:Int):=fun c=>⟨c.natAbs,Int.natAbs_eq c⟩
 have h0:∀n m:Nat,K.mul (zt K x n) (zt K y m)=zt K (K.mul x y) ((n:Int)*m):=fun n m=>by
  rw[←Int.natCast_mul]; exact EO K x y n m
 obtain⟨n,rfl|rfl⟩:=hn a
 ·obtain⟨m,rfl|rfl⟩:=hn b
  ·exact h0 n m
  ·rw[nD,K.mul_neg,h0,Int.mul_neg,nD]
 ·obtain⟨m,rfl|rfl⟩:=hn b
  ·rw[nD,K.neg_mul,h0,Int.neg_mul,nD]
  ·rw[nD,nD,K.neg_mul,K.mul_neg,K.neg_neg,h0,Int.neg_mul_neg]
theorem xT (c:Int) (m:List Nat):∀q,gV K env (Dm c m q)=K.add (zt K (mono K env m) c) (gV K env q)
 | []=>rfl
 | (d,k)::r=>by
  unfold Dm;cases he:Qz m k
  ·cases hl:We m k
   ·show K.add (zt K (mono K env k) d) (gV K env (Dm c m r))=K.add _ (K.add _ _);rw[xT c m r,K.add_left_comm]
   ·rfl
  ·rw[UB he];show K.add (zt K (mono K env k) (c+d)) (gV K env r)=K.add _ (K.add _ _);rw[OX,K.add_assoc]
theorem sY:∀p q,gV K env (EG p q)=K.add (gV K env p) (gV K env q)
 | [],q=>(K.zero_add _).symm
 | (c,m)::r,q=>by
  show gV K env (Dm c m (EG r q))=K.add (K.add _ _) _;rw[xT,sY r q,K.add_assoc]
theorem BD (i:Nat):∀m,mono K env (MV i m)=K.mul (env i) (mono K env m)
 | []=>rfl
 | j::r=>by
  unfold MV;cases Nat.ble i j
  ·show K.mul (env j) (mono K env (MV i r))=K.mul _ (K.mul _ _);rw[BD i r,K.mul_left_comm]
  ·rfl
theorem AU:∀m k,mono K env (SM m k)=K.mul (mono K env m) (mono K env k)
 | [],k=>(K.one_mul _).symm
 | i::r,k=>by
  show mono K env (MV i (SM r k))=K.mul (K.mul _ _) _;rw[BD,AU r k,K.mul_assoc]
theorem vH (c:Int) (m:List Nat):∀q,gV K env (AH c m q)=K.mul (zt K (mono K env m) c) (gV K env q)
 | []=>(K.mul_zero _).symm
 | (d,k)::r=>by
  show gV K env (Dm (c*d) (SM m k) (AH c m r))=K.mul _ (K.add _ _);rw[xT,vH c m r,K.mul_add,AU,Ez]
theorem AF:∀p q,gV K env (RN p q)=K.mul (gV K env p) (gV K env q)
 | [],q=>(K.zero_mul _).symm
 | (c,m)::r,q=>by
  show gV K env (EG (AH c m q) (RN r q))=K.mul (K.add _ _) _;rw[sY,vH,AF r q,K.add_mul]
theorem AE:∀p,gV K env (RL p)=K.neg (gV K env p)
 | []=>(dN K).symm
 | (c,m)::r=>by
  show K.add (zt K (mono K env m) (-c)) (gV K env (RL r))=K.neg (K.add _ _);rw[AE r,K.neg_add',nD]
theorem jL:∀e:RE,gV K env e.norm=e.den K env
 | .v i=>by show K.add (K.add K.zero (K.mul (env i) K.one)) K.zero=env i; rw[K.add_zero,K.zero_add,K.mul_one]
 | .add a b=>by show gV K env (EG _ _)=K.add _ _; rw[sY,jL a,jL b]
 | .mul a b=>by show gV K env (RN _ _)=K.mul _ _; rw[AF,jL a,jL b]
 | .neg a=>by show gV K env (RL _)=K.neg _; rw[AE,jL a]
 | .zero=>rfl
 | .one=>by show K.add (K.add K.zero K.one) K.zero=K.one; rw[K.add_zero,K.zero_add]
theorem JJ:∀p,Wk p=true→gV K env p=K.zero
 | [],_=>rfl
 | (.ofNat 0,m)::r,h=>by
  show K.add K.zero (gV K env r)=_;rw[K.zero_add];exact JJ r h
 | (.ofNat (_+1),_)::_,h=>by cases h
 | (.negSucc _,_)::_,h=>by cases h
theorem aP (a b:RE) (h:Wk (RE.norm (.add a (.neg b)))=true):a.den K env=b.den K env:=by
 have:=JJ K env _ h;rw[jL]at this;have h2:K.add (K.add (a.den K env) (K.neg (b.den K env))) (b.den K env)=K.add K.zero (b.den K env):=congrArg (fun x=>K.add x (b.den K env)) this
 rwa [K.add_assoc,K.neg_add,K.add_zero,K.zero_add]at h2
end
def bT {R:Type} (K:CR R) (l:List R) (i:Nat):R:=(l[i]?).getD K.zero
end Go.Proofs.YtpjlhhpjpnacmaaGreat.Ex
