/- Et09 -/
import Derived.Test.YtpjlhhpjpnacmaaGreatDoorEt08
import Derived.Test.YtpjlhhpjpnacmaaGreatDoorEt04
import Derived.Test.YtpjlhhpjpnacmaaGreatDoorEt05
import Derived.Test.YtpjlhhpjpnacmaaGreatDoorProg
set_option maxRecDepth 100000
set_option linter.unusedVariables false
set_option linter.unusedSimpArgs false
set_option linter.unnecessarySimpa false
namespace Go.Proofs.YtpjlhhpjpnacmaaGreatDoor
open Go.Proofs.Tryz
open Go.RowKit
def Rs (F:FC) (w:World) (e:Ending) (w':World):Prop :=
 ∃T H c0 c1 c2 c3:Nat,e=.returned (.tuple #[.int .i64 T,.agg #[.int .u64 c0,.int .u64 c1,.int .u64 c2,.int .u64 c3]])∧cF c0 c1 c2 c3∧1≤T∧T≤200∧F.M=2^T*(2*H+1)+1∧aC c0 c1 c2 c3^2^(T-1)%F.M=F.M-1∧Below w.heap.size w w'
theorem Wu {n b e v:Nat} (he:e<2^256) (h:Nat.beq (pm n 256 b e) v=true):b^e%n=v:=by
 rw[←QR n 256 b e he]; exact Nat.eq_of_beq_eq_true h
theorem aAv (e:Nat) (he:e=134217728):aC 11229192882073836016 4624371214017703636 63235024940837564 3043318377369730693^e%FR.M=FR.M-1 :=
 Wu (n:=FR.M) (b:=aC 11229192882073836016 4624371214017703636 63235024940837564 3043318377369730693) (e:=e) (v:=FR.M-1) (by rw[he]; decide) (by rw[he]; kernel_rfl)
theorem aFR (T:Nat) (hT:T=28):aC 11229192882073836016 4624371214017703636 63235024940837564 3043318377369730693^2^(T-1)%FR.M=FR.M-1:=aAv (2^(T-1)) (by rw[hT])
theorem aFS:aC 4332616871279656262 10917124144477883021 13281191951274694749 3486998266802970665^2^(1-1)%FP.M=FP.M-1:=by kernel_rfl
set_option maxHeartbeats 2000000 in
theorem uX (f:Int) (F:FC) (hf:FieldIs f F) (w:World):Calls prog 152 #[.int .i64 f] w (Rs F w):=by
 rcases hf with⟨rfl,rfl⟩|⟨rfl,rfl⟩
 ·go_enter func152,ntmps152
  go_wp2_with fail;refine bodyPost_ret (v:=.tuple #[.int .i64 1,.agg #[.int .u64 4332616871279656262,.int .u64 10917124144477883021,.int .u64 13281191951274694749,.int .u64 3486998266802970665]]) (by simp[results,results152,go_sem]) rfl ?_;refine⟨1,5472060717959818805561601436314318772174077789324455915672259473661306552145,4332616871279656262,10917124144477883021,13281191951274694749,3486998266802970665,rfl,by unfold cF; decide,by omega,by omega,by kernel_rfl,aFS,?_⟩
  repeat (first|exact Below.refl _ _|refine Below.drew ?_|refine Below.alloc ?_ (by first|(simp; done)|(simp; omega)) _|refine Below.setCell ?_ (by simp) _)
 ·go_enter func152,ntmps152
  go_wp2_with fail;refine bodyPost_ret (v:=.tuple #[.int .i64 28,.agg #[.int .u64 11229192882073836016,.int .u64 4624371214017703636,.int .u64 63235024940837564,.int .u64 3043318377369730693]]) (by simp[results,results152,go_sem]) rfl ?_;refine⟨28,40770029410420498293352137776570907027550720424234931066070132305055,11229192882073836016,4624371214017703636,63235024940837564,3043318377369730693,rfl,by unfold cF; decide,by omega,by omega,by kernel_rfl,aFR 28 rfl,?_⟩
  repeat (first|exact Below.refl _ _|refine Below.drew ?_|refine Below.alloc ?_ (by first|(simp; done)|(simp; omega)) _|refine Below.setCell ?_ (by simp) _)
set_option maxHeartbeats 2000000 in
theorem UU (f:Int) (F:FC) (hf:FieldIs f F) (a0 a1 a2 a3:Nat) (ha:cF a0 a1 a2 a3) (la:aC a0 a1 a2 a3<F.M) (hz:aC a0 a1 a2 a3=0) (w:World) :
  Calls prog 103 #[.int .i64 f,.agg #[.int .u64 a0,.int .u64 a1,.int .u64 a2,.int .u64 a3]] w (He 0 0 w):=by
 have HE:=Lib.hid (show ∀w,(Op.equalIn 10000 27 (.agg #[.int .u64 a0,.int .u64 a1,.int .u64 a2,.int .u64 a3]) (.agg #[.int .u64 0,.int .u64 0,.int .u64 0,.int .u64 0])).run prog w=.ok true w from fun w=>by
  have h:=mC 9998 a0 a1 a2 a3 0 0 0 0 w;rw[show yU a0 a1 a2 a3 0 0 0 0=true from (jU ha KQ).2 (hz.trans rfl)]at h;exact h)
 have hG:=sV;clear hz
 go_enter func103,ntmps103
 go_wp2_with fail;refine (dL f F hf _).mono ?_
 rintro e w1 ⟨rfl,hbl⟩
 have M1:=(((Mem.nil w).new (w.heap.size) a0 a1 a2 a3 27 (by simp)).new (w.heap.size+1) 0 0 0 0 27 (by simp)).on hbl;clear hbl;have z0:w.heap.size<w1.heap.size:=M1.lt (c0:=a0) (c1:=a1) (c2:=a2) (c3:=a3) (by simp);have z1:w.heap.size+1<w1.heap.size:=M1.lt (c0:=0) (c1:=0) (c2:=0) (c3:=0) (by simp);have HM:=Lib.hid (M1.on ((Below.refl _ _).alloc (Nat.le_refl _) (.cells #[.int .u64 F.m0,.int .u64 F.m1,.int .u64 F.m2,.int .u64 F.m3,.int .u64 F.inv,.int .u64 F.s0,.int .u64 F.s1,.int .u64 F.s2,.int .u64 F.s3] 157)));have KK:=Lib.hid (KIs.new w1 F 157);have kr:=M1.row (b:=w.heap.size) (c0:=a0) (c1:=a1) (c2:=a2) (c3:=a3) (by simp);have x0:=kr.c0; have x1:=kr.c1; have x2:=kr.c2; have x3:=kr.c3;clear kr;have xl:=M1.lt (b:=w.heap.size) (c0:=a0) (c1:=a1) (c2:=a2) (c3:=a3) (by simp);go_wp2_with fail;refine (cW F hf.ok w1.heap.size a0 a1 a2 a3 ha _ KK.out).mono ?_
 rintro e w2 ⟨he,hbl⟩
 rw[show yT (aC a0 a1 a2 a3) F.M=true from decide_eq_true la]at he;subst he;have HM':=Lib.hid (HM.out.on hbl);have KK':=Lib.hid (KK.out.same hbl);have zk:=KK'.out.lt;clear HM KK hbl M1;have HM:=HM';have KK:=KK';clear HM' KK';clear x0 x1 x2 x3 xl zk;have kr:=HM.out.row (b:=w.heap.size) (c0:=a0) (c1:=a1) (c2:=a2) (c3:=a3) (by simp);have x0:=kr.c0; have x1:=kr.c1; have x2:=kr.c2; have x3:=kr.c3;clear kr;have xl:=HM.out.lt (b:=w.heap.size) (c0:=a0) (c1:=a1) (c2:=a2) (c3:=a3) (by simp);have kr:=HM.out.row (b:=w.heap.size+1) (c0:=0) (c1:=0) (c2:=0) (c3:=0) (by simp);have y0:=kr.c0; have y1:=kr.c1; have y2:=kr.c2; have y3:=kr.c3; have yf:=kr.fr;clear kr;have yl:=HM.out.lt (b:=w.heap.size+1) (c0:=0) (c1:=0) (c2:=0) (c3:=0) (by simp);have hE:=HE.out;go_wp2_with fail;refine bodyPost_ret (v:=.tuple #[.agg #[.int .u64 0,.int .u64 0,.int .u64 0,.int .u64 0],.int .i64 0]) (by simp[results,results103,go_sem, *]) rfl ?_;refine⟨_,_,_,_,rfl,KQ,rfl,?_⟩;exact aZ HM.out.1 (by omega) 0 0 0 0
theorem Mg {F:FC} (hF:F.Ok) {v:Nat} (hv:v<F.M) (h:dT F.M v=false):(0+F.M-v)%F.M*((0+F.M-v)%F.M)%F.M=v*v%F.M∧(0+F.M-v)%F.M<F.M∧dT F.M ((0+F.M-v)%F.M)=true:=by
 unfold dT at *;have h':¬v≤(0+F.M-v)%F.M:=of_decide_eq_false h;have hp:=hF.pos;have v0:0<v:=by
  rcases Nat.eq_zero_or_pos v with q|q
  ·subst q; exact absurd (Nat.zero_le _) h'
  ·exact q
 rw[Nat.mod_eq_of_lt (show 0+F.M-v<F.M by omega)]at *;refine⟨?_,by omega,?_⟩
 ·obtain⟨d,hd⟩:∃d,F.M=v+d:=⟨F.M-v,by omega⟩
  have hdv:d<v:=by omega
  obtain⟨e,rfl⟩:∃e,v=d+e:=⟨v-d,by omega⟩
  rw[show 0+F.M-(d+e)=d by omega];have:(d+e)*(d+e)=d*d+F.M*e:=by
   rw[hd]; simp only[Nat.add_mul,Nat.mul_add,Nat.mul_comm e d]; omega
  rw[this,Nat.add_mul_mod_self_left]
 ·rw[decide_eq_true_iff,show 0+F.M-(0+F.M-v)=v by omega,Nat.mod_eq_of_lt hv]; omega
set_option maxHeartbeats 2000000 in
theorem DM (f:Int) (F:FC) (hf:FieldIs f F) (a0 a1 a2 a3:Nat) (ha:cF a0 a1 a2 a3) (la:aC a0 a1 a2 a3<F.M) (hz:aC a0 a1 a2 a3≠0) (hs2:aC a0 a1 a2 a3^(F.M/2)%F.M=1) (w:World) :
  Calls prog 103 #[.int .i64 f,.agg #[.int .u64 a0,.int .u64 a1,.int .u64 a2,.int .u64 a3]] w (fun e w'=>∃V,He 0 V w e w'∧V*V%F.M=aC a0 a1 a2 a3∧V<F.M∧dT F.M V=true):=by
 have HE:=Lib.hid (show ∀w,(Op.equalIn 10000 27 (.agg #[.int .u64 a0,.int .u64 a1,.int .u64 a2,.int .u64 a3]) (.agg #[.int .u64 0,.int .u64 0,.int .u64 0,.int .u64 0])).run prog w=.ok false w from fun w=>by
  have h:=mC 9998 a0 a1 a2 a3 0 0 0 0 w;rw[show yU a0 a1 a2 a3 0 0 0 0=false from uH (fun q=>hz (((jU ha KQ).1 q).trans rfl))]at h;exact h)
 have hG:=sV;have HS2:=Lib.hid hs2;have HZ:=Lib.hid hz;clear hz hs2
 go_enter func103,ntmps103
 go_wp2_with fail;refine (dL f F hf _).mono ?_
 rintro e w1 ⟨rfl,hbl⟩
 have M1:=(((Mem.nil w).new (w.heap.size) a0 a1 a2 a3 27 (by simp)).new (w.heap.size+1) 0 0 0 0 27 (by simp)).on hbl;clear hbl;have z0:w.heap.size<w1.heap.size:=M1.lt (c0:=a0) (c1:=a1) (c2:=a2) (c3:=a3) (by simp);have z1:w.heap.size+1<w1.heap.size:=M1.lt (c0:=0) (c1:=0) (c2:=0) (c3:=0) (by simp);have HM:=Lib.hid (M1.on ((Below.refl _ _).alloc (Nat.le_refl _) (.cells #[.int .u64 F.m0,.int .u64 F.m1,.int .u64 F.m2,.int .u64 F.m3,.int .u64 F.inv,.int .u64 F.s0,.int .u64 F.s1,.int .u64 F.s2,.int .u64 F.s3] 157)));have KK:=Lib.hid (KIs.new w1 F 157);have kr:=M1.row (b:=w.heap.size) (c0:=a0) (c1:=a1) (c2:=a2) (c3:=a3) (by simp);have x0:=kr.c0; have x1:=kr.c1; have x2:=kr.c2; have x3:=kr.c3;clear kr;have xl:=M1.lt (b:=w.heap.size) (c0:=a0) (c1:=a1) (c2:=a2) (c3:=a3) (by simp);go_wp2_with fail;refine (cW F hf.ok w1.heap.size a0 a1 a2 a3 ha _ KK.out).mono ?_
 rintro e w2 ⟨he,hbl⟩
 rw[show yT (aC a0 a1 a2 a3) F.M=true from decide_eq_true la]at he;subst he;have HM':=Lib.hid (HM.out.on hbl);have KK':=Lib.hid (KK.out.same hbl);have zk:=KK'.out.lt;clear HM KK hbl M1;have HM:=HM';have KK:=KK';clear HM' KK';clear x0 x1 x2 x3 xl zk;have kr:=HM.out.row (b:=w.heap.size) (c0:=a0) (c1:=a1) (c2:=a2) (c3:=a3) (by simp);have x0:=kr.c0; have x1:=kr.c1; have x2:=kr.c2; have x3:=kr.c3;clear kr;have xl:=HM.out.lt (b:=w.heap.size) (c0:=a0) (c1:=a1) (c2:=a2) (c3:=a3) (by simp);have hE:=HE.out;go_wp2_with fail;clear hE x0 x1 x2 x3 xl;refine (uX f F hf _).mono ?_
 rintro e w3 ⟨T,H,c0,c1,c2,c3,rfl,hc,hT1,hT2,hMT,hcyc,hbl⟩
 have HMT:=Lib.hid hMT;have HCY:=Lib.hid hcyc;clear hMT hcyc;have HM':=Lib.hid (HM.out.on hbl);have KK':=Lib.hid (KK.out.same hbl);have zk:=KK'.out.lt;clear HM KK hbl;have HM:=HM';have KK:=KK';clear HM' KK';clear zk;have wz:w1.heap.size<w3.heap.size:=KK.out.lt;have HM':=Lib.hid (HM.out.new w3.heap.size c0 c1 c2 c3 27 rfl);have KK':=Lib.hid (KK.out.same ((Below.refl _ _).alloc (Nat.le_refl _) (.cells #[.int .u64 c0,.int .u64 c1,.int .u64 c2,.int .u64 c3] 27)));clear HM KK;have HM:=HM';have KK:=KK';clear HM' KK';clear HE hG
 go_upto_region 7 with fail
 go_cut [10,11] (fun s10 s11 wx=>∃gb s0 s1 s2 s3:Nat,s10=.pointer (some ⟨gb,0,none⟩)∧s11=.bool true∧cF s0 s1 s2 s3∧Hid (∃R,aC s0 s1 s2 s3=kp F R∧R*R%F.M=aC a0 a1 a2 a3%F.M)∧Hid (Mem w wx [(gb,s0,s1,s2,s3),(w.heap.size+1,0,0,0,0)])∧Hid (KIs wx w1.heap.size F))
 case first =>
  obtain⟨gr,hroot⟩:=hf.root;have HRo:=Lib.hid hroot;clear hroot;refine cG (fun wx=>Mem w wx [(w3.heap.size,c0,c1,c2,c3),(w.heap.size+1,0,0,0,0),(w.heap.size,a0,a1,a2,a3)]∧KIs wx w1.heap.size F) 11 (by kernel_rfl) ?_;have HM':=Lib.hid (HM.out.drewN 1);have KK':=Lib.hid (KK.out.drewN 1);clear HM KK;have HM:=HM';have KK:=KK';clear HM' KK';have HS:=And.intro (HM.out.sub (rs':=[(w3.heap.size,c0,c1,c2,c3),(w.heap.size+1,0,0,0,0),(w.heap.size,a0,a1,a2,a3)]) (by simp)) KK.out;refine aD (i:=0) (v:=.agg #[.int .u64 a0,.int .u64 a1,.int .u64 a2,.int .u64 a3]) rfl (by kernel_rfl) (by kernel_rfl) (by kernel_rfl) (by kernel_rfl) (fun _ _ _ h=>h) HS (Or.inl ⟨by kernel_rfl,fun wx hx => ?_⟩) ?_
  ·have kr:=hx.1.row (b:=w.heap.size) (c0:=a0) (c1:=a1) (c2:=a2) (c3:=a3) (by simp);have x0:=kr.c0; have x1:=kr.c1; have x2:=kr.c2; have x3:=kr.c3;clear kr HS hx;go_simp
  simp only[Act.put,List.setIfInBounds_toArray,List.set_cons_zero,List.set_cons_succ];refine aD (i:=2) (v:=.int .i64 (T:Nat)) rfl (by kernel_rfl) (by kernel_rfl) (by kernel_rfl) (by kernel_rfl) (fun _ _ _ h=>h) HS (Or.inl ⟨by kernel_rfl,fun wx hx => ?_⟩) ?_
  ·clear HS hx;go_simp
  simp only[Act.put,List.setIfInBounds_toArray,List.set_cons_zero,List.set_cons_succ];refine aD (i:=3) (v:=.agg #[.int .u64 c0,.int .u64 c1,.int .u64 c2,.int .u64 c3]) rfl (by kernel_rfl) (by kernel_rfl) (by kernel_rfl) (by kernel_rfl) (fun _ _ _ h=>h) HS (Or.inl ⟨by kernel_rfl,fun wx hx => ?_⟩) ?_
  ·have kr:=hx.1.row (b:=w3.heap.size) (c0:=c0) (c1:=c1) (c2:=c2) (c3:=c3) (by simp);have x0:=kr.c0; have x1:=kr.c1; have x2:=kr.c2; have x3:=kr.c3;clear kr HS hx;go_simp
  simp only[Act.put,List.setIfInBounds_toArray,List.set_cons_zero,List.set_cons_succ];clear HS;refine fD (i:=1) (j:=9) (by kernel_rfl) rfl rfl (fun K hK => ?_) (fun K hK => ?_)
  ·go_simp;refine (cU F hf.ok w1.heap.size a0 a1 a2 a3 ha _ KK.out).mono ?_
   rintro e v1 ⟨i0,i1,i2,i3,rfl,hi,hv,hbl⟩
   have HVi:=Lib.hid hv;clear hv;have HM':=Lib.hid (HM.out.on hbl);have KK':=Lib.hid (KK.out.same hbl);clear HM KK hbl;have HM:=HM';have KK:=KK';clear HM' KK';have HS:=And.intro (HM.out.sub (rs':=[(w3.heap.size,c0,c1,c2,c3),(w.heap.size+1,0,0,0,0),(w.heap.size,a0,a1,a2,a3)]) (by simp)) KK.out;refine hK.out _ _ (Or.inr HS) (fun _ => ?_);clear hK K HS;refine fD (i:=4) (j:=9) (by kernel_rfl) rfl rfl (fun K hK => ?_) (fun K hK => ?_)
   ·go_simp;refine (cU F hf.ok w1.heap.size c0 c1 c2 c3 hc _ KK.out).mono ?_
    rintro e v2 ⟨j0,j1,j2,j3,rfl,hj,hv,hbl⟩
    have HVj:=Lib.hid hv;clear hv;have HM':=Lib.hid (HM.out.on hbl);have KK':=Lib.hid (KK.out.same hbl);clear HM KK hbl;have HM:=HM';have KK:=KK';clear HM' KK';have HS:=And.intro (HM.out.sub (rs':=[(w3.heap.size,c0,c1,c2,c3),(w.heap.size+1,0,0,0,0),(w.heap.size,a0,a1,a2,a3)]) (by simp)) KK.out;refine hK.out _ _ (Or.inr HS) (fun _ => ?_);clear hK K HS;refine fD (i:=5) (j:=9) (by kernel_rfl) rfl rfl (fun K hK => ?_) (fun K hK => ?_)
    ·go_simp;refine (rV F hf.ok gr HRo.out (aC a0 a1 a2 a3) H T (aC c0 c1 c2 c3) w1.heap.size i0 i1 i2 i3 j0 j1 j2 j3 hi hj HVi.out HVj.out hT1 hT2 HMT.out HCY.out HS2.out _ KK.out).mono ?_
     rintro e v3 ⟨s0,s1,s2,s3,R,rfl,hs,hv,hRR,hbl⟩
     have HVs:=Lib.hid (show ∃R,aC s0 s1 s2 s3=kp F R∧R*R%F.M=aC a0 a1 a2 a3%F.M from⟨R,hv,hRR⟩);clear hv hRR;have HM':=Lib.hid (HM.out.on hbl);have KK':=Lib.hid (KK.out.same hbl);clear HM KK hbl;have HM:=HM';have KK:=KK';clear HM' KK';have HS:=And.intro (HM.out.sub (rs':=[(w3.heap.size,c0,c1,c2,c3),(w.heap.size+1,0,0,0,0),(w.heap.size,a0,a1,a2,a3)]) (by simp)) KK.out;refine hK.out _ _ (Or.inr HS) (fun _ => ?_);clear hK K HS;have HS:=And.intro (HM.out.sub (rs':=[(w3.heap.size,c0,c1,c2,c3),(w.heap.size+1,0,0,0,0),(w.heap.size,a0,a1,a2,a3)]) (by simp)) KK.out;refine aD (i:=6) (v:=.tuple #[.agg #[.int .u64 s0,.int .u64 s1,.int .u64 s2,.int .u64 s3],.bool true]) rfl (by kernel_rfl) (by kernel_rfl) (by kernel_rfl) (by kernel_rfl) (fun _ _ _ h=>h) HS (Or.inl ⟨by kernel_rfl,fun wx hx => ?_⟩) ?_
     ·clear HS hx;go_simp
     simp only[Act.put,List.setIfInBounds_toArray,List.set_cons_zero,List.set_cons_succ];refine aD (i:=7) (v:=.agg #[.int .u64 s0,.int .u64 s1,.int .u64 s2,.int .u64 s3]) rfl (by kernel_rfl) (by kernel_rfl) (by kernel_rfl) (by kernel_rfl) (fun _ _ _ h=>h) HS (Or.inl ⟨by kernel_rfl,fun wx hx => ?_⟩) ?_
     ·clear HS hx;go_simp
     simp only[Act.put,List.setIfInBounds_toArray,List.set_cons_zero,List.set_cons_succ];refine aD (i:=8) (v:=.bool true) rfl (by kernel_rfl) (by kernel_rfl) (by kernel_rfl) (by kernel_rfl) (fun _ _ _ h=>h) HS (Or.inl ⟨by kernel_rfl,fun wx hx => ?_⟩) ?_
     ·clear HS hx;go_simp
     simp only[Act.put,List.setIfInBounds_toArray,List.set_cons_zero,List.set_cons_succ];clear HS;refine aF (i:=9) (by kernel_rfl) rfl (fun K hK => ?_);go_simp;have HM9:=HM;have KK9:=KK;have HM':=Lib.hid (HM.out.new (v3.heap.size) 0 0 0 0 155 (by first|rfl|(simp; done)));have KK':=Lib.hid (KK.out.same ((Below.refl _ _).alloc (Nat.le_refl _) (.cells #[.int .u64 (0:Nat),.int .u64 (0:Nat),.int .u64 (0:Nat),.int .u64 (0:Nat)] 155)));have hgk:w1.heap.size<(v3.heap.size):=by first|omega|exact KK.out.lt|(have:=KK.out.lt; simpa using this)
     have hgc:w3.heap.size<(v3.heap.size):=by first|omega|exact HM.out.lt (b:=w3.heap.size) (c0:=c0) (c1:=c1) (c2:=c2) (c3:=c3) (by simp)
     have hga:w.heap.size+1<(v3.heap.size):=by omega
     clear HM KK;have HM:=HM';have KK:=KK';clear HM' KK';have HS:=And.intro (HM.out.sub (rs':=[(w3.heap.size,c0,c1,c2,c3),(w.heap.size+1,0,0,0,0),(w.heap.size,a0,a1,a2,a3)]) (by simp)) KK.out;refine hK.out _ _ (Or.inr HS) (fun _ => ?_);clear hK K HS;have kr:=HM.out.row (b:=(v3.heap.size)) (c0:=0) (c1:=0) (c2:=0) (c3:=0) (by simp);have yl:=HM.out.lt (b:=(v3.heap.size)) (c0:=0) (c1:=0) (c2:=0) (c3:=0) (by simp);have y0:=kr.c0; have y1:=kr.c1; have y2:=kr.c2; have y3:=kr.c3; have yf:=kr.fr;clear kr;refine aF (i:=10) (by kernel_rfl) rfl (fun K hK => ?_);go_simp;have HM':=Lib.hid (HM9.out.new (v3.heap.size) s0 s1 s2 s3 155 (by first|rfl|(simp; done)));have KK':=Lib.hid (KK9.out.same ((Below.refl _ _).alloc (Nat.le_refl _) (.cells #[.int .u64 s0,.int .u64 s1,.int .u64 s2,.int .u64 s3] 155)));clear HM KK;have HM:=HM';have KK:=KK';clear HM' KK';have HS:=And.intro (HM.out.sub (rs':=[(w3.heap.size,c0,c1,c2,c3),(w.heap.size+1,0,0,0,0),(w.heap.size,a0,a1,a2,a3)]) (by simp)) KK.out;refine hK.out _ _ (Or.inr HS) (fun _ => ?_);clear hK K HS;refine aF (i:=11) (by kernel_rfl) rfl (fun K hK => ?_);go_simp;refine hK.out _ _ (Or.inl rfl) (fun _ => ?_);clear hK K;refine bR (by kernel_rfl) ?_;go_wp2_with fail
     go_meet
     exact⟨(v3.heap.size),s0,s1,s2,s3,rfl,rfl,hs,HVs,Lib.hid (HM.out.sub (by simp)),KK⟩
    ·go_simp;have HM9:=HM;have KK9:=KK;have HM':=Lib.hid (HM.out.new (v2.heap.size) 0 0 0 0 155 (by first|rfl|(simp; done)));have KK':=Lib.hid (KK.out.same ((Below.refl _ _).alloc (Nat.le_refl _) (.cells #[.int .u64 (0:Nat),.int .u64 (0:Nat),.int .u64 (0:Nat),.int .u64 (0:Nat)] 155)));have hgk:w1.heap.size<(v2.heap.size):=by first|omega|exact KK.out.lt|(have:=KK.out.lt; simpa using this)
     have hgc:w3.heap.size<(v2.heap.size):=by first|omega|exact HM.out.lt (b:=w3.heap.size) (c0:=c0) (c1:=c1) (c2:=c2) (c3:=c3) (by simp)
     have hga:w.heap.size+1<(v2.heap.size):=by omega
     clear HM KK;have HM:=HM';have KK:=KK';clear HM' KK';have HS:=And.intro (HM.out.sub (rs':=[(w3.heap.size,c0,c1,c2,c3),(w.heap.size+1,0,0,0,0),(w.heap.size,a0,a1,a2,a3)]) (by simp)) KK.out;refine hK.out _ _ (Or.inr HS) (fun _ => ?_);clear hK K HS;refine aF (i:=5) (by kernel_rfl) rfl (fun K hK => ?_);go_simp;refine (rV F hf.ok gr HRo.out (aC a0 a1 a2 a3) H T (aC c0 c1 c2 c3) w1.heap.size i0 i1 i2 i3 j0 j1 j2 j3 hi hj HVi.out HVj.out hT1 hT2 HMT.out HCY.out HS2.out _ KK.out).mono ?_
     rintro e v3 ⟨s0,s1,s2,s3,R,rfl,hs,hv,hRR,hbl⟩
     have HVs:=Lib.hid (show ∃R,aC s0 s1 s2 s3=kp F R∧R*R%F.M=aC a0 a1 a2 a3%F.M from⟨R,hv,hRR⟩);clear hv hRR;have HM':=Lib.hid (HM.out.on hbl);have KK':=Lib.hid (KK.out.same hbl);clear HM KK hbl;have HM:=HM';have KK:=KK';clear HM' KK';have HS:=And.intro (HM.out.sub (rs':=[(w3.heap.size,c0,c1,c2,c3),(w.heap.size+1,0,0,0,0),(w.heap.size,a0,a1,a2,a3)]) (by simp)) KK.out;refine hK.out _ _ (Or.inr HS) (fun _ => ?_);clear hK K HS;have HS:=And.intro (HM.out.sub (rs':=[(w3.heap.size,c0,c1,c2,c3),(w.heap.size+1,0,0,0,0),(w.heap.size,a0,a1,a2,a3)]) (by simp)) KK.out;refine aD (i:=6) (v:=.tuple #[.agg #[.int .u64 s0,.int .u64 s1,.int .u64 s2,.int .u64 s3],.bool true]) rfl (by kernel_rfl) (by kernel_rfl) (by kernel_rfl) (by kernel_rfl) (fun _ _ _ h=>h) HS (Or.inl ⟨by kernel_rfl,fun wx hx => ?_⟩) ?_
     ·clear HS hx;go_simp
     simp only[Act.put,List.setIfInBounds_toArray,List.set_cons_zero,List.set_cons_succ];refine aD (i:=7) (v:=.agg #[.int .u64 s0,.int .u64 s1,.int .u64 s2,.int .u64 s3]) rfl (by kernel_rfl) (by kernel_rfl) (by kernel_rfl) (by kernel_rfl) (fun _ _ _ h=>h) HS (Or.inl ⟨by kernel_rfl,fun wx hx => ?_⟩) ?_
     ·clear HS hx;go_simp
     simp only[Act.put,List.setIfInBounds_toArray,List.set_cons_zero,List.set_cons_succ];refine aD (i:=8) (v:=.bool true) rfl (by kernel_rfl) (by kernel_rfl) (by kernel_rfl) (by kernel_rfl) (fun _ _ _ h=>h) HS (Or.inl ⟨by kernel_rfl,fun wx hx => ?_⟩) ?_
     ·clear HS hx;go_simp
     simp only[Act.put,List.setIfInBounds_toArray,List.set_cons_zero,List.set_cons_succ];clear HS;have kr:=HM.out.row (b:=(v2.heap.size)) (c0:=0) (c1:=0) (c2:=0) (c3:=0) (by simp);have yl:=HM.out.lt (b:=(v2.heap.size)) (c0:=0) (c1:=0) (c2:=0) (c3:=0) (by simp);have y0:=kr.c0; have y1:=kr.c1; have y2:=kr.c2; have y3:=kr.c3; have yf:=kr.fr;clear kr;refine aF (i:=10) (by kernel_rfl) rfl (fun K hK => ?_);go_simp;have HM':=Lib.hid (HM.out.put s0 s1 s2 s3 (by omega) (by intro r hr; simp at hr; rcases hr with rfl|rfl|rfl<;>simp<;>omega));have KK':=Lib.hid (KK.out.set4 (d:=(v2.heap.size)) (by omega) s0 s1 s2 s3);clear HM KK;have HM:=HM';have KK:=KK';clear HM' KK';have HS:=And.intro (HM.out.sub (rs':=[(w3.heap.size,c0,c1,c2,c3),(w.heap.size+1,0,0,0,0),(w.heap.size,a0,a1,a2,a3)]) (by simp)) KK.out;refine hK.out _ _ (Or.inr HS) (fun _ => ?_);clear hK K HS;refine aF (i:=11) (by kernel_rfl) rfl (fun K hK => ?_);go_simp;refine hK.out _ _ (Or.inl rfl) (fun _ => ?_);clear hK K;refine bR (by kernel_rfl) ?_;go_wp2_with fail
     go_meet
     exact⟨(v2.heap.size),s0,s1,s2,s3,rfl,rfl,hs,HVs,Lib.hid (HM.out.sub (by simp)),KK⟩
   ·go_simp;have HM9:=HM;have KK9:=KK;have HM':=Lib.hid (HM.out.new (v1.heap.size) 0 0 0 0 155 (by first|rfl|(simp; done)));have KK':=Lib.hid (KK.out.same ((Below.refl _ _).alloc (Nat.le_refl _) (.cells #[.int .u64 (0:Nat),.int .u64 (0:Nat),.int .u64 (0:Nat),.int .u64 (0:Nat)] 155)));have hgk:w1.heap.size<(v1.heap.size):=by first|omega|exact KK.out.lt|(have:=KK.out.lt; simpa using this)
    have hgc:w3.heap.size<(v1.heap.size):=by first|omega|exact HM.out.lt (b:=w3.heap.size) (c0:=c0) (c1:=c1) (c2:=c2) (c3:=c3) (by simp)
    have hga:w.heap.size+1<(v1.heap.size):=by omega
    clear HM KK;have HM:=HM';have KK:=KK';clear HM' KK';have HS:=And.intro (HM.out.sub (rs':=[(w3.heap.size,c0,c1,c2,c3),(w.heap.size+1,0,0,0,0),(w.heap.size,a0,a1,a2,a3)]) (by simp)) KK.out;refine hK.out _ _ (Or.inr HS) (fun _ => ?_);clear hK K HS;refine aF (i:=4) (by kernel_rfl) rfl (fun K hK => ?_);go_simp;refine (cU F hf.ok w1.heap.size c0 c1 c2 c3 hc _ KK.out).mono ?_
    rintro e v2 ⟨j0,j1,j2,j3,rfl,hj,hv,hbl⟩
    have HVj:=Lib.hid hv;clear hv;have HM':=Lib.hid (HM.out.on hbl);have KK':=Lib.hid (KK.out.same hbl);clear HM KK hbl;have HM:=HM';have KK:=KK';clear HM' KK';have HS:=And.intro (HM.out.sub (rs':=[(w3.heap.size,c0,c1,c2,c3),(w.heap.size+1,0,0,0,0),(w.heap.size,a0,a1,a2,a3)]) (by simp)) KK.out;refine hK.out _ _ (Or.inr HS) (fun _ => ?_);clear hK K HS;refine aF (i:=5) (by kernel_rfl) rfl (fun K hK => ?_);go_simp;refine (rV F hf.ok gr HRo.out (aC a0 a1 a2 a3) H T (aC c0 c1 c2 c3) w1.heap.size i0 i1 i2 i3 j0 j1 j2 j3 hi hj HVi.out HVj.out hT1 hT2 HMT.out HCY.out HS2.out _ KK.out).mono ?_
    rintro e v3 ⟨s0,s1,s2,s3,R,rfl,hs,hv,hRR,hbl⟩
    have HVs:=Lib.hid (show ∃R,aC s0 s1 s2 s3=kp F R∧R*R%F.M=aC a0 a1 a2 a3%F.M from⟨R,hv,hRR⟩);clear hv hRR;have HM':=Lib.hid (HM.out.on hbl);have KK':=Lib.hid (KK.out.same hbl);clear HM KK hbl;have HM:=HM';have KK:=KK';clear HM' KK';have HS:=And.intro (HM.out.sub (rs':=[(w3.heap.size,c0,c1,c2,c3),(w.heap.size+1,0,0,0,0),(w.heap.size,a0,a1,a2,a3)]) (by simp)) KK.out;refine hK.out _ _ (Or.inr HS) (fun _ => ?_);clear hK K HS;have HS:=And.intro (HM.out.sub (rs':=[(w3.heap.size,c0,c1,c2,c3),(w.heap.size+1,0,0,0,0),(w.heap.size,a0,a1,a2,a3)]) (by simp)) KK.out;refine aD (i:=6) (v:=.tuple #[.agg #[.int .u64 s0,.int .u64 s1,.int .u64 s2,.int .u64 s3],.bool true]) rfl (by kernel_rfl) (by kernel_rfl) (by kernel_rfl) (by kernel_rfl) (fun _ _ _ h=>h) HS (Or.inl ⟨by kernel_rfl,fun wx hx => ?_⟩) ?_
    ·clear HS hx;go_simp
    simp only[Act.put,List.setIfInBounds_toArray,List.set_cons_zero,List.set_cons_succ];refine aD (i:=7) (v:=.agg #[.int .u64 s0,.int .u64 s1,.int .u64 s2,.int .u64 s3]) rfl (by kernel_rfl) (by kernel_rfl) (by kernel_rfl) (by kernel_rfl) (fun _ _ _ h=>h) HS (Or.inl ⟨by kernel_rfl,fun wx hx => ?_⟩) ?_
    ·clear HS hx;go_simp
    simp only[Act.put,List.setIfInBounds_toArray,List.set_cons_zero,List.set_cons_succ];refine aD (i:=8) (v:=.bool true) rfl (by kernel_rfl) (by kernel_rfl) (by kernel_rfl) (by kernel_rfl) (fun _ _ _ h=>h) HS (Or.inl ⟨by kernel_rfl,fun wx hx => ?_⟩) ?_
    ·clear HS hx;go_simp
    simp only[Act.put,List.setIfInBounds_toArray,List.set_cons_zero,List.set_cons_succ];clear HS;have kr:=HM.out.row (b:=(v1.heap.size)) (c0:=0) (c1:=0) (c2:=0) (c3:=0) (by simp);have yl:=HM.out.lt (b:=(v1.heap.size)) (c0:=0) (c1:=0) (c2:=0) (c3:=0) (by simp);have y0:=kr.c0; have y1:=kr.c1; have y2:=kr.c2; have y3:=kr.c3; have yf:=kr.fr;clear kr;refine aF (i:=10) (by kernel_rfl) rfl (fun K hK => ?_);go_simp;have HM':=Lib.hid (HM.out.put s0 s1 s2 s3 (by omega) (by intro r hr; simp at hr; rcases hr with rfl|rfl|rfl<;>simp<;>omega));have KK':=Lib.hid (KK.out.set4 (d:=(v1.heap.size)) (by omega) s0 s1 s2 s3);clear HM KK;have HM:=HM';have KK:=KK';clear HM' KK';have HS:=And.intro (HM.out.sub (rs':=[(w3.heap.size,c0,c1,c2,c3),(w.heap.size+1,0,0,0,0),(w.heap.size,a0,a1,a2,a3)]) (by simp)) KK.out;refine hK.out _ _ (Or.inr HS) (fun _ => ?_);clear hK K HS;refine aF (i:=11) (by kernel_rfl) rfl (fun K hK => ?_);go_simp;refine hK.out _ _ (Or.inl rfl) (fun _ => ?_);clear hK K;refine bR (by kernel_rfl) ?_;go_wp2_with fail
    go_meet
    exact⟨(v1.heap.size),s0,s1,s2,s3,rfl,rfl,hs,HVs,Lib.hid (HM.out.sub (by simp)),KK⟩
  ·go_simp;have HM9:=HM;have KK9:=KK;have HM':=Lib.hid (HM.out.new (w3.heap.size+1) 0 0 0 0 155 (by first|rfl|(simp; done)));have KK':=Lib.hid (KK.out.same ((Below.refl _ _).alloc (Nat.le_refl _) (.cells #[.int .u64 (0:Nat),.int .u64 (0:Nat),.int .u64 (0:Nat),.int .u64 (0:Nat)] 155)));have hgk:w1.heap.size<(w3.heap.size+1):=by first|omega|exact KK.out.lt|(have:=KK.out.lt; simpa using this)
   have hgc:w3.heap.size<(w3.heap.size+1):=by first|omega|exact HM.out.lt (b:=w3.heap.size) (c0:=c0) (c1:=c1) (c2:=c2) (c3:=c3) (by simp)
   have hga:w.heap.size+1<(w3.heap.size+1):=by omega
   clear HM KK;have HM:=HM';have KK:=KK';clear HM' KK';have HS:=And.intro (HM.out.sub (rs':=[(w3.heap.size,c0,c1,c2,c3),(w.heap.size+1,0,0,0,0),(w.heap.size,a0,a1,a2,a3)]) (by simp)) KK.out;refine hK.out _ _ (Or.inr HS) (fun _ => ?_);clear hK K HS;refine aF (i:=1) (by kernel_rfl) rfl (fun K hK => ?_);go_simp;refine (cU F hf.ok w1.heap.size a0 a1 a2 a3 ha _ KK.out).mono ?_
   rintro e v1 ⟨i0,i1,i2,i3,rfl,hi,hv,hbl⟩
   have HVi:=Lib.hid hv;clear hv;have HM':=Lib.hid (HM.out.on hbl);have KK':=Lib.hid (KK.out.same hbl);clear HM KK hbl;have HM:=HM';have KK:=KK';clear HM' KK';have HS:=And.intro (HM.out.sub (rs':=[(w3.heap.size,c0,c1,c2,c3),(w.heap.size+1,0,0,0,0),(w.heap.size,a0,a1,a2,a3)]) (by simp)) KK.out;refine hK.out _ _ (Or.inr HS) (fun _ => ?_);clear hK K HS;refine aF (i:=4) (by kernel_rfl) rfl (fun K hK => ?_);go_simp;refine (cU F hf.ok w1.heap.size c0 c1 c2 c3 hc _ KK.out).mono ?_
   rintro e v2 ⟨j0,j1,j2,j3,rfl,hj,hv,hbl⟩
   have HVj:=Lib.hid hv;clear hv;have HM':=Lib.hid (HM.out.on hbl);have KK':=Lib.hid (KK.out.same hbl);clear HM KK hbl;have HM:=HM';have KK:=KK';clear HM' KK';have HS:=And.intro (HM.out.sub (rs':=[(w3.heap.size,c0,c1,c2,c3),(w.heap.size+1,0,0,0,0),(w.heap.size,a0,a1,a2,a3)]) (by simp)) KK.out;refine hK.out _ _ (Or.inr HS) (fun _ => ?_);clear hK K HS;refine aF (i:=5) (by kernel_rfl) rfl (fun K hK => ?_);go_simp;refine (rV F hf.ok gr HRo.out (aC a0 a1 a2 a3) H T (aC c0 c1 c2 c3) w1.heap.size i0 i1 i2 i3 j0 j1 j2 j3 hi hj HVi.out HVj.out hT1 hT2 HMT.out HCY.out HS2.out _ KK.out).mono ?_
   rintro e v3 ⟨s0,s1,s2,s3,R,rfl,hs,hv,hRR,hbl⟩
   have HVs:=Lib.hid (show ∃R,aC s0 s1 s2 s3=kp F R∧R*R%F.M=aC a0 a1 a2 a3%F.M from⟨R,hv,hRR⟩);clear hv hRR;have HM':=Lib.hid (HM.out.on hbl);have KK':=Lib.hid (KK.out.same hbl);clear HM KK hbl;have HM:=HM';have KK:=KK';clear HM' KK';have HS:=And.intro (HM.out.sub (rs':=[(w3.heap.size,c0,c1,c2,c3),(w.heap.size+1,0,0,0,0),(w.heap.size,a0,a1,a2,a3)]) (by simp)) KK.out;refine hK.out _ _ (Or.inr HS) (fun _ => ?_);clear hK K HS;have HS:=And.intro (HM.out.sub (rs':=[(w3.heap.size,c0,c1,c2,c3),(w.heap.size+1,0,0,0,0),(w.heap.size,a0,a1,a2,a3)]) (by simp)) KK.out;refine aD (i:=6) (v:=.tuple #[.agg #[.int .u64 s0,.int .u64 s1,.int .u64 s2,.int .u64 s3],.bool true]) rfl (by kernel_rfl) (by kernel_rfl) (by kernel_rfl) (by kernel_rfl) (fun _ _ _ h=>h) HS (Or.inl ⟨by kernel_rfl,fun wx hx => ?_⟩) ?_
   ·clear HS hx;go_simp
   simp only[Act.put,List.setIfInBounds_toArray,List.set_cons_zero,List.set_cons_succ];refine aD (i:=7) (v:=.agg #[.int .u64 s0,.int .u64 s1,.int .u64 s2,.int .u64 s3]) rfl (by kernel_rfl) (by kernel_rfl) (by kernel_rfl) (by kernel_rfl) (fun _ _ _ h=>h) HS (Or.inl ⟨by kernel_rfl,fun wx hx => ?_⟩) ?_
   ·clear HS hx;go_simp
   simp only[Act.put,List.setIfInBounds_toArray,List.set_cons_zero,List.set_cons_succ];refine aD (i:=8) (v:=.bool true) rfl (by kernel_rfl) (by kernel_rfl) (by kernel_rfl) (by kernel_rfl) (fun _ _ _ h=>h) HS (Or.inl ⟨by kernel_rfl,fun wx hx => ?_⟩) ?_
   ·clear HS hx;go_simp
   simp only[Act.put,List.setIfInBounds_toArray,List.set_cons_zero,List.set_cons_succ];clear HS;have kr:=HM.out.row (b:=(w3.heap.size+1)) (c0:=0) (c1:=0) (c2:=0) (c3:=0) (by simp);have yl:=HM.out.lt (b:=(w3.heap.size+1)) (c0:=0) (c1:=0) (c2:=0) (c3:=0) (by simp);have y0:=kr.c0; have y1:=kr.c1; have y2:=kr.c2; have y3:=kr.c3; have yf:=kr.fr;clear kr;refine aF (i:=10) (by kernel_rfl) rfl (fun K hK => ?_);go_simp;have HM':=Lib.hid (HM.out.put s0 s1 s2 s3 (by omega) (by intro r hr; simp at hr; rcases hr with rfl|rfl|rfl<;>simp<;>omega));have KK':=Lib.hid (KK.out.set4 (d:=(w3.heap.size+1)) (by omega) s0 s1 s2 s3);clear HM KK;have HM:=HM';have KK:=KK';clear HM' KK';have HS:=And.intro (HM.out.sub (rs':=[(w3.heap.size,c0,c1,c2,c3),(w.heap.size+1,0,0,0,0),(w.heap.size,a0,a1,a2,a3)]) (by simp)) KK.out;refine hK.out _ _ (Or.inr HS) (fun _ => ?_);clear hK K HS;refine aF (i:=11) (by kernel_rfl) rfl (fun K hK => ?_);go_simp;refine hK.out _ _ (Or.inl rfl) (fun _ => ?_);clear hK K;refine bR (by kernel_rfl) ?_;go_wp2_with fail
   go_meet
   exact⟨(w3.heap.size+1),s0,s1,s2,s3,rfl,rfl,hs,HVs,Lib.hid (HM.out.sub (by simp)),KK⟩
 case rest =>
  obtain⟨gb,s0,s1,s2,s3,rfl,rfl,hs,HVs,HM',KK'⟩:=hcut;clear HM KK;have HM:=HM';have KK:=KK';clear HM' KK';obtain⟨R,hR1,hR2⟩:=HVs.out;have HR1:=Lib.hid hR1;have HR2:=Lib.hid hR2;clear hR1 hR2 HVs;have kr:=HM.out.row (b:=gb) (c0:=s0) (c1:=s1) (c2:=s2) (c3:=s3) (by simp);have x0:=kr.c0; have x1:=kr.c1; have x2:=kr.c2; have x3:=kr.c3;clear kr;have xl:=HM.out.lt (b:=gb) (c0:=s0) (c1:=s1) (c2:=s2) (c3:=s3) (by simp);go_wp2_with fail;refine (zZ F hf.ok w1.heap.size s0 s1 s2 s3 hs _ KK.out).mono ?_
  rintro e w5 ⟨u0,u1,u2,u3,rfl,hu,hv,hbl⟩
  have HVu:=Lib.hid (show aC u0 u1 u2 u3=R%F.M by rw[hv,HR1.out,←gK,DC hf.ok _ (Nat.mod_lt _ hf.ok.pos)]);have lu:aC u0 u1 u2 u3<F.M:=by rw[HVu.out]; exact Nat.mod_lt _ hf.ok.pos
  have HQ:=Lib.hid (show aC u0 u1 u2 u3*aC u0 u1 u2 u3%F.M=aC a0 a1 a2 a3 by rw[HVu.out,←Nat.mul_mod,HR2.out,Nat.mod_eq_of_lt la]);clear hv;have HM':=Lib.hid (HM.out.on hbl);have KK':=Lib.hid (KK.out.same hbl);have zk:=KK'.out.lt;clear HM KK hbl;have HM:=HM';have KK:=KK';clear HM' KK';have Hlu:=Lib.hid lu;clear lu zk x0 x1 x2 x3 xl;have wz5:w1.heap.size<w5.heap.size:=KK.out.lt;have wz6:w.heap.size+1<w5.heap.size:=HM.out.lt (b:=w.heap.size+1) (c0:=0) (c1:=0) (c2:=0) (c3:=0) (by simp);have HM':=Lib.hid ((HM.out.new w5.heap.size u0 u1 u2 u3 27 rfl).sub (rs':=[(w5.heap.size,u0,u1,u2,u3),(w.heap.size+1,0,0,0,0)]) (by simp));have KK':=Lib.hid (KK.out.same ((Below.refl _ _).alloc (Nat.le_refl _) (.cells #[.int .u64 u0,.int .u64 u1,.int .u64 u2,.int .u64 u3] 27)));clear HM KK;have HM:=HM';have KK:=KK';clear HM' KK';go_wp2_with fail;refine (pQ F hf.ok w1.heap.size u0 u1 u2 u3 hu Hlu.out _ KK.out).mono ?_
  rintro e w6 ⟨he,hbl⟩
  have HM':=Lib.hid (HM.out.on hbl);have KK':=Lib.hid (KK.out.same hbl);clear HM KK hbl;have HM:=HM';have KK:=KK';clear HM' KK';cases q:dT F.M (aC u0 u1 u2 u3)
  ·rw[q]at he;subst he;have HQ2:=Lib.hid q;clear q;have kr:=HM.out.row (b:=w5.heap.size) (c0:=u0) (c1:=u1) (c2:=u2) (c3:=u3) (by simp);have x0:=kr.c0; have x1:=kr.c1; have x2:=kr.c2; have x3:=kr.c3;clear kr;have xl:=HM.out.lt (b:=w5.heap.size) (c0:=u0) (c1:=u1) (c2:=u2) (c3:=u3) (by simp);go_wp2_with fail;refine (oA F hf.ok w1.heap.size 0 0 0 0 u0 u1 u2 u3 KQ hu hf.ok.pos Hlu.out _ KK.out).mono ?_
   rintro e w7 ⟨n0,n1,n2,n3,rfl,hn,hv,hbl⟩
   have HVn:=Lib.hid hv;clear hv;have HM':=Lib.hid (HM.out.on hbl);have KK':=Lib.hid (KK.out.same hbl);have zk:=KK'.out.lt;clear HM KK hbl;have HM:=HM';have KK:=KK';clear HM' KK';clear zk x0 x1 x2 x3 xl;have kr:=HM.out.row (b:=w5.heap.size) (c0:=u0) (c1:=u1) (c2:=u2) (c3:=u3) (by simp);have x0:=kr.c0; have x1:=kr.c1; have x2:=kr.c2; have x3:=kr.c3; have xf:=kr.fr;clear kr;have xl:=HM.out.lt (b:=w5.heap.size) (c0:=u0) (c1:=u1) (c2:=u2) (c3:=u3) (by simp);have kr:=HM.out.row (b:=w.heap.size+1) (c0:=0) (c1:=0) (c2:=0) (c3:=0) (by simp);have y0:=kr.c0; have y1:=kr.c1; have y2:=kr.c2; have y3:=kr.c3; have yf:=kr.fr;clear kr;have yl:=HM.out.lt (b:=w.heap.size+1) (c0:=0) (c1:=0) (c2:=0) (c3:=0) (by simp);have HM':=Lib.hid (HM.out.put n0 n1 n2 n3 (by omega) (by intro r hr; simp at hr; rcases hr with rfl; simp; omega));have ne1:¬w.heap.size+1=w5.heap.size:=by omega
   clear HM;have HM:=HM';clear HM';go_wp2_with fail;refine bodyPost_ret (v:=.tuple #[.agg #[.int .u64 n0,.int .u64 n1,.int .u64 n2,.int .u64 n3],.int .i64 0]) (by simp[results,results103,go_sem, *]) rfl ?_;obtain⟨v1,v2,v3⟩:=Mg hf.ok Hlu.out HQ2.out;refine⟨_,⟨_,_,_,_,rfl,hn,HVn.out,?_⟩,?_,v2,v3⟩
   ·have HB:=HM.out.1;unfold set4 at HB;exact aZ HB (by omega) _ _ _ _
   ·rw[show aC 0 0 0 0=0 from rfl,v1,HQ.out]
  ·rw[q]at he;subst he;have HQ2:=Lib.hid q;clear q;have kr:=HM.out.row (b:=w5.heap.size) (c0:=u0) (c1:=u1) (c2:=u2) (c3:=u3) (by simp);have x0:=kr.c0; have x1:=kr.c1; have x2:=kr.c2; have x3:=kr.c3;clear kr;have xl:=HM.out.lt (b:=w5.heap.size) (c0:=u0) (c1:=u1) (c2:=u2) (c3:=u3) (by simp);have kr:=HM.out.row (b:=w.heap.size+1) (c0:=0) (c1:=0) (c2:=0) (c3:=0) (by simp);have y0:=kr.c0; have y1:=kr.c1; have y2:=kr.c2; have y3:=kr.c3; have yf:=kr.fr;clear kr;have yl:=HM.out.lt (b:=w.heap.size+1) (c0:=0) (c1:=0) (c2:=0) (c3:=0) (by simp);go_wp2_with fail;refine bodyPost_ret (v:=.tuple #[.agg #[.int .u64 u0,.int .u64 u1,.int .u64 u2,.int .u64 u3],.int .i64 0]) (by simp[results,results103,go_sem, *]) rfl ?_;refine⟨_,⟨_,_,_,_,rfl,hu,rfl,?_⟩,HQ.out,Hlu.out,HQ2.out⟩;exact aZ HM.out.1 (by omega) _ _ _ _
set_option maxHeartbeats 2000000 in
theorem JE (f:Int) (F:FC) (hf:FieldIs f F) (a0 a1 a2 a3:Nat) (ha:cF a0 a1 a2 a3) (la:aC a0 a1 a2 a3<F.M) (hz:aC a0 a1 a2 a3≠0) (hs2:aC a0 a1 a2 a3^(F.M/2)%F.M≠1) (w:World) :
  Calls prog 103 #[.int .i64 f,.agg #[.int .u64 a0,.int .u64 a1,.int .u64 a2,.int .u64 a3]] w (He 23 0 w):=by
 have HE:=Lib.hid (show ∀w,(Op.equalIn 10000 27 (.agg #[.int .u64 a0,.int .u64 a1,.int .u64 a2,.int .u64 a3]) (.agg #[.int .u64 0,.int .u64 0,.int .u64 0,.int .u64 0])).run prog w=.ok false w from fun w=>by
  have h:=mC 9998 a0 a1 a2 a3 0 0 0 0 w;rw[show yU a0 a1 a2 a3 0 0 0 0=false from uH (fun q=>hz (((jU ha KQ).1 q).trans rfl))]at h;exact h)
 have hG:=sV;have HS2:=Lib.hid hs2;have HZ:=Lib.hid hz;clear hz hs2
 go_enter func103,ntmps103
 go_wp2_with fail;refine (dL f F hf _).mono ?_
 rintro e w1 ⟨rfl,hbl⟩
 have M1:=(((Mem.nil w).new (w.heap.size) a0 a1 a2 a3 27 (by simp)).new (w.heap.size+1) 0 0 0 0 27 (by simp)).on hbl;clear hbl;have z0:w.heap.size<w1.heap.size:=M1.lt (c0:=a0) (c1:=a1) (c2:=a2) (c3:=a3) (by simp);have z1:w.heap.size+1<w1.heap.size:=M1.lt (c0:=0) (c1:=0) (c2:=0) (c3:=0) (by simp);have HM:=Lib.hid (M1.on ((Below.refl _ _).alloc (Nat.le_refl _) (.cells #[.int .u64 F.m0,.int .u64 F.m1,.int .u64 F.m2,.int .u64 F.m3,.int .u64 F.inv,.int .u64 F.s0,.int .u64 F.s1,.int .u64 F.s2,.int .u64 F.s3] 157)));have KK:=Lib.hid (KIs.new w1 F 157);have kr:=M1.row (b:=w.heap.size) (c0:=a0) (c1:=a1) (c2:=a2) (c3:=a3) (by simp);have x0:=kr.c0; have x1:=kr.c1; have x2:=kr.c2; have x3:=kr.c3;clear kr;have xl:=M1.lt (b:=w.heap.size) (c0:=a0) (c1:=a1) (c2:=a2) (c3:=a3) (by simp);go_wp2_with fail;refine (cW F hf.ok w1.heap.size a0 a1 a2 a3 ha _ KK.out).mono ?_
 rintro e w2 ⟨he,hbl⟩
 rw[show yT (aC a0 a1 a2 a3) F.M=true from decide_eq_true la]at he;subst he;have HM':=Lib.hid (HM.out.on hbl);have KK':=Lib.hid (KK.out.same hbl);have zk:=KK'.out.lt;clear HM KK hbl M1;have HM:=HM';have KK:=KK';clear HM' KK';clear x0 x1 x2 x3 xl zk;have kr:=HM.out.row (b:=w.heap.size) (c0:=a0) (c1:=a1) (c2:=a2) (c3:=a3) (by simp);have x0:=kr.c0; have x1:=kr.c1; have x2:=kr.c2; have x3:=kr.c3;clear kr;have xl:=HM.out.lt (b:=w.heap.size) (c0:=a0) (c1:=a1) (c2:=a2) (c3:=a3) (by simp);have hE:=HE.out;go_wp2_with fail;clear hE x0 x1 x2 x3 xl;refine (uX f F hf _).mono ?_
 rintro e w3 ⟨T,H,c0,c1,c2,c3,rfl,hc,hT1,hT2,hMT,hcyc,hbl⟩
 have HMT:=Lib.hid hMT;have HCY:=Lib.hid hcyc;clear hMT hcyc;have HM':=Lib.hid (HM.out.on hbl);have KK':=Lib.hid (KK.out.same hbl);have zk:=KK'.out.lt;clear HM KK hbl;have HM:=HM';have KK:=KK';clear HM' KK';clear zk;have wz:w1.heap.size<w3.heap.size:=KK.out.lt;have HM':=Lib.hid (HM.out.new w3.heap.size c0 c1 c2 c3 27 rfl);have KK':=Lib.hid (KK.out.same ((Below.refl _ _).alloc (Nat.le_refl _) (.cells #[.int .u64 c0,.int .u64 c1,.int .u64 c2,.int .u64 c3] 27)));clear HM KK;have HM:=HM';have KK:=KK';clear HM' KK';clear HE hG
 go_upto_region 7 with fail
 go_cut [10,11] (fun s10 s11 wx=>∃gb s0 s1 s2 s3:Nat,s10=.pointer (some ⟨gb,0,none⟩)∧s11=.bool false∧cF s0 s1 s2 s3∧True∧Hid (Mem w wx [(gb,s0,s1,s2,s3),(w.heap.size+1,0,0,0,0)])∧Hid (KIs wx w1.heap.size F))
 case first =>
  obtain⟨gr,hroot⟩:=hf.root;have HRo:=Lib.hid hroot;clear hroot;refine cG (fun wx=>Mem w wx [(w3.heap.size,c0,c1,c2,c3),(w.heap.size+1,0,0,0,0),(w.heap.size,a0,a1,a2,a3)]∧KIs wx w1.heap.size F) 11 (by kernel_rfl) ?_;have HM':=Lib.hid (HM.out.drewN 1);have KK':=Lib.hid (KK.out.drewN 1);clear HM KK;have HM:=HM';have KK:=KK';clear HM' KK';have HS:=And.intro (HM.out.sub (rs':=[(w3.heap.size,c0,c1,c2,c3),(w.heap.size+1,0,0,0,0),(w.heap.size,a0,a1,a2,a3)]) (by simp)) KK.out;refine aD (i:=0) (v:=.agg #[.int .u64 a0,.int .u64 a1,.int .u64 a2,.int .u64 a3]) rfl (by kernel_rfl) (by kernel_rfl) (by kernel_rfl) (by kernel_rfl) (fun _ _ _ h=>h) HS (Or.inl ⟨by kernel_rfl,fun wx hx => ?_⟩) ?_
  ·have kr:=hx.1.row (b:=w.heap.size) (c0:=a0) (c1:=a1) (c2:=a2) (c3:=a3) (by simp);have x0:=kr.c0; have x1:=kr.c1; have x2:=kr.c2; have x3:=kr.c3;clear kr HS hx;go_simp
  simp only[Act.put,List.setIfInBounds_toArray,List.set_cons_zero,List.set_cons_succ];refine aD (i:=2) (v:=.int .i64 (T:Nat)) rfl (by kernel_rfl) (by kernel_rfl) (by kernel_rfl) (by kernel_rfl) (fun _ _ _ h=>h) HS (Or.inl ⟨by kernel_rfl,fun wx hx => ?_⟩) ?_
  ·clear HS hx;go_simp
  simp only[Act.put,List.setIfInBounds_toArray,List.set_cons_zero,List.set_cons_succ];refine aD (i:=3) (v:=.agg #[.int .u64 c0,.int .u64 c1,.int .u64 c2,.int .u64 c3]) rfl (by kernel_rfl) (by kernel_rfl) (by kernel_rfl) (by kernel_rfl) (fun _ _ _ h=>h) HS (Or.inl ⟨by kernel_rfl,fun wx hx => ?_⟩) ?_
  ·have kr:=hx.1.row (b:=w3.heap.size) (c0:=c0) (c1:=c1) (c2:=c2) (c3:=c3) (by simp);have x0:=kr.c0; have x1:=kr.c1; have x2:=kr.c2; have x3:=kr.c3;clear kr HS hx;go_simp
  simp only[Act.put,List.setIfInBounds_toArray,List.set_cons_zero,List.set_cons_succ];clear HS;refine fD (i:=1) (j:=9) (by kernel_rfl) rfl rfl (fun K hK => ?_) (fun K hK => ?_)
  ·go_simp;refine (cU F hf.ok w1.heap.size a0 a1 a2 a3 ha _ KK.out).mono ?_
   rintro e v1 ⟨i0,i1,i2,i3,rfl,hi,hv,hbl⟩
   have HVi:=Lib.hid hv;clear hv;have HM':=Lib.hid (HM.out.on hbl);have KK':=Lib.hid (KK.out.same hbl);clear HM KK hbl;have HM:=HM';have KK:=KK';clear HM' KK';have HS:=And.intro (HM.out.sub (rs':=[(w3.heap.size,c0,c1,c2,c3),(w.heap.size+1,0,0,0,0),(w.heap.size,a0,a1,a2,a3)]) (by simp)) KK.out;refine hK.out _ _ (Or.inr HS) (fun _ => ?_);clear hK K HS;refine fD (i:=4) (j:=9) (by kernel_rfl) rfl rfl (fun K hK => ?_) (fun K hK => ?_)
   ·go_simp;refine (cU F hf.ok w1.heap.size c0 c1 c2 c3 hc _ KK.out).mono ?_
    rintro e v2 ⟨j0,j1,j2,j3,rfl,hj,hv,hbl⟩
    have HVj:=Lib.hid hv;clear hv;have HM':=Lib.hid (HM.out.on hbl);have KK':=Lib.hid (KK.out.same hbl);clear HM KK hbl;have HM:=HM';have KK:=KK';clear HM' KK';have HS:=And.intro (HM.out.sub (rs':=[(w3.heap.size,c0,c1,c2,c3),(w.heap.size+1,0,0,0,0),(w.heap.size,a0,a1,a2,a3)]) (by simp)) KK.out;refine hK.out _ _ (Or.inr HS) (fun _ => ?_);clear hK K HS;refine fD (i:=5) (j:=9) (by kernel_rfl) rfl rfl (fun K hK => ?_) (fun K hK => ?_)
    ·go_simp;refine (vM F hf.ok gr HRo.out (aC a0 a1 a2 a3) H T (aC c0 c1 c2 c3) w1.heap.size i0 i1 i2 i3 j0 j1 j2 j3 hi hj HVi.out HVj.out hT1 hT2 HMT.out HS2.out _ KK.out).mono ?_
     rintro e v3 ⟨rfl,hbl⟩
     have HM':=Lib.hid (HM.out.on hbl);have KK':=Lib.hid (KK.out.same hbl);clear HM KK hbl;have HM:=HM';have KK:=KK';clear HM' KK';have HS:=And.intro (HM.out.sub (rs':=[(w3.heap.size,c0,c1,c2,c3),(w.heap.size+1,0,0,0,0),(w.heap.size,a0,a1,a2,a3)]) (by simp)) KK.out;refine hK.out _ _ (Or.inr HS) (fun _ => ?_);clear hK K HS;have HS:=And.intro (HM.out.sub (rs':=[(w3.heap.size,c0,c1,c2,c3),(w.heap.size+1,0,0,0,0),(w.heap.size,a0,a1,a2,a3)]) (by simp)) KK.out;refine aD (i:=6) (v:=.tuple #[.agg #[.int .u64 0,.int .u64 0,.int .u64 0,.int .u64 0],.bool false]) rfl (by kernel_rfl) (by kernel_rfl) (by kernel_rfl) (by kernel_rfl) (fun _ _ _ h=>h) HS (Or.inl ⟨by kernel_rfl,fun wx hx => ?_⟩) ?_
     ·clear HS hx;go_simp
     simp only[Act.put,List.setIfInBounds_toArray,List.set_cons_zero,List.set_cons_succ];refine aD (i:=7) (v:=.agg #[.int .u64 0,.int .u64 0,.int .u64 0,.int .u64 0]) rfl (by kernel_rfl) (by kernel_rfl) (by kernel_rfl) (by kernel_rfl) (fun _ _ _ h=>h) HS (Or.inl ⟨by kernel_rfl,fun wx hx => ?_⟩) ?_
     ·clear HS hx;go_simp
     simp only[Act.put,List.setIfInBounds_toArray,List.set_cons_zero,List.set_cons_succ];refine aD (i:=8) (v:=.bool false) rfl (by kernel_rfl) (by kernel_rfl) (by kernel_rfl) (by kernel_rfl) (fun _ _ _ h=>h) HS (Or.inl ⟨by kernel_rfl,fun wx hx => ?_⟩) ?_
     ·clear HS hx;go_simp
     simp only[Act.put,List.setIfInBounds_toArray,List.set_cons_zero,List.set_cons_succ];clear HS;refine aF (i:=9) (by kernel_rfl) rfl (fun K hK => ?_);go_simp;have HM9:=HM;have KK9:=KK;have HM':=Lib.hid (HM.out.new (v3.heap.size) 0 0 0 0 155 (by first|rfl|(simp; done)));have KK':=Lib.hid (KK.out.same ((Below.refl _ _).alloc (Nat.le_refl _) (.cells #[.int .u64 (0:Nat),.int .u64 (0:Nat),.int .u64 (0:Nat),.int .u64 (0:Nat)] 155)));have hgk:w1.heap.size<(v3.heap.size):=by first|omega|exact KK.out.lt|(have:=KK.out.lt; simpa using this)
     have hgc:w3.heap.size<(v3.heap.size):=by first|omega|exact HM.out.lt (b:=w3.heap.size) (c0:=c0) (c1:=c1) (c2:=c2) (c3:=c3) (by simp)
     have hga:w.heap.size+1<(v3.heap.size):=by omega
     clear HM KK;have HM:=HM';have KK:=KK';clear HM' KK';have HS:=And.intro (HM.out.sub (rs':=[(w3.heap.size,c0,c1,c2,c3),(w.heap.size+1,0,0,0,0),(w.heap.size,a0,a1,a2,a3)]) (by simp)) KK.out;refine hK.out _ _ (Or.inr HS) (fun _ => ?_);clear hK K HS;have kr:=HM.out.row (b:=(v3.heap.size)) (c0:=0) (c1:=0) (c2:=0) (c3:=0) (by simp);have yl:=HM.out.lt (b:=(v3.heap.size)) (c0:=0) (c1:=0) (c2:=0) (c3:=0) (by simp);have y0:=kr.c0; have y1:=kr.c1; have y2:=kr.c2; have y3:=kr.c3; have yf:=kr.fr;clear kr;refine aF (i:=10) (by kernel_rfl) rfl (fun K hK => ?_);go_simp;have HM':=Lib.hid (HM9.out.new (v3.heap.size) 0 0 0 0 155 (by first|rfl|(simp; done)));have KK':=Lib.hid (KK9.out.same ((Below.refl _ _).alloc (Nat.le_refl _) (.cells #[.int .u64 0,.int .u64 0,.int .u64 0,.int .u64 0] 155)));clear HM KK;have HM:=HM';have KK:=KK';clear HM' KK';have HS:=And.intro (HM.out.sub (rs':=[(w3.heap.size,c0,c1,c2,c3),(w.heap.size+1,0,0,0,0),(w.heap.size,a0,a1,a2,a3)]) (by simp)) KK.out;refine hK.out _ _ (Or.inr HS) (fun _ => ?_);clear hK K HS;refine aF (i:=11) (by kernel_rfl) rfl (fun K hK => ?_);go_simp;refine hK.out _ _ (Or.inl rfl) (fun _ => ?_);clear hK K;refine bR (by kernel_rfl) ?_;go_wp2_with fail
     go_meet
     exact⟨(v3.heap.size),0,0,0,0,rfl,rfl,KQ,trivial,Lib.hid (HM.out.sub (by simp)),KK⟩
    ·go_simp;have HM9:=HM;have KK9:=KK;have HM':=Lib.hid (HM.out.new (v2.heap.size) 0 0 0 0 155 (by first|rfl|(simp; done)));have KK':=Lib.hid (KK.out.same ((Below.refl _ _).alloc (Nat.le_refl _) (.cells #[.int .u64 (0:Nat),.int .u64 (0:Nat),.int .u64 (0:Nat),.int .u64 (0:Nat)] 155)));have hgk:w1.heap.size<(v2.heap.size):=by first|omega|exact KK.out.lt|(have:=KK.out.lt; simpa using this)
     have hgc:w3.heap.size<(v2.heap.size):=by first|omega|exact HM.out.lt (b:=w3.heap.size) (c0:=c0) (c1:=c1) (c2:=c2) (c3:=c3) (by simp)
     have hga:w.heap.size+1<(v2.heap.size):=by omega
     clear HM KK;have HM:=HM';have KK:=KK';clear HM' KK';have HS:=And.intro (HM.out.sub (rs':=[(w3.heap.size,c0,c1,c2,c3),(w.heap.size+1,0,0,0,0),(w.heap.size,a0,a1,a2,a3)]) (by simp)) KK.out;refine hK.out _ _ (Or.inr HS) (fun _ => ?_);clear hK K HS;refine aF (i:=5) (by kernel_rfl) rfl (fun K hK => ?_);go_simp;refine (vM F hf.ok gr HRo.out (aC a0 a1 a2 a3) H T (aC c0 c1 c2 c3) w1.heap.size i0 i1 i2 i3 j0 j1 j2 j3 hi hj HVi.out HVj.out hT1 hT2 HMT.out HS2.out _ KK.out).mono ?_
     rintro e v3 ⟨rfl,hbl⟩
     have HM':=Lib.hid (HM.out.on hbl);have KK':=Lib.hid (KK.out.same hbl);clear HM KK hbl;have HM:=HM';have KK:=KK';clear HM' KK';have HS:=And.intro (HM.out.sub (rs':=[(w3.heap.size,c0,c1,c2,c3),(w.heap.size+1,0,0,0,0),(w.heap.size,a0,a1,a2,a3)]) (by simp)) KK.out;refine hK.out _ _ (Or.inr HS) (fun _ => ?_);clear hK K HS;have HS:=And.intro (HM.out.sub (rs':=[(w3.heap.size,c0,c1,c2,c3),(w.heap.size+1,0,0,0,0),(w.heap.size,a0,a1,a2,a3)]) (by simp)) KK.out;refine aD (i:=6) (v:=.tuple #[.agg #[.int .u64 0,.int .u64 0,.int .u64 0,.int .u64 0],.bool false]) rfl (by kernel_rfl) (by kernel_rfl) (by kernel_rfl) (by kernel_rfl) (fun _ _ _ h=>h) HS (Or.inl ⟨by kernel_rfl,fun wx hx => ?_⟩) ?_
     ·clear HS hx;go_simp
     simp only[Act.put,List.setIfInBounds_toArray,List.set_cons_zero,List.set_cons_succ];refine aD (i:=7) (v:=.agg #[.int .u64 0,.int .u64 0,.int .u64 0,.int .u64 0]) rfl (by kernel_rfl) (by kernel_rfl) (by kernel_rfl) (by kernel_rfl) (fun _ _ _ h=>h) HS (Or.inl ⟨by kernel_rfl,fun wx hx => ?_⟩) ?_
     ·clear HS hx;go_simp
     simp only[Act.put,List.setIfInBounds_toArray,List.set_cons_zero,List.set_cons_succ];refine aD (i:=8) (v:=.bool false) rfl (by kernel_rfl) (by kernel_rfl) (by kernel_rfl) (by kernel_rfl) (fun _ _ _ h=>h) HS (Or.inl ⟨by kernel_rfl,fun wx hx => ?_⟩) ?_
     ·clear HS hx;go_simp
     simp only[Act.put,List.setIfInBounds_toArray,List.set_cons_zero,List.set_cons_succ];clear HS;have kr:=HM.out.row (b:=(v2.heap.size)) (c0:=0) (c1:=0) (c2:=0) (c3:=0) (by simp);have yl:=HM.out.lt (b:=(v2.heap.size)) (c0:=0) (c1:=0) (c2:=0) (c3:=0) (by simp);have y0:=kr.c0; have y1:=kr.c1; have y2:=kr.c2; have y3:=kr.c3; have yf:=kr.fr;clear kr;refine aF (i:=10) (by kernel_rfl) rfl (fun K hK => ?_);go_simp;have HM':=Lib.hid (HM.out.put 0 0 0 0 (by omega) (by intro r hr; simp at hr; rcases hr with rfl|rfl|rfl<;>simp<;>omega));have KK':=Lib.hid (KK.out.set4 (d:=(v2.heap.size)) (by omega) 0 0 0 0);clear HM KK;have HM:=HM';have KK:=KK';clear HM' KK';have HS:=And.intro (HM.out.sub (rs':=[(w3.heap.size,c0,c1,c2,c3),(w.heap.size+1,0,0,0,0),(w.heap.size,a0,a1,a2,a3)]) (by simp)) KK.out;refine hK.out _ _ (Or.inr HS) (fun _ => ?_);clear hK K HS;refine aF (i:=11) (by kernel_rfl) rfl (fun K hK => ?_);go_simp;refine hK.out _ _ (Or.inl rfl) (fun _ => ?_);clear hK K;refine bR (by kernel_rfl) ?_;go_wp2_with fail
     go_meet
     exact⟨(v2.heap.size),0,0,0,0,rfl,rfl,KQ,trivial,Lib.hid (HM.out.sub (by simp)),KK⟩
   ·go_simp;have HM9:=HM;have KK9:=KK;have HM':=Lib.hid (HM.out.new (v1.heap.size) 0 0 0 0 155 (by first|rfl|(simp; done)));have KK':=Lib.hid (KK.out.same ((Below.refl _ _).alloc (Nat.le_refl _) (.cells #[.int .u64 (0:Nat),.int .u64 (0:Nat),.int .u64 (0:Nat),.int .u64 (0:Nat)] 155)));have hgk:w1.heap.size<(v1.heap.size):=by first|omega|exact KK.out.lt|(have:=KK.out.lt; simpa using this)
    have hgc:w3.heap.size<(v1.heap.size):=by first|omega|exact HM.out.lt (b:=w3.heap.size) (c0:=c0) (c1:=c1) (c2:=c2) (c3:=c3) (by simp)
    have hga:w.heap.size+1<(v1.heap.size):=by omega
    clear HM KK;have HM:=HM';have KK:=KK';clear HM' KK';have HS:=And.intro (HM.out.sub (rs':=[(w3.heap.size,c0,c1,c2,c3),(w.heap.size+1,0,0,0,0),(w.heap.size,a0,a1,a2,a3)]) (by simp)) KK.out;refine hK.out _ _ (Or.inr HS) (fun _ => ?_);clear hK K HS;refine aF (i:=4) (by kernel_rfl) rfl (fun K hK => ?_);go_simp;refine (cU F hf.ok w1.heap.size c0 c1 c2 c3 hc _ KK.out).mono ?_
    rintro e v2 ⟨j0,j1,j2,j3,rfl,hj,hv,hbl⟩
    have HVj:=Lib.hid hv;clear hv;have HM':=Lib.hid (HM.out.on hbl);have KK':=Lib.hid (KK.out.same hbl);clear HM KK hbl;have HM:=HM';have KK:=KK';clear HM' KK';have HS:=And.intro (HM.out.sub (rs':=[(w3.heap.size,c0,c1,c2,c3),(w.heap.size+1,0,0,0,0),(w.heap.size,a0,a1,a2,a3)]) (by simp)) KK.out;refine hK.out _ _ (Or.inr HS) (fun _ => ?_);clear hK K HS;refine aF (i:=5) (by kernel_rfl) rfl (fun K hK => ?_);go_simp;refine (vM F hf.ok gr HRo.out (aC a0 a1 a2 a3) H T (aC c0 c1 c2 c3) w1.heap.size i0 i1 i2 i3 j0 j1 j2 j3 hi hj HVi.out HVj.out hT1 hT2 HMT.out HS2.out _ KK.out).mono ?_
    rintro e v3 ⟨rfl,hbl⟩
    have HM':=Lib.hid (HM.out.on hbl);have KK':=Lib.hid (KK.out.same hbl);clear HM KK hbl;have HM:=HM';have KK:=KK';clear HM' KK';have HS:=And.intro (HM.out.sub (rs':=[(w3.heap.size,c0,c1,c2,c3),(w.heap.size+1,0,0,0,0),(w.heap.size,a0,a1,a2,a3)]) (by simp)) KK.out;refine hK.out _ _ (Or.inr HS) (fun _ => ?_);clear hK K HS;have HS:=And.intro (HM.out.sub (rs':=[(w3.heap.size,c0,c1,c2,c3),(w.heap.size+1,0,0,0,0),(w.heap.size,a0,a1,a2,a3)]) (by simp)) KK.out;refine aD (i:=6) (v:=.tuple #[.agg #[.int .u64 0,.int .u64 0,.int .u64 0,.int .u64 0],.bool false]) rfl (by kernel_rfl) (by kernel_rfl) (by kernel_rfl) (by kernel_rfl) (fun _ _ _ h=>h) HS (Or.inl ⟨by kernel_rfl,fun wx hx => ?_⟩) ?_
    ·clear HS hx;go_simp
    simp only[Act.put,List.setIfInBounds_toArray,List.set_cons_zero,List.set_cons_succ];refine aD (i:=7) (v:=.agg #[.int .u64 0,.int .u64 0,.int .u64 0,.int .u64 0]) rfl (by kernel_rfl) (by kernel_rfl) (by kernel_rfl) (by kernel_rfl) (fun _ _ _ h=>h) HS (Or.inl ⟨by kernel_rfl,fun wx hx => ?_⟩) ?_
    ·clear HS hx;go_simp
    simp only[Act.put,List.setIfInBounds_toArray,List.set_cons_zero,List.set_cons_succ];refine aD (i:=8) (v:=.bool false) rfl (by kernel_rfl) (by kernel_rfl) (by kernel_rfl) (by kernel_rfl) (fun _ _ _ h=>h) HS (Or.inl ⟨by kernel_rfl,fun wx hx => ?_⟩) ?_
    ·clear HS hx;go_simp
    simp only[Act.put,List.setIfInBounds_toArray,List.set_cons_zero,List.set_cons_succ];clear HS;have kr:=HM.out.row (b:=(v1.heap.size)) (c0:=0) (c1:=0) (c2:=0) (c3:=0) (by simp);have yl:=HM.out.lt (b:=(v1.heap.size)) (c0:=0) (c1:=0) (c2:=0) (c3:=0) (by simp);have y0:=kr.c0; have y1:=kr.c1; have y2:=kr.c2; have y3:=kr.c3; have yf:=kr.fr;clear kr;refine aF (i:=10) (by kernel_rfl) rfl (fun K hK => ?_);go_simp;have HM':=Lib.hid (HM.out.put 0 0 0 0 (by omega) (by intro r hr; simp at hr; rcases hr with rfl|rfl|rfl<;>simp<;>omega));have KK':=Lib.hid (KK.out.set4 (d:=(v1.heap.size)) (by omega) 0 0 0 0);clear HM KK;have HM:=HM';have KK:=KK';clear HM' KK';have HS:=And.intro (HM.out.sub (rs':=[(w3.heap.size,c0,c1,c2,c3),(w.heap.size+1,0,0,0,0),(w.heap.size,a0,a1,a2,a3)]) (by simp)) KK.out;refine hK.out _ _ (Or.inr HS) (fun _ => ?_);clear hK K HS;refine aF (i:=11) (by kernel_rfl) rfl (fun K hK => ?_);go_simp;refine hK.out _ _ (Or.inl rfl) (fun _ => ?_);clear hK K;refine bR (by kernel_rfl) ?_;go_wp2_with fail
    go_meet
    exact⟨(v1.heap.size),0,0,0,0,rfl,rfl,KQ,trivial,Lib.hid (HM.out.sub (by simp)),KK⟩
  ·go_simp;have HM9:=HM;have KK9:=KK;have HM':=Lib.hid (HM.out.new (w3.heap.size+1) 0 0 0 0 155 (by first|rfl|(simp; done)));have KK':=Lib.hid (KK.out.same ((Below.refl _ _).alloc (Nat.le_refl _) (.cells #[.int .u64 (0:Nat),.int .u64 (0:Nat),.int .u64 (0:Nat),.int .u64 (0:Nat)] 155)));have hgk:w1.heap.size<(w3.heap.size+1):=by first|omega|exact KK.out.lt|(have:=KK.out.lt; simpa using this)
   have hgc:w3.heap.size<(w3.heap.size+1):=by first|omega|exact HM.out.lt (b:=w3.heap.size) (c0:=c0) (c1:=c1) (c2:=c2) (c3:=c3) (by simp)
   have hga:w.heap.size+1<(w3.heap.size+1):=by omega
   clear HM KK;have HM:=HM';have KK:=KK';clear HM' KK';have HS:=And.intro (HM.out.sub (rs':=[(w3.heap.size,c0,c1,c2,c3),(w.heap.size+1,0,0,0,0),(w.heap.size,a0,a1,a2,a3)]) (by simp)) KK.out;refine hK.out _ _ (Or.inr HS) (fun _ => ?_);clear hK K HS;refine aF (i:=1) (by kernel_rfl) rfl (fun K hK => ?_);go_simp;refine (cU F hf.ok w1.heap.size a0 a1 a2 a3 ha _ KK.out).mono ?_
   rintro e v1 ⟨i0,i1,i2,i3,rfl,hi,hv,hbl⟩
   have HVi:=Lib.hid hv;clear hv;have HM':=Lib.hid (HM.out.on hbl);have KK':=Lib.hid (KK.out.same hbl);clear HM KK hbl;have HM:=HM';have KK:=KK';clear HM' KK';have HS:=And.intro (HM.out.sub (rs':=[(w3.heap.size,c0,c1,c2,c3),(w.heap.size+1,0,0,0,0),(w.heap.size,a0,a1,a2,a3)]) (by simp)) KK.out;refine hK.out _ _ (Or.inr HS) (fun _ => ?_);clear hK K HS;refine aF (i:=4) (by kernel_rfl) rfl (fun K hK => ?_);go_simp;refine (cU F hf.ok w1.heap.size c0 c1 c2 c3 hc _ KK.out).mono ?_
   rintro e v2 ⟨j0,j1,j2,j3,rfl,hj,hv,hbl⟩
   have HVj:=Lib.hid hv;clear hv;have HM':=Lib.hid (HM.out.on hbl);have KK':=Lib.hid (KK.out.same hbl);clear HM KK hbl;have HM:=HM';have KK:=KK';clear HM' KK';have HS:=And.intro (HM.out.sub (rs':=[(w3.heap.size,c0,c1,c2,c3),(w.heap.size+1,0,0,0,0),(w.heap.size,a0,a1,a2,a3)]) (by simp)) KK.out;refine hK.out _ _ (Or.inr HS) (fun _ => ?_);clear hK K HS;refine aF (i:=5) (by kernel_rfl) rfl (fun K hK => ?_);go_simp;refine (vM F hf.ok gr HRo.out (aC a0 a1 a2 a3) H T (aC c0 c1 c2 c3) w1.heap.size i0 i1 i2 i3 j0 j1 j2 j3 hi hj HVi.out HVj.out hT1 hT2 HMT.out HS2.out _ KK.out).mono ?_
   rintro e v3 ⟨rfl,hbl⟩
   have HM':=Lib.hid (HM.out.on hbl);have KK':=Lib.hid (KK.out.same hbl);clear HM KK hbl;have HM:=HM';have KK:=KK';clear HM' KK';have HS:=And.intro (HM.out.sub (rs':=[(w3.heap.size,c0,c1,c2,c3),(w.heap.size+1,0,0,0,0),(w.heap.size,a0,a1,a2,a3)]) (by simp)) KK.out;refine hK.out _ _ (Or.inr HS) (fun _ => ?_);clear hK K HS;have HS:=And.intro (HM.out.sub (rs':=[(w3.heap.size,c0,c1,c2,c3),(w.heap.size+1,0,0,0,0),(w.heap.size,a0,a1,a2,a3)]) (by simp)) KK.out;refine aD (i:=6) (v:=.tuple #[.agg #[.int .u64 0,.int .u64 0,.int .u64 0,.int .u64 0],.bool false]) rfl (by kernel_rfl) (by kernel_rfl) (by kernel_rfl) (by kernel_rfl) (fun _ _ _ h=>h) HS (Or.inl ⟨by kernel_rfl,fun wx hx => ?_⟩) ?_
   ·clear HS hx;go_simp
   simp only[Act.put,List.setIfInBounds_toArray,List.set_cons_zero,List.set_cons_succ];refine aD (i:=7) (v:=.agg #[.int .u64 0,.int .u64 0,.int .u64 0,.int .u64 0]) rfl (by kernel_rfl) (by kernel_rfl) (by kernel_rfl) (by kernel_rfl) (fun _ _ _ h=>h) HS (Or.inl ⟨by kernel_rfl,fun wx hx => ?_⟩) ?_
   ·clear HS hx;go_simp
   simp only[Act.put,List.setIfInBounds_toArray,List.set_cons_zero,List.set_cons_succ];refine aD (i:=8) (v:=.bool false) rfl (by kernel_rfl) (by kernel_rfl) (by kernel_rfl) (by kernel_rfl) (fun _ _ _ h=>h) HS (Or.inl ⟨by kernel_rfl,fun wx hx => ?_⟩) ?_
   ·clear HS hx;go_simp
   simp only[Act.put,List.setIfInBounds_toArray,List.set_cons_zero,List.set_cons_succ];clear HS;have kr:=HM.out.row (b:=(w3.heap.size+1)) (c0:=0) (c1:=0) (c2:=0) (c3:=0) (by simp);have yl:=HM.out.lt (b:=(w3.heap.size+1)) (c0:=0) (c1:=0) (c2:=0) (c3:=0) (by simp);have y0:=kr.c0; have y1:=kr.c1; have y2:=kr.c2; have y3:=kr.c3; have yf:=kr.fr;clear kr;refine aF (i:=10) (by kernel_rfl) rfl (fun K hK => ?_);go_simp;have HM':=Lib.hid (HM.out.put 0 0 0 0 (by omega) (by intro r hr; simp at hr; rcases hr with rfl|rfl|rfl<;>simp<;>omega));have KK':=Lib.hid (KK.out.set4 (d:=(w3.heap.size+1)) (by omega) 0 0 0 0);clear HM KK;have HM:=HM';have KK:=KK';clear HM' KK';have HS:=And.intro (HM.out.sub (rs':=[(w3.heap.size,c0,c1,c2,c3),(w.heap.size+1,0,0,0,0),(w.heap.size,a0,a1,a2,a3)]) (by simp)) KK.out;refine hK.out _ _ (Or.inr HS) (fun _ => ?_);clear hK K HS;refine aF (i:=11) (by kernel_rfl) rfl (fun K hK => ?_);go_simp;refine hK.out _ _ (Or.inl rfl) (fun _ => ?_);clear hK K;refine bR (by kernel_rfl) ?_;go_wp2_with fail
   go_meet
   exact⟨(w3.heap.size+1),0,0,0,0,rfl,rfl,KQ,trivial,Lib.hid (HM.out.sub (by simp)),KK⟩
 case rest =>
  obtain⟨gb,s0,s1,s2,s3,rfl,rfl,hs,_,HM',KK'⟩:=hcut;clear HM KK;have HM:=HM';have KK:=KK';clear HM' KK';have kr:=HM.out.row (b:=w.heap.size+1) (c0:=0) (c1:=0) (c2:=0) (c3:=0) (by simp);have y0:=kr.c0; have y1:=kr.c1; have y2:=kr.c2; have y3:=kr.c3; have yf:=kr.fr;clear kr;have yl:=HM.out.lt (b:=w.heap.size+1) (c0:=0) (c1:=0) (c2:=0) (c3:=0) (by simp);go_wp2_with fail;refine bodyPost_ret (v:=.tuple #[.agg #[.int .u64 0,.int .u64 0,.int .u64 0,.int .u64 0],.int .i64 23]) (by simp[results,results103,go_sem, *]) rfl ?_;refine⟨_,_,_,_,rfl,KQ,rfl,?_⟩;exact aZ HM.out.1 (by omega) 0 0 0 0
section
variable {M g:Nat}
end
theorem Ow {s0 s1 s2 s3 t0 t1 t2 t3:Nat} (hs:cF s0 s1 s2 s3) (ht:cF t0 t1 t2 t3) (h:aC s0 s1 s2 s3=aC t0 t1 t2 t3) (w:World):(Op.equalIn 10000 27 (.agg #[.int .u64 s0,.int .u64 s1,.int .u64 s2,.int .u64 s3]) (.agg #[.int .u64 t0,.int .u64 t1,.int .u64 t2,.int .u64 t3])).run prog w=.ok true w:=by
 have h':=mC 9998 s0 s1 s2 s3 t0 t1 t2 t3 w;rw[(jU hs ht).2 h]at h';exact h'
theorem aAe {s0 s1 s2 s3 t0 t1 t2 t3:Nat} (hs:cF s0 s1 s2 s3) (ht:cF t0 t1 t2 t3) (h:aC s0 s1 s2 s3≠aC t0 t1 t2 t3) (w:World):(Op.equalIn 10000 27 (.agg #[.int .u64 s0,.int .u64 s1,.int .u64 s2,.int .u64 s3]) (.agg #[.int .u64 t0,.int .u64 t1,.int .u64 t2,.int .u64 t3])).run prog w=.ok false w:=by
 have h':=mC 9998 s0 s1 s2 s3 t0 t1 t2 t3 w;rw[uH (fun q=>h ((jU hs ht).1 q))]at h';exact h'
theorem JM {s0 s1 s2 s3:Nat} (hs:cF s0 s1 s2 s3) (h:aC s0 s1 s2 s3=0) (w:World):(Op.equalIn 10000 27 (.agg #[.int .u64 s0,.int .u64 s1,.int .u64 s2,.int .u64 s3]) (.agg #[.int .u64 0,.int .u64 0,.int .u64 0,.int .u64 0])).run prog w=.ok true w:=Ow hs KQ (h.trans rfl) w
theorem Ea {s0 s1 s2 s3:Nat} (hs:cF s0 s1 s2 s3) (h:aC s0 s1 s2 s3≠0) (w:World):(Op.equalIn 10000 27 (.agg #[.int .u64 s0,.int .u64 s1,.int .u64 s2,.int .u64 s3]) (.agg #[.int .u64 0,.int .u64 0,.int .u64 0,.int .u64 0])).run prog w=.ok false w:=aAe hs KQ (fun q=>h (q.trans rfl)) w
open Go.ChangeShapes Go.WideShapes Go.ChangeAt Go.RowKit
def mE (A:Nat→Nat→Nat) (j:Nat):Nat:=aC (A j 0) (A j 1) (A j 2) (A j 3)
def JN (P:Nat→Nat) (j:Nat):Nat:=aC (P (j*4)) (P (j*4+1)) (P (j*4+2)) (P (j*4+3))
def IG (P:Nat→Nat) (j:Nat):Prop:=cF (P (j*4)) (P (j*4+1)) (P (j*4+2)) (P (j*4+3))
def putP (P:Nat→Nat) (k q0 q1 q2 q3:Nat):Nat→Nat:=jW (jW (jW (jW P (k*4) q0) (k*4+1) q1) (k*4+2) q2) (k*4+3) q3
theorem oT (P:Nat→Nat) (k q0 q1 q2 q3:Nat):JN (putP P k q0 q1 q2 q3) k=aC q0 q1 q2 q3∧(cF q0 q1 q2 q3→IG (putP P k q0 q1 q2 q3) k):=by
 have e0:putP P k q0 q1 q2 q3 (k*4)=q0:=by unfold putP jW; rw[if_neg (by omega),if_neg (by omega),if_neg (by omega),if_pos rfl]
 have e1:putP P k q0 q1 q2 q3 (k*4+1)=q1:=by unfold putP jW; rw[if_neg (by omega),if_neg (by omega),if_pos rfl]
 have e2:putP P k q0 q1 q2 q3 (k*4+2)=q2:=by unfold putP jW; rw[if_neg (by omega),if_pos rfl]
 have e3:putP P k q0 q1 q2 q3 (k*4+3)=q3:=by unfold putP jW; rw[if_pos rfl]
 unfold JN IG;rw[e0,e1,e2,e3];exact⟨rfl,id⟩
theorem iQ (P:Nat→Nat) (k q0 q1 q2 q3 j:Nat) (h:j≠k):JN (putP P k q0 q1 q2 q3) j=JN P j∧(IG P j→IG (putP P k q0 q1 q2 q3) j):=by
 have e:∀i,i<4→putP P k q0 q1 q2 q3 (j*4+i)=P (j*4+i):=fun i hi=>by
  unfold putP jW; rw[if_neg (by omega),if_neg (by omega),if_neg (by omega),if_neg (by omega)]
 have e0:putP P k q0 q1 q2 q3 (j*4)=P (j*4):=e 0 (by omega);unfold JN IG;rw[e0,e 1 (by omega),e 2 (by omega),e 3 (by omega)];exact⟨rfl,id⟩
theorem RowIs.putP {w:World} {b n:Nat} {P:Nat→Nat} (h:RowIs w b (n*4) P) {k:Nat} (hk:k<n) (q0 q1 q2 q3:Nat) :
  RowIs ((((w.setCell ⟨b,k*4,none⟩ (.int .u64 (q0:Nat))).setCell ⟨b,k*4+1,none⟩ (.int .u64 (q1:Nat))).setCell ⟨b,k*4+2,none⟩ (.int .u64 (q2:Nat))).setCell ⟨b,k*4+3,none⟩ (.int .u64 (q3:Nat))) b (n*4) (putP P k q0 q1 q2 q3) :=
 (((h.set (i:=k*4) (by omega) (v:=q0)).set (i:=k*4+1) (by omega) (v:=q1)).set (i:=k*4+2) (by omega) (v:=q2)).set (i:=k*4+3) (by omega) (v:=q3)
theorem Mem.poke {w wr:World} {rs:List (Nat×Nat×Nat×Nat×Nat)} (h:Mem w wr rs) {c i:Nat} (hw:w.heap.size≤c) (hne:∀r,r∈rs→r.1≠c) (v:Value):Mem w (wr.setCell ⟨c,i,none⟩ v) rs :=
 ⟨h.1.setCell (p:=⟨c,i,none⟩) hw v,fun r hr=>⟨by rw[World.size_setCell]; exact (h.2 r hr).1,(h.2 r hr).2.other (fun e=>hne r hr e.symm) v⟩⟩
theorem PM {F:FC} {E:Nat→Nat} {P:Nat→Nat} {k q0 q1 q2 q3:Nat} (hq:cF q0 q1 q2 q3) (hv:aC q0 q1 q2 q3=kp F (rD F.M E k)) (h:∀j,j<k→IG P j∧JN P j=kp F (rD F.M E j)) :
  ∀j,j<k+1→IG (putP P k q0 q1 q2 q3) j∧JN (putP P k q0 q1 q2 q3) j=kp F (rD F.M E j):=fun j hj=>by
 by_cases e:j=k
 ·subst e;exact⟨(oT P j q0 q1 q2 q3).2 hq,by rw[(oT P j q0 q1 q2 q3).1,hv]⟩
 ·have:=h j (by omega);exact⟨(iQ P k q0 q1 q2 q3 j e).2 this.1,by rw[(iQ P k q0 q1 q2 q3 j e).1,this.2]⟩
theorem Cu {F:FC} (hF:F.Ok) {gr:Nat} (hr:Root F.M gr) {E:Nat→Nat} {j:Nat} (hE:∀k,k≤j→E k<F.M) (hz:E j≠0):kp F (rD F.M E (j+1)^(F.M-2)*E j%F.M)=kp F (rD F.M E j^(F.M-2)):=by
 have h2:2≤F.M:=by have:=hF.gt; omega
 have hp:=MP hr h2 (E:=E) (j:=j) (fun k h=>hE k (by omega));have e:rD F.M E (j+1)=rD F.M E j*E j%F.M:=by show (if E j=0 then _ else _)=_; rw[if_neg hz]
 rw[e,IY hr h2 hp.1 hp.2 (by omega) (hE j (Nat.le_refl _)),gK]
theorem Mt {F:FC} (hF:F.Ok) {gr:Nat} (hr:Root F.M gr) {E:Nat→Nat} {j:Nat} (hE:∀k,k≤j→E k<F.M) (hz:E j≠0):rD F.M E (j+1)^(F.M-2)*rD F.M E j%F.M=E j^(F.M-2)%F.M:=by
 have h2:2≤F.M:=by have:=hF.gt; omega
 have hp:=MP hr h2 (E:=E) (j:=j) (fun k h=>hE k (by omega));have e:rD F.M E (j+1)=E j*rD F.M E j%F.M:=by show (if E j=0 then _ else _)=_; rw[if_neg hz,Nat.mul_comm]
 rw[e,IY hr h2 (by omega) (hE j (Nat.le_refl _)) hp.1 hp.2]
theorem Ct {F:FC} (hF:F.Ok) {a:Nat} (hz:a=0):a^(F.M-2)%F.M=0:=by
 have:=hF.gt;subst hz;rw[Nat.zero_pow (by omega),Nat.zero_mod]
def Ha (F:FC) (len:Nat) (A:Nat→Nat→Nat) (w:World) (e:Ending) (w':World):Prop :=
 ∃(bo:Nat) (O:Nat→Nat),e=.returned (.slice (some ⟨bo,0,none⟩) len len)∧w.heap.size≤bo∧bo<w'.heap.size∧RowIs w' bo (len*4) O∧(∀j,j<len→IG O j∧JN O j=mE A j^(F.M-2)%F.M)∧Below w.heap.size w w'
set_option maxRecDepth 20000 in
set_option maxHeartbeats 4000000 in
theorem xQ (F:FC) (hF:F.Ok) (gr:Nat) (hroot:Root F.M gr) (b g off len cap:Nat) (A:Nat→Nat→Nat) (hA:LOk len A) (hlA:∀j,j<len→mE A j<F.M) (hm:len≤65536) (w:World) (hk:KIs w b F) (hg:0<len→g<w.heap.size) (hl:LAt w g off len A) :
  Calls prog 217 #[.pointer (some ⟨b,0,none⟩),.slice (some ⟨g,off,none⟩) len cap] w (Ha F len A w):=by
 obtain⟨o,hmk,ho⟩:=aDP len hm;obtain⟨o2,hmk2,ho2⟩:=aDQ len hm;have HO2:=Lib.hid ho2;clear ho2;have R0:=Lib.hid (ho w _ rfl);have KW:=Lib.hid hk;have HRt:=Lib.hid hroot;clear hroot;have HLA:=Lib.hid hlA;clear hlA;have HK:=Lib.hid (hk.same ((Below.refl _ _).alloc (Nat.le_refl _) o));have HL:=Lib.hid hl;have HG:=Lib.hid hg;clear hg;have HA:=Lib.hid hA;have HF:=Lib.hid hF;clear hk hl hA hF ho
 go_enter func217,ntmps217
 go_wp2_with fail;refine (tT F HF.out b _ HK.out).mono ?_
 rintro e w1 ⟨p0,p1,p2,p3,rfl,hp,hv,hbl⟩
 have R1:=Lib.hid (R0.out.below hbl (by simp));have K1:=Lib.hid (HK.out.same hbl);have B1:=Lib.hid ((Below.refl _ w).alloc (Nat.le_refl _) o |>.trans (hbl.mono (by simp)));have S1:w.heap.size<w1.heap.size:=by have:=hbl.size; simp at this; omega
 have HV:=Lib.hid hv;clear hv hbl R0 HK;go_wp2_with fail;have M0:=Lib.hid (((Mem.nil w).on B1.out).new w1.heap.size p0 p1 p2 p3 155 rfl);have RA:=Lib.hid (R1.out.alloc S1 (.cells #[.int .u64 p0,.int .u64 p1,.int .u64 p2,.int .u64 p3] 155))
 go_loopw [19] (fun t wr=>∃(k q0 q1 q2 q3:Nat) (P:Nat→Nat),k≤len∧t=.int .i64 k∧cF q0 q1 q2 q3∧Hid (aC q0 q1 q2 q3=kp F (rD F.M (mE A) k))∧Hid (RowIs wr w.heap.size (len*4) P)∧Hid (∀j,j<k→IG P j∧JN P j=kp F (rD F.M (mE A) j))∧Hid (Mem w wr [(w1.heap.size,q0,q1,q2,q3)])) (fun t _=>len-(intOf t).toNat)
 case atStart=>exact⟨0,p0,p1,p2,p3,_,Nat.zero_le _,rfl,hp,HV,RA,Lib.hid (fun j h=>absurd h (by omega)),M0⟩
 case round =>
  obtain⟨k,q0,q1,q2,q3,P,hk,rfl,hq,HQ,RP,HP,HM⟩:=hrel;clear RA M0 R1 K1 B1 HV
  by_cases hlt:k<len
  ·obtain⟨a0,a1,a2,a3,e0,e1,e2,e3⟩:∃a0 a1 a2 a3:Nat,a0=A k 0∧a1=A k 1∧a2=A k 2∧a3=A k 3:=⟨_,_,_,_,rfl,rfl,rfl,rfl⟩
   have hc:=(HL.out.same HG.out HM.out.1) k hlt;have hok:=HA.out k hlt;rw[←e0,←e1,←e2,←e3]at hc hok;have c0:=hc.1; have c1:=hc.2.1; have c2:=hc.2.2.1; have c3:=hc.2.2.2;have HE:=Lib.hid (show mE A k=aC a0 a1 a2 a3 by unfold mE; rw[←e0,←e1,←e2,←e3]);have HO:=Lib.hid hok;clear e0 e1 e2 e3 hok hc;have Rr:=HM.out.row (b:=w1.heap.size) (c0:=q0) (c1:=q1) (c2:=q2) (c3:=q3) (by simp);have x0:=Rr.c0; have x1:=Rr.c1; have x2:=Rr.c2; have x3:=Rr.c3;have ltr:=HM.out.lt (b:=w1.heap.size) (c0:=q0) (c1:=q1) (c2:=q2) (c3:=q3) (by simp);have lta:w.heap.size<wr.heap.size:=by omega
   have ltg:g<wr.heap.size:=by have:=HG.out (by omega); omega
   have i0:=RP.out.cell (i:=k*4) (by omega); have i1:=RP.out.cell (i:=k*4+1) (by omega); have i2:=RP.out.cell (i:=k*4+2) (by omega); have i3:=RP.out.cell (i:=k*4+3) (by omega);have f0:=RP.out.free (i:=k*4) (by omega); have f1:=RP.out.free (i:=k*4+1) (by omega); have f2:=RP.out.free (i:=k*4+2) (by omega); have f3:=RP.out.free (i:=k*4+3) (by omega);have ne1:¬w.heap.size=w1.heap.size:=by omega
   have ne1':¬w1.heap.size=w.heap.size:=by omega
   clear Rr;have HN:=Lib.hid (PM hq HQ.out HP.out);have RPs:=RP.out.putP hlt q0 q1 q2 q3;have szs:((((wr.setCell ⟨w.heap.size,k*4,none⟩ (.int .u64 (q0:Nat))).setCell ⟨w.heap.size,k*4+1,none⟩ (.int .u64 (q1:Nat))).setCell ⟨w.heap.size,k*4+2,none⟩ (.int .u64 (q2:Nat))).setCell ⟨w.heap.size,k*4+3,none⟩ (.int .u64 (q3:Nat))).heap.size=wr.heap.size:=by simp only[World.size_setCell]
   have hne:∀r,r∈[(w1.heap.size,q0,q1,q2,q3)]→r.1≠w.heap.size:=by intro r hr; simp at hr; subst hr; exact ne1'
   have HMs:=(((HM.out.poke (i:=k*4) (Nat.le_refl _) hne (.int .u64 (q0:Nat))).poke (i:=k*4+1) (Nat.le_refl _) hne (.int .u64 (q1:Nat))).poke (i:=k*4+2) (Nat.le_refl _) hne (.int .u64 (q2:Nat))).poke (i:=k*4+3) (Nat.le_refl _) hne (.int .u64 (q3:Nat));have RN:=Lib.hid (RPs.alloc (by rw[szs]; exact lta) (.cells #[.int .u64 a0,.int .u64 a1,.int .u64 a2,.int .u64 a3] 27));have HMN:=Lib.hid (HMs.new wr.heap.size a0 a1 a2 a3 27 szs.symm);clear RPs szs hne HMs
   by_cases hz:aC a0 a1 a2 a3=0
   ·have EQ:=JM HO.out hz;have HS:=Lib.hid (show aC q0 q1 q2 q3=kp F (rD F.M (mE A) (k+1)) by rw[HQ.out]; unfold rD; rw[if_pos (HE.out.trans hz)]; cases k<;>rfl);clear hz;go_wp2_with fail
    go_roundw
    case rel=>exact⟨k+1,q0,q1,q2,q3,_,by omega,by go_num,hq,HS,RN,HN,Lib.hid (HMN.out.sub (fun r hr=>List.mem_cons_of_mem _ hr))⟩
    case measure=>simp[intOf]; omega
   ·have EQ:=Ea HO.out hz;have HZ:=Lib.hid hz;clear hz;go_wp2_with fail;clear EQ c0 c1 c2 c3 x0 x1 x2 x3 i0 i1 i2 i3 f0 f1 f2 f3;obtain⟨W8,hW8⟩:∃W8,W8=(((((wr.setCell ⟨w.heap.size,k*4,none⟩ (.int .u64 (q0:Nat))).setCell ⟨w.heap.size,k*4+1,none⟩ (.int .u64 (q1:Nat))).setCell ⟨w.heap.size,k*4+2,none⟩ (.int .u64 (q2:Nat))).setCell ⟨w.heap.size,k*4+3,none⟩ (.int .u64 (q3:Nat))).alloc (.cells #[.int .u64 a0,.int .u64 a1,.int .u64 a2,.int .u64 a3] 27)):=⟨_,rfl⟩
    rw[←hW8]at RN HMN ⊢;have z8:wr.heap.size<W8.heap.size:=HMN.out.lt (b:=wr.heap.size) (c0:=a0) (c1:=a1) (c2:=a2) (c3:=a3) (by simp);clear hW8;refine cG (fun wx=>Below W8.heap.size W8 wx) 6 (by kernel_rfl) ?_;have HS:=bW W8.heap.size W8 1;have HM8:=Lib.hid HS;refine aD (i:=0) (v:=.pointer (some ⟨b,0,none⟩)) rfl (by kernel_rfl) (by kernel_rfl) (by kernel_rfl) (by kernel_rfl) (fun _ _ _ h=>h) HS (Or.inl ⟨by kernel_rfl,fun wx hx => ?_⟩) ?_
    ·clear HS hx;go_simp
    simp only[Act.put,List.setIfInBounds_toArray,List.set_cons_zero,List.set_cons_succ];refine aD (i:=1) (v:=.agg #[.int .u64 q0,.int .u64 q1,.int .u64 q2,.int .u64 q3]) rfl (by kernel_rfl) (by kernel_rfl) (by kernel_rfl) (by kernel_rfl) (fun _ _ _ h=>h) HS (Or.inl ⟨by kernel_rfl,fun wx hx => ?_⟩) ?_
    ·have hm:=HMN.out.on hx;have kr:=hm.row (b:=w1.heap.size) (c0:=q0) (c1:=q1) (c2:=q2) (c3:=q3) (by simp);have y0:=kr.c0; have y1:=kr.c1; have y2:=kr.c2; have y3:=kr.c3;clear kr;clear hm;clear HS hx;go_simp
    simp only[Act.put,List.setIfInBounds_toArray,List.set_cons_zero,List.set_cons_succ];refine aD (i:=2) (v:=.pointer (some ⟨b,0,none⟩)) rfl (by kernel_rfl) (by kernel_rfl) (by kernel_rfl) (by kernel_rfl) (fun _ _ _ h=>h) HS (Or.inl ⟨by kernel_rfl,fun wx hx => ?_⟩) ?_
    ·clear HS hx;go_simp
    simp only[Act.put,List.setIfInBounds_toArray,List.set_cons_zero,List.set_cons_succ];refine aD (i:=3) (v:=.agg #[.int .u64 a0,.int .u64 a1,.int .u64 a2,.int .u64 a3]) rfl (by kernel_rfl) (by kernel_rfl) (by kernel_rfl) (by kernel_rfl) (fun _ _ _ h=>h) HS (Or.inl ⟨by kernel_rfl,fun wx hx => ?_⟩) ?_
    ·have hm:=HMN.out.on hx;have kr:=hm.row (b:=wr.heap.size) (c0:=a0) (c1:=a1) (c2:=a2) (c3:=a3) (by simp);have y0:=kr.c0; have y1:=kr.c1; have y2:=kr.c2; have y3:=kr.c3;clear kr;clear hm;clear HS hx;go_simp
    simp only[Act.put,List.setIfInBounds_toArray,List.set_cons_zero,List.set_cons_succ];clear HS;refine aF (i:=4) (by kernel_rfl) rfl (fun K hK => ?_);go_simp;refine (cU F HF.out b a0 a1 a2 a3 HO.out _ (KW.out.same (HMN.out.on HM8.out).1)).mono ?_
    rintro e w2 ⟨s0,s1,s2,s3,rfl,hs,hv,hbl⟩
    have HS:=HM8.out.trans (hbl.mono HM8.out.size);clear HM8;have HM8:=Lib.hid HS;have HV:=Lib.hid hv;clear hv hbl;refine hK.out _ _ (Or.inr HS) (fun _ => ?_);clear hK K;clear HS;refine aF (i:=5) (by kernel_rfl) rfl (fun K hK => ?_);go_simp;refine (cE F HF.out b q0 q1 q2 q3 s0 s1 s2 s3 hq hs (by rw[HV.out]; exact kS HF.out _) _ (KW.out.same (HMN.out.on HM8.out).1)).mono ?_
    rintro e w3 ⟨t0,t1,t2,t3,rfl,ht,hv,hbl⟩
    have HS:=HM8.out.trans (hbl.mono HM8.out.size);clear HM8;have HM8:=Lib.hid HS;have HT:=Lib.hid (show aC t0 t1 t2 t3=kp F (rD F.M (mE A) (k+1)) by
     rw[hv,HV.out,HQ.out,eK HF.out,←HE.out]; show _=kp F (if mE A k=0 then _ else _); rw[if_neg (fun h=>HZ.out (HE.out.symm.trans h))])
    clear hv hbl HV;refine hK.out _ _ (Or.inr HS) (fun _ => ?_);clear hK K;clear HS;have M9:=Lib.hid ((HMN.out.on HM8.out).sub (rs':=[(w1.heap.size,q0,q1,q2,q3)]) (fun r hr=>List.mem_cons_of_mem _ hr));have R9:=Lib.hid (RN.out.below HM8.out (by omega));have kr:=M9.out.row (b:=w1.heap.size) (c0:=q0) (c1:=q1) (c2:=q2) (c3:=q3) (by simp);have y0:=kr.c0; have y1:=kr.c1; have y2:=kr.c2; have y3:=kr.c3; have yf:=kr.fr;clear kr;have lr:w1.heap.size<w3.heap.size:=M9.out.lt (b:=w1.heap.size) (c0:=q0) (c1:=q1) (c2:=q2) (c3:=q3) (by simp);clear RN HMN HM8;refine aF (i:=6) (by kernel_rfl) rfl (fun K hK => ?_);go_simp;refine hK.out _ _ (Or.inl rfl) (fun _ => ?_);clear hK K;refine bR (by kernel_rfl) ?_;go_wp2_with fail
    go_roundw
    case rel=>exact⟨k+1,t0,t1,t2,t3,_,by omega,by go_num,ht,HT,Lib.hid ((((R9.out.other ne1' _).other ne1' _).other ne1' _).other ne1' _),HN,Lib.hid (M9.out.put t0 t1 t2 t3 (by omega) (fun r hr=>by cases hr))⟩
    case measure=>simp[intOf]; omega
  ·obtain rfl:len=k:=by omega
   obtain⟨wo,rfl⟩:∃wo,wo=wr:=⟨_,rfl⟩
   have Rr:=HM.out.row (b:=w1.heap.size) (c0:=q0) (c1:=q1) (c2:=q2) (c3:=q3) (by simp);have x0:=Rr.c0; have x1:=Rr.c1; have x2:=Rr.c2; have x3:=Rr.c3;have ltr:=HM.out.lt (b:=w1.heap.size) (c0:=q0) (c1:=q1) (c2:=q2) (c3:=q3) (by simp);have lta:w.heap.size<wo.heap.size:=by omega
   have M2:=Lib.hid (HM.out.on ((Below.refl _ _).alloc (Nat.le_refl _) o2));have R2:=Lib.hid (RP.out.alloc lta o2);have O2:=Lib.hid (HO2.out wo _ rfl);clear Rr hk hlt HO2;go_wp2_with fail;refine (oD F HF.out (rD F.M (mE A) len) b q0 q1 q2 q3 hq HQ.out _ (KW.out.same M2.out.1)).mono ?_
   rintro e w2 ⟨s0,s1,s2,s3,rfl,hs,hv,hbl⟩
   have sz2:wo.heap.size<w2.heap.size:=by have:=hbl.size; simp at this; omega
   have HV:=Lib.hid hv;have M3:=Lib.hid (M2.out.on hbl);have R3:=Lib.hid (R2.out.below hbl (by simp; omega));have O3:=Lib.hid (O2.out.below hbl (by simp));clear hv hbl M2 R2 O2 x0 x1 x2 x3;go_wp2_with fail;have M4:=Lib.hid ((M3.out.new w2.heap.size s0 s1 s2 s3 155 rfl).sub (rs':=[(w2.heap.size,s0,s1,s2,s3)]) (fun r hr=>by simp at hr; subst hr; simp));have R4:=Lib.hid (R3.out.alloc (by omega) (.cells #[.int .u64 s0,.int .u64 s1,.int .u64 s2,.int .u64 s3] 155));have O4:=Lib.hid (O3.out.alloc sz2 (.cells #[.int .u64 s0,.int .u64 s1,.int .u64 s2,.int .u64 s3] 155));clear M3 R3 O3 HM RP HQ
   go_loopw [11] (fun t wx=>∃(m r0 r1 r2 r3:Nat) (x:Int) (O:Nat→Nat),m≤len∧t=.int .i64 x∧Hid (x=(m:Int)-1)∧cF r0 r1 r2 r3∧Hid (aC r0 r1 r2 r3=kp F (rD F.M (mE A) m^(F.M-2)))∧Hid (RowIs wx w.heap.size (len*4) P)∧Hid (RowIs wx wo.heap.size (len*4) O)∧Hid (∀j,j<m→IG O j∧JN O j=0)∧Hid (∀j,m≤j→j<len→IG O j∧JN O j=mE A j^(F.M-2)%F.M)∧Hid (Mem w wx [(w2.heap.size,r0,r1,r2,r3)])) (fun t _=>(intOf t+1).toNat)
   case atStart=>exact⟨len,s0,s1,s2,s3,_,_,Nat.le_refl _,rfl,Lib.hid rfl,hs,HV,R4,O4,Lib.hid (fun j h=>⟨KQ,rfl⟩),Lib.hid (fun j h1 h2=>absurd h2 (by omega)),M4⟩
   case round =>
    obtain⟨m,r0,r1,r2,r3,x,O,hml,rfl,hx,hr,HR,RP,RO,HZ,HD,HM⟩:=hrel;clear M4 R4 O4 HV;have ltx:=HM.out.lt (b:=w2.heap.size) (c0:=r0) (c1:=r1) (c2:=r2) (c3:=r3) (by simp);have lto:wo.heap.size<wr.heap.size:=by omega
    have lta':w.heap.size<wr.heap.size:=by omega
    rcases Nat.eq_zero_or_pos m with rfl|hmp
    ·obtain rfl:x = -1:=by rw[hx.out]; rfl
     go_wp2_with fail;go_ret;exact⟨wo.heap.size,O,rfl,by omega,lto,RO.out,fun j h=>HD.out j (by omega) h,HM.out.1⟩
    ·obtain⟨j,rfl⟩:∃j,m=j+1:=⟨m-1,by omega⟩
     obtain rfl:x=(j:Int):=by rw[hx.out]; omega
     have hjl:j<len:=by omega
     obtain⟨a0,a1,a2,a3,e0,e1,e2,e3⟩:∃a0 a1 a2 a3:Nat,a0=A j 0∧a1=A j 1∧a2=A j 2∧a3=A j 3:=⟨_,_,_,_,rfl,rfl,rfl,rfl⟩
     have hc:=(HL.out.same HG.out HM.out.1) j hjl;have hok:=HA.out j hjl;rw[←e0,←e1,←e2,←e3]at hc hok;have c0:=hc.1; have c1:=hc.2.1; have c2:=hc.2.2.1; have c3:=hc.2.2.2;have HE:=Lib.hid (show mE A j=aC a0 a1 a2 a3 by unfold mE; rw[←e0,←e1,←e2,←e3]);have HO:=Lib.hid hok;have HA4:=Lib.hid (And.intro e0 (And.intro e1 (And.intro e2 e3)));clear e0 e1 e2 e3 hok hc;have ltg:g<wr.heap.size:=by have:=HG.out (by omega); omega
     have bjl:(j:Int)<(len:Int):=by omega
     by_cases hz:aC a0 a1 a2 a3=0
     ·have EQ:=JM HO.out hz;have HS:=Lib.hid (show aC r0 r1 r2 r3=kp F (rD F.M (mE A) j^(F.M-2)) by rw[HR.out]; show kp F ((if mE A j=0 then _ else _)^_)=_; rw[if_pos (HE.out.trans hz)]);have HZn:=Lib.hid (fun i (h:i<j)=>HZ.out i (Nat.lt_succ_of_lt h));have HDn:=Lib.hid (show ∀i,j≤i→i<len→IG O i∧JN O i=mE A i^(F.M-2)%F.M from fun i h1 h2=>by
       by_cases e:i=j
       ·subst e; exact⟨(HZ.out i (by omega)).1,by rw[(HZ.out i (by omega)).2,Ct HF.out (HE.out.trans hz)]⟩
       ·exact HD.out i (by omega) h2)
      clear hz;go_wp2_with fail
      go_roundw
      case rel=>exact⟨j,r0,r1,r2,r3,_,O,by omega,rfl,Lib.hid (by omega),hr,HS,RP,RO,HZn,HDn,HM⟩
      case measure=>simp[intOf]<;>omega
     ·have EQ:=Ea HO.out hz;have HZ':=Lib.hid hz;clear hz;go_wp2_with fail;clear EQ c0 c1 c2 c3;obtain⟨h0,h1,h2,h3,g0,g1,g2,g3⟩:∃h0 h1 h2 h3:Nat,h0=P (j*4)∧h1=P (j*4+1)∧h2=P (j*4+2)∧h3=P (j*4+3):=⟨_,_,_,_,rfl,rfl,rfl,rfl⟩
      have hh:=(HP.out j hjl).1;have eh:=(HP.out j hjl).2;unfold IG at hh;unfold JN at eh;rw[←g0,←g1,←g2,←g3]at hh eh;have HC:=Lib.hid (show ∀wx,Below wr.heap.size wr wx→wx.cell? ⟨w.heap.size,j*4,none⟩=some (.int .u64 (h0:Nat))∧wx.cell? ⟨w.heap.size,j*4+1,none⟩=some (.int .u64 (h1:Nat))∧wx.cell? ⟨w.heap.size,j*4+2,none⟩=some (.int .u64 (h2:Nat))∧wx.cell? ⟨w.heap.size,j*4+3,none⟩=some (.int .u64 (h3:Nat))from fun wx hx=>by
       have q:=RP.out.below hx lta';rw[g0,g1,g2,g3];exact⟨q.cell (by omega),q.cell (by omega),q.cell (by omega),q.cell (by omega)⟩)
      have EH:=Lib.hid eh;have lh:Hid (aC h0 h1 h2 h3<F.M):=Lib.hid (by rw[eh]; exact kS HF.out _);clear eh g0 g1 g2 g3;refine cG (fun wx=>Below wr.heap.size wr wx) 12 (by kernel_rfl) ?_;have HS:=bW wr.heap.size wr 1;have HB:=Lib.hid HS;refine aD (i:=0) (v:=.slice (some ⟨wo.heap.size,0,none⟩) len len) rfl (by kernel_rfl) (by kernel_rfl) (by kernel_rfl) (by kernel_rfl) (fun _ _ _ h=>h) HS (Or.inl ⟨by kernel_rfl,fun wx hx => ?_⟩) ?_
      ·clear HS hx;go_simp
      simp only[Act.put,List.setIfInBounds_toArray,List.set_cons_zero,List.set_cons_succ];refine aD (i:=1) (v:=.int .i64 (j:Nat)) rfl (by kernel_rfl) (by kernel_rfl) (by kernel_rfl) (by kernel_rfl) (fun _ _ _ h=>h) HS (Or.inl ⟨by kernel_rfl,fun wx hx => ?_⟩) ?_
      ·clear HS hx;go_simp
      simp only[Act.put,List.setIfInBounds_toArray,List.set_cons_zero,List.set_cons_succ];refine aD (i:=2) (v:=.pointer (some ⟨b,0,none⟩)) rfl (by kernel_rfl) (by kernel_rfl) (by kernel_rfl) (by kernel_rfl) (fun _ _ _ h=>h) HS (Or.inl ⟨by kernel_rfl,fun wx hx => ?_⟩) ?_
      ·clear HS hx;go_simp
      simp only[Act.put,List.setIfInBounds_toArray,List.set_cons_zero,List.set_cons_succ];refine aD (i:=3) (v:=.pointer (some ⟨b,0,none⟩)) rfl (by kernel_rfl) (by kernel_rfl) (by kernel_rfl) (by kernel_rfl) (fun _ _ _ h=>h) HS (Or.inl ⟨by kernel_rfl,fun wx hx => ?_⟩) ?_
      ·clear HS hx;go_simp
      simp only[Act.put,List.setIfInBounds_toArray,List.set_cons_zero,List.set_cons_succ];refine aD (i:=4) (v:=.agg #[.int .u64 r0,.int .u64 r1,.int .u64 r2,.int .u64 r3]) rfl (by kernel_rfl) (by kernel_rfl) (by kernel_rfl) (by kernel_rfl) (fun _ _ _ h=>h) HS (Or.inl ⟨by kernel_rfl,fun wx hx => ?_⟩) ?_
      ·have hm:=HM.out.on hx;have kr:=hm.row (b:=w2.heap.size) (c0:=r0) (c1:=r1) (c2:=r2) (c3:=r3) (by simp);have y0:=kr.c0; have y1:=kr.c1; have y2:=kr.c2; have y3:=kr.c3;clear kr;clear hm;clear HS hx;go_simp
      simp only[Act.put,List.setIfInBounds_toArray,List.set_cons_zero,List.set_cons_succ];refine aD (i:=5) (v:=.slice (some ⟨w.heap.size,0,none⟩) len len) rfl (by kernel_rfl) (by kernel_rfl) (by kernel_rfl) (by kernel_rfl) (fun _ _ _ h=>h) HS (Or.inl ⟨by kernel_rfl,fun wx hx => ?_⟩) ?_
      ·clear HS hx;go_simp
      simp only[Act.put,List.setIfInBounds_toArray,List.set_cons_zero,List.set_cons_succ];refine aD (i:=6) (v:=.int .i64 (j:Nat)) rfl (by kernel_rfl) (by kernel_rfl) (by kernel_rfl) (by kernel_rfl) (fun _ _ _ h=>h) HS (Or.inl ⟨by kernel_rfl,fun wx hx => ?_⟩) ?_
      ·clear HS hx;go_simp
      simp only[Act.put,List.setIfInBounds_toArray,List.set_cons_zero,List.set_cons_succ];refine aD (i:=7) (v:=.pointer (some ⟨w.heap.size,j*4,none⟩)) rfl (by kernel_rfl) (by kernel_rfl) (by kernel_rfl) (by kernel_rfl) (fun _ _ _ h=>h) HS (Or.inl ⟨by kernel_rfl,fun wx hx => ?_⟩) ?_
      ·clear HS hx;go_simp
      simp only[Act.put,List.setIfInBounds_toArray,List.set_cons_zero,List.set_cons_succ];refine aD (i:=8) (v:=.agg #[.int .u64 h0,.int .u64 h1,.int .u64 h2,.int .u64 h3]) rfl (by kernel_rfl) (by kernel_rfl) (by kernel_rfl) (by kernel_rfl) (fun _ _ _ h=>h) HS (Or.inl ⟨by kernel_rfl,fun wx hx => ?_⟩) ?_
      ·have hc:=HC.out wx hx;have y0:=hc.1; have y1:=hc.2.1; have y2:=hc.2.2.1; have y3:=hc.2.2.2;clear hc;clear HS hx;go_simp
      simp only[Act.put,List.setIfInBounds_toArray,List.set_cons_zero,List.set_cons_succ];clear HS;refine aF (i:=9) (by kernel_rfl) rfl (fun K hK => ?_);go_simp;refine (cE F HF.out b r0 r1 r2 r3 h0 h1 h2 h3 hr hh lh.out _ (KW.out.same (HM.out.on HB.out).1)).mono ?_
      rintro e w3 ⟨v0,v1,v2,v3,rfl,hvv,hv,hbl⟩
      have HS:=HB.out.trans (hbl.mono HB.out.size);clear HB;have HB:=Lib.hid HS;have HV:=Lib.hid (show aC v0 v1 v2 v3=kp F (rD F.M (mE A) (j+1)^(F.M-2)*rD F.M (mE A) j%F.M) by rw[hv,HR.out,EH.out,eK HF.out]);clear hv hbl;refine hK.out _ _ (Or.inr HS) (fun _ => ?_);clear hK K;clear HS;refine aF (i:=10) (by kernel_rfl) rfl (fun K hK => ?_);go_simp;refine (zZ F HF.out b v0 v1 v2 v3 hvv _ (KW.out.same (HM.out.on HB.out).1)).mono ?_
      rintro e w4 ⟨t0,t1,t2,t3,rfl,ht,hv,hbl⟩
      have HS:=HB.out.trans (hbl.mono HB.out.size);clear HB;have HB:=Lib.hid HS;have HT:=Lib.hid (show aC t0 t1 t2 t3=mE A j^(F.M-2)%F.M by
       rw[hv,HV.out,DC HF.out _ (Nat.mod_lt _ HF.out.pos)];exact Mt HF.out HRt.out (fun i h=>HLA.out i (by omega)) (fun h=>HZ'.out (HE.out.symm.trans h)))
      clear hv hbl HV;refine hK.out _ _ (Or.inr HS) (fun _ => ?_);clear hK K;clear HS;refine aF (i:=11) (by kernel_rfl) rfl (fun K hK => ?_);go_simp;refine hK.out _ _ (Or.inr HB.out) (fun _ => ?_);clear hK K;have RO4:=Lib.hid (RO.out.below HB.out lto);have RP4:=Lib.hid (RP.out.below HB.out lta');have HM4:=Lib.hid (HM.out.on HB.out);have sz4:=HB.out.size;have i0:=RO4.out.cell (i:=j*4) (by omega); have i1:=RO4.out.cell (i:=j*4+1) (by omega); have i2:=RO4.out.cell (i:=j*4+2) (by omega); have i3:=RO4.out.cell (i:=j*4+3) (by omega);have f0:=RO4.out.free (i:=j*4) (by omega); have f1:=RO4.out.free (i:=j*4+1) (by omega); have f2:=RO4.out.free (i:=j*4+2) (by omega); have f3:=RO4.out.free (i:=j*4+3) (by omega);have lo4:wo.heap.size<w4.heap.size:=by omega
      clear HC RO RP HM HB;refine aF (i:=12) (by kernel_rfl) rfl (fun K hK => ?_);go_simp;refine hK.out _ _ (Or.inl rfl) (fun _ => ?_);clear hK K;refine bR (by kernel_rfl) ?_;go_wp2_with fail;clear i0 i1 i2 i3 f0 f1 f2 f3;have HDn:=Lib.hid (show ∀i,j≤i→i<len→IG (putP O j t0 t1 t2 t3) i∧JN (putP O j t0 t1 t2 t3) i=mE A i^(F.M-2)%F.M from fun i h1 h2=>by
       by_cases e:i=j
       ·subst e; exact⟨(oT O i t0 t1 t2 t3).2 ht,by rw[(oT O i t0 t1 t2 t3).1,HT.out]⟩
       ·have q:=HD.out i (by omega) h2;exact⟨(iQ O j t0 t1 t2 t3 i e).2 q.1,by rw[(iQ O j t0 t1 t2 t3 i e).1,q.2]⟩)
      have HZn:=Lib.hid (show ∀i,i<j→IG (putP O j t0 t1 t2 t3) i∧JN (putP O j t0 t1 t2 t3) i=0 from fun i h1=>by
       have q:=HZ.out i (by omega);exact⟨(iQ O j t0 t1 t2 t3 i (by omega)).2 q.1,by rw[(iQ O j t0 t1 t2 t3 i (by omega)).1,q.2]⟩)
      have ne5:wo.heap.size≠w.heap.size:=by omega
      have ne6:∀r,r∈[(w2.heap.size,r0,r1,r2,r3)]→r.1≠wo.heap.size:=by intro r hr; simp at hr; subst hr; show w2.heap.size≠_; omega
      have RO5:=Lib.hid (RO4.out.putP hjl t0 t1 t2 t3);have RP5:=Lib.hid ((((RP4.out.other (i:=j*4) ne5 (.int .u64 (t0:Nat))).other (i:=j*4+1) ne5 (.int .u64 (t1:Nat))).other (i:=j*4+2) ne5 (.int .u64 (t2:Nat))).other (i:=j*4+3) ne5 (.int .u64 (t3:Nat)));have HM5:=Lib.hid ((((HM4.out.poke (i:=j*4) (by omega) ne6 (.int .u64 (t0:Nat))).poke (i:=j*4+1) (by omega) ne6 (.int .u64 (t1:Nat))).poke (i:=j*4+2) (by omega) ne6 (.int .u64 (t2:Nat))).poke (i:=j*4+3) (by omega) ne6 (.int .u64 (t3:Nat)));obtain⟨W5,hW5⟩:∃W5,W5=((((w4.setCell ⟨wo.heap.size,j*4,none⟩ (.int .u64 (t0:Nat))).setCell ⟨wo.heap.size,j*4+1,none⟩ (.int .u64 (t1:Nat))).setCell ⟨wo.heap.size,j*4+2,none⟩ (.int .u64 (t2:Nat))).setCell ⟨wo.heap.size,j*4+3,none⟩ (.int .u64 (t3:Nat))):=⟨_,rfl⟩
      rw[←hW5]at RO5 RP5 HM5 ⊢;have lt5:w2.heap.size<W5.heap.size:=HM5.out.lt (b:=w2.heap.size) (c0:=r0) (c1:=r1) (c2:=r2) (c3:=r3) (by simp);have lo5:wo.heap.size<W5.heap.size:=by omega
      have la5:w.heap.size<W5.heap.size:=by omega
      clear hW5 RO4 RP4 HM4 ne6 HT HZ HD HP lh EH;have HC:=Lib.hid (show ∀wx,Below W5.heap.size W5 wx→wx.cell? ⟨g,off+j*4,none⟩=some (.int .u64 (a0:Nat))∧wx.cell? ⟨g,off+j*4+1,none⟩=some (.int .u64 (a1:Nat))∧wx.cell? ⟨g,off+j*4+2,none⟩=some (.int .u64 (a2:Nat))∧wx.cell? ⟨g,off+j*4+3,none⟩=some (.int .u64 (a3:Nat))from fun wx hx=>by
       have q:=(HL.out.same HG.out (HM5.out.on hx).1) j hjl;rw[←HA4.out.1,←HA4.out.2.1,←HA4.out.2.2.1,←HA4.out.2.2.2]at q;exact q)
      refine cG (fun wx=>Below W5.heap.size W5 wx) 9 (by kernel_rfl) ?_;have HS:=bW W5.heap.size W5 1;have HB:=Lib.hid HS;refine aD (i:=0) (v:=.pointer (some ⟨b,0,none⟩)) rfl (by kernel_rfl) (by kernel_rfl) (by kernel_rfl) (by kernel_rfl) (fun _ _ _ h=>h) HS (Or.inl ⟨by kernel_rfl,fun wx hx => ?_⟩) ?_
      ·clear HS hx;go_simp
      simp only[Act.put,List.setIfInBounds_toArray,List.set_cons_zero,List.set_cons_succ];refine aD (i:=1) (v:=.agg #[.int .u64 r0,.int .u64 r1,.int .u64 r2,.int .u64 r3]) rfl (by kernel_rfl) (by kernel_rfl) (by kernel_rfl) (by kernel_rfl) (fun _ _ _ h=>h) HS (Or.inl ⟨by kernel_rfl,fun wx hx => ?_⟩) ?_
      ·have hm:=HM5.out.on hx;have kr:=hm.row (b:=w2.heap.size) (c0:=r0) (c1:=r1) (c2:=r2) (c3:=r3) (by simp);have y0:=kr.c0; have y1:=kr.c1; have y2:=kr.c2; have y3:=kr.c3;clear kr;clear hm;clear HS hx;go_simp
      simp only[Act.put,List.setIfInBounds_toArray,List.set_cons_zero,List.set_cons_succ];refine aD (i:=2) (v:=.pointer (some ⟨b,0,none⟩)) rfl (by kernel_rfl) (by kernel_rfl) (by kernel_rfl) (by kernel_rfl) (fun _ _ _ h=>h) HS (Or.inl ⟨by kernel_rfl,fun wx hx => ?_⟩) ?_
      ·clear HS hx;go_simp
      simp only[Act.put,List.setIfInBounds_toArray,List.set_cons_zero,List.set_cons_succ];refine aD (i:=3) (v:=.slice (some ⟨g,off,none⟩) len cap) rfl (by kernel_rfl) (by kernel_rfl) (by kernel_rfl) (by kernel_rfl) (fun _ _ _ h=>h) HS (Or.inl ⟨by kernel_rfl,fun wx hx => ?_⟩) ?_
      ·clear HS hx;go_simp
      simp only[Act.put,List.setIfInBounds_toArray,List.set_cons_zero,List.set_cons_succ];refine aD (i:=4) (v:=.int .i64 (j:Nat)) rfl (by kernel_rfl) (by kernel_rfl) (by kernel_rfl) (by kernel_rfl) (fun _ _ _ h=>h) HS (Or.inl ⟨by kernel_rfl,fun wx hx => ?_⟩) ?_
      ·clear HS hx;go_simp
      simp only[Act.put,List.setIfInBounds_toArray,List.set_cons_zero,List.set_cons_succ];refine aD (i:=5) (v:=.pointer (some ⟨g,off+j*4,none⟩)) rfl (by kernel_rfl) (by kernel_rfl) (by kernel_rfl) (by kernel_rfl) (fun _ _ _ h=>h) HS (Or.inl ⟨by kernel_rfl,fun wx hx => ?_⟩) ?_
      ·clear HS hx;go_simp
      simp only[Act.put,List.setIfInBounds_toArray,List.set_cons_zero,List.set_cons_succ];refine aD (i:=6) (v:=.agg #[.int .u64 a0,.int .u64 a1,.int .u64 a2,.int .u64 a3]) rfl (by kernel_rfl) (by kernel_rfl) (by kernel_rfl) (by kernel_rfl) (fun _ _ _ h=>h) HS (Or.inl ⟨by kernel_rfl,fun wx hx => ?_⟩) ?_
      ·have hc:=HC.out wx hx;have y0:=hc.1; have y1:=hc.2.1; have y2:=hc.2.2.1; have y3:=hc.2.2.2;clear hc;clear HS hx;go_simp
      simp only[Act.put,List.setIfInBounds_toArray,List.set_cons_zero,List.set_cons_succ];clear HS;refine aF (i:=7) (by kernel_rfl) rfl (fun K hK => ?_);go_simp;refine (cU F HF.out b a0 a1 a2 a3 HO.out _ (KW.out.same (HM5.out.on HB.out).1)).mono ?_
      rintro e w6 ⟨s0,s1,s2,s3,rfl,hs,hv,hbl⟩
      have HS:=HB.out.trans (hbl.mono HB.out.size);clear HB;have HB:=Lib.hid HS;have HV:=Lib.hid hv;clear hv hbl;refine hK.out _ _ (Or.inr HS) (fun _ => ?_);clear hK K;clear HS;refine aF (i:=8) (by kernel_rfl) rfl (fun K hK => ?_);go_simp;refine (cE F HF.out b r0 r1 r2 r3 s0 s1 s2 s3 hr hs (by rw[HV.out]; exact kS HF.out _) _ (KW.out.same (HM5.out.on HB.out).1)).mono ?_
      rintro e w7 ⟨v0,v1,v2,v3,rfl,hvv,hv,hbl⟩
      have HS:=HB.out.trans (hbl.mono HB.out.size);clear HB;have HB:=Lib.hid HS;have HT:=Lib.hid (show aC v0 v1 v2 v3=kp F (rD F.M (mE A) j^(F.M-2)) by
       rw[hv,HV.out,HR.out,eK HF.out,←HE.out];exact Cu HF.out HRt.out (fun i h=>HLA.out i (by omega)) (fun h=>HZ'.out (HE.out.symm.trans h)))
      clear hv hbl HV;refine hK.out _ _ (Or.inr HS) (fun _ => ?_);clear hK K;clear HS;have M9:=Lib.hid (HM5.out.on HB.out);have R9:=Lib.hid (RP5.out.below HB.out la5);have O9:=Lib.hid (RO5.out.below HB.out lo5);have kr:=M9.out.row (b:=w2.heap.size) (c0:=r0) (c1:=r1) (c2:=r2) (c3:=r3) (by simp);have y0:=kr.c0; have y1:=kr.c1; have y2:=kr.c2; have y3:=kr.c3; have yf:=kr.fr;clear kr;have lr:w2.heap.size<w7.heap.size:=M9.out.lt (b:=w2.heap.size) (c0:=r0) (c1:=r1) (c2:=r2) (c3:=r3) (by simp);have nea:w2.heap.size≠w.heap.size:=by omega
      have neo:w2.heap.size≠wo.heap.size:=by omega
      clear HM5 RP5 RO5 HB HC;refine aF (i:=9) (by kernel_rfl) rfl (fun K hK => ?_);go_simp;refine hK.out _ _ (Or.inl rfl) (fun _ => ?_);clear hK K;refine bR (by kernel_rfl) ?_;go_wp2_with fail
      go_roundw
      case rel=>exact⟨j,v0,v1,v2,v3,_,_,by omega,rfl,Lib.hid (by omega),hvv,HT,Lib.hid ((((R9.out.other nea _).other nea _).other nea _).other nea _),Lib.hid ((((O9.out.other neo _).other neo _).other neo _).other neo _),HZn,HDn,Lib.hid (M9.out.put v0 v1 v2 v3 (by omega) (fun r hr=>by cases hr))⟩
      case measure=>simp[intOf]<;>omega
end Go.Proofs.YtpjlhhpjpnacmaaGreatDoor
