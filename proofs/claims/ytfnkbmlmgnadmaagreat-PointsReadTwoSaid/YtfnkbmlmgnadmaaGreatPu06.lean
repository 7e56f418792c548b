/- Pu06 -/
import Derived.Laws.MakeOwn
import Derived.Test.YtfnkbmlmgnadmaaGreatPu05
import Derived.Test.YtfnkbmlmgnadmaaGreatPu04
import Derived.Test.YtfnkbmlmgnadmaaGreatPu03
import Derived.Test.YtfnkbmlmgnadmaaGreatPu00
set_option maxRecDepth 100000
set_option linter.unusedVariables false
set_option linter.unusedSimpArgs false
namespace Go.Proofs.YtfnkbmlmgnadmaaGreat
open Go.Proofs.Tryz
open Go.RowKit
def aEh (F : FC) (w : World) (e : Ending) (w' : World) : Prop :=
 ∃ T H c0 c1 c2 c3 : Nat,e = .returned (.tuple #[.int .i64 T,.agg #[.int .u64 c0,.int .u64 c1,.int .u64 c2,.int .u64 c3]]) ∧ aY c0 c1 c2 c3 ∧ 1 ≤ T ∧ T ≤ 200 ∧ F.M = 2 ^ T * (2 * H + 1) + 1 ∧ aA c0 c1 c2 c3 ^ 2 ^ (T - 1) % F.M = F.M - 1 ∧ Below w.heap.size w w'
theorem aGO {n b e v : Nat} (he : e < 2 ^ 256) (h : Nat.beq (pm n 256 b e) v = true) : b ^ e % n = v:=by
 rw [← DS n 256 b e he]; exact Nat.eq_of_beq_eq_true h
theorem aIK (e : Nat) (he : e = 134217728) : aA 11229192882073836016 4624371214017703636 63235024940837564 3043318377369730693 ^ e % FR.M = FR.M - 1 :=
 aGO (n:=FR.M) (b:=aA 11229192882073836016 4624371214017703636 63235024940837564 3043318377369730693) (e:=e) (v:=FR.M - 1) (by rw [he]; decide) (by rw [he]; kernel_rfl)
theorem aLX (T : Nat) (hT : T = 28) : aA 11229192882073836016 4624371214017703636 63235024940837564 3043318377369730693 ^ 2 ^ (T - 1) % FR.M = FR.M - 1:=aIK (2 ^ (T - 1)) (by rw [hT])
theorem aLY : aA 4332616871279656262 10917124144477883021 13281191951274694749 3486998266802970665 ^ 2 ^ (1 - 1) % FP.M = FP.M - 1:=by kernel_rfl
set_option maxHeartbeats 2000000 in
theorem vR (f : Int) (F : FC) (hf : FieldIs f F) (w : World) : Calls prog 126 #[.int .i64 f] w (aEh F w):=by
 rcases hf with ⟨rfl,rfl⟩ | ⟨rfl,rfl⟩
 ·go_enter func126,ntmps126
  go_wp2_with fail;refine bodyPost_ret (v:=.tuple #[.int .i64 1,.agg #[.int .u64 4332616871279656262,.int .u64 10917124144477883021,.int .u64 13281191951274694749,.int .u64 3486998266802970665]]) (by simp [results,results126,go_sem]) rfl ?_;refine ⟨1,5472060717959818805561601436314318772174077789324455915672259473661306552145,4332616871279656262,10917124144477883021,13281191951274694749,3486998266802970665,rfl,by unfold aY; decide,by omega,by omega,by kernel_rfl,aLY,?_⟩
  repeat (first | exact Below.refl _ _ | refine Below.drew ?_ | refine Below.alloc ?_ (by first | (simp; done) | (simp; omega)) _ | refine Below.setCell ?_ (by simp) _)
 ·go_enter func126,ntmps126
  go_wp2_with fail;refine bodyPost_ret (v:=.tuple #[.int .i64 28,.agg #[.int .u64 11229192882073836016,.int .u64 4624371214017703636,.int .u64 63235024940837564,.int .u64 3043318377369730693]]) (by simp [results,results126,go_sem]) rfl ?_;refine ⟨28,40770029410420498293352137776570907027550720424234931066070132305055,11229192882073836016,4624371214017703636,63235024940837564,3043318377369730693,rfl,by unfold aY; decide,by omega,by omega,by kernel_rfl,aLX 28 rfl,?_⟩
  repeat (first | exact Below.refl _ _ | refine Below.drew ?_ | refine Below.alloc ?_ (by first | (simp; done) | (simp; omega)) _ | refine Below.setCell ?_ (by simp) _)
set_option maxHeartbeats 2000000 in
theorem EN (f : Int) (F : FC) (hf : FieldIs f F) (a0 a1 a2 a3 : Nat) (ha : aY a0 a1 a2 a3) (la : aA a0 a1 a2 a3 < F.M) (hz : aA a0 a1 a2 a3 = 0) (w : World) :
  Calls prog 84 #[.int .i64 f,.agg #[.int .u64 a0,.int .u64 a1,.int .u64 a2,.int .u64 a3]] w (LM 0 0 w):=by
 have HE:=Lib.hid (show ∀ w,(Op.equalIn 10000 24 (.agg #[.int .u64 a0,.int .u64 a1,.int .u64 a2,.int .u64 a3]) (.agg #[.int .u64 0,.int .u64 0,.int .u64 0,.int .u64 0])).run prog w = .ok true w from fun w => by
  have h:=kG 9998 a0 a1 a2 a3 0 0 0 0 w;rw [show CH a0 a1 a2 a3 0 0 0 0 = true from (fC ha vW).2 (hz.trans rfl)] at h;exact h)
 have hG:=lW;clear hz
 go_enter func84,ntmps84
 go_wp2_with fail;refine (cK f F hf _).mono ?_
 rintro e w1 ⟨rfl,hbl⟩
 have M1:=(((Mem.nil w).new (w.heap.size) a0 a1 a2 a3 24 (by simp)).new (w.heap.size + 1) 0 0 0 0 24 (by simp)).on hbl;clear hbl;have z0 : w.heap.size < w1.heap.size:=M1.lt (c0:=a0) (c1:=a1) (c2:=a2) (c3:=a3) (by simp);have z1 : w.heap.size + 1 < w1.heap.size:=M1.lt (c0:=0) (c1:=0) (c2:=0) (c3:=0) (by simp);have HM:=Lib.hid (M1.on ((Below.refl _ _).alloc (Nat.le_refl _) (.cells #[.int .u64 F.m0,.int .u64 F.m1,.int .u64 F.m2,.int .u64 F.m3,.int .u64 F.inv,.int .u64 F.s0,.int .u64 F.s1,.int .u64 F.s2,.int .u64 F.s3] 129)));have KK:=Lib.hid (KIs.new w1 F 129);have kr:=M1.row (b:=w.heap.size) (c0:=a0) (c1:=a1) (c2:=a2) (c3:=a3) (by simp);have x0:=kr.c0; have x1:=kr.c1; have x2:=kr.c2; have x3:=kr.c3;clear kr;have xl:=M1.lt (b:=w.heap.size) (c0:=a0) (c1:=a1) (c2:=a2) (c3:=a3) (by simp);go_wp2_with fail;refine (cD F hf.ok w1.heap.size a0 a1 a2 a3 ha _ KK.out).mono ?_
 rintro e w2 ⟨he,hbl⟩
 rw [show sI (aA a0 a1 a2 a3) F.M = true from decide_eq_true la] at he;subst he;have HM':=Lib.hid (HM.out.on hbl);have KK':=Lib.hid (KK.out.same hbl);have zk:=KK'.out.lt;clear HM KK hbl M1;have HM:=HM';have KK:=KK';clear HM' KK';clear x0 x1 x2 x3 xl zk;have kr:=HM.out.row (b:=w.heap.size) (c0:=a0) (c1:=a1) (c2:=a2) (c3:=a3) (by simp);have x0:=kr.c0; have x1:=kr.c1; have x2:=kr.c2; have x3:=kr.c3;clear kr;have xl:=HM.out.lt (b:=w.heap.size) (c0:=a0) (c1:=a1) (c2:=a2) (c3:=a3) (by simp);have kr:=HM.out.row (b:=w.heap.size + 1) (c0:=0) (c1:=0) (c2:=0) (c3:=0) (by simp);have y0:=kr.c0; have y1:=kr.c1; have y2:=kr.c2; have y3:=kr.c3; have yf:=kr.fr;clear kr;have yl:=HM.out.lt (b:=w.heap.size + 1) (c0:=0) (c1:=0) (c2:=0) (c3:=0) (by simp);have hE:=HE.out;go_wp2_with fail;refine bodyPost_ret (v:=.tuple #[.agg #[.int .u64 0,.int .u64 0,.int .u64 0,.int .u64 0],.int .i64 0]) (by simp [results,results84,go_sem, *]) rfl ?_;refine ⟨_,_,_,_,rfl,vW,rfl,?_⟩;exact aL HM.out.1 (by omega) 0 0 0 0
theorem mI {F : FC} (hF : F.Ok) {v : Nat} (hv : v < F.M) (h : fV F.M v = false) : (0 + F.M - v) % F.M * ((0 + F.M - v) % F.M) % F.M = v * v % F.M ∧ (0 + F.M - v) % F.M < F.M ∧ fV F.M ((0 + F.M - v) % F.M) = true:=by
 unfold fV at *;have h' : ¬ v ≤ (0 + F.M - v) % F.M:=of_decide_eq_false h;have hp:=hF.pos;have v0 : 0 < v:=by
  rcases Nat.eq_zero_or_pos v with q | q
  ·subst q; exact absurd (Nat.zero_le _) h'
  ·exact q
 rw [Nat.mod_eq_of_lt (show 0 + F.M - v < F.M by omega)] at *;refine ⟨?_,by omega,?_⟩
 ·obtain ⟨d,hd⟩ : ∃ d,F.M = v + d:=⟨F.M - v,by omega⟩
  have hdv : d < v:=by omega
  obtain ⟨e,rfl⟩ : ∃ e,v = d + e:=⟨v - d,by omega⟩
  rw [show 0 + F.M - (d + e) = d by omega];have : (d + e) * (d + e) = d * d + F.M * e:=by
   rw [hd]; simp only [Nat.add_mul,Nat.mul_add,Nat.mul_comm e d]; omega
  rw [this,Nat.add_mul_mod_self_left]
 ·rw [decide_eq_true_iff,show 0 + F.M - (0 + F.M - v) = v by omega,Nat.mod_eq_of_lt hv]; omega
set_option maxHeartbeats 2000000 in
theorem sN (f : Int) (F : FC) (hf : FieldIs f F) (a0 a1 a2 a3 : Nat) (ha : aY a0 a1 a2 a3) (la : aA a0 a1 a2 a3 < F.M) (hz : aA a0 a1 a2 a3 ≠ 0) (hs2 : aA a0 a1 a2 a3 ^ (F.M / 2) % F.M = 1) (w : World) :
  Calls prog 84 #[.int .i64 f,.agg #[.int .u64 a0,.int .u64 a1,.int .u64 a2,.int .u64 a3]] w (fun e w' => ∃ V,LM 0 V w e w' ∧ V * V % F.M = aA a0 a1 a2 a3 ∧ V < F.M ∧ fV F.M V = true):=by
 have HE:=Lib.hid (show ∀ w,(Op.equalIn 10000 24 (.agg #[.int .u64 a0,.int .u64 a1,.int .u64 a2,.int .u64 a3]) (.agg #[.int .u64 0,.int .u64 0,.int .u64 0,.int .u64 0])).run prog w = .ok false w from fun w => by
  have h:=kG 9998 a0 a1 a2 a3 0 0 0 0 w;rw [show CH a0 a1 a2 a3 0 0 0 0 = false from lV (fun q => hz (((fC ha vW).1 q).trans rfl))] at h;exact h)
 have hG:=lW;have HS2:=Lib.hid hs2;have HZ:=Lib.hid hz;clear hz hs2
 go_enter func84,ntmps84
 go_wp2_with fail;refine (cK f F hf _).mono ?_
 rintro e w1 ⟨rfl,hbl⟩
 have M1:=(((Mem.nil w).new (w.heap.size) a0 a1 a2 a3 24 (by simp)).new (w.heap.size + 1) 0 0 0 0 24 (by simp)).on hbl;clear hbl;have z0 : w.heap.size < w1.heap.size:=M1.lt (c0:=a0) (c1:=a1) (c2:=a2) (c3:=a3) (by simp);have z1 : w.heap.size + 1 < w1.heap.size:=M1.lt (c0:=0) (c1:=0) (c2:=0) (c3:=0) (by simp);have HM:=Lib.hid (M1.on ((Below.refl _ _).alloc (Nat.le_refl _) (.cells #[.int .u64 F.m0,.int .u64 F.m1,.int .u64 F.m2,.int .u64 F.m3,.int .u64 F.inv,.int .u64 F.s0,.int .u64 F.s1,.int .u64 F.s2,.int .u64 F.s3] 129)));have KK:=Lib.hid (KIs.new w1 F 129);have kr:=M1.row (b:=w.heap.size) (c0:=a0) (c1:=a1) (c2:=a2) (c3:=a3) (by simp);have x0:=kr.c0; have x1:=kr.c1; have x2:=kr.c2; have x3:=kr.c3;clear kr;have xl:=M1.lt (b:=w.heap.size) (c0:=a0) (c1:=a1) (c2:=a2) (c3:=a3) (by simp);go_wp2_with fail;refine (cD F hf.ok w1.heap.size a0 a1 a2 a3 ha _ KK.out).mono ?_
 rintro e w2 ⟨he,hbl⟩
 rw [show sI (aA a0 a1 a2 a3) F.M = true from decide_eq_true la] at he;subst he;have HM':=Lib.hid (HM.out.on hbl);have KK':=Lib.hid (KK.out.same hbl);have zk:=KK'.out.lt;clear HM KK hbl M1;have HM:=HM';have KK:=KK';clear HM' KK';clear x0 x1 x2 x3 xl zk;have kr:=HM.out.row (b:=w.heap.size) (c0:=a0) (c1:=a1) (c2:=a2) (c3:=a3) (by simp);have x0:=kr.c0; have x1:=kr.c1; have x2:=kr.c2; have x3:=kr.c3;clear kr;have xl:=HM.out.lt (b:=w.heap.size) (c0:=a0) (c1:=a1) (c2:=a2) (c3:=a3) (by simp);have hE:=HE.out;go_wp2_with fail;clear hE x0 x1 x2 x3 xl;refine (vR f F hf _).mono ?_
 rintro e w3 ⟨T,H,c0,c1,c2,c3,rfl,hc,hT1,hT2,hMT,hcyc,hbl⟩
 have HMT:=Lib.hid hMT;have HCY:=Lib.hid hcyc;clear hMT hcyc;have HM':=Lib.hid (HM.out.on hbl);have KK':=Lib.hid (KK.out.same hbl);have zk:=KK'.out.lt;clear HM KK hbl;have HM:=HM';have KK:=KK';clear HM' KK';clear zk;have wz : w1.heap.size < w3.heap.size:=KK.out.lt;have HM':=Lib.hid (HM.out.new w3.heap.size c0 c1 c2 c3 24 rfl);have KK':=Lib.hid (KK.out.same ((Below.refl _ _).alloc (Nat.le_refl _) (.cells #[.int .u64 c0,.int .u64 c1,.int .u64 c2,.int .u64 c3] 24)));clear HM KK;have HM:=HM';have KK:=KK';clear HM' KK';clear HE hG
 go_upto_region 7 with fail
 go_cut [10,11] (fun s10 s11 wx => ∃ gb s0 s1 s2 s3 : Nat,s10 = .pointer (some ⟨gb,0,none⟩) ∧ s11 = .bool true ∧ aY s0 s1 s2 s3 ∧ Hid (∃ R,aA s0 s1 s2 s3 = kp F R ∧ R * R % F.M = aA a0 a1 a2 a3 % F.M) ∧ Hid (Mem w wx [(gb,s0,s1,s2,s3),(w.heap.size + 1,0,0,0,0)]) ∧ Hid (KIs wx w1.heap.size F))
 case first =>
  obtain ⟨gr,hroot⟩:=hf.root;have HRo:=Lib.hid hroot;clear hroot;refine bR (fun wx => Mem w wx [(w3.heap.size,c0,c1,c2,c3),(w.heap.size + 1,0,0,0,0),(w.heap.size,a0,a1,a2,a3)] ∧ KIs wx w1.heap.size F) 11 (by kernel_rfl) ?_;have HM':=Lib.hid (HM.out.drewN 1);have KK':=Lib.hid (KK.out.drewN 1);clear HM KK;have HM:=HM';have KK:=KK';clear HM' KK';have HS:=And.intro (HM.out.sub (rs':=[(w3.heap.size,c0,c1,c2,c3),(w.heap.size + 1,0,0,0,0),(w.heap.size,a0,a1,a2,a3)]) (by simp)) KK.out;refine aE (i:=0) (v:=.agg #[.int .u64 a0,.int .u64 a1,.int .u64 a2,.int .u64 a3]) rfl (by kernel_rfl) (by kernel_rfl) (by kernel_rfl) (by kernel_rfl) (fun _ _ _ h => h) HS (Or.inl ⟨by kernel_rfl,fun wx hx => ?_⟩) ?_
  ·have kr:=hx.1.row (b:=w.heap.size) (c0:=a0) (c1:=a1) (c2:=a2) (c3:=a3) (by simp);have x0:=kr.c0; have x1:=kr.c1; have x2:=kr.c2; have x3:=kr.c3;clear kr HS hx;go_simp
  simp only [Act.put,List.setIfInBounds_toArray,List.set_cons_zero,List.set_cons_succ];refine aE (i:=2) (v:=.int .i64 (T : Nat)) rfl (by kernel_rfl) (by kernel_rfl) (by kernel_rfl) (by kernel_rfl) (fun _ _ _ h => h) HS (Or.inl ⟨by kernel_rfl,fun wx hx => ?_⟩) ?_
  ·clear HS hx;go_simp
  simp only [Act.put,List.setIfInBounds_toArray,List.set_cons_zero,List.set_cons_succ];refine aE (i:=3) (v:=.agg #[.int .u64 c0,.int .u64 c1,.int .u64 c2,.int .u64 c3]) rfl (by kernel_rfl) (by kernel_rfl) (by kernel_rfl) (by kernel_rfl) (fun _ _ _ h => h) HS (Or.inl ⟨by kernel_rfl,fun wx hx => ?_⟩) ?_
  ·have kr:=hx.1.row (b:=w3.heap.size) (c0:=c0) (c1:=c1) (c2:=c2) (c3:=c3) (by simp);have x0:=kr.c0; have x1:=kr.c1; have x2:=kr.c2; have x3:=kr.c3;clear kr HS hx;go_simp
  simp only [Act.put,List.setIfInBounds_toArray,List.set_cons_zero,List.set_cons_succ];clear HS;refine cW (i:=1) (j:=9) (by kernel_rfl) rfl rfl (fun K hK => ?_) (fun K hK => ?_)
  ·go_simp;refine (cI F hf.ok w1.heap.size a0 a1 a2 a3 ha _ KK.out).mono ?_
   rintro e v1 ⟨i0,i1,i2,i3,rfl,hi,hv,hbl⟩
   have HVi:=Lib.hid hv;clear hv;have HM':=Lib.hid (HM.out.on hbl);have KK':=Lib.hid (KK.out.same hbl);clear HM KK hbl;have HM:=HM';have KK:=KK';clear HM' KK';have HS:=And.intro (HM.out.sub (rs':=[(w3.heap.size,c0,c1,c2,c3),(w.heap.size + 1,0,0,0,0),(w.heap.size,a0,a1,a2,a3)]) (by simp)) KK.out;refine hK.out _ _ (Or.inr HS) (fun _ => ?_);clear hK K HS;refine cW (i:=4) (j:=9) (by kernel_rfl) rfl rfl (fun K hK => ?_) (fun K hK => ?_)
   ·go_simp;refine (cI F hf.ok w1.heap.size c0 c1 c2 c3 hc _ KK.out).mono ?_
    rintro e v2 ⟨j0,j1,j2,j3,rfl,hj,hv,hbl⟩
    have HVj:=Lib.hid hv;clear hv;have HM':=Lib.hid (HM.out.on hbl);have KK':=Lib.hid (KK.out.same hbl);clear HM KK hbl;have HM:=HM';have KK:=KK';clear HM' KK';have HS:=And.intro (HM.out.sub (rs':=[(w3.heap.size,c0,c1,c2,c3),(w.heap.size + 1,0,0,0,0),(w.heap.size,a0,a1,a2,a3)]) (by simp)) KK.out;refine hK.out _ _ (Or.inr HS) (fun _ => ?_);clear hK K HS;refine cW (i:=5) (j:=9) (by kernel_rfl) rfl rfl (fun K hK => ?_) (fun K hK => ?_)
    ·go_simp;refine (rH F hf.ok gr HRo.out (aA a0 a1 a2 a3) H T (aA c0 c1 c2 c3) w1.heap.size i0 i1 i2 i3 j0 j1 j2 j3 hi hj HVi.out HVj.out hT1 hT2 HMT.out HCY.out HS2.out _ KK.out).mono ?_
     rintro e v3 ⟨s0,s1,s2,s3,R,rfl,hs,hv,hRR,hbl⟩
     have HVs:=Lib.hid (show ∃ R,aA s0 s1 s2 s3 = kp F R ∧ R * R % F.M = aA a0 a1 a2 a3 % F.M from ⟨R,hv,hRR⟩);clear hv hRR;have HM':=Lib.hid (HM.out.on hbl);have KK':=Lib.hid (KK.out.same hbl);clear HM KK hbl;have HM:=HM';have KK:=KK';clear HM' KK';have HS:=And.intro (HM.out.sub (rs':=[(w3.heap.size,c0,c1,c2,c3),(w.heap.size + 1,0,0,0,0),(w.heap.size,a0,a1,a2,a3)]) (by simp)) KK.out;refine hK.out _ _ (Or.inr HS) (fun _ => ?_);clear hK K HS;have HS:=And.intro (HM.out.sub (rs':=[(w3.heap.size,c0,c1,c2,c3),(w.heap.size + 1,0,0,0,0),(w.heap.size,a0,a1,a2,a3)]) (by simp)) KK.out;refine aE (i:=6) (v:=.tuple #[.agg #[.int .u64 s0,.int .u64 s1,.int .u64 s2,.int .u64 s3],.bool true]) rfl (by kernel_rfl) (by kernel_rfl) (by kernel_rfl) (by kernel_rfl) (fun _ _ _ h => h) HS (Or.inl ⟨by kernel_rfl,fun wx hx => ?_⟩) ?_
     ·clear HS hx;go_simp
     simp only [Act.put,List.setIfInBounds_toArray,List.set_cons_zero,List.set_cons_succ];refine aE (i:=7) (v:=.agg #[.int .u64 s0,.int .u64 s1,.int .u64 s2,.int .u64 s3]) rfl (by kernel_rfl) (by kernel_rfl) (by kernel_rfl) (by kernel_rfl) (fun _ _ _ h => h) HS (Or.inl ⟨by kernel_rfl,fun wx hx => ?_⟩) ?_
     ·clear HS hx;go_simp
     simp only [Act.put,List.setIfInBounds_toArray,List.set_cons_zero,List.set_cons_succ];refine aE (i:=8) (v:=.bool true) rfl (by kernel_rfl) (by kernel_rfl) (by kernel_rfl) (by kernel_rfl) (fun _ _ _ h => h) HS (Or.inl ⟨by kernel_rfl,fun wx hx => ?_⟩) ?_
     ·clear HS hx;go_simp
     simp only [Act.put,List.setIfInBounds_toArray,List.set_cons_zero,List.set_cons_succ];clear HS;refine aF (i:=9) (by kernel_rfl) rfl (fun K hK => ?_);go_simp;have HM9:=HM;have KK9:=KK;have HM':=Lib.hid (HM.out.new (v3.heap.size) 0 0 0 0 127 (by first | rfl | (simp; done)));have KK':=Lib.hid (KK.out.same ((Below.refl _ _).alloc (Nat.le_refl _) (.cells #[.int .u64 (0 : Nat),.int .u64 (0 : Nat),.int .u64 (0 : Nat),.int .u64 (0 : Nat)] 127)));have hgk : w1.heap.size < (v3.heap.size):=by first | omega | exact KK.out.lt | (have:=KK.out.lt; simpa using this)
     have hgc : w3.heap.size < (v3.heap.size):=by first | omega | exact HM.out.lt (b:=w3.heap.size) (c0:=c0) (c1:=c1) (c2:=c2) (c3:=c3) (by simp)
     have hga : w.heap.size + 1 < (v3.heap.size):=by omega
     clear HM KK;have HM:=HM';have KK:=KK';clear HM' KK';have HS:=And.intro (HM.out.sub (rs':=[(w3.heap.size,c0,c1,c2,c3),(w.heap.size + 1,0,0,0,0),(w.heap.size,a0,a1,a2,a3)]) (by simp)) KK.out;refine hK.out _ _ (Or.inr HS) (fun _ => ?_);clear hK K HS;have kr:=HM.out.row (b:=(v3.heap.size)) (c0:=0) (c1:=0) (c2:=0) (c3:=0) (by simp);have yl:=HM.out.lt (b:=(v3.heap.size)) (c0:=0) (c1:=0) (c2:=0) (c3:=0) (by simp);have y0:=kr.c0; have y1:=kr.c1; have y2:=kr.c2; have y3:=kr.c3; have yf:=kr.fr;clear kr;refine aF (i:=10) (by kernel_rfl) rfl (fun K hK => ?_);go_simp;have HM':=Lib.hid (HM9.out.new (v3.heap.size) s0 s1 s2 s3 127 (by first | rfl | (simp; done)));have KK':=Lib.hid (KK9.out.same ((Below.refl _ _).alloc (Nat.le_refl _) (.cells #[.int .u64 s0,.int .u64 s1,.int .u64 s2,.int .u64 s3] 127)));clear HM KK;have HM:=HM';have KK:=KK';clear HM' KK';have HS:=And.intro (HM.out.sub (rs':=[(w3.heap.size,c0,c1,c2,c3),(w.heap.size + 1,0,0,0,0),(w.heap.size,a0,a1,a2,a3)]) (by simp)) KK.out;refine hK.out _ _ (Or.inr HS) (fun _ => ?_);clear hK K HS;refine aF (i:=11) (by kernel_rfl) rfl (fun K hK => ?_);go_simp;refine hK.out _ _ (Or.inl rfl) (fun _ => ?_);clear hK K;refine bE (by kernel_rfl) ?_;go_wp2_with fail
     go_meet
     exact ⟨(v3.heap.size),s0,s1,s2,s3,rfl,rfl,hs,HVs,Lib.hid (HM.out.sub (by simp)),KK⟩
    ·go_simp;have HM9:=HM;have KK9:=KK;have HM':=Lib.hid (HM.out.new (v2.heap.size) 0 0 0 0 127 (by first | rfl | (simp; done)));have KK':=Lib.hid (KK.out.same ((Below.refl _ _).alloc (Nat.le_refl _) (.cells #[.int .u64 (0 : Nat),.int .u64 (0 : Nat),.int .u64 (0 : Nat),.int .u64 (0 : Nat)] 127)));have hgk : w1.heap.size < (v2.heap.size):=by first | omega | exact KK.out.lt | (have:=KK.out.lt; simpa using this)
     have hgc : w3.heap.size < (v2.heap.size):=by first | omega | exact HM.out.lt (b:=w3.heap.size) (c0:=c0) (c1:=c1) (c2:=c2) (c3:=c3) (by simp)
     have hga : w.heap.size + 1 < (v2.heap.size):=by omega
     clear HM KK;have HM:=HM';have KK:=KK';clear HM' KK';have HS:=And.intro (HM.out.sub (rs':=[(w3.heap.size,c0,c1,c2,c3),(w.heap.size + 1,0,0,0,0),(w.heap.size,a0,a1,a2,a3)]) (by simp)) KK.out;refine hK.out _ _ (Or.inr HS) (fun _ => ?_);clear hK K HS;refine aF (i:=5) (by kernel_rfl) rfl (fun K hK => ?_);go_simp;refine (rH F hf.ok gr HRo.out (aA a0 a1 a2 a3) H T (aA c0 c1 c2 c3) w1.heap.size i0 i1 i2 i3 j0 j1 j2 j3 hi hj HVi.out HVj.out hT1 hT2 HMT.out HCY.out HS2.out _ KK.out).mono ?_
     rintro e v3 ⟨s0,s1,s2,s3,R,rfl,hs,hv,hRR,hbl⟩
     have HVs:=Lib.hid (show ∃ R,aA s0 s1 s2 s3 = kp F R ∧ R * R % F.M = aA a0 a1 a2 a3 % F.M from ⟨R,hv,hRR⟩);clear hv hRR;have HM':=Lib.hid (HM.out.on hbl);have KK':=Lib.hid (KK.out.same hbl);clear HM KK hbl;have HM:=HM';have KK:=KK';clear HM' KK';have HS:=And.intro (HM.out.sub (rs':=[(w3.heap.size,c0,c1,c2,c3),(w.heap.size + 1,0,0,0,0),(w.heap.size,a0,a1,a2,a3)]) (by simp)) KK.out;refine hK.out _ _ (Or.inr HS) (fun _ => ?_);clear hK K HS;have HS:=And.intro (HM.out.sub (rs':=[(w3.heap.size,c0,c1,c2,c3),(w.heap.size + 1,0,0,0,0),(w.heap.size,a0,a1,a2,a3)]) (by simp)) KK.out;refine aE (i:=6) (v:=.tuple #[.agg #[.int .u64 s0,.int .u64 s1,.int .u64 s2,.int .u64 s3],.bool true]) rfl (by kernel_rfl) (by kernel_rfl) (by kernel_rfl) (by kernel_rfl) (fun _ _ _ h => h) HS (Or.inl ⟨by kernel_rfl,fun wx hx => ?_⟩) ?_
     ·clear HS hx;go_simp
     simp only [Act.put,List.setIfInBounds_toArray,List.set_cons_zero,List.set_cons_succ];refine aE (i:=7) (v:=.agg #[.int .u64 s0,.int .u64 s1,.int .u64 s2,.int .u64 s3]) rfl (by kernel_rfl) (by kernel_rfl) (by kernel_rfl) (by kernel_rfl) (fun _ _ _ h => h) HS (Or.inl ⟨by kernel_rfl,fun wx hx => ?_⟩) ?_
     ·clear HS hx;go_simp
     simp only [Act.put,List.setIfInBounds_toArray,List.set_cons_zero,List.set_cons_succ];refine aE (i:=8) (v:=.bool true) rfl (by kernel_rfl) (by kernel_rfl) (by kernel_rfl) (by kernel_rfl) (fun _ _ _ h => h) HS (Or.inl ⟨by kernel_rfl,fun wx hx => ?_⟩) ?_
     ·clear HS hx;go_simp
     simp only [Act.put,List.setIfInBounds_toArray,List.set_cons_zero,List.set_cons_succ];clear HS;have kr:=HM.out.row (b:=(v2.heap.size)) (c0:=0) (c1:=0) (c2:=0) (c3:=0) (by simp);have yl:=HM.out.lt (b:=(v2.heap.size)) (c0:=0) (c1:=0) (c2:=0) (c3:=0) (by simp);have y0:=kr.c0; have y1:=kr.c1; have y2:=kr.c2; have y3:=kr.c3; have yf:=kr.fr;clear kr;refine aF (i:=10) (by kernel_rfl) rfl (fun K hK => ?_);go_simp;have HM':=Lib.hid (HM.out.put s0 s1 s2 s3 (by omega) (by intro r hr; simp at hr; rcases hr with rfl | rfl | rfl <;> simp <;> omega));have KK':=Lib.hid (KK.out.set4 (d:=(v2.heap.size)) (by omega) s0 s1 s2 s3);clear HM KK;have HM:=HM';have KK:=KK';clear HM' KK';have HS:=And.intro (HM.out.sub (rs':=[(w3.heap.size,c0,c1,c2,c3),(w.heap.size + 1,0,0,0,0),(w.heap.size,a0,a1,a2,a3)]) (by simp)) KK.out;refine hK.out _ _ (Or.inr HS) (fun _ => ?_);clear hK K HS;refine aF (i:=11) (by kernel_rfl) rfl (fun K hK => ?_);go_simp;refine hK.out _ _ (Or.inl rfl) (fun _ => ?_);clear hK K;refine bE (by kernel_rfl) ?_;go_wp2_with fail
     go_meet
     exact ⟨(v2.heap.size),s0,s1,s2,s3,rfl,rfl,hs,HVs,Lib.hid (HM.out.sub (by simp)),KK⟩
   ·go_simp;have HM9:=HM;have KK9:=KK;have HM':=Lib.hid (HM.out.new (v1.heap.size) 0 0 0 0 127 (by first | rfl | (simp; done)));have KK':=Lib.hid (KK.out.same ((Below.refl _ _).alloc (Nat.le_refl _) (.cells #[.int .u64 (0 : Nat),.int .u64 (0 : Nat),.int .u64 (0 : Nat),.int .u64 (0 : Nat)] 127)));have hgk : w1.heap.size < (v1.heap.size):=by first | omega | exact KK.out.lt | (have:=KK.out.lt; simpa using this)
    have hgc : w3.heap.size < (v1.heap.size):=by first | omega | exact HM.out.lt (b:=w3.heap.size) (c0:=c0) (c1:=c1) (c2:=c2) (c3:=c3) (by simp)
    have hga : w.heap.size + 1 < (v1.heap.size):=by omega
    clear HM KK;have HM:=HM';have KK:=KK';clear HM' KK';have HS:=And.intro (HM.out.sub (rs':=[(w3.heap.size,c0,c1,c2,c3),(w.heap.size + 1,0,0,0,0),(w.heap.size,a0,a1,a2,a3)]) (by simp)) KK.out;refine hK.out _ _ (Or.inr HS) (fun _ => ?_);clear hK K HS;refine aF (i:=4) (by kernel_rfl) rfl (fun K hK => ?_);go_simp;refine (cI F hf.ok w1.heap.size c0 c1 c2 c3 hc _ KK.out).mono ?_
    rintro e v2 ⟨j0,j1,j2,j3,rfl,hj,hv,hbl⟩
    have HVj:=Lib.hid hv;clear hv;have HM':=Lib.hid (HM.out.on hbl);have KK':=Lib.hid (KK.out.same hbl);clear HM KK hbl;have HM:=HM';have KK:=KK';clear HM' KK';have HS:=And.intro (HM.out.sub (rs':=[(w3.heap.size,c0,c1,c2,c3),(w.heap.size + 1,0,0,0,0),(w.heap.size,a0,a1,a2,a3)]) (by simp)) KK.out;refine hK.out _ _ (Or.inr HS) (fun _ => ?_);clear hK K HS;refine aF (i:=5) (by kernel_rfl) rfl (fun K hK => ?_);go_simp;refine (rH F hf.ok gr HRo.out (aA a0 a1 a2 a3) H T (aA c0 c1 c2 c3) w1.heap.size i0 i1 i2 i3 j0 j1 j2 j3 hi hj HVi.out HVj.out hT1 hT2 HMT.out HCY.out HS2.out _ KK.out).mono ?_
    rintro e v3 ⟨s0,s1,s2,s3,R,rfl,hs,hv,hRR,hbl⟩
    have HVs:=Lib.hid (show ∃ R,aA s0 s1 s2 s3 = kp F R ∧ R * R % F.M = aA a0 a1 a2 a3 % F.M from ⟨R,hv,hRR⟩);clear hv hRR;have HM':=Lib.hid (HM.out.on hbl);have KK':=Lib.hid (KK.out.same hbl);clear HM KK hbl;have HM:=HM';have KK:=KK';clear HM' KK';have HS:=And.intro (HM.out.sub (rs':=[(w3.heap.size,c0,c1,c2,c3),(w.heap.size + 1,0,0,0,0),(w.heap.size,a0,a1,a2,a3)]) (by simp)) KK.out;refine hK.out _ _ (Or.inr HS) (fun _ => ?_);clear hK K HS;have HS:=And.intro (HM.out.sub (rs':=[(w3.heap.size,c0,c1,c2,c3),(w.heap.size + 1,0,0,0,0),(w.heap.size,a0,a1,a2,a3)]) (by simp)) KK.out;refine aE (i:=6) (v:=.tuple #[.agg #[.int .u64 s0,.int .u64 s1,.int .u64 s2,.int .u64 s3],.bool true]) rfl (by kernel_rfl) (by kernel_rfl) (by kernel_rfl) (by kernel_rfl) (fun _ _ _ h => h) HS (Or.inl ⟨by kernel_rfl,fun wx hx => ?_⟩) ?_
    ·clear HS hx;go_simp
    simp only [Act.put,List.setIfInBounds_toArray,List.set_cons_zero,List.set_cons_succ];refine aE (i:=7) (v:=.agg #[.int .u64 s0,.int .u64 s1,.int .u64 s2,.int .u64 s3]) rfl (by kernel_rfl) (by kernel_rfl) (by kernel_rfl) (by kernel_rfl) (fun _ _ _ h => h) HS (Or.inl ⟨by kernel_rfl,fun wx hx => ?_⟩) ?_
    ·clear HS hx;go_simp
    simp only [Act.put,List.setIfInBounds_toArray,List.set_cons_zero,List.set_cons_succ];refine aE (i:=8) (v:=.bool true) rfl (by kernel_rfl) (by kernel_rfl) (by kernel_rfl) (by kernel_rfl) (fun _ _ _ h => h) HS (Or.inl ⟨by kernel_rfl,fun wx hx => ?_⟩) ?_
    ·clear HS hx;go_simp
    simp only [Act.put,List.setIfInBounds_toArray,List.set_cons_zero,List.set_cons_succ];clear HS;have kr:=HM.out.row (b:=(v1.heap.size)) (c0:=0) (c1:=0) (c2:=0) (c3:=0) (by simp);have yl:=HM.out.lt (b:=(v1.heap.size)) (c0:=0) (c1:=0) (c2:=0) (c3:=0) (by simp);have y0:=kr.c0; have y1:=kr.c1; have y2:=kr.c2; have y3:=kr.c3; have yf:=kr.fr;clear kr;refine aF (i:=10) (by kernel_rfl) rfl (fun K hK => ?_);go_simp;have HM':=Lib.hid (HM.out.put s0 s1 s2 s3 (by omega) (by intro r hr; simp at hr; rcases hr with rfl | rfl | rfl <;> simp <;> omega));have KK':=Lib.hid (KK.out.set4 (d:=(v1.heap.size)) (by omega) s0 s1 s2 s3);clear HM KK;have HM:=HM';have KK:=KK';clear HM' KK';have HS:=And.intro (HM.out.sub (rs':=[(w3.heap.size,c0,c1,c2,c3),(w.heap.size + 1,0,0,0,0),(w.heap.size,a0,a1,a2,a3)]) (by simp)) KK.out;refine hK.out _ _ (Or.inr HS) (fun _ => ?_);clear hK K HS;refine aF (i:=11) (by kernel_rfl) rfl (fun K hK => ?_);go_simp;refine hK.out _ _ (Or.inl rfl) (fun _ => ?_);clear hK K;refine bE (by kernel_rfl) ?_;go_wp2_with fail
    go_meet
    exact ⟨(v1.heap.size),s0,s1,s2,s3,rfl,rfl,hs,HVs,Lib.hid (HM.out.sub (by simp)),KK⟩
  ·go_simp;have HM9:=HM;have KK9:=KK;have HM':=Lib.hid (HM.out.new (w3.heap.size + 1) 0 0 0 0 127 (by first | rfl | (simp; done)));have KK':=Lib.hid (KK.out.same ((Below.refl _ _).alloc (Nat.le_refl _) (.cells #[.int .u64 (0 : Nat),.int .u64 (0 : Nat),.int .u64 (0 : Nat),.int .u64 (0 : Nat)] 127)));have hgk : w1.heap.size < (w3.heap.size + 1):=by first | omega | exact KK.out.lt | (have:=KK.out.lt; simpa using this)
   have hgc : w3.heap.size < (w3.heap.size + 1):=by first | omega | exact HM.out.lt (b:=w3.heap.size) (c0:=c0) (c1:=c1) (c2:=c2) (c3:=c3) (by simp)
   have hga : w.heap.size + 1 < (w3.heap.size + 1):=by omega
   clear HM KK;have HM:=HM';have KK:=KK';clear HM' KK';have HS:=And.intro (HM.out.sub (rs':=[(w3.heap.size,c0,c1,c2,c3),(w.heap.size + 1,0,0,0,0),(w.heap.size,a0,a1,a2,a3)]) (by simp)) KK.out;refine hK.out _ _ (Or.inr HS) (fun _ => ?_);clear hK K HS;refine aF (i:=1) (by kernel_rfl) rfl (fun K hK => ?_);go_simp;refine (cI F hf.ok w1.heap.size a0 a1 a2 a3 ha _ KK.out).mono ?_
   rintro e v1 ⟨i0,i1,i2,i3,rfl,hi,hv,hbl⟩
   have HVi:=Lib.hid hv;clear hv;have HM':=Lib.hid (HM.out.on hbl);have KK':=Lib.hid (KK.out.same hbl);clear HM KK hbl;have HM:=HM';have KK:=KK';clear HM' KK';have HS:=And.intro (HM.out.sub (rs':=[(w3.heap.size,c0,c1,c2,c3),(w.heap.size + 1,0,0,0,0),(w.heap.size,a0,a1,a2,a3)]) (by simp)) KK.out;refine hK.out _ _ (Or.inr HS) (fun _ => ?_);clear hK K HS;refine aF (i:=4) (by kernel_rfl) rfl (fun K hK => ?_);go_simp;refine (cI F hf.ok w1.heap.size c0 c1 c2 c3 hc _ KK.out).mono ?_
   rintro e v2 ⟨j0,j1,j2,j3,rfl,hj,hv,hbl⟩
   have HVj:=Lib.hid hv;clear hv;have HM':=Lib.hid (HM.out.on hbl);have KK':=Lib.hid (KK.out.same hbl);clear HM KK hbl;have HM:=HM';have KK:=KK';clear HM' KK';have HS:=And.intro (HM.out.sub (rs':=[(w3.heap.size,c0,c1,c2,c3),(w.heap.size + 1,0,0,0,0),(w.heap.size,a0,a1,a2,a3)]) (by simp)) KK.out;refine hK.out _ _ (Or.inr HS) (fun _ => ?_);clear hK K HS;refine aF (i:=5) (by kernel_rfl) rfl (fun K hK => ?_);go_simp;refine (rH F hf.ok gr HRo.out (aA a0 a1 a2 a3) H T (aA c0 c1 c2 c3) w1.heap.size i0 i1 i2 i3 j0 j1 j2 j3 hi hj HVi.out HVj.out hT1 hT2 HMT.out HCY.out HS2.out _ KK.out).mono ?_
   rintro e v3 ⟨s0,s1,s2,s3,R,rfl,hs,hv,hRR,hbl⟩
   have HVs:=Lib.hid (show ∃ R,aA s0 s1 s2 s3 = kp F R ∧ R * R % F.M = aA a0 a1 a2 a3 % F.M from ⟨R,hv,hRR⟩);clear hv hRR;have HM':=Lib.hid (HM.out.on hbl);have KK':=Lib.hid (KK.out.same hbl);clear HM KK hbl;have HM:=HM';have KK:=KK';clear HM' KK';have HS:=And.intro (HM.out.sub (rs':=[(w3.heap.size,c0,c1,c2,c3),(w.heap.size + 1,0,0,0,0),(w.heap.size,a0,a1,a2,a3)]) (by simp)) KK.out;refine hK.out _ _ (Or.inr HS) (fun _ => ?_);clear hK K HS;have HS:=And.intro (HM.out.sub (rs':=[(w3.heap.size,c0,c1,c2,c3),(w.heap.size + 1,0,0,0,0),(w.heap.size,a0,a1,a2,a3)]) (by simp)) KK.out;refine aE (i:=6) (v:=.tuple #[.agg #[.int .u64 s0,.int .u64 s1,.int .u64 s2,.int .u64 s3],.bool true]) rfl (by kernel_rfl) (by kernel_rfl) (by kernel_rfl) (by kernel_rfl) (fun _ _ _ h => h) HS (Or.inl ⟨by kernel_rfl,fun wx hx => ?_⟩) ?_
   ·clear HS hx;go_simp
   simp only [Act.put,List.setIfInBounds_toArray,List.set_cons_zero,List.set_cons_succ];refine aE (i:=7) (v:=.agg #[.int .u64 s0,.int .u64 s1,.int .u64 s2,.int .u64 s3]) rfl (by kernel_rfl) (by kernel_rfl) (by kernel_rfl) (by kernel_rfl) (fun _ _ _ h => h) HS (Or.inl ⟨by kernel_rfl,fun wx hx => ?_⟩) ?_
   ·clear HS hx;go_simp
   simp only [Act.put,List.setIfInBounds_toArray,List.set_cons_zero,List.set_cons_succ];refine aE (i:=8) (v:=.bool true) rfl (by kernel_rfl) (by kernel_rfl) (by kernel_rfl) (by kernel_rfl) (fun _ _ _ h => h) HS (Or.inl ⟨by kernel_rfl,fun wx hx => ?_⟩) ?_
   ·clear HS hx;go_simp
   simp only [Act.put,List.setIfInBounds_toArray,List.set_cons_zero,List.set_cons_succ];clear HS;have kr:=HM.out.row (b:=(w3.heap.size + 1)) (c0:=0) (c1:=0) (c2:=0) (c3:=0) (by simp);have yl:=HM.out.lt (b:=(w3.heap.size + 1)) (c0:=0) (c1:=0) (c2:=0) (c3:=0) (by simp);have y0:=kr.c0; have y1:=kr.c1; have y2:=kr.c2; have y3:=kr.c3; have yf:=kr.fr;clear kr;refine aF (i:=10) (by kernel_rfl) rfl (fun K hK => ?_);go_simp;have HM':=Lib.hid (HM.out.put s0 s1 s2 s3 (by omega) (by intro r hr; simp at hr; rcases hr with rfl | rfl | rfl <;> simp <;> omega));have KK':=Lib.hid (KK.out.set4 (d:=(w3.heap.size + 1)) (by omega) s0 s1 s2 s3);clear HM KK;have HM:=HM';have KK:=KK';clear HM' KK';have HS:=And.intro (HM.out.sub (rs':=[(w3.heap.size,c0,c1,c2,c3),(w.heap.size + 1,0,0,0,0),(w.heap.size,a0,a1,a2,a3)]) (by simp)) KK.out;refine hK.out _ _ (Or.inr HS) (fun _ => ?_);clear hK K HS;refine aF (i:=11) (by kernel_rfl) rfl (fun K hK => ?_);go_simp;refine hK.out _ _ (Or.inl rfl) (fun _ => ?_);clear hK K;refine bE (by kernel_rfl) ?_;go_wp2_with fail
   go_meet
   exact ⟨(w3.heap.size + 1),s0,s1,s2,s3,rfl,rfl,hs,HVs,Lib.hid (HM.out.sub (by simp)),KK⟩
 case rest =>
  obtain ⟨gb,s0,s1,s2,s3,rfl,rfl,hs,HVs,HM',KK'⟩:=hcut;clear HM KK;have HM:=HM';have KK:=KK';clear HM' KK';obtain ⟨R,hR1,hR2⟩:=HVs.out;have HR1:=Lib.hid hR1;have HR2:=Lib.hid hR2;clear hR1 hR2 HVs;have kr:=HM.out.row (b:=gb) (c0:=s0) (c1:=s1) (c2:=s2) (c3:=s3) (by simp);have x0:=kr.c0; have x1:=kr.c1; have x2:=kr.c2; have x3:=kr.c3;clear kr;have xl:=HM.out.lt (b:=gb) (c0:=s0) (c1:=s1) (c2:=s2) (c3:=s3) (by simp);go_wp2_with fail;refine (DU F hf.ok w1.heap.size s0 s1 s2 s3 hs _ KK.out).mono ?_
  rintro e w5 ⟨u0,u1,u2,u3,rfl,hu,hv,hbl⟩
  have HVu:=Lib.hid (show aA u0 u1 u2 u3 = R % F.M by rw [hv,HR1.out,← fS,JF hf.ok _ (Nat.mod_lt _ hf.ok.pos)]);have lu : aA u0 u1 u2 u3 < F.M:=by rw [HVu.out]; exact Nat.mod_lt _ hf.ok.pos
  have HQ:=Lib.hid (show aA u0 u1 u2 u3 * aA u0 u1 u2 u3 % F.M = aA a0 a1 a2 a3 by rw [HVu.out,← Nat.mul_mod,HR2.out,Nat.mod_eq_of_lt la]);clear hv;have HM':=Lib.hid (HM.out.on hbl);have KK':=Lib.hid (KK.out.same hbl);have zk:=KK'.out.lt;clear HM KK hbl;have HM:=HM';have KK:=KK';clear HM' KK';have Hlu:=Lib.hid lu;clear lu zk x0 x1 x2 x3 xl;have wz5 : w1.heap.size < w5.heap.size:=KK.out.lt;have wz6 : w.heap.size + 1 < w5.heap.size:=HM.out.lt (b:=w.heap.size + 1) (c0:=0) (c1:=0) (c2:=0) (c3:=0) (by simp);have HM':=Lib.hid ((HM.out.new w5.heap.size u0 u1 u2 u3 24 rfl).sub (rs':=[(w5.heap.size,u0,u1,u2,u3),(w.heap.size + 1,0,0,0,0)]) (by simp));have KK':=Lib.hid (KK.out.same ((Below.refl _ _).alloc (Nat.le_refl _) (.cells #[.int .u64 u0,.int .u64 u1,.int .u64 u2,.int .u64 u3] 24)));clear HM KK;have HM:=HM';have KK:=KK';clear HM' KK';go_wp2_with fail;refine (pQ F hf.ok w1.heap.size u0 u1 u2 u3 hu Hlu.out _ KK.out).mono ?_
  rintro e w6 ⟨he,hbl⟩
  have HM':=Lib.hid (HM.out.on hbl);have KK':=Lib.hid (KK.out.same hbl);clear HM KK hbl;have HM:=HM';have KK:=KK';clear HM' KK';cases q : fV F.M (aA u0 u1 u2 u3)
  ·rw [q] at he;subst he;have HQ2:=Lib.hid q;clear q;have kr:=HM.out.row (b:=w5.heap.size) (c0:=u0) (c1:=u1) (c2:=u2) (c3:=u3) (by simp);have x0:=kr.c0; have x1:=kr.c1; have x2:=kr.c2; have x3:=kr.c3;clear kr;have xl:=HM.out.lt (b:=w5.heap.size) (c0:=u0) (c1:=u1) (c2:=u2) (c3:=u3) (by simp);go_wp2_with fail;refine (kW F hf.ok w1.heap.size 0 0 0 0 u0 u1 u2 u3 vW hu hf.ok.pos Hlu.out _ KK.out).mono ?_
   rintro e w7 ⟨n0,n1,n2,n3,rfl,hn,hv,hbl⟩
   have HVn:=Lib.hid hv;clear hv;have HM':=Lib.hid (HM.out.on hbl);have KK':=Lib.hid (KK.out.same hbl);have zk:=KK'.out.lt;clear HM KK hbl;have HM:=HM';have KK:=KK';clear HM' KK';clear zk x0 x1 x2 x3 xl;have kr:=HM.out.row (b:=w5.heap.size) (c0:=u0) (c1:=u1) (c2:=u2) (c3:=u3) (by simp);have x0:=kr.c0; have x1:=kr.c1; have x2:=kr.c2; have x3:=kr.c3; have xf:=kr.fr;clear kr;have xl:=HM.out.lt (b:=w5.heap.size) (c0:=u0) (c1:=u1) (c2:=u2) (c3:=u3) (by simp);have kr:=HM.out.row (b:=w.heap.size + 1) (c0:=0) (c1:=0) (c2:=0) (c3:=0) (by simp);have y0:=kr.c0; have y1:=kr.c1; have y2:=kr.c2; have y3:=kr.c3; have yf:=kr.fr;clear kr;have yl:=HM.out.lt (b:=w.heap.size + 1) (c0:=0) (c1:=0) (c2:=0) (c3:=0) (by simp);have HM':=Lib.hid (HM.out.put n0 n1 n2 n3 (by omega) (by intro r hr; simp at hr; rcases hr with rfl; simp; omega));have ne1 : ¬ w.heap.size + 1 = w5.heap.size:=by omega
   clear HM;have HM:=HM';clear HM';go_wp2_with fail;refine bodyPost_ret (v:=.tuple #[.agg #[.int .u64 n0,.int .u64 n1,.int .u64 n2,.int .u64 n3],.int .i64 0]) (by simp [results,results84,go_sem, *]) rfl ?_;obtain ⟨v1,v2,v3⟩:=mI hf.ok Hlu.out HQ2.out;refine ⟨_,⟨_,_,_,_,rfl,hn,HVn.out,?_⟩,?_,v2,v3⟩
   ·have HB:=HM.out.1;unfold set4 at HB;exact aL HB (by omega) _ _ _ _
   ·rw [show aA 0 0 0 0 = 0 from rfl,v1,HQ.out]
  ·rw [q] at he;subst he;have HQ2:=Lib.hid q;clear q;have kr:=HM.out.row (b:=w5.heap.size) (c0:=u0) (c1:=u1) (c2:=u2) (c3:=u3) (by simp);have x0:=kr.c0; have x1:=kr.c1; have x2:=kr.c2; have x3:=kr.c3;clear kr;have xl:=HM.out.lt (b:=w5.heap.size) (c0:=u0) (c1:=u1) (c2:=u2) (c3:=u3) (by simp);have kr:=HM.out.row (b:=w.heap.size + 1) (c0:=0) (c1:=0) (c2:=0) (c3:=0) (by simp);have y0:=kr.c0; have y1:=kr.c1; have y2:=kr.c2; have y3:=kr.c3; have yf:=kr.fr;clear kr;have yl:=HM.out.lt (b:=w.heap.size + 1) (c0:=0) (c1:=0) (c2:=0) (c3:=0) (by simp);go_wp2_with fail;refine bodyPost_ret (v:=.tuple #[.agg #[.int .u64 u0,.int .u64 u1,.int .u64 u2,.int .u64 u3],.int .i64 0]) (by simp [results,results84,go_sem, *]) rfl ?_;refine ⟨_,⟨_,_,_,_,rfl,hu,rfl,?_⟩,HQ.out,Hlu.out,HQ2.out⟩;exact aL HM.out.1 (by omega) _ _ _ _
set_option maxHeartbeats 2000000 in
theorem vO (f : Int) (F : FC) (hf : FieldIs f F) (a0 a1 a2 a3 : Nat) (ha : aY a0 a1 a2 a3) (la : aA a0 a1 a2 a3 < F.M) (hz : aA a0 a1 a2 a3 ≠ 0) (hs2 : aA a0 a1 a2 a3 ^ (F.M / 2) % F.M ≠ 1) (w : World) :
  Calls prog 84 #[.int .i64 f,.agg #[.int .u64 a0,.int .u64 a1,.int .u64 a2,.int .u64 a3]] w (LM 23 0 w):=by
 have HE:=Lib.hid (show ∀ w,(Op.equalIn 10000 24 (.agg #[.int .u64 a0,.int .u64 a1,.int .u64 a2,.int .u64 a3]) (.agg #[.int .u64 0,.int .u64 0,.int .u64 0,.int .u64 0])).run prog w = .ok false w from fun w => by
  have h:=kG 9998 a0 a1 a2 a3 0 0 0 0 w;rw [show CH a0 a1 a2 a3 0 0 0 0 = false from lV (fun q => hz (((fC ha vW).1 q).trans rfl))] at h;exact h)
 have hG:=lW;have HS2:=Lib.hid hs2;have HZ:=Lib.hid hz;clear hz hs2
 go_enter func84,ntmps84
 go_wp2_with fail;refine (cK f F hf _).mono ?_
 rintro e w1 ⟨rfl,hbl⟩
 have M1:=(((Mem.nil w).new (w.heap.size) a0 a1 a2 a3 24 (by simp)).new (w.heap.size + 1) 0 0 0 0 24 (by simp)).on hbl;clear hbl;have z0 : w.heap.size < w1.heap.size:=M1.lt (c0:=a0) (c1:=a1) (c2:=a2) (c3:=a3) (by simp);have z1 : w.heap.size + 1 < w1.heap.size:=M1.lt (c0:=0) (c1:=0) (c2:=0) (c3:=0) (by simp);have HM:=Lib.hid (M1.on ((Below.refl _ _).alloc (Nat.le_refl _) (.cells #[.int .u64 F.m0,.int .u64 F.m1,.int .u64 F.m2,.int .u64 F.m3,.int .u64 F.inv,.int .u64 F.s0,.int .u64 F.s1,.int .u64 F.s2,.int .u64 F.s3] 129)));have KK:=Lib.hid (KIs.new w1 F 129);have kr:=M1.row (b:=w.heap.size) (c0:=a0) (c1:=a1) (c2:=a2) (c3:=a3) (by simp);have x0:=kr.c0; have x1:=kr.c1; have x2:=kr.c2; have x3:=kr.c3;clear kr;have xl:=M1.lt (b:=w.heap.size) (c0:=a0) (c1:=a1) (c2:=a2) (c3:=a3) (by simp);go_wp2_with fail;refine (cD F hf.ok w1.heap.size a0 a1 a2 a3 ha _ KK.out).mono ?_
 rintro e w2 ⟨he,hbl⟩
 rw [show sI (aA a0 a1 a2 a3) F.M = true from decide_eq_true la] at he;subst he;have HM':=Lib.hid (HM.out.on hbl);have KK':=Lib.hid (KK.out.same hbl);have zk:=KK'.out.lt;clear HM KK hbl M1;have HM:=HM';have KK:=KK';clear HM' KK';clear x0 x1 x2 x3 xl zk;have kr:=HM.out.row (b:=w.heap.size) (c0:=a0) (c1:=a1) (c2:=a2) (c3:=a3) (by simp);have x0:=kr.c0; have x1:=kr.c1; have x2:=kr.c2; have x3:=kr.c3;clear kr;have xl:=HM.out.lt (b:=w.heap.size) (c0:=a0) (c1:=a1) (c2:=a2) (c3:=a3) (by simp);have hE:=HE.out;go_wp2_with fail;clear hE x0 x1 x2 x3 xl;refine (vR f F hf _).mono ?_
 rintro e w3 ⟨T,H,c0,c1,c2,c3,rfl,hc,hT1,hT2,hMT,hcyc,hbl⟩
 have HMT:=Lib.hid hMT;have HCY:=Lib.hid hcyc;clear hMT hcyc;have HM':=Lib.hid (HM.out.on hbl);have KK':=Lib.hid (KK.out.same hbl);have zk:=KK'.out.lt;clear HM KK hbl;have HM:=HM';have KK:=KK';clear HM' KK';clear zk;have wz : w1.heap.size < w3.heap.size:=KK.out.lt;have HM':=Lib.hid (HM.out.new w3.heap.size c0 c1 c2 c3 24 rfl);have KK':=Lib.hid (KK.out.same ((Below.refl _ _).alloc (Nat.le_refl _) (.cells #[.int .u64 c0,.int .u64 c1,.int .u64 c2,.int .u64 c3] 24)));clear HM KK;have HM:=HM';have KK:=KK';clear HM' KK';clear HE hG
 go_upto_region 7 with fail
 go_cut [10,11] (fun s10 s11 wx => ∃ gb s0 s1 s2 s3 : Nat,s10 = .pointer (some ⟨gb,0,none⟩) ∧ s11 = .bool false ∧ aY s0 s1 s2 s3 ∧ True ∧ Hid (Mem w wx [(gb,s0,s1,s2,s3),(w.heap.size + 1,0,0,0,0)]) ∧ Hid (KIs wx w1.heap.size F))
 case first =>
  obtain ⟨gr,hroot⟩:=hf.root;have HRo:=Lib.hid hroot;clear hroot;refine bR (fun wx => Mem w wx [(w3.heap.size,c0,c1,c2,c3),(w.heap.size + 1,0,0,0,0),(w.heap.size,a0,a1,a2,a3)] ∧ KIs wx w1.heap.size F) 11 (by kernel_rfl) ?_;have HM':=Lib.hid (HM.out.drewN 1);have KK':=Lib.hid (KK.out.drewN 1);clear HM KK;have HM:=HM';have KK:=KK';clear HM' KK';have HS:=And.intro (HM.out.sub (rs':=[(w3.heap.size,c0,c1,c2,c3),(w.heap.size + 1,0,0,0,0),(w.heap.size,a0,a1,a2,a3)]) (by simp)) KK.out;refine aE (i:=0) (v:=.agg #[.int .u64 a0,.int .u64 a1,.int .u64 a2,.int .u64 a3]) rfl (by kernel_rfl) (by kernel_rfl) (by kernel_rfl) (by kernel_rfl) (fun _ _ _ h => h) HS (Or.inl ⟨by kernel_rfl,fun wx hx => ?_⟩) ?_
  ·have kr:=hx.1.row (b:=w.heap.size) (c0:=a0) (c1:=a1) (c2:=a2) (c3:=a3) (by simp);have x0:=kr.c0; have x1:=kr.c1; have x2:=kr.c2; have x3:=kr.c3;clear kr HS hx;go_simp
  simp only [Act.put,List.setIfInBounds_toArray,List.set_cons_zero,List.set_cons_succ];refine aE (i:=2) (v:=.int .i64 (T : Nat)) rfl (by kernel_rfl) (by kernel_rfl) (by kernel_rfl) (by kernel_rfl) (fun _ _ _ h => h) HS (Or.inl ⟨by kernel_rfl,fun wx hx => ?_⟩) ?_
  ·clear HS hx;go_simp
  simp only [Act.put,List.setIfInBounds_toArray,List.set_cons_zero,List.set_cons_succ];refine aE (i:=3) (v:=.agg #[.int .u64 c0,.int .u64 c1,.int .u64 c2,.int .u64 c3]) rfl (by kernel_rfl) (by kernel_rfl) (by kernel_rfl) (by kernel_rfl) (fun _ _ _ h => h) HS (Or.inl ⟨by kernel_rfl,fun wx hx => ?_⟩) ?_
  ·have kr:=hx.1.row (b:=w3.heap.size) (c0:=c0) (c1:=c1) (c2:=c2) (c3:=c3) (by simp);have x0:=kr.c0; have x1:=kr.c1; have x2:=kr.c2; have x3:=kr.c3;clear kr HS hx;go_simp
  simp only [Act.put,List.setIfInBounds_toArray,List.set_cons_zero,List.set_cons_succ];clear HS;refine cW (i:=1) (j:=9) (by kernel_rfl) rfl rfl (fun K hK => ?_) (fun K hK => ?_)
  ·go_simp;refine (cI F hf.ok w1.heap.size a0 a1 a2 a3 ha _ KK.out).mono ?_
   rintro e v1 ⟨i0,i1,i2,i3,rfl,hi,hv,hbl⟩
   have HVi:=Lib.hid hv;clear hv;have HM':=Lib.hid (HM.out.on hbl);have KK':=Lib.hid (KK.out.same hbl);clear HM KK hbl;have HM:=HM';have KK:=KK';clear HM' KK';have HS:=And.intro (HM.out.sub (rs':=[(w3.heap.size,c0,c1,c2,c3),(w.heap.size + 1,0,0,0,0),(w.heap.size,a0,a1,a2,a3)]) (by simp)) KK.out;refine hK.out _ _ (Or.inr HS) (fun _ => ?_);clear hK K HS;refine cW (i:=4) (j:=9) (by kernel_rfl) rfl rfl (fun K hK => ?_) (fun K hK => ?_)
   ·go_simp;refine (cI F hf.ok w1.heap.size c0 c1 c2 c3 hc _ KK.out).mono ?_
    rintro e v2 ⟨j0,j1,j2,j3,rfl,hj,hv,hbl⟩
    have HVj:=Lib.hid hv;clear hv;have HM':=Lib.hid (HM.out.on hbl);have KK':=Lib.hid (KK.out.same hbl);clear HM KK hbl;have HM:=HM';have KK:=KK';clear HM' KK';have HS:=And.intro (HM.out.sub (rs':=[(w3.heap.size,c0,c1,c2,c3),(w.heap.size + 1,0,0,0,0),(w.heap.size,a0,a1,a2,a3)]) (by simp)) KK.out;refine hK.out _ _ (Or.inr HS) (fun _ => ?_);clear hK K HS;refine cW (i:=5) (j:=9) (by kernel_rfl) rfl rfl (fun K hK => ?_) (fun K hK => ?_)
    ·go_simp;refine (wT F hf.ok gr HRo.out (aA a0 a1 a2 a3) H T (aA c0 c1 c2 c3) w1.heap.size i0 i1 i2 i3 j0 j1 j2 j3 hi hj HVi.out HVj.out hT1 hT2 HMT.out HS2.out _ KK.out).mono ?_
     rintro e v3 ⟨rfl,hbl⟩
     have HM':=Lib.hid (HM.out.on hbl);have KK':=Lib.hid (KK.out.same hbl);clear HM KK hbl;have HM:=HM';have KK:=KK';clear HM' KK';have HS:=And.intro (HM.out.sub (rs':=[(w3.heap.size,c0,c1,c2,c3),(w.heap.size + 1,0,0,0,0),(w.heap.size,a0,a1,a2,a3)]) (by simp)) KK.out;refine hK.out _ _ (Or.inr HS) (fun _ => ?_);clear hK K HS;have HS:=And.intro (HM.out.sub (rs':=[(w3.heap.size,c0,c1,c2,c3),(w.heap.size + 1,0,0,0,0),(w.heap.size,a0,a1,a2,a3)]) (by simp)) KK.out;refine aE (i:=6) (v:=.tuple #[.agg #[.int .u64 0,.int .u64 0,.int .u64 0,.int .u64 0],.bool false]) rfl (by kernel_rfl) (by kernel_rfl) (by kernel_rfl) (by kernel_rfl) (fun _ _ _ h => h) HS (Or.inl ⟨by kernel_rfl,fun wx hx => ?_⟩) ?_
     ·clear HS hx;go_simp
     simp only [Act.put,List.setIfInBounds_toArray,List.set_cons_zero,List.set_cons_succ];refine aE (i:=7) (v:=.agg #[.int .u64 0,.int .u64 0,.int .u64 0,.int .u64 0]) rfl (by kernel_rfl) (by kernel_rfl) (by kernel_rfl) (by kernel_rfl) (fun _ _ _ h => h) HS (Or.inl ⟨by kernel_rfl,fun wx hx => ?_⟩) ?_
     ·clear HS hx;go_simp
     simp only [Act.put,List.setIfInBounds_toArray,List.set_cons_zero,List.set_cons_succ];refine aE (i:=8) (v:=.bool false) rfl (by kernel_rfl) (by kernel_rfl) (by kernel_rfl) (by kernel_rfl) (fun _ _ _ h => h) HS (Or.inl ⟨by kernel_rfl,fun wx hx => ?_⟩) ?_
     ·clear HS hx;go_simp
     simp only [Act.put,List.setIfInBounds_toArray,List.set_cons_zero,List.set_cons_succ];clear HS;refine aF (i:=9) (by kernel_rfl) rfl (fun K hK => ?_);go_simp;have HM9:=HM;have KK9:=KK;have HM':=Lib.hid (HM.out.new (v3.heap.size) 0 0 0 0 127 (by first | rfl | (simp; done)));have KK':=Lib.hid (KK.out.same ((Below.refl _ _).alloc (Nat.le_refl _) (.cells #[.int .u64 (0 : Nat),.int .u64 (0 : Nat),.int .u64 (0 : Nat),.int .u64 (0 : Nat)] 127)));have hgk : w1.heap.size < (v3.heap.size):=by first | omega | exact KK.out.lt | (have:=KK.out.lt; simpa using this)
     have hgc : w3.heap.size < (v3.heap.size):=by first | omega | exact HM.out.lt (b:=w3.heap.size) (c0:=c0) (c1:=c1) (c2:=c2) (c3:=c3) (by simp)
     have hga : w.heap.size + 1 < (v3.heap.size):=by omega
     clear HM KK;have HM:=HM';have KK:=KK';clear HM' KK';have HS:=And.intro (HM.out.sub (rs':=[(w3.heap.size,c0,c1,c2,c3),(w.heap.size + 1,0,0,0,0),(w.heap.size,a0,a1,a2,a3)]) (by simp)) KK.out;refine hK.out _ _ (Or.inr HS) (fun _ => ?_);clear hK K HS;have kr:=HM.out.row (b:=(v3.heap.size)) (c0:=0) (c1:=0) (c2:=0) (c3:=0) (by simp);have yl:=HM.out.lt (b:=(v3.heap.size)) (c0:=0) (c1:=0) (c2:=0) (c3:=0) (by simp);have y0:=kr.c0; have y1:=kr.c1; have y2:=kr.c2; have y3:=kr.c3; have yf:=kr.fr;clear kr;refine aF (i:=10) (by kernel_rfl) rfl (fun K hK => ?_);go_simp;have HM':=Lib.hid (HM9.out.new (v3.heap.size) 0 0 0 0 127 (by first | rfl | (simp; done)));have KK':=Lib.hid (KK9.out.same ((Below.refl _ _).alloc (Nat.le_refl _) (.cells #[.int .u64 0,.int .u64 0,.int .u64 0,.int .u64 0] 127)));clear HM KK;have HM:=HM';have KK:=KK';clear HM' KK';have HS:=And.intro (HM.out.sub (rs':=[(w3.heap.size,c0,c1,c2,c3),(w.heap.size + 1,0,0,0,0),(w.heap.size,a0,a1,a2,a3)]) (by simp)) KK.out;refine hK.out _ _ (Or.inr HS) (fun _ => ?_);clear hK K HS;refine aF (i:=11) (by kernel_rfl) rfl (fun K hK => ?_);go_simp;refine hK.out _ _ (Or.inl rfl) (fun _ => ?_);clear hK K;refine bE (by kernel_rfl) ?_;go_wp2_with fail
     go_meet
     exact ⟨(v3.heap.size),0,0,0,0,rfl,rfl,vW,trivial,Lib.hid (HM.out.sub (by simp)),KK⟩
    ·go_simp;have HM9:=HM;have KK9:=KK;have HM':=Lib.hid (HM.out.new (v2.heap.size) 0 0 0 0 127 (by first | rfl | (simp; done)));have KK':=Lib.hid (KK.out.same ((Below.refl _ _).alloc (Nat.le_refl _) (.cells #[.int .u64 (0 : Nat),.int .u64 (0 : Nat),.int .u64 (0 : Nat),.int .u64 (0 : Nat)] 127)));have hgk : w1.heap.size < (v2.heap.size):=by first | omega | exact KK.out.lt | (have:=KK.out.lt; simpa using this)
     have hgc : w3.heap.size < (v2.heap.size):=by first | omega | exact HM.out.lt (b:=w3.heap.size) (c0:=c0) (c1:=c1) (c2:=c2) (c3:=c3) (by simp)
     have hga : w.heap.size + 1 < (v2.heap.size):=by omega
     clear HM KK;have HM:=HM';have KK:=KK';clear HM' KK';have HS:=And.intro (HM.out.sub (rs':=[(w3.heap.size,c0,c1,c2,c3),(w.heap.size + 1,0,0,0,0),(w.heap.size,a0,a1,a2,a3)]) (by simp)) KK.out;refine hK.out _ _ (Or.inr HS) (fun _ => ?_);clear hK K HS;refine aF (i:=5) (by kernel_rfl) rfl (fun K hK => ?_);go_simp;refine (wT F hf.ok gr HRo.out (aA a0 a1 a2 a3) H T (aA c0 c1 c2 c3) w1.heap.size i0 i1 i2 i3 j0 j1 j2 j3 hi hj HVi.out HVj.out hT1 hT2 HMT.out HS2.out _ KK.out).mono ?_
     rintro e v3 ⟨rfl,hbl⟩
     have HM':=Lib.hid (HM.out.on hbl);have KK':=Lib.hid (KK.out.same hbl);clear HM KK hbl;have HM:=HM';have KK:=KK';clear HM' KK';have HS:=And.intro (HM.out.sub (rs':=[(w3.heap.size,c0,c1,c2,c3),(w.heap.size + 1,0,0,0,0),(w.heap.size,a0,a1,a2,a3)]) (by simp)) KK.out;refine hK.out _ _ (Or.inr HS) (fun _ => ?_);clear hK K HS;have HS:=And.intro (HM.out.sub (rs':=[(w3.heap.size,c0,c1,c2,c3),(w.heap.size + 1,0,0,0,0),(w.heap.size,a0,a1,a2,a3)]) (by simp)) KK.out;refine aE (i:=6) (v:=.tuple #[.agg #[.int .u64 0,.int .u64 0,.int .u64 0,.int .u64 0],.bool false]) rfl (by kernel_rfl) (by kernel_rfl) (by kernel_rfl) (by kernel_rfl) (fun _ _ _ h => h) HS (Or.inl ⟨by kernel_rfl,fun wx hx => ?_⟩) ?_
     ·clear HS hx;go_simp
     simp only [Act.put,List.setIfInBounds_toArray,List.set_cons_zero,List.set_cons_succ];refine aE (i:=7) (v:=.agg #[.int .u64 0,.int .u64 0,.int .u64 0,.int .u64 0]) rfl (by kernel_rfl) (by kernel_rfl) (by kernel_rfl) (by kernel_rfl) (fun _ _ _ h => h) HS (Or.inl ⟨by kernel_rfl,fun wx hx => ?_⟩) ?_
     ·clear HS hx;go_simp
     simp only [Act.put,List.setIfInBounds_toArray,List.set_cons_zero,List.set_cons_succ];refine aE (i:=8) (v:=.bool false) rfl (by kernel_rfl) (by kernel_rfl) (by kernel_rfl) (by kernel_rfl) (fun _ _ _ h => h) HS (Or.inl ⟨by kernel_rfl,fun wx hx => ?_⟩) ?_
     ·clear HS hx;go_simp
     simp only [Act.put,List.setIfInBounds_toArray,List.set_cons_zero,List.set_cons_succ];clear HS;have kr:=HM.out.row (b:=(v2.heap.size)) (c0:=0) (c1:=0) (c2:=0) (c3:=0) (by simp);have yl:=HM.out.lt (b:=(v2.heap.size)) (c0:=0) (c1:=0) (c2:=0) (c3:=0) (by simp);have y0:=kr.c0; have y1:=kr.c1; have y2:=kr.c2; have y3:=kr.c3; have yf:=kr.fr;clear kr;refine aF (i:=10) (by kernel_rfl) rfl (fun K hK => ?_);go_simp;have HM':=Lib.hid (HM.out.put 0 0 0 0 (by omega) (by intro r hr; simp at hr; rcases hr with rfl | rfl | rfl <;> simp <;> omega));have KK':=Lib.hid (KK.out.set4 (d:=(v2.heap.size)) (by omega) 0 0 0 0);clear HM KK;have HM:=HM';have KK:=KK';clear HM' KK';have HS:=And.intro (HM.out.sub (rs':=[(w3.heap.size,c0,c1,c2,c3),(w.heap.size + 1,0,0,0,0),(w.heap.size,a0,a1,a2,a3)]) (by simp)) KK.out;refine hK.out _ _ (Or.inr HS) (fun _ => ?_);clear hK K HS;refine aF (i:=11) (by kernel_rfl) rfl (fun K hK => ?_);go_simp;refine hK.out _ _ (Or.inl rfl) (fun _ => ?_);clear hK K;refine bE (by kernel_rfl) ?_;go_wp2_with fail
     go_meet
     exact ⟨(v2.heap.size),0,0,0,0,rfl,rfl,vW,trivial,Lib.hid (HM.out.sub (by simp)),KK⟩
   ·go_simp;have HM9:=HM;have KK9:=KK;have HM':=Lib.hid (HM.out.new (v1.heap.size) 0 0 0 0 127 (by first | rfl | (simp; done)));have KK':=Lib.hid (KK.out.same ((Below.refl _ _).alloc (Nat.le_refl _) (.cells #[.int .u64 (0 : Nat),.int .u64 (0 : Nat),.int .u64 (0 : Nat),.int .u64 (0 : Nat)] 127)));have hgk : w1.heap.size < (v1.heap.size):=by first | omega | exact KK.out.lt | (have:=KK.out.lt; simpa using this)
    have hgc : w3.heap.size < (v1.heap.size):=by first | omega | exact HM.out.lt (b:=w3.heap.size) (c0:=c0) (c1:=c1) (c2:=c2) (c3:=c3) (by simp)
    have hga : w.heap.size + 1 < (v1.heap.size):=by omega
    clear HM KK;have HM:=HM';have KK:=KK';clear HM' KK';have HS:=And.intro (HM.out.sub (rs':=[(w3.heap.size,c0,c1,c2,c3),(w.heap.size + 1,0,0,0,0),(w.heap.size,a0,a1,a2,a3)]) (by simp)) KK.out;refine hK.out _ _ (Or.inr HS) (fun _ => ?_);clear hK K HS;refine aF (i:=4) (by kernel_rfl) rfl (fun K hK => ?_);go_simp;refine (cI F hf.ok w1.heap.size c0 c1 c2 c3 hc _ KK.out).mono ?_
    rintro e v2 ⟨j0,j1,j2,j3,rfl,hj,hv,hbl⟩
    have HVj:=Lib.hid hv;clear hv;have HM':=Lib.hid (HM.out.on hbl);have KK':=Lib.hid (KK.out.same hbl);clear HM KK hbl;have HM:=HM';have KK:=KK';clear HM' KK';have HS:=And.intro (HM.out.sub (rs':=[(w3.heap.size,c0,c1,c2,c3),(w.heap.size + 1,0,0,0,0),(w.heap.size,a0,a1,a2,a3)]) (by simp)) KK.out;refine hK.out _ _ (Or.inr HS) (fun _ => ?_);clear hK K HS;refine aF (i:=5) (by kernel_rfl) rfl (fun K hK => ?_);go_simp;refine (wT F hf.ok gr HRo.out (aA a0 a1 a2 a3) H T (aA c0 c1 c2 c3) w1.heap.size i0 i1 i2 i3 j0 j1 j2 j3 hi hj HVi.out HVj.out hT1 hT2 HMT.out HS2.out _ KK.out).mono ?_
    rintro e v3 ⟨rfl,hbl⟩
    have HM':=Lib.hid (HM.out.on hbl);have KK':=Lib.hid (KK.out.same hbl);clear HM KK hbl;have HM:=HM';have KK:=KK';clear HM' KK';have HS:=And.intro (HM.out.sub (rs':=[(w3.heap.size,c0,c1,c2,c3),(w.heap.size + 1,0,0,0,0),(w.heap.size,a0,a1,a2,a3)]) (by simp)) KK.out;refine hK.out _ _ (Or.inr HS) (fun _ => ?_);clear hK K HS;have HS:=And.intro (HM.out.sub (rs':=[(w3.heap.size,c0,c1,c2,c3),(w.heap.size + 1,0,0,0,0),(w.heap.size,a0,a1,a2,a3)]) (by simp)) KK.out;refine aE (i:=6) (v:=.tuple #[.agg #[.int .u64 0,.int .u64 0,.int .u64 0,.int .u64 0],.bool false]) rfl (by kernel_rfl) (by kernel_rfl) (by kernel_rfl) (by kernel_rfl) (fun _ _ _ h => h) HS (Or.inl ⟨by kernel_rfl,fun wx hx => ?_⟩) ?_
    ·clear HS hx;go_simp
    simp only [Act.put,List.setIfInBounds_toArray,List.set_cons_zero,List.set_cons_succ];refine aE (i:=7) (v:=.agg #[.int .u64 0,.int .u64 0,.int .u64 0,.int .u64 0]) rfl (by kernel_rfl) (by kernel_rfl) (by kernel_rfl) (by kernel_rfl) (fun _ _ _ h => h) HS (Or.inl ⟨by kernel_rfl,fun wx hx => ?_⟩) ?_
    ·clear HS hx;go_simp
    simp only [Act.put,List.setIfInBounds_toArray,List.set_cons_zero,List.set_cons_succ];refine aE (i:=8) (v:=.bool false) rfl (by kernel_rfl) (by kernel_rfl) (by kernel_rfl) (by kernel_rfl) (fun _ _ _ h => h) HS (Or.inl ⟨by kernel_rfl,fun wx hx => ?_⟩) ?_
    ·clear HS hx;go_simp
    simp only [Act.put,List.setIfInBounds_toArray,List.set_cons_zero,List.set_cons_succ];clear HS;have kr:=HM.out.row (b:=(v1.heap.size)) (c0:=0) (c1:=0) (c2:=0) (c3:=0) (by simp);have yl:=HM.out.lt (b:=(v1.heap.size)) (c0:=0) (c1:=0) (c2:=0) (c3:=0) (by simp);have y0:=kr.c0; have y1:=kr.c1; have y2:=kr.c2; have y3:=kr.c3; have yf:=kr.fr;clear kr;refine aF (i:=10) (by kernel_rfl) rfl (fun K hK => ?_);go_simp;have HM':=Lib.hid (HM.out.put 0 0 0 0 (by omega) (by intro r hr; simp at hr; rcases hr with rfl | rfl | rfl <;> simp <;> omega));have KK':=Lib.hid (KK.out.set4 (d:=(v1.heap.size)) (by omega) 0 0 0 0);clear HM KK;have HM:=HM';have KK:=KK';clear HM' KK';have HS:=And.intro (HM.out.sub (rs':=[(w3.heap.size,c0,c1,c2,c3),(w.heap.size + 1,0,0,0,0),(w.heap.size,a0,a1,a2,a3)]) (by simp)) KK.out;refine hK.out _ _ (Or.inr HS) (fun _ => ?_);clear hK K HS;refine aF (i:=11) (by kernel_rfl) rfl (fun K hK => ?_);go_simp;refine hK.out _ _ (Or.inl rfl) (fun _ => ?_);clear hK K;refine bE (by kernel_rfl) ?_;go_wp2_with fail
    go_meet
    exact ⟨(v1.heap.size),0,0,0,0,rfl,rfl,vW,trivial,Lib.hid (HM.out.sub (by simp)),KK⟩
  ·go_simp;have HM9:=HM;have KK9:=KK;have HM':=Lib.hid (HM.out.new (w3.heap.size + 1) 0 0 0 0 127 (by first | rfl | (simp; done)));have KK':=Lib.hid (KK.out.same ((Below.refl _ _).alloc (Nat.le_refl _) (.cells #[.int .u64 (0 : Nat),.int .u64 (0 : Nat),.int .u64 (0 : Nat),.int .u64 (0 : Nat)] 127)));have hgk : w1.heap.size < (w3.heap.size + 1):=by first | omega | exact KK.out.lt | (have:=KK.out.lt; simpa using this)
   have hgc : w3.heap.size < (w3.heap.size + 1):=by first | omega | exact HM.out.lt (b:=w3.heap.size) (c0:=c0) (c1:=c1) (c2:=c2) (c3:=c3) (by simp)
   have hga : w.heap.size + 1 < (w3.heap.size + 1):=by omega
   clear HM KK;have HM:=HM';have KK:=KK';clear HM' KK';have HS:=And.intro (HM.out.sub (rs':=[(w3.heap.size,c0,c1,c2,c3),(w.heap.size + 1,0,0,0,0),(w.heap.size,a0,a1,a2,a3)]) (by simp)) KK.out;refine hK.out _ _ (Or.inr HS) (fun _ => ?_);clear hK K HS;refine aF (i:=1) (by kernel_rfl) rfl (fun K hK => ?_);go_simp;refine (cI F hf.ok w1.heap.size a0 a1 a2 a3 ha _ KK.out).mono ?_
   rintro e v1 ⟨i0,i1,i2,i3,rfl,hi,hv,hbl⟩
   have HVi:=Lib.hid hv;clear hv;have HM':=Lib.hid (HM.out.on hbl);have KK':=Lib.hid (KK.out.same hbl);clear HM KK hbl;have HM:=HM';have KK:=KK';clear HM' KK';have HS:=And.intro (HM.out.sub (rs':=[(w3.heap.size,c0,c1,c2,c3),(w.heap.size + 1,0,0,0,0),(w.heap.size,a0,a1,a2,a3)]) (by simp)) KK.out;refine hK.out _ _ (Or.inr HS) (fun _ => ?_);clear hK K HS;refine aF (i:=4) (by kernel_rfl) rfl (fun K hK => ?_);go_simp;refine (cI F hf.ok w1.heap.size c0 c1 c2 c3 hc _ KK.out).mono ?_
   rintro e v2 ⟨j0,j1,j2,j3,rfl,hj,hv,hbl⟩
   have HVj:=Lib.hid hv;clear hv;have HM':=Lib.hid (HM.out.on hbl);have KK':=Lib.hid (KK.out.same hbl);clear HM KK hbl;have HM:=HM';have KK:=KK';clear HM' KK';have HS:=And.intro (HM.out.sub (rs':=[(w3.heap.size,c0,c1,c2,c3),(w.heap.size + 1,0,0,0,0),(w.heap.size,a0,a1,a2,a3)]) (by simp)) KK.out;refine hK.out _ _ (Or.inr HS) (fun _ => ?_);clear hK K HS;refine aF (i:=5) (by kernel_rfl) rfl (fun K hK => ?_);go_simp;refine (wT F hf.ok gr HRo.out (aA a0 a1 a2 a3) H T (aA c0 c1 c2 c3) w1.heap.size i0 i1 i2 i3 j0 j1 j2 j3 hi hj HVi.out HVj.out hT1 hT2 HMT.out HS2.out _ KK.out).mono ?_
   rintro e v3 ⟨rfl,hbl⟩
   have HM':=Lib.hid (HM.out.on hbl);have KK':=Lib.hid (KK.out.same hbl);clear HM KK hbl;have HM:=HM';have KK:=KK';clear HM' KK';have HS:=And.intro (HM.out.sub (rs':=[(w3.heap.size,c0,c1,c2,c3),(w.heap.size + 1,0,0,0,0),(w.heap.size,a0,a1,a2,a3)]) (by simp)) KK.out;refine hK.out _ _ (Or.inr HS) (fun _ => ?_);clear hK K HS;have HS:=And.intro (HM.out.sub (rs':=[(w3.heap.size,c0,c1,c2,c3),(w.heap.size + 1,0,0,0,0),(w.heap.size,a0,a1,a2,a3)]) (by simp)) KK.out;refine aE (i:=6) (v:=.tuple #[.agg #[.int .u64 0,.int .u64 0,.int .u64 0,.int .u64 0],.bool false]) rfl (by kernel_rfl) (by kernel_rfl) (by kernel_rfl) (by kernel_rfl) (fun _ _ _ h => h) HS (Or.inl ⟨by kernel_rfl,fun wx hx => ?_⟩) ?_
   ·clear HS hx;go_simp
   simp only [Act.put,List.setIfInBounds_toArray,List.set_cons_zero,List.set_cons_succ];refine aE (i:=7) (v:=.agg #[.int .u64 0,.int .u64 0,.int .u64 0,.int .u64 0]) rfl (by kernel_rfl) (by kernel_rfl) (by kernel_rfl) (by kernel_rfl) (fun _ _ _ h => h) HS (Or.inl ⟨by kernel_rfl,fun wx hx => ?_⟩) ?_
   ·clear HS hx;go_simp
   simp only [Act.put,List.setIfInBounds_toArray,List.set_cons_zero,List.set_cons_succ];refine aE (i:=8) (v:=.bool false) rfl (by kernel_rfl) (by kernel_rfl) (by kernel_rfl) (by kernel_rfl) (fun _ _ _ h => h) HS (Or.inl ⟨by kernel_rfl,fun wx hx => ?_⟩) ?_
   ·clear HS hx;go_simp
   simp only [Act.put,List.setIfInBounds_toArray,List.set_cons_zero,List.set_cons_succ];clear HS;have kr:=HM.out.row (b:=(w3.heap.size + 1)) (c0:=0) (c1:=0) (c2:=0) (c3:=0) (by simp);have yl:=HM.out.lt (b:=(w3.heap.size + 1)) (c0:=0) (c1:=0) (c2:=0) (c3:=0) (by simp);have y0:=kr.c0; have y1:=kr.c1; have y2:=kr.c2; have y3:=kr.c3; have yf:=kr.fr;clear kr;refine aF (i:=10) (by kernel_rfl) rfl (fun K hK => ?_);go_simp;have HM':=Lib.hid (HM.out.put 0 0 0 0 (by omega) (by intro r hr; simp at hr; rcases hr with rfl | rfl | rfl <;> simp <;> omega));have KK':=Lib.hid (KK.out.set4 (d:=(w3.heap.size + 1)) (by omega) 0 0 0 0);clear HM KK;have HM:=HM';have KK:=KK';clear HM' KK';have HS:=And.intro (HM.out.sub (rs':=[(w3.heap.size,c0,c1,c2,c3),(w.heap.size + 1,0,0,0,0),(w.heap.size,a0,a1,a2,a3)]) (by simp)) KK.out;refine hK.out _ _ (Or.inr HS) (fun _ => ?_);clear hK K HS;refine aF (i:=11) (by kernel_rfl) rfl (fun K hK => ?_);go_simp;refine hK.out _ _ (Or.inl rfl) (fun _ => ?_);clear hK K;refine bE (by kernel_rfl) ?_;go_wp2_with fail
   go_meet
   exact ⟨(w3.heap.size + 1),0,0,0,0,rfl,rfl,vW,trivial,Lib.hid (HM.out.sub (by simp)),KK⟩
 case rest =>
  obtain ⟨gb,s0,s1,s2,s3,rfl,rfl,hs,_,HM',KK'⟩:=hcut;clear HM KK;have HM:=HM';have KK:=KK';clear HM' KK';have kr:=HM.out.row (b:=w.heap.size + 1) (c0:=0) (c1:=0) (c2:=0) (c3:=0) (by simp);have y0:=kr.c0; have y1:=kr.c1; have y2:=kr.c2; have y3:=kr.c3; have yf:=kr.fr;clear kr;have yl:=HM.out.lt (b:=w.heap.size + 1) (c0:=0) (c1:=0) (c2:=0) (c3:=0) (by simp);go_wp2_with fail;refine bodyPost_ret (v:=.tuple #[.agg #[.int .u64 0,.int .u64 0,.int .u64 0,.int .u64 0],.int .i64 23]) (by simp [results,results84,go_sem, *]) rfl ?_;refine ⟨_,_,_,_,rfl,vW,rfl,?_⟩;exact aL HM.out.1 (by omega) 0 0 0 0
set_option maxHeartbeats 2000000 in
theorem eR (f : Int) (F : FC) (hf : FieldIs f F) (w : World) : Calls prog 99 #[.int .i64 f] w fun e w' => e = .returned (.agg #[.int .u64 F.m0,.int .u64 F.m1,.int .u64 F.m2,.int .u64 F.m3]) ∧ Below w.heap.size w w':=by
 rcases hf with ⟨rfl,rfl⟩ | ⟨rfl,rfl⟩
 ·go_enter func99,ntmps99
  go_wp2_with fail;refine bodyPost_ret (v:=.agg #[.int .u64 FP.m0,.int .u64 FP.m1,.int .u64 FP.m2,.int .u64 FP.m3]) (by simp [results,results99,go_sem,FP]) rfl ?_;refine ⟨rfl,?_⟩
  repeat (first | exact Below.refl _ _ | refine Below.drew ?_ | refine Below.alloc ?_ (by first | (simp; done) | (simp; omega)) _ | refine Below.setCell ?_ (by simp) _)
 ·go_enter func99,ntmps99
  go_wp2_with fail;refine bodyPost_ret (v:=.agg #[.int .u64 FR.m0,.int .u64 FR.m1,.int .u64 FR.m2,.int .u64 FR.m3]) (by simp [results,results99,go_sem,FR]) rfl ?_;refine ⟨rfl,?_⟩
  repeat (first | exact Below.refl _ _ | refine Below.drew ?_ | refine Below.alloc ?_ (by first | (simp; done) | (simp; omega)) _ | refine Below.setCell ?_ (by simp) _)
section
variable {M g : Nat}
end
theorem Ef {s0 s1 s2 s3 t0 t1 t2 t3 : Nat} (hs : aY s0 s1 s2 s3) (ht : aY t0 t1 t2 t3) (h : aA s0 s1 s2 s3 = aA t0 t1 t2 t3) (w : World) : (Op.equalIn 10000 24 (.agg #[.int .u64 s0,.int .u64 s1,.int .u64 s2,.int .u64 s3]) (.agg #[.int .u64 t0,.int .u64 t1,.int .u64 t2,.int .u64 t3])).run prog w = .ok true w:=by
 have h':=kG 9998 s0 s1 s2 s3 t0 t1 t2 t3 w;rw [(fC hs ht).2 h] at h';exact h'
theorem Ww {s0 s1 s2 s3 t0 t1 t2 t3 : Nat} (hs : aY s0 s1 s2 s3) (ht : aY t0 t1 t2 t3) (h : aA s0 s1 s2 s3 ≠ aA t0 t1 t2 t3) (w : World) : (Op.equalIn 10000 24 (.agg #[.int .u64 s0,.int .u64 s1,.int .u64 s2,.int .u64 s3]) (.agg #[.int .u64 t0,.int .u64 t1,.int .u64 t2,.int .u64 t3])).run prog w = .ok false w:=by
 have h':=kG 9998 s0 s1 s2 s3 t0 t1 t2 t3 w;rw [lV (fun q => h ((fC hs ht).1 q))] at h';exact h'
theorem Wu {s0 s1 s2 s3 : Nat} (hs : aY s0 s1 s2 s3) (h : aA s0 s1 s2 s3 = 0) (w : World) : (Op.equalIn 10000 24 (.agg #[.int .u64 s0,.int .u64 s1,.int .u64 s2,.int .u64 s3]) (.agg #[.int .u64 0,.int .u64 0,.int .u64 0,.int .u64 0])).run prog w = .ok true w:=Ef hs vW (h.trans rfl) w
theorem Wv {s0 s1 s2 s3 : Nat} (hs : aY s0 s1 s2 s3) (h : aA s0 s1 s2 s3 ≠ 0) (w : World) : (Op.equalIn 10000 24 (.agg #[.int .u64 s0,.int .u64 s1,.int .u64 s2,.int .u64 s3]) (.agg #[.int .u64 0,.int .u64 0,.int .u64 0,.int .u64 0])).run prog w = .ok false w:=Ww hs vW (fun q => h (q.trans rfl)) w
theorem aDx {s0 s1 s2 s3 : Nat} (hs : aY s0 s1 s2 s3) (h : aA s0 s1 s2 s3 = 1) (w : World) : (Op.equalIn 10000 24 (.agg #[.int .u64 s0,.int .u64 s1,.int .u64 s2,.int .u64 s3]) (.agg #[.int .u64 1,.int .u64 0,.int .u64 0,.int .u64 0])).run prog w = .ok true w:=Ef hs (show aY 1 0 0 0 by unfold aY; decide) (h.trans rfl) w
theorem Bad1.ne {f c : Int} {A : Nat} (h : Bad1 f A c) : c ≠ 0:=by rcases h with ⟨_,_,h⟩ | ⟨_,_,_,h⟩ <;> omega
theorem Bad2.ne {f c : Int} {A B : Nat} (h : Bad2 f A B c) : c ≠ 0:=by
 rcases h with h | ⟨_,_,_,_,h⟩
 ·exact h.ne
 ·omega
theorem FieldIs.uniq {f : Int} {F G : FC} (h : FieldIs f F) (k : FieldIs f G) : F = G:=by
 rcases h with ⟨h,rfl⟩ | ⟨h,rfl⟩ <;> rcases k with ⟨k,rfl⟩ | ⟨k,rfl⟩ <;> first | rfl | omega
open Go.ChangeShapes Go.WideShapes Go.ChangeAt Go.RowKit
def CI (A : Nat → Nat → Nat) (j : Nat) : Nat:=aA (A j 0) (A j 1) (A j 2) (A j 3)
def okP (P : Nat → Nat) (j : Nat) : Prop:=aY (P (j * 4)) (P (j * 4 + 1)) (P (j * 4 + 2)) (P (j * 4 + 3))
set_option maxRecDepth 20000 in
set_option maxHeartbeats 4000000 in
theorem YJ (p : Option Addr) (cap b : Nat) (w : World) :
  Calls prog 195 #[.pointer (some ⟨b,0,none⟩),.slice p 0 cap] w fun e w' => e = .returned (.bool true) ∧ w' = w:=by
 go_enter func195,ntmps195
 go_wp2_with fail;refine wp_loop_rounds 2 ?_;rw [rounds_succ];go_wp2_with fail;go_ret;exact ⟨rfl,rfl⟩
def FIs (W : World) (o : Option Addr) (len : Nat) (A : Nat → Nat → Nat) : Prop:=len * 32 ≤ 140737488351232 ∧ LOk len A ∧ (0 < len → ∃ g off,o = some ⟨g,off,none⟩ ∧ g < W.heap.size ∧ LAt W g off len A)
theorem FIs.on {W w : World} {o : Option Addr} {len : Nat} {A : Nat → Nat → Nat} (h : FIs W o len A) (hb : Below W.heap.size W w) : FIs w o len A:=by
 refine ⟨h.1,h.2.1,fun hl => ?_⟩;obtain ⟨g,off,e,hg,hc⟩:=h.2.2 hl;exact ⟨g,off,e,Nat.lt_of_lt_of_le hg hb.size,hc.same (fun _ => hg) hb⟩
def SP (M : Nat) (len : Nat) (A : Nat → Nat → Nat) : Prop:=∀ k,k < len → CI A k < M
theorem AP (F : FC) (hF : F.Ok) (b : Nat) (o : Option Addr) (len cap : Nat) (A : Nat → Nat → Nat) (w : World) (hk : KIs w b F) (h : FIs w o len A) :
  Calls prog 195 #[.pointer (some ⟨b,0,none⟩),.slice o len cap] w fun e w' => (∃ t : Bool,e = .returned (.bool t) ∧ (t = true ↔ SP F.M len A)) ∧ Below w.heap.size w w':=by
 by_cases h0 : 0 < len
 ·obtain ⟨g,off,rfl,hg,hc⟩:=h.2.2 h0;exact JP F hF b g off len cap A h.2.1 (by have:=h.1; omega) w hk (fun _ => hg) hc
 ·obtain rfl : len = 0:=by omega
  refine (YJ o cap b w).mono ?_
  rintro e w' ⟨he,rfl⟩
  exact ⟨⟨true,he,fun _ k hk => absurd hk (by omega),fun _ => rfl⟩,Below.refl _ _⟩
def sR (M : Nat) (X Y : Nat → Nat) : Nat → Nat
 | 0 => 0
 | n + 1 => (sR M X Y n + X n * Y n) % M
theorem aDC {M : Nat} (h : 0 < M) (X Y : Nat → Nat) : ∀ n,sR M X Y n < M
 | 0 => h
 | n + 1 => Nat.mod_lt _ h
theorem Xa {F : FC} (hF : F.Ok) {s x y d : Nat} (h : s * F.R % F.M = d) : (s + x * y * F.Ri % F.M) % F.M * F.R % F.M = (d + x * y) % F.M:=by
 have e1 : (s + x * y * F.Ri % F.M) % F.M * F.R % F.M = (s * F.R + x * y * F.Ri * F.R) % F.M:=by
  rw [Nat.mod_mul_mod,Nat.add_mul,Nat.add_mod,Nat.mod_mul_mod,← Nat.add_mod]
 have e2 : x * y * F.Ri * F.R % F.M = x * y % F.M:=by rw [Nat.mul_right_comm]; exact jP hF _
 rw [e1,Nat.add_mod,h,e2,Nat.add_mod_mod]
set_option maxHeartbeats 4000000 in
theorem aDu (f : Int) (F : FC) (hf : FieldIs f F) (p q : Option Addr) (la ca lb cb : Nat) (A B : Nat → Nat → Nat) (h1 : la = lb) (h2 : la ≤ 65536) (ia : SP F.M la A) (ib : SP F.M lb B) (w : World) (hA : FIs w p la A) (hB : FIs w q lb B) :
  Calls prog 184 #[.int .i64 f,.slice p la ca,.slice q lb cb] w (LM 0 (sR F.M (CI A) (CI B) la) w):=by
 subst h1;have hok:=hf.ok;have hpos:=hf.ok.pos;have IA:=Lib.hid ia;have IB:=Lib.hid ib;clear ia ib;have HA:=Lib.hid hA;have HB:=Lib.hid hB;clear hA hB
 go_enter func184,ntmps184
 go_wp2_with fail;have HM:=Lib.hid ((Mem.nil w).new (w.heap.size) 0 0 0 0 24 (by simp));refine (cK f F hf _).mono ?_
 rintro e w1 ⟨rfl,hbl⟩
 have KK:=Lib.hid (KIs.new w1 F 129);have B1:=Lib.hid (HM.out.on hbl);clear HM hbl;have HM:=Lib.hid (show Mem w (w1.alloc (.cells #[.int .u64 F.m0,.int .u64 F.m1,.int .u64 F.m2,.int .u64 F.m3,.int .u64 F.inv,.int .u64 F.s0,.int .u64 F.s1,.int .u64 F.s2,.int .u64 F.s3] 129)) [(w.heap.size,0,0,0,0)] from B1.out.on ((Below.refl _ _).alloc (Nat.le_refl _) _));clear B1;have t1 : decide ((65536 : Int) < (la : Int)) = false:=decide_eq_false (by omega);go_wp2_with fail;refine (AP F hf.ok w1.heap.size p la ca A _ KK.out (HA.out.on HM.out.1)).mono ?_
 rintro e w2 ⟨⟨t,rfl,ht⟩,hbl⟩
 obtain rfl : t = true:=ht.2 IA.out;have KK':=Lib.hid (KK.out.same hbl);have HM':=Lib.hid (HM.out.on hbl);clear hbl KK ht;have KK:=KK';clear KK';clear HM;have HM:=HM';clear HM';go_wp2_with fail;refine (AP F hf.ok w1.heap.size q la cb B _ KK.out (HB.out.on HM.out.1)).mono ?_
 rintro e w3 ⟨⟨t,rfl,ht⟩,hbl⟩
 obtain rfl : t = true:=ht.2 IB.out;have KK':=Lib.hid (KK.out.same hbl);have HM':=Lib.hid (HM.out.on hbl);clear hbl KK ht;have KK:=KK';clear KK';clear HM;have HM:=HM';clear HM';go_wp2_with fail;have kl : w1.heap.size < w3.heap.size:=KK.out.lt;have ls : w.heap.size < w3.heap.size:=HM.out.lt (b:=w.heap.size) (c0:=0) (c1:=0) (c2:=0) (c3:=0) (by simp);have HM':=Lib.hid (HM.out.new w3.heap.size 0 0 0 0 24 rfl);have KK':=Lib.hid (KK.out.same ((Below.refl _ w3).alloc (Nat.le_refl _) (.cells #[.int .u64 (0 : Nat),.int .u64 (0 : Nat),.int .u64 (0 : Nat),.int .u64 (0 : Nat)] 24)));clear KK;have KK:=KK';clear KK';clear HM;have HM:=HM';clear HM';obtain ⟨W5,hW5⟩ : ∃ W5,W5 = (w3.alloc (.cells #[.int .u64 (0 : Nat),.int .u64 (0 : Nat),.int .u64 (0 : Nat),.int .u64 (0 : Nat)] 24)):=⟨_,rfl⟩
 obtain ⟨gs,hgs⟩ : ∃ gs,gs = w3.heap.size:=⟨_,rfl⟩
 rw [← hgs] at HM kl ls ⊢;clear hgs hW5 W5
 go_loopw [43] (fun t wr => ∃ (k s0 s1 s2 s3 : Nat),k ≤ la ∧ t = .int .i64 k ∧ aY s0 s1 s2 s3 ∧ Hid (aA s0 s1 s2 s3 < F.M ∧ aA s0 s1 s2 s3 * F.R % F.M = sR F.M (CI A) (CI B) k) ∧ Hid (Mem w wr [(gs,s0,s1,s2,s3),(w.heap.size,0,0,0,0)]) ∧ Hid (KIs wr w1.heap.size F)) (fun t _ => la - (intOf t).toNat)
 case atStart => exact ⟨0,0,0,0,0,Nat.zero_le _,rfl,vW,Lib.hid ⟨hpos,by rw [show aA 0 0 0 0 = 0 from rfl,Nat.zero_mul,Nat.zero_mod]; rfl⟩,HM,KK⟩
 case round =>
  clear HM KK;obtain ⟨k,s0,s1,s2,s3,hk,rfl,hs,HV,HM,KK⟩:=hrel
  by_cases hlt : k < la
  ·obtain ⟨g,off,rfl,hg,hla⟩:=HA.out.2.2 (by omega);obtain ⟨g2,off2,rfl,hg2,hlb⟩:=HB.out.2.2 (by omega);obtain ⟨a0,a1,a2,a3,e0,e1,e2,e3⟩ : ∃ a0 a1 a2 a3 : Nat,a0 = A k 0 ∧ a1 = A k 1 ∧ a2 = A k 2 ∧ a3 = A k 3:=⟨_,_,_,_,rfl,rfl,rfl,rfl⟩
   obtain ⟨b0,b1,b2,b3,d0,d1,d2,d3⟩ : ∃ b0 b1 b2 b3 : Nat,b0 = B k 0 ∧ b1 = B k 1 ∧ b2 = B k 2 ∧ b3 = B k 3:=⟨_,_,_,_,rfl,rfl,rfl,rfl⟩
   have hoka:=HA.out.2.1 k hlt;have hokb:=HB.out.2.1 k hlt;have hva : CI A k = aA a0 a1 a2 a3:=by unfold CI; rw [← e0,← e1,← e2,← e3]
   have hvb : CI B k = aA b0 b1 b2 b3:=by unfold CI; rw [← d0,← d1,← d2,← d3]
   have hlb' : aA b0 b1 b2 b3 < F.M:=by rw [← hvb]; exact IB.out k hlt
   rw [← e0,← e1,← e2,← e3] at hoka;rw [← d0,← d1,← d2,← d3] at hokb;have HCA:=Lib.hid (show ∀ wx,Below w.heap.size w wx → wx.cell? ⟨g,off + k * 4,none⟩ = some (.int .u64 (a0 : Nat)) ∧ wx.cell? ⟨g,off + k * 4 + 1,none⟩ = some (.int .u64 (a1 : Nat)) ∧ wx.cell? ⟨g,off + k * 4 + 2,none⟩ = some (.int .u64 (a2 : Nat)) ∧ wx.cell? ⟨g,off + k * 4 + 3,none⟩ = some (.int .u64 (a3 : Nat)) from fun wx hx => by
    have q:=(hla.same (fun _ => hg) hx) k hlt;rw [← e0,← e1,← e2,← e3] at q;exact q)
   have HCB:=Lib.hid (show ∀ wx,Below w.heap.size w wx → wx.cell? ⟨g2,off2 + k * 4,none⟩ = some (.int .u64 (b0 : Nat)) ∧ wx.cell? ⟨g2,off2 + k * 4 + 1,none⟩ = some (.int .u64 (b1 : Nat)) ∧ wx.cell? ⟨g2,off2 + k * 4 + 2,none⟩ = some (.int .u64 (b2 : Nat)) ∧ wx.cell? ⟨g2,off2 + k * 4 + 3,none⟩ = some (.int .u64 (b3 : Nat)) from fun wx hx => by
    have q:=(hlb.same (fun _ => hg2) hx) k hlt;rw [← d0,← d1,← d2,← d3] at q;exact q)
   have HO:=Lib.hid (And.intro hoka hokb);have HE:=Lib.hid (And.intro hva (And.intro hvb hlb'));clear e0 e1 e2 e3 d0 d1 d2 d3 hla hlb hoka hokb hva hvb hlb';go_wp2_with fail;refine bR (fun wx => Below wr.heap.size wr wx) 11 (by kernel_rfl) ?_;have HS:=aJ wr.heap.size wr 1;have H8:=Lib.hid HS;refine aE (i:=0) (v:=.agg #[.int .u64 s0,.int .u64 s1,.int .u64 s2,.int .u64 s3]) rfl (by kernel_rfl) (by kernel_rfl) (by kernel_rfl) (by kernel_rfl) (fun _ _ _ h => h) HS (Or.inl ⟨by kernel_rfl,fun wx hx => ?_⟩) ?_
   ·have kr:=(HM.out.on hx).row (b:=gs) (c0:=s0) (c1:=s1) (c2:=s2) (c3:=s3) (by simp);have x0:=kr.c0; have x1:=kr.c1; have x2:=kr.c2; have x3:=kr.c3;clear kr;clear HS hx;go_simp
   simp only [Act.put,List.setIfInBounds_toArray,List.set_cons_zero,List.set_cons_succ];refine aE (i:=1) (v:=.slice (some ⟨g,off,none⟩) la ca) rfl (by kernel_rfl) (by kernel_rfl) (by kernel_rfl) (by kernel_rfl) (fun _ _ _ h => h) HS (Or.inl ⟨by kernel_rfl,fun wx hx => ?_⟩) ?_
   ·clear HS hx;go_simp
   simp only [Act.put,List.setIfInBounds_toArray,List.set_cons_zero,List.set_cons_succ];refine aE (i:=2) (v:=.int .i64 k) rfl (by kernel_rfl) (by kernel_rfl) (by kernel_rfl) (by kernel_rfl) (fun _ _ _ h => h) HS (Or.inl ⟨by kernel_rfl,fun wx hx => ?_⟩) ?_
   ·clear HS hx;go_simp
   simp only [Act.put,List.setIfInBounds_toArray,List.set_cons_zero,List.set_cons_succ];refine aE (i:=3) (v:=.pointer (some ⟨g,off + k * 4,none⟩)) rfl (by kernel_rfl) (by kernel_rfl) (by kernel_rfl) (by kernel_rfl) (fun _ _ _ h => h) HS (Or.inl ⟨by kernel_rfl,fun wx hx => ?_⟩) ?_
   ·clear HS hx;go_simp
   simp only [Act.put,List.setIfInBounds_toArray,List.set_cons_zero,List.set_cons_succ];refine aE (i:=4) (v:=.agg #[.int .u64 a0,.int .u64 a1,.int .u64 a2,.int .u64 a3]) rfl (by kernel_rfl) (by kernel_rfl) (by kernel_rfl) (by kernel_rfl) (fun _ _ _ h => h) HS (Or.inl ⟨by kernel_rfl,fun wx hx => ?_⟩) ?_
   ·have q:=HCA.out wx (HM.out.on hx).1;have x0:=q.1; have x1:=q.2.1; have x2:=q.2.2.1; have x3:=q.2.2.2;clear q;clear HS hx;go_simp
   simp only [Act.put,List.setIfInBounds_toArray,List.set_cons_zero,List.set_cons_succ];refine aE (i:=5) (v:=.slice (some ⟨g2,off2,none⟩) la cb) rfl (by kernel_rfl) (by kernel_rfl) (by kernel_rfl) (by kernel_rfl) (fun _ _ _ h => h) HS (Or.inl ⟨by kernel_rfl,fun wx hx => ?_⟩) ?_
   ·clear HS hx;go_simp
   simp only [Act.put,List.setIfInBounds_toArray,List.set_cons_zero,List.set_cons_succ];refine aE (i:=6) (v:=.int .i64 k) rfl (by kernel_rfl) (by kernel_rfl) (by kernel_rfl) (by kernel_rfl) (fun _ _ _ h => h) HS (Or.inl ⟨by kernel_rfl,fun wx hx => ?_⟩) ?_
   ·clear HS hx;go_simp
   simp only [Act.put,List.setIfInBounds_toArray,List.set_cons_zero,List.set_cons_succ];refine aE (i:=7) (v:=.pointer (some ⟨g2,off2 + k * 4,none⟩)) rfl (by kernel_rfl) (by kernel_rfl) (by kernel_rfl) (by kernel_rfl) (fun _ _ _ h => h) HS (Or.inl ⟨by kernel_rfl,fun wx hx => ?_⟩) ?_
   ·clear HS hx;go_simp
   simp only [Act.put,List.setIfInBounds_toArray,List.set_cons_zero,List.set_cons_succ];refine aE (i:=8) (v:=.agg #[.int .u64 b0,.int .u64 b1,.int .u64 b2,.int .u64 b3]) rfl (by kernel_rfl) (by kernel_rfl) (by kernel_rfl) (by kernel_rfl) (fun _ _ _ h => h) HS (Or.inl ⟨by kernel_rfl,fun wx hx => ?_⟩) ?_
   ·have q:=HCB.out wx (HM.out.on hx).1;have x0:=q.1; have x1:=q.2.1; have x2:=q.2.2.1; have x3:=q.2.2.2;clear q;clear HS hx;go_simp
   simp only [Act.put,List.setIfInBounds_toArray,List.set_cons_zero,List.set_cons_succ];clear HS;refine aF (i:=9) (by kernel_rfl) rfl (fun K hK => ?_);go_simp;refine (bZ F hok w1.heap.size a0 a1 a2 a3 b0 b1 b2 b3 HO.out.1 HO.out.2 HE.out.2.2 _ (KK.out.same H8.out)).mono ?_
   rintro e v1 ⟨p0,p1,p2,p3,rfl,hp,hv,hbl⟩
   have HVp:=Lib.hid hv;clear hv;have HS:=H8.out.trans (hbl.mono H8.out.size);clear H8 hbl;have H8:=Lib.hid HS;refine hK.out _ _ (Or.inr HS) (fun _ => ?_);clear hK K;clear HS;refine aF (i:=10) (by kernel_rfl) rfl (fun K hK => ?_);go_simp;refine (zK F hok w1.heap.size s0 s1 s2 s3 p0 p1 p2 p3 hs hp HV.out.1 (by rw [HVp.out]; exact Nat.mod_lt _ hpos) _ (KK.out.same H8.out)).mono ?_
   rintro e v2 ⟨u0,u1,u2,u3,rfl,hu,hv,hbl⟩
   have HVu:=Lib.hid (show aA u0 u1 u2 u3 < F.M ∧ aA u0 u1 u2 u3 * F.R % F.M = sR F.M (CI A) (CI B) (k + 1) by
    rw [hv,HVp.out];refine ⟨Nat.mod_lt _ hpos,?_⟩;rw [Xa hok HV.out.2,← HE.out.1,← HE.out.2.1];rfl)
   clear hv;have HS:=H8.out.trans (hbl.mono H8.out.size);clear H8 hbl;have H8:=Lib.hid HS;refine hK.out _ _ (Or.inr HS) (fun _ => ?_);clear hK K;clear HS;have HM':=Lib.hid (HM.out.on H8.out);have KK':=Lib.hid (KK.out.same H8.out);clear HM KK H8;have HM:=HM';have KK:=KK';clear HM' KK';have kr:=HM.out.row (b:=gs) (c0:=s0) (c1:=s1) (c2:=s2) (c3:=s3) (by simp);have y0:=kr.c0; have y1:=kr.c1; have y2:=kr.c2; have y3:=kr.c3; have yf:=kr.fr;clear kr;have yl:=HM.out.lt (b:=gs) (c0:=s0) (c1:=s1) (c2:=s2) (c3:=s3) (by simp);refine aF (i:=11) (by kernel_rfl) rfl (fun K hK => ?_);go_simp;have HM':=Lib.hid (HM.out.put u0 u1 u2 u3 (by omega) (by intro r hr; simp at hr; subst hr; show w.heap.size ≠ gs; omega));have KK':=Lib.hid (KK.out.set4 (d:=gs) (by omega) u0 u1 u2 u3);clear HM KK;have HM:=HM';have KK:=KK';clear HM' KK';refine hK.out _ _ (Or.inl rfl) (fun _ => ?_);clear hK K;refine bE (by kernel_rfl) ?_;go_wp2_with fail
   go_roundw
   case rel => exact ⟨k + 1,u0,u1,u2,u3,by omega,by go_num,hu,HVu,HM,KK⟩
   case measure => simp [intOf]; omega
  ·obtain rfl : la = k:=by omega
   obtain ⟨wo,rfl⟩ : ∃ wo,wo = wr:=⟨_,rfl⟩
   have kr:=HM.out.row (b:=gs) (c0:=s0) (c1:=s1) (c2:=s2) (c3:=s3) (by simp);have x0:=kr.c0; have x1:=kr.c1; have x2:=kr.c2; have x3:=kr.c3;clear kr;have xl:=HM.out.lt (b:=gs) (c0:=s0) (c1:=s1) (c2:=s2) (c3:=s3) (by simp);clear hk hlt;go_wp2_with fail;refine (cI F hok w1.heap.size s0 s1 s2 s3 hs _ KK.out).mono ?_
   rintro e w4 ⟨u0,u1,u2,u3,rfl,hu,hv,hbl⟩
   have HVu:=Lib.hid (show aA u0 u1 u2 u3 = sR F.M (CI A) (CI B) la by rw [hv]; exact HV.out.2);have HM':=Lib.hid (HM.out.on hbl);clear hv hbl x0 x1 x2 x3 xl;clear HM;have HM:=HM';clear HM';have kr:=HM.out.row (b:=w.heap.size) (c0:=0) (c1:=0) (c2:=0) (c3:=0) (by simp);have y0:=kr.c0; have y1:=kr.c1; have y2:=kr.c2; have y3:=kr.c3; have yf:=kr.fr;clear kr;have yl:=HM.out.lt (b:=w.heap.size) (c0:=0) (c1:=0) (c2:=0) (c3:=0) (by simp);go_wp2_with fail;refine bodyPost_ret (v:=.tuple #[.agg #[.int .u64 u0,.int .u64 u1,.int .u64 u2,.int .u64 u3],.int .i64 0]) (by simp [results,results184,go_sem, *]) rfl ?_;refine ⟨_,_,_,_,rfl,hu,HVu.out,?_⟩;exact aL HM.out.1 (Nat.le_refl _) _ _ _ _
structure LW (w wr : World) (s0 s1 s2 s3 a0 a1 a2 a3 b0 b1 b2 b3 : Nat) : Prop where
 below : Below w.heap.size w wr
 size : w.heap.size + 1 + 1 + 1 < wr.heap.size
 rowS : Row4 wr w.heap.size s0 s1 s2 s3
 rowA : Row4 wr (w.heap.size + 1) a0 a1 a2 a3
 rowB : Row4 wr (w.heap.size + 1 + 1) b0 b1 b2 b3
 rowO : Row4 wr (w.heap.size + 1 + 1 + 1) 0 0 0 0
theorem Yl (w : World) (o1 o2 o3 o4 : Obj) : Below w.heap.size w ((((w.alloc o1).alloc o2).alloc o3).alloc o4) :=
 (ZG w o1 o2 o3).alloc (by simp; omega) o4
def Mh (a0 a1 a2 a3 : Nat) : Nat → Nat
 | 0 => 0
 | 1 => a3
 | 2 => a3 * 18446744073709551616 + a2
 | 3 => (a3 * 18446744073709551616 + a2) * 18446744073709551616 + a1
 | _ => ((a3 * 18446744073709551616 + a2) * 18446744073709551616 + a1) * 18446744073709551616 + a0
def LQ (a0 a1 a2 a3 : Nat) : Nat → Nat
 | 0 => a3
 | 1 => a2
 | 2 => a1
 | _ => a0
theorem Gc (a0 a1 a2 a3 : Nat) {k : Nat} (h : k < 4) : Mh a0 a1 a2 a3 (k + 1) = Mh a0 a1 a2 a3 k * 18446744073709551616 + LQ a0 a1 a2 a3 k:=by
 match k,h with
 | 0,_ => simp [Mh,LQ]
 | 1,_ => rfl
 | 2,_ => rfl
 | 3,_ => rfl
theorem Lw {a0 a1 a2 a3 : Nat} (h : aY a0 a1 a2 a3) (k : Nat) : LQ a0 a1 a2 a3 k < 18446744073709551616:=by
 obtain ⟨h0,h1,h2,h3⟩:=h
 match k with
 | 0 => exact h3
 | 1 => exact h2
 | 2 => exact h1
 | k + 3 => exact h0
theorem Tv (n m x b : Nat) : ((n % b) * m + x) % b = (n * m + x) % b:=by
 rw [Nat.add_mod,Nat.mul_mod,Nat.mod_mod,← Nat.mul_mod,← Nat.add_mod]
def TIn (R b : Nat) (a0 a1 a2 a3 k v : Nat) : Prop:=v < b ∧ v = (R * 18446744073709551616 ^ k + Mh a0 a1 a2 a3 k) % b
theorem Mn {R b k v x : Nat} {a0 a1 a2 a3 : Nat} (h : TIn R b a0 a1 a2 a3 k v) (hk : k < 4) (hb : 0 < b) (hx : x = LQ a0 a1 a2 a3 k) : TIn R b a0 a1 a2 a3 (k + 1) ((v * 18446744073709551616 + x) % b):=by
 refine ⟨Nat.mod_lt _ hb,?_⟩;rw [h.2,Tv,Gc _ _ _ _ hk,hx,Nat.pow_succ,Nat.add_mul,Nat.mul_assoc,Nat.add_assoc]
theorem aAo {R b v : Nat} {a0 a1 a2 a3 : Nat} (h : TIn R b a0 a1 a2 a3 4 v) : v = (R * 115792089237316195423570985008687907853269984665640564039457584007913129639936 + aA a0 a1 a2 a3) % b:=by
 rw [h.2,show 18446744073709551616 ^ 4 = 115792089237316195423570985008687907853269984665640564039457584007913129639936 by simp,show Mh a0 a1 a2 a3 4 = aA a0 a1 a2 a3 by show ((a3 * 18446744073709551616 + a2) * 18446744073709551616 + a1) * 18446744073709551616 + a0 = _; unfold aA; omega]
theorem Pn {w : World} {g : Nat} {a0 a1 a2 a3 : Nat} (rA : Row4 w g a0 a1 a2 a3) (k : Nat) (hk : k < 4) : ∃ j x,j + k = 3 ∧ x = LQ a0 a1 a2 a3 k ∧ w.cell? ⟨g,j,none⟩ = some (.int .u64 (x : Nat)):=by
 match k,hk with
 | 0,_ => exact ⟨3,_,rfl,rfl,rA.c3⟩
 | 1,_ => exact ⟨2,_,rfl,rfl,rA.c2⟩
 | 2,_ => exact ⟨1,_,rfl,rfl,rA.c1⟩
 | 3,_ => exact ⟨0,_,rfl,rfl,rA.c0⟩
set_option maxHeartbeats 1000000 in
theorem rE (r0 r1 r2 r3 a0 a1 a2 a3 b0 b1 b2 b3 : Nat) (hr : aY r0 r1 r2 r3) (ha : aY a0 a1 a2 a3) (hb : aY b0 b1 b2 b3) (h3 : 9223372036854775808 ≤ b3) (hlt : aA r0 r1 r2 r3 < aA b0 b1 b2 b3) (w : World) :
  Calls prog 193 #[.agg #[.int .u64 r0,.int .u64 r1,.int .u64 r2,.int .u64 r3],.agg #[.int .u64 a0,.int .u64 a1,.int .u64 a2,.int .u64 a3],.agg #[.int .u64 b0,.int .u64 b1,.int .u64 b2,.int .u64 b3]] w (cO (fun n => n = (aA r0 r1 r2 r3 * 115792089237316195423570985008687907853269984665640564039457584007913129639936 + aA a0 a1 a2 a3) % aA b0 b1 b2 b3) w):=by
 go_enter func193,ntmps193
 go_wp2_with fail
 go_loopw [8] (fun i wr => ∃ k s0 s1 s2 s3 : Nat,k ≤ 4 ∧ i = .int .i64 k ∧ aY s0 s1 s2 s3 ∧ Hid (TIn (aA r0 r1 r2 r3) (aA b0 b1 b2 b3) a0 a1 a2 a3 k (aA s0 s1 s2 s3)) ∧ LW w wr s0 s1 s2 s3 a0 a1 a2 a3 b0 b1 b2 b3) (fun i _ => 4 - (intOf i).toNat)
 case atStart =>
  refine ⟨0,r0,r1,r2,r3,by omega,rfl,hr,Lib.hid ⟨hlt,by show _ = (_ * 18446744073709551616 ^ 0 + 0) % _; rw [Nat.pow_zero,Nat.mul_one,Nat.add_zero,Nat.mod_eq_of_lt hlt]⟩,⟨Yl _ _ _ _ _,by simp,?_,?_,?_,?_⟩⟩
  all_goals exact ⟨by simp [go_sem],by simp [go_sem],by simp [go_sem],by simp [go_sem],fun k => by simp [go_sem]⟩
 case round =>
  obtain ⟨k,s0,s1,s2,s3,hk,rfl,hs,ti,lw⟩:=hrel;have hsz:=lw.size;obtain ⟨x0,x1,x2,x3,xf⟩:=lw.rowS;obtain ⟨z0,z1,z2,z3,zf⟩:=lw.rowB
  by_cases hlt' : k < 4
  ·obtain ⟨j,x,hj,hx,cx⟩:=Pn lw.rowA k hlt';have wj : IntKind.i64.wrap (3 - (k : Int)) = (j : Int):=by simp [IntKind.wrap,IntKind.bits,IntKind.signed]; omega
   have bj : (j : Int) < 4:=by omega
   have bx : x < 18446744073709551616:=by rw [hx]; exact Lw ha k
   have Hx:=Lib.hid hx;have HL:=Lib.hid lw;clear lw hx hj;go_wp2_with fail;refine wp_region_still_tail 6 (by kernel_rfl) (by kernel_rfl) ?_;simp only [List.take_succ_cons,List.take_zero,List.drop_succ_cons,List.drop_zero];change wpStill _ _ wr.drew _ _ _
   repeat still_step
   refine wpStill_nil ?_;change wpList _ _ _ _ _ wr.drew;go_wp2_with fail;refine (yF s0 s1 s2 s3 x b0 b1 b2 b3 hs bx hb h3 ti.out.1 _).mono ?_
   rintro e w3 ⟨n0,n1,n2,n3,rfl,hn,en,hbl⟩
   have hz3 : wr.heap.size ≤ w3.heap.size:=hbl.size;have S3:=HL.out.rowS.drewN 1 |>.below hbl (show w.heap.size < wr.heap.size by omega)
   have T3 : LW w (set4 w3 w.heap.size n0 n1 n2 n3) n0 n1 n2 n3 a0 a1 a2 a3 b0 b1 b2 b3 :=
    ⟨aL ((HL.out.below.drew).trans (hbl.mono HL.out.below.size)) (Nat.le_refl _) _ _ _ _,by unfold set4; simp only [World.size_setCell]; omega,S3.set4 _ _ _ _,
     (HL.out.rowA.drewN 1 |>.below hbl (show w.heap.size + 1 < wr.heap.size by omega)).set4_other (by omega) _ _ _ _,
     (HL.out.rowB.drewN 1 |>.below hbl (show w.heap.size + 1 + 1 < wr.heap.size by omega)).set4_other (by omega) _ _ _ _,
     (HL.out.rowO.drewN 1 |>.below hbl (show w.heap.size + 1 + 1 + 1 < wr.heap.size by omega)).set4_other (by omega) _ _ _ _⟩
   have HT:=Lib.hid T3;have Hti:=Lib.hid (Mn ti.out hlt' (by have:=ti.out.1; omega) Hx.out);rw [← en] at Hti;obtain ⟨v0,v1,v2,v3,vf⟩:=S3;clear hbl en T3 ti;go_wp2_with fail
   go_roundw
   case rel => exact ⟨k + 1,n0,n1,n2,n3,by omega,by go_num,hn,Hti,HT.out⟩
   case measure => simp [intOf]; omega
  ·obtain rfl : k = 4:=by omega
   have HF:=Lib.hid (aAo ti.out);obtain ⟨o0,o1,o2,o3,of⟩:=lw.rowO;have HB:=Lib.hid lw.below;clear ti lw;go_wp2_with fail;refine bodyPost_ret (v:=.agg #[.int .u64 s0,.int .u64 s1,.int .u64 s2,.int .u64 s3]) (by simp [results,results193,go_sem, *]) rfl ?_;exact ⟨s0,s1,s2,s3,rfl,hs,HF.out,aL HB.out (by omega) _ _ _ _⟩
theorem aKx (a0 a1 a2 a3 : Nat) (n : Int) (ha : aY a0 a1 a2 a3) (h0 : 0 < n) (hq : n / 64 = 0) (w : World) :
  Calls prog 192 #[.agg #[.int .u64 a0,.int .u64 a1,.int .u64 a2,.int .u64 a3],.int .i64 n] w (cO (fun v => v = aA a0 a1 a2 a3 * 2 ^ n.toNat % 115792089237316195423570985008687907853269984665640564039457584007913129639936) w):=by
 obtain ⟨p,hr,hp,en⟩:=RZ (by omega) 0 hq (by omega);have b1 : n < 256:=by omega
 have t0 : decide (n ≤ 0) = false:=decide_eq_false (by omega);obtain ⟨lo0,hi0,u0,d0,bl0,bh0,e0,g0,m0⟩:=pS (a:=a0) (p:=p) ha.1 hp;obtain ⟨lo1,hi1,u1,d1,wK,bh1,e1,g1,m1⟩:=pS (a:=a1) (p:=p) ha.2.1 hp;obtain ⟨lo2,hi2,u2,d2,gD,bh2,e2,g2,m2⟩:=pS (a:=a2) (p:=p) ha.2.2.1 hp;obtain ⟨lo3,hi3,u3,d3,bl3,bh3,e3,g3,m3⟩:=pS (a:=a3) (p:=p) ha.2.2.2 hp;obtain ⟨s1,o1,bs1,f1⟩:=BE wK bh0 g0 m1;obtain ⟨s2,o2,bs2,f2⟩:=BE gD bh1 g1 m2;obtain ⟨s3,o3,bs3,f3⟩:=BE bl3 bh2 g2 m3;have HF : Hid (aA lo0 s1 s2 s3 = aA a0 a1 a2 a3 * 2 ^ n.toNat % 115792089237316195423570985008687907853269984665640564039457584007913129639936):=Lib.hid (by
  have hk : aY lo0 s1 s2 s3:=⟨bl0,bs1,bs2,bs3⟩;rw [en,rQ];have:=e0.out;have:=e1.out;have:=e2.out;have:=e3.out;have:=f1.out;have:=f2.out;have:=f3.out;have hv:=bH hk;have hT : aA a0 a1 a2 a3 * (18446744073709551616 ^ ((0 : Int)).toNat * 2 ^ p) = aA a0 a1 a2 a3 * 2 ^ p * 1:=by
   rw [show 18446744073709551616 ^ ((0 : Int)).toNat = 1 by simp,Nat.mul_comm 1,Nat.mul_assoc]
  rw [hT];have hD : aA a0 a1 a2 a3 * 2 ^ p = a0 * 2 ^ p + 18446744073709551616 * (a1 * 2 ^ p) + 340282366920938463463374607431768211456 * (a2 * 2 ^ p) + 6277101735386680763835789423207666416102355444464034512896 * (a3 * 2 ^ p):=by
   unfold aA; simp only [Nat.add_mul,Nat.mul_assoc]; omega
  rw [hD];unfold aA at hv ⊢;generalize 2 ^ p = T at *;omega)
 clear e0 g0 m0 e1 g1 m1 e2 g2 m2 e3 g3 m3 f1 f2 f3;have HEN:=Lib.hid en;clear en
 go_enter func192,ntmps192
 go_wp2_with fail;refine wp_loop_rounds 5 ?_;rw [rounds_succ];go_wp2_with fail;rw [rounds_succ];go_wp2_with fail
 go_region
 go_wp2_with fail;rw [rounds_succ];go_wp2_with fail
 go_region
 go_wp2_with fail;rw [rounds_succ];go_wp2_with fail
 go_region
 go_wp2_with fail;rw [rounds_succ];go_wp2_with fail;refine bodyPost_ret (v:=.agg #[.int .u64 lo0,.int .u64 s1,.int .u64 s2,.int .u64 s3]) (by simp [results,results192,go_sem]) rfl ?_;refine ⟨lo0,s1,s2,s3,rfl,⟨bl0,bs1,bs2,bs3⟩,HF.out,?_⟩
 repeat (first | exact Below.refl _ _ | refine Below.drew ?_ | refine Below.alloc ?_ (by first | (simp; done) | (simp; omega)) _)
theorem aKw (a0 a1 a2 a3 : Nat) (n : Int) (ha : aY a0 a1 a2 a3) (h0 : 0 < n) (hq : n / 64 = 1) (w : World) :
  Calls prog 192 #[.agg #[.int .u64 a0,.int .u64 a1,.int .u64 a2,.int .u64 a3],.int .i64 n] w (cO (fun v => v = aA a0 a1 a2 a3 * 2 ^ n.toNat % 115792089237316195423570985008687907853269984665640564039457584007913129639936) w):=by
 obtain ⟨p,hr,hp,en⟩:=RZ (by omega) 1 hq (by omega);have b1 : n < 256:=by omega
 have t0 : decide (n ≤ 0) = false:=decide_eq_false (by omega);obtain ⟨lo0,hi0,u0,d0,bl0,bh0,e0,g0,m0⟩:=pS (a:=a0) (p:=p) ha.1 hp;obtain ⟨lo1,hi1,u1,d1,wK,bh1,e1,g1,m1⟩:=pS (a:=a1) (p:=p) ha.2.1 hp;obtain ⟨lo2,hi2,u2,d2,gD,bh2,e2,g2,m2⟩:=pS (a:=a2) (p:=p) ha.2.2.1 hp;obtain ⟨s1,o1,bs1,f1⟩:=BE wK bh0 g0 m1;obtain ⟨s2,o2,bs2,f2⟩:=BE gD bh1 g1 m2;have HF : Hid (aA 0 lo0 s1 s2 = aA a0 a1 a2 a3 * 2 ^ n.toNat % 115792089237316195423570985008687907853269984665640564039457584007913129639936):=Lib.hid (by
  have hk : aY 0 lo0 s1 s2:=⟨(by omega),bl0,bs1,bs2⟩;rw [en,rQ];have:=e0.out;have:=e1.out;have:=e2.out;have:=f1.out;have:=f2.out;have hv:=bH hk;have hT : aA a0 a1 a2 a3 * (18446744073709551616 ^ ((1 : Int)).toNat * 2 ^ p) = aA a0 a1 a2 a3 * 2 ^ p * 18446744073709551616:=by
   rw [show 18446744073709551616 ^ ((1 : Int)).toNat = 18446744073709551616 by simp,Nat.mul_comm 18446744073709551616,Nat.mul_assoc]
  rw [hT];have hD : aA a0 a1 a2 a3 * 2 ^ p = a0 * 2 ^ p + 18446744073709551616 * (a1 * 2 ^ p) + 340282366920938463463374607431768211456 * (a2 * 2 ^ p) + 6277101735386680763835789423207666416102355444464034512896 * (a3 * 2 ^ p):=by
   unfold aA; simp only [Nat.add_mul,Nat.mul_assoc]; omega
  rw [hD];unfold aA at hv ⊢;generalize 2 ^ p = T at *;omega)
 clear e0 g0 m0 e1 g1 m1 e2 g2 m2 f1 f2;have HEN:=Lib.hid en;clear en
 go_enter func192,ntmps192
 go_wp2_with fail;refine wp_loop_rounds 4 ?_;rw [rounds_succ];go_wp2_with fail;rw [rounds_succ];go_wp2_with fail
 go_region
 go_wp2_with fail;rw [rounds_succ];go_wp2_with fail
 go_region
 go_wp2_with fail;rw [rounds_succ];go_wp2_with fail;refine bodyPost_ret (v:=.agg #[.int .u64 0,.int .u64 lo0,.int .u64 s1,.int .u64 s2]) (by simp [results,results192,go_sem]) rfl ?_;refine ⟨0,lo0,s1,s2,rfl,⟨(by omega),bl0,bs1,bs2⟩,HF.out,?_⟩
 repeat (first | exact Below.refl _ _ | refine Below.drew ?_ | refine Below.alloc ?_ (by first | (simp; done) | (simp; omega)) _)
theorem aKv (a0 a1 a2 a3 : Nat) (n : Int) (ha : aY a0 a1 a2 a3) (h0 : 0 < n) (hq : n / 64 = 2) (w : World) :
  Calls prog 192 #[.agg #[.int .u64 a0,.int .u64 a1,.int .u64 a2,.int .u64 a3],.int .i64 n] w (cO (fun v => v = aA a0 a1 a2 a3 * 2 ^ n.toNat % 115792089237316195423570985008687907853269984665640564039457584007913129639936) w):=by
 obtain ⟨p,hr,hp,en⟩:=RZ (by omega) 2 hq (by omega);have b1 : n < 256:=by omega
 have t0 : decide (n ≤ 0) = false:=decide_eq_false (by omega);obtain ⟨lo0,hi0,u0,d0,bl0,bh0,e0,g0,m0⟩:=pS (a:=a0) (p:=p) ha.1 hp;obtain ⟨lo1,hi1,u1,d1,wK,bh1,e1,g1,m1⟩:=pS (a:=a1) (p:=p) ha.2.1 hp;obtain ⟨s1,o1,bs1,f1⟩:=BE wK bh0 g0 m1;have HF : Hid (aA 0 0 lo0 s1 = aA a0 a1 a2 a3 * 2 ^ n.toNat % 115792089237316195423570985008687907853269984665640564039457584007913129639936):=Lib.hid (by
  have hk : aY 0 0 lo0 s1:=⟨(by omega),(by omega),bl0,bs1⟩;rw [en,rQ];have:=e0.out;have:=e1.out;have:=f1.out;have hv:=bH hk;have hT : aA a0 a1 a2 a3 * (18446744073709551616 ^ ((2 : Int)).toNat * 2 ^ p) = aA a0 a1 a2 a3 * 2 ^ p * 340282366920938463463374607431768211456:=by
   rw [show 18446744073709551616 ^ ((2 : Int)).toNat = 340282366920938463463374607431768211456 by simp,Nat.mul_comm 340282366920938463463374607431768211456,Nat.mul_assoc]
  rw [hT];have hD : aA a0 a1 a2 a3 * 2 ^ p = a0 * 2 ^ p + 18446744073709551616 * (a1 * 2 ^ p) + 340282366920938463463374607431768211456 * (a2 * 2 ^ p) + 6277101735386680763835789423207666416102355444464034512896 * (a3 * 2 ^ p):=by
   unfold aA; simp only [Nat.add_mul,Nat.mul_assoc]; omega
  rw [hD];unfold aA at hv ⊢;generalize 2 ^ p = T at *;omega)
 clear e0 g0 m0 e1 g1 m1 f1;have HEN:=Lib.hid en;clear en
 go_enter func192,ntmps192
 go_wp2_with fail;refine wp_loop_rounds 3 ?_;rw [rounds_succ];go_wp2_with fail;rw [rounds_succ];go_wp2_with fail
 go_region
 go_wp2_with fail;rw [rounds_succ];go_wp2_with fail;refine bodyPost_ret (v:=.agg #[.int .u64 0,.int .u64 0,.int .u64 lo0,.int .u64 s1]) (by simp [results,results192,go_sem]) rfl ?_;refine ⟨0,0,lo0,s1,rfl,⟨(by omega),(by omega),bl0,bs1⟩,HF.out,?_⟩
 repeat (first | exact Below.refl _ _ | refine Below.drew ?_ | refine Below.alloc ?_ (by first | (simp; done) | (simp; omega)) _)
theorem aKu (a0 a1 a2 a3 : Nat) (n : Int) (ha : aY a0 a1 a2 a3) (h0 : 0 < n) (hq : n / 64 = 3) (w : World) :
  Calls prog 192 #[.agg #[.int .u64 a0,.int .u64 a1,.int .u64 a2,.int .u64 a3],.int .i64 n] w (cO (fun v => v = aA a0 a1 a2 a3 * 2 ^ n.toNat % 115792089237316195423570985008687907853269984665640564039457584007913129639936) w):=by
 obtain ⟨p,hr,hp,en⟩:=RZ (by omega) 3 hq (by omega);have b1 : n < 256:=by omega
 have t0 : decide (n ≤ 0) = false:=decide_eq_false (by omega);obtain ⟨lo0,hi0,u0,d0,bl0,bh0,e0,g0,m0⟩:=pS (a:=a0) (p:=p) ha.1 hp;have HF : Hid (aA 0 0 0 lo0 = aA a0 a1 a2 a3 * 2 ^ n.toNat % 115792089237316195423570985008687907853269984665640564039457584007913129639936):=Lib.hid (by
  have hk : aY 0 0 0 lo0:=⟨(by omega),(by omega),(by omega),bl0⟩;rw [en,rQ];have:=e0.out;have hv:=bH hk;have hT : aA a0 a1 a2 a3 * (18446744073709551616 ^ ((3 : Int)).toNat * 2 ^ p) = aA a0 a1 a2 a3 * 2 ^ p * 6277101735386680763835789423207666416102355444464034512896:=by
   rw [show 18446744073709551616 ^ ((3 : Int)).toNat = 6277101735386680763835789423207666416102355444464034512896 by simp,Nat.mul_comm 6277101735386680763835789423207666416102355444464034512896,Nat.mul_assoc]
  rw [hT];have hD : aA a0 a1 a2 a3 * 2 ^ p = a0 * 2 ^ p + 18446744073709551616 * (a1 * 2 ^ p) + 340282366920938463463374607431768211456 * (a2 * 2 ^ p) + 6277101735386680763835789423207666416102355444464034512896 * (a3 * 2 ^ p):=by
   unfold aA; simp only [Nat.add_mul,Nat.mul_assoc]; omega
  rw [hD];unfold aA at hv ⊢;generalize 2 ^ p = T at *;omega)
 clear e0 g0 m0;have HEN:=Lib.hid en;clear en
 go_enter func192,ntmps192
 go_wp2_with fail;refine wp_loop_rounds 2 ?_;rw [rounds_succ];go_wp2_with fail;rw [rounds_succ];go_wp2_with fail;refine bodyPost_ret (v:=.agg #[.int .u64 0,.int .u64 0,.int .u64 0,.int .u64 lo0]) (by simp [results,results192,go_sem]) rfl ?_;refine ⟨0,0,0,lo0,rfl,⟨(by omega),(by omega),(by omega),bl0⟩,HF.out,?_⟩
 repeat (first | exact Below.refl _ _ | refine Below.drew ?_ | refine Below.alloc ?_ (by first | (simp; done) | (simp; omega)) _)
theorem Nc (a0 a1 a2 a3 : Nat) (n : Int) (ha : aY a0 a1 a2 a3) (h0 : n ≤ 0) (w : World) :
  Calls prog 192 #[.agg #[.int .u64 a0,.int .u64 a1,.int .u64 a2,.int .u64 a3],.int .i64 n] w (cO (fun v => v = aA a0 a1 a2 a3) w):=by
 have t0 : decide (n ≤ 0) = true:=decide_eq_true h0
 go_enter func192,ntmps192
 go_wp2_with fail;refine bodyPost_ret (v:=.agg #[.int .u64 a0,.int .u64 a1,.int .u64 a2,.int .u64 a3]) (by simp [results,results192,go_sem]) rfl ?_;refine ⟨a0,a1,a2,a3,rfl,ha,rfl,?_⟩
 repeat (first | exact Below.refl _ _ | refine Below.drew ?_ | refine Below.alloc ?_ (by first | (simp; done) | (simp; omega)) _)
theorem aAA (a0 a1 a2 a3 : Nat) (n : Int) (ha : aY a0 a1 a2 a3) (h0 : 256 ≤ n) (h1 : n ≤ 9223372036854775807) (w : World) :
  Calls prog 192 #[.agg #[.int .u64 a0,.int .u64 a1,.int .u64 a2,.int .u64 a3],.int .i64 n] w (cO (fun v => v = 0) w):=by
 have t0 : decide (n ≤ 0) = false:=decide_eq_false (by omega);obtain ⟨q,hq,bq,bq'⟩ : ∃ q : Nat,n / 64 = (q : Int) ∧ 4 ≤ q ∧ q ≤ 9223372036854775807:=⟨(n / 64).toNat,by omega,by omega,by omega⟩
 have t1 : decide ((0 : Int) < 4 - (q : Int)) = false:=decide_eq_false (by omega)
 go_enter func192,ntmps192
 go_wp2_with fail;refine wp_loop_rounds 1 ?_;rw [rounds_succ];go_wp2_with fail;refine bodyPost_ret (v:=.agg #[.int .u64 0,.int .u64 0,.int .u64 0,.int .u64 0]) (by simp [results,results192,go_sem]) rfl ?_;refine ⟨0,0,0,0,rfl,⟨by omega,by omega,by omega,by omega⟩,rfl,?_⟩
 repeat (first | exact Below.refl _ _ | refine Below.drew ?_ | refine Below.alloc ?_ (by first | (simp; done) | (simp; omega)) _)
theorem tR (a0 a1 a2 a3 : Nat) (n : Int) (ha : aY a0 a1 a2 a3) (h0 : 0 ≤ n) (h1 : n ≤ 9223372036854775807) (w : World) :
  Calls prog 192 #[.agg #[.int .u64 a0,.int .u64 a1,.int .u64 a2,.int .u64 a3],.int .i64 n] w (cO (fun v => v = aA a0 a1 a2 a3 * 2 ^ n.toNat % 115792089237316195423570985008687907853269984665640564039457584007913129639936) w):=by
 by_cases hz : n ≤ 0
 ·refine (Nc a0 a1 a2 a3 n ha hz w).mono ?_
  rintro e w' ⟨s0,s1,s2,s3,he,hs,hv,hb⟩
  refine ⟨s0,s1,s2,s3,he,hs,?_,hb⟩;have:=bH ha;rw [hv,show n.toNat = 0 by omega,Nat.pow_zero]; omega
 ·by_cases hf : 256 ≤ n
  ·refine (aAA a0 a1 a2 a3 n ha hf h1 w).mono ?_
   rintro e w' ⟨s0,s1,s2,s3,he,hs,hv,hb⟩
   refine ⟨s0,s1,s2,s3,he,hs,?_,hb⟩;rw [hv];obtain ⟨k,hk⟩ : ∃ k,n.toNat = 256 + k:=⟨n.toNat - 256,by omega⟩
   rw [hk,Nat.pow_add,Nat.mul_left_comm,show (2 : Nat) ^ 256 = 115792089237316195423570985008687907853269984665640564039457584007913129639936 by simp];exact (Nat.mul_mod_right _ _).symm
  ·have hq : n / 64 = 0 ∨ n / 64 = 1 ∨ n / 64 = 2 ∨ n / 64 = 3:=by omega
   rcases hq with h | h | h | h
   ·exact aKx a0 a1 a2 a3 n ha (by omega) h w
   ·exact aKw a0 a1 a2 a3 n ha (by omega) h w
   ·exact aKv a0 a1 a2 a3 n ha (by omega) h w
   ·exact aKu a0 a1 a2 a3 n ha (by omega) h w
theorem aCI {m L : Nat} (hL : L ≤ 256) (h : LenIs m L) (hm : 0 < m) : 0 < L ∧ m * 2 ^ (256 - L) < 115792089237316195423570985008687907853269984665640564039457584007913129639936 ∧ 57896044618658097711785492504343953926634992332820282019728792003956564819968 ≤ m * 2 ^ (256 - L):=by
 have hpos : 0 < L:=by
  rcases Nat.eq_zero_or_pos L with e | e
  ·subst e; have:=h.1; simp at this; omega
  ·exact e
 have e : 2 ^ L * 2 ^ (256 - L) = 115792089237316195423570985008687907853269984665640564039457584007913129639936:=by rw [← Nat.pow_add,show L + (256 - L) = 256 by omega]
 have e' : 2 ^ (L - 1) * 2 ^ (256 - L) = 57896044618658097711785492504343953926634992332820282019728792003956564819968:=by rw [← Nat.pow_add,show L - 1 + (256 - L) = 255 by omega]
 refine ⟨hpos,?_,?_⟩
 ·have:=Nat.mul_lt_mul_of_pos_right h.1 (Nat.two_pow_pos (256 - L));rw [e] at this; exact this
 ·have:=Nat.mul_le_mul_right (2 ^ (256 - L)) (h.2 hpos);rw [e'] at this; exact this
theorem aAj {b0 b1 b2 b3 : Nat} (h : aY b0 b1 b2 b3) (hb : 57896044618658097711785492504343953926634992332820282019728792003956564819968 ≤ aA b0 b1 b2 b3) : 9223372036854775808 ≤ b3:=by
 obtain ⟨h0,h1,h2,h3⟩:=h;unfold aA at hb; omega
theorem aBs {x m L : Nat} (hL : L ≤ 256) (hm : 0 < m) (hx : x < 115792089237316195423570985008687907853269984665640564039457584007913129639936) : x / 2 ^ L < m * 2 ^ (256 - L):=by
 have e : 2 ^ (256 - L) * 2 ^ L = 115792089237316195423570985008687907853269984665640564039457584007913129639936:=by rw [← Nat.pow_add,show 256 - L + L = 256 by omega]
 have h1 : x / 2 ^ L < 2 ^ (256 - L):=by rw [Nat.div_lt_iff_lt_mul (Nat.two_pow_pos _),e]; exact hx
 have h2:=Nat.mul_le_mul_right (2 ^ (256 - L)) (show 1 ≤ m from hm);omega
theorem LT {x L : Nat} (hL : L ≤ 256) : x / 2 ^ L * 115792089237316195423570985008687907853269984665640564039457584007913129639936 + x * 2 ^ (256 - L) % 115792089237316195423570985008687907853269984665640564039457584007913129639936 = x * 2 ^ (256 - L):=by
 have e : 2 ^ L * 2 ^ (256 - L) = 115792089237316195423570985008687907853269984665640564039457584007913129639936:=by rw [← Nat.pow_add,show L + (256 - L) = 256 by omega]
 have hd : x * 2 ^ (256 - L) / 115792089237316195423570985008687907853269984665640564039457584007913129639936 = x / 2 ^ L:=by rw [← e]; exact Nat.mul_div_mul_right _ _ (Nat.two_pow_pos _)
 rw [← hd]; omega
theorem Ur {x y L : Nat} (hL : L ≤ 256) (hy : y < 115792089237316195423570985008687907853269984665640564039457584007913129639936) : (x * 2 ^ (256 - L) % 115792089237316195423570985008687907853269984665640564039457584007913129639936) ||| (y / 2 ^ L) = x * 2 ^ (256 - L) % 115792089237316195423570985008687907853269984665640564039457584007913129639936 + y / 2 ^ L:=by
 have e : 2 ^ L * 2 ^ (256 - L) = 115792089237316195423570985008687907853269984665640564039457584007913129639936:=by rw [← Nat.pow_add,show L + (256 - L) = 256 by omega]
 have hlt : y / 2 ^ L < 2 ^ (256 - L):=by rw [Nat.div_lt_iff_lt_mul (Nat.two_pow_pos _),Nat.mul_comm,e]; exact hy
 have hm : x * 2 ^ (256 - L) % 115792089237316195423570985008687907853269984665640564039457584007913129639936 = 2 ^ (256 - L) * (x % 2 ^ L):=by
  rw [← e,Nat.mul_mod_mul_right,Nat.mul_comm]
 rw [hm,← Nat.two_pow_add_eq_or_of_lt hlt]
theorem Kc (n m x b : Nat) : ((n % b) * m + x) % b = (n * m + x) % b:=by
 rw [Nat.add_mod,Nat.mul_mod,Nat.mod_mod,← Nat.mul_mod,← Nat.add_mod]
theorem aCC {h l m L r1 r2 : Nat} (hL : L ≤ 256)
  (e1 : r1 = (h / 2 ^ L * 115792089237316195423570985008687907853269984665640564039457584007913129639936 + (h * 2 ^ (256 - L) % 115792089237316195423570985008687907853269984665640564039457584007913129639936 + l / 2 ^ L)) % (m * 2 ^ (256 - L)))
  (e2 : r2 = (r1 * 115792089237316195423570985008687907853269984665640564039457584007913129639936 + l * 2 ^ (256 - L) % 115792089237316195423570985008687907853269984665640564039457584007913129639936) % (m * 2 ^ (256 - L))) : r2 / 2 ^ (256 - L) = (h * 115792089237316195423570985008687907853269984665640564039457584007913129639936 + l) % m:=by
 have k1:=LT (x:=h) hL;have k2:=LT (x:=l) hL;rw [e1,Kc] at e2;have e3 : (h / 2 ^ L * 115792089237316195423570985008687907853269984665640564039457584007913129639936 + (h * 2 ^ (256 - L) % 115792089237316195423570985008687907853269984665640564039457584007913129639936 + l / 2 ^ L)) * 115792089237316195423570985008687907853269984665640564039457584007913129639936 + l * 2 ^ (256 - L) % 115792089237316195423570985008687907853269984665640564039457584007913129639936 = (h * 115792089237316195423570985008687907853269984665640564039457584007913129639936 + l) * 2 ^ (256 - L):=by
  have : (h * 115792089237316195423570985008687907853269984665640564039457584007913129639936 + l) * 2 ^ (256 - L) = h * 2 ^ (256 - L) * 115792089237316195423570985008687907853269984665640564039457584007913129639936 + l * 2 ^ (256 - L):=by rw [Nat.add_mul,Nat.mul_right_comm]
  rw [this];generalize h * 2 ^ (256 - L) % 115792089237316195423570985008687907853269984665640564039457584007913129639936 = Q at *;generalize l * 2 ^ (256 - L) % 115792089237316195423570985008687907853269984665640564039457584007913129639936 = U at *;rw [← k1,← k2];simp only [Nat.add_mul,Nat.add_assoc]
 rw [e3,Nat.mul_mod_mul_right] at e2;rw [e2,Nat.mul_div_cancel _ (Nat.two_pow_pos _)]
end Go.Proofs.YtfnkbmlmgnadmaaGreat
