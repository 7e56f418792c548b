/- Pu09 -/
import Derived.Deep.DeepCutAuto
import Derived.KernelRfl
import Derived.Test.YtfnkbmlmgnadmaaGreatPu08
import Derived.Test.YtfnkbmlmgnadmaaGreatPu00
import Derived.Test.YtfnkbmlmgnadmaaGreatPu06
import Derived.Test.YtfnkbmlmgnadmaaGreatPu07
set_option maxRecDepth 100000
set_option linter.unusedVariables false
set_option linter.unusedSimpArgs false
set_option linter.unnecessarySimpa false
noncomputable section
namespace Go.Proofs.YtfnkbmlmgnadmaaGreat
open Go.Proofs.Tryz
open Go.RowKit
set_option maxHeartbeats 2000000 in
theorem GT (f : Int) (F : FC) (hf : FieldIs f F) (w : World) : Calls prog 147 #[.int .i64 f] w fun e w' => e = .returned (.agg #[.int .u64 F.s0,.int .u64 F.s1,.int .u64 F.s2,.int .u64 F.s3]) ∧ Below w.heap.size w w':=by
 rcases hf with ⟨rfl,rfl⟩ | ⟨rfl,rfl⟩
 ·go_enter func147,ntmps147
  go_wp2_with fail;refine bodyPost_ret (v:=.agg #[.int .u64 FP.s0,.int .u64 FP.s1,.int .u64 FP.s2,.int .u64 FP.s3]) (by simp [results,results147,go_sem,FP]) rfl ?_;refine ⟨rfl,?_⟩
  repeat (first | exact Below.refl _ _ | refine Below.drew ?_ | refine Below.alloc ?_ (by first | (simp; done) | (simp; omega)) _ | refine Below.setCell ?_ (by simp) _)
 ·go_enter func147,ntmps147
  go_wp2_with fail;refine bodyPost_ret (v:=.agg #[.int .u64 FR.s0,.int .u64 FR.s1,.int .u64 FR.s2,.int .u64 FR.s3]) (by simp [results,results147,go_sem,FR]) rfl ?_;refine ⟨rfl,?_⟩
  repeat (first | exact Below.refl _ _ | refine Below.drew ?_ | refine Below.alloc ?_ (by first | (simp; done) | (simp; omega)) _ | refine Below.setCell ?_ (by simp) _)
set_option maxHeartbeats 2000000 in
theorem zA (f : Int) (F : FC) (hf : FieldIs f F) (a0 a1 a2 a3 b0 b1 b2 b3 : Nat) (ha : aY a0 a1 a2 a3) (hb : aY b0 b1 b2 b3) (w : World) :
  Calls prog 113 #[.int .i64 f,.agg #[.int .u64 a0,.int .u64 a1,.int .u64 a2,.int .u64 a3],.agg #[.int .u64 b0,.int .u64 b1,.int .u64 b2,.int .u64 b3]] w (dE ((aA a0 a1 a2 a3 + aA b0 b1 b2 b3) % F.M) w):=by
 have hpos:=hf.ok.pos;have h2M:=hf.ok.two
 go_enter func113,ntmps113
 go_wp2_with fail;have HM:=Lib.hid ((((Mem.nil w).new (w.heap.size) a0 a1 a2 a3 24 (by simp)).new (w.heap.size + 1) b0 b1 b2 b3 24 (by simp)).new (w.heap.size + 1 + 1) 0 0 0 0 24 (by simp))
 go_upto_region 1 with fail
 go_cut [7] (fun s7 wx => ∃ gb s0 s1 s2 s3 : Nat,s7 = .pointer (some ⟨gb,0,none⟩) ∧ aY s0 s1 s2 s3 ∧ Hid (aA s0 s1 s2 s3 = aA a0 a1 a2 a3 % F.M + aA b0 b1 b2 b3 % F.M) ∧ Hid (Mem w wx [(gb,s0,s1,s2,s3),(w.heap.size + 1 + 1,0,0,0,0)]))
 case first =>
  refine bR (fun wx => Mem w wx [(w.heap.size + 1 + 1,0,0,0,0),(w.heap.size + 1,b0,b1,b2,b3),(w.heap.size,a0,a1,a2,a3)]) 12 (by kernel_rfl) ?_;have HM':=Lib.hid (HM.out.drewN 1);clear HM;have HM:=HM';clear HM';have HS:=HM.out.sub (rs':=[(w.heap.size + 1 + 1,0,0,0,0),(w.heap.size + 1,b0,b1,b2,b3),(w.heap.size,a0,a1,a2,a3)]) (by simp);refine aE (i:=0) (v:=.int .i64 f) rfl (by kernel_rfl) (by kernel_rfl) (by kernel_rfl) (by kernel_rfl) (fun _ _ _ h => h) HS (Or.inl ⟨by kernel_rfl,fun wx hx => ?_⟩) ?_
  ·clear HS hx;go_simp
  simp only [Act.put,List.setIfInBounds_toArray,List.set_cons_zero,List.set_cons_succ];refine aE (i:=1) (v:=.agg #[.int .u64 a0,.int .u64 a1,.int .u64 a2,.int .u64 a3]) rfl (by kernel_rfl) (by kernel_rfl) (by kernel_rfl) (by kernel_rfl) (fun _ _ _ h => h) HS (Or.inl ⟨by kernel_rfl,fun wx hx => ?_⟩) ?_
  ·have kr:=hx.row (b:=w.heap.size) (c0:=a0) (c1:=a1) (c2:=a2) (c3:=a3) (by simp);have x0:=kr.c0; have x1:=kr.c1; have x2:=kr.c2; have x3:=kr.c3;clear kr HS hx;go_simp
  simp only [Act.put,List.setIfInBounds_toArray,List.set_cons_zero,List.set_cons_succ];refine aE (i:=3) (v:=.int .i64 f) rfl (by kernel_rfl) (by kernel_rfl) (by kernel_rfl) (by kernel_rfl) (fun _ _ _ h => h) HS (Or.inl ⟨by kernel_rfl,fun wx hx => ?_⟩) ?_
  ·clear HS hx;go_simp
  simp only [Act.put,List.setIfInBounds_toArray,List.set_cons_zero,List.set_cons_succ];refine aE (i:=4) (v:=.agg #[.int .u64 b0,.int .u64 b1,.int .u64 b2,.int .u64 b3]) rfl (by kernel_rfl) (by kernel_rfl) (by kernel_rfl) (by kernel_rfl) (fun _ _ _ h => h) HS (Or.inl ⟨by kernel_rfl,fun wx hx => ?_⟩) ?_
  ·have kr:=hx.row (b:=w.heap.size + 1) (c0:=b0) (c1:=b1) (c2:=b2) (c3:=b3) (by simp);have x0:=kr.c0; have x1:=kr.c1; have x2:=kr.c2; have x3:=kr.c3;clear kr HS hx;go_simp
  simp only [Act.put,List.setIfInBounds_toArray,List.set_cons_zero,List.set_cons_succ];clear HS;refine cW (i:=2) (j:=10) (by kernel_rfl) rfl rfl (fun K hK => ?_) (fun K hK => ?_)
  ·go_simp;refine (dD f F hf a0 a1 a2 a3 ha _).mono ?_
   rintro e v1 ⟨x0,x1,x2,x3,rfl,hx,hv,hbl⟩
   have HVx:=Lib.hid hv;clear hv;have HM':=Lib.hid (HM.out.on hbl);clear HM hbl;have HM:=HM';clear HM';have HS:=(HM.out.sub (rs':=[(w.heap.size + 1 + 1,0,0,0,0),(w.heap.size + 1,b0,b1,b2,b3),(w.heap.size,a0,a1,a2,a3)]) (by simp));refine hK.out _ _ (Or.inr HS) (fun _ => ?_);clear hK K HS;refine cW (i:=5) (j:=10) (by kernel_rfl) rfl rfl (fun K hK => ?_) (fun K hK => ?_)
   ·go_simp;refine (dD f F hf b0 b1 b2 b3 hb _).mono ?_
    rintro e v2 ⟨y0,y1,y2,y3,rfl,hy,hv,hbl⟩
    have HVy:=Lib.hid hv;clear hv;have HM':=Lib.hid (HM.out.on hbl);clear HM hbl;have HM:=HM';clear HM';have HS:=(HM.out.sub (rs':=[(w.heap.size + 1 + 1,0,0,0,0),(w.heap.size + 1,b0,b1,b2,b3),(w.heap.size,a0,a1,a2,a3)]) (by simp));refine hK.out _ _ (Or.inr HS) (fun _ => ?_);clear hK K HS;refine cW (i:=6) (j:=10) (by kernel_rfl) rfl rfl (fun K hK => ?_) (fun K hK => ?_)
    ·go_simp;refine (iH x0 x1 x2 x3 y0 y1 y2 y3 hx hy _).mono ?_
     rintro e v3 ⟨s0,s1,s2,s3,cc,rfl,hs,hcc,hv,hbl⟩
     have HVs:=Lib.hid (show aA s0 s1 s2 s3 = aA a0 a1 a2 a3 % F.M + aA b0 b1 b2 b3 % F.M by have:=Nat.mod_lt (aA a0 a1 a2 a3) hpos; have:=Nat.mod_lt (aA b0 b1 b2 b3) hpos; rw [HVx.out,HVy.out] at hv; omega);clear hv;have HM':=Lib.hid (HM.out.on hbl);clear HM hbl;have HM:=HM';clear HM';have HS:=(HM.out.sub (rs':=[(w.heap.size + 1 + 1,0,0,0,0),(w.heap.size + 1,b0,b1,b2,b3),(w.heap.size,a0,a1,a2,a3)]) (by simp));refine hK.out _ _ (Or.inr HS) (fun _ => ?_);clear hK K HS;have HS:=HM.out.sub (rs':=[(w.heap.size + 1 + 1,0,0,0,0),(w.heap.size + 1,b0,b1,b2,b3),(w.heap.size,a0,a1,a2,a3)]) (by simp);refine aE (i:=7) (v:=.tuple #[.agg #[.int .u64 s0,.int .u64 s1,.int .u64 s2,.int .u64 s3],.int .u64 (cc : Nat)]) rfl (by kernel_rfl) (by kernel_rfl) (by kernel_rfl) (by kernel_rfl) (fun _ _ _ h => h) HS (Or.inl ⟨by kernel_rfl,fun wx hx => ?_⟩) ?_
     ·clear HS hx;go_simp
     simp only [Act.put,List.setIfInBounds_toArray,List.set_cons_zero,List.set_cons_succ];refine aE (i:=8) (v:=.agg #[.int .u64 s0,.int .u64 s1,.int .u64 s2,.int .u64 s3]) rfl (by kernel_rfl) (by kernel_rfl) (by kernel_rfl) (by kernel_rfl) (fun _ _ _ h => h) HS (Or.inl ⟨by kernel_rfl,fun wx hx => ?_⟩) ?_
     ·clear HS hx;go_simp
     simp only [Act.put,List.setIfInBounds_toArray,List.set_cons_zero,List.set_cons_succ];refine aE (i:=9) (v:=.int .u64 (cc : Nat)) rfl (by kernel_rfl) (by kernel_rfl) (by kernel_rfl) (by kernel_rfl) (fun _ _ _ h => h) HS (Or.inl ⟨by kernel_rfl,fun wx hx => ?_⟩) ?_
     ·clear HS hx;go_simp
     simp only [Act.put,List.setIfInBounds_toArray,List.set_cons_zero,List.set_cons_succ];clear HS;refine aF (i:=10) (by kernel_rfl) rfl (fun K hK => ?_);go_simp;have HM9:=HM;have HM':=Lib.hid (HM.out.new (v3.heap.size) 0 0 0 0 81 (by first | rfl | (simp; done)));have hga : w.heap.size + 1 + 1 < (v3.heap.size):=by first | exact HM.out.lt (b:=w.heap.size + 1 + 1) (c0:=0) (c1:=0) (c2:=0) (c3:=0) (by simp) | simpa using HM.out.lt (b:=w.heap.size + 1 + 1) (c0:=0) (c1:=0) (c2:=0) (c3:=0) (by simp) | (have:=HM.out.lt (b:=w.heap.size + 1 + 1) (c0:=0) (c1:=0) (c2:=0) (c3:=0) (by simp); simp at this ⊢; omega)
     clear HM;have HM:=HM';clear HM';have HS:=(HM.out.sub (rs':=[(w.heap.size + 1 + 1,0,0,0,0),(w.heap.size + 1,b0,b1,b2,b3),(w.heap.size,a0,a1,a2,a3)]) (by simp));refine hK.out _ _ (Or.inr HS) (fun _ => ?_);clear hK K HS;have kr:=HM.out.row (b:=(v3.heap.size)) (c0:=0) (c1:=0) (c2:=0) (c3:=0) (by simp);have yl:=HM.out.lt (b:=(v3.heap.size)) (c0:=0) (c1:=0) (c2:=0) (c3:=0) (by simp);have y0:=kr.c0; have y1:=kr.c1; have y2:=kr.c2; have y3:=kr.c3; have yf:=kr.fr;clear kr;refine aF (i:=11) (by kernel_rfl) rfl (fun K hK => ?_);go_simp;have HM':=Lib.hid (HM9.out.new (v3.heap.size) s0 s1 s2 s3 81 (by first | rfl | (simp; done)));clear HM;have HM:=HM';clear HM';have HS:=(HM.out.sub (rs':=[(w.heap.size + 1 + 1,0,0,0,0),(w.heap.size + 1,b0,b1,b2,b3),(w.heap.size,a0,a1,a2,a3)]) (by simp));refine hK.out _ _ (Or.inr HS) (fun _ => ?_);clear hK K HS;refine aF (i:=12) (by kernel_rfl) rfl (fun K hK => ?_);go_simp;refine hK.out _ _ (Or.inl rfl) (fun _ => ?_);clear hK K;refine bE (by kernel_rfl) ?_;go_wp2_with fail
     go_meet
     exact ⟨(v3.heap.size),s0,s1,s2,s3,rfl,hs,HVs,Lib.hid (HM.out.sub (by simp))⟩
    ·go_simp;have HM9:=HM;have HM':=Lib.hid (HM.out.new (v2.heap.size) 0 0 0 0 81 (by first | rfl | (simp; done)));have hga : w.heap.size + 1 + 1 < (v2.heap.size):=by first | exact HM.out.lt (b:=w.heap.size + 1 + 1) (c0:=0) (c1:=0) (c2:=0) (c3:=0) (by simp) | simpa using HM.out.lt (b:=w.heap.size + 1 + 1) (c0:=0) (c1:=0) (c2:=0) (c3:=0) (by simp) | (have:=HM.out.lt (b:=w.heap.size + 1 + 1) (c0:=0) (c1:=0) (c2:=0) (c3:=0) (by simp); simp at this ⊢; omega)
     clear HM;have HM:=HM';clear HM';have HS:=(HM.out.sub (rs':=[(w.heap.size + 1 + 1,0,0,0,0),(w.heap.size + 1,b0,b1,b2,b3),(w.heap.size,a0,a1,a2,a3)]) (by simp));refine hK.out _ _ (Or.inr HS) (fun _ => ?_);clear hK K HS;refine aF (i:=6) (by kernel_rfl) rfl (fun K hK => ?_);go_simp;refine (iH x0 x1 x2 x3 y0 y1 y2 y3 hx hy _).mono ?_
     rintro e v3 ⟨s0,s1,s2,s3,cc,rfl,hs,hcc,hv,hbl⟩
     have HVs:=Lib.hid (show aA s0 s1 s2 s3 = aA a0 a1 a2 a3 % F.M + aA b0 b1 b2 b3 % F.M by have:=Nat.mod_lt (aA a0 a1 a2 a3) hpos; have:=Nat.mod_lt (aA b0 b1 b2 b3) hpos; rw [HVx.out,HVy.out] at hv; omega);clear hv;have HM':=Lib.hid (HM.out.on hbl);clear HM hbl;have HM:=HM';clear HM';have HS:=(HM.out.sub (rs':=[(w.heap.size + 1 + 1,0,0,0,0),(w.heap.size + 1,b0,b1,b2,b3),(w.heap.size,a0,a1,a2,a3)]) (by simp));refine hK.out _ _ (Or.inr HS) (fun _ => ?_);clear hK K HS;have HS:=HM.out.sub (rs':=[(w.heap.size + 1 + 1,0,0,0,0),(w.heap.size + 1,b0,b1,b2,b3),(w.heap.size,a0,a1,a2,a3)]) (by simp);refine aE (i:=7) (v:=.tuple #[.agg #[.int .u64 s0,.int .u64 s1,.int .u64 s2,.int .u64 s3],.int .u64 (cc : Nat)]) rfl (by kernel_rfl) (by kernel_rfl) (by kernel_rfl) (by kernel_rfl) (fun _ _ _ h => h) HS (Or.inl ⟨by kernel_rfl,fun wx hx => ?_⟩) ?_
     ·clear HS hx;go_simp
     simp only [Act.put,List.setIfInBounds_toArray,List.set_cons_zero,List.set_cons_succ];refine aE (i:=8) (v:=.agg #[.int .u64 s0,.int .u64 s1,.int .u64 s2,.int .u64 s3]) rfl (by kernel_rfl) (by kernel_rfl) (by kernel_rfl) (by kernel_rfl) (fun _ _ _ h => h) HS (Or.inl ⟨by kernel_rfl,fun wx hx => ?_⟩) ?_
     ·clear HS hx;go_simp
     simp only [Act.put,List.setIfInBounds_toArray,List.set_cons_zero,List.set_cons_succ];refine aE (i:=9) (v:=.int .u64 (cc : Nat)) rfl (by kernel_rfl) (by kernel_rfl) (by kernel_rfl) (by kernel_rfl) (fun _ _ _ h => h) HS (Or.inl ⟨by kernel_rfl,fun wx hx => ?_⟩) ?_
     ·clear HS hx;go_simp
     simp only [Act.put,List.setIfInBounds_toArray,List.set_cons_zero,List.set_cons_succ];clear HS;have kr:=HM.out.row (b:=(v2.heap.size)) (c0:=0) (c1:=0) (c2:=0) (c3:=0) (by simp);have yl:=HM.out.lt (b:=(v2.heap.size)) (c0:=0) (c1:=0) (c2:=0) (c3:=0) (by simp);have y0:=kr.c0; have y1:=kr.c1; have y2:=kr.c2; have y3:=kr.c3; have yf:=kr.fr;clear kr;refine aF (i:=11) (by kernel_rfl) rfl (fun K hK => ?_);go_simp;have HM':=Lib.hid (HM.out.put s0 s1 s2 s3 (by omega) (by intro r hr; simp at hr; rcases hr with rfl | rfl | rfl <;> simp <;> omega));clear HM;have HM:=HM';clear HM';have HS:=(HM.out.sub (rs':=[(w.heap.size + 1 + 1,0,0,0,0),(w.heap.size + 1,b0,b1,b2,b3),(w.heap.size,a0,a1,a2,a3)]) (by simp));refine hK.out _ _ (Or.inr HS) (fun _ => ?_);clear hK K HS;refine aF (i:=12) (by kernel_rfl) rfl (fun K hK => ?_);go_simp;refine hK.out _ _ (Or.inl rfl) (fun _ => ?_);clear hK K;refine bE (by kernel_rfl) ?_;go_wp2_with fail
     go_meet
     exact ⟨(v2.heap.size),s0,s1,s2,s3,rfl,hs,HVs,Lib.hid (HM.out.sub (by simp))⟩
   ·go_simp;have HM9:=HM;have HM':=Lib.hid (HM.out.new (v1.heap.size) 0 0 0 0 81 (by first | rfl | (simp; done)));have hga : w.heap.size + 1 + 1 < (v1.heap.size):=by first | exact HM.out.lt (b:=w.heap.size + 1 + 1) (c0:=0) (c1:=0) (c2:=0) (c3:=0) (by simp) | simpa using HM.out.lt (b:=w.heap.size + 1 + 1) (c0:=0) (c1:=0) (c2:=0) (c3:=0) (by simp) | (have:=HM.out.lt (b:=w.heap.size + 1 + 1) (c0:=0) (c1:=0) (c2:=0) (c3:=0) (by simp); simp at this ⊢; omega)
    clear HM;have HM:=HM';clear HM';have HS:=(HM.out.sub (rs':=[(w.heap.size + 1 + 1,0,0,0,0),(w.heap.size + 1,b0,b1,b2,b3),(w.heap.size,a0,a1,a2,a3)]) (by simp));refine hK.out _ _ (Or.inr HS) (fun _ => ?_);clear hK K HS;refine aF (i:=5) (by kernel_rfl) rfl (fun K hK => ?_);go_simp;refine (dD f F hf b0 b1 b2 b3 hb _).mono ?_
    rintro e v2 ⟨y0,y1,y2,y3,rfl,hy,hv,hbl⟩
    have HVy:=Lib.hid hv;clear hv;have HM':=Lib.hid (HM.out.on hbl);clear HM hbl;have HM:=HM';clear HM';have HS:=(HM.out.sub (rs':=[(w.heap.size + 1 + 1,0,0,0,0),(w.heap.size + 1,b0,b1,b2,b3),(w.heap.size,a0,a1,a2,a3)]) (by simp));refine hK.out _ _ (Or.inr HS) (fun _ => ?_);clear hK K HS;refine aF (i:=6) (by kernel_rfl) rfl (fun K hK => ?_);go_simp;refine (iH x0 x1 x2 x3 y0 y1 y2 y3 hx hy _).mono ?_
    rintro e v3 ⟨s0,s1,s2,s3,cc,rfl,hs,hcc,hv,hbl⟩
    have HVs:=Lib.hid (show aA s0 s1 s2 s3 = aA a0 a1 a2 a3 % F.M + aA b0 b1 b2 b3 % F.M by have:=Nat.mod_lt (aA a0 a1 a2 a3) hpos; have:=Nat.mod_lt (aA b0 b1 b2 b3) hpos; rw [HVx.out,HVy.out] at hv; omega);clear hv;have HM':=Lib.hid (HM.out.on hbl);clear HM hbl;have HM:=HM';clear HM';have HS:=(HM.out.sub (rs':=[(w.heap.size + 1 + 1,0,0,0,0),(w.heap.size + 1,b0,b1,b2,b3),(w.heap.size,a0,a1,a2,a3)]) (by simp));refine hK.out _ _ (Or.inr HS) (fun _ => ?_);clear hK K HS;have HS:=HM.out.sub (rs':=[(w.heap.size + 1 + 1,0,0,0,0),(w.heap.size + 1,b0,b1,b2,b3),(w.heap.size,a0,a1,a2,a3)]) (by simp);refine aE (i:=7) (v:=.tuple #[.agg #[.int .u64 s0,.int .u64 s1,.int .u64 s2,.int .u64 s3],.int .u64 (cc : Nat)]) rfl (by kernel_rfl) (by kernel_rfl) (by kernel_rfl) (by kernel_rfl) (fun _ _ _ h => h) HS (Or.inl ⟨by kernel_rfl,fun wx hx => ?_⟩) ?_
    ·clear HS hx;go_simp
    simp only [Act.put,List.setIfInBounds_toArray,List.set_cons_zero,List.set_cons_succ];refine aE (i:=8) (v:=.agg #[.int .u64 s0,.int .u64 s1,.int .u64 s2,.int .u64 s3]) rfl (by kernel_rfl) (by kernel_rfl) (by kernel_rfl) (by kernel_rfl) (fun _ _ _ h => h) HS (Or.inl ⟨by kernel_rfl,fun wx hx => ?_⟩) ?_
    ·clear HS hx;go_simp
    simp only [Act.put,List.setIfInBounds_toArray,List.set_cons_zero,List.set_cons_succ];refine aE (i:=9) (v:=.int .u64 (cc : Nat)) rfl (by kernel_rfl) (by kernel_rfl) (by kernel_rfl) (by kernel_rfl) (fun _ _ _ h => h) HS (Or.inl ⟨by kernel_rfl,fun wx hx => ?_⟩) ?_
    ·clear HS hx;go_simp
    simp only [Act.put,List.setIfInBounds_toArray,List.set_cons_zero,List.set_cons_succ];clear HS;have kr:=HM.out.row (b:=(v1.heap.size)) (c0:=0) (c1:=0) (c2:=0) (c3:=0) (by simp);have yl:=HM.out.lt (b:=(v1.heap.size)) (c0:=0) (c1:=0) (c2:=0) (c3:=0) (by simp);have y0:=kr.c0; have y1:=kr.c1; have y2:=kr.c2; have y3:=kr.c3; have yf:=kr.fr;clear kr;refine aF (i:=11) (by kernel_rfl) rfl (fun K hK => ?_);go_simp;have HM':=Lib.hid (HM.out.put s0 s1 s2 s3 (by omega) (by intro r hr; simp at hr; rcases hr with rfl | rfl | rfl <;> simp <;> omega));clear HM;have HM:=HM';clear HM';have HS:=(HM.out.sub (rs':=[(w.heap.size + 1 + 1,0,0,0,0),(w.heap.size + 1,b0,b1,b2,b3),(w.heap.size,a0,a1,a2,a3)]) (by simp));refine hK.out _ _ (Or.inr HS) (fun _ => ?_);clear hK K HS;refine aF (i:=12) (by kernel_rfl) rfl (fun K hK => ?_);go_simp;refine hK.out _ _ (Or.inl rfl) (fun _ => ?_);clear hK K;refine bE (by kernel_rfl) ?_;go_wp2_with fail
    go_meet
    exact ⟨(v1.heap.size),s0,s1,s2,s3,rfl,hs,HVs,Lib.hid (HM.out.sub (by simp))⟩
  ·go_simp;have HM9:=HM;have HM':=Lib.hid (HM.out.new (w.heap.size + 1 + 1 + 1) 0 0 0 0 81 (by first | rfl | (simp; done)));have hga : w.heap.size + 1 + 1 < (w.heap.size + 1 + 1 + 1):=by first | exact HM.out.lt (b:=w.heap.size + 1 + 1) (c0:=0) (c1:=0) (c2:=0) (c3:=0) (by simp) | simpa using HM.out.lt (b:=w.heap.size + 1 + 1) (c0:=0) (c1:=0) (c2:=0) (c3:=0) (by simp) | (have:=HM.out.lt (b:=w.heap.size + 1 + 1) (c0:=0) (c1:=0) (c2:=0) (c3:=0) (by simp); simp at this ⊢; omega)
   clear HM;have HM:=HM';clear HM';have HS:=(HM.out.sub (rs':=[(w.heap.size + 1 + 1,0,0,0,0),(w.heap.size + 1,b0,b1,b2,b3),(w.heap.size,a0,a1,a2,a3)]) (by simp));refine hK.out _ _ (Or.inr HS) (fun _ => ?_);clear hK K HS;refine aF (i:=2) (by kernel_rfl) rfl (fun K hK => ?_);go_simp;refine (dD f F hf a0 a1 a2 a3 ha _).mono ?_
   rintro e v1 ⟨x0,x1,x2,x3,rfl,hx,hv,hbl⟩
   have HVx:=Lib.hid hv;clear hv;have HM':=Lib.hid (HM.out.on hbl);clear HM hbl;have HM:=HM';clear HM';have HS:=(HM.out.sub (rs':=[(w.heap.size + 1 + 1,0,0,0,0),(w.heap.size + 1,b0,b1,b2,b3),(w.heap.size,a0,a1,a2,a3)]) (by simp));refine hK.out _ _ (Or.inr HS) (fun _ => ?_);clear hK K HS;refine aF (i:=5) (by kernel_rfl) rfl (fun K hK => ?_);go_simp;refine (dD f F hf b0 b1 b2 b3 hb _).mono ?_
   rintro e v2 ⟨y0,y1,y2,y3,rfl,hy,hv,hbl⟩
   have HVy:=Lib.hid hv;clear hv;have HM':=Lib.hid (HM.out.on hbl);clear HM hbl;have HM:=HM';clear HM';have HS:=(HM.out.sub (rs':=[(w.heap.size + 1 + 1,0,0,0,0),(w.heap.size + 1,b0,b1,b2,b3),(w.heap.size,a0,a1,a2,a3)]) (by simp));refine hK.out _ _ (Or.inr HS) (fun _ => ?_);clear hK K HS;refine aF (i:=6) (by kernel_rfl) rfl (fun K hK => ?_);go_simp;refine (iH x0 x1 x2 x3 y0 y1 y2 y3 hx hy _).mono ?_
   rintro e v3 ⟨s0,s1,s2,s3,cc,rfl,hs,hcc,hv,hbl⟩
   have HVs:=Lib.hid (show aA s0 s1 s2 s3 = aA a0 a1 a2 a3 % F.M + aA b0 b1 b2 b3 % F.M by have:=Nat.mod_lt (aA a0 a1 a2 a3) hpos; have:=Nat.mod_lt (aA b0 b1 b2 b3) hpos; rw [HVx.out,HVy.out] at hv; omega);clear hv;have HM':=Lib.hid (HM.out.on hbl);clear HM hbl;have HM:=HM';clear HM';have HS:=(HM.out.sub (rs':=[(w.heap.size + 1 + 1,0,0,0,0),(w.heap.size + 1,b0,b1,b2,b3),(w.heap.size,a0,a1,a2,a3)]) (by simp));refine hK.out _ _ (Or.inr HS) (fun _ => ?_);clear hK K HS;have HS:=HM.out.sub (rs':=[(w.heap.size + 1 + 1,0,0,0,0),(w.heap.size + 1,b0,b1,b2,b3),(w.heap.size,a0,a1,a2,a3)]) (by simp);refine aE (i:=7) (v:=.tuple #[.agg #[.int .u64 s0,.int .u64 s1,.int .u64 s2,.int .u64 s3],.int .u64 (cc : Nat)]) rfl (by kernel_rfl) (by kernel_rfl) (by kernel_rfl) (by kernel_rfl) (fun _ _ _ h => h) HS (Or.inl ⟨by kernel_rfl,fun wx hx => ?_⟩) ?_
   ·clear HS hx;go_simp
   simp only [Act.put,List.setIfInBounds_toArray,List.set_cons_zero,List.set_cons_succ];refine aE (i:=8) (v:=.agg #[.int .u64 s0,.int .u64 s1,.int .u64 s2,.int .u64 s3]) rfl (by kernel_rfl) (by kernel_rfl) (by kernel_rfl) (by kernel_rfl) (fun _ _ _ h => h) HS (Or.inl ⟨by kernel_rfl,fun wx hx => ?_⟩) ?_
   ·clear HS hx;go_simp
   simp only [Act.put,List.setIfInBounds_toArray,List.set_cons_zero,List.set_cons_succ];refine aE (i:=9) (v:=.int .u64 (cc : Nat)) rfl (by kernel_rfl) (by kernel_rfl) (by kernel_rfl) (by kernel_rfl) (fun _ _ _ h => h) HS (Or.inl ⟨by kernel_rfl,fun wx hx => ?_⟩) ?_
   ·clear HS hx;go_simp
   simp only [Act.put,List.setIfInBounds_toArray,List.set_cons_zero,List.set_cons_succ];clear HS;have kr:=HM.out.row (b:=(w.heap.size + 1 + 1 + 1)) (c0:=0) (c1:=0) (c2:=0) (c3:=0) (by simp);have yl:=HM.out.lt (b:=(w.heap.size + 1 + 1 + 1)) (c0:=0) (c1:=0) (c2:=0) (c3:=0) (by simp);have y0:=kr.c0; have y1:=kr.c1; have y2:=kr.c2; have y3:=kr.c3; have yf:=kr.fr;clear kr;refine aF (i:=11) (by kernel_rfl) rfl (fun K hK => ?_);go_simp;have HM':=Lib.hid (HM.out.put s0 s1 s2 s3 (by omega) (by intro r hr; simp at hr; rcases hr with rfl | rfl | rfl <;> simp <;> omega));clear HM;have HM:=HM';clear HM';have HS:=(HM.out.sub (rs':=[(w.heap.size + 1 + 1,0,0,0,0),(w.heap.size + 1,b0,b1,b2,b3),(w.heap.size,a0,a1,a2,a3)]) (by simp));refine hK.out _ _ (Or.inr HS) (fun _ => ?_);clear hK K HS;refine aF (i:=12) (by kernel_rfl) rfl (fun K hK => ?_);go_simp;refine hK.out _ _ (Or.inl rfl) (fun _ => ?_);clear hK K;refine bE (by kernel_rfl) ?_;go_wp2_with fail
   go_meet
   exact ⟨(w.heap.size + 1 + 1 + 1),s0,s1,s2,s3,rfl,hs,HVs,Lib.hid (HM.out.sub (by simp))⟩
 case rest =>
  obtain ⟨gb,s0,s1,s2,s3,rfl,hs,HVs,HM'⟩:=hcut;clear HM;have HM:=HM';clear HM';have kr:=HM.out.row (b:=gb) (c0:=s0) (c1:=s1) (c2:=s2) (c3:=s3) (by simp);have x0:=kr.c0; have x1:=kr.c1; have x2:=kr.c2; have x3:=kr.c3;clear kr;have xl:=HM.out.lt (b:=gb) (c0:=s0) (c1:=s1) (c2:=s2) (c3:=s3) (by simp);go_wp2_with fail;refine (dD f F hf s0 s1 s2 s3 hs _).mono ?_
  rintro e w5 ⟨r0,r1,r2,r3,rfl,hr,hv,hbl⟩
  have HVr:=Lib.hid (show aA r0 r1 r2 r3 = (aA a0 a1 a2 a3 + aA b0 b1 b2 b3) % F.M by rw [hv,HVs.out,← Nat.add_mod]);clear hv;have HM':=Lib.hid (HM.out.on hbl);clear HM hbl;have HM:=HM';clear HM';clear x0 x1 x2 x3 xl;have kr:=HM.out.row (b:=w.heap.size + 1 + 1) (c0:=0) (c1:=0) (c2:=0) (c3:=0) (by simp);have y0:=kr.c0; have y1:=kr.c1; have y2:=kr.c2; have y3:=kr.c3; have yf:=kr.fr;clear kr;have yl:=HM.out.lt (b:=w.heap.size + 1 + 1) (c0:=0) (c1:=0) (c2:=0) (c3:=0) (by simp);go_wp2_with fail;refine bodyPost_ret (v:=.agg #[.int .u64 r0,.int .u64 r1,.int .u64 r2,.int .u64 r3]) (by simp [results,results113,go_sem, *]) rfl ?_;refine ⟨_,_,_,_,rfl,hr,HVr.out,?_⟩;exact aL HM.out.1 (by omega) _ _ _ _
set_option maxHeartbeats 2000000 in
theorem mC (f : Int) (F : FC) (hf : FieldIs f F) (a0 a1 a2 a3 : Nat) (ha : aY a0 a1 a2 a3) (w : World) :
  Calls prog 112 #[.int .i64 f,.agg #[.int .u64 a0,.int .u64 a1,.int .u64 a2,.int .u64 a3]] w (dE ((F.M - aA a0 a1 a2 a3 % F.M) % F.M) w):=by
 have hpos:=hf.ok.pos;have h2M:=hf.ok.two;have hG:=BF
 go_enter func112,ntmps112
 go_wp2_with fail;have HM:=Lib.hid (((Mem.nil w).new (w.heap.size) a0 a1 a2 a3 24 (by simp)).new (w.heap.size + 1) 0 0 0 0 24 (by simp));refine (dD f F hf a0 a1 a2 a3 ha _).mono ?_
 rintro e w1 ⟨x0,x1,x2,x3,rfl,hx,hv,hbl⟩
 have HVx:=Lib.hid hv;clear hv;have HM':=Lib.hid (HM.out.on hbl);clear HM hbl;have HM:=HM';clear HM';have hz1 : w.heap.size + 1 < w1.heap.size:=HM.out.lt (b:=w.heap.size + 1) (c0:=0) (c1:=0) (c2:=0) (c3:=0) (by simp);have HMo:=HM;have HM':=Lib.hid (HM.out.new w1.heap.size x0 x1 x2 x3 81 rfl);clear HM;have HM:=HM';clear HM'
 by_cases hz : aA a0 a1 a2 a3 % F.M = 0
 ·have hE : ∀ w,(Op.equalIn 10000 81 (.agg #[.int .u64 x0,.int .u64 x1,.int .u64 x2,.int .u64 x3]) (.agg #[.int .u64 0,.int .u64 0,.int .u64 0,.int .u64 0])).run prog w = .ok true w:=fun w => by
   have h:=lU 9998 x0 x1 x2 x3 0 0 0 0 w;rw [(fC hx vW).2 (HVx.out.trans (hz.trans rfl))] at h;exact h
  have HZ:=Lib.hid hz;clear hz;have kr:=HMo.out.row (b:=w.heap.size + 1) (c0:=0) (c1:=0) (c2:=0) (c3:=0) (by simp);have y0:=kr.c0; have y1:=kr.c1; have y2:=kr.c2; have y3:=kr.c3; have yf:=kr.fr;clear kr;go_wp2_with fail;refine bodyPost_ret (v:=.agg #[.int .u64 0,.int .u64 0,.int .u64 0,.int .u64 0]) (by simp [results,results112,go_sem, *]) rfl ?_;refine ⟨_,_,_,_,rfl,vW,by rw [HZ.out,Nat.sub_zero,Nat.mod_self]; rfl,?_⟩
  repeat (first | exact HMo.out.1 | refine Below.alloc ?_ (by first | (simp; done) | (simp; omega)) _ | refine Below.setCell ?_ (by first | (simp; done) | (simp; omega)) _)
 ·have hE : ∀ w,(Op.equalIn 10000 81 (.agg #[.int .u64 x0,.int .u64 x1,.int .u64 x2,.int .u64 x3]) (.agg #[.int .u64 0,.int .u64 0,.int .u64 0,.int .u64 0])).run prog w = .ok false w:=fun w => by
   have h:=lU 9998 x0 x1 x2 x3 0 0 0 0 w;rw [lV (fun q => hz (HVx.out.symm.trans (((fC hx vW).1 q).trans rfl)))] at h;exact h
  have HZ:=Lib.hid hz;clear hz HMo
  go_upto_region 4 with fail
  go_cut [6] (fun s6 wx => ∃ gb s0 s1 s2 s3 : Nat,s6 = .pointer (some ⟨gb,0,none⟩) ∧ aY s0 s1 s2 s3 ∧ Hid (aA s0 s1 s2 s3 = F.M - aA a0 a1 a2 a3 % F.M) ∧ Hid (Mem w wx [(gb,s0,s1,s2,s3),(w.heap.size + 1,0,0,0,0)]))
  case first =>
   refine bR (fun wx => Mem w wx [(w1.heap.size,x0,x1,x2,x3),(w.heap.size + 1,0,0,0,0),(w.heap.size,a0,a1,a2,a3)]) 9 (by kernel_rfl) ?_;have HM':=Lib.hid (HM.out.drewN 1);clear HM;have HM:=HM';clear HM';have HS:=HM.out.sub (rs':=[(w1.heap.size,x0,x1,x2,x3),(w.heap.size + 1,0,0,0,0),(w.heap.size,a0,a1,a2,a3)]) (by simp);refine aE (i:=0) (v:=.int .i64 f) rfl (by kernel_rfl) (by kernel_rfl) (by kernel_rfl) (by kernel_rfl) (fun _ _ _ h => h) HS (Or.inl ⟨by kernel_rfl,fun wx hx => ?_⟩) ?_
   ·clear HS hx;go_simp
   simp only [Act.put,List.setIfInBounds_toArray,List.set_cons_zero,List.set_cons_succ];refine aE (i:=2) (v:=.agg #[.int .u64 x0,.int .u64 x1,.int .u64 x2,.int .u64 x3]) rfl (by kernel_rfl) (by kernel_rfl) (by kernel_rfl) (by kernel_rfl) (fun _ _ _ h => h) HS (Or.inl ⟨by kernel_rfl,fun wx hx => ?_⟩) ?_
   ·have kr:=hx.row (b:=w1.heap.size) (c0:=x0) (c1:=x1) (c2:=x2) (c3:=x3) (by simp);have x0:=kr.c0; have x1:=kr.c1; have x2:=kr.c2; have x3:=kr.c3;clear kr HS hx;go_simp
   simp only [Act.put,List.setIfInBounds_toArray,List.set_cons_zero,List.set_cons_succ];clear HS;refine cW (i:=1) (j:=7) (by kernel_rfl) rfl rfl (fun K hK => ?_) (fun K hK => ?_)
   ·go_simp;refine (eR f F hf _).mono ?_
    rintro e v1 ⟨rfl,hbl⟩
    have HM':=Lib.hid (HM.out.on hbl);clear HM hbl;have HM:=HM';clear HM';have HS:=(HM.out.sub (rs':=[(w1.heap.size,x0,x1,x2,x3),(w.heap.size + 1,0,0,0,0),(w.heap.size,a0,a1,a2,a3)]) (by simp));refine hK.out _ _ (Or.inr HS) (fun _ => ?_);clear hK K HS;refine cW (i:=3) (j:=7) (by kernel_rfl) rfl rfl (fun K hK => ?_) (fun K hK => ?_)
    ·go_simp;refine (fF F.m0 F.m1 F.m2 F.m3 x0 x1 x2 x3 hf.ok.okm hx _).mono ?_
     rintro e v2 ⟨s0,s1,s2,s3,cc,rfl,hs,hcc,hv,hbl⟩
     have HVs:=Lib.hid (show aA s0 s1 s2 s3 = F.M - aA a0 a1 a2 a3 % F.M by have:=Nat.mod_lt (aA a0 a1 a2 a3) hpos; have:=bH hs; rw [HVx.out,show aA F.m0 F.m1 F.m2 F.m3 = F.M from rfl] at hv; omega);clear hv;have HM':=Lib.hid (HM.out.on hbl);clear HM hbl;have HM:=HM';clear HM';have HS:=(HM.out.sub (rs':=[(w1.heap.size,x0,x1,x2,x3),(w.heap.size + 1,0,0,0,0),(w.heap.size,a0,a1,a2,a3)]) (by simp));refine hK.out _ _ (Or.inr HS) (fun _ => ?_);clear hK K HS;have HS:=HM.out.sub (rs':=[(w1.heap.size,x0,x1,x2,x3),(w.heap.size + 1,0,0,0,0),(w.heap.size,a0,a1,a2,a3)]) (by simp);refine aE (i:=4) (v:=.tuple #[.agg #[.int .u64 s0,.int .u64 s1,.int .u64 s2,.int .u64 s3],.int .u64 (cc : Nat)]) rfl (by kernel_rfl) (by kernel_rfl) (by kernel_rfl) (by kernel_rfl) (fun _ _ _ h => h) HS (Or.inl ⟨by kernel_rfl,fun wx hx => ?_⟩) ?_
     ·clear HS hx;go_simp
     simp only [Act.put,List.setIfInBounds_toArray,List.set_cons_zero,List.set_cons_succ];refine aE (i:=5) (v:=.agg #[.int .u64 s0,.int .u64 s1,.int .u64 s2,.int .u64 s3]) rfl (by kernel_rfl) (by kernel_rfl) (by kernel_rfl) (by kernel_rfl) (fun _ _ _ h => h) HS (Or.inl ⟨by kernel_rfl,fun wx hx => ?_⟩) ?_
     ·clear HS hx;go_simp
     simp only [Act.put,List.setIfInBounds_toArray,List.set_cons_zero,List.set_cons_succ];refine aE (i:=6) (v:=.int .u64 (cc : Nat)) rfl (by kernel_rfl) (by kernel_rfl) (by kernel_rfl) (by kernel_rfl) (fun _ _ _ h => h) HS (Or.inl ⟨by kernel_rfl,fun wx hx => ?_⟩) ?_
     ·clear HS hx;go_simp
     simp only [Act.put,List.setIfInBounds_toArray,List.set_cons_zero,List.set_cons_succ];clear HS;refine aF (i:=7) (by kernel_rfl) rfl (fun K hK => ?_);go_simp;have HM9:=HM;have HM':=Lib.hid (HM.out.new (v2.heap.size) 0 0 0 0 81 (by first | rfl | (simp; done)));have hga : w1.heap.size < (v2.heap.size):=by first | exact HM.out.lt (b:=w1.heap.size) (c0:=x0) (c1:=x1) (c2:=x2) (c3:=x3) (by simp) | simpa using HM.out.lt (b:=w1.heap.size) (c0:=x0) (c1:=x1) (c2:=x2) (c3:=x3) (by simp) | (have:=HM.out.lt (b:=w1.heap.size) (c0:=x0) (c1:=x1) (c2:=x2) (c3:=x3) (by simp); simp at this ⊢; omega)
     clear HM;have HM:=HM';clear HM';have HS:=(HM.out.sub (rs':=[(w1.heap.size,x0,x1,x2,x3),(w.heap.size + 1,0,0,0,0),(w.heap.size,a0,a1,a2,a3)]) (by simp));refine hK.out _ _ (Or.inr HS) (fun _ => ?_);clear hK K HS;have kr:=HM.out.row (b:=(v2.heap.size)) (c0:=0) (c1:=0) (c2:=0) (c3:=0) (by simp);have yl:=HM.out.lt (b:=(v2.heap.size)) (c0:=0) (c1:=0) (c2:=0) (c3:=0) (by simp);have y0:=kr.c0; have y1:=kr.c1; have y2:=kr.c2; have y3:=kr.c3; have yf:=kr.fr;clear kr;refine aF (i:=8) (by kernel_rfl) rfl (fun K hK => ?_);go_simp;have HM':=Lib.hid (HM9.out.new (v2.heap.size) s0 s1 s2 s3 81 (by first | rfl | (simp; done)));clear HM;have HM:=HM';clear HM';have HS:=(HM.out.sub (rs':=[(w1.heap.size,x0,x1,x2,x3),(w.heap.size + 1,0,0,0,0),(w.heap.size,a0,a1,a2,a3)]) (by simp));refine hK.out _ _ (Or.inr HS) (fun _ => ?_);clear hK K HS;refine aF (i:=9) (by kernel_rfl) rfl (fun K hK => ?_);go_simp;refine hK.out _ _ (Or.inl rfl) (fun _ => ?_);clear hK K;refine bE (by kernel_rfl) ?_;go_wp2_with fail
     go_meet
     exact ⟨(v2.heap.size),s0,s1,s2,s3,rfl,hs,HVs,Lib.hid (HM.out.sub (by simp))⟩
    ·go_simp;have HM9:=HM;have HM':=Lib.hid (HM.out.new (v1.heap.size) 0 0 0 0 81 (by first | rfl | (simp; done)));have hga : w1.heap.size < (v1.heap.size):=by first | exact HM.out.lt (b:=w1.heap.size) (c0:=x0) (c1:=x1) (c2:=x2) (c3:=x3) (by simp) | simpa using HM.out.lt (b:=w1.heap.size) (c0:=x0) (c1:=x1) (c2:=x2) (c3:=x3) (by simp) | (have:=HM.out.lt (b:=w1.heap.size) (c0:=x0) (c1:=x1) (c2:=x2) (c3:=x3) (by simp); simp at this ⊢; omega)
     clear HM;have HM:=HM';clear HM';have HS:=(HM.out.sub (rs':=[(w1.heap.size,x0,x1,x2,x3),(w.heap.size + 1,0,0,0,0),(w.heap.size,a0,a1,a2,a3)]) (by simp));refine hK.out _ _ (Or.inr HS) (fun _ => ?_);clear hK K HS;refine aF (i:=3) (by kernel_rfl) rfl (fun K hK => ?_);go_simp;refine (fF F.m0 F.m1 F.m2 F.m3 x0 x1 x2 x3 hf.ok.okm hx _).mono ?_
     rintro e v2 ⟨s0,s1,s2,s3,cc,rfl,hs,hcc,hv,hbl⟩
     have HVs:=Lib.hid (show aA s0 s1 s2 s3 = F.M - aA a0 a1 a2 a3 % F.M by have:=Nat.mod_lt (aA a0 a1 a2 a3) hpos; have:=bH hs; rw [HVx.out,show aA F.m0 F.m1 F.m2 F.m3 = F.M from rfl] at hv; omega);clear hv;have HM':=Lib.hid (HM.out.on hbl);clear HM hbl;have HM:=HM';clear HM';have HS:=(HM.out.sub (rs':=[(w1.heap.size,x0,x1,x2,x3),(w.heap.size + 1,0,0,0,0),(w.heap.size,a0,a1,a2,a3)]) (by simp));refine hK.out _ _ (Or.inr HS) (fun _ => ?_);clear hK K HS;have HS:=HM.out.sub (rs':=[(w1.heap.size,x0,x1,x2,x3),(w.heap.size + 1,0,0,0,0),(w.heap.size,a0,a1,a2,a3)]) (by simp);refine aE (i:=4) (v:=.tuple #[.agg #[.int .u64 s0,.int .u64 s1,.int .u64 s2,.int .u64 s3],.int .u64 (cc : Nat)]) rfl (by kernel_rfl) (by kernel_rfl) (by kernel_rfl) (by kernel_rfl) (fun _ _ _ h => h) HS (Or.inl ⟨by kernel_rfl,fun wx hx => ?_⟩) ?_
     ·clear HS hx;go_simp
     simp only [Act.put,List.setIfInBounds_toArray,List.set_cons_zero,List.set_cons_succ];refine aE (i:=5) (v:=.agg #[.int .u64 s0,.int .u64 s1,.int .u64 s2,.int .u64 s3]) rfl (by kernel_rfl) (by kernel_rfl) (by kernel_rfl) (by kernel_rfl) (fun _ _ _ h => h) HS (Or.inl ⟨by kernel_rfl,fun wx hx => ?_⟩) ?_
     ·clear HS hx;go_simp
     simp only [Act.put,List.setIfInBounds_toArray,List.set_cons_zero,List.set_cons_succ];refine aE (i:=6) (v:=.int .u64 (cc : Nat)) rfl (by kernel_rfl) (by kernel_rfl) (by kernel_rfl) (by kernel_rfl) (fun _ _ _ h => h) HS (Or.inl ⟨by kernel_rfl,fun wx hx => ?_⟩) ?_
     ·clear HS hx;go_simp
     simp only [Act.put,List.setIfInBounds_toArray,List.set_cons_zero,List.set_cons_succ];clear HS;have kr:=HM.out.row (b:=(v1.heap.size)) (c0:=0) (c1:=0) (c2:=0) (c3:=0) (by simp);have yl:=HM.out.lt (b:=(v1.heap.size)) (c0:=0) (c1:=0) (c2:=0) (c3:=0) (by simp);have y0:=kr.c0; have y1:=kr.c1; have y2:=kr.c2; have y3:=kr.c3; have yf:=kr.fr;clear kr;refine aF (i:=8) (by kernel_rfl) rfl (fun K hK => ?_);go_simp;have HM':=Lib.hid (HM.out.put s0 s1 s2 s3 (by omega) (by intro r hr; simp at hr; rcases hr with rfl | rfl | rfl <;> simp <;> omega));clear HM;have HM:=HM';clear HM';have HS:=(HM.out.sub (rs':=[(w1.heap.size,x0,x1,x2,x3),(w.heap.size + 1,0,0,0,0),(w.heap.size,a0,a1,a2,a3)]) (by simp));refine hK.out _ _ (Or.inr HS) (fun _ => ?_);clear hK K HS;refine aF (i:=9) (by kernel_rfl) rfl (fun K hK => ?_);go_simp;refine hK.out _ _ (Or.inl rfl) (fun _ => ?_);clear hK K;refine bE (by kernel_rfl) ?_;go_wp2_with fail
     go_meet
     exact ⟨(v1.heap.size),s0,s1,s2,s3,rfl,hs,HVs,Lib.hid (HM.out.sub (by simp))⟩
   ·go_simp;have HM9:=HM;have HM':=Lib.hid (HM.out.new (w1.heap.size + 1) 0 0 0 0 81 (by first | rfl | (simp; done)));have hga : w1.heap.size < (w1.heap.size + 1):=by first | exact HM.out.lt (b:=w1.heap.size) (c0:=x0) (c1:=x1) (c2:=x2) (c3:=x3) (by simp) | simpa using HM.out.lt (b:=w1.heap.size) (c0:=x0) (c1:=x1) (c2:=x2) (c3:=x3) (by simp) | (have:=HM.out.lt (b:=w1.heap.size) (c0:=x0) (c1:=x1) (c2:=x2) (c3:=x3) (by simp); simp at this ⊢; omega)
    clear HM;have HM:=HM';clear HM';have HS:=(HM.out.sub (rs':=[(w1.heap.size,x0,x1,x2,x3),(w.heap.size + 1,0,0,0,0),(w.heap.size,a0,a1,a2,a3)]) (by simp));refine hK.out _ _ (Or.inr HS) (fun _ => ?_);clear hK K HS;refine aF (i:=1) (by kernel_rfl) rfl (fun K hK => ?_);go_simp;refine (eR f F hf _).mono ?_
    rintro e v1 ⟨rfl,hbl⟩
    have HM':=Lib.hid (HM.out.on hbl);clear HM hbl;have HM:=HM';clear HM';have HS:=(HM.out.sub (rs':=[(w1.heap.size,x0,x1,x2,x3),(w.heap.size + 1,0,0,0,0),(w.heap.size,a0,a1,a2,a3)]) (by simp));refine hK.out _ _ (Or.inr HS) (fun _ => ?_);clear hK K HS;refine aF (i:=3) (by kernel_rfl) rfl (fun K hK => ?_);go_simp;refine (fF F.m0 F.m1 F.m2 F.m3 x0 x1 x2 x3 hf.ok.okm hx _).mono ?_
    rintro e v2 ⟨s0,s1,s2,s3,cc,rfl,hs,hcc,hv,hbl⟩
    have HVs:=Lib.hid (show aA s0 s1 s2 s3 = F.M - aA a0 a1 a2 a3 % F.M by have:=Nat.mod_lt (aA a0 a1 a2 a3) hpos; have:=bH hs; rw [HVx.out,show aA F.m0 F.m1 F.m2 F.m3 = F.M from rfl] at hv; omega);clear hv;have HM':=Lib.hid (HM.out.on hbl);clear HM hbl;have HM:=HM';clear HM';have HS:=(HM.out.sub (rs':=[(w1.heap.size,x0,x1,x2,x3),(w.heap.size + 1,0,0,0,0),(w.heap.size,a0,a1,a2,a3)]) (by simp));refine hK.out _ _ (Or.inr HS) (fun _ => ?_);clear hK K HS;have HS:=HM.out.sub (rs':=[(w1.heap.size,x0,x1,x2,x3),(w.heap.size + 1,0,0,0,0),(w.heap.size,a0,a1,a2,a3)]) (by simp);refine aE (i:=4) (v:=.tuple #[.agg #[.int .u64 s0,.int .u64 s1,.int .u64 s2,.int .u64 s3],.int .u64 (cc : Nat)]) rfl (by kernel_rfl) (by kernel_rfl) (by kernel_rfl) (by kernel_rfl) (fun _ _ _ h => h) HS (Or.inl ⟨by kernel_rfl,fun wx hx => ?_⟩) ?_
    ·clear HS hx;go_simp
    simp only [Act.put,List.setIfInBounds_toArray,List.set_cons_zero,List.set_cons_succ];refine aE (i:=5) (v:=.agg #[.int .u64 s0,.int .u64 s1,.int .u64 s2,.int .u64 s3]) rfl (by kernel_rfl) (by kernel_rfl) (by kernel_rfl) (by kernel_rfl) (fun _ _ _ h => h) HS (Or.inl ⟨by kernel_rfl,fun wx hx => ?_⟩) ?_
    ·clear HS hx;go_simp
    simp only [Act.put,List.setIfInBounds_toArray,List.set_cons_zero,List.set_cons_succ];refine aE (i:=6) (v:=.int .u64 (cc : Nat)) rfl (by kernel_rfl) (by kernel_rfl) (by kernel_rfl) (by kernel_rfl) (fun _ _ _ h => h) HS (Or.inl ⟨by kernel_rfl,fun wx hx => ?_⟩) ?_
    ·clear HS hx;go_simp
    simp only [Act.put,List.setIfInBounds_toArray,List.set_cons_zero,List.set_cons_succ];clear HS;have kr:=HM.out.row (b:=(w1.heap.size + 1)) (c0:=0) (c1:=0) (c2:=0) (c3:=0) (by simp);have yl:=HM.out.lt (b:=(w1.heap.size + 1)) (c0:=0) (c1:=0) (c2:=0) (c3:=0) (by simp);have y0:=kr.c0; have y1:=kr.c1; have y2:=kr.c2; have y3:=kr.c3; have yf:=kr.fr;clear kr;refine aF (i:=8) (by kernel_rfl) rfl (fun K hK => ?_);go_simp;have HM':=Lib.hid (HM.out.put s0 s1 s2 s3 (by omega) (by intro r hr; simp at hr; rcases hr with rfl | rfl | rfl <;> simp <;> omega));clear HM;have HM:=HM';clear HM';have HS:=(HM.out.sub (rs':=[(w1.heap.size,x0,x1,x2,x3),(w.heap.size + 1,0,0,0,0),(w.heap.size,a0,a1,a2,a3)]) (by simp));refine hK.out _ _ (Or.inr HS) (fun _ => ?_);clear hK K HS;refine aF (i:=9) (by kernel_rfl) rfl (fun K hK => ?_);go_simp;refine hK.out _ _ (Or.inl rfl) (fun _ => ?_);clear hK K;refine bE (by kernel_rfl) ?_;go_wp2_with fail
    go_meet
    exact ⟨(w1.heap.size + 1),s0,s1,s2,s3,rfl,hs,HVs,Lib.hid (HM.out.sub (by simp))⟩
  case rest =>
   obtain ⟨gb,s0,s1,s2,s3,rfl,hs,HVs,HM'⟩:=hcut;clear HM;have HM:=HM';clear HM';have kr:=HM.out.row (b:=gb) (c0:=s0) (c1:=s1) (c2:=s2) (c3:=s3) (by simp);have x0:=kr.c0; have x1:=kr.c1; have x2:=kr.c2; have x3:=kr.c3;clear kr;have xl:=HM.out.lt (b:=gb) (c0:=s0) (c1:=s1) (c2:=s2) (c3:=s3) (by simp);have kr:=HM.out.row (b:=w.heap.size + 1) (c0:=0) (c1:=0) (c2:=0) (c3:=0) (by simp);have y0:=kr.c0; have y1:=kr.c1; have y2:=kr.c2; have y3:=kr.c3; have yf:=kr.fr;clear kr;have yl:=HM.out.lt (b:=w.heap.size + 1) (c0:=0) (c1:=0) (c2:=0) (c3:=0) (by simp);go_wp2_with fail;refine bodyPost_ret (v:=.agg #[.int .u64 s0,.int .u64 s1,.int .u64 s2,.int .u64 s3]) (by simp [results,results112,go_sem, *]) rfl ?_;refine ⟨_,_,_,_,rfl,hs,by rw [HVs.out,Nat.mod_eq_of_lt (Nat.sub_lt hpos (Nat.pos_of_ne_zero HZ.out))],?_⟩;exact aL HM.out.1 (by omega) _ _ _ _
set_option maxHeartbeats 2000000 in
theorem WW (f : Int) (F : FC) (hf : FieldIs f F) (a0 a1 a2 a3 b0 b1 b2 b3 : Nat) (ha : aY a0 a1 a2 a3) (hb : aY b0 b1 b2 b3) (w : World) :
  Calls prog 117 #[.int .i64 f,.agg #[.int .u64 a0,.int .u64 a1,.int .u64 a2,.int .u64 a3],.agg #[.int .u64 b0,.int .u64 b1,.int .u64 b2,.int .u64 b3]] w (dE ((aA a0 a1 a2 a3 + (F.M - aA b0 b1 b2 b3 % F.M)) % F.M) w):=by
 go_enter func117,ntmps117
 go_wp2_with fail;have HM:=Lib.hid ((((Mem.nil w).new (w.heap.size) a0 a1 a2 a3 24 (by simp)).new (w.heap.size + 1) b0 b1 b2 b3 24 (by simp)).new (w.heap.size + 1 + 1) 0 0 0 0 24 (by simp));refine bR (fun wx => Mem w wx [(w.heap.size + 1,b0,b1,b2,b3),(w.heap.size,a0,a1,a2,a3)]) 6 (by kernel_rfl) ?_;have HM':=Lib.hid (HM.out.drewN 1);clear HM;have HM:=HM';clear HM';have HS:=HM.out.sub (rs':=[(w.heap.size + 1,b0,b1,b2,b3),(w.heap.size,a0,a1,a2,a3)]) (by simp);refine aE (i:=0) (v:=.int .i64 f) rfl (by kernel_rfl) (by kernel_rfl) (by kernel_rfl) (by kernel_rfl) (fun _ _ _ h => h) HS (Or.inl ⟨by kernel_rfl,fun wx hx => ?_⟩) ?_
 ·clear HS hx;go_simp
 simp only [Act.put,List.setIfInBounds_toArray,List.set_cons_zero,List.set_cons_succ];refine aE (i:=1) (v:=.agg #[.int .u64 a0,.int .u64 a1,.int .u64 a2,.int .u64 a3]) rfl (by kernel_rfl) (by kernel_rfl) (by kernel_rfl) (by kernel_rfl) (fun _ _ _ h => h) HS (Or.inl ⟨by kernel_rfl,fun wx hx => ?_⟩) ?_
 ·have kr:=hx.row (b:=w.heap.size) (c0:=a0) (c1:=a1) (c2:=a2) (c3:=a3) (by simp);have x0:=kr.c0; have x1:=kr.c1; have x2:=kr.c2; have x3:=kr.c3;clear kr HS hx;go_simp
 simp only [Act.put,List.setIfInBounds_toArray,List.set_cons_zero,List.set_cons_succ];refine aE (i:=2) (v:=.int .i64 f) rfl (by kernel_rfl) (by kernel_rfl) (by kernel_rfl) (by kernel_rfl) (fun _ _ _ h => h) HS (Or.inl ⟨by kernel_rfl,fun wx hx => ?_⟩) ?_
 ·clear HS hx;go_simp
 simp only [Act.put,List.setIfInBounds_toArray,List.set_cons_zero,List.set_cons_succ];refine aE (i:=3) (v:=.agg #[.int .u64 b0,.int .u64 b1,.int .u64 b2,.int .u64 b3]) rfl (by kernel_rfl) (by kernel_rfl) (by kernel_rfl) (by kernel_rfl) (fun _ _ _ h => h) HS (Or.inl ⟨by kernel_rfl,fun wx hx => ?_⟩) ?_
 ·have kr:=hx.row (b:=w.heap.size + 1) (c0:=b0) (c1:=b1) (c2:=b2) (c3:=b3) (by simp);have x0:=kr.c0; have x1:=kr.c1; have x2:=kr.c2; have x3:=kr.c3;clear kr HS hx;go_simp
 simp only [Act.put,List.setIfInBounds_toArray,List.set_cons_zero,List.set_cons_succ];clear HS;refine aF (i:=4) (by kernel_rfl) rfl (fun K hK => ?_);go_simp;refine (mC f F hf b0 b1 b2 b3 hb _).mono ?_
 rintro e w1 ⟨n0,n1,n2,n3,rfl,hn,hv,hbl⟩
 have HVn:=Lib.hid hv;clear hv;have HM':=Lib.hid (HM.out.on hbl);clear HM hbl;have HM:=HM';clear HM';have HS:=HM.out.sub (rs':=[(w.heap.size + 1,b0,b1,b2,b3),(w.heap.size,a0,a1,a2,a3)]) (by simp);refine hK.out _ _ (Or.inr HS) (fun _ => ?_);clear hK K;clear HS;refine aF (i:=5) (by kernel_rfl) rfl (fun K hK => ?_);go_simp;refine (zA f F hf a0 a1 a2 a3 n0 n1 n2 n3 ha hn _).mono ?_
 rintro e w2 ⟨s0,s1,s2,s3,rfl,hs,hv,hbl⟩
 have HVs:=Lib.hid (show aA s0 s1 s2 s3 = (aA a0 a1 a2 a3 + (F.M - aA b0 b1 b2 b3 % F.M)) % F.M by rw [hv,HVn.out,Nat.add_mod_mod]);clear hv;have HM':=Lib.hid (HM.out.on hbl);clear HM hbl;have HM:=HM';clear HM';have HS:=HM.out.sub (rs':=[(w.heap.size + 1,b0,b1,b2,b3),(w.heap.size,a0,a1,a2,a3)]) (by simp);refine hK.out _ _ (Or.inr HS) (fun _ => ?_);clear hK K;clear HS;have kr:=HM.out.row (b:=w.heap.size + 1 + 1) (c0:=0) (c1:=0) (c2:=0) (c3:=0) (by simp);have y0:=kr.c0; have y1:=kr.c1; have y2:=kr.c2; have y3:=kr.c3; have yf:=kr.fr;clear kr;have yl:=HM.out.lt (b:=w.heap.size + 1 + 1) (c0:=0) (c1:=0) (c2:=0) (c3:=0) (by simp);refine aF (i:=6) (by kernel_rfl) rfl (fun K hK => ?_);go_simp;have HM':=Lib.hid ((HM.out.sub (rs':=[(w.heap.size + 1 + 1,0,0,0,0),(w.heap.size + 1,b0,b1,b2,b3),(w.heap.size,a0,a1,a2,a3)]) (by simp)).put s0 s1 s2 s3 (by omega) (by intro r hr; simp at hr; rcases hr with rfl | rfl <;> simp <;> omega));clear HM;have HM:=HM';clear HM';refine hK.out _ _ (Or.inl rfl) (fun _ => ?_);clear hK K;refine bE (by kernel_rfl) ?_;go_wp2_with fail;refine bodyPost_ret (v:=.agg #[.int .u64 s0,.int .u64 s1,.int .u64 s2,.int .u64 s3]) (by simp [results,results117,go_sem, *]) rfl ?_;exact ⟨_,_,_,_,rfl,hs,HVs.out,HM.out.1⟩
theorem Pw {F : FC} (hF : F.Ok) (A B : Nat) : A % F.M * (B % F.M) * F.Ri % F.M * aA F.s0 F.s1 F.s2 F.s3 * F.Ri % F.M = A * B % F.M:=by
 rw [De hF];unfold kp;have h : A % F.M * (B % F.M) * F.Ri % F.M * F.R % F.M = A * B * F.R * F.Ri % F.M:=by
  have e : A % F.M * (B % F.M) * F.Ri % F.M * F.R % F.M = A * B * F.Ri * F.R % F.M:=kI ((oF _ _).trans (kI (kI (oF _ _) (oF _ _)) rfl)) rfl;rw [e,Nat.mul_right_comm]
 rw [h,jP hF]
set_option maxHeartbeats 2000000 in
theorem qD (f : Int) (F : FC) (hf : FieldIs f F) (a0 a1 a2 a3 b0 b1 b2 b3 : Nat) (ha : aY a0 a1 a2 a3) (hb : aY b0 b1 b2 b3) (w : World) :
  Calls prog 114 #[.int .i64 f,.agg #[.int .u64 a0,.int .u64 a1,.int .u64 a2,.int .u64 a3],.agg #[.int .u64 b0,.int .u64 b1,.int .u64 b2,.int .u64 b3]] w (dE (aA a0 a1 a2 a3 * aA b0 b1 b2 b3 % F.M) w):=by
 have hpos:=hf.ok.pos
 go_enter func114,ntmps114
 go_wp2_with fail;have HM:=Lib.hid ((((Mem.nil w).new (w.heap.size) a0 a1 a2 a3 24 (by simp)).new (w.heap.size + 1) b0 b1 b2 b3 24 (by simp)).new (w.heap.size + 1 + 1) 0 0 0 0 24 (by simp));refine bR (fun wx => Mem w wx [(w.heap.size + 1,b0,b1,b2,b3),(w.heap.size,a0,a1,a2,a3)]) 12 (by kernel_rfl) ?_;have HM':=Lib.hid (HM.out.drewN 1);clear HM;have HM:=HM';clear HM';have HS:=HM.out.sub (rs':=[(w.heap.size + 1,b0,b1,b2,b3),(w.heap.size,a0,a1,a2,a3)]) (by simp);refine aE (i:=0) (v:=.int .i64 f) rfl (by kernel_rfl) (by kernel_rfl) (by kernel_rfl) (by kernel_rfl) (fun _ _ _ h => h) HS (Or.inl ⟨by kernel_rfl,fun wx hx => ?_⟩) ?_
 ·clear HS hx;go_simp
 simp only [Act.put,List.setIfInBounds_toArray,List.set_cons_zero,List.set_cons_succ];refine aE (i:=1) (v:=.int .i64 f) rfl (by kernel_rfl) (by kernel_rfl) (by kernel_rfl) (by kernel_rfl) (fun _ _ _ h => h) HS (Or.inl ⟨by kernel_rfl,fun wx hx => ?_⟩) ?_
 ·clear HS hx;go_simp
 simp only [Act.put,List.setIfInBounds_toArray,List.set_cons_zero,List.set_cons_succ];refine aE (i:=2) (v:=.int .i64 f) rfl (by kernel_rfl) (by kernel_rfl) (by kernel_rfl) (by kernel_rfl) (fun _ _ _ h => h) HS (Or.inl ⟨by kernel_rfl,fun wx hx => ?_⟩) ?_
 ·clear HS hx;go_simp
 simp only [Act.put,List.setIfInBounds_toArray,List.set_cons_zero,List.set_cons_succ];refine aE (i:=3) (v:=.agg #[.int .u64 a0,.int .u64 a1,.int .u64 a2,.int .u64 a3]) rfl (by kernel_rfl) (by kernel_rfl) (by kernel_rfl) (by kernel_rfl) (fun _ _ _ h => h) HS (Or.inl ⟨by kernel_rfl,fun wx hx => ?_⟩) ?_
 ·have kr:=hx.row (b:=w.heap.size) (c0:=a0) (c1:=a1) (c2:=a2) (c3:=a3) (by simp);have x0:=kr.c0; have x1:=kr.c1; have x2:=kr.c2; have x3:=kr.c3;clear kr HS hx;go_simp
 simp only [Act.put,List.setIfInBounds_toArray,List.set_cons_zero,List.set_cons_succ];refine aE (i:=5) (v:=.int .i64 f) rfl (by kernel_rfl) (by kernel_rfl) (by kernel_rfl) (by kernel_rfl) (fun _ _ _ h => h) HS (Or.inl ⟨by kernel_rfl,fun wx hx => ?_⟩) ?_
 ·clear HS hx;go_simp
 simp only [Act.put,List.setIfInBounds_toArray,List.set_cons_zero,List.set_cons_succ];refine aE (i:=6) (v:=.agg #[.int .u64 b0,.int .u64 b1,.int .u64 b2,.int .u64 b3]) rfl (by kernel_rfl) (by kernel_rfl) (by kernel_rfl) (by kernel_rfl) (fun _ _ _ h => h) HS (Or.inl ⟨by kernel_rfl,fun wx hx => ?_⟩) ?_
 ·have kr:=hx.row (b:=w.heap.size + 1) (c0:=b0) (c1:=b1) (c2:=b2) (c3:=b3) (by simp);have x0:=kr.c0; have x1:=kr.c1; have x2:=kr.c2; have x3:=kr.c3;clear kr HS hx;go_simp
 simp only [Act.put,List.setIfInBounds_toArray,List.set_cons_zero,List.set_cons_succ];refine aE (i:=9) (v:=.int .i64 f) rfl (by kernel_rfl) (by kernel_rfl) (by kernel_rfl) (by kernel_rfl) (fun _ _ _ h => h) HS (Or.inl ⟨by kernel_rfl,fun wx hx => ?_⟩) ?_
 ·clear HS hx;go_simp
 simp only [Act.put,List.setIfInBounds_toArray,List.set_cons_zero,List.set_cons_succ];clear HS;refine aF (i:=4) (by kernel_rfl) rfl (fun K hK => ?_);go_simp;refine (dD f F hf a0 a1 a2 a3 ha _).mono ?_
 rintro e w1 ⟨x0,x1,x2,x3,rfl,hx,hv,hbl⟩
 have HVx:=Lib.hid hv;clear hv;have HM':=Lib.hid (HM.out.on hbl);clear HM hbl;have HM:=HM';clear HM';have HS:=HM.out.sub (rs':=[(w.heap.size + 1,b0,b1,b2,b3),(w.heap.size,a0,a1,a2,a3)]) (by simp);refine hK.out _ _ (Or.inr HS) (fun _ => ?_);clear hK K;clear HS;refine aF (i:=7) (by kernel_rfl) rfl (fun K hK => ?_);go_simp;refine (dD f F hf b0 b1 b2 b3 hb _).mono ?_
 rintro e w2 ⟨y0,y1,y2,y3,rfl,hy,hv,hbl⟩
 have HVy:=Lib.hid hv;clear hv;have HM':=Lib.hid (HM.out.on hbl);clear HM hbl;have HM:=HM';clear HM';have HS:=HM.out.sub (rs':=[(w.heap.size + 1,b0,b1,b2,b3),(w.heap.size,a0,a1,a2,a3)]) (by simp);refine hK.out _ _ (Or.inr HS) (fun _ => ?_);clear hK K;clear HS;refine aF (i:=8) (by kernel_rfl) rfl (fun K hK => ?_);go_simp;refine (AD f F hf x0 x1 x2 x3 y0 y1 y2 y3 hx hy (by rw [HVx.out]; exact Nat.mod_lt _ hpos) _).mono ?_
 rintro e w3 ⟨z0,z1,z2,z3,rfl,hz,hv,hbl⟩
 have HVz:=Lib.hid hv;clear hv;have HM':=Lib.hid (HM.out.on hbl);clear HM hbl;have HM:=HM';clear HM';have HS:=HM.out.sub (rs':=[(w.heap.size + 1,b0,b1,b2,b3),(w.heap.size,a0,a1,a2,a3)]) (by simp);refine hK.out _ _ (Or.inr HS) (fun _ => ?_);clear hK K;clear HS;refine aF (i:=10) (by kernel_rfl) rfl (fun K hK => ?_);go_simp;refine (GT f F hf _).mono ?_
 rintro e w4 ⟨rfl,hbl⟩
 have HM':=Lib.hid (HM.out.on hbl);clear HM hbl;have HM:=HM';clear HM';have HS:=HM.out.sub (rs':=[(w.heap.size + 1,b0,b1,b2,b3),(w.heap.size,a0,a1,a2,a3)]) (by simp);refine hK.out _ _ (Or.inr HS) (fun _ => ?_);clear hK K;clear HS;refine aF (i:=11) (by kernel_rfl) rfl (fun K hK => ?_);go_simp;refine (AD f F hf z0 z1 z2 z3 F.s0 F.s1 F.s2 F.s3 hz hf.ok.oks (by rw [HVz.out]; exact Nat.mod_lt _ hpos) _).mono ?_
 rintro e w5 ⟨s0,s1,s2,s3,rfl,hs,hv,hbl⟩
 have HVs:=Lib.hid (show aA s0 s1 s2 s3 = aA a0 a1 a2 a3 * aA b0 b1 b2 b3 % F.M by rw [hv,HVz.out,HVx.out,HVy.out]; exact Pw hf.ok _ _);clear hv;have HM':=Lib.hid (HM.out.on hbl);clear HM hbl;have HM:=HM';clear HM';have HS:=HM.out.sub (rs':=[(w.heap.size + 1,b0,b1,b2,b3),(w.heap.size,a0,a1,a2,a3)]) (by simp);refine hK.out _ _ (Or.inr HS) (fun _ => ?_);clear hK K;clear HS;have kr:=HM.out.row (b:=w.heap.size + 1 + 1) (c0:=0) (c1:=0) (c2:=0) (c3:=0) (by simp);have y0:=kr.c0; have y1:=kr.c1; have y2:=kr.c2; have y3:=kr.c3; have yf:=kr.fr;clear kr;have yl:=HM.out.lt (b:=w.heap.size + 1 + 1) (c0:=0) (c1:=0) (c2:=0) (c3:=0) (by simp);refine aF (i:=12) (by kernel_rfl) rfl (fun K hK => ?_);go_simp;have HM':=Lib.hid ((HM.out.sub (rs':=[(w.heap.size + 1 + 1,0,0,0,0),(w.heap.size + 1,b0,b1,b2,b3),(w.heap.size,a0,a1,a2,a3)]) (by simp)).put s0 s1 s2 s3 (by omega) (by intro r hr; simp at hr; rcases hr with rfl | rfl <;> simp <;> omega));clear HM;have HM:=HM';clear HM';refine hK.out _ _ (Or.inl rfl) (fun _ => ?_);clear hK K;refine bE (by kernel_rfl) ?_;go_wp2_with fail;refine bodyPost_ret (v:=.agg #[.int .u64 s0,.int .u64 s1,.int .u64 s2,.int .u64 s3]) (by simp [results,results114,go_sem, *]) rfl ?_;exact ⟨_,_,_,_,rfl,hs,HVs.out,HM.out.1⟩
theorem Yk (A M : Nat) : decide (bG A M < 0) = sI A M:=by
 unfold sI bG
 by_cases q : A = M
 ·rw [if_pos q,decide_eq_false (by omega),decide_eq_false (by omega)]
 ·rw [if_neg q]
  by_cases h : A < M
  ·rw [if_pos h,decide_eq_true (by omega),decide_eq_true (by omega)]
  ·rw [if_neg h,decide_eq_false (by omega),decide_eq_false (by omega)]
set_option maxHeartbeats 2000000 in
theorem IF (f : Int) (F : FC) (hf : FieldIs f F) (a0 a1 a2 a3 : Nat) (ha : aY a0 a1 a2 a3) (w : World) :
  Calls prog 70 #[.int .i64 f,.agg #[.int .u64 a0,.int .u64 a1,.int .u64 a2,.int .u64 a3]] w (fun e w' => e = .returned (.bool (sI (aA a0 a1 a2 a3) F.M)) ∧ Below w.heap.size w w'):=by
 go_enter func70,ntmps70
 go_wp2_with fail;have HM:=Lib.hid ((Mem.nil w).new (w.heap.size) a0 a1 a2 a3 24 (by simp));refine bR (fun wx => Mem w wx [(w.heap.size,a0,a1,a2,a3)]) 5 (by kernel_rfl) ?_;have HM':=Lib.hid (HM.out.drewN 1);clear HM;have HM:=HM';clear HM';have HS:=HM.out.sub (rs':=[(w.heap.size,a0,a1,a2,a3)]) (by simp);refine aE (i:=0) (v:=.agg #[.int .u64 a0,.int .u64 a1,.int .u64 a2,.int .u64 a3]) rfl (by kernel_rfl) (by kernel_rfl) (by kernel_rfl) (by kernel_rfl) (fun _ _ _ h => h) HS (Or.inl ⟨by kernel_rfl,fun wx hx => ?_⟩) ?_
 ·have kr:=hx.row (b:=w.heap.size) (c0:=a0) (c1:=a1) (c2:=a2) (c3:=a3) (by simp);have x0:=kr.c0; have x1:=kr.c1; have x2:=kr.c2; have x3:=kr.c3;clear kr HS hx;go_simp
 simp only [Act.put,List.setIfInBounds_toArray,List.set_cons_zero,List.set_cons_succ];refine aE (i:=1) (v:=.int .i64 f) rfl (by kernel_rfl) (by kernel_rfl) (by kernel_rfl) (by kernel_rfl) (fun _ _ _ h => h) HS (Or.inl ⟨by kernel_rfl,fun wx hx => ?_⟩) ?_
 ·clear HS hx;go_simp
 simp only [Act.put,List.setIfInBounds_toArray,List.set_cons_zero,List.set_cons_succ];clear HS;refine aF (i:=2) (by kernel_rfl) rfl (fun K hK => ?_);go_simp;refine (eR f F hf _).mono ?_
 rintro e w1 ⟨rfl,hbl⟩
 have HM':=Lib.hid (HM.out.on hbl);clear HM hbl;have HM:=HM';clear HM';have HS:=HM.out.sub (rs':=[(w.heap.size,a0,a1,a2,a3)]) (by simp);refine hK.out _ _ (Or.inr HS) (fun _ => ?_);clear hK K;clear HS;refine aF (i:=3) (by kernel_rfl) rfl (fun K hK => ?_);go_simp;refine (refCmp_calls a0 a1 a2 a3 F.m0 F.m1 F.m2 F.m3 ha hf.ok.okm _).mono ?_
 rintro e w2 ⟨he,hbl⟩
 have HC:=Lib.hid (Yk (aA a0 a1 a2 a3) (aA F.m0 F.m1 F.m2 F.m3));generalize bG (aA a0 a1 a2 a3) (aA F.m0 F.m1 F.m2 F.m3) = cc at *;subst he;have HM':=Lib.hid (HM.out.on hbl);clear HM hbl;have HM:=HM';clear HM';have HS:=HM.out.sub (rs':=[(w.heap.size,a0,a1,a2,a3)]) (by simp);refine hK.out _ _ (Or.inr HS) (fun _ => ?_);clear hK K;refine aE (i:=4) (v:=.bool (decide (cc < 0))) rfl (by kernel_rfl) (by kernel_rfl) (by kernel_rfl) (by kernel_rfl) (fun _ _ _ h => h) HS (Or.inl ⟨by kernel_rfl,fun wx hx => ?_⟩) ?_
 ·clear HS hx;go_simp
 simp only [Act.put,List.setIfInBounds_toArray,List.set_cons_zero,List.set_cons_succ];clear HS;refine aF (i:=5) (by kernel_rfl) rfl (fun K hK => ?_);go_simp;refine hK.out _ _ (Or.inl rfl) (fun _ => ?_);clear hK K;refine bE (by kernel_rfl) ?_;go_wp2_with fail;go_ret;exact ⟨yW HC.out,HM.out.1⟩
set_option maxRecDepth 20000 in
set_option maxHeartbeats 1000000 in
theorem Ja (n : Nat) (w : World) : Calls prog 143 #[.int .u64 n] w fun e w' => e = .returned (.agg #[.int .u64 n,.int .u64 0,.int .u64 0,.int .u64 0]) ∧ Below w.heap.size w w':=by
 go_enter func143,ntmps143
 go_wp2_with fail;refine bodyPost_ret (v:=.agg #[.int .u64 n,.int .u64 0,.int .u64 0,.int .u64 0]) (by simp [results,results143,go_sem]) rfl ?_;refine ⟨rfl,?_⟩
 repeat (first | exact Below.refl _ _ | refine Below.drew ?_ | refine Below.alloc ?_ (by first | (simp; done) | (simp; omega)) _ | refine Below.setCell ?_ (by simp) _)
set_option maxRecDepth 20000 in
set_option maxHeartbeats 1000000 in
theorem XC (a0 a1 a2 a3 i : Nat) (ha : aY a0 a1 a2 a3) (hi : i < 256) (w : World) :
  Calls prog 144 #[.agg #[.int .u64 a0,.int .u64 a1,.int .u64 a2,.int .u64 a3],.int .i64 i] w (fun e w' => e = .returned (.bool (decide (dP (aA a0 a1 a2 a3) i = 1))) ∧ Below w.heap.size w w'):=by
 obtain ⟨j,k,q,r,hj,hk,e⟩:=Wm hi;have hc:=AC w 81 a0 a1 a2 a3 j hj;have hx:=oB ha j;obtain ⟨s,e1,e2,hs⟩:=YR hx (ZD ha hj hk e.out);have hb:=kK (aA a0 a1 a2 a3) i;generalize dP (aA a0 a1 a2 a3) i = b at *;generalize dU [a0,a1,a2,a3] j = x at *;have hb' : b ≤ 1:=by omega
 clear e
 go_enter func144,ntmps144
 rcases hb with rfl | rfl
 ·go_wp2_with fail;go_ret;exact ⟨rfl,(Below.refl _ _).alloc (Nat.le_refl _) _⟩
 ·go_wp2_with fail;go_ret;exact ⟨rfl,(Below.refl _ _).alloc (Nat.le_refl _) _⟩
theorem aKE {M A N i : Nat} (hb : dP N i = 0) : A ^ (N / 2 ^ (i + 1)) % M * (A ^ (N / 2 ^ (i + 1)) % M) % M = A ^ (N / 2 ^ i) % M:=by
 rw [← Nat.mul_mod,← Nat.pow_add,BP N i,hb];congr 2;omega
theorem aKD {M A N i : Nat} (hb : dP N i = 1) : A ^ (N / 2 ^ (i + 1)) % M * (A ^ (N / 2 ^ (i + 1)) % M) % M * A % M = A ^ (N / 2 ^ i) % M:=by
 rw [← Nat.mul_mod,← Nat.pow_add,BP N i,hb,Nat.mod_mul_mod,← Nat.pow_succ];congr 2;omega
set_option maxHeartbeats 4000000 in
theorem jX (f : Int) (F : FC) (hf : FieldIs f F) (a0 a1 a2 a3 n0 n1 n2 n3 : Nat) (ha : aY a0 a1 a2 a3) (hn : aY n0 n1 n2 n3) (w : World) :
  Calls prog 109 #[.int .i64 f,.agg #[.int .u64 a0,.int .u64 a1,.int .u64 a2,.int .u64 a3],.agg #[.int .u64 n0,.int .u64 n1,.int .u64 n2,.int .u64 n3]] w (dE (aA a0 a1 a2 a3 ^ aA n0 n1 n2 n3 % F.M) w):=by
 have h2:=hf.ok.gt
 go_enter func109,ntmps109
 go_wp2_with fail;have M0:=((((Mem.nil w).new w.heap.size a0 a1 a2 a3 24 rfl).new (w.heap.size + 1) n0 n1 n2 n3 81 (by simp)).new (w.heap.size + 1 + 1) 0 0 0 0 24 (by simp));refine (Ja 1 _).mono ?_
 rintro e w1 ⟨rfl,hbl⟩
 have M1:=M0.on hbl;have hz1 : w.heap.size + 1 + 1 < w1.heap.size:=M1.lt (c0:=0) (c1:=0) (c2:=0) (c3:=0) (by simp);have M2:=Lib.hid (M1.new w1.heap.size 1 0 0 0 24 rfl);clear hbl M0 M1;go_wp2_with fail
 go_loopw [8] (fun t wr => ∃ (j r0 r1 r2 r3 : Nat) (m : Int),j ≤ 256 ∧ Hid (m = (j : Int) - 1) ∧ t = .int .i64 m ∧ aY r0 r1 r2 r3 ∧ Hid (aA r0 r1 r2 r3 = aA a0 a1 a2 a3 ^ (aA n0 n1 n2 n3 / 2 ^ j) % F.M) ∧ Hid (Mem w wr [(w1.heap.size,r0,r1,r2,r3),(w.heap.size + 1 + 1,0,0,0,0),(w.heap.size + 1,n0,n1,n2,n3),(w.heap.size,a0,a1,a2,a3)])) (fun t _ => (intOf t + 1).toNat)
 case atStart =>
  refine ⟨256,1,0,0,0,255,Nat.le_refl _,Lib.hid (by omega),rfl,(show aY 1 0 0 0 by unfold aY; decide),Lib.hid ?_,M2⟩;rw [Nat.div_eq_of_lt (show aA n0 n1 n2 n3 < 2 ^ 256 from bH hn),Nat.pow_zero,Nat.mod_eq_of_lt (by omega)];rfl
 case round =>
  obtain ⟨j,r0,r1,r2,r3,m,hj,hm,rfl,hr,HV,HM⟩:=hrel
  by_cases hlt : 0 < j
  ·obtain ⟨i,hi⟩ : ∃ i,j = i + 1:=⟨j - 1,by omega⟩
   subst hi;obtain rfl : m = (i : Int):=by have:=hm.out; omega
   have Rr:=HM.out.row (b:=w1.heap.size) (c0:=r0) (c1:=r1) (c2:=r2) (c3:=r3) (by simp);have x0:=Rr.c0; have x1:=Rr.c1; have x2:=Rr.c2; have x3:=Rr.c3;have ltr:=HM.out.lt (b:=w1.heap.size) (c0:=r0) (c1:=r1) (c2:=r2) (c3:=r3) (by simp);clear Rr hm;go_wp2_with fail;refine (qD f F hf r0 r1 r2 r3 r0 r1 r2 r3 hr hr _).mono ?_
   rintro e w3 ⟨p0,p1,p2,p3,rfl,hp,hv,hbl⟩
   have HP:=Lib.hid (show aA p0 p1 p2 p3 = _ by rw [hv,HV.out]);have M4:=HM.out.on hbl;have lt4:=M4.lt (b:=w1.heap.size) (c0:=r0) (c1:=r1) (c2:=r2) (c3:=r3) (by simp);have Rr:=M4.row (b:=w1.heap.size) (c0:=r0) (c1:=r1) (c2:=r2) (c3:=r3) (by simp);have Rn:=M4.row (b:=w.heap.size + 1) (c0:=n0) (c1:=n1) (c2:=n2) (c3:=n3) (by simp);have M5:=Lib.hid (M4.put p0 p1 p2 p3 (by omega) (by intro r hr; simp at hr; rcases hr with rfl | rfl | rfl <;> simp <;> omega));clear x0 x1 x2 x3 hv hbl M4;have x0:=Rr.c0; have x1:=Rr.c1; have x2:=Rr.c2; have x3:=Rr.c3; have xf:=Rr.fr;have y0:=Rn.c0; have y1:=Rn.c1; have y2:=Rn.c2; have y3:=Rn.c3;have ne1 : ¬ w.heap.size + 1 = w1.heap.size:=by omega
   have ne1' : ¬ w1.heap.size = w.heap.size + 1:=by omega
   have hi256 : i < 256:=by omega
   clear Rr Rn;go_wp2_with fail;refine (XC n0 n1 n2 n3 i hn hi256 _).mono ?_
   rintro e w4 ⟨he,hbl⟩
   have M5':=M5.out;unfold set4 at M5';have M6:=M5'.on hbl;clear hbl M5' x0 x1 x2 x3 xf y0 y1 y2 y3;have lt6:=M6.lt (b:=w1.heap.size) (c0:=p0) (c1:=p1) (c2:=p2) (c3:=p3) (by simp)
   rcases kK (aA n0 n1 n2 n3) i with hb | hb
   ·rw [hb,show decide (0 = 1) = false from rfl] at he;subst he;have HS:=Lib.hid (show aA p0 p1 p2 p3 = aA a0 a1 a2 a3 ^ (aA n0 n1 n2 n3 / 2 ^ i) % F.M by rw [HP.out]; exact aKE hb);have M7:=Lib.hid M6;clear hb M6;go_wp2_with fail
    go_roundw
    case rel => exact ⟨i,p0,p1,p2,p3,(i : Int) - 1,by omega,Lib.hid rfl,by first | rfl | go_num,hp,HS,M7⟩
    case measure => first | (simp [intOf]; done) | (simp [intOf]; omega)
   ·rw [hb,show decide (1 = 1) = true from rfl] at he;subst he;have Rr:=M6.row (b:=w1.heap.size) (c0:=p0) (c1:=p1) (c2:=p2) (c3:=p3) (by simp);have Ra:=M6.row (b:=w.heap.size) (c0:=a0) (c1:=a1) (c2:=a2) (c3:=a3) (by simp);have x0:=Rr.c0; have x1:=Rr.c1; have x2:=Rr.c2; have x3:=Rr.c3;have z0:=Ra.c0; have z1:=Ra.c1; have z2:=Ra.c2; have z3:=Ra.c3;have HB:=Lib.hid hb;have M7:=Lib.hid M6;clear hb M6 Rr Ra;go_wp2_with fail;refine (qD f F hf p0 p1 p2 p3 a0 a1 a2 a3 hp ha _).mono ?_
    rintro e w5 ⟨q0,q1,q2,q3,rfl,hq,hv,hbl⟩
    have HS:=Lib.hid (show aA q0 q1 q2 q3 = aA a0 a1 a2 a3 ^ (aA n0 n1 n2 n3 / 2 ^ i) % F.M by rw [hv,HP.out]; exact aKD HB.out);have M8:=M7.out.on hbl;have lt8:=M8.lt (b:=w1.heap.size) (c0:=p0) (c1:=p1) (c2:=p2) (c3:=p3) (by simp);have Rr:=M8.row (b:=w1.heap.size) (c0:=p0) (c1:=p1) (c2:=p2) (c3:=p3) (by simp);have M9:=Lib.hid (M8.put q0 q1 q2 q3 (by omega) (by intro r hr; simp at hr; rcases hr with rfl | rfl | rfl <;> simp <;> omega));clear x0 x1 x2 x3 z0 z1 z2 z3 hv hbl M8;have x0:=Rr.c0; have x1:=Rr.c1; have x2:=Rr.c2; have x3:=Rr.c3; have xf:=Rr.fr;clear Rr;go_wp2_with fail
    go_roundw
    case rel => exact ⟨i,q0,q1,q2,q3,(i : Int) - 1,by omega,Lib.hid rfl,by first | rfl | go_num,hq,HS,M9⟩
    case measure => first | (simp [intOf]; done) | (simp [intOf]; omega)
  ·obtain rfl : j = 0:=by omega
   obtain rfl : m = -1:=by have:=hm.out; omega
   have Rr:=HM.out.row (b:=w1.heap.size) (c0:=r0) (c1:=r1) (c2:=r2) (c3:=r3) (by simp);have x0:=Rr.c0; have x1:=Rr.c1; have x2:=Rr.c2; have x3:=Rr.c3;have Ro:=HM.out.row (b:=w.heap.size + 1 + 1) (c0:=0) (c1:=0) (c2:=0) (c3:=0) (by simp);have o0:=Ro.c0; have o1:=Ro.c1; have o2:=Ro.c2; have o3:=Ro.c3; have of:=Ro.fr;have ltr:=HM.out.lt (b:=w1.heap.size) (c0:=r0) (c1:=r1) (c2:=r2) (c3:=r3) (by simp);have lto:=HM.out.lt (b:=w.heap.size + 1 + 1) (c0:=0) (c1:=0) (c2:=0) (c3:=0) (by simp);clear Rr Ro hm;go_wp2_with fail;refine bodyPost_ret (v:=.agg #[.int .u64 r0,.int .u64 r1,.int .u64 r2,.int .u64 r3]) (by simp [results,results109,go_sem, *]) rfl ?_;refine ⟨_,_,_,_,rfl,hr,by rw [HV.out,Nat.pow_zero,Nat.div_one],?_⟩;exact aL HM.out.1 (by omega) _ _ _ _
set_option maxHeartbeats 2000000 in
theorem ID (f : Int) (F : FC) (hf : FieldIs f F) (a0 a1 a2 a3 : Nat) (ha : aY a0 a1 a2 a3) (la : aA a0 a1 a2 a3 < F.M) (w : World) :
  Calls prog 111 #[.int .i64 f,.agg #[.int .u64 a0,.int .u64 a1,.int .u64 a2,.int .u64 a3]] w (fun e w' => e = .returned (.bool (fV F.M (aA a0 a1 a2 a3))) ∧ Below w.heap.size w w'):=by
 go_enter func111,ntmps111
 go_wp2_with fail;have HM:=Lib.hid ((Mem.nil w).new (w.heap.size) a0 a1 a2 a3 24 (by simp));refine bR (fun wx => Mem w wx [(w.heap.size,a0,a1,a2,a3)]) 6 (by kernel_rfl) ?_;have HM':=Lib.hid (HM.out.drewN 1);clear HM;have HM:=HM';clear HM';have HS:=HM.out.sub (rs':=[(w.heap.size,a0,a1,a2,a3)]) (by simp);refine aE (i:=0) (v:=.agg #[.int .u64 a0,.int .u64 a1,.int .u64 a2,.int .u64 a3]) rfl (by kernel_rfl) (by kernel_rfl) (by kernel_rfl) (by kernel_rfl) (fun _ _ _ h => h) HS (Or.inl ⟨by kernel_rfl,fun wx hx => ?_⟩) ?_
 ·have kr:=hx.row (b:=w.heap.size) (c0:=a0) (c1:=a1) (c2:=a2) (c3:=a3) (by simp);have x0:=kr.c0; have x1:=kr.c1; have x2:=kr.c2; have x3:=kr.c3;clear kr HS hx;go_simp
 simp only [Act.put,List.setIfInBounds_toArray,List.set_cons_zero,List.set_cons_succ];refine aE (i:=1) (v:=.int .i64 f) rfl (by kernel_rfl) (by kernel_rfl) (by kernel_rfl) (by kernel_rfl) (fun _ _ _ h => h) HS (Or.inl ⟨by kernel_rfl,fun wx hx => ?_⟩) ?_
 ·clear HS hx;go_simp
 simp only [Act.put,List.setIfInBounds_toArray,List.set_cons_zero,List.set_cons_succ];refine aE (i:=2) (v:=.agg #[.int .u64 a0,.int .u64 a1,.int .u64 a2,.int .u64 a3]) rfl (by kernel_rfl) (by kernel_rfl) (by kernel_rfl) (by kernel_rfl) (fun _ _ _ h => h) HS (Or.inl ⟨by kernel_rfl,fun wx hx => ?_⟩) ?_
 ·have kr:=hx.row (b:=w.heap.size) (c0:=a0) (c1:=a1) (c2:=a2) (c3:=a3) (by simp);have x0:=kr.c0; have x1:=kr.c1; have x2:=kr.c2; have x3:=kr.c3;clear kr HS hx;go_simp
 simp only [Act.put,List.setIfInBounds_toArray,List.set_cons_zero,List.set_cons_succ];clear HS;refine aF (i:=3) (by kernel_rfl) rfl (fun K hK => ?_);go_simp;refine (mC f F hf a0 a1 a2 a3 ha _).mono ?_
 rintro e w1 ⟨n0,n1,n2,n3,rfl,hn,hv,hbl⟩
 have HVn:=Lib.hid hv;clear hv;have HM':=Lib.hid (HM.out.on hbl);clear HM hbl;have HM:=HM';clear HM';have HS:=HM.out.sub (rs':=[(w.heap.size,a0,a1,a2,a3)]) (by simp);refine hK.out _ _ (Or.inr HS) (fun _ => ?_);clear hK K;clear HS;refine aF (i:=4) (by kernel_rfl) rfl (fun K hK => ?_);go_simp;refine (refCmp_calls a0 a1 a2 a3 n0 n1 n2 n3 ha hn _).mono ?_
 rintro e w2 ⟨he,hbl⟩
 have HC:=Lib.hid (show decide (bG (aA a0 a1 a2 a3) (aA n0 n1 n2 n3) ≤ 0) = fV F.M (aA a0 a1 a2 a3) by
  rw [HVn.out,← Dc,Nat.mod_eq_of_lt la,Nat.zero_add])
 generalize bG (aA a0 a1 a2 a3) (aA n0 n1 n2 n3) = cc at *;subst he;have HM':=Lib.hid (HM.out.on hbl);clear HM hbl;have HM:=HM';clear HM';have HS:=HM.out.sub (rs':=[(w.heap.size,a0,a1,a2,a3)]) (by simp);refine hK.out _ _ (Or.inr HS) (fun _ => ?_);clear hK K;refine aE (i:=5) (v:=.bool (decide (cc ≤ 0))) rfl (by kernel_rfl) (by kernel_rfl) (by kernel_rfl) (by kernel_rfl) (fun _ _ _ h => h) HS (Or.inl ⟨by kernel_rfl,fun wx hx => ?_⟩) ?_
 ·clear HS hx;go_simp
 simp only [Act.put,List.setIfInBounds_toArray,List.set_cons_zero,List.set_cons_succ];clear HS;refine aF (i:=6) (by kernel_rfl) rfl (fun K hK => ?_);go_simp;refine hK.out _ _ (Or.inl rfl) (fun _ => ?_);clear hK K;refine bE (by kernel_rfl) ?_;go_wp2_with fail;go_ret;exact ⟨by rw [← HC.out]; rfl,HM.out.1⟩
theorem EL : aY 11389680472494603939 14681934109093717318 15863968012492123182 1743499133401485332 ∧ aA 11389680472494603939 14681934109093717318 15863968012492123182 1743499133401485332 = FP.M / 2:=⟨by unfold aY; decide,by kernel_rfl⟩
set_option maxHeartbeats 2000000 in
theorem RO (w : World) : Calls prog 142 #[.int .i64 1] w (fun e w' => e = .returned (.agg #[.int .u64 11389680472494603939,.int .u64 14681934109093717318,.int .u64 15863968012492123182,.int .u64 1743499133401485332]) ∧ Below w.heap.size w w'):=by
 go_enter func142,ntmps142
 go_wp2_with fail;refine (eR 1 FP (by unfold FieldIs; simp) _).mono ?_
 rintro e w1 ⟨rfl,hbl⟩
 have HM:=Lib.hid (((Mem.nil w).new w.heap.size 0 0 0 0 81 rfl).on hbl);have kr:=HM.out.row (b:=w.heap.size) (c0:=0) (c1:=0) (c2:=0) (c3:=0) (by simp);have o0:=kr.c0; have o1:=kr.c1; have o2:=kr.c2; have o3:=kr.c3; have of:=kr.fr;have lto:=HM.out.lt (b:=w.heap.size) (c0:=0) (c1:=0) (c2:=0) (c3:=0) (by simp);clear kr hbl;have b0 : bits .or .u64 2166308435639828131 (IntKind.u64.wrap 100692697557049423688002991953404755968) = 11389680472494603939:=by kernel_rfl
 have b1 : bits .or .u64 5458562072238941510 (IntKind.u64.wrap 122497374459487735683716562798029832192) = 14681934109093717318:=by kernel_rfl
 have b2 : bits .or .u64 6640595975637347374 (IntKind.u64.wrap 32161882306591588514290432766975672320) = 15863968012492123182:=by kernel_rfl
 simp only [FP];go_wp2_with fail;refine wp_loop_rounds 6 ?_;rw [rounds_succ];go_wp2_with fail
 go_region
 go_wp2_with fail;rw [rounds_succ];go_wp2_with fail
 go_region
 go_wp2_with fail;rw [rounds_succ];go_wp2_with fail
 go_region
 go_wp2_with fail;rw [rounds_succ];go_wp2_with fail;rw [rounds_succ];go_wp2_with fail;refine bodyPost_ret (v:=.agg #[.int .u64 11389680472494603939,.int .u64 14681934109093717318,.int .u64 15863968012492123182,.int .u64 1743499133401485332]) (by simp [results,results142,go_sem, *]) rfl ?_;refine ⟨rfl,?_⟩;have hb:=HM.out.1
 repeat (first | exact hb | refine Below.drew ?_ | refine Below.alloc ?_ (by first | (simp; done) | (simp; omega)) _ | refine Below.setCell ?_ (by simp) _)
theorem EK : aY 11669102379873075200 10671829228508198984 15863968012492123182 1743499133401485332 ∧ aA 11669102379873075200 10671829228508198984 15863968012492123182 1743499133401485332 = FR.M / 2:=⟨by unfold aY; decide,by kernel_rfl⟩
set_option maxHeartbeats 2000000 in
theorem RN (w : World) : Calls prog 142 #[.int .i64 2] w (fun e w' => e = .returned (.agg #[.int .u64 11669102379873075200,.int .u64 10671829228508198984,.int .u64 15863968012492123182,.int .u64 1743499133401485332]) ∧ Below w.heap.size w w'):=by
 go_enter func142,ntmps142
 go_wp2_with fail;refine (eR 2 FR (by unfold FieldIs; simp) _).mono ?_
 rintro e w1 ⟨rfl,hbl⟩
 have HM:=Lib.hid (((Mem.nil w).new w.heap.size 0 0 0 0 81 rfl).on hbl);have kr:=HM.out.row (b:=w.heap.size) (c0:=0) (c1:=0) (c2:=0) (c3:=0) (by simp);have o0:=kr.c0; have o1:=kr.c1; have o2:=kr.c2; have o3:=kr.c3; have of:=kr.fr;have lto:=HM.out.lt (b:=w.heap.size) (c0:=0) (c1:=0) (c2:=0) (c3:=0) (by simp);clear kr hbl;have b0 : bits .or .u64 2445730343018299392 (IntKind.u64.wrap 26719319116154764192306716011317428224) = 11669102379873075200:=by kernel_rfl
 have b1 : bits .or .u64 1448457191653423176 (IntKind.u64.wrap 122497374459487735683716562798029832192) = 10671829228508198984:=by kernel_rfl
 have b2 : bits .or .u64 6640595975637347374 (IntKind.u64.wrap 32161882306591588514290432766975672320) = 15863968012492123182:=by kernel_rfl
 simp only [FR];go_wp2_with fail;refine wp_loop_rounds 6 ?_;rw [rounds_succ];go_wp2_with fail
 go_region
 go_wp2_with fail;rw [rounds_succ];go_wp2_with fail
 go_region
 go_wp2_with fail;rw [rounds_succ];go_wp2_with fail
 go_region
 go_wp2_with fail;rw [rounds_succ];go_wp2_with fail;rw [rounds_succ];go_wp2_with fail;refine bodyPost_ret (v:=.agg #[.int .u64 11669102379873075200,.int .u64 10671829228508198984,.int .u64 15863968012492123182,.int .u64 1743499133401485332]) (by simp [results,results142,go_sem, *]) rfl ?_;refine ⟨rfl,?_⟩;have hb:=HM.out.1
 repeat (first | exact hb | refine Below.drew ?_ | refine Below.alloc ?_ (by first | (simp; done) | (simp; omega)) _ | refine Below.setCell ?_ (by simp) _)
set_option maxHeartbeats 2000000 in
theorem vH (f : Int) (F : FC) (hf : FieldIs f F) (w : World) : Calls prog 142 #[.int .i64 f] w (dE (F.M / 2) w):=by
 rcases hf with ⟨rfl,rfl⟩ | ⟨rfl,rfl⟩
 ·refine (RO w).mono ?_
  rintro e w' ⟨he,hb⟩
  exact ⟨_,_,_,_,he,EL.1,EL.2,hb⟩
 ·refine (RN w).mono ?_
  rintro e w' ⟨he,hb⟩
  exact ⟨_,_,_,_,he,EK.1,EK.2,hb⟩
def uO (M A : Nat) : Int:=if A ^ (M / 2) % M = 0 then 0 else if A ^ (M / 2) % M = 1 then 1 else -1
theorem SD {s0 s1 s2 s3 : Nat} (hs : aY s0 s1 s2 s3) (h : aA s0 s1 s2 s3 ≠ 1) (w : World) : (Op.equalIn 10000 24 (.agg #[.int .u64 s0,.int .u64 s1,.int .u64 s2,.int .u64 s3]) (.agg #[.int .u64 1,.int .u64 0,.int .u64 0,.int .u64 0])).run prog w = .ok false w:=Ww hs (show aY 1 0 0 0 by unfold aY; decide) (fun q => h (q.trans rfl)) w
set_option maxHeartbeats 2000000 in
theorem yU (f : Int) (F : FC) (hf : FieldIs f F) (a0 a1 a2 a3 : Nat) (ha : aY a0 a1 a2 a3) (w : World) :
  Calls prog 108 #[.int .i64 f,.agg #[.int .u64 a0,.int .u64 a1,.int .u64 a2,.int .u64 a3]] w (fun e w' => e = .returned (.int .i64 (uO F.M (aA a0 a1 a2 a3))) ∧ Below w.heap.size w w'):=by
 have hG:=lW
 go_enter func108,ntmps108
 go_upto_region 1 with fail
 have HM:=Lib.hid ((Mem.nil w).new (w.heap.size) a0 a1 a2 a3 24 (by simp))
 go_cut [5] (fun s5 wx => ∃ gb s0 s1 s2 s3 : Nat,s5 = .pointer (some ⟨gb,0,none⟩) ∧ aY s0 s1 s2 s3 ∧ Hid (aA s0 s1 s2 s3 = aA a0 a1 a2 a3 ^ (F.M / 2) % F.M) ∧ Hid (Mem w wx [(gb,s0,s1,s2,s3)]))
 case first =>
  refine bR (fun wx => Mem w wx [(w.heap.size,a0,a1,a2,a3)]) 6 (by kernel_rfl) ?_;have HM':=Lib.hid (HM.out.drewN 1);clear HM;have HM:=HM';clear HM';have HS:=HM.out.sub (rs':=[(w.heap.size,a0,a1,a2,a3)]) (by simp);refine aE (i:=0) (v:=.int .i64 f) rfl (by kernel_rfl) (by kernel_rfl) (by kernel_rfl) (by kernel_rfl) (fun _ _ _ h => h) HS (Or.inl ⟨by kernel_rfl,fun wx hx => ?_⟩) ?_
  ·clear HS hx;go_simp
  simp only [Act.put,List.setIfInBounds_toArray,List.set_cons_zero,List.set_cons_succ];refine aE (i:=1) (v:=.agg #[.int .u64 a0,.int .u64 a1,.int .u64 a2,.int .u64 a3]) rfl (by kernel_rfl) (by kernel_rfl) (by kernel_rfl) (by kernel_rfl) (fun _ _ _ h => h) HS (Or.inl ⟨by kernel_rfl,fun wx hx => ?_⟩) ?_
  ·have kr:=hx.row (b:=w.heap.size) (c0:=a0) (c1:=a1) (c2:=a2) (c3:=a3) (by simp);have x0:=kr.c0; have x1:=kr.c1; have x2:=kr.c2; have x3:=kr.c3;clear kr HS hx;go_simp
  simp only [Act.put,List.setIfInBounds_toArray,List.set_cons_zero,List.set_cons_succ];refine aE (i:=2) (v:=.int .i64 f) rfl (by kernel_rfl) (by kernel_rfl) (by kernel_rfl) (by kernel_rfl) (fun _ _ _ h => h) HS (Or.inl ⟨by kernel_rfl,fun wx hx => ?_⟩) ?_
  ·clear HS hx;go_simp
  simp only [Act.put,List.setIfInBounds_toArray,List.set_cons_zero,List.set_cons_succ];clear HS;refine cW (i:=3) (j:=5) (by kernel_rfl) rfl rfl (fun K hK => ?_) (fun K hK => ?_)
  ·go_simp;refine (vH f F hf _).mono ?_
   rintro e v1 ⟨n0,n1,n2,n3,rfl,hn,hv,hbl⟩
   have HVn:=Lib.hid hv;clear hv;have HM':=Lib.hid (HM.out.on hbl);clear HM hbl;have HM:=HM';clear HM';have HS:=HM.out.sub (rs':=[(w.heap.size,a0,a1,a2,a3)]) (by simp);refine hK.out _ _ (Or.inr HS) (fun _ => ?_);clear hK K;clear HS;refine cW (i:=4) (j:=5) (by kernel_rfl) rfl rfl (fun K hK => ?_) (fun K hK => ?_)
   ·go_simp;refine (jX f F hf a0 a1 a2 a3 n0 n1 n2 n3 ha hn _).mono ?_
    rintro e v2 ⟨s0,s1,s2,s3,rfl,hs,hv,hbl⟩
    have HVs:=Lib.hid (show aA s0 s1 s2 s3 = aA a0 a1 a2 a3 ^ (F.M / 2) % F.M by rw [hv,HVn.out]);clear hv;have HM':=Lib.hid (HM.out.on hbl);clear HM hbl;have HM:=HM';clear HM';have HS:=HM.out.sub (rs':=[(w.heap.size,a0,a1,a2,a3)]) (by simp);refine hK.out _ _ (Or.inr HS) (fun _ => ?_);clear hK K;clear HS;refine aF (i:=5) (by kernel_rfl) rfl (fun K hK => ?_);go_simp;have HM9:=HM;have hgb : w.heap.size ≤ (v2.heap.size):=by first | exact HM.out.1.size | (have:=HM.out.1.size; simp at this; omega) | omega
    have hgl0 : w.heap.size < (v2.heap.size):=by first | exact HM.out.lt (b:=w.heap.size) (c0:=a0) (c1:=a1) (c2:=a2) (c3:=a3) (by simp) | (have:=HM.out.lt (b:=w.heap.size) (c0:=a0) (c1:=a1) (c2:=a2) (c3:=a3) (by simp); simp at this; omega) | omega
    have HM':=Lib.hid (HM.out.new (v2.heap.size) 0 0 0 0 24 (by first | rfl | (simp; done)));clear HM;have HM:=HM';clear HM';have HS:=HM.out.sub (rs':=[(w.heap.size,a0,a1,a2,a3)]) (by simp);refine hK.out _ _ (Or.inr HS) (fun _ => ?_);clear hK K HS;have kr:=HM.out.row (b:=(v2.heap.size)) (c0:=0) (c1:=0) (c2:=0) (c3:=0) (by simp);have yl:=HM.out.lt (b:=(v2.heap.size)) (c0:=0) (c1:=0) (c2:=0) (c3:=0) (by simp);have y0:=kr.c0; have y1:=kr.c1; have y2:=kr.c2; have y3:=kr.c3; have yf:=kr.fr;clear kr;refine aF (i:=6) (by kernel_rfl) rfl (fun K hK => ?_);go_simp;have HM':=Lib.hid (HM9.out.new (v2.heap.size) s0 s1 s2 s3 24 (by first | rfl | (simp; done)));clear HM;have HM:=HM';clear HM';refine hK.out _ _ (Or.inl rfl) (fun _ => ?_);clear hK K;refine bE (by kernel_rfl) ?_;go_wp2_with fail
    go_meet
    exact ⟨(v2.heap.size),s0,s1,s2,s3,rfl,hs,HVs,Lib.hid (HM.out.sub (by simp))⟩
   ·go_simp;have HM9:=HM;have hgb : w.heap.size ≤ (v1.heap.size):=by first | exact HM.out.1.size | (have:=HM.out.1.size; simp at this; omega) | omega
    have hgl0 : w.heap.size < (v1.heap.size):=by first | exact HM.out.lt (b:=w.heap.size) (c0:=a0) (c1:=a1) (c2:=a2) (c3:=a3) (by simp) | (have:=HM.out.lt (b:=w.heap.size) (c0:=a0) (c1:=a1) (c2:=a2) (c3:=a3) (by simp); simp at this; omega) | omega
    have HM':=Lib.hid (HM.out.new (v1.heap.size) 0 0 0 0 24 (by first | rfl | (simp; done)));clear HM;have HM:=HM';clear HM';have HS:=HM.out.sub (rs':=[(w.heap.size,a0,a1,a2,a3)]) (by simp);refine hK.out _ _ (Or.inr HS) (fun _ => ?_);clear hK K HS;refine aF (i:=4) (by kernel_rfl) rfl (fun K hK => ?_);go_simp;refine (jX f F hf a0 a1 a2 a3 n0 n1 n2 n3 ha hn _).mono ?_
    rintro e v2 ⟨s0,s1,s2,s3,rfl,hs,hv,hbl⟩
    have HVs:=Lib.hid (show aA s0 s1 s2 s3 = aA a0 a1 a2 a3 ^ (F.M / 2) % F.M by rw [hv,HVn.out]);clear hv;have HM':=Lib.hid (HM.out.on hbl);clear HM hbl;have HM:=HM';clear HM';have HS:=HM.out.sub (rs':=[(w.heap.size,a0,a1,a2,a3)]) (by simp);refine hK.out _ _ (Or.inr HS) (fun _ => ?_);clear hK K;clear HS;have kr:=HM.out.row (b:=(v1.heap.size)) (c0:=0) (c1:=0) (c2:=0) (c3:=0) (by simp);have yl:=HM.out.lt (b:=(v1.heap.size)) (c0:=0) (c1:=0) (c2:=0) (c3:=0) (by simp);have y0:=kr.c0; have y1:=kr.c1; have y2:=kr.c2; have y3:=kr.c3; have yf:=kr.fr;clear kr;refine aF (i:=6) (by kernel_rfl) rfl (fun K hK => ?_);go_simp;have HM':=Lib.hid ((HM.out.sub (rs':=[((v1.heap.size),0,0,0,0),(w.heap.size,a0,a1,a2,a3)]) (by simp)).put s0 s1 s2 s3 hgb (by intro r hr; simp at hr; subst hr <;> simp <;> omega));clear HM;have HM:=HM';clear HM';refine hK.out _ _ (Or.inl rfl) (fun _ => ?_);clear hK K;refine bE (by kernel_rfl) ?_;go_wp2_with fail
    go_meet
    exact ⟨(v1.heap.size),s0,s1,s2,s3,rfl,hs,HVs,Lib.hid (HM.out.sub (by simp))⟩
  ·go_simp;have HM9:=HM;have hgb : w.heap.size ≤ (w.heap.size + 1):=by first | exact HM.out.1.size | (have:=HM.out.1.size; simp at this; omega) | omega
   have hgl0 : w.heap.size < (w.heap.size + 1):=by first | exact HM.out.lt (b:=w.heap.size) (c0:=a0) (c1:=a1) (c2:=a2) (c3:=a3) (by simp) | (have:=HM.out.lt (b:=w.heap.size) (c0:=a0) (c1:=a1) (c2:=a2) (c3:=a3) (by simp); simp at this; omega) | omega
   have HM':=Lib.hid (HM.out.new (w.heap.size + 1) 0 0 0 0 24 (by first | rfl | (simp; done)));clear HM;have HM:=HM';clear HM';have HS:=HM.out.sub (rs':=[(w.heap.size,a0,a1,a2,a3)]) (by simp);refine hK.out _ _ (Or.inr HS) (fun _ => ?_);clear hK K HS;refine aF (i:=3) (by kernel_rfl) rfl (fun K hK => ?_);go_simp;refine (vH f F hf _).mono ?_
   rintro e v1 ⟨n0,n1,n2,n3,rfl,hn,hv,hbl⟩
   have HVn:=Lib.hid hv;clear hv;have HM':=Lib.hid (HM.out.on hbl);clear HM hbl;have HM:=HM';clear HM';have HS:=HM.out.sub (rs':=[(w.heap.size,a0,a1,a2,a3)]) (by simp);refine hK.out _ _ (Or.inr HS) (fun _ => ?_);clear hK K;clear HS;refine aF (i:=4) (by kernel_rfl) rfl (fun K hK => ?_);go_simp;refine (jX f F hf a0 a1 a2 a3 n0 n1 n2 n3 ha hn _).mono ?_
   rintro e v2 ⟨s0,s1,s2,s3,rfl,hs,hv,hbl⟩
   have HVs:=Lib.hid (show aA s0 s1 s2 s3 = aA a0 a1 a2 a3 ^ (F.M / 2) % F.M by rw [hv,HVn.out]);clear hv;have HM':=Lib.hid (HM.out.on hbl);clear HM hbl;have HM:=HM';clear HM';have HS:=HM.out.sub (rs':=[(w.heap.size,a0,a1,a2,a3)]) (by simp);refine hK.out _ _ (Or.inr HS) (fun _ => ?_);clear hK K;clear HS;have kr:=HM.out.row (b:=(w.heap.size + 1)) (c0:=0) (c1:=0) (c2:=0) (c3:=0) (by simp);have yl:=HM.out.lt (b:=(w.heap.size + 1)) (c0:=0) (c1:=0) (c2:=0) (c3:=0) (by simp);have y0:=kr.c0; have y1:=kr.c1; have y2:=kr.c2; have y3:=kr.c3; have yf:=kr.fr;clear kr;refine aF (i:=6) (by kernel_rfl) rfl (fun K hK => ?_);go_simp;have HM':=Lib.hid ((HM.out.sub (rs':=[((w.heap.size + 1),0,0,0,0),(w.heap.size,a0,a1,a2,a3)]) (by simp)).put s0 s1 s2 s3 hgb (by intro r hr; simp at hr; subst hr <;> simp <;> omega));clear HM;have HM:=HM';clear HM';refine hK.out _ _ (Or.inl rfl) (fun _ => ?_);clear hK K;refine bE (by kernel_rfl) ?_;go_wp2_with fail
   go_meet
   exact ⟨(w.heap.size + 1),s0,s1,s2,s3,rfl,hs,HVs,Lib.hid (HM.out.sub (by simp))⟩
 case rest =>
  obtain ⟨gb,s0,s1,s2,s3,rfl,hs,HV,HM⟩:=hcut;have kr:=HM.out.row (b:=gb) (c0:=s0) (c1:=s1) (c2:=s2) (c3:=s3) (by simp);have x0:=kr.c0; have x1:=kr.c1; have x2:=kr.c2; have x3:=kr.c3;have xl:=HM.out.lt (b:=gb) (c0:=s0) (c1:=s1) (c2:=s2) (c3:=s3) (by simp);clear kr
  by_cases h0 : aA s0 s1 s2 s3 = 0
  ·have E0:=Wu hs h0;have HL:=Lib.hid (show uO F.M (aA a0 a1 a2 a3) = 0 by unfold uO; rw [← HV.out,if_pos h0]);clear h0;go_wp2_with fail;go_ret;exact ⟨by rw [HL.out]; rfl,HM.out.1⟩
  ·by_cases h1 : aA s0 s1 s2 s3 = 1
   ·have E0:=Wv hs h0;have E1:=aDx hs h1;have HL:=Lib.hid (show uO F.M (aA a0 a1 a2 a3) = 1 by unfold uO; rw [← HV.out,if_neg h0,if_pos h1]);clear h0 h1;go_wp2_with fail;go_ret;exact ⟨by rw [HL.out]; rfl,HM.out.1⟩
   ·have E0:=Wv hs h0;have E1:=SD hs h1;have HL:=Lib.hid (show uO F.M (aA a0 a1 a2 a3) = -1 by unfold uO; rw [← HV.out,if_neg h0,if_neg h1]);clear h0 h1;go_wp2_with fail;go_ret;exact ⟨by rw [HL.out]; rfl,HM.out.1⟩
theorem Wr {s0 s1 s2 s3 : Nat} (hs : aY s0 s1 s2 s3) (h : aA s0 s1 s2 s3 = 0) (w : World) : (Op.equalIn 10000 81 (.agg #[.int .u64 s0,.int .u64 s1,.int .u64 s2,.int .u64 s3]) (.agg #[.int .u64 0,.int .u64 0,.int .u64 0,.int .u64 0])).run prog w = .ok true w:=by
 have h':=lU 9998 s0 s1 s2 s3 0 0 0 0 w;rw [(fC hs vW).2 (h.trans rfl)] at h';exact h'
theorem aDw {s0 s1 s2 s3 : Nat} (hs : aY s0 s1 s2 s3) (h : aA s0 s1 s2 s3 ≠ 0) (w : World) : (Op.equalIn 10000 81 (.agg #[.int .u64 s0,.int .u64 s1,.int .u64 s2,.int .u64 s3]) (.agg #[.int .u64 0,.int .u64 0,.int .u64 0,.int .u64 0])).run prog w = .ok false w:=by
 have h':=lU 9998 s0 s1 s2 s3 0 0 0 0 w;rw [lV (fun q => h ((fC hs vW).1 q))] at h';exact h'
theorem EW : prog.eqGuardType prog.depth 81 = false:=by kernel_rfl
set_option maxHeartbeats 2000000 in
theorem OX (f : Int) (F : FC) (hf : FieldIs f F) (a0 a1 a2 a3 : Nat) (ha : aY a0 a1 a2 a3) (hz : aA a0 a1 a2 a3 % F.M ≠ 0) (w : World) :
  Calls prog 75 #[.int .i64 f,.agg #[.int .u64 a0,.int .u64 a1,.int .u64 a2,.int .u64 a3]] w (fun e w' => ∃ s0 s1 s2 s3 : Nat,e = .returned (.tuple #[.agg #[.int .u64 s0,.int .u64 s1,.int .u64 s2,.int .u64 s3],.int .i64 0]) ∧ aY s0 s1 s2 s3 ∧ aA s0 s1 s2 s3 = aA a0 a1 a2 a3 ^ (F.M - 2) % F.M ∧ Below w.heap.size w w'):=by
 have hG:=EW;have h2:=hf.ok.gt
 go_enter func75,ntmps75
 go_wp2_with fail;have HM:=Lib.hid (((Mem.nil w).new (w.heap.size) a0 a1 a2 a3 24 (by simp)).new (w.heap.size + 1) 0 0 0 0 24 (by simp));refine (dD f F hf a0 a1 a2 a3 ha _).mono ?_
 rintro e w1 ⟨d0,d1,d2,d3,rfl,hd,hv,hbl⟩
 have HM':=Lib.hid (HM.out.on hbl);clear HM hbl;have HM:=HM';clear HM';have EQ:=aDw hd (by rw [hv]; exact hz);clear hv hz;go_wp2_with fail;refine (eR f F hf _).mono ?_
 rintro e w2 ⟨rfl,hbl⟩
 have HM':=Lib.hid (HM.out.on hbl);clear HM hbl;have HM:=HM';clear HM';go_wp2_with fail;refine (fF F.m0 F.m1 F.m2 F.m3 2 0 0 0 hf.ok.okm (show aY 2 0 0 0 by unfold aY; decide) _).mono ?_
 rintro e w3 ⟨n0,n1,n2,n3,c,rfl,hn,hc,hv,hbl⟩
 have HVn:=Lib.hid (show aA n0 n1 n2 n3 = F.M - 2 by
  have e2 : aA 2 0 0 0 = 2:=rfl;have:=bH hn;rw [e2] at hv;have e3 : aA F.m0 F.m1 F.m2 F.m3 = F.M:=rfl;rw [e3] at hv;have : c = 0:=by rcases (show c = 0 ∨ c = 1 by omega) with h | h; exact h; subst h; omega
  subst this;omega)
 clear hv hc;have HM':=Lib.hid ((HM.out.on hbl).new w3.heap.size n0 n1 n2 n3 81 rfl);clear HM hbl;have HM:=HM';clear HM';have kr:=HM.out.row (b:=w.heap.size) (c0:=a0) (c1:=a1) (c2:=a2) (c3:=a3) (by simp);have x0:=kr.c0; have x1:=kr.c1; have x2:=kr.c2; have x3:=kr.c3;clear kr;have xl : w.heap.size < w3.heap.size:=by have:=HM.out.lt (b:=w.heap.size) (c0:=a0) (c1:=a1) (c2:=a2) (c3:=a3) (by simp); have l2:=HM.out.lt (b:=w.heap.size + 1) (c0:=0) (c1:=0) (c2:=0) (c3:=0) (by simp); simp at l2; omega
 go_wp2_with fail;refine (jX f F hf a0 a1 a2 a3 n0 n1 n2 n3 ha hn _).mono ?_
 rintro e w4 ⟨s0,s1,s2,s3,rfl,hs,hv,hbl⟩
 have HVs:=Lib.hid (show aA s0 s1 s2 s3 = aA a0 a1 a2 a3 ^ (F.M - 2) % F.M by rw [hv,HVn.out]);have HM':=Lib.hid (HM.out.on hbl);clear HM hbl hv x0 x1 x2 x3 xl;have HM:=HM';clear HM';have kr:=HM.out.row (b:=w.heap.size + 1) (c0:=0) (c1:=0) (c2:=0) (c3:=0) (by simp);have y0:=kr.c0; have y1:=kr.c1; have y2:=kr.c2; have y3:=kr.c3; have yf:=kr.fr;have yl:=HM.out.lt (b:=w.heap.size + 1) (c0:=0) (c1:=0) (c2:=0) (c3:=0) (by simp);clear kr;go_wp2_with fail;refine bodyPost_ret (v:=.tuple #[.agg #[.int .u64 s0,.int .u64 s1,.int .u64 s2,.int .u64 s3],.int .i64 0]) (by simp [results,results75,go_sem, *]) rfl ?_;refine ⟨_,_,_,_,rfl,hs,HVs.out,?_⟩;exact aL HM.out.1 (by omega) _ _ _ _
set_option maxHeartbeats 2000000 in
theorem OY (f : Int) (F : FC) (hf : FieldIs f F) (a0 a1 a2 a3 : Nat) (ha : aY a0 a1 a2 a3) (hz : aA a0 a1 a2 a3 % F.M = 0) (w : World) :
  Calls prog 75 #[.int .i64 f,.agg #[.int .u64 a0,.int .u64 a1,.int .u64 a2,.int .u64 a3]] w (fun e w' => ∃ s0 s1 s2 s3 : Nat,e = .returned (.tuple #[.agg #[.int .u64 s0,.int .u64 s1,.int .u64 s2,.int .u64 s3],.int .i64 22]) ∧ aY s0 s1 s2 s3 ∧ aA s0 s1 s2 s3 = 0 ∧ Below w.heap.size w w'):=by
 have hG:=EW;have h2:=hf.ok.gt
 go_enter func75,ntmps75
 go_wp2_with fail;have HM:=Lib.hid (((Mem.nil w).new (w.heap.size) a0 a1 a2 a3 24 (by simp)).new (w.heap.size + 1) 0 0 0 0 24 (by simp));refine (dD f F hf a0 a1 a2 a3 ha _).mono ?_
 rintro e w1 ⟨d0,d1,d2,d3,rfl,hd,hv,hbl⟩
 have HM':=Lib.hid (HM.out.on hbl);clear HM hbl;have HM:=HM';clear HM';have EQ:=Wr hd (by rw [hv]; exact hz);clear hv hz;have kr:=HM.out.row (b:=w.heap.size + 1) (c0:=0) (c1:=0) (c2:=0) (c3:=0) (by simp);have y0:=kr.c0; have y1:=kr.c1; have y2:=kr.c2; have y3:=kr.c3; have yf:=kr.fr;have yl:=HM.out.lt (b:=w.heap.size + 1) (c0:=0) (c1:=0) (c2:=0) (c3:=0) (by simp);clear kr;go_wp2_with fail;refine bodyPost_ret (v:=.tuple #[.agg #[.int .u64 (0 : Nat),.int .u64 (0 : Nat),.int .u64 (0 : Nat),.int .u64 (0 : Nat)],.int .i64 22]) (by simp [results,results75,go_sem, *]) rfl ?_;refine ⟨_,_,_,_,rfl,vW,rfl,?_⟩;exact aL HM.out.1 (by omega) 0 0 0 0
end Go.Proofs.YtfnkbmlmgnadmaaGreat
namespace Go.Proofs.YtfnkbmlmgnadmaaGreat.Ex
open Go.Proofs.Tryz
open Go.RowKit
def gR (op : Fq → Fq → Fq) : fQ
 | [.v (.im (.int .i64 (.ofNat 1))),.v (.fl l),.v (.fl m)] => match Bf l,Bf m with
  | some x,some y => some ([],.one (.fl (e1 (op x y))))
  | _,_ => none
 | _ => none
def gRI (c : Bool) : fQ
 | [.v (.im (.int .i64 (.ofNat 1))),.v (.fl l)] => match Bf l with
  | some x => bif c then some ([x ≠ F1.zero],.many [.fl (e1 (dZ x)),.im (.int .i64 0)]) else some ([x = F1.zero],.many [.fl (e1 F1.zero),.im (.int .i64 22)])
  | none => none
 | _ => none
theorem Vl {f : FuncId} {op : Fq → Fq → Fq} (h : ∀ (a b : Nat) (w : World),Calls prog f #[.int .i64 1,.agg (aC (q1 a)).toArray,.agg (aC (q1 b)).toArray] w (FwPost (op (m1 a) (m1 b)).1 w)) :
  ∀ cs pre r,gR op cs = some (pre,r) → aP pre → ∀ (args : List Value) (w : World),bK w cs args → Good prog f r args w:=by
 intro cs pre r hg hp args w ha;unfold gR at hg;split at hg
 ·rename_i l m;split at hg
  ·rename_i x y hx hy;cases hg;obtain ⟨a,e1,rfl⟩:=iZ l x hx;obtain ⟨b,e2,rfl⟩:=iZ m y hy
   match args,ha with
   | [v,u,s],ha =>
    have h1 : v = .int .i64 1:=ha.1;have h2 : u = .agg (aC l).toArray:=ha.2.1;have h3 : s = .agg (aC m).toArray:=ha.2.2.1;rw [e1] at h2;rw [e2] at h3;subst h1; subst h2; subst h3;exact (h a b w).mono fun e w' h => h
   | [],ha => exact ha.elim
   | [_],ha => exact ha.2.elim
   | [_,_],ha => exact ha.2.2.elim
   | _ :: _ :: _ :: _ :: _,ha => exact ha.2.2.2.elim
  ·cases hg
 ·cases hg
theorem aKM (a b : Nat) (w : World) : Calls prog 113 #[.int .i64 1,.agg (aC (q1 a)).toArray,.agg (aC (q1 b)).toArray] w (FwPost (F1.add (m1 a) (m1 b)).1 w):=by
 refine (zA 1 FP fT _ _ _ _ _ _ _ _ (bM a) (bM b) w).mono fun e w' h => ?_
 rw [show (F1.add (m1 a) (m1 b)).1 = (aA (fw a 0) (fw a 1) (fw a 2) (fw a 3) + aA (fw b 0) (fw b 1) (fw b 2) (fw b 3)) % FP.M from (Nat.add_mod _ _ _).symm];exact FwPost.of (Nat.mod_lt _ dC) h
theorem aKJ (a b : Nat) (w : World) : Calls prog 117 #[.int .i64 1,.agg (aC (q1 a)).toArray,.agg (aC (q1 b)).toArray] w (FwPost (F1.sub (m1 a) (m1 b)).1 w):=by
 refine (WW 1 FP fT _ _ _ _ _ _ _ _ (bM a) (bM b) w).mono fun e w' h => ?_
 have e : (F1.sub (m1 a) (m1 b)).1 = (aA (fw a 0) (fw a 1) (fw a 2) (fw a 3) + (FP.M - aA (fw b 0) (fw b 1) (fw b 2) (fw b 3) % FP.M)) % FP.M:=by
  show (wv a % FP.M + (0 + FP.M - wv b % FP.M) % FP.M) % FP.M = (wv a + (FP.M - wv b % FP.M)) % FP.M;rw [Nat.zero_add,← Nat.add_mod]
 rw [e];exact FwPost.of (Nat.mod_lt _ dC) h
theorem aKK (a b : Nat) (w : World) : Calls prog 114 #[.int .i64 1,.agg (aC (q1 a)).toArray,.agg (aC (q1 b)).toArray] w (FwPost (F1.mul (m1 a) (m1 b)).1 w):=by
 refine (qD 1 FP fT _ _ _ _ _ _ _ _ (bM a) (bM b) w).mono fun e w' h => ?_
 rw [show (F1.mul (m1 a) (m1 b)).1 = (aA (fw a 0) (fw a 1) (fw a 2) (fw a 3) * aA (fw b 0) (fw b 1) (fw b 2) (fw b 3)) % FP.M from (Nat.mul_mod _ _ _).symm];exact FwPost.of (Nat.mod_lt _ dC) h
theorem aKL (c : Bool) : ∀ cs pre r,gRI c cs = some (pre,r) → aP pre → ∀ (args : List Value) (w : World),bK w cs args → Good prog 75 r args w:=by
 intro cs pre r hg hp args w ha;unfold gRI at hg;split at hg
 ·rename_i l;split at hg
  ·rename_i x hx;obtain ⟨a,e1,rfl⟩:=iZ l x hx
   match args,ha with
   | [v,u],ha =>
    have h1 : v = .int .i64 1:=ha.1;have h2 : u = .agg (aC l).toArray:=ha.2.1;rw [e1] at h2;subst h1; subst h2;cases c
    ·cases hg;have hz : m1 a = F1.zero:=hp.1;have hz' : aA (fw a 0) (fw a 1) (fw a 2) (fw a 3) % FP.M = 0:=congrArg Fin.val hz;refine (OY 1 FP fT _ _ _ _ (bM a) hz' w).mono ?_
     rintro e w' ⟨s0,s1,s2,s3,rfl,hs,hv,hb⟩
     obtain ⟨rfl,rfl,rfl,rfl⟩:=fB hs (gV dC) hv;exact ⟨rfl,hb⟩
    ·cases hg;have hz : m1 a ≠ F1.zero:=hp.1;have hz' : aA (fw a 0) (fw a 1) (fw a 2) (fw a 3) % FP.M ≠ 0:=fun e => hz (Fin.ext e)
     refine (OX 1 FP fT _ _ _ _ (bM a) hz' w).mono ?_
     rintro e w' ⟨s0,s1,s2,s3,rfl,hs,hv,hb⟩
     have hf : (dZ (m1 a)).1 = aA (fw a 0) (fw a 1) (fw a 2) (fw a 3) ^ (FP.M - 2) % FP.M:=by
      rw [sO,Nat.one_mul];exact (Nat.pow_mod _ _ _).symm
     rw [← hf] at hv;obtain ⟨rfl,rfl,rfl,rfl⟩:=fB hs (gV (dZ (m1 a)).2) hv;exact ⟨rfl,hb⟩
   | [],ha => exact ha.elim
   | [_],ha => exact ha.2.elim
   | _ :: _ :: _ :: _,ha => exact ha.2.2.elim
  ·cases hg
 ·cases hg
def Fj (c : Bool) : Tab:=(Ad c).add 113 (gR F1.add)
theorem Sj (c : Bool) : TabOk prog (Fj c):=(aLe c).ad func113 (Vl aKM)
def Fh (c : Bool) : Tab:=(Fj c).add 117 (gR F1.sub)
theorem Sh (c : Bool) : TabOk prog (Fh c):=(Sj c).ad func117 (Vl aKJ)
def Fi (c : Bool) : Tab:=(Fh c).add 114 (gR F1.mul)
theorem Si (c : Bool) : TabOk prog (Fi c):=(Sh c).ad func114 (Vl aKK)
def KY (c : Bool) : Tab:=(Fi c).add 75 (gRI c)
theorem QL (c : Bool) : TabOk prog (KY c):=(Si c).ad func75 (aKL c)
theorem Nr (c : Bool) (x : Nat) (y : Nat) : dH prog (KY c) qN (fun _ => true) f73 40 [.v (.fl (q1 x)),.v (.fl (q1 y))] = some ([],.one (.fl (e1 (F1.add (m1 x) (m1 y))))):=by kernel_rfl
def ZS (c : Bool) : Tab:=(KY c).add 73 (g2 Bf Bf (fun x y => ([],.one (.fl (e1 (F1.add x y))))))
theorem Ce (c : Bool) : TabOk prog (ZS c):=(QL c).ad func73 (gU iZ iZ fun x y hp args w ha => aS aG (QL c) cC func73 (Nr c x y) hp ha)
theorem No (c : Bool) (x : Nat) (y : Nat) : dH prog (ZS c) qN (fun _ => true) f76 40 [.v (.fl (q1 x)),.v (.fl (q1 y))] = some ([],.one (.fl (e1 (F1.sub (m1 x) (m1 y))))):=by kernel_rfl
def ZQ (c : Bool) : Tab:=(ZS c).add 76 (g2 Bf Bf (fun x y => ([],.one (.fl (e1 (F1.sub x y))))))
theorem Cb (c : Bool) : TabOk prog (ZQ c):=(Ce c).ad func76 (gU iZ iZ fun x y hp args w ha => aS aG (Ce c) cC func76 (No c x y) hp ha)
theorem Np (c : Bool) (x : Nat) (y : Nat) : dH prog (ZQ c) qN (fun _ => true) f74 40 [.v (.fl (q1 x)),.v (.fl (q1 y))] = some ([],.one (.fl (e1 (F1.mul (m1 x) (m1 y))))):=by kernel_rfl
def ZR (c : Bool) : Tab:=(ZQ c).add 74 (g2 Bf Bf (fun x y => ([],.one (.fl (e1 (F1.mul x y))))))
theorem Cd (c : Bool) : TabOk prog (ZR c):=(Cb c).ad func74 (gU iZ iZ fun x y hp args w ha => aS aG (Cb c) cC func74 (Np c x y) hp ha)
theorem Hb (c : Bool) (x : N2) (y : N2) : dH prog (ZR c) qN (fun _ => true) f39 40 [.v (.fl (q2 x)),.v (.fl (q2 y))] = some ([],.one (.fl (e2 (F2.add (m2 x) (m2 y))))):=by kernel_rfl
def KX (c : Bool) : Tab:=(ZR c).add 39 (g2 nC nC (fun x y => ([],.one (.fl (e2 (F2.add x y))))))
theorem QK (c : Bool) : TabOk prog (KX c):=(Cd c).ad func39 (gU cF cF fun x y hp args w ha => aS aG (Cd c) cC func39 (Hb c x y) hp ha)
theorem Gy (c : Bool) (x : N2) (y : N2) : dH prog (KX c) qN (fun _ => true) f71 40 [.v (.fl (q2 x)),.v (.fl (q2 y))] = some ([],.one (.fl (e2 (F2.sub (m2 x) (m2 y))))):=by kernel_rfl
def KV (c : Bool) : Tab:=(KX c).add 71 (g2 nC nC (fun x y => ([],.one (.fl (e2 (F2.sub x y))))))
theorem QI (c : Bool) : TabOk prog (KV c):=(QK c).ad func71 (gU cF cF fun x y hp args w ha => aS aG (QK c) cC func71 (Gy c x y) hp ha)
theorem Ha (c : Bool) (x : N2) (y : N2) : dH prog (KV c) qN (fun _ => true) f40 40 [.v (.fl (q2 x)),.v (.fl (q2 y))] = some ([],.one (.fl (e2 ((F1.sub (F1.mul (m2 x).1 (m2 y).1) (F1.mul (m2 x).2 (m2 y).2),F1.add (F1.mul (m2 x).1 (m2 y).2) (F1.mul (m2 x).2 (m2 y).1)))))):=by kernel_rfl
theorem Jg (x : Q2) (y : Q2) : F2.mul x y = (F1.sub (F1.mul x.1 y.1) (F1.mul x.2 y.2),F1.add (F1.mul x.1 y.2) (F1.mul x.2 y.1)):=by
 refine Prod.ext ?_ rfl;show F1.add (F1.mul x.1 y.1) (F1.mul (F1.neg F1.one) (F1.mul x.2 y.2)) = F1.add (F1.mul x.1 y.1) (F1.neg (F1.mul x.2 y.2));rw [F1.neg_mul,F1.one_mul]
def KW (c : Bool) : Tab:=(KV c).add 40 (g2 nC nC (fun x y => ([],.one (.fl (e2 (F2.mul x y))))))
theorem QJ (c : Bool) : TabOk prog (KW c):=(QI c).ad func40 (gU cF cF fun x y hp args w ha => by show Good _ _ (.one (.fl (e2 (F2.mul (m2 x) (m2 y))))) _ _; rw [Jg]; exact aS aG (QI c) cC func40 (Ha c x y) hp ha)
theorem Gz (c : Bool) (x : N2) : dH prog (KW c) qN (fun _ => true) f44 40 [.v (.fl (q2 x))] = some ([],.one (.fl (e2 (F2.sub F2.zero (m2 x))))):=by kernel_rfl
def xQ (c : Bool) : Tab:=(KW c).add 44 (g1 nC (fun x => ([],.one (.fl (e2 (F2.sub F2.zero x))))))
theorem zU (c : Bool) : TabOk prog (xQ c):=(QJ c).ad func44 (iC cF fun x hp args w ha => aS aG (QJ c) cC func44 (Gz c x) hp ha)
structure FD {R : Type} (K : CR R) (inv : R → R) : Prop where
 ne : K.one ≠ K.zero
 inv : ∀ x,x ≠ K.zero → K.mul x (inv x) = K.one
section
variable {R : Type} {K : CR R} {inv : R → R}
theorem FD.zd (h : FD K inv) {a b : R} (e : K.mul a b = K.zero) (ha : a ≠ K.zero) : b = K.zero:=by
 have:=congrArg (K.mul (inv a)) e
 rwa [← K.mul_assoc,K.mul_comm (inv a),h.inv a ha,K.one_mul,K.mul_zero] at this
theorem FD.mul_ne (h : FD K inv) {a b : R} (ha : a ≠ K.zero) (hb : b ≠ K.zero) : K.mul a b ≠ K.zero:=fun e => hb (h.zd e ha)
theorem FD.cancel (h : FD K inv) {a b c : R} (ha : a ≠ K.zero) (e : K.mul a b = K.mul a c) : b = c:=by
 have:=congrArg (K.mul (inv a)) e
 rwa [← K.mul_assoc,← K.mul_assoc,K.mul_comm (inv a),h.inv a ha,K.one_mul,K.one_mul] at this
theorem jS {a b : R} (h : K.add a (K.neg b) = K.zero) : a = b:=by
 have h2 : K.add (K.add a (K.neg b)) b = K.add K.zero b:=congrArg (fun x => K.add x b) h
 rwa [K.add_assoc,K.neg_add,K.add_zero,K.zero_add] at h2
theorem eV {a b : R} (h : a = b) : K.add a (K.neg b) = K.zero:=by rw [h,K.add_neg]
theorem pT {A B L1 R1 c1 : R} (h1 : L1 = R1) (e : K.add A (K.neg B) = K.mul c1 (K.add L1 (K.neg R1))) : A = B:=by
 apply jS (K:=K);rw [e,eV h1,K.mul_zero]
theorem sT {A B L1 R1 c1 L2 R2 c2 : R} (h1 : L1 = R1) (h2 : L2 = R2) (e : K.add A (K.neg B) = K.add (K.mul c1 (K.add L1 (K.neg R1))) (K.mul c2 (K.add L2 (K.neg R2)))) : A = B:=by
 apply jS (K:=K);rw [e,eV h1,eV h2,K.mul_zero,K.mul_zero,K.add_zero]
theorem aFj {A B L1 R1 c1 L2 R2 c2 L3 R3 c3 : R} (h1 : L1 = R1) (h2 : L2 = R2) (h3 : L3 = R3) (e : K.add A (K.neg B) = K.add (K.add (K.mul c1 (K.add L1 (K.neg R1))) (K.mul c2 (K.add L2 (K.neg R2)))) (K.mul c3 (K.add L3 (K.neg R3)))) : A = B:=by
 apply jS (K:=K);rw [e,eV h1,eV h2,eV h3,K.mul_zero,K.mul_zero,K.mul_zero,K.add_zero,K.add_zero]
end
section
variable {R : Type} (K : CR R)
def tl (f : Nat → R) : Nat → R:=fun n => f (n + 1)
def oD : Nat → (Nat → R) → (Nat → R) → R
 | 0,f,g => K.mul (f 0) (g 0)
 | n + 1,f,g => K.add (K.mul (f 0) (g (n + 1))) (oD n (tl f) g)
def Ku (f g : Nat → R) : Nat → R:=fun n => K.add (f n) (g n)
def fsc (c : R) (f : Nat → R) : Nat → R:=fun n => K.mul c (f n)
def YQ (f g : Nat → R) : Nat → R:=fun n => oD K n f g
def aOe (f : Nat → R) : Nat → R:=fun n => K.neg (f n)
def fze : Nat → R:=fun _ => K.zero
def fco (c : R) : Nat → R | 0 => c | _ + 1 => K.zero
theorem FA : ∀ (n : Nat) (f g h : Nat → R),oD K n f (Ku K g h) = K.add (oD K n f g) (oD K n f h)
 | 0,f,g,h => K.mul_add _ _ _
 | n + 1,f,g,h => by
  show K.add (K.mul (f 0) (K.add _ _)) (oD K n (tl f) (Ku K g h)) = K.add (K.add _ _) (K.add _ _);rw [FA n,K.mul_add,K.add_assoc,K.add_assoc,K.add_left_comm (K.mul (f 0) (h (n + 1)))]
theorem FB : ∀ (n : Nat) (f g h : Nat → R),oD K n (Ku K f g) h = K.add (oD K n f h) (oD K n g h)
 | 0,f,g,h => K.add_mul _ _ _
 | n + 1,f,g,h => by
  show K.add (K.mul (K.add _ _) (h (n + 1))) (oD K n (Ku K (tl f) (tl g)) h) = K.add (K.add _ _) (K.add _ _);rw [FB n,K.add_mul,K.add_assoc,K.add_assoc,K.add_left_comm (K.mul (g 0) (h (n + 1)))]
theorem Xj : ∀ (n : Nat) (c : R) (f g : Nat → R),oD K n (fsc K c f) g = K.mul c (oD K n f g)
 | 0,c,f,g => K.mul_assoc _ _ _
 | n + 1,c,f,g => by
  show K.add (K.mul (K.mul c (f 0)) _) (oD K n (fsc K c (tl f)) g) = K.mul c (K.add _ _);rw [Xj n,K.mul_add,K.mul_assoc]
theorem YX : ∀ (n : Nat) (g : Nat → R),oD K n (fze K) g = K.zero
 | 0,g => K.zero_mul _
 | n + 1,g => by
  show K.add (K.mul K.zero _) (oD K n (fze K) g) = _;rw [YX n,K.zero_mul,K.add_zero]
theorem YZ (c : R) (g : Nat → R) : ∀ n,oD K n (fco K c) g = K.mul c (g n)
 | 0 => rfl
 | n + 1 => by
  show K.add (K.mul c _) (oD K n (fze K) g) = _;rw [YX,K.add_zero]
theorem EZ : ∀ (n : Nat) (f g h : Nat → R),oD K n (YQ K f g) h = oD K n f (YQ K g h)
 | 0,f,g,h => K.mul_assoc _ _ _
 | n + 1,f,g,h => by
  have e : tl (YQ K f g) = Ku K (fsc K (f 0) (tl g)) (YQ K (tl f) g):=rfl;show K.add (K.mul (K.mul (f 0) (g 0)) (h (n + 1))) (oD K n (tl (YQ K f g)) h) = K.add (K.mul (f 0) (K.add (K.mul (g 0) (h (n + 1))) (oD K n (tl g) h))) (oD K n (tl f) (YQ K g h));rw [e,FB,Xj,EZ n,K.mul_add,K.mul_assoc,K.add_assoc]
theorem sU : ∀ (n : Nat) (f g : Nat → R),oD K n f g = oD K n g f
 | 0,f,g => K.mul_comm _ _
 | 1,f,g => by
  show K.add (K.mul (f 0) (g 1)) (K.mul (f 1) (g 0)) = K.add (K.mul (g 0) (f 1)) (K.mul (g 1) (f 0));rw [K.add_comm,K.mul_comm (f 1),K.mul_comm (f 0)]
 | n + 2,f,g => by
  show K.add (K.mul (f 0) (g (n + 2))) (oD K (n + 1) (tl f) g) = K.add (K.mul (g 0) (f (n + 2))) (oD K (n + 1) (tl g) f);rw [sU (n + 1) (tl f) g,sU (n + 1) (tl g) f];show K.add (K.mul (f 0) (g (n + 2))) (K.add (K.mul (g 0) (f (n + 2))) (oD K n (tl g) (tl f))) = K.add (K.mul (g 0) (f (n + 2))) (K.add (K.mul (f 0) (g (n + 2))) (oD K n (tl f) (tl g)));rw [K.add_left_comm,sU n (tl g) (tl f)]
theorem YY : ∀ (a b : Nat) (f g : Nat → R),(∀ i,a ≤ i → f i = K.zero) → (∀ i,b ≤ i → g i = K.zero) → ∀ n,a + b ≤ n + 1 → oD K n f g = K.zero
 | 0,b,f,g,hf,hg,n,h => by
  have : f = fze K:=funext fun i => hf i (Nat.zero_le _)
  rw [this,YX]
 | a + 1,b,f,g,hf,hg,0,h => by
  show K.mul (f 0) (g 0) = _;rw [hg 0 (by omega),K.mul_zero]
 | a + 1,b,f,g,hf,hg,n + 1,h => by
  show K.add (K.mul (f 0) (g (n + 1))) (oD K n (tl f) g) = _;rw [hg (n + 1) (by omega),K.mul_zero,K.zero_add];exact YY a b (tl f) g (fun i hi => hf (i + 1) (by omega)) hg n (by omega)
def Pol : Type:={f : Nat → R // ∃ n,∀ i,n ≤ i → f i = K.zero}
variable {K}
theorem Pol.ext {f g : Pol K} (h : ∀ n,f.1 n = g.1 n) : f = g:=Subtype.ext (funext h)
def bD : CR (Pol K) where
 add f g:=⟨Ku K f.1 g.1,by
  obtain ⟨a,ha⟩:=f.2; obtain ⟨b,hb⟩:=g.2;exact ⟨a + b,fun i hi => by show K.add (f.1 i) (g.1 i) = _; rw [ha i (by omega),hb i (by omega),K.add_zero]⟩⟩
 mul f g:=⟨YQ K f.1 g.1,by
  obtain ⟨a,ha⟩:=f.2; obtain ⟨b,hb⟩:=g.2;exact ⟨a + b,fun i hi => YY K a b f.1 g.1 ha hb i (by omega)⟩⟩
 neg f:=⟨aOe K f.1,by
  obtain ⟨a,ha⟩:=f.2;exact ⟨a,fun i hi => by show K.neg (f.1 i) = _; rw [ha i hi,bP]⟩⟩
 zero:=⟨fze K,0,fun _ _ => rfl⟩
 one:=⟨fco K K.one,1,fun i hi => by cases i with | zero => omega | succ i => rfl⟩
 add_assoc a b c:=Pol.ext fun n => K.add_assoc _ _ _
 add_comm a b:=Pol.ext fun n => K.add_comm _ _
 zero_add a:=Pol.ext fun n => K.zero_add _
 neg_add a:=Pol.ext fun n => K.neg_add _
 mul_assoc a b c:=Pol.ext fun n => EZ K n _ _ _
 mul_comm a b:=Pol.ext fun n => sU K n _ _
 one_mul a:=Pol.ext fun n => by show oD K n (fco K K.one) a.1 = _; rw [YZ,K.one_mul]
 mul_add a b c:=Pol.ext fun n => FA K n _ _ _
def jE (c : R) : Pol K:=⟨fco K c,1,fun i hi => by cases i with | zero => omega | succ i => rfl⟩
def pX : Pol K:=⟨fun n => match n with | 1 => K.one | _ => K.zero,2,fun i hi => by match i,hi with | i + 2,_ => rfl⟩
theorem Bq (a b : R) : (jE (K.add a b) : Pol K) = bD.add (jE a) (jE b):=Pol.ext fun n => by
 cases n with
 | zero => rfl
 | succ n => exact (K.zero_add _).symm
theorem aCb (a : R) : (jE (K.neg a) : Pol K) = bD.neg (jE a):=Pol.ext fun n => by
 cases n with
 | zero => rfl
 | succ n => exact (bP K).symm
theorem wU (a b : R) : (jE (K.mul a b) : Pol K) = bD.mul (jE a) (jE b):=Pol.ext fun n => by
 show _ = oD K n (fco K a) (fco K b);rw [YZ];cases n with
 | zero => rfl
 | succ n => exact (K.mul_zero _).symm
def dg (f : Pol K) (n : Nat) : Prop:=f.1 n ≠ K.zero ∧ ∀ i,n < i → f.1 i = K.zero
theorem Xe {f : Pol K} {n : Nat} (h : dg f n) : f ≠ bD.zero:=fun e => h.1 (by rw [e]; rfl)
theorem aII {f : Pol K} {n m : Nat} (h : dg f n) (g : dg f m) : n = m:=by
 rcases Nat.lt_trichotomy n m with q | q | q
 ·exact absurd (h.2 m q) g.1
 ·exact q
 ·exact absurd (g.2 n q) h.1
theorem Ei (f : Pol K) (h : f ≠ bD.zero) : ∃ n,dg f n:=by
 obtain ⟨b,hb⟩:=f.2;have : ∀ b,(∀ i,b ≤ i → f.1 i = K.zero) → ∃ n,dg f n:=by
  intro b
  induction b with
  | zero => exact fun hb => absurd (Pol.ext fun n => hb n (Nat.zero_le _)) h
  | succ b ih =>
   intro hb
   by_cases h0 : f.1 b = K.zero
   ·exact ih fun i hi => by
     rcases Nat.lt_or_ge b i with q | q
     ·exact hb i q
     ·rw [show i = b by omega,h0]
   ·exact ⟨b,h0,hb⟩
 exact this b hb
variable {inv : R → R}
theorem Eo : ∀ (a b : Nat) (f g : Nat → R),(∀ i,a < i → f i = K.zero) → (∀ i,b < i → g i = K.zero) → oD K (a + b) f g = K.mul (f a) (g b)
 | 0,b,f,g,hf,hg => by
  have : f = fco K (f 0):=funext fun i => by cases i with | zero => rfl | succ i => exact hf _ (by omega)
  rw [this,YZ,Nat.zero_add]; rfl
 | a + 1,b,f,g,hf,hg => by
  rw [show a + 1 + b = (a + b) + 1 by omega];show K.add (K.mul (f 0) (g (a + b + 1))) (oD K (a + b) (tl f) g) = _;rw [hg (a + b + 1) (by omega),K.mul_zero,K.zero_add];exact Eo a b (tl f) g (fun i hi => hf (i + 1) (by omega)) hg
theorem lF (F : FD K inv) {f g : Pol K} {n m : Nat} (hf : dg f n) (hg : dg g m) : dg (bD.mul f g) (n + m):=by
 refine ⟨?_,fun i hi => YY K (n + 1) (m + 1) f.1 g.1 (fun j hj => hf.2 j hj) (fun j hj => hg.2 j hj) i (by omega)⟩
 ·show oD K (n + m) f.1 g.1 ≠ _;rw [Eo n m f.1 g.1 hf.2 hg.2];exact F.mul_ne hf.1 hg.1
theorem BH {f g : Pol K} {n : Nat} (hf : dg f n) (hg : ∀ i,n ≤ i → g.1 i = K.zero) : dg (bD.add f g) n:=by
 refine ⟨?_,fun i hi => ?_⟩
 ·show K.add (f.1 n) (g.1 n) ≠ _;rw [hg n (Nat.le_refl _),K.add_zero]; exact hf.1
 ·show K.add (f.1 i) (g.1 i) = _;rw [hf.2 i hi,hg i (by omega),K.add_zero]
theorem aHr {a : R} (h : a ≠ K.zero) : K.neg a ≠ K.zero:=fun e => h (by rw [← K.neg_neg a,e,bP])
theorem Xd {f : Pol K} {n : Nat} (hf : dg f n) : dg (bD.neg f) n :=
 ⟨aHr hf.1,fun i hi => by show K.neg (f.1 i) = _; rw [hf.2 i hi,bP]⟩
theorem BG (F : FD K inv) (c : R) : dg (bD.sub (pX : Pol K) (jE c)) 1:=by
 refine ⟨?_,fun i hi => ?_⟩
 ·show K.add K.one (K.neg K.zero) ≠ _;rw [bP,K.add_zero]; exact F.ne
 ·match i,hi with
  | i + 2,_ => show K.add K.zero (K.neg K.zero) = _; rw [bP,K.add_zero]
def qP (c : R) : Pol K:=bD.add (bD.mul pX (bD.mul pX pX)) (jE c)
theorem aIJ (F : FD K inv) : dg (pX : Pol K) 1:=⟨F.ne,fun i hi => by match i,hi with | i + 2,_ => rfl⟩
theorem aLW (F : FD K inv) (c : R) : dg (qP c : Pol K) 3 :=
 BH (lF F (aIJ F) (lF F (aIJ F) (aIJ F))) fun i hi => by match i,hi with | i + 1,_ => rfl
theorem EJ (F : FD K inv) {c k : R} {h : Pol K} (e : bD.mul (bD.sub (pX : Pol K) (jE c)) h = jE k) : k = K.zero:=by
 by_cases h0 : h = bD.zero
 ·rw [h0,bD.mul_zero] at e;exact (congrArg (fun p : Pol K => p.1 0) e).symm
 ·obtain ⟨n,hn⟩:=Ei h h0;have:=lF F (BG F c) hn;rw [e] at this;exact absurd (by rw [Nat.add_comm]; rfl) this.1
end
end Go.Proofs.YtfnkbmlmgnadmaaGreat.Ex
