/- Pt09 -/
import Derived.Deep.DeepCutAuto
import Derived.KernelRfl
import Derived.Test.YtfnkbmlmgnadmaaGreatPt08
import Derived.Test.YtfnkbmlmgnadmaaGreatPt00
import Derived.Test.YtfnkbmlmgnadmaaGreatPt06
import Derived.Test.YtfnkbmlmgnadmaaGreatPt07
set_option maxRecDepth 100000
set_option linter.unusedVariables false
set_option linter.unusedSimpArgs false
set_option linter.unnecessarySimpa false
noncomputable section
namespace Go.Proofs.YtfnkbmlmgnadmaaGreat
open Go.Proofs.Tryz
open Go.RowKit
set_option maxHeartbeats 2000000 in
theorem AZ (f : Int) (F : FC) (hf : FieldIs f F) (w : World) : Calls prog 147 #[.int .i64 f] w fun e w' => e = .returned (.agg #[.int .u64 F.s0,.int .u64 F.s1,.int .u64 F.s2,.int .u64 F.s3]) ∧ Below w.heap.size w w':=by
 rcases hf with ⟨rfl,rfl⟩ | ⟨rfl,rfl⟩
 ·go_enter func147,ntmps147
  go_wp2_with fail;refine bodyPost_ret (v:=.agg #[.int .u64 FP.s0,.int .u64 FP.s1,.int .u64 FP.s2,.int .u64 FP.s3]) (by simp [results,results147,go_sem,FP]) rfl ?_;refine ⟨rfl,?_⟩
  repeat (first | exact Below.refl _ _ | refine Below.drew ?_ | refine Below.alloc ?_ (by first | (simp; done) | (simp; omega)) _ | refine Below.setCell ?_ (by simp) _)
 ·go_enter func147,ntmps147
  go_wp2_with fail;refine bodyPost_ret (v:=.agg #[.int .u64 FR.s0,.int .u64 FR.s1,.int .u64 FR.s2,.int .u64 FR.s3]) (by simp [results,results147,go_sem,FR]) rfl ?_;refine ⟨rfl,?_⟩
  repeat (first | exact Below.refl _ _ | refine Below.drew ?_ | refine Below.alloc ?_ (by first | (simp; done) | (simp; omega)) _ | refine Below.setCell ?_ (by simp) _)
set_option maxHeartbeats 2000000 in
theorem uU (f : Int) (F : FC) (hf : FieldIs f F) (a0 a1 a2 a3 b0 b1 b2 b3 : Nat) (ha : aY a0 a1 a2 a3) (hb : aY b0 b1 b2 b3) (w : World) :
  Calls prog 113 #[.int .i64 f,.agg #[.int .u64 a0,.int .u64 a1,.int .u64 a2,.int .u64 a3],.agg #[.int .u64 b0,.int .u64 b1,.int .u64 b2,.int .u64 b3]] w (cW ((aA a0 a1 a2 a3 + aA b0 b1 b2 b3) % F.M) w):=by
 have hpos:=hf.ok.pos;have h2M:=hf.ok.two
 go_enter func113,ntmps113
 go_wp2_with fail;have HM:=Lib.hid ((((Mem.nil w).new (w.heap.size) a0 a1 a2 a3 24 (by simp)).new (w.heap.size + 1) b0 b1 b2 b3 24 (by simp)).new (w.heap.size + 1 + 1) 0 0 0 0 24 (by simp))
 go_upto_region 1 with fail
 go_cut [7] (fun s7 wx => ∃ gb s0 s1 s2 s3 : Nat,s7 = .pointer (some ⟨gb,0,none⟩) ∧ aY s0 s1 s2 s3 ∧ Hid (aA s0 s1 s2 s3 = aA a0 a1 a2 a3 % F.M + aA b0 b1 b2 b3 % F.M) ∧ Hid (Mem w wx [(gb,s0,s1,s2,s3),(w.heap.size + 1 + 1,0,0,0,0)]))
 case first =>
  refine bX (fun wx => Mem w wx [(w.heap.size + 1 + 1,0,0,0,0),(w.heap.size + 1,b0,b1,b2,b3),(w.heap.size,a0,a1,a2,a3)]) 12 (by kernel_rfl) ?_;have HM':=Lib.hid (HM.out.drewN 1);clear HM;have HM:=HM';clear HM';have HS:=HM.out.sub (rs':=[(w.heap.size + 1 + 1,0,0,0,0),(w.heap.size + 1,b0,b1,b2,b3),(w.heap.size,a0,a1,a2,a3)]) (by simp);refine aD (i:=0) (v:=.int .i64 f) rfl (by kernel_rfl) (by kernel_rfl) (by kernel_rfl) (by kernel_rfl) (fun _ _ _ h => h) HS (Or.inl ⟨by kernel_rfl,fun wx hx => ?_⟩) ?_
  ·clear HS hx;go_simp
  simp only [Act.put,List.setIfInBounds_toArray,List.set_cons_zero,List.set_cons_succ];refine aD (i:=1) (v:=.agg #[.int .u64 a0,.int .u64 a1,.int .u64 a2,.int .u64 a3]) rfl (by kernel_rfl) (by kernel_rfl) (by kernel_rfl) (by kernel_rfl) (fun _ _ _ h => h) HS (Or.inl ⟨by kernel_rfl,fun wx hx => ?_⟩) ?_
  ·have kr:=hx.row (b:=w.heap.size) (c0:=a0) (c1:=a1) (c2:=a2) (c3:=a3) (by simp);have x0:=kr.c0; have x1:=kr.c1; have x2:=kr.c2; have x3:=kr.c3;clear kr HS hx;go_simp
  simp only [Act.put,List.setIfInBounds_toArray,List.set_cons_zero,List.set_cons_succ];refine aD (i:=3) (v:=.int .i64 f) rfl (by kernel_rfl) (by kernel_rfl) (by kernel_rfl) (by kernel_rfl) (fun _ _ _ h => h) HS (Or.inl ⟨by kernel_rfl,fun wx hx => ?_⟩) ?_
  ·clear HS hx;go_simp
  simp only [Act.put,List.setIfInBounds_toArray,List.set_cons_zero,List.set_cons_succ];refine aD (i:=4) (v:=.agg #[.int .u64 b0,.int .u64 b1,.int .u64 b2,.int .u64 b3]) rfl (by kernel_rfl) (by kernel_rfl) (by kernel_rfl) (by kernel_rfl) (fun _ _ _ h => h) HS (Or.inl ⟨by kernel_rfl,fun wx hx => ?_⟩) ?_
  ·have kr:=hx.row (b:=w.heap.size + 1) (c0:=b0) (c1:=b1) (c2:=b2) (c3:=b3) (by simp);have x0:=kr.c0; have x1:=kr.c1; have x2:=kr.c2; have x3:=kr.c3;clear kr HS hx;go_simp
  simp only [Act.put,List.setIfInBounds_toArray,List.set_cons_zero,List.set_cons_succ];clear HS;refine cZ (i:=2) (j:=10) (by kernel_rfl) rfl rfl (fun K hK => ?_) (fun K hK => ?_)
  ·go_simp;refine (cR f F hf a0 a1 a2 a3 ha _).mono ?_
   rintro e v1 ⟨x0,x1,x2,x3,rfl,hx,hv,hbl⟩
   have HVx:=Lib.hid hv;clear hv;have HM':=Lib.hid (HM.out.on hbl);clear HM hbl;have HM:=HM';clear HM';have HS:=(HM.out.sub (rs':=[(w.heap.size + 1 + 1,0,0,0,0),(w.heap.size + 1,b0,b1,b2,b3),(w.heap.size,a0,a1,a2,a3)]) (by simp));refine hK.out _ _ (Or.inr HS) (fun _ => ?_);clear hK K HS;refine cZ (i:=5) (j:=10) (by kernel_rfl) rfl rfl (fun K hK => ?_) (fun K hK => ?_)
   ·go_simp;refine (cR f F hf b0 b1 b2 b3 hb _).mono ?_
    rintro e v2 ⟨y0,y1,y2,y3,rfl,hy,hv,hbl⟩
    have HVy:=Lib.hid hv;clear hv;have HM':=Lib.hid (HM.out.on hbl);clear HM hbl;have HM:=HM';clear HM';have HS:=(HM.out.sub (rs':=[(w.heap.size + 1 + 1,0,0,0,0),(w.heap.size + 1,b0,b1,b2,b3),(w.heap.size,a0,a1,a2,a3)]) (by simp));refine hK.out _ _ (Or.inr HS) (fun _ => ?_);clear hK K HS;refine cZ (i:=6) (j:=10) (by kernel_rfl) rfl rfl (fun K hK => ?_) (fun K hK => ?_)
    ·go_simp;refine (gE x0 x1 x2 x3 y0 y1 y2 y3 hx hy _).mono ?_
     rintro e v3 ⟨s0,s1,s2,s3,cc,rfl,hs,hcc,hv,hbl⟩
     have HVs:=Lib.hid (show aA s0 s1 s2 s3 = aA a0 a1 a2 a3 % F.M + aA b0 b1 b2 b3 % F.M by have:=Nat.mod_lt (aA a0 a1 a2 a3) hpos; have:=Nat.mod_lt (aA b0 b1 b2 b3) hpos; rw [HVx.out,HVy.out] at hv; omega);clear hv;have HM':=Lib.hid (HM.out.on hbl);clear HM hbl;have HM:=HM';clear HM';have HS:=(HM.out.sub (rs':=[(w.heap.size + 1 + 1,0,0,0,0),(w.heap.size + 1,b0,b1,b2,b3),(w.heap.size,a0,a1,a2,a3)]) (by simp));refine hK.out _ _ (Or.inr HS) (fun _ => ?_);clear hK K HS;have HS:=HM.out.sub (rs':=[(w.heap.size + 1 + 1,0,0,0,0),(w.heap.size + 1,b0,b1,b2,b3),(w.heap.size,a0,a1,a2,a3)]) (by simp);refine aD (i:=7) (v:=.tuple #[.agg #[.int .u64 s0,.int .u64 s1,.int .u64 s2,.int .u64 s3],.int .u64 (cc : Nat)]) rfl (by kernel_rfl) (by kernel_rfl) (by kernel_rfl) (by kernel_rfl) (fun _ _ _ h => h) HS (Or.inl ⟨by kernel_rfl,fun wx hx => ?_⟩) ?_
     ·clear HS hx;go_simp
     simp only [Act.put,List.setIfInBounds_toArray,List.set_cons_zero,List.set_cons_succ];refine aD (i:=8) (v:=.agg #[.int .u64 s0,.int .u64 s1,.int .u64 s2,.int .u64 s3]) rfl (by kernel_rfl) (by kernel_rfl) (by kernel_rfl) (by kernel_rfl) (fun _ _ _ h => h) HS (Or.inl ⟨by kernel_rfl,fun wx hx => ?_⟩) ?_
     ·clear HS hx;go_simp
     simp only [Act.put,List.setIfInBounds_toArray,List.set_cons_zero,List.set_cons_succ];refine aD (i:=9) (v:=.int .u64 (cc : Nat)) rfl (by kernel_rfl) (by kernel_rfl) (by kernel_rfl) (by kernel_rfl) (fun _ _ _ h => h) HS (Or.inl ⟨by kernel_rfl,fun wx hx => ?_⟩) ?_
     ·clear HS hx;go_simp
     simp only [Act.put,List.setIfInBounds_toArray,List.set_cons_zero,List.set_cons_succ];clear HS;refine aE (i:=10) (by kernel_rfl) rfl (fun K hK => ?_);go_simp;have HM9:=HM;have HM':=Lib.hid (HM.out.new (v3.heap.size) 0 0 0 0 81 (by first | rfl | (simp; done)));have hga : w.heap.size + 1 + 1 < (v3.heap.size):=by first | exact HM.out.lt (b:=w.heap.size + 1 + 1) (c0:=0) (c1:=0) (c2:=0) (c3:=0) (by simp) | simpa using HM.out.lt (b:=w.heap.size + 1 + 1) (c0:=0) (c1:=0) (c2:=0) (c3:=0) (by simp) | (have:=HM.out.lt (b:=w.heap.size + 1 + 1) (c0:=0) (c1:=0) (c2:=0) (c3:=0) (by simp); simp at this ⊢; omega)
     clear HM;have HM:=HM';clear HM';have HS:=(HM.out.sub (rs':=[(w.heap.size + 1 + 1,0,0,0,0),(w.heap.size + 1,b0,b1,b2,b3),(w.heap.size,a0,a1,a2,a3)]) (by simp));refine hK.out _ _ (Or.inr HS) (fun _ => ?_);clear hK K HS;have kr:=HM.out.row (b:=(v3.heap.size)) (c0:=0) (c1:=0) (c2:=0) (c3:=0) (by simp);have yl:=HM.out.lt (b:=(v3.heap.size)) (c0:=0) (c1:=0) (c2:=0) (c3:=0) (by simp);have y0:=kr.c0; have y1:=kr.c1; have y2:=kr.c2; have y3:=kr.c3; have yf:=kr.fr;clear kr;refine aE (i:=11) (by kernel_rfl) rfl (fun K hK => ?_);go_simp;have HM':=Lib.hid (HM9.out.new (v3.heap.size) s0 s1 s2 s3 81 (by first | rfl | (simp; done)));clear HM;have HM:=HM';clear HM';have HS:=(HM.out.sub (rs':=[(w.heap.size + 1 + 1,0,0,0,0),(w.heap.size + 1,b0,b1,b2,b3),(w.heap.size,a0,a1,a2,a3)]) (by simp));refine hK.out _ _ (Or.inr HS) (fun _ => ?_);clear hK K HS;refine aE (i:=12) (by kernel_rfl) rfl (fun K hK => ?_);go_simp;refine hK.out _ _ (Or.inl rfl) (fun _ => ?_);clear hK K;refine bC (by kernel_rfl) ?_;go_wp2_with fail
     go_meet
     exact ⟨(v3.heap.size),s0,s1,s2,s3,rfl,hs,HVs,Lib.hid (HM.out.sub (by simp))⟩
    ·go_simp;have HM9:=HM;have HM':=Lib.hid (HM.out.new (v2.heap.size) 0 0 0 0 81 (by first | rfl | (simp; done)));have hga : w.heap.size + 1 + 1 < (v2.heap.size):=by first | exact HM.out.lt (b:=w.heap.size + 1 + 1) (c0:=0) (c1:=0) (c2:=0) (c3:=0) (by simp) | simpa using HM.out.lt (b:=w.heap.size + 1 + 1) (c0:=0) (c1:=0) (c2:=0) (c3:=0) (by simp) | (have:=HM.out.lt (b:=w.heap.size + 1 + 1) (c0:=0) (c1:=0) (c2:=0) (c3:=0) (by simp); simp at this ⊢; omega)
     clear HM;have HM:=HM';clear HM';have HS:=(HM.out.sub (rs':=[(w.heap.size + 1 + 1,0,0,0,0),(w.heap.size + 1,b0,b1,b2,b3),(w.heap.size,a0,a1,a2,a3)]) (by simp));refine hK.out _ _ (Or.inr HS) (fun _ => ?_);clear hK K HS;refine aE (i:=6) (by kernel_rfl) rfl (fun K hK => ?_);go_simp;refine (gE x0 x1 x2 x3 y0 y1 y2 y3 hx hy _).mono ?_
     rintro e v3 ⟨s0,s1,s2,s3,cc,rfl,hs,hcc,hv,hbl⟩
     have HVs:=Lib.hid (show aA s0 s1 s2 s3 = aA a0 a1 a2 a3 % F.M + aA b0 b1 b2 b3 % F.M by have:=Nat.mod_lt (aA a0 a1 a2 a3) hpos; have:=Nat.mod_lt (aA b0 b1 b2 b3) hpos; rw [HVx.out,HVy.out] at hv; omega);clear hv;have HM':=Lib.hid (HM.out.on hbl);clear HM hbl;have HM:=HM';clear HM';have HS:=(HM.out.sub (rs':=[(w.heap.size + 1 + 1,0,0,0,0),(w.heap.size + 1,b0,b1,b2,b3),(w.heap.size,a0,a1,a2,a3)]) (by simp));refine hK.out _ _ (Or.inr HS) (fun _ => ?_);clear hK K HS;have HS:=HM.out.sub (rs':=[(w.heap.size + 1 + 1,0,0,0,0),(w.heap.size + 1,b0,b1,b2,b3),(w.heap.size,a0,a1,a2,a3)]) (by simp);refine aD (i:=7) (v:=.tuple #[.agg #[.int .u64 s0,.int .u64 s1,.int .u64 s2,.int .u64 s3],.int .u64 (cc : Nat)]) rfl (by kernel_rfl) (by kernel_rfl) (by kernel_rfl) (by kernel_rfl) (fun _ _ _ h => h) HS (Or.inl ⟨by kernel_rfl,fun wx hx => ?_⟩) ?_
     ·clear HS hx;go_simp
     simp only [Act.put,List.setIfInBounds_toArray,List.set_cons_zero,List.set_cons_succ];refine aD (i:=8) (v:=.agg #[.int .u64 s0,.int .u64 s1,.int .u64 s2,.int .u64 s3]) rfl (by kernel_rfl) (by kernel_rfl) (by kernel_rfl) (by kernel_rfl) (fun _ _ _ h => h) HS (Or.inl ⟨by kernel_rfl,fun wx hx => ?_⟩) ?_
     ·clear HS hx;go_simp
     simp only [Act.put,List.setIfInBounds_toArray,List.set_cons_zero,List.set_cons_succ];refine aD (i:=9) (v:=.int .u64 (cc : Nat)) rfl (by kernel_rfl) (by kernel_rfl) (by kernel_rfl) (by kernel_rfl) (fun _ _ _ h => h) HS (Or.inl ⟨by kernel_rfl,fun wx hx => ?_⟩) ?_
     ·clear HS hx;go_simp
     simp only [Act.put,List.setIfInBounds_toArray,List.set_cons_zero,List.set_cons_succ];clear HS;have kr:=HM.out.row (b:=(v2.heap.size)) (c0:=0) (c1:=0) (c2:=0) (c3:=0) (by simp);have yl:=HM.out.lt (b:=(v2.heap.size)) (c0:=0) (c1:=0) (c2:=0) (c3:=0) (by simp);have y0:=kr.c0; have y1:=kr.c1; have y2:=kr.c2; have y3:=kr.c3; have yf:=kr.fr;clear kr;refine aE (i:=11) (by kernel_rfl) rfl (fun K hK => ?_);go_simp;have HM':=Lib.hid (HM.out.put s0 s1 s2 s3 (by omega) (by intro r hr; simp at hr; rcases hr with rfl | rfl | rfl <;> simp <;> omega));clear HM;have HM:=HM';clear HM';have HS:=(HM.out.sub (rs':=[(w.heap.size + 1 + 1,0,0,0,0),(w.heap.size + 1,b0,b1,b2,b3),(w.heap.size,a0,a1,a2,a3)]) (by simp));refine hK.out _ _ (Or.inr HS) (fun _ => ?_);clear hK K HS;refine aE (i:=12) (by kernel_rfl) rfl (fun K hK => ?_);go_simp;refine hK.out _ _ (Or.inl rfl) (fun _ => ?_);clear hK K;refine bC (by kernel_rfl) ?_;go_wp2_with fail
     go_meet
     exact ⟨(v2.heap.size),s0,s1,s2,s3,rfl,hs,HVs,Lib.hid (HM.out.sub (by simp))⟩
   ·go_simp;have HM9:=HM;have HM':=Lib.hid (HM.out.new (v1.heap.size) 0 0 0 0 81 (by first | rfl | (simp; done)));have hga : w.heap.size + 1 + 1 < (v1.heap.size):=by first | exact HM.out.lt (b:=w.heap.size + 1 + 1) (c0:=0) (c1:=0) (c2:=0) (c3:=0) (by simp) | simpa using HM.out.lt (b:=w.heap.size + 1 + 1) (c0:=0) (c1:=0) (c2:=0) (c3:=0) (by simp) | (have:=HM.out.lt (b:=w.heap.size + 1 + 1) (c0:=0) (c1:=0) (c2:=0) (c3:=0) (by simp); simp at this ⊢; omega)
    clear HM;have HM:=HM';clear HM';have HS:=(HM.out.sub (rs':=[(w.heap.size + 1 + 1,0,0,0,0),(w.heap.size + 1,b0,b1,b2,b3),(w.heap.size,a0,a1,a2,a3)]) (by simp));refine hK.out _ _ (Or.inr HS) (fun _ => ?_);clear hK K HS;refine aE (i:=5) (by kernel_rfl) rfl (fun K hK => ?_);go_simp;refine (cR f F hf b0 b1 b2 b3 hb _).mono ?_
    rintro e v2 ⟨y0,y1,y2,y3,rfl,hy,hv,hbl⟩
    have HVy:=Lib.hid hv;clear hv;have HM':=Lib.hid (HM.out.on hbl);clear HM hbl;have HM:=HM';clear HM';have HS:=(HM.out.sub (rs':=[(w.heap.size + 1 + 1,0,0,0,0),(w.heap.size + 1,b0,b1,b2,b3),(w.heap.size,a0,a1,a2,a3)]) (by simp));refine hK.out _ _ (Or.inr HS) (fun _ => ?_);clear hK K HS;refine aE (i:=6) (by kernel_rfl) rfl (fun K hK => ?_);go_simp;refine (gE x0 x1 x2 x3 y0 y1 y2 y3 hx hy _).mono ?_
    rintro e v3 ⟨s0,s1,s2,s3,cc,rfl,hs,hcc,hv,hbl⟩
    have HVs:=Lib.hid (show aA s0 s1 s2 s3 = aA a0 a1 a2 a3 % F.M + aA b0 b1 b2 b3 % F.M by have:=Nat.mod_lt (aA a0 a1 a2 a3) hpos; have:=Nat.mod_lt (aA b0 b1 b2 b3) hpos; rw [HVx.out,HVy.out] at hv; omega);clear hv;have HM':=Lib.hid (HM.out.on hbl);clear HM hbl;have HM:=HM';clear HM';have HS:=(HM.out.sub (rs':=[(w.heap.size + 1 + 1,0,0,0,0),(w.heap.size + 1,b0,b1,b2,b3),(w.heap.size,a0,a1,a2,a3)]) (by simp));refine hK.out _ _ (Or.inr HS) (fun _ => ?_);clear hK K HS;have HS:=HM.out.sub (rs':=[(w.heap.size + 1 + 1,0,0,0,0),(w.heap.size + 1,b0,b1,b2,b3),(w.heap.size,a0,a1,a2,a3)]) (by simp);refine aD (i:=7) (v:=.tuple #[.agg #[.int .u64 s0,.int .u64 s1,.int .u64 s2,.int .u64 s3],.int .u64 (cc : Nat)]) rfl (by kernel_rfl) (by kernel_rfl) (by kernel_rfl) (by kernel_rfl) (fun _ _ _ h => h) HS (Or.inl ⟨by kernel_rfl,fun wx hx => ?_⟩) ?_
    ·clear HS hx;go_simp
    simp only [Act.put,List.setIfInBounds_toArray,List.set_cons_zero,List.set_cons_succ];refine aD (i:=8) (v:=.agg #[.int .u64 s0,.int .u64 s1,.int .u64 s2,.int .u64 s3]) rfl (by kernel_rfl) (by kernel_rfl) (by kernel_rfl) (by kernel_rfl) (fun _ _ _ h => h) HS (Or.inl ⟨by kernel_rfl,fun wx hx => ?_⟩) ?_
    ·clear HS hx;go_simp
    simp only [Act.put,List.setIfInBounds_toArray,List.set_cons_zero,List.set_cons_succ];refine aD (i:=9) (v:=.int .u64 (cc : Nat)) rfl (by kernel_rfl) (by kernel_rfl) (by kernel_rfl) (by kernel_rfl) (fun _ _ _ h => h) HS (Or.inl ⟨by kernel_rfl,fun wx hx => ?_⟩) ?_
    ·clear HS hx;go_simp
    simp only [Act.put,List.setIfInBounds_toArray,List.set_cons_zero,List.set_cons_succ];clear HS;have kr:=HM.out.row (b:=(v1.heap.size)) (c0:=0) (c1:=0) (c2:=0) (c3:=0) (by simp);have yl:=HM.out.lt (b:=(v1.heap.size)) (c0:=0) (c1:=0) (c2:=0) (c3:=0) (by simp);have y0:=kr.c0; have y1:=kr.c1; have y2:=kr.c2; have y3:=kr.c3; have yf:=kr.fr;clear kr;refine aE (i:=11) (by kernel_rfl) rfl (fun K hK => ?_);go_simp;have HM':=Lib.hid (HM.out.put s0 s1 s2 s3 (by omega) (by intro r hr; simp at hr; rcases hr with rfl | rfl | rfl <;> simp <;> omega));clear HM;have HM:=HM';clear HM';have HS:=(HM.out.sub (rs':=[(w.heap.size + 1 + 1,0,0,0,0),(w.heap.size + 1,b0,b1,b2,b3),(w.heap.size,a0,a1,a2,a3)]) (by simp));refine hK.out _ _ (Or.inr HS) (fun _ => ?_);clear hK K HS;refine aE (i:=12) (by kernel_rfl) rfl (fun K hK => ?_);go_simp;refine hK.out _ _ (Or.inl rfl) (fun _ => ?_);clear hK K;refine bC (by kernel_rfl) ?_;go_wp2_with fail
    go_meet
    exact ⟨(v1.heap.size),s0,s1,s2,s3,rfl,hs,HVs,Lib.hid (HM.out.sub (by simp))⟩
  ·go_simp;have HM9:=HM;have HM':=Lib.hid (HM.out.new (w.heap.size + 1 + 1 + 1) 0 0 0 0 81 (by first | rfl | (simp; done)));have hga : w.heap.size + 1 + 1 < (w.heap.size + 1 + 1 + 1):=by first | exact HM.out.lt (b:=w.heap.size + 1 + 1) (c0:=0) (c1:=0) (c2:=0) (c3:=0) (by simp) | simpa using HM.out.lt (b:=w.heap.size + 1 + 1) (c0:=0) (c1:=0) (c2:=0) (c3:=0) (by simp) | (have:=HM.out.lt (b:=w.heap.size + 1 + 1) (c0:=0) (c1:=0) (c2:=0) (c3:=0) (by simp); simp at this ⊢; omega)
   clear HM;have HM:=HM';clear HM';have HS:=(HM.out.sub (rs':=[(w.heap.size + 1 + 1,0,0,0,0),(w.heap.size + 1,b0,b1,b2,b3),(w.heap.size,a0,a1,a2,a3)]) (by simp));refine hK.out _ _ (Or.inr HS) (fun _ => ?_);clear hK K HS;refine aE (i:=2) (by kernel_rfl) rfl (fun K hK => ?_);go_simp;refine (cR f F hf a0 a1 a2 a3 ha _).mono ?_
   rintro e v1 ⟨x0,x1,x2,x3,rfl,hx,hv,hbl⟩
   have HVx:=Lib.hid hv;clear hv;have HM':=Lib.hid (HM.out.on hbl);clear HM hbl;have HM:=HM';clear HM';have HS:=(HM.out.sub (rs':=[(w.heap.size + 1 + 1,0,0,0,0),(w.heap.size + 1,b0,b1,b2,b3),(w.heap.size,a0,a1,a2,a3)]) (by simp));refine hK.out _ _ (Or.inr HS) (fun _ => ?_);clear hK K HS;refine aE (i:=5) (by kernel_rfl) rfl (fun K hK => ?_);go_simp;refine (cR f F hf b0 b1 b2 b3 hb _).mono ?_
   rintro e v2 ⟨y0,y1,y2,y3,rfl,hy,hv,hbl⟩
   have HVy:=Lib.hid hv;clear hv;have HM':=Lib.hid (HM.out.on hbl);clear HM hbl;have HM:=HM';clear HM';have HS:=(HM.out.sub (rs':=[(w.heap.size + 1 + 1,0,0,0,0),(w.heap.size + 1,b0,b1,b2,b3),(w.heap.size,a0,a1,a2,a3)]) (by simp));refine hK.out _ _ (Or.inr HS) (fun _ => ?_);clear hK K HS;refine aE (i:=6) (by kernel_rfl) rfl (fun K hK => ?_);go_simp;refine (gE x0 x1 x2 x3 y0 y1 y2 y3 hx hy _).mono ?_
   rintro e v3 ⟨s0,s1,s2,s3,cc,rfl,hs,hcc,hv,hbl⟩
   have HVs:=Lib.hid (show aA s0 s1 s2 s3 = aA a0 a1 a2 a3 % F.M + aA b0 b1 b2 b3 % F.M by have:=Nat.mod_lt (aA a0 a1 a2 a3) hpos; have:=Nat.mod_lt (aA b0 b1 b2 b3) hpos; rw [HVx.out,HVy.out] at hv; omega);clear hv;have HM':=Lib.hid (HM.out.on hbl);clear HM hbl;have HM:=HM';clear HM';have HS:=(HM.out.sub (rs':=[(w.heap.size + 1 + 1,0,0,0,0),(w.heap.size + 1,b0,b1,b2,b3),(w.heap.size,a0,a1,a2,a3)]) (by simp));refine hK.out _ _ (Or.inr HS) (fun _ => ?_);clear hK K HS;have HS:=HM.out.sub (rs':=[(w.heap.size + 1 + 1,0,0,0,0),(w.heap.size + 1,b0,b1,b2,b3),(w.heap.size,a0,a1,a2,a3)]) (by simp);refine aD (i:=7) (v:=.tuple #[.agg #[.int .u64 s0,.int .u64 s1,.int .u64 s2,.int .u64 s3],.int .u64 (cc : Nat)]) rfl (by kernel_rfl) (by kernel_rfl) (by kernel_rfl) (by kernel_rfl) (fun _ _ _ h => h) HS (Or.inl ⟨by kernel_rfl,fun wx hx => ?_⟩) ?_
   ·clear HS hx;go_simp
   simp only [Act.put,List.setIfInBounds_toArray,List.set_cons_zero,List.set_cons_succ];refine aD (i:=8) (v:=.agg #[.int .u64 s0,.int .u64 s1,.int .u64 s2,.int .u64 s3]) rfl (by kernel_rfl) (by kernel_rfl) (by kernel_rfl) (by kernel_rfl) (fun _ _ _ h => h) HS (Or.inl ⟨by kernel_rfl,fun wx hx => ?_⟩) ?_
   ·clear HS hx;go_simp
   simp only [Act.put,List.setIfInBounds_toArray,List.set_cons_zero,List.set_cons_succ];refine aD (i:=9) (v:=.int .u64 (cc : Nat)) rfl (by kernel_rfl) (by kernel_rfl) (by kernel_rfl) (by kernel_rfl) (fun _ _ _ h => h) HS (Or.inl ⟨by kernel_rfl,fun wx hx => ?_⟩) ?_
   ·clear HS hx;go_simp
   simp only [Act.put,List.setIfInBounds_toArray,List.set_cons_zero,List.set_cons_succ];clear HS;have kr:=HM.out.row (b:=(w.heap.size + 1 + 1 + 1)) (c0:=0) (c1:=0) (c2:=0) (c3:=0) (by simp);have yl:=HM.out.lt (b:=(w.heap.size + 1 + 1 + 1)) (c0:=0) (c1:=0) (c2:=0) (c3:=0) (by simp);have y0:=kr.c0; have y1:=kr.c1; have y2:=kr.c2; have y3:=kr.c3; have yf:=kr.fr;clear kr;refine aE (i:=11) (by kernel_rfl) rfl (fun K hK => ?_);go_simp;have HM':=Lib.hid (HM.out.put s0 s1 s2 s3 (by omega) (by intro r hr; simp at hr; rcases hr with rfl | rfl | rfl <;> simp <;> omega));clear HM;have HM:=HM';clear HM';have HS:=(HM.out.sub (rs':=[(w.heap.size + 1 + 1,0,0,0,0),(w.heap.size + 1,b0,b1,b2,b3),(w.heap.size,a0,a1,a2,a3)]) (by simp));refine hK.out _ _ (Or.inr HS) (fun _ => ?_);clear hK K HS;refine aE (i:=12) (by kernel_rfl) rfl (fun K hK => ?_);go_simp;refine hK.out _ _ (Or.inl rfl) (fun _ => ?_);clear hK K;refine bC (by kernel_rfl) ?_;go_wp2_with fail
   go_meet
   exact ⟨(w.heap.size + 1 + 1 + 1),s0,s1,s2,s3,rfl,hs,HVs,Lib.hid (HM.out.sub (by simp))⟩
 case rest =>
  obtain ⟨gb,s0,s1,s2,s3,rfl,hs,HVs,HM'⟩:=hcut;clear HM;have HM:=HM';clear HM';have kr:=HM.out.row (b:=gb) (c0:=s0) (c1:=s1) (c2:=s2) (c3:=s3) (by simp);have x0:=kr.c0; have x1:=kr.c1; have x2:=kr.c2; have x3:=kr.c3;clear kr;have xl:=HM.out.lt (b:=gb) (c0:=s0) (c1:=s1) (c2:=s2) (c3:=s3) (by simp);go_wp2_with fail;refine (cR f F hf s0 s1 s2 s3 hs _).mono ?_
  rintro e w5 ⟨r0,r1,r2,r3,rfl,hr,hv,hbl⟩
  have HVr:=Lib.hid (show aA r0 r1 r2 r3 = (aA a0 a1 a2 a3 + aA b0 b1 b2 b3) % F.M by rw [hv,HVs.out,← Nat.add_mod]);clear hv;have HM':=Lib.hid (HM.out.on hbl);clear HM hbl;have HM:=HM';clear HM';clear x0 x1 x2 x3 xl;have kr:=HM.out.row (b:=w.heap.size + 1 + 1) (c0:=0) (c1:=0) (c2:=0) (c3:=0) (by simp);have y0:=kr.c0; have y1:=kr.c1; have y2:=kr.c2; have y3:=kr.c3; have yf:=kr.fr;clear kr;have yl:=HM.out.lt (b:=w.heap.size + 1 + 1) (c0:=0) (c1:=0) (c2:=0) (c3:=0) (by simp);go_wp2_with fail;refine bodyPost_ret (v:=.agg #[.int .u64 r0,.int .u64 r1,.int .u64 r2,.int .u64 r3]) (by simp [results,results113,go_sem, *]) rfl ?_;refine ⟨_,_,_,_,rfl,hr,HVr.out,?_⟩;exact aK HM.out.1 (by omega) _ _ _ _
set_option maxHeartbeats 2000000 in
theorem uQ (f : Int) (F : FC) (hf : FieldIs f F) (a0 a1 a2 a3 : Nat) (ha : aY a0 a1 a2 a3) (w : World) :
  Calls prog 112 #[.int .i64 f,.agg #[.int .u64 a0,.int .u64 a1,.int .u64 a2,.int .u64 a3]] w (cW ((F.M - aA a0 a1 a2 a3 % F.M) % F.M) w):=by
 have hpos:=hf.ok.pos;have h2M:=hf.ok.two;have hG:=wD
 go_enter func112,ntmps112
 go_wp2_with fail;have HM:=Lib.hid (((Mem.nil w).new (w.heap.size) a0 a1 a2 a3 24 (by simp)).new (w.heap.size + 1) 0 0 0 0 24 (by simp));refine (cR f F hf a0 a1 a2 a3 ha _).mono ?_
 rintro e w1 ⟨x0,x1,x2,x3,rfl,hx,hv,hbl⟩
 have HVx:=Lib.hid hv;clear hv;have HM':=Lib.hid (HM.out.on hbl);clear HM hbl;have HM:=HM';clear HM';have hz1 : w.heap.size + 1 < w1.heap.size:=HM.out.lt (b:=w.heap.size + 1) (c0:=0) (c1:=0) (c2:=0) (c3:=0) (by simp);have HMo:=HM;have HM':=Lib.hid (HM.out.new w1.heap.size x0 x1 x2 x3 81 rfl);clear HM;have HM:=HM';clear HM'
 by_cases hz : aA a0 a1 a2 a3 % F.M = 0
 ·have hE : ∀ w,(Op.equalIn 10000 81 (.agg #[.int .u64 x0,.int .u64 x1,.int .u64 x2,.int .u64 x3]) (.agg #[.int .u64 0,.int .u64 0,.int .u64 0,.int .u64 0])).run prog w = .ok true w:=fun w => by
   have h:=jW 9998 x0 x1 x2 x3 0 0 0 0 w;rw [(fB hx xF).2 (HVx.out.trans (hz.trans rfl))] at h;exact h
  have HZ:=Lib.hid hz;clear hz;have kr:=HMo.out.row (b:=w.heap.size + 1) (c0:=0) (c1:=0) (c2:=0) (c3:=0) (by simp);have y0:=kr.c0; have y1:=kr.c1; have y2:=kr.c2; have y3:=kr.c3; have yf:=kr.fr;clear kr;go_wp2_with fail;refine bodyPost_ret (v:=.agg #[.int .u64 0,.int .u64 0,.int .u64 0,.int .u64 0]) (by simp [results,results112,go_sem, *]) rfl ?_;refine ⟨_,_,_,_,rfl,xF,by rw [HZ.out,Nat.sub_zero,Nat.mod_self]; rfl,?_⟩
  repeat (first | exact HMo.out.1 | refine Below.alloc ?_ (by first | (simp; done) | (simp; omega)) _ | refine Below.setCell ?_ (by first | (simp; done) | (simp; omega)) _)
 ·have hE : ∀ w,(Op.equalIn 10000 81 (.agg #[.int .u64 x0,.int .u64 x1,.int .u64 x2,.int .u64 x3]) (.agg #[.int .u64 0,.int .u64 0,.int .u64 0,.int .u64 0])).run prog w = .ok false w:=fun w => by
   have h:=jW 9998 x0 x1 x2 x3 0 0 0 0 w;rw [mP (fun q => hz (HVx.out.symm.trans (((fB hx xF).1 q).trans rfl)))] at h;exact h
  have HZ:=Lib.hid hz;clear hz HMo
  go_upto_region 4 with fail
  go_cut [6] (fun s6 wx => ∃ gb s0 s1 s2 s3 : Nat,s6 = .pointer (some ⟨gb,0,none⟩) ∧ aY s0 s1 s2 s3 ∧ Hid (aA s0 s1 s2 s3 = F.M - aA a0 a1 a2 a3 % F.M) ∧ Hid (Mem w wx [(gb,s0,s1,s2,s3),(w.heap.size + 1,0,0,0,0)]))
  case first =>
   refine bX (fun wx => Mem w wx [(w1.heap.size,x0,x1,x2,x3),(w.heap.size + 1,0,0,0,0),(w.heap.size,a0,a1,a2,a3)]) 9 (by kernel_rfl) ?_;have HM':=Lib.hid (HM.out.drewN 1);clear HM;have HM:=HM';clear HM';have HS:=HM.out.sub (rs':=[(w1.heap.size,x0,x1,x2,x3),(w.heap.size + 1,0,0,0,0),(w.heap.size,a0,a1,a2,a3)]) (by simp);refine aD (i:=0) (v:=.int .i64 f) rfl (by kernel_rfl) (by kernel_rfl) (by kernel_rfl) (by kernel_rfl) (fun _ _ _ h => h) HS (Or.inl ⟨by kernel_rfl,fun wx hx => ?_⟩) ?_
   ·clear HS hx;go_simp
   simp only [Act.put,List.setIfInBounds_toArray,List.set_cons_zero,List.set_cons_succ];refine aD (i:=2) (v:=.agg #[.int .u64 x0,.int .u64 x1,.int .u64 x2,.int .u64 x3]) rfl (by kernel_rfl) (by kernel_rfl) (by kernel_rfl) (by kernel_rfl) (fun _ _ _ h => h) HS (Or.inl ⟨by kernel_rfl,fun wx hx => ?_⟩) ?_
   ·have kr:=hx.row (b:=w1.heap.size) (c0:=x0) (c1:=x1) (c2:=x2) (c3:=x3) (by simp);have x0:=kr.c0; have x1:=kr.c1; have x2:=kr.c2; have x3:=kr.c3;clear kr HS hx;go_simp
   simp only [Act.put,List.setIfInBounds_toArray,List.set_cons_zero,List.set_cons_succ];clear HS;refine cZ (i:=1) (j:=7) (by kernel_rfl) rfl rfl (fun K hK => ?_) (fun K hK => ?_)
   ·go_simp;refine (fJ f F hf _).mono ?_
    rintro e v1 ⟨rfl,hbl⟩
    have HM':=Lib.hid (HM.out.on hbl);clear HM hbl;have HM:=HM';clear HM';have HS:=(HM.out.sub (rs':=[(w1.heap.size,x0,x1,x2,x3),(w.heap.size + 1,0,0,0,0),(w.heap.size,a0,a1,a2,a3)]) (by simp));refine hK.out _ _ (Or.inr HS) (fun _ => ?_);clear hK K HS;refine cZ (i:=3) (j:=7) (by kernel_rfl) rfl rfl (fun K hK => ?_) (fun K hK => ?_)
    ·go_simp;refine (eI F.m0 F.m1 F.m2 F.m3 x0 x1 x2 x3 hf.ok.okm hx _).mono ?_
     rintro e v2 ⟨s0,s1,s2,s3,cc,rfl,hs,hcc,hv,hbl⟩
     have HVs:=Lib.hid (show aA s0 s1 s2 s3 = F.M - aA a0 a1 a2 a3 % F.M by have:=Nat.mod_lt (aA a0 a1 a2 a3) hpos; have:=aZ hs; rw [HVx.out,show aA F.m0 F.m1 F.m2 F.m3 = F.M from rfl] at hv; omega);clear hv;have HM':=Lib.hid (HM.out.on hbl);clear HM hbl;have HM:=HM';clear HM';have HS:=(HM.out.sub (rs':=[(w1.heap.size,x0,x1,x2,x3),(w.heap.size + 1,0,0,0,0),(w.heap.size,a0,a1,a2,a3)]) (by simp));refine hK.out _ _ (Or.inr HS) (fun _ => ?_);clear hK K HS;have HS:=HM.out.sub (rs':=[(w1.heap.size,x0,x1,x2,x3),(w.heap.size + 1,0,0,0,0),(w.heap.size,a0,a1,a2,a3)]) (by simp);refine aD (i:=4) (v:=.tuple #[.agg #[.int .u64 s0,.int .u64 s1,.int .u64 s2,.int .u64 s3],.int .u64 (cc : Nat)]) rfl (by kernel_rfl) (by kernel_rfl) (by kernel_rfl) (by kernel_rfl) (fun _ _ _ h => h) HS (Or.inl ⟨by kernel_rfl,fun wx hx => ?_⟩) ?_
     ·clear HS hx;go_simp
     simp only [Act.put,List.setIfInBounds_toArray,List.set_cons_zero,List.set_cons_succ];refine aD (i:=5) (v:=.agg #[.int .u64 s0,.int .u64 s1,.int .u64 s2,.int .u64 s3]) rfl (by kernel_rfl) (by kernel_rfl) (by kernel_rfl) (by kernel_rfl) (fun _ _ _ h => h) HS (Or.inl ⟨by kernel_rfl,fun wx hx => ?_⟩) ?_
     ·clear HS hx;go_simp
     simp only [Act.put,List.setIfInBounds_toArray,List.set_cons_zero,List.set_cons_succ];refine aD (i:=6) (v:=.int .u64 (cc : Nat)) rfl (by kernel_rfl) (by kernel_rfl) (by kernel_rfl) (by kernel_rfl) (fun _ _ _ h => h) HS (Or.inl ⟨by kernel_rfl,fun wx hx => ?_⟩) ?_
     ·clear HS hx;go_simp
     simp only [Act.put,List.setIfInBounds_toArray,List.set_cons_zero,List.set_cons_succ];clear HS;refine aE (i:=7) (by kernel_rfl) rfl (fun K hK => ?_);go_simp;have HM9:=HM;have HM':=Lib.hid (HM.out.new (v2.heap.size) 0 0 0 0 81 (by first | rfl | (simp; done)));have hga : w1.heap.size < (v2.heap.size):=by first | exact HM.out.lt (b:=w1.heap.size) (c0:=x0) (c1:=x1) (c2:=x2) (c3:=x3) (by simp) | simpa using HM.out.lt (b:=w1.heap.size) (c0:=x0) (c1:=x1) (c2:=x2) (c3:=x3) (by simp) | (have:=HM.out.lt (b:=w1.heap.size) (c0:=x0) (c1:=x1) (c2:=x2) (c3:=x3) (by simp); simp at this ⊢; omega)
     clear HM;have HM:=HM';clear HM';have HS:=(HM.out.sub (rs':=[(w1.heap.size,x0,x1,x2,x3),(w.heap.size + 1,0,0,0,0),(w.heap.size,a0,a1,a2,a3)]) (by simp));refine hK.out _ _ (Or.inr HS) (fun _ => ?_);clear hK K HS;have kr:=HM.out.row (b:=(v2.heap.size)) (c0:=0) (c1:=0) (c2:=0) (c3:=0) (by simp);have yl:=HM.out.lt (b:=(v2.heap.size)) (c0:=0) (c1:=0) (c2:=0) (c3:=0) (by simp);have y0:=kr.c0; have y1:=kr.c1; have y2:=kr.c2; have y3:=kr.c3; have yf:=kr.fr;clear kr;refine aE (i:=8) (by kernel_rfl) rfl (fun K hK => ?_);go_simp;have HM':=Lib.hid (HM9.out.new (v2.heap.size) s0 s1 s2 s3 81 (by first | rfl | (simp; done)));clear HM;have HM:=HM';clear HM';have HS:=(HM.out.sub (rs':=[(w1.heap.size,x0,x1,x2,x3),(w.heap.size + 1,0,0,0,0),(w.heap.size,a0,a1,a2,a3)]) (by simp));refine hK.out _ _ (Or.inr HS) (fun _ => ?_);clear hK K HS;refine aE (i:=9) (by kernel_rfl) rfl (fun K hK => ?_);go_simp;refine hK.out _ _ (Or.inl rfl) (fun _ => ?_);clear hK K;refine bC (by kernel_rfl) ?_;go_wp2_with fail
     go_meet
     exact ⟨(v2.heap.size),s0,s1,s2,s3,rfl,hs,HVs,Lib.hid (HM.out.sub (by simp))⟩
    ·go_simp;have HM9:=HM;have HM':=Lib.hid (HM.out.new (v1.heap.size) 0 0 0 0 81 (by first | rfl | (simp; done)));have hga : w1.heap.size < (v1.heap.size):=by first | exact HM.out.lt (b:=w1.heap.size) (c0:=x0) (c1:=x1) (c2:=x2) (c3:=x3) (by simp) | simpa using HM.out.lt (b:=w1.heap.size) (c0:=x0) (c1:=x1) (c2:=x2) (c3:=x3) (by simp) | (have:=HM.out.lt (b:=w1.heap.size) (c0:=x0) (c1:=x1) (c2:=x2) (c3:=x3) (by simp); simp at this ⊢; omega)
     clear HM;have HM:=HM';clear HM';have HS:=(HM.out.sub (rs':=[(w1.heap.size,x0,x1,x2,x3),(w.heap.size + 1,0,0,0,0),(w.heap.size,a0,a1,a2,a3)]) (by simp));refine hK.out _ _ (Or.inr HS) (fun _ => ?_);clear hK K HS;refine aE (i:=3) (by kernel_rfl) rfl (fun K hK => ?_);go_simp;refine (eI F.m0 F.m1 F.m2 F.m3 x0 x1 x2 x3 hf.ok.okm hx _).mono ?_
     rintro e v2 ⟨s0,s1,s2,s3,cc,rfl,hs,hcc,hv,hbl⟩
     have HVs:=Lib.hid (show aA s0 s1 s2 s3 = F.M - aA a0 a1 a2 a3 % F.M by have:=Nat.mod_lt (aA a0 a1 a2 a3) hpos; have:=aZ hs; rw [HVx.out,show aA F.m0 F.m1 F.m2 F.m3 = F.M from rfl] at hv; omega);clear hv;have HM':=Lib.hid (HM.out.on hbl);clear HM hbl;have HM:=HM';clear HM';have HS:=(HM.out.sub (rs':=[(w1.heap.size,x0,x1,x2,x3),(w.heap.size + 1,0,0,0,0),(w.heap.size,a0,a1,a2,a3)]) (by simp));refine hK.out _ _ (Or.inr HS) (fun _ => ?_);clear hK K HS;have HS:=HM.out.sub (rs':=[(w1.heap.size,x0,x1,x2,x3),(w.heap.size + 1,0,0,0,0),(w.heap.size,a0,a1,a2,a3)]) (by simp);refine aD (i:=4) (v:=.tuple #[.agg #[.int .u64 s0,.int .u64 s1,.int .u64 s2,.int .u64 s3],.int .u64 (cc : Nat)]) rfl (by kernel_rfl) (by kernel_rfl) (by kernel_rfl) (by kernel_rfl) (fun _ _ _ h => h) HS (Or.inl ⟨by kernel_rfl,fun wx hx => ?_⟩) ?_
     ·clear HS hx;go_simp
     simp only [Act.put,List.setIfInBounds_toArray,List.set_cons_zero,List.set_cons_succ];refine aD (i:=5) (v:=.agg #[.int .u64 s0,.int .u64 s1,.int .u64 s2,.int .u64 s3]) rfl (by kernel_rfl) (by kernel_rfl) (by kernel_rfl) (by kernel_rfl) (fun _ _ _ h => h) HS (Or.inl ⟨by kernel_rfl,fun wx hx => ?_⟩) ?_
     ·clear HS hx;go_simp
     simp only [Act.put,List.setIfInBounds_toArray,List.set_cons_zero,List.set_cons_succ];refine aD (i:=6) (v:=.int .u64 (cc : Nat)) rfl (by kernel_rfl) (by kernel_rfl) (by kernel_rfl) (by kernel_rfl) (fun _ _ _ h => h) HS (Or.inl ⟨by kernel_rfl,fun wx hx => ?_⟩) ?_
     ·clear HS hx;go_simp
     simp only [Act.put,List.setIfInBounds_toArray,List.set_cons_zero,List.set_cons_succ];clear HS;have kr:=HM.out.row (b:=(v1.heap.size)) (c0:=0) (c1:=0) (c2:=0) (c3:=0) (by simp);have yl:=HM.out.lt (b:=(v1.heap.size)) (c0:=0) (c1:=0) (c2:=0) (c3:=0) (by simp);have y0:=kr.c0; have y1:=kr.c1; have y2:=kr.c2; have y3:=kr.c3; have yf:=kr.fr;clear kr;refine aE (i:=8) (by kernel_rfl) rfl (fun K hK => ?_);go_simp;have HM':=Lib.hid (HM.out.put s0 s1 s2 s3 (by omega) (by intro r hr; simp at hr; rcases hr with rfl | rfl | rfl <;> simp <;> omega));clear HM;have HM:=HM';clear HM';have HS:=(HM.out.sub (rs':=[(w1.heap.size,x0,x1,x2,x3),(w.heap.size + 1,0,0,0,0),(w.heap.size,a0,a1,a2,a3)]) (by simp));refine hK.out _ _ (Or.inr HS) (fun _ => ?_);clear hK K HS;refine aE (i:=9) (by kernel_rfl) rfl (fun K hK => ?_);go_simp;refine hK.out _ _ (Or.inl rfl) (fun _ => ?_);clear hK K;refine bC (by kernel_rfl) ?_;go_wp2_with fail
     go_meet
     exact ⟨(v1.heap.size),s0,s1,s2,s3,rfl,hs,HVs,Lib.hid (HM.out.sub (by simp))⟩
   ·go_simp;have HM9:=HM;have HM':=Lib.hid (HM.out.new (w1.heap.size + 1) 0 0 0 0 81 (by first | rfl | (simp; done)));have hga : w1.heap.size < (w1.heap.size + 1):=by first | exact HM.out.lt (b:=w1.heap.size) (c0:=x0) (c1:=x1) (c2:=x2) (c3:=x3) (by simp) | simpa using HM.out.lt (b:=w1.heap.size) (c0:=x0) (c1:=x1) (c2:=x2) (c3:=x3) (by simp) | (have:=HM.out.lt (b:=w1.heap.size) (c0:=x0) (c1:=x1) (c2:=x2) (c3:=x3) (by simp); simp at this ⊢; omega)
    clear HM;have HM:=HM';clear HM';have HS:=(HM.out.sub (rs':=[(w1.heap.size,x0,x1,x2,x3),(w.heap.size + 1,0,0,0,0),(w.heap.size,a0,a1,a2,a3)]) (by simp));refine hK.out _ _ (Or.inr HS) (fun _ => ?_);clear hK K HS;refine aE (i:=1) (by kernel_rfl) rfl (fun K hK => ?_);go_simp;refine (fJ f F hf _).mono ?_
    rintro e v1 ⟨rfl,hbl⟩
    have HM':=Lib.hid (HM.out.on hbl);clear HM hbl;have HM:=HM';clear HM';have HS:=(HM.out.sub (rs':=[(w1.heap.size,x0,x1,x2,x3),(w.heap.size + 1,0,0,0,0),(w.heap.size,a0,a1,a2,a3)]) (by simp));refine hK.out _ _ (Or.inr HS) (fun _ => ?_);clear hK K HS;refine aE (i:=3) (by kernel_rfl) rfl (fun K hK => ?_);go_simp;refine (eI F.m0 F.m1 F.m2 F.m3 x0 x1 x2 x3 hf.ok.okm hx _).mono ?_
    rintro e v2 ⟨s0,s1,s2,s3,cc,rfl,hs,hcc,hv,hbl⟩
    have HVs:=Lib.hid (show aA s0 s1 s2 s3 = F.M - aA a0 a1 a2 a3 % F.M by have:=Nat.mod_lt (aA a0 a1 a2 a3) hpos; have:=aZ hs; rw [HVx.out,show aA F.m0 F.m1 F.m2 F.m3 = F.M from rfl] at hv; omega);clear hv;have HM':=Lib.hid (HM.out.on hbl);clear HM hbl;have HM:=HM';clear HM';have HS:=(HM.out.sub (rs':=[(w1.heap.size,x0,x1,x2,x3),(w.heap.size + 1,0,0,0,0),(w.heap.size,a0,a1,a2,a3)]) (by simp));refine hK.out _ _ (Or.inr HS) (fun _ => ?_);clear hK K HS;have HS:=HM.out.sub (rs':=[(w1.heap.size,x0,x1,x2,x3),(w.heap.size + 1,0,0,0,0),(w.heap.size,a0,a1,a2,a3)]) (by simp);refine aD (i:=4) (v:=.tuple #[.agg #[.int .u64 s0,.int .u64 s1,.int .u64 s2,.int .u64 s3],.int .u64 (cc : Nat)]) rfl (by kernel_rfl) (by kernel_rfl) (by kernel_rfl) (by kernel_rfl) (fun _ _ _ h => h) HS (Or.inl ⟨by kernel_rfl,fun wx hx => ?_⟩) ?_
    ·clear HS hx;go_simp
    simp only [Act.put,List.setIfInBounds_toArray,List.set_cons_zero,List.set_cons_succ];refine aD (i:=5) (v:=.agg #[.int .u64 s0,.int .u64 s1,.int .u64 s2,.int .u64 s3]) rfl (by kernel_rfl) (by kernel_rfl) (by kernel_rfl) (by kernel_rfl) (fun _ _ _ h => h) HS (Or.inl ⟨by kernel_rfl,fun wx hx => ?_⟩) ?_
    ·clear HS hx;go_simp
    simp only [Act.put,List.setIfInBounds_toArray,List.set_cons_zero,List.set_cons_succ];refine aD (i:=6) (v:=.int .u64 (cc : Nat)) rfl (by kernel_rfl) (by kernel_rfl) (by kernel_rfl) (by kernel_rfl) (fun _ _ _ h => h) HS (Or.inl ⟨by kernel_rfl,fun wx hx => ?_⟩) ?_
    ·clear HS hx;go_simp
    simp only [Act.put,List.setIfInBounds_toArray,List.set_cons_zero,List.set_cons_succ];clear HS;have kr:=HM.out.row (b:=(w1.heap.size + 1)) (c0:=0) (c1:=0) (c2:=0) (c3:=0) (by simp);have yl:=HM.out.lt (b:=(w1.heap.size + 1)) (c0:=0) (c1:=0) (c2:=0) (c3:=0) (by simp);have y0:=kr.c0; have y1:=kr.c1; have y2:=kr.c2; have y3:=kr.c3; have yf:=kr.fr;clear kr;refine aE (i:=8) (by kernel_rfl) rfl (fun K hK => ?_);go_simp;have HM':=Lib.hid (HM.out.put s0 s1 s2 s3 (by omega) (by intro r hr; simp at hr; rcases hr with rfl | rfl | rfl <;> simp <;> omega));clear HM;have HM:=HM';clear HM';have HS:=(HM.out.sub (rs':=[(w1.heap.size,x0,x1,x2,x3),(w.heap.size + 1,0,0,0,0),(w.heap.size,a0,a1,a2,a3)]) (by simp));refine hK.out _ _ (Or.inr HS) (fun _ => ?_);clear hK K HS;refine aE (i:=9) (by kernel_rfl) rfl (fun K hK => ?_);go_simp;refine hK.out _ _ (Or.inl rfl) (fun _ => ?_);clear hK K;refine bC (by kernel_rfl) ?_;go_wp2_with fail
    go_meet
    exact ⟨(w1.heap.size + 1),s0,s1,s2,s3,rfl,hs,HVs,Lib.hid (HM.out.sub (by simp))⟩
  case rest =>
   obtain ⟨gb,s0,s1,s2,s3,rfl,hs,HVs,HM'⟩:=hcut;clear HM;have HM:=HM';clear HM';have kr:=HM.out.row (b:=gb) (c0:=s0) (c1:=s1) (c2:=s2) (c3:=s3) (by simp);have x0:=kr.c0; have x1:=kr.c1; have x2:=kr.c2; have x3:=kr.c3;clear kr;have xl:=HM.out.lt (b:=gb) (c0:=s0) (c1:=s1) (c2:=s2) (c3:=s3) (by simp);have kr:=HM.out.row (b:=w.heap.size + 1) (c0:=0) (c1:=0) (c2:=0) (c3:=0) (by simp);have y0:=kr.c0; have y1:=kr.c1; have y2:=kr.c2; have y3:=kr.c3; have yf:=kr.fr;clear kr;have yl:=HM.out.lt (b:=w.heap.size + 1) (c0:=0) (c1:=0) (c2:=0) (c3:=0) (by simp);go_wp2_with fail;refine bodyPost_ret (v:=.agg #[.int .u64 s0,.int .u64 s1,.int .u64 s2,.int .u64 s3]) (by simp [results,results112,go_sem, *]) rfl ?_;refine ⟨_,_,_,_,rfl,hs,by rw [HVs.out,Nat.mod_eq_of_lt (Nat.sub_lt hpos (Nat.pos_of_ne_zero HZ.out))],?_⟩;exact aK HM.out.1 (by omega) _ _ _ _
set_option maxHeartbeats 2000000 in
theorem OP (f : Int) (F : FC) (hf : FieldIs f F) (a0 a1 a2 a3 b0 b1 b2 b3 : Nat) (ha : aY a0 a1 a2 a3) (hb : aY b0 b1 b2 b3) (w : World) :
  Calls prog 117 #[.int .i64 f,.agg #[.int .u64 a0,.int .u64 a1,.int .u64 a2,.int .u64 a3],.agg #[.int .u64 b0,.int .u64 b1,.int .u64 b2,.int .u64 b3]] w (cW ((aA a0 a1 a2 a3 + (F.M - aA b0 b1 b2 b3 % F.M)) % F.M) w):=by
 go_enter func117,ntmps117
 go_wp2_with fail;have HM:=Lib.hid ((((Mem.nil w).new (w.heap.size) a0 a1 a2 a3 24 (by simp)).new (w.heap.size + 1) b0 b1 b2 b3 24 (by simp)).new (w.heap.size + 1 + 1) 0 0 0 0 24 (by simp));refine bX (fun wx => Mem w wx [(w.heap.size + 1,b0,b1,b2,b3),(w.heap.size,a0,a1,a2,a3)]) 6 (by kernel_rfl) ?_;have HM':=Lib.hid (HM.out.drewN 1);clear HM;have HM:=HM';clear HM';have HS:=HM.out.sub (rs':=[(w.heap.size + 1,b0,b1,b2,b3),(w.heap.size,a0,a1,a2,a3)]) (by simp);refine aD (i:=0) (v:=.int .i64 f) rfl (by kernel_rfl) (by kernel_rfl) (by kernel_rfl) (by kernel_rfl) (fun _ _ _ h => h) HS (Or.inl ⟨by kernel_rfl,fun wx hx => ?_⟩) ?_
 ·clear HS hx;go_simp
 simp only [Act.put,List.setIfInBounds_toArray,List.set_cons_zero,List.set_cons_succ];refine aD (i:=1) (v:=.agg #[.int .u64 a0,.int .u64 a1,.int .u64 a2,.int .u64 a3]) rfl (by kernel_rfl) (by kernel_rfl) (by kernel_rfl) (by kernel_rfl) (fun _ _ _ h => h) HS (Or.inl ⟨by kernel_rfl,fun wx hx => ?_⟩) ?_
 ·have kr:=hx.row (b:=w.heap.size) (c0:=a0) (c1:=a1) (c2:=a2) (c3:=a3) (by simp);have x0:=kr.c0; have x1:=kr.c1; have x2:=kr.c2; have x3:=kr.c3;clear kr HS hx;go_simp
 simp only [Act.put,List.setIfInBounds_toArray,List.set_cons_zero,List.set_cons_succ];refine aD (i:=2) (v:=.int .i64 f) rfl (by kernel_rfl) (by kernel_rfl) (by kernel_rfl) (by kernel_rfl) (fun _ _ _ h => h) HS (Or.inl ⟨by kernel_rfl,fun wx hx => ?_⟩) ?_
 ·clear HS hx;go_simp
 simp only [Act.put,List.setIfInBounds_toArray,List.set_cons_zero,List.set_cons_succ];refine aD (i:=3) (v:=.agg #[.int .u64 b0,.int .u64 b1,.int .u64 b2,.int .u64 b3]) rfl (by kernel_rfl) (by kernel_rfl) (by kernel_rfl) (by kernel_rfl) (fun _ _ _ h => h) HS (Or.inl ⟨by kernel_rfl,fun wx hx => ?_⟩) ?_
 ·have kr:=hx.row (b:=w.heap.size + 1) (c0:=b0) (c1:=b1) (c2:=b2) (c3:=b3) (by simp);have x0:=kr.c0; have x1:=kr.c1; have x2:=kr.c2; have x3:=kr.c3;clear kr HS hx;go_simp
 simp only [Act.put,List.setIfInBounds_toArray,List.set_cons_zero,List.set_cons_succ];clear HS;refine aE (i:=4) (by kernel_rfl) rfl (fun K hK => ?_);go_simp;refine (uQ f F hf b0 b1 b2 b3 hb _).mono ?_
 rintro e w1 ⟨n0,n1,n2,n3,rfl,hn,hv,hbl⟩
 have HVn:=Lib.hid hv;clear hv;have HM':=Lib.hid (HM.out.on hbl);clear HM hbl;have HM:=HM';clear HM';have HS:=HM.out.sub (rs':=[(w.heap.size + 1,b0,b1,b2,b3),(w.heap.size,a0,a1,a2,a3)]) (by simp);refine hK.out _ _ (Or.inr HS) (fun _ => ?_);clear hK K;clear HS;refine aE (i:=5) (by kernel_rfl) rfl (fun K hK => ?_);go_simp;refine (uU f F hf a0 a1 a2 a3 n0 n1 n2 n3 ha hn _).mono ?_
 rintro e w2 ⟨s0,s1,s2,s3,rfl,hs,hv,hbl⟩
 have HVs:=Lib.hid (show aA s0 s1 s2 s3 = (aA a0 a1 a2 a3 + (F.M - aA b0 b1 b2 b3 % F.M)) % F.M by rw [hv,HVn.out,Nat.add_mod_mod]);clear hv;have HM':=Lib.hid (HM.out.on hbl);clear HM hbl;have HM:=HM';clear HM';have HS:=HM.out.sub (rs':=[(w.heap.size + 1,b0,b1,b2,b3),(w.heap.size,a0,a1,a2,a3)]) (by simp);refine hK.out _ _ (Or.inr HS) (fun _ => ?_);clear hK K;clear HS;have kr:=HM.out.row (b:=w.heap.size + 1 + 1) (c0:=0) (c1:=0) (c2:=0) (c3:=0) (by simp);have y0:=kr.c0; have y1:=kr.c1; have y2:=kr.c2; have y3:=kr.c3; have yf:=kr.fr;clear kr;have yl:=HM.out.lt (b:=w.heap.size + 1 + 1) (c0:=0) (c1:=0) (c2:=0) (c3:=0) (by simp);refine aE (i:=6) (by kernel_rfl) rfl (fun K hK => ?_);go_simp;have HM':=Lib.hid ((HM.out.sub (rs':=[(w.heap.size + 1 + 1,0,0,0,0),(w.heap.size + 1,b0,b1,b2,b3),(w.heap.size,a0,a1,a2,a3)]) (by simp)).put s0 s1 s2 s3 (by omega) (by intro r hr; simp at hr; rcases hr with rfl | rfl <;> simp <;> omega));clear HM;have HM:=HM';clear HM';refine hK.out _ _ (Or.inl rfl) (fun _ => ?_);clear hK K;refine bC (by kernel_rfl) ?_;go_wp2_with fail;refine bodyPost_ret (v:=.agg #[.int .u64 s0,.int .u64 s1,.int .u64 s2,.int .u64 s3]) (by simp [results,results117,go_sem, *]) rfl ?_;exact ⟨_,_,_,_,rfl,hs,HVs.out,HM.out.1⟩
theorem Ev {F : FC} (hF : F.Ok) (A B : Nat) : A % F.M * (B % F.M) * F.Ri % F.M * aA F.s0 F.s1 F.s2 F.s3 * F.Ri % F.M = A * B % F.M:=by
 rw [UN hF];unfold kp;have h : A % F.M * (B % F.M) * F.Ri % F.M * F.R % F.M = A * B * F.R * F.Ri % F.M:=by
  have e : A % F.M * (B % F.M) * F.Ri % F.M * F.R % F.M = A * B * F.Ri * F.R % F.M:=iR ((lZ _ _).trans (iR (iR (lZ _ _) (lZ _ _)) rfl)) rfl;rw [e,Nat.mul_right_comm]
 rw [h,iE hF]
set_option maxHeartbeats 2000000 in
theorem nK (f : Int) (F : FC) (hf : FieldIs f F) (a0 a1 a2 a3 b0 b1 b2 b3 : Nat) (ha : aY a0 a1 a2 a3) (hb : aY b0 b1 b2 b3) (w : World) :
  Calls prog 114 #[.int .i64 f,.agg #[.int .u64 a0,.int .u64 a1,.int .u64 a2,.int .u64 a3],.agg #[.int .u64 b0,.int .u64 b1,.int .u64 b2,.int .u64 b3]] w (cW (aA a0 a1 a2 a3 * aA b0 b1 b2 b3 % F.M) w):=by
 have hpos:=hf.ok.pos
 go_enter func114,ntmps114
 go_wp2_with fail;have HM:=Lib.hid ((((Mem.nil w).new (w.heap.size) a0 a1 a2 a3 24 (by simp)).new (w.heap.size + 1) b0 b1 b2 b3 24 (by simp)).new (w.heap.size + 1 + 1) 0 0 0 0 24 (by simp));refine bX (fun wx => Mem w wx [(w.heap.size + 1,b0,b1,b2,b3),(w.heap.size,a0,a1,a2,a3)]) 12 (by kernel_rfl) ?_;have HM':=Lib.hid (HM.out.drewN 1);clear HM;have HM:=HM';clear HM';have HS:=HM.out.sub (rs':=[(w.heap.size + 1,b0,b1,b2,b3),(w.heap.size,a0,a1,a2,a3)]) (by simp);refine aD (i:=0) (v:=.int .i64 f) rfl (by kernel_rfl) (by kernel_rfl) (by kernel_rfl) (by kernel_rfl) (fun _ _ _ h => h) HS (Or.inl ⟨by kernel_rfl,fun wx hx => ?_⟩) ?_
 ·clear HS hx;go_simp
 simp only [Act.put,List.setIfInBounds_toArray,List.set_cons_zero,List.set_cons_succ];refine aD (i:=1) (v:=.int .i64 f) rfl (by kernel_rfl) (by kernel_rfl) (by kernel_rfl) (by kernel_rfl) (fun _ _ _ h => h) HS (Or.inl ⟨by kernel_rfl,fun wx hx => ?_⟩) ?_
 ·clear HS hx;go_simp
 simp only [Act.put,List.setIfInBounds_toArray,List.set_cons_zero,List.set_cons_succ];refine aD (i:=2) (v:=.int .i64 f) rfl (by kernel_rfl) (by kernel_rfl) (by kernel_rfl) (by kernel_rfl) (fun _ _ _ h => h) HS (Or.inl ⟨by kernel_rfl,fun wx hx => ?_⟩) ?_
 ·clear HS hx;go_simp
 simp only [Act.put,List.setIfInBounds_toArray,List.set_cons_zero,List.set_cons_succ];refine aD (i:=3) (v:=.agg #[.int .u64 a0,.int .u64 a1,.int .u64 a2,.int .u64 a3]) rfl (by kernel_rfl) (by kernel_rfl) (by kernel_rfl) (by kernel_rfl) (fun _ _ _ h => h) HS (Or.inl ⟨by kernel_rfl,fun wx hx => ?_⟩) ?_
 ·have kr:=hx.row (b:=w.heap.size) (c0:=a0) (c1:=a1) (c2:=a2) (c3:=a3) (by simp);have x0:=kr.c0; have x1:=kr.c1; have x2:=kr.c2; have x3:=kr.c3;clear kr HS hx;go_simp
 simp only [Act.put,List.setIfInBounds_toArray,List.set_cons_zero,List.set_cons_succ];refine aD (i:=5) (v:=.int .i64 f) rfl (by kernel_rfl) (by kernel_rfl) (by kernel_rfl) (by kernel_rfl) (fun _ _ _ h => h) HS (Or.inl ⟨by kernel_rfl,fun wx hx => ?_⟩) ?_
 ·clear HS hx;go_simp
 simp only [Act.put,List.setIfInBounds_toArray,List.set_cons_zero,List.set_cons_succ];refine aD (i:=6) (v:=.agg #[.int .u64 b0,.int .u64 b1,.int .u64 b2,.int .u64 b3]) rfl (by kernel_rfl) (by kernel_rfl) (by kernel_rfl) (by kernel_rfl) (fun _ _ _ h => h) HS (Or.inl ⟨by kernel_rfl,fun wx hx => ?_⟩) ?_
 ·have kr:=hx.row (b:=w.heap.size + 1) (c0:=b0) (c1:=b1) (c2:=b2) (c3:=b3) (by simp);have x0:=kr.c0; have x1:=kr.c1; have x2:=kr.c2; have x3:=kr.c3;clear kr HS hx;go_simp
 simp only [Act.put,List.setIfInBounds_toArray,List.set_cons_zero,List.set_cons_succ];refine aD (i:=9) (v:=.int .i64 f) rfl (by kernel_rfl) (by kernel_rfl) (by kernel_rfl) (by kernel_rfl) (fun _ _ _ h => h) HS (Or.inl ⟨by kernel_rfl,fun wx hx => ?_⟩) ?_
 ·clear HS hx;go_simp
 simp only [Act.put,List.setIfInBounds_toArray,List.set_cons_zero,List.set_cons_succ];clear HS;refine aE (i:=4) (by kernel_rfl) rfl (fun K hK => ?_);go_simp;refine (cR f F hf a0 a1 a2 a3 ha _).mono ?_
 rintro e w1 ⟨x0,x1,x2,x3,rfl,hx,hv,hbl⟩
 have HVx:=Lib.hid hv;clear hv;have HM':=Lib.hid (HM.out.on hbl);clear HM hbl;have HM:=HM';clear HM';have HS:=HM.out.sub (rs':=[(w.heap.size + 1,b0,b1,b2,b3),(w.heap.size,a0,a1,a2,a3)]) (by simp);refine hK.out _ _ (Or.inr HS) (fun _ => ?_);clear hK K;clear HS;refine aE (i:=7) (by kernel_rfl) rfl (fun K hK => ?_);go_simp;refine (cR f F hf b0 b1 b2 b3 hb _).mono ?_
 rintro e w2 ⟨y0,y1,y2,y3,rfl,hy,hv,hbl⟩
 have HVy:=Lib.hid hv;clear hv;have HM':=Lib.hid (HM.out.on hbl);clear HM hbl;have HM:=HM';clear HM';have HS:=HM.out.sub (rs':=[(w.heap.size + 1,b0,b1,b2,b3),(w.heap.size,a0,a1,a2,a3)]) (by simp);refine hK.out _ _ (Or.inr HS) (fun _ => ?_);clear hK K;clear HS;refine aE (i:=8) (by kernel_rfl) rfl (fun K hK => ?_);go_simp;refine (vM f F hf x0 x1 x2 x3 y0 y1 y2 y3 hx hy (by rw [HVx.out]; exact Nat.mod_lt _ hpos) _).mono ?_
 rintro e w3 ⟨z0,z1,z2,z3,rfl,hz,hv,hbl⟩
 have HVz:=Lib.hid hv;clear hv;have HM':=Lib.hid (HM.out.on hbl);clear HM hbl;have HM:=HM';clear HM';have HS:=HM.out.sub (rs':=[(w.heap.size + 1,b0,b1,b2,b3),(w.heap.size,a0,a1,a2,a3)]) (by simp);refine hK.out _ _ (Or.inr HS) (fun _ => ?_);clear hK K;clear HS;refine aE (i:=10) (by kernel_rfl) rfl (fun K hK => ?_);go_simp;refine (AZ f F hf _).mono ?_
 rintro e w4 ⟨rfl,hbl⟩
 have HM':=Lib.hid (HM.out.on hbl);clear HM hbl;have HM:=HM';clear HM';have HS:=HM.out.sub (rs':=[(w.heap.size + 1,b0,b1,b2,b3),(w.heap.size,a0,a1,a2,a3)]) (by simp);refine hK.out _ _ (Or.inr HS) (fun _ => ?_);clear hK K;clear HS;refine aE (i:=11) (by kernel_rfl) rfl (fun K hK => ?_);go_simp;refine (vM f F hf z0 z1 z2 z3 F.s0 F.s1 F.s2 F.s3 hz hf.ok.oks (by rw [HVz.out]; exact Nat.mod_lt _ hpos) _).mono ?_
 rintro e w5 ⟨s0,s1,s2,s3,rfl,hs,hv,hbl⟩
 have HVs:=Lib.hid (show aA s0 s1 s2 s3 = aA a0 a1 a2 a3 * aA b0 b1 b2 b3 % F.M by rw [hv,HVz.out,HVx.out,HVy.out]; exact Ev hf.ok _ _);clear hv;have HM':=Lib.hid (HM.out.on hbl);clear HM hbl;have HM:=HM';clear HM';have HS:=HM.out.sub (rs':=[(w.heap.size + 1,b0,b1,b2,b3),(w.heap.size,a0,a1,a2,a3)]) (by simp);refine hK.out _ _ (Or.inr HS) (fun _ => ?_);clear hK K;clear HS;have kr:=HM.out.row (b:=w.heap.size + 1 + 1) (c0:=0) (c1:=0) (c2:=0) (c3:=0) (by simp);have y0:=kr.c0; have y1:=kr.c1; have y2:=kr.c2; have y3:=kr.c3; have yf:=kr.fr;clear kr;have yl:=HM.out.lt (b:=w.heap.size + 1 + 1) (c0:=0) (c1:=0) (c2:=0) (c3:=0) (by simp);refine aE (i:=12) (by kernel_rfl) rfl (fun K hK => ?_);go_simp;have HM':=Lib.hid ((HM.out.sub (rs':=[(w.heap.size + 1 + 1,0,0,0,0),(w.heap.size + 1,b0,b1,b2,b3),(w.heap.size,a0,a1,a2,a3)]) (by simp)).put s0 s1 s2 s3 (by omega) (by intro r hr; simp at hr; rcases hr with rfl | rfl <;> simp <;> omega));clear HM;have HM:=HM';clear HM';refine hK.out _ _ (Or.inl rfl) (fun _ => ?_);clear hK K;refine bC (by kernel_rfl) ?_;go_wp2_with fail;refine bodyPost_ret (v:=.agg #[.int .u64 s0,.int .u64 s1,.int .u64 s2,.int .u64 s3]) (by simp [results,results114,go_sem, *]) rfl ?_;exact ⟨_,_,_,_,rfl,hs,HVs.out,HM.out.1⟩
theorem Ly (A M : Nat) : decide (bE A M < 0) = oY A M:=by
 unfold oY bE
 by_cases q : A = M
 ·rw [if_pos q,decide_eq_false (by omega),decide_eq_false (by omega)]
 ·rw [if_neg q]
  by_cases h : A < M
  ·rw [if_pos h,decide_eq_true (by omega),decide_eq_true (by omega)]
  ·rw [if_neg h,decide_eq_false (by omega),decide_eq_false (by omega)]
set_option maxHeartbeats 2000000 in
theorem BH (f : Int) (F : FC) (hf : FieldIs f F) (a0 a1 a2 a3 : Nat) (ha : aY a0 a1 a2 a3) (w : World) :
  Calls prog 70 #[.int .i64 f,.agg #[.int .u64 a0,.int .u64 a1,.int .u64 a2,.int .u64 a3]] w (fun e w' => e = .returned (.bool (oY (aA a0 a1 a2 a3) F.M)) ∧ Below w.heap.size w w'):=by
 go_enter func70,ntmps70
 go_wp2_with fail;have HM:=Lib.hid ((Mem.nil w).new (w.heap.size) a0 a1 a2 a3 24 (by simp));refine bX (fun wx => Mem w wx [(w.heap.size,a0,a1,a2,a3)]) 5 (by kernel_rfl) ?_;have HM':=Lib.hid (HM.out.drewN 1);clear HM;have HM:=HM';clear HM';have HS:=HM.out.sub (rs':=[(w.heap.size,a0,a1,a2,a3)]) (by simp);refine aD (i:=0) (v:=.agg #[.int .u64 a0,.int .u64 a1,.int .u64 a2,.int .u64 a3]) rfl (by kernel_rfl) (by kernel_rfl) (by kernel_rfl) (by kernel_rfl) (fun _ _ _ h => h) HS (Or.inl ⟨by kernel_rfl,fun wx hx => ?_⟩) ?_
 ·have kr:=hx.row (b:=w.heap.size) (c0:=a0) (c1:=a1) (c2:=a2) (c3:=a3) (by simp);have x0:=kr.c0; have x1:=kr.c1; have x2:=kr.c2; have x3:=kr.c3;clear kr HS hx;go_simp
 simp only [Act.put,List.setIfInBounds_toArray,List.set_cons_zero,List.set_cons_succ];refine aD (i:=1) (v:=.int .i64 f) rfl (by kernel_rfl) (by kernel_rfl) (by kernel_rfl) (by kernel_rfl) (fun _ _ _ h => h) HS (Or.inl ⟨by kernel_rfl,fun wx hx => ?_⟩) ?_
 ·clear HS hx;go_simp
 simp only [Act.put,List.setIfInBounds_toArray,List.set_cons_zero,List.set_cons_succ];clear HS;refine aE (i:=2) (by kernel_rfl) rfl (fun K hK => ?_);go_simp;refine (fJ f F hf _).mono ?_
 rintro e w1 ⟨rfl,hbl⟩
 have HM':=Lib.hid (HM.out.on hbl);clear HM hbl;have HM:=HM';clear HM';have HS:=HM.out.sub (rs':=[(w.heap.size,a0,a1,a2,a3)]) (by simp);refine hK.out _ _ (Or.inr HS) (fun _ => ?_);clear hK K;clear HS;refine aE (i:=3) (by kernel_rfl) rfl (fun K hK => ?_);go_simp;refine (refCmp_calls a0 a1 a2 a3 F.m0 F.m1 F.m2 F.m3 ha hf.ok.okm _).mono ?_
 rintro e w2 ⟨he,hbl⟩
 have HC:=Lib.hid (Ly (aA a0 a1 a2 a3) (aA F.m0 F.m1 F.m2 F.m3));generalize bE (aA a0 a1 a2 a3) (aA F.m0 F.m1 F.m2 F.m3) = cc at *;subst he;have HM':=Lib.hid (HM.out.on hbl);clear HM hbl;have HM:=HM';clear HM';have HS:=HM.out.sub (rs':=[(w.heap.size,a0,a1,a2,a3)]) (by simp);refine hK.out _ _ (Or.inr HS) (fun _ => ?_);clear hK K;refine aD (i:=4) (v:=.bool (decide (cc < 0))) rfl (by kernel_rfl) (by kernel_rfl) (by kernel_rfl) (by kernel_rfl) (fun _ _ _ h => h) HS (Or.inl ⟨by kernel_rfl,fun wx hx => ?_⟩) ?_
 ·clear HS hx;go_simp
 simp only [Act.put,List.setIfInBounds_toArray,List.set_cons_zero,List.set_cons_succ];clear HS;refine aE (i:=5) (by kernel_rfl) rfl (fun K hK => ?_);go_simp;refine hK.out _ _ (Or.inl rfl) (fun _ => ?_);clear hK K;refine bC (by kernel_rfl) ?_;go_wp2_with fail;go_ret;exact ⟨uS HC.out,HM.out.1⟩
set_option maxRecDepth 20000 in
set_option maxHeartbeats 1000000 in
theorem ZN (n : Nat) (w : World) : Calls prog 143 #[.int .u64 n] w fun e w' => e = .returned (.agg #[.int .u64 n,.int .u64 0,.int .u64 0,.int .u64 0]) ∧ Below w.heap.size w w':=by
 go_enter func143,ntmps143
 go_wp2_with fail;refine bodyPost_ret (v:=.agg #[.int .u64 n,.int .u64 0,.int .u64 0,.int .u64 0]) (by simp [results,results143,go_sem]) rfl ?_;refine ⟨rfl,?_⟩
 repeat (first | exact Below.refl _ _ | refine Below.drew ?_ | refine Below.alloc ?_ (by first | (simp; done) | (simp; omega)) _ | refine Below.setCell ?_ (by simp) _)
set_option maxRecDepth 20000 in
set_option maxHeartbeats 1000000 in
theorem OX (a0 a1 a2 a3 i : Nat) (ha : aY a0 a1 a2 a3) (hi : i < 256) (w : World) :
  Calls prog 144 #[.agg #[.int .u64 a0,.int .u64 a1,.int .u64 a2,.int .u64 a3],.int .i64 i] w (fun e w' => e = .returned (.bool (decide (dF (aA a0 a1 a2 a3) i = 1))) ∧ Below w.heap.size w w'):=by
 obtain ⟨j,k,q,r,hj,hk,e⟩:=Kp hi;have hc:=vL w 81 a0 a1 a2 a3 j hj;have hx:=nU ha j;obtain ⟨s,e1,e2,hs⟩:=QJ hx (QV ha hj hk e.out);have hb:=iS (aA a0 a1 a2 a3) i;generalize dF (aA a0 a1 a2 a3) i = b at *;generalize dL [a0,a1,a2,a3] j = x at *;have hb' : b ≤ 1:=by omega
 clear e
 go_enter func144,ntmps144
 rcases hb with rfl | rfl
 ·go_wp2_with fail;go_ret;exact ⟨rfl,(Below.refl _ _).alloc (Nat.le_refl _) _⟩
 ·go_wp2_with fail;go_ret;exact ⟨rfl,(Below.refl _ _).alloc (Nat.le_refl _) _⟩
theorem aCD {M A N i : Nat} (hb : dF N i = 0) : A ^ (N / 2 ^ (i + 1)) % M * (A ^ (N / 2 ^ (i + 1)) % M) % M = A ^ (N / 2 ^ i) % M:=by
 rw [← Nat.mul_mod,← Nat.pow_add,wO N i,hb];congr 2;omega
theorem aCC {M A N i : Nat} (hb : dF N i = 1) : A ^ (N / 2 ^ (i + 1)) % M * (A ^ (N / 2 ^ (i + 1)) % M) % M * A % M = A ^ (N / 2 ^ i) % M:=by
 rw [← Nat.mul_mod,← Nat.pow_add,wO N i,hb,Nat.mod_mul_mod,← Nat.pow_succ];congr 2;omega
set_option maxHeartbeats 4000000 in
theorem OT (f : Int) (F : FC) (hf : FieldIs f F) (a0 a1 a2 a3 n0 n1 n2 n3 : Nat) (ha : aY a0 a1 a2 a3) (hn : aY n0 n1 n2 n3) (w : World) :
  Calls prog 109 #[.int .i64 f,.agg #[.int .u64 a0,.int .u64 a1,.int .u64 a2,.int .u64 a3],.agg #[.int .u64 n0,.int .u64 n1,.int .u64 n2,.int .u64 n3]] w (cW (aA a0 a1 a2 a3 ^ aA n0 n1 n2 n3 % F.M) w):=by
 have h2:=hf.ok.gt
 go_enter func109,ntmps109
 go_wp2_with fail;have M0:=((((Mem.nil w).new w.heap.size a0 a1 a2 a3 24 rfl).new (w.heap.size + 1) n0 n1 n2 n3 81 (by simp)).new (w.heap.size + 1 + 1) 0 0 0 0 24 (by simp));refine (ZN 1 _).mono ?_
 rintro e w1 ⟨rfl,hbl⟩
 have M1:=M0.on hbl;have hz1 : w.heap.size + 1 + 1 < w1.heap.size:=M1.lt (c0:=0) (c1:=0) (c2:=0) (c3:=0) (by simp);have M2:=Lib.hid (M1.new w1.heap.size 1 0 0 0 24 rfl);clear hbl M0 M1;go_wp2_with fail
 go_loopw [8] (fun t wr => ∃ (j r0 r1 r2 r3 : Nat) (m : Int),j ≤ 256 ∧ Hid (m = (j : Int) - 1) ∧ t = .int .i64 m ∧ aY r0 r1 r2 r3 ∧ Hid (aA r0 r1 r2 r3 = aA a0 a1 a2 a3 ^ (aA n0 n1 n2 n3 / 2 ^ j) % F.M) ∧ Hid (Mem w wr [(w1.heap.size,r0,r1,r2,r3),(w.heap.size + 1 + 1,0,0,0,0),(w.heap.size + 1,n0,n1,n2,n3),(w.heap.size,a0,a1,a2,a3)])) (fun t _ => (intOf t + 1).toNat)
 case atStart =>
  refine ⟨256,1,0,0,0,255,Nat.le_refl _,Lib.hid (by omega),rfl,(show aY 1 0 0 0 by unfold aY; decide),Lib.hid ?_,M2⟩;rw [Nat.div_eq_of_lt (show aA n0 n1 n2 n3 < 2 ^ 256 from aZ hn),Nat.pow_zero,Nat.mod_eq_of_lt (by omega)];rfl
 case round =>
  obtain ⟨j,r0,r1,r2,r3,m,hj,hm,rfl,hr,HV,HM⟩:=hrel
  by_cases hlt : 0 < j
  ·obtain ⟨i,hi⟩ : ∃ i,j = i + 1:=⟨j - 1,by omega⟩
   subst hi;obtain rfl : m = (i : Int):=by have:=hm.out; omega
   have Rr:=HM.out.row (b:=w1.heap.size) (c0:=r0) (c1:=r1) (c2:=r2) (c3:=r3) (by simp);have x0:=Rr.c0; have x1:=Rr.c1; have x2:=Rr.c2; have x3:=Rr.c3;have ltr:=HM.out.lt (b:=w1.heap.size) (c0:=r0) (c1:=r1) (c2:=r2) (c3:=r3) (by simp);clear Rr hm;go_wp2_with fail;refine (nK f F hf r0 r1 r2 r3 r0 r1 r2 r3 hr hr _).mono ?_
   rintro e w3 ⟨p0,p1,p2,p3,rfl,hp,hv,hbl⟩
   have HP:=Lib.hid (show aA p0 p1 p2 p3 = _ by rw [hv,HV.out]);have M4:=HM.out.on hbl;have lt4:=M4.lt (b:=w1.heap.size) (c0:=r0) (c1:=r1) (c2:=r2) (c3:=r3) (by simp);have Rr:=M4.row (b:=w1.heap.size) (c0:=r0) (c1:=r1) (c2:=r2) (c3:=r3) (by simp);have Rn:=M4.row (b:=w.heap.size + 1) (c0:=n0) (c1:=n1) (c2:=n2) (c3:=n3) (by simp);have M5:=Lib.hid (M4.put p0 p1 p2 p3 (by omega) (by intro r hr; simp at hr; rcases hr with rfl | rfl | rfl <;> simp <;> omega));clear x0 x1 x2 x3 hv hbl M4;have x0:=Rr.c0; have x1:=Rr.c1; have x2:=Rr.c2; have x3:=Rr.c3; have xf:=Rr.fr;have y0:=Rn.c0; have y1:=Rn.c1; have y2:=Rn.c2; have y3:=Rn.c3;have ne1 : ¬ w.heap.size + 1 = w1.heap.size:=by omega
   have ne1' : ¬ w1.heap.size = w.heap.size + 1:=by omega
   have hi256 : i < 256:=by omega
   clear Rr Rn;go_wp2_with fail;refine (OX n0 n1 n2 n3 i hn hi256 _).mono ?_
   rintro e w4 ⟨he,hbl⟩
   have M5':=M5.out;unfold set4 at M5';have M6:=M5'.on hbl;clear hbl M5' x0 x1 x2 x3 xf y0 y1 y2 y3;have lt6:=M6.lt (b:=w1.heap.size) (c0:=p0) (c1:=p1) (c2:=p2) (c3:=p3) (by simp)
   rcases iS (aA n0 n1 n2 n3) i with hb | hb
   ·rw [hb,show decide (0 = 1) = false from rfl] at he;subst he;have HS:=Lib.hid (show aA p0 p1 p2 p3 = aA a0 a1 a2 a3 ^ (aA n0 n1 n2 n3 / 2 ^ i) % F.M by rw [HP.out]; exact aCD hb);have M7:=Lib.hid M6;clear hb M6;go_wp2_with fail
    go_roundw
    case rel => exact ⟨i,p0,p1,p2,p3,(i : Int) - 1,by omega,Lib.hid rfl,by first | rfl | go_num,hp,HS,M7⟩
    case measure => first | (simp [intOf]; done) | (simp [intOf]; omega)
   ·rw [hb,show decide (1 = 1) = true from rfl] at he;subst he;have Rr:=M6.row (b:=w1.heap.size) (c0:=p0) (c1:=p1) (c2:=p2) (c3:=p3) (by simp);have Ra:=M6.row (b:=w.heap.size) (c0:=a0) (c1:=a1) (c2:=a2) (c3:=a3) (by simp);have x0:=Rr.c0; have x1:=Rr.c1; have x2:=Rr.c2; have x3:=Rr.c3;have z0:=Ra.c0; have z1:=Ra.c1; have z2:=Ra.c2; have z3:=Ra.c3;have HB:=Lib.hid hb;have M7:=Lib.hid M6;clear hb M6 Rr Ra;go_wp2_with fail;refine (nK f F hf p0 p1 p2 p3 a0 a1 a2 a3 hp ha _).mono ?_
    rintro e w5 ⟨q0,q1,q2,q3,rfl,hq,hv,hbl⟩
    have HS:=Lib.hid (show aA q0 q1 q2 q3 = aA a0 a1 a2 a3 ^ (aA n0 n1 n2 n3 / 2 ^ i) % F.M by rw [hv,HP.out]; exact aCC HB.out);have M8:=M7.out.on hbl;have lt8:=M8.lt (b:=w1.heap.size) (c0:=p0) (c1:=p1) (c2:=p2) (c3:=p3) (by simp);have Rr:=M8.row (b:=w1.heap.size) (c0:=p0) (c1:=p1) (c2:=p2) (c3:=p3) (by simp);have M9:=Lib.hid (M8.put q0 q1 q2 q3 (by omega) (by intro r hr; simp at hr; rcases hr with rfl | rfl | rfl <;> simp <;> omega));clear x0 x1 x2 x3 z0 z1 z2 z3 hv hbl M8;have x0:=Rr.c0; have x1:=Rr.c1; have x2:=Rr.c2; have x3:=Rr.c3; have xf:=Rr.fr;clear Rr;go_wp2_with fail
    go_roundw
    case rel => exact ⟨i,q0,q1,q2,q3,(i : Int) - 1,by omega,Lib.hid rfl,by first | rfl | go_num,hq,HS,M9⟩
    case measure => first | (simp [intOf]; done) | (simp [intOf]; omega)
  ·obtain rfl : j = 0:=by omega
   obtain rfl : m = -1:=by have:=hm.out; omega
   have Rr:=HM.out.row (b:=w1.heap.size) (c0:=r0) (c1:=r1) (c2:=r2) (c3:=r3) (by simp);have x0:=Rr.c0; have x1:=Rr.c1; have x2:=Rr.c2; have x3:=Rr.c3;have Ro:=HM.out.row (b:=w.heap.size + 1 + 1) (c0:=0) (c1:=0) (c2:=0) (c3:=0) (by simp);have o0:=Ro.c0; have o1:=Ro.c1; have o2:=Ro.c2; have o3:=Ro.c3; have of:=Ro.fr;have ltr:=HM.out.lt (b:=w1.heap.size) (c0:=r0) (c1:=r1) (c2:=r2) (c3:=r3) (by simp);have lto:=HM.out.lt (b:=w.heap.size + 1 + 1) (c0:=0) (c1:=0) (c2:=0) (c3:=0) (by simp);clear Rr Ro hm;go_wp2_with fail;refine bodyPost_ret (v:=.agg #[.int .u64 r0,.int .u64 r1,.int .u64 r2,.int .u64 r3]) (by simp [results,results109,go_sem, *]) rfl ?_;refine ⟨_,_,_,_,rfl,hr,by rw [HV.out,Nat.pow_zero,Nat.div_one],?_⟩;exact aK HM.out.1 (by omega) _ _ _ _
theorem Kt {s0 s1 s2 s3 : Nat} (hs : aY s0 s1 s2 s3) (h : aA s0 s1 s2 s3 = 0) (w : World) : (Op.equalIn 10000 81 (.agg #[.int .u64 s0,.int .u64 s1,.int .u64 s2,.int .u64 s3]) (.agg #[.int .u64 0,.int .u64 0,.int .u64 0,.int .u64 0])).run prog w = .ok true w:=by
 have h':=jW 9998 s0 s1 s2 s3 0 0 0 0 w;rw [(fB hs xF).2 (h.trans rfl)] at h';exact h'
theorem Tj {s0 s1 s2 s3 : Nat} (hs : aY s0 s1 s2 s3) (h : aA s0 s1 s2 s3 ≠ 0) (w : World) : (Op.equalIn 10000 81 (.agg #[.int .u64 s0,.int .u64 s1,.int .u64 s2,.int .u64 s3]) (.agg #[.int .u64 0,.int .u64 0,.int .u64 0,.int .u64 0])).run prog w = .ok false w:=by
 have h':=jW 9998 s0 s1 s2 s3 0 0 0 0 w;rw [mP (fun q => h ((fB hs xF).1 q))] at h';exact h'
theorem zR : prog.eqGuardType prog.depth 81 = false:=by kernel_rfl
set_option maxHeartbeats 2000000 in
theorem ID (f : Int) (F : FC) (hf : FieldIs f F) (a0 a1 a2 a3 : Nat) (ha : aY a0 a1 a2 a3) (hz : aA a0 a1 a2 a3 % F.M ≠ 0) (w : World) :
  Calls prog 75 #[.int .i64 f,.agg #[.int .u64 a0,.int .u64 a1,.int .u64 a2,.int .u64 a3]] w (fun e w' => ∃ s0 s1 s2 s3 : Nat,e = .returned (.tuple #[.agg #[.int .u64 s0,.int .u64 s1,.int .u64 s2,.int .u64 s3],.int .i64 0]) ∧ aY s0 s1 s2 s3 ∧ aA s0 s1 s2 s3 = aA a0 a1 a2 a3 ^ (F.M - 2) % F.M ∧ Below w.heap.size w w'):=by
 have hG:=zR;have h2:=hf.ok.gt
 go_enter func75,ntmps75
 go_wp2_with fail;have HM:=Lib.hid (((Mem.nil w).new (w.heap.size) a0 a1 a2 a3 24 (by simp)).new (w.heap.size + 1) 0 0 0 0 24 (by simp));refine (cR f F hf a0 a1 a2 a3 ha _).mono ?_
 rintro e w1 ⟨d0,d1,d2,d3,rfl,hd,hv,hbl⟩
 have HM':=Lib.hid (HM.out.on hbl);clear HM hbl;have HM:=HM';clear HM';have EQ:=Tj hd (by rw [hv]; exact hz);clear hv hz;go_wp2_with fail;refine (fJ f F hf _).mono ?_
 rintro e w2 ⟨rfl,hbl⟩
 have HM':=Lib.hid (HM.out.on hbl);clear HM hbl;have HM:=HM';clear HM';go_wp2_with fail;refine (eI F.m0 F.m1 F.m2 F.m3 2 0 0 0 hf.ok.okm (show aY 2 0 0 0 by unfold aY; decide) _).mono ?_
 rintro e w3 ⟨n0,n1,n2,n3,c,rfl,hn,hc,hv,hbl⟩
 have HVn:=Lib.hid (show aA n0 n1 n2 n3 = F.M - 2 by
  have e2 : aA 2 0 0 0 = 2:=rfl;have:=aZ hn;rw [e2] at hv;have e3 : aA F.m0 F.m1 F.m2 F.m3 = F.M:=rfl;rw [e3] at hv;have : c = 0:=by rcases (show c = 0 ∨ c = 1 by omega) with h | h; exact h; subst h; omega
  subst this;omega)
 clear hv hc;have HM':=Lib.hid ((HM.out.on hbl).new w3.heap.size n0 n1 n2 n3 81 rfl);clear HM hbl;have HM:=HM';clear HM';have kr:=HM.out.row (b:=w.heap.size) (c0:=a0) (c1:=a1) (c2:=a2) (c3:=a3) (by simp);have x0:=kr.c0; have x1:=kr.c1; have x2:=kr.c2; have x3:=kr.c3;clear kr;have xl : w.heap.size < w3.heap.size:=by have:=HM.out.lt (b:=w.heap.size) (c0:=a0) (c1:=a1) (c2:=a2) (c3:=a3) (by simp); have l2:=HM.out.lt (b:=w.heap.size + 1) (c0:=0) (c1:=0) (c2:=0) (c3:=0) (by simp); simp at l2; omega
 go_wp2_with fail;refine (OT f F hf a0 a1 a2 a3 n0 n1 n2 n3 ha hn _).mono ?_
 rintro e w4 ⟨s0,s1,s2,s3,rfl,hs,hv,hbl⟩
 have HVs:=Lib.hid (show aA s0 s1 s2 s3 = aA a0 a1 a2 a3 ^ (F.M - 2) % F.M by rw [hv,HVn.out]);have HM':=Lib.hid (HM.out.on hbl);clear HM hbl hv x0 x1 x2 x3 xl;have HM:=HM';clear HM';have kr:=HM.out.row (b:=w.heap.size + 1) (c0:=0) (c1:=0) (c2:=0) (c3:=0) (by simp);have y0:=kr.c0; have y1:=kr.c1; have y2:=kr.c2; have y3:=kr.c3; have yf:=kr.fr;have yl:=HM.out.lt (b:=w.heap.size + 1) (c0:=0) (c1:=0) (c2:=0) (c3:=0) (by simp);clear kr;go_wp2_with fail;refine bodyPost_ret (v:=.tuple #[.agg #[.int .u64 s0,.int .u64 s1,.int .u64 s2,.int .u64 s3],.int .i64 0]) (by simp [results,results75,go_sem, *]) rfl ?_;refine ⟨_,_,_,_,rfl,hs,HVs.out,?_⟩;exact aK HM.out.1 (by omega) _ _ _ _
set_option maxHeartbeats 2000000 in
theorem IE (f : Int) (F : FC) (hf : FieldIs f F) (a0 a1 a2 a3 : Nat) (ha : aY a0 a1 a2 a3) (hz : aA a0 a1 a2 a3 % F.M = 0) (w : World) :
  Calls prog 75 #[.int .i64 f,.agg #[.int .u64 a0,.int .u64 a1,.int .u64 a2,.int .u64 a3]] w (fun e w' => ∃ s0 s1 s2 s3 : Nat,e = .returned (.tuple #[.agg #[.int .u64 s0,.int .u64 s1,.int .u64 s2,.int .u64 s3],.int .i64 22]) ∧ aY s0 s1 s2 s3 ∧ aA s0 s1 s2 s3 = 0 ∧ Below w.heap.size w w'):=by
 have hG:=zR;have h2:=hf.ok.gt
 go_enter func75,ntmps75
 go_wp2_with fail;have HM:=Lib.hid (((Mem.nil w).new (w.heap.size) a0 a1 a2 a3 24 (by simp)).new (w.heap.size + 1) 0 0 0 0 24 (by simp));refine (cR f F hf a0 a1 a2 a3 ha _).mono ?_
 rintro e w1 ⟨d0,d1,d2,d3,rfl,hd,hv,hbl⟩
 have HM':=Lib.hid (HM.out.on hbl);clear HM hbl;have HM:=HM';clear HM';have EQ:=Kt hd (by rw [hv]; exact hz);clear hv hz;have kr:=HM.out.row (b:=w.heap.size + 1) (c0:=0) (c1:=0) (c2:=0) (c3:=0) (by simp);have y0:=kr.c0; have y1:=kr.c1; have y2:=kr.c2; have y3:=kr.c3; have yf:=kr.fr;have yl:=HM.out.lt (b:=w.heap.size + 1) (c0:=0) (c1:=0) (c2:=0) (c3:=0) (by simp);clear kr;go_wp2_with fail;refine bodyPost_ret (v:=.tuple #[.agg #[.int .u64 (0 : Nat),.int .u64 (0 : Nat),.int .u64 (0 : Nat),.int .u64 (0 : Nat)],.int .i64 22]) (by simp [results,results75,go_sem, *]) rfl ?_;refine ⟨_,_,_,_,rfl,xF,rfl,?_⟩;exact aK HM.out.1 (by omega) 0 0 0 0
end Go.Proofs.YtfnkbmlmgnadmaaGreat
namespace Go.Proofs.YtfnkbmlmgnadmaaGreat.Ex
open Go.Proofs.Tryz
open Go.RowKit
def gR (op : Fq → Fq → Fq) : gC
 | [.v (.im (.int .i64 (.ofNat 1))),.v (.fl l),.v (.fl m)] => match SR l,SR m with
  | some x,some y => some ([],.one (.fl (e1 (op x y))))
  | _,_ => none
 | _ => none
def gRI (c : Bool) : gC
 | [.v (.im (.int .i64 (.ofNat 1))),.v (.fl l)] => match SR l with
  | some x => bif c then some ([x ≠ F1.zero],.many [.fl (e1 (iO x)),.im (.int .i64 0)]) else some ([x = F1.zero],.many [.fl (e1 F1.zero),.im (.int .i64 22)])
  | none => none
 | _ => none
theorem Jp {f : FuncId} {op : Fq → Fq → Fq} (h : ∀ (a b : Nat) (w : World),Calls prog f #[.int .i64 1,.agg (aB (q1 a)).toArray,.agg (aB (q1 b)).toArray] w (FwPost (op (m1 a) (m1 b)).1 w)) :
  ∀ cs pre r,gR op cs = some (pre,r) → aQ pre → ∀ (args : List Value) (w : World),bH w cs args → Good prog f r args w:=by
 intro cs pre r hg hp args w ha;unfold gR at hg;split at hg
 ·rename_i l m;split at hg
  ·rename_i x y hx hy;cases hg;obtain ⟨a,e1,rfl⟩:=gV l x hx;obtain ⟨b,e2,rfl⟩:=gV m y hy
   match args,ha with
   | [v,u,s],ha =>
    have h1 : v = .int .i64 1:=ha.1;have h2 : u = .agg (aB l).toArray:=ha.2.1;have h3 : s = .agg (aB m).toArray:=ha.2.2.1;rw [e1] at h2;rw [e2] at h3;subst h1; subst h2; subst h3;exact (h a b w).mono fun e w' h => h
   | [],ha => exact ha.elim
   | [_],ha => exact ha.2.elim
   | [_,_],ha => exact ha.2.2.elim
   | _ :: _ :: _ :: _ :: _,ha => exact ha.2.2.2.elim
  ·cases hg
 ·cases hg
theorem aCL (a b : Nat) (w : World) : Calls prog 113 #[.int .i64 1,.agg (aB (q1 a)).toArray,.agg (aB (q1 b)).toArray] w (FwPost (F1.add (m1 a) (m1 b)).1 w):=by
 refine (uU 1 FP gA _ _ _ _ _ _ _ _ (bJ a) (bJ b) w).mono fun e w' h => ?_
 rw [show (F1.add (m1 a) (m1 b)).1 = (aA (fw a 0) (fw a 1) (fw a 2) (fw a 3) + aA (fw b 0) (fw b 1) (fw b 2) (fw b 3)) % FP.M from (Nat.add_mod _ _ _).symm];exact FwPost.of (Nat.mod_lt _ cV) h
theorem aCI (a b : Nat) (w : World) : Calls prog 117 #[.int .i64 1,.agg (aB (q1 a)).toArray,.agg (aB (q1 b)).toArray] w (FwPost (F1.sub (m1 a) (m1 b)).1 w):=by
 refine (OP 1 FP gA _ _ _ _ _ _ _ _ (bJ a) (bJ b) w).mono fun e w' h => ?_
 have e : (F1.sub (m1 a) (m1 b)).1 = (aA (fw a 0) (fw a 1) (fw a 2) (fw a 3) + (FP.M - aA (fw b 0) (fw b 1) (fw b 2) (fw b 3) % FP.M)) % FP.M:=by
  show (wv a % FP.M + (0 + FP.M - wv b % FP.M) % FP.M) % FP.M = (wv a + (FP.M - wv b % FP.M)) % FP.M;rw [Nat.zero_add,← Nat.add_mod]
 rw [e];exact FwPost.of (Nat.mod_lt _ cV) h
theorem aCJ (a b : Nat) (w : World) : Calls prog 114 #[.int .i64 1,.agg (aB (q1 a)).toArray,.agg (aB (q1 b)).toArray] w (FwPost (F1.mul (m1 a) (m1 b)).1 w):=by
 refine (nK 1 FP gA _ _ _ _ _ _ _ _ (bJ a) (bJ b) w).mono fun e w' h => ?_
 rw [show (F1.mul (m1 a) (m1 b)).1 = (aA (fw a 0) (fw a 1) (fw a 2) (fw a 3) * aA (fw b 0) (fw b 1) (fw b 2) (fw b 3)) % FP.M from (Nat.mul_mod _ _ _).symm];exact FwPost.of (Nat.mod_lt _ cV) h
theorem aCK (c : Bool) : ∀ cs pre r,gRI c cs = some (pre,r) → aQ pre → ∀ (args : List Value) (w : World),bH w cs args → Good prog 75 r args w:=by
 intro cs pre r hg hp args w ha;unfold gRI at hg;split at hg
 ·rename_i l;split at hg
  ·rename_i x hx;obtain ⟨a,e1,rfl⟩:=gV l x hx
   match args,ha with
   | [v,u],ha =>
    have h1 : v = .int .i64 1:=ha.1;have h2 : u = .agg (aB l).toArray:=ha.2.1;rw [e1] at h2;subst h1; subst h2;cases c
    ·cases hg;have hz : m1 a = F1.zero:=hp.1;have hz' : aA (fw a 0) (fw a 1) (fw a 2) (fw a 3) % FP.M = 0:=congrArg Fin.val hz;refine (IE 1 FP gA _ _ _ _ (bJ a) hz' w).mono ?_
     rintro e w' ⟨s0,s1,s2,s3,rfl,hs,hv,hb⟩
     obtain ⟨rfl,rfl,rfl,rfl⟩:=fR hs (jS cV) hv;exact ⟨rfl,hb⟩
    ·cases hg;have hz : m1 a ≠ F1.zero:=hp.1;have hz' : aA (fw a 0) (fw a 1) (fw a 2) (fw a 3) % FP.M ≠ 0:=fun e => hz (Fin.ext e)
     refine (ID 1 FP gA _ _ _ _ (bJ a) hz' w).mono ?_
     rintro e w' ⟨s0,s1,s2,s3,rfl,hs,hv,hb⟩
     have hf : (iO (m1 a)).1 = aA (fw a 0) (fw a 1) (fw a 2) (fw a 3) ^ (FP.M - 2) % FP.M:=by
      rw [vZ,Nat.one_mul];exact (Nat.pow_mod _ _ _).symm
     rw [← hf] at hv;obtain ⟨rfl,rfl,rfl,rfl⟩:=fR hs (jS (iO (m1 a)).2) hv;exact ⟨rfl,hb⟩
   | [],ha => exact ha.elim
   | [_],ha => exact ha.2.elim
   | _ :: _ :: _ :: _,ha => exact ha.2.2.elim
  ·cases hg
 ·cases hg
def WH (c : Bool) : Tab:=(RU c).add 113 (gR F1.add)
theorem Gu (c : Bool) : TabOk prog (WH c):=(aCX c).ad func113 (Jp aCL)
def WF (c : Bool) : Tab:=(WH c).add 117 (gR F1.sub)
theorem Gs (c : Bool) : TabOk prog (WF c):=(Gu c).ad func117 (Jp aCI)
def WG (c : Bool) : Tab:=(WF c).add 114 (gR F1.mul)
theorem Gt (c : Bool) : TabOk prog (WG c):=(Gs c).ad func114 (Jp aCJ)
def DQ (c : Bool) : Tab:=(WG c).add 75 (gRI c)
theorem JJ (c : Bool) : TabOk prog (DQ c):=(Gt c).ad func75 (aCK c)
theorem Dw (c : Bool) (x : Nat) (y : Nat) : dJ prog (DQ c) qN (fun _ => true) f73 40 [.v (.fl (q1 x)),.v (.fl (q1 y))] = some ([],.one (.fl (e1 (F1.add (m1 x) (m1 y))))):=by kernel_rfl
def RK (c : Bool) : Tab:=(DQ c).add 73 (g2 SR SR (fun x y => ([],.one (.fl (e1 (F1.add x y))))))
theorem TN (c : Bool) : TabOk prog (RK c):=(JJ c).ad func73 (hJ gV gV fun x y hp args w ha => aR aF (JJ c) bZ func73 (Dw c x y) hp ha)
theorem Dt (c : Bool) (x : Nat) (y : Nat) : dJ prog (RK c) qN (fun _ => true) f76 40 [.v (.fl (q1 x)),.v (.fl (q1 y))] = some ([],.one (.fl (e1 (F1.sub (m1 x) (m1 y))))):=by kernel_rfl
def RI (c : Bool) : Tab:=(RK c).add 76 (g2 SR SR (fun x y => ([],.one (.fl (e1 (F1.sub x y))))))
theorem TK (c : Bool) : TabOk prog (RI c):=(TN c).ad func76 (hJ gV gV fun x y hp args w ha => aR aF (TN c) bZ func76 (Dt c x y) hp ha)
theorem Du (c : Bool) (x : Nat) (y : Nat) : dJ prog (RI c) qN (fun _ => true) f74 40 [.v (.fl (q1 x)),.v (.fl (q1 y))] = some ([],.one (.fl (e1 (F1.mul (m1 x) (m1 y))))):=by kernel_rfl
def RJ (c : Bool) : Tab:=(RI c).add 74 (g2 SR SR (fun x y => ([],.one (.fl (e1 (F1.mul x y))))))
theorem TM (c : Bool) : TabOk prog (RJ c):=(TK c).ad func74 (hJ gV gV fun x y hp args w ha => aR aF (TK c) bZ func74 (Du c x y) hp ha)
theorem XZ (c : Bool) (x : N2) (y : N2) : dJ prog (RJ c) qN (fun _ => true) f39 40 [.v (.fl (q2 x)),.v (.fl (q2 y))] = some ([],.one (.fl (e2 (F2.add (m2 x) (m2 y))))):=by kernel_rfl
def DP (c : Bool) : Tab:=(RJ c).add 39 (g2 sJ sJ (fun x y => ([],.one (.fl (e2 (F2.add x y))))))
theorem JI (c : Bool) : TabOk prog (DP c):=(TM c).ad func39 (hJ dA dA fun x y hp args w ha => aR aF (TM c) bZ func39 (XZ c x y) hp ha)
theorem XW (c : Bool) (x : N2) (y : N2) : dJ prog (DP c) qN (fun _ => true) f71 40 [.v (.fl (q2 x)),.v (.fl (q2 y))] = some ([],.one (.fl (e2 (F2.sub (m2 x) (m2 y))))):=by kernel_rfl
def DN (c : Bool) : Tab:=(DP c).add 71 (g2 sJ sJ (fun x y => ([],.one (.fl (e2 (F2.sub x y))))))
theorem JG (c : Bool) : TabOk prog (DN c):=(JI c).ad func71 (hJ dA dA fun x y hp args w ha => aR aF (JI c) bZ func71 (XW c x y) hp ha)
theorem XY (c : Bool) (x : N2) (y : N2) : dJ prog (DN c) qN (fun _ => true) f40 40 [.v (.fl (q2 x)),.v (.fl (q2 y))] = some ([],.one (.fl (e2 ((F1.sub (F1.mul (m2 x).1 (m2 y).1) (F1.mul (m2 x).2 (m2 y).2),F1.add (F1.mul (m2 x).1 (m2 y).2) (F1.mul (m2 x).2 (m2 y).1)))))):=by kernel_rfl
theorem ZS (x : Q2) (y : Q2) : F2.mul x y = (F1.sub (F1.mul x.1 y.1) (F1.mul x.2 y.2),F1.add (F1.mul x.1 y.2) (F1.mul x.2 y.1)):=by
 refine Prod.ext ?_ rfl;show F1.add (F1.mul x.1 y.1) (F1.mul (F1.neg F1.one) (F1.mul x.2 y.2)) = F1.add (F1.mul x.1 y.1) (F1.neg (F1.mul x.2 y.2));rw [F1.neg_mul,F1.one_mul]
def DO (c : Bool) : Tab:=(DN c).add 40 (g2 sJ sJ (fun x y => ([],.one (.fl (e2 (F2.mul x y))))))
theorem JH (c : Bool) : TabOk prog (DO c):=(JG c).ad func40 (hJ dA dA fun x y hp args w ha => by show Good _ _ (.one (.fl (e2 (F2.mul (m2 x) (m2 y))))) _ _; rw [ZS]; exact aR aF (JG c) bZ func40 (XY c x y) hp ha)
theorem XX (c : Bool) (x : N2) : dJ prog (DO c) qN (fun _ => true) f44 40 [.v (.fl (q2 x))] = some ([],.one (.fl (e2 (F2.sub F2.zero (m2 x))))):=by kernel_rfl
def WE (c : Bool) : Tab:=(DO c).add 44 (g1 sJ (fun x => ([],.one (.fl (e2 (F2.sub F2.zero x))))))
theorem Gr (c : Bool) : TabOk prog (WE c):=(JH c).ad func44 (nT dA fun x hp args w ha => aR aF (JH c) bZ func44 (XX c x) hp ha)
structure FD {R : Type} (K : CR R) (inv : R → R) : Prop where
 ne : K.one ≠ K.zero
 inv : ∀ x,x ≠ K.zero → K.mul x (inv x) = K.one
section
variable {R : Type} {K : CR R} {inv : R → R}
theorem FD.zd (h : FD K inv) {a b : R} (e : K.mul a b = K.zero) (ha : a ≠ K.zero) : b = K.zero:=by
 have:=congrArg (K.mul (inv a)) e
 rwa [← K.mul_assoc,K.mul_comm (inv a),h.inv a ha,K.one_mul,K.mul_zero] at this
theorem FD.mul_ne (h : FD K inv) {a b : R} (ha : a ≠ K.zero) (hb : b ≠ K.zero) : K.mul a b ≠ K.zero:=fun e => hb (h.zd e ha)
theorem FD.cancel (h : FD K inv) {a b c : R} (ha : a ≠ K.zero) (e : K.mul a b = K.mul a c) : b = c:=by
 have:=congrArg (K.mul (inv a)) e
 rwa [← K.mul_assoc,← K.mul_assoc,K.mul_comm (inv a),h.inv a ha,K.one_mul,K.one_mul] at this
theorem iG {a b : R} (h : K.add a (K.neg b) = K.zero) : a = b:=by
 have h2 : K.add (K.add a (K.neg b)) b = K.add K.zero b:=congrArg (fun x => K.add x b) h
 rwa [K.add_assoc,K.neg_add,K.add_zero,K.zero_add] at h2
theorem eE {a b : R} (h : a = b) : K.add a (K.neg b) = K.zero:=by rw [h,K.add_neg]
theorem nD {A B L1 R1 c1 : R} (h1 : L1 = R1) (e : K.add A (K.neg B) = K.mul c1 (K.add L1 (K.neg R1))) : A = B:=by
 apply iG (K:=K);rw [e,eE h1,K.mul_zero]
theorem pH {A B L1 R1 c1 L2 R2 c2 : R} (h1 : L1 = R1) (h2 : L2 = R2) (e : K.add A (K.neg B) = K.add (K.mul c1 (K.add L1 (K.neg R1))) (K.mul c2 (K.add L2 (K.neg R2)))) : A = B:=by
 apply iG (K:=K);rw [e,eE h1,eE h2,K.mul_zero,K.mul_zero,K.add_zero]
theorem Vx {A B L1 R1 c1 L2 R2 c2 L3 R3 c3 : R} (h1 : L1 = R1) (h2 : L2 = R2) (h3 : L3 = R3) (e : K.add A (K.neg B) = K.add (K.add (K.mul c1 (K.add L1 (K.neg R1))) (K.mul c2 (K.add L2 (K.neg R2)))) (K.mul c3 (K.add L3 (K.neg R3)))) : A = B:=by
 apply iG (K:=K);rw [e,eE h1,eE h2,eE h3,K.mul_zero,K.mul_zero,K.mul_zero,K.add_zero,K.add_zero]
end
section
variable {R : Type} (K : CR R)
def tl (f : Nat → R) : Nat → R:=fun n => f (n + 1)
def lX : Nat → (Nat → R) → (Nat → R) → R
 | 0,f,g => K.mul (f 0) (g 0)
 | n + 1,f,g => K.add (K.mul (f 0) (g (n + 1))) (lX n (tl f) g)
def Be (f g : Nat → R) : Nat → R:=fun n => K.add (f n) (g n)
def fsc (c : R) (f : Nat → R) : Nat → R:=fun n => K.mul c (f n)
def QH (f g : Nat → R) : Nat → R:=fun n => lX K n f g
def aFp (f : Nat → R) : Nat → R:=fun n => K.neg (f n)
def fze : Nat → R:=fun _ => K.zero
def fco (c : R) : Nat → R | 0 => c | _ + 1 => K.zero
theorem zV : ∀ (n : Nat) (f g h : Nat → R),lX K n f (Be K g h) = K.add (lX K n f g) (lX K n f h)
 | 0,f,g,h => K.mul_add _ _ _
 | n + 1,f,g,h => by
  show K.add (K.mul (f 0) (K.add _ _)) (lX K n (tl f) (Be K g h)) = K.add (K.add _ _) (K.add _ _);rw [zV n,K.mul_add,K.add_assoc,K.add_assoc,K.add_left_comm (K.mul (f 0) (h (n + 1)))]
theorem zW : ∀ (n : Nat) (f g h : Nat → R),lX K n (Be K f g) h = K.add (lX K n f h) (lX K n g h)
 | 0,f,g,h => K.add_mul _ _ _
 | n + 1,f,g,h => by
  show K.add (K.mul (K.add _ _) (h (n + 1))) (lX K n (Be K (tl f) (tl g)) h) = K.add (K.add _ _) (K.add _ _);rw [zW n,K.add_mul,K.add_assoc,K.add_assoc,K.add_left_comm (K.mul (g 0) (h (n + 1)))]
theorem Lg : ∀ (n : Nat) (c : R) (f g : Nat → R),lX K n (fsc K c f) g = K.mul c (lX K n f g)
 | 0,c,f,g => K.mul_assoc _ _ _
 | n + 1,c,f,g => by
  show K.add (K.mul (K.mul c (f 0)) _) (lX K n (fsc K c (tl f)) g) = K.mul c (K.add _ _);rw [Lg n,K.mul_add,K.mul_assoc]
theorem QO : ∀ (n : Nat) (g : Nat → R),lX K n (fze K) g = K.zero
 | 0,g => K.zero_mul _
 | n + 1,g => by
  show K.add (K.mul K.zero _) (lX K n (fze K) g) = _;rw [QO n,K.zero_mul,K.add_zero]
theorem QQ (c : R) (g : Nat → R) : ∀ n,lX K n (fco K c) g = K.mul c (g n)
 | 0 => rfl
 | n + 1 => by
  show K.add (K.mul c _) (lX K n (fze K) g) = _;rw [QO,K.add_zero]
theorem zU : ∀ (n : Nat) (f g h : Nat → R),lX K n (QH K f g) h = lX K n f (QH K g h)
 | 0,f,g,h => K.mul_assoc _ _ _
 | n + 1,f,g,h => by
  have e : tl (QH K f g) = Be K (fsc K (f 0) (tl g)) (QH K (tl f) g):=rfl;show K.add (K.mul (K.mul (f 0) (g 0)) (h (n + 1))) (lX K n (tl (QH K f g)) h) = K.add (K.mul (f 0) (K.add (K.mul (g 0) (h (n + 1))) (lX K n (tl g) h))) (lX K n (tl f) (QH K g h));rw [e,zW,Lg,zU n,K.mul_add,K.mul_assoc,K.add_assoc]
theorem pI : ∀ (n : Nat) (f g : Nat → R),lX K n f g = lX K n g f
 | 0,f,g => K.mul_comm _ _
 | 1,f,g => by
  show K.add (K.mul (f 0) (g 1)) (K.mul (f 1) (g 0)) = K.add (K.mul (g 0) (f 1)) (K.mul (g 1) (f 0));rw [K.add_comm,K.mul_comm (f 1),K.mul_comm (f 0)]
 | n + 2,f,g => by
  show K.add (K.mul (f 0) (g (n + 2))) (lX K (n + 1) (tl f) g) = K.add (K.mul (g 0) (f (n + 2))) (lX K (n + 1) (tl g) f);rw [pI (n + 1) (tl f) g,pI (n + 1) (tl g) f];show K.add (K.mul (f 0) (g (n + 2))) (K.add (K.mul (g 0) (f (n + 2))) (lX K n (tl g) (tl f))) = K.add (K.mul (g 0) (f (n + 2))) (K.add (K.mul (f 0) (g (n + 2))) (lX K n (tl f) (tl g)));rw [K.add_left_comm,pI n (tl g) (tl f)]
theorem QP : ∀ (a b : Nat) (f g : Nat → R),(∀ i,a ≤ i → f i = K.zero) → (∀ i,b ≤ i → g i = K.zero) → ∀ n,a + b ≤ n + 1 → lX K n f g = K.zero
 | 0,b,f,g,hf,hg,n,h => by
  have : f = fze K:=funext fun i => hf i (Nat.zero_le _)
  rw [this,QO]
 | a + 1,b,f,g,hf,hg,0,h => by
  show K.mul (f 0) (g 0) = _;rw [hg 0 (by omega),K.mul_zero]
 | a + 1,b,f,g,hf,hg,n + 1,h => by
  show K.add (K.mul (f 0) (g (n + 1))) (lX K n (tl f) g) = _;rw [hg (n + 1) (by omega),K.mul_zero,K.zero_add];exact QP a b (tl f) g (fun i hi => hf (i + 1) (by omega)) hg n (by omega)
def Pol : Type:={f : Nat → R // ∃ n,∀ i,n ≤ i → f i = K.zero}
variable {K}
theorem Pol.ext {f g : Pol K} (h : ∀ n,f.1 n = g.1 n) : f = g:=Subtype.ext (funext h)
def aX : CR (Pol K) where
 add f g:=⟨Be K f.1 g.1,by
  obtain ⟨a,ha⟩:=f.2; obtain ⟨b,hb⟩:=g.2;exact ⟨a + b,fun i hi => by show K.add (f.1 i) (g.1 i) = _; rw [ha i (by omega),hb i (by omega),K.add_zero]⟩⟩
 mul f g:=⟨QH K f.1 g.1,by
  obtain ⟨a,ha⟩:=f.2; obtain ⟨b,hb⟩:=g.2;exact ⟨a + b,fun i hi => QP K a b f.1 g.1 ha hb i (by omega)⟩⟩
 neg f:=⟨aFp K f.1,by
  obtain ⟨a,ha⟩:=f.2;exact ⟨a,fun i hi => by show K.neg (f.1 i) = _; rw [ha i hi,cT]⟩⟩
 zero:=⟨fze K,0,fun _ _ => rfl⟩
 one:=⟨fco K K.one,1,fun i hi => by cases i with | zero => omega | succ i => rfl⟩
 add_assoc a b c:=Pol.ext fun n => K.add_assoc _ _ _
 add_comm a b:=Pol.ext fun n => K.add_comm _ _
 zero_add a:=Pol.ext fun n => K.zero_add _
 neg_add a:=Pol.ext fun n => K.neg_add _
 mul_assoc a b c:=Pol.ext fun n => zU K n _ _ _
 mul_comm a b:=Pol.ext fun n => pI K n _ _
 one_mul a:=Pol.ext fun n => by show lX K n (fco K K.one) a.1 = _; rw [QQ,K.one_mul]
 mul_add a b c:=Pol.ext fun n => zV K n _ _ _
def gY (c : R) : Pol K:=⟨fco K c,1,fun i hi => by cases i with | zero => omega | succ i => rfl⟩
def pX : Pol K:=⟨fun n => match n with | 1 => K.one | _ => K.zero,2,fun i hi => by match i,hi with | i + 2,_ => rfl⟩
theorem SX (a b : R) : (gY (K.add a b) : Pol K) = aX.add (gY a) (gY b):=Pol.ext fun n => by
 cases n with
 | zero => rfl
 | succ n => exact (K.zero_add _).symm
theorem Qy (a : R) : (gY (K.neg a) : Pol K) = aX.neg (gY a):=Pol.ext fun n => by
 cases n with
 | zero => rfl
 | succ n => exact (cT K).symm
theorem tA (a b : R) : (gY (K.mul a b) : Pol K) = aX.mul (gY a) (gY b):=Pol.ext fun n => by
 show _ = lX K n (fco K a) (fco K b);rw [QQ];cases n with
 | zero => rfl
 | succ n => exact (K.mul_zero _).symm
def dg (f : Pol K) (n : Nat) : Prop:=f.1 n ≠ K.zero ∧ ∀ i,n < i → f.1 i = K.zero
theorem Lb {f : Pol K} {n : Nat} (h : dg f n) : f ≠ aX.zero:=fun e => h.1 (by rw [e]; rfl)
theorem aAV {f : Pol K} {n m : Nat} (h : dg f n) (g : dg f m) : n = m:=by
 rcases Nat.lt_trichotomy n m with q | q | q
 ·exact absurd (h.2 m q) g.1
 ·exact q
 ·exact absurd (g.2 n q) h.1
theorem VL (f : Pol K) (h : f ≠ aX.zero) : ∃ n,dg f n:=by
 obtain ⟨b,hb⟩:=f.2;have : ∀ b,(∀ i,b ≤ i → f.1 i = K.zero) → ∃ n,dg f n:=by
  intro b
  induction b with
  | zero => exact fun hb => absurd (Pol.ext fun n => hb n (Nat.zero_le _)) h
  | succ b ih =>
   intro hb
   by_cases h0 : f.1 b = K.zero
   ·exact ih fun i hi => by
     rcases Nat.lt_or_ge b i with q | q
     ·exact hb i q
     ·rw [show i = b by omega,h0]
   ·exact ⟨b,h0,hb⟩
 exact this b hb
variable {inv : R → R}
theorem VQ : ∀ (a b : Nat) (f g : Nat → R),(∀ i,a < i → f i = K.zero) → (∀ i,b < i → g i = K.zero) → lX K (a + b) f g = K.mul (f a) (g b)
 | 0,b,f,g,hf,hg => by
  have : f = fco K (f 0):=funext fun i => by cases i with | zero => rfl | succ i => exact hf _ (by omega)
  rw [this,QQ,Nat.zero_add]; rfl
 | a + 1,b,f,g,hf,hg => by
  rw [show a + 1 + b = (a + b) + 1 by omega];show K.add (K.mul (f 0) (g (a + b + 1))) (lX K (a + b) (tl f) g) = _;rw [hg (a + b + 1) (by omega),K.mul_zero,K.zero_add];exact VQ a b (tl f) g (fun i hi => hf (i + 1) (by omega)) hg
theorem jH (F : FD K inv) {f g : Pol K} {n m : Nat} (hf : dg f n) (hg : dg g m) : dg (aX.mul f g) (n + m):=by
 refine ⟨?_,fun i hi => QP K (n + 1) (m + 1) f.1 g.1 (fun j hj => hf.2 j hj) (fun j hj => hg.2 j hj) i (by omega)⟩
 ·show lX K (n + m) f.1 g.1 ≠ _;rw [VQ n m f.1 g.1 hf.2 hg.2];exact F.mul_ne hf.1 hg.1
theorem wF {f g : Pol K} {n : Nat} (hf : dg f n) (hg : ∀ i,n ≤ i → g.1 i = K.zero) : dg (aX.add f g) n:=by
 refine ⟨?_,fun i hi => ?_⟩
 ·show K.add (f.1 n) (g.1 n) ≠ _;rw [hg n (Nat.le_refl _),K.add_zero]; exact hf.1
 ·show K.add (f.1 i) (g.1 i) = _;rw [hf.2 i hi,hg i (by omega),K.add_zero]
theorem Zs {a : R} (h : a ≠ K.zero) : K.neg a ≠ K.zero:=fun e => h (by rw [← K.neg_neg a,e,cT])
theorem La {f : Pol K} {n : Nat} (hf : dg f n) : dg (aX.neg f) n :=
 ⟨Zs hf.1,fun i hi => by show K.neg (f.1 i) = _; rw [hf.2 i hi,cT]⟩
theorem wE (F : FD K inv) (c : R) : dg (aX.sub (pX : Pol K) (gY c)) 1:=by
 refine ⟨?_,fun i hi => ?_⟩
 ·show K.add K.one (K.neg K.zero) ≠ _;rw [cT,K.add_zero]; exact F.ne
 ·match i,hi with
  | i + 2,_ => show K.add K.zero (K.neg K.zero) = _; rw [cT,K.add_zero]
def qP (c : R) : Pol K:=aX.add (aX.mul pX (aX.mul pX pX)) (gY c)
theorem aAW (F : FD K inv) : dg (pX : Pol K) 1:=⟨F.ne,fun i hi => by match i,hi with | i + 2,_ => rfl⟩
theorem aDC (F : FD K inv) (c : R) : dg (qP c : Pol K) 3 :=
 wF (jH F (aAW F) (jH F (aAW F) (aAW F))) fun i hi => by match i,hi with | i + 1,_ => rfl
theorem zH (F : FD K inv) {c k : R} {h : Pol K} (e : aX.mul (aX.sub (pX : Pol K) (gY c)) h = gY k) : k = K.zero:=by
 by_cases h0 : h = aX.zero
 ·rw [h0,aX.mul_zero] at e;exact (congrArg (fun p : Pol K => p.1 0) e).symm
 ·obtain ⟨n,hn⟩:=VL h h0;have:=jH F (wE F c) hn;rw [e] at this;exact absurd (by rw [Nat.add_comm]; rfl) this.1
end
section
variable {A : Type} {K : CR A}
theorem aDH {M N L1 R1 c1 L2 R2 c2 L3 R3 c3 L4 R4 c4 : A} (h1 : L1 = R1) (h2 : L2 = R2) (h3 : L3 = R3) (h4 : L4 = R4) (e : K.add M (K.neg N) = K.add (K.add (K.add (K.mul c1 (K.add L1 (K.neg R1))) (K.mul c2 (K.add L2 (K.neg R2)))) (K.mul c3 (K.add L3 (K.neg R3)))) (K.mul c4 (K.add L4 (K.neg R4)))) : M = N:=by
 apply iG (K:=K);rw [e,eE h1,eE h2,eE h3,eE h4,K.mul_zero,K.mul_zero,K.mul_zero,K.mul_zero,K.add_zero,K.add_zero,K.add_zero]
def op (K : CR A) (X Y x y : A) (S : A → Prop) : A → Prop:=fun z => ∃ s t,S s ∧ S t ∧ z = K.add (K.mul (K.sub X x) s) (K.mul (K.sub Y y) t)
structure Idl (K : CR A) (S : A → Prop) : Prop where
 add : ∀ a b,S a → S b → S (K.add a b)
 mul : ∀ a c,S a → S (K.mul c a)
theorem Idl.neg {S : A → Prop} (h : Idl K S) {a : A} (ha : S a) : S (K.neg a):=by
 have:=h.mul a (K.neg K.one) ha
 rwa [K.neg_mul,K.one_mul] at this
theorem Idl.sub {S : A → Prop} (h : Idl K S) {a b : A} (ha : S a) (hb : S b) : S (K.sub a b):=h.add _ _ ha (h.neg hb)
def Eqv (K : CR A) (S T : A → Prop) : Prop:=∃ a b,a ≠ K.zero ∧ b ≠ K.zero ∧ (∀ s,S s → ∃ t,T t ∧ K.mul a s = K.mul b t) ∧ (∀ t,T t → ∃ s,S s ∧ K.mul a s = K.mul b t)
def Dom (K : CR A) : Prop:=K.one ≠ K.zero ∧ ∀ a b,a ≠ K.zero → b ≠ K.zero → K.mul a b ≠ K.zero
theorem Eqv.refl (D : Dom K) (S : A → Prop) : Eqv K S S:=⟨K.one,K.one,D.1,D.1,fun s h => ⟨s,h,rfl⟩,fun s h => ⟨s,h,rfl⟩⟩
theorem Eqv.symm {S T : A → Prop} (h : Eqv K S T) : Eqv K T S:=by
 obtain ⟨a,b,ha,hb,h1,h2⟩:=h;exact ⟨b,a,hb,ha,fun t ht => by obtain ⟨s,hs,e⟩:=h2 t ht; exact ⟨s,hs,e.symm⟩,fun s hs => by obtain ⟨t,ht,e⟩:=h1 s hs; exact ⟨t,ht,e.symm⟩⟩
theorem Eqv.trans (D : Dom K) {S T U : A → Prop} (h : Eqv K S T) (g : Eqv K T U) : Eqv K S U:=by
 obtain ⟨a,b,ha,hb,h1,h2⟩:=h;obtain ⟨c,d,hc,hd,g1,g2⟩:=g;have key : ∀ s t u,K.mul a s = K.mul b t → K.mul c t = K.mul d u → K.mul (K.mul c a) s = K.mul (K.mul b d) u:=fun s t u e f => by
  rw [K.mul_assoc,e,K.mul_left_comm,f,K.mul_assoc]
 refine ⟨K.mul c a,K.mul b d,D.2 _ _ hc ha,D.2 _ _ hb hd,fun s hs => ?_,fun u hu => ?_⟩
 ·obtain ⟨t,ht,e⟩:=h1 s hs;obtain ⟨u,hu,f⟩:=g1 t ht;exact ⟨u,hu,key s t u e f⟩
 ·obtain ⟨t,ht,f⟩:=g2 u hu;obtain ⟨s,hs,e⟩:=h2 t ht;exact ⟨s,hs,key s t u e f⟩
variable {X Y : A}
theorem JD {x y al be s s2 t t2 : A} (e : K.mul al s = K.mul be t) (f : K.mul al s2 = K.mul be t2) : K.mul al (K.add (K.mul (K.sub X x) s) (K.mul (K.sub Y y) s2)) = K.mul be (K.add (K.mul (K.sub X x) t) (K.mul (K.sub Y y) t2)) :=
 pH (K:=K) (c1:=(K.sub X x)) (c2:=(K.sub Y y)) e f (aL K (cD K [al,X,x,s,Y,y,s2,be,t,t2]) (.add (.mul (.v 0) (.add (.mul (.add (.v 1) (.neg (.v 2))) (.v 3)) (.mul (.add (.v 4) (.neg (.v 5))) (.v 6)))) (.neg (.mul (.v 7) (.add (.mul (.add (.v 1) (.neg (.v 2))) (.v 8)) (.mul (.add (.v 4) (.neg (.v 5))) (.v 9)))))) (.add (.mul (.add (.v 1) (.neg (.v 2))) (.add (.mul (.v 0) (.v 3)) (.neg (.mul (.v 7) (.v 8))))) (.mul (.add (.v 4) (.neg (.v 5))) (.add (.mul (.v 0) (.v 6)) (.neg (.mul (.v 7) (.v 9)))))) (by kernel_rfl))
theorem Eqv.op {S T : A → Prop} (x y : A) (h : Eqv K S T) : Eqv K (op K X Y x y S) (op K X Y x y T):=by
 obtain ⟨a,b,ha,hb,h1,h2⟩:=h;refine ⟨a,b,ha,hb,?_,?_⟩
 ·rintro z ⟨s,s2,hs,hs2,rfl⟩
  obtain ⟨t,ht,e⟩:=h1 s hs;obtain ⟨t2,ht2,f⟩:=h1 s2 hs2;exact ⟨_,⟨t,t2,ht,ht2,rfl⟩,JD e f⟩
 ·rintro z ⟨t,t2,ht,ht2,rfl⟩
  obtain ⟨s,hs,e⟩:=h2 t ht;obtain ⟨s2,hs2,f⟩:=h2 t2 ht2;exact ⟨_,⟨s,s2,hs,hs2,rfl⟩,JD e f⟩
theorem JC {S : A → Prop} (x y x' y' : A) {z : A} (h : op K X Y x y (op K X Y x' y' S) z) : op K X Y x' y' (op K X Y x y S) z:=by
 obtain ⟨_,_,⟨a,bb,ha,hb,rfl⟩,⟨c,d,hc,hd,rfl⟩,rfl⟩:=h;exact ⟨_,_,⟨a,c,ha,hc,rfl⟩,⟨bb,d,hb,hd,rfl⟩,aL K (cD K [X,x,x',a,Y,y',bb,y,c,d]) (.add (.mul (.add (.v 0) (.neg (.v 1))) (.add (.mul (.add (.v 0) (.neg (.v 2))) (.v 3)) (.mul (.add (.v 4) (.neg (.v 5))) (.v 6)))) (.mul (.add (.v 4) (.neg (.v 7))) (.add (.mul (.add (.v 0) (.neg (.v 2))) (.v 8)) (.mul (.add (.v 4) (.neg (.v 5))) (.v 9))))) (.add (.mul (.add (.v 0) (.neg (.v 2))) (.add (.mul (.add (.v 0) (.neg (.v 1))) (.v 3)) (.mul (.add (.v 4) (.neg (.v 7))) (.v 8)))) (.mul (.add (.v 4) (.neg (.v 5))) (.add (.mul (.add (.v 0) (.neg (.v 1))) (.v 6)) (.mul (.add (.v 4) (.neg (.v 7))) (.v 9))))) (by kernel_rfl)⟩
theorem Re {S : A → Prop} (x y x' y' : A) : op K X Y x y (op K X Y x' y' S) = op K X Y x' y' (op K X Y x y S) :=
 funext fun z => propext ⟨JC x y x' y',JC x' y' x y⟩
theorem Gk {S : A → Prop} (h : Idl K S) (x y : A) : Idl K (op K X Y x y S) where
 add:=by
  rintro _ _ ⟨a,b,ha,hb,rfl⟩ ⟨c,d,hc,hd,rfl⟩
  exact ⟨_,_,h.add a c ha hc,h.add b d hb hd,aL K (cD K [X,x,a,Y,y,b,c,d]) (.add (.add (.mul (.add (.v 0) (.neg (.v 1))) (.v 2)) (.mul (.add (.v 3) (.neg (.v 4))) (.v 5))) (.add (.mul (.add (.v 0) (.neg (.v 1))) (.v 6)) (.mul (.add (.v 3) (.neg (.v 4))) (.v 7)))) (.add (.mul (.add (.v 0) (.neg (.v 1))) (.add (.v 2) (.v 6))) (.mul (.add (.v 3) (.neg (.v 4))) (.add (.v 5) (.v 7)))) (by kernel_rfl)⟩
 mul:=by
  rintro _ c ⟨a,b,ha,hb,rfl⟩
  exact ⟨_,_,h.mul a c ha,h.mul b c hb,aL K (cD K [c,X,x,a,Y,y,b]) (.mul (.v 0) (.add (.mul (.add (.v 1) (.neg (.v 2))) (.v 3)) (.mul (.add (.v 4) (.neg (.v 5))) (.v 6)))) (.add (.mul (.add (.v 1) (.neg (.v 2))) (.mul (.v 0) (.v 3))) (.mul (.add (.v 4) (.neg (.v 5))) (.mul (.v 0) (.v 6)))) (by kernel_rfl)⟩
theorem Zh {b x y k : A} (hY : K.mul Y Y = K.add (K.mul X (K.mul X X)) b) (hy : K.mul y y = K.add (K.mul x (K.mul x x)) b) (hk : K.mul k (K.add y y) = K.one) (D : Dom K) (hX : K.sub X x ≠ K.zero) {S : A → Prop} (h : Idl K S) : Eqv K (op K X Y x y (op K X Y x (K.neg y) S)) S:=by
 refine ⟨K.one,K.sub X x,D.1,hX,?_,?_⟩
 ·rintro _ ⟨_,_,⟨a,bb,ha,hb,rfl⟩,⟨c,d,hc,hd,rfl⟩,rfl⟩
  refine ⟨(K.add (K.add (K.add (K.mul (K.sub X x) a) (K.mul (K.sub Y (K.neg y)) bb)) (K.mul (K.sub Y y) c)) (K.mul (K.add (K.add (K.mul X X) (K.mul x X)) (K.mul x x)) d)),h.add _ _ (h.add _ _ (h.add _ _ (h.mul _ _ ha) (h.mul _ _ hb)) (h.mul _ _ hc)) (h.mul _ _ hd),?_⟩;rw [K.one_mul];exact pH (K:=K) (c1:=d) (c2:=(K.neg d)) hY hy (aL K (cD K [X,x,a,Y,y,bb,c,d,b]) (.add (.add (.mul (.add (.v 0) (.neg (.v 1))) (.add (.mul (.add (.v 0) (.neg (.v 1))) (.v 2)) (.mul (.add (.v 3) (.neg (.neg (.v 4)))) (.v 5)))) (.mul (.add (.v 3) (.neg (.v 4))) (.add (.mul (.add (.v 0) (.neg (.v 1))) (.v 6)) (.mul (.add (.v 3) (.neg (.neg (.v 4)))) (.v 7))))) (.neg (.mul (.add (.v 0) (.neg (.v 1))) (.add (.add (.add (.mul (.add (.v 0) (.neg (.v 1))) (.v 2)) (.mul (.add (.v 3) (.neg (.neg (.v 4)))) (.v 5))) (.mul (.add (.v 3) (.neg (.v 4))) (.v 6))) (.mul (.add (.add (.mul (.v 0) (.v 0)) (.mul (.v 1) (.v 0))) (.mul (.v 1) (.v 1))) (.v 7)))))) (.add (.mul (.v 7) (.add (.mul (.v 3) (.v 3)) (.neg (.add (.mul (.v 0) (.mul (.v 0) (.v 0))) (.v 8))))) (.mul (.neg (.v 7)) (.add (.mul (.v 4) (.v 4)) (.neg (.add (.mul (.v 1) (.mul (.v 1) (.v 1))) (.v 8)))))) (by kernel_rfl))
 ·intro t ht;refine ⟨_,⟨_,_,⟨_,_,h.mul t K.zero ht,h.mul t k ht,rfl⟩,⟨_,_,h.mul t (K.neg k) ht,h.mul t K.zero ht,rfl⟩,rfl⟩,?_⟩;rw [K.one_mul];exact nD (K:=K) (c1:=(K.mul (K.sub X x) t)) hk (aL K (cD K [X,x,t,Y,y,k]) (.add (.add (.mul (.add (.v 0) (.neg (.v 1))) (.add (.mul (.add (.v 0) (.neg (.v 1))) (.mul .zero (.v 2))) (.mul (.add (.v 3) (.neg (.neg (.v 4)))) (.mul (.v 5) (.v 2))))) (.mul (.add (.v 3) (.neg (.v 4))) (.add (.mul (.add (.v 0) (.neg (.v 1))) (.mul (.neg (.v 5)) (.v 2))) (.mul (.add (.v 3) (.neg (.neg (.v 4)))) (.mul .zero (.v 2)))))) (.neg (.mul (.add (.v 0) (.neg (.v 1))) (.v 2)))) (.mul (.mul (.add (.v 0) (.neg (.v 1))) (.v 2)) (.add (.mul (.v 5) (.add (.v 4) (.v 4))) (.neg .one))) (by kernel_rfl))
theorem An {b x1 y1 x2 l : A} (hY : K.mul Y Y = K.add (K.mul X (K.mul X X)) b) (H2 : (K.mul l (K.add y1 (K.add y1 (K.mul l (K.sub x2 x1))))) = (K.add (K.add (K.mul x1 x1) (K.mul x1 x2)) (K.mul x2 x2))) (H3 : (K.mul y1 y1) = (K.add (K.mul x1 (K.mul x1 x1)) b)) : (K.mul (K.sub X x1) (K.mul (K.sub X x2) (K.sub X (K.sub (K.sub (K.mul l l) x1) x2)))) = (K.mul (K.sub (K.sub Y y1) (K.mul l (K.sub X x1))) (K.add (K.sub Y (K.sub (K.mul l (K.sub x1 (K.sub (K.sub (K.mul l l) x1) x2))) y1)) (K.mul l (K.sub X (K.sub (K.sub (K.mul l l) x1) x2))))) :=
 Vx (K:=K) (c1:=(K.neg K.one)) (c2:=K.one) (c3:=(K.sub X x1)) hY H3 H2 (aL K (cD K [X,x1,x2,l,Y,y1,b]) (.add (.mul (.add (.v 0) (.neg (.v 1))) (.mul (.add (.v 0) (.neg (.v 2))) (.add (.v 0) (.neg (.add (.add (.mul (.v 3) (.v 3)) (.neg (.v 1))) (.neg (.v 2))))))) (.neg (.mul (.add (.add (.v 4) (.neg (.v 5))) (.neg (.mul (.v 3) (.add (.v 0) (.neg (.v 1)))))) (.add (.add (.v 4) (.neg (.add (.mul (.v 3) (.add (.v 1) (.neg (.add (.add (.mul (.v 3) (.v 3)) (.neg (.v 1))) (.neg (.v 2)))))) (.neg (.v 5))))) (.mul (.v 3) (.add (.v 0) (.neg (.add (.add (.mul (.v 3) (.v 3)) (.neg (.v 1))) (.neg (.v 2)))))))))) (.add (.add (.mul (.neg .one) (.add (.mul (.v 4) (.v 4)) (.neg (.add (.mul (.v 0) (.mul (.v 0) (.v 0))) (.v 6))))) (.mul .one (.add (.mul (.v 5) (.v 5)) (.neg (.add (.mul (.v 1) (.mul (.v 1) (.v 1))) (.v 6)))))) (.mul (.add (.v 0) (.neg (.v 1))) (.add (.mul (.v 3) (.add (.v 5) (.add (.v 5) (.mul (.v 3) (.add (.v 2) (.neg (.v 1))))))) (.neg (.add (.add (.mul (.v 1) (.v 1)) (.mul (.v 1) (.v 2))) (.mul (.v 2) (.v 2))))))) (by kernel_rfl))
theorem Zg {b x1 y1 x2 l : A} (hY : K.mul Y Y = K.add (K.mul X (K.mul X X)) b) (H2 : (K.mul l (K.add y1 (K.add y1 (K.mul l (K.sub x2 x1))))) = (K.add (K.add (K.mul x1 x1) (K.mul x1 x2)) (K.mul x2 x2))) (H3 : (K.mul y1 y1) = (K.add (K.mul x1 (K.mul x1 x1)) b)) (hk : (∃ k,K.mul k (K.add y1 (K.add y1 (K.mul l (K.sub x2 x1)))) = K.one) ∨ (∃ k,K.mul k (K.sub x2 x1) = K.one)) (hX : K.sub X (K.sub (K.sub (K.mul l l) x1) x2) ≠ K.zero) (hl : (K.sub (K.sub Y y1) (K.mul l (K.sub X x1))) ≠ K.zero) {S : A → Prop} (h : Idl K S) : Eqv K (op K X Y x1 y1 (op K X Y x2 (K.add y1 (K.mul l (K.sub x2 x1))) S)) (op K X Y (K.sub (K.sub (K.mul l l) x1) x2) (K.sub (K.mul l (K.sub x1 (K.sub (K.sub (K.mul l l) x1) x2))) y1) S):=by
 have HC:=An (X:=X) (Y:=Y) hY H2 H3;refine ⟨K.sub X (K.sub (K.sub (K.mul l l) x1) x2),(K.sub (K.sub Y y1) (K.mul l (K.sub X x1))),hX,hl,?_,?_⟩
 ·rintro _ ⟨_,_,⟨a,bb,ha,hb,rfl⟩,⟨c,d,hc,hd,rfl⟩,rfl⟩
  exact ⟨_,⟨(K.add (K.add (K.add (K.mul l a) (K.mul (K.add (K.sub X x1) (K.mul l l)) bb)) (K.mul (K.add (K.sub X x2) (K.mul l l)) c)) (K.mul (K.add (K.add (K.add (K.sub (K.sub Y y1) (K.mul l (K.sub X x1))) (K.mul l (K.sub X x1))) (K.mul l (K.sub X x2))) (K.mul l (K.mul l l))) d)),(K.add (K.add (K.add a (K.mul l bb)) (K.mul l c)) (K.mul (K.mul l l) d)),h.add _ _ (h.add _ _ (h.add _ _ (h.mul _ _ ha) (h.mul _ _ hb)) (h.mul _ _ hc)) (h.mul _ _ hd),h.add _ _ (h.add _ _ (h.add _ _ ha (h.mul _ _ hb)) (h.mul _ _ hc)) (h.mul _ _ hd),rfl⟩,nD (K:=K) (c1:=(K.add (K.add (K.add a (K.mul l bb)) (K.mul l c)) (K.mul (K.mul l l) d))) HC (aL K (cD K [X,l,x1,x2,a,Y,y1,bb,c,d]) (.add (.mul (.add (.v 0) (.neg (.add (.add (.mul (.v 1) (.v 1)) (.neg (.v 2))) (.neg (.v 3))))) (.add (.mul (.add (.v 0) (.neg (.v 2))) (.add (.mul (.add (.v 0) (.neg (.v 3))) (.v 4)) (.mul (.add (.v 5) (.neg (.add (.v 6) (.mul (.v 1) (.add (.v 3) (.neg (.v 2))))))) (.v 7)))) (.mul (.add (.v 5) (.neg (.v 6))) (.add (.mul (.add (.v 0) (.neg (.v 3))) (.v 8)) (.mul (.add (.v 5) (.neg (.add (.v 6) (.mul (.v 1) (.add (.v 3) (.neg (.v 2))))))) (.v 9)))))) (.neg (.mul (.add (.add (.v 5) (.neg (.v 6))) (.neg (.mul (.v 1) (.add (.v 0) (.neg (.v 2)))))) (.add (.mul (.add (.v 0) (.neg (.add (.add (.mul (.v 1) (.v 1)) (.neg (.v 2))) (.neg (.v 3))))) (.add (.add (.add (.mul (.v 1) (.v 4)) (.mul (.add (.add (.v 0) (.neg (.v 2))) (.mul (.v 1) (.v 1))) (.v 7))) (.mul (.add (.add (.v 0) (.neg (.v 3))) (.mul (.v 1) (.v 1))) (.v 8))) (.mul (.add (.add (.add (.add (.add (.v 5) (.neg (.v 6))) (.neg (.mul (.v 1) (.add (.v 0) (.neg (.v 2)))))) (.mul (.v 1) (.add (.v 0) (.neg (.v 2))))) (.mul (.v 1) (.add (.v 0) (.neg (.v 3))))) (.mul (.v 1) (.mul (.v 1) (.v 1)))) (.v 9)))) (.mul (.add (.v 5) (.neg (.add (.mul (.v 1) (.add (.v 2) (.neg (.add (.add (.mul (.v 1) (.v 1)) (.neg (.v 2))) (.neg (.v 3)))))) (.neg (.v 6))))) (.add (.add (.add (.v 4) (.mul (.v 1) (.v 7))) (.mul (.v 1) (.v 8))) (.mul (.mul (.v 1) (.v 1)) (.v 9)))))))) (.mul (.add (.add (.add (.v 4) (.mul (.v 1) (.v 7))) (.mul (.v 1) (.v 8))) (.mul (.mul (.v 1) (.v 1)) (.v 9))) (.add (.mul (.add (.v 0) (.neg (.v 2))) (.mul (.add (.v 0) (.neg (.v 3))) (.add (.v 0) (.neg (.add (.add (.mul (.v 1) (.v 1)) (.neg (.v 2))) (.neg (.v 3))))))) (.neg (.mul (.add (.add (.v 5) (.neg (.v 6))) (.neg (.mul (.v 1) (.add (.v 0) (.neg (.v 2)))))) (.add (.add (.v 5) (.neg (.add (.mul (.v 1) (.add (.v 2) (.neg (.add (.add (.mul (.v 1) (.v 1)) (.neg (.v 2))) (.neg (.v 3)))))) (.neg (.v 6))))) (.mul (.v 1) (.add (.v 0) (.neg (.add (.add (.mul (.v 1) (.v 1)) (.neg (.v 2))) (.neg (.v 3))))))))))) (by kernel_rfl))⟩
 ·rintro _ ⟨u,w,hu,hw,rfl⟩
  have hg : S (K.sub u (K.mul l w)):=h.sub hu (h.mul _ _ hw);have e0 : K.mul (K.sub (K.sub Y y1) (K.mul l (K.sub X x1))) (K.add (K.mul (K.sub X (K.sub (K.sub (K.mul l l) x1) x2)) u) (K.mul (K.sub Y (K.sub (K.mul l (K.sub x1 (K.sub (K.sub (K.mul l l) x1) x2))) y1)) w)) = K.mul (K.sub X (K.sub (K.sub (K.mul l l) x1) x2)) (K.add (K.mul (K.sub (K.sub Y y1) (K.mul l (K.sub X x1))) (K.sub u (K.mul l w))) (K.mul (K.sub X x1) (K.mul (K.sub X x2) w))) :=
   nD (K:=K) (c1:=(K.neg w)) HC (aL K (cD K [Y,y1,l,X,x1,x2,u,w]) (.add (.mul (.add (.add (.v 0) (.neg (.v 1))) (.neg (.mul (.v 2) (.add (.v 3) (.neg (.v 4)))))) (.add (.mul (.add (.v 3) (.neg (.add (.add (.mul (.v 2) (.v 2)) (.neg (.v 4))) (.neg (.v 5))))) (.v 6)) (.mul (.add (.v 0) (.neg (.add (.mul (.v 2) (.add (.v 4) (.neg (.add (.add (.mul (.v 2) (.v 2)) (.neg (.v 4))) (.neg (.v 5)))))) (.neg (.v 1))))) (.v 7)))) (.neg (.mul (.add (.v 3) (.neg (.add (.add (.mul (.v 2) (.v 2)) (.neg (.v 4))) (.neg (.v 5))))) (.add (.mul (.add (.add (.v 0) (.neg (.v 1))) (.neg (.mul (.v 2) (.add (.v 3) (.neg (.v 4)))))) (.add (.v 6) (.neg (.mul (.v 2) (.v 7))))) (.mul (.add (.v 3) (.neg (.v 4))) (.mul (.add (.v 3) (.neg (.v 5))) (.v 7))))))) (.mul (.neg (.v 7)) (.add (.mul (.add (.v 3) (.neg (.v 4))) (.mul (.add (.v 3) (.neg (.v 5))) (.add (.v 3) (.neg (.add (.add (.mul (.v 2) (.v 2)) (.neg (.v 4))) (.neg (.v 5))))))) (.neg (.mul (.add (.add (.v 0) (.neg (.v 1))) (.neg (.mul (.v 2) (.add (.v 3) (.neg (.v 4)))))) (.add (.add (.v 0) (.neg (.add (.mul (.v 2) (.add (.v 4) (.neg (.add (.add (.mul (.v 2) (.v 2)) (.neg (.v 4))) (.neg (.v 5)))))) (.neg (.v 1))))) (.mul (.v 2) (.add (.v 3) (.neg (.add (.add (.mul (.v 2) (.v 2)) (.neg (.v 4))) (.neg (.v 5))))))))))) (by kernel_rfl))
  generalize hge : (K.sub u (K.mul l w)) = g at hg e0;rw [e0]
  rcases hk with ⟨k,hk⟩ | ⟨k,hk⟩
  ·refine ⟨_,⟨_,_,⟨_,_,h.add _ _ (h.mul g (K.mul k (K.add (K.add X x1) x2)) hg) hw,h.mul g K.zero hg,rfl⟩,⟨_,_,h.mul g K.zero hg,h.mul g (K.neg k) hg,rfl⟩,rfl⟩,congrArg (K.mul _) ?_⟩;exact aDH (K:=K) (c1:=(K.mul (K.sub (K.sub Y y1) (K.mul l (K.sub X x1))) g)) (c2:=(K.neg (K.mul k g))) (c3:=(K.mul k g)) (c4:=(K.mul (K.mul k g) (K.sub X x1))) hk hY H3 H2 (aL K (cD K [X,x1,x2,k,g,w,Y,y1,l,b]) (.add (.add (.mul (.add (.v 0) (.neg (.v 1))) (.add (.mul (.add (.v 0) (.neg (.v 2))) (.add (.mul (.mul (.v 3) (.add (.add (.v 0) (.v 1)) (.v 2))) (.v 4)) (.v 5))) (.mul (.add (.v 6) (.neg (.add (.v 7) (.mul (.v 8) (.add (.v 2) (.neg (.v 1))))))) (.mul .zero (.v 4))))) (.mul (.add (.v 6) (.neg (.v 7))) (.add (.mul (.add (.v 0) (.neg (.v 2))) (.mul .zero (.v 4))) (.mul (.add (.v 6) (.neg (.add (.v 7) (.mul (.v 8) (.add (.v 2) (.neg (.v 1))))))) (.mul (.neg (.v 3)) (.v 4)))))) (.neg (.add (.mul (.add (.add (.v 6) (.neg (.v 7))) (.neg (.mul (.v 8) (.add (.v 0) (.neg (.v 1)))))) (.v 4)) (.mul (.add (.v 0) (.neg (.v 1))) (.mul (.add (.v 0) (.neg (.v 2))) (.v 5)))))) (.add (.add (.add (.mul (.mul (.add (.add (.v 6) (.neg (.v 7))) (.neg (.mul (.v 8) (.add (.v 0) (.neg (.v 1)))))) (.v 4)) (.add (.mul (.v 3) (.add (.v 7) (.add (.v 7) (.mul (.v 8) (.add (.v 2) (.neg (.v 1))))))) (.neg .one))) (.mul (.neg (.mul (.v 3) (.v 4))) (.add (.mul (.v 6) (.v 6)) (.neg (.add (.mul (.v 0) (.mul (.v 0) (.v 0))) (.v 9)))))) (.mul (.mul (.v 3) (.v 4)) (.add (.mul (.v 7) (.v 7)) (.neg (.add (.mul (.v 1) (.mul (.v 1) (.v 1))) (.v 9)))))) (.mul (.mul (.mul (.v 3) (.v 4)) (.add (.v 0) (.neg (.v 1)))) (.add (.mul (.v 8) (.add (.v 7) (.add (.v 7) (.mul (.v 8) (.add (.v 2) (.neg (.v 1))))))) (.neg (.add (.add (.mul (.v 1) (.v 1)) (.mul (.v 1) (.v 2))) (.mul (.v 2) (.v 2))))))) (by kernel_rfl))
  ·refine ⟨_,⟨_,_,⟨_,_,hw,h.mul g k hg,rfl⟩,⟨_,_,h.mul g (K.neg k) hg,h.mul g K.zero hg,rfl⟩,rfl⟩,congrArg (K.mul _) ?_⟩;exact nD (K:=K) (c1:=(K.mul (K.sub (K.sub Y y1) (K.mul l (K.sub X x1))) g)) hk (aL K (cD K [X,x1,x2,w,Y,y1,l,k,g]) (.add (.add (.mul (.add (.v 0) (.neg (.v 1))) (.add (.mul (.add (.v 0) (.neg (.v 2))) (.v 3)) (.mul (.add (.v 4) (.neg (.add (.v 5) (.mul (.v 6) (.add (.v 2) (.neg (.v 1))))))) (.mul (.v 7) (.v 8))))) (.mul (.add (.v 4) (.neg (.v 5))) (.add (.mul (.add (.v 0) (.neg (.v 2))) (.mul (.neg (.v 7)) (.v 8))) (.mul (.add (.v 4) (.neg (.add (.v 5) (.mul (.v 6) (.add (.v 2) (.neg (.v 1))))))) (.mul .zero (.v 8)))))) (.neg (.add (.mul (.add (.add (.v 4) (.neg (.v 5))) (.neg (.mul (.v 6) (.add (.v 0) (.neg (.v 1)))))) (.v 8)) (.mul (.add (.v 0) (.neg (.v 1))) (.mul (.add (.v 0) (.neg (.v 2))) (.v 3)))))) (.mul (.mul (.add (.add (.v 4) (.neg (.v 5))) (.neg (.mul (.v 6) (.add (.v 0) (.neg (.v 1)))))) (.v 8)) (.add (.mul (.v 7) (.add (.v 2) (.neg (.v 1)))) (.neg .one))) (by kernel_rfl))
end
end Go.Proofs.YtfnkbmlmgnadmaaGreat.Ex
