/- Pr09 -/
import Derived.Deep.DeepCutAuto
import Derived.Test.YtjjnbgoepbiojaaGreatPr08
import Derived.Test.YtjjnbgoepbiojaaGreatPr07
import Derived.Test.YtjjnbgoepbiojaaGreatPr04
import Derived.Test.YtjjnbgoepbiojaaGreatProg
set_option maxRecDepth 100000
set_option linter.unusedVariables false
set_option linter.unusedSimpArgs false
set_option linter.unnecessarySimpa false
noncomputable section
namespace Go.Proofs.YtjjnbgoepbiojaaGreat
open Go.Proofs.Tryz
open Go.RowKit
set_option maxHeartbeats 2000000 in
theorem wF (f:Int) (F:FC) (hf:FieldIs f F) (w:World):Calls prog 53 #[.int .i64 f] w fun e w'=>e=.returned (.agg #[.int .u64 F.s0,.int .u64 F.s1,.int .u64 F.s2,.int .u64 F.s3])∧Below w.heap.size w w':=by
 rcases hf with⟨rfl,rfl⟩|⟨rfl,rfl⟩
 ·go_enter func53,ntmps53
  go_wp2_with fail;refine bodyPost_ret (v:=.agg #[.int .u64 FP.s0,.int .u64 FP.s1,.int .u64 FP.s2,.int .u64 FP.s3]) (by simp[results,results53,go_sem,FP]) rfl ?_;refine⟨rfl,?_⟩
  repeat (first|exact Below.refl _ _|refine Below.drew ?_|refine Below.alloc ?_ (by first|(simp; done)|(simp; omega)) _|refine Below.setCell ?_ (by simp) _)
 ·go_enter func53,ntmps53
  go_wp2_with fail;refine bodyPost_ret (v:=.agg #[.int .u64 FR.s0,.int .u64 FR.s1,.int .u64 FR.s2,.int .u64 FR.s3]) (by simp[results,results53,go_sem,FR]) rfl ?_;refine⟨rfl,?_⟩
  repeat (first|exact Below.refl _ _|refine Below.drew ?_|refine Below.alloc ?_ (by first|(simp; done)|(simp; omega)) _|refine Below.setCell ?_ (by simp) _)
set_option maxHeartbeats 2000000 in
theorem sB (f:Int) (F:FC) (hf:FieldIs f F) (a0 a1 a2 a3 b0 b1 b2 b3:Nat) (ha:cK a0 a1 a2 a3) (hb:cK b0 b1 b2 b3) (w:World) :
  Calls prog 23 #[.int .i64 f,.agg #[.int .u64 a0,.int .u64 a1,.int .u64 a2,.int .u64 a3],.agg #[.int .u64 b0,.int .u64 b1,.int .u64 b2,.int .u64 b3]] w (eQ ((aD a0 a1 a2 a3+aD b0 b1 b2 b3)%F.M) w):=by
 have hpos:=hf.ok.pos;have h2M:=hf.ok.two
 go_enter func23,ntmps23
 go_wp2_with fail;have HM:=Lib.hid ((((Mem.nil w).new (w.heap.size) a0 a1 a2 a3 25 (by simp)).new (w.heap.size+1) b0 b1 b2 b3 25 (by simp)).new (w.heap.size+1+1) 0 0 0 0 25 (by simp))
 go_upto_region 1 with fail
 go_cut [7] (fun s7 wx=>∃gb s0 s1 s2 s3:Nat,s7=.pointer (some ⟨gb,0,none⟩)∧cK s0 s1 s2 s3∧Hid (aD s0 s1 s2 s3=aD a0 a1 a2 a3%F.M+aD b0 b1 b2 b3%F.M)∧Hid (Mem w wx [(gb,s0,s1,s2,s3),(w.heap.size+1+1,0,0,0,0)]))
 case first =>
  refine dJ (fun wx=>Mem w wx [(w.heap.size+1+1,0,0,0,0),(w.heap.size+1,b0,b1,b2,b3),(w.heap.size,a0,a1,a2,a3)]) 12 (by kernel_rfl) ?_;have HM':=Lib.hid (HM.out.drewN 1);clear HM;have HM:=HM';clear HM';have HS:=HM.out.sub (rs':=[(w.heap.size+1+1,0,0,0,0),(w.heap.size+1,b0,b1,b2,b3),(w.heap.size,a0,a1,a2,a3)]) (by simp);refine aL (i:=0) (v:=.int .i64 f) rfl (by kernel_rfl) (by kernel_rfl) (by kernel_rfl) (by kernel_rfl) (fun _ _ _ h=>h) HS (Or.inl ⟨by kernel_rfl,fun wx hx => ?_⟩) ?_
  ·clear HS hx;go_simp
  simp only[Act.put,List.setIfInBounds_toArray,List.set_cons_zero,List.set_cons_succ];refine aL (i:=1) (v:=.agg #[.int .u64 a0,.int .u64 a1,.int .u64 a2,.int .u64 a3]) rfl (by kernel_rfl) (by kernel_rfl) (by kernel_rfl) (by kernel_rfl) (fun _ _ _ h=>h) HS (Or.inl ⟨by kernel_rfl,fun wx hx => ?_⟩) ?_
  ·have kr:=hx.row (b:=w.heap.size) (c0:=a0) (c1:=a1) (c2:=a2) (c3:=a3) (by simp);have x0:=kr.c0; have x1:=kr.c1; have x2:=kr.c2; have x3:=kr.c3;clear kr HS hx;go_simp
  simp only[Act.put,List.setIfInBounds_toArray,List.set_cons_zero,List.set_cons_succ];refine aL (i:=3) (v:=.int .i64 f) rfl (by kernel_rfl) (by kernel_rfl) (by kernel_rfl) (by kernel_rfl) (fun _ _ _ h=>h) HS (Or.inl ⟨by kernel_rfl,fun wx hx => ?_⟩) ?_
  ·clear HS hx;go_simp
  simp only[Act.put,List.setIfInBounds_toArray,List.set_cons_zero,List.set_cons_succ];refine aL (i:=4) (v:=.agg #[.int .u64 b0,.int .u64 b1,.int .u64 b2,.int .u64 b3]) rfl (by kernel_rfl) (by kernel_rfl) (by kernel_rfl) (by kernel_rfl) (fun _ _ _ h=>h) HS (Or.inl ⟨by kernel_rfl,fun wx hx => ?_⟩) ?_
  ·have kr:=hx.row (b:=w.heap.size+1) (c0:=b0) (c1:=b1) (c2:=b2) (c3:=b3) (by simp);have x0:=kr.c0; have x1:=kr.c1; have x2:=kr.c2; have x3:=kr.c3;clear kr HS hx;go_simp
  simp only[Act.put,List.setIfInBounds_toArray,List.set_cons_zero,List.set_cons_succ];clear HS;refine kU (i:=2) (j:=10) (by kernel_rfl) rfl rfl (fun K hK => ?_) (fun K hK => ?_)
  ·go_simp;refine (dQ f F hf a0 a1 a2 a3 ha _).mono ?_
   rintro e v1 ⟨x0,x1,x2,x3,rfl,hx,hv,hbl⟩
   have HVx:=Lib.hid hv;clear hv;have HM':=Lib.hid (HM.out.on hbl);clear HM hbl;have HM:=HM';clear HM';have HS:=(HM.out.sub (rs':=[(w.heap.size+1+1,0,0,0,0),(w.heap.size+1,b0,b1,b2,b3),(w.heap.size,a0,a1,a2,a3)]) (by simp));refine hK.out _ _ (Or.inr HS) (fun _ => ?_);clear hK K HS;refine kU (i:=5) (j:=10) (by kernel_rfl) rfl rfl (fun K hK => ?_) (fun K hK => ?_)
   ·go_simp;refine (dQ f F hf b0 b1 b2 b3 hb _).mono ?_
    rintro e v2 ⟨y0,y1,y2,y3,rfl,hy,hv,hbl⟩
    have HVy:=Lib.hid hv;clear hv;have HM':=Lib.hid (HM.out.on hbl);clear HM hbl;have HM:=HM';clear HM';have HS:=(HM.out.sub (rs':=[(w.heap.size+1+1,0,0,0,0),(w.heap.size+1,b0,b1,b2,b3),(w.heap.size,a0,a1,a2,a3)]) (by simp));refine hK.out _ _ (Or.inr HS) (fun _ => ?_);clear hK K HS;refine kU (i:=6) (j:=10) (by kernel_rfl) rfl rfl (fun K hK => ?_) (fun K hK => ?_)
    ·go_simp;refine (gH x0 x1 x2 x3 y0 y1 y2 y3 hx hy _).mono ?_
     rintro e v3 ⟨s0,s1,s2,s3,cc,rfl,hs,hcc,hv,hbl⟩
     have HVs:=Lib.hid (show aD s0 s1 s2 s3=aD a0 a1 a2 a3%F.M+aD b0 b1 b2 b3%F.M by have:=Nat.mod_lt (aD a0 a1 a2 a3) hpos; have:=Nat.mod_lt (aD b0 b1 b2 b3) hpos; rw[HVx.out,HVy.out]at hv; omega);clear hv;have HM':=Lib.hid (HM.out.on hbl);clear HM hbl;have HM:=HM';clear HM';have HS:=(HM.out.sub (rs':=[(w.heap.size+1+1,0,0,0,0),(w.heap.size+1,b0,b1,b2,b3),(w.heap.size,a0,a1,a2,a3)]) (by simp));refine hK.out _ _ (Or.inr HS) (fun _ => ?_);clear hK K HS;have HS:=HM.out.sub (rs':=[(w.heap.size+1+1,0,0,0,0),(w.heap.size+1,b0,b1,b2,b3),(w.heap.size,a0,a1,a2,a3)]) (by simp);refine aL (i:=7) (v:=.tuple #[.agg #[.int .u64 s0,.int .u64 s1,.int .u64 s2,.int .u64 s3],.int .u64 (cc:Nat)]) rfl (by kernel_rfl) (by kernel_rfl) (by kernel_rfl) (by kernel_rfl) (fun _ _ _ h=>h) HS (Or.inl ⟨by kernel_rfl,fun wx hx => ?_⟩) ?_
     ·clear HS hx;go_simp
     simp only[Act.put,List.setIfInBounds_toArray,List.set_cons_zero,List.set_cons_succ];refine aL (i:=8) (v:=.agg #[.int .u64 s0,.int .u64 s1,.int .u64 s2,.int .u64 s3]) rfl (by kernel_rfl) (by kernel_rfl) (by kernel_rfl) (by kernel_rfl) (fun _ _ _ h=>h) HS (Or.inl ⟨by kernel_rfl,fun wx hx => ?_⟩) ?_
     ·clear HS hx;go_simp
     simp only[Act.put,List.setIfInBounds_toArray,List.set_cons_zero,List.set_cons_succ];refine aL (i:=9) (v:=.int .u64 (cc:Nat)) rfl (by kernel_rfl) (by kernel_rfl) (by kernel_rfl) (by kernel_rfl) (fun _ _ _ h=>h) HS (Or.inl ⟨by kernel_rfl,fun wx hx => ?_⟩) ?_
     ·clear HS hx;go_simp
     simp only[Act.put,List.setIfInBounds_toArray,List.set_cons_zero,List.set_cons_succ];clear HS;refine aM (i:=10) (by kernel_rfl) rfl (fun K hK => ?_);go_simp;have HM9:=HM;have HM':=Lib.hid (HM.out.new (v3.heap.size) 0 0 0 0 66 (by first|rfl|(simp; done)));have hga:w.heap.size+1+1<(v3.heap.size):=by first|exact HM.out.lt (b:=w.heap.size+1+1) (c0:=0) (c1:=0) (c2:=0) (c3:=0) (by simp)|simpa using HM.out.lt (b:=w.heap.size+1+1) (c0:=0) (c1:=0) (c2:=0) (c3:=0) (by simp)|(have:=HM.out.lt (b:=w.heap.size+1+1) (c0:=0) (c1:=0) (c2:=0) (c3:=0) (by simp); simp at this ⊢; omega)
     clear HM;have HM:=HM';clear HM';have HS:=(HM.out.sub (rs':=[(w.heap.size+1+1,0,0,0,0),(w.heap.size+1,b0,b1,b2,b3),(w.heap.size,a0,a1,a2,a3)]) (by simp));refine hK.out _ _ (Or.inr HS) (fun _ => ?_);clear hK K HS;have kr:=HM.out.row (b:=(v3.heap.size)) (c0:=0) (c1:=0) (c2:=0) (c3:=0) (by simp);have yl:=HM.out.lt (b:=(v3.heap.size)) (c0:=0) (c1:=0) (c2:=0) (c3:=0) (by simp);have y0:=kr.c0; have y1:=kr.c1; have y2:=kr.c2; have y3:=kr.c3; have yf:=kr.fr;clear kr;refine aM (i:=11) (by kernel_rfl) rfl (fun K hK => ?_);go_simp;have HM':=Lib.hid (HM9.out.new (v3.heap.size) s0 s1 s2 s3 66 (by first|rfl|(simp; done)));clear HM;have HM:=HM';clear HM';have HS:=(HM.out.sub (rs':=[(w.heap.size+1+1,0,0,0,0),(w.heap.size+1,b0,b1,b2,b3),(w.heap.size,a0,a1,a2,a3)]) (by simp));refine hK.out _ _ (Or.inr HS) (fun _ => ?_);clear hK K HS;refine aM (i:=12) (by kernel_rfl) rfl (fun K hK => ?_);go_simp;refine hK.out _ _ (Or.inl rfl) (fun _ => ?_);clear hK K;refine cW (by kernel_rfl) ?_;go_wp2_with fail
     go_meet
     exact⟨(v3.heap.size),s0,s1,s2,s3,rfl,hs,HVs,Lib.hid (HM.out.sub (by simp))⟩
    ·go_simp;have HM9:=HM;have HM':=Lib.hid (HM.out.new (v2.heap.size) 0 0 0 0 66 (by first|rfl|(simp; done)));have hga:w.heap.size+1+1<(v2.heap.size):=by first|exact HM.out.lt (b:=w.heap.size+1+1) (c0:=0) (c1:=0) (c2:=0) (c3:=0) (by simp)|simpa using HM.out.lt (b:=w.heap.size+1+1) (c0:=0) (c1:=0) (c2:=0) (c3:=0) (by simp)|(have:=HM.out.lt (b:=w.heap.size+1+1) (c0:=0) (c1:=0) (c2:=0) (c3:=0) (by simp); simp at this ⊢; omega)
     clear HM;have HM:=HM';clear HM';have HS:=(HM.out.sub (rs':=[(w.heap.size+1+1,0,0,0,0),(w.heap.size+1,b0,b1,b2,b3),(w.heap.size,a0,a1,a2,a3)]) (by simp));refine hK.out _ _ (Or.inr HS) (fun _ => ?_);clear hK K HS;refine aM (i:=6) (by kernel_rfl) rfl (fun K hK => ?_);go_simp;refine (gH x0 x1 x2 x3 y0 y1 y2 y3 hx hy _).mono ?_
     rintro e v3 ⟨s0,s1,s2,s3,cc,rfl,hs,hcc,hv,hbl⟩
     have HVs:=Lib.hid (show aD s0 s1 s2 s3=aD a0 a1 a2 a3%F.M+aD b0 b1 b2 b3%F.M by have:=Nat.mod_lt (aD a0 a1 a2 a3) hpos; have:=Nat.mod_lt (aD b0 b1 b2 b3) hpos; rw[HVx.out,HVy.out]at hv; omega);clear hv;have HM':=Lib.hid (HM.out.on hbl);clear HM hbl;have HM:=HM';clear HM';have HS:=(HM.out.sub (rs':=[(w.heap.size+1+1,0,0,0,0),(w.heap.size+1,b0,b1,b2,b3),(w.heap.size,a0,a1,a2,a3)]) (by simp));refine hK.out _ _ (Or.inr HS) (fun _ => ?_);clear hK K HS;have HS:=HM.out.sub (rs':=[(w.heap.size+1+1,0,0,0,0),(w.heap.size+1,b0,b1,b2,b3),(w.heap.size,a0,a1,a2,a3)]) (by simp);refine aL (i:=7) (v:=.tuple #[.agg #[.int .u64 s0,.int .u64 s1,.int .u64 s2,.int .u64 s3],.int .u64 (cc:Nat)]) rfl (by kernel_rfl) (by kernel_rfl) (by kernel_rfl) (by kernel_rfl) (fun _ _ _ h=>h) HS (Or.inl ⟨by kernel_rfl,fun wx hx => ?_⟩) ?_
     ·clear HS hx;go_simp
     simp only[Act.put,List.setIfInBounds_toArray,List.set_cons_zero,List.set_cons_succ];refine aL (i:=8) (v:=.agg #[.int .u64 s0,.int .u64 s1,.int .u64 s2,.int .u64 s3]) rfl (by kernel_rfl) (by kernel_rfl) (by kernel_rfl) (by kernel_rfl) (fun _ _ _ h=>h) HS (Or.inl ⟨by kernel_rfl,fun wx hx => ?_⟩) ?_
     ·clear HS hx;go_simp
     simp only[Act.put,List.setIfInBounds_toArray,List.set_cons_zero,List.set_cons_succ];refine aL (i:=9) (v:=.int .u64 (cc:Nat)) rfl (by kernel_rfl) (by kernel_rfl) (by kernel_rfl) (by kernel_rfl) (fun _ _ _ h=>h) HS (Or.inl ⟨by kernel_rfl,fun wx hx => ?_⟩) ?_
     ·clear HS hx;go_simp
     simp only[Act.put,List.setIfInBounds_toArray,List.set_cons_zero,List.set_cons_succ];clear HS;have kr:=HM.out.row (b:=(v2.heap.size)) (c0:=0) (c1:=0) (c2:=0) (c3:=0) (by simp);have yl:=HM.out.lt (b:=(v2.heap.size)) (c0:=0) (c1:=0) (c2:=0) (c3:=0) (by simp);have y0:=kr.c0; have y1:=kr.c1; have y2:=kr.c2; have y3:=kr.c3; have yf:=kr.fr;clear kr;refine aM (i:=11) (by kernel_rfl) rfl (fun K hK => ?_);go_simp;have HM':=Lib.hid (HM.out.put s0 s1 s2 s3 (by omega) (by intro r hr; simp at hr; rcases hr with rfl|rfl|rfl<;>simp<;>omega));clear HM;have HM:=HM';clear HM';have HS:=(HM.out.sub (rs':=[(w.heap.size+1+1,0,0,0,0),(w.heap.size+1,b0,b1,b2,b3),(w.heap.size,a0,a1,a2,a3)]) (by simp));refine hK.out _ _ (Or.inr HS) (fun _ => ?_);clear hK K HS;refine aM (i:=12) (by kernel_rfl) rfl (fun K hK => ?_);go_simp;refine hK.out _ _ (Or.inl rfl) (fun _ => ?_);clear hK K;refine cW (by kernel_rfl) ?_;go_wp2_with fail
     go_meet
     exact⟨(v2.heap.size),s0,s1,s2,s3,rfl,hs,HVs,Lib.hid (HM.out.sub (by simp))⟩
   ·go_simp;have HM9:=HM;have HM':=Lib.hid (HM.out.new (v1.heap.size) 0 0 0 0 66 (by first|rfl|(simp; done)));have hga:w.heap.size+1+1<(v1.heap.size):=by first|exact HM.out.lt (b:=w.heap.size+1+1) (c0:=0) (c1:=0) (c2:=0) (c3:=0) (by simp)|simpa using HM.out.lt (b:=w.heap.size+1+1) (c0:=0) (c1:=0) (c2:=0) (c3:=0) (by simp)|(have:=HM.out.lt (b:=w.heap.size+1+1) (c0:=0) (c1:=0) (c2:=0) (c3:=0) (by simp); simp at this ⊢; omega)
    clear HM;have HM:=HM';clear HM';have HS:=(HM.out.sub (rs':=[(w.heap.size+1+1,0,0,0,0),(w.heap.size+1,b0,b1,b2,b3),(w.heap.size,a0,a1,a2,a3)]) (by simp));refine hK.out _ _ (Or.inr HS) (fun _ => ?_);clear hK K HS;refine aM (i:=5) (by kernel_rfl) rfl (fun K hK => ?_);go_simp;refine (dQ f F hf b0 b1 b2 b3 hb _).mono ?_
    rintro e v2 ⟨y0,y1,y2,y3,rfl,hy,hv,hbl⟩
    have HVy:=Lib.hid hv;clear hv;have HM':=Lib.hid (HM.out.on hbl);clear HM hbl;have HM:=HM';clear HM';have HS:=(HM.out.sub (rs':=[(w.heap.size+1+1,0,0,0,0),(w.heap.size+1,b0,b1,b2,b3),(w.heap.size,a0,a1,a2,a3)]) (by simp));refine hK.out _ _ (Or.inr HS) (fun _ => ?_);clear hK K HS;refine aM (i:=6) (by kernel_rfl) rfl (fun K hK => ?_);go_simp;refine (gH x0 x1 x2 x3 y0 y1 y2 y3 hx hy _).mono ?_
    rintro e v3 ⟨s0,s1,s2,s3,cc,rfl,hs,hcc,hv,hbl⟩
    have HVs:=Lib.hid (show aD s0 s1 s2 s3=aD a0 a1 a2 a3%F.M+aD b0 b1 b2 b3%F.M by have:=Nat.mod_lt (aD a0 a1 a2 a3) hpos; have:=Nat.mod_lt (aD b0 b1 b2 b3) hpos; rw[HVx.out,HVy.out]at hv; omega);clear hv;have HM':=Lib.hid (HM.out.on hbl);clear HM hbl;have HM:=HM';clear HM';have HS:=(HM.out.sub (rs':=[(w.heap.size+1+1,0,0,0,0),(w.heap.size+1,b0,b1,b2,b3),(w.heap.size,a0,a1,a2,a3)]) (by simp));refine hK.out _ _ (Or.inr HS) (fun _ => ?_);clear hK K HS;have HS:=HM.out.sub (rs':=[(w.heap.size+1+1,0,0,0,0),(w.heap.size+1,b0,b1,b2,b3),(w.heap.size,a0,a1,a2,a3)]) (by simp);refine aL (i:=7) (v:=.tuple #[.agg #[.int .u64 s0,.int .u64 s1,.int .u64 s2,.int .u64 s3],.int .u64 (cc:Nat)]) rfl (by kernel_rfl) (by kernel_rfl) (by kernel_rfl) (by kernel_rfl) (fun _ _ _ h=>h) HS (Or.inl ⟨by kernel_rfl,fun wx hx => ?_⟩) ?_
    ·clear HS hx;go_simp
    simp only[Act.put,List.setIfInBounds_toArray,List.set_cons_zero,List.set_cons_succ];refine aL (i:=8) (v:=.agg #[.int .u64 s0,.int .u64 s1,.int .u64 s2,.int .u64 s3]) rfl (by kernel_rfl) (by kernel_rfl) (by kernel_rfl) (by kernel_rfl) (fun _ _ _ h=>h) HS (Or.inl ⟨by kernel_rfl,fun wx hx => ?_⟩) ?_
    ·clear HS hx;go_simp
    simp only[Act.put,List.setIfInBounds_toArray,List.set_cons_zero,List.set_cons_succ];refine aL (i:=9) (v:=.int .u64 (cc:Nat)) rfl (by kernel_rfl) (by kernel_rfl) (by kernel_rfl) (by kernel_rfl) (fun _ _ _ h=>h) HS (Or.inl ⟨by kernel_rfl,fun wx hx => ?_⟩) ?_
    ·clear HS hx;go_simp
    simp only[Act.put,List.setIfInBounds_toArray,List.set_cons_zero,List.set_cons_succ];clear HS;have kr:=HM.out.row (b:=(v1.heap.size)) (c0:=0) (c1:=0) (c2:=0) (c3:=0) (by simp);have yl:=HM.out.lt (b:=(v1.heap.size)) (c0:=0) (c1:=0) (c2:=0) (c3:=0) (by simp);have y0:=kr.c0; have y1:=kr.c1; have y2:=kr.c2; have y3:=kr.c3; have yf:=kr.fr;clear kr;refine aM (i:=11) (by kernel_rfl) rfl (fun K hK => ?_);go_simp;have HM':=Lib.hid (HM.out.put s0 s1 s2 s3 (by omega) (by intro r hr; simp at hr; rcases hr with rfl|rfl|rfl<;>simp<;>omega));clear HM;have HM:=HM';clear HM';have HS:=(HM.out.sub (rs':=[(w.heap.size+1+1,0,0,0,0),(w.heap.size+1,b0,b1,b2,b3),(w.heap.size,a0,a1,a2,a3)]) (by simp));refine hK.out _ _ (Or.inr HS) (fun _ => ?_);clear hK K HS;refine aM (i:=12) (by kernel_rfl) rfl (fun K hK => ?_);go_simp;refine hK.out _ _ (Or.inl rfl) (fun _ => ?_);clear hK K;refine cW (by kernel_rfl) ?_;go_wp2_with fail
    go_meet
    exact⟨(v1.heap.size),s0,s1,s2,s3,rfl,hs,HVs,Lib.hid (HM.out.sub (by simp))⟩
  ·go_simp;have HM9:=HM;have HM':=Lib.hid (HM.out.new (w.heap.size+1+1+1) 0 0 0 0 66 (by first|rfl|(simp; done)));have hga:w.heap.size+1+1<(w.heap.size+1+1+1):=by first|exact HM.out.lt (b:=w.heap.size+1+1) (c0:=0) (c1:=0) (c2:=0) (c3:=0) (by simp)|simpa using HM.out.lt (b:=w.heap.size+1+1) (c0:=0) (c1:=0) (c2:=0) (c3:=0) (by simp)|(have:=HM.out.lt (b:=w.heap.size+1+1) (c0:=0) (c1:=0) (c2:=0) (c3:=0) (by simp); simp at this ⊢; omega)
   clear HM;have HM:=HM';clear HM';have HS:=(HM.out.sub (rs':=[(w.heap.size+1+1,0,0,0,0),(w.heap.size+1,b0,b1,b2,b3),(w.heap.size,a0,a1,a2,a3)]) (by simp));refine hK.out _ _ (Or.inr HS) (fun _ => ?_);clear hK K HS;refine aM (i:=2) (by kernel_rfl) rfl (fun K hK => ?_);go_simp;refine (dQ f F hf a0 a1 a2 a3 ha _).mono ?_
   rintro e v1 ⟨x0,x1,x2,x3,rfl,hx,hv,hbl⟩
   have HVx:=Lib.hid hv;clear hv;have HM':=Lib.hid (HM.out.on hbl);clear HM hbl;have HM:=HM';clear HM';have HS:=(HM.out.sub (rs':=[(w.heap.size+1+1,0,0,0,0),(w.heap.size+1,b0,b1,b2,b3),(w.heap.size,a0,a1,a2,a3)]) (by simp));refine hK.out _ _ (Or.inr HS) (fun _ => ?_);clear hK K HS;refine aM (i:=5) (by kernel_rfl) rfl (fun K hK => ?_);go_simp;refine (dQ f F hf b0 b1 b2 b3 hb _).mono ?_
   rintro e v2 ⟨y0,y1,y2,y3,rfl,hy,hv,hbl⟩
   have HVy:=Lib.hid hv;clear hv;have HM':=Lib.hid (HM.out.on hbl);clear HM hbl;have HM:=HM';clear HM';have HS:=(HM.out.sub (rs':=[(w.heap.size+1+1,0,0,0,0),(w.heap.size+1,b0,b1,b2,b3),(w.heap.size,a0,a1,a2,a3)]) (by simp));refine hK.out _ _ (Or.inr HS) (fun _ => ?_);clear hK K HS;refine aM (i:=6) (by kernel_rfl) rfl (fun K hK => ?_);go_simp;refine (gH x0 x1 x2 x3 y0 y1 y2 y3 hx hy _).mono ?_
   rintro e v3 ⟨s0,s1,s2,s3,cc,rfl,hs,hcc,hv,hbl⟩
   have HVs:=Lib.hid (show aD s0 s1 s2 s3=aD a0 a1 a2 a3%F.M+aD b0 b1 b2 b3%F.M by have:=Nat.mod_lt (aD a0 a1 a2 a3) hpos; have:=Nat.mod_lt (aD b0 b1 b2 b3) hpos; rw[HVx.out,HVy.out]at hv; omega);clear hv;have HM':=Lib.hid (HM.out.on hbl);clear HM hbl;have HM:=HM';clear HM';have HS:=(HM.out.sub (rs':=[(w.heap.size+1+1,0,0,0,0),(w.heap.size+1,b0,b1,b2,b3),(w.heap.size,a0,a1,a2,a3)]) (by simp));refine hK.out _ _ (Or.inr HS) (fun _ => ?_);clear hK K HS;have HS:=HM.out.sub (rs':=[(w.heap.size+1+1,0,0,0,0),(w.heap.size+1,b0,b1,b2,b3),(w.heap.size,a0,a1,a2,a3)]) (by simp);refine aL (i:=7) (v:=.tuple #[.agg #[.int .u64 s0,.int .u64 s1,.int .u64 s2,.int .u64 s3],.int .u64 (cc:Nat)]) rfl (by kernel_rfl) (by kernel_rfl) (by kernel_rfl) (by kernel_rfl) (fun _ _ _ h=>h) HS (Or.inl ⟨by kernel_rfl,fun wx hx => ?_⟩) ?_
   ·clear HS hx;go_simp
   simp only[Act.put,List.setIfInBounds_toArray,List.set_cons_zero,List.set_cons_succ];refine aL (i:=8) (v:=.agg #[.int .u64 s0,.int .u64 s1,.int .u64 s2,.int .u64 s3]) rfl (by kernel_rfl) (by kernel_rfl) (by kernel_rfl) (by kernel_rfl) (fun _ _ _ h=>h) HS (Or.inl ⟨by kernel_rfl,fun wx hx => ?_⟩) ?_
   ·clear HS hx;go_simp
   simp only[Act.put,List.setIfInBounds_toArray,List.set_cons_zero,List.set_cons_succ];refine aL (i:=9) (v:=.int .u64 (cc:Nat)) rfl (by kernel_rfl) (by kernel_rfl) (by kernel_rfl) (by kernel_rfl) (fun _ _ _ h=>h) HS (Or.inl ⟨by kernel_rfl,fun wx hx => ?_⟩) ?_
   ·clear HS hx;go_simp
   simp only[Act.put,List.setIfInBounds_toArray,List.set_cons_zero,List.set_cons_succ];clear HS;have kr:=HM.out.row (b:=(w.heap.size+1+1+1)) (c0:=0) (c1:=0) (c2:=0) (c3:=0) (by simp);have yl:=HM.out.lt (b:=(w.heap.size+1+1+1)) (c0:=0) (c1:=0) (c2:=0) (c3:=0) (by simp);have y0:=kr.c0; have y1:=kr.c1; have y2:=kr.c2; have y3:=kr.c3; have yf:=kr.fr;clear kr;refine aM (i:=11) (by kernel_rfl) rfl (fun K hK => ?_);go_simp;have HM':=Lib.hid (HM.out.put s0 s1 s2 s3 (by omega) (by intro r hr; simp at hr; rcases hr with rfl|rfl|rfl<;>simp<;>omega));clear HM;have HM:=HM';clear HM';have HS:=(HM.out.sub (rs':=[(w.heap.size+1+1,0,0,0,0),(w.heap.size+1,b0,b1,b2,b3),(w.heap.size,a0,a1,a2,a3)]) (by simp));refine hK.out _ _ (Or.inr HS) (fun _ => ?_);clear hK K HS;refine aM (i:=12) (by kernel_rfl) rfl (fun K hK => ?_);go_simp;refine hK.out _ _ (Or.inl rfl) (fun _ => ?_);clear hK K;refine cW (by kernel_rfl) ?_;go_wp2_with fail
   go_meet
   exact⟨(w.heap.size+1+1+1),s0,s1,s2,s3,rfl,hs,HVs,Lib.hid (HM.out.sub (by simp))⟩
 case rest =>
  obtain⟨gb,s0,s1,s2,s3,rfl,hs,HVs,HM'⟩:=hcut;clear HM;have HM:=HM';clear HM';have kr:=HM.out.row (b:=gb) (c0:=s0) (c1:=s1) (c2:=s2) (c3:=s3) (by simp);have x0:=kr.c0; have x1:=kr.c1; have x2:=kr.c2; have x3:=kr.c3;clear kr;have xl:=HM.out.lt (b:=gb) (c0:=s0) (c1:=s1) (c2:=s2) (c3:=s3) (by simp);go_wp2_with fail;refine (dQ f F hf s0 s1 s2 s3 hs _).mono ?_
  rintro e w5 ⟨r0,r1,r2,r3,rfl,hr,hv,hbl⟩
  have HVr:=Lib.hid (show aD r0 r1 r2 r3=(aD a0 a1 a2 a3+aD b0 b1 b2 b3)%F.M by rw[hv,HVs.out,←Nat.add_mod]);clear hv;have HM':=Lib.hid (HM.out.on hbl);clear HM hbl;have HM:=HM';clear HM';clear x0 x1 x2 x3 xl;have kr:=HM.out.row (b:=w.heap.size+1+1) (c0:=0) (c1:=0) (c2:=0) (c3:=0) (by simp);have y0:=kr.c0; have y1:=kr.c1; have y2:=kr.c2; have y3:=kr.c3; have yf:=kr.fr;clear kr;have yl:=HM.out.lt (b:=w.heap.size+1+1) (c0:=0) (c1:=0) (c2:=0) (c3:=0) (by simp);go_wp2_with fail;refine bodyPost_ret (v:=.agg #[.int .u64 r0,.int .u64 r1,.int .u64 r2,.int .u64 r3]) (by simp[results,results23,go_sem, *]) rfl ?_;refine⟨_,_,_,_,rfl,hr,HVr.out,?_⟩;exact bZ HM.out.1 (by omega) _ _ _ _
set_option maxHeartbeats 2000000 in
theorem rV (f:Int) (F:FC) (hf:FieldIs f F) (a0 a1 a2 a3:Nat) (ha:cK a0 a1 a2 a3) (w:World) :
  Calls prog 48 #[.int .i64 f,.agg #[.int .u64 a0,.int .u64 a1,.int .u64 a2,.int .u64 a3]] w (eQ ((F.M-aD a0 a1 a2 a3%F.M)%F.M) w):=by
 have hpos:=hf.ok.pos;have h2M:=hf.ok.two;have hG:=SW
 go_enter func48,ntmps48
 go_wp2_with fail;have HM:=Lib.hid (((Mem.nil w).new (w.heap.size) a0 a1 a2 a3 25 (by simp)).new (w.heap.size+1) 0 0 0 0 25 (by simp));refine (dQ f F hf a0 a1 a2 a3 ha _).mono ?_
 rintro e w1 ⟨x0,x1,x2,x3,rfl,hx,hv,hbl⟩
 have HVx:=Lib.hid hv;clear hv;have HM':=Lib.hid (HM.out.on hbl);clear HM hbl;have HM:=HM';clear HM';have hz1:w.heap.size+1<w1.heap.size:=HM.out.lt (b:=w.heap.size+1) (c0:=0) (c1:=0) (c2:=0) (c3:=0) (by simp);have HMo:=HM;have HM':=Lib.hid (HM.out.new w1.heap.size x0 x1 x2 x3 66 rfl);clear HM;have HM:=HM';clear HM'
 by_cases hz:aD a0 a1 a2 a3%F.M=0
 ·have hE:∀w,(Op.equalIn 10000 66 (.agg #[.int .u64 x0,.int .u64 x1,.int .u64 x2,.int .u64 x3]) (.agg #[.int .u64 0,.int .u64 0,.int .u64 0,.int .u64 0])).run prog w=.ok true w:=fun w=>by
   have h:=BE 9998 x0 x1 x2 x3 0 0 0 0 w;rw[(xT hx Mk).2 (HVx.out.trans (hz.trans rfl))]at h;exact h
  have HZ:=Lib.hid hz;clear hz;have kr:=HMo.out.row (b:=w.heap.size+1) (c0:=0) (c1:=0) (c2:=0) (c3:=0) (by simp);have y0:=kr.c0; have y1:=kr.c1; have y2:=kr.c2; have y3:=kr.c3; have yf:=kr.fr;clear kr;go_wp2_with fail;refine bodyPost_ret (v:=.agg #[.int .u64 0,.int .u64 0,.int .u64 0,.int .u64 0]) (by simp[results,results48,go_sem, *]) rfl ?_;refine⟨_,_,_,_,rfl,Mk,by rw[HZ.out,Nat.sub_zero,Nat.mod_self]; rfl,?_⟩
  repeat (first|exact HMo.out.1|refine Below.alloc ?_ (by first|(simp; done)|(simp; omega)) _|refine Below.setCell ?_ (by first|(simp; done)|(simp; omega)) _)
 ·have hE:∀w,(Op.equalIn 10000 66 (.agg #[.int .u64 x0,.int .u64 x1,.int .u64 x2,.int .u64 x3]) (.agg #[.int .u64 0,.int .u64 0,.int .u64 0,.int .u64 0])).run prog w=.ok false w:=fun w=>by
   have h:=BE 9998 x0 x1 x2 x3 0 0 0 0 w;rw[LO (fun q=>hz (HVx.out.symm.trans (((xT hx Mk).1 q).trans rfl)))]at h;exact h
  have HZ:=Lib.hid hz;clear hz HMo
  go_upto_region 4 with fail
  go_cut [6] (fun s6 wx=>∃gb s0 s1 s2 s3:Nat,s6=.pointer (some ⟨gb,0,none⟩)∧cK s0 s1 s2 s3∧Hid (aD s0 s1 s2 s3=F.M-aD a0 a1 a2 a3%F.M)∧Hid (Mem w wx [(gb,s0,s1,s2,s3),(w.heap.size+1,0,0,0,0)]))
  case first =>
   refine dJ (fun wx=>Mem w wx [(w1.heap.size,x0,x1,x2,x3),(w.heap.size+1,0,0,0,0),(w.heap.size,a0,a1,a2,a3)]) 9 (by kernel_rfl) ?_;have HM':=Lib.hid (HM.out.drewN 1);clear HM;have HM:=HM';clear HM';have HS:=HM.out.sub (rs':=[(w1.heap.size,x0,x1,x2,x3),(w.heap.size+1,0,0,0,0),(w.heap.size,a0,a1,a2,a3)]) (by simp);refine aL (i:=0) (v:=.int .i64 f) rfl (by kernel_rfl) (by kernel_rfl) (by kernel_rfl) (by kernel_rfl) (fun _ _ _ h=>h) HS (Or.inl ⟨by kernel_rfl,fun wx hx => ?_⟩) ?_
   ·clear HS hx;go_simp
   simp only[Act.put,List.setIfInBounds_toArray,List.set_cons_zero,List.set_cons_succ];refine aL (i:=2) (v:=.agg #[.int .u64 x0,.int .u64 x1,.int .u64 x2,.int .u64 x3]) rfl (by kernel_rfl) (by kernel_rfl) (by kernel_rfl) (by kernel_rfl) (fun _ _ _ h=>h) HS (Or.inl ⟨by kernel_rfl,fun wx hx => ?_⟩) ?_
   ·have kr:=hx.row (b:=w1.heap.size) (c0:=x0) (c1:=x1) (c2:=x2) (c3:=x3) (by simp);have x0:=kr.c0; have x1:=kr.c1; have x2:=kr.c2; have x3:=kr.c3;clear kr HS hx;go_simp
   simp only[Act.put,List.setIfInBounds_toArray,List.set_cons_zero,List.set_cons_succ];clear HS;refine kU (i:=1) (j:=7) (by kernel_rfl) rfl rfl (fun K hK => ?_) (fun K hK => ?_)
   ·go_simp;refine (jL f F hf _).mono ?_
    rintro e v1 ⟨rfl,hbl⟩
    have HM':=Lib.hid (HM.out.on hbl);clear HM hbl;have HM:=HM';clear HM';have HS:=(HM.out.sub (rs':=[(w1.heap.size,x0,x1,x2,x3),(w.heap.size+1,0,0,0,0),(w.heap.size,a0,a1,a2,a3)]) (by simp));refine hK.out _ _ (Or.inr HS) (fun _ => ?_);clear hK K HS;refine kU (i:=3) (j:=7) (by kernel_rfl) rfl rfl (fun K hK => ?_) (fun K hK => ?_)
    ·go_simp;refine (fT F.m0 F.m1 F.m2 F.m3 x0 x1 x2 x3 hf.ok.okm hx _).mono ?_
     rintro e v2 ⟨s0,s1,s2,s3,cc,rfl,hs,hcc,hv,hbl⟩
     have HVs:=Lib.hid (show aD s0 s1 s2 s3=F.M-aD a0 a1 a2 a3%F.M by have:=Nat.mod_lt (aD a0 a1 a2 a3) hpos; have:=dT hs; rw[HVx.out,show aD F.m0 F.m1 F.m2 F.m3=F.M from rfl]at hv; omega);clear hv;have HM':=Lib.hid (HM.out.on hbl);clear HM hbl;have HM:=HM';clear HM';have HS:=(HM.out.sub (rs':=[(w1.heap.size,x0,x1,x2,x3),(w.heap.size+1,0,0,0,0),(w.heap.size,a0,a1,a2,a3)]) (by simp));refine hK.out _ _ (Or.inr HS) (fun _ => ?_);clear hK K HS;have HS:=HM.out.sub (rs':=[(w1.heap.size,x0,x1,x2,x3),(w.heap.size+1,0,0,0,0),(w.heap.size,a0,a1,a2,a3)]) (by simp);refine aL (i:=4) (v:=.tuple #[.agg #[.int .u64 s0,.int .u64 s1,.int .u64 s2,.int .u64 s3],.int .u64 (cc:Nat)]) rfl (by kernel_rfl) (by kernel_rfl) (by kernel_rfl) (by kernel_rfl) (fun _ _ _ h=>h) HS (Or.inl ⟨by kernel_rfl,fun wx hx => ?_⟩) ?_
     ·clear HS hx;go_simp
     simp only[Act.put,List.setIfInBounds_toArray,List.set_cons_zero,List.set_cons_succ];refine aL (i:=5) (v:=.agg #[.int .u64 s0,.int .u64 s1,.int .u64 s2,.int .u64 s3]) rfl (by kernel_rfl) (by kernel_rfl) (by kernel_rfl) (by kernel_rfl) (fun _ _ _ h=>h) HS (Or.inl ⟨by kernel_rfl,fun wx hx => ?_⟩) ?_
     ·clear HS hx;go_simp
     simp only[Act.put,List.setIfInBounds_toArray,List.set_cons_zero,List.set_cons_succ];refine aL (i:=6) (v:=.int .u64 (cc:Nat)) rfl (by kernel_rfl) (by kernel_rfl) (by kernel_rfl) (by kernel_rfl) (fun _ _ _ h=>h) HS (Or.inl ⟨by kernel_rfl,fun wx hx => ?_⟩) ?_
     ·clear HS hx;go_simp
     simp only[Act.put,List.setIfInBounds_toArray,List.set_cons_zero,List.set_cons_succ];clear HS;refine aM (i:=7) (by kernel_rfl) rfl (fun K hK => ?_);go_simp;have HM9:=HM;have HM':=Lib.hid (HM.out.new (v2.heap.size) 0 0 0 0 66 (by first|rfl|(simp; done)));have hga:w1.heap.size<(v2.heap.size):=by first|exact HM.out.lt (b:=w1.heap.size) (c0:=x0) (c1:=x1) (c2:=x2) (c3:=x3) (by simp)|simpa using HM.out.lt (b:=w1.heap.size) (c0:=x0) (c1:=x1) (c2:=x2) (c3:=x3) (by simp)|(have:=HM.out.lt (b:=w1.heap.size) (c0:=x0) (c1:=x1) (c2:=x2) (c3:=x3) (by simp); simp at this ⊢; omega)
     clear HM;have HM:=HM';clear HM';have HS:=(HM.out.sub (rs':=[(w1.heap.size,x0,x1,x2,x3),(w.heap.size+1,0,0,0,0),(w.heap.size,a0,a1,a2,a3)]) (by simp));refine hK.out _ _ (Or.inr HS) (fun _ => ?_);clear hK K HS;have kr:=HM.out.row (b:=(v2.heap.size)) (c0:=0) (c1:=0) (c2:=0) (c3:=0) (by simp);have yl:=HM.out.lt (b:=(v2.heap.size)) (c0:=0) (c1:=0) (c2:=0) (c3:=0) (by simp);have y0:=kr.c0; have y1:=kr.c1; have y2:=kr.c2; have y3:=kr.c3; have yf:=kr.fr;clear kr;refine aM (i:=8) (by kernel_rfl) rfl (fun K hK => ?_);go_simp;have HM':=Lib.hid (HM9.out.new (v2.heap.size) s0 s1 s2 s3 66 (by first|rfl|(simp; done)));clear HM;have HM:=HM';clear HM';have HS:=(HM.out.sub (rs':=[(w1.heap.size,x0,x1,x2,x3),(w.heap.size+1,0,0,0,0),(w.heap.size,a0,a1,a2,a3)]) (by simp));refine hK.out _ _ (Or.inr HS) (fun _ => ?_);clear hK K HS;refine aM (i:=9) (by kernel_rfl) rfl (fun K hK => ?_);go_simp;refine hK.out _ _ (Or.inl rfl) (fun _ => ?_);clear hK K;refine cW (by kernel_rfl) ?_;go_wp2_with fail
     go_meet
     exact⟨(v2.heap.size),s0,s1,s2,s3,rfl,hs,HVs,Lib.hid (HM.out.sub (by simp))⟩
    ·go_simp;have HM9:=HM;have HM':=Lib.hid (HM.out.new (v1.heap.size) 0 0 0 0 66 (by first|rfl|(simp; done)));have hga:w1.heap.size<(v1.heap.size):=by first|exact HM.out.lt (b:=w1.heap.size) (c0:=x0) (c1:=x1) (c2:=x2) (c3:=x3) (by simp)|simpa using HM.out.lt (b:=w1.heap.size) (c0:=x0) (c1:=x1) (c2:=x2) (c3:=x3) (by simp)|(have:=HM.out.lt (b:=w1.heap.size) (c0:=x0) (c1:=x1) (c2:=x2) (c3:=x3) (by simp); simp at this ⊢; omega)
     clear HM;have HM:=HM';clear HM';have HS:=(HM.out.sub (rs':=[(w1.heap.size,x0,x1,x2,x3),(w.heap.size+1,0,0,0,0),(w.heap.size,a0,a1,a2,a3)]) (by simp));refine hK.out _ _ (Or.inr HS) (fun _ => ?_);clear hK K HS;refine aM (i:=3) (by kernel_rfl) rfl (fun K hK => ?_);go_simp;refine (fT F.m0 F.m1 F.m2 F.m3 x0 x1 x2 x3 hf.ok.okm hx _).mono ?_
     rintro e v2 ⟨s0,s1,s2,s3,cc,rfl,hs,hcc,hv,hbl⟩
     have HVs:=Lib.hid (show aD s0 s1 s2 s3=F.M-aD a0 a1 a2 a3%F.M by have:=Nat.mod_lt (aD a0 a1 a2 a3) hpos; have:=dT hs; rw[HVx.out,show aD F.m0 F.m1 F.m2 F.m3=F.M from rfl]at hv; omega);clear hv;have HM':=Lib.hid (HM.out.on hbl);clear HM hbl;have HM:=HM';clear HM';have HS:=(HM.out.sub (rs':=[(w1.heap.size,x0,x1,x2,x3),(w.heap.size+1,0,0,0,0),(w.heap.size,a0,a1,a2,a3)]) (by simp));refine hK.out _ _ (Or.inr HS) (fun _ => ?_);clear hK K HS;have HS:=HM.out.sub (rs':=[(w1.heap.size,x0,x1,x2,x3),(w.heap.size+1,0,0,0,0),(w.heap.size,a0,a1,a2,a3)]) (by simp);refine aL (i:=4) (v:=.tuple #[.agg #[.int .u64 s0,.int .u64 s1,.int .u64 s2,.int .u64 s3],.int .u64 (cc:Nat)]) rfl (by kernel_rfl) (by kernel_rfl) (by kernel_rfl) (by kernel_rfl) (fun _ _ _ h=>h) HS (Or.inl ⟨by kernel_rfl,fun wx hx => ?_⟩) ?_
     ·clear HS hx;go_simp
     simp only[Act.put,List.setIfInBounds_toArray,List.set_cons_zero,List.set_cons_succ];refine aL (i:=5) (v:=.agg #[.int .u64 s0,.int .u64 s1,.int .u64 s2,.int .u64 s3]) rfl (by kernel_rfl) (by kernel_rfl) (by kernel_rfl) (by kernel_rfl) (fun _ _ _ h=>h) HS (Or.inl ⟨by kernel_rfl,fun wx hx => ?_⟩) ?_
     ·clear HS hx;go_simp
     simp only[Act.put,List.setIfInBounds_toArray,List.set_cons_zero,List.set_cons_succ];refine aL (i:=6) (v:=.int .u64 (cc:Nat)) rfl (by kernel_rfl) (by kernel_rfl) (by kernel_rfl) (by kernel_rfl) (fun _ _ _ h=>h) HS (Or.inl ⟨by kernel_rfl,fun wx hx => ?_⟩) ?_
     ·clear HS hx;go_simp
     simp only[Act.put,List.setIfInBounds_toArray,List.set_cons_zero,List.set_cons_succ];clear HS;have kr:=HM.out.row (b:=(v1.heap.size)) (c0:=0) (c1:=0) (c2:=0) (c3:=0) (by simp);have yl:=HM.out.lt (b:=(v1.heap.size)) (c0:=0) (c1:=0) (c2:=0) (c3:=0) (by simp);have y0:=kr.c0; have y1:=kr.c1; have y2:=kr.c2; have y3:=kr.c3; have yf:=kr.fr;clear kr;refine aM (i:=8) (by kernel_rfl) rfl (fun K hK => ?_);go_simp;have HM':=Lib.hid (HM.out.put s0 s1 s2 s3 (by omega) (by intro r hr; simp at hr; rcases hr with rfl|rfl|rfl<;>simp<;>omega));clear HM;have HM:=HM';clear HM';have HS:=(HM.out.sub (rs':=[(w1.heap.size,x0,x1,x2,x3),(w.heap.size+1,0,0,0,0),(w.heap.size,a0,a1,a2,a3)]) (by simp));refine hK.out _ _ (Or.inr HS) (fun _ => ?_);clear hK K HS;refine aM (i:=9) (by kernel_rfl) rfl (fun K hK => ?_);go_simp;refine hK.out _ _ (Or.inl rfl) (fun _ => ?_);clear hK K;refine cW (by kernel_rfl) ?_;go_wp2_with fail
     go_meet
     exact⟨(v1.heap.size),s0,s1,s2,s3,rfl,hs,HVs,Lib.hid (HM.out.sub (by simp))⟩
   ·go_simp;have HM9:=HM;have HM':=Lib.hid (HM.out.new (w1.heap.size+1) 0 0 0 0 66 (by first|rfl|(simp; done)));have hga:w1.heap.size<(w1.heap.size+1):=by first|exact HM.out.lt (b:=w1.heap.size) (c0:=x0) (c1:=x1) (c2:=x2) (c3:=x3) (by simp)|simpa using HM.out.lt (b:=w1.heap.size) (c0:=x0) (c1:=x1) (c2:=x2) (c3:=x3) (by simp)|(have:=HM.out.lt (b:=w1.heap.size) (c0:=x0) (c1:=x1) (c2:=x2) (c3:=x3) (by simp); simp at this ⊢; omega)
    clear HM;have HM:=HM';clear HM';have HS:=(HM.out.sub (rs':=[(w1.heap.size,x0,x1,x2,x3),(w.heap.size+1,0,0,0,0),(w.heap.size,a0,a1,a2,a3)]) (by simp));refine hK.out _ _ (Or.inr HS) (fun _ => ?_);clear hK K HS;refine aM (i:=1) (by kernel_rfl) rfl (fun K hK => ?_);go_simp;refine (jL f F hf _).mono ?_
    rintro e v1 ⟨rfl,hbl⟩
    have HM':=Lib.hid (HM.out.on hbl);clear HM hbl;have HM:=HM';clear HM';have HS:=(HM.out.sub (rs':=[(w1.heap.size,x0,x1,x2,x3),(w.heap.size+1,0,0,0,0),(w.heap.size,a0,a1,a2,a3)]) (by simp));refine hK.out _ _ (Or.inr HS) (fun _ => ?_);clear hK K HS;refine aM (i:=3) (by kernel_rfl) rfl (fun K hK => ?_);go_simp;refine (fT F.m0 F.m1 F.m2 F.m3 x0 x1 x2 x3 hf.ok.okm hx _).mono ?_
    rintro e v2 ⟨s0,s1,s2,s3,cc,rfl,hs,hcc,hv,hbl⟩
    have HVs:=Lib.hid (show aD s0 s1 s2 s3=F.M-aD a0 a1 a2 a3%F.M by have:=Nat.mod_lt (aD a0 a1 a2 a3) hpos; have:=dT hs; rw[HVx.out,show aD F.m0 F.m1 F.m2 F.m3=F.M from rfl]at hv; omega);clear hv;have HM':=Lib.hid (HM.out.on hbl);clear HM hbl;have HM:=HM';clear HM';have HS:=(HM.out.sub (rs':=[(w1.heap.size,x0,x1,x2,x3),(w.heap.size+1,0,0,0,0),(w.heap.size,a0,a1,a2,a3)]) (by simp));refine hK.out _ _ (Or.inr HS) (fun _ => ?_);clear hK K HS;have HS:=HM.out.sub (rs':=[(w1.heap.size,x0,x1,x2,x3),(w.heap.size+1,0,0,0,0),(w.heap.size,a0,a1,a2,a3)]) (by simp);refine aL (i:=4) (v:=.tuple #[.agg #[.int .u64 s0,.int .u64 s1,.int .u64 s2,.int .u64 s3],.int .u64 (cc:Nat)]) rfl (by kernel_rfl) (by kernel_rfl) (by kernel_rfl) (by kernel_rfl) (fun _ _ _ h=>h) HS (Or.inl ⟨by kernel_rfl,fun wx hx => ?_⟩) ?_
    ·clear HS hx;go_simp
    simp only[Act.put,List.setIfInBounds_toArray,List.set_cons_zero,List.set_cons_succ];refine aL (i:=5) (v:=.agg #[.int .u64 s0,.int .u64 s1,.int .u64 s2,.int .u64 s3]) rfl (by kernel_rfl) (by kernel_rfl) (by kernel_rfl) (by kernel_rfl) (fun _ _ _ h=>h) HS (Or.inl ⟨by kernel_rfl,fun wx hx => ?_⟩) ?_
    ·clear HS hx;go_simp
    simp only[Act.put,List.setIfInBounds_toArray,List.set_cons_zero,List.set_cons_succ];refine aL (i:=6) (v:=.int .u64 (cc:Nat)) rfl (by kernel_rfl) (by kernel_rfl) (by kernel_rfl) (by kernel_rfl) (fun _ _ _ h=>h) HS (Or.inl ⟨by kernel_rfl,fun wx hx => ?_⟩) ?_
    ·clear HS hx;go_simp
    simp only[Act.put,List.setIfInBounds_toArray,List.set_cons_zero,List.set_cons_succ];clear HS;have kr:=HM.out.row (b:=(w1.heap.size+1)) (c0:=0) (c1:=0) (c2:=0) (c3:=0) (by simp);have yl:=HM.out.lt (b:=(w1.heap.size+1)) (c0:=0) (c1:=0) (c2:=0) (c3:=0) (by simp);have y0:=kr.c0; have y1:=kr.c1; have y2:=kr.c2; have y3:=kr.c3; have yf:=kr.fr;clear kr;refine aM (i:=8) (by kernel_rfl) rfl (fun K hK => ?_);go_simp;have HM':=Lib.hid (HM.out.put s0 s1 s2 s3 (by omega) (by intro r hr; simp at hr; rcases hr with rfl|rfl|rfl<;>simp<;>omega));clear HM;have HM:=HM';clear HM';have HS:=(HM.out.sub (rs':=[(w1.heap.size,x0,x1,x2,x3),(w.heap.size+1,0,0,0,0),(w.heap.size,a0,a1,a2,a3)]) (by simp));refine hK.out _ _ (Or.inr HS) (fun _ => ?_);clear hK K HS;refine aM (i:=9) (by kernel_rfl) rfl (fun K hK => ?_);go_simp;refine hK.out _ _ (Or.inl rfl) (fun _ => ?_);clear hK K;refine cW (by kernel_rfl) ?_;go_wp2_with fail
    go_meet
    exact⟨(w1.heap.size+1),s0,s1,s2,s3,rfl,hs,HVs,Lib.hid (HM.out.sub (by simp))⟩
  case rest =>
   obtain⟨gb,s0,s1,s2,s3,rfl,hs,HVs,HM'⟩:=hcut;clear HM;have HM:=HM';clear HM';have kr:=HM.out.row (b:=gb) (c0:=s0) (c1:=s1) (c2:=s2) (c3:=s3) (by simp);have x0:=kr.c0; have x1:=kr.c1; have x2:=kr.c2; have x3:=kr.c3;clear kr;have xl:=HM.out.lt (b:=gb) (c0:=s0) (c1:=s1) (c2:=s2) (c3:=s3) (by simp);have kr:=HM.out.row (b:=w.heap.size+1) (c0:=0) (c1:=0) (c2:=0) (c3:=0) (by simp);have y0:=kr.c0; have y1:=kr.c1; have y2:=kr.c2; have y3:=kr.c3; have yf:=kr.fr;clear kr;have yl:=HM.out.lt (b:=w.heap.size+1) (c0:=0) (c1:=0) (c2:=0) (c3:=0) (by simp);go_wp2_with fail;refine bodyPost_ret (v:=.agg #[.int .u64 s0,.int .u64 s1,.int .u64 s2,.int .u64 s3]) (by simp[results,results48,go_sem, *]) rfl ?_;refine⟨_,_,_,_,rfl,hs,by rw[HVs.out,Nat.mod_eq_of_lt (Nat.sub_lt hpos (Nat.pos_of_ne_zero HZ.out))],?_⟩;exact bZ HM.out.1 (by omega) _ _ _ _
set_option maxHeartbeats 2000000 in
theorem DH (f:Int) (F:FC) (hf:FieldIs f F) (a0 a1 a2 a3 b0 b1 b2 b3:Nat) (ha:cK a0 a1 a2 a3) (hb:cK b0 b1 b2 b3) (w:World) :
  Calls prog 27 #[.int .i64 f,.agg #[.int .u64 a0,.int .u64 a1,.int .u64 a2,.int .u64 a3],.agg #[.int .u64 b0,.int .u64 b1,.int .u64 b2,.int .u64 b3]] w (eQ ((aD a0 a1 a2 a3+(F.M-aD b0 b1 b2 b3%F.M))%F.M) w):=by
 go_enter func27,ntmps27
 go_wp2_with fail;have HM:=Lib.hid ((((Mem.nil w).new (w.heap.size) a0 a1 a2 a3 25 (by simp)).new (w.heap.size+1) b0 b1 b2 b3 25 (by simp)).new (w.heap.size+1+1) 0 0 0 0 25 (by simp));refine dJ (fun wx=>Mem w wx [(w.heap.size+1,b0,b1,b2,b3),(w.heap.size,a0,a1,a2,a3)]) 6 (by kernel_rfl) ?_;have HM':=Lib.hid (HM.out.drewN 1);clear HM;have HM:=HM';clear HM';have HS:=HM.out.sub (rs':=[(w.heap.size+1,b0,b1,b2,b3),(w.heap.size,a0,a1,a2,a3)]) (by simp);refine aL (i:=0) (v:=.int .i64 f) rfl (by kernel_rfl) (by kernel_rfl) (by kernel_rfl) (by kernel_rfl) (fun _ _ _ h=>h) HS (Or.inl ⟨by kernel_rfl,fun wx hx => ?_⟩) ?_
 ·clear HS hx;go_simp
 simp only[Act.put,List.setIfInBounds_toArray,List.set_cons_zero,List.set_cons_succ];refine aL (i:=1) (v:=.agg #[.int .u64 a0,.int .u64 a1,.int .u64 a2,.int .u64 a3]) rfl (by kernel_rfl) (by kernel_rfl) (by kernel_rfl) (by kernel_rfl) (fun _ _ _ h=>h) HS (Or.inl ⟨by kernel_rfl,fun wx hx => ?_⟩) ?_
 ·have kr:=hx.row (b:=w.heap.size) (c0:=a0) (c1:=a1) (c2:=a2) (c3:=a3) (by simp);have x0:=kr.c0; have x1:=kr.c1; have x2:=kr.c2; have x3:=kr.c3;clear kr HS hx;go_simp
 simp only[Act.put,List.setIfInBounds_toArray,List.set_cons_zero,List.set_cons_succ];refine aL (i:=2) (v:=.int .i64 f) rfl (by kernel_rfl) (by kernel_rfl) (by kernel_rfl) (by kernel_rfl) (fun _ _ _ h=>h) HS (Or.inl ⟨by kernel_rfl,fun wx hx => ?_⟩) ?_
 ·clear HS hx;go_simp
 simp only[Act.put,List.setIfInBounds_toArray,List.set_cons_zero,List.set_cons_succ];refine aL (i:=3) (v:=.agg #[.int .u64 b0,.int .u64 b1,.int .u64 b2,.int .u64 b3]) rfl (by kernel_rfl) (by kernel_rfl) (by kernel_rfl) (by kernel_rfl) (fun _ _ _ h=>h) HS (Or.inl ⟨by kernel_rfl,fun wx hx => ?_⟩) ?_
 ·have kr:=hx.row (b:=w.heap.size+1) (c0:=b0) (c1:=b1) (c2:=b2) (c3:=b3) (by simp);have x0:=kr.c0; have x1:=kr.c1; have x2:=kr.c2; have x3:=kr.c3;clear kr HS hx;go_simp
 simp only[Act.put,List.setIfInBounds_toArray,List.set_cons_zero,List.set_cons_succ];clear HS;refine aM (i:=4) (by kernel_rfl) rfl (fun K hK => ?_);go_simp;refine (rV f F hf b0 b1 b2 b3 hb _).mono ?_
 rintro e w1 ⟨n0,n1,n2,n3,rfl,hn,hv,hbl⟩
 have HVn:=Lib.hid hv;clear hv;have HM':=Lib.hid (HM.out.on hbl);clear HM hbl;have HM:=HM';clear HM';have HS:=HM.out.sub (rs':=[(w.heap.size+1,b0,b1,b2,b3),(w.heap.size,a0,a1,a2,a3)]) (by simp);refine hK.out _ _ (Or.inr HS) (fun _ => ?_);clear hK K;clear HS;refine aM (i:=5) (by kernel_rfl) rfl (fun K hK => ?_);go_simp;refine (sB f F hf a0 a1 a2 a3 n0 n1 n2 n3 ha hn _).mono ?_
 rintro e w2 ⟨s0,s1,s2,s3,rfl,hs,hv,hbl⟩
 have HVs:=Lib.hid (show aD s0 s1 s2 s3=(aD a0 a1 a2 a3+(F.M-aD b0 b1 b2 b3%F.M))%F.M by rw[hv,HVn.out,Nat.add_mod_mod]);clear hv;have HM':=Lib.hid (HM.out.on hbl);clear HM hbl;have HM:=HM';clear HM';have HS:=HM.out.sub (rs':=[(w.heap.size+1,b0,b1,b2,b3),(w.heap.size,a0,a1,a2,a3)]) (by simp);refine hK.out _ _ (Or.inr HS) (fun _ => ?_);clear hK K;clear HS;have kr:=HM.out.row (b:=w.heap.size+1+1) (c0:=0) (c1:=0) (c2:=0) (c3:=0) (by simp);have y0:=kr.c0; have y1:=kr.c1; have y2:=kr.c2; have y3:=kr.c3; have yf:=kr.fr;clear kr;have yl:=HM.out.lt (b:=w.heap.size+1+1) (c0:=0) (c1:=0) (c2:=0) (c3:=0) (by simp);refine aM (i:=6) (by kernel_rfl) rfl (fun K hK => ?_);go_simp;have HM':=Lib.hid ((HM.out.sub (rs':=[(w.heap.size+1+1,0,0,0,0),(w.heap.size+1,b0,b1,b2,b3),(w.heap.size,a0,a1,a2,a3)]) (by simp)).put s0 s1 s2 s3 (by omega) (by intro r hr; simp at hr; rcases hr with rfl|rfl<;>simp<;>omega));clear HM;have HM:=HM';clear HM';refine hK.out _ _ (Or.inl rfl) (fun _ => ?_);clear hK K;refine cW (by kernel_rfl) ?_;go_wp2_with fail;refine bodyPost_ret (v:=.agg #[.int .u64 s0,.int .u64 s1,.int .u64 s2,.int .u64 s3]) (by simp[results,results27,go_sem, *]) rfl ?_;exact⟨_,_,_,_,rfl,hs,HVs.out,HM.out.1⟩
theorem OP {F:FC} (hF:F.Ok) (A B:Nat):A%F.M*(B%F.M)*F.Ri%F.M*aD F.s0 F.s1 F.s2 F.s3*F.Ri%F.M=A*B%F.M:=by
 rw[IG hF];unfold kp;have h:A%F.M*(B%F.M)*F.Ri%F.M*F.R%F.M=A*B*F.R*F.Ri%F.M:=by
  have e:A%F.M*(B%F.M)*F.Ri%F.M*F.R%F.M=A*B*F.Ri*F.R%F.M:=jF ((lU _ _).trans (jF (jF (lU _ _) (lU _ _)) rfl)) rfl;rw[e,Nat.mul_right_comm]
 rw[h,iB hF]
set_option maxHeartbeats 2000000 in
theorem DK (f:Int) (F:FC) (hf:FieldIs f F) (a0 a1 a2 a3 b0 b1 b2 b3:Nat) (ha:cK a0 a1 a2 a3) (hb:cK b0 b1 b2 b3) (w:World) :
  Calls prog 33 #[.int .i64 f,.agg #[.int .u64 a0,.int .u64 a1,.int .u64 a2,.int .u64 a3],.agg #[.int .u64 b0,.int .u64 b1,.int .u64 b2,.int .u64 b3]] w (eQ (aD a0 a1 a2 a3*aD b0 b1 b2 b3%F.M) w):=by
 have hpos:=hf.ok.pos
 go_enter func33,ntmps33
 go_wp2_with fail;have HM:=Lib.hid ((((Mem.nil w).new (w.heap.size) a0 a1 a2 a3 25 (by simp)).new (w.heap.size+1) b0 b1 b2 b3 25 (by simp)).new (w.heap.size+1+1) 0 0 0 0 25 (by simp));refine dJ (fun wx=>Mem w wx [(w.heap.size+1,b0,b1,b2,b3),(w.heap.size,a0,a1,a2,a3)]) 12 (by kernel_rfl) ?_;have HM':=Lib.hid (HM.out.drewN 1);clear HM;have HM:=HM';clear HM';have HS:=HM.out.sub (rs':=[(w.heap.size+1,b0,b1,b2,b3),(w.heap.size,a0,a1,a2,a3)]) (by simp);refine aL (i:=0) (v:=.int .i64 f) rfl (by kernel_rfl) (by kernel_rfl) (by kernel_rfl) (by kernel_rfl) (fun _ _ _ h=>h) HS (Or.inl ⟨by kernel_rfl,fun wx hx => ?_⟩) ?_
 ·clear HS hx;go_simp
 simp only[Act.put,List.setIfInBounds_toArray,List.set_cons_zero,List.set_cons_succ];refine aL (i:=1) (v:=.int .i64 f) rfl (by kernel_rfl) (by kernel_rfl) (by kernel_rfl) (by kernel_rfl) (fun _ _ _ h=>h) HS (Or.inl ⟨by kernel_rfl,fun wx hx => ?_⟩) ?_
 ·clear HS hx;go_simp
 simp only[Act.put,List.setIfInBounds_toArray,List.set_cons_zero,List.set_cons_succ];refine aL (i:=2) (v:=.int .i64 f) rfl (by kernel_rfl) (by kernel_rfl) (by kernel_rfl) (by kernel_rfl) (fun _ _ _ h=>h) HS (Or.inl ⟨by kernel_rfl,fun wx hx => ?_⟩) ?_
 ·clear HS hx;go_simp
 simp only[Act.put,List.setIfInBounds_toArray,List.set_cons_zero,List.set_cons_succ];refine aL (i:=3) (v:=.agg #[.int .u64 a0,.int .u64 a1,.int .u64 a2,.int .u64 a3]) rfl (by kernel_rfl) (by kernel_rfl) (by kernel_rfl) (by kernel_rfl) (fun _ _ _ h=>h) HS (Or.inl ⟨by kernel_rfl,fun wx hx => ?_⟩) ?_
 ·have kr:=hx.row (b:=w.heap.size) (c0:=a0) (c1:=a1) (c2:=a2) (c3:=a3) (by simp);have x0:=kr.c0; have x1:=kr.c1; have x2:=kr.c2; have x3:=kr.c3;clear kr HS hx;go_simp
 simp only[Act.put,List.setIfInBounds_toArray,List.set_cons_zero,List.set_cons_succ];refine aL (i:=5) (v:=.int .i64 f) rfl (by kernel_rfl) (by kernel_rfl) (by kernel_rfl) (by kernel_rfl) (fun _ _ _ h=>h) HS (Or.inl ⟨by kernel_rfl,fun wx hx => ?_⟩) ?_
 ·clear HS hx;go_simp
 simp only[Act.put,List.setIfInBounds_toArray,List.set_cons_zero,List.set_cons_succ];refine aL (i:=6) (v:=.agg #[.int .u64 b0,.int .u64 b1,.int .u64 b2,.int .u64 b3]) rfl (by kernel_rfl) (by kernel_rfl) (by kernel_rfl) (by kernel_rfl) (fun _ _ _ h=>h) HS (Or.inl ⟨by kernel_rfl,fun wx hx => ?_⟩) ?_
 ·have kr:=hx.row (b:=w.heap.size+1) (c0:=b0) (c1:=b1) (c2:=b2) (c3:=b3) (by simp);have x0:=kr.c0; have x1:=kr.c1; have x2:=kr.c2; have x3:=kr.c3;clear kr HS hx;go_simp
 simp only[Act.put,List.setIfInBounds_toArray,List.set_cons_zero,List.set_cons_succ];refine aL (i:=9) (v:=.int .i64 f) rfl (by kernel_rfl) (by kernel_rfl) (by kernel_rfl) (by kernel_rfl) (fun _ _ _ h=>h) HS (Or.inl ⟨by kernel_rfl,fun wx hx => ?_⟩) ?_
 ·clear HS hx;go_simp
 simp only[Act.put,List.setIfInBounds_toArray,List.set_cons_zero,List.set_cons_succ];clear HS;refine aM (i:=4) (by kernel_rfl) rfl (fun K hK => ?_);go_simp;refine (dQ f F hf a0 a1 a2 a3 ha _).mono ?_
 rintro e w1 ⟨x0,x1,x2,x3,rfl,hx,hv,hbl⟩
 have HVx:=Lib.hid hv;clear hv;have HM':=Lib.hid (HM.out.on hbl);clear HM hbl;have HM:=HM';clear HM';have HS:=HM.out.sub (rs':=[(w.heap.size+1,b0,b1,b2,b3),(w.heap.size,a0,a1,a2,a3)]) (by simp);refine hK.out _ _ (Or.inr HS) (fun _ => ?_);clear hK K;clear HS;refine aM (i:=7) (by kernel_rfl) rfl (fun K hK => ?_);go_simp;refine (dQ f F hf b0 b1 b2 b3 hb _).mono ?_
 rintro e w2 ⟨y0,y1,y2,y3,rfl,hy,hv,hbl⟩
 have HVy:=Lib.hid hv;clear hv;have HM':=Lib.hid (HM.out.on hbl);clear HM hbl;have HM:=HM';clear HM';have HS:=HM.out.sub (rs':=[(w.heap.size+1,b0,b1,b2,b3),(w.heap.size,a0,a1,a2,a3)]) (by simp);refine hK.out _ _ (Or.inr HS) (fun _ => ?_);clear hK K;clear HS;refine aM (i:=8) (by kernel_rfl) rfl (fun K hK => ?_);go_simp;refine (sN f F hf x0 x1 x2 x3 y0 y1 y2 y3 hx hy (by rw[HVx.out]; exact Nat.mod_lt _ hpos) _).mono ?_
 rintro e w3 ⟨z0,z1,z2,z3,rfl,hz,hv,hbl⟩
 have HVz:=Lib.hid hv;clear hv;have HM':=Lib.hid (HM.out.on hbl);clear HM hbl;have HM:=HM';clear HM';have HS:=HM.out.sub (rs':=[(w.heap.size+1,b0,b1,b2,b3),(w.heap.size,a0,a1,a2,a3)]) (by simp);refine hK.out _ _ (Or.inr HS) (fun _ => ?_);clear hK K;clear HS;refine aM (i:=10) (by kernel_rfl) rfl (fun K hK => ?_);go_simp;refine (wF f F hf _).mono ?_
 rintro e w4 ⟨rfl,hbl⟩
 have HM':=Lib.hid (HM.out.on hbl);clear HM hbl;have HM:=HM';clear HM';have HS:=HM.out.sub (rs':=[(w.heap.size+1,b0,b1,b2,b3),(w.heap.size,a0,a1,a2,a3)]) (by simp);refine hK.out _ _ (Or.inr HS) (fun _ => ?_);clear hK K;clear HS;refine aM (i:=11) (by kernel_rfl) rfl (fun K hK => ?_);go_simp;refine (sN f F hf z0 z1 z2 z3 F.s0 F.s1 F.s2 F.s3 hz hf.ok.oks (by rw[HVz.out]; exact Nat.mod_lt _ hpos) _).mono ?_
 rintro e w5 ⟨s0,s1,s2,s3,rfl,hs,hv,hbl⟩
 have HVs:=Lib.hid (show aD s0 s1 s2 s3=aD a0 a1 a2 a3*aD b0 b1 b2 b3%F.M by rw[hv,HVz.out,HVx.out,HVy.out]; exact OP hf.ok _ _);clear hv;have HM':=Lib.hid (HM.out.on hbl);clear HM hbl;have HM:=HM';clear HM';have HS:=HM.out.sub (rs':=[(w.heap.size+1,b0,b1,b2,b3),(w.heap.size,a0,a1,a2,a3)]) (by simp);refine hK.out _ _ (Or.inr HS) (fun _ => ?_);clear hK K;clear HS;have kr:=HM.out.row (b:=w.heap.size+1+1) (c0:=0) (c1:=0) (c2:=0) (c3:=0) (by simp);have y0:=kr.c0; have y1:=kr.c1; have y2:=kr.c2; have y3:=kr.c3; have yf:=kr.fr;clear kr;have yl:=HM.out.lt (b:=w.heap.size+1+1) (c0:=0) (c1:=0) (c2:=0) (c3:=0) (by simp);refine aM (i:=12) (by kernel_rfl) rfl (fun K hK => ?_);go_simp;have HM':=Lib.hid ((HM.out.sub (rs':=[(w.heap.size+1+1,0,0,0,0),(w.heap.size+1,b0,b1,b2,b3),(w.heap.size,a0,a1,a2,a3)]) (by simp)).put s0 s1 s2 s3 (by omega) (by intro r hr; simp at hr; rcases hr with rfl|rfl<;>simp<;>omega));clear HM;have HM:=HM';clear HM';refine hK.out _ _ (Or.inl rfl) (fun _ => ?_);clear hK K;refine cW (by kernel_rfl) ?_;go_wp2_with fail;refine bodyPost_ret (v:=.agg #[.int .u64 s0,.int .u64 s1,.int .u64 s2,.int .u64 s3]) (by simp[results,results33,go_sem, *]) rfl ?_;exact⟨_,_,_,_,rfl,hs,HVs.out,HM.out.1⟩
theorem UA (A M:Nat):decide (cY A M<0)=wU A M:=by
 unfold wU cY
 by_cases q:A=M
 ·rw[if_pos q,decide_eq_false (by omega),decide_eq_false (by omega)]
 ·rw[if_neg q]
  by_cases h:A<M
  ·rw[if_pos h,decide_eq_true (by omega),decide_eq_true (by omega)]
  ·rw[if_neg h,decide_eq_false (by omega),decide_eq_false (by omega)]
set_option maxHeartbeats 2000000 in
theorem wL (f:Int) (F:FC) (hf:FieldIs f F) (a0 a1 a2 a3:Nat) (ha:cK a0 a1 a2 a3) (w:World) :
  Calls prog 44 #[.int .i64 f,.agg #[.int .u64 a0,.int .u64 a1,.int .u64 a2,.int .u64 a3]] w (fun e w'=>e=.returned (.bool (wU (aD a0 a1 a2 a3) F.M))∧Below w.heap.size w w'):=by
 go_enter func44,ntmps44
 go_wp2_with fail;have HM:=Lib.hid ((Mem.nil w).new (w.heap.size) a0 a1 a2 a3 25 (by simp));refine dJ (fun wx=>Mem w wx [(w.heap.size,a0,a1,a2,a3)]) 5 (by kernel_rfl) ?_;have HM':=Lib.hid (HM.out.drewN 1);clear HM;have HM:=HM';clear HM';have HS:=HM.out.sub (rs':=[(w.heap.size,a0,a1,a2,a3)]) (by simp);refine aL (i:=0) (v:=.agg #[.int .u64 a0,.int .u64 a1,.int .u64 a2,.int .u64 a3]) rfl (by kernel_rfl) (by kernel_rfl) (by kernel_rfl) (by kernel_rfl) (fun _ _ _ h=>h) HS (Or.inl ⟨by kernel_rfl,fun wx hx => ?_⟩) ?_
 ·have kr:=hx.row (b:=w.heap.size) (c0:=a0) (c1:=a1) (c2:=a2) (c3:=a3) (by simp);have x0:=kr.c0; have x1:=kr.c1; have x2:=kr.c2; have x3:=kr.c3;clear kr HS hx;go_simp
 simp only[Act.put,List.setIfInBounds_toArray,List.set_cons_zero,List.set_cons_succ];refine aL (i:=1) (v:=.int .i64 f) rfl (by kernel_rfl) (by kernel_rfl) (by kernel_rfl) (by kernel_rfl) (fun _ _ _ h=>h) HS (Or.inl ⟨by kernel_rfl,fun wx hx => ?_⟩) ?_
 ·clear HS hx;go_simp
 simp only[Act.put,List.setIfInBounds_toArray,List.set_cons_zero,List.set_cons_succ];clear HS;refine aM (i:=2) (by kernel_rfl) rfl (fun K hK => ?_);go_simp;refine (jL f F hf _).mono ?_
 rintro e w1 ⟨rfl,hbl⟩
 have HM':=Lib.hid (HM.out.on hbl);clear HM hbl;have HM:=HM';clear HM';have HS:=HM.out.sub (rs':=[(w.heap.size,a0,a1,a2,a3)]) (by simp);refine hK.out _ _ (Or.inr HS) (fun _ => ?_);clear hK K;clear HS;refine aM (i:=3) (by kernel_rfl) rfl (fun K hK => ?_);go_simp;refine (nR a0 a1 a2 a3 F.m0 F.m1 F.m2 F.m3 ha hf.ok.okm _).mono ?_
 rintro e w2 ⟨he,hbl⟩
 have HC:=Lib.hid (UA (aD a0 a1 a2 a3) (aD F.m0 F.m1 F.m2 F.m3));generalize cY (aD a0 a1 a2 a3) (aD F.m0 F.m1 F.m2 F.m3)=cc at *;subst he;have HM':=Lib.hid (HM.out.on hbl);clear HM hbl;have HM:=HM';clear HM';have HS:=HM.out.sub (rs':=[(w.heap.size,a0,a1,a2,a3)]) (by simp);refine hK.out _ _ (Or.inr HS) (fun _ => ?_);clear hK K;refine aL (i:=4) (v:=.bool (decide (cc<0))) rfl (by kernel_rfl) (by kernel_rfl) (by kernel_rfl) (by kernel_rfl) (fun _ _ _ h=>h) HS (Or.inl ⟨by kernel_rfl,fun wx hx => ?_⟩) ?_
 ·clear HS hx;go_simp
 simp only[Act.put,List.setIfInBounds_toArray,List.set_cons_zero,List.set_cons_succ];clear HS;refine aM (i:=5) (by kernel_rfl) rfl (fun K hK => ?_);go_simp;refine hK.out _ _ (Or.inl rfl) (fun _ => ?_);clear hK K;refine cW (by kernel_rfl) ?_;go_wp2_with fail;go_ret;exact⟨zM HC.out,HM.out.1⟩
end Go.Proofs.YtjjnbgoepbiojaaGreat
namespace Go.Proofs.YtjjnbgoepbiojaaGreat.Ex
open Go.Proofs.Tryz
open Go.RowKit
def LW (w:World) (v:Value) (N:Nat) (f:Nat→Nat):Prop:=∃p m,v=.slice p N m∧(∀j,j<N→f j<bQ)∧(0<N→∃b o,p=some ⟨b,o,none⟩∧b<w.heap.size∧w.rangeAt b o (aB (aP (el f) 0 N)))
theorem LV.lw {w:World} {v:Value} {N:Nat} {f:Nat→Nat} (h:LV w v N f):LW w v N f:=by
 obtain⟨p,m,h1,_,h3,h4⟩:=h;exact⟨p,m,h1,h3,h4⟩
theorem Ev {x y:Nat} (hx:x<bQ) (hy:y<bQ):aB [At.q x]=aB [At.q y]↔x=y:=by
 constructor
 ·intro h;have h2:w4 x=w4 y:=by
   have h3:w4 x++[]=w4 y++[]:=h;simpa using h3
  unfold w4 at h2;simp only[List.cons.injEq,Value.int.injEq,true_and,and_true]at h2;obtain⟨e0,e1,e2,e3⟩:=h2;have h3:=fW hx;have h4:=fW hy;have c0:fw x 0=fw y 0:=by omega
  have c1:fw x 1=fw y 1:=by omega
  have c2:fw x 2=fw y 2:=by omega
  have c3:fw x 3=fw y 3:=by omega
  rw[c0,c1,c2,c3,h4]at h3;exact h3.symm
 ·rintro rfl
  rfl
def lW (N:Nat) (f:Nat→Nat) (M:Nat) (g:Nat→Nat):Prop:=N=M∧∀j,j<N→f j=g j
instance (N:Nat) (f:Nat→Nat) (M:Nat) (g:Nat→Nat):Decidable (lW N f M g):=@instDecidableAnd _ _ _ (Nat.decidableBallLT N fun j _=>f j=g j)
def CC (v u:Value) (i:Nat):List Fact:=[.slot 0 (.im v),.slot 1 (.im u),.slot 5 (.im (iI i))]
def gB:Code:=(f9.body).getD .skip
def oP:Code:=fY (fY (cB (cA (cB (cB gB)))))
theorem WB:gB=.seq (cA gB) (.seq (cA (cB gB)) (.seq (.seq (cA (cA (cB (cB gB)))) (.block 0 (.loop oP))) (cB (cB (cB gB))))):=by kernel_rfl
theorem Ny (v u:Value):aH prog (qG prog) f9.ntmps (cF fun _=>none) 40 (cA gB) (dX 0 [.v (.im v),.v (.im u)]) [.slot 0 (.im v),.slot 1 (.im u)]=some ([],.nrm,[.slot 0 (.im v),.slot 1 (.im u)]):=by kernel_rfl
theorem Yc (p q:Option Addr) (N m M m':Nat):aH prog (qG prog) f9.ntmps (cF (aE [(10,.bool true)])) 40 (cA (cB gB)) [.slot 0 (.im (.slice p N m)),.slot 1 (.im (.slice q M m'))] [.slot 4 (.im (.bool false))]=some ([aC .neq .i64 (Int.ofNat N) (Int.ofNat M)=some (.bool true)],.rt,[.slot 4 (.im (.bool false))]):=by kernel_rfl
theorem Yd (p q:Option Addr) (N m M m':Nat):aH prog (qG prog) f9.ntmps (cF (aE [(10,.bool false)])) 40 (cA (cB gB)) [.slot 0 (.im (.slice p N m)),.slot 1 (.im (.slice q M m'))] [.slot 0 (.im (.slice p N m)),.slot 1 (.im (.slice q M m'))]=some ([aC .neq .i64 (Int.ofNat N) (Int.ofNat M)=some (.bool false)],.nrm,[.slot 0 (.im (.slice p N m)),.slot 1 (.im (.slice q M m'))]):=by kernel_rfl
theorem Nx (v u:Value):aH prog (qG prog) f9.ntmps (cF fun _=>none) 40 (cA (cA (cB (cB gB)))) [.slot 0 (.im v),.slot 1 (.im u)] (CC v u 0)=some ([],.nrm,CC v u 0):=by kernel_rfl
theorem Nz (w:World) (b o m b' o' m' N i x y:Nat):aH prog { qG prog with x:=xO w (aE [(19,i),(23,i)]) (aE [(20,[.q x]),(24,[.q y])]) (fun _=>none) } f9.ntmps (Dp true (aE [(14,.bool true),(16,iI (i+1))])) 40 oP (CC (aS b o N m) (aS b' o' N m') i) (CC (aS b o N m) (aS b' o' N m') (i+1))=some ([aC .lss .i64 (Int.ofNat i) (Int.ofNat N)=some (.bool true),Int.ofNat i=Int.ofNat i,i<N,oldOf w b (o+i*4) [.q x],cL [.q x]=4,Int.ofNat i=Int.ofNat i,i<N,oldOf w b' (o'+i*4) [.q y],cL [.q y]=4,aB [.q x]=aB [.q y],aC .add .i64 (Int.ofNat i) 1=some (iI (i+1))],.nrm,CC (aS b o N m) (aS b' o' N m') (i+1)):=by kernel_rfl
theorem Oa (w:World) (b o m b' o' m' N i x y:Nat):aH prog { qG prog with x:=xO w (aE [(19,i),(23,i)]) (aE [(20,[.q x]),(24,[.q y])]) (fun _=>none) } f9.ntmps (Dp false (aE [(14,.bool true)])) 40 oP (CC (aS b o N m) (aS b' o' N m') i) [.slot 4 (.im (.bool false))]=some ([aC .lss .i64 (Int.ofNat i) (Int.ofNat N)=some (.bool true),Int.ofNat i=Int.ofNat i,i<N,oldOf w b (o+i*4) [.q x],cL [.q x]=4,Int.ofNat i=Int.ofNat i,i<N,oldOf w b' (o'+i*4) [.q y],cL [.q y]=4,aB [.q x]≠aB [.q y]],.rt,[.slot 4 (.im (.bool false))]):=by kernel_rfl
theorem Fi (p q:Option Addr) (N m M m' i:Nat):aH prog (qG prog) f9.ntmps (cF (aE [(14,.bool false)])) 40 oP (CC (.slice p N m) (.slice q M m') i) (CC (.slice p N m) (.slice q M m') i)=some ([aC .lss .i64 (Int.ofNat i) (Int.ofNat N)=some (.bool false)],.ex 0,CC (.slice p N m) (.slice q M m') i):=by kernel_rfl
theorem WA (v u:Value) (i:Nat):aH prog (qG prog) f9.ntmps (cF fun _=>none) 40 (cB (cB (cB gB))) (CC v u i) [.slot 4 (.im (.bool true))]=some ([],.rt,[.slot 4 (.im (.bool true))]):=by kernel_rfl
theorem yX {w0:World} {v u:Value} {N M:Nat} {f g:Nat→Nat} (hv:LW w0 v N f) (hu:LW w0 u M g) (hN:N≤4611686018427387904):bI prog 9 (.one (.im (.bool (decide (lW N f M g))))) [v,u] w0:=by
 have hG:bO prog (qG prog) w0.heap.size w0:=(bE _).w _ _;have hT:∀n d:Nat,TabOkW prog dB w0.heap.size w0:=fun _ _=>aY.w _ _
 obtain⟨p,m,rfl,h256,hmem⟩:=hv;obtain⟨q,m',rfl,h256',hmem'⟩:=hu;refine bP func9 (cs:=[.v (.im (.slice p N m)),.v (.im (.slice q M m'))]) (args:=[.slice p N m,.slice q M m']) (c:=gB) rfl ⟨rfl,rfl,trivial⟩ (Nat.le_of_ble_eq_true (by kernel_rfl)) fun a w1 hA => ?_
 rw[WB];refine wp_seq (aA aG hT hG (Ny _ _) trivial hA fun a w1 hA => ?_);have bad:∀{a w},Holds f9.ntmps w0.heap.size w0 [.slot 4 (.im (.bool false))] a w→bodyPost prog f9 (fun e w'=>e=.returned (RV.den (.one (.im (.bool false))))∧Below w0.heap.size w0 w') .ret a w:=fun hA=>bH (l:=[.im (.bool false)]) (r:=.one (.im (.bool false))) (by kernel_rfl) (by kernel_rfl) hA
 by_cases hl:N=M
 ·subst hl;refine wp_seq (aA aG hT hG (Yd p q N m N m') ⟨by rw[Dk,decide_eq_false (by simp)],trivial⟩ hA fun a w1 hA => ?_);refine wp_seq (wp_seq (aA aG hT hG (Nx _ _) trivial hA fun a w1 hA => ?_));refine wp_block ?_;have step:∀i,i<N→f i=g i→Ok prog w0.heap.size w0 f9.ntmps oP (CC (.slice p N m) (.slice q N m') i) .nrm (CC (.slice p N m) (.slice q N m') (i+1)):=fun i hi he=>by
   obtain⟨b,o,rfl,hb,hr⟩:=hmem (by omega);obtain⟨b',o',rfl,hb',hr'⟩:=hmem' (by omega);exact⟨_,_,_,_,cE w0 _ _ _,fun _ _=>aY.w _ _,Nz w0 b o m b' o' m' N i (f i) (g i),bK hi,rfl,hi,cJ hb hr hi,rfl,rfl,hi,cJ hb' hr' hi,rfl,by rw[he],cX (k:=1) (by omega),trivial⟩
  by_cases h:∀j,j<N→f j=g j
  ·rw[decide_eq_true (show lW N f N g from⟨rfl,h⟩)];refine cH aG (fun i=>CC (.slice p N m) (.slice q N m') i) N (fun i hi=>step i hi (h i hi)) (.ex 0) (by simp) (CC (.slice p N m) (.slice q N m') N) ⟨_,_,_,_,hG,hT,Fi p q N m N m' N,bU (Nat.le_refl _),trivial⟩ hA fun a w hA => ?_
   show (cB (cB (cB gB))).wp _ _ _ _;exact aA aG hT hG (WA _ _ N) trivial hA fun a w' hA=>bH (l:=[.im (.bool true)]) (r:=.one (.im (.bool true))) (by kernel_rfl) (by kernel_rfl) hA
  ·rw[decide_eq_false (show ¬lW N f N g from fun q=>h q.2)];obtain⟨j,hj,h1,h2⟩:=eU (p:=fun j=>f j=g j) h;have hbad:Ok prog w0.heap.size w0 f9.ntmps oP (CC (.slice p N m) (.slice q N m') j) .rt [.slot 4 (.im (.bool false))]:=by
    obtain⟨b,o,rfl,hb,hr⟩:=hmem (by omega);obtain⟨b',o',rfl,hb',hr'⟩:=hmem' (by omega);exact⟨_,_,_,_,cE w0 _ _ _,fun _ _=>aY.w _ _,Oa w0 b o m b' o' m' N j (f j) (g j),bK hj,rfl,hj,cJ hb hr hj,rfl,rfl,hj,cJ hb' hr' hj,rfl,fun e=>h2 ((Ev (h256 j hj) (h256' j hj)).1 e),trivial⟩
   exact cH aG (fun i=>CC (.slice p N m) (.slice q N m') i) j (fun i hi=>step i (by omega) (h1 i hi)) .rt (by simp) [.slot 4 (.im (.bool false))] hbad hA fun a w hA=>bad hA
 ·rw[decide_eq_false (show ¬lW N f M g from fun q=>hl q.1)];exact wp_seq (aA aG hT hG (Yc p q N m M m') ⟨by rw[Dk,decide_eq_true hl],trivial⟩ hA fun a w1 hA=>bad hA)
def MB (N:Nat) (f:Nat→Nat):CA→Option (List Prop)
 | .s l n _=>some [aB l=aB (aP (el f) 0 N),n=N,∀j,j<N→f j<bQ]
 | .so l n=>some [aB l=aB (aP (el f) 0 N),n=N,∀j,j<N→f j<bQ]
 | .v (.im (.slice none 0 0))=>some [N=0]
 | _=>none
theorem JG {w:World} {N:Nat} {f:Nat→Nat} {c:CA} {v:Value} {p:List Prop} (hc:CA.ok w c v) (h:MB N f c=some p) (hp:aR p):LW w v N f:=by
 unfold MB at h;split at h
 ·cases h;obtain⟨b,o,rfl,hb,hr⟩:=hc;obtain⟨e1,rfl,e3,_⟩:=hp;rw[e1]at hr;exact⟨_,_,rfl,e3,fun _=>⟨b,o,rfl,hb,hr⟩⟩
 ·cases h;obtain⟨b,o,m,rfl,hb,hr⟩:=hc;obtain⟨e1,rfl,e3,_⟩:=hp;rw[e1]at hr;exact⟨_,_,rfl,e3,fun _=>⟨b,o,rfl,hb,hr⟩⟩
 ·cases h;obtain⟨rfl,_⟩:=hp;have hc:v=.slice none 0 0:=hc;exact⟨none,0,hc,fun j h=>by omega,fun h=>by omega⟩
 ·cases h
def Zn (N:Nat) (f:Nat→Nat) (M:Nat) (g:Nat→Nat):iP
 | [c,d]=>match MB N f c,MB M g d with
  | some p,some q=>some (p++(q++[N≤4611686018427387904]),.one (.im (.bool (decide (lW N f M g)))))
  | _,_=>none
 | _=>none
theorem Jc {N M:Nat} {f g:Nat→Nat}:∀cs pre r,Zn N f M g cs=some (pre,r)→aR pre→∀(args:List Value) (w:World),cO w cs args→bI prog 9 r args w:=by
 intro cs pre r hg hp args w ha;unfold Zn at hg;split at hg
 ·rename_i c d;split at hg
  ·rename_i p q hc hd;cases hg;rw[cC,cC]at hp
   match args,ha with
   | [u,v],ha =>
    obtain⟨h1,h2⟩:CA.ok w c u∧cO w [d] [v]:=by cases c<;>exact ha
    have h3:CA.ok w d v:=by cases d<;>exact h2.1
    exact yX (JG h1 hc hp.1) (JG h3 hd hp.2.1) hp.2.2.1
   | [],ha=>cases c<;>exact ha.elim
   | [_],ha =>
    obtain⟨h1,h2⟩:CA.ok w c _∧cO w [d] []:=by cases c<;>exact ha
    cases d<;>exact h2.elim
   | _::b::c'::r',ha =>
    obtain⟨h1,h2⟩:CA.ok w c _∧cO w [d] (b::c'::r'):=by cases c<;>exact ha
    have h3:cO w [] (c'::r'):=by cases d<;>exact h2.2
    exact h3.elim
  ·cases hg
 ·cases hg
theorem oA {x:Nat} {w:World} {e:Ending} {w':World} (hx:x<RM) (h:eQ x w e w'):e=.returned (RV.den (.one (.fl [.q x])))∧Below w.heap.size w w':=by
 obtain⟨s0,s1,s2,s3,rfl,hs,hv,hb⟩:=h;obtain⟨rfl,rfl,rfl,rfl⟩:=lS hs (dW hx) hv;exact⟨rfl,hb⟩
def Xc (op:Nat→RV) (c:Nat→List Prop):iP
 | [.v (.im (.int .i64 2)),.v (.fl l)]=>match lH l with|some x=>some (c x,op x)|none=>none
 | _=>none
def Tc (op:Nat→Nat→Nat) (c:Nat→Nat→List Prop):iP
 | [.v (.im (.int .i64 2)),.v (.fl l),.v (.fl m)]=>match lH l,lH m with|some x,some y=>some (c x y,.one (.fl [.q (op x y)]))|_,_=>none
 | _=>none
theorem RX {f:FuncId} {op:Nat→RV} {c:Nat→List Prop} (h:∀x,aR (c x)→∀w,bI prog f (op x) [.int .i64 2,.agg (aB [At.q x]).toArray] w) :
  ∀cs pre r,Xc op c cs=some (pre,r)→aR pre→∀(args:List Value) (w:World),cO w cs args→bI prog f r args w:=by
 intro cs pre r hg hp args w ha;unfold Xc at hg;split at hg
 ·rename_i l;split at hg
  ·rename_i x hx;cases hg
   match args,ha with
   | [t,v],ha =>
    have h1:t=.int .i64 2:=ha.1;have h2:v=.agg (aB l).toArray:=ha.2.1;rw[cG l x hx]at h2;subst h1; subst h2;exact h x hp w
   | [],ha=>exact ha.elim
   | [_],ha=>exact ha.2.elim
   | _::_::_::_,ha=>exact ha.2.2.elim
  ·cases hg
 ·cases hg
theorem EV {f:FuncId} {op:Nat→Nat→Nat} {c:Nat→Nat→List Prop} (h:∀x y,aR (c x y)→∀w,bI prog f (.one (.fl [.q (op x y)])) [.int .i64 2,.agg (aB [At.q x]).toArray,.agg (aB [At.q y]).toArray] w) :
  ∀cs pre r,Tc op c cs=some (pre,r)→aR pre→∀(args:List Value) (w:World),cO w cs args→bI prog f r args w:=by
 intro cs pre r hg hp args w ha;unfold Tc at hg;split at hg
 ·rename_i l m;split at hg
  ·rename_i x y hx hy;cases hg
   match args,ha with
   | [t,v,u],ha =>
    have h1:t=.int .i64 2:=ha.1;have h2:v=.agg (aB l).toArray:=ha.2.1;have h3:u=.agg (aB m).toArray:=ha.2.2.1;rw[cG l x hx]at h2;rw[cG m y hy]at h3;subst h1; subst h2; subst h3;exact h x y hp w
   | [],ha=>exact ha.elim
   | [_],ha=>exact ha.2.elim
   | [_,_],ha=>exact ha.2.2.elim
   | _::_::_::_::_,ha=>exact ha.2.2.2.elim
  ·cases hg
 ·cases hg
theorem Gv (x y:Nat) (h:aR (Ce x y)) (w:World):bI prog 23 (.one (.fl [.q (dH x y)])) [.int .i64 2,.agg (aB [At.q x]).toArray,.agg (aB [At.q y]).toArray] w:=by
 have:=sB 2 _ nZ _ _ _ _ _ _ _ _ (eI x) (eI y) w;rw[qU h.1,qU h.2.1]at this;exact this.mono fun e w' q=>oA (gT x y) q
theorem Gt (x y:Nat) (h:aR (Ce x y)) (w:World):bI prog 33 (.one (.fl [.q (dF x y)])) [.int .i64 2,.agg (aB [At.q x]).toArray,.agg (aB [At.q y]).toArray] w:=by
 have:=DK 2 _ nZ _ _ _ _ _ _ _ _ (eI x) (eI y) w;rw[qU h.1,qU h.2.1]at this;exact this.mono fun e w' q=>oA (eB x y) q
theorem Gr (x y:Nat) (h:aR (Ce x y)) (w:World):bI prog 27 (.one (.fl [.q (fD x y)])) [.int .i64 2,.agg (aB [At.q x]).toArray,.agg (aB [At.q y]).toArray] w:=by
 have:=DH 2 _ nZ _ _ _ _ _ _ _ _ (eI x) (eI y) w;rw[qU h.1,qU h.2.1,Nat.mod_eq_of_lt h.2.1]at this;refine this.mono fun e w' q=>oA (lG x y) ?_
 have e1:x+(RM-y)=x+RM-y:=by have:=h.2.1; omega
 rw[show fD x y=(x+(RM-y))%RM by unfold fD; rw[e1]];exact q
def Dg (x:Nat):Nat:=(RM-x%RM)%RM
theorem Gs (x:Nat) (h:aR [x<RM]) (w:World):bI prog 48 (.one (.fl [.q (Dg x)])) [.int .i64 2,.agg (aB [At.q x]).toArray] w:=by
 have:=rV 2 _ nZ _ _ _ _ (eI x) w;rw[qU h.1]at this;exact this.mono fun e w' q=>oA (Nat.mod_lt _ fK) q
def Te:Nat→RV:=fun x=>.one (.im (.bool (decide (x<RM))))
theorem Gu (x:Nat) (h:aR [x<bQ]) (w:World):bI prog 44 (Te x) [.int .i64 2,.agg (aB [At.q x]).toArray] w:=by
 have:=wL 2 _ nZ _ _ _ _ (eI x) w;rw[fW h.1]at this;exact this.mono fun e w' q=>q
def gY:Tab:=((((yC.add 23 (Tc dH Ce)).add 27 (Tc fD Ce)).add 33 (Tc dF Ce)).add 48 (Xc (fun x=>.one (.fl [.q (Dg x)])) fun x=>[x<RM])).add 44 (Xc Te fun x=>[x<bQ])
theorem eP:TabOk prog gY:=((((pR.add func23 (by kernel_rfl) (by kernel_rfl) (EV Gv)).add func27 (by kernel_rfl) (by kernel_rfl) (EV Gr)).add func33 (by kernel_rfl) (by kernel_rfl) (EV Gt)).add func48 (by kernel_rfl) (by kernel_rfl) (RX Gs)).add func44 (by kernel_rfl) (by kernel_rfl) (RX Gu)
def fE (h:Bool) (num:Nat→Option Value) (_:Nat):Cfg:=⟨fun _=>gY,fun _=>h,num⟩
theorem WS:xK prog gY (qG prog) (fun _=>true) f39 40 []=some ([1<RM],.one (.fl [.q (Dg 1)])):=by kernel_rfl
def MH:List At:=[.f ⟨0,dP⟩]
def AR (v u:Value):List Fact:=[.slot 0 (.im v),.slot 1 (.im u)]
def RP (v u:Value) (i:Nat):List Fact:=.slot 5 (.im (iI i))::AR v u
def yG (v u:Value) (i:Nat):List Fact:=.slot 6 (.im (iI i))::AR v u
def RO (v u:Value) (i k:Nat):List Fact:=.slot 7 (.im (iI k))::yG v u i
def MJ (v u:Value) (i:Nat):List Fact:=.slot 8 (.im (iI i))::AR v u
def KY (e:Int):List Fact:=[.slot 4 (.im (.int .i64 e))]
def fF:Code:=(f22.body).getD .skip
def RN:Code:=fY (fY (cB (cA (cB fF))))
def qM:Code:=fY (fY (cB (cA (cB (cB fF)))))
def RL:Code:=fY (fY (cB (fY (cA (cB qM)))))
def KZ:Code:=fY (fY (cB (cA (cB (cB (cB fF))))))
theorem ZH:fF=.seq (cA fF) (.seq (.seq (cA (cA (cB fF))) (.block 0 (.loop RN))) (.seq (.seq (cA (cA (cB (cB fF)))) (.block 2 (.loop qM))) (.seq (.seq (cA (cA (cB (cB (cB fF))))) (.block 6 (.loop KZ))) (cB (cB (cB (cB fF))))))):=by kernel_rfl
theorem RK:qM=.seq (cA qM) (.seq (.block 3 (.seq (cA (fY (cA (cB qM)))) (.block 4 (.loop RL)))) (cB (cB qM))):=by kernel_rfl
theorem Sq (v u:Value):aH prog (qG prog) f22.ntmps (fE true fun _=>none) 40 (cA fF) (dX 0 [.v (.im v),.v (.im u)]) (AR v u)=some ([],.nrm,AR v u):=by kernel_rfl
theorem Sp (v u:Value):aH prog (qG prog) f22.ntmps (fE true fun _=>none) 40 (cA (cA (cB fF))) (AR v u) (RP v u 0)=some ([],.nrm,RP v u 0):=by kernel_rfl
theorem Sr (w:World) (b o K m i:Nat) (p:Option Addr) (n' m':Nat) (u:Value):aH prog { qG prog with x:=xO w (aE [(17,i)]) (fun _=>none) (aE [(18,.slice p n' m')]) } f22.ntmps (fE true (aE [(12,.bool true),(20,.bool false),(14,iI (i+1))])) 40 RN (RP (aS b o K m) u i) (RP (aS b o K m) u (i+1))=some ([aC .lss .i64 (Int.ofNat i) (Int.ofNat K)=some (.bool true),Int.ofNat i=Int.ofNat i,i<K,oldOf w b (o+i*1) [.c (.slice p n' m')],aC .gtr .i64 (Int.ofNat n') 65536=some (.bool false),aC .add .i64 (Int.ofNat i) 1=some (iI (i+1))],.nrm,RP (aS b o K m) u (i+1)):=by kernel_rfl
theorem Ta (w:World) (b o K m i:Nat) (p:Option Addr) (n' m':Nat) (u:Value):aH prog { qG prog with x:=xO w (aE [(17,i)]) (fun _=>none) (aE [(18,.slice p n' m')]) } f22.ntmps (fE true (aE [(12,.bool true),(20,.bool true)])) 40 RN (RP (aS b o K m) u i) (KY 72)=some ([aC .lss .i64 (Int.ofNat i) (Int.ofNat K)=some (.bool true),Int.ofNat i=Int.ofNat i,i<K,oldOf w b (o+i*1) [.c (.slice p n' m')],aC .gtr .i64 (Int.ofNat n') 65536=some (.bool true)],.rt,KY 72):=by kernel_rfl
theorem Sz (p:Option Addr) (K m i:Nat) (u:Value):aH prog (qG prog) f22.ntmps (fE true (aE [(12,.bool false)])) 40 RN (RP (.slice p K m) u i) (AR (.slice p K m) u)=some ([aC .lss .i64 (Int.ofNat i) (Int.ofNat K)=some (.bool false)],.ex 0,AR (.slice p K m) u):=by kernel_rfl
theorem So (v u:Value):aH prog (qG prog) f22.ntmps (fE true fun _=>none) 40 (cA (cA (cB (cB fF)))) (AR v u) (yG v u 0)=some ([],.nrm,yG v u 0):=by kernel_rfl
theorem Dx (p:Option Addr) (K m i:Nat) (u:Value):aH prog (qG prog) f22.ntmps (fE true (aE [(24,.bool true)])) 40 (cA qM) (yG (.slice p K m) u i) (yG (.slice p K m) u i)=some ([aC .lss .i64 (Int.ofNat i) (Int.ofNat K)=some (.bool true)],.nrm,yG (.slice p K m) u i):=by kernel_rfl
theorem Sy (p:Option Addr) (K m i:Nat) (u:Value):aH prog (qG prog) f22.ntmps (fE true (aE [(24,.bool false)])) 40 (cA qM) (yG (.slice p K m) u i) (AR (.slice p K m) u)=some ([aC .lss .i64 (Int.ofNat i) (Int.ofNat K)=some (.bool false)],.ex 2,AR (.slice p K m) u):=by kernel_rfl
theorem Dw (v u:Value) (i:Nat):aH prog (qG prog) f22.ntmps (fE true fun _=>none) 40 (cA (fY (cA (cB qM)))) (yG v u i) (RO v u i 0)=some ([],.nrm,RO v u i 0):=by kernel_rfl
theorem Su (w:World) (b o K m i b' o' n' m' k x:Nat) (u:Value):aH prog { qG prog with x:=xO w (aE [(30,i),(38,i),(41,k)]) (aE [(42,[.q x])]) (aE [(31,aS b' o' n' m'),(39,aS b' o' n' m')]) } f22.ntmps (fE true (aE [(33,.bool true),(44,.bool false),(35,iI (k+1))])) 60 RL (RO (aS b o K m) u i k) (RO (aS b o K m) u i (k+1))=some ([Int.ofNat i=Int.ofNat i,i<K,oldOf w b (o+i*1) [.c (aS b' o' n' m')],aC .lss .i64 (Int.ofNat k) (Int.ofNat n')=some (.bool true),Int.ofNat i=Int.ofNat i,i<K,oldOf w b (o+i*1) [.c (aS b' o' n' m')],Int.ofNat k=Int.ofNat k,k<n',oldOf w b' (o'+k*4) [.q x],cL [.q x]=4,x<bQ,Value.bool (!decide (x<RM))=.bool false,aC .add .i64 (Int.ofNat k) 1=some (iI (k+1))],.nrm,RO (aS b o K m) u i (k+1)):=by kernel_rfl
theorem Sw (w:World) (b o K m i b' o' n' m' k x:Nat) (u:Value):aH prog { qG prog with x:=xO w (aE [(30,i),(38,i),(41,k)]) (aE [(42,[.q x])]) (aE [(31,aS b' o' n' m'),(39,aS b' o' n' m')]) } f22.ntmps (fE true (aE [(33,.bool true),(44,.bool true)])) 60 RL (RO (aS b o K m) u i k) (KY 21)=some ([Int.ofNat i=Int.ofNat i,i<K,oldOf w b (o+i*1) [.c (aS b' o' n' m')],aC .lss .i64 (Int.ofNat k) (Int.ofNat n')=some (.bool true),Int.ofNat i=Int.ofNat i,i<K,oldOf w b (o+i*1) [.c (aS b' o' n' m')],Int.ofNat k=Int.ofNat k,k<n',oldOf w b' (o'+k*4) [.q x],cL [.q x]=4,x<bQ,Value.bool (!decide (x<RM))=.bool true],.rt,KY 21):=by kernel_rfl
theorem Sv (w:World) (b o K m i:Nat) (p:Option Addr) (n' m' k:Nat) (u:Value):aH prog { qG prog with x:=xO w (aE [(30,i)]) (fun _=>none) (aE [(31,.slice p n' m')]) } f22.ntmps (fE true (aE [(33,.bool false)])) 60 RL (RO (aS b o K m) u i k) (yG (aS b o K m) u i)=some ([Int.ofNat i=Int.ofNat i,i<K,oldOf w b (o+i*1) [.c (.slice p n' m')],aC .lss .i64 (Int.ofNat k) (Int.ofNat n')=some (.bool false)],.ex 4,yG (aS b o K m) u i):=by kernel_rfl
theorem St (v u:Value) (i:Nat):aH prog (qG prog) f22.ntmps (fE true (aE [(26,iI (i+1))])) 40 (cB (cB qM)) (yG v u i) (yG v u (i+1))=some ([aC .add .i64 (Int.ofNat i) 1=some (iI (i+1))],.nrm,yG v u (i+1)):=by kernel_rfl
theorem Sn (v u:Value):aH prog (qG prog) f22.ntmps (fE true fun _=>none) 40 (cA (cA (cB (cB (cB fF))))) (AR v u) (MJ v u 0)=some ([],.nrm,MJ v u 0):=by kernel_rfl
theorem Ss (w:World) (v:Value) (b o M m i x:Nat):aH prog { qG prog with x:=xO w (aE [(53,i)]) (aE [(54,[.q x])]) (fun _=>none) } f22.ntmps (fE true (aE [(48,.bool true),(56,.bool false),(50,iI (i+1))])) 40 KZ (MJ v (aS b o M m) i) (MJ v (aS b o M m) (i+1))=some ([aC .lss .i64 (Int.ofNat i) (Int.ofNat M)=some (.bool true),Int.ofNat i=Int.ofNat i,i<M,oldOf w b (o+i*4) [.q x],cL [.q x]=4,x<bQ,Value.bool (!decide (x<RM))=.bool false,aC .add .i64 (Int.ofNat i) 1=some (iI (i+1))],.nrm,MJ v (aS b o M m) (i+1)):=by kernel_rfl
theorem Tb (w:World) (v:Value) (b o M m i x:Nat):aH prog { qG prog with x:=xO w (aE [(53,i)]) (aE [(54,[.q x])]) (fun _=>none) } f22.ntmps (fE true (aE [(48,.bool true),(56,.bool true)])) 40 KZ (MJ v (aS b o M m) i) (KY 21)=some ([aC .lss .i64 (Int.ofNat i) (Int.ofNat M)=some (.bool true),Int.ofNat i=Int.ofNat i,i<M,oldOf w b (o+i*4) [.q x],cL [.q x]=4,x<bQ,Value.bool (!decide (x<RM))=.bool true],.rt,KY 21):=by kernel_rfl
theorem Sx (v:Value) (p:Option Addr) (M m i:Nat):aH prog (qG prog) f22.ntmps (fE true (aE [(48,.bool false)])) 40 KZ (MJ v (.slice p M m) i) (AR v (.slice p M m))=some ([aC .lss .i64 (Int.ofNat i) (Int.ofNat M)=some (.bool false)],.ex 6,AR v (.slice p M m)):=by kernel_rfl
theorem Zl (v u:Value):aH prog (qG prog) f22.ntmps (fE true fun _=>none) 40 (cB (cB (cB (cB fF)))) (AR v u) (KY 0)=some ([],.rt,KY 0):=by kernel_rfl
def Dy (K:Nat) (Ns:Nat→Nat) (fs:Nat→Nat→Nat) (M:Nat) (g:Nat→Nat):Int:=if jB K Ns then (if jH K Ns fs∧bD M g then 0 else 21)else 72
theorem tE {w0:World} {v u:Value} {K M:Nat} {vs:Nat→Value} {Ns:Nat→Nat} {fs:Nat→Nat→Nat} {g:Nat→Nat} (hh:HV w0 v K vs) (hl:∀j,j<K→LV w0 (vs j) (Ns j) (fs j)) (hK:K≤64) (hu:LV w0 u M g) (hM:M≤65536):bI prog 22 (.one (.im (.int .i64 (Dy K Ns fs M g)))) [v,u] w0:=by
 obtain⟨b,o,m,rfl,hb,hr⟩:=hh;have hG:bO prog (qG prog) w0.heap.size w0:=(bE _).w _ _;have hT:∀n d:Nat,TabOkW prog gY w0.heap.size w0:=fun _ _=>eP.w _ _
 obtain⟨pu,mu,rfl,hmu,h256,hmem⟩:=id hu;refine bP func22 (cs:=[.v (.im (aS b o K m)),.v (.im (.slice pu M mu))]) (args:=[aS b o K m,.slice pu M mu]) (c:=fF) rfl ⟨rfl,rfl,trivial⟩ (Nat.le_of_ble_eq_true (by kernel_rfl)) fun a w' hA => ?_
 rw[ZH];refine wp_seq (aA aG hT hG (Sq _ _) trivial hA fun a w' hA => ?_);refine wp_seq (wp_seq (aA aG hT hG (Sp _ _) trivial hA fun a w' hA => ?_));refine wp_block ?_;have bad:∀{e:Int} {a w},Holds f22.ntmps w0.heap.size w0 (KY e) a w→bodyPost prog f22 (fun e' w'=>e'=.returned (RV.den (.one (.im (.int .i64 e))))∧Below w0.heap.size w0 w') .ret a w:=fun {e a w} hA=>bH (l:=[.im (.int .i64 e)]) (r:=.one (.im (.int .i64 e))) (by kernel_rfl) (by kernel_rfl) hA
 have step:∀i,i<K→Ns i≤65536→Ok prog w0.heap.size w0 f22.ntmps RN (RP (aS b o K m) (.slice pu M mu) i) .nrm (RP (aS b o K m) (.slice pu M mu) (i+1)):=fun i hi hs=>by
  obtain⟨p,m',e,_⟩:=hl i hi;have ho:=jZ hb hr hi;rw[e]at ho;exact⟨_,_,_,_,cE w0 _ _ _,hT,Sr w0 b o K m i p (Ns i) m' _,bK hi,rfl,hi,ho,Ea hs,cX (k:=1) (by omega),trivial⟩
 unfold Dy
 by_cases hs:jB K Ns
 ·rw[if_pos hs];refine cH aG (fun i=>RP (aS b o K m) (.slice pu M mu) i) K (fun i hi=>step i hi (hs i hi)) (.ex 0) (by simp) (AR (aS b o K m) (.slice pu M mu)) ⟨_,_,_,_,hG,hT,Sz _ K m K _,bU (Nat.le_refl _),trivial⟩ hA fun a w hA => ?_
  refine wp_seq (wp_seq (aA aG hT hG (So _ _) trivial hA fun a w' hA => ?_));refine wp_block ?_;have instep:∀i,i<K→∀k,k<Ns i→fs i k<RM→Ok prog w0.heap.size w0 f22.ntmps RL (RO (aS b o K m) (.slice pu M mu) i k) .nrm (RO (aS b o K m) (.slice pu M mu) i (k+1)):=fun i hi k hk hx=>by
   have hNi:=hs i hi;have ho:=jZ hb hr hi;obtain⟨p',m',e,_,l256,lmem⟩:=hl i hi;obtain⟨b',o',rfl,hb',hr'⟩:=lmem (by omega);rw[e]at ho;exact⟨_,_,_,_,cE w0 _ _ _,hT,Su w0 b o K m i b' o' (Ns i) m' k (fs i k) _,rfl,hi,ho,bK hk,rfl,hi,ho,rfl,hk,cJ hb' hr' hk,rfl,l256 k hk,by rw[decide_eq_true hx]; rfl,cX (k:=1) (by omega),trivial⟩
  have lstep:∀i,i<K→bD (Ns i) (fs i)→∀a w,Holds f22.ntmps w0.heap.size w0 (yG (aS b o K m) (.slice pu M mu) i) a w→∀Q:Exit→Act→World→Prop,(∀a w,Holds f22.ntmps w0.heap.size w0 (yG (aS b o K m) (.slice pu M mu) (i+1)) a w→Q .normal a w)→qM.wp prog Q a w:=fun i hi hA' a w hA Q hQ=>by
   have ho:=jZ hb hr hi;obtain⟨p',m',e,_⟩:=hl i hi;rw[e]at ho;rw[RK];refine wp_seq (aA aG hT hG (Dx _ K m i _) ⟨bK hi,trivial⟩ hA fun a w hA => ?_);refine wp_seq (wp_block (wp_seq (aA aG hT hG (Dw _ _ i) trivial hA fun a w hA => ?_)));refine wp_block ?_;refine cH aG (fun k=>RO (aS b o K m) (.slice pu M mu) i k) (Ns i) (fun k hk=>instep i hi k hk (hA' k hk)) (.ex 4) (by simp) (yG (aS b o K m) (.slice pu M mu) i) ⟨_,_,_,_,cE w0 _ _ _,hT,Sv w0 b o K m i p' (Ns i) m' (Ns i) _,rfl,hi,ho,bU (Nat.le_refl _),trivial⟩ hA fun a w hA => ?_
   show (cB (cB qM)).wp _ _ _ _;exact aA aG hT hG (St _ _ i) ⟨cX (k:=1) (by omega),trivial⟩ hA fun a w hA=>hQ a w hA
  by_cases hl2:jH K Ns fs
  ·refine jO (fun i a w=>Holds f22.ntmps w0.heap.size w0 (yG (aS b o K m) (.slice pu M mu) i) a w) K (fun i hi a w hA R hR=>lstep i hi (hl2 i hi) a w hA _ fun a w hA=>hR a w hA) (fun a w hA R => ?_) (by exact hA);rw[RK];refine wp_seq (aA aG hT hG (Sy _ K m K _) ⟨bU (Nat.le_refl _),trivial⟩ hA fun a w hA => ?_);show (Code.seq _ _).wp _ _ _ _;refine wp_seq (wp_seq (aA aG hT hG (Sn _ _) trivial hA fun a w' hA => ?_));refine wp_block ?_;have step4:∀i,i<M→g i<RM→Ok prog w0.heap.size w0 f22.ntmps KZ (MJ (aS b o K m) (.slice pu M mu) i) .nrm (MJ (aS b o K m) (.slice pu M mu) (i+1)):=fun i hi hx=>by
    obtain⟨b',o',rfl,hb',hr'⟩:=hmem (by omega);exact⟨_,_,_,_,cE w0 _ _ _,hT,Ss w0 _ b' o' M mu i (g i),bK hi,rfl,hi,cJ hb' hr' hi,rfl,h256 i hi,by rw[decide_eq_true hx]; rfl,cX (k:=1) (by omega),trivial⟩
   by_cases hg:bD M g
   ·rw[if_pos ⟨hl2,hg⟩];refine cH aG (fun i=>MJ (aS b o K m) (.slice pu M mu) i) M (fun i hi=>step4 i hi (hg i hi)) (.ex 6) (by simp) (AR (aS b o K m) (.slice pu M mu)) ⟨_,_,_,_,hG,hT,Sx _ _ M mu M,bU (Nat.le_refl _),trivial⟩ hA fun a w hA => ?_
    show (cB (cB (cB (cB fF)))).wp _ _ _ _;exact aA aG hT hG (Zl _ _) trivial hA fun a w' hA=>bad hA
   ·rw[if_neg fun q=>hg q.2];obtain⟨j,hj,h1,h2⟩:=eU (p:=fun j=>g j<RM) hg;have hbad:Ok prog w0.heap.size w0 f22.ntmps KZ (MJ (aS b o K m) (.slice pu M mu) j) .rt (KY 21):=by
     obtain⟨b',o',rfl,hb',hr'⟩:=hmem (by omega);exact⟨_,_,_,_,cE w0 _ _ _,hT,Tb w0 _ b' o' M mu j (g j),bK hj,rfl,hj,cJ hb' hr' hj,rfl,h256 j hj,by rw[decide_eq_false h2]; rfl,trivial⟩
    exact cH aG (fun i=>MJ (aS b o K m) (.slice pu M mu) i) j (fun i hi=>step4 i (by omega) (h1 i hi)) .rt (by simp) (KY 21) hbad hA fun a w hA=>bad hA
  ·rw[if_neg fun q=>hl2 q.1];obtain⟨j,hj,h1,h2⟩:=eU (p:=fun j=>bD (Ns j) (fs j)) hl2;obtain⟨k,hk,k1,k2⟩:=eU (p:=fun k=>fs j k<RM) h2;refine jO (fun i a w=>Holds f22.ntmps w0.heap.size w0 (yG (aS b o K m) (.slice pu M mu) i) a w) j (fun i hi a w hA R hR=>lstep i (by omega) (h1 i hi) a w hA _ fun a w hA=>hR a w hA) (fun a w hA R => ?_) (by exact hA);have ho:=jZ hb hr hj;have hNj:=hs j hj;obtain⟨p',m',e,_,l256,lmem⟩:=hl j hj;obtain⟨b',o',rfl,hb',hr'⟩:=lmem (by omega);rw[e]at ho;rw[RK];refine wp_seq (aA aG hT hG (Dx _ K m j _) ⟨bK hj,trivial⟩ hA fun a w hA => ?_);refine wp_seq (wp_block (wp_seq (aA aG hT hG (Dw _ _ j) trivial hA fun a w hA => ?_)));refine wp_block ?_;exact cH aG (fun k=>RO (aS b o K m) (.slice pu M mu) j k) k (fun i hi=>instep j hj i (by omega) (k1 i hi)) .rt (by simp) (KY 21) ⟨_,_,_,_,cE w0 _ _ _,hT,Sw w0 b o K m j b' o' (Ns j) m' k (fs j k) _,rfl,hj,ho,bK hk,rfl,hj,ho,rfl,hk,cJ hb' hr' hk,rfl,l256 k hk,by rw[decide_eq_false k2]; rfl,trivial⟩ hA fun a w hA=>bad hA
 ·rw[if_neg hs];obtain⟨j,hj,h1,h2⟩:=eU (p:=fun j=>Ns j≤65536) hs;obtain⟨p,m',e,_⟩:=hl j hj;have ho:=jZ hb hr hj;rw[e]at ho;exact cH aG (fun i=>RP (aS b o K m) (.slice pu M mu) i) j (fun i hi=>step i (by omega) (h1 i hi)) .rt (by simp) (KY 72) ⟨_,_,_,_,cE w0 _ _ _,hT,Ta w0 b o K m j p (Ns j) m' _,bK hj,rfl,hj,ho,Dz h2,trivial⟩ hA fun a w hA=>bad hA
theorem Holds.anewS {nt base:Nat} {w0:World} {A:List Fact} {a:Act} {w:World} (h:Holds nt base w0 A a w) {w':World} (hb:Below base w0 w') (hs:Shape w w') (hh:base≤w'.heap.size) {d k b n cap e sz:Nat} {l:List At} (hd:d<nt) (h1:base≤b) (h2:b<w'.heap.size) (h3:w'.rangeAt b 0 (aB l)) (h4:∀j,w'.frozen? ⟨b,j,none⟩=false) (ha:AppAt w' b e sz n cap) (hk:k≠nt) :
  Holds nt base w0 [.slot d (.so k n),.row k true l,.app k e sz n] (a.put (some d) (.slice (some ⟨b,0,none⟩) n cap)) w':=by
 obtain⟨β,g1,g2,g3,gt⟩:=h.facts;refine⟨by rw[eO]; exact h.defers,by rw[dK]; exact h.size,hb,hh,fun j=>if j=nt then (0,0,0)else (b,0,cap),fun φ hφ => ?_,fun k1 k2 o2 l1 l2 q1 q2 hne => ?_,fun k1 l1 q1=>Or.inr ?_,?_,fun p p1 p2 => ?_,gt.shape.trans hs⟩
 ·simp only[List.mem_cons,List.not_mem_nil,or_false]at hφ
  rcases hφ with rfl|rfl|rfl
  ·show (a.put (some d) _).tmps[d]?=_;rw[eT _ _ _ (by rw[h.size]; exact hd)];simp[AV.den,hk]
  ·refine⟨by simp[hk,h2],?_,fun _=>⟨by simp[hk,h1],by simp[hk],fun j=>by simp[hk,h4]⟩,fun h=>by cases h⟩;show w'.rangeAt (if k=nt then ((0,0,0):Bk)else (b,0,cap)).1 (if k=nt then ((0,0,0):Bk)else (b,0,cap)).2.1 _;rw[if_neg hk]; exact h3
  ·show AppAt w' (if k=nt then ((0,0,0):Bk)else (b,0,cap)).1 e sz n (if k=nt then ((0,0,0):Bk)else (b,0,cap)).2.2;rw[if_neg hk]; exact ha
 ·simp only[List.mem_cons,List.not_mem_nil,or_false,reduceCtorEq,false_or]at q1 q2;cases q1; cases q2; exact (hne rfl).elim
 ·show (if nt=nt then ((0,0,0):Bk)else (b,0,cap)).1≤_;rw[if_pos rfl]; exact Nat.zero_le _
 ·show (if nt=nt then ((0,0,0):Bk)else (b,0,cap)).1≤_;rw[if_pos rfl]; exact Nat.zero_le _
 ·exfalso;have h2:p.block<(if nt=nt then ((0,0,0):Bk)else (b,0,cap)).1:=p2;rw[if_pos rfl]at h2;exact absurd h2 (Nat.not_lt_zero _)
theorem Zw:Wb prog 22=some (25,4,32):=by kernel_rfl
theorem xY (f:Nat→Nat):∀n s,(aB (aP (el f) s n)).length=n*4
 | 0,s=>by rw[Nat.zero_mul]; rfl
 | n+1,s=>by
  show (aB (el f s++aP (el f) (s+1) n)).length=_;rw[aN,List.length_append,xY f n (s+1),Nat.add_mul,Nat.one_mul,Nat.add_comm];rfl
theorem rC (f:Nat→Nat):∀n s,∀v∈aB (aP (el f) s n),v.oneCell'=true
 | 0,s,v,h=>by cases h
 | n+1,s,v,h=>by
  have h:v∈aB (el f s++aP (el f) (s+1) n):=h;rw[aN]at h
  rcases List.mem_append.1 h with h|h
  ·have h:v∈[Value.int .u64 (fw (f s) 0:Nat),.int .u64 (fw (f s) 1:Nat),.int .u64 (fw (f s) 2:Nat),.int .u64 (fw (f s) 3:Nat)]:=h;simp only[List.mem_cons,List.not_mem_nil,or_false]at h
   rcases h with rfl|rfl|rfl|rfl<;>rfl
  ·exact rC f n (s+1) v h
theorem Cj {w:World} {p:Option Addr} {N m:Nat} {f:Nat→Nat} (hv:LV w (.slice p N m) N f) (h0:0<N) (hN:N≤131072) (ty:TypeId) :
  ∃b cap w',(Builtin.append_ #[22,22] ty #[.slice none 0 0,.slice p N m]).run prog w=.ok (.slice (some ⟨b,0,none⟩) N cap) w'∧AppAt w' b 25 4 N cap∧w.heap.size≤b∧b<w'.heap.size∧w'.rangeAt b 0 (aB (aP (el f) 0 N))∧(∀j,w'.frozen? ⟨b,j,none⟩=false)∧Below w.heap.size w w'∧Shape w w':=by
 obtain⟨p',m',e,h2,h3,h4⟩:=hv;cases e;obtain⟨b,o,rfl,hb,hr⟩:=h4 h0;obtain⟨c,cap,w',hr',a1,a2,a3,a4,a5,a6,a7⟩:=nO (P:=prog) w (ty:=ty) Zw (Or.inl ⟨rfl,rfl,rfl⟩) (ad:=⟨b,o,none⟩) (m:=N) (c:=m) (news:=aB (aP (el f) 0 N)) (xY f N 0) (fun j v hj=>by
  have e:(⟨b,o,none⟩:Addr).add j=⟨b,o+j,none⟩:=by simp[Addr.add]
  rw[e];exact hr j v hj) (rC f N 0) h0 (by omega) (by unfold maxLen; omega)
 rw[Nat.zero_add]at hr' a1;refine⟨c,cap,w',hr',a1,?_,a2,a3,a4,(Below.refl w.heap.size w).grown a5 (Nat.le_refl _) (fun k hk=>by cases hk),a6⟩
 rcases a7 with h|⟨c0,h⟩
 ·exact h
 ·cases h
theorem BT {w:World} {p:Option Addr} {m:Nat} (hp:p=none→m=0) (ty:TypeId):∃w',(Builtin.append_ #[22,22] ty #[.slice none 0 0,.slice p 0 m]).run prog w=.ok (.slice none 0 0) w'∧Below w.heap.size w w':=by
 obtain⟨ht,i,z,hi,hz,hsize,hby,hzs,hsz⟩:=BU Zw;cases p with
 | none =>
  rw[hp rfl];exact⟨w,run_append_owned_none (P:=prog) w w.heap.size _ ty _ i 4 ht hi _ 0 [] (World.ownsRow_nil w w.heap.size _ 4),Below.refl _ _⟩
 | some ad =>
  obtain⟨v',w',hr,hown,hg,hne⟩:=run_append_own (P:=prog) w w.heap.size _ ty _ i z 4 32 ht hi hz hsize hby hzs hsz _ 0 [] (World.ownsRow_nil w w.heap.size _ 4) ad 0 m [] rfl (fun j u hj=>by simp at hj) (fun u hu=>by cases hu) (by unfold maxLen; omega) (by omega) (Nat.le_refl _);have hv:v'=.slice none 0 0:=hne.2 ⟨rfl,rfl⟩;subst hv;exact⟨w',hr,(Below.refl w.heap.size w).grown hg (Nat.le_refl _) (fun k hk=>by cases hk)⟩
def eE:Code:=(f25.body).getD .skip
def vV:Code:=fY (fY (cA (cB (cB eE))))
theorem VM:eE=.seq (cA eE) (.seq (cA (cB eE)) (.seq (.block 0 (.loop vV)) (.seq (cA (cB (cB (cB eE)))) (.seq (.region 5 (aK (cA (cB (cB (cB (cB eE)))))) false) .ret)))):=by kernel_rfl
theorem Nj (v:Value):aH prog (qG prog) f25.ntmps (cF fun _=>none) 40 (cA eE) (dX 0 [.v (.im v)]) [.slot 0 (.im v)]=some ([],.nrm,[.slot 0 (.im v)]):=by kernel_rfl
theorem Ni (p:Option Addr) (N m:Nat):aH prog (qG prog) f25.ntmps (cF fun _=>none) 40 (cA (cB eE)) [.slot 0 (.im (.slice p N m))] (mK (.slice p N m) N)=some ([],.nrm,mK (.slice p N m) N):=by kernel_rfl
theorem Nk (w:World) (b o N m i x:Nat):aH prog { qG prog with x:=xO w (aE [(13,i)]) (aE [(14,[.q x])]) (fun _=>none) } f25.ntmps (Dp true (aE [(8,.bool true),(12,iI i),(19,iI i)])) 40 vV (mK (aS b o N m) (i+1)) (mK (aS b o N m) i)=some ([aC .gtr .i64 (Int.ofNat (i+1)) 0=some (.bool true),aC .sub .i64 (Int.ofNat (i+1)) 1=some (iI i),Int.ofNat i=Int.ofNat i,i<N,oldOf w b (o+i*4) [.q x],cL [.q x]=4,aB [.q x]=aB [.f ⟨0,dP⟩],aC .sub .i64 (Int.ofNat (i+1)) 1=some (iI i)],.nrm,mK (aS b o N m) i):=by kernel_rfl
theorem Fc (w:World) (b o N m i x:Nat):aH prog { qG prog with x:=xO w (aE [(13,i)]) (aE [(14,[.q x])]) (fun _=>none) } f25.ntmps (Dp false (aE [(8,.bool true),(12,iI i),(19,iI i)])) 40 vV (mK (aS b o N m) (i+1)) (mK (aS b o N m) (i+1))=some ([aC .gtr .i64 (Int.ofNat (i+1)) 0=some (.bool true),aC .sub .i64 (Int.ofNat (i+1)) 1=some (iI i),Int.ofNat i=Int.ofNat i,i<N,oldOf w b (o+i*4) [.q x],cL [.q x]=4,aB [.q x]≠aB [.f ⟨0,dP⟩]],.ex 0,mK (aS b o N m) (i+1)):=by kernel_rfl
theorem Fd (v:Value):aH prog (qG prog) f25.ntmps (Dp true (aE [(8,.bool false)])) 40 vV (mK v 0) (mK v 0)=some ([aC .gtr .i64 (Int.ofNat 0) 0=some (.bool false)],.ex 0,mK v 0):=by kernel_rfl
def Xu (v:Value) (T:Nat):List Fact:=.slot 4 (.im (.slice none 0 0))::mK v T
theorem Nh (v:Value) (T:Nat):aH prog (qG prog) f25.ntmps (cF fun _=>none) 40 (cA (cB (cB (cB eE)))) (mK v T) (Xu v T)=some ([],.nrm,Xu v T):=by kernel_rfl
def Cz (p:Option Addr) (T m:Nat):List Fact:=[.slot 20 (.im (.slice none 0 0)),.slot 23 (.im (.slice p T m))]
theorem Ng (p:Option Addr) (N m T:Nat):cP prog (qG prog) f25.ntmps bL ((aK (cA (cB (cB (cB (cB eE)))))).extract 0 4) (Xu (.slice p N m) T) (Cz p T m)=some ([T≤m],Cz p T m):=by kernel_rfl
theorem Nf (T:Nat) (l:List At):cP prog (qG prog) f25.ntmps bL ((aK (cA (cB (cB (cB (cB eE)))))).extract 5 6) [.slot 24 (.so 1000 T),.row 1000 true l,.app 1000 25 4 T] [.slot 2 (.so 1000 T),.row 1000 true l,.app 1000 25 4 T]=some ([],[.slot 2 (.so 1000 T),.row 1000 true l,.app 1000 25 4 T]):=by kernel_rfl
theorem Nd (p:Option Addr) (T m:Nat):cP prog (qG prog) f25.ntmps bL ((aK (cA (cB (cB (cB (cB eE)))))).extract 5 6) (.slot 24 (.im (.slice none 0 0))::Cz p T m) [.slot 2 (.im (.slice none 0 0))]=some ([],[.slot 2 (.im (.slice none 0 0))]):=by kernel_rfl
theorem Fb (T:Nat) (l:List At):rZ prog [.slot 2 (.so 1000 T),.row 1000 true l,.app 1000 25 4 T] f25.results.toList []=some ⟨l,T,25,4,true,[],[]⟩:=by
 have h:Nat.beq T T=true:=Nat.beq_refl T;show (bif Nat.beq T T then some (FS.mk l T 25 4 true [] [])else none)=_;rw[h];rfl
theorem iD {w0:World} {p:Option Addr} {N m:Nat} {f:Nat→Nat} (hv:LV w0 (.slice p N m) N f) (hN:N≤131072) (hp:p=none→m=0) :
  (aF f N=0→bI prog 25 (.one (.im (.slice none 0 0))) [.slice p N m] w0) ∧
  (0<aF f N→Calls prog 25 #[.slice p N m] w0 (fun e w'=>FS.ok ⟨aP (el f) 0 (aF f N),aF f N,25,4,true,[],[]⟩ w0 e w')):=by
 have hG:bO prog (qG prog) w0.heap.size w0:=(bE _).w _ _;have hT:∀n d:Nat,TabOkW prog dB w0.heap.size w0:=fun _ _=>aY.w _ _
 have hm:N≤m:=by obtain⟨_,_,e,h,_⟩:=hv; cases e; exact h
 have hle:=cI f N;have first:∀R:Ending→World→Prop,(∀a w,Holds f25.ntmps w0.heap.size w0 (Cz p (aF f N) m) a w→wpOps prog (aK (cA (cB (cB (cB (cB eE)))))) (fun e a w=>match e with | .normal=>Code.ret.wp prog (bodyPost prog f25 R) a w|e=>bodyPost prog f25 R e a w) (4::(List.range' 5 ((aK (cA (cB (cB (cB (cB eE)))))).extract 5 6).size++[])) a w)→Calls prog 25 #[.slice p N m] w0 R:=fun R hR=>by
  obtain⟨p',m',e,hm,h256,hmem⟩:=id hv;cases e;refine bP func25 (cs:=[.v (.im (.slice p N m))]) (args:=[.slice p N m]) (c:=eE) rfl ⟨rfl,trivial⟩ (Nat.le_of_ble_eq_true (by kernel_rfl)) fun a w' hA => ?_
  rw[VM];refine wp_seq (aA aG hT hG (Nj _) trivial hA fun a w' hA => ?_);refine wp_seq (aA aG hT hG (Ni p N m) trivial hA fun a w' hA => ?_);refine wp_seq (wp_block ?_);have hz:=mW f N;have hl:=eR f N;generalize aF f N=T at hle hz hl hR ⊢;refine cH aG (fun i=>mK (.slice p N m) (N-i)) (N-T) (fun i hi => ?_) (.ex 0) (by simp) (mK (.slice p N m) T) ?_ hA fun a w hA => ?_
  ·have h0:0<N:=by omega
   have hk:N-i=(N-i-1)+1:=by omega
   have hk2:N-(i+1)=N-i-1:=by omega
   have hk3:T≤N-i-1:=by omega
   have hk4:N-i-1<N:=by omega
   have hk5:N-i-1<4611686018427387904:=by omega
   show Ok _ _ _ _ _ (mK _ (N-i)) _ (mK _ (N-(i+1)));rw[hk2,hk];clear hk hk2;obtain⟨b,o,rfl,hb,hr⟩:=hmem h0;generalize N-i-1=k at hk3 hk4 hk5 ⊢;exact⟨_,_,_,_,cE w0 _ _ _,fun _ _=>aY.w _ _,Nk w0 b o N m k (f k),wP,pA hk5,rfl,hk4,cJ hb hr hk4,rfl,(lZ (h256 k hk4)).2 (hz k hk3 hk4),pA hk5,trivial⟩
  ·have e:N-(N-T)=T:=by omega
   rw[e];cases T with
   | zero=>exact⟨_,_,_,_,hG,fun _ _=>aY.w _ _,Fd _,rfl,trivial⟩
   | succ k =>
    have h0:0<N:=by omega
    have hk4:k<N:=by omega
    have hk5:k<4611686018427387904:=by omega
    obtain⟨b,o,rfl,hb,hr⟩:=hmem h0;have hl:=hl (Nat.succ_pos k);exact⟨_,_,_,_,cE w0 _ _ _,fun _ _=>aY.w _ _,Fc w0 b o N m k (f k),wP,pA hk5,rfl,hk4,cJ hb hr hk4,rfl,fun h=>hl ((lZ (h256 k hk4)).1 h),trivial⟩
  ·show (Code.seq _ _).wp _ _ _ _;refine wp_seq (aA aG hT hG (Nh _ T) trivial hA fun a w' hA => ?_);refine wp_seq (bV (l:=List.range' 0 ((aK (cA (cB (cB (cB (cB eE)))))).extract 0 4).size++(4::(List.range' 5 ((aK (cA (cB (cB (cB (cB eE)))))).extract 5 6).size++[]))) (by kernel_rfl) ?_);exact aI (c:=bL) (hT 0) hG (Ng p N m T) ⟨by omega,trivial⟩ (by kernel_rfl) hA fun a w1 hA=>hR a w1 hA
 obtain⟨o,ho,hoo,hod,hog⟩:∃o,(aK (cA (cB (cB (cB (cB eE))))))[4]?=some o∧o.op=.call ⟨.builtin .append,#[.tmp 20,.tmp 23],#[22,22]⟩∧o.dst=some 24∧o.guard=none:=⟨_,rfl,rfl,rfl,rfl⟩
 refine⟨fun h0=>first _ fun a w hA => ?_,fun h0=>first _ fun a w hA => ?_⟩
 ·rw[h0]at hA;have h20:a.eval (.tmp 20)=.slice none 0 0:=by have:=hA.slot (s:=20) (v:=.slice none 0 0) (by simp[Cz]); simp[Act.eval,this]
  have h23:a.eval (.tmp 23)=.slice p 0 m:=by have:=hA.slot (s:=23) (v:=.slice p 0 m) (by simp[Cz]); simp[Act.eval,this]
  obtain⟨w',hr,hb⟩:=BT (w:=w) hp o.type;have hrun:(execOp a.eval o).run prog w=.ok (.value (.slice none 0 0)) w':=by
   unfold execOp;simp only[hoo,resolve,invoke,builtin,Sem.run_bind,Sem.run_pure,Result.andThen_ok,List.map_toArray,List.map_cons,List.map_nil,h20,h23,hr]
  refine eD ho hog (gL hrun ?_);rw[hod];have hA:=hA.put hb (d:=24) (Nat.le_of_ble_eq_true (by kernel_rfl)) (.im (.slice none 0 0)) (nT (by kernel_rfl));exact aI (c:=bL) (hT 0) hG (Nd p 0 m) trivial (by kernel_rfl) hA fun a w1 hA=>wp_ret (bH (l:=[.im (.slice none 0 0)]) (r:=.one (.im (.slice none 0 0))) (by kernel_rfl) (by kernel_rfl) hA)
 ·have h20:a.eval (.tmp 20)=.slice none 0 0:=by have:=hA.slot (s:=20) (v:=.slice none 0 0) (by simp[Cz]); simp[Act.eval,this]
  have h23:a.eval (.tmp 23)=.slice p (aF f N) m:=by have:=hA.slot (s:=23) (v:=.slice p (aF f N) m) (by simp[Cz]); simp[Act.eval,this]
  obtain⟨b,cap,w',hr,a1,a2,a3,a4,a5,hb,hs⟩:=Cj ((hv.on hA.below).take hle) h0 (by omega) o.type;have hrun:(execOp a.eval o).run prog w=.ok (.value (.slice (some ⟨b,0,none⟩) (aF f N) cap)) w':=by
   unfold execOp;simp only[hoo,resolve,invoke,builtin,Sem.run_bind,Sem.run_pure,Result.andThen_ok,List.map_toArray,List.map_cons,List.map_nil,h20,h23,hr]
  refine eD ho hog (gL hrun ?_);rw[hod];have hsz:=hA.below.size;have hA:=hA.anewS (hA.below.trans (hb.mono hsz)) hs (Nat.le_trans hsz hb.size) (d:=24) (k:=1000) (Nat.le_of_ble_eq_true (by kernel_rfl)) (Nat.le_trans hsz a2) a3 a4 a5 a1 (by rw[show f25.ntmps=25 by kernel_rfl]; omega);exact aI (c:=bL) (hT 0) hG (Nf (aF f N) _) trivial (by kernel_rfl) hA fun a w1 hA=>wp_ret (gE (Fb _ _) hA)
def xOS (w:World) (idx:Nat→Option Nat) (ld st:Nat→Option (List At)):Ext:={ Ext.none with idx:=idx,ld:=ld,st:=st,old:=oldOf w,T2:=lY,T3:=vR,T4:=CH,T5:=CI,T6:=CJ }
theorem Es (w:World) (idx:Nat→Option Nat) (ld st:Nat→Option (List At)):bO prog { qG prog with x:=xOS w idx ld st } w.heap.size w :=
 ⟨(bE _).1,eJ (fun b o l h=>h) (fun w' _=>FrAt.none _ _) (fun w' _=>FsAt.none _ _)⟩
def Ls (T3:Tab3):Ext:={ Ext.none with T2:=lY,T3:=T3,T4:=CH,T5:=CI,T6:=CJ }
theorem rG {base:Nat} {w:World} {T3:Tab3} (h:∀w',Below base w w'→FsAt prog T3 w'):bO prog { qG prog with x:=Ls T3 } base w :=
 ⟨(bE _).1,eJ (fun b o l h=>h.elim) (fun w' _=>FrAt.none _ _) h⟩
def LC (N:Nat) (f:Nat→Nat):List CA→Option (List Prop×FS)
 | [.s l n m]=>some ([aB l=aB (aP (el f) 0 N),n=N,N≤m,(∀j,j<N→f j<bQ),N≤131072,0<aF f N],⟨aP (el f) 0 (aF f N),aF f N,25,4,true,[],[]⟩)
 | _=>none
theorem qR {N:Nat} {f:Nat→Nat}:∀cs pre r,LC N f cs=some (pre,r)→aR pre→∀(args:List Value) (w:World),cO w cs args→Calls prog 25 args.toArray w (fun e w'=>r.ok w e w'):=by
 intro cs pre r hg hp args w ha;unfold LC at hg;split at hg
 ·rename_i l n m;cases hg;obtain⟨p1,p2,p3,p4,p5,p6,_⟩:=hp
  match args,ha with
  | [a1],ha =>
   have hl:=LV.ofS ha.1 p1 p2 p3 p4;obtain⟨b,o,rfl,_⟩:=ha.1;subst p2;exact (iD hl p5 fun h=>by cases h).2 p6
  | [],ha=>exact ha.elim
  | _::_::_,ha=>exact ha.2.elim
 ·cases hg
def RT (N:Nat) (f:Nat→Nat):iP
 | [.s l n m]=>some ([aB l=aB (aP (el f) 0 N),n=N,N≤m,(∀j,j<N→f j<bQ),N≤131072,aF f N=0],.one (.im (.slice none 0 0)))
 | _=>none
theorem xE {N:Nat} {f:Nat→Nat}:∀cs pre r,RT N f cs=some (pre,r)→aR pre→∀(args:List Value) (w:World),cO w cs args→bI prog 25 r args w:=by
 intro cs pre r hg hp args w ha;unfold RT at hg;split at hg
 ·rename_i l n m;cases hg;obtain⟨p1,p2,p3,p4,p5,p6,_⟩:=hp
  match args,ha with
  | [a1],ha =>
   have hl:=LV.ofS ha.1 p1 p2 p3 p4;obtain⟨b,o,rfl,_⟩:=ha.1;subst p2;exact (iD hl p5 fun h=>by cases h).1 p6
  | [],ha=>exact ha.elim
  | _::_::_,ha=>exact ha.2.elim
 ·cases hg
theorem Holds.reflat {nt base:Nat} {w0:World} {A:List Fact} {a:Act} {w:World} {k:Nat} {l l':List At} (h:Holds nt base w0 (.row k true l::A) a w) (e:aB l=aB l'):Holds nt base w0 (.row k true l'::A) a w:=by
 obtain⟨β,g1,g2,g3⟩:=h.facts;have up:∀k1 o1 l1,Fact.row k1 o1 l1∈(Fact.row k true l'::A)→∃l2,Fact.row k1 o1 l2∈(Fact.row k true l::A):=fun k1 o1 l1 q=>by
  rcases List.mem_cons.1 q with q|q
  ·cases q; exact⟨l,List.mem_cons_self⟩
  ·exact⟨l1,List.mem_cons_of_mem _ q⟩
 refine⟨h.defers,h.size,h.below,h.heap,β,fun φ hφ => ?_,fun k1 k2 o2 l1 l2 q1 q2 => ?_,fun k1 l1 q => ?_,g3.2⟩
 ·rcases List.mem_cons.1 hφ with rfl|hφ
  ·have:=g1 _ (List.mem_cons_self);simp only[Fact.ok]at this ⊢;rw[←e]; exact this
  ·exact g1 φ (List.mem_cons_of_mem _ hφ)
 ·obtain⟨m1,q1⟩:=up _ _ _ q1;obtain⟨m2,q2⟩:=up _ _ _ q2;exact g2 k1 k2 o2 m1 m2 q1 q2
 ·obtain⟨m1,q⟩:=up _ _ _ q;exact g3.1 k1 m1 q
def mO (x N:Nat) (f:Nat→Nat):Nat→Nat
 | 0=>0
 | k+1=>dH (dF (mO x N f k) x) (f (N-1-k))
def Ik (x N:Nat) (f:Nat→Nat):Nat→Nat→Nat
 | 0=>fun _=>0
 | k+1=>cN (Ik x N f k) (N-1-k) (mO x N f k)
theorem RJ (x N:Nat) (f:Nat→Nat):∀k,mO x N f k<RM
 | 0=>fK
 | k+1=>gT _ _
theorem Im (N:Nat) (f:Nat→Nat) (x:Nat):Dy 1 (fun _=>N) (fun _=>f) 1 (fun _=>x)=fB N f x:=by
 have e1:jB 1 (fun _=>N)↔N≤65536:=⟨fun h=>h 0 (by omega),fun h j hj=>h⟩;have e2:jH 1 (fun _=>N) (fun _=>f)↔bD N f:=⟨fun h=>h 0 (by omega),fun h j hj=>h⟩;have e3:bD 1 (fun _=>x)↔x<RM:=⟨fun h=>h 0 (by omega),fun h j hj=>h⟩;unfold Dy fB;simp only[e1,e2,e3]
end Go.Proofs.YtjjnbgoepbiojaaGreat.Ex
