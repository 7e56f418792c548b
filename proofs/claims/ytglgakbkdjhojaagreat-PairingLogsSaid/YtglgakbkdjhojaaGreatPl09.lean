/- Pl09 -/
import Derived.Deep.DeepCutAuto
import Derived.Test.YtglgakbkdjhojaaGreatPl08
import Derived.Test.YtglgakbkdjhojaaGreatPl06
import Derived.Test.YtglgakbkdjhojaaGreatPl07
import Derived.Test.YtglgakbkdjhojaaGreatPl03
import Derived.Test.YtglgakbkdjhojaaGreatProg
set_option maxRecDepth 100000
set_option linter.unusedVariables false
set_option linter.unnecessarySimpa false
set_option linter.unusedSimpArgs false
noncomputable section
namespace Go.Proofs.YtglgakbkdjhojaaGreat
open Go.Proofs.Tryz
open Go.RowKit
set_option maxHeartbeats 2000000 in
theorem zP (f:Int) (F:FC) (hf:FieldIs f F) (w:World):Calls prog 31 #[.int .i64 f] w fun e w'=>e=.returned (.agg #[.int .u64 F.s0,.int .u64 F.s1,.int .u64 F.s2,.int .u64 F.s3])∧Below w.heap.size w w':=by
 rcases hf with⟨rfl,rfl⟩|⟨rfl,rfl⟩
 ·go_enter func31,ntmps31
  go_wp2_with fail;refine bodyPost_ret (v:=.agg #[.int .u64 FP.s0,.int .u64 FP.s1,.int .u64 FP.s2,.int .u64 FP.s3]) (by simp[results,results31,go_sem,FP]) rfl ?_;refine⟨rfl,?_⟩
  repeat (first|exact Below.refl _ _|refine Below.drew ?_|refine Below.alloc ?_ (by first|(simp; done)|(simp; omega)) _|refine Below.setCell ?_ (by simp) _)
 ·go_enter func31,ntmps31
  go_wp2_with fail;refine bodyPost_ret (v:=.agg #[.int .u64 FR.s0,.int .u64 FR.s1,.int .u64 FR.s2,.int .u64 FR.s3]) (by simp[results,results31,go_sem,FR]) rfl ?_;refine⟨rfl,?_⟩
  repeat (first|exact Below.refl _ _|refine Below.drew ?_|refine Below.alloc ?_ (by first|(simp; done)|(simp; omega)) _|refine Below.setCell ?_ (by simp) _)
set_option maxHeartbeats 2000000 in
theorem yB (f:Int) (F:FC) (hf:FieldIs f F) (a0 a1 a2 a3 b0 b1 b2 b3:Nat) (ha:bY a0 a1 a2 a3) (hb:bY b0 b1 b2 b3) (w:World) :
  Calls prog 32 #[.int .i64 f,.agg #[.int .u64 a0,.int .u64 a1,.int .u64 a2,.int .u64 a3],.agg #[.int .u64 b0,.int .u64 b1,.int .u64 b2,.int .u64 b3]] w (fF ((aC a0 a1 a2 a3+aC b0 b1 b2 b3)%F.M) w):=by
 have hpos:=hf.ok.pos;have h2M:=hf.ok.two
 go_enter func32,ntmps32
 go_wp2_with fail;have HM:=Lib.hid ((((Mem.nil w).new (w.heap.size) a0 a1 a2 a3 25 (by simp)).new (w.heap.size+1) b0 b1 b2 b3 25 (by simp)).new (w.heap.size+1+1) 0 0 0 0 25 (by simp))
 go_upto_region 1 with fail
 go_cut [7] (fun s7 wx=>∃gb s0 s1 s2 s3:Nat,s7=.pointer (some ⟨gb,0,none⟩)∧bY s0 s1 s2 s3∧Hid (aC s0 s1 s2 s3=aC a0 a1 a2 a3%F.M+aC b0 b1 b2 b3%F.M)∧Hid (Mem w wx [(gb,s0,s1,s2,s3),(w.heap.size+1+1,0,0,0,0)]))
 case first =>
  refine fG (fun wx=>Mem w wx [(w.heap.size+1+1,0,0,0,0),(w.heap.size+1,b0,b1,b2,b3),(w.heap.size,a0,a1,a2,a3)]) 12 (by kernel_rfl) ?_;have HM':=Lib.hid (HM.out.drewN 1);clear HM;have HM:=HM';clear HM';have HS:=HM.out.sub (rs':=[(w.heap.size+1+1,0,0,0,0),(w.heap.size+1,b0,b1,b2,b3),(w.heap.size,a0,a1,a2,a3)]) (by simp);refine aK (i:=0) (v:=.int .i64 f) rfl (by kernel_rfl) (by kernel_rfl) (by kernel_rfl) (by kernel_rfl) (fun _ _ _ h=>h) HS (Or.inl ⟨by kernel_rfl,fun wx hx => ?_⟩) ?_
  ·clear HS hx;go_simp
  simp only[Act.put,List.setIfInBounds_toArray,List.set_cons_zero,List.set_cons_succ];refine aK (i:=1) (v:=.agg #[.int .u64 a0,.int .u64 a1,.int .u64 a2,.int .u64 a3]) rfl (by kernel_rfl) (by kernel_rfl) (by kernel_rfl) (by kernel_rfl) (fun _ _ _ h=>h) HS (Or.inl ⟨by kernel_rfl,fun wx hx => ?_⟩) ?_
  ·have kr:=hx.row (b:=w.heap.size) (c0:=a0) (c1:=a1) (c2:=a2) (c3:=a3) (by simp);have x0:=kr.c0; have x1:=kr.c1; have x2:=kr.c2; have x3:=kr.c3;clear kr HS hx;go_simp
  simp only[Act.put,List.setIfInBounds_toArray,List.set_cons_zero,List.set_cons_succ];refine aK (i:=3) (v:=.int .i64 f) rfl (by kernel_rfl) (by kernel_rfl) (by kernel_rfl) (by kernel_rfl) (fun _ _ _ h=>h) HS (Or.inl ⟨by kernel_rfl,fun wx hx => ?_⟩) ?_
  ·clear HS hx;go_simp
  simp only[Act.put,List.setIfInBounds_toArray,List.set_cons_zero,List.set_cons_succ];refine aK (i:=4) (v:=.agg #[.int .u64 b0,.int .u64 b1,.int .u64 b2,.int .u64 b3]) rfl (by kernel_rfl) (by kernel_rfl) (by kernel_rfl) (by kernel_rfl) (fun _ _ _ h=>h) HS (Or.inl ⟨by kernel_rfl,fun wx hx => ?_⟩) ?_
  ·have kr:=hx.row (b:=w.heap.size+1) (c0:=b0) (c1:=b1) (c2:=b2) (c3:=b3) (by simp);have x0:=kr.c0; have x1:=kr.c1; have x2:=kr.c2; have x3:=kr.c3;clear kr HS hx;go_simp
  simp only[Act.put,List.setIfInBounds_toArray,List.set_cons_zero,List.set_cons_succ];clear HS;refine uJ (i:=2) (j:=10) (by kernel_rfl) rfl rfl (fun K hK => ?_) (fun K hK => ?_)
  ·go_simp;refine (dW f F hf a0 a1 a2 a3 ha _).mono ?_
   rintro e v1 ⟨x0,x1,x2,x3,rfl,hx,hv,hbl⟩
   have HVx:=Lib.hid hv;clear hv;have HM':=Lib.hid (HM.out.on hbl);clear HM hbl;have HM:=HM';clear HM';have HS:=(HM.out.sub (rs':=[(w.heap.size+1+1,0,0,0,0),(w.heap.size+1,b0,b1,b2,b3),(w.heap.size,a0,a1,a2,a3)]) (by simp));refine hK.out _ _ (Or.inr HS) (fun _ => ?_);clear hK K HS;refine uJ (i:=5) (j:=10) (by kernel_rfl) rfl rfl (fun K hK => ?_) (fun K hK => ?_)
   ·go_simp;refine (dW f F hf b0 b1 b2 b3 hb _).mono ?_
    rintro e v2 ⟨y0,y1,y2,y3,rfl,hy,hv,hbl⟩
    have HVy:=Lib.hid hv;clear hv;have HM':=Lib.hid (HM.out.on hbl);clear HM hbl;have HM:=HM';clear HM';have HS:=(HM.out.sub (rs':=[(w.heap.size+1+1,0,0,0,0),(w.heap.size+1,b0,b1,b2,b3),(w.heap.size,a0,a1,a2,a3)]) (by simp));refine hK.out _ _ (Or.inr HS) (fun _ => ?_);clear hK K HS;refine uJ (i:=6) (j:=10) (by kernel_rfl) rfl rfl (fun K hK => ?_) (fun K hK => ?_)
    ·go_simp;refine (mC x0 x1 x2 x3 y0 y1 y2 y3 hx hy _).mono ?_
     rintro e v3 ⟨s0,s1,s2,s3,cc,rfl,hs,hcc,hv,hbl⟩
     have HVs:=Lib.hid (show aC s0 s1 s2 s3=aC a0 a1 a2 a3%F.M+aC b0 b1 b2 b3%F.M by have:=Nat.mod_lt (aC a0 a1 a2 a3) hpos; have:=Nat.mod_lt (aC b0 b1 b2 b3) hpos; rw[HVx.out,HVy.out]at hv; omega);clear hv;have HM':=Lib.hid (HM.out.on hbl);clear HM hbl;have HM:=HM';clear HM';have HS:=(HM.out.sub (rs':=[(w.heap.size+1+1,0,0,0,0),(w.heap.size+1,b0,b1,b2,b3),(w.heap.size,a0,a1,a2,a3)]) (by simp));refine hK.out _ _ (Or.inr HS) (fun _ => ?_);clear hK K HS;have HS:=HM.out.sub (rs':=[(w.heap.size+1+1,0,0,0,0),(w.heap.size+1,b0,b1,b2,b3),(w.heap.size,a0,a1,a2,a3)]) (by simp);refine aK (i:=7) (v:=.tuple #[.agg #[.int .u64 s0,.int .u64 s1,.int .u64 s2,.int .u64 s3],.int .u64 (cc:Nat)]) rfl (by kernel_rfl) (by kernel_rfl) (by kernel_rfl) (by kernel_rfl) (fun _ _ _ h=>h) HS (Or.inl ⟨by kernel_rfl,fun wx hx => ?_⟩) ?_
     ·clear HS hx;go_simp
     simp only[Act.put,List.setIfInBounds_toArray,List.set_cons_zero,List.set_cons_succ];refine aK (i:=8) (v:=.agg #[.int .u64 s0,.int .u64 s1,.int .u64 s2,.int .u64 s3]) rfl (by kernel_rfl) (by kernel_rfl) (by kernel_rfl) (by kernel_rfl) (fun _ _ _ h=>h) HS (Or.inl ⟨by kernel_rfl,fun wx hx => ?_⟩) ?_
     ·clear HS hx;go_simp
     simp only[Act.put,List.setIfInBounds_toArray,List.set_cons_zero,List.set_cons_succ];refine aK (i:=9) (v:=.int .u64 (cc:Nat)) rfl (by kernel_rfl) (by kernel_rfl) (by kernel_rfl) (by kernel_rfl) (fun _ _ _ h=>h) HS (Or.inl ⟨by kernel_rfl,fun wx hx => ?_⟩) ?_
     ·clear HS hx;go_simp
     simp only[Act.put,List.setIfInBounds_toArray,List.set_cons_zero,List.set_cons_succ];clear HS;refine aN (i:=10) (by kernel_rfl) rfl (fun K hK => ?_);go_simp;have HM9:=HM;have HM':=Lib.hid (HM.out.new (v3.heap.size) 0 0 0 0 24 (by first|rfl|(simp; done)));have hga:w.heap.size+1+1<(v3.heap.size):=by first|exact HM.out.lt (b:=w.heap.size+1+1) (c0:=0) (c1:=0) (c2:=0) (c3:=0) (by simp)|simpa using HM.out.lt (b:=w.heap.size+1+1) (c0:=0) (c1:=0) (c2:=0) (c3:=0) (by simp)|(have:=HM.out.lt (b:=w.heap.size+1+1) (c0:=0) (c1:=0) (c2:=0) (c3:=0) (by simp); simp at this ⊢; omega)
     clear HM;have HM:=HM';clear HM';have HS:=(HM.out.sub (rs':=[(w.heap.size+1+1,0,0,0,0),(w.heap.size+1,b0,b1,b2,b3),(w.heap.size,a0,a1,a2,a3)]) (by simp));refine hK.out _ _ (Or.inr HS) (fun _ => ?_);clear hK K HS;have kr:=HM.out.row (b:=(v3.heap.size)) (c0:=0) (c1:=0) (c2:=0) (c3:=0) (by simp);have yl:=HM.out.lt (b:=(v3.heap.size)) (c0:=0) (c1:=0) (c2:=0) (c3:=0) (by simp);have y0:=kr.c0; have y1:=kr.c1; have y2:=kr.c2; have y3:=kr.c3; have yf:=kr.fr;clear kr;refine aN (i:=11) (by kernel_rfl) rfl (fun K hK => ?_);go_simp;have HM':=Lib.hid (HM9.out.new (v3.heap.size) s0 s1 s2 s3 24 (by first|rfl|(simp; done)));clear HM;have HM:=HM';clear HM';have HS:=(HM.out.sub (rs':=[(w.heap.size+1+1,0,0,0,0),(w.heap.size+1,b0,b1,b2,b3),(w.heap.size,a0,a1,a2,a3)]) (by simp));refine hK.out _ _ (Or.inr HS) (fun _ => ?_);clear hK K HS;refine aN (i:=12) (by kernel_rfl) rfl (fun K hK => ?_);go_simp;refine hK.out _ _ (Or.inl rfl) (fun _ => ?_);clear hK K;refine dT (by kernel_rfl) ?_;go_wp2_with fail
     go_meet
     exact⟨(v3.heap.size),s0,s1,s2,s3,rfl,hs,HVs,Lib.hid (HM.out.sub (by simp))⟩
    ·go_simp;have HM9:=HM;have HM':=Lib.hid (HM.out.new (v2.heap.size) 0 0 0 0 24 (by first|rfl|(simp; done)));have hga:w.heap.size+1+1<(v2.heap.size):=by first|exact HM.out.lt (b:=w.heap.size+1+1) (c0:=0) (c1:=0) (c2:=0) (c3:=0) (by simp)|simpa using HM.out.lt (b:=w.heap.size+1+1) (c0:=0) (c1:=0) (c2:=0) (c3:=0) (by simp)|(have:=HM.out.lt (b:=w.heap.size+1+1) (c0:=0) (c1:=0) (c2:=0) (c3:=0) (by simp); simp at this ⊢; omega)
     clear HM;have HM:=HM';clear HM';have HS:=(HM.out.sub (rs':=[(w.heap.size+1+1,0,0,0,0),(w.heap.size+1,b0,b1,b2,b3),(w.heap.size,a0,a1,a2,a3)]) (by simp));refine hK.out _ _ (Or.inr HS) (fun _ => ?_);clear hK K HS;refine aN (i:=6) (by kernel_rfl) rfl (fun K hK => ?_);go_simp;refine (mC x0 x1 x2 x3 y0 y1 y2 y3 hx hy _).mono ?_
     rintro e v3 ⟨s0,s1,s2,s3,cc,rfl,hs,hcc,hv,hbl⟩
     have HVs:=Lib.hid (show aC s0 s1 s2 s3=aC a0 a1 a2 a3%F.M+aC b0 b1 b2 b3%F.M by have:=Nat.mod_lt (aC a0 a1 a2 a3) hpos; have:=Nat.mod_lt (aC b0 b1 b2 b3) hpos; rw[HVx.out,HVy.out]at hv; omega);clear hv;have HM':=Lib.hid (HM.out.on hbl);clear HM hbl;have HM:=HM';clear HM';have HS:=(HM.out.sub (rs':=[(w.heap.size+1+1,0,0,0,0),(w.heap.size+1,b0,b1,b2,b3),(w.heap.size,a0,a1,a2,a3)]) (by simp));refine hK.out _ _ (Or.inr HS) (fun _ => ?_);clear hK K HS;have HS:=HM.out.sub (rs':=[(w.heap.size+1+1,0,0,0,0),(w.heap.size+1,b0,b1,b2,b3),(w.heap.size,a0,a1,a2,a3)]) (by simp);refine aK (i:=7) (v:=.tuple #[.agg #[.int .u64 s0,.int .u64 s1,.int .u64 s2,.int .u64 s3],.int .u64 (cc:Nat)]) rfl (by kernel_rfl) (by kernel_rfl) (by kernel_rfl) (by kernel_rfl) (fun _ _ _ h=>h) HS (Or.inl ⟨by kernel_rfl,fun wx hx => ?_⟩) ?_
     ·clear HS hx;go_simp
     simp only[Act.put,List.setIfInBounds_toArray,List.set_cons_zero,List.set_cons_succ];refine aK (i:=8) (v:=.agg #[.int .u64 s0,.int .u64 s1,.int .u64 s2,.int .u64 s3]) rfl (by kernel_rfl) (by kernel_rfl) (by kernel_rfl) (by kernel_rfl) (fun _ _ _ h=>h) HS (Or.inl ⟨by kernel_rfl,fun wx hx => ?_⟩) ?_
     ·clear HS hx;go_simp
     simp only[Act.put,List.setIfInBounds_toArray,List.set_cons_zero,List.set_cons_succ];refine aK (i:=9) (v:=.int .u64 (cc:Nat)) rfl (by kernel_rfl) (by kernel_rfl) (by kernel_rfl) (by kernel_rfl) (fun _ _ _ h=>h) HS (Or.inl ⟨by kernel_rfl,fun wx hx => ?_⟩) ?_
     ·clear HS hx;go_simp
     simp only[Act.put,List.setIfInBounds_toArray,List.set_cons_zero,List.set_cons_succ];clear HS;have kr:=HM.out.row (b:=(v2.heap.size)) (c0:=0) (c1:=0) (c2:=0) (c3:=0) (by simp);have yl:=HM.out.lt (b:=(v2.heap.size)) (c0:=0) (c1:=0) (c2:=0) (c3:=0) (by simp);have y0:=kr.c0; have y1:=kr.c1; have y2:=kr.c2; have y3:=kr.c3; have yf:=kr.fr;clear kr;refine aN (i:=11) (by kernel_rfl) rfl (fun K hK => ?_);go_simp;have HM':=Lib.hid (HM.out.put s0 s1 s2 s3 (by omega) (by intro r hr; simp at hr; rcases hr with rfl|rfl|rfl<;>simp<;>omega));clear HM;have HM:=HM';clear HM';have HS:=(HM.out.sub (rs':=[(w.heap.size+1+1,0,0,0,0),(w.heap.size+1,b0,b1,b2,b3),(w.heap.size,a0,a1,a2,a3)]) (by simp));refine hK.out _ _ (Or.inr HS) (fun _ => ?_);clear hK K HS;refine aN (i:=12) (by kernel_rfl) rfl (fun K hK => ?_);go_simp;refine hK.out _ _ (Or.inl rfl) (fun _ => ?_);clear hK K;refine dT (by kernel_rfl) ?_;go_wp2_with fail
     go_meet
     exact⟨(v2.heap.size),s0,s1,s2,s3,rfl,hs,HVs,Lib.hid (HM.out.sub (by simp))⟩
   ·go_simp;have HM9:=HM;have HM':=Lib.hid (HM.out.new (v1.heap.size) 0 0 0 0 24 (by first|rfl|(simp; done)));have hga:w.heap.size+1+1<(v1.heap.size):=by first|exact HM.out.lt (b:=w.heap.size+1+1) (c0:=0) (c1:=0) (c2:=0) (c3:=0) (by simp)|simpa using HM.out.lt (b:=w.heap.size+1+1) (c0:=0) (c1:=0) (c2:=0) (c3:=0) (by simp)|(have:=HM.out.lt (b:=w.heap.size+1+1) (c0:=0) (c1:=0) (c2:=0) (c3:=0) (by simp); simp at this ⊢; omega)
    clear HM;have HM:=HM';clear HM';have HS:=(HM.out.sub (rs':=[(w.heap.size+1+1,0,0,0,0),(w.heap.size+1,b0,b1,b2,b3),(w.heap.size,a0,a1,a2,a3)]) (by simp));refine hK.out _ _ (Or.inr HS) (fun _ => ?_);clear hK K HS;refine aN (i:=5) (by kernel_rfl) rfl (fun K hK => ?_);go_simp;refine (dW f F hf b0 b1 b2 b3 hb _).mono ?_
    rintro e v2 ⟨y0,y1,y2,y3,rfl,hy,hv,hbl⟩
    have HVy:=Lib.hid hv;clear hv;have HM':=Lib.hid (HM.out.on hbl);clear HM hbl;have HM:=HM';clear HM';have HS:=(HM.out.sub (rs':=[(w.heap.size+1+1,0,0,0,0),(w.heap.size+1,b0,b1,b2,b3),(w.heap.size,a0,a1,a2,a3)]) (by simp));refine hK.out _ _ (Or.inr HS) (fun _ => ?_);clear hK K HS;refine aN (i:=6) (by kernel_rfl) rfl (fun K hK => ?_);go_simp;refine (mC x0 x1 x2 x3 y0 y1 y2 y3 hx hy _).mono ?_
    rintro e v3 ⟨s0,s1,s2,s3,cc,rfl,hs,hcc,hv,hbl⟩
    have HVs:=Lib.hid (show aC s0 s1 s2 s3=aC a0 a1 a2 a3%F.M+aC b0 b1 b2 b3%F.M by have:=Nat.mod_lt (aC a0 a1 a2 a3) hpos; have:=Nat.mod_lt (aC b0 b1 b2 b3) hpos; rw[HVx.out,HVy.out]at hv; omega);clear hv;have HM':=Lib.hid (HM.out.on hbl);clear HM hbl;have HM:=HM';clear HM';have HS:=(HM.out.sub (rs':=[(w.heap.size+1+1,0,0,0,0),(w.heap.size+1,b0,b1,b2,b3),(w.heap.size,a0,a1,a2,a3)]) (by simp));refine hK.out _ _ (Or.inr HS) (fun _ => ?_);clear hK K HS;have HS:=HM.out.sub (rs':=[(w.heap.size+1+1,0,0,0,0),(w.heap.size+1,b0,b1,b2,b3),(w.heap.size,a0,a1,a2,a3)]) (by simp);refine aK (i:=7) (v:=.tuple #[.agg #[.int .u64 s0,.int .u64 s1,.int .u64 s2,.int .u64 s3],.int .u64 (cc:Nat)]) rfl (by kernel_rfl) (by kernel_rfl) (by kernel_rfl) (by kernel_rfl) (fun _ _ _ h=>h) HS (Or.inl ⟨by kernel_rfl,fun wx hx => ?_⟩) ?_
    ·clear HS hx;go_simp
    simp only[Act.put,List.setIfInBounds_toArray,List.set_cons_zero,List.set_cons_succ];refine aK (i:=8) (v:=.agg #[.int .u64 s0,.int .u64 s1,.int .u64 s2,.int .u64 s3]) rfl (by kernel_rfl) (by kernel_rfl) (by kernel_rfl) (by kernel_rfl) (fun _ _ _ h=>h) HS (Or.inl ⟨by kernel_rfl,fun wx hx => ?_⟩) ?_
    ·clear HS hx;go_simp
    simp only[Act.put,List.setIfInBounds_toArray,List.set_cons_zero,List.set_cons_succ];refine aK (i:=9) (v:=.int .u64 (cc:Nat)) rfl (by kernel_rfl) (by kernel_rfl) (by kernel_rfl) (by kernel_rfl) (fun _ _ _ h=>h) HS (Or.inl ⟨by kernel_rfl,fun wx hx => ?_⟩) ?_
    ·clear HS hx;go_simp
    simp only[Act.put,List.setIfInBounds_toArray,List.set_cons_zero,List.set_cons_succ];clear HS;have kr:=HM.out.row (b:=(v1.heap.size)) (c0:=0) (c1:=0) (c2:=0) (c3:=0) (by simp);have yl:=HM.out.lt (b:=(v1.heap.size)) (c0:=0) (c1:=0) (c2:=0) (c3:=0) (by simp);have y0:=kr.c0; have y1:=kr.c1; have y2:=kr.c2; have y3:=kr.c3; have yf:=kr.fr;clear kr;refine aN (i:=11) (by kernel_rfl) rfl (fun K hK => ?_);go_simp;have HM':=Lib.hid (HM.out.put s0 s1 s2 s3 (by omega) (by intro r hr; simp at hr; rcases hr with rfl|rfl|rfl<;>simp<;>omega));clear HM;have HM:=HM';clear HM';have HS:=(HM.out.sub (rs':=[(w.heap.size+1+1,0,0,0,0),(w.heap.size+1,b0,b1,b2,b3),(w.heap.size,a0,a1,a2,a3)]) (by simp));refine hK.out _ _ (Or.inr HS) (fun _ => ?_);clear hK K HS;refine aN (i:=12) (by kernel_rfl) rfl (fun K hK => ?_);go_simp;refine hK.out _ _ (Or.inl rfl) (fun _ => ?_);clear hK K;refine dT (by kernel_rfl) ?_;go_wp2_with fail
    go_meet
    exact⟨(v1.heap.size),s0,s1,s2,s3,rfl,hs,HVs,Lib.hid (HM.out.sub (by simp))⟩
  ·go_simp;have HM9:=HM;have HM':=Lib.hid (HM.out.new (w.heap.size+1+1+1) 0 0 0 0 24 (by first|rfl|(simp; done)));have hga:w.heap.size+1+1<(w.heap.size+1+1+1):=by first|exact HM.out.lt (b:=w.heap.size+1+1) (c0:=0) (c1:=0) (c2:=0) (c3:=0) (by simp)|simpa using HM.out.lt (b:=w.heap.size+1+1) (c0:=0) (c1:=0) (c2:=0) (c3:=0) (by simp)|(have:=HM.out.lt (b:=w.heap.size+1+1) (c0:=0) (c1:=0) (c2:=0) (c3:=0) (by simp); simp at this ⊢; omega)
   clear HM;have HM:=HM';clear HM';have HS:=(HM.out.sub (rs':=[(w.heap.size+1+1,0,0,0,0),(w.heap.size+1,b0,b1,b2,b3),(w.heap.size,a0,a1,a2,a3)]) (by simp));refine hK.out _ _ (Or.inr HS) (fun _ => ?_);clear hK K HS;refine aN (i:=2) (by kernel_rfl) rfl (fun K hK => ?_);go_simp;refine (dW f F hf a0 a1 a2 a3 ha _).mono ?_
   rintro e v1 ⟨x0,x1,x2,x3,rfl,hx,hv,hbl⟩
   have HVx:=Lib.hid hv;clear hv;have HM':=Lib.hid (HM.out.on hbl);clear HM hbl;have HM:=HM';clear HM';have HS:=(HM.out.sub (rs':=[(w.heap.size+1+1,0,0,0,0),(w.heap.size+1,b0,b1,b2,b3),(w.heap.size,a0,a1,a2,a3)]) (by simp));refine hK.out _ _ (Or.inr HS) (fun _ => ?_);clear hK K HS;refine aN (i:=5) (by kernel_rfl) rfl (fun K hK => ?_);go_simp;refine (dW f F hf b0 b1 b2 b3 hb _).mono ?_
   rintro e v2 ⟨y0,y1,y2,y3,rfl,hy,hv,hbl⟩
   have HVy:=Lib.hid hv;clear hv;have HM':=Lib.hid (HM.out.on hbl);clear HM hbl;have HM:=HM';clear HM';have HS:=(HM.out.sub (rs':=[(w.heap.size+1+1,0,0,0,0),(w.heap.size+1,b0,b1,b2,b3),(w.heap.size,a0,a1,a2,a3)]) (by simp));refine hK.out _ _ (Or.inr HS) (fun _ => ?_);clear hK K HS;refine aN (i:=6) (by kernel_rfl) rfl (fun K hK => ?_);go_simp;refine (mC x0 x1 x2 x3 y0 y1 y2 y3 hx hy _).mono ?_
   rintro e v3 ⟨s0,s1,s2,s3,cc,rfl,hs,hcc,hv,hbl⟩
   have HVs:=Lib.hid (show aC s0 s1 s2 s3=aC a0 a1 a2 a3%F.M+aC b0 b1 b2 b3%F.M by have:=Nat.mod_lt (aC a0 a1 a2 a3) hpos; have:=Nat.mod_lt (aC b0 b1 b2 b3) hpos; rw[HVx.out,HVy.out]at hv; omega);clear hv;have HM':=Lib.hid (HM.out.on hbl);clear HM hbl;have HM:=HM';clear HM';have HS:=(HM.out.sub (rs':=[(w.heap.size+1+1,0,0,0,0),(w.heap.size+1,b0,b1,b2,b3),(w.heap.size,a0,a1,a2,a3)]) (by simp));refine hK.out _ _ (Or.inr HS) (fun _ => ?_);clear hK K HS;have HS:=HM.out.sub (rs':=[(w.heap.size+1+1,0,0,0,0),(w.heap.size+1,b0,b1,b2,b3),(w.heap.size,a0,a1,a2,a3)]) (by simp);refine aK (i:=7) (v:=.tuple #[.agg #[.int .u64 s0,.int .u64 s1,.int .u64 s2,.int .u64 s3],.int .u64 (cc:Nat)]) rfl (by kernel_rfl) (by kernel_rfl) (by kernel_rfl) (by kernel_rfl) (fun _ _ _ h=>h) HS (Or.inl ⟨by kernel_rfl,fun wx hx => ?_⟩) ?_
   ·clear HS hx;go_simp
   simp only[Act.put,List.setIfInBounds_toArray,List.set_cons_zero,List.set_cons_succ];refine aK (i:=8) (v:=.agg #[.int .u64 s0,.int .u64 s1,.int .u64 s2,.int .u64 s3]) rfl (by kernel_rfl) (by kernel_rfl) (by kernel_rfl) (by kernel_rfl) (fun _ _ _ h=>h) HS (Or.inl ⟨by kernel_rfl,fun wx hx => ?_⟩) ?_
   ·clear HS hx;go_simp
   simp only[Act.put,List.setIfInBounds_toArray,List.set_cons_zero,List.set_cons_succ];refine aK (i:=9) (v:=.int .u64 (cc:Nat)) rfl (by kernel_rfl) (by kernel_rfl) (by kernel_rfl) (by kernel_rfl) (fun _ _ _ h=>h) HS (Or.inl ⟨by kernel_rfl,fun wx hx => ?_⟩) ?_
   ·clear HS hx;go_simp
   simp only[Act.put,List.setIfInBounds_toArray,List.set_cons_zero,List.set_cons_succ];clear HS;have kr:=HM.out.row (b:=(w.heap.size+1+1+1)) (c0:=0) (c1:=0) (c2:=0) (c3:=0) (by simp);have yl:=HM.out.lt (b:=(w.heap.size+1+1+1)) (c0:=0) (c1:=0) (c2:=0) (c3:=0) (by simp);have y0:=kr.c0; have y1:=kr.c1; have y2:=kr.c2; have y3:=kr.c3; have yf:=kr.fr;clear kr;refine aN (i:=11) (by kernel_rfl) rfl (fun K hK => ?_);go_simp;have HM':=Lib.hid (HM.out.put s0 s1 s2 s3 (by omega) (by intro r hr; simp at hr; rcases hr with rfl|rfl|rfl<;>simp<;>omega));clear HM;have HM:=HM';clear HM';have HS:=(HM.out.sub (rs':=[(w.heap.size+1+1,0,0,0,0),(w.heap.size+1,b0,b1,b2,b3),(w.heap.size,a0,a1,a2,a3)]) (by simp));refine hK.out _ _ (Or.inr HS) (fun _ => ?_);clear hK K HS;refine aN (i:=12) (by kernel_rfl) rfl (fun K hK => ?_);go_simp;refine hK.out _ _ (Or.inl rfl) (fun _ => ?_);clear hK K;refine dT (by kernel_rfl) ?_;go_wp2_with fail
   go_meet
   exact⟨(w.heap.size+1+1+1),s0,s1,s2,s3,rfl,hs,HVs,Lib.hid (HM.out.sub (by simp))⟩
 case rest =>
  obtain⟨gb,s0,s1,s2,s3,rfl,hs,HVs,HM'⟩:=hcut;clear HM;have HM:=HM';clear HM';have kr:=HM.out.row (b:=gb) (c0:=s0) (c1:=s1) (c2:=s2) (c3:=s3) (by simp);have x0:=kr.c0; have x1:=kr.c1; have x2:=kr.c2; have x3:=kr.c3;clear kr;have xl:=HM.out.lt (b:=gb) (c0:=s0) (c1:=s1) (c2:=s2) (c3:=s3) (by simp);go_wp2_with fail;refine (dW f F hf s0 s1 s2 s3 hs _).mono ?_
  rintro e w5 ⟨r0,r1,r2,r3,rfl,hr,hv,hbl⟩
  have HVr:=Lib.hid (show aC r0 r1 r2 r3=(aC a0 a1 a2 a3+aC b0 b1 b2 b3)%F.M by rw[hv,HVs.out,←Nat.add_mod]);clear hv;have HM':=Lib.hid (HM.out.on hbl);clear HM hbl;have HM:=HM';clear HM';clear x0 x1 x2 x3 xl;have kr:=HM.out.row (b:=w.heap.size+1+1) (c0:=0) (c1:=0) (c2:=0) (c3:=0) (by simp);have y0:=kr.c0; have y1:=kr.c1; have y2:=kr.c2; have y3:=kr.c3; have yf:=kr.fr;clear kr;have yl:=HM.out.lt (b:=w.heap.size+1+1) (c0:=0) (c1:=0) (c2:=0) (c3:=0) (by simp);go_wp2_with fail;refine bodyPost_ret (v:=.agg #[.int .u64 r0,.int .u64 r1,.int .u64 r2,.int .u64 r3]) (by simp[results,results32,go_sem, *]) rfl ?_;refine⟨_,_,_,_,rfl,hr,HVr.out,?_⟩;exact bF HM.out.1 (by omega) _ _ _ _
set_option maxHeartbeats 2000000 in
theorem JX (f:Int) (F:FC) (hf:FieldIs f F) (a0 a1 a2 a3:Nat) (ha:bY a0 a1 a2 a3) (w:World) :
  Calls prog 226 #[.int .i64 f,.agg #[.int .u64 a0,.int .u64 a1,.int .u64 a2,.int .u64 a3]] w (fF ((F.M-aC a0 a1 a2 a3%F.M)%F.M) w):=by
 have hpos:=hf.ok.pos;have h2M:=hf.ok.two;have hG:=Gu
 go_enter func226,ntmps226
 go_wp2_with fail;have HM:=Lib.hid (((Mem.nil w).new (w.heap.size) a0 a1 a2 a3 25 (by simp)).new (w.heap.size+1) 0 0 0 0 25 (by simp));refine (dW f F hf a0 a1 a2 a3 ha _).mono ?_
 rintro e w1 ⟨x0,x1,x2,x3,rfl,hx,hv,hbl⟩
 have HVx:=Lib.hid hv;clear hv;have HM':=Lib.hid (HM.out.on hbl);clear HM hbl;have HM:=HM';clear HM';have hz1:w.heap.size+1<w1.heap.size:=HM.out.lt (b:=w.heap.size+1) (c0:=0) (c1:=0) (c2:=0) (c3:=0) (by simp);have HMo:=HM;have HM':=Lib.hid (HM.out.new w1.heap.size x0 x1 x2 x3 24 rfl);clear HM;have HM:=HM';clear HM'
 by_cases hz:aC a0 a1 a2 a3%F.M=0
 ·have hE:∀w,(Op.equalIn 10000 24 (.agg #[.int .u64 x0,.int .u64 x1,.int .u64 x2,.int .u64 x3]) (.agg #[.int .u64 0,.int .u64 0,.int .u64 0,.int .u64 0])).run prog w=.ok true w:=fun w=>by
   have h:=vF 9998 x0 x1 x2 x3 0 0 0 0 w;rw[(tB hx zok).2 (HVx.out.trans (hz.trans rfl))]at h;exact h
  have HZ:=Lib.hid hz;clear hz;have kr:=HMo.out.row (b:=w.heap.size+1) (c0:=0) (c1:=0) (c2:=0) (c3:=0) (by simp);have y0:=kr.c0; have y1:=kr.c1; have y2:=kr.c2; have y3:=kr.c3; have yf:=kr.fr;clear kr;go_wp2_with fail;refine bodyPost_ret (v:=.agg #[.int .u64 0,.int .u64 0,.int .u64 0,.int .u64 0]) (by simp[results,results226,go_sem, *]) rfl ?_;refine⟨_,_,_,_,rfl,zok,by rw[HZ.out,Nat.sub_zero,Nat.mod_self]; rfl,?_⟩
  repeat (first|exact HMo.out.1|refine Below.alloc ?_ (by first|(simp; done)|(simp; omega)) _|refine Below.setCell ?_ (by first|(simp; done)|(simp; omega)) _)
 ·have hE:∀w,(Op.equalIn 10000 24 (.agg #[.int .u64 x0,.int .u64 x1,.int .u64 x2,.int .u64 x3]) (.agg #[.int .u64 0,.int .u64 0,.int .u64 0,.int .u64 0])).run prog w=.ok false w:=fun w=>by
   have h:=vF 9998 x0 x1 x2 x3 0 0 0 0 w;rw[RF (fun q=>hz (HVx.out.symm.trans (((tB hx zok).1 q).trans rfl)))]at h;exact h
  have HZ:=Lib.hid hz;clear hz HMo
  go_upto_region 4 with fail
  go_cut [6] (fun s6 wx=>∃gb s0 s1 s2 s3:Nat,s6=.pointer (some ⟨gb,0,none⟩)∧bY s0 s1 s2 s3∧Hid (aC s0 s1 s2 s3=F.M-aC a0 a1 a2 a3%F.M)∧Hid (Mem w wx [(gb,s0,s1,s2,s3),(w.heap.size+1,0,0,0,0)]))
  case first =>
   refine fG (fun wx=>Mem w wx [(w1.heap.size,x0,x1,x2,x3),(w.heap.size+1,0,0,0,0),(w.heap.size,a0,a1,a2,a3)]) 9 (by kernel_rfl) ?_;have HM':=Lib.hid (HM.out.drewN 1);clear HM;have HM:=HM';clear HM';have HS:=HM.out.sub (rs':=[(w1.heap.size,x0,x1,x2,x3),(w.heap.size+1,0,0,0,0),(w.heap.size,a0,a1,a2,a3)]) (by simp);refine aK (i:=0) (v:=.int .i64 f) rfl (by kernel_rfl) (by kernel_rfl) (by kernel_rfl) (by kernel_rfl) (fun _ _ _ h=>h) HS (Or.inl ⟨by kernel_rfl,fun wx hx => ?_⟩) ?_
   ·clear HS hx;go_simp
   simp only[Act.put,List.setIfInBounds_toArray,List.set_cons_zero,List.set_cons_succ];refine aK (i:=2) (v:=.agg #[.int .u64 x0,.int .u64 x1,.int .u64 x2,.int .u64 x3]) rfl (by kernel_rfl) (by kernel_rfl) (by kernel_rfl) (by kernel_rfl) (fun _ _ _ h=>h) HS (Or.inl ⟨by kernel_rfl,fun wx hx => ?_⟩) ?_
   ·have kr:=hx.row (b:=w1.heap.size) (c0:=x0) (c1:=x1) (c2:=x2) (c3:=x3) (by simp);have x0:=kr.c0; have x1:=kr.c1; have x2:=kr.c2; have x3:=kr.c3;clear kr HS hx;go_simp
   simp only[Act.put,List.setIfInBounds_toArray,List.set_cons_zero,List.set_cons_succ];clear HS;refine uJ (i:=1) (j:=7) (by kernel_rfl) rfl rfl (fun K hK => ?_) (fun K hK => ?_)
   ·go_simp;refine (iM f F hf _).mono ?_
    rintro e v1 ⟨rfl,hbl⟩
    have HM':=Lib.hid (HM.out.on hbl);clear HM hbl;have HM:=HM';clear HM';have HS:=(HM.out.sub (rs':=[(w1.heap.size,x0,x1,x2,x3),(w.heap.size+1,0,0,0,0),(w.heap.size,a0,a1,a2,a3)]) (by simp));refine hK.out _ _ (Or.inr HS) (fun _ => ?_);clear hK K HS;refine uJ (i:=3) (j:=7) (by kernel_rfl) rfl rfl (fun K hK => ?_) (fun K hK => ?_)
    ·go_simp;refine (iD F.m0 F.m1 F.m2 F.m3 x0 x1 x2 x3 hf.ok.okm hx _).mono ?_
     rintro e v2 ⟨s0,s1,s2,s3,cc,rfl,hs,hcc,hv,hbl⟩
     have HVs:=Lib.hid (show aC s0 s1 s2 s3=F.M-aC a0 a1 a2 a3%F.M by have:=Nat.mod_lt (aC a0 a1 a2 a3) hpos; have:=bO hs; rw[HVx.out,show aC F.m0 F.m1 F.m2 F.m3=F.M from rfl]at hv; omega);clear hv;have HM':=Lib.hid (HM.out.on hbl);clear HM hbl;have HM:=HM';clear HM';have HS:=(HM.out.sub (rs':=[(w1.heap.size,x0,x1,x2,x3),(w.heap.size+1,0,0,0,0),(w.heap.size,a0,a1,a2,a3)]) (by simp));refine hK.out _ _ (Or.inr HS) (fun _ => ?_);clear hK K HS;have HS:=HM.out.sub (rs':=[(w1.heap.size,x0,x1,x2,x3),(w.heap.size+1,0,0,0,0),(w.heap.size,a0,a1,a2,a3)]) (by simp);refine aK (i:=4) (v:=.tuple #[.agg #[.int .u64 s0,.int .u64 s1,.int .u64 s2,.int .u64 s3],.int .u64 (cc:Nat)]) rfl (by kernel_rfl) (by kernel_rfl) (by kernel_rfl) (by kernel_rfl) (fun _ _ _ h=>h) HS (Or.inl ⟨by kernel_rfl,fun wx hx => ?_⟩) ?_
     ·clear HS hx;go_simp
     simp only[Act.put,List.setIfInBounds_toArray,List.set_cons_zero,List.set_cons_succ];refine aK (i:=5) (v:=.agg #[.int .u64 s0,.int .u64 s1,.int .u64 s2,.int .u64 s3]) rfl (by kernel_rfl) (by kernel_rfl) (by kernel_rfl) (by kernel_rfl) (fun _ _ _ h=>h) HS (Or.inl ⟨by kernel_rfl,fun wx hx => ?_⟩) ?_
     ·clear HS hx;go_simp
     simp only[Act.put,List.setIfInBounds_toArray,List.set_cons_zero,List.set_cons_succ];refine aK (i:=6) (v:=.int .u64 (cc:Nat)) rfl (by kernel_rfl) (by kernel_rfl) (by kernel_rfl) (by kernel_rfl) (fun _ _ _ h=>h) HS (Or.inl ⟨by kernel_rfl,fun wx hx => ?_⟩) ?_
     ·clear HS hx;go_simp
     simp only[Act.put,List.setIfInBounds_toArray,List.set_cons_zero,List.set_cons_succ];clear HS;refine aN (i:=7) (by kernel_rfl) rfl (fun K hK => ?_);go_simp;have HM9:=HM;have HM':=Lib.hid (HM.out.new (v2.heap.size) 0 0 0 0 24 (by first|rfl|(simp; done)));have hga:w1.heap.size<(v2.heap.size):=by first|exact HM.out.lt (b:=w1.heap.size) (c0:=x0) (c1:=x1) (c2:=x2) (c3:=x3) (by simp)|simpa using HM.out.lt (b:=w1.heap.size) (c0:=x0) (c1:=x1) (c2:=x2) (c3:=x3) (by simp)|(have:=HM.out.lt (b:=w1.heap.size) (c0:=x0) (c1:=x1) (c2:=x2) (c3:=x3) (by simp); simp at this ⊢; omega)
     clear HM;have HM:=HM';clear HM';have HS:=(HM.out.sub (rs':=[(w1.heap.size,x0,x1,x2,x3),(w.heap.size+1,0,0,0,0),(w.heap.size,a0,a1,a2,a3)]) (by simp));refine hK.out _ _ (Or.inr HS) (fun _ => ?_);clear hK K HS;have kr:=HM.out.row (b:=(v2.heap.size)) (c0:=0) (c1:=0) (c2:=0) (c3:=0) (by simp);have yl:=HM.out.lt (b:=(v2.heap.size)) (c0:=0) (c1:=0) (c2:=0) (c3:=0) (by simp);have y0:=kr.c0; have y1:=kr.c1; have y2:=kr.c2; have y3:=kr.c3; have yf:=kr.fr;clear kr;refine aN (i:=8) (by kernel_rfl) rfl (fun K hK => ?_);go_simp;have HM':=Lib.hid (HM9.out.new (v2.heap.size) s0 s1 s2 s3 24 (by first|rfl|(simp; done)));clear HM;have HM:=HM';clear HM';have HS:=(HM.out.sub (rs':=[(w1.heap.size,x0,x1,x2,x3),(w.heap.size+1,0,0,0,0),(w.heap.size,a0,a1,a2,a3)]) (by simp));refine hK.out _ _ (Or.inr HS) (fun _ => ?_);clear hK K HS;refine aN (i:=9) (by kernel_rfl) rfl (fun K hK => ?_);go_simp;refine hK.out _ _ (Or.inl rfl) (fun _ => ?_);clear hK K;refine dT (by kernel_rfl) ?_;go_wp2_with fail
     go_meet
     exact⟨(v2.heap.size),s0,s1,s2,s3,rfl,hs,HVs,Lib.hid (HM.out.sub (by simp))⟩
    ·go_simp;have HM9:=HM;have HM':=Lib.hid (HM.out.new (v1.heap.size) 0 0 0 0 24 (by first|rfl|(simp; done)));have hga:w1.heap.size<(v1.heap.size):=by first|exact HM.out.lt (b:=w1.heap.size) (c0:=x0) (c1:=x1) (c2:=x2) (c3:=x3) (by simp)|simpa using HM.out.lt (b:=w1.heap.size) (c0:=x0) (c1:=x1) (c2:=x2) (c3:=x3) (by simp)|(have:=HM.out.lt (b:=w1.heap.size) (c0:=x0) (c1:=x1) (c2:=x2) (c3:=x3) (by simp); simp at this ⊢; omega)
     clear HM;have HM:=HM';clear HM';have HS:=(HM.out.sub (rs':=[(w1.heap.size,x0,x1,x2,x3),(w.heap.size+1,0,0,0,0),(w.heap.size,a0,a1,a2,a3)]) (by simp));refine hK.out _ _ (Or.inr HS) (fun _ => ?_);clear hK K HS;refine aN (i:=3) (by kernel_rfl) rfl (fun K hK => ?_);go_simp;refine (iD F.m0 F.m1 F.m2 F.m3 x0 x1 x2 x3 hf.ok.okm hx _).mono ?_
     rintro e v2 ⟨s0,s1,s2,s3,cc,rfl,hs,hcc,hv,hbl⟩
     have HVs:=Lib.hid (show aC s0 s1 s2 s3=F.M-aC a0 a1 a2 a3%F.M by have:=Nat.mod_lt (aC a0 a1 a2 a3) hpos; have:=bO hs; rw[HVx.out,show aC F.m0 F.m1 F.m2 F.m3=F.M from rfl]at hv; omega);clear hv;have HM':=Lib.hid (HM.out.on hbl);clear HM hbl;have HM:=HM';clear HM';have HS:=(HM.out.sub (rs':=[(w1.heap.size,x0,x1,x2,x3),(w.heap.size+1,0,0,0,0),(w.heap.size,a0,a1,a2,a3)]) (by simp));refine hK.out _ _ (Or.inr HS) (fun _ => ?_);clear hK K HS;have HS:=HM.out.sub (rs':=[(w1.heap.size,x0,x1,x2,x3),(w.heap.size+1,0,0,0,0),(w.heap.size,a0,a1,a2,a3)]) (by simp);refine aK (i:=4) (v:=.tuple #[.agg #[.int .u64 s0,.int .u64 s1,.int .u64 s2,.int .u64 s3],.int .u64 (cc:Nat)]) rfl (by kernel_rfl) (by kernel_rfl) (by kernel_rfl) (by kernel_rfl) (fun _ _ _ h=>h) HS (Or.inl ⟨by kernel_rfl,fun wx hx => ?_⟩) ?_
     ·clear HS hx;go_simp
     simp only[Act.put,List.setIfInBounds_toArray,List.set_cons_zero,List.set_cons_succ];refine aK (i:=5) (v:=.agg #[.int .u64 s0,.int .u64 s1,.int .u64 s2,.int .u64 s3]) rfl (by kernel_rfl) (by kernel_rfl) (by kernel_rfl) (by kernel_rfl) (fun _ _ _ h=>h) HS (Or.inl ⟨by kernel_rfl,fun wx hx => ?_⟩) ?_
     ·clear HS hx;go_simp
     simp only[Act.put,List.setIfInBounds_toArray,List.set_cons_zero,List.set_cons_succ];refine aK (i:=6) (v:=.int .u64 (cc:Nat)) rfl (by kernel_rfl) (by kernel_rfl) (by kernel_rfl) (by kernel_rfl) (fun _ _ _ h=>h) HS (Or.inl ⟨by kernel_rfl,fun wx hx => ?_⟩) ?_
     ·clear HS hx;go_simp
     simp only[Act.put,List.setIfInBounds_toArray,List.set_cons_zero,List.set_cons_succ];clear HS;have kr:=HM.out.row (b:=(v1.heap.size)) (c0:=0) (c1:=0) (c2:=0) (c3:=0) (by simp);have yl:=HM.out.lt (b:=(v1.heap.size)) (c0:=0) (c1:=0) (c2:=0) (c3:=0) (by simp);have y0:=kr.c0; have y1:=kr.c1; have y2:=kr.c2; have y3:=kr.c3; have yf:=kr.fr;clear kr;refine aN (i:=8) (by kernel_rfl) rfl (fun K hK => ?_);go_simp;have HM':=Lib.hid (HM.out.put s0 s1 s2 s3 (by omega) (by intro r hr; simp at hr; rcases hr with rfl|rfl|rfl<;>simp<;>omega));clear HM;have HM:=HM';clear HM';have HS:=(HM.out.sub (rs':=[(w1.heap.size,x0,x1,x2,x3),(w.heap.size+1,0,0,0,0),(w.heap.size,a0,a1,a2,a3)]) (by simp));refine hK.out _ _ (Or.inr HS) (fun _ => ?_);clear hK K HS;refine aN (i:=9) (by kernel_rfl) rfl (fun K hK => ?_);go_simp;refine hK.out _ _ (Or.inl rfl) (fun _ => ?_);clear hK K;refine dT (by kernel_rfl) ?_;go_wp2_with fail
     go_meet
     exact⟨(v1.heap.size),s0,s1,s2,s3,rfl,hs,HVs,Lib.hid (HM.out.sub (by simp))⟩
   ·go_simp;have HM9:=HM;have HM':=Lib.hid (HM.out.new (w1.heap.size+1) 0 0 0 0 24 (by first|rfl|(simp; done)));have hga:w1.heap.size<(w1.heap.size+1):=by first|exact HM.out.lt (b:=w1.heap.size) (c0:=x0) (c1:=x1) (c2:=x2) (c3:=x3) (by simp)|simpa using HM.out.lt (b:=w1.heap.size) (c0:=x0) (c1:=x1) (c2:=x2) (c3:=x3) (by simp)|(have:=HM.out.lt (b:=w1.heap.size) (c0:=x0) (c1:=x1) (c2:=x2) (c3:=x3) (by simp); simp at this ⊢; omega)
    clear HM;have HM:=HM';clear HM';have HS:=(HM.out.sub (rs':=[(w1.heap.size,x0,x1,x2,x3),(w.heap.size+1,0,0,0,0),(w.heap.size,a0,a1,a2,a3)]) (by simp));refine hK.out _ _ (Or.inr HS) (fun _ => ?_);clear hK K HS;refine aN (i:=1) (by kernel_rfl) rfl (fun K hK => ?_);go_simp;refine (iM f F hf _).mono ?_
    rintro e v1 ⟨rfl,hbl⟩
    have HM':=Lib.hid (HM.out.on hbl);clear HM hbl;have HM:=HM';clear HM';have HS:=(HM.out.sub (rs':=[(w1.heap.size,x0,x1,x2,x3),(w.heap.size+1,0,0,0,0),(w.heap.size,a0,a1,a2,a3)]) (by simp));refine hK.out _ _ (Or.inr HS) (fun _ => ?_);clear hK K HS;refine aN (i:=3) (by kernel_rfl) rfl (fun K hK => ?_);go_simp;refine (iD F.m0 F.m1 F.m2 F.m3 x0 x1 x2 x3 hf.ok.okm hx _).mono ?_
    rintro e v2 ⟨s0,s1,s2,s3,cc,rfl,hs,hcc,hv,hbl⟩
    have HVs:=Lib.hid (show aC s0 s1 s2 s3=F.M-aC a0 a1 a2 a3%F.M by have:=Nat.mod_lt (aC a0 a1 a2 a3) hpos; have:=bO hs; rw[HVx.out,show aC F.m0 F.m1 F.m2 F.m3=F.M from rfl]at hv; omega);clear hv;have HM':=Lib.hid (HM.out.on hbl);clear HM hbl;have HM:=HM';clear HM';have HS:=(HM.out.sub (rs':=[(w1.heap.size,x0,x1,x2,x3),(w.heap.size+1,0,0,0,0),(w.heap.size,a0,a1,a2,a3)]) (by simp));refine hK.out _ _ (Or.inr HS) (fun _ => ?_);clear hK K HS;have HS:=HM.out.sub (rs':=[(w1.heap.size,x0,x1,x2,x3),(w.heap.size+1,0,0,0,0),(w.heap.size,a0,a1,a2,a3)]) (by simp);refine aK (i:=4) (v:=.tuple #[.agg #[.int .u64 s0,.int .u64 s1,.int .u64 s2,.int .u64 s3],.int .u64 (cc:Nat)]) rfl (by kernel_rfl) (by kernel_rfl) (by kernel_rfl) (by kernel_rfl) (fun _ _ _ h=>h) HS (Or.inl ⟨by kernel_rfl,fun wx hx => ?_⟩) ?_
    ·clear HS hx;go_simp
    simp only[Act.put,List.setIfInBounds_toArray,List.set_cons_zero,List.set_cons_succ];refine aK (i:=5) (v:=.agg #[.int .u64 s0,.int .u64 s1,.int .u64 s2,.int .u64 s3]) rfl (by kernel_rfl) (by kernel_rfl) (by kernel_rfl) (by kernel_rfl) (fun _ _ _ h=>h) HS (Or.inl ⟨by kernel_rfl,fun wx hx => ?_⟩) ?_
    ·clear HS hx;go_simp
    simp only[Act.put,List.setIfInBounds_toArray,List.set_cons_zero,List.set_cons_succ];refine aK (i:=6) (v:=.int .u64 (cc:Nat)) rfl (by kernel_rfl) (by kernel_rfl) (by kernel_rfl) (by kernel_rfl) (fun _ _ _ h=>h) HS (Or.inl ⟨by kernel_rfl,fun wx hx => ?_⟩) ?_
    ·clear HS hx;go_simp
    simp only[Act.put,List.setIfInBounds_toArray,List.set_cons_zero,List.set_cons_succ];clear HS;have kr:=HM.out.row (b:=(w1.heap.size+1)) (c0:=0) (c1:=0) (c2:=0) (c3:=0) (by simp);have yl:=HM.out.lt (b:=(w1.heap.size+1)) (c0:=0) (c1:=0) (c2:=0) (c3:=0) (by simp);have y0:=kr.c0; have y1:=kr.c1; have y2:=kr.c2; have y3:=kr.c3; have yf:=kr.fr;clear kr;refine aN (i:=8) (by kernel_rfl) rfl (fun K hK => ?_);go_simp;have HM':=Lib.hid (HM.out.put s0 s1 s2 s3 (by omega) (by intro r hr; simp at hr; rcases hr with rfl|rfl|rfl<;>simp<;>omega));clear HM;have HM:=HM';clear HM';have HS:=(HM.out.sub (rs':=[(w1.heap.size,x0,x1,x2,x3),(w.heap.size+1,0,0,0,0),(w.heap.size,a0,a1,a2,a3)]) (by simp));refine hK.out _ _ (Or.inr HS) (fun _ => ?_);clear hK K HS;refine aN (i:=9) (by kernel_rfl) rfl (fun K hK => ?_);go_simp;refine hK.out _ _ (Or.inl rfl) (fun _ => ?_);clear hK K;refine dT (by kernel_rfl) ?_;go_wp2_with fail
    go_meet
    exact⟨(w1.heap.size+1),s0,s1,s2,s3,rfl,hs,HVs,Lib.hid (HM.out.sub (by simp))⟩
  case rest =>
   obtain⟨gb,s0,s1,s2,s3,rfl,hs,HVs,HM'⟩:=hcut;clear HM;have HM:=HM';clear HM';have kr:=HM.out.row (b:=gb) (c0:=s0) (c1:=s1) (c2:=s2) (c3:=s3) (by simp);have x0:=kr.c0; have x1:=kr.c1; have x2:=kr.c2; have x3:=kr.c3;clear kr;have xl:=HM.out.lt (b:=gb) (c0:=s0) (c1:=s1) (c2:=s2) (c3:=s3) (by simp);have kr:=HM.out.row (b:=w.heap.size+1) (c0:=0) (c1:=0) (c2:=0) (c3:=0) (by simp);have y0:=kr.c0; have y1:=kr.c1; have y2:=kr.c2; have y3:=kr.c3; have yf:=kr.fr;clear kr;have yl:=HM.out.lt (b:=w.heap.size+1) (c0:=0) (c1:=0) (c2:=0) (c3:=0) (by simp);go_wp2_with fail;refine bodyPost_ret (v:=.agg #[.int .u64 s0,.int .u64 s1,.int .u64 s2,.int .u64 s3]) (by simp[results,results226,go_sem, *]) rfl ?_;refine⟨_,_,_,_,rfl,hs,by rw[HVs.out,Nat.mod_eq_of_lt (Nat.sub_lt hpos (Nat.pos_of_ne_zero HZ.out))],?_⟩;exact bF HM.out.1 (by omega) _ _ _ _
set_option maxHeartbeats 2000000 in
theorem Mm (f:Int) (F:FC) (hf:FieldIs f F) (a0 a1 a2 a3 b0 b1 b2 b3:Nat) (ha:bY a0 a1 a2 a3) (hb:bY b0 b1 b2 b3) (w:World) :
  Calls prog 188 #[.int .i64 f,.agg #[.int .u64 a0,.int .u64 a1,.int .u64 a2,.int .u64 a3],.agg #[.int .u64 b0,.int .u64 b1,.int .u64 b2,.int .u64 b3]] w (fF ((aC a0 a1 a2 a3+(F.M-aC b0 b1 b2 b3%F.M))%F.M) w):=by
 go_enter func188,ntmps188
 go_wp2_with fail;have HM:=Lib.hid ((((Mem.nil w).new (w.heap.size) a0 a1 a2 a3 25 (by simp)).new (w.heap.size+1) b0 b1 b2 b3 25 (by simp)).new (w.heap.size+1+1) 0 0 0 0 25 (by simp));refine fG (fun wx=>Mem w wx [(w.heap.size+1,b0,b1,b2,b3),(w.heap.size,a0,a1,a2,a3)]) 6 (by kernel_rfl) ?_;have HM':=Lib.hid (HM.out.drewN 1);clear HM;have HM:=HM';clear HM';have HS:=HM.out.sub (rs':=[(w.heap.size+1,b0,b1,b2,b3),(w.heap.size,a0,a1,a2,a3)]) (by simp);refine aK (i:=0) (v:=.int .i64 f) rfl (by kernel_rfl) (by kernel_rfl) (by kernel_rfl) (by kernel_rfl) (fun _ _ _ h=>h) HS (Or.inl ⟨by kernel_rfl,fun wx hx => ?_⟩) ?_
 ·clear HS hx;go_simp
 simp only[Act.put,List.setIfInBounds_toArray,List.set_cons_zero,List.set_cons_succ];refine aK (i:=1) (v:=.agg #[.int .u64 a0,.int .u64 a1,.int .u64 a2,.int .u64 a3]) rfl (by kernel_rfl) (by kernel_rfl) (by kernel_rfl) (by kernel_rfl) (fun _ _ _ h=>h) HS (Or.inl ⟨by kernel_rfl,fun wx hx => ?_⟩) ?_
 ·have kr:=hx.row (b:=w.heap.size) (c0:=a0) (c1:=a1) (c2:=a2) (c3:=a3) (by simp);have x0:=kr.c0; have x1:=kr.c1; have x2:=kr.c2; have x3:=kr.c3;clear kr HS hx;go_simp
 simp only[Act.put,List.setIfInBounds_toArray,List.set_cons_zero,List.set_cons_succ];refine aK (i:=2) (v:=.int .i64 f) rfl (by kernel_rfl) (by kernel_rfl) (by kernel_rfl) (by kernel_rfl) (fun _ _ _ h=>h) HS (Or.inl ⟨by kernel_rfl,fun wx hx => ?_⟩) ?_
 ·clear HS hx;go_simp
 simp only[Act.put,List.setIfInBounds_toArray,List.set_cons_zero,List.set_cons_succ];refine aK (i:=3) (v:=.agg #[.int .u64 b0,.int .u64 b1,.int .u64 b2,.int .u64 b3]) rfl (by kernel_rfl) (by kernel_rfl) (by kernel_rfl) (by kernel_rfl) (fun _ _ _ h=>h) HS (Or.inl ⟨by kernel_rfl,fun wx hx => ?_⟩) ?_
 ·have kr:=hx.row (b:=w.heap.size+1) (c0:=b0) (c1:=b1) (c2:=b2) (c3:=b3) (by simp);have x0:=kr.c0; have x1:=kr.c1; have x2:=kr.c2; have x3:=kr.c3;clear kr HS hx;go_simp
 simp only[Act.put,List.setIfInBounds_toArray,List.set_cons_zero,List.set_cons_succ];clear HS;refine aN (i:=4) (by kernel_rfl) rfl (fun K hK => ?_);go_simp;refine (JX f F hf b0 b1 b2 b3 hb _).mono ?_
 rintro e w1 ⟨n0,n1,n2,n3,rfl,hn,hv,hbl⟩
 have HVn:=Lib.hid hv;clear hv;have HM':=Lib.hid (HM.out.on hbl);clear HM hbl;have HM:=HM';clear HM';have HS:=HM.out.sub (rs':=[(w.heap.size+1,b0,b1,b2,b3),(w.heap.size,a0,a1,a2,a3)]) (by simp);refine hK.out _ _ (Or.inr HS) (fun _ => ?_);clear hK K;clear HS;refine aN (i:=5) (by kernel_rfl) rfl (fun K hK => ?_);go_simp;refine (yB f F hf a0 a1 a2 a3 n0 n1 n2 n3 ha hn _).mono ?_
 rintro e w2 ⟨s0,s1,s2,s3,rfl,hs,hv,hbl⟩
 have HVs:=Lib.hid (show aC s0 s1 s2 s3=(aC a0 a1 a2 a3+(F.M-aC b0 b1 b2 b3%F.M))%F.M by rw[hv,HVn.out,Nat.add_mod_mod]);clear hv;have HM':=Lib.hid (HM.out.on hbl);clear HM hbl;have HM:=HM';clear HM';have HS:=HM.out.sub (rs':=[(w.heap.size+1,b0,b1,b2,b3),(w.heap.size,a0,a1,a2,a3)]) (by simp);refine hK.out _ _ (Or.inr HS) (fun _ => ?_);clear hK K;clear HS;have kr:=HM.out.row (b:=w.heap.size+1+1) (c0:=0) (c1:=0) (c2:=0) (c3:=0) (by simp);have y0:=kr.c0; have y1:=kr.c1; have y2:=kr.c2; have y3:=kr.c3; have yf:=kr.fr;clear kr;have yl:=HM.out.lt (b:=w.heap.size+1+1) (c0:=0) (c1:=0) (c2:=0) (c3:=0) (by simp);refine aN (i:=6) (by kernel_rfl) rfl (fun K hK => ?_);go_simp;have HM':=Lib.hid ((HM.out.sub (rs':=[(w.heap.size+1+1,0,0,0,0),(w.heap.size+1,b0,b1,b2,b3),(w.heap.size,a0,a1,a2,a3)]) (by simp)).put s0 s1 s2 s3 (by omega) (by intro r hr; simp at hr; rcases hr with rfl|rfl<;>simp<;>omega));clear HM;have HM:=HM';clear HM';refine hK.out _ _ (Or.inl rfl) (fun _ => ?_);clear hK K;refine dT (by kernel_rfl) ?_;go_wp2_with fail;refine bodyPost_ret (v:=.agg #[.int .u64 s0,.int .u64 s1,.int .u64 s2,.int .u64 s3]) (by simp[results,results188,go_sem, *]) rfl ?_;exact⟨_,_,_,_,rfl,hs,HVs.out,HM.out.1⟩
theorem aFq {F:FC} (hF:F.Ok) (A B:Nat):A%F.M*(B%F.M)*F.Ri%F.M*aC F.s0 F.s1 F.s2 F.s3*F.Ri%F.M=A*B%F.M:=by
 rw[VH hF];unfold kp;have h:A%F.M*(B%F.M)*F.Ri%F.M*F.R%F.M=A*B*F.R*F.Ri%F.M:=by
  have e:A%F.M*(B%F.M)*F.Ri%F.M*F.R%F.M=A*B*F.Ri*F.R%F.M:=tE ((yQ _ _).trans (tE (tE (yQ _ _) (yQ _ _)) rfl)) rfl;rw[e,Nat.mul_right_comm]
 rw[h,qZ hF]
set_option maxHeartbeats 2000000 in
theorem sL (f:Int) (F:FC) (hf:FieldIs f F) (a0 a1 a2 a3 b0 b1 b2 b3:Nat) (ha:bY a0 a1 a2 a3) (hb:bY b0 b1 b2 b3) (w:World) :
  Calls prog 43 #[.int .i64 f,.agg #[.int .u64 a0,.int .u64 a1,.int .u64 a2,.int .u64 a3],.agg #[.int .u64 b0,.int .u64 b1,.int .u64 b2,.int .u64 b3]] w (fF (aC a0 a1 a2 a3*aC b0 b1 b2 b3%F.M) w):=by
 have hpos:=hf.ok.pos
 go_enter func43,ntmps43
 go_wp2_with fail;have HM:=Lib.hid ((((Mem.nil w).new (w.heap.size) a0 a1 a2 a3 25 (by simp)).new (w.heap.size+1) b0 b1 b2 b3 25 (by simp)).new (w.heap.size+1+1) 0 0 0 0 25 (by simp));refine fG (fun wx=>Mem w wx [(w.heap.size+1,b0,b1,b2,b3),(w.heap.size,a0,a1,a2,a3)]) 12 (by kernel_rfl) ?_;have HM':=Lib.hid (HM.out.drewN 1);clear HM;have HM:=HM';clear HM';have HS:=HM.out.sub (rs':=[(w.heap.size+1,b0,b1,b2,b3),(w.heap.size,a0,a1,a2,a3)]) (by simp);refine aK (i:=0) (v:=.int .i64 f) rfl (by kernel_rfl) (by kernel_rfl) (by kernel_rfl) (by kernel_rfl) (fun _ _ _ h=>h) HS (Or.inl ⟨by kernel_rfl,fun wx hx => ?_⟩) ?_
 ·clear HS hx;go_simp
 simp only[Act.put,List.setIfInBounds_toArray,List.set_cons_zero,List.set_cons_succ];refine aK (i:=1) (v:=.int .i64 f) rfl (by kernel_rfl) (by kernel_rfl) (by kernel_rfl) (by kernel_rfl) (fun _ _ _ h=>h) HS (Or.inl ⟨by kernel_rfl,fun wx hx => ?_⟩) ?_
 ·clear HS hx;go_simp
 simp only[Act.put,List.setIfInBounds_toArray,List.set_cons_zero,List.set_cons_succ];refine aK (i:=2) (v:=.int .i64 f) rfl (by kernel_rfl) (by kernel_rfl) (by kernel_rfl) (by kernel_rfl) (fun _ _ _ h=>h) HS (Or.inl ⟨by kernel_rfl,fun wx hx => ?_⟩) ?_
 ·clear HS hx;go_simp
 simp only[Act.put,List.setIfInBounds_toArray,List.set_cons_zero,List.set_cons_succ];refine aK (i:=3) (v:=.agg #[.int .u64 a0,.int .u64 a1,.int .u64 a2,.int .u64 a3]) rfl (by kernel_rfl) (by kernel_rfl) (by kernel_rfl) (by kernel_rfl) (fun _ _ _ h=>h) HS (Or.inl ⟨by kernel_rfl,fun wx hx => ?_⟩) ?_
 ·have kr:=hx.row (b:=w.heap.size) (c0:=a0) (c1:=a1) (c2:=a2) (c3:=a3) (by simp);have x0:=kr.c0; have x1:=kr.c1; have x2:=kr.c2; have x3:=kr.c3;clear kr HS hx;go_simp
 simp only[Act.put,List.setIfInBounds_toArray,List.set_cons_zero,List.set_cons_succ];refine aK (i:=5) (v:=.int .i64 f) rfl (by kernel_rfl) (by kernel_rfl) (by kernel_rfl) (by kernel_rfl) (fun _ _ _ h=>h) HS (Or.inl ⟨by kernel_rfl,fun wx hx => ?_⟩) ?_
 ·clear HS hx;go_simp
 simp only[Act.put,List.setIfInBounds_toArray,List.set_cons_zero,List.set_cons_succ];refine aK (i:=6) (v:=.agg #[.int .u64 b0,.int .u64 b1,.int .u64 b2,.int .u64 b3]) rfl (by kernel_rfl) (by kernel_rfl) (by kernel_rfl) (by kernel_rfl) (fun _ _ _ h=>h) HS (Or.inl ⟨by kernel_rfl,fun wx hx => ?_⟩) ?_
 ·have kr:=hx.row (b:=w.heap.size+1) (c0:=b0) (c1:=b1) (c2:=b2) (c3:=b3) (by simp);have x0:=kr.c0; have x1:=kr.c1; have x2:=kr.c2; have x3:=kr.c3;clear kr HS hx;go_simp
 simp only[Act.put,List.setIfInBounds_toArray,List.set_cons_zero,List.set_cons_succ];refine aK (i:=9) (v:=.int .i64 f) rfl (by kernel_rfl) (by kernel_rfl) (by kernel_rfl) (by kernel_rfl) (fun _ _ _ h=>h) HS (Or.inl ⟨by kernel_rfl,fun wx hx => ?_⟩) ?_
 ·clear HS hx;go_simp
 simp only[Act.put,List.setIfInBounds_toArray,List.set_cons_zero,List.set_cons_succ];clear HS;refine aN (i:=4) (by kernel_rfl) rfl (fun K hK => ?_);go_simp;refine (dW f F hf a0 a1 a2 a3 ha _).mono ?_
 rintro e w1 ⟨x0,x1,x2,x3,rfl,hx,hv,hbl⟩
 have HVx:=Lib.hid hv;clear hv;have HM':=Lib.hid (HM.out.on hbl);clear HM hbl;have HM:=HM';clear HM';have HS:=HM.out.sub (rs':=[(w.heap.size+1,b0,b1,b2,b3),(w.heap.size,a0,a1,a2,a3)]) (by simp);refine hK.out _ _ (Or.inr HS) (fun _ => ?_);clear hK K;clear HS;refine aN (i:=7) (by kernel_rfl) rfl (fun K hK => ?_);go_simp;refine (dW f F hf b0 b1 b2 b3 hb _).mono ?_
 rintro e w2 ⟨y0,y1,y2,y3,rfl,hy,hv,hbl⟩
 have HVy:=Lib.hid hv;clear hv;have HM':=Lib.hid (HM.out.on hbl);clear HM hbl;have HM:=HM';clear HM';have HS:=HM.out.sub (rs':=[(w.heap.size+1,b0,b1,b2,b3),(w.heap.size,a0,a1,a2,a3)]) (by simp);refine hK.out _ _ (Or.inr HS) (fun _ => ?_);clear hK K;clear HS;refine aN (i:=8) (by kernel_rfl) rfl (fun K hK => ?_);go_simp;refine (yI f F hf x0 x1 x2 x3 y0 y1 y2 y3 hx hy (by rw[HVx.out]; exact Nat.mod_lt _ hpos) _).mono ?_
 rintro e w3 ⟨z0,z1,z2,z3,rfl,hz,hv,hbl⟩
 have HVz:=Lib.hid hv;clear hv;have HM':=Lib.hid (HM.out.on hbl);clear HM hbl;have HM:=HM';clear HM';have HS:=HM.out.sub (rs':=[(w.heap.size+1,b0,b1,b2,b3),(w.heap.size,a0,a1,a2,a3)]) (by simp);refine hK.out _ _ (Or.inr HS) (fun _ => ?_);clear hK K;clear HS;refine aN (i:=10) (by kernel_rfl) rfl (fun K hK => ?_);go_simp;refine (zP f F hf _).mono ?_
 rintro e w4 ⟨rfl,hbl⟩
 have HM':=Lib.hid (HM.out.on hbl);clear HM hbl;have HM:=HM';clear HM';have HS:=HM.out.sub (rs':=[(w.heap.size+1,b0,b1,b2,b3),(w.heap.size,a0,a1,a2,a3)]) (by simp);refine hK.out _ _ (Or.inr HS) (fun _ => ?_);clear hK K;clear HS;refine aN (i:=11) (by kernel_rfl) rfl (fun K hK => ?_);go_simp;refine (yI f F hf z0 z1 z2 z3 F.s0 F.s1 F.s2 F.s3 hz hf.ok.oks (by rw[HVz.out]; exact Nat.mod_lt _ hpos) _).mono ?_
 rintro e w5 ⟨s0,s1,s2,s3,rfl,hs,hv,hbl⟩
 have HVs:=Lib.hid (show aC s0 s1 s2 s3=aC a0 a1 a2 a3*aC b0 b1 b2 b3%F.M by rw[hv,HVz.out,HVx.out,HVy.out]; exact aFq hf.ok _ _);clear hv;have HM':=Lib.hid (HM.out.on hbl);clear HM hbl;have HM:=HM';clear HM';have HS:=HM.out.sub (rs':=[(w.heap.size+1,b0,b1,b2,b3),(w.heap.size,a0,a1,a2,a3)]) (by simp);refine hK.out _ _ (Or.inr HS) (fun _ => ?_);clear hK K;clear HS;have kr:=HM.out.row (b:=w.heap.size+1+1) (c0:=0) (c1:=0) (c2:=0) (c3:=0) (by simp);have y0:=kr.c0; have y1:=kr.c1; have y2:=kr.c2; have y3:=kr.c3; have yf:=kr.fr;clear kr;have yl:=HM.out.lt (b:=w.heap.size+1+1) (c0:=0) (c1:=0) (c2:=0) (c3:=0) (by simp);refine aN (i:=12) (by kernel_rfl) rfl (fun K hK => ?_);go_simp;have HM':=Lib.hid ((HM.out.sub (rs':=[(w.heap.size+1+1,0,0,0,0),(w.heap.size+1,b0,b1,b2,b3),(w.heap.size,a0,a1,a2,a3)]) (by simp)).put s0 s1 s2 s3 (by omega) (by intro r hr; simp at hr; rcases hr with rfl|rfl<;>simp<;>omega));clear HM;have HM:=HM';clear HM';refine hK.out _ _ (Or.inl rfl) (fun _ => ?_);clear hK K;refine dT (by kernel_rfl) ?_;go_wp2_with fail;refine bodyPost_ret (v:=.agg #[.int .u64 s0,.int .u64 s1,.int .u64 s2,.int .u64 s3]) (by simp[results,results43,go_sem, *]) rfl ?_;exact⟨_,_,_,_,rfl,hs,HVs.out,HM.out.1⟩
theorem aKe (A M:Nat):decide (fB A M<0)=GX A M:=by
 unfold GX fB
 by_cases q:A=M
 ·rw[if_pos q,decide_eq_false (by omega),decide_eq_false (by omega)]
 ·rw[if_neg q]
  by_cases h:A<M
  ·rw[if_pos h,decide_eq_true (by omega),decide_eq_true (by omega)]
  ·rw[if_neg h,decide_eq_false (by omega),decide_eq_false (by omega)]
set_option maxHeartbeats 2000000 in
theorem TT (f:Int) (F:FC) (hf:FieldIs f F) (a0 a1 a2 a3:Nat) (ha:bY a0 a1 a2 a3) (w:World) :
  Calls prog 79 #[.int .i64 f,.agg #[.int .u64 a0,.int .u64 a1,.int .u64 a2,.int .u64 a3]] w (fun e w'=>e=.returned (.bool (GX (aC a0 a1 a2 a3) F.M))∧Below w.heap.size w w'):=by
 go_enter func79,ntmps79
 go_wp2_with fail;have HM:=Lib.hid ((Mem.nil w).new (w.heap.size) a0 a1 a2 a3 25 (by simp));refine fG (fun wx=>Mem w wx [(w.heap.size,a0,a1,a2,a3)]) 5 (by kernel_rfl) ?_;have HM':=Lib.hid (HM.out.drewN 1);clear HM;have HM:=HM';clear HM';have HS:=HM.out.sub (rs':=[(w.heap.size,a0,a1,a2,a3)]) (by simp);refine aK (i:=0) (v:=.agg #[.int .u64 a0,.int .u64 a1,.int .u64 a2,.int .u64 a3]) rfl (by kernel_rfl) (by kernel_rfl) (by kernel_rfl) (by kernel_rfl) (fun _ _ _ h=>h) HS (Or.inl ⟨by kernel_rfl,fun wx hx => ?_⟩) ?_
 ·have kr:=hx.row (b:=w.heap.size) (c0:=a0) (c1:=a1) (c2:=a2) (c3:=a3) (by simp);have x0:=kr.c0; have x1:=kr.c1; have x2:=kr.c2; have x3:=kr.c3;clear kr HS hx;go_simp
 simp only[Act.put,List.setIfInBounds_toArray,List.set_cons_zero,List.set_cons_succ];refine aK (i:=1) (v:=.int .i64 f) rfl (by kernel_rfl) (by kernel_rfl) (by kernel_rfl) (by kernel_rfl) (fun _ _ _ h=>h) HS (Or.inl ⟨by kernel_rfl,fun wx hx => ?_⟩) ?_
 ·clear HS hx;go_simp
 simp only[Act.put,List.setIfInBounds_toArray,List.set_cons_zero,List.set_cons_succ];clear HS;refine aN (i:=2) (by kernel_rfl) rfl (fun K hK => ?_);go_simp;refine (iM f F hf _).mono ?_
 rintro e w1 ⟨rfl,hbl⟩
 have HM':=Lib.hid (HM.out.on hbl);clear HM hbl;have HM:=HM';clear HM';have HS:=HM.out.sub (rs':=[(w.heap.size,a0,a1,a2,a3)]) (by simp);refine hK.out _ _ (Or.inr HS) (fun _ => ?_);clear hK K;clear HS;refine aN (i:=3) (by kernel_rfl) rfl (fun K hK => ?_);go_simp;refine (zV a0 a1 a2 a3 F.m0 F.m1 F.m2 F.m3 ha hf.ok.okm _).mono ?_
 rintro e w2 ⟨he,hbl⟩
 have HC:=Lib.hid (aKe (aC a0 a1 a2 a3) (aC F.m0 F.m1 F.m2 F.m3));generalize fB (aC a0 a1 a2 a3) (aC F.m0 F.m1 F.m2 F.m3)=cc at *;subst he;have HM':=Lib.hid (HM.out.on hbl);clear HM hbl;have HM:=HM';clear HM';have HS:=HM.out.sub (rs':=[(w.heap.size,a0,a1,a2,a3)]) (by simp);refine hK.out _ _ (Or.inr HS) (fun _ => ?_);clear hK K;refine aK (i:=4) (v:=.bool (decide (cc<0))) rfl (by kernel_rfl) (by kernel_rfl) (by kernel_rfl) (by kernel_rfl) (fun _ _ _ h=>h) HS (Or.inl ⟨by kernel_rfl,fun wx hx => ?_⟩) ?_
 ·clear HS hx;go_simp
 simp only[Act.put,List.setIfInBounds_toArray,List.set_cons_zero,List.set_cons_succ];clear HS;refine aN (i:=5) (by kernel_rfl) rfl (fun K hK => ?_);go_simp;refine hK.out _ _ (Or.inl rfl) (fun _ => ?_);clear hK K;refine dT (by kernel_rfl) ?_;go_wp2_with fail;go_ret;exact⟨Da HC.out,HM.out.1⟩
set_option maxRecDepth 20000 in
set_option maxHeartbeats 1000000 in
theorem aBA (n:Nat) (w:World):Calls prog 227 #[.int .u64 n] w fun e w'=>e=.returned (.agg #[.int .u64 n,.int .u64 0,.int .u64 0,.int .u64 0])∧Below w.heap.size w w':=by
 go_enter func227,ntmps227
 go_wp2_with fail;refine bodyPost_ret (v:=.agg #[.int .u64 n,.int .u64 0,.int .u64 0,.int .u64 0]) (by simp[results,results227,go_sem]) rfl ?_;refine⟨rfl,?_⟩
 repeat (first|exact Below.refl _ _|refine Below.drew ?_|refine Below.alloc ?_ (by first|(simp; done)|(simp; omega)) _|refine Below.setCell ?_ (by simp) _)
set_option maxRecDepth 20000 in
set_option maxHeartbeats 1000000 in
theorem Mr (a0 a1 a2 a3 i:Nat) (ha:bY a0 a1 a2 a3) (hi:i<256) (w:World) :
  Calls prog 228 #[.agg #[.int .u64 a0,.int .u64 a1,.int .u64 a2,.int .u64 a3],.int .i64 i] w (fun e w'=>e=.returned (.bool (decide (dD (aC a0 a1 a2 a3) i=1)))∧Below w.heap.size w w'):=by
 obtain⟨j,k,q,r,hj,hk,e⟩:=aJb hi;have hc:=LF w 24 a0 a1 a2 a3 j hj;have hx:=WA ha j;obtain⟨s,e1,e2,hs⟩:=Pg hx (Pw ha hj hk e.out);have hb:=kZ (aC a0 a1 a2 a3) i;generalize dD (aC a0 a1 a2 a3) i=b at *;generalize fL [a0,a1,a2,a3] j=x at *;have hb':b≤1:=by omega
 clear e
 go_enter func228,ntmps228
 rcases hb with rfl|rfl
 ·go_wp2_with fail;go_ret;exact⟨rfl,(Below.refl _ _).alloc (Nat.le_refl _) _⟩
 ·go_wp2_with fail;go_ret;exact⟨rfl,(Below.refl _ _).alloc (Nat.le_refl _) _⟩
theorem bBl {M A N i:Nat} (hb:dD N i=0):A^(N/2^(i+1))%M*(A^(N/2^(i+1))%M)%M=A^(N/2^i)%M:=by
 rw[←Nat.mul_mod,←Nat.pow_add,MS N i,hb];congr 2;omega
theorem bBk {M A N i:Nat} (hb:dD N i=1):A^(N/2^(i+1))%M*(A^(N/2^(i+1))%M)%M*A%M=A^(N/2^i)%M:=by
 rw[←Nat.mul_mod,←Nat.pow_add,MS N i,hb,Nat.mod_mul_mod,←Nat.pow_succ];congr 2;omega
set_option maxHeartbeats 4000000 in
theorem Mp (f:Int) (F:FC) (hf:FieldIs f F) (a0 a1 a2 a3 n0 n1 n2 n3:Nat) (ha:bY a0 a1 a2 a3) (hn:bY n0 n1 n2 n3) (w:World) :
  Calls prog 189 #[.int .i64 f,.agg #[.int .u64 a0,.int .u64 a1,.int .u64 a2,.int .u64 a3],.agg #[.int .u64 n0,.int .u64 n1,.int .u64 n2,.int .u64 n3]] w (fF (aC a0 a1 a2 a3^aC n0 n1 n2 n3%F.M) w):=by
 have h2:=hf.ok.gt
 go_enter func189,ntmps189
 go_wp2_with fail;have M0:=((((Mem.nil w).new w.heap.size a0 a1 a2 a3 25 rfl).new (w.heap.size+1) n0 n1 n2 n3 24 (by simp)).new (w.heap.size+1+1) 0 0 0 0 25 (by simp));refine (aBA 1 _).mono ?_
 rintro e w1 ⟨rfl,hbl⟩
 have M1:=M0.on hbl;have hz1:w.heap.size+1+1<w1.heap.size:=M1.lt (c0:=0) (c1:=0) (c2:=0) (c3:=0) (by simp);have M2:=Lib.hid (M1.new w1.heap.size 1 0 0 0 25 rfl);clear hbl M0 M1;go_wp2_with fail
 go_loopw [8] (fun t wr=>∃(j r0 r1 r2 r3:Nat) (m:Int),j≤256∧Hid (m=(j:Int)-1)∧t=.int .i64 m∧bY r0 r1 r2 r3∧Hid (aC r0 r1 r2 r3=aC a0 a1 a2 a3^(aC n0 n1 n2 n3/2^j)%F.M)∧Hid (Mem w wr [(w1.heap.size,r0,r1,r2,r3),(w.heap.size+1+1,0,0,0,0),(w.heap.size+1,n0,n1,n2,n3),(w.heap.size,a0,a1,a2,a3)])) (fun t _=>(intOf t+1).toNat)
 case atStart =>
  refine⟨256,1,0,0,0,255,Nat.le_refl _,Lib.hid (by omega),rfl,(show bY 1 0 0 0 by unfold bY; decide),Lib.hid ?_,M2⟩;rw[Nat.div_eq_of_lt (show aC n0 n1 n2 n3<2^256 from bO hn),Nat.pow_zero,Nat.mod_eq_of_lt (by omega)];rfl
 case round =>
  obtain⟨j,r0,r1,r2,r3,m,hj,hm,rfl,hr,HV,HM⟩:=hrel
  by_cases hlt:0<j
  ·obtain⟨i,hi⟩:∃i,j=i+1:=⟨j-1,by omega⟩
   subst hi;obtain rfl:m=(i:Int):=by have:=hm.out; omega
   have Rr:=HM.out.row (b:=w1.heap.size) (c0:=r0) (c1:=r1) (c2:=r2) (c3:=r3) (by simp);have x0:=Rr.c0; have x1:=Rr.c1; have x2:=Rr.c2; have x3:=Rr.c3;have ltr:=HM.out.lt (b:=w1.heap.size) (c0:=r0) (c1:=r1) (c2:=r2) (c3:=r3) (by simp);clear Rr hm;go_wp2_with fail;refine (sL f F hf r0 r1 r2 r3 r0 r1 r2 r3 hr hr _).mono ?_
   rintro e w3 ⟨p0,p1,p2,p3,rfl,hp,hv,hbl⟩
   have HP:=Lib.hid (show aC p0 p1 p2 p3=_ by rw[hv,HV.out]);have M4:=HM.out.on hbl;have lt4:=M4.lt (b:=w1.heap.size) (c0:=r0) (c1:=r1) (c2:=r2) (c3:=r3) (by simp);have Rr:=M4.row (b:=w1.heap.size) (c0:=r0) (c1:=r1) (c2:=r2) (c3:=r3) (by simp);have Rn:=M4.row (b:=w.heap.size+1) (c0:=n0) (c1:=n1) (c2:=n2) (c3:=n3) (by simp);have M5:=Lib.hid (M4.put p0 p1 p2 p3 (by omega) (by intro r hr; simp at hr; rcases hr with rfl|rfl|rfl<;>simp<;>omega));clear x0 x1 x2 x3 hv hbl M4;have x0:=Rr.c0; have x1:=Rr.c1; have x2:=Rr.c2; have x3:=Rr.c3; have xf:=Rr.fr;have y0:=Rn.c0; have y1:=Rn.c1; have y2:=Rn.c2; have y3:=Rn.c3;have ne1:¬w.heap.size+1=w1.heap.size:=by omega
   have ne1':¬w1.heap.size=w.heap.size+1:=by omega
   have hi256:i<256:=by omega
   clear Rr Rn;go_wp2_with fail;refine (Mr n0 n1 n2 n3 i hn hi256 _).mono ?_
   rintro e w4 ⟨he,hbl⟩
   have M5':=M5.out;unfold set4 at M5';have M6:=M5'.on hbl;clear hbl M5' x0 x1 x2 x3 xf y0 y1 y2 y3;have lt6:=M6.lt (b:=w1.heap.size) (c0:=p0) (c1:=p1) (c2:=p2) (c3:=p3) (by simp)
   rcases kZ (aC n0 n1 n2 n3) i with hb|hb
   ·rw[hb,show decide (0=1)=false from rfl]at he;subst he;have HS:=Lib.hid (show aC p0 p1 p2 p3=aC a0 a1 a2 a3^(aC n0 n1 n2 n3/2^i)%F.M by rw[HP.out]; exact bBl hb);have M7:=Lib.hid M6;clear hb M6;go_wp2_with fail
    go_roundw
    case rel=>exact⟨i,p0,p1,p2,p3,(i:Int)-1,by omega,Lib.hid rfl,by first|rfl|go_num,hp,HS,M7⟩
    case measure=>first|(simp[intOf]; done)|(simp[intOf]; omega)
   ·rw[hb,show decide (1=1)=true from rfl]at he;subst he;have Rr:=M6.row (b:=w1.heap.size) (c0:=p0) (c1:=p1) (c2:=p2) (c3:=p3) (by simp);have Ra:=M6.row (b:=w.heap.size) (c0:=a0) (c1:=a1) (c2:=a2) (c3:=a3) (by simp);have x0:=Rr.c0; have x1:=Rr.c1; have x2:=Rr.c2; have x3:=Rr.c3;have z0:=Ra.c0; have z1:=Ra.c1; have z2:=Ra.c2; have z3:=Ra.c3;have HB:=Lib.hid hb;have M7:=Lib.hid M6;clear hb M6 Rr Ra;go_wp2_with fail;refine (sL f F hf p0 p1 p2 p3 a0 a1 a2 a3 hp ha _).mono ?_
    rintro e w5 ⟨q0,q1,q2,q3,rfl,hq,hv,hbl⟩
    have HS:=Lib.hid (show aC q0 q1 q2 q3=aC a0 a1 a2 a3^(aC n0 n1 n2 n3/2^i)%F.M by rw[hv,HP.out]; exact bBk HB.out);have M8:=M7.out.on hbl;have lt8:=M8.lt (b:=w1.heap.size) (c0:=p0) (c1:=p1) (c2:=p2) (c3:=p3) (by simp);have Rr:=M8.row (b:=w1.heap.size) (c0:=p0) (c1:=p1) (c2:=p2) (c3:=p3) (by simp);have M9:=Lib.hid (M8.put q0 q1 q2 q3 (by omega) (by intro r hr; simp at hr; rcases hr with rfl|rfl|rfl<;>simp<;>omega));clear x0 x1 x2 x3 z0 z1 z2 z3 hv hbl M8;have x0:=Rr.c0; have x1:=Rr.c1; have x2:=Rr.c2; have x3:=Rr.c3; have xf:=Rr.fr;clear Rr;go_wp2_with fail
    go_roundw
    case rel=>exact⟨i,q0,q1,q2,q3,(i:Int)-1,by omega,Lib.hid rfl,by first|rfl|go_num,hq,HS,M9⟩
    case measure=>first|(simp[intOf]; done)|(simp[intOf]; omega)
  ·obtain rfl:j=0:=by omega
   obtain rfl:m = -1:=by have:=hm.out; omega
   have Rr:=HM.out.row (b:=w1.heap.size) (c0:=r0) (c1:=r1) (c2:=r2) (c3:=r3) (by simp);have x0:=Rr.c0; have x1:=Rr.c1; have x2:=Rr.c2; have x3:=Rr.c3;have Ro:=HM.out.row (b:=w.heap.size+1+1) (c0:=0) (c1:=0) (c2:=0) (c3:=0) (by simp);have o0:=Ro.c0; have o1:=Ro.c1; have o2:=Ro.c2; have o3:=Ro.c3; have of:=Ro.fr;have ltr:=HM.out.lt (b:=w1.heap.size) (c0:=r0) (c1:=r1) (c2:=r2) (c3:=r3) (by simp);have lto:=HM.out.lt (b:=w.heap.size+1+1) (c0:=0) (c1:=0) (c2:=0) (c3:=0) (by simp);clear Rr Ro hm;go_wp2_with fail;refine bodyPost_ret (v:=.agg #[.int .u64 r0,.int .u64 r1,.int .u64 r2,.int .u64 r3]) (by simp[results,results189,go_sem, *]) rfl ?_;refine⟨_,_,_,_,rfl,hr,by rw[HV.out,Nat.pow_zero,Nat.div_one],?_⟩;exact bF HM.out.1 (by omega) _ _ _ _
theorem aJe {s0 s1 s2 s3:Nat} (hs:bY s0 s1 s2 s3) (h:aC s0 s1 s2 s3=0) (w:World):(Op.equalIn 10000 24 (.agg #[.int .u64 s0,.int .u64 s1,.int .u64 s2,.int .u64 s3]) (.agg #[.int .u64 0,.int .u64 0,.int .u64 0,.int .u64 0])).run prog w=.ok true w:=by
 have h':=vF 9998 s0 s1 s2 s3 0 0 0 0 w;rw[(tB hs zok).2 (h.trans rfl)]at h';exact h'
theorem aPt {s0 s1 s2 s3:Nat} (hs:bY s0 s1 s2 s3) (h:aC s0 s1 s2 s3≠0) (w:World):(Op.equalIn 10000 24 (.agg #[.int .u64 s0,.int .u64 s1,.int .u64 s2,.int .u64 s3]) (.agg #[.int .u64 0,.int .u64 0,.int .u64 0,.int .u64 0])).run prog w=.ok false w:=by
 have h':=vF 9998 s0 s1 s2 s3 0 0 0 0 w;rw[RF (fun q=>h ((tB hs zok).1 q))]at h';exact h'
theorem RG:prog.eqGuardType prog.depth 24=false:=by kernel_rfl
set_option maxHeartbeats 2000000 in
theorem Cy (f:Int) (F:FC) (hf:FieldIs f F) (a0 a1 a2 a3:Nat) (ha:bY a0 a1 a2 a3) (hz:aC a0 a1 a2 a3%F.M≠0) (w:World) :
  Calls prog 143 #[.int .i64 f,.agg #[.int .u64 a0,.int .u64 a1,.int .u64 a2,.int .u64 a3]] w (fun e w'=>∃s0 s1 s2 s3:Nat,e=.returned (.tuple #[.agg #[.int .u64 s0,.int .u64 s1,.int .u64 s2,.int .u64 s3],.int .i64 0])∧bY s0 s1 s2 s3∧aC s0 s1 s2 s3=aC a0 a1 a2 a3^(F.M-2)%F.M∧Below w.heap.size w w'):=by
 have hG:=RG;have h2:=hf.ok.gt
 go_enter func143,ntmps143
 go_wp2_with fail;have HM:=Lib.hid (((Mem.nil w).new (w.heap.size) a0 a1 a2 a3 25 (by simp)).new (w.heap.size+1) 0 0 0 0 25 (by simp));refine (dW f F hf a0 a1 a2 a3 ha _).mono ?_
 rintro e w1 ⟨d0,d1,d2,d3,rfl,hd,hv,hbl⟩
 have HM':=Lib.hid (HM.out.on hbl);clear HM hbl;have HM:=HM';clear HM';have EQ:=aPt hd (by rw[hv]; exact hz);clear hv hz;go_wp2_with fail;refine (iM f F hf _).mono ?_
 rintro e w2 ⟨rfl,hbl⟩
 have HM':=Lib.hid (HM.out.on hbl);clear HM hbl;have HM:=HM';clear HM';go_wp2_with fail;refine (iD F.m0 F.m1 F.m2 F.m3 2 0 0 0 hf.ok.okm (show bY 2 0 0 0 by unfold bY; decide) _).mono ?_
 rintro e w3 ⟨n0,n1,n2,n3,c,rfl,hn,hc,hv,hbl⟩
 have HVn:=Lib.hid (show aC n0 n1 n2 n3=F.M-2 by
  have e2:aC 2 0 0 0=2:=rfl;have:=bO hn;rw[e2]at hv;have e3:aC F.m0 F.m1 F.m2 F.m3=F.M:=rfl;rw[e3]at hv;have:c=0:=by rcases (show c=0∨c=1 by omega)with h|h; exact h; subst h; omega
  subst this;omega)
 clear hv hc;have HM':=Lib.hid ((HM.out.on hbl).new w3.heap.size n0 n1 n2 n3 24 rfl);clear HM hbl;have HM:=HM';clear HM';have kr:=HM.out.row (b:=w.heap.size) (c0:=a0) (c1:=a1) (c2:=a2) (c3:=a3) (by simp);have x0:=kr.c0; have x1:=kr.c1; have x2:=kr.c2; have x3:=kr.c3;clear kr;have xl:w.heap.size<w3.heap.size:=by have:=HM.out.lt (b:=w.heap.size) (c0:=a0) (c1:=a1) (c2:=a2) (c3:=a3) (by simp); have l2:=HM.out.lt (b:=w.heap.size+1) (c0:=0) (c1:=0) (c2:=0) (c3:=0) (by simp); simp at l2; omega
 go_wp2_with fail;refine (Mp f F hf a0 a1 a2 a3 n0 n1 n2 n3 ha hn _).mono ?_
 rintro e w4 ⟨s0,s1,s2,s3,rfl,hs,hv,hbl⟩
 have HVs:=Lib.hid (show aC s0 s1 s2 s3=aC a0 a1 a2 a3^(F.M-2)%F.M by rw[hv,HVn.out]);have HM':=Lib.hid (HM.out.on hbl);clear HM hbl hv x0 x1 x2 x3 xl;have HM:=HM';clear HM';have kr:=HM.out.row (b:=w.heap.size+1) (c0:=0) (c1:=0) (c2:=0) (c3:=0) (by simp);have y0:=kr.c0; have y1:=kr.c1; have y2:=kr.c2; have y3:=kr.c3; have yf:=kr.fr;have yl:=HM.out.lt (b:=w.heap.size+1) (c0:=0) (c1:=0) (c2:=0) (c3:=0) (by simp);clear kr;go_wp2_with fail;refine bodyPost_ret (v:=.tuple #[.agg #[.int .u64 s0,.int .u64 s1,.int .u64 s2,.int .u64 s3],.int .i64 0]) (by simp[results,results143,go_sem, *]) rfl ?_;refine⟨_,_,_,_,rfl,hs,HVs.out,?_⟩;exact bF HM.out.1 (by omega) _ _ _ _
set_option maxHeartbeats 2000000 in
theorem Cz (f:Int) (F:FC) (hf:FieldIs f F) (a0 a1 a2 a3:Nat) (ha:bY a0 a1 a2 a3) (hz:aC a0 a1 a2 a3%F.M=0) (w:World) :
  Calls prog 143 #[.int .i64 f,.agg #[.int .u64 a0,.int .u64 a1,.int .u64 a2,.int .u64 a3]] w (fun e w'=>∃s0 s1 s2 s3:Nat,e=.returned (.tuple #[.agg #[.int .u64 s0,.int .u64 s1,.int .u64 s2,.int .u64 s3],.int .i64 22])∧bY s0 s1 s2 s3∧aC s0 s1 s2 s3=0∧Below w.heap.size w w'):=by
 have hG:=RG;have h2:=hf.ok.gt
 go_enter func143,ntmps143
 go_wp2_with fail;have HM:=Lib.hid (((Mem.nil w).new (w.heap.size) a0 a1 a2 a3 25 (by simp)).new (w.heap.size+1) 0 0 0 0 25 (by simp));refine (dW f F hf a0 a1 a2 a3 ha _).mono ?_
 rintro e w1 ⟨d0,d1,d2,d3,rfl,hd,hv,hbl⟩
 have HM':=Lib.hid (HM.out.on hbl);clear HM hbl;have HM:=HM';clear HM';have EQ:=aJe hd (by rw[hv]; exact hz);clear hv hz;have kr:=HM.out.row (b:=w.heap.size+1) (c0:=0) (c1:=0) (c2:=0) (c3:=0) (by simp);have y0:=kr.c0; have y1:=kr.c1; have y2:=kr.c2; have y3:=kr.c3; have yf:=kr.fr;have yl:=HM.out.lt (b:=w.heap.size+1) (c0:=0) (c1:=0) (c2:=0) (c3:=0) (by simp);clear kr;go_wp2_with fail;refine bodyPost_ret (v:=.tuple #[.agg #[.int .u64 (0:Nat),.int .u64 (0:Nat),.int .u64 (0:Nat),.int .u64 (0:Nat)],.int .i64 22]) (by simp[results,results143,go_sem, *]) rfl ?_;refine⟨_,_,_,_,rfl,zok,rfl,?_⟩;exact bF HM.out.1 (by omega) 0 0 0 0
end Go.Proofs.YtglgakbkdjhojaaGreat
namespace Go.Proofs.YtglgakbkdjhojaaGreat.Ex
open Go.Proofs.Tryz
open Go.RowKit
def gR (op:Fq→Fq→Fq):kC
 | [.v (.im (.int .i64 (.ofNat 1))),.v (.fl l),.v (.fl m)]=>match OG l,OG m with
  | some x,some y=>some ([],.one (.fl (e1 (op x y))))
  | _,_=>none
 | _=>none
def gRI (c:Bool):kC
 | [.v (.im (.int .i64 (.ofNat 1))),.v (.fl l)]=>match OG l with
  | some x=>bif c then some ([x≠F1.zero],.many [.fl (e1 (cF x)),.im (.int .i64 0)])else some ([x=F1.zero],.many [.fl (e1 F1.zero),.im (.int .i64 22)])
  | none=>none
 | _=>none
theorem aIz {f:FuncId} {op:Fq→Fq→Fq} (h:∀(a b:Nat) (w:World),Calls prog f #[.int .i64 1,.agg (aA (q1 a)).toArray,.agg (aA (q1 b)).toArray] w (FwPost (op (m1 a) (m1 b)).1 w)) :
  ∀cs pre r,gR op cs=some (pre,r)→bC pre→∀(args:List Value) (w:World),bZ w cs args→Good prog f r args w:=by
 intro cs pre r hg hp args w ha;unfold gR at hg;split at hg
 ·rename_i l m;split at hg
  ·rename_i x y hx hy;cases hg;obtain⟨a,e1,rfl⟩:=gL l x hx;obtain⟨b,e2,rfl⟩:=gL m y hy
   match args,ha with
   | [v,u,s],ha =>
    have h1:v=.int .i64 1:=ha.1;have h2:u=.agg (aA l).toArray:=ha.2.1;have h3:s=.agg (aA m).toArray:=ha.2.2.1;rw[e1]at h2;rw[e2]at h3;subst h1; subst h2; subst h3;exact (h a b w).mono fun e w' h=>h
   | [],ha=>exact ha.elim
   | [_],ha=>exact ha.2.elim
   | [_,_],ha=>exact ha.2.2.elim
   | _::_::_::_::_,ha=>exact ha.2.2.2.elim
  ·cases hg
 ·cases hg
theorem bBJ (a b:Nat) (w:World):Calls prog 32 #[.int .i64 1,.agg (aA (q1 a)).toArray,.agg (aA (q1 b)).toArray] w (FwPost (F1.add (m1 a) (m1 b)).1 w):=by
 refine (yB 1 FP oT _ _ _ _ _ _ _ _ (cM a) (cM b) w).mono fun e w' h => ?_
 rw[show (F1.add (m1 a) (m1 b)).1=(aC (fw a 0) (fw a 1) (fw a 2) (fw a 3)+aC (fw b 0) (fw b 1) (fw b 2) (fw b 3))%FP.M from (Nat.add_mod _ _ _).symm];exact FwPost.of (Nat.mod_lt _ fV) h
theorem bBG (a b:Nat) (w:World):Calls prog 188 #[.int .i64 1,.agg (aA (q1 a)).toArray,.agg (aA (q1 b)).toArray] w (FwPost (F1.sub (m1 a) (m1 b)).1 w):=by
 refine (Mm 1 FP oT _ _ _ _ _ _ _ _ (cM a) (cM b) w).mono fun e w' h => ?_
 have e:(F1.sub (m1 a) (m1 b)).1=(aC (fw a 0) (fw a 1) (fw a 2) (fw a 3)+(FP.M-aC (fw b 0) (fw b 1) (fw b 2) (fw b 3)%FP.M))%FP.M:=by
  show (wv a%FP.M+(0+FP.M-wv b%FP.M)%FP.M)%FP.M=(wv a+(FP.M-wv b%FP.M))%FP.M;rw[Nat.zero_add,←Nat.add_mod]
 rw[e];exact FwPost.of (Nat.mod_lt _ fV) h
theorem bBH (a b:Nat) (w:World):Calls prog 43 #[.int .i64 1,.agg (aA (q1 a)).toArray,.agg (aA (q1 b)).toArray] w (FwPost (F1.mul (m1 a) (m1 b)).1 w):=by
 refine (sL 1 FP oT _ _ _ _ _ _ _ _ (cM a) (cM b) w).mono fun e w' h => ?_
 rw[show (F1.mul (m1 a) (m1 b)).1=(aC (fw a 0) (fw a 1) (fw a 2) (fw a 3)*aC (fw b 0) (fw b 1) (fw b 2) (fw b 3))%FP.M from (Nat.mul_mod _ _ _).symm];exact FwPost.of (Nat.mod_lt _ fV) h
theorem bBI (c:Bool):∀cs pre r,gRI c cs=some (pre,r)→bC pre→∀(args:List Value) (w:World),bZ w cs args→Good prog 143 r args w:=by
 intro cs pre r hg hp args w ha;unfold gRI at hg;split at hg
 ·rename_i l;split at hg
  ·rename_i x hx;obtain⟨a,e1,rfl⟩:=gL l x hx
   match args,ha with
   | [v,u],ha =>
    have h1:v=.int .i64 1:=ha.1;have h2:u=.agg (aA l).toArray:=ha.2.1;rw[e1]at h2;subst h1; subst h2;cases c
    ·cases hg;have hz:m1 a=F1.zero:=hp.1;have hz':aC (fw a 0) (fw a 1) (fw a 2) (fw a 3)%FP.M=0:=congrArg Fin.val hz;refine (Cz 1 FP oT _ _ _ _ (cM a) hz' w).mono ?_
     rintro e w' ⟨s0,s1,s2,s3,rfl,hs,hv,hb⟩
     obtain⟨rfl,rfl,rfl,rfl⟩:=oR hs (xN fV) hv;exact⟨rfl,hb⟩
    ·cases hg;have hz:m1 a≠F1.zero:=hp.1;have hz':aC (fw a 0) (fw a 1) (fw a 2) (fw a 3)%FP.M≠0:=fun e=>hz (Fin.ext e)
     refine (Cy 1 FP oT _ _ _ _ (cM a) hz' w).mono ?_
     rintro e w' ⟨s0,s1,s2,s3,rfl,hs,hv,hb⟩
     have hf:(cF (m1 a)).1=aC (fw a 0) (fw a 1) (fw a 2) (fw a 3)^(FP.M-2)%FP.M:=by
      rw[MB,Nat.one_mul];exact (Nat.pow_mod _ _ _).symm
     rw[←hf]at hv;obtain⟨rfl,rfl,rfl,rfl⟩:=oR hs (xN (cF (m1 a)).2) hv;exact⟨rfl,hb⟩
   | [],ha=>exact ha.elim
   | [_],ha=>exact ha.2.elim
   | _::_::_::_,ha=>exact ha.2.2.elim
  ·cases hg
 ·cases hg
def Yh (c:Bool):Tab:=(NQ c).add 32 (gR F1.add)
theorem aGI (c:Bool):TabOk prog (Yh c):=(aGW c).ad func32 (aIz bBJ)
def Yf (c:Bool):Tab:=(Yh c).add 188 (gR F1.sub)
theorem aGG (c:Bool):TabOk prog (Yf c):=(aGI c).ad func188 (aIz bBG)
def Yg (c:Bool):Tab:=(Yf c).add 43 (gR F1.mul)
theorem aGH (c:Bool):TabOk prog (Yg c):=(aGG c).ad func43 (aIz bBH)
def XZ (c:Bool):Tab:=(Yg c).add 143 (gRI c)
theorem Fe (c:Bool):TabOk prog (XZ c):=(aGH c).ad func143 (bBI c)
theorem aEK (c:Bool) (x:Nat) (y:Nat):bM prog (XZ c) qN (fun _=>true) f146 40 [.v (.fl (q1 x)),.v (.fl (q1 y))]=some ([],.one (.fl (e1 (F1.add (m1 x) (m1 y))))):=by kernel_rfl
def Qo (c:Bool):Tab:=(XZ c).add 146 (g2 OG OG (fun x y=>([],.one (.fl (e1 (F1.add x y))))))
theorem Ui (c:Bool):TabOk prog (Qo c):=(Fe c).ad func146 (gF gL gL fun x y hp args w ha=>aH aE (Fe c) aM func146 (aEK c x y) hp ha)
theorem aEG (c:Bool) (x:Nat) (y:Nat):bM prog (Qo c) qN (fun _=>true) f144 40 [.v (.fl (q1 x)),.v (.fl (q1 y))]=some ([],.one (.fl (e1 (F1.sub (m1 x) (m1 y))))):=by kernel_rfl
def Qk (c:Bool):Tab:=(Qo c).add 144 (g2 OG OG (fun x y=>([],.one (.fl (e1 (F1.sub x y))))))
theorem Uc (c:Bool):TabOk prog (Qk c):=(Ui c).ad func144 (gF gL gL fun x y hp args w ha=>aH aE (Ui c) aM func144 (aEG c x y) hp ha)
theorem aEH (c:Bool) (x:Nat) (y:Nat):bM prog (Qk c) qN (fun _=>true) f145 40 [.v (.fl (q1 x)),.v (.fl (q1 y))]=some ([],.one (.fl (e1 (F1.mul (m1 x) (m1 y))))):=by kernel_rfl
def Qn (c:Bool):Tab:=(Qk c).add 145 (g2 OG OG (fun x y=>([],.one (.fl (e1 (F1.mul x y))))))
theorem Uh (c:Bool):TabOk prog (Qn c):=(Uc c).ad func145 (gF gL gL fun x y hp args w ha=>aH aE (Uc c) aM func145 (aEH c x y) hp ha)
theorem aAK (c:Bool) (x:N2) (y:N2):bM prog (Qn c) qN (fun _=>true) f89 40 [.v (.fl (q2 x)),.v (.fl (q2 y))]=some ([],.one (.fl (e2 (F2.add (m2 x) (m2 y))))):=by kernel_rfl
def XY (c:Bool):Tab:=(Qn c).add 89 (g2 zL zL (fun x y=>([],.one (.fl (e2 (F2.add x y))))))
theorem Fd (c:Bool):TabOk prog (XY c):=(Uh c).ad func89 (gF dU dU fun x y hp args w ha=>aH aE (Uh c) aM func89 (aAK c x y) hp ha)
theorem aAE (c:Bool) (x:N2) (y:N2):bM prog (XY c) qN (fun _=>true) f147 40 [.v (.fl (q2 x)),.v (.fl (q2 y))]=some ([],.one (.fl (e2 (F2.sub (m2 x) (m2 y))))):=by kernel_rfl
def XS (c:Bool):Tab:=(XY c).add 147 (g2 zL zL (fun x y=>([],.one (.fl (e2 (F2.sub x y))))))
theorem Ew (c:Bool):TabOk prog (XS c):=(Fd c).ad func147 (gF dU dU fun x y hp args w ha=>aH aE (Fd c) aM func147 (aAE c x y) hp ha)
theorem aAG (c:Bool) (x:N2) (y:N2):bM prog (XS c) qN (fun _=>true) f88 40 [.v (.fl (q2 x)),.v (.fl (q2 y))]=some ([],.one (.fl (e2 ((F1.sub (F1.mul (m2 x).1 (m2 y).1) (F1.mul (m2 x).2 (m2 y).2),F1.add (F1.mul (m2 x).1 (m2 y).2) (F1.mul (m2 x).2 (m2 y).1)))))):=by kernel_rfl
theorem aBH (x:Q2) (y:Q2):F2.mul x y=(F1.sub (F1.mul x.1 y.1) (F1.mul x.2 y.2),F1.add (F1.mul x.1 y.2) (F1.mul x.2 y.1)):=by
 refine Prod.ext ?_ rfl;show F1.add (F1.mul x.1 y.1) (F1.mul (F1.neg F1.one) (F1.mul x.2 y.2))=F1.add (F1.mul x.1 y.1) (F1.neg (F1.mul x.2 y.2));rw[F1.neg_mul,F1.one_mul]
def XU (c:Bool):Tab:=(XS c).add 88 (g2 zL zL (fun x y=>([],.one (.fl (e2 (F2.mul x y))))))
theorem Ez (c:Bool):TabOk prog (XU c):=(Ew c).ad func88 (gF dU dU fun x y hp args w ha=>by show Good _ _ (.one (.fl (e2 (F2.mul (m2 x) (m2 y))))) _ _; rw[aBH]; exact aH aE (Ew c) aM func88 (aAG c x y) hp ha)
theorem Ky (c:Bool) (x:N2):bM prog (XU c) qN (fun _=>true) f148 40 [.v (.fl (q2 x))]=some ([],.one (.fl (e2 (F2.sub ((m2 x).1,F1.zero) (F1.zero,(m2 x).2))))):=by kernel_rfl
def NG (c:Bool):Tab:=(XU c).add 148 (g1 zL (fun x=>([],.one (.fl (e2 (F2.sub (x.1,F1.zero) (F1.zero,x.2)))))))
theorem QB (c:Bool):TabOk prog (NG c):=(Ez c).ad func148 (gZ dU fun x hp args w ha=>aH aE (Ez c) aM func148 (Ky c x) hp ha)
theorem aMk (c:Bool):bM prog (NG c) qN (fun _=>true) f229 40 []=some ([],.one (.fl (e2 dJ))):=by kernel_rfl
def aKF (c:Bool):Tab:=(NG c).add 229 (g0 (.one (.fl (e2 dJ))))
theorem aGF (c:Bool):TabOk prog (aKF c):=(QB c).ad func229 (gT fun w=>aH aE (QB c) aM func229 (aMk c) trivial (args:=[]) trivial)
theorem aEL (c:Bool) (x:N2):bM prog (aKF c) qN (fun _=>true) f190 40 [.v (.fl (q2 x))]=some ([],.one (.fl (e2 (F2.mul (m2 x) dJ)))):=by kernel_rfl
def XR (c:Bool):Tab:=(aKF c).add 190 (g1 zL (fun x=>([],.one (.fl (e2 (F2.mul x dJ))))))
theorem UN (c:Bool):TabOk prog (XR c):=(aGF c).ad func190 (gZ dU fun x hp args w ha=>aH aE (aGF c) aM func190 (aEL c x) hp ha)
def Cx (x:Q2):Q2:=F2.mul (F2.sub (x.1,F1.zero) (F1.zero,x.2)) (cF (qC x),F1.zero)
theorem aMH (x:Q2):Cx x=eD x:=by
 have h:∀k:Fq,F2.mul (F2.sub (x.1,F1.zero) (F1.zero,x.2)) (k,F1.zero)=qY (aL x) k:=fun k=>by
  refine Prod.ext ?_ ?_
  ·exact aG F1 (aV F1 [x.1,x.2,k]) ((Z0-RE.zero)*Z2+(-RE.one)*((RE.zero-Z1)*RE.zero)) (Z0*Z2) (by decide)
  ·exact aG F1 (aV F1 [x.1,x.2,k]) ((Z0-RE.zero)*RE.zero+(RE.zero-Z1)*Z2) ((-Z1)*Z2) (by decide)
 exact h _
def oR2 (c:Bool) (x:Q2):List Prop×RV:=bif c then ([qC x≠F1.zero],.many [.fl (e2 (Cx x)),.im (.int .i64 0)])else ([qC x=F1.zero],.many [.fl (e2 F2.zero),.im (.int .i64 22)])
theorem JM (x:N2):bM prog (XR true) qN (fun _=>true) f93 40 [.v (.fl (q2 x))]=some ([qC (m2 x)≠F1.zero],.many [.fl (e2 (Cx (m2 x))),.im (.int .i64 0)]):=by kernel_rfl
theorem FM (x:N2):bM prog (XR false) qN (fun _=>true) f93 40 [.v (.fl (q2 x))]=some ([qC (m2 x)=F1.zero],.many [.fl (e2 F2.zero),.im (.int .i64 22)]):=by kernel_rfl
theorem aWs (c:Bool) (x:N2) (hp:bC (oR2 c (m2 x)).1) (args:List Value) (w:World) (ha:bZ w [.v (.fl (q2 x))] args):Good prog 93 (oR2 c (m2 x)).2 args w:=by
 cases c
 ·exact aH aE (UN false) aM func93 (FM x) hp ha
 ·exact aH aE (UN true) aM func93 (JM x) hp ha
def IJ (c:Bool):Tab:=(XR c).add 93 (g1 zL (oR2 c))
theorem KV (c:Bool):TabOk prog (IJ c):=(UN c).ad func93 (gZ dU (aWs c))
theorem aAJ (c:Bool) (x:N6) (y:N6):bM prog (IJ c) qN (fun _=>true) f149 40 [.v (.fl (q6 x)),.v (.fl (q6 y))]=some ([],.one (.fl (e6 (F6.add (m6 x) (m6 y))))):=by kernel_rfl
def XX (c:Bool):Tab:=(IJ c).add 149 (g2 rv6 rv6 (fun x y=>([],.one (.fl (e6 (F6.add x y))))))
theorem Fc (c:Bool):TabOk prog (XX c):=(KV c).ad func149 (gF JJ JJ fun x y hp args w ha=>aH aE (KV c) aM func149 (aAJ c x y) hp ha)
theorem aAF (c:Bool) (x:N6) (y:N6):bM prog (XX c) qN (fun _=>true) f150 40 [.v (.fl (q6 x)),.v (.fl (q6 y))]=some ([],.one (.fl (e6 ((F2.add (F2.mul (m6 x).1 (m6 y).1) (F2.mul (F2.add (F2.mul (m6 x).2.1 (m6 y).2.2) (F2.mul (m6 x).2.2 (m6 y).2.1)) dJ),F2.add (F2.add (F2.mul (m6 x).1 (m6 y).2.1) (F2.mul (m6 x).2.1 (m6 y).1)) (F2.mul (F2.mul (m6 x).2.2 (m6 y).2.2) dJ),F2.add (F2.add (F2.mul (m6 x).1 (m6 y).2.2) (F2.mul (m6 x).2.1 (m6 y).2.1)) (F2.mul (m6 x).2.2 (m6 y).1)))))):=by kernel_rfl
theorem aBG (x:Q6) (y:Q6):F6.mul x y=(F2.add (F2.mul x.1 y.1) (F2.mul (F2.add (F2.mul x.2.1 y.2.2) (F2.mul x.2.2 y.2.1)) dJ),F2.add (F2.add (F2.mul x.1 y.2.1) (F2.mul x.2.1 y.1)) (F2.mul (F2.mul x.2.2 y.2.2) dJ),F2.add (F2.add (F2.mul x.1 y.2.2) (F2.mul x.2.1 y.2.1)) (F2.mul x.2.2 y.1)):=by
 rw[F2.mul_comm _ dJ,F2.mul_comm _ dJ];rfl
def XT (c:Bool):Tab:=(XX c).add 150 (g2 rv6 rv6 (fun x y=>([],.one (.fl (e6 (F6.mul x y))))))
theorem Ey (c:Bool):TabOk prog (XT c):=(Fc c).ad func150 (gF JJ JJ fun x y hp args w ha=>by show Good _ _ (.one (.fl (e6 (F6.mul (m6 x) (m6 y))))) _ _; rw[aBG]; exact aH aE (Fc c) aM func150 (aAF c x y) hp ha)
theorem aMl (c:Bool) (x:N6):bM prog (XT c) qN (fun _=>true) f151 40 [.v (.fl (q6 x))]=some ([],.one (.fl (e6 ((F2.mul (m6 x).2.2 dJ,F2.sub (m6 x).1 F2.zero,F2.sub (m6 x).2.1 F2.zero))))):=by kernel_rfl
theorem aMZ (x:Q6):F6.mul vE x=(F2.mul x.2.2 dJ,F2.sub x.1 F2.zero,F2.sub x.2.1 F2.zero):=by
 rw[zW];show (_,x.1,x.2.1)=(_,F2.add x.1 (F2.neg F2.zero),F2.add x.2.1 (F2.neg F2.zero));rw[bU,F2.add_zero,F2.add_zero]
def aSD (c:Bool):Tab:=(XT c).add 151 (g1 rv6 (fun x=>([],.one (.fl (e6 (F6.mul vE x))))))
theorem aWl (c:Bool):TabOk prog (aSD c):=(Ey c).ad func151 (gZ JJ fun x hp args w ha=>by show Good _ _ (.one (.fl (e6 (F6.mul vE (m6 x))))) _ _; rw[aMZ]; exact aH aE (Ey c) aM func151 (aMl c x) hp ha)
open Classical
section
variable {R:Type} (K:CR R) (inv:R→R)
abbrev Jc (R:Type):=R×R×R
def fQ (p:Jc R):Pt R:=if p.2.2=K.zero then none else some (K.mul p.1 (K.mul (inv p.2.2) (inv p.2.2)),K.mul p.2.1 (K.mul (K.mul (inv p.2.2) (inv p.2.2)) (inv p.2.2)))
def dSl (p:Jc R):R:=K.add (K.add (K.mul p.1 p.1) (K.mul p.1 p.1)) (K.mul p.1 p.1)
def dTw (p:Jc R):R:=K.add (K.mul p.2.1 p.2.1) (K.mul p.2.1 p.2.1)
def dFo (p:Jc R):R:=K.add (dTw K p) (dTw K p)
def dBa (p:Jc R):R:=K.mul p.1 (dFo K p)
def dX (p:Jc R):R:=K.sub (K.mul (dSl K p) (dSl K p)) (K.add (dBa K p) (dBa K p))
def dY (p:Jc R):R:=K.sub (K.mul (dSl K p) (K.sub (dBa K p) (dX K p))) (K.mul (dFo K p) (dTw K p))
def bX (p:Jc R):Jc R:=(dX K p,dY K p,K.mul (K.add p.2.1 p.2.1) p.2.2)
def GW (p q:Jc R):R:=K.mul p.1 (K.mul q.2.2 q.2.2)
def EU (p q:Jc R):R:=K.mul p.2.1 (K.mul (K.mul q.2.2 q.2.2) q.2.2)
def tR (p q:Jc R):R:=K.sub (GW K q p) (GW K p q)
def LQ (p q:Jc R):R:=K.sub (EU K q p) (EU K p q)
def sX (px a up:R):R:=K.sub (K.sub (K.mul up up) (K.mul (K.mul a a) a)) (K.add (K.mul px (K.mul a a)) (K.mul px (K.mul a a)))
def sY (px py a up:R):R:=K.sub (K.mul up (K.sub (K.mul px (K.mul a a)) (sX K px a up))) (K.mul py (K.mul (K.mul a a) a))
def DE (p q:Jc R):Jc R:=(sX K (GW K p q) (tR K p q) (LQ K p q),sY K (GW K p q) (EU K p q) (tR K p q) (LQ K p q),K.mul (K.mul p.2.2 q.2.2) (tR K p q))
def fI (p q:Jc R):Jc R :=
 if p.2.2=K.zero then q else if q.2.2=K.zero then p else if tR K p q=K.zero∧LQ K p q=K.zero then bX K p else DE K p q
def rplus (p q:Jc R):Jc R :=
 if p.2.2=K.zero then q else if q.2.2=K.zero then p else if tR K p q=K.zero∧LQ K p q=K.zero then bX K p else if tR K p q=K.zero then (K.one,K.one,K.zero)else DE K p q
variable {K} {inv} {b:R}
theorem dB {p:Jc R} (h:p.2.2=K.zero):fQ K inv p=none:=if_pos h
theorem dR {p:Jc R} (h:p.2.2≠K.zero):fQ K inv p=some (K.mul p.1 (K.mul (inv p.2.2) (inv p.2.2)),K.mul p.2.1 (K.mul (K.mul (inv p.2.2) (inv p.2.2)) (inv p.2.2))):=if_neg h
theorem BV (E:EC K inv b) {x y l:R} (hy:K.add y y≠K.zero) (h:K.mul l (K.add y y)=K.add (K.add (K.mul x x) (K.mul x x)) (K.mul x x)):eE K inv x y x y=l:=by
 unfold eE;rw[if_pos rfl];refine E.F.cancel hy ?_;have hi:=E.F.inv _ hy;generalize inv (K.add y y)=k at hi;exact lL (K:=K) (c1:=(K.add (K.add (K.mul x x) (K.mul x x)) (K.mul x x))) (c2:=(K.neg K.one)) hi h (aG K (aV K [y,x,k,l]) ((Z0+Z0)*((Z1*Z1+Z1*Z1+Z1*Z1)*Z2)-(Z0+Z0)*Z3) ((Z1*Z1+Z1*Z1+Z1*Z1)*((Z0+Z0)*Z2-RE.one)+(-RE.one)*(Z3*(Z0+Z0)-(Z1*Z1+Z1*Z1+Z1*Z1))) (by kernel_rfl))
theorem uK (E:EC K inv b) {x1 y1 x2 y2 l:R} (hx:x1≠x2) (h:K.mul l (K.sub x2 x1)=K.sub y2 y1):eE K inv x1 y1 x2 y2=l:=by
 unfold eE;rw[if_neg hx];have hd:K.sub x2 x1≠K.zero:=SU fun e=>hx e.symm
 have hi:=E.F.inv _ hd;refine E.F.cancel hd ?_;generalize inv (K.sub x2 x1)=k at hi;exact lL (K:=K) (c1:=(K.sub y2 y1)) (c2:=(K.neg K.one)) hi h (aG K (aV K [x2,x1,y2,y1,k,l]) ((Z0-Z1)*((Z2-Z3)*Z4)-(Z0-Z1)*Z5) ((Z2-Z3)*((Z0-Z1)*Z4-RE.one)+(-RE.one)*(Z5*(Z0-Z1)-(Z2-Z3))) (by kernel_rfl))
theorem VJ (E:EC K inv b) {p:Jc R} (hp:On K b (fQ K inv p)):fQ K inv (bX K p)=jI K inv (fQ K inv p) (fQ K inv p):=by
 obtain⟨x,y,z⟩:=p
 by_cases hz:z=K.zero
 ·have h1:fQ K inv (x,y,z)=none:=dB hz;rw[h1];refine dB ?_;show K.mul (K.add y y) z=K.zero;rw[hz,K.mul_zero]
 ·have h1:=dR (K:=K) (inv:=inv) (p:=(x,y,z)) hz;rw[h1]at hp ⊢;dsimp only at hp ⊢;have hi:=E.F.inv z hz;generalize inv z=i at hi hp ⊢;have hY:=E.y_ne (show K.mul (K.mul y (K.mul (K.mul i i) i)) (K.mul y (K.mul (K.mul i i) i))=_ from hp);have hy:y≠K.zero:=fun e=>hY (by rw[e,K.zero_mul])
  have hyy:=E.dbl_ne hy;have hz3:K.mul (K.add y y) z≠K.zero:=E.F.mul_ne hyy hz;have h3:=dR (K:=K) (inv:=inv) (p:=bX K (x,y,z)) hz3;rw[h3];show some (K.mul (dX K (x,y,z)) (K.mul (inv (K.mul (K.add y y) z)) (inv (K.mul (K.add y y) z))),K.mul (dY K (x,y,z)) (K.mul (K.mul (inv (K.mul (K.add y y) z)) (inv (K.mul (K.add y y) z))) (inv (K.mul (K.add y y) z))))=_;have hj:=E.F.inv _ hz3;generalize inv (K.mul (K.add y y) z)=j at hj ⊢;have e:i=K.mul (K.add y y) j:=lL (K:=K) (c1:=(K.neg i)) (c2:=(K.mul (K.add y y) j)) hj hi (aG K (aV K [i,y,j,z]) (Z0-(Z1+Z1)*Z2) ((-Z0)*((Z1+Z1)*Z3*Z2-RE.one)+(Z1+Z1)*Z2*(Z3*Z0-RE.one)) (by kernel_rfl));subst e;have hYY:=E.dbl_ne hY;rw[kQ (fun h=>hYY h.2)];dsimp only;have hs:=BV (l:=(K.mul (K.add (K.add (K.mul x x) (K.mul x x)) (K.mul x x)) j)) (x:=(K.mul x (K.mul (K.mul (K.add y y) j) (K.mul (K.add y y) j)))) E hYY (aG K (aV K [x,j,y]) ((Z0*Z0+Z0*Z0+Z0*Z0)*Z1*(Z2*((Z2+Z2)*Z1*((Z2+Z2)*Z1)*((Z2+Z2)*Z1))+Z2*((Z2+Z2)*Z1*((Z2+Z2)*Z1)*((Z2+Z2)*Z1)))) (Z0*((Z2+Z2)*Z1*((Z2+Z2)*Z1))*(Z0*((Z2+Z2)*Z1*((Z2+Z2)*Z1)))+Z0*((Z2+Z2)*Z1*((Z2+Z2)*Z1))*(Z0*((Z2+Z2)*Z1*((Z2+Z2)*Z1)))+Z0*((Z2+Z2)*Z1*((Z2+Z2)*Z1))*(Z0*((Z2+Z2)*Z1*((Z2+Z2)*Z1)))) (by kernel_rfl));rw[hs];refine congrArg some (Prod.ext ?_ ?_)
  ·exact aG K (aV K [x,y,j]) (((Z0*Z0+Z0*Z0+Z0*Z0)*(Z0*Z0+Z0*Z0+Z0*Z0)-(Z0*(Z1*Z1+Z1*Z1+(Z1*Z1+Z1*Z1))+Z0*(Z1*Z1+Z1*Z1+(Z1*Z1+Z1*Z1))))*(Z2*Z2)) ((Z0*Z0+Z0*Z0+Z0*Z0)*Z2*((Z0*Z0+Z0*Z0+Z0*Z0)*Z2)-Z0*((Z1+Z1)*Z2*((Z1+Z1)*Z2))-Z0*((Z1+Z1)*Z2*((Z1+Z1)*Z2))) (by kernel_rfl)
  ·exact aG K (aV K [x,y,j]) (((Z0*Z0+Z0*Z0+Z0*Z0)*(Z0*(Z1*Z1+Z1*Z1+(Z1*Z1+Z1*Z1))-((Z0*Z0+Z0*Z0+Z0*Z0)*(Z0*Z0+Z0*Z0+Z0*Z0)-(Z0*(Z1*Z1+Z1*Z1+(Z1*Z1+Z1*Z1))+Z0*(Z1*Z1+Z1*Z1+(Z1*Z1+Z1*Z1)))))-(Z1*Z1+Z1*Z1+(Z1*Z1+Z1*Z1))*(Z1*Z1+Z1*Z1))*(Z2*Z2*Z2)) ((Z0*Z0+Z0*Z0+Z0*Z0)*Z2*(Z0*((Z1+Z1)*Z2*((Z1+Z1)*Z2))-((Z0*Z0+Z0*Z0+Z0*Z0)*Z2*((Z0*Z0+Z0*Z0+Z0*Z0)*Z2)-Z0*((Z1+Z1)*Z2*((Z1+Z1)*Z2))-Z0*((Z1+Z1)*Z2*((Z1+Z1)*Z2))))-Z1*((Z1+Z1)*Z2*((Z1+Z1)*Z2)*((Z1+Z1)*Z2))) (by kernel_rfl)
theorem LR (E:EC K inv b) {p q:Jc R} (hp:p.2.2≠K.zero) (hq:q.2.2≠K.zero):∃w,K.mul (K.mul p.2.2 q.2.2) w=K.one∧fQ K inv p=some (K.mul (GW K p q) (K.mul w w),K.mul (EU K p q) (K.mul (K.mul w w) w))∧fQ K inv q=some (K.mul (GW K q p) (K.mul w w),K.mul (EU K q p) (K.mul (K.mul w w) w)):=by
 obtain⟨x1,y1,z1⟩:=p;obtain⟨x2,y2,z2⟩:=q;have h1:=E.F.inv z1 hp;have h2:=E.F.inv z2 hq;rw[dR hp,dR hq];dsimp only at *;generalize inv z1=i at h1 ⊢;generalize inv z2=j at h2 ⊢;refine⟨K.mul i j,?_,congrArg some (Prod.ext ?_ ?_),congrArg some (Prod.ext ?_ ?_)⟩
 ·exact lL (K:=K) (c1:=(K.mul z2 j)) (c2:=K.one) h1 h2 (aG K (aV K [z1,z2,i,j]) (Z0*Z1*(Z2*Z3)-RE.one) (Z1*Z3*(Z0*Z2-RE.one)+RE.one*(Z1*Z3-RE.one)) (by kernel_rfl))
 ·exact iV (K:=K) (c1:=(K.mul (K.neg (K.mul x1 (K.mul i i))) (K.add (K.mul z2 j) K.one))) h2 (aG K (aV K [x1,i,z2,j]) (Z0*(Z1*Z1)-Z0*(Z2*Z2)*(Z1*Z3*(Z1*Z3))) ((-(Z0*(Z1*Z1)))*(Z2*Z3+RE.one)*(Z2*Z3-RE.one)) (by kernel_rfl))
 ·exact iV (K:=K) (c1:=(K.mul (K.neg (K.mul y1 (K.mul (K.mul i i) i))) (K.add (K.add (K.mul (K.mul z2 j) (K.mul z2 j)) (K.mul z2 j)) K.one))) h2 (aG K (aV K [y1,i,z2,j]) (Z0*(Z1*Z1*Z1)-Z0*(Z2*Z2*Z2)*(Z1*Z3*(Z1*Z3)*(Z1*Z3))) ((-(Z0*(Z1*Z1*Z1)))*(Z2*Z3*(Z2*Z3)+Z2*Z3+RE.one)*(Z2*Z3-RE.one)) (by kernel_rfl))
 ·exact iV (K:=K) (c1:=(K.mul (K.neg (K.mul x2 (K.mul j j))) (K.add (K.mul z1 i) K.one))) h1 (aG K (aV K [x2,j,z1,i]) (Z0*(Z1*Z1)-Z0*(Z2*Z2)*(Z3*Z1*(Z3*Z1))) ((-(Z0*(Z1*Z1)))*(Z2*Z3+RE.one)*(Z2*Z3-RE.one)) (by kernel_rfl))
 ·exact iV (K:=K) (c1:=(K.mul (K.neg (K.mul y2 (K.mul (K.mul j j) j))) (K.add (K.add (K.mul (K.mul z1 i) (K.mul z1 i)) (K.mul z1 i)) K.one))) h1 (aG K (aV K [y2,j,z1,i]) (Z0*(Z1*Z1*Z1)-Z0*(Z2*Z2*Z2)*(Z3*Z1*(Z3*Z1)*(Z3*Z1))) ((-(Z0*(Z1*Z1*Z1)))*(Z2*Z3*(Z2*Z3)+Z2*Z3+RE.one)*(Z2*Z3-RE.one)) (by kernel_rfl))
theorem aJO (E:EC K inv b) {px py qx qy w zz j:R} (hw:K.mul zz w=K.one) (ha:K.sub qx px≠K.zero) (hj:K.mul (K.mul zz (K.sub qx px)) j=K.one) :
  jI K inv (some (K.mul px (K.mul w w),K.mul py (K.mul (K.mul w w) w))) (some (K.mul qx (K.mul w w),K.mul qy (K.mul (K.mul w w) w)))=some (K.mul (sX K px (K.sub qx px) (K.sub qy py)) (K.mul j j),K.mul (sY K px py (K.sub qx px) (K.sub qy py)) (K.mul (K.mul j j) j)):=by
 have hw0:w≠K.zero:=fun e=>E.F.ne (by rw[←hw,e,K.mul_zero])
 have e:w=K.mul (K.sub qx px) j:=lL (K:=K) (c1:=(K.neg w)) (c2:=(K.mul (K.sub qx px) j)) hj hw (aG K (aV K [w,qx,px,j,zz]) (Z0-(Z1-Z2)*Z3) ((-Z0)*(Z4*(Z1-Z2)*Z3-RE.one)+(Z1-Z2)*Z3*(Z4*Z0-RE.one)) (by kernel_rfl));have hx:K.mul px (K.mul w w)≠K.mul qx (K.mul w w):=fun h=>by
  refine E.F.mul_ne ha (E.F.mul_ne hw0 hw0) ?_;have:K.mul (K.sub qx px) (K.mul w w)=K.sub (K.mul qx (K.mul w w)) (K.mul px (K.mul w w)):=aG K (aV K [qx,px,w]) ((Z0-Z1)*(Z2*Z2)) (Z0*(Z2*Z2)-Z1*(Z2*Z2)) (by kernel_rfl);rw[this,h];exact K.add_neg _
 rw[kQ (fun h=>hx h.1)];dsimp only;have hs:=uK (l:=(K.mul (K.sub qy py) j)) (y1:=K.mul py (K.mul (K.mul w w) w)) (y2:=K.mul qy (K.mul (K.mul w w) w)) E hx (by
  subst e;exact aG K (aV K [qy,py,j,qx,px]) ((Z0-Z1)*Z2*(Z3*((Z3-Z4)*Z2*((Z3-Z4)*Z2))-Z4*((Z3-Z4)*Z2*((Z3-Z4)*Z2)))) (Z0*((Z3-Z4)*Z2*((Z3-Z4)*Z2)*((Z3-Z4)*Z2))-Z1*((Z3-Z4)*Z2*((Z3-Z4)*Z2)*((Z3-Z4)*Z2))) (by kernel_rfl))
 rw[hs];subst e;refine congrArg some (Prod.ext ?_ ?_)
 ·exact aG K (aV K [qy,py,j,px,qx]) ((Z0-Z1)*Z2*((Z0-Z1)*Z2)-Z3*((Z4-Z3)*Z2*((Z4-Z3)*Z2))-Z4*((Z4-Z3)*Z2*((Z4-Z3)*Z2))) (((Z0-Z1)*(Z0-Z1)-(Z4-Z3)*(Z4-Z3)*(Z4-Z3)-(Z3*((Z4-Z3)*(Z4-Z3))+Z3*((Z4-Z3)*(Z4-Z3))))*(Z2*Z2)) (by kernel_rfl)
 ·exact aG K (aV K [qy,py,j,px,qx]) ((Z0-Z1)*Z2*(Z3*((Z4-Z3)*Z2*((Z4-Z3)*Z2))-((Z0-Z1)*Z2*((Z0-Z1)*Z2)-Z3*((Z4-Z3)*Z2*((Z4-Z3)*Z2))-Z4*((Z4-Z3)*Z2*((Z4-Z3)*Z2))))-Z1*((Z4-Z3)*Z2*((Z4-Z3)*Z2)*((Z4-Z3)*Z2))) (((Z0-Z1)*(Z3*((Z4-Z3)*(Z4-Z3))-((Z0-Z1)*(Z0-Z1)-(Z4-Z3)*(Z4-Z3)*(Z4-Z3)-(Z3*((Z4-Z3)*(Z4-Z3))+Z3*((Z4-Z3)*(Z4-Z3)))))-Z1*((Z4-Z3)*(Z4-Z3)*(Z4-Z3)))*(Z2*Z2*Z2)) (by kernel_rfl)
theorem JI (E:EC K inv b) {y1 y2:R} (h:K.mul y1 y1=K.mul y2 y2) (hn:y1≠y2):K.add y1 y2=K.zero:=by
 refine E.F.zd (a:=K.sub y1 y2) ?_ (SU hn);have:K.mul (K.sub y1 y2) (K.add y1 y2)=K.sub (K.mul y1 y1) (K.mul y2 y2):=aG K (aV K [y1,y2]) ((Z0-Z1)*(Z0+Z1)) (Z0*Z0-Z1*Z1) (by kernel_rfl);rw[this,h];exact K.add_neg _
theorem Vx (E:EC K inv b) {p q:Jc R} (hp:On K b (fQ K inv p)) (hq:On K b (fQ K inv q)) (h1:p.2.2≠K.zero) (h2:q.2.2≠K.zero) (hn:¬(tR K p q=K.zero∧LQ K p q=K.zero)) :
  fQ K inv (DE K p q)=jI K inv (fQ K inv p) (fQ K inv q):=by
 obtain⟨w,hw,e1,e2⟩:=LR (K:=K) (inv:=inv) E h1 h2;rw[e1]at hp;rw[e2]at hq;rw[e1,e2]
 by_cases ha:tR K p q=K.zero
 ·have hx:GW K q p=GW K p q:=jV ha;have hu:LQ K p q≠K.zero:=fun e=>hn ⟨ha,e⟩
  have hw0:w≠K.zero:=fun e=>E.F.ne (by rw[←hw,e,K.mul_zero])
  have hy:K.mul (EU K p q) (K.mul (K.mul w w) w)≠K.mul (EU K q p) (K.mul (K.mul w w) w):=fun h=>by
   refine E.F.mul_ne hu (E.F.mul_ne (E.F.mul_ne hw0 hw0) hw0) ?_;show K.mul (K.sub (EU K q p) (EU K p q)) _=_;have e0:∀s t c:R,K.mul (K.sub s t) c=K.sub (K.mul s c) (K.mul t c):=fun s t c=>aG K (aV K [s,t,c]) ((Z0-Z1)*Z2) (Z0*Z2-Z1*Z2) (by kernel_rfl)
   rw[e0,h];exact K.add_neg _
  rw[hx]at hq ⊢;have ho:=JI (y1:=K.mul (EU K p q) (K.mul (K.mul w w) w)) (y2:=K.mul (EU K q p) (K.mul (K.mul w w) w)) E ((show K.mul _ _=_ from hp).trans (show K.mul _ _=_ from hq).symm) hy;rw[mD (p:=(K.mul (GW K p q) (K.mul w w),K.mul (EU K p q) (K.mul (K.mul w w) w))) (q:=(K.mul (GW K p q) (K.mul w w),K.mul (EU K q p) (K.mul (K.mul w w) w))) ⟨rfl,ho⟩];refine dB ?_;show K.mul (K.mul p.2.2 q.2.2) (tR K p q)=K.zero;rw[ha,K.mul_zero]
 ·have hz:K.mul (K.mul p.2.2 q.2.2) (tR K p q)≠K.zero:=E.F.mul_ne (E.F.mul_ne h1 h2) ha;have hj:=E.F.inv _ hz;refine (dR (p:=DE K p q) hz).trans ?_;exact (aJO E hw ha hj).symm
theorem Gd (E:EC K inv b) {p q:Jc R} (hp:On K b (fQ K inv p)) (hq:On K b (fQ K inv q)):fQ K inv (fI K p q)=jI K inv (fQ K inv p) (fQ K inv q):=by
 unfold fI
 by_cases h1:p.2.2=K.zero
 ·rw[if_pos h1,dB h1]; rfl
 ·rw[if_neg h1]
  by_cases h2:q.2.2=K.zero
  ·rw[if_pos h2,dB h2,dR h1]; rfl
  ·rw[if_neg h2]
   by_cases h3:tR K p q=K.zero∧LQ K p q=K.zero
   ·rw[if_pos h3];obtain⟨w,hw,e1,e2⟩:=LR (K:=K) (inv:=inv) E h1 h2;have hx:GW K q p=GW K p q:=jV h3.1;have hy:EU K q p=EU K p q:=jV h3.2;rw[VJ E hp];rw[hx,hy]at e2;rw[e2,e1]
   ·rw[if_neg h3];exact Vx E hp hq h1 h2 h3
theorem aCn (E:EC K inv b) {p q:Jc R} (hp:On K b (fQ K inv p)) (hq:On K b (fQ K inv q)):fQ K inv (rplus K p q)=jI K inv (fQ K inv p) (fQ K inv q):=by
 rw[←Gd E hp hq];unfold rplus fI
 by_cases h1:p.2.2=K.zero
 ·rw[if_pos h1,if_pos h1]
 ·rw[if_neg h1,if_neg h1]
  by_cases h2:q.2.2=K.zero
  ·rw[if_pos h2,if_pos h2]
  ·rw[if_neg h2,if_neg h2]
   by_cases h3:tR K p q=K.zero∧LQ K p q=K.zero
   ·rw[if_pos h3,if_pos h3]
   ·rw[if_neg h3,if_neg h3]
    by_cases h4:tR K p q=K.zero
    ·rw[if_pos h4,dB rfl];refine (dB ?_).symm;show K.mul (K.mul p.2.2 q.2.2) (tR K p q)=K.zero;rw[h4,K.mul_zero]
    ·rw[if_neg h4]
def vA (K:CR R) (p:Jc R):Jc R:=(p.1,K.sub K.zero p.2.1,p.2.2)
theorem aOE (p:Jc R):fQ K inv (vA K p)=PI K (fQ K inv p):=by
 by_cases h:p.2.2=K.zero
 ·rw[dB h,dB (p:=vA K p) h]; rfl
 ·rw[dR h,dR (p:=vA K p) h];refine congrArg some (Prod.ext rfl ?_);show K.mul (K.sub K.zero p.2.1) _=K.neg (K.mul p.2.1 _);rw[←K.neg_mul];congr 1;exact K.zero_add _
end
end Go.Proofs.YtglgakbkdjhojaaGreat.Ex
