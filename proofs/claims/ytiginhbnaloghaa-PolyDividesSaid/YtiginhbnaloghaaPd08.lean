/- Pd08 -/
import Derived.Deep.DeepCutAuto
import Derived.Test.YtiginhbnaloghaaPd07
import Derived.Test.YtiginhbnaloghaaPd06
import Derived.Test.YtiginhbnaloghaaPd03
import Derived.Test.YtiginhbnaloghaaProg
set_option maxRecDepth 100000
set_option linter.unusedVariables false
set_option linter.unusedSimpArgs false
set_option linter.unnecessarySimpa false
noncomputable section
namespace Go.Proofs.Ytiginhbnaloghaa
open Go.Proofs.Try
open Go.RowKit
set_option maxHeartbeats 2000000 in
theorem sG (f:Int) (F:FC) (hf:FieldIs f F) (w:World):Calls prog 64 #[.int .i64 f] w fun e w'=>e=.returned (.agg #[.int .u64 F.s0,.int .u64 F.s1,.int .u64 F.s2,.int .u64 F.s3])∧Below w.heap.size w w':=by
 rcases hf with⟨rfl,rfl⟩|⟨rfl,rfl⟩
 ·go_enter func64,ntmps64
  go_wp2_with fail;refine bodyPost_ret (v:=.agg #[.int .u64 FP.s0,.int .u64 FP.s1,.int .u64 FP.s2,.int .u64 FP.s3]) (by simp[results,results64,go_sem,FP]) rfl ?_;refine⟨rfl,?_⟩
  repeat (first|exact Below.refl _ _|refine Below.drew ?_|refine Below.alloc ?_ (by first|(simp; done)|(simp; omega)) _|refine Below.setCell ?_ (by simp) _)
 ·go_enter func64,ntmps64
  go_wp2_with fail;refine bodyPost_ret (v:=.agg #[.int .u64 FR.s0,.int .u64 FR.s1,.int .u64 FR.s2,.int .u64 FR.s3]) (by simp[results,results64,go_sem,FR]) rfl ?_;refine⟨rfl,?_⟩
  repeat (first|exact Below.refl _ _|refine Below.drew ?_|refine Below.alloc ?_ (by first|(simp; done)|(simp; omega)) _|refine Below.setCell ?_ (by simp) _)
set_option maxHeartbeats 2000000 in
theorem oV (f:Int) (F:FC) (hf:FieldIs f F) (a0 a1 a2 a3 b0 b1 b2 b3:Nat) (ha:bP a0 a1 a2 a3) (hb:bP b0 b1 b2 b3) (w:World) :
  Calls prog 29 #[.int .i64 f,.agg #[.int .u64 a0,.int .u64 a1,.int .u64 a2,.int .u64 a3],.agg #[.int .u64 b0,.int .u64 b1,.int .u64 b2,.int .u64 b3]] w (dT ((aB a0 a1 a2 a3+aB b0 b1 b2 b3)%F.M) w):=by
 have hpos:=hf.ok.pos;have h2M:=hf.ok.two
 go_enter func29,ntmps29
 go_wp2_with fail;have HM:=Lib.hid ((((Mem.nil w).new (w.heap.size) a0 a1 a2 a3 25 (by simp)).new (w.heap.size+1) b0 b1 b2 b3 25 (by simp)).new (w.heap.size+1+1) 0 0 0 0 25 (by simp))
 go_upto_region 1 with fail
 go_cut [7] (fun s7 wx=>∃gb s0 s1 s2 s3:Nat,s7=.pointer (some ⟨gb,0,none⟩)∧bP s0 s1 s2 s3∧Hid (aB s0 s1 s2 s3=aB a0 a1 a2 a3%F.M+aB b0 b1 b2 b3%F.M)∧Hid (Mem w wx [(gb,s0,s1,s2,s3),(w.heap.size+1+1,0,0,0,0)]))
 case first =>
  refine cW (fun wx=>Mem w wx [(w.heap.size+1+1,0,0,0,0),(w.heap.size+1,b0,b1,b2,b3),(w.heap.size,a0,a1,a2,a3)]) 12 (by kernel_rfl) ?_;have HM':=Lib.hid (HM.out.drewN 1);clear HM;have HM:=HM';clear HM';have HS:=HM.out.sub (rs':=[(w.heap.size+1+1,0,0,0,0),(w.heap.size+1,b0,b1,b2,b3),(w.heap.size,a0,a1,a2,a3)]) (by simp);refine aH (i:=0) (v:=.int .i64 f) rfl (by kernel_rfl) (by kernel_rfl) (by kernel_rfl) (by kernel_rfl) (fun _ _ _ h=>h) HS (Or.inl ⟨by kernel_rfl,fun wx hx => ?_⟩) ?_
  ·clear HS hx;go_simp
  simp only[Act.put,List.setIfInBounds_toArray,List.set_cons_zero,List.set_cons_succ];refine aH (i:=1) (v:=.agg #[.int .u64 a0,.int .u64 a1,.int .u64 a2,.int .u64 a3]) rfl (by kernel_rfl) (by kernel_rfl) (by kernel_rfl) (by kernel_rfl) (fun _ _ _ h=>h) HS (Or.inl ⟨by kernel_rfl,fun wx hx => ?_⟩) ?_
  ·have kr:=hx.row (b:=w.heap.size) (c0:=a0) (c1:=a1) (c2:=a2) (c3:=a3) (by simp);have x0:=kr.c0; have x1:=kr.c1; have x2:=kr.c2; have x3:=kr.c3;clear kr HS hx;go_simp
  simp only[Act.put,List.setIfInBounds_toArray,List.set_cons_zero,List.set_cons_succ];refine aH (i:=3) (v:=.int .i64 f) rfl (by kernel_rfl) (by kernel_rfl) (by kernel_rfl) (by kernel_rfl) (fun _ _ _ h=>h) HS (Or.inl ⟨by kernel_rfl,fun wx hx => ?_⟩) ?_
  ·clear HS hx;go_simp
  simp only[Act.put,List.setIfInBounds_toArray,List.set_cons_zero,List.set_cons_succ];refine aH (i:=4) (v:=.agg #[.int .u64 b0,.int .u64 b1,.int .u64 b2,.int .u64 b3]) rfl (by kernel_rfl) (by kernel_rfl) (by kernel_rfl) (by kernel_rfl) (fun _ _ _ h=>h) HS (Or.inl ⟨by kernel_rfl,fun wx hx => ?_⟩) ?_
  ·have kr:=hx.row (b:=w.heap.size+1) (c0:=b0) (c1:=b1) (c2:=b2) (c3:=b3) (by simp);have x0:=kr.c0; have x1:=kr.c1; have x2:=kr.c2; have x3:=kr.c3;clear kr HS hx;go_simp
  simp only[Act.put,List.setIfInBounds_toArray,List.set_cons_zero,List.set_cons_succ];clear HS;refine jF (i:=2) (j:=10) (by kernel_rfl) rfl rfl (fun K hK => ?_) (fun K hK => ?_)
  ·go_simp;refine (cO f F hf a0 a1 a2 a3 ha _).mono ?_
   rintro e v1 ⟨x0,x1,x2,x3,rfl,hx,hv,hbl⟩
   have HVx:=Lib.hid hv;clear hv;have HM':=Lib.hid (HM.out.on hbl);clear HM hbl;have HM:=HM';clear HM';have HS:=(HM.out.sub (rs':=[(w.heap.size+1+1,0,0,0,0),(w.heap.size+1,b0,b1,b2,b3),(w.heap.size,a0,a1,a2,a3)]) (by simp));refine hK.out _ _ (Or.inr HS) (fun _ => ?_);clear hK K HS;refine jF (i:=5) (j:=10) (by kernel_rfl) rfl rfl (fun K hK => ?_) (fun K hK => ?_)
   ·go_simp;refine (cO f F hf b0 b1 b2 b3 hb _).mono ?_
    rintro e v2 ⟨y0,y1,y2,y3,rfl,hy,hv,hbl⟩
    have HVy:=Lib.hid hv;clear hv;have HM':=Lib.hid (HM.out.on hbl);clear HM hbl;have HM:=HM';clear HM';have HS:=(HM.out.sub (rs':=[(w.heap.size+1+1,0,0,0,0),(w.heap.size+1,b0,b1,b2,b3),(w.heap.size,a0,a1,a2,a3)]) (by simp));refine hK.out _ _ (Or.inr HS) (fun _ => ?_);clear hK K HS;refine jF (i:=6) (j:=10) (by kernel_rfl) rfl rfl (fun K hK => ?_) (fun K hK => ?_)
    ·go_simp;refine (fJ x0 x1 x2 x3 y0 y1 y2 y3 hx hy _).mono ?_
     rintro e v3 ⟨s0,s1,s2,s3,cc,rfl,hs,hcc,hv,hbl⟩
     have HVs:=Lib.hid (show aB s0 s1 s2 s3=aB a0 a1 a2 a3%F.M+aB b0 b1 b2 b3%F.M by have:=Nat.mod_lt (aB a0 a1 a2 a3) hpos; have:=Nat.mod_lt (aB b0 b1 b2 b3) hpos; rw[HVx.out,HVy.out]at hv; omega);clear hv;have HM':=Lib.hid (HM.out.on hbl);clear HM hbl;have HM:=HM';clear HM';have HS:=(HM.out.sub (rs':=[(w.heap.size+1+1,0,0,0,0),(w.heap.size+1,b0,b1,b2,b3),(w.heap.size,a0,a1,a2,a3)]) (by simp));refine hK.out _ _ (Or.inr HS) (fun _ => ?_);clear hK K HS;have HS:=HM.out.sub (rs':=[(w.heap.size+1+1,0,0,0,0),(w.heap.size+1,b0,b1,b2,b3),(w.heap.size,a0,a1,a2,a3)]) (by simp);refine aH (i:=7) (v:=.tuple #[.agg #[.int .u64 s0,.int .u64 s1,.int .u64 s2,.int .u64 s3],.int .u64 (cc:Nat)]) rfl (by kernel_rfl) (by kernel_rfl) (by kernel_rfl) (by kernel_rfl) (fun _ _ _ h=>h) HS (Or.inl ⟨by kernel_rfl,fun wx hx => ?_⟩) ?_
     ·clear HS hx;go_simp
     simp only[Act.put,List.setIfInBounds_toArray,List.set_cons_zero,List.set_cons_succ];refine aH (i:=8) (v:=.agg #[.int .u64 s0,.int .u64 s1,.int .u64 s2,.int .u64 s3]) rfl (by kernel_rfl) (by kernel_rfl) (by kernel_rfl) (by kernel_rfl) (fun _ _ _ h=>h) HS (Or.inl ⟨by kernel_rfl,fun wx hx => ?_⟩) ?_
     ·clear HS hx;go_simp
     simp only[Act.put,List.setIfInBounds_toArray,List.set_cons_zero,List.set_cons_succ];refine aH (i:=9) (v:=.int .u64 (cc:Nat)) rfl (by kernel_rfl) (by kernel_rfl) (by kernel_rfl) (by kernel_rfl) (fun _ _ _ h=>h) HS (Or.inl ⟨by kernel_rfl,fun wx hx => ?_⟩) ?_
     ·clear HS hx;go_simp
     simp only[Act.put,List.setIfInBounds_toArray,List.set_cons_zero,List.set_cons_succ];clear HS;refine aI (i:=10) (by kernel_rfl) rfl (fun K hK => ?_);go_simp;have HM9:=HM;have HM':=Lib.hid (HM.out.new (v3.heap.size) 0 0 0 0 85 (by first|rfl|(simp; done)));have hga:w.heap.size+1+1<(v3.heap.size):=by first|exact HM.out.lt (b:=w.heap.size+1+1) (c0:=0) (c1:=0) (c2:=0) (c3:=0) (by simp)|simpa using HM.out.lt (b:=w.heap.size+1+1) (c0:=0) (c1:=0) (c2:=0) (c3:=0) (by simp)|(have:=HM.out.lt (b:=w.heap.size+1+1) (c0:=0) (c1:=0) (c2:=0) (c3:=0) (by simp); simp at this ⊢; omega)
     clear HM;have HM:=HM';clear HM';have HS:=(HM.out.sub (rs':=[(w.heap.size+1+1,0,0,0,0),(w.heap.size+1,b0,b1,b2,b3),(w.heap.size,a0,a1,a2,a3)]) (by simp));refine hK.out _ _ (Or.inr HS) (fun _ => ?_);clear hK K HS;have kr:=HM.out.row (b:=(v3.heap.size)) (c0:=0) (c1:=0) (c2:=0) (c3:=0) (by simp);have yl:=HM.out.lt (b:=(v3.heap.size)) (c0:=0) (c1:=0) (c2:=0) (c3:=0) (by simp);have y0:=kr.c0; have y1:=kr.c1; have y2:=kr.c2; have y3:=kr.c3; have yf:=kr.fr;clear kr;refine aI (i:=11) (by kernel_rfl) rfl (fun K hK => ?_);go_simp;have HM':=Lib.hid (HM9.out.new (v3.heap.size) s0 s1 s2 s3 85 (by first|rfl|(simp; done)));clear HM;have HM:=HM';clear HM';have HS:=(HM.out.sub (rs':=[(w.heap.size+1+1,0,0,0,0),(w.heap.size+1,b0,b1,b2,b3),(w.heap.size,a0,a1,a2,a3)]) (by simp));refine hK.out _ _ (Or.inr HS) (fun _ => ?_);clear hK K HS;refine aI (i:=12) (by kernel_rfl) rfl (fun K hK => ?_);go_simp;refine hK.out _ _ (Or.inl rfl) (fun _ => ?_);clear hK K;refine cG (by kernel_rfl) ?_;go_wp2_with fail
     go_meet
     exact⟨(v3.heap.size),s0,s1,s2,s3,rfl,hs,HVs,Lib.hid (HM.out.sub (by simp))⟩
    ·go_simp;have HM9:=HM;have HM':=Lib.hid (HM.out.new (v2.heap.size) 0 0 0 0 85 (by first|rfl|(simp; done)));have hga:w.heap.size+1+1<(v2.heap.size):=by first|exact HM.out.lt (b:=w.heap.size+1+1) (c0:=0) (c1:=0) (c2:=0) (c3:=0) (by simp)|simpa using HM.out.lt (b:=w.heap.size+1+1) (c0:=0) (c1:=0) (c2:=0) (c3:=0) (by simp)|(have:=HM.out.lt (b:=w.heap.size+1+1) (c0:=0) (c1:=0) (c2:=0) (c3:=0) (by simp); simp at this ⊢; omega)
     clear HM;have HM:=HM';clear HM';have HS:=(HM.out.sub (rs':=[(w.heap.size+1+1,0,0,0,0),(w.heap.size+1,b0,b1,b2,b3),(w.heap.size,a0,a1,a2,a3)]) (by simp));refine hK.out _ _ (Or.inr HS) (fun _ => ?_);clear hK K HS;refine aI (i:=6) (by kernel_rfl) rfl (fun K hK => ?_);go_simp;refine (fJ x0 x1 x2 x3 y0 y1 y2 y3 hx hy _).mono ?_
     rintro e v3 ⟨s0,s1,s2,s3,cc,rfl,hs,hcc,hv,hbl⟩
     have HVs:=Lib.hid (show aB s0 s1 s2 s3=aB a0 a1 a2 a3%F.M+aB b0 b1 b2 b3%F.M by have:=Nat.mod_lt (aB a0 a1 a2 a3) hpos; have:=Nat.mod_lt (aB b0 b1 b2 b3) hpos; rw[HVx.out,HVy.out]at hv; omega);clear hv;have HM':=Lib.hid (HM.out.on hbl);clear HM hbl;have HM:=HM';clear HM';have HS:=(HM.out.sub (rs':=[(w.heap.size+1+1,0,0,0,0),(w.heap.size+1,b0,b1,b2,b3),(w.heap.size,a0,a1,a2,a3)]) (by simp));refine hK.out _ _ (Or.inr HS) (fun _ => ?_);clear hK K HS;have HS:=HM.out.sub (rs':=[(w.heap.size+1+1,0,0,0,0),(w.heap.size+1,b0,b1,b2,b3),(w.heap.size,a0,a1,a2,a3)]) (by simp);refine aH (i:=7) (v:=.tuple #[.agg #[.int .u64 s0,.int .u64 s1,.int .u64 s2,.int .u64 s3],.int .u64 (cc:Nat)]) rfl (by kernel_rfl) (by kernel_rfl) (by kernel_rfl) (by kernel_rfl) (fun _ _ _ h=>h) HS (Or.inl ⟨by kernel_rfl,fun wx hx => ?_⟩) ?_
     ·clear HS hx;go_simp
     simp only[Act.put,List.setIfInBounds_toArray,List.set_cons_zero,List.set_cons_succ];refine aH (i:=8) (v:=.agg #[.int .u64 s0,.int .u64 s1,.int .u64 s2,.int .u64 s3]) rfl (by kernel_rfl) (by kernel_rfl) (by kernel_rfl) (by kernel_rfl) (fun _ _ _ h=>h) HS (Or.inl ⟨by kernel_rfl,fun wx hx => ?_⟩) ?_
     ·clear HS hx;go_simp
     simp only[Act.put,List.setIfInBounds_toArray,List.set_cons_zero,List.set_cons_succ];refine aH (i:=9) (v:=.int .u64 (cc:Nat)) rfl (by kernel_rfl) (by kernel_rfl) (by kernel_rfl) (by kernel_rfl) (fun _ _ _ h=>h) HS (Or.inl ⟨by kernel_rfl,fun wx hx => ?_⟩) ?_
     ·clear HS hx;go_simp
     simp only[Act.put,List.setIfInBounds_toArray,List.set_cons_zero,List.set_cons_succ];clear HS;have kr:=HM.out.row (b:=(v2.heap.size)) (c0:=0) (c1:=0) (c2:=0) (c3:=0) (by simp);have yl:=HM.out.lt (b:=(v2.heap.size)) (c0:=0) (c1:=0) (c2:=0) (c3:=0) (by simp);have y0:=kr.c0; have y1:=kr.c1; have y2:=kr.c2; have y3:=kr.c3; have yf:=kr.fr;clear kr;refine aI (i:=11) (by kernel_rfl) rfl (fun K hK => ?_);go_simp;have HM':=Lib.hid (HM.out.put s0 s1 s2 s3 (by omega) (by intro r hr; simp at hr; rcases hr with rfl|rfl|rfl<;>simp<;>omega));clear HM;have HM:=HM';clear HM';have HS:=(HM.out.sub (rs':=[(w.heap.size+1+1,0,0,0,0),(w.heap.size+1,b0,b1,b2,b3),(w.heap.size,a0,a1,a2,a3)]) (by simp));refine hK.out _ _ (Or.inr HS) (fun _ => ?_);clear hK K HS;refine aI (i:=12) (by kernel_rfl) rfl (fun K hK => ?_);go_simp;refine hK.out _ _ (Or.inl rfl) (fun _ => ?_);clear hK K;refine cG (by kernel_rfl) ?_;go_wp2_with fail
     go_meet
     exact⟨(v2.heap.size),s0,s1,s2,s3,rfl,hs,HVs,Lib.hid (HM.out.sub (by simp))⟩
   ·go_simp;have HM9:=HM;have HM':=Lib.hid (HM.out.new (v1.heap.size) 0 0 0 0 85 (by first|rfl|(simp; done)));have hga:w.heap.size+1+1<(v1.heap.size):=by first|exact HM.out.lt (b:=w.heap.size+1+1) (c0:=0) (c1:=0) (c2:=0) (c3:=0) (by simp)|simpa using HM.out.lt (b:=w.heap.size+1+1) (c0:=0) (c1:=0) (c2:=0) (c3:=0) (by simp)|(have:=HM.out.lt (b:=w.heap.size+1+1) (c0:=0) (c1:=0) (c2:=0) (c3:=0) (by simp); simp at this ⊢; omega)
    clear HM;have HM:=HM';clear HM';have HS:=(HM.out.sub (rs':=[(w.heap.size+1+1,0,0,0,0),(w.heap.size+1,b0,b1,b2,b3),(w.heap.size,a0,a1,a2,a3)]) (by simp));refine hK.out _ _ (Or.inr HS) (fun _ => ?_);clear hK K HS;refine aI (i:=5) (by kernel_rfl) rfl (fun K hK => ?_);go_simp;refine (cO f F hf b0 b1 b2 b3 hb _).mono ?_
    rintro e v2 ⟨y0,y1,y2,y3,rfl,hy,hv,hbl⟩
    have HVy:=Lib.hid hv;clear hv;have HM':=Lib.hid (HM.out.on hbl);clear HM hbl;have HM:=HM';clear HM';have HS:=(HM.out.sub (rs':=[(w.heap.size+1+1,0,0,0,0),(w.heap.size+1,b0,b1,b2,b3),(w.heap.size,a0,a1,a2,a3)]) (by simp));refine hK.out _ _ (Or.inr HS) (fun _ => ?_);clear hK K HS;refine aI (i:=6) (by kernel_rfl) rfl (fun K hK => ?_);go_simp;refine (fJ x0 x1 x2 x3 y0 y1 y2 y3 hx hy _).mono ?_
    rintro e v3 ⟨s0,s1,s2,s3,cc,rfl,hs,hcc,hv,hbl⟩
    have HVs:=Lib.hid (show aB s0 s1 s2 s3=aB a0 a1 a2 a3%F.M+aB b0 b1 b2 b3%F.M by have:=Nat.mod_lt (aB a0 a1 a2 a3) hpos; have:=Nat.mod_lt (aB b0 b1 b2 b3) hpos; rw[HVx.out,HVy.out]at hv; omega);clear hv;have HM':=Lib.hid (HM.out.on hbl);clear HM hbl;have HM:=HM';clear HM';have HS:=(HM.out.sub (rs':=[(w.heap.size+1+1,0,0,0,0),(w.heap.size+1,b0,b1,b2,b3),(w.heap.size,a0,a1,a2,a3)]) (by simp));refine hK.out _ _ (Or.inr HS) (fun _ => ?_);clear hK K HS;have HS:=HM.out.sub (rs':=[(w.heap.size+1+1,0,0,0,0),(w.heap.size+1,b0,b1,b2,b3),(w.heap.size,a0,a1,a2,a3)]) (by simp);refine aH (i:=7) (v:=.tuple #[.agg #[.int .u64 s0,.int .u64 s1,.int .u64 s2,.int .u64 s3],.int .u64 (cc:Nat)]) rfl (by kernel_rfl) (by kernel_rfl) (by kernel_rfl) (by kernel_rfl) (fun _ _ _ h=>h) HS (Or.inl ⟨by kernel_rfl,fun wx hx => ?_⟩) ?_
    ·clear HS hx;go_simp
    simp only[Act.put,List.setIfInBounds_toArray,List.set_cons_zero,List.set_cons_succ];refine aH (i:=8) (v:=.agg #[.int .u64 s0,.int .u64 s1,.int .u64 s2,.int .u64 s3]) rfl (by kernel_rfl) (by kernel_rfl) (by kernel_rfl) (by kernel_rfl) (fun _ _ _ h=>h) HS (Or.inl ⟨by kernel_rfl,fun wx hx => ?_⟩) ?_
    ·clear HS hx;go_simp
    simp only[Act.put,List.setIfInBounds_toArray,List.set_cons_zero,List.set_cons_succ];refine aH (i:=9) (v:=.int .u64 (cc:Nat)) rfl (by kernel_rfl) (by kernel_rfl) (by kernel_rfl) (by kernel_rfl) (fun _ _ _ h=>h) HS (Or.inl ⟨by kernel_rfl,fun wx hx => ?_⟩) ?_
    ·clear HS hx;go_simp
    simp only[Act.put,List.setIfInBounds_toArray,List.set_cons_zero,List.set_cons_succ];clear HS;have kr:=HM.out.row (b:=(v1.heap.size)) (c0:=0) (c1:=0) (c2:=0) (c3:=0) (by simp);have yl:=HM.out.lt (b:=(v1.heap.size)) (c0:=0) (c1:=0) (c2:=0) (c3:=0) (by simp);have y0:=kr.c0; have y1:=kr.c1; have y2:=kr.c2; have y3:=kr.c3; have yf:=kr.fr;clear kr;refine aI (i:=11) (by kernel_rfl) rfl (fun K hK => ?_);go_simp;have HM':=Lib.hid (HM.out.put s0 s1 s2 s3 (by omega) (by intro r hr; simp at hr; rcases hr with rfl|rfl|rfl<;>simp<;>omega));clear HM;have HM:=HM';clear HM';have HS:=(HM.out.sub (rs':=[(w.heap.size+1+1,0,0,0,0),(w.heap.size+1,b0,b1,b2,b3),(w.heap.size,a0,a1,a2,a3)]) (by simp));refine hK.out _ _ (Or.inr HS) (fun _ => ?_);clear hK K HS;refine aI (i:=12) (by kernel_rfl) rfl (fun K hK => ?_);go_simp;refine hK.out _ _ (Or.inl rfl) (fun _ => ?_);clear hK K;refine cG (by kernel_rfl) ?_;go_wp2_with fail
    go_meet
    exact⟨(v1.heap.size),s0,s1,s2,s3,rfl,hs,HVs,Lib.hid (HM.out.sub (by simp))⟩
  ·go_simp;have HM9:=HM;have HM':=Lib.hid (HM.out.new (w.heap.size+1+1+1) 0 0 0 0 85 (by first|rfl|(simp; done)));have hga:w.heap.size+1+1<(w.heap.size+1+1+1):=by first|exact HM.out.lt (b:=w.heap.size+1+1) (c0:=0) (c1:=0) (c2:=0) (c3:=0) (by simp)|simpa using HM.out.lt (b:=w.heap.size+1+1) (c0:=0) (c1:=0) (c2:=0) (c3:=0) (by simp)|(have:=HM.out.lt (b:=w.heap.size+1+1) (c0:=0) (c1:=0) (c2:=0) (c3:=0) (by simp); simp at this ⊢; omega)
   clear HM;have HM:=HM';clear HM';have HS:=(HM.out.sub (rs':=[(w.heap.size+1+1,0,0,0,0),(w.heap.size+1,b0,b1,b2,b3),(w.heap.size,a0,a1,a2,a3)]) (by simp));refine hK.out _ _ (Or.inr HS) (fun _ => ?_);clear hK K HS;refine aI (i:=2) (by kernel_rfl) rfl (fun K hK => ?_);go_simp;refine (cO f F hf a0 a1 a2 a3 ha _).mono ?_
   rintro e v1 ⟨x0,x1,x2,x3,rfl,hx,hv,hbl⟩
   have HVx:=Lib.hid hv;clear hv;have HM':=Lib.hid (HM.out.on hbl);clear HM hbl;have HM:=HM';clear HM';have HS:=(HM.out.sub (rs':=[(w.heap.size+1+1,0,0,0,0),(w.heap.size+1,b0,b1,b2,b3),(w.heap.size,a0,a1,a2,a3)]) (by simp));refine hK.out _ _ (Or.inr HS) (fun _ => ?_);clear hK K HS;refine aI (i:=5) (by kernel_rfl) rfl (fun K hK => ?_);go_simp;refine (cO f F hf b0 b1 b2 b3 hb _).mono ?_
   rintro e v2 ⟨y0,y1,y2,y3,rfl,hy,hv,hbl⟩
   have HVy:=Lib.hid hv;clear hv;have HM':=Lib.hid (HM.out.on hbl);clear HM hbl;have HM:=HM';clear HM';have HS:=(HM.out.sub (rs':=[(w.heap.size+1+1,0,0,0,0),(w.heap.size+1,b0,b1,b2,b3),(w.heap.size,a0,a1,a2,a3)]) (by simp));refine hK.out _ _ (Or.inr HS) (fun _ => ?_);clear hK K HS;refine aI (i:=6) (by kernel_rfl) rfl (fun K hK => ?_);go_simp;refine (fJ x0 x1 x2 x3 y0 y1 y2 y3 hx hy _).mono ?_
   rintro e v3 ⟨s0,s1,s2,s3,cc,rfl,hs,hcc,hv,hbl⟩
   have HVs:=Lib.hid (show aB s0 s1 s2 s3=aB a0 a1 a2 a3%F.M+aB b0 b1 b2 b3%F.M by have:=Nat.mod_lt (aB a0 a1 a2 a3) hpos; have:=Nat.mod_lt (aB b0 b1 b2 b3) hpos; rw[HVx.out,HVy.out]at hv; omega);clear hv;have HM':=Lib.hid (HM.out.on hbl);clear HM hbl;have HM:=HM';clear HM';have HS:=(HM.out.sub (rs':=[(w.heap.size+1+1,0,0,0,0),(w.heap.size+1,b0,b1,b2,b3),(w.heap.size,a0,a1,a2,a3)]) (by simp));refine hK.out _ _ (Or.inr HS) (fun _ => ?_);clear hK K HS;have HS:=HM.out.sub (rs':=[(w.heap.size+1+1,0,0,0,0),(w.heap.size+1,b0,b1,b2,b3),(w.heap.size,a0,a1,a2,a3)]) (by simp);refine aH (i:=7) (v:=.tuple #[.agg #[.int .u64 s0,.int .u64 s1,.int .u64 s2,.int .u64 s3],.int .u64 (cc:Nat)]) rfl (by kernel_rfl) (by kernel_rfl) (by kernel_rfl) (by kernel_rfl) (fun _ _ _ h=>h) HS (Or.inl ⟨by kernel_rfl,fun wx hx => ?_⟩) ?_
   ·clear HS hx;go_simp
   simp only[Act.put,List.setIfInBounds_toArray,List.set_cons_zero,List.set_cons_succ];refine aH (i:=8) (v:=.agg #[.int .u64 s0,.int .u64 s1,.int .u64 s2,.int .u64 s3]) rfl (by kernel_rfl) (by kernel_rfl) (by kernel_rfl) (by kernel_rfl) (fun _ _ _ h=>h) HS (Or.inl ⟨by kernel_rfl,fun wx hx => ?_⟩) ?_
   ·clear HS hx;go_simp
   simp only[Act.put,List.setIfInBounds_toArray,List.set_cons_zero,List.set_cons_succ];refine aH (i:=9) (v:=.int .u64 (cc:Nat)) rfl (by kernel_rfl) (by kernel_rfl) (by kernel_rfl) (by kernel_rfl) (fun _ _ _ h=>h) HS (Or.inl ⟨by kernel_rfl,fun wx hx => ?_⟩) ?_
   ·clear HS hx;go_simp
   simp only[Act.put,List.setIfInBounds_toArray,List.set_cons_zero,List.set_cons_succ];clear HS;have kr:=HM.out.row (b:=(w.heap.size+1+1+1)) (c0:=0) (c1:=0) (c2:=0) (c3:=0) (by simp);have yl:=HM.out.lt (b:=(w.heap.size+1+1+1)) (c0:=0) (c1:=0) (c2:=0) (c3:=0) (by simp);have y0:=kr.c0; have y1:=kr.c1; have y2:=kr.c2; have y3:=kr.c3; have yf:=kr.fr;clear kr;refine aI (i:=11) (by kernel_rfl) rfl (fun K hK => ?_);go_simp;have HM':=Lib.hid (HM.out.put s0 s1 s2 s3 (by omega) (by intro r hr; simp at hr; rcases hr with rfl|rfl|rfl<;>simp<;>omega));clear HM;have HM:=HM';clear HM';have HS:=(HM.out.sub (rs':=[(w.heap.size+1+1,0,0,0,0),(w.heap.size+1,b0,b1,b2,b3),(w.heap.size,a0,a1,a2,a3)]) (by simp));refine hK.out _ _ (Or.inr HS) (fun _ => ?_);clear hK K HS;refine aI (i:=12) (by kernel_rfl) rfl (fun K hK => ?_);go_simp;refine hK.out _ _ (Or.inl rfl) (fun _ => ?_);clear hK K;refine cG (by kernel_rfl) ?_;go_wp2_with fail
   go_meet
   exact⟨(w.heap.size+1+1+1),s0,s1,s2,s3,rfl,hs,HVs,Lib.hid (HM.out.sub (by simp))⟩
 case rest =>
  obtain⟨gb,s0,s1,s2,s3,rfl,hs,HVs,HM'⟩:=hcut;clear HM;have HM:=HM';clear HM';have kr:=HM.out.row (b:=gb) (c0:=s0) (c1:=s1) (c2:=s2) (c3:=s3) (by simp);have x0:=kr.c0; have x1:=kr.c1; have x2:=kr.c2; have x3:=kr.c3;clear kr;have xl:=HM.out.lt (b:=gb) (c0:=s0) (c1:=s1) (c2:=s2) (c3:=s3) (by simp);go_wp2_with fail;refine (cO f F hf s0 s1 s2 s3 hs _).mono ?_
  rintro e w5 ⟨r0,r1,r2,r3,rfl,hr,hv,hbl⟩
  have HVr:=Lib.hid (show aB r0 r1 r2 r3=(aB a0 a1 a2 a3+aB b0 b1 b2 b3)%F.M by rw[hv,HVs.out,←Nat.add_mod]);clear hv;have HM':=Lib.hid (HM.out.on hbl);clear HM hbl;have HM:=HM';clear HM';clear x0 x1 x2 x3 xl;have kr:=HM.out.row (b:=w.heap.size+1+1) (c0:=0) (c1:=0) (c2:=0) (c3:=0) (by simp);have y0:=kr.c0; have y1:=kr.c1; have y2:=kr.c2; have y3:=kr.c3; have yf:=kr.fr;clear kr;have yl:=HM.out.lt (b:=w.heap.size+1+1) (c0:=0) (c1:=0) (c2:=0) (c3:=0) (by simp);go_wp2_with fail;refine bodyPost_ret (v:=.agg #[.int .u64 r0,.int .u64 r1,.int .u64 r2,.int .u64 r3]) (by simp[results,results29,go_sem, *]) rfl ?_;refine⟨_,_,_,_,rfl,hr,HVr.out,?_⟩;exact bI HM.out.1 (by omega) _ _ _ _
set_option maxHeartbeats 2000000 in
theorem oS (f:Int) (F:FC) (hf:FieldIs f F) (a0 a1 a2 a3:Nat) (ha:bP a0 a1 a2 a3) (w:World) :
  Calls prog 60 #[.int .i64 f,.agg #[.int .u64 a0,.int .u64 a1,.int .u64 a2,.int .u64 a3]] w (dT ((F.M-aB a0 a1 a2 a3%F.M)%F.M) w):=by
 have hpos:=hf.ok.pos;have h2M:=hf.ok.two;have hG:=LB
 go_enter func60,ntmps60
 go_wp2_with fail;have HM:=Lib.hid (((Mem.nil w).new (w.heap.size) a0 a1 a2 a3 25 (by simp)).new (w.heap.size+1) 0 0 0 0 25 (by simp));refine (cO f F hf a0 a1 a2 a3 ha _).mono ?_
 rintro e w1 ⟨x0,x1,x2,x3,rfl,hx,hv,hbl⟩
 have HVx:=Lib.hid hv;clear hv;have HM':=Lib.hid (HM.out.on hbl);clear HM hbl;have HM:=HM';clear HM';have hz1:w.heap.size+1<w1.heap.size:=HM.out.lt (b:=w.heap.size+1) (c0:=0) (c1:=0) (c2:=0) (c3:=0) (by simp);have HMo:=HM;have HM':=Lib.hid (HM.out.new w1.heap.size x0 x1 x2 x3 85 rfl);clear HM;have HM:=HM';clear HM'
 by_cases hz:aB a0 a1 a2 a3%F.M=0
 ·have hE:∀w,(Op.equalIn 10000 85 (.agg #[.int .u64 x0,.int .u64 x1,.int .u64 x2,.int .u64 x3]) (.agg #[.int .u64 0,.int .u64 0,.int .u64 0,.int .u64 0])).run prog w=.ok true w:=fun w=>by
   have h:=pT 9998 x0 x1 x2 x3 0 0 0 0 w;rw[(oE hx Aq).2 (HVx.out.trans (hz.trans rfl))]at h;exact h
  have HZ:=Lib.hid hz;clear hz;have kr:=HMo.out.row (b:=w.heap.size+1) (c0:=0) (c1:=0) (c2:=0) (c3:=0) (by simp);have y0:=kr.c0; have y1:=kr.c1; have y2:=kr.c2; have y3:=kr.c3; have yf:=kr.fr;clear kr;go_wp2_with fail;refine bodyPost_ret (v:=.agg #[.int .u64 0,.int .u64 0,.int .u64 0,.int .u64 0]) (by simp[results,results60,go_sem, *]) rfl ?_;refine⟨_,_,_,_,rfl,Aq,by rw[HZ.out,Nat.sub_zero,Nat.mod_self]; rfl,?_⟩
  repeat (first|exact HMo.out.1|refine Below.alloc ?_ (by first|(simp; done)|(simp; omega)) _|refine Below.setCell ?_ (by first|(simp; done)|(simp; omega)) _)
 ·have hE:∀w,(Op.equalIn 10000 85 (.agg #[.int .u64 x0,.int .u64 x1,.int .u64 x2,.int .u64 x3]) (.agg #[.int .u64 0,.int .u64 0,.int .u64 0,.int .u64 0])).run prog w=.ok false w:=fun w=>by
   have h:=pT 9998 x0 x1 x2 x3 0 0 0 0 w;rw[rO (fun q=>hz (HVx.out.symm.trans (((oE hx Aq).1 q).trans rfl)))]at h;exact h
  have HZ:=Lib.hid hz;clear hz HMo
  go_upto_region 4 with fail
  go_cut [6] (fun s6 wx=>∃gb s0 s1 s2 s3:Nat,s6=.pointer (some ⟨gb,0,none⟩)∧bP s0 s1 s2 s3∧Hid (aB s0 s1 s2 s3=F.M-aB a0 a1 a2 a3%F.M)∧Hid (Mem w wx [(gb,s0,s1,s2,s3),(w.heap.size+1,0,0,0,0)]))
  case first =>
   refine cW (fun wx=>Mem w wx [(w1.heap.size,x0,x1,x2,x3),(w.heap.size+1,0,0,0,0),(w.heap.size,a0,a1,a2,a3)]) 9 (by kernel_rfl) ?_;have HM':=Lib.hid (HM.out.drewN 1);clear HM;have HM:=HM';clear HM';have HS:=HM.out.sub (rs':=[(w1.heap.size,x0,x1,x2,x3),(w.heap.size+1,0,0,0,0),(w.heap.size,a0,a1,a2,a3)]) (by simp);refine aH (i:=0) (v:=.int .i64 f) rfl (by kernel_rfl) (by kernel_rfl) (by kernel_rfl) (by kernel_rfl) (fun _ _ _ h=>h) HS (Or.inl ⟨by kernel_rfl,fun wx hx => ?_⟩) ?_
   ·clear HS hx;go_simp
   simp only[Act.put,List.setIfInBounds_toArray,List.set_cons_zero,List.set_cons_succ];refine aH (i:=2) (v:=.agg #[.int .u64 x0,.int .u64 x1,.int .u64 x2,.int .u64 x3]) rfl (by kernel_rfl) (by kernel_rfl) (by kernel_rfl) (by kernel_rfl) (fun _ _ _ h=>h) HS (Or.inl ⟨by kernel_rfl,fun wx hx => ?_⟩) ?_
   ·have kr:=hx.row (b:=w1.heap.size) (c0:=x0) (c1:=x1) (c2:=x2) (c3:=x3) (by simp);have x0:=kr.c0; have x1:=kr.c1; have x2:=kr.c2; have x3:=kr.c3;clear kr HS hx;go_simp
   simp only[Act.put,List.setIfInBounds_toArray,List.set_cons_zero,List.set_cons_succ];clear HS;refine jF (i:=1) (j:=7) (by kernel_rfl) rfl rfl (fun K hK => ?_) (fun K hK => ?_)
   ·go_simp;refine (fC f F hf _).mono ?_
    rintro e v1 ⟨rfl,hbl⟩
    have HM':=Lib.hid (HM.out.on hbl);clear HM hbl;have HM:=HM';clear HM';have HS:=(HM.out.sub (rs':=[(w1.heap.size,x0,x1,x2,x3),(w.heap.size+1,0,0,0,0),(w.heap.size,a0,a1,a2,a3)]) (by simp));refine hK.out _ _ (Or.inr HS) (fun _ => ?_);clear hK K HS;refine jF (i:=3) (j:=7) (by kernel_rfl) rfl rfl (fun K hK => ?_) (fun K hK => ?_)
    ·go_simp;refine (dW F.m0 F.m1 F.m2 F.m3 x0 x1 x2 x3 hf.ok.okm hx _).mono ?_
     rintro e v2 ⟨s0,s1,s2,s3,cc,rfl,hs,hcc,hv,hbl⟩
     have HVs:=Lib.hid (show aB s0 s1 s2 s3=F.M-aB a0 a1 a2 a3%F.M by have:=Nat.mod_lt (aB a0 a1 a2 a3) hpos; have:=cP hs; rw[HVx.out,show aB F.m0 F.m1 F.m2 F.m3=F.M from rfl]at hv; omega);clear hv;have HM':=Lib.hid (HM.out.on hbl);clear HM hbl;have HM:=HM';clear HM';have HS:=(HM.out.sub (rs':=[(w1.heap.size,x0,x1,x2,x3),(w.heap.size+1,0,0,0,0),(w.heap.size,a0,a1,a2,a3)]) (by simp));refine hK.out _ _ (Or.inr HS) (fun _ => ?_);clear hK K HS;have HS:=HM.out.sub (rs':=[(w1.heap.size,x0,x1,x2,x3),(w.heap.size+1,0,0,0,0),(w.heap.size,a0,a1,a2,a3)]) (by simp);refine aH (i:=4) (v:=.tuple #[.agg #[.int .u64 s0,.int .u64 s1,.int .u64 s2,.int .u64 s3],.int .u64 (cc:Nat)]) rfl (by kernel_rfl) (by kernel_rfl) (by kernel_rfl) (by kernel_rfl) (fun _ _ _ h=>h) HS (Or.inl ⟨by kernel_rfl,fun wx hx => ?_⟩) ?_
     ·clear HS hx;go_simp
     simp only[Act.put,List.setIfInBounds_toArray,List.set_cons_zero,List.set_cons_succ];refine aH (i:=5) (v:=.agg #[.int .u64 s0,.int .u64 s1,.int .u64 s2,.int .u64 s3]) rfl (by kernel_rfl) (by kernel_rfl) (by kernel_rfl) (by kernel_rfl) (fun _ _ _ h=>h) HS (Or.inl ⟨by kernel_rfl,fun wx hx => ?_⟩) ?_
     ·clear HS hx;go_simp
     simp only[Act.put,List.setIfInBounds_toArray,List.set_cons_zero,List.set_cons_succ];refine aH (i:=6) (v:=.int .u64 (cc:Nat)) rfl (by kernel_rfl) (by kernel_rfl) (by kernel_rfl) (by kernel_rfl) (fun _ _ _ h=>h) HS (Or.inl ⟨by kernel_rfl,fun wx hx => ?_⟩) ?_
     ·clear HS hx;go_simp
     simp only[Act.put,List.setIfInBounds_toArray,List.set_cons_zero,List.set_cons_succ];clear HS;refine aI (i:=7) (by kernel_rfl) rfl (fun K hK => ?_);go_simp;have HM9:=HM;have HM':=Lib.hid (HM.out.new (v2.heap.size) 0 0 0 0 85 (by first|rfl|(simp; done)));have hga:w1.heap.size<(v2.heap.size):=by first|exact HM.out.lt (b:=w1.heap.size) (c0:=x0) (c1:=x1) (c2:=x2) (c3:=x3) (by simp)|simpa using HM.out.lt (b:=w1.heap.size) (c0:=x0) (c1:=x1) (c2:=x2) (c3:=x3) (by simp)|(have:=HM.out.lt (b:=w1.heap.size) (c0:=x0) (c1:=x1) (c2:=x2) (c3:=x3) (by simp); simp at this ⊢; omega)
     clear HM;have HM:=HM';clear HM';have HS:=(HM.out.sub (rs':=[(w1.heap.size,x0,x1,x2,x3),(w.heap.size+1,0,0,0,0),(w.heap.size,a0,a1,a2,a3)]) (by simp));refine hK.out _ _ (Or.inr HS) (fun _ => ?_);clear hK K HS;have kr:=HM.out.row (b:=(v2.heap.size)) (c0:=0) (c1:=0) (c2:=0) (c3:=0) (by simp);have yl:=HM.out.lt (b:=(v2.heap.size)) (c0:=0) (c1:=0) (c2:=0) (c3:=0) (by simp);have y0:=kr.c0; have y1:=kr.c1; have y2:=kr.c2; have y3:=kr.c3; have yf:=kr.fr;clear kr;refine aI (i:=8) (by kernel_rfl) rfl (fun K hK => ?_);go_simp;have HM':=Lib.hid (HM9.out.new (v2.heap.size) s0 s1 s2 s3 85 (by first|rfl|(simp; done)));clear HM;have HM:=HM';clear HM';have HS:=(HM.out.sub (rs':=[(w1.heap.size,x0,x1,x2,x3),(w.heap.size+1,0,0,0,0),(w.heap.size,a0,a1,a2,a3)]) (by simp));refine hK.out _ _ (Or.inr HS) (fun _ => ?_);clear hK K HS;refine aI (i:=9) (by kernel_rfl) rfl (fun K hK => ?_);go_simp;refine hK.out _ _ (Or.inl rfl) (fun _ => ?_);clear hK K;refine cG (by kernel_rfl) ?_;go_wp2_with fail
     go_meet
     exact⟨(v2.heap.size),s0,s1,s2,s3,rfl,hs,HVs,Lib.hid (HM.out.sub (by simp))⟩
    ·go_simp;have HM9:=HM;have HM':=Lib.hid (HM.out.new (v1.heap.size) 0 0 0 0 85 (by first|rfl|(simp; done)));have hga:w1.heap.size<(v1.heap.size):=by first|exact HM.out.lt (b:=w1.heap.size) (c0:=x0) (c1:=x1) (c2:=x2) (c3:=x3) (by simp)|simpa using HM.out.lt (b:=w1.heap.size) (c0:=x0) (c1:=x1) (c2:=x2) (c3:=x3) (by simp)|(have:=HM.out.lt (b:=w1.heap.size) (c0:=x0) (c1:=x1) (c2:=x2) (c3:=x3) (by simp); simp at this ⊢; omega)
     clear HM;have HM:=HM';clear HM';have HS:=(HM.out.sub (rs':=[(w1.heap.size,x0,x1,x2,x3),(w.heap.size+1,0,0,0,0),(w.heap.size,a0,a1,a2,a3)]) (by simp));refine hK.out _ _ (Or.inr HS) (fun _ => ?_);clear hK K HS;refine aI (i:=3) (by kernel_rfl) rfl (fun K hK => ?_);go_simp;refine (dW F.m0 F.m1 F.m2 F.m3 x0 x1 x2 x3 hf.ok.okm hx _).mono ?_
     rintro e v2 ⟨s0,s1,s2,s3,cc,rfl,hs,hcc,hv,hbl⟩
     have HVs:=Lib.hid (show aB s0 s1 s2 s3=F.M-aB a0 a1 a2 a3%F.M by have:=Nat.mod_lt (aB a0 a1 a2 a3) hpos; have:=cP hs; rw[HVx.out,show aB F.m0 F.m1 F.m2 F.m3=F.M from rfl]at hv; omega);clear hv;have HM':=Lib.hid (HM.out.on hbl);clear HM hbl;have HM:=HM';clear HM';have HS:=(HM.out.sub (rs':=[(w1.heap.size,x0,x1,x2,x3),(w.heap.size+1,0,0,0,0),(w.heap.size,a0,a1,a2,a3)]) (by simp));refine hK.out _ _ (Or.inr HS) (fun _ => ?_);clear hK K HS;have HS:=HM.out.sub (rs':=[(w1.heap.size,x0,x1,x2,x3),(w.heap.size+1,0,0,0,0),(w.heap.size,a0,a1,a2,a3)]) (by simp);refine aH (i:=4) (v:=.tuple #[.agg #[.int .u64 s0,.int .u64 s1,.int .u64 s2,.int .u64 s3],.int .u64 (cc:Nat)]) rfl (by kernel_rfl) (by kernel_rfl) (by kernel_rfl) (by kernel_rfl) (fun _ _ _ h=>h) HS (Or.inl ⟨by kernel_rfl,fun wx hx => ?_⟩) ?_
     ·clear HS hx;go_simp
     simp only[Act.put,List.setIfInBounds_toArray,List.set_cons_zero,List.set_cons_succ];refine aH (i:=5) (v:=.agg #[.int .u64 s0,.int .u64 s1,.int .u64 s2,.int .u64 s3]) rfl (by kernel_rfl) (by kernel_rfl) (by kernel_rfl) (by kernel_rfl) (fun _ _ _ h=>h) HS (Or.inl ⟨by kernel_rfl,fun wx hx => ?_⟩) ?_
     ·clear HS hx;go_simp
     simp only[Act.put,List.setIfInBounds_toArray,List.set_cons_zero,List.set_cons_succ];refine aH (i:=6) (v:=.int .u64 (cc:Nat)) rfl (by kernel_rfl) (by kernel_rfl) (by kernel_rfl) (by kernel_rfl) (fun _ _ _ h=>h) HS (Or.inl ⟨by kernel_rfl,fun wx hx => ?_⟩) ?_
     ·clear HS hx;go_simp
     simp only[Act.put,List.setIfInBounds_toArray,List.set_cons_zero,List.set_cons_succ];clear HS;have kr:=HM.out.row (b:=(v1.heap.size)) (c0:=0) (c1:=0) (c2:=0) (c3:=0) (by simp);have yl:=HM.out.lt (b:=(v1.heap.size)) (c0:=0) (c1:=0) (c2:=0) (c3:=0) (by simp);have y0:=kr.c0; have y1:=kr.c1; have y2:=kr.c2; have y3:=kr.c3; have yf:=kr.fr;clear kr;refine aI (i:=8) (by kernel_rfl) rfl (fun K hK => ?_);go_simp;have HM':=Lib.hid (HM.out.put s0 s1 s2 s3 (by omega) (by intro r hr; simp at hr; rcases hr with rfl|rfl|rfl<;>simp<;>omega));clear HM;have HM:=HM';clear HM';have HS:=(HM.out.sub (rs':=[(w1.heap.size,x0,x1,x2,x3),(w.heap.size+1,0,0,0,0),(w.heap.size,a0,a1,a2,a3)]) (by simp));refine hK.out _ _ (Or.inr HS) (fun _ => ?_);clear hK K HS;refine aI (i:=9) (by kernel_rfl) rfl (fun K hK => ?_);go_simp;refine hK.out _ _ (Or.inl rfl) (fun _ => ?_);clear hK K;refine cG (by kernel_rfl) ?_;go_wp2_with fail
     go_meet
     exact⟨(v1.heap.size),s0,s1,s2,s3,rfl,hs,HVs,Lib.hid (HM.out.sub (by simp))⟩
   ·go_simp;have HM9:=HM;have HM':=Lib.hid (HM.out.new (w1.heap.size+1) 0 0 0 0 85 (by first|rfl|(simp; done)));have hga:w1.heap.size<(w1.heap.size+1):=by first|exact HM.out.lt (b:=w1.heap.size) (c0:=x0) (c1:=x1) (c2:=x2) (c3:=x3) (by simp)|simpa using HM.out.lt (b:=w1.heap.size) (c0:=x0) (c1:=x1) (c2:=x2) (c3:=x3) (by simp)|(have:=HM.out.lt (b:=w1.heap.size) (c0:=x0) (c1:=x1) (c2:=x2) (c3:=x3) (by simp); simp at this ⊢; omega)
    clear HM;have HM:=HM';clear HM';have HS:=(HM.out.sub (rs':=[(w1.heap.size,x0,x1,x2,x3),(w.heap.size+1,0,0,0,0),(w.heap.size,a0,a1,a2,a3)]) (by simp));refine hK.out _ _ (Or.inr HS) (fun _ => ?_);clear hK K HS;refine aI (i:=1) (by kernel_rfl) rfl (fun K hK => ?_);go_simp;refine (fC f F hf _).mono ?_
    rintro e v1 ⟨rfl,hbl⟩
    have HM':=Lib.hid (HM.out.on hbl);clear HM hbl;have HM:=HM';clear HM';have HS:=(HM.out.sub (rs':=[(w1.heap.size,x0,x1,x2,x3),(w.heap.size+1,0,0,0,0),(w.heap.size,a0,a1,a2,a3)]) (by simp));refine hK.out _ _ (Or.inr HS) (fun _ => ?_);clear hK K HS;refine aI (i:=3) (by kernel_rfl) rfl (fun K hK => ?_);go_simp;refine (dW F.m0 F.m1 F.m2 F.m3 x0 x1 x2 x3 hf.ok.okm hx _).mono ?_
    rintro e v2 ⟨s0,s1,s2,s3,cc,rfl,hs,hcc,hv,hbl⟩
    have HVs:=Lib.hid (show aB s0 s1 s2 s3=F.M-aB a0 a1 a2 a3%F.M by have:=Nat.mod_lt (aB a0 a1 a2 a3) hpos; have:=cP hs; rw[HVx.out,show aB F.m0 F.m1 F.m2 F.m3=F.M from rfl]at hv; omega);clear hv;have HM':=Lib.hid (HM.out.on hbl);clear HM hbl;have HM:=HM';clear HM';have HS:=(HM.out.sub (rs':=[(w1.heap.size,x0,x1,x2,x3),(w.heap.size+1,0,0,0,0),(w.heap.size,a0,a1,a2,a3)]) (by simp));refine hK.out _ _ (Or.inr HS) (fun _ => ?_);clear hK K HS;have HS:=HM.out.sub (rs':=[(w1.heap.size,x0,x1,x2,x3),(w.heap.size+1,0,0,0,0),(w.heap.size,a0,a1,a2,a3)]) (by simp);refine aH (i:=4) (v:=.tuple #[.agg #[.int .u64 s0,.int .u64 s1,.int .u64 s2,.int .u64 s3],.int .u64 (cc:Nat)]) rfl (by kernel_rfl) (by kernel_rfl) (by kernel_rfl) (by kernel_rfl) (fun _ _ _ h=>h) HS (Or.inl ⟨by kernel_rfl,fun wx hx => ?_⟩) ?_
    ·clear HS hx;go_simp
    simp only[Act.put,List.setIfInBounds_toArray,List.set_cons_zero,List.set_cons_succ];refine aH (i:=5) (v:=.agg #[.int .u64 s0,.int .u64 s1,.int .u64 s2,.int .u64 s3]) rfl (by kernel_rfl) (by kernel_rfl) (by kernel_rfl) (by kernel_rfl) (fun _ _ _ h=>h) HS (Or.inl ⟨by kernel_rfl,fun wx hx => ?_⟩) ?_
    ·clear HS hx;go_simp
    simp only[Act.put,List.setIfInBounds_toArray,List.set_cons_zero,List.set_cons_succ];refine aH (i:=6) (v:=.int .u64 (cc:Nat)) rfl (by kernel_rfl) (by kernel_rfl) (by kernel_rfl) (by kernel_rfl) (fun _ _ _ h=>h) HS (Or.inl ⟨by kernel_rfl,fun wx hx => ?_⟩) ?_
    ·clear HS hx;go_simp
    simp only[Act.put,List.setIfInBounds_toArray,List.set_cons_zero,List.set_cons_succ];clear HS;have kr:=HM.out.row (b:=(w1.heap.size+1)) (c0:=0) (c1:=0) (c2:=0) (c3:=0) (by simp);have yl:=HM.out.lt (b:=(w1.heap.size+1)) (c0:=0) (c1:=0) (c2:=0) (c3:=0) (by simp);have y0:=kr.c0; have y1:=kr.c1; have y2:=kr.c2; have y3:=kr.c3; have yf:=kr.fr;clear kr;refine aI (i:=8) (by kernel_rfl) rfl (fun K hK => ?_);go_simp;have HM':=Lib.hid (HM.out.put s0 s1 s2 s3 (by omega) (by intro r hr; simp at hr; rcases hr with rfl|rfl|rfl<;>simp<;>omega));clear HM;have HM:=HM';clear HM';have HS:=(HM.out.sub (rs':=[(w1.heap.size,x0,x1,x2,x3),(w.heap.size+1,0,0,0,0),(w.heap.size,a0,a1,a2,a3)]) (by simp));refine hK.out _ _ (Or.inr HS) (fun _ => ?_);clear hK K HS;refine aI (i:=9) (by kernel_rfl) rfl (fun K hK => ?_);go_simp;refine hK.out _ _ (Or.inl rfl) (fun _ => ?_);clear hK K;refine cG (by kernel_rfl) ?_;go_wp2_with fail
    go_meet
    exact⟨(w1.heap.size+1),s0,s1,s2,s3,rfl,hs,HVs,Lib.hid (HM.out.sub (by simp))⟩
  case rest =>
   obtain⟨gb,s0,s1,s2,s3,rfl,hs,HVs,HM'⟩:=hcut;clear HM;have HM:=HM';clear HM';have kr:=HM.out.row (b:=gb) (c0:=s0) (c1:=s1) (c2:=s2) (c3:=s3) (by simp);have x0:=kr.c0; have x1:=kr.c1; have x2:=kr.c2; have x3:=kr.c3;clear kr;have xl:=HM.out.lt (b:=gb) (c0:=s0) (c1:=s1) (c2:=s2) (c3:=s3) (by simp);have kr:=HM.out.row (b:=w.heap.size+1) (c0:=0) (c1:=0) (c2:=0) (c3:=0) (by simp);have y0:=kr.c0; have y1:=kr.c1; have y2:=kr.c2; have y3:=kr.c3; have yf:=kr.fr;clear kr;have yl:=HM.out.lt (b:=w.heap.size+1) (c0:=0) (c1:=0) (c2:=0) (c3:=0) (by simp);go_wp2_with fail;refine bodyPost_ret (v:=.agg #[.int .u64 s0,.int .u64 s1,.int .u64 s2,.int .u64 s3]) (by simp[results,results60,go_sem, *]) rfl ?_;refine⟨_,_,_,_,rfl,hs,by rw[HVs.out,Nat.mod_eq_of_lt (Nat.sub_lt hpos (Nat.pos_of_ne_zero HZ.out))],?_⟩;exact bI HM.out.1 (by omega) _ _ _ _
set_option maxHeartbeats 2000000 in
theorem yI (f:Int) (F:FC) (hf:FieldIs f F) (a0 a1 a2 a3 b0 b1 b2 b3:Nat) (ha:bP a0 a1 a2 a3) (hb:bP b0 b1 b2 b3) (w:World) :
  Calls prog 28 #[.int .i64 f,.agg #[.int .u64 a0,.int .u64 a1,.int .u64 a2,.int .u64 a3],.agg #[.int .u64 b0,.int .u64 b1,.int .u64 b2,.int .u64 b3]] w (dT ((aB a0 a1 a2 a3+(F.M-aB b0 b1 b2 b3%F.M))%F.M) w):=by
 go_enter func28,ntmps28
 go_wp2_with fail;have HM:=Lib.hid ((((Mem.nil w).new (w.heap.size) a0 a1 a2 a3 25 (by simp)).new (w.heap.size+1) b0 b1 b2 b3 25 (by simp)).new (w.heap.size+1+1) 0 0 0 0 25 (by simp));refine cW (fun wx=>Mem w wx [(w.heap.size+1,b0,b1,b2,b3),(w.heap.size,a0,a1,a2,a3)]) 6 (by kernel_rfl) ?_;have HM':=Lib.hid (HM.out.drewN 1);clear HM;have HM:=HM';clear HM';have HS:=HM.out.sub (rs':=[(w.heap.size+1,b0,b1,b2,b3),(w.heap.size,a0,a1,a2,a3)]) (by simp);refine aH (i:=0) (v:=.int .i64 f) rfl (by kernel_rfl) (by kernel_rfl) (by kernel_rfl) (by kernel_rfl) (fun _ _ _ h=>h) HS (Or.inl ⟨by kernel_rfl,fun wx hx => ?_⟩) ?_
 ·clear HS hx;go_simp
 simp only[Act.put,List.setIfInBounds_toArray,List.set_cons_zero,List.set_cons_succ];refine aH (i:=1) (v:=.agg #[.int .u64 a0,.int .u64 a1,.int .u64 a2,.int .u64 a3]) rfl (by kernel_rfl) (by kernel_rfl) (by kernel_rfl) (by kernel_rfl) (fun _ _ _ h=>h) HS (Or.inl ⟨by kernel_rfl,fun wx hx => ?_⟩) ?_
 ·have kr:=hx.row (b:=w.heap.size) (c0:=a0) (c1:=a1) (c2:=a2) (c3:=a3) (by simp);have x0:=kr.c0; have x1:=kr.c1; have x2:=kr.c2; have x3:=kr.c3;clear kr HS hx;go_simp
 simp only[Act.put,List.setIfInBounds_toArray,List.set_cons_zero,List.set_cons_succ];refine aH (i:=2) (v:=.int .i64 f) rfl (by kernel_rfl) (by kernel_rfl) (by kernel_rfl) (by kernel_rfl) (fun _ _ _ h=>h) HS (Or.inl ⟨by kernel_rfl,fun wx hx => ?_⟩) ?_
 ·clear HS hx;go_simp
 simp only[Act.put,List.setIfInBounds_toArray,List.set_cons_zero,List.set_cons_succ];refine aH (i:=3) (v:=.agg #[.int .u64 b0,.int .u64 b1,.int .u64 b2,.int .u64 b3]) rfl (by kernel_rfl) (by kernel_rfl) (by kernel_rfl) (by kernel_rfl) (fun _ _ _ h=>h) HS (Or.inl ⟨by kernel_rfl,fun wx hx => ?_⟩) ?_
 ·have kr:=hx.row (b:=w.heap.size+1) (c0:=b0) (c1:=b1) (c2:=b2) (c3:=b3) (by simp);have x0:=kr.c0; have x1:=kr.c1; have x2:=kr.c2; have x3:=kr.c3;clear kr HS hx;go_simp
 simp only[Act.put,List.setIfInBounds_toArray,List.set_cons_zero,List.set_cons_succ];clear HS;refine aI (i:=4) (by kernel_rfl) rfl (fun K hK => ?_);go_simp;refine (oS f F hf b0 b1 b2 b3 hb _).mono ?_
 rintro e w1 ⟨n0,n1,n2,n3,rfl,hn,hv,hbl⟩
 have HVn:=Lib.hid hv;clear hv;have HM':=Lib.hid (HM.out.on hbl);clear HM hbl;have HM:=HM';clear HM';have HS:=HM.out.sub (rs':=[(w.heap.size+1,b0,b1,b2,b3),(w.heap.size,a0,a1,a2,a3)]) (by simp);refine hK.out _ _ (Or.inr HS) (fun _ => ?_);clear hK K;clear HS;refine aI (i:=5) (by kernel_rfl) rfl (fun K hK => ?_);go_simp;refine (oV f F hf a0 a1 a2 a3 n0 n1 n2 n3 ha hn _).mono ?_
 rintro e w2 ⟨s0,s1,s2,s3,rfl,hs,hv,hbl⟩
 have HVs:=Lib.hid (show aB s0 s1 s2 s3=(aB a0 a1 a2 a3+(F.M-aB b0 b1 b2 b3%F.M))%F.M by rw[hv,HVn.out,Nat.add_mod_mod]);clear hv;have HM':=Lib.hid (HM.out.on hbl);clear HM hbl;have HM:=HM';clear HM';have HS:=HM.out.sub (rs':=[(w.heap.size+1,b0,b1,b2,b3),(w.heap.size,a0,a1,a2,a3)]) (by simp);refine hK.out _ _ (Or.inr HS) (fun _ => ?_);clear hK K;clear HS;have kr:=HM.out.row (b:=w.heap.size+1+1) (c0:=0) (c1:=0) (c2:=0) (c3:=0) (by simp);have y0:=kr.c0; have y1:=kr.c1; have y2:=kr.c2; have y3:=kr.c3; have yf:=kr.fr;clear kr;have yl:=HM.out.lt (b:=w.heap.size+1+1) (c0:=0) (c1:=0) (c2:=0) (c3:=0) (by simp);refine aI (i:=6) (by kernel_rfl) rfl (fun K hK => ?_);go_simp;have HM':=Lib.hid ((HM.out.sub (rs':=[(w.heap.size+1+1,0,0,0,0),(w.heap.size+1,b0,b1,b2,b3),(w.heap.size,a0,a1,a2,a3)]) (by simp)).put s0 s1 s2 s3 (by omega) (by intro r hr; simp at hr; rcases hr with rfl|rfl<;>simp<;>omega));clear HM;have HM:=HM';clear HM';refine hK.out _ _ (Or.inl rfl) (fun _ => ?_);clear hK K;refine cG (by kernel_rfl) ?_;go_wp2_with fail;refine bodyPost_ret (v:=.agg #[.int .u64 s0,.int .u64 s1,.int .u64 s2,.int .u64 s3]) (by simp[results,results28,go_sem, *]) rfl ?_;exact⟨_,_,_,_,rfl,hs,HVs.out,HM.out.1⟩
theorem IL {F:FC} (hF:F.Ok) (A B:Nat):A%F.M*(B%F.M)*F.Ri%F.M*aB F.s0 F.s1 F.s2 F.s3*F.Ri%F.M=A*B%F.M:=by
 rw[BF hF];unfold kp;have h:A%F.M*(B%F.M)*F.Ri%F.M*F.R%F.M=A*B*F.R*F.Ri%F.M:=by
  have e:A%F.M*(B%F.M)*F.Ri%F.M*F.R%F.M=A*B*F.Ri*F.R%F.M:=gP ((jV _ _).trans (gP (gP (jV _ _) (jV _ _)) rfl)) rfl;rw[e,Nat.mul_right_comm]
 rw[h,gX hF]
set_option maxHeartbeats 2000000 in
theorem kS (f:Int) (F:FC) (hf:FieldIs f F) (a0 a1 a2 a3 b0 b1 b2 b3:Nat) (ha:bP a0 a1 a2 a3) (hb:bP b0 b1 b2 b3) (w:World) :
  Calls prog 30 #[.int .i64 f,.agg #[.int .u64 a0,.int .u64 a1,.int .u64 a2,.int .u64 a3],.agg #[.int .u64 b0,.int .u64 b1,.int .u64 b2,.int .u64 b3]] w (dT (aB a0 a1 a2 a3*aB b0 b1 b2 b3%F.M) w):=by
 have hpos:=hf.ok.pos
 go_enter func30,ntmps30
 go_wp2_with fail;have HM:=Lib.hid ((((Mem.nil w).new (w.heap.size) a0 a1 a2 a3 25 (by simp)).new (w.heap.size+1) b0 b1 b2 b3 25 (by simp)).new (w.heap.size+1+1) 0 0 0 0 25 (by simp));refine cW (fun wx=>Mem w wx [(w.heap.size+1,b0,b1,b2,b3),(w.heap.size,a0,a1,a2,a3)]) 12 (by kernel_rfl) ?_;have HM':=Lib.hid (HM.out.drewN 1);clear HM;have HM:=HM';clear HM';have HS:=HM.out.sub (rs':=[(w.heap.size+1,b0,b1,b2,b3),(w.heap.size,a0,a1,a2,a3)]) (by simp);refine aH (i:=0) (v:=.int .i64 f) rfl (by kernel_rfl) (by kernel_rfl) (by kernel_rfl) (by kernel_rfl) (fun _ _ _ h=>h) HS (Or.inl ⟨by kernel_rfl,fun wx hx => ?_⟩) ?_
 ·clear HS hx;go_simp
 simp only[Act.put,List.setIfInBounds_toArray,List.set_cons_zero,List.set_cons_succ];refine aH (i:=1) (v:=.int .i64 f) rfl (by kernel_rfl) (by kernel_rfl) (by kernel_rfl) (by kernel_rfl) (fun _ _ _ h=>h) HS (Or.inl ⟨by kernel_rfl,fun wx hx => ?_⟩) ?_
 ·clear HS hx;go_simp
 simp only[Act.put,List.setIfInBounds_toArray,List.set_cons_zero,List.set_cons_succ];refine aH (i:=2) (v:=.int .i64 f) rfl (by kernel_rfl) (by kernel_rfl) (by kernel_rfl) (by kernel_rfl) (fun _ _ _ h=>h) HS (Or.inl ⟨by kernel_rfl,fun wx hx => ?_⟩) ?_
 ·clear HS hx;go_simp
 simp only[Act.put,List.setIfInBounds_toArray,List.set_cons_zero,List.set_cons_succ];refine aH (i:=3) (v:=.agg #[.int .u64 a0,.int .u64 a1,.int .u64 a2,.int .u64 a3]) rfl (by kernel_rfl) (by kernel_rfl) (by kernel_rfl) (by kernel_rfl) (fun _ _ _ h=>h) HS (Or.inl ⟨by kernel_rfl,fun wx hx => ?_⟩) ?_
 ·have kr:=hx.row (b:=w.heap.size) (c0:=a0) (c1:=a1) (c2:=a2) (c3:=a3) (by simp);have x0:=kr.c0; have x1:=kr.c1; have x2:=kr.c2; have x3:=kr.c3;clear kr HS hx;go_simp
 simp only[Act.put,List.setIfInBounds_toArray,List.set_cons_zero,List.set_cons_succ];refine aH (i:=5) (v:=.int .i64 f) rfl (by kernel_rfl) (by kernel_rfl) (by kernel_rfl) (by kernel_rfl) (fun _ _ _ h=>h) HS (Or.inl ⟨by kernel_rfl,fun wx hx => ?_⟩) ?_
 ·clear HS hx;go_simp
 simp only[Act.put,List.setIfInBounds_toArray,List.set_cons_zero,List.set_cons_succ];refine aH (i:=6) (v:=.agg #[.int .u64 b0,.int .u64 b1,.int .u64 b2,.int .u64 b3]) rfl (by kernel_rfl) (by kernel_rfl) (by kernel_rfl) (by kernel_rfl) (fun _ _ _ h=>h) HS (Or.inl ⟨by kernel_rfl,fun wx hx => ?_⟩) ?_
 ·have kr:=hx.row (b:=w.heap.size+1) (c0:=b0) (c1:=b1) (c2:=b2) (c3:=b3) (by simp);have x0:=kr.c0; have x1:=kr.c1; have x2:=kr.c2; have x3:=kr.c3;clear kr HS hx;go_simp
 simp only[Act.put,List.setIfInBounds_toArray,List.set_cons_zero,List.set_cons_succ];refine aH (i:=9) (v:=.int .i64 f) rfl (by kernel_rfl) (by kernel_rfl) (by kernel_rfl) (by kernel_rfl) (fun _ _ _ h=>h) HS (Or.inl ⟨by kernel_rfl,fun wx hx => ?_⟩) ?_
 ·clear HS hx;go_simp
 simp only[Act.put,List.setIfInBounds_toArray,List.set_cons_zero,List.set_cons_succ];clear HS;refine aI (i:=4) (by kernel_rfl) rfl (fun K hK => ?_);go_simp;refine (cO f F hf a0 a1 a2 a3 ha _).mono ?_
 rintro e w1 ⟨x0,x1,x2,x3,rfl,hx,hv,hbl⟩
 have HVx:=Lib.hid hv;clear hv;have HM':=Lib.hid (HM.out.on hbl);clear HM hbl;have HM:=HM';clear HM';have HS:=HM.out.sub (rs':=[(w.heap.size+1,b0,b1,b2,b3),(w.heap.size,a0,a1,a2,a3)]) (by simp);refine hK.out _ _ (Or.inr HS) (fun _ => ?_);clear hK K;clear HS;refine aI (i:=7) (by kernel_rfl) rfl (fun K hK => ?_);go_simp;refine (cO f F hf b0 b1 b2 b3 hb _).mono ?_
 rintro e w2 ⟨y0,y1,y2,y3,rfl,hy,hv,hbl⟩
 have HVy:=Lib.hid hv;clear hv;have HM':=Lib.hid (HM.out.on hbl);clear HM hbl;have HM:=HM';clear HM';have HS:=HM.out.sub (rs':=[(w.heap.size+1,b0,b1,b2,b3),(w.heap.size,a0,a1,a2,a3)]) (by simp);refine hK.out _ _ (Or.inr HS) (fun _ => ?_);clear hK K;clear HS;refine aI (i:=8) (by kernel_rfl) rfl (fun K hK => ?_);go_simp;refine (pB f F hf x0 x1 x2 x3 y0 y1 y2 y3 hx hy (by rw[HVx.out]; exact Nat.mod_lt _ hpos) _).mono ?_
 rintro e w3 ⟨z0,z1,z2,z3,rfl,hz,hv,hbl⟩
 have HVz:=Lib.hid hv;clear hv;have HM':=Lib.hid (HM.out.on hbl);clear HM hbl;have HM:=HM';clear HM';have HS:=HM.out.sub (rs':=[(w.heap.size+1,b0,b1,b2,b3),(w.heap.size,a0,a1,a2,a3)]) (by simp);refine hK.out _ _ (Or.inr HS) (fun _ => ?_);clear hK K;clear HS;refine aI (i:=10) (by kernel_rfl) rfl (fun K hK => ?_);go_simp;refine (sG f F hf _).mono ?_
 rintro e w4 ⟨rfl,hbl⟩
 have HM':=Lib.hid (HM.out.on hbl);clear HM hbl;have HM:=HM';clear HM';have HS:=HM.out.sub (rs':=[(w.heap.size+1,b0,b1,b2,b3),(w.heap.size,a0,a1,a2,a3)]) (by simp);refine hK.out _ _ (Or.inr HS) (fun _ => ?_);clear hK K;clear HS;refine aI (i:=11) (by kernel_rfl) rfl (fun K hK => ?_);go_simp;refine (pB f F hf z0 z1 z2 z3 F.s0 F.s1 F.s2 F.s3 hz hf.ok.oks (by rw[HVz.out]; exact Nat.mod_lt _ hpos) _).mono ?_
 rintro e w5 ⟨s0,s1,s2,s3,rfl,hs,hv,hbl⟩
 have HVs:=Lib.hid (show aB s0 s1 s2 s3=aB a0 a1 a2 a3*aB b0 b1 b2 b3%F.M by rw[hv,HVz.out,HVx.out,HVy.out]; exact IL hf.ok _ _);clear hv;have HM':=Lib.hid (HM.out.on hbl);clear HM hbl;have HM:=HM';clear HM';have HS:=HM.out.sub (rs':=[(w.heap.size+1,b0,b1,b2,b3),(w.heap.size,a0,a1,a2,a3)]) (by simp);refine hK.out _ _ (Or.inr HS) (fun _ => ?_);clear hK K;clear HS;have kr:=HM.out.row (b:=w.heap.size+1+1) (c0:=0) (c1:=0) (c2:=0) (c3:=0) (by simp);have y0:=kr.c0; have y1:=kr.c1; have y2:=kr.c2; have y3:=kr.c3; have yf:=kr.fr;clear kr;have yl:=HM.out.lt (b:=w.heap.size+1+1) (c0:=0) (c1:=0) (c2:=0) (c3:=0) (by simp);refine aI (i:=12) (by kernel_rfl) rfl (fun K hK => ?_);go_simp;have HM':=Lib.hid ((HM.out.sub (rs':=[(w.heap.size+1+1,0,0,0,0),(w.heap.size+1,b0,b1,b2,b3),(w.heap.size,a0,a1,a2,a3)]) (by simp)).put s0 s1 s2 s3 (by omega) (by intro r hr; simp at hr; rcases hr with rfl|rfl<;>simp<;>omega));clear HM;have HM:=HM';clear HM';refine hK.out _ _ (Or.inl rfl) (fun _ => ?_);clear hK K;refine cG (by kernel_rfl) ?_;go_wp2_with fail;refine bodyPost_ret (v:=.agg #[.int .u64 s0,.int .u64 s1,.int .u64 s2,.int .u64 s3]) (by simp[results,results30,go_sem, *]) rfl ?_;exact⟨_,_,_,_,rfl,hs,HVs.out,HM.out.1⟩
theorem LR (A M:Nat):decide (cI A M<0)=vX A M:=by
 unfold vX cI
 by_cases q:A=M
 ·rw[if_pos q,decide_eq_false (by omega),decide_eq_false (by omega)]
 ·rw[if_neg q]
  by_cases h:A<M
  ·rw[if_pos h,decide_eq_true (by omega),decide_eq_true (by omega)]
  ·rw[if_neg h,decide_eq_false (by omega),decide_eq_false (by omega)]
set_option maxHeartbeats 2000000 in
theorem sN (f:Int) (F:FC) (hf:FieldIs f F) (a0 a1 a2 a3:Nat) (ha:bP a0 a1 a2 a3) (w:World) :
  Calls prog 31 #[.int .i64 f,.agg #[.int .u64 a0,.int .u64 a1,.int .u64 a2,.int .u64 a3]] w (fun e w'=>e=.returned (.bool (vX (aB a0 a1 a2 a3) F.M))∧Below w.heap.size w w'):=by
 go_enter func31,ntmps31
 go_wp2_with fail;have HM:=Lib.hid ((Mem.nil w).new (w.heap.size) a0 a1 a2 a3 25 (by simp));refine cW (fun wx=>Mem w wx [(w.heap.size,a0,a1,a2,a3)]) 5 (by kernel_rfl) ?_;have HM':=Lib.hid (HM.out.drewN 1);clear HM;have HM:=HM';clear HM';have HS:=HM.out.sub (rs':=[(w.heap.size,a0,a1,a2,a3)]) (by simp);refine aH (i:=0) (v:=.agg #[.int .u64 a0,.int .u64 a1,.int .u64 a2,.int .u64 a3]) rfl (by kernel_rfl) (by kernel_rfl) (by kernel_rfl) (by kernel_rfl) (fun _ _ _ h=>h) HS (Or.inl ⟨by kernel_rfl,fun wx hx => ?_⟩) ?_
 ·have kr:=hx.row (b:=w.heap.size) (c0:=a0) (c1:=a1) (c2:=a2) (c3:=a3) (by simp);have x0:=kr.c0; have x1:=kr.c1; have x2:=kr.c2; have x3:=kr.c3;clear kr HS hx;go_simp
 simp only[Act.put,List.setIfInBounds_toArray,List.set_cons_zero,List.set_cons_succ];refine aH (i:=1) (v:=.int .i64 f) rfl (by kernel_rfl) (by kernel_rfl) (by kernel_rfl) (by kernel_rfl) (fun _ _ _ h=>h) HS (Or.inl ⟨by kernel_rfl,fun wx hx => ?_⟩) ?_
 ·clear HS hx;go_simp
 simp only[Act.put,List.setIfInBounds_toArray,List.set_cons_zero,List.set_cons_succ];clear HS;refine aI (i:=2) (by kernel_rfl) rfl (fun K hK => ?_);go_simp;refine (fC f F hf _).mono ?_
 rintro e w1 ⟨rfl,hbl⟩
 have HM':=Lib.hid (HM.out.on hbl);clear HM hbl;have HM:=HM';clear HM';have HS:=HM.out.sub (rs':=[(w.heap.size,a0,a1,a2,a3)]) (by simp);refine hK.out _ _ (Or.inr HS) (fun _ => ?_);clear hK K;clear HS;refine aI (i:=3) (by kernel_rfl) rfl (fun K hK => ?_);go_simp;refine (lO a0 a1 a2 a3 F.m0 F.m1 F.m2 F.m3 ha hf.ok.okm _).mono ?_
 rintro e w2 ⟨he,hbl⟩
 have HC:=Lib.hid (LR (aB a0 a1 a2 a3) (aB F.m0 F.m1 F.m2 F.m3));generalize cI (aB a0 a1 a2 a3) (aB F.m0 F.m1 F.m2 F.m3)=cc at *;subst he;have HM':=Lib.hid (HM.out.on hbl);clear HM hbl;have HM:=HM';clear HM';have HS:=HM.out.sub (rs':=[(w.heap.size,a0,a1,a2,a3)]) (by simp);refine hK.out _ _ (Or.inr HS) (fun _ => ?_);clear hK K;refine aH (i:=4) (v:=.bool (decide (cc<0))) rfl (by kernel_rfl) (by kernel_rfl) (by kernel_rfl) (by kernel_rfl) (fun _ _ _ h=>h) HS (Or.inl ⟨by kernel_rfl,fun wx hx => ?_⟩) ?_
 ·clear HS hx;go_simp
 simp only[Act.put,List.setIfInBounds_toArray,List.set_cons_zero,List.set_cons_succ];clear HS;refine aI (i:=5) (by kernel_rfl) rfl (fun K hK => ?_);go_simp;refine hK.out _ _ (Or.inl rfl) (fun _ => ?_);clear hK K;refine cG (by kernel_rfl) ?_;go_wp2_with fail;go_ret;exact⟨uU HC.out,HM.out.1⟩
end Go.Proofs.Ytiginhbnaloghaa
namespace Go.Proofs.Ytiginhbnaloghaa.Ex
open Go.Proofs.Try
open Go.RowKit
def LW (w:World) (v:Value) (N:Nat) (f:Nat→Nat):Prop:=∃p m,v=.slice p N m∧(∀j,j<N→f j<bJ)∧(0<N→∃b o,p=some ⟨b,o,none⟩∧b<w.heap.size∧w.rangeAt b o (aC (aS (el f) 0 N)))
theorem UN {x y:Nat} (hx:x<bJ) (hy:y<bJ):aC [At.q x]=aC [At.q y]↔x=y:=by
 constructor
 ·intro h;have h2:w4 x=w4 y:=by
   have h3:w4 x++[]=w4 y++[]:=h;simpa using h3
  unfold w4 at h2;simp only[List.cons.injEq,Value.int.injEq,true_and,and_true]at h2;obtain⟨e0,e1,e2,e3⟩:=h2;have h3:=eU hx;have h4:=eU hy;have c0:fw x 0=fw y 0:=by omega
  have c1:fw x 1=fw y 1:=by omega
  have c2:fw x 2=fw y 2:=by omega
  have c3:fw x 3=fw y 3:=by omega
  rw[c0,c1,c2,c3,h4]at h3;exact h3.symm
 ·rintro rfl
  rfl
def jW (N:Nat) (f:Nat→Nat) (M:Nat) (g:Nat→Nat):Prop:=N=M∧∀j,j<N→f j=g j
instance (N:Nat) (f:Nat→Nat) (M:Nat) (g:Nat→Nat):Decidable (jW N f M g):=@instDecidableAnd _ _ _ (Nat.decidableBallLT N fun j _=>f j=g j)
def xE (v u:Value) (i:Nat):List Fact:=[.slot 0 (.im v),.slot 1 (.im u),.slot 5 (.im (iI i))]
def fB:Code:=(f13.body).getD .skip
def mG:Code:=fW (fW (cB (cA (cB (cB fB)))))
theorem NM:fB=.seq (cA fB) (.seq (cA (cB fB)) (.seq (.seq (cA (cA (cB (cB fB)))) (.block 0 (.loop mG))) (cB (cB (cB fB))))):=by kernel_rfl
theorem Cd (v u:Value):aK prog (qG prog) f13.ntmps (bU fun _=>none) 40 (cA fB) (eK 0 [.v (.im v),.v (.im u)]) [.slot 0 (.im v),.slot 1 (.im u)]=some ([],.nrm,[.slot 0 (.im v),.slot 1 (.im u)]):=by kernel_rfl
theorem Jo (p q:Option Addr) (N m M m':Nat):aK prog (qG prog) f13.ntmps (bU (aE [(10,.bool true)])) 40 (cA (cB fB)) [.slot 0 (.im (.slice p N m)),.slot 1 (.im (.slice q M m'))] [.slot 4 (.im (.bool false))]=some ([aF .neq .i64 (Int.ofNat N) (Int.ofNat M)=some (.bool true)],.rt,[.slot 4 (.im (.bool false))]):=by kernel_rfl
theorem Jp (p q:Option Addr) (N m M m':Nat):aK prog (qG prog) f13.ntmps (bU (aE [(10,.bool false)])) 40 (cA (cB fB)) [.slot 0 (.im (.slice p N m)),.slot 1 (.im (.slice q M m'))] [.slot 0 (.im (.slice p N m)),.slot 1 (.im (.slice q M m'))]=some ([aF .neq .i64 (Int.ofNat N) (Int.ofNat M)=some (.bool false)],.nrm,[.slot 0 (.im (.slice p N m)),.slot 1 (.im (.slice q M m'))]):=by kernel_rfl
theorem Cc (v u:Value):aK prog (qG prog) f13.ntmps (bU fun _=>none) 40 (cA (cA (cB (cB fB)))) [.slot 0 (.im v),.slot 1 (.im u)] (xE v u 0)=some ([],.nrm,xE v u 0):=by kernel_rfl
theorem Ce (w:World) (b o m b' o' m' N i x y:Nat):aK prog { qG prog with x:=xO w (aE [(19,i),(23,i)]) (aE [(20,[.q x]),(24,[.q y])]) (fun _=>none) } f13.ntmps (TP true (aE [(14,.bool true),(16,iI (i+1))])) 40 mG (xE (aV b o N m) (aV b' o' N m') i) (xE (aV b o N m) (aV b' o' N m') (i+1))=some ([aF .lss .i64 (Int.ofNat i) (Int.ofNat N)=some (.bool true),Int.ofNat i=Int.ofNat i,i<N,oldOf w b (o+i*4) [.q x],cN [.q x]=4,Int.ofNat i=Int.ofNat i,i<N,oldOf w b' (o'+i*4) [.q y],cN [.q y]=4,aC [.q x]=aC [.q y],aF .add .i64 (Int.ofNat i) 1=some (iI (i+1))],.nrm,xE (aV b o N m) (aV b' o' N m') (i+1)):=by kernel_rfl
theorem Cf (w:World) (b o m b' o' m' N i x y:Nat):aK prog { qG prog with x:=xO w (aE [(19,i),(23,i)]) (aE [(20,[.q x]),(24,[.q y])]) (fun _=>none) } f13.ntmps (TP false (aE [(14,.bool true)])) 40 mG (xE (aV b o N m) (aV b' o' N m') i) [.slot 4 (.im (.bool false))]=some ([aF .lss .i64 (Int.ofNat i) (Int.ofNat N)=some (.bool true),Int.ofNat i=Int.ofNat i,i<N,oldOf w b (o+i*4) [.q x],cN [.q x]=4,Int.ofNat i=Int.ofNat i,i<N,oldOf w b' (o'+i*4) [.q y],cN [.q y]=4,aC [.q x]≠aC [.q y]],.rt,[.slot 4 (.im (.bool false))]):=by kernel_rfl
theorem VF (p q:Option Addr) (N m M m' i:Nat):aK prog (qG prog) f13.ntmps (bU (aE [(14,.bool false)])) 40 mG (xE (.slice p N m) (.slice q M m') i) (xE (.slice p N m) (.slice q M m') i)=some ([aF .lss .i64 (Int.ofNat i) (Int.ofNat N)=some (.bool false)],.ex 0,xE (.slice p N m) (.slice q M m') i):=by kernel_rfl
theorem NL (v u:Value) (i:Nat):aK prog (qG prog) f13.ntmps (bU fun _=>none) 40 (cB (cB (cB fB))) (xE v u i) [.slot 4 (.im (.bool true))]=some ([],.rt,[.slot 4 (.im (.bool true))]):=by kernel_rfl
theorem uA {w0:World} {v u:Value} {N M:Nat} {f g:Nat→Nat} (hv:LW w0 v N f) (hu:LW w0 u M g) (hN:N≤4611686018427387904):bC prog 13 (.one (.im (.bool (decide (jW N f M g))))) [v,u] w0:=by
 have hG:bF prog (qG prog) w0.heap.size w0:=(bD _).w _ _;have hT:∀n d:Nat,TabOkW prog dN w0.heap.size w0:=fun _ _=>aY.w _ _
 obtain⟨p,m,rfl,h256,hmem⟩:=hv;obtain⟨q,m',rfl,h256',hmem'⟩:=hu;refine bO func13 (cs:=[.v (.im (.slice p N m)),.v (.im (.slice q M m'))]) (args:=[.slice p N m,.slice q M m']) (c:=fB) rfl ⟨rfl,rfl,trivial⟩ (Nat.le_of_ble_eq_true (by kernel_rfl)) fun a w1 hA => ?_
 rw[NM];refine wp_seq (aA aJ hT hG (Cd _ _) trivial hA fun a w1 hA => ?_);have bad:∀{a w},Holds f13.ntmps w0.heap.size w0 [.slot 4 (.im (.bool false))] a w→bodyPost prog f13 (fun e w'=>e=.returned (RV.den (.one (.im (.bool false))))∧Below w0.heap.size w0 w') .ret a w:=fun hA=>bE (l:=[.im (.bool false)]) (r:=.one (.im (.bool false))) (by kernel_rfl) (by kernel_rfl) hA
 by_cases hl:N=M
 ·subst hl;refine wp_seq (aA aJ hT hG (Jp p q N m N m') ⟨by rw[TN,decide_eq_false (by simp)],trivial⟩ hA fun a w1 hA => ?_);refine wp_seq (wp_seq (aA aJ hT hG (Cc _ _) trivial hA fun a w1 hA => ?_));refine wp_block ?_;have step:∀i,i<N→f i=g i→Ok prog w0.heap.size w0 f13.ntmps mG (xE (.slice p N m) (.slice q N m') i) .nrm (xE (.slice p N m) (.slice q N m') (i+1)):=fun i hi he=>by
   obtain⟨b,o,rfl,hb,hr⟩:=hmem (by omega);obtain⟨b',o',rfl,hb',hr'⟩:=hmem' (by omega);exact⟨_,_,_,_,dH w0 _ _ _,fun _ _=>aY.w _ _,Ce w0 b o m b' o' m' N i (f i) (g i),bR hi,rfl,hi,dL hb hr hi,rfl,rfl,hi,dL hb' hr' hi,rfl,by rw[he],eT (k:=1) (by omega),trivial⟩
  by_cases h:∀j,j<N→f j=g j
  ·rw[decide_eq_true (show jW N f N g from⟨rfl,h⟩)];refine cC aJ (fun i=>xE (.slice p N m) (.slice q N m') i) N (fun i hi=>step i hi (h i hi)) (.ex 0) (by simp) (xE (.slice p N m) (.slice q N m') N) ⟨_,_,_,_,hG,hT,VF p q N m N m' N,dM (Nat.le_refl _),trivial⟩ hA fun a w hA => ?_
   show (cB (cB (cB fB))).wp _ _ _ _;exact aA aJ hT hG (NL _ _ N) trivial hA fun a w' hA=>bE (l:=[.im (.bool true)]) (r:=.one (.im (.bool true))) (by kernel_rfl) (by kernel_rfl) hA
  ·rw[decide_eq_false (show ¬jW N f N g from fun q=>h q.2)];obtain⟨j,hj,h1,h2⟩:=dZ (p:=fun j=>f j=g j) h;have hbad:Ok prog w0.heap.size w0 f13.ntmps mG (xE (.slice p N m) (.slice q N m') j) .rt [.slot 4 (.im (.bool false))]:=by
    obtain⟨b,o,rfl,hb,hr⟩:=hmem (by omega);obtain⟨b',o',rfl,hb',hr'⟩:=hmem' (by omega);exact⟨_,_,_,_,dH w0 _ _ _,fun _ _=>aY.w _ _,Cf w0 b o m b' o' m' N j (f j) (g j),bR hj,rfl,hj,dL hb hr hj,rfl,rfl,hj,dL hb' hr' hj,rfl,fun e=>h2 ((UN (h256 j hj) (h256' j hj)).1 e),trivial⟩
   exact cC aJ (fun i=>xE (.slice p N m) (.slice q N m') i) j (fun i hi=>step i (by omega) (h1 i hi)) .rt (by simp) [.slot 4 (.im (.bool false))] hbad hA fun a w hA=>bad hA
 ·rw[decide_eq_false (show ¬jW N f M g from fun q=>hl q.1)];exact wp_seq (aA aJ hT hG (Jo p q N m M m') ⟨by rw[TN,decide_eq_true hl],trivial⟩ hA fun a w1 hA=>bad hA)
def EV (N:Nat) (f:Nat→Nat):CA→Option (List Prop)
 | .s l n _=>some [aC l=aC (aS (el f) 0 N),n=N,∀j,j<N→f j<bJ]
 | .so l n=>some [aC l=aC (aS (el f) 0 N),n=N,∀j,j<N→f j<bJ]
 | .v (.im (.slice none 0 0))=>some [N=0]
 | _=>none
theorem CG {w:World} {N:Nat} {f:Nat→Nat} {c:CA} {v:Value} {p:List Prop} (hc:CA.ok w c v) (h:EV N f c=some p) (hp:aQ p):LW w v N f:=by
 unfold EV at h;split at h
 ·cases h;obtain⟨b,o,rfl,hb,hr⟩:=hc;obtain⟨e1,rfl,e3,_⟩:=hp;rw[e1]at hr;exact⟨_,_,rfl,e3,fun _=>⟨b,o,rfl,hb,hr⟩⟩
 ·cases h;obtain⟨b,o,m,rfl,hb,hr⟩:=hc;obtain⟨e1,rfl,e3,_⟩:=hp;rw[e1]at hr;exact⟨_,_,rfl,e3,fun _=>⟨b,o,rfl,hb,hr⟩⟩
 ·cases h;obtain⟨rfl,_⟩:=hp;have hc:v=.slice none 0 0:=hc;exact⟨none,0,hc,fun j h=>by omega,fun h=>by omega⟩
 ·cases h
def Kl (N:Nat) (f:Nat→Nat) (M:Nat) (g:Nat→Nat):jB
 | [c,d]=>match EV N f c,EV M g d with
  | some p,some q=>some (p++(q++[N≤4611686018427387904]),.one (.im (.bool (decide (jW N f M g)))))
  | _,_=>none
 | _=>none
theorem XW {N M:Nat} {f g:Nat→Nat}:∀cs pre r,Kl N f M g cs=some (pre,r)→aQ pre→∀(args:List Value) (w:World),cQ w cs args→bC prog 13 r args w:=by
 intro cs pre r hg hp args w ha;unfold Kl at hg;split at hg
 ·rename_i c d;split at hg
  ·rename_i p q hc hd;cases hg;rw[bM,bM]at hp
   match args,ha with
   | [u,v],ha =>
    obtain⟨h1,h2⟩:CA.ok w c u∧cQ w [d] [v]:=by cases c<;>exact ha
    have h3:CA.ok w d v:=by cases d<;>exact h2.1
    exact uA (CG h1 hc hp.1) (CG h3 hd hp.2.1) hp.2.2.1
   | [],ha=>cases c<;>exact ha.elim
   | [_],ha =>
    obtain⟨h1,h2⟩:CA.ok w c _∧cQ w [d] []:=by cases c<;>exact ha
    cases d<;>exact h2.elim
   | _::b::c'::r',ha =>
    obtain⟨h1,h2⟩:CA.ok w c _∧cQ w [d] (b::c'::r'):=by cases c<;>exact ha
    have h3:cQ w [] (c'::r'):=by cases d<;>exact h2.2
    exact h3.elim
  ·cases hg
 ·cases hg
end Go.Proofs.Ytiginhbnaloghaa.Ex
namespace Go.Proofs.Ytiginhbnaloghaa
open Go.Proofs.Try
open Go.RowKit
set_option maxRecDepth 20000 in
set_option maxHeartbeats 1000000 in
theorem qV (n:Nat) (w:World):Calls prog 49 #[.int .u64 n] w fun e w'=>e=.returned (.agg #[.int .u64 n,.int .u64 0,.int .u64 0,.int .u64 0])∧Below w.heap.size w w':=by
 go_enter func49,ntmps49
 go_wp2_with fail;refine bodyPost_ret (v:=.agg #[.int .u64 n,.int .u64 0,.int .u64 0,.int .u64 0]) (by simp[results,results49,go_sem]) rfl ?_;refine⟨rfl,?_⟩
 repeat (first|exact Below.refl _ _|refine Below.drew ?_|refine Below.alloc ?_ (by first|(simp; done)|(simp; omega)) _|refine Below.setCell ?_ (by simp) _)
set_option maxRecDepth 20000 in
set_option maxHeartbeats 1000000 in
theorem yO (a0 a1 a2 a3 i:Nat) (ha:bP a0 a1 a2 a3) (hi:i<256) (w:World) :
  Calls prog 85 #[.agg #[.int .u64 a0,.int .u64 a1,.int .u64 a2,.int .u64 a3],.int .i64 i] w (fun e w'=>e=.returned (.bool (decide (gE (aB a0 a1 a2 a3) i=1)))∧Below w.heap.size w w'):=by
 obtain⟨j,k,q,r,hj,hk,e⟩:=UB hi;have hc:=vO w 85 a0 a1 a2 a3 j hj;have hx:=zM ha j;obtain⟨s,e1,e2,hs⟩:=KX hx (LQ ha hj hk e.out);have hb:=lZ (aB a0 a1 a2 a3) i;generalize gE (aB a0 a1 a2 a3) i=b at *;generalize dR [a0,a1,a2,a3] j=x at *;have hb':b≤1:=by omega
 clear e
 go_enter func85,ntmps85
 rcases hb with rfl|rfl
 ·go_wp2_with fail;go_ret;exact⟨rfl,(Below.refl _ _).alloc (Nat.le_refl _) _⟩
 ·go_wp2_with fail;go_ret;exact⟨rfl,(Below.refl _ _).alloc (Nat.le_refl _) _⟩
theorem Co {M A N i:Nat} (hb:gE N i=0):A^(N/2^(i+1))%M*(A^(N/2^(i+1))%M)%M=A^(N/2^i)%M:=by
 rw[←Nat.mul_mod,←Nat.pow_add,pZ N i,hb];congr 2;omega
theorem Cn {M A N i:Nat} (hb:gE N i=1):A^(N/2^(i+1))%M*(A^(N/2^(i+1))%M)%M*A%M=A^(N/2^i)%M:=by
 rw[←Nat.mul_mod,←Nat.pow_add,pZ N i,hb,Nat.mod_mul_mod,←Nat.pow_succ];congr 2;omega
set_option maxHeartbeats 4000000 in
theorem oT (f:Int) (F:FC) (hf:FieldIs f F) (a0 a1 a2 a3 n0 n1 n2 n3:Nat) (ha:bP a0 a1 a2 a3) (hn:bP n0 n1 n2 n3) (w:World) :
  Calls prog 59 #[.int .i64 f,.agg #[.int .u64 a0,.int .u64 a1,.int .u64 a2,.int .u64 a3],.agg #[.int .u64 n0,.int .u64 n1,.int .u64 n2,.int .u64 n3]] w (dT (aB a0 a1 a2 a3^aB n0 n1 n2 n3%F.M) w):=by
 have h2:=hf.ok.gt
 go_enter func59,ntmps59
 go_wp2_with fail;have M0:=((((Mem.nil w).new w.heap.size a0 a1 a2 a3 25 rfl).new (w.heap.size+1) n0 n1 n2 n3 85 (by simp)).new (w.heap.size+1+1) 0 0 0 0 25 (by simp));refine (qV 1 _).mono ?_
 rintro e w1 ⟨rfl,hbl⟩
 have M1:=M0.on hbl;have hz1:w.heap.size+1+1<w1.heap.size:=M1.lt (c0:=0) (c1:=0) (c2:=0) (c3:=0) (by simp);have M2:=Lib.hid (M1.new w1.heap.size 1 0 0 0 25 rfl);clear hbl M0 M1;go_wp2_with fail
 go_loopw [8] (fun t wr=>∃(j r0 r1 r2 r3:Nat) (m:Int),j≤256∧Hid (m=(j:Int)-1)∧t=.int .i64 m∧bP r0 r1 r2 r3∧Hid (aB r0 r1 r2 r3=aB a0 a1 a2 a3^(aB n0 n1 n2 n3/2^j)%F.M)∧Hid (Mem w wr [(w1.heap.size,r0,r1,r2,r3),(w.heap.size+1+1,0,0,0,0),(w.heap.size+1,n0,n1,n2,n3),(w.heap.size,a0,a1,a2,a3)])) (fun t _=>(intOf t+1).toNat)
 case atStart =>
  refine⟨256,1,0,0,0,255,Nat.le_refl _,Lib.hid (by omega),rfl,(show bP 1 0 0 0 by unfold bP; decide),Lib.hid ?_,M2⟩;rw[Nat.div_eq_of_lt (show aB n0 n1 n2 n3<2^256 from cP hn),Nat.pow_zero,Nat.mod_eq_of_lt (by omega)];rfl
 case round =>
  obtain⟨j,r0,r1,r2,r3,m,hj,hm,rfl,hr,HV,HM⟩:=hrel
  by_cases hlt:0<j
  ·obtain⟨i,hi⟩:∃i,j=i+1:=⟨j-1,by omega⟩
   subst hi;obtain rfl:m=(i:Int):=by have:=hm.out; omega
   have Rr:=HM.out.row (b:=w1.heap.size) (c0:=r0) (c1:=r1) (c2:=r2) (c3:=r3) (by simp);have x0:=Rr.c0; have x1:=Rr.c1; have x2:=Rr.c2; have x3:=Rr.c3;have ltr:=HM.out.lt (b:=w1.heap.size) (c0:=r0) (c1:=r1) (c2:=r2) (c3:=r3) (by simp);clear Rr hm;go_wp2_with fail;refine (kS f F hf r0 r1 r2 r3 r0 r1 r2 r3 hr hr _).mono ?_
   rintro e w3 ⟨p0,p1,p2,p3,rfl,hp,hv,hbl⟩
   have HP:=Lib.hid (show aB p0 p1 p2 p3=_ by rw[hv,HV.out]);have M4:=HM.out.on hbl;have lt4:=M4.lt (b:=w1.heap.size) (c0:=r0) (c1:=r1) (c2:=r2) (c3:=r3) (by simp);have Rr:=M4.row (b:=w1.heap.size) (c0:=r0) (c1:=r1) (c2:=r2) (c3:=r3) (by simp);have Rn:=M4.row (b:=w.heap.size+1) (c0:=n0) (c1:=n1) (c2:=n2) (c3:=n3) (by simp);have M5:=Lib.hid (M4.put p0 p1 p2 p3 (by omega) (by intro r hr; simp at hr; rcases hr with rfl|rfl|rfl<;>simp<;>omega));clear x0 x1 x2 x3 hv hbl M4;have x0:=Rr.c0; have x1:=Rr.c1; have x2:=Rr.c2; have x3:=Rr.c3; have xf:=Rr.fr;have y0:=Rn.c0; have y1:=Rn.c1; have y2:=Rn.c2; have y3:=Rn.c3;have ne1:¬w.heap.size+1=w1.heap.size:=by omega
   have ne1':¬w1.heap.size=w.heap.size+1:=by omega
   have hi256:i<256:=by omega
   clear Rr Rn;go_wp2_with fail;refine (yO n0 n1 n2 n3 i hn hi256 _).mono ?_
   rintro e w4 ⟨he,hbl⟩
   have M5':=M5.out;unfold set4 at M5';have M6:=M5'.on hbl;clear hbl M5' x0 x1 x2 x3 xf y0 y1 y2 y3;have lt6:=M6.lt (b:=w1.heap.size) (c0:=p0) (c1:=p1) (c2:=p2) (c3:=p3) (by simp)
   rcases lZ (aB n0 n1 n2 n3) i with hb|hb
   ·rw[hb,show decide (0=1)=false from rfl]at he;subst he;have HS:=Lib.hid (show aB p0 p1 p2 p3=aB a0 a1 a2 a3^(aB n0 n1 n2 n3/2^i)%F.M by rw[HP.out]; exact Co hb);have M7:=Lib.hid M6;clear hb M6;go_wp2_with fail
    go_roundw
    case rel=>exact⟨i,p0,p1,p2,p3,(i:Int)-1,by omega,Lib.hid rfl,by first|rfl|go_num,hp,HS,M7⟩
    case measure=>first|(simp[intOf]; done)|(simp[intOf]; omega)
   ·rw[hb,show decide (1=1)=true from rfl]at he;subst he;have Rr:=M6.row (b:=w1.heap.size) (c0:=p0) (c1:=p1) (c2:=p2) (c3:=p3) (by simp);have Ra:=M6.row (b:=w.heap.size) (c0:=a0) (c1:=a1) (c2:=a2) (c3:=a3) (by simp);have x0:=Rr.c0; have x1:=Rr.c1; have x2:=Rr.c2; have x3:=Rr.c3;have z0:=Ra.c0; have z1:=Ra.c1; have z2:=Ra.c2; have z3:=Ra.c3;have HB:=Lib.hid hb;have M7:=Lib.hid M6;clear hb M6 Rr Ra;go_wp2_with fail;refine (kS f F hf p0 p1 p2 p3 a0 a1 a2 a3 hp ha _).mono ?_
    rintro e w5 ⟨q0,q1,q2,q3,rfl,hq,hv,hbl⟩
    have HS:=Lib.hid (show aB q0 q1 q2 q3=aB a0 a1 a2 a3^(aB n0 n1 n2 n3/2^i)%F.M by rw[hv,HP.out]; exact Cn HB.out);have M8:=M7.out.on hbl;have lt8:=M8.lt (b:=w1.heap.size) (c0:=p0) (c1:=p1) (c2:=p2) (c3:=p3) (by simp);have Rr:=M8.row (b:=w1.heap.size) (c0:=p0) (c1:=p1) (c2:=p2) (c3:=p3) (by simp);have M9:=Lib.hid (M8.put q0 q1 q2 q3 (by omega) (by intro r hr; simp at hr; rcases hr with rfl|rfl|rfl<;>simp<;>omega));clear x0 x1 x2 x3 z0 z1 z2 z3 hv hbl M8;have x0:=Rr.c0; have x1:=Rr.c1; have x2:=Rr.c2; have x3:=Rr.c3; have xf:=Rr.fr;clear Rr;go_wp2_with fail
    go_roundw
    case rel=>exact⟨i,q0,q1,q2,q3,(i:Int)-1,by omega,Lib.hid rfl,by first|rfl|go_num,hq,HS,M9⟩
    case measure=>first|(simp[intOf]; done)|(simp[intOf]; omega)
  ·obtain rfl:j=0:=by omega
   obtain rfl:m = -1:=by have:=hm.out; omega
   have Rr:=HM.out.row (b:=w1.heap.size) (c0:=r0) (c1:=r1) (c2:=r2) (c3:=r3) (by simp);have x0:=Rr.c0; have x1:=Rr.c1; have x2:=Rr.c2; have x3:=Rr.c3;have Ro:=HM.out.row (b:=w.heap.size+1+1) (c0:=0) (c1:=0) (c2:=0) (c3:=0) (by simp);have o0:=Ro.c0; have o1:=Ro.c1; have o2:=Ro.c2; have o3:=Ro.c3; have of:=Ro.fr;have ltr:=HM.out.lt (b:=w1.heap.size) (c0:=r0) (c1:=r1) (c2:=r2) (c3:=r3) (by simp);have lto:=HM.out.lt (b:=w.heap.size+1+1) (c0:=0) (c1:=0) (c2:=0) (c3:=0) (by simp);clear Rr Ro hm;go_wp2_with fail;refine bodyPost_ret (v:=.agg #[.int .u64 r0,.int .u64 r1,.int .u64 r2,.int .u64 r3]) (by simp[results,results59,go_sem, *]) rfl ?_;refine⟨_,_,_,_,rfl,hr,by rw[HV.out,Nat.pow_zero,Nat.div_one],?_⟩;exact bI HM.out.1 (by omega) _ _ _ _
theorem RG {s0 s1 s2 s3:Nat} (hs:bP s0 s1 s2 s3) (h:aB s0 s1 s2 s3≠0) (w:World):(Op.equalIn 10000 85 (.agg #[.int .u64 s0,.int .u64 s1,.int .u64 s2,.int .u64 s3]) (.agg #[.int .u64 0,.int .u64 0,.int .u64 0,.int .u64 0])).run prog w=.ok false w:=by
 have h':=pT 9998 s0 s1 s2 s3 0 0 0 0 w;rw[rO (fun q=>h ((oE hs Aq).1 q))]at h';exact h'
theorem ER:prog.eqGuardType prog.depth 85=false:=by kernel_rfl
set_option maxHeartbeats 2000000 in
theorem uS (f:Int) (F:FC) (hf:FieldIs f F) (a0 a1 a2 a3:Nat) (ha:bP a0 a1 a2 a3) (hz:aB a0 a1 a2 a3%F.M≠0) (w:World) :
  Calls prog 48 #[.int .i64 f,.agg #[.int .u64 a0,.int .u64 a1,.int .u64 a2,.int .u64 a3]] w (fun e w'=>∃s0 s1 s2 s3:Nat,e=.returned (.tuple #[.agg #[.int .u64 s0,.int .u64 s1,.int .u64 s2,.int .u64 s3],.int .i64 0])∧bP s0 s1 s2 s3∧aB s0 s1 s2 s3=aB a0 a1 a2 a3^(F.M-2)%F.M∧Below w.heap.size w w'):=by
 have hG:=ER;have h2:=hf.ok.gt
 go_enter func48,ntmps48
 go_wp2_with fail;have HM:=Lib.hid (((Mem.nil w).new (w.heap.size) a0 a1 a2 a3 25 (by simp)).new (w.heap.size+1) 0 0 0 0 25 (by simp));refine (cO f F hf a0 a1 a2 a3 ha _).mono ?_
 rintro e w1 ⟨d0,d1,d2,d3,rfl,hd,hv,hbl⟩
 have HM':=Lib.hid (HM.out.on hbl);clear HM hbl;have HM:=HM';clear HM';have EQ:=RG hd (by rw[hv]; exact hz);clear hv hz;go_wp2_with fail;refine (fC f F hf _).mono ?_
 rintro e w2 ⟨rfl,hbl⟩
 have HM':=Lib.hid (HM.out.on hbl);clear HM hbl;have HM:=HM';clear HM';go_wp2_with fail;refine (dW F.m0 F.m1 F.m2 F.m3 2 0 0 0 hf.ok.okm (show bP 2 0 0 0 by unfold bP; decide) _).mono ?_
 rintro e w3 ⟨n0,n1,n2,n3,c,rfl,hn,hc,hv,hbl⟩
 have HVn:=Lib.hid (show aB n0 n1 n2 n3=F.M-2 by
  have e2:aB 2 0 0 0=2:=rfl;have:=cP hn;rw[e2]at hv;have e3:aB F.m0 F.m1 F.m2 F.m3=F.M:=rfl;rw[e3]at hv;have:c=0:=by rcases (show c=0∨c=1 by omega)with h|h; exact h; subst h; omega
  subst this;omega)
 clear hv hc;have HM':=Lib.hid ((HM.out.on hbl).new w3.heap.size n0 n1 n2 n3 85 rfl);clear HM hbl;have HM:=HM';clear HM';have kr:=HM.out.row (b:=w.heap.size) (c0:=a0) (c1:=a1) (c2:=a2) (c3:=a3) (by simp);have x0:=kr.c0; have x1:=kr.c1; have x2:=kr.c2; have x3:=kr.c3;clear kr;have xl:w.heap.size<w3.heap.size:=by have:=HM.out.lt (b:=w.heap.size) (c0:=a0) (c1:=a1) (c2:=a2) (c3:=a3) (by simp); have l2:=HM.out.lt (b:=w.heap.size+1) (c0:=0) (c1:=0) (c2:=0) (c3:=0) (by simp); simp at l2; omega
 go_wp2_with fail;refine (oT f F hf a0 a1 a2 a3 n0 n1 n2 n3 ha hn _).mono ?_
 rintro e w4 ⟨s0,s1,s2,s3,rfl,hs,hv,hbl⟩
 have HVs:=Lib.hid (show aB s0 s1 s2 s3=aB a0 a1 a2 a3^(F.M-2)%F.M by rw[hv,HVn.out]);have HM':=Lib.hid (HM.out.on hbl);clear HM hbl hv x0 x1 x2 x3 xl;have HM:=HM';clear HM';have kr:=HM.out.row (b:=w.heap.size+1) (c0:=0) (c1:=0) (c2:=0) (c3:=0) (by simp);have y0:=kr.c0; have y1:=kr.c1; have y2:=kr.c2; have y3:=kr.c3; have yf:=kr.fr;have yl:=HM.out.lt (b:=w.heap.size+1) (c0:=0) (c1:=0) (c2:=0) (c3:=0) (by simp);clear kr;go_wp2_with fail;refine bodyPost_ret (v:=.tuple #[.agg #[.int .u64 s0,.int .u64 s1,.int .u64 s2,.int .u64 s3],.int .i64 0]) (by simp[results,results48,go_sem, *]) rfl ?_;refine⟨_,_,_,_,rfl,hs,HVs.out,?_⟩;exact bI HM.out.1 (by omega) _ _ _ _
end Go.Proofs.Ytiginhbnaloghaa
namespace Go.Proofs.Ytiginhbnaloghaa.Ex
open Go.Proofs.Try
open Go.RowKit
theorem jS {x:Nat} {w:World} {e:Ending} {w':World} (hx:x<RM) (h:dT x w e w'):e=.returned (RV.den (.one (.fl [.q x])))∧Below w.heap.size w w':=by
 obtain⟨s0,s1,s2,s3,rfl,hs,hv,hb⟩:=h;obtain⟨rfl,rfl,rfl,rfl⟩:=hZ hs (fS hx) hv;exact⟨rfl,hb⟩
def Ep (op:Nat→RV) (c:Nat→List Prop):jB
 | [.v (.im (.int .i64 2)),.v (.fl l)]=>match mI l with|some x=>some (c x,op x)|none=>none
 | _=>none
def Ae (op:Nat→Nat→Nat) (c:Nat→Nat→List Prop):jB
 | [.v (.im (.int .i64 2)),.v (.fl l),.v (.fl m)]=>match mI l,mI m with|some x,some y=>some (c x y,.one (.fl [.q (op x y)]))|_,_=>none
 | _=>none
theorem zI {f:FuncId} {op:Nat→RV} {c:Nat→List Prop} (h:∀x,aQ (c x)→∀w,bC prog f (op x) [.int .i64 2,.agg (aC [At.q x]).toArray] w) :
  ∀cs pre r,Ep op c cs=some (pre,r)→aQ pre→∀(args:List Value) (w:World),cQ w cs args→bC prog f r args w:=by
 intro cs pre r hg hp args w ha;unfold Ep at hg;split at hg
 ·rename_i l;split at hg
  ·rename_i x hx;cases hg
   match args,ha with
   | [t,v],ha =>
    have h1:t=.int .i64 2:=ha.1;have h2:v=.agg (aC l).toArray:=ha.2.1;rw[cH l x hx]at h2;subst h1; subst h2;exact h x hp w
   | [],ha=>exact ha.elim
   | [_],ha=>exact ha.2.elim
   | _::_::_::_,ha=>exact ha.2.2.elim
  ·cases hg
 ·cases hg
theorem tA {f:FuncId} {op:Nat→Nat→Nat} {c:Nat→Nat→List Prop} (h:∀x y,aQ (c x y)→∀w,bC prog f (.one (.fl [.q (op x y)])) [.int .i64 2,.agg (aC [At.q x]).toArray,.agg (aC [At.q y]).toArray] w) :
  ∀cs pre r,Ae op c cs=some (pre,r)→aQ pre→∀(args:List Value) (w:World),cQ w cs args→bC prog f r args w:=by
 intro cs pre r hg hp args w ha;unfold Ae at hg;split at hg
 ·rename_i l m;split at hg
  ·rename_i x y hx hy;cases hg
   match args,ha with
   | [t,v,u],ha =>
    have h1:t=.int .i64 2:=ha.1;have h2:v=.agg (aC l).toArray:=ha.2.1;have h3:u=.agg (aC m).toArray:=ha.2.2.1;rw[cH l x hx]at h2;rw[cH m y hy]at h3;subst h1; subst h2; subst h3;exact h x y hp w
   | [],ha=>exact ha.elim
   | [_],ha=>exact ha.2.elim
   | [_,_],ha=>exact ha.2.2.elim
   | _::_::_::_::_,ha=>exact ha.2.2.2.elim
  ·cases hg
 ·cases hg
theorem WN (x y:Nat) (h:aQ (RZ x y)) (w:World):bC prog 29 (.one (.fl [.q (jM x y)])) [.int .i64 2,.agg (aC [At.q x]).toArray,.agg (aC [At.q y]).toArray] w:=by
 have:=oV 2 _ lE _ _ _ _ _ _ _ _ (dI x) (dI y) w;rw[mY h.1,mY h.2.1]at this;exact this.mono fun e w' q=>jS (mP x y) q
theorem WJ (x y:Nat) (h:aQ (RZ x y)) (w:World):bC prog 30 (.one (.fl [.q (fU x y)])) [.int .i64 2,.agg (aC [At.q x]).toArray,.agg (aC [At.q y]).toArray] w:=by
 have:=kS 2 _ lE _ _ _ _ _ _ _ _ (dI x) (dI y) w;rw[mY h.1,mY h.2.1]at this;exact this.mono fun e w' q=>jS (iH x y) q
theorem WH (x y:Nat) (h:aQ (RZ x y)) (w:World):bC prog 28 (.one (.fl [.q (II x y)])) [.int .i64 2,.agg (aC [At.q x]).toArray,.agg (aC [At.q y]).toArray] w:=by
 have:=yI 2 _ lE _ _ _ _ _ _ _ _ (dI x) (dI y) w;rw[mY h.1,mY h.2.1,Nat.mod_eq_of_lt h.2.1]at this;refine this.mono fun e w' q=>jS (yJ x y) ?_
 have e1:x+(RM-y)=x+RM-y:=by have:=h.2.1; omega
 rw[show II x y=(x+(RM-y))%RM by unfold II; rw[e1]];exact q
def TB (x:Nat):Nat:=(RM-x%RM)%RM
theorem WI (x:Nat) (h:aQ [x<RM]) (w:World):bC prog 60 (.one (.fl [.q (TB x)])) [.int .i64 2,.agg (aC [At.q x]).toArray] w:=by
 have:=oS 2 _ lE _ _ _ _ (dI x) w;rw[mY h.1]at this;exact this.mono fun e w' q=>jS (Nat.mod_lt _ gB) q
theorem WL (x y:Nat) (h:aQ [x<RM,y<bJ]) (w:World):bC prog 59 (.one (.fl [.q (uL x y)])) [.int .i64 2,.agg (aC [At.q x]).toArray,.agg (aC [At.q y]).toArray] w:=by
 have:=oT 2 _ lE _ _ _ _ _ _ _ _ (dI x) (dI y) w;rw[mY h.1,eU h.2.1]at this;exact this.mono fun e w' q=>jS (sH x y) q
theorem WK (x:Nat) (h:aQ [x<RM,x≠0]) (w:World):bC prog 48 (.many [.fl [.q (OD x)],.im (.int .i64 0)]) [.int .i64 2,.agg (aC [At.q x]).toArray] w:=by
 have:=uS 2 _ lE _ _ _ _ (dI x) (by rw[mY h.1]; exact fun q=>h.2.1 (by rw[←q]; exact (Nat.mod_eq_of_lt h.1).symm)) w;rw[mY h.1]at this;refine this.mono ?_
 rintro e w' ⟨s0,s1,s2,s3,rfl,hs,hv,hb⟩
 rw[show x^(Go.Proofs.Ytiginhbnaloghaa.FR.M-2)%Go.Proofs.Ytiginhbnaloghaa.FR.M=OD x by unfold OD; rw[Nat.one_mul]]at hv;obtain⟨rfl,rfl,rfl,rfl⟩:=hZ hs (fS (IK x)) hv;exact⟨rfl,hb⟩
def Es:Nat→RV:=fun x=>.one (.im (.bool (decide (x<RM))))
theorem WM (x:Nat) (h:aQ [x<bJ]) (w:World):bC prog 31 (Es x) [.int .i64 2,.agg (aC [At.q x]).toArray] w:=by
 have:=sN 2 _ lE _ _ _ _ (dI x) w;rw[eU h.1]at this;exact this.mono fun e w' q=>q
theorem Cu:∀cs pre r,EJ cs=some (pre,r)→aQ pre→∀(args:List Value) (w:World),cQ w cs args→bC prog 49 r args w:=by
 intro cs pre r hg hp args w ha;unfold EJ at hg;split at hg
 ·rename_i n;cases hg
  match args,ha with
  | [t],ha =>
   have h1:t=.int .u64 (Int.ofNat n):=ha.1;subst h1;refine (qV n w).mono ?_
   rintro e w' ⟨rfl,hb⟩
   refine⟨?_,hb⟩;obtain⟨e0,e1,e2,e3⟩:=hZ (s0:=n) (s1:=0) (s2:=0) (s3:=0) (x:=n) ⟨hp.1,by omega,by omega,by omega⟩ (by have:=hp.1; omega) (by unfold aB; omega);show Ending.returned _=Ending.returned (.agg #[.int .u64 (fw n 0:Nat),.int .u64 (fw n 1:Nat),.int .u64 (fw n 2:Nat),.int .u64 (fw n 3:Nat)]);rw[←e0,←e1,←e2,←e3];rfl
  | [],ha=>exact ha.elim
  | _::_::_,ha=>exact ha.2.elim
 ·cases hg
def AD:Tab:=(((((((EZ.add 29 (Ae jM RZ)).add 28 (Ae II RZ)).add 30 (Ae fU RZ)).add 60 (Ep (fun x=>.one (.fl [.q (TB x)])) fun x=>[x<RM])).add 59 (Ae uL fun x y=>[x<RM,y<bJ])).add 48 (Ep (fun x=>.many [.fl [.q (OD x)],.im (.int .i64 0)]) fun x=>[x<RM,x≠0])).add 31 (Ep Es fun x=>[x<bJ])).add 49 EJ
theorem nL:TabOk prog AD:=(((((((vM.add func29 (by kernel_rfl) (by kernel_rfl) (tA WN)).add func28 (by kernel_rfl) (by kernel_rfl) (tA WH)).add func30 (by kernel_rfl) (by kernel_rfl) (tA WJ)).add func60 (by kernel_rfl) (by kernel_rfl) (zI WI)).add func59 (by kernel_rfl) (by kernel_rfl) (tA WL)).add func48 (by kernel_rfl) (by kernel_rfl) (zI WK)).add func31 (by kernel_rfl) (by kernel_rfl) (zI WM)).add func49 (by kernel_rfl) (by kernel_rfl) Cu
def kC (h:Bool) (num:Nat→Option Value) (_:Nat):Cfg:=⟨fun _=>AD,fun _=>h,num⟩
theorem NX:tC prog AD (qG prog) (fun _=>true) f50 40 []=some ([1<RM],.one (.fl [.q (TB 1)])):=by kernel_rfl
def Af:Nat:=81540058820840996586704275553141814055101440848469862132140264610111
set_option maxHeartbeats 2000000 in
theorem DG (w:World):Calls prog 77 #[] w (fun e w'=>e=.returned (.agg #[.int .u64 11211439779908376895,.int .u64 1735440370612733063,.int .u64 1376415503089949544,.int .u64 12990080814])∧Below w.heap.size w w'):=by
 go_enter func77,ntmps77
 go_wp2_with fail;refine (fC 2 Go.Proofs.Ytiginhbnaloghaa.FR (by unfold FieldIs; simp) _).mono ?_
 rintro e w1 ⟨rfl,hbl⟩
 have HM:=Lib.hid (((Mem.nil w).new w.heap.size 0 0 0 0 85 rfl).on hbl);have kr:=HM.out.row (b:=w.heap.size) (c0:=0) (c1:=0) (c2:=0) (c3:=0) (by simp);have o0:=kr.c0; have o1:=kr.c1; have o2:=kr.c2; have o3:=kr.c3; have of:=kr.fr;have lto:=HM.out.lt (b:=w.heap.size) (c0:=0) (c1:=0) (c2:=0) (c3:=0) (by simp);clear kr hbl;have b0:bits .or .u64 18222111039 (IntKind.u64.wrap 199074440569838614704509943808)=11211439779908376895:=by kernel_rfl
 have b1:bits .or .u64 10791847047 (IntKind.u64.wrap 912676561321971831349406859264)=1735440370612733063:=by kernel_rfl
 have b2:bits .or .u64 49476295528 (IntKind.u64.wrap 239624696274039063709157949440)=1376415503089949544:=by kernel_rfl
 simp only[Go.Proofs.Ytiginhbnaloghaa.FR];go_wp2_with fail;refine wp_loop_rounds 6 ?_;rw[rounds_succ];go_wp2_with fail
 go_region
 go_wp2_with fail;rw[rounds_succ];go_wp2_with fail
 go_region
 go_wp2_with fail;rw[rounds_succ];go_wp2_with fail
 go_region
 go_wp2_with fail;rw[rounds_succ];go_wp2_with fail;rw[rounds_succ];go_wp2_with fail;refine bodyPost_ret (v:=.agg #[.int .u64 11211439779908376895,.int .u64 1735440370612733063,.int .u64 1376415503089949544,.int .u64 12990080814]) (by simp[results,results77,go_sem, *]) rfl ?_;refine⟨rfl,?_⟩;have hb:=HM.out.1
 repeat (first|exact hb|refine Below.drew ?_|refine Below.alloc ?_ (by first|(simp; done)|(simp; omega)) _|refine Below.setCell ?_ (by simp) _)
def SI:Tab:=AD.add 77 (g0 (.one (.fl [.q Af])))
theorem TH:TabOk prog SI:=nL.add func77 (by kernel_rfl) (by kernel_rfl) (BN fun w=>(DG w).mono fun e w' h=>⟨h.1.trans (by kernel_rfl),h.2⟩)
def ZY (num:Nat→Option Value) (_:Nat):Cfg:=⟨fun _=>SI,fun _=>true,num⟩
def fO:Code:=(f42.body).getD .skip
def yK:Code:=fW (fW (cB (cA (cB (cB fO)))))
theorem OB:fO=.seq (cA fO) (.seq (cA (cB fO)) (.seq (.seq (cA (cA (cB (cB fO)))) (.block 0 (.loop yK))) (cB (cB (cB fO))))):=by kernel_rfl
def TA (log x:Nat):List Fact:=[.slot 0 (.im (iI log)),.slot 2 (.pt 2 0),.row 2 true [.f ⟨0,cS⟩],.slot 3 (.pt 3 0),.row 3 true [.q x]]
def Kc (log:Nat):List Fact:=[.slot 0 (.im (iI log)),.slot 2 (.pt 2 0),.row 2 true [.f ⟨0,cS⟩]]
theorem Cm (log:Nat):aK prog (qG prog) f42.ntmps (ZY fun _=>none) 40 (cA fO) (eK 0 [.v (.im (iI log))]) (Kc log)=some ([],.nrm,Kc log):=by kernel_rfl
theorem Cl (log:Nat):aK prog (qG prog) f42.ntmps (ZY fun _=>none) 40 (cA (cB fO)) (Kc log) (TA log (uL 5 Af))=some ([5<18446744073709551616,5<RM,Af<bJ],.nrm,TA log (uL 5 Af)):=by kernel_rfl
def VU (log x i:Nat):List Fact:=.slot 4 (.im (iI i))::TA log x
theorem Ck (log x:Nat):aK prog (qG prog) f42.ntmps (ZY fun _=>none) 40 (cA (cA (cB (cB fO)))) (TA log x) (VU log x 28)=some ([],.nrm,VU log x 28):=by kernel_rfl
theorem Cj (log x i j:Nat):aK prog (qG prog) f42.ntmps (ZY (aE [(10,.bool true),(12,iI j)])) 40 yK (VU log x i) (VU log (fU x x) j)=some ([aF .gtr .i64 (Int.ofNat i) (Int.ofNat log)=some (.bool true),x<RM,x<RM,aF .sub .i64 (Int.ofNat i) 1=some (iI j)],.nrm,VU log (fU x x) j):=by kernel_rfl
theorem Kb (log x i:Nat):aK prog (qG prog) f42.ntmps (ZY (aE [(10,.bool false)])) 40 yK (VU log x i) (TA log x)=some ([aF .gtr .i64 (Int.ofNat i) (Int.ofNat log)=some (.bool false)],.ex 0,TA log x):=by kernel_rfl
theorem Ka (log x:Nat):aK prog (qG prog) f42.ntmps (ZY fun _=>none) 40 (cB (cB (cB fO))) (TA log x) [.slot 2 (.pt 2 0),.row 2 true [.q x]]=some ([],.rt,[.slot 2 (.pt 2 0),.row 2 true [.q x]]):=by kernel_rfl
def VE (e:Nat):Nat→Nat
 | 0=>uL 5 e
 | k+1=>fU (VE e k) (VE e k)
theorem GY (e:Nat):∀k,VE e k=5^(e*2^k)%RM
 | 0=>by
  rw[Nat.pow_zero,Nat.mul_one];rfl
 | k+1=>by
  show VE e k*VE e k%RM=_;rw[GY e k,←Nat.mul_mod,←Nat.pow_add,show e*2^k+e*2^k=e*2^(k+1) by rw[Nat.pow_succ,←Nat.mul_assoc]; omega]
def Bx (k:Nat):Nat:=VE Af k
theorem Cp:RM-1=Af*2^28:=by kernel_rfl
theorem VD {e m log:Nat} (hm:m=e*2^28) (h:log≤28):VE e (28-log)=uL 5 (m/2^log):=by
 rw[GY];unfold uL;rw[hm,show (2:Nat)^28=2^(28-log)*2^log by rw[←Nat.pow_add]; congr 1; omega,←Nat.mul_assoc,Nat.mul_div_cancel _ (Nat.pow_pos (by omega))]
theorem VC {log:Nat} (h:log≤28):Bx (28-log)=DE log:=VD Cp h
theorem GX:∀k,Bx k<RM
 | 0=>sH _ _
 | k+1=>iH _ _
theorem IJ {log:Nat} (h:log≤28) (args:List Value) (w:World) (ha:cQ w [.v (.im (iI log))] args):bC prog 42 (.one (.fl [.q (DE log)])) args w:=by
 have hG:bF prog (qG prog) w.heap.size w:=(bD _).w _ _;have hT:∀n d:Nat,TabOkW prog SI w.heap.size w:=fun _ _=>TH.w _ _
 refine bO func42 (c:=fO) rfl ha (Nat.le_of_ble_eq_true (by kernel_rfl)) fun a w1 hA => ?_
 rw[OB];refine wp_seq (aA aJ hT hG (Cm log) trivial hA fun a w1 hA => ?_);refine wp_seq (aA aJ hT hG (Cl log) ⟨by omega,by decide,by decide,trivial⟩ hA fun a w1 hA => ?_);refine wp_seq (wp_seq (aA aJ hT hG (Ck log _) trivial hA fun a w1 hA => ?_));refine wp_block ?_;refine cC aJ (fun k=>VU log (Bx k) (28-k)) (28-log) (fun k hk=>⟨_,_,_,_,hG,hT,Cj log (Bx k) (28-k) (28-(k+1)),by rw[pA,decide_eq_true (by omega)],GX k,GX k,by have:=AX (i:=28-k) (k:=1) (by omega) (by omega); rw[show 28-k-1=28-(k+1) by omega]at this; exact this,trivial⟩) (.ex 0) (by simp) (TA log (Bx (28-log))) ⟨_,_,_,_,hG,hT,Kb log _ _,by rw[pA,decide_eq_false (by omega)],trivial⟩ (by exact hA) fun a w hA => ?_
 show (cB (cB (cB fO))).wp _ _ _ _;rw[VC h]at hA;exact aA aJ hT hG (Ka log _) trivial hA fun a w' hA=>bE (l:=[.fl [.q (DE log)]]) (r:=.one (.fl [.q (DE log)])) (by kernel_rfl) (by kernel_rfl) hA
def Kn:jB
 | [.v (.im (.int .i64 (.ofNat log)))]=>some ([log≤28],.one (.fl [.q (DE log)]))
 | _=>none
theorem YC:∀cs pre r,Kn cs=some (pre,r)→aQ pre→∀(args:List Value) (w:World),cQ w cs args→bC prog 42 r args w:=by
 intro cs pre r hg hp args w ha;unfold Kn at hg;split at hg
 ·cases hg; exact IJ hp.1 args w ha
 ·cases hg
def SJ:Tab:=SI.add 42 Kn
theorem JH:TabOk prog SJ:=TH.add func42 (by kernel_rfl) (by kernel_rfl) YC
def Mb (h:Bool) (num:Nat→Option Value) (_:Nat):Cfg:=⟨fun _=>SJ,fun _=>h,num⟩
def FB:List At:=[.f ⟨0,cS⟩]
theorem zP {z m:Int}:gO z m=true↔0≤z∧z≤m:=by unfold gO; rw[Bool.and_eq_true,decide_eq_true_eq,decide_eq_true_eq]
def vZ (v u:Value):List Fact:=[.slot 0 (.im v),.slot 1 (.im u)]
def KG (v u:Value) (i:Nat):List Fact:=.slot 5 (.im (iI i))::vZ v u
def tL (v u:Value) (i:Nat):List Fact:=.slot 6 (.im (iI i))::vZ v u
def KE (v u:Value) (i k:Nat):List Fact:=.slot 7 (.im (iI k))::tL v u i
def FH (v u:Value) (i:Nat):List Fact:=.slot 8 (.im (iI i))::vZ v u
def EE (e:Int):List Fact:=[.slot 4 (.im (.int .i64 e))]
def eD:Code:=(f38.body).getD .skip
def KD:Code:=fW (fW (cB (cA (cB eD))))
def nZ:Code:=fW (fW (cB (cA (cB (cB eD)))))
def KC:Code:=fW (fW (cB (fW (cA (cB nZ)))))
def EF:Code:=fW (fW (cB (cA (cB (cB (cB eD))))))
theorem PR:eD=.seq (cA eD) (.seq (.seq (cA (cA (cB eD))) (.block 0 (.loop KD))) (.seq (.seq (cA (cA (cB (cB eD)))) (.block 2 (.loop nZ))) (.seq (.seq (cA (cA (cB (cB (cB eD))))) (.block 6 (.loop EF))) (cB (cB (cB (cB eD))))))):=by kernel_rfl
theorem KB:nZ=.seq (cA nZ) (.seq (.block 3 (.seq (cA (fW (cA (cB nZ)))) (.block 4 (.loop KC)))) (cB (cB nZ))):=by kernel_rfl
theorem Ed (v u:Value):aK prog (qG prog) f38.ntmps (kC true fun _=>none) 40 (cA eD) (eK 0 [.v (.im v),.v (.im u)]) (vZ v u)=some ([],.nrm,vZ v u):=by kernel_rfl
theorem Ec (v u:Value):aK prog (qG prog) f38.ntmps (kC true fun _=>none) 40 (cA (cA (cB eD))) (vZ v u) (KG v u 0)=some ([],.nrm,KG v u 0):=by kernel_rfl
theorem Ee (w:World) (b o K m i:Nat) (p:Option Addr) (n' m':Nat) (u:Value):aK prog { qG prog with x:=xO w (aE [(17,i)]) (fun _=>none) (aE [(18,.slice p n' m')]) } f38.ntmps (kC true (aE [(12,.bool true),(20,.bool false),(14,iI (i+1))])) 40 KD (KG (aV b o K m) u i) (KG (aV b o K m) u (i+1))=some ([aF .lss .i64 (Int.ofNat i) (Int.ofNat K)=some (.bool true),Int.ofNat i=Int.ofNat i,i<K,oldOf w b (o+i*1) [.c (.slice p n' m')],aF .gtr .i64 (Int.ofNat n') 65536=some (.bool false),aF .add .i64 (Int.ofNat i) 1=some (iI (i+1))],.nrm,KG (aV b o K m) u (i+1)):=by kernel_rfl
theorem En (w:World) (b o K m i:Nat) (p:Option Addr) (n' m':Nat) (u:Value):aK prog { qG prog with x:=xO w (aE [(17,i)]) (fun _=>none) (aE [(18,.slice p n' m')]) } f38.ntmps (kC true (aE [(12,.bool true),(20,.bool true)])) 40 KD (KG (aV b o K m) u i) (EE 72)=some ([aF .lss .i64 (Int.ofNat i) (Int.ofNat K)=some (.bool true),Int.ofNat i=Int.ofNat i,i<K,oldOf w b (o+i*1) [.c (.slice p n' m')],aF .gtr .i64 (Int.ofNat n') 65536=some (.bool true)],.rt,EE 72):=by kernel_rfl
theorem Em (p:Option Addr) (K m i:Nat) (u:Value):aK prog (qG prog) f38.ntmps (kC true (aE [(12,.bool false)])) 40 KD (KG (.slice p K m) u i) (vZ (.slice p K m) u)=some ([aF .lss .i64 (Int.ofNat i) (Int.ofNat K)=some (.bool false)],.ex 0,vZ (.slice p K m) u):=by kernel_rfl
theorem Eb (v u:Value):aK prog (qG prog) f38.ntmps (kC true fun _=>none) 40 (cA (cA (cB (cB eD)))) (vZ v u) (tL v u 0)=some ([],.nrm,tL v u 0):=by kernel_rfl
theorem TW (p:Option Addr) (K m i:Nat) (u:Value):aK prog (qG prog) f38.ntmps (kC true (aE [(24,.bool true)])) 40 (cA nZ) (tL (.slice p K m) u i) (tL (.slice p K m) u i)=some ([aF .lss .i64 (Int.ofNat i) (Int.ofNat K)=some (.bool true)],.nrm,tL (.slice p K m) u i):=by kernel_rfl
theorem El (p:Option Addr) (K m i:Nat) (u:Value):aK prog (qG prog) f38.ntmps (kC true (aE [(24,.bool false)])) 40 (cA nZ) (tL (.slice p K m) u i) (vZ (.slice p K m) u)=some ([aF .lss .i64 (Int.ofNat i) (Int.ofNat K)=some (.bool false)],.ex 2,vZ (.slice p K m) u):=by kernel_rfl
theorem TU (v u:Value) (i:Nat):aK prog (qG prog) f38.ntmps (kC true fun _=>none) 40 (cA (fW (cA (cB nZ)))) (tL v u i) (KE v u i 0)=some ([],.nrm,KE v u i 0):=by kernel_rfl
theorem Eh (w:World) (b o K m i b' o' n' m' k x:Nat) (u:Value):aK prog { qG prog with x:=xO w (aE [(30,i),(38,i),(41,k)]) (aE [(42,[.q x])]) (aE [(31,aV b' o' n' m'),(39,aV b' o' n' m')]) } f38.ntmps (kC true (aE [(33,.bool true),(44,.bool false),(35,iI (k+1))])) 60 KC (KE (aV b o K m) u i k) (KE (aV b o K m) u i (k+1))=some ([Int.ofNat i=Int.ofNat i,i<K,oldOf w b (o+i*1) [.c (aV b' o' n' m')],aF .lss .i64 (Int.ofNat k) (Int.ofNat n')=some (.bool true),Int.ofNat i=Int.ofNat i,i<K,oldOf w b (o+i*1) [.c (aV b' o' n' m')],Int.ofNat k=Int.ofNat k,k<n',oldOf w b' (o'+k*4) [.q x],cN [.q x]=4,x<bJ,Value.bool (!decide (x<RM))=.bool false,aF .add .i64 (Int.ofNat k) 1=some (iI (k+1))],.nrm,KE (aV b o K m) u i (k+1)):=by kernel_rfl
theorem Ej (w:World) (b o K m i b' o' n' m' k x:Nat) (u:Value):aK prog { qG prog with x:=xO w (aE [(30,i),(38,i),(41,k)]) (aE [(42,[.q x])]) (aE [(31,aV b' o' n' m'),(39,aV b' o' n' m')]) } f38.ntmps (kC true (aE [(33,.bool true),(44,.bool true)])) 60 KC (KE (aV b o K m) u i k) (EE 21)=some ([Int.ofNat i=Int.ofNat i,i<K,oldOf w b (o+i*1) [.c (aV b' o' n' m')],aF .lss .i64 (Int.ofNat k) (Int.ofNat n')=some (.bool true),Int.ofNat i=Int.ofNat i,i<K,oldOf w b (o+i*1) [.c (aV b' o' n' m')],Int.ofNat k=Int.ofNat k,k<n',oldOf w b' (o'+k*4) [.q x],cN [.q x]=4,x<bJ,Value.bool (!decide (x<RM))=.bool true],.rt,EE 21):=by kernel_rfl
theorem Ei (w:World) (b o K m i:Nat) (p:Option Addr) (n' m' k:Nat) (u:Value):aK prog { qG prog with x:=xO w (aE [(30,i)]) (fun _=>none) (aE [(31,.slice p n' m')]) } f38.ntmps (kC true (aE [(33,.bool false)])) 60 KC (KE (aV b o K m) u i k) (tL (aV b o K m) u i)=some ([Int.ofNat i=Int.ofNat i,i<K,oldOf w b (o+i*1) [.c (.slice p n' m')],aF .lss .i64 (Int.ofNat k) (Int.ofNat n')=some (.bool false)],.ex 4,tL (aV b o K m) u i):=by kernel_rfl
theorem Eg (v u:Value) (i:Nat):aK prog (qG prog) f38.ntmps (kC true (aE [(26,iI (i+1))])) 40 (cB (cB nZ)) (tL v u i) (tL v u (i+1))=some ([aF .add .i64 (Int.ofNat i) 1=some (iI (i+1))],.nrm,tL v u (i+1)):=by kernel_rfl
theorem Ea (v u:Value):aK prog (qG prog) f38.ntmps (kC true fun _=>none) 40 (cA (cA (cB (cB (cB eD))))) (vZ v u) (FH v u 0)=some ([],.nrm,FH v u 0):=by kernel_rfl
theorem Ef (w:World) (v:Value) (b o M m i x:Nat):aK prog { qG prog with x:=xO w (aE [(53,i)]) (aE [(54,[.q x])]) (fun _=>none) } f38.ntmps (kC true (aE [(48,.bool true),(56,.bool false),(50,iI (i+1))])) 40 EF (FH v (aV b o M m) i) (FH v (aV b o M m) (i+1))=some ([aF .lss .i64 (Int.ofNat i) (Int.ofNat M)=some (.bool true),Int.ofNat i=Int.ofNat i,i<M,oldOf w b (o+i*4) [.q x],cN [.q x]=4,x<bJ,Value.bool (!decide (x<RM))=.bool false,aF .add .i64 (Int.ofNat i) 1=some (iI (i+1))],.nrm,FH v (aV b o M m) (i+1)):=by kernel_rfl
theorem Eo (w:World) (v:Value) (b o M m i x:Nat):aK prog { qG prog with x:=xO w (aE [(53,i)]) (aE [(54,[.q x])]) (fun _=>none) } f38.ntmps (kC true (aE [(48,.bool true),(56,.bool true)])) 40 EF (FH v (aV b o M m) i) (EE 21)=some ([aF .lss .i64 (Int.ofNat i) (Int.ofNat M)=some (.bool true),Int.ofNat i=Int.ofNat i,i<M,oldOf w b (o+i*4) [.q x],cN [.q x]=4,x<bJ,Value.bool (!decide (x<RM))=.bool true],.rt,EE 21):=by kernel_rfl
theorem Ek (v:Value) (p:Option Addr) (M m i:Nat):aK prog (qG prog) f38.ntmps (kC true (aE [(48,.bool false)])) 40 EF (FH v (.slice p M m) i) (vZ v (.slice p M m))=some ([aF .lss .i64 (Int.ofNat i) (Int.ofNat M)=some (.bool false)],.ex 6,vZ v (.slice p M m)):=by kernel_rfl
theorem Kk (v u:Value):aK prog (qG prog) f38.ntmps (kC true fun _=>none) 40 (cB (cB (cB (cB eD)))) (vZ v u) (EE 0)=some ([],.rt,EE 0):=by kernel_rfl
def Ad (K:Nat) (Ns:Nat→Nat) (fs:Nat→Nat→Nat) (M:Nat) (g:Nat→Nat):Int:=if iE K Ns then (if iR K Ns fs∧bQ M g then 0 else 21)else 72
theorem vY {w0:World} {v u:Value} {K M:Nat} {vs:Nat→Value} {Ns:Nat→Nat} {fs:Nat→Nat→Nat} {g:Nat→Nat} (hh:HV w0 v K vs) (hl:∀j,j<K→LV w0 (vs j) (Ns j) (fs j)) (hK:K≤64) (hu:LV w0 u M g) (hM:M≤65536):bC prog 38 (.one (.im (.int .i64 (Ad K Ns fs M g)))) [v,u] w0:=by
 obtain⟨b,o,m,rfl,hb,hr⟩:=hh;have hG:bF prog (qG prog) w0.heap.size w0:=(bD _).w _ _;have hT:∀n d:Nat,TabOkW prog AD w0.heap.size w0:=fun _ _=>nL.w _ _
 obtain⟨pu,mu,rfl,hmu,h256,hmem⟩:=id hu;refine bO func38 (cs:=[.v (.im (aV b o K m)),.v (.im (.slice pu M mu))]) (args:=[aV b o K m,.slice pu M mu]) (c:=eD) rfl ⟨rfl,rfl,trivial⟩ (Nat.le_of_ble_eq_true (by kernel_rfl)) fun a w' hA => ?_
 rw[PR];refine wp_seq (aA aJ hT hG (Ed _ _) trivial hA fun a w' hA => ?_);refine wp_seq (wp_seq (aA aJ hT hG (Ec _ _) trivial hA fun a w' hA => ?_));refine wp_block ?_;have bad:∀{e:Int} {a w},Holds f38.ntmps w0.heap.size w0 (EE e) a w→bodyPost prog f38 (fun e' w'=>e'=.returned (RV.den (.one (.im (.int .i64 e))))∧Below w0.heap.size w0 w') .ret a w:=fun {e a w} hA=>bE (l:=[.im (.int .i64 e)]) (r:=.one (.im (.int .i64 e))) (by kernel_rfl) (by kernel_rfl) hA
 have step:∀i,i<K→Ns i≤65536→Ok prog w0.heap.size w0 f38.ntmps KD (KG (aV b o K m) (.slice pu M mu) i) .nrm (KG (aV b o K m) (.slice pu M mu) (i+1)):=fun i hi hs=>by
  obtain⟨p,m',e,_⟩:=hl i hi;have ho:=iL hb hr hi;rw[e]at ho;exact⟨_,_,_,_,dH w0 _ _ _,hT,Ee w0 b o K m i p (Ns i) m' _,bR hi,rfl,hi,ho,TY hs,eT (k:=1) (by omega),trivial⟩
 unfold Ad
 by_cases hs:iE K Ns
 ·rw[if_pos hs];refine cC aJ (fun i=>KG (aV b o K m) (.slice pu M mu) i) K (fun i hi=>step i hi (hs i hi)) (.ex 0) (by simp) (vZ (aV b o K m) (.slice pu M mu)) ⟨_,_,_,_,hG,hT,Em _ K m K _,dM (Nat.le_refl _),trivial⟩ hA fun a w hA => ?_
  refine wp_seq (wp_seq (aA aJ hT hG (Eb _ _) trivial hA fun a w' hA => ?_));refine wp_block ?_;have instep:∀i,i<K→∀k,k<Ns i→fs i k<RM→Ok prog w0.heap.size w0 f38.ntmps KC (KE (aV b o K m) (.slice pu M mu) i k) .nrm (KE (aV b o K m) (.slice pu M mu) i (k+1)):=fun i hi k hk hx=>by
   have hNi:=hs i hi;have ho:=iL hb hr hi;obtain⟨p',m',e,_,l256,lmem⟩:=hl i hi;obtain⟨b',o',rfl,hb',hr'⟩:=lmem (by omega);rw[e]at ho;exact⟨_,_,_,_,dH w0 _ _ _,hT,Eh w0 b o K m i b' o' (Ns i) m' k (fs i k) _,rfl,hi,ho,bR hk,rfl,hi,ho,rfl,hk,dL hb' hr' hk,rfl,l256 k hk,by rw[decide_eq_true hx]; rfl,eT (k:=1) (by omega),trivial⟩
  have lstep:∀i,i<K→bQ (Ns i) (fs i)→∀a w,Holds f38.ntmps w0.heap.size w0 (tL (aV b o K m) (.slice pu M mu) i) a w→∀Q:Exit→Act→World→Prop,(∀a w,Holds f38.ntmps w0.heap.size w0 (tL (aV b o K m) (.slice pu M mu) (i+1)) a w→Q .normal a w)→nZ.wp prog Q a w:=fun i hi hA' a w hA Q hQ=>by
   have ho:=iL hb hr hi;obtain⟨p',m',e,_⟩:=hl i hi;rw[e]at ho;rw[KB];refine wp_seq (aA aJ hT hG (TW _ K m i _) ⟨bR hi,trivial⟩ hA fun a w hA => ?_);refine wp_seq (wp_block (wp_seq (aA aJ hT hG (TU _ _ i) trivial hA fun a w hA => ?_)));refine wp_block ?_;refine cC aJ (fun k=>KE (aV b o K m) (.slice pu M mu) i k) (Ns i) (fun k hk=>instep i hi k hk (hA' k hk)) (.ex 4) (by simp) (tL (aV b o K m) (.slice pu M mu) i) ⟨_,_,_,_,dH w0 _ _ _,hT,Ei w0 b o K m i p' (Ns i) m' (Ns i) _,rfl,hi,ho,dM (Nat.le_refl _),trivial⟩ hA fun a w hA => ?_
   show (cB (cB nZ)).wp _ _ _ _;exact aA aJ hT hG (Eg _ _ i) ⟨eT (k:=1) (by omega),trivial⟩ hA fun a w hA=>hQ a w hA
  by_cases hl2:iR K Ns fs
  ·refine gZ (fun i a w=>Holds f38.ntmps w0.heap.size w0 (tL (aV b o K m) (.slice pu M mu) i) a w) K (fun i hi a w hA R hR=>lstep i hi (hl2 i hi) a w hA _ fun a w hA=>hR a w hA) (fun a w hA R => ?_) (by exact hA);rw[KB];refine wp_seq (aA aJ hT hG (El _ K m K _) ⟨dM (Nat.le_refl _),trivial⟩ hA fun a w hA => ?_);show (Code.seq _ _).wp _ _ _ _;refine wp_seq (wp_seq (aA aJ hT hG (Ea _ _) trivial hA fun a w' hA => ?_));refine wp_block ?_;have step4:∀i,i<M→g i<RM→Ok prog w0.heap.size w0 f38.ntmps EF (FH (aV b o K m) (.slice pu M mu) i) .nrm (FH (aV b o K m) (.slice pu M mu) (i+1)):=fun i hi hx=>by
    obtain⟨b',o',rfl,hb',hr'⟩:=hmem (by omega);exact⟨_,_,_,_,dH w0 _ _ _,hT,Ef w0 _ b' o' M mu i (g i),bR hi,rfl,hi,dL hb' hr' hi,rfl,h256 i hi,by rw[decide_eq_true hx]; rfl,eT (k:=1) (by omega),trivial⟩
   by_cases hg:bQ M g
   ·rw[if_pos ⟨hl2,hg⟩];refine cC aJ (fun i=>FH (aV b o K m) (.slice pu M mu) i) M (fun i hi=>step4 i hi (hg i hi)) (.ex 6) (by simp) (vZ (aV b o K m) (.slice pu M mu)) ⟨_,_,_,_,hG,hT,Ek _ _ M mu M,dM (Nat.le_refl _),trivial⟩ hA fun a w hA => ?_
    show (cB (cB (cB (cB eD)))).wp _ _ _ _;exact aA aJ hT hG (Kk _ _) trivial hA fun a w' hA=>bad hA
   ·rw[if_neg fun q=>hg q.2];obtain⟨j,hj,h1,h2⟩:=dZ (p:=fun j=>g j<RM) hg;have hbad:Ok prog w0.heap.size w0 f38.ntmps EF (FH (aV b o K m) (.slice pu M mu) j) .rt (EE 21):=by
     obtain⟨b',o',rfl,hb',hr'⟩:=hmem (by omega);exact⟨_,_,_,_,dH w0 _ _ _,hT,Eo w0 _ b' o' M mu j (g j),bR hj,rfl,hj,dL hb' hr' hj,rfl,h256 j hj,by rw[decide_eq_false h2]; rfl,trivial⟩
    exact cC aJ (fun i=>FH (aV b o K m) (.slice pu M mu) i) j (fun i hi=>step4 i (by omega) (h1 i hi)) .rt (by simp) (EE 21) hbad hA fun a w hA=>bad hA
  ·rw[if_neg fun q=>hl2 q.1];obtain⟨j,hj,h1,h2⟩:=dZ (p:=fun j=>bQ (Ns j) (fs j)) hl2;obtain⟨k,hk,k1,k2⟩:=dZ (p:=fun k=>fs j k<RM) h2;refine gZ (fun i a w=>Holds f38.ntmps w0.heap.size w0 (tL (aV b o K m) (.slice pu M mu) i) a w) j (fun i hi a w hA R hR=>lstep i (by omega) (h1 i hi) a w hA _ fun a w hA=>hR a w hA) (fun a w hA R => ?_) (by exact hA);have ho:=iL hb hr hj;have hNj:=hs j hj;obtain⟨p',m',e,_,l256,lmem⟩:=hl j hj;obtain⟨b',o',rfl,hb',hr'⟩:=lmem (by omega);rw[e]at ho;rw[KB];refine wp_seq (aA aJ hT hG (TW _ K m j _) ⟨bR hj,trivial⟩ hA fun a w hA => ?_);refine wp_seq (wp_block (wp_seq (aA aJ hT hG (TU _ _ j) trivial hA fun a w hA => ?_)));refine wp_block ?_;exact cC aJ (fun k=>KE (aV b o K m) (.slice pu M mu) j k) k (fun i hi=>instep j hj i (by omega) (k1 i hi)) .rt (by simp) (EE 21) ⟨_,_,_,_,dH w0 _ _ _,hT,Ej w0 b o K m j b' o' (Ns j) m' k (fs j k) _,rfl,hj,ho,bR hk,rfl,hj,ho,rfl,hk,dL hb' hr' hk,rfl,l256 k hk,by rw[decide_eq_false k2]; rfl,trivial⟩ hA fun a w hA=>bad hA
 ·rw[if_neg hs];obtain⟨j,hj,h1,h2⟩:=dZ (p:=fun j=>Ns j≤65536) hs;obtain⟨p,m',e,_⟩:=hl j hj;have ho:=iL hb hr hj;rw[e]at ho;exact cC aJ (fun i=>KG (aV b o K m) (.slice pu M mu) i) j (fun i hi=>step i (by omega) (h1 i hi)) .rt (by simp) (EE 72) ⟨_,_,_,_,dH w0 _ _ _,hT,En w0 b o K m j p (Ns j) m' _,bR hj,rfl,hj,ho,TX h2,trivial⟩ hA fun a w hA=>bad hA
end Go.Proofs.Ytiginhbnaloghaa.Ex
