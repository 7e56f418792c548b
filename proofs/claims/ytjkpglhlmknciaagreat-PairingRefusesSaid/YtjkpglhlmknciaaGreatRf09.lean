/- Rf09 -/
import Derived.Deep.DeepCutAuto
import Derived.Test.YtjkpglhlmknciaaGreatRf08
import Derived.Test.YtjkpglhlmknciaaGreatRf07
import Derived.Test.YtjkpglhlmknciaaGreatRf06
import Derived.Test.YtjkpglhlmknciaaGreatRf03
import Derived.Test.YtjkpglhlmknciaaGreatRf02
import Derived.Test.YtjkpglhlmknciaaGreatProg
set_option maxRecDepth 100000
set_option linter.unusedVariables false
set_option linter.unusedSimpArgs false
set_option linter.unnecessarySimpa false
noncomputable section
namespace Go.Proofs.YtjkpglhlmknciaaGreat
open Go.Proofs.Tryz
open Go.RowKit
set_option maxHeartbeats 2000000 in
theorem QF (f:Int) (F:FC) (hf:FieldIs f F) (w:World):Calls prog 121 #[.int .i64 f] w fun e w'=>e=.returned (.agg #[.int .u64 F.s0,.int .u64 F.s1,.int .u64 F.s2,.int .u64 F.s3])∧Below w.heap.size w w':=by
 rcases hf with⟨rfl,rfl⟩|⟨rfl,rfl⟩
 ·go_enter func121,ntmps121
  go_wp2_with fail;refine bodyPost_ret (v:=.agg #[.int .u64 FP.s0,.int .u64 FP.s1,.int .u64 FP.s2,.int .u64 FP.s3]) (by simp[results,results121,go_sem,FP]) rfl ?_;refine⟨rfl,?_⟩
  repeat (first|exact Below.refl _ _|refine Below.drew ?_|refine Below.alloc ?_ (by first|(simp; done)|(simp; omega)) _|refine Below.setCell ?_ (by simp) _)
 ·go_enter func121,ntmps121
  go_wp2_with fail;refine bodyPost_ret (v:=.agg #[.int .u64 FR.s0,.int .u64 FR.s1,.int .u64 FR.s2,.int .u64 FR.s3]) (by simp[results,results121,go_sem,FR]) rfl ?_;refine⟨rfl,?_⟩
  repeat (first|exact Below.refl _ _|refine Below.drew ?_|refine Below.alloc ?_ (by first|(simp; done)|(simp; omega)) _|refine Below.setCell ?_ (by simp) _)
set_option maxHeartbeats 2000000 in
theorem GG (f:Int) (F:FC) (hf:FieldIs f F) (a0 a1 a2 a3 b0 b1 b2 b3:Nat) (ha:bV a0 a1 a2 a3) (hb:bV b0 b1 b2 b3) (w:World) :
  Calls prog 75 #[.int .i64 f,.agg #[.int .u64 a0,.int .u64 a1,.int .u64 a2,.int .u64 a3],.agg #[.int .u64 b0,.int .u64 b1,.int .u64 b2,.int .u64 b3]] w (fC ((aC a0 a1 a2 a3+aC b0 b1 b2 b3)%F.M) w):=by
 have hpos:=hf.ok.pos;have h2M:=hf.ok.two
 go_enter func75,ntmps75
 go_wp2_with fail;have HM:=Lib.hid ((((Mem.nil w).new (w.heap.size) a0 a1 a2 a3 27 (by simp)).new (w.heap.size+1) b0 b1 b2 b3 27 (by simp)).new (w.heap.size+1+1) 0 0 0 0 27 (by simp))
 go_upto_region 1 with fail
 go_cut [7] (fun s7 wx=>∃gb s0 s1 s2 s3:Nat,s7=.pointer (some ⟨gb,0,none⟩)∧bV s0 s1 s2 s3∧Hid (aC s0 s1 s2 s3=aC a0 a1 a2 a3%F.M+aC b0 b1 b2 b3%F.M)∧Hid (Mem w wx [(gb,s0,s1,s2,s3),(w.heap.size+1+1,0,0,0,0)]))
 case first =>
  refine eH (fun wx=>Mem w wx [(w.heap.size+1+1,0,0,0,0),(w.heap.size+1,b0,b1,b2,b3),(w.heap.size,a0,a1,a2,a3)]) 12 (by kernel_rfl) ?_;have HM':=Lib.hid (HM.out.drewN 1);clear HM;have HM:=HM';clear HM';have HS:=HM.out.sub (rs':=[(w.heap.size+1+1,0,0,0,0),(w.heap.size+1,b0,b1,b2,b3),(w.heap.size,a0,a1,a2,a3)]) (by simp);refine aK (i:=0) (v:=.int .i64 f) rfl (by kernel_rfl) (by kernel_rfl) (by kernel_rfl) (by kernel_rfl) (fun _ _ _ h=>h) HS (Or.inl ⟨by kernel_rfl,fun wx hx => ?_⟩) ?_
  ·clear HS hx;go_simp
  simp only[Act.put,List.setIfInBounds_toArray,List.set_cons_zero,List.set_cons_succ];refine aK (i:=1) (v:=.agg #[.int .u64 a0,.int .u64 a1,.int .u64 a2,.int .u64 a3]) rfl (by kernel_rfl) (by kernel_rfl) (by kernel_rfl) (by kernel_rfl) (fun _ _ _ h=>h) HS (Or.inl ⟨by kernel_rfl,fun wx hx => ?_⟩) ?_
  ·have kr:=hx.row (b:=w.heap.size) (c0:=a0) (c1:=a1) (c2:=a2) (c3:=a3) (by simp);have x0:=kr.c0; have x1:=kr.c1; have x2:=kr.c2; have x3:=kr.c3;clear kr HS hx;go_simp
  simp only[Act.put,List.setIfInBounds_toArray,List.set_cons_zero,List.set_cons_succ];refine aK (i:=3) (v:=.int .i64 f) rfl (by kernel_rfl) (by kernel_rfl) (by kernel_rfl) (by kernel_rfl) (fun _ _ _ h=>h) HS (Or.inl ⟨by kernel_rfl,fun wx hx => ?_⟩) ?_
  ·clear HS hx;go_simp
  simp only[Act.put,List.setIfInBounds_toArray,List.set_cons_zero,List.set_cons_succ];refine aK (i:=4) (v:=.agg #[.int .u64 b0,.int .u64 b1,.int .u64 b2,.int .u64 b3]) rfl (by kernel_rfl) (by kernel_rfl) (by kernel_rfl) (by kernel_rfl) (fun _ _ _ h=>h) HS (Or.inl ⟨by kernel_rfl,fun wx hx => ?_⟩) ?_
  ·have kr:=hx.row (b:=w.heap.size+1) (c0:=b0) (c1:=b1) (c2:=b2) (c3:=b3) (by simp);have x0:=kr.c0; have x1:=kr.c1; have x2:=kr.c2; have x3:=kr.c3;clear kr HS hx;go_simp
  simp only[Act.put,List.setIfInBounds_toArray,List.set_cons_zero,List.set_cons_succ];clear HS;refine sI (i:=2) (j:=10) (by kernel_rfl) rfl rfl (fun K hK => ?_) (fun K hK => ?_)
  ·go_simp;refine (fL f F hf a0 a1 a2 a3 ha _).mono ?_
   rintro e v1 ⟨x0,x1,x2,x3,rfl,hx,hv,hbl⟩
   have HVx:=Lib.hid hv;clear hv;have HM':=Lib.hid (HM.out.on hbl);clear HM hbl;have HM:=HM';clear HM';have HS:=(HM.out.sub (rs':=[(w.heap.size+1+1,0,0,0,0),(w.heap.size+1,b0,b1,b2,b3),(w.heap.size,a0,a1,a2,a3)]) (by simp));refine hK.out _ _ (Or.inr HS) (fun _ => ?_);clear hK K HS;refine sI (i:=5) (j:=10) (by kernel_rfl) rfl rfl (fun K hK => ?_) (fun K hK => ?_)
   ·go_simp;refine (fL f F hf b0 b1 b2 b3 hb _).mono ?_
    rintro e v2 ⟨y0,y1,y2,y3,rfl,hy,hv,hbl⟩
    have HVy:=Lib.hid hv;clear hv;have HM':=Lib.hid (HM.out.on hbl);clear HM hbl;have HM:=HM';clear HM';have HS:=(HM.out.sub (rs':=[(w.heap.size+1+1,0,0,0,0),(w.heap.size+1,b0,b1,b2,b3),(w.heap.size,a0,a1,a2,a3)]) (by simp));refine hK.out _ _ (Or.inr HS) (fun _ => ?_);clear hK K HS;refine sI (i:=6) (j:=10) (by kernel_rfl) rfl rfl (fun K hK => ?_) (fun K hK => ?_)
    ·go_simp;refine (kV x0 x1 x2 x3 y0 y1 y2 y3 hx hy _).mono ?_
     rintro e v3 ⟨s0,s1,s2,s3,cc,rfl,hs,hcc,hv,hbl⟩
     have HVs:=Lib.hid (show aC s0 s1 s2 s3=aC a0 a1 a2 a3%F.M+aC b0 b1 b2 b3%F.M by have:=Nat.mod_lt (aC a0 a1 a2 a3) hpos; have:=Nat.mod_lt (aC b0 b1 b2 b3) hpos; rw[HVx.out,HVy.out]at hv; omega);clear hv;have HM':=Lib.hid (HM.out.on hbl);clear HM hbl;have HM:=HM';clear HM';have HS:=(HM.out.sub (rs':=[(w.heap.size+1+1,0,0,0,0),(w.heap.size+1,b0,b1,b2,b3),(w.heap.size,a0,a1,a2,a3)]) (by simp));refine hK.out _ _ (Or.inr HS) (fun _ => ?_);clear hK K HS;have HS:=HM.out.sub (rs':=[(w.heap.size+1+1,0,0,0,0),(w.heap.size+1,b0,b1,b2,b3),(w.heap.size,a0,a1,a2,a3)]) (by simp);refine aK (i:=7) (v:=.tuple #[.agg #[.int .u64 s0,.int .u64 s1,.int .u64 s2,.int .u64 s3],.int .u64 (cc:Nat)]) rfl (by kernel_rfl) (by kernel_rfl) (by kernel_rfl) (by kernel_rfl) (fun _ _ _ h=>h) HS (Or.inl ⟨by kernel_rfl,fun wx hx => ?_⟩) ?_
     ·clear HS hx;go_simp
     simp only[Act.put,List.setIfInBounds_toArray,List.set_cons_zero,List.set_cons_succ];refine aK (i:=8) (v:=.agg #[.int .u64 s0,.int .u64 s1,.int .u64 s2,.int .u64 s3]) rfl (by kernel_rfl) (by kernel_rfl) (by kernel_rfl) (by kernel_rfl) (fun _ _ _ h=>h) HS (Or.inl ⟨by kernel_rfl,fun wx hx => ?_⟩) ?_
     ·clear HS hx;go_simp
     simp only[Act.put,List.setIfInBounds_toArray,List.set_cons_zero,List.set_cons_succ];refine aK (i:=9) (v:=.int .u64 (cc:Nat)) rfl (by kernel_rfl) (by kernel_rfl) (by kernel_rfl) (by kernel_rfl) (fun _ _ _ h=>h) HS (Or.inl ⟨by kernel_rfl,fun wx hx => ?_⟩) ?_
     ·clear HS hx;go_simp
     simp only[Act.put,List.setIfInBounds_toArray,List.set_cons_zero,List.set_cons_succ];clear HS;refine aN (i:=10) (by kernel_rfl) rfl (fun K hK => ?_);go_simp;have HM9:=HM;have HM':=Lib.hid (HM.out.new (v3.heap.size) 0 0 0 0 67 (by first|rfl|(simp; done)));have hga:w.heap.size+1+1<(v3.heap.size):=by first|exact HM.out.lt (b:=w.heap.size+1+1) (c0:=0) (c1:=0) (c2:=0) (c3:=0) (by simp)|simpa using HM.out.lt (b:=w.heap.size+1+1) (c0:=0) (c1:=0) (c2:=0) (c3:=0) (by simp)|(have:=HM.out.lt (b:=w.heap.size+1+1) (c0:=0) (c1:=0) (c2:=0) (c3:=0) (by simp); simp at this ⊢; omega)
     clear HM;have HM:=HM';clear HM';have HS:=(HM.out.sub (rs':=[(w.heap.size+1+1,0,0,0,0),(w.heap.size+1,b0,b1,b2,b3),(w.heap.size,a0,a1,a2,a3)]) (by simp));refine hK.out _ _ (Or.inr HS) (fun _ => ?_);clear hK K HS;have kr:=HM.out.row (b:=(v3.heap.size)) (c0:=0) (c1:=0) (c2:=0) (c3:=0) (by simp);have yl:=HM.out.lt (b:=(v3.heap.size)) (c0:=0) (c1:=0) (c2:=0) (c3:=0) (by simp);have y0:=kr.c0; have y1:=kr.c1; have y2:=kr.c2; have y3:=kr.c3; have yf:=kr.fr;clear kr;refine aN (i:=11) (by kernel_rfl) rfl (fun K hK => ?_);go_simp;have HM':=Lib.hid (HM9.out.new (v3.heap.size) s0 s1 s2 s3 67 (by first|rfl|(simp; done)));clear HM;have HM:=HM';clear HM';have HS:=(HM.out.sub (rs':=[(w.heap.size+1+1,0,0,0,0),(w.heap.size+1,b0,b1,b2,b3),(w.heap.size,a0,a1,a2,a3)]) (by simp));refine hK.out _ _ (Or.inr HS) (fun _ => ?_);clear hK K HS;refine aN (i:=12) (by kernel_rfl) rfl (fun K hK => ?_);go_simp;refine hK.out _ _ (Or.inl rfl) (fun _ => ?_);clear hK K;refine dJ (by kernel_rfl) ?_;go_wp2_with fail
     go_meet
     exact⟨(v3.heap.size),s0,s1,s2,s3,rfl,hs,HVs,Lib.hid (HM.out.sub (by simp))⟩
    ·go_simp;have HM9:=HM;have HM':=Lib.hid (HM.out.new (v2.heap.size) 0 0 0 0 67 (by first|rfl|(simp; done)));have hga:w.heap.size+1+1<(v2.heap.size):=by first|exact HM.out.lt (b:=w.heap.size+1+1) (c0:=0) (c1:=0) (c2:=0) (c3:=0) (by simp)|simpa using HM.out.lt (b:=w.heap.size+1+1) (c0:=0) (c1:=0) (c2:=0) (c3:=0) (by simp)|(have:=HM.out.lt (b:=w.heap.size+1+1) (c0:=0) (c1:=0) (c2:=0) (c3:=0) (by simp); simp at this ⊢; omega)
     clear HM;have HM:=HM';clear HM';have HS:=(HM.out.sub (rs':=[(w.heap.size+1+1,0,0,0,0),(w.heap.size+1,b0,b1,b2,b3),(w.heap.size,a0,a1,a2,a3)]) (by simp));refine hK.out _ _ (Or.inr HS) (fun _ => ?_);clear hK K HS;refine aN (i:=6) (by kernel_rfl) rfl (fun K hK => ?_);go_simp;refine (kV x0 x1 x2 x3 y0 y1 y2 y3 hx hy _).mono ?_
     rintro e v3 ⟨s0,s1,s2,s3,cc,rfl,hs,hcc,hv,hbl⟩
     have HVs:=Lib.hid (show aC s0 s1 s2 s3=aC a0 a1 a2 a3%F.M+aC b0 b1 b2 b3%F.M by have:=Nat.mod_lt (aC a0 a1 a2 a3) hpos; have:=Nat.mod_lt (aC b0 b1 b2 b3) hpos; rw[HVx.out,HVy.out]at hv; omega);clear hv;have HM':=Lib.hid (HM.out.on hbl);clear HM hbl;have HM:=HM';clear HM';have HS:=(HM.out.sub (rs':=[(w.heap.size+1+1,0,0,0,0),(w.heap.size+1,b0,b1,b2,b3),(w.heap.size,a0,a1,a2,a3)]) (by simp));refine hK.out _ _ (Or.inr HS) (fun _ => ?_);clear hK K HS;have HS:=HM.out.sub (rs':=[(w.heap.size+1+1,0,0,0,0),(w.heap.size+1,b0,b1,b2,b3),(w.heap.size,a0,a1,a2,a3)]) (by simp);refine aK (i:=7) (v:=.tuple #[.agg #[.int .u64 s0,.int .u64 s1,.int .u64 s2,.int .u64 s3],.int .u64 (cc:Nat)]) rfl (by kernel_rfl) (by kernel_rfl) (by kernel_rfl) (by kernel_rfl) (fun _ _ _ h=>h) HS (Or.inl ⟨by kernel_rfl,fun wx hx => ?_⟩) ?_
     ·clear HS hx;go_simp
     simp only[Act.put,List.setIfInBounds_toArray,List.set_cons_zero,List.set_cons_succ];refine aK (i:=8) (v:=.agg #[.int .u64 s0,.int .u64 s1,.int .u64 s2,.int .u64 s3]) rfl (by kernel_rfl) (by kernel_rfl) (by kernel_rfl) (by kernel_rfl) (fun _ _ _ h=>h) HS (Or.inl ⟨by kernel_rfl,fun wx hx => ?_⟩) ?_
     ·clear HS hx;go_simp
     simp only[Act.put,List.setIfInBounds_toArray,List.set_cons_zero,List.set_cons_succ];refine aK (i:=9) (v:=.int .u64 (cc:Nat)) rfl (by kernel_rfl) (by kernel_rfl) (by kernel_rfl) (by kernel_rfl) (fun _ _ _ h=>h) HS (Or.inl ⟨by kernel_rfl,fun wx hx => ?_⟩) ?_
     ·clear HS hx;go_simp
     simp only[Act.put,List.setIfInBounds_toArray,List.set_cons_zero,List.set_cons_succ];clear HS;have kr:=HM.out.row (b:=(v2.heap.size)) (c0:=0) (c1:=0) (c2:=0) (c3:=0) (by simp);have yl:=HM.out.lt (b:=(v2.heap.size)) (c0:=0) (c1:=0) (c2:=0) (c3:=0) (by simp);have y0:=kr.c0; have y1:=kr.c1; have y2:=kr.c2; have y3:=kr.c3; have yf:=kr.fr;clear kr;refine aN (i:=11) (by kernel_rfl) rfl (fun K hK => ?_);go_simp;have HM':=Lib.hid (HM.out.put s0 s1 s2 s3 (by omega) (by intro r hr; simp at hr; rcases hr with rfl|rfl|rfl<;>simp<;>omega));clear HM;have HM:=HM';clear HM';have HS:=(HM.out.sub (rs':=[(w.heap.size+1+1,0,0,0,0),(w.heap.size+1,b0,b1,b2,b3),(w.heap.size,a0,a1,a2,a3)]) (by simp));refine hK.out _ _ (Or.inr HS) (fun _ => ?_);clear hK K HS;refine aN (i:=12) (by kernel_rfl) rfl (fun K hK => ?_);go_simp;refine hK.out _ _ (Or.inl rfl) (fun _ => ?_);clear hK K;refine dJ (by kernel_rfl) ?_;go_wp2_with fail
     go_meet
     exact⟨(v2.heap.size),s0,s1,s2,s3,rfl,hs,HVs,Lib.hid (HM.out.sub (by simp))⟩
   ·go_simp;have HM9:=HM;have HM':=Lib.hid (HM.out.new (v1.heap.size) 0 0 0 0 67 (by first|rfl|(simp; done)));have hga:w.heap.size+1+1<(v1.heap.size):=by first|exact HM.out.lt (b:=w.heap.size+1+1) (c0:=0) (c1:=0) (c2:=0) (c3:=0) (by simp)|simpa using HM.out.lt (b:=w.heap.size+1+1) (c0:=0) (c1:=0) (c2:=0) (c3:=0) (by simp)|(have:=HM.out.lt (b:=w.heap.size+1+1) (c0:=0) (c1:=0) (c2:=0) (c3:=0) (by simp); simp at this ⊢; omega)
    clear HM;have HM:=HM';clear HM';have HS:=(HM.out.sub (rs':=[(w.heap.size+1+1,0,0,0,0),(w.heap.size+1,b0,b1,b2,b3),(w.heap.size,a0,a1,a2,a3)]) (by simp));refine hK.out _ _ (Or.inr HS) (fun _ => ?_);clear hK K HS;refine aN (i:=5) (by kernel_rfl) rfl (fun K hK => ?_);go_simp;refine (fL f F hf b0 b1 b2 b3 hb _).mono ?_
    rintro e v2 ⟨y0,y1,y2,y3,rfl,hy,hv,hbl⟩
    have HVy:=Lib.hid hv;clear hv;have HM':=Lib.hid (HM.out.on hbl);clear HM hbl;have HM:=HM';clear HM';have HS:=(HM.out.sub (rs':=[(w.heap.size+1+1,0,0,0,0),(w.heap.size+1,b0,b1,b2,b3),(w.heap.size,a0,a1,a2,a3)]) (by simp));refine hK.out _ _ (Or.inr HS) (fun _ => ?_);clear hK K HS;refine aN (i:=6) (by kernel_rfl) rfl (fun K hK => ?_);go_simp;refine (kV x0 x1 x2 x3 y0 y1 y2 y3 hx hy _).mono ?_
    rintro e v3 ⟨s0,s1,s2,s3,cc,rfl,hs,hcc,hv,hbl⟩
    have HVs:=Lib.hid (show aC s0 s1 s2 s3=aC a0 a1 a2 a3%F.M+aC b0 b1 b2 b3%F.M by have:=Nat.mod_lt (aC a0 a1 a2 a3) hpos; have:=Nat.mod_lt (aC b0 b1 b2 b3) hpos; rw[HVx.out,HVy.out]at hv; omega);clear hv;have HM':=Lib.hid (HM.out.on hbl);clear HM hbl;have HM:=HM';clear HM';have HS:=(HM.out.sub (rs':=[(w.heap.size+1+1,0,0,0,0),(w.heap.size+1,b0,b1,b2,b3),(w.heap.size,a0,a1,a2,a3)]) (by simp));refine hK.out _ _ (Or.inr HS) (fun _ => ?_);clear hK K HS;have HS:=HM.out.sub (rs':=[(w.heap.size+1+1,0,0,0,0),(w.heap.size+1,b0,b1,b2,b3),(w.heap.size,a0,a1,a2,a3)]) (by simp);refine aK (i:=7) (v:=.tuple #[.agg #[.int .u64 s0,.int .u64 s1,.int .u64 s2,.int .u64 s3],.int .u64 (cc:Nat)]) rfl (by kernel_rfl) (by kernel_rfl) (by kernel_rfl) (by kernel_rfl) (fun _ _ _ h=>h) HS (Or.inl ⟨by kernel_rfl,fun wx hx => ?_⟩) ?_
    ·clear HS hx;go_simp
    simp only[Act.put,List.setIfInBounds_toArray,List.set_cons_zero,List.set_cons_succ];refine aK (i:=8) (v:=.agg #[.int .u64 s0,.int .u64 s1,.int .u64 s2,.int .u64 s3]) rfl (by kernel_rfl) (by kernel_rfl) (by kernel_rfl) (by kernel_rfl) (fun _ _ _ h=>h) HS (Or.inl ⟨by kernel_rfl,fun wx hx => ?_⟩) ?_
    ·clear HS hx;go_simp
    simp only[Act.put,List.setIfInBounds_toArray,List.set_cons_zero,List.set_cons_succ];refine aK (i:=9) (v:=.int .u64 (cc:Nat)) rfl (by kernel_rfl) (by kernel_rfl) (by kernel_rfl) (by kernel_rfl) (fun _ _ _ h=>h) HS (Or.inl ⟨by kernel_rfl,fun wx hx => ?_⟩) ?_
    ·clear HS hx;go_simp
    simp only[Act.put,List.setIfInBounds_toArray,List.set_cons_zero,List.set_cons_succ];clear HS;have kr:=HM.out.row (b:=(v1.heap.size)) (c0:=0) (c1:=0) (c2:=0) (c3:=0) (by simp);have yl:=HM.out.lt (b:=(v1.heap.size)) (c0:=0) (c1:=0) (c2:=0) (c3:=0) (by simp);have y0:=kr.c0; have y1:=kr.c1; have y2:=kr.c2; have y3:=kr.c3; have yf:=kr.fr;clear kr;refine aN (i:=11) (by kernel_rfl) rfl (fun K hK => ?_);go_simp;have HM':=Lib.hid (HM.out.put s0 s1 s2 s3 (by omega) (by intro r hr; simp at hr; rcases hr with rfl|rfl|rfl<;>simp<;>omega));clear HM;have HM:=HM';clear HM';have HS:=(HM.out.sub (rs':=[(w.heap.size+1+1,0,0,0,0),(w.heap.size+1,b0,b1,b2,b3),(w.heap.size,a0,a1,a2,a3)]) (by simp));refine hK.out _ _ (Or.inr HS) (fun _ => ?_);clear hK K HS;refine aN (i:=12) (by kernel_rfl) rfl (fun K hK => ?_);go_simp;refine hK.out _ _ (Or.inl rfl) (fun _ => ?_);clear hK K;refine dJ (by kernel_rfl) ?_;go_wp2_with fail
    go_meet
    exact⟨(v1.heap.size),s0,s1,s2,s3,rfl,hs,HVs,Lib.hid (HM.out.sub (by simp))⟩
  ·go_simp;have HM9:=HM;have HM':=Lib.hid (HM.out.new (w.heap.size+1+1+1) 0 0 0 0 67 (by first|rfl|(simp; done)));have hga:w.heap.size+1+1<(w.heap.size+1+1+1):=by first|exact HM.out.lt (b:=w.heap.size+1+1) (c0:=0) (c1:=0) (c2:=0) (c3:=0) (by simp)|simpa using HM.out.lt (b:=w.heap.size+1+1) (c0:=0) (c1:=0) (c2:=0) (c3:=0) (by simp)|(have:=HM.out.lt (b:=w.heap.size+1+1) (c0:=0) (c1:=0) (c2:=0) (c3:=0) (by simp); simp at this ⊢; omega)
   clear HM;have HM:=HM';clear HM';have HS:=(HM.out.sub (rs':=[(w.heap.size+1+1,0,0,0,0),(w.heap.size+1,b0,b1,b2,b3),(w.heap.size,a0,a1,a2,a3)]) (by simp));refine hK.out _ _ (Or.inr HS) (fun _ => ?_);clear hK K HS;refine aN (i:=2) (by kernel_rfl) rfl (fun K hK => ?_);go_simp;refine (fL f F hf a0 a1 a2 a3 ha _).mono ?_
   rintro e v1 ⟨x0,x1,x2,x3,rfl,hx,hv,hbl⟩
   have HVx:=Lib.hid hv;clear hv;have HM':=Lib.hid (HM.out.on hbl);clear HM hbl;have HM:=HM';clear HM';have HS:=(HM.out.sub (rs':=[(w.heap.size+1+1,0,0,0,0),(w.heap.size+1,b0,b1,b2,b3),(w.heap.size,a0,a1,a2,a3)]) (by simp));refine hK.out _ _ (Or.inr HS) (fun _ => ?_);clear hK K HS;refine aN (i:=5) (by kernel_rfl) rfl (fun K hK => ?_);go_simp;refine (fL f F hf b0 b1 b2 b3 hb _).mono ?_
   rintro e v2 ⟨y0,y1,y2,y3,rfl,hy,hv,hbl⟩
   have HVy:=Lib.hid hv;clear hv;have HM':=Lib.hid (HM.out.on hbl);clear HM hbl;have HM:=HM';clear HM';have HS:=(HM.out.sub (rs':=[(w.heap.size+1+1,0,0,0,0),(w.heap.size+1,b0,b1,b2,b3),(w.heap.size,a0,a1,a2,a3)]) (by simp));refine hK.out _ _ (Or.inr HS) (fun _ => ?_);clear hK K HS;refine aN (i:=6) (by kernel_rfl) rfl (fun K hK => ?_);go_simp;refine (kV x0 x1 x2 x3 y0 y1 y2 y3 hx hy _).mono ?_
   rintro e v3 ⟨s0,s1,s2,s3,cc,rfl,hs,hcc,hv,hbl⟩
   have HVs:=Lib.hid (show aC s0 s1 s2 s3=aC a0 a1 a2 a3%F.M+aC b0 b1 b2 b3%F.M by have:=Nat.mod_lt (aC a0 a1 a2 a3) hpos; have:=Nat.mod_lt (aC b0 b1 b2 b3) hpos; rw[HVx.out,HVy.out]at hv; omega);clear hv;have HM':=Lib.hid (HM.out.on hbl);clear HM hbl;have HM:=HM';clear HM';have HS:=(HM.out.sub (rs':=[(w.heap.size+1+1,0,0,0,0),(w.heap.size+1,b0,b1,b2,b3),(w.heap.size,a0,a1,a2,a3)]) (by simp));refine hK.out _ _ (Or.inr HS) (fun _ => ?_);clear hK K HS;have HS:=HM.out.sub (rs':=[(w.heap.size+1+1,0,0,0,0),(w.heap.size+1,b0,b1,b2,b3),(w.heap.size,a0,a1,a2,a3)]) (by simp);refine aK (i:=7) (v:=.tuple #[.agg #[.int .u64 s0,.int .u64 s1,.int .u64 s2,.int .u64 s3],.int .u64 (cc:Nat)]) rfl (by kernel_rfl) (by kernel_rfl) (by kernel_rfl) (by kernel_rfl) (fun _ _ _ h=>h) HS (Or.inl ⟨by kernel_rfl,fun wx hx => ?_⟩) ?_
   ·clear HS hx;go_simp
   simp only[Act.put,List.setIfInBounds_toArray,List.set_cons_zero,List.set_cons_succ];refine aK (i:=8) (v:=.agg #[.int .u64 s0,.int .u64 s1,.int .u64 s2,.int .u64 s3]) rfl (by kernel_rfl) (by kernel_rfl) (by kernel_rfl) (by kernel_rfl) (fun _ _ _ h=>h) HS (Or.inl ⟨by kernel_rfl,fun wx hx => ?_⟩) ?_
   ·clear HS hx;go_simp
   simp only[Act.put,List.setIfInBounds_toArray,List.set_cons_zero,List.set_cons_succ];refine aK (i:=9) (v:=.int .u64 (cc:Nat)) rfl (by kernel_rfl) (by kernel_rfl) (by kernel_rfl) (by kernel_rfl) (fun _ _ _ h=>h) HS (Or.inl ⟨by kernel_rfl,fun wx hx => ?_⟩) ?_
   ·clear HS hx;go_simp
   simp only[Act.put,List.setIfInBounds_toArray,List.set_cons_zero,List.set_cons_succ];clear HS;have kr:=HM.out.row (b:=(w.heap.size+1+1+1)) (c0:=0) (c1:=0) (c2:=0) (c3:=0) (by simp);have yl:=HM.out.lt (b:=(w.heap.size+1+1+1)) (c0:=0) (c1:=0) (c2:=0) (c3:=0) (by simp);have y0:=kr.c0; have y1:=kr.c1; have y2:=kr.c2; have y3:=kr.c3; have yf:=kr.fr;clear kr;refine aN (i:=11) (by kernel_rfl) rfl (fun K hK => ?_);go_simp;have HM':=Lib.hid (HM.out.put s0 s1 s2 s3 (by omega) (by intro r hr; simp at hr; rcases hr with rfl|rfl|rfl<;>simp<;>omega));clear HM;have HM:=HM';clear HM';have HS:=(HM.out.sub (rs':=[(w.heap.size+1+1,0,0,0,0),(w.heap.size+1,b0,b1,b2,b3),(w.heap.size,a0,a1,a2,a3)]) (by simp));refine hK.out _ _ (Or.inr HS) (fun _ => ?_);clear hK K HS;refine aN (i:=12) (by kernel_rfl) rfl (fun K hK => ?_);go_simp;refine hK.out _ _ (Or.inl rfl) (fun _ => ?_);clear hK K;refine dJ (by kernel_rfl) ?_;go_wp2_with fail
   go_meet
   exact⟨(w.heap.size+1+1+1),s0,s1,s2,s3,rfl,hs,HVs,Lib.hid (HM.out.sub (by simp))⟩
 case rest =>
  obtain⟨gb,s0,s1,s2,s3,rfl,hs,HVs,HM'⟩:=hcut;clear HM;have HM:=HM';clear HM';have kr:=HM.out.row (b:=gb) (c0:=s0) (c1:=s1) (c2:=s2) (c3:=s3) (by simp);have x0:=kr.c0; have x1:=kr.c1; have x2:=kr.c2; have x3:=kr.c3;clear kr;have xl:=HM.out.lt (b:=gb) (c0:=s0) (c1:=s1) (c2:=s2) (c3:=s3) (by simp);go_wp2_with fail;refine (fL f F hf s0 s1 s2 s3 hs _).mono ?_
  rintro e w5 ⟨r0,r1,r2,r3,rfl,hr,hv,hbl⟩
  have HVr:=Lib.hid (show aC r0 r1 r2 r3=(aC a0 a1 a2 a3+aC b0 b1 b2 b3)%F.M by rw[hv,HVs.out,←Nat.add_mod]);clear hv;have HM':=Lib.hid (HM.out.on hbl);clear HM hbl;have HM:=HM';clear HM';clear x0 x1 x2 x3 xl;have kr:=HM.out.row (b:=w.heap.size+1+1) (c0:=0) (c1:=0) (c2:=0) (c3:=0) (by simp);have y0:=kr.c0; have y1:=kr.c1; have y2:=kr.c2; have y3:=kr.c3; have yf:=kr.fr;clear kr;have yl:=HM.out.lt (b:=w.heap.size+1+1) (c0:=0) (c1:=0) (c2:=0) (c3:=0) (by simp);go_wp2_with fail;refine bodyPost_ret (v:=.agg #[.int .u64 r0,.int .u64 r1,.int .u64 r2,.int .u64 r3]) (by simp[results,results75,go_sem, *]) rfl ?_;refine⟨_,_,_,_,rfl,hr,HVr.out,?_⟩;exact bG HM.out.1 (by omega) _ _ _ _
set_option maxHeartbeats 2000000 in
theorem GE (f:Int) (F:FC) (hf:FieldIs f F) (a0 a1 a2 a3:Nat) (ha:bV a0 a1 a2 a3) (w:World) :
  Calls prog 152 #[.int .i64 f,.agg #[.int .u64 a0,.int .u64 a1,.int .u64 a2,.int .u64 a3]] w (fC ((F.M-aC a0 a1 a2 a3%F.M)%F.M) w):=by
 have hpos:=hf.ok.pos;have h2M:=hf.ok.two;have hG:=Cf
 go_enter func152,ntmps152
 go_wp2_with fail;have HM:=Lib.hid (((Mem.nil w).new (w.heap.size) a0 a1 a2 a3 27 (by simp)).new (w.heap.size+1) 0 0 0 0 27 (by simp));refine (fL f F hf a0 a1 a2 a3 ha _).mono ?_
 rintro e w1 ⟨x0,x1,x2,x3,rfl,hx,hv,hbl⟩
 have HVx:=Lib.hid hv;clear hv;have HM':=Lib.hid (HM.out.on hbl);clear HM hbl;have HM:=HM';clear HM';have hz1:w.heap.size+1<w1.heap.size:=HM.out.lt (b:=w.heap.size+1) (c0:=0) (c1:=0) (c2:=0) (c3:=0) (by simp);have HMo:=HM;have HM':=Lib.hid (HM.out.new w1.heap.size x0 x1 x2 x3 67 rfl);clear HM;have HM:=HM';clear HM'
 by_cases hz:aC a0 a1 a2 a3%F.M=0
 ·have hE:∀w,(Op.equalIn 10000 67 (.agg #[.int .u64 x0,.int .u64 x1,.int .u64 x2,.int .u64 x3]) (.agg #[.int .u64 0,.int .u64 0,.int .u64 0,.int .u64 0])).run prog w=.ok true w:=fun w=>by
   have h:=JI 9998 x0 x1 x2 x3 0 0 0 0 w;rw[(yV hx zok).2 (HVx.out.trans (hz.trans rfl))]at h;exact h
  have HZ:=Lib.hid hz;clear hz;have kr:=HMo.out.row (b:=w.heap.size+1) (c0:=0) (c1:=0) (c2:=0) (c3:=0) (by simp);have y0:=kr.c0; have y1:=kr.c1; have y2:=kr.c2; have y3:=kr.c3; have yf:=kr.fr;clear kr;go_wp2_with fail;refine bodyPost_ret (v:=.agg #[.int .u64 0,.int .u64 0,.int .u64 0,.int .u64 0]) (by simp[results,results152,go_sem, *]) rfl ?_;refine⟨_,_,_,_,rfl,zok,by rw[HZ.out,Nat.sub_zero,Nat.mod_self]; rfl,?_⟩
  repeat (first|exact HMo.out.1|refine Below.alloc ?_ (by first|(simp; done)|(simp; omega)) _|refine Below.setCell ?_ (by first|(simp; done)|(simp; omega)) _)
 ·have hE:∀w,(Op.equalIn 10000 67 (.agg #[.int .u64 x0,.int .u64 x1,.int .u64 x2,.int .u64 x3]) (.agg #[.int .u64 0,.int .u64 0,.int .u64 0,.int .u64 0])).run prog w=.ok false w:=fun w=>by
   have h:=JI 9998 x0 x1 x2 x3 0 0 0 0 w;rw[Xz (fun q=>hz (HVx.out.symm.trans (((yV hx zok).1 q).trans rfl)))]at h;exact h
  have HZ:=Lib.hid hz;clear hz HMo
  go_upto_region 4 with fail
  go_cut [6] (fun s6 wx=>∃gb s0 s1 s2 s3:Nat,s6=.pointer (some ⟨gb,0,none⟩)∧bV s0 s1 s2 s3∧Hid (aC s0 s1 s2 s3=F.M-aC a0 a1 a2 a3%F.M)∧Hid (Mem w wx [(gb,s0,s1,s2,s3),(w.heap.size+1,0,0,0,0)]))
  case first =>
   refine eH (fun wx=>Mem w wx [(w1.heap.size,x0,x1,x2,x3),(w.heap.size+1,0,0,0,0),(w.heap.size,a0,a1,a2,a3)]) 9 (by kernel_rfl) ?_;have HM':=Lib.hid (HM.out.drewN 1);clear HM;have HM:=HM';clear HM';have HS:=HM.out.sub (rs':=[(w1.heap.size,x0,x1,x2,x3),(w.heap.size+1,0,0,0,0),(w.heap.size,a0,a1,a2,a3)]) (by simp);refine aK (i:=0) (v:=.int .i64 f) rfl (by kernel_rfl) (by kernel_rfl) (by kernel_rfl) (by kernel_rfl) (fun _ _ _ h=>h) HS (Or.inl ⟨by kernel_rfl,fun wx hx => ?_⟩) ?_
   ·clear HS hx;go_simp
   simp only[Act.put,List.setIfInBounds_toArray,List.set_cons_zero,List.set_cons_succ];refine aK (i:=2) (v:=.agg #[.int .u64 x0,.int .u64 x1,.int .u64 x2,.int .u64 x3]) rfl (by kernel_rfl) (by kernel_rfl) (by kernel_rfl) (by kernel_rfl) (fun _ _ _ h=>h) HS (Or.inl ⟨by kernel_rfl,fun wx hx => ?_⟩) ?_
   ·have kr:=hx.row (b:=w1.heap.size) (c0:=x0) (c1:=x1) (c2:=x2) (c3:=x3) (by simp);have x0:=kr.c0; have x1:=kr.c1; have x2:=kr.c2; have x3:=kr.c3;clear kr HS hx;go_simp
   simp only[Act.put,List.setIfInBounds_toArray,List.set_cons_zero,List.set_cons_succ];clear HS;refine sI (i:=1) (j:=7) (by kernel_rfl) rfl rfl (fun K hK => ?_) (fun K hK => ?_)
   ·go_simp;refine (jH f F hf _).mono ?_
    rintro e v1 ⟨rfl,hbl⟩
    have HM':=Lib.hid (HM.out.on hbl);clear HM hbl;have HM:=HM';clear HM';have HS:=(HM.out.sub (rs':=[(w1.heap.size,x0,x1,x2,x3),(w.heap.size+1,0,0,0,0),(w.heap.size,a0,a1,a2,a3)]) (by simp));refine hK.out _ _ (Or.inr HS) (fun _ => ?_);clear hK K HS;refine sI (i:=3) (j:=7) (by kernel_rfl) rfl rfl (fun K hK => ?_) (fun K hK => ?_)
    ·go_simp;refine (jR F.m0 F.m1 F.m2 F.m3 x0 x1 x2 x3 hf.ok.okm hx _).mono ?_
     rintro e v2 ⟨s0,s1,s2,s3,cc,rfl,hs,hcc,hv,hbl⟩
     have HVs:=Lib.hid (show aC s0 s1 s2 s3=F.M-aC a0 a1 a2 a3%F.M by have:=Nat.mod_lt (aC a0 a1 a2 a3) hpos; have:=bK hs; rw[HVx.out,show aC F.m0 F.m1 F.m2 F.m3=F.M from rfl]at hv; omega);clear hv;have HM':=Lib.hid (HM.out.on hbl);clear HM hbl;have HM:=HM';clear HM';have HS:=(HM.out.sub (rs':=[(w1.heap.size,x0,x1,x2,x3),(w.heap.size+1,0,0,0,0),(w.heap.size,a0,a1,a2,a3)]) (by simp));refine hK.out _ _ (Or.inr HS) (fun _ => ?_);clear hK K HS;have HS:=HM.out.sub (rs':=[(w1.heap.size,x0,x1,x2,x3),(w.heap.size+1,0,0,0,0),(w.heap.size,a0,a1,a2,a3)]) (by simp);refine aK (i:=4) (v:=.tuple #[.agg #[.int .u64 s0,.int .u64 s1,.int .u64 s2,.int .u64 s3],.int .u64 (cc:Nat)]) rfl (by kernel_rfl) (by kernel_rfl) (by kernel_rfl) (by kernel_rfl) (fun _ _ _ h=>h) HS (Or.inl ⟨by kernel_rfl,fun wx hx => ?_⟩) ?_
     ·clear HS hx;go_simp
     simp only[Act.put,List.setIfInBounds_toArray,List.set_cons_zero,List.set_cons_succ];refine aK (i:=5) (v:=.agg #[.int .u64 s0,.int .u64 s1,.int .u64 s2,.int .u64 s3]) rfl (by kernel_rfl) (by kernel_rfl) (by kernel_rfl) (by kernel_rfl) (fun _ _ _ h=>h) HS (Or.inl ⟨by kernel_rfl,fun wx hx => ?_⟩) ?_
     ·clear HS hx;go_simp
     simp only[Act.put,List.setIfInBounds_toArray,List.set_cons_zero,List.set_cons_succ];refine aK (i:=6) (v:=.int .u64 (cc:Nat)) rfl (by kernel_rfl) (by kernel_rfl) (by kernel_rfl) (by kernel_rfl) (fun _ _ _ h=>h) HS (Or.inl ⟨by kernel_rfl,fun wx hx => ?_⟩) ?_
     ·clear HS hx;go_simp
     simp only[Act.put,List.setIfInBounds_toArray,List.set_cons_zero,List.set_cons_succ];clear HS;refine aN (i:=7) (by kernel_rfl) rfl (fun K hK => ?_);go_simp;have HM9:=HM;have HM':=Lib.hid (HM.out.new (v2.heap.size) 0 0 0 0 67 (by first|rfl|(simp; done)));have hga:w1.heap.size<(v2.heap.size):=by first|exact HM.out.lt (b:=w1.heap.size) (c0:=x0) (c1:=x1) (c2:=x2) (c3:=x3) (by simp)|simpa using HM.out.lt (b:=w1.heap.size) (c0:=x0) (c1:=x1) (c2:=x2) (c3:=x3) (by simp)|(have:=HM.out.lt (b:=w1.heap.size) (c0:=x0) (c1:=x1) (c2:=x2) (c3:=x3) (by simp); simp at this ⊢; omega)
     clear HM;have HM:=HM';clear HM';have HS:=(HM.out.sub (rs':=[(w1.heap.size,x0,x1,x2,x3),(w.heap.size+1,0,0,0,0),(w.heap.size,a0,a1,a2,a3)]) (by simp));refine hK.out _ _ (Or.inr HS) (fun _ => ?_);clear hK K HS;have kr:=HM.out.row (b:=(v2.heap.size)) (c0:=0) (c1:=0) (c2:=0) (c3:=0) (by simp);have yl:=HM.out.lt (b:=(v2.heap.size)) (c0:=0) (c1:=0) (c2:=0) (c3:=0) (by simp);have y0:=kr.c0; have y1:=kr.c1; have y2:=kr.c2; have y3:=kr.c3; have yf:=kr.fr;clear kr;refine aN (i:=8) (by kernel_rfl) rfl (fun K hK => ?_);go_simp;have HM':=Lib.hid (HM9.out.new (v2.heap.size) s0 s1 s2 s3 67 (by first|rfl|(simp; done)));clear HM;have HM:=HM';clear HM';have HS:=(HM.out.sub (rs':=[(w1.heap.size,x0,x1,x2,x3),(w.heap.size+1,0,0,0,0),(w.heap.size,a0,a1,a2,a3)]) (by simp));refine hK.out _ _ (Or.inr HS) (fun _ => ?_);clear hK K HS;refine aN (i:=9) (by kernel_rfl) rfl (fun K hK => ?_);go_simp;refine hK.out _ _ (Or.inl rfl) (fun _ => ?_);clear hK K;refine dJ (by kernel_rfl) ?_;go_wp2_with fail
     go_meet
     exact⟨(v2.heap.size),s0,s1,s2,s3,rfl,hs,HVs,Lib.hid (HM.out.sub (by simp))⟩
    ·go_simp;have HM9:=HM;have HM':=Lib.hid (HM.out.new (v1.heap.size) 0 0 0 0 67 (by first|rfl|(simp; done)));have hga:w1.heap.size<(v1.heap.size):=by first|exact HM.out.lt (b:=w1.heap.size) (c0:=x0) (c1:=x1) (c2:=x2) (c3:=x3) (by simp)|simpa using HM.out.lt (b:=w1.heap.size) (c0:=x0) (c1:=x1) (c2:=x2) (c3:=x3) (by simp)|(have:=HM.out.lt (b:=w1.heap.size) (c0:=x0) (c1:=x1) (c2:=x2) (c3:=x3) (by simp); simp at this ⊢; omega)
     clear HM;have HM:=HM';clear HM';have HS:=(HM.out.sub (rs':=[(w1.heap.size,x0,x1,x2,x3),(w.heap.size+1,0,0,0,0),(w.heap.size,a0,a1,a2,a3)]) (by simp));refine hK.out _ _ (Or.inr HS) (fun _ => ?_);clear hK K HS;refine aN (i:=3) (by kernel_rfl) rfl (fun K hK => ?_);go_simp;refine (jR F.m0 F.m1 F.m2 F.m3 x0 x1 x2 x3 hf.ok.okm hx _).mono ?_
     rintro e v2 ⟨s0,s1,s2,s3,cc,rfl,hs,hcc,hv,hbl⟩
     have HVs:=Lib.hid (show aC s0 s1 s2 s3=F.M-aC a0 a1 a2 a3%F.M by have:=Nat.mod_lt (aC a0 a1 a2 a3) hpos; have:=bK hs; rw[HVx.out,show aC F.m0 F.m1 F.m2 F.m3=F.M from rfl]at hv; omega);clear hv;have HM':=Lib.hid (HM.out.on hbl);clear HM hbl;have HM:=HM';clear HM';have HS:=(HM.out.sub (rs':=[(w1.heap.size,x0,x1,x2,x3),(w.heap.size+1,0,0,0,0),(w.heap.size,a0,a1,a2,a3)]) (by simp));refine hK.out _ _ (Or.inr HS) (fun _ => ?_);clear hK K HS;have HS:=HM.out.sub (rs':=[(w1.heap.size,x0,x1,x2,x3),(w.heap.size+1,0,0,0,0),(w.heap.size,a0,a1,a2,a3)]) (by simp);refine aK (i:=4) (v:=.tuple #[.agg #[.int .u64 s0,.int .u64 s1,.int .u64 s2,.int .u64 s3],.int .u64 (cc:Nat)]) rfl (by kernel_rfl) (by kernel_rfl) (by kernel_rfl) (by kernel_rfl) (fun _ _ _ h=>h) HS (Or.inl ⟨by kernel_rfl,fun wx hx => ?_⟩) ?_
     ·clear HS hx;go_simp
     simp only[Act.put,List.setIfInBounds_toArray,List.set_cons_zero,List.set_cons_succ];refine aK (i:=5) (v:=.agg #[.int .u64 s0,.int .u64 s1,.int .u64 s2,.int .u64 s3]) rfl (by kernel_rfl) (by kernel_rfl) (by kernel_rfl) (by kernel_rfl) (fun _ _ _ h=>h) HS (Or.inl ⟨by kernel_rfl,fun wx hx => ?_⟩) ?_
     ·clear HS hx;go_simp
     simp only[Act.put,List.setIfInBounds_toArray,List.set_cons_zero,List.set_cons_succ];refine aK (i:=6) (v:=.int .u64 (cc:Nat)) rfl (by kernel_rfl) (by kernel_rfl) (by kernel_rfl) (by kernel_rfl) (fun _ _ _ h=>h) HS (Or.inl ⟨by kernel_rfl,fun wx hx => ?_⟩) ?_
     ·clear HS hx;go_simp
     simp only[Act.put,List.setIfInBounds_toArray,List.set_cons_zero,List.set_cons_succ];clear HS;have kr:=HM.out.row (b:=(v1.heap.size)) (c0:=0) (c1:=0) (c2:=0) (c3:=0) (by simp);have yl:=HM.out.lt (b:=(v1.heap.size)) (c0:=0) (c1:=0) (c2:=0) (c3:=0) (by simp);have y0:=kr.c0; have y1:=kr.c1; have y2:=kr.c2; have y3:=kr.c3; have yf:=kr.fr;clear kr;refine aN (i:=8) (by kernel_rfl) rfl (fun K hK => ?_);go_simp;have HM':=Lib.hid (HM.out.put s0 s1 s2 s3 (by omega) (by intro r hr; simp at hr; rcases hr with rfl|rfl|rfl<;>simp<;>omega));clear HM;have HM:=HM';clear HM';have HS:=(HM.out.sub (rs':=[(w1.heap.size,x0,x1,x2,x3),(w.heap.size+1,0,0,0,0),(w.heap.size,a0,a1,a2,a3)]) (by simp));refine hK.out _ _ (Or.inr HS) (fun _ => ?_);clear hK K HS;refine aN (i:=9) (by kernel_rfl) rfl (fun K hK => ?_);go_simp;refine hK.out _ _ (Or.inl rfl) (fun _ => ?_);clear hK K;refine dJ (by kernel_rfl) ?_;go_wp2_with fail
     go_meet
     exact⟨(v1.heap.size),s0,s1,s2,s3,rfl,hs,HVs,Lib.hid (HM.out.sub (by simp))⟩
   ·go_simp;have HM9:=HM;have HM':=Lib.hid (HM.out.new (w1.heap.size+1) 0 0 0 0 67 (by first|rfl|(simp; done)));have hga:w1.heap.size<(w1.heap.size+1):=by first|exact HM.out.lt (b:=w1.heap.size) (c0:=x0) (c1:=x1) (c2:=x2) (c3:=x3) (by simp)|simpa using HM.out.lt (b:=w1.heap.size) (c0:=x0) (c1:=x1) (c2:=x2) (c3:=x3) (by simp)|(have:=HM.out.lt (b:=w1.heap.size) (c0:=x0) (c1:=x1) (c2:=x2) (c3:=x3) (by simp); simp at this ⊢; omega)
    clear HM;have HM:=HM';clear HM';have HS:=(HM.out.sub (rs':=[(w1.heap.size,x0,x1,x2,x3),(w.heap.size+1,0,0,0,0),(w.heap.size,a0,a1,a2,a3)]) (by simp));refine hK.out _ _ (Or.inr HS) (fun _ => ?_);clear hK K HS;refine aN (i:=1) (by kernel_rfl) rfl (fun K hK => ?_);go_simp;refine (jH f F hf _).mono ?_
    rintro e v1 ⟨rfl,hbl⟩
    have HM':=Lib.hid (HM.out.on hbl);clear HM hbl;have HM:=HM';clear HM';have HS:=(HM.out.sub (rs':=[(w1.heap.size,x0,x1,x2,x3),(w.heap.size+1,0,0,0,0),(w.heap.size,a0,a1,a2,a3)]) (by simp));refine hK.out _ _ (Or.inr HS) (fun _ => ?_);clear hK K HS;refine aN (i:=3) (by kernel_rfl) rfl (fun K hK => ?_);go_simp;refine (jR F.m0 F.m1 F.m2 F.m3 x0 x1 x2 x3 hf.ok.okm hx _).mono ?_
    rintro e v2 ⟨s0,s1,s2,s3,cc,rfl,hs,hcc,hv,hbl⟩
    have HVs:=Lib.hid (show aC s0 s1 s2 s3=F.M-aC a0 a1 a2 a3%F.M by have:=Nat.mod_lt (aC a0 a1 a2 a3) hpos; have:=bK hs; rw[HVx.out,show aC F.m0 F.m1 F.m2 F.m3=F.M from rfl]at hv; omega);clear hv;have HM':=Lib.hid (HM.out.on hbl);clear HM hbl;have HM:=HM';clear HM';have HS:=(HM.out.sub (rs':=[(w1.heap.size,x0,x1,x2,x3),(w.heap.size+1,0,0,0,0),(w.heap.size,a0,a1,a2,a3)]) (by simp));refine hK.out _ _ (Or.inr HS) (fun _ => ?_);clear hK K HS;have HS:=HM.out.sub (rs':=[(w1.heap.size,x0,x1,x2,x3),(w.heap.size+1,0,0,0,0),(w.heap.size,a0,a1,a2,a3)]) (by simp);refine aK (i:=4) (v:=.tuple #[.agg #[.int .u64 s0,.int .u64 s1,.int .u64 s2,.int .u64 s3],.int .u64 (cc:Nat)]) rfl (by kernel_rfl) (by kernel_rfl) (by kernel_rfl) (by kernel_rfl) (fun _ _ _ h=>h) HS (Or.inl ⟨by kernel_rfl,fun wx hx => ?_⟩) ?_
    ·clear HS hx;go_simp
    simp only[Act.put,List.setIfInBounds_toArray,List.set_cons_zero,List.set_cons_succ];refine aK (i:=5) (v:=.agg #[.int .u64 s0,.int .u64 s1,.int .u64 s2,.int .u64 s3]) rfl (by kernel_rfl) (by kernel_rfl) (by kernel_rfl) (by kernel_rfl) (fun _ _ _ h=>h) HS (Or.inl ⟨by kernel_rfl,fun wx hx => ?_⟩) ?_
    ·clear HS hx;go_simp
    simp only[Act.put,List.setIfInBounds_toArray,List.set_cons_zero,List.set_cons_succ];refine aK (i:=6) (v:=.int .u64 (cc:Nat)) rfl (by kernel_rfl) (by kernel_rfl) (by kernel_rfl) (by kernel_rfl) (fun _ _ _ h=>h) HS (Or.inl ⟨by kernel_rfl,fun wx hx => ?_⟩) ?_
    ·clear HS hx;go_simp
    simp only[Act.put,List.setIfInBounds_toArray,List.set_cons_zero,List.set_cons_succ];clear HS;have kr:=HM.out.row (b:=(w1.heap.size+1)) (c0:=0) (c1:=0) (c2:=0) (c3:=0) (by simp);have yl:=HM.out.lt (b:=(w1.heap.size+1)) (c0:=0) (c1:=0) (c2:=0) (c3:=0) (by simp);have y0:=kr.c0; have y1:=kr.c1; have y2:=kr.c2; have y3:=kr.c3; have yf:=kr.fr;clear kr;refine aN (i:=8) (by kernel_rfl) rfl (fun K hK => ?_);go_simp;have HM':=Lib.hid (HM.out.put s0 s1 s2 s3 (by omega) (by intro r hr; simp at hr; rcases hr with rfl|rfl|rfl<;>simp<;>omega));clear HM;have HM:=HM';clear HM';have HS:=(HM.out.sub (rs':=[(w1.heap.size,x0,x1,x2,x3),(w.heap.size+1,0,0,0,0),(w.heap.size,a0,a1,a2,a3)]) (by simp));refine hK.out _ _ (Or.inr HS) (fun _ => ?_);clear hK K HS;refine aN (i:=9) (by kernel_rfl) rfl (fun K hK => ?_);go_simp;refine hK.out _ _ (Or.inl rfl) (fun _ => ?_);clear hK K;refine dJ (by kernel_rfl) ?_;go_wp2_with fail
    go_meet
    exact⟨(w1.heap.size+1),s0,s1,s2,s3,rfl,hs,HVs,Lib.hid (HM.out.sub (by simp))⟩
  case rest =>
   obtain⟨gb,s0,s1,s2,s3,rfl,hs,HVs,HM'⟩:=hcut;clear HM;have HM:=HM';clear HM';have kr:=HM.out.row (b:=gb) (c0:=s0) (c1:=s1) (c2:=s2) (c3:=s3) (by simp);have x0:=kr.c0; have x1:=kr.c1; have x2:=kr.c2; have x3:=kr.c3;clear kr;have xl:=HM.out.lt (b:=gb) (c0:=s0) (c1:=s1) (c2:=s2) (c3:=s3) (by simp);have kr:=HM.out.row (b:=w.heap.size+1) (c0:=0) (c1:=0) (c2:=0) (c3:=0) (by simp);have y0:=kr.c0; have y1:=kr.c1; have y2:=kr.c2; have y3:=kr.c3; have yf:=kr.fr;clear kr;have yl:=HM.out.lt (b:=w.heap.size+1) (c0:=0) (c1:=0) (c2:=0) (c3:=0) (by simp);go_wp2_with fail;refine bodyPost_ret (v:=.agg #[.int .u64 s0,.int .u64 s1,.int .u64 s2,.int .u64 s3]) (by simp[results,results152,go_sem, *]) rfl ?_;refine⟨_,_,_,_,rfl,hs,by rw[HVs.out,Nat.mod_eq_of_lt (Nat.sub_lt hpos (Nat.pos_of_ne_zero HZ.out))],?_⟩;exact bG HM.out.1 (by omega) _ _ _ _
set_option maxHeartbeats 2000000 in
theorem Hj (f:Int) (F:FC) (hf:FieldIs f F) (a0 a1 a2 a3 b0 b1 b2 b3:Nat) (ha:bV a0 a1 a2 a3) (hb:bV b0 b1 b2 b3) (w:World) :
  Calls prog 123 #[.int .i64 f,.agg #[.int .u64 a0,.int .u64 a1,.int .u64 a2,.int .u64 a3],.agg #[.int .u64 b0,.int .u64 b1,.int .u64 b2,.int .u64 b3]] w (fC ((aC a0 a1 a2 a3+(F.M-aC b0 b1 b2 b3%F.M))%F.M) w):=by
 go_enter func123,ntmps123
 go_wp2_with fail;have HM:=Lib.hid ((((Mem.nil w).new (w.heap.size) a0 a1 a2 a3 27 (by simp)).new (w.heap.size+1) b0 b1 b2 b3 27 (by simp)).new (w.heap.size+1+1) 0 0 0 0 27 (by simp));refine eH (fun wx=>Mem w wx [(w.heap.size+1,b0,b1,b2,b3),(w.heap.size,a0,a1,a2,a3)]) 6 (by kernel_rfl) ?_;have HM':=Lib.hid (HM.out.drewN 1);clear HM;have HM:=HM';clear HM';have HS:=HM.out.sub (rs':=[(w.heap.size+1,b0,b1,b2,b3),(w.heap.size,a0,a1,a2,a3)]) (by simp);refine aK (i:=0) (v:=.int .i64 f) rfl (by kernel_rfl) (by kernel_rfl) (by kernel_rfl) (by kernel_rfl) (fun _ _ _ h=>h) HS (Or.inl ⟨by kernel_rfl,fun wx hx => ?_⟩) ?_
 ·clear HS hx;go_simp
 simp only[Act.put,List.setIfInBounds_toArray,List.set_cons_zero,List.set_cons_succ];refine aK (i:=1) (v:=.agg #[.int .u64 a0,.int .u64 a1,.int .u64 a2,.int .u64 a3]) rfl (by kernel_rfl) (by kernel_rfl) (by kernel_rfl) (by kernel_rfl) (fun _ _ _ h=>h) HS (Or.inl ⟨by kernel_rfl,fun wx hx => ?_⟩) ?_
 ·have kr:=hx.row (b:=w.heap.size) (c0:=a0) (c1:=a1) (c2:=a2) (c3:=a3) (by simp);have x0:=kr.c0; have x1:=kr.c1; have x2:=kr.c2; have x3:=kr.c3;clear kr HS hx;go_simp
 simp only[Act.put,List.setIfInBounds_toArray,List.set_cons_zero,List.set_cons_succ];refine aK (i:=2) (v:=.int .i64 f) rfl (by kernel_rfl) (by kernel_rfl) (by kernel_rfl) (by kernel_rfl) (fun _ _ _ h=>h) HS (Or.inl ⟨by kernel_rfl,fun wx hx => ?_⟩) ?_
 ·clear HS hx;go_simp
 simp only[Act.put,List.setIfInBounds_toArray,List.set_cons_zero,List.set_cons_succ];refine aK (i:=3) (v:=.agg #[.int .u64 b0,.int .u64 b1,.int .u64 b2,.int .u64 b3]) rfl (by kernel_rfl) (by kernel_rfl) (by kernel_rfl) (by kernel_rfl) (fun _ _ _ h=>h) HS (Or.inl ⟨by kernel_rfl,fun wx hx => ?_⟩) ?_
 ·have kr:=hx.row (b:=w.heap.size+1) (c0:=b0) (c1:=b1) (c2:=b2) (c3:=b3) (by simp);have x0:=kr.c0; have x1:=kr.c1; have x2:=kr.c2; have x3:=kr.c3;clear kr HS hx;go_simp
 simp only[Act.put,List.setIfInBounds_toArray,List.set_cons_zero,List.set_cons_succ];clear HS;refine aN (i:=4) (by kernel_rfl) rfl (fun K hK => ?_);go_simp;refine (GE f F hf b0 b1 b2 b3 hb _).mono ?_
 rintro e w1 ⟨n0,n1,n2,n3,rfl,hn,hv,hbl⟩
 have HVn:=Lib.hid hv;clear hv;have HM':=Lib.hid (HM.out.on hbl);clear HM hbl;have HM:=HM';clear HM';have HS:=HM.out.sub (rs':=[(w.heap.size+1,b0,b1,b2,b3),(w.heap.size,a0,a1,a2,a3)]) (by simp);refine hK.out _ _ (Or.inr HS) (fun _ => ?_);clear hK K;clear HS;refine aN (i:=5) (by kernel_rfl) rfl (fun K hK => ?_);go_simp;refine (GG f F hf a0 a1 a2 a3 n0 n1 n2 n3 ha hn _).mono ?_
 rintro e w2 ⟨s0,s1,s2,s3,rfl,hs,hv,hbl⟩
 have HVs:=Lib.hid (show aC s0 s1 s2 s3=(aC a0 a1 a2 a3+(F.M-aC b0 b1 b2 b3%F.M))%F.M by rw[hv,HVn.out,Nat.add_mod_mod]);clear hv;have HM':=Lib.hid (HM.out.on hbl);clear HM hbl;have HM:=HM';clear HM';have HS:=HM.out.sub (rs':=[(w.heap.size+1,b0,b1,b2,b3),(w.heap.size,a0,a1,a2,a3)]) (by simp);refine hK.out _ _ (Or.inr HS) (fun _ => ?_);clear hK K;clear HS;have kr:=HM.out.row (b:=w.heap.size+1+1) (c0:=0) (c1:=0) (c2:=0) (c3:=0) (by simp);have y0:=kr.c0; have y1:=kr.c1; have y2:=kr.c2; have y3:=kr.c3; have yf:=kr.fr;clear kr;have yl:=HM.out.lt (b:=w.heap.size+1+1) (c0:=0) (c1:=0) (c2:=0) (c3:=0) (by simp);refine aN (i:=6) (by kernel_rfl) rfl (fun K hK => ?_);go_simp;have HM':=Lib.hid ((HM.out.sub (rs':=[(w.heap.size+1+1,0,0,0,0),(w.heap.size+1,b0,b1,b2,b3),(w.heap.size,a0,a1,a2,a3)]) (by simp)).put s0 s1 s2 s3 (by omega) (by intro r hr; simp at hr; rcases hr with rfl|rfl<;>simp<;>omega));clear HM;have HM:=HM';clear HM';refine hK.out _ _ (Or.inl rfl) (fun _ => ?_);clear hK K;refine dJ (by kernel_rfl) ?_;go_wp2_with fail;refine bodyPost_ret (v:=.agg #[.int .u64 s0,.int .u64 s1,.int .u64 s2,.int .u64 s3]) (by simp[results,results123,go_sem, *]) rfl ?_;exact⟨_,_,_,_,rfl,hs,HVs.out,HM.out.1⟩
theorem aBn {F:FC} (hF:F.Ok) (A B:Nat):A%F.M*(B%F.M)*F.Ri%F.M*aC F.s0 F.s1 F.s2 F.s3*F.Ri%F.M=A*B%F.M:=by
 rw[Pm hF];unfold kp;have h:A%F.M*(B%F.M)*F.Ri%F.M*F.R%F.M=A*B*F.R*F.Ri%F.M:=by
  have e:A%F.M*(B%F.M)*F.Ri%F.M*F.R%F.M=A*B*F.Ri*F.R%F.M:=rL ((wU _ _).trans (rL (rL (wU _ _) (wU _ _)) rfl)) rfl;rw[e,Nat.mul_right_comm]
 rw[h,pI hF]
set_option maxHeartbeats 2000000 in
theorem Hn (f:Int) (F:FC) (hf:FieldIs f F) (a0 a1 a2 a3 b0 b1 b2 b3:Nat) (ha:bV a0 a1 a2 a3) (hb:bV b0 b1 b2 b3) (w:World) :
  Calls prog 74 #[.int .i64 f,.agg #[.int .u64 a0,.int .u64 a1,.int .u64 a2,.int .u64 a3],.agg #[.int .u64 b0,.int .u64 b1,.int .u64 b2,.int .u64 b3]] w (fC (aC a0 a1 a2 a3*aC b0 b1 b2 b3%F.M) w):=by
 have hpos:=hf.ok.pos
 go_enter func74,ntmps74
 go_wp2_with fail;have HM:=Lib.hid ((((Mem.nil w).new (w.heap.size) a0 a1 a2 a3 27 (by simp)).new (w.heap.size+1) b0 b1 b2 b3 27 (by simp)).new (w.heap.size+1+1) 0 0 0 0 27 (by simp));refine eH (fun wx=>Mem w wx [(w.heap.size+1,b0,b1,b2,b3),(w.heap.size,a0,a1,a2,a3)]) 12 (by kernel_rfl) ?_;have HM':=Lib.hid (HM.out.drewN 1);clear HM;have HM:=HM';clear HM';have HS:=HM.out.sub (rs':=[(w.heap.size+1,b0,b1,b2,b3),(w.heap.size,a0,a1,a2,a3)]) (by simp);refine aK (i:=0) (v:=.int .i64 f) rfl (by kernel_rfl) (by kernel_rfl) (by kernel_rfl) (by kernel_rfl) (fun _ _ _ h=>h) HS (Or.inl ⟨by kernel_rfl,fun wx hx => ?_⟩) ?_
 ·clear HS hx;go_simp
 simp only[Act.put,List.setIfInBounds_toArray,List.set_cons_zero,List.set_cons_succ];refine aK (i:=1) (v:=.int .i64 f) rfl (by kernel_rfl) (by kernel_rfl) (by kernel_rfl) (by kernel_rfl) (fun _ _ _ h=>h) HS (Or.inl ⟨by kernel_rfl,fun wx hx => ?_⟩) ?_
 ·clear HS hx;go_simp
 simp only[Act.put,List.setIfInBounds_toArray,List.set_cons_zero,List.set_cons_succ];refine aK (i:=2) (v:=.int .i64 f) rfl (by kernel_rfl) (by kernel_rfl) (by kernel_rfl) (by kernel_rfl) (fun _ _ _ h=>h) HS (Or.inl ⟨by kernel_rfl,fun wx hx => ?_⟩) ?_
 ·clear HS hx;go_simp
 simp only[Act.put,List.setIfInBounds_toArray,List.set_cons_zero,List.set_cons_succ];refine aK (i:=3) (v:=.agg #[.int .u64 a0,.int .u64 a1,.int .u64 a2,.int .u64 a3]) rfl (by kernel_rfl) (by kernel_rfl) (by kernel_rfl) (by kernel_rfl) (fun _ _ _ h=>h) HS (Or.inl ⟨by kernel_rfl,fun wx hx => ?_⟩) ?_
 ·have kr:=hx.row (b:=w.heap.size) (c0:=a0) (c1:=a1) (c2:=a2) (c3:=a3) (by simp);have x0:=kr.c0; have x1:=kr.c1; have x2:=kr.c2; have x3:=kr.c3;clear kr HS hx;go_simp
 simp only[Act.put,List.setIfInBounds_toArray,List.set_cons_zero,List.set_cons_succ];refine aK (i:=5) (v:=.int .i64 f) rfl (by kernel_rfl) (by kernel_rfl) (by kernel_rfl) (by kernel_rfl) (fun _ _ _ h=>h) HS (Or.inl ⟨by kernel_rfl,fun wx hx => ?_⟩) ?_
 ·clear HS hx;go_simp
 simp only[Act.put,List.setIfInBounds_toArray,List.set_cons_zero,List.set_cons_succ];refine aK (i:=6) (v:=.agg #[.int .u64 b0,.int .u64 b1,.int .u64 b2,.int .u64 b3]) rfl (by kernel_rfl) (by kernel_rfl) (by kernel_rfl) (by kernel_rfl) (fun _ _ _ h=>h) HS (Or.inl ⟨by kernel_rfl,fun wx hx => ?_⟩) ?_
 ·have kr:=hx.row (b:=w.heap.size+1) (c0:=b0) (c1:=b1) (c2:=b2) (c3:=b3) (by simp);have x0:=kr.c0; have x1:=kr.c1; have x2:=kr.c2; have x3:=kr.c3;clear kr HS hx;go_simp
 simp only[Act.put,List.setIfInBounds_toArray,List.set_cons_zero,List.set_cons_succ];refine aK (i:=9) (v:=.int .i64 f) rfl (by kernel_rfl) (by kernel_rfl) (by kernel_rfl) (by kernel_rfl) (fun _ _ _ h=>h) HS (Or.inl ⟨by kernel_rfl,fun wx hx => ?_⟩) ?_
 ·clear HS hx;go_simp
 simp only[Act.put,List.setIfInBounds_toArray,List.set_cons_zero,List.set_cons_succ];clear HS;refine aN (i:=4) (by kernel_rfl) rfl (fun K hK => ?_);go_simp;refine (fL f F hf a0 a1 a2 a3 ha _).mono ?_
 rintro e w1 ⟨x0,x1,x2,x3,rfl,hx,hv,hbl⟩
 have HVx:=Lib.hid hv;clear hv;have HM':=Lib.hid (HM.out.on hbl);clear HM hbl;have HM:=HM';clear HM';have HS:=HM.out.sub (rs':=[(w.heap.size+1,b0,b1,b2,b3),(w.heap.size,a0,a1,a2,a3)]) (by simp);refine hK.out _ _ (Or.inr HS) (fun _ => ?_);clear hK K;clear HS;refine aN (i:=7) (by kernel_rfl) rfl (fun K hK => ?_);go_simp;refine (fL f F hf b0 b1 b2 b3 hb _).mono ?_
 rintro e w2 ⟨y0,y1,y2,y3,rfl,hy,hv,hbl⟩
 have HVy:=Lib.hid hv;clear hv;have HM':=Lib.hid (HM.out.on hbl);clear HM hbl;have HM:=HM';clear HM';have HS:=HM.out.sub (rs':=[(w.heap.size+1,b0,b1,b2,b3),(w.heap.size,a0,a1,a2,a3)]) (by simp);refine hK.out _ _ (Or.inr HS) (fun _ => ?_);clear hK K;clear HS;refine aN (i:=8) (by kernel_rfl) rfl (fun K hK => ?_);go_simp;refine (IL f F hf x0 x1 x2 x3 y0 y1 y2 y3 hx hy (by rw[HVx.out]; exact Nat.mod_lt _ hpos) _).mono ?_
 rintro e w3 ⟨z0,z1,z2,z3,rfl,hz,hv,hbl⟩
 have HVz:=Lib.hid hv;clear hv;have HM':=Lib.hid (HM.out.on hbl);clear HM hbl;have HM:=HM';clear HM';have HS:=HM.out.sub (rs':=[(w.heap.size+1,b0,b1,b2,b3),(w.heap.size,a0,a1,a2,a3)]) (by simp);refine hK.out _ _ (Or.inr HS) (fun _ => ?_);clear hK K;clear HS;refine aN (i:=10) (by kernel_rfl) rfl (fun K hK => ?_);go_simp;refine (QF f F hf _).mono ?_
 rintro e w4 ⟨rfl,hbl⟩
 have HM':=Lib.hid (HM.out.on hbl);clear HM hbl;have HM:=HM';clear HM';have HS:=HM.out.sub (rs':=[(w.heap.size+1,b0,b1,b2,b3),(w.heap.size,a0,a1,a2,a3)]) (by simp);refine hK.out _ _ (Or.inr HS) (fun _ => ?_);clear hK K;clear HS;refine aN (i:=11) (by kernel_rfl) rfl (fun K hK => ?_);go_simp;refine (IL f F hf z0 z1 z2 z3 F.s0 F.s1 F.s2 F.s3 hz hf.ok.oks (by rw[HVz.out]; exact Nat.mod_lt _ hpos) _).mono ?_
 rintro e w5 ⟨s0,s1,s2,s3,rfl,hs,hv,hbl⟩
 have HVs:=Lib.hid (show aC s0 s1 s2 s3=aC a0 a1 a2 a3*aC b0 b1 b2 b3%F.M by rw[hv,HVz.out,HVx.out,HVy.out]; exact aBn hf.ok _ _);clear hv;have HM':=Lib.hid (HM.out.on hbl);clear HM hbl;have HM:=HM';clear HM';have HS:=HM.out.sub (rs':=[(w.heap.size+1,b0,b1,b2,b3),(w.heap.size,a0,a1,a2,a3)]) (by simp);refine hK.out _ _ (Or.inr HS) (fun _ => ?_);clear hK K;clear HS;have kr:=HM.out.row (b:=w.heap.size+1+1) (c0:=0) (c1:=0) (c2:=0) (c3:=0) (by simp);have y0:=kr.c0; have y1:=kr.c1; have y2:=kr.c2; have y3:=kr.c3; have yf:=kr.fr;clear kr;have yl:=HM.out.lt (b:=w.heap.size+1+1) (c0:=0) (c1:=0) (c2:=0) (c3:=0) (by simp);refine aN (i:=12) (by kernel_rfl) rfl (fun K hK => ?_);go_simp;have HM':=Lib.hid ((HM.out.sub (rs':=[(w.heap.size+1+1,0,0,0,0),(w.heap.size+1,b0,b1,b2,b3),(w.heap.size,a0,a1,a2,a3)]) (by simp)).put s0 s1 s2 s3 (by omega) (by intro r hr; simp at hr; rcases hr with rfl|rfl<;>simp<;>omega));clear HM;have HM:=HM';clear HM';refine hK.out _ _ (Or.inl rfl) (fun _ => ?_);clear hK K;refine dJ (by kernel_rfl) ?_;go_wp2_with fail;refine bodyPost_ret (v:=.agg #[.int .u64 s0,.int .u64 s1,.int .u64 s2,.int .u64 s3]) (by simp[results,results74,go_sem, *]) rfl ?_;exact⟨_,_,_,_,rfl,hs,HVs.out,HM.out.1⟩
theorem aFN (A M:Nat):decide (dV A M<0)=EM A M:=by
 unfold EM dV
 by_cases q:A=M
 ·rw[if_pos q,decide_eq_false (by omega),decide_eq_false (by omega)]
 ·rw[if_neg q]
  by_cases h:A<M
  ·rw[if_pos h,decide_eq_true (by omega),decide_eq_true (by omega)]
  ·rw[if_neg h,decide_eq_false (by omega),decide_eq_false (by omega)]
set_option maxHeartbeats 2000000 in
theorem QO (f:Int) (F:FC) (hf:FieldIs f F) (a0 a1 a2 a3:Nat) (ha:bV a0 a1 a2 a3) (w:World) :
  Calls prog 37 #[.int .i64 f,.agg #[.int .u64 a0,.int .u64 a1,.int .u64 a2,.int .u64 a3]] w (fun e w'=>e=.returned (.bool (EM (aC a0 a1 a2 a3) F.M))∧Below w.heap.size w w'):=by
 go_enter func37,ntmps37
 go_wp2_with fail;have HM:=Lib.hid ((Mem.nil w).new (w.heap.size) a0 a1 a2 a3 27 (by simp));refine eH (fun wx=>Mem w wx [(w.heap.size,a0,a1,a2,a3)]) 5 (by kernel_rfl) ?_;have HM':=Lib.hid (HM.out.drewN 1);clear HM;have HM:=HM';clear HM';have HS:=HM.out.sub (rs':=[(w.heap.size,a0,a1,a2,a3)]) (by simp);refine aK (i:=0) (v:=.agg #[.int .u64 a0,.int .u64 a1,.int .u64 a2,.int .u64 a3]) rfl (by kernel_rfl) (by kernel_rfl) (by kernel_rfl) (by kernel_rfl) (fun _ _ _ h=>h) HS (Or.inl ⟨by kernel_rfl,fun wx hx => ?_⟩) ?_
 ·have kr:=hx.row (b:=w.heap.size) (c0:=a0) (c1:=a1) (c2:=a2) (c3:=a3) (by simp);have x0:=kr.c0; have x1:=kr.c1; have x2:=kr.c2; have x3:=kr.c3;clear kr HS hx;go_simp
 simp only[Act.put,List.setIfInBounds_toArray,List.set_cons_zero,List.set_cons_succ];refine aK (i:=1) (v:=.int .i64 f) rfl (by kernel_rfl) (by kernel_rfl) (by kernel_rfl) (by kernel_rfl) (fun _ _ _ h=>h) HS (Or.inl ⟨by kernel_rfl,fun wx hx => ?_⟩) ?_
 ·clear HS hx;go_simp
 simp only[Act.put,List.setIfInBounds_toArray,List.set_cons_zero,List.set_cons_succ];clear HS;refine aN (i:=2) (by kernel_rfl) rfl (fun K hK => ?_);go_simp;refine (jH f F hf _).mono ?_
 rintro e w1 ⟨rfl,hbl⟩
 have HM':=Lib.hid (HM.out.on hbl);clear HM hbl;have HM:=HM';clear HM';have HS:=HM.out.sub (rs':=[(w.heap.size,a0,a1,a2,a3)]) (by simp);refine hK.out _ _ (Or.inr HS) (fun _ => ?_);clear hK K;clear HS;refine aN (i:=3) (by kernel_rfl) rfl (fun K hK => ?_);go_simp;refine (xV a0 a1 a2 a3 F.m0 F.m1 F.m2 F.m3 ha hf.ok.okm _).mono ?_
 rintro e w2 ⟨he,hbl⟩
 have HC:=Lib.hid (aFN (aC a0 a1 a2 a3) (aC F.m0 F.m1 F.m2 F.m3));generalize dV (aC a0 a1 a2 a3) (aC F.m0 F.m1 F.m2 F.m3)=cc at *;subst he;have HM':=Lib.hid (HM.out.on hbl);clear HM hbl;have HM:=HM';clear HM';have HS:=HM.out.sub (rs':=[(w.heap.size,a0,a1,a2,a3)]) (by simp);refine hK.out _ _ (Or.inr HS) (fun _ => ?_);clear hK K;refine aK (i:=4) (v:=.bool (decide (cc<0))) rfl (by kernel_rfl) (by kernel_rfl) (by kernel_rfl) (by kernel_rfl) (fun _ _ _ h=>h) HS (Or.inl ⟨by kernel_rfl,fun wx hx => ?_⟩) ?_
 ·clear HS hx;go_simp
 simp only[Act.put,List.setIfInBounds_toArray,List.set_cons_zero,List.set_cons_succ];clear HS;refine aN (i:=5) (by kernel_rfl) rfl (fun K hK => ?_);go_simp;refine hK.out _ _ (Or.inl rfl) (fun _ => ?_);clear hK K;refine dJ (by kernel_rfl) ?_;go_wp2_with fail;go_ret;exact⟨YR HC.out,HM.out.1⟩
end Go.Proofs.YtjkpglhlmknciaaGreat
namespace Go.Proofs.YtjkpglhlmknciaaGreat.Ex
open Go.Proofs.Tryz
open Go.RowKit
def gR (op:Fq→Fq→Fq):kI
 | [.v (.im (.int .i64 (.ofNat 1))),.v (.fl l),.v (.fl m)]=>match VW l,VW m with
  | some x,some y=>some ([],.one (.fl (e1 (op x y))))
  | _,_=>none
 | _=>none
theorem aEm {f:FuncId} {op:Fq→Fq→Fq} (h:∀(a b:Nat) (w:World),Calls prog f #[.int .i64 1,.agg (aA (q1 a)).toArray,.agg (aA (q1 b)).toArray] w (FwPost (op (m1 a) (m1 b)).1 w)) :
  ∀cs pre r,gR op cs=some (pre,r)→aZ pre→∀(args:List Value) (w:World),bU w cs args→Good prog f r args w:=by
 intro cs pre r hg hp args w ha;unfold gR at hg;split at hg
 ·rename_i l m;split at hg
  ·rename_i x y hx hy;cases hg;obtain⟨a,e1,rfl⟩:=iV l x hx;obtain⟨b,e2,rfl⟩:=iV m y hy
   match args,ha with
   | [v,u,s],ha =>
    have h1:v=.int .i64 1:=ha.1;have h2:u=.agg (aA l).toArray:=ha.2.1;have h3:s=.agg (aA m).toArray:=ha.2.2.1;rw[e1]at h2;rw[e2]at h3;subst h1; subst h2; subst h3;exact (h a b w).mono fun e w' h=>h
   | [],ha=>exact ha.elim
   | [_],ha=>exact ha.2.elim
   | [_,_],ha=>exact ha.2.2.elim
   | _::_::_::_::_,ha=>exact ha.2.2.2.elim
  ·cases hg
 ·cases hg
theorem aUs (a b:Nat) (w:World):Calls prog 75 #[.int .i64 1,.agg (aA (q1 a)).toArray,.agg (aA (q1 b)).toArray] w (FwPost (F1.add (m1 a) (m1 b)).1 w):=by
 refine (GG 1 FP oV _ _ _ _ _ _ _ _ (cQ a) (cQ b) w).mono fun e w' h => ?_
 rw[show (F1.add (m1 a) (m1 b)).1=(aC (fw a 0) (fw a 1) (fw a 2) (fw a 3)+aC (fw b 0) (fw b 1) (fw b 2) (fw b 3))%FP.M from (Nat.add_mod _ _ _).symm];exact FwPost.of (Nat.mod_lt _ gF) h
theorem aUq (a b:Nat) (w:World):Calls prog 123 #[.int .i64 1,.agg (aA (q1 a)).toArray,.agg (aA (q1 b)).toArray] w (FwPost (F1.sub (m1 a) (m1 b)).1 w):=by
 refine (Hj 1 FP oV _ _ _ _ _ _ _ _ (cQ a) (cQ b) w).mono fun e w' h => ?_
 have e:(F1.sub (m1 a) (m1 b)).1=(aC (fw a 0) (fw a 1) (fw a 2) (fw a 3)+(FP.M-aC (fw b 0) (fw b 1) (fw b 2) (fw b 3)%FP.M))%FP.M:=by
  show (wv a%FP.M+(0+FP.M-wv b%FP.M)%FP.M)%FP.M=(wv a+(FP.M-wv b%FP.M))%FP.M;rw[Nat.zero_add,←Nat.add_mod]
 rw[e];exact FwPost.of (Nat.mod_lt _ gF) h
theorem aUr (a b:Nat) (w:World):Calls prog 74 #[.int .i64 1,.agg (aA (q1 a)).toArray,.agg (aA (q1 b)).toArray] w (FwPost (F1.mul (m1 a) (m1 b)).1 w):=by
 refine (Hn 1 FP oV _ _ _ _ _ _ _ _ (cQ a) (cQ b) w).mono fun e w' h => ?_
 rw[show (F1.mul (m1 a) (m1 b)).1=(aC (fw a 0) (fw a 1) (fw a 2) (fw a 3)*aC (fw b 0) (fw b 1) (fw b 2) (fw b 3))%FP.M from (Nat.mul_mod _ _ _).symm];exact FwPost.of (Nat.mod_lt _ gF) h
def Sk (c:Bool):Tab:=(KN c).add 75 (gR F1.add)
theorem aCy (c:Bool):TabOk prog (Sk c):=(aCI c).ad func75 (aEm aUs)
def Sj (c:Bool):Tab:=(Sk c).add 123 (gR F1.sub)
theorem aCx (c:Bool):TabOk prog (Sj c):=(aCy c).ad func123 (aEm aUq)
def UB (c:Bool):Tab:=(Sj c).add 74 (gR F1.mul)
theorem An (c:Bool):TabOk prog (UB c):=(aCx c).ad func74 (aEm aUr)
theorem aAR (c:Bool) (x:Nat) (y:Nat):bP prog (UB c) qN (fun _=>true) f78 40 [.v (.fl (q1 x)),.v (.fl (q1 y))]=some ([],.one (.fl (e1 (F1.add (m1 x) (m1 y))))):=by kernel_rfl
def Kw (c:Bool):Tab:=(UB c).add 78 (g2 VW VW (fun x y=>([],.one (.fl (e1 (F1.add x y))))))
theorem Nw (c:Bool):TabOk prog (Kw c):=(An c).ad func78 (jZ iV iV fun x y hp args w ha=>aI aG (An c) aO func78 (aAR c x y) hp ha)
theorem aAO (c:Bool) (x:Nat) (y:Nat):bP prog (Kw c) qN (fun _=>true) f76 40 [.v (.fl (q1 x)),.v (.fl (q1 y))]=some ([],.one (.fl (e1 (F1.sub (m1 x) (m1 y))))):=by kernel_rfl
def Ku (c:Bool):Tab:=(Kw c).add 76 (g2 VW VW (fun x y=>([],.one (.fl (e1 (F1.sub x y))))))
theorem Nt (c:Bool):TabOk prog (Ku c):=(Nw c).ad func76 (jZ iV iV fun x y hp args w ha=>aI aG (Nw c) aO func76 (aAO c x y) hp ha)
theorem aAP (c:Bool) (x:Nat) (y:Nat):bP prog (Ku c) qN (fun _=>true) f77 40 [.v (.fl (q1 x)),.v (.fl (q1 y))]=some ([],.one (.fl (e1 (F1.mul (m1 x) (m1 y))))):=by kernel_rfl
def Kv (c:Bool):Tab:=(Ku c).add 77 (g2 VW VW (fun x y=>([],.one (.fl (e1 (F1.mul x y))))))
theorem Nv (c:Bool):TabOk prog (Kv c):=(Nt c).ad func77 (jZ iV iV fun x y hp args w ha=>aI aG (Nt c) aO func77 (aAP c x y) hp ha)
theorem Ul (c:Bool) (x:N2) (y:N2):bP prog (Kv c) qN (fun _=>true) f42 40 [.v (.fl (q2 x)),.v (.fl (q2 y))]=some ([],.one (.fl (e2 (F2.add (m2 x) (m2 y))))):=by kernel_rfl
def UA (c:Bool):Tab:=(Kv c).add 42 (g2 CD CD (fun x y=>([],.one (.fl (e2 (F2.add x y))))))
theorem Am (c:Bool):TabOk prog (UA c):=(Nv c).ad func42 (jZ eE eE fun x y hp args w ha=>aI aG (Nv c) aO func42 (Ul c x y) hp ha)
theorem Uj (c:Bool) (x:N2) (y:N2):bP prog (UA c) qN (fun _=>true) f124 40 [.v (.fl (q2 x)),.v (.fl (q2 y))]=some ([],.one (.fl (e2 (F2.sub (m2 x) (m2 y))))):=by kernel_rfl
def TY (c:Bool):Tab:=(UA c).add 124 (g2 CD CD (fun x y=>([],.one (.fl (e2 (F2.sub x y))))))
theorem Ak (c:Bool):TabOk prog (TY c):=(Am c).ad func124 (jZ eE eE fun x y hp args w ha=>aI aG (Am c) aO func124 (Uj c x y) hp ha)
theorem Uk (c:Bool) (x:N2) (y:N2):bP prog (TY c) qN (fun _=>true) f41 40 [.v (.fl (q2 x)),.v (.fl (q2 y))]=some ([],.one (.fl (e2 ((F1.sub (F1.mul (m2 x).1 (m2 y).1) (F1.mul (m2 x).2 (m2 y).2),F1.add (F1.mul (m2 x).1 (m2 y).2) (F1.mul (m2 x).2 (m2 y).1)))))):=by kernel_rfl
theorem We (x:Q2) (y:Q2):F2.mul x y=(F1.sub (F1.mul x.1 y.1) (F1.mul x.2 y.2),F1.add (F1.mul x.1 y.2) (F1.mul x.2 y.1)):=by
 refine Prod.ext ?_ rfl;show F1.add (F1.mul x.1 y.1) (F1.mul (F1.neg F1.one) (F1.mul x.2 y.2))=F1.add (F1.mul x.1 y.1) (F1.neg (F1.mul x.2 y.2));rw[F1.neg_mul,F1.one_mul]
def TZ (c:Bool):Tab:=(TY c).add 41 (g2 CD CD (fun x y=>([],.one (.fl (e2 (F2.mul x y))))))
theorem Al (c:Bool):TabOk prog (TZ c):=(Ak c).ad func41 (jZ eE eE fun x y hp args w ha=>by show Good _ _ (.one (.fl (e2 (F2.mul (m2 x) (m2 y))))) _ _; rw[We]; exact aI aG (Ak c) aO func41 (Uk c x y) hp ha)
open Classical
section
variable {R:Type} (K:CR R) (inv:R→R)
abbrev Jc (R:Type):=R×R×R
def iA (p:Jc R):Pt R:=if p.2.2=K.zero then none else some (K.mul p.1 (K.mul (inv p.2.2) (inv p.2.2)),K.mul p.2.1 (K.mul (K.mul (inv p.2.2) (inv p.2.2)) (inv p.2.2)))
def dSl (p:Jc R):R:=K.add (K.add (K.mul p.1 p.1) (K.mul p.1 p.1)) (K.mul p.1 p.1)
def dTw (p:Jc R):R:=K.add (K.mul p.2.1 p.2.1) (K.mul p.2.1 p.2.1)
def dFo (p:Jc R):R:=K.add (dTw K p) (dTw K p)
def dBa (p:Jc R):R:=K.mul p.1 (dFo K p)
def dX (p:Jc R):R:=K.sub (K.mul (dSl K p) (dSl K p)) (K.add (dBa K p) (dBa K p))
def dY (p:Jc R):R:=K.sub (K.mul (dSl K p) (K.sub (dBa K p) (dX K p))) (K.mul (dFo K p) (dTw K p))
def cN (p:Jc R):Jc R:=(dX K p,dY K p,K.mul (K.add p.2.1 p.2.1) p.2.2)
def EL (p q:Jc R):R:=K.mul p.1 (K.mul q.2.2 q.2.2)
def CS (p q:Jc R):R:=K.mul p.2.1 (K.mul (K.mul q.2.2 q.2.2) q.2.2)
def vC (p q:Jc R):R:=K.sub (EL K q p) (EL K p q)
def NW (p q:Jc R):R:=K.sub (CS K q p) (CS K p q)
def sX (px a up:R):R:=K.sub (K.sub (K.mul up up) (K.mul (K.mul a a) a)) (K.add (K.mul px (K.mul a a)) (K.mul px (K.mul a a)))
def sY (px py a up:R):R:=K.sub (K.mul up (K.sub (K.mul px (K.mul a a)) (sX K px a up))) (K.mul py (K.mul (K.mul a a) a))
def DN (p q:Jc R):Jc R:=(sX K (EL K p q) (vC K p q) (NW K p q),sY K (EL K p q) (CS K p q) (vC K p q) (NW K p q),K.mul (K.mul p.2.2 q.2.2) (vC K p q))
def jX (p q:Jc R):Jc R :=
 if p.2.2=K.zero then q else if q.2.2=K.zero then p else if vC K p q=K.zero∧NW K p q=K.zero then cN K p else DN K p q
def rplus (p q:Jc R):Jc R :=
 if p.2.2=K.zero then q else if q.2.2=K.zero then p else if vC K p q=K.zero∧NW K p q=K.zero then cN K p else if vC K p q=K.zero then (K.one,K.one,K.zero)else DN K p q
variable {K} {inv} {b:R}
theorem dP {p:Jc R} (h:p.2.2=K.zero):iA K inv p=none:=if_pos h
theorem eC {p:Jc R} (h:p.2.2≠K.zero):iA K inv p=some (K.mul p.1 (K.mul (inv p.2.2) (inv p.2.2)),K.mul p.2.1 (K.mul (K.mul (inv p.2.2) (inv p.2.2)) (inv p.2.2))):=if_neg h
theorem zV (E:EC K inv b) {x y l:R} (hy:K.add y y≠K.zero) (h:K.mul l (K.add y y)=K.add (K.add (K.mul x x) (K.mul x x)) (K.mul x x)):dN K inv x y x y=l:=by
 unfold dN;rw[if_pos rfl];refine E.F.cancel hy ?_;have hi:=E.F.inv _ hy;generalize inv (K.add y y)=k at hi;exact kH (K:=K) (c1:=(K.add (K.add (K.mul x x) (K.mul x x)) (K.mul x x))) (c2:=(K.neg K.one)) hi h (aE K (aW K [y,x,k,l]) ((Z0+Z0)*((Z1*Z1+Z1*Z1+Z1*Z1)*Z2)-(Z0+Z0)*Z3) ((Z1*Z1+Z1*Z1+Z1*Z1)*((Z0+Z0)*Z2-RE.one)+(-RE.one)*(Z3*(Z0+Z0)-(Z1*Z1+Z1*Z1+Z1*Z1))) (by kernel_rfl))
theorem sJ (E:EC K inv b) {x1 y1 x2 y2 l:R} (hx:x1≠x2) (h:K.mul l (K.sub x2 x1)=K.sub y2 y1):dN K inv x1 y1 x2 y2=l:=by
 unfold dN;rw[if_neg hx];have hd:K.sub x2 x1≠K.zero:=PO fun e=>hx e.symm
 have hi:=E.F.inv _ hd;refine E.F.cancel hd ?_;generalize inv (K.sub x2 x1)=k at hi;exact kH (K:=K) (c1:=(K.sub y2 y1)) (c2:=(K.neg K.one)) hi h (aE K (aW K [x2,x1,y2,y1,k,l]) ((Z0-Z1)*((Z2-Z3)*Z4)-(Z0-Z1)*Z5) ((Z2-Z3)*((Z0-Z1)*Z4-RE.one)+(-RE.one)*(Z5*(Z0-Z1)-(Z2-Z3))) (by kernel_rfl))
theorem RU (E:EC K inv b) {p:Jc R} (hp:On K b (iA K inv p)):iA K inv (cN K p)=iR K inv (iA K inv p) (iA K inv p):=by
 obtain⟨x,y,z⟩:=p
 by_cases hz:z=K.zero
 ·have h1:iA K inv (x,y,z)=none:=dP hz;rw[h1];refine dP ?_;show K.mul (K.add y y) z=K.zero;rw[hz,K.mul_zero]
 ·have h1:=eC (K:=K) (inv:=inv) (p:=(x,y,z)) hz;rw[h1]at hp ⊢;dsimp only at hp ⊢;have hi:=E.F.inv z hz;generalize inv z=i at hi hp ⊢;have hY:=E.y_ne (show K.mul (K.mul y (K.mul (K.mul i i) i)) (K.mul y (K.mul (K.mul i i) i))=_ from hp);have hy:y≠K.zero:=fun e=>hY (by rw[e,K.zero_mul])
  have hyy:=E.dbl_ne hy;have hz3:K.mul (K.add y y) z≠K.zero:=E.F.mul_ne hyy hz;have h3:=eC (K:=K) (inv:=inv) (p:=cN K (x,y,z)) hz3;rw[h3];show some (K.mul (dX K (x,y,z)) (K.mul (inv (K.mul (K.add y y) z)) (inv (K.mul (K.add y y) z))),K.mul (dY K (x,y,z)) (K.mul (K.mul (inv (K.mul (K.add y y) z)) (inv (K.mul (K.add y y) z))) (inv (K.mul (K.add y y) z))))=_;have hj:=E.F.inv _ hz3;generalize inv (K.mul (K.add y y) z)=j at hj ⊢;have e:i=K.mul (K.add y y) j:=kH (K:=K) (c1:=(K.neg i)) (c2:=(K.mul (K.add y y) j)) hj hi (aE K (aW K [i,y,j,z]) (Z0-(Z1+Z1)*Z2) ((-Z0)*((Z1+Z1)*Z3*Z2-RE.one)+(Z1+Z1)*Z2*(Z3*Z0-RE.one)) (by kernel_rfl));subst e;have hYY:=E.dbl_ne hY;rw[jU (fun h=>hYY h.2)];dsimp only;have hs:=zV (l:=(K.mul (K.add (K.add (K.mul x x) (K.mul x x)) (K.mul x x)) j)) (x:=(K.mul x (K.mul (K.mul (K.add y y) j) (K.mul (K.add y y) j)))) E hYY (aE K (aW K [x,j,y]) ((Z0*Z0+Z0*Z0+Z0*Z0)*Z1*(Z2*((Z2+Z2)*Z1*((Z2+Z2)*Z1)*((Z2+Z2)*Z1))+Z2*((Z2+Z2)*Z1*((Z2+Z2)*Z1)*((Z2+Z2)*Z1)))) (Z0*((Z2+Z2)*Z1*((Z2+Z2)*Z1))*(Z0*((Z2+Z2)*Z1*((Z2+Z2)*Z1)))+Z0*((Z2+Z2)*Z1*((Z2+Z2)*Z1))*(Z0*((Z2+Z2)*Z1*((Z2+Z2)*Z1)))+Z0*((Z2+Z2)*Z1*((Z2+Z2)*Z1))*(Z0*((Z2+Z2)*Z1*((Z2+Z2)*Z1)))) (by kernel_rfl));rw[hs];refine congrArg some (Prod.ext ?_ ?_)
  ·exact aE K (aW K [x,y,j]) (((Z0*Z0+Z0*Z0+Z0*Z0)*(Z0*Z0+Z0*Z0+Z0*Z0)-(Z0*(Z1*Z1+Z1*Z1+(Z1*Z1+Z1*Z1))+Z0*(Z1*Z1+Z1*Z1+(Z1*Z1+Z1*Z1))))*(Z2*Z2)) ((Z0*Z0+Z0*Z0+Z0*Z0)*Z2*((Z0*Z0+Z0*Z0+Z0*Z0)*Z2)-Z0*((Z1+Z1)*Z2*((Z1+Z1)*Z2))-Z0*((Z1+Z1)*Z2*((Z1+Z1)*Z2))) (by kernel_rfl)
  ·exact aE K (aW K [x,y,j]) (((Z0*Z0+Z0*Z0+Z0*Z0)*(Z0*(Z1*Z1+Z1*Z1+(Z1*Z1+Z1*Z1))-((Z0*Z0+Z0*Z0+Z0*Z0)*(Z0*Z0+Z0*Z0+Z0*Z0)-(Z0*(Z1*Z1+Z1*Z1+(Z1*Z1+Z1*Z1))+Z0*(Z1*Z1+Z1*Z1+(Z1*Z1+Z1*Z1)))))-(Z1*Z1+Z1*Z1+(Z1*Z1+Z1*Z1))*(Z1*Z1+Z1*Z1))*(Z2*Z2*Z2)) ((Z0*Z0+Z0*Z0+Z0*Z0)*Z2*(Z0*((Z1+Z1)*Z2*((Z1+Z1)*Z2))-((Z0*Z0+Z0*Z0+Z0*Z0)*Z2*((Z0*Z0+Z0*Z0+Z0*Z0)*Z2)-Z0*((Z1+Z1)*Z2*((Z1+Z1)*Z2))-Z0*((Z1+Z1)*Z2*((Z1+Z1)*Z2))))-Z1*((Z1+Z1)*Z2*((Z1+Z1)*Z2)*((Z1+Z1)*Z2))) (by kernel_rfl)
theorem IT (E:EC K inv b) {p q:Jc R} (hp:p.2.2≠K.zero) (hq:q.2.2≠K.zero):∃w,K.mul (K.mul p.2.2 q.2.2) w=K.one∧iA K inv p=some (K.mul (EL K p q) (K.mul w w),K.mul (CS K p q) (K.mul (K.mul w w) w))∧iA K inv q=some (K.mul (EL K q p) (K.mul w w),K.mul (CS K q p) (K.mul (K.mul w w) w)):=by
 obtain⟨x1,y1,z1⟩:=p;obtain⟨x2,y2,z2⟩:=q;have h1:=E.F.inv z1 hp;have h2:=E.F.inv z2 hq;rw[eC hp,eC hq];dsimp only at *;generalize inv z1=i at h1 ⊢;generalize inv z2=j at h2 ⊢;refine⟨K.mul i j,?_,congrArg some (Prod.ext ?_ ?_),congrArg some (Prod.ext ?_ ?_)⟩
 ·exact kH (K:=K) (c1:=(K.mul z2 j)) (c2:=K.one) h1 h2 (aE K (aW K [z1,z2,i,j]) (Z0*Z1*(Z2*Z3)-RE.one) (Z1*Z3*(Z0*Z2-RE.one)+RE.one*(Z1*Z3-RE.one)) (by kernel_rfl))
 ·exact iJ (K:=K) (c1:=(K.mul (K.neg (K.mul x1 (K.mul i i))) (K.add (K.mul z2 j) K.one))) h2 (aE K (aW K [x1,i,z2,j]) (Z0*(Z1*Z1)-Z0*(Z2*Z2)*(Z1*Z3*(Z1*Z3))) ((-(Z0*(Z1*Z1)))*(Z2*Z3+RE.one)*(Z2*Z3-RE.one)) (by kernel_rfl))
 ·exact iJ (K:=K) (c1:=(K.mul (K.neg (K.mul y1 (K.mul (K.mul i i) i))) (K.add (K.add (K.mul (K.mul z2 j) (K.mul z2 j)) (K.mul z2 j)) K.one))) h2 (aE K (aW K [y1,i,z2,j]) (Z0*(Z1*Z1*Z1)-Z0*(Z2*Z2*Z2)*(Z1*Z3*(Z1*Z3)*(Z1*Z3))) ((-(Z0*(Z1*Z1*Z1)))*(Z2*Z3*(Z2*Z3)+Z2*Z3+RE.one)*(Z2*Z3-RE.one)) (by kernel_rfl))
 ·exact iJ (K:=K) (c1:=(K.mul (K.neg (K.mul x2 (K.mul j j))) (K.add (K.mul z1 i) K.one))) h1 (aE K (aW K [x2,j,z1,i]) (Z0*(Z1*Z1)-Z0*(Z2*Z2)*(Z3*Z1*(Z3*Z1))) ((-(Z0*(Z1*Z1)))*(Z2*Z3+RE.one)*(Z2*Z3-RE.one)) (by kernel_rfl))
 ·exact iJ (K:=K) (c1:=(K.mul (K.neg (K.mul y2 (K.mul (K.mul j j) j))) (K.add (K.add (K.mul (K.mul z1 i) (K.mul z1 i)) (K.mul z1 i)) K.one))) h1 (aE K (aW K [y2,j,z1,i]) (Z0*(Z1*Z1*Z1)-Z0*(Z2*Z2*Z2)*(Z3*Z1*(Z3*Z1)*(Z3*Z1))) ((-(Z0*(Z1*Z1*Z1)))*(Z2*Z3*(Z2*Z3)+Z2*Z3+RE.one)*(Z2*Z3-RE.one)) (by kernel_rfl))
theorem aFv (E:EC K inv b) {px py qx qy w zz j:R} (hw:K.mul zz w=K.one) (ha:K.sub qx px≠K.zero) (hj:K.mul (K.mul zz (K.sub qx px)) j=K.one) :
  iR K inv (some (K.mul px (K.mul w w),K.mul py (K.mul (K.mul w w) w))) (some (K.mul qx (K.mul w w),K.mul qy (K.mul (K.mul w w) w)))=some (K.mul (sX K px (K.sub qx px) (K.sub qy py)) (K.mul j j),K.mul (sY K px py (K.sub qx px) (K.sub qy py)) (K.mul (K.mul j j) j)):=by
 have hw0:w≠K.zero:=fun e=>E.F.ne (by rw[←hw,e,K.mul_zero])
 have e:w=K.mul (K.sub qx px) j:=kH (K:=K) (c1:=(K.neg w)) (c2:=(K.mul (K.sub qx px) j)) hj hw (aE K (aW K [w,qx,px,j,zz]) (Z0-(Z1-Z2)*Z3) ((-Z0)*(Z4*(Z1-Z2)*Z3-RE.one)+(Z1-Z2)*Z3*(Z4*Z0-RE.one)) (by kernel_rfl));have hx:K.mul px (K.mul w w)≠K.mul qx (K.mul w w):=fun h=>by
  refine E.F.mul_ne ha (E.F.mul_ne hw0 hw0) ?_;have:K.mul (K.sub qx px) (K.mul w w)=K.sub (K.mul qx (K.mul w w)) (K.mul px (K.mul w w)):=aE K (aW K [qx,px,w]) ((Z0-Z1)*(Z2*Z2)) (Z0*(Z2*Z2)-Z1*(Z2*Z2)) (by kernel_rfl);rw[this,h];exact K.add_neg _
 rw[jU (fun h=>hx h.1)];dsimp only;have hs:=sJ (l:=(K.mul (K.sub qy py) j)) (y1:=K.mul py (K.mul (K.mul w w) w)) (y2:=K.mul qy (K.mul (K.mul w w) w)) E hx (by
  subst e;exact aE K (aW K [qy,py,j,qx,px]) ((Z0-Z1)*Z2*(Z3*((Z3-Z4)*Z2*((Z3-Z4)*Z2))-Z4*((Z3-Z4)*Z2*((Z3-Z4)*Z2)))) (Z0*((Z3-Z4)*Z2*((Z3-Z4)*Z2)*((Z3-Z4)*Z2))-Z1*((Z3-Z4)*Z2*((Z3-Z4)*Z2)*((Z3-Z4)*Z2))) (by kernel_rfl))
 rw[hs];subst e;refine congrArg some (Prod.ext ?_ ?_)
 ·exact aE K (aW K [qy,py,j,px,qx]) ((Z0-Z1)*Z2*((Z0-Z1)*Z2)-Z3*((Z4-Z3)*Z2*((Z4-Z3)*Z2))-Z4*((Z4-Z3)*Z2*((Z4-Z3)*Z2))) (((Z0-Z1)*(Z0-Z1)-(Z4-Z3)*(Z4-Z3)*(Z4-Z3)-(Z3*((Z4-Z3)*(Z4-Z3))+Z3*((Z4-Z3)*(Z4-Z3))))*(Z2*Z2)) (by kernel_rfl)
 ·exact aE K (aW K [qy,py,j,px,qx]) ((Z0-Z1)*Z2*(Z3*((Z4-Z3)*Z2*((Z4-Z3)*Z2))-((Z0-Z1)*Z2*((Z0-Z1)*Z2)-Z3*((Z4-Z3)*Z2*((Z4-Z3)*Z2))-Z4*((Z4-Z3)*Z2*((Z4-Z3)*Z2))))-Z1*((Z4-Z3)*Z2*((Z4-Z3)*Z2)*((Z4-Z3)*Z2))) (((Z0-Z1)*(Z3*((Z4-Z3)*(Z4-Z3))-((Z0-Z1)*(Z0-Z1)-(Z4-Z3)*(Z4-Z3)*(Z4-Z3)-(Z3*((Z4-Z3)*(Z4-Z3))+Z3*((Z4-Z3)*(Z4-Z3)))))-Z1*((Z4-Z3)*(Z4-Z3)*(Z4-Z3)))*(Z2*Z2*Z2)) (by kernel_rfl)
theorem FN (E:EC K inv b) {y1 y2:R} (h:K.mul y1 y1=K.mul y2 y2) (hn:y1≠y2):K.add y1 y2=K.zero:=by
 refine E.F.zd (a:=K.sub y1 y2) ?_ (PO hn);have:K.mul (K.sub y1 y2) (K.add y1 y2)=K.sub (K.mul y1 y1) (K.mul y2 y2):=aE K (aW K [y1,y2]) ((Z0-Z1)*(Z0+Z1)) (Z0*Z0-Z1*Z1) (by kernel_rfl);rw[this,h];exact K.add_neg _
theorem Pr (E:EC K inv b) {p q:Jc R} (hp:On K b (iA K inv p)) (hq:On K b (iA K inv q)) (h1:p.2.2≠K.zero) (h2:q.2.2≠K.zero) (hn:¬(vC K p q=K.zero∧NW K p q=K.zero)) :
  iA K inv (DN K p q)=iR K inv (iA K inv p) (iA K inv q):=by
 obtain⟨w,hw,e1,e2⟩:=IT (K:=K) (inv:=inv) E h1 h2;rw[e1]at hp;rw[e2]at hq;rw[e1,e2]
 by_cases ha:vC K p q=K.zero
 ·have hx:EL K q p=EL K p q:=jG ha;have hu:NW K p q≠K.zero:=fun e=>hn ⟨ha,e⟩
  have hw0:w≠K.zero:=fun e=>E.F.ne (by rw[←hw,e,K.mul_zero])
  have hy:K.mul (CS K p q) (K.mul (K.mul w w) w)≠K.mul (CS K q p) (K.mul (K.mul w w) w):=fun h=>by
   refine E.F.mul_ne hu (E.F.mul_ne (E.F.mul_ne hw0 hw0) hw0) ?_;show K.mul (K.sub (CS K q p) (CS K p q)) _=_;have e0:∀s t c:R,K.mul (K.sub s t) c=K.sub (K.mul s c) (K.mul t c):=fun s t c=>aE K (aW K [s,t,c]) ((Z0-Z1)*Z2) (Z0*Z2-Z1*Z2) (by kernel_rfl)
   rw[e0,h];exact K.add_neg _
  rw[hx]at hq ⊢;have ho:=FN (y1:=K.mul (CS K p q) (K.mul (K.mul w w) w)) (y2:=K.mul (CS K q p) (K.mul (K.mul w w) w)) E ((show K.mul _ _=_ from hp).trans (show K.mul _ _=_ from hq).symm) hy;rw[kW (p:=(K.mul (EL K p q) (K.mul w w),K.mul (CS K p q) (K.mul (K.mul w w) w))) (q:=(K.mul (EL K p q) (K.mul w w),K.mul (CS K q p) (K.mul (K.mul w w) w))) ⟨rfl,ho⟩];refine dP ?_;show K.mul (K.mul p.2.2 q.2.2) (vC K p q)=K.zero;rw[ha,K.mul_zero]
 ·have hz:K.mul (K.mul p.2.2 q.2.2) (vC K p q)≠K.zero:=E.F.mul_ne (E.F.mul_ne h1 h2) ha;have hj:=E.F.inv _ hz;refine (eC (p:=DN K p q) hz).trans ?_;exact (aFv E hw ha hj).symm
theorem Bm (E:EC K inv b) {p q:Jc R} (hp:On K b (iA K inv p)) (hq:On K b (iA K inv q)):iA K inv (jX K p q)=iR K inv (iA K inv p) (iA K inv q):=by
 unfold jX
 by_cases h1:p.2.2=K.zero
 ·rw[if_pos h1,dP h1]; rfl
 ·rw[if_neg h1]
  by_cases h2:q.2.2=K.zero
  ·rw[if_pos h2,dP h2,eC h1]; rfl
  ·rw[if_neg h2]
   by_cases h3:vC K p q=K.zero∧NW K p q=K.zero
   ·rw[if_pos h3];obtain⟨w,hw,e1,e2⟩:=IT (K:=K) (inv:=inv) E h1 h2;have hx:EL K q p=EL K p q:=jG h3.1;have hy:CS K q p=CS K p q:=jG h3.2;rw[RU E hp];rw[hx,hy]at e2;rw[e2,e1]
   ·rw[if_neg h3];exact Pr E hp hq h1 h2 h3
theorem Xj (E:EC K inv b) {p q:Jc R} (hp:On K b (iA K inv p)) (hq:On K b (iA K inv q)):iA K inv (rplus K p q)=iR K inv (iA K inv p) (iA K inv q):=by
 rw[←Bm E hp hq];unfold rplus jX
 by_cases h1:p.2.2=K.zero
 ·rw[if_pos h1,if_pos h1]
 ·rw[if_neg h1,if_neg h1]
  by_cases h2:q.2.2=K.zero
  ·rw[if_pos h2,if_pos h2]
  ·rw[if_neg h2,if_neg h2]
   by_cases h3:vC K p q=K.zero∧NW K p q=K.zero
   ·rw[if_pos h3,if_pos h3]
   ·rw[if_neg h3,if_neg h3]
    by_cases h4:vC K p q=K.zero
    ·rw[if_pos h4,dP rfl];refine (dP ?_).symm;show K.mul (K.mul p.2.2 q.2.2) (vC K p q)=K.zero;rw[h4,K.mul_zero]
    ·rw[if_neg h4]
def BE (K:CR R) (p:Jc R):Jc R:=(p.1,K.sub K.zero p.2.1,p.2.2)
theorem aJV (p:Jc R):iA K inv (BE K p)=MG K (iA K inv p):=by
 by_cases h:p.2.2=K.zero
 ·rw[dP h,dP (p:=BE K p) h]; rfl
 ·rw[eC h,eC (p:=BE K p) h];refine congrArg some (Prod.ext rfl ?_);show K.mul (K.sub K.zero p.2.1) _=K.neg (K.mul p.2.1 _);rw[←K.neg_mul];congr 1;exact K.zero_add _
end
def vp:At→Option (List Prop×Fq)
 | .f x=>some ([],x)
 | .q x=>some ([wv x<FP.M],m1 x)
 | .c _=>none
theorem UV {a:At} {p:List Prop} {x:Fq} (h:vp a=some (p,x)) (hp:aZ p):∃n:Nat,aA [a]=aA (q1 n)∧m1 n=x∧wv n<FP.M:=by
 cases a with
 | f y=>cases h; exact⟨x.1,rfl,Pg x,by unfold wv; rw[cM x.2]; exact x.2⟩
 | q y=>cases h; exact⟨_,rfl,rfl,hp.1⟩
 | c v=>cases h
def g2p (op:Fq→Fq→RV):kI
 | [.v (.fl [a]),.v (.fl [b])]=>match vp a,vp b with
  | some (p,x),some (q,y)=>some (p++q,op x y)
  | _,_=>none
 | _=>none
theorem Jp {P:Program} {f:FuncId} {op:Fq→Fq→RV} (h:∀a b:Nat,wv a<FP.M→wv b<FP.M→∀args w,bU w [.v (.fl (q1 a)),.v (.fl (q1 b))] args→Good P f (op (m1 a) (m1 b)) args w) :
  ∀cs pre r,g2p op cs=some (pre,r)→aZ pre→∀(args:List Value) (w:World),bU w cs args→Good P f r args w:=by
 intro cs pre r hg hp args w ha;unfold g2p at hg;split at hg
 ·rename_i a b;split at hg
  ·rename_i p x q y hx hy;cases hg;obtain⟨p1,p2⟩:=dQ.1 hp;obtain⟨n,e1,rfl,hn⟩:=UV hx p1;obtain⟨m,e2,rfl,hm⟩:=UV hy p2;refine h n m hn hm args w ?_
   match args,ha with
   | [v,u],ha =>
    have h1:v=.agg (aA [a]).toArray:=ha.1;have h2:u=.agg (aA [b]).toArray:=ha.2.1;rw[e1]at h1;rw[e2]at h2;exact⟨h1,h2,trivial⟩
   | [],ha=>exact ha.elim
   | [_],ha=>exact ha.2.elim
   | _::_::_::_,ha=>exact ha.2.2.elim
  ·cases hg
 ·cases hg
def gF2 (op:Fq→Fq→Fq):kI
 | [.v (.im (.int .i64 (.ofNat 1))),.v (.fl [a]),.v (.fl [b])]=>match vp a,vp b with
  | some (p,x),some (q,y)=>some (p++q,.many [.fl (e1 (op x y)),.im (.int .i64 0)])
  | _,_=>none
 | _=>none
theorem Jo {f:FuncId} {op:Fq→Fq→Fq} (h:∀(a b:Nat) (w:World),wv a<FP.M→wv b<FP.M→Calls prog f #[.int .i64 1,.agg (aA (q1 a)).toArray,.agg (aA (q1 b)).toArray] w (Ss 0 (op (m1 a) (m1 b)).1 w)) :
  ∀cs pre r,gF2 op cs=some (pre,r)→aZ pre→∀(args:List Value) (w:World),bU w cs args→Good prog f r args w:=by
 intro cs pre r hg hp args w ha;unfold gF2 at hg;split at hg
 ·rename_i a b;split at hg
  ·rename_i p x q y hx hy;cases hg;obtain⟨p1,p2⟩:=dQ.1 hp;obtain⟨n,e1,rfl,hn⟩:=UV hx p1;obtain⟨m,e2,rfl,hm⟩:=UV hy p2
   match args,ha with
   | [t,v,u],ha =>
    have h0:t=.int .i64 1:=ha.1;have h1:v=.agg (aA [a]).toArray:=ha.2.1;have h2:u=.agg (aA [b]).toArray:=ha.2.2.1;rw[e1]at h1;rw[e2]at h2;subst h0; subst h1; subst h2;refine (h n m w hn hm).mono ?_
    rintro e w' ⟨s0,s1,s2,s3,rfl,hs,hv,hb⟩
    obtain⟨rfl,rfl,rfl,rfl⟩:=pW hs (CT (op (m1 n) (m1 m)).2) hv;exact⟨rfl,hb⟩
   | [],ha=>exact ha.elim
   | [_],ha=>exact ha.2.elim
   | [_,_],ha=>exact ha.2.2.elim
   | _::_::_::_::_,ha=>exact ha.2.2.2.elim
  ·cases hg
 ·cases hg
theorem aWs (a b:Nat) (w:World) (ha:wv a<FP.M) (hb:wv b<FP.M):Calls prog 178 #[.int .i64 1,.agg (aA (q1 a)).toArray,.agg (aA (q1 b)).toArray] w (Ss 0 (F1.add (m1 a) (m1 b)).1 w):=by
 have e:(F1.add (m1 a) (m1 b)).1=(wv a+wv b)%FP.M:=(Nat.add_mod _ _ _).symm;rw[e];exact Qv 1 FP oV _ _ _ _ _ _ _ _ (cQ a) (cQ b) ha hb w
theorem aWr (a b:Nat) (w:World) (ha:wv a<FP.M) (hb:wv b<FP.M):Calls prog 159 #[.int .i64 1,.agg (aA (q1 a)).toArray,.agg (aA (q1 b)).toArray] w (Ss 0 (F1.mul (m1 a) (m1 b)).1 w):=by
 have e:(F1.mul (m1 a) (m1 b)).1=(wv a*wv b)%FP.M:=(Nat.mul_mod _ _ _).symm;rw[e];exact Ql 1 FP oV _ _ _ _ _ _ _ _ (cQ a) (cQ b) ha hb w
theorem aWq (a b:Nat) (w:World) (ha:wv a<FP.M) (hb:wv b<FP.M):Calls prog 172 #[.int .i64 1,.agg (aA (q1 a)).toArray,.agg (aA (q1 b)).toArray] w (Ss 0 (F1.sub (m1 a) (m1 b)).1 w):=by
 have e:(F1.sub (m1 a) (m1 b)).1=(wv a+FP.M-wv b)%FP.M:=by
  show (wv a%FP.M+(0+FP.M-wv b%FP.M)%FP.M)%FP.M=_;rw[Nat.mod_eq_of_lt ha,Nat.mod_eq_of_lt hb,Nat.add_mod_mod];congr 1;omega
 rw[e];exact Qg 1 FP oV _ _ _ _ _ _ _ _ (cQ a) (cQ b) ha hb w
def aQV (d:Bool):kI
 | [.v (.im (.int .i64 (.ofNat 1))),.v (.fl l)]=>match LI l with
  | some x=>bif d then some ([wv x<FP.M],.one (.im (.int .i64 0)))else some ([¬wv x<FP.M],.one (.im (.int .i64 21)))
  | none=>none
 | _=>none
theorem aKv (d:Bool):∀cs pre r,aQV d cs=some (pre,r)→aZ pre→∀(args:List Value) (w:World),bU w cs args→Good prog 173 r args w:=by
 intro cs pre r hg hp args w ha;unfold aQV at hg;split at hg
 ·rename_i l;split at hg
  ·rename_i x hx
   match args,ha with
   | [v,u],ha =>
    have h1:v=.int .i64 1:=ha.1;have h2:u=.agg (aA l).toArray:=ha.2.1;rw[gD l x hx]at h2;subst h1; subst h2;cases d
    ·cases hg;exact JG 1 21 _ _ _ _ (cQ x) (Or.inr ⟨FP,oV,hp.1,rfl⟩) w
    ·cases hg;exact OB 1 FP oV _ _ _ _ (cQ x) hp.1 w
   | [],ha=>exact ha.elim
   | [_],ha=>exact ha.2.elim
   | _::_::_::_,ha=>exact ha.2.2.elim
  ·cases hg
 ·cases hg
def aGo (d:Bool):Tab:=(TZ true).add 178 (gF2 F1.add)
theorem aJA (d:Bool):TabOk prog (aGo d):=(Al true).ad func178 (Jo aWs)
def aGm (d:Bool):Tab:=(aGo d).add 159 (gF2 F1.mul)
theorem aJy (d:Bool):TabOk prog (aGm d):=(aJA d).ad func159 (Jo aWr)
def aGl (d:Bool):Tab:=(aGm d).add 172 (gF2 F1.sub)
theorem aJx (d:Bool):TabOk prog (aGl d):=(aJy d).ad func172 (Jo aWq)
def Ld (d:Bool):Tab:=(aGl d).add 173 (aQV d)
theorem Oh (d:Bool):TabOk prog (Ld d):=(aJx d).ad func173 (aKv d)
theorem aBg (d:Bool) (x y:N2):bP prog (Ld d) qN (fun _=>true) f143 40 [.v (.fl (q2 x)),.v (.fl (q2 y))]=some ([],.one (.fl (e2 (F2.add (m2 x) (m2 y))))):=by kernel_rfl
def Lk (d:Bool):Tab:=(Ld d).add 143 (g2 CD CD (fun x y=>([],.one (.fl (e2 (F2.add x y))))))
theorem Ot (d:Bool):TabOk prog (Lk d):=(Oh d).ad func143 (jZ eE eE fun x y hp args w ha=>aI aG (Oh d) aO func143 (aBg d x y) hp ha)
theorem aBd (d:Bool) (x y:N2):bP prog (Lk d) qN (fun _=>true) f111 40 [.v (.fl (q2 x)),.v (.fl (q2 y))]=some ([],.one (.fl (e2 (F2.sub (m2 x) (m2 y))))):=by kernel_rfl
def Lh (d:Bool):Tab:=(Lk d).add 111 (g2 CD CD (fun x y=>([],.one (.fl (e2 (F2.sub x y))))))
theorem Om (d:Bool):TabOk prog (Lh d):=(Ot d).ad func111 (jZ eE eE fun x y hp args w ha=>aI aG (Ot d) aO func111 (aBd d x y) hp ha)
theorem Vw (d:Bool) (x:N2):bP prog (Lh d) qN (fun _=>true) f115 40 [.v (.fl (q2 x))]=some ([],.one (.fl (e2 (aL (m2 x))))):=by kernel_rfl
def UL (d:Bool):Tab:=(Lh d).add 115 (g1 CD (fun x=>([],.one (.fl (e2 (aL x))))))
theorem Av (d:Bool):TabOk prog (UL d):=(Om d).ad func115 (mG eE fun x hp args w ha=>aI aG (Om d) aO func115 (Vw d x) hp ha)
theorem Ug (d:Bool) (x y:Nat):bP prog (UL d) qN (fun _=>true) f232 40 [.v (.fl (q1 x)),.v (.fl (q1 y))]=some ([wv x<FP.M,wv y<FP.M],.one (.fl (e1 (F1.add (m1 x) (m1 y))))):=by kernel_rfl
def TR (d:Bool):Tab:=(UL d).add 232 (g2p fun x y=>.one (.fl (e1 (F1.add x y))))
theorem Ah (d:Bool):TabOk prog (TR d):=(Av d).ad func232 (Jp fun x y hx hy args w ha=>aI aG (Av d) aO func232 (Ug d x y) ⟨hx,hy,trivial⟩ ha)
theorem Fa (d:Bool) (x y:Nat):bP prog (TR d) qN (fun _=>true) f230 40 [.v (.fl (q1 x)),.v (.fl (q1 y))]=some ([wv x<FP.M,wv y<FP.M],.one (.fl (e1 (F1.sub (m1 x) (m1 y))))):=by kernel_rfl
def KC (d:Bool):Tab:=(TR d).add 230 (g2p fun x y=>.one (.fl (e1 (F1.sub x y))))
theorem MZ (d:Bool):TabOk prog (KC d):=(Ah d).ad func230 (Jp fun x y hx hy args w ha=>aI aG (Ah d) aO func230 (Fa d x y) ⟨hx,hy,trivial⟩ ha)
theorem Ez (d:Bool) (x y:Nat):bP prog (KC d) qN (fun _=>true) f233 40 [.v (.fl (q1 x)),.v (.fl (q1 y))]=some ([wv x<FP.M,wv y<FP.M],.one (.fl (e1 (F1.mul (m1 x) (m1 y))))):=by kernel_rfl
def KB (d:Bool):Tab:=(KC d).add 233 (g2p fun x y=>.one (.fl (e1 (F1.mul x y))))
theorem MY (d:Bool):TabOk prog (KB d):=(MZ d).ad func233 (Jp fun x y hx hy args w ha=>aI aG (MZ d) aO func233 (Ez d x y) ⟨hx,hy,trivial⟩ ha)
theorem aAL (d:Bool) (x:Nat):bP prog (KB d) qN (fun _=>true) f231 40 [.v (.fl (q1 x))]=some ([],.one (.fl (e1 F1.one))):=by kernel_rfl
def Kr (d:Bool):Tab:=(KB d).add 231 (g1 VW (fun x=>([],.one (.fl (e1 F1.one)))))
theorem Nq (d:Bool):TabOk prog (Kr d):=(MY d).ad func231 (mG iV fun x hp args w ha=>aI aG (MY d) aO func231 (aAL d x) hp ha)
theorem aAN (d:Bool) (x:Nat):bP prog (Kr d) qN (fun _=>true) f227 40 [.v (.fl (q1 x))]=some ([],.one (.fl (e1 (fm 3)))):=by kernel_rfl
def Kt (d:Bool):Tab:=(Kr d).add 227 (g1 VW (fun x=>([],.one (.fl (e1 (fm 3))))))
theorem Ns (d:Bool):TabOk prog (Kt d):=(Nq d).ad func227 (mG iV fun x hp args w ha=>aI aG (Nq d) aO func227 (aAN d x) hp ha)
theorem aAM (d:Bool) (x:Fq):bP prog (Kt d) qN (fun _=>true) f228 40 [.v (.fl (e1 x))]=some ([x≠F1.zero],.one (.fl (e1 (iC x)))):=by kernel_rfl
def TS (d:Bool):Tab:=(Kt d).add 228 (g1 Mp (fun x=>([x≠F1.zero],.one (.fl (e1 (iC x))))))
theorem RC (d:Bool):TabOk prog (TS d):=(Ns d).ad func228 (bJ lY fun x hp args w ha=>aI aG (Ns d) aO func228 (aAM d x) hp ha)
theorem Fb (x:Nat):bP prog (TS true) qN (fun _=>true) f229 40 [.v (.fl (q1 x))]=some ([wv x<FP.M],.one (.im (.bool true))):=by kernel_rfl
theorem Fc (x:Nat):bP prog (TS false) qN (fun _=>true) f229 40 [.v (.fl (q1 x))]=some ([¬wv x<FP.M],.one (.im (.bool false))):=by kernel_rfl
def aPK (d:Bool) (x:Nat):List Prop×RV:=bif d then ([wv x<FP.M],.one (.im (.bool true)))else ([¬wv x<FP.M],.one (.im (.bool false)))
theorem aJD (d:Bool) (x:Nat) (hp:aZ (aPK d x).1) (args:List Value) (w:World) (ha:bU w [.v (.fl (q1 x))] args):Good prog 229 (aPK d x).2 args w:=by
 cases d
 ·exact aI aG (RC false) aO func229 (Fc x) hp ha
 ·exact aI aG (RC true) aO func229 (Fb x) hp ha
def Ks (d:Bool):Tab:=(TS d).add 229 (g1 LI (aPK d))
theorem Nr (d:Bool):TabOk prog (Ks d):=(RC d).ad func229 (bJ gD fun x hp args w ha=>aJD d x hp args w ha)
theorem Up (d:Bool) (x y:N2):bP prog (Ks d) qN (fun _=>true) f246 40 [.v (.fl (q2 x)),.v (.fl (q2 y))]=some ([],.one (.fl (e2 (F2.add (m2 x) (m2 y))))):=by kernel_rfl
def UC (d:Bool):Tab:=(Ks d).add 246 (g2 CD CD (fun x y=>([],.one (.fl (e2 (F2.add x y))))))
theorem Ao (d:Bool):TabOk prog (UC d):=(Nr d).ad func246 (jZ eE eE fun x y hp args w ha=>aI aG (Nr d) aO func246 (Up d x y) hp ha)
theorem Gb (d:Bool) (x y:N2):bP prog (UC d) qN (fun _=>true) f244 40 [.v (.fl (q2 x)),.v (.fl (q2 y))]=some ([],.one (.fl (e2 (F2.sub (m2 x) (m2 y))))):=by kernel_rfl
def KH (d:Bool):Tab:=(UC d).add 244 (g2 CD CD (fun x y=>([],.one (.fl (e2 (F2.sub x y))))))
theorem NE (d:Bool):TabOk prog (KH d):=(Ao d).ad func244 (jZ eE eE fun x y hp args w ha=>aI aG (Ao d) aO func244 (Gb d x y) hp ha)
theorem Ga (d:Bool) (x y:N2):bP prog (KH d) qN (fun _=>true) f247 40 [.v (.fl (q2 x)),.v (.fl (q2 y))]=some ([],.one (.fl (e2 (F2.mul (m2 x) (m2 y))))):=by kernel_rfl
def KG (d:Bool):Tab:=(KH d).add 247 (g2 CD CD (fun x y=>([],.one (.fl (e2 (F2.mul x y))))))
theorem ND (d:Bool):TabOk prog (KG d):=(NE d).ad func247 (jZ eE eE fun x y hp args w ha=>aI aG (NE d) aO func247 (Ga d x y) hp ha)
theorem aAS (d:Bool) (x:N2):bP prog (KG d) qN (fun _=>true) f245 40 [.v (.fl (q2 x))]=some ([],.one (.fl (e2 F2.one))):=by kernel_rfl
def Kx (d:Bool):Tab:=(KG d).add 245 (g1 CD (fun x=>([],.one (.fl (e2 F2.one)))))
theorem Nx (d:Bool):TabOk prog (Kx d):=(ND d).ad func245 (mG eE fun x hp args w ha=>aI aG (ND d) aO func245 (aAS d x) hp ha)
def dE:Q2:=(⟨19485874751759354771024239261021720505790618469301721065564631296452457478373,by decide⟩,⟨266929791119991161246907387137283842545076965332900288569378510910307636690,by decide⟩)
theorem aAU (d:Bool) (x:N2):bP prog (Kx d) qN (fun _=>true) f241 40 [.v (.fl (q2 x))]=some ([],.one (.fl (e2 dE))):=by kernel_rfl
def Ky (d:Bool):Tab:=(Kx d).add 241 (g1 CD (fun x=>([],.one (.fl (e2 dE)))))
theorem Ny (d:Bool):TabOk prog (Ky d):=(Nx d).ad func241 (mG eE fun x hp args w ha=>aI aG (Nx d) aO func241 (aAU d x) hp ha)
theorem aAT (d:Bool) (x:N2):bP prog (Ky d) qN (fun _=>true) f242 40 [.v (.fl (q2 x))]=some ([sC (m2 x)≠F1.zero],.one (.fl (e2 (dW (m2 x))))):=by kernel_rfl
def KJ (d:Bool):Tab:=(Ky d).add 242 (g1 CD (fun x=>([sC x≠F1.zero],.one (.fl (e2 (dW x))))))
theorem EE (d:Bool):TabOk prog (KJ d):=(Ny d).ad func242 (mG eE fun x hp args w ha=>aI aG (Ny d) aO func242 (aAT d x) hp ha)
theorem Gc (x:N2):bP prog (KJ true) qN (fun _=>true) f243 40 [.v (.fl (q2 x))]=some ([wv x.1<FP.M,wv x.2<FP.M],.one (.im (.bool true))):=by kernel_rfl
theorem Ge (x:N2):bP prog (KJ false) qN (fun _=>true) f243 40 [.v (.fl (q2 x))]=some ([¬wv x.1<FP.M],.one (.im (.bool false))):=by kernel_rfl
theorem Gd (x:N2):aU prog qN (fun _=>⟨fun s=>KJ (bif Nat.beq s 9 then false else true),fun _=>true,fun _=>none⟩) f243 40 [.v (.fl (q2 x))]=some ([wv x.1<FP.M,¬wv x.2<FP.M],.one (.im (.bool false))):=by kernel_rfl
def aCN (d:Bool) (x:N2):List Prop×RV:=bif d then ([wv x.1<FP.M∧wv x.2<FP.M],.one (.im (.bool true)))else ([¬(wv x.1<FP.M∧wv x.2<FP.M)],.one (.im (.bool false)))
theorem aCM (d:Bool) (x:N2) (hp:aZ (aCN d x).1) (args:List Value) (w:World) (ha:bU w [.v (.fl (q2 x))] args):Good prog 243 (aCN d x).2 args w:=by
 cases d
 ·have h1:¬(wv x.1<FP.M∧wv x.2<FP.M):=hp.1
  by_cases h:wv x.1<FP.M
  ·exact aB aG (fun _ s=>EE _) aO func243 (Gd x) ⟨h,fun e=>h1 ⟨h,e⟩,trivial⟩ ha
  ·exact aI aG (EE false) aO func243 (Ge x) ⟨h,trivial⟩ ha
 ·have h1:wv x.1<FP.M∧wv x.2<FP.M:=hp.1;exact aI aG (EE true) aO func243 (Gc x) ⟨h1.1,h1.2,trivial⟩ ha
def UD (d:Bool):Tab:=(KJ d).add 243 (g1 Yw (aCN d))
theorem RD (d:Bool):TabOk prog (UD d):=(EE d).ad func243 (bJ oM fun x hp args w ha=>aCM d x hp args w ha)
end Go.Proofs.YtjkpglhlmknciaaGreat.Ex
