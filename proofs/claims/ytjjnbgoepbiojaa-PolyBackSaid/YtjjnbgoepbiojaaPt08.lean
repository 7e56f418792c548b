/- Pt08 -/
import Derived.Deep.DeepCutAuto
import Derived.Test.YtjjnbgoepbiojaaPt07
import Derived.Test.YtjjnbgoepbiojaaPt06
import Derived.Test.YtjjnbgoepbiojaaPt04
import Derived.Test.YtjjnbgoepbiojaaProg
set_option maxRecDepth 100000
set_option linter.unusedVariables false
set_option linter.unusedSimpArgs false
set_option linter.unnecessarySimpa false
noncomputable section
namespace Go.Proofs.Ytjjnbgoepbiojaa
open Go.Proofs.Try
open Go.RowKit
set_option maxHeartbeats 2000000 in
theorem xH (f:Int) (F:FC) (hf:FieldIs f F) (w:World):Calls prog 64 #[.int .i64 f] w fun e w'=>e=.returned (.agg #[.int .u64 F.s0,.int .u64 F.s1,.int .u64 F.s2,.int .u64 F.s3])∧Below w.heap.size w w':=by
 rcases hf with⟨rfl,rfl⟩|⟨rfl,rfl⟩
 ·go_enter func64,ntmps64
  go_wp2_with fail;refine bodyPost_ret (v:=.agg #[.int .u64 FP.s0,.int .u64 FP.s1,.int .u64 FP.s2,.int .u64 FP.s3]) (by simp[results,results64,go_sem,FP]) rfl ?_;refine⟨rfl,?_⟩
  repeat (first|exact Below.refl _ _|refine Below.drew ?_|refine Below.alloc ?_ (by first|(simp; done)|(simp; omega)) _|refine Below.setCell ?_ (by simp) _)
 ·go_enter func64,ntmps64
  go_wp2_with fail;refine bodyPost_ret (v:=.agg #[.int .u64 FR.s0,.int .u64 FR.s1,.int .u64 FR.s2,.int .u64 FR.s3]) (by simp[results,results64,go_sem,FR]) rfl ?_;refine⟨rfl,?_⟩
  repeat (first|exact Below.refl _ _|refine Below.drew ?_|refine Below.alloc ?_ (by first|(simp; done)|(simp; omega)) _|refine Below.setCell ?_ (by simp) _)
set_option maxHeartbeats 2000000 in
theorem sV (f:Int) (F:FC) (hf:FieldIs f F) (a0 a1 a2 a3 b0 b1 b2 b3:Nat) (ha:bY a0 a1 a2 a3) (hb:bY b0 b1 b2 b3) (w:World) :
  Calls prog 29 #[.int .i64 f,.agg #[.int .u64 a0,.int .u64 a1,.int .u64 a2,.int .u64 a3],.agg #[.int .u64 b0,.int .u64 b1,.int .u64 b2,.int .u64 b3]] w (eM ((aC a0 a1 a2 a3+aC b0 b1 b2 b3)%F.M) w):=by
 have hpos:=hf.ok.pos;have h2M:=hf.ok.two
 go_enter func29,ntmps29
 go_wp2_with fail;have HM:=Lib.hid ((((Mem.nil w).new (w.heap.size) a0 a1 a2 a3 25 (by simp)).new (w.heap.size+1) b0 b1 b2 b3 25 (by simp)).new (w.heap.size+1+1) 0 0 0 0 25 (by simp))
 go_upto_region 1 with fail
 go_cut [7] (fun s7 wx=>∃gb s0 s1 s2 s3:Nat,s7=.pointer (some ⟨gb,0,none⟩)∧bY s0 s1 s2 s3∧Hid (aC s0 s1 s2 s3=aC a0 a1 a2 a3%F.M+aC b0 b1 b2 b3%F.M)∧Hid (Mem w wx [(gb,s0,s1,s2,s3),(w.heap.size+1+1,0,0,0,0)]))
 case first =>
  refine dX (fun wx=>Mem w wx [(w.heap.size+1+1,0,0,0,0),(w.heap.size+1,b0,b1,b2,b3),(w.heap.size,a0,a1,a2,a3)]) 12 (by kernel_rfl) ?_;have HM':=Lib.hid (HM.out.drewN 1);clear HM;have HM:=HM';clear HM';have HS:=HM.out.sub (rs':=[(w.heap.size+1+1,0,0,0,0),(w.heap.size+1,b0,b1,b2,b3),(w.heap.size,a0,a1,a2,a3)]) (by simp);refine aN (i:=0) (v:=.int .i64 f) rfl (by kernel_rfl) (by kernel_rfl) (by kernel_rfl) (by kernel_rfl) (fun _ _ _ h=>h) HS (Or.inl ⟨by kernel_rfl,fun wx hx => ?_⟩) ?_
  ·clear HS hx;go_simp
  simp only[Act.put,List.setIfInBounds_toArray,List.set_cons_zero,List.set_cons_succ];refine aN (i:=1) (v:=.agg #[.int .u64 a0,.int .u64 a1,.int .u64 a2,.int .u64 a3]) rfl (by kernel_rfl) (by kernel_rfl) (by kernel_rfl) (by kernel_rfl) (fun _ _ _ h=>h) HS (Or.inl ⟨by kernel_rfl,fun wx hx => ?_⟩) ?_
  ·have kr:=hx.row (b:=w.heap.size) (c0:=a0) (c1:=a1) (c2:=a2) (c3:=a3) (by simp);have x0:=kr.c0; have x1:=kr.c1; have x2:=kr.c2; have x3:=kr.c3;clear kr HS hx;go_simp
  simp only[Act.put,List.setIfInBounds_toArray,List.set_cons_zero,List.set_cons_succ];refine aN (i:=3) (v:=.int .i64 f) rfl (by kernel_rfl) (by kernel_rfl) (by kernel_rfl) (by kernel_rfl) (fun _ _ _ h=>h) HS (Or.inl ⟨by kernel_rfl,fun wx hx => ?_⟩) ?_
  ·clear HS hx;go_simp
  simp only[Act.put,List.setIfInBounds_toArray,List.set_cons_zero,List.set_cons_succ];refine aN (i:=4) (v:=.agg #[.int .u64 b0,.int .u64 b1,.int .u64 b2,.int .u64 b3]) rfl (by kernel_rfl) (by kernel_rfl) (by kernel_rfl) (by kernel_rfl) (fun _ _ _ h=>h) HS (Or.inl ⟨by kernel_rfl,fun wx hx => ?_⟩) ?_
  ·have kr:=hx.row (b:=w.heap.size+1) (c0:=b0) (c1:=b1) (c2:=b2) (c3:=b3) (by simp);have x0:=kr.c0; have x1:=kr.c1; have x2:=kr.c2; have x3:=kr.c3;clear kr HS hx;go_simp
  simp only[Act.put,List.setIfInBounds_toArray,List.set_cons_zero,List.set_cons_succ];clear HS;refine lP (i:=2) (j:=10) (by kernel_rfl) rfl rfl (fun K hK => ?_) (fun K hK => ?_)
  ·go_simp;refine (dC f F hf a0 a1 a2 a3 ha _).mono ?_
   rintro e v1 ⟨x0,x1,x2,x3,rfl,hx,hv,hbl⟩
   have HVx:=Lib.hid hv;clear hv;have HM':=Lib.hid (HM.out.on hbl);clear HM hbl;have HM:=HM';clear HM';have HS:=(HM.out.sub (rs':=[(w.heap.size+1+1,0,0,0,0),(w.heap.size+1,b0,b1,b2,b3),(w.heap.size,a0,a1,a2,a3)]) (by simp));refine hK.out _ _ (Or.inr HS) (fun _ => ?_);clear hK K HS;refine lP (i:=5) (j:=10) (by kernel_rfl) rfl rfl (fun K hK => ?_) (fun K hK => ?_)
   ·go_simp;refine (dC f F hf b0 b1 b2 b3 hb _).mono ?_
    rintro e v2 ⟨y0,y1,y2,y3,rfl,hy,hv,hbl⟩
    have HVy:=Lib.hid hv;clear hv;have HM':=Lib.hid (HM.out.on hbl);clear HM hbl;have HM:=HM';clear HM';have HS:=(HM.out.sub (rs':=[(w.heap.size+1+1,0,0,0,0),(w.heap.size+1,b0,b1,b2,b3),(w.heap.size,a0,a1,a2,a3)]) (by simp));refine hK.out _ _ (Or.inr HS) (fun _ => ?_);clear hK K HS;refine lP (i:=6) (j:=10) (by kernel_rfl) rfl rfl (fun K hK => ?_) (fun K hK => ?_)
    ·go_simp;refine (gK x0 x1 x2 x3 y0 y1 y2 y3 hx hy _).mono ?_
     rintro e v3 ⟨s0,s1,s2,s3,cc,rfl,hs,hcc,hv,hbl⟩
     have HVs:=Lib.hid (show aC s0 s1 s2 s3=aC a0 a1 a2 a3%F.M+aC b0 b1 b2 b3%F.M by have:=Nat.mod_lt (aC a0 a1 a2 a3) hpos; have:=Nat.mod_lt (aC b0 b1 b2 b3) hpos; rw[HVx.out,HVy.out]at hv; omega);clear hv;have HM':=Lib.hid (HM.out.on hbl);clear HM hbl;have HM:=HM';clear HM';have HS:=(HM.out.sub (rs':=[(w.heap.size+1+1,0,0,0,0),(w.heap.size+1,b0,b1,b2,b3),(w.heap.size,a0,a1,a2,a3)]) (by simp));refine hK.out _ _ (Or.inr HS) (fun _ => ?_);clear hK K HS;have HS:=HM.out.sub (rs':=[(w.heap.size+1+1,0,0,0,0),(w.heap.size+1,b0,b1,b2,b3),(w.heap.size,a0,a1,a2,a3)]) (by simp);refine aN (i:=7) (v:=.tuple #[.agg #[.int .u64 s0,.int .u64 s1,.int .u64 s2,.int .u64 s3],.int .u64 (cc:Nat)]) rfl (by kernel_rfl) (by kernel_rfl) (by kernel_rfl) (by kernel_rfl) (fun _ _ _ h=>h) HS (Or.inl ⟨by kernel_rfl,fun wx hx => ?_⟩) ?_
     ·clear HS hx;go_simp
     simp only[Act.put,List.setIfInBounds_toArray,List.set_cons_zero,List.set_cons_succ];refine aN (i:=8) (v:=.agg #[.int .u64 s0,.int .u64 s1,.int .u64 s2,.int .u64 s3]) rfl (by kernel_rfl) (by kernel_rfl) (by kernel_rfl) (by kernel_rfl) (fun _ _ _ h=>h) HS (Or.inl ⟨by kernel_rfl,fun wx hx => ?_⟩) ?_
     ·clear HS hx;go_simp
     simp only[Act.put,List.setIfInBounds_toArray,List.set_cons_zero,List.set_cons_succ];refine aN (i:=9) (v:=.int .u64 (cc:Nat)) rfl (by kernel_rfl) (by kernel_rfl) (by kernel_rfl) (by kernel_rfl) (fun _ _ _ h=>h) HS (Or.inl ⟨by kernel_rfl,fun wx hx => ?_⟩) ?_
     ·clear HS hx;go_simp
     simp only[Act.put,List.setIfInBounds_toArray,List.set_cons_zero,List.set_cons_succ];clear HS;refine aJ (i:=10) (by kernel_rfl) rfl (fun K hK => ?_);go_simp;have HM9:=HM;have HM':=Lib.hid (HM.out.new (v3.heap.size) 0 0 0 0 85 (by first|rfl|(simp; done)));have hga:w.heap.size+1+1<(v3.heap.size):=by first|exact HM.out.lt (b:=w.heap.size+1+1) (c0:=0) (c1:=0) (c2:=0) (c3:=0) (by simp)|simpa using HM.out.lt (b:=w.heap.size+1+1) (c0:=0) (c1:=0) (c2:=0) (c3:=0) (by simp)|(have:=HM.out.lt (b:=w.heap.size+1+1) (c0:=0) (c1:=0) (c2:=0) (c3:=0) (by simp); simp at this ⊢; omega)
     clear HM;have HM:=HM';clear HM';have HS:=(HM.out.sub (rs':=[(w.heap.size+1+1,0,0,0,0),(w.heap.size+1,b0,b1,b2,b3),(w.heap.size,a0,a1,a2,a3)]) (by simp));refine hK.out _ _ (Or.inr HS) (fun _ => ?_);clear hK K HS;have kr:=HM.out.row (b:=(v3.heap.size)) (c0:=0) (c1:=0) (c2:=0) (c3:=0) (by simp);have yl:=HM.out.lt (b:=(v3.heap.size)) (c0:=0) (c1:=0) (c2:=0) (c3:=0) (by simp);have y0:=kr.c0; have y1:=kr.c1; have y2:=kr.c2; have y3:=kr.c3; have yf:=kr.fr;clear kr;refine aJ (i:=11) (by kernel_rfl) rfl (fun K hK => ?_);go_simp;have HM':=Lib.hid (HM9.out.new (v3.heap.size) s0 s1 s2 s3 85 (by first|rfl|(simp; done)));clear HM;have HM:=HM';clear HM';have HS:=(HM.out.sub (rs':=[(w.heap.size+1+1,0,0,0,0),(w.heap.size+1,b0,b1,b2,b3),(w.heap.size,a0,a1,a2,a3)]) (by simp));refine hK.out _ _ (Or.inr HS) (fun _ => ?_);clear hK K HS;refine aJ (i:=12) (by kernel_rfl) rfl (fun K hK => ?_);go_simp;refine hK.out _ _ (Or.inl rfl) (fun _ => ?_);clear hK K;refine cZ (by kernel_rfl) ?_;go_wp2_with fail
     go_meet
     exact⟨(v3.heap.size),s0,s1,s2,s3,rfl,hs,HVs,Lib.hid (HM.out.sub (by simp))⟩
    ·go_simp;have HM9:=HM;have HM':=Lib.hid (HM.out.new (v2.heap.size) 0 0 0 0 85 (by first|rfl|(simp; done)));have hga:w.heap.size+1+1<(v2.heap.size):=by first|exact HM.out.lt (b:=w.heap.size+1+1) (c0:=0) (c1:=0) (c2:=0) (c3:=0) (by simp)|simpa using HM.out.lt (b:=w.heap.size+1+1) (c0:=0) (c1:=0) (c2:=0) (c3:=0) (by simp)|(have:=HM.out.lt (b:=w.heap.size+1+1) (c0:=0) (c1:=0) (c2:=0) (c3:=0) (by simp); simp at this ⊢; omega)
     clear HM;have HM:=HM';clear HM';have HS:=(HM.out.sub (rs':=[(w.heap.size+1+1,0,0,0,0),(w.heap.size+1,b0,b1,b2,b3),(w.heap.size,a0,a1,a2,a3)]) (by simp));refine hK.out _ _ (Or.inr HS) (fun _ => ?_);clear hK K HS;refine aJ (i:=6) (by kernel_rfl) rfl (fun K hK => ?_);go_simp;refine (gK x0 x1 x2 x3 y0 y1 y2 y3 hx hy _).mono ?_
     rintro e v3 ⟨s0,s1,s2,s3,cc,rfl,hs,hcc,hv,hbl⟩
     have HVs:=Lib.hid (show aC s0 s1 s2 s3=aC a0 a1 a2 a3%F.M+aC b0 b1 b2 b3%F.M by have:=Nat.mod_lt (aC a0 a1 a2 a3) hpos; have:=Nat.mod_lt (aC b0 b1 b2 b3) hpos; rw[HVx.out,HVy.out]at hv; omega);clear hv;have HM':=Lib.hid (HM.out.on hbl);clear HM hbl;have HM:=HM';clear HM';have HS:=(HM.out.sub (rs':=[(w.heap.size+1+1,0,0,0,0),(w.heap.size+1,b0,b1,b2,b3),(w.heap.size,a0,a1,a2,a3)]) (by simp));refine hK.out _ _ (Or.inr HS) (fun _ => ?_);clear hK K HS;have HS:=HM.out.sub (rs':=[(w.heap.size+1+1,0,0,0,0),(w.heap.size+1,b0,b1,b2,b3),(w.heap.size,a0,a1,a2,a3)]) (by simp);refine aN (i:=7) (v:=.tuple #[.agg #[.int .u64 s0,.int .u64 s1,.int .u64 s2,.int .u64 s3],.int .u64 (cc:Nat)]) rfl (by kernel_rfl) (by kernel_rfl) (by kernel_rfl) (by kernel_rfl) (fun _ _ _ h=>h) HS (Or.inl ⟨by kernel_rfl,fun wx hx => ?_⟩) ?_
     ·clear HS hx;go_simp
     simp only[Act.put,List.setIfInBounds_toArray,List.set_cons_zero,List.set_cons_succ];refine aN (i:=8) (v:=.agg #[.int .u64 s0,.int .u64 s1,.int .u64 s2,.int .u64 s3]) rfl (by kernel_rfl) (by kernel_rfl) (by kernel_rfl) (by kernel_rfl) (fun _ _ _ h=>h) HS (Or.inl ⟨by kernel_rfl,fun wx hx => ?_⟩) ?_
     ·clear HS hx;go_simp
     simp only[Act.put,List.setIfInBounds_toArray,List.set_cons_zero,List.set_cons_succ];refine aN (i:=9) (v:=.int .u64 (cc:Nat)) rfl (by kernel_rfl) (by kernel_rfl) (by kernel_rfl) (by kernel_rfl) (fun _ _ _ h=>h) HS (Or.inl ⟨by kernel_rfl,fun wx hx => ?_⟩) ?_
     ·clear HS hx;go_simp
     simp only[Act.put,List.setIfInBounds_toArray,List.set_cons_zero,List.set_cons_succ];clear HS;have kr:=HM.out.row (b:=(v2.heap.size)) (c0:=0) (c1:=0) (c2:=0) (c3:=0) (by simp);have yl:=HM.out.lt (b:=(v2.heap.size)) (c0:=0) (c1:=0) (c2:=0) (c3:=0) (by simp);have y0:=kr.c0; have y1:=kr.c1; have y2:=kr.c2; have y3:=kr.c3; have yf:=kr.fr;clear kr;refine aJ (i:=11) (by kernel_rfl) rfl (fun K hK => ?_);go_simp;have HM':=Lib.hid (HM.out.put s0 s1 s2 s3 (by omega) (by intro r hr; simp at hr; rcases hr with rfl|rfl|rfl<;>simp<;>omega));clear HM;have HM:=HM';clear HM';have HS:=(HM.out.sub (rs':=[(w.heap.size+1+1,0,0,0,0),(w.heap.size+1,b0,b1,b2,b3),(w.heap.size,a0,a1,a2,a3)]) (by simp));refine hK.out _ _ (Or.inr HS) (fun _ => ?_);clear hK K HS;refine aJ (i:=12) (by kernel_rfl) rfl (fun K hK => ?_);go_simp;refine hK.out _ _ (Or.inl rfl) (fun _ => ?_);clear hK K;refine cZ (by kernel_rfl) ?_;go_wp2_with fail
     go_meet
     exact⟨(v2.heap.size),s0,s1,s2,s3,rfl,hs,HVs,Lib.hid (HM.out.sub (by simp))⟩
   ·go_simp;have HM9:=HM;have HM':=Lib.hid (HM.out.new (v1.heap.size) 0 0 0 0 85 (by first|rfl|(simp; done)));have hga:w.heap.size+1+1<(v1.heap.size):=by first|exact HM.out.lt (b:=w.heap.size+1+1) (c0:=0) (c1:=0) (c2:=0) (c3:=0) (by simp)|simpa using HM.out.lt (b:=w.heap.size+1+1) (c0:=0) (c1:=0) (c2:=0) (c3:=0) (by simp)|(have:=HM.out.lt (b:=w.heap.size+1+1) (c0:=0) (c1:=0) (c2:=0) (c3:=0) (by simp); simp at this ⊢; omega)
    clear HM;have HM:=HM';clear HM';have HS:=(HM.out.sub (rs':=[(w.heap.size+1+1,0,0,0,0),(w.heap.size+1,b0,b1,b2,b3),(w.heap.size,a0,a1,a2,a3)]) (by simp));refine hK.out _ _ (Or.inr HS) (fun _ => ?_);clear hK K HS;refine aJ (i:=5) (by kernel_rfl) rfl (fun K hK => ?_);go_simp;refine (dC f F hf b0 b1 b2 b3 hb _).mono ?_
    rintro e v2 ⟨y0,y1,y2,y3,rfl,hy,hv,hbl⟩
    have HVy:=Lib.hid hv;clear hv;have HM':=Lib.hid (HM.out.on hbl);clear HM hbl;have HM:=HM';clear HM';have HS:=(HM.out.sub (rs':=[(w.heap.size+1+1,0,0,0,0),(w.heap.size+1,b0,b1,b2,b3),(w.heap.size,a0,a1,a2,a3)]) (by simp));refine hK.out _ _ (Or.inr HS) (fun _ => ?_);clear hK K HS;refine aJ (i:=6) (by kernel_rfl) rfl (fun K hK => ?_);go_simp;refine (gK x0 x1 x2 x3 y0 y1 y2 y3 hx hy _).mono ?_
    rintro e v3 ⟨s0,s1,s2,s3,cc,rfl,hs,hcc,hv,hbl⟩
    have HVs:=Lib.hid (show aC s0 s1 s2 s3=aC a0 a1 a2 a3%F.M+aC b0 b1 b2 b3%F.M by have:=Nat.mod_lt (aC a0 a1 a2 a3) hpos; have:=Nat.mod_lt (aC b0 b1 b2 b3) hpos; rw[HVx.out,HVy.out]at hv; omega);clear hv;have HM':=Lib.hid (HM.out.on hbl);clear HM hbl;have HM:=HM';clear HM';have HS:=(HM.out.sub (rs':=[(w.heap.size+1+1,0,0,0,0),(w.heap.size+1,b0,b1,b2,b3),(w.heap.size,a0,a1,a2,a3)]) (by simp));refine hK.out _ _ (Or.inr HS) (fun _ => ?_);clear hK K HS;have HS:=HM.out.sub (rs':=[(w.heap.size+1+1,0,0,0,0),(w.heap.size+1,b0,b1,b2,b3),(w.heap.size,a0,a1,a2,a3)]) (by simp);refine aN (i:=7) (v:=.tuple #[.agg #[.int .u64 s0,.int .u64 s1,.int .u64 s2,.int .u64 s3],.int .u64 (cc:Nat)]) rfl (by kernel_rfl) (by kernel_rfl) (by kernel_rfl) (by kernel_rfl) (fun _ _ _ h=>h) HS (Or.inl ⟨by kernel_rfl,fun wx hx => ?_⟩) ?_
    ·clear HS hx;go_simp
    simp only[Act.put,List.setIfInBounds_toArray,List.set_cons_zero,List.set_cons_succ];refine aN (i:=8) (v:=.agg #[.int .u64 s0,.int .u64 s1,.int .u64 s2,.int .u64 s3]) rfl (by kernel_rfl) (by kernel_rfl) (by kernel_rfl) (by kernel_rfl) (fun _ _ _ h=>h) HS (Or.inl ⟨by kernel_rfl,fun wx hx => ?_⟩) ?_
    ·clear HS hx;go_simp
    simp only[Act.put,List.setIfInBounds_toArray,List.set_cons_zero,List.set_cons_succ];refine aN (i:=9) (v:=.int .u64 (cc:Nat)) rfl (by kernel_rfl) (by kernel_rfl) (by kernel_rfl) (by kernel_rfl) (fun _ _ _ h=>h) HS (Or.inl ⟨by kernel_rfl,fun wx hx => ?_⟩) ?_
    ·clear HS hx;go_simp
    simp only[Act.put,List.setIfInBounds_toArray,List.set_cons_zero,List.set_cons_succ];clear HS;have kr:=HM.out.row (b:=(v1.heap.size)) (c0:=0) (c1:=0) (c2:=0) (c3:=0) (by simp);have yl:=HM.out.lt (b:=(v1.heap.size)) (c0:=0) (c1:=0) (c2:=0) (c3:=0) (by simp);have y0:=kr.c0; have y1:=kr.c1; have y2:=kr.c2; have y3:=kr.c3; have yf:=kr.fr;clear kr;refine aJ (i:=11) (by kernel_rfl) rfl (fun K hK => ?_);go_simp;have HM':=Lib.hid (HM.out.put s0 s1 s2 s3 (by omega) (by intro r hr; simp at hr; rcases hr with rfl|rfl|rfl<;>simp<;>omega));clear HM;have HM:=HM';clear HM';have HS:=(HM.out.sub (rs':=[(w.heap.size+1+1,0,0,0,0),(w.heap.size+1,b0,b1,b2,b3),(w.heap.size,a0,a1,a2,a3)]) (by simp));refine hK.out _ _ (Or.inr HS) (fun _ => ?_);clear hK K HS;refine aJ (i:=12) (by kernel_rfl) rfl (fun K hK => ?_);go_simp;refine hK.out _ _ (Or.inl rfl) (fun _ => ?_);clear hK K;refine cZ (by kernel_rfl) ?_;go_wp2_with fail
    go_meet
    exact⟨(v1.heap.size),s0,s1,s2,s3,rfl,hs,HVs,Lib.hid (HM.out.sub (by simp))⟩
  ·go_simp;have HM9:=HM;have HM':=Lib.hid (HM.out.new (w.heap.size+1+1+1) 0 0 0 0 85 (by first|rfl|(simp; done)));have hga:w.heap.size+1+1<(w.heap.size+1+1+1):=by first|exact HM.out.lt (b:=w.heap.size+1+1) (c0:=0) (c1:=0) (c2:=0) (c3:=0) (by simp)|simpa using HM.out.lt (b:=w.heap.size+1+1) (c0:=0) (c1:=0) (c2:=0) (c3:=0) (by simp)|(have:=HM.out.lt (b:=w.heap.size+1+1) (c0:=0) (c1:=0) (c2:=0) (c3:=0) (by simp); simp at this ⊢; omega)
   clear HM;have HM:=HM';clear HM';have HS:=(HM.out.sub (rs':=[(w.heap.size+1+1,0,0,0,0),(w.heap.size+1,b0,b1,b2,b3),(w.heap.size,a0,a1,a2,a3)]) (by simp));refine hK.out _ _ (Or.inr HS) (fun _ => ?_);clear hK K HS;refine aJ (i:=2) (by kernel_rfl) rfl (fun K hK => ?_);go_simp;refine (dC f F hf a0 a1 a2 a3 ha _).mono ?_
   rintro e v1 ⟨x0,x1,x2,x3,rfl,hx,hv,hbl⟩
   have HVx:=Lib.hid hv;clear hv;have HM':=Lib.hid (HM.out.on hbl);clear HM hbl;have HM:=HM';clear HM';have HS:=(HM.out.sub (rs':=[(w.heap.size+1+1,0,0,0,0),(w.heap.size+1,b0,b1,b2,b3),(w.heap.size,a0,a1,a2,a3)]) (by simp));refine hK.out _ _ (Or.inr HS) (fun _ => ?_);clear hK K HS;refine aJ (i:=5) (by kernel_rfl) rfl (fun K hK => ?_);go_simp;refine (dC f F hf b0 b1 b2 b3 hb _).mono ?_
   rintro e v2 ⟨y0,y1,y2,y3,rfl,hy,hv,hbl⟩
   have HVy:=Lib.hid hv;clear hv;have HM':=Lib.hid (HM.out.on hbl);clear HM hbl;have HM:=HM';clear HM';have HS:=(HM.out.sub (rs':=[(w.heap.size+1+1,0,0,0,0),(w.heap.size+1,b0,b1,b2,b3),(w.heap.size,a0,a1,a2,a3)]) (by simp));refine hK.out _ _ (Or.inr HS) (fun _ => ?_);clear hK K HS;refine aJ (i:=6) (by kernel_rfl) rfl (fun K hK => ?_);go_simp;refine (gK x0 x1 x2 x3 y0 y1 y2 y3 hx hy _).mono ?_
   rintro e v3 ⟨s0,s1,s2,s3,cc,rfl,hs,hcc,hv,hbl⟩
   have HVs:=Lib.hid (show aC s0 s1 s2 s3=aC a0 a1 a2 a3%F.M+aC b0 b1 b2 b3%F.M by have:=Nat.mod_lt (aC a0 a1 a2 a3) hpos; have:=Nat.mod_lt (aC b0 b1 b2 b3) hpos; rw[HVx.out,HVy.out]at hv; omega);clear hv;have HM':=Lib.hid (HM.out.on hbl);clear HM hbl;have HM:=HM';clear HM';have HS:=(HM.out.sub (rs':=[(w.heap.size+1+1,0,0,0,0),(w.heap.size+1,b0,b1,b2,b3),(w.heap.size,a0,a1,a2,a3)]) (by simp));refine hK.out _ _ (Or.inr HS) (fun _ => ?_);clear hK K HS;have HS:=HM.out.sub (rs':=[(w.heap.size+1+1,0,0,0,0),(w.heap.size+1,b0,b1,b2,b3),(w.heap.size,a0,a1,a2,a3)]) (by simp);refine aN (i:=7) (v:=.tuple #[.agg #[.int .u64 s0,.int .u64 s1,.int .u64 s2,.int .u64 s3],.int .u64 (cc:Nat)]) rfl (by kernel_rfl) (by kernel_rfl) (by kernel_rfl) (by kernel_rfl) (fun _ _ _ h=>h) HS (Or.inl ⟨by kernel_rfl,fun wx hx => ?_⟩) ?_
   ·clear HS hx;go_simp
   simp only[Act.put,List.setIfInBounds_toArray,List.set_cons_zero,List.set_cons_succ];refine aN (i:=8) (v:=.agg #[.int .u64 s0,.int .u64 s1,.int .u64 s2,.int .u64 s3]) rfl (by kernel_rfl) (by kernel_rfl) (by kernel_rfl) (by kernel_rfl) (fun _ _ _ h=>h) HS (Or.inl ⟨by kernel_rfl,fun wx hx => ?_⟩) ?_
   ·clear HS hx;go_simp
   simp only[Act.put,List.setIfInBounds_toArray,List.set_cons_zero,List.set_cons_succ];refine aN (i:=9) (v:=.int .u64 (cc:Nat)) rfl (by kernel_rfl) (by kernel_rfl) (by kernel_rfl) (by kernel_rfl) (fun _ _ _ h=>h) HS (Or.inl ⟨by kernel_rfl,fun wx hx => ?_⟩) ?_
   ·clear HS hx;go_simp
   simp only[Act.put,List.setIfInBounds_toArray,List.set_cons_zero,List.set_cons_succ];clear HS;have kr:=HM.out.row (b:=(w.heap.size+1+1+1)) (c0:=0) (c1:=0) (c2:=0) (c3:=0) (by simp);have yl:=HM.out.lt (b:=(w.heap.size+1+1+1)) (c0:=0) (c1:=0) (c2:=0) (c3:=0) (by simp);have y0:=kr.c0; have y1:=kr.c1; have y2:=kr.c2; have y3:=kr.c3; have yf:=kr.fr;clear kr;refine aJ (i:=11) (by kernel_rfl) rfl (fun K hK => ?_);go_simp;have HM':=Lib.hid (HM.out.put s0 s1 s2 s3 (by omega) (by intro r hr; simp at hr; rcases hr with rfl|rfl|rfl<;>simp<;>omega));clear HM;have HM:=HM';clear HM';have HS:=(HM.out.sub (rs':=[(w.heap.size+1+1,0,0,0,0),(w.heap.size+1,b0,b1,b2,b3),(w.heap.size,a0,a1,a2,a3)]) (by simp));refine hK.out _ _ (Or.inr HS) (fun _ => ?_);clear hK K HS;refine aJ (i:=12) (by kernel_rfl) rfl (fun K hK => ?_);go_simp;refine hK.out _ _ (Or.inl rfl) (fun _ => ?_);clear hK K;refine cZ (by kernel_rfl) ?_;go_wp2_with fail
   go_meet
   exact⟨(w.heap.size+1+1+1),s0,s1,s2,s3,rfl,hs,HVs,Lib.hid (HM.out.sub (by simp))⟩
 case rest =>
  obtain⟨gb,s0,s1,s2,s3,rfl,hs,HVs,HM'⟩:=hcut;clear HM;have HM:=HM';clear HM';have kr:=HM.out.row (b:=gb) (c0:=s0) (c1:=s1) (c2:=s2) (c3:=s3) (by simp);have x0:=kr.c0; have x1:=kr.c1; have x2:=kr.c2; have x3:=kr.c3;clear kr;have xl:=HM.out.lt (b:=gb) (c0:=s0) (c1:=s1) (c2:=s2) (c3:=s3) (by simp);go_wp2_with fail;refine (dC f F hf s0 s1 s2 s3 hs _).mono ?_
  rintro e w5 ⟨r0,r1,r2,r3,rfl,hr,hv,hbl⟩
  have HVr:=Lib.hid (show aC r0 r1 r2 r3=(aC a0 a1 a2 a3+aC b0 b1 b2 b3)%F.M by rw[hv,HVs.out,←Nat.add_mod]);clear hv;have HM':=Lib.hid (HM.out.on hbl);clear HM hbl;have HM:=HM';clear HM';clear x0 x1 x2 x3 xl;have kr:=HM.out.row (b:=w.heap.size+1+1) (c0:=0) (c1:=0) (c2:=0) (c3:=0) (by simp);have y0:=kr.c0; have y1:=kr.c1; have y2:=kr.c2; have y3:=kr.c3; have yf:=kr.fr;clear kr;have yl:=HM.out.lt (b:=w.heap.size+1+1) (c0:=0) (c1:=0) (c2:=0) (c3:=0) (by simp);go_wp2_with fail;refine bodyPost_ret (v:=.agg #[.int .u64 r0,.int .u64 r1,.int .u64 r2,.int .u64 r3]) (by simp[results,results29,go_sem, *]) rfl ?_;refine⟨_,_,_,_,rfl,hr,HVr.out,?_⟩;exact bR HM.out.1 (by omega) _ _ _ _
set_option maxHeartbeats 2000000 in
theorem sR (f:Int) (F:FC) (hf:FieldIs f F) (a0 a1 a2 a3:Nat) (ha:bY a0 a1 a2 a3) (w:World) :
  Calls prog 60 #[.int .i64 f,.agg #[.int .u64 a0,.int .u64 a1,.int .u64 a2,.int .u64 a3]] w (eM ((F.M-aC a0 a1 a2 a3%F.M)%F.M) w):=by
 have hpos:=hf.ok.pos;have h2M:=hf.ok.two;have hG:=SK
 go_enter func60,ntmps60
 go_wp2_with fail;have HM:=Lib.hid (((Mem.nil w).new (w.heap.size) a0 a1 a2 a3 25 (by simp)).new (w.heap.size+1) 0 0 0 0 25 (by simp));refine (dC f F hf a0 a1 a2 a3 ha _).mono ?_
 rintro e w1 ⟨x0,x1,x2,x3,rfl,hx,hv,hbl⟩
 have HVx:=Lib.hid hv;clear hv;have HM':=Lib.hid (HM.out.on hbl);clear HM hbl;have HM:=HM';clear HM';have hz1:w.heap.size+1<w1.heap.size:=HM.out.lt (b:=w.heap.size+1) (c0:=0) (c1:=0) (c2:=0) (c3:=0) (by simp);have HMo:=HM;have HM':=Lib.hid (HM.out.new w1.heap.size x0 x1 x2 x3 85 rfl);clear HM;have HM:=HM';clear HM'
 by_cases hz:aC a0 a1 a2 a3%F.M=0
 ·have hE:∀w,(Op.equalIn 10000 85 (.agg #[.int .u64 x0,.int .u64 x1,.int .u64 x2,.int .u64 x3]) (.agg #[.int .u64 0,.int .u64 0,.int .u64 0,.int .u64 0])).run prog w=.ok true w:=fun w=>by
   have h:=uC 9998 x0 x1 x2 x3 0 0 0 0 w;rw[(rO hx Na).2 (HVx.out.trans (hz.trans rfl))]at h;exact h
  have HZ:=Lib.hid hz;clear hz;have kr:=HMo.out.row (b:=w.heap.size+1) (c0:=0) (c1:=0) (c2:=0) (c3:=0) (by simp);have y0:=kr.c0; have y1:=kr.c1; have y2:=kr.c2; have y3:=kr.c3; have yf:=kr.fr;clear kr;go_wp2_with fail;refine bodyPost_ret (v:=.agg #[.int .u64 0,.int .u64 0,.int .u64 0,.int .u64 0]) (by simp[results,results60,go_sem, *]) rfl ?_;refine⟨_,_,_,_,rfl,Na,by rw[HZ.out,Nat.sub_zero,Nat.mod_self]; rfl,?_⟩
  repeat (first|exact HMo.out.1|refine Below.alloc ?_ (by first|(simp; done)|(simp; omega)) _|refine Below.setCell ?_ (by first|(simp; done)|(simp; omega)) _)
 ·have hE:∀w,(Op.equalIn 10000 85 (.agg #[.int .u64 x0,.int .u64 x1,.int .u64 x2,.int .u64 x3]) (.agg #[.int .u64 0,.int .u64 0,.int .u64 0,.int .u64 0])).run prog w=.ok false w:=fun w=>by
   have h:=uC 9998 x0 x1 x2 x3 0 0 0 0 w;rw[wH (fun q=>hz (HVx.out.symm.trans (((rO hx Na).1 q).trans rfl)))]at h;exact h
  have HZ:=Lib.hid hz;clear hz HMo
  go_upto_region 4 with fail
  go_cut [6] (fun s6 wx=>∃gb s0 s1 s2 s3:Nat,s6=.pointer (some ⟨gb,0,none⟩)∧bY s0 s1 s2 s3∧Hid (aC s0 s1 s2 s3=F.M-aC a0 a1 a2 a3%F.M)∧Hid (Mem w wx [(gb,s0,s1,s2,s3),(w.heap.size+1,0,0,0,0)]))
  case first =>
   refine dX (fun wx=>Mem w wx [(w1.heap.size,x0,x1,x2,x3),(w.heap.size+1,0,0,0,0),(w.heap.size,a0,a1,a2,a3)]) 9 (by kernel_rfl) ?_;have HM':=Lib.hid (HM.out.drewN 1);clear HM;have HM:=HM';clear HM';have HS:=HM.out.sub (rs':=[(w1.heap.size,x0,x1,x2,x3),(w.heap.size+1,0,0,0,0),(w.heap.size,a0,a1,a2,a3)]) (by simp);refine aN (i:=0) (v:=.int .i64 f) rfl (by kernel_rfl) (by kernel_rfl) (by kernel_rfl) (by kernel_rfl) (fun _ _ _ h=>h) HS (Or.inl ⟨by kernel_rfl,fun wx hx => ?_⟩) ?_
   ·clear HS hx;go_simp
   simp only[Act.put,List.setIfInBounds_toArray,List.set_cons_zero,List.set_cons_succ];refine aN (i:=2) (v:=.agg #[.int .u64 x0,.int .u64 x1,.int .u64 x2,.int .u64 x3]) rfl (by kernel_rfl) (by kernel_rfl) (by kernel_rfl) (by kernel_rfl) (fun _ _ _ h=>h) HS (Or.inl ⟨by kernel_rfl,fun wx hx => ?_⟩) ?_
   ·have kr:=hx.row (b:=w1.heap.size) (c0:=x0) (c1:=x1) (c2:=x2) (c3:=x3) (by simp);have x0:=kr.c0; have x1:=kr.c1; have x2:=kr.c2; have x3:=kr.c3;clear kr HS hx;go_simp
   simp only[Act.put,List.setIfInBounds_toArray,List.set_cons_zero,List.set_cons_succ];clear HS;refine lP (i:=1) (j:=7) (by kernel_rfl) rfl rfl (fun K hK => ?_) (fun K hK => ?_)
   ·go_simp;refine (gE f F hf _).mono ?_
    rintro e v1 ⟨rfl,hbl⟩
    have HM':=Lib.hid (HM.out.on hbl);clear HM hbl;have HM:=HM';clear HM';have HS:=(HM.out.sub (rs':=[(w1.heap.size,x0,x1,x2,x3),(w.heap.size+1,0,0,0,0),(w.heap.size,a0,a1,a2,a3)]) (by simp));refine hK.out _ _ (Or.inr HS) (fun _ => ?_);clear hK K HS;refine lP (i:=3) (j:=7) (by kernel_rfl) rfl rfl (fun K hK => ?_) (fun K hK => ?_)
    ·go_simp;refine (eR F.m0 F.m1 F.m2 F.m3 x0 x1 x2 x3 hf.ok.okm hx _).mono ?_
     rintro e v2 ⟨s0,s1,s2,s3,cc,rfl,hs,hcc,hv,hbl⟩
     have HVs:=Lib.hid (show aC s0 s1 s2 s3=F.M-aC a0 a1 a2 a3%F.M by have:=Nat.mod_lt (aC a0 a1 a2 a3) hpos; have:=dE hs; rw[HVx.out,show aC F.m0 F.m1 F.m2 F.m3=F.M from rfl]at hv; omega);clear hv;have HM':=Lib.hid (HM.out.on hbl);clear HM hbl;have HM:=HM';clear HM';have HS:=(HM.out.sub (rs':=[(w1.heap.size,x0,x1,x2,x3),(w.heap.size+1,0,0,0,0),(w.heap.size,a0,a1,a2,a3)]) (by simp));refine hK.out _ _ (Or.inr HS) (fun _ => ?_);clear hK K HS;have HS:=HM.out.sub (rs':=[(w1.heap.size,x0,x1,x2,x3),(w.heap.size+1,0,0,0,0),(w.heap.size,a0,a1,a2,a3)]) (by simp);refine aN (i:=4) (v:=.tuple #[.agg #[.int .u64 s0,.int .u64 s1,.int .u64 s2,.int .u64 s3],.int .u64 (cc:Nat)]) rfl (by kernel_rfl) (by kernel_rfl) (by kernel_rfl) (by kernel_rfl) (fun _ _ _ h=>h) HS (Or.inl ⟨by kernel_rfl,fun wx hx => ?_⟩) ?_
     ·clear HS hx;go_simp
     simp only[Act.put,List.setIfInBounds_toArray,List.set_cons_zero,List.set_cons_succ];refine aN (i:=5) (v:=.agg #[.int .u64 s0,.int .u64 s1,.int .u64 s2,.int .u64 s3]) rfl (by kernel_rfl) (by kernel_rfl) (by kernel_rfl) (by kernel_rfl) (fun _ _ _ h=>h) HS (Or.inl ⟨by kernel_rfl,fun wx hx => ?_⟩) ?_
     ·clear HS hx;go_simp
     simp only[Act.put,List.setIfInBounds_toArray,List.set_cons_zero,List.set_cons_succ];refine aN (i:=6) (v:=.int .u64 (cc:Nat)) rfl (by kernel_rfl) (by kernel_rfl) (by kernel_rfl) (by kernel_rfl) (fun _ _ _ h=>h) HS (Or.inl ⟨by kernel_rfl,fun wx hx => ?_⟩) ?_
     ·clear HS hx;go_simp
     simp only[Act.put,List.setIfInBounds_toArray,List.set_cons_zero,List.set_cons_succ];clear HS;refine aJ (i:=7) (by kernel_rfl) rfl (fun K hK => ?_);go_simp;have HM9:=HM;have HM':=Lib.hid (HM.out.new (v2.heap.size) 0 0 0 0 85 (by first|rfl|(simp; done)));have hga:w1.heap.size<(v2.heap.size):=by first|exact HM.out.lt (b:=w1.heap.size) (c0:=x0) (c1:=x1) (c2:=x2) (c3:=x3) (by simp)|simpa using HM.out.lt (b:=w1.heap.size) (c0:=x0) (c1:=x1) (c2:=x2) (c3:=x3) (by simp)|(have:=HM.out.lt (b:=w1.heap.size) (c0:=x0) (c1:=x1) (c2:=x2) (c3:=x3) (by simp); simp at this ⊢; omega)
     clear HM;have HM:=HM';clear HM';have HS:=(HM.out.sub (rs':=[(w1.heap.size,x0,x1,x2,x3),(w.heap.size+1,0,0,0,0),(w.heap.size,a0,a1,a2,a3)]) (by simp));refine hK.out _ _ (Or.inr HS) (fun _ => ?_);clear hK K HS;have kr:=HM.out.row (b:=(v2.heap.size)) (c0:=0) (c1:=0) (c2:=0) (c3:=0) (by simp);have yl:=HM.out.lt (b:=(v2.heap.size)) (c0:=0) (c1:=0) (c2:=0) (c3:=0) (by simp);have y0:=kr.c0; have y1:=kr.c1; have y2:=kr.c2; have y3:=kr.c3; have yf:=kr.fr;clear kr;refine aJ (i:=8) (by kernel_rfl) rfl (fun K hK => ?_);go_simp;have HM':=Lib.hid (HM9.out.new (v2.heap.size) s0 s1 s2 s3 85 (by first|rfl|(simp; done)));clear HM;have HM:=HM';clear HM';have HS:=(HM.out.sub (rs':=[(w1.heap.size,x0,x1,x2,x3),(w.heap.size+1,0,0,0,0),(w.heap.size,a0,a1,a2,a3)]) (by simp));refine hK.out _ _ (Or.inr HS) (fun _ => ?_);clear hK K HS;refine aJ (i:=9) (by kernel_rfl) rfl (fun K hK => ?_);go_simp;refine hK.out _ _ (Or.inl rfl) (fun _ => ?_);clear hK K;refine cZ (by kernel_rfl) ?_;go_wp2_with fail
     go_meet
     exact⟨(v2.heap.size),s0,s1,s2,s3,rfl,hs,HVs,Lib.hid (HM.out.sub (by simp))⟩
    ·go_simp;have HM9:=HM;have HM':=Lib.hid (HM.out.new (v1.heap.size) 0 0 0 0 85 (by first|rfl|(simp; done)));have hga:w1.heap.size<(v1.heap.size):=by first|exact HM.out.lt (b:=w1.heap.size) (c0:=x0) (c1:=x1) (c2:=x2) (c3:=x3) (by simp)|simpa using HM.out.lt (b:=w1.heap.size) (c0:=x0) (c1:=x1) (c2:=x2) (c3:=x3) (by simp)|(have:=HM.out.lt (b:=w1.heap.size) (c0:=x0) (c1:=x1) (c2:=x2) (c3:=x3) (by simp); simp at this ⊢; omega)
     clear HM;have HM:=HM';clear HM';have HS:=(HM.out.sub (rs':=[(w1.heap.size,x0,x1,x2,x3),(w.heap.size+1,0,0,0,0),(w.heap.size,a0,a1,a2,a3)]) (by simp));refine hK.out _ _ (Or.inr HS) (fun _ => ?_);clear hK K HS;refine aJ (i:=3) (by kernel_rfl) rfl (fun K hK => ?_);go_simp;refine (eR F.m0 F.m1 F.m2 F.m3 x0 x1 x2 x3 hf.ok.okm hx _).mono ?_
     rintro e v2 ⟨s0,s1,s2,s3,cc,rfl,hs,hcc,hv,hbl⟩
     have HVs:=Lib.hid (show aC s0 s1 s2 s3=F.M-aC a0 a1 a2 a3%F.M by have:=Nat.mod_lt (aC a0 a1 a2 a3) hpos; have:=dE hs; rw[HVx.out,show aC F.m0 F.m1 F.m2 F.m3=F.M from rfl]at hv; omega);clear hv;have HM':=Lib.hid (HM.out.on hbl);clear HM hbl;have HM:=HM';clear HM';have HS:=(HM.out.sub (rs':=[(w1.heap.size,x0,x1,x2,x3),(w.heap.size+1,0,0,0,0),(w.heap.size,a0,a1,a2,a3)]) (by simp));refine hK.out _ _ (Or.inr HS) (fun _ => ?_);clear hK K HS;have HS:=HM.out.sub (rs':=[(w1.heap.size,x0,x1,x2,x3),(w.heap.size+1,0,0,0,0),(w.heap.size,a0,a1,a2,a3)]) (by simp);refine aN (i:=4) (v:=.tuple #[.agg #[.int .u64 s0,.int .u64 s1,.int .u64 s2,.int .u64 s3],.int .u64 (cc:Nat)]) rfl (by kernel_rfl) (by kernel_rfl) (by kernel_rfl) (by kernel_rfl) (fun _ _ _ h=>h) HS (Or.inl ⟨by kernel_rfl,fun wx hx => ?_⟩) ?_
     ·clear HS hx;go_simp
     simp only[Act.put,List.setIfInBounds_toArray,List.set_cons_zero,List.set_cons_succ];refine aN (i:=5) (v:=.agg #[.int .u64 s0,.int .u64 s1,.int .u64 s2,.int .u64 s3]) rfl (by kernel_rfl) (by kernel_rfl) (by kernel_rfl) (by kernel_rfl) (fun _ _ _ h=>h) HS (Or.inl ⟨by kernel_rfl,fun wx hx => ?_⟩) ?_
     ·clear HS hx;go_simp
     simp only[Act.put,List.setIfInBounds_toArray,List.set_cons_zero,List.set_cons_succ];refine aN (i:=6) (v:=.int .u64 (cc:Nat)) rfl (by kernel_rfl) (by kernel_rfl) (by kernel_rfl) (by kernel_rfl) (fun _ _ _ h=>h) HS (Or.inl ⟨by kernel_rfl,fun wx hx => ?_⟩) ?_
     ·clear HS hx;go_simp
     simp only[Act.put,List.setIfInBounds_toArray,List.set_cons_zero,List.set_cons_succ];clear HS;have kr:=HM.out.row (b:=(v1.heap.size)) (c0:=0) (c1:=0) (c2:=0) (c3:=0) (by simp);have yl:=HM.out.lt (b:=(v1.heap.size)) (c0:=0) (c1:=0) (c2:=0) (c3:=0) (by simp);have y0:=kr.c0; have y1:=kr.c1; have y2:=kr.c2; have y3:=kr.c3; have yf:=kr.fr;clear kr;refine aJ (i:=8) (by kernel_rfl) rfl (fun K hK => ?_);go_simp;have HM':=Lib.hid (HM.out.put s0 s1 s2 s3 (by omega) (by intro r hr; simp at hr; rcases hr with rfl|rfl|rfl<;>simp<;>omega));clear HM;have HM:=HM';clear HM';have HS:=(HM.out.sub (rs':=[(w1.heap.size,x0,x1,x2,x3),(w.heap.size+1,0,0,0,0),(w.heap.size,a0,a1,a2,a3)]) (by simp));refine hK.out _ _ (Or.inr HS) (fun _ => ?_);clear hK K HS;refine aJ (i:=9) (by kernel_rfl) rfl (fun K hK => ?_);go_simp;refine hK.out _ _ (Or.inl rfl) (fun _ => ?_);clear hK K;refine cZ (by kernel_rfl) ?_;go_wp2_with fail
     go_meet
     exact⟨(v1.heap.size),s0,s1,s2,s3,rfl,hs,HVs,Lib.hid (HM.out.sub (by simp))⟩
   ·go_simp;have HM9:=HM;have HM':=Lib.hid (HM.out.new (w1.heap.size+1) 0 0 0 0 85 (by first|rfl|(simp; done)));have hga:w1.heap.size<(w1.heap.size+1):=by first|exact HM.out.lt (b:=w1.heap.size) (c0:=x0) (c1:=x1) (c2:=x2) (c3:=x3) (by simp)|simpa using HM.out.lt (b:=w1.heap.size) (c0:=x0) (c1:=x1) (c2:=x2) (c3:=x3) (by simp)|(have:=HM.out.lt (b:=w1.heap.size) (c0:=x0) (c1:=x1) (c2:=x2) (c3:=x3) (by simp); simp at this ⊢; omega)
    clear HM;have HM:=HM';clear HM';have HS:=(HM.out.sub (rs':=[(w1.heap.size,x0,x1,x2,x3),(w.heap.size+1,0,0,0,0),(w.heap.size,a0,a1,a2,a3)]) (by simp));refine hK.out _ _ (Or.inr HS) (fun _ => ?_);clear hK K HS;refine aJ (i:=1) (by kernel_rfl) rfl (fun K hK => ?_);go_simp;refine (gE f F hf _).mono ?_
    rintro e v1 ⟨rfl,hbl⟩
    have HM':=Lib.hid (HM.out.on hbl);clear HM hbl;have HM:=HM';clear HM';have HS:=(HM.out.sub (rs':=[(w1.heap.size,x0,x1,x2,x3),(w.heap.size+1,0,0,0,0),(w.heap.size,a0,a1,a2,a3)]) (by simp));refine hK.out _ _ (Or.inr HS) (fun _ => ?_);clear hK K HS;refine aJ (i:=3) (by kernel_rfl) rfl (fun K hK => ?_);go_simp;refine (eR F.m0 F.m1 F.m2 F.m3 x0 x1 x2 x3 hf.ok.okm hx _).mono ?_
    rintro e v2 ⟨s0,s1,s2,s3,cc,rfl,hs,hcc,hv,hbl⟩
    have HVs:=Lib.hid (show aC s0 s1 s2 s3=F.M-aC a0 a1 a2 a3%F.M by have:=Nat.mod_lt (aC a0 a1 a2 a3) hpos; have:=dE hs; rw[HVx.out,show aC F.m0 F.m1 F.m2 F.m3=F.M from rfl]at hv; omega);clear hv;have HM':=Lib.hid (HM.out.on hbl);clear HM hbl;have HM:=HM';clear HM';have HS:=(HM.out.sub (rs':=[(w1.heap.size,x0,x1,x2,x3),(w.heap.size+1,0,0,0,0),(w.heap.size,a0,a1,a2,a3)]) (by simp));refine hK.out _ _ (Or.inr HS) (fun _ => ?_);clear hK K HS;have HS:=HM.out.sub (rs':=[(w1.heap.size,x0,x1,x2,x3),(w.heap.size+1,0,0,0,0),(w.heap.size,a0,a1,a2,a3)]) (by simp);refine aN (i:=4) (v:=.tuple #[.agg #[.int .u64 s0,.int .u64 s1,.int .u64 s2,.int .u64 s3],.int .u64 (cc:Nat)]) rfl (by kernel_rfl) (by kernel_rfl) (by kernel_rfl) (by kernel_rfl) (fun _ _ _ h=>h) HS (Or.inl ⟨by kernel_rfl,fun wx hx => ?_⟩) ?_
    ·clear HS hx;go_simp
    simp only[Act.put,List.setIfInBounds_toArray,List.set_cons_zero,List.set_cons_succ];refine aN (i:=5) (v:=.agg #[.int .u64 s0,.int .u64 s1,.int .u64 s2,.int .u64 s3]) rfl (by kernel_rfl) (by kernel_rfl) (by kernel_rfl) (by kernel_rfl) (fun _ _ _ h=>h) HS (Or.inl ⟨by kernel_rfl,fun wx hx => ?_⟩) ?_
    ·clear HS hx;go_simp
    simp only[Act.put,List.setIfInBounds_toArray,List.set_cons_zero,List.set_cons_succ];refine aN (i:=6) (v:=.int .u64 (cc:Nat)) rfl (by kernel_rfl) (by kernel_rfl) (by kernel_rfl) (by kernel_rfl) (fun _ _ _ h=>h) HS (Or.inl ⟨by kernel_rfl,fun wx hx => ?_⟩) ?_
    ·clear HS hx;go_simp
    simp only[Act.put,List.setIfInBounds_toArray,List.set_cons_zero,List.set_cons_succ];clear HS;have kr:=HM.out.row (b:=(w1.heap.size+1)) (c0:=0) (c1:=0) (c2:=0) (c3:=0) (by simp);have yl:=HM.out.lt (b:=(w1.heap.size+1)) (c0:=0) (c1:=0) (c2:=0) (c3:=0) (by simp);have y0:=kr.c0; have y1:=kr.c1; have y2:=kr.c2; have y3:=kr.c3; have yf:=kr.fr;clear kr;refine aJ (i:=8) (by kernel_rfl) rfl (fun K hK => ?_);go_simp;have HM':=Lib.hid (HM.out.put s0 s1 s2 s3 (by omega) (by intro r hr; simp at hr; rcases hr with rfl|rfl|rfl<;>simp<;>omega));clear HM;have HM:=HM';clear HM';have HS:=(HM.out.sub (rs':=[(w1.heap.size,x0,x1,x2,x3),(w.heap.size+1,0,0,0,0),(w.heap.size,a0,a1,a2,a3)]) (by simp));refine hK.out _ _ (Or.inr HS) (fun _ => ?_);clear hK K HS;refine aJ (i:=9) (by kernel_rfl) rfl (fun K hK => ?_);go_simp;refine hK.out _ _ (Or.inl rfl) (fun _ => ?_);clear hK K;refine cZ (by kernel_rfl) ?_;go_wp2_with fail
    go_meet
    exact⟨(w1.heap.size+1),s0,s1,s2,s3,rfl,hs,HVs,Lib.hid (HM.out.sub (by simp))⟩
  case rest =>
   obtain⟨gb,s0,s1,s2,s3,rfl,hs,HVs,HM'⟩:=hcut;clear HM;have HM:=HM';clear HM';have kr:=HM.out.row (b:=gb) (c0:=s0) (c1:=s1) (c2:=s2) (c3:=s3) (by simp);have x0:=kr.c0; have x1:=kr.c1; have x2:=kr.c2; have x3:=kr.c3;clear kr;have xl:=HM.out.lt (b:=gb) (c0:=s0) (c1:=s1) (c2:=s2) (c3:=s3) (by simp);have kr:=HM.out.row (b:=w.heap.size+1) (c0:=0) (c1:=0) (c2:=0) (c3:=0) (by simp);have y0:=kr.c0; have y1:=kr.c1; have y2:=kr.c2; have y3:=kr.c3; have yf:=kr.fr;clear kr;have yl:=HM.out.lt (b:=w.heap.size+1) (c0:=0) (c1:=0) (c2:=0) (c3:=0) (by simp);go_wp2_with fail;refine bodyPost_ret (v:=.agg #[.int .u64 s0,.int .u64 s1,.int .u64 s2,.int .u64 s3]) (by simp[results,results60,go_sem, *]) rfl ?_;refine⟨_,_,_,_,rfl,hs,by rw[HVs.out,Nat.mod_eq_of_lt (Nat.sub_lt hpos (Nat.pos_of_ne_zero HZ.out))],?_⟩;exact bR HM.out.1 (by omega) _ _ _ _
set_option maxHeartbeats 2000000 in
theorem EE (f:Int) (F:FC) (hf:FieldIs f F) (a0 a1 a2 a3 b0 b1 b2 b3:Nat) (ha:bY a0 a1 a2 a3) (hb:bY b0 b1 b2 b3) (w:World) :
  Calls prog 28 #[.int .i64 f,.agg #[.int .u64 a0,.int .u64 a1,.int .u64 a2,.int .u64 a3],.agg #[.int .u64 b0,.int .u64 b1,.int .u64 b2,.int .u64 b3]] w (eM ((aC a0 a1 a2 a3+(F.M-aC b0 b1 b2 b3%F.M))%F.M) w):=by
 go_enter func28,ntmps28
 go_wp2_with fail;have HM:=Lib.hid ((((Mem.nil w).new (w.heap.size) a0 a1 a2 a3 25 (by simp)).new (w.heap.size+1) b0 b1 b2 b3 25 (by simp)).new (w.heap.size+1+1) 0 0 0 0 25 (by simp));refine dX (fun wx=>Mem w wx [(w.heap.size+1,b0,b1,b2,b3),(w.heap.size,a0,a1,a2,a3)]) 6 (by kernel_rfl) ?_;have HM':=Lib.hid (HM.out.drewN 1);clear HM;have HM:=HM';clear HM';have HS:=HM.out.sub (rs':=[(w.heap.size+1,b0,b1,b2,b3),(w.heap.size,a0,a1,a2,a3)]) (by simp);refine aN (i:=0) (v:=.int .i64 f) rfl (by kernel_rfl) (by kernel_rfl) (by kernel_rfl) (by kernel_rfl) (fun _ _ _ h=>h) HS (Or.inl ⟨by kernel_rfl,fun wx hx => ?_⟩) ?_
 ·clear HS hx;go_simp
 simp only[Act.put,List.setIfInBounds_toArray,List.set_cons_zero,List.set_cons_succ];refine aN (i:=1) (v:=.agg #[.int .u64 a0,.int .u64 a1,.int .u64 a2,.int .u64 a3]) rfl (by kernel_rfl) (by kernel_rfl) (by kernel_rfl) (by kernel_rfl) (fun _ _ _ h=>h) HS (Or.inl ⟨by kernel_rfl,fun wx hx => ?_⟩) ?_
 ·have kr:=hx.row (b:=w.heap.size) (c0:=a0) (c1:=a1) (c2:=a2) (c3:=a3) (by simp);have x0:=kr.c0; have x1:=kr.c1; have x2:=kr.c2; have x3:=kr.c3;clear kr HS hx;go_simp
 simp only[Act.put,List.setIfInBounds_toArray,List.set_cons_zero,List.set_cons_succ];refine aN (i:=2) (v:=.int .i64 f) rfl (by kernel_rfl) (by kernel_rfl) (by kernel_rfl) (by kernel_rfl) (fun _ _ _ h=>h) HS (Or.inl ⟨by kernel_rfl,fun wx hx => ?_⟩) ?_
 ·clear HS hx;go_simp
 simp only[Act.put,List.setIfInBounds_toArray,List.set_cons_zero,List.set_cons_succ];refine aN (i:=3) (v:=.agg #[.int .u64 b0,.int .u64 b1,.int .u64 b2,.int .u64 b3]) rfl (by kernel_rfl) (by kernel_rfl) (by kernel_rfl) (by kernel_rfl) (fun _ _ _ h=>h) HS (Or.inl ⟨by kernel_rfl,fun wx hx => ?_⟩) ?_
 ·have kr:=hx.row (b:=w.heap.size+1) (c0:=b0) (c1:=b1) (c2:=b2) (c3:=b3) (by simp);have x0:=kr.c0; have x1:=kr.c1; have x2:=kr.c2; have x3:=kr.c3;clear kr HS hx;go_simp
 simp only[Act.put,List.setIfInBounds_toArray,List.set_cons_zero,List.set_cons_succ];clear HS;refine aJ (i:=4) (by kernel_rfl) rfl (fun K hK => ?_);go_simp;refine (sR f F hf b0 b1 b2 b3 hb _).mono ?_
 rintro e w1 ⟨n0,n1,n2,n3,rfl,hn,hv,hbl⟩
 have HVn:=Lib.hid hv;clear hv;have HM':=Lib.hid (HM.out.on hbl);clear HM hbl;have HM:=HM';clear HM';have HS:=HM.out.sub (rs':=[(w.heap.size+1,b0,b1,b2,b3),(w.heap.size,a0,a1,a2,a3)]) (by simp);refine hK.out _ _ (Or.inr HS) (fun _ => ?_);clear hK K;clear HS;refine aJ (i:=5) (by kernel_rfl) rfl (fun K hK => ?_);go_simp;refine (sV f F hf a0 a1 a2 a3 n0 n1 n2 n3 ha hn _).mono ?_
 rintro e w2 ⟨s0,s1,s2,s3,rfl,hs,hv,hbl⟩
 have HVs:=Lib.hid (show aC s0 s1 s2 s3=(aC a0 a1 a2 a3+(F.M-aC b0 b1 b2 b3%F.M))%F.M by rw[hv,HVn.out,Nat.add_mod_mod]);clear hv;have HM':=Lib.hid (HM.out.on hbl);clear HM hbl;have HM:=HM';clear HM';have HS:=HM.out.sub (rs':=[(w.heap.size+1,b0,b1,b2,b3),(w.heap.size,a0,a1,a2,a3)]) (by simp);refine hK.out _ _ (Or.inr HS) (fun _ => ?_);clear hK K;clear HS;have kr:=HM.out.row (b:=w.heap.size+1+1) (c0:=0) (c1:=0) (c2:=0) (c3:=0) (by simp);have y0:=kr.c0; have y1:=kr.c1; have y2:=kr.c2; have y3:=kr.c3; have yf:=kr.fr;clear kr;have yl:=HM.out.lt (b:=w.heap.size+1+1) (c0:=0) (c1:=0) (c2:=0) (c3:=0) (by simp);refine aJ (i:=6) (by kernel_rfl) rfl (fun K hK => ?_);go_simp;have HM':=Lib.hid ((HM.out.sub (rs':=[(w.heap.size+1+1,0,0,0,0),(w.heap.size+1,b0,b1,b2,b3),(w.heap.size,a0,a1,a2,a3)]) (by simp)).put s0 s1 s2 s3 (by omega) (by intro r hr; simp at hr; rcases hr with rfl|rfl<;>simp<;>omega));clear HM;have HM:=HM';clear HM';refine hK.out _ _ (Or.inl rfl) (fun _ => ?_);clear hK K;refine cZ (by kernel_rfl) ?_;go_wp2_with fail;refine bodyPost_ret (v:=.agg #[.int .u64 s0,.int .u64 s1,.int .u64 s2,.int .u64 s3]) (by simp[results,results28,go_sem, *]) rfl ?_;exact⟨_,_,_,_,rfl,hs,HVs.out,HM.out.1⟩
theorem OS {F:FC} (hF:F.Ok) (A B:Nat):A%F.M*(B%F.M)*F.Ri%F.M*aC F.s0 F.s1 F.s2 F.s3*F.Ri%F.M=A*B%F.M:=by
 rw[IU hF];unfold kp;have h:A%F.M*(B%F.M)*F.Ri%F.M*F.R%F.M=A*B*F.R*F.Ri%F.M:=by
  have e:A%F.M*(B%F.M)*F.Ri%F.M*F.R%F.M=A*B*F.Ri*F.R%F.M:=jM ((mH _ _).trans (jM (jM (mH _ _) (mH _ _)) rfl)) rfl;rw[e,Nat.mul_right_comm]
 rw[h,jR hF]
set_option maxHeartbeats 2000000 in
theorem nI (f:Int) (F:FC) (hf:FieldIs f F) (a0 a1 a2 a3 b0 b1 b2 b3:Nat) (ha:bY a0 a1 a2 a3) (hb:bY b0 b1 b2 b3) (w:World) :
  Calls prog 30 #[.int .i64 f,.agg #[.int .u64 a0,.int .u64 a1,.int .u64 a2,.int .u64 a3],.agg #[.int .u64 b0,.int .u64 b1,.int .u64 b2,.int .u64 b3]] w (eM (aC a0 a1 a2 a3*aC b0 b1 b2 b3%F.M) w):=by
 have hpos:=hf.ok.pos
 go_enter func30,ntmps30
 go_wp2_with fail;have HM:=Lib.hid ((((Mem.nil w).new (w.heap.size) a0 a1 a2 a3 25 (by simp)).new (w.heap.size+1) b0 b1 b2 b3 25 (by simp)).new (w.heap.size+1+1) 0 0 0 0 25 (by simp));refine dX (fun wx=>Mem w wx [(w.heap.size+1,b0,b1,b2,b3),(w.heap.size,a0,a1,a2,a3)]) 12 (by kernel_rfl) ?_;have HM':=Lib.hid (HM.out.drewN 1);clear HM;have HM:=HM';clear HM';have HS:=HM.out.sub (rs':=[(w.heap.size+1,b0,b1,b2,b3),(w.heap.size,a0,a1,a2,a3)]) (by simp);refine aN (i:=0) (v:=.int .i64 f) rfl (by kernel_rfl) (by kernel_rfl) (by kernel_rfl) (by kernel_rfl) (fun _ _ _ h=>h) HS (Or.inl ⟨by kernel_rfl,fun wx hx => ?_⟩) ?_
 ·clear HS hx;go_simp
 simp only[Act.put,List.setIfInBounds_toArray,List.set_cons_zero,List.set_cons_succ];refine aN (i:=1) (v:=.int .i64 f) rfl (by kernel_rfl) (by kernel_rfl) (by kernel_rfl) (by kernel_rfl) (fun _ _ _ h=>h) HS (Or.inl ⟨by kernel_rfl,fun wx hx => ?_⟩) ?_
 ·clear HS hx;go_simp
 simp only[Act.put,List.setIfInBounds_toArray,List.set_cons_zero,List.set_cons_succ];refine aN (i:=2) (v:=.int .i64 f) rfl (by kernel_rfl) (by kernel_rfl) (by kernel_rfl) (by kernel_rfl) (fun _ _ _ h=>h) HS (Or.inl ⟨by kernel_rfl,fun wx hx => ?_⟩) ?_
 ·clear HS hx;go_simp
 simp only[Act.put,List.setIfInBounds_toArray,List.set_cons_zero,List.set_cons_succ];refine aN (i:=3) (v:=.agg #[.int .u64 a0,.int .u64 a1,.int .u64 a2,.int .u64 a3]) rfl (by kernel_rfl) (by kernel_rfl) (by kernel_rfl) (by kernel_rfl) (fun _ _ _ h=>h) HS (Or.inl ⟨by kernel_rfl,fun wx hx => ?_⟩) ?_
 ·have kr:=hx.row (b:=w.heap.size) (c0:=a0) (c1:=a1) (c2:=a2) (c3:=a3) (by simp);have x0:=kr.c0; have x1:=kr.c1; have x2:=kr.c2; have x3:=kr.c3;clear kr HS hx;go_simp
 simp only[Act.put,List.setIfInBounds_toArray,List.set_cons_zero,List.set_cons_succ];refine aN (i:=5) (v:=.int .i64 f) rfl (by kernel_rfl) (by kernel_rfl) (by kernel_rfl) (by kernel_rfl) (fun _ _ _ h=>h) HS (Or.inl ⟨by kernel_rfl,fun wx hx => ?_⟩) ?_
 ·clear HS hx;go_simp
 simp only[Act.put,List.setIfInBounds_toArray,List.set_cons_zero,List.set_cons_succ];refine aN (i:=6) (v:=.agg #[.int .u64 b0,.int .u64 b1,.int .u64 b2,.int .u64 b3]) rfl (by kernel_rfl) (by kernel_rfl) (by kernel_rfl) (by kernel_rfl) (fun _ _ _ h=>h) HS (Or.inl ⟨by kernel_rfl,fun wx hx => ?_⟩) ?_
 ·have kr:=hx.row (b:=w.heap.size+1) (c0:=b0) (c1:=b1) (c2:=b2) (c3:=b3) (by simp);have x0:=kr.c0; have x1:=kr.c1; have x2:=kr.c2; have x3:=kr.c3;clear kr HS hx;go_simp
 simp only[Act.put,List.setIfInBounds_toArray,List.set_cons_zero,List.set_cons_succ];refine aN (i:=9) (v:=.int .i64 f) rfl (by kernel_rfl) (by kernel_rfl) (by kernel_rfl) (by kernel_rfl) (fun _ _ _ h=>h) HS (Or.inl ⟨by kernel_rfl,fun wx hx => ?_⟩) ?_
 ·clear HS hx;go_simp
 simp only[Act.put,List.setIfInBounds_toArray,List.set_cons_zero,List.set_cons_succ];clear HS;refine aJ (i:=4) (by kernel_rfl) rfl (fun K hK => ?_);go_simp;refine (dC f F hf a0 a1 a2 a3 ha _).mono ?_
 rintro e w1 ⟨x0,x1,x2,x3,rfl,hx,hv,hbl⟩
 have HVx:=Lib.hid hv;clear hv;have HM':=Lib.hid (HM.out.on hbl);clear HM hbl;have HM:=HM';clear HM';have HS:=HM.out.sub (rs':=[(w.heap.size+1,b0,b1,b2,b3),(w.heap.size,a0,a1,a2,a3)]) (by simp);refine hK.out _ _ (Or.inr HS) (fun _ => ?_);clear hK K;clear HS;refine aJ (i:=7) (by kernel_rfl) rfl (fun K hK => ?_);go_simp;refine (dC f F hf b0 b1 b2 b3 hb _).mono ?_
 rintro e w2 ⟨y0,y1,y2,y3,rfl,hy,hv,hbl⟩
 have HVy:=Lib.hid hv;clear hv;have HM':=Lib.hid (HM.out.on hbl);clear HM hbl;have HM:=HM';clear HM';have HS:=HM.out.sub (rs':=[(w.heap.size+1,b0,b1,b2,b3),(w.heap.size,a0,a1,a2,a3)]) (by simp);refine hK.out _ _ (Or.inr HS) (fun _ => ?_);clear hK K;clear HS;refine aJ (i:=8) (by kernel_rfl) rfl (fun K hK => ?_);go_simp;refine (tI f F hf x0 x1 x2 x3 y0 y1 y2 y3 hx hy (by rw[HVx.out]; exact Nat.mod_lt _ hpos) _).mono ?_
 rintro e w3 ⟨z0,z1,z2,z3,rfl,hz,hv,hbl⟩
 have HVz:=Lib.hid hv;clear hv;have HM':=Lib.hid (HM.out.on hbl);clear HM hbl;have HM:=HM';clear HM';have HS:=HM.out.sub (rs':=[(w.heap.size+1,b0,b1,b2,b3),(w.heap.size,a0,a1,a2,a3)]) (by simp);refine hK.out _ _ (Or.inr HS) (fun _ => ?_);clear hK K;clear HS;refine aJ (i:=10) (by kernel_rfl) rfl (fun K hK => ?_);go_simp;refine (xH f F hf _).mono ?_
 rintro e w4 ⟨rfl,hbl⟩
 have HM':=Lib.hid (HM.out.on hbl);clear HM hbl;have HM:=HM';clear HM';have HS:=HM.out.sub (rs':=[(w.heap.size+1,b0,b1,b2,b3),(w.heap.size,a0,a1,a2,a3)]) (by simp);refine hK.out _ _ (Or.inr HS) (fun _ => ?_);clear hK K;clear HS;refine aJ (i:=11) (by kernel_rfl) rfl (fun K hK => ?_);go_simp;refine (tI f F hf z0 z1 z2 z3 F.s0 F.s1 F.s2 F.s3 hz hf.ok.oks (by rw[HVz.out]; exact Nat.mod_lt _ hpos) _).mono ?_
 rintro e w5 ⟨s0,s1,s2,s3,rfl,hs,hv,hbl⟩
 have HVs:=Lib.hid (show aC s0 s1 s2 s3=aC a0 a1 a2 a3*aC b0 b1 b2 b3%F.M by rw[hv,HVz.out,HVx.out,HVy.out]; exact OS hf.ok _ _);clear hv;have HM':=Lib.hid (HM.out.on hbl);clear HM hbl;have HM:=HM';clear HM';have HS:=HM.out.sub (rs':=[(w.heap.size+1,b0,b1,b2,b3),(w.heap.size,a0,a1,a2,a3)]) (by simp);refine hK.out _ _ (Or.inr HS) (fun _ => ?_);clear hK K;clear HS;have kr:=HM.out.row (b:=w.heap.size+1+1) (c0:=0) (c1:=0) (c2:=0) (c3:=0) (by simp);have y0:=kr.c0; have y1:=kr.c1; have y2:=kr.c2; have y3:=kr.c3; have yf:=kr.fr;clear kr;have yl:=HM.out.lt (b:=w.heap.size+1+1) (c0:=0) (c1:=0) (c2:=0) (c3:=0) (by simp);refine aJ (i:=12) (by kernel_rfl) rfl (fun K hK => ?_);go_simp;have HM':=Lib.hid ((HM.out.sub (rs':=[(w.heap.size+1+1,0,0,0,0),(w.heap.size+1,b0,b1,b2,b3),(w.heap.size,a0,a1,a2,a3)]) (by simp)).put s0 s1 s2 s3 (by omega) (by intro r hr; simp at hr; rcases hr with rfl|rfl<;>simp<;>omega));clear HM;have HM:=HM';clear HM';refine hK.out _ _ (Or.inl rfl) (fun _ => ?_);clear hK K;refine cZ (by kernel_rfl) ?_;go_wp2_with fail;refine bodyPost_ret (v:=.agg #[.int .u64 s0,.int .u64 s1,.int .u64 s2,.int .u64 s3]) (by simp[results,results30,go_sem, *]) rfl ?_;exact⟨_,_,_,_,rfl,hs,HVs.out,HM.out.1⟩
theorem TG (A M:Nat):decide (cT A M<0)=BP A M:=by
 unfold BP cT
 by_cases q:A=M
 ·rw[if_pos q,decide_eq_false (by omega),decide_eq_false (by omega)]
 ·rw[if_neg q]
  by_cases h:A<M
  ·rw[if_pos h,decide_eq_true (by omega),decide_eq_true (by omega)]
  ·rw[if_neg h,decide_eq_false (by omega),decide_eq_false (by omega)]
set_option maxHeartbeats 2000000 in
theorem xT (f:Int) (F:FC) (hf:FieldIs f F) (a0 a1 a2 a3:Nat) (ha:bY a0 a1 a2 a3) (w:World) :
  Calls prog 31 #[.int .i64 f,.agg #[.int .u64 a0,.int .u64 a1,.int .u64 a2,.int .u64 a3]] w (fun e w'=>e=.returned (.bool (BP (aC a0 a1 a2 a3) F.M))∧Below w.heap.size w w'):=by
 go_enter func31,ntmps31
 go_wp2_with fail;have HM:=Lib.hid ((Mem.nil w).new (w.heap.size) a0 a1 a2 a3 25 (by simp));refine dX (fun wx=>Mem w wx [(w.heap.size,a0,a1,a2,a3)]) 5 (by kernel_rfl) ?_;have HM':=Lib.hid (HM.out.drewN 1);clear HM;have HM:=HM';clear HM';have HS:=HM.out.sub (rs':=[(w.heap.size,a0,a1,a2,a3)]) (by simp);refine aN (i:=0) (v:=.agg #[.int .u64 a0,.int .u64 a1,.int .u64 a2,.int .u64 a3]) rfl (by kernel_rfl) (by kernel_rfl) (by kernel_rfl) (by kernel_rfl) (fun _ _ _ h=>h) HS (Or.inl ⟨by kernel_rfl,fun wx hx => ?_⟩) ?_
 ·have kr:=hx.row (b:=w.heap.size) (c0:=a0) (c1:=a1) (c2:=a2) (c3:=a3) (by simp);have x0:=kr.c0; have x1:=kr.c1; have x2:=kr.c2; have x3:=kr.c3;clear kr HS hx;go_simp
 simp only[Act.put,List.setIfInBounds_toArray,List.set_cons_zero,List.set_cons_succ];refine aN (i:=1) (v:=.int .i64 f) rfl (by kernel_rfl) (by kernel_rfl) (by kernel_rfl) (by kernel_rfl) (fun _ _ _ h=>h) HS (Or.inl ⟨by kernel_rfl,fun wx hx => ?_⟩) ?_
 ·clear HS hx;go_simp
 simp only[Act.put,List.setIfInBounds_toArray,List.set_cons_zero,List.set_cons_succ];clear HS;refine aJ (i:=2) (by kernel_rfl) rfl (fun K hK => ?_);go_simp;refine (gE f F hf _).mono ?_
 rintro e w1 ⟨rfl,hbl⟩
 have HM':=Lib.hid (HM.out.on hbl);clear HM hbl;have HM:=HM';clear HM';have HS:=HM.out.sub (rs':=[(w.heap.size,a0,a1,a2,a3)]) (by simp);refine hK.out _ _ (Or.inr HS) (fun _ => ?_);clear hK K;clear HS;refine aJ (i:=3) (by kernel_rfl) rfl (fun K hK => ?_);go_simp;refine (oG a0 a1 a2 a3 F.m0 F.m1 F.m2 F.m3 ha hf.ok.okm _).mono ?_
 rintro e w2 ⟨he,hbl⟩
 have HC:=Lib.hid (TG (aC a0 a1 a2 a3) (aC F.m0 F.m1 F.m2 F.m3));generalize cT (aC a0 a1 a2 a3) (aC F.m0 F.m1 F.m2 F.m3)=cc at *;subst he;have HM':=Lib.hid (HM.out.on hbl);clear HM hbl;have HM:=HM';clear HM';have HS:=HM.out.sub (rs':=[(w.heap.size,a0,a1,a2,a3)]) (by simp);refine hK.out _ _ (Or.inr HS) (fun _ => ?_);clear hK K;refine aN (i:=4) (v:=.bool (decide (cc<0))) rfl (by kernel_rfl) (by kernel_rfl) (by kernel_rfl) (by kernel_rfl) (fun _ _ _ h=>h) HS (Or.inl ⟨by kernel_rfl,fun wx hx => ?_⟩) ?_
 ·clear HS hx;go_simp
 simp only[Act.put,List.setIfInBounds_toArray,List.set_cons_zero,List.set_cons_succ];clear HS;refine aJ (i:=5) (by kernel_rfl) rfl (fun K hK => ?_);go_simp;refine hK.out _ _ (Or.inl rfl) (fun _ => ?_);clear hK K;refine cZ (by kernel_rfl) ?_;go_wp2_with fail;go_ret;exact⟨AK HC.out,HM.out.1⟩
end Go.Proofs.Ytjjnbgoepbiojaa
namespace Go.Proofs.Ytjjnbgoepbiojaa.Ex
open Go.Proofs.Try
open Go.RowKit
def LW (w:World) (v:Value) (N:Nat) (f:Nat→Nat):Prop:=∃p m,v=.slice p N m∧(∀j,j<N→f j<aT)∧(0<N→∃b o,p=some ⟨b,o,none⟩∧b<w.heap.size∧w.rangeAt b o (aB (aR (el f) 0 N)))
theorem LV.lw {w:World} {v:Value} {N:Nat} {f:Nat→Nat} (h:LV w v N f):LW w v N f:=by
 obtain⟨p,m,h1,_,h3,h4⟩:=h;exact⟨p,m,h1,h3,h4⟩
theorem DF {x y:Nat} (hx:x<aT) (hy:y<aT):aB [At.q x]=aB [At.q y]↔x=y:=by
 constructor
 ·intro h;have h2:w4 x=w4 y:=by
   have h3:w4 x++[]=w4 y++[]:=h;simpa using h3
  unfold w4 at h2;simp only[List.cons.injEq,Value.int.injEq,true_and,and_true]at h2;obtain⟨e0,e1,e2,e3⟩:=h2;have h3:=fZ hx;have h4:=fZ hy;have c0:fw x 0=fw y 0:=by omega
  have c1:fw x 1=fw y 1:=by omega
  have c2:fw x 2=fw y 2:=by omega
  have c3:fw x 3=fw y 3:=by omega
  rw[c0,c1,c2,c3,h4]at h3;exact h3.symm
 ·rintro rfl
  rfl
def jF (N:Nat) (f:Nat→Nat) (M:Nat) (g:Nat→Nat):Prop:=N=M∧∀j,j<N→f j=g j
instance (N:Nat) (f:Nat→Nat) (M:Nat) (g:Nat→Nat):Decidable (jF N f M g):=@instDecidableAnd _ _ _ (Nat.decidableBallLT N fun j _=>f j=g j)
def DB (v u:Value) (i:Nat):List Fact:=[.slot 0 (.im v),.slot 1 (.im u),.slot 5 (.im (iI i))]
def gD:Code:=(f13.body).getD .skip
def pD:Code:=gH (gH (cB (cA (cB (cB gD)))))
theorem VI:gD=.seq (cA gD) (.seq (cA (cB gD)) (.seq (.seq (cA (cA (cB (cB gD)))) (.block 0 (.loop pD))) (cB (cB (cB gD))))):=by kernel_rfl
theorem Pk (v u:Value):aH prog (qG prog) f13.ntmps (cG fun _=>none) 40 (cA gD) (eF 0 [.v (.im v),.v (.im u)]) [.slot 0 (.im v),.slot 1 (.im u)]=some ([],.nrm,[.slot 0 (.im v),.slot 1 (.im u)]):=by kernel_rfl
theorem Za (p q:Option Addr) (N m M m':Nat):aH prog (qG prog) f13.ntmps (cG (aE [(10,.bool true)])) 40 (cA (cB gD)) [.slot 0 (.im (.slice p N m)),.slot 1 (.im (.slice q M m'))] [.slot 4 (.im (.bool false))]=some ([aD .neq .i64 (Int.ofNat N) (Int.ofNat M)=some (.bool true)],.rt,[.slot 4 (.im (.bool false))]):=by kernel_rfl
theorem Zb (p q:Option Addr) (N m M m':Nat):aH prog (qG prog) f13.ntmps (cG (aE [(10,.bool false)])) 40 (cA (cB gD)) [.slot 0 (.im (.slice p N m)),.slot 1 (.im (.slice q M m'))] [.slot 0 (.im (.slice p N m)),.slot 1 (.im (.slice q M m'))]=some ([aD .neq .i64 (Int.ofNat N) (Int.ofNat M)=some (.bool false)],.nrm,[.slot 0 (.im (.slice p N m)),.slot 1 (.im (.slice q M m'))]):=by kernel_rfl
theorem Pj (v u:Value):aH prog (qG prog) f13.ntmps (cG fun _=>none) 40 (cA (cA (cB (cB gD)))) [.slot 0 (.im v),.slot 1 (.im u)] (DB v u 0)=some ([],.nrm,DB v u 0):=by kernel_rfl
theorem Pl (w:World) (b o m b' o' m' N i x y:Nat):aH prog { qG prog with x:=xO w (aE [(19,i),(23,i)]) (aE [(20,[.q x]),(24,[.q y])]) (fun _=>none) } f13.ntmps (Dk true (aE [(14,.bool true),(16,iI (i+1))])) 40 pD (DB (aZ b o N m) (aZ b' o' N m') i) (DB (aZ b o N m) (aZ b' o' N m') (i+1))=some ([aD .lss .i64 (Int.ofNat i) (Int.ofNat N)=some (.bool true),Int.ofNat i=Int.ofNat i,i<N,oldOf w b (o+i*4) [.q x],cR [.q x]=4,Int.ofNat i=Int.ofNat i,i<N,oldOf w b' (o'+i*4) [.q y],cR [.q y]=4,aB [.q x]=aB [.q y],aD .add .i64 (Int.ofNat i) 1=some (iI (i+1))],.nrm,DB (aZ b o N m) (aZ b' o' N m') (i+1)):=by kernel_rfl
theorem Pm (w:World) (b o m b' o' m' N i x y:Nat):aH prog { qG prog with x:=xO w (aE [(19,i),(23,i)]) (aE [(20,[.q x]),(24,[.q y])]) (fun _=>none) } f13.ntmps (Dk false (aE [(14,.bool true)])) 40 pD (DB (aZ b o N m) (aZ b' o' N m') i) [.slot 4 (.im (.bool false))]=some ([aD .lss .i64 (Int.ofNat i) (Int.ofNat N)=some (.bool true),Int.ofNat i=Int.ofNat i,i<N,oldOf w b (o+i*4) [.q x],cR [.q x]=4,Int.ofNat i=Int.ofNat i,i<N,oldOf w b' (o'+i*4) [.q y],cR [.q y]=4,aB [.q x]≠aB [.q y]],.rt,[.slot 4 (.im (.bool false))]):=by kernel_rfl
theorem Fs (p q:Option Addr) (N m M m' i:Nat):aH prog (qG prog) f13.ntmps (cG (aE [(14,.bool false)])) 40 pD (DB (.slice p N m) (.slice q M m') i) (DB (.slice p N m) (.slice q M m') i)=some ([aD .lss .i64 (Int.ofNat i) (Int.ofNat N)=some (.bool false)],.ex 0,DB (.slice p N m) (.slice q M m') i):=by kernel_rfl
theorem VH (v u:Value) (i:Nat):aH prog (qG prog) f13.ntmps (cG fun _=>none) 40 (cB (cB (cB gD))) (DB v u i) [.slot 4 (.im (.bool true))]=some ([],.rt,[.slot 4 (.im (.bool true))]):=by kernel_rfl
theorem sK {w0:World} {v u:Value} {N M:Nat} {f g:Nat→Nat} (hv:LW w0 v N f) (hu:LW w0 u M g) (hN:N≤4611686018427387904):Good prog 13 (.one (.im (.bool (decide (jF N f M g))))) [v,u] w0:=by
 have hG:bH prog (qG prog) w0.heap.size w0:=(aY _).w _ _;have hT:∀n d:Nat,TabOkW prog dW w0.heap.size w0:=fun _ _=>bG.w _ _
 obtain⟨p,m,rfl,h256,hmem⟩:=hv;obtain⟨q,m',rfl,h256',hmem'⟩:=hu;refine bJ func13 (cs:=[.v (.im (.slice p N m)),.v (.im (.slice q M m'))]) (args:=[.slice p N m,.slice q M m']) (c:=gD) rfl ⟨rfl,rfl,trivial⟩ (Nat.le_of_ble_eq_true (by kernel_rfl)) fun a w1 hA => ?_
 rw[VI];refine wp_seq (aA aG hT hG (Pk _ _) trivial hA fun a w1 hA => ?_);have bad:∀{a w},Holds f13.ntmps w0.heap.size w0 [.slot 4 (.im (.bool false))] a w→bodyPost prog f13 (fun e w'=>e=.returned (RV.den (.one (.im (.bool false))))∧Below w0.heap.size w0 w') .ret a w:=fun hA=>aW (l:=[.im (.bool false)]) (r:=.one (.im (.bool false))) (by kernel_rfl) (by kernel_rfl) hA
 by_cases hl:N=M
 ·subst hl;refine wp_seq (aA aG hT hG (Zb p q N m N m') ⟨by rw[Dg,decide_eq_false (by simp)],trivial⟩ hA fun a w1 hA => ?_);refine wp_seq (wp_seq (aA aG hT hG (Pj _ _) trivial hA fun a w1 hA => ?_));refine wp_block ?_;have step:∀i,i<N→f i=g i→Ok prog w0.heap.size w0 f13.ntmps pD (DB (.slice p N m) (.slice q N m') i) .nrm (DB (.slice p N m) (.slice q N m') (i+1)):=fun i hi he=>by
   obtain⟨b,o,rfl,hb,hr⟩:=hmem (by omega);obtain⟨b',o',rfl,hb',hr'⟩:=hmem' (by omega);exact⟨_,_,_,_,cW w0 _ _ _,fun _ _=>bG.w _ _,Pl w0 b o m b' o' m' N i (f i) (g i),bV hi,rfl,hi,dU hb hr hi,rfl,rfl,hi,dU hb' hr' hi,rfl,by rw[he],eT (k:=1) (by omega),trivial⟩
  by_cases h:∀j,j<N→f j=g j
  ·rw[decide_eq_true (show jF N f N g from⟨rfl,h⟩)];refine cE aG (fun i=>DB (.slice p N m) (.slice q N m') i) N (fun i hi=>step i hi (h i hi)) (.ex 0) (by simp) (DB (.slice p N m) (.slice q N m') N) ⟨_,_,_,_,hG,hT,Fs p q N m N m' N,dI (Nat.le_refl _),trivial⟩ hA fun a w hA => ?_
   show (cB (cB (cB gD))).wp _ _ _ _;exact aA aG hT hG (VH _ _ N) trivial hA fun a w' hA=>aW (l:=[.im (.bool true)]) (r:=.one (.im (.bool true))) (by kernel_rfl) (by kernel_rfl) hA
  ·rw[decide_eq_false (show ¬jF N f N g from fun q=>h q.2)];obtain⟨j,hj,h1,h2⟩:=eH (p:=fun j=>f j=g j) h;have hbad:Ok prog w0.heap.size w0 f13.ntmps pD (DB (.slice p N m) (.slice q N m') j) .rt [.slot 4 (.im (.bool false))]:=by
    obtain⟨b,o,rfl,hb,hr⟩:=hmem (by omega);obtain⟨b',o',rfl,hb',hr'⟩:=hmem' (by omega);exact⟨_,_,_,_,cW w0 _ _ _,fun _ _=>bG.w _ _,Pm w0 b o m b' o' m' N j (f j) (g j),bV hj,rfl,hj,dU hb hr hj,rfl,rfl,hj,dU hb' hr' hj,rfl,fun e=>h2 ((DF (h256 j hj) (h256' j hj)).1 e),trivial⟩
   exact cE aG (fun i=>DB (.slice p N m) (.slice q N m') i) j (fun i hi=>step i (by omega) (h1 i hi)) .rt (by simp) [.slot 4 (.im (.bool false))] hbad hA fun a w hA=>bad hA
 ·rw[decide_eq_false (show ¬jF N f M g from fun q=>hl q.1)];exact wp_seq (aA aG hT hG (Za p q N m M m') ⟨by rw[Dg,decide_eq_true hl],trivial⟩ hA fun a w1 hA=>bad hA)
def MM (N:Nat) (f:Nat→Nat):CA→Option (List Prop)
 | .s l n _=>some [aB l=aB (aR (el f) 0 N),n=N,∀j,j<N→f j<aT]
 | .so l n=>some [aB l=aB (aR (el f) 0 N),n=N,∀j,j<N→f j<aT]
 | .v (.im (.slice none 0 0))=>some [N=0]
 | _=>none
theorem rV {w:World} {N:Nat} {f:Nat→Nat} {c:CA} {v:Value} {p:List Prop} (hc:CA.ok w c v) (h:MM N f c=some p) (hp:aQ p):LW w v N f:=by
 unfold MM at h;split at h
 ·cases h;obtain⟨b,o,rfl,hb,hr⟩:=hc;obtain⟨e1,rfl,e3,_⟩:=hp;rw[e1]at hr;exact⟨_,_,rfl,e3,fun _=>⟨b,o,rfl,hb,hr⟩⟩
 ·cases h;obtain⟨b,o,m,rfl,hb,hr⟩:=hc;obtain⟨e1,rfl,e3,_⟩:=hp;rw[e1]at hr;exact⟨_,_,rfl,e3,fun _=>⟨b,o,rfl,hb,hr⟩⟩
 ·cases h;obtain⟨rfl,_⟩:=hp;have hc:v=.slice none 0 0:=hc;exact⟨none,0,hc,fun j h=>by omega,fun h=>by omega⟩
 ·cases h
def gSf (N:Nat) (f:Nat→Nat) (M:Nat) (g:Nat→Nat):iR
 | [c,d]=>match MM N f c,MM M g d with
  | some p,some q=>some (p++(q++[N≤4611686018427387904]),.one (.im (.bool (decide (jF N f M g)))))
  | _,_=>none
 | _=>none
theorem Jq {N M:Nat} {f g:Nat→Nat}:∀cs pre r,gSf N f M g cs=some (pre,r)→aQ pre→∀(args:List Value) (w:World),cF w cs args→Good prog 13 r args w:=by
 intro cs pre r hg hp args w ha;unfold gSf at hg;split at hg
 ·rename_i c d;split at hg
  ·rename_i p q hc hd;cases hg;rw[aS,aS]at hp
   match args,ha with
   | [u,v],ha =>
    obtain⟨h1,h2⟩:CA.ok w c u∧cF w [d] [v]:=by cases c<;>exact ha
    have h3:CA.ok w d v:=by cases d<;>exact h2.1
    exact sK (rV h1 hc hp.1) (rV h3 hd hp.2.1) hp.2.2.1
   | [],ha=>cases c<;>exact ha.elim
   | [_],ha =>
    obtain⟨h1,h2⟩:CA.ok w c _∧cF w [d] []:=by cases c<;>exact ha
    cases d<;>exact h2.elim
   | _::b::c'::r',ha =>
    obtain⟨h1,h2⟩:CA.ok w c _∧cF w [d] (b::c'::r'):=by cases c<;>exact ha
    have h3:cF w [] (c'::r'):=by cases d<;>exact h2.2
    exact h3.elim
  ·cases hg
 ·cases hg
end Go.Proofs.Ytjjnbgoepbiojaa.Ex
namespace Go.Proofs.Ytjjnbgoepbiojaa
open Go.Proofs.Try
open Go.RowKit
set_option maxRecDepth 20000 in
set_option maxHeartbeats 1000000 in
theorem vJ (n:Nat) (w:World):Calls prog 49 #[.int .u64 n] w fun e w'=>e=.returned (.agg #[.int .u64 n,.int .u64 0,.int .u64 0,.int .u64 0])∧Below w.heap.size w w':=by
 go_enter func49,ntmps49
 go_wp2_with fail;refine bodyPost_ret (v:=.agg #[.int .u64 n,.int .u64 0,.int .u64 0,.int .u64 0]) (by simp[results,results49,go_sem]) rfl ?_;refine⟨rfl,?_⟩
 repeat (first|exact Below.refl _ _|refine Below.drew ?_|refine Below.alloc ?_ (by first|(simp; done)|(simp; omega)) _|refine Below.setCell ?_ (by simp) _)
set_option maxRecDepth 20000 in
set_option maxHeartbeats 1000000 in
theorem EN (a0 a1 a2 a3 i:Nat) (ha:bY a0 a1 a2 a3) (hi:i<256) (w:World) :
  Calls prog 85 #[.agg #[.int .u64 a0,.int .u64 a1,.int .u64 a2,.int .u64 a3],.int .i64 i] w (fun e w'=>e=.returned (.bool (decide (iO (aC a0 a1 a2 a3) i=1)))∧Below w.heap.size w w'):=by
 obtain⟨j,k,q,r,hj,hk,e⟩:=Ec hi;have hc:=BI w 85 a0 a1 a2 a3 j hj;have hx:=FY ha j;obtain⟨s,e1,e2,hs⟩:=SF hx (TE ha hj hk e.out);have hb:=oS (aC a0 a1 a2 a3) i;generalize iO (aC a0 a1 a2 a3) i=b at *;generalize eK [a0,a1,a2,a3] j=x at *;have hb':b≤1:=by omega
 clear e
 go_enter func85,ntmps85
 rcases hb with rfl|rfl
 ·go_wp2_with fail;go_ret;exact⟨rfl,(Below.refl _ _).alloc (Nat.le_refl _) _⟩
 ·go_wp2_with fail;go_ret;exact⟨rfl,(Below.refl _ _).alloc (Nat.le_refl _) _⟩
theorem Pz {M A N i:Nat} (hb:iO N i=0):A^(N/2^(i+1))%M*(A^(N/2^(i+1))%M)%M=A^(N/2^i)%M:=by
 rw[←Nat.mul_mod,←Nat.pow_add,uM N i,hb];congr 2;omega
theorem Py {M A N i:Nat} (hb:iO N i=1):A^(N/2^(i+1))%M*(A^(N/2^(i+1))%M)%M*A%M=A^(N/2^i)%M:=by
 rw[←Nat.mul_mod,←Nat.pow_add,uM N i,hb,Nat.mod_mul_mod,←Nat.pow_succ];congr 2;omega
set_option maxHeartbeats 4000000 in
theorem sS (f:Int) (F:FC) (hf:FieldIs f F) (a0 a1 a2 a3 n0 n1 n2 n3:Nat) (ha:bY a0 a1 a2 a3) (hn:bY n0 n1 n2 n3) (w:World) :
  Calls prog 59 #[.int .i64 f,.agg #[.int .u64 a0,.int .u64 a1,.int .u64 a2,.int .u64 a3],.agg #[.int .u64 n0,.int .u64 n1,.int .u64 n2,.int .u64 n3]] w (eM (aC a0 a1 a2 a3^aC n0 n1 n2 n3%F.M) w):=by
 have h2:=hf.ok.gt
 go_enter func59,ntmps59
 go_wp2_with fail;have M0:=((((Mem.nil w).new w.heap.size a0 a1 a2 a3 25 rfl).new (w.heap.size+1) n0 n1 n2 n3 85 (by simp)).new (w.heap.size+1+1) 0 0 0 0 25 (by simp));refine (vJ 1 _).mono ?_
 rintro e w1 ⟨rfl,hbl⟩
 have M1:=M0.on hbl;have hz1:w.heap.size+1+1<w1.heap.size:=M1.lt (c0:=0) (c1:=0) (c2:=0) (c3:=0) (by simp);have M2:=Lib.hid (M1.new w1.heap.size 1 0 0 0 25 rfl);clear hbl M0 M1;go_wp2_with fail
 go_loopw [8] (fun t wr=>∃(j r0 r1 r2 r3:Nat) (m:Int),j≤256∧Hid (m=(j:Int)-1)∧t=.int .i64 m∧bY r0 r1 r2 r3∧Hid (aC r0 r1 r2 r3=aC a0 a1 a2 a3^(aC n0 n1 n2 n3/2^j)%F.M)∧Hid (Mem w wr [(w1.heap.size,r0,r1,r2,r3),(w.heap.size+1+1,0,0,0,0),(w.heap.size+1,n0,n1,n2,n3),(w.heap.size,a0,a1,a2,a3)])) (fun t _=>(intOf t+1).toNat)
 case atStart =>
  refine⟨256,1,0,0,0,255,Nat.le_refl _,Lib.hid (by omega),rfl,(show bY 1 0 0 0 by unfold bY; decide),Lib.hid ?_,M2⟩;rw[Nat.div_eq_of_lt (show aC n0 n1 n2 n3<2^256 from dE hn),Nat.pow_zero,Nat.mod_eq_of_lt (by omega)];rfl
 case round =>
  obtain⟨j,r0,r1,r2,r3,m,hj,hm,rfl,hr,HV,HM⟩:=hrel
  by_cases hlt:0<j
  ·obtain⟨i,hi⟩:∃i,j=i+1:=⟨j-1,by omega⟩
   subst hi;obtain rfl:m=(i:Int):=by have:=hm.out; omega
   have Rr:=HM.out.row (b:=w1.heap.size) (c0:=r0) (c1:=r1) (c2:=r2) (c3:=r3) (by simp);have x0:=Rr.c0; have x1:=Rr.c1; have x2:=Rr.c2; have x3:=Rr.c3;have ltr:=HM.out.lt (b:=w1.heap.size) (c0:=r0) (c1:=r1) (c2:=r2) (c3:=r3) (by simp);clear Rr hm;go_wp2_with fail;refine (nI f F hf r0 r1 r2 r3 r0 r1 r2 r3 hr hr _).mono ?_
   rintro e w3 ⟨p0,p1,p2,p3,rfl,hp,hv,hbl⟩
   have HP:=Lib.hid (show aC p0 p1 p2 p3=_ by rw[hv,HV.out]);have M4:=HM.out.on hbl;have lt4:=M4.lt (b:=w1.heap.size) (c0:=r0) (c1:=r1) (c2:=r2) (c3:=r3) (by simp);have Rr:=M4.row (b:=w1.heap.size) (c0:=r0) (c1:=r1) (c2:=r2) (c3:=r3) (by simp);have Rn:=M4.row (b:=w.heap.size+1) (c0:=n0) (c1:=n1) (c2:=n2) (c3:=n3) (by simp);have M5:=Lib.hid (M4.put p0 p1 p2 p3 (by omega) (by intro r hr; simp at hr; rcases hr with rfl|rfl|rfl<;>simp<;>omega));clear x0 x1 x2 x3 hv hbl M4;have x0:=Rr.c0; have x1:=Rr.c1; have x2:=Rr.c2; have x3:=Rr.c3; have xf:=Rr.fr;have y0:=Rn.c0; have y1:=Rn.c1; have y2:=Rn.c2; have y3:=Rn.c3;have ne1:¬w.heap.size+1=w1.heap.size:=by omega
   have ne1':¬w1.heap.size=w.heap.size+1:=by omega
   have hi256:i<256:=by omega
   clear Rr Rn;go_wp2_with fail;refine (EN n0 n1 n2 n3 i hn hi256 _).mono ?_
   rintro e w4 ⟨he,hbl⟩
   have M5':=M5.out;unfold set4 at M5';have M6:=M5'.on hbl;clear hbl M5' x0 x1 x2 x3 xf y0 y1 y2 y3;have lt6:=M6.lt (b:=w1.heap.size) (c0:=p0) (c1:=p1) (c2:=p2) (c3:=p3) (by simp)
   rcases oS (aC n0 n1 n2 n3) i with hb|hb
   ·rw[hb,show decide (0=1)=false from rfl]at he;subst he;have HS:=Lib.hid (show aC p0 p1 p2 p3=aC a0 a1 a2 a3^(aC n0 n1 n2 n3/2^i)%F.M by rw[HP.out]; exact Pz hb);have M7:=Lib.hid M6;clear hb M6;go_wp2_with fail
    go_roundw
    case rel=>exact⟨i,p0,p1,p2,p3,(i:Int)-1,by omega,Lib.hid rfl,by first|rfl|go_num,hp,HS,M7⟩
    case measure=>first|(simp[intOf]; done)|(simp[intOf]; omega)
   ·rw[hb,show decide (1=1)=true from rfl]at he;subst he;have Rr:=M6.row (b:=w1.heap.size) (c0:=p0) (c1:=p1) (c2:=p2) (c3:=p3) (by simp);have Ra:=M6.row (b:=w.heap.size) (c0:=a0) (c1:=a1) (c2:=a2) (c3:=a3) (by simp);have x0:=Rr.c0; have x1:=Rr.c1; have x2:=Rr.c2; have x3:=Rr.c3;have z0:=Ra.c0; have z1:=Ra.c1; have z2:=Ra.c2; have z3:=Ra.c3;have HB:=Lib.hid hb;have M7:=Lib.hid M6;clear hb M6 Rr Ra;go_wp2_with fail;refine (nI f F hf p0 p1 p2 p3 a0 a1 a2 a3 hp ha _).mono ?_
    rintro e w5 ⟨q0,q1,q2,q3,rfl,hq,hv,hbl⟩
    have HS:=Lib.hid (show aC q0 q1 q2 q3=aC a0 a1 a2 a3^(aC n0 n1 n2 n3/2^i)%F.M by rw[hv,HP.out]; exact Py HB.out);have M8:=M7.out.on hbl;have lt8:=M8.lt (b:=w1.heap.size) (c0:=p0) (c1:=p1) (c2:=p2) (c3:=p3) (by simp);have Rr:=M8.row (b:=w1.heap.size) (c0:=p0) (c1:=p1) (c2:=p2) (c3:=p3) (by simp);have M9:=Lib.hid (M8.put q0 q1 q2 q3 (by omega) (by intro r hr; simp at hr; rcases hr with rfl|rfl|rfl<;>simp<;>omega));clear x0 x1 x2 x3 z0 z1 z2 z3 hv hbl M8;have x0:=Rr.c0; have x1:=Rr.c1; have x2:=Rr.c2; have x3:=Rr.c3; have xf:=Rr.fr;clear Rr;go_wp2_with fail
    go_roundw
    case rel=>exact⟨i,q0,q1,q2,q3,(i:Int)-1,by omega,Lib.hid rfl,by first|rfl|go_num,hq,HS,M9⟩
    case measure=>first|(simp[intOf]; done)|(simp[intOf]; omega)
  ·obtain rfl:j=0:=by omega
   obtain rfl:m = -1:=by have:=hm.out; omega
   have Rr:=HM.out.row (b:=w1.heap.size) (c0:=r0) (c1:=r1) (c2:=r2) (c3:=r3) (by simp);have x0:=Rr.c0; have x1:=Rr.c1; have x2:=Rr.c2; have x3:=Rr.c3;have Ro:=HM.out.row (b:=w.heap.size+1+1) (c0:=0) (c1:=0) (c2:=0) (c3:=0) (by simp);have o0:=Ro.c0; have o1:=Ro.c1; have o2:=Ro.c2; have o3:=Ro.c3; have of:=Ro.fr;have ltr:=HM.out.lt (b:=w1.heap.size) (c0:=r0) (c1:=r1) (c2:=r2) (c3:=r3) (by simp);have lto:=HM.out.lt (b:=w.heap.size+1+1) (c0:=0) (c1:=0) (c2:=0) (c3:=0) (by simp);clear Rr Ro hm;go_wp2_with fail;refine bodyPost_ret (v:=.agg #[.int .u64 r0,.int .u64 r1,.int .u64 r2,.int .u64 r3]) (by simp[results,results59,go_sem, *]) rfl ?_;refine⟨_,_,_,_,rfl,hr,by rw[HV.out,Nat.pow_zero,Nat.div_one],?_⟩;exact bR HM.out.1 (by omega) _ _ _ _
theorem Aw {s0 s1 s2 s3:Nat} (hs:bY s0 s1 s2 s3) (h:aC s0 s1 s2 s3≠0) (w:World):(Op.equalIn 10000 85 (.agg #[.int .u64 s0,.int .u64 s1,.int .u64 s2,.int .u64 s3]) (.agg #[.int .u64 0,.int .u64 0,.int .u64 0,.int .u64 0])).run prog w=.ok false w:=by
 have h':=uC 9998 s0 s1 s2 s3 0 0 0 0 w;rw[wH (fun q=>h ((rO hs Na).1 q))]at h';exact h'
theorem MH:prog.eqGuardType prog.depth 85=false:=by kernel_rfl
set_option maxHeartbeats 2000000 in
theorem AI (f:Int) (F:FC) (hf:FieldIs f F) (a0 a1 a2 a3:Nat) (ha:bY a0 a1 a2 a3) (hz:aC a0 a1 a2 a3%F.M≠0) (w:World) :
  Calls prog 48 #[.int .i64 f,.agg #[.int .u64 a0,.int .u64 a1,.int .u64 a2,.int .u64 a3]] w (fun e w'=>∃s0 s1 s2 s3:Nat,e=.returned (.tuple #[.agg #[.int .u64 s0,.int .u64 s1,.int .u64 s2,.int .u64 s3],.int .i64 0])∧bY s0 s1 s2 s3∧aC s0 s1 s2 s3=aC a0 a1 a2 a3^(F.M-2)%F.M∧Below w.heap.size w w'):=by
 have hG:=MH;have h2:=hf.ok.gt
 go_enter func48,ntmps48
 go_wp2_with fail;have HM:=Lib.hid (((Mem.nil w).new (w.heap.size) a0 a1 a2 a3 25 (by simp)).new (w.heap.size+1) 0 0 0 0 25 (by simp));refine (dC f F hf a0 a1 a2 a3 ha _).mono ?_
 rintro e w1 ⟨d0,d1,d2,d3,rfl,hd,hv,hbl⟩
 have HM':=Lib.hid (HM.out.on hbl);clear HM hbl;have HM:=HM';clear HM';have EQ:=Aw hd (by rw[hv]; exact hz);clear hv hz;go_wp2_with fail;refine (gE f F hf _).mono ?_
 rintro e w2 ⟨rfl,hbl⟩
 have HM':=Lib.hid (HM.out.on hbl);clear HM hbl;have HM:=HM';clear HM';go_wp2_with fail;refine (eR F.m0 F.m1 F.m2 F.m3 2 0 0 0 hf.ok.okm (show bY 2 0 0 0 by unfold bY; decide) _).mono ?_
 rintro e w3 ⟨n0,n1,n2,n3,c,rfl,hn,hc,hv,hbl⟩
 have HVn:=Lib.hid (show aC n0 n1 n2 n3=F.M-2 by
  have e2:aC 2 0 0 0=2:=rfl;have:=dE hn;rw[e2]at hv;have e3:aC F.m0 F.m1 F.m2 F.m3=F.M:=rfl;rw[e3]at hv;have:c=0:=by rcases (show c=0∨c=1 by omega)with h|h; exact h; subst h; omega
  subst this;omega)
 clear hv hc;have HM':=Lib.hid ((HM.out.on hbl).new w3.heap.size n0 n1 n2 n3 85 rfl);clear HM hbl;have HM:=HM';clear HM';have kr:=HM.out.row (b:=w.heap.size) (c0:=a0) (c1:=a1) (c2:=a2) (c3:=a3) (by simp);have x0:=kr.c0; have x1:=kr.c1; have x2:=kr.c2; have x3:=kr.c3;clear kr;have xl:w.heap.size<w3.heap.size:=by have:=HM.out.lt (b:=w.heap.size) (c0:=a0) (c1:=a1) (c2:=a2) (c3:=a3) (by simp); have l2:=HM.out.lt (b:=w.heap.size+1) (c0:=0) (c1:=0) (c2:=0) (c3:=0) (by simp); simp at l2; omega
 go_wp2_with fail;refine (sS f F hf a0 a1 a2 a3 n0 n1 n2 n3 ha hn _).mono ?_
 rintro e w4 ⟨s0,s1,s2,s3,rfl,hs,hv,hbl⟩
 have HVs:=Lib.hid (show aC s0 s1 s2 s3=aC a0 a1 a2 a3^(F.M-2)%F.M by rw[hv,HVn.out]);have HM':=Lib.hid (HM.out.on hbl);clear HM hbl hv x0 x1 x2 x3 xl;have HM:=HM';clear HM';have kr:=HM.out.row (b:=w.heap.size+1) (c0:=0) (c1:=0) (c2:=0) (c3:=0) (by simp);have y0:=kr.c0; have y1:=kr.c1; have y2:=kr.c2; have y3:=kr.c3; have yf:=kr.fr;have yl:=HM.out.lt (b:=w.heap.size+1) (c0:=0) (c1:=0) (c2:=0) (c3:=0) (by simp);clear kr;go_wp2_with fail;refine bodyPost_ret (v:=.tuple #[.agg #[.int .u64 s0,.int .u64 s1,.int .u64 s2,.int .u64 s3],.int .i64 0]) (by simp[results,results48,go_sem, *]) rfl ?_;refine⟨_,_,_,_,rfl,hs,HVs.out,?_⟩;exact bR HM.out.1 (by omega) _ _ _ _
end Go.Proofs.Ytjjnbgoepbiojaa
namespace Go.Proofs.Ytjjnbgoepbiojaa.Ex
open Go.Proofs.Try
open Go.RowKit
theorem mG {x:Nat} {w:World} {e:Ending} {w':World} (hx:x<RM) (h:eM x w e w'):e=.returned (RV.den (.one (.fl [.q x])))∧Below w.heap.size w w':=by
 obtain⟨s0,s1,s2,s3,rfl,hs,hv,hb⟩:=h;obtain⟨rfl,rfl,rfl,rfl⟩:=jW hs (eQ hx) hv;exact⟨rfl,hb⟩
def To (op:Nat→RV) (c:Nat→List Prop):iR
 | [.v (.im (.int .i64 2)),.v (.fl l)]=>match jQ l with|some x=>some (c x,op x)|none=>none
 | _=>none
def Mr (op:Nat→Nat→Nat) (c:Nat→Nat→List Prop):iR
 | [.v (.im (.int .i64 2)),.v (.fl l),.v (.fl m)]=>match jQ l,jQ m with|some x,some y=>some (c x y,.one (.fl [.q (op x y)]))|_,_=>none
 | _=>none
theorem FT {f:FuncId} {op:Nat→RV} {c:Nat→List Prop} (h:∀x,aQ (c x)→∀w,Good prog f (op x) [.int .i64 2,.agg (aB [At.q x]).toArray] w) :
  ∀cs pre r,To op c cs=some (pre,r)→aQ pre→∀(args:List Value) (w:World),cF w cs args→Good prog f r args w:=by
 intro cs pre r hg hp args w ha;unfold To at hg;split at hg
 ·rename_i l;split at hg
  ·rename_i x hx;cases hg
   match args,ha with
   | [t,v],ha =>
    have h1:t=.int .i64 2:=ha.1;have h2:v=.agg (aB l).toArray:=ha.2.1;rw[bL l x hx]at h2;subst h1; subst h2;exact h x hp w
   | [],ha=>exact ha.elim
   | [_],ha=>exact ha.2.elim
   | _::_::_::_,ha=>exact ha.2.2.elim
  ·cases hg
 ·cases hg
theorem yI {f:FuncId} {op:Nat→Nat→Nat} {c:Nat→Nat→List Prop} (h:∀x y,aQ (c x y)→∀w,Good prog f (.one (.fl [.q (op x y)])) [.int .i64 2,.agg (aB [At.q x]).toArray,.agg (aB [At.q y]).toArray] w) :
  ∀cs pre r,Mr op c cs=some (pre,r)→aQ pre→∀(args:List Value) (w:World),cF w cs args→Good prog f r args w:=by
 intro cs pre r hg hp args w ha;unfold Mr at hg;split at hg
 ·rename_i l m;split at hg
  ·rename_i x y hx hy;cases hg
   match args,ha with
   | [t,v,u],ha =>
    have h1:t=.int .i64 2:=ha.1;have h2:v=.agg (aB l).toArray:=ha.2.1;have h3:u=.agg (aB m).toArray:=ha.2.2.1;rw[bL l x hx]at h2;rw[bL m y hy]at h3;subst h1; subst h2; subst h3;exact h x y hp w
   | [],ha=>exact ha.elim
   | [_],ha=>exact ha.2.elim
   | [_,_],ha=>exact ha.2.2.elim
   | _::_::_::_::_,ha=>exact ha.2.2.2.elim
  ·cases hg
 ·cases hg
theorem Gv (x y:Nat) (h:aQ (Bq x y)) (w:World):Good prog 29 (.one (.fl [.q (jB x y)])) [.int .i64 2,.agg (aB [At.q x]).toArray,.agg (aB [At.q y]).toArray] w:=by
 have:=sV 2 _ nT _ _ _ _ _ _ _ _ (dY x) (dY y) w;rw[pP h.1,pP h.2.1]at this;exact this.mono fun e w' q=>mG (nM x y) q
theorem Gs (x y:Nat) (h:aQ (Bq x y)) (w:World):Good prog 30 (.one (.fl [.q (cS x y)])) [.int .i64 2,.agg (aB [At.q x]).toArray,.agg (aB [At.q y]).toArray] w:=by
 have:=nI 2 _ nT _ _ _ _ _ _ _ _ (dY x) (dY y) w;rw[pP h.1,pP h.2.1]at this;exact this.mono fun e w' q=>mG (cL x y) q
theorem Gq (x y:Nat) (h:aQ (Bq x y)) (w:World):Good prog 28 (.one (.fl [.q (lV x y)])) [.int .i64 2,.agg (aB [At.q x]).toArray,.agg (aB [At.q y]).toArray] w:=by
 have:=EE 2 _ nT _ _ _ _ _ _ _ _ (dY x) (dY y) w;rw[pP h.1,pP h.2.1,Nat.mod_eq_of_lt h.2.1]at this;refine this.mono fun e w' q=>mG (iK x y) ?_
 have e1:x+(RM-y)=x+RM-y:=by have:=h.2.1; omega
 rw[show lV x y=(x+(RM-y))%RM by unfold lV; rw[e1]];exact q
def Cz (x:Nat):Nat:=(RM-x%RM)%RM
theorem Gr (x:Nat) (h:aQ [x<RM]) (w:World):Good prog 60 (.one (.fl [.q (Cz x)])) [.int .i64 2,.agg (aB [At.q x]).toArray] w:=by
 have:=sR 2 _ nT _ _ _ _ (dY x) w;rw[pP h.1]at this;exact this.mono fun e w' q=>mG (Nat.mod_lt _ fD) q
theorem OV (x y:Nat) (h:aQ [x<RM,y<aT]) (w:World):Good prog 59 (.one (.fl [.q (gJ x y)])) [.int .i64 2,.agg (aB [At.q x]).toArray,.agg (aB [At.q y]).toArray] w:=by
 have:=sS 2 _ nT _ _ _ _ _ _ _ _ (dY x) (dY y) w;rw[pP h.1,fZ h.2.1]at this;exact this.mono fun e w' q=>mG (eB x y) q
theorem Gt (x:Nat) (h:aQ [x<RM,x≠0]) (w:World):Good prog 48 (.many [.fl [.q (fJ x)],.im (.int .i64 0)]) [.int .i64 2,.agg (aB [At.q x]).toArray] w:=by
 have:=AI 2 _ nT _ _ _ _ (dY x) (by rw[pP h.1]; exact fun q=>h.2.1 (by rw[←q]; exact (Nat.mod_eq_of_lt h.1).symm)) w;rw[pP h.1]at this;refine this.mono ?_
 rintro e w' ⟨s0,s1,s2,s3,rfl,hs,hv,hb⟩
 rw[show x^(Go.Proofs.Ytjjnbgoepbiojaa.FR.M-2)%Go.Proofs.Ytjjnbgoepbiojaa.FR.M=fJ x by unfold fJ; rw[Nat.one_mul]]at hv;obtain⟨rfl,rfl,rfl,rfl⟩:=jW hs (eQ (jH x)) hv;exact⟨rfl,hb⟩
def Tq:Nat→RV:=fun x=>.one (.im (.bool (decide (x<RM))))
theorem Gu (x:Nat) (h:aQ [x<aT]) (w:World):Good prog 31 (Tq x) [.int .i64 2,.agg (aB [At.q x]).toArray] w:=by
 have:=xT 2 _ nT _ _ _ _ (dY x) w;rw[fZ h.1]at this;exact this.mono fun e w' q=>q
theorem Qe:∀cs pre r,LY cs=some (pre,r)→aQ pre→∀(args:List Value) (w:World),cF w cs args→Good prog 49 r args w:=by
 intro cs pre r hg hp args w ha;unfold LY at hg;split at hg
 ·rename_i n;cases hg
  match args,ha with
  | [t],ha =>
   have h1:t=.int .u64 (Int.ofNat n):=ha.1;subst h1;refine (vJ n w).mono ?_
   rintro e w' ⟨rfl,hb⟩
   refine⟨?_,hb⟩;obtain⟨e0,e1,e2,e3⟩:=jW (s0:=n) (s1:=0) (s2:=0) (s3:=0) (x:=n) ⟨hp.1,by omega,by omega,by omega⟩ (by have:=hp.1; omega) (by unfold aC; omega);show Ending.returned _=Ending.returned (.agg #[.int .u64 (fw n 0:Nat),.int .u64 (fw n 1:Nat),.int .u64 (fw n 2:Nat),.int .u64 (fw n 3:Nat)]);rw[←e0,←e1,←e2,←e3];rfl
  | [],ha=>exact ha.elim
  | _::_::_,ha=>exact ha.2.elim
 ·cases hg
def MQ:Tab:=(((((((yZ.add 29 (Mr jB Bq)).add 28 (Mr lV Bq)).add 30 (Mr cS Bq)).add 60 (To (fun x=>.one (.fl [.q (Cz x)])) fun x=>[x<RM])).add 59 (Mr gJ fun x y=>[x<RM,y<aT])).add 48 (To (fun x=>.many [.fl [.q (fJ x)],.im (.int .i64 0)]) fun x=>[x<RM,x≠0])).add 31 (To Tq fun x=>[x<aT])).add 49 LY
theorem qE:TabOk prog MQ:=(((((((qC.add func29 (by kernel_rfl) (by kernel_rfl) (yI Gv)).add func28 (by kernel_rfl) (by kernel_rfl) (yI Gq)).add func30 (by kernel_rfl) (by kernel_rfl) (yI Gs)).add func60 (by kernel_rfl) (by kernel_rfl) (FT Gr)).add func59 (by kernel_rfl) (by kernel_rfl) (yI OV)).add func48 (by kernel_rfl) (by kernel_rfl) (FT Gt)).add func31 (by kernel_rfl) (by kernel_rfl) (FT Gu)).add func49 (by kernel_rfl) (by kernel_rfl) Qe
def oU (h:Bool) (num:Nat→Option Value) (_:Nat):Cfg:=⟨fun _=>MQ,fun _=>h,num⟩
theorem WO:yK prog MQ (qG prog) (fun _=>true) f50 40 []=some ([1<RM],.one (.fl [.q (Cz 1)])):=by kernel_rfl
def Ms:Nat:=81540058820840996586704275553141814055101440848469862132140264610111
set_option maxHeartbeats 2000000 in
theorem KV (w:World):Calls prog 77 #[] w (fun e w'=>e=.returned (.agg #[.int .u64 11211439779908376895,.int .u64 1735440370612733063,.int .u64 1376415503089949544,.int .u64 12990080814])∧Below w.heap.size w w'):=by
 go_enter func77,ntmps77
 go_wp2_with fail;refine (gE 2 Go.Proofs.Ytjjnbgoepbiojaa.FR (by unfold FieldIs; simp) _).mono ?_
 rintro e w1 ⟨rfl,hbl⟩
 have HM:=Lib.hid (((Mem.nil w).new w.heap.size 0 0 0 0 85 rfl).on hbl);have kr:=HM.out.row (b:=w.heap.size) (c0:=0) (c1:=0) (c2:=0) (c3:=0) (by simp);have o0:=kr.c0; have o1:=kr.c1; have o2:=kr.c2; have o3:=kr.c3; have of:=kr.fr;have lto:=HM.out.lt (b:=w.heap.size) (c0:=0) (c1:=0) (c2:=0) (c3:=0) (by simp);clear kr hbl;have b0:bits .or .u64 18222111039 (IntKind.u64.wrap 199074440569838614704509943808)=11211439779908376895:=by kernel_rfl
 have b1:bits .or .u64 10791847047 (IntKind.u64.wrap 912676561321971831349406859264)=1735440370612733063:=by kernel_rfl
 have b2:bits .or .u64 49476295528 (IntKind.u64.wrap 239624696274039063709157949440)=1376415503089949544:=by kernel_rfl
 simp only[Go.Proofs.Ytjjnbgoepbiojaa.FR];go_wp2_with fail;refine wp_loop_rounds 6 ?_;rw[rounds_succ];go_wp2_with fail
 go_region
 go_wp2_with fail;rw[rounds_succ];go_wp2_with fail
 go_region
 go_wp2_with fail;rw[rounds_succ];go_wp2_with fail
 go_region
 go_wp2_with fail;rw[rounds_succ];go_wp2_with fail;rw[rounds_succ];go_wp2_with fail;refine bodyPost_ret (v:=.agg #[.int .u64 11211439779908376895,.int .u64 1735440370612733063,.int .u64 1376415503089949544,.int .u64 12990080814]) (by simp[results,results77,go_sem, *]) rfl ?_;refine⟨rfl,?_⟩;have hb:=HM.out.1
 repeat (first|exact hb|refine Below.drew ?_|refine Below.alloc ?_ (by first|(simp; done)|(simp; omega)) _|refine Below.setCell ?_ (by simp) _)
def Cg:Tab:=MQ.add 77 (g0 (.one (.fl [.q Ms])))
theorem Dd:TabOk prog Cg:=qE.add func77 (by kernel_rfl) (by kernel_rfl) (BW fun w=>(KV w).mono fun e w' h=>⟨h.1.trans (by kernel_rfl),h.2⟩)
def Mh (num:Nat→Option Value) (_:Nat):Cfg:=⟨fun _=>Cg,fun _=>true,num⟩
def gT:Code:=(f42.body).getD .skip
def EG:Code:=gH (gH (cB (cA (cB (cB gT)))))
theorem WU:gT=.seq (cA gT) (.seq (cA (cB gT)) (.seq (.seq (cA (cA (cB (cB gT)))) (.block 0 (.loop EG))) (cB (cB (cB gT))))):=by kernel_rfl
def Cy (log x:Nat):List Fact:=[.slot 0 (.im (iI log)),.slot 2 (.pt 2 0),.row 2 true [.f ⟨0,cY⟩],.slot 3 (.pt 3 0),.row 3 true [.q x]]
def Zg (log:Nat):List Fact:=[.slot 0 (.im (iI log)),.slot 2 (.pt 2 0),.row 2 true [.f ⟨0,cY⟩]]
theorem Px (log:Nat):aH prog (qG prog) f42.ntmps (Mh fun _=>none) 40 (cA gT) (eF 0 [.v (.im (iI log))]) (Zg log)=some ([],.nrm,Zg log):=by kernel_rfl
theorem Pw (log:Nat):aH prog (qG prog) f42.ntmps (Mh fun _=>none) 40 (cA (cB gT)) (Zg log) (Cy log (gJ 5 Ms))=some ([5<18446744073709551616,5<RM,Ms<aT],.nrm,Cy log (gJ 5 Ms)):=by kernel_rfl
def Gn (log x i:Nat):List Fact:=.slot 4 (.im (iI i))::Cy log x
theorem Pv (log x:Nat):aH prog (qG prog) f42.ntmps (Mh fun _=>none) 40 (cA (cA (cB (cB gT)))) (Cy log x) (Gn log x 28)=some ([],.nrm,Gn log x 28):=by kernel_rfl
theorem Pu (log x i j:Nat):aH prog (qG prog) f42.ntmps (Mh (aE [(10,.bool true),(12,iI j)])) 40 EG (Gn log x i) (Gn log (cS x x) j)=some ([aD .gtr .i64 (Int.ofNat i) (Int.ofNat log)=some (.bool true),x<RM,x<RM,aD .sub .i64 (Int.ofNat i) 1=some (iI j)],.nrm,Gn log (cS x x) j):=by kernel_rfl
theorem Zf (log x i:Nat):aH prog (qG prog) f42.ntmps (Mh (aE [(10,.bool false)])) 40 EG (Gn log x i) (Cy log x)=some ([aD .gtr .i64 (Int.ofNat i) (Int.ofNat log)=some (.bool false)],.ex 0,Cy log x):=by kernel_rfl
theorem Ze (log x:Nat):aH prog (qG prog) f42.ntmps (Mh fun _=>none) 40 (cB (cB (cB gT))) (Cy log x) [.slot 2 (.pt 2 0),.row 2 true [.q x]]=some ([],.rt,[.slot 2 (.pt 2 0),.row 2 true [.q x]]):=by kernel_rfl
def Fr (e:Nat):Nat→Nat
 | 0=>gJ 5 e
 | k+1=>cS (Fr e k) (Fr e k)
theorem OB (e:Nat):∀k,Fr e k=5^(e*2^k)%RM
 | 0=>by
  rw[Nat.pow_zero,Nat.mul_one];rfl
 | k+1=>by
  show Fr e k*Fr e k%RM=_;rw[OB e k,←Nat.mul_mod,←Nat.pow_add,show e*2^k+e*2^k=e*2^(k+1) by rw[Nat.pow_succ,←Nat.mul_assoc]; omega]
def Pd (k:Nat):Nat:=Fr Ms k
theorem Qa:RM-1=Ms*2^28:=by kernel_rfl
theorem Fp {e m log:Nat} (hm:m=e*2^28) (h:log≤28):Fr e (28-log)=gJ 5 (m/2^log):=by
 rw[OB];unfold gJ;rw[hm,show (2:Nat)^28=2^(28-log)*2^log by rw[←Nat.pow_add]; congr 1; omega,←Nat.mul_assoc,Nat.mul_div_cancel _ (Nat.pow_pos (by omega))]
theorem Fo {log:Nat} (h:log≤28):Pd (28-log)=cJ log:=Fp Qa h
theorem OA:∀k,Pd k<RM
 | 0=>eB _ _
 | k+1=>cL _ _
theorem OR {log:Nat} (h:log≤28) (args:List Value) (w:World) (ha:cF w [.v (.im (iI log))] args):Good prog 42 (.one (.fl [.q (cJ log)])) args w:=by
 have hG:bH prog (qG prog) w.heap.size w:=(aY _).w _ _;have hT:∀n d:Nat,TabOkW prog Cg w.heap.size w:=fun _ _=>Dd.w _ _
 refine bJ func42 (c:=gT) rfl ha (Nat.le_of_ble_eq_true (by kernel_rfl)) fun a w1 hA => ?_
 rw[WU];refine wp_seq (aA aG hT hG (Px log) trivial hA fun a w1 hA => ?_);refine wp_seq (aA aG hT hG (Pw log) ⟨by omega,by decide,by decide,trivial⟩ hA fun a w1 hA => ?_);refine wp_seq (wp_seq (aA aG hT hG (Pv log _) trivial hA fun a w1 hA => ?_));refine wp_block ?_;refine cE aG (fun k=>Gn log (Pd k) (28-k)) (28-log) (fun k hk=>⟨_,_,_,_,hG,hT,Pu log (Pd k) (28-k) (28-(k+1)),by rw[oJ,decide_eq_true (by omega)],OA k,OA k,by have:=QE (i:=28-k) (k:=1) (by omega) (by omega); rw[show 28-k-1=28-(k+1) by omega]at this; exact this,trivial⟩) (.ex 0) (by simp) (Cy log (Pd (28-log))) ⟨_,_,_,_,hG,hT,Zf log _ _,by rw[oJ,decide_eq_false (by omega)],trivial⟩ (by exact hA) fun a w hA => ?_
 show (cB (cB (cB gT))).wp _ _ _ _;rw[Fo h]at hA;exact aA aG hT hG (Ze log _) trivial hA fun a w' hA=>aW (l:=[.fl [.q (cJ log)]]) (r:=.one (.fl [.q (cJ log)])) (by kernel_rfl) (by kernel_rfl) hA
def gRr:iR
 | [.v (.im (.int .i64 (.ofNat log)))]=>some ([log≤28],.one (.fl [.q (cJ log)]))
 | _=>none
theorem Jx:∀cs pre r,gRr cs=some (pre,r)→aQ pre→∀(args:List Value) (w:World),cF w cs args→Good prog 42 r args w:=by
 intro cs pre r hg hp args w ha;unfold gRr at hg;split at hg
 ·cases hg; exact OR hp.1 args w ha
 ·cases hg
def Ch:Tab:=Cg.add 42 gRr
theorem qD:TabOk prog Ch:=Dd.add func42 (by kernel_rfl) (by kernel_rfl) Jx
def Mj (h:Bool) (num:Nat→Option Value) (_:Nat):Cfg:=⟨fun _=>Ch,fun _=>h,num⟩
def iD:List At:=[.f ⟨0,cY⟩]
def Mi (z:Int):List TV:=if eD z 28=true then [.fl [.q (cJ z.toNat)],.im (iV 0)]else [.fl iD,.im (iV 71)]
theorem WJ (z:Int):eU prog (qG prog) (Mj true (aE [(6,.bool true)])) f20 40 [.v (.im (iV z))]=some ([Value.bool (!eD z 28)=.bool true],.many [.fl iD,.im (iV 71)]):=by kernel_rfl
theorem WI (log:Nat):eU prog (qG prog) (Mj true (aE [(6,.bool false)])) f20 40 [.v (.im (iI log))]=some ([Value.bool (!eD (Int.ofNat log) 28)=.bool false,log<9223372036854775808],.many [.fl [.q (cJ log)],.im (iV 0)]):=by kernel_rfl
theorem WF (z:Int):eU prog (qG prog) (Mj true (aE [(5,.bool true)])) f21 40 [.v (.im (iV z))]=some ([aD .lss .i64 z 0=some (.bool true)],.many [.fl iD,.im (iV 71)]):=by kernel_rfl
theorem WE (z:Int):eU prog (qG prog) (Mj true (aE [(5,.bool false),(8,.bool true)])) f21 40 [.v (.im (iV z))]=some ([aD .lss .i64 z 0=some (.bool false),aD .gtr .i64 z 28=some (.bool true)],.many [.fl iD,.im (iV 71)]):=by kernel_rfl
theorem WD (log:Nat):eU prog (qG prog) (Mj true (aE [(5,.bool false),(8,.bool false)])) f21 40 [.v (.im (iI log))]=some ([aD .lss .i64 (Int.ofNat log) 0=some (.bool false),aD .gtr .i64 (Int.ofNat log) 28=some (.bool false),log≤28],.many [.fl [.q (cJ log)],.im (iV 0)]):=by kernel_rfl
theorem jL {z m:Int}:eD z m=true↔0≤z∧z≤m:=by unfold eD; rw[Bool.and_eq_true,decide_eq_true_eq,decide_eq_true_eq]
theorem vI (z:Int) (args:List Value) (w:World) (ha:cF w [.v (.im (iV z))] args):Good prog 20 (.many (Mi z)) args w∧Good prog 21 (.many (Mi z)) args w:=by
 unfold Mi
 by_cases h:eD z 28=true
 ·rw[if_pos h];obtain⟨h1,h2⟩:=jL.1 h;obtain⟨log,rfl⟩:∃n:Nat,z=Int.ofNat n:=⟨z.toNat,by show z=((z.toNat:Nat):Int); omega⟩
  have h3:log≤28:=by have:(log:Int)≤28:=h2; omega
  rw[show (Int.ofNat log).toNat=log from rfl];exact⟨bW aG (fun _ _=>qD) (aY _) func20 (WI log) ⟨by rw[h]; rfl,by omega,trivial⟩ ha,
   bW aG (fun _ _=>qD) (aY _) func21 (WD log) ⟨by rw[eN,decide_eq_false (by omega)],by rw[kS,decide_eq_false (by omega)],h3,trivial⟩ ha⟩
 ·rw[if_neg h];have h0:eD z 28=false:=by simpa using h
  refine⟨bW aG (fun _ _=>qD) (aY _) func20 (WJ z) ⟨by rw[h0]; rfl,trivial⟩ ha,?_⟩
  by_cases h1:z<0
  ·exact bW aG (fun _ _=>qD) (aY _) func21 (WF z) ⟨by rw[eN,decide_eq_true h1],trivial⟩ ha
  ·have h2:z>28:=by
    rcases Int.lt_or_le 28 z with q|q
    ·exact q
    ·exact absurd (jL.2 ⟨by omega,q⟩) h
   exact bW aG (fun _ _=>qD) (aY _) func21 (WE z) ⟨by rw[eN,decide_eq_false h1],by rw[kS,decide_eq_true h2],trivial⟩ ha
end Go.Proofs.Ytjjnbgoepbiojaa.Ex
