/- Jj09 -/
import Derived.Deep.DeepCutAuto
import Derived.LoopTactic
import Derived.Deep.LoopGhost
import Derived.Outline
import Derived.Test.YtjeplinbleofnaaJj08
import Derived.Test.YtjeplinbleofnaaJj05
import Derived.Test.YtjeplinbleofnaaJj06
import Derived.Test.YtjeplinbleofnaaJj07
import Derived.Test.YtjeplinbleofnaaProg
set_option maxRecDepth 100000
set_option linter.unusedVariables false
set_option linter.unusedSimpArgs false
set_option linter.unnecessarySimpa false
namespace Go.Proofs.Ytjeplinbleofnaa
open Go.Proofs.Try
open Go.RowKit
set_option maxHeartbeats 2000000 in
theorem sX (f:Int) (F:FC) (hf:FieldIs f F) (w:World):Calls prog 96 #[.int .i64 f] w fun e w'=>e=.returned (.agg #[.int .u64 F.s0,.int .u64 F.s1,.int .u64 F.s2,.int .u64 F.s3])∧Below w.heap.size w w':=by
 rcases hf with⟨rfl,rfl⟩|⟨rfl,rfl⟩
 ·go_enter func96,ntmps96
  go_wp2_with fail;refine bodyPost_ret (v:=.agg #[.int .u64 FP.s0,.int .u64 FP.s1,.int .u64 FP.s2,.int .u64 FP.s3]) (by simp[results,results96,go_sem,FP]) rfl ?_;refine⟨rfl,?_⟩
  repeat (first|exact Below.refl _ _|refine Below.drew ?_|refine Below.alloc ?_ (by first|(simp; done)|(simp; omega)) _|refine Below.setCell ?_ (by simp) _)
 ·go_enter func96,ntmps96
  go_wp2_with fail;refine bodyPost_ret (v:=.agg #[.int .u64 FR.s0,.int .u64 FR.s1,.int .u64 FR.s2,.int .u64 FR.s3]) (by simp[results,results96,go_sem,FR]) rfl ?_;refine⟨rfl,?_⟩
  repeat (first|exact Below.refl _ _|refine Below.drew ?_|refine Below.alloc ?_ (by first|(simp; done)|(simp; omega)) _|refine Below.setCell ?_ (by simp) _)
set_option maxHeartbeats 2000000 in
theorem pC (f:Int) (F:FC) (hf:FieldIs f F) (a0 a1 a2 a3 b0 b1 b2 b3:Nat) (ha:bH a0 a1 a2 a3) (hb:bH b0 b1 b2 b3) (w:World) :
  Calls prog 75 #[.int .i64 f,.agg #[.int .u64 a0,.int .u64 a1,.int .u64 a2,.int .u64 a3],.agg #[.int .u64 b0,.int .u64 b1,.int .u64 b2,.int .u64 b3]] w (dK ((aA a0 a1 a2 a3+aA b0 b1 b2 b3)%F.M) w):=by
 have hpos:=hf.ok.pos;have h2M:=hf.ok.two
 go_enter func75,ntmps75
 go_wp2_with fail;have HM:=Lib.hid ((((Mem.nil w).new (w.heap.size) a0 a1 a2 a3 24 (by simp)).new (w.heap.size+1) b0 b1 b2 b3 24 (by simp)).new (w.heap.size+1+1) 0 0 0 0 24 (by simp))
 go_upto_region 1 with fail
 go_cut [7] (fun s7 wx=>∃gb s0 s1 s2 s3:Nat,s7=.pointer (some ⟨gb,0,none⟩)∧bH s0 s1 s2 s3∧Hid (aA s0 s1 s2 s3=aA a0 a1 a2 a3%F.M+aA b0 b1 b2 b3%F.M)∧Hid (Mem w wx [(gb,s0,s1,s2,s3),(w.heap.size+1+1,0,0,0,0)]))
 case first =>
  refine cQ (fun wx=>Mem w wx [(w.heap.size+1+1,0,0,0,0),(w.heap.size+1,b0,b1,b2,b3),(w.heap.size,a0,a1,a2,a3)]) 12 (by kernel_rfl) ?_;have HM':=Lib.hid (HM.out.drewN 1);clear HM;have HM:=HM';clear HM';have HS:=HM.out.sub (rs':=[(w.heap.size+1+1,0,0,0,0),(w.heap.size+1,b0,b1,b2,b3),(w.heap.size,a0,a1,a2,a3)]) (by simp);refine aE (i:=0) (v:=.int .i64 f) rfl (by kernel_rfl) (by kernel_rfl) (by kernel_rfl) (by kernel_rfl) (fun _ _ _ h=>h) HS (Or.inl ⟨by kernel_rfl,fun wx hx => ?_⟩) ?_
  ·clear HS hx;go_simp
  simp only[Act.put,List.setIfInBounds_toArray,List.set_cons_zero,List.set_cons_succ];refine aE (i:=1) (v:=.agg #[.int .u64 a0,.int .u64 a1,.int .u64 a2,.int .u64 a3]) rfl (by kernel_rfl) (by kernel_rfl) (by kernel_rfl) (by kernel_rfl) (fun _ _ _ h=>h) HS (Or.inl ⟨by kernel_rfl,fun wx hx => ?_⟩) ?_
  ·have kr:=hx.row (b:=w.heap.size) (c0:=a0) (c1:=a1) (c2:=a2) (c3:=a3) (by simp);have x0:=kr.c0; have x1:=kr.c1; have x2:=kr.c2; have x3:=kr.c3;clear kr HS hx;go_simp
  simp only[Act.put,List.setIfInBounds_toArray,List.set_cons_zero,List.set_cons_succ];refine aE (i:=3) (v:=.int .i64 f) rfl (by kernel_rfl) (by kernel_rfl) (by kernel_rfl) (by kernel_rfl) (fun _ _ _ h=>h) HS (Or.inl ⟨by kernel_rfl,fun wx hx => ?_⟩) ?_
  ·clear HS hx;go_simp
  simp only[Act.put,List.setIfInBounds_toArray,List.set_cons_zero,List.set_cons_succ];refine aE (i:=4) (v:=.agg #[.int .u64 b0,.int .u64 b1,.int .u64 b2,.int .u64 b3]) rfl (by kernel_rfl) (by kernel_rfl) (by kernel_rfl) (by kernel_rfl) (fun _ _ _ h=>h) HS (Or.inl ⟨by kernel_rfl,fun wx hx => ?_⟩) ?_
  ·have kr:=hx.row (b:=w.heap.size+1) (c0:=b0) (c1:=b1) (c2:=b2) (c3:=b3) (by simp);have x0:=kr.c0; have x1:=kr.c1; have x2:=kr.c2; have x3:=kr.c3;clear kr HS hx;go_simp
  simp only[Act.put,List.setIfInBounds_toArray,List.set_cons_zero,List.set_cons_succ];clear HS;refine fR (i:=2) (j:=10) (by kernel_rfl) rfl rfl (fun K hK => ?_) (fun K hK => ?_)
  ·go_simp;refine (cM f F hf a0 a1 a2 a3 ha _).mono ?_
   rintro e v1 ⟨x0,x1,x2,x3,rfl,hx,hv,hbl⟩
   have HVx:=Lib.hid hv;clear hv;have HM':=Lib.hid (HM.out.on hbl);clear HM hbl;have HM:=HM';clear HM';have HS:=(HM.out.sub (rs':=[(w.heap.size+1+1,0,0,0,0),(w.heap.size+1,b0,b1,b2,b3),(w.heap.size,a0,a1,a2,a3)]) (by simp));refine hK.out _ _ (Or.inr HS) (fun _ => ?_);clear hK K HS;refine fR (i:=5) (j:=10) (by kernel_rfl) rfl rfl (fun K hK => ?_) (fun K hK => ?_)
   ·go_simp;refine (cM f F hf b0 b1 b2 b3 hb _).mono ?_
    rintro e v2 ⟨y0,y1,y2,y3,rfl,hy,hv,hbl⟩
    have HVy:=Lib.hid hv;clear hv;have HM':=Lib.hid (HM.out.on hbl);clear HM hbl;have HM:=HM';clear HM';have HS:=(HM.out.sub (rs':=[(w.heap.size+1+1,0,0,0,0),(w.heap.size+1,b0,b1,b2,b3),(w.heap.size,a0,a1,a2,a3)]) (by simp));refine hK.out _ _ (Or.inr HS) (fun _ => ?_);clear hK K HS;refine fR (i:=6) (j:=10) (by kernel_rfl) rfl rfl (fun K hK => ?_) (fun K hK => ?_)
    ·go_simp;refine (eS x0 x1 x2 x3 y0 y1 y2 y3 hx hy _).mono ?_
     rintro e v3 ⟨s0,s1,s2,s3,cc,rfl,hs,hcc,hv,hbl⟩
     have HVs:=Lib.hid (show aA s0 s1 s2 s3=aA a0 a1 a2 a3%F.M+aA b0 b1 b2 b3%F.M by have:=Nat.mod_lt (aA a0 a1 a2 a3) hpos; have:=Nat.mod_lt (aA b0 b1 b2 b3) hpos; rw[HVx.out,HVy.out]at hv; omega);clear hv;have HM':=Lib.hid (HM.out.on hbl);clear HM hbl;have HM:=HM';clear HM';have HS:=(HM.out.sub (rs':=[(w.heap.size+1+1,0,0,0,0),(w.heap.size+1,b0,b1,b2,b3),(w.heap.size,a0,a1,a2,a3)]) (by simp));refine hK.out _ _ (Or.inr HS) (fun _ => ?_);clear hK K HS;have HS:=HM.out.sub (rs':=[(w.heap.size+1+1,0,0,0,0),(w.heap.size+1,b0,b1,b2,b3),(w.heap.size,a0,a1,a2,a3)]) (by simp);refine aE (i:=7) (v:=.tuple #[.agg #[.int .u64 s0,.int .u64 s1,.int .u64 s2,.int .u64 s3],.int .u64 (cc:Nat)]) rfl (by kernel_rfl) (by kernel_rfl) (by kernel_rfl) (by kernel_rfl) (fun _ _ _ h=>h) HS (Or.inl ⟨by kernel_rfl,fun wx hx => ?_⟩) ?_
     ·clear HS hx;go_simp
     simp only[Act.put,List.setIfInBounds_toArray,List.set_cons_zero,List.set_cons_succ];refine aE (i:=8) (v:=.agg #[.int .u64 s0,.int .u64 s1,.int .u64 s2,.int .u64 s3]) rfl (by kernel_rfl) (by kernel_rfl) (by kernel_rfl) (by kernel_rfl) (fun _ _ _ h=>h) HS (Or.inl ⟨by kernel_rfl,fun wx hx => ?_⟩) ?_
     ·clear HS hx;go_simp
     simp only[Act.put,List.setIfInBounds_toArray,List.set_cons_zero,List.set_cons_succ];refine aE (i:=9) (v:=.int .u64 (cc:Nat)) rfl (by kernel_rfl) (by kernel_rfl) (by kernel_rfl) (by kernel_rfl) (fun _ _ _ h=>h) HS (Or.inl ⟨by kernel_rfl,fun wx hx => ?_⟩) ?_
     ·clear HS hx;go_simp
     simp only[Act.put,List.setIfInBounds_toArray,List.set_cons_zero,List.set_cons_succ];clear HS;refine aH (i:=10) (by kernel_rfl) rfl (fun K hK => ?_);go_simp;have HM9:=HM;have HM':=Lib.hid (HM.out.new (v3.heap.size) 0 0 0 0 27 (by first|rfl|(simp; done)));have hga:w.heap.size+1+1<(v3.heap.size):=by first|exact HM.out.lt (b:=w.heap.size+1+1) (c0:=0) (c1:=0) (c2:=0) (c3:=0) (by simp)|simpa using HM.out.lt (b:=w.heap.size+1+1) (c0:=0) (c1:=0) (c2:=0) (c3:=0) (by simp)|(have:=HM.out.lt (b:=w.heap.size+1+1) (c0:=0) (c1:=0) (c2:=0) (c3:=0) (by simp); simp at this ⊢; omega)
     clear HM;have HM:=HM';clear HM';have HS:=(HM.out.sub (rs':=[(w.heap.size+1+1,0,0,0,0),(w.heap.size+1,b0,b1,b2,b3),(w.heap.size,a0,a1,a2,a3)]) (by simp));refine hK.out _ _ (Or.inr HS) (fun _ => ?_);clear hK K HS;have kr:=HM.out.row (b:=(v3.heap.size)) (c0:=0) (c1:=0) (c2:=0) (c3:=0) (by simp);have yl:=HM.out.lt (b:=(v3.heap.size)) (c0:=0) (c1:=0) (c2:=0) (c3:=0) (by simp);have y0:=kr.c0; have y1:=kr.c1; have y2:=kr.c2; have y3:=kr.c3; have yf:=kr.fr;clear kr;refine aH (i:=11) (by kernel_rfl) rfl (fun K hK => ?_);go_simp;have HM':=Lib.hid (HM9.out.new (v3.heap.size) s0 s1 s2 s3 27 (by first|rfl|(simp; done)));clear HM;have HM:=HM';clear HM';have HS:=(HM.out.sub (rs':=[(w.heap.size+1+1,0,0,0,0),(w.heap.size+1,b0,b1,b2,b3),(w.heap.size,a0,a1,a2,a3)]) (by simp));refine hK.out _ _ (Or.inr HS) (fun _ => ?_);clear hK K HS;refine aH (i:=12) (by kernel_rfl) rfl (fun K hK => ?_);go_simp;refine hK.out _ _ (Or.inl rfl) (fun _ => ?_);clear hK K;refine bR (by kernel_rfl) ?_;go_wp2_with fail
     go_meet
     exact⟨(v3.heap.size),s0,s1,s2,s3,rfl,hs,HVs,Lib.hid (HM.out.sub (by simp))⟩
    ·go_simp;have HM9:=HM;have HM':=Lib.hid (HM.out.new (v2.heap.size) 0 0 0 0 27 (by first|rfl|(simp; done)));have hga:w.heap.size+1+1<(v2.heap.size):=by first|exact HM.out.lt (b:=w.heap.size+1+1) (c0:=0) (c1:=0) (c2:=0) (c3:=0) (by simp)|simpa using HM.out.lt (b:=w.heap.size+1+1) (c0:=0) (c1:=0) (c2:=0) (c3:=0) (by simp)|(have:=HM.out.lt (b:=w.heap.size+1+1) (c0:=0) (c1:=0) (c2:=0) (c3:=0) (by simp); simp at this ⊢; omega)
     clear HM;have HM:=HM';clear HM';have HS:=(HM.out.sub (rs':=[(w.heap.size+1+1,0,0,0,0),(w.heap.size+1,b0,b1,b2,b3),(w.heap.size,a0,a1,a2,a3)]) (by simp));refine hK.out _ _ (Or.inr HS) (fun _ => ?_);clear hK K HS;refine aH (i:=6) (by kernel_rfl) rfl (fun K hK => ?_);go_simp;refine (eS x0 x1 x2 x3 y0 y1 y2 y3 hx hy _).mono ?_
     rintro e v3 ⟨s0,s1,s2,s3,cc,rfl,hs,hcc,hv,hbl⟩
     have HVs:=Lib.hid (show aA s0 s1 s2 s3=aA a0 a1 a2 a3%F.M+aA b0 b1 b2 b3%F.M by have:=Nat.mod_lt (aA a0 a1 a2 a3) hpos; have:=Nat.mod_lt (aA b0 b1 b2 b3) hpos; rw[HVx.out,HVy.out]at hv; omega);clear hv;have HM':=Lib.hid (HM.out.on hbl);clear HM hbl;have HM:=HM';clear HM';have HS:=(HM.out.sub (rs':=[(w.heap.size+1+1,0,0,0,0),(w.heap.size+1,b0,b1,b2,b3),(w.heap.size,a0,a1,a2,a3)]) (by simp));refine hK.out _ _ (Or.inr HS) (fun _ => ?_);clear hK K HS;have HS:=HM.out.sub (rs':=[(w.heap.size+1+1,0,0,0,0),(w.heap.size+1,b0,b1,b2,b3),(w.heap.size,a0,a1,a2,a3)]) (by simp);refine aE (i:=7) (v:=.tuple #[.agg #[.int .u64 s0,.int .u64 s1,.int .u64 s2,.int .u64 s3],.int .u64 (cc:Nat)]) rfl (by kernel_rfl) (by kernel_rfl) (by kernel_rfl) (by kernel_rfl) (fun _ _ _ h=>h) HS (Or.inl ⟨by kernel_rfl,fun wx hx => ?_⟩) ?_
     ·clear HS hx;go_simp
     simp only[Act.put,List.setIfInBounds_toArray,List.set_cons_zero,List.set_cons_succ];refine aE (i:=8) (v:=.agg #[.int .u64 s0,.int .u64 s1,.int .u64 s2,.int .u64 s3]) rfl (by kernel_rfl) (by kernel_rfl) (by kernel_rfl) (by kernel_rfl) (fun _ _ _ h=>h) HS (Or.inl ⟨by kernel_rfl,fun wx hx => ?_⟩) ?_
     ·clear HS hx;go_simp
     simp only[Act.put,List.setIfInBounds_toArray,List.set_cons_zero,List.set_cons_succ];refine aE (i:=9) (v:=.int .u64 (cc:Nat)) rfl (by kernel_rfl) (by kernel_rfl) (by kernel_rfl) (by kernel_rfl) (fun _ _ _ h=>h) HS (Or.inl ⟨by kernel_rfl,fun wx hx => ?_⟩) ?_
     ·clear HS hx;go_simp
     simp only[Act.put,List.setIfInBounds_toArray,List.set_cons_zero,List.set_cons_succ];clear HS;have kr:=HM.out.row (b:=(v2.heap.size)) (c0:=0) (c1:=0) (c2:=0) (c3:=0) (by simp);have yl:=HM.out.lt (b:=(v2.heap.size)) (c0:=0) (c1:=0) (c2:=0) (c3:=0) (by simp);have y0:=kr.c0; have y1:=kr.c1; have y2:=kr.c2; have y3:=kr.c3; have yf:=kr.fr;clear kr;refine aH (i:=11) (by kernel_rfl) rfl (fun K hK => ?_);go_simp;have HM':=Lib.hid (HM.out.put s0 s1 s2 s3 (by omega) (by intro r hr; simp at hr; rcases hr with rfl|rfl|rfl<;>simp<;>omega));clear HM;have HM:=HM';clear HM';have HS:=(HM.out.sub (rs':=[(w.heap.size+1+1,0,0,0,0),(w.heap.size+1,b0,b1,b2,b3),(w.heap.size,a0,a1,a2,a3)]) (by simp));refine hK.out _ _ (Or.inr HS) (fun _ => ?_);clear hK K HS;refine aH (i:=12) (by kernel_rfl) rfl (fun K hK => ?_);go_simp;refine hK.out _ _ (Or.inl rfl) (fun _ => ?_);clear hK K;refine bR (by kernel_rfl) ?_;go_wp2_with fail
     go_meet
     exact⟨(v2.heap.size),s0,s1,s2,s3,rfl,hs,HVs,Lib.hid (HM.out.sub (by simp))⟩
   ·go_simp;have HM9:=HM;have HM':=Lib.hid (HM.out.new (v1.heap.size) 0 0 0 0 27 (by first|rfl|(simp; done)));have hga:w.heap.size+1+1<(v1.heap.size):=by first|exact HM.out.lt (b:=w.heap.size+1+1) (c0:=0) (c1:=0) (c2:=0) (c3:=0) (by simp)|simpa using HM.out.lt (b:=w.heap.size+1+1) (c0:=0) (c1:=0) (c2:=0) (c3:=0) (by simp)|(have:=HM.out.lt (b:=w.heap.size+1+1) (c0:=0) (c1:=0) (c2:=0) (c3:=0) (by simp); simp at this ⊢; omega)
    clear HM;have HM:=HM';clear HM';have HS:=(HM.out.sub (rs':=[(w.heap.size+1+1,0,0,0,0),(w.heap.size+1,b0,b1,b2,b3),(w.heap.size,a0,a1,a2,a3)]) (by simp));refine hK.out _ _ (Or.inr HS) (fun _ => ?_);clear hK K HS;refine aH (i:=5) (by kernel_rfl) rfl (fun K hK => ?_);go_simp;refine (cM f F hf b0 b1 b2 b3 hb _).mono ?_
    rintro e v2 ⟨y0,y1,y2,y3,rfl,hy,hv,hbl⟩
    have HVy:=Lib.hid hv;clear hv;have HM':=Lib.hid (HM.out.on hbl);clear HM hbl;have HM:=HM';clear HM';have HS:=(HM.out.sub (rs':=[(w.heap.size+1+1,0,0,0,0),(w.heap.size+1,b0,b1,b2,b3),(w.heap.size,a0,a1,a2,a3)]) (by simp));refine hK.out _ _ (Or.inr HS) (fun _ => ?_);clear hK K HS;refine aH (i:=6) (by kernel_rfl) rfl (fun K hK => ?_);go_simp;refine (eS x0 x1 x2 x3 y0 y1 y2 y3 hx hy _).mono ?_
    rintro e v3 ⟨s0,s1,s2,s3,cc,rfl,hs,hcc,hv,hbl⟩
    have HVs:=Lib.hid (show aA s0 s1 s2 s3=aA a0 a1 a2 a3%F.M+aA b0 b1 b2 b3%F.M by have:=Nat.mod_lt (aA a0 a1 a2 a3) hpos; have:=Nat.mod_lt (aA b0 b1 b2 b3) hpos; rw[HVx.out,HVy.out]at hv; omega);clear hv;have HM':=Lib.hid (HM.out.on hbl);clear HM hbl;have HM:=HM';clear HM';have HS:=(HM.out.sub (rs':=[(w.heap.size+1+1,0,0,0,0),(w.heap.size+1,b0,b1,b2,b3),(w.heap.size,a0,a1,a2,a3)]) (by simp));refine hK.out _ _ (Or.inr HS) (fun _ => ?_);clear hK K HS;have HS:=HM.out.sub (rs':=[(w.heap.size+1+1,0,0,0,0),(w.heap.size+1,b0,b1,b2,b3),(w.heap.size,a0,a1,a2,a3)]) (by simp);refine aE (i:=7) (v:=.tuple #[.agg #[.int .u64 s0,.int .u64 s1,.int .u64 s2,.int .u64 s3],.int .u64 (cc:Nat)]) rfl (by kernel_rfl) (by kernel_rfl) (by kernel_rfl) (by kernel_rfl) (fun _ _ _ h=>h) HS (Or.inl ⟨by kernel_rfl,fun wx hx => ?_⟩) ?_
    ·clear HS hx;go_simp
    simp only[Act.put,List.setIfInBounds_toArray,List.set_cons_zero,List.set_cons_succ];refine aE (i:=8) (v:=.agg #[.int .u64 s0,.int .u64 s1,.int .u64 s2,.int .u64 s3]) rfl (by kernel_rfl) (by kernel_rfl) (by kernel_rfl) (by kernel_rfl) (fun _ _ _ h=>h) HS (Or.inl ⟨by kernel_rfl,fun wx hx => ?_⟩) ?_
    ·clear HS hx;go_simp
    simp only[Act.put,List.setIfInBounds_toArray,List.set_cons_zero,List.set_cons_succ];refine aE (i:=9) (v:=.int .u64 (cc:Nat)) rfl (by kernel_rfl) (by kernel_rfl) (by kernel_rfl) (by kernel_rfl) (fun _ _ _ h=>h) HS (Or.inl ⟨by kernel_rfl,fun wx hx => ?_⟩) ?_
    ·clear HS hx;go_simp
    simp only[Act.put,List.setIfInBounds_toArray,List.set_cons_zero,List.set_cons_succ];clear HS;have kr:=HM.out.row (b:=(v1.heap.size)) (c0:=0) (c1:=0) (c2:=0) (c3:=0) (by simp);have yl:=HM.out.lt (b:=(v1.heap.size)) (c0:=0) (c1:=0) (c2:=0) (c3:=0) (by simp);have y0:=kr.c0; have y1:=kr.c1; have y2:=kr.c2; have y3:=kr.c3; have yf:=kr.fr;clear kr;refine aH (i:=11) (by kernel_rfl) rfl (fun K hK => ?_);go_simp;have HM':=Lib.hid (HM.out.put s0 s1 s2 s3 (by omega) (by intro r hr; simp at hr; rcases hr with rfl|rfl|rfl<;>simp<;>omega));clear HM;have HM:=HM';clear HM';have HS:=(HM.out.sub (rs':=[(w.heap.size+1+1,0,0,0,0),(w.heap.size+1,b0,b1,b2,b3),(w.heap.size,a0,a1,a2,a3)]) (by simp));refine hK.out _ _ (Or.inr HS) (fun _ => ?_);clear hK K HS;refine aH (i:=12) (by kernel_rfl) rfl (fun K hK => ?_);go_simp;refine hK.out _ _ (Or.inl rfl) (fun _ => ?_);clear hK K;refine bR (by kernel_rfl) ?_;go_wp2_with fail
    go_meet
    exact⟨(v1.heap.size),s0,s1,s2,s3,rfl,hs,HVs,Lib.hid (HM.out.sub (by simp))⟩
  ·go_simp;have HM9:=HM;have HM':=Lib.hid (HM.out.new (w.heap.size+1+1+1) 0 0 0 0 27 (by first|rfl|(simp; done)));have hga:w.heap.size+1+1<(w.heap.size+1+1+1):=by first|exact HM.out.lt (b:=w.heap.size+1+1) (c0:=0) (c1:=0) (c2:=0) (c3:=0) (by simp)|simpa using HM.out.lt (b:=w.heap.size+1+1) (c0:=0) (c1:=0) (c2:=0) (c3:=0) (by simp)|(have:=HM.out.lt (b:=w.heap.size+1+1) (c0:=0) (c1:=0) (c2:=0) (c3:=0) (by simp); simp at this ⊢; omega)
   clear HM;have HM:=HM';clear HM';have HS:=(HM.out.sub (rs':=[(w.heap.size+1+1,0,0,0,0),(w.heap.size+1,b0,b1,b2,b3),(w.heap.size,a0,a1,a2,a3)]) (by simp));refine hK.out _ _ (Or.inr HS) (fun _ => ?_);clear hK K HS;refine aH (i:=2) (by kernel_rfl) rfl (fun K hK => ?_);go_simp;refine (cM f F hf a0 a1 a2 a3 ha _).mono ?_
   rintro e v1 ⟨x0,x1,x2,x3,rfl,hx,hv,hbl⟩
   have HVx:=Lib.hid hv;clear hv;have HM':=Lib.hid (HM.out.on hbl);clear HM hbl;have HM:=HM';clear HM';have HS:=(HM.out.sub (rs':=[(w.heap.size+1+1,0,0,0,0),(w.heap.size+1,b0,b1,b2,b3),(w.heap.size,a0,a1,a2,a3)]) (by simp));refine hK.out _ _ (Or.inr HS) (fun _ => ?_);clear hK K HS;refine aH (i:=5) (by kernel_rfl) rfl (fun K hK => ?_);go_simp;refine (cM f F hf b0 b1 b2 b3 hb _).mono ?_
   rintro e v2 ⟨y0,y1,y2,y3,rfl,hy,hv,hbl⟩
   have HVy:=Lib.hid hv;clear hv;have HM':=Lib.hid (HM.out.on hbl);clear HM hbl;have HM:=HM';clear HM';have HS:=(HM.out.sub (rs':=[(w.heap.size+1+1,0,0,0,0),(w.heap.size+1,b0,b1,b2,b3),(w.heap.size,a0,a1,a2,a3)]) (by simp));refine hK.out _ _ (Or.inr HS) (fun _ => ?_);clear hK K HS;refine aH (i:=6) (by kernel_rfl) rfl (fun K hK => ?_);go_simp;refine (eS x0 x1 x2 x3 y0 y1 y2 y3 hx hy _).mono ?_
   rintro e v3 ⟨s0,s1,s2,s3,cc,rfl,hs,hcc,hv,hbl⟩
   have HVs:=Lib.hid (show aA s0 s1 s2 s3=aA a0 a1 a2 a3%F.M+aA b0 b1 b2 b3%F.M by have:=Nat.mod_lt (aA a0 a1 a2 a3) hpos; have:=Nat.mod_lt (aA b0 b1 b2 b3) hpos; rw[HVx.out,HVy.out]at hv; omega);clear hv;have HM':=Lib.hid (HM.out.on hbl);clear HM hbl;have HM:=HM';clear HM';have HS:=(HM.out.sub (rs':=[(w.heap.size+1+1,0,0,0,0),(w.heap.size+1,b0,b1,b2,b3),(w.heap.size,a0,a1,a2,a3)]) (by simp));refine hK.out _ _ (Or.inr HS) (fun _ => ?_);clear hK K HS;have HS:=HM.out.sub (rs':=[(w.heap.size+1+1,0,0,0,0),(w.heap.size+1,b0,b1,b2,b3),(w.heap.size,a0,a1,a2,a3)]) (by simp);refine aE (i:=7) (v:=.tuple #[.agg #[.int .u64 s0,.int .u64 s1,.int .u64 s2,.int .u64 s3],.int .u64 (cc:Nat)]) rfl (by kernel_rfl) (by kernel_rfl) (by kernel_rfl) (by kernel_rfl) (fun _ _ _ h=>h) HS (Or.inl ⟨by kernel_rfl,fun wx hx => ?_⟩) ?_
   ·clear HS hx;go_simp
   simp only[Act.put,List.setIfInBounds_toArray,List.set_cons_zero,List.set_cons_succ];refine aE (i:=8) (v:=.agg #[.int .u64 s0,.int .u64 s1,.int .u64 s2,.int .u64 s3]) rfl (by kernel_rfl) (by kernel_rfl) (by kernel_rfl) (by kernel_rfl) (fun _ _ _ h=>h) HS (Or.inl ⟨by kernel_rfl,fun wx hx => ?_⟩) ?_
   ·clear HS hx;go_simp
   simp only[Act.put,List.setIfInBounds_toArray,List.set_cons_zero,List.set_cons_succ];refine aE (i:=9) (v:=.int .u64 (cc:Nat)) rfl (by kernel_rfl) (by kernel_rfl) (by kernel_rfl) (by kernel_rfl) (fun _ _ _ h=>h) HS (Or.inl ⟨by kernel_rfl,fun wx hx => ?_⟩) ?_
   ·clear HS hx;go_simp
   simp only[Act.put,List.setIfInBounds_toArray,List.set_cons_zero,List.set_cons_succ];clear HS;have kr:=HM.out.row (b:=(w.heap.size+1+1+1)) (c0:=0) (c1:=0) (c2:=0) (c3:=0) (by simp);have yl:=HM.out.lt (b:=(w.heap.size+1+1+1)) (c0:=0) (c1:=0) (c2:=0) (c3:=0) (by simp);have y0:=kr.c0; have y1:=kr.c1; have y2:=kr.c2; have y3:=kr.c3; have yf:=kr.fr;clear kr;refine aH (i:=11) (by kernel_rfl) rfl (fun K hK => ?_);go_simp;have HM':=Lib.hid (HM.out.put s0 s1 s2 s3 (by omega) (by intro r hr; simp at hr; rcases hr with rfl|rfl|rfl<;>simp<;>omega));clear HM;have HM:=HM';clear HM';have HS:=(HM.out.sub (rs':=[(w.heap.size+1+1,0,0,0,0),(w.heap.size+1,b0,b1,b2,b3),(w.heap.size,a0,a1,a2,a3)]) (by simp));refine hK.out _ _ (Or.inr HS) (fun _ => ?_);clear hK K HS;refine aH (i:=12) (by kernel_rfl) rfl (fun K hK => ?_);go_simp;refine hK.out _ _ (Or.inl rfl) (fun _ => ?_);clear hK K;refine bR (by kernel_rfl) ?_;go_wp2_with fail
   go_meet
   exact⟨(w.heap.size+1+1+1),s0,s1,s2,s3,rfl,hs,HVs,Lib.hid (HM.out.sub (by simp))⟩
 case rest =>
  obtain⟨gb,s0,s1,s2,s3,rfl,hs,HVs,HM'⟩:=hcut;clear HM;have HM:=HM';clear HM';have kr:=HM.out.row (b:=gb) (c0:=s0) (c1:=s1) (c2:=s2) (c3:=s3) (by simp);have x0:=kr.c0; have x1:=kr.c1; have x2:=kr.c2; have x3:=kr.c3;clear kr;have xl:=HM.out.lt (b:=gb) (c0:=s0) (c1:=s1) (c2:=s2) (c3:=s3) (by simp);go_wp2_with fail;refine (cM f F hf s0 s1 s2 s3 hs _).mono ?_
  rintro e w5 ⟨r0,r1,r2,r3,rfl,hr,hv,hbl⟩
  have HVr:=Lib.hid (show aA r0 r1 r2 r3=(aA a0 a1 a2 a3+aA b0 b1 b2 b3)%F.M by rw[hv,HVs.out,←Nat.add_mod]);clear hv;have HM':=Lib.hid (HM.out.on hbl);clear HM hbl;have HM:=HM';clear HM';clear x0 x1 x2 x3 xl;have kr:=HM.out.row (b:=w.heap.size+1+1) (c0:=0) (c1:=0) (c2:=0) (c3:=0) (by simp);have y0:=kr.c0; have y1:=kr.c1; have y2:=kr.c2; have y3:=kr.c3; have yf:=kr.fr;clear kr;have yl:=HM.out.lt (b:=w.heap.size+1+1) (c0:=0) (c1:=0) (c2:=0) (c3:=0) (by simp);go_wp2_with fail;refine bodyPost_ret (v:=.agg #[.int .u64 r0,.int .u64 r1,.int .u64 r2,.int .u64 r3]) (by simp[results,results75,go_sem, *]) rfl ?_;refine⟨_,_,_,_,rfl,hr,HVr.out,?_⟩;exact aV HM.out.1 (by omega) _ _ _ _
set_option maxHeartbeats 2000000 in
theorem yO (f:Int) (F:FC) (hf:FieldIs f F) (a0 a1 a2 a3:Nat) (ha:bH a0 a1 a2 a3) (w:World) :
  Calls prog 93 #[.int .i64 f,.agg #[.int .u64 a0,.int .u64 a1,.int .u64 a2,.int .u64 a3]] w (dK ((F.M-aA a0 a1 a2 a3%F.M)%F.M) w):=by
 have hpos:=hf.ok.pos;have h2M:=hf.ok.two;have hG:=KW
 go_enter func93,ntmps93
 go_wp2_with fail;have HM:=Lib.hid (((Mem.nil w).new (w.heap.size) a0 a1 a2 a3 24 (by simp)).new (w.heap.size+1) 0 0 0 0 24 (by simp));refine (cM f F hf a0 a1 a2 a3 ha _).mono ?_
 rintro e w1 ⟨x0,x1,x2,x3,rfl,hx,hv,hbl⟩
 have HVx:=Lib.hid hv;clear hv;have HM':=Lib.hid (HM.out.on hbl);clear HM hbl;have HM:=HM';clear HM';have hz1:w.heap.size+1<w1.heap.size:=HM.out.lt (b:=w.heap.size+1) (c0:=0) (c1:=0) (c2:=0) (c3:=0) (by simp);have HMo:=HM;have HM':=Lib.hid (HM.out.new w1.heap.size x0 x1 x2 x3 27 rfl);clear HM;have HM:=HM';clear HM'
 by_cases hz:aA a0 a1 a2 a3%F.M=0
 ·have hE:∀w,(Op.equalIn 10000 27 (.agg #[.int .u64 x0,.int .u64 x1,.int .u64 x2,.int .u64 x3]) (.agg #[.int .u64 0,.int .u64 0,.int .u64 0,.int .u64 0])).run prog w=.ok true w:=fun w=>by
   have h:=qB 9998 x0 x1 x2 x3 0 0 0 0 w;rw[(oQ hx WH).2 (HVx.out.trans (hz.trans rfl))]at h;exact h
  have HZ:=Lib.hid hz;clear hz;have kr:=HMo.out.row (b:=w.heap.size+1) (c0:=0) (c1:=0) (c2:=0) (c3:=0) (by simp);have y0:=kr.c0; have y1:=kr.c1; have y2:=kr.c2; have y3:=kr.c3; have yf:=kr.fr;clear kr;go_wp2_with fail;refine bodyPost_ret (v:=.agg #[.int .u64 0,.int .u64 0,.int .u64 0,.int .u64 0]) (by simp[results,results93,go_sem, *]) rfl ?_;refine⟨_,_,_,_,rfl,WH,by rw[HZ.out,Nat.sub_zero,Nat.mod_self]; rfl,?_⟩
  repeat (first|exact HMo.out.1|refine Below.alloc ?_ (by first|(simp; done)|(simp; omega)) _|refine Below.setCell ?_ (by first|(simp; done)|(simp; omega)) _)
 ·have hE:∀w,(Op.equalIn 10000 27 (.agg #[.int .u64 x0,.int .u64 x1,.int .u64 x2,.int .u64 x3]) (.agg #[.int .u64 0,.int .u64 0,.int .u64 0,.int .u64 0])).run prog w=.ok false w:=fun w=>by
   have h:=qB 9998 x0 x1 x2 x3 0 0 0 0 w;rw[sC (fun q=>hz (HVx.out.symm.trans (((oQ hx WH).1 q).trans rfl)))]at h;exact h
  have HZ:=Lib.hid hz;clear hz HMo
  go_upto_region 4 with fail
  go_cut [6] (fun s6 wx=>∃gb s0 s1 s2 s3:Nat,s6=.pointer (some ⟨gb,0,none⟩)∧bH s0 s1 s2 s3∧Hid (aA s0 s1 s2 s3=F.M-aA a0 a1 a2 a3%F.M)∧Hid (Mem w wx [(gb,s0,s1,s2,s3),(w.heap.size+1,0,0,0,0)]))
  case first =>
   refine cQ (fun wx=>Mem w wx [(w1.heap.size,x0,x1,x2,x3),(w.heap.size+1,0,0,0,0),(w.heap.size,a0,a1,a2,a3)]) 9 (by kernel_rfl) ?_;have HM':=Lib.hid (HM.out.drewN 1);clear HM;have HM:=HM';clear HM';have HS:=HM.out.sub (rs':=[(w1.heap.size,x0,x1,x2,x3),(w.heap.size+1,0,0,0,0),(w.heap.size,a0,a1,a2,a3)]) (by simp);refine aE (i:=0) (v:=.int .i64 f) rfl (by kernel_rfl) (by kernel_rfl) (by kernel_rfl) (by kernel_rfl) (fun _ _ _ h=>h) HS (Or.inl ⟨by kernel_rfl,fun wx hx => ?_⟩) ?_
   ·clear HS hx;go_simp
   simp only[Act.put,List.setIfInBounds_toArray,List.set_cons_zero,List.set_cons_succ];refine aE (i:=2) (v:=.agg #[.int .u64 x0,.int .u64 x1,.int .u64 x2,.int .u64 x3]) rfl (by kernel_rfl) (by kernel_rfl) (by kernel_rfl) (by kernel_rfl) (fun _ _ _ h=>h) HS (Or.inl ⟨by kernel_rfl,fun wx hx => ?_⟩) ?_
   ·have kr:=hx.row (b:=w1.heap.size) (c0:=x0) (c1:=x1) (c2:=x2) (c3:=x3) (by simp);have x0:=kr.c0; have x1:=kr.c1; have x2:=kr.c2; have x3:=kr.c3;clear kr HS hx;go_simp
   simp only[Act.put,List.setIfInBounds_toArray,List.set_cons_zero,List.set_cons_succ];clear HS;refine fR (i:=1) (j:=7) (by kernel_rfl) rfl rfl (fun K hK => ?_) (fun K hK => ?_)
   ·go_simp;refine (fN f F hf _).mono ?_
    rintro e v1 ⟨rfl,hbl⟩
    have HM':=Lib.hid (HM.out.on hbl);clear HM hbl;have HM:=HM';clear HM';have HS:=(HM.out.sub (rs':=[(w1.heap.size,x0,x1,x2,x3),(w.heap.size+1,0,0,0,0),(w.heap.size,a0,a1,a2,a3)]) (by simp));refine hK.out _ _ (Or.inr HS) (fun _ => ?_);clear hK K HS;refine fR (i:=3) (j:=7) (by kernel_rfl) rfl rfl (fun K hK => ?_) (fun K hK => ?_)
    ·go_simp;refine (dL F.m0 F.m1 F.m2 F.m3 x0 x1 x2 x3 hf.ok.okm hx _).mono ?_
     rintro e v2 ⟨s0,s1,s2,s3,cc,rfl,hs,hcc,hv,hbl⟩
     have HVs:=Lib.hid (show aA s0 s1 s2 s3=F.M-aA a0 a1 a2 a3%F.M by have:=Nat.mod_lt (aA a0 a1 a2 a3) hpos; have:=bW hs; rw[HVx.out,show aA F.m0 F.m1 F.m2 F.m3=F.M from rfl]at hv; omega);clear hv;have HM':=Lib.hid (HM.out.on hbl);clear HM hbl;have HM:=HM';clear HM';have HS:=(HM.out.sub (rs':=[(w1.heap.size,x0,x1,x2,x3),(w.heap.size+1,0,0,0,0),(w.heap.size,a0,a1,a2,a3)]) (by simp));refine hK.out _ _ (Or.inr HS) (fun _ => ?_);clear hK K HS;have HS:=HM.out.sub (rs':=[(w1.heap.size,x0,x1,x2,x3),(w.heap.size+1,0,0,0,0),(w.heap.size,a0,a1,a2,a3)]) (by simp);refine aE (i:=4) (v:=.tuple #[.agg #[.int .u64 s0,.int .u64 s1,.int .u64 s2,.int .u64 s3],.int .u64 (cc:Nat)]) rfl (by kernel_rfl) (by kernel_rfl) (by kernel_rfl) (by kernel_rfl) (fun _ _ _ h=>h) HS (Or.inl ⟨by kernel_rfl,fun wx hx => ?_⟩) ?_
     ·clear HS hx;go_simp
     simp only[Act.put,List.setIfInBounds_toArray,List.set_cons_zero,List.set_cons_succ];refine aE (i:=5) (v:=.agg #[.int .u64 s0,.int .u64 s1,.int .u64 s2,.int .u64 s3]) rfl (by kernel_rfl) (by kernel_rfl) (by kernel_rfl) (by kernel_rfl) (fun _ _ _ h=>h) HS (Or.inl ⟨by kernel_rfl,fun wx hx => ?_⟩) ?_
     ·clear HS hx;go_simp
     simp only[Act.put,List.setIfInBounds_toArray,List.set_cons_zero,List.set_cons_succ];refine aE (i:=6) (v:=.int .u64 (cc:Nat)) rfl (by kernel_rfl) (by kernel_rfl) (by kernel_rfl) (by kernel_rfl) (fun _ _ _ h=>h) HS (Or.inl ⟨by kernel_rfl,fun wx hx => ?_⟩) ?_
     ·clear HS hx;go_simp
     simp only[Act.put,List.setIfInBounds_toArray,List.set_cons_zero,List.set_cons_succ];clear HS;refine aH (i:=7) (by kernel_rfl) rfl (fun K hK => ?_);go_simp;have HM9:=HM;have HM':=Lib.hid (HM.out.new (v2.heap.size) 0 0 0 0 27 (by first|rfl|(simp; done)));have hga:w1.heap.size<(v2.heap.size):=by first|exact HM.out.lt (b:=w1.heap.size) (c0:=x0) (c1:=x1) (c2:=x2) (c3:=x3) (by simp)|simpa using HM.out.lt (b:=w1.heap.size) (c0:=x0) (c1:=x1) (c2:=x2) (c3:=x3) (by simp)|(have:=HM.out.lt (b:=w1.heap.size) (c0:=x0) (c1:=x1) (c2:=x2) (c3:=x3) (by simp); simp at this ⊢; omega)
     clear HM;have HM:=HM';clear HM';have HS:=(HM.out.sub (rs':=[(w1.heap.size,x0,x1,x2,x3),(w.heap.size+1,0,0,0,0),(w.heap.size,a0,a1,a2,a3)]) (by simp));refine hK.out _ _ (Or.inr HS) (fun _ => ?_);clear hK K HS;have kr:=HM.out.row (b:=(v2.heap.size)) (c0:=0) (c1:=0) (c2:=0) (c3:=0) (by simp);have yl:=HM.out.lt (b:=(v2.heap.size)) (c0:=0) (c1:=0) (c2:=0) (c3:=0) (by simp);have y0:=kr.c0; have y1:=kr.c1; have y2:=kr.c2; have y3:=kr.c3; have yf:=kr.fr;clear kr;refine aH (i:=8) (by kernel_rfl) rfl (fun K hK => ?_);go_simp;have HM':=Lib.hid (HM9.out.new (v2.heap.size) s0 s1 s2 s3 27 (by first|rfl|(simp; done)));clear HM;have HM:=HM';clear HM';have HS:=(HM.out.sub (rs':=[(w1.heap.size,x0,x1,x2,x3),(w.heap.size+1,0,0,0,0),(w.heap.size,a0,a1,a2,a3)]) (by simp));refine hK.out _ _ (Or.inr HS) (fun _ => ?_);clear hK K HS;refine aH (i:=9) (by kernel_rfl) rfl (fun K hK => ?_);go_simp;refine hK.out _ _ (Or.inl rfl) (fun _ => ?_);clear hK K;refine bR (by kernel_rfl) ?_;go_wp2_with fail
     go_meet
     exact⟨(v2.heap.size),s0,s1,s2,s3,rfl,hs,HVs,Lib.hid (HM.out.sub (by simp))⟩
    ·go_simp;have HM9:=HM;have HM':=Lib.hid (HM.out.new (v1.heap.size) 0 0 0 0 27 (by first|rfl|(simp; done)));have hga:w1.heap.size<(v1.heap.size):=by first|exact HM.out.lt (b:=w1.heap.size) (c0:=x0) (c1:=x1) (c2:=x2) (c3:=x3) (by simp)|simpa using HM.out.lt (b:=w1.heap.size) (c0:=x0) (c1:=x1) (c2:=x2) (c3:=x3) (by simp)|(have:=HM.out.lt (b:=w1.heap.size) (c0:=x0) (c1:=x1) (c2:=x2) (c3:=x3) (by simp); simp at this ⊢; omega)
     clear HM;have HM:=HM';clear HM';have HS:=(HM.out.sub (rs':=[(w1.heap.size,x0,x1,x2,x3),(w.heap.size+1,0,0,0,0),(w.heap.size,a0,a1,a2,a3)]) (by simp));refine hK.out _ _ (Or.inr HS) (fun _ => ?_);clear hK K HS;refine aH (i:=3) (by kernel_rfl) rfl (fun K hK => ?_);go_simp;refine (dL F.m0 F.m1 F.m2 F.m3 x0 x1 x2 x3 hf.ok.okm hx _).mono ?_
     rintro e v2 ⟨s0,s1,s2,s3,cc,rfl,hs,hcc,hv,hbl⟩
     have HVs:=Lib.hid (show aA s0 s1 s2 s3=F.M-aA a0 a1 a2 a3%F.M by have:=Nat.mod_lt (aA a0 a1 a2 a3) hpos; have:=bW hs; rw[HVx.out,show aA F.m0 F.m1 F.m2 F.m3=F.M from rfl]at hv; omega);clear hv;have HM':=Lib.hid (HM.out.on hbl);clear HM hbl;have HM:=HM';clear HM';have HS:=(HM.out.sub (rs':=[(w1.heap.size,x0,x1,x2,x3),(w.heap.size+1,0,0,0,0),(w.heap.size,a0,a1,a2,a3)]) (by simp));refine hK.out _ _ (Or.inr HS) (fun _ => ?_);clear hK K HS;have HS:=HM.out.sub (rs':=[(w1.heap.size,x0,x1,x2,x3),(w.heap.size+1,0,0,0,0),(w.heap.size,a0,a1,a2,a3)]) (by simp);refine aE (i:=4) (v:=.tuple #[.agg #[.int .u64 s0,.int .u64 s1,.int .u64 s2,.int .u64 s3],.int .u64 (cc:Nat)]) rfl (by kernel_rfl) (by kernel_rfl) (by kernel_rfl) (by kernel_rfl) (fun _ _ _ h=>h) HS (Or.inl ⟨by kernel_rfl,fun wx hx => ?_⟩) ?_
     ·clear HS hx;go_simp
     simp only[Act.put,List.setIfInBounds_toArray,List.set_cons_zero,List.set_cons_succ];refine aE (i:=5) (v:=.agg #[.int .u64 s0,.int .u64 s1,.int .u64 s2,.int .u64 s3]) rfl (by kernel_rfl) (by kernel_rfl) (by kernel_rfl) (by kernel_rfl) (fun _ _ _ h=>h) HS (Or.inl ⟨by kernel_rfl,fun wx hx => ?_⟩) ?_
     ·clear HS hx;go_simp
     simp only[Act.put,List.setIfInBounds_toArray,List.set_cons_zero,List.set_cons_succ];refine aE (i:=6) (v:=.int .u64 (cc:Nat)) rfl (by kernel_rfl) (by kernel_rfl) (by kernel_rfl) (by kernel_rfl) (fun _ _ _ h=>h) HS (Or.inl ⟨by kernel_rfl,fun wx hx => ?_⟩) ?_
     ·clear HS hx;go_simp
     simp only[Act.put,List.setIfInBounds_toArray,List.set_cons_zero,List.set_cons_succ];clear HS;have kr:=HM.out.row (b:=(v1.heap.size)) (c0:=0) (c1:=0) (c2:=0) (c3:=0) (by simp);have yl:=HM.out.lt (b:=(v1.heap.size)) (c0:=0) (c1:=0) (c2:=0) (c3:=0) (by simp);have y0:=kr.c0; have y1:=kr.c1; have y2:=kr.c2; have y3:=kr.c3; have yf:=kr.fr;clear kr;refine aH (i:=8) (by kernel_rfl) rfl (fun K hK => ?_);go_simp;have HM':=Lib.hid (HM.out.put s0 s1 s2 s3 (by omega) (by intro r hr; simp at hr; rcases hr with rfl|rfl|rfl<;>simp<;>omega));clear HM;have HM:=HM';clear HM';have HS:=(HM.out.sub (rs':=[(w1.heap.size,x0,x1,x2,x3),(w.heap.size+1,0,0,0,0),(w.heap.size,a0,a1,a2,a3)]) (by simp));refine hK.out _ _ (Or.inr HS) (fun _ => ?_);clear hK K HS;refine aH (i:=9) (by kernel_rfl) rfl (fun K hK => ?_);go_simp;refine hK.out _ _ (Or.inl rfl) (fun _ => ?_);clear hK K;refine bR (by kernel_rfl) ?_;go_wp2_with fail
     go_meet
     exact⟨(v1.heap.size),s0,s1,s2,s3,rfl,hs,HVs,Lib.hid (HM.out.sub (by simp))⟩
   ·go_simp;have HM9:=HM;have HM':=Lib.hid (HM.out.new (w1.heap.size+1) 0 0 0 0 27 (by first|rfl|(simp; done)));have hga:w1.heap.size<(w1.heap.size+1):=by first|exact HM.out.lt (b:=w1.heap.size) (c0:=x0) (c1:=x1) (c2:=x2) (c3:=x3) (by simp)|simpa using HM.out.lt (b:=w1.heap.size) (c0:=x0) (c1:=x1) (c2:=x2) (c3:=x3) (by simp)|(have:=HM.out.lt (b:=w1.heap.size) (c0:=x0) (c1:=x1) (c2:=x2) (c3:=x3) (by simp); simp at this ⊢; omega)
    clear HM;have HM:=HM';clear HM';have HS:=(HM.out.sub (rs':=[(w1.heap.size,x0,x1,x2,x3),(w.heap.size+1,0,0,0,0),(w.heap.size,a0,a1,a2,a3)]) (by simp));refine hK.out _ _ (Or.inr HS) (fun _ => ?_);clear hK K HS;refine aH (i:=1) (by kernel_rfl) rfl (fun K hK => ?_);go_simp;refine (fN f F hf _).mono ?_
    rintro e v1 ⟨rfl,hbl⟩
    have HM':=Lib.hid (HM.out.on hbl);clear HM hbl;have HM:=HM';clear HM';have HS:=(HM.out.sub (rs':=[(w1.heap.size,x0,x1,x2,x3),(w.heap.size+1,0,0,0,0),(w.heap.size,a0,a1,a2,a3)]) (by simp));refine hK.out _ _ (Or.inr HS) (fun _ => ?_);clear hK K HS;refine aH (i:=3) (by kernel_rfl) rfl (fun K hK => ?_);go_simp;refine (dL F.m0 F.m1 F.m2 F.m3 x0 x1 x2 x3 hf.ok.okm hx _).mono ?_
    rintro e v2 ⟨s0,s1,s2,s3,cc,rfl,hs,hcc,hv,hbl⟩
    have HVs:=Lib.hid (show aA s0 s1 s2 s3=F.M-aA a0 a1 a2 a3%F.M by have:=Nat.mod_lt (aA a0 a1 a2 a3) hpos; have:=bW hs; rw[HVx.out,show aA F.m0 F.m1 F.m2 F.m3=F.M from rfl]at hv; omega);clear hv;have HM':=Lib.hid (HM.out.on hbl);clear HM hbl;have HM:=HM';clear HM';have HS:=(HM.out.sub (rs':=[(w1.heap.size,x0,x1,x2,x3),(w.heap.size+1,0,0,0,0),(w.heap.size,a0,a1,a2,a3)]) (by simp));refine hK.out _ _ (Or.inr HS) (fun _ => ?_);clear hK K HS;have HS:=HM.out.sub (rs':=[(w1.heap.size,x0,x1,x2,x3),(w.heap.size+1,0,0,0,0),(w.heap.size,a0,a1,a2,a3)]) (by simp);refine aE (i:=4) (v:=.tuple #[.agg #[.int .u64 s0,.int .u64 s1,.int .u64 s2,.int .u64 s3],.int .u64 (cc:Nat)]) rfl (by kernel_rfl) (by kernel_rfl) (by kernel_rfl) (by kernel_rfl) (fun _ _ _ h=>h) HS (Or.inl ⟨by kernel_rfl,fun wx hx => ?_⟩) ?_
    ·clear HS hx;go_simp
    simp only[Act.put,List.setIfInBounds_toArray,List.set_cons_zero,List.set_cons_succ];refine aE (i:=5) (v:=.agg #[.int .u64 s0,.int .u64 s1,.int .u64 s2,.int .u64 s3]) rfl (by kernel_rfl) (by kernel_rfl) (by kernel_rfl) (by kernel_rfl) (fun _ _ _ h=>h) HS (Or.inl ⟨by kernel_rfl,fun wx hx => ?_⟩) ?_
    ·clear HS hx;go_simp
    simp only[Act.put,List.setIfInBounds_toArray,List.set_cons_zero,List.set_cons_succ];refine aE (i:=6) (v:=.int .u64 (cc:Nat)) rfl (by kernel_rfl) (by kernel_rfl) (by kernel_rfl) (by kernel_rfl) (fun _ _ _ h=>h) HS (Or.inl ⟨by kernel_rfl,fun wx hx => ?_⟩) ?_
    ·clear HS hx;go_simp
    simp only[Act.put,List.setIfInBounds_toArray,List.set_cons_zero,List.set_cons_succ];clear HS;have kr:=HM.out.row (b:=(w1.heap.size+1)) (c0:=0) (c1:=0) (c2:=0) (c3:=0) (by simp);have yl:=HM.out.lt (b:=(w1.heap.size+1)) (c0:=0) (c1:=0) (c2:=0) (c3:=0) (by simp);have y0:=kr.c0; have y1:=kr.c1; have y2:=kr.c2; have y3:=kr.c3; have yf:=kr.fr;clear kr;refine aH (i:=8) (by kernel_rfl) rfl (fun K hK => ?_);go_simp;have HM':=Lib.hid (HM.out.put s0 s1 s2 s3 (by omega) (by intro r hr; simp at hr; rcases hr with rfl|rfl|rfl<;>simp<;>omega));clear HM;have HM:=HM';clear HM';have HS:=(HM.out.sub (rs':=[(w1.heap.size,x0,x1,x2,x3),(w.heap.size+1,0,0,0,0),(w.heap.size,a0,a1,a2,a3)]) (by simp));refine hK.out _ _ (Or.inr HS) (fun _ => ?_);clear hK K HS;refine aH (i:=9) (by kernel_rfl) rfl (fun K hK => ?_);go_simp;refine hK.out _ _ (Or.inl rfl) (fun _ => ?_);clear hK K;refine bR (by kernel_rfl) ?_;go_wp2_with fail
    go_meet
    exact⟨(w1.heap.size+1),s0,s1,s2,s3,rfl,hs,HVs,Lib.hid (HM.out.sub (by simp))⟩
  case rest =>
   obtain⟨gb,s0,s1,s2,s3,rfl,hs,HVs,HM'⟩:=hcut;clear HM;have HM:=HM';clear HM';have kr:=HM.out.row (b:=gb) (c0:=s0) (c1:=s1) (c2:=s2) (c3:=s3) (by simp);have x0:=kr.c0; have x1:=kr.c1; have x2:=kr.c2; have x3:=kr.c3;clear kr;have xl:=HM.out.lt (b:=gb) (c0:=s0) (c1:=s1) (c2:=s2) (c3:=s3) (by simp);have kr:=HM.out.row (b:=w.heap.size+1) (c0:=0) (c1:=0) (c2:=0) (c3:=0) (by simp);have y0:=kr.c0; have y1:=kr.c1; have y2:=kr.c2; have y3:=kr.c3; have yf:=kr.fr;clear kr;have yl:=HM.out.lt (b:=w.heap.size+1) (c0:=0) (c1:=0) (c2:=0) (c3:=0) (by simp);go_wp2_with fail;refine bodyPost_ret (v:=.agg #[.int .u64 s0,.int .u64 s1,.int .u64 s2,.int .u64 s3]) (by simp[results,results93,go_sem, *]) rfl ?_;refine⟨_,_,_,_,rfl,hs,by rw[HVs.out,Nat.mod_eq_of_lt (Nat.sub_lt hpos (Nat.pos_of_ne_zero HZ.out))],?_⟩;exact aV HM.out.1 (by omega) _ _ _ _
set_option maxHeartbeats 2000000 in
theorem yM (f:Int) (F:FC) (hf:FieldIs f F) (a0 a1 a2 a3 b0 b1 b2 b3:Nat) (ha:bH a0 a1 a2 a3) (hb:bH b0 b1 b2 b3) (w:World) :
  Calls prog 66 #[.int .i64 f,.agg #[.int .u64 a0,.int .u64 a1,.int .u64 a2,.int .u64 a3],.agg #[.int .u64 b0,.int .u64 b1,.int .u64 b2,.int .u64 b3]] w (dK ((aA a0 a1 a2 a3+(F.M-aA b0 b1 b2 b3%F.M))%F.M) w):=by
 go_enter func66,ntmps66
 go_wp2_with fail;have HM:=Lib.hid ((((Mem.nil w).new (w.heap.size) a0 a1 a2 a3 24 (by simp)).new (w.heap.size+1) b0 b1 b2 b3 24 (by simp)).new (w.heap.size+1+1) 0 0 0 0 24 (by simp));refine cQ (fun wx=>Mem w wx [(w.heap.size+1,b0,b1,b2,b3),(w.heap.size,a0,a1,a2,a3)]) 6 (by kernel_rfl) ?_;have HM':=Lib.hid (HM.out.drewN 1);clear HM;have HM:=HM';clear HM';have HS:=HM.out.sub (rs':=[(w.heap.size+1,b0,b1,b2,b3),(w.heap.size,a0,a1,a2,a3)]) (by simp);refine aE (i:=0) (v:=.int .i64 f) rfl (by kernel_rfl) (by kernel_rfl) (by kernel_rfl) (by kernel_rfl) (fun _ _ _ h=>h) HS (Or.inl ⟨by kernel_rfl,fun wx hx => ?_⟩) ?_
 ·clear HS hx;go_simp
 simp only[Act.put,List.setIfInBounds_toArray,List.set_cons_zero,List.set_cons_succ];refine aE (i:=1) (v:=.agg #[.int .u64 a0,.int .u64 a1,.int .u64 a2,.int .u64 a3]) rfl (by kernel_rfl) (by kernel_rfl) (by kernel_rfl) (by kernel_rfl) (fun _ _ _ h=>h) HS (Or.inl ⟨by kernel_rfl,fun wx hx => ?_⟩) ?_
 ·have kr:=hx.row (b:=w.heap.size) (c0:=a0) (c1:=a1) (c2:=a2) (c3:=a3) (by simp);have x0:=kr.c0; have x1:=kr.c1; have x2:=kr.c2; have x3:=kr.c3;clear kr HS hx;go_simp
 simp only[Act.put,List.setIfInBounds_toArray,List.set_cons_zero,List.set_cons_succ];refine aE (i:=2) (v:=.int .i64 f) rfl (by kernel_rfl) (by kernel_rfl) (by kernel_rfl) (by kernel_rfl) (fun _ _ _ h=>h) HS (Or.inl ⟨by kernel_rfl,fun wx hx => ?_⟩) ?_
 ·clear HS hx;go_simp
 simp only[Act.put,List.setIfInBounds_toArray,List.set_cons_zero,List.set_cons_succ];refine aE (i:=3) (v:=.agg #[.int .u64 b0,.int .u64 b1,.int .u64 b2,.int .u64 b3]) rfl (by kernel_rfl) (by kernel_rfl) (by kernel_rfl) (by kernel_rfl) (fun _ _ _ h=>h) HS (Or.inl ⟨by kernel_rfl,fun wx hx => ?_⟩) ?_
 ·have kr:=hx.row (b:=w.heap.size+1) (c0:=b0) (c1:=b1) (c2:=b2) (c3:=b3) (by simp);have x0:=kr.c0; have x1:=kr.c1; have x2:=kr.c2; have x3:=kr.c3;clear kr HS hx;go_simp
 simp only[Act.put,List.setIfInBounds_toArray,List.set_cons_zero,List.set_cons_succ];clear HS;refine aH (i:=4) (by kernel_rfl) rfl (fun K hK => ?_);go_simp;refine (yO f F hf b0 b1 b2 b3 hb _).mono ?_
 rintro e w1 ⟨n0,n1,n2,n3,rfl,hn,hv,hbl⟩
 have HVn:=Lib.hid hv;clear hv;have HM':=Lib.hid (HM.out.on hbl);clear HM hbl;have HM:=HM';clear HM';have HS:=HM.out.sub (rs':=[(w.heap.size+1,b0,b1,b2,b3),(w.heap.size,a0,a1,a2,a3)]) (by simp);refine hK.out _ _ (Or.inr HS) (fun _ => ?_);clear hK K;clear HS;refine aH (i:=5) (by kernel_rfl) rfl (fun K hK => ?_);go_simp;refine (pC f F hf a0 a1 a2 a3 n0 n1 n2 n3 ha hn _).mono ?_
 rintro e w2 ⟨s0,s1,s2,s3,rfl,hs,hv,hbl⟩
 have HVs:=Lib.hid (show aA s0 s1 s2 s3=(aA a0 a1 a2 a3+(F.M-aA b0 b1 b2 b3%F.M))%F.M by rw[hv,HVn.out,Nat.add_mod_mod]);clear hv;have HM':=Lib.hid (HM.out.on hbl);clear HM hbl;have HM:=HM';clear HM';have HS:=HM.out.sub (rs':=[(w.heap.size+1,b0,b1,b2,b3),(w.heap.size,a0,a1,a2,a3)]) (by simp);refine hK.out _ _ (Or.inr HS) (fun _ => ?_);clear hK K;clear HS;have kr:=HM.out.row (b:=w.heap.size+1+1) (c0:=0) (c1:=0) (c2:=0) (c3:=0) (by simp);have y0:=kr.c0; have y1:=kr.c1; have y2:=kr.c2; have y3:=kr.c3; have yf:=kr.fr;clear kr;have yl:=HM.out.lt (b:=w.heap.size+1+1) (c0:=0) (c1:=0) (c2:=0) (c3:=0) (by simp);refine aH (i:=6) (by kernel_rfl) rfl (fun K hK => ?_);go_simp;have HM':=Lib.hid ((HM.out.sub (rs':=[(w.heap.size+1+1,0,0,0,0),(w.heap.size+1,b0,b1,b2,b3),(w.heap.size,a0,a1,a2,a3)]) (by simp)).put s0 s1 s2 s3 (by omega) (by intro r hr; simp at hr; rcases hr with rfl|rfl<;>simp<;>omega));clear HM;have HM:=HM';clear HM';refine hK.out _ _ (Or.inl rfl) (fun _ => ?_);clear hK K;refine bR (by kernel_rfl) ?_;go_wp2_with fail;refine bodyPost_ret (v:=.agg #[.int .u64 s0,.int .u64 s1,.int .u64 s2,.int .u64 s3]) (by simp[results,results66,go_sem, *]) rfl ?_;exact⟨_,_,_,_,rfl,hs,HVs.out,HM.out.1⟩
theorem GV {F:FC} (hF:F.Ok) (A B:Nat):A%F.M*(B%F.M)*F.Ri%F.M*aA F.s0 F.s1 F.s2 F.s3*F.Ri%F.M=A*B%F.M:=by
 rw[BP hF];unfold kp;have h:A%F.M*(B%F.M)*F.Ri%F.M*F.R%F.M=A*B*F.R*F.Ri%F.M:=by
  have e:A%F.M*(B%F.M)*F.Ri%F.M*F.R%F.M=A*B*F.Ri*F.R%F.M:=iS ((lH _ _).trans (iS (iS (lH _ _) (lH _ _)) rfl)) rfl;rw[e,Nat.mul_right_comm]
 rw[h,kB hF]
set_option maxHeartbeats 2000000 in
theorem kQ (f:Int) (F:FC) (hf:FieldIs f F) (a0 a1 a2 a3 b0 b1 b2 b3:Nat) (ha:bH a0 a1 a2 a3) (hb:bH b0 b1 b2 b3) (w:World) :
  Calls prog 74 #[.int .i64 f,.agg #[.int .u64 a0,.int .u64 a1,.int .u64 a2,.int .u64 a3],.agg #[.int .u64 b0,.int .u64 b1,.int .u64 b2,.int .u64 b3]] w (dK (aA a0 a1 a2 a3*aA b0 b1 b2 b3%F.M) w):=by
 have hpos:=hf.ok.pos
 go_enter func74,ntmps74
 go_wp2_with fail;have HM:=Lib.hid ((((Mem.nil w).new (w.heap.size) a0 a1 a2 a3 24 (by simp)).new (w.heap.size+1) b0 b1 b2 b3 24 (by simp)).new (w.heap.size+1+1) 0 0 0 0 24 (by simp));refine cQ (fun wx=>Mem w wx [(w.heap.size+1,b0,b1,b2,b3),(w.heap.size,a0,a1,a2,a3)]) 12 (by kernel_rfl) ?_;have HM':=Lib.hid (HM.out.drewN 1);clear HM;have HM:=HM';clear HM';have HS:=HM.out.sub (rs':=[(w.heap.size+1,b0,b1,b2,b3),(w.heap.size,a0,a1,a2,a3)]) (by simp);refine aE (i:=0) (v:=.int .i64 f) rfl (by kernel_rfl) (by kernel_rfl) (by kernel_rfl) (by kernel_rfl) (fun _ _ _ h=>h) HS (Or.inl ⟨by kernel_rfl,fun wx hx => ?_⟩) ?_
 ·clear HS hx;go_simp
 simp only[Act.put,List.setIfInBounds_toArray,List.set_cons_zero,List.set_cons_succ];refine aE (i:=1) (v:=.int .i64 f) rfl (by kernel_rfl) (by kernel_rfl) (by kernel_rfl) (by kernel_rfl) (fun _ _ _ h=>h) HS (Or.inl ⟨by kernel_rfl,fun wx hx => ?_⟩) ?_
 ·clear HS hx;go_simp
 simp only[Act.put,List.setIfInBounds_toArray,List.set_cons_zero,List.set_cons_succ];refine aE (i:=2) (v:=.int .i64 f) rfl (by kernel_rfl) (by kernel_rfl) (by kernel_rfl) (by kernel_rfl) (fun _ _ _ h=>h) HS (Or.inl ⟨by kernel_rfl,fun wx hx => ?_⟩) ?_
 ·clear HS hx;go_simp
 simp only[Act.put,List.setIfInBounds_toArray,List.set_cons_zero,List.set_cons_succ];refine aE (i:=3) (v:=.agg #[.int .u64 a0,.int .u64 a1,.int .u64 a2,.int .u64 a3]) rfl (by kernel_rfl) (by kernel_rfl) (by kernel_rfl) (by kernel_rfl) (fun _ _ _ h=>h) HS (Or.inl ⟨by kernel_rfl,fun wx hx => ?_⟩) ?_
 ·have kr:=hx.row (b:=w.heap.size) (c0:=a0) (c1:=a1) (c2:=a2) (c3:=a3) (by simp);have x0:=kr.c0; have x1:=kr.c1; have x2:=kr.c2; have x3:=kr.c3;clear kr HS hx;go_simp
 simp only[Act.put,List.setIfInBounds_toArray,List.set_cons_zero,List.set_cons_succ];refine aE (i:=5) (v:=.int .i64 f) rfl (by kernel_rfl) (by kernel_rfl) (by kernel_rfl) (by kernel_rfl) (fun _ _ _ h=>h) HS (Or.inl ⟨by kernel_rfl,fun wx hx => ?_⟩) ?_
 ·clear HS hx;go_simp
 simp only[Act.put,List.setIfInBounds_toArray,List.set_cons_zero,List.set_cons_succ];refine aE (i:=6) (v:=.agg #[.int .u64 b0,.int .u64 b1,.int .u64 b2,.int .u64 b3]) rfl (by kernel_rfl) (by kernel_rfl) (by kernel_rfl) (by kernel_rfl) (fun _ _ _ h=>h) HS (Or.inl ⟨by kernel_rfl,fun wx hx => ?_⟩) ?_
 ·have kr:=hx.row (b:=w.heap.size+1) (c0:=b0) (c1:=b1) (c2:=b2) (c3:=b3) (by simp);have x0:=kr.c0; have x1:=kr.c1; have x2:=kr.c2; have x3:=kr.c3;clear kr HS hx;go_simp
 simp only[Act.put,List.setIfInBounds_toArray,List.set_cons_zero,List.set_cons_succ];refine aE (i:=9) (v:=.int .i64 f) rfl (by kernel_rfl) (by kernel_rfl) (by kernel_rfl) (by kernel_rfl) (fun _ _ _ h=>h) HS (Or.inl ⟨by kernel_rfl,fun wx hx => ?_⟩) ?_
 ·clear HS hx;go_simp
 simp only[Act.put,List.setIfInBounds_toArray,List.set_cons_zero,List.set_cons_succ];clear HS;refine aH (i:=4) (by kernel_rfl) rfl (fun K hK => ?_);go_simp;refine (cM f F hf a0 a1 a2 a3 ha _).mono ?_
 rintro e w1 ⟨x0,x1,x2,x3,rfl,hx,hv,hbl⟩
 have HVx:=Lib.hid hv;clear hv;have HM':=Lib.hid (HM.out.on hbl);clear HM hbl;have HM:=HM';clear HM';have HS:=HM.out.sub (rs':=[(w.heap.size+1,b0,b1,b2,b3),(w.heap.size,a0,a1,a2,a3)]) (by simp);refine hK.out _ _ (Or.inr HS) (fun _ => ?_);clear hK K;clear HS;refine aH (i:=7) (by kernel_rfl) rfl (fun K hK => ?_);go_simp;refine (cM f F hf b0 b1 b2 b3 hb _).mono ?_
 rintro e w2 ⟨y0,y1,y2,y3,rfl,hy,hv,hbl⟩
 have HVy:=Lib.hid hv;clear hv;have HM':=Lib.hid (HM.out.on hbl);clear HM hbl;have HM:=HM';clear HM';have HS:=HM.out.sub (rs':=[(w.heap.size+1,b0,b1,b2,b3),(w.heap.size,a0,a1,a2,a3)]) (by simp);refine hK.out _ _ (Or.inr HS) (fun _ => ?_);clear hK K;clear HS;refine aH (i:=8) (by kernel_rfl) rfl (fun K hK => ?_);go_simp;refine (pN f F hf x0 x1 x2 x3 y0 y1 y2 y3 hx hy (by rw[HVx.out]; exact Nat.mod_lt _ hpos) _).mono ?_
 rintro e w3 ⟨z0,z1,z2,z3,rfl,hz,hv,hbl⟩
 have HVz:=Lib.hid hv;clear hv;have HM':=Lib.hid (HM.out.on hbl);clear HM hbl;have HM:=HM';clear HM';have HS:=HM.out.sub (rs':=[(w.heap.size+1,b0,b1,b2,b3),(w.heap.size,a0,a1,a2,a3)]) (by simp);refine hK.out _ _ (Or.inr HS) (fun _ => ?_);clear hK K;clear HS;refine aH (i:=10) (by kernel_rfl) rfl (fun K hK => ?_);go_simp;refine (sX f F hf _).mono ?_
 rintro e w4 ⟨rfl,hbl⟩
 have HM':=Lib.hid (HM.out.on hbl);clear HM hbl;have HM:=HM';clear HM';have HS:=HM.out.sub (rs':=[(w.heap.size+1,b0,b1,b2,b3),(w.heap.size,a0,a1,a2,a3)]) (by simp);refine hK.out _ _ (Or.inr HS) (fun _ => ?_);clear hK K;clear HS;refine aH (i:=11) (by kernel_rfl) rfl (fun K hK => ?_);go_simp;refine (pN f F hf z0 z1 z2 z3 F.s0 F.s1 F.s2 F.s3 hz hf.ok.oks (by rw[HVz.out]; exact Nat.mod_lt _ hpos) _).mono ?_
 rintro e w5 ⟨s0,s1,s2,s3,rfl,hs,hv,hbl⟩
 have HVs:=Lib.hid (show aA s0 s1 s2 s3=aA a0 a1 a2 a3*aA b0 b1 b2 b3%F.M by rw[hv,HVz.out,HVx.out,HVy.out]; exact GV hf.ok _ _);clear hv;have HM':=Lib.hid (HM.out.on hbl);clear HM hbl;have HM:=HM';clear HM';have HS:=HM.out.sub (rs':=[(w.heap.size+1,b0,b1,b2,b3),(w.heap.size,a0,a1,a2,a3)]) (by simp);refine hK.out _ _ (Or.inr HS) (fun _ => ?_);clear hK K;clear HS;have kr:=HM.out.row (b:=w.heap.size+1+1) (c0:=0) (c1:=0) (c2:=0) (c3:=0) (by simp);have y0:=kr.c0; have y1:=kr.c1; have y2:=kr.c2; have y3:=kr.c3; have yf:=kr.fr;clear kr;have yl:=HM.out.lt (b:=w.heap.size+1+1) (c0:=0) (c1:=0) (c2:=0) (c3:=0) (by simp);refine aH (i:=12) (by kernel_rfl) rfl (fun K hK => ?_);go_simp;have HM':=Lib.hid ((HM.out.sub (rs':=[(w.heap.size+1+1,0,0,0,0),(w.heap.size+1,b0,b1,b2,b3),(w.heap.size,a0,a1,a2,a3)]) (by simp)).put s0 s1 s2 s3 (by omega) (by intro r hr; simp at hr; rcases hr with rfl|rfl<;>simp<;>omega));clear HM;have HM:=HM';clear HM';refine hK.out _ _ (Or.inl rfl) (fun _ => ?_);clear hK K;refine bR (by kernel_rfl) ?_;go_wp2_with fail;refine bodyPost_ret (v:=.agg #[.int .u64 s0,.int .u64 s1,.int .u64 s2,.int .u64 s3]) (by simp[results,results74,go_sem, *]) rfl ?_;exact⟨_,_,_,_,rfl,hs,HVs.out,HM.out.1⟩
theorem LQ (A M:Nat):decide (cG A M<0)=xU A M:=by
 unfold xU cG
 by_cases q:A=M
 ·rw[if_pos q,decide_eq_false (by omega),decide_eq_false (by omega)]
 ·rw[if_neg q]
  by_cases h:A<M
  ·rw[if_pos h,decide_eq_true (by omega),decide_eq_true (by omega)]
  ·rw[if_neg h,decide_eq_false (by omega),decide_eq_false (by omega)]
set_option maxHeartbeats 2000000 in
theorem tE (f:Int) (F:FC) (hf:FieldIs f F) (a0 a1 a2 a3:Nat) (ha:bH a0 a1 a2 a3) (w:World) :
  Calls prog 40 #[.int .i64 f,.agg #[.int .u64 a0,.int .u64 a1,.int .u64 a2,.int .u64 a3]] w (fun e w'=>e=.returned (.bool (xU (aA a0 a1 a2 a3) F.M))∧Below w.heap.size w w'):=by
 go_enter func40,ntmps40
 go_wp2_with fail;have HM:=Lib.hid ((Mem.nil w).new (w.heap.size) a0 a1 a2 a3 24 (by simp));refine cQ (fun wx=>Mem w wx [(w.heap.size,a0,a1,a2,a3)]) 5 (by kernel_rfl) ?_;have HM':=Lib.hid (HM.out.drewN 1);clear HM;have HM:=HM';clear HM';have HS:=HM.out.sub (rs':=[(w.heap.size,a0,a1,a2,a3)]) (by simp);refine aE (i:=0) (v:=.agg #[.int .u64 a0,.int .u64 a1,.int .u64 a2,.int .u64 a3]) rfl (by kernel_rfl) (by kernel_rfl) (by kernel_rfl) (by kernel_rfl) (fun _ _ _ h=>h) HS (Or.inl ⟨by kernel_rfl,fun wx hx => ?_⟩) ?_
 ·have kr:=hx.row (b:=w.heap.size) (c0:=a0) (c1:=a1) (c2:=a2) (c3:=a3) (by simp);have x0:=kr.c0; have x1:=kr.c1; have x2:=kr.c2; have x3:=kr.c3;clear kr HS hx;go_simp
 simp only[Act.put,List.setIfInBounds_toArray,List.set_cons_zero,List.set_cons_succ];refine aE (i:=1) (v:=.int .i64 f) rfl (by kernel_rfl) (by kernel_rfl) (by kernel_rfl) (by kernel_rfl) (fun _ _ _ h=>h) HS (Or.inl ⟨by kernel_rfl,fun wx hx => ?_⟩) ?_
 ·clear HS hx;go_simp
 simp only[Act.put,List.setIfInBounds_toArray,List.set_cons_zero,List.set_cons_succ];clear HS;refine aH (i:=2) (by kernel_rfl) rfl (fun K hK => ?_);go_simp;refine (fN f F hf _).mono ?_
 rintro e w1 ⟨rfl,hbl⟩
 have HM':=Lib.hid (HM.out.on hbl);clear HM hbl;have HM:=HM';clear HM';have HS:=HM.out.sub (rs':=[(w.heap.size,a0,a1,a2,a3)]) (by simp);refine hK.out _ _ (Or.inr HS) (fun _ => ?_);clear hK K;clear HS;refine aH (i:=3) (by kernel_rfl) rfl (fun K hK => ?_);go_simp;refine (lQ a0 a1 a2 a3 F.m0 F.m1 F.m2 F.m3 ha hf.ok.okm _).mono ?_
 rintro e w2 ⟨he,hbl⟩
 have HC:=Lib.hid (LQ (aA a0 a1 a2 a3) (aA F.m0 F.m1 F.m2 F.m3));generalize cG (aA a0 a1 a2 a3) (aA F.m0 F.m1 F.m2 F.m3)=cc at *;subst he;have HM':=Lib.hid (HM.out.on hbl);clear HM hbl;have HM:=HM';clear HM';have HS:=HM.out.sub (rs':=[(w.heap.size,a0,a1,a2,a3)]) (by simp);refine hK.out _ _ (Or.inr HS) (fun _ => ?_);clear hK K;refine aE (i:=4) (v:=.bool (decide (cc<0))) rfl (by kernel_rfl) (by kernel_rfl) (by kernel_rfl) (by kernel_rfl) (fun _ _ _ h=>h) HS (Or.inl ⟨by kernel_rfl,fun wx hx => ?_⟩) ?_
 ·clear HS hx;go_simp
 simp only[Act.put,List.setIfInBounds_toArray,List.set_cons_zero,List.set_cons_succ];clear HS;refine aH (i:=5) (by kernel_rfl) rfl (fun K hK => ?_);go_simp;refine hK.out _ _ (Or.inl rfl) (fun _ => ?_);clear hK K;refine bR (by kernel_rfl) ?_;go_wp2_with fail;go_ret;exact⟨vL HC.out,HM.out.1⟩
set_option maxRecDepth 20000 in
set_option maxHeartbeats 1000000 in
theorem CY (n:Nat) (w:World):Calls prog 111 #[.int .u64 n] w fun e w'=>e=.returned (.agg #[.int .u64 n,.int .u64 0,.int .u64 0,.int .u64 0])∧Below w.heap.size w w':=by
 go_enter func111,ntmps111
 go_wp2_with fail;refine bodyPost_ret (v:=.agg #[.int .u64 n,.int .u64 0,.int .u64 0,.int .u64 0]) (by simp[results,results111,go_sem]) rfl ?_;refine⟨rfl,?_⟩
 repeat (first|exact Below.refl _ _|refine Below.drew ?_|refine Below.alloc ?_ (by first|(simp; done)|(simp; omega)) _|refine Below.setCell ?_ (by simp) _)
set_option maxRecDepth 20000 in
set_option maxHeartbeats 1000000 in
theorem yS (a0 a1 a2 a3 i:Nat) (ha:bH a0 a1 a2 a3) (hi:i<256) (w:World) :
  Calls prog 112 #[.agg #[.int .u64 a0,.int .u64 a1,.int .u64 a2,.int .u64 a3],.int .i64 i] w (fun e w'=>e=.returned (.bool (decide (bU (aA a0 a1 a2 a3) i=1)))∧Below w.heap.size w w'):=by
 obtain⟨j,k,q,r,hj,hk,e⟩:=BW hi;have hc:=lX w 27 a0 a1 a2 a3 j hj;have hx:=nH ha j;obtain⟨s,e1,e2,hs⟩:=zV hx (uC ha hj hk e.out);have hb:=gD (aA a0 a1 a2 a3) i;generalize bU (aA a0 a1 a2 a3) i=b at *;generalize bV [a0,a1,a2,a3] j=x at *;have hb':b≤1:=by omega
 clear e
 go_enter func112,ntmps112
 rcases hb with rfl|rfl
 ·go_wp2_with fail;go_ret;exact⟨rfl,(Below.refl _ _).alloc (Nat.le_refl _) _⟩
 ·go_wp2_with fail;go_ret;exact⟨rfl,(Below.refl _ _).alloc (Nat.le_refl _) _⟩
theorem XB {M A N i:Nat} (hb:bU N i=0):A^(N/2^(i+1))%M*(A^(N/2^(i+1))%M)%M=A^(N/2^i)%M:=by
 rw[←Nat.mul_mod,←Nat.pow_add,mJ N i,hb];congr 2;omega
theorem XA {M A N i:Nat} (hb:bU N i=1):A^(N/2^(i+1))%M*(A^(N/2^(i+1))%M)%M*A%M=A^(N/2^i)%M:=by
 rw[←Nat.mul_mod,←Nat.pow_add,mJ N i,hb,Nat.mod_mul_mod,←Nat.pow_succ];congr 2;omega
set_option maxHeartbeats 4000000 in
theorem yP (f:Int) (F:FC) (hf:FieldIs f F) (a0 a1 a2 a3 n0 n1 n2 n3:Nat) (ha:bH a0 a1 a2 a3) (hn:bH n0 n1 n2 n3) (w:World) :
  Calls prog 92 #[.int .i64 f,.agg #[.int .u64 a0,.int .u64 a1,.int .u64 a2,.int .u64 a3],.agg #[.int .u64 n0,.int .u64 n1,.int .u64 n2,.int .u64 n3]] w (dK (aA a0 a1 a2 a3^aA n0 n1 n2 n3%F.M) w):=by
 have h2:=hf.ok.gt
 go_enter func92,ntmps92
 go_wp2_with fail;have M0:=((((Mem.nil w).new w.heap.size a0 a1 a2 a3 24 rfl).new (w.heap.size+1) n0 n1 n2 n3 27 (by simp)).new (w.heap.size+1+1) 0 0 0 0 24 (by simp));refine (CY 1 _).mono ?_
 rintro e w1 ⟨rfl,hbl⟩
 have M1:=M0.on hbl;have hz1:w.heap.size+1+1<w1.heap.size:=M1.lt (c0:=0) (c1:=0) (c2:=0) (c3:=0) (by simp);have M2:=Lib.hid (M1.new w1.heap.size 1 0 0 0 24 rfl);clear hbl M0 M1;go_wp2_with fail
 go_loopw [8] (fun t wr=>∃(j r0 r1 r2 r3:Nat) (m:Int),j≤256∧Hid (m=(j:Int)-1)∧t=.int .i64 m∧bH r0 r1 r2 r3∧Hid (aA r0 r1 r2 r3=aA a0 a1 a2 a3^(aA n0 n1 n2 n3/2^j)%F.M)∧Hid (Mem w wr [(w1.heap.size,r0,r1,r2,r3),(w.heap.size+1+1,0,0,0,0),(w.heap.size+1,n0,n1,n2,n3),(w.heap.size,a0,a1,a2,a3)])) (fun t _=>(intOf t+1).toNat)
 case atStart =>
  refine⟨256,1,0,0,0,255,Nat.le_refl _,Lib.hid (by omega),rfl,(show bH 1 0 0 0 by unfold bH; decide),Lib.hid ?_,M2⟩;rw[Nat.div_eq_of_lt (show aA n0 n1 n2 n3<2^256 from bW hn),Nat.pow_zero,Nat.mod_eq_of_lt (by omega)];rfl
 case round =>
  obtain⟨j,r0,r1,r2,r3,m,hj,hm,rfl,hr,HV,HM⟩:=hrel
  by_cases hlt:0<j
  ·obtain⟨i,hi⟩:∃i,j=i+1:=⟨j-1,by omega⟩
   subst hi;obtain rfl:m=(i:Int):=by have:=hm.out; omega
   have Rr:=HM.out.row (b:=w1.heap.size) (c0:=r0) (c1:=r1) (c2:=r2) (c3:=r3) (by simp);have x0:=Rr.c0; have x1:=Rr.c1; have x2:=Rr.c2; have x3:=Rr.c3;have ltr:=HM.out.lt (b:=w1.heap.size) (c0:=r0) (c1:=r1) (c2:=r2) (c3:=r3) (by simp);clear Rr hm;go_wp2_with fail;refine (kQ f F hf r0 r1 r2 r3 r0 r1 r2 r3 hr hr _).mono ?_
   rintro e w3 ⟨p0,p1,p2,p3,rfl,hp,hv,hbl⟩
   have HP:=Lib.hid (show aA p0 p1 p2 p3=_ by rw[hv,HV.out]);have M4:=HM.out.on hbl;have lt4:=M4.lt (b:=w1.heap.size) (c0:=r0) (c1:=r1) (c2:=r2) (c3:=r3) (by simp);have Rr:=M4.row (b:=w1.heap.size) (c0:=r0) (c1:=r1) (c2:=r2) (c3:=r3) (by simp);have Rn:=M4.row (b:=w.heap.size+1) (c0:=n0) (c1:=n1) (c2:=n2) (c3:=n3) (by simp);have M5:=Lib.hid (M4.put p0 p1 p2 p3 (by omega) (by intro r hr; simp at hr; rcases hr with rfl|rfl|rfl<;>simp<;>omega));clear x0 x1 x2 x3 hv hbl M4;have x0:=Rr.c0; have x1:=Rr.c1; have x2:=Rr.c2; have x3:=Rr.c3; have xf:=Rr.fr;have y0:=Rn.c0; have y1:=Rn.c1; have y2:=Rn.c2; have y3:=Rn.c3;have ne1:¬w.heap.size+1=w1.heap.size:=by omega
   have ne1':¬w1.heap.size=w.heap.size+1:=by omega
   have hi256:i<256:=by omega
   clear Rr Rn;go_wp2_with fail;refine (yS n0 n1 n2 n3 i hn hi256 _).mono ?_
   rintro e w4 ⟨he,hbl⟩
   have M5':=M5.out;unfold set4 at M5';have M6:=M5'.on hbl;clear hbl M5' x0 x1 x2 x3 xf y0 y1 y2 y3;have lt6:=M6.lt (b:=w1.heap.size) (c0:=p0) (c1:=p1) (c2:=p2) (c3:=p3) (by simp)
   rcases gD (aA n0 n1 n2 n3) i with hb|hb
   ·rw[hb,show decide (0=1)=false from rfl]at he;subst he;have HS:=Lib.hid (show aA p0 p1 p2 p3=aA a0 a1 a2 a3^(aA n0 n1 n2 n3/2^i)%F.M by rw[HP.out]; exact XB hb);have M7:=Lib.hid M6;clear hb M6;go_wp2_with fail
    go_roundw
    case rel=>exact⟨i,p0,p1,p2,p3,(i:Int)-1,by omega,Lib.hid rfl,by first|rfl|go_num,hp,HS,M7⟩
    case measure=>first|(simp[intOf]; done)|(simp[intOf]; omega)
   ·rw[hb,show decide (1=1)=true from rfl]at he;subst he;have Rr:=M6.row (b:=w1.heap.size) (c0:=p0) (c1:=p1) (c2:=p2) (c3:=p3) (by simp);have Ra:=M6.row (b:=w.heap.size) (c0:=a0) (c1:=a1) (c2:=a2) (c3:=a3) (by simp);have x0:=Rr.c0; have x1:=Rr.c1; have x2:=Rr.c2; have x3:=Rr.c3;have z0:=Ra.c0; have z1:=Ra.c1; have z2:=Ra.c2; have z3:=Ra.c3;have HB:=Lib.hid hb;have M7:=Lib.hid M6;clear hb M6 Rr Ra;go_wp2_with fail;refine (kQ f F hf p0 p1 p2 p3 a0 a1 a2 a3 hp ha _).mono ?_
    rintro e w5 ⟨q0,q1,q2,q3,rfl,hq,hv,hbl⟩
    have HS:=Lib.hid (show aA q0 q1 q2 q3=aA a0 a1 a2 a3^(aA n0 n1 n2 n3/2^i)%F.M by rw[hv,HP.out]; exact XA HB.out);have M8:=M7.out.on hbl;have lt8:=M8.lt (b:=w1.heap.size) (c0:=p0) (c1:=p1) (c2:=p2) (c3:=p3) (by simp);have Rr:=M8.row (b:=w1.heap.size) (c0:=p0) (c1:=p1) (c2:=p2) (c3:=p3) (by simp);have M9:=Lib.hid (M8.put q0 q1 q2 q3 (by omega) (by intro r hr; simp at hr; rcases hr with rfl|rfl|rfl<;>simp<;>omega));clear x0 x1 x2 x3 z0 z1 z2 z3 hv hbl M8;have x0:=Rr.c0; have x1:=Rr.c1; have x2:=Rr.c2; have x3:=Rr.c3; have xf:=Rr.fr;clear Rr;go_wp2_with fail
    go_roundw
    case rel=>exact⟨i,q0,q1,q2,q3,(i:Int)-1,by omega,Lib.hid rfl,by first|rfl|go_num,hq,HS,M9⟩
    case measure=>first|(simp[intOf]; done)|(simp[intOf]; omega)
  ·obtain rfl:j=0:=by omega
   obtain rfl:m = -1:=by have:=hm.out; omega
   have Rr:=HM.out.row (b:=w1.heap.size) (c0:=r0) (c1:=r1) (c2:=r2) (c3:=r3) (by simp);have x0:=Rr.c0; have x1:=Rr.c1; have x2:=Rr.c2; have x3:=Rr.c3;have Ro:=HM.out.row (b:=w.heap.size+1+1) (c0:=0) (c1:=0) (c2:=0) (c3:=0) (by simp);have o0:=Ro.c0; have o1:=Ro.c1; have o2:=Ro.c2; have o3:=Ro.c3; have of:=Ro.fr;have ltr:=HM.out.lt (b:=w1.heap.size) (c0:=r0) (c1:=r1) (c2:=r2) (c3:=r3) (by simp);have lto:=HM.out.lt (b:=w.heap.size+1+1) (c0:=0) (c1:=0) (c2:=0) (c3:=0) (by simp);clear Rr Ro hm;go_wp2_with fail;refine bodyPost_ret (v:=.agg #[.int .u64 r0,.int .u64 r1,.int .u64 r2,.int .u64 r3]) (by simp[results,results92,go_sem, *]) rfl ?_;refine⟨_,_,_,_,rfl,hr,by rw[HV.out,Nat.pow_zero,Nat.div_one],?_⟩;exact aV HM.out.1 (by omega) _ _ _ _
theorem PW {s0 s1 s2 s3:Nat} (hs:bH s0 s1 s2 s3) (h:aA s0 s1 s2 s3≠0) (w:World):(Op.equalIn 10000 27 (.agg #[.int .u64 s0,.int .u64 s1,.int .u64 s2,.int .u64 s3]) (.agg #[.int .u64 0,.int .u64 0,.int .u64 0,.int .u64 0])).run prog w=.ok false w:=by
 have h':=qB 9998 s0 s1 s2 s3 0 0 0 0 w;rw[sC (fun q=>h ((oQ hs WH).1 q))]at h';exact h'
theorem EP:prog.eqGuardType prog.depth 27=false:=by kernel_rfl
set_option maxHeartbeats 2000000 in
theorem vK (f:Int) (F:FC) (hf:FieldIs f F) (a0 a1 a2 a3:Nat) (ha:bH a0 a1 a2 a3) (hz:aA a0 a1 a2 a3%F.M≠0) (w:World) :
  Calls prog 65 #[.int .i64 f,.agg #[.int .u64 a0,.int .u64 a1,.int .u64 a2,.int .u64 a3]] w (fun e w'=>∃s0 s1 s2 s3:Nat,e=.returned (.tuple #[.agg #[.int .u64 s0,.int .u64 s1,.int .u64 s2,.int .u64 s3],.int .i64 0])∧bH s0 s1 s2 s3∧aA s0 s1 s2 s3=aA a0 a1 a2 a3^(F.M-2)%F.M∧Below w.heap.size w w'):=by
 have hG:=EP;have h2:=hf.ok.gt
 go_enter func65,ntmps65
 go_wp2_with fail;have HM:=Lib.hid (((Mem.nil w).new (w.heap.size) a0 a1 a2 a3 24 (by simp)).new (w.heap.size+1) 0 0 0 0 24 (by simp));refine (cM f F hf a0 a1 a2 a3 ha _).mono ?_
 rintro e w1 ⟨d0,d1,d2,d3,rfl,hd,hv,hbl⟩
 have HM':=Lib.hid (HM.out.on hbl);clear HM hbl;have HM:=HM';clear HM';have EQ:=PW hd (by rw[hv]; exact hz);clear hv hz;go_wp2_with fail;refine (fN f F hf _).mono ?_
 rintro e w2 ⟨rfl,hbl⟩
 have HM':=Lib.hid (HM.out.on hbl);clear HM hbl;have HM:=HM';clear HM';go_wp2_with fail;refine (dL F.m0 F.m1 F.m2 F.m3 2 0 0 0 hf.ok.okm (show bH 2 0 0 0 by unfold bH; decide) _).mono ?_
 rintro e w3 ⟨n0,n1,n2,n3,c,rfl,hn,hc,hv,hbl⟩
 have HVn:=Lib.hid (show aA n0 n1 n2 n3=F.M-2 by
  have e2:aA 2 0 0 0=2:=rfl;have:=bW hn;rw[e2]at hv;have e3:aA F.m0 F.m1 F.m2 F.m3=F.M:=rfl;rw[e3]at hv;have:c=0:=by rcases (show c=0∨c=1 by omega)with h|h; exact h; subst h; omega
  subst this;omega)
 clear hv hc;have HM':=Lib.hid ((HM.out.on hbl).new w3.heap.size n0 n1 n2 n3 27 rfl);clear HM hbl;have HM:=HM';clear HM';have kr:=HM.out.row (b:=w.heap.size) (c0:=a0) (c1:=a1) (c2:=a2) (c3:=a3) (by simp);have x0:=kr.c0; have x1:=kr.c1; have x2:=kr.c2; have x3:=kr.c3;clear kr;have xl:w.heap.size<w3.heap.size:=by have:=HM.out.lt (b:=w.heap.size) (c0:=a0) (c1:=a1) (c2:=a2) (c3:=a3) (by simp); have l2:=HM.out.lt (b:=w.heap.size+1) (c0:=0) (c1:=0) (c2:=0) (c3:=0) (by simp); simp at l2; omega
 go_wp2_with fail;refine (yP f F hf a0 a1 a2 a3 n0 n1 n2 n3 ha hn _).mono ?_
 rintro e w4 ⟨s0,s1,s2,s3,rfl,hs,hv,hbl⟩
 have HVs:=Lib.hid (show aA s0 s1 s2 s3=aA a0 a1 a2 a3^(F.M-2)%F.M by rw[hv,HVn.out]);have HM':=Lib.hid (HM.out.on hbl);clear HM hbl hv x0 x1 x2 x3 xl;have HM:=HM';clear HM';have kr:=HM.out.row (b:=w.heap.size+1) (c0:=0) (c1:=0) (c2:=0) (c3:=0) (by simp);have y0:=kr.c0; have y1:=kr.c1; have y2:=kr.c2; have y3:=kr.c3; have yf:=kr.fr;have yl:=HM.out.lt (b:=w.heap.size+1) (c0:=0) (c1:=0) (c2:=0) (c3:=0) (by simp);clear kr;go_wp2_with fail;refine bodyPost_ret (v:=.tuple #[.agg #[.int .u64 s0,.int .u64 s1,.int .u64 s2,.int .u64 s3],.int .i64 0]) (by simp[results,results65,go_sem, *]) rfl ?_;refine⟨_,_,_,_,rfl,hs,HVs.out,?_⟩;exact aV HM.out.1 (by omega) _ _ _ _
end Go.Proofs.Ytjeplinbleofnaa
namespace Go.Proofs.Ytjeplinbleofnaa.Ex
open Go.Proofs.Try
open Go.RowKit
theorem pZ {x:Nat} {w:World} {e:Ending} {w':World} (hx:x<RM) (h:dK x w e w'):e=.returned (RV.den (.one (.fl [.q x])))∧Below w.heap.size w w':=by
 obtain⟨s0,s1,s2,s3,rfl,hs,hv,hb⟩:=h;obtain⟨rfl,rfl,rfl,rfl⟩:=gN hs (pB hx) hv;exact⟨rfl,hb⟩
def Bj (op:Nat→RV) (c:Nat→List Prop):kH
 | [.v (.im (.int .i64 2)),.v (.fl l)]=>match oK l with|some x=>some (c x,op x)|none=>none
 | _=>none
def YN (op:Nat→Nat→Nat) (c:Nat→Nat→List Prop):kH
 | [.v (.im (.int .i64 2)),.v (.fl l),.v (.fl m)]=>match oK l,oK m with|some x,some y=>some (c x y,.one (.fl [.q (op x y)]))|_,_=>none
 | _=>none
theorem KD {f:FuncId} {op:Nat→RV} {c:Nat→List Prop} (h:∀x,aU (c x)→∀w,bC prog f (op x) [.int .i64 2,.agg (aB [At.q x]).toArray] w) :
  ∀cs pre r,Bj op c cs=some (pre,r)→aU pre→∀(args:List Value) (w:World),cE w cs args→bC prog f r args w:=by
 intro cs pre r hg hp args w ha;unfold Bj at hg;split at hg
 ·rename_i l;split at hg
  ·rename_i x hx;cases hg
   match args,ha with
   | [t,v],ha =>
    have h1:t=.int .i64 2:=ha.1;have h2:v=.agg (aB l).toArray:=ha.2.1;rw[cJ l x hx]at h2;subst h1; subst h2;exact h x hp w
   | [],ha=>exact ha.elim
   | [_],ha=>exact ha.2.elim
   | _::_::_::_,ha=>exact ha.2.2.elim
  ·cases hg
 ·cases hg
theorem zQ {f:FuncId} {op:Nat→Nat→Nat} {c:Nat→Nat→List Prop} (h:∀x y,aU (c x y)→∀w,bC prog f (.one (.fl [.q (op x y)])) [.int .i64 2,.agg (aB [At.q x]).toArray,.agg (aB [At.q y]).toArray] w) :
  ∀cs pre r,YN op c cs=some (pre,r)→aU pre→∀(args:List Value) (w:World),cE w cs args→bC prog f r args w:=by
 intro cs pre r hg hp args w ha;unfold YN at hg;split at hg
 ·rename_i l m;split at hg
  ·rename_i x y hx hy;cases hg
   match args,ha with
   | [t,v,u],ha =>
    have h1:t=.int .i64 2:=ha.1;have h2:v=.agg (aB l).toArray:=ha.2.1;have h3:u=.agg (aB m).toArray:=ha.2.2.1;rw[cJ l x hx]at h2;rw[cJ m y hy]at h3;subst h1; subst h2; subst h3;exact h x y hp w
   | [],ha=>exact ha.elim
   | [_],ha=>exact ha.2.elim
   | [_,_],ha=>exact ha.2.2.elim
   | _::_::_::_::_,ha=>exact ha.2.2.2.elim
  ·cases hg
 ·cases hg
theorem TG (x y:Nat) (h:aU (uH x y)) (w:World):bC prog 75 (.one (.fl [.q (dM x y)])) [.int .i64 2,.agg (aB [At.q x]).toArray,.agg (aB [At.q y]).toArray] w:=by
 have:=pC 2 _ pV _ _ _ _ _ _ _ _ (cR x) (cR y) w;rw[nG h.1,nG h.2.1]at this;exact this.mono fun e w' q=>pZ (bP x y) q
theorem TC (x y:Nat) (h:aU (uH x y)) (w:World):bC prog 74 (.one (.fl [.q (aJ x y)])) [.int .i64 2,.agg (aB [At.q x]).toArray,.agg (aB [At.q y]).toArray] w:=by
 have:=kQ 2 _ pV _ _ _ _ _ _ _ _ (cR x) (cR y) w;rw[nG h.1,nG h.2.1]at this;exact this.mono fun e w' q=>pZ (aD x y) q
theorem TB (x y:Nat) (h:aU (uH x y)) (w:World):bC prog 66 (.one (.fl [.q (eO x y)])) [.int .i64 2,.agg (aB [At.q x]).toArray,.agg (aB [At.q y]).toArray] w:=by
 have:=yM 2 _ pV _ _ _ _ _ _ _ _ (cR x) (cR y) w;rw[nG h.1,nG h.2.1,Nat.mod_eq_of_lt h.2.1]at this;refine this.mono fun e w' q=>pZ (cC x y) ?_
 have e1:x+(RM-y)=x+RM-y:=by have:=h.2.1; omega
 rw[show eO x y=(x+(RM-y))%RM by unfold eO; rw[e1]];exact q
theorem TD (x:Nat) (h:aU [x<RM,x≠0]) (w:World):bC prog 65 (.many [.fl [.q (QZ x)],.im (.int .i64 0)]) [.int .i64 2,.agg (aB [At.q x]).toArray] w:=by
 have:=vK 2 _ pV _ _ _ _ (cR x) (by rw[nG h.1]; exact fun q=>h.2.1 (by rw[←q]; exact (Nat.mod_eq_of_lt h.1).symm)) w;rw[nG h.1]at this;refine this.mono ?_
 rintro e w' ⟨s0,s1,s2,s3,rfl,hs,hv,hb⟩
 rw[show x^(Go.Proofs.Ytjeplinbleofnaa.FR.M-2)%Go.Proofs.Ytjeplinbleofnaa.FR.M=QZ x by unfold QZ; rw[Nat.one_mul]]at hv;obtain⟨rfl,rfl,rfl,rfl⟩:=gN hs (pB (tB x)) hv;exact⟨rfl,hb⟩
def YP:Nat→RV:=fun x=>.one (.im (.bool (decide (x<RM))))
theorem TE (x:Nat) (h:aU [x<aC]) (w:World):bC prog 40 (YP x) [.int .i64 2,.agg (aB [At.q x]).toArray] w:=by
 have:=tE 2 _ pV _ _ _ _ (cR x) w;rw[gS h.1]at this;exact this.mono fun e w' q=>q
end Go.Proofs.Ytjeplinbleofnaa.Ex
namespace Go.Proofs.Ytjeplinbleofnaa.R1
open Go.Proofs.Try
open Go.RowKit
theorem len_down {A m:Nat} (h:A<2^(m+1)) (hb:bU A m=0):A<2^m:=by
 unfold bU at hb;have h1:A/2^m<2:=by rw[Nat.div_lt_iff_lt_mul (Nat.pow_pos (by omega)),Nat.mul_comm,←Nat.pow_succ]; exact h
 have h2:A/2^m=0:=by generalize A/2^m=q at h1 hb; omega
 have h3:=Nat.div_add_mod A (2^m);have h4:=Nat.mod_lt A (show 0<2^m from Nat.pow_pos (by omega));rw[h2]at h3; omega
theorem len_is {A m:Nat} (h:A<2^(m+1)) (hb:bU A m=1):LenIs A (m+1):=by
 refine⟨h,fun _ => ?_⟩;unfold bU at hb;have h1:1≤A/2^m:=by
  rcases Nat.eq_zero_or_pos (A/2^m)with e|e
  ·rw[e]at hb; omega
  ·exact e
 exact (Nat.one_le_div_iff (Nat.pow_pos (by omega))).1 h1
def LenP (A:Nat) (w:World) (e:Ending) (w':World):Prop :=
 ∃L:Nat,e=.returned (.int .i64 L)∧L≤256∧LenIs A L∧Below w.heap.size w w'
theorem refLen_calls (a0 a1 a2 a3:Nat) (ha:bH a0 a1 a2 a3) (w:World) :
  Calls prog 71 #[.agg #[.int .u64 a0,.int .u64 a1,.int .u64 a2,.int .u64 a3]] w (LenP (aA a0 a1 a2 a3) w):=by
 have h256:aA a0 a1 a2 a3<2^256:=by have:=bW ha; simpa using this
 have HB:=Lib.hid (fun i h (w:World)=>mS a0 a1 a2 a3 i ha h w);generalize hA:aA a0 a1 a2 a3=A at *;have H256:=Lib.hid h256;clear h256 hA
 go_enter func71,ntmps71
 go_wp2_with fail
 go_loopw [3] (fun i wr=>∃n:Int,-1≤n∧n≤255∧i=.int .i64 n∧Hid (A<2^(n+1).toNat)∧Mem w wr [(w.heap.size,a0,a1,a2,a3)]) (fun i _=>(intOf i+1).toNat)
 case atStart=>exact⟨255,by omega,by omega,rfl,H256,(Mem.nil w).new w.heap.size a0 a1 a2 a3 27 rfl⟩
 case round =>
  obtain⟨n,h1,h2,rfl,hA,m⟩:=hrel;have M:=Lib.hid m;obtain⟨lt_a,c0,c1,c2,c3,cf⟩:=m.get (b:=w.heap.size) (c0:=a0) (c1:=a1) (c2:=a2) (c3:=a3) (by simp);clear m
  by_cases h0:0≤n
  ·obtain⟨i,rfl⟩:=Int.eq_ofNat_of_zero_le h0;have hA':=Lib.hid (show A<2^(i+1)from hA.out);clear hA
   rcases gD A i with hb|hb
   ·have hB:=HB.out i (by omega);rw[hb]at hB;have HN:=Lib.hid (len_down hA'.out hb);clear hb hA';go_wp2_with fail;refine (hB _).mono ?_
    rintro e w1 ⟨rfl,hbl⟩
    have M':=M.out.on hbl;clear hbl;go_wp2_with fail
    go_roundw
    case rel=>exact⟨(i:Int)-1,by omega,by omega,by first|rfl|go_num,Lib.hid (by rw[show ((i:Int)-1+1).toNat=i by omega]; exact HN.out),M'⟩
    case measure=>first|(simp[intOf]; done)|(simp[intOf]; omega)
   ·have hB:=HB.out i (by omega);rw[hb]at hB;have HN:=Lib.hid (len_is hA'.out hb);clear hb hA';go_wp2_with fail;refine (hB _).mono ?_
    rintro e w1 ⟨rfl,hbl⟩
    have M':=M.out.on hbl;clear hbl;go_wp2_with fail;go_ret;exact⟨i+1,rfl,by omega,HN.out,M'.1⟩
  ·obtain rfl:n = -1:=by omega
   go_wp2_with fail;go_ret;exact⟨0,rfl,by omega,⟨hA.out,fun h=>absurd h (by omega)⟩,M.out.1⟩
theorem shl_dvd (A n i:Nat) (h:i≤n) (h':i≤256):2^i∣A*2^n%115792089237316195423570985008687907853269984665640564039457584007913129639936:=by
 refine (Nat.dvd_mod_iff ?_).2 ?_
 ·rw[show 115792089237316195423570985008687907853269984665640564039457584007913129639936=2^256 by simp];exact Nat.pow_dvd_pow 2 h'
 ·exact Nat.dvd_trans (Nat.pow_dvd_pow 2 h) (Nat.dvd_mul_left _ _)
set_option maxHeartbeats 2000000 in
theorem refShl_calls (a0 a1 a2 a3 n:Nat) (ha:bH a0 a1 a2 a3) (hn:n≤9223372036854775807) (w:World) :
  Calls prog 25 #[.agg #[.int .u64 a0,.int .u64 a1,.int .u64 a2,.int .u64 a3],.int .i64 n] w (CN (aA a0 a1 a2 a3*2^n%115792089237316195423570985008687907853269984665640564039457584007913129639936) w):=by
 have t0:decide ((n:Int)<0)=false:=decide_eq_false (by omega);obtain⟨T,hT⟩:∃T,T=aA a0 a1 a2 a3*2^n%115792089237316195423570985008687907853269984665640564039457584007913129639936:=⟨_,rfl⟩
 rw[←hT];have HTop:=Lib.hid (show gO T 256=0 from KE (by rw[hT]; exact Nat.lt_of_lt_of_le (Nat.mod_lt _ (by omega)) (by simp)));have HBit:=Lib.hid (fun i (h:i<256) (h':n≤i)=>(show bU T i=bU (aA a0 a1 a2 a3) (i-n) by rw[hT]; exact QI _ n i h h'));have HEnd:=Lib.hid (fun i (h:i≤n) (h':i≤256)=>(show gO T i=T from KG (by rw[hT]; exact shl_dvd _ n i h h')));have HB:=Lib.hid (fun i h (w:World)=>mS a0 a1 a2 a3 i ha h w);clear hT;generalize aA a0 a1 a2 a3=A at *
 go_enter func25,ntmps25
 go_wp2_with fail
 go_loopw [6] (fun i wr=>∃(m:Int) (o0 o1 o2 o3:Nat),-1≤m∧m≤255∧i=.int .i64 m∧Hid ((n:Int)≤m+1∨m=255)∧bH o0 o1 o2 o3∧Hid (aA o0 o1 o2 o3=gO T (m+1).toNat)∧Mem w wr [(w.heap.size+2,o0,o1,o2,o3),(w.heap.size+1,0,0,0,0),(w.heap.size,a0,a1,a2,a3)]) (fun i _=>(intOf i+1).toNat)
 case atStart =>
  exact⟨255,0,0,0,0,by omega,by omega,rfl,Lib.hid (Or.inr rfl),⟨by omega,by omega,by omega,by omega⟩,Lib.hid HTop.out.symm,(((Mem.nil w).new w.heap.size a0 a1 a2 a3 27 rfl).new (w.heap.size+1) 0 0 0 0 27 (by simp)).new (w.heap.size+2) 0 0 0 0 27 (by simp)⟩
 case round =>
  obtain⟨m,o0,o1,o2,o3,h1,h2,rfl,hmn,ho,hv,mm⟩:=hrel;have M:=Lib.hid mm;obtain⟨lt_a,c0,c1,c2,c3,cf⟩:=mm.get (b:=w.heap.size) (c0:=a0) (c1:=a1) (c2:=a2) (c3:=a3) (by simp);obtain⟨lt_r,r0,r1,r2,r3,rf⟩:=mm.get (b:=w.heap.size+1) (c0:=0) (c1:=0) (c2:=0) (c3:=0) (by simp);obtain⟨lt_o,d0,d1,d2,d3,df⟩:=mm.get (b:=w.heap.size+2) (c0:=o0) (c1:=o1) (c2:=o2) (c3:=o3) (by simp);clear mm
  by_cases h0:(n:Int)≤m
  ·obtain⟨i,rfl⟩:=Int.eq_ofNat_of_zero_le (show 0≤m by omega);obtain⟨k,hk⟩:∃k:Nat,(i:Int)-(n:Int)=(k:Int):=⟨i-n,by omega⟩
   have hki:k=i-n:=by omega
   have hB:=HB.out k (by omega);have hbit:=HBit.out i (by omega) (by omega);have hst:=EM T i;have hfb:=KF T i;have hv':aA o0 o1 o2 o3=gO T (i+1):=hv.out;rw[←hv']at hst hfb;rw[←hki]at hbit;have hki':=Lib.hid hki;clear hki hv' hv
   rcases gD A k with hb|hb
   ·rw[hb]at hB hbit;rw[hbit]at hst;have HN:=Lib.hid (show aA o0 o1 o2 o3=gO T i by rw[hst]; omega);clear hb hst hfb hbit;go_wp2_with fail;refine (hB _).mono ?_
    rintro e w1 ⟨rfl,hbl⟩
    have M':=M.out.on hbl;clear hbl;go_wp2_with fail
    go_roundw
    case rel=>exact⟨(i:Int)-1,o0,o1,o2,o3,by omega,by omega,by first|rfl|go_num,Lib.hid (Or.inl (by omega)),ho,Lib.hid (by rw[show ((i:Int)-1+1).toNat=i by omega]; exact HN.out),M'⟩
    case measure=>first|(simp[intOf]; done)|(simp[intOf]; omega)
   ·rw[hb]at hB hbit;rw[hbit]at hst;have hP:=fun w=>DD o0 o1 o2 o3 i ho (by omega) hfb w
    have HN:=Lib.hid (show aA o0 o1 o2 o3+2^i=gO T i by rw[hst]; omega);clear hb hst hfb hbit;go_wp2_with fail;refine (hB _).mono ?_
    rintro e w1 ⟨rfl,hbl⟩
    have M':=Lib.hid (M.out.on hbl);clear hbl M c0 c1 c2 c3 cf d0 d1 d2 d3 df r0 r1 r2 r3 rf;obtain⟨lt_o',d0,d1,d2,d3,df⟩:=M'.out.get (b:=w.heap.size+2) (c0:=o0) (c1:=o1) (c2:=o2) (c3:=o3) (by simp);go_wp2_with fail;refine (hP _).mono ?_
    rintro e w2 ⟨s0,s1,s2,s3,rfl,hs,es,hbl⟩
    have M:=Lib.hid (M'.out.on hbl);have Hes:=Lib.hid (es.trans HN.out);clear hbl M' d0 d1 d2 d3 df es lt_o';obtain⟨lt_o',d0,d1,d2,d3,df⟩:=M.out.get (b:=w.heap.size+2) (c0:=o0) (c1:=o1) (c2:=o2) (c3:=o3) (by simp);go_wp2_with fail
    go_roundw
    case rel=>exact⟨(i:Int)-1,s0,s1,s2,s3,by omega,by omega,by first|rfl|go_num,Lib.hid (Or.inl (by omega)),hs,Lib.hid (by rw[show ((i:Int)-1+1).toNat=i by omega]; exact Hes.out),M.out.put s0 s1 s2 s3 (by omega) (by simp)⟩
    case measure=>first|(simp[intOf]; done)|(simp[intOf]; omega)
  ·have HF:=Lib.hid (show aA o0 o1 o2 o3=T by rw[hv.out]; exact HEnd.out _ (by omega) (by omega));clear hv hmn;go_wp2_with fail;refine bodyPost_ret (v:=.agg #[.int .u64 o0,.int .u64 o1,.int .u64 o2,.int .u64 o3]) (by simp[results,results25,go_sem, *]) rfl ?_;exact⟨o0,o1,o2,o3,rfl,ho,HF.out,aV M.out.1 (by omega) _ _ _ _⟩
end Go.Proofs.Ytjeplinbleofnaa.R1
namespace Go.Proofs.Ytjeplinbleofnaa.Ex
open Go.Proofs.Try
open Go.RowKit
theorem ND:∀cs pre r,EL cs=some (pre,r)→aU pre→∀(args:List Value) (w:World),cE w cs args→bC prog 71 r args w:=by
 intro cs pre r hg hp args w ha;unfold EL at hg;split at hg
 ·rename_i l;split at hg
  ·rename_i n hn;cases hg;rw[RY ha,cJ l _ hn];refine (R1.refLen_calls _ _ _ _ (cR n) w).mono ?_
   rintro e w' ⟨L,rfl,_,h,hbl⟩
   cases h.uniq (lZ n);exact⟨rfl,hbl⟩
  ·cases hg
 ·cases hg
theorem NO:∀cs pre r,VA cs=some (pre,r)→aU pre→∀(args:List Value) (w:World),cE w cs args→bC prog 49 r args w:=by
 intro cs pre r hg hp args w ha;unfold VA at hg;split at hg
 ·rename_i l i;split at hg
  ·rename_i n hn;cases hg
   match args,ha with
   | [v,u],ha =>
    have h1:v=.agg (aB l).toArray:=ha.1;have h2:u=.int .i64 (Int.ofNat i):=ha.2.1;rw[cJ l _ hn]at h1;subst h1; subst h2;exact mS _ _ _ _ i (cR n) hp.1 w
   | [],ha=>exact ha.elim
   | [_],ha=>exact ha.2.elim
   | _::_::_::_,ha=>exact ha.2.2.elim
  ·cases hg
 ·cases hg
end Go.Proofs.Ytjeplinbleofnaa.Ex
namespace Go.Proofs.Ytjeplinbleofnaa
open Go.Proofs.Try
open Go.RowKit
def jR (c:UInt8):Bool:=decide (48≤c.toNat∧c.toNat≤57)
def BU:List UInt8→Bool
 | []=>false
 | c::_=>decide (c.toNat≠48)
def kI (l:List UInt8):Bool:=l.all jR&&(decide (l=[48])||BU l)
theorem lV {l:List UInt8} {k:Nat} (hk:k<l.length) (h:jR l[k]=false):kI l=false:=by
 unfold kI;have:l.all jR=false:=by
  rw[List.all_eq_false];exact⟨l[k],List.getElem_mem hk,by simp[h]⟩
 rw[this]; rfl
theorem JA {l:List UInt8} (h:∀k (hk:k<l.length),jR l[k]=true):kI l=(decide (l=[48])||BU l):=by
 unfold kI;have:l.all jR=true:=by
  rw[List.all_eq_true];intro x hx;obtain⟨k,hk,rfl⟩:=List.getElem_of_mem hx;exact h k hk
 rw[this]; rfl
theorem rU (l:List UInt8) (h:0<l.length):BU l=decide (l[0].toNat≠48):=by
 match l,h with
 | c::t,_=>rfl
def lU (v:Nat) (c:UInt8):Nat:=v*10+(c.toNat-48)
def bQ (l:List UInt8):Nat:=l.foldl lU 0
theorem PQ (l:List UInt8):∀v,v≤l.foldl lU v:=by
 induction l with
 | nil=>intro v; exact Nat.le_refl _
 | cons c t ih=>intro v; exact Nat.le_trans (by unfold lU; omega) (ih (lU v c))
theorem gM (l:List UInt8) (k:Nat):bQ (l.take k)≤bQ l:=by
 have h:bQ l=(l.drop k).foldl lU (bQ (l.take k)):=by
  unfold bQ;rw[←List.foldl_append,List.take_append_drop]
 rw[h]; exact PQ _ _
theorem nP {l:List UInt8} {k:Nat} (h:k<l.length):bQ (l.take (k+1))=bQ (l.take k)*10+(l[k].toNat-48):=by
 rw[List.take_succ_eq_append_getElem h];unfold bQ;rw[List.foldl_append];rfl
def cZ (l:List UInt8):Nat×Nat :=
 if kI l=false then (0,11)else if 78<l.length then (0,4)else if 115792089237316195423570985008687907853269984665640564039457584007913129639936≤bQ l then (0,4)else (bQ l,0)
theorem iL {l:List UInt8} (h:kI l=false):cZ l=(0,11):=by unfold cZ; rw[if_pos h]
theorem nL {l:List UInt8} (h:kI l=true) (h2:78<l.length):cZ l=(0,4):=by unfold cZ; rw[if_neg (by simp[h]),if_pos h2]
theorem pH {l:List UInt8} (h:kI l=true) (h2:¬ 78<l.length) (h3:115792089237316195423570985008687907853269984665640564039457584007913129639936≤bQ l):cZ l=(0,4):=by unfold cZ; rw[if_neg (by simp[h]),if_neg h2,if_pos h3]
theorem rN {l:List UInt8} (h:kI l=true) (h2:¬ 78<l.length) (h3:bQ l<115792089237316195423570985008687907853269984665640564039457584007913129639936):cZ l=(bQ l,0):=by unfold cZ; rw[if_neg (by simp[h]),if_neg h2,if_neg (by omega)]
theorem wM {l:List UInt8} (h:kI l=true) {k:Nat} (hk:k<l.length):48≤l[k].toNat∧l[k].toNat≤57:=by
 unfold kI at h;rw[Bool.and_eq_true]at h;have:=List.all_eq_true.1 h.1 _ (List.getElem_mem hk);unfold jR at this;exact of_decide_eq_true this
set_option maxHeartbeats 1000000 in
theorem eT (a0 a1 a2 a3:Nat) (ha:bH a0 a1 a2 a3) (w:World) :
  Calls prog 47 #[.agg #[.int .u64 a0,.int .u64 a1,.int .u64 a2,.int .u64 a3]] w (qN (aA a0 a1 a2 a3) w):=by
 obtain⟨h0,h1,d0,d1,b0,b1,e0⟩:=dO ha.1;obtain⟨h2,h3,d2,d3,b2,b3,e1⟩:=dO ha.2.1;obtain⟨h4,h5,d4,d5,b4,b5,e2⟩:=dO ha.2.2.1;obtain⟨h6,h7,d6,d7,b6,b7,e3⟩:=dO ha.2.2.2
 go_enter func47,ntmps47
 go_wp2_with fail;refine wp_loop_rounds 5 ?_;rw[rounds_succ];go_wp2_with fail;rw[rounds_succ];go_wp2_with fail;rw[rounds_succ];go_wp2_with fail;rw[rounds_succ];go_wp2_with fail;rw[rounds_succ];go_wp2_with fail;refine bodyPost_ret (v:=.agg #[.int .u64 h0,.int .u64 h1,.int .u64 h2,.int .u64 h3,.int .u64 h4,.int .u64 h5,.int .u64 h6,.int .u64 h7]) (by simp[results,results47,go_sem]) rfl ?_;refine⟨h0,h1,h2,h3,h4,h5,h6,h7,rfl,⟨b0,b1,b2,b3,b4,b5,b6,b7⟩,?_,?_⟩
 ·have:=e0.out; have:=e1.out; have:=e2.out; have:=e3.out;exact Lib.hid (by unfold aA gV; omega)
 repeat (first|exact Below.refl _ _|refine Below.drew ?_|refine Below.alloc ?_ (by first|(simp; done)|(simp; omega)) _)
end Go.Proofs.Ytjeplinbleofnaa
