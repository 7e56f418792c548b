/- Pu05 -/
import Derived.Deep.DeepCutAuto
import Derived.Test.YtfnkbmlmgnadmaaGreatPu04
set_option maxRecDepth 100000
set_option linter.unusedVariables false
set_option linter.unusedSimpArgs false
namespace Go.Proofs.YtfnkbmlmgnadmaaGreat
open Go.Proofs.Tryz
open Go.RowKit
set_option maxHeartbeats 4000000 in
theorem wT (F : FC) (hF : F.Ok) (g : Nat) (hr : Root F.M g) (A H T C b a0 a1 a2 a3 c0 c1 c2 c3 : Nat) (ha : aY a0 a1 a2 a3) (hc : aY c0 c1 c2 c3) (hA : aA a0 a1 a2 a3 = kp F A) (hC : aA c0 c1 c2 c3 = kp F C) (hT : 1 ≤ T) (hT2 : T ≤ 200)
  (hM : F.M = 2 ^ T * (2 * H + 1) + 1) (hs : A ^ (F.M / 2) % F.M ≠ 1) (w : World) (hk : KIs w b F) :
  Calls prog 127 #[.pointer (some ⟨b,0,none⟩),.agg #[.int .u64 a0,.int .u64 a1,.int .u64 a2,.int .u64 a3],.int .i64 T,.agg #[.int .u64 c0,.int .u64 c1,.int .u64 c2,.int .u64 c3]] w fun e w' =>
   e = .returned (.tuple #[.agg #[.int .u64 0,.int .u64 0,.int .u64 0,.int .u64 0],.bool false]) ∧ Below w.heap.size w w':=by
 have HK:=Lib.hid hk;have HF:=Lib.hid hF;have HA:=Lib.hid hA;have HC:=Lib.hid hC;have HS2:=Lib.hid (yJ hM hT);have HI:=Lib.hid (show (A * A ^ H * A ^ H) ^ 2 ^ (T - 1) % F.M ≠ 1 by
  rw [show A * A ^ H * A ^ H = A ^ (2 * H + 1) by rw [Nat.mul_assoc,← Nat.pow_add,← Nat.pow_succ']; congr 1; omega,PR hM hT]; exact hs)
 have hL:=hk.lt;have hL1 : b < w.heap.size + 1:=by omega
 have hL2 : b < w.heap.size + 1 + 1:=by omega
 have k0:=hk.k0; have k1:=hk.k1; have k2:=hk.k2; have k3:=hk.k3;obtain ⟨T1,e1,hT1⟩ : ∃ T1 : Nat,(T : Int) + 1 = (T1 : Int) ∧ T1 = T + 1:=⟨T + 1,by omega,rfl⟩
 have HT1:=Lib.hid hT1;have bT1 : T1 ≤ 201:=by omega
 clear hk hF hA hC hM hs hT1
 go_enter func127,ntmps127
 go_upto_region 1 with fail
 have M0:=Lib.hid (((Mem.nil w).new w.heap.size a0 a1 a2 a3 127 rfl).new (w.heap.size + 1) c0 c1 c2 c3 127 (by simp) |>.new (w.heap.size + 1 + 1) 0 0 0 0 127 (by simp))
 go_cut [10] (fun s10 wx => ∃ g p0 p1 p2 p3 : Nat,s10 = .pointer (some ⟨g,0,none⟩) ∧ aY p0 p1 p2 p3 ∧ Hid (aA p0 p1 p2 p3 = kp F (A ^ H)) ∧ w.heap.size + 1 + 1 < g ∧ Hid (Mem w wx [(g,p0,p1,p2,p3),(w.heap.size + 1 + 1,0,0,0,0),(w.heap.size + 1,c0,c1,c2,c3),(w.heap.size,a0,a1,a2,a3)]))
 case first =>
  refine bR (fun wx => Mem w wx [(w.heap.size + 1 + 1,0,0,0,0),(w.heap.size + 1,c0,c1,c2,c3),(w.heap.size,a0,a1,a2,a3)]) 11 (by kernel_rfl) ?_;have HS:=M0.out.drewN 1;have HM:=Lib.hid HS;refine aE (i:=0) (v:=.pointer (some ⟨b,0,none⟩)) rfl (by kernel_rfl) (by kernel_rfl) (by kernel_rfl) (by kernel_rfl) (fun _ _ _ h => h) HS (Or.inl ⟨by kernel_rfl,fun wx hx => ?_⟩) ?_
  ·clear HS hx;go_simp
  simp only [Act.put,List.setIfInBounds_toArray,List.set_cons_zero,List.set_cons_succ];refine aE (i:=1) (v:=.agg #[.int .u64 a0,.int .u64 a1,.int .u64 a2,.int .u64 a3]) rfl (by kernel_rfl) (by kernel_rfl) (by kernel_rfl) (by kernel_rfl) (fun _ _ _ h => h) HS (Or.inl ⟨by kernel_rfl,fun wx hx => ?_⟩) ?_
  ·have kr:=hx.row (b:=w.heap.size) (c0:=a0) (c1:=a1) (c2:=a2) (c3:=a3) (by simp);have x0:=kr.c0; have x1:=kr.c1; have x2:=kr.c2; have x3:=kr.c3;clear kr k0 k1 k2 k3;clear HS hx;go_simp
  simp only [Act.put,List.setIfInBounds_toArray,List.set_cons_zero,List.set_cons_succ];refine aE (i:=2) (v:=.pointer (some ⟨b,0,none⟩)) rfl (by kernel_rfl) (by kernel_rfl) (by kernel_rfl) (by kernel_rfl) (fun _ _ _ h => h) HS (Or.inl ⟨by kernel_rfl,fun wx hx => ?_⟩) ?_
  ·clear HS hx;go_simp
  simp only [Act.put,List.setIfInBounds_toArray,List.set_cons_zero,List.set_cons_succ];refine aE (i:=3) (v:=.pointer (some ⟨b,0,none⟩)) rfl (by kernel_rfl) (by kernel_rfl) (by kernel_rfl) (by kernel_rfl) (fun _ _ _ h => h) HS (Or.inl ⟨by kernel_rfl,fun wx hx => ?_⟩) ?_
  ·clear HS hx;go_simp
  simp only [Act.put,List.setIfInBounds_toArray,List.set_cons_zero,List.set_cons_succ];refine aE (i:=4) (v:=.pointer (some ⟨b,0,none⟩)) rfl (by kernel_rfl) (by kernel_rfl) (by kernel_rfl) (by kernel_rfl) (fun _ _ _ h => h) HS (Or.inl ⟨by kernel_rfl,fun wx hx => ?_⟩) ?_
  ·clear HS hx;go_simp
  simp only [Act.put,List.setIfInBounds_toArray,List.set_cons_zero,List.set_cons_succ];refine aE (i:=5) (v:=.agg #[.int .u64 F.m0,.int .u64 F.m1,.int .u64 F.m2,.int .u64 F.m3]) rfl (by kernel_rfl) (by kernel_rfl) (by kernel_rfl) (by kernel_rfl) (fun _ _ _ h => h) HS (Or.inl ⟨by kernel_rfl,fun wx hx => ?_⟩) ?_
  ·have kk:=HK.out.same hx.1;have x0:=kk.k0; have x1:=kk.k1; have x2:=kk.k2; have x3:=kk.k3;clear kk k0 k1 k2 k3;clear HS hx;go_simp
  simp only [Act.put,List.setIfInBounds_toArray,List.set_cons_zero,List.set_cons_succ];refine aE (i:=6) (v:=.int .i64 (T : Nat)) rfl (by kernel_rfl) (by kernel_rfl) (by kernel_rfl) (by kernel_rfl) (fun _ _ _ h => h) HS (Or.inl ⟨by kernel_rfl,fun wx hx => ?_⟩) ?_
  ·clear HS hx;go_simp
  simp only [Act.put,List.setIfInBounds_toArray,List.set_cons_zero,List.set_cons_succ];refine aE (i:=7) (v:=.int .i64 (T1 : Nat)) rfl (by kernel_rfl) (by kernel_rfl) (by kernel_rfl) (by kernel_rfl) (fun _ _ _ h => h) HS (Or.inl ⟨by kernel_rfl,fun wx hx => ?_⟩) ?_
  ·have hw : IntKind.i64.wrap (T1 : Int) = (T1 : Int):=IntWalk.i64_in _ (by omega);clear HS hx;go_simp
  simp only [Act.put,List.setIfInBounds_toArray,List.set_cons_zero,List.set_cons_succ];clear HS;refine cW (i:=8) (j:=10) (by kernel_rfl) rfl rfl (fun K hK => ?_) (fun K hK => ?_)
  ·go_simp;refine (gL F.m0 F.m1 F.m2 F.m3 T1 HF.out.okm (by omega) (by have:=HT1.out; omega) _).mono ?_
   rintro e w1 ⟨n0,n1,n2,n3,rfl,hn,hv,hbl⟩
   have HS:=HM.out.on hbl;clear HM;have HM:=Lib.hid HS;have HV:=Lib.hid (show aA n0 n1 n2 n3 = H by rw [hv,show (T1 : Int).toNat = T + 1 by have:=HT1.out; omega]; exact HS2.out);clear hv hbl;refine hK.out _ _ (Or.inr (HS.sub (by simp))) (fun _ => ?_);clear hK K;clear HS;refine cW (i:=9) (j:=10) (by kernel_rfl) rfl rfl (fun K hK => ?_) (fun K hK => ?_)
   ·go_simp;refine (eN F HF.out A b a0 a1 a2 a3 n0 n1 n2 n3 ha hn HA.out _ (HK.out.same HM.out.1)).mono ?_
    rintro e w2 ⟨p0,p1,p2,p3,rfl,hp,hv,hbl⟩
    have HS:=HM.out.on hbl;clear HM;have HM:=Lib.hid HS;have HVp:=Lib.hid (show aA p0 p1 p2 p3 = kp F (A ^ H) by rw [hv,HV.out]);clear hv hbl;refine hK.out _ _ (Or.inr (HS.sub (by simp))) (fun _ => ?_);clear hK K;clear HS;refine aF (i:=10) (by kernel_rfl) rfl (fun K hK => ?_);go_simp;have HS:=HM.out.new w2.heap.size 0 0 0 0 127 (by first | rfl | (simp; done));have hg : w.heap.size + 1 + 1 < w2.heap.size:=by first | (simp; done) | exact HM.out.lt (b:=w.heap.size + 1 + 1) (c0:=0) (c1:=0) (c2:=0) (c3:=0) (by simp)
    have HM9:=HM;clear HM;have HM:=Lib.hid HS;refine hK.out _ _ (Or.inr (HS.sub (by simp))) (fun _ => ?_);clear hK K;clear HS;have kr:=HM.out.row (b:=w2.heap.size) (c0:=0) (c1:=0) (c2:=0) (c3:=0) (by simp);have lr:=HM.out.lt (b:=w2.heap.size) (c0:=0) (c1:=0) (c2:=0) (c3:=0) (by simp);have x0:=kr.c0; have x1:=kr.c1; have x2:=kr.c2; have x3:=kr.c3; have xf:=kr.fr;clear kr;refine aF (i:=11) (by kernel_rfl) rfl (fun K hK => ?_);go_simp;refine hK.out _ _ (Or.inl rfl) (fun _ => ?_);clear hK K;refine bE (by kernel_rfl) ?_;go_wp2_with fail
    go_meet
    refine ⟨w2.heap.size,p0,p1,p2,p3,rfl,hp,HVp,hg,Lib.hid ?_⟩;exact HM9.out.new w2.heap.size p0 p1 p2 p3 127 rfl
   ·go_simp;have HS:=HM.out.new w1.heap.size 0 0 0 0 127 (by first | rfl | (simp; done));have hg : w.heap.size + 1 + 1 < w1.heap.size:=by first | (simp; done) | exact HM.out.lt (b:=w.heap.size + 1 + 1) (c0:=0) (c1:=0) (c2:=0) (c3:=0) (by simp)
    have HM9:=HM;clear HM;have HM:=Lib.hid HS;refine hK.out _ _ (Or.inr (HS.sub (by simp))) (fun _ => ?_);clear hK K;clear HS;refine aF (i:=9) (by kernel_rfl) rfl (fun K hK => ?_);go_simp;refine (eN F HF.out A b a0 a1 a2 a3 n0 n1 n2 n3 ha hn HA.out _ (HK.out.same HM.out.1)).mono ?_
    rintro e w2 ⟨p0,p1,p2,p3,rfl,hp,hv,hbl⟩
    have HS:=HM.out.on hbl;clear HM;have HM:=Lib.hid HS;have HVp:=Lib.hid (show aA p0 p1 p2 p3 = kp F (A ^ H) by rw [hv,HV.out]);clear hv hbl;refine hK.out _ _ (Or.inr (HS.sub (by simp))) (fun _ => ?_);clear hK K;clear HS;have kr:=HM.out.row (b:=w1.heap.size) (c0:=0) (c1:=0) (c2:=0) (c3:=0) (by simp);have lr:=HM.out.lt (b:=w1.heap.size) (c0:=0) (c1:=0) (c2:=0) (c3:=0) (by simp);have x0:=kr.c0; have x1:=kr.c1; have x2:=kr.c2; have x3:=kr.c3; have xf:=kr.fr;clear kr;refine aF (i:=11) (by kernel_rfl) rfl (fun K hK => ?_);go_simp;refine hK.out _ _ (Or.inl rfl) (fun _ => ?_);clear hK K;refine bE (by kernel_rfl) ?_;go_wp2_with fail
    go_meet
    refine ⟨w1.heap.size,p0,p1,p2,p3,rfl,hp,HVp,hg,Lib.hid ?_⟩;exact HM.out.put p0 p1 p2 p3 (by omega) (by intro r hr; simp at hr; rcases hr with rfl | rfl | rfl <;> simp <;> omega)
  ·go_simp;have HS:=HM.out.new (w.heap.size + 1 + 1 + 1) 0 0 0 0 127 (by first | rfl | (simp; done));have hg : w.heap.size + 1 + 1 < (w.heap.size + 1 + 1 + 1):=by first | (simp; done) | exact HM.out.lt (b:=w.heap.size + 1 + 1) (c0:=0) (c1:=0) (c2:=0) (c3:=0) (by simp)
   have HM9:=HM;clear HM;have HM:=Lib.hid HS;refine hK.out _ _ (Or.inr (HS.sub (by simp))) (fun _ => ?_);clear hK K;clear HS;refine aF (i:=8) (by kernel_rfl) rfl (fun K hK => ?_);go_simp;refine (gL F.m0 F.m1 F.m2 F.m3 T1 HF.out.okm (by omega) (by have:=HT1.out; omega) _).mono ?_
   rintro e w1 ⟨n0,n1,n2,n3,rfl,hn,hv,hbl⟩
   have HS:=HM.out.on hbl;clear HM;have HM:=Lib.hid HS;have HV:=Lib.hid (show aA n0 n1 n2 n3 = H by rw [hv,show (T1 : Int).toNat = T + 1 by have:=HT1.out; omega]; exact HS2.out);clear hv hbl;refine hK.out _ _ (Or.inr (HS.sub (by simp))) (fun _ => ?_);clear hK K;clear HS;refine aF (i:=9) (by kernel_rfl) rfl (fun K hK => ?_);go_simp;refine (eN F HF.out A b a0 a1 a2 a3 n0 n1 n2 n3 ha hn HA.out _ (HK.out.same HM.out.1)).mono ?_
   rintro e w2 ⟨p0,p1,p2,p3,rfl,hp,hv,hbl⟩
   have HS:=HM.out.on hbl;clear HM;have HM:=Lib.hid HS;have HVp:=Lib.hid (show aA p0 p1 p2 p3 = kp F (A ^ H) by rw [hv,HV.out]);clear hv hbl;refine hK.out _ _ (Or.inr (HS.sub (by simp))) (fun _ => ?_);clear hK K;clear HS;have kr:=HM.out.row (b:=(w.heap.size + 1 + 1 + 1)) (c0:=0) (c1:=0) (c2:=0) (c3:=0) (by simp);have lr:=HM.out.lt (b:=(w.heap.size + 1 + 1 + 1)) (c0:=0) (c1:=0) (c2:=0) (c3:=0) (by simp);have x0:=kr.c0; have x1:=kr.c1; have x2:=kr.c2; have x3:=kr.c3; have xf:=kr.fr;clear kr;refine aF (i:=11) (by kernel_rfl) rfl (fun K hK => ?_);go_simp;refine hK.out _ _ (Or.inl rfl) (fun _ => ?_);clear hK K;refine bE (by kernel_rfl) ?_;go_wp2_with fail
   go_meet
   refine ⟨(w.heap.size + 1 + 1 + 1),p0,p1,p2,p3,rfl,hp,HVp,hg,Lib.hid ?_⟩;exact HM.out.put p0 p1 p2 p3 (by omega) (by intro r hr; simp at hr; rcases hr with rfl | rfl | rfl <;> simp <;> omega)
 case rest =>
  obtain ⟨g',p0,p1,p2,p3,rfl,hp,HVp,hg,HM⟩:=hcut;clear k0 k1 k2 k3 e1 bT1;have kr:=HM.out.row (b:=w.heap.size) (c0:=a0) (c1:=a1) (c2:=a2) (c3:=a3) (by simp);have x0:=kr.c0; have x1:=kr.c1; have x2:=kr.c2; have x3:=kr.c3;clear kr;have xl:=HM.out.lt (b:=w.heap.size) (c0:=a0) (c1:=a1) (c2:=a2) (c3:=a3) (by simp);have kr:=HM.out.row (b:=g') (c0:=p0) (c1:=p1) (c2:=p2) (c3:=p3) (by simp);have y0:=kr.c0; have y1:=kr.c1; have y2:=kr.c2; have y3:=kr.c3;clear kr;have yl:=HM.out.lt (b:=g') (c0:=p0) (c1:=p1) (c2:=p2) (c3:=p3) (by simp);go_wp2_with fail;refine (bZ F HF.out b a0 a1 a2 a3 p0 p1 p2 p3 (by assumption) (by assumption) (by rw [HVp.out]; exact nX HF.out _) _ (HK.out.same HM.out.1)).mono ?_
  rintro e w3 ⟨q0,q1,q2,q3,rfl,hq,hv,hbl⟩
  have HVq:=Lib.hid (show aA q0 q1 q2 q3 = kp F (A * A ^ H) by rw [hv,HA.out,HVp.out,fI HF.out,fS]);have MM:=HM.out.on hbl;clear HM hv hbl x0 x1 x2 x3 xl y0 y1 y2 y3 yl;have HM:=Lib.hid (MM.new w3.heap.size q0 q1 q2 q3 127 rfl);have hg3 : w.heap.size + 1 + 1 < w3.heap.size:=MM.lt (b:=w.heap.size + 1 + 1) (c0:=0) (c1:=0) (c2:=0) (c3:=0) (by simp);clear MM;have kr:=HM.out.row (b:=w3.heap.size) (c0:=q0) (c1:=q1) (c2:=q2) (c3:=q3) (by simp);have x0:=kr.c0; have x1:=kr.c1; have x2:=kr.c2; have x3:=kr.c3;clear kr;have xl:=HM.out.lt (b:=w3.heap.size) (c0:=q0) (c1:=q1) (c2:=q2) (c3:=q3) (by simp);have kr:=HM.out.row (b:=g') (c0:=p0) (c1:=p1) (c2:=p2) (c3:=p3) (by simp);have y0:=kr.c0; have y1:=kr.c1; have y2:=kr.c2; have y3:=kr.c3;clear kr;have yl:=HM.out.lt (b:=g') (c0:=p0) (c1:=p1) (c2:=p2) (c3:=p3) (by simp);go_wp2_with fail;refine (bZ F HF.out b q0 q1 q2 q3 p0 p1 p2 p3 (by assumption) (by assumption) (by rw [HVp.out]; exact nX HF.out _) _ (HK.out.same HM.out.1)).mono ?_
  rintro e w4 ⟨s0,s1,s2,s3,rfl,hs,hv,hbl⟩
  have HVs:=Lib.hid (show aA s0 s1 s2 s3 = kp F (A * A ^ H * A ^ H) by rw [hv,HVq.out,HVp.out,fI HF.out,fS]);have MM:=HM.out.on hbl;clear HM hv hbl x0 x1 x2 x3 xl y0 y1 y2 y3 yl;have HM:=Lib.hid (MM.new w4.heap.size s0 s1 s2 s3 127 rfl);clear MM;go_wp2_with fail;refine wp_loop_rounds 1 ?_;rw [rounds_succ];have kr:=HM.out.row (b:=w4.heap.size) (c0:=s0) (c1:=s1) (c2:=s2) (c3:=s3) (by simp);have x0:=kr.c0; have x1:=kr.c1; have x2:=kr.c2; have x3:=kr.c3;clear kr;have xl:=HM.out.lt (b:=w4.heap.size) (c0:=s0) (c1:=s1) (c2:=s2) (c3:=s3) (by simp);go_wp2_with fail;refine (nW F HF.out (A * A ^ H * A ^ H) b s0 s1 s2 s3 T hs HVs.out (by omega) _ (HK.out.same HM.out.1)).mono ?_
  rintro e w5 ⟨o,rfl,ho,hmin,hone,hbl⟩
  obtain rfl : o = T:=by
   rcases Nat.lt_or_ge o T with q | q
   ·exact absurd (aHc (by have:=HF.out.gt; omega) (by omega) (hone q)) HI.out
   ·omega
  have HM5:=Lib.hid (HM.out.on hbl);clear HM hbl hmin hone ho x0 x1 x2 x3 xl;have HM:=HM5;clear HM5;have t0 : ((o : Int) == 0) = false:=by simp; omega
  have kr:=HM.out.row (b:=w.heap.size + 1 + 1) (c0:=0) (c1:=0) (c2:=0) (c3:=0) (by simp);have y0:=kr.c0; have y1:=kr.c1; have y2:=kr.c2; have y3:=kr.c3; have yf:=kr.fr;clear kr;have yl:=HM.out.lt (b:=w.heap.size + 1 + 1) (c0:=0) (c1:=0) (c2:=0) (c3:=0) (by simp);go_wp2_with fail;refine bodyPost_ret (v:=.tuple #[.agg #[.int .u64 0,.int .u64 0,.int .u64 0,.int .u64 0],.bool false]) (by simp [results,results127,go_sem, *]) rfl ?_;refine ⟨rfl,?_⟩;exact aL HM.out.1 (by omega) 0 0 0 0
def FieldIs (f : Int) (F : FC) : Prop:=f = 1 ∧ F = FP ∨ f = 2 ∧ F = FR
theorem FieldIs.ok {f : Int} {F : FC} (h : FieldIs f F) : F.Ok:=by rcases h with ⟨_,rfl⟩ | ⟨_,rfl⟩; exact aME; exact aMD
theorem FieldIs.root {f : Int} {F : FC} (h : FieldIs f F) : ∃ g,Root F.M g:=by
 rcases h with ⟨_,rfl⟩ | ⟨_,rfl⟩
 ·exact ⟨3,by rw [aOp]; exact Pu⟩
 ·exact ⟨5,by rw [aOo]; exact Ps⟩
def Bad1 (f : Int) (A : Nat) (c : Int) : Prop:=f ≠ 1 ∧ f ≠ 2 ∧ c = 1 ∨ ∃ F,FieldIs f F ∧ ¬ A < F.M ∧ c = 21
def Bad2 (f : Int) (A B : Nat) (c : Int) : Prop:=Bad1 f A c ∨ ∃ F,FieldIs f F ∧ A < F.M ∧ ¬ B < F.M ∧ c = 21
def LM (c : Int) (V : Nat) (w : World) (e : Ending) (w' : World) : Prop :=
 ∃ s0 s1 s2 s3 : Nat,e = .returned (.tuple #[.agg #[.int .u64 s0,.int .u64 s1,.int .u64 s2,.int .u64 s3],.int .i64 c]) ∧ aY s0 s1 s2 s3 ∧ aA s0 s1 s2 s3 = V ∧ Below w.heap.size w w'
theorem vW : aY 0 0 0 0:=⟨by omega,by omega,by omega,by omega⟩
theorem KIs.new (w : World) (F : FC) (t : TypeId) : KIs (w.alloc (.cells #[.int .u64 F.m0,.int .u64 F.m1,.int .u64 F.m2,.int .u64 F.m3,.int .u64 F.inv,.int .u64 F.s0,.int .u64 F.s1,.int .u64 F.s2,.int .u64 F.s3] t)) w.heap.size F :=
 ⟨by rw [World.cell?_alloc_new]; rfl,by rw [World.cell?_alloc_new]; rfl,by rw [World.cell?_alloc_new]; rfl,by rw [World.cell?_alloc_new]; rfl,by rw [World.cell?_alloc_new]; rfl,by rw [World.cell?_alloc_new]; rfl,by rw [World.cell?_alloc_new]; rfl,by rw [World.cell?_alloc_new]; rfl,by rw [World.cell?_alloc_new]; rfl,by simp⟩
set_option maxHeartbeats 2000000 in
theorem cK (f : Int) (F : FC) (hf : FieldIs f F) (w : World) : Calls prog 92 #[.int .i64 f] w fun e w' => e = .returned (.tuple #[.agg #[.int .u64 F.m0,.int .u64 F.m1,.int .u64 F.m2,.int .u64 F.m3,.int .u64 F.inv,.int .u64 F.s0,.int .u64 F.s1,.int .u64 F.s2,.int .u64 F.s3],.int .i64 0]) ∧ Below w.heap.size w w':=by
 rcases hf with ⟨rfl,rfl⟩ | ⟨rfl,rfl⟩
 ·go_enter func92,ntmps92
  go_wp2_with fail;refine bodyPost_ret (v:=.tuple #[.agg #[.int .u64 FP.m0,.int .u64 FP.m1,.int .u64 FP.m2,.int .u64 FP.m3,.int .u64 FP.inv,.int .u64 FP.s0,.int .u64 FP.s1,.int .u64 FP.s2,.int .u64 FP.s3],.int .i64 0]) (by simp [results,results92,go_sem,FP]) rfl ?_;refine ⟨rfl,?_⟩
  repeat (first | exact Below.refl _ _ | refine Below.drew ?_ | refine Below.alloc ?_ (by first | (simp; done) | (simp; omega)) _ | refine Below.setCell ?_ (by simp) _)
 ·go_enter func92,ntmps92
  go_wp2_with fail;refine bodyPost_ret (v:=.tuple #[.agg #[.int .u64 FR.m0,.int .u64 FR.m1,.int .u64 FR.m2,.int .u64 FR.m3,.int .u64 FR.inv,.int .u64 FR.s0,.int .u64 FR.s1,.int .u64 FR.s2,.int .u64 FR.s3],.int .i64 0]) (by simp [results,results92,go_sem,FR]) rfl ?_;refine ⟨rfl,?_⟩
  repeat (first | exact Below.refl _ _ | refine Below.drew ?_ | refine Below.alloc ?_ (by first | (simp; done) | (simp; omega)) _ | refine Below.setCell ?_ (by simp) _)
set_option maxHeartbeats 2000000 in
theorem EY (f : Int) (h1 : f ≠ 1) (h2 : f ≠ 2) (w : World) : Calls prog 92 #[.int .i64 f] w fun e w' => e = .returned (.tuple #[.agg #[.int .u64 0,.int .u64 0,.int .u64 0,.int .u64 0,.int .u64 0,.int .u64 0,.int .u64 0,.int .u64 0,.int .u64 0],.int .i64 1]) ∧ Below w.heap.size w w':=by
 have t1 : (f == 1) = false:=by simp [h1]
 have t2 : (f == 2) = false:=by simp [h2]
 go_enter func92,ntmps92
 go_wp2_with fail;refine bodyPost_ret (v:=.tuple #[.agg #[.int .u64 0,.int .u64 0,.int .u64 0,.int .u64 0,.int .u64 0,.int .u64 0,.int .u64 0,.int .u64 0,.int .u64 0],.int .i64 1]) (by simp [results,results92,go_sem]) rfl ?_;refine ⟨rfl,?_⟩
 repeat (first | exact Below.refl _ _ | refine Below.drew ?_ | refine Below.alloc ?_ (by first | (simp; done) | (simp; omega)) _ | refine Below.setCell ?_ (by simp) _)
theorem vK (w : World) : Calls prog 120 #[.int .i64 1] w fun e w' => e = .returned (.int .i64 1) ∧ w' = w:=by
 go_enter func120,ntmps120
 go_wp2_with fail;go_ret;exact ⟨rfl,rfl⟩
theorem vJ (w : World) : Calls prog 120 #[.int .i64 0] w fun e w' => e = .returned (.int .i64 21) ∧ w' = w:=by
 go_enter func120,ntmps120
 go_wp2_with fail;go_ret;exact ⟨rfl,rfl⟩
set_option maxHeartbeats 2000000 in
theorem Ea (f : Int) (F : FC) (hf : FieldIs f F) (a0 a1 a2 a3 b0 b1 b2 b3 : Nat) (ha : aY a0 a1 a2 a3) (hb : aY b0 b1 b2 b3) (la : aA a0 a1 a2 a3 < F.M) (lb : aA b0 b1 b2 b3 < F.M) (w : World) :
  Calls prog 82 #[.int .i64 f,.agg #[.int .u64 a0,.int .u64 a1,.int .u64 a2,.int .u64 a3],.agg #[.int .u64 b0,.int .u64 b1,.int .u64 b2,.int .u64 b3]] w (LM 0 ((aA a0 a1 a2 a3 + aA b0 b1 b2 b3) % F.M) w):=by
 go_enter func82,ntmps82
 go_wp2_with fail;refine (cK f F hf _).mono ?_
 rintro e w1 ⟨rfl,hbl⟩
 have M1:=((((Mem.nil w).new (w.heap.size) a0 a1 a2 a3 24 (by simp)).new (w.heap.size + 1) b0 b1 b2 b3 24 (by simp)).new (w.heap.size + 1 + 1) 0 0 0 0 24 (by simp)).on hbl;clear hbl;have z0 : w.heap.size < w1.heap.size:=M1.lt (c0:=a0) (c1:=a1) (c2:=a2) (c3:=a3) (by simp);have z1 : w.heap.size + 1 < w1.heap.size:=M1.lt (c0:=b0) (c1:=b1) (c2:=b2) (c3:=b3) (by simp);have z2 : w.heap.size + 1 + 1 < w1.heap.size:=M1.lt (c0:=0) (c1:=0) (c2:=0) (c3:=0) (by simp);have HM:=Lib.hid (M1.on ((Below.refl _ _).alloc (Nat.le_refl _) (.cells #[.int .u64 F.m0,.int .u64 F.m1,.int .u64 F.m2,.int .u64 F.m3,.int .u64 F.inv,.int .u64 F.s0,.int .u64 F.s1,.int .u64 F.s2,.int .u64 F.s3] 129)));have KK:=Lib.hid (KIs.new w1 F 129);have kr:=M1.row (b:=w.heap.size) (c0:=a0) (c1:=a1) (c2:=a2) (c3:=a3) (by simp);have x0:=kr.c0; have x1:=kr.c1; have x2:=kr.c2; have x3:=kr.c3;clear kr;have xl:=M1.lt (b:=w.heap.size) (c0:=a0) (c1:=a1) (c2:=a2) (c3:=a3) (by simp);go_wp2_with fail;refine (cD F hf.ok w1.heap.size a0 a1 a2 a3 ha _ KK.out).mono ?_
 rintro e w2 ⟨he,hbl⟩
 rw [show sI (aA a0 a1 a2 a3) F.M = true from decide_eq_true la] at he;subst he;have HM':=Lib.hid (HM.out.on hbl);have KK':=Lib.hid (KK.out.same hbl);have zk:=KK'.out.lt;clear HM KK hbl M1;have HM:=HM';have KK:=KK';clear HM' KK';clear x0 x1 x2 x3 xl zk;have kr:=HM.out.row (b:=w.heap.size + 1) (c0:=b0) (c1:=b1) (c2:=b2) (c3:=b3) (by simp);have x0:=kr.c0; have x1:=kr.c1; have x2:=kr.c2; have x3:=kr.c3;clear kr;have xl:=HM.out.lt (b:=w.heap.size + 1) (c0:=b0) (c1:=b1) (c2:=b2) (c3:=b3) (by simp);go_wp2_with fail;refine (cD F hf.ok w1.heap.size b0 b1 b2 b3 hb _ KK.out).mono ?_
 rintro e w3 ⟨he,hbl⟩
 rw [show sI (aA b0 b1 b2 b3) F.M = true from decide_eq_true lb] at he;subst he;have HM':=Lib.hid (HM.out.on hbl);have KK':=Lib.hid (KK.out.same hbl);have zk:=KK'.out.lt;clear HM KK hbl;have HM:=HM';have KK:=KK';clear HM' KK';clear x0 x1 x2 x3 xl zk;have kr:=HM.out.row (b:=w.heap.size) (c0:=a0) (c1:=a1) (c2:=a2) (c3:=a3) (by simp);have x0:=kr.c0; have x1:=kr.c1; have x2:=kr.c2; have x3:=kr.c3;clear kr;have xl:=HM.out.lt (b:=w.heap.size) (c0:=a0) (c1:=a1) (c2:=a2) (c3:=a3) (by simp);have kr:=HM.out.row (b:=w.heap.size + 1) (c0:=b0) (c1:=b1) (c2:=b2) (c3:=b3) (by simp);have u0:=kr.c0; have u1:=kr.c1; have u2:=kr.c2; have u3:=kr.c3;clear kr;have ul:=HM.out.lt (b:=w.heap.size + 1) (c0:=b0) (c1:=b1) (c2:=b2) (c3:=b3) (by simp);go_wp2_with fail;refine (zK F hf.ok w1.heap.size a0 a1 a2 a3 b0 b1 b2 b3 ha hb la lb _ KK.out).mono ?_
 rintro e w4 ⟨s0,s1,s2,s3,rfl,hs,hv,hbl⟩
 have HV:=Lib.hid hv;clear hv;have HM':=Lib.hid (HM.out.on hbl);have KK':=Lib.hid (KK.out.same hbl);have zk:=KK'.out.lt;clear HM KK hbl;have HM:=HM';have KK:=KK';clear HM' KK';clear x0 x1 x2 x3 xl u0 u1 u2 u3 ul zk;have kr:=HM.out.row (b:=w.heap.size + 1 + 1) (c0:=0) (c1:=0) (c2:=0) (c3:=0) (by simp);have y0:=kr.c0; have y1:=kr.c1; have y2:=kr.c2; have y3:=kr.c3; have yf:=kr.fr;clear kr;have yl:=HM.out.lt (b:=w.heap.size + 1 + 1) (c0:=0) (c1:=0) (c2:=0) (c3:=0) (by simp);go_wp2_with fail;refine bodyPost_ret (v:=.tuple #[.agg #[.int .u64 s0,.int .u64 s1,.int .u64 s2,.int .u64 s3],.int .i64 0]) (by simp [results,results82,go_sem, *]) rfl ?_;refine ⟨_,_,_,_,rfl,hs,HV.out,?_⟩;exact aL HM.out.1 (by omega) _ _ _ _
set_option maxHeartbeats 2000000 in
theorem Dt (f : Int) (F : FC) (hf : FieldIs f F) (a0 a1 a2 a3 b0 b1 b2 b3 : Nat) (ha : aY a0 a1 a2 a3) (hb : aY b0 b1 b2 b3) (la : aA a0 a1 a2 a3 < F.M) (lb : aA b0 b1 b2 b3 < F.M) (w : World) :
  Calls prog 166 #[.int .i64 f,.agg #[.int .u64 a0,.int .u64 a1,.int .u64 a2,.int .u64 a3],.agg #[.int .u64 b0,.int .u64 b1,.int .u64 b2,.int .u64 b3]] w (LM 0 ((aA a0 a1 a2 a3 + F.M - aA b0 b1 b2 b3) % F.M) w):=by
 go_enter func166,ntmps166
 go_wp2_with fail;refine (cK f F hf _).mono ?_
 rintro e w1 ⟨rfl,hbl⟩
 have M1:=((((Mem.nil w).new (w.heap.size) a0 a1 a2 a3 24 (by simp)).new (w.heap.size + 1) b0 b1 b2 b3 24 (by simp)).new (w.heap.size + 1 + 1) 0 0 0 0 24 (by simp)).on hbl;clear hbl;have z0 : w.heap.size < w1.heap.size:=M1.lt (c0:=a0) (c1:=a1) (c2:=a2) (c3:=a3) (by simp);have z1 : w.heap.size + 1 < w1.heap.size:=M1.lt (c0:=b0) (c1:=b1) (c2:=b2) (c3:=b3) (by simp);have z2 : w.heap.size + 1 + 1 < w1.heap.size:=M1.lt (c0:=0) (c1:=0) (c2:=0) (c3:=0) (by simp);have HM:=Lib.hid (M1.on ((Below.refl _ _).alloc (Nat.le_refl _) (.cells #[.int .u64 F.m0,.int .u64 F.m1,.int .u64 F.m2,.int .u64 F.m3,.int .u64 F.inv,.int .u64 F.s0,.int .u64 F.s1,.int .u64 F.s2,.int .u64 F.s3] 129)));have KK:=Lib.hid (KIs.new w1 F 129);have kr:=M1.row (b:=w.heap.size) (c0:=a0) (c1:=a1) (c2:=a2) (c3:=a3) (by simp);have x0:=kr.c0; have x1:=kr.c1; have x2:=kr.c2; have x3:=kr.c3;clear kr;have xl:=M1.lt (b:=w.heap.size) (c0:=a0) (c1:=a1) (c2:=a2) (c3:=a3) (by simp);go_wp2_with fail;refine (cD F hf.ok w1.heap.size a0 a1 a2 a3 ha _ KK.out).mono ?_
 rintro e w2 ⟨he,hbl⟩
 rw [show sI (aA a0 a1 a2 a3) F.M = true from decide_eq_true la] at he;subst he;have HM':=Lib.hid (HM.out.on hbl);have KK':=Lib.hid (KK.out.same hbl);have zk:=KK'.out.lt;clear HM KK hbl M1;have HM:=HM';have KK:=KK';clear HM' KK';clear x0 x1 x2 x3 xl zk;have kr:=HM.out.row (b:=w.heap.size + 1) (c0:=b0) (c1:=b1) (c2:=b2) (c3:=b3) (by simp);have x0:=kr.c0; have x1:=kr.c1; have x2:=kr.c2; have x3:=kr.c3;clear kr;have xl:=HM.out.lt (b:=w.heap.size + 1) (c0:=b0) (c1:=b1) (c2:=b2) (c3:=b3) (by simp);go_wp2_with fail;refine (cD F hf.ok w1.heap.size b0 b1 b2 b3 hb _ KK.out).mono ?_
 rintro e w3 ⟨he,hbl⟩
 rw [show sI (aA b0 b1 b2 b3) F.M = true from decide_eq_true lb] at he;subst he;have HM':=Lib.hid (HM.out.on hbl);have KK':=Lib.hid (KK.out.same hbl);have zk:=KK'.out.lt;clear HM KK hbl;have HM:=HM';have KK:=KK';clear HM' KK';clear x0 x1 x2 x3 xl zk;have kr:=HM.out.row (b:=w.heap.size) (c0:=a0) (c1:=a1) (c2:=a2) (c3:=a3) (by simp);have x0:=kr.c0; have x1:=kr.c1; have x2:=kr.c2; have x3:=kr.c3;clear kr;have xl:=HM.out.lt (b:=w.heap.size) (c0:=a0) (c1:=a1) (c2:=a2) (c3:=a3) (by simp);have kr:=HM.out.row (b:=w.heap.size + 1) (c0:=b0) (c1:=b1) (c2:=b2) (c3:=b3) (by simp);have u0:=kr.c0; have u1:=kr.c1; have u2:=kr.c2; have u3:=kr.c3;clear kr;have ul:=HM.out.lt (b:=w.heap.size + 1) (c0:=b0) (c1:=b1) (c2:=b2) (c3:=b3) (by simp);go_wp2_with fail;refine (kW F hf.ok w1.heap.size a0 a1 a2 a3 b0 b1 b2 b3 ha hb la lb _ KK.out).mono ?_
 rintro e w4 ⟨s0,s1,s2,s3,rfl,hs,hv,hbl⟩
 have HV:=Lib.hid hv;clear hv;have HM':=Lib.hid (HM.out.on hbl);have KK':=Lib.hid (KK.out.same hbl);have zk:=KK'.out.lt;clear HM KK hbl;have HM:=HM';have KK:=KK';clear HM' KK';clear x0 x1 x2 x3 xl u0 u1 u2 u3 ul zk;have kr:=HM.out.row (b:=w.heap.size + 1 + 1) (c0:=0) (c1:=0) (c2:=0) (c3:=0) (by simp);have y0:=kr.c0; have y1:=kr.c1; have y2:=kr.c2; have y3:=kr.c3; have yf:=kr.fr;clear kr;have yl:=HM.out.lt (b:=w.heap.size + 1 + 1) (c0:=0) (c1:=0) (c2:=0) (c3:=0) (by simp);go_wp2_with fail;refine bodyPost_ret (v:=.tuple #[.agg #[.int .u64 s0,.int .u64 s1,.int .u64 s2,.int .u64 s3],.int .i64 0]) (by simp [results,results166,go_sem, *]) rfl ?_;refine ⟨_,_,_,_,rfl,hs,HV.out,?_⟩;exact aL HM.out.1 (by omega) _ _ _ _
set_option maxHeartbeats 2000000 in
theorem Dw (f : Int) (F : FC) (hf : FieldIs f F) (a0 a1 a2 a3 b0 b1 b2 b3 : Nat) (ha : aY a0 a1 a2 a3) (hb : aY b0 b1 b2 b3) (la : aA a0 a1 a2 a3 < F.M) (lb : aA b0 b1 b2 b3 < F.M) (w : World) :
  Calls prog 165 #[.int .i64 f,.agg #[.int .u64 a0,.int .u64 a1,.int .u64 a2,.int .u64 a3],.agg #[.int .u64 b0,.int .u64 b1,.int .u64 b2,.int .u64 b3]] w (LM 0 (aA a0 a1 a2 a3 * aA b0 b1 b2 b3 % F.M) w):=by
 go_enter func165,ntmps165
 go_wp2_with fail;refine (cK f F hf _).mono ?_
 rintro e w1 ⟨rfl,hbl⟩
 have M1:=((((Mem.nil w).new (w.heap.size) a0 a1 a2 a3 24 (by simp)).new (w.heap.size + 1) b0 b1 b2 b3 24 (by simp)).new (w.heap.size + 1 + 1) 0 0 0 0 24 (by simp)).on hbl;clear hbl;have z0 : w.heap.size < w1.heap.size:=M1.lt (c0:=a0) (c1:=a1) (c2:=a2) (c3:=a3) (by simp);have z1 : w.heap.size + 1 < w1.heap.size:=M1.lt (c0:=b0) (c1:=b1) (c2:=b2) (c3:=b3) (by simp);have z2 : w.heap.size + 1 + 1 < w1.heap.size:=M1.lt (c0:=0) (c1:=0) (c2:=0) (c3:=0) (by simp);have HM:=Lib.hid (M1.on ((Below.refl _ _).alloc (Nat.le_refl _) (.cells #[.int .u64 F.m0,.int .u64 F.m1,.int .u64 F.m2,.int .u64 F.m3,.int .u64 F.inv,.int .u64 F.s0,.int .u64 F.s1,.int .u64 F.s2,.int .u64 F.s3] 129)));have KK:=Lib.hid (KIs.new w1 F 129);have kr:=M1.row (b:=w.heap.size) (c0:=a0) (c1:=a1) (c2:=a2) (c3:=a3) (by simp);have x0:=kr.c0; have x1:=kr.c1; have x2:=kr.c2; have x3:=kr.c3;clear kr;have xl:=M1.lt (b:=w.heap.size) (c0:=a0) (c1:=a1) (c2:=a2) (c3:=a3) (by simp);go_wp2_with fail;refine (cD F hf.ok w1.heap.size a0 a1 a2 a3 ha _ KK.out).mono ?_
 rintro e w2 ⟨he,hbl⟩
 rw [show sI (aA a0 a1 a2 a3) F.M = true from decide_eq_true la] at he;subst he;have HM':=Lib.hid (HM.out.on hbl);have KK':=Lib.hid (KK.out.same hbl);have zk:=KK'.out.lt;clear HM KK hbl M1;have HM:=HM';have KK:=KK';clear HM' KK';clear x0 x1 x2 x3 xl zk;have kr:=HM.out.row (b:=w.heap.size + 1) (c0:=b0) (c1:=b1) (c2:=b2) (c3:=b3) (by simp);have x0:=kr.c0; have x1:=kr.c1; have x2:=kr.c2; have x3:=kr.c3;clear kr;have xl:=HM.out.lt (b:=w.heap.size + 1) (c0:=b0) (c1:=b1) (c2:=b2) (c3:=b3) (by simp);go_wp2_with fail;refine (cD F hf.ok w1.heap.size b0 b1 b2 b3 hb _ KK.out).mono ?_
 rintro e w3 ⟨he,hbl⟩
 rw [show sI (aA b0 b1 b2 b3) F.M = true from decide_eq_true lb] at he;subst he;have HM':=Lib.hid (HM.out.on hbl);have KK':=Lib.hid (KK.out.same hbl);have zk:=KK'.out.lt;clear HM KK hbl;have HM:=HM';have KK:=KK';clear HM' KK';clear x0 x1 x2 x3 xl zk;have kr:=HM.out.row (b:=w.heap.size) (c0:=a0) (c1:=a1) (c2:=a2) (c3:=a3) (by simp);have x0:=kr.c0; have x1:=kr.c1; have x2:=kr.c2; have x3:=kr.c3;clear kr;have xl:=HM.out.lt (b:=w.heap.size) (c0:=a0) (c1:=a1) (c2:=a2) (c3:=a3) (by simp);have kr:=HM.out.row (b:=w.heap.size + 1) (c0:=b0) (c1:=b1) (c2:=b2) (c3:=b3) (by simp);have u0:=kr.c0; have u1:=kr.c1; have u2:=kr.c2; have u3:=kr.c3;clear kr;have ul:=HM.out.lt (b:=w.heap.size + 1) (c0:=b0) (c1:=b1) (c2:=b2) (c3:=b3) (by simp);go_wp2_with fail;refine (CV F hf.ok w1.heap.size a0 a1 a2 a3 b0 b1 b2 b3 ha hb lb _ KK.out).mono ?_
 rintro e w4 ⟨s0,s1,s2,s3,rfl,hs,hv,hbl⟩
 have HV:=Lib.hid hv;clear hv;have HM':=Lib.hid (HM.out.on hbl);have KK':=Lib.hid (KK.out.same hbl);have zk:=KK'.out.lt;clear HM KK hbl;have HM:=HM';have KK:=KK';clear HM' KK';clear x0 x1 x2 x3 xl u0 u1 u2 u3 ul zk;have kr:=HM.out.row (b:=w.heap.size + 1 + 1) (c0:=0) (c1:=0) (c2:=0) (c3:=0) (by simp);have y0:=kr.c0; have y1:=kr.c1; have y2:=kr.c2; have y3:=kr.c3; have yf:=kr.fr;clear kr;have yl:=HM.out.lt (b:=w.heap.size + 1 + 1) (c0:=0) (c1:=0) (c2:=0) (c3:=0) (by simp);go_wp2_with fail;refine bodyPost_ret (v:=.tuple #[.agg #[.int .u64 s0,.int .u64 s1,.int .u64 s2,.int .u64 s3],.int .i64 0]) (by simp [results,results165,go_sem, *]) rfl ?_;refine ⟨_,_,_,_,rfl,hs,HV.out,?_⟩;exact aL HM.out.1 (by omega) _ _ _ _
set_option maxHeartbeats 2000000 in
theorem Dv (f : Int) (F : FC) (hf : FieldIs f F) (a0 a1 a2 a3 : Nat) (ha : aY a0 a1 a2 a3) (la : aA a0 a1 a2 a3 < F.M) (w : World) :
  Calls prog 85 #[.int .i64 f,.agg #[.int .u64 a0,.int .u64 a1,.int .u64 a2,.int .u64 a3]] w (LM 0 ((0 + F.M - aA a0 a1 a2 a3) % F.M) w):=by
 go_enter func85,ntmps85
 go_wp2_with fail;refine (cK f F hf _).mono ?_
 rintro e w1 ⟨rfl,hbl⟩
 have M1:=(((Mem.nil w).new (w.heap.size) a0 a1 a2 a3 24 (by simp)).new (w.heap.size + 1) 0 0 0 0 24 (by simp)).on hbl;clear hbl;have z0 : w.heap.size < w1.heap.size:=M1.lt (c0:=a0) (c1:=a1) (c2:=a2) (c3:=a3) (by simp);have z1 : w.heap.size + 1 < w1.heap.size:=M1.lt (c0:=0) (c1:=0) (c2:=0) (c3:=0) (by simp);have HM:=Lib.hid (M1.on ((Below.refl _ _).alloc (Nat.le_refl _) (.cells #[.int .u64 F.m0,.int .u64 F.m1,.int .u64 F.m2,.int .u64 F.m3,.int .u64 F.inv,.int .u64 F.s0,.int .u64 F.s1,.int .u64 F.s2,.int .u64 F.s3] 129)));have KK:=Lib.hid (KIs.new w1 F 129);have kr:=M1.row (b:=w.heap.size) (c0:=a0) (c1:=a1) (c2:=a2) (c3:=a3) (by simp);have x0:=kr.c0; have x1:=kr.c1; have x2:=kr.c2; have x3:=kr.c3;clear kr;have xl:=M1.lt (b:=w.heap.size) (c0:=a0) (c1:=a1) (c2:=a2) (c3:=a3) (by simp);go_wp2_with fail;refine (cD F hf.ok w1.heap.size a0 a1 a2 a3 ha _ KK.out).mono ?_
 rintro e w2 ⟨he,hbl⟩
 rw [show sI (aA a0 a1 a2 a3) F.M = true from decide_eq_true la] at he;subst he;have HM':=Lib.hid (HM.out.on hbl);have KK':=Lib.hid (KK.out.same hbl);have zk:=KK'.out.lt;clear HM KK hbl M1;have HM:=HM';have KK:=KK';clear HM' KK';clear x0 x1 x2 x3 xl zk;have kr:=HM.out.row (b:=w.heap.size) (c0:=a0) (c1:=a1) (c2:=a2) (c3:=a3) (by simp);have x0:=kr.c0; have x1:=kr.c1; have x2:=kr.c2; have x3:=kr.c3;clear kr;have xl:=HM.out.lt (b:=w.heap.size) (c0:=a0) (c1:=a1) (c2:=a2) (c3:=a3) (by simp);go_wp2_with fail;refine (kW F hf.ok w1.heap.size 0 0 0 0 a0 a1 a2 a3 vW ha hf.ok.pos la _ KK.out).mono ?_
 rintro e w4 ⟨s0,s1,s2,s3,rfl,hs,hv,hbl⟩
 have HV:=Lib.hid hv;clear hv;have HM':=Lib.hid (HM.out.on hbl);have KK':=Lib.hid (KK.out.same hbl);have zk:=KK'.out.lt;clear HM KK hbl;have HM:=HM';have KK:=KK';clear HM' KK';clear x0 x1 x2 x3 xl zk;have kr:=HM.out.row (b:=w.heap.size + 1) (c0:=0) (c1:=0) (c2:=0) (c3:=0) (by simp);have y0:=kr.c0; have y1:=kr.c1; have y2:=kr.c2; have y3:=kr.c3; have yf:=kr.fr;clear kr;have yl:=HM.out.lt (b:=w.heap.size + 1) (c0:=0) (c1:=0) (c2:=0) (c3:=0) (by simp);go_wp2_with fail;refine bodyPost_ret (v:=.tuple #[.agg #[.int .u64 s0,.int .u64 s1,.int .u64 s2,.int .u64 s3],.int .i64 0]) (by simp [results,results85,go_sem, *]) rfl ?_;refine ⟨_,_,_,_,rfl,hs,HV.out,?_⟩;exact aL HM.out.1 (by omega) _ _ _ _
set_option maxHeartbeats 2000000 in
theorem BD (f c : Int) (a0 a1 a2 a3 : Nat) (ha : aY a0 a1 a2 a3) (h : Bad1 f (aA a0 a1 a2 a3) c) (w : World) :
  Calls prog 162 #[.int .i64 f,.agg #[.int .u64 a0,.int .u64 a1,.int .u64 a2,.int .u64 a3]] w fun e w' => e = .returned (.int .i64 c) ∧ Below w.heap.size w w':=by
 rcases h with ⟨h1,h2,rfl⟩ | ⟨F,hf,la,rfl⟩
 ·go_enter func162,ntmps162
  go_wp2_with fail;refine (EY f h1 h2 _).mono ?_
  rintro e w1 ⟨rfl,hbl⟩
  have M1:=((Mem.nil w).new (w.heap.size) a0 a1 a2 a3 24 (by simp)).on hbl;clear hbl;have z0 : w.heap.size < w1.heap.size:=M1.lt (c0:=a0) (c1:=a1) (c2:=a2) (c3:=a3) (by simp);have HM:=Lib.hid (M1.on ((Below.refl _ _).alloc (Nat.le_refl _) (.cells #[.int .u64 0,.int .u64 0,.int .u64 0,.int .u64 0,.int .u64 0,.int .u64 0,.int .u64 0,.int .u64 0,.int .u64 0] 129)));go_wp2_with fail;refine (vK _).mono ?_
  rintro e w2 ⟨rfl,rfl⟩
  go_wp2_with fail;refine bodyPost_ret (v:=.int .i64 1) (by simp [results,results162,go_sem, *]) rfl ?_;exact ⟨rfl,HM.out.1⟩
 ·go_enter func162,ntmps162
  go_wp2_with fail;refine (cK f F hf _).mono ?_
  rintro e w1 ⟨rfl,hbl⟩
  have M1:=((Mem.nil w).new (w.heap.size) a0 a1 a2 a3 24 (by simp)).on hbl;clear hbl;have z0 : w.heap.size < w1.heap.size:=M1.lt (c0:=a0) (c1:=a1) (c2:=a2) (c3:=a3) (by simp);have HM:=Lib.hid (M1.on ((Below.refl _ _).alloc (Nat.le_refl _) (.cells #[.int .u64 F.m0,.int .u64 F.m1,.int .u64 F.m2,.int .u64 F.m3,.int .u64 F.inv,.int .u64 F.s0,.int .u64 F.s1,.int .u64 F.s2,.int .u64 F.s3] 129)));have KK:=Lib.hid (KIs.new w1 F 129);have kr:=M1.row (b:=w.heap.size) (c0:=a0) (c1:=a1) (c2:=a2) (c3:=a3) (by simp);have x0:=kr.c0; have x1:=kr.c1; have x2:=kr.c2; have x3:=kr.c3;clear kr;have xl:=M1.lt (b:=w.heap.size) (c0:=a0) (c1:=a1) (c2:=a2) (c3:=a3) (by simp);go_wp2_with fail;refine (cD F hf.ok w1.heap.size a0 a1 a2 a3 ha _ KK.out).mono ?_
  rintro e w2 ⟨he,hbl⟩
  rw [show sI (aA a0 a1 a2 a3) F.M = false from decide_eq_false la] at he;subst he;have HM':=Lib.hid (HM.out.on hbl);have KK':=Lib.hid (KK.out.same hbl);have zk:=KK'.out.lt;clear HM KK hbl M1;have HM:=HM';have KK:=KK';clear HM' KK';clear x0 x1 x2 x3 xl zk;go_wp2_with fail;refine (vJ _).mono ?_
  rintro e w3 ⟨rfl,rfl⟩
  go_wp2_with fail;refine bodyPost_ret (v:=.int .i64 21) (by simp [results,results162,go_sem, *]) rfl ?_;exact ⟨rfl,HM.out.1⟩
set_option maxHeartbeats 2000000 in
theorem ET (f : Int) (F : FC) (hf : FieldIs f F) (a0 a1 a2 a3 : Nat) (ha : aY a0 a1 a2 a3) (la : aA a0 a1 a2 a3 < F.M) (w : World) :
  Calls prog 162 #[.int .i64 f,.agg #[.int .u64 a0,.int .u64 a1,.int .u64 a2,.int .u64 a3]] w (fun e w' => e = .returned (.int .i64 0) ∧ Below w.heap.size w w'):=by
 go_enter func162,ntmps162
 go_wp2_with fail;refine (cK f F hf _).mono ?_
 rintro e w1 ⟨rfl,hbl⟩
 have M1:=((Mem.nil w).new (w.heap.size) a0 a1 a2 a3 24 (by simp)).on hbl;clear hbl;have z0 : w.heap.size < w1.heap.size:=M1.lt (c0:=a0) (c1:=a1) (c2:=a2) (c3:=a3) (by simp);have HM:=Lib.hid (M1.on ((Below.refl _ _).alloc (Nat.le_refl _) (.cells #[.int .u64 F.m0,.int .u64 F.m1,.int .u64 F.m2,.int .u64 F.m3,.int .u64 F.inv,.int .u64 F.s0,.int .u64 F.s1,.int .u64 F.s2,.int .u64 F.s3] 129)));have KK:=Lib.hid (KIs.new w1 F 129);have kr:=M1.row (b:=w.heap.size) (c0:=a0) (c1:=a1) (c2:=a2) (c3:=a3) (by simp);have x0:=kr.c0; have x1:=kr.c1; have x2:=kr.c2; have x3:=kr.c3;clear kr;have xl:=M1.lt (b:=w.heap.size) (c0:=a0) (c1:=a1) (c2:=a2) (c3:=a3) (by simp);go_wp2_with fail;refine (cD F hf.ok w1.heap.size a0 a1 a2 a3 ha _ KK.out).mono ?_
 rintro e w2 ⟨he,hbl⟩
 rw [show sI (aA a0 a1 a2 a3) F.M = true from decide_eq_true la] at he;subst he;have HM':=Lib.hid (HM.out.on hbl);have KK':=Lib.hid (KK.out.same hbl);have zk:=KK'.out.lt;clear HM KK hbl M1;have HM:=HM';have KK:=KK';clear HM' KK';clear x0 x1 x2 x3 xl zk;go_wp2_with fail;go_ret;exact ⟨rfl,HM.out.1⟩
set_option maxHeartbeats 2000000 in
theorem EO (f : Int) (F : FC) (hf : FieldIs f F) (a0 a1 a2 a3 : Nat) (ha : aY a0 a1 a2 a3) (la : aA a0 a1 a2 a3 < F.M) (w : World) :
  Calls prog 80 #[.int .i64 f,.agg #[.int .u64 a0,.int .u64 a1,.int .u64 a2,.int .u64 a3]] w (fun e w' => e = .returned (.tuple #[.bool (fV F.M (aA a0 a1 a2 a3)),.int .i64 0]) ∧ Below w.heap.size w w'):=by
 go_enter func80,ntmps80
 go_wp2_with fail;refine (cK f F hf _).mono ?_
 rintro e w1 ⟨rfl,hbl⟩
 have M1:=((Mem.nil w).new (w.heap.size) a0 a1 a2 a3 24 (by simp)).on hbl;clear hbl;have z0 : w.heap.size < w1.heap.size:=M1.lt (c0:=a0) (c1:=a1) (c2:=a2) (c3:=a3) (by simp);have HM:=Lib.hid (M1.on ((Below.refl _ _).alloc (Nat.le_refl _) (.cells #[.int .u64 F.m0,.int .u64 F.m1,.int .u64 F.m2,.int .u64 F.m3,.int .u64 F.inv,.int .u64 F.s0,.int .u64 F.s1,.int .u64 F.s2,.int .u64 F.s3] 129)));have KK:=Lib.hid (KIs.new w1 F 129);have kr:=M1.row (b:=w.heap.size) (c0:=a0) (c1:=a1) (c2:=a2) (c3:=a3) (by simp);have x0:=kr.c0; have x1:=kr.c1; have x2:=kr.c2; have x3:=kr.c3;clear kr;have xl:=M1.lt (b:=w.heap.size) (c0:=a0) (c1:=a1) (c2:=a2) (c3:=a3) (by simp);go_wp2_with fail;refine (cD F hf.ok w1.heap.size a0 a1 a2 a3 ha _ KK.out).mono ?_
 rintro e w2 ⟨he,hbl⟩
 rw [show sI (aA a0 a1 a2 a3) F.M = true from decide_eq_true la] at he;subst he;have HM':=Lib.hid (HM.out.on hbl);have KK':=Lib.hid (KK.out.same hbl);have zk:=KK'.out.lt;clear HM KK hbl M1;have HM:=HM';have KK:=KK';clear HM' KK';clear x0 x1 x2 x3 xl zk;have kr:=HM.out.row (b:=w.heap.size) (c0:=a0) (c1:=a1) (c2:=a2) (c3:=a3) (by simp);have x0:=kr.c0; have x1:=kr.c1; have x2:=kr.c2; have x3:=kr.c3;clear kr;have xl:=HM.out.lt (b:=w.heap.size) (c0:=a0) (c1:=a1) (c2:=a2) (c3:=a3) (by simp);go_wp2_with fail;refine (pQ F hf.ok w1.heap.size a0 a1 a2 a3 ha la _ KK.out).mono ?_
 rintro e w4 ⟨rfl,hbl⟩
 have HM':=Lib.hid (HM.out.on hbl);have KK':=Lib.hid (KK.out.same hbl);have zk:=KK'.out.lt;clear HM KK hbl;have HM:=HM';have KK:=KK';clear HM' KK';clear x0 x1 x2 x3 xl zk;go_wp2_with fail
 go_ret2
 exact ⟨rfl,HM.out.1⟩
set_option maxHeartbeats 2000000 in
theorem pR (f : Int) (F : FC) (hf : FieldIs f F) (w : World) : Calls prog 54 #[.int .i64 f] w fun e w' => e = .returned (.agg #[.int .u64 F.m0,.int .u64 F.m1,.int .u64 F.m2,.int .u64 F.m3]) ∧ Below w.heap.size w w':=by
 go_enter func54,ntmps54
 go_wp2_with fail;refine (cK f F hf _).mono ?_
 rintro e w1 ⟨rfl,hbl⟩
 have M1:=((Mem.nil w).new (w.heap.size) 0 0 0 0 81 (by simp)).on hbl;clear hbl;have z0 : w.heap.size < w1.heap.size:=M1.lt (c0:=0) (c1:=0) (c2:=0) (c3:=0) (by simp);have HM:=Lib.hid (M1.on ((Below.refl _ _).alloc (Nat.le_refl _) (.cells #[.int .u64 F.m0,.int .u64 F.m1,.int .u64 F.m2,.int .u64 F.m3,.int .u64 F.inv,.int .u64 F.s0,.int .u64 F.s1,.int .u64 F.s2,.int .u64 F.s3] 129)));have KK:=Lib.hid (KIs.new w1 F 129);have k0:=KK.out.k0; have k1:=KK.out.k1; have k2:=KK.out.k2; have k3:=KK.out.k3;have kr:=M1.row (b:=w.heap.size) (c0:=0) (c1:=0) (c2:=0) (c3:=0) (by simp);have y0:=kr.c0; have y1:=kr.c1; have y2:=kr.c2; have y3:=kr.c3; have yf:=kr.fr;clear kr;have yl:=M1.lt (b:=w.heap.size) (c0:=0) (c1:=0) (c2:=0) (c3:=0) (by simp);go_wp2_with fail;refine bodyPost_ret (v:=.agg #[.int .u64 F.m0,.int .u64 F.m1,.int .u64 F.m2,.int .u64 F.m3]) (by simp [results,results54,go_sem, *]) rfl ?_;refine ⟨rfl,?_⟩
 repeat (first | exact M1.1 | exact HM.out.1 | refine Below.alloc ?_ (by first | (simp; done) | (simp; omega)) _ | refine Below.setCell ?_ (by first | (simp; done) | (simp; omega)) _)
open Go.ChangeShapes Go.WideShapes Go.ChangeAt Go.RowKit
def LAt (w : World) (g off len : Nat) (A : Nat → Nat → Nat) : Prop:=∀ k,k < len →
 w.cell? ⟨g,off + k * 4,none⟩ = some (.int .u64 (A k 0)) ∧ w.cell? ⟨g,off + k * 4 + 1,none⟩ = some (.int .u64 (A k 1)) ∧
 w.cell? ⟨g,off + k * 4 + 2,none⟩ = some (.int .u64 (A k 2)) ∧ w.cell? ⟨g,off + k * 4 + 3,none⟩ = some (.int .u64 (A k 3))
def LOk (len : Nat) (A : Nat → Nat → Nat) : Prop:=∀ k,k < len → aY (A k 0) (A k 1) (A k 2) (A k 3)
theorem LAt.same {w w' : World} {g off len : Nat} {A : Nat → Nat → Nat} {B : Nat} (h : LAt w g off len A) (hg : 0 < len → g < B) (hb : Below B w w') : LAt w' g off len A :=
 fun k hk => have hg:=hg (Nat.lt_of_le_of_lt (Nat.zero_le _) hk); ⟨(hb.cell (p:=⟨g,off + k * 4,none⟩) hg).trans (h k hk).1,(hb.cell (p:=⟨g,off + k * 4 + 1,none⟩) hg).trans (h k hk).2.1,
  (hb.cell (p:=⟨g,off + k * 4 + 2,none⟩) hg).trans (h k hk).2.2.1,(hb.cell (p:=⟨g,off + k * 4 + 3,none⟩) hg).trans (h k hk).2.2.2⟩
set_option maxHeartbeats 1000000 in
theorem JP (F : FC) (hF : F.Ok) (b g off len cap : Nat) (A : Nat → Nat → Nat) (hA : LOk len A) (hm : len ≤ 9223372036854775807) (w : World) (hk : KIs w b F) (hg : 0 < len → g < w.heap.size) (hl : LAt w g off len A) :
  Calls prog 195 #[.pointer (some ⟨b,0,none⟩),.slice (some ⟨g,off,none⟩) len cap] w fun e w' => (∃ t : Bool,e = .returned (.bool t) ∧ (t = true ↔ ∀ k,k < len → aA (A k 0) (A k 1) (A k 2) (A k 3) < F.M)) ∧ Below w.heap.size w w':=by
 have HK:=Lib.hid hk;have HL:=Lib.hid hl;have HG:=Lib.hid hg;clear hg;have HA:=Lib.hid hA;have HF:=Lib.hid hF;clear hk hl hA hF
 go_enter func195,ntmps195
 go_wp2_with fail
 go_loopw [9] (fun t wr => ∃ k : Nat,k ≤ len ∧ t = .int .i64 k ∧ Hid (∀ j,j < k → aA (A j 0) (A j 1) (A j 2) (A j 3) < F.M) ∧ Below w.heap.size w wr) (fun t _ => len - (intOf t).toNat)
 case atStart => exact ⟨0,Nat.zero_le _,rfl,Lib.hid (fun j h => absurd h (by omega)),Below.refl _ _⟩
 case round =>
  obtain ⟨k,hk,rfl,ha,hbl⟩:=hrel
  by_cases hlt : k < len
  ·obtain ⟨a0,a1,a2,a3,e0,e1,e2,e3⟩ : ∃ a0 a1 a2 a3 : Nat,a0 = A k 0 ∧ a1 = A k 1 ∧ a2 = A k 2 ∧ a3 = A k 3:=⟨_,_,_,_,rfl,rfl,rfl,rfl⟩
   have hc:=(HL.out.same HG.out hbl) k hlt;have hok:=HA.out k hlt;rw [← e0,← e1,← e2,← e3] at hc hok;have c0:=hc.1; have c1:=hc.2.1; have c2:=hc.2.2.1; have c3:=hc.2.2.2;clear hc;have HB:=Lib.hid hbl;have HR:=Lib.hid (HK.out.same hbl);clear hbl;have HE:=Lib.hid (And.intro e0 (And.intro e1 (And.intro e2 e3)));have HO:=Lib.hid hok;clear e0 e1 e2 e3 hok;have hsz : w.heap.size ≤ wr.heap.size:=HB.out.size;go_wp2_with fail;refine (cD F HF.out b a0 a1 a2 a3 HO.out _ (HR.out.same ((Below.refl _ _).alloc (Nat.le_refl _) _))).mono ?_
   rintro e w2 ⟨rfl,hb2⟩
   have HW:=Lib.hid ((HB.out.alloc hsz (.cells #[.int .u64 a0,.int .u64 a1,.int .u64 a2,.int .u64 a3] 24)).trans (hb2.mono (by simp; omega)));clear hb2 c0 c1 c2 c3
   by_cases hv : aA a0 a1 a2 a3 < F.M
   ·rw [show sI (aA a0 a1 a2 a3) F.M = true from decide_eq_true hv];have HN:=Lib.hid (show ∀ j,j < k + 1 → aA (A j 0) (A j 1) (A j 2) (A j 3) < F.M from fun j h => by
     by_cases e : j = k
     ·subst e; rw [← HE.out.1,← HE.out.2.1,← HE.out.2.2.1,← HE.out.2.2.2]; exact hv
     ·exact ha.out j (by omega))
    clear hv;go_wp2_with fail
    go_round
    case rel => exact ⟨k + 1,by omega,by go_num,HN,HW.out⟩
    case measure => simp [intOf]; omega
   ·rw [show sI (aA a0 a1 a2 a3) F.M = false from decide_eq_false hv];have HN:=Lib.hid (show ¬ ∀ j,j < len → aA (A j 0) (A j 1) (A j 2) (A j 3) < F.M from fun h => hv (by
     have:=h k hlt
     rwa [← HE.out.1,← HE.out.2.1,← HE.out.2.2.1,← HE.out.2.2.2] at this))
    clear hv;go_wp2_with fail;go_ret;exact ⟨⟨false,rfl,⟨fun h => (by cases h),fun h => absurd h HN.out⟩⟩,HW.out⟩
  ·obtain rfl : k = len:=by omega
   have HB:=Lib.hid hbl;clear hbl;go_wp2_with fail;go_ret;exact ⟨⟨true,rfl,⟨fun _ => ha.out,fun _ => rfl⟩⟩,HB.out⟩
set_option maxHeartbeats 2000000 in
theorem Wh (f : Int) (F : FC) (hf : FieldIs f F) (a0 a1 a2 a3 b0 b1 b2 b3 : Nat) (ha : aY a0 a1 a2 a3) (hb : aY b0 b1 b2 b3) (la : aA a0 a1 a2 a3 < F.M) (lb : aA b0 b1 b2 b3 < F.M) (hz : aA b0 b1 b2 b3 = 0) (w : World) :
  Calls prog 141 #[.int .i64 f,.agg #[.int .u64 a0,.int .u64 a1,.int .u64 a2,.int .u64 a3],.agg #[.int .u64 b0,.int .u64 b1,.int .u64 b2,.int .u64 b3]] w (LM 22 0 w):=by
 have HE:=Lib.hid (show ∀ w,(Op.equalIn 10000 24 (.agg #[.int .u64 b0,.int .u64 b1,.int .u64 b2,.int .u64 b3]) (.agg #[.int .u64 0,.int .u64 0,.int .u64 0,.int .u64 0])).run prog w = .ok true w from fun w => by
  have h:=kG 9998 b0 b1 b2 b3 0 0 0 0 w;rw [(fC hb vW).2 (hz.trans rfl)] at h;exact h)
 have hG:=lW;clear hz
 go_enter func141,ntmps141
 go_wp2_with fail;refine (cK f F hf _).mono ?_
 rintro e w1 ⟨rfl,hbl⟩
 have M1:=((((Mem.nil w).new (w.heap.size) a0 a1 a2 a3 24 (by simp)).new (w.heap.size + 1) b0 b1 b2 b3 24 (by simp)).new (w.heap.size + 1 + 1) 0 0 0 0 24 (by simp)).on hbl;clear hbl;have z0 : w.heap.size < w1.heap.size:=M1.lt (c0:=a0) (c1:=a1) (c2:=a2) (c3:=a3) (by simp);have z1 : w.heap.size + 1 < w1.heap.size:=M1.lt (c0:=b0) (c1:=b1) (c2:=b2) (c3:=b3) (by simp);have z2 : w.heap.size + 1 + 1 < w1.heap.size:=M1.lt (c0:=0) (c1:=0) (c2:=0) (c3:=0) (by simp);have HM:=Lib.hid (M1.on ((Below.refl _ _).alloc (Nat.le_refl _) (.cells #[.int .u64 F.m0,.int .u64 F.m1,.int .u64 F.m2,.int .u64 F.m3,.int .u64 F.inv,.int .u64 F.s0,.int .u64 F.s1,.int .u64 F.s2,.int .u64 F.s3] 129)));have KK:=Lib.hid (KIs.new w1 F 129);have kr:=M1.row (b:=w.heap.size) (c0:=a0) (c1:=a1) (c2:=a2) (c3:=a3) (by simp);have x0:=kr.c0; have x1:=kr.c1; have x2:=kr.c2; have x3:=kr.c3;clear kr;have xl:=M1.lt (b:=w.heap.size) (c0:=a0) (c1:=a1) (c2:=a2) (c3:=a3) (by simp);go_wp2_with fail;refine (cD F hf.ok w1.heap.size a0 a1 a2 a3 ha _ KK.out).mono ?_
 rintro e w2 ⟨he,hbl⟩
 rw [show sI (aA a0 a1 a2 a3) F.M = true from decide_eq_true la] at he;subst he;have HM':=Lib.hid (HM.out.on hbl);have KK':=Lib.hid (KK.out.same hbl);have zk:=KK'.out.lt;clear HM KK hbl M1;have HM:=HM';have KK:=KK';clear HM' KK';clear x0 x1 x2 x3 xl zk;have kr:=HM.out.row (b:=w.heap.size + 1) (c0:=b0) (c1:=b1) (c2:=b2) (c3:=b3) (by simp);have x0:=kr.c0; have x1:=kr.c1; have x2:=kr.c2; have x3:=kr.c3;clear kr;have xl:=HM.out.lt (b:=w.heap.size + 1) (c0:=b0) (c1:=b1) (c2:=b2) (c3:=b3) (by simp);go_wp2_with fail;refine (cD F hf.ok w1.heap.size b0 b1 b2 b3 hb _ KK.out).mono ?_
 rintro e w3 ⟨he,hbl⟩
 rw [show sI (aA b0 b1 b2 b3) F.M = true from decide_eq_true lb] at he;subst he;have HM':=Lib.hid (HM.out.on hbl);have KK':=Lib.hid (KK.out.same hbl);have zk:=KK'.out.lt;clear HM KK hbl;have HM:=HM';have KK:=KK';clear HM' KK';clear x0 x1 x2 x3 xl zk;have kr:=HM.out.row (b:=w.heap.size + 1) (c0:=b0) (c1:=b1) (c2:=b2) (c3:=b3) (by simp);have u0:=kr.c0; have u1:=kr.c1; have u2:=kr.c2; have u3:=kr.c3;clear kr;have ul:=HM.out.lt (b:=w.heap.size + 1) (c0:=b0) (c1:=b1) (c2:=b2) (c3:=b3) (by simp);have kr:=HM.out.row (b:=w.heap.size + 1 + 1) (c0:=0) (c1:=0) (c2:=0) (c3:=0) (by simp);have y0:=kr.c0; have y1:=kr.c1; have y2:=kr.c2; have y3:=kr.c3; have yf:=kr.fr;clear kr;have yl:=HM.out.lt (b:=w.heap.size + 1 + 1) (c0:=0) (c1:=0) (c2:=0) (c3:=0) (by simp);have hE:=HE.out;go_wp2_with fail;refine bodyPost_ret (v:=.tuple #[.agg #[.int .u64 0,.int .u64 0,.int .u64 0,.int .u64 0],.int .i64 22]) (by simp [results,results141,go_sem, *]) rfl ?_;refine ⟨_,_,_,_,rfl,vW,rfl,?_⟩;exact aL HM.out.1 (by omega) 0 0 0 0
set_option maxHeartbeats 2000000 in
theorem Dz (f : Int) (F : FC) (hf : FieldIs f F) (a0 a1 a2 a3 b0 b1 b2 b3 : Nat) (ha : aY a0 a1 a2 a3) (hb : aY b0 b1 b2 b3) (la : aA a0 a1 a2 a3 < F.M) (lb : aA b0 b1 b2 b3 < F.M) (hz : aA b0 b1 b2 b3 ≠ 0) (w : World) :
  Calls prog 141 #[.int .i64 f,.agg #[.int .u64 a0,.int .u64 a1,.int .u64 a2,.int .u64 a3],.agg #[.int .u64 b0,.int .u64 b1,.int .u64 b2,.int .u64 b3]] w (LM 0 (aA a0 a1 a2 a3 * (aA b0 b1 b2 b3 ^ (F.M - 2)) % F.M) w):=by
 have HE:=Lib.hid (show ∀ w,(Op.equalIn 10000 24 (.agg #[.int .u64 b0,.int .u64 b1,.int .u64 b2,.int .u64 b3]) (.agg #[.int .u64 0,.int .u64 0,.int .u64 0,.int .u64 0])).run prog w = .ok false w from fun w => by
  have h:=kG 9998 b0 b1 b2 b3 0 0 0 0 w;have q : CH b0 b1 b2 b3 0 0 0 0 = false:=by
   cases q : CH b0 b1 b2 b3 0 0 0 0
   ·rfl
   ·exact absurd (((fC hb vW).1 q).trans rfl) hz
  rw [q] at h;exact h)
 have hG:=lW;clear hz
 go_enter func141,ntmps141
 go_wp2_with fail;refine (cK f F hf _).mono ?_
 rintro e w1 ⟨rfl,hbl⟩
 have M1:=((((Mem.nil w).new (w.heap.size) a0 a1 a2 a3 24 (by simp)).new (w.heap.size + 1) b0 b1 b2 b3 24 (by simp)).new (w.heap.size + 1 + 1) 0 0 0 0 24 (by simp)).on hbl;clear hbl;have z0 : w.heap.size < w1.heap.size:=M1.lt (c0:=a0) (c1:=a1) (c2:=a2) (c3:=a3) (by simp);have z1 : w.heap.size + 1 < w1.heap.size:=M1.lt (c0:=b0) (c1:=b1) (c2:=b2) (c3:=b3) (by simp);have z2 : w.heap.size + 1 + 1 < w1.heap.size:=M1.lt (c0:=0) (c1:=0) (c2:=0) (c3:=0) (by simp);have HM:=Lib.hid (M1.on ((Below.refl _ _).alloc (Nat.le_refl _) (.cells #[.int .u64 F.m0,.int .u64 F.m1,.int .u64 F.m2,.int .u64 F.m3,.int .u64 F.inv,.int .u64 F.s0,.int .u64 F.s1,.int .u64 F.s2,.int .u64 F.s3] 129)));have KK:=Lib.hid (KIs.new w1 F 129);have kr:=M1.row (b:=w.heap.size) (c0:=a0) (c1:=a1) (c2:=a2) (c3:=a3) (by simp);have x0:=kr.c0; have x1:=kr.c1; have x2:=kr.c2; have x3:=kr.c3;clear kr;have xl:=M1.lt (b:=w.heap.size) (c0:=a0) (c1:=a1) (c2:=a2) (c3:=a3) (by simp);go_wp2_with fail;refine (cD F hf.ok w1.heap.size a0 a1 a2 a3 ha _ KK.out).mono ?_
 rintro e w2 ⟨he,hbl⟩
 rw [show sI (aA a0 a1 a2 a3) F.M = true from decide_eq_true la] at he;subst he;have HM':=Lib.hid (HM.out.on hbl);have KK':=Lib.hid (KK.out.same hbl);have zk:=KK'.out.lt;clear HM KK hbl M1;have HM:=HM';have KK:=KK';clear HM' KK';clear x0 x1 x2 x3 xl zk;have kr:=HM.out.row (b:=w.heap.size + 1) (c0:=b0) (c1:=b1) (c2:=b2) (c3:=b3) (by simp);have x0:=kr.c0; have x1:=kr.c1; have x2:=kr.c2; have x3:=kr.c3;clear kr;have xl:=HM.out.lt (b:=w.heap.size + 1) (c0:=b0) (c1:=b1) (c2:=b2) (c3:=b3) (by simp);go_wp2_with fail;refine (cD F hf.ok w1.heap.size b0 b1 b2 b3 hb _ KK.out).mono ?_
 rintro e w3 ⟨he,hbl⟩
 rw [show sI (aA b0 b1 b2 b3) F.M = true from decide_eq_true lb] at he;subst he;have HM':=Lib.hid (HM.out.on hbl);have KK':=Lib.hid (KK.out.same hbl);have zk:=KK'.out.lt;clear HM KK hbl;have HM:=HM';have KK:=KK';clear HM' KK';clear x0 x1 x2 x3 xl zk;have kr:=HM.out.row (b:=w.heap.size + 1) (c0:=b0) (c1:=b1) (c2:=b2) (c3:=b3) (by simp);have u0:=kr.c0; have u1:=kr.c1; have u2:=kr.c2; have u3:=kr.c3;clear kr;have ul:=HM.out.lt (b:=w.heap.size + 1) (c0:=b0) (c1:=b1) (c2:=b2) (c3:=b3) (by simp);have hE:=HE.out;go_wp2_with fail;clear u0 u1 u2 u3 ul hE;refine bR (fun wx => Mem w wx [(w.heap.size + 1,b0,b1,b2,b3),(w.heap.size,a0,a1,a2,a3)]) 6 (by kernel_rfl) ?_;have HM':=Lib.hid (HM.out.drewN 1);have KK':=Lib.hid (KK.out.drewN 1);clear HM KK;have HM:=HM';have KK:=KK';clear HM' KK';have HS:=HM.out.sub (rs':=[(w.heap.size + 1,b0,b1,b2,b3),(w.heap.size,a0,a1,a2,a3)]) (by simp);refine aE (i:=0) (v:=.agg #[.int .u64 b0,.int .u64 b1,.int .u64 b2,.int .u64 b3]) rfl (by kernel_rfl) (by kernel_rfl) (by kernel_rfl) (by kernel_rfl) (fun _ _ _ h => h) HS (Or.inl ⟨by kernel_rfl,fun wx hx => ?_⟩) ?_
 ·have kr:=hx.row (b:=w.heap.size + 1) (c0:=b0) (c1:=b1) (c2:=b2) (c3:=b3) (by simp);have x0:=kr.c0; have x1:=kr.c1; have x2:=kr.c2; have x3:=kr.c3;clear kr HS hx;go_simp
 simp only [Act.put,List.setIfInBounds_toArray,List.set_cons_zero,List.set_cons_succ];refine aE (i:=3) (v:=.agg #[.int .u64 a0,.int .u64 a1,.int .u64 a2,.int .u64 a3]) rfl (by kernel_rfl) (by kernel_rfl) (by kernel_rfl) (by kernel_rfl) (fun _ _ _ h => h) HS (Or.inl ⟨by kernel_rfl,fun wx hx => ?_⟩) ?_
 ·have kr:=hx.row (b:=w.heap.size) (c0:=a0) (c1:=a1) (c2:=a2) (c3:=a3) (by simp);have x0:=kr.c0; have x1:=kr.c1; have x2:=kr.c2; have x3:=kr.c3;clear kr HS hx;go_simp
 simp only [Act.put,List.setIfInBounds_toArray,List.set_cons_zero,List.set_cons_succ];clear HS;refine aF (i:=1) (by kernel_rfl) rfl (fun K hK => ?_);go_simp;refine (cI F hf.ok w1.heap.size b0 b1 b2 b3 hb _ KK.out).mono ?_
 rintro e w4 ⟨i0,i1,i2,i3,rfl,hi,hv,hbl⟩
 have HVi:=Lib.hid hv;clear hv;have HM':=Lib.hid (HM.out.on hbl);have KK':=Lib.hid (KK.out.same hbl);have zk_w4:=KK'.out.lt;clear HM KK hbl;have HM:=HM';have KK:=KK';clear HM' KK';have HS:=HM.out.sub (rs':=[(w.heap.size + 1,b0,b1,b2,b3),(w.heap.size,a0,a1,a2,a3)]) (by simp);refine hK.out _ _ (Or.inr HS) (fun _ => ?_);clear hK K;clear HS;refine aF (i:=2) (by kernel_rfl) rfl (fun K hK => ?_);go_simp;refine (AO F hf.ok (aA b0 b1 b2 b3) w1.heap.size i0 i1 i2 i3 hi HVi.out _ KK.out).mono ?_
 rintro e w5 ⟨j0,j1,j2,j3,rfl,hj,hv,hbl⟩
 have HVj:=Lib.hid hv;clear hv;have HM':=Lib.hid (HM.out.on hbl);have KK':=Lib.hid (KK.out.same hbl);have zk_w5:=KK'.out.lt;clear HM KK hbl;have HM:=HM';have KK:=KK';clear HM' KK';have HS:=HM.out.sub (rs':=[(w.heap.size + 1,b0,b1,b2,b3),(w.heap.size,a0,a1,a2,a3)]) (by simp);refine hK.out _ _ (Or.inr HS) (fun _ => ?_);clear hK K;clear HS;refine aF (i:=4) (by kernel_rfl) rfl (fun K hK => ?_);go_simp;refine (bZ F hf.ok w1.heap.size j0 j1 j2 j3 a0 a1 a2 a3 hj ha la _ KK.out).mono ?_
 rintro e w6 ⟨s0,s1,s2,s3,rfl,hs,hv,hbl⟩
 have HVs:=Lib.hid (show aA s0 s1 s2 s3 = aA a0 a1 a2 a3 * (aA b0 b1 b2 b3 ^ (F.M - 2)) % F.M by rw [hv,HVj.out,AH hf.ok,Nat.mul_comm]);clear hv;have HM':=Lib.hid (HM.out.on hbl);have KK':=Lib.hid (KK.out.same hbl);have zk_w6:=KK'.out.lt;clear HM KK hbl;have HM:=HM';have KK:=KK';clear HM' KK';have HS:=HM.out.sub (rs':=[(w.heap.size + 1,b0,b1,b2,b3),(w.heap.size,a0,a1,a2,a3)]) (by simp);refine hK.out _ _ (Or.inr HS) (fun _ => ?_);clear hK K;clear HS;have kr:=HM.out.row (b:=w.heap.size + 1 + 1) (c0:=0) (c1:=0) (c2:=0) (c3:=0) (by simp);have y0:=kr.c0; have y1:=kr.c1; have y2:=kr.c2; have y3:=kr.c3; have yf:=kr.fr;clear kr;have yl:=HM.out.lt (b:=w.heap.size + 1 + 1) (c0:=0) (c1:=0) (c2:=0) (c3:=0) (by simp);refine aF (i:=5) (by kernel_rfl) rfl (fun K hK => ?_);go_simp;have HM':=Lib.hid ((HM.out.sub (rs':=[(w.heap.size + 1 + 1,0,0,0,0),(w.heap.size + 1,b0,b1,b2,b3),(w.heap.size,a0,a1,a2,a3)]) (by simp)).put s0 s1 s2 s3 (by omega) (by intro r hr; simp at hr; rcases hr with rfl | rfl <;> simp <;> omega));clear HM;have HM:=HM';clear HM';have HS:=HM.out.sub (rs':=[(w.heap.size + 1,b0,b1,b2,b3),(w.heap.size,a0,a1,a2,a3)]) (by simp);refine hK.out _ _ (Or.inr HS) (fun _ => ?_);clear hK K;clear HS;refine aF (i:=6) (by kernel_rfl) rfl (fun K hK => ?_);go_simp;refine hK.out _ _ (Or.inl rfl) (fun _ => ?_);clear hK K;refine bE (by kernel_rfl) ?_;go_wp2_with fail;refine bodyPost_ret (v:=.tuple #[.agg #[.int .u64 s0,.int .u64 s1,.int .u64 s2,.int .u64 s3],.int .i64 0]) (by simp [results,results141,go_sem, *]) rfl ?_;exact ⟨_,_,_,_,rfl,hs,HVs.out,HM.out.1⟩
set_option maxHeartbeats 2000000 in
theorem Dx (f c : Int) (V a0 a1 a2 a3 : Nat) (hD : ∀ w,Calls prog 141 #[.int .i64 f,.agg #[.int .u64 1,.int .u64 0,.int .u64 0,.int .u64 0],.agg #[.int .u64 a0,.int .u64 a1,.int .u64 a2,.int .u64 a3]] w (LM c V w)) (w : World) :
  Calls prog 137 #[.int .i64 f,.agg #[.int .u64 a0,.int .u64 a1,.int .u64 a2,.int .u64 a3]] w (LM c V w):=by
 have HD:=Lib.hid hD;clear hD
 go_enter func137,ntmps137
 go_wp2_with fail;have HM:=Lib.hid (((Mem.nil w).new (w.heap.size) a0 a1 a2 a3 24 (by simp)).new (w.heap.size + 1) 0 0 0 0 24 (by simp));refine bR (fun wx => Mem w wx [(w.heap.size,a0,a1,a2,a3)]) 7 (by kernel_rfl) ?_;have HM':=Lib.hid (HM.out.drewN 1);clear HM;have HM:=HM';clear HM';have HS:=HM.out.sub (rs':=[(w.heap.size,a0,a1,a2,a3)]) (by simp);refine aE (i:=0) (v:=.int .i64 f) rfl (by kernel_rfl) (by kernel_rfl) (by kernel_rfl) (by kernel_rfl) (fun _ _ _ h => h) HS (Or.inl ⟨by kernel_rfl,fun wx hx => ?_⟩) ?_
 ·clear HS hx;go_simp
 simp only [Act.put,List.setIfInBounds_toArray,List.set_cons_zero,List.set_cons_succ];refine aE (i:=2) (v:=.agg #[.int .u64 a0,.int .u64 a1,.int .u64 a2,.int .u64 a3]) rfl (by kernel_rfl) (by kernel_rfl) (by kernel_rfl) (by kernel_rfl) (fun _ _ _ h => h) HS (Or.inl ⟨by kernel_rfl,fun wx hx => ?_⟩) ?_
 ·have kr:=hx.row (b:=w.heap.size) (c0:=a0) (c1:=a1) (c2:=a2) (c3:=a3) (by simp);have x0:=kr.c0; have x1:=kr.c1; have x2:=kr.c2; have x3:=kr.c3;clear kr HS hx;go_simp
 simp only [Act.put,List.setIfInBounds_toArray,List.set_cons_zero,List.set_cons_succ];clear HS;refine aF (i:=1) (by kernel_rfl) rfl (fun K hK => ?_);go_simp;refine (zZ 1 (by omega) _).mono ?_
 rintro e w1 ⟨rfl,hbl⟩
 have HM':=Lib.hid (HM.out.on hbl);clear HM hbl;have HM:=HM';clear HM';have HS:=HM.out.sub (rs':=[(w.heap.size,a0,a1,a2,a3)]) (by simp);refine hK.out _ _ (Or.inr HS) (fun _ => ?_);clear hK K;clear HS;refine aF (i:=3) (by kernel_rfl) rfl (fun K hK => ?_);go_simp;refine (HD.out _).mono ?_
 rintro e w2 ⟨s0,s1,s2,s3,rfl,hs,hv,hbl⟩
 have HVs:=Lib.hid hv;clear hv;have HM':=Lib.hid (HM.out.on hbl);clear HM hbl;have HM:=HM';clear HM';have HS:=HM.out.sub (rs':=[(w.heap.size,a0,a1,a2,a3)]) (by simp);refine hK.out _ _ (Or.inr HS) (fun _ => ?_);clear hK K;refine aE (i:=4) (v:=.agg #[.int .u64 s0,.int .u64 s1,.int .u64 s2,.int .u64 s3]) rfl (by kernel_rfl) (by kernel_rfl) (by kernel_rfl) (by kernel_rfl) (fun _ _ _ h => h) HS (Or.inl ⟨by kernel_rfl,fun wx hx => ?_⟩) ?_
 ·clear HS hx;go_simp
 simp only [Act.put,List.setIfInBounds_toArray,List.set_cons_zero,List.set_cons_succ];refine aE (i:=5) (v:=.int .i64 c) rfl (by kernel_rfl) (by kernel_rfl) (by kernel_rfl) (by kernel_rfl) (fun _ _ _ h => h) HS (Or.inl ⟨by kernel_rfl,fun wx hx => ?_⟩) ?_
 ·clear HS hx;go_simp
 simp only [Act.put,List.setIfInBounds_toArray,List.set_cons_zero,List.set_cons_succ];clear HS;have kr:=HM.out.row (b:=w.heap.size + 1) (c0:=0) (c1:=0) (c2:=0) (c3:=0) (by simp);have y0:=kr.c0; have y1:=kr.c1; have y2:=kr.c2; have y3:=kr.c3; have yf:=kr.fr;clear kr;have yl:=HM.out.lt (b:=w.heap.size + 1) (c0:=0) (c1:=0) (c2:=0) (c3:=0) (by simp);refine aF (i:=6) (by kernel_rfl) rfl (fun K hK => ?_);go_simp;have HM':=Lib.hid ((HM.out.sub (rs':=[(w.heap.size + 1,0,0,0,0),(w.heap.size,a0,a1,a2,a3)]) (by simp)).put s0 s1 s2 s3 (by omega) (by intro r hr; simp at hr; rcases hr with rfl <;> simp <;> omega));clear HM;have HM:=HM';clear HM';have HS:=HM.out.sub (rs':=[(w.heap.size,a0,a1,a2,a3)]) (by simp);refine hK.out _ _ (Or.inr HS) (fun _ => ?_);clear hK K;clear HS;refine aF (i:=7) (by kernel_rfl) rfl (fun K hK => ?_);go_simp;refine hK.out _ _ (Or.inl rfl) (fun _ => ?_);clear hK K;refine bE (by kernel_rfl) ?_;go_wp2_with fail;refine bodyPost_ret (v:=.tuple #[.agg #[.int .u64 s0,.int .u64 s1,.int .u64 s2,.int .u64 s3],.int .i64 c]) (by simp [results,results137,go_sem, *]) rfl ?_;exact ⟨_,_,_,_,rfl,hs,HVs.out,HM.out.1⟩
set_option maxHeartbeats 2000000 in
theorem Wg (f c : Int) (a0 a1 a2 a3 n0 n1 n2 n3 : Nat) (ha : aY a0 a1 a2 a3) (hn : aY n0 n1 n2 n3) (h : Bad1 f (aA a0 a1 a2 a3) c) (w : World) :
  Calls prog 81 #[.int .i64 f,.agg #[.int .u64 a0,.int .u64 a1,.int .u64 a2,.int .u64 a3],.agg #[.int .u64 n0,.int .u64 n1,.int .u64 n2,.int .u64 n3]] w fun e w' => e = .returned (.tuple #[.agg #[.int .u64 0,.int .u64 0,.int .u64 0,.int .u64 0],.int .i64 c]) ∧ Below w.heap.size w w':=by
 rcases h with ⟨h1,h2,rfl⟩ | ⟨F,hf,la,rfl⟩
 ·go_enter func81,ntmps81
  go_wp2_with fail;refine (EY f h1 h2 _).mono ?_
  rintro e w1 ⟨rfl,hbl⟩
  have M1:=((((Mem.nil w).new (w.heap.size) a0 a1 a2 a3 24 (by simp)).new (w.heap.size + 1) n0 n1 n2 n3 81 (by simp)).new (w.heap.size + 1 + 1) 0 0 0 0 24 (by simp)).on hbl;clear hbl;have z0 : w.heap.size < w1.heap.size:=M1.lt (c0:=a0) (c1:=a1) (c2:=a2) (c3:=a3) (by simp);have z1 : w.heap.size + 1 < w1.heap.size:=M1.lt (c0:=n0) (c1:=n1) (c2:=n2) (c3:=n3) (by simp);have z2 : w.heap.size + 1 + 1 < w1.heap.size:=M1.lt (c0:=0) (c1:=0) (c2:=0) (c3:=0) (by simp);have HM:=Lib.hid (M1.on ((Below.refl _ _).alloc (Nat.le_refl _) (.cells #[.int .u64 0,.int .u64 0,.int .u64 0,.int .u64 0,.int .u64 0,.int .u64 0,.int .u64 0,.int .u64 0,.int .u64 0] 129)));have kr:=M1.row (b:=w.heap.size + 1 + 1) (c0:=0) (c1:=0) (c2:=0) (c3:=0) (by simp);have y0:=kr.c0; have y1:=kr.c1; have y2:=kr.c2; have y3:=kr.c3; have yf:=kr.fr;clear kr;have yl:=M1.lt (b:=w.heap.size + 1 + 1) (c0:=0) (c1:=0) (c2:=0) (c3:=0) (by simp);go_wp2_with fail;refine (vK _).mono ?_
  rintro e w2 ⟨rfl,rfl⟩
  go_wp2_with fail;refine bodyPost_ret (v:=.tuple #[.agg #[.int .u64 0,.int .u64 0,.int .u64 0,.int .u64 0],.int .i64 1]) (by simp [results,results81,go_sem, *]) rfl ?_;refine ⟨rfl,?_⟩
  repeat (first | exact M1.1 | exact HM.out.1 | refine Below.alloc ?_ (by first | (simp; done) | (simp; omega)) _ | refine Below.setCell ?_ (by first | (simp; done) | (simp; omega)) _)
 ·go_enter func81,ntmps81
  go_wp2_with fail;refine (cK f F hf _).mono ?_
  rintro e w1 ⟨rfl,hbl⟩
  have M1:=((((Mem.nil w).new (w.heap.size) a0 a1 a2 a3 24 (by simp)).new (w.heap.size + 1) n0 n1 n2 n3 81 (by simp)).new (w.heap.size + 1 + 1) 0 0 0 0 24 (by simp)).on hbl;clear hbl;have z0 : w.heap.size < w1.heap.size:=M1.lt (c0:=a0) (c1:=a1) (c2:=a2) (c3:=a3) (by simp);have z1 : w.heap.size + 1 < w1.heap.size:=M1.lt (c0:=n0) (c1:=n1) (c2:=n2) (c3:=n3) (by simp);have z2 : w.heap.size + 1 + 1 < w1.heap.size:=M1.lt (c0:=0) (c1:=0) (c2:=0) (c3:=0) (by simp);have HM:=Lib.hid (M1.on ((Below.refl _ _).alloc (Nat.le_refl _) (.cells #[.int .u64 F.m0,.int .u64 F.m1,.int .u64 F.m2,.int .u64 F.m3,.int .u64 F.inv,.int .u64 F.s0,.int .u64 F.s1,.int .u64 F.s2,.int .u64 F.s3] 129)));have KK:=Lib.hid (KIs.new w1 F 129);have kr:=M1.row (b:=w.heap.size) (c0:=a0) (c1:=a1) (c2:=a2) (c3:=a3) (by simp);have x0:=kr.c0; have x1:=kr.c1; have x2:=kr.c2; have x3:=kr.c3;clear kr;have xl:=M1.lt (b:=w.heap.size) (c0:=a0) (c1:=a1) (c2:=a2) (c3:=a3) (by simp);go_wp2_with fail;refine (cD F hf.ok w1.heap.size a0 a1 a2 a3 ha _ KK.out).mono ?_
  rintro e w2 ⟨he,hbl⟩
  rw [show sI (aA a0 a1 a2 a3) F.M = false from decide_eq_false la] at he;subst he;have HM':=Lib.hid (HM.out.on hbl);have KK':=Lib.hid (KK.out.same hbl);have zk:=KK'.out.lt;clear HM KK hbl M1;have HM:=HM';have KK:=KK';clear HM' KK';clear x0 x1 x2 x3 xl zk;have kr:=HM.out.row (b:=w.heap.size + 1 + 1) (c0:=0) (c1:=0) (c2:=0) (c3:=0) (by simp);have y0:=kr.c0; have y1:=kr.c1; have y2:=kr.c2; have y3:=kr.c3; have yf:=kr.fr;clear kr;have yl:=HM.out.lt (b:=w.heap.size + 1 + 1) (c0:=0) (c1:=0) (c2:=0) (c3:=0) (by simp);go_wp2_with fail;refine (vJ _).mono ?_
  rintro e w3 ⟨rfl,rfl⟩
  go_wp2_with fail;refine bodyPost_ret (v:=.tuple #[.agg #[.int .u64 0,.int .u64 0,.int .u64 0,.int .u64 0],.int .i64 21]) (by simp [results,results81,go_sem, *]) rfl ?_;refine ⟨rfl,?_⟩;exact aL HM.out.1 (by omega) 0 0 0 0
set_option maxHeartbeats 2000000 in
theorem aDt (f : Int) (F : FC) (hf : FieldIs f F) (a0 a1 a2 a3 n0 n1 n2 n3 : Nat) (ha : aY a0 a1 a2 a3) (hn : aY n0 n1 n2 n3) (la : aA a0 a1 a2 a3 < F.M) (w : World) :
  Calls prog 81 #[.int .i64 f,.agg #[.int .u64 a0,.int .u64 a1,.int .u64 a2,.int .u64 a3],.agg #[.int .u64 n0,.int .u64 n1,.int .u64 n2,.int .u64 n3]] w (LM 0 (aA a0 a1 a2 a3 ^ aA n0 n1 n2 n3 % F.M) w):=by
 go_enter func81,ntmps81
 go_wp2_with fail;refine (cK f F hf _).mono ?_
 rintro e w1 ⟨rfl,hbl⟩
 have M1:=((((Mem.nil w).new (w.heap.size) a0 a1 a2 a3 24 (by simp)).new (w.heap.size + 1) n0 n1 n2 n3 81 (by simp)).new (w.heap.size + 1 + 1) 0 0 0 0 24 (by simp)).on hbl;clear hbl;have z0 : w.heap.size < w1.heap.size:=M1.lt (c0:=a0) (c1:=a1) (c2:=a2) (c3:=a3) (by simp);have z1 : w.heap.size + 1 < w1.heap.size:=M1.lt (c0:=n0) (c1:=n1) (c2:=n2) (c3:=n3) (by simp);have z2 : w.heap.size + 1 + 1 < w1.heap.size:=M1.lt (c0:=0) (c1:=0) (c2:=0) (c3:=0) (by simp);have HM:=Lib.hid (M1.on ((Below.refl _ _).alloc (Nat.le_refl _) (.cells #[.int .u64 F.m0,.int .u64 F.m1,.int .u64 F.m2,.int .u64 F.m3,.int .u64 F.inv,.int .u64 F.s0,.int .u64 F.s1,.int .u64 F.s2,.int .u64 F.s3] 129)));have KK:=Lib.hid (KIs.new w1 F 129);have kr:=M1.row (b:=w.heap.size) (c0:=a0) (c1:=a1) (c2:=a2) (c3:=a3) (by simp);have x0:=kr.c0; have x1:=kr.c1; have x2:=kr.c2; have x3:=kr.c3;clear kr;have xl:=M1.lt (b:=w.heap.size) (c0:=a0) (c1:=a1) (c2:=a2) (c3:=a3) (by simp);go_wp2_with fail;refine (cD F hf.ok w1.heap.size a0 a1 a2 a3 ha _ KK.out).mono ?_
 rintro e w2 ⟨he,hbl⟩
 rw [show sI (aA a0 a1 a2 a3) F.M = true from decide_eq_true la] at he;subst he;have HM':=Lib.hid (HM.out.on hbl);have KK':=Lib.hid (KK.out.same hbl);have zk:=KK'.out.lt;clear HM KK hbl M1;have HM:=HM';have KK:=KK';clear HM' KK';clear x0 x1 x2 x3 xl zk;go_wp2_with fail;refine bR (fun wx => Mem w wx [(w.heap.size + 1,n0,n1,n2,n3),(w.heap.size,a0,a1,a2,a3)]) 6 (by kernel_rfl) ?_;have HM':=Lib.hid (HM.out.drewN 1);have KK':=Lib.hid (KK.out.drewN 1);clear HM KK;have HM:=HM';have KK:=KK';clear HM' KK';have HS:=HM.out.sub (rs':=[(w.heap.size + 1,n0,n1,n2,n3),(w.heap.size,a0,a1,a2,a3)]) (by simp);refine aE (i:=0) (v:=.agg #[.int .u64 a0,.int .u64 a1,.int .u64 a2,.int .u64 a3]) rfl (by kernel_rfl) (by kernel_rfl) (by kernel_rfl) (by kernel_rfl) (fun _ _ _ h => h) HS (Or.inl ⟨by kernel_rfl,fun wx hx => ?_⟩) ?_
 ·have kr:=hx.row (b:=w.heap.size) (c0:=a0) (c1:=a1) (c2:=a2) (c3:=a3) (by simp);have x0:=kr.c0; have x1:=kr.c1; have x2:=kr.c2; have x3:=kr.c3;clear kr HS hx;go_simp
 simp only [Act.put,List.setIfInBounds_toArray,List.set_cons_zero,List.set_cons_succ];refine aE (i:=2) (v:=.agg #[.int .u64 n0,.int .u64 n1,.int .u64 n2,.int .u64 n3]) rfl (by kernel_rfl) (by kernel_rfl) (by kernel_rfl) (by kernel_rfl) (fun _ _ _ h => h) HS (Or.inl ⟨by kernel_rfl,fun wx hx => ?_⟩) ?_
 ·have kr:=hx.row (b:=w.heap.size + 1) (c0:=n0) (c1:=n1) (c2:=n2) (c3:=n3) (by simp);have x0:=kr.c0; have x1:=kr.c1; have x2:=kr.c2; have x3:=kr.c3;clear kr HS hx;go_simp
 simp only [Act.put,List.setIfInBounds_toArray,List.set_cons_zero,List.set_cons_succ];clear HS;refine aF (i:=1) (by kernel_rfl) rfl (fun K hK => ?_);go_simp;refine (cI F hf.ok w1.heap.size a0 a1 a2 a3 ha _ KK.out).mono ?_
 rintro e w4 ⟨i0,i1,i2,i3,rfl,hi,hv,hbl⟩
 have HVi:=Lib.hid hv;clear hv;have HM':=Lib.hid (HM.out.on hbl);have KK':=Lib.hid (KK.out.same hbl);have zk_w4:=KK'.out.lt;clear HM KK hbl;have HM:=HM';have KK:=KK';clear HM' KK';have HS:=HM.out.sub (rs':=[(w.heap.size + 1,n0,n1,n2,n3),(w.heap.size,a0,a1,a2,a3)]) (by simp);refine hK.out _ _ (Or.inr HS) (fun _ => ?_);clear hK K;clear HS;refine aF (i:=3) (by kernel_rfl) rfl (fun K hK => ?_);go_simp;refine (eN F hf.ok (aA a0 a1 a2 a3) w1.heap.size i0 i1 i2 i3 n0 n1 n2 n3 hi hn HVi.out _ KK.out).mono ?_
 rintro e w5 ⟨j0,j1,j2,j3,rfl,hj,hv,hbl⟩
 have HVj:=Lib.hid hv;clear hv;have HM':=Lib.hid (HM.out.on hbl);have KK':=Lib.hid (KK.out.same hbl);have zk_w5:=KK'.out.lt;clear HM KK hbl;have HM:=HM';have KK:=KK';clear HM' KK';have HS:=HM.out.sub (rs':=[(w.heap.size + 1,n0,n1,n2,n3),(w.heap.size,a0,a1,a2,a3)]) (by simp);refine hK.out _ _ (Or.inr HS) (fun _ => ?_);clear hK K;clear HS;refine aF (i:=4) (by kernel_rfl) rfl (fun K hK => ?_);go_simp;refine (DU F hf.ok w1.heap.size j0 j1 j2 j3 hj _ KK.out).mono ?_
 rintro e w6 ⟨s0,s1,s2,s3,rfl,hs,hv,hbl⟩
 have HVs:=Lib.hid (show aA s0 s1 s2 s3 = aA a0 a1 a2 a3 ^ aA n0 n1 n2 n3 % F.M by rw [hv,HVj.out,← fS,JF hf.ok _ (Nat.mod_lt _ hf.ok.pos)]);clear hv;have HM':=Lib.hid (HM.out.on hbl);have KK':=Lib.hid (KK.out.same hbl);have zk_w6:=KK'.out.lt;clear HM KK hbl;have HM:=HM';have KK:=KK';clear HM' KK';have HS:=HM.out.sub (rs':=[(w.heap.size + 1,n0,n1,n2,n3),(w.heap.size,a0,a1,a2,a3)]) (by simp);refine hK.out _ _ (Or.inr HS) (fun _ => ?_);clear hK K;clear HS;have kr:=HM.out.row (b:=w.heap.size + 1 + 1) (c0:=0) (c1:=0) (c2:=0) (c3:=0) (by simp);have y0:=kr.c0; have y1:=kr.c1; have y2:=kr.c2; have y3:=kr.c3; have yf:=kr.fr;clear kr;have yl:=HM.out.lt (b:=w.heap.size + 1 + 1) (c0:=0) (c1:=0) (c2:=0) (c3:=0) (by simp);refine aF (i:=5) (by kernel_rfl) rfl (fun K hK => ?_);go_simp;have HM':=Lib.hid ((HM.out.sub (rs':=[(w.heap.size + 1 + 1,0,0,0,0),(w.heap.size + 1,n0,n1,n2,n3),(w.heap.size,a0,a1,a2,a3)]) (by simp)).put s0 s1 s2 s3 (by omega) (by intro r hr; simp at hr; rcases hr with rfl | rfl <;> simp <;> omega));clear HM;have HM:=HM';clear HM';have HS:=HM.out.sub (rs':=[(w.heap.size + 1,n0,n1,n2,n3),(w.heap.size,a0,a1,a2,a3)]) (by simp);refine hK.out _ _ (Or.inr HS) (fun _ => ?_);clear hK K;clear HS;refine aF (i:=6) (by kernel_rfl) rfl (fun K hK => ?_);go_simp;refine hK.out _ _ (Or.inl rfl) (fun _ => ?_);clear hK K;refine bE (by kernel_rfl) ?_;go_wp2_with fail;refine bodyPost_ret (v:=.tuple #[.agg #[.int .u64 s0,.int .u64 s1,.int .u64 s2,.int .u64 s3],.int .i64 0]) (by simp [results,results81,go_sem, *]) rfl ?_;exact ⟨_,_,_,_,rfl,hs,HVs.out,HM.out.1⟩
theorem KIs.set4 {w : World} {b d : Nat} {F : FC} (h : KIs w b F) (hd : d ≠ b) (d0 d1 d2 d3 : Nat) : KIs (Go.Proofs.YtfnkbmlmgnadmaaGreat.set4 w d d0 d1 d2 d3) b F:=(((h.other hd _).other hd _).other hd _).other hd _
theorem lV {a0 a1 a2 a3 b0 b1 b2 b3 : Nat} (h : ¬ CH a0 a1 a2 a3 b0 b1 b2 b3 = true) : CH a0 a1 a2 a3 b0 b1 b2 b3 = false:=by cases q : CH a0 a1 a2 a3 b0 b1 b2 b3 with | false => rfl | true => exact absurd q h
end Go.Proofs.YtfnkbmlmgnadmaaGreat
