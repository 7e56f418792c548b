/- Eb05 -/
import Derived.Deep.DeepCutAuto
import Derived.RangeFuncNested
import Derived.RangeFuncLeaves
import Derived.TacticsIn
import Derived.Laws.IdiomCopy
import Derived.RegionTactic
import Derived.Deep.LoopGhost
import Derived.Laws.OwnMore
import Derived.Laws.MakeOwn
import Derived.Lib.TrailingZeros
import Derived.Laws.Bits64
import Derived.Laws.Bits64b
import Derived.Shelf.Spec.TrailingZeros
import Derived.Test.YtpjlhhpjpnacmaaGreatEb04
import Derived.Test.YtpjlhhpjpnacmaaGreatEb03
import Derived.Test.YtpjlhhpjpnacmaaGreatEb02
import Derived.Test.YtpjlhhpjpnacmaaGreatProg
set_option maxRecDepth 100000
set_option linter.unusedVariables false
set_option linter.unusedSimpArgs false
set_option linter.unnecessarySimpa false
namespace Go.Proofs.YtpjlhhpjpnacmaaGreat
open Go.Proofs.Tryz
open Go.RowKit
set_option maxHeartbeats 4000000 in
theorem rW (F:FC) (hF:F.Ok) (g:Nat) (hr:Root F.M g) (A H T C b a0 a1 a2 a3 c0 c1 c2 c3:Nat) (ha:aZ a0 a1 a2 a3) (hc:aZ c0 c1 c2 c3) (hA:aA a0 a1 a2 a3=kp F A) (hC:aA c0 c1 c2 c3=kp F C) (hT:1≤T) (hT2:T≤200)
  (hM:F.M=2^T*(2*H+1)+1) (hs:A^(F.M/2)%F.M≠1) (w:World) (hk:KIs w b F) :
  Calls prog 100 #[.pointer (some ⟨b,0,none⟩),.agg #[.int .u64 a0,.int .u64 a1,.int .u64 a2,.int .u64 a3],.int .i64 T,.agg #[.int .u64 c0,.int .u64 c1,.int .u64 c2,.int .u64 c3]] w fun e w' =>
   e=.returned (.tuple #[.agg #[.int .u64 0,.int .u64 0,.int .u64 0,.int .u64 0],.bool false])∧Below w.heap.size w w':=by
 have HK:=Lib.hid hk;have HF:=Lib.hid hF;have HA:=Lib.hid hA;have HC:=Lib.hid hC;have HS2:=Lib.hid (sL hM hT);have HI:=Lib.hid (show (A*A^H*A^H)^2^(T-1)%F.M≠1 by
  rw[show A*A^H*A^H=A^(2*H+1) by rw[Nat.mul_assoc,←Nat.pow_add,←Nat.pow_succ']; congr 1; omega,AB hM hT]; exact hs)
 have hL:=hk.lt;have hL1:b<w.heap.size+1:=by omega
 have hL2:b<w.heap.size+1+1:=by omega
 have k0:=hk.k0; have k1:=hk.k1; have k2:=hk.k2; have k3:=hk.k3;obtain⟨T1,e1,hT1⟩:∃T1:Nat,(T:Int)+1=(T1:Int)∧T1=T+1:=⟨T+1,by omega,rfl⟩
 have HT1:=Lib.hid hT1;have bT1:T1≤201:=by omega
 clear hk hF hA hC hM hs hT1
 go_enter func100,ntmps100
 go_upto_region 1 with fail
 have M0:=Lib.hid (((Mem.nil w).new w.heap.size a0 a1 a2 a3 85 rfl).new (w.heap.size+1) c0 c1 c2 c3 85 (by simp) |>.new (w.heap.size+1+1) 0 0 0 0 85 (by simp))
 go_cut [10] (fun s10 wx=>∃g p0 p1 p2 p3:Nat,s10=.pointer (some ⟨g,0,none⟩)∧aZ p0 p1 p2 p3∧Hid (aA p0 p1 p2 p3=kp F (A^H))∧w.heap.size+1+1<g∧Hid (Mem w wx [(g,p0,p1,p2,p3),(w.heap.size+1+1,0,0,0,0),(w.heap.size+1,c0,c1,c2,c3),(w.heap.size,a0,a1,a2,a3)]))
 case first =>
  refine bM (fun wx=>Mem w wx [(w.heap.size+1+1,0,0,0,0),(w.heap.size+1,c0,c1,c2,c3),(w.heap.size,a0,a1,a2,a3)]) 11 (by kernel_rfl) ?_;have HS:=M0.out.drewN 1;have HM:=Lib.hid HS;refine aC (i:=0) (v:=.pointer (some ⟨b,0,none⟩)) rfl (by kernel_rfl) (by kernel_rfl) (by kernel_rfl) (by kernel_rfl) (fun _ _ _ h=>h) HS (Or.inl ⟨by kernel_rfl,fun wx hx => ?_⟩) ?_
  ·clear HS hx;go_simp
  simp only[Act.put,List.setIfInBounds_toArray,List.set_cons_zero,List.set_cons_succ];refine aC (i:=1) (v:=.agg #[.int .u64 a0,.int .u64 a1,.int .u64 a2,.int .u64 a3]) rfl (by kernel_rfl) (by kernel_rfl) (by kernel_rfl) (by kernel_rfl) (fun _ _ _ h=>h) HS (Or.inl ⟨by kernel_rfl,fun wx hx => ?_⟩) ?_
  ·have kr:=hx.row (b:=w.heap.size) (c0:=a0) (c1:=a1) (c2:=a2) (c3:=a3) (by simp);have x0:=kr.c0; have x1:=kr.c1; have x2:=kr.c2; have x3:=kr.c3;clear kr k0 k1 k2 k3;clear HS hx;go_simp
  simp only[Act.put,List.setIfInBounds_toArray,List.set_cons_zero,List.set_cons_succ];refine aC (i:=2) (v:=.pointer (some ⟨b,0,none⟩)) rfl (by kernel_rfl) (by kernel_rfl) (by kernel_rfl) (by kernel_rfl) (fun _ _ _ h=>h) HS (Or.inl ⟨by kernel_rfl,fun wx hx => ?_⟩) ?_
  ·clear HS hx;go_simp
  simp only[Act.put,List.setIfInBounds_toArray,List.set_cons_zero,List.set_cons_succ];refine aC (i:=3) (v:=.pointer (some ⟨b,0,none⟩)) rfl (by kernel_rfl) (by kernel_rfl) (by kernel_rfl) (by kernel_rfl) (fun _ _ _ h=>h) HS (Or.inl ⟨by kernel_rfl,fun wx hx => ?_⟩) ?_
  ·clear HS hx;go_simp
  simp only[Act.put,List.setIfInBounds_toArray,List.set_cons_zero,List.set_cons_succ];refine aC (i:=4) (v:=.pointer (some ⟨b,0,none⟩)) rfl (by kernel_rfl) (by kernel_rfl) (by kernel_rfl) (by kernel_rfl) (fun _ _ _ h=>h) HS (Or.inl ⟨by kernel_rfl,fun wx hx => ?_⟩) ?_
  ·clear HS hx;go_simp
  simp only[Act.put,List.setIfInBounds_toArray,List.set_cons_zero,List.set_cons_succ];refine aC (i:=5) (v:=.agg #[.int .u64 F.m0,.int .u64 F.m1,.int .u64 F.m2,.int .u64 F.m3]) rfl (by kernel_rfl) (by kernel_rfl) (by kernel_rfl) (by kernel_rfl) (fun _ _ _ h=>h) HS (Or.inl ⟨by kernel_rfl,fun wx hx => ?_⟩) ?_
  ·have kk:=HK.out.same hx.1;have x0:=kk.k0; have x1:=kk.k1; have x2:=kk.k2; have x3:=kk.k3;clear kk k0 k1 k2 k3;clear HS hx;go_simp
  simp only[Act.put,List.setIfInBounds_toArray,List.set_cons_zero,List.set_cons_succ];refine aC (i:=6) (v:=.int .i64 (T:Nat)) rfl (by kernel_rfl) (by kernel_rfl) (by kernel_rfl) (by kernel_rfl) (fun _ _ _ h=>h) HS (Or.inl ⟨by kernel_rfl,fun wx hx => ?_⟩) ?_
  ·clear HS hx;go_simp
  simp only[Act.put,List.setIfInBounds_toArray,List.set_cons_zero,List.set_cons_succ];refine aC (i:=7) (v:=.int .i64 (T1:Nat)) rfl (by kernel_rfl) (by kernel_rfl) (by kernel_rfl) (by kernel_rfl) (fun _ _ _ h=>h) HS (Or.inl ⟨by kernel_rfl,fun wx hx => ?_⟩) ?_
  ·have hw:IntKind.i64.wrap (T1:Int)=(T1:Int):=IntWalk.i64_in _ (by omega);clear HS hx;go_simp
  simp only[Act.put,List.setIfInBounds_toArray,List.set_cons_zero,List.set_cons_succ];clear HS;refine cI (i:=8) (j:=10) (by kernel_rfl) rfl rfl (fun K hK => ?_) (fun K hK => ?_)
  ·go_simp;refine (jH F.m0 F.m1 F.m2 F.m3 T1 HF.out.okm (by omega) (by have:=HT1.out; omega) _).mono ?_
   rintro e w1 ⟨n0,n1,n2,n3,rfl,hn,hv,hbl⟩
   have HS:=HM.out.on hbl;clear HM;have HM:=Lib.hid HS;have HV:=Lib.hid (show aA n0 n1 n2 n3=H by rw[hv,show (T1:Int).toNat=T+1 by have:=HT1.out; omega]; exact HS2.out);clear hv hbl;refine hK.out _ _ (Or.inr (HS.sub (by simp))) (fun _ => ?_);clear hK K;clear HS;refine cI (i:=9) (j:=10) (by kernel_rfl) rfl rfl (fun K hK => ?_) (fun K hK => ?_)
   ·go_simp;refine (fF F HF.out A b a0 a1 a2 a3 n0 n1 n2 n3 ha hn HA.out _ (HK.out.same HM.out.1)).mono ?_
    rintro e w2 ⟨p0,p1,p2,p3,rfl,hp,hv,hbl⟩
    have HS:=HM.out.on hbl;clear HM;have HM:=Lib.hid HS;have HVp:=Lib.hid (show aA p0 p1 p2 p3=kp F (A^H) by rw[hv,HV.out]);clear hv hbl;refine hK.out _ _ (Or.inr (HS.sub (by simp))) (fun _ => ?_);clear hK K;clear HS;refine aD (i:=10) (by kernel_rfl) rfl (fun K hK => ?_);go_simp;have HS:=HM.out.new w2.heap.size 0 0 0 0 85 (by first|rfl|(simp; done));have hg:w.heap.size+1+1<w2.heap.size:=by first|(simp; done)|exact HM.out.lt (b:=w.heap.size+1+1) (c0:=0) (c1:=0) (c2:=0) (c3:=0) (by simp)
    have HM9:=HM;clear HM;have HM:=Lib.hid HS;refine hK.out _ _ (Or.inr (HS.sub (by simp))) (fun _ => ?_);clear hK K;clear HS;have kr:=HM.out.row (b:=w2.heap.size) (c0:=0) (c1:=0) (c2:=0) (c3:=0) (by simp);have lr:=HM.out.lt (b:=w2.heap.size) (c0:=0) (c1:=0) (c2:=0) (c3:=0) (by simp);have x0:=kr.c0; have x1:=kr.c1; have x2:=kr.c2; have x3:=kr.c3; have xf:=kr.fr;clear kr;refine aD (i:=11) (by kernel_rfl) rfl (fun K hK => ?_);go_simp;refine hK.out _ _ (Or.inl rfl) (fun _ => ?_);clear hK K;refine aU (by kernel_rfl) ?_;go_wp2_with fail
    go_meet
    refine⟨w2.heap.size,p0,p1,p2,p3,rfl,hp,HVp,hg,Lib.hid ?_⟩;exact HM9.out.new w2.heap.size p0 p1 p2 p3 85 rfl
   ·go_simp;have HS:=HM.out.new w1.heap.size 0 0 0 0 85 (by first|rfl|(simp; done));have hg:w.heap.size+1+1<w1.heap.size:=by first|(simp; done)|exact HM.out.lt (b:=w.heap.size+1+1) (c0:=0) (c1:=0) (c2:=0) (c3:=0) (by simp)
    have HM9:=HM;clear HM;have HM:=Lib.hid HS;refine hK.out _ _ (Or.inr (HS.sub (by simp))) (fun _ => ?_);clear hK K;clear HS;refine aD (i:=9) (by kernel_rfl) rfl (fun K hK => ?_);go_simp;refine (fF F HF.out A b a0 a1 a2 a3 n0 n1 n2 n3 ha hn HA.out _ (HK.out.same HM.out.1)).mono ?_
    rintro e w2 ⟨p0,p1,p2,p3,rfl,hp,hv,hbl⟩
    have HS:=HM.out.on hbl;clear HM;have HM:=Lib.hid HS;have HVp:=Lib.hid (show aA p0 p1 p2 p3=kp F (A^H) by rw[hv,HV.out]);clear hv hbl;refine hK.out _ _ (Or.inr (HS.sub (by simp))) (fun _ => ?_);clear hK K;clear HS;have kr:=HM.out.row (b:=w1.heap.size) (c0:=0) (c1:=0) (c2:=0) (c3:=0) (by simp);have lr:=HM.out.lt (b:=w1.heap.size) (c0:=0) (c1:=0) (c2:=0) (c3:=0) (by simp);have x0:=kr.c0; have x1:=kr.c1; have x2:=kr.c2; have x3:=kr.c3; have xf:=kr.fr;clear kr;refine aD (i:=11) (by kernel_rfl) rfl (fun K hK => ?_);go_simp;refine hK.out _ _ (Or.inl rfl) (fun _ => ?_);clear hK K;refine aU (by kernel_rfl) ?_;go_wp2_with fail
    go_meet
    refine⟨w1.heap.size,p0,p1,p2,p3,rfl,hp,HVp,hg,Lib.hid ?_⟩;exact HM.out.put p0 p1 p2 p3 (by omega) (by intro r hr; simp at hr; rcases hr with rfl|rfl|rfl<;>simp<;>omega)
  ·go_simp;have HS:=HM.out.new (w.heap.size+1+1+1) 0 0 0 0 85 (by first|rfl|(simp; done));have hg:w.heap.size+1+1<(w.heap.size+1+1+1):=by first|(simp; done)|exact HM.out.lt (b:=w.heap.size+1+1) (c0:=0) (c1:=0) (c2:=0) (c3:=0) (by simp)
   have HM9:=HM;clear HM;have HM:=Lib.hid HS;refine hK.out _ _ (Or.inr (HS.sub (by simp))) (fun _ => ?_);clear hK K;clear HS;refine aD (i:=8) (by kernel_rfl) rfl (fun K hK => ?_);go_simp;refine (jH F.m0 F.m1 F.m2 F.m3 T1 HF.out.okm (by omega) (by have:=HT1.out; omega) _).mono ?_
   rintro e w1 ⟨n0,n1,n2,n3,rfl,hn,hv,hbl⟩
   have HS:=HM.out.on hbl;clear HM;have HM:=Lib.hid HS;have HV:=Lib.hid (show aA n0 n1 n2 n3=H by rw[hv,show (T1:Int).toNat=T+1 by have:=HT1.out; omega]; exact HS2.out);clear hv hbl;refine hK.out _ _ (Or.inr (HS.sub (by simp))) (fun _ => ?_);clear hK K;clear HS;refine aD (i:=9) (by kernel_rfl) rfl (fun K hK => ?_);go_simp;refine (fF F HF.out A b a0 a1 a2 a3 n0 n1 n2 n3 ha hn HA.out _ (HK.out.same HM.out.1)).mono ?_
   rintro e w2 ⟨p0,p1,p2,p3,rfl,hp,hv,hbl⟩
   have HS:=HM.out.on hbl;clear HM;have HM:=Lib.hid HS;have HVp:=Lib.hid (show aA p0 p1 p2 p3=kp F (A^H) by rw[hv,HV.out]);clear hv hbl;refine hK.out _ _ (Or.inr (HS.sub (by simp))) (fun _ => ?_);clear hK K;clear HS;have kr:=HM.out.row (b:=(w.heap.size+1+1+1)) (c0:=0) (c1:=0) (c2:=0) (c3:=0) (by simp);have lr:=HM.out.lt (b:=(w.heap.size+1+1+1)) (c0:=0) (c1:=0) (c2:=0) (c3:=0) (by simp);have x0:=kr.c0; have x1:=kr.c1; have x2:=kr.c2; have x3:=kr.c3; have xf:=kr.fr;clear kr;refine aD (i:=11) (by kernel_rfl) rfl (fun K hK => ?_);go_simp;refine hK.out _ _ (Or.inl rfl) (fun _ => ?_);clear hK K;refine aU (by kernel_rfl) ?_;go_wp2_with fail
   go_meet
   refine⟨(w.heap.size+1+1+1),p0,p1,p2,p3,rfl,hp,HVp,hg,Lib.hid ?_⟩;exact HM.out.put p0 p1 p2 p3 (by omega) (by intro r hr; simp at hr; rcases hr with rfl|rfl|rfl<;>simp<;>omega)
 case rest =>
  obtain⟨g',p0,p1,p2,p3,rfl,hp,HVp,hg,HM⟩:=hcut;clear k0 k1 k2 k3 e1 bT1;have kr:=HM.out.row (b:=w.heap.size) (c0:=a0) (c1:=a1) (c2:=a2) (c3:=a3) (by simp);have x0:=kr.c0; have x1:=kr.c1; have x2:=kr.c2; have x3:=kr.c3;clear kr;have xl:=HM.out.lt (b:=w.heap.size) (c0:=a0) (c1:=a1) (c2:=a2) (c3:=a3) (by simp);have kr:=HM.out.row (b:=g') (c0:=p0) (c1:=p1) (c2:=p2) (c3:=p3) (by simp);have y0:=kr.c0; have y1:=kr.c1; have y2:=kr.c2; have y3:=kr.c3;clear kr;have yl:=HM.out.lt (b:=g') (c0:=p0) (c1:=p1) (c2:=p2) (c3:=p3) (by simp);go_wp2_with fail;refine (cC F HF.out b a0 a1 a2 a3 p0 p1 p2 p3 (by assumption) (by assumption) (by rw[HVp.out]; exact lO HF.out _) _ (HK.out.same HM.out.1)).mono ?_
  rintro e w3 ⟨q0,q1,q2,q3,rfl,hq,hv,hbl⟩
  have HVq:=Lib.hid (show aA q0 q1 q2 q3=kp F (A*A^H) by rw[hv,HA.out,HVp.out,fH HF.out,fU]);have MM:=HM.out.on hbl;clear HM hv hbl x0 x1 x2 x3 xl y0 y1 y2 y3 yl;have HM:=Lib.hid (MM.new w3.heap.size q0 q1 q2 q3 85 rfl);have hg3:w.heap.size+1+1<w3.heap.size:=MM.lt (b:=w.heap.size+1+1) (c0:=0) (c1:=0) (c2:=0) (c3:=0) (by simp);clear MM;have kr:=HM.out.row (b:=w3.heap.size) (c0:=q0) (c1:=q1) (c2:=q2) (c3:=q3) (by simp);have x0:=kr.c0; have x1:=kr.c1; have x2:=kr.c2; have x3:=kr.c3;clear kr;have xl:=HM.out.lt (b:=w3.heap.size) (c0:=q0) (c1:=q1) (c2:=q2) (c3:=q3) (by simp);have kr:=HM.out.row (b:=g') (c0:=p0) (c1:=p1) (c2:=p2) (c3:=p3) (by simp);have y0:=kr.c0; have y1:=kr.c1; have y2:=kr.c2; have y3:=kr.c3;clear kr;have yl:=HM.out.lt (b:=g') (c0:=p0) (c1:=p1) (c2:=p2) (c3:=p3) (by simp);go_wp2_with fail;refine (cC F HF.out b q0 q1 q2 q3 p0 p1 p2 p3 (by assumption) (by assumption) (by rw[HVp.out]; exact lO HF.out _) _ (HK.out.same HM.out.1)).mono ?_
  rintro e w4 ⟨s0,s1,s2,s3,rfl,hs,hv,hbl⟩
  have HVs:=Lib.hid (show aA s0 s1 s2 s3=kp F (A*A^H*A^H) by rw[hv,HVq.out,HVp.out,fH HF.out,fU]);have MM:=HM.out.on hbl;clear HM hv hbl x0 x1 x2 x3 xl y0 y1 y2 y3 yl;have HM:=Lib.hid (MM.new w4.heap.size s0 s1 s2 s3 85 rfl);clear MM;go_wp2_with fail;refine wp_loop_rounds 1 ?_;rw[rounds_succ];have kr:=HM.out.row (b:=w4.heap.size) (c0:=s0) (c1:=s1) (c2:=s2) (c3:=s3) (by simp);have x0:=kr.c0; have x1:=kr.c1; have x2:=kr.c2; have x3:=kr.c3;clear kr;have xl:=HM.out.lt (b:=w4.heap.size) (c0:=s0) (c1:=s1) (c2:=s2) (c3:=s3) (by simp);go_wp2_with fail;refine (lN F HF.out (A*A^H*A^H) b s0 s1 s2 s3 T hs HVs.out (by omega) _ (HK.out.same HM.out.1)).mono ?_
  rintro e w5 ⟨o,rfl,ho,hmin,hone,hbl⟩
  obtain rfl:o=T:=by
   rcases Nat.lt_or_ge o T with q|q
   ·exact absurd (Hz (by have:=HF.out.gt; omega) (by omega) (hone q)) HI.out
   ·omega
  have HM5:=Lib.hid (HM.out.on hbl);clear HM hbl hmin hone ho x0 x1 x2 x3 xl;have HM:=HM5;clear HM5;have t0:((o:Int)==0)=false:=by simp; omega
  have kr:=HM.out.row (b:=w.heap.size+1+1) (c0:=0) (c1:=0) (c2:=0) (c3:=0) (by simp);have y0:=kr.c0; have y1:=kr.c1; have y2:=kr.c2; have y3:=kr.c3; have yf:=kr.fr;clear kr;have yl:=HM.out.lt (b:=w.heap.size+1+1) (c0:=0) (c1:=0) (c2:=0) (c3:=0) (by simp);go_wp2_with fail;refine bodyPost_ret (v:=.tuple #[.agg #[.int .u64 0,.int .u64 0,.int .u64 0,.int .u64 0],.bool false]) (by simp[results,results100,go_sem, *]) rfl ?_;refine⟨rfl,?_⟩;exact aM HM.out.1 (by omega) 0 0 0 0
def FieldIs (f:Int) (F:FC):Prop:=f=1∧F=FP∨f=2∧F=FR
theorem FieldIs.ok {f:Int} {F:FC} (h:FieldIs f F):F.Ok:=by rcases h with⟨_,rfl⟩|⟨_,rfl⟩; exact Tv; exact Ew
theorem FieldIs.root {f:Int} {F:FC} (h:FieldIs f F):∃g,Root F.M g:=by
 rcases h with⟨_,rfl⟩|⟨_,rfl⟩
 ·exact⟨3,by rw[Xq]; exact Gj⟩
 ·exact⟨5,by rw[Lw]; exact QO⟩
def Bad1 (f:Int) (A:Nat) (c:Int):Prop:=f≠1∧f≠2∧c=1∨∃F,FieldIs f F∧¬A<F.M∧c=21
def Bad2 (f:Int) (A B:Nat) (c:Int):Prop:=Bad1 f A c∨∃F,FieldIs f F∧A<F.M∧¬B<F.M∧c=21
def WM (c:Int) (V:Nat) (w:World) (e:Ending) (w':World):Prop :=
 ∃s0 s1 s2 s3:Nat,e=.returned (.tuple #[.agg #[.int .u64 s0,.int .u64 s1,.int .u64 s2,.int .u64 s3],.int .i64 c])∧aZ s0 s1 s2 s3∧aA s0 s1 s2 s3=V∧Below w.heap.size w w'
theorem wN:aZ 0 0 0 0:=⟨by omega,by omega,by omega,by omega⟩
theorem KIs.new (w:World) (F:FC) (t:TypeId):KIs (w.alloc (.cells #[.int .u64 F.m0,.int .u64 F.m1,.int .u64 F.m2,.int .u64 F.m3,.int .u64 F.inv,.int .u64 F.s0,.int .u64 F.s1,.int .u64 F.s2,.int .u64 F.s3] t)) w.heap.size F :=
 ⟨by rw[World.cell?_alloc_new]; rfl,by rw[World.cell?_alloc_new]; rfl,by rw[World.cell?_alloc_new]; rfl,by rw[World.cell?_alloc_new]; rfl,by rw[World.cell?_alloc_new]; rfl,by rw[World.cell?_alloc_new]; rfl,by rw[World.cell?_alloc_new]; rfl,by rw[World.cell?_alloc_new]; rfl,by rw[World.cell?_alloc_new]; rfl,by simp⟩
set_option maxHeartbeats 2000000 in
theorem dL (f:Int) (F:FC) (hf:FieldIs f F) (w:World):Calls prog 49 #[.int .i64 f] w fun e w'=>e=.returned (.tuple #[.agg #[.int .u64 F.m0,.int .u64 F.m1,.int .u64 F.m2,.int .u64 F.m3,.int .u64 F.inv,.int .u64 F.s0,.int .u64 F.s1,.int .u64 F.s2,.int .u64 F.s3],.int .i64 0])∧Below w.heap.size w w':=by
 rcases hf with⟨rfl,rfl⟩|⟨rfl,rfl⟩
 ·go_enter func49,ntmps49
  go_wp2_with fail;refine bodyPost_ret (v:=.tuple #[.agg #[.int .u64 FP.m0,.int .u64 FP.m1,.int .u64 FP.m2,.int .u64 FP.m3,.int .u64 FP.inv,.int .u64 FP.s0,.int .u64 FP.s1,.int .u64 FP.s2,.int .u64 FP.s3],.int .i64 0]) (by simp[results,results49,go_sem,FP]) rfl ?_;refine⟨rfl,?_⟩
  repeat (first|exact Below.refl _ _|refine Below.drew ?_|refine Below.alloc ?_ (by first|(simp; done)|(simp; omega)) _|refine Below.setCell ?_ (by simp) _)
 ·go_enter func49,ntmps49
  go_wp2_with fail;refine bodyPost_ret (v:=.tuple #[.agg #[.int .u64 FR.m0,.int .u64 FR.m1,.int .u64 FR.m2,.int .u64 FR.m3,.int .u64 FR.inv,.int .u64 FR.s0,.int .u64 FR.s1,.int .u64 FR.s2,.int .u64 FR.s3],.int .i64 0]) (by simp[results,results49,go_sem,FR]) rfl ?_;refine⟨rfl,?_⟩
  repeat (first|exact Below.refl _ _|refine Below.drew ?_|refine Below.alloc ?_ (by first|(simp; done)|(simp; omega)) _|refine Below.setCell ?_ (by simp) _)
set_option maxHeartbeats 2000000 in
theorem NQ (f:Int) (h1:f≠1) (h2:f≠2) (w:World):Calls prog 49 #[.int .i64 f] w fun e w'=>e=.returned (.tuple #[.agg #[.int .u64 0,.int .u64 0,.int .u64 0,.int .u64 0,.int .u64 0,.int .u64 0,.int .u64 0,.int .u64 0,.int .u64 0],.int .i64 1])∧Below w.heap.size w w':=by
 have t1:(f==1)=false:=by simp[h1]
 have t2:(f==2)=false:=by simp[h2]
 go_enter func49,ntmps49
 go_wp2_with fail;refine bodyPost_ret (v:=.tuple #[.agg #[.int .u64 0,.int .u64 0,.int .u64 0,.int .u64 0,.int .u64 0,.int .u64 0,.int .u64 0,.int .u64 0,.int .u64 0],.int .i64 1]) (by simp[results,results49,go_sem]) rfl ?_;refine⟨rfl,?_⟩
 repeat (first|exact Below.refl _ _|refine Below.drew ?_|refine Below.alloc ?_ (by first|(simp; done)|(simp; omega)) _|refine Below.setCell ?_ (by simp) _)
theorem zR (w:World):Calls prog 51 #[.int .i64 1] w fun e w'=>e=.returned (.int .i64 1)∧w'=w:=by
 go_enter func51,ntmps51
 go_wp2_with fail;go_ret;exact⟨rfl,rfl⟩
theorem qR (w:World):Calls prog 51 #[.int .i64 0] w fun e w'=>e=.returned (.int .i64 21)∧w'=w:=by
 go_enter func51,ntmps51
 go_wp2_with fail;go_ret;exact⟨rfl,rfl⟩
set_option maxHeartbeats 2000000 in
theorem Aq (f:Int) (F:FC) (hf:FieldIs f F) (a0 a1 a2 a3 b0 b1 b2 b3:Nat) (ha:aZ a0 a1 a2 a3) (hb:aZ b0 b1 b2 b3) (la:aA a0 a1 a2 a3<F.M) (lb:aA b0 b1 b2 b3<F.M) (w:World) :
  Calls prog 130 #[.int .i64 f,.agg #[.int .u64 a0,.int .u64 a1,.int .u64 a2,.int .u64 a3],.agg #[.int .u64 b0,.int .u64 b1,.int .u64 b2,.int .u64 b3]] w (WM 0 ((aA a0 a1 a2 a3+aA b0 b1 b2 b3)%F.M) w):=by
 go_enter func130,ntmps130
 go_wp2_with fail;refine (dL f F hf _).mono ?_
 rintro e w1 ⟨rfl,hbl⟩
 have M1:=((((Mem.nil w).new (w.heap.size) a0 a1 a2 a3 24 (by simp)).new (w.heap.size+1) b0 b1 b2 b3 24 (by simp)).new (w.heap.size+1+1) 0 0 0 0 24 (by simp)).on hbl;clear hbl;have z0:w.heap.size<w1.heap.size:=M1.lt (c0:=a0) (c1:=a1) (c2:=a2) (c3:=a3) (by simp);have z1:w.heap.size+1<w1.heap.size:=M1.lt (c0:=b0) (c1:=b1) (c2:=b2) (c3:=b3) (by simp);have z2:w.heap.size+1+1<w1.heap.size:=M1.lt (c0:=0) (c1:=0) (c2:=0) (c3:=0) (by simp);have HM:=Lib.hid (M1.on ((Below.refl _ _).alloc (Nat.le_refl _) (.cells #[.int .u64 F.m0,.int .u64 F.m1,.int .u64 F.m2,.int .u64 F.m3,.int .u64 F.inv,.int .u64 F.s0,.int .u64 F.s1,.int .u64 F.s2,.int .u64 F.s3] 87)));have KK:=Lib.hid (KIs.new w1 F 87);have kr:=M1.row (b:=w.heap.size) (c0:=a0) (c1:=a1) (c2:=a2) (c3:=a3) (by simp);have x0:=kr.c0; have x1:=kr.c1; have x2:=kr.c2; have x3:=kr.c3;clear kr;have xl:=M1.lt (b:=w.heap.size) (c0:=a0) (c1:=a1) (c2:=a2) (c3:=a3) (by simp);go_wp2_with fail;refine (cO F hf.ok w1.heap.size a0 a1 a2 a3 ha _ KK.out).mono ?_
 rintro e w2 ⟨he,hbl⟩
 rw[show tN (aA a0 a1 a2 a3) F.M=true from decide_eq_true la]at he;subst he;have HM':=Lib.hid (HM.out.on hbl);have KK':=Lib.hid (KK.out.same hbl);have zk:=KK'.out.lt;clear HM KK hbl M1;have HM:=HM';have KK:=KK';clear HM' KK';clear x0 x1 x2 x3 xl zk;have kr:=HM.out.row (b:=w.heap.size+1) (c0:=b0) (c1:=b1) (c2:=b2) (c3:=b3) (by simp);have x0:=kr.c0; have x1:=kr.c1; have x2:=kr.c2; have x3:=kr.c3;clear kr;have xl:=HM.out.lt (b:=w.heap.size+1) (c0:=b0) (c1:=b1) (c2:=b2) (c3:=b3) (by simp);go_wp2_with fail;refine (cO F hf.ok w1.heap.size b0 b1 b2 b3 hb _ KK.out).mono ?_
 rintro e w3 ⟨he,hbl⟩
 rw[show tN (aA b0 b1 b2 b3) F.M=true from decide_eq_true lb]at he;subst he;have HM':=Lib.hid (HM.out.on hbl);have KK':=Lib.hid (KK.out.same hbl);have zk:=KK'.out.lt;clear HM KK hbl;have HM:=HM';have KK:=KK';clear HM' KK';clear x0 x1 x2 x3 xl zk;have kr:=HM.out.row (b:=w.heap.size) (c0:=a0) (c1:=a1) (c2:=a2) (c3:=a3) (by simp);have x0:=kr.c0; have x1:=kr.c1; have x2:=kr.c2; have x3:=kr.c3;clear kr;have xl:=HM.out.lt (b:=w.heap.size) (c0:=a0) (c1:=a1) (c2:=a2) (c3:=a3) (by simp);have kr:=HM.out.row (b:=w.heap.size+1) (c0:=b0) (c1:=b1) (c2:=b2) (c3:=b3) (by simp);have u0:=kr.c0; have u1:=kr.c1; have u2:=kr.c2; have u3:=kr.c3;clear kr;have ul:=HM.out.lt (b:=w.heap.size+1) (c0:=b0) (c1:=b1) (c2:=b2) (c3:=b3) (by simp);go_wp2_with fail;refine (EE F hf.ok w1.heap.size a0 a1 a2 a3 b0 b1 b2 b3 ha hb la lb _ KK.out).mono ?_
 rintro e w4 ⟨s0,s1,s2,s3,rfl,hs,hv,hbl⟩
 have HV:=Lib.hid hv;clear hv;have HM':=Lib.hid (HM.out.on hbl);have KK':=Lib.hid (KK.out.same hbl);have zk:=KK'.out.lt;clear HM KK hbl;have HM:=HM';have KK:=KK';clear HM' KK';clear x0 x1 x2 x3 xl u0 u1 u2 u3 ul zk;have kr:=HM.out.row (b:=w.heap.size+1+1) (c0:=0) (c1:=0) (c2:=0) (c3:=0) (by simp);have y0:=kr.c0; have y1:=kr.c1; have y2:=kr.c2; have y3:=kr.c3; have yf:=kr.fr;clear kr;have yl:=HM.out.lt (b:=w.heap.size+1+1) (c0:=0) (c1:=0) (c2:=0) (c3:=0) (by simp);go_wp2_with fail;refine bodyPost_ret (v:=.tuple #[.agg #[.int .u64 s0,.int .u64 s1,.int .u64 s2,.int .u64 s3],.int .i64 0]) (by simp[results,results130,go_sem, *]) rfl ?_;refine⟨_,_,_,_,rfl,hs,HV.out,?_⟩;exact aM HM.out.1 (by omega) _ _ _ _
set_option maxHeartbeats 2000000 in
theorem Al (f:Int) (F:FC) (hf:FieldIs f F) (a0 a1 a2 a3 b0 b1 b2 b3:Nat) (ha:aZ a0 a1 a2 a3) (hb:aZ b0 b1 b2 b3) (la:aA a0 a1 a2 a3<F.M) (lb:aA b0 b1 b2 b3<F.M) (w:World) :
  Calls prog 105 #[.int .i64 f,.agg #[.int .u64 a0,.int .u64 a1,.int .u64 a2,.int .u64 a3],.agg #[.int .u64 b0,.int .u64 b1,.int .u64 b2,.int .u64 b3]] w (WM 0 ((aA a0 a1 a2 a3+F.M-aA b0 b1 b2 b3)%F.M) w):=by
 go_enter func105,ntmps105
 go_wp2_with fail;refine (dL f F hf _).mono ?_
 rintro e w1 ⟨rfl,hbl⟩
 have M1:=((((Mem.nil w).new (w.heap.size) a0 a1 a2 a3 24 (by simp)).new (w.heap.size+1) b0 b1 b2 b3 24 (by simp)).new (w.heap.size+1+1) 0 0 0 0 24 (by simp)).on hbl;clear hbl;have z0:w.heap.size<w1.heap.size:=M1.lt (c0:=a0) (c1:=a1) (c2:=a2) (c3:=a3) (by simp);have z1:w.heap.size+1<w1.heap.size:=M1.lt (c0:=b0) (c1:=b1) (c2:=b2) (c3:=b3) (by simp);have z2:w.heap.size+1+1<w1.heap.size:=M1.lt (c0:=0) (c1:=0) (c2:=0) (c3:=0) (by simp);have HM:=Lib.hid (M1.on ((Below.refl _ _).alloc (Nat.le_refl _) (.cells #[.int .u64 F.m0,.int .u64 F.m1,.int .u64 F.m2,.int .u64 F.m3,.int .u64 F.inv,.int .u64 F.s0,.int .u64 F.s1,.int .u64 F.s2,.int .u64 F.s3] 87)));have KK:=Lib.hid (KIs.new w1 F 87);have kr:=M1.row (b:=w.heap.size) (c0:=a0) (c1:=a1) (c2:=a2) (c3:=a3) (by simp);have x0:=kr.c0; have x1:=kr.c1; have x2:=kr.c2; have x3:=kr.c3;clear kr;have xl:=M1.lt (b:=w.heap.size) (c0:=a0) (c1:=a1) (c2:=a2) (c3:=a3) (by simp);go_wp2_with fail;refine (cO F hf.ok w1.heap.size a0 a1 a2 a3 ha _ KK.out).mono ?_
 rintro e w2 ⟨he,hbl⟩
 rw[show tN (aA a0 a1 a2 a3) F.M=true from decide_eq_true la]at he;subst he;have HM':=Lib.hid (HM.out.on hbl);have KK':=Lib.hid (KK.out.same hbl);have zk:=KK'.out.lt;clear HM KK hbl M1;have HM:=HM';have KK:=KK';clear HM' KK';clear x0 x1 x2 x3 xl zk;have kr:=HM.out.row (b:=w.heap.size+1) (c0:=b0) (c1:=b1) (c2:=b2) (c3:=b3) (by simp);have x0:=kr.c0; have x1:=kr.c1; have x2:=kr.c2; have x3:=kr.c3;clear kr;have xl:=HM.out.lt (b:=w.heap.size+1) (c0:=b0) (c1:=b1) (c2:=b2) (c3:=b3) (by simp);go_wp2_with fail;refine (cO F hf.ok w1.heap.size b0 b1 b2 b3 hb _ KK.out).mono ?_
 rintro e w3 ⟨he,hbl⟩
 rw[show tN (aA b0 b1 b2 b3) F.M=true from decide_eq_true lb]at he;subst he;have HM':=Lib.hid (HM.out.on hbl);have KK':=Lib.hid (KK.out.same hbl);have zk:=KK'.out.lt;clear HM KK hbl;have HM:=HM';have KK:=KK';clear HM' KK';clear x0 x1 x2 x3 xl zk;have kr:=HM.out.row (b:=w.heap.size) (c0:=a0) (c1:=a1) (c2:=a2) (c3:=a3) (by simp);have x0:=kr.c0; have x1:=kr.c1; have x2:=kr.c2; have x3:=kr.c3;clear kr;have xl:=HM.out.lt (b:=w.heap.size) (c0:=a0) (c1:=a1) (c2:=a2) (c3:=a3) (by simp);have kr:=HM.out.row (b:=w.heap.size+1) (c0:=b0) (c1:=b1) (c2:=b2) (c3:=b3) (by simp);have u0:=kr.c0; have u1:=kr.c1; have u2:=kr.c2; have u3:=kr.c3;clear kr;have ul:=HM.out.lt (b:=w.heap.size+1) (c0:=b0) (c1:=b1) (c2:=b2) (c3:=b3) (by simp);go_wp2_with fail;refine (lM F hf.ok w1.heap.size a0 a1 a2 a3 b0 b1 b2 b3 ha hb la lb _ KK.out).mono ?_
 rintro e w4 ⟨s0,s1,s2,s3,rfl,hs,hv,hbl⟩
 have HV:=Lib.hid hv;clear hv;have HM':=Lib.hid (HM.out.on hbl);have KK':=Lib.hid (KK.out.same hbl);have zk:=KK'.out.lt;clear HM KK hbl;have HM:=HM';have KK:=KK';clear HM' KK';clear x0 x1 x2 x3 xl u0 u1 u2 u3 ul zk;have kr:=HM.out.row (b:=w.heap.size+1+1) (c0:=0) (c1:=0) (c2:=0) (c3:=0) (by simp);have y0:=kr.c0; have y1:=kr.c1; have y2:=kr.c2; have y3:=kr.c3; have yf:=kr.fr;clear kr;have yl:=HM.out.lt (b:=w.heap.size+1+1) (c0:=0) (c1:=0) (c2:=0) (c3:=0) (by simp);go_wp2_with fail;refine bodyPost_ret (v:=.tuple #[.agg #[.int .u64 s0,.int .u64 s1,.int .u64 s2,.int .u64 s3],.int .i64 0]) (by simp[results,results105,go_sem, *]) rfl ?_;refine⟨_,_,_,_,rfl,hs,HV.out,?_⟩;exact aM HM.out.1 (by omega) _ _ _ _
set_option maxHeartbeats 2000000 in
theorem An (f:Int) (F:FC) (hf:FieldIs f F) (a0 a1 a2 a3 b0 b1 b2 b3:Nat) (ha:aZ a0 a1 a2 a3) (hb:aZ b0 b1 b2 b3) (la:aA a0 a1 a2 a3<F.M) (lb:aA b0 b1 b2 b3<F.M) (w:World) :
  Calls prog 119 #[.int .i64 f,.agg #[.int .u64 a0,.int .u64 a1,.int .u64 a2,.int .u64 a3],.agg #[.int .u64 b0,.int .u64 b1,.int .u64 b2,.int .u64 b3]] w (WM 0 (aA a0 a1 a2 a3*aA b0 b1 b2 b3%F.M) w):=by
 go_enter func119,ntmps119
 go_wp2_with fail;refine (dL f F hf _).mono ?_
 rintro e w1 ⟨rfl,hbl⟩
 have M1:=((((Mem.nil w).new (w.heap.size) a0 a1 a2 a3 24 (by simp)).new (w.heap.size+1) b0 b1 b2 b3 24 (by simp)).new (w.heap.size+1+1) 0 0 0 0 24 (by simp)).on hbl;clear hbl;have z0:w.heap.size<w1.heap.size:=M1.lt (c0:=a0) (c1:=a1) (c2:=a2) (c3:=a3) (by simp);have z1:w.heap.size+1<w1.heap.size:=M1.lt (c0:=b0) (c1:=b1) (c2:=b2) (c3:=b3) (by simp);have z2:w.heap.size+1+1<w1.heap.size:=M1.lt (c0:=0) (c1:=0) (c2:=0) (c3:=0) (by simp);have HM:=Lib.hid (M1.on ((Below.refl _ _).alloc (Nat.le_refl _) (.cells #[.int .u64 F.m0,.int .u64 F.m1,.int .u64 F.m2,.int .u64 F.m3,.int .u64 F.inv,.int .u64 F.s0,.int .u64 F.s1,.int .u64 F.s2,.int .u64 F.s3] 87)));have KK:=Lib.hid (KIs.new w1 F 87);have kr:=M1.row (b:=w.heap.size) (c0:=a0) (c1:=a1) (c2:=a2) (c3:=a3) (by simp);have x0:=kr.c0; have x1:=kr.c1; have x2:=kr.c2; have x3:=kr.c3;clear kr;have xl:=M1.lt (b:=w.heap.size) (c0:=a0) (c1:=a1) (c2:=a2) (c3:=a3) (by simp);go_wp2_with fail;refine (cO F hf.ok w1.heap.size a0 a1 a2 a3 ha _ KK.out).mono ?_
 rintro e w2 ⟨he,hbl⟩
 rw[show tN (aA a0 a1 a2 a3) F.M=true from decide_eq_true la]at he;subst he;have HM':=Lib.hid (HM.out.on hbl);have KK':=Lib.hid (KK.out.same hbl);have zk:=KK'.out.lt;clear HM KK hbl M1;have HM:=HM';have KK:=KK';clear HM' KK';clear x0 x1 x2 x3 xl zk;have kr:=HM.out.row (b:=w.heap.size+1) (c0:=b0) (c1:=b1) (c2:=b2) (c3:=b3) (by simp);have x0:=kr.c0; have x1:=kr.c1; have x2:=kr.c2; have x3:=kr.c3;clear kr;have xl:=HM.out.lt (b:=w.heap.size+1) (c0:=b0) (c1:=b1) (c2:=b2) (c3:=b3) (by simp);go_wp2_with fail;refine (cO F hf.ok w1.heap.size b0 b1 b2 b3 hb _ KK.out).mono ?_
 rintro e w3 ⟨he,hbl⟩
 rw[show tN (aA b0 b1 b2 b3) F.M=true from decide_eq_true lb]at he;subst he;have HM':=Lib.hid (HM.out.on hbl);have KK':=Lib.hid (KK.out.same hbl);have zk:=KK'.out.lt;clear HM KK hbl;have HM:=HM';have KK:=KK';clear HM' KK';clear x0 x1 x2 x3 xl zk;have kr:=HM.out.row (b:=w.heap.size) (c0:=a0) (c1:=a1) (c2:=a2) (c3:=a3) (by simp);have x0:=kr.c0; have x1:=kr.c1; have x2:=kr.c2; have x3:=kr.c3;clear kr;have xl:=HM.out.lt (b:=w.heap.size) (c0:=a0) (c1:=a1) (c2:=a2) (c3:=a3) (by simp);have kr:=HM.out.row (b:=w.heap.size+1) (c0:=b0) (c1:=b1) (c2:=b2) (c3:=b3) (by simp);have u0:=kr.c0; have u1:=kr.c1; have u2:=kr.c2; have u3:=kr.c3;clear kr;have ul:=HM.out.lt (b:=w.heap.size+1) (c0:=b0) (c1:=b1) (c2:=b2) (c3:=b3) (by simp);go_wp2_with fail;refine (uM F hf.ok w1.heap.size a0 a1 a2 a3 b0 b1 b2 b3 ha hb lb _ KK.out).mono ?_
 rintro e w4 ⟨s0,s1,s2,s3,rfl,hs,hv,hbl⟩
 have HV:=Lib.hid hv;clear hv;have HM':=Lib.hid (HM.out.on hbl);have KK':=Lib.hid (KK.out.same hbl);have zk:=KK'.out.lt;clear HM KK hbl;have HM:=HM';have KK:=KK';clear HM' KK';clear x0 x1 x2 x3 xl u0 u1 u2 u3 ul zk;have kr:=HM.out.row (b:=w.heap.size+1+1) (c0:=0) (c1:=0) (c2:=0) (c3:=0) (by simp);have y0:=kr.c0; have y1:=kr.c1; have y2:=kr.c2; have y3:=kr.c3; have yf:=kr.fr;clear kr;have yl:=HM.out.lt (b:=w.heap.size+1+1) (c0:=0) (c1:=0) (c2:=0) (c3:=0) (by simp);go_wp2_with fail;refine bodyPost_ret (v:=.tuple #[.agg #[.int .u64 s0,.int .u64 s1,.int .u64 s2,.int .u64 s3],.int .i64 0]) (by simp[results,results119,go_sem, *]) rfl ?_;refine⟨_,_,_,_,rfl,hs,HV.out,?_⟩;exact aM HM.out.1 (by omega) _ _ _ _
set_option maxHeartbeats 2000000 in
theorem FM (f c:Int) (a0 a1 a2 a3:Nat) (ha:aZ a0 a1 a2 a3) (h:Bad1 f (aA a0 a1 a2 a3) c) (w:World) :
  Calls prog 115 #[.int .i64 f,.agg #[.int .u64 a0,.int .u64 a1,.int .u64 a2,.int .u64 a3]] w fun e w'=>e=.returned (.int .i64 c)∧Below w.heap.size w w':=by
 rcases h with⟨h1,h2,rfl⟩|⟨F,hf,la,rfl⟩
 ·go_enter func115,ntmps115
  go_wp2_with fail;refine (NQ f h1 h2 _).mono ?_
  rintro e w1 ⟨rfl,hbl⟩
  have M1:=((Mem.nil w).new (w.heap.size) a0 a1 a2 a3 24 (by simp)).on hbl;clear hbl;have z0:w.heap.size<w1.heap.size:=M1.lt (c0:=a0) (c1:=a1) (c2:=a2) (c3:=a3) (by simp);have HM:=Lib.hid (M1.on ((Below.refl _ _).alloc (Nat.le_refl _) (.cells #[.int .u64 0,.int .u64 0,.int .u64 0,.int .u64 0,.int .u64 0,.int .u64 0,.int .u64 0,.int .u64 0,.int .u64 0] 87)));go_wp2_with fail;refine (zR _).mono ?_
  rintro e w2 ⟨rfl,rfl⟩
  go_wp2_with fail;refine bodyPost_ret (v:=.int .i64 1) (by simp[results,results115,go_sem, *]) rfl ?_;exact⟨rfl,HM.out.1⟩
 ·go_enter func115,ntmps115
  go_wp2_with fail;refine (dL f F hf _).mono ?_
  rintro e w1 ⟨rfl,hbl⟩
  have M1:=((Mem.nil w).new (w.heap.size) a0 a1 a2 a3 24 (by simp)).on hbl;clear hbl;have z0:w.heap.size<w1.heap.size:=M1.lt (c0:=a0) (c1:=a1) (c2:=a2) (c3:=a3) (by simp);have HM:=Lib.hid (M1.on ((Below.refl _ _).alloc (Nat.le_refl _) (.cells #[.int .u64 F.m0,.int .u64 F.m1,.int .u64 F.m2,.int .u64 F.m3,.int .u64 F.inv,.int .u64 F.s0,.int .u64 F.s1,.int .u64 F.s2,.int .u64 F.s3] 87)));have KK:=Lib.hid (KIs.new w1 F 87);have kr:=M1.row (b:=w.heap.size) (c0:=a0) (c1:=a1) (c2:=a2) (c3:=a3) (by simp);have x0:=kr.c0; have x1:=kr.c1; have x2:=kr.c2; have x3:=kr.c3;clear kr;have xl:=M1.lt (b:=w.heap.size) (c0:=a0) (c1:=a1) (c2:=a2) (c3:=a3) (by simp);go_wp2_with fail;refine (cO F hf.ok w1.heap.size a0 a1 a2 a3 ha _ KK.out).mono ?_
  rintro e w2 ⟨he,hbl⟩
  rw[show tN (aA a0 a1 a2 a3) F.M=false from decide_eq_false la]at he;subst he;have HM':=Lib.hid (HM.out.on hbl);have KK':=Lib.hid (KK.out.same hbl);have zk:=KK'.out.lt;clear HM KK hbl M1;have HM:=HM';have KK:=KK';clear HM' KK';clear x0 x1 x2 x3 xl zk;go_wp2_with fail;refine (qR _).mono ?_
  rintro e w3 ⟨rfl,rfl⟩
  go_wp2_with fail;refine bodyPost_ret (v:=.int .i64 21) (by simp[results,results115,go_sem, *]) rfl ?_;exact⟨rfl,HM.out.1⟩
set_option maxHeartbeats 2000000 in
theorem NL (f:Int) (F:FC) (hf:FieldIs f F) (a0 a1 a2 a3:Nat) (ha:aZ a0 a1 a2 a3) (la:aA a0 a1 a2 a3<F.M) (w:World) :
  Calls prog 115 #[.int .i64 f,.agg #[.int .u64 a0,.int .u64 a1,.int .u64 a2,.int .u64 a3]] w (fun e w'=>e=.returned (.int .i64 0)∧Below w.heap.size w w'):=by
 go_enter func115,ntmps115
 go_wp2_with fail;refine (dL f F hf _).mono ?_
 rintro e w1 ⟨rfl,hbl⟩
 have M1:=((Mem.nil w).new (w.heap.size) a0 a1 a2 a3 24 (by simp)).on hbl;clear hbl;have z0:w.heap.size<w1.heap.size:=M1.lt (c0:=a0) (c1:=a1) (c2:=a2) (c3:=a3) (by simp);have HM:=Lib.hid (M1.on ((Below.refl _ _).alloc (Nat.le_refl _) (.cells #[.int .u64 F.m0,.int .u64 F.m1,.int .u64 F.m2,.int .u64 F.m3,.int .u64 F.inv,.int .u64 F.s0,.int .u64 F.s1,.int .u64 F.s2,.int .u64 F.s3] 87)));have KK:=Lib.hid (KIs.new w1 F 87);have kr:=M1.row (b:=w.heap.size) (c0:=a0) (c1:=a1) (c2:=a2) (c3:=a3) (by simp);have x0:=kr.c0; have x1:=kr.c1; have x2:=kr.c2; have x3:=kr.c3;clear kr;have xl:=M1.lt (b:=w.heap.size) (c0:=a0) (c1:=a1) (c2:=a2) (c3:=a3) (by simp);go_wp2_with fail;refine (cO F hf.ok w1.heap.size a0 a1 a2 a3 ha _ KK.out).mono ?_
 rintro e w2 ⟨he,hbl⟩
 rw[show tN (aA a0 a1 a2 a3) F.M=true from decide_eq_true la]at he;subst he;have HM':=Lib.hid (HM.out.on hbl);have KK':=Lib.hid (KK.out.same hbl);have zk:=KK'.out.lt;clear HM KK hbl M1;have HM:=HM';have KK:=KK';clear HM' KK';clear x0 x1 x2 x3 xl zk;go_wp2_with fail;go_ret;exact⟨rfl,HM.out.1⟩
set_option maxHeartbeats 2000000 in
theorem NI (f:Int) (F:FC) (hf:FieldIs f F) (a0 a1 a2 a3:Nat) (ha:aZ a0 a1 a2 a3) (la:aA a0 a1 a2 a3<F.M) (w:World) :
  Calls prog 52 #[.int .i64 f,.agg #[.int .u64 a0,.int .u64 a1,.int .u64 a2,.int .u64 a3]] w (fun e w'=>e=.returned (.tuple #[.bool (cR F.M (aA a0 a1 a2 a3)),.int .i64 0])∧Below w.heap.size w w'):=by
 go_enter func52,ntmps52
 go_wp2_with fail;refine (dL f F hf _).mono ?_
 rintro e w1 ⟨rfl,hbl⟩
 have M1:=((Mem.nil w).new (w.heap.size) a0 a1 a2 a3 24 (by simp)).on hbl;clear hbl;have z0:w.heap.size<w1.heap.size:=M1.lt (c0:=a0) (c1:=a1) (c2:=a2) (c3:=a3) (by simp);have HM:=Lib.hid (M1.on ((Below.refl _ _).alloc (Nat.le_refl _) (.cells #[.int .u64 F.m0,.int .u64 F.m1,.int .u64 F.m2,.int .u64 F.m3,.int .u64 F.inv,.int .u64 F.s0,.int .u64 F.s1,.int .u64 F.s2,.int .u64 F.s3] 87)));have KK:=Lib.hid (KIs.new w1 F 87);have kr:=M1.row (b:=w.heap.size) (c0:=a0) (c1:=a1) (c2:=a2) (c3:=a3) (by simp);have x0:=kr.c0; have x1:=kr.c1; have x2:=kr.c2; have x3:=kr.c3;clear kr;have xl:=M1.lt (b:=w.heap.size) (c0:=a0) (c1:=a1) (c2:=a2) (c3:=a3) (by simp);go_wp2_with fail;refine (cO F hf.ok w1.heap.size a0 a1 a2 a3 ha _ KK.out).mono ?_
 rintro e w2 ⟨he,hbl⟩
 rw[show tN (aA a0 a1 a2 a3) F.M=true from decide_eq_true la]at he;subst he;have HM':=Lib.hid (HM.out.on hbl);have KK':=Lib.hid (KK.out.same hbl);have zk:=KK'.out.lt;clear HM KK hbl M1;have HM:=HM';have KK:=KK';clear HM' KK';clear x0 x1 x2 x3 xl zk;have kr:=HM.out.row (b:=w.heap.size) (c0:=a0) (c1:=a1) (c2:=a2) (c3:=a3) (by simp);have x0:=kr.c0; have x1:=kr.c1; have x2:=kr.c2; have x3:=kr.c3;clear kr;have xl:=HM.out.lt (b:=w.heap.size) (c0:=a0) (c1:=a1) (c2:=a2) (c3:=a3) (by simp);go_wp2_with fail;refine (mZ F hf.ok w1.heap.size a0 a1 a2 a3 ha la _ KK.out).mono ?_
 rintro e w4 ⟨rfl,hbl⟩
 have HM':=Lib.hid (HM.out.on hbl);have KK':=Lib.hid (KK.out.same hbl);have zk:=KK'.out.lt;clear HM KK hbl;have HM:=HM';have KK:=KK';clear HM' KK';clear x0 x1 x2 x3 xl zk;go_wp2_with fail
 go_ret2
 exact⟨rfl,HM.out.1⟩
set_option maxHeartbeats 2000000 in
theorem Ap (f:Int) (F:FC) (hf:FieldIs f F) (a0 a1 a2 a3 b0 b1 b2 b3:Nat) (ha:aZ a0 a1 a2 a3) (hb:aZ b0 b1 b2 b3) (la:aA a0 a1 a2 a3<F.M) (lb:aA b0 b1 b2 b3<F.M) (hz:aA b0 b1 b2 b3≠0) (w:World) :
  Calls prog 104 #[.int .i64 f,.agg #[.int .u64 a0,.int .u64 a1,.int .u64 a2,.int .u64 a3],.agg #[.int .u64 b0,.int .u64 b1,.int .u64 b2,.int .u64 b3]] w (WM 0 (aA a0 a1 a2 a3*(aA b0 b1 b2 b3^(F.M-2))%F.M) w):=by
 have HE:=Lib.hid (show ∀w,(Op.equalIn 10000 24 (.agg #[.int .u64 b0,.int .u64 b1,.int .u64 b2,.int .u64 b3]) (.agg #[.int .u64 0,.int .u64 0,.int .u64 0,.int .u64 0])).run prog w=.ok false w from fun w=>by
  have h:=jO 9998 b0 b1 b2 b3 0 0 0 0 w;have q:yC b0 b1 b2 b3 0 0 0 0=false:=by
   cases q:yC b0 b1 b2 b3 0 0 0 0
   ·rfl
   ·exact absurd (((gD hb wN).1 q).trans rfl) hz
  rw[q]at h;exact h)
 have hG:=jQ;clear hz
 go_enter func104,ntmps104
 go_wp2_with fail;refine (dL f F hf _).mono ?_
 rintro e w1 ⟨rfl,hbl⟩
 have M1:=((((Mem.nil w).new (w.heap.size) a0 a1 a2 a3 24 (by simp)).new (w.heap.size+1) b0 b1 b2 b3 24 (by simp)).new (w.heap.size+1+1) 0 0 0 0 24 (by simp)).on hbl;clear hbl;have z0:w.heap.size<w1.heap.size:=M1.lt (c0:=a0) (c1:=a1) (c2:=a2) (c3:=a3) (by simp);have z1:w.heap.size+1<w1.heap.size:=M1.lt (c0:=b0) (c1:=b1) (c2:=b2) (c3:=b3) (by simp);have z2:w.heap.size+1+1<w1.heap.size:=M1.lt (c0:=0) (c1:=0) (c2:=0) (c3:=0) (by simp);have HM:=Lib.hid (M1.on ((Below.refl _ _).alloc (Nat.le_refl _) (.cells #[.int .u64 F.m0,.int .u64 F.m1,.int .u64 F.m2,.int .u64 F.m3,.int .u64 F.inv,.int .u64 F.s0,.int .u64 F.s1,.int .u64 F.s2,.int .u64 F.s3] 87)));have KK:=Lib.hid (KIs.new w1 F 87);have kr:=M1.row (b:=w.heap.size) (c0:=a0) (c1:=a1) (c2:=a2) (c3:=a3) (by simp);have x0:=kr.c0; have x1:=kr.c1; have x2:=kr.c2; have x3:=kr.c3;clear kr;have xl:=M1.lt (b:=w.heap.size) (c0:=a0) (c1:=a1) (c2:=a2) (c3:=a3) (by simp);go_wp2_with fail;refine (cO F hf.ok w1.heap.size a0 a1 a2 a3 ha _ KK.out).mono ?_
 rintro e w2 ⟨he,hbl⟩
 rw[show tN (aA a0 a1 a2 a3) F.M=true from decide_eq_true la]at he;subst he;have HM':=Lib.hid (HM.out.on hbl);have KK':=Lib.hid (KK.out.same hbl);have zk:=KK'.out.lt;clear HM KK hbl M1;have HM:=HM';have KK:=KK';clear HM' KK';clear x0 x1 x2 x3 xl zk;have kr:=HM.out.row (b:=w.heap.size+1) (c0:=b0) (c1:=b1) (c2:=b2) (c3:=b3) (by simp);have x0:=kr.c0; have x1:=kr.c1; have x2:=kr.c2; have x3:=kr.c3;clear kr;have xl:=HM.out.lt (b:=w.heap.size+1) (c0:=b0) (c1:=b1) (c2:=b2) (c3:=b3) (by simp);go_wp2_with fail;refine (cO F hf.ok w1.heap.size b0 b1 b2 b3 hb _ KK.out).mono ?_
 rintro e w3 ⟨he,hbl⟩
 rw[show tN (aA b0 b1 b2 b3) F.M=true from decide_eq_true lb]at he;subst he;have HM':=Lib.hid (HM.out.on hbl);have KK':=Lib.hid (KK.out.same hbl);have zk:=KK'.out.lt;clear HM KK hbl;have HM:=HM';have KK:=KK';clear HM' KK';clear x0 x1 x2 x3 xl zk;have kr:=HM.out.row (b:=w.heap.size+1) (c0:=b0) (c1:=b1) (c2:=b2) (c3:=b3) (by simp);have u0:=kr.c0; have u1:=kr.c1; have u2:=kr.c2; have u3:=kr.c3;clear kr;have ul:=HM.out.lt (b:=w.heap.size+1) (c0:=b0) (c1:=b1) (c2:=b2) (c3:=b3) (by simp);have hE:=HE.out;go_wp2_with fail;clear u0 u1 u2 u3 ul hE;refine bM (fun wx=>Mem w wx [(w.heap.size+1,b0,b1,b2,b3),(w.heap.size,a0,a1,a2,a3)]) 6 (by kernel_rfl) ?_;have HM':=Lib.hid (HM.out.drewN 1);have KK':=Lib.hid (KK.out.drewN 1);clear HM KK;have HM:=HM';have KK:=KK';clear HM' KK';have HS:=HM.out.sub (rs':=[(w.heap.size+1,b0,b1,b2,b3),(w.heap.size,a0,a1,a2,a3)]) (by simp);refine aC (i:=0) (v:=.agg #[.int .u64 b0,.int .u64 b1,.int .u64 b2,.int .u64 b3]) rfl (by kernel_rfl) (by kernel_rfl) (by kernel_rfl) (by kernel_rfl) (fun _ _ _ h=>h) HS (Or.inl ⟨by kernel_rfl,fun wx hx => ?_⟩) ?_
 ·have kr:=hx.row (b:=w.heap.size+1) (c0:=b0) (c1:=b1) (c2:=b2) (c3:=b3) (by simp);have x0:=kr.c0; have x1:=kr.c1; have x2:=kr.c2; have x3:=kr.c3;clear kr HS hx;go_simp
 simp only[Act.put,List.setIfInBounds_toArray,List.set_cons_zero,List.set_cons_succ];refine aC (i:=3) (v:=.agg #[.int .u64 a0,.int .u64 a1,.int .u64 a2,.int .u64 a3]) rfl (by kernel_rfl) (by kernel_rfl) (by kernel_rfl) (by kernel_rfl) (fun _ _ _ h=>h) HS (Or.inl ⟨by kernel_rfl,fun wx hx => ?_⟩) ?_
 ·have kr:=hx.row (b:=w.heap.size) (c0:=a0) (c1:=a1) (c2:=a2) (c3:=a3) (by simp);have x0:=kr.c0; have x1:=kr.c1; have x2:=kr.c2; have x3:=kr.c3;clear kr HS hx;go_simp
 simp only[Act.put,List.setIfInBounds_toArray,List.set_cons_zero,List.set_cons_succ];clear HS;refine aD (i:=1) (by kernel_rfl) rfl (fun K hK => ?_);go_simp;refine (cW F hf.ok w1.heap.size b0 b1 b2 b3 hb _ KK.out).mono ?_
 rintro e w4 ⟨i0,i1,i2,i3,rfl,hi,hv,hbl⟩
 have HVi:=Lib.hid hv;clear hv;have HM':=Lib.hid (HM.out.on hbl);have KK':=Lib.hid (KK.out.same hbl);have zk_w4:=KK'.out.lt;clear HM KK hbl;have HM:=HM';have KK:=KK';clear HM' KK';have HS:=HM.out.sub (rs':=[(w.heap.size+1,b0,b1,b2,b3),(w.heap.size,a0,a1,a2,a3)]) (by simp);refine hK.out _ _ (Or.inr HS) (fun _ => ?_);clear hK K;clear HS;refine aD (i:=2) (by kernel_rfl) rfl (fun K hK => ?_);go_simp;refine (tO F hf.ok (aA b0 b1 b2 b3) w1.heap.size i0 i1 i2 i3 hi HVi.out _ KK.out).mono ?_
 rintro e w5 ⟨j0,j1,j2,j3,rfl,hj,hv,hbl⟩
 have HVj:=Lib.hid hv;clear hv;have HM':=Lib.hid (HM.out.on hbl);have KK':=Lib.hid (KK.out.same hbl);have zk_w5:=KK'.out.lt;clear HM KK hbl;have HM:=HM';have KK:=KK';clear HM' KK';have HS:=HM.out.sub (rs':=[(w.heap.size+1,b0,b1,b2,b3),(w.heap.size,a0,a1,a2,a3)]) (by simp);refine hK.out _ _ (Or.inr HS) (fun _ => ?_);clear hK K;clear HS;refine aD (i:=4) (by kernel_rfl) rfl (fun K hK => ?_);go_simp;refine (cC F hf.ok w1.heap.size j0 j1 j2 j3 a0 a1 a2 a3 hj ha la _ KK.out).mono ?_
 rintro e w6 ⟨s0,s1,s2,s3,rfl,hs,hv,hbl⟩
 have HVs:=Lib.hid (show aA s0 s1 s2 s3=aA a0 a1 a2 a3*(aA b0 b1 b2 b3^(F.M-2))%F.M by rw[hv,HVj.out,tH hf.ok,Nat.mul_comm]);clear hv;have HM':=Lib.hid (HM.out.on hbl);have KK':=Lib.hid (KK.out.same hbl);have zk_w6:=KK'.out.lt;clear HM KK hbl;have HM:=HM';have KK:=KK';clear HM' KK';have HS:=HM.out.sub (rs':=[(w.heap.size+1,b0,b1,b2,b3),(w.heap.size,a0,a1,a2,a3)]) (by simp);refine hK.out _ _ (Or.inr HS) (fun _ => ?_);clear hK K;clear HS;have kr:=HM.out.row (b:=w.heap.size+1+1) (c0:=0) (c1:=0) (c2:=0) (c3:=0) (by simp);have y0:=kr.c0; have y1:=kr.c1; have y2:=kr.c2; have y3:=kr.c3; have yf:=kr.fr;clear kr;have yl:=HM.out.lt (b:=w.heap.size+1+1) (c0:=0) (c1:=0) (c2:=0) (c3:=0) (by simp);refine aD (i:=5) (by kernel_rfl) rfl (fun K hK => ?_);go_simp;have HM':=Lib.hid ((HM.out.sub (rs':=[(w.heap.size+1+1,0,0,0,0),(w.heap.size+1,b0,b1,b2,b3),(w.heap.size,a0,a1,a2,a3)]) (by simp)).put s0 s1 s2 s3 (by omega) (by intro r hr; simp at hr; rcases hr with rfl|rfl<;>simp<;>omega));clear HM;have HM:=HM';clear HM';have HS:=HM.out.sub (rs':=[(w.heap.size+1,b0,b1,b2,b3),(w.heap.size,a0,a1,a2,a3)]) (by simp);refine hK.out _ _ (Or.inr HS) (fun _ => ?_);clear hK K;clear HS;refine aD (i:=6) (by kernel_rfl) rfl (fun K hK => ?_);go_simp;refine hK.out _ _ (Or.inl rfl) (fun _ => ?_);clear hK K;refine aU (by kernel_rfl) ?_;go_wp2_with fail;refine bodyPost_ret (v:=.tuple #[.agg #[.int .u64 s0,.int .u64 s1,.int .u64 s2,.int .u64 s3],.int .i64 0]) (by simp[results,results104,go_sem, *]) rfl ?_;exact⟨_,_,_,_,rfl,hs,HVs.out,HM.out.1⟩
end Go.Proofs.YtpjlhhpjpnacmaaGreat
namespace Go.Proofs.YtpjlhhpjpnacmaaGreat.Ex
open Go.Proofs.Tryz
open Go.RowKit
abbrev RM:Nat:=Go.Proofs.YtpjlhhpjpnacmaaGreat.FR.M
abbrev aO:Nat:=115792089237316195423570985008687907853269984665640564039457584007913129639936
theorem gG {x:Nat} (h:x<RM):x<aO:=Nat.lt_trans h (by decide)
theorem dJ:0<RM:=by decide
def Jo:gP
 | [.v (.im (.int .u64 (.ofNat n)))]=>some ([n<18446744073709551616],.one (.fl [.q n]))
 | _=>none
theorem Vx:∀cs pre r,Jo cs=some (pre,r)→aS pre→∀(args:List Value) (w:World),cH w cs args→bC prog 64 r args w:=by
 intro cs pre r hg hp args w ha;unfold Jo at hg;split at hg
 ·rename_i n;cases hg
  match args,ha with
  | [t],ha =>
   have h1:t=.int .u64 (Int.ofNat n):=ha.1;subst h1;refine (AQ n hp.1 w).mono ?_
   rintro e w' ⟨rfl,hb⟩
   refine⟨?_,hb⟩;obtain⟨e0,e1,e2,e3⟩:=fN (s0:=n) (s1:=0) (s2:=0) (s3:=0) (x:=n) ⟨hp.1,by omega,by omega,by omega⟩ (by have:=hp.1; omega) (by unfold aA; omega);show Ending.returned _=Ending.returned (.agg #[.int .u64 (fw n 0:Nat),.int .u64 (fw n 1:Nat),.int .u64 (fw n 2:Nat),.int .u64 (fw n 3:Nat)]);rw[←e0,←e1,←e2,←e3];rfl
  | [],ha=>exact ha.elim
  | _::_::_,ha=>exact ha.2.elim
 ·cases hg
def el (f:Nat→Nat) (j:Nat):List At:=[.q (f j)]
def LV (w:World) (v:Value) (N:Nat) (f:Nat→Nat):Prop:=∃p m,v=.slice p N m∧N≤m∧(∀j,j<N→f j<aO)∧(0<N→∃b o,p=some ⟨b,o,none⟩∧b<w.heap.size∧w.rangeAt b o (aB (gO (el f) 0 N)))
theorem LV.on {w w':World} {v:Value} {N:Nat} {f:Nat→Nat} (h:LV w v N f) (hb:Below w.heap.size w w'):LV w' v N f:=by
 obtain⟨p,m,h1,h2,h3,h4⟩:=h;exact⟨p,m,h1,h2,h3,fun h=>by
  obtain⟨b,o,e,h5,h6⟩:=h4 h;exact⟨b,o,e,Nat.lt_of_lt_of_le h5 hb.size,bI hb h5 h6⟩⟩
theorem LV.nil (w:World) (f:Nat→Nat):LV w (.slice none 0 0) 0 f:=⟨none,0,rfl,Nat.le_refl _,fun j h=>by omega,fun h=>by omega⟩
theorem Ib {w:World} {b o N i:Nat} {f:Nat→Nat} (hb:b<w.heap.size) (hr:w.rangeAt b o (aB (gO (el f) 0 N))) (hi:i<N):oldOf w b (o+i*4) [.q (f i)] :=
 ⟨hb,LO (f:=el f) (c:=4) (fun _=>rfl) hi hr⟩
def xO (w:World) (idx:Nat→Option Nat) (ld:Nat→Option (List At)) (gen:Nat→Option Value):Ext:={ Ext.none with idx:=idx,ld:=ld,gen:=gen,old:=oldOf w,T2:=WL,T3:=WK,T4:=Cg,T5:=Cm,T6:=Ev }
theorem uR (w:World) (idx:Nat→Option Nat) (ld:Nat→Option (List At)) (gen:Nat→Option Value):dC prog { qG prog with x:=xO w idx ld gen } w.heap.size w :=
 ⟨(aT _).1,JS (fun b o l h=>h) (fun w' _=>FrAt.none _ _) (fun w' _=>FsAt.none _ _)⟩
def fA (x y:Nat):Nat:=(x+y)%RM
def dQ (x y:Nat):Nat:=(x+RM-y)%RM
def aI (x y:Nat):Nat:=x*y%RM
def WG (x:Nat):Nat:=1*(x^(RM-2))%RM
theorem cL (x y:Nat):fA x y<RM:=Nat.mod_lt _ dJ
theorem bK (x y:Nat):dQ x y<RM:=Nat.mod_lt _ dJ
theorem aF (x y:Nat):aI x y<RM:=Nat.mod_lt _ dJ
theorem sP (x:Nat):WG x<RM:=Nat.mod_lt _ dJ
theorem kF:FieldIs 2 Go.Proofs.YtpjlhhpjpnacmaaGreat.FR:=Or.inr ⟨rfl,rfl⟩
theorem iM {x:Nat} (h:x<RM):aA (fw x 0) (fw x 1) (fw x 2) (fw x 3)=x:=gY (gG h)
def Dq (op:Nat→Nat→Nat):gP
 | [.v (.im (.int .i64 2)),.v (.fl l),.v (.fl m)]=>match jV l,jV m with
  | some x,some y=>some ([x<RM,y<RM],.many [.fl [.q (op x y)],.im (.int .i64 0)])
  | _,_=>none
 | _=>none
theorem FG {fid:FuncId} {op:Nat→Nat→Nat} (hlt:∀x y,op x y<RM) (h:∀x y,x<RM→y<RM→∀w,Calls prog fid #[.int .i64 2,.agg (aB [At.q x]).toArray,.agg (aB [At.q y]).toArray] w (WM 0 (op x y) w)) :
  ∀cs pre r,Dq op cs=some (pre,r)→aS pre→∀(args:List Value) (w:World),cH w cs args→bC prog fid r args w:=by
 intro cs pre r hg hp args w ha;unfold Dq at hg;split at hg
 ·rename_i l m;split at hg
  ·rename_i x y hx hy;cases hg
   match args,ha with
   | [t,v,u],ha =>
    obtain⟨h1,h2,h3,_⟩:=ha;have h1:t=.int .i64 2:=h1;have h2:v=.agg (aB l).toArray:=h2;have h3:u=.agg (aB m).toArray:=h3;rw[bQ l x hx]at h2;rw[bQ m y hy]at h3;subst h1; subst h2; subst h3;refine (h x y hp.1 hp.2.1 w).mono ?_
    rintro e w' ⟨s0,s1,s2,s3,rfl,hs,hv,hb⟩
    obtain⟨rfl,rfl,rfl,rfl⟩:=fN hs (gG (hlt x y)) hv;exact⟨rfl,hb⟩
   | [],ha=>exact ha.elim
   | [_],ha=>exact ha.2.elim
   | [_,_],ha=>exact ha.2.2.elim
   | _::_::_::_::_,ha=>exact ha.2.2.2.elim
  ·cases hg
 ·cases hg
theorem Pd:∀cs pre r,Dq fA cs=some (pre,r)→aS pre→∀(args:List Value) (w:World),cH w cs args→bC prog 130 r args w :=
 FG cL fun x y hx hy w=>by
  have:=Aq 2 _ kF _ _ _ _ _ _ _ _ (cP x) (cP y) (by rw[iM hx]; exact hx) (by rw[iM hy]; exact hy) w;rw[iM hx,iM hy]at this;exact this
theorem Pa:∀cs pre r,Dq dQ cs=some (pre,r)→aS pre→∀(args:List Value) (w:World),cH w cs args→bC prog 105 r args w :=
 FG bK fun x y hx hy w=>by
  have:=Al 2 _ kF _ _ _ _ _ _ _ _ (cP x) (cP y) (by rw[iM hx]; exact hx) (by rw[iM hy]; exact hy) w;rw[iM hx,iM hy]at this;exact this
theorem Pb:∀cs pre r,Dq aI cs=some (pre,r)→aS pre→∀(args:List Value) (w:World),cH w cs args→bC prog 119 r args w :=
 FG aF fun x y hx hy w=>by
  have:=An 2 _ kF _ _ _ _ _ _ _ _ (cP x) (cP y) (by rw[iM hx]; exact hx) (by rw[iM hy]; exact hy) w;rw[iM hx,iM hy]at this;exact this
def UV (x:Nat):Int:=if x<RM then 0 else 21
def Jv:gP
 | [.v (.im (.int .i64 2)),.v (.fl l)]=>match jV l with
  | some x=>some ([x<aO],.one (.im (.int .i64 (UV x))))
  | none=>none
 | _=>none
theorem YE:∀cs pre r,Jv cs=some (pre,r)→aS pre→∀(args:List Value) (w:World),cH w cs args→bC prog 115 r args w:=by
 intro cs pre r hg hp args w ha;unfold Jv at hg;split at hg
 ·rename_i l;split at hg
  ·rename_i x hx;cases hg
   match args,ha with
   | [t,v],ha =>
    obtain⟨h1,h2,_⟩:=ha;have h1:t=.int .i64 2:=h1;have h2:v=.agg (aB l).toArray:=h2;rw[bQ l x hx]at h2;subst h1; subst h2;unfold UV
    by_cases h:x<RM
    ·rw[if_pos h];exact NL 2 _ kF _ _ _ _ (cP x) (by rw[gY hp.1]; exact h) w
    ·rw[if_neg h];exact FM 2 21 _ _ _ _ (cP x) (Or.inr ⟨_,kF,by rw[gY hp.1]; exact h,rfl⟩) w
   | [],ha=>exact ha.elim
   | [_],ha=>exact ha.2.elim
   | _::_::_::_,ha=>exact ha.2.2.elim
  ·cases hg
 ·cases hg
def Mh (op:Nat→Nat) (c:Nat→List Prop):gP
 | [.v (.fl l)]=>match jV l with|some x=>some (c x,.one (.fl [.q (op x)]))|none=>none
 | _=>none
def Ai (op:Nat→Nat→Nat) (c:Nat→Nat→List Prop):gP
 | [.v (.fl l),.v (.fl m)]=>match jV l,jV m with|some x,some y=>some (c x y,.one (.fl [.q (op x y)]))|_,_=>none
 | _=>none
def yR (x y:Nat):List Prop:=[x<RM,y<RM]
theorem nQ {f:FuncId} {op:Nat→Nat→Nat} {c:Nat→Nat→List Prop} (h:∀x y,aS (c x y)→∀args w,cH w [.v (.fl [.q x]),.v (.fl [.q y])] args→bC prog f (.one (.fl [.q (op x y)])) args w) :
  ∀cs pre r,Ai op c cs=some (pre,r)→aS pre→∀(args:List Value) (w:World),cH w cs args→bC prog f r args w:=by
 intro cs pre r hg hp args w ha;unfold Ai at hg;split at hg
 ·rename_i l m;split at hg
  ·rename_i x y hx hy;cases hg;refine h x y hp args w ?_
   match args,ha with
   | [v,u],ha =>
    refine⟨?_,?_,trivial⟩
    ·show v=.agg (aB (q1 x)).toArray;rw[←bQ l x hx]; exact ha.1
    ·show u=.agg (aB (q1 y)).toArray;rw[←bQ m y hy]; exact ha.2.1
   | [],ha=>exact ha.elim
   | [_],ha=>exact ha.2.elim
   | _::_::_::_,ha=>exact ha.2.2.elim
  ·cases hg
 ·cases hg
theorem xW {f:FuncId} {op:Nat→Nat} {c:Nat→List Prop} (h:∀x,aS (c x)→∀args w,cH w [.v (.fl [.q x])] args→bC prog f (.one (.fl [.q (op x)])) args w) :
  ∀cs pre r,Mh op c cs=some (pre,r)→aS pre→∀(args:List Value) (w:World),cH w cs args→bC prog f r args w:=by
 intro cs pre r hg hp args w ha;unfold Mh at hg;split at hg
 ·rename_i l;split at hg
  ·rename_i x hx;cases hg;refine h x hp args w ?_
   match args,ha with
   | [v],ha =>
    refine⟨?_,trivial⟩;show v=.agg (aB (q1 x)).toArray;rw[←bQ l x hx]; exact ha.1
   | [],ha=>exact ha.elim
   | _::_::_,ha=>exact ha.2.elim
  ·cases hg
 ·cases hg
theorem GH {x:Nat} (h:x<RM):aW .neq .i64 (UV x) 0=some (.bool false):=by unfold UV; rw[if_pos h]; rfl
theorem KE {x:Nat} (h:¬x<RM):aW .neq .i64 (UV x) 0=some (.bool true):=by unfold UV; rw[if_neg h]; rfl
def Lr (N:Nat) (f:Nat→Nat):Prop:=∀j,j<N→f j<RM
instance (N:Nat) (f:Nat→Nat):Decidable (Lr N f):=Nat.decidableBallLT N fun j _=>f j<RM
def Yg (f g:Nat→Nat):Nat→Nat
 | 0=>0
 | n+1=>fA (Yg f g n) (aI (f n) (g n))
def Zx (x:Nat):Nat:=aI (aI (aI x x) (aI x x)) x
def inv (x:Nat):Nat:=x^(RM-2)%RM
def rz (wd fl pt r:Nat):Nat:=if r<fl/2 then wd else if fl/2+pt≤r then wd else 1
def Zq (g f:Nat→Nat) (j q:Nat):Nat:=if q<j then g q else f q
def Vi (xs:Nat→Nat) (wd r:Nat) (f:Nat→Nat) (q:Nat):Nat:=fA (f q) (xs (r*wd+q))
def Vh (k:Nat) (f:Nat→Nat):Nat→Nat:=Zq (fun q=>Zx (f q)) f k
def Vg (wd:Nat) (f:Nat→Nat) (j:Nat):Nat:=Yg (fun q=>inv (wd+(j+q))) f wd
def Zl (xs:Nat→Nat) (wd fl pt r:Nat) (f:Nat→Nat):Nat→Nat:=Vg wd (Vh (rz wd fl pt r) (Vi xs wd r f))
def Pf (xs:Nat→Nat) (wd fl pt:Nat):Nat→(Nat→Nat)→Nat→Nat
 | 0,f=>f
 | r+1,f=>Zl xs wd fl pt r (Pf xs wd fl pt r f)
section
variable {r:Option Nat} {n:Nat} {P:Program}
variable {nt base:Nat} {w0:World}
def _root_.Go.Act.md (a:Act) (d:List Deferred):Act:={ a with defers:=d }
end
def AS (k:Nat):Fact→Bool
 | .row k' _ _ => !(Nat.beq k' k)
 | _=>true
theorem SL {k:Nat} {o:Bool} {l:List At} (h:AS k (.row k o l)=true):False:=by
 have h:(!(Nat.beq k k))=true:=h;rw[Nat.beq_refl]at h;cases h
theorem Holds.wr {nt base:Nat} {w0:World} {A:List Fact} {a:Act} {w:World} (h:Holds nt base w0 A a w) {k b o:Nat} {l l':List At} {vs:List Value} (h1:Fact.row k true l∈A) (h2:Fact.at k b∈A) (hlen:o+vs.length≤eS l)
  (hl:∀j v,(aB l')[j]?=some v→(o≤j∧vs[j-o]?=some v)∨((j<o∨o+vs.length≤j)∧(aB l)[j]?=some v)) :
  Holds nt base w0 (.row k true l'::A.filter (AS k)) a (w.setCells b o vs):=by
 obtain⟨β,g1,g2,g3,gt⟩:=h.facts;obtain⟨e1,e2,e3,_⟩:=g1 _ h1;obtain⟨e4,e5,e6⟩:=e3 rfl;have e7:=g1 _ h2;simp only[Fact.ok]at e7;obtain⟨rfl,_⟩:=e7;rw[e5]at e2;have old:∀φ,φ∈A.filter (AS k)→φ∈A∧AS k φ=true:=fun φ hφ=>List.mem_filter.1 hφ
 have hth:∀q,q<vs.length→(w.cell? ⟨(β k).1,o+q,none⟩).isSome=true:=fun q hq=>by
  have hlt:o+q<(aB l).length:=by rw[aJ]; omega
  have:=e2 (o+q) ((aB l)[o+q]'hlt) (List.getElem?_eq_getElem _);rw[Nat.zero_add]at this;rw[this]; rfl
 have up:∀k1 o1 l1,Fact.row k1 o1 l1∈(Fact.row k true l'::A.filter (AS k))→∃l2,Fact.row k1 o1 l2∈A:=fun k1 o1 l1 e=>by
  rcases List.mem_cons.1 e with e|e
  ·cases e; exact⟨_,h1⟩
  ·exact⟨_,(old _ e).1⟩
 refine⟨h.defers,h.size,fZ e4 _ _ _ _ h.below,by rw[cZ]; exact h.heap,β,fun φ hφ => ?_,fun k1 k2 o2 l1 l2 q1 q2 hne => ?_,fun k1 l1 e => ?_,?_⟩
 ·rcases List.mem_cons.1 hφ with rfl|hφ
  ·refine⟨by rw[cZ]; exact e1,fun j v hj => ?_,fun _=>⟨e4,e5,fun j=>by rw[World.frozen?_setCells]; exact e6 j⟩,fun h=>by cases h⟩;rw[e5,Nat.zero_add]
   rcases hl j v hj with⟨q1,q2⟩|⟨q1,q2⟩
   ·have hlt:j-o<vs.length:=(List.getElem?_eq_some_iff.1 q2).1;have:=World.cell?_setCells_in (β k).1 vs o w hth (j-o) hlt;rw[show o+(j-o)=j by omega]at this;rw[this,←q2,List.getElem?_eq_getElem hlt]
   ·rw[World.cell?_setCells_out _ _ _ _ _ (fun _ _=>q1)];have:=e2 j v q2
    rwa [Nat.zero_add]at this
  ·obtain⟨hin,hno⟩:=old _ hφ;have e:=g1 φ hin;cases φ with
   | slot s v=>exact e
   | row k1 ow l1 =>
    obtain⟨q1,q2,q3,q4⟩:=e;have hk:k≠k1:=fun hk=>by subst hk; exact SL hno
    have hb:=g2 k k1 ow l l1 h1 hin hk;refine⟨by rw[cZ]; exact q1,fun j v hj => ?_,fun ho => ?_,fun _=>trivial⟩
    ·rw[World.cell?_setCells_out _ _ _ _ _ (fun q _=>absurd q.symm hb)];exact q2 j v hj
    ·obtain⟨r1,r2,r3⟩:=q3 ho;exact⟨r1,r2,fun j=>by rw[World.frozen?_setCells]; exact r3 j⟩
   | «at» k1 b1=>exact e
   | app k1 e' sz n=>exact AppAt.shape (eG _ _ _ _) e
 ·obtain⟨m1,r1⟩:=up _ _ _ q1;obtain⟨m2,r2⟩:=up _ _ _ q2;exact g2 k1 k2 o2 m1 m2 r1 r2 hne
 ·obtain⟨m1,r1⟩:=up _ _ _ e;exact g3 k1 m1 r1
 ·refine⟨by rw[cZ]; exact gt.size,fun p p1 p2 => ?_,gt.shape.trans (eG _ _ _ _)⟩;have hne:p.block≠(β k).1:=by
   rcases g3 k l h1 with q|q<;>omega
  rw[World.cell?_setCells_out _ _ _ _ _ (fun q _=>absurd q hne),World.frozen?_setCells];exact gt.mem p p1 p2
section
variable {P:Program} {n:Nat}
end
end Go.Proofs.YtpjlhhpjpnacmaaGreat.Ex
namespace Go.Proofs.YtpjlhhpjpnacmaaGreat
open Go.Proofs.Tryz
open Go.RowKit
def KT (n:Nat) (w:World) (e:Ending) (w':World):Prop :=
 ∃s0 s1 s2 s3:Nat,e=.returned (.agg #[.int .u64 s0,.int .u64 s1,.int .u64 s2,.int .u64 s3])∧aZ s0 s1 s2 s3∧aA s0 s1 s2 s3=n∧Below w.heap.size w w'
theorem Ve (a0 a1 a2 a3 j s:Nat) (hj:j<4):∃s0 s1 s2 s3:Nat,cV (cQ [a0,a1,a2,a3]) j s=cQ [s0,s1,s2,s3]∧[Value.int .u64 a0,.int .u64 a1,.int .u64 a2,.int .u64 a3].set j (.int .u64 s)=[.int .u64 s0,.int .u64 s1,.int .u64 s2,.int .u64 s3]:=by
 match j,hj with
 | 0,_=>exact⟨s,a1,a2,a3,by funext k; unfold cV cQ; match k with|0|1|2|3=>rfl|k+4=>simp,rfl⟩
 | 1,_=>exact⟨a0,s,a2,a3,by funext k; unfold cV cQ; match k with|0|1|2|3=>rfl|k+4=>simp,rfl⟩
 | 2,_=>exact⟨a0,a1,s,a3,by funext k; unfold cV cQ; match k with|0|1|2|3=>rfl|k+4=>simp,rfl⟩
 | 3,_=>exact⟨a0,a1,a2,s,by funext k; unfold cV cQ; match k with|0|1|2|3=>rfl|k+4=>simp,rfl⟩
set_option maxHeartbeats 1000000 in
theorem LP (a0 a1 a2 a3 i:Nat) (ha:aZ a0 a1 a2 a3) (hi:i<256) (h0:cS (aA a0 a1 a2 a3) i=0) (w:World) :
  Calls prog 97 #[.agg #[.int .u64 a0,.int .u64 a1,.int .u64 a2,.int .u64 a3],.int .i64 i] w (KT (aA a0 a1 a2 a3+2^i) w):=by
 obtain⟨j,k,q,r,hj,hk,e⟩:=JT hi;have hc:=oU w 27 a0 a1 a2 a3 j hj;have hx:=iZ ha j;obtain⟨t,s,e1,e2,ht,hs,es⟩:=Kd hx hk ((yN ha hj hk e.out).trans h0);have hW:=iZ ha;obtain⟨s0,s1,s2,s3,eu,el⟩:=Ve a0 a1 a2 a3 j s hj;have HV:Hid (aA s0 s1 s2 s3=aA a0 a1 a2 a3+2^i):=Lib.hid (by
  rw[oD,oD a0,←eu,es.out,yX hj,←e.out])
 have HO:Hid (aZ s0 s1 s2 s3):=Lib.hid (by
  have hl:∀m,cQ [s0,s1,s2,s3] m<18446744073709551616:=fun m=>by
   rw[←eu]; unfold cV; split
   ·exact hs
   ·exact hW m
  exact⟨hl 0,hl 1,hl 2,hl 3⟩)
 clear eu es hW h0;have hg:(#[Value.int .u64 a0,.int .u64 a1,.int .u64 a2,.int .u64 a3]:Array Value)[j]'(by simp; omega)=.int .u64 (cQ [a0,a1,a2,a3] j:Nat):=by
  match j,hj with
  | 0,_|1,_|2,_|3,_=>rfl
 generalize cQ [a0,a1,a2,a3] j=x at hc hx e1 e2 hg;clear hc;have Hj:=Lib.hid hj
 go_enter func97,ntmps97
 go_wp2_with fail
 go_region
 go_wp2_with fail;refine bodyPost_ret (v:=.agg #[.int .u64 s0,.int .u64 s1,.int .u64 s2,.int .u64 s3]) (by simp[results,results97,go_sem, *]) rfl ?_;exact⟨s0,s1,s2,s3,rfl,HO.out,HV.out,(((Below.refl _ _).alloc (Nat.le_refl _) _).alloc (by simp) _).drew⟩
def gL (B:Nat→Nat) (s:Nat):Nat→Nat
 | 0=>0
 | n+1=>gL B s n*256+B (s+n)
theorem xU {B:Nat→Nat} (hB:∀k,B k<256) (s:Nat):∀n,gL B s n<256^n
 | 0=>by simp[gL]
 | n+1=>by
  have h1:=xU hB s n;have h2:=hB (s+n);show gL B s n*256+B (s+n)<256^n*256;omega
theorem mR (B:Nat→Nat) (s n:Nat):∀m,gL B s (n+m)=gL B s n*256^m+gL B (s+n) m
 | 0=>by simp[gL]
 | m+1=>by
  show gL B s (n+m)*256+B (s+(n+m))=gL B s n*(256^m*256)+(gL B (s+n) m*256+B (s+n+m));rw[mR B s n m,Nat.add_mul,Nat.mul_assoc,Nat.add_assoc s n m,Nat.add_assoc]
theorem GZ (B:Nat→Nat) (s:Nat):∀n,cD 256 (fun k=>B (s+n-1-k)) n=gL B s n
 | 0=>rfl
 | n+1=>by
  rw[pO];show B (s+(n+1)-1-0)+256*cD 256 (fun k=>B (s+(n+1)-1-(1+k))) n=gL B s n*256+B (s+n);have e:(fun k=>B (s+(n+1)-1-(1+k)))=fun k=>B (s+n-1-k):=by
   funext k; congr 1; omega
  rw[e,GZ B s n,Nat.mul_comm,show s+(n+1)-1-0=s+n by omega];omega
def bE (A p:Nat):Nat:=A/256^(31-p)%256
theorem qJ (A p:Nat):bE A p<256:=Nat.mod_lt _ (by omega)
theorem uS (P:Nat→Nat) (hP:∀k,P k<18446744073709551616) (n j m:Nat) (hj:j<n) (hm:m<8):P j/2^(8*m)%256=cD 18446744073709551616 P n/256^(8*j+m)%256:=by
 obtain⟨q,rfl⟩:∃q,n=j+(q+1):=⟨n-j-1,by omega⟩
 have h1:=jG 18446744073709551616 P j (q+1);have h2:=pO 18446744073709551616 (fun k=>P (j+k)) q;have h3:=sI 18446744073709551616 P (by omega) j (fun k _=>hP k);have e1:256^(8*j+m)=18446744073709551616^j*2^(8*m):=by
  rw[Nat.pow_add,Nat.pow_mul,Nat.pow_mul]
 rw[h1,h2,e1,←Nat.div_div_eq_div_mul,Nat.add_mul_div_left _ _ (by exact Nat.pow_pos (by omega)),Nat.div_eq_of_lt h3,Nat.zero_add];have e:18446744073709551616=2^(8*m)*(256*2^(56-8*m)):=by
  rw[show (256:Nat)=2^8 from rfl,←Nat.pow_add,←Nat.pow_add,show 8*m+(8+(56-8*m))=64 by omega]
 show _=(P j+18446744073709551616*_)/2^(8*m)%256;generalize cD 18446744073709551616 (fun k=>P (j+(1+k))) q=H;rw[show 18446744073709551616*H=2^(8*m)*(256*2^(56-8*m))*H by rw[←e],Nat.mul_assoc,Nat.add_mul_div_left _ _ (by exact Nat.pow_pos (by omega)),Nat.mul_assoc,Nat.add_mul_mod_self_left]
theorem Du {i:Nat} (h:i<32):∃j m s p:Nat,(i:Int)/8=(j:Int)∧(i:Int)%8=(m:Int)∧(m:Int)*8=(s:Int)∧(31:Int)-(i:Int)=(p:Int)∧j<4∧m<8∧s≤56∧p<32∧Hid (i=8*j+m∧s=8*m∧p=31-i) :=
 ⟨i/8,i%8,i%8*8,31-i,by omega,by omega,by omega,by omega,by omega,by omega,by omega,by omega,Lib.hid (by omega)⟩
theorem JU {x s b:Nat} (hx:x<18446744073709551616) (hb:x/2^s%256=b):∃t:Nat,(x:Int)/2^s=(t:Int)∧IntKind.u8.wrap (t:Int)=(b:Int)∧t<18446744073709551616:=by
 have hs:x/2^s<18446744073709551616:=Nat.lt_of_le_of_lt (Nat.div_le_self _ _) hx;refine⟨x/2^s,by rw[Int.natCast_ediv,Int.natCast_pow]; rfl,?_,hs⟩;generalize x/2^s=q at *;simp only[IntKind.wrap,IntKind.bits,IntKind.signed];simp;omega
theorem PJ (R:Nat) (P:Nat→Nat) (j:Nat):∀n,j<n→P j*R^j≤cD R P n
 | 0,h=>absurd h (by omega)
 | n+1,h=>by
  rw[bD]
  rcases Nat.lt_or_ge j n with hj|hj
  ·have:=PJ R P j n hj; omega
  ·obtain rfl:j=n:=by omega
   omega
theorem LK {P:Nat→Nat} {V i j m s d:Nat} (hj:j<4) (hm:m<8) (e:i=8*j+m) (es:s=8*m) (hV:cD 18446744073709551616 P 4=V) (hlt:V<256^i):P j<2^s∧cD 18446744073709551616 (cV P j (P j+d*2^s)) 4=V+d*256^i:=by
 have e1:256^i=18446744073709551616^j*2^s:=by
  rw[e,es,Nat.pow_add,Nat.pow_mul,Nat.pow_mul]
 refine⟨?_,?_⟩
 ·have h1:=PJ 18446744073709551616 P j 4 hj;rw[hV]at h1;have h2:=Nat.lt_of_le_of_lt h1 hlt;rw[e1,Nat.mul_comm]at h2;exact Nat.lt_of_mul_lt_mul_left h2
 ·have h:=oE 18446744073709551616 P j (P j+d*2^s) 4 hj;rw[Nat.add_mul]at h;rw[e1,Nat.mul_comm (18446744073709551616^j),←Nat.mul_assoc,←hV];omega
theorem Kb {x d s:Nat} (hd:d<256) (hs:s≤56) (hx:x<2^s):∃u z:Nat,IntKind.u64.wrap ((d:Int)*2^s)=(u:Int)∧bits .or .u64 (x:Int) (u:Int)=(z:Int)∧u<18446744073709551616∧z<18446744073709551616∧Hid (z=x+d*2^s):=by
 have h1:d*2^s<18446744073709551616:=by
  have a:=Nat.mul_lt_mul_of_pos_right hd (Nat.two_pow_pos s);have b:256*2^s≤18446744073709551616:=by
   rw[show (256:Nat)=2^8 from rfl,←Nat.pow_add,show 18446744073709551616=2^64 by simp];exact Nat.pow_le_pow_right (by omega) (by omega)
  omega
 have h2:x<18446744073709551616:=Nat.lt_of_lt_of_le hx (by
  rw[show 18446744073709551616=2^64 by simp]; exact Nat.pow_le_pow_right (by omega) (by omega))
 obtain⟨z,e1,e2,e3⟩:=lY (k:=s) h2 h1 (Lib.hid hx) (Lib.hid ⟨d,Nat.mul_comm _ _⟩);exact⟨d*2^s,z,by rw[pK,mJ _ h1],e1,h1,e2,e3⟩
def RowB (w:World) (b n:Nat) (P:Nat→Nat):Prop:=∀k,k<n→w.cell? ⟨b,k,none⟩=some (.int .u8 (P k:Nat))∧w.frozen? ⟨b,k,none⟩=false
theorem RowB.below {w w':World} {b n:Nat} {P:Nat→Nat} (h:RowB w b n P) {B:Nat} (hb:Below B w w') (hB:b<B):RowB w' b n P:=fun k hk =>
 ⟨(hb.cell (p:=⟨b,k,none⟩) hB).trans (h k hk).1,(hb.frozen (p:=⟨b,k,none⟩) hB).trans (h k hk).2⟩
theorem RowB.set {w:World} {b n i v:Nat} {P:Nat→Nat} (h:RowB w b n P) (hi:i<n):RowB (w.setCell ⟨b,i,none⟩ (.int .u8 (v:Nat))) b n (cV P i v):=by
 intro k hk;refine⟨?_,by rw[World.frozen?_setCell]; exact (h k hk).2⟩;unfold cV
 by_cases e:k=i
 ·subst e; rw[if_pos rfl]; exact World.cell?_setCell_same (h:=(h k hk).1) ..
 ·rw[if_neg e,World.cell?_setCell_other (h:=fun he=>e (by simpa using (congrArg Addr.off he).symm)) ..]; exact (h k hk).1
theorem RowB.other {w:World} {b n i:Nat} {P:Nat→Nat} (h:RowB w b n P) {c:Nat} (hc:c≠b) (x:Value):RowB (w.setCell ⟨c,i,none⟩ x) b n P:=by
 intro k hk;exact⟨by rw[World.cell?_setCell_other (h:=fun he=>hc (by simpa using congrArg Addr.block he)) ..]; exact (h k hk).1,by rw[World.frozen?_setCell]; exact (h k hk).2⟩
theorem RowB.drewN {w:World} {b n:Nat} {P:Nat→Nat} (h:RowB w b n P) (m:Nat):RowB (w.drewN m) b n P:=h
theorem RowB.ext {w:World} {b n:Nat} {P R:Nat→Nat} (h:RowB w b n P) (e:∀k,k<n→P k=R k):RowB w b n R:=fun k hk=>⟨by rw[←e k hk]; exact (h k hk).1,(h k hk).2⟩
def gU (P:Nat→Nat→Prop) (w:World) (e:Ending) (w':World):Prop :=
 ∃s0 s1 s2 s3 c:Nat,e=.returned (.tuple #[.agg #[.int .u64 s0,.int .u64 s1,.int .u64 s2,.int .u64 s3],.int .i64 c])∧aZ s0 s1 s2 s3∧P (aA s0 s1 s2 s3) c∧Below w.heap.size w w'
set_option maxHeartbeats 1000000 in
theorem II (g off cap:Nat) (B:Nat→Nat) (hB:∀k,B k<256) (w:World) (hg:g<w.heap.size) (hc:∀k,k<32→w.cell? ⟨g,off+k,none⟩=some (.int .u8 (B k:Nat))) :
  Calls prog 18 #[.slice (some ⟨g,off,none⟩) 32 cap] w (gU (fun n c=>n=gL B 0 32∧c=0) w):=by
 have HC:=Lib.hid hc;have HB:=Lib.hid hB;have HE:=Lib.hid (GZ B 0 32);have HT:=Lib.hid (fun i=>sI 256 (fun k=>B (0+32-1-k)) (by omega) i (fun k _=>hB _));clear hc hB;generalize eD:(fun k=>B (0+32-1-k))=D at *;have hD:∀i p,i<32→p=31-i→B p=D i:=fun i p hi hp=>by
  rw[←eD,hp]
 have HD:=Lib.hid hD;clear hD eD
 go_enter func18,ntmps18
 go_wp2_with fail;have R0:=Lib.hid (Row4.new (w.alloc (.cells #[.int .u64 0,.int .u64 0,.int .u64 0,.int .u64 0] 27)) 0 0 0 0 27).rows;have Z0:=Lib.hid ((Row4.new w 0 0 0 0 27).alloc (by simp) (.cells #[.int .u64 0,.int .u64 0,.int .u64 0,.int .u64 0] 27))
 go_loopw [10] (fun x wr=>∃(i:Nat) (P:Nat→Nat),i≤32∧x=.int .i64 i∧(∀k,P k<18446744073709551616)∧Hid (cD 18446744073709551616 P 4=cD 256 D i)∧RowIs wr (w.heap.size+1) 4 P∧Row4 wr w.heap.size 0 0 0 0∧Below w.heap.size w wr∧w.heap.size+1<wr.heap.size) (fun x _=>32-(intOf x).toNat)
 case atStart =>
  refine⟨0,cQ [0,0,0,0],by omega,rfl,fun k=>iZ ⟨by omega,by omega,by omega,by omega⟩ k,Lib.hid rfl,by simpa using R0.out,Z0.out,?_,by simp⟩;exact ((Below.refl _ _).alloc (Nat.le_refl _) _).alloc (by simp) _
 case round =>
  obtain⟨i,P,hi,rfl,lP,tP,rP,z0,hb,hz⟩:=hrel;have HBl:=Lib.hid hb;have HZ:=Lib.hid z0;have HlP:=Lib.hid lP;have HR:=Lib.hid rP
  by_cases hlt:i<32
  ·obtain⟨j,m,s,p,q1,q2,q3,q4,hj,hm,hs,hp,e⟩:=Du hlt;have cx:=rP.cell hj;have fx:=rP.free hj;have cb:wr.cell? ⟨g,off+p,none⟩=some (.int .u8 (B p:Nat)):=(hb.cell (p:=⟨g,off+p,none⟩) hg).trans (HC.out p hp);have lb:=HB.out p;have hbD:=HD.out i p hlt e.out.2.2;have st:=LK (d:=D i) hj hm e.out.1 e.out.2.1 tP.out (HT.out i);obtain⟨u,z,e1,e2,lu,lz,ez⟩:=Kb lb hs st.1;have HN:=Lib.hid (show cD 18446744073709551616 (cV P j z) 4=cD 256 D (i+1) by
    rw[ez.out,hbD,st.2,bD])
   have lx:=lP j;generalize P j=x at *;generalize B p=b at *;clear z0 hb rP lP tP st hbD e ez;go_wp2_with fail
   go_region
   go_wp2_with fail
   go_roundw
   case rel=>exact⟨i+1,cV P j z,by omega,by go_num,fun k=>by unfold cV; split; exact lz; exact HlP.out k,HN,(HR.out.drewN 1).set hj,(HZ.out.drewN 1).other (by omega) _,(HBl.out.drew).setCell (p:=⟨w.heap.size+1,j,none⟩) (by simp) _,by show _<(wr.setCell _ _).heap.size; rw[World.size_setCell]; exact hz⟩
   case measure=>first|(simp[intOf]; done)|(simp[intOf]; omega)
  ·obtain rfl:i=32:=by omega
   have HF:=Lib.hid ((jE P).trans (tP.out.trans HE.out));have c0:=rP.cell (show 0<4 by omega); have c1:=rP.cell (show 1<4 by omega); have c2:=rP.cell (show 2<4 by omega); have c3:=rP.cell (show 3<4 by omega);have k0:=z0.c0; have k1:=z0.c1; have k2:=z0.c2; have k3:=z0.c3; have kf:=z0.fr;have l0:=lP 0; have l1:=lP 1; have l2:=lP 2; have l3:=lP 3;clear rP z0 hb lP tP;go_wp2_with fail;refine bodyPost_ret (v:=.tuple #[.agg #[.int .u64 (P 0),.int .u64 (P 1),.int .u64 (P 2),.int .u64 (P 3)],.int .i64 0]) (by simp[results,results18,go_sem, *]) rfl ?_;exact⟨P 0,P 1,P 2,P 3,0,rfl,⟨l0,l1,l2,l3⟩,⟨HF.out,rfl⟩,aM HBl.out (by omega) _ _ _ _⟩
theorem Qv {i:Nat} (h:i<32):∃k m q:Nat,(i:Int)/8=(k:Int)∧(3:Int)-(k:Int)=(q:Int)∧k<4∧m<8∧q<4∧Hid (i=8*k+m∧q=3-k) :=
 ⟨i/8,i%8,3-i/8,by omega,by omega,by omega,by omega,by omega,Lib.hid (by omega)⟩
theorem Kc {x d:Nat} (hx:x<72057594037927936) (hd:d<256):∃u z:Nat,IntKind.u64.wrap ((x:Int)*256)=(u:Int)∧(x:Int)*256=(u:Int)∧bits .or .u64 (u:Int) (d:Int)=(z:Int)∧u<18446744073709551616∧z<18446744073709551616∧Hid (z=x*256+d):=by
 have h1:x*256<18446744073709551616:=by omega
 obtain⟨z,e1,e2,e3⟩:=Qu (p:=8) h1 (show d<18446744073709551616 by omega) (Lib.hid (by simpa using hd)) (Lib.hid ⟨x,by rw[Nat.mul_comm]⟩);exact⟨x*256,z,by rw[show (x:Int)*256=((x*256:Nat):Int) by omega,mJ _ h1],by omega,e1,h1,e2,e3⟩
theorem MY (B:Nat→Nat):aA (gL B 24 8) (gL B 16 8) (gL B 8 8) (gL B 0 8)=gL B 0 32:=by
 have h1:=mR B 0 24 8;have h2:=mR B 0 16 8;have h3:=mR B 0 8 8;unfold aA;simp only[Nat.zero_add]at h1 h2 h3;have e:256^8=18446744073709551616:=by simp
 rw[e]at h1 h2 h3;show _=gL B 0 (24+8);rw[h1,show gL B 0 24=gL B 0 (16+8)from rfl,h2,show gL B 0 16=gL B 0 (8+8)from rfl,h3];omega
set_option maxHeartbeats 1000000 in
theorem DP (g off cap:Nat) (B:Nat→Nat) (hB:∀k,B k<256) (w:World) (hg:g<w.heap.size) (hc:∀k,k<32→w.cell? ⟨g,off+k,none⟩=some (.int .u8 (B k:Nat))) :
  Calls prog 21 #[.slice (some ⟨g,off,none⟩) 32 cap] w (gU (fun n c=>n=gL B 0 32∧c=0) w):=by
 have HC:=Lib.hid hc;have HB:=Lib.hid hB;have HH:=Lib.hid (fun s n=>xU hB s n);clear hc hB
 go_enter func21,ntmps21
 go_wp2_with fail;have R0:=Lib.hid (Row4.new (w.alloc (.cells #[.int .u64 0,.int .u64 0,.int .u64 0,.int .u64 0] 27)) 0 0 0 0 27).rows;have Z0:=Lib.hid ((Row4.new w 0 0 0 0 27).alloc (by simp) (.cells #[.int .u64 0,.int .u64 0,.int .u64 0,.int .u64 0] 27))
 go_loopw [5] (fun x wr=>∃(i:Nat) (P:Nat→Nat),i≤32∧x=.int .i64 i∧(∀k,P k<18446744073709551616)∧Hid (∀k,k<4→P (3-k)=gL B (8*k) (min 8 (i-8*k)))∧RowIs wr (w.heap.size+1) 4 P∧Row4 wr w.heap.size 0 0 0 0∧Below w.heap.size w wr∧w.heap.size+1<wr.heap.size) (fun x _=>32-(intOf x).toNat)
 case atStart =>
  refine⟨0,cQ [0,0,0,0],by omega,rfl,fun k=>iZ ⟨by omega,by omega,by omega,by omega⟩ k,Lib.hid (fun k hk => ?_),by simpa using R0.out,Z0.out,?_,by simp⟩
  ·rw[Nat.zero_sub,Nat.min_zero]
   match k,hk with
   | 0,_|1,_|2,_|3,_=>rfl
  ·exact ((Below.refl _ _).alloc (Nat.le_refl _) _).alloc (by simp) _
 case round =>
  obtain⟨i,P,hi,rfl,lP,tP,rP,z0,hb,hz⟩:=hrel;have HBl:=Lib.hid hb;have HZ:=Lib.hid z0;have HlP:=Lib.hid lP;have HR:=Lib.hid rP
  by_cases hlt:i<32
  ·obtain⟨k,m,q,q1,q2,hk,hm,hq,e⟩:=Qv hlt;have cx:=rP.cell hq;have fx:=rP.free hq;have cb:wr.cell? ⟨g,off+i,none⟩=some (.int .u8 (B i:Nat)):=(hb.cell (p:=⟨g,off+i,none⟩) hg).trans (HC.out i hlt);have lb:=HB.out i;have ex:P q=gL B (8*k) m:=by
    have:=tP.out k hk;rw[show min 8 (i-8*k)=m by have:=e.out.1; omega,←e.out.2]at this;exact this
   have lx:P q<72057594037927936:=by
    rw[ex];exact Nat.lt_of_lt_of_le (HH.out _ _) (Nat.le_trans (Nat.pow_le_pow_right (show 0<256 by omega) (show m≤7 by omega)) (by simp))
   obtain⟨u,z,e1,e0,e2,lu,lz,ez⟩:=Kc lx lb;have HN:=Lib.hid (show ∀k,k<4→cV P q z (3-k)=gL B (8*k) (min 8 (i+1-8*k))from fun k' hk'=>by
    have k1:=e.out.1; have k2:=e.out.2;unfold cV
    by_cases h:k'=k
    ·subst h;rw[if_pos k2.symm,show min 8 (i+1-8*k')=m+1 by omega,ez.out,ex];show _=gL B (8*k') m*256+B (8*k'+m);rw[←k1]
    ·rw[if_neg (by omega),tP.out k' hk'];congr 1;omega)
   generalize P q=x at *;generalize B i=b at *;clear z0 hb rP lP tP e ez ex;go_wp2_with fail
   go_region
   go_wp2_with fail
   go_roundw
   case rel=>exact⟨i+1,cV P q z,by omega,by go_num,fun k=>by unfold cV; split; exact lz; exact HlP.out k,HN,(HR.out.drewN 1).set hq,(HZ.out.drewN 1).other (by omega) _,(HBl.out.drew).setCell (p:=⟨w.heap.size+1,q,none⟩) (by simp) _,by show _<(wr.setCell _ _).heap.size; rw[World.size_setCell]; exact hz⟩
   case measure=>first|(simp[intOf]; done)|(simp[intOf]; omega)
  ·obtain rfl:i=32:=by omega
   have HF:=Lib.hid (show aA (P 0) (P 1) (P 2) (P 3)=gL B 0 32 by
    have h0:=tP.out 0 (by omega); have h1:=tP.out 1 (by omega); have h2:=tP.out 2 (by omega); have h3:=tP.out 3 (by omega);simp at h0 h1 h2 h3;rw[h0,h1,h2,h3,MY])
   have c0:=rP.cell (show 0<4 by omega); have c1:=rP.cell (show 1<4 by omega); have c2:=rP.cell (show 2<4 by omega); have c3:=rP.cell (show 3<4 by omega);have k0:=z0.c0; have k1:=z0.c1; have k2:=z0.c2; have k3:=z0.c3; have kf:=z0.fr;have l0:=lP 0; have l1:=lP 1; have l2:=lP 2; have l3:=lP 3;clear rP z0 hb lP tP;go_wp2_with fail;refine bodyPost_ret (v:=.tuple #[.agg #[.int .u64 (P 0),.int .u64 (P 1),.int .u64 (P 2),.int .u64 (P 3)],.int .i64 0]) (by simp[results,results21,go_sem, *]) rfl ?_;exact⟨P 0,P 1,P 2,P 3,0,rfl,⟨l0,l1,l2,l3⟩,⟨HF.out,rfl⟩,aM HBl.out (by omega) _ _ _ _⟩
end Go.Proofs.YtpjlhhpjpnacmaaGreat
namespace Go.Proofs.YtpjlhhpjpnacmaaGreat.Ex
open Go.Proofs.Tryz
open Go.RowKit
def BM (w:World) (g o n:Nat) (f:Nat→Nat):Prop:=g<w.heap.size∧(∀j,f j<256)∧∀j,j<n→w.cell? ⟨g,o+j,none⟩=some (.int .u8 (Int.ofNat (f j)))
theorem BM.on {w w':World} {g o n:Nat} {f:Nat→Nat} (h:BM w g o n f) (hb:Below w.heap.size w w'):BM w' g o n f :=
 ⟨Nat.lt_of_lt_of_le h.1 hb.size,h.2.1,fun j hj=>(hb.cell (p:=⟨g,o+j,none⟩) h.1).trans (h.2.2 j hj)⟩
abbrev hN (f:Nat→Nat) (n:Nat):Nat:=Go.Proofs.YtpjlhhpjpnacmaaGreat.gL f 0 n
theorem Do {f:Nat→Nat} (hf:∀j,f j<256) {n:Nat} (hn:n≤32):hN f n<aO:=by
 have h1:=xU hf 0 n;have h2:256^n≤256^32:=Nat.pow_le_pow_right (by omega) hn;exact Nat.lt_of_lt_of_le h1 (Nat.le_trans h2 (by decide))
theorem Holds.ptV {nt base:Nat} {w0:World} {A:List Fact} {a:Act} {w:World} (h:Holds nt base w0 A a w) {s k o b:Nat} (h1:Fact.slot s (.pt k o)∈A) (h2:Fact.at k b∈A):a.eval (.tmp s)=ptV b o:=by
 obtain⟨β,g1,_⟩:=h.facts;have e1:=g1 _ h1;have e2:=g1 _ h2;simp only[Fact.ok]at e1 e2;simp[Act.eval,e1,AV.den,e2,Go.Proofs.YtpjlhhpjpnacmaaGreat.Ex.ptV]
theorem Holds.imV {nt base:Nat} {w0:World} {A:List Fact} {a:Act} {w:World} (h:Holds nt base w0 A a w) {s:Nat} {v:Value} (h1:Fact.slot s (.im v)∈A):a.eval (.tmp s)=v:=by
 have e1:=h.slot h1;simp[Act.eval,e1]
def tC (T:Tab) (num:Nat→Option Value):Cfg:=⟨fun _=>T,fun _=>true,num⟩
structure Own (w:World) (b:Nat) (l:List At):Prop where
 lt:b<w.heap.size
 row:w.rangeAt b 0 (aB l)
 free:∀j,w.frozen? ⟨b,j,none⟩=false
theorem Holds.wrc {nt b:Nat} {w w':World} {A:List Fact} {a:Act} (h:Holds nt b w A a w') {l:List At} (h1:Fact.row 0 true l∈A) (h2:Fact.at 0 b∈A) (h3:Fact.at nt w.heap.size∈A):WrC w w' b∧w'.rangeAt b 0 (aB l):=by
 obtain⟨β,g1,g2,g3,gt⟩:=h.facts;obtain⟨e1,e2,e4,_⟩:=g1 _ h1;obtain⟨e5,e6,e7⟩:=e4 rfl;have e3:=g1 _ h2;have e8:=g1 _ h3;simp only[Fact.ok]at e3 e8;rw[e6]at e2;rw[e3.1]at e2;refine⟨⟨h.below,fun p hp hne => ?_,gt.shape,fun j => ?_⟩,e2⟩
 ·rcases Nat.lt_or_ge p.block b with q|q
  ·exact⟨h.below.cell q,h.below.frozen q⟩
  ·exact gt.mem p (by omega) (by rw[e8.1]; exact hp)
 ·have:=e7 j
  rwa [e3.1]at this
section
variable {P:Program} {w:World} {R:Ending→World→Prop}
end
def Zo (N i:Nat):Nat:=min (N-31*i) 31
theorem WrC.own {w w':World} {r:Nat} {l:List At} (h:WrC w w' r) (hlt:r<w.heap.size) (hr:w'.rangeAt r 0 (aB l)):Own w' r l:=⟨Nat.lt_of_lt_of_le hlt h.below.size,hr,h.free⟩
theorem WrC.trans {a b c:World} {r:Nat} (h:WrC a b r) (k:WrC b c r):WrC a c r :=
 ⟨h.below.trans k.below,fun p hp hne=>by
  have h1:=h.mem p hp hne;have h2:=k.mem p (Nat.lt_of_lt_of_le hp h.below.size) hne;exact⟨h2.1.trans h1.1,h2.2.trans h1.2⟩,h.shape.trans k.shape,k.free⟩
theorem Own.holds {nt k r:Nat} {w:World} {l:List At} {a:Act} {ts:List (Nat×Value)} (h:Own w r l) (hd:a.defers=[]) (hs:a.tmps.size=nt) (hk:Nat.beq k nt=false) (hp:a.tmps[k]?=some (ptV r 0)) (ht:∀x∈ts,a.tmps[x.1]?=some x.2) :
  Holds nt r w (.slot k (.pt k 0) :: .row k true l :: .at k r :: .at nt w.heap.size::ts.map fun x=>.slot x.1 (.im x.2)) a w:=by
 refine⟨hd,hs,Below.refl _ _,Nat.le_of_lt h.lt,fun q=>bif Nat.beq q nt then (w.heap.size,0,0)else (r,0,0),fun φ hφ => ?_,fun k1 k2 o' l1 l2 h1 h2 hne => ?_,fun k1 l1 h1=>Or.inl ?_,?_,fun p q1 q2=>⟨rfl,rfl⟩,Shape.refl _⟩
 ·simp only[List.mem_cons,List.mem_map]at hφ
  rcases hφ with rfl|rfl|rfl|rfl|⟨x,hx,rfl⟩
  ·show a.tmps[k]?=_;rw[hp];simp[AV.den,hk,Go.Proofs.YtpjlhhpjpnacmaaGreat.Ex.ptV]
  ·refine⟨?_,?_,fun _=>⟨?_,?_,?_⟩,fun h=>by cases h⟩<;>simp only[hk,cond_false]
   ·exact h.lt
   ·exact h.row
   ·exact Nat.le_refl _
   ·exact h.free
  ·simp only[Fact.ok,hk,cond_false,and_self]
  ·simp[Fact.ok]
  ·exact ht x hx
 ·have e:∀k3 o3 l3,Fact.row k3 o3 l3∈(Fact.slot k (.pt k 0) :: .row k true l :: .at k r :: .at nt w.heap.size::ts.map fun x=>Fact.slot x.1 (.im x.2))→k3=k:=fun k3 o3 l3 h3=>by
   simp only[List.mem_cons,reduceCtorEq,false_or,List.mem_map,and_false,exists_const,or_false]at h3;cases h3; rfl
  exact (hne ((e _ _ _ h1).trans (e _ _ _ h2).symm)).elim
 ·have e:k1=k:=by
   simp only[List.mem_cons,reduceCtorEq,false_or,List.mem_map,and_false,exists_const,or_false]at h1;cases h1; rfl
  subst e;simp only[hk,cond_false]
 ·simp
def yV (l:Nat):Value:=.func (.yield l) #[] #[]
theorem Qi {a:Nat} (h:0<a):aW .gtr .i64 (Int.ofNat a) 0=some (.bool true):=by
 show some (Value.bool (decide (Int.ofNat a>0)))=_;rw[decide_eq_true (by show (0:Int)<(a:Int); omega)]
theorem mX {a:Act} {d s:Nat} {u v:Value} (h:a.tmps[s]?=some v) (hd:d≠s):(a.put (some d) u).tmps[s]?=some v:=by
 rw[iE _ _ _ _ (fun e=>hd (by injection e))]; exact h
structure Only2 (a b:Nat) (w w':World):Prop where
 below:∀B,B≤a→B≤b→Below B w w'
 mem:∀p:Addr,p.block<w.heap.size→p.block≠a→p.block≠b→w'.cell? p=w.cell? p∧w'.frozen? p=w.frozen? p
 shape:Shape w w'
theorem Only2.refl (a b:Nat) (w:World):Only2 a b w w:=⟨fun _ _ _=>Below.refl _ _,fun _ _ _ _=>⟨rfl,rfl⟩,Shape.refl _⟩
theorem Only2.trans {a b:Nat} {u v w:World} (h:Only2 a b u v) (k:Only2 a b v w):Only2 a b u w :=
 ⟨fun B h1 h2=>(h.below B h1 h2).trans (k.below B h1 h2),fun p hp h1 h2=>by
  have e1:=h.mem p hp h1 h2;have e2:=k.mem p (Nat.lt_of_lt_of_le hp h.shape.2.size) h1 h2;exact⟨e2.1.trans e1.1,e2.2.trans e1.2⟩,h.shape.trans k.shape⟩
theorem Only2.own {a b:Nat} {w w':World} (h:Only2 a b w w') {r:Nat} {l:List At} (hO:Own w r l) (h1:r≠a) (h2:r≠b):Own w' r l :=
 ⟨Nat.lt_of_lt_of_le hO.lt h.shape.2.size,fun j v hj=>(h.mem ⟨r,0+j,none⟩ hO.lt h1 h2).1.trans (hO.row j v hj),fun j=>(h.mem ⟨r,j,none⟩ hO.lt h1 h2).2.trans (hO.free j)⟩
theorem Only2.range {a b:Nat} {w w':World} (h:Only2 a b w w') {r o:Nat} {l:List Value} (hlt:r<w.heap.size) (hO:w.rangeAt r o l) (h1:r≠a) (h2:r≠b):w'.rangeAt r o l :=
 fun j v hj=>(h.mem ⟨r,o+j,none⟩ hlt h1 h2).1.trans (hO j v hj)
structure ElM (w:World) (a b n C:Nat) (g:Nat→Nat):Prop where
 box:Own w a [.c (bW b 0 n C)]
 app:AppAt w b 24 4 n C
 lt:b<w.heap.size
 row:w.rangeAt b 0 (aB (gO (el g) 0 n))
 ne:a≠b
theorem AppAt.free {w:World} {b e sz n C:Nat} (h:AppAt w b e sz n C) (j:Nat):w.frozen? ⟨b,j,none⟩=false:=by
 obtain⟨cur,h1,_⟩:=h;simp[World.frozen?,h1]
theorem ElM.wrc {w w':World} {a b n C r:Nat} {g:Nat→Nat} (h:ElM w a b n C g) (hW:WrC w w' r) (ha:a≠r) (hb:b≠r):ElM w' a b n C g :=
 ⟨⟨Nat.lt_of_lt_of_le h.box.lt hW.below.size,fun j v hj=>(hW.mem ⟨a,0+j,none⟩ h.box.lt ha).1.trans (h.box.row j v hj),fun j=>(hW.mem ⟨a,j,none⟩ h.box.lt ha).2.trans (h.box.free j)⟩,h.app.shape hW.shape,Nat.lt_of_lt_of_le h.lt hW.below.size,
  fun j v hj=>(hW.mem ⟨b,0+j,none⟩ h.lt hb).1.trans (h.row j v hj),h.ne⟩
theorem ElM.on {w w':World} {a b n C:Nat} {g:Nat→Nat} (h:ElM w a b n C g) (hW:Below w.heap.size w w'):ElM w' a b n C g :=
 ⟨⟨Nat.lt_of_lt_of_le h.box.lt hW.size,bI hW h.box.lt h.box.row,fun j=>(hW.frozen (p:=⟨a,j,none⟩) h.box.lt).trans (h.box.free j)⟩,h.app.shape (Shape.below hW),Nat.lt_of_lt_of_le h.lt hW.size,bI hW h.lt h.row,h.ne⟩
theorem BX {f g:Nat→Nat}:∀(n s:Nat),(∀j,j<n→f (s+j)=g (s+j))→gO (el f) s n=gO (el g) s n
 | 0,s,h=>rfl
 | n+1,s,h=>by
  have h0:f s=g s:=h 0 (by omega);have h1:gO (el f) (s+1) n=gO (el g) (s+1) n:=BX n (s+1) fun j hj=>by
   have e:s+1+j=s+(j+1):=by omega
   rw[e];exact h (j+1) (by omega)
  show [At.q (f s)]++gO (el f) (s+1) n=[At.q (g s)]++gO (el g) (s+1) n;rw[h0,h1]
def Zy (f:Nat→Nat) (N i:Nat):Nat:=if i=0 then N else hN (fun j=>f (31*(i-1)+j)) (Zo N (i-1))
theorem cT {nt:Nat} {w:World} {a:Act} {ts:List (Nat×Value)} (hd:a.defers=[]) (hs:a.tmps.size=nt) (ht:∀x∈ts,a.tmps[x.1]?=some x.2):Holds nt w.heap.size w (ts.map fun x=>.slot x.1 (.im x.2)) a w:=by
 refine⟨hd,hs,Below.refl _ _,Nat.le_refl _,fun _=>(w.heap.size,0,0),fun φ hφ => ?_,fun k k' o' l l' h1 => ?_,fun k l h1 => ?_,Nat.le_refl _,fun p h1 h2=>⟨rfl,rfl⟩,Shape.refl _⟩
 ·obtain⟨x,hx,rfl⟩:=List.mem_map.1 hφ;exact ht x hx
 ·obtain⟨x,_,e⟩:=List.mem_map.1 h1; cases e
 ·obtain⟨x,_,e⟩:=List.mem_map.1 h1; cases e
abbrev uH:Nat:=18446744073709551616
theorem Zp {a b:Nat} (ha:a<uH) (hb:b<uH):a ||| b<uH:=Nat.or_lt_two_pow (n:=64) ha hb
theorem OZ {a b:Nat} (ha:a<uH) (hb:b<uH):a ^^^ b<uH:=Nat.xor_lt_two_pow (n:=64) ha hb
theorem Lq {a b:Nat} (ha:a<uH):a &&& b<uH:=Nat.lt_of_le_of_lt Nat.and_le_left ha
theorem Sk {a k:Nat} (ha:a<uH):a/2^k<uH:=Nat.lt_of_le_of_lt (Nat.div_le_self _ _) ha
theorem Wd (a:Nat):a%uH<uH:=Nat.mod_lt _ (by decide)
def Ds (lo hi p:Nat):Nat:=lo/2^p ||| hi*2^(64-p)%uH
theorem nS {lo hi p:Nat} (h:lo<uH):Ds lo hi p<uH:=Zp (Sk h) (Wd _)
structure St where
 lo:Nat
 hi:Nat
 fr:Nat
 gv:Nat
structure St.ok (s:St):Prop where
 lo:s.lo<uH
 hi:s.hi<uH
 fr:s.fr<uH
 gv:s.gv<uH
def Wp (lo hi:Nat):Nat:=(Ds lo hi 62 ^^^ Ds lo hi 51 ^^^ Ds lo hi 38 ^^^ Ds lo hi 23 ^^^ Ds lo hi 13 ^^^ Ds lo hi 0) &&& 65535
def St.grow (s:St):St:=⟨Ds s.lo s.hi 16,Wp s.lo s.hi,Wp s.lo s.hi,s.gv⟩
theorem TO {lo hi:Nat} (h:lo<uH):Wp lo hi<uH:=Lq (OZ (OZ (OZ (OZ (OZ (nS h) (nS h)) (nS h)) (nS h)) (nS h)) (nS h))
theorem St.ok.grow {s:St} (h:s.ok):s.grow.ok:=⟨nS h.lo,TO h.lo,TO h.lo,h.gv⟩
abbrev tz (x:Nat):Nat:=Lib.ctz 64 x
def St.bit (t:St):Nat:=t.fr/2^(tz t.gv+1) &&& 1
def St.next (t:St):St:=⟨t.lo,t.hi,t.fr,t.gv &&& (t.gv-1)⟩
theorem St.ok.next {s:St} (h:s.ok):s.next.ok:=⟨h.lo,h.hi,h.fr,Lq h.gv⟩
theorem VN {s:St} (h:s.ok):s.bit<uH:=Lq (Sk h.fr)
section
variable {E:Env} {ops:Array Oper} {base:Nat} {w0:World} {A A':List Fact} {TF:List (Option Nat×Fact)} {rs:List Rec} {ps:List Prop} {a:Act} {w:World} {Q:Exit→Act→World→Prop}
end
theorem wW {w:World} {b o:Nat} {vs:List Value} (hf:∀j,w.frozen? ⟨b,j,none⟩=false):WrC w (w.setCells b o vs) b :=
 ⟨fZ (Nat.le_refl _) _ _ _ _ (Below.refl _ _),fun p _ hne=>⟨World.cell?_setCells_out _ _ _ _ _ (fun q _=>absurd q hne),World.frozen?_setCells _ _ _ _ _⟩,eG _ _ _ _,fun j=>by rw[World.frozen?_setCells]; exact hf j⟩
theorem Own.there {w:World} {b:Nat} {l:List At} (h:Own w b l) {o n:Nat} (hn:o+n≤eS l):w.there b o n:=fun j hj=>by
 refine⟨?_,h.free _⟩;have hlt:o+j<(aB l).length:=by rw[aJ]; omega
 have:=h.row (o+j) ((aB l)[o+j]'hlt) (List.getElem?_eq_getElem _);rw[Nat.zero_add]at this;rw[this]; rfl
theorem Own.set {w:World} {b o:Nat} {l l' p:List At} (h:Own w b l) (hp:put l o p=some l'):Own (w.setCells b o (aB p)) b l'∧WrC w (w.setCells b o (aB p)) b:=by
 obtain⟨q,m,s,e1,e2,e3,e4⟩:=sU hp;have hl:eS l=o+(eS p+eS s):=by rw[e1,nR,nR,e3,e4]
 have hth:∀j,j<(aB p).length→(w.cell? ⟨b,o+j,none⟩).isSome=true:=fun j hj=>by
  rw[aJ]at hj;exact ((h.there (o:=o) (n:=eS p) (by omega)) j hj).1
 refine⟨⟨by rw[cZ]; exact h.lt,fun j v hj => ?_,fun j=>by rw[World.frozen?_setCells]; exact h.free j⟩,wW h.free⟩;rw[Nat.zero_add];rw[e2]at hj;have hf:aB l=aB q++(aB m++aB s):=by rw[e1,aL,aL]
 have hqo:(aB q).length=o:=by rw[aJ,e3]
 have hmp:(aB m).length=(aB p).length:=by rw[aJ,aJ,e4]
 by_cases h1:j<o
 ·rw[World.cell?_setCells_out _ _ _ _ _ (fun _ _=>Or.inl (show j<o from h1))];have:=h.row j v (by rw[hf]; rw[List.getElem?_append_left (by omega)]at hj ⊢; exact hj)
  rwa [Nat.zero_add]at this
 ·rw[List.getElem?_append_right (by omega),hqo]at hj
  by_cases h2:j-o<(aB p).length
  ·rw[List.getElem?_append_left h2]at hj;have:=World.cell?_setCells_in b (aB p) o w hth (j-o) h2;rw[show o+(j-o)=j by omega]at this;rw[this,←hj,List.getElem?_eq_getElem h2]
  ·rw[World.cell?_setCells_out _ _ _ _ _ (fun _ _=>Or.inr (show o+(aB p).length≤j by omega))];have:=h.row j v (by rw[hf,List.getElem?_append_right (by omega),hqo,List.getElem?_append_right (by omega),hmp]; rw[List.getElem?_append_right (by omega)]at hj; exact hj)
   rwa [Nat.zero_add]at this
def u6 (n:Nat):Value:=.int .u64 (Int.ofNat n)
def St.row (s:St):List At:=[.c (u6 s.lo),.c (u6 s.hi),.c (u6 s.fr),.c (u6 s.gv)]
theorem Own.on {w w':World} {b:Nat} {l:List At} (h:Own w b l) (hb:Below w.heap.size w w'):Own w' b l :=
 ⟨Nat.lt_of_lt_of_le h.lt hb.size,fun j v hj=>(hb.cell (p:=⟨b,0+j,none⟩) h.lt).trans (h.row j v hj),fun j=>(hb.frozen (p:=⟨b,j,none⟩) h.lt).trans (h.free j)⟩
theorem Own.old {w:World} {b o:Nat} {l s:List At} (h:Own w b l) (hs:CM l o (eS s)=some s):oldOf w b o s:=by
 have:=mM h.row hs;rw[Nat.zero_add]at this;exact⟨h.lt,this⟩
theorem Holds.shape {nt base:Nat} {w0:World} {A:List Fact} {a:Act} {w:World} (h:Holds nt base w0 A a w):Shape w0 w:=by
 obtain⟨_,_,_,_,gt⟩:=h.facts;exact gt.shape
theorem oldOf.on {w w':World} {b o:Nat} {l:List At} (h:oldOf w b o l) (hb:Below w.heap.size w w'):oldOf w' b o l :=
 ⟨Nat.lt_of_lt_of_le h.1 hb.size,bI hb h.1 h.2⟩
theorem oldOf.wr {w w':World} {b c o:Nat} {l:List At} (h:oldOf w b o l) (hb:WrC w w' c) (hne:b≠c):oldOf w' b o l :=
 ⟨Nat.lt_of_lt_of_le h.1 hb.below.size,fun j v hj=>((hb.mem ⟨b,o+j,none⟩ h.1 hne).1).trans (h.2 j v hj)⟩
theorem yB {a:Act} {s:Nat} {v:Value} (h:a.tmps[s]?=some v):a.eval (.tmp s)=v:=by simp[Act.eval,h]
theorem Holds.own {nt base:Nat} {w0:World} {A:List Fact} {a:Act} {w:World} (h:Holds nt base w0 A a w) {k b:Nat} {l:List At} (h1:Fact.row k true l∈A) (h2:Fact.at k b∈A):Own w b l:=by
 obtain⟨β,g1,_⟩:=h.facts;obtain⟨e1,e2,e3,_⟩:=g1 _ h1;obtain⟨_,e5,e6⟩:=e3 rfl;have e7:=g1 _ h2;simp only[Fact.ok]at e7;rw[e5,e7.1]at e2;exact⟨by rw[←e7.1]; exact e1,e2,fun j=>by rw[←e7.1]; exact e6 j⟩
def lA (n c p b2 b3:Nat) (s:St):List Fact:=[.slot 0 (.im (iI n)),.slot 1 (.im (iI c)),.slot 2 (.pt 2 0),.row 2 true s.row,.slot 3 (.pt 3 0),.row 3 true [.c (iI p)],.at 2 b2,.at 3 b3,.at 33 (b2+1)]
theorem Own.wr {w w':World} {b c:Nat} {l:List At} (h:Own w b l) (hW:WrC w w' c) (hne:b≠c):Own w' b l :=
 ⟨Nat.lt_of_lt_of_le h.lt hW.below.size,fun j v hj=>((hW.mem ⟨b,0+j,none⟩ h.lt hne).1).trans (h.row j v hj),fun j=>((hW.mem ⟨b,j,none⟩ h.lt hne).2).trans (h.free j)⟩
theorem Own.eq {w:World} {b:Nat} {l l':List At} (h:Own w b l) (e:aB l=aB l'):Own w b l':=⟨h.lt,by rw[←e]; exact h.row,h.free⟩
theorem Own.below {w w':World} {b c:Nat} {l:List At} (h:Own w b l) (hb:Below c w w') (hlt:b<c):Own w' b l :=
 ⟨Nat.lt_of_lt_of_le h.lt hb.size,fun j v hj=>(hb.cell (p:=⟨b,0+j,none⟩) hlt).trans (h.row j v hj),fun j=>(hb.frozen (p:=⟨b,j,none⟩) hlt).trans (h.free j)⟩
theorem oldOf.below {w w':World} {b c o:Nat} {l:List At} (h:oldOf w b o l) (hb:Below c w w') (hlt:b<c):oldOf w' b o l :=
 ⟨Nat.lt_of_lt_of_le h.1 hb.size,fun j v hj=>(hb.cell (p:=⟨b,o+j,none⟩) hlt).trans (h.2 j v hj)⟩
theorem Holds.ptS {nt base:Nat} {w0:World} {A:List Fact} {a:Act} {w:World} (h:Holds nt base w0 A a w) {s k b o:Nat} (h1:Fact.slot s (.pt k o)∈A) (h2:Fact.at k b∈A):a.tmps[s]?=some (Go.Proofs.YtpjlhhpjpnacmaaGreat.Ex.ptV b o):=by
 obtain⟨β,g1,_⟩:=h.facts;have e1:=g1 _ h1;have e2:=g1 _ h2;simp only[Fact.ok]at e1 e2;rw[e1];simp[AV.den,e2,Go.Proofs.YtpjlhhpjpnacmaaGreat.Ex.ptV]
theorem Holds.geq {nt base:Nat} {w0:World} {A:List Fact} {a:Act} {w:World} (h:Holds nt base w0 A a w) {k b:Nat} {l:List At} (h1:Fact.row k true l∈A) (h2:Fact.at k b∈A):base≤b:=by
 obtain⟨β,g1,_⟩:=h.facts;obtain⟨_,_,e3,_⟩:=g1 _ h1;have e7:=g1 _ h2;simp only[Fact.ok]at e7;rw[←e7.1];exact (e3 rfl).1
section
variable {r:List At} {B b1 b2 sb pb p:Nat} {s:St} {w0 w:World} {a:Act}
end
def BV (w:World) (v:Value) (N:Nat) (f:Nat→Nat):Prop:=∃p m,v=.slice p N m∧N≤m∧(∀j,f j<256)∧(0<N→∃g o,p=some ⟨g,o,none⟩∧BM w g o N f)
theorem BV.on {w w':World} {v:Value} {N:Nat} {f:Nat→Nat} (h:BV w v N f) (hb:Below w.heap.size w w'):BV w' v N f:=by
 obtain⟨p,m,h1,h2,h3,h4⟩:=h;exact⟨p,m,h1,h2,h3,fun h=>by
  obtain⟨g,o,e,h5⟩:=h4 h;exact⟨g,o,e,h5.on hb⟩⟩
theorem ElM.congr {w:World} {a b n C:Nat} {g g':Nat→Nat} (h:ElM w a b n C g) (he:∀j,j<n→g j=g' j):ElM w a b n C g' :=
 by
 have e:=BX (f:=g) (g:=g') n 0 fun j hj=>(by rw[Nat.zero_add]; exact he j hj)
 exact⟨h.box,h.app,h.lt,by rw[←e]; exact h.row,h.ne⟩
structure EJ (n0:Nat) (w0:World) (b3 bl C D:Nat) (f:Nat→Nat) (N:Nat) (rec:Loop) (r i:Nat) (W:World):Prop where
 below:Below n0 w0 W
 el:ElM W b3 bl (1+i) C (Zy f N)
 n3:b3≠r
 nb:bl≠r
 hD:W.heap[D]?=some (.deferred (some []))
 hl:W.heap[D+1]?=some (.loop rec)
theorem EJ.wrc {n0:Nat} {w0:World} {b3 bl C D:Nat} {f:Nat→Nat} {N:Nat} {rec:Loop} {r i:Nat} {W W':World} (h:EJ n0 w0 b3 bl C D f N rec r i W) (hn:n0≤r) (hW:WrC W W' r):EJ n0 w0 b3 bl C D f N rec r i W' :=
 ⟨h.below.trans (hW.below.mono hn),h.el.wrc hW h.n3 h.nb,h.n3,h.nb,hW.shape.2.same _ _ h.hD rfl,hW.shape.2.same _ _ h.hl rfl⟩
theorem EJ.on {n0:Nat} {w0:World} {b3 bl C D:Nat} {f:Nat→Nat} {N:Nat} {rec:Loop} {r i:Nat} {W W':World} (h:EJ n0 w0 b3 bl C D f N rec r i W) (hn:n0≤W.heap.size) (hW:Below W.heap.size W W'):EJ n0 w0 b3 bl C D f N rec r i W' :=
 ⟨h.below.trans (hW.mono hn),h.el.on hW,h.n3,h.nb,(Shape.below hW).2.same _ _ h.hD rfl,(Shape.below hW).2.same _ _ h.hl rfl⟩
def cnA (l r N C i:Nat) (s:St):List Fact:=[.slot 4 (.pt 4 0),.row 4 true s.row,.at 4 r,.at 18 N,.slot 0 (.im (yV l)),.slot 8 (.im (iI C)),.slot 9 (.im (iI i))]
structure CnS (l r C i:Nat) (s:St) (a:Act) (w:World):Prop where
 defers:a.defers=[]
 size:a.tmps.size=18
 t0:a.tmps[0]?=some (yV l)
 t4:a.tmps[4]?=some (ptV r 0)
 t8:a.tmps[8]?=some (iI C)
 t9:a.tmps[9]?=some (iI i)
 own:Own w r s.row
theorem CnS.holds {l r C i:Nat} {s:St} {a:Act} {w:World} (h:CnS l r C i s a w):Holds 18 r w (cnA l r w.heap.size C i s) a w :=
 h.own.holds (k:=4) (ts:=[(0,yV l),(8,iI C),(9,iI i)]) h.defers h.size rfl h.t4 (fun x hx=>by
  simp only[List.mem_cons,List.not_mem_nil,or_false]at hx
  rcases hx with rfl|rfl|rfl
  ·exact h.t0
  ·exact h.t8
  ·exact h.t9)
section
variable {n0:Nat} {w0:World} {b3 bl C D:Nat} {xs:Nat→Nat} {rec:Loop} {r i:Nat} {W W':World}
end
theorem Il {a b:Nat} (h:a+b<4611686018427387904):aW .add .i64 (Int.ofNat a) (Int.ofNat b)=some (iI (a+b)):=by
 show some (Value.int .i64 (IntKind.i64.wrap ((a:Int)+(b:Int))))=_;rw[←Int.natCast_add,pA (by omega)];rfl
end Go.Proofs.YtpjlhhpjpnacmaaGreat.Ex
namespace Go.Proofs.YtpjlhhpjpnacmaaGreat
open Go.Proofs.Tryz
open Go.ChangeShapes Go.WideShapes Go.ChangeAt Go.RowKit
def LAt (w:World) (g off len:Nat) (A:Nat→Nat→Nat):Prop:=∀k,k<len →
 w.cell? ⟨g,off+k*4,none⟩=some (.int .u64 (A k 0))∧w.cell? ⟨g,off+k*4+1,none⟩=some (.int .u64 (A k 1)) ∧
 w.cell? ⟨g,off+k*4+2,none⟩=some (.int .u64 (A k 2))∧w.cell? ⟨g,off+k*4+3,none⟩=some (.int .u64 (A k 3))
def LOk (len:Nat) (A:Nat→Nat→Nat):Prop:=∀k,k<len→aZ (A k 0) (A k 1) (A k 2) (A k 3)
theorem LAt.same {w w':World} {g off len:Nat} {A:Nat→Nat→Nat} {B:Nat} (h:LAt w g off len A) (hg:0<len→g<B) (hb:Below B w w'):LAt w' g off len A :=
 fun k hk=>have hg:=hg (Nat.lt_of_le_of_lt (Nat.zero_le _) hk); ⟨(hb.cell (p:=⟨g,off+k*4,none⟩) hg).trans (h k hk).1,(hb.cell (p:=⟨g,off+k*4+1,none⟩) hg).trans (h k hk).2.1,
  (hb.cell (p:=⟨g,off+k*4+2,none⟩) hg).trans (h k hk).2.2.1,(hb.cell (p:=⟨g,off+k*4+3,none⟩) hg).trans (h k hk).2.2.2⟩
open Go.RowKit
theorem KIs.set4 {w:World} {b d:Nat} {F:FC} (h:KIs w b F) (hd:d≠b) (d0 d1 d2 d3:Nat):KIs (Go.Proofs.YtpjlhhpjpnacmaaGreat.set4 w d d0 d1 d2 d3) b F:=(((h.other hd _).other hd _).other hd _).other hd _
theorem jP {a0 a1 a2 a3 b0 b1 b2 b3:Nat} (h:¬yC a0 a1 a2 a3 b0 b1 b2 b3=true):yC a0 a1 a2 a3 b0 b1 b2 b3=false:=by cases q:yC a0 a1 a2 a3 b0 b1 b2 b3 with|false=>rfl|true=>exact absurd q h
end Go.Proofs.YtpjlhhpjpnacmaaGreat
