/- Pk07 -/
import Derived.Deep.RegionHeld3
import Derived.Deep.DeepCutAuto
import Derived.Laws.BitsAllLaws
import Derived.Laws.StructEq
import Derived.LoopTactic
import Derived.StillTail
import Derived.RegionTactic
import Derived.KernelRfl
import Derived.Test.YtfnkbmlmgnadmaaGreatPk06
import Derived.Test.YtfnkbmlmgnadmaaGreatPk04
import Derived.Test.YtfnkbmlmgnadmaaGreatPk05
import Derived.Test.YtfnkbmlmgnadmaaGreatPk00
import Derived.Test.YtfnkbmlmgnadmaaGreatPk03
import Derived.Test.YtfnkbmlmgnadmaaGreatPk02
set_option maxRecDepth 100000
set_option linter.unusedVariables false
set_option linter.unusedSimpArgs false
noncomputable section
namespace Go.Proofs.YtfnkbmlmgnadmaaGreat
open Go.Proofs.Tryz
open Go.RowKit
def Xb (P : Nat → Nat → Prop) (w : World) (e : Ending) (w' : World) : Prop :=
 ∃ s0 s1 s2 s3 c : Nat,e = .returned (.tuple #[.agg #[.int .u64 s0,.int .u64 s1,.int .u64 s2,.int .u64 s3],.int .i64 c]) ∧ bH s0 s1 s2 s3 ∧ P (aC s0 s1 s2 s3) c ∧ Below w.heap.size w w'
theorem Cg (a0 a1 a2 a3 : Nat) (w : World) : (Op.equalIn 10000 81 (.agg #[.int .u64 a0,.int .u64 a1,.int .u64 a2,.int .u64 a3]) (.agg #[.int .u64 0,.int .u64 0,.int .u64 0,.int .u64 0])).run prog w = .ok (yJ a0 a1 a2 a3 0 0 0 0) w :=
 MH 9998 a0 a1 a2 a3 0 0 0 0 w
structure MR (w wr : World) (g9 g10 : Nat) (h0 h1 h2 h3 l0 l1 l2 l3 b0 b1 b2 b3 r0 r1 r2 r3 : Nat) : Prop where
 below : Below w.heap.size w wr
 lo : w.heap.size + 1 + 1 + 1 < g9
 mid : g9 < g10
 size : g10 < wr.heap.size
 rowH : Row4 wr w.heap.size h0 h1 h2 h3
 rowL : Row4 wr (w.heap.size + 1) l0 l1 l2 l3
 rowB : Row4 wr g9 b0 b1 b2 b3
 rowR : Row4 wr g10 r0 r1 r2 r3
 rowO : Row4 wr (w.heap.size + 1 + 1 + 1) 0 0 0 0
theorem MR.on {w wr w' : World} {g9 g10 : Nat} {h0 h1 h2 h3 l0 l1 l2 l3 b0 b1 b2 b3 r0 r1 r2 r3 : Nat} (m : MR w wr g9 g10 h0 h1 h2 h3 l0 l1 l2 l3 b0 b1 b2 b3 r0 r1 r2 r3) (hb : Below wr.heap.size wr w') : MR w w' g9 g10 h0 h1 h2 h3 l0 l1 l2 l3 b0 b1 b2 b3 r0 r1 r2 r3 :=
 ⟨m.below.trans (hb.mono m.below.size),m.lo,m.mid,Nat.lt_of_lt_of_le m.size hb.size,m.rowH.below hb (by have:=m.lo; have:=m.mid; have:=m.size; omega),m.rowL.below hb (by have:=m.lo; have:=m.mid; have:=m.size; omega),
  m.rowB.below hb (by have:=m.mid; have:=m.size; omega),m.rowR.below hb m.size,m.rowO.below hb (by have:=m.lo; have:=m.mid; have:=m.size; omega)⟩
theorem MR.drewN {w wr : World} {g9 g10 : Nat} {h0 h1 h2 h3 l0 l1 l2 l3 b0 b1 b2 b3 r0 r1 r2 r3 : Nat} (m : MR w wr g9 g10 h0 h1 h2 h3 l0 l1 l2 l3 b0 b1 b2 b3 r0 r1 r2 r3) (n : Nat) : MR w (wr.drewN n) g9 g10 h0 h1 h2 h3 l0 l1 l2 l3 b0 b1 b2 b3 r0 r1 r2 r3:=m.on (bB _ _ n)
theorem MR.onDrew {w wr w' : World} {g9 g10 : Nat} {h0 h1 h2 h3 l0 l1 l2 l3 b0 b1 b2 b3 r0 r1 r2 r3 : Nat} (m : MR w wr g9 g10 h0 h1 h2 h3 l0 l1 l2 l3 b0 b1 b2 b3 r0 r1 r2 r3) (hb : Below wr.drew.heap.size wr.drew w') : MR w w' g9 g10 h0 h1 h2 h3 l0 l1 l2 l3 b0 b1 b2 b3 r0 r1 r2 r3:=(m.drewN 1).on hb
theorem MR.put {w wr : World} {g9 g10 : Nat} {h0 h1 h2 h3 l0 l1 l2 l3 b0 b1 b2 b3 r0 r1 r2 r3 : Nat} (m : MR w wr g9 g10 h0 h1 h2 h3 l0 l1 l2 l3 b0 b1 b2 b3 r0 r1 r2 r3) (s0 s1 s2 s3 : Nat) : MR w (set4 wr g10 s0 s1 s2 s3) g9 g10 h0 h1 h2 h3 l0 l1 l2 l3 b0 b1 b2 b3 s0 s1 s2 s3 :=
 ⟨aS m.below (by have:=m.lo; have:=m.mid; omega) _ _ _ _,m.lo,m.mid,by unfold set4; simp only [World.size_setCell]; exact m.size,m.rowH.set4_other (by have:=m.lo; have:=m.mid; omega) _ _ _ _,m.rowL.set4_other (by have:=m.lo; have:=m.mid; omega) _ _ _ _,
  m.rowB.set4_other (by have:=m.mid; omega) _ _ _ _,m.rowR.set4 _ _ _ _,m.rowO.set4_other (by have:=m.lo; have:=m.mid; omega) _ _ _ _⟩
set_option maxHeartbeats 4000000 in
theorem Jo (h0 h1 h2 h3 l0 l1 l2 l3 m0 m1 m2 m3 : Nat) (hh : bH h0 h1 h2 h3) (hl : bH l0 l1 l2 l3) (hm : bH m0 m1 m2 m3) (hpz : 0 < aC m0 m1 m2 m3) (w : World) :
  Calls prog 183 #[.agg #[.int .u64 h0,.int .u64 h1,.int .u64 h2,.int .u64 h3],.agg #[.int .u64 l0,.int .u64 l1,.int .u64 l2,.int .u64 l3],.agg #[.int .u64 m0,.int .u64 m1,.int .u64 m2,.int .u64 m3]] w (Xb (fun v c => v = (aC h0 h1 h2 h3 * 115792089237316195423570985008687907853269984665640564039457584007913129639936 + aC l0 l1 l2 l3) % aC m0 m1 m2 m3 ∧ c = 0) w):=by
 have hE:=fun w => Cg m0 m1 m2 m3 w
 have hG:=MI;have q : yJ m0 m1 m2 m3 0 0 0 0 = false:=by
  have:=jM hm (show bH 0 0 0 0 from ⟨by omega,by omega,by omega,by omega⟩)
  rcases h : yJ m0 m1 m2 m3 0 0 0 0 with _ | _
  ·rfl
  ·exact absurd (this.1 h) (by unfold aC at hpz ⊢; omega)
 rw [q] at hE;clear q
 go_enter func183,ntmps183
 go_wp2_with fail;refine (rM m0 m1 m2 m3 hm _).mono ?_
 rintro e w1 ⟨L,rfl,bL,lenL,hbl⟩
 obtain ⟨hpos,hb1,hb2⟩:=Uc bL lenL hpz;obtain ⟨S,eS⟩ : ∃ S,S = 256 - L:=⟨_,rfl⟩
 have wS : (256 : Int) - (L : Int) = (S : Int):=by omega
 have wL : (256 : Int) - (S : Int) = (L : Int):=by omega
 have bS : S ≤ 256:=by omega
 have H1:=(((Row4.new w h0 h1 h2 h3 81).alloc (by simp) _).alloc (by simp; omega) _).alloc (by simp; omega) _ |>.below hbl (by simp; omega)
 have L1:=(((Row4.new (w.alloc _) l0 l1 l2 l3 81).alloc (by simp) _).alloc (by simp) _).below hbl (by simp);have M1:=((Row4.new ((w.alloc _).alloc _) m0 m1 m2 m3 81).alloc (by simp) _).below hbl (by simp);have O1:=(Row4.new (((w.alloc _).alloc _).alloc _) 0 0 0 0 81).below hbl (by simp);simp only [World.size_alloc] at L1 M1 O1;have hz1 : w.heap.size + 1 + 1 + 1 < w1.heap.size:=by have:=hbl.size; simp at this; omega
 have B1:=(Nh w _ _ _ _).trans (hbl.mono (by simp; omega));have HeS:=Lib.hid eS; have Hb1:=Lib.hid hb1; have Hb2:=Lib.hid hb2; have HL:=Lib.hid lenL; have HB1:=Lib.hid B1;have HH1:=Lib.hid H1; have HL1:=Lib.hid L1; have HM1:=Lib.hid M1; have HO1:=Lib.hid O1;have y0 : w.heap.size < w1.heap.size:=by omega
 have y1 : w.heap.size + 1 < w1.heap.size:=by omega
 have y2 : w.heap.size + 1 + 1 < w1.heap.size:=by omega
 obtain ⟨m0',m1',m2',m3',mf⟩:=M1;clear hE hG eS hb1 hb2 lenL B1 H1 L1 O1 hbl;go_wp2_with fail;refine (qL m0 m1 m2 m3 S hm (by omega) (by omega) _).mono ?_
 rintro e w2 ⟨b0,b1,b2,b3,rfl,hb,vb,hbl⟩
 rw [Int.toNat_natCast] at vb;have H2:=HH1.out.below hbl y0;have L2:=HL1.out.below hbl y1;have O2:=HO1.out.below hbl hz1;have hz2 : w1.heap.size ≤ w2.heap.size:=hbl.size;have B2:=HB1.out.trans (hbl.mono HB1.out.size);have HH2:=Lib.hid H2; have HL2:=Lib.hid L2; have HO2:=Lib.hid O2; have HB2:=Lib.hid B2; have Hvb:=Lib.hid vb;have z0 : w.heap.size < w2.heap.size:=by omega
 have z1 : w.heap.size + 1 < w2.heap.size:=by omega
 have z3 : w.heap.size + 1 + 1 + 1 < w2.heap.size:=by omega
 obtain ⟨h0',h1',h2',h3',hf⟩:=H2;clear L2 O2 B2 vb hbl m0' m1' m2' m3' mf;go_wp2_with fail;refine (fF h0 h1 h2 h3 L hh (by omega) (by omega) _).mono ?_
 rintro e w3 ⟨r0,r1,r2,r3,rfl,hr,vr,hbl⟩
 rw [Int.toNat_natCast] at vr;clear h0' h1' h2' h3' hf;have MR1 : MR w (w3.alloc (.cells #[.int .u64 r0,.int .u64 r1,.int .u64 r2,.int .u64 r3] 81)) w2.heap.size w3.heap.size h0 h1 h2 h3 l0 l1 l2 l3 b0 b1 b2 b3 r0 r1 r2 r3:=by
  have hb':=hbl;have hz3:=hb'.size;rw [World.size_alloc] at hz3;have hall : ∀ {x : Nat} {c0 c1 c2 c3 : Nat},Row4 w2 x c0 c1 c2 c3 → x < w2.heap.size → Row4 (w3.alloc (.cells #[.int .u64 r0,.int .u64 r1,.int .u64 r2,.int .u64 r3] 81)) x c0 c1 c2 c3:=fun q hx =>
   ((q.alloc hx _).below hb' (by rw [World.size_alloc]; omega)).alloc (by omega) _
  refine ⟨((HB2.out.alloc (by omega) _).trans (hb'.mono (by rw [World.size_alloc]; omega))).alloc (by omega) _,z3,by omega,by simp,hall HH2.out z0,hall HL2.out z1,?_,Row4.new _ _ _ _ _ _,hall HO2.out z3⟩;exact ((Row4.new w2 b0 b1 b2 b3 81).below hb' (by simp)).alloc (by omega) _
 go_wp2_with fail;clear hbl;have Hvr:=Lib.hid vr;clear vr;generalize w3.alloc (.cells #[.int .u64 r0,.int .u64 r1,.int .u64 r2,.int .u64 r3] 81) = W at *;generalize w2.heap.size = g9 at *;generalize w3.heap.size = g10 at *;have M:=MR1;clear MR1;have wLL : IntKind.i64.wrap (L : Int) = (L : Int):=by simp [IntKind.wrap,IntKind.bits,IntKind.signed]; omega
 have HM:=Lib.hid M;have evb : aC b0 b1 b2 b3 = aC m0 m1 m2 m3 * 2 ^ S:=by rw [Hvb.out,HeS.out,Nat.mod_eq_of_lt Hb1.out]
 have hb3 : 9223372036854775808 ≤ b3:=Po hb (by rw [evb,HeS.out]; exact Hb2.out);have hrb : aC r0 r1 r2 r3 < aC b0 b1 b2 b3:=by rw [evb,Hvr.out,HeS.out]; exact Rw bL hpz (bC hh)
 have Hevb:=Lib.hid evb;clear evb;clear M y0 y1 y2 z0 z1 z3 hz1 hz2 HH1 HL1 HM1 HO1 HB1 HH2 HL2 HO2 HB2;have g0 : ∀ k,W.cell? ⟨w.heap.size,k,none⟩ = W.cell? ⟨w.heap.size,k,none⟩:=fun _ => rfl
 clear g0;clear wS wL;have wL' : IntKind.i64.wrap (256 - (S : Int)) = (L : Int):=by have:=HeS.out; simp [IntKind.wrap,IntKind.bits,IntKind.signed]; omega
 go_wp2_with fail;refine cP (fun wx => MR w wx g9 g10 h0 h1 h2 h3 l0 l1 l2 l3 b0 b1 b2 b3 r0 r1 r2 r3) 11 (by kernel_rfl) ?_;have HS : (fun wx => MR w wx g9 g10 h0 h1 h2 h3 l0 l1 l2 l3 b0 b1 b2 b3 r0 r1 r2 r3) W.drew:=HM.out.drewN 1;refine aF (i:=0) (v:=.agg #[.int .u64 r0,.int .u64 r1,.int .u64 r2,.int .u64 r3]) rfl (by kernel_rfl) (by kernel_rfl) (by kernel_rfl) (by kernel_rfl) (fun _ _ _ h => h) HS (Or.inl ⟨by rfl,fun wx hx => ?_⟩) ?_
 ·obtain ⟨k0,k1,k2,k3,kf⟩:=MR.rowR hx;clear HS;go_simp
 simp only [Act.put,List.setIfInBounds_toArray,List.set_cons_zero,List.set_cons_succ];refine aF (i:=1) (v:=.agg #[.int .u64 h0,.int .u64 h1,.int .u64 h2,.int .u64 h3]) rfl (by kernel_rfl) (by kernel_rfl) (by kernel_rfl) (by kernel_rfl) (fun _ _ _ h => h) HS (Or.inl ⟨by rfl,fun wx hx => ?_⟩) ?_
 ·obtain ⟨k0,k1,k2,k3,kf⟩:=MR.rowH hx;clear HS;go_simp
 simp only [Act.put,List.setIfInBounds_toArray,List.set_cons_zero,List.set_cons_succ];refine aF (i:=2) (v:=.int .i64 (S : Nat)) rfl (by kernel_rfl) (by kernel_rfl) (by kernel_rfl) (by kernel_rfl) (fun _ _ _ h => h) HS (Or.inl ⟨by rfl,fun wx hx => ?_⟩) ?_
 ·clear hx HS;go_simp
 simp only [Act.put,List.setIfInBounds_toArray,List.set_cons_zero,List.set_cons_succ];refine aF (i:=4) (v:=.agg #[.int .u64 l0,.int .u64 l1,.int .u64 l2,.int .u64 l3]) rfl (by kernel_rfl) (by kernel_rfl) (by kernel_rfl) (by kernel_rfl) (fun _ _ _ h => h) HS (Or.inl ⟨by rfl,fun wx hx => ?_⟩) ?_
 ·obtain ⟨k0,k1,k2,k3,kf⟩:=MR.rowL hx;clear HS;go_simp
 simp only [Act.put,List.setIfInBounds_toArray,List.set_cons_zero,List.set_cons_succ];refine aF (i:=5) (v:=.int .i64 (S : Nat)) rfl (by kernel_rfl) (by kernel_rfl) (by kernel_rfl) (by kernel_rfl) (fun _ _ _ h => h) HS (Or.inl ⟨by rfl,fun wx hx => ?_⟩) ?_
 ·clear hx HS;go_simp
 simp only [Act.put,List.setIfInBounds_toArray,List.set_cons_zero,List.set_cons_succ];refine aF (i:=6) (v:=.int .i64 (L : Nat)) rfl (by kernel_rfl) (by kernel_rfl) (by kernel_rfl) (by kernel_rfl) (fun _ _ _ h => h) HS (Or.inl ⟨by rfl,fun wx hx => ?_⟩) ?_
 ·clear hx HS;go_simp
 simp only [Act.put,List.setIfInBounds_toArray,List.set_cons_zero,List.set_cons_succ];refine aF (i:=9) (v:=.agg #[.int .u64 b0,.int .u64 b1,.int .u64 b2,.int .u64 b3]) rfl (by kernel_rfl) (by kernel_rfl) (by kernel_rfl) (by kernel_rfl) (fun _ _ _ h => h) HS (Or.inl ⟨by rfl,fun wx hx => ?_⟩) ?_
 ·obtain ⟨k0,k1,k2,k3,kf⟩:=MR.rowB hx;clear HS;go_simp
 simp only [Act.put,List.setIfInBounds_toArray,List.set_cons_zero,List.set_cons_succ];clear HS;refine aI (i:=3) (by kernel_rfl) rfl (fun K hK => ?_);go_simp;refine (qL h0 h1 h2 h3 S hh (by omega) (by omega) _).mono ?_
 rintro e w4 ⟨x0,x1,x2,x3,rfl,hx,vx,hbl⟩
 rw [Int.toNat_natCast] at vx;have Hvx:=Lib.hid vx;clear vx;have M4:=HM.out.onDrew hbl;clear hbl;go_wp2_with fail;refine hK.out _ _ (Or.inr M4) (fun hHeld => ?_);clear hK K hHeld
 try simp only [Act.put,List.setIfInBounds_toArray,List.set_cons_zero,List.set_cons_succ]
 refine aI (i:=7) (by kernel_rfl) rfl (fun K hK => ?_);go_simp;refine (fF l0 l1 l2 l3 L hl (by omega) (by omega) _).mono ?_
 rintro e w5 ⟨y0,y1,y2,y3,rfl,hy,vy,hbl⟩
 rw [Int.toNat_natCast] at vy;have Hvy:=Lib.hid vy;clear vy;have M5:=M4.on hbl;clear hbl;go_wp2_with fail;refine hK.out _ _ (Or.inr M5) (fun hHeld => ?_);clear hK K hHeld
 try simp only [Act.put,List.setIfInBounds_toArray,List.set_cons_zero,List.set_cons_succ]
 refine aI (i:=8) (by kernel_rfl) rfl (fun K hK => ?_);go_simp;refine (DT x0 x1 x2 x3 y0 y1 y2 y3 hx hy _).mono ?_
 rintro e w6 ⟨z0,z1,z2,z3,rfl,hz,vz,hbl⟩
 have Hvz:=Lib.hid vz;clear vz;have M6:=M5.on hbl;clear hbl;go_wp2_with fail;refine hK.out _ _ (Or.inr M6) (fun hHeld => ?_);clear hK K hHeld
 try simp only [Act.put,List.setIfInBounds_toArray,List.set_cons_zero,List.set_cons_succ]
 refine aI (i:=10) (by kernel_rfl) rfl (fun K hK => ?_);go_simp;refine (oO r0 r1 r2 r3 z0 z1 z2 z3 b0 b1 b2 b3 hr hz hb hb3 hrb _).mono ?_
 rintro e w7 ⟨n0,n1,n2,n3,rfl,hn,vn,hbl⟩
 have Hvn:=Lib.hid vn;clear vn;have M7:=M6.on hbl;clear hbl;go_wp2_with fail;refine hK.out _ _ (Or.inr M7) (fun hHeld => ?_);clear hK K hHeld
 try simp only [Act.put,List.setIfInBounds_toArray,List.set_cons_zero,List.set_cons_succ]
 obtain ⟨q0,q1,q2,q3,qf⟩:=M7.rowR;have M8:=M7.put n0 n1 n2 n3;refine aI (i:=11) (by kernel_rfl) rfl (fun K hK => ?_);have hsz:=M7.size;clear M4 M5 M6 M7;have HM8:=Lib.hid M8;clear M8;go_simp;refine hK.out _ _ (Or.inl rfl) (fun hHeld => ?_);clear hK K hHeld q0 q1 q2 q3 qf;refine bO (by kernel_rfl) ?_;have hnb : aC n0 n1 n2 n3 < aC b0 b1 b2 b3:=by rw [Hvn.out]; exact Nat.mod_lt _ (by omega)
 have HG:=HM8.out;unfold set4 at HG;generalize (((w7.setCell ⟨g10,0,none⟩ (.int .u64 (n0 : Nat))).setCell ⟨g10,1,none⟩ (.int .u64 (n1 : Nat))).setCell ⟨g10,2,none⟩ (.int .u64 (n2 : Nat))).setCell ⟨g10,3,none⟩ (.int .u64 (n3 : Nat)) = W2 at HG ⊢;have HM9:=Lib.hid HG;clear HG HM8 hrb;go_wp2_with fail;refine cP (fun wx => MR w wx g9 g10 h0 h1 h2 h3 l0 l1 l2 l3 b0 b1 b2 b3 n0 n1 n2 n3) 6 (by kernel_rfl) ?_;have HS : (fun wx => MR w wx g9 g10 h0 h1 h2 h3 l0 l1 l2 l3 b0 b1 b2 b3 n0 n1 n2 n3) W2.drew:=HM9.out.drewN 1;refine aF (i:=0) (v:=.agg #[.int .u64 n0,.int .u64 n1,.int .u64 n2,.int .u64 n3]) rfl (by kernel_rfl) (by kernel_rfl) (by kernel_rfl) (by kernel_rfl) (fun _ _ _ h => h) HS (Or.inl ⟨by rfl,fun wx hx => ?_⟩) ?_
 ·obtain ⟨k0,k1,k2,k3,kf⟩:=MR.rowR hx;clear HS;go_simp
 simp only [Act.put,List.setIfInBounds_toArray,List.set_cons_zero,List.set_cons_succ];refine aF (i:=1) (v:=.agg #[.int .u64 l0,.int .u64 l1,.int .u64 l2,.int .u64 l3]) rfl (by kernel_rfl) (by kernel_rfl) (by kernel_rfl) (by kernel_rfl) (fun _ _ _ h => h) HS (Or.inl ⟨by rfl,fun wx hx => ?_⟩) ?_
 ·obtain ⟨k0,k1,k2,k3,kf⟩:=MR.rowL hx;clear HS;go_simp
 simp only [Act.put,List.setIfInBounds_toArray,List.set_cons_zero,List.set_cons_succ];refine aF (i:=2) (v:=.int .i64 (S : Nat)) rfl (by kernel_rfl) (by kernel_rfl) (by kernel_rfl) (by kernel_rfl) (fun _ _ _ h => h) HS (Or.inl ⟨by rfl,fun wx hx => ?_⟩) ?_
 ·clear hx HS;go_simp
 simp only [Act.put,List.setIfInBounds_toArray,List.set_cons_zero,List.set_cons_succ];refine aF (i:=4) (v:=.agg #[.int .u64 b0,.int .u64 b1,.int .u64 b2,.int .u64 b3]) rfl (by kernel_rfl) (by kernel_rfl) (by kernel_rfl) (by kernel_rfl) (fun _ _ _ h => h) HS (Or.inl ⟨by rfl,fun wx hx => ?_⟩) ?_
 ·obtain ⟨k0,k1,k2,k3,kf⟩:=MR.rowB hx;clear HS;go_simp
 simp only [Act.put,List.setIfInBounds_toArray,List.set_cons_zero,List.set_cons_succ];clear HS;refine aI (i:=3) (by kernel_rfl) rfl (fun K hK => ?_);go_simp;refine (qL l0 l1 l2 l3 S hl (by omega) (by omega) _).mono ?_
 rintro e w8 ⟨u0,u1,u2,u3,rfl,hu,vu,hbl⟩
 rw [Int.toNat_natCast] at vu;have Hvu:=Lib.hid vu;clear vu;have M4:=HM9.out.onDrew hbl;clear hbl;go_wp2_with fail;refine hK.out _ _ (Or.inr M4) (fun hHeld => ?_);clear hK K hHeld
 try simp only [Act.put,List.setIfInBounds_toArray,List.set_cons_zero,List.set_cons_succ]
 refine aI (i:=5) (by kernel_rfl) rfl (fun K hK => ?_);go_simp;refine (oO n0 n1 n2 n3 u0 u1 u2 u3 b0 b1 b2 b3 hn hu hb hb3 hnb _).mono ?_
 rintro e w9 ⟨p0,p1,p2,p3,rfl,hp,vp,hbl⟩
 have Hvp:=Lib.hid vp;clear vp;have M7:=M4.on hbl;clear hbl;go_wp2_with fail;refine hK.out _ _ (Or.inr M7) (fun hHeld => ?_);clear hK K hHeld
 try simp only [Act.put,List.setIfInBounds_toArray,List.set_cons_zero,List.set_cons_succ]
 obtain ⟨q0,q1,q2,q3,qf⟩:=M7.rowR;have M8:=M7.put p0 p1 p2 p3;refine aI (i:=6) (by kernel_rfl) rfl (fun K hK => ?_);have hsz:=M7.size;clear M4 M7;have HM8:=Lib.hid M8;clear M8;go_simp;refine hK.out _ _ (Or.inl rfl) (fun hHeld => ?_);clear hK K hHeld q0 q1 q2 q3 qf;refine bO (by kernel_rfl) ?_;have HG:=HM8.out;unfold set4 at HG;generalize (((w9.setCell ⟨g10,0,none⟩ (.int .u64 (p0 : Nat))).setCell ⟨g10,1,none⟩ (.int .u64 (p1 : Nat))).setCell ⟨g10,2,none⟩ (.int .u64 (p2 : Nat))).setCell ⟨g10,3,none⟩ (.int .u64 (p3 : Nat)) = W3 at HG ⊢;have HM10:=Lib.hid HG;obtain ⟨q0,q1,q2,q3,qf⟩:=HG.rowR;clear HG HM8;go_wp2_with fail;refine (fF p0 p1 p2 p3 S hp (by omega) (by omega) _).mono ?_
 rintro e wz ⟨s0,s1,s2,s3,rfl,hs,vs,hbl⟩
 rw [Int.toNat_natCast] at vs;have HF : Hid (aC s0 s1 s2 s3 = (aC h0 h1 h2 h3 * 115792089237316195423570985008687907853269984665640564039457584007913129639936 + aC l0 l1 l2 l3) % aC m0 m1 m2 m3):=Lib.hid (by
  rw [vs,HeS.out];refine Tv (L:=L) (r1:=aC n0 n1 n2 n3) bL ?_ ?_
  ·rw [Hvn.out,Hvz.out,Hvx.out,Hvy.out,Hevb.out,Hvr.out,HeS.out,Ke bL (bC hl)]
  ·rw [Hvp.out,Hvu.out,Hevb.out,HeS.out])
 have M11:=HM10.out.on hbl;obtain ⟨o0,o1,o2,o3,of⟩:=M11.rowO;have HB:=Lib.hid M11.below;clear vs hbl M11 q0 q1 q2 q3 qf;go_wp2_with fail;refine bodyPost_ret (v:=.tuple #[.agg #[.int .u64 s0,.int .u64 s1,.int .u64 s2,.int .u64 s3],.int .i64 0]) (by simp [results,results183,go_sem, *]) rfl ?_;exact ⟨s0,s1,s2,s3,0,rfl,hs,⟨HF.out,rfl⟩,aS HB.out (by omega) _ _ _ _⟩
set_option maxHeartbeats 2000000 in
theorem RL (f : Int) (F : FC) (hf : FieldIs f F) (g0 g1 g2 g3 l0 l1 l2 l3 : Nat) (hg : bH g0 g1 g2 g3) (hl : bH l0 l1 l2 l3) (w : World) :
  Calls prog 163 #[.int .i64 f,.agg #[.int .u64 g0,.int .u64 g1,.int .u64 g2,.int .u64 g3],.agg #[.int .u64 l0,.int .u64 l1,.int .u64 l2,.int .u64 l3]] w (FT 0 ((aC g0 g1 g2 g3 * 115792089237316195423570985008687907853269984665640564039457584007913129639936 + aC l0 l1 l2 l3) % F.M) w):=by
 go_enter func163,ntmps163
 go_wp2_with fail;refine (cD f F hf _).mono ?_
 rintro e w1 ⟨rfl,hbl⟩
 have M1:=((((Mem.nil w).new (w.heap.size) g0 g1 g2 g3 81 (by simp)).new (w.heap.size + 1) l0 l1 l2 l3 81 (by simp)).new (w.heap.size + 1 + 1) 0 0 0 0 24 (by simp)).on hbl;clear hbl;have z0 : w.heap.size < w1.heap.size:=M1.lt (c0:=g0) (c1:=g1) (c2:=g2) (c3:=g3) (by simp);have z1 : w.heap.size + 1 < w1.heap.size:=M1.lt (c0:=l0) (c1:=l1) (c2:=l2) (c3:=l3) (by simp);have z2 : w.heap.size + 1 + 1 < w1.heap.size:=M1.lt (c0:=0) (c1:=0) (c2:=0) (c3:=0) (by simp);have HM:=Lib.hid (M1.on ((Below.refl _ _).alloc (Nat.le_refl _) (.cells #[.int .u64 F.m0,.int .u64 F.m1,.int .u64 F.m2,.int .u64 F.m3,.int .u64 F.inv,.int .u64 F.s0,.int .u64 F.s1,.int .u64 F.s2,.int .u64 F.s3] 129)));have KK:=Lib.hid (KIs.new w1 F 129);have kr:=M1.row (b:=w.heap.size) (c0:=g0) (c1:=g1) (c2:=g2) (c3:=g3) (by simp);have x0:=kr.c0; have x1:=kr.c1; have x2:=kr.c2; have x3:=kr.c3;clear kr;have xl:=M1.lt (b:=w.heap.size) (c0:=g0) (c1:=g1) (c2:=g2) (c3:=g3) (by simp);have kr:=M1.row (b:=w.heap.size + 1) (c0:=l0) (c1:=l1) (c2:=l2) (c3:=l3) (by simp);have u0:=kr.c0; have u1:=kr.c1; have u2:=kr.c2; have u3:=kr.c3;clear kr;have ul:=M1.lt (b:=w.heap.size + 1) (c0:=l0) (c1:=l1) (c2:=l2) (c3:=l3) (by simp);have k0:=KK.out.k0; have k1:=KK.out.k1; have k2:=KK.out.k2; have k3:=KK.out.k3;go_wp2_with fail;refine (Jo g0 g1 g2 g3 l0 l1 l2 l3 F.m0 F.m1 F.m2 F.m3 hg hl hf.ok.okm hf.ok.pos _).mono ?_
 rintro e w2 ⟨s0,s1,s2,s3,er,rfl,hs,⟨hv,rfl⟩,hbl⟩
 have HV:=Lib.hid hv;clear hv;have HM':=Lib.hid (HM.out.on hbl);have KK':=Lib.hid (KK.out.same hbl);have zk:=KK'.out.lt;clear HM KK hbl M1;have HM:=HM';have KK:=KK';clear HM' KK';clear zk k0 k1 k2 k3 x0 x1 x2 x3 xl u0 u1 u2 u3 ul;have wz : w.heap.size + 1 + 1 < w2.heap.size:=HM.out.lt (b:=w.heap.size + 1 + 1) (c0:=0) (c1:=0) (c2:=0) (c3:=0) (by simp);have kr:=HM.out.row (b:=w.heap.size + 1 + 1) (c0:=0) (c1:=0) (c2:=0) (c3:=0) (by simp);have y0:=kr.c0; have y1:=kr.c1; have y2:=kr.c2; have y3:=kr.c3; have yf:=kr.fr;clear kr;have yl:=HM.out.lt (b:=w.heap.size + 1 + 1) (c0:=0) (c1:=0) (c2:=0) (c3:=0) (by simp);go_wp2_with fail;refine bodyPost_ret (v:=.tuple #[.agg #[.int .u64 s0,.int .u64 s1,.int .u64 s2,.int .u64 s3],.int .i64 0]) (by simp [results,results163,go_sem, *]) rfl ?_;refine ⟨_,_,_,_,rfl,hs,HV.out,?_⟩
 repeat (first | exact HM.out.1 | refine Below.alloc ?_ (by first | (simp; done) | (simp; omega)) _ | refine Below.setCell ?_ (by first | (simp; done) | (simp; omega)) _)
theorem fW : FieldIs 1 FP:=Or.inl ⟨rfl,rfl⟩
def FwPost (x : Nat) (w : World) (e : Ending) (w' : World) : Prop:=e = .returned (.agg #[.int .u64 (fw x 0 : Nat),.int .u64 (fw x 1 : Nat),.int .u64 (fw x 2 : Nat),.int .u64 (fw x 3 : Nat)]) ∧ Below w.heap.size w w'
theorem FwPost.of {x : Nat} {w : World} {e : Ending} {w' : World} (hx : x < FP.M) (h : eE x w e w') : FwPost x w e w':=by
 obtain ⟨s0,s1,s2,s3,rfl,hs,hv,hb⟩:=h;obtain ⟨rfl,rfl,rfl,rfl⟩:=fG hs (gM hx) hv;exact ⟨rfl,hb⟩
set_option maxHeartbeats 4000000 in
theorem BP (a0 a1 a2 a3 b0 b1 b2 b3 : Nat) (ha : bH a0 a1 a2 a3) (hb : bH b0 b1 b2 b3) (la : aC a0 a1 a2 a3 < FP.M) (lb : aC b0 b1 b2 b3 < FP.M) (w : World) :
  Calls prog 139 #[.agg #[.int .u64 a0,.int .u64 a1,.int .u64 a2,.int .u64 a3],.agg #[.int .u64 b0,.int .u64 b1,.int .u64 b2,.int .u64 b3]] w (eE ((aC a0 a1 a2 a3 + aC b0 b1 b2 b3) % FP.M) w):=by
 go_enter func139,ntmps139
 go_wp2_with fail;have HM:=Lib.hid ((((Mem.nil w).new (w.heap.size) a0 a1 a2 a3 24 (by simp)).new (w.heap.size + 1) b0 b1 b2 b3 24 (by simp)).new (w.heap.size + 1 + 1) 0 0 0 0 24 (by simp));refine (WU 1 FP fW a0 a1 a2 a3 b0 b1 b2 b3 ha hb la lb _).mono ?_
 rintro e w1 ⟨s0,s1,s2,s3,rfl,hs,hv,hbl⟩
 have HV:=Lib.hid hv;have HM':=Lib.hid (HM.out.on hbl);clear hv hbl;clear HM;have HM:=HM';clear HM';have kr:=HM.out.row (b:=w.heap.size + 1 + 1) (c0:=0) (c1:=0) (c2:=0) (c3:=0) (by simp);have y0:=kr.c0; have y1:=kr.c1; have y2:=kr.c2; have y3:=kr.c3; have yf:=kr.fr;clear kr;have yl:=HM.out.lt (b:=w.heap.size + 1 + 1) (c0:=0) (c1:=0) (c2:=0) (c3:=0) (by simp);have HB1:=Lib.hid HM.out.1;clear HM;go_wp2_with fail;refine bodyPost_ret (v:=.agg #[.int .u64 s0,.int .u64 s1,.int .u64 s2,.int .u64 s3]) (by simp [results,results139,go_sem, *]) rfl ?_;refine ⟨_,_,_,_,rfl,hs,HV.out,?_⟩;have hbx:=HB1.out;have hsz:=hbx.size
 repeat (first | exact hbx | refine Below.drew ?_ | refine Below.alloc ?_ (by first | exact hsz | (simp; done) | (simp; omega)) _ | refine Below.setCell ?_ (by first | (simp; done) | (simp; omega)) _)
theorem GG (x y : Nat) (hx : x < FP.M) (hy : y < FP.M) (w : World) : Calls prog 139 #[.agg #[.int .u64 (fw x 0 : Nat),.int .u64 (fw x 1 : Nat),.int .u64 (fw x 2 : Nat),.int .u64 (fw x 3 : Nat)],.agg #[.int .u64 (fw y 0 : Nat),.int .u64 (fw y 1 : Nat),.int .u64 (fw y 2 : Nat),.int .u64 (fw y 3 : Nat)]] w (FwPost ((x + y) % FP.M) w):=by
 refine (BP _ _ _ _ _ _ _ _ (bR x) (bR y) (by rw [aZ hx]; exact hx) (by rw [aZ hy]; exact hy) w).mono ?_;rw [aZ hx,aZ hy];exact fun e w' h => FwPost.of (Nat.mod_lt _ bW) h
set_option maxHeartbeats 4000000 in
theorem yN (a0 a1 a2 a3 b0 b1 b2 b3 : Nat) (ha : bH a0 a1 a2 a3) (hb : bH b0 b1 b2 b3) (la : aC a0 a1 a2 a3 < FP.M) (lb : aC b0 b1 b2 b3 < FP.M) (w : World) :
  Calls prog 140 #[.agg #[.int .u64 a0,.int .u64 a1,.int .u64 a2,.int .u64 a3],.agg #[.int .u64 b0,.int .u64 b1,.int .u64 b2,.int .u64 b3]] w (eE ((aC a0 a1 a2 a3 + FP.M - aC b0 b1 b2 b3) % FP.M) w):=by
 go_enter func140,ntmps140
 go_wp2_with fail;have HM:=Lib.hid ((((Mem.nil w).new (w.heap.size) a0 a1 a2 a3 24 (by simp)).new (w.heap.size + 1) b0 b1 b2 b3 24 (by simp)).new (w.heap.size + 1 + 1) 0 0 0 0 24 (by simp));refine (WN 1 FP fW a0 a1 a2 a3 b0 b1 b2 b3 ha hb la lb _).mono ?_
 rintro e w1 ⟨s0,s1,s2,s3,rfl,hs,hv,hbl⟩
 have HV:=Lib.hid hv;have HM':=Lib.hid (HM.out.on hbl);clear hv hbl;clear HM;have HM:=HM';clear HM';have kr:=HM.out.row (b:=w.heap.size + 1 + 1) (c0:=0) (c1:=0) (c2:=0) (c3:=0) (by simp);have y0:=kr.c0; have y1:=kr.c1; have y2:=kr.c2; have y3:=kr.c3; have yf:=kr.fr;clear kr;have yl:=HM.out.lt (b:=w.heap.size + 1 + 1) (c0:=0) (c1:=0) (c2:=0) (c3:=0) (by simp);have HB1:=Lib.hid HM.out.1;clear HM;go_wp2_with fail;refine bodyPost_ret (v:=.agg #[.int .u64 s0,.int .u64 s1,.int .u64 s2,.int .u64 s3]) (by simp [results,results140,go_sem, *]) rfl ?_;refine ⟨_,_,_,_,rfl,hs,HV.out,?_⟩;have hbx:=HB1.out;have hsz:=hbx.size
 repeat (first | exact hbx | refine Below.drew ?_ | refine Below.alloc ?_ (by first | exact hsz | (simp; done) | (simp; omega)) _ | refine Below.setCell ?_ (by first | (simp; done) | (simp; omega)) _)
theorem BQ (x y : Nat) (hx : x < FP.M) (hy : y < FP.M) (w : World) : Calls prog 140 #[.agg #[.int .u64 (fw x 0 : Nat),.int .u64 (fw x 1 : Nat),.int .u64 (fw x 2 : Nat),.int .u64 (fw x 3 : Nat)],.agg #[.int .u64 (fw y 0 : Nat),.int .u64 (fw y 1 : Nat),.int .u64 (fw y 2 : Nat),.int .u64 (fw y 3 : Nat)]] w (FwPost ((x + FP.M - y) % FP.M) w):=by
 refine (yN _ _ _ _ _ _ _ _ (bR x) (bR y) (by rw [aZ hx]; exact hx) (by rw [aZ hy]; exact hy) w).mono ?_;rw [aZ hx,aZ hy];exact fun e w' h => FwPost.of (Nat.mod_lt _ bW) h
set_option maxHeartbeats 4000000 in
theorem yM (a0 a1 a2 a3 b0 b1 b2 b3 : Nat) (ha : bH a0 a1 a2 a3) (hb : bH b0 b1 b2 b3) (la : aC a0 a1 a2 a3 < FP.M) (lb : aC b0 b1 b2 b3 < FP.M) (w : World) :
  Calls prog 138 #[.agg #[.int .u64 a0,.int .u64 a1,.int .u64 a2,.int .u64 a3],.agg #[.int .u64 b0,.int .u64 b1,.int .u64 b2,.int .u64 b3]] w (eE (aC a0 a1 a2 a3 * aC b0 b1 b2 b3 % FP.M) w):=by
 go_enter func138,ntmps138
 go_wp2_with fail;have HM:=Lib.hid ((((Mem.nil w).new (w.heap.size) a0 a1 a2 a3 24 (by simp)).new (w.heap.size + 1) b0 b1 b2 b3 24 (by simp)).new (w.heap.size + 1 + 1) 0 0 0 0 24 (by simp));refine (WQ 1 FP fW a0 a1 a2 a3 b0 b1 b2 b3 ha hb la lb _).mono ?_
 rintro e w1 ⟨s0,s1,s2,s3,rfl,hs,hv,hbl⟩
 have HV:=Lib.hid hv;have HM':=Lib.hid (HM.out.on hbl);clear hv hbl;clear HM;have HM:=HM';clear HM';have kr:=HM.out.row (b:=w.heap.size + 1 + 1) (c0:=0) (c1:=0) (c2:=0) (c3:=0) (by simp);have y0:=kr.c0; have y1:=kr.c1; have y2:=kr.c2; have y3:=kr.c3; have yf:=kr.fr;clear kr;have yl:=HM.out.lt (b:=w.heap.size + 1 + 1) (c0:=0) (c1:=0) (c2:=0) (c3:=0) (by simp);have HB1:=Lib.hid HM.out.1;clear HM;go_wp2_with fail;refine bodyPost_ret (v:=.agg #[.int .u64 s0,.int .u64 s1,.int .u64 s2,.int .u64 s3]) (by simp [results,results138,go_sem, *]) rfl ?_;refine ⟨_,_,_,_,rfl,hs,HV.out,?_⟩;have hbx:=HB1.out;have hsz:=hbx.size
 repeat (first | exact hbx | refine Below.drew ?_ | refine Below.alloc ?_ (by first | exact hsz | (simp; done) | (simp; omega)) _ | refine Below.setCell ?_ (by first | (simp; done) | (simp; omega)) _)
theorem BN (x y : Nat) (hx : x < FP.M) (hy : y < FP.M) (w : World) : Calls prog 138 #[.agg #[.int .u64 (fw x 0 : Nat),.int .u64 (fw x 1 : Nat),.int .u64 (fw x 2 : Nat),.int .u64 (fw x 3 : Nat)],.agg #[.int .u64 (fw y 0 : Nat),.int .u64 (fw y 1 : Nat),.int .u64 (fw y 2 : Nat),.int .u64 (fw y 3 : Nat)]] w (FwPost (x * y % FP.M) w):=by
 refine (yM _ _ _ _ _ _ _ _ (bR x) (bR y) (by rw [aZ hx]; exact hx) (by rw [aZ hy]; exact hy) w).mono ?_;rw [aZ hx,aZ hy];exact fun e w' h => FwPost.of (Nat.mod_lt _ bW) h
set_option maxHeartbeats 4000000 in
theorem GH (a0 a1 a2 a3 : Nat) (ha : bH a0 a1 a2 a3) (la : aC a0 a1 a2 a3 < FP.M) (w : World) :
  Calls prog 135 #[.agg #[.int .u64 a0,.int .u64 a1,.int .u64 a2,.int .u64 a3]] w (eE ((0 + FP.M - aC a0 a1 a2 a3) % FP.M) w):=by
 go_enter func135,ntmps135
 go_wp2_with fail;have HM:=Lib.hid (((Mem.nil w).new (w.heap.size) a0 a1 a2 a3 24 (by simp)).new (w.heap.size + 1) 0 0 0 0 24 (by simp));refine (WP 1 FP fW a0 a1 a2 a3 ha la _).mono ?_
 rintro e w1 ⟨s0,s1,s2,s3,rfl,hs,hv,hbl⟩
 have HV:=Lib.hid hv;have HM':=Lib.hid (HM.out.on hbl);clear hv hbl;clear HM;have HM:=HM';clear HM';have kr:=HM.out.row (b:=w.heap.size + 1) (c0:=0) (c1:=0) (c2:=0) (c3:=0) (by simp);have y0:=kr.c0; have y1:=kr.c1; have y2:=kr.c2; have y3:=kr.c3; have yf:=kr.fr;clear kr;have yl:=HM.out.lt (b:=w.heap.size + 1) (c0:=0) (c1:=0) (c2:=0) (c3:=0) (by simp);have kr:=HM.out.row (b:=w.heap.size) (c0:=a0) (c1:=a1) (c2:=a2) (c3:=a3) (by simp);have x0:=kr.c0; have x1:=kr.c1; have x2:=kr.c2; have x3:=kr.c3; have xf:=kr.fr;clear kr;have xl:=HM.out.lt (b:=w.heap.size) (c0:=a0) (c1:=a1) (c2:=a2) (c3:=a3) (by simp);go_wp2_with fail;refine bodyPost_ret (v:=.agg #[.int .u64 s0,.int .u64 s1,.int .u64 s2,.int .u64 s3]) (by simp [results,results135,go_sem, *]) rfl ?_;refine ⟨_,_,_,_,rfl,hs,HV.out,?_⟩;exact aS (aS HM.out.1 (Nat.le_refl _) _ _ _ _) (by omega) _ _ _ _
theorem NO (x : Nat) (hx : x < FP.M) (w : World) : Calls prog 135 #[.agg #[.int .u64 (fw x 0 : Nat),.int .u64 (fw x 1 : Nat),.int .u64 (fw x 2 : Nat),.int .u64 (fw x 3 : Nat)]] w (FwPost ((0 + FP.M - x) % FP.M) w):=by
 refine (GH _ _ _ _ (bR x) (by rw [aZ hx]; exact hx) w).mono ?_;rw [aZ hx];exact fun e w' h => FwPost.of (Nat.mod_lt _ bW) h
set_option maxHeartbeats 4000000 in
theorem BO (a0 a1 a2 a3 : Nat) (ha : bH a0 a1 a2 a3) (w : World) :
  Calls prog 134 #[.agg #[.int .u64 a0,.int .u64 a1,.int .u64 a2,.int .u64 a3]] w (eE (aC a0 a1 a2 a3 % FP.M) w):=by
 go_enter func134,ntmps134
 go_wp2_with fail;have HM:=Lib.hid (((Mem.nil w).new (w.heap.size) a0 a1 a2 a3 24 (by simp)).new (w.heap.size + 1) 0 0 0 0 24 (by simp))
 by_cases la : aC a0 a1 a2 a3 < FP.M
 ·refine (AO 1 FP fW a0 a1 a2 a3 ha la _).mono ?_
  rintro e w1 ⟨rfl,hbl⟩
  have HL:=Lib.hid la;have HM':=Lib.hid (HM.out.on hbl);clear hbl la;clear HM;have HM:=HM';clear HM';have kr:=HM.out.row (b:=w.heap.size + 1) (c0:=0) (c1:=0) (c2:=0) (c3:=0) (by simp);have y0:=kr.c0; have y1:=kr.c1; have y2:=kr.c2; have y3:=kr.c3; have yf:=kr.fr;clear kr;have yl:=HM.out.lt (b:=w.heap.size + 1) (c0:=0) (c1:=0) (c2:=0) (c3:=0) (by simp);have kr:=HM.out.row (b:=w.heap.size) (c0:=a0) (c1:=a1) (c2:=a2) (c3:=a3) (by simp);have x0:=kr.c0; have x1:=kr.c1; have x2:=kr.c2; have x3:=kr.c3;clear kr;have xl:=HM.out.lt (b:=w.heap.size) (c0:=a0) (c1:=a1) (c2:=a2) (c3:=a3) (by simp);go_wp2_with fail;refine bodyPost_ret (v:=.agg #[.int .u64 a0,.int .u64 a1,.int .u64 a2,.int .u64 a3]) (by simp [results,results134,go_sem, *]) rfl ?_;refine ⟨_,_,_,_,rfl,ha,by rw [Nat.mod_eq_of_lt HL.out],?_⟩;exact aS HM.out.1 (by omega) _ _ _ _
 ·refine (wX 1 21 a0 a1 a2 a3 ha (Or.inr ⟨FP,fW,la,rfl⟩) _).mono ?_
  rintro e w1 ⟨rfl,hbl⟩
  have HM':=Lib.hid (HM.out.on hbl);clear hbl la;clear HM;have HM:=HM';clear HM';have kr:=HM.out.row (b:=w.heap.size) (c0:=a0) (c1:=a1) (c2:=a2) (c3:=a3) (by simp);have x0:=kr.c0; have x1:=kr.c1; have x2:=kr.c2; have x3:=kr.c3;clear kr;have xl:=HM.out.lt (b:=w.heap.size) (c0:=a0) (c1:=a1) (c2:=a2) (c3:=a3) (by simp);go_wp2_with fail;refine (RL 1 FP fW 0 0 0 0 a0 a1 a2 a3 NC ha _).mono ?_
  rintro e w2 ⟨s0,s1,s2,s3,rfl,hs,hv,hbl⟩
  have HV:=Lib.hid (show aC s0 s1 s2 s3 = aC a0 a1 a2 a3 % FP.M by rw [hv,show aC 0 0 0 0 = 0 from rfl,Nat.zero_mul,Nat.zero_add]);have HM':=Lib.hid (HM.out.on hbl);clear hv hbl x0 x1 x2 x3 xl;clear HM;have HM:=HM';clear HM';have kr:=HM.out.row (b:=w.heap.size + 1) (c0:=0) (c1:=0) (c2:=0) (c3:=0) (by simp);have y0:=kr.c0; have y1:=kr.c1; have y2:=kr.c2; have y3:=kr.c3; have yf:=kr.fr;clear kr;have yl:=HM.out.lt (b:=w.heap.size + 1) (c0:=0) (c1:=0) (c2:=0) (c3:=0) (by simp);have kr:=HM.out.row (b:=w.heap.size) (c0:=a0) (c1:=a1) (c2:=a2) (c3:=a3) (by simp);have x0:=kr.c0; have x1:=kr.c1; have x2:=kr.c2; have x3:=kr.c3; have xf:=kr.fr;clear kr;have xl:=HM.out.lt (b:=w.heap.size) (c0:=a0) (c1:=a1) (c2:=a2) (c3:=a3) (by simp);go_wp2_with fail;refine bodyPost_ret (v:=.agg #[.int .u64 s0,.int .u64 s1,.int .u64 s2,.int .u64 s3]) (by simp [results,results134,go_sem, *]) rfl ?_;refine ⟨_,_,_,_,rfl,hs,HV.out,?_⟩;exact aS (aS HM.out.1 (Nat.le_refl _) _ _ _ _) (by omega) _ _ _ _
theorem GF (a0 a1 a2 a3 : Nat) (ha : bH a0 a1 a2 a3) (w : World) : Calls prog 134 #[.agg #[.int .u64 a0,.int .u64 a1,.int .u64 a2,.int .u64 a3]] w (FwPost (aC a0 a1 a2 a3 % FP.M) w) :=
 (BO a0 a1 a2 a3 ha w).mono fun e w' h => FwPost.of (Nat.mod_lt _ bW) h
set_option maxHeartbeats 4000000 in
theorem tA (A B : Nat → Nat → Nat) (p q : Option Addr) (la ca cb : Nat) (h2 : la ≤ 65536) (ia : MX FP.M la A) (ib : MX FP.M la B) (w : World) (hA : FIs w p la A) (hB : FIs w q la B) :
  Calls prog 164 #[.slice p la ca,.slice q la cb] w (FwPost (pP FP.M (yK A) (yK B) la) w):=by
 have HA:=Lib.hid hA;have HB:=Lib.hid hB;have IA:=Lib.hid ia;have IB:=Lib.hid ib;clear hA hB ia ib
 suffices h : Calls prog 164 #[.slice p la ca,.slice q la cb] w (eE (pP FP.M (yK A) (yK B) la) w) from h.mono fun e w' h => FwPost.of (Vv bW _ _ _) h
 go_enter func164,ntmps164
 go_wp2_with fail;have HM:=Lib.hid ((Mem.nil w).new (w.heap.size) 0 0 0 0 24 (by simp));refine (Vp 1 FP fW p q la ca la cb A B rfl h2 IA.out IB.out _ (HA.out.on HM.out.1) (HB.out.on HM.out.1)).mono ?_
 rintro e w1 ⟨s0,s1,s2,s3,rfl,hs,hv,hbl⟩
 have HV:=Lib.hid hv;have HM':=Lib.hid (HM.out.on hbl);clear hv hbl;clear HM;have HM:=HM';clear HM';have kr:=HM.out.row (b:=w.heap.size) (c0:=0) (c1:=0) (c2:=0) (c3:=0) (by simp);have y0:=kr.c0; have y1:=kr.c1; have y2:=kr.c2; have y3:=kr.c3; have yf:=kr.fr;clear kr;have yl:=HM.out.lt (b:=w.heap.size) (c0:=0) (c1:=0) (c2:=0) (c3:=0) (by simp);have HB1:=Lib.hid HM.out.1;clear HM;go_wp2_with fail;refine bodyPost_ret (v:=.agg #[.int .u64 s0,.int .u64 s1,.int .u64 s2,.int .u64 s3]) (by simp [results,results164,go_sem, *]) rfl ?_;refine ⟨_,_,_,_,rfl,hs,HV.out,?_⟩;have hbx:=HB1.out;have hsz:=hbx.size
 repeat (first | exact hbx | refine Below.drew ?_ | refine Below.alloc ?_ (by first | exact hsz | (simp; done) | (simp; omega)) _ | refine Below.setCell ?_ (by first | (simp; done) | (simp; omega)) _)
end Go.Proofs.YtfnkbmlmgnadmaaGreat
namespace Go.Proofs.YtfnkbmlmgnadmaaGreat.Ex
open Go.Proofs.Tryz
open Go.RowKit
theorem AC {x : Nat} {f : FuncId} {args : List Value} {w : World} {y : Fq} (h : Calls prog f args.toArray w (FwPost x w)) (e : x = y.1) : Good prog f (.one (.fl (e1 y))) args w:=by
 subst e;exact h.mono fun e w' h => h
theorem sV {l : List At} {args : List Value} {w : World} (h : bD w [.v (.fl l)] args) : args = [.agg (aA l).toArray]:=by
 match args,h with
 | [v],h => rw [show v = _ from h.1]; rfl
 | [],h => exact h.elim
 | _ :: _ :: _,h => exact h.2.elim
theorem XT {l m : List At} {args : List Value} {w : World} (h : bD w [.v (.fl l),.v (.fl m)] args) : args = [.agg (aA l).toArray,.agg (aA m).toArray]:=by
 match args,h with
 | [v,u],h => rw [show v = _ from h.1,show u = _ from h.2.1]; rfl
 | [],h => exact h.elim
 | [_],h => exact h.2.elim
 | _ :: _ :: _ :: _,h => exact h.2.2.elim
theorem aDF (x y : Fq) (args : List Value) (w : World) (ha : bD w [.v (.fl (e1 x)),.v (.fl (e1 y))] args) : Good prog 139 (.one (.fl (e1 (F1.add x y)))) args w:=by
 rw [XT ha];exact AC (GG x.1 y.1 x.2 y.2 w) rfl
theorem Pr (x y : Fq) : (x.1 + FP.M - y.1) % FP.M = (F1.sub x y).1:=by
 show _ = (x.1 + (0 + FP.M - y.1) % FP.M) % FP.M;have:=y.2;rw [Nat.add_mod_mod];congr 1;omega
theorem Wq (x y : Fq) (args : List Value) (w : World) (ha : bD w [.v (.fl (e1 x)),.v (.fl (e1 y))] args) : Good prog 140 (.one (.fl (e1 (F1.sub x y)))) args w:=by
 rw [XT ha];exact AC (BQ x.1 y.1 x.2 y.2 w) (Pr x y)
theorem Wp (x y : Fq) (args : List Value) (w : World) (ha : bD w [.v (.fl (e1 x)),.v (.fl (e1 y))] args) : Good prog 138 (.one (.fl (e1 (F1.mul x y)))) args w:=by
 rw [XT ha];exact AC (BN x.1 y.1 x.2 y.2 w) rfl
theorem aGk (x : Fq) (args : List Value) (w : World) (ha : bD w [.v (.fl (e1 x))] args) : Good prog 135 (.one (.fl (e1 (F1.neg x)))) args w:=by
 rw [sV ha];exact AC (NO x.1 x.2 w) rfl
theorem aDD (x : Nat) (args : List Value) (w : World) (ha : bD w [.v (.fl (q1 x))] args) : Good prog 134 (.one (.fl (e1 (m1 x)))) args w:=by
 rw [sV ha];exact AC (GF _ _ _ _ (bR x) w) rfl
theorem tT : ∀ {n : Nat} {l : List At} {x : List Fq},Bi n l = some x → x.length = n ∧ ∃ r,l = x.map .f ++ r
 | 0,l,x,h => by cases h; exact ⟨rfl,l,rfl⟩
 | n + 1,.f a :: r,x,h => by
  unfold Bi at h;split at h
  ·rename_i l hl;cases h;obtain ⟨h1,s,h2⟩:=tT hl;exact ⟨by rw [List.length_cons,h1],s,by rw [h2]; rfl⟩
  ·cases h
 | n + 1,[],x,h => by cases h
 | n + 1,.q _ :: _,x,h => by cases h
 | n + 1,.c _ :: _,x,h => by cases h
def lw (x : List Fq) (k i : Nat) : Nat:=fw ((x[k]?).getD F1.zero).1 i
theorem Lp : ∀ (x : List Fq) (k : Nat),k < x.length → ∀ i,i < 4 → (aA (x.map .f))[k * 4 + i]? = some (.int .u64 (lw x k i : Nat))
 | a :: r,0,_,i,hi => by
  show (w4 a.1 ++ aA (r.map .f))[0 * 4 + i]? = _;rw [List.getElem?_append_left (by show _ < 4; omega)]
  match i,hi with
  | 0,_ => rfl
  | 1,_ => rfl
  | 2,_ => rfl
  | 3,_ => rfl
 | a :: r,k + 1,h,i,hi => by
  show (w4 a.1 ++ aA (r.map .f))[(k + 1) * 4 + i]? = _;rw [List.getElem?_append_right (by show 4 ≤ _; omega),show (k + 1) * 4 + i - (w4 a.1).length = k * 4 + i by show _ - 4 = _; omega,Lp r k (by simpa using h) i hi];simp [lw]
theorem Jq {n : Nat} {l : List At} {x : List Fq} (h : Bi n l = some x) (h6 : n ≤ 6) {b o : Nat} {w : World} (hb : b < w.heap.size) (hr : w.rangeAt b o (aA l)) : FIs w (some ⟨b,o,none⟩) n (lw x):=by
 obtain ⟨h1,r,h2⟩:=tT h;refine ⟨by omega,fun k hk => bR _,fun _ => ⟨b,o,rfl,hb,fun k hk => ?_⟩⟩;have hc : ∀ i,i < 4 → w.cell? ⟨b,o + k * 4 + i,none⟩ = some (.int .u64 (lw x k i : Nat)):=fun i hi => by
  rw [Nat.add_assoc];refine hr (k * 4 + i) _ ?_;rw [h2,aH,List.getElem?_append_left (by
   rw [aT];have : ∀ x : List Fq,dG (x.map .f) = 4 * x.length:=fun x => by
    induction x with
    | nil => rfl
    | cons a r ih => show 4 + dG (r.map .f) = 4 * (r.length + 1); omega
   rw [this,h1]; omega)]
  exact Lp x k (by omega) i hi
 exact ⟨hc 0 (by omega),hc 1 (by omega),hc 2 (by omega),hc 3 (by omega)⟩
theorem VX (x : List Fq) (k : Nat) : yK (lw x) k = ((x[k]?).getD F1.zero).1:=aZ (Fin.isLt _)
theorem MK : ∀ (x y : List Fq) (a : Fq) (X Y : Nat → Nat) (k : Nat),x.length = y.length → (∀ j,j < x.length → X (k + j) = ((x[j]?).getD F1.zero).1) → (∀ j,j < y.length → Y (k + j) = ((y[j]?).getD F1.zero).1) → a.1 = pP FP.M X Y k → (Ch a x y).1 = pP FP.M X Y (k + x.length)
 | [],[],a,X,Y,k,_,_,_,h => h
 | p :: x,q :: y,a,X,Y,k,hl,hX,hY,h => by
  have e : (F1.add a (F1.mul p q)).1 = pP FP.M X Y (k + 1):=by
   show (a.1 + p.1 * q.1 % FP.M) % FP.M = (pP FP.M X Y k + X k * Y k) % FP.M;rw [Nat.add_mod_mod,h];have h1:=hX 0 (by simp);have h2:=hY 0 (by simp);rw [Nat.add_zero] at h1 h2;rw [h1,h2];rfl
  have:=MK x y (F1.add a (F1.mul p q)) X Y (k + 1) (by simpa using hl) (fun j hj => by have:=hX (j + 1) (by simpa using hj); rw [show k + 1 + j = k + (j + 1) by omega,this]; simp)
   (fun j hj => by have:=hY (j + 1) (by simpa using hj); rw [show k + 1 + j = k + (j + 1) by omega,this]; simp) e
  rw [show k + (p :: x).length = k + 1 + x.length by simp; omega];exact this
 | [],_ :: _,_,_,_,_,h,_,_,_ => by cases h
 | _ :: _,[],_,_,_,_,h,_,_,_ => by cases h
theorem Mb (x y : List Fq) (hl : x.length = y.length) : (pQ x y).1 = pP FP.M (yK (lw x)) (yK (lw y)) x.length:=by
 have h0 : (Ch F1.zero x y).1 = pP FP.M (yK (lw x)) (yK (lw y)) (0 + x.length):=MK x y F1.zero _ _ 0 hl (fun j _ => by rw [Nat.zero_add]; exact VX x j) (fun j _ => by rw [Nat.zero_add]; exact VX y j) rfl;rw [Nat.zero_add] at h0;rw [← h0];cases x with
 | nil => cases y <;> rfl
 | cons a r =>
  cases y with
  | nil => cases hl
  | cons b s =>
   show (Ch (F1.mul a b) r s).1 = (Ch (F1.add F1.zero (F1.mul a b)) r s).1;rw [F1.zero_add]
theorem aDE : ∀ cs pre r,Ky cs = some (pre,r) → aL pre → ∀ (args : List Value) (w : World),bD w cs args → Good prog 164 r args w:=by
 intro cs pre r hg hp args w ha;unfold Ky at hg;split at hg
 ·rename_i l n m l' n' m';cases hb : (Nat.beq n n' && Nat.ble n 6) <;> rw [hb] at hg
  ·cases hg
  ·simp only [cond_true] at hg;split at hg
   ·rename_i x y hx hy;cases hg;rw [Bool.and_eq_true] at hb;cases Nat.eq_of_beq_eq_true hb.1;have h6:=Nat.le_of_ble_eq_true hb.2
    match args,ha with
    | [v,u],ha =>
     obtain ⟨⟨b,o,rfl,h1,h2⟩,⟨b',o',rfl,h3,h4⟩,_⟩:=ha;have l1:=(tT hx).1;have l2:=(tT hy).1;refine AC (tA (lw x) (lw y) _ _ n m m' (by omega) (fun k hk => by rw [VX]; exact Fin.isLt _) (fun k hk => by rw [VX]; exact Fin.isLt _) w (Jq hx h6 h1 h2) (Jq hy h6 h3 h4)) ?_;rw [Mb x y (by omega),l1]
    | [],ha => exact ha.elim
    | [_],ha => exact ha.2.elim
    | _ :: _ :: _ :: _,ha => exact ha.2.2.elim
   ·cases hg
 ·cases hg
theorem aHZ : ∀ cs pre r,gOf cs = some (pre,r) → aL pre → ∀ (args : List Value) (w : World),bD w cs args → Good prog 83 r args w:=by
 intro cs pre r hg hp args w ha;unfold gOf at hg;split at hg
 ·rename_i n;cases hb : Nat.blt n 18446744073709551616 <;> rw [hb] at hg
  ·cases hg
  ·cases hg;have hn : n < 18446744073709551616:=by simpa using hb
   match args,ha with
   | [v],ha =>
    rw [show v = _ from ha.1];refine (wB n hn w).mono ?_
    rintro e w' ⟨rfl,hbl⟩
    refine ⟨?_,hbl⟩;have hM : n < FP.M:=Nat.lt_trans hn (by decide);obtain ⟨e0,e1',e2',e3'⟩:=fG (s0:=n) (s1:=0) (s2:=0) (s3:=0) ⟨hn,by omega,by omega,by omega⟩ (gM hM) (show aC n 0 0 0 = n by unfold aC; omega);show _ = Ending.returned (.agg (w4 (n % FP.M)).toArray);rw [Nat.mod_eq_of_lt hM];unfold w4;rw [← e0,← e1',← e2',← e3'];rfl
   | [],ha => exact ha.elim
   | _ :: _ :: _,ha => exact ha.2.elim
 ·cases hg
theorem aDG (x : Fq) (h : x ≠ F1.zero) (w : World) : Calls prog 137 #[.int .i64 1,.agg (aA (e1 x)).toArray] w (fun e w' => e = .returned (RV.many [.fl (e1 (gY x)),.im (.int .i64 0)]).den ∧ Below w.heap.size w w'):=by
 have hz : x.1 ≠ 0:=fun e => h (Fin.ext e)
 refine (WR 1 0 _ _ _ _ _ (fun W => WT 1 FP fW 1 0 0 0 _ _ _ _ (by unfold bH; decide) (bR x.1) (by decide) (by rw [aZ x.2]; exact x.2) (by rw [aZ x.2]; exact hz) W) w).mono ?_
 rintro e w' ⟨s0,s1,s2,s3,rfl,hs,hv,hb⟩
 have hf:=wW x;rw [Nat.one_mul] at hf;rw [aZ x.2,show aC 1 0 0 0 = 1 from rfl,Nat.one_mul,← hf] at hv;obtain ⟨rfl,rfl,rfl,rfl⟩:=fG hs (gM (gY x).2) hv;exact ⟨rfl,hb⟩
theorem aDH (w : World) : Calls prog 137 #[.int .i64 1,.agg (aA (e1 F1.zero)).toArray] w (fun e w' => e = .returned (RV.many [.fl (e1 F1.zero),.im (.int .i64 22)]).den ∧ Below w.heap.size w w'):=by
 refine (WR 1 22 0 _ _ _ _ (fun W => Lr 1 FP fW 1 0 0 0 _ _ _ _ (by unfold bH; decide) (bR 0) (by decide) (by rw [aZ bW]; exact bW) (by rw [aZ bW]) W) w).mono ?_
 rintro e w' ⟨s0,s1,s2,s3,rfl,hs,hv,hb⟩
 obtain ⟨rfl,rfl,rfl,rfl⟩:=fG hs (gM bW) hv;exact ⟨rfl,hb⟩
theorem aGl (c : Bool) : ∀ cs pre r,aBR c cs = some (pre,r) → aL pre → ∀ (args : List Value) (w : World),bD w cs args → Good prog 137 r args w:=by
 intro cs pre r hg hp args w ha;unfold aBR at hg;split at hg
 ·rename_i l;split at hg
  ·rename_i x hx
   match args,ha with
   | [v,u],ha =>
    have h1 : v = .int .i64 1:=ha.1;have h2 : u = .agg (aA l).toArray:=ha.2.1;rw [dK l x hx] at h2;subst h1; subst h2;cases c
    ·cases hg;have hz : x = F1.zero:=hp.1;subst hz;exact aDH w
    ·cases hg;exact aDG x hp.1 w
   | [],ha => exact ha.elim
   | [_],ha => exact ha.2.elim
   | _ :: _ :: _ :: _,ha => exact ha.2.2.elim
  ·cases hg
 ·cases hg
theorem Tj (c : Bool) : TabOk prog (BF c) :=
 ((((((((eW prog).ad func139 (iQ dK dK fun x y _ args w ha => aDF x y args w ha)).ad func140 (iQ dK dK fun x y _ args w ha => Wq x y args w ha)).add
  func138 (by kernel_rfl) (by kernel_rfl) (iQ dK dK fun x y _ args w ha => Wp x y args w ha)).ad func135 (cM dK fun x _ args w ha => aGk x args w ha)).add
  func134 (by kernel_rfl) (by kernel_rfl) (cM fU fun x _ args w ha => aDD x args w ha)).ad func164 aDE).ad func83 aHZ).ad func137 (aGl c)
def b8 (n k : Nat) : At:=.c (.int .u8 (Int.ofNat (aM n k)))
def bl (n : Nat) : List At:=[b8 n 0,b8 n 1,b8 n 2,b8 n 3,b8 n 4,b8 n 5,b8 n 6,b8 n 7,b8 n 8,b8 n 9,b8 n 10,b8 n 11,b8 n 12,b8 n 13,b8 n 14,b8 n 15,b8 n 16,b8 n 17,b8 n 18,b8 n 19,b8 n 20,b8 n 21,b8 n 22,b8 n 23,b8 n 24,b8 n 25,b8 n 26,b8 n 27,b8 n 28,b8 n 29,b8 n 30,b8 n 31]
theorem We (n : Nat) : ∀ k,k < 32 → (aA (bl n))[k]? = some (.int .u8 (Int.ofNat (aM n k)))
 | 0,_ => by kernel_rfl
 | 1,_ => by kernel_rfl
 | 2,_ => by kernel_rfl
 | 3,_ => by kernel_rfl
 | 4,_ => by kernel_rfl
 | 5,_ => by kernel_rfl
 | 6,_ => by kernel_rfl
 | 7,_ => by kernel_rfl
 | 8,_ => by kernel_rfl
 | 9,_ => by kernel_rfl
 | 10,_ => by kernel_rfl
 | 11,_ => by kernel_rfl
 | 12,_ => by kernel_rfl
 | 13,_ => by kernel_rfl
 | 14,_ => by kernel_rfl
 | 15,_ => by kernel_rfl
 | 16,_ => by kernel_rfl
 | 17,_ => by kernel_rfl
 | 18,_ => by kernel_rfl
 | 19,_ => by kernel_rfl
 | 20,_ => by kernel_rfl
 | 21,_ => by kernel_rfl
 | 22,_ => by kernel_rfl
 | 23,_ => by kernel_rfl
 | 24,_ => by kernel_rfl
 | 25,_ => by kernel_rfl
 | 26,_ => by kernel_rfl
 | 27,_ => by kernel_rfl
 | 28,_ => by kernel_rfl
 | 29,_ => by kernel_rfl
 | 30,_ => by kernel_rfl
 | 31,_ => by kernel_rfl
 | k + 32,h => absurd h (by omega)
theorem aFZ (n : Nat) : dG (bl n) = 32:=by kernel_rfl
theorem Nb {w : World} {b n : Nat} (h : ∀ k,k < 32 → w.cell? ⟨b,k,none⟩ = some (.int .u8 (aM n k : Nat))) : w.rangeAt b 0 (aA (bl n)):=fun j v hj => by
 have hlt : j < 32:=by have:=(List.getElem?_eq_some_iff.1 hj).1; rwa [aT,aFZ] at this
 rw [Nat.zero_add,h j hlt,← hj,We n j hlt];rfl
def gBy : List CA → Option (List Prop × FS)
 | [.v (.fl l)] => match PT l with
  | some n => some ([],⟨bl (wv n),32,0,0,false,[],[]⟩)
  | none => none
 | _ => none
theorem aBX : ∀ cs pre r,gBy cs = some (pre,r) → aL pre → ∀ (args : List Value) (w : World),bD w cs args → Calls prog 49 args.toArray w (fun e w' => r.ok w e w'):=by
 intro cs pre r hg hp args w ha;unfold gBy at hg;split at hg
 ·rename_i l;split at hg
  ·rename_i n hn;cases hg;rw [sV ha,fU l _ hn];refine (EQ _ _ _ _ (bR n) w).mono ?_
   rintro e w' ⟨b,rfl,h1,h2,h3,h4,h5⟩
   exact ⟨b,32,rfl,h4,h1,h2,Nb fun k hk => (h3 k hk).1,h5,fun h => by cases h⟩
  ·cases hg
 ·cases hg
def B3 : Tab3:=TD.add 49 gBy
theorem Zm : FsOk prog B3:=(hJ _).ad func49 aBX
def x3 (T : Tab3) (T4 : Tab4) (gen : Nat → Option Value) (mks : Nat → Option (Nat × List At)) : Ext:={ Ext.none with T3:=T,T4:=T4,gen:=gen,mks:=mks }
theorem lG {T : Tab3} {T4 : Tab4} {gen : Nat → Option Value} {mks : Nat → Option (Nat × List At)} (h : FsOk prog T) (h4 : WrOk prog T4) (w : World) : bU prog (qY prog (x3 T T4 gen mks)) w.heap.size w:=aEK (mQ _) (fun _ _ _ h => h.elim) h h4
def lO (op : BinOp) (t : Nat) (x y : Operand) (v u r : Value) : Prop:=∀ w : World,(do eqGuard op t x y v u; binOp op t v u : Sem Value).run prog w = .ok r w
theorem SB {t : Nat} {x y : Operand} {a b : Nat} (ha : a < 256) (hb : b < 256) : lO .or t x y (.int .u8 (Int.ofNat a)) (.int .u8 (Int.ofNat b)) (.int .u8 (Int.ofNat (a ||| b))):=fun w => by
 have h:=u8_or_nat a b ha hb;simp only [Int.ofNat_eq_natCast];exact congrArg (fun z => Result.ok (Value.int .u8 z) w) h
theorem xM {t : Nat} {x y : Operand} {a : Nat} (ha : a < 256) : lO .shr t x y (.int .u8 (Int.ofNat a)) (.int .u64 6) (.int .u8 (Int.ofNat (a / 64))):=fun w => by
 simp only [Int.ofNat_eq_natCast];simp [eqGuard,binOp,go_sem]
theorem xN {t : Nat} {x y : Operand} {a : Nat} (ha : a < 4) : lO .shl t x y (.int .u8 (Int.ofNat a)) (.int .u64 6) (.int .u8 (Int.ofNat (64 * a))):=fun w => by
 match a,ha with
 | 0,_ => rfl
 | 1,_ => rfl
 | 2,_ => rfl
 | 3,_ => rfl
 | a + 4,h => exact absurd h (by omega)
set_option maxHeartbeats 1000000 in
theorem Ep (b1 o1 c1 b2 o2 c2 n : Nat) (hn : n < 4611686018427387904) (P : Nat → Int) (w : World) (h1 : ∀ k,k < n → w.cell? ⟨b1,o1 + k,none⟩ = some (.int .u8 (P k))) (h2 : ∀ k,k < n → w.cell? ⟨b2,o2 + k,none⟩ = some (.int .u8 (P k))) :
  Calls prog 13 #[.slice (some ⟨b1,o1,none⟩) n c1,.slice (some ⟨b2,o2,none⟩) n c2] w fun e w' => e = .returned (.bool true) ∧ Below w.heap.size w w':=by
 have H1:=Lib.hid h1;have H2:=Lib.hid h2;clear h1 h2;have tn : ((n : Int) != (n : Int)) = false:=by simp
 go_enter func13,ntmps13
 go_wp2_with fail
 go_loopw [5] (fun x wr => ∃ k m : Nat,k ≤ n ∧ x = .int .i64 k ∧ wr = w.drewN m) (fun x _ => n - (intOf x).toNat)
 case atStart => exact ⟨0,0,by omega,rfl,rfl⟩
 case round =>
  obtain ⟨k,m,hk,rfl,rfl⟩:=hrel
  by_cases hlt : k < n
  ·have e1 : (w.drewN m).cell? ⟨b1,o1 + k,none⟩ = _:=H1.out k hlt;have e2 : (w.drewN m).cell? ⟨b2,o2 + k,none⟩ = _:=H2.out k hlt;have e3:=H1.out k hlt;have e4:=H2.out k hlt;have t1 : decide ((k : Int) < (n : Int)) = true:=decide_eq_true (by omega);generalize P k = p at *;go_wp2_with fail
   go_quiet (fail)
   go_wp2_with fail
   go_roundw
   case rel => exact ⟨k + 1,_,by omega,by go_num,rfl⟩
   case measure => first | (simp [intOf]; done) | (simp [intOf]; omega)
  ·obtain rfl : k = n:=by omega
   have t1 : decide ((k : Int) < (k : Int)) = false:=decide_eq_false (by omega);go_wp2_with fail;go_ret;exact ⟨rfl,bB _ _ _⟩
def U8s (l : List At) (n : Nat) (P : Nat → Int) : Prop:=∀ k,k < n → (aA l)[k]? = some (.int .u8 (P k))
def Jw : CA → Option (List At × Nat)
 | .s l n _ => some (l,n)
 | .so l n => some (l,n)
 | _ => none
theorem VY {c : CA} {l : List At} {n : Nat} (h : Jw c = some (l,n)) {w : World} {v : Value} (hc : c.ok w v) : ∃ b o m,v = .slice (some ⟨b,o,none⟩) n m ∧ w.rangeAt b o (aA l):=by
 cases c with
 | v x => cases h
 | s l' n' m =>
  cases h;obtain ⟨b,o,e,_,hr⟩:=hc;exact ⟨b,o,m,e,hr⟩
 | so l' n' =>
  cases h;obtain ⟨b,o,m,e,_,hr⟩:=hc;exact ⟨b,o,m,e,hr⟩
def Kw : gE
 | [c,d] => match Jw c,Jw d with
  | some (l,n),some (l',n') => some ([n' = n,n < 4611686018427387904,∃ P,U8s l n P ∧ U8s l' n P],.one (.im (.bool true)))
  | _,_ => none
 | _ => none
theorem Kv : ∀ cs pre r,Kw cs = some (pre,r) → aL pre → ∀ (args : List Value) (w : World),bD w cs args → Good prog 13 r args w:=by
 intro cs pre r hg hp args w ha;unfold Kw at hg;split at hg
 ·rename_i c d;split at hg
  ·rename_i l n l' n' h1 h2;cases hg;obtain ⟨rfl,hn,⟨P,hl,hl'⟩,_⟩:=hp
   match args,ha with
   | [u,v],ha =>
    obtain ⟨b1,o1,m1,rfl,r1⟩:=VY h1 (by have:=ha; cases c <;> exact this.1);obtain ⟨b2,o2,m2,rfl,r2⟩:=VY h2 (by have:=ha; cases c <;> cases d <;> exact this.2.1);exact Ep b1 o1 m1 b2 o2 m2 _ hn P w (fun k hk => r1 k _ (hl k hk)) (fun k hk => r2 k _ (hl' k hk))
   | [],ha => cases c <;> exact ha.elim
   | [_],ha => cases c <;> cases d <;> exact ha.2.elim
   | _ :: _ :: _ :: _,ha => cases c <;> cases d <;> exact ha.2.2.elim
  ·cases hg
 ·cases hg
theorem Holds.now {nt base : Nat} {w0 : World} {A : List Fact} {a : Act} {w : World} (h : Holds nt base w0 A a w) : Holds nt base w A a w:=⟨h.defers,h.size,Below.refl _ _,h.heap,h.facts⟩
theorem WrAt.refl (w : World) (b : Nat) : WrAt w w b []:=⟨rfl,rfl,rfl,Nat.le_refl _,fun _ _ _ => rfl,Shape.refl _,fun _ => rfl⟩
theorem WrAt.below {w w1 w2 : World} {b : Nat} (hb : b < w.heap.size) (h : WrAt w w1 b []) (h2 : Below w.heap.size w1 w2) : WrAt w w2 b [] :=
 ⟨h2.os.trans h.os,h2.tape.trans h.tape,h2.output.trans h.output,Nat.le_trans h.size h2.size,fun k hk hne => (h2.block k hk).trans (h.block k hk hne),
  fun q cur e hq => by
   obtain ⟨c,h3,h4⟩:=h.shape q cur e hq;exact ⟨c,(h2.block q (Array.getElem?_eq_some_iff.1 hq).1).trans h3,h4⟩,fun j => (World.frozen?_of_block (h2.block b hb)).trans (h.frozen j)⟩
theorem lQ (b : Nat) : ∀ (vs : List Value) (o : Nat) (w : World) (k : Nat),k ≠ b → (w.setCells b o vs).heap[k]? = w.heap[k]?
 | [],_,_,_,_ => rfl
 | v :: r,o,w,k,h => by
  rw [World.setCells,lQ b r (o + 1) _ k h];exact Below.heap_setCell w _ v k h
theorem jD (b : Nat) : ∀ (vs : List Value) (o : Nat) (w : World),(w.setCells b o vs).os = w.os ∧ (w.setCells b o vs).tape = w.tape ∧ (w.setCells b o vs).output = w.output
 | [],_,_ => ⟨rfl,rfl,rfl⟩
 | v :: r,o,w => by rw [World.setCells]; exact jD b r (o + 1) _
theorem WrAt.set {w w1 : World} {b : Nat} (h : WrAt w w1 b []) (o : Nat) (vs : List Value) : WrAt w (w1.setCells b o vs) b [] :=
 ⟨(jD b vs o w1).1.trans h.os,(jD b vs o w1).2.1.trans h.tape,(jD b vs o w1).2.2.trans h.output,by rw [gA]; exact h.size,fun k hk hne => (lQ b vs o w1 k hne).trans (h.block k hk hne),
  fun q cur e hq => by
   obtain ⟨c,h3,h4⟩:=h.shape q cur e hq;obtain ⟨c2,h5,h6⟩:=iK b vs o w1 q c e h3;exact ⟨c2,h5,h6.trans h4⟩,fun j => by rw [World.frozen?_setCells]; exact h.frozen j⟩
def hb (n m : Nat) : At:=.c (.int .u8 (Int.ofNat (aM n 0 ||| 64 * m)))
def bm (n m : Nat) : List At:=[hb n m,b8 n 1,b8 n 2,b8 n 3,b8 n 4,b8 n 5,b8 n 6,b8 n 7,b8 n 8,b8 n 9,b8 n 10,b8 n 11,b8 n 12,b8 n 13,b8 n 14,b8 n 15,b8 n 16,b8 n 17,b8 n 18,b8 n 19,b8 n 20,b8 n 21,b8 n 22,b8 n 23,b8 n 24,b8 n 25,b8 n 26,b8 n 27,b8 n 28,b8 n 29,b8 n 30,b8 n 31]
def cT0 : Nat → Cfg:=fun _ => ⟨fun _ => T0,fun _ => true,fun _ => none⟩
theorem ZN (x m c : Nat) : iR prog (qY prog (x3 B3 FQ (assoc [(23,.int .u8 (Int.ofNat (64 * m))),(24,.int .u8 (Int.ofNat (aM (wv x) 0 ||| 64 * m)))]) (fun _ => none))) cT0 f21 60 [.v (.im (.int .u8 (Int.ofNat m))),.s [.q x] 1 c] = some ([lO .shl 5 (.tmp 22) (.const (.int .u64 6)) (.int .u8 (Int.ofNat m)) (.int .u64 6) (.int .u8 (Int.ofNat (64 * m))),lO .or 5 (.tmp 21) (.tmp 23) (.int .u8 (Int.ofNat (aM (wv x) 0))) (.int .u8 (Int.ofNat (64 * m))) (.int .u8 (Int.ofNat (aM (wv x) 0 ||| 64 * m)))],⟨bm (wv x) m,32,5,1,true,[],[]⟩):=by kernel_rfl
theorem ZM (x y m c : Nat) : iR prog (qY prog (x3 B3 FQ (assoc [(23,.int .u8 (Int.ofNat (64 * m))),(24,.int .u8 (Int.ofNat (aM (wv x) 0 ||| 64 * m)))]) (fun _ => none))) cT0 f21 60 [.v (.im (.int .u8 (Int.ofNat m))),.s [.q x,.q y] 2 c] = some ([lO .shl 5 (.tmp 22) (.const (.int .u64 6)) (.int .u8 (Int.ofNat m)) (.int .u64 6) (.int .u8 (Int.ofNat (64 * m))),lO .or 5 (.tmp 21) (.tmp 23) (.int .u8 (Int.ofNat (aM (wv x) 0))) (.int .u8 (Int.ofNat (64 * m))) (.int .u8 (Int.ofNat (aM (wv x) 0 ||| 64 * m)))],⟨bm (wv x) m ++ bl (wv y),64,5,1,true,[],[]⟩):=by kernel_rfl
theorem ZL (x y z t m c : Nat) : iR prog (qY prog (x3 B3 FQ (assoc [(23,.int .u8 (Int.ofNat (64 * m))),(24,.int .u8 (Int.ofNat (aM (wv x) 0 ||| 64 * m)))]) (fun _ => none))) cT0 f21 80 [.v (.im (.int .u8 (Int.ofNat m))),.s [.q x,.q y,.q z,.q t] 4 c] = some ([lO .shl 5 (.tmp 22) (.const (.int .u64 6)) (.int .u8 (Int.ofNat m)) (.int .u64 6) (.int .u8 (Int.ofNat (64 * m))),lO .or 5 (.tmp 21) (.tmp 23) (.int .u8 (Int.ofNat (aM (wv x) 0))) (.int .u8 (Int.ofNat (64 * m))) (.int .u8 (Int.ofNat (aM (wv x) 0 ||| 64 * m)))],⟨((bm (wv x) m ++ bl (wv y)) ++ bl (wv z)) ++ bl (wv t),128,5,1,true,[],[]⟩):=by kernel_rfl
def Le : List CA → Option (List Prop × FS)
 | [.v (.im (.int .u8 (.ofNat m))),.s [a] 1 c] => match nD a with
  | some x => some ([m < 4],⟨bm (wv x) m,32,5,1,true,[],[]⟩)
  | none => none
 | [.v (.im (.int .u8 (.ofNat m))),.s [a,b] 2 c] => match nD a,nD b with
  | some x,some y => some ([m < 4],⟨bm (wv x) m ++ bl (wv y),64,5,1,true,[],[]⟩)
  | _,_ => none
 | [.v (.im (.int .u8 (.ofNat m))),.s [a,b,d,e] 4 c] => match nD a,nD b,nD d,nD e with
  | some x,some y,some z,some t => some ([m < 4],⟨((bm (wv x) m ++ bl (wv y)) ++ bl (wv z)) ++ bl (wv t),128,5,1,true,[],[]⟩)
  | _,_,_,_ => none
 | _ => none
theorem aCK {w : World} {v : TV} {l l' : List At} {n c : Nat} (h : aA l = aA l') {args : List Value} (ha : bD w [.v v,.s l n c] args) : bD w [.v v,.s l' n c] args:=by
 match args,ha with
 | [u,s],ha => exact ⟨ha.1,by obtain ⟨b,o,e,hb,hr⟩:=ha.2.1; exact ⟨b,o,e,hb,by rw [← h]; exact hr⟩,trivial⟩
 | [],ha => exact ha.elim
 | [_],ha => exact ha.2.elim
 | _ :: _ :: _ :: _,ha => exact ha.2.2.elim
theorem fD {a : At} {x : Nat} (h : nD a = some x) : a.cells = (At.q x).cells:=by cases a <;> cases h <;> rfl
theorem ER (n k : Nat) : aM n k < 256:=fH _ _
theorem Ld : ∀ cs pre r,Le cs = some (pre,r) → aL pre → ∀ (args : List Value) (w : World),bD w cs args → Calls prog 21 args.toArray w (fun e w' => r.ok w e w'):=by
 intro cs pre r hg hp args w ha;have hq:=fun (g : Nat → Option Value) => lG (gen:=g) (mks:=fun _ => none) Zm (fZ _) w
 have hT : ∀ n d : Nat,TabOkW prog ((cT0 n).T d) w.heap.size w:=fun _ _ => (eW _).w _ _
 unfold Le at hg;split at hg
 ·rename_i m a c;split at hg
  ·rename_i x hx;cases hg;exact bE aG hT (hq _) func21 (ZN x m c) ⟨xN hp.1,SB (ER _ _) (by have:=hp.1; omega),trivial⟩ (aCK (by simp [aA,fD hx]) ha)
  ·cases hg
 ·rename_i m a b c;split at hg
  ·rename_i x y hx hy;cases hg;exact bE aG hT (hq _) func21 (ZM x y m c) ⟨xN hp.1,SB (ER _ _) (by have:=hp.1; omega),trivial⟩ (aCK (by simp [aA,fD hx,fD hy]) ha)
  ·cases hg
 ·rename_i m a b d e c;split at hg
  ·rename_i x y z t hx hy hz ht;cases hg;exact bE aG hT (hq _) func21 (ZL x y z t m c) ⟨xN hp.1,SB (ER _ _) (by have:=hp.1; omega),trivial⟩ (aCK (by simp [aA,fD hx,fD hy,fD hz,fD ht]) ha)
  ·cases hg
 ·cases hg
def L3 : Tab3:=B3.add 21 Le
theorem aGA : FsOk prog L3:=Zm.ad func21 Ld
def W4 : Tab4:=FQ
theorem aGv : WrOk prog W4:=fZ _
def cE (x : Q2) : Q2:=(x.1,F1.neg x.2)
def sc2 (x : Q2) (k : Fq) : Q2:=(F1.mul x.1 k,F1.mul x.2 k)
def iE (x : Q2) : Fq:=F1.add (F1.mul x.1 x.1) (F1.mul x.2 x.2)
def iZ (x : Q2) : Q2:=sc2 (cE x) (gY (iE x))
theorem OF (c : Bool) (x : Q2) (y : Q2) : dL prog (BF c) qN (fun _ => true) f103 40 [.v (.fl (e2 x)),.v (.fl (e2 y))] = some ([],.one (.fl (e2 (F2.add x y)))):=by kernel_rfl
def xQ (c : Bool) : Tab:=(BF c).add 103 (g2 UI UI (fun x y => ([],.one (.fl (e2 (F2.add x y))))))
theorem zT (c : Bool) (hB : TabOk prog (BF c)) : TabOk prog (xQ c):=(aEW c hB).ad func103 (iQ gR gR fun x y hp args w ha => aV aG (aEW c hB) cG func103 (OF c x y) hp ha)
theorem GX (c : Bool) (x : Q2) (y : Q2) : dL prog (xQ c) qN (fun _ => true) f106 40 [.v (.fl (e2 x)),.v (.fl (e2 y))] = some ([],.one (.fl (e2 (F2.sub x y)))):=by kernel_rfl
def sC (c : Bool) : Tab:=(xQ c).add 106 (g2 UI UI (fun x y => ([],.one (.fl (e2 (F2.sub x y))))))
theorem vW (c : Bool) (hB : TabOk prog (BF c)) : TabOk prog (sC c):=(zT c hB).ad func106 (iQ gR gR fun x y hp args w ha => aV aG (zT c hB) cG func106 (GX c x y) hp ha)
theorem OI (c : Bool) (x : Q2) : dL prog (sC c) qN (fun _ => true) f130 40 [.v (.fl (e2 x))] = some ([],.one (.fl (e2 (cE x)))):=by kernel_rfl
def xR (c : Bool) : Tab:=(sC c).add 130 (g1 UI (fun x => ([],.one (.fl (e2 (cE x))))))
theorem zU (c : Bool) (hB : TabOk prog (BF c)) : TabOk prog (xR c):=(vW c hB).ad func130 (cM gR fun x hp args w ha => aV aG (vW c hB) cG func130 (OI c x) hp ha)
theorem CB (c : Bool) (x : Q2) (y : Fq) : dL prog (xR c) qN (fun _ => true) f227 40 [.v (.fl (e2 x)),.v (.fl (e1 y))] = some ([],.one (.fl (e2 (sc2 x y)))):=by kernel_rfl
def oJ (c : Bool) : Tab:=(xR c).add 227 (g2 UI zK (fun x y => ([],.one (.fl (e2 (sc2 x y))))))
theorem sM (c : Bool) (hB : TabOk prog (BF c)) : TabOk prog (oJ c):=(zU c hB).ad func227 (iQ gR dK fun x y hp args w ha => aV aG (zU c hB) cG func227 (CB c x y) hp ha)
theorem OG (c : Bool) (x : Q2) : dL prog (oJ c) qN (fun _ => true) f136 40 [.v (.fl (e2 x))] = some ([],.one (.fl (e1 (iE x)))):=by kernel_rfl
def pZ (c : Bool) : Tab:=(oJ c).add 136 (g1 UI (fun x => ([],.one (.fl (e1 (iE x))))))
theorem rE (c : Bool) (hB : TabOk prog (BF c)) : TabOk prog (pZ c):=(sM c hB).ad func136 (cM gR fun x hp args w ha => aV aG (sM c hB) cG func136 (OG c x) hp ha)
theorem YW (x : Q2) : dL prog (pZ true) qN (fun _ => true) f226 40 [.v (.fl (e2 x))] = some ([iE x ≠ F1.zero],.many [.fl (e2 (iZ x)),.im (.int .i64 0)]):=by kernel_rfl
theorem OH (x : Q2) : dL prog (pZ false) qN (fun _ => true) f226 40 [.v (.fl (e2 x))] = some ([iE x = F1.zero],.many [.fl (e2 F2.zero),.im (.int .i64 22)]):=by kernel_rfl
def Iv (c : Bool) (x : Q2) : List Prop × RV:=bif c then ([iE x ≠ F1.zero],.many [.fl (e2 (iZ x)),.im (.int .i64 0)]) else ([iE x = F1.zero],.many [.fl (e2 F2.zero),.im (.int .i64 22)])
theorem Uo (c : Bool) (hB : TabOk prog (BF c)) (x : Q2) (hp : aL (Iv c x).1) (args : List Value) (w : World) (ha : bD w [.v (.fl (e2 x))] args) : Good prog 226 (Iv c x).2 args w:=by
 cases c
 ·exact aV aG (rE false hB) cG func226 (OH x) hp ha
 ·exact aV aG (rE true hB) cG func226 (YW x) hp ha
def qA (c : Bool) : Tab:=(pZ c).add 226 (g1 UI (Iv c))
theorem pC (c : Bool) (hB : TabOk prog (BF c)) : TabOk prog (qA c):=(rE c hB).ad func226 (cM gR (Uo c hB))
def YH : Nat → List At → Option (List Q2)
 | 0,[] => some []
 | n + 1,.f a :: .f b :: r => match YH n r with | some l => some ((a,b) :: l) | none => none
 | _,_ => none
def Yy : List Q2 → List At
 | [] => []
 | x :: r => .f x.1 :: .f x.2 :: Yy r
theorem BL : ∀ {n : Nat} {l : List At} {x : List Q2},YH n l = some x → l = Yy x ∧ x.length = n
 | 0,[],x,h => by cases h; exact ⟨rfl,rfl⟩
 | n + 1,.f a :: .f b :: r,x,h => by
  unfold YH at h;split at h
  ·rename_i l hl;cases h;obtain ⟨h1,h2⟩:=BL hl;exact ⟨by rw [h1]; rfl,by rw [List.length_cons,h2]⟩
  ·cases h
 | 0,_ :: _,x,h => by cases h
 | n + 1,[],x,h => by cases h
 | n + 1,[_],x,h => by unfold YH at h; split at h <;> first | (cases h; done) | (rename_i heq; cases heq)
 | n + 1,.q _ :: _ :: _,x,h => by cases h
 | n + 1,.c _ :: _ :: _,x,h => by cases h
 | n + 1,.f _ :: .q _ :: _,x,h => by cases h
 | n + 1,.f _ :: .c _ :: _,x,h => by cases h
def Vu : List Q2 → List Q2 → Q2
 | [x],[y] => F2.mul x y
 | [x,y],[z,t] => F2.add (F2.mul x z) (F2.mul y t)
 | [x,y,z],[s,t,u] => F2.add (F2.add (F2.mul x s) (F2.mul y t)) (F2.mul z u)
 | _,_ => F2.zero
def aBE : gE
 | [.s l n m,.s l' n' m'] => bif Nat.beq n n' && (Nat.ble n 3 && Nat.ble 1 n) then (match YH n l,YH n' l' with
  | some x,some y => some ([],.one (.fl (e2 (Vu x y))))
  | _,_ => none) else none
 | _ => none
def sl2 : List Q2 → List Fq
 | [] => []
 | x :: r => x.1 :: F1.neg x.2 :: sl2 r
def cr2 : List Q2 → List Fq
 | [] => []
 | x :: r => x.2 :: x.1 :: cr2 r
def YP : List Q2 → List Fq
 | [] => []
 | x :: r => x.1 :: x.2 :: YP r
theorem Ey (c : Bool) (x s : Q2) (m m' : Nat) : dL prog (qA c) qN (fun _ => true) f158 40 [.s (Yy [x]) 1 m,.s (Yy [s]) 1 m'] = some ([],.one (.fl (e2 (pQ (sl2 [x]) (YP [s]),pQ (cr2 [x]) (YP [s]))))):=by kernel_rfl
theorem Ew (c : Bool) (x y s t : Q2) (m m' : Nat) : dL prog (qA c) qN (fun _ => true) f158 40 [.s (Yy [x,y]) 2 m,.s (Yy [s,t]) 2 m'] = some ([],.one (.fl (e2 (pQ (sl2 [x,y]) (YP [s,t]),pQ (cr2 [x,y]) (YP [s,t]))))):=by kernel_rfl
theorem Ev (c : Bool) (x y z s t u : Q2) (m m' : Nat) : dL prog (qA c) qN (fun _ => true) f158 40 [.s (Yy [x,y,z]) 3 m,.s (Yy [s,t,u]) 3 m'] = some ([],.one (.fl (e2 (pQ (sl2 [x,y,z]) (YP [s,t,u]),pQ (cr2 [x,y,z]) (YP [s,t,u]))))):=by kernel_rfl
theorem rK (x s : Q2) : (F2.mul x s).1 = F1.add (F1.mul x.1 s.1) (F1.mul (F1.neg x.2) s.2):=by
 show F1.add (F1.mul x.1 s.1) (F1.mul (F1.neg F1.one) (F1.mul x.2 s.2)) = _;rw [F1.neg_mul,F1.one_mul,F1.neg_mul]
theorem rJ (x s : Q2) : (F2.mul x s).2 = F1.add (F1.mul x.2 s.1) (F1.mul x.1 s.2):=F1.add_comm _ _
theorem Gp (x s : Q2) : Vu [x] [s] = (pQ (sl2 [x]) (YP [s]),pQ (cr2 [x]) (YP [s])):=Prod.ext (rK x s) (rJ x s)
theorem Gn (x y s t : Q2) : Vu [x,y] [s,t] = (pQ (sl2 [x,y]) (YP [s,t]),pQ (cr2 [x,y]) (YP [s,t])):=by
 refine Prod.ext ?_ ?_
 ·show F1.add (F2.mul x s).1 (F2.mul y t).1 = F1.add (F1.add (F1.add (F1.mul x.1 s.1) (F1.mul (F1.neg x.2) s.2)) (F1.mul y.1 t.1)) (F1.mul (F1.neg y.2) t.2);rw [rK,rK]; simp only [F1.add_assoc]
 ·show F1.add (F2.mul x s).2 (F2.mul y t).2 = F1.add (F1.add (F1.add (F1.mul x.2 s.1) (F1.mul x.1 s.2)) (F1.mul y.2 t.1)) (F1.mul y.1 t.2);rw [rJ,rJ]; simp only [F1.add_assoc]
theorem Gm (x y z s t u : Q2) : Vu [x,y,z] [s,t,u] = (pQ (sl2 [x,y,z]) (YP [s,t,u]),pQ (cr2 [x,y,z]) (YP [s,t,u])):=by
 refine Prod.ext ?_ ?_
 ·show F1.add (F1.add (F2.mul x s).1 (F2.mul y t).1) (F2.mul z u).1 = F1.add (F1.add (F1.add (F1.add (F1.add (F1.mul x.1 s.1) (F1.mul (F1.neg x.2) s.2)) (F1.mul y.1 t.1)) (F1.mul (F1.neg y.2) t.2)) (F1.mul z.1 u.1)) (F1.mul (F1.neg z.2) u.2);rw [rK,rK,rK]; simp only [F1.add_assoc]
 ·show F1.add (F1.add (F2.mul x s).2 (F2.mul y t).2) (F2.mul z u).2 = F1.add (F1.add (F1.add (F1.add (F1.add (F1.mul x.2 s.1) (F1.mul x.1 s.2)) (F1.mul y.2 t.1)) (F1.mul y.1 t.2)) (F1.mul z.2 u.1)) (F1.mul z.1 u.2);rw [rJ,rJ,rJ]; simp only [F1.add_assoc]
theorem aAq (c : Bool) (hB : TabOk prog (BF c)) : ∀ cs pre r,aBE cs = some (pre,r) → aL pre → ∀ (args : List Value) (w : World),bD w cs args → Good prog 158 r args w:=by
 intro cs pre r hg hp args w ha;unfold aBE at hg;split at hg
 ·rename_i l n m l' n' m';cases hb : (Nat.beq n n' && (Nat.ble n 3 && Nat.ble 1 n)) <;> rw [hb] at hg
  ·cases hg
  ·simp only [cond_true] at hg;split at hg
   ·rename_i x y hx hy;cases hg;obtain ⟨e1,e2⟩:=BL hx;obtain ⟨e3,e4⟩:=BL hy;subst e1; subst e3;simp only [Bool.and_eq_true] at hb;have hn:=Nat.eq_of_beq_eq_true hb.1;have h3:=Nat.le_of_ble_eq_true hb.2.1;have h1:=Nat.le_of_ble_eq_true hb.2.2;subst hn
    match x,y,n,e2,e4,h3,h1 with
    | [x],[s],1,_,_,_,_ =>
     rw [Gp];exact aV aG (pC c hB) cG func158 (Ey c x s m m') trivial ha
    | [x,y],[s,t],2,_,_,_,_ =>
     rw [Gn];exact aV aG (pC c hB) cG func158 (Ew c x y s t m m') trivial ha
    | [x,y,z],[s,t,u],3,_,_,_,_ =>
     rw [Gm];exact aV aG (pC c hB) cG func158 (Ev c x y z s t u m m') trivial ha
    | [],_,_,e2,_,_,h1 => exact absurd h1 (by rw [← e2]; decide)
    | _ :: _ :: _ :: _ :: l,_,_,e2,_,h3,_ => exact absurd h3 (by rw [← e2]; simp)
    | [_],[],_,e2,e4,_,_ => rw [← e2] at e4; cases e4
    | [_],_ :: _ :: _,_,e2,e4,_,_ => rw [← e2] at e4; simp at e4
    | [_,_],[],_,e2,e4,_,_ => rw [← e2] at e4; cases e4
    | [_,_],[_],_,e2,e4,_,_ => rw [← e2] at e4; cases e4
    | [_,_],_ :: _ :: _ :: _,_,e2,e4,_,_ => rw [← e2] at e4; simp at e4
    | [_,_,_],[],_,e2,e4,_,_ => rw [← e2] at e4; cases e4
    | [_,_,_],[_],_,e2,e4,_,_ => rw [← e2] at e4; cases e4
    | [_,_,_],[_,_],_,e2,e4,_,_ => rw [← e2] at e4; cases e4
    | [_,_,_],_ :: _ :: _ :: _ :: _,_,e2,e4,_,_ => rw [← e2] at e4; simp at e4
   ·cases hg
 ·cases hg
def SJ (c : Bool) : Tab:=(qA c).add 158 aBE
theorem UW (c : Bool) (hB : TabOk prog (BF c)) : TabOk prog (SJ c):=(pC c hB).ad func158 (aAq c hB)
theorem GW (c : Bool) (x : Q2) (y : Q2) : dL prog (SJ c) qN (fun _ => true) f129 40 [.v (.fl (e2 x)),.v (.fl (e2 y))] = some ([],.one (.fl (e2 (F2.mul x y)))):=by kernel_rfl
def rZ (c : Bool) : Tab:=(SJ c).add 129 (g2 UI UI (fun x y => ([],.one (.fl (e2 (F2.mul x y))))))
theorem vV (c : Bool) (hB : TabOk prog (BF c)) : TabOk prog (rZ c):=(UW c hB).ad func129 (iQ gR gR fun x y hp args w ha => aV aG (UW c hB) cG func129 (GW c x y) hp ha)
theorem YZ (c : Bool) (x : N2) : dL prog (rZ c) qN (fun _ => true) f100 40 [.v (.fl (q2 x))] = some ([],.one (.fl (e2 (m2 x)))):=by kernel_rfl
def uM (c : Bool) : Tab:=(rZ c).add 100 (g1 Ct (fun x => ([],.one (.fl (e2 (m2 x))))))
theorem vX (c : Bool) (hB : TabOk prog (BF c)) : TabOk prog (uM c):=(vV c hB).ad func100 (cM jO fun x hp args w ha => aV aG (vV c hB) cG func100 (YZ c x) hp ha)
inductive RE | v (i : Nat) | add (a b : RE) | mul (a b : RE) | neg (a : RE) | zero | one
section
variable {R : Type} (K : CR R) (env : Nat → R)
def RE.den : RE → R
 | .v i => env i
 | .add a b => K.add (a.den) (b.den)
 | .mul a b => K.mul (a.den) (b.den)
 | .neg a => K.neg a.den
 | .zero => K.zero
 | .one => K.one
def nt (x : R) : Nat → R
 | 0 => K.zero
 | n + 1 => K.add (nt x n) x
def zt (x : R) : Int → R
 | .ofNat n => nt K x n
 | .negSucc n => K.neg (nt K x (n + 1))
def mono : List Nat → R
 | [] => K.one
 | i :: r => K.mul (env i) (mono r)
def gU : List (Int × List Nat) → R
 | [] => K.zero
 | (c,m) :: r => K.add (zt K (mono K env m) c) (gU r)
end
def ltL : List Nat → List Nat → Bool
 | [],[] => false
 | [],_ :: _ => true
 | _ :: _,[] => false
 | a :: r,b :: s => bif Nat.blt a b then true else bif Nat.blt b a then false else ltL r s
def eqL : List Nat → List Nat → Bool
 | [],[] => true
 | a :: r,b :: s => bif Nat.beq a b then eqL r s else false
 | _,_ => false
theorem Lw : ∀ {a b : List Nat},eqL a b = true → a = b
 | [],[],_ => rfl
 | a :: r,b :: s,h => by
  unfold eqL at h;cases hb : Nat.beq a b <;> rw [hb] at h
  ·cases h
  ·rw [Nat.eq_of_beq_eq_true hb,Lw h]
 | [],_ :: _,h => by cases h
 | _ :: _,[],h => by cases h
def Ys (c : Int) (m : List Nat) : List (Int × List Nat) → List (Int × List Nat)
 | [] => [(c,m)]
 | (d,k) :: r => bif eqL m k then (c + d,k) :: r else bif ltL m k then (c,m) :: (d,k) :: r else (d,k) :: Ys c m r
def QK : List (Int × List Nat) → List (Int × List Nat) → List (Int × List Nat)
 | [],q => q
 | (c,m) :: r,q => Ys c m (QK r q)
def Bw (i : Nat) : List Nat → List Nat
 | [] => [i]
 | j :: r => bif Nat.ble i j then i :: j :: r else j :: Bw i r
def Jk : List Nat → List Nat → List Nat
 | [],m => m
 | i :: r,m => Bw i (Jk r m)
def JY (c : Int) (m : List Nat) : List (Int × List Nat) → List (Int × List Nat)
 | [] => []
 | (d,k) :: r => Ys (c * d) (Jk m k) (JY c m r)
def Hj : List (Int × List Nat) → List (Int × List Nat) → List (Int × List Nat)
 | [],_ => []
 | (c,m) :: r,q => QK (JY c m q) (Hj r q)
def Hi : List (Int × List Nat) → List (Int × List Nat)
 | [] => []
 | (c,m) :: r => (-c,m) :: Hi r
def RE.norm : RE → List (Int × List Nat)
 | .v i => [(1,[i])]
 | .add a b => QK a.norm b.norm
 | .mul a b => Hj a.norm b.norm
 | .neg a => Hi a.norm
 | .zero => []
 | .one => [(1,[])]
def isZ : List (Int × List Nat) → Bool
 | [] => true
 | (.ofNat 0,_) :: r => isZ r
 | _ => false
section
variable {R : Type} (K : CR R) (env : Nat → R)
theorem rG (x : R) (n : Nat) : ∀ m,nt K x (n + m) = K.add (nt K x n) (nt K x m)
 | 0 => (K.add_zero _).symm
 | m + 1 => by show K.add (nt K x (n + m)) x = _; rw [rG x n m,K.add_assoc]; rfl
theorem bM : K.neg K.zero = K.zero:=by
 apply K.add_cancel (a:=K.zero);rw [K.add_neg,K.add_zero]
theorem Cx (x : R) (n m : Nat) : zt K x (Int.subNatNat n m) = K.add (nt K x n) (K.neg (nt K x m)):=by
 unfold Int.subNatNat;split
 ·rename_i h;have : n = m + (n - m):=by omega
  show nt K x (n - m) = _
  conv => rhs; rw [this,rG]
  rw [K.add_comm (nt K x m),K.add_assoc,K.add_neg,K.add_zero]
 ·rename_i k h;have : m = n + (k + 1):=by omega
  show K.neg (nt K x (k + 1)) = K.add (nt K x n) (K.neg (nt K x m));rw [this,rG K x n (k + 1),K.neg_add' (nt K x n),← K.add_assoc,K.add_neg,K.zero_add]
theorem Cy (x : R) (a b : Int) : zt K x (a + b) = K.add (zt K x a) (zt K x b):=by
 cases a with
 | ofNat n =>
  cases b with
  | ofNat m => exact rG K x n m
  | negSucc m => exact Cx K x n (m + 1)
 | negSucc n =>
  cases b with
  | ofNat m => show zt K x (Int.subNatNat m (n + 1)) = _; rw [Cx,K.add_comm]; rfl
  | negSucc m =>
   show K.neg (nt K x (n + m + 1 + 1)) = K.add (K.neg (nt K x (n + 1))) (K.neg (nt K x (m + 1)));rw [← K.neg_add',← rG,show n + 1 + (m + 1) = n + m + 1 + 1 by omega]
theorem nS (x : R) (a : Int) : zt K x (-a) = K.neg (zt K x a):=by
 apply K.add_cancel (a:=zt K x a);rw [← Cy,K.add_neg,Int.add_right_neg];rfl
theorem QS (x y : R) (n : Nat) : ∀ m,K.mul (nt K x n) (nt K y m) = nt K (K.mul x y) (n * m)
 | 0 => K.mul_zero _
 | m + 1 => by
  show K.mul _ (K.add (nt K y m) y) = _;rw [K.mul_add,QS x y n m,Nat.mul_add,Nat.mul_one,rG];congr 1;clear QS
  induction n with
  | zero => exact K.zero_mul _
  | succ n ih => show K.mul (K.add (nt K x n) x) y = _; rw [K.add_mul,ih]; rfl
theorem Zn (x y : R) (a b : Int) : K.mul (zt K x a) (zt K y b) = zt K (K.mul x y) (a * b):=by
 have hn : ∀ (c : Int),∃ n : Nat,c = n ∨ c = -(n : Int):=fun c => ⟨c.natAbs,Int.natAbs_eq c⟩
 have h0 : ∀ n m : Nat,K.mul (zt K x n) (zt K y m) = zt K (K.mul x y) ((n : Int) * m):=fun n m => by
  rw [← Int.natCast_mul]; exact QS K x y n m
 obtain ⟨n,rfl | rfl⟩:=hn a
 ·obtain ⟨m,rfl | rfl⟩:=hn b
  ·exact h0 n m
  ·rw [nS,K.mul_neg,h0,Int.mul_neg,nS]
 ·obtain ⟨m,rfl | rfl⟩:=hn b
  ·rw [nS,K.neg_mul,h0,Int.neg_mul,nS]
  ·rw [nS,nS,K.neg_mul,K.mul_neg,K.neg_neg,h0,Int.neg_mul_neg]
theorem DX (c : Int) (m : List Nat) : ∀ q,gU K env (Ys c m q) = K.add (zt K (mono K env m) c) (gU K env q)
 | [] => rfl
 | (d,k) :: r => by
  unfold Ys;cases he : eqL m k
  ·cases hl : ltL m k
   ·show K.add (zt K (mono K env k) d) (gU K env (Ys c m r)) = K.add _ (K.add _ _);rw [DX c m r,K.add_left_comm]
   ·rfl
  ·rw [Lw he];show K.add (zt K (mono K env k) (c + d)) (gU K env r) = K.add _ (K.add _ _);rw [Cy,K.add_assoc]
theorem vS : ∀ p q,gU K env (QK p q) = K.add (gU K env p) (gU K env q)
 | [],q => (K.zero_add _).symm
 | (c,m) :: r,q => by
  show gU K env (Ys c m (QK r q)) = K.add (K.add _ _) _;rw [DX,vS r q,K.add_assoc]
theorem LK (i : Nat) : ∀ m,mono K env (Bw i m) = K.mul (env i) (mono K env m)
 | [] => rfl
 | j :: r => by
  unfold Bw;cases Nat.ble i j
  ·show K.mul (env j) (mono K env (Bw i r)) = K.mul _ (K.mul _ _);rw [LK i r,K.mul_left_comm]
  ·rfl
theorem KW : ∀ m k,mono K env (Jk m k) = K.mul (mono K env m) (mono K env k)
 | [],k => (K.one_mul _).symm
 | i :: r,k => by
  show mono K env (Bw i (Jk r k)) = K.mul (K.mul _ _) _;rw [LK,KW r k,K.mul_assoc]
theorem zO (c : Int) (m : List Nat) : ∀ q,gU K env (JY c m q) = K.mul (zt K (mono K env m) c) (gU K env q)
 | [] => (K.mul_zero _).symm
 | (d,k) :: r => by
  show gU K env (Ys (c * d) (Jk m k) (JY c m r)) = K.mul _ (K.add _ _);rw [DX,zO c m r,K.mul_add,KW,Zn]
theorem JX : ∀ p q,gU K env (Hj p q) = K.mul (gU K env p) (gU K env q)
 | [],q => (K.zero_mul _).symm
 | (c,m) :: r,q => by
  show gU K env (QK (JY c m q) (Hj r q)) = K.mul (K.add _ _) _;rw [vS,zO,JX r q,K.add_mul]
theorem JW : ∀ p,gU K env (Hi p) = K.neg (gU K env p)
 | [] => (bM K).symm
 | (c,m) :: r => by
  show K.add (zt K (mono K env m) (-c)) (gU K env (Hi r)) = K.neg (K.add _ _);rw [JW r,K.neg_add',nS]
theorem kD : ∀ e : RE,gU K env e.norm = e.den K env
 | .v i => by show K.add (K.add K.zero (K.mul (env i) K.one)) K.zero = env i; rw [K.add_zero,K.zero_add,K.mul_one]
 | .add a b => by show gU K env (QK _ _) = K.add _ _; rw [vS,kD a,kD b]
 | .mul a b => by show gU K env (Hj _ _) = K.mul _ _; rw [JX,kD a,kD b]
 | .neg a => by show gU K env (Hi _) = K.neg _; rw [JW,kD a]
 | .zero => rfl
 | .one => by show K.add (K.add K.zero K.one) K.zero = K.one; rw [K.add_zero,K.zero_add]
theorem WE : ∀ p,isZ p = true → gU K env p = K.zero
 | [],_ => rfl
 | (.ofNat 0,m) :: r,h => by
  show K.add K.zero (gU K env r) = _;rw [K.zero_add];exact WE r h
 | (.ofNat (_ + 1),_) :: _,h => by cases h
 | (.negSucc _,_) :: _,h => by cases h
theorem aN (a b : RE) (h : isZ (RE.norm (.add a (.neg b))) = true) : a.den K env = b.den K env:=by
 have:=WE K env _ h;rw [kD] at this;have h2 : K.add (K.add (a.den K env) (K.neg (b.den K env))) (b.den K env) = K.add K.zero (b.den K env):=congrArg (fun x => K.add x (b.den K env)) this
 rwa [K.add_assoc,K.neg_add,K.add_zero,K.zero_add] at h2
end
def bX {R : Type} (K : CR R) (l : List R) (i : Nat) : R:=(l[i]?).getD K.zero
def Iu (c : Bool) (x : N2) : List Prop × RV:=bif c then ([iE (m2 x) ≠ F1.zero],.many [.fl (e2 (iZ (m2 x))),.im (.int .i64 0)]) else ([iE (m2 x) = F1.zero],.many [.fl (e2 F2.zero),.im (.int .i64 22)])
theorem yS (x : N2) : dL prog (uM true) qN (fun _ => true) f224 40 [.v (.fl (q2 x))] = some ([iE (m2 x) ≠ F1.zero],.many [.fl (e2 (iZ (m2 x))),.im (.int .i64 0)]):=by kernel_rfl
theorem vG (x : N2) : dL prog (uM false) qN (fun _ => true) f224 40 [.v (.fl (q2 x))] = some ([iE (m2 x) = F1.zero],.many [.fl (e2 F2.zero),.im (.int .i64 22)]):=by kernel_rfl
theorem It (c : Bool) (hB : TabOk prog (BF c)) (x : N2) (hp : aL (Iu c x).1) (args : List Value) (w : World) (ha : bD w [.v (.fl (q2 x))] args) : Good prog 224 (Iu c x).2 args w:=by
 cases c
 ·exact aV aG (vX false hB) cG func224 (vG x) hp ha
 ·exact aV aG (vX true hB) cG func224 (yS x) hp ha
def SZ (c : Bool) : Tab:=(uM c).add 224 (g1 Ct (Iu c))
theorem VM (c : Bool) (hB : TabOk prog (BF c)) : TabOk prog (SZ c):=(vX c hB).ad func224 (cM jO (It c hB))
theorem Ga (c : Bool) (x : N2) (y : N2) : dL prog (SZ c) qN (fun _ => true) f89 40 [.v (.fl (q2 x)),.v (.fl (q2 y))] = some ([],.one (.fl (e2 (F2.mul (m2 x) (m2 y))))):=by kernel_rfl
def SY (c : Bool) : Tab:=(SZ c).add 89 (g2 Ct Ct (fun x y => ([],.one (.fl (e2 (F2.mul (m2 x) (m2 y)))))))
theorem VL (c : Bool) (hB : TabOk prog (BF c)) : TabOk prog (SY c):=(VM c hB).ad func89 (iQ jO jO fun x y hp args w ha => aV aG (VM c hB) cG func89 (Ga c x y) hp ha)
theorem Fz (c : Bool) (x : N2) : dL prog (SY c) qN (fun _ => true) f66 40 [.v (.fl (q2 x))] = some ([],.one (.fl (e2 (F2.sub F2.zero (m2 x))))):=by kernel_rfl
def yE (c : Bool) : Tab:=(SY c).add 66 (g1 Ct (fun x => ([],.one (.fl (e2 (F2.sub F2.zero (m2 x)))))))
theorem Tk (c : Bool) (hB : TabOk prog (BF c)) : TabOk prog (yE c):=(VL c hB).ad func66 (cM jO fun x hp args w ha => aV aG (VL c hB) cG func66 (Fz c x) hp ha)
end Go.Proofs.YtfnkbmlmgnadmaaGreat.Ex
namespace Go.Proofs.YtfnkbmlmgnadmaaGreat
open Go.Proofs.Tryz
theorem EE : Root FP.M 3:=by
 rw [show FP.M = 21888242871839275222246405745257275088696311157297823662689037894645226208583 from by decide];exact Gj
end Go.Proofs.YtfnkbmlmgnadmaaGreat
namespace Go.Proofs.YtfnkbmlmgnadmaaGreat.Ex
open Go.Proofs.Tryz
def Fld {R : Type} (K : CR R) : Prop:=K.one ≠ K.zero ∧ ∀ x,x ≠ K.zero → ∃ y,K.mul x y = K.one
theorem Fld.zd {R : Type} {K : CR R} (h : Fld K) {a b : R} (e : K.mul a b = K.zero) (ha : a ≠ K.zero) : b = K.zero:=by
 obtain ⟨y,hy⟩:=h.2 a ha;have:=congrArg (K.mul y) e
 rwa [← K.mul_assoc,K.mul_comm y,hy,K.one_mul,K.mul_zero] at this
theorem Qa {R : Type} {K : CR R} (h : Fld K) {a : R} (e : K.mul a a = K.zero) : a = K.zero:=by
 by_cases ha : a = K.zero
 ·exact ha
 ·exact h.zd e ha
theorem XZ : F1.one ≠ F1.zero:=fun h => by have:=congrArg Fin.val h; exact absurd this (by decide)
theorem aFF {x : Fq} (h : x ≠ F1.zero) : 0 < x.1:=by
 rcases Nat.eq_zero_or_pos x.1 with h0 | h0
 ·exact absurd (Fin.ext h0 : x = F1.zero) h
 ·exact h0
theorem mH {x : Fq} (h : x ≠ F1.zero) : F1.mul x (gY x) = F1.one:=by
 apply Fin.ext;show x.1 * (gY x).1 % FP.M = 1;rw [wW,Nat.one_mul];exact WF EE (by decide) (aFF h) x.2
theorem LZ : Fld F1:=⟨XZ,fun x h => ⟨_,mH h⟩⟩
theorem aFG {n : Nat} (h0 : 0 < n) (h : n < FP.M) : n ^ (FP.M - 1) % FP.M = 1:=EG EE h0 h
def rD : Nat:=(FP.M - 1) / 3
def Hs : Nat:=(FP.M - 1) / 2
theorem Dz : 3 * rD = FP.M - 1:=by decide
theorem Us : 2 * Hs = FP.M - 1:=by decide
theorem Ts : (FP.M - 1) ^ Hs % FP.M ≠ 1:=by
 rw [← zP FP.M 256 (FP.M - 1) Hs (by decide)];exact of_decide_eq_true (by kernel_rfl)
theorem QT (n : Fq) : F1.mul n n ≠ F1.neg F1.one:=fun h => by
 have hv : n.1 ^ 2 % FP.M = FP.M - 1:=by
  have:=congrArg Fin.val h;have e : n.1 * n.1 % FP.M = (0 + FP.M - 1) % FP.M:=this;rw [Nat.pow_two,e]; decide
 have h0 : 0 < n.1:=by
  rcases Nat.eq_zero_or_pos n.1 with h0 | h0
  ·rw [h0] at hv; exact absurd hv (by decide)
  ·exact h0
 have:=aFG h0 n.2;rw [← Us,Nat.pow_mul,Nat.pow_mod,hv] at this;exact Ts this
theorem Mc {R : Type} {K : CR R} (h : Fld K) {a b q : R} (hb : b ≠ K.zero) (e : K.mul a a = K.mul q (K.mul b b)) : ∃ t,K.mul t t = q:=by
 obtain ⟨y,hy⟩:=h.2 b hb;refine ⟨K.mul a y,?_⟩;have h1 : K.mul (K.mul a y) (K.mul a y) = K.mul (K.mul a a) (K.mul y y):=aN K (bX K [a,y]) (.mul (.mul (.v 0) (.v 1)) (.mul (.v 0) (.v 1))) (.mul (.mul (.v 0) (.v 0)) (.mul (.v 1) (.v 1))) (by decide);have h2 : K.mul (K.mul q (K.mul b b)) (K.mul y y) = K.mul q (K.mul (K.mul b y) (K.mul b y)):=aN K (bX K [q,b,y]) (.mul (.mul (.v 0) (.mul (.v 1) (.v 1))) (.mul (.v 2) (.v 2))) (.mul (.v 0) (.mul (.mul (.v 1) (.v 2)) (.mul (.v 1) (.v 2)))) (by decide);rw [h1,e,h2,hy,K.mul_one,K.mul_one]
theorem pE {x : Q2} (h : iE x = F1.zero) : x = F2.zero:=by
 have h1 : F1.mul x.1 x.1 = F1.mul (F1.neg F1.one) (F1.mul x.2 x.2):=by
  rw [F1.neg_mul,F1.one_mul];apply F1.add_cancel (a:=F1.mul x.2 x.2);rw [F1.add_neg,F1.add_comm];exact h
 by_cases hb : x.2 = F1.zero
 ·rw [hb,F1.mul_zero,F1.mul_zero] at h1;exact Prod.ext (Qa LZ h1) hb
 ·obtain ⟨t,ht⟩:=Mc LZ hb h1;exact absurd ht (QT t)
theorem TG {x : Q2} (h : iE x ≠ F1.zero) : F2.mul x (iZ x) = F2.one:=by
 have hi:=mH h;refine Prod.ext ?_ ?_
 ·show F1.add (F1.mul x.1 (F1.mul x.1 (gY (iE x)))) (F1.mul (F1.neg F1.one) (F1.mul x.2 (F1.mul (F1.neg x.2) (gY (iE x))))) = F1.one;refine Eq.trans ?_ hi;exact aN F1 (bX F1 [x.1,x.2,gY (iE x)]) (.add (.mul (.v 0) (.mul (.v 0) (.v 2))) (.mul (.neg .one) (.mul (.v 1) (.mul (.neg (.v 1)) (.v 2))))) (.mul (.add (.mul (.v 0) (.v 0)) (.mul (.v 1) (.v 1))) (.v 2)) (by decide)
 ·show F1.add (F1.mul x.1 (F1.mul (F1.neg x.2) (gY (iE x)))) (F1.mul x.2 (F1.mul x.1 (gY (iE x)))) = F1.zero;exact aN F1 (bX F1 [x.1,x.2,gY (iE x)]) (.add (.mul (.v 0) (.mul (.neg (.v 1)) (.v 2))) (.mul (.v 1) (.mul (.v 0) (.v 2)))) .zero (by decide)
theorem aCh : Fld F2:=⟨fun h => XZ (congrArg Prod.fst h),fun x h => ⟨_,TG fun e => h (pE e)⟩⟩
theorem DH (x y : Q2) : iE (F2.mul x y) = F1.mul (iE x) (iE y) :=
 aN F1 (bX F1 [x.1,x.2,y.1,y.2]) (.add (.mul (.add (.mul (.v 0) (.v 2)) (.mul (.neg .one) (.mul (.v 1) (.v 3)))) (.add (.mul (.v 0) (.v 2)) (.mul (.neg .one) (.mul (.v 1) (.v 3))))) (.mul (.add (.mul (.v 0) (.v 3)) (.mul (.v 1) (.v 2))) (.add (.mul (.v 0) (.v 3)) (.mul (.v 1) (.v 2)))))
  (.mul (.add (.mul (.v 0) (.v 0)) (.mul (.v 1) (.v 1))) (.add (.mul (.v 2) (.v 2)) (.mul (.v 3) (.v 3)))) (by decide)
open Go.RowKit
theorem Yp (x : Fq) : m1 x.1 = x:=Fin.ext (by show wv x.1 % FP.M = x.1; unfold wv; rw [aZ x.2,Nat.mod_eq_of_lt x.2])
def z0 : At:=.f F1.zero
theorem Il (c : Bool) : TabOk prog (yE c):=Tk c (Tj c)
def vl : At → Option Fq
 | .f x => some x
 | .q x => some (m1 x)
 | .c _ => none
def vls : List At → Option (List Fq)
 | [] => some []
 | a :: r => match vl a,vls r with | some x,some l => some (x :: l) | _,_ => none
def rv1 (l : List At) : Option Fq:=match vls l with | some [a] => some a | _ => none
def sI (l : List At) : Option Q2:=match vls l with | some [a,b] => some (a,b) | _ => none
def Rdv {α γ : Type} (rd : List At → Option α) (qn : γ → List At) (mm : γ → α) : Prop:=∀ l x,rd l = some x → ∃ n,aA l = aA (qn n) ∧ mm n = x
theorem NL : ∀ {l : List At} {m : List Fq},vls l = some m → ∃ ns : List Nat,aA l = aA (ns.map At.q) ∧ ns.map m1 = m
 | [],m,h => by cases h; exact ⟨[],rfl,rfl⟩
 | a :: r,m,h => by
  unfold vls at h;split at h
  ·rename_i x l' h1 h2;cases h;obtain ⟨ns,e1,e2⟩:=NL h2;cases a with
   | f y => cases h1; exact ⟨x.1 :: ns,by show w4 x.1 ++ aA r = w4 x.1 ++ aA (ns.map At.q); rw [e1],by rw [List.map_cons,e2,Yp]⟩
   | q y => cases h1; exact ⟨y :: ns,by show w4 y ++ aA r = w4 y ++ aA (ns.map At.q); rw [e1],by rw [List.map_cons,e2]⟩
   | c v => cases h1
  ·cases h
theorem Et : Rdv rv1 q1 m1:=fun l x h => by
 unfold rv1 at h;split at h
 ·rename_i a hn;cases h;obtain ⟨ns,e1,e2⟩:=NL hn
  match ns,e2 with
  | [n],e2 => cases e2; exact ⟨n,e1,rfl⟩
 ·cases h
theorem cO : Rdv sI q2 m2:=fun l x h => by
 unfold sI at h;split at h
 ·rename_i a b hn;cases h;obtain ⟨ns,e1,e2⟩:=NL hn
  match ns,e2 with
  | [n,m],e2 => cases e2; exact ⟨(n,m),e1,rfl⟩
 ·cases h
theorem jQ {P : Program} {f : FuncId} {α γ : Type} {rd : List At → Option α} {qn : γ → List At} {mm : γ → α} (hr : Rdv rd qn mm) {op : α → List Prop × RV} (h : ∀ x,aL (op (mm x)).1 → ∀ args w,bD w [.v (.fl (qn x))] args → Good P f (op (mm x)).2 args w) :
  ∀ cs pre r,g1 rd op cs = some (pre,r) → aL pre → ∀ (args : List Value) (w : World),bD w cs args → Good P f r args w:=by
 intro cs pre r hg hp args w ha;unfold g1 at hg;split at hg
 ·rename_i l;split at hg
  ·rename_i x hx;obtain ⟨n,e1,rfl⟩:=hr l x hx;have e : op (mm n) = (pre,r):=by simpa using hg
   have:=h n (by rw [e]; exact hp) args w (by
    rw [sV ha,e1];exact ⟨rfl,trivial⟩)
   rw [e] at this;exact this
  ·cases hg
 ·cases hg
theorem mG {P : Program} {f : FuncId} {α γ α' γ' : Type} {rd : List At → Option α} {qn : γ → List At} {mm : γ → α} {rd' : List At → Option α'} {qn' : γ' → List At} {mm' : γ' → α'} (hr : Rdv rd qn mm) (hr' : Rdv rd' qn' mm') {op : α → α' → List Prop × RV}
  (h : ∀ x y,aL (op (mm x) (mm' y)).1 → ∀ args w,bD w [.v (.fl (qn x)),.v (.fl (qn' y))] args → Good P f (op (mm x) (mm' y)).2 args w) :
  ∀ cs pre r,g2 rd rd' op cs = some (pre,r) → aL pre → ∀ (args : List Value) (w : World),bD w cs args → Good P f r args w:=by
 intro cs pre r hg hp args w ha;unfold g2 at hg;split at hg
 ·rename_i l m;split at hg
  ·rename_i x y hx hy;obtain ⟨n,e1,rfl⟩:=hr l x hx;obtain ⟨n',e2,rfl⟩:=hr' m y hy;have e : op (mm n) (mm' n') = (pre,r):=by simpa using hg
   have:=h n n' (by rw [e]; exact hp) args w (by
    rw [XT ha,e1,e2];exact ⟨rfl,rfl,trivial⟩)
   rw [e] at this;exact this
  ·cases hg
 ·cases hg
end Go.Proofs.YtfnkbmlmgnadmaaGreat.Ex
namespace Go.Proofs.YtfnkbmlmgnadmaaGreat
open Go.Proofs.Tryz
open Go.RowKit
def YE (a0 a1 a2 a3 a4 a5 a6 a7 : Nat) : Nat:=a0 + 4294967296 * (a1 + 4294967296 * (a2 + 4294967296 * (a3 + 4294967296 * (a4 + 4294967296 * (a5 + 4294967296 * (a6 + 4294967296 * a7))))))
def ok8 (a0 a1 a2 a3 a4 a5 a6 a7 : Nat) : Prop:=a0 < 4294967296 ∧ a1 < 4294967296 ∧ a2 < 4294967296 ∧ a3 < 4294967296 ∧ a4 < 4294967296 ∧ a5 < 4294967296 ∧ a6 < 4294967296 ∧ a7 < 4294967296
structure QW (w wr : World) (A B P : Nat → Nat) : Prop where
 below : Below w.heap.size w wr
 size : w.heap.size + 1 + 1 + 1 < wr.heap.size
 rowA : RowIs wr w.heap.size 4 A
 rowB : RowIs wr (w.heap.size + 1) 4 B
 rowR : RowIs wr (w.heap.size + 1 + 1) 4 (fun _ => 0)
 rowP : RowIs wr (w.heap.size + 1 + 1 + 1) 4 P
theorem QW.set {w wr : World} {A B P : Nat → Nat} (h : QW w wr A B P) {k d : Nat} (hk : k < 4) : QW w (wr.setCell ⟨w.heap.size + 1 + 1 + 1,k,none⟩ (.int .u64 (d : Nat))) A B (yL P k d) :=
 ⟨h.below.setCell (p:=⟨w.heap.size + 1 + 1 + 1,k,none⟩) (by simp; omega) _,by rw [World.size_setCell]; exact h.size,h.rowA.other (by omega) _,h.rowB.other (by omega) _,h.rowR.other (by omega) _,h.rowP.set hk⟩
theorem QW.drewN {w wr : World} {A B P : Nat → Nat} (h : QW w wr A B P) (n : Nat) : QW w (wr.drewN n) A B P:=⟨h.below.trans (bB _ _ _),h.size,h.rowA,h.rowB,h.rowR,h.rowP⟩
theorem QW.start (w : World) (a0 a1 a2 a3 b0 b1 b2 b3 : Nat) (t : TypeId) : QW w ((((w.alloc (.cells #[.int .u64 a0,.int .u64 a1,.int .u64 a2,.int .u64 a3] t)).alloc (.cells #[.int .u64 b0,.int .u64 b1,.int .u64 b2,.int .u64 b3] t)).alloc (.cells #[.int .u64 0,.int .u64 0,.int .u64 0,.int .u64 0] t)).alloc (.cells #[.int .u64 0,.int .u64 0,.int .u64 0,.int .u64 0] t)) (eO [a0,a1,a2,a3]) (eO [b0,b1,b2,b3]) (fun _ => 0):=by
 refine ⟨?_,by simp,?_,?_,?_,?_⟩
 ·repeat (first | exact Below.refl _ _ | refine Below.alloc ?_ (by first | (simp; done) | (simp; omega)) _)
 ·exact RowIs.mk4 (by simp [go_sem]) (by simp [go_sem]) (by simp [go_sem]) (by simp [go_sem]) (fun k => by simp [go_sem])
 ·exact RowIs.mk4 (by simp [go_sem]) (by simp [go_sem]) (by simp [go_sem]) (by simp [go_sem]) (fun k => by simp [go_sem])
 ·intro k hk
  match k,hk with
  | 0,_ | 1,_ | 2,_ | 3,_ => exact ⟨by simp [go_sem],by simp [go_sem]⟩
 ·intro k hk
  match k,hk with
  | 0,_ | 1,_ | 2,_ | 3,_ => exact ⟨by simp [go_sem],by simp [go_sem]⟩
def Pa (A : Nat) (t : Value) : Prop:=∃ x0 x1 x2 x3 x4 x5 x6 x7 : Nat,t = .agg #[.int .u64 x0,.int .u64 x1,.int .u64 x2,.int .u64 x3,.int .u64 x4,.int .u64 x5,.int .u64 x6,.int .u64 x7] ∧ ok8 x0 x1 x2 x3 x4 x5 x6 x7 ∧ Hid (YE x0 x1 x2 x3 x4 x5 x6 x7 = A)
def TE (wr u : World) (t : Value) : Prop:=∃ p,t = .pointer (some ⟨p,0,none⟩) ∧ wr.heap.size ≤ p ∧ p < u.heap.size ∧ RowIs u p 8 (fun _ => 0)
def set8 (w : World) (b : Nat) (d0 d1 d2 d3 d4 d5 d6 d7 : Nat) : World :=
 (((((((w.setCell ⟨b,0,none⟩ (.int .u64 d0)).setCell ⟨b,1,none⟩ (.int .u64 d1)).setCell ⟨b,2,none⟩ (.int .u64 d2)).setCell ⟨b,3,none⟩ (.int .u64 d3)).setCell ⟨b,4,none⟩ (.int .u64 d4)).setCell ⟨b,5,none⟩ (.int .u64 d5)).setCell ⟨b,6,none⟩ (.int .u64 d6)).setCell ⟨b,7,none⟩ (.int .u64 d7)
theorem RowIs.ext {w : World} {b n : Nat} {P R : Nat → Nat} (h : RowIs w b n P) (e : ∀ k,k < n → P k = R k) : RowIs w b n R:=fun k hk => ⟨by rw [← e k hk]; exact h.cell hk,h.free hk⟩
theorem RowIs.set8 {w : World} {b : Nat} {P : Nat → Nat} (h : RowIs w b 8 P) (d0 d1 d2 d3 d4 d5 d6 d7 : Nat) : RowIs (Go.Proofs.YtfnkbmlmgnadmaaGreat.set8 w b d0 d1 d2 d3 d4 d5 d6 d7) b 8 (eO [d0,d1,d2,d3,d4,d5,d6,d7]):=by
 have r:=(((((((h.set (show 0 < 8 by omega) (v:=d0)).set (show 1 < 8 by omega) (v:=d1)).set (show 2 < 8 by omega) (v:=d2)).set (show 3 < 8 by omega) (v:=d3)).set (show 4 < 8 by omega) (v:=d4)).set (show 5 < 8 by omega) (v:=d5)).set (show 6 < 8 by omega) (v:=d6)).set (show 7 < 8 by omega) (v:=d7);unfold Go.Proofs.YtfnkbmlmgnadmaaGreat.set8;refine r.ext fun k hk => ?_
 match k,hk with
 | 0,_ | 1,_ | 2,_ | 3,_ | 4,_ | 5,_ | 6,_ | 7,_ => rfl
theorem RowIs.set8_other {w : World} {b c n : Nat} {P : Nat → Nat} (h : RowIs w b n P) (hc : c ≠ b) (d0 d1 d2 d3 d4 d5 d6 d7 : Nat) : RowIs (Go.Proofs.YtfnkbmlmgnadmaaGreat.set8 w c d0 d1 d2 d3 d4 d5 d6 d7) b n P :=
 (((((((h.other hc _).other hc _).other hc _).other hc _).other hc _).other hc _).other hc _).other hc _
theorem oF {B : Nat} {w w' : World} {b : Nat} (h : Below B w w') (hb : B ≤ b) (d0 d1 d2 d3 d4 d5 d6 d7 : Nat) : Below B w (set8 w' b d0 d1 d2 d3 d4 d5 d6 d7) :=
 (((((((h.setCell (p:=⟨b,0,none⟩) hb _).setCell (p:=⟨b,1,none⟩) hb _).setCell (p:=⟨b,2,none⟩) hb _).setCell (p:=⟨b,3,none⟩) hb _).setCell (p:=⟨b,4,none⟩) hb _).setCell (p:=⟨b,5,none⟩) hb _).setCell (p:=⟨b,6,none⟩) hb _).setCell (p:=⟨b,7,none⟩) hb _
theorem eF (w : World) (b d0 d1 d2 d3 d4 d5 d6 d7 : Nat) : (set8 w b d0 d1 d2 d3 d4 d5 d6 d7).heap.size = w.heap.size:=by
 unfold set8; simp only [World.size_setCell]
theorem wR {x0 x1 x2 x3 x4 x5 x6 x7 : Nat} (h : ok8 x0 x1 x2 x3 x4 x5 x6 x7) (k : Nat) : eO [x0,x1,x2,x3,x4,x5,x6,x7] k < 4294967296:=by
 obtain ⟨h0,h1,h2,h3,h4,h5,h6,h7⟩:=h;unfold eO
 match k with
 | 0 => exact h0
 | 1 => exact h1
 | 2 => exact h2
 | 3 => exact h3
 | 4 => exact h4
 | 5 => exact h5
 | 6 => exact h6
 | 7 => exact h7
 | k + 8 => simp
theorem uR (P : Nat → Nat) : YE (P 0) (P 1) (P 2) (P 3) (P 4) (P 5) (P 6) (P 7) = jU 4294967296 P 8:=by
 unfold YE;simp only [jU];omega
structure R3 (got : Nat → Bool) (wr : World) (f : Int) (F : FC) (a0 a1 a2 a3 b0 b1 b2 b3 : Nat) (t7 t8 t9 s21 s22 s23 s24 s25 s26 s27 : Value) (u : World) : Prop where
 below : Below wr.heap.size wr u
 g0 : got 0 = true → s21 = .agg #[.int .u64 a0,.int .u64 a1,.int .u64 a2,.int .u64 a3]
 g1 : got 1 = true → Pa (aC a0 a1 a2 a3) s22
 g2 : got 2 = true → s23 = .agg #[.int .u64 b0,.int .u64 b1,.int .u64 b2,.int .u64 b3]
 g3 : got 3 = true → Pa (aC b0 b1 b2 b3) s24
 g4 : got 4 = true → s25 = .int .i64 f
 g5 : got 5 = true → s26 = .agg #[.int .u64 F.m0,.int .u64 F.m1,.int .u64 F.m2,.int .u64 F.m3]
 g6 : got 6 = true → Pa F.M s27
 g7 : got 7 = true → TE wr u t7
 g8 : got 8 = true → TE wr u t8
 g9 : got 9 = true → TE wr u t9
 n78 : got 7 = true → got 8 = true → t7 ≠ t8
 n79 : got 7 = true → got 9 = true → t7 ≠ t9
 n89 : got 8 = true → got 9 = true → t8 ≠ t9
section
variable {got : Nat → Bool} {wr u u' : World} {f : Int} {F : FC} {a0 a1 a2 a3 b0 b1 b2 b3 : Nat} {t7 t8 t9 s21 s22 s23 s24 s25 s26 s27 : Value}
theorem R3.start (wr : World) (f : Int) (F : FC) (a0 a1 a2 a3 b0 b1 b2 b3 : Nat) : R3 (fun _ => false) wr f F a0 a1 a2 a3 b0 b1 b2 b3 undef undef undef undef undef undef undef undef undef undef wr.drew :=
 ⟨(Below.refl _ _).drew,fun h => Bool.noConfusion h,fun h => Bool.noConfusion h,fun h => Bool.noConfusion h,fun h => Bool.noConfusion h,fun h => Bool.noConfusion h,fun h => Bool.noConfusion h,fun h => Bool.noConfusion h,fun h => Bool.noConfusion h,fun h => Bool.noConfusion h,fun h => Bool.noConfusion h,fun h => Bool.noConfusion h,fun h => Bool.noConfusion h,fun h => Bool.noConfusion h⟩
end
structure ThreeH (wr u : World) (p q r : Nat) (X Y Z : Nat → Nat) (A B M : Nat) : Prop where
 below : Below wr.heap.size wr u
 lp : wr.heap.size ≤ p
 lq : wr.heap.size ≤ q
 lr : wr.heap.size ≤ r
 up : p < u.heap.size
 uq : q < u.heap.size
 ur : r < u.heap.size
 pq : p ≠ q
 pr : p ≠ r
 qr : q ≠ r
 rowX : RowIs u p 8 X
 rowY : RowIs u q 8 Y
 rowZ : RowIs u r 8 Z
 ltX : ∀ k,X k < 4294967296
 ltY : ∀ k,Y k < 4294967296
 ltZ : ∀ k,Z k < 4294967296
 eX : jU 4294967296 X 8 = A
 eY : jU 4294967296 Y 8 = B
 eZ : jU 4294967296 Z 8 = M
theorem ThreeH.store {wr u : World} {p q r A B M x0 x1 x2 x3 x4 x5 x6 x7 y0 y1 y2 y3 y4 y5 y6 y7 z0 z1 z2 z3 z4 z5 z6 z7 : Nat} (hx : ok8 x0 x1 x2 x3 x4 x5 x6 x7) (hy : ok8 y0 y1 y2 y3 y4 y5 y6 y7) (hz : ok8 z0 z1 z2 z3 z4 z5 z6 z7) (ex : Hid (YE x0 x1 x2 x3 x4 x5 x6 x7 = A)) (ey : Hid (YE y0 y1 y2 y3 y4 y5 y6 y7 = B)) (ez : Hid (YE z0 z1 z2 z3 z4 z5 z6 z7 = M))
  (lp : wr.heap.size ≤ p) (lq : wr.heap.size ≤ q) (lr : wr.heap.size ≤ r) (up : p < u.heap.size) (uq : q < u.heap.size) (ur : r < u.heap.size) (pq : p ≠ q) (pr : p ≠ r) (qr : q ≠ r) (rp : RowIs u p 8 (fun _ => 0)) (rq : RowIs u q 8 (fun _ => 0)) (rr : RowIs u r 8 (fun _ => 0)) (hbl : Below wr.heap.size wr u) :
  ThreeH wr (set8 (set8 (set8 u p x0 x1 x2 x3 x4 x5 x6 x7) q y0 y1 y2 y3 y4 y5 y6 y7) r z0 z1 z2 z3 z4 z5 z6 z7) p q r (eO [x0,x1,x2,x3,x4,x5,x6,x7]) (eO [y0,y1,y2,y3,y4,y5,y6,y7]) (eO [z0,z1,z2,z3,z4,z5,z6,z7]) A B M :=
 ⟨oF (oF (oF hbl lp _ _ _ _ _ _ _ _) lq _ _ _ _ _ _ _ _) lr _ _ _ _ _ _ _ _,lp,lq,lr,by rw [eF,eF,eF]; exact up,by rw [eF,eF,eF]; exact uq,by rw [eF,eF,eF]; exact ur,pq,pr,qr,
  ((rp.set8 _ _ _ _ _ _ _ _).set8_other (fun e => pq e.symm) _ _ _ _ _ _ _ _).set8_other (fun e => pr e.symm) _ _ _ _ _ _ _ _,((rq.set8_other pq _ _ _ _ _ _ _ _).set8 _ _ _ _ _ _ _ _).set8_other (fun e => qr e.symm) _ _ _ _ _ _ _ _,((rr.set8_other pr _ _ _ _ _ _ _ _).set8_other qr _ _ _ _ _ _ _ _).set8 _ _ _ _ _ _ _ _,wR hx,wR hy,wR hz,
  (uR (eO [x0,x1,x2,x3,x4,x5,x6,x7])).symm.trans ex.out,(uR (eO [y0,y1,y2,y3,y4,y5,y6,y7])).symm.trans ey.out,(uR (eO [z0,z1,z2,z3,z4,z5,z6,z7])).symm.trans ez.out⟩
structure MT (w wr : World) (p q r t : Nat) (X Y Z P : Nat → Nat) : Prop where
 below : Below w.heap.size w wr
 res : Row4 wr (w.heap.size + 1 + 1) 0 0 0 0
 rowX : RowIs wr p 8 X
 rowY : RowIs wr q 8 Y
 rowZ : RowIs wr r 8 Z
 rowP : RowIs wr t 10 P
 lt : ∀ k,P k < 4294967296
section
variable {w wr : World} {p q r t : Nat} {X Y Z P : Nat → Nat}
theorem MT.set (h : MT w wr p q r t X Y Z P) (h2 : w.heap.size + 1 + 1 < t) (pt : p < t) (qt : q < t) (rt : r < t) {k d : Nat} (hk : k < 10) (hd : d < 4294967296) :
  MT w (wr.setCell ⟨t,k,none⟩ (.int .u64 (d : Nat))) p q r t X Y Z (yL P k d) :=
 ⟨h.below.setCell (p:=⟨t,k,none⟩) (by show w.heap.size ≤ t; omega) _,h.res.other (by omega) _,h.rowX.other (by omega) _,h.rowY.other (by omega) _,h.rowZ.other (by omega) _,h.rowP.set hk,
  fun j => by unfold yL; split; exact hd; exact h.lt j⟩
theorem MT.drewN (h : MT w wr p q r t X Y Z P) (n : Nat) : MT w (wr.drewN n) p q r t X Y Z P:=⟨h.below.trans (bB _ _ _),h.res.drewN n,h.rowX,h.rowY,h.rowZ,h.rowP,h.lt⟩
end
structure OW (w wr : World) (t o : Nat) (P O : Nat → Nat) : Prop where
 below : Below w.heap.size w wr
 res : Row4 wr (w.heap.size + 1 + 1) 0 0 0 0
 rowP : RowIs wr t 10 P
 rowO : RowIs wr o 4 O
 lo : o < wr.heap.size
theorem OW.drewN {w wr : World} {t o : Nat} {P O : Nat → Nat} (h : OW w wr t o P O) (n : Nat) : OW w (wr.drewN n) t o P O:=⟨h.below.trans (bB _ _ _),h.res.drewN n,h.rowP,h.rowO,h.lo⟩
theorem OW.set {w wr : World} {t o : Nat} {P O : Nat → Nat} (h : OW w wr t o P O) (h2 : w.heap.size + 1 + 1 < t) (ht : t < o) {k d : Nat} (hk : k < 4) : OW w (wr.setCell ⟨o,k,none⟩ (.int .u64 (d : Nat))) t o P (yL O k d) :=
 ⟨h.below.setCell (p:=⟨o,k,none⟩) (by show w.heap.size ≤ o; omega) _,h.res.other (by omega) _,h.rowP.other (by omega) _,h.rowO.set hk,by rw [World.size_setCell]; exact h.lo⟩
end Go.Proofs.YtfnkbmlmgnadmaaGreat
