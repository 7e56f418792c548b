/- Ps07 -/
import Derived.Deep.RegionHeld3
import Derived.Deep.DeepCutAuto
import Derived.Deep.LoopGhost
import Derived.RegionTactic
import Derived.Laws.StructEq
import Derived.IntWalk
import Derived.LoopTactic
import Derived.StillTail
import Derived.KernelRfl
import Derived.Test.YtglgakbkdjhojaaGreatPs06
import Derived.Test.YtglgakbkdjhojaaGreatPs05
import Derived.Test.YtglgakbkdjhojaaGreatPs00
import Derived.Test.YtglgakbkdjhojaaGreatPs03
import Derived.Test.YtglgakbkdjhojaaGreatPs04
import Derived.Test.YtglgakbkdjhojaaGreatProg
set_option maxRecDepth 100000
set_option linter.unusedVariables false
set_option linter.unusedSimpArgs false
noncomputable section
namespace Go.Proofs.YtglgakbkdjhojaaGreat
open Go.Proofs.Tryz
open Go.RowKit
def aJy (P : Nat → Nat → Prop) (w : World) (e : Ending) (w' : World) : Prop :=
 ∃ s0 s1 s2 s3 c : Nat,e = .returned (.tuple #[.agg #[.int .u64 s0,.int .u64 s1,.int .u64 s2,.int .u64 s3],.int .i64 c]) ∧ cO s0 s1 s2 s3 ∧ P (aF s0 s1 s2 s3) c ∧ Below w.heap.size w w'
theorem Ug (a0 a1 a2 a3 : Nat) (w : World) : (Op.equalIn 10000 24 (.agg #[.int .u64 a0,.int .u64 a1,.int .u64 a2,.int .u64 a3]) (.agg #[.int .u64 0,.int .u64 0,.int .u64 0,.int .u64 0])).run prog w = .ok (eqW a0 a1 a2 a3 0 0 0 0) w :=
 aDb 9998 a0 a1 a2 a3 0 0 0 0 w
structure MR (w wr : World) (g9 g10 : Nat) (h0 h1 h2 h3 l0 l1 l2 l3 b0 b1 b2 b3 r0 r1 r2 r3 : Nat) : Prop where
 below : Below w.heap.size w wr
 lo : w.heap.size + 1 + 1 + 1 < g9
 mid : g9 < g10
 size : g10 < wr.heap.size
 rowH : Row4 wr w.heap.size h0 h1 h2 h3
 rowL : Row4 wr (w.heap.size + 1) l0 l1 l2 l3
 rowB : Row4 wr g9 b0 b1 b2 b3
 rowR : Row4 wr g10 r0 r1 r2 r3
 rowO : Row4 wr (w.heap.size + 1 + 1 + 1) 0 0 0 0
theorem MR.on {w wr w' : World} {g9 g10 : Nat} {h0 h1 h2 h3 l0 l1 l2 l3 b0 b1 b2 b3 r0 r1 r2 r3 : Nat} (m : MR w wr g9 g10 h0 h1 h2 h3 l0 l1 l2 l3 b0 b1 b2 b3 r0 r1 r2 r3) (hb : Below wr.heap.size wr w') : MR w w' g9 g10 h0 h1 h2 h3 l0 l1 l2 l3 b0 b1 b2 b3 r0 r1 r2 r3 :=
 ⟨m.below.trans (hb.mono m.below.size),m.lo,m.mid,Nat.lt_of_lt_of_le m.size hb.size,m.rowH.below hb (by have:=m.lo; have:=m.mid; have:=m.size; omega),m.rowL.below hb (by have:=m.lo; have:=m.mid; have:=m.size; omega),
  m.rowB.below hb (by have:=m.mid; have:=m.size; omega),m.rowR.below hb m.size,m.rowO.below hb (by have:=m.lo; have:=m.mid; have:=m.size; omega)⟩
theorem MR.drewN {w wr : World} {g9 g10 : Nat} {h0 h1 h2 h3 l0 l1 l2 l3 b0 b1 b2 b3 r0 r1 r2 r3 : Nat} (m : MR w wr g9 g10 h0 h1 h2 h3 l0 l1 l2 l3 b0 b1 b2 b3 r0 r1 r2 r3) (n : Nat) : MR w (wr.drewN n) g9 g10 h0 h1 h2 h3 l0 l1 l2 l3 b0 b1 b2 b3 r0 r1 r2 r3:=m.on (bM _ _ n)
theorem MR.onDrew {w wr w' : World} {g9 g10 : Nat} {h0 h1 h2 h3 l0 l1 l2 l3 b0 b1 b2 b3 r0 r1 r2 r3 : Nat} (m : MR w wr g9 g10 h0 h1 h2 h3 l0 l1 l2 l3 b0 b1 b2 b3 r0 r1 r2 r3) (hb : Below wr.drew.heap.size wr.drew w') : MR w w' g9 g10 h0 h1 h2 h3 l0 l1 l2 l3 b0 b1 b2 b3 r0 r1 r2 r3:=(m.drewN 1).on hb
theorem MR.put {w wr : World} {g9 g10 : Nat} {h0 h1 h2 h3 l0 l1 l2 l3 b0 b1 b2 b3 r0 r1 r2 r3 : Nat} (m : MR w wr g9 g10 h0 h1 h2 h3 l0 l1 l2 l3 b0 b1 b2 b3 r0 r1 r2 r3) (s0 s1 s2 s3 : Nat) : MR w (set4 wr g10 s0 s1 s2 s3) g9 g10 h0 h1 h2 h3 l0 l1 l2 l3 b0 b1 b2 b3 s0 s1 s2 s3 :=
 ⟨bB m.below (by have:=m.lo; have:=m.mid; omega) _ _ _ _,m.lo,m.mid,by unfold set4; simp only [World.size_setCell]; exact m.size,m.rowH.set4_other (by have:=m.lo; have:=m.mid; omega) _ _ _ _,m.rowL.set4_other (by have:=m.lo; have:=m.mid; omega) _ _ _ _,
  m.rowB.set4_other (by have:=m.mid; omega) _ _ _ _,m.rowR.set4 _ _ _ _,m.rowO.set4_other (by have:=m.lo; have:=m.mid; omega) _ _ _ _⟩
set_option maxHeartbeats 4000000 in
theorem aBC (h0 h1 h2 h3 l0 l1 l2 l3 m0 m1 m2 m3 : Nat) (hh : cO h0 h1 h2 h3) (hl : cO l0 l1 l2 l3) (hm : cO m0 m1 m2 m3) (hpz : 0 < aF m0 m1 m2 m3) (w : World) :
  Calls prog 258 #[.agg #[.int .u64 h0,.int .u64 h1,.int .u64 h2,.int .u64 h3],.agg #[.int .u64 l0,.int .u64 l1,.int .u64 l2,.int .u64 l3],.agg #[.int .u64 m0,.int .u64 m1,.int .u64 m2,.int .u64 m3]] w (aJy (fun v c => v = (aF h0 h1 h2 h3 * 115792089237316195423570985008687907853269984665640564039457584007913129639936 + aF l0 l1 l2 l3) % aF m0 m1 m2 m3 ∧ c = 0) w):=by
 have hE:=fun w => Ug m0 m1 m2 m3 w
 have hG:=aDe;have q : eqW m0 m1 m2 m3 0 0 0 0 = false:=by
  have:=RI hm (show cO 0 0 0 0 from ⟨by omega,by omega,by omega,by omega⟩)
  rcases h : eqW m0 m1 m2 m3 0 0 0 0 with _ | _
  ·rfl
  ·exact absurd (this.1 h) (by unfold aF at hpz ⊢; omega)
 rw [q] at hE;clear q
 go_enter func258,ntmps258
 go_wp2_with fail;refine (zR m0 m1 m2 m3 hm _).mono ?_
 rintro e w1 ⟨L,rfl,bL,lenL,hbl⟩
 obtain ⟨hpos,hb1,hb2⟩:=aHO bL lenL hpz;obtain ⟨S,eS⟩ : ∃ S,S = 256 - L:=⟨_,rfl⟩
 have wS : (256 : Int) - (L : Int) = (S : Int):=by omega
 have wL : (256 : Int) - (S : Int) = (L : Int):=by omega
 have bS : S ≤ 256:=by omega
 have H1:=(((Row4.new w h0 h1 h2 h3 24).alloc (by simp) _).alloc (by simp; omega) _).alloc (by simp; omega) _ |>.below hbl (by simp; omega)
 have L1:=(((Row4.new (w.alloc _) l0 l1 l2 l3 24).alloc (by simp) _).alloc (by simp) _).below hbl (by simp);have M1:=((Row4.new ((w.alloc _).alloc _) m0 m1 m2 m3 24).alloc (by simp) _).below hbl (by simp);have O1:=(Row4.new (((w.alloc _).alloc _).alloc _) 0 0 0 0 24).below hbl (by simp);simp only [World.size_alloc] at L1 M1 O1;have hz1 : w.heap.size + 1 + 1 + 1 < w1.heap.size:=by have:=hbl.size; simp at this; omega
 have B1:=(aEd w _ _ _ _).trans (hbl.mono (by simp; omega));have HeS:=Lib.hid eS; have Hb1:=Lib.hid hb1; have Hb2:=Lib.hid hb2; have HL:=Lib.hid lenL; have HB1:=Lib.hid B1;have HH1:=Lib.hid H1; have HL1:=Lib.hid L1; have HM1:=Lib.hid M1; have HO1:=Lib.hid O1;have y0 : w.heap.size < w1.heap.size:=by omega
 have y1 : w.heap.size + 1 < w1.heap.size:=by omega
 have y2 : w.heap.size + 1 + 1 < w1.heap.size:=by omega
 obtain ⟨m0',m1',m2',m3',mf⟩:=M1;clear hE hG eS hb1 hb2 lenL B1 H1 L1 O1 hbl;go_wp2_with fail;refine (yN m0 m1 m2 m3 S hm (by omega) (by omega) _).mono ?_
 rintro e w2 ⟨b0,b1,b2,b3,rfl,hb,vb,hbl⟩
 rw [Int.toNat_natCast] at vb;have H2:=HH1.out.below hbl y0;have L2:=HL1.out.below hbl y1;have O2:=HO1.out.below hbl hz1;have hz2 : w1.heap.size ≤ w2.heap.size:=hbl.size;have B2:=HB1.out.trans (hbl.mono HB1.out.size);have HH2:=Lib.hid H2; have HL2:=Lib.hid L2; have HO2:=Lib.hid O2; have HB2:=Lib.hid B2; have Hvb:=Lib.hid vb;have z0 : w.heap.size < w2.heap.size:=by omega
 have z1 : w.heap.size + 1 < w2.heap.size:=by omega
 have z3 : w.heap.size + 1 + 1 + 1 < w2.heap.size:=by omega
 obtain ⟨h0',h1',h2',h3',hf⟩:=H2;clear L2 O2 B2 vb hbl m0' m1' m2' m3' mf;go_wp2_with fail;refine (sW h0 h1 h2 h3 L hh (by omega) (by omega) _).mono ?_
 rintro e w3 ⟨r0,r1,r2,r3,rfl,hr,vr,hbl⟩
 rw [Int.toNat_natCast] at vr;clear h0' h1' h2' h3' hf;have MR1 : MR w (w3.alloc (.cells #[.int .u64 r0,.int .u64 r1,.int .u64 r2,.int .u64 r3] 24)) w2.heap.size w3.heap.size h0 h1 h2 h3 l0 l1 l2 l3 b0 b1 b2 b3 r0 r1 r2 r3:=by
  have hb':=hbl;have hz3:=hb'.size;rw [World.size_alloc] at hz3;have hall : ∀ {x : Nat} {c0 c1 c2 c3 : Nat},Row4 w2 x c0 c1 c2 c3 → x < w2.heap.size → Row4 (w3.alloc (.cells #[.int .u64 r0,.int .u64 r1,.int .u64 r2,.int .u64 r3] 24)) x c0 c1 c2 c3:=fun q hx =>
   ((q.alloc hx _).below hb' (by rw [World.size_alloc]; omega)).alloc (by omega) _
  refine ⟨((HB2.out.alloc (by omega) _).trans (hb'.mono (by rw [World.size_alloc]; omega))).alloc (by omega) _,z3,by omega,by simp,hall HH2.out z0,hall HL2.out z1,?_,Row4.new _ _ _ _ _ _,hall HO2.out z3⟩;exact ((Row4.new w2 b0 b1 b2 b3 24).below hb' (by simp)).alloc (by omega) _
 go_wp2_with fail;clear hbl;have Hvr:=Lib.hid vr;clear vr;generalize w3.alloc (.cells #[.int .u64 r0,.int .u64 r1,.int .u64 r2,.int .u64 r3] 24) = W at *;generalize w2.heap.size = g9 at *;generalize w3.heap.size = g10 at *;have M:=MR1;clear MR1;have wLL : IntKind.i64.wrap (L : Int) = (L : Int):=by simp [IntKind.wrap,IntKind.bits,IntKind.signed]; omega
 have HM:=Lib.hid M;have evb : aF b0 b1 b2 b3 = aF m0 m1 m2 m3 * 2 ^ S:=by rw [Hvb.out,HeS.out,Nat.mod_eq_of_lt Hb1.out]
 have hb3 : 9223372036854775808 ≤ b3:=aFf hb (by rw [evb,HeS.out]; exact Hb2.out);have hrb : aF r0 r1 r2 r3 < aF b0 b1 b2 b3:=by rw [evb,Hvr.out,HeS.out]; exact aGh bL hpz (bO hh)
 have Hevb:=Lib.hid evb;clear evb;clear M y0 y1 y2 z0 z1 z3 hz1 hz2 HH1 HL1 HM1 HO1 HB1 HH2 HL2 HO2 HB2;have g0 : ∀ k,W.cell? ⟨w.heap.size,k,none⟩ = W.cell? ⟨w.heap.size,k,none⟩:=fun _ => rfl
 clear g0;clear wS wL;have wL' : IntKind.i64.wrap (256 - (S : Int)) = (L : Int):=by have:=HeS.out; simp [IntKind.wrap,IntKind.bits,IntKind.signed]; omega
 go_wp2_with fail;refine kK (fun wx => MR w wx g9 g10 h0 h1 h2 h3 l0 l1 l2 l3 b0 b1 b2 b3 r0 r1 r2 r3) 11 (by kernel_rfl) ?_;have HS : (fun wx => MR w wx g9 g10 h0 h1 h2 h3 l0 l1 l2 l3 b0 b1 b2 b3 r0 r1 r2 r3) W.drew:=HM.out.drewN 1;refine bE (i:=0) (v:=.agg #[.int .u64 r0,.int .u64 r1,.int .u64 r2,.int .u64 r3]) rfl (by kernel_rfl) (by kernel_rfl) (by kernel_rfl) (by kernel_rfl) (fun _ _ _ h => h) HS (Or.inl ⟨by rfl,fun wx hx => ?_⟩) ?_
 ·obtain ⟨k0,k1,k2,k3,kf⟩:=MR.rowR hx;clear HS;go_simp
 simp only [Act.put,List.setIfInBounds_toArray,List.set_cons_zero,List.set_cons_succ];refine bE (i:=1) (v:=.agg #[.int .u64 h0,.int .u64 h1,.int .u64 h2,.int .u64 h3]) rfl (by kernel_rfl) (by kernel_rfl) (by kernel_rfl) (by kernel_rfl) (fun _ _ _ h => h) HS (Or.inl ⟨by rfl,fun wx hx => ?_⟩) ?_
 ·obtain ⟨k0,k1,k2,k3,kf⟩:=MR.rowH hx;clear HS;go_simp
 simp only [Act.put,List.setIfInBounds_toArray,List.set_cons_zero,List.set_cons_succ];refine bE (i:=2) (v:=.int .i64 (S : Nat)) rfl (by kernel_rfl) (by kernel_rfl) (by kernel_rfl) (by kernel_rfl) (fun _ _ _ h => h) HS (Or.inl ⟨by rfl,fun wx hx => ?_⟩) ?_
 ·clear hx HS;go_simp
 simp only [Act.put,List.setIfInBounds_toArray,List.set_cons_zero,List.set_cons_succ];refine bE (i:=4) (v:=.agg #[.int .u64 l0,.int .u64 l1,.int .u64 l2,.int .u64 l3]) rfl (by kernel_rfl) (by kernel_rfl) (by kernel_rfl) (by kernel_rfl) (fun _ _ _ h => h) HS (Or.inl ⟨by rfl,fun wx hx => ?_⟩) ?_
 ·obtain ⟨k0,k1,k2,k3,kf⟩:=MR.rowL hx;clear HS;go_simp
 simp only [Act.put,List.setIfInBounds_toArray,List.set_cons_zero,List.set_cons_succ];refine bE (i:=5) (v:=.int .i64 (S : Nat)) rfl (by kernel_rfl) (by kernel_rfl) (by kernel_rfl) (by kernel_rfl) (fun _ _ _ h => h) HS (Or.inl ⟨by rfl,fun wx hx => ?_⟩) ?_
 ·clear hx HS;go_simp
 simp only [Act.put,List.setIfInBounds_toArray,List.set_cons_zero,List.set_cons_succ];refine bE (i:=6) (v:=.int .i64 (L : Nat)) rfl (by kernel_rfl) (by kernel_rfl) (by kernel_rfl) (by kernel_rfl) (fun _ _ _ h => h) HS (Or.inl ⟨by rfl,fun wx hx => ?_⟩) ?_
 ·clear hx HS;go_simp
 simp only [Act.put,List.setIfInBounds_toArray,List.set_cons_zero,List.set_cons_succ];refine bE (i:=9) (v:=.agg #[.int .u64 b0,.int .u64 b1,.int .u64 b2,.int .u64 b3]) rfl (by kernel_rfl) (by kernel_rfl) (by kernel_rfl) (by kernel_rfl) (fun _ _ _ h => h) HS (Or.inl ⟨by rfl,fun wx hx => ?_⟩) ?_
 ·obtain ⟨k0,k1,k2,k3,kf⟩:=MR.rowB hx;clear HS;go_simp
 simp only [Act.put,List.setIfInBounds_toArray,List.set_cons_zero,List.set_cons_succ];clear HS;refine cC (i:=3) (by kernel_rfl) rfl (fun K hK => ?_);go_simp;refine (yN h0 h1 h2 h3 S hh (by omega) (by omega) _).mono ?_
 rintro e w4 ⟨x0,x1,x2,x3,rfl,hx,vx,hbl⟩
 rw [Int.toNat_natCast] at vx;have Hvx:=Lib.hid vx;clear vx;have M4:=HM.out.onDrew hbl;clear hbl;go_wp2_with fail;refine hK.out _ _ (Or.inr M4) (fun hHeld => ?_);clear hK K hHeld
 try simp only [Act.put,List.setIfInBounds_toArray,List.set_cons_zero,List.set_cons_succ]
 refine cC (i:=7) (by kernel_rfl) rfl (fun K hK => ?_);go_simp;refine (sW l0 l1 l2 l3 L hl (by omega) (by omega) _).mono ?_
 rintro e w5 ⟨y0,y1,y2,y3,rfl,hy,vy,hbl⟩
 rw [Int.toNat_natCast] at vy;have Hvy:=Lib.hid vy;clear vy;have M5:=M4.on hbl;clear hbl;go_wp2_with fail;refine hK.out _ _ (Or.inr M5) (fun hHeld => ?_);clear hK K hHeld
 try simp only [Act.put,List.setIfInBounds_toArray,List.set_cons_zero,List.set_cons_succ]
 refine cC (i:=8) (by kernel_rfl) rfl (fun K hK => ?_);go_simp;refine (QN x0 x1 x2 x3 y0 y1 y2 y3 hx hy _).mono ?_
 rintro e w6 ⟨z0,z1,z2,z3,rfl,hz,vz,hbl⟩
 have Hvz:=Lib.hid vz;clear vz;have M6:=M5.on hbl;clear hbl;go_wp2_with fail;refine hK.out _ _ (Or.inr M6) (fun hHeld => ?_);clear hK K hHeld
 try simp only [Act.put,List.setIfInBounds_toArray,List.set_cons_zero,List.set_cons_succ]
 refine cC (i:=10) (by kernel_rfl) rfl (fun K hK => ?_);go_simp;refine (wH r0 r1 r2 r3 z0 z1 z2 z3 b0 b1 b2 b3 hr hz hb hb3 hrb _).mono ?_
 rintro e w7 ⟨n0,n1,n2,n3,rfl,hn,vn,hbl⟩
 have Hvn:=Lib.hid vn;clear vn;have M7:=M6.on hbl;clear hbl;go_wp2_with fail;refine hK.out _ _ (Or.inr M7) (fun hHeld => ?_);clear hK K hHeld
 try simp only [Act.put,List.setIfInBounds_toArray,List.set_cons_zero,List.set_cons_succ]
 obtain ⟨q0,q1,q2,q3,qf⟩:=M7.rowR;have M8:=M7.put n0 n1 n2 n3;refine cC (i:=11) (by kernel_rfl) rfl (fun K hK => ?_);have hsz:=M7.size;clear M4 M5 M6 M7;have HM8:=Lib.hid M8;clear M8;go_simp;refine hK.out _ _ (Or.inl rfl) (fun hHeld => ?_);clear hK K hHeld q0 q1 q2 q3 qf;refine oM (by kernel_rfl) ?_;have hnb : aF n0 n1 n2 n3 < aF b0 b1 b2 b3:=by rw [Hvn.out]; exact Nat.mod_lt _ (by omega)
 have HG:=HM8.out;unfold set4 at HG;generalize (((w7.setCell ⟨g10,0,none⟩ (.int .u64 (n0 : Nat))).setCell ⟨g10,1,none⟩ (.int .u64 (n1 : Nat))).setCell ⟨g10,2,none⟩ (.int .u64 (n2 : Nat))).setCell ⟨g10,3,none⟩ (.int .u64 (n3 : Nat)) = W2 at HG ⊢;have HM9:=Lib.hid HG;clear HG HM8 hrb;go_wp2_with fail;refine kK (fun wx => MR w wx g9 g10 h0 h1 h2 h3 l0 l1 l2 l3 b0 b1 b2 b3 n0 n1 n2 n3) 6 (by kernel_rfl) ?_;have HS : (fun wx => MR w wx g9 g10 h0 h1 h2 h3 l0 l1 l2 l3 b0 b1 b2 b3 n0 n1 n2 n3) W2.drew:=HM9.out.drewN 1;refine bE (i:=0) (v:=.agg #[.int .u64 n0,.int .u64 n1,.int .u64 n2,.int .u64 n3]) rfl (by kernel_rfl) (by kernel_rfl) (by kernel_rfl) (by kernel_rfl) (fun _ _ _ h => h) HS (Or.inl ⟨by rfl,fun wx hx => ?_⟩) ?_
 ·obtain ⟨k0,k1,k2,k3,kf⟩:=MR.rowR hx;clear HS;go_simp
 simp only [Act.put,List.setIfInBounds_toArray,List.set_cons_zero,List.set_cons_succ];refine bE (i:=1) (v:=.agg #[.int .u64 l0,.int .u64 l1,.int .u64 l2,.int .u64 l3]) rfl (by kernel_rfl) (by kernel_rfl) (by kernel_rfl) (by kernel_rfl) (fun _ _ _ h => h) HS (Or.inl ⟨by rfl,fun wx hx => ?_⟩) ?_
 ·obtain ⟨k0,k1,k2,k3,kf⟩:=MR.rowL hx;clear HS;go_simp
 simp only [Act.put,List.setIfInBounds_toArray,List.set_cons_zero,List.set_cons_succ];refine bE (i:=2) (v:=.int .i64 (S : Nat)) rfl (by kernel_rfl) (by kernel_rfl) (by kernel_rfl) (by kernel_rfl) (fun _ _ _ h => h) HS (Or.inl ⟨by rfl,fun wx hx => ?_⟩) ?_
 ·clear hx HS;go_simp
 simp only [Act.put,List.setIfInBounds_toArray,List.set_cons_zero,List.set_cons_succ];refine bE (i:=4) (v:=.agg #[.int .u64 b0,.int .u64 b1,.int .u64 b2,.int .u64 b3]) rfl (by kernel_rfl) (by kernel_rfl) (by kernel_rfl) (by kernel_rfl) (fun _ _ _ h => h) HS (Or.inl ⟨by rfl,fun wx hx => ?_⟩) ?_
 ·obtain ⟨k0,k1,k2,k3,kf⟩:=MR.rowB hx;clear HS;go_simp
 simp only [Act.put,List.setIfInBounds_toArray,List.set_cons_zero,List.set_cons_succ];clear HS;refine cC (i:=3) (by kernel_rfl) rfl (fun K hK => ?_);go_simp;refine (yN l0 l1 l2 l3 S hl (by omega) (by omega) _).mono ?_
 rintro e w8 ⟨u0,u1,u2,u3,rfl,hu,vu,hbl⟩
 rw [Int.toNat_natCast] at vu;have Hvu:=Lib.hid vu;clear vu;have M4:=HM9.out.onDrew hbl;clear hbl;go_wp2_with fail;refine hK.out _ _ (Or.inr M4) (fun hHeld => ?_);clear hK K hHeld
 try simp only [Act.put,List.setIfInBounds_toArray,List.set_cons_zero,List.set_cons_succ]
 refine cC (i:=5) (by kernel_rfl) rfl (fun K hK => ?_);go_simp;refine (wH n0 n1 n2 n3 u0 u1 u2 u3 b0 b1 b2 b3 hn hu hb hb3 hnb _).mono ?_
 rintro e w9 ⟨p0,p1,p2,p3,rfl,hp,vp,hbl⟩
 have Hvp:=Lib.hid vp;clear vp;have M7:=M4.on hbl;clear hbl;go_wp2_with fail;refine hK.out _ _ (Or.inr M7) (fun hHeld => ?_);clear hK K hHeld
 try simp only [Act.put,List.setIfInBounds_toArray,List.set_cons_zero,List.set_cons_succ]
 obtain ⟨q0,q1,q2,q3,qf⟩:=M7.rowR;have M8:=M7.put p0 p1 p2 p3;refine cC (i:=6) (by kernel_rfl) rfl (fun K hK => ?_);have hsz:=M7.size;clear M4 M7;have HM8:=Lib.hid M8;clear M8;go_simp;refine hK.out _ _ (Or.inl rfl) (fun hHeld => ?_);clear hK K hHeld q0 q1 q2 q3 qf;refine oM (by kernel_rfl) ?_;have HG:=HM8.out;unfold set4 at HG;generalize (((w9.setCell ⟨g10,0,none⟩ (.int .u64 (p0 : Nat))).setCell ⟨g10,1,none⟩ (.int .u64 (p1 : Nat))).setCell ⟨g10,2,none⟩ (.int .u64 (p2 : Nat))).setCell ⟨g10,3,none⟩ (.int .u64 (p3 : Nat)) = W3 at HG ⊢;have HM10:=Lib.hid HG;obtain ⟨q0,q1,q2,q3,qf⟩:=HG.rowR;clear HG HM8;go_wp2_with fail;refine (sW p0 p1 p2 p3 S hp (by omega) (by omega) _).mono ?_
 rintro e wz ⟨s0,s1,s2,s3,rfl,hs,vs,hbl⟩
 rw [Int.toNat_natCast] at vs;have HF : Hid (aF s0 s1 s2 s3 = (aF h0 h1 h2 h3 * 115792089237316195423570985008687907853269984665640564039457584007913129639936 + aF l0 l1 l2 l3) % aF m0 m1 m2 m3):=Lib.hid (by
  rw [vs,HeS.out];refine aHJ (L:=L) (r1:=aF n0 n1 n2 n3) bL ?_ ?_
  ·rw [Hvn.out,Hvz.out,Hvx.out,Hvy.out,Hevb.out,Hvr.out,HeS.out,aBX bL (bO hl)]
  ·rw [Hvp.out,Hvu.out,Hevb.out,HeS.out])
 have M11:=HM10.out.on hbl;obtain ⟨o0,o1,o2,o3,of⟩:=M11.rowO;have HB:=Lib.hid M11.below;clear vs hbl M11 q0 q1 q2 q3 qf;go_wp2_with fail;refine bodyPost_ret (v:=.tuple #[.agg #[.int .u64 s0,.int .u64 s1,.int .u64 s2,.int .u64 s3],.int .i64 0]) (by simp [results,results258,go_sem, *]) rfl ?_;exact ⟨s0,s1,s2,s3,0,rfl,hs,⟨HF.out,rfl⟩,bB HB.out (by omega) _ _ _ _⟩
def Ty (B : Nat → Nat) (s : Nat) : Nat → Nat
 | 0 => 0
 | n + 1 => Ty B s n * 256 + B (s + n)
def RowB (w : World) (b n : Nat) (P : Nat → Nat) : Prop:=∀ k,k < n → w.cell? ⟨b,k,none⟩ = some (.int .u8 (P k : Nat)) ∧ w.frozen? ⟨b,k,none⟩ = false
theorem RowB.below {w w' : World} {b n : Nat} {P : Nat → Nat} (h : RowB w b n P) {B : Nat} (hb : Below B w w') (hB : b < B) : RowB w' b n P:=fun k hk =>
 ⟨(hb.cell (p:=⟨b,k,none⟩) hB).trans (h k hk).1,(hb.frozen (p:=⟨b,k,none⟩) hB).trans (h k hk).2⟩
theorem RowB.set {w : World} {b n i v : Nat} {P : Nat → Nat} (h : RowB w b n P) (hi : i < n) : RowB (w.setCell ⟨b,i,none⟩ (.int .u8 (v : Nat))) b n (upd P i v):=by
 intro k hk;refine ⟨?_,by rw [World.frozen?_setCell]; exact (h k hk).2⟩;unfold upd
 by_cases e : k = i
 ·subst e; rw [if_pos rfl]; exact World.cell?_setCell_same (h:=(h k hk).1) ..
 ·rw [if_neg e,World.cell?_setCell_other (h:=fun he => e (by simpa using (congrArg Addr.off he).symm)) ..]; exact (h k hk).1
theorem RowB.other {w : World} {b n i : Nat} {P : Nat → Nat} (h : RowB w b n P) {c : Nat} (hc : c ≠ b) (x : Value) : RowB (w.setCell ⟨c,i,none⟩ x) b n P:=by
 intro k hk;exact ⟨by rw [World.cell?_setCell_other (h:=fun he => hc (by simpa using congrArg Addr.block he)) ..]; exact (h k hk).1,by rw [World.frozen?_setCell]; exact (h k hk).2⟩
theorem RowB.drewN {w : World} {b n : Nat} {P : Nat → Nat} (h : RowB w b n P) (m : Nat) : RowB (w.drewN m) b n P:=h
theorem RowB.ext {w : World} {b n : Nat} {P R : Nat → Nat} (h : RowB w b n P) (e : ∀ k,k < n → P k = R k) : RowB w b n R:=fun k hk => ⟨by rw [← e k hk]; exact (h k hk).1,(h k hk).2⟩
set_option maxHeartbeats 2000000 in
theorem Gf (f : Int) (F : FC) (hf : FieldIs f F) (g0 g1 g2 g3 l0 l1 l2 l3 : Nat) (hg : cO g0 g1 g2 g3) (hl : cO l0 l1 l2 l3) (w : World) :
  Calls prog 249 #[.int .i64 f,.agg #[.int .u64 g0,.int .u64 g1,.int .u64 g2,.int .u64 g3],.agg #[.int .u64 l0,.int .u64 l1,.int .u64 l2,.int .u64 l3]] w (Od 0 ((aF g0 g1 g2 g3 * 115792089237316195423570985008687907853269984665640564039457584007913129639936 + aF l0 l1 l2 l3) % F.M) w):=by
 go_enter func249,ntmps249
 go_wp2_with fail;refine (fF f F hf _).mono ?_
 rintro e w1 ⟨rfl,hbl⟩
 have M1:=((((Mem.nil w).new (w.heap.size) g0 g1 g2 g3 24 (by simp)).new (w.heap.size + 1) l0 l1 l2 l3 24 (by simp)).new (w.heap.size + 1 + 1) 0 0 0 0 25 (by simp)).on hbl;clear hbl;have z0 : w.heap.size < w1.heap.size:=M1.lt (c0:=g0) (c1:=g1) (c2:=g2) (c3:=g3) (by simp);have z1 : w.heap.size + 1 < w1.heap.size:=M1.lt (c0:=l0) (c1:=l1) (c2:=l2) (c3:=l3) (by simp);have z2 : w.heap.size + 1 + 1 < w1.heap.size:=M1.lt (c0:=0) (c1:=0) (c2:=0) (c3:=0) (by simp);have HM:=Lib.hid (M1.on ((Below.refl _ _).alloc (Nat.le_refl _) (.cells #[.int .u64 F.m0,.int .u64 F.m1,.int .u64 F.m2,.int .u64 F.m3,.int .u64 F.inv,.int .u64 F.s0,.int .u64 F.s1,.int .u64 F.s2,.int .u64 F.s3] 115)));have KK:=Lib.hid (KIs.new w1 F 115);have kr:=M1.row (b:=w.heap.size) (c0:=g0) (c1:=g1) (c2:=g2) (c3:=g3) (by simp);have x0:=kr.c0; have x1:=kr.c1; have x2:=kr.c2; have x3:=kr.c3;clear kr;have xl:=M1.lt (b:=w.heap.size) (c0:=g0) (c1:=g1) (c2:=g2) (c3:=g3) (by simp);have kr:=M1.row (b:=w.heap.size + 1) (c0:=l0) (c1:=l1) (c2:=l2) (c3:=l3) (by simp);have u0:=kr.c0; have u1:=kr.c1; have u2:=kr.c2; have u3:=kr.c3;clear kr;have ul:=M1.lt (b:=w.heap.size + 1) (c0:=l0) (c1:=l1) (c2:=l2) (c3:=l3) (by simp);have k0:=KK.out.k0; have k1:=KK.out.k1; have k2:=KK.out.k2; have k3:=KK.out.k3;go_wp2_with fail;refine (aBC g0 g1 g2 g3 l0 l1 l2 l3 F.m0 F.m1 F.m2 F.m3 hg hl hf.ok.okm hf.ok.pos _).mono ?_
 rintro e w2 ⟨s0,s1,s2,s3,er,rfl,hs,⟨hv,rfl⟩,hbl⟩
 have HV:=Lib.hid hv;clear hv;have HM':=Lib.hid (HM.out.on hbl);have KK':=Lib.hid (KK.out.same hbl);have zk:=KK'.out.lt;clear HM KK hbl M1;have HM:=HM';have KK:=KK';clear HM' KK';clear zk k0 k1 k2 k3 x0 x1 x2 x3 xl u0 u1 u2 u3 ul;have wz : w.heap.size + 1 + 1 < w2.heap.size:=HM.out.lt (b:=w.heap.size + 1 + 1) (c0:=0) (c1:=0) (c2:=0) (c3:=0) (by simp);have kr:=HM.out.row (b:=w.heap.size + 1 + 1) (c0:=0) (c1:=0) (c2:=0) (c3:=0) (by simp);have y0:=kr.c0; have y1:=kr.c1; have y2:=kr.c2; have y3:=kr.c3; have yf:=kr.fr;clear kr;have yl:=HM.out.lt (b:=w.heap.size + 1 + 1) (c0:=0) (c1:=0) (c2:=0) (c3:=0) (by simp);go_wp2_with fail;refine bodyPost_ret (v:=.tuple #[.agg #[.int .u64 s0,.int .u64 s1,.int .u64 s2,.int .u64 s3],.int .i64 0]) (by simp [results,results249,go_sem, *]) rfl ?_;refine ⟨_,_,_,_,rfl,hs,HV.out,?_⟩
 repeat (first | exact HM.out.1 | refine Below.alloc ?_ (by first | (simp; done) | (simp; omega)) _ | refine Below.setCell ?_ (by first | (simp; done) | (simp; omega)) _)
theorem sI : FieldIs 1 FP:=Or.inl ⟨rfl,rfl⟩
def FwPost (x : Nat) (w : World) (e : Ending) (w' : World) : Prop:=e = .returned (.agg #[.int .u64 (fw x 0 : Nat),.int .u64 (fw x 1 : Nat),.int .u64 (fw x 2 : Nat),.int .u64 (fw x 3 : Nat)]) ∧ Below w.heap.size w w'
theorem FwPost.of {x : Nat} {w : World} {e : Ending} {w' : World} (hx : x < FP.M) (h : gT x w e w') : FwPost x w e w':=by
 obtain ⟨s0,s1,s2,s3,rfl,hs,hv,hb⟩:=h;obtain ⟨rfl,rfl,rfl,rfl⟩:=pD hs (BL hx) hv;exact ⟨rfl,hb⟩
set_option maxHeartbeats 4000000 in
theorem NV (a0 a1 a2 a3 b0 b1 b2 b3 : Nat) (ha : cO a0 a1 a2 a3) (hb : cO b0 b1 b2 b3) (la : aF a0 a1 a2 a3 < FP.M) (lb : aF b0 b1 b2 b3 < FP.M) (w : World) :
  Calls prog 222 #[.agg #[.int .u64 a0,.int .u64 a1,.int .u64 a2,.int .u64 a3],.agg #[.int .u64 b0,.int .u64 b1,.int .u64 b2,.int .u64 b3]] w (gT ((aF a0 a1 a2 a3 + aF b0 b1 b2 b3) % FP.M) w):=by
 go_enter func222,ntmps222
 go_wp2_with fail;have HM:=Lib.hid ((((Mem.nil w).new (w.heap.size) a0 a1 a2 a3 25 (by simp)).new (w.heap.size + 1) b0 b1 b2 b3 25 (by simp)).new (w.heap.size + 1 + 1) 0 0 0 0 25 (by simp));refine (Mt 1 FP sI a0 a1 a2 a3 b0 b1 b2 b3 ha hb la lb _).mono ?_
 rintro e w1 ⟨s0,s1,s2,s3,rfl,hs,hv,hbl⟩
 have HV:=Lib.hid hv;have HM':=Lib.hid (HM.out.on hbl);clear hv hbl;clear HM;have HM:=HM';clear HM';have kr:=HM.out.row (b:=w.heap.size + 1 + 1) (c0:=0) (c1:=0) (c2:=0) (c3:=0) (by simp);have y0:=kr.c0; have y1:=kr.c1; have y2:=kr.c2; have y3:=kr.c3; have yf:=kr.fr;clear kr;have yl:=HM.out.lt (b:=w.heap.size + 1 + 1) (c0:=0) (c1:=0) (c2:=0) (c3:=0) (by simp);have HB1:=Lib.hid HM.out.1;clear HM;go_wp2_with fail;refine bodyPost_ret (v:=.agg #[.int .u64 s0,.int .u64 s1,.int .u64 s2,.int .u64 s3]) (by simp [results,results222,go_sem, *]) rfl ?_;refine ⟨_,_,_,_,rfl,hs,HV.out,?_⟩;have hbx:=HB1.out;have hsz:=hbx.size
 repeat (first | exact hbx | refine Below.drew ?_ | refine Below.alloc ?_ (by first | exact hsz | (simp; done) | (simp; omega)) _ | refine Below.setCell ?_ (by first | (simp; done) | (simp; omega)) _)
theorem UD (x y : Nat) (hx : x < FP.M) (hy : y < FP.M) (w : World) : Calls prog 222 #[.agg #[.int .u64 (fw x 0 : Nat),.int .u64 (fw x 1 : Nat),.int .u64 (fw x 2 : Nat),.int .u64 (fw x 3 : Nat)],.agg #[.int .u64 (fw y 0 : Nat),.int .u64 (fw y 1 : Nat),.int .u64 (fw y 2 : Nat),.int .u64 (fw y 3 : Nat)]] w (FwPost ((x + y) % FP.M) w):=by
 refine (NV _ _ _ _ _ _ _ _ (dL x) (dL y) (by rw [cE hx]; exact hx) (by rw [cE hy]; exact hy) w).mono ?_;rw [cE hx,cE hy];exact fun e w' h => FwPost.of (Nat.mod_lt _ iJ) h
set_option maxHeartbeats 4000000 in
theorem JT (a0 a1 a2 a3 b0 b1 b2 b3 : Nat) (ha : cO a0 a1 a2 a3) (hb : cO b0 b1 b2 b3) (la : aF a0 a1 a2 a3 < FP.M) (lb : aF b0 b1 b2 b3 < FP.M) (w : World) :
  Calls prog 221 #[.agg #[.int .u64 a0,.int .u64 a1,.int .u64 a2,.int .u64 a3],.agg #[.int .u64 b0,.int .u64 b1,.int .u64 b2,.int .u64 b3]] w (gT ((aF a0 a1 a2 a3 + FP.M - aF b0 b1 b2 b3) % FP.M) w):=by
 go_enter func221,ntmps221
 go_wp2_with fail;have HM:=Lib.hid ((((Mem.nil w).new (w.heap.size) a0 a1 a2 a3 25 (by simp)).new (w.heap.size + 1) b0 b1 b2 b3 25 (by simp)).new (w.heap.size + 1 + 1) 0 0 0 0 25 (by simp));refine (Mf 1 FP sI a0 a1 a2 a3 b0 b1 b2 b3 ha hb la lb _).mono ?_
 rintro e w1 ⟨s0,s1,s2,s3,rfl,hs,hv,hbl⟩
 have HV:=Lib.hid hv;have HM':=Lib.hid (HM.out.on hbl);clear hv hbl;clear HM;have HM:=HM';clear HM';have kr:=HM.out.row (b:=w.heap.size + 1 + 1) (c0:=0) (c1:=0) (c2:=0) (c3:=0) (by simp);have y0:=kr.c0; have y1:=kr.c1; have y2:=kr.c2; have y3:=kr.c3; have yf:=kr.fr;clear kr;have yl:=HM.out.lt (b:=w.heap.size + 1 + 1) (c0:=0) (c1:=0) (c2:=0) (c3:=0) (by simp);have HB1:=Lib.hid HM.out.1;clear HM;go_wp2_with fail;refine bodyPost_ret (v:=.agg #[.int .u64 s0,.int .u64 s1,.int .u64 s2,.int .u64 s3]) (by simp [results,results221,go_sem, *]) rfl ?_;refine ⟨_,_,_,_,rfl,hs,HV.out,?_⟩;have hbx:=HB1.out;have hsz:=hbx.size
 repeat (first | exact hbx | refine Below.drew ?_ | refine Below.alloc ?_ (by first | exact hsz | (simp; done) | (simp; omega)) _ | refine Below.setCell ?_ (by first | (simp; done) | (simp; omega)) _)
theorem OB (x y : Nat) (hx : x < FP.M) (hy : y < FP.M) (w : World) : Calls prog 221 #[.agg #[.int .u64 (fw x 0 : Nat),.int .u64 (fw x 1 : Nat),.int .u64 (fw x 2 : Nat),.int .u64 (fw x 3 : Nat)],.agg #[.int .u64 (fw y 0 : Nat),.int .u64 (fw y 1 : Nat),.int .u64 (fw y 2 : Nat),.int .u64 (fw y 3 : Nat)]] w (FwPost ((x + FP.M - y) % FP.M) w):=by
 refine (JT _ _ _ _ _ _ _ _ (dL x) (dL y) (by rw [cE hx]; exact hx) (by rw [cE hy]; exact hy) w).mono ?_;rw [cE hx,cE hy];exact fun e w' h => FwPost.of (Nat.mod_lt _ iJ) h
set_option maxHeartbeats 4000000 in
theorem JS (a0 a1 a2 a3 b0 b1 b2 b3 : Nat) (ha : cO a0 a1 a2 a3) (hb : cO b0 b1 b2 b3) (la : aF a0 a1 a2 a3 < FP.M) (lb : aF b0 b1 b2 b3 < FP.M) (w : World) :
  Calls prog 225 #[.agg #[.int .u64 a0,.int .u64 a1,.int .u64 a2,.int .u64 a3],.agg #[.int .u64 b0,.int .u64 b1,.int .u64 b2,.int .u64 b3]] w (gT (aF a0 a1 a2 a3 * aF b0 b1 b2 b3 % FP.M) w):=by
 go_enter func225,ntmps225
 go_wp2_with fail;have HM:=Lib.hid ((((Mem.nil w).new (w.heap.size) a0 a1 a2 a3 25 (by simp)).new (w.heap.size + 1) b0 b1 b2 b3 25 (by simp)).new (w.heap.size + 1 + 1) 0 0 0 0 25 (by simp));refine (Mk 1 FP sI a0 a1 a2 a3 b0 b1 b2 b3 ha hb la lb _).mono ?_
 rintro e w1 ⟨s0,s1,s2,s3,rfl,hs,hv,hbl⟩
 have HV:=Lib.hid hv;have HM':=Lib.hid (HM.out.on hbl);clear hv hbl;clear HM;have HM:=HM';clear HM';have kr:=HM.out.row (b:=w.heap.size + 1 + 1) (c0:=0) (c1:=0) (c2:=0) (c3:=0) (by simp);have y0:=kr.c0; have y1:=kr.c1; have y2:=kr.c2; have y3:=kr.c3; have yf:=kr.fr;clear kr;have yl:=HM.out.lt (b:=w.heap.size + 1 + 1) (c0:=0) (c1:=0) (c2:=0) (c3:=0) (by simp);have HB1:=Lib.hid HM.out.1;clear HM;go_wp2_with fail;refine bodyPost_ret (v:=.agg #[.int .u64 s0,.int .u64 s1,.int .u64 s2,.int .u64 s3]) (by simp [results,results225,go_sem, *]) rfl ?_;refine ⟨_,_,_,_,rfl,hs,HV.out,?_⟩;have hbx:=HB1.out;have hsz:=hbx.size
 repeat (first | exact hbx | refine Below.drew ?_ | refine Below.alloc ?_ (by first | exact hsz | (simp; done) | (simp; omega)) _ | refine Below.setCell ?_ (by first | (simp; done) | (simp; omega)) _)
theorem NT (x y : Nat) (hx : x < FP.M) (hy : y < FP.M) (w : World) : Calls prog 225 #[.agg #[.int .u64 (fw x 0 : Nat),.int .u64 (fw x 1 : Nat),.int .u64 (fw x 2 : Nat),.int .u64 (fw x 3 : Nat)],.agg #[.int .u64 (fw y 0 : Nat),.int .u64 (fw y 1 : Nat),.int .u64 (fw y 2 : Nat),.int .u64 (fw y 3 : Nat)]] w (FwPost (x * y % FP.M) w):=by
 refine (JS _ _ _ _ _ _ _ _ (dL x) (dL y) (by rw [cE hx]; exact hx) (by rw [cE hy]; exact hy) w).mono ?_;rw [cE hx,cE hy];exact fun e w' h => FwPost.of (Nat.mod_lt _ iJ) h
set_option maxHeartbeats 4000000 in
theorem UG (a0 a1 a2 a3 : Nat) (ha : cO a0 a1 a2 a3) (la : aF a0 a1 a2 a3 < FP.M) (w : World) :
  Calls prog 223 #[.agg #[.int .u64 a0,.int .u64 a1,.int .u64 a2,.int .u64 a3]] w (gT ((0 + FP.M - aF a0 a1 a2 a3) % FP.M) w):=by
 go_enter func223,ntmps223
 go_wp2_with fail;have HM:=Lib.hid (((Mem.nil w).new (w.heap.size) a0 a1 a2 a3 25 (by simp)).new (w.heap.size + 1) 0 0 0 0 25 (by simp));refine (Mj 1 FP sI a0 a1 a2 a3 ha la _).mono ?_
 rintro e w1 ⟨s0,s1,s2,s3,rfl,hs,hv,hbl⟩
 have HV:=Lib.hid hv;have HM':=Lib.hid (HM.out.on hbl);clear hv hbl;clear HM;have HM:=HM';clear HM';have kr:=HM.out.row (b:=w.heap.size + 1) (c0:=0) (c1:=0) (c2:=0) (c3:=0) (by simp);have y0:=kr.c0; have y1:=kr.c1; have y2:=kr.c2; have y3:=kr.c3; have yf:=kr.fr;clear kr;have yl:=HM.out.lt (b:=w.heap.size + 1) (c0:=0) (c1:=0) (c2:=0) (c3:=0) (by simp);have kr:=HM.out.row (b:=w.heap.size) (c0:=a0) (c1:=a1) (c2:=a2) (c3:=a3) (by simp);have x0:=kr.c0; have x1:=kr.c1; have x2:=kr.c2; have x3:=kr.c3; have xf:=kr.fr;clear kr;have xl:=HM.out.lt (b:=w.heap.size) (c0:=a0) (c1:=a1) (c2:=a2) (c3:=a3) (by simp);go_wp2_with fail;refine bodyPost_ret (v:=.agg #[.int .u64 s0,.int .u64 s1,.int .u64 s2,.int .u64 s3]) (by simp [results,results223,go_sem, *]) rfl ?_;refine ⟨_,_,_,_,rfl,hs,HV.out,?_⟩;exact bB (bB HM.out.1 (Nat.le_refl _) _ _ _ _) (by omega) _ _ _ _
theorem Be (x : Nat) (hx : x < FP.M) (w : World) : Calls prog 223 #[.agg #[.int .u64 (fw x 0 : Nat),.int .u64 (fw x 1 : Nat),.int .u64 (fw x 2 : Nat),.int .u64 (fw x 3 : Nat)]] w (FwPost ((0 + FP.M - x) % FP.M) w):=by
 refine (UG _ _ _ _ (dL x) (by rw [cE hx]; exact hx) w).mono ?_;rw [cE hx];exact fun e w' h => FwPost.of (Nat.mod_lt _ iJ) h
set_option maxHeartbeats 4000000 in
theorem NU (a0 a1 a2 a3 : Nat) (ha : cO a0 a1 a2 a3) (w : World) :
  Calls prog 220 #[.agg #[.int .u64 a0,.int .u64 a1,.int .u64 a2,.int .u64 a3]] w (gT (aF a0 a1 a2 a3 % FP.M) w):=by
 go_enter func220,ntmps220
 go_wp2_with fail;have HM:=Lib.hid (((Mem.nil w).new (w.heap.size) a0 a1 a2 a3 25 (by simp)).new (w.heap.size + 1) 0 0 0 0 25 (by simp))
 by_cases la : aF a0 a1 a2 a3 < FP.M
 ·refine (MN 1 FP sI a0 a1 a2 a3 ha la _).mono ?_
  rintro e w1 ⟨rfl,hbl⟩
  have HL:=Lib.hid la;have HM':=Lib.hid (HM.out.on hbl);clear hbl la;clear HM;have HM:=HM';clear HM';have kr:=HM.out.row (b:=w.heap.size + 1) (c0:=0) (c1:=0) (c2:=0) (c3:=0) (by simp);have y0:=kr.c0; have y1:=kr.c1; have y2:=kr.c2; have y3:=kr.c3; have yf:=kr.fr;clear kr;have yl:=HM.out.lt (b:=w.heap.size + 1) (c0:=0) (c1:=0) (c2:=0) (c3:=0) (by simp);have kr:=HM.out.row (b:=w.heap.size) (c0:=a0) (c1:=a1) (c2:=a2) (c3:=a3) (by simp);have x0:=kr.c0; have x1:=kr.c1; have x2:=kr.c2; have x3:=kr.c3;clear kr;have xl:=HM.out.lt (b:=w.heap.size) (c0:=a0) (c1:=a1) (c2:=a2) (c3:=a3) (by simp);go_wp2_with fail;refine bodyPost_ret (v:=.agg #[.int .u64 a0,.int .u64 a1,.int .u64 a2,.int .u64 a3]) (by simp [results,results220,go_sem, *]) rfl ?_;refine ⟨_,_,_,_,rfl,ha,by rw [Nat.mod_eq_of_lt HL.out],?_⟩;exact bB HM.out.1 (by omega) _ _ _ _
 ·refine (IC 1 21 a0 a1 a2 a3 ha (Or.inr ⟨FP,sI,la,rfl⟩) _).mono ?_
  rintro e w1 ⟨rfl,hbl⟩
  have HM':=Lib.hid (HM.out.on hbl);clear hbl la;clear HM;have HM:=HM';clear HM';have kr:=HM.out.row (b:=w.heap.size) (c0:=a0) (c1:=a1) (c2:=a2) (c3:=a3) (by simp);have x0:=kr.c0; have x1:=kr.c1; have x2:=kr.c2; have x3:=kr.c3;clear kr;have xl:=HM.out.lt (b:=w.heap.size) (c0:=a0) (c1:=a1) (c2:=a2) (c3:=a3) (by simp);go_wp2_with fail;refine (Gf 1 FP sI 0 0 0 0 a0 a1 a2 a3 zok ha _).mono ?_
  rintro e w2 ⟨s0,s1,s2,s3,rfl,hs,hv,hbl⟩
  have HV:=Lib.hid (show aF s0 s1 s2 s3 = aF a0 a1 a2 a3 % FP.M by rw [hv,show aF 0 0 0 0 = 0 from rfl,Nat.zero_mul,Nat.zero_add]);have HM':=Lib.hid (HM.out.on hbl);clear hv hbl x0 x1 x2 x3 xl;clear HM;have HM:=HM';clear HM';have kr:=HM.out.row (b:=w.heap.size + 1) (c0:=0) (c1:=0) (c2:=0) (c3:=0) (by simp);have y0:=kr.c0; have y1:=kr.c1; have y2:=kr.c2; have y3:=kr.c3; have yf:=kr.fr;clear kr;have yl:=HM.out.lt (b:=w.heap.size + 1) (c0:=0) (c1:=0) (c2:=0) (c3:=0) (by simp);have kr:=HM.out.row (b:=w.heap.size) (c0:=a0) (c1:=a1) (c2:=a2) (c3:=a3) (by simp);have x0:=kr.c0; have x1:=kr.c1; have x2:=kr.c2; have x3:=kr.c3; have xf:=kr.fr;clear kr;have xl:=HM.out.lt (b:=w.heap.size) (c0:=a0) (c1:=a1) (c2:=a2) (c3:=a3) (by simp);go_wp2_with fail;refine bodyPost_ret (v:=.agg #[.int .u64 s0,.int .u64 s1,.int .u64 s2,.int .u64 s3]) (by simp [results,results220,go_sem, *]) rfl ?_;refine ⟨_,_,_,_,rfl,hs,HV.out,?_⟩;exact bB (bB HM.out.1 (Nat.le_refl _) _ _ _ _) (by omega) _ _ _ _
theorem UC (a0 a1 a2 a3 : Nat) (ha : cO a0 a1 a2 a3) (w : World) : Calls prog 220 #[.agg #[.int .u64 a0,.int .u64 a1,.int .u64 a2,.int .u64 a3]] w (FwPost (aF a0 a1 a2 a3 % FP.M) w) :=
 (NU a0 a1 a2 a3 ha w).mono fun e w' h => FwPost.of (Nat.mod_lt _ iJ) h
set_option maxHeartbeats 4000000 in
theorem BW (A B : Nat → Nat → Nat) (p q : Option Addr) (la ca cb : Nat) (h2 : la ≤ 65536) (ia : Am FP.M la A) (ib : Am FP.M la B) (w : World) (hA : FIs w p la A) (hB : FIs w q la B) :
  Calls prog 224 #[.slice p la ca,.slice q la cb] w (FwPost (xT FP.M (JO A) (JO B) la) w):=by
 have HA:=Lib.hid hA;have HB:=Lib.hid hB;have IA:=Lib.hid ia;have IB:=Lib.hid ib;clear hA hB ia ib
 suffices h : Calls prog 224 #[.slice p la ca,.slice q la cb] w (gT (xT FP.M (JO A) (JO B) la) w) from h.mono fun e w' h => FwPost.of (aIP iJ _ _ _) h
 go_enter func224,ntmps224
 go_wp2_with fail;have HM:=Lib.hid ((Mem.nil w).new (w.heap.size) 0 0 0 0 25 (by simp));refine (Mp 1 FP sI p q la ca la cb A B rfl h2 IA.out IB.out _ (HA.out.on HM.out.1) (HB.out.on HM.out.1)).mono ?_
 rintro e w1 ⟨s0,s1,s2,s3,rfl,hs,hv,hbl⟩
 have HV:=Lib.hid hv;have HM':=Lib.hid (HM.out.on hbl);clear hv hbl;clear HM;have HM:=HM';clear HM';have kr:=HM.out.row (b:=w.heap.size) (c0:=0) (c1:=0) (c2:=0) (c3:=0) (by simp);have y0:=kr.c0; have y1:=kr.c1; have y2:=kr.c2; have y3:=kr.c3; have yf:=kr.fr;clear kr;have yl:=HM.out.lt (b:=w.heap.size) (c0:=0) (c1:=0) (c2:=0) (c3:=0) (by simp);have HB1:=Lib.hid HM.out.1;clear HM;go_wp2_with fail;refine bodyPost_ret (v:=.agg #[.int .u64 s0,.int .u64 s1,.int .u64 s2,.int .u64 s3]) (by simp [results,results224,go_sem, *]) rfl ?_;refine ⟨_,_,_,_,rfl,hs,HV.out,?_⟩;have hbx:=HB1.out;have hsz:=hbx.size
 repeat (first | exact hbx | refine Below.drew ?_ | refine Below.alloc ?_ (by first | exact hsz | (simp; done) | (simp; omega)) _ | refine Below.setCell ?_ (by first | (simp; done) | (simp; omega)) _)
end Go.Proofs.YtglgakbkdjhojaaGreat
namespace Go.Proofs.YtglgakbkdjhojaaGreat.Ex
open Go.Proofs.Tryz
open Go.RowKit
theorem LY {x : Nat} {f : FuncId} {args : List Value} {w : World} {y : Fq} (h : Calls prog f args.toArray w (FwPost x w)) (e : x = y.1) : Good prog f (.one (.fl (e1 y))) args w:=by
 subst e;exact h.mono fun e w' h => h
theorem BR {l : List At} {args : List Value} {w : World} (h : bR w [.v (.fl l)] args) : args = [.agg (aA l).toArray]:=by
 match args,h with
 | [v],h => rw [show v = _ from h.1]; rfl
 | [],h => exact h.elim
 | _ :: _ :: _,h => exact h.2.elim
theorem NI {l m : List At} {args : List Value} {w : World} (h : bR w [.v (.fl l),.v (.fl m)] args) : args = [.agg (aA l).toArray,.agg (aA m).toArray]:=by
 match args,h with
 | [v,u],h => rw [show v = _ from h.1,show u = _ from h.2.1]; rfl
 | [],h => exact h.elim
 | [_],h => exact h.2.elim
 | _ :: _ :: _ :: _,h => exact h.2.2.elim
theorem aRx (x y : Fq) (args : List Value) (w : World) (ha : bR w [.v (.fl (e1 x)),.v (.fl (e1 y))] args) : Good prog 222 (.one (.fl (e1 (F1.add x y)))) args w:=by
 rw [NI ha];exact LY (UD x.1 y.1 x.2 y.2 w) rfl
theorem aFo (x y : Fq) : (x.1 + FP.M - y.1) % FP.M = (F1.sub x y).1:=by
 show _ = (x.1 + (0 + FP.M - y.1) % FP.M) % FP.M;have:=y.2;rw [Nat.add_mod_mod];congr 1;omega
theorem aJj (x y : Fq) (args : List Value) (w : World) (ha : bR w [.v (.fl (e1 x)),.v (.fl (e1 y))] args) : Good prog 221 (.one (.fl (e1 (F1.sub x y)))) args w:=by
 rw [NI ha];exact LY (OB x.1 y.1 x.2 y.2 w) (aFo x y)
theorem aJi (x y : Fq) (args : List Value) (w : World) (ha : bR w [.v (.fl (e1 x)),.v (.fl (e1 y))] args) : Good prog 225 (.one (.fl (e1 (F1.mul x y)))) args w:=by
 rw [NI ha];exact LY (NT x.1 y.1 x.2 y.2 w) rfl
theorem aWc (x : Fq) (args : List Value) (w : World) (ha : bR w [.v (.fl (e1 x))] args) : Good prog 223 (.one (.fl (e1 (F1.neg x)))) args w:=by
 rw [BR ha];exact LY (Be x.1 x.2 w) rfl
theorem aRv (x : Nat) (args : List Value) (w : World) (ha : bR w [.v (.fl (q1 x))] args) : Good prog 220 (.one (.fl (e1 (m1 x)))) args w:=by
 rw [BR ha];exact LY (UC _ _ _ _ (dL x) w) rfl
theorem tE : ∀ {n : Nat} {l : List At} {x : List Fq},XX n l = some x → x.length = n ∧ ∃ r,l = x.map .f ++ r
 | 0,l,x,h => by cases h; exact ⟨rfl,l,rfl⟩
 | n + 1,.f a :: r,x,h => by
  unfold XX at h;split at h
  ·rename_i l hl;cases h;obtain ⟨h1,s,h2⟩:=tE hl;exact ⟨by rw [List.length_cons,h1],s,by rw [h2]; rfl⟩
  ·cases h
 | n + 1,[],x,h => by cases h
 | n + 1,.q _ :: _,x,h => by cases h
 | n + 1,.c _ :: _,x,h => by cases h
def lw (x : List Fq) (k i : Nat) : Nat:=fw ((x[k]?).getD F1.zero).1 i
theorem aCT : ∀ (x : List Fq) (k : Nat),k < x.length → ∀ i,i < 4 → (aA (x.map .f))[k * 4 + i]? = some (.int .u64 (lw x k i : Nat))
 | a :: r,0,_,i,hi => by
  show (w4 a.1 ++ aA (r.map .f))[0 * 4 + i]? = _;rw [List.getElem?_append_left (by show _ < 4; omega)]
  match i,hi with
  | 0,_ => rfl
  | 1,_ => rfl
  | 2,_ => rfl
  | 3,_ => rfl
 | a :: r,k + 1,h,i,hi => by
  show (w4 a.1 ++ aA (r.map .f))[(k + 1) * 4 + i]? = _;rw [List.getElem?_append_right (by show 4 ≤ _; omega),show (k + 1) * 4 + i - (w4 a.1).length = k * 4 + i by show _ - 4 = _; omega,aCT r k (by simpa using h) i hi];simp [lw]
theorem QC {n : Nat} {l : List At} {x : List Fq} (h : XX n l = some x) (h6 : n ≤ 6) {b o : Nat} {w : World} (hb : b < w.heap.size) (hr : w.rangeAt b o (aA l)) : FIs w (some ⟨b,o,none⟩) n (lw x):=by
 obtain ⟨h1,r,h2⟩:=tE h;refine ⟨by omega,fun k hk => dL _,fun _ => ⟨b,o,rfl,hb,fun k hk => ?_⟩⟩;have hc : ∀ i,i < 4 → w.cell? ⟨b,o + k * 4 + i,none⟩ = some (.int .u64 (lw x k i : Nat)):=fun i hi => by
  rw [Nat.add_assoc];refine hr (k * 4 + i) _ ?_;rw [h2,aR,List.getElem?_append_left (by
   rw [aU];have : ∀ x : List Fq,cS (x.map .f) = 4 * x.length:=fun x => by
    induction x with
    | nil => rfl
    | cons a r ih => show 4 + cS (r.map .f) = 4 * (r.length + 1); omega
   rw [this,h1]; omega)]
  exact aCT x k (by omega) i hi
 exact ⟨hc 0 (by omega),hc 1 (by omega),hc 2 (by omega),hc 3 (by omega)⟩
theorem MB (x : List Fq) (k : Nat) : JO (lw x) k = ((x[k]?).getD F1.zero).1:=cE (Fin.isLt _)
theorem ZY : ∀ (x y : List Fq) (a : Fq) (X Y : Nat → Nat) (k : Nat),x.length = y.length → (∀ j,j < x.length → X (k + j) = ((x[j]?).getD F1.zero).1) → (∀ j,j < y.length → Y (k + j) = ((y[j]?).getD F1.zero).1) → a.1 = xT FP.M X Y k → (Ul a x y).1 = xT FP.M X Y (k + x.length)
 | [],[],a,X,Y,k,_,_,_,h => h
 | p :: x,q :: y,a,X,Y,k,hl,hX,hY,h => by
  have e : (F1.add a (F1.mul p q)).1 = xT FP.M X Y (k + 1):=by
   show (a.1 + p.1 * q.1 % FP.M) % FP.M = (xT FP.M X Y k + X k * Y k) % FP.M;rw [Nat.add_mod_mod,h];have h1:=hX 0 (by simp);have h2:=hY 0 (by simp);rw [Nat.add_zero] at h1 h2;rw [h1,h2];rfl
  have:=ZY x y (F1.add a (F1.mul p q)) X Y (k + 1) (by simpa using hl) (fun j hj => by have:=hX (j + 1) (by simpa using hj); rw [show k + 1 + j = k + (j + 1) by omega,this]; simp)
   (fun j hj => by have:=hY (j + 1) (by simpa using hj); rw [show k + 1 + j = k + (j + 1) by omega,this]; simp) e
  rw [show k + (p :: x).length = k + 1 + x.length by simp; omega];exact this
 | [],_ :: _,_,_,_,_,h,_,_,_ => by cases h
 | _ :: _,[],_,_,_,_,h,_,_,_ => by cases h
theorem ZZ (x y : List Fq) (hl : x.length = y.length) : (qO x y).1 = xT FP.M (JO (lw x)) (JO (lw y)) x.length:=by
 have h0 : (Ul F1.zero x y).1 = xT FP.M (JO (lw x)) (JO (lw y)) (0 + x.length):=ZY x y F1.zero _ _ 0 hl (fun j _ => by rw [Nat.zero_add]; exact MB x j) (fun j _ => by rw [Nat.zero_add]; exact MB y j) rfl;rw [Nat.zero_add] at h0;rw [← h0];cases x with
 | nil => cases y <;> rfl
 | cons a r =>
  cases y with
  | nil => cases hl
  | cons b s =>
   show (Ul (F1.mul a b) r s).1 = (Ul (F1.add F1.zero (F1.mul a b)) r s).1;rw [F1.zero_add]
theorem aRw : ∀ cs pre r,aCA cs = some (pre,r) → aZ pre → ∀ (args : List Value) (w : World),bR w cs args → Good prog 224 r args w:=by
 intro cs pre r hg hp args w ha;unfold aCA at hg;split at hg
 ·rename_i l n m l' n' m';cases hb : (Nat.beq n n' && Nat.ble n 6) <;> rw [hb] at hg
  ·cases hg
  ·simp only [cond_true] at hg;split at hg
   ·rename_i x y hx hy;cases hg;rw [Bool.and_eq_true] at hb;cases Nat.eq_of_beq_eq_true hb.1;have h6:=Nat.le_of_ble_eq_true hb.2
    match args,ha with
    | [v,u],ha =>
     obtain ⟨⟨b,o,rfl,h1,h2⟩,⟨b',o',rfl,h3,h4⟩,_⟩:=ha;have l1:=(tE hx).1;have l2:=(tE hy).1;refine LY (BW (lw x) (lw y) _ _ n m m' (by omega) (fun k hk => by rw [MB]; exact Fin.isLt _) (fun k hk => by rw [MB]; exact Fin.isLt _) w (QC hx h6 h1 h2) (QC hy h6 h3 h4)) ?_;rw [ZZ x y (by omega),l1]
    | [],ha => exact ha.elim
    | [_],ha => exact ha.2.elim
    | _ :: _ :: _ :: _,ha => exact ha.2.2.elim
   ·cases hg
 ·cases hg
theorem aYU : ∀ cs pre r,gOf cs = some (pre,r) → aZ pre → ∀ (args : List Value) (w : World),bR w cs args → Good prog 97 r args w:=by
 intro cs pre r hg hp args w ha;unfold gOf at hg;split at hg
 ·rename_i n;cases hb : Nat.blt n 18446744073709551616 <;> rw [hb] at hg
  ·cases hg
  ·cases hg;have hn : n < 18446744073709551616:=by simpa using hb
   match args,ha with
   | [v],ha =>
    rw [show v = _ from ha.1];refine (GH n hn w).mono ?_
    rintro e w' ⟨rfl,hbl⟩
    refine ⟨?_,hbl⟩;have hM : n < FP.M:=Nat.lt_trans hn (by decide);obtain ⟨e0,e1',e2',e3'⟩:=pD (s0:=n) (s1:=0) (s2:=0) (s3:=0) ⟨hn,by omega,by omega,by omega⟩ (BL hM) (show aF n 0 0 0 = n by unfold aF; omega);show _ = Ending.returned (.agg (w4 (n % FP.M)).toArray);rw [Nat.mod_eq_of_lt hM];unfold w4;rw [← e0,← e1',← e2',← e3'];rfl
   | [],ha => exact ha.elim
   | _ :: _ :: _,ha => exact ha.2.elim
 ·cases hg
theorem aRy (x : Fq) (h : x ≠ F1.zero) (w : World) : Calls prog 256 #[.int .i64 1,.agg (aA (e1 x)).toArray] w (fun e w' => e = .returned (RV.many [.fl (e1 (cM x)),.im (.int .i64 0)]).den ∧ Below w.heap.size w w'):=by
 have hz : x.1 ≠ 0:=fun e => h (Fin.ext e)
 refine (Ml 1 0 _ _ _ _ _ (fun W => aIE 1 FP sI 1 0 0 0 _ _ _ _ (by unfold cO; decide) (dL x.1) (by decide) (by rw [cE x.2]; exact x.2) (by rw [cE x.2]; exact hz) W) w).mono ?_
 rintro e w' ⟨s0,s1,s2,s3,rfl,hs,hv,hb⟩
 have hf:=ZM x;rw [Nat.one_mul] at hf;rw [cE x.2,show aF 1 0 0 0 = 1 from rfl,Nat.one_mul,← hf] at hv;obtain ⟨rfl,rfl,rfl,rfl⟩:=pD hs (BL (cM x).2) hv;exact ⟨rfl,hb⟩
theorem aRz (w : World) : Calls prog 256 #[.int .i64 1,.agg (aA (e1 F1.zero)).toArray] w (fun e w' => e = .returned (RV.many [.fl (e1 F1.zero),.im (.int .i64 22)]).den ∧ Below w.heap.size w w'):=by
 refine (Ml 1 22 0 _ _ _ _ (fun W => aCW 1 FP sI 1 0 0 0 _ _ _ _ (by unfold cO; decide) (dL 0) (by decide) (by rw [cE iJ]; exact iJ) (by rw [cE iJ]) W) w).mono ?_
 rintro e w' ⟨s0,s1,s2,s3,rfl,hs,hv,hb⟩
 obtain ⟨rfl,rfl,rfl,rfl⟩:=pD hs (BL iJ) hv;exact ⟨rfl,hb⟩
theorem aWd (c : Bool) : ∀ cs pre r,aPQ c cs = some (pre,r) → aZ pre → ∀ (args : List Value) (w : World),bR w cs args → Good prog 256 r args w:=by
 intro cs pre r hg hp args w ha;unfold aPQ at hg;split at hg
 ·rename_i l;split at hg
  ·rename_i x hx
   match args,ha with
   | [v,u],ha =>
    have h1 : v = .int .i64 1:=ha.1;have h2 : u = .agg (aA l).toArray:=ha.2.1;rw [lD l x hx] at h2;subst h1; subst h2;cases c
    ·cases hg;have hz : x = F1.zero:=hp.1;subst hz;exact aRz w
    ·cases hg;exact aRy x hp.1 w
   | [],ha => exact ha.elim
   | [_],ha => exact ha.2.elim
   | _ :: _ :: _ :: _,ha => exact ha.2.2.elim
  ·cases hg
 ·cases hg
theorem aHw (c : Bool) : TabOk prog (oJ c) :=
 ((((((((uO prog).ad func222 (eV lD lD fun x y _ args w ha => aRx x y args w ha)).ad func221 (eV lD lD fun x y _ args w ha => aJj x y args w ha)).add
  func225 (by kernel_rfl) (by kernel_rfl) (eV lD lD fun x y _ args w ha => aJi x y args w ha)).ad func223 (bJ lD fun x _ args w ha => aWc x args w ha)).add
  func220 (by kernel_rfl) (by kernel_rfl) (bJ fQ fun x _ args w ha => aRv x args w ha)).ad func224 aRw).ad func97 aYU).ad func256 (aWd c)
def nv2 (x : Q2) : N2:=(x.1.1,x.2.1)
def nv6 (x : Q6) : N6:=(nv2 x.1,nv2 x.2.1,nv2 x.2.2)
def kR (x : aM) : sS:=(nv6 x.1,nv6 x.2)
theorem Ln (x : Fq) : m1 x.1 = x:=Fin.ext (by show wv x.1 % FP.M = x.1; unfold wv; rw [cE x.2,Nat.mod_eq_of_lt x.2])
theorem aBE (x : Q2) : m2 (nv2 x) = x:=Prod.ext (Ln _) (Ln _)
theorem aKL (x : Q6) : m6 (nv6 x) = x:=Prod.ext (aBE _) (Prod.ext (aBE _) (aBE _))
theorem fE (x : aM) : fW (kR x) = x:=Prod.ext (aKL _) (aKL _)
def z0 : At:=.f F1.zero
theorem Ku (c : Bool) : TabOk prog (AP c):=aHx c (aHw c)
def vl : At → Option Fq
 | .f x => some x
 | .q x => some (m1 x)
 | .c _ => none
def vls : List At → Option (List Fq)
 | [] => some []
 | a :: r => match vl a,vls r with | some x,some l => some (x :: l) | _,_ => none
def rv1 (l : List At) : Option Fq:=match vls l with | some [a] => some a | _ => none
def KU (l : List At) : Option Q2:=match vls l with | some [a,b] => some (a,b) | _ => none
def UV (l : List At) : Option aM:=match vls l with | some [a,b,c,d,e,f,g,h,i,j,k,l] => some (((a,b),(c,d),(e,f)),((g,h),(i,j),(k,l))) | _ => none
def Rdv {α γ : Type} (rd : List At → Option α) (qn : γ → List At) (mm : γ → α) : Prop:=∀ l x,rd l = some x → ∃ n,aA l = aA (qn n) ∧ mm n = x
theorem NP : ∀ {l : List At} {m : List Fq},vls l = some m → ∃ ns : List Nat,aA l = aA (ns.map At.q) ∧ ns.map m1 = m
 | [],m,h => by cases h; exact ⟨[],rfl,rfl⟩
 | a :: r,m,h => by
  unfold vls at h;split at h
  ·rename_i x l' h1 h2;cases h;obtain ⟨ns,e1,e2⟩:=NP h2;cases a with
   | f y => cases h1; exact ⟨x.1 :: ns,by show w4 x.1 ++ aA r = w4 x.1 ++ aA (ns.map At.q); rw [e1],by rw [List.map_cons,e2,Ln]⟩
   | q y => cases h1; exact ⟨y :: ns,by show w4 y ++ aA r = w4 y ++ aA (ns.map At.q); rw [e1],by rw [List.map_cons,e2]⟩
   | c v => cases h1
  ·cases h
theorem Xp : Rdv rv1 q1 m1:=fun l x h => by
 unfold rv1 at h;split at h
 ·rename_i a hn;cases h;obtain ⟨ns,e1,e2⟩:=NP hn
  match ns,e2 with
  | [n],e2 => cases e2; exact ⟨n,e1,rfl⟩
 ·cases h
theorem fP : Rdv KU q2 m2:=fun l x h => by
 unfold KU at h;split at h
 ·rename_i a b hn;cases h;obtain ⟨ns,e1,e2⟩:=NP hn
  match ns,e2 with
  | [n,m],e2 => cases e2; exact ⟨(n,m),e1,rfl⟩
 ·cases h
theorem sZ : Rdv UV tC fW:=fun l x h => by
 unfold UV at h;split at h
 ·rename_i hn;cases h;obtain ⟨ns,e1,e2⟩:=NP hn
  match ns,e2 with
  | [a,b,c,d,e,f,g,h,i,j,k,l],e2 => cases e2; exact ⟨(((a,b),(c,d),(e,f)),((g,h),(i,j),(k,l))),e1,rfl⟩
 ·cases h
theorem jX {P : Program} {f : FuncId} {α γ : Type} {rd : List At → Option α} {qn : γ → List At} {mm : γ → α} (hr : Rdv rd qn mm) {op : α → List Prop × RV} (h : ∀ x,aZ (op (mm x)).1 → ∀ args w,bR w [.v (.fl (qn x))] args → Good P f (op (mm x)).2 args w) :
  ∀ cs pre r,g1 rd op cs = some (pre,r) → aZ pre → ∀ (args : List Value) (w : World),bR w cs args → Good P f r args w:=by
 intro cs pre r hg hp args w ha;unfold g1 at hg;split at hg
 ·rename_i l;split at hg
  ·rename_i x hx;obtain ⟨n,e1,rfl⟩:=hr l x hx;have e : op (mm n) = (pre,r):=by simpa using hg
   have:=h n (by rw [e]; exact hp) args w (by
    rw [BR ha,e1];exact ⟨rfl,trivial⟩)
   rw [e] at this;exact this
  ·cases hg
 ·cases hg
theorem zV {P : Program} {f : FuncId} {α γ α' γ' : Type} {rd : List At → Option α} {qn : γ → List At} {mm : γ → α} {rd' : List At → Option α'} {qn' : γ' → List At} {mm' : γ' → α'} (hr : Rdv rd qn mm) (hr' : Rdv rd' qn' mm') {op : α → α' → List Prop × RV}
  (h : ∀ x y,aZ (op (mm x) (mm' y)).1 → ∀ args w,bR w [.v (.fl (qn x)),.v (.fl (qn' y))] args → Good P f (op (mm x) (mm' y)).2 args w) :
  ∀ cs pre r,g2 rd rd' op cs = some (pre,r) → aZ pre → ∀ (args : List Value) (w : World),bR w cs args → Good P f r args w:=by
 intro cs pre r hg hp args w ha;unfold g2 at hg;split at hg
 ·rename_i l m;split at hg
  ·rename_i x y hx hy;obtain ⟨n,e1,rfl⟩:=hr l x hx;obtain ⟨n',e2,rfl⟩:=hr' m y hy;have e : op (mm n) (mm' n') = (pre,r):=by simpa using hg
   have:=h n n' (by rw [e]; exact hp) args w (by
    rw [NI ha,e1,e2];exact ⟨rfl,rfl,trivial⟩)
   rw [e] at this;exact this
  ·cases hg
 ·cases hg
theorem JX (c : Bool)  : bK prog (AP c) qN (fun _ => true) f185 60 [] = some ([],.one (.fl [.f Gh.1,.f Gh.2,.f ID.1,.f ID.2,.f BM.1,.f BM.2,.f Mr.1,.f Mr.2,.f Mq.1,.f Mq.2,.f fb5.1,.f fb5.2])):=by kernel_rfl
def sQ (c : Bool) : Tab:=(AP c).add 185 (g0 (.one (.fl [.f Gh.1,.f Gh.2,.f ID.1,.f ID.2,.f BM.1,.f BM.2,.f Mr.1,.f Mr.2,.f Mq.1,.f Mq.2,.f fb5.1,.f fb5.2])))
theorem xE (c : Bool) : TabOk prog (sQ c):=(Ku c).ad func185 (gP fun w => aH aG (Ku c) aL func185 (JX c) trivial (args:=[]) trivial)
theorem EP (c : Bool)  : bK prog (sQ c) qN (fun _ => true) f183 60 [] = some ([],.one (.fl [.f Pl,.f Iv,.f Pk,.f Pj,.f Pi,.f Ph])):=by kernel_rfl
def qS (c : Bool) : Tab:=(sQ c).add 183 (g0 (.one (.fl [.f Pl,.f Iv,.f Pk,.f Pj,.f Pi,.f Ph])))
theorem uJ (c : Bool) : TabOk prog (qS c):=(xE c).ad func183 (gP fun w => aH aG (xE c) aL func183 (EP c) trivial (args:=[]) trivial)
theorem Yl (c : Bool) (x : aM) : bK prog (qS c) qN (fun _ => true) f141 80 [.v (.fl (aN x))] = some ([],.one (.fl (aN (cQ x)))):=by kernel_rfl
def Hp (c : Bool) : Tab:=(qS c).add 141 (g1 pV fun x => ([],.one (.fl (aN (cQ x)))))
theorem Kn (c : Bool) : TabOk prog (Hp c):=(uJ c).ad func141 (bJ eD fun x hp args w ha => aH aG (uJ c) aL func141 (Yl c x) hp ha)
theorem Pp (c : Bool) (x : aM) : bK prog (Hp c) qN (fun _ => true) f140 80 [.v (.fl (aN x))] = some ([],.one (.fl (aN (cJ x)))):=by kernel_rfl
def SL (c : Bool) : Tab:=(Hp c).add 140 (g1 pV fun x => ([],.one (.fl (aN (cJ x)))))
theorem YB (c : Bool) : TabOk prog (SL c):=(Kn c).ad func140 (bJ eD fun x hp args w ha => aH aG (Kn c) aL func140 (Pp c x) hp ha)
theorem aMI {R : Type} (K : CR R) (a b v : R) : K.add (K.mul a a) (K.mul v (K.mul b b)) = K.sub (K.sub (K.mul (K.add a b) (K.add a (K.mul v b))) (K.mul a b)) (K.mul v (K.mul a b)) :=
 aE K (aQ K [a,b,v]) (.add (.mul (.v 0) (.v 0)) (.mul (.v 2) (.mul (.v 1) (.v 1)))) (.add (.add (.mul (.add (.v 0) (.v 1)) (.add (.v 0) (.mul (.v 2) (.v 1)))) (.neg (.mul (.v 0) (.v 1)))) (.neg (.mul (.v 2) (.mul (.v 0) (.v 1))))) (by decide)
theorem aMH {R : Type} (K : CR R) (a b : R) : K.add (K.mul a b) (K.mul b a) = K.add (K.mul a b) (K.mul a b):=by rw [K.mul_comm b a]
theorem Cg (c : Bool) (x : aM) : bK prog (SL c) qN (fun _ => true) f168 60 [.v (.fl (aN x))] = some ([],.one (.fl (aN ((F6.sub (F6.sub (F6.mul (F6.add x.1 x.2) (F6.add x.1 (F6.mul vE x.2))) (F6.mul x.1 x.2)) (F6.mul vE (F6.mul x.1 x.2)),F6.add (F6.mul x.1 x.2) (F6.mul x.1 x.2)))))):=by kernel_rfl
theorem Dv (x : aM) : aD.mul x x = (F6.sub (F6.sub (F6.mul (F6.add x.1 x.2) (F6.add x.1 (F6.mul vE x.2))) (F6.mul x.1 x.2)) (F6.mul vE (F6.mul x.1 x.2)),F6.add (F6.mul x.1 x.2) (F6.mul x.1 x.2)):=by
 exact Prod.ext (aMI F6 x.1 x.2 vE) (aMH F6 x.1 x.2)
def eC (c : Bool) : Tab:=(SL c).add 168 (g1 pV fun x => ([],.one (.fl (aN (aD.mul x x)))))
theorem dJ (c : Bool) : TabOk prog (eC c):=(YB c).ad func168 (bJ eD fun x hp args w ha => by show Good _ _ (.one (.fl (aN (aD.mul x x)))) _ _; rw [Dv]; exact aH aG (YB c) aL func168 (Cg c x) hp ha)
def bP (n : Int) : Int:=(IntKind.i64.wrap (n.tmod 12 + 12)).tmod 12
def dV : Nat → aM → aM
 | 0,x => x
 | n + 1,x => cQ (dV n x)
theorem Dk (c : Bool) (x : sS) (n : Int) : aX prog qN (fun _ => ⟨fun _ => eC c,fun _ => true,fun s => bif Nat.beq s 9 then some (.int .i64 0) else none⟩) f72 60 [.v (.fl (tC x)),.v (.im (.int .i64 n))] = some ([aI .rem .i64 (IntKind.i64.wrap (n.tmod 12 + 12)) 12 = some (.int .i64 0)],.one (.fl (aN (fW x)))):=by kernel_rfl
theorem Dj (c : Bool) (x : sS) (n : Int) : aX prog qN (fun _ => ⟨fun _ => eC c,fun _ => true,fun s => bif Nat.beq s 9 then some (.int .i64 1) else none⟩) f72 60 [.v (.fl (tC x)),.v (.im (.int .i64 n))] = some ([aI .rem .i64 (IntKind.i64.wrap (n.tmod 12 + 12)) 12 = some (.int .i64 1)],.one (.fl (aN (cQ (fW x))))):=by kernel_rfl
theorem Di (c : Bool) (x : sS) (n : Int) : aX prog qN (fun _ => ⟨fun _ => eC c,fun _ => true,fun s => bif Nat.beq s 9 then some (.int .i64 2) else none⟩) f72 60 [.v (.fl (tC x)),.v (.im (.int .i64 n))] = some ([aI .rem .i64 (IntKind.i64.wrap (n.tmod 12 + 12)) 12 = some (.int .i64 2)],.one (.fl (aN (cJ (fW x))))):=by kernel_rfl
theorem Dh (c : Bool) (x : sS) (n : Int) : aX prog qN (fun _ => ⟨fun _ => eC c,fun _ => true,fun s => bif Nat.beq s 9 then some (.int .i64 3) else none⟩) f72 60 [.v (.fl (tC x)),.v (.im (.int .i64 n))] = some ([aI .rem .i64 (IntKind.i64.wrap (n.tmod 12 + 12)) 12 = some (.int .i64 3)],.one (.fl (aN (cQ (cJ (fW x)))))):=by kernel_rfl
theorem Dg (c : Bool) (x : sS) (n : Int) : aX prog qN (fun _ => ⟨fun _ => eC c,fun _ => true,fun s => bif Nat.beq s 9 then some (.int .i64 4) else none⟩) f72 60 [.v (.fl (tC x)),.v (.im (.int .i64 n))] = some ([aI .rem .i64 (IntKind.i64.wrap (n.tmod 12 + 12)) 12 = some (.int .i64 4)],.one (.fl (aN (cJ (cJ (fW x)))))):=by kernel_rfl
theorem Df (c : Bool) (x : sS) (n : Int) : aX prog qN (fun _ => ⟨fun _ => eC c,fun _ => true,fun s => bif Nat.beq s 9 then some (.int .i64 5) else none⟩) f72 60 [.v (.fl (tC x)),.v (.im (.int .i64 n))] = some ([aI .rem .i64 (IntKind.i64.wrap (n.tmod 12 + 12)) 12 = some (.int .i64 5)],.one (.fl (aN (cQ (cJ (cJ (fW x))))))):=by kernel_rfl
theorem De (c : Bool) (x : sS) (n : Int) : aX prog qN (fun _ => ⟨fun _ => eC c,fun _ => true,fun s => bif Nat.beq s 9 then some (.int .i64 6) else none⟩) f72 60 [.v (.fl (tC x)),.v (.im (.int .i64 n))] = some ([aI .rem .i64 (IntKind.i64.wrap (n.tmod 12 + 12)) 12 = some (.int .i64 6)],.one (.fl (aN (bZ (fW x))))):=by kernel_rfl
theorem Dd (c : Bool) (x : sS) (n : Int) : aX prog qN (fun _ => ⟨fun _ => eC c,fun _ => true,fun s => bif Nat.beq s 9 then some (.int .i64 7) else none⟩) f72 60 [.v (.fl (tC x)),.v (.im (.int .i64 n))] = some ([aI .rem .i64 (IntKind.i64.wrap (n.tmod 12 + 12)) 12 = some (.int .i64 7)],.one (.fl (aN (cQ (bZ (fW x)))))):=by kernel_rfl
theorem Dc (c : Bool) (x : sS) (n : Int) : aX prog qN (fun _ => ⟨fun _ => eC c,fun _ => true,fun s => bif Nat.beq s 9 then some (.int .i64 8) else none⟩) f72 60 [.v (.fl (tC x)),.v (.im (.int .i64 n))] = some ([aI .rem .i64 (IntKind.i64.wrap (n.tmod 12 + 12)) 12 = some (.int .i64 8)],.one (.fl (aN (cJ (bZ (fW x)))))):=by kernel_rfl
theorem Db (c : Bool) (x : sS) (n : Int) : aX prog qN (fun _ => ⟨fun _ => eC c,fun _ => true,fun s => bif Nat.beq s 9 then some (.int .i64 9) else none⟩) f72 60 [.v (.fl (tC x)),.v (.im (.int .i64 n))] = some ([aI .rem .i64 (IntKind.i64.wrap (n.tmod 12 + 12)) 12 = some (.int .i64 9)],.one (.fl (aN (cQ (cJ (bZ (fW x))))))):=by kernel_rfl
theorem WC (c : Bool) (x : sS) (n : Int) : aX prog qN (fun _ => ⟨fun _ => eC c,fun _ => true,fun s => bif Nat.beq s 9 then some (.int .i64 10) else none⟩) f72 60 [.v (.fl (tC x)),.v (.im (.int .i64 n))] = some ([aI .rem .i64 (IntKind.i64.wrap (n.tmod 12 + 12)) 12 = some (.int .i64 10)],.one (.fl (aN (cJ (cJ (bZ (fW x))))))):=by kernel_rfl
theorem WB (c : Bool) (x : sS) (n : Int) : aX prog qN (fun _ => ⟨fun _ => eC c,fun _ => true,fun s => bif Nat.beq s 9 then some (.int .i64 11) else none⟩) f72 60 [.v (.fl (tC x)),.v (.im (.int .i64 n))] = some ([aI .rem .i64 (IntKind.i64.wrap (n.tmod 12 + 12)) 12 = some (.int .i64 11)],.one (.fl (aN (cQ (cJ (cJ (bZ (fW x)))))))):=by kernel_rfl
def aCD : kZ
 | [.v (.fl l),.v (.im (.int .i64 n))] => match UV l with
  | some x => some ([],.one (.fl (aN (dV (bP n).toNat x))))
  | none => none
 | _ => none
theorem xN (k : Nat) (x : aM) : dV (k + 2) x = cJ (dV k x):=XZ _
theorem zS (x : aM) : dV 6 x = bZ x:=by rw [xN 4,xN 2,xN 0,← wB]; rfl
theorem qC (m : Nat) : ∀ (n : Nat) (x : aM),dV (n + m) x = dV n (dV m x)
 | 0,x => by rw [Nat.zero_add]; rfl
 | n + 1,x => by rw [show n + 1 + m = (n + m) + 1 by omega]; show cQ (dV (n + m) x) = cQ (dV n (dV m x)); rw [qC m n x]
theorem aCc (x : aM) : dV 0 x = x:=rfl
theorem Fr (x : aM) : dV 1 x = (cQ x):=rfl
theorem QP (x : aM) : dV 2 x = (cJ x):=by rw [xN 0]; rfl
theorem Fp (x : aM) : dV 3 x = (cQ (cJ x)):=by show cQ (dV 2 x) = _; rw [xN 0]; rfl
theorem aCb (x : aM) : dV 4 x = (cJ (cJ x)):=by rw [xN 2,xN 0]; rfl
theorem aCa (x : aM) : dV 5 x = (cQ (cJ (cJ x))):=by show cQ (dV 4 x) = _; rw [xN 2,xN 0]; rfl
theorem aPk (x : aM) : dV 6 x = (bZ x):=by rw [show (6 : Nat) = 0 + 6 from rfl,qC,zS]; exact aCc _
theorem aPj (x : aM) : dV 7 x = (cQ (bZ x)):=by rw [show (7 : Nat) = 1 + 6 from rfl,qC,zS]; exact Fr _
theorem aPi (x : aM) : dV 8 x = (cJ (bZ x)):=by rw [show (8 : Nat) = 2 + 6 from rfl,qC,zS]; exact QP _
theorem aPh (x : aM) : dV 9 x = (cQ (cJ (bZ x))):=by rw [show (9 : Nat) = 3 + 6 from rfl,qC,zS]; exact Fp _
theorem aHV (x : aM) : dV 10 x = (cJ (cJ (bZ x))):=by rw [show (10 : Nat) = 4 + 6 from rfl,qC,zS]; exact aCb _
theorem aHU (x : aM) : dV 11 x = (cQ (cJ (cJ (bZ x)))):=by rw [show (11 : Nat) = 5 + 6 from rfl,qC,zS]; exact aCa _
theorem eH {n : Int} {k : Int} (h : bP n = k) : aI .rem .i64 (IntKind.i64.wrap (n.tmod 12 + 12)) 12 = some (.int .i64 k):=by
 show some (Value.int .i64 ((IntKind.i64.wrap (n.tmod 12 + 12)).tmod 12)) = _;rw [show (IntKind.i64.wrap (n.tmod 12 + 12)).tmod 12 = k from h]
theorem aFl (n : Int) : -12 < n.tmod 12 ∧ n.tmod 12 < 12:=by
 constructor
 ·exact Int.lt_tmod_of_pos n (by omega)
 ·exact Int.tmod_lt_of_pos n (by omega)
theorem Du (n : Int) : bP n = (n.tmod 12 + 12).tmod 12 ∧ 0 ≤ bP n ∧ bP n < 12:=by
 have h:=aFl n;have e : IntKind.i64.wrap (n.tmod 12 + 12) = n.tmod 12 + 12:=IntWalk.i64_in _ (by omega);unfold bP;rw [e];exact ⟨rfl,Int.tmod_nonneg 12 (by omega),Int.tmod_lt_of_pos _ (by omega)⟩
theorem aIC (c : Bool) : ∀ cs pre r,aCD cs = some (pre,r) → aZ pre → ∀ (args : List Value) (w : World),bR w cs args → Good prog 72 r args w:=by
 intro cs pre r hg hp args w ha;unfold aCD at hg;split at hg
 ·rename_i l n;split at hg
  ·rename_i x hx;cases hg;obtain ⟨a,e1,rfl⟩:=sZ l x hx;have ha' : bR w [.v (.fl (tC a)),.v (.im (.int .i64 n))] args:=by
    match args,ha with
    | [v,u],ha =>
     refine ⟨?_,ha.2.1,trivial⟩;show v = .agg (aA (tC a)).toArray;rw [← e1];exact ha.1
    | [],ha => exact ha.elim
    | [_],ha => exact ha.2.elim
    | _ :: _ :: _ :: _,ha => exact ha.2.2.elim
   obtain ⟨_,h0,h1⟩:=Du n;have hk : (bP n).toNat = 0 ∨ (bP n).toNat = 1 ∨ (bP n).toNat = 2 ∨ (bP n).toNat = 3 ∨ (bP n).toNat = 4 ∨ (bP n).toNat = 5 ∨ (bP n).toNat = 6 ∨ (bP n).toNat = 7 ∨ (bP n).toNat = 8 ∨ (bP n).toNat = 9 ∨ (bP n).toNat = 10 ∨ (bP n).toNat = 11:=by omega
   rcases hk with h | h | h | h | h | h | h | h | h | h | h | h
   ·rw [h,aCc];exact aB aG (fun _ _ => dJ c) aL func72 (Dk c a n) ⟨eH (by omega),trivial⟩ ha'
   ·rw [h,Fr];exact aB aG (fun _ _ => dJ c) aL func72 (Dj c a n) ⟨eH (by omega),trivial⟩ ha'
   ·rw [h,QP];exact aB aG (fun _ _ => dJ c) aL func72 (Di c a n) ⟨eH (by omega),trivial⟩ ha'
   ·rw [h,Fp];exact aB aG (fun _ _ => dJ c) aL func72 (Dh c a n) ⟨eH (by omega),trivial⟩ ha'
   ·rw [h,aCb];exact aB aG (fun _ _ => dJ c) aL func72 (Dg c a n) ⟨eH (by omega),trivial⟩ ha'
   ·rw [h,aCa];exact aB aG (fun _ _ => dJ c) aL func72 (Df c a n) ⟨eH (by omega),trivial⟩ ha'
   ·rw [h,aPk];exact aB aG (fun _ _ => dJ c) aL func72 (De c a n) ⟨eH (by omega),trivial⟩ ha'
   ·rw [h,aPj];exact aB aG (fun _ _ => dJ c) aL func72 (Dd c a n) ⟨eH (by omega),trivial⟩ ha'
   ·rw [h,aPi];exact aB aG (fun _ _ => dJ c) aL func72 (Dc c a n) ⟨eH (by omega),trivial⟩ ha'
   ·rw [h,aPh];exact aB aG (fun _ _ => dJ c) aL func72 (Db c a n) ⟨eH (by omega),trivial⟩ ha'
   ·rw [h,aHV];exact aB aG (fun _ _ => dJ c) aL func72 (WC c a n) ⟨eH (by omega),trivial⟩ ha'
   ·rw [h,aHU];exact aB aG (fun _ _ => dJ c) aL func72 (WB c a n) ⟨eH (by omega),trivial⟩ ha'
  ·cases hg
 ·cases hg
def JI (c : Bool) : Tab:=(eC c).add 72 aCD
theorem LU (c : Bool) : TabOk prog (JI c):=(dJ c).ad func72 (aIC c)
theorem Dr (c : Bool) (x : sS) : bK prog (JI c) qN (fun _ => true) f110 40 [.v (.fl (tC x))] = some ([],.one (.fl (aN (bZ (fW x))))):=by kernel_rfl
def Ap (c : Bool) : Tab:=(JI c).add 110 (g1 UV (fun x => ([],.one (.fl (aN (bZ x))))))
theorem Ti (c : Bool) : TabOk prog (Ap c):=(LU c).ad func110 (jX sZ fun x hp args w ha => aH aG (LU c) aL func110 (Dr c x) hp ha)
theorem Vw {x y : Fq} (h : w4 x.1 = w4 y.1) : x = y:=by
 unfold w4 at h;simp only [List.cons.injEq,Value.int.injEq,true_and,and_true,Int.ofNat_inj] at h;apply Fin.ext;rw [← cE x.2,← cE y.2,h.1,h.2.1,h.2.2.1,h.2.2.2]
theorem xQ : ∀ (l m : List Fq),aA (l.map .f) = aA (m.map .f) → l = m
 | [],[],_ => rfl
 | a :: r,b :: s,h => by
  have h' : w4 a.1 ++ aA (r.map .f) = w4 b.1 ++ aA (s.map .f):=h;obtain ⟨h1,h2⟩:=List.append_inj h' rfl;rw [Vw h1,xQ r s h2]
 | [],b :: s,h => by cases h
 | a :: r,[],h => by cases h
theorem aQx {a b : Fq} (h : aA [.f a] = aA [.f b]) : a = b:=Vw (by
 have h' : w4 a.1 ++ [] = w4 b.1 ++ []:=h
 rwa [List.append_nil,List.append_nil] at h')
theorem aQw {a b : Q2} (h : aA (e2 a) = aA (e2 b)) : a = b:=by
 have:=xQ [a.1,a.2] [b.1,b.2] h;simp only [List.cons.injEq,and_true] at this;exact Prod.ext this.1 this.2
def KR : Nat:=4965661367192848881
def yO : Nat:=6 * KR
def q4N : Nat:=FP.M ^ 4 - FP.M ^ 2 + 1
theorem nP (x : aM) : cQ x = bN aD x FP.M:=(p12 x).symm
def JL : Nat:=FP.M * FP.M
def p6N : Nat:=JL * (JL * JL)
theorem wC (x : aM) : cJ x = bN aD x JL:=by rw [← XZ,nP,nP,← dU,JL]
theorem IM (x : aM) : bZ x = bN aD x p6N:=by
 rw [← wB,wC,wC,wC,← dU,← dU,p6N]
theorem KX (x : aM) : bN aD x 1 = x:=by show aD.mul aD.one x = x; rw [aD.one_mul]
def qJ (y : aM) : aM:=bN aD y yO
def QX (y : aM) : aM:=bN aD (qJ y) KR
def hCu (y : aM) : aM:=bN aD (QX y) yO
def hT (y : aM) : aM:=aD.mul (QX y) (QX y)
def hG (y : aM) : aM:=aD.mul (aD.mul (aD.mul (hCu y) (QX y)) (hT y)) (aD.mul (qJ y) (qJ y))
def hR (y : aM) : aM:=aD.mul (aD.mul (aD.mul (hG y) (hT y)) (qJ y)) (aD.mul y y)
def hX (y : aM) : aM:=aD.mul (aD.mul (aD.mul (dV 3 y) (dV 2 (aD.mul y (QX y)))) (dV 1 (aD.mul y (bZ (hG y))))) (bZ (hR y))
def eS2 : Nat:=yO * KR
def eCu : Nat:=eS2 * yO
def eT : Nat:=eS2 + eS2
def eG : Nat:=eCu + eS2 + eT + (yO + yO)
def eR : Nat:=eG + eT + yO + (1 + 1)
def eX : Nat:=JL * FP.M + (1 + eS2) * JL + (1 + eG * p6N) * FP.M + eR * p6N
theorem QV (y : aM) : QX y = bN aD y eS2:=by unfold QX qJ eS2; rw [← dU]
theorem aPy (y : aM) : hCu y = bN aD y eCu:=by unfold hCu eCu; rw [QV,← dU]
theorem aKW (y : aM) : hT y = bN aD y eT:=by unfold hT eT; rw [QV,← cI]
theorem aKX (y : aM) : hG y = bN aD y eG:=by unfold hG eG; rw [aPy,QV,aKW,show qJ y = bN aD y yO from rfl,← cI,← cI,← cI,← cI]
theorem aTi (y : aM) : aD.mul y y = bN aD y (1 + 1):=by rw [cI,KX]
theorem aVa (y : aM) : hR y = bN aD y eR:=by unfold hR eR; rw [aKX,aKW,show qJ y = bN aD y yO from rfl,aTi,← cI,← cI,← cI]
theorem aPl (y : aM) : dV 3 y = bN aD y (JL * FP.M):=by rw [Fp,nP,wC,← dU]
theorem aPm (y : aM) : dV 2 y = bN aD y JL:=by rw [QP,wC]
theorem aPn (y : aM) : dV 1 y = bN aD y FP.M:=by rw [Fr,nP]
theorem FQ (y : aM) (n : Nat) : aD.mul y (bN aD y n) = bN aD y (1 + n):=by rw [cI,KX]
theorem GY (y : aM) : hX y = bN aD y eX:=by
 unfold hX eX;rw [QV,FQ,aPl,aPm,aKX,IM (bN aD y eG),← dU aD y eG,FQ,aPn,aVa,IM (bN aD y eR),← dU,← dU,← dU,← cI,← cI,← cI]
theorem Jk {x k : aM} (h : aD.mul x k = aD.one) (n : Nat) : aD.mul (bN aD x n) (bN aD k n) = aD.one:=by rw [← lV,h,nN]
theorem aFb {x k : aM} (h : aD.mul x k = aD.one) : x ≠ aD.zero:=fun e => by
 rw [e,aD.mul_comm,aD.mul_zero] at h;exact jO.1 h.symm
theorem QS {y : aM} (h : qH y) (n : Nat) : qH (bN aD y n):=by
 obtain ⟨hz,h2⟩:=h;obtain ⟨k,hk⟩:=jO.2 y hz;refine ⟨aFb (Jk hk n),?_⟩;have e : ∀ z,cJ (bN aD z n) = bN aD (cJ z) n:=fun z => (lW aD aD cJ (by decide) oL z n).symm
 rw [e,e,← lV,h2]
theorem aTU : JL + q4N = JL * JL + 1:=by kernel_rfl
theorem Dw {y : aM} (h : qH y) : bN aD y q4N = aD.one:=by
 obtain ⟨hz,h2⟩:=h;obtain ⟨k,hk⟩:=jO.2 y hz;have h3 : bN aD y (JL * JL + 1) = bN aD y JL:=by
  rw [cI,KX,dU,← wC,← wC];exact h2
 rw [← aTU,cI] at h3;have hu:=Jk hk JL;have h4 : aD.mul (bN aD k JL) (aD.mul (bN aD y JL) (bN aD y q4N)) = aD.mul (bN aD k JL) (bN aD y JL):=congrArg (fun t => aD.mul (bN aD k JL) t) h3;rw [← aD.mul_assoc,aD.mul_comm (bN aD k JL),hu,aD.one_mul] at h4;exact h4
def kX : Nat:=eX * Go.Proofs.YtglgakbkdjhojaaGreat.FR.M / q4N
theorem aYE : eX * Go.Proofs.YtglgakbkdjhojaaGreat.FR.M = q4N * kX:=by kernel_rfl
theorem aYw {y : aM} (h : qH y) : bN aD (hX y) Go.Proofs.YtglgakbkdjhojaaGreat.FR.M = aD.one:=by
 rw [GY,← dU,aYE,dU,Dw h,nN]
theorem aVR (x : aM) : bZ (bZ x) = x:=by
 refine Prod.ext rfl ?_;show F6.add F6.zero (F6.neg (F6.add F6.zero (F6.neg x.2))) = x.2;rw [F6.zero_add,F6.zero_add,F6.neg_neg]
def eZ (a : aM) : aM:=aD.mul (cJ (aD.mul (bZ a) (jW a))) (aD.mul (bZ a) (jW a))
def kD (a : aM) : aM:=hX (eZ a)
theorem aLc {a : aM} (h : vF a ≠ F1.zero) : qH (eZ a):=by
 have hk : aD.mul a (jW a) = aD.one:=TJ h;unfold eZ;generalize jW a = k at hk;generalize hy : aD.mul (bZ a) k = y;have hk2 : aD.mul (bZ a) (bZ k) = aD.one:=by rw [← IN,hk]; decide
 have h1 : aD.mul (bZ y) y = aD.one:=by
  rw [← hy,IN,aVR];have : aD.mul (aD.mul a (bZ k)) (aD.mul (bZ a) k) = aD.mul (aD.mul a k) (aD.mul (bZ a) (bZ k)):=by
   rw [aD.mul_assoc,aD.mul_assoc,aD.mul_left_comm (bZ k),aD.mul_left_comm k,aD.mul_comm (bZ k) k,aD.mul_left_comm (bZ a) k,aD.mul_left_comm k (bZ a)]
  rw [this,hk,hk2,aD.one_mul]
 have h3 : cJ (cJ (cJ y)) = bZ y:=wB y;have hne : y ≠ aD.zero:=fun e => by rw [e,aD.mul_zero] at h1; exact jO.1 h1.symm
 refine ⟨fun e => ?_,?_⟩
 ·have h2 : aD.mul (cJ (bZ y)) (cJ y) = aD.one:=by rw [← oL,h1]; decide
  have h4:=congrArg (fun t => aD.mul (aD.mul (cJ (bZ y)) (bZ y)) t) e;simp only [aD.mul_zero] at h4;have h5 : aD.mul (aD.mul (cJ (bZ y)) (bZ y)) (aD.mul (cJ y) y) = aD.one:=by
   rw [aD.mul_assoc,aD.mul_left_comm (bZ y),← aD.mul_assoc,h2,h1,aD.one_mul]
  rw [h5] at h4;exact jO.1 h4
 ·rw [oL,oL,h3];rw [aD.mul_comm (bZ y),aD.mul_assoc,aD.mul_left_comm (bZ y),h1,aD.mul_one]
end Go.Proofs.YtglgakbkdjhojaaGreat.Ex
namespace Go.Proofs.YtglgakbkdjhojaaGreat
open Go.Proofs.Tryz
open Go.RowKit
def Oi (a0 a1 a2 a3 a4 a5 a6 a7 : Nat) : Nat:=a0 + 4294967296 * (a1 + 4294967296 * (a2 + 4294967296 * (a3 + 4294967296 * (a4 + 4294967296 * (a5 + 4294967296 * (a6 + 4294967296 * a7))))))
def ok8 (a0 a1 a2 a3 a4 a5 a6 a7 : Nat) : Prop:=a0 < 4294967296 ∧ a1 < 4294967296 ∧ a2 < 4294967296 ∧ a3 < 4294967296 ∧ a4 < 4294967296 ∧ a5 < 4294967296 ∧ a6 < 4294967296 ∧ a7 < 4294967296
structure QW (w wr : World) (A B P : Nat → Nat) : Prop where
 below : Below w.heap.size w wr
 size : w.heap.size + 1 + 1 + 1 < wr.heap.size
 rowA : RowIs wr w.heap.size 4 A
 rowB : RowIs wr (w.heap.size + 1) 4 B
 rowR : RowIs wr (w.heap.size + 1 + 1) 4 (fun _ => 0)
 rowP : RowIs wr (w.heap.size + 1 + 1 + 1) 4 P
theorem QW.set {w wr : World} {A B P : Nat → Nat} (h : QW w wr A B P) {k d : Nat} (hk : k < 4) : QW w (wr.setCell ⟨w.heap.size + 1 + 1 + 1,k,none⟩ (.int .u64 (d : Nat))) A B (upd P k d) :=
 ⟨h.below.setCell (p:=⟨w.heap.size + 1 + 1 + 1,k,none⟩) (by simp; omega) _,by rw [World.size_setCell]; exact h.size,h.rowA.other (by omega) _,h.rowB.other (by omega) _,h.rowR.other (by omega) _,h.rowP.set hk⟩
theorem QW.drewN {w wr : World} {A B P : Nat → Nat} (h : QW w wr A B P) (n : Nat) : QW w (wr.drewN n) A B P:=⟨h.below.trans (bM _ _ _),h.size,h.rowA,h.rowB,h.rowR,h.rowP⟩
theorem QW.start (w : World) (a0 a1 a2 a3 b0 b1 b2 b3 : Nat) (t : TypeId) : QW w ((((w.alloc (.cells #[.int .u64 a0,.int .u64 a1,.int .u64 a2,.int .u64 a3] t)).alloc (.cells #[.int .u64 b0,.int .u64 b1,.int .u64 b2,.int .u64 b3] t)).alloc (.cells #[.int .u64 0,.int .u64 0,.int .u64 0,.int .u64 0] t)).alloc (.cells #[.int .u64 0,.int .u64 0,.int .u64 0,.int .u64 0] t)) (iV [a0,a1,a2,a3]) (iV [b0,b1,b2,b3]) (fun _ => 0):=by
 refine ⟨?_,by simp,?_,?_,?_,?_⟩
 ·repeat (first | exact Below.refl _ _ | refine Below.alloc ?_ (by first | (simp; done) | (simp; omega)) _)
 ·exact RowIs.mk4 (by simp [go_sem]) (by simp [go_sem]) (by simp [go_sem]) (by simp [go_sem]) (fun k => by simp [go_sem])
 ·exact RowIs.mk4 (by simp [go_sem]) (by simp [go_sem]) (by simp [go_sem]) (by simp [go_sem]) (fun k => by simp [go_sem])
 ·intro k hk
  match k,hk with
  | 0,_ | 1,_ | 2,_ | 3,_ => exact ⟨by simp [go_sem],by simp [go_sem]⟩
 ·intro k hk
  match k,hk with
  | 0,_ | 1,_ | 2,_ | 3,_ => exact ⟨by simp [go_sem],by simp [go_sem]⟩
def aEG (A : Nat) (t : Value) : Prop:=∃ x0 x1 x2 x3 x4 x5 x6 x7 : Nat,t = .agg #[.int .u64 x0,.int .u64 x1,.int .u64 x2,.int .u64 x3,.int .u64 x4,.int .u64 x5,.int .u64 x6,.int .u64 x7] ∧ ok8 x0 x1 x2 x3 x4 x5 x6 x7 ∧ Hid (Oi x0 x1 x2 x3 x4 x5 x6 x7 = A)
def If (wr u : World) (t : Value) : Prop:=∃ p,t = .pointer (some ⟨p,0,none⟩) ∧ wr.heap.size ≤ p ∧ p < u.heap.size ∧ RowIs u p 8 (fun _ => 0)
def set8 (w : World) (b : Nat) (d0 d1 d2 d3 d4 d5 d6 d7 : Nat) : World :=
 (((((((w.setCell ⟨b,0,none⟩ (.int .u64 d0)).setCell ⟨b,1,none⟩ (.int .u64 d1)).setCell ⟨b,2,none⟩ (.int .u64 d2)).setCell ⟨b,3,none⟩ (.int .u64 d3)).setCell ⟨b,4,none⟩ (.int .u64 d4)).setCell ⟨b,5,none⟩ (.int .u64 d5)).setCell ⟨b,6,none⟩ (.int .u64 d6)).setCell ⟨b,7,none⟩ (.int .u64 d7)
theorem RowIs.ext {w : World} {b n : Nat} {P R : Nat → Nat} (h : RowIs w b n P) (e : ∀ k,k < n → P k = R k) : RowIs w b n R:=fun k hk => ⟨by rw [← e k hk]; exact h.cell hk,h.free hk⟩
theorem RowIs.set8 {w : World} {b : Nat} {P : Nat → Nat} (h : RowIs w b 8 P) (d0 d1 d2 d3 d4 d5 d6 d7 : Nat) : RowIs (Go.Proofs.YtglgakbkdjhojaaGreat.set8 w b d0 d1 d2 d3 d4 d5 d6 d7) b 8 (iV [d0,d1,d2,d3,d4,d5,d6,d7]):=by
 have r:=(((((((h.set (show 0 < 8 by omega) (v:=d0)).set (show 1 < 8 by omega) (v:=d1)).set (show 2 < 8 by omega) (v:=d2)).set (show 3 < 8 by omega) (v:=d3)).set (show 4 < 8 by omega) (v:=d4)).set (show 5 < 8 by omega) (v:=d5)).set (show 6 < 8 by omega) (v:=d6)).set (show 7 < 8 by omega) (v:=d7);unfold Go.Proofs.YtglgakbkdjhojaaGreat.set8;refine r.ext fun k hk => ?_
 match k,hk with
 | 0,_ | 1,_ | 2,_ | 3,_ | 4,_ | 5,_ | 6,_ | 7,_ => rfl
theorem RowIs.set8_other {w : World} {b c n : Nat} {P : Nat → Nat} (h : RowIs w b n P) (hc : c ≠ b) (d0 d1 d2 d3 d4 d5 d6 d7 : Nat) : RowIs (Go.Proofs.YtglgakbkdjhojaaGreat.set8 w c d0 d1 d2 d3 d4 d5 d6 d7) b n P :=
 (((((((h.other hc _).other hc _).other hc _).other hc _).other hc _).other hc _).other hc _).other hc _
theorem vM {B : Nat} {w w' : World} {b : Nat} (h : Below B w w') (hb : B ≤ b) (d0 d1 d2 d3 d4 d5 d6 d7 : Nat) : Below B w (set8 w' b d0 d1 d2 d3 d4 d5 d6 d7) :=
 (((((((h.setCell (p:=⟨b,0,none⟩) hb _).setCell (p:=⟨b,1,none⟩) hb _).setCell (p:=⟨b,2,none⟩) hb _).setCell (p:=⟨b,3,none⟩) hb _).setCell (p:=⟨b,4,none⟩) hb _).setCell (p:=⟨b,5,none⟩) hb _).setCell (p:=⟨b,6,none⟩) hb _).setCell (p:=⟨b,7,none⟩) hb _
theorem gG (w : World) (b d0 d1 d2 d3 d4 d5 d6 d7 : Nat) : (set8 w b d0 d1 d2 d3 d4 d5 d6 d7).heap.size = w.heap.size:=by
 unfold set8; simp only [World.size_setCell]
theorem HQ {x0 x1 x2 x3 x4 x5 x6 x7 : Nat} (h : ok8 x0 x1 x2 x3 x4 x5 x6 x7) (k : Nat) : iV [x0,x1,x2,x3,x4,x5,x6,x7] k < 4294967296:=by
 obtain ⟨h0,h1,h2,h3,h4,h5,h6,h7⟩:=h;unfold iV
 match k with
 | 0 => exact h0
 | 1 => exact h1
 | 2 => exact h2
 | 3 => exact h3
 | 4 => exact h4
 | 5 => exact h5
 | 6 => exact h6
 | 7 => exact h7
 | k + 8 => simp
theorem EB (P : Nat → Nat) : Oi (P 0) (P 1) (P 2) (P 3) (P 4) (P 5) (P 6) (P 7) = tot 4294967296 P 8:=by
 unfold Oi;simp only [tot];omega
structure R3 (got : Nat → Bool) (wr : World) (f : Int) (F : FC) (a0 a1 a2 a3 b0 b1 b2 b3 : Nat) (t7 t8 t9 s21 s22 s23 s24 s25 s26 s27 : Value) (u : World) : Prop where
 below : Below wr.heap.size wr u
 g0 : got 0 = true → s21 = .agg #[.int .u64 a0,.int .u64 a1,.int .u64 a2,.int .u64 a3]
 g1 : got 1 = true → aEG (aF a0 a1 a2 a3) s22
 g2 : got 2 = true → s23 = .agg #[.int .u64 b0,.int .u64 b1,.int .u64 b2,.int .u64 b3]
 g3 : got 3 = true → aEG (aF b0 b1 b2 b3) s24
 g4 : got 4 = true → s25 = .int .i64 f
 g5 : got 5 = true → s26 = .agg #[.int .u64 F.m0,.int .u64 F.m1,.int .u64 F.m2,.int .u64 F.m3]
 g6 : got 6 = true → aEG F.M s27
 g7 : got 7 = true → If wr u t7
 g8 : got 8 = true → If wr u t8
 g9 : got 9 = true → If wr u t9
 n78 : got 7 = true → got 8 = true → t7 ≠ t8
 n79 : got 7 = true → got 9 = true → t7 ≠ t9
 n89 : got 8 = true → got 9 = true → t8 ≠ t9
section
variable {got : Nat → Bool} {wr u u' : World} {f : Int} {F : FC} {a0 a1 a2 a3 b0 b1 b2 b3 : Nat} {t7 t8 t9 s21 s22 s23 s24 s25 s26 s27 : Value}
theorem R3.start (wr : World) (f : Int) (F : FC) (a0 a1 a2 a3 b0 b1 b2 b3 : Nat) : R3 (fun _ => false) wr f F a0 a1 a2 a3 b0 b1 b2 b3 undef undef undef undef undef undef undef undef undef undef wr.drew :=
 ⟨(Below.refl _ _).drew,fun h => Bool.noConfusion h,fun h => Bool.noConfusion h,fun h => Bool.noConfusion h,fun h => Bool.noConfusion h,fun h => Bool.noConfusion h,fun h => Bool.noConfusion h,fun h => Bool.noConfusion h,fun h => Bool.noConfusion h,fun h => Bool.noConfusion h,fun h => Bool.noConfusion h,fun h => Bool.noConfusion h,fun h => Bool.noConfusion h,fun h => Bool.noConfusion h⟩
end
structure ThreeH (wr u : World) (p q r : Nat) (X Y Z : Nat → Nat) (A B M : Nat) : Prop where
 below : Below wr.heap.size wr u
 lp : wr.heap.size ≤ p
 lq : wr.heap.size ≤ q
 lr : wr.heap.size ≤ r
 up : p < u.heap.size
 uq : q < u.heap.size
 ur : r < u.heap.size
 pq : p ≠ q
 pr : p ≠ r
 qr : q ≠ r
 rowX : RowIs u p 8 X
 rowY : RowIs u q 8 Y
 rowZ : RowIs u r 8 Z
 ltX : ∀ k,X k < 4294967296
 ltY : ∀ k,Y k < 4294967296
 ltZ : ∀ k,Z k < 4294967296
 eX : tot 4294967296 X 8 = A
 eY : tot 4294967296 Y 8 = B
 eZ : tot 4294967296 Z 8 = M
theorem ThreeH.store {wr u : World} {p q r A B M x0 x1 x2 x3 x4 x5 x6 x7 y0 y1 y2 y3 y4 y5 y6 y7 z0 z1 z2 z3 z4 z5 z6 z7 : Nat} (hx : ok8 x0 x1 x2 x3 x4 x5 x6 x7) (hy : ok8 y0 y1 y2 y3 y4 y5 y6 y7) (hz : ok8 z0 z1 z2 z3 z4 z5 z6 z7) (ex : Hid (Oi x0 x1 x2 x3 x4 x5 x6 x7 = A)) (ey : Hid (Oi y0 y1 y2 y3 y4 y5 y6 y7 = B)) (ez : Hid (Oi z0 z1 z2 z3 z4 z5 z6 z7 = M))
  (lp : wr.heap.size ≤ p) (lq : wr.heap.size ≤ q) (lr : wr.heap.size ≤ r) (up : p < u.heap.size) (uq : q < u.heap.size) (ur : r < u.heap.size) (pq : p ≠ q) (pr : p ≠ r) (qr : q ≠ r) (rp : RowIs u p 8 (fun _ => 0)) (rq : RowIs u q 8 (fun _ => 0)) (rr : RowIs u r 8 (fun _ => 0)) (hbl : Below wr.heap.size wr u) :
  ThreeH wr (set8 (set8 (set8 u p x0 x1 x2 x3 x4 x5 x6 x7) q y0 y1 y2 y3 y4 y5 y6 y7) r z0 z1 z2 z3 z4 z5 z6 z7) p q r (iV [x0,x1,x2,x3,x4,x5,x6,x7]) (iV [y0,y1,y2,y3,y4,y5,y6,y7]) (iV [z0,z1,z2,z3,z4,z5,z6,z7]) A B M :=
 ⟨vM (vM (vM hbl lp _ _ _ _ _ _ _ _) lq _ _ _ _ _ _ _ _) lr _ _ _ _ _ _ _ _,lp,lq,lr,by rw [gG,gG,gG]; exact up,by rw [gG,gG,gG]; exact uq,by rw [gG,gG,gG]; exact ur,pq,pr,qr,
  ((rp.set8 _ _ _ _ _ _ _ _).set8_other (fun e => pq e.symm) _ _ _ _ _ _ _ _).set8_other (fun e => pr e.symm) _ _ _ _ _ _ _ _,((rq.set8_other pq _ _ _ _ _ _ _ _).set8 _ _ _ _ _ _ _ _).set8_other (fun e => qr e.symm) _ _ _ _ _ _ _ _,((rr.set8_other pr _ _ _ _ _ _ _ _).set8_other qr _ _ _ _ _ _ _ _).set8 _ _ _ _ _ _ _ _,HQ hx,HQ hy,HQ hz,
  (EB (iV [x0,x1,x2,x3,x4,x5,x6,x7])).symm.trans ex.out,(EB (iV [y0,y1,y2,y3,y4,y5,y6,y7])).symm.trans ey.out,(EB (iV [z0,z1,z2,z3,z4,z5,z6,z7])).symm.trans ez.out⟩
structure MT (w wr : World) (p q r t : Nat) (X Y Z P : Nat → Nat) : Prop where
 below : Below w.heap.size w wr
 res : Row4 wr (w.heap.size + 1 + 1) 0 0 0 0
 rowX : RowIs wr p 8 X
 rowY : RowIs wr q 8 Y
 rowZ : RowIs wr r 8 Z
 rowP : RowIs wr t 10 P
 lt : ∀ k,P k < 4294967296
section
variable {w wr : World} {p q r t : Nat} {X Y Z P : Nat → Nat}
theorem MT.set (h : MT w wr p q r t X Y Z P) (h2 : w.heap.size + 1 + 1 < t) (pt : p < t) (qt : q < t) (rt : r < t) {k d : Nat} (hk : k < 10) (hd : d < 4294967296) :
  MT w (wr.setCell ⟨t,k,none⟩ (.int .u64 (d : Nat))) p q r t X Y Z (upd P k d) :=
 ⟨h.below.setCell (p:=⟨t,k,none⟩) (by show w.heap.size ≤ t; omega) _,h.res.other (by omega) _,h.rowX.other (by omega) _,h.rowY.other (by omega) _,h.rowZ.other (by omega) _,h.rowP.set hk,
  fun j => by unfold upd; split; exact hd; exact h.lt j⟩
theorem MT.drewN (h : MT w wr p q r t X Y Z P) (n : Nat) : MT w (wr.drewN n) p q r t X Y Z P:=⟨h.below.trans (bM _ _ _),h.res.drewN n,h.rowX,h.rowY,h.rowZ,h.rowP,h.lt⟩
end
structure OW (w wr : World) (t o : Nat) (P O : Nat → Nat) : Prop where
 below : Below w.heap.size w wr
 res : Row4 wr (w.heap.size + 1 + 1) 0 0 0 0
 rowP : RowIs wr t 10 P
 rowO : RowIs wr o 4 O
 lo : o < wr.heap.size
theorem OW.drewN {w wr : World} {t o : Nat} {P O : Nat → Nat} (h : OW w wr t o P O) (n : Nat) : OW w (wr.drewN n) t o P O:=⟨h.below.trans (bM _ _ _),h.res.drewN n,h.rowP,h.rowO,h.lo⟩
theorem OW.set {w wr : World} {t o : Nat} {P O : Nat → Nat} (h : OW w wr t o P O) (h2 : w.heap.size + 1 + 1 < t) (ht : t < o) {k d : Nat} (hk : k < 4) : OW w (wr.setCell ⟨o,k,none⟩ (.int .u64 (d : Nat))) t o P (upd O k d) :=
 ⟨h.below.setCell (p:=⟨o,k,none⟩) (by show w.heap.size ≤ o; omega) _,h.res.other (by omega) _,h.rowP.other (by omega) _,h.rowO.set hk,by rw [World.size_setCell]; exact h.lo⟩
end Go.Proofs.YtglgakbkdjhojaaGreat
namespace Go.Proofs.YtglgakbkdjhojaaGreat.Ex
open Go.Proofs.Tryz
open Classical
section
variable {R : Type} (K : CR R) (inv : R → R)
abbrev Jc (R : Type):=R × R × R
def fM (p : Jc R) : Pt R:=if p.2.2 = K.zero then none else some (K.mul p.1 (K.mul (inv p.2.2) (inv p.2.2)),K.mul p.2.1 (K.mul (K.mul (inv p.2.2) (inv p.2.2)) (inv p.2.2)))
def dSl (p : Jc R) : R:=K.add (K.add (K.mul p.1 p.1) (K.mul p.1 p.1)) (K.mul p.1 p.1)
def dTw (p : Jc R) : R:=K.add (K.mul p.2.1 p.2.1) (K.mul p.2.1 p.2.1)
def dFo (p : Jc R) : R:=K.add (dTw K p) (dTw K p)
def dBa (p : Jc R) : R:=K.mul p.1 (dFo K p)
def dX (p : Jc R) : R:=K.sub (K.mul (dSl K p) (dSl K p)) (K.add (dBa K p) (dBa K p))
def dY (p : Jc R) : R:=K.sub (K.mul (dSl K p) (K.sub (dBa K p) (dX K p))) (K.mul (dFo K p) (dTw K p))
def cH (p : Jc R) : Jc R:=(dX K p,dY K p,K.mul (K.add p.2.1 p.2.1) p.2.2)
def DF (p q : Jc R) : R:=K.mul p.1 (K.mul q.2.2 q.2.2)
def BI (p q : Jc R) : R:=K.mul p.2.1 (K.mul (K.mul q.2.2 q.2.2) q.2.2)
def BJ (p q : Jc R) : R:=K.sub (DF K q p) (DF K p q)
def ZE (p q : Jc R) : R:=K.sub (BI K q p) (BI K p q)
def sX (px a up : R) : R:=K.sub (K.sub (K.mul up up) (K.mul (K.mul a a) a)) (K.add (K.mul px (K.mul a a)) (K.mul px (K.mul a a)))
def sY (px py a up : R) : R:=K.sub (K.mul up (K.sub (K.mul px (K.mul a a)) (sX K px a up))) (K.mul py (K.mul (K.mul a a) a))
def GT (p q : Jc R) : Jc R:=(sX K (DF K p q) (BJ K p q) (ZE K p q),sY K (DF K p q) (BI K p q) (BJ K p q) (ZE K p q),K.mul (K.mul p.2.2 q.2.2) (BJ K p q))
def dZ (p q : Jc R) : Jc R :=
 if p.2.2 = K.zero then q else if q.2.2 = K.zero then p else if BJ K p q = K.zero ∧ ZE K p q = K.zero then cH K p else GT K p q
def rplus (p q : Jc R) : Jc R :=
 if p.2.2 = K.zero then q else if q.2.2 = K.zero then p else if BJ K p q = K.zero ∧ ZE K p q = K.zero then cH K p else if BJ K p q = K.zero then (K.one,K.one,K.zero) else GT K p q
variable {K} {inv} {b : R}
theorem dE {p : Jc R} (h : p.2.2 = K.zero) : fM K inv p = none:=if_pos h
theorem dQ {p : Jc R} (h : p.2.2 ≠ K.zero) : fM K inv p = some (K.mul p.1 (K.mul (inv p.2.2) (inv p.2.2)),K.mul p.2.1 (K.mul (K.mul (inv p.2.2) (inv p.2.2)) (inv p.2.2))):=if_neg h
theorem yM (E : EC K inv b) {x y l : R} (hy : K.add y y ≠ K.zero) (h : K.mul l (K.add y y) = K.add (K.add (K.mul x x) (K.mul x x)) (K.mul x x)) : dD K inv x y x y = l:=by
 unfold dD;rw [if_pos rfl];refine E.F.cancel hy ?_;have hi:=E.F.inv _ hy;generalize inv (K.add y y) = k at hi;exact jP (K:=K) (c1:=(K.add (K.add (K.mul x x) (K.mul x x)) (K.mul x x))) (c2:=(K.neg K.one)) hi h (aE K (aQ K [y,x,k,l]) (.add (.mul (.add (.v 0) (.v 0)) (.mul (.add (.add (.mul (.v 1) (.v 1)) (.mul (.v 1) (.v 1))) (.mul (.v 1) (.v 1))) (.v 2))) (.neg (.mul (.add (.v 0) (.v 0)) (.v 3)))) (.add (.mul (.add (.add (.mul (.v 1) (.v 1)) (.mul (.v 1) (.v 1))) (.mul (.v 1) (.v 1))) (.add (.mul (.add (.v 0) (.v 0)) (.v 2)) (.neg .one))) (.mul (.neg .one) (.add (.mul (.v 3) (.add (.v 0) (.v 0))) (.neg (.add (.add (.mul (.v 1) (.v 1)) (.mul (.v 1) (.v 1))) (.mul (.v 1) (.v 1))))))) (by kernel_rfl))
theorem rO (E : EC K inv b) {x1 y1 x2 y2 l : R} (hx : x1 ≠ x2) (h : K.mul l (K.sub x2 x1) = K.sub y2 y1) : dD K inv x1 y1 x2 y2 = l:=by
 unfold dD;rw [if_neg hx];have hd : K.sub x2 x1 ≠ K.zero:=OF fun e => hx e.symm
 have hi:=E.F.inv _ hd;refine E.F.cancel hd ?_;generalize inv (K.sub x2 x1) = k at hi;exact jP (K:=K) (c1:=(K.sub y2 y1)) (c2:=(K.neg K.one)) hi h (aE K (aQ K [x2,x1,y2,y1,k,l]) (.add (.mul (.add (.v 0) (.neg (.v 1))) (.mul (.add (.v 2) (.neg (.v 3))) (.v 4))) (.neg (.mul (.add (.v 0) (.neg (.v 1))) (.v 5)))) (.add (.mul (.add (.v 2) (.neg (.v 3))) (.add (.mul (.add (.v 0) (.neg (.v 1))) (.v 4)) (.neg .one))) (.mul (.neg .one) (.add (.mul (.v 5) (.add (.v 0) (.neg (.v 1)))) (.neg (.add (.v 2) (.neg (.v 3))))))) (by kernel_rfl))
theorem QK (E : EC K inv b) {p : Jc R} (hp : On K b (fM K inv p)) : fM K inv (cH K p) = hJ K inv (fM K inv p) (fM K inv p):=by
 obtain ⟨x,y,z⟩:=p
 by_cases hz : z = K.zero
 ·have h1 : fM K inv (x,y,z) = none:=dE hz;rw [h1];refine dE ?_;show K.mul (K.add y y) z = K.zero;rw [hz,K.mul_zero]
 ·have h1:=dQ (K:=K) (inv:=inv) (p:=(x,y,z)) hz;rw [h1] at hp ⊢;dsimp only at hp ⊢;have hi:=E.F.inv z hz;generalize inv z = i at hi hp ⊢;have hY:=E.y_ne (show K.mul (K.mul y (K.mul (K.mul i i) i)) (K.mul y (K.mul (K.mul i i) i)) = _ from hp);have hy : y ≠ K.zero:=fun e => hY (by rw [e,K.zero_mul])
  have hyy:=E.dbl_ne hy;have hz3 : K.mul (K.add y y) z ≠ K.zero:=E.F.mul_ne hyy hz;have h3:=dQ (K:=K) (inv:=inv) (p:=cH K (x,y,z)) hz3;rw [h3];show some (K.mul (dX K (x,y,z)) (K.mul (inv (K.mul (K.add y y) z)) (inv (K.mul (K.add y y) z))),K.mul (dY K (x,y,z)) (K.mul (K.mul (inv (K.mul (K.add y y) z)) (inv (K.mul (K.add y y) z))) (inv (K.mul (K.add y y) z)))) = _;have hj:=E.F.inv _ hz3;generalize inv (K.mul (K.add y y) z) = j at hj ⊢;have e : i = K.mul (K.add y y) j:=jP (K:=K) (c1:=(K.neg i)) (c2:=(K.mul (K.add y y) j)) hj hi (aE K (aQ K [i,y,j,z]) (.add (.v 0) (.neg (.mul (.add (.v 1) (.v 1)) (.v 2)))) (.add (.mul (.neg (.v 0)) (.add (.mul (.mul (.add (.v 1) (.v 1)) (.v 3)) (.v 2)) (.neg .one))) (.mul (.mul (.add (.v 1) (.v 1)) (.v 2)) (.add (.mul (.v 3) (.v 0)) (.neg .one)))) (by kernel_rfl));subst e;have hYY:=E.dbl_ne hY;rw [jC (fun h => hYY h.2)];dsimp only;have hs:=yM (l:=(K.mul (K.add (K.add (K.mul x x) (K.mul x x)) (K.mul x x)) j)) (x:=(K.mul x (K.mul (K.mul (K.add y y) j) (K.mul (K.add y y) j)))) E hYY (aE K (aQ K [x,j,y]) (.mul (.mul (.add (.add (.mul (.v 0) (.v 0)) (.mul (.v 0) (.v 0))) (.mul (.v 0) (.v 0))) (.v 1)) (.add (.mul (.v 2) (.mul (.mul (.mul (.add (.v 2) (.v 2)) (.v 1)) (.mul (.add (.v 2) (.v 2)) (.v 1))) (.mul (.add (.v 2) (.v 2)) (.v 1)))) (.mul (.v 2) (.mul (.mul (.mul (.add (.v 2) (.v 2)) (.v 1)) (.mul (.add (.v 2) (.v 2)) (.v 1))) (.mul (.add (.v 2) (.v 2)) (.v 1)))))) (.add (.add (.mul (.mul (.v 0) (.mul (.mul (.add (.v 2) (.v 2)) (.v 1)) (.mul (.add (.v 2) (.v 2)) (.v 1)))) (.mul (.v 0) (.mul (.mul (.add (.v 2) (.v 2)) (.v 1)) (.mul (.add (.v 2) (.v 2)) (.v 1))))) (.mul (.mul (.v 0) (.mul (.mul (.add (.v 2) (.v 2)) (.v 1)) (.mul (.add (.v 2) (.v 2)) (.v 1)))) (.mul (.v 0) (.mul (.mul (.add (.v 2) (.v 2)) (.v 1)) (.mul (.add (.v 2) (.v 2)) (.v 1)))))) (.mul (.mul (.v 0) (.mul (.mul (.add (.v 2) (.v 2)) (.v 1)) (.mul (.add (.v 2) (.v 2)) (.v 1)))) (.mul (.v 0) (.mul (.mul (.add (.v 2) (.v 2)) (.v 1)) (.mul (.add (.v 2) (.v 2)) (.v 1)))))) (by kernel_rfl));rw [hs];refine congrArg some (Prod.ext ?_ ?_)
  ·exact aE K (aQ K [x,y,j]) (.mul (.add (.mul (.add (.add (.mul (.v 0) (.v 0)) (.mul (.v 0) (.v 0))) (.mul (.v 0) (.v 0))) (.add (.add (.mul (.v 0) (.v 0)) (.mul (.v 0) (.v 0))) (.mul (.v 0) (.v 0)))) (.neg (.add (.mul (.v 0) (.add (.add (.mul (.v 1) (.v 1)) (.mul (.v 1) (.v 1))) (.add (.mul (.v 1) (.v 1)) (.mul (.v 1) (.v 1))))) (.mul (.v 0) (.add (.add (.mul (.v 1) (.v 1)) (.mul (.v 1) (.v 1))) (.add (.mul (.v 1) (.v 1)) (.mul (.v 1) (.v 1)))))))) (.mul (.v 2) (.v 2))) (.add (.add (.mul (.mul (.add (.add (.mul (.v 0) (.v 0)) (.mul (.v 0) (.v 0))) (.mul (.v 0) (.v 0))) (.v 2)) (.mul (.add (.add (.mul (.v 0) (.v 0)) (.mul (.v 0) (.v 0))) (.mul (.v 0) (.v 0))) (.v 2))) (.neg (.mul (.v 0) (.mul (.mul (.add (.v 1) (.v 1)) (.v 2)) (.mul (.add (.v 1) (.v 1)) (.v 2)))))) (.neg (.mul (.v 0) (.mul (.mul (.add (.v 1) (.v 1)) (.v 2)) (.mul (.add (.v 1) (.v 1)) (.v 2)))))) (by kernel_rfl)
  ·exact aE K (aQ K [x,y,j]) (.mul (.add (.mul (.add (.add (.mul (.v 0) (.v 0)) (.mul (.v 0) (.v 0))) (.mul (.v 0) (.v 0))) (.add (.mul (.v 0) (.add (.add (.mul (.v 1) (.v 1)) (.mul (.v 1) (.v 1))) (.add (.mul (.v 1) (.v 1)) (.mul (.v 1) (.v 1))))) (.neg (.add (.mul (.add (.add (.mul (.v 0) (.v 0)) (.mul (.v 0) (.v 0))) (.mul (.v 0) (.v 0))) (.add (.add (.mul (.v 0) (.v 0)) (.mul (.v 0) (.v 0))) (.mul (.v 0) (.v 0)))) (.neg (.add (.mul (.v 0) (.add (.add (.mul (.v 1) (.v 1)) (.mul (.v 1) (.v 1))) (.add (.mul (.v 1) (.v 1)) (.mul (.v 1) (.v 1))))) (.mul (.v 0) (.add (.add (.mul (.v 1) (.v 1)) (.mul (.v 1) (.v 1))) (.add (.mul (.v 1) (.v 1)) (.mul (.v 1) (.v 1))))))))))) (.neg (.mul (.add (.add (.mul (.v 1) (.v 1)) (.mul (.v 1) (.v 1))) (.add (.mul (.v 1) (.v 1)) (.mul (.v 1) (.v 1)))) (.add (.mul (.v 1) (.v 1)) (.mul (.v 1) (.v 1)))))) (.mul (.mul (.v 2) (.v 2)) (.v 2))) (.add (.mul (.mul (.add (.add (.mul (.v 0) (.v 0)) (.mul (.v 0) (.v 0))) (.mul (.v 0) (.v 0))) (.v 2)) (.add (.mul (.v 0) (.mul (.mul (.add (.v 1) (.v 1)) (.v 2)) (.mul (.add (.v 1) (.v 1)) (.v 2)))) (.neg (.add (.add (.mul (.mul (.add (.add (.mul (.v 0) (.v 0)) (.mul (.v 0) (.v 0))) (.mul (.v 0) (.v 0))) (.v 2)) (.mul (.add (.add (.mul (.v 0) (.v 0)) (.mul (.v 0) (.v 0))) (.mul (.v 0) (.v 0))) (.v 2))) (.neg (.mul (.v 0) (.mul (.mul (.add (.v 1) (.v 1)) (.v 2)) (.mul (.add (.v 1) (.v 1)) (.v 2)))))) (.neg (.mul (.v 0) (.mul (.mul (.add (.v 1) (.v 1)) (.v 2)) (.mul (.add (.v 1) (.v 1)) (.v 2))))))))) (.neg (.mul (.v 1) (.mul (.mul (.mul (.add (.v 1) (.v 1)) (.v 2)) (.mul (.add (.v 1) (.v 1)) (.v 2))) (.mul (.add (.v 1) (.v 1)) (.v 2)))))) (by kernel_rfl)
theorem GS (E : EC K inv b) {p q : Jc R} (hp : p.2.2 ≠ K.zero) (hq : q.2.2 ≠ K.zero) : ∃ w,K.mul (K.mul p.2.2 q.2.2) w = K.one ∧ fM K inv p = some (K.mul (DF K p q) (K.mul w w),K.mul (BI K p q) (K.mul (K.mul w w) w)) ∧ fM K inv q = some (K.mul (DF K q p) (K.mul w w),K.mul (BI K q p) (K.mul (K.mul w w) w)):=by
 obtain ⟨x1,y1,z1⟩:=p;obtain ⟨x2,y2,z2⟩:=q;have h1:=E.F.inv z1 hp;have h2:=E.F.inv z2 hq;rw [dQ hp,dQ hq];dsimp only at *;generalize inv z1 = i at h1 ⊢;generalize inv z2 = j at h2 ⊢;refine ⟨K.mul i j,?_,congrArg some (Prod.ext ?_ ?_),congrArg some (Prod.ext ?_ ?_)⟩
 ·exact jP (K:=K) (c1:=(K.mul z2 j)) (c2:=K.one) h1 h2 (aE K (aQ K [z1,z2,i,j]) (.add (.mul (.mul (.v 0) (.v 1)) (.mul (.v 2) (.v 3))) (.neg .one)) (.add (.mul (.mul (.v 1) (.v 3)) (.add (.mul (.v 0) (.v 2)) (.neg .one))) (.mul .one (.add (.mul (.v 1) (.v 3)) (.neg .one)))) (by kernel_rfl))
 ·exact gQ (K:=K) (c1:=(K.mul (K.neg (K.mul x1 (K.mul i i))) (K.add (K.mul z2 j) K.one))) h2 (aE K (aQ K [x1,i,z2,j]) (.add (.mul (.v 0) (.mul (.v 1) (.v 1))) (.neg (.mul (.mul (.v 0) (.mul (.v 2) (.v 2))) (.mul (.mul (.v 1) (.v 3)) (.mul (.v 1) (.v 3)))))) (.mul (.mul (.neg (.mul (.v 0) (.mul (.v 1) (.v 1)))) (.add (.mul (.v 2) (.v 3)) .one)) (.add (.mul (.v 2) (.v 3)) (.neg .one))) (by kernel_rfl))
 ·exact gQ (K:=K) (c1:=(K.mul (K.neg (K.mul y1 (K.mul (K.mul i i) i))) (K.add (K.add (K.mul (K.mul z2 j) (K.mul z2 j)) (K.mul z2 j)) K.one))) h2 (aE K (aQ K [y1,i,z2,j]) (.add (.mul (.v 0) (.mul (.mul (.v 1) (.v 1)) (.v 1))) (.neg (.mul (.mul (.v 0) (.mul (.mul (.v 2) (.v 2)) (.v 2))) (.mul (.mul (.mul (.v 1) (.v 3)) (.mul (.v 1) (.v 3))) (.mul (.v 1) (.v 3)))))) (.mul (.mul (.neg (.mul (.v 0) (.mul (.mul (.v 1) (.v 1)) (.v 1)))) (.add (.add (.mul (.mul (.v 2) (.v 3)) (.mul (.v 2) (.v 3))) (.mul (.v 2) (.v 3))) .one)) (.add (.mul (.v 2) (.v 3)) (.neg .one))) (by kernel_rfl))
 ·exact gQ (K:=K) (c1:=(K.mul (K.neg (K.mul x2 (K.mul j j))) (K.add (K.mul z1 i) K.one))) h1 (aE K (aQ K [x2,j,z1,i]) (.add (.mul (.v 0) (.mul (.v 1) (.v 1))) (.neg (.mul (.mul (.v 0) (.mul (.v 2) (.v 2))) (.mul (.mul (.v 3) (.v 1)) (.mul (.v 3) (.v 1)))))) (.mul (.mul (.neg (.mul (.v 0) (.mul (.v 1) (.v 1)))) (.add (.mul (.v 2) (.v 3)) .one)) (.add (.mul (.v 2) (.v 3)) (.neg .one))) (by kernel_rfl))
 ·exact gQ (K:=K) (c1:=(K.mul (K.neg (K.mul y2 (K.mul (K.mul j j) j))) (K.add (K.add (K.mul (K.mul z1 i) (K.mul z1 i)) (K.mul z1 i)) K.one))) h1 (aE K (aQ K [y2,j,z1,i]) (.add (.mul (.v 0) (.mul (.mul (.v 1) (.v 1)) (.v 1))) (.neg (.mul (.mul (.v 0) (.mul (.mul (.v 2) (.v 2)) (.v 2))) (.mul (.mul (.mul (.v 3) (.v 1)) (.mul (.v 3) (.v 1))) (.mul (.v 3) (.v 1)))))) (.mul (.mul (.neg (.mul (.v 0) (.mul (.mul (.v 1) (.v 1)) (.v 1)))) (.add (.add (.mul (.mul (.v 2) (.v 3)) (.mul (.v 2) (.v 3))) (.mul (.v 2) (.v 3))) .one)) (.add (.mul (.v 2) (.v 3)) (.neg .one))) (by kernel_rfl))
theorem aDN (E : EC K inv b) {px py qx qy w zz j : R} (hw : K.mul zz w = K.one) (ha : K.sub qx px ≠ K.zero) (hj : K.mul (K.mul zz (K.sub qx px)) j = K.one) :
  hJ K inv (some (K.mul px (K.mul w w),K.mul py (K.mul (K.mul w w) w))) (some (K.mul qx (K.mul w w),K.mul qy (K.mul (K.mul w w) w))) = some (K.mul (sX K px (K.sub qx px) (K.sub qy py)) (K.mul j j),K.mul (sY K px py (K.sub qx px) (K.sub qy py)) (K.mul (K.mul j j) j)):=by
 have hw0 : w ≠ K.zero:=fun e => E.F.ne (by rw [← hw,e,K.mul_zero])
 have e : w = K.mul (K.sub qx px) j:=jP (K:=K) (c1:=(K.neg w)) (c2:=(K.mul (K.sub qx px) j)) hj hw (aE K (aQ K [w,qx,px,j,zz]) (.add (.v 0) (.neg (.mul (.add (.v 1) (.neg (.v 2))) (.v 3)))) (.add (.mul (.neg (.v 0)) (.add (.mul (.mul (.v 4) (.add (.v 1) (.neg (.v 2)))) (.v 3)) (.neg .one))) (.mul (.mul (.add (.v 1) (.neg (.v 2))) (.v 3)) (.add (.mul (.v 4) (.v 0)) (.neg .one)))) (by kernel_rfl));have hx : K.mul px (K.mul w w) ≠ K.mul qx (K.mul w w):=fun h => by
  refine E.F.mul_ne ha (E.F.mul_ne hw0 hw0) ?_;have : K.mul (K.sub qx px) (K.mul w w) = K.sub (K.mul qx (K.mul w w)) (K.mul px (K.mul w w)):=aE K (aQ K [qx,px,w]) (.mul (.add (.v 0) (.neg (.v 1))) (.mul (.v 2) (.v 2))) (.add (.mul (.v 0) (.mul (.v 2) (.v 2))) (.neg (.mul (.v 1) (.mul (.v 2) (.v 2))))) (by kernel_rfl);rw [this,h];exact K.add_neg _
 rw [jC (fun h => hx h.1)];dsimp only;have hs:=rO (l:=(K.mul (K.sub qy py) j)) (y1:=K.mul py (K.mul (K.mul w w) w)) (y2:=K.mul qy (K.mul (K.mul w w) w)) E hx (by
  subst e;exact aE K (aQ K [qy,py,j,qx,px]) (.mul (.mul (.add (.v 0) (.neg (.v 1))) (.v 2)) (.add (.mul (.v 3) (.mul (.mul (.add (.v 3) (.neg (.v 4))) (.v 2)) (.mul (.add (.v 3) (.neg (.v 4))) (.v 2)))) (.neg (.mul (.v 4) (.mul (.mul (.add (.v 3) (.neg (.v 4))) (.v 2)) (.mul (.add (.v 3) (.neg (.v 4))) (.v 2))))))) (.add (.mul (.v 0) (.mul (.mul (.mul (.add (.v 3) (.neg (.v 4))) (.v 2)) (.mul (.add (.v 3) (.neg (.v 4))) (.v 2))) (.mul (.add (.v 3) (.neg (.v 4))) (.v 2)))) (.neg (.mul (.v 1) (.mul (.mul (.mul (.add (.v 3) (.neg (.v 4))) (.v 2)) (.mul (.add (.v 3) (.neg (.v 4))) (.v 2))) (.mul (.add (.v 3) (.neg (.v 4))) (.v 2)))))) (by kernel_rfl))
 rw [hs];subst e;refine congrArg some (Prod.ext ?_ ?_)
 ·exact aE K (aQ K [qy,py,j,px,qx]) (.add (.add (.mul (.mul (.add (.v 0) (.neg (.v 1))) (.v 2)) (.mul (.add (.v 0) (.neg (.v 1))) (.v 2))) (.neg (.mul (.v 3) (.mul (.mul (.add (.v 4) (.neg (.v 3))) (.v 2)) (.mul (.add (.v 4) (.neg (.v 3))) (.v 2)))))) (.neg (.mul (.v 4) (.mul (.mul (.add (.v 4) (.neg (.v 3))) (.v 2)) (.mul (.add (.v 4) (.neg (.v 3))) (.v 2)))))) (.mul (.add (.add (.mul (.add (.v 0) (.neg (.v 1))) (.add (.v 0) (.neg (.v 1)))) (.neg (.mul (.mul (.add (.v 4) (.neg (.v 3))) (.add (.v 4) (.neg (.v 3)))) (.add (.v 4) (.neg (.v 3)))))) (.neg (.add (.mul (.v 3) (.mul (.add (.v 4) (.neg (.v 3))) (.add (.v 4) (.neg (.v 3))))) (.mul (.v 3) (.mul (.add (.v 4) (.neg (.v 3))) (.add (.v 4) (.neg (.v 3)))))))) (.mul (.v 2) (.v 2))) (by kernel_rfl)
 ·exact aE K (aQ K [qy,py,j,px,qx]) (.add (.mul (.mul (.add (.v 0) (.neg (.v 1))) (.v 2)) (.add (.mul (.v 3) (.mul (.mul (.add (.v 4) (.neg (.v 3))) (.v 2)) (.mul (.add (.v 4) (.neg (.v 3))) (.v 2)))) (.neg (.add (.add (.mul (.mul (.add (.v 0) (.neg (.v 1))) (.v 2)) (.mul (.add (.v 0) (.neg (.v 1))) (.v 2))) (.neg (.mul (.v 3) (.mul (.mul (.add (.v 4) (.neg (.v 3))) (.v 2)) (.mul (.add (.v 4) (.neg (.v 3))) (.v 2)))))) (.neg (.mul (.v 4) (.mul (.mul (.add (.v 4) (.neg (.v 3))) (.v 2)) (.mul (.add (.v 4) (.neg (.v 3))) (.v 2))))))))) (.neg (.mul (.v 1) (.mul (.mul (.mul (.add (.v 4) (.neg (.v 3))) (.v 2)) (.mul (.add (.v 4) (.neg (.v 3))) (.v 2))) (.mul (.add (.v 4) (.neg (.v 3))) (.v 2)))))) (.mul (.add (.mul (.add (.v 0) (.neg (.v 1))) (.add (.mul (.v 3) (.mul (.add (.v 4) (.neg (.v 3))) (.add (.v 4) (.neg (.v 3))))) (.neg (.add (.add (.mul (.add (.v 0) (.neg (.v 1))) (.add (.v 0) (.neg (.v 1)))) (.neg (.mul (.mul (.add (.v 4) (.neg (.v 3))) (.add (.v 4) (.neg (.v 3)))) (.add (.v 4) (.neg (.v 3)))))) (.neg (.add (.mul (.v 3) (.mul (.add (.v 4) (.neg (.v 3))) (.add (.v 4) (.neg (.v 3))))) (.mul (.v 3) (.mul (.add (.v 4) (.neg (.v 3))) (.add (.v 4) (.neg (.v 3))))))))))) (.neg (.mul (.v 1) (.mul (.mul (.add (.v 4) (.neg (.v 3))) (.add (.v 4) (.neg (.v 3)))) (.add (.v 4) (.neg (.v 3))))))) (.mul (.mul (.v 2) (.v 2)) (.v 2))) (by kernel_rfl)
theorem EO (E : EC K inv b) {y1 y2 : R} (h : K.mul y1 y1 = K.mul y2 y2) (hn : y1 ≠ y2) : K.add y1 y2 = K.zero:=by
 refine E.F.zd (a:=K.sub y1 y2) ?_ (OF hn);have : K.mul (K.sub y1 y2) (K.add y1 y2) = K.sub (K.mul y1 y1) (K.mul y2 y2):=aE K (aQ K [y1,y2]) (.mul (.add (.v 0) (.neg (.v 1))) (.add (.v 0) (.v 1))) (.add (.mul (.v 0) (.v 0)) (.neg (.mul (.v 1) (.v 1)))) (by kernel_rfl);rw [this,h];exact K.add_neg _
theorem Lu (E : EC K inv b) {p q : Jc R} (hp : On K b (fM K inv p)) (hq : On K b (fM K inv q)) (h1 : p.2.2 ≠ K.zero) (h2 : q.2.2 ≠ K.zero) (hn : ¬ (BJ K p q = K.zero ∧ ZE K p q = K.zero)) :
  fM K inv (GT K p q) = hJ K inv (fM K inv p) (fM K inv q):=by
 obtain ⟨w,hw,e1,e2⟩:=GS (K:=K) (inv:=inv) E h1 h2;rw [e1] at hp;rw [e2] at hq;rw [e1,e2]
 by_cases ha : BJ K p q = K.zero
 ·have hx : DF K q p = DF K p q:=iO ha;have hu : ZE K p q ≠ K.zero:=fun e => hn ⟨ha,e⟩
  have hw0 : w ≠ K.zero:=fun e => E.F.ne (by rw [← hw,e,K.mul_zero])
  have hy : K.mul (BI K p q) (K.mul (K.mul w w) w) ≠ K.mul (BI K q p) (K.mul (K.mul w w) w):=fun h => by
   refine E.F.mul_ne hu (E.F.mul_ne (E.F.mul_ne hw0 hw0) hw0) ?_;show K.mul (K.sub (BI K q p) (BI K p q)) _ = _;have e0 : ∀ s t c : R,K.mul (K.sub s t) c = K.sub (K.mul s c) (K.mul t c):=fun s t c => aE K (aQ K [s,t,c]) (.mul (.add (.v 0) (.neg (.v 1))) (.v 2)) (.add (.mul (.v 0) (.v 2)) (.neg (.mul (.v 1) (.v 2)))) (by kernel_rfl)
   rw [e0,h];exact K.add_neg _
  rw [hx] at hq ⊢;have ho:=EO (y1:=K.mul (BI K p q) (K.mul (K.mul w w) w)) (y2:=K.mul (BI K q p) (K.mul (K.mul w w) w)) E ((show K.mul _ _ = _ from hp).trans (show K.mul _ _ = _ from hq).symm) hy;rw [kB (p:=(K.mul (DF K p q) (K.mul w w),K.mul (BI K p q) (K.mul (K.mul w w) w))) (q:=(K.mul (DF K p q) (K.mul w w),K.mul (BI K q p) (K.mul (K.mul w w) w))) ⟨rfl,ho⟩];refine dE ?_;show K.mul (K.mul p.2.2 q.2.2) (BJ K p q) = K.zero;rw [ha,K.mul_zero]
 ·have hz : K.mul (K.mul p.2.2 q.2.2) (BJ K p q) ≠ K.zero:=E.F.mul_ne (E.F.mul_ne h1 h2) ha;have hj:=E.F.inv _ hz;refine (dQ (p:=GT K p q) hz).trans ?_;exact (aDN E hw ha hj).symm
theorem ZF (E : EC K inv b) {p q : Jc R} (hp : On K b (fM K inv p)) (hq : On K b (fM K inv q)) : fM K inv (dZ K p q) = hJ K inv (fM K inv p) (fM K inv q):=by
 unfold dZ
 by_cases h1 : p.2.2 = K.zero
 ·rw [if_pos h1,dE h1]; rfl
 ·rw [if_neg h1]
  by_cases h2 : q.2.2 = K.zero
  ·rw [if_pos h2,dE h2,dQ h1]; rfl
  ·rw [if_neg h2]
   by_cases h3 : BJ K p q = K.zero ∧ ZE K p q = K.zero
   ·rw [if_pos h3];obtain ⟨w,hw,e1,e2⟩:=GS (K:=K) (inv:=inv) E h1 h2;have hx : DF K q p = DF K p q:=iO h3.1;have hy : BI K q p = BI K p q:=iO h3.2;rw [QK E hp];rw [hx,hy] at e2;rw [e2,e1]
   ·rw [if_neg h3];exact Lu E hp hq h1 h2 h3
theorem Ts (E : EC K inv b) {p q : Jc R} (hp : On K b (fM K inv p)) (hq : On K b (fM K inv q)) : fM K inv (rplus K p q) = hJ K inv (fM K inv p) (fM K inv q):=by
 rw [← ZF E hp hq];unfold rplus dZ
 by_cases h1 : p.2.2 = K.zero
 ·rw [if_pos h1,if_pos h1]
 ·rw [if_neg h1,if_neg h1]
  by_cases h2 : q.2.2 = K.zero
  ·rw [if_pos h2,if_pos h2]
  ·rw [if_neg h2,if_neg h2]
   by_cases h3 : BJ K p q = K.zero ∧ ZE K p q = K.zero
   ·rw [if_pos h3,if_pos h3]
   ·rw [if_neg h3,if_neg h3]
    by_cases h4 : BJ K p q = K.zero
    ·rw [if_pos h4,dE rfl];refine (dE ?_).symm;show K.mul (K.mul p.2.2 q.2.2) (BJ K p q) = K.zero;rw [h4,K.mul_zero]
    ·rw [if_neg h4]
def sG (K : CR R) (p : Jc R) : Jc R:=(p.1,K.sub K.zero p.2.1,p.2.2)
theorem aHT (p : Jc R) : fM K inv (sG K p) = KY K (fM K inv p):=by
 by_cases h : p.2.2 = K.zero
 ·rw [dE h,dE (p:=sG K p) h]; rfl
 ·rw [dQ h,dQ (p:=sG K p) h];refine congrArg some (Prod.ext rfl ?_);show K.mul (K.sub K.zero p.2.1) _ = K.neg (K.mul p.2.1 _);rw [← K.neg_mul];congr 1;exact K.zero_add _
end
end Go.Proofs.YtglgakbkdjhojaaGreat.Ex
