/- Pp07 -/
import Derived.Deep.RegionHeld3
import Derived.Deep.DeepCutAuto
import Derived.Deep.LoopGhost
import Derived.RegionTactic
import Derived.Laws.StructEq
import Derived.IntWalk
import Derived.LoopTactic
import Derived.StillTail
import Derived.KernelRfl
import Derived.Test.YtglgakbkdjhojaaGreatPp06
import Derived.Test.YtglgakbkdjhojaaGreatPp05
import Derived.Test.YtglgakbkdjhojaaGreatPp00
import Derived.Test.YtglgakbkdjhojaaGreatPp03
import Derived.Test.YtglgakbkdjhojaaGreatPp04
import Derived.Test.YtglgakbkdjhojaaGreatProg
set_option maxRecDepth 100000
set_option linter.unusedVariables false
set_option linter.unusedSimpArgs false
noncomputable section
namespace Go.Proofs.YtglgakbkdjhojaaGreat
open Go.Proofs.Tryz
open Go.RowKit
def aJp (P : Nat → Nat → Prop) (w : World) (e : Ending) (w' : World) : Prop :=
 ∃ s0 s1 s2 s3 c : Nat,e = .returned (.tuple #[.agg #[.int .u64 s0,.int .u64 s1,.int .u64 s2,.int .u64 s3],.int .i64 c]) ∧ cQ s0 s1 s2 s3 ∧ P (aF s0 s1 s2 s3) c ∧ Below w.heap.size w w'
theorem Tr (a0 a1 a2 a3 : Nat) (w : World) : (Op.equalIn 10000 24 (.agg #[.int .u64 a0,.int .u64 a1,.int .u64 a2,.int .u64 a3]) (.agg #[.int .u64 0,.int .u64 0,.int .u64 0,.int .u64 0])).run prog w = .ok (eqW a0 a1 a2 a3 0 0 0 0) w :=
 aCP 9998 a0 a1 a2 a3 0 0 0 0 w
structure MR (w wr : World) (g9 g10 : Nat) (h0 h1 h2 h3 l0 l1 l2 l3 b0 b1 b2 b3 r0 r1 r2 r3 : Nat) : Prop where
 below : Below w.heap.size w wr
 lo : w.heap.size + 1 + 1 + 1 < g9
 mid : g9 < g10
 size : g10 < wr.heap.size
 rowH : Row4 wr w.heap.size h0 h1 h2 h3
 rowL : Row4 wr (w.heap.size + 1) l0 l1 l2 l3
 rowB : Row4 wr g9 b0 b1 b2 b3
 rowR : Row4 wr g10 r0 r1 r2 r3
 rowO : Row4 wr (w.heap.size + 1 + 1 + 1) 0 0 0 0
theorem MR.on {w wr w' : World} {g9 g10 : Nat} {h0 h1 h2 h3 l0 l1 l2 l3 b0 b1 b2 b3 r0 r1 r2 r3 : Nat} (m : MR w wr g9 g10 h0 h1 h2 h3 l0 l1 l2 l3 b0 b1 b2 b3 r0 r1 r2 r3) (hb : Below wr.heap.size wr w') : MR w w' g9 g10 h0 h1 h2 h3 l0 l1 l2 l3 b0 b1 b2 b3 r0 r1 r2 r3 :=
 ⟨m.below.trans (hb.mono m.below.size),m.lo,m.mid,Nat.lt_of_lt_of_le m.size hb.size,m.rowH.below hb (by have:=m.lo; have:=m.mid; have:=m.size; omega),m.rowL.below hb (by have:=m.lo; have:=m.mid; have:=m.size; omega),
  m.rowB.below hb (by have:=m.mid; have:=m.size; omega),m.rowR.below hb m.size,m.rowO.below hb (by have:=m.lo; have:=m.mid; have:=m.size; omega)⟩
theorem MR.drewN {w wr : World} {g9 g10 : Nat} {h0 h1 h2 h3 l0 l1 l2 l3 b0 b1 b2 b3 r0 r1 r2 r3 : Nat} (m : MR w wr g9 g10 h0 h1 h2 h3 l0 l1 l2 l3 b0 b1 b2 b3 r0 r1 r2 r3) (n : Nat) : MR w (wr.drewN n) g9 g10 h0 h1 h2 h3 l0 l1 l2 l3 b0 b1 b2 b3 r0 r1 r2 r3:=m.on (bN _ _ n)
theorem MR.onDrew {w wr w' : World} {g9 g10 : Nat} {h0 h1 h2 h3 l0 l1 l2 l3 b0 b1 b2 b3 r0 r1 r2 r3 : Nat} (m : MR w wr g9 g10 h0 h1 h2 h3 l0 l1 l2 l3 b0 b1 b2 b3 r0 r1 r2 r3) (hb : Below wr.drew.heap.size wr.drew w') : MR w w' g9 g10 h0 h1 h2 h3 l0 l1 l2 l3 b0 b1 b2 b3 r0 r1 r2 r3:=(m.drewN 1).on hb
theorem MR.put {w wr : World} {g9 g10 : Nat} {h0 h1 h2 h3 l0 l1 l2 l3 b0 b1 b2 b3 r0 r1 r2 r3 : Nat} (m : MR w wr g9 g10 h0 h1 h2 h3 l0 l1 l2 l3 b0 b1 b2 b3 r0 r1 r2 r3) (s0 s1 s2 s3 : Nat) : MR w (set4 wr g10 s0 s1 s2 s3) g9 g10 h0 h1 h2 h3 l0 l1 l2 l3 b0 b1 b2 b3 s0 s1 s2 s3 :=
 ⟨bB m.below (by have:=m.lo; have:=m.mid; omega) _ _ _ _,m.lo,m.mid,by unfold set4; simp only [World.size_setCell]; exact m.size,m.rowH.set4_other (by have:=m.lo; have:=m.mid; omega) _ _ _ _,m.rowL.set4_other (by have:=m.lo; have:=m.mid; omega) _ _ _ _,
  m.rowB.set4_other (by have:=m.mid; omega) _ _ _ _,m.rowR.set4 _ _ _ _,m.rowO.set4_other (by have:=m.lo; have:=m.mid; omega) _ _ _ _⟩
set_option maxHeartbeats 4000000 in
theorem aBv (h0 h1 h2 h3 l0 l1 l2 l3 m0 m1 m2 m3 : Nat) (hh : cQ h0 h1 h2 h3) (hl : cQ l0 l1 l2 l3) (hm : cQ m0 m1 m2 m3) (hpz : 0 < aF m0 m1 m2 m3) (w : World) :
  Calls prog 258 #[.agg #[.int .u64 h0,.int .u64 h1,.int .u64 h2,.int .u64 h3],.agg #[.int .u64 l0,.int .u64 l1,.int .u64 l2,.int .u64 l3],.agg #[.int .u64 m0,.int .u64 m1,.int .u64 m2,.int .u64 m3]] w (aJp (fun v c => v = (aF h0 h1 h2 h3 * 115792089237316195423570985008687907853269984665640564039457584007913129639936 + aF l0 l1 l2 l3) % aF m0 m1 m2 m3 ∧ c = 0) w):=by
 have hE:=fun w => Tr m0 m1 m2 m3 w
 have hG:=aCS;have q : eqW m0 m1 m2 m3 0 0 0 0 = false:=by
  have:=QV hm (show cQ 0 0 0 0 from ⟨by omega,by omega,by omega,by omega⟩)
  rcases h : eqW m0 m1 m2 m3 0 0 0 0 with _ | _
  ·rfl
  ·exact absurd (this.1 h) (by unfold aF at hpz ⊢; omega)
 rw [q] at hE;clear q
 go_enter func258,ntmps258
 go_wp2_with fail;refine (zO m0 m1 m2 m3 hm _).mono ?_
 rintro e w1 ⟨L,rfl,bL,lenL,hbl⟩
 obtain ⟨hpos,hb1,hb2⟩:=aHE bL lenL hpz;obtain ⟨S,eS⟩ : ∃ S,S = 256 - L:=⟨_,rfl⟩
 have wS : (256 : Int) - (L : Int) = (S : Int):=by omega
 have wL : (256 : Int) - (S : Int) = (L : Int):=by omega
 have bS : S ≤ 256:=by omega
 have H1:=(((Row4.new w h0 h1 h2 h3 24).alloc (by simp) _).alloc (by simp; omega) _).alloc (by simp; omega) _ |>.below hbl (by simp; omega)
 have L1:=(((Row4.new (w.alloc _) l0 l1 l2 l3 24).alloc (by simp) _).alloc (by simp) _).below hbl (by simp);have M1:=((Row4.new ((w.alloc _).alloc _) m0 m1 m2 m3 24).alloc (by simp) _).below hbl (by simp);have O1:=(Row4.new (((w.alloc _).alloc _).alloc _) 0 0 0 0 24).below hbl (by simp);simp only [World.size_alloc] at L1 M1 O1;have hz1 : w.heap.size + 1 + 1 + 1 < w1.heap.size:=by have:=hbl.size; simp at this; omega
 have B1:=(aDT w _ _ _ _).trans (hbl.mono (by simp; omega));have HeS:=Lib.hid eS; have Hb1:=Lib.hid hb1; have Hb2:=Lib.hid hb2; have HL:=Lib.hid lenL; have HB1:=Lib.hid B1;have HH1:=Lib.hid H1; have HL1:=Lib.hid L1; have HM1:=Lib.hid M1; have HO1:=Lib.hid O1;have y0 : w.heap.size < w1.heap.size:=by omega
 have y1 : w.heap.size + 1 < w1.heap.size:=by omega
 have y2 : w.heap.size + 1 + 1 < w1.heap.size:=by omega
 obtain ⟨m0',m1',m2',m3',mf⟩:=M1;clear hE hG eS hb1 hb2 lenL B1 H1 L1 O1 hbl;go_wp2_with fail;refine (yM m0 m1 m2 m3 S hm (by omega) (by omega) _).mono ?_
 rintro e w2 ⟨b0,b1,b2,b3,rfl,hb,vb,hbl⟩
 rw [Int.toNat_natCast] at vb;have H2:=HH1.out.below hbl y0;have L2:=HL1.out.below hbl y1;have O2:=HO1.out.below hbl hz1;have hz2 : w1.heap.size ≤ w2.heap.size:=hbl.size;have B2:=HB1.out.trans (hbl.mono HB1.out.size);have HH2:=Lib.hid H2; have HL2:=Lib.hid L2; have HO2:=Lib.hid O2; have HB2:=Lib.hid B2; have Hvb:=Lib.hid vb;have z0 : w.heap.size < w2.heap.size:=by omega
 have z1 : w.heap.size + 1 < w2.heap.size:=by omega
 have z3 : w.heap.size + 1 + 1 + 1 < w2.heap.size:=by omega
 obtain ⟨h0',h1',h2',h3',hf⟩:=H2;clear L2 O2 B2 vb hbl m0' m1' m2' m3' mf;go_wp2_with fail;refine (sZ h0 h1 h2 h3 L hh (by omega) (by omega) _).mono ?_
 rintro e w3 ⟨r0,r1,r2,r3,rfl,hr,vr,hbl⟩
 rw [Int.toNat_natCast] at vr;clear h0' h1' h2' h3' hf;have MR1 : MR w (w3.alloc (.cells #[.int .u64 r0,.int .u64 r1,.int .u64 r2,.int .u64 r3] 24)) w2.heap.size w3.heap.size h0 h1 h2 h3 l0 l1 l2 l3 b0 b1 b2 b3 r0 r1 r2 r3:=by
  have hb':=hbl;have hz3:=hb'.size;rw [World.size_alloc] at hz3;have hall : ∀ {x : Nat} {c0 c1 c2 c3 : Nat},Row4 w2 x c0 c1 c2 c3 → x < w2.heap.size → Row4 (w3.alloc (.cells #[.int .u64 r0,.int .u64 r1,.int .u64 r2,.int .u64 r3] 24)) x c0 c1 c2 c3:=fun q hx =>
   ((q.alloc hx _).below hb' (by rw [World.size_alloc]; omega)).alloc (by omega) _
  refine ⟨((HB2.out.alloc (by omega) _).trans (hb'.mono (by rw [World.size_alloc]; omega))).alloc (by omega) _,z3,by omega,by simp,hall HH2.out z0,hall HL2.out z1,?_,Row4.new _ _ _ _ _ _,hall HO2.out z3⟩;exact ((Row4.new w2 b0 b1 b2 b3 24).below hb' (by simp)).alloc (by omega) _
 go_wp2_with fail;clear hbl;have Hvr:=Lib.hid vr;clear vr;generalize w3.alloc (.cells #[.int .u64 r0,.int .u64 r1,.int .u64 r2,.int .u64 r3] 24) = W at *;generalize w2.heap.size = g9 at *;generalize w3.heap.size = g10 at *;have M:=MR1;clear MR1;have wLL : IntKind.i64.wrap (L : Int) = (L : Int):=by simp [IntKind.wrap,IntKind.bits,IntKind.signed]; omega
 have HM:=Lib.hid M;have evb : aF b0 b1 b2 b3 = aF m0 m1 m2 m3 * 2 ^ S:=by rw [Hvb.out,HeS.out,Nat.mod_eq_of_lt Hb1.out]
 have hb3 : 9223372036854775808 ≤ b3:=aEV hb (by rw [evb,HeS.out]; exact Hb2.out);have hrb : aF r0 r1 r2 r3 < aF b0 b1 b2 b3:=by rw [evb,Hvr.out,HeS.out]; exact aGg bL hpz (bP hh)
 have Hevb:=Lib.hid evb;clear evb;clear M y0 y1 y2 z0 z1 z3 hz1 hz2 HH1 HL1 HM1 HO1 HB1 HH2 HL2 HO2 HB2;have g0 : ∀ k,W.cell? ⟨w.heap.size,k,none⟩ = W.cell? ⟨w.heap.size,k,none⟩:=fun _ => rfl
 clear g0;clear wS wL;have wL' : IntKind.i64.wrap (256 - (S : Int)) = (L : Int):=by have:=HeS.out; simp [IntKind.wrap,IntKind.bits,IntKind.signed]; omega
 go_wp2_with fail;refine kM (fun wx => MR w wx g9 g10 h0 h1 h2 h3 l0 l1 l2 l3 b0 b1 b2 b3 r0 r1 r2 r3) 11 (by kernel_rfl) ?_;have HS : (fun wx => MR w wx g9 g10 h0 h1 h2 h3 l0 l1 l2 l3 b0 b1 b2 b3 r0 r1 r2 r3) W.drew:=HM.out.drewN 1;refine bF (i:=0) (v:=.agg #[.int .u64 r0,.int .u64 r1,.int .u64 r2,.int .u64 r3]) rfl (by kernel_rfl) (by kernel_rfl) (by kernel_rfl) (by kernel_rfl) (fun _ _ _ h => h) HS (Or.inl ⟨by rfl,fun wx hx => ?_⟩) ?_
 ·obtain ⟨k0,k1,k2,k3,kf⟩:=MR.rowR hx;clear HS;go_simp
 simp only [Act.put,List.setIfInBounds_toArray,List.set_cons_zero,List.set_cons_succ];refine bF (i:=1) (v:=.agg #[.int .u64 h0,.int .u64 h1,.int .u64 h2,.int .u64 h3]) rfl (by kernel_rfl) (by kernel_rfl) (by kernel_rfl) (by kernel_rfl) (fun _ _ _ h => h) HS (Or.inl ⟨by rfl,fun wx hx => ?_⟩) ?_
 ·obtain ⟨k0,k1,k2,k3,kf⟩:=MR.rowH hx;clear HS;go_simp
 simp only [Act.put,List.setIfInBounds_toArray,List.set_cons_zero,List.set_cons_succ];refine bF (i:=2) (v:=.int .i64 (S : Nat)) rfl (by kernel_rfl) (by kernel_rfl) (by kernel_rfl) (by kernel_rfl) (fun _ _ _ h => h) HS (Or.inl ⟨by rfl,fun wx hx => ?_⟩) ?_
 ·clear hx HS;go_simp
 simp only [Act.put,List.setIfInBounds_toArray,List.set_cons_zero,List.set_cons_succ];refine bF (i:=4) (v:=.agg #[.int .u64 l0,.int .u64 l1,.int .u64 l2,.int .u64 l3]) rfl (by kernel_rfl) (by kernel_rfl) (by kernel_rfl) (by kernel_rfl) (fun _ _ _ h => h) HS (Or.inl ⟨by rfl,fun wx hx => ?_⟩) ?_
 ·obtain ⟨k0,k1,k2,k3,kf⟩:=MR.rowL hx;clear HS;go_simp
 simp only [Act.put,List.setIfInBounds_toArray,List.set_cons_zero,List.set_cons_succ];refine bF (i:=5) (v:=.int .i64 (S : Nat)) rfl (by kernel_rfl) (by kernel_rfl) (by kernel_rfl) (by kernel_rfl) (fun _ _ _ h => h) HS (Or.inl ⟨by rfl,fun wx hx => ?_⟩) ?_
 ·clear hx HS;go_simp
 simp only [Act.put,List.setIfInBounds_toArray,List.set_cons_zero,List.set_cons_succ];refine bF (i:=6) (v:=.int .i64 (L : Nat)) rfl (by kernel_rfl) (by kernel_rfl) (by kernel_rfl) (by kernel_rfl) (fun _ _ _ h => h) HS (Or.inl ⟨by rfl,fun wx hx => ?_⟩) ?_
 ·clear hx HS;go_simp
 simp only [Act.put,List.setIfInBounds_toArray,List.set_cons_zero,List.set_cons_succ];refine bF (i:=9) (v:=.agg #[.int .u64 b0,.int .u64 b1,.int .u64 b2,.int .u64 b3]) rfl (by kernel_rfl) (by kernel_rfl) (by kernel_rfl) (by kernel_rfl) (fun _ _ _ h => h) HS (Or.inl ⟨by rfl,fun wx hx => ?_⟩) ?_
 ·obtain ⟨k0,k1,k2,k3,kf⟩:=MR.rowB hx;clear HS;go_simp
 simp only [Act.put,List.setIfInBounds_toArray,List.set_cons_zero,List.set_cons_succ];clear HS;refine cC (i:=3) (by kernel_rfl) rfl (fun K hK => ?_);go_simp;refine (yM h0 h1 h2 h3 S hh (by omega) (by omega) _).mono ?_
 rintro e w4 ⟨x0,x1,x2,x3,rfl,hx,vx,hbl⟩
 rw [Int.toNat_natCast] at vx;have Hvx:=Lib.hid vx;clear vx;have M4:=HM.out.onDrew hbl;clear hbl;go_wp2_with fail;refine hK.out _ _ (Or.inr M4) (fun hHeld => ?_);clear hK K hHeld
 try simp only [Act.put,List.setIfInBounds_toArray,List.set_cons_zero,List.set_cons_succ]
 refine cC (i:=7) (by kernel_rfl) rfl (fun K hK => ?_);go_simp;refine (sZ l0 l1 l2 l3 L hl (by omega) (by omega) _).mono ?_
 rintro e w5 ⟨y0,y1,y2,y3,rfl,hy,vy,hbl⟩
 rw [Int.toNat_natCast] at vy;have Hvy:=Lib.hid vy;clear vy;have M5:=M4.on hbl;clear hbl;go_wp2_with fail;refine hK.out _ _ (Or.inr M5) (fun hHeld => ?_);clear hK K hHeld
 try simp only [Act.put,List.setIfInBounds_toArray,List.set_cons_zero,List.set_cons_succ]
 refine cC (i:=8) (by kernel_rfl) rfl (fun K hK => ?_);go_simp;refine (QG x0 x1 x2 x3 y0 y1 y2 y3 hx hy _).mono ?_
 rintro e w6 ⟨z0,z1,z2,z3,rfl,hz,vz,hbl⟩
 have Hvz:=Lib.hid vz;clear vz;have M6:=M5.on hbl;clear hbl;go_wp2_with fail;refine hK.out _ _ (Or.inr M6) (fun hHeld => ?_);clear hK K hHeld
 try simp only [Act.put,List.setIfInBounds_toArray,List.set_cons_zero,List.set_cons_succ]
 refine cC (i:=10) (by kernel_rfl) rfl (fun K hK => ?_);go_simp;refine (wH r0 r1 r2 r3 z0 z1 z2 z3 b0 b1 b2 b3 hr hz hb hb3 hrb _).mono ?_
 rintro e w7 ⟨n0,n1,n2,n3,rfl,hn,vn,hbl⟩
 have Hvn:=Lib.hid vn;clear vn;have M7:=M6.on hbl;clear hbl;go_wp2_with fail;refine hK.out _ _ (Or.inr M7) (fun hHeld => ?_);clear hK K hHeld
 try simp only [Act.put,List.setIfInBounds_toArray,List.set_cons_zero,List.set_cons_succ]
 obtain ⟨q0,q1,q2,q3,qf⟩:=M7.rowR;have M8:=M7.put n0 n1 n2 n3;refine cC (i:=11) (by kernel_rfl) rfl (fun K hK => ?_);have hsz:=M7.size;clear M4 M5 M6 M7;have HM8:=Lib.hid M8;clear M8;go_simp;refine hK.out _ _ (Or.inl rfl) (fun hHeld => ?_);clear hK K hHeld q0 q1 q2 q3 qf;refine oU (by kernel_rfl) ?_;have hnb : aF n0 n1 n2 n3 < aF b0 b1 b2 b3:=by rw [Hvn.out]; exact Nat.mod_lt _ (by omega)
 have HG:=HM8.out;unfold set4 at HG;generalize (((w7.setCell ⟨g10,0,none⟩ (.int .u64 (n0 : Nat))).setCell ⟨g10,1,none⟩ (.int .u64 (n1 : Nat))).setCell ⟨g10,2,none⟩ (.int .u64 (n2 : Nat))).setCell ⟨g10,3,none⟩ (.int .u64 (n3 : Nat)) = W2 at HG ⊢;have HM9:=Lib.hid HG;clear HG HM8 hrb;go_wp2_with fail;refine kM (fun wx => MR w wx g9 g10 h0 h1 h2 h3 l0 l1 l2 l3 b0 b1 b2 b3 n0 n1 n2 n3) 6 (by kernel_rfl) ?_;have HS : (fun wx => MR w wx g9 g10 h0 h1 h2 h3 l0 l1 l2 l3 b0 b1 b2 b3 n0 n1 n2 n3) W2.drew:=HM9.out.drewN 1;refine bF (i:=0) (v:=.agg #[.int .u64 n0,.int .u64 n1,.int .u64 n2,.int .u64 n3]) rfl (by kernel_rfl) (by kernel_rfl) (by kernel_rfl) (by kernel_rfl) (fun _ _ _ h => h) HS (Or.inl ⟨by rfl,fun wx hx => ?_⟩) ?_
 ·obtain ⟨k0,k1,k2,k3,kf⟩:=MR.rowR hx;clear HS;go_simp
 simp only [Act.put,List.setIfInBounds_toArray,List.set_cons_zero,List.set_cons_succ];refine bF (i:=1) (v:=.agg #[.int .u64 l0,.int .u64 l1,.int .u64 l2,.int .u64 l3]) rfl (by kernel_rfl) (by kernel_rfl) (by kernel_rfl) (by kernel_rfl) (fun _ _ _ h => h) HS (Or.inl ⟨by rfl,fun wx hx => ?_⟩) ?_
 ·obtain ⟨k0,k1,k2,k3,kf⟩:=MR.rowL hx;clear HS;go_simp
 simp only [Act.put,List.setIfInBounds_toArray,List.set_cons_zero,List.set_cons_succ];refine bF (i:=2) (v:=.int .i64 (S : Nat)) rfl (by kernel_rfl) (by kernel_rfl) (by kernel_rfl) (by kernel_rfl) (fun _ _ _ h => h) HS (Or.inl ⟨by rfl,fun wx hx => ?_⟩) ?_
 ·clear hx HS;go_simp
 simp only [Act.put,List.setIfInBounds_toArray,List.set_cons_zero,List.set_cons_succ];refine bF (i:=4) (v:=.agg #[.int .u64 b0,.int .u64 b1,.int .u64 b2,.int .u64 b3]) rfl (by kernel_rfl) (by kernel_rfl) (by kernel_rfl) (by kernel_rfl) (fun _ _ _ h => h) HS (Or.inl ⟨by rfl,fun wx hx => ?_⟩) ?_
 ·obtain ⟨k0,k1,k2,k3,kf⟩:=MR.rowB hx;clear HS;go_simp
 simp only [Act.put,List.setIfInBounds_toArray,List.set_cons_zero,List.set_cons_succ];clear HS;refine cC (i:=3) (by kernel_rfl) rfl (fun K hK => ?_);go_simp;refine (yM l0 l1 l2 l3 S hl (by omega) (by omega) _).mono ?_
 rintro e w8 ⟨u0,u1,u2,u3,rfl,hu,vu,hbl⟩
 rw [Int.toNat_natCast] at vu;have Hvu:=Lib.hid vu;clear vu;have M4:=HM9.out.onDrew hbl;clear hbl;go_wp2_with fail;refine hK.out _ _ (Or.inr M4) (fun hHeld => ?_);clear hK K hHeld
 try simp only [Act.put,List.setIfInBounds_toArray,List.set_cons_zero,List.set_cons_succ]
 refine cC (i:=5) (by kernel_rfl) rfl (fun K hK => ?_);go_simp;refine (wH n0 n1 n2 n3 u0 u1 u2 u3 b0 b1 b2 b3 hn hu hb hb3 hnb _).mono ?_
 rintro e w9 ⟨p0,p1,p2,p3,rfl,hp,vp,hbl⟩
 have Hvp:=Lib.hid vp;clear vp;have M7:=M4.on hbl;clear hbl;go_wp2_with fail;refine hK.out _ _ (Or.inr M7) (fun hHeld => ?_);clear hK K hHeld
 try simp only [Act.put,List.setIfInBounds_toArray,List.set_cons_zero,List.set_cons_succ]
 obtain ⟨q0,q1,q2,q3,qf⟩:=M7.rowR;have M8:=M7.put p0 p1 p2 p3;refine cC (i:=6) (by kernel_rfl) rfl (fun K hK => ?_);have hsz:=M7.size;clear M4 M7;have HM8:=Lib.hid M8;clear M8;go_simp;refine hK.out _ _ (Or.inl rfl) (fun hHeld => ?_);clear hK K hHeld q0 q1 q2 q3 qf;refine oU (by kernel_rfl) ?_;have HG:=HM8.out;unfold set4 at HG;generalize (((w9.setCell ⟨g10,0,none⟩ (.int .u64 (p0 : Nat))).setCell ⟨g10,1,none⟩ (.int .u64 (p1 : Nat))).setCell ⟨g10,2,none⟩ (.int .u64 (p2 : Nat))).setCell ⟨g10,3,none⟩ (.int .u64 (p3 : Nat)) = W3 at HG ⊢;have HM10:=Lib.hid HG;obtain ⟨q0,q1,q2,q3,qf⟩:=HG.rowR;clear HG HM8;go_wp2_with fail;refine (sZ p0 p1 p2 p3 S hp (by omega) (by omega) _).mono ?_
 rintro e wz ⟨s0,s1,s2,s3,rfl,hs,vs,hbl⟩
 rw [Int.toNat_natCast] at vs;have HF : Hid (aF s0 s1 s2 s3 = (aF h0 h1 h2 h3 * 115792089237316195423570985008687907853269984665640564039457584007913129639936 + aF l0 l1 l2 l3) % aF m0 m1 m2 m3):=Lib.hid (by
  rw [vs,HeS.out];refine aHx (L:=L) (r1:=aF n0 n1 n2 n3) bL ?_ ?_
  ·rw [Hvn.out,Hvz.out,Hvx.out,Hvy.out,Hevb.out,Hvr.out,HeS.out,aBQ bL (bP hl)]
  ·rw [Hvp.out,Hvu.out,Hevb.out,HeS.out])
 have M11:=HM10.out.on hbl;obtain ⟨o0,o1,o2,o3,of⟩:=M11.rowO;have HB:=Lib.hid M11.below;clear vs hbl M11 q0 q1 q2 q3 qf;go_wp2_with fail;refine bodyPost_ret (v:=.tuple #[.agg #[.int .u64 s0,.int .u64 s1,.int .u64 s2,.int .u64 s3],.int .i64 0]) (by simp [results,results258,go_sem, *]) rfl ?_;exact ⟨s0,s1,s2,s3,0,rfl,hs,⟨HF.out,rfl⟩,bB HB.out (by omega) _ _ _ _⟩
def Tj (B : Nat → Nat) (s : Nat) : Nat → Nat
 | 0 => 0
 | n + 1 => Tj B s n * 256 + B (s + n)
def RowB (w : World) (b n : Nat) (P : Nat → Nat) : Prop:=∀ k,k < n → w.cell? ⟨b,k,none⟩ = some (.int .u8 (P k : Nat)) ∧ w.frozen? ⟨b,k,none⟩ = false
theorem RowB.below {w w' : World} {b n : Nat} {P : Nat → Nat} (h : RowB w b n P) {B : Nat} (hb : Below B w w') (hB : b < B) : RowB w' b n P:=fun k hk =>
 ⟨(hb.cell (p:=⟨b,k,none⟩) hB).trans (h k hk).1,(hb.frozen (p:=⟨b,k,none⟩) hB).trans (h k hk).2⟩
theorem RowB.set {w : World} {b n i v : Nat} {P : Nat → Nat} (h : RowB w b n P) (hi : i < n) : RowB (w.setCell ⟨b,i,none⟩ (.int .u8 (v : Nat))) b n (upd P i v):=by
 intro k hk;refine ⟨?_,by rw [World.frozen?_setCell]; exact (h k hk).2⟩;unfold upd
 by_cases e : k = i
 ·subst e; rw [if_pos rfl]; exact World.cell?_setCell_same (h:=(h k hk).1) ..
 ·rw [if_neg e,World.cell?_setCell_other (h:=fun he => e (by simpa using (congrArg Addr.off he).symm)) ..]; exact (h k hk).1
theorem RowB.other {w : World} {b n i : Nat} {P : Nat → Nat} (h : RowB w b n P) {c : Nat} (hc : c ≠ b) (x : Value) : RowB (w.setCell ⟨c,i,none⟩ x) b n P:=by
 intro k hk;exact ⟨by rw [World.cell?_setCell_other (h:=fun he => hc (by simpa using congrArg Addr.block he)) ..]; exact (h k hk).1,by rw [World.frozen?_setCell]; exact (h k hk).2⟩
theorem RowB.drewN {w : World} {b n : Nat} {P : Nat → Nat} (h : RowB w b n P) (m : Nat) : RowB (w.drewN m) b n P:=h
theorem RowB.ext {w : World} {b n : Nat} {P R : Nat → Nat} (h : RowB w b n P) (e : ∀ k,k < n → P k = R k) : RowB w b n R:=fun k hk => ⟨by rw [← e k hk]; exact (h k hk).1,(h k hk).2⟩
set_option maxHeartbeats 2000000 in
theorem Fu (f : Int) (F : FC) (hf : FieldIs f F) (g0 g1 g2 g3 l0 l1 l2 l3 : Nat) (hg : cQ g0 g1 g2 g3) (hl : cQ l0 l1 l2 l3) (w : World) :
  Calls prog 249 #[.int .i64 f,.agg #[.int .u64 g0,.int .u64 g1,.int .u64 g2,.int .u64 g3],.agg #[.int .u64 l0,.int .u64 l1,.int .u64 l2,.int .u64 l3]] w (Nw 0 ((aF g0 g1 g2 g3 * 115792089237316195423570985008687907853269984665640564039457584007913129639936 + aF l0 l1 l2 l3) % F.M) w):=by
 go_enter func249,ntmps249
 go_wp2_with fail;refine (fH f F hf _).mono ?_
 rintro e w1 ⟨rfl,hbl⟩
 have M1:=((((Mem.nil w).new (w.heap.size) g0 g1 g2 g3 24 (by simp)).new (w.heap.size + 1) l0 l1 l2 l3 24 (by simp)).new (w.heap.size + 1 + 1) 0 0 0 0 25 (by simp)).on hbl;clear hbl;have z0 : w.heap.size < w1.heap.size:=M1.lt (c0:=g0) (c1:=g1) (c2:=g2) (c3:=g3) (by simp);have z1 : w.heap.size + 1 < w1.heap.size:=M1.lt (c0:=l0) (c1:=l1) (c2:=l2) (c3:=l3) (by simp);have z2 : w.heap.size + 1 + 1 < w1.heap.size:=M1.lt (c0:=0) (c1:=0) (c2:=0) (c3:=0) (by simp);have HM:=Lib.hid (M1.on ((Below.refl _ _).alloc (Nat.le_refl _) (.cells #[.int .u64 F.m0,.int .u64 F.m1,.int .u64 F.m2,.int .u64 F.m3,.int .u64 F.inv,.int .u64 F.s0,.int .u64 F.s1,.int .u64 F.s2,.int .u64 F.s3] 115)));have KK:=Lib.hid (KIs.new w1 F 115);have kr:=M1.row (b:=w.heap.size) (c0:=g0) (c1:=g1) (c2:=g2) (c3:=g3) (by simp);have x0:=kr.c0; have x1:=kr.c1; have x2:=kr.c2; have x3:=kr.c3;clear kr;have xl:=M1.lt (b:=w.heap.size) (c0:=g0) (c1:=g1) (c2:=g2) (c3:=g3) (by simp);have kr:=M1.row (b:=w.heap.size + 1) (c0:=l0) (c1:=l1) (c2:=l2) (c3:=l3) (by simp);have u0:=kr.c0; have u1:=kr.c1; have u2:=kr.c2; have u3:=kr.c3;clear kr;have ul:=M1.lt (b:=w.heap.size + 1) (c0:=l0) (c1:=l1) (c2:=l2) (c3:=l3) (by simp);have k0:=KK.out.k0; have k1:=KK.out.k1; have k2:=KK.out.k2; have k3:=KK.out.k3;go_wp2_with fail;refine (aBv g0 g1 g2 g3 l0 l1 l2 l3 F.m0 F.m1 F.m2 F.m3 hg hl hf.ok.okm hf.ok.pos _).mono ?_
 rintro e w2 ⟨s0,s1,s2,s3,er,rfl,hs,⟨hv,rfl⟩,hbl⟩
 have HV:=Lib.hid hv;clear hv;have HM':=Lib.hid (HM.out.on hbl);have KK':=Lib.hid (KK.out.same hbl);have zk:=KK'.out.lt;clear HM KK hbl M1;have HM:=HM';have KK:=KK';clear HM' KK';clear zk k0 k1 k2 k3 x0 x1 x2 x3 xl u0 u1 u2 u3 ul;have wz : w.heap.size + 1 + 1 < w2.heap.size:=HM.out.lt (b:=w.heap.size + 1 + 1) (c0:=0) (c1:=0) (c2:=0) (c3:=0) (by simp);have kr:=HM.out.row (b:=w.heap.size + 1 + 1) (c0:=0) (c1:=0) (c2:=0) (c3:=0) (by simp);have y0:=kr.c0; have y1:=kr.c1; have y2:=kr.c2; have y3:=kr.c3; have yf:=kr.fr;clear kr;have yl:=HM.out.lt (b:=w.heap.size + 1 + 1) (c0:=0) (c1:=0) (c2:=0) (c3:=0) (by simp);go_wp2_with fail;refine bodyPost_ret (v:=.tuple #[.agg #[.int .u64 s0,.int .u64 s1,.int .u64 s2,.int .u64 s3],.int .i64 0]) (by simp [results,results249,go_sem, *]) rfl ?_;refine ⟨_,_,_,_,rfl,hs,HV.out,?_⟩
 repeat (first | exact HM.out.1 | refine Below.alloc ?_ (by first | (simp; done) | (simp; omega)) _ | refine Below.setCell ?_ (by first | (simp; done) | (simp; omega)) _)
theorem sK : FieldIs 1 FP:=Or.inl ⟨rfl,rfl⟩
def FwPost (x : Nat) (w : World) (e : Ending) (w' : World) : Prop:=e = .returned (.agg #[.int .u64 (fw x 0 : Nat),.int .u64 (fw x 1 : Nat),.int .u64 (fw x 2 : Nat),.int .u64 (fw x 3 : Nat)]) ∧ Below w.heap.size w w'
theorem FwPost.of {x : Nat} {w : World} {e : Ending} {w' : World} (hx : x < FP.M) (h : gU x w e w') : FwPost x w e w':=by
 obtain ⟨s0,s1,s2,s3,rfl,hs,hv,hb⟩:=h;obtain ⟨rfl,rfl,rfl,rfl⟩:=nZ hs (BG hx) hv;exact ⟨rfl,hb⟩
set_option maxHeartbeats 4000000 in
theorem NM (a0 a1 a2 a3 b0 b1 b2 b3 : Nat) (ha : cQ a0 a1 a2 a3) (hb : cQ b0 b1 b2 b3) (la : aF a0 a1 a2 a3 < FP.M) (lb : aF b0 b1 b2 b3 < FP.M) (w : World) :
  Calls prog 222 #[.agg #[.int .u64 a0,.int .u64 a1,.int .u64 a2,.int .u64 a3],.agg #[.int .u64 b0,.int .u64 b1,.int .u64 b2,.int .u64 b3]] w (gU ((aF a0 a1 a2 a3 + aF b0 b1 b2 b3) % FP.M) w):=by
 go_enter func222,ntmps222
 go_wp2_with fail;have HM:=Lib.hid ((((Mem.nil w).new (w.heap.size) a0 a1 a2 a3 25 (by simp)).new (w.heap.size + 1) b0 b1 b2 b3 25 (by simp)).new (w.heap.size + 1 + 1) 0 0 0 0 25 (by simp));refine (Mj 1 FP sK a0 a1 a2 a3 b0 b1 b2 b3 ha hb la lb _).mono ?_
 rintro e w1 ⟨s0,s1,s2,s3,rfl,hs,hv,hbl⟩
 have HV:=Lib.hid hv;have HM':=Lib.hid (HM.out.on hbl);clear hv hbl;clear HM;have HM:=HM';clear HM';have kr:=HM.out.row (b:=w.heap.size + 1 + 1) (c0:=0) (c1:=0) (c2:=0) (c3:=0) (by simp);have y0:=kr.c0; have y1:=kr.c1; have y2:=kr.c2; have y3:=kr.c3; have yf:=kr.fr;clear kr;have yl:=HM.out.lt (b:=w.heap.size + 1 + 1) (c0:=0) (c1:=0) (c2:=0) (c3:=0) (by simp);have HB1:=Lib.hid HM.out.1;clear HM;go_wp2_with fail;refine bodyPost_ret (v:=.agg #[.int .u64 s0,.int .u64 s1,.int .u64 s2,.int .u64 s3]) (by simp [results,results222,go_sem, *]) rfl ?_;refine ⟨_,_,_,_,rfl,hs,HV.out,?_⟩;have hbx:=HB1.out;have hsz:=hbx.size
 repeat (first | exact hbx | refine Below.drew ?_ | refine Below.alloc ?_ (by first | exact hsz | (simp; done) | (simp; omega)) _ | refine Below.setCell ?_ (by first | (simp; done) | (simp; omega)) _)
theorem TP (x y : Nat) (hx : x < FP.M) (hy : y < FP.M) (w : World) : Calls prog 222 #[.agg #[.int .u64 (fw x 0 : Nat),.int .u64 (fw x 1 : Nat),.int .u64 (fw x 2 : Nat),.int .u64 (fw x 3 : Nat)],.agg #[.int .u64 (fw y 0 : Nat),.int .u64 (fw y 1 : Nat),.int .u64 (fw y 2 : Nat),.int .u64 (fw y 3 : Nat)]] w (FwPost ((x + y) % FP.M) w):=by
 refine (NM _ _ _ _ _ _ _ _ (dL x) (dL y) (by rw [bZ hx]; exact hx) (by rw [bZ hy]; exact hy) w).mono ?_;rw [bZ hx,bZ hy];exact fun e w' h => FwPost.of (Nat.mod_lt _ iG) h
set_option maxHeartbeats 4000000 in
theorem JM (a0 a1 a2 a3 b0 b1 b2 b3 : Nat) (ha : cQ a0 a1 a2 a3) (hb : cQ b0 b1 b2 b3) (la : aF a0 a1 a2 a3 < FP.M) (lb : aF b0 b1 b2 b3 < FP.M) (w : World) :
  Calls prog 221 #[.agg #[.int .u64 a0,.int .u64 a1,.int .u64 a2,.int .u64 a3],.agg #[.int .u64 b0,.int .u64 b1,.int .u64 b2,.int .u64 b3]] w (gU ((aF a0 a1 a2 a3 + FP.M - aF b0 b1 b2 b3) % FP.M) w):=by
 go_enter func221,ntmps221
 go_wp2_with fail;have HM:=Lib.hid ((((Mem.nil w).new (w.heap.size) a0 a1 a2 a3 25 (by simp)).new (w.heap.size + 1) b0 b1 b2 b3 25 (by simp)).new (w.heap.size + 1 + 1) 0 0 0 0 25 (by simp));refine (Lv 1 FP sK a0 a1 a2 a3 b0 b1 b2 b3 ha hb la lb _).mono ?_
 rintro e w1 ⟨s0,s1,s2,s3,rfl,hs,hv,hbl⟩
 have HV:=Lib.hid hv;have HM':=Lib.hid (HM.out.on hbl);clear hv hbl;clear HM;have HM:=HM';clear HM';have kr:=HM.out.row (b:=w.heap.size + 1 + 1) (c0:=0) (c1:=0) (c2:=0) (c3:=0) (by simp);have y0:=kr.c0; have y1:=kr.c1; have y2:=kr.c2; have y3:=kr.c3; have yf:=kr.fr;clear kr;have yl:=HM.out.lt (b:=w.heap.size + 1 + 1) (c0:=0) (c1:=0) (c2:=0) (c3:=0) (by simp);have HB1:=Lib.hid HM.out.1;clear HM;go_wp2_with fail;refine bodyPost_ret (v:=.agg #[.int .u64 s0,.int .u64 s1,.int .u64 s2,.int .u64 s3]) (by simp [results,results221,go_sem, *]) rfl ?_;refine ⟨_,_,_,_,rfl,hs,HV.out,?_⟩;have hbx:=HB1.out;have hsz:=hbx.size
 repeat (first | exact hbx | refine Below.drew ?_ | refine Below.alloc ?_ (by first | exact hsz | (simp; done) | (simp; omega)) _ | refine Below.setCell ?_ (by first | (simp; done) | (simp; omega)) _)
theorem NT (x y : Nat) (hx : x < FP.M) (hy : y < FP.M) (w : World) : Calls prog 221 #[.agg #[.int .u64 (fw x 0 : Nat),.int .u64 (fw x 1 : Nat),.int .u64 (fw x 2 : Nat),.int .u64 (fw x 3 : Nat)],.agg #[.int .u64 (fw y 0 : Nat),.int .u64 (fw y 1 : Nat),.int .u64 (fw y 2 : Nat),.int .u64 (fw y 3 : Nat)]] w (FwPost ((x + FP.M - y) % FP.M) w):=by
 refine (JM _ _ _ _ _ _ _ _ (dL x) (dL y) (by rw [bZ hx]; exact hx) (by rw [bZ hy]; exact hy) w).mono ?_;rw [bZ hx,bZ hy];exact fun e w' h => FwPost.of (Nat.mod_lt _ iG) h
set_option maxHeartbeats 4000000 in
theorem JL (a0 a1 a2 a3 b0 b1 b2 b3 : Nat) (ha : cQ a0 a1 a2 a3) (hb : cQ b0 b1 b2 b3) (la : aF a0 a1 a2 a3 < FP.M) (lb : aF b0 b1 b2 b3 < FP.M) (w : World) :
  Calls prog 225 #[.agg #[.int .u64 a0,.int .u64 a1,.int .u64 a2,.int .u64 a3],.agg #[.int .u64 b0,.int .u64 b1,.int .u64 b2,.int .u64 b3]] w (gU (aF a0 a1 a2 a3 * aF b0 b1 b2 b3 % FP.M) w):=by
 go_enter func225,ntmps225
 go_wp2_with fail;have HM:=Lib.hid ((((Mem.nil w).new (w.heap.size) a0 a1 a2 a3 25 (by simp)).new (w.heap.size + 1) b0 b1 b2 b3 25 (by simp)).new (w.heap.size + 1 + 1) 0 0 0 0 25 (by simp));refine (Ma 1 FP sK a0 a1 a2 a3 b0 b1 b2 b3 ha hb la lb _).mono ?_
 rintro e w1 ⟨s0,s1,s2,s3,rfl,hs,hv,hbl⟩
 have HV:=Lib.hid hv;have HM':=Lib.hid (HM.out.on hbl);clear hv hbl;clear HM;have HM:=HM';clear HM';have kr:=HM.out.row (b:=w.heap.size + 1 + 1) (c0:=0) (c1:=0) (c2:=0) (c3:=0) (by simp);have y0:=kr.c0; have y1:=kr.c1; have y2:=kr.c2; have y3:=kr.c3; have yf:=kr.fr;clear kr;have yl:=HM.out.lt (b:=w.heap.size + 1 + 1) (c0:=0) (c1:=0) (c2:=0) (c3:=0) (by simp);have HB1:=Lib.hid HM.out.1;clear HM;go_wp2_with fail;refine bodyPost_ret (v:=.agg #[.int .u64 s0,.int .u64 s1,.int .u64 s2,.int .u64 s3]) (by simp [results,results225,go_sem, *]) rfl ?_;refine ⟨_,_,_,_,rfl,hs,HV.out,?_⟩;have hbx:=HB1.out;have hsz:=hbx.size
 repeat (first | exact hbx | refine Below.drew ?_ | refine Below.alloc ?_ (by first | exact hsz | (simp; done) | (simp; omega)) _ | refine Below.setCell ?_ (by first | (simp; done) | (simp; omega)) _)
theorem NK (x y : Nat) (hx : x < FP.M) (hy : y < FP.M) (w : World) : Calls prog 225 #[.agg #[.int .u64 (fw x 0 : Nat),.int .u64 (fw x 1 : Nat),.int .u64 (fw x 2 : Nat),.int .u64 (fw x 3 : Nat)],.agg #[.int .u64 (fw y 0 : Nat),.int .u64 (fw y 1 : Nat),.int .u64 (fw y 2 : Nat),.int .u64 (fw y 3 : Nat)]] w (FwPost (x * y % FP.M) w):=by
 refine (JL _ _ _ _ _ _ _ _ (dL x) (dL y) (by rw [bZ hx]; exact hx) (by rw [bZ hy]; exact hy) w).mono ?_;rw [bZ hx,bZ hy];exact fun e w' h => FwPost.of (Nat.mod_lt _ iG) h
set_option maxHeartbeats 4000000 in
theorem TQ (a0 a1 a2 a3 : Nat) (ha : cQ a0 a1 a2 a3) (la : aF a0 a1 a2 a3 < FP.M) (w : World) :
  Calls prog 223 #[.agg #[.int .u64 a0,.int .u64 a1,.int .u64 a2,.int .u64 a3]] w (gU ((0 + FP.M - aF a0 a1 a2 a3) % FP.M) w):=by
 go_enter func223,ntmps223
 go_wp2_with fail;have HM:=Lib.hid (((Mem.nil w).new (w.heap.size) a0 a1 a2 a3 25 (by simp)).new (w.heap.size + 1) 0 0 0 0 25 (by simp));refine (Lz 1 FP sK a0 a1 a2 a3 ha la _).mono ?_
 rintro e w1 ⟨s0,s1,s2,s3,rfl,hs,hv,hbl⟩
 have HV:=Lib.hid hv;have HM':=Lib.hid (HM.out.on hbl);clear hv hbl;clear HM;have HM:=HM';clear HM';have kr:=HM.out.row (b:=w.heap.size + 1) (c0:=0) (c1:=0) (c2:=0) (c3:=0) (by simp);have y0:=kr.c0; have y1:=kr.c1; have y2:=kr.c2; have y3:=kr.c3; have yf:=kr.fr;clear kr;have yl:=HM.out.lt (b:=w.heap.size + 1) (c0:=0) (c1:=0) (c2:=0) (c3:=0) (by simp);have kr:=HM.out.row (b:=w.heap.size) (c0:=a0) (c1:=a1) (c2:=a2) (c3:=a3) (by simp);have x0:=kr.c0; have x1:=kr.c1; have x2:=kr.c2; have x3:=kr.c3; have xf:=kr.fr;clear kr;have xl:=HM.out.lt (b:=w.heap.size) (c0:=a0) (c1:=a1) (c2:=a2) (c3:=a3) (by simp);go_wp2_with fail;refine bodyPost_ret (v:=.agg #[.int .u64 s0,.int .u64 s1,.int .u64 s2,.int .u64 s3]) (by simp [results,results223,go_sem, *]) rfl ?_;refine ⟨_,_,_,_,rfl,hs,HV.out,?_⟩;exact bB (bB HM.out.1 (Nat.le_refl _) _ _ _ _) (by omega) _ _ _ _
theorem Ay (x : Nat) (hx : x < FP.M) (w : World) : Calls prog 223 #[.agg #[.int .u64 (fw x 0 : Nat),.int .u64 (fw x 1 : Nat),.int .u64 (fw x 2 : Nat),.int .u64 (fw x 3 : Nat)]] w (FwPost ((0 + FP.M - x) % FP.M) w):=by
 refine (TQ _ _ _ _ (dL x) (by rw [bZ hx]; exact hx) w).mono ?_;rw [bZ hx];exact fun e w' h => FwPost.of (Nat.mod_lt _ iG) h
set_option maxHeartbeats 4000000 in
theorem NL (a0 a1 a2 a3 : Nat) (ha : cQ a0 a1 a2 a3) (w : World) :
  Calls prog 220 #[.agg #[.int .u64 a0,.int .u64 a1,.int .u64 a2,.int .u64 a3]] w (gU (aF a0 a1 a2 a3 % FP.M) w):=by
 go_enter func220,ntmps220
 go_wp2_with fail;have HM:=Lib.hid (((Mem.nil w).new (w.heap.size) a0 a1 a2 a3 25 (by simp)).new (w.heap.size + 1) 0 0 0 0 25 (by simp))
 by_cases la : aF a0 a1 a2 a3 < FP.M
 ·refine (MI 1 FP sK a0 a1 a2 a3 ha la _).mono ?_
  rintro e w1 ⟨rfl,hbl⟩
  have HL:=Lib.hid la;have HM':=Lib.hid (HM.out.on hbl);clear hbl la;clear HM;have HM:=HM';clear HM';have kr:=HM.out.row (b:=w.heap.size + 1) (c0:=0) (c1:=0) (c2:=0) (c3:=0) (by simp);have y0:=kr.c0; have y1:=kr.c1; have y2:=kr.c2; have y3:=kr.c3; have yf:=kr.fr;clear kr;have yl:=HM.out.lt (b:=w.heap.size + 1) (c0:=0) (c1:=0) (c2:=0) (c3:=0) (by simp);have kr:=HM.out.row (b:=w.heap.size) (c0:=a0) (c1:=a1) (c2:=a2) (c3:=a3) (by simp);have x0:=kr.c0; have x1:=kr.c1; have x2:=kr.c2; have x3:=kr.c3;clear kr;have xl:=HM.out.lt (b:=w.heap.size) (c0:=a0) (c1:=a1) (c2:=a2) (c3:=a3) (by simp);go_wp2_with fail;refine bodyPost_ret (v:=.agg #[.int .u64 a0,.int .u64 a1,.int .u64 a2,.int .u64 a3]) (by simp [results,results220,go_sem, *]) rfl ?_;refine ⟨_,_,_,_,rfl,ha,by rw [Nat.mod_eq_of_lt HL.out],?_⟩;exact bB HM.out.1 (by omega) _ _ _ _
 ·refine (GW 1 21 a0 a1 a2 a3 ha (Or.inr ⟨FP,sK,la,rfl⟩) _).mono ?_
  rintro e w1 ⟨rfl,hbl⟩
  have HM':=Lib.hid (HM.out.on hbl);clear hbl la;clear HM;have HM:=HM';clear HM';have kr:=HM.out.row (b:=w.heap.size) (c0:=a0) (c1:=a1) (c2:=a2) (c3:=a3) (by simp);have x0:=kr.c0; have x1:=kr.c1; have x2:=kr.c2; have x3:=kr.c3;clear kr;have xl:=HM.out.lt (b:=w.heap.size) (c0:=a0) (c1:=a1) (c2:=a2) (c3:=a3) (by simp);go_wp2_with fail;refine (Fu 1 FP sK 0 0 0 0 a0 a1 a2 a3 zok ha _).mono ?_
  rintro e w2 ⟨s0,s1,s2,s3,rfl,hs,hv,hbl⟩
  have HV:=Lib.hid (show aF s0 s1 s2 s3 = aF a0 a1 a2 a3 % FP.M by rw [hv,show aF 0 0 0 0 = 0 from rfl,Nat.zero_mul,Nat.zero_add]);have HM':=Lib.hid (HM.out.on hbl);clear hv hbl x0 x1 x2 x3 xl;clear HM;have HM:=HM';clear HM';have kr:=HM.out.row (b:=w.heap.size + 1) (c0:=0) (c1:=0) (c2:=0) (c3:=0) (by simp);have y0:=kr.c0; have y1:=kr.c1; have y2:=kr.c2; have y3:=kr.c3; have yf:=kr.fr;clear kr;have yl:=HM.out.lt (b:=w.heap.size + 1) (c0:=0) (c1:=0) (c2:=0) (c3:=0) (by simp);have kr:=HM.out.row (b:=w.heap.size) (c0:=a0) (c1:=a1) (c2:=a2) (c3:=a3) (by simp);have x0:=kr.c0; have x1:=kr.c1; have x2:=kr.c2; have x3:=kr.c3; have xf:=kr.fr;clear kr;have xl:=HM.out.lt (b:=w.heap.size) (c0:=a0) (c1:=a1) (c2:=a2) (c3:=a3) (by simp);go_wp2_with fail;refine bodyPost_ret (v:=.agg #[.int .u64 s0,.int .u64 s1,.int .u64 s2,.int .u64 s3]) (by simp [results,results220,go_sem, *]) rfl ?_;refine ⟨_,_,_,_,rfl,hs,HV.out,?_⟩;exact bB (bB HM.out.1 (Nat.le_refl _) _ _ _ _) (by omega) _ _ _ _
theorem TO (a0 a1 a2 a3 : Nat) (ha : cQ a0 a1 a2 a3) (w : World) : Calls prog 220 #[.agg #[.int .u64 a0,.int .u64 a1,.int .u64 a2,.int .u64 a3]] w (FwPost (aF a0 a1 a2 a3 % FP.M) w) :=
 (NL a0 a1 a2 a3 ha w).mono fun e w' h => FwPost.of (Nat.mod_lt _ iG) h
set_option maxHeartbeats 4000000 in
theorem BR (A B : Nat → Nat → Nat) (p q : Option Addr) (la ca cb : Nat) (h2 : la ≤ 65536) (ia : Af FP.M la A) (ib : Af FP.M la B) (w : World) (hA : FIs w p la A) (hB : FIs w q la B) :
  Calls prog 224 #[.slice p la ca,.slice q la cb] w (FwPost (xU FP.M (JH A) (JH B) la) w):=by
 have HA:=Lib.hid hA;have HB:=Lib.hid hB;have IA:=Lib.hid ia;have IB:=Lib.hid ib;clear hA hB ia ib
 suffices h : Calls prog 224 #[.slice p la ca,.slice q la cb] w (gU (xU FP.M (JH A) (JH B) la) w) from h.mono fun e w' h => FwPost.of (aID iG _ _ _) h
 go_enter func224,ntmps224
 go_wp2_with fail;have HM:=Lib.hid ((Mem.nil w).new (w.heap.size) 0 0 0 0 25 (by simp));refine (Mf 1 FP sK p q la ca la cb A B rfl h2 IA.out IB.out _ (HA.out.on HM.out.1) (HB.out.on HM.out.1)).mono ?_
 rintro e w1 ⟨s0,s1,s2,s3,rfl,hs,hv,hbl⟩
 have HV:=Lib.hid hv;have HM':=Lib.hid (HM.out.on hbl);clear hv hbl;clear HM;have HM:=HM';clear HM';have kr:=HM.out.row (b:=w.heap.size) (c0:=0) (c1:=0) (c2:=0) (c3:=0) (by simp);have y0:=kr.c0; have y1:=kr.c1; have y2:=kr.c2; have y3:=kr.c3; have yf:=kr.fr;clear kr;have yl:=HM.out.lt (b:=w.heap.size) (c0:=0) (c1:=0) (c2:=0) (c3:=0) (by simp);have HB1:=Lib.hid HM.out.1;clear HM;go_wp2_with fail;refine bodyPost_ret (v:=.agg #[.int .u64 s0,.int .u64 s1,.int .u64 s2,.int .u64 s3]) (by simp [results,results224,go_sem, *]) rfl ?_;refine ⟨_,_,_,_,rfl,hs,HV.out,?_⟩;have hbx:=HB1.out;have hsz:=hbx.size
 repeat (first | exact hbx | refine Below.drew ?_ | refine Below.alloc ?_ (by first | exact hsz | (simp; done) | (simp; omega)) _ | refine Below.setCell ?_ (by first | (simp; done) | (simp; omega)) _)
end Go.Proofs.YtglgakbkdjhojaaGreat
namespace Go.Proofs.YtglgakbkdjhojaaGreat.Ex
open Go.Proofs.Tryz
open Go.RowKit
theorem LQ {x : Nat} {f : FuncId} {args : List Value} {w : World} {y : Fq} (h : Calls prog f args.toArray w (FwPost x w)) (e : x = y.1) : Good prog f (.one (.fl (e1 y))) args w:=by
 subst e;exact h.mono fun e w' h => h
theorem BM {l : List At} {args : List Value} {w : World} (h : bR w [.v (.fl l)] args) : args = [.agg (aA l).toArray]:=by
 match args,h with
 | [v],h => rw [show v = _ from h.1]; rfl
 | [],h => exact h.elim
 | _ :: _ :: _,h => exact h.2.elim
theorem NB {l m : List At} {args : List Value} {w : World} (h : bR w [.v (.fl l),.v (.fl m)] args) : args = [.agg (aA l).toArray,.agg (aA m).toArray]:=by
 match args,h with
 | [v,u],h => rw [show v = _ from h.1,show u = _ from h.2.1]; rfl
 | [],h => exact h.elim
 | [_],h => exact h.2.elim
 | _ :: _ :: _ :: _,h => exact h.2.2.elim
theorem aQE (x y : Fq) (args : List Value) (w : World) (ha : bR w [.v (.fl (e1 x)),.v (.fl (e1 y))] args) : Good prog 222 (.one (.fl (e1 (F1.add x y)))) args w:=by
 rw [NB ha];exact LQ (TP x.1 y.1 x.2 y.2 w) rfl
theorem aFe (x y : Fq) : (x.1 + FP.M - y.1) % FP.M = (F1.sub x y).1:=by
 show _ = (x.1 + (0 + FP.M - y.1) % FP.M) % FP.M;have:=y.2;rw [Nat.add_mod_mod];congr 1;omega
theorem aIZ (x y : Fq) (args : List Value) (w : World) (ha : bR w [.v (.fl (e1 x)),.v (.fl (e1 y))] args) : Good prog 221 (.one (.fl (e1 (F1.sub x y)))) args w:=by
 rw [NB ha];exact LQ (NT x.1 y.1 x.2 y.2 w) (aFe x y)
theorem aIY (x y : Fq) (args : List Value) (w : World) (ha : bR w [.v (.fl (e1 x)),.v (.fl (e1 y))] args) : Good prog 225 (.one (.fl (e1 (F1.mul x y)))) args w:=by
 rw [NB ha];exact LQ (NK x.1 y.1 x.2 y.2 w) rfl
theorem aVl (x : Fq) (args : List Value) (w : World) (ha : bR w [.v (.fl (e1 x))] args) : Good prog 223 (.one (.fl (e1 (F1.neg x)))) args w:=by
 rw [BM ha];exact LQ (Ay x.1 x.2 w) rfl
theorem aQC (x : Nat) (args : List Value) (w : World) (ha : bR w [.v (.fl (q1 x))] args) : Good prog 220 (.one (.fl (e1 (m1 x)))) args w:=by
 rw [BM ha];exact LQ (TO _ _ _ _ (dL x) w) rfl
theorem tD : ∀ {n : Nat} {l : List At} {x : List Fq},XP n l = some x → x.length = n ∧ ∃ r,l = x.map .f ++ r
 | 0,l,x,h => by cases h; exact ⟨rfl,l,rfl⟩
 | n + 1,.f a :: r,x,h => by
  unfold XP at h;split at h
  ·rename_i l hl;cases h;obtain ⟨h1,s,h2⟩:=tD hl;exact ⟨by rw [List.length_cons,h1],s,by rw [h2]; rfl⟩
  ·cases h
 | n + 1,[],x,h => by cases h
 | n + 1,.q _ :: _,x,h => by cases h
 | n + 1,.c _ :: _,x,h => by cases h
def lw (x : List Fq) (k i : Nat) : Nat:=fw ((x[k]?).getD F1.zero).1 i
theorem aCH : ∀ (x : List Fq) (k : Nat),k < x.length → ∀ i,i < 4 → (aA (x.map .f))[k * 4 + i]? = some (.int .u64 (lw x k i : Nat))
 | a :: r,0,_,i,hi => by
  show (w4 a.1 ++ aA (r.map .f))[0 * 4 + i]? = _;rw [List.getElem?_append_left (by show _ < 4; omega)]
  match i,hi with
  | 0,_ => rfl
  | 1,_ => rfl
  | 2,_ => rfl
  | 3,_ => rfl
 | a :: r,k + 1,h,i,hi => by
  show (w4 a.1 ++ aA (r.map .f))[(k + 1) * 4 + i]? = _;rw [List.getElem?_append_right (by show 4 ≤ _; omega),show (k + 1) * 4 + i - (w4 a.1).length = k * 4 + i by show _ - 4 = _; omega,aCH r k (by simpa using h) i hi];simp [lw]
theorem PV {n : Nat} {l : List At} {x : List Fq} (h : XP n l = some x) (h6 : n ≤ 6) {b o : Nat} {w : World} (hb : b < w.heap.size) (hr : w.rangeAt b o (aA l)) : FIs w (some ⟨b,o,none⟩) n (lw x):=by
 obtain ⟨h1,r,h2⟩:=tD h;refine ⟨by omega,fun k hk => dL _,fun _ => ⟨b,o,rfl,hb,fun k hk => ?_⟩⟩;have hc : ∀ i,i < 4 → w.cell? ⟨b,o + k * 4 + i,none⟩ = some (.int .u64 (lw x k i : Nat)):=fun i hi => by
  rw [Nat.add_assoc];refine hr (k * 4 + i) _ ?_;rw [h2,aP,List.getElem?_append_left (by
   rw [aU];have : ∀ x : List Fq,cS (x.map .f) = 4 * x.length:=fun x => by
    induction x with
    | nil => rfl
    | cons a r ih => show 4 + cS (r.map .f) = 4 * (r.length + 1); omega
   rw [this,h1]; omega)]
  exact aCH x k (by omega) i hi
 exact ⟨hc 0 (by omega),hc 1 (by omega),hc 2 (by omega),hc 3 (by omega)⟩
theorem LT (x : List Fq) (k : Nat) : JH (lw x) k = ((x[k]?).getD F1.zero).1:=bZ (Fin.isLt _)
theorem ZR : ∀ (x y : List Fq) (a : Fq) (X Y : Nat → Nat) (k : Nat),x.length = y.length → (∀ j,j < x.length → X (k + j) = ((x[j]?).getD F1.zero).1) → (∀ j,j < y.length → Y (k + j) = ((y[j]?).getD F1.zero).1) → a.1 = xU FP.M X Y k → (Tx a x y).1 = xU FP.M X Y (k + x.length)
 | [],[],a,X,Y,k,_,_,_,h => h
 | p :: x,q :: y,a,X,Y,k,hl,hX,hY,h => by
  have e : (F1.add a (F1.mul p q)).1 = xU FP.M X Y (k + 1):=by
   show (a.1 + p.1 * q.1 % FP.M) % FP.M = (xU FP.M X Y k + X k * Y k) % FP.M;rw [Nat.add_mod_mod,h];have h1:=hX 0 (by simp);have h2:=hY 0 (by simp);rw [Nat.add_zero] at h1 h2;rw [h1,h2];rfl
  have:=ZR x y (F1.add a (F1.mul p q)) X Y (k + 1) (by simpa using hl) (fun j hj => by have:=hX (j + 1) (by simpa using hj); rw [show k + 1 + j = k + (j + 1) by omega,this]; simp)
   (fun j hj => by have:=hY (j + 1) (by simpa using hj); rw [show k + 1 + j = k + (j + 1) by omega,this]; simp) e
  rw [show k + (p :: x).length = k + 1 + x.length by simp; omega];exact this
 | [],_ :: _,_,_,_,_,h,_,_,_ => by cases h
 | _ :: _,[],_,_,_,_,h,_,_,_ => by cases h
theorem ZS (x y : List Fq) (hl : x.length = y.length) : (qQ x y).1 = xU FP.M (JH (lw x)) (JH (lw y)) x.length:=by
 have h0 : (Tx F1.zero x y).1 = xU FP.M (JH (lw x)) (JH (lw y)) (0 + x.length):=ZR x y F1.zero _ _ 0 hl (fun j _ => by rw [Nat.zero_add]; exact LT x j) (fun j _ => by rw [Nat.zero_add]; exact LT y j) rfl;rw [Nat.zero_add] at h0;rw [← h0];cases x with
 | nil => cases y <;> rfl
 | cons a r =>
  cases y with
  | nil => cases hl
  | cons b s =>
   show (Tx (F1.mul a b) r s).1 = (Tx (F1.add F1.zero (F1.mul a b)) r s).1;rw [F1.zero_add]
theorem aQD : ∀ cs pre r,aCq cs = some (pre,r) → aY pre → ∀ (args : List Value) (w : World),bR w cs args → Good prog 224 r args w:=by
 intro cs pre r hg hp args w ha;unfold aCq at hg;split at hg
 ·rename_i l n m l' n' m';cases hb : (Nat.beq n n' && Nat.ble n 6) <;> rw [hb] at hg
  ·cases hg
  ·simp only [cond_true] at hg;split at hg
   ·rename_i x y hx hy;cases hg;rw [Bool.and_eq_true] at hb;cases Nat.eq_of_beq_eq_true hb.1;have h6:=Nat.le_of_ble_eq_true hb.2
    match args,ha with
    | [v,u],ha =>
     obtain ⟨⟨b,o,rfl,h1,h2⟩,⟨b',o',rfl,h3,h4⟩,_⟩:=ha;have l1:=(tD hx).1;have l2:=(tD hy).1;refine LQ (BR (lw x) (lw y) _ _ n m m' (by omega) (fun k hk => by rw [LT]; exact Fin.isLt _) (fun k hk => by rw [LT]; exact Fin.isLt _) w (PV hx h6 h1 h2) (PV hy h6 h3 h4)) ?_;rw [ZS x y (by omega),l1]
    | [],ha => exact ha.elim
    | [_],ha => exact ha.2.elim
    | _ :: _ :: _ :: _,ha => exact ha.2.2.elim
   ·cases hg
 ·cases hg
theorem aYm : ∀ cs pre r,gOf cs = some (pre,r) → aY pre → ∀ (args : List Value) (w : World),bR w cs args → Good prog 97 r args w:=by
 intro cs pre r hg hp args w ha;unfold gOf at hg;split at hg
 ·rename_i n;cases hb : Nat.blt n 18446744073709551616 <;> rw [hb] at hg
  ·cases hg
  ·cases hg;have hn : n < 18446744073709551616:=by simpa using hb
   match args,ha with
   | [v],ha =>
    rw [show v = _ from ha.1];refine (GC n hn w).mono ?_
    rintro e w' ⟨rfl,hbl⟩
    refine ⟨?_,hbl⟩;have hM : n < FP.M:=Nat.lt_trans hn (by decide);obtain ⟨e0,e1',e2',e3'⟩:=nZ (s0:=n) (s1:=0) (s2:=0) (s3:=0) ⟨hn,by omega,by omega,by omega⟩ (BG hM) (show aF n 0 0 0 = n by unfold aF; omega);show _ = Ending.returned (.agg (w4 (n % FP.M)).toArray);rw [Nat.mod_eq_of_lt hM];unfold w4;rw [← e0,← e1',← e2',← e3'];rfl
   | [],ha => exact ha.elim
   | _ :: _ :: _,ha => exact ha.2.elim
 ·cases hg
theorem aQF (x : Fq) (h : x ≠ F1.zero) (w : World) : Calls prog 256 #[.int .i64 1,.agg (aA (e1 x)).toArray] w (fun e w' => e = .returned (RV.many [.fl (e1 (cO x)),.im (.int .i64 0)]).den ∧ Below w.heap.size w w'):=by
 have hz : x.1 ≠ 0:=fun e => h (Fin.ext e)
 refine (Mb 1 0 _ _ _ _ _ (fun W => aIt 1 FP sK 1 0 0 0 _ _ _ _ (by unfold cQ; decide) (dL x.1) (by decide) (by rw [bZ x.2]; exact x.2) (by rw [bZ x.2]; exact hz) W) w).mono ?_
 rintro e w' ⟨s0,s1,s2,s3,rfl,hs,hv,hb⟩
 have hf:=ZF x;rw [Nat.one_mul] at hf;rw [bZ x.2,show aF 1 0 0 0 = 1 from rfl,Nat.one_mul,← hf] at hv;obtain ⟨rfl,rfl,rfl,rfl⟩:=nZ hs (BG (cO x).2) hv;exact ⟨rfl,hb⟩
theorem aQG (w : World) : Calls prog 256 #[.int .i64 1,.agg (aA (e1 F1.zero)).toArray] w (fun e w' => e = .returned (RV.many [.fl (e1 F1.zero),.im (.int .i64 22)]).den ∧ Below w.heap.size w w'):=by
 refine (Mb 1 22 0 _ _ _ _ (fun W => aCK 1 FP sK 1 0 0 0 _ _ _ _ (by unfold cQ; decide) (dL 0) (by decide) (by rw [bZ iG]; exact iG) (by rw [bZ iG]) W) w).mono ?_
 rintro e w' ⟨s0,s1,s2,s3,rfl,hs,hv,hb⟩
 obtain ⟨rfl,rfl,rfl,rfl⟩:=nZ hs (BG iG) hv;exact ⟨rfl,hb⟩
theorem aVm (c : Bool) : ∀ cs pre r,aOX c cs = some (pre,r) → aY pre → ∀ (args : List Value) (w : World),bR w cs args → Good prog 256 r args w:=by
 intro cs pre r hg hp args w ha;unfold aOX at hg;split at hg
 ·rename_i l;split at hg
  ·rename_i x hx
   match args,ha with
   | [v,u],ha =>
    have h1 : v = .int .i64 1:=ha.1;have h2 : u = .agg (aA l).toArray:=ha.2.1;rw [lG l x hx] at h2;subst h1; subst h2;cases c
    ·cases hg;have hz : x = F1.zero:=hp.1;subst hz;exact aQG w
    ·cases hg;exact aQF x hp.1 w
   | [],ha => exact ha.elim
   | [_],ha => exact ha.2.elim
   | _ :: _ :: _ :: _,ha => exact ha.2.2.elim
  ·cases hg
 ·cases hg
theorem aHl (c : Bool) : TabOk prog (oR c) :=
 ((((((((BP prog).ad func222 (fB lG lG fun x y _ args w ha => aQE x y args w ha)).ad func221 (fB lG lG fun x y _ args w ha => aIZ x y args w ha)).add
  func225 (by kernel_rfl) (by kernel_rfl) (fB lG lG fun x y _ args w ha => aIY x y args w ha)).ad func223 (bC lG fun x _ args w ha => aVl x args w ha)).add
  func220 (by kernel_rfl) (by kernel_rfl) (bC gD fun x _ args w ha => aQC x args w ha)).ad func224 aQD).ad func97 aYm).ad func256 (aVm c)
def nv2 (x : Q2) : N2:=(x.1.1,x.2.1)
def nv6 (x : Q6) : N6:=(nv2 x.1,nv2 x.2.1,nv2 x.2.2)
def gR (x : aN) : gB:=(nv6 x.1,nv6 x.2)
theorem La (x : Fq) : m1 x.1 = x:=Fin.ext (by show wv x.1 % FP.M = x.1; unfold wv; rw [bZ x.2,Nat.mod_eq_of_lt x.2])
theorem aBw (x : Q2) : m2 (nv2 x) = x:=Prod.ext (La _) (La _)
theorem aKl (x : Q6) : m6 (nv6 x) = x:=Prod.ext (aBw _) (Prod.ext (aBw _) (aBw _))
theorem fA (x : aN) : eD (gR x) = x:=Prod.ext (aKl _) (aKl _)
def z0 : At:=.f F1.zero
theorem Ki (c : Bool) : TabOk prog (AL c):=aHm c (aHl c)
def vl : At → Option Fq
 | .f x => some x
 | .q x => some (m1 x)
 | .c _ => none
def vls : List At → Option (List Fq)
 | [] => some []
 | a :: r => match vl a,vls r with | some x,some l => some (x :: l) | _,_ => none
def rv1 (l : List At) : Option Fq:=match vls l with | some [a] => some a | _ => none
def KP (l : List At) : Option Q2:=match vls l with | some [a,b] => some (a,b) | _ => none
def EJ (l : List At) : Option aN:=match vls l with | some [a,b,c,d,e,f,g,h,i,j,k,l] => some (((a,b),(c,d),(e,f)),((g,h),(i,j),(k,l))) | _ => none
def Rdv {α γ : Type} (rd : List At → Option α) (qn : γ → List At) (mm : γ → α) : Prop:=∀ l x,rd l = some x → ∃ n,aA l = aA (qn n) ∧ mm n = x
theorem NG : ∀ {l : List At} {m : List Fq},vls l = some m → ∃ ns : List Nat,aA l = aA (ns.map At.q) ∧ ns.map m1 = m
 | [],m,h => by cases h; exact ⟨[],rfl,rfl⟩
 | a :: r,m,h => by
  unfold vls at h;split at h
  ·rename_i x l' h1 h2;cases h;obtain ⟨ns,e1,e2⟩:=NG h2;cases a with
   | f y => cases h1; exact ⟨x.1 :: ns,by show w4 x.1 ++ aA r = w4 x.1 ++ aA (ns.map At.q); rw [e1],by rw [List.map_cons,e2,La]⟩
   | q y => cases h1; exact ⟨y :: ns,by show w4 y ++ aA r = w4 y ++ aA (ns.map At.q); rw [e1],by rw [List.map_cons,e2]⟩
   | c v => cases h1
  ·cases h
theorem Wz : Rdv rv1 q1 m1:=fun l x h => by
 unfold rv1 at h;split at h
 ·rename_i a hn;cases h;obtain ⟨ns,e1,e2⟩:=NG hn
  match ns,e2 with
  | [n],e2 => cases e2; exact ⟨n,e1,rfl⟩
 ·cases h
theorem fR : Rdv KP q2 m2:=fun l x h => by
 unfold KP at h;split at h
 ·rename_i a b hn;cases h;obtain ⟨ns,e1,e2⟩:=NG hn
  match ns,e2 with
  | [n,m],e2 => cases e2; exact ⟨(n,m),e1,rfl⟩
 ·cases h
theorem lY : Rdv EJ fC eD:=fun l x h => by
 unfold EJ at h;split at h
 ·rename_i hn;cases h;obtain ⟨ns,e1,e2⟩:=NG hn
  match ns,e2 with
  | [a,b,c,d,e,f,g,h,i,j,k,l],e2 => cases e2; exact ⟨(((a,b),(c,d),(e,f)),((g,h),(i,j),(k,l))),e1,rfl⟩
 ·cases h
theorem jI {P : Program} {f : FuncId} {α γ : Type} {rd : List At → Option α} {qn : γ → List At} {mm : γ → α} (hr : Rdv rd qn mm) {op : α → List Prop × RV} (h : ∀ x,aY (op (mm x)).1 → ∀ args w,bR w [.v (.fl (qn x))] args → Good P f (op (mm x)).2 args w) :
  ∀ cs pre r,g1 rd op cs = some (pre,r) → aY pre → ∀ (args : List Value) (w : World),bR w cs args → Good P f r args w:=by
 intro cs pre r hg hp args w ha;unfold g1 at hg;split at hg
 ·rename_i l;split at hg
  ·rename_i x hx;obtain ⟨n,e1,rfl⟩:=hr l x hx;have e : op (mm n) = (pre,r):=by simpa using hg
   have:=h n (by rw [e]; exact hp) args w (by
    rw [BM ha,e1];exact ⟨rfl,trivial⟩)
   rw [e] at this;exact this
  ·cases hg
 ·cases hg
theorem vI {P : Program} {f : FuncId} {α γ α' γ' : Type} {rd : List At → Option α} {qn : γ → List At} {mm : γ → α} {rd' : List At → Option α'} {qn' : γ' → List At} {mm' : γ' → α'} (hr : Rdv rd qn mm) (hr' : Rdv rd' qn' mm') {op : α → α' → List Prop × RV}
  (h : ∀ x y,aY (op (mm x) (mm' y)).1 → ∀ args w,bR w [.v (.fl (qn x)),.v (.fl (qn' y))] args → Good P f (op (mm x) (mm' y)).2 args w) :
  ∀ cs pre r,g2 rd rd' op cs = some (pre,r) → aY pre → ∀ (args : List Value) (w : World),bR w cs args → Good P f r args w:=by
 intro cs pre r hg hp args w ha;unfold g2 at hg;split at hg
 ·rename_i l m;split at hg
  ·rename_i x y hx hy;obtain ⟨n,e1,rfl⟩:=hr l x hx;obtain ⟨n',e2,rfl⟩:=hr' m y hy;have e : op (mm n) (mm' n') = (pre,r):=by simpa using hg
   have:=h n n' (by rw [e]; exact hp) args w (by
    rw [NB ha,e1,e2];exact ⟨rfl,rfl,trivial⟩)
   rw [e] at this;exact this
  ·cases hg
 ·cases hg
theorem JR (c : Bool)  : bH prog (AL c) qN (fun _ => true) f185 60 [] = some ([],.one (.fl [.f Fw.1,.f Fw.2,.f GX.1,.f GX.2,.f BH.1,.f BH.2,.f Mh.1,.f Mh.2,.f Mg.1,.f Mg.2,.f fb5.1,.f fb5.2])):=by kernel_rfl
def sS (c : Bool) : Tab:=(AL c).add 185 (g0 (.one (.fl [.f Fw.1,.f Fw.2,.f GX.1,.f GX.2,.f BH.1,.f BH.2,.f Mh.1,.f Mh.2,.f Mg.1,.f Mg.2,.f fb5.1,.f fb5.2])))
theorem xF (c : Bool) : TabOk prog (sS c):=(Ki c).ad func185 (jJ fun w => aH aG (Ki c) aM func185 (JR c) trivial (args:=[]) trivial)
theorem EK (c : Bool)  : bH prog (sS c) qN (fun _ => true) f183 60 [] = some ([],.one (.fl [.f Pc,.f Ij,.f Pb,.f Pa,.f Oz,.f Oy])):=by kernel_rfl
def qT (c : Bool) : Tab:=(sS c).add 183 (g0 (.one (.fl [.f Pc,.f Ij,.f Pb,.f Pa,.f Oz,.f Oy])))
theorem uJ (c : Bool) : TabOk prog (qT c):=(xF c).ad func183 (jJ fun w => aH aG (xF c) aM func183 (EK c) trivial (args:=[]) trivial)
theorem Xw (c : Bool) (x : aN) : bH prog (qT c) qN (fun _ => true) f141 80 [.v (.fl (aL x))] = some ([],.one (.fl (aL (cN x)))):=by kernel_rfl
def Hd (c : Bool) : Tab:=(qT c).add 141 (g1 oC fun x => ([],.one (.fl (aL (cN x)))))
theorem Kb (c : Bool) : TabOk prog (Hd c):=(uJ c).ad func141 (bC dG fun x hp args w ha => aH aG (uJ c) aM func141 (Xw c x) hp ha)
theorem Pg (c : Bool) (x : aN) : bH prog (Hd c) qN (fun _ => true) f140 80 [.v (.fl (aL x))] = some ([],.one (.fl (aL (cM x)))):=by kernel_rfl
def SA (c : Bool) : Tab:=(Hd c).add 140 (g1 oC fun x => ([],.one (.fl (aL (cM x)))))
theorem XS (c : Bool) : TabOk prog (SA c):=(Kb c).ad func140 (bC dG fun x hp args w ha => aH aG (Kb c) aM func140 (Pg c x) hp ha)
theorem aMk {R : Type} (K : CR R) (a b v : R) : K.add (K.mul a a) (K.mul v (K.mul b b)) = K.sub (K.sub (K.mul (K.add a b) (K.add a (K.mul v b))) (K.mul a b)) (K.mul v (K.mul a b)) :=
 aE K (aR K [a,b,v]) (.add (.mul (.v 0) (.v 0)) (.mul (.v 2) (.mul (.v 1) (.v 1)))) (.add (.add (.mul (.add (.v 0) (.v 1)) (.add (.v 0) (.mul (.v 2) (.v 1)))) (.neg (.mul (.v 0) (.v 1)))) (.neg (.mul (.v 2) (.mul (.v 0) (.v 1))))) (by decide)
theorem aMj {R : Type} (K : CR R) (a b : R) : K.add (K.mul a b) (K.mul b a) = K.add (K.mul a b) (K.mul a b):=by rw [K.mul_comm b a]
theorem Cb (c : Bool) (x : aN) : bH prog (SA c) qN (fun _ => true) f168 60 [.v (.fl (aL x))] = some ([],.one (.fl (aL ((F6.sub (F6.sub (F6.mul (F6.add x.1 x.2) (F6.add x.1 (F6.mul vE x.2))) (F6.mul x.1 x.2)) (F6.mul vE (F6.mul x.1 x.2)),F6.add (F6.mul x.1 x.2) (F6.mul x.1 x.2)))))):=by kernel_rfl
theorem Dp (x : aN) : aD.mul x x = (F6.sub (F6.sub (F6.mul (F6.add x.1 x.2) (F6.add x.1 (F6.mul vE x.2))) (F6.mul x.1 x.2)) (F6.mul vE (F6.mul x.1 x.2)),F6.add (F6.mul x.1 x.2) (F6.mul x.1 x.2)):=by
 exact Prod.ext (aMk F6 x.1 x.2 vE) (aMj F6 x.1 x.2)
def dZ (c : Bool) : Tab:=(SA c).add 168 (g1 oC fun x => ([],.one (.fl (aL (aD.mul x x)))))
theorem dJ (c : Bool) : TabOk prog (dZ c):=(XS c).ad func168 (bC dG fun x hp args w ha => by show Good _ _ (.one (.fl (aL (aD.mul x x)))) _ _; rw [Dp]; exact aH aG (XS c) aM func168 (Cb c x) hp ha)
def bM (n : Int) : Int:=(IntKind.i64.wrap (n.tmod 12 + 12)).tmod 12
def eJ : Nat → aN → aN
 | 0,x => x
 | n + 1,x => cN (eJ n x)
theorem Df (c : Bool) (x : gB) (n : Int) : aW prog qN (fun _ => ⟨fun _ => dZ c,fun _ => true,fun s => bif Nat.beq s 9 then some (.int .i64 0) else none⟩) f72 60 [.v (.fl (fC x)),.v (.im (.int .i64 n))] = some ([aI .rem .i64 (IntKind.i64.wrap (n.tmod 12 + 12)) 12 = some (.int .i64 0)],.one (.fl (aL (eD x)))):=by kernel_rfl
theorem De (c : Bool) (x : gB) (n : Int) : aW prog qN (fun _ => ⟨fun _ => dZ c,fun _ => true,fun s => bif Nat.beq s 9 then some (.int .i64 1) else none⟩) f72 60 [.v (.fl (fC x)),.v (.im (.int .i64 n))] = some ([aI .rem .i64 (IntKind.i64.wrap (n.tmod 12 + 12)) 12 = some (.int .i64 1)],.one (.fl (aL (cN (eD x))))):=by kernel_rfl
theorem Dd (c : Bool) (x : gB) (n : Int) : aW prog qN (fun _ => ⟨fun _ => dZ c,fun _ => true,fun s => bif Nat.beq s 9 then some (.int .i64 2) else none⟩) f72 60 [.v (.fl (fC x)),.v (.im (.int .i64 n))] = some ([aI .rem .i64 (IntKind.i64.wrap (n.tmod 12 + 12)) 12 = some (.int .i64 2)],.one (.fl (aL (cM (eD x))))):=by kernel_rfl
theorem Dc (c : Bool) (x : gB) (n : Int) : aW prog qN (fun _ => ⟨fun _ => dZ c,fun _ => true,fun s => bif Nat.beq s 9 then some (.int .i64 3) else none⟩) f72 60 [.v (.fl (fC x)),.v (.im (.int .i64 n))] = some ([aI .rem .i64 (IntKind.i64.wrap (n.tmod 12 + 12)) 12 = some (.int .i64 3)],.one (.fl (aL (cN (cM (eD x)))))):=by kernel_rfl
theorem Db (c : Bool) (x : gB) (n : Int) : aW prog qN (fun _ => ⟨fun _ => dZ c,fun _ => true,fun s => bif Nat.beq s 9 then some (.int .i64 4) else none⟩) f72 60 [.v (.fl (fC x)),.v (.im (.int .i64 n))] = some ([aI .rem .i64 (IntKind.i64.wrap (n.tmod 12 + 12)) 12 = some (.int .i64 4)],.one (.fl (aL (cM (cM (eD x)))))):=by kernel_rfl
theorem Da (c : Bool) (x : gB) (n : Int) : aW prog qN (fun _ => ⟨fun _ => dZ c,fun _ => true,fun s => bif Nat.beq s 9 then some (.int .i64 5) else none⟩) f72 60 [.v (.fl (fC x)),.v (.im (.int .i64 n))] = some ([aI .rem .i64 (IntKind.i64.wrap (n.tmod 12 + 12)) 12 = some (.int .i64 5)],.one (.fl (aL (cN (cM (cM (eD x))))))):=by kernel_rfl
theorem Cz (c : Bool) (x : gB) (n : Int) : aW prog qN (fun _ => ⟨fun _ => dZ c,fun _ => true,fun s => bif Nat.beq s 9 then some (.int .i64 6) else none⟩) f72 60 [.v (.fl (fC x)),.v (.im (.int .i64 n))] = some ([aI .rem .i64 (IntKind.i64.wrap (n.tmod 12 + 12)) 12 = some (.int .i64 6)],.one (.fl (aL (cH (eD x))))):=by kernel_rfl
theorem Cy (c : Bool) (x : gB) (n : Int) : aW prog qN (fun _ => ⟨fun _ => dZ c,fun _ => true,fun s => bif Nat.beq s 9 then some (.int .i64 7) else none⟩) f72 60 [.v (.fl (fC x)),.v (.im (.int .i64 n))] = some ([aI .rem .i64 (IntKind.i64.wrap (n.tmod 12 + 12)) 12 = some (.int .i64 7)],.one (.fl (aL (cN (cH (eD x)))))):=by kernel_rfl
theorem Cx (c : Bool) (x : gB) (n : Int) : aW prog qN (fun _ => ⟨fun _ => dZ c,fun _ => true,fun s => bif Nat.beq s 9 then some (.int .i64 8) else none⟩) f72 60 [.v (.fl (fC x)),.v (.im (.int .i64 n))] = some ([aI .rem .i64 (IntKind.i64.wrap (n.tmod 12 + 12)) 12 = some (.int .i64 8)],.one (.fl (aL (cM (cH (eD x)))))):=by kernel_rfl
theorem Cw (c : Bool) (x : gB) (n : Int) : aW prog qN (fun _ => ⟨fun _ => dZ c,fun _ => true,fun s => bif Nat.beq s 9 then some (.int .i64 9) else none⟩) f72 60 [.v (.fl (fC x)),.v (.im (.int .i64 n))] = some ([aI .rem .i64 (IntKind.i64.wrap (n.tmod 12 + 12)) 12 = some (.int .i64 9)],.one (.fl (aL (cN (cM (cH (eD x))))))):=by kernel_rfl
theorem VO (c : Bool) (x : gB) (n : Int) : aW prog qN (fun _ => ⟨fun _ => dZ c,fun _ => true,fun s => bif Nat.beq s 9 then some (.int .i64 10) else none⟩) f72 60 [.v (.fl (fC x)),.v (.im (.int .i64 n))] = some ([aI .rem .i64 (IntKind.i64.wrap (n.tmod 12 + 12)) 12 = some (.int .i64 10)],.one (.fl (aL (cM (cM (cH (eD x))))))):=by kernel_rfl
theorem VN (c : Bool) (x : gB) (n : Int) : aW prog qN (fun _ => ⟨fun _ => dZ c,fun _ => true,fun s => bif Nat.beq s 9 then some (.int .i64 11) else none⟩) f72 60 [.v (.fl (fC x)),.v (.im (.int .i64 n))] = some ([aI .rem .i64 (IntKind.i64.wrap (n.tmod 12 + 12)) 12 = some (.int .i64 11)],.one (.fl (aL (cN (cM (cM (cH (eD x)))))))):=by kernel_rfl
def aCs : lO
 | [.v (.fl l),.v (.im (.int .i64 n))] => match EJ l with
  | some x => some ([],.one (.fl (aL (eJ (bM n).toNat x))))
  | none => none
 | _ => none
theorem xO (k : Nat) (x : aN) : eJ (k + 2) x = cM (eJ k x):=XQ _
theorem zP (x : aN) : eJ 6 x = cH x:=by rw [xO 4,xO 2,xO 0,← wB]; rfl
theorem qJ (m : Nat) : ∀ (n : Nat) (x : aN),eJ (n + m) x = eJ n (eJ m x)
 | 0,x => by rw [Nat.zero_add]; rfl
 | n + 1,x => by rw [show n + 1 + m = (n + m) + 1 by omega]; show cN (eJ (n + m) x) = cN (eJ n (eJ m x)); rw [qJ m n x]
theorem aBV (x : aN) : eJ 0 x = x:=rfl
theorem QI (x : aN) : eJ 1 x = (cN x):=rfl
theorem QH (x : aN) : eJ 2 x = (cM x):=by rw [xO 0]; rfl
theorem Fb (x : aN) : eJ 3 x = (cN (cM x)):=by show cN (eJ 2 x) = _; rw [xO 0]; rfl
theorem aBU (x : aN) : eJ 4 x = (cM (cM x)):=by rw [xO 2,xO 0]; rfl
theorem aBT (x : aN) : eJ 5 x = (cN (cM (cM x))):=by show cN (eJ 4 x) = _; rw [xO 2,xO 0]; rfl
theorem aOr (x : aN) : eJ 6 x = (cH x):=by rw [show (6 : Nat) = 0 + 6 from rfl,qJ,zP]; exact aBV _
theorem aOq (x : aN) : eJ 7 x = (cN (cH x)):=by rw [show (7 : Nat) = 1 + 6 from rfl,qJ,zP]; exact QI _
theorem aOp (x : aN) : eJ 8 x = (cM (cH x)):=by rw [show (8 : Nat) = 2 + 6 from rfl,qJ,zP]; exact QH _
theorem aOo (x : aN) : eJ 9 x = (cN (cM (cH x))):=by rw [show (9 : Nat) = 3 + 6 from rfl,qJ,zP]; exact Fb _
theorem aHK (x : aN) : eJ 10 x = (cM (cM (cH x))):=by rw [show (10 : Nat) = 4 + 6 from rfl,qJ,zP]; exact aBU _
theorem aHJ (x : aN) : eJ 11 x = (cN (cM (cM (cH x)))):=by rw [show (11 : Nat) = 5 + 6 from rfl,qJ,zP]; exact aBT _
theorem eH {n : Int} {k : Int} (h : bM n = k) : aI .rem .i64 (IntKind.i64.wrap (n.tmod 12 + 12)) 12 = some (.int .i64 k):=by
 show some (Value.int .i64 ((IntKind.i64.wrap (n.tmod 12 + 12)).tmod 12)) = _;rw [show (IntKind.i64.wrap (n.tmod 12 + 12)).tmod 12 = k from h]
theorem aFb (n : Int) : -12 < n.tmod 12 ∧ n.tmod 12 < 12:=by
 constructor
 ·exact Int.lt_tmod_of_pos n (by omega)
 ·exact Int.tmod_lt_of_pos n (by omega)
theorem Do (n : Int) : bM n = (n.tmod 12 + 12).tmod 12 ∧ 0 ≤ bM n ∧ bM n < 12:=by
 have h:=aFb n;have e : IntKind.i64.wrap (n.tmod 12 + 12) = n.tmod 12 + 12:=IntWalk.i64_in _ (by omega);unfold bM;rw [e];exact ⟨rfl,Int.tmod_nonneg 12 (by omega),Int.tmod_lt_of_pos _ (by omega)⟩
theorem aIr (c : Bool) : ∀ cs pre r,aCs cs = some (pre,r) → aY pre → ∀ (args : List Value) (w : World),bR w cs args → Good prog 72 r args w:=by
 intro cs pre r hg hp args w ha;unfold aCs at hg;split at hg
 ·rename_i l n;split at hg
  ·rename_i x hx;cases hg;obtain ⟨a,e1,rfl⟩:=lY l x hx;have ha' : bR w [.v (.fl (fC a)),.v (.im (.int .i64 n))] args:=by
    match args,ha with
    | [v,u],ha =>
     refine ⟨?_,ha.2.1,trivial⟩;show v = .agg (aA (fC a)).toArray;rw [← e1];exact ha.1
    | [],ha => exact ha.elim
    | [_],ha => exact ha.2.elim
    | _ :: _ :: _ :: _,ha => exact ha.2.2.elim
   obtain ⟨_,h0,h1⟩:=Do n;have hk : (bM n).toNat = 0 ∨ (bM n).toNat = 1 ∨ (bM n).toNat = 2 ∨ (bM n).toNat = 3 ∨ (bM n).toNat = 4 ∨ (bM n).toNat = 5 ∨ (bM n).toNat = 6 ∨ (bM n).toNat = 7 ∨ (bM n).toNat = 8 ∨ (bM n).toNat = 9 ∨ (bM n).toNat = 10 ∨ (bM n).toNat = 11:=by omega
   rcases hk with h | h | h | h | h | h | h | h | h | h | h | h
   ·rw [h,aBV];exact aB aG (fun _ _ => dJ c) aM func72 (Df c a n) ⟨eH (by omega),trivial⟩ ha'
   ·rw [h,QI];exact aB aG (fun _ _ => dJ c) aM func72 (De c a n) ⟨eH (by omega),trivial⟩ ha'
   ·rw [h,QH];exact aB aG (fun _ _ => dJ c) aM func72 (Dd c a n) ⟨eH (by omega),trivial⟩ ha'
   ·rw [h,Fb];exact aB aG (fun _ _ => dJ c) aM func72 (Dc c a n) ⟨eH (by omega),trivial⟩ ha'
   ·rw [h,aBU];exact aB aG (fun _ _ => dJ c) aM func72 (Db c a n) ⟨eH (by omega),trivial⟩ ha'
   ·rw [h,aBT];exact aB aG (fun _ _ => dJ c) aM func72 (Da c a n) ⟨eH (by omega),trivial⟩ ha'
   ·rw [h,aOr];exact aB aG (fun _ _ => dJ c) aM func72 (Cz c a n) ⟨eH (by omega),trivial⟩ ha'
   ·rw [h,aOq];exact aB aG (fun _ _ => dJ c) aM func72 (Cy c a n) ⟨eH (by omega),trivial⟩ ha'
   ·rw [h,aOp];exact aB aG (fun _ _ => dJ c) aM func72 (Cx c a n) ⟨eH (by omega),trivial⟩ ha'
   ·rw [h,aOo];exact aB aG (fun _ _ => dJ c) aM func72 (Cw c a n) ⟨eH (by omega),trivial⟩ ha'
   ·rw [h,aHK];exact aB aG (fun _ _ => dJ c) aM func72 (VO c a n) ⟨eH (by omega),trivial⟩ ha'
   ·rw [h,aHJ];exact aB aG (fun _ _ => dJ c) aM func72 (VN c a n) ⟨eH (by omega),trivial⟩ ha'
  ·cases hg
 ·cases hg
def JC (c : Bool) : Tab:=(dZ c).add 72 aCs
theorem LO (c : Bool) : TabOk prog (JC c):=(dJ c).ad func72 (aIr c)
theorem Dm (c : Bool) (x : gB) : bH prog (JC c) qN (fun _ => true) f110 40 [.v (.fl (fC x))] = some ([],.one (.fl (aL (cH (eD x))))):=by kernel_rfl
def Ai (c : Bool) : Tab:=(JC c).add 110 (g1 EJ (fun x => ([],.one (.fl (aL (cH x))))))
theorem Su (c : Bool) : TabOk prog (Ai c):=(LO c).ad func110 (jI lY fun x hp args w ha => aH aG (LO c) aM func110 (Dm c x) hp ha)
theorem Vf {x y : Fq} (h : w4 x.1 = w4 y.1) : x = y:=by
 unfold w4 at h;simp only [List.cons.injEq,Value.int.injEq,true_and,and_true,Int.ofNat_inj] at h;apply Fin.ext;rw [← bZ x.2,← bZ y.2,h.1,h.2.1,h.2.2.1,h.2.2.2]
theorem xR : ∀ (l m : List Fq),aA (l.map .f) = aA (m.map .f) → l = m
 | [],[],_ => rfl
 | a :: r,b :: s,h => by
  have h' : w4 a.1 ++ aA (r.map .f) = w4 b.1 ++ aA (s.map .f):=h;obtain ⟨h1,h2⟩:=List.append_inj h' rfl;rw [Vf h1,xR r s h2]
 | [],b :: s,h => by cases h
 | a :: r,[],h => by cases h
theorem aPD {a b : Fq} (h : aA [.f a] = aA [.f b]) : a = b:=Vf (by
 have h' : w4 a.1 ++ [] = w4 b.1 ++ []:=h
 rwa [List.append_nil,List.append_nil] at h')
theorem aPC {a b : Q2} (h : aA (e2 a) = aA (e2 b)) : a = b:=by
 have:=xR [a.1,a.2] [b.1,b.2] h;simp only [List.cons.injEq,and_true] at this;exact Prod.ext this.1 this.2
def JQ : Nat:=4965661367192848881
def yE : Nat:=6 * JQ
def q4N : Nat:=FP.M ^ 4 - FP.M ^ 2 + 1
theorem mY (x : aN) : cN x = bO aD x FP.M:=(p12 x).symm
def JE : Nat:=FP.M * FP.M
def p6N : Nat:=JE * (JE * JE)
theorem wC (x : aN) : cM x = bO aD x JE:=by rw [← XQ,mY,mY,← dO,JE]
theorem IE (x : aN) : cH x = bO aD x p6N:=by
 rw [← wB,wC,wC,wC,← dO,← dO,p6N]
theorem WN (x : aN) : bO aD x 1 = x:=by show aD.mul aD.one x = x; rw [aD.one_mul]
def tX (y : aN) : aN:=bO aD y yE
def Ap (y : aN) : aN:=bO aD (tX y) JQ
def hCu (y : aN) : aN:=bO aD (Ap y) yE
def hT (y : aN) : aN:=aD.mul (Ap y) (Ap y)
def hG (y : aN) : aN:=aD.mul (aD.mul (aD.mul (hCu y) (Ap y)) (hT y)) (aD.mul (tX y) (tX y))
def hR (y : aN) : aN:=aD.mul (aD.mul (aD.mul (hG y) (hT y)) (tX y)) (aD.mul y y)
def hX (y : aN) : aN:=aD.mul (aD.mul (aD.mul (eJ 3 y) (eJ 2 (aD.mul y (Ap y)))) (eJ 1 (aD.mul y (cH (hG y))))) (cH (hR y))
def eS2 : Nat:=yE * JQ
def eCu : Nat:=eS2 * yE
def eT : Nat:=eS2 + eS2
def eG : Nat:=eCu + eS2 + eT + (yE + yE)
def eR : Nat:=eG + eT + yE + (1 + 1)
def eX : Nat:=JE * FP.M + (1 + eS2) * JE + (1 + eG * p6N) * FP.M + eR * p6N
theorem QN (y : aN) : Ap y = bO aD y eS2:=by unfold Ap tX eS2; rw [← dO]
theorem aOF (y : aN) : hCu y = bO aD y eCu:=by unfold hCu eCu; rw [QN,← dO]
theorem aKx (y : aN) : hT y = bO aD y eT:=by unfold hT eT; rw [QN,← cI]
theorem aKy (y : aN) : hG y = bO aD y eG:=by unfold hG eG; rw [aOF,QN,aKx,show tX y = bO aD y yE from rfl,← cI,← cI,← cI,← cI]
theorem aSr (y : aN) : aD.mul y y = bO aD y (1 + 1):=by rw [cI,WN]
theorem aUj (y : aN) : hR y = bO aD y eR:=by unfold hR eR; rw [aKy,aKx,show tX y = bO aD y yE from rfl,aSr,← cI,← cI,← cI]
theorem aOs (y : aN) : eJ 3 y = bO aD y (JE * FP.M):=by rw [Fb,mY,wC,← dO]
theorem aOt (y : aN) : eJ 2 y = bO aD y JE:=by rw [QH,wC]
theorem aOu (y : aN) : eJ 1 y = bO aD y FP.M:=by rw [QI,mY]
theorem FL (y : aN) (n : Nat) : aD.mul y (bO aD y n) = bO aD y (1 + n):=by rw [cI,WN]
theorem BF (y : aN) : hX y = bO aD y eX:=by
 unfold hX eX;rw [QN,FL,aOs,aOt,aKy,IE (bO aD y eG),← dO aD y eG,FL,aOu,aUj,IE (bO aD y eR),← dO,← dO,← dO,← cI,← cI,← cI]
theorem Iy {x k : aN} (h : aD.mul x k = aD.one) (n : Nat) : aD.mul (bO aD x n) (bO aD k n) = aD.one:=by rw [← mB,h,nS]
theorem aER {x k : aN} (h : aD.mul x k = aD.one) : x ≠ aD.zero:=fun e => by
 rw [e,aD.mul_comm,aD.mul_zero] at h;exact jT.1 h.symm
theorem zQ {y : aN} (h : lK y) (n : Nat) : lK (bO aD y n):=by
 obtain ⟨hz,h2⟩:=h;obtain ⟨k,hk⟩:=jT.2 y hz;refine ⟨aER (Iy hk n),?_⟩;have e : ∀ z,cM (bO aD z n) = bO aD (cM z) n:=fun z => (mC aD aD cM (by decide) oT z n).symm
 rw [e,e,← mB,h2]
theorem aTb : JE + q4N = JE * JE + 1:=by kernel_rfl
theorem Dq {y : aN} (h : lK y) : bO aD y q4N = aD.one:=by
 obtain ⟨hz,h2⟩:=h;obtain ⟨k,hk⟩:=jT.2 y hz;have h3 : bO aD y (JE * JE + 1) = bO aD y JE:=by
  rw [cI,WN,dO,← wC,← wC];exact h2
 rw [← aTb,cI] at h3;have hu:=Iy hk JE;have h4 : aD.mul (bO aD k JE) (aD.mul (bO aD y JE) (bO aD y q4N)) = aD.mul (bO aD k JE) (bO aD y JE):=congrArg (fun t => aD.mul (bO aD k JE) t) h3;rw [← aD.mul_assoc,aD.mul_comm (bO aD k JE),hu,aD.one_mul] at h4;exact h4
def kX : Nat:=eX * Go.Proofs.YtglgakbkdjhojaaGreat.FR.M / q4N
theorem aXV : eX * Go.Proofs.YtglgakbkdjhojaaGreat.FR.M = q4N * kX:=by kernel_rfl
theorem aUg {y : aN} (h : lK y) : bO aD (hX y) Go.Proofs.YtglgakbkdjhojaaGreat.FR.M = aD.one:=by
 rw [BF,← dO,aXV,dO,Dq h,nS]
theorem aUi {y : aN} (h : lK y) : lK (hX y):=by rw [BF]; exact zQ h _
theorem aWU : FP.M = Go.Proofs.YtglgakbkdjhojaaGreat.FR.M + yE * JQ:=by kernel_rfl
theorem aWG {x : aN} (h : bO aD x Go.Proofs.YtglgakbkdjhojaaGreat.FR.M = aD.one) : bO aD (bO aD x yE) JQ = cN x:=by
 rw [mY,aWU,cI,h,aD.one_mul,dO]
theorem aVa (x : aN) : cH (cH x) = x:=by
 refine Prod.ext rfl ?_;show F6.add F6.zero (F6.neg (F6.add F6.zero (F6.neg x.2))) = x.2;rw [F6.zero_add,F6.zero_add,F6.neg_neg]
def eZ (a : aN) : aN:=aD.mul (cM (aD.mul (cH a) (lJ a))) (aD.mul (cH a) (lJ a))
def iO (a : aN) : aN:=hX (eZ a)
theorem Mn {a : aN} (h : sF a ≠ F1.zero) : lK (eZ a):=by
 have hk : aD.mul a (lJ a) = aD.one:=SU h;unfold eZ;generalize lJ a = k at hk;generalize hy : aD.mul (cH a) k = y;have hk2 : aD.mul (cH a) (cH k) = aD.one:=by rw [← IF,hk]; decide
 have h1 : aD.mul (cH y) y = aD.one:=by
  rw [← hy,IF,aVa];have : aD.mul (aD.mul a (cH k)) (aD.mul (cH a) k) = aD.mul (aD.mul a k) (aD.mul (cH a) (cH k)):=by
   rw [aD.mul_assoc,aD.mul_assoc,aD.mul_left_comm (cH k),aD.mul_left_comm k,aD.mul_comm (cH k) k,aD.mul_left_comm (cH a) k,aD.mul_left_comm k (cH a)]
  rw [this,hk,hk2,aD.one_mul]
 have h3 : cM (cM (cM y)) = cH y:=wB y;have hne : y ≠ aD.zero:=fun e => by rw [e,aD.mul_zero] at h1; exact jT.1 h1.symm
 refine ⟨fun e => ?_,?_⟩
 ·have h2 : aD.mul (cM (cH y)) (cM y) = aD.one:=by rw [← oT,h1]; decide
  have h4:=congrArg (fun t => aD.mul (aD.mul (cM (cH y)) (cH y)) t) e;simp only [aD.mul_zero] at h4;have h5 : aD.mul (aD.mul (cM (cH y)) (cH y)) (aD.mul (cM y) y) = aD.one:=by
   rw [aD.mul_assoc,aD.mul_left_comm (cH y),← aD.mul_assoc,h2,h1,aD.one_mul]
  rw [h5] at h4;exact jT.1 h4
 ·rw [oT,oT,h3];rw [aD.mul_comm (cH y),aD.mul_assoc,aD.mul_left_comm (cH y),h1,aD.mul_one]
end Go.Proofs.YtglgakbkdjhojaaGreat.Ex
namespace Go.Proofs.YtglgakbkdjhojaaGreat
open Go.Proofs.Tryz
open Go.RowKit
def Nz (a0 a1 a2 a3 a4 a5 a6 a7 : Nat) : Nat:=a0 + 4294967296 * (a1 + 4294967296 * (a2 + 4294967296 * (a3 + 4294967296 * (a4 + 4294967296 * (a5 + 4294967296 * (a6 + 4294967296 * a7))))))
def ok8 (a0 a1 a2 a3 a4 a5 a6 a7 : Nat) : Prop:=a0 < 4294967296 ∧ a1 < 4294967296 ∧ a2 < 4294967296 ∧ a3 < 4294967296 ∧ a4 < 4294967296 ∧ a5 < 4294967296 ∧ a6 < 4294967296 ∧ a7 < 4294967296
structure QW (w wr : World) (A B P : Nat → Nat) : Prop where
 below : Below w.heap.size w wr
 size : w.heap.size + 1 + 1 + 1 < wr.heap.size
 rowA : RowIs wr w.heap.size 4 A
 rowB : RowIs wr (w.heap.size + 1) 4 B
 rowR : RowIs wr (w.heap.size + 1 + 1) 4 (fun _ => 0)
 rowP : RowIs wr (w.heap.size + 1 + 1 + 1) 4 P
theorem QW.set {w wr : World} {A B P : Nat → Nat} (h : QW w wr A B P) {k d : Nat} (hk : k < 4) : QW w (wr.setCell ⟨w.heap.size + 1 + 1 + 1,k,none⟩ (.int .u64 (d : Nat))) A B (upd P k d) :=
 ⟨h.below.setCell (p:=⟨w.heap.size + 1 + 1 + 1,k,none⟩) (by simp; omega) _,by rw [World.size_setCell]; exact h.size,h.rowA.other (by omega) _,h.rowB.other (by omega) _,h.rowR.other (by omega) _,h.rowP.set hk⟩
theorem QW.drewN {w wr : World} {A B P : Nat → Nat} (h : QW w wr A B P) (n : Nat) : QW w (wr.drewN n) A B P:=⟨h.below.trans (bN _ _ _),h.size,h.rowA,h.rowB,h.rowR,h.rowP⟩
theorem QW.start (w : World) (a0 a1 a2 a3 b0 b1 b2 b3 : Nat) (t : TypeId) : QW w ((((w.alloc (.cells #[.int .u64 a0,.int .u64 a1,.int .u64 a2,.int .u64 a3] t)).alloc (.cells #[.int .u64 b0,.int .u64 b1,.int .u64 b2,.int .u64 b3] t)).alloc (.cells #[.int .u64 0,.int .u64 0,.int .u64 0,.int .u64 0] t)).alloc (.cells #[.int .u64 0,.int .u64 0,.int .u64 0,.int .u64 0] t)) (iU [a0,a1,a2,a3]) (iU [b0,b1,b2,b3]) (fun _ => 0):=by
 refine ⟨?_,by simp,?_,?_,?_,?_⟩
 ·repeat (first | exact Below.refl _ _ | refine Below.alloc ?_ (by first | (simp; done) | (simp; omega)) _)
 ·exact RowIs.mk4 (by simp [go_sem]) (by simp [go_sem]) (by simp [go_sem]) (by simp [go_sem]) (fun k => by simp [go_sem])
 ·exact RowIs.mk4 (by simp [go_sem]) (by simp [go_sem]) (by simp [go_sem]) (by simp [go_sem]) (fun k => by simp [go_sem])
 ·intro k hk
  match k,hk with
  | 0,_ | 1,_ | 2,_ | 3,_ => exact ⟨by simp [go_sem],by simp [go_sem]⟩
 ·intro k hk
  match k,hk with
  | 0,_ | 1,_ | 2,_ | 3,_ => exact ⟨by simp [go_sem],by simp [go_sem]⟩
def aEw (A : Nat) (t : Value) : Prop:=∃ x0 x1 x2 x3 x4 x5 x6 x7 : Nat,t = .agg #[.int .u64 x0,.int .u64 x1,.int .u64 x2,.int .u64 x3,.int .u64 x4,.int .u64 x5,.int .u64 x6,.int .u64 x7] ∧ ok8 x0 x1 x2 x3 x4 x5 x6 x7 ∧ Hid (Nz x0 x1 x2 x3 x4 x5 x6 x7 = A)
def Ht (wr u : World) (t : Value) : Prop:=∃ p,t = .pointer (some ⟨p,0,none⟩) ∧ wr.heap.size ≤ p ∧ p < u.heap.size ∧ RowIs u p 8 (fun _ => 0)
def set8 (w : World) (b : Nat) (d0 d1 d2 d3 d4 d5 d6 d7 : Nat) : World :=
 (((((((w.setCell ⟨b,0,none⟩ (.int .u64 d0)).setCell ⟨b,1,none⟩ (.int .u64 d1)).setCell ⟨b,2,none⟩ (.int .u64 d2)).setCell ⟨b,3,none⟩ (.int .u64 d3)).setCell ⟨b,4,none⟩ (.int .u64 d4)).setCell ⟨b,5,none⟩ (.int .u64 d5)).setCell ⟨b,6,none⟩ (.int .u64 d6)).setCell ⟨b,7,none⟩ (.int .u64 d7)
theorem RowIs.ext {w : World} {b n : Nat} {P R : Nat → Nat} (h : RowIs w b n P) (e : ∀ k,k < n → P k = R k) : RowIs w b n R:=fun k hk => ⟨by rw [← e k hk]; exact h.cell hk,h.free hk⟩
theorem RowIs.set8 {w : World} {b : Nat} {P : Nat → Nat} (h : RowIs w b 8 P) (d0 d1 d2 d3 d4 d5 d6 d7 : Nat) : RowIs (Go.Proofs.YtglgakbkdjhojaaGreat.set8 w b d0 d1 d2 d3 d4 d5 d6 d7) b 8 (iU [d0,d1,d2,d3,d4,d5,d6,d7]):=by
 have r:=(((((((h.set (show 0 < 8 by omega) (v:=d0)).set (show 1 < 8 by omega) (v:=d1)).set (show 2 < 8 by omega) (v:=d2)).set (show 3 < 8 by omega) (v:=d3)).set (show 4 < 8 by omega) (v:=d4)).set (show 5 < 8 by omega) (v:=d5)).set (show 6 < 8 by omega) (v:=d6)).set (show 7 < 8 by omega) (v:=d7);unfold Go.Proofs.YtglgakbkdjhojaaGreat.set8;refine r.ext fun k hk => ?_
 match k,hk with
 | 0,_ | 1,_ | 2,_ | 3,_ | 4,_ | 5,_ | 6,_ | 7,_ => rfl
theorem RowIs.set8_other {w : World} {b c n : Nat} {P : Nat → Nat} (h : RowIs w b n P) (hc : c ≠ b) (d0 d1 d2 d3 d4 d5 d6 d7 : Nat) : RowIs (Go.Proofs.YtglgakbkdjhojaaGreat.set8 w c d0 d1 d2 d3 d4 d5 d6 d7) b n P :=
 (((((((h.other hc _).other hc _).other hc _).other hc _).other hc _).other hc _).other hc _).other hc _
theorem vK {B : Nat} {w w' : World} {b : Nat} (h : Below B w w') (hb : B ≤ b) (d0 d1 d2 d3 d4 d5 d6 d7 : Nat) : Below B w (set8 w' b d0 d1 d2 d3 d4 d5 d6 d7) :=
 (((((((h.setCell (p:=⟨b,0,none⟩) hb _).setCell (p:=⟨b,1,none⟩) hb _).setCell (p:=⟨b,2,none⟩) hb _).setCell (p:=⟨b,3,none⟩) hb _).setCell (p:=⟨b,4,none⟩) hb _).setCell (p:=⟨b,5,none⟩) hb _).setCell (p:=⟨b,6,none⟩) hb _).setCell (p:=⟨b,7,none⟩) hb _
theorem gJ (w : World) (b d0 d1 d2 d3 d4 d5 d6 d7 : Nat) : (set8 w b d0 d1 d2 d3 d4 d5 d6 d7).heap.size = w.heap.size:=by
 unfold set8; simp only [World.size_setCell]
theorem GT {x0 x1 x2 x3 x4 x5 x6 x7 : Nat} (h : ok8 x0 x1 x2 x3 x4 x5 x6 x7) (k : Nat) : iU [x0,x1,x2,x3,x4,x5,x6,x7] k < 4294967296:=by
 obtain ⟨h0,h1,h2,h3,h4,h5,h6,h7⟩:=h;unfold iU
 match k with
 | 0 => exact h0
 | 1 => exact h1
 | 2 => exact h2
 | 3 => exact h3
 | 4 => exact h4
 | 5 => exact h5
 | 6 => exact h6
 | 7 => exact h7
 | k + 8 => simp
theorem DV (P : Nat → Nat) : Nz (P 0) (P 1) (P 2) (P 3) (P 4) (P 5) (P 6) (P 7) = tot 4294967296 P 8:=by
 unfold Nz;simp only [tot];omega
structure R3 (got : Nat → Bool) (wr : World) (f : Int) (F : FC) (a0 a1 a2 a3 b0 b1 b2 b3 : Nat) (t7 t8 t9 s21 s22 s23 s24 s25 s26 s27 : Value) (u : World) : Prop where
 below : Below wr.heap.size wr u
 g0 : got 0 = true → s21 = .agg #[.int .u64 a0,.int .u64 a1,.int .u64 a2,.int .u64 a3]
 g1 : got 1 = true → aEw (aF a0 a1 a2 a3) s22
 g2 : got 2 = true → s23 = .agg #[.int .u64 b0,.int .u64 b1,.int .u64 b2,.int .u64 b3]
 g3 : got 3 = true → aEw (aF b0 b1 b2 b3) s24
 g4 : got 4 = true → s25 = .int .i64 f
 g5 : got 5 = true → s26 = .agg #[.int .u64 F.m0,.int .u64 F.m1,.int .u64 F.m2,.int .u64 F.m3]
 g6 : got 6 = true → aEw F.M s27
 g7 : got 7 = true → Ht wr u t7
 g8 : got 8 = true → Ht wr u t8
 g9 : got 9 = true → Ht wr u t9
 n78 : got 7 = true → got 8 = true → t7 ≠ t8
 n79 : got 7 = true → got 9 = true → t7 ≠ t9
 n89 : got 8 = true → got 9 = true → t8 ≠ t9
section
variable {got : Nat → Bool} {wr u u' : World} {f : Int} {F : FC} {a0 a1 a2 a3 b0 b1 b2 b3 : Nat} {t7 t8 t9 s21 s22 s23 s24 s25 s26 s27 : Value}
theorem R3.start (wr : World) (f : Int) (F : FC) (a0 a1 a2 a3 b0 b1 b2 b3 : Nat) : R3 (fun _ => false) wr f F a0 a1 a2 a3 b0 b1 b2 b3 undef undef undef undef undef undef undef undef undef undef wr.drew :=
 ⟨(Below.refl _ _).drew,fun h => Bool.noConfusion h,fun h => Bool.noConfusion h,fun h => Bool.noConfusion h,fun h => Bool.noConfusion h,fun h => Bool.noConfusion h,fun h => Bool.noConfusion h,fun h => Bool.noConfusion h,fun h => Bool.noConfusion h,fun h => Bool.noConfusion h,fun h => Bool.noConfusion h,fun h => Bool.noConfusion h,fun h => Bool.noConfusion h,fun h => Bool.noConfusion h⟩
end
structure ThreeH (wr u : World) (p q r : Nat) (X Y Z : Nat → Nat) (A B M : Nat) : Prop where
 below : Below wr.heap.size wr u
 lp : wr.heap.size ≤ p
 lq : wr.heap.size ≤ q
 lr : wr.heap.size ≤ r
 up : p < u.heap.size
 uq : q < u.heap.size
 ur : r < u.heap.size
 pq : p ≠ q
 pr : p ≠ r
 qr : q ≠ r
 rowX : RowIs u p 8 X
 rowY : RowIs u q 8 Y
 rowZ : RowIs u r 8 Z
 ltX : ∀ k,X k < 4294967296
 ltY : ∀ k,Y k < 4294967296
 ltZ : ∀ k,Z k < 4294967296
 eX : tot 4294967296 X 8 = A
 eY : tot 4294967296 Y 8 = B
 eZ : tot 4294967296 Z 8 = M
theorem ThreeH.store {wr u : World} {p q r A B M x0 x1 x2 x3 x4 x5 x6 x7 y0 y1 y2 y3 y4 y5 y6 y7 z0 z1 z2 z3 z4 z5 z6 z7 : Nat} (hx : ok8 x0 x1 x2 x3 x4 x5 x6 x7) (hy : ok8 y0 y1 y2 y3 y4 y5 y6 y7) (hz : ok8 z0 z1 z2 z3 z4 z5 z6 z7) (ex : Hid (Nz x0 x1 x2 x3 x4 x5 x6 x7 = A)) (ey : Hid (Nz y0 y1 y2 y3 y4 y5 y6 y7 = B)) (ez : Hid (Nz z0 z1 z2 z3 z4 z5 z6 z7 = M))
  (lp : wr.heap.size ≤ p) (lq : wr.heap.size ≤ q) (lr : wr.heap.size ≤ r) (up : p < u.heap.size) (uq : q < u.heap.size) (ur : r < u.heap.size) (pq : p ≠ q) (pr : p ≠ r) (qr : q ≠ r) (rp : RowIs u p 8 (fun _ => 0)) (rq : RowIs u q 8 (fun _ => 0)) (rr : RowIs u r 8 (fun _ => 0)) (hbl : Below wr.heap.size wr u) :
  ThreeH wr (set8 (set8 (set8 u p x0 x1 x2 x3 x4 x5 x6 x7) q y0 y1 y2 y3 y4 y5 y6 y7) r z0 z1 z2 z3 z4 z5 z6 z7) p q r (iU [x0,x1,x2,x3,x4,x5,x6,x7]) (iU [y0,y1,y2,y3,y4,y5,y6,y7]) (iU [z0,z1,z2,z3,z4,z5,z6,z7]) A B M :=
 ⟨vK (vK (vK hbl lp _ _ _ _ _ _ _ _) lq _ _ _ _ _ _ _ _) lr _ _ _ _ _ _ _ _,lp,lq,lr,by rw [gJ,gJ,gJ]; exact up,by rw [gJ,gJ,gJ]; exact uq,by rw [gJ,gJ,gJ]; exact ur,pq,pr,qr,
  ((rp.set8 _ _ _ _ _ _ _ _).set8_other (fun e => pq e.symm) _ _ _ _ _ _ _ _).set8_other (fun e => pr e.symm) _ _ _ _ _ _ _ _,((rq.set8_other pq _ _ _ _ _ _ _ _).set8 _ _ _ _ _ _ _ _).set8_other (fun e => qr e.symm) _ _ _ _ _ _ _ _,((rr.set8_other pr _ _ _ _ _ _ _ _).set8_other qr _ _ _ _ _ _ _ _).set8 _ _ _ _ _ _ _ _,GT hx,GT hy,GT hz,
  (DV (iU [x0,x1,x2,x3,x4,x5,x6,x7])).symm.trans ex.out,(DV (iU [y0,y1,y2,y3,y4,y5,y6,y7])).symm.trans ey.out,(DV (iU [z0,z1,z2,z3,z4,z5,z6,z7])).symm.trans ez.out⟩
structure MT (w wr : World) (p q r t : Nat) (X Y Z P : Nat → Nat) : Prop where
 below : Below w.heap.size w wr
 res : Row4 wr (w.heap.size + 1 + 1) 0 0 0 0
 rowX : RowIs wr p 8 X
 rowY : RowIs wr q 8 Y
 rowZ : RowIs wr r 8 Z
 rowP : RowIs wr t 10 P
 lt : ∀ k,P k < 4294967296
section
variable {w wr : World} {p q r t : Nat} {X Y Z P : Nat → Nat}
theorem MT.set (h : MT w wr p q r t X Y Z P) (h2 : w.heap.size + 1 + 1 < t) (pt : p < t) (qt : q < t) (rt : r < t) {k d : Nat} (hk : k < 10) (hd : d < 4294967296) :
  MT w (wr.setCell ⟨t,k,none⟩ (.int .u64 (d : Nat))) p q r t X Y Z (upd P k d) :=
 ⟨h.below.setCell (p:=⟨t,k,none⟩) (by show w.heap.size ≤ t; omega) _,h.res.other (by omega) _,h.rowX.other (by omega) _,h.rowY.other (by omega) _,h.rowZ.other (by omega) _,h.rowP.set hk,
  fun j => by unfold upd; split; exact hd; exact h.lt j⟩
theorem MT.drewN (h : MT w wr p q r t X Y Z P) (n : Nat) : MT w (wr.drewN n) p q r t X Y Z P:=⟨h.below.trans (bN _ _ _),h.res.drewN n,h.rowX,h.rowY,h.rowZ,h.rowP,h.lt⟩
end
structure OW (w wr : World) (t o : Nat) (P O : Nat → Nat) : Prop where
 below : Below w.heap.size w wr
 res : Row4 wr (w.heap.size + 1 + 1) 0 0 0 0
 rowP : RowIs wr t 10 P
 rowO : RowIs wr o 4 O
 lo : o < wr.heap.size
theorem OW.drewN {w wr : World} {t o : Nat} {P O : Nat → Nat} (h : OW w wr t o P O) (n : Nat) : OW w (wr.drewN n) t o P O:=⟨h.below.trans (bN _ _ _),h.res.drewN n,h.rowP,h.rowO,h.lo⟩
theorem OW.set {w wr : World} {t o : Nat} {P O : Nat → Nat} (h : OW w wr t o P O) (h2 : w.heap.size + 1 + 1 < t) (ht : t < o) {k d : Nat} (hk : k < 4) : OW w (wr.setCell ⟨o,k,none⟩ (.int .u64 (d : Nat))) t o P (upd O k d) :=
 ⟨h.below.setCell (p:=⟨o,k,none⟩) (by show w.heap.size ≤ o; omega) _,h.res.other (by omega) _,h.rowP.other (by omega) _,h.rowO.set hk,by rw [World.size_setCell]; exact h.lo⟩
end Go.Proofs.YtglgakbkdjhojaaGreat
namespace Go.Proofs.YtglgakbkdjhojaaGreat.Ex
open Go.Proofs.Tryz
open Classical
section
variable {R : Type} (K : CR R) (inv : R → R)
abbrev Jc (R : Type):=R × R × R
def fT (p : Jc R) : Pt R:=if p.2.2 = K.zero then none else some (K.mul p.1 (K.mul (inv p.2.2) (inv p.2.2)),K.mul p.2.1 (K.mul (K.mul (inv p.2.2) (inv p.2.2)) (inv p.2.2)))
def dSl (p : Jc R) : R:=K.add (K.add (K.mul p.1 p.1) (K.mul p.1 p.1)) (K.mul p.1 p.1)
def dTw (p : Jc R) : R:=K.add (K.mul p.2.1 p.2.1) (K.mul p.2.1 p.2.1)
def dFo (p : Jc R) : R:=K.add (dTw K p) (dTw K p)
def dBa (p : Jc R) : R:=K.mul p.1 (dFo K p)
def dX (p : Jc R) : R:=K.sub (K.mul (dSl K p) (dSl K p)) (K.add (dBa K p) (dBa K p))
def dY (p : Jc R) : R:=K.sub (K.mul (dSl K p) (K.sub (dBa K p) (dX K p))) (K.mul (dFo K p) (dTw K p))
def cG (p : Jc R) : Jc R:=(dX K p,dY K p,K.mul (K.add p.2.1 p.2.1) p.2.2)
def DC (p q : Jc R) : R:=K.mul p.1 (K.mul q.2.2 q.2.2)
def BD (p q : Jc R) : R:=K.mul p.2.1 (K.mul (K.mul q.2.2 q.2.2) q.2.2)
def BE (p q : Jc R) : R:=K.sub (DC K q p) (DC K p q)
def YU (p q : Jc R) : R:=K.sub (BD K q p) (BD K p q)
def sX (px a up : R) : R:=K.sub (K.sub (K.mul up up) (K.mul (K.mul a a) a)) (K.add (K.mul px (K.mul a a)) (K.mul px (K.mul a a)))
def sY (px py a up : R) : R:=K.sub (K.mul up (K.sub (K.mul px (K.mul a a)) (sX K px a up))) (K.mul py (K.mul (K.mul a a) a))
def GO (p q : Jc R) : Jc R:=(sX K (DC K p q) (BE K p q) (YU K p q),sY K (DC K p q) (BD K p q) (BE K p q) (YU K p q),K.mul (K.mul p.2.2 q.2.2) (BE K p q))
def dW (p q : Jc R) : Jc R :=
 if p.2.2 = K.zero then q else if q.2.2 = K.zero then p else if BE K p q = K.zero ∧ YU K p q = K.zero then cG K p else GO K p q
def rplus (p q : Jc R) : Jc R :=
 if p.2.2 = K.zero then q else if q.2.2 = K.zero then p else if BE K p q = K.zero ∧ YU K p q = K.zero then cG K p else if BE K p q = K.zero then (K.one,K.one,K.zero) else GO K p q
variable {K} {inv} {b : R}
theorem dE {p : Jc R} (h : p.2.2 = K.zero) : fT K inv p = none:=if_pos h
theorem dR {p : Jc R} (h : p.2.2 ≠ K.zero) : fT K inv p = some (K.mul p.1 (K.mul (inv p.2.2) (inv p.2.2)),K.mul p.2.1 (K.mul (K.mul (inv p.2.2) (inv p.2.2)) (inv p.2.2))):=if_neg h
theorem yL (E : EC K inv b) {x y l : R} (hy : K.add y y ≠ K.zero) (h : K.mul l (K.add y y) = K.add (K.add (K.mul x x) (K.mul x x)) (K.mul x x)) : dD K inv x y x y = l:=by
 unfold dD;rw [if_pos rfl];refine E.F.cancel hy ?_;have hi:=E.F.inv _ hy;generalize inv (K.add y y) = k at hi;exact jU (K:=K) (c1:=(K.add (K.add (K.mul x x) (K.mul x x)) (K.mul x x))) (c2:=(K.neg K.one)) hi h (aE K (aR K [y,x,k,l]) (.add (.mul (.add (.v 0) (.v 0)) (.mul (.add (.add (.mul (.v 1) (.v 1)) (.mul (.v 1) (.v 1))) (.mul (.v 1) (.v 1))) (.v 2))) (.neg (.mul (.add (.v 0) (.v 0)) (.v 3)))) (.add (.mul (.add (.add (.mul (.v 1) (.v 1)) (.mul (.v 1) (.v 1))) (.mul (.v 1) (.v 1))) (.add (.mul (.add (.v 0) (.v 0)) (.v 2)) (.neg .one))) (.mul (.neg .one) (.add (.mul (.v 3) (.add (.v 0) (.v 0))) (.neg (.add (.add (.mul (.v 1) (.v 1)) (.mul (.v 1) (.v 1))) (.mul (.v 1) (.v 1))))))) (by kernel_rfl))
theorem rP (E : EC K inv b) {x1 y1 x2 y2 l : R} (hx : x1 ≠ x2) (h : K.mul l (K.sub x2 x1) = K.sub y2 y1) : dD K inv x1 y1 x2 y2 = l:=by
 unfold dD;rw [if_neg hx];have hd : K.sub x2 x1 ≠ K.zero:=NX fun e => hx e.symm
 have hi:=E.F.inv _ hd;refine E.F.cancel hd ?_;generalize inv (K.sub x2 x1) = k at hi;exact jU (K:=K) (c1:=(K.sub y2 y1)) (c2:=(K.neg K.one)) hi h (aE K (aR K [x2,x1,y2,y1,k,l]) (.add (.mul (.add (.v 0) (.neg (.v 1))) (.mul (.add (.v 2) (.neg (.v 3))) (.v 4))) (.neg (.mul (.add (.v 0) (.neg (.v 1))) (.v 5)))) (.add (.mul (.add (.v 2) (.neg (.v 3))) (.add (.mul (.add (.v 0) (.neg (.v 1))) (.v 4)) (.neg .one))) (.mul (.neg .one) (.add (.mul (.v 5) (.add (.v 0) (.neg (.v 1)))) (.neg (.add (.v 2) (.neg (.v 3))))))) (by kernel_rfl))
theorem QD (E : EC K inv b) {p : Jc R} (hp : On K b (fT K inv p)) : fT K inv (cG K p) = gZ K inv (fT K inv p) (fT K inv p):=by
 obtain ⟨x,y,z⟩:=p
 by_cases hz : z = K.zero
 ·have h1 : fT K inv (x,y,z) = none:=dE hz;rw [h1];refine dE ?_;show K.mul (K.add y y) z = K.zero;rw [hz,K.mul_zero]
 ·have h1:=dR (K:=K) (inv:=inv) (p:=(x,y,z)) hz;rw [h1] at hp ⊢;dsimp only at hp ⊢;have hi:=E.F.inv z hz;generalize inv z = i at hi hp ⊢;have hY:=E.y_ne (show K.mul (K.mul y (K.mul (K.mul i i) i)) (K.mul y (K.mul (K.mul i i) i)) = _ from hp);have hy : y ≠ K.zero:=fun e => hY (by rw [e,K.zero_mul])
  have hyy:=E.dbl_ne hy;have hz3 : K.mul (K.add y y) z ≠ K.zero:=E.F.mul_ne hyy hz;have h3:=dR (K:=K) (inv:=inv) (p:=cG K (x,y,z)) hz3;rw [h3];show some (K.mul (dX K (x,y,z)) (K.mul (inv (K.mul (K.add y y) z)) (inv (K.mul (K.add y y) z))),K.mul (dY K (x,y,z)) (K.mul (K.mul (inv (K.mul (K.add y y) z)) (inv (K.mul (K.add y y) z))) (inv (K.mul (K.add y y) z)))) = _;have hj:=E.F.inv _ hz3;generalize inv (K.mul (K.add y y) z) = j at hj ⊢;have e : i = K.mul (K.add y y) j:=jU (K:=K) (c1:=(K.neg i)) (c2:=(K.mul (K.add y y) j)) hj hi (aE K (aR K [i,y,j,z]) (.add (.v 0) (.neg (.mul (.add (.v 1) (.v 1)) (.v 2)))) (.add (.mul (.neg (.v 0)) (.add (.mul (.mul (.add (.v 1) (.v 1)) (.v 3)) (.v 2)) (.neg .one))) (.mul (.mul (.add (.v 1) (.v 1)) (.v 2)) (.add (.mul (.v 3) (.v 0)) (.neg .one)))) (by kernel_rfl));subst e;have hYY:=E.dbl_ne hY;rw [jD (fun h => hYY h.2)];dsimp only;have hs:=yL (l:=(K.mul (K.add (K.add (K.mul x x) (K.mul x x)) (K.mul x x)) j)) (x:=(K.mul x (K.mul (K.mul (K.add y y) j) (K.mul (K.add y y) j)))) E hYY (aE K (aR K [x,j,y]) (.mul (.mul (.add (.add (.mul (.v 0) (.v 0)) (.mul (.v 0) (.v 0))) (.mul (.v 0) (.v 0))) (.v 1)) (.add (.mul (.v 2) (.mul (.mul (.mul (.add (.v 2) (.v 2)) (.v 1)) (.mul (.add (.v 2) (.v 2)) (.v 1))) (.mul (.add (.v 2) (.v 2)) (.v 1)))) (.mul (.v 2) (.mul (.mul (.mul (.add (.v 2) (.v 2)) (.v 1)) (.mul (.add (.v 2) (.v 2)) (.v 1))) (.mul (.add (.v 2) (.v 2)) (.v 1)))))) (.add (.add (.mul (.mul (.v 0) (.mul (.mul (.add (.v 2) (.v 2)) (.v 1)) (.mul (.add (.v 2) (.v 2)) (.v 1)))) (.mul (.v 0) (.mul (.mul (.add (.v 2) (.v 2)) (.v 1)) (.mul (.add (.v 2) (.v 2)) (.v 1))))) (.mul (.mul (.v 0) (.mul (.mul (.add (.v 2) (.v 2)) (.v 1)) (.mul (.add (.v 2) (.v 2)) (.v 1)))) (.mul (.v 0) (.mul (.mul (.add (.v 2) (.v 2)) (.v 1)) (.mul (.add (.v 2) (.v 2)) (.v 1)))))) (.mul (.mul (.v 0) (.mul (.mul (.add (.v 2) (.v 2)) (.v 1)) (.mul (.add (.v 2) (.v 2)) (.v 1)))) (.mul (.v 0) (.mul (.mul (.add (.v 2) (.v 2)) (.v 1)) (.mul (.add (.v 2) (.v 2)) (.v 1)))))) (by kernel_rfl));rw [hs];refine congrArg some (Prod.ext ?_ ?_)
  ·exact aE K (aR K [x,y,j]) (.mul (.add (.mul (.add (.add (.mul (.v 0) (.v 0)) (.mul (.v 0) (.v 0))) (.mul (.v 0) (.v 0))) (.add (.add (.mul (.v 0) (.v 0)) (.mul (.v 0) (.v 0))) (.mul (.v 0) (.v 0)))) (.neg (.add (.mul (.v 0) (.add (.add (.mul (.v 1) (.v 1)) (.mul (.v 1) (.v 1))) (.add (.mul (.v 1) (.v 1)) (.mul (.v 1) (.v 1))))) (.mul (.v 0) (.add (.add (.mul (.v 1) (.v 1)) (.mul (.v 1) (.v 1))) (.add (.mul (.v 1) (.v 1)) (.mul (.v 1) (.v 1)))))))) (.mul (.v 2) (.v 2))) (.add (.add (.mul (.mul (.add (.add (.mul (.v 0) (.v 0)) (.mul (.v 0) (.v 0))) (.mul (.v 0) (.v 0))) (.v 2)) (.mul (.add (.add (.mul (.v 0) (.v 0)) (.mul (.v 0) (.v 0))) (.mul (.v 0) (.v 0))) (.v 2))) (.neg (.mul (.v 0) (.mul (.mul (.add (.v 1) (.v 1)) (.v 2)) (.mul (.add (.v 1) (.v 1)) (.v 2)))))) (.neg (.mul (.v 0) (.mul (.mul (.add (.v 1) (.v 1)) (.v 2)) (.mul (.add (.v 1) (.v 1)) (.v 2)))))) (by kernel_rfl)
  ·exact aE K (aR K [x,y,j]) (.mul (.add (.mul (.add (.add (.mul (.v 0) (.v 0)) (.mul (.v 0) (.v 0))) (.mul (.v 0) (.v 0))) (.add (.mul (.v 0) (.add (.add (.mul (.v 1) (.v 1)) (.mul (.v 1) (.v 1))) (.add (.mul (.v 1) (.v 1)) (.mul (.v 1) (.v 1))))) (.neg (.add (.mul (.add (.add (.mul (.v 0) (.v 0)) (.mul (.v 0) (.v 0))) (.mul (.v 0) (.v 0))) (.add (.add (.mul (.v 0) (.v 0)) (.mul (.v 0) (.v 0))) (.mul (.v 0) (.v 0)))) (.neg (.add (.mul (.v 0) (.add (.add (.mul (.v 1) (.v 1)) (.mul (.v 1) (.v 1))) (.add (.mul (.v 1) (.v 1)) (.mul (.v 1) (.v 1))))) (.mul (.v 0) (.add (.add (.mul (.v 1) (.v 1)) (.mul (.v 1) (.v 1))) (.add (.mul (.v 1) (.v 1)) (.mul (.v 1) (.v 1))))))))))) (.neg (.mul (.add (.add (.mul (.v 1) (.v 1)) (.mul (.v 1) (.v 1))) (.add (.mul (.v 1) (.v 1)) (.mul (.v 1) (.v 1)))) (.add (.mul (.v 1) (.v 1)) (.mul (.v 1) (.v 1)))))) (.mul (.mul (.v 2) (.v 2)) (.v 2))) (.add (.mul (.mul (.add (.add (.mul (.v 0) (.v 0)) (.mul (.v 0) (.v 0))) (.mul (.v 0) (.v 0))) (.v 2)) (.add (.mul (.v 0) (.mul (.mul (.add (.v 1) (.v 1)) (.v 2)) (.mul (.add (.v 1) (.v 1)) (.v 2)))) (.neg (.add (.add (.mul (.mul (.add (.add (.mul (.v 0) (.v 0)) (.mul (.v 0) (.v 0))) (.mul (.v 0) (.v 0))) (.v 2)) (.mul (.add (.add (.mul (.v 0) (.v 0)) (.mul (.v 0) (.v 0))) (.mul (.v 0) (.v 0))) (.v 2))) (.neg (.mul (.v 0) (.mul (.mul (.add (.v 1) (.v 1)) (.v 2)) (.mul (.add (.v 1) (.v 1)) (.v 2)))))) (.neg (.mul (.v 0) (.mul (.mul (.add (.v 1) (.v 1)) (.v 2)) (.mul (.add (.v 1) (.v 1)) (.v 2))))))))) (.neg (.mul (.v 1) (.mul (.mul (.mul (.add (.v 1) (.v 1)) (.v 2)) (.mul (.add (.v 1) (.v 1)) (.v 2))) (.mul (.add (.v 1) (.v 1)) (.v 2)))))) (by kernel_rfl)
theorem GN (E : EC K inv b) {p q : Jc R} (hp : p.2.2 ≠ K.zero) (hq : q.2.2 ≠ K.zero) : ∃ w,K.mul (K.mul p.2.2 q.2.2) w = K.one ∧ fT K inv p = some (K.mul (DC K p q) (K.mul w w),K.mul (BD K p q) (K.mul (K.mul w w) w)) ∧ fT K inv q = some (K.mul (DC K q p) (K.mul w w),K.mul (BD K q p) (K.mul (K.mul w w) w)):=by
 obtain ⟨x1,y1,z1⟩:=p;obtain ⟨x2,y2,z2⟩:=q;have h1:=E.F.inv z1 hp;have h2:=E.F.inv z2 hq;rw [dR hp,dR hq];dsimp only at *;generalize inv z1 = i at h1 ⊢;generalize inv z2 = j at h2 ⊢;refine ⟨K.mul i j,?_,congrArg some (Prod.ext ?_ ?_),congrArg some (Prod.ext ?_ ?_)⟩
 ·exact jU (K:=K) (c1:=(K.mul z2 j)) (c2:=K.one) h1 h2 (aE K (aR K [z1,z2,i,j]) (.add (.mul (.mul (.v 0) (.v 1)) (.mul (.v 2) (.v 3))) (.neg .one)) (.add (.mul (.mul (.v 1) (.v 3)) (.add (.mul (.v 0) (.v 2)) (.neg .one))) (.mul .one (.add (.mul (.v 1) (.v 3)) (.neg .one)))) (by kernel_rfl))
 ·exact gQ (K:=K) (c1:=(K.mul (K.neg (K.mul x1 (K.mul i i))) (K.add (K.mul z2 j) K.one))) h2 (aE K (aR K [x1,i,z2,j]) (.add (.mul (.v 0) (.mul (.v 1) (.v 1))) (.neg (.mul (.mul (.v 0) (.mul (.v 2) (.v 2))) (.mul (.mul (.v 1) (.v 3)) (.mul (.v 1) (.v 3)))))) (.mul (.mul (.neg (.mul (.v 0) (.mul (.v 1) (.v 1)))) (.add (.mul (.v 2) (.v 3)) .one)) (.add (.mul (.v 2) (.v 3)) (.neg .one))) (by kernel_rfl))
 ·exact gQ (K:=K) (c1:=(K.mul (K.neg (K.mul y1 (K.mul (K.mul i i) i))) (K.add (K.add (K.mul (K.mul z2 j) (K.mul z2 j)) (K.mul z2 j)) K.one))) h2 (aE K (aR K [y1,i,z2,j]) (.add (.mul (.v 0) (.mul (.mul (.v 1) (.v 1)) (.v 1))) (.neg (.mul (.mul (.v 0) (.mul (.mul (.v 2) (.v 2)) (.v 2))) (.mul (.mul (.mul (.v 1) (.v 3)) (.mul (.v 1) (.v 3))) (.mul (.v 1) (.v 3)))))) (.mul (.mul (.neg (.mul (.v 0) (.mul (.mul (.v 1) (.v 1)) (.v 1)))) (.add (.add (.mul (.mul (.v 2) (.v 3)) (.mul (.v 2) (.v 3))) (.mul (.v 2) (.v 3))) .one)) (.add (.mul (.v 2) (.v 3)) (.neg .one))) (by kernel_rfl))
 ·exact gQ (K:=K) (c1:=(K.mul (K.neg (K.mul x2 (K.mul j j))) (K.add (K.mul z1 i) K.one))) h1 (aE K (aR K [x2,j,z1,i]) (.add (.mul (.v 0) (.mul (.v 1) (.v 1))) (.neg (.mul (.mul (.v 0) (.mul (.v 2) (.v 2))) (.mul (.mul (.v 3) (.v 1)) (.mul (.v 3) (.v 1)))))) (.mul (.mul (.neg (.mul (.v 0) (.mul (.v 1) (.v 1)))) (.add (.mul (.v 2) (.v 3)) .one)) (.add (.mul (.v 2) (.v 3)) (.neg .one))) (by kernel_rfl))
 ·exact gQ (K:=K) (c1:=(K.mul (K.neg (K.mul y2 (K.mul (K.mul j j) j))) (K.add (K.add (K.mul (K.mul z1 i) (K.mul z1 i)) (K.mul z1 i)) K.one))) h1 (aE K (aR K [y2,j,z1,i]) (.add (.mul (.v 0) (.mul (.mul (.v 1) (.v 1)) (.v 1))) (.neg (.mul (.mul (.v 0) (.mul (.mul (.v 2) (.v 2)) (.v 2))) (.mul (.mul (.mul (.v 3) (.v 1)) (.mul (.v 3) (.v 1))) (.mul (.v 3) (.v 1)))))) (.mul (.mul (.neg (.mul (.v 0) (.mul (.mul (.v 1) (.v 1)) (.v 1)))) (.add (.add (.mul (.mul (.v 2) (.v 3)) (.mul (.v 2) (.v 3))) (.mul (.v 2) (.v 3))) .one)) (.add (.mul (.v 2) (.v 3)) (.neg .one))) (by kernel_rfl))
theorem aDC (E : EC K inv b) {px py qx qy w zz j : R} (hw : K.mul zz w = K.one) (ha : K.sub qx px ≠ K.zero) (hj : K.mul (K.mul zz (K.sub qx px)) j = K.one) :
  gZ K inv (some (K.mul px (K.mul w w),K.mul py (K.mul (K.mul w w) w))) (some (K.mul qx (K.mul w w),K.mul qy (K.mul (K.mul w w) w))) = some (K.mul (sX K px (K.sub qx px) (K.sub qy py)) (K.mul j j),K.mul (sY K px py (K.sub qx px) (K.sub qy py)) (K.mul (K.mul j j) j)):=by
 have hw0 : w ≠ K.zero:=fun e => E.F.ne (by rw [← hw,e,K.mul_zero])
 have e : w = K.mul (K.sub qx px) j:=jU (K:=K) (c1:=(K.neg w)) (c2:=(K.mul (K.sub qx px) j)) hj hw (aE K (aR K [w,qx,px,j,zz]) (.add (.v 0) (.neg (.mul (.add (.v 1) (.neg (.v 2))) (.v 3)))) (.add (.mul (.neg (.v 0)) (.add (.mul (.mul (.v 4) (.add (.v 1) (.neg (.v 2)))) (.v 3)) (.neg .one))) (.mul (.mul (.add (.v 1) (.neg (.v 2))) (.v 3)) (.add (.mul (.v 4) (.v 0)) (.neg .one)))) (by kernel_rfl));have hx : K.mul px (K.mul w w) ≠ K.mul qx (K.mul w w):=fun h => by
  refine E.F.mul_ne ha (E.F.mul_ne hw0 hw0) ?_;have : K.mul (K.sub qx px) (K.mul w w) = K.sub (K.mul qx (K.mul w w)) (K.mul px (K.mul w w)):=aE K (aR K [qx,px,w]) (.mul (.add (.v 0) (.neg (.v 1))) (.mul (.v 2) (.v 2))) (.add (.mul (.v 0) (.mul (.v 2) (.v 2))) (.neg (.mul (.v 1) (.mul (.v 2) (.v 2))))) (by kernel_rfl);rw [this,h];exact K.add_neg _
 rw [jD (fun h => hx h.1)];dsimp only;have hs:=rP (l:=(K.mul (K.sub qy py) j)) (y1:=K.mul py (K.mul (K.mul w w) w)) (y2:=K.mul qy (K.mul (K.mul w w) w)) E hx (by
  subst e;exact aE K (aR K [qy,py,j,qx,px]) (.mul (.mul (.add (.v 0) (.neg (.v 1))) (.v 2)) (.add (.mul (.v 3) (.mul (.mul (.add (.v 3) (.neg (.v 4))) (.v 2)) (.mul (.add (.v 3) (.neg (.v 4))) (.v 2)))) (.neg (.mul (.v 4) (.mul (.mul (.add (.v 3) (.neg (.v 4))) (.v 2)) (.mul (.add (.v 3) (.neg (.v 4))) (.v 2))))))) (.add (.mul (.v 0) (.mul (.mul (.mul (.add (.v 3) (.neg (.v 4))) (.v 2)) (.mul (.add (.v 3) (.neg (.v 4))) (.v 2))) (.mul (.add (.v 3) (.neg (.v 4))) (.v 2)))) (.neg (.mul (.v 1) (.mul (.mul (.mul (.add (.v 3) (.neg (.v 4))) (.v 2)) (.mul (.add (.v 3) (.neg (.v 4))) (.v 2))) (.mul (.add (.v 3) (.neg (.v 4))) (.v 2)))))) (by kernel_rfl))
 rw [hs];subst e;refine congrArg some (Prod.ext ?_ ?_)
 ·exact aE K (aR K [qy,py,j,px,qx]) (.add (.add (.mul (.mul (.add (.v 0) (.neg (.v 1))) (.v 2)) (.mul (.add (.v 0) (.neg (.v 1))) (.v 2))) (.neg (.mul (.v 3) (.mul (.mul (.add (.v 4) (.neg (.v 3))) (.v 2)) (.mul (.add (.v 4) (.neg (.v 3))) (.v 2)))))) (.neg (.mul (.v 4) (.mul (.mul (.add (.v 4) (.neg (.v 3))) (.v 2)) (.mul (.add (.v 4) (.neg (.v 3))) (.v 2)))))) (.mul (.add (.add (.mul (.add (.v 0) (.neg (.v 1))) (.add (.v 0) (.neg (.v 1)))) (.neg (.mul (.mul (.add (.v 4) (.neg (.v 3))) (.add (.v 4) (.neg (.v 3)))) (.add (.v 4) (.neg (.v 3)))))) (.neg (.add (.mul (.v 3) (.mul (.add (.v 4) (.neg (.v 3))) (.add (.v 4) (.neg (.v 3))))) (.mul (.v 3) (.mul (.add (.v 4) (.neg (.v 3))) (.add (.v 4) (.neg (.v 3)))))))) (.mul (.v 2) (.v 2))) (by kernel_rfl)
 ·exact aE K (aR K [qy,py,j,px,qx]) (.add (.mul (.mul (.add (.v 0) (.neg (.v 1))) (.v 2)) (.add (.mul (.v 3) (.mul (.mul (.add (.v 4) (.neg (.v 3))) (.v 2)) (.mul (.add (.v 4) (.neg (.v 3))) (.v 2)))) (.neg (.add (.add (.mul (.mul (.add (.v 0) (.neg (.v 1))) (.v 2)) (.mul (.add (.v 0) (.neg (.v 1))) (.v 2))) (.neg (.mul (.v 3) (.mul (.mul (.add (.v 4) (.neg (.v 3))) (.v 2)) (.mul (.add (.v 4) (.neg (.v 3))) (.v 2)))))) (.neg (.mul (.v 4) (.mul (.mul (.add (.v 4) (.neg (.v 3))) (.v 2)) (.mul (.add (.v 4) (.neg (.v 3))) (.v 2))))))))) (.neg (.mul (.v 1) (.mul (.mul (.mul (.add (.v 4) (.neg (.v 3))) (.v 2)) (.mul (.add (.v 4) (.neg (.v 3))) (.v 2))) (.mul (.add (.v 4) (.neg (.v 3))) (.v 2)))))) (.mul (.add (.mul (.add (.v 0) (.neg (.v 1))) (.add (.mul (.v 3) (.mul (.add (.v 4) (.neg (.v 3))) (.add (.v 4) (.neg (.v 3))))) (.neg (.add (.add (.mul (.add (.v 0) (.neg (.v 1))) (.add (.v 0) (.neg (.v 1)))) (.neg (.mul (.mul (.add (.v 4) (.neg (.v 3))) (.add (.v 4) (.neg (.v 3)))) (.add (.v 4) (.neg (.v 3)))))) (.neg (.add (.mul (.v 3) (.mul (.add (.v 4) (.neg (.v 3))) (.add (.v 4) (.neg (.v 3))))) (.mul (.v 3) (.mul (.add (.v 4) (.neg (.v 3))) (.add (.v 4) (.neg (.v 3))))))))))) (.neg (.mul (.v 1) (.mul (.mul (.add (.v 4) (.neg (.v 3))) (.add (.v 4) (.neg (.v 3)))) (.add (.v 4) (.neg (.v 3))))))) (.mul (.mul (.v 2) (.v 2)) (.v 2))) (by kernel_rfl)
theorem EI (E : EC K inv b) {y1 y2 : R} (h : K.mul y1 y1 = K.mul y2 y2) (hn : y1 ≠ y2) : K.add y1 y2 = K.zero:=by
 refine E.F.zd (a:=K.sub y1 y2) ?_ (NX hn);have : K.mul (K.sub y1 y2) (K.add y1 y2) = K.sub (K.mul y1 y1) (K.mul y2 y2):=aE K (aR K [y1,y2]) (.mul (.add (.v 0) (.neg (.v 1))) (.add (.v 0) (.v 1))) (.add (.mul (.v 0) (.v 0)) (.neg (.mul (.v 1) (.v 1)))) (by kernel_rfl);rw [this,h];exact K.add_neg _
theorem Li (E : EC K inv b) {p q : Jc R} (hp : On K b (fT K inv p)) (hq : On K b (fT K inv q)) (h1 : p.2.2 ≠ K.zero) (h2 : q.2.2 ≠ K.zero) (hn : ¬ (BE K p q = K.zero ∧ YU K p q = K.zero)) :
  fT K inv (GO K p q) = gZ K inv (fT K inv p) (fT K inv q):=by
 obtain ⟨w,hw,e1,e2⟩:=GN (K:=K) (inv:=inv) E h1 h2;rw [e1] at hp;rw [e2] at hq;rw [e1,e2]
 by_cases ha : BE K p q = K.zero
 ·have hx : DC K q p = DC K p q:=iL ha;have hu : YU K p q ≠ K.zero:=fun e => hn ⟨ha,e⟩
  have hw0 : w ≠ K.zero:=fun e => E.F.ne (by rw [← hw,e,K.mul_zero])
  have hy : K.mul (BD K p q) (K.mul (K.mul w w) w) ≠ K.mul (BD K q p) (K.mul (K.mul w w) w):=fun h => by
   refine E.F.mul_ne hu (E.F.mul_ne (E.F.mul_ne hw0 hw0) hw0) ?_;show K.mul (K.sub (BD K q p) (BD K p q)) _ = _;have e0 : ∀ s t c : R,K.mul (K.sub s t) c = K.sub (K.mul s c) (K.mul t c):=fun s t c => aE K (aR K [s,t,c]) (.mul (.add (.v 0) (.neg (.v 1))) (.v 2)) (.add (.mul (.v 0) (.v 2)) (.neg (.mul (.v 1) (.v 2)))) (by kernel_rfl)
   rw [e0,h];exact K.add_neg _
  rw [hx] at hq ⊢;have ho:=EI (y1:=K.mul (BD K p q) (K.mul (K.mul w w) w)) (y2:=K.mul (BD K q p) (K.mul (K.mul w w) w)) E ((show K.mul _ _ = _ from hp).trans (show K.mul _ _ = _ from hq).symm) hy;rw [kG (p:=(K.mul (DC K p q) (K.mul w w),K.mul (BD K p q) (K.mul (K.mul w w) w))) (q:=(K.mul (DC K p q) (K.mul w w),K.mul (BD K q p) (K.mul (K.mul w w) w))) ⟨rfl,ho⟩];refine dE ?_;show K.mul (K.mul p.2.2 q.2.2) (BE K p q) = K.zero;rw [ha,K.mul_zero]
 ·have hz : K.mul (K.mul p.2.2 q.2.2) (BE K p q) ≠ K.zero:=E.F.mul_ne (E.F.mul_ne h1 h2) ha;have hj:=E.F.inv _ hz;refine (dR (p:=GO K p q) hz).trans ?_;exact (aDC E hw ha hj).symm
theorem YV (E : EC K inv b) {p q : Jc R} (hp : On K b (fT K inv p)) (hq : On K b (fT K inv q)) : fT K inv (dW K p q) = gZ K inv (fT K inv p) (fT K inv q):=by
 unfold dW
 by_cases h1 : p.2.2 = K.zero
 ·rw [if_pos h1,dE h1]; rfl
 ·rw [if_neg h1]
  by_cases h2 : q.2.2 = K.zero
  ·rw [if_pos h2,dE h2,dR h1]; rfl
  ·rw [if_neg h2]
   by_cases h3 : BE K p q = K.zero ∧ YU K p q = K.zero
   ·rw [if_pos h3];obtain ⟨w,hw,e1,e2⟩:=GN (K:=K) (inv:=inv) E h1 h2;have hx : DC K q p = DC K p q:=iL h3.1;have hy : BD K q p = BD K p q:=iL h3.2;rw [QD E hp];rw [hx,hy] at e2;rw [e2,e1]
   ·rw [if_neg h3];exact Li E hp hq h1 h2 h3
theorem Te (E : EC K inv b) {p q : Jc R} (hp : On K b (fT K inv p)) (hq : On K b (fT K inv q)) : fT K inv (rplus K p q) = gZ K inv (fT K inv p) (fT K inv q):=by
 rw [← YV E hp hq];unfold rplus dW
 by_cases h1 : p.2.2 = K.zero
 ·rw [if_pos h1,if_pos h1]
 ·rw [if_neg h1,if_neg h1]
  by_cases h2 : q.2.2 = K.zero
  ·rw [if_pos h2,if_pos h2]
  ·rw [if_neg h2,if_neg h2]
   by_cases h3 : BE K p q = K.zero ∧ YU K p q = K.zero
   ·rw [if_pos h3,if_pos h3]
   ·rw [if_neg h3,if_neg h3]
    by_cases h4 : BE K p q = K.zero
    ·rw [if_pos h4,dE rfl];refine (dE ?_).symm;show K.mul (K.mul p.2.2 q.2.2) (BE K p q) = K.zero;rw [h4,K.mul_zero]
    ·rw [if_neg h4]
def sI (K : CR R) (p : Jc R) : Jc R:=(p.1,K.sub K.zero p.2.1,p.2.2)
theorem aHI (p : Jc R) : fT K inv (sI K p) = KR K (fT K inv p):=by
 by_cases h : p.2.2 = K.zero
 ·rw [dE h,dE (p:=sI K p) h]; rfl
 ·rw [dR h,dR (p:=sI K p) h];refine congrArg some (Prod.ext rfl ?_);show K.mul (K.sub K.zero p.2.1) _ = K.neg (K.mul p.2.1 _);rw [← K.neg_mul];congr 1;exact K.zero_add _
end
end Go.Proofs.YtglgakbkdjhojaaGreat.Ex
