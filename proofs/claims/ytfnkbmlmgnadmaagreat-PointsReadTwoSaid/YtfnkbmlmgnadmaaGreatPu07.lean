/- Pu07 -/
import Derived.Deep.RegionHeld3
import Derived.Deep.DeepCutAuto
import Derived.Laws.BitsAllLaws
import Derived.Laws.StructEq
import Derived.StillTail
import Derived.RegionTactic
import Derived.KernelRfl
import Derived.Test.YtfnkbmlmgnadmaaGreatPu06
import Derived.Test.YtfnkbmlmgnadmaaGreatPu04
import Derived.Test.YtfnkbmlmgnadmaaGreatPu05
import Derived.Test.YtfnkbmlmgnadmaaGreatPu00
import Derived.Test.YtfnkbmlmgnadmaaGreatPu03
import Derived.Test.YtfnkbmlmgnadmaaGreatPu02
set_option maxRecDepth 100000
set_option linter.unusedVariables false
set_option linter.unusedSimpArgs false
noncomputable section
namespace Go.Proofs.YtfnkbmlmgnadmaaGreat
open Go.Proofs.Tryz
open Go.RowKit
def aEe (P : Nat → Nat → Prop) (w : World) (e : Ending) (w' : World) : Prop :=
 ∃ s0 s1 s2 s3 c : Nat,e = .returned (.tuple #[.agg #[.int .u64 s0,.int .u64 s1,.int .u64 s2,.int .u64 s3],.int .i64 c]) ∧ aY s0 s1 s2 s3 ∧ P (aA s0 s1 s2 s3) c ∧ Below w.heap.size w w'
theorem Kv (a0 a1 a2 a3 : Nat) (w : World) : (Op.equalIn 10000 81 (.agg #[.int .u64 a0,.int .u64 a1,.int .u64 a2,.int .u64 a3]) (.agg #[.int .u64 0,.int .u64 0,.int .u64 0,.int .u64 0])).run prog w = .ok (CH a0 a1 a2 a3 0 0 0 0) w :=
 lU 9998 a0 a1 a2 a3 0 0 0 0 w
structure MR (w wr : World) (g9 g10 : Nat) (h0 h1 h2 h3 l0 l1 l2 l3 b0 b1 b2 b3 r0 r1 r2 r3 : Nat) : Prop where
 below : Below w.heap.size w wr
 lo : w.heap.size + 1 + 1 + 1 < g9
 mid : g9 < g10
 size : g10 < wr.heap.size
 rowH : Row4 wr w.heap.size h0 h1 h2 h3
 rowL : Row4 wr (w.heap.size + 1) l0 l1 l2 l3
 rowB : Row4 wr g9 b0 b1 b2 b3
 rowR : Row4 wr g10 r0 r1 r2 r3
 rowO : Row4 wr (w.heap.size + 1 + 1 + 1) 0 0 0 0
theorem MR.on {w wr w' : World} {g9 g10 : Nat} {h0 h1 h2 h3 l0 l1 l2 l3 b0 b1 b2 b3 r0 r1 r2 r3 : Nat} (m : MR w wr g9 g10 h0 h1 h2 h3 l0 l1 l2 l3 b0 b1 b2 b3 r0 r1 r2 r3) (hb : Below wr.heap.size wr w') : MR w w' g9 g10 h0 h1 h2 h3 l0 l1 l2 l3 b0 b1 b2 b3 r0 r1 r2 r3 :=
 ⟨m.below.trans (hb.mono m.below.size),m.lo,m.mid,Nat.lt_of_lt_of_le m.size hb.size,m.rowH.below hb (by have:=m.lo; have:=m.mid; have:=m.size; omega),m.rowL.below hb (by have:=m.lo; have:=m.mid; have:=m.size; omega),
  m.rowB.below hb (by have:=m.mid; have:=m.size; omega),m.rowR.below hb m.size,m.rowO.below hb (by have:=m.lo; have:=m.mid; have:=m.size; omega)⟩
theorem MR.drewN {w wr : World} {g9 g10 : Nat} {h0 h1 h2 h3 l0 l1 l2 l3 b0 b1 b2 b3 r0 r1 r2 r3 : Nat} (m : MR w wr g9 g10 h0 h1 h2 h3 l0 l1 l2 l3 b0 b1 b2 b3 r0 r1 r2 r3) (n : Nat) : MR w (wr.drewN n) g9 g10 h0 h1 h2 h3 l0 l1 l2 l3 b0 b1 b2 b3 r0 r1 r2 r3:=m.on (aJ _ _ n)
theorem MR.onDrew {w wr w' : World} {g9 g10 : Nat} {h0 h1 h2 h3 l0 l1 l2 l3 b0 b1 b2 b3 r0 r1 r2 r3 : Nat} (m : MR w wr g9 g10 h0 h1 h2 h3 l0 l1 l2 l3 b0 b1 b2 b3 r0 r1 r2 r3) (hb : Below wr.drew.heap.size wr.drew w') : MR w w' g9 g10 h0 h1 h2 h3 l0 l1 l2 l3 b0 b1 b2 b3 r0 r1 r2 r3:=(m.drewN 1).on hb
theorem MR.put {w wr : World} {g9 g10 : Nat} {h0 h1 h2 h3 l0 l1 l2 l3 b0 b1 b2 b3 r0 r1 r2 r3 : Nat} (m : MR w wr g9 g10 h0 h1 h2 h3 l0 l1 l2 l3 b0 b1 b2 b3 r0 r1 r2 r3) (s0 s1 s2 s3 : Nat) : MR w (set4 wr g10 s0 s1 s2 s3) g9 g10 h0 h1 h2 h3 l0 l1 l2 l3 b0 b1 b2 b3 s0 s1 s2 s3 :=
 ⟨aL m.below (by have:=m.lo; have:=m.mid; omega) _ _ _ _,m.lo,m.mid,by unfold set4; simp only [World.size_setCell]; exact m.size,m.rowH.set4_other (by have:=m.lo; have:=m.mid; omega) _ _ _ _,m.rowL.set4_other (by have:=m.lo; have:=m.mid; omega) _ _ _ _,
  m.rowB.set4_other (by have:=m.mid; omega) _ _ _ _,m.rowR.set4 _ _ _ _,m.rowO.set4_other (by have:=m.lo; have:=m.mid; omega) _ _ _ _⟩
set_option maxHeartbeats 4000000 in
theorem Tx (h0 h1 h2 h3 l0 l1 l2 l3 m0 m1 m2 m3 : Nat) (hh : aY h0 h1 h2 h3) (hl : aY l0 l1 l2 l3) (hm : aY m0 m1 m2 m3) (hpz : 0 < aA m0 m1 m2 m3) (w : World) :
  Calls prog 183 #[.agg #[.int .u64 h0,.int .u64 h1,.int .u64 h2,.int .u64 h3],.agg #[.int .u64 l0,.int .u64 l1,.int .u64 l2,.int .u64 l3],.agg #[.int .u64 m0,.int .u64 m1,.int .u64 m2,.int .u64 m3]] w (aEe (fun v c => v = (aA h0 h1 h2 h3 * 115792089237316195423570985008687907853269984665640564039457584007913129639936 + aA l0 l1 l2 l3) % aA m0 m1 m2 m3 ∧ c = 0) w):=by
 have hE:=fun w => Kv m0 m1 m2 m3 w
 have hG:=BF;have q : CH m0 m1 m2 m3 0 0 0 0 = false:=by
  have:=fC hm (show aY 0 0 0 0 from ⟨by omega,by omega,by omega,by omega⟩)
  rcases h : CH m0 m1 m2 m3 0 0 0 0 with _ | _
  ·rfl
  ·exact absurd (this.1 h) (by unfold aA at hpz ⊢; omega)
 rw [q] at hE;clear q
 go_enter func183,ntmps183
 go_wp2_with fail;refine (uN m0 m1 m2 m3 hm _).mono ?_
 rintro e w1 ⟨L,rfl,bL,lenL,hbl⟩
 obtain ⟨hpos,hb1,hb2⟩:=aCI bL lenL hpz;obtain ⟨S,eS⟩ : ∃ S,S = 256 - L:=⟨_,rfl⟩
 have wS : (256 : Int) - (L : Int) = (S : Int):=by omega
 have wL : (256 : Int) - (S : Int) = (L : Int):=by omega
 have bS : S ≤ 256:=by omega
 have H1:=(((Row4.new w h0 h1 h2 h3 81).alloc (by simp) _).alloc (by simp; omega) _).alloc (by simp; omega) _ |>.below hbl (by simp; omega)
 have L1:=(((Row4.new (w.alloc _) l0 l1 l2 l3 81).alloc (by simp) _).alloc (by simp) _).below hbl (by simp);have M1:=((Row4.new ((w.alloc _).alloc _) m0 m1 m2 m3 81).alloc (by simp) _).below hbl (by simp);have O1:=(Row4.new (((w.alloc _).alloc _).alloc _) 0 0 0 0 81).below hbl (by simp);simp only [World.size_alloc] at L1 M1 O1;have hz1 : w.heap.size + 1 + 1 + 1 < w1.heap.size:=by have:=hbl.size; simp at this; omega
 have B1:=(Yl w _ _ _ _).trans (hbl.mono (by simp; omega));have HeS:=Lib.hid eS; have Hb1:=Lib.hid hb1; have Hb2:=Lib.hid hb2; have HL:=Lib.hid lenL; have HB1:=Lib.hid B1;have HH1:=Lib.hid H1; have HL1:=Lib.hid L1; have HM1:=Lib.hid M1; have HO1:=Lib.hid O1;have y0 : w.heap.size < w1.heap.size:=by omega
 have y1 : w.heap.size + 1 < w1.heap.size:=by omega
 have y2 : w.heap.size + 1 + 1 < w1.heap.size:=by omega
 obtain ⟨m0',m1',m2',m3',mf⟩:=M1;clear hE hG eS hb1 hb2 lenL B1 H1 L1 O1 hbl;go_wp2_with fail;refine (tR m0 m1 m2 m3 S hm (by omega) (by omega) _).mono ?_
 rintro e w2 ⟨b0,b1,b2,b3,rfl,hb,vb,hbl⟩
 rw [Int.toNat_natCast] at vb;have H2:=HH1.out.below hbl y0;have L2:=HL1.out.below hbl y1;have O2:=HO1.out.below hbl hz1;have hz2 : w1.heap.size ≤ w2.heap.size:=hbl.size;have B2:=HB1.out.trans (hbl.mono HB1.out.size);have HH2:=Lib.hid H2; have HL2:=Lib.hid L2; have HO2:=Lib.hid O2; have HB2:=Lib.hid B2; have Hvb:=Lib.hid vb;have z0 : w.heap.size < w2.heap.size:=by omega
 have z1 : w.heap.size + 1 < w2.heap.size:=by omega
 have z3 : w.heap.size + 1 + 1 + 1 < w2.heap.size:=by omega
 obtain ⟨h0',h1',h2',h3',hf⟩:=H2;clear L2 O2 B2 vb hbl m0' m1' m2' m3' mf;go_wp2_with fail;refine (gL h0 h1 h2 h3 L hh (by omega) (by omega) _).mono ?_
 rintro e w3 ⟨r0,r1,r2,r3,rfl,hr,vr,hbl⟩
 rw [Int.toNat_natCast] at vr;clear h0' h1' h2' h3' hf;have MR1 : MR w (w3.alloc (.cells #[.int .u64 r0,.int .u64 r1,.int .u64 r2,.int .u64 r3] 81)) w2.heap.size w3.heap.size h0 h1 h2 h3 l0 l1 l2 l3 b0 b1 b2 b3 r0 r1 r2 r3:=by
  have hb':=hbl;have hz3:=hb'.size;rw [World.size_alloc] at hz3;have hall : ∀ {x : Nat} {c0 c1 c2 c3 : Nat},Row4 w2 x c0 c1 c2 c3 → x < w2.heap.size → Row4 (w3.alloc (.cells #[.int .u64 r0,.int .u64 r1,.int .u64 r2,.int .u64 r3] 81)) x c0 c1 c2 c3:=fun q hx =>
   ((q.alloc hx _).below hb' (by rw [World.size_alloc]; omega)).alloc (by omega) _
  refine ⟨((HB2.out.alloc (by omega) _).trans (hb'.mono (by rw [World.size_alloc]; omega))).alloc (by omega) _,z3,by omega,by simp,hall HH2.out z0,hall HL2.out z1,?_,Row4.new _ _ _ _ _ _,hall HO2.out z3⟩;exact ((Row4.new w2 b0 b1 b2 b3 81).below hb' (by simp)).alloc (by omega) _
 go_wp2_with fail;clear hbl;have Hvr:=Lib.hid vr;clear vr;generalize w3.alloc (.cells #[.int .u64 r0,.int .u64 r1,.int .u64 r2,.int .u64 r3] 81) = W at *;generalize w2.heap.size = g9 at *;generalize w3.heap.size = g10 at *;have M:=MR1;clear MR1;have wLL : IntKind.i64.wrap (L : Int) = (L : Int):=by simp [IntKind.wrap,IntKind.bits,IntKind.signed]; omega
 have HM:=Lib.hid M;have evb : aA b0 b1 b2 b3 = aA m0 m1 m2 m3 * 2 ^ S:=by rw [Hvb.out,HeS.out,Nat.mod_eq_of_lt Hb1.out]
 have hb3 : 9223372036854775808 ≤ b3:=aAj hb (by rw [evb,HeS.out]; exact Hb2.out);have hrb : aA r0 r1 r2 r3 < aA b0 b1 b2 b3:=by rw [evb,Hvr.out,HeS.out]; exact aBs bL hpz (bH hh)
 have Hevb:=Lib.hid evb;clear evb;clear M y0 y1 y2 z0 z1 z3 hz1 hz2 HH1 HL1 HM1 HO1 HB1 HH2 HL2 HO2 HB2;have g0 : ∀ k,W.cell? ⟨w.heap.size,k,none⟩ = W.cell? ⟨w.heap.size,k,none⟩:=fun _ => rfl
 clear g0;clear wS wL;have wL' : IntKind.i64.wrap (256 - (S : Int)) = (L : Int):=by have:=HeS.out; simp [IntKind.wrap,IntKind.bits,IntKind.signed]; omega
 go_wp2_with fail;refine bR (fun wx => MR w wx g9 g10 h0 h1 h2 h3 l0 l1 l2 l3 b0 b1 b2 b3 r0 r1 r2 r3) 11 (by kernel_rfl) ?_;have HS : (fun wx => MR w wx g9 g10 h0 h1 h2 h3 l0 l1 l2 l3 b0 b1 b2 b3 r0 r1 r2 r3) W.drew:=HM.out.drewN 1;refine aE (i:=0) (v:=.agg #[.int .u64 r0,.int .u64 r1,.int .u64 r2,.int .u64 r3]) rfl (by kernel_rfl) (by kernel_rfl) (by kernel_rfl) (by kernel_rfl) (fun _ _ _ h => h) HS (Or.inl ⟨by rfl,fun wx hx => ?_⟩) ?_
 ·obtain ⟨k0,k1,k2,k3,kf⟩:=MR.rowR hx;clear HS;go_simp
 simp only [Act.put,List.setIfInBounds_toArray,List.set_cons_zero,List.set_cons_succ];refine aE (i:=1) (v:=.agg #[.int .u64 h0,.int .u64 h1,.int .u64 h2,.int .u64 h3]) rfl (by kernel_rfl) (by kernel_rfl) (by kernel_rfl) (by kernel_rfl) (fun _ _ _ h => h) HS (Or.inl ⟨by rfl,fun wx hx => ?_⟩) ?_
 ·obtain ⟨k0,k1,k2,k3,kf⟩:=MR.rowH hx;clear HS;go_simp
 simp only [Act.put,List.setIfInBounds_toArray,List.set_cons_zero,List.set_cons_succ];refine aE (i:=2) (v:=.int .i64 (S : Nat)) rfl (by kernel_rfl) (by kernel_rfl) (by kernel_rfl) (by kernel_rfl) (fun _ _ _ h => h) HS (Or.inl ⟨by rfl,fun wx hx => ?_⟩) ?_
 ·clear hx HS;go_simp
 simp only [Act.put,List.setIfInBounds_toArray,List.set_cons_zero,List.set_cons_succ];refine aE (i:=4) (v:=.agg #[.int .u64 l0,.int .u64 l1,.int .u64 l2,.int .u64 l3]) rfl (by kernel_rfl) (by kernel_rfl) (by kernel_rfl) (by kernel_rfl) (fun _ _ _ h => h) HS (Or.inl ⟨by rfl,fun wx hx => ?_⟩) ?_
 ·obtain ⟨k0,k1,k2,k3,kf⟩:=MR.rowL hx;clear HS;go_simp
 simp only [Act.put,List.setIfInBounds_toArray,List.set_cons_zero,List.set_cons_succ];refine aE (i:=5) (v:=.int .i64 (S : Nat)) rfl (by kernel_rfl) (by kernel_rfl) (by kernel_rfl) (by kernel_rfl) (fun _ _ _ h => h) HS (Or.inl ⟨by rfl,fun wx hx => ?_⟩) ?_
 ·clear hx HS;go_simp
 simp only [Act.put,List.setIfInBounds_toArray,List.set_cons_zero,List.set_cons_succ];refine aE (i:=6) (v:=.int .i64 (L : Nat)) rfl (by kernel_rfl) (by kernel_rfl) (by kernel_rfl) (by kernel_rfl) (fun _ _ _ h => h) HS (Or.inl ⟨by rfl,fun wx hx => ?_⟩) ?_
 ·clear hx HS;go_simp
 simp only [Act.put,List.setIfInBounds_toArray,List.set_cons_zero,List.set_cons_succ];refine aE (i:=9) (v:=.agg #[.int .u64 b0,.int .u64 b1,.int .u64 b2,.int .u64 b3]) rfl (by kernel_rfl) (by kernel_rfl) (by kernel_rfl) (by kernel_rfl) (fun _ _ _ h => h) HS (Or.inl ⟨by rfl,fun wx hx => ?_⟩) ?_
 ·obtain ⟨k0,k1,k2,k3,kf⟩:=MR.rowB hx;clear HS;go_simp
 simp only [Act.put,List.setIfInBounds_toArray,List.set_cons_zero,List.set_cons_succ];clear HS;refine aF (i:=3) (by kernel_rfl) rfl (fun K hK => ?_);go_simp;refine (tR h0 h1 h2 h3 S hh (by omega) (by omega) _).mono ?_
 rintro e w4 ⟨x0,x1,x2,x3,rfl,hx,vx,hbl⟩
 rw [Int.toNat_natCast] at vx;have Hvx:=Lib.hid vx;clear vx;have M4:=HM.out.onDrew hbl;clear hbl;go_wp2_with fail;refine hK.out _ _ (Or.inr M4) (fun hHeld => ?_);clear hK K hHeld
 try simp only [Act.put,List.setIfInBounds_toArray,List.set_cons_zero,List.set_cons_succ]
 refine aF (i:=7) (by kernel_rfl) rfl (fun K hK => ?_);go_simp;refine (gL l0 l1 l2 l3 L hl (by omega) (by omega) _).mono ?_
 rintro e w5 ⟨y0,y1,y2,y3,rfl,hy,vy,hbl⟩
 rw [Int.toNat_natCast] at vy;have Hvy:=Lib.hid vy;clear vy;have M5:=M4.on hbl;clear hbl;go_wp2_with fail;refine hK.out _ _ (Or.inr M5) (fun hHeld => ?_);clear hK K hHeld
 try simp only [Act.put,List.setIfInBounds_toArray,List.set_cons_zero,List.set_cons_succ]
 refine aF (i:=8) (by kernel_rfl) rfl (fun K hK => ?_);go_simp;refine (JJ x0 x1 x2 x3 y0 y1 y2 y3 hx hy _).mono ?_
 rintro e w6 ⟨z0,z1,z2,z3,rfl,hz,vz,hbl⟩
 have Hvz:=Lib.hid vz;clear vz;have M6:=M5.on hbl;clear hbl;go_wp2_with fail;refine hK.out _ _ (Or.inr M6) (fun hHeld => ?_);clear hK K hHeld
 try simp only [Act.put,List.setIfInBounds_toArray,List.set_cons_zero,List.set_cons_succ]
 refine aF (i:=10) (by kernel_rfl) rfl (fun K hK => ?_);go_simp;refine (rE r0 r1 r2 r3 z0 z1 z2 z3 b0 b1 b2 b3 hr hz hb hb3 hrb _).mono ?_
 rintro e w7 ⟨n0,n1,n2,n3,rfl,hn,vn,hbl⟩
 have Hvn:=Lib.hid vn;clear vn;have M7:=M6.on hbl;clear hbl;go_wp2_with fail;refine hK.out _ _ (Or.inr M7) (fun hHeld => ?_);clear hK K hHeld
 try simp only [Act.put,List.setIfInBounds_toArray,List.set_cons_zero,List.set_cons_succ]
 obtain ⟨q0,q1,q2,q3,qf⟩:=M7.rowR;have M8:=M7.put n0 n1 n2 n3;refine aF (i:=11) (by kernel_rfl) rfl (fun K hK => ?_);have hsz:=M7.size;clear M4 M5 M6 M7;have HM8:=Lib.hid M8;clear M8;go_simp;refine hK.out _ _ (Or.inl rfl) (fun hHeld => ?_);clear hK K hHeld q0 q1 q2 q3 qf;refine bE (by kernel_rfl) ?_;have hnb : aA n0 n1 n2 n3 < aA b0 b1 b2 b3:=by rw [Hvn.out]; exact Nat.mod_lt _ (by omega)
 have HG:=HM8.out;unfold set4 at HG;generalize (((w7.setCell ⟨g10,0,none⟩ (.int .u64 (n0 : Nat))).setCell ⟨g10,1,none⟩ (.int .u64 (n1 : Nat))).setCell ⟨g10,2,none⟩ (.int .u64 (n2 : Nat))).setCell ⟨g10,3,none⟩ (.int .u64 (n3 : Nat)) = W2 at HG ⊢;have HM9:=Lib.hid HG;clear HG HM8 hrb;go_wp2_with fail;refine bR (fun wx => MR w wx g9 g10 h0 h1 h2 h3 l0 l1 l2 l3 b0 b1 b2 b3 n0 n1 n2 n3) 6 (by kernel_rfl) ?_;have HS : (fun wx => MR w wx g9 g10 h0 h1 h2 h3 l0 l1 l2 l3 b0 b1 b2 b3 n0 n1 n2 n3) W2.drew:=HM9.out.drewN 1;refine aE (i:=0) (v:=.agg #[.int .u64 n0,.int .u64 n1,.int .u64 n2,.int .u64 n3]) rfl (by kernel_rfl) (by kernel_rfl) (by kernel_rfl) (by kernel_rfl) (fun _ _ _ h => h) HS (Or.inl ⟨by rfl,fun wx hx => ?_⟩) ?_
 ·obtain ⟨k0,k1,k2,k3,kf⟩:=MR.rowR hx;clear HS;go_simp
 simp only [Act.put,List.setIfInBounds_toArray,List.set_cons_zero,List.set_cons_succ];refine aE (i:=1) (v:=.agg #[.int .u64 l0,.int .u64 l1,.int .u64 l2,.int .u64 l3]) rfl (by kernel_rfl) (by kernel_rfl) (by kernel_rfl) (by kernel_rfl) (fun _ _ _ h => h) HS (Or.inl ⟨by rfl,fun wx hx => ?_⟩) ?_
 ·obtain ⟨k0,k1,k2,k3,kf⟩:=MR.rowL hx;clear HS;go_simp
 simp only [Act.put,List.setIfInBounds_toArray,List.set_cons_zero,List.set_cons_succ];refine aE (i:=2) (v:=.int .i64 (S : Nat)) rfl (by kernel_rfl) (by kernel_rfl) (by kernel_rfl) (by kernel_rfl) (fun _ _ _ h => h) HS (Or.inl ⟨by rfl,fun wx hx => ?_⟩) ?_
 ·clear hx HS;go_simp
 simp only [Act.put,List.setIfInBounds_toArray,List.set_cons_zero,List.set_cons_succ];refine aE (i:=4) (v:=.agg #[.int .u64 b0,.int .u64 b1,.int .u64 b2,.int .u64 b3]) rfl (by kernel_rfl) (by kernel_rfl) (by kernel_rfl) (by kernel_rfl) (fun _ _ _ h => h) HS (Or.inl ⟨by rfl,fun wx hx => ?_⟩) ?_
 ·obtain ⟨k0,k1,k2,k3,kf⟩:=MR.rowB hx;clear HS;go_simp
 simp only [Act.put,List.setIfInBounds_toArray,List.set_cons_zero,List.set_cons_succ];clear HS;refine aF (i:=3) (by kernel_rfl) rfl (fun K hK => ?_);go_simp;refine (tR l0 l1 l2 l3 S hl (by omega) (by omega) _).mono ?_
 rintro e w8 ⟨u0,u1,u2,u3,rfl,hu,vu,hbl⟩
 rw [Int.toNat_natCast] at vu;have Hvu:=Lib.hid vu;clear vu;have M4:=HM9.out.onDrew hbl;clear hbl;go_wp2_with fail;refine hK.out _ _ (Or.inr M4) (fun hHeld => ?_);clear hK K hHeld
 try simp only [Act.put,List.setIfInBounds_toArray,List.set_cons_zero,List.set_cons_succ]
 refine aF (i:=5) (by kernel_rfl) rfl (fun K hK => ?_);go_simp;refine (rE n0 n1 n2 n3 u0 u1 u2 u3 b0 b1 b2 b3 hn hu hb hb3 hnb _).mono ?_
 rintro e w9 ⟨p0,p1,p2,p3,rfl,hp,vp,hbl⟩
 have Hvp:=Lib.hid vp;clear vp;have M7:=M4.on hbl;clear hbl;go_wp2_with fail;refine hK.out _ _ (Or.inr M7) (fun hHeld => ?_);clear hK K hHeld
 try simp only [Act.put,List.setIfInBounds_toArray,List.set_cons_zero,List.set_cons_succ]
 obtain ⟨q0,q1,q2,q3,qf⟩:=M7.rowR;have M8:=M7.put p0 p1 p2 p3;refine aF (i:=6) (by kernel_rfl) rfl (fun K hK => ?_);have hsz:=M7.size;clear M4 M7;have HM8:=Lib.hid M8;clear M8;go_simp;refine hK.out _ _ (Or.inl rfl) (fun hHeld => ?_);clear hK K hHeld q0 q1 q2 q3 qf;refine bE (by kernel_rfl) ?_;have HG:=HM8.out;unfold set4 at HG;generalize (((w9.setCell ⟨g10,0,none⟩ (.int .u64 (p0 : Nat))).setCell ⟨g10,1,none⟩ (.int .u64 (p1 : Nat))).setCell ⟨g10,2,none⟩ (.int .u64 (p2 : Nat))).setCell ⟨g10,3,none⟩ (.int .u64 (p3 : Nat)) = W3 at HG ⊢;have HM10:=Lib.hid HG;obtain ⟨q0,q1,q2,q3,qf⟩:=HG.rowR;clear HG HM8;go_wp2_with fail;refine (gL p0 p1 p2 p3 S hp (by omega) (by omega) _).mono ?_
 rintro e wz ⟨s0,s1,s2,s3,rfl,hs,vs,hbl⟩
 rw [Int.toNat_natCast] at vs;have HF : Hid (aA s0 s1 s2 s3 = (aA h0 h1 h2 h3 * 115792089237316195423570985008687907853269984665640564039457584007913129639936 + aA l0 l1 l2 l3) % aA m0 m1 m2 m3):=Lib.hid (by
  rw [vs,HeS.out];refine aCC (L:=L) (r1:=aA n0 n1 n2 n3) bL ?_ ?_
  ·rw [Hvn.out,Hvz.out,Hvx.out,Hvy.out,Hevb.out,Hvr.out,HeS.out,Ur bL (bH hl)]
  ·rw [Hvp.out,Hvu.out,Hevb.out,HeS.out])
 have M11:=HM10.out.on hbl;obtain ⟨o0,o1,o2,o3,of⟩:=M11.rowO;have HB:=Lib.hid M11.below;clear vs hbl M11 q0 q1 q2 q3 qf;go_wp2_with fail;refine bodyPost_ret (v:=.tuple #[.agg #[.int .u64 s0,.int .u64 s1,.int .u64 s2,.int .u64 s3],.int .i64 0]) (by simp [results,results183,go_sem, *]) rfl ?_;exact ⟨s0,s1,s2,s3,0,rfl,hs,⟨HF.out,rfl⟩,aL HB.out (by omega) _ _ _ _⟩
set_option maxHeartbeats 2000000 in
theorem YP (f : Int) (F : FC) (hf : FieldIs f F) (g0 g1 g2 g3 l0 l1 l2 l3 : Nat) (hg : aY g0 g1 g2 g3) (hl : aY l0 l1 l2 l3) (w : World) :
  Calls prog 163 #[.int .i64 f,.agg #[.int .u64 g0,.int .u64 g1,.int .u64 g2,.int .u64 g3],.agg #[.int .u64 l0,.int .u64 l1,.int .u64 l2,.int .u64 l3]] w (LM 0 ((aA g0 g1 g2 g3 * 115792089237316195423570985008687907853269984665640564039457584007913129639936 + aA l0 l1 l2 l3) % F.M) w):=by
 go_enter func163,ntmps163
 go_wp2_with fail;refine (cK f F hf _).mono ?_
 rintro e w1 ⟨rfl,hbl⟩
 have M1:=((((Mem.nil w).new (w.heap.size) g0 g1 g2 g3 81 (by simp)).new (w.heap.size + 1) l0 l1 l2 l3 81 (by simp)).new (w.heap.size + 1 + 1) 0 0 0 0 24 (by simp)).on hbl;clear hbl;have z0 : w.heap.size < w1.heap.size:=M1.lt (c0:=g0) (c1:=g1) (c2:=g2) (c3:=g3) (by simp);have z1 : w.heap.size + 1 < w1.heap.size:=M1.lt (c0:=l0) (c1:=l1) (c2:=l2) (c3:=l3) (by simp);have z2 : w.heap.size + 1 + 1 < w1.heap.size:=M1.lt (c0:=0) (c1:=0) (c2:=0) (c3:=0) (by simp);have HM:=Lib.hid (M1.on ((Below.refl _ _).alloc (Nat.le_refl _) (.cells #[.int .u64 F.m0,.int .u64 F.m1,.int .u64 F.m2,.int .u64 F.m3,.int .u64 F.inv,.int .u64 F.s0,.int .u64 F.s1,.int .u64 F.s2,.int .u64 F.s3] 129)));have KK:=Lib.hid (KIs.new w1 F 129);have kr:=M1.row (b:=w.heap.size) (c0:=g0) (c1:=g1) (c2:=g2) (c3:=g3) (by simp);have x0:=kr.c0; have x1:=kr.c1; have x2:=kr.c2; have x3:=kr.c3;clear kr;have xl:=M1.lt (b:=w.heap.size) (c0:=g0) (c1:=g1) (c2:=g2) (c3:=g3) (by simp);have kr:=M1.row (b:=w.heap.size + 1) (c0:=l0) (c1:=l1) (c2:=l2) (c3:=l3) (by simp);have u0:=kr.c0; have u1:=kr.c1; have u2:=kr.c2; have u3:=kr.c3;clear kr;have ul:=M1.lt (b:=w.heap.size + 1) (c0:=l0) (c1:=l1) (c2:=l2) (c3:=l3) (by simp);have k0:=KK.out.k0; have k1:=KK.out.k1; have k2:=KK.out.k2; have k3:=KK.out.k3;go_wp2_with fail;refine (Tx g0 g1 g2 g3 l0 l1 l2 l3 F.m0 F.m1 F.m2 F.m3 hg hl hf.ok.okm hf.ok.pos _).mono ?_
 rintro e w2 ⟨s0,s1,s2,s3,er,rfl,hs,⟨hv,rfl⟩,hbl⟩
 have HV:=Lib.hid hv;clear hv;have HM':=Lib.hid (HM.out.on hbl);have KK':=Lib.hid (KK.out.same hbl);have zk:=KK'.out.lt;clear HM KK hbl M1;have HM:=HM';have KK:=KK';clear HM' KK';clear zk k0 k1 k2 k3 x0 x1 x2 x3 xl u0 u1 u2 u3 ul;have wz : w.heap.size + 1 + 1 < w2.heap.size:=HM.out.lt (b:=w.heap.size + 1 + 1) (c0:=0) (c1:=0) (c2:=0) (c3:=0) (by simp);have kr:=HM.out.row (b:=w.heap.size + 1 + 1) (c0:=0) (c1:=0) (c2:=0) (c3:=0) (by simp);have y0:=kr.c0; have y1:=kr.c1; have y2:=kr.c2; have y3:=kr.c3; have yf:=kr.fr;clear kr;have yl:=HM.out.lt (b:=w.heap.size + 1 + 1) (c0:=0) (c1:=0) (c2:=0) (c3:=0) (by simp);go_wp2_with fail;refine bodyPost_ret (v:=.tuple #[.agg #[.int .u64 s0,.int .u64 s1,.int .u64 s2,.int .u64 s3],.int .i64 0]) (by simp [results,results163,go_sem, *]) rfl ?_;refine ⟨_,_,_,_,rfl,hs,HV.out,?_⟩
 repeat (first | exact HM.out.1 | refine Below.alloc ?_ (by first | (simp; done) | (simp; omega)) _ | refine Below.setCell ?_ (by first | (simp; done) | (simp; omega)) _)
theorem fT : FieldIs 1 FP:=Or.inl ⟨rfl,rfl⟩
def FwPost (x : Nat) (w : World) (e : Ending) (w' : World) : Prop:=e = .returned (.agg #[.int .u64 (fw x 0 : Nat),.int .u64 (fw x 1 : Nat),.int .u64 (fw x 2 : Nat),.int .u64 (fw x 3 : Nat)]) ∧ Below w.heap.size w w'
theorem FwPost.of {x : Nat} {w : World} {e : Ending} {w' : World} (hx : x < FP.M) (h : dE x w e w') : FwPost x w e w':=by
 obtain ⟨s0,s1,s2,s3,rfl,hs,hv,hb⟩:=h;obtain ⟨rfl,rfl,rfl,rfl⟩:=fB hs (gV hx) hv;exact ⟨rfl,hb⟩
set_option maxHeartbeats 4000000 in
theorem GB (a0 a1 a2 a3 b0 b1 b2 b3 : Nat) (ha : aY a0 a1 a2 a3) (hb : aY b0 b1 b2 b3) (la : aA a0 a1 a2 a3 < FP.M) (lb : aA b0 b1 b2 b3 < FP.M) (w : World) :
  Calls prog 139 #[.agg #[.int .u64 a0,.int .u64 a1,.int .u64 a2,.int .u64 a3],.agg #[.int .u64 b0,.int .u64 b1,.int .u64 b2,.int .u64 b3]] w (dE ((aA a0 a1 a2 a3 + aA b0 b1 b2 b3) % FP.M) w):=by
 go_enter func139,ntmps139
 go_wp2_with fail;have HM:=Lib.hid ((((Mem.nil w).new (w.heap.size) a0 a1 a2 a3 24 (by simp)).new (w.heap.size + 1) b0 b1 b2 b3 24 (by simp)).new (w.heap.size + 1 + 1) 0 0 0 0 24 (by simp));refine (Ea 1 FP fT a0 a1 a2 a3 b0 b1 b2 b3 ha hb la lb _).mono ?_
 rintro e w1 ⟨s0,s1,s2,s3,rfl,hs,hv,hbl⟩
 have HV:=Lib.hid hv;have HM':=Lib.hid (HM.out.on hbl);clear hv hbl;clear HM;have HM:=HM';clear HM';have kr:=HM.out.row (b:=w.heap.size + 1 + 1) (c0:=0) (c1:=0) (c2:=0) (c3:=0) (by simp);have y0:=kr.c0; have y1:=kr.c1; have y2:=kr.c2; have y3:=kr.c3; have yf:=kr.fr;clear kr;have yl:=HM.out.lt (b:=w.heap.size + 1 + 1) (c0:=0) (c1:=0) (c2:=0) (c3:=0) (by simp);have HB1:=Lib.hid HM.out.1;clear HM;go_wp2_with fail;refine bodyPost_ret (v:=.agg #[.int .u64 s0,.int .u64 s1,.int .u64 s2,.int .u64 s3]) (by simp [results,results139,go_sem, *]) rfl ?_;refine ⟨_,_,_,_,rfl,hs,HV.out,?_⟩;have hbx:=HB1.out;have hsz:=hbx.size
 repeat (first | exact hbx | refine Below.drew ?_ | refine Below.alloc ?_ (by first | exact hsz | (simp; done) | (simp; omega)) _ | refine Below.setCell ?_ (by first | (simp; done) | (simp; omega)) _)
theorem MC (x y : Nat) (hx : x < FP.M) (hy : y < FP.M) (w : World) : Calls prog 139 #[.agg #[.int .u64 (fw x 0 : Nat),.int .u64 (fw x 1 : Nat),.int .u64 (fw x 2 : Nat),.int .u64 (fw x 3 : Nat)],.agg #[.int .u64 (fw y 0 : Nat),.int .u64 (fw y 1 : Nat),.int .u64 (fw y 2 : Nat),.int .u64 (fw y 3 : Nat)]] w (FwPost ((x + y) % FP.M) w):=by
 refine (GB _ _ _ _ _ _ _ _ (bM x) (bM y) (by rw [bF hx]; exact hx) (by rw [bF hy]; exact hy) w).mono ?_;rw [bF hx,bF hy];exact fun e w' h => FwPost.of (Nat.mod_lt _ dC) h
set_option maxHeartbeats 4000000 in
theorem CL (a0 a1 a2 a3 b0 b1 b2 b3 : Nat) (ha : aY a0 a1 a2 a3) (hb : aY b0 b1 b2 b3) (la : aA a0 a1 a2 a3 < FP.M) (lb : aA b0 b1 b2 b3 < FP.M) (w : World) :
  Calls prog 140 #[.agg #[.int .u64 a0,.int .u64 a1,.int .u64 a2,.int .u64 a3],.agg #[.int .u64 b0,.int .u64 b1,.int .u64 b2,.int .u64 b3]] w (dE ((aA a0 a1 a2 a3 + FP.M - aA b0 b1 b2 b3) % FP.M) w):=by
 go_enter func140,ntmps140
 go_wp2_with fail;have HM:=Lib.hid ((((Mem.nil w).new (w.heap.size) a0 a1 a2 a3 24 (by simp)).new (w.heap.size + 1) b0 b1 b2 b3 24 (by simp)).new (w.heap.size + 1 + 1) 0 0 0 0 24 (by simp));refine (Dt 1 FP fT a0 a1 a2 a3 b0 b1 b2 b3 ha hb la lb _).mono ?_
 rintro e w1 ⟨s0,s1,s2,s3,rfl,hs,hv,hbl⟩
 have HV:=Lib.hid hv;have HM':=Lib.hid (HM.out.on hbl);clear hv hbl;clear HM;have HM:=HM';clear HM';have kr:=HM.out.row (b:=w.heap.size + 1 + 1) (c0:=0) (c1:=0) (c2:=0) (c3:=0) (by simp);have y0:=kr.c0; have y1:=kr.c1; have y2:=kr.c2; have y3:=kr.c3; have yf:=kr.fr;clear kr;have yl:=HM.out.lt (b:=w.heap.size + 1 + 1) (c0:=0) (c1:=0) (c2:=0) (c3:=0) (by simp);have HB1:=Lib.hid HM.out.1;clear HM;go_wp2_with fail;refine bodyPost_ret (v:=.agg #[.int .u64 s0,.int .u64 s1,.int .u64 s2,.int .u64 s3]) (by simp [results,results140,go_sem, *]) rfl ?_;refine ⟨_,_,_,_,rfl,hs,HV.out,?_⟩;have hbx:=HB1.out;have hsz:=hbx.size
 repeat (first | exact hbx | refine Below.drew ?_ | refine Below.alloc ?_ (by first | exact hsz | (simp; done) | (simp; omega)) _ | refine Below.setCell ?_ (by first | (simp; done) | (simp; omega)) _)
theorem GD (x y : Nat) (hx : x < FP.M) (hy : y < FP.M) (w : World) : Calls prog 140 #[.agg #[.int .u64 (fw x 0 : Nat),.int .u64 (fw x 1 : Nat),.int .u64 (fw x 2 : Nat),.int .u64 (fw x 3 : Nat)],.agg #[.int .u64 (fw y 0 : Nat),.int .u64 (fw y 1 : Nat),.int .u64 (fw y 2 : Nat),.int .u64 (fw y 3 : Nat)]] w (FwPost ((x + FP.M - y) % FP.M) w):=by
 refine (CL _ _ _ _ _ _ _ _ (bM x) (bM y) (by rw [bF hx]; exact hx) (by rw [bF hy]; exact hy) w).mono ?_;rw [bF hx,bF hy];exact fun e w' h => FwPost.of (Nat.mod_lt _ dC) h
set_option maxHeartbeats 4000000 in
theorem CK (a0 a1 a2 a3 b0 b1 b2 b3 : Nat) (ha : aY a0 a1 a2 a3) (hb : aY b0 b1 b2 b3) (la : aA a0 a1 a2 a3 < FP.M) (lb : aA b0 b1 b2 b3 < FP.M) (w : World) :
  Calls prog 138 #[.agg #[.int .u64 a0,.int .u64 a1,.int .u64 a2,.int .u64 a3],.agg #[.int .u64 b0,.int .u64 b1,.int .u64 b2,.int .u64 b3]] w (dE (aA a0 a1 a2 a3 * aA b0 b1 b2 b3 % FP.M) w):=by
 go_enter func138,ntmps138
 go_wp2_with fail;have HM:=Lib.hid ((((Mem.nil w).new (w.heap.size) a0 a1 a2 a3 24 (by simp)).new (w.heap.size + 1) b0 b1 b2 b3 24 (by simp)).new (w.heap.size + 1 + 1) 0 0 0 0 24 (by simp));refine (Dw 1 FP fT a0 a1 a2 a3 b0 b1 b2 b3 ha hb la lb _).mono ?_
 rintro e w1 ⟨s0,s1,s2,s3,rfl,hs,hv,hbl⟩
 have HV:=Lib.hid hv;have HM':=Lib.hid (HM.out.on hbl);clear hv hbl;clear HM;have HM:=HM';clear HM';have kr:=HM.out.row (b:=w.heap.size + 1 + 1) (c0:=0) (c1:=0) (c2:=0) (c3:=0) (by simp);have y0:=kr.c0; have y1:=kr.c1; have y2:=kr.c2; have y3:=kr.c3; have yf:=kr.fr;clear kr;have yl:=HM.out.lt (b:=w.heap.size + 1 + 1) (c0:=0) (c1:=0) (c2:=0) (c3:=0) (by simp);have HB1:=Lib.hid HM.out.1;clear HM;go_wp2_with fail;refine bodyPost_ret (v:=.agg #[.int .u64 s0,.int .u64 s1,.int .u64 s2,.int .u64 s3]) (by simp [results,results138,go_sem, *]) rfl ?_;refine ⟨_,_,_,_,rfl,hs,HV.out,?_⟩;have hbx:=HB1.out;have hsz:=hbx.size
 repeat (first | exact hbx | refine Below.drew ?_ | refine Below.alloc ?_ (by first | exact hsz | (simp; done) | (simp; omega)) _ | refine Below.setCell ?_ (by first | (simp; done) | (simp; omega)) _)
theorem FZ (x y : Nat) (hx : x < FP.M) (hy : y < FP.M) (w : World) : Calls prog 138 #[.agg #[.int .u64 (fw x 0 : Nat),.int .u64 (fw x 1 : Nat),.int .u64 (fw x 2 : Nat),.int .u64 (fw x 3 : Nat)],.agg #[.int .u64 (fw y 0 : Nat),.int .u64 (fw y 1 : Nat),.int .u64 (fw y 2 : Nat),.int .u64 (fw y 3 : Nat)]] w (FwPost (x * y % FP.M) w):=by
 refine (CK _ _ _ _ _ _ _ _ (bM x) (bM y) (by rw [bF hx]; exact hx) (by rw [bF hy]; exact hy) w).mono ?_;rw [bF hx,bF hy];exact fun e w' h => FwPost.of (Nat.mod_lt _ dC) h
set_option maxHeartbeats 4000000 in
theorem ME (a0 a1 a2 a3 : Nat) (ha : aY a0 a1 a2 a3) (la : aA a0 a1 a2 a3 < FP.M) (w : World) :
  Calls prog 135 #[.agg #[.int .u64 a0,.int .u64 a1,.int .u64 a2,.int .u64 a3]] w (dE ((0 + FP.M - aA a0 a1 a2 a3) % FP.M) w):=by
 go_enter func135,ntmps135
 go_wp2_with fail;have HM:=Lib.hid (((Mem.nil w).new (w.heap.size) a0 a1 a2 a3 24 (by simp)).new (w.heap.size + 1) 0 0 0 0 24 (by simp));refine (Dv 1 FP fT a0 a1 a2 a3 ha la _).mono ?_
 rintro e w1 ⟨s0,s1,s2,s3,rfl,hs,hv,hbl⟩
 have HV:=Lib.hid hv;have HM':=Lib.hid (HM.out.on hbl);clear hv hbl;clear HM;have HM:=HM';clear HM';have kr:=HM.out.row (b:=w.heap.size + 1) (c0:=0) (c1:=0) (c2:=0) (c3:=0) (by simp);have y0:=kr.c0; have y1:=kr.c1; have y2:=kr.c2; have y3:=kr.c3; have yf:=kr.fr;clear kr;have yl:=HM.out.lt (b:=w.heap.size + 1) (c0:=0) (c1:=0) (c2:=0) (c3:=0) (by simp);have kr:=HM.out.row (b:=w.heap.size) (c0:=a0) (c1:=a1) (c2:=a2) (c3:=a3) (by simp);have x0:=kr.c0; have x1:=kr.c1; have x2:=kr.c2; have x3:=kr.c3; have xf:=kr.fr;clear kr;have xl:=HM.out.lt (b:=w.heap.size) (c0:=a0) (c1:=a1) (c2:=a2) (c3:=a3) (by simp);go_wp2_with fail;refine bodyPost_ret (v:=.agg #[.int .u64 s0,.int .u64 s1,.int .u64 s2,.int .u64 s3]) (by simp [results,results135,go_sem, *]) rfl ?_;refine ⟨_,_,_,_,rfl,hs,HV.out,?_⟩;exact aL (aL HM.out.1 (Nat.le_refl _) _ _ _ _) (by omega) _ _ _ _
theorem TQ (x : Nat) (hx : x < FP.M) (w : World) : Calls prog 135 #[.agg #[.int .u64 (fw x 0 : Nat),.int .u64 (fw x 1 : Nat),.int .u64 (fw x 2 : Nat),.int .u64 (fw x 3 : Nat)]] w (FwPost ((0 + FP.M - x) % FP.M) w):=by
 refine (ME _ _ _ _ (bM x) (by rw [bF hx]; exact hx) w).mono ?_;rw [bF hx];exact fun e w' h => FwPost.of (Nat.mod_lt _ dC) h
set_option maxHeartbeats 4000000 in
theorem GA (a0 a1 a2 a3 : Nat) (ha : aY a0 a1 a2 a3) (w : World) :
  Calls prog 134 #[.agg #[.int .u64 a0,.int .u64 a1,.int .u64 a2,.int .u64 a3]] w (dE (aA a0 a1 a2 a3 % FP.M) w):=by
 go_enter func134,ntmps134
 go_wp2_with fail;have HM:=Lib.hid (((Mem.nil w).new (w.heap.size) a0 a1 a2 a3 24 (by simp)).new (w.heap.size + 1) 0 0 0 0 24 (by simp))
 by_cases la : aA a0 a1 a2 a3 < FP.M
 ·refine (ET 1 FP fT a0 a1 a2 a3 ha la _).mono ?_
  rintro e w1 ⟨rfl,hbl⟩
  have HL:=Lib.hid la;have HM':=Lib.hid (HM.out.on hbl);clear hbl la;clear HM;have HM:=HM';clear HM';have kr:=HM.out.row (b:=w.heap.size + 1) (c0:=0) (c1:=0) (c2:=0) (c3:=0) (by simp);have y0:=kr.c0; have y1:=kr.c1; have y2:=kr.c2; have y3:=kr.c3; have yf:=kr.fr;clear kr;have yl:=HM.out.lt (b:=w.heap.size + 1) (c0:=0) (c1:=0) (c2:=0) (c3:=0) (by simp);have kr:=HM.out.row (b:=w.heap.size) (c0:=a0) (c1:=a1) (c2:=a2) (c3:=a3) (by simp);have x0:=kr.c0; have x1:=kr.c1; have x2:=kr.c2; have x3:=kr.c3;clear kr;have xl:=HM.out.lt (b:=w.heap.size) (c0:=a0) (c1:=a1) (c2:=a2) (c3:=a3) (by simp);go_wp2_with fail;refine bodyPost_ret (v:=.agg #[.int .u64 a0,.int .u64 a1,.int .u64 a2,.int .u64 a3]) (by simp [results,results134,go_sem, *]) rfl ?_;refine ⟨_,_,_,_,rfl,ha,by rw [Nat.mod_eq_of_lt HL.out],?_⟩;exact aL HM.out.1 (by omega) _ _ _ _
 ·refine (BD 1 21 a0 a1 a2 a3 ha (Or.inr ⟨FP,fT,la,rfl⟩) _).mono ?_
  rintro e w1 ⟨rfl,hbl⟩
  have HM':=Lib.hid (HM.out.on hbl);clear hbl la;clear HM;have HM:=HM';clear HM';have kr:=HM.out.row (b:=w.heap.size) (c0:=a0) (c1:=a1) (c2:=a2) (c3:=a3) (by simp);have x0:=kr.c0; have x1:=kr.c1; have x2:=kr.c2; have x3:=kr.c3;clear kr;have xl:=HM.out.lt (b:=w.heap.size) (c0:=a0) (c1:=a1) (c2:=a2) (c3:=a3) (by simp);go_wp2_with fail;refine (YP 1 FP fT 0 0 0 0 a0 a1 a2 a3 vW ha _).mono ?_
  rintro e w2 ⟨s0,s1,s2,s3,rfl,hs,hv,hbl⟩
  have HV:=Lib.hid (show aA s0 s1 s2 s3 = aA a0 a1 a2 a3 % FP.M by rw [hv,show aA 0 0 0 0 = 0 from rfl,Nat.zero_mul,Nat.zero_add]);have HM':=Lib.hid (HM.out.on hbl);clear hv hbl x0 x1 x2 x3 xl;clear HM;have HM:=HM';clear HM';have kr:=HM.out.row (b:=w.heap.size + 1) (c0:=0) (c1:=0) (c2:=0) (c3:=0) (by simp);have y0:=kr.c0; have y1:=kr.c1; have y2:=kr.c2; have y3:=kr.c3; have yf:=kr.fr;clear kr;have yl:=HM.out.lt (b:=w.heap.size + 1) (c0:=0) (c1:=0) (c2:=0) (c3:=0) (by simp);have kr:=HM.out.row (b:=w.heap.size) (c0:=a0) (c1:=a1) (c2:=a2) (c3:=a3) (by simp);have x0:=kr.c0; have x1:=kr.c1; have x2:=kr.c2; have x3:=kr.c3; have xf:=kr.fr;clear kr;have xl:=HM.out.lt (b:=w.heap.size) (c0:=a0) (c1:=a1) (c2:=a2) (c3:=a3) (by simp);go_wp2_with fail;refine bodyPost_ret (v:=.agg #[.int .u64 s0,.int .u64 s1,.int .u64 s2,.int .u64 s3]) (by simp [results,results134,go_sem, *]) rfl ?_;refine ⟨_,_,_,_,rfl,hs,HV.out,?_⟩;exact aL (aL HM.out.1 (Nat.le_refl _) _ _ _ _) (by omega) _ _ _ _
theorem MB (a0 a1 a2 a3 : Nat) (ha : aY a0 a1 a2 a3) (w : World) : Calls prog 134 #[.agg #[.int .u64 a0,.int .u64 a1,.int .u64 a2,.int .u64 a3]] w (FwPost (aA a0 a1 a2 a3 % FP.M) w) :=
 (GA a0 a1 a2 a3 ha w).mono fun e w' h => FwPost.of (Nat.mod_lt _ dC) h
set_option maxHeartbeats 4000000 in
theorem vY (A B : Nat → Nat → Nat) (p q : Option Addr) (la ca cb : Nat) (h2 : la ≤ 65536) (ia : SP FP.M la A) (ib : SP FP.M la B) (w : World) (hA : FIs w p la A) (hB : FIs w q la B) :
  Calls prog 164 #[.slice p la ca,.slice q la cb] w (FwPost (sR FP.M (CI A) (CI B) la) w):=by
 have HA:=Lib.hid hA;have HB:=Lib.hid hB;have IA:=Lib.hid ia;have IB:=Lib.hid ib;clear hA hB ia ib
 suffices h : Calls prog 164 #[.slice p la ca,.slice q la cb] w (dE (sR FP.M (CI A) (CI B) la) w) from h.mono fun e w' h => FwPost.of (aDC dC _ _ _) h
 go_enter func164,ntmps164
 go_wp2_with fail;have HM:=Lib.hid ((Mem.nil w).new (w.heap.size) 0 0 0 0 24 (by simp));refine (aDu 1 FP fT p q la ca la cb A B rfl h2 IA.out IB.out _ (HA.out.on HM.out.1) (HB.out.on HM.out.1)).mono ?_
 rintro e w1 ⟨s0,s1,s2,s3,rfl,hs,hv,hbl⟩
 have HV:=Lib.hid hv;have HM':=Lib.hid (HM.out.on hbl);clear hv hbl;clear HM;have HM:=HM';clear HM';have kr:=HM.out.row (b:=w.heap.size) (c0:=0) (c1:=0) (c2:=0) (c3:=0) (by simp);have y0:=kr.c0; have y1:=kr.c1; have y2:=kr.c2; have y3:=kr.c3; have yf:=kr.fr;clear kr;have yl:=HM.out.lt (b:=w.heap.size) (c0:=0) (c1:=0) (c2:=0) (c3:=0) (by simp);have HB1:=Lib.hid HM.out.1;clear HM;go_wp2_with fail;refine bodyPost_ret (v:=.agg #[.int .u64 s0,.int .u64 s1,.int .u64 s2,.int .u64 s3]) (by simp [results,results164,go_sem, *]) rfl ?_;refine ⟨_,_,_,_,rfl,hs,HV.out,?_⟩;have hbx:=HB1.out;have hsz:=hbx.size
 repeat (first | exact hbx | refine Below.drew ?_ | refine Below.alloc ?_ (by first | exact hsz | (simp; done) | (simp; omega)) _ | refine Below.setCell ?_ (by first | (simp; done) | (simp; omega)) _)
end Go.Proofs.YtfnkbmlmgnadmaaGreat
namespace Go.Proofs.YtfnkbmlmgnadmaaGreat.Ex
open Go.Proofs.Tryz
open Go.RowKit
theorem EF {x : Nat} {f : FuncId} {args : List Value} {w : World} {y : Fq} (h : Calls prog f args.toArray w (FwPost x w)) (e : x = y.1) : Good prog f (.one (.fl (e1 y))) args w:=by
 subst e;exact h.mono fun e w' h => h
theorem tD {l : List At} {args : List Value} {w : World} (h : bK w [.v (.fl l)] args) : args = [.agg (aC l).toArray]:=by
 match args,h with
 | [v],h => rw [show v = _ from h.1]; rfl
 | [],h => exact h.elim
 | _ :: _ :: _,h => exact h.2.elim
theorem BS {l m : List At} {args : List Value} {w : World} (h : bK w [.v (.fl l),.v (.fl m)] args) : args = [.agg (aC l).toArray,.agg (aC m).toArray]:=by
 match args,h with
 | [v,u],h => rw [show v = _ from h.1,show u = _ from h.2.1]; rfl
 | [],h => exact h.elim
 | [_],h => exact h.2.elim
 | _ :: _ :: _ :: _,h => exact h.2.2.elim
theorem aJu (x y : Fq) (args : List Value) (w : World) (ha : bK w [.v (.fl (e1 x)),.v (.fl (e1 y))] args) : Good prog 139 (.one (.fl (e1 (F1.add x y)))) args w:=by
 rw [BS ha];exact EF (MC x.1 y.1 x.2 y.2 w) rfl
theorem aAp (x y : Fq) : (x.1 + FP.M - y.1) % FP.M = (F1.sub x y).1:=by
 show _ = (x.1 + (0 + FP.M - y.1) % FP.M) % FP.M;have:=y.2;rw [Nat.add_mod_mod];congr 1;omega
theorem aDU (x y : Fq) (args : List Value) (w : World) (ha : bK w [.v (.fl (e1 x)),.v (.fl (e1 y))] args) : Good prog 140 (.one (.fl (e1 (F1.sub x y)))) args w:=by
 rw [BS ha];exact EF (GD x.1 y.1 x.2 y.2 w) (aAp x y)
theorem aDT (x y : Fq) (args : List Value) (w : World) (ha : bK w [.v (.fl (e1 x)),.v (.fl (e1 y))] args) : Good prog 138 (.one (.fl (e1 (F1.mul x y)))) args w:=by
 rw [BS ha];exact EF (FZ x.1 y.1 x.2 y.2 w) rfl
theorem aMi (x : Fq) (args : List Value) (w : World) (ha : bK w [.v (.fl (e1 x))] args) : Good prog 135 (.one (.fl (e1 (F1.neg x)))) args w:=by
 rw [tD ha];exact EF (TQ x.1 x.2 w) rfl
theorem aJs (x : Nat) (args : List Value) (w : World) (ha : bK w [.v (.fl (q1 x))] args) : Good prog 134 (.one (.fl (e1 (m1 x)))) args w:=by
 rw [tD ha];exact EF (MB _ _ _ _ (bM x) w) rfl
theorem wV : ∀ {n : Nat} {l : List At} {x : List Fq},Jt n l = some x → x.length = n ∧ ∃ r,l = x.map .f ++ r
 | 0,l,x,h => by cases h; exact ⟨rfl,l,rfl⟩
 | n + 1,.f a :: r,x,h => by
  unfold Jt at h;split at h
  ·rename_i l hl;cases h;obtain ⟨h1,s,h2⟩:=wV hl;exact ⟨by rw [List.length_cons,h1],s,by rw [h2]; rfl⟩
  ·cases h
 | n + 1,[],x,h => by cases h
 | n + 1,.q _ :: _,x,h => by cases h
 | n + 1,.c _ :: _,x,h => by cases h
def lw (x : List Fq) (k i : Nat) : Nat:=fw ((x[k]?).getD F1.zero).1 i
theorem Wf : ∀ (x : List Fq) (k : Nat),k < x.length → ∀ i,i < 4 → (aC (x.map .f))[k * 4 + i]? = some (.int .u64 (lw x k i : Nat))
 | a :: r,0,_,i,hi => by
  show (w4 a.1 ++ aC (r.map .f))[0 * 4 + i]? = _;rw [List.getElem?_append_left (by show _ < 4; omega)]
  match i,hi with
  | 0,_ => rfl
  | 1,_ => rfl
  | 2,_ => rfl
  | 3,_ => rfl
 | a :: r,k + 1,h,i,hi => by
  show (w4 a.1 ++ aC (r.map .f))[(k + 1) * 4 + i]? = _;rw [List.getElem?_append_right (by show 4 ≤ _; omega),show (k + 1) * 4 + i - (w4 a.1).length = k * 4 + i by show _ - 4 = _; omega,Wf r k (by simpa using h) i hi];simp [lw]
theorem Ua {n : Nat} {l : List At} {x : List Fq} (h : Jt n l = some x) (h6 : n ≤ 6) {b o : Nat} {w : World} (hb : b < w.heap.size) (hr : w.rangeAt b o (aC l)) : FIs w (some ⟨b,o,none⟩) n (lw x):=by
 obtain ⟨h1,r,h2⟩:=wV h;refine ⟨by omega,fun k hk => bM _,fun _ => ⟨b,o,rfl,hb,fun k hk => ?_⟩⟩;have hc : ∀ i,i < 4 → w.cell? ⟨b,o + k * 4 + i,none⟩ = some (.int .u64 (lw x k i : Nat)):=fun i hi => by
  rw [Nat.add_assoc];refine hr (k * 4 + i) _ ?_;rw [h2,aI,List.getElem?_append_left (by
   rw [aX];have : ∀ x : List Fq,eI (x.map .f) = 4 * x.length:=fun x => by
    induction x with
    | nil => rfl
    | cons a r ih => show 4 + eI (r.map .f) = 4 * (r.length + 1); omega
   rw [this,h1]; omega)]
  exact Wf x k (by omega) i hi
 exact ⟨hc 0 (by omega),hc 1 (by omega),hc 2 (by omega),hc 3 (by omega)⟩
theorem Db (x : List Fq) (k : Nat) : CI (lw x) k = ((x[k]?).getD F1.zero).1:=bF (Fin.isLt _)
theorem SF : ∀ (x y : List Fq) (a : Fq) (X Y : Nat → Nat) (k : Nat),x.length = y.length → (∀ j,j < x.length → X (k + j) = ((x[j]?).getD F1.zero).1) → (∀ j,j < y.length → Y (k + j) = ((y[j]?).getD F1.zero).1) → a.1 = sR FP.M X Y k → (Kw a x y).1 = sR FP.M X Y (k + x.length)
 | [],[],a,X,Y,k,_,_,_,h => h
 | p :: x,q :: y,a,X,Y,k,hl,hX,hY,h => by
  have e : (F1.add a (F1.mul p q)).1 = sR FP.M X Y (k + 1):=by
   show (a.1 + p.1 * q.1 % FP.M) % FP.M = (sR FP.M X Y k + X k * Y k) % FP.M;rw [Nat.add_mod_mod,h];have h1:=hX 0 (by simp);have h2:=hY 0 (by simp);rw [Nat.add_zero] at h1 h2;rw [h1,h2];rfl
  have:=SF x y (F1.add a (F1.mul p q)) X Y (k + 1) (by simpa using hl) (fun j hj => by have:=hX (j + 1) (by simpa using hj); rw [show k + 1 + j = k + (j + 1) by omega,this]; simp)
   (fun j hj => by have:=hY (j + 1) (by simpa using hj); rw [show k + 1 + j = k + (j + 1) by omega,this]; simp) e
  rw [show k + (p :: x).length = k + 1 + x.length by simp; omega];exact this
 | [],_ :: _,_,_,_,_,h,_,_,_ => by cases h
 | _ :: _,[],_,_,_,_,h,_,_,_ => by cases h
theorem Xb (x y : List Fq) (hl : x.length = y.length) : (sS x y).1 = sR FP.M (CI (lw x)) (CI (lw y)) x.length:=by
 have h0 : (Kw F1.zero x y).1 = sR FP.M (CI (lw x)) (CI (lw y)) (0 + x.length):=SF x y F1.zero _ _ 0 hl (fun j _ => by rw [Nat.zero_add]; exact Db x j) (fun j _ => by rw [Nat.zero_add]; exact Db y j) rfl;rw [Nat.zero_add] at h0;rw [← h0];cases x with
 | nil => cases y <;> rfl
 | cons a r =>
  cases y with
  | nil => cases hl
  | cons b s =>
   show (Kw (F1.mul a b) r s).1 = (Kw (F1.add F1.zero (F1.mul a b)) r s).1;rw [F1.zero_add]
theorem aJt : ∀ cs pre r,Vm cs = some (pre,r) → aP pre → ∀ (args : List Value) (w : World),bK w cs args → Good prog 164 r args w:=by
 intro cs pre r hg hp args w ha;unfold Vm at hg;split at hg
 ·rename_i l n m l' n' m';cases hb : (Nat.beq n n' && Nat.ble n 6) <;> rw [hb] at hg
  ·cases hg
  ·simp only [cond_true] at hg;split at hg
   ·rename_i x y hx hy;cases hg;rw [Bool.and_eq_true] at hb;cases Nat.eq_of_beq_eq_true hb.1;have h6:=Nat.le_of_ble_eq_true hb.2
    match args,ha with
    | [v,u],ha =>
     obtain ⟨⟨b,o,rfl,h1,h2⟩,⟨b',o',rfl,h3,h4⟩,_⟩:=ha;have l1:=(wV hx).1;have l2:=(wV hy).1;refine EF (vY (lw x) (lw y) _ _ n m m' (by omega) (fun k hk => by rw [Db]; exact Fin.isLt _) (fun k hk => by rw [Db]; exact Fin.isLt _) w (Ua hx h6 h1 h2) (Ua hy h6 h3 h4)) ?_;rw [Xb x y (by omega),l1]
    | [],ha => exact ha.elim
    | [_],ha => exact ha.2.elim
    | _ :: _ :: _ :: _,ha => exact ha.2.2.elim
   ·cases hg
 ·cases hg
theorem aOk : ∀ cs pre r,gOf cs = some (pre,r) → aP pre → ∀ (args : List Value) (w : World),bK w cs args → Good prog 83 r args w:=by
 intro cs pre r hg hp args w ha;unfold gOf at hg;split at hg
 ·rename_i n;cases hb : Nat.blt n 18446744073709551616 <;> rw [hb] at hg
  ·cases hg
  ·cases hg;have hn : n < 18446744073709551616:=by simpa using hb
   match args,ha with
   | [v],ha =>
    rw [show v = _ from ha.1];refine (zZ n hn w).mono ?_
    rintro e w' ⟨rfl,hbl⟩
    refine ⟨?_,hbl⟩;have hM : n < FP.M:=Nat.lt_trans hn (by decide);obtain ⟨e0,e1',e2',e3'⟩:=fB (s0:=n) (s1:=0) (s2:=0) (s3:=0) ⟨hn,by omega,by omega,by omega⟩ (gV hM) (show aA n 0 0 0 = n by unfold aA; omega);show _ = Ending.returned (.agg (w4 (n % FP.M)).toArray);rw [Nat.mod_eq_of_lt hM];unfold w4;rw [← e0,← e1',← e2',← e3'];rfl
   | [],ha => exact ha.elim
   | _ :: _ :: _,ha => exact ha.2.elim
 ·cases hg
theorem aJv (x : Fq) (h : x ≠ F1.zero) (w : World) : Calls prog 137 #[.int .i64 1,.agg (aC (e1 x)).toArray] w (fun e w' => e = .returned (RV.many [.fl (e1 (dZ x)),.im (.int .i64 0)]).den ∧ Below w.heap.size w w'):=by
 have hz : x.1 ≠ 0:=fun e => h (Fin.ext e)
 refine (Dx 1 0 _ _ _ _ _ (fun W => Dz 1 FP fT 1 0 0 0 _ _ _ _ (by unfold aY; decide) (bM x.1) (by decide) (by rw [bF x.2]; exact x.2) (by rw [bF x.2]; exact hz) W) w).mono ?_
 rintro e w' ⟨s0,s1,s2,s3,rfl,hs,hv,hb⟩
 have hf:=sO x;rw [Nat.one_mul] at hf;rw [bF x.2,show aA 1 0 0 0 = 1 from rfl,Nat.one_mul,← hf] at hv;obtain ⟨rfl,rfl,rfl,rfl⟩:=fB hs (gV (dZ x).2) hv;exact ⟨rfl,hb⟩
theorem aJw (w : World) : Calls prog 137 #[.int .i64 1,.agg (aC (e1 F1.zero)).toArray] w (fun e w' => e = .returned (RV.many [.fl (e1 F1.zero),.im (.int .i64 22)]).den ∧ Below w.heap.size w w'):=by
 refine (Dx 1 22 0 _ _ _ _ (fun W => Wh 1 FP fT 1 0 0 0 _ _ _ _ (by unfold aY; decide) (bM 0) (by decide) (by rw [bF dC]; exact dC) (by rw [bF dC]) W) w).mono ?_
 rintro e w' ⟨s0,s1,s2,s3,rfl,hs,hv,hb⟩
 obtain ⟨rfl,rfl,rfl,rfl⟩:=fB hs (gV dC) hv;exact ⟨rfl,hb⟩
theorem aMj (c : Bool) : ∀ cs pre r,aId c cs = some (pre,r) → aP pre → ∀ (args : List Value) (w : World),bK w cs args → Good prog 137 r args w:=by
 intro cs pre r hg hp args w ha;unfold aId at hg;split at hg
 ·rename_i l;split at hg
  ·rename_i x hx
   match args,ha with
   | [v,u],ha =>
    have h1 : v = .int .i64 1:=ha.1;have h2 : u = .agg (aC l).toArray:=ha.2.1;rw [eP l x hx] at h2;subst h1; subst h2;cases c
    ·cases hg;have hz : x = F1.zero:=hp.1;subst hz;exact aJw w
    ·cases hg;exact aJv x hp.1 w
   | [],ha => exact ha.elim
   | [_],ha => exact ha.2.elim
   | _ :: _ :: _ :: _,ha => exact ha.2.2.elim
  ·cases hg
 ·cases hg
theorem aCq (c : Bool) : TabOk prog (FM c) :=
 ((((((((dB prog).ad func139 (iT eP eP fun x y _ args w ha => aJu x y args w ha)).ad func140 (iT eP eP fun x y _ args w ha => aDU x y args w ha)).add
  func138 (by kernel_rfl) (by kernel_rfl) (iT eP eP fun x y _ args w ha => aDT x y args w ha)).ad func135 (cN eP fun x _ args w ha => aMi x args w ha)).add
  func134 (by kernel_rfl) (by kernel_rfl) (cN dJ fun x _ args w ha => aJs x args w ha)).ad func164 aJt).ad func83 aOk).ad func137 (aMj c)
def b8 (n k : Nat) : At:=.c (.int .u8 (Int.ofNat (bC n k)))
def bl (n : Nat) : List At:=[b8 n 0,b8 n 1,b8 n 2,b8 n 3,b8 n 4,b8 n 5,b8 n 6,b8 n 7,b8 n 8,b8 n 9,b8 n 10,b8 n 11,b8 n 12,b8 n 13,b8 n 14,b8 n 15,b8 n 16,b8 n 17,b8 n 18,b8 n 19,b8 n 20,b8 n 21,b8 n 22,b8 n 23,b8 n 24,b8 n 25,b8 n 26,b8 n 27,b8 n 28,b8 n 29,b8 n 30,b8 n 31]
theorem aDP (n : Nat) : ∀ k,k < 32 → (aC (bl n))[k]? = some (.int .u8 (Int.ofNat (bC n k)))
 | 0,_ => by kernel_rfl
 | 1,_ => by kernel_rfl
 | 2,_ => by kernel_rfl
 | 3,_ => by kernel_rfl
 | 4,_ => by kernel_rfl
 | 5,_ => by kernel_rfl
 | 6,_ => by kernel_rfl
 | 7,_ => by kernel_rfl
 | 8,_ => by kernel_rfl
 | 9,_ => by kernel_rfl
 | 10,_ => by kernel_rfl
 | 11,_ => by kernel_rfl
 | 12,_ => by kernel_rfl
 | 13,_ => by kernel_rfl
 | 14,_ => by kernel_rfl
 | 15,_ => by kernel_rfl
 | 16,_ => by kernel_rfl
 | 17,_ => by kernel_rfl
 | 18,_ => by kernel_rfl
 | 19,_ => by kernel_rfl
 | 20,_ => by kernel_rfl
 | 21,_ => by kernel_rfl
 | 22,_ => by kernel_rfl
 | 23,_ => by kernel_rfl
 | 24,_ => by kernel_rfl
 | 25,_ => by kernel_rfl
 | 26,_ => by kernel_rfl
 | 27,_ => by kernel_rfl
 | 28,_ => by kernel_rfl
 | 29,_ => by kernel_rfl
 | 30,_ => by kernel_rfl
 | 31,_ => by kernel_rfl
 | k + 32,h => absurd h (by omega)
theorem aMf (n : Nat) : eI (bl n) = 32:=by kernel_rfl
theorem SM {w : World} {b n : Nat} (h : ∀ k,k < 32 → w.cell? ⟨b,k,none⟩ = some (.int .u8 (bC n k : Nat))) : w.rangeAt b 0 (aC (bl n)):=fun j v hj => by
 have hlt : j < 32:=by have:=(List.getElem?_eq_some_iff.1 hj).1; rwa [aX,aMf] at this
 rw [Nat.zero_add,h j hlt,← hj,aDP n j hlt];rfl
def gBy : List CA → Option (List Prop × FS)
 | [.v (.fl l)] => match vZ l with
  | some n => some ([],⟨bl (wv n),32,0,0,false,[],[]⟩)
  | none => none
 | _ => none
def aDe : List CA → Option (List Prop × FS)
 | [.v (.fl l)] => match vZ l with
  | some n => some ([],⟨bl (wv n),32,5,1,true,[],[]⟩)
  | none => none
 | _ => none
theorem aIm : ∀ cs pre r,gBy cs = some (pre,r) → aP pre → ∀ (args : List Value) (w : World),bK w cs args → Calls prog 49 args.toArray w (fun e w' => r.ok w e w'):=by
 intro cs pre r hg hp args w ha;unfold gBy at hg;split at hg
 ·rename_i l;split at hg
  ·rename_i n hn;cases hg;rw [tD ha,dJ l _ hn];refine (KC _ _ _ _ (bM n) w).mono ?_
   rintro e w' ⟨b,rfl,h1,h2,h3,h4,h5⟩
   exact ⟨b,32,rfl,h4,h1,h2,SM fun k hk => (h3 k hk).1,h5,fun h => by cases h⟩
  ·cases hg
 ·cases hg
theorem aDd : ∀ cs pre r,aDe cs = some (pre,r) → aP pre → ∀ (args : List Value) (w : World),bK w cs args → Calls prog 86 args.toArray w (fun e w' => r.ok w e w'):=by
 intro cs pre r hg hp args w ha;unfold aDe at hg;split at hg
 ·rename_i l;split at hg
  ·rename_i n hn;cases hg;rw [tD ha,dJ l _ hn];refine (wB _ _ _ _ (bM n) w).mono ?_
   rintro e w' ⟨b,cap,rfl,h1,h2,h3,h4,h5,h6⟩
   exact ⟨b,cap,rfl,h4,h1,h2,SM h3,h5,fun _ => h6⟩
  ·cases hg
 ·cases hg
def B3 : Tab3:=(TE.add 49 gBy).add 86 aDe
theorem aFC : FsOk prog B3:=((gX _).ad func49 aIm).ad func86 aDd
def x3 (T : Tab3) (T4 : Tab4) (gen : Nat → Option Value) (mks : Nat → Option (Nat × List At)) : Ext:={ Ext.none with T3:=T,T4:=T4,gen:=gen,mks:=mks }
theorem kQ {T : Tab3} {T4 : Tab4} {gen : Nat → Option Value} {mks : Nat → Option (Nat × List At)} (h : FsOk prog T) (h4 : WrOk prog T4) (w : World) : cH prog (qY prog (x3 T T4 gen mks)) w.heap.size w:=aKR (oN _) (fun _ _ _ h => h.elim) h h4
def pC (op : BinOp) (t : Nat) (x y : Operand) (v u r : Value) : Prop:=∀ w : World,(do eqGuard op t x y v u; binOp op t v u : Sem Value).run prog w = .ok r w
theorem ZE {t : Nat} {x y : Operand} {a b : Nat} (ha : a < 256) (hb : b < 256) : pC .or t x y (.int .u8 (Int.ofNat a)) (.int .u8 (Int.ofNat b)) (.int .u8 (Int.ofNat (a ||| b))):=fun w => by
 have h:=u8_or_nat a b ha hb;simp only [Int.ofNat_eq_natCast];exact congrArg (fun z => Result.ok (Value.int .u8 z) w) h
theorem aDQ {t : Nat} {x y : Operand} {a b : Nat} (ha : a < 256) (hb : b < 256) : pC .and t x y (.int .u8 (Int.ofNat a)) (.int .u8 (Int.ofNat b)) (.int .u8 (Int.ofNat (a &&& b))):=fun w => by
 have h:=u8_and_nat a b ha hb;simp only [Int.ofNat_eq_natCast];exact congrArg (fun z => Result.ok (Value.int .u8 z) w) h
theorem tA {t : Nat} {x y : Operand} {a : Nat} (ha : a < 256) : pC .shr t x y (.int .u8 (Int.ofNat a)) (.int .u64 6) (.int .u8 (Int.ofNat (a / 64))):=fun w => by
 simp only [Int.ofNat_eq_natCast];simp [eqGuard,binOp,go_sem]
theorem BQ {t : Nat} {x y : Operand} {a : Nat} (ha : a < 4) : pC .shl t x y (.int .u8 (Int.ofNat a)) (.int .u64 6) (.int .u8 (Int.ofNat (64 * a))):=fun w => by
 match a,ha with
 | 0,_ => rfl
 | 1,_ => rfl
 | 2,_ => rfl
 | 3,_ => rfl
 | a + 4,h => exact absurd h (by omega)
set_option maxHeartbeats 1000000 in
theorem Nd (b1 o1 c1 b2 o2 c2 n : Nat) (hn : n < 4611686018427387904) (P : Nat → Int) (w : World) (h1 : ∀ k,k < n → w.cell? ⟨b1,o1 + k,none⟩ = some (.int .u8 (P k))) (h2 : ∀ k,k < n → w.cell? ⟨b2,o2 + k,none⟩ = some (.int .u8 (P k))) :
  Calls prog 13 #[.slice (some ⟨b1,o1,none⟩) n c1,.slice (some ⟨b2,o2,none⟩) n c2] w fun e w' => e = .returned (.bool true) ∧ Below w.heap.size w w':=by
 have H1:=Lib.hid h1;have H2:=Lib.hid h2;clear h1 h2;have tn : ((n : Int) != (n : Int)) = false:=by simp
 go_enter func13,ntmps13
 go_wp2_with fail
 go_loopw [5] (fun x wr => ∃ k m : Nat,k ≤ n ∧ x = .int .i64 k ∧ wr = w.drewN m) (fun x _ => n - (intOf x).toNat)
 case atStart => exact ⟨0,0,by omega,rfl,rfl⟩
 case round =>
  obtain ⟨k,m,hk,rfl,rfl⟩:=hrel
  by_cases hlt : k < n
  ·have e1 : (w.drewN m).cell? ⟨b1,o1 + k,none⟩ = _:=H1.out k hlt;have e2 : (w.drewN m).cell? ⟨b2,o2 + k,none⟩ = _:=H2.out k hlt;have e3:=H1.out k hlt;have e4:=H2.out k hlt;have t1 : decide ((k : Int) < (n : Int)) = true:=decide_eq_true (by omega);generalize P k = p at *;go_wp2_with fail
   go_quiet (fail)
   go_wp2_with fail
   go_roundw
   case rel => exact ⟨k + 1,_,by omega,by go_num,rfl⟩
   case measure => first | (simp [intOf]; done) | (simp [intOf]; omega)
  ·obtain rfl : k = n:=by omega
   have t1 : decide ((k : Int) < (k : Int)) = false:=decide_eq_false (by omega);go_wp2_with fail;go_ret;exact ⟨rfl,aJ _ _ _⟩
def U8s (l : List At) (n : Nat) (P : Nat → Int) : Prop:=∀ k,k < n → (aC l)[k]? = some (.int .u8 (P k))
def RD : CA → Option (List At × Nat)
 | .s l n _ => some (l,n)
 | .so l n => some (l,n)
 | _ => none
theorem JD {c : CA} {l : List At} {n : Nat} (h : RD c = some (l,n)) {w : World} {v : Value} (hc : c.ok w v) : ∃ b o m,v = .slice (some ⟨b,o,none⟩) n m ∧ w.rangeAt b o (aC l):=by
 cases c with
 | v x => cases h
 | s l' n' m =>
  cases h;obtain ⟨b,o,e,_,hr⟩:=hc;exact ⟨b,o,m,e,hr⟩
 | so l' n' =>
  cases h;obtain ⟨b,o,m,e,_,hr⟩:=hc;exact ⟨b,o,m,e,hr⟩
def Vk : fQ
 | [c,d] => match RD c,RD d with
  | some (l,n),some (l',n') => some ([n' = n,n < 4611686018427387904,∃ P,U8s l n P ∧ U8s l' n P],.one (.im (.bool true)))
  | _,_ => none
 | _ => none
theorem Vj : ∀ cs pre r,Vk cs = some (pre,r) → aP pre → ∀ (args : List Value) (w : World),bK w cs args → Good prog 13 r args w:=by
 intro cs pre r hg hp args w ha;unfold Vk at hg;split at hg
 ·rename_i c d;split at hg
  ·rename_i l n l' n' h1 h2;cases hg;obtain ⟨rfl,hn,⟨P,hl,hl'⟩,_⟩:=hp
   match args,ha with
   | [u,v],ha =>
    obtain ⟨b1,o1,m1,rfl,r1⟩:=JD h1 (by have:=ha; cases c <;> exact this.1);obtain ⟨b2,o2,m2,rfl,r2⟩:=JD h2 (by have:=ha; cases c <;> cases d <;> exact this.2.1);exact Nd b1 o1 m1 b2 o2 m2 _ hn P w (fun k hk => r1 k _ (hl k hk)) (fun k hk => r2 k _ (hl' k hk))
   | [],ha => cases c <;> exact ha.elim
   | [_],ha => cases c <;> cases d <;> exact ha.2.elim
   | _ :: _ :: _ :: _,ha => cases c <;> cases d <;> exact ha.2.2.elim
  ·cases hg
 ·cases hg
theorem Holds.now {nt base : Nat} {w0 : World} {A : List Fact} {a : Act} {w : World} (h : Holds nt base w0 A a w) : Holds nt base w A a w:=⟨h.defers,h.size,Below.refl _ _,h.heap,h.facts⟩
theorem WrAt.refl (w : World) (b : Nat) : WrAt w w b []:=⟨rfl,rfl,rfl,Nat.le_refl _,fun _ _ _ => rfl,Shape.refl _,fun _ => rfl⟩
theorem WrAt.below {w w1 w2 : World} {b : Nat} (hb : b < w.heap.size) (h : WrAt w w1 b []) (h2 : Below w.heap.size w1 w2) : WrAt w w2 b [] :=
 ⟨h2.os.trans h.os,h2.tape.trans h.tape,h2.output.trans h.output,Nat.le_trans h.size h2.size,fun k hk hne => (h2.block k hk).trans (h.block k hk hne),
  fun q cur e hq => by
   obtain ⟨c,h3,h4⟩:=h.shape q cur e hq;exact ⟨c,(h2.block q (Array.getElem?_eq_some_iff.1 hq).1).trans h3,h4⟩,fun j => (World.frozen?_of_block (h2.block b hb)).trans (h.frozen j)⟩
theorem nH (b : Nat) : ∀ (vs : List Value) (o : Nat) (w : World) (k : Nat),k ≠ b → (w.setCells b o vs).heap[k]? = w.heap[k]?
 | [],_,_,_,_ => rfl
 | v :: r,o,w,k,h => by
  rw [World.setCells,nH b r (o + 1) _ k h];exact Below.heap_setCell w _ v k h
theorem kS (b : Nat) : ∀ (vs : List Value) (o : Nat) (w : World),(w.setCells b o vs).os = w.os ∧ (w.setCells b o vs).tape = w.tape ∧ (w.setCells b o vs).output = w.output
 | [],_,_ => ⟨rfl,rfl,rfl⟩
 | v :: r,o,w => by rw [World.setCells]; exact kS b r (o + 1) _
theorem WrAt.set {w w1 : World} {b : Nat} (h : WrAt w w1 b []) (o : Nat) (vs : List Value) : WrAt w (w1.setCells b o vs) b [] :=
 ⟨(kS b vs o w1).1.trans h.os,(kS b vs o w1).2.1.trans h.tape,(kS b vs o w1).2.2.trans h.output,by rw [iG]; exact h.size,fun k hk hne => (nH b vs o w1 k hne).trans (h.block k hk hne),
  fun q cur e hq => by
   obtain ⟨c,h3,h4⟩:=h.shape q cur e hq;obtain ⟨c2,h5,h6⟩:=jV b vs o w1 q c e h3;exact ⟨c2,h5,h6.trans h4⟩,fun j => by rw [World.frozen?_setCells]; exact h.frozen j⟩
def hb (n m : Nat) : At:=.c (.int .u8 (Int.ofNat (bC n 0 ||| 64 * m)))
def bm (n m : Nat) : List At:=[hb n m,b8 n 1,b8 n 2,b8 n 3,b8 n 4,b8 n 5,b8 n 6,b8 n 7,b8 n 8,b8 n 9,b8 n 10,b8 n 11,b8 n 12,b8 n 13,b8 n 14,b8 n 15,b8 n 16,b8 n 17,b8 n 18,b8 n 19,b8 n 20,b8 n 21,b8 n 22,b8 n 23,b8 n 24,b8 n 25,b8 n 26,b8 n 27,b8 n 28,b8 n 29,b8 n 30,b8 n 31]
def TD : Nat → Cfg:=fun _ => ⟨fun _ => T0,fun _ => true,fun _ => none⟩
theorem Hn (x m c : Nat) : iD prog (qY prog (x3 B3 KL (assoc [(23,.int .u8 (Int.ofNat (64 * m))),(24,.int .u8 (Int.ofNat (bC (wv x) 0 ||| 64 * m)))]) (fun _ => none))) TD f21 60 [.v (.im (.int .u8 (Int.ofNat m))),.s [.q x] 1 c] = some ([pC .shl 5 (.tmp 22) (.const (.int .u64 6)) (.int .u8 (Int.ofNat m)) (.int .u64 6) (.int .u8 (Int.ofNat (64 * m))),pC .or 5 (.tmp 21) (.tmp 23) (.int .u8 (Int.ofNat (bC (wv x) 0))) (.int .u8 (Int.ofNat (64 * m))) (.int .u8 (Int.ofNat (bC (wv x) 0 ||| 64 * m)))],⟨bm (wv x) m,32,5,1,true,[],[]⟩):=by kernel_rfl
theorem Hm (x y m c : Nat) : iD prog (qY prog (x3 B3 KL (assoc [(23,.int .u8 (Int.ofNat (64 * m))),(24,.int .u8 (Int.ofNat (bC (wv x) 0 ||| 64 * m)))]) (fun _ => none))) TD f21 60 [.v (.im (.int .u8 (Int.ofNat m))),.s [.q x,.q y] 2 c] = some ([pC .shl 5 (.tmp 22) (.const (.int .u64 6)) (.int .u8 (Int.ofNat m)) (.int .u64 6) (.int .u8 (Int.ofNat (64 * m))),pC .or 5 (.tmp 21) (.tmp 23) (.int .u8 (Int.ofNat (bC (wv x) 0))) (.int .u8 (Int.ofNat (64 * m))) (.int .u8 (Int.ofNat (bC (wv x) 0 ||| 64 * m)))],⟨bm (wv x) m ++ bl (wv y),64,5,1,true,[],[]⟩):=by kernel_rfl
theorem Hl (x y z t m c : Nat) : iD prog (qY prog (x3 B3 KL (assoc [(23,.int .u8 (Int.ofNat (64 * m))),(24,.int .u8 (Int.ofNat (bC (wv x) 0 ||| 64 * m)))]) (fun _ => none))) TD f21 80 [.v (.im (.int .u8 (Int.ofNat m))),.s [.q x,.q y,.q z,.q t] 4 c] = some ([pC .shl 5 (.tmp 22) (.const (.int .u64 6)) (.int .u8 (Int.ofNat m)) (.int .u64 6) (.int .u8 (Int.ofNat (64 * m))),pC .or 5 (.tmp 21) (.tmp 23) (.int .u8 (Int.ofNat (bC (wv x) 0))) (.int .u8 (Int.ofNat (64 * m))) (.int .u8 (Int.ofNat (bC (wv x) 0 ||| 64 * m)))],⟨((bm (wv x) m ++ bl (wv y)) ++ bl (wv z)) ++ bl (wv t),128,5,1,true,[],[]⟩):=by kernel_rfl
def Vt : List CA → Option (List Prop × FS)
 | [.v (.im (.int .u8 (.ofNat m))),.s [a] 1 c] => match pG a with
  | some x => some ([m < 4],⟨bm (wv x) m,32,5,1,true,[],[]⟩)
  | none => none
 | [.v (.im (.int .u8 (.ofNat m))),.s [a,b] 2 c] => match pG a,pG b with
  | some x,some y => some ([m < 4],⟨bm (wv x) m ++ bl (wv y),64,5,1,true,[],[]⟩)
  | _,_ => none
 | [.v (.im (.int .u8 (.ofNat m))),.s [a,b,d,e] 4 c] => match pG a,pG b,pG d,pG e with
  | some x,some y,some z,some t => some ([m < 4],⟨((bm (wv x) m ++ bl (wv y)) ++ bl (wv z)) ++ bl (wv t),128,5,1,true,[],[]⟩)
  | _,_,_,_ => none
 | _ => none
theorem aJd {w : World} {v : TV} {l l' : List At} {n c : Nat} (h : aC l = aC l') {args : List Value} (ha : bK w [.v v,.s l n c] args) : bK w [.v v,.s l' n c] args:=by
 match args,ha with
 | [u,s],ha => exact ⟨ha.1,by obtain ⟨b,o,e,hb,hr⟩:=ha.2.1; exact ⟨b,o,e,hb,by rw [← h]; exact hr⟩,trivial⟩
 | [],ha => exact ha.elim
 | [_],ha => exact ha.2.elim
 | _ :: _ :: _ :: _,ha => exact ha.2.2.elim
theorem gG {a : At} {x : Nat} (h : pG a = some x) : a.cells = (At.q x).cells:=by cases a <;> cases h <;> rfl
theorem KD (n k : Nat) : bC n k < 256:=uW _ _
theorem Vs : ∀ cs pre r,Vt cs = some (pre,r) → aP pre → ∀ (args : List Value) (w : World),bK w cs args → Calls prog 21 args.toArray w (fun e w' => r.ok w e w'):=by
 intro cs pre r hg hp args w ha;have hq:=fun (g : Nat → Option Value) => kQ (gen:=g) (mks:=fun _ => none) aFC (gJ _) w
 have hT : ∀ n d : Nat,TabOkW prog ((TD n).T d) w.heap.size w:=fun _ _ => (dB _).w _ _
 unfold Vt at hg;split at hg
 ·rename_i m a c;split at hg
  ·rename_i x hx;cases hg;exact bJ aG hT (hq _) func21 (Hn x m c) ⟨BQ hp.1,ZE (KD _ _) (by have:=hp.1; omega),trivial⟩ (aJd (by simp [aC,gG hx]) ha)
  ·cases hg
 ·rename_i m a b c;split at hg
  ·rename_i x y hx hy;cases hg;exact bJ aG hT (hq _) func21 (Hm x y m c) ⟨BQ hp.1,ZE (KD _ _) (by have:=hp.1; omega),trivial⟩ (aJd (by simp [aC,gG hx,gG hy]) ha)
  ·cases hg
 ·rename_i m a b d e c;split at hg
  ·rename_i x y z t hx hy hz ht;cases hg;exact bJ aG hT (hq _) func21 (Hl x y z t m c) ⟨BQ hp.1,ZE (KD _ _) (by have:=hp.1; omega),trivial⟩ (aJd (by simp [aC,gG hx,gG hy,gG hz,gG ht]) ha)
  ·cases hg
 ·cases hg
def L3 : Tab3:=B3.add 21 Vt
theorem aMC : FsOk prog L3:=aFC.ad func21 Vs
theorem xE {a b : Nat} (ha : a < 256) (hb : b < 256) : bits .or .u8 (a : Int) (b : Int) = ((a ||| b : Nat) : Int):=u8_or_nat a b ha hb
set_option maxHeartbeats 1000000 in
theorem DC (b o n c a m : Nat) (hn : 0 < n) (ha : a < 256) (hm : m < 4) (w : World) (h : w.cell? ⟨b,o,none⟩ = some (.int .u8 (Int.ofNat a))) (hf : w.frozen? ⟨b,o,none⟩ = false) :
  Calls prog 26 #[.slice (some ⟨b,o,none⟩) n c,.int .u8 (Int.ofNat m)] w fun e w' => e = .returned (.slice (some ⟨b,o,none⟩) n c) ∧ w' = w.setCell ⟨b,o,none⟩ (.int .u8 (Int.ofNat (a ||| 64 * m))):=by
 have h' : w.cell? ⟨b,o,none⟩ = some (.int .u8 (a : Int)):=h;clear h;have e0 : bits .or .u8 (a : Int) 0 = ((a ||| 64 * 0 : Nat) : Int):=xE (b:=0) ha (by omega);have e1 : bits .or .u8 (a : Int) 64 = ((a ||| 64 * 1 : Nat) : Int):=xE (b:=64) ha (by omega);have e2 : bits .or .u8 (a : Int) 128 = ((a ||| 64 * 2 : Nat) : Int):=xE (b:=128) ha (by omega);have e3 : bits .or .u8 (a : Int) 192 = ((a ||| 64 * 3 : Nat) : Int):=xE (b:=192) ha (by omega);obtain ⟨r,hr⟩ : ∃ r : Nat,r = a ||| 64 * m:=⟨_,rfl⟩
 rw [← hr];have key : m = 0 ∨ m = 1 ∨ m = 2 ∨ m = 3:=by omega
 rcases key with rfl | rfl | rfl | rfl
 ·rw [← hr] at e0;clear e1 e2 e3 hr
  go_enter func26,ntmps26
  go_wp2_with fail;go_ret;exact ⟨rfl,rfl⟩
 ·rw [← hr] at e1;clear e0 e2 e3 hr
  go_enter func26,ntmps26
  go_wp2_with fail;go_ret;exact ⟨rfl,rfl⟩
 ·rw [← hr] at e2;clear e0 e1 e3 hr
  go_enter func26,ntmps26
  go_wp2_with fail;go_ret;exact ⟨rfl,rfl⟩
 ·rw [← hr] at e3;clear e0 e1 e2 hr
  go_enter func26,ntmps26
  go_wp2_with fail;go_ret;exact ⟨rfl,rfl⟩
def aFe (m : Nat) : List At → Option (List Prop × List At)
 | .c (.int .u8 (.ofNat a)) :: r => some ([a < 256,m < 4],.c (.int .u8 (Int.ofNat (a ||| 64 * m))) :: r)
 | _ => none
def Vv : List CA → Option (List Prop × Nat × List At)
 | [c,.v (.im (.int .u8 (.ofNat m)))] => match RD c with
  | some (l,n + 1) => (match aFe m l with | some (pre,l') => some (pre,0,l') | none => none)
  | _ => none
 | _ => none
theorem Vu : ∀ cs pre j l,Vv cs = some (pre,j,l) → aP pre → ∀ (args : List Value) (w : World),bK w cs args → ∀ b o n m,args[j]? = some (.slice (some ⟨b,o,none⟩) n m) → (∀ q,w.frozen? ⟨b,q,none⟩ = false) →
  Calls prog 26 args.toArray w (fun e w' => e = .returned (.slice (some ⟨b,o,none⟩) n m) ∧ WrAt w w' b l ∧ w'.rangeAt b o (aC l)):=by
 intro cs pre j l hg hp args w ha b o n m hj hf;unfold Vv at hg;split at hg
 ·rename_i c k;split at hg
  ·rename_i l0 n0 h1;split at hg
   ·rename_i pre' l' h2;cases hg;unfold aFe at h2;split at h2
    ·rename_i a r;cases h2
     match args,ha with
     | [u,v],ha =>
      obtain ⟨b1,o1,m1,rfl,r1⟩:=JD h1 (by have:=ha; cases c <;> exact this.1);have hv : v = .int .u8 (Int.ofNat k):=by have:=ha; cases c <;> exact this.2.1
      subst hv;cases hj;have hc : w.cell? ⟨b,o,none⟩ = some (.int .u8 (Int.ofNat a)):=r1 0 _ rfl;refine (DC b o _ m a k (Nat.succ_pos _) hp.1 hp.2.1 w hc (hf o)).mono ?_
      rintro e w' ⟨rfl,rfl⟩
      refine ⟨rfl,?_,fun q v hq => ?_⟩
      ·have h3:=(WrAt.refl w b).set o [.int .u8 (Int.ofNat (a ||| 64 * k))];exact ⟨h3.os,h3.tape,h3.output,h3.size,h3.block,h3.shape,h3.frozen⟩
      ·cases q with
       | zero =>
        cases hq;exact World.cell?_setCell_same (h:=hc) ..
       | succ q =>
        rw [World.cell?_setCell_other (h:=fun he => by have:=congrArg Addr.off he; simp only [] at this; omega) ..];exact r1 (q + 1) v hq
     | [],ha => cases c <;> exact ha.elim
     | [_],ha => cases c <;> exact ha.2.elim
     | _ :: _ :: _ :: _,ha => cases c <;> exact ha.2.2.elim
    ·cases h2
   ·cases hg
  ·cases hg
 ·cases hg
def W4 : Tab4:=KL.add 26 Vv
theorem aMu : WrOk prog W4:=(gJ _).ad func26 Vu
def cL (x : Q2) : Q2:=(x.1,F1.neg x.2)
def sc2 (x : Q2) (k : Fq) : Q2:=(F1.mul x.1 k,F1.mul x.2 k)
def fR (x : Q2) : Fq:=F1.add (F1.mul x.1 x.1) (F1.mul x.2 x.2)
def kO (x : Q2) : Q2:=sc2 (cL x) (dZ (fR x))
theorem UL (c : Bool) (x : Q2) (y : Q2) : dH prog (FM c) qN (fun _ => true) f103 40 [.v (.fl (e2 x)),.v (.fl (e2 y))] = some ([],.one (.fl (e2 (F2.add x y)))):=by kernel_rfl
def BT (c : Bool) : Tab:=(FM c).add 103 (g2 TB TB (fun x y => ([],.one (.fl (e2 (F2.add x y))))))
theorem DW (c : Bool) (hB : TabOk prog (FM c)) : TabOk prog (BT c):=(aLf c hB).ad func103 (iT gP gP fun x y hp args w ha => aS aG (aLf c hB) cC func103 (UL c x y) hp ha)
theorem MZ (c : Bool) (x : Q2) (y : Q2) : dH prog (BT c) qN (fun _ => true) f106 40 [.v (.fl (e2 x)),.v (.fl (e2 y))] = some ([],.one (.fl (e2 (F2.sub x y)))):=by kernel_rfl
def vA (c : Bool) : Tab:=(BT c).add 106 (g2 TB TB (fun x y => ([],.one (.fl (e2 (F2.sub x y))))))
theorem zR (c : Bool) (hB : TabOk prog (FM c)) : TabOk prog (vA c):=(DW c hB).ad func106 (iT gP gP fun x y hp args w ha => aS aG (DW c hB) cC func106 (MZ c x y) hp ha)
theorem UO (c : Bool) (x : Q2) : dH prog (vA c) qN (fun _ => true) f130 40 [.v (.fl (e2 x))] = some ([],.one (.fl (e2 (cL x)))):=by kernel_rfl
def BU (c : Bool) : Tab:=(vA c).add 130 (g1 TB (fun x => ([],.one (.fl (e2 (cL x))))))
theorem DX (c : Bool) (hB : TabOk prog (FM c)) : TabOk prog (BU c):=(zR c hB).ad func130 (cN gP fun x hp args w ha => aS aG (zR c hB) cC func130 (UO c x) hp ha)
theorem GN (c : Bool) (x : Q2) (y : Fq) : dH prog (BU c) qN (fun _ => true) f227 40 [.v (.fl (e2 x)),.v (.fl (e1 y))] = some ([],.one (.fl (e2 (sc2 x y)))):=by kernel_rfl
def qT (c : Bool) : Tab:=(BU c).add 227 (g2 TB DO (fun x y => ([],.one (.fl (e2 (sc2 x y))))))
theorem vM (c : Bool) (hB : TabOk prog (FM c)) : TabOk prog (qT c):=(DX c hB).ad func227 (iT gP eP fun x y hp args w ha => aS aG (DX c hB) cC func227 (GN c x y) hp ha)
theorem UM (c : Bool) (x : Q2) : dH prog (qT c) qN (fun _ => true) f136 40 [.v (.fl (e2 x))] = some ([],.one (.fl (e1 (fR x)))):=by kernel_rfl
def tF (c : Bool) : Tab:=(qT c).add 136 (g1 TB (fun x => ([],.one (.fl (e1 (fR x))))))
theorem uE (c : Bool) (hB : TabOk prog (FM c)) : TabOk prog (tF c):=(vM c hB).ad func136 (cN gP fun x hp args w ha => aS aG (vM c hB) cC func136 (UM c x) hp ha)
theorem Gt (x : Q2) : dH prog (tF true) qN (fun _ => true) f226 40 [.v (.fl (e2 x))] = some ([fR x ≠ F1.zero],.many [.fl (e2 (kO x)),.im (.int .i64 0)]):=by kernel_rfl
theorem UN (x : Q2) : dH prog (tF false) qN (fun _ => true) f226 40 [.v (.fl (e2 x))] = some ([fR x = F1.zero],.many [.fl (e2 F2.zero),.im (.int .i64 22)]):=by kernel_rfl
def Td (c : Bool) (x : Q2) : List Prop × RV:=bif c then ([fR x ≠ F1.zero],.many [.fl (e2 (kO x)),.im (.int .i64 0)]) else ([fR x = F1.zero],.many [.fl (e2 F2.zero),.im (.int .i64 22)])
theorem aCR (c : Bool) (hB : TabOk prog (FM c)) (x : Q2) (hp : aP (Td c x).1) (args : List Value) (w : World) (ha : bK w [.v (.fl (e2 x))] args) : Good prog 226 (Td c x).2 args w:=by
 cases c
 ·exact aS aG (uE false hB) cC func226 (UN x) hp ha
 ·exact aS aG (uE true hB) cC func226 (Gt x) hp ha
def tG (c : Bool) : Tab:=(tF c).add 226 (g1 TB (Td c))
theorem rW (c : Bool) (hB : TabOk prog (FM c)) : TabOk prog (tG c):=(uE c hB).ad func226 (cN gP (aCR c hB))
def Fz : Nat → List At → Option (List Q2)
 | 0,[] => some []
 | n + 1,.f a :: .f b :: r => match Fz n r with | some l => some ((a,b) :: l) | none => none
 | _,_ => none
def e2s : List Q2 → List At
 | [] => []
 | x :: r => .f x.1 :: .f x.2 :: e2s r
theorem FX : ∀ {n : Nat} {l : List At} {x : List Q2},Fz n l = some x → l = e2s x ∧ x.length = n
 | 0,[],x,h => by cases h; exact ⟨rfl,rfl⟩
 | n + 1,.f a :: .f b :: r,x,h => by
  unfold Fz at h;split at h
  ·rename_i l hl;cases h;obtain ⟨h1,h2⟩:=FX hl;exact ⟨by rw [h1]; rfl,by rw [List.length_cons,h2]⟩
  ·cases h
 | 0,_ :: _,x,h => by cases h
 | n + 1,[],x,h => by cases h
 | n + 1,[_],x,h => by unfold Fz at h; split at h <;> first | (cases h; done) | (rename_i heq; cases heq)
 | n + 1,.q _ :: _ :: _,x,h => by cases h
 | n + 1,.c _ :: _ :: _,x,h => by cases h
 | n + 1,.f _ :: .q _ :: _,x,h => by cases h
 | n + 1,.f _ :: .c _ :: _,x,h => by cases h
def aDB : List Q2 → List Q2 → Q2
 | [x],[y] => F2.mul x y
 | [x,y],[z,t] => F2.add (F2.mul x z) (F2.mul y t)
 | [x,y,z],[s,t,u] => F2.add (F2.add (F2.mul x s) (F2.mul y t)) (F2.mul z u)
 | _,_ => F2.zero
def aHJ : fQ
 | [.s l n m,.s l' n' m'] => bif Nat.beq n n' && (Nat.ble n 3 && Nat.ble 1 n) then (match Fz n l,Fz n' l' with
  | some x,some y => some ([],.one (.fl (e2 (aDB x y))))
  | _,_ => none) else none
 | _ => none
def sl2 : List Q2 → List Fq
 | [] => []
 | x :: r => x.1 :: F1.neg x.2 :: sl2 r
def cr2 : List Q2 → List Fq
 | [] => []
 | x :: r => x.2 :: x.1 :: cr2 r
def Gj : List Q2 → List Fq
 | [] => []
 | x :: r => x.1 :: x.2 :: Gj r
theorem Nk (c : Bool) (x s : Q2) (m m' : Nat) : dH prog (tG c) qN (fun _ => true) f158 40 [.s (e2s [x]) 1 m,.s (e2s [s]) 1 m'] = some ([],.one (.fl (e2 (sS (sl2 [x]) (Gj [s]),sS (cr2 [x]) (Gj [s]))))):=by kernel_rfl
theorem Nj (c : Bool) (x y s t : Q2) (m m' : Nat) : dH prog (tG c) qN (fun _ => true) f158 40 [.s (e2s [x,y]) 2 m,.s (e2s [s,t]) 2 m'] = some ([],.one (.fl (e2 (sS (sl2 [x,y]) (Gj [s,t]),sS (cr2 [x,y]) (Gj [s,t]))))):=by kernel_rfl
theorem Ni (c : Bool) (x y z s t u : Q2) (m m' : Nat) : dH prog (tG c) qN (fun _ => true) f158 40 [.s (e2s [x,y,z]) 3 m,.s (e2s [s,t,u]) 3 m'] = some ([],.one (.fl (e2 (sS (sl2 [x,y,z]) (Gj [s,t,u]),sS (cr2 [x,y,z]) (Gj [s,t,u]))))):=by kernel_rfl
theorem uM (x s : Q2) : (F2.mul x s).1 = F1.add (F1.mul x.1 s.1) (F1.mul (F1.neg x.2) s.2):=by
 show F1.add (F1.mul x.1 s.1) (F1.mul (F1.neg F1.one) (F1.mul x.2 s.2)) = _;rw [F1.neg_mul,F1.one_mul,F1.neg_mul]
theorem uL (x s : Q2) : (F2.mul x s).2 = F1.add (F1.mul x.2 s.1) (F1.mul x.1 s.2):=F1.add_comm _ _
theorem Qe (x s : Q2) : aDB [x] [s] = (sS (sl2 [x]) (Gj [s]),sS (cr2 [x]) (Gj [s])):=Prod.ext (uM x s) (uL x s)
theorem Qd (x y s t : Q2) : aDB [x,y] [s,t] = (sS (sl2 [x,y]) (Gj [s,t]),sS (cr2 [x,y]) (Gj [s,t])):=by
 refine Prod.ext ?_ ?_
 ·show F1.add (F2.mul x s).1 (F2.mul y t).1 = F1.add (F1.add (F1.add (F1.mul x.1 s.1) (F1.mul (F1.neg x.2) s.2)) (F1.mul y.1 t.1)) (F1.mul (F1.neg y.2) t.2);rw [uM,uM]; simp only [F1.add_assoc]
 ·show F1.add (F2.mul x s).2 (F2.mul y t).2 = F1.add (F1.add (F1.add (F1.mul x.2 s.1) (F1.mul x.1 s.2)) (F1.mul y.2 t.1)) (F1.mul y.1 t.2);rw [uL,uL]; simp only [F1.add_assoc]
theorem Qc (x y z s t u : Q2) : aDB [x,y,z] [s,t,u] = (sS (sl2 [x,y,z]) (Gj [s,t,u]),sS (cr2 [x,y,z]) (Gj [s,t,u])):=by
 refine Prod.ext ?_ ?_
 ·show F1.add (F1.add (F2.mul x s).1 (F2.mul y t).1) (F2.mul z u).1 = F1.add (F1.add (F1.add (F1.add (F1.add (F1.mul x.1 s.1) (F1.mul (F1.neg x.2) s.2)) (F1.mul y.1 t.1)) (F1.mul (F1.neg y.2) t.2)) (F1.mul z.1 u.1)) (F1.mul (F1.neg z.2) u.2);rw [uM,uM,uM]; simp only [F1.add_assoc]
 ·show F1.add (F1.add (F2.mul x s).2 (F2.mul y t).2) (F2.mul z u).2 = F1.add (F1.add (F1.add (F1.add (F1.add (F1.mul x.2 s.1) (F1.mul x.1 s.2)) (F1.mul y.2 t.1)) (F1.mul y.1 t.2)) (F1.mul z.2 u.1)) (F1.mul z.1 u.2);rw [uL,uL,uL]; simp only [F1.add_assoc]
theorem aGj (c : Bool) (hB : TabOk prog (FM c)) : ∀ cs pre r,aHJ cs = some (pre,r) → aP pre → ∀ (args : List Value) (w : World),bK w cs args → Good prog 158 r args w:=by
 intro cs pre r hg hp args w ha;unfold aHJ at hg;split at hg
 ·rename_i l n m l' n' m';cases hb : (Nat.beq n n' && (Nat.ble n 3 && Nat.ble 1 n)) <;> rw [hb] at hg
  ·cases hg
  ·simp only [cond_true] at hg;split at hg
   ·rename_i x y hx hy;cases hg;obtain ⟨e1,e2⟩:=FX hx;obtain ⟨e3,e4⟩:=FX hy;subst e1; subst e3;simp only [Bool.and_eq_true] at hb;have hn:=Nat.eq_of_beq_eq_true hb.1;have h3:=Nat.le_of_ble_eq_true hb.2.1;have h1:=Nat.le_of_ble_eq_true hb.2.2;subst hn
    match x,y,n,e2,e4,h3,h1 with
    | [x],[s],1,_,_,_,_ =>
     rw [Qe];exact aS aG (rW c hB) cC func158 (Nk c x s m m') trivial ha
    | [x,y],[s,t],2,_,_,_,_ =>
     rw [Qd];exact aS aG (rW c hB) cC func158 (Nj c x y s t m m') trivial ha
    | [x,y,z],[s,t,u],3,_,_,_,_ =>
     rw [Qc];exact aS aG (rW c hB) cC func158 (Ni c x y z s t u m m') trivial ha
    | [],_,_,e2,_,_,h1 => exact absurd h1 (by rw [← e2]; decide)
    | _ :: _ :: _ :: _ :: l,_,_,e2,_,h3,_ => exact absurd h3 (by rw [← e2]; simp)
    | [_],[],_,e2,e4,_,_ => rw [← e2] at e4; cases e4
    | [_],_ :: _ :: _,_,e2,e4,_,_ => rw [← e2] at e4; simp at e4
    | [_,_],[],_,e2,e4,_,_ => rw [← e2] at e4; cases e4
    | [_,_],[_],_,e2,e4,_,_ => rw [← e2] at e4; cases e4
    | [_,_],_ :: _ :: _ :: _,_,e2,e4,_,_ => rw [← e2] at e4; simp at e4
    | [_,_,_],[],_,e2,e4,_,_ => rw [← e2] at e4; cases e4
    | [_,_,_],[_],_,e2,e4,_,_ => rw [← e2] at e4; cases e4
    | [_,_,_],[_,_],_,e2,e4,_,_ => rw [← e2] at e4; cases e4
    | [_,_,_],_ :: _ :: _ :: _ :: _,_,e2,e4,_,_ => rw [← e2] at e4; simp at e4
   ·cases hg
 ·cases hg
def ZM (c : Bool) : Tab:=(tG c).add 158 aHJ
theorem Bx (c : Bool) (hB : TabOk prog (FM c)) : TabOk prog (ZM c):=(rW c hB).ad func158 (aGj c hB)
theorem MY (c : Bool) (x : Q2) (y : Q2) : dH prog (ZM c) qN (fun _ => true) f129 40 [.v (.fl (e2 x)),.v (.fl (e2 y))] = some ([],.one (.fl (e2 (F2.mul x y)))):=by kernel_rfl
def uZ (c : Bool) : Tab:=(ZM c).add 129 (g2 TB TB (fun x y => ([],.one (.fl (e2 (F2.mul x y))))))
theorem zQ (c : Bool) (hB : TabOk prog (FM c)) : TabOk prog (uZ c):=(Bx c hB).ad func129 (iT gP gP fun x y hp args w ha => aS aG (Bx c hB) cC func129 (MY c x y) hp ha)
theorem Gx (c : Bool) (x : N2) : dH prog (uZ c) qN (fun _ => true) f100 40 [.v (.fl (q2 x))] = some ([],.one (.fl (e2 (m2 x)))):=by kernel_rfl
def xP (c : Bool) : Tab:=(uZ c).add 100 (g1 Bh (fun x => ([],.one (.fl (e2 (m2 x))))))
theorem zS (c : Bool) (hB : TabOk prog (FM c)) : TabOk prog (xP c):=(zQ c hB).ad func100 (cN jA fun x hp args w ha => aS aG (zQ c hB) cC func100 (Gx c x) hp ha)
def s6 (x : Q6) (k : Q2) : Q6:=(F2.mul x.1 k,F2.mul x.2.1 k,F2.mul x.2.2 k)
inductive RE | v (i : Nat) | add (a b : RE) | mul (a b : RE) | neg (a : RE) | zero | one
section
variable {R : Type} (K : CR R) (env : Nat → R)
def RE.den : RE → R
 | .v i => env i
 | .add a b => K.add (a.den) (b.den)
 | .mul a b => K.mul (a.den) (b.den)
 | .neg a => K.neg a.den
 | .zero => K.zero
 | .one => K.one
def nt (x : R) : Nat → R
 | 0 => K.zero
 | n + 1 => K.add (nt x n) x
def zt (x : R) : Int → R
 | .ofNat n => nt K x n
 | .negSucc n => K.neg (nt K x (n + 1))
def mono : List Nat → R
 | [] => K.one
 | i :: r => K.mul (env i) (mono r)
def jD : List (Int × List Nat) → R
 | [] => K.zero
 | (c,m) :: r => K.add (zt K (mono K env m) c) (jD r)
end
def ltL : List Nat → List Nat → Bool
 | [],[] => false
 | [],_ :: _ => true
 | _ :: _,[] => false
 | a :: r,b :: s => bif Nat.blt a b then true else bif Nat.blt b a then false else ltL r s
def eqL : List Nat → List Nat → Bool
 | [],[] => true
 | a :: r,b :: s => bif Nat.beq a b then eqL r s else false
 | _,_ => false
theorem Ws : ∀ {a b : List Nat},eqL a b = true → a = b
 | [],[],_ => rfl
 | a :: r,b :: s,h => by
  unfold eqL at h;cases hb : Nat.beq a b <;> rw [hb] at h
  ·cases h
  ·rw [Nat.eq_of_beq_eq_true hb,Ws h]
 | [],_ :: _,h => by cases h
 | _ :: _,[],h => by cases h
def ins (c : Int) (m : List Nat) : List (Int × List Nat) → List (Int × List Nat)
 | [] => [(c,m)]
 | (d,k) :: r => bif eqL m k then (c + d,k) :: r else bif ltL m k then (c,m) :: (d,k) :: r else (d,k) :: ins c m r
def XP : List (Int × List Nat) → List (Int × List Nat) → List (Int × List Nat)
 | [],q => q
 | (c,m) :: r,q => ins c m (XP r q)
def Kj (i : Nat) : List Nat → List Nat
 | [] => [i]
 | j :: r => bif Nat.ble i j then i :: j :: r else j :: Kj i r
def Tq : List Nat → List Nat → List Nat
 | [],m => m
 | i :: r,m => Kj i (Tq r m)
def PV (c : Int) (m : List Nat) : List (Int × List Nat) → List (Int × List Nat)
 | [] => []
 | (d,k) :: r => ins (c * d) (Tq m k) (PV c m r)
def Rh : List (Int × List Nat) → List (Int × List Nat) → List (Int × List Nat)
 | [],_ => []
 | (c,m) :: r,q => XP (PV c m q) (Rh r q)
def Rg : List (Int × List Nat) → List (Int × List Nat)
 | [] => []
 | (c,m) :: r => (-c,m) :: Rg r
def RE.norm : RE → List (Int × List Nat)
 | .v i => [(1,[i])]
 | .add a b => XP a.norm b.norm
 | .mul a b => Rh a.norm b.norm
 | .neg a => Rg a.norm
 | .zero => []
 | .one => [(1,[])]
def isZ : List (Int × List Nat) → Bool
 | [] => true
 | (.ofNat 0,_) :: r => isZ r
 | _ => false
section
variable {R : Type} (K : CR R) (env : Nat → R)
theorem uG (x : R) (n : Nat) : ∀ m,nt K x (n + m) = K.add (nt K x n) (nt K x m)
 | 0 => (K.add_zero _).symm
 | m + 1 => by show K.add (nt K x (n + m)) x = _; rw [uG x n m,K.add_assoc]; rfl
theorem bP : K.neg K.zero = K.zero:=by
 apply K.add_cancel (a:=K.zero);rw [K.add_neg,K.add_zero]
theorem Ll (x : R) (n m : Nat) : zt K x (Int.subNatNat n m) = K.add (nt K x n) (K.neg (nt K x m)):=by
 unfold Int.subNatNat;split
 ·rename_i h;have : n = m + (n - m):=by omega
  show nt K x (n - m) = _
  conv => rhs; rw [this,uG]
  rw [K.add_comm (nt K x m),K.add_assoc,K.add_neg,K.add_zero]
 ·rename_i k h;have : m = n + (k + 1):=by omega
  show K.neg (nt K x (k + 1)) = K.add (nt K x n) (K.neg (nt K x m));rw [this,uG K x n (k + 1),K.neg_add' (nt K x n),← K.add_assoc,K.add_neg,K.zero_add]
theorem Lm (x : R) (a b : Int) : zt K x (a + b) = K.add (zt K x a) (zt K x b):=by
 cases a with
 | ofNat n =>
  cases b with
  | ofNat m => exact uG K x n m
  | negSucc m => exact Ll K x n (m + 1)
 | negSucc n =>
  cases b with
  | ofNat m => show zt K x (Int.subNatNat m (n + 1)) = _; rw [Ll,K.add_comm]; rfl
  | negSucc m =>
   show K.neg (nt K x (n + m + 1 + 1)) = K.add (K.neg (nt K x (n + 1))) (K.neg (nt K x (m + 1)));rw [← K.neg_add',← uG,show n + 1 + (m + 1) = n + m + 1 + 1 by omega]
theorem pW (x : R) (a : Int) : zt K x (-a) = K.neg (zt K x a):=by
 apply K.add_cancel (a:=zt K x a);rw [← Lm,K.add_neg,Int.add_right_neg];rfl
theorem XX (x y : R) (n : Nat) : ∀ m,K.mul (nt K x n) (nt K y m) = nt K (K.mul x y) (n * m)
 | 0 => K.mul_zero _
 | m + 1 => by
  show K.mul _ (K.add (nt K y m) y) = _;rw [K.mul_add,XX x y n m,Nat.mul_add,Nat.mul_one,uG];congr 1;clear XX
  induction n with
  | zero => exact K.zero_mul _
  | succ n ih => show K.mul (K.add (nt K x n) x) y = _; rw [K.add_mul,ih]; rfl
theorem aFD (x y : R) (a b : Int) : K.mul (zt K x a) (zt K y b) = zt K (K.mul x y) (a * b):=by
 have hn : ∀ (c : Int),∃ n : Nat,c = n ∨ c = -(n : Int):=fun c => ⟨c.natAbs,Int.natAbs_eq c⟩
 have h0 : ∀ n m : Nat,K.mul (zt K x n) (zt K y m) = zt K (K.mul x y) ((n : Int) * m):=fun n m => by
  rw [← Int.natCast_mul]; exact XX K x y n m
 obtain ⟨n,rfl | rfl⟩:=hn a
 ·obtain ⟨m,rfl | rfl⟩:=hn b
  ·exact h0 n m
  ·rw [pW,K.mul_neg,h0,Int.mul_neg,pW]
 ·obtain ⟨m,rfl | rfl⟩:=hn b
  ·rw [pW,K.neg_mul,h0,Int.neg_mul,pW]
  ·rw [pW,pW,K.neg_mul,K.mul_neg,K.neg_neg,h0,Int.neg_mul_neg]
theorem JM (c : Int) (m : List Nat) : ∀ q,jD K env (ins c m q) = K.add (zt K (mono K env m) c) (jD K env q)
 | [] => rfl
 | (d,k) :: r => by
  unfold ins;cases he : eqL m k
  ·cases hl : ltL m k
   ·show K.add (zt K (mono K env k) d) (jD K env (ins c m r)) = K.add _ (K.add _ _);rw [JM c m r,K.add_left_comm]
   ·rfl
  ·rw [Ws he];show K.add (zt K (mono K env k) (c + d)) (jD K env r) = K.add _ (K.add _ _);rw [Lm,K.add_assoc]
theorem zM : ∀ p q,jD K env (XP p q) = K.add (jD K env p) (jD K env q)
 | [],q => (K.zero_add _).symm
 | (c,m) :: r,q => by
  show jD K env (ins c m (XP r q)) = K.add (K.add _ _) _;rw [JM,zM r q,K.add_assoc]
theorem RK (i : Nat) : ∀ m,mono K env (Kj i m) = K.mul (env i) (mono K env m)
 | [] => rfl
 | j :: r => by
  unfold Kj;cases Nat.ble i j
  ·show K.mul (env j) (mono K env (Kj i r)) = K.mul _ (K.mul _ _);rw [RK i r,K.mul_left_comm]
  ·rfl
theorem QZ : ∀ m k,mono K env (Tq m k) = K.mul (mono K env m) (mono K env k)
 | [],k => (K.one_mul _).symm
 | i :: r,k => by
  show mono K env (Kj i (Tq r k)) = K.mul (K.mul _ _) _;rw [RK,QZ r k,K.mul_assoc]
theorem DR (c : Int) (m : List Nat) : ∀ q,jD K env (PV c m q) = K.mul (zt K (mono K env m) c) (jD K env q)
 | [] => (K.mul_zero _).symm
 | (d,k) :: r => by
  show jD K env (ins (c * d) (Tq m k) (PV c m r)) = K.mul _ (K.add _ _);rw [JM,DR c m r,K.mul_add,QZ,aFD]
theorem PU : ∀ p q,jD K env (Rh p q) = K.mul (jD K env p) (jD K env q)
 | [],q => (K.zero_mul _).symm
 | (c,m) :: r,q => by
  show jD K env (XP (PV c m q) (Rh r q)) = K.mul (K.add _ _) _;rw [zM,DR,PU r q,K.add_mul]
theorem PT : ∀ p,jD K env (Rg p) = K.neg (jD K env p)
 | [] => (bP K).symm
 | (c,m) :: r => by
  show K.add (zt K (mono K env m) (-c)) (jD K env (Rg r)) = K.neg (K.add _ _);rw [PT r,K.neg_add',pW]
theorem lM : ∀ e : RE,jD K env e.norm = e.den K env
 | .v i => by show K.add (K.add K.zero (K.mul (env i) K.one)) K.zero = env i; rw [K.add_zero,K.zero_add,K.mul_one]
 | .add a b => by show jD K env (XP _ _) = K.add _ _; rw [zM,lM a,lM b]
 | .mul a b => by show jD K env (Rh _ _) = K.mul _ _; rw [PU,lM a,lM b]
 | .neg a => by show jD K env (Rg _) = K.neg _; rw [PT,lM a]
 | .zero => rfl
 | .one => by show K.add (K.add K.zero K.one) K.zero = K.one; rw [K.add_zero,K.zero_add]
theorem Dl : ∀ p,isZ p = true → jD K env p = K.zero
 | [],_ => rfl
 | (.ofNat 0,m) :: r,h => by
  show K.add K.zero (jD K env r) = _;rw [K.zero_add];exact Dl r h
 | (.ofNat (_ + 1),_) :: _,h => by cases h
 | (.negSucc _,_) :: _,h => by cases h
theorem aQ (a b : RE) (h : isZ (RE.norm (.add a (.neg b))) = true) : a.den K env = b.den K env:=by
 have:=Dl K env _ h;rw [lM] at this;have h2 : K.add (K.add (a.den K env) (K.neg (b.den K env))) (b.den K env) = K.add K.zero (b.den K env):=congrArg (fun x => K.add x (b.den K env)) this
 rwa [K.add_assoc,K.neg_add,K.add_zero,K.zero_add] at h2
end
def cE {R : Type} (K : CR R) (l : List R) (i : Nat) : R:=(l[i]?).getD K.zero
def Tc (c : Bool) (x : N2) : List Prop × RV:=bif c then ([fR (m2 x) ≠ F1.zero],.many [.fl (e2 (kO (m2 x))),.im (.int .i64 0)]) else ([fR (m2 x) = F1.zero],.many [.fl (e2 F2.zero),.im (.int .i64 22)])
theorem CQ (x : N2) : dH prog (xP true) qN (fun _ => true) f224 40 [.v (.fl (q2 x))] = some ([fR (m2 x) ≠ F1.zero],.many [.fl (e2 (kO (m2 x))),.im (.int .i64 0)]):=by kernel_rfl
theorem yP (x : N2) : dH prog (xP false) qN (fun _ => true) f224 40 [.v (.fl (q2 x))] = some ([fR (m2 x) = F1.zero],.many [.fl (e2 F2.zero),.im (.int .i64 22)]):=by kernel_rfl
theorem Tb (c : Bool) (hB : TabOk prog (FM c)) (x : N2) (hp : aP (Tc c x).1) (args : List Value) (w : World) (ha : bK w [.v (.fl (q2 x))] args) : Good prog 224 (Tc c x).2 args w:=by
 cases c
 ·exact aS aG (zS false hB) cC func224 (yP x) hp ha
 ·exact aS aG (zS true hB) cC func224 (CQ x) hp ha
def Af (c : Bool) : Tab:=(xP c).add 224 (g1 Bh (Tc c))
theorem Cq (c : Bool) (hB : TabOk prog (FM c)) : TabOk prog (Af c):=(zS c hB).ad func224 (cN jA (Tb c hB))
theorem Ph (c : Bool) (x : N2) (y : N2) : dH prog (Af c) qN (fun _ => true) f89 40 [.v (.fl (q2 x)),.v (.fl (q2 y))] = some ([],.one (.fl (e2 (F2.mul (m2 x) (m2 y))))):=by kernel_rfl
def Ae (c : Bool) : Tab:=(Af c).add 89 (g2 Bh Bh (fun x y => ([],.one (.fl (e2 (F2.mul (m2 x) (m2 y)))))))
theorem Cp (c : Bool) (hB : TabOk prog (FM c)) : TabOk prog (Ae c):=(Cq c hB).ad func89 (iT jA jA fun x y hp args w ha => aS aG (Cq c hB) cC func89 (Ph c x y) hp ha)
theorem Pg (c : Bool) (x : N2) : dH prog (Ae c) qN (fun _ => true) f66 40 [.v (.fl (q2 x))] = some ([],.one (.fl (e2 (F2.sub F2.zero (m2 x))))):=by kernel_rfl
def Ad (c : Bool) : Tab:=(Ae c).add 66 (g1 Bh (fun x => ([],.one (.fl (e2 (F2.sub F2.zero (m2 x)))))))
theorem aCr (c : Bool) (hB : TabOk prog (FM c)) : TabOk prog (Ad c):=(Cp c hB).ad func66 (cN jA fun x hp args w ha => aS aG (Cp c hB) cC func66 (Pg c x) hp ha)
end Go.Proofs.YtfnkbmlmgnadmaaGreat.Ex
namespace Go.Proofs.YtfnkbmlmgnadmaaGreat
open Go.Proofs.Tryz
theorem AY : Root FP.M 3:=by
 rw [show FP.M = 21888242871839275222246405745257275088696311157297823662689037894645226208583 from by decide];exact Pu
end Go.Proofs.YtfnkbmlmgnadmaaGreat
namespace Go.Proofs.YtfnkbmlmgnadmaaGreat.Ex
open Go.Proofs.Tryz
def Fld {R : Type} (K : CR R) : Prop:=K.one ≠ K.zero ∧ ∀ x,x ≠ K.zero → ∃ y,K.mul x y = K.one
theorem Fld.zd {R : Type} {K : CR R} (h : Fld K) {a b : R} (e : K.mul a b = K.zero) (ha : a ≠ K.zero) : b = K.zero:=by
 obtain ⟨y,hy⟩:=h.2 a ha;have:=congrArg (K.mul y) e
 rwa [← K.mul_assoc,K.mul_comm y,hy,K.one_mul,K.mul_zero] at this
theorem aAx {R : Type} {K : CR R} (h : Fld K) {a : R} (e : K.mul a a = K.zero) : a = K.zero:=by
 by_cases ha : a = K.zero
 ·exact ha
 ·exact h.zd e ha
theorem SX : F1.one ≠ F1.zero:=fun h => by have:=congrArg Fin.val h; exact absurd this (by decide)
theorem aLM {x : Fq} (h : x ≠ F1.zero) : 0 < x.1:=by
 rcases Nat.eq_zero_or_pos x.1 with h0 | h0
 ·exact absurd (Fin.ext h0 : x = F1.zero) h
 ·exact h0
theorem kD {x : Fq} (h : x ≠ F1.zero) : F1.mul x (dZ x) = F1.one:=by
 apply Fin.ext;show x.1 * (dZ x).1 % FP.M = 1;rw [sO,Nat.one_mul];exact Dm AY (by decide) (aLM h) x.2
theorem RT : Fld F1:=⟨SX,fun x h => ⟨_,kD h⟩⟩
theorem aLN {n : Nat} (h0 : 0 < n) (h : n < FP.M) : n ^ (FP.M - 1) % FP.M = 1:=JR AY h0 h
def uD : Nat:=(FP.M - 1) / 3
def Ru : Nat:=(FP.M - 1) / 2
theorem Mp : 3 * uD = FP.M - 1:=by decide
theorem aCW : 2 * Ru = FP.M - 1:=by decide
theorem aCz : (FP.M - 1) ^ Ru % FP.M ≠ 1:=by
 rw [← DS FP.M 256 (FP.M - 1) Ru (by decide)];exact of_decide_eq_true (by kernel_rfl)
theorem XY (n : Fq) : F1.mul n n ≠ F1.neg F1.one:=fun h => by
 have hv : n.1 ^ 2 % FP.M = FP.M - 1:=by
  have:=congrArg Fin.val h;have e : n.1 * n.1 % FP.M = (0 + FP.M - 1) % FP.M:=this;rw [Nat.pow_two,e]; decide
 have h0 : 0 < n.1:=by
  rcases Nat.eq_zero_or_pos n.1 with h0 | h0
  ·rw [h0] at hv; exact absurd hv (by decide)
  ·exact h0
 have:=aLN h0 n.2;rw [← aCW,Nat.pow_mul,Nat.pow_mod,hv] at this;exact aCz this
theorem Xc {R : Type} {K : CR R} (h : Fld K) {a b q : R} (hb : b ≠ K.zero) (e : K.mul a a = K.mul q (K.mul b b)) : ∃ t,K.mul t t = q:=by
 obtain ⟨y,hy⟩:=h.2 b hb;refine ⟨K.mul a y,?_⟩;have h1 : K.mul (K.mul a y) (K.mul a y) = K.mul (K.mul a a) (K.mul y y):=aQ K (cE K [a,y]) (.mul (.mul (.v 0) (.v 1)) (.mul (.v 0) (.v 1))) (.mul (.mul (.v 0) (.v 0)) (.mul (.v 1) (.v 1))) (by decide);have h2 : K.mul (K.mul q (K.mul b b)) (K.mul y y) = K.mul q (K.mul (K.mul b y) (K.mul b y)):=aQ K (cE K [q,b,y]) (.mul (.mul (.v 0) (.mul (.v 1) (.v 1))) (.mul (.v 2) (.v 2))) (.mul (.v 0) (.mul (.mul (.v 1) (.v 2)) (.mul (.v 1) (.v 2)))) (by decide);rw [h1,e,h2,hy,K.mul_one,K.mul_one]
theorem sD {x : Q2} (h : fR x = F1.zero) : x = F2.zero:=by
 have h1 : F1.mul x.1 x.1 = F1.mul (F1.neg F1.one) (F1.mul x.2 x.2):=by
  rw [F1.neg_mul,F1.one_mul];apply F1.add_cancel (a:=F1.mul x.2 x.2);rw [F1.add_neg,F1.add_comm];exact h
 by_cases hb : x.2 = F1.zero
 ·rw [hb,F1.mul_zero,F1.mul_zero] at h1;exact Prod.ext (aAx RT h1) hb
 ·obtain ⟨t,ht⟩:=Xc RT hb h1;exact absurd ht (XY t)
theorem Ak {x : Q2} (h : fR x ≠ F1.zero) : F2.mul x (kO x) = F2.one:=by
 have hi:=kD h;refine Prod.ext ?_ ?_
 ·show F1.add (F1.mul x.1 (F1.mul x.1 (dZ (fR x)))) (F1.mul (F1.neg F1.one) (F1.mul x.2 (F1.mul (F1.neg x.2) (dZ (fR x))))) = F1.one;refine Eq.trans ?_ hi;exact aQ F1 (cE F1 [x.1,x.2,dZ (fR x)]) (.add (.mul (.v 0) (.mul (.v 0) (.v 2))) (.mul (.neg .one) (.mul (.v 1) (.mul (.neg (.v 1)) (.v 2))))) (.mul (.add (.mul (.v 0) (.v 0)) (.mul (.v 1) (.v 1))) (.v 2)) (by decide)
 ·show F1.add (F1.mul x.1 (F1.mul (F1.neg x.2) (dZ (fR x)))) (F1.mul x.2 (F1.mul x.1 (dZ (fR x)))) = F1.zero;exact aQ F1 (cE F1 [x.1,x.2,dZ (fR x)]) (.add (.mul (.v 0) (.mul (.neg (.v 1)) (.v 2))) (.mul (.v 1) (.mul (.v 0) (.v 2)))) .zero (by decide)
theorem aIx : Fld F2:=⟨fun h => SX (congrArg Prod.fst h),fun x h => ⟨_,Ak fun e => h (sD e)⟩⟩
theorem IX (x y : Q2) : fR (F2.mul x y) = F1.mul (fR x) (fR y) :=
 aQ F1 (cE F1 [x.1,x.2,y.1,y.2]) (.add (.mul (.add (.mul (.v 0) (.v 2)) (.mul (.neg .one) (.mul (.v 1) (.v 3)))) (.add (.mul (.v 0) (.v 2)) (.mul (.neg .one) (.mul (.v 1) (.v 3))))) (.mul (.add (.mul (.v 0) (.v 3)) (.mul (.v 1) (.v 2))) (.add (.mul (.v 0) (.v 3)) (.mul (.v 1) (.v 2)))))
  (.mul (.add (.mul (.v 0) (.v 0)) (.mul (.v 1) (.v 1))) (.add (.mul (.v 2) (.v 2)) (.mul (.v 3) (.v 3)))) (by decide)
open Go.RowKit
theorem aEV (x : Fq) : m1 x.1 = x:=Fin.ext (by show wv x.1 % FP.M = x.1; unfold wv; rw [bF x.2,Nat.mod_eq_of_lt x.2])
def z0 : At:=.f F1.zero
theorem aLe (c : Bool) : TabOk prog (Ad c):=aCr c (aCq c)
def vl : At → Option Fq
 | .f x => some x
 | .q x => some (m1 x)
 | .c _ => none
def vls : List At → Option (List Fq)
 | [] => some []
 | a :: r => match vl a,vls r with | some x,some l => some (x :: l) | _,_ => none
def Bf (l : List At) : Option Fq:=match vls l with | some [a] => some a | _ => none
def nC (l : List At) : Option Q2:=match vls l with | some [a,b] => some (a,b) | _ => none
def Rdv {α γ : Type} (rd : List At → Option α) (qn : γ → List At) (mm : γ → α) : Prop:=∀ l x,rd l = some x → ∃ n,aC l = aC (qn n) ∧ mm n = x
theorem TK : ∀ {l : List At} {m : List Fq},vls l = some m → ∃ ns : List Nat,aC l = aC (ns.map At.q) ∧ ns.map m1 = m
 | [],m,h => by cases h; exact ⟨[],rfl,rfl⟩
 | a :: r,m,h => by
  unfold vls at h;split at h
  ·rename_i x l' h1 h2;cases h;obtain ⟨ns,e1,e2⟩:=TK h2;cases a with
   | f y => cases h1; exact ⟨x.1 :: ns,by show w4 x.1 ++ aC r = w4 x.1 ++ aC (ns.map At.q); rw [e1],by rw [List.map_cons,e2,aEV]⟩
   | q y => cases h1; exact ⟨y :: ns,by show w4 y ++ aC r = w4 y ++ aC (ns.map At.q); rw [e1],by rw [List.map_cons,e2]⟩
   | c v => cases h1
  ·cases h
theorem iZ : Rdv Bf q1 m1:=fun l x h => by
 unfold Bf at h;split at h
 ·rename_i a hn;cases h;obtain ⟨ns,e1,e2⟩:=TK hn
  match ns,e2 with
  | [n],e2 => cases e2; exact ⟨n,e1,rfl⟩
 ·cases h
theorem cF : Rdv nC q2 m2:=fun l x h => by
 unfold nC at h;split at h
 ·rename_i a b hn;cases h;obtain ⟨ns,e1,e2⟩:=TK hn
  match ns,e2 with
  | [n,m],e2 => cases e2; exact ⟨(n,m),e1,rfl⟩
 ·cases h
theorem iC {P : Program} {f : FuncId} {α γ : Type} {rd : List At → Option α} {qn : γ → List At} {mm : γ → α} (hr : Rdv rd qn mm) {op : α → List Prop × RV} (h : ∀ x,aP (op (mm x)).1 → ∀ args w,bK w [.v (.fl (qn x))] args → Good P f (op (mm x)).2 args w) :
  ∀ cs pre r,g1 rd op cs = some (pre,r) → aP pre → ∀ (args : List Value) (w : World),bK w cs args → Good P f r args w:=by
 intro cs pre r hg hp args w ha;unfold g1 at hg;split at hg
 ·rename_i l;split at hg
  ·rename_i x hx;obtain ⟨n,e1,rfl⟩:=hr l x hx;have e : op (mm n) = (pre,r):=by simpa using hg
   have:=h n (by rw [e]; exact hp) args w (by
    rw [tD ha,e1];exact ⟨rfl,trivial⟩)
   rw [e] at this;exact this
  ·cases hg
 ·cases hg
theorem gU {P : Program} {f : FuncId} {α γ α' γ' : Type} {rd : List At → Option α} {qn : γ → List At} {mm : γ → α} {rd' : List At → Option α'} {qn' : γ' → List At} {mm' : γ' → α'} (hr : Rdv rd qn mm) (hr' : Rdv rd' qn' mm') {op : α → α' → List Prop × RV}
  (h : ∀ x y,aP (op (mm x) (mm' y)).1 → ∀ args w,bK w [.v (.fl (qn x)),.v (.fl (qn' y))] args → Good P f (op (mm x) (mm' y)).2 args w) :
  ∀ cs pre r,g2 rd rd' op cs = some (pre,r) → aP pre → ∀ (args : List Value) (w : World),bK w cs args → Good P f r args w:=by
 intro cs pre r hg hp args w ha;unfold g2 at hg;split at hg
 ·rename_i l m;split at hg
  ·rename_i x y hx hy;obtain ⟨n,e1,rfl⟩:=hr l x hx;obtain ⟨n',e2,rfl⟩:=hr' m y hy;have e : op (mm n) (mm' n') = (pre,r):=by simpa using hg
   have:=h n n' (by rw [e]; exact hp) args w (by
    rw [BS ha,e1,e2];exact ⟨rfl,rfl,trivial⟩)
   rw [e] at this;exact this
  ·cases hg
 ·cases hg
end Go.Proofs.YtfnkbmlmgnadmaaGreat.Ex
namespace Go.Proofs.YtfnkbmlmgnadmaaGreat
open Go.Proofs.Tryz
open Go.RowKit
def LR (a0 a1 a2 a3 a4 a5 a6 a7 : Nat) : Nat:=a0 + 4294967296 * (a1 + 4294967296 * (a2 + 4294967296 * (a3 + 4294967296 * (a4 + 4294967296 * (a5 + 4294967296 * (a6 + 4294967296 * a7))))))
def ok8 (a0 a1 a2 a3 a4 a5 a6 a7 : Nat) : Prop:=a0 < 4294967296 ∧ a1 < 4294967296 ∧ a2 < 4294967296 ∧ a3 < 4294967296 ∧ a4 < 4294967296 ∧ a5 < 4294967296 ∧ a6 < 4294967296 ∧ a7 < 4294967296
theorem kX {a : Nat} (ha : a < 18446744073709551616) : ∃ l h : Nat,bits .and .u64 (a : Int) 4294967295 = (l : Int) ∧ (a : Int) / 4294967296 = (h : Int) ∧ l < 4294967296 ∧ h < 4294967296 ∧ Hid (l + 4294967296 * h = a):=by
 obtain ⟨h,l,e1,e2,h1,h2,e⟩:=JV ha;exact ⟨l,h,e2,e1,h2,h1,Lib.hid (by omega)⟩
def Ai (A : Nat) (w : World) (e : Ending) (w' : World) : Prop :=
 ∃ h0 h1 h2 h3 h4 h5 h6 h7 : Nat,e = .returned (.agg #[.int .u64 h0,.int .u64 h1,.int .u64 h2,.int .u64 h3,.int .u64 h4,.int .u64 h5,.int .u64 h6,.int .u64 h7]) ∧ ok8 h0 h1 h2 h3 h4 h5 h6 h7 ∧ Hid (LR h0 h1 h2 h3 h4 h5 h6 h7 = A) ∧ Below w.heap.size w w'
set_option maxHeartbeats 1000000 in
theorem mJ (a0 a1 a2 a3 : Nat) (ha : aY a0 a1 a2 a3) (w : World) :
  Calls prog 168 #[.agg #[.int .u64 a0,.int .u64 a1,.int .u64 a2,.int .u64 a3]] w (Ai (aA a0 a1 a2 a3) w):=by
 obtain ⟨h0,h1,d0,d1,b0,b1,e0⟩:=kX ha.1;obtain ⟨h2,h3,d2,d3,b2,b3,e1⟩:=kX ha.2.1;obtain ⟨h4,h5,d4,d5,b4,b5,e2⟩:=kX ha.2.2.1;obtain ⟨h6,h7,d6,d7,b6,b7,e3⟩:=kX ha.2.2.2
 go_enter func168,ntmps168
 go_wp2_with fail;refine wp_loop_rounds 5 ?_;rw [rounds_succ];go_wp2_with fail;rw [rounds_succ];go_wp2_with fail;rw [rounds_succ];go_wp2_with fail;rw [rounds_succ];go_wp2_with fail;rw [rounds_succ];go_wp2_with fail;refine bodyPost_ret (v:=.agg #[.int .u64 h0,.int .u64 h1,.int .u64 h2,.int .u64 h3,.int .u64 h4,.int .u64 h5,.int .u64 h6,.int .u64 h7]) (by simp [results,results168,go_sem]) rfl ?_;refine ⟨h0,h1,h2,h3,h4,h5,h6,h7,rfl,⟨b0,b1,b2,b3,b4,b5,b6,b7⟩,?_,?_⟩
 ·have:=e0.out; have:=e1.out; have:=e2.out; have:=e3.out;exact Lib.hid (by unfold aA LR; omega)
 repeat (first | exact Below.refl _ _ | refine Below.drew ?_ | refine Below.alloc ?_ (by first | (simp; done) | (simp; omega)) _)
theorem aDv {l h : Nat} (hl : l < 4294967296) (hh : h < 4294967296) : ∃ u s : Nat,(h : Int) * 4294967296 = (u : Int) ∧ bits .or .u64 (l : Int) (u : Int) = (s : Int) ∧ u < 18446744073709551616 ∧ s < 18446744073709551616 ∧ Hid (s = l + 4294967296 * h):=by
 obtain ⟨s,e,hs,f⟩:=oC (k:=32) (lo:=l) (up:=h * 4294967296) (by omega) (by omega) (Lib.hid (by omega)) (Lib.hid ⟨h,by omega⟩);have:=f.out;exact ⟨h * 4294967296,s,by omega,e,by omega,hs,Lib.hid (by omega)⟩
section
variable {P : Program} {ops : Array Oper} {Q : Exit → Act → World → Prop} {md : Region.Mode}
def aFo (md : Region.Mode) (ops : Array Oper) (n : Nat) : Bool :=
 (List.range n).all fun i => match ops[i]? with
  | some o => o.after.all fun e => !Region.binds md e || decide (e.on < i)
  | none => false
def yZ (md : Region.Mode) (ops : Array Oper) (got : Nat → Bool) (i : Nat) : Bool :=
 match ops[i]? with
  | some o => o.after.all fun e => !Region.binds md e || got e.on
  | none => false
def hZ (listed : Array Bool) : Nat → Nat
 | 0 => 0
 | n + 1 => hZ listed n + if listed.getD n false = true then 0 else 1
theorem kR (listed : Array Bool) (n : Nat) : hZ listed (n + 1) = hZ listed n + if listed.getD n false = true then 0 else 1:=rfl
theorem yA {listed : Array Bool} {i : Nat} (hi : i < listed.size) (h : listed.getD i false = false) : ∀ n,hZ (listed.setIfInBounds i true) n + (if i < n then 1 else 0) = hZ listed n
 | 0 => by simp [hZ]
 | n + 1 => by
  have ih:=yA hi h n;rw [kR,kR]
  by_cases e : i = n
  ·subst e;have h1 : (listed.setIfInBounds i true).getD i false = true:=by simp [hi]
   rw [h1,h];simp at ih ⊢;omega
  ·rw [getD_set_ne false e]
   by_cases h2 : i < n
   ·rw [if_pos h2] at ih; rw [if_pos (show i < n + 1 by omega)]; omega
   ·rw [if_neg h2] at ih; rw [if_neg (show ¬ i < n + 1 by omega)]; omega
theorem nE {listed : Array Bool} : ∀ {n : Nat},hZ listed n = 0 → ∀ j,j < n → listed.getD j false = true
 | 0,_,j,hj => by omega
 | n + 1,h,j,hj => by
  rw [kR] at h
  by_cases e : listed.getD n false = true
  ·rw [if_pos e] at h
   rcases Nat.lt_or_ge j n with h1 | h1
   ·exact nE (by omega) j h1
   ·obtain rfl : j = n:=by omega
    exact e
  ·rw [if_neg e] at h; omega
theorem nF {listed : Array Bool} : ∀ {n : Nat},0 < hZ listed n → ∃ j,j < n ∧ listed.getD j false = false ∧ ∀ k,k < j → listed.getD k false = true
 | 0,h => by unfold hZ at h; omega
 | n + 1,h => by
  rcases Nat.eq_zero_or_pos (hZ listed n) with h0 | h0
  ·unfold hZ at h;rw [h0] at h;refine ⟨n,by omega,?_,nE h0⟩;cases e : listed.getD n false with
   | true => rw [e] at h; simp at h
   | false => rfl
  ·obtain ⟨j,hj,h1,h2⟩:=nF h0;exact ⟨j,by omega,h1,h2⟩
def lN (n m : Nat) : Array Bool:=Array.replicate n true ++ Array.replicate (m - n) false
theorem rC {n : Nat} {Inv : (Nat → Bool) → Act → World → Prop} {l : List Oper} (hl : ops = l.toArray) (hn : n < ops.size)
  (hs : Region.sinkB md ops n = true) (hc : Region.chainB md ops n = true) (hb : aFo md ops n = true) (hq : Region.seqB md ops (ops.size - n) n (lN n ops.size) = true)
  (step : ∀ (got : Nat → Bool) b u i,i < n → got i = false → yZ md ops got i = true → Inv got b u → wpOp P ops Q i (Inv (fun j => j == i || got j)) b u)
  (tail : ∀ got b u,(∀ j,j < n → got j = true) → Inv got b u → wpList P ops Q (l.drop n) b u) :
  ∀ (m : Nat) (listed : Array Bool) (b : Act) (u : World),HeadInv md ops n listed → hZ listed n = m → Inv (fun j => listed.getD j false) b u → wpAny P md ops Q (m + (ops.size - n)) listed b u
 | 0,listed,b,u,inv,hm,h => by
  have hall:=nE hm;have he : listed = lN n ops.size:=by
   refine Array.ext (by simp [lN,inv.size]; omega) fun j h1 h2 => ?_
   rcases Nat.lt_or_ge j n with hj | hj
   ·have:=hall j hj;simp [h1] at this;rw [this];simp [lN,hj]
   ·have:=inv.tail j hj (by rw [← inv.size]; exact h1);simp [h1] at this;rw [this];simp [lN,hj]
  subst he;have hlen : (l.drop n).length = ops.size - n:=by subst hl; simp
  rw [Nat.zero_add,← hlen];exact wpAny_of_seq (l.drop n) n _ b u (fun j => by subst hl; simp [List.getElem?_drop]) (by rw [hlen]; exact hq) (tail _ b u hall h)
 | m + 1,listed,b,u,inv,hm,h => by
  rw [show m + 1 + (ops.size - n) = m + (ops.size - n) + 1 by omega];refine ⟨fun h0 => ?_,fun i hi => ?_⟩
  ·obtain ⟨j,hj,h1,h2⟩:=nF (n:=n) (listed:=listed) (by omega);have hjr : j ∈ Region.ready md ops listed:=by
    have hbj:=List.all_eq_true.1 hb j (List.mem_range.2 hj);cases ho : ops[j]? with
    | none => rw [ho] at hbj; cases hbj
    | some o =>
     rw [ho] at hbj;refine mem_ready.2 ⟨getD_in (by rw [inv.size]; omega) h1,o,ho,fun e he hbi => h2 _ ?_⟩;have:=(Array.all_eq_true_iff_forall_mem.1 hbj) e he;simp [hbi] at this;exact this
   rw [h0] at hjr; cases hjr
  ·obtain ⟨hun,o,ho,hall⟩:=mem_ready.1 hi;have hin : i < n:=by
    rcases Nat.lt_or_ge i n with h' | h'
    ·exact h'
    ·obtain ⟨j,hj,h1,h2⟩:=nF (n:=n) (listed:=listed) (by omega);exact absurd hi (tail_waits hs hc hn inv _ j rfl hj (getD_in (by rw [inv.size]; omega) h1) i h')
   have his : i < listed.size:=by rw [inv.size]; omega
   have hun':=getD_both hun;refine wpOp_mono (fun b' u' h' => ?_) (step _ b u i hin hun' (by
    unfold yZ;rw [ho];refine Array.all_eq_true_iff_forall_mem.2 fun e he => ?_
    cases hbi : Region.binds md e with
    | false => rfl
    | true => simpa [hbi] using hall e he hbi) h)
   refine rC hl hn hs hc hb hq step tail m _ b' u' (inv.set hi hin) ?_ ?_
   ·have:=yA his hun' n;rw [if_pos hin] at this; omega
   ·have hf : (fun j => (listed.setIfInBounds i true).getD j false) = fun j => j == i || listed.getD j false:=by
     funext j
     by_cases e : j = i
     ·subst e; simp [his]
     ·rw [getD_set_ne false (Ne.symm e)]; simp [e]
    rw [hf]; exact h'
theorem yB (k : Nat) : ∀ n,hZ (Array.replicate k false) n = n
 | 0 => rfl
 | n + 1 => by rw [kR,yB k n,getD_replicate_false]; simp
theorem OZ (n : Nat) (Inv : (Nat → Bool) → Act → World → Prop) {id : Nat} {a : Act} {w : World} {l : List Oper} (hm : P.follows .mixedOrders = true) (hn : n < l.length)
  (hs : Region.sinkB .any l.toArray n = true) (hc : Region.chainB .any l.toArray n = true) (hb : aFo .any l.toArray n = true) (hq : Region.seqB .any l.toArray (l.toArray.size - n) n (lN n l.toArray.size) = true)
  (start : Inv (fun _ => false) a w.drew)
  (step : ∀ (got : Nat → Bool) b u i,i < n → got i = false → yZ .any l.toArray got i = true → Inv got b u → wpOp P l.toArray Q i (Inv (fun j => j == i || got j)) b u)
  (tail : ∀ got b u,(∀ j,j < n → got j = true) → Inv got b u → wpList P l.toArray Q (l.drop n) b u) : (Code.region id l.toArray true).wp P Q a w:=by
 have hn' : n < l.toArray.size:=by simpa using hn
 have inv0 : HeadInv .any l.toArray n (Array.replicate l.toArray.size false) :=
  ⟨by simp,fun j oj _ hl => (by rw [getD_replicate_false] at hl; cases hl),fun t _ ht => getD_in (by simpa using ht) (getD_replicate_false _ _)⟩
 refine wp_region_any hm ?_;have hf : (fun j => (Array.replicate l.toArray.size false).getD j false) = fun _ : Nat => false:=by funext j; exact getD_replicate_false _ _
 have H:=rC (md:=.any) rfl hn' hs hc hb hq step tail n _ a w.drew inv0 (yB _ n) (by rw [hf]; exact start);rw [show n + (l.toArray.size - n) = l.toArray.size by omega] at H;exact H
end
end Go.Proofs.YtfnkbmlmgnadmaaGreat
