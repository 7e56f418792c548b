/-
  The call of limbs.Mod: the rest of a number of eight words by one of four; an error where that is 0. Conditions: each word below 2^64.
-/
import Derived.Test.YtgacpjmggdmgdaaGreatTakeIn
import Derived.Test.YtgacpjmggdmgdaaGreatShift
import Derived.Test.YtgacpjmggdmgdaaGreatShiftR
import Derived.Test.YtgacpjmggdmgdaaGreatLen
import Derived.Test.YtgacpjmggdmgdaaGreatModN2
import Derived.Deep.RegionHeld3
import Derived.Deep.DeepCutAuto
import Derived.Test.YtgacpjmggdmgdaaGreatRegion
namespace Go.Proofs.YtgacpjmggdmgdaaGreat
set_option linter.unusedVariables false
set_option linter.unusedSimpArgs false
open Go.RowKit

def ModPost (P : Nat → Nat → Prop) (w : World) (e : Ending) (w' : World) : Prop :=
  ∃ s0 s1 s2 s3 c : Nat, e = .returned (.tuple #[.agg #[.int .u64 s0, .int .u64 s1, .int .u64 s2, .int .u64 s3], .int .i64 c]) ∧ ok4 s0 s1 s2 s3 ∧ P (val4 s0 s1 s2 s3) c ∧ Below w.heap.size w w'

theorem equalInW0 (a0 a1 a2 a3 : Nat) (w : World) : (Op.equalIn 10000 50 (.agg #[.int .u64 a0, .int .u64 a1, .int .u64 a2, .int .u64 a3]) (.agg #[.int .u64 0, .int .u64 0, .int .u64 0, .int .u64 0])).run Tryz.prog w = .ok (eqW a0 a1 a2 a3 0 0 0 0) w :=
  equalInW 9998 a0 a1 a2 a3 0 0 0 0 w

theorem equalInZ (w : World) : (Op.equalIn 10000 50 (.agg #[.int .u64 0, .int .u64 0, .int .u64 0, .int .u64 0]) (.agg #[.int .u64 0, .int .u64 0, .int .u64 0, .int .u64 0])).run Tryz.prog w = .ok true w :=
  equalInW 9998 0 0 0 0 0 0 0 0 w

/-- the world in Mod, once the divisor and the first rest are laid -/
structure MR (w wr : World) (g9 g10 : Nat) (h0 h1 h2 h3 l0 l1 l2 l3 b0 b1 b2 b3 r0 r1 r2 r3 : Nat) : Prop where
  below : Below w.heap.size w wr
  lo : w.heap.size + 1 + 1 + 1 < g9
  mid : g9 < g10
  size : g10 < wr.heap.size
  rowH : Row4 wr w.heap.size h0 h1 h2 h3
  rowL : Row4 wr (w.heap.size + 1) l0 l1 l2 l3
  rowB : Row4 wr g9 b0 b1 b2 b3
  rowR : Row4 wr g10 r0 r1 r2 r3
  rowO : Row4 wr (w.heap.size + 1 + 1 + 1) 0 0 0 0
theorem MR.on {w wr w' : World} {g9 g10 : Nat} {h0 h1 h2 h3 l0 l1 l2 l3 b0 b1 b2 b3 r0 r1 r2 r3 : Nat} (m : MR w wr g9 g10 h0 h1 h2 h3 l0 l1 l2 l3 b0 b1 b2 b3 r0 r1 r2 r3) (hb : Below wr.heap.size wr w') : MR w w' g9 g10 h0 h1 h2 h3 l0 l1 l2 l3 b0 b1 b2 b3 r0 r1 r2 r3 :=
  ⟨m.below.trans (hb.mono m.below.size), m.lo, m.mid, Nat.lt_of_lt_of_le m.size hb.size, m.rowH.below hb (by have := m.lo; have := m.mid; have := m.size; omega), m.rowL.below hb (by have := m.lo; have := m.mid; have := m.size; omega),
    m.rowB.below hb (by have := m.mid; have := m.size; omega), m.rowR.below hb m.size, m.rowO.below hb (by have := m.lo; have := m.mid; have := m.size; omega)⟩
theorem MR.drewN {w wr : World} {g9 g10 : Nat} {h0 h1 h2 h3 l0 l1 l2 l3 b0 b1 b2 b3 r0 r1 r2 r3 : Nat} (m : MR w wr g9 g10 h0 h1 h2 h3 l0 l1 l2 l3 b0 b1 b2 b3 r0 r1 r2 r3) (n : Nat) : MR w (wr.drewN n) g9 g10 h0 h1 h2 h3 l0 l1 l2 l3 b0 b1 b2 b3 r0 r1 r2 r3 := m.on (below_drewN' _ _ n)
theorem MR.onDrew {w wr w' : World} {g9 g10 : Nat} {h0 h1 h2 h3 l0 l1 l2 l3 b0 b1 b2 b3 r0 r1 r2 r3 : Nat} (m : MR w wr g9 g10 h0 h1 h2 h3 l0 l1 l2 l3 b0 b1 b2 b3 r0 r1 r2 r3) (hb : Below wr.drew.heap.size wr.drew w') : MR w w' g9 g10 h0 h1 h2 h3 l0 l1 l2 l3 b0 b1 b2 b3 r0 r1 r2 r3 := (m.drewN 1).on hb
theorem MR.put {w wr : World} {g9 g10 : Nat} {h0 h1 h2 h3 l0 l1 l2 l3 b0 b1 b2 b3 r0 r1 r2 r3 : Nat} (m : MR w wr g9 g10 h0 h1 h2 h3 l0 l1 l2 l3 b0 b1 b2 b3 r0 r1 r2 r3) (s0 s1 s2 s3 : Nat) : MR w (set4 wr g10 s0 s1 s2 s3) g9 g10 h0 h1 h2 h3 l0 l1 l2 l3 b0 b1 b2 b3 s0 s1 s2 s3 :=
  ⟨below_set4 m.below (by have := m.lo; have := m.mid; omega) _ _ _ _, m.lo, m.mid, by unfold set4; simp only [World.size_setCell]; exact m.size, m.rowH.set4_other (by have := m.lo; have := m.mid; omega) _ _ _ _, m.rowL.set4_other (by have := m.lo; have := m.mid; omega) _ _ _ _,
    m.rowB.set4_other (by have := m.mid; omega) _ _ _ _, m.rowR.set4 _ _ _ _, m.rowO.set4_other (by have := m.lo; have := m.mid; omega) _ _ _ _⟩

set_option maxRecDepth 100000 in
theorem mod_zero (h0 h1 h2 h3 l0 l1 l2 l3 : Nat) (w : World) :
    Calls Tryz.prog 158 #[.agg #[.int .u64 h0, .int .u64 h1, .int .u64 h2, .int .u64 h3], .agg #[.int .u64 l0, .int .u64 l1, .int .u64 l2, .int .u64 l3], .agg #[.int .u64 0, .int .u64 0, .int .u64 0, .int .u64 0]] w (ModPost (fun v c => v = 0 ∧ c = 22) w) := by
  have hE := fun w => equalInZ w
  have hG := eqGuardW
  go_enter Tryz.func158, Tryz.ntmps158
  go_wp2_with fail
  refine bodyPost_ret (v := .tuple #[.agg #[.int .u64 0, .int .u64 0, .int .u64 0, .int .u64 0], .int .i64 22]) (by simp [results, Tryz.results158, go_sem]) rfl ?_
  refine ⟨0, 0, 0, 0, 22, rfl, ⟨by omega, by omega, by omega, by omega⟩, ⟨rfl, rfl⟩, below4 _ _ _ _ _⟩

set_option maxRecDepth 100000 in
set_option maxHeartbeats 4000000 in
theorem mod_some (h0 h1 h2 h3 l0 l1 l2 l3 m0 m1 m2 m3 : Nat) (hh : ok4 h0 h1 h2 h3) (hl : ok4 l0 l1 l2 l3) (hm : ok4 m0 m1 m2 m3) (hpz : 0 < val4 m0 m1 m2 m3) (w : World) :
    Calls Tryz.prog 158 #[.agg #[.int .u64 h0, .int .u64 h1, .int .u64 h2, .int .u64 h3], .agg #[.int .u64 l0, .int .u64 l1, .int .u64 l2, .int .u64 l3], .agg #[.int .u64 m0, .int .u64 m1, .int .u64 m2, .int .u64 m3]] w (ModPost (fun v c => v = (val4 h0 h1 h2 h3 * 115792089237316195423570985008687907853269984665640564039457584007913129639936 + val4 l0 l1 l2 l3) % val4 m0 m1 m2 m3 ∧ c = 0) w) := by
  have hE := fun w => equalInW0 m0 m1 m2 m3 w
  have hG := eqGuardW
  have q : eqW m0 m1 m2 m3 0 0 0 0 = false := by
    have := eqW_iff hm (show ok4 0 0 0 0 from ⟨by omega, by omega, by omega, by omega⟩)
    rcases h : eqW m0 m1 m2 m3 0 0 0 0 with _ | _
    · rfl
    · exact absurd (this.1 h) (by unfold val4 at hpz ⊢; omega)
  rw [q] at hE
  clear q
  go_enter Tryz.func158, Tryz.ntmps158
  go_wp2_with fail
  refine (len_calls m0 m1 m2 m3 hm _).mono ?_
  rintro e w1 ⟨L, rfl, bL, lenL, hbl⟩
  obtain ⟨hpos, hb1, hb2⟩ := lift_by bL lenL hpz
  obtain ⟨S, eS⟩ : ∃ S, S = 256 - L := ⟨_, rfl⟩
  have wS : (256 : Int) - (L : Int) = (S : Int) := by omega
  have wL : (256 : Int) - (S : Int) = (L : Int) := by omega
  have bS : S ≤ 256 := by omega
  have H1 := (((Row4.new w h0 h1 h2 h3 50).alloc (by simp) _).alloc (by simp; omega) _).alloc (by simp; omega) _ |>.below hbl (by simp; omega)
  have L1 := (((Row4.new (w.alloc _) l0 l1 l2 l3 50).alloc (by simp) _).alloc (by simp) _).below hbl (by simp)
  have M1 := ((Row4.new ((w.alloc _).alloc _) m0 m1 m2 m3 50).alloc (by simp) _).below hbl (by simp)
  have O1 := (Row4.new (((w.alloc _).alloc _).alloc _) 0 0 0 0 50).below hbl (by simp)
  simp only [World.size_alloc] at L1 M1 O1
  have hz1 : w.heap.size + 1 + 1 + 1 < w1.heap.size := by have := hbl.size; simp at this; omega
  have B1 := (below4 w _ _ _ _).trans (hbl.mono (by simp; omega))
  have HeS := Lib.hid eS; have Hb1 := Lib.hid hb1; have Hb2 := Lib.hid hb2; have HL := Lib.hid lenL; have HB1 := Lib.hid B1
  have HH1 := Lib.hid H1; have HL1 := Lib.hid L1; have HM1 := Lib.hid M1; have HO1 := Lib.hid O1
  have y0 : w.heap.size < w1.heap.size := by omega
  have y1 : w.heap.size + 1 < w1.heap.size := by omega
  have y2 : w.heap.size + 1 + 1 < w1.heap.size := by omega
  obtain ⟨m0', m1', m2', m3', mf⟩ := M1
  clear hE hG eS hb1 hb2 lenL B1 H1 L1 O1 hbl
  go_wp2_with fail
  refine (shl_calls m0 m1 m2 m3 S hm (by omega) (by omega) _).mono ?_
  rintro e w2 ⟨b0, b1, b2, b3, rfl, hb, vb, hbl⟩
  rw [Int.toNat_natCast] at vb
  have H2 := HH1.out.below hbl y0
  have L2 := HL1.out.below hbl y1
  have O2 := HO1.out.below hbl hz1
  have hz2 : w1.heap.size ≤ w2.heap.size := hbl.size
  have B2 := HB1.out.trans (hbl.mono HB1.out.size)
  have HH2 := Lib.hid H2; have HL2 := Lib.hid L2; have HO2 := Lib.hid O2; have HB2 := Lib.hid B2; have Hvb := Lib.hid vb
  have z0 : w.heap.size < w2.heap.size := by omega
  have z1 : w.heap.size + 1 < w2.heap.size := by omega
  have z3 : w.heap.size + 1 + 1 + 1 < w2.heap.size := by omega
  obtain ⟨h0', h1', h2', h3', hf⟩ := H2
  clear L2 O2 B2 vb hbl m0' m1' m2' m3' mf
  go_wp2_with fail
  refine (shr_calls h0 h1 h2 h3 L hh (by omega) (by omega) _).mono ?_
  rintro e w3 ⟨r0, r1, r2, r3, rfl, hr, vr, hbl⟩
  rw [Int.toNat_natCast] at vr
  clear h0' h1' h2' h3' hf
  have MR1 : MR w (w3.alloc (.cells #[.int .u64 r0, .int .u64 r1, .int .u64 r2, .int .u64 r3] 50)) w2.heap.size w3.heap.size h0 h1 h2 h3 l0 l1 l2 l3 b0 b1 b2 b3 r0 r1 r2 r3 := by
    have hb' := hbl
    have hz3 := hb'.size
    rw [World.size_alloc] at hz3
    have hall : ∀ {x : Nat} {c0 c1 c2 c3 : Nat}, Row4 w2 x c0 c1 c2 c3 → x < w2.heap.size → Row4 (w3.alloc (.cells #[.int .u64 r0, .int .u64 r1, .int .u64 r2, .int .u64 r3] 50)) x c0 c1 c2 c3 := fun q hx =>
      ((q.alloc hx _).below hb' (by rw [World.size_alloc]; omega)).alloc (by omega) _
    refine ⟨((HB2.out.alloc (by omega) _).trans (hb'.mono (by rw [World.size_alloc]; omega))).alloc (by omega) _, z3, by omega, by simp, hall HH2.out z0, hall HL2.out z1, ?_, Row4.new _ _ _ _ _ _, hall HO2.out z3⟩
    exact ((Row4.new w2 b0 b1 b2 b3 50).below hb' (by simp)).alloc (by omega) _
  go_wp2_with fail
  clear hbl
  have Hvr := Lib.hid vr
  clear vr
  generalize w3.alloc (.cells #[.int .u64 r0, .int .u64 r1, .int .u64 r2, .int .u64 r3] 50) = W at *
  generalize w2.heap.size = g9 at *
  generalize w3.heap.size = g10 at *
  have M := MR1
  clear MR1
  have wLL : IntKind.i64.wrap (L : Int) = (L : Int) := by simp [IntKind.wrap, IntKind.bits, IntKind.signed]; omega
  have HM := Lib.hid M
  have evb : val4 b0 b1 b2 b3 = val4 m0 m1 m2 m3 * 2 ^ S := by rw [Hvb.out, HeS.out, Nat.mod_eq_of_lt Hb1.out]
  have hb3 : 9223372036854775808 ≤ b3 := top_bit hb (by rw [evb, HeS.out]; exact Hb2.out)
  have hrb : val4 r0 r1 r2 r3 < val4 b0 b1 b2 b3 := by rw [evb, Hvr.out, HeS.out]; exact rest_lt bL hpz (val4_lt hh)
  have Hevb := Lib.hid evb
  clear evb
  clear M y0 y1 y2 z0 z1 z3 hz1 hz2 HH1 HL1 HM1 HO1 HB1 HH2 HL2 HO2 HB2
  have g0 : ∀ k, W.cell? ⟨w.heap.size, k, none⟩ = W.cell? ⟨w.heap.size, k, none⟩ := fun _ => rfl
  clear g0
  clear wS wL
  have wL' : IntKind.i64.wrap (256 - (S : Int)) = (L : Int) := by have := HeS.out; simp [IntKind.wrap, IntKind.bits, IntKind.signed]; omega
  go_wp2_with fail
  refine region_till (fun wx => MR w wx g9 g10 h0 h1 h2 h3 l0 l1 l2 l3 b0 b1 b2 b3 r0 r1 r2 r3) 11 (by kernel_rfl) ?_
  have HS : (fun wx => MR w wx g9 g10 h0 h1 h2 h3 l0 l1 l2 l3 b0 b1 b2 b3 r0 r1 r2 r3) W.drew := HM.out.drewN 1
  refine till_take (i := 0) (v := .agg #[.int .u64 r0, .int .u64 r1, .int .u64 r2, .int .u64 r3]) rfl (by kernel_rfl) (by kernel_rfl) (by kernel_rfl) (by kernel_rfl) (fun _ _ _ h => h) HS (Or.inl ⟨by rfl, fun wx hx => ?_⟩) ?_
  · obtain ⟨k0, k1, k2, k3, kf⟩ := MR.rowR hx
    clear HS
    go_simp
  simp only [Act.put, List.setIfInBounds_toArray, List.set_cons_zero, List.set_cons_succ]
  refine till_take (i := 1) (v := .agg #[.int .u64 h0, .int .u64 h1, .int .u64 h2, .int .u64 h3]) rfl (by kernel_rfl) (by kernel_rfl) (by kernel_rfl) (by kernel_rfl) (fun _ _ _ h => h) HS (Or.inl ⟨by rfl, fun wx hx => ?_⟩) ?_
  · obtain ⟨k0, k1, k2, k3, kf⟩ := MR.rowH hx
    clear HS
    go_simp
  simp only [Act.put, List.setIfInBounds_toArray, List.set_cons_zero, List.set_cons_succ]
  refine till_take (i := 2) (v := .int .i64 (S : Nat)) rfl (by kernel_rfl) (by kernel_rfl) (by kernel_rfl) (by kernel_rfl) (fun _ _ _ h => h) HS (Or.inl ⟨by rfl, fun wx hx => ?_⟩) ?_
  · clear hx HS
    go_simp
  simp only [Act.put, List.setIfInBounds_toArray, List.set_cons_zero, List.set_cons_succ]
  refine till_take (i := 4) (v := .agg #[.int .u64 l0, .int .u64 l1, .int .u64 l2, .int .u64 l3]) rfl (by kernel_rfl) (by kernel_rfl) (by kernel_rfl) (by kernel_rfl) (fun _ _ _ h => h) HS (Or.inl ⟨by rfl, fun wx hx => ?_⟩) ?_
  · obtain ⟨k0, k1, k2, k3, kf⟩ := MR.rowL hx
    clear HS
    go_simp
  simp only [Act.put, List.setIfInBounds_toArray, List.set_cons_zero, List.set_cons_succ]
  refine till_take (i := 5) (v := .int .i64 (S : Nat)) rfl (by kernel_rfl) (by kernel_rfl) (by kernel_rfl) (by kernel_rfl) (fun _ _ _ h => h) HS (Or.inl ⟨by rfl, fun wx hx => ?_⟩) ?_
  · clear hx HS
    go_simp
  simp only [Act.put, List.setIfInBounds_toArray, List.set_cons_zero, List.set_cons_succ]
  refine till_take (i := 6) (v := .int .i64 (L : Nat)) rfl (by kernel_rfl) (by kernel_rfl) (by kernel_rfl) (by kernel_rfl) (fun _ _ _ h => h) HS (Or.inl ⟨by rfl, fun wx hx => ?_⟩) ?_
  · clear hx HS
    go_simp
  simp only [Act.put, List.setIfInBounds_toArray, List.set_cons_zero, List.set_cons_succ]
  refine till_take (i := 9) (v := .agg #[.int .u64 b0, .int .u64 b1, .int .u64 b2, .int .u64 b3]) rfl (by kernel_rfl) (by kernel_rfl) (by kernel_rfl) (by kernel_rfl) (fun _ _ _ h => h) HS (Or.inl ⟨by rfl, fun wx hx => ?_⟩) ?_
  · obtain ⟨k0, k1, k2, k3, kf⟩ := MR.rowB hx
    clear HS
    go_simp
  simp only [Act.put, List.setIfInBounds_toArray, List.set_cons_zero, List.set_cons_succ]
  clear HS
  refine till_step (i := 3) (by kernel_rfl) rfl (fun K hK => ?_)
  go_simp
  refine (shl_calls h0 h1 h2 h3 S hh (by omega) (by omega) _).mono ?_
  rintro e w4 ⟨x0, x1, x2, x3, rfl, hx, vx, hbl⟩
  rw [Int.toNat_natCast] at vx
  have Hvx := Lib.hid vx
  clear vx
  have M4 := HM.out.onDrew hbl
  clear hbl
  go_wp2_with fail
  refine hK.out _ _ (Or.inr M4) (fun hHeld => ?_)
  clear hK K hHeld
  try simp only [Act.put, List.setIfInBounds_toArray, List.set_cons_zero, List.set_cons_succ]
  refine till_step (i := 7) (by kernel_rfl) rfl (fun K hK => ?_)
  go_simp
  refine (shr_calls l0 l1 l2 l3 L hl (by omega) (by omega) _).mono ?_
  rintro e w5 ⟨y0, y1, y2, y3, rfl, hy, vy, hbl⟩
  rw [Int.toNat_natCast] at vy
  have Hvy := Lib.hid vy
  clear vy
  have M5 := M4.on hbl
  clear hbl
  go_wp2_with fail
  refine hK.out _ _ (Or.inr M5) (fun hHeld => ?_)
  clear hK K hHeld
  try simp only [Act.put, List.setIfInBounds_toArray, List.set_cons_zero, List.set_cons_succ]
  refine till_step (i := 8) (by kernel_rfl) rfl (fun K hK => ?_)
  go_simp
  refine (joined_calls x0 x1 x2 x3 y0 y1 y2 y3 hx hy _).mono ?_
  rintro e w6 ⟨z0, z1, z2, z3, rfl, hz, vz, hbl⟩
  have Hvz := Lib.hid vz
  clear vz
  have M6 := M5.on hbl
  clear hbl
  go_wp2_with fail
  refine hK.out _ _ (Or.inr M6) (fun hHeld => ?_)
  clear hK K hHeld
  try simp only [Act.put, List.setIfInBounds_toArray, List.set_cons_zero, List.set_cons_succ]
  refine till_step (i := 10) (by kernel_rfl) rfl (fun K hK => ?_)
  go_simp
  refine (takeIn_calls r0 r1 r2 r3 z0 z1 z2 z3 b0 b1 b2 b3 hr hz hb hb3 hrb _).mono ?_
  rintro e w7 ⟨n0, n1, n2, n3, rfl, hn, vn, hbl⟩
  have Hvn := Lib.hid vn
  clear vn
  have M7 := M6.on hbl
  clear hbl
  go_wp2_with fail
  refine hK.out _ _ (Or.inr M7) (fun hHeld => ?_)
  clear hK K hHeld
  try simp only [Act.put, List.setIfInBounds_toArray, List.set_cons_zero, List.set_cons_succ]
  obtain ⟨q0, q1, q2, q3, qf⟩ := M7.rowR
  have M8 := M7.put n0 n1 n2 n3
  refine till_step (i := 11) (by kernel_rfl) rfl (fun K hK => ?_)
  have hsz := M7.size
  clear M4 M5 M6 M7
  have HM8 := Lib.hid M8
  clear M8
  go_simp
  refine hK.out _ _ (Or.inl rfl) (fun hHeld => ?_)
  clear hK K hHeld q0 q1 q2 q3 qf
  refine till_done (by kernel_rfl) ?_
  have hnb : val4 n0 n1 n2 n3 < val4 b0 b1 b2 b3 := by rw [Hvn.out]; exact Nat.mod_lt _ (by omega)
  have HG := HM8.out
  unfold set4 at HG
  generalize (((w7.setCell ⟨g10, 0, none⟩ (.int .u64 (n0 : Nat))).setCell ⟨g10, 1, none⟩ (.int .u64 (n1 : Nat))).setCell ⟨g10, 2, none⟩ (.int .u64 (n2 : Nat))).setCell ⟨g10, 3, none⟩ (.int .u64 (n3 : Nat)) = W2 at HG ⊢
  have HM9 := Lib.hid HG
  clear HG HM8 hrb
  go_wp2_with fail
  refine region_till (fun wx => MR w wx g9 g10 h0 h1 h2 h3 l0 l1 l2 l3 b0 b1 b2 b3 n0 n1 n2 n3) 6 (by kernel_rfl) ?_
  have HS : (fun wx => MR w wx g9 g10 h0 h1 h2 h3 l0 l1 l2 l3 b0 b1 b2 b3 n0 n1 n2 n3) W2.drew := HM9.out.drewN 1
  refine till_take (i := 0) (v := .agg #[.int .u64 n0, .int .u64 n1, .int .u64 n2, .int .u64 n3]) rfl (by kernel_rfl) (by kernel_rfl) (by kernel_rfl) (by kernel_rfl) (fun _ _ _ h => h) HS (Or.inl ⟨by rfl, fun wx hx => ?_⟩) ?_
  · obtain ⟨k0, k1, k2, k3, kf⟩ := MR.rowR hx
    clear HS
    go_simp
  simp only [Act.put, List.setIfInBounds_toArray, List.set_cons_zero, List.set_cons_succ]
  refine till_take (i := 1) (v := .agg #[.int .u64 l0, .int .u64 l1, .int .u64 l2, .int .u64 l3]) rfl (by kernel_rfl) (by kernel_rfl) (by kernel_rfl) (by kernel_rfl) (fun _ _ _ h => h) HS (Or.inl ⟨by rfl, fun wx hx => ?_⟩) ?_
  · obtain ⟨k0, k1, k2, k3, kf⟩ := MR.rowL hx
    clear HS
    go_simp
  simp only [Act.put, List.setIfInBounds_toArray, List.set_cons_zero, List.set_cons_succ]
  refine till_take (i := 2) (v := .int .i64 (S : Nat)) rfl (by kernel_rfl) (by kernel_rfl) (by kernel_rfl) (by kernel_rfl) (fun _ _ _ h => h) HS (Or.inl ⟨by rfl, fun wx hx => ?_⟩) ?_
  · clear hx HS
    go_simp
  simp only [Act.put, List.setIfInBounds_toArray, List.set_cons_zero, List.set_cons_succ]
  refine till_take (i := 4) (v := .agg #[.int .u64 b0, .int .u64 b1, .int .u64 b2, .int .u64 b3]) rfl (by kernel_rfl) (by kernel_rfl) (by kernel_rfl) (by kernel_rfl) (fun _ _ _ h => h) HS (Or.inl ⟨by rfl, fun wx hx => ?_⟩) ?_
  · obtain ⟨k0, k1, k2, k3, kf⟩ := MR.rowB hx
    clear HS
    go_simp
  simp only [Act.put, List.setIfInBounds_toArray, List.set_cons_zero, List.set_cons_succ]
  clear HS
  refine till_step (i := 3) (by kernel_rfl) rfl (fun K hK => ?_)
  go_simp
  refine (shl_calls l0 l1 l2 l3 S hl (by omega) (by omega) _).mono ?_
  rintro e w8 ⟨u0, u1, u2, u3, rfl, hu, vu, hbl⟩
  rw [Int.toNat_natCast] at vu
  have Hvu := Lib.hid vu
  clear vu
  have M4 := HM9.out.onDrew hbl
  clear hbl
  go_wp2_with fail
  refine hK.out _ _ (Or.inr M4) (fun hHeld => ?_)
  clear hK K hHeld
  try simp only [Act.put, List.setIfInBounds_toArray, List.set_cons_zero, List.set_cons_succ]
  refine till_step (i := 5) (by kernel_rfl) rfl (fun K hK => ?_)
  go_simp
  refine (takeIn_calls n0 n1 n2 n3 u0 u1 u2 u3 b0 b1 b2 b3 hn hu hb hb3 hnb _).mono ?_
  rintro e w9 ⟨p0, p1, p2, p3, rfl, hp, vp, hbl⟩
  have Hvp := Lib.hid vp
  clear vp
  have M7 := M4.on hbl
  clear hbl
  go_wp2_with fail
  refine hK.out _ _ (Or.inr M7) (fun hHeld => ?_)
  clear hK K hHeld
  try simp only [Act.put, List.setIfInBounds_toArray, List.set_cons_zero, List.set_cons_succ]
  obtain ⟨q0, q1, q2, q3, qf⟩ := M7.rowR
  have M8 := M7.put p0 p1 p2 p3
  refine till_step (i := 6) (by kernel_rfl) rfl (fun K hK => ?_)
  have hsz := M7.size
  clear M4 M7
  have HM8 := Lib.hid M8
  clear M8
  go_simp
  refine hK.out _ _ (Or.inl rfl) (fun hHeld => ?_)
  clear hK K hHeld q0 q1 q2 q3 qf
  refine till_done (by kernel_rfl) ?_
  have HG := HM8.out
  unfold set4 at HG
  generalize (((w9.setCell ⟨g10, 0, none⟩ (.int .u64 (p0 : Nat))).setCell ⟨g10, 1, none⟩ (.int .u64 (p1 : Nat))).setCell ⟨g10, 2, none⟩ (.int .u64 (p2 : Nat))).setCell ⟨g10, 3, none⟩ (.int .u64 (p3 : Nat)) = W3 at HG ⊢
  have HM10 := Lib.hid HG
  obtain ⟨q0, q1, q2, q3, qf⟩ := HG.rowR
  clear HG HM8
  go_wp2_with fail
  refine (shr_calls p0 p1 p2 p3 S hp (by omega) (by omega) _).mono ?_
  rintro e wz ⟨s0, s1, s2, s3, rfl, hs, vs, hbl⟩
  rw [Int.toNat_natCast] at vs
  have HF : Hid (val4 s0 s1 s2 s3 = (val4 h0 h1 h2 h3 * 115792089237316195423570985008687907853269984665640564039457584007913129639936 + val4 l0 l1 l2 l3) % val4 m0 m1 m2 m3) := Lib.hid (by
    rw [vs, HeS.out]
    refine mod_fin (L := L) (r1 := val4 n0 n1 n2 n3) bL ?_ ?_
    · rw [Hvn.out, Hvz.out, Hvx.out, Hvy.out, Hevb.out, Hvr.out, HeS.out, join_sum bL (val4_lt hl)]
    · rw [Hvp.out, Hvu.out, Hevb.out, HeS.out])
  have M11 := HM10.out.on hbl
  obtain ⟨o0, o1, o2, o3, of⟩ := M11.rowO
  have HB := Lib.hid M11.below
  clear vs hbl M11 q0 q1 q2 q3 qf
  go_wp2_with fail
  refine bodyPost_ret (v := .tuple #[.agg #[.int .u64 s0, .int .u64 s1, .int .u64 s2, .int .u64 s3], .int .i64 0]) (by simp [results, Tryz.results158, go_sem, *]) rfl ?_
  exact ⟨s0, s1, s2, s3, 0, rfl, hs, ⟨HF.out, rfl⟩, below_set4 HB.out (by omega) _ _ _ _⟩

/-- limbs.Mod, for any numbers -/
theorem mod_calls (h0 h1 h2 h3 l0 l1 l2 l3 m0 m1 m2 m3 : Nat) (hh : ok4 h0 h1 h2 h3) (hl : ok4 l0 l1 l2 l3) (hm : ok4 m0 m1 m2 m3) (w : World) :
    Calls Tryz.prog 158 #[.agg #[.int .u64 h0, .int .u64 h1, .int .u64 h2, .int .u64 h3], .agg #[.int .u64 l0, .int .u64 l1, .int .u64 l2, .int .u64 l3], .agg #[.int .u64 m0, .int .u64 m1, .int .u64 m2, .int .u64 m3]] w (ModPost (fun v c => val4 m0 m1 m2 m3 = 0 ∧ v = 0 ∧ c = 22 ∨ 0 < val4 m0 m1 m2 m3 ∧ v = (val4 h0 h1 h2 h3 * 115792089237316195423570985008687907853269984665640564039457584007913129639936 + val4 l0 l1 l2 l3) % val4 m0 m1 m2 m3 ∧ c = 0) w) := by
  rcases Nat.eq_zero_or_pos (val4 m0 m1 m2 m3) with hz | hz
  · obtain ⟨e0, e1, e2, e3⟩ := val4_inj hm (show ok4 0 0 0 0 from ⟨by omega, by omega, by omega, by omega⟩) (hz.trans (show 0 = val4 0 0 0 0 from rfl))
    subst e0; subst e1; subst e2; subst e3
    exact (mod_zero h0 h1 h2 h3 l0 l1 l2 l3 w).mono fun e w' ⟨s0, s1, s2, s3, c, he, hs, hv, hb⟩ => ⟨s0, s1, s2, s3, c, he, hs, Or.inl ⟨hz, hv⟩, hb⟩
  · exact (mod_some h0 h1 h2 h3 l0 l1 l2 l3 m0 m1 m2 m3 hh hl hm hz w).mono fun e w' ⟨s0, s1, s2, s3, c, he, hs, hv, hb⟩ => ⟨s0, s1, s2, s3, c, he, hs, Or.inr ⟨hz, hv⟩, hb⟩
end Go.Proofs.YtgacpjmggdmgdaaGreat
