/-
  The call of limbs.takeWord: the rest times 2^64 and a word more, modulo a divisor whose highest bit is set. Conditions: the divisor's highest word at least 2^63, the rest below the divisor, each word below 2^64.
-/
import Derived.Test.YtgacpjmggdmgdaaGreatDiv
import Derived.Test.YtgacpjmggdmgdaaGreatMulS
import Derived.Test.YtgacpjmggdmgdaaGreatNums
import Derived.Deep.LoopGhost
namespace Go.Proofs.YtgacpjmggdmgdaaGreat
set_option linter.unusedVariables false
open Go.RowKit

def WordPost (P : Nat → Prop) (w : World) (e : Ending) (w' : World) : Prop :=
  ∃ s0 s1 s2 s3 : Nat, e = .returned (.agg #[.int .u64 s0, .int .u64 s1, .int .u64 s2, .int .u64 s3]) ∧ ok4 s0 s1 s2 s3 ∧ P (val4 s0 s1 s2 s3) ∧ Below w.heap.size w w'

/-- the world in the rounds of takeWord -/
structure TW (w wr : World) (lb : Nat) (b0 b1 b2 b3 s0 s1 s2 s3 : Nat) : Prop where
  below : Below w.heap.size w wr
  size : lb < wr.heap.size
  lo : w.heap.size + 1 + 1 < lb
  rowB : Row4 wr (w.heap.size + 1) b0 b1 b2 b3
  rowO : Row4 wr (w.heap.size + 1 + 1) 0 0 0 0
  rowS : Row4 wr lb s0 s1 s2 s3
theorem below3 (w : World) (o1 o2 o3 : Obj) : Below w.heap.size w (((w.alloc o1).alloc o2).alloc o3) :=
  (((Below.refl _ _).alloc (Nat.le_refl _) o1).alloc (by simp) o2).alloc (by simp; omega) o3

set_option maxHeartbeats 1000000 in
theorem takeWord_lt (r0 r1 r2 r3 x b0 b1 b2 b3 : Nat) (hr : ok4 r0 r1 r2 r3) (hx : x < 18446744073709551616) (hb : ok4 b0 b1 b2 b3) (h3 : 9223372036854775808 ≤ b3) (hlt : val4 r0 r1 r2 r3 < val4 b0 b1 b2 b3) (hg : r3 < b3) (w : World) :
    Calls Tryz.prog 179 #[.agg #[.int .u64 r0, .int .u64 r1, .int .u64 r2, .int .u64 r3], .int .u64 x, .agg #[.int .u64 b0, .int .u64 b1, .int .u64 b2, .int .u64 b3]] w (WordPost (fun n => n = (val4 r0 r1 r2 r3 * 18446744073709551616 + x) % val4 b0 b1 b2 b3) w) := by
  obtain ⟨g, ρ, dg, bg, bρ, eg⟩ := ex_Div64 hg hr.2.2.1 hb.2.2.2
  have cg : g < 18446744073709551616 := bg
  have HF := Lib.hid (show (val4 r0 r1 r2 r3 * 18446744073709551616 + x) / val4 b0 b1 b2 b3 ≤ g ∧ g ≤ (val4 r0 r1 r2 r3 * 18446744073709551616 + x) / val4 b0 b1 b2 b3 + 2 by
    obtain ⟨t, e1, ht⟩ := val4_hi b0 b1 b2 b3 hb
    obtain ⟨m, e2, hm⟩ := low3 (r2 := r2) hx hr.1 hr.2.1
    have eg := eg.out
    exact guess_lt e1 ht h3 (r := r3 * 18446744073709551616 + r2) (m := m) (by rw [top5, e2]; omega) hm bg (by omega) (by omega))
  clear eg bρ
  go_enter Tryz.func179, Tryz.ntmps179
  go_wp2_with fail
  refine (dg _).mono ?_
  rintro e w' ⟨rfl, n, rfl⟩
  go_wp2_with fail
  refine (tw_calls b0 b1 b2 b3 g hb cg _).mono ?_
  rintro e w1 ⟨p0, p1, p2, p3, o, rfl, hp, ho, ep, hbl⟩
  have R1 := (((Row4.new w r0 r1 r2 r3 50).alloc (by simp) _).alloc (by simp; omega) _).drewN n |>.below hbl (by simp; omega)
  have B1 := (((Row4.new (w.alloc _) b0 b1 b2 b3 50).alloc (by simp) _).drewN n).below hbl (by simp)
  have O1 := ((Row4.new ((w.alloc _).alloc _) 0 0 0 0 50).drewN n).below hbl (by simp)
  simp only [World.size_alloc] at B1 O1
  have hz1 : w.heap.size + 1 + 1 < w1.heap.size := by have := hbl.size; simp at this; omega
  have hy1 : w.heap.size + 1 < w1.heap.size := by omega
  have hx1 : w.heap.size < w1.heap.size := by omega
  have Hbl := Lib.hid hbl; have Hep := Lib.hid ep
  clear hbl ep
  have R1' := R1
  obtain ⟨x0, x1, x2, x3, xf⟩ := R1
  go_wp2_with fail
  refine (sub_calls x r0 r1 r2 p0 p1 p2 p3 ⟨hx, hr.1, hr.2.1, hr.2.2.1⟩ hp _).mono ?_
  rintro e w2 ⟨s0, s1, s2, s3, c, rfl, hs, hc, es, hbl⟩
  have R2 := (R1'.alloc hx1 _).below hbl (by rw [World.size_alloc]; omega)
  have B2 := (B1.alloc hy1 _).below hbl (by rw [World.size_alloc]; omega)
  have O2 := (O1.alloc hz1 _).below hbl (by rw [World.size_alloc]; omega)
  have hz2 : w1.heap.size < w2.heap.size := by have := hbl.size; simp at this; omega
  have hw2 : w.heap.size + 1 + 1 < w2.heap.size := by omega
  have hy2 : w.heap.size + 1 < w2.heap.size := by omega
  have hx2 : w.heap.size < w2.heap.size := by omega
  have Hbl2 := Lib.hid hbl; have Hes := Lib.hid es
  clear hbl es x0 x1 x2 x3 xf
  obtain ⟨x0, x1, x2, x3, xf⟩ := R2
  have vb := val4_lt hb
  obtain ⟨top, etop, btop, ti⟩ := ti_start (N := val4 r0 r1 r2 r3 * 18446744073709551616 + x) (r3 := r3) vb (by omega) (top5 r0 r1 r2 r3 x) (val4_lt ⟨hx, hr.1, hr.2.1, hr.2.2.1⟩) HF.out.1 HF.out.2 hr.2.2.2 ho Hep.out (val4_lt hp) Hes.out (val4_lt hs)
  have Hti := Lib.hid ti
  have HB2 : Below w.heap.size w (w2.alloc (.cells #[.int .u64 s0, .int .u64 s1, .int .u64 s2, .int .u64 s3] 50)) :=
    (((below3 w _ _ _).trans (below_drewN' _ _ n)).trans (Hbl.out.mono (by simp; omega)) |>.alloc (by omega) _ |>.trans (Hbl2.out.mono (by rw [World.size_alloc]; omega))).alloc (by omega) _
  have HH := Lib.hid HB2
  clear ti vb HB2 Hbl Hbl2 Hep Hes HF
  go_wp2_with fail
  clear etop x0 x1 x2 x3 xf
  go_loopg [12] (g - (val4 r0 r1 r2 r3 * 18446744073709551616 + x) / val4 b0 b1 b2 b3) (fun k t wr => ∃ top s0 s1 s2 s3, t = .int .u64 (top : Nat) ∧ top < 18446744073709551616 ∧ ok4 s0 s1 s2 s3 ∧ Hid (TI (val4 b0 b1 b2 b3) ((val4 r0 r1 r2 r3 * 18446744073709551616 + x) % val4 b0 b1 b2 b3) k top (val4 s0 s1 s2 s3)) ∧ TW w wr w2.heap.size b0 b1 b2 b3 s0 s1 s2 s3)
  case atStart => exact ⟨top, s0, s1, s2, s3, rfl, btop, hs, Hti, ⟨HH.out, by simp, by omega, B2.alloc hy2 _, O2.alloc hw2 _, Row4.new _ _ _ _ _ _⟩⟩
  case round =>
    obtain ⟨top, s0, s1, s2, s3, rfl, btop, hs, ti, tw⟩ := hrel
    obtain ⟨y0, y1, y2, y3, yf⟩ := tw.rowB
    obtain ⟨z0, z1, z2, z3, zf⟩ := tw.rowS
    obtain ⟨o0, o1, o2, o3, of⟩ := tw.rowO
    have hsz := tw.size
    have hlo := tw.lo
    rcases Nat.eq_zero_or_pos gk with rfl | hk
    · have ht := ti.out.2.1 rfl
      have t0 : ((top : Int) != 0) = false := by simp [ht.1]
      have HR := Lib.hid ht.2
      have HB := Lib.hid tw.below
      have HW := Lib.hid tw
      clear ti ht tw
      go_wp2_with fail
      refine bodyPost_ret (v := .agg #[.int .u64 s0, .int .u64 s1, .int .u64 s2, .int .u64 s3]) (by simp [results, Tryz.results179, go_sem, *]) rfl ?_
      exact ⟨s0, s1, s2, s3, rfl, hs, HR.out, below_set4 HB.out (by omega) _ _ _ _⟩
    · obtain ⟨k, rfl⟩ : ∃ k, gk = k + 1 := ⟨gk - 1, by omega⟩
      have hp := ti_top ti.out hk
      have t0 : ((top : Int) != 0) = true := by simp; omega
      have HW := Lib.hid tw
      clear tw
      go_wp2_with fail
      refine (add_calls s0 s1 s2 s3 b0 b1 b2 b3 hs hb _).mono ?_
      rintro e w3 ⟨n0, n1, n2, n3, c, rfl, hn, hc, en, hbl⟩
      have hz3 : wr.heap.size ≤ w3.heap.size := hbl.size
      obtain ⟨top', et, bt, ti'⟩ := ti_round (val4_lt hb) (Nat.mod_lt _ (by have := val4_lt hb; omega)) ti.out btop (val4_lt hs) (val4_lt hn) hc en
      have S3 := HW.out.rowS.below hbl hsz
      have T3 : TW w (set4 w3 w2.heap.size n0 n1 n2 n3) w2.heap.size b0 b1 b2 b3 n0 n1 n2 n3 :=
        ⟨below_set4 (HW.out.below.trans (hbl.mono HW.out.below.size)) (by omega) _ _ _ _, by unfold set4; simp only [World.size_setCell]; omega, hlo,
          (HW.out.rowB.below hbl (by omega)).set4_other (by omega) _ _ _ _, (HW.out.rowO.below hbl (by omega)).set4_other (by omega) _ _ _ _, S3.set4 _ _ _ _⟩
      have HT := Lib.hid T3
      have Hti := Lib.hid ti'
      obtain ⟨v0, v1, v2, v3, vf⟩ := S3
      clear hbl en T3 ti' ti
      go_wp2_with fail
      go_roundg k
      case rel => exact ⟨top', n0, n1, n2, n3, rfl, bt, hn, Hti, HT.out⟩
      case measure => omega
set_option maxHeartbeats 1000000 in
theorem takeWord_eq (r0 r1 r2 r3 x b0 b1 b2 b3 : Nat) (hr : ok4 r0 r1 r2 r3) (hx : x < 18446744073709551616) (hb : ok4 b0 b1 b2 b3) (h3 : 9223372036854775808 ≤ b3) (hlt : val4 r0 r1 r2 r3 < val4 b0 b1 b2 b3) (hg : ¬ r3 < b3) (w : World) :
    Calls Tryz.prog 179 #[.agg #[.int .u64 r0, .int .u64 r1, .int .u64 r2, .int .u64 r3], .int .u64 x, .agg #[.int .u64 b0, .int .u64 b1, .int .u64 b2, .int .u64 b3]] w (WordPost (fun n => n = (val4 r0 r1 r2 r3 * 18446744073709551616 + x) % val4 b0 b1 b2 b3) w) := by
  have HF := Lib.hid (show (val4 r0 r1 r2 r3 * 18446744073709551616 + x) / val4 b0 b1 b2 b3 ≤ 18446744073709551615 ∧ 18446744073709551615 ≤ (val4 r0 r1 r2 r3 * 18446744073709551616 + x) / val4 b0 b1 b2 b3 + 2 by
    obtain ⟨t, e1, ht⟩ := val4_hi b0 b1 b2 b3 hb
    obtain ⟨t', e1', ht'⟩ := val4_hi r0 r1 r2 r3 hr
    obtain ⟨m, e2, hm⟩ := low3 (r2 := r2) hx hr.1 hr.2.1
    exact guess_eq e1 ht h3 (r2 := r2) (m := m) (by rw [top5, e2]; omega) rfl hx hlt)
  go_enter Tryz.func179, Tryz.ntmps179
  go_wp2_with fail
  refine (tw_calls b0 b1 b2 b3 18446744073709551615 hb (by omega) _).mono ?_
  rintro e w1 ⟨p0, p1, p2, p3, o, rfl, hp, ho, ep, hbl⟩
  have R1 := (((Row4.new w r0 r1 r2 r3 50).alloc (by simp) _).alloc (by simp; omega) _) |>.below hbl (by simp; omega)
  have B1 := (((Row4.new (w.alloc _) b0 b1 b2 b3 50).alloc (by simp) _)).below hbl (by simp)
  have O1 := ((Row4.new ((w.alloc _).alloc _) 0 0 0 0 50)).below hbl (by simp)
  simp only [World.size_alloc] at B1 O1
  have hz1 : w.heap.size + 1 + 1 < w1.heap.size := by have := hbl.size; simp at this; omega
  have hy1 : w.heap.size + 1 < w1.heap.size := by omega
  have hx1 : w.heap.size < w1.heap.size := by omega
  have Hbl := Lib.hid hbl; have Hep := Lib.hid ep
  clear hbl ep
  have R1' := R1
  obtain ⟨x0, x1, x2, x3, xf⟩ := R1
  go_wp2_with fail
  refine (sub_calls x r0 r1 r2 p0 p1 p2 p3 ⟨hx, hr.1, hr.2.1, hr.2.2.1⟩ hp _).mono ?_
  rintro e w2 ⟨s0, s1, s2, s3, c, rfl, hs, hc, es, hbl⟩
  have R2 := (R1'.alloc hx1 _).below hbl (by rw [World.size_alloc]; omega)
  have B2 := (B1.alloc hy1 _).below hbl (by rw [World.size_alloc]; omega)
  have O2 := (O1.alloc hz1 _).below hbl (by rw [World.size_alloc]; omega)
  have hz2 : w1.heap.size < w2.heap.size := by have := hbl.size; simp at this; omega
  have hw2 : w.heap.size + 1 + 1 < w2.heap.size := by omega
  have hy2 : w.heap.size + 1 < w2.heap.size := by omega
  have hx2 : w.heap.size < w2.heap.size := by omega
  have Hbl2 := Lib.hid hbl; have Hes := Lib.hid es
  clear hbl es x0 x1 x2 x3 xf
  obtain ⟨x0, x1, x2, x3, xf⟩ := R2
  have vb := val4_lt hb
  obtain ⟨top, etop, btop, ti⟩ := ti_start (N := val4 r0 r1 r2 r3 * 18446744073709551616 + x) (r3 := r3) vb (by omega) (top5 r0 r1 r2 r3 x) (val4_lt ⟨hx, hr.1, hr.2.1, hr.2.2.1⟩) HF.out.1 HF.out.2 hr.2.2.2 ho Hep.out (val4_lt hp) Hes.out (val4_lt hs)
  have Hti := Lib.hid ti
  have HB2 : Below w.heap.size w (w2.alloc (.cells #[.int .u64 s0, .int .u64 s1, .int .u64 s2, .int .u64 s3] 50)) :=
    ((below3 w _ _ _).trans (Hbl.out.mono (by simp; omega)) |>.alloc (by omega) _ |>.trans (Hbl2.out.mono (by rw [World.size_alloc]; omega))).alloc (by omega) _
  have HH := Lib.hid HB2
  clear ti vb HB2 Hbl Hbl2 Hep Hes HF
  go_wp2_with fail
  clear etop x0 x1 x2 x3 xf
  go_loopg [12] (18446744073709551615 - (val4 r0 r1 r2 r3 * 18446744073709551616 + x) / val4 b0 b1 b2 b3) (fun k t wr => ∃ top s0 s1 s2 s3, t = .int .u64 (top : Nat) ∧ top < 18446744073709551616 ∧ ok4 s0 s1 s2 s3 ∧ Hid (TI (val4 b0 b1 b2 b3) ((val4 r0 r1 r2 r3 * 18446744073709551616 + x) % val4 b0 b1 b2 b3) k top (val4 s0 s1 s2 s3)) ∧ TW w wr w2.heap.size b0 b1 b2 b3 s0 s1 s2 s3)
  case atStart => exact ⟨top, s0, s1, s2, s3, rfl, btop, hs, Hti, ⟨HH.out, by simp, by omega, B2.alloc hy2 _, O2.alloc hw2 _, Row4.new _ _ _ _ _ _⟩⟩
  case round =>
    obtain ⟨top, s0, s1, s2, s3, rfl, btop, hs, ti, tw⟩ := hrel
    obtain ⟨y0, y1, y2, y3, yf⟩ := tw.rowB
    obtain ⟨z0, z1, z2, z3, zf⟩ := tw.rowS
    obtain ⟨o0, o1, o2, o3, of⟩ := tw.rowO
    have hsz := tw.size
    have hlo := tw.lo
    rcases Nat.eq_zero_or_pos gk with rfl | hk
    · have ht := ti.out.2.1 rfl
      have t0 : ((top : Int) != 0) = false := by simp [ht.1]
      have HR := Lib.hid ht.2
      have HB := Lib.hid tw.below
      have HW := Lib.hid tw
      clear ti ht tw
      go_wp2_with fail
      refine bodyPost_ret (v := .agg #[.int .u64 s0, .int .u64 s1, .int .u64 s2, .int .u64 s3]) (by simp [results, Tryz.results179, go_sem, *]) rfl ?_
      exact ⟨s0, s1, s2, s3, rfl, hs, HR.out, below_set4 HB.out (by omega) _ _ _ _⟩
    · obtain ⟨k, rfl⟩ : ∃ k, gk = k + 1 := ⟨gk - 1, by omega⟩
      have hp := ti_top ti.out hk
      have t0 : ((top : Int) != 0) = true := by simp; omega
      have HW := Lib.hid tw
      clear tw
      go_wp2_with fail
      refine (add_calls s0 s1 s2 s3 b0 b1 b2 b3 hs hb _).mono ?_
      rintro e w3 ⟨n0, n1, n2, n3, c, rfl, hn, hc, en, hbl⟩
      have hz3 : wr.heap.size ≤ w3.heap.size := hbl.size
      obtain ⟨top', et, bt, ti'⟩ := ti_round (val4_lt hb) (Nat.mod_lt _ (by have := val4_lt hb; omega)) ti.out btop (val4_lt hs) (val4_lt hn) hc en
      have S3 := HW.out.rowS.below hbl hsz
      have T3 : TW w (set4 w3 w2.heap.size n0 n1 n2 n3) w2.heap.size b0 b1 b2 b3 n0 n1 n2 n3 :=
        ⟨below_set4 (HW.out.below.trans (hbl.mono HW.out.below.size)) (by omega) _ _ _ _, by unfold set4; simp only [World.size_setCell]; omega, hlo,
          (HW.out.rowB.below hbl (by omega)).set4_other (by omega) _ _ _ _, (HW.out.rowO.below hbl (by omega)).set4_other (by omega) _ _ _ _, S3.set4 _ _ _ _⟩
      have HT := Lib.hid T3
      have Hti := Lib.hid ti'
      obtain ⟨v0, v1, v2, v3, vf⟩ := S3
      clear hbl en T3 ti' ti
      go_wp2_with fail
      go_roundg k
      case rel => exact ⟨top', n0, n1, n2, n3, rfl, bt, hn, Hti, HT.out⟩
      case measure => omega

theorem takeWord_calls (r0 r1 r2 r3 x b0 b1 b2 b3 : Nat) (hr : ok4 r0 r1 r2 r3) (hx : x < 18446744073709551616) (hb : ok4 b0 b1 b2 b3) (h3 : 9223372036854775808 ≤ b3) (hlt : val4 r0 r1 r2 r3 < val4 b0 b1 b2 b3) (w : World) :
    Calls Tryz.prog 179 #[.agg #[.int .u64 r0, .int .u64 r1, .int .u64 r2, .int .u64 r3], .int .u64 x, .agg #[.int .u64 b0, .int .u64 b1, .int .u64 b2, .int .u64 b3]] w (WordPost (fun n => n = (val4 r0 r1 r2 r3 * 18446744073709551616 + x) % val4 b0 b1 b2 b3) w) := by
  by_cases hg : r3 < b3
  · exact takeWord_lt r0 r1 r2 r3 x b0 b1 b2 b3 hr hx hb h3 hlt hg w
  · exact takeWord_eq r0 r1 r2 r3 x b0 b1 b2 b3 hr hx hb h3 hlt hg w
end Go.Proofs.YtgacpjmggdmgdaaGreat
