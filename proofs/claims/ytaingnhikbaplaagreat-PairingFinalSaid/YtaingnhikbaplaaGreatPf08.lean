/-
  The call of limbs.takeWord: the rest times 2^64 and a word more, modulo a divisor whose highest bit is set. Conditions: the divisor's highest word at least 2^63, the rest below the divisor, each word below 2^64.
  Memory through a row of calls: the rows of words that were laid, and that nothing older is changed. Of whatever program. Conditions: none.
  The calls of the field's words: a product of two words with two more, a number below two moduli made one below the modulus, sums and differences modulo it, the test whether a number is below it. Conditions: words below 2^64, the constants in a block of memory.
  The field's product: of any four words and a number below the modulus, the product divided by 2^256. Conditions: words below 2^64, the second number below the modulus, the constants in a block of memory.
  The field's test whether a number is below the modulus, its sum and its difference. Conditions: words below 2^64, the constants in a block of memory; sums and differences of numbers below the modulus.
-/
import Derived.Deep.LoopGhost
import Derived.Test.YtaingnhikbaplaaGreatPf07
import Derived.Test.YtaingnhikbaplaaGreatPf06
import Derived.Test.YtaingnhikbaplaaGreatPf00
namespace Go.Proofs.YtaingnhikbaplaaGreat
set_option linter.unusedVariables false
open Go.RowKit

def WordPost (P : Nat → Prop) (w : World) (e : Ending) (w' : World) : Prop :=
  ∃ s0 s1 s2 s3 : Nat, e = .returned (.agg #[.int .u64 s0, .int .u64 s1, .int .u64 s2, .int .u64 s3]) ∧ ok4 s0 s1 s2 s3 ∧ P (val4 s0 s1 s2 s3) ∧ Below w.heap.size w w'

/-- the world in the rounds of takeWord -/
structure TW (w wr : World) (lb : Nat) (b0 b1 b2 b3 s0 s1 s2 s3 : Nat) : Prop where
  below : Below w.heap.size w wr
  size : lb < wr.heap.size
  lo : w.heap.size + 1 + 1 < lb
  rowB : Row4 wr (w.heap.size + 1) b0 b1 b2 b3
  rowO : Row4 wr (w.heap.size + 1 + 1) 0 0 0 0
  rowS : Row4 wr lb s0 s1 s2 s3
theorem below3 (w : World) (o1 o2 o3 : Obj) : Below w.heap.size w (((w.alloc o1).alloc o2).alloc o3) :=
  (((Below.refl _ _).alloc (Nat.le_refl _) o1).alloc (by simp) o2).alloc (by simp; omega) o3

set_option maxHeartbeats 1000000 in
theorem takeWord_lt (r0 r1 r2 r3 x b0 b1 b2 b3 : Nat) (hr : ok4 r0 r1 r2 r3) (hx : x < 18446744073709551616) (hb : ok4 b0 b1 b2 b3) (h3 : 9223372036854775808 ≤ b3) (hlt : val4 r0 r1 r2 r3 < val4 b0 b1 b2 b3) (hg : r3 < b3) (w : World) :
    Calls Tryz.prog 318 #[.agg #[.int .u64 r0, .int .u64 r1, .int .u64 r2, .int .u64 r3], .int .u64 x, .agg #[.int .u64 b0, .int .u64 b1, .int .u64 b2, .int .u64 b3]] w (WordPost (fun n => n = (val4 r0 r1 r2 r3 * 18446744073709551616 + x) % val4 b0 b1 b2 b3) w) := by
  obtain ⟨g, ρ, dg, bg, bρ, eg⟩ := ex_Div64 hg hr.2.2.1 hb.2.2.2
  have cg : g < 18446744073709551616 := bg
  have HF := Lib.hid (show (val4 r0 r1 r2 r3 * 18446744073709551616 + x) / val4 b0 b1 b2 b3 ≤ g ∧ g ≤ (val4 r0 r1 r2 r3 * 18446744073709551616 + x) / val4 b0 b1 b2 b3 + 2 by
    obtain ⟨t, e1, ht⟩ := val4_hi b0 b1 b2 b3 hb
    obtain ⟨m, e2, hm⟩ := low3 (r2 := r2) hx hr.1 hr.2.1
    have eg := eg.out
    exact guess_lt e1 ht h3 (r := r3 * 18446744073709551616 + r2) (m := m) (by rw [top5, e2]; omega) hm bg (by omega) (by omega))
  clear eg bρ
  go_enter Tryz.func318, Tryz.ntmps318
  go_wp2_with fail
  refine (dg _).mono ?_
  rintro e w' ⟨rfl, n, rfl⟩
  go_wp2_with fail
  refine (tw_calls b0 b1 b2 b3 g hb cg _).mono ?_
  rintro e w1 ⟨p0, p1, p2, p3, o, rfl, hp, ho, ep, hbl⟩
  have R1 := (((Row4.new w r0 r1 r2 r3 70).alloc (by simp) _).alloc (by simp; omega) _).drewN n |>.below hbl (by simp; omega)
  have B1 := (((Row4.new (w.alloc _) b0 b1 b2 b3 70).alloc (by simp) _).drewN n).below hbl (by simp)
  have O1 := ((Row4.new ((w.alloc _).alloc _) 0 0 0 0 70).drewN n).below hbl (by simp)
  simp only [World.size_alloc] at B1 O1
  have hz1 : w.heap.size + 1 + 1 < w1.heap.size := by have := hbl.size; simp at this; omega
  have hy1 : w.heap.size + 1 < w1.heap.size := by omega
  have hx1 : w.heap.size < w1.heap.size := by omega
  have Hbl := Lib.hid hbl; have Hep := Lib.hid ep
  clear hbl ep
  have R1' := R1
  obtain ⟨x0, x1, x2, x3, xf⟩ := R1
  go_wp2_with fail
  refine (sub_calls x r0 r1 r2 p0 p1 p2 p3 ⟨hx, hr.1, hr.2.1, hr.2.2.1⟩ hp _).mono ?_
  rintro e w2 ⟨s0, s1, s2, s3, c, rfl, hs, hc, es, hbl⟩
  have R2 := (R1'.alloc hx1 _).below hbl (by rw [World.size_alloc]; omega)
  have B2 := (B1.alloc hy1 _).below hbl (by rw [World.size_alloc]; omega)
  have O2 := (O1.alloc hz1 _).below hbl (by rw [World.size_alloc]; omega)
  have hz2 : w1.heap.size < w2.heap.size := by have := hbl.size; simp at this; omega
  have hw2 : w.heap.size + 1 + 1 < w2.heap.size := by omega
  have hy2 : w.heap.size + 1 < w2.heap.size := by omega
  have hx2 : w.heap.size < w2.heap.size := by omega
  have Hbl2 := Lib.hid hbl; have Hes := Lib.hid es
  clear hbl es x0 x1 x2 x3 xf
  obtain ⟨x0, x1, x2, x3, xf⟩ := R2
  have vb := val4_lt hb
  obtain ⟨top, etop, btop, ti⟩ := ti_start (N := val4 r0 r1 r2 r3 * 18446744073709551616 + x) (r3 := r3) vb (by omega) (top5 r0 r1 r2 r3 x) (val4_lt ⟨hx, hr.1, hr.2.1, hr.2.2.1⟩) HF.out.1 HF.out.2 hr.2.2.2 ho Hep.out (val4_lt hp) Hes.out (val4_lt hs)
  have Hti := Lib.hid ti
  have HB2 : Below w.heap.size w (w2.alloc (.cells #[.int .u64 s0, .int .u64 s1, .int .u64 s2, .int .u64 s3] 70)) :=
    (((below3 w _ _ _).trans (below_drewN' _ _ n)).trans (Hbl.out.mono (by simp; omega)) |>.alloc (by omega) _ |>.trans (Hbl2.out.mono (by rw [World.size_alloc]; omega))).alloc (by omega) _
  have HH := Lib.hid HB2
  clear ti vb HB2 Hbl Hbl2 Hep Hes HF
  go_wp2_with fail
  clear etop x0 x1 x2 x3 xf
  go_loopg [12] (g - (val4 r0 r1 r2 r3 * 18446744073709551616 + x) / val4 b0 b1 b2 b3) (fun k t wr => ∃ top s0 s1 s2 s3, t = .int .u64 (top : Nat) ∧ top < 18446744073709551616 ∧ ok4 s0 s1 s2 s3 ∧ Hid (TI (val4 b0 b1 b2 b3) ((val4 r0 r1 r2 r3 * 18446744073709551616 + x) % val4 b0 b1 b2 b3) k top (val4 s0 s1 s2 s3)) ∧ TW w wr w2.heap.size b0 b1 b2 b3 s0 s1 s2 s3)
  case atStart => exact ⟨top, s0, s1, s2, s3, rfl, btop, hs, Hti, ⟨HH.out, by simp, by omega, B2.alloc hy2 _, O2.alloc hw2 _, Row4.new _ _ _ _ _ _⟩⟩
  case round =>
    obtain ⟨top, s0, s1, s2, s3, rfl, btop, hs, ti, tw⟩ := hrel
    obtain ⟨y0, y1, y2, y3, yf⟩ := tw.rowB
    obtain ⟨z0, z1, z2, z3, zf⟩ := tw.rowS
    obtain ⟨o0, o1, o2, o3, of⟩ := tw.rowO
    have hsz := tw.size
    have hlo := tw.lo
    rcases Nat.eq_zero_or_pos gk with rfl | hk
    · have ht := ti.out.2.1 rfl
      have t0 : ((top : Int) != 0) = false := by simp [ht.1]
      have HR := Lib.hid ht.2
      have HB := Lib.hid tw.below
      have HW := Lib.hid tw
      clear ti ht tw
      go_wp2_with fail
      refine bodyPost_ret (v := .agg #[.int .u64 s0, .int .u64 s1, .int .u64 s2, .int .u64 s3]) (by simp [results, Tryz.results318, go_sem, *]) rfl ?_
      exact ⟨s0, s1, s2, s3, rfl, hs, HR.out, below_set4 HB.out (by omega) _ _ _ _⟩
    · obtain ⟨k, rfl⟩ : ∃ k, gk = k + 1 := ⟨gk - 1, by omega⟩
      have hp := ti_top ti.out hk
      have t0 : ((top : Int) != 0) = true := by simp; omega
      have HW := Lib.hid tw
      clear tw
      go_wp2_with fail
      refine (add_calls s0 s1 s2 s3 b0 b1 b2 b3 hs hb _).mono ?_
      rintro e w3 ⟨n0, n1, n2, n3, c, rfl, hn, hc, en, hbl⟩
      have hz3 : wr.heap.size ≤ w3.heap.size := hbl.size
      obtain ⟨top', et, bt, ti'⟩ := ti_round (val4_lt hb) (Nat.mod_lt _ (by have := val4_lt hb; omega)) ti.out btop (val4_lt hs) (val4_lt hn) hc en
      have S3 := HW.out.rowS.below hbl hsz
      have T3 : TW w (set4 w3 w2.heap.size n0 n1 n2 n3) w2.heap.size b0 b1 b2 b3 n0 n1 n2 n3 :=
        ⟨below_set4 (HW.out.below.trans (hbl.mono HW.out.below.size)) (by omega) _ _ _ _, by unfold set4; simp only [World.size_setCell]; omega, hlo,
          (HW.out.rowB.below hbl (by omega)).set4_other (by omega) _ _ _ _, (HW.out.rowO.below hbl (by omega)).set4_other (by omega) _ _ _ _, S3.set4 _ _ _ _⟩
      have HT := Lib.hid T3
      have Hti := Lib.hid ti'
      obtain ⟨v0, v1, v2, v3, vf⟩ := S3
      clear hbl en T3 ti' ti
      go_wp2_with fail
      go_roundg k
      case rel => exact ⟨top', n0, n1, n2, n3, rfl, bt, hn, Hti, HT.out⟩
      case measure => omega
set_option maxHeartbeats 1000000 in
theorem takeWord_eq (r0 r1 r2 r3 x b0 b1 b2 b3 : Nat) (hr : ok4 r0 r1 r2 r3) (hx : x < 18446744073709551616) (hb : ok4 b0 b1 b2 b3) (h3 : 9223372036854775808 ≤ b3) (hlt : val4 r0 r1 r2 r3 < val4 b0 b1 b2 b3) (hg : ¬ r3 < b3) (w : World) :
    Calls Tryz.prog 318 #[.agg #[.int .u64 r0, .int .u64 r1, .int .u64 r2, .int .u64 r3], .int .u64 x, .agg #[.int .u64 b0, .int .u64 b1, .int .u64 b2, .int .u64 b3]] w (WordPost (fun n => n = (val4 r0 r1 r2 r3 * 18446744073709551616 + x) % val4 b0 b1 b2 b3) w) := by
  have HF := Lib.hid (show (val4 r0 r1 r2 r3 * 18446744073709551616 + x) / val4 b0 b1 b2 b3 ≤ 18446744073709551615 ∧ 18446744073709551615 ≤ (val4 r0 r1 r2 r3 * 18446744073709551616 + x) / val4 b0 b1 b2 b3 + 2 by
    obtain ⟨t, e1, ht⟩ := val4_hi b0 b1 b2 b3 hb
    obtain ⟨t', e1', ht'⟩ := val4_hi r0 r1 r2 r3 hr
    obtain ⟨m, e2, hm⟩ := low3 (r2 := r2) hx hr.1 hr.2.1
    exact guess_eq e1 ht h3 (r2 := r2) (m := m) (by rw [top5, e2]; omega) rfl hx hlt)
  go_enter Tryz.func318, Tryz.ntmps318
  go_wp2_with fail
  refine (tw_calls b0 b1 b2 b3 18446744073709551615 hb (by omega) _).mono ?_
  rintro e w1 ⟨p0, p1, p2, p3, o, rfl, hp, ho, ep, hbl⟩
  have R1 := (((Row4.new w r0 r1 r2 r3 70).alloc (by simp) _).alloc (by simp; omega) _) |>.below hbl (by simp; omega)
  have B1 := (((Row4.new (w.alloc _) b0 b1 b2 b3 70).alloc (by simp) _)).below hbl (by simp)
  have O1 := ((Row4.new ((w.alloc _).alloc _) 0 0 0 0 70)).below hbl (by simp)
  simp only [World.size_alloc] at B1 O1
  have hz1 : w.heap.size + 1 + 1 < w1.heap.size := by have := hbl.size; simp at this; omega
  have hy1 : w.heap.size + 1 < w1.heap.size := by omega
  have hx1 : w.heap.size < w1.heap.size := by omega
  have Hbl := Lib.hid hbl; have Hep := Lib.hid ep
  clear hbl ep
  have R1' := R1
  obtain ⟨x0, x1, x2, x3, xf⟩ := R1
  go_wp2_with fail
  refine (sub_calls x r0 r1 r2 p0 p1 p2 p3 ⟨hx, hr.1, hr.2.1, hr.2.2.1⟩ hp _).mono ?_
  rintro e w2 ⟨s0, s1, s2, s3, c, rfl, hs, hc, es, hbl⟩
  have R2 := (R1'.alloc hx1 _).below hbl (by rw [World.size_alloc]; omega)
  have B2 := (B1.alloc hy1 _).below hbl (by rw [World.size_alloc]; omega)
  have O2 := (O1.alloc hz1 _).below hbl (by rw [World.size_alloc]; omega)
  have hz2 : w1.heap.size < w2.heap.size := by have := hbl.size; simp at this; omega
  have hw2 : w.heap.size + 1 + 1 < w2.heap.size := by omega
  have hy2 : w.heap.size + 1 < w2.heap.size := by omega
  have hx2 : w.heap.size < w2.heap.size := by omega
  have Hbl2 := Lib.hid hbl; have Hes := Lib.hid es
  clear hbl es x0 x1 x2 x3 xf
  obtain ⟨x0, x1, x2, x3, xf⟩ := R2
  have vb := val4_lt hb
  obtain ⟨top, etop, btop, ti⟩ := ti_start (N := val4 r0 r1 r2 r3 * 18446744073709551616 + x) (r3 := r3) vb (by omega) (top5 r0 r1 r2 r3 x) (val4_lt ⟨hx, hr.1, hr.2.1, hr.2.2.1⟩) HF.out.1 HF.out.2 hr.2.2.2 ho Hep.out (val4_lt hp) Hes.out (val4_lt hs)
  have Hti := Lib.hid ti
  have HB2 : Below w.heap.size w (w2.alloc (.cells #[.int .u64 s0, .int .u64 s1, .int .u64 s2, .int .u64 s3] 70)) :=
    ((below3 w _ _ _).trans (Hbl.out.mono (by simp; omega)) |>.alloc (by omega) _ |>.trans (Hbl2.out.mono (by rw [World.size_alloc]; omega))).alloc (by omega) _
  have HH := Lib.hid HB2
  clear ti vb HB2 Hbl Hbl2 Hep Hes HF
  go_wp2_with fail
  clear etop x0 x1 x2 x3 xf
  go_loopg [12] (18446744073709551615 - (val4 r0 r1 r2 r3 * 18446744073709551616 + x) / val4 b0 b1 b2 b3) (fun k t wr => ∃ top s0 s1 s2 s3, t = .int .u64 (top : Nat) ∧ top < 18446744073709551616 ∧ ok4 s0 s1 s2 s3 ∧ Hid (TI (val4 b0 b1 b2 b3) ((val4 r0 r1 r2 r3 * 18446744073709551616 + x) % val4 b0 b1 b2 b3) k top (val4 s0 s1 s2 s3)) ∧ TW w wr w2.heap.size b0 b1 b2 b3 s0 s1 s2 s3)
  case atStart => exact ⟨top, s0, s1, s2, s3, rfl, btop, hs, Hti, ⟨HH.out, by simp, by omega, B2.alloc hy2 _, O2.alloc hw2 _, Row4.new _ _ _ _ _ _⟩⟩
  case round =>
    obtain ⟨top, s0, s1, s2, s3, rfl, btop, hs, ti, tw⟩ := hrel
    obtain ⟨y0, y1, y2, y3, yf⟩ := tw.rowB
    obtain ⟨z0, z1, z2, z3, zf⟩ := tw.rowS
    obtain ⟨o0, o1, o2, o3, of⟩ := tw.rowO
    have hsz := tw.size
    have hlo := tw.lo
    rcases Nat.eq_zero_or_pos gk with rfl | hk
    · have ht := ti.out.2.1 rfl
      have t0 : ((top : Int) != 0) = false := by simp [ht.1]
      have HR := Lib.hid ht.2
      have HB := Lib.hid tw.below
      have HW := Lib.hid tw
      clear ti ht tw
      go_wp2_with fail
      refine bodyPost_ret (v := .agg #[.int .u64 s0, .int .u64 s1, .int .u64 s2, .int .u64 s3]) (by simp [results, Tryz.results318, go_sem, *]) rfl ?_
      exact ⟨s0, s1, s2, s3, rfl, hs, HR.out, below_set4 HB.out (by omega) _ _ _ _⟩
    · obtain ⟨k, rfl⟩ : ∃ k, gk = k + 1 := ⟨gk - 1, by omega⟩
      have hp := ti_top ti.out hk
      have t0 : ((top : Int) != 0) = true := by simp; omega
      have HW := Lib.hid tw
      clear tw
      go_wp2_with fail
      refine (add_calls s0 s1 s2 s3 b0 b1 b2 b3 hs hb _).mono ?_
      rintro e w3 ⟨n0, n1, n2, n3, c, rfl, hn, hc, en, hbl⟩
      have hz3 : wr.heap.size ≤ w3.heap.size := hbl.size
      obtain ⟨top', et, bt, ti'⟩ := ti_round (val4_lt hb) (Nat.mod_lt _ (by have := val4_lt hb; omega)) ti.out btop (val4_lt hs) (val4_lt hn) hc en
      have S3 := HW.out.rowS.below hbl hsz
      have T3 : TW w (set4 w3 w2.heap.size n0 n1 n2 n3) w2.heap.size b0 b1 b2 b3 n0 n1 n2 n3 :=
        ⟨below_set4 (HW.out.below.trans (hbl.mono HW.out.below.size)) (by omega) _ _ _ _, by unfold set4; simp only [World.size_setCell]; omega, hlo,
          (HW.out.rowB.below hbl (by omega)).set4_other (by omega) _ _ _ _, (HW.out.rowO.below hbl (by omega)).set4_other (by omega) _ _ _ _, S3.set4 _ _ _ _⟩
      have HT := Lib.hid T3
      have Hti := Lib.hid ti'
      obtain ⟨v0, v1, v2, v3, vf⟩ := S3
      clear hbl en T3 ti' ti
      go_wp2_with fail
      go_roundg k
      case rel => exact ⟨top', n0, n1, n2, n3, rfl, bt, hn, Hti, HT.out⟩
      case measure => omega

theorem takeWord_calls (r0 r1 r2 r3 x b0 b1 b2 b3 : Nat) (hr : ok4 r0 r1 r2 r3) (hx : x < 18446744073709551616) (hb : ok4 b0 b1 b2 b3) (h3 : 9223372036854775808 ≤ b3) (hlt : val4 r0 r1 r2 r3 < val4 b0 b1 b2 b3) (w : World) :
    Calls Tryz.prog 318 #[.agg #[.int .u64 r0, .int .u64 r1, .int .u64 r2, .int .u64 r3], .int .u64 x, .agg #[.int .u64 b0, .int .u64 b1, .int .u64 b2, .int .u64 b3]] w (WordPost (fun n => n = (val4 r0 r1 r2 r3 * 18446744073709551616 + x) % val4 b0 b1 b2 b3) w) := by
  by_cases hg : r3 < b3
  · exact takeWord_lt r0 r1 r2 r3 x b0 b1 b2 b3 hr hx hb h3 hlt hg w
  · exact takeWord_eq r0 r1 r2 r3 x b0 b1 b2 b3 hr hx hb h3 hlt hg w
end Go.Proofs.YtaingnhikbaplaaGreat
namespace Go.Proofs.YtaingnhikbaplaaGreat
set_option linter.unusedVariables false
set_option linter.unusedSimpArgs false
open Go.RowKit

/-- what was laid since w, told row by row -/
def Mem (w wr : World) (rs : List (Nat × Nat × Nat × Nat × Nat)) : Prop :=
  Below w.heap.size w wr ∧ ∀ r, r ∈ rs → r.1 < wr.heap.size ∧ Row4 wr r.1 r.2.1 r.2.2.1 r.2.2.2.1 r.2.2.2.2
theorem Mem.nil (w : World) : Mem w w [] := ⟨Below.refl _ _, fun _ h => by cases h⟩
theorem Mem.on {w wr w' : World} {rs : List (Nat × Nat × Nat × Nat × Nat)} (h : Mem w wr rs) (hb : Below wr.heap.size wr w') : Mem w w' rs :=
  ⟨h.1.trans (hb.mono h.1.size), fun r hr => ⟨Nat.lt_of_lt_of_le (h.2 r hr).1 hb.size, (h.2 r hr).2.below hb (h.2 r hr).1⟩⟩
theorem Mem.drewN {w wr : World} {rs : List (Nat × Nat × Nat × Nat × Nat)} (h : Mem w wr rs) (n : Nat) : Mem w (wr.drewN n) rs := h.on (below_drewN' _ _ n)
theorem Mem.new {w wr : World} {rs : List (Nat × Nat × Nat × Nat × Nat)} (h : Mem w wr rs) (b c0 c1 c2 c3 : Nat) (t : TypeId) (hb : b = wr.heap.size) :
    Mem w (wr.alloc (.cells #[.int .u64 c0, .int .u64 c1, .int .u64 c2, .int .u64 c3] t)) ((b, c0, c1, c2, c3) :: rs) := by
  subst hb
  have hB : Below wr.heap.size wr (wr.alloc (.cells #[.int .u64 c0, .int .u64 c1, .int .u64 c2, .int .u64 c3] t)) := (Below.refl _ _).alloc (Nat.le_refl _) _
  refine ⟨(h.on hB).1, fun r hr => ?_⟩
  rcases List.mem_cons.1 hr with e | hr
  · rw [e]
    exact ⟨by simp, Row4.new wr c0 c1 c2 c3 t⟩
  · exact (h.on hB).2 r hr
theorem Mem.get {w wr : World} {rs : List (Nat × Nat × Nat × Nat × Nat)} (h : Mem w wr rs) {b c0 c1 c2 c3 : Nat} (hm : (b, c0, c1, c2, c3) ∈ rs) : b < wr.heap.size ∧ Row4 wr b c0 c1 c2 c3 := h.2 _ hm
theorem Mem.sub {w wr : World} {rs rs' : List (Nat × Nat × Nat × Nat × Nat)} (h : Mem w wr rs) (hs : ∀ r, r ∈ rs' → r ∈ rs) : Mem w wr rs' := ⟨h.1, fun r hr => h.2 r (hs r hr)⟩
/-- a row written anew -/
theorem Mem.put {w wr : World} {rs : List (Nat × Nat × Nat × Nat × Nat)} {b c0 c1 c2 c3 : Nat} (h : Mem w wr ((b, c0, c1, c2, c3) :: rs)) (d0 d1 d2 d3 : Nat) (hw : w.heap.size ≤ b) (hne : ∀ r, r ∈ rs → r.1 ≠ b) :
    Mem w (set4 wr b d0 d1 d2 d3) ((b, d0, d1, d2, d3) :: rs) := by
  refine ⟨below_set4 h.1 hw _ _ _ _, fun r hr => ?_⟩
  have hs : (set4 wr b d0 d1 d2 d3).heap.size = wr.heap.size := by unfold set4; simp only [World.size_setCell]
  rcases List.mem_cons.1 hr with e | hr
  · rw [e]
    exact ⟨by rw [hs]; exact (h.2 _ List.mem_cons_self).1, (h.2 _ List.mem_cons_self).2.set4 _ _ _ _⟩
  · exact ⟨by rw [hs]; exact (h.2 r (List.mem_cons_of_mem _ hr)).1, (h.2 r (List.mem_cons_of_mem _ hr)).2.set4_other (fun e => hne r hr e.symm) _ _ _ _⟩
end Go.Proofs.YtaingnhikbaplaaGreat
namespace Go.Proofs.YtaingnhikbaplaaGreat
set_option linter.unusedVariables false
set_option linter.unusedSimpArgs false
open Go.RowKit

theorem ex_Add64m {x c : Nat} (hx : x < 18446744073709551616) (hc : c ≤ 1) : ∃ d b : Nat, (∀ w, (callFunc 248 #[.int .u64 (x : Int), .int .u64 0, .int .u64 (c : Int)]).run Tryz.prog w =
      .ok (.value (.tuple #[.int .u64 (d : Int), .int .u64 (b : Int)])) w) ∧ d < 18446744073709551616 ∧ b ≤ 1 ∧ Hid (d + 18446744073709551616 * b = x + c) :=
  ⟨_, _, run_Add64 x 0 c hc, addS_lt _ _ _, addC_le hx (by omega) hc, Lib.hid (by have := addSC x 0 c; omega)⟩

set_option maxHeartbeats 1000000 in
theorem ex_tp {a b c d : Nat} (ha : a < 18446744073709551616) (hb : b < 18446744073709551616) (hc : c < 18446744073709551616) (hd : d < 18446744073709551616) : ∃ h l : Nat,
    (∀ w, Calls Tryz.prog 277 #[.int .u64 a, .int .u64 b, .int .u64 c, .int .u64 d] w fun e w' => e = .returned (.tuple #[.int .u64 (h : Nat), .int .u64 (l : Nat)]) ∧ w' = w) ∧
    h < 18446744073709551616 ∧ l < 18446744073709551616 ∧ Hid (l + 18446744073709551616 * h = a * b + c + d) := by
  obtain ⟨h, l, r, hh, hl, e⟩ := ex_Mul64 ha hb
  obtain ⟨l1, c1, r1, hl1, hc1, e1⟩ := ex_Add64z hl hc
  obtain ⟨h1, z1, r2, hh1, hz1, e2⟩ := ex_Add64m (show h < 18446744073709551616 by omega) hc1
  obtain ⟨l2, c2, r3, hl2, hc2, e3⟩ := ex_Add64z hl1 hd
  obtain ⟨h2, z2, r4, hh2, hz2, e4⟩ := ex_Add64m hh1 hc2
  have hab := mul_le (show a ≤ 18446744073709551615 by omega) (show b ≤ 18446744073709551615 by omega)
  refine ⟨h2, l2, fun w => ?_, hh2, hl2, Lib.hid (by have := e.out; have := e1.out; have := e2.out; have := e3.out; have := e4.out; omega)⟩
  clear e e1 e2 e3 e4 hab
  go_enter Tryz.func277, Tryz.ntmps277
  go_wp2_with fail
  refine (r _).mono ?_
  rintro e w' ⟨rfl, rfl⟩
  go_wp2_with fail
  go_ret2
  exact ⟨rfl, rfl⟩

/-- the constants of a field, cell by cell -/
structure KIs (w : World) (b : Nat) (F : FC) : Prop where
  k0 : w.cell? ⟨b, 0, none⟩ = some (.int .u64 F.m0)
  k1 : w.cell? ⟨b, 1, none⟩ = some (.int .u64 F.m1)
  k2 : w.cell? ⟨b, 2, none⟩ = some (.int .u64 F.m2)
  k3 : w.cell? ⟨b, 3, none⟩ = some (.int .u64 F.m3)
  k4 : w.cell? ⟨b, 4, none⟩ = some (.int .u64 F.inv)
  k5 : w.cell? ⟨b, 5, none⟩ = some (.int .u64 F.s0)
  k6 : w.cell? ⟨b, 6, none⟩ = some (.int .u64 F.s1)
  k7 : w.cell? ⟨b, 7, none⟩ = some (.int .u64 F.s2)
  k8 : w.cell? ⟨b, 8, none⟩ = some (.int .u64 F.s3)
  lt : b < w.heap.size
theorem KIs.below {w w' : World} {b : Nat} {F : FC} (h : KIs w b F) {B : Nat} (hb : Below B w w') (hB : b < B) : KIs w' b F :=
  ⟨by rw [hb.cell (p := ⟨b, 0, none⟩) hB]; exact h.k0, by rw [hb.cell (p := ⟨b, 1, none⟩) hB]; exact h.k1, by rw [hb.cell (p := ⟨b, 2, none⟩) hB]; exact h.k2, by rw [hb.cell (p := ⟨b, 3, none⟩) hB]; exact h.k3,
    by rw [hb.cell (p := ⟨b, 4, none⟩) hB]; exact h.k4, by rw [hb.cell (p := ⟨b, 5, none⟩) hB]; exact h.k5, by rw [hb.cell (p := ⟨b, 6, none⟩) hB]; exact h.k6, by rw [hb.cell (p := ⟨b, 7, none⟩) hB]; exact h.k7, by rw [hb.cell (p := ⟨b, 8, none⟩) hB]; exact h.k8, Nat.lt_of_lt_of_le h.lt hb.size⟩
theorem KIs.same {w w' : World} {b : Nat} {F : FC} (h : KIs w b F) (hb : Below w.heap.size w w') : KIs w' b F := h.below hb h.lt
theorem KIs.drewN {w : World} {b : Nat} {F : FC} (h : KIs w b F) (n : Nat) : KIs (w.drewN n) b F := ⟨h.k0, h.k1, h.k2, h.k3, h.k4, h.k5, h.k6, h.k7, h.k8, h.lt⟩
theorem KIs.other {w : World} {b d i : Nat} {F : FC} (h : KIs w b F) (hd : d ≠ b) (v : Value) : KIs (w.setCell ⟨d, i, none⟩ v) b F :=
  ⟨by rw [World.cell?_setCell_other (h := fun he => hd (by simpa using congrArg Addr.block he)) ..]; exact h.k0, by rw [World.cell?_setCell_other (h := fun he => hd (by simpa using congrArg Addr.block he)) ..]; exact h.k1,
    by rw [World.cell?_setCell_other (h := fun he => hd (by simpa using congrArg Addr.block he)) ..]; exact h.k2, by rw [World.cell?_setCell_other (h := fun he => hd (by simpa using congrArg Addr.block he)) ..]; exact h.k3,
    by rw [World.cell?_setCell_other (h := fun he => hd (by simpa using congrArg Addr.block he)) ..]; exact h.k4, by rw [World.cell?_setCell_other (h := fun he => hd (by simpa using congrArg Addr.block he)) ..]; exact h.k5,
    by rw [World.cell?_setCell_other (h := fun he => hd (by simpa using congrArg Addr.block he)) ..]; exact h.k6, by rw [World.cell?_setCell_other (h := fun he => hd (by simpa using congrArg Addr.block he)) ..]; exact h.k7,
    by rw [World.cell?_setCell_other (h := fun he => hd (by simpa using congrArg Addr.block he)) ..]; exact h.k8, by rw [World.size_setCell]; exact h.lt⟩

/-- four subtractions with a borrow, as facts -/
theorem ex_sub4 {a0 a1 a2 a3 b0 b1 b2 b3 : Nat} (ha : ok4 a0 a1 a2 a3) (hb : ok4 b0 b1 b2 b3) : ∃ d0 c0 d1 c1 d2 c2 d3 c3 : Nat,
    (∀ w, (callFunc 164 #[.int .u64 (a0 : Int), .int .u64 (b0 : Int), .int .u64 0]).run Tryz.prog w = .ok (.value (.tuple #[.int .u64 (d0 : Int), .int .u64 (c0 : Int)])) w) ∧
    (∀ w, (callFunc 164 #[.int .u64 (a1 : Int), .int .u64 (b1 : Int), .int .u64 (c0 : Int)]).run Tryz.prog w = .ok (.value (.tuple #[.int .u64 (d1 : Int), .int .u64 (c1 : Int)])) w) ∧
    (∀ w, (callFunc 164 #[.int .u64 (a2 : Int), .int .u64 (b2 : Int), .int .u64 (c1 : Int)]).run Tryz.prog w = .ok (.value (.tuple #[.int .u64 (d2 : Int), .int .u64 (c2 : Int)])) w) ∧
    (∀ w, (callFunc 164 #[.int .u64 (a3 : Int), .int .u64 (b3 : Int), .int .u64 (c2 : Int)]).run Tryz.prog w = .ok (.value (.tuple #[.int .u64 (d3 : Int), .int .u64 (c3 : Int)])) w) ∧
    ok4 d0 d1 d2 d3 ∧ c3 ≤ 1 ∧ Hid (val4 d0 d1 d2 d3 + val4 b0 b1 b2 b3 = val4 a0 a1 a2 a3 + 115792089237316195423570985008687907853269984665640564039457584007913129639936 * c3) := by
  obtain ⟨d0, c0, r0, h0, k0, e0⟩ := ex_Sub64z ha.1 hb.1
  obtain ⟨d1, c1, r1, h1, k1, e1⟩ := ex_Sub64 ha.2.1 hb.2.1 k0
  obtain ⟨d2, c2, r2, h2, k2, e2⟩ := ex_Sub64 ha.2.2.1 hb.2.2.1 k1
  obtain ⟨d3, c3, r3, h3, k3, e3⟩ := ex_Sub64 ha.2.2.2 hb.2.2.2 k2
  exact ⟨d0, c0, d1, c1, d2, c2, d3, c3, r0, r1, r2, r3, ⟨h0, h1, h2, h3⟩, k3, Lib.hid (by have := e0.out; have := e1.out; have := e2.out; have := e3.out; unfold val4; omega)⟩
/-- four sums with a carry, as facts -/
theorem ex_add4 {a0 a1 a2 a3 b0 b1 b2 b3 : Nat} (ha : ok4 a0 a1 a2 a3) (hb : ok4 b0 b1 b2 b3) : ∃ d0 c0 d1 c1 d2 c2 d3 c3 : Nat,
    (∀ w, (callFunc 248 #[.int .u64 (a0 : Int), .int .u64 (b0 : Int), .int .u64 0]).run Tryz.prog w = .ok (.value (.tuple #[.int .u64 (d0 : Int), .int .u64 (c0 : Int)])) w) ∧
    (∀ w, (callFunc 248 #[.int .u64 (a1 : Int), .int .u64 (b1 : Int), .int .u64 (c0 : Int)]).run Tryz.prog w = .ok (.value (.tuple #[.int .u64 (d1 : Int), .int .u64 (c1 : Int)])) w) ∧
    (∀ w, (callFunc 248 #[.int .u64 (a2 : Int), .int .u64 (b2 : Int), .int .u64 (c1 : Int)]).run Tryz.prog w = .ok (.value (.tuple #[.int .u64 (d2 : Int), .int .u64 (c2 : Int)])) w) ∧
    (∀ w, (callFunc 248 #[.int .u64 (a3 : Int), .int .u64 (b3 : Int), .int .u64 (c2 : Int)]).run Tryz.prog w = .ok (.value (.tuple #[.int .u64 (d3 : Int), .int .u64 (c3 : Int)])) w) ∧
    ok4 d0 d1 d2 d3 ∧ c3 ≤ 1 ∧ Hid (val4 d0 d1 d2 d3 + 115792089237316195423570985008687907853269984665640564039457584007913129639936 * c3 = val4 a0 a1 a2 a3 + val4 b0 b1 b2 b3) := by
  obtain ⟨d0, c0, r0, h0, k0, e0⟩ := ex_Add64z ha.1 hb.1
  obtain ⟨d1, c1, r1, h1, k1, e1⟩ := ex_Add64 ha.2.1 hb.2.1 k0
  obtain ⟨d2, c2, r2, h2, k2, e2⟩ := ex_Add64 ha.2.2.1 hb.2.2.1 k1
  obtain ⟨d3, c3, r3, h3, k3, e3⟩ := ex_Add64 ha.2.2.2 hb.2.2.2 k2
  exact ⟨d0, c0, d1, c1, d2, c2, d3, c3, r0, r1, r2, r3, ⟨h0, h1, h2, h3⟩, k3, Lib.hid (by have := e0.out; have := e1.out; have := e2.out; have := e3.out; unfold val4; omega)⟩

/-- An answer of four words with one value. -/
def FePost (V : Nat) (w : World) (e : Ending) (w' : World) : Prop :=
  ∃ s0 s1 s2 s3 : Nat, e = .returned (.agg #[.int .u64 s0, .int .u64 s1, .int .u64 s2, .int .u64 s3]) ∧ ok4 s0 s1 s2 s3 ∧ val4 s0 s1 s2 s3 = V ∧ Below w.heap.size w w'

set_option maxHeartbeats 1000000 in
theorem once_calls (F : FC) (hF : F.Ok) (b t0 t1 t2 t3 : Nat) (ht : ok4 t0 t1 t2 t3) (hlt : val4 t0 t1 t2 t3 < 2 * F.M) (w : World) (hk : KIs w b F) :
    Calls Tryz.prog 249 #[.pointer (some ⟨b, 0, none⟩), .int .u64 t0, .int .u64 t1, .int .u64 t2, .int .u64 t3] w (FePost (val4 t0 t1 t2 t3 % F.M) w) := by
  obtain ⟨d0, c0, d1, c1, d2, c2, d3, c3, r0, r1, r2, r3, hd, hc, e⟩ := ex_sub4 ht hF.okm
  have vd := val4_lt hd
  have vt := val4_lt ht
  have HV := Lib.hid (once_mod hlt)
  have HM := Lib.hid (show F.M = val4 F.m0 F.m1 F.m2 F.m3 from rfl)
  have hL := hk.lt
  have k0 := hk.k0; have k1 := hk.k1; have k2 := hk.k2; have k3 := hk.k3
  clear hk hF hlt
  have hc' : c3 = 0 ∨ c3 = 1 := by omega
  rcases hc' with rfl | rfl
  · go_enter Tryz.func249, Tryz.ntmps249
    go_wp2_with fail
    refine bodyPost_ret (v := .agg #[.int .u64 d0, .int .u64 d1, .int .u64 d2, .int .u64 d3]) (by simp [results, Tryz.results249, go_sem]) rfl ?_
    refine ⟨_, _, _, _, rfl, hd, ?_, ?_⟩
    · rw [HV.out, if_neg (by have := e.out; have := HM.out; omega)]; have := e.out; have := HM.out; omega
    · repeat (first | exact Below.refl _ _ | refine Below.drew ?_ | refine Below.alloc ?_ (by first | (simp; done) | (simp; omega)) _ | refine Below.setCell ?_ (by simp) _)
  · go_enter Tryz.func249, Tryz.ntmps249
    go_wp2_with fail
    refine bodyPost_ret (v := .agg #[.int .u64 t0, .int .u64 t1, .int .u64 t2, .int .u64 t3]) (by simp [results, Tryz.results249, go_sem]) rfl ?_
    refine ⟨_, _, _, _, rfl, ht, ?_, ?_⟩
    · rw [HV.out, if_pos (by have := e.out; have := HM.out; omega)]
    · repeat (first | exact Below.refl _ _ | refine Below.drew ?_ | refine Below.alloc ?_ (by first | (simp; done) | (simp; omega)) _ | refine Below.setCell ?_ (by simp) _)
end Go.Proofs.YtaingnhikbaplaaGreat
namespace Go.Proofs.YtaingnhikbaplaaGreat
set_option linter.unusedVariables false
set_option linter.unusedSimpArgs false
open Go.RowKit

/-- one round's numbers -/
theorem ex_round (F : FC) (hF : F.Ok) {x y0 y1 y2 y3 t0 t1 t2 t3 : Nat} {X : Nat → Nat} {k : Nat} (hk : k < 4) (hx : x < 18446744073709551616) (hX : X k = x) (hy : ok4 y0 y1 y2 y3) (hY : val4 y0 y1 y2 y3 < F.M) (ht : ok4 t0 t1 t2 t3) (g : Gath F.M X (val4 y0 y1 y2 y3) k (val4 t0 t1 t2 t3)) :
    ∃ o0 l0 cl c0 z o1 l1 c1 n0 o2 l2 c2 n1 o3 l3 c3 n2 n3 : Nat,
    (∀ w, Calls Tryz.prog 277 #[.int .u64 x, .int .u64 y0, .int .u64 t0, .int .u64 0] w fun e w' => e = .returned (.tuple #[.int .u64 (o0 : Nat), .int .u64 (l0 : Nat)]) ∧ w' = w) ∧
    IntKind.u64.wrap ((l0 : Int) * (F.inv : Int)) = (cl : Int) ∧
    (∀ w, Calls Tryz.prog 277 #[.int .u64 cl, .int .u64 F.m0, .int .u64 l0, .int .u64 0] w fun e w' => e = .returned (.tuple #[.int .u64 (c0 : Nat), .int .u64 (z : Nat)]) ∧ w' = w) ∧
    (∀ w, Calls Tryz.prog 277 #[.int .u64 x, .int .u64 y1, .int .u64 t1, .int .u64 o0] w fun e w' => e = .returned (.tuple #[.int .u64 (o1 : Nat), .int .u64 (l1 : Nat)]) ∧ w' = w) ∧
    (∀ w, Calls Tryz.prog 277 #[.int .u64 cl, .int .u64 F.m1, .int .u64 l1, .int .u64 c0] w fun e w' => e = .returned (.tuple #[.int .u64 (c1 : Nat), .int .u64 (n0 : Nat)]) ∧ w' = w) ∧
    (∀ w, Calls Tryz.prog 277 #[.int .u64 x, .int .u64 y2, .int .u64 t2, .int .u64 o1] w fun e w' => e = .returned (.tuple #[.int .u64 (o2 : Nat), .int .u64 (l2 : Nat)]) ∧ w' = w) ∧
    (∀ w, Calls Tryz.prog 277 #[.int .u64 cl, .int .u64 F.m2, .int .u64 l2, .int .u64 c1] w fun e w' => e = .returned (.tuple #[.int .u64 (c2 : Nat), .int .u64 (n1 : Nat)]) ∧ w' = w) ∧
    (∀ w, Calls Tryz.prog 277 #[.int .u64 x, .int .u64 y3, .int .u64 t3, .int .u64 o2] w fun e w' => e = .returned (.tuple #[.int .u64 (o3 : Nat), .int .u64 (l3 : Nat)]) ∧ w' = w) ∧
    (∀ w, Calls Tryz.prog 277 #[.int .u64 cl, .int .u64 F.m3, .int .u64 l3, .int .u64 c2] w fun e w' => e = .returned (.tuple #[.int .u64 (c3 : Nat), .int .u64 (n2 : Nat)]) ∧ w' = w) ∧
    (o3 : Int) + (c3 : Int) = (n3 : Int) ∧ o3 + c3 < 18446744073709551616 ∧ ok4 n0 n1 n2 n3 ∧ Hid (Gath F.M X (val4 y0 y1 y2 y3) (k + 1) (val4 n0 n1 n2 n3)) := by
  obtain ⟨o0, l0, r0, bo0, bl0, e0⟩ := ex_tp hx hy.1 ht.1 (show 0 < 18446744073709551616 by omega)
  obtain ⟨cl, hcl⟩ : ∃ cl, cl = l0 * F.inv % 18446744073709551616 := ⟨_, rfl⟩
  have bcl : cl < 18446744073709551616 := by omega
  obtain ⟨c0, z, s0, bc0, bz, f0⟩ := ex_tp bcl hF.okm.1 bl0 (show 0 < 18446744073709551616 by omega)
  obtain ⟨o1, l1, r1, bo1, bl1, e1⟩ := ex_tp hx hy.2.1 ht.2.1 bo0
  obtain ⟨c1, n0, s1, bc1, bn0, f1⟩ := ex_tp bcl hF.okm.2.1 bl1 bc0
  obtain ⟨o2, l2, r2, bo2, bl2, e2⟩ := ex_tp hx hy.2.2.1 ht.2.2.1 bo1
  obtain ⟨c2, n1, s2, bc2, bn1, f2⟩ := ex_tp bcl hF.okm.2.2.1 bl2 bc1
  obtain ⟨o3, l3, r3, bo3, bl3, e3⟩ := ex_tp hx hy.2.2.2 ht.2.2.2 bo2
  obtain ⟨c3, n2, s3, bc3, bn2, f3⟩ := ex_tp bcl hF.okm.2.2.2 bl3 bc2
  have hz : z = 0 := by
    have h := clear_zero (l := l0) hF.turn
    rw [← hcl] at h
    have := f0.out
    omega
  subst hz
  have ha := round_arith (e0.out) (f0.out) e1.out f1.out e2.out f2.out e3.out f3.out
  have hg := gath_step (X := X) hk g (by rw [hX]; exact hx) hY bcl (N := val4 n0 n1 n2 (o3 + c3)) (by rw [hX]; exact ha)
  have hn3 : o3 + c3 < 18446744073709551616 := val4_top (B := 0) (Nat.lt_trans hg.1 hF.two)
  refine ⟨o0, l0, cl, c0, 0, o1, l1, c1, n0, o2, l2, c2, n1, o3, l3, c3, n2, o3 + c3, r0, ?_, s0, r1, s1, r2, s2, r3, s3, ?_, hn3, ⟨bn0, bn1, bn2, hn3⟩, Lib.hid hg⟩
  · rw [hcl, ← Int.natCast_mul]; exact wrap_mod64 _
  · exact (Int.natCast_add _ _).symm


theorem index_kept (x0 x1 x2 x3 k : Nat) (hk : k < 4) (w : World) : (Instr.index 204 (.agg #[.int .u64 x0, .int .u64 x1, .int .u64 x2, .int .u64 x3]) (.int .i64 k)).run Tryz.prog w = .ok (.int .u64 (fnOf [x0, x1, x2, x3] k : Nat)) w := by
  have h0 : ∀ w, (Instr.index 204 (.agg #[.int .u64 x0, .int .u64 x1, .int .u64 x2, .int .u64 x3]) (.int .i64 0)).run Tryz.prog w = .ok (.int .u64 x0) w := fun _ => by kernel_rfl
  have h1 : ∀ w, (Instr.index 204 (.agg #[.int .u64 x0, .int .u64 x1, .int .u64 x2, .int .u64 x3]) (.int .i64 1)).run Tryz.prog w = .ok (.int .u64 x1) w := fun _ => by kernel_rfl
  have h2 : ∀ w, (Instr.index 204 (.agg #[.int .u64 x0, .int .u64 x1, .int .u64 x2, .int .u64 x3]) (.int .i64 2)).run Tryz.prog w = .ok (.int .u64 x2) w := fun _ => by kernel_rfl
  have h3 : ∀ w, (Instr.index 204 (.agg #[.int .u64 x0, .int .u64 x1, .int .u64 x2, .int .u64 x3]) (.int .i64 3)).run Tryz.prog w = .ok (.int .u64 x3) w := fun _ => by kernel_rfl
  have : k = 0 ∨ k = 1 ∨ k = 2 ∨ k = 3 := by omega
  rcases this with rfl | rfl | rfl | rfl
  · exact h0 w
  · exact h1 w
  · exact h2 w
  · exact h3 w

set_option maxRecDepth 100000 in
set_option maxHeartbeats 4000000 in
theorem times_calls (F : FC) (hF : F.Ok) (b x0 x1 x2 x3 y0 y1 y2 y3 : Nat) (hx : ok4 x0 x1 x2 x3) (hy : ok4 y0 y1 y2 y3) (hY : val4 y0 y1 y2 y3 < F.M) (w : World) (hk : KIs w b F) :
    Calls Tryz.prog 245 #[.pointer (some ⟨b, 0, none⟩), .agg #[.int .u64 x0, .int .u64 x1, .int .u64 x2, .int .u64 x3], .agg #[.int .u64 y0, .int .u64 y1, .int .u64 y2, .int .u64 y3]] w (FePost (val4 x0 x1 x2 x3 * val4 y0 y1 y2 y3 * F.Ri % F.M) w) := by
  obtain ⟨X, eX⟩ : ∃ X, X = fnOf [x0, x1, x2, x3] := ⟨_, rfl⟩
  have HX := Lib.hid eX
  have hXlt := fnOf4_lt hx
  have HXlt := Lib.hid hXlt
  have HY := Lib.hid hY
  have HF := Lib.hid hF
  have HK := Lib.hid hk
  have HI := Lib.hid (index_kept x0 x1 x2 x3)
  have hL := hk.lt
  have hL1 : b < w.heap.size + 1 := by omega
  have hL2 : b < w.heap.size + 1 + 1 := by omega
  have k0 := hk.k0; have k1 := hk.k1; have k2 := hk.k2; have k3 := hk.k3; have k4 := hk.k4
  have bi := hF.inv
  have HG := Lib.hid (gath_zero (Y := val4 y0 y1 y2 y3) X (show 0 < F.M by have := hF.gt; omega))
  clear eX hXlt hY hF hk
  go_enter Tryz.func245, Tryz.ntmps245
  go_wp2_with fail
  go_loop [8, 9, 10, 11, 23] (fun v0 v1 v2 v3 i => ∃ k t0 t1 t2 t3 : Nat, k ≤ 4 ∧ i = .int .i64 k ∧ v0 = .int .u64 t0 ∧ v1 = .int .u64 t1 ∧ v2 = .int .u64 t2 ∧ v3 = .int .u64 t3 ∧ ok4 t0 t1 t2 t3 ∧ Hid (Gath F.M X (val4 y0 y1 y2 y3) k (val4 t0 t1 t2 t3))) (fun _ _ _ _ i => 4 - (intOf i).toNat)
  case atStart => exact ⟨0, 0, 0, 0, 0, by omega, rfl, rfl, rfl, rfl, rfl, ⟨by omega, by omega, by omega, by omega⟩, HG⟩
  case round =>
    obtain ⟨k, t0, t1, t2, t3, hk, rfl, rfl, rfl, rfl, rfl, ht, g⟩ := hrel
    by_cases hlt : k < 4
    · obtain ⟨x, ex⟩ : ∃ x, x = fnOf [x0, x1, x2, x3] k := ⟨_, rfl⟩
      have hi := HI.out k hlt
      rw [← ex] at hi
      have bx : x < 18446744073709551616 := by rw [ex]; exact HXlt.out k
      obtain ⟨o0, l0, cl, c0, z, o1, l1, c1, n0, o2, l2, c2, n1, o3, l3, c3, n2, n3, r0, q, s0, r1, s1, r2, s2, r3, s3, p, hp, hn, hg⟩ := ex_round F HF.out hlt bx (by rw [ex, HX.out]) hy HY.out ht g.out
      clear ex g
      go_wp2_with (first | (with_reducible refine (r0 _).mono ?_; rintro e w' ⟨rfl, rfl⟩) | (with_reducible refine (s0 _).mono ?_; rintro e w' ⟨rfl, rfl⟩) | (with_reducible refine (r1 _).mono ?_; rintro e w' ⟨rfl, rfl⟩) | (with_reducible refine (s1 _).mono ?_; rintro e w' ⟨rfl, rfl⟩) | (with_reducible refine (r2 _).mono ?_; rintro e w' ⟨rfl, rfl⟩) | (with_reducible refine (s2 _).mono ?_; rintro e w' ⟨rfl, rfl⟩) | (with_reducible refine (r3 _).mono ?_; rintro e w' ⟨rfl, rfl⟩) | (with_reducible refine (s3 _).mono ?_; rintro e w' ⟨rfl, rfl⟩))
      go_round
      case rel => exact ⟨k + 1, n0, n1, n2, n3, by omega, by go_num, rfl, rfl, rfl, rfl, hn, hg⟩
      case measure => simp [intOf]; omega
    · obtain rfl : k = 4 := by omega
      obtain ⟨ge, gv⟩ := gath_end HF.out (x0 := x0) (x1 := x1) (x2 := x2) (x3 := x3) (by rw [HX.out]; rfl) (by rw [HX.out]; rfl) (by rw [HX.out]; rfl) (by rw [HX.out]; rfl) g.out
      have HGV := Lib.hid gv
      clear gv g
      go_wp2_with fail
      refine (once_calls F HF.out b t0 t1 t2 t3 ht ge _ (HK.out.same ?_)).mono ?_
      · repeat (first | exact Below.refl _ _ | refine Below.drew ?_ | refine Below.alloc ?_ (by first | (simp; done) | (simp; omega)) _)
      rintro e w1 ⟨s0, s1, s2, s3, rfl, hs, hv, hbl⟩
      have HV := Lib.hid hv
      obtain ⟨hc, hf⟩ := bcell hbl
      have hz : w.heap.size + 1 + 1 < w1.heap.size := by have := hbl.size; simp at this; omega
      have HBL := Lib.hid hbl
      clear hv hbl
      go_wp2_with fail
      refine bodyPost_ret (v := .agg #[.int .u64 s0, .int .u64 s1, .int .u64 s2, .int .u64 s3]) (by simp [results, Tryz.results245, go_sem, *]) rfl ?_
      refine ⟨_, _, _, _, rfl, hs, HV.out.trans HGV.out, ?_⟩
      refine below_set4 (Below.trans ?_ (HBL.out.mono (by simp; omega))) (by omega) _ _ _ _
      repeat (first | exact Below.refl _ _ | refine Below.drew ?_ | refine Below.alloc ?_ (by first | (simp; done) | (simp; omega)) _)
end Go.Proofs.YtaingnhikbaplaaGreat
namespace Go.Proofs.YtaingnhikbaplaaGreat
set_option linter.unusedVariables false
set_option linter.unusedSimpArgs false
open Go.RowKit

/-- is the number below the modulus? -/
def isB (V M : Nat) : Bool := decide (V < M)
theorem isB_of {V M c D : Nat} (hD : D < 115792089237316195423570985008687907853269984665640564039457584007913129639936) (hc : c ≤ 1) (e : D + M = V + 115792089237316195423570985008687907853269984665640564039457584007913129639936 * c) (hM : M < 115792089237316195423570985008687907853269984665640564039457584007913129639936) (hV : V < 115792089237316195423570985008687907853269984665640564039457584007913129639936) : ((c : Int) == 1) = isB V M := by
  have : c = 0 ∨ c = 1 := by omega
  unfold isB
  rcases this with rfl | rfl
  · rw [decide_eq_false (by omega)]; rfl
  · rw [decide_eq_true (by omega)]; rfl

theorem ret_bool {a b : Bool} (h : a = b) : Ending.returned (.bool a) = .returned (.bool b) := by rw [h]
set_option maxHeartbeats 1000000 in
theorem has_calls (F : FC) (hF : F.Ok) (b a0 a1 a2 a3 : Nat) (ha : ok4 a0 a1 a2 a3) (w : World) (hk : KIs w b F) :
    Calls Tryz.prog 188 #[.pointer (some ⟨b, 0, none⟩), .agg #[.int .u64 a0, .int .u64 a1, .int .u64 a2, .int .u64 a3]] w fun e w' => e = .returned (.bool (isB (val4 a0 a1 a2 a3) F.M)) ∧ Below w.heap.size w w' := by
  obtain ⟨d0, c0, d1, c1, d2, c2, d3, c3, r0, r1, r2, r3, hd, hc, e⟩ := ex_sub4 ha hF.okm
  have HB := Lib.hid (isB_of (val4_lt hd) hc e.out (val4_lt hF.okm) (val4_lt ha))
  have hL := hk.lt
  have hL' : b ≠ w.heap.size := by omega
  have k0 := hk.k0; have k1 := hk.k1; have k2 := hk.k2; have k3 := hk.k3
  clear hk hF e
  go_enter Tryz.func188, Tryz.ntmps188
  go_wp2_with fail
  go_quiet (fail)
  go_wp2_with fail
  go_quiet (fail)
  go_wp2_with fail
  go_quiet (fail)
  go_wp2_with fail
  go_quiet (fail)
  go_wp2_with fail
  go_ret
  exact ⟨ret_bool HB.out, by repeat (first | exact Below.refl _ _ | refine Below.drew ?_ | exact below_drewN' _ _ _ | refine Below.alloc ?_ (by first | (simp; done) | (simp; omega)) _ | refine Below.trans ?_ (below_drewN' _ _ _))⟩

set_option maxHeartbeats 1000000 in
theorem plus_calls (F : FC) (hF : F.Ok) (b a0 a1 a2 a3 b0 b1 b2 b3 : Nat) (ha : ok4 a0 a1 a2 a3) (hb : ok4 b0 b1 b2 b3) (la : val4 a0 a1 a2 a3 < F.M) (lb : val4 b0 b1 b2 b3 < F.M) (w : World) (hk : KIs w b F) :
    Calls Tryz.prog 194 #[.pointer (some ⟨b, 0, none⟩), .agg #[.int .u64 a0, .int .u64 a1, .int .u64 a2, .int .u64 a3], .agg #[.int .u64 b0, .int .u64 b1, .int .u64 b2, .int .u64 b3]] w (FePost ((val4 a0 a1 a2 a3 + val4 b0 b1 b2 b3) % F.M) w) := by
  obtain ⟨d0, c0, d1, c1, d2, c2, d3, c3, r0, r1, r2, r3, hd, hc, e⟩ := ex_add4 ha hb
  have e' : val4 d0 d1 d2 d3 = val4 a0 a1 a2 a3 + val4 b0 b1 b2 b3 := by have := e.out; have := hF.two; omega
  rw [← e']
  have hlt : val4 d0 d1 d2 d3 < 2 * F.M := by omega
  have HK := Lib.hid hk
  have hL := hk.lt
  clear e e' hk
  go_enter Tryz.func194, Tryz.ntmps194
  go_wp2_with fail
  refine (once_calls F hF b d0 d1 d2 d3 hd hlt _ (HK.out.same ?_)).mono ?_
  · repeat (first | exact Below.refl _ _ | refine Below.drew ?_ | refine Below.alloc ?_ (by first | (simp; done) | (simp; omega)) _)
  rintro e w1 ⟨s0, s1, s2, s3, rfl, hs, hv, hbl⟩
  have HV := Lib.hid hv
  obtain ⟨hc, hf⟩ := bcell hbl
  have hz : w.heap.size + 1 + 1 < w1.heap.size := by have := hbl.size; simp at this; omega
  have HBL := Lib.hid hbl
  clear hv hbl
  go_wp2_with fail
  refine bodyPost_ret (v := .agg #[.int .u64 s0, .int .u64 s1, .int .u64 s2, .int .u64 s3]) (by simp [results, Tryz.results194, go_sem, *]) rfl ?_
  refine ⟨_, _, _, _, rfl, hs, HV.out, ?_⟩
  refine below_set4 (Below.trans ?_ (HBL.out.mono (by simp; omega))) (by omega) _ _ _ _
  repeat (first | exact Below.refl _ _ | refine Below.drew ?_ | refine Below.alloc ?_ (by first | (simp; done) | (simp; omega)) _)

theorem minus_val {A B D M c : Nat} (ha : A < M) (hb : B < M) (e : D + B = A + 115792089237316195423570985008687907853269984665640564039457584007913129639936 * c) (hc : c ≤ 1) (hD : D < 115792089237316195423570985008687907853269984665640564039457584007913129639936) (hM : 2 * M < 115792089237316195423570985008687907853269984665640564039457584007913129639936) :
    (c = 0 → D = (A + M - B) % M) ∧ (c = 1 → ∀ E c', E + 115792089237316195423570985008687907853269984665640564039457584007913129639936 * c' = D + M → c' ≤ 1 → E < 115792089237316195423570985008687907853269984665640564039457584007913129639936 → E = (A + M - B) % M) := by
  refine ⟨fun h => ?_, fun h E c' e' hc' hE => ?_⟩
  · subst h
    rw [show A + M - B = (A - B) + M by omega, Nat.add_mod_right, Nat.mod_eq_of_lt (by omega)]; omega
  · subst h
    have : c' = 0 ∨ c' = 1 := by omega
    rw [Nat.mod_eq_of_lt (by omega)]; omega
set_option maxHeartbeats 1000000 in
theorem minus_calls (F : FC) (hF : F.Ok) (b a0 a1 a2 a3 b0 b1 b2 b3 : Nat) (ha : ok4 a0 a1 a2 a3) (hb : ok4 b0 b1 b2 b3) (la : val4 a0 a1 a2 a3 < F.M) (lb : val4 b0 b1 b2 b3 < F.M) (w : World) (hk : KIs w b F) :
    Calls Tryz.prog 197 #[.pointer (some ⟨b, 0, none⟩), .agg #[.int .u64 a0, .int .u64 a1, .int .u64 a2, .int .u64 a3], .agg #[.int .u64 b0, .int .u64 b1, .int .u64 b2, .int .u64 b3]] w (FePost ((val4 a0 a1 a2 a3 + F.M - val4 b0 b1 b2 b3) % F.M) w) := by
  obtain ⟨d0, c0, d1, c1, d2, c2, d3, c3, r0, r1, r2, r3, hd, hc, e⟩ := ex_sub4 ha hb
  have hv := minus_val la lb e.out hc (val4_lt hd) hF.two
  have hL := hk.lt
  have hL1 : b < w.heap.size + 1 := by omega
  have hL2 : b < w.heap.size + 1 + 1 := by omega
  have k0 := hk.k0; have k1 := hk.k1; have k2 := hk.k2; have k3 := hk.k3
  have HM := Lib.hid (show F.M = val4 F.m0 F.m1 F.m2 F.m3 from rfl)
  clear la lb e hk
  have hc' : c3 = 0 ∨ c3 = 1 := by omega
  rcases hc' with rfl | rfl
  · have HV := Lib.hid (hv.1 rfl)
    clear hv hF
    go_enter Tryz.func197, Tryz.ntmps197
    go_wp2_with fail
    refine bodyPost_ret (v := .agg #[.int .u64 d0, .int .u64 d1, .int .u64 d2, .int .u64 d3]) (by simp [results, Tryz.results197, go_sem]) rfl ?_
    refine ⟨_, _, _, _, rfl, hd, HV.out, ?_⟩
    repeat (first | exact Below.refl _ _ | refine Below.drew ?_ | refine Below.alloc ?_ (by first | (simp; done) | (simp; omega)) _ | refine Below.setCell ?_ (by simp) _)
  · obtain ⟨n0, g0, n1, g1, n2, g2, n3, g3, q0, q1, q2, q3, hn, hg, f⟩ := ex_add4 hd hF.okm
    have HV := Lib.hid (hv.2 rfl _ _ (by rw [HM.out]; exact f.out) hg (val4_lt hn))
    clear hv f hF
    go_enter Tryz.func197, Tryz.ntmps197
    go_wp2_with fail
    refine bodyPost_ret (v := .agg #[.int .u64 n0, .int .u64 n1, .int .u64 n2, .int .u64 n3]) (by simp [results, Tryz.results197, go_sem]) rfl ?_
    refine ⟨_, _, _, _, rfl, hn, HV.out, ?_⟩
    repeat (first | exact Below.refl _ _ | refine Below.drew ?_ | refine Below.alloc ?_ (by first | (simp; done) | (simp; omega)) _ | refine Below.setCell ?_ (by simp) _)
end Go.Proofs.YtaingnhikbaplaaGreat
