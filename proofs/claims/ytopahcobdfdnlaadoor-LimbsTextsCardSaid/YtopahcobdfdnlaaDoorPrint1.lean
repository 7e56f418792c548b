/-
  The call of limbs.Print at 2^64: the twenty digits. Conditions: the table of powers of ten as the program's text lays it.
-/
import Derived.Test.YtopahcobdfdnlaaDoorDivL
import Derived.Test.YtopahcobdfdnlaaDoorFmt
import Derived.Test.YtopahcobdfdnlaaDoorMod
namespace Go.Proofs.YtopahcobdfdnlaaDoor
set_option linter.unusedVariables false
set_option linter.unusedSimpArgs false
open Go.RowKit

theorem tab_below {w w' : World} (h : Lib.TabIs Tryd.prog w "internal/strconv.uint64pow10" .u64 Lib.pow10Tab) {B : Nat} (hb : Below B w w') (hB : w.heap.size ≤ B) : Lib.TabIs Tryd.prog w' "internal/strconv.uint64pow10" .u64 Lib.pow10Tab := by
  unfold Lib.TabIs World.var? at h ⊢
  cases hg : Tryd.prog.globalNamed "internal/strconv.uint64pow10" with
  | none => simp [hg] at h
  | some g =>
    simp only [hg, Option.bind_some] at h ⊢
    have hlt : g < w.heap.size := by
      rcases Nat.lt_or_ge g w.heap.size with k | k
      · exact k
      · rw [Array.getElem?_eq_none k] at h; cases h
    rw [hb.block g (by omega)]
    exact h

theorem div_one (w : World) : Calls Tryd.prog 26 #[.agg #[.int .u64 0, .int .u64 1, .int .u64 0, .int .u64 0], .int .u64 10000000000000000000] w fun e w' =>
    e = .returned (.tuple #[.agg #[.int .u64 1, .int .u64 0, .int .u64 0, .int .u64 0], .int .u64 8446744073709551616, .int .i64 0]) ∧ Below w.heap.size w w' := by
  refine (divL_some 0 1 0 0 10000000000000000000 ⟨by omega, by omega, by omega, by omega⟩ (by omega) (by omega) w).mono ?_
  rintro e w1 ⟨q0, q1, q2, q3, r, c, he, ⟨k0, k1, k2, k3⟩, ⟨hv, hr, hc⟩, hbl⟩
  unfold val4 at hv
  obtain ⟨rfl, rfl, rfl, rfl, rfl⟩ : q0 = 1 ∧ q1 = 0 ∧ q2 = 0 ∧ q3 = 0 ∧ r = 8446744073709551616 := by omega
  subst hc
  exact ⟨he, hbl⟩
theorem div_two (w : World) : Calls Tryd.prog 26 #[.agg #[.int .u64 1, .int .u64 0, .int .u64 0, .int .u64 0], .int .u64 10000000000000000000] w fun e w' =>
    e = .returned (.tuple #[.agg #[.int .u64 0, .int .u64 0, .int .u64 0, .int .u64 0], .int .u64 1, .int .i64 0]) ∧ Below w.heap.size w w' := by
  refine (divL_some 1 0 0 0 10000000000000000000 ⟨by omega, by omega, by omega, by omega⟩ (by omega) (by omega) w).mono ?_
  rintro e w1 ⟨q0, q1, q2, q3, r, c, he, ⟨k0, k1, k2, k3⟩, ⟨hv, hr, hc⟩, hbl⟩
  unfold val4 at hv
  obtain ⟨rfl, rfl, rfl, rfl, rfl⟩ : q0 = 0 ∧ q1 = 0 ∧ q2 = 0 ∧ q3 = 0 ∧ r = 1 := by omega
  subst hc
  exact ⟨he, hbl⟩
theorem equalOne (w : World) : (Op.equalIn 10000 24 (.agg #[.int .u64 1, .int .u64 0, .int .u64 0, .int .u64 0]) (.agg #[.int .u64 0, .int .u64 0, .int .u64 0, .int .u64 0])).run Tryd.prog w = .ok false w :=
  equalInW 9998 1 0 0 0 0 0 0 0 w

set_option maxRecDepth 100000 in
set_option maxHeartbeats 2000000 in
theorem print_one (w : World) (htab : Lib.TabIs Tryd.prog w "internal/strconv.uint64pow10" .u64 Lib.pow10Tab) :
    Calls Tryd.prog 38 #[.agg #[.int .u64 0, .int .u64 1, .int .u64 0, .int .u64 0]] w fun e w' => e = .returned (.string ⟨#[49, 56, 52, 52, 54, 55, 52, 52, 48, 55, 51, 55, 48, 57, 53, 53, 49, 54, 49, 54]⟩) ∧ Below w.heap.size w w' := by
  have hG := eqGuardW
  have hE := fun w => equalOne w
  have hZ := fun w => equalInZ w
  obtain ⟨D1, hD1⟩ : ∃ D : ByteArray, D = ⟨(Lib.decDigits 8446744073709551616).toArray⟩ := ⟨_, rfl⟩
  obtain ⟨D2, hD2⟩ : ∃ D : ByteArray, D = ⟨(Lib.decDigits 1).toArray⟩ := ⟨_, rfl⟩
  have z1 : D1.size = 19 := by rw [hD1]; kernel_rfl
  have z2 : D2.size = 1 := by rw [hD2]; kernel_rfl
  have F1 := fun w h => fmt_calls 8446744073709551616 (by omega) w h
  have F2 := fun w h => fmt_calls 1 (by omega) w h
  unfold FmtPost at F1 F2
  rw [← hD1] at F1
  rw [← hD2] at F2
  have HD1 := Lib.hid hD1; have HD2 := Lib.hid hD2; have HF1 := Lib.hid F1; have HF2 := Lib.hid F2; have HT := Lib.hid htab
  clear hD1 hD2 F1 F2 htab
  go_enter Tryd.func38, Tryd.ntmps38
  go_wp2_with fail
  refine wp_loop_rounds 2 ?_
  rw [rounds_succ]
  go_wp2_with fail
  refine (div_one _).mono ?_
  rintro e w1 ⟨rfl, hbl⟩
  have B1 := ((Below.refl _ w).alloc (Nat.le_refl _) _).trans (hbl.mono (by simp))
  have R1 := (Row4.new w 0 1 0 0 24).below hbl (by simp)
  have s1 : w.heap.size < w1.heap.size := by have := hbl.size; simp at this; omega
  have HB1 := Lib.hid B1; have HR1 := Lib.hid R1
  clear hbl B1 R1
  go_wp2_with fail
  refine (HF1.out _ (tab_below HT.out (HB1.out.alloc (by omega) _) (Nat.le_refl _))).mono ?_
  rintro e w2 ⟨rfl, hbl⟩
  have N1 := (Row4.new w1 1 0 0 0 24).below hbl (by simp)
  have R2 := (HR1.out.alloc s1 _).below hbl (by rw [World.size_alloc]; omega)
  have B2 := (HB1.out.alloc (by omega) (.cells #[.int .u64 1, .int .u64 0, .int .u64 0, .int .u64 0] 24)).trans (hbl.mono (by simp; omega))
  have s2 : w1.heap.size < w2.heap.size := by have := hbl.size; simp at this; omega
  have HB2 := Lib.hid B2
  obtain ⟨n0, n1, n2, n3, nf⟩ := N1
  have HR2 := Lib.hid R2
  obtain ⟨r0, r1, r2, r3, rf⟩ := R2
  clear hbl B2
  go_wp2_with fail
  refine (Tryd.strings_Repeat_zero _ _).mono ?_
  rintro e w' ⟨rfl, rfl⟩
  go_wp2_with fail
  have R3 : Row4 ((((w'.setCell ⟨w.heap.size, 0, none⟩ (.int .u64 1)).setCell ⟨w.heap.size, 1, none⟩ (.int .u64 0)).setCell ⟨w.heap.size, 2, none⟩ (.int .u64 0)).setCell ⟨w.heap.size, 3, none⟩ (.int .u64 0)) w.heap.size 1 0 0 0 := HR2.out.set4 1 0 0 0
  have B3 : Below w.heap.size w ((((w'.setCell ⟨w.heap.size, 0, none⟩ (.int .u64 1)).setCell ⟨w.heap.size, 1, none⟩ (.int .u64 0)).setCell ⟨w.heap.size, 2, none⟩ (.int .u64 0)).setCell ⟨w.heap.size, 3, none⟩ (.int .u64 0)) := below_set4 HB2.out (Nat.le_refl w.heap.size) 1 0 0 0
  have S3 : ((((w'.setCell ⟨w.heap.size, 0, none⟩ (.int .u64 1)).setCell ⟨w.heap.size, 1, none⟩ (.int .u64 0)).setCell ⟨w.heap.size, 2, none⟩ (.int .u64 0)).setCell ⟨w.heap.size, 3, none⟩ (.int .u64 0)).heap.size = w'.heap.size := by simp only [World.size_setCell]
  generalize ((((w'.setCell ⟨w.heap.size, 0, none⟩ (.int .u64 1)).setCell ⟨w.heap.size, 1, none⟩ (.int .u64 0)).setCell ⟨w.heap.size, 2, none⟩ (.int .u64 0)).setCell ⟨w.heap.size, 3, none⟩ (.int .u64 0)) = W2 at R3 B3 S3 ⊢
  have s3 : w.heap.size < W2.heap.size := by omega
  have HR3 := Lib.hid R3
  have HB3 := Lib.hid B3
  obtain ⟨n0', n1', n2', n3', nf'⟩ := R3
  clear B3 S3 n0 n1 n2 n3 nf r0 r1 r2 r3 rf
  rw [rounds_succ]
  go_wp2_with fail
  refine (div_two _).mono ?_
  rintro e w4 ⟨rfl, hbl⟩
  have B4 := HB3.out.trans (hbl.mono HB3.out.size)
  have HB4 := Lib.hid B4
  have hz4 : w.heap.size ≤ w4.heap.size := B4.size
  clear hbl B4 n0' n1' n2' n3' nf'
  go_wp2_with fail
  refine (HF2.out _ (tab_below HT.out (HB4.out.alloc hz4 _) (Nat.le_refl _))).mono ?_
  rintro e w5 ⟨rfl, hbl⟩
  have N5 := (Row4.new w4 0 0 0 0 24).below hbl (by simp)
  have B5 := (HB4.out.alloc hz4 (.cells #[.int .u64 0, .int .u64 0, .int .u64 0, .int .u64 0] 24)).trans (hbl.mono (by simp; omega))
  have HB5 := Lib.hid B5
  obtain ⟨n0', n1', n2', n3', nf'⟩ := N5
  clear hbl B5
  go_wp2_with fail
  go_ret
  refine ⟨?_, HB5.out⟩
  rw [HD1.out, HD2.out]
  kernel_rfl
end Go.Proofs.YtopahcobdfdnlaaDoor
