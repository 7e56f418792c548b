/-
  The call of the law's alive: the page's examples, all of them met. Conditions: the table of powers of ten as the program's text lays it.
-/
import Derived.Test.YtopahcobdfdnlaaDoorPrint1
import Derived.Test.YtopahcobdfdnlaaDoorMulS
import Derived.Test.YtopahcobdfdnlaaDoorMem
namespace Go.Proofs.YtopahcobdfdnlaaDoor
set_option linter.unusedVariables false
set_option linter.unusedSimpArgs false
open Go.RowKit

theorem alive_add (w : World) : Calls Tryd.prog 9 #[.agg #[.int .u64 18446744073709551615, .int .u64 18446744073709551615, .int .u64 18446744073709551615, .int .u64 18446744073709551615], .agg #[.int .u64 1, .int .u64 0, .int .u64 0, .int .u64 0]] w fun e w' =>
    e = .returned (.tuple #[.agg #[.int .u64 0, .int .u64 0, .int .u64 0, .int .u64 0], .int .u64 1]) ∧ Below w.heap.size w w' := by
  refine (add_calls 18446744073709551615 18446744073709551615 18446744073709551615 18446744073709551615 1 0 0 0 ⟨by omega, by omega, by omega, by omega⟩ ⟨by omega, by omega, by omega, by omega⟩ w).mono ?_
  rintro e w1 ⟨s0, s1, s2, s3, c, he, ⟨k0, k1, k2, k3⟩, hc, hv, hbl⟩
  unfold val4 at hv
  obtain ⟨rfl, rfl, rfl, rfl, rfl⟩ : s0 = 0 ∧ s1 = 0 ∧ s2 = 0 ∧ s3 = 0 ∧ c = 1 := by omega
  exact ⟨he, hbl⟩
theorem alive_mul (w : World) : Calls Tryd.prog 13 #[.agg #[.int .u64 0, .int .u64 0, .int .u64 0, .int .u64 9223372036854775808], .agg #[.int .u64 2, .int .u64 0, .int .u64 0, .int .u64 0]] w fun e w' =>
    e = .returned (.tuple #[.agg #[.int .u64 1, .int .u64 0, .int .u64 0, .int .u64 0], .agg #[.int .u64 0, .int .u64 0, .int .u64 0, .int .u64 0]]) ∧ Below w.heap.size w w' := by
  refine (mul_calls 0 0 0 9223372036854775808 2 0 0 0 ⟨by omega, by omega, by omega, by omega⟩ ⟨by omega, by omega, by omega, by omega⟩ w).mono ?_
  rintro e w1 ⟨h0, h1, h2, h3, l0, l1, l2, l3, he, ⟨k0, k1, k2, k3⟩, ⟨j0, j1, j2, j3⟩, hv, hbl⟩
  unfold val4 at hv
  obtain ⟨rfl, rfl, rfl, rfl, rfl, rfl, rfl, rfl⟩ : h0 = 1 ∧ h1 = 0 ∧ h2 = 0 ∧ h3 = 0 ∧ l0 = 0 ∧ l1 = 0 ∧ l2 = 0 ∧ l3 = 0 := by omega
  exact ⟨he, hbl⟩
theorem alive_mod (w : World) : Calls Tryd.prog 28 #[.agg #[.int .u64 1, .int .u64 0, .int .u64 0, .int .u64 0], .agg #[.int .u64 0, .int .u64 0, .int .u64 0, .int .u64 0], .agg #[.int .u64 3, .int .u64 0, .int .u64 0, .int .u64 0]] w fun e w' =>
    e = .returned (.tuple #[.agg #[.int .u64 1, .int .u64 0, .int .u64 0, .int .u64 0], .int .i64 0]) ∧ Below w.heap.size w w' := by
  refine (mod_some 1 0 0 0 0 0 0 0 3 0 0 0 ⟨by omega, by omega, by omega, by omega⟩ ⟨by omega, by omega, by omega, by omega⟩ ⟨by omega, by omega, by omega, by omega⟩ (by unfold val4; omega) w).mono ?_
  rintro e w1 ⟨s0, s1, s2, s3, c, he, ⟨k0, k1, k2, k3⟩, ⟨hv, hc⟩, hbl⟩
  unfold val4 at hv
  obtain ⟨rfl, rfl, rfl, rfl⟩ : s0 = 1 ∧ s1 = 0 ∧ s2 = 0 ∧ s3 = 0 := by omega
  subst hc
  exact ⟨he, hbl⟩
theorem alive_len (w : World) : Calls Tryd.prog 18 #[.agg #[.int .u64 0, .int .u64 1, .int .u64 0, .int .u64 0]] w fun e w' =>
    e = .returned (.int .i64 65) ∧ Below w.heap.size w w' := by
  refine (len_calls 0 1 0 0 ⟨by omega, by omega, by omega, by omega⟩ w).mono ?_
  rintro e w1 ⟨L, he, hL, hl, hbl⟩
  have : L = 65 := hl.uniq (show LenIs (val4 0 1 0 0) 65 from ⟨by unfold val4; simp, fun _ => by unfold val4; simp⟩)
  subst this
  exact ⟨he, hbl⟩
theorem equalZZ (w : World) : (Op.equalIn 10000 24 (.agg #[.int .u64 1, .int .u64 0, .int .u64 0, .int .u64 0]) (.agg #[.int .u64 1, .int .u64 0, .int .u64 0, .int .u64 0])).run Tryd.prog w = .ok true w :=
  equalInW 9998 1 0 0 0 1 0 0 0 w

theorem num_calls (n : Int) (w : World) : Calls Tryd.prog 30 #[.int .i64 n] w fun e w' => e = .returned (.int .i64 n) ∧ w' = w := by
  go_enter Tryd.func30, Tryd.ntmps30
  go_wp2_with fail
  go_ret
  exact ⟨rfl, rfl⟩

set_option maxRecDepth 100000 in
set_option maxHeartbeats 2000000 in
theorem alive_calls (w : World) (htab : Lib.TabIs Tryd.prog w "internal/strconv.uint64pow10" .u64 Lib.pow10Tab) :
    Calls Tryd.prog 17 #[] w fun e w' => e = .returned (.bool true) ∧ Below w.heap.size w w' := by
  have hG := eqGuardW
  have hE := fun w => equalZZ w
  have hZ := fun w => equalInZ w
  have HT := Lib.hid htab
  clear htab
  go_enter Tryd.func17, Tryd.ntmps17
  go_wp2_with fail
  have M := Lib.hid ((Mem.nil w).new w.heap.size 18446744073709551615 18446744073709551615 18446744073709551615 18446744073709551615 24 rfl)
  refine (alive_add _).mono ?_
  rintro e w1 ⟨rfl, hbl⟩
  have M1 := Lib.hid ((M.out.on hbl).new w1.heap.size 0 0 0 0 24 rfl)
  clear hbl M
  go_wp2_with fail
  refine (alive_mul _).mono ?_
  rintro e w2 ⟨rfl, hbl⟩
  have M2 := Lib.hid (((M1.out.on hbl).new w2.heap.size 1 0 0 0 24 rfl).new (w2.heap.size + 1) 0 0 0 0 24 (by simp))
  clear hbl M1
  go_wp2_with fail
  refine (alive_mod _).mono ?_
  rintro e w3 ⟨rfl, hbl⟩
  have M3 := M2.out.on hbl
  obtain ⟨l2, c0, c1, c2, c3, cf⟩ := M3.get (b := w1.heap.size) (c0 := 0) (c1 := 0) (c2 := 0) (c3 := 0) (by simp)
  obtain ⟨l4, d0, d1, d2, d3, df⟩ := M3.get (b := w2.heap.size) (c0 := 1) (c1 := 0) (c2 := 0) (c3 := 0) (by simp)
  obtain ⟨l5, e0, e1, e2, e3, ef⟩ := M3.get (b := w2.heap.size + 1) (c0 := 0) (c1 := 0) (c2 := 0) (c3 := 0) (by simp)
  have M4 := Lib.hid (M3.new w3.heap.size 1 0 0 0 24 rfl)
  clear hbl M2 M3
  go_wp2_with fail
  refine (alive_len _).mono ?_
  rintro e w4 ⟨rfl, hbl⟩
  have M5 := M4.out.on hbl
  obtain ⟨l6, f0, f1, f2, f3, ff⟩ := M5.get (b := w3.heap.size) (c0 := 1) (c1 := 0) (c2 := 0) (c3 := 0) (by simp)
  have HM5 := Lib.hid M5
  clear hbl M4 M5 c0 c1 c2 c3 d0 d1 d2 d3 e0 e1 e2 e3 l2 l4 l5 cf df ef
  go_wp2_with fail
  refine (num_calls _ _).mono ?_
  rintro e w' ⟨rfl, rfl⟩
  go_wp2_with fail
  refine (print_one _ (tab_below HT.out HM5.out.1 (Nat.le_refl _))).mono ?_
  rintro e w5 ⟨rfl, hbl⟩
  have B := Lib.hid (HM5.out.1.trans (hbl.mono HM5.out.1.size))
  clear hbl
  go_wp2_with fail
  go_ret
  exact ⟨rfl, B.out⟩
end Go.Proofs.YtopahcobdfdnlaaDoor
