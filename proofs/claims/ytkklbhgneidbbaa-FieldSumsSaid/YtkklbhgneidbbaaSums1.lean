/-
  FieldSums: the helpers two and same, and the statement where something may not be. Conditions: words below 2^64.
-/
import Derived.Test.YtkklbhgneidbbaaFRingA
import Derived.Test.YtkklbhgneidbbaaRef3
namespace Go.Proofs.Ytkklbhgneidbbaa
set_option linter.unusedVariables false
set_option linter.unusedSimpArgs false
open Go.RowKit

set_option maxRecDepth 100000 in
set_option maxHeartbeats 8000000 in
theorem two_ok (f : Int) (F : FC) (hf : FieldIs f F) (a0 a1 a2 a3 b0 b1 b2 b3 : Nat) (ha : ok4 a0 a1 a2 a3) (hb : ok4 b0 b1 b2 b3) (la : val4 a0 a1 a2 a3 < F.M) (lb : val4 b0 b1 b2 b3 < F.M) (w : World) :
    Calls Try.prog 12 #[.int .i64 f, .agg #[.int .u64 a0, .int .u64 a1, .int .u64 a2, .int .u64 a3], .agg #[.int .u64 b0, .int .u64 b1, .int .u64 b2, .int .u64 b3]] w fun e w' => e = .returned (.int .i64 0) ∧ Below w.heap.size w w' := by
  go_enter Try.func12, Try.ntmps12
  go_wp2_with fail
  have HM := Lib.hid (((Mem.nil w).new (w.heap.size) a0 a1 a2 a3 25 (by simp)).new (w.heap.size + 1) b0 b1 b2 b3 25 (by simp))
  refine (rcheck_ok f F hf a0 a1 a2 a3 ha la _).mono ?_
  rintro e w1 ⟨rfl, hbl⟩
  have HM' := Lib.hid (HM.out.on hbl)
  clear HM hbl
  have HM := HM'
  clear HM'
  have kr := HM.out.row (b := w.heap.size + 1) (c0 := b0) (c1 := b1) (c2 := b2) (c3 := b3) (by simp)
  have x0 := kr.c0; have x1 := kr.c1; have x2 := kr.c2; have x3 := kr.c3
  clear kr
  have xl := HM.out.lt (b := w.heap.size + 1) (c0 := b0) (c1 := b1) (c2 := b2) (c3 := b3) (by simp)
  go_wp2_with fail
  refine (rcheck_ok f F hf b0 b1 b2 b3 hb lb _).mono ?_
  rintro e w2 ⟨rfl, hbl⟩
  have HM' := Lib.hid (HM.out.on hbl)
  clear HM hbl
  have HM := HM'
  clear HM'
  clear x0 x1 x2 x3 xl
  go_wp2_with fail
  go_ret
  exact ⟨rfl, HM.out.1⟩
set_option maxRecDepth 100000 in
set_option maxHeartbeats 8000000 in
theorem two_err (f c : Int) (a0 a1 a2 a3 b0 b1 b2 b3 : Nat) (ha : ok4 a0 a1 a2 a3) (hb : ok4 b0 b1 b2 b3) (h : Bad2 f (val4 a0 a1 a2 a3) (val4 b0 b1 b2 b3) c) (w : World) :
    Calls Try.prog 12 #[.int .i64 f, .agg #[.int .u64 a0, .int .u64 a1, .int .u64 a2, .int .u64 a3], .agg #[.int .u64 b0, .int .u64 b1, .int .u64 b2, .int .u64 b3]] w fun e w' => e = .returned (.int .i64 c) ∧ Below w.heap.size w w' := by
  rcases h with h | ⟨F, hf, la, lb, rfl⟩
  · have t0 : (c == 0) = false := by have := h.ne; simp [this]
    have HB := Lib.hid h
    clear h
    go_enter Try.func12, Try.ntmps12
    go_wp2_with fail
    have HM := Lib.hid (((Mem.nil w).new (w.heap.size) a0 a1 a2 a3 25 (by simp)).new (w.heap.size + 1) b0 b1 b2 b3 25 (by simp))
    refine (rcheck_err f c a0 a1 a2 a3 ha HB.out _).mono ?_
    rintro e w1 ⟨rfl, hbl⟩
    have HM' := Lib.hid (HM.out.on hbl)
    clear HM hbl
    have HM := HM'
    clear HM'
    go_wp2_with fail
    go_ret
    exact ⟨rfl, HM.out.1⟩
  · go_enter Try.func12, Try.ntmps12
    go_wp2_with fail
    have HM := Lib.hid (((Mem.nil w).new (w.heap.size) a0 a1 a2 a3 25 (by simp)).new (w.heap.size + 1) b0 b1 b2 b3 25 (by simp))
    refine (rcheck_ok f F hf a0 a1 a2 a3 ha la _).mono ?_
    rintro e w1 ⟨rfl, hbl⟩
    have HM' := Lib.hid (HM.out.on hbl)
    clear HM hbl
    have HM := HM'
    clear HM'
    have kr := HM.out.row (b := w.heap.size + 1) (c0 := b0) (c1 := b1) (c2 := b2) (c3 := b3) (by simp)
    have x0 := kr.c0; have x1 := kr.c1; have x2 := kr.c2; have x3 := kr.c3
    clear kr
    have xl := HM.out.lt (b := w.heap.size + 1) (c0 := b0) (c1 := b1) (c2 := b2) (c3 := b3) (by simp)
    go_wp2_with fail
    refine (rcheck_err f 21 b0 b1 b2 b3 hb (Or.inr ⟨F, hf, lb, rfl⟩) _).mono ?_
    rintro e w2 ⟨rfl, hbl⟩
    have HM' := Lib.hid (HM.out.on hbl)
    clear HM hbl
    have HM := HM'
    clear HM'
    clear x0 x1 x2 x3 xl
    go_wp2_with fail
    go_ret
    exact ⟨rfl, HM.out.1⟩
set_option maxRecDepth 100000 in
set_option maxHeartbeats 8000000 in
theorem same_ok (a0 a1 a2 a3 : Nat) (w : World) :
    Calls Try.prog 18 #[.agg #[.int .u64 a0, .int .u64 a1, .int .u64 a2, .int .u64 a3], .int .i64 0, .agg #[.int .u64 a0, .int .u64 a1, .int .u64 a2, .int .u64 a3], .int .i64 0] w fun e w' => e = .returned (.bool true) ∧ Below w.heap.size w w' := by
  have hG := eqGuardF
  have hS := equalSelfF
  go_enter Try.func18, Try.ntmps18
  go_wp2_with fail
  refine (num_calls _ _).mono ?_
  rintro e w' ⟨rfl, rfl⟩
  go_wp2_with fail
  go_ret
  refine ⟨rfl, ?_⟩
  repeat (first | exact Below.refl _ _ | refine Below.alloc ?_ (by first | (simp; done) | (simp; omega)) _)
end Go.Proofs.Ytkklbhgneidbbaa
