/-
  The calls of the reference's halves and join: for any number of four words, in any world, eight halves of words; and back. Conditions: each word below 2^64.
-/
import Derived.Test.YtalddekocfkbhaaMulS
import Derived.Test.YtalddekocfkbhaaShiftNum
import Derived.Test.YtalddekocfkbhaaTake
namespace Go.Proofs.Ytalddekocfkbhaa
set_option linter.unusedVariables false
set_option linter.unusedSimpArgs false
open Go.RowKit

def val8 (a0 a1 a2 a3 a4 a5 a6 a7 : Nat) : Nat := a0 + 4294967296 * (a1 + 4294967296 * (a2 + 4294967296 * (a3 + 4294967296 * (a4 + 4294967296 * (a5 + 4294967296 * (a6 + 4294967296 * a7))))))
def ok8 (a0 a1 a2 a3 a4 a5 a6 a7 : Nat) : Prop := a0 < 4294967296 ∧ a1 < 4294967296 ∧ a2 < 4294967296 ∧ a3 < 4294967296 ∧ a4 < 4294967296 ∧ a5 < 4294967296 ∧ a6 < 4294967296 ∧ a7 < 4294967296
theorem ex_half {a : Nat} (ha : a < 18446744073709551616) : ∃ l h : Nat, bits .and .u64 (a : Int) 4294967295 = (l : Int) ∧ (a : Int) / 4294967296 = (h : Int) ∧ l < 4294967296 ∧ h < 4294967296 ∧ Hid (l + 4294967296 * h = a) := by
  obtain ⟨h, l, e1, e2, h1, h2, e⟩ := dv_half ha
  exact ⟨l, h, e2, e1, h2, h1, Lib.hid (by omega)⟩
def HalvesPost (A : Nat) (w : World) (e : Ending) (w' : World) : Prop :=
  ∃ h0 h1 h2 h3 h4 h5 h6 h7 : Nat, e = .returned (.agg #[.int .u64 h0, .int .u64 h1, .int .u64 h2, .int .u64 h3, .int .u64 h4, .int .u64 h5, .int .u64 h6, .int .u64 h7]) ∧ ok8 h0 h1 h2 h3 h4 h5 h6 h7 ∧ Hid (val8 h0 h1 h2 h3 h4 h5 h6 h7 = A) ∧ Below w.heap.size w w'

set_option maxHeartbeats 1000000 in
theorem halves_calls (a0 a1 a2 a3 : Nat) (ha : ok4 a0 a1 a2 a3) (w : World) :
    Calls Try.prog 106 #[.agg #[.int .u64 a0, .int .u64 a1, .int .u64 a2, .int .u64 a3]] w (HalvesPost (val4 a0 a1 a2 a3) w) := by
  obtain ⟨h0, h1, d0, d1, b0, b1, e0⟩ := ex_half ha.1
  obtain ⟨h2, h3, d2, d3, b2, b3, e1⟩ := ex_half ha.2.1
  obtain ⟨h4, h5, d4, d5, b4, b5, e2⟩ := ex_half ha.2.2.1
  obtain ⟨h6, h7, d6, d7, b6, b7, e3⟩ := ex_half ha.2.2.2
  go_enter Try.func106, Try.ntmps106
  go_wp2_with fail
  refine wp_loop_rounds 5 ?_
  rw [rounds_succ]
  go_wp2_with fail
  rw [rounds_succ]
  go_wp2_with fail
  rw [rounds_succ]
  go_wp2_with fail
  rw [rounds_succ]
  go_wp2_with fail
  rw [rounds_succ]
  go_wp2_with fail
  refine bodyPost_ret (v := .agg #[.int .u64 h0, .int .u64 h1, .int .u64 h2, .int .u64 h3, .int .u64 h4, .int .u64 h5, .int .u64 h6, .int .u64 h7]) (by simp [results, Try.results106, go_sem]) rfl ?_
  refine ⟨h0, h1, h2, h3, h4, h5, h6, h7, rfl, ⟨b0, b1, b2, b3, b4, b5, b6, b7⟩, ?_, ?_⟩
  · have := e0.out; have := e1.out; have := e2.out; have := e3.out
    exact Lib.hid (by unfold val4 val8; omega)
  repeat (first | exact Below.refl _ _ | refine Below.drew ?_ | refine Below.alloc ?_ (by first | (simp; done) | (simp; omega)) _)

theorem ex_join {l h : Nat} (hl : l < 4294967296) (hh : h < 4294967296) : ∃ u s : Nat, (h : Int) * 4294967296 = (u : Int) ∧ bits .or .u64 (l : Int) (u : Int) = (s : Int) ∧ u < 18446744073709551616 ∧ s < 18446744073709551616 ∧ Hid (s = l + 4294967296 * h) := by
  obtain ⟨s, e, hs, f⟩ := ex_or' (k := 32) (lo := l) (up := h * 4294967296) (by omega) (by omega) (Lib.hid (by omega)) (Lib.hid ⟨h, by omega⟩)
  have := f.out
  exact ⟨h * 4294967296, s, by omega, e, by omega, hs, Lib.hid (by omega)⟩

end Go.Proofs.Ytalddekocfkbhaa
