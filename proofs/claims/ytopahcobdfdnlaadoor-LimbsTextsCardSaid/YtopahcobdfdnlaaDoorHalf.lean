/-
  The calls of the reference's halves and join: for any number of four words, in any world, eight halves of words; and back. Conditions: each word below 2^64.
-/
import Derived.Test.YtopahcobdfdnlaaDoorMulS
import Derived.Test.YtopahcobdfdnlaaDoorShiftNum
import Derived.Test.YtopahcobdfdnlaaDoorTake
namespace Go.Proofs.YtopahcobdfdnlaaDoor
set_option linter.unusedVariables false
set_option linter.unusedSimpArgs false
open Go.RowKit

def val8 (a0 a1 a2 a3 a4 a5 a6 a7 : Nat) : Nat := a0 + 4294967296 * (a1 + 4294967296 * (a2 + 4294967296 * (a3 + 4294967296 * (a4 + 4294967296 * (a5 + 4294967296 * (a6 + 4294967296 * a7))))))
def ok8 (a0 a1 a2 a3 a4 a5 a6 a7 : Nat) : Prop := a0 < 4294967296 ∧ a1 < 4294967296 ∧ a2 < 4294967296 ∧ a3 < 4294967296 ∧ a4 < 4294967296 ∧ a5 < 4294967296 ∧ a6 < 4294967296 ∧ a7 < 4294967296
theorem ex_half {a : Nat} (ha : a < 18446744073709551616) : ∃ l h : Nat, bits .and .u64 (a : Int) 4294967295 = (l : Int) ∧ (a : Int) / 4294967296 = (h : Int) ∧ l < 4294967296 ∧ h < 4294967296 ∧ Hid (l + 4294967296 * h = a) := by
  obtain ⟨h, l, e1, e2, h1, h2, e⟩ := dv_half ha
  exact ⟨l, h, e2, e1, h2, h1, Lib.hid (by omega)⟩
def HalvesPost (A : Nat) (w : World) (e : Ending) (w' : World) : Prop :=
  ∃ h0 h1 h2 h3 h4 h5 h6 h7 : Nat, e = .returned (.agg #[.int .u64 h0, .int .u64 h1, .int .u64 h2, .int .u64 h3, .int .u64 h4, .int .u64 h5, .int .u64 h6, .int .u64 h7]) ∧ ok8 h0 h1 h2 h3 h4 h5 h6 h7 ∧ Hid (val8 h0 h1 h2 h3 h4 h5 h6 h7 = A) ∧ Below w.heap.size w w'

set_option maxHeartbeats 1000000 in
theorem halves_calls (a0 a1 a2 a3 : Nat) (ha : ok4 a0 a1 a2 a3) (w : World) :
    Calls Tryd.prog 41 #[.agg #[.int .u64 a0, .int .u64 a1, .int .u64 a2, .int .u64 a3]] w (HalvesPost (val4 a0 a1 a2 a3) w) := by
  obtain ⟨h0, h1, d0, d1, b0, b1, e0⟩ := ex_half ha.1
  obtain ⟨h2, h3, d2, d3, b2, b3, e1⟩ := ex_half ha.2.1
  obtain ⟨h4, h5, d4, d5, b4, b5, e2⟩ := ex_half ha.2.2.1
  obtain ⟨h6, h7, d6, d7, b6, b7, e3⟩ := ex_half ha.2.2.2
  go_enter Tryd.func41, Tryd.ntmps41
  go_wp2_with fail
  refine wp_loop_rounds 5 ?_
  rw [rounds_succ]
  go_wp2_with fail
  rw [rounds_succ]
  go_wp2_with fail
  rw [rounds_succ]
  go_wp2_with fail
  rw [rounds_succ]
  go_wp2_with fail
  rw [rounds_succ]
  go_wp2_with fail
  refine bodyPost_ret (v := .agg #[.int .u64 h0, .int .u64 h1, .int .u64 h2, .int .u64 h3, .int .u64 h4, .int .u64 h5, .int .u64 h6, .int .u64 h7]) (by simp [results, Tryd.results41, go_sem]) rfl ?_
  refine ⟨h0, h1, h2, h3, h4, h5, h6, h7, rfl, ⟨b0, b1, b2, b3, b4, b5, b6, b7⟩, ?_, ?_⟩
  · have := e0.out; have := e1.out; have := e2.out; have := e3.out
    exact Lib.hid (by unfold val4 val8; omega)
  repeat (first | exact Below.refl _ _ | refine Below.drew ?_ | refine Below.alloc ?_ (by first | (simp; done) | (simp; omega)) _)

theorem ex_join {l h : Nat} (hl : l < 4294967296) (hh : h < 4294967296) : ∃ u s : Nat, (h : Int) * 4294967296 = (u : Int) ∧ bits .or .u64 (l : Int) (u : Int) = (s : Int) ∧ u < 18446744073709551616 ∧ s < 18446744073709551616 ∧ Hid (s = l + 4294967296 * h) := by
  obtain ⟨s, e, hs, f⟩ := ex_or' (k := 32) (lo := l) (up := h * 4294967296) (by omega) (by omega) (Lib.hid (by omega)) (Lib.hid ⟨h, by omega⟩)
  have := f.out
  exact ⟨h * 4294967296, s, by omega, e, by omega, hs, Lib.hid (by omega)⟩

set_option maxHeartbeats 1000000 in
theorem join_calls (h0 h1 h2 h3 h4 h5 h6 h7 : Nat) (hh : ok8 h0 h1 h2 h3 h4 h5 h6 h7) (g o c : Nat) (w : World)
    (c0 : w.cell? ⟨g, o, none⟩ = some (.int .u64 h0)) (c1 : w.cell? ⟨g, o + 1, none⟩ = some (.int .u64 h1)) (c2 : w.cell? ⟨g, o + 2, none⟩ = some (.int .u64 h2)) (c3 : w.cell? ⟨g, o + 3, none⟩ = some (.int .u64 h3))
    (c4 : w.cell? ⟨g, o + 4, none⟩ = some (.int .u64 h4)) (c5 : w.cell? ⟨g, o + 5, none⟩ = some (.int .u64 h5)) (c6 : w.cell? ⟨g, o + 6, none⟩ = some (.int .u64 h6)) (c7 : w.cell? ⟨g, o + 7, none⟩ = some (.int .u64 h7)) (hg : g < w.heap.size) :
    Calls Tryd.prog 42 #[.slice (some ⟨g, o, none⟩) 8 c] w (WordPost (fun v => v = val8 h0 h1 h2 h3 h4 h5 h6 h7) w) := by
  obtain ⟨k0, k1, k2, k3, k4, k5, k6, k7⟩ := hh
  obtain ⟨u0, s0, p0, q0, a0, b0, e0⟩ := ex_join k0 k1
  obtain ⟨u1, s1, p1, q1, a1, b1, e1⟩ := ex_join k2 k3
  obtain ⟨u2, s2, p2, q2, a2, b2, e2⟩ := ex_join k4 k5
  obtain ⟨u3, s3, p3, q3, a3, b3, e3⟩ := ex_join k6 k7
  go_enter Tryd.func42, Tryd.ntmps42
  go_wp2_with fail
  refine wp_loop_rounds 5 ?_
  rw [rounds_succ]
  go_wp2_with fail
  go_region
  go_wp2_with fail
  rw [rounds_succ]
  go_wp2_with fail
  go_region
  go_wp2_with fail
  rw [rounds_succ]
  go_wp2_with fail
  go_region
  go_wp2_with fail
  rw [rounds_succ]
  go_wp2_with fail
  go_region
  go_wp2_with fail
  rw [rounds_succ]
  go_wp2_with fail
  refine bodyPost_ret (v := .agg #[.int .u64 s0, .int .u64 s1, .int .u64 s2, .int .u64 s3]) (by simp [results, Tryd.results42, go_sem]) rfl ?_
  refine ⟨s0, s1, s2, s3, rfl, ⟨b0, b1, b2, b3⟩, ?_, ?_⟩
  · have := e0.out; have := e1.out; have := e2.out; have := e3.out
    unfold val4 val8; omega
  repeat (first | exact Below.refl _ _ | refine Below.drew ?_ | refine Below.alloc ?_ (by first | (simp; done) | (simp; omega)) _)
end Go.Proofs.YtopahcobdfdnlaaDoor
