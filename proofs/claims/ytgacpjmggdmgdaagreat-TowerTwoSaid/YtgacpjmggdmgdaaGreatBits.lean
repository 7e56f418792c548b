/-
  The calls of the reference's Bit and put, and of limbs.Bit: for any number of four words and any place, in any world. Conditions: each word below 2^64; a bit that is put was not there.
-/
import Derived.Test.YtgacpjmggdmgdaaGreatWord
import Derived.Test.YtgacpjmggdmgdaaGreatBitByte
import Derived.Test.YtgacpjmggdmgdaaGreatMem
import Derived.Outline
import Derived.LoopTactic
namespace Go.Proofs.YtgacpjmggdmgdaaGreat
set_option linter.unusedVariables false
set_option linter.unusedSimpArgs false
open Go.RowKit

def BitPost (b : Nat) (w : World) (e : Ending) (w' : World) : Prop := e = .returned (.int .i64 b) ∧ Below w.heap.size w w'
theorem fn4_lt {a0 a1 a2 a3 : Nat} (ha : ok4 a0 a1 a2 a3) (k : Nat) : fnOf [a0, a1, a2, a3] k < 18446744073709551616 := by
  obtain ⟨h0, h1, h2, h3⟩ := ha
  unfold fnOf
  match k with
  | 0 => exact h0
  | 1 => exact h1
  | 2 => exact h2
  | 3 => exact h3
  | k + 4 => simp
theorem val4_fn (a0 a1 a2 a3 : Nat) : val4 a0 a1 a2 a3 = tot 18446744073709551616 (fnOf [a0, a1, a2, a3]) 4 := by rw [← val4_tot]; rfl
theorem bit_fn {a0 a1 a2 a3 i j k : Nat} (ha : ok4 a0 a1 a2 a3) (hj : j < 4) (hk : k < 64) (e : i = 64 * j + k) : fnOf [a0, a1, a2, a3] j / 2 ^ k % 2 = bitOf (val4 a0 a1 a2 a3) i := by
  rw [val4_fn, e, word_bit _ (fn4_lt ha) 4 j k hj hk]
theorem new_cell (w : World) (t : TypeId) (a0 a1 a2 a3 j : Nat) (hj : j < 4) : (w.alloc (.cells #[.int .u64 a0, .int .u64 a1, .int .u64 a2, .int .u64 a3] t)).cell? ⟨w.heap.size, j, none⟩ = some (.int .u64 (fnOf [a0, a1, a2, a3] j : Nat)) :=
  (RowIs.mk w t [a0, a1, a2, a3] w.heap.size rfl).cell hj

theorem refBit_in (a0 a1 a2 a3 i : Nat) (ha : ok4 a0 a1 a2 a3) (hi : i < 256) (w : World) :
    Calls Tryz.prog 79 #[.agg #[.int .u64 a0, .int .u64 a1, .int .u64 a2, .int .u64 a3], .int .i64 i] w (BitPost (bitOf (val4 a0 a1 a2 a3) i) w) := by
  obtain ⟨j, k, q, r, hj, hk, e⟩ := ex_ix hi
  have hc := new_cell w 50 a0 a1 a2 a3 j hj
  have hx := fn4_lt ha j
  obtain ⟨s, e1, e2, hs⟩ := ex_bit hx (bit_fn ha hj hk e.out)
  have hb := bitOf_01 (val4 a0 a1 a2 a3) i
  generalize bitOf (val4 a0 a1 a2 a3) i = b at *
  generalize fnOf [a0, a1, a2, a3] j = x at *
  have hb' : b ≤ 1 := by omega
  clear hb e
  have t0 : decide ((i : Int) < 0) = false := decide_eq_false (by omega)
  have t1 : decide ((255 : Int) < (i : Int)) = false := decide_eq_false (by omega)
  go_enter Tryz.func79, Tryz.ntmps79
  go_wp2_with fail
  go_ret
  exact ⟨rfl, (Below.refl _ _).alloc (Nat.le_refl _) _⟩
theorem refBit_out (a0 a1 a2 a3 : Nat) (i : Int) (hi : i < 0 ∨ 255 < i) (w : World) :
    Calls Tryz.prog 79 #[.agg #[.int .u64 a0, .int .u64 a1, .int .u64 a2, .int .u64 a3], .int .i64 i] w (BitPost 0 w) := by
  by_cases h : i < 0
  · have t0 : decide (i < 0) = true := decide_eq_true h
    go_enter Tryz.func79, Tryz.ntmps79
    go_wp2_with fail
    go_ret
    exact ⟨rfl, (Below.refl _ _).alloc (Nat.le_refl _) _⟩
  · have t0 : decide (i < 0) = false := decide_eq_false h
    have t1 : decide ((255 : Int) < i) = true := decide_eq_true (by omega)
    go_enter Tryz.func79, Tryz.ntmps79
    go_wp2_with fail
    go_ret
    exact ⟨rfl, (Below.refl _ _).alloc (Nat.le_refl _) _⟩
theorem bit_in (a0 a1 a2 a3 i : Nat) (ha : ok4 a0 a1 a2 a3) (hi : i < 256) (w : World) :
    Calls Tryz.prog 127 #[.agg #[.int .u64 a0, .int .u64 a1, .int .u64 a2, .int .u64 a3], .int .i64 i] w (BitPost (bitOf (val4 a0 a1 a2 a3) i) w) := by
  obtain ⟨j, k, q, r, hj, hk, e⟩ := ex_ix hi
  have hc := new_cell w 50 a0 a1 a2 a3 j hj
  have hx := fn4_lt ha j
  obtain ⟨s, e1, e2, hs⟩ := ex_bit hx (bit_fn ha hj hk e.out)
  have hb := bitOf_01 (val4 a0 a1 a2 a3) i
  generalize bitOf (val4 a0 a1 a2 a3) i = b at *
  generalize fnOf [a0, a1, a2, a3] j = x at *
  have hb' : b ≤ 1 := by omega
  clear hb e
  have t0 : decide ((i : Int) < 0) = false := decide_eq_false (by omega)
  have t1 : decide ((256 : Int) ≤ (i : Int)) = false := decide_eq_false (by omega)
  go_enter Tryz.func127, Tryz.ntmps127
  go_wp2_with fail
  go_ret
  exact ⟨rfl, (Below.refl _ _).alloc (Nat.le_refl _) _⟩
theorem bit_out (a0 a1 a2 a3 : Nat) (i : Int) (hi : i < 0 ∨ 255 < i) (w : World) :
    Calls Tryz.prog 127 #[.agg #[.int .u64 a0, .int .u64 a1, .int .u64 a2, .int .u64 a3], .int .i64 i] w (BitPost 0 w) := by
  by_cases h : i < 0
  · have t0 : decide (i < 0) = true := decide_eq_true h
    go_enter Tryz.func127, Tryz.ntmps127
    go_wp2_with fail
    go_ret
    exact ⟨rfl, (Below.refl _ _).alloc (Nat.le_refl _) _⟩
  · have t0 : decide (i < 0) = false := decide_eq_false h
    have t1 : decide ((256 : Int) ≤ i) = true := decide_eq_true (by omega)
    go_enter Tryz.func127, Tryz.ntmps127
    go_wp2_with fail
    go_ret
    exact ⟨rfl, (Below.refl _ _).alloc (Nat.le_refl _) _⟩
end Go.Proofs.YtgacpjmggdmgdaaGreat
