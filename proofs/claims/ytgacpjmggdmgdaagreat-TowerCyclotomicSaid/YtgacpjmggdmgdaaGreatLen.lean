/-
  The call of limbs.Len: how many bits a number of four words has. Conditions: each word below 2^64.
-/
import Derived.Test.YtgacpjmggdmgdaaGreatDiv
import Derived.Test.YtgacpjmggdmgdaaGreatNums
import Derived.Test.YtgacpjmggdmgdaaGreatRow
import Derived.LoopTactic
namespace Go.Proofs.YtgacpjmggdmgdaaGreat
set_option linter.unusedVariables false
set_option linter.unusedSimpArgs false
open Go.RowKit

theorem ex_len64 {y : Nat} (h0 : 0 < y) (hy : y < 18446744073709551616) : ∃ S : Nat, (∀ w, Calls Tryz.prog 157 #[.int .u64 y] w fun e w' => e = .returned (.int .i64 S) ∧ w' = w) ∧ S ≤ 64 ∧ Hid (LenIs y S) := by
  obtain ⟨hl, ha, hb, hk⟩ := lenLog h0 hy
  refine ⟨y.log2 + 1, fun w => ?_, by omega, Lib.hid ⟨hb, fun _ => ha⟩⟩
  have := Tryz.bits_Len64 (y : Int) w (by omega) (by omega)
  rw [Int.toNat_natCast, hl] at this
  exact this

theorem run_indexW0 (a0 a1 a2 a3 : Nat) (w : World) : (Instr.index 50 (.agg #[.int .u64 a0, .int .u64 a1, .int .u64 a2, .int .u64 a3]) (.int .i64 (0 : Nat))).run Tryz.prog w = .ok (.int .u64 (a0 : Nat)) w := by kernel_rfl
theorem run_indexW1 (a0 a1 a2 a3 : Nat) (w : World) : (Instr.index 50 (.agg #[.int .u64 a0, .int .u64 a1, .int .u64 a2, .int .u64 a3]) (.int .i64 (1 : Nat))).run Tryz.prog w = .ok (.int .u64 (a1 : Nat)) w := by kernel_rfl
theorem run_indexW2 (a0 a1 a2 a3 : Nat) (w : World) : (Instr.index 50 (.agg #[.int .u64 a0, .int .u64 a1, .int .u64 a2, .int .u64 a3]) (.int .i64 (2 : Nat))).run Tryz.prog w = .ok (.int .u64 (a2 : Nat)) w := by kernel_rfl
theorem run_indexW3 (a0 a1 a2 a3 : Nat) (w : World) : (Instr.index 50 (.agg #[.int .u64 a0, .int .u64 a1, .int .u64 a2, .int .u64 a3]) (.int .i64 (3 : Nat))).run Tryz.prog w = .ok (.int .u64 (a3 : Nat)) w := by kernel_rfl
theorem run_indexW (a0 a1 a2 a3 k : Nat) (hk : k < 4) (w : World) : (Instr.index 50 (.agg #[.int .u64 a0, .int .u64 a1, .int .u64 a2, .int .u64 a3]) (.int .i64 (k : Nat))).run Tryz.prog w = .ok (.int .u64 (fnOf [a0, a1, a2, a3] k : Nat)) w := by
  match k, hk with
  | 0, _ => exact run_indexW0 a0 a1 a2 a3 w
  | 1, _ => exact run_indexW1 a0 a1 a2 a3 w
  | 2, _ => exact run_indexW2 a0 a1 a2 a3 w
  | 3, _ => exact run_indexW3 a0 a1 a2 a3 w

def LenPost (A : Nat) (w : World) (e : Ending) (w' : World) : Prop :=
  ∃ L : Nat, e = .returned (.int .i64 L) ∧ L ≤ 256 ∧ LenIs A L ∧ Below w.heap.size w w'

theorem len_step {A : Nat → Nat} {k L S : Nat} (hA : ∀ j, j < k → A j < 18446744073709551616) (h0 : 0 < A k) (hS : LenIs (A k) S) : LenIs (tot 18446744073709551616 A (k + 1)) (64 * k + S) := by
  have h1 := tot_lt 18446744073709551616 A (by omega) k hA
  rw [show 18446744073709551616 ^ k = 2 ^ (64 * k) by rw [Nat.pow_mul]] at h1
  rw [tot_succ, show 18446744073709551616 ^ k = 2 ^ (64 * k) by rw [Nat.pow_mul]]
  exact LenIs.up h1 h0 hS

theorem len_calls (a0 a1 a2 a3 : Nat) (ha : ok4 a0 a1 a2 a3) (w : World) :
    Calls Tryz.prog 126 #[.agg #[.int .u64 a0, .int .u64 a1, .int .u64 a2, .int .u64 a3]] w (LenPost (val4 a0 a1 a2 a3) w) := by
  have lA : ∀ k, fnOf [a0, a1, a2, a3] k < 18446744073709551616 := fun k => by
    obtain ⟨h0, h1, h2, h3⟩ := ha
    unfold fnOf
    match k with
    | 0 => exact h0
    | 1 => exact h1
    | 2 => exact h2
    | 3 => exact h3
    | k + 4 => simp
  obtain ⟨A, eA⟩ : ∃ A, A = fnOf [a0, a1, a2, a3] := ⟨_, rfl⟩
  have hix := fun k hk w => run_indexW a0 a1 a2 a3 k hk w
  rw [← eA] at lA
  simp only [← eA] at hix
  have hv : val4 a0 a1 a2 a3 = tot 18446744073709551616 A 4 := by rw [← val4_tot, eA]; rfl
  have HV := Lib.hid hv; have HlA := Lib.hid lA; have Hix := Lib.hid hix
  clear eA lA hv hix
  go_enter Tryz.func126, Tryz.ntmps126
  go_wp2_with fail
  go_loop [3, 7] (fun l i => ∃ k L : Nat, k ≤ 4 ∧ i = .int .i64 k ∧ l = .int .i64 L ∧ L ≤ 64 * k ∧ Hid (LenIs (tot 18446744073709551616 A k) L)) (fun _ i => 4 - (intOf i).toNat)
  case atStart => exact ⟨0, 0, by omega, rfl, rfl, by omega, Lib.hid LenIs.zero⟩
  case round =>
    obtain ⟨k, L, hk, rfl, rfl, hL, hl⟩ := hrel
    by_cases hlt : k < 4
    · obtain ⟨x, ex⟩ : ∃ x, x = A k := ⟨_, rfl⟩
      have hx := Hix.out k hlt
      rw [← ex] at hx
      have bx : x < 18446744073709551616 := by rw [ex]; exact HlA.out k
      rcases Nat.eq_zero_or_pos x with h0 | h0
      · have t0 : ((x : Int) != 0) = false := by simp [h0]
        have HN : Hid (LenIs (tot 18446744073709551616 A (k + 1)) L) := Lib.hid (by rw [tot_succ, ← ex, h0, Nat.zero_mul, Nat.add_zero]; exact hl.out)
        clear h0 ex
        go_wp2_with fail
        go_round
        case rel => exact ⟨k + 1, L, by omega, by go_num, rfl, by omega, HN⟩
        case measure => simp [intOf]; omega
      · have t0 : ((x : Int) != 0) = true := by simp; omega
        obtain ⟨S, rS, bS, hS⟩ := ex_len64 h0 bx
        have HN : Hid (LenIs (tot 18446744073709551616 A (k + 1)) (64 * k + S)) := Lib.hid (len_step (L := L) (fun j _ => HlA.out j) (by omega) (by rw [← ex]; exact hS.out))
        clear h0 ex
        go_wp2_with fail
        refine (rS _).mono ?_
        rintro e w' ⟨rfl, rfl⟩
        go_wp2_with fail
        go_round
        case rel => exact ⟨k + 1, 64 * k + S, by omega, by go_num, by go_num, by omega, HN⟩
        case measure => simp [intOf]; omega
    · obtain rfl : k = 4 := by omega
      go_wp2_with fail
      go_ret
      exact ⟨L, rfl, by omega, by rw [HV.out]; exact hl.out, (Below.refl _ _).alloc (Nat.le_refl _) _⟩
end Go.Proofs.YtgacpjmggdmgdaaGreat
