/-
  Decimal digits are read back; the call of SameBytes on two slices of 32 like bytes. Conditions: none of their own.
-/
import Derived.Test.YtopahcobdfdnlaaDoorParse
import Derived.Test.YtopahcobdfdnlaaDoorDecNum
namespace Go.Proofs.YtopahcobdfdnlaaDoor
set_option linter.unusedVariables false
set_option linter.unusedSimpArgs false
open Go.RowKit

theorem dig_of {d : Nat} (h : d < 10) : (UInt8.ofNat (48 + d)).toNat = 48 + d := by
  simp; omega
theorem dec_digs : ∀ n u, u < n → (Lib.decDigits u).all digB = true
  | 0, u, h => absurd h (by omega)
  | n + 1, u, h => by
    by_cases hu : u < 10
    · rw [Lib.decDigits_one hu]
      simp only [List.all_cons, List.all_nil, Bool.and_true]
      unfold digB
      exact decide_eq_true (by rw [dig_of hu]; omega)
    · rw [dec_step hu, List.all_append, dec_digs n (u / 10) (by omega)]
      simp only [List.all_cons, List.all_nil, Bool.and_true, Bool.true_and]
      unfold digB
      exact decide_eq_true (by rw [dig_of (Nat.mod_lt _ (by omega))]; omega)
theorem headB_app {l m : List UInt8} (h : headB l = true) : headB (l ++ m) = true := by
  cases l with
  | nil => cases h
  | cons c t => exact h
theorem dec_head : ∀ n u, u < n → 0 < u → headB (Lib.decDigits u) = true
  | 0, u, h, _ => absurd h (by omega)
  | n + 1, u, h, h0 => by
    by_cases hu : u < 10
    · rw [Lib.decDigits_one hu]
      exact decide_eq_true (by rw [dig_of hu]; omega)
    · rw [dec_step hu]
      exact headB_app (dec_head n (u / 10) (by omega) (by omega))
theorem dec_num (u : Nat) : numB (Lib.decDigits u) = true := by
  unfold numB
  rw [dec_digs (u + 1) u (by omega), Bool.true_and]
  rcases Nat.eq_zero_or_pos u with rfl | h
  · rw [Lib.decDigits_one (by omega)]; rfl
  · rw [dec_head (u + 1) u (by omega) h, Bool.or_true]
theorem dec_val : ∀ n u, u < n → numVal (Lib.decDigits u) = u
  | 0, u, h => absurd h (by omega)
  | n + 1, u, h => by
    by_cases hu : u < 10
    · rw [Lib.decDigits_one hu]
      show numStep 0 _ = u
      unfold numStep
      rw [dig_of hu]; omega
    · rw [dec_step hu]
      have ih := dec_val n (u / 10) (by omega)
      unfold numVal at ih ⊢
      rw [List.foldl_append, ih]
      show numStep (u / 10) _ = u
      unfold numStep
      rw [dig_of (Nat.mod_lt _ (by omega))]; omega
theorem dec_parse {u : Nat} (h : u < 115792089237316195423570985008687907853269984665640564039457584007913129639936) : parseV (Lib.decDigits u) = (u, 0) := by
  have e := dec_val (u + 1) u (by omega)
  rw [parseV_ok (dec_num u) (by have := dec_len78 h; omega) (by rw [e]; exact h), e]

/-- limbs.Parse, for any string -/
theorem parse_calls (s : ByteArray) (hs : s.size ≤ maxLen) (w : World) :
    Calls Tryd.prog 33 #[.string s] w (ReadPost (fun n c => (n, c) = parseV s.data.toList) w) := by
  by_cases h : numB s.data.toList = true
  · by_cases h2 : 78 < s.size
    · exact parse_long s hs h h2 w
    · exact parse_some s h h2 w
  · exact parse_bad s hs (by simpa using h) w

set_option maxHeartbeats 1000000 in
theorem same_calls (b1 o1 c1 b2 o2 c2 : Nat) (P : Nat → Nat) (w : World) (h1 : ∀ k, k < 32 → w.cell? ⟨b1, o1 + k, none⟩ = some (.int .u8 (P k : Nat))) (h2 : ∀ k, k < 32 → w.cell? ⟨b2, o2 + k, none⟩ = some (.int .u8 (P k : Nat))) :
    Calls Tryd.prog 35 #[.slice (some ⟨b1, o1, none⟩) 32 c1, .slice (some ⟨b2, o2, none⟩) 32 c2] w fun e w' => e = .returned (.bool true) ∧ Below w.heap.size w w' := by
  have H1 := Lib.hid h1
  have H2 := Lib.hid h2
  clear h1 h2
  go_enter Tryd.func35, Tryd.ntmps35
  go_wp2_with fail
  go_loopw [5] (fun x wr => ∃ k n : Nat, k ≤ 32 ∧ x = .int .i64 k ∧ wr = w.drewN n) (fun x _ => 32 - (intOf x).toNat)
  case atStart => exact ⟨0, 0, by omega, rfl, rfl⟩
  case round =>
    obtain ⟨k, n, hk, rfl, rfl⟩ := hrel
    by_cases hlt : k < 32
    · have e1 : (w.drewN n).cell? ⟨b1, o1 + k, none⟩ = _ := H1.out k hlt
      have e2 : (w.drewN n).cell? ⟨b2, o2 + k, none⟩ = _ := H2.out k hlt
      have e3 := H1.out k hlt
      have e4 := H2.out k hlt
      generalize P k = p at *
      go_wp2_with fail
      go_quiet (fail)
      go_wp2_with fail
      go_roundw
      case rel => exact ⟨k + 1, _, by omega, by go_num, rfl⟩
      case measure => first | (simp [intOf]; done) | (simp [intOf]; omega)
    · obtain rfl : k = 32 := by omega
      go_wp2_with fail
      go_ret
      exact ⟨rfl, below_drewN' _ _ _⟩
end Go.Proofs.YtopahcobdfdnlaaDoor
