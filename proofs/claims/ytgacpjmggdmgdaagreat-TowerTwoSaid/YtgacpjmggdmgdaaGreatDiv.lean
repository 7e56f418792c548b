/-
  The call of bits.Div64: for a divisor above the upper word, in any world, the answers are the quotient and the rest of the two words' number; nothing that was there is changed. Conditions: hi below y, all below 2^64.
-/
import Derived.Test.YtgacpjmggdmgdaaGreatMul
import Derived.Test.YtgacpjmggdmgdaaGreatNums
namespace Go.Proofs.YtgacpjmggdmgdaaGreat
set_option linter.unusedVariables false
open Go.RowKit

theorem lenLog {y : Nat} (h0 : 1 ≤ y) (hy : y < 18446744073709551616) : Lib.bitLen y = y.log2 + 1 ∧ 2 ^ y.log2 ≤ y ∧ y < 2 ^ (y.log2 + 1) ∧ y.log2 ≤ 63 := by
  have a := Nat.log2_self_le (show y ≠ 0 by omega)
  have b : y < 2 ^ (y.log2 + 1) := Nat.lt_log2_self
  refine ⟨?_, a, b, ?_⟩
  · rw [Lib.bitLen_shift y.log2 y a hy]
    have : y / 2 ^ y.log2 = 1 := by
      rw [Nat.pow_succ] at b
      exact (Nat.div_eq_iff (Nat.two_pow_pos _)).2 ⟨by omega, by omega⟩
    rw [this]; rfl
  · have := (Nat.log2_lt (show y ≠ 0 by omega)).2 (show y < 2 ^ 64 from hy)
    omega
theorem ex_lz {y : Nat} (h0 : 1 ≤ y) (hy : y < 18446744073709551616) : ∃ S : Nat, (∀ w, Calls Tryz.prog 183 #[.int .u64 y] w fun e w' => e = .returned (.int .i64 S) ∧ w' = w) ∧ S ≤ 63 ∧ 9223372036854775808 ≤ y * 2 ^ S ∧ y * 2 ^ S < 18446744073709551616 := by
  obtain ⟨hl, ha, hb, hk⟩ := lenLog h0 hy
  refine ⟨63 - y.log2, fun w => ?_, by omega, ?_, ?_⟩
  · have := Tryz.bits_LeadingZeros64 (y : Int) w (by omega) (by omega)
    rw [Int.toNat_natCast, hl, show (64 - ((y.log2 + 1 : Nat) : Int)) = ((63 - y.log2 : Nat) : Int) by omega] at this
    exact this
  · have := Nat.mul_le_mul_right (2 ^ (63 - y.log2)) ha
    rw [← Nat.pow_add, show y.log2 + (63 - y.log2) = 63 by omega] at this
    exact this
  · have := Nat.mul_lt_mul_of_pos_right hb (Nat.two_pow_pos (63 - y.log2))
    rw [← Nat.pow_add, show y.log2 + 1 + (63 - y.log2) = 64 by omega] at this
    exact this

def DivPost (V y : Nat) (w : World) (e : Ending) (w' : World) : Prop :=
  ∃ n : Nat, e = .returned (.tuple #[.int .u64 (V / y : Nat), .int .u64 (V % y : Nat)]) ∧ w' = w.drewN n

/-- one digit's numbers, under names -/
theorem ex_digit {y1 y0 u u1 Y : Nat} (ks : KS y1 y0 u u1) (hY : Y < 18446744073709551616) (eY : Y = y1 * 4294967296 + y0) : ∃ q r p Q m : Nat,
    (u : Int) / (y1 : Int) = (q : Int) ∧ (q : Int) * (y1 : Int) = (p : Int) ∧ (u : Int) - (p : Int) = (r : Int) ∧ q ≤ 4294967297 ∧ r < 4294967296 ∧ p ≤ u ∧ Hid (KI y1 y0 u u1 q r) ∧
    IntKind.u64.wrap (IntKind.u64.wrap (IntKind.u64.wrap ((u : Int) * 4294967296) + (u1 : Int)) - IntKind.u64.wrap ((Q : Int) * (Y : Int))) = (m : Int) ∧
    Q < 4294967296 ∧ m < Y ∧ Hid (Q = (u * 4294967296 + u1) / (y1 * 4294967296 + y0)) ∧ Hid (Q * Y + m = u * 4294967296 + u1) := by
  have b2 : 0 < y1 := by have := ks.a2; omega
  obtain ⟨q, r, E8, E9, eq, hr⟩ := dv_q u y1 b2
  have ki := ki_start ks eq hr
  obtain ⟨m, Em, hm, em⟩ := dv_rest (u := u) (u1 := u1) hY (by have := ks.a2; omega)
  have hQ := ks_Q ks
  rw [← eY] at hQ
  refine ⟨q, r, q * y1, (u * 4294967296 + u1) / Y, m, E8, (Int.natCast_mul q y1).symm, by rw [Int.natCast_mul]; exact E9, ki.2.2.1, ki.2.2.2, by omega, Lib.hid ki, Em, hQ, hm, Lib.hid (by rw [← eY]), Lib.hid em⟩

/-- the loop's test, decided: t is the product that is held against the rest -/
def Guard (u1 q r t : Nat) : Prop := decide ((4294967296 : Int) ≤ (q : Int)) = true ∨ decide ((4294967296 : Int) ≤ (q : Int)) = false ∧ decide ((4294967296 : Int) * (r : Int) + (u1 : Int) < (t : Int)) = true ∧ t < 18446744073709551616
theorem tests {y1 y0 u u1 q r : Nat} (s : KS y1 y0 u u1) (k : KI y1 y0 u u1 q r) {Q : Nat} (hQ : Q = (u * 4294967296 + u1) / (y1 * 4294967296 + y0)) :
    ∃ t v : Nat, (q : Int) * (y0 : Int) = (t : Int) ∧ (r : Int) + (y1 : Int) = (v : Int) ∧ v < 18446744073709551616 ∧
    ((∃ p : Nat, (q : Int) - 1 = (p : Int) ∧ p < q ∧ decide ((4294967296 : Int) ≤ (v : Int)) = false ∧ Guard u1 q r t ∧ Hid (KI y1 y0 u u1 p v)) ∨
    ((q : Int) - 1 = (Q : Int) ∧ 1 ≤ q ∧ decide ((4294967296 : Int) ≤ (v : Int)) = true ∧ Guard u1 q r t) ∨ (q = Q ∧ decide ((4294967296 : Int) ≤ (q : Int)) = false ∧ decide ((4294967296 : Int) * (r : Int) + (u1 : Int) < (t : Int)) = false ∧ t < 18446744073709551616)) := by
  have b1 := s.a1
  have b3 := s.a3
  have b5 := s.a5
  have br : r < 4294967296 := k.2.2.2
  refine ⟨q * y0, r + y1, (Int.natCast_mul q y0).symm, by omega, by omega, ?_⟩
  rcases Nat.lt_or_ge q 4294967296 with h | h
  · have hp := mul_le (show q ≤ 4294967295 by omega) (show y0 ≤ 4294967295 by omega)
    rcases Nat.lt_or_ge (4294967296 * r + u1) (q * y0) with h' | h'
    · have hn := ki_no s k h'
      have h1 := Nat.le_trans (Nat.le_add_left 1 _) hn
      rcases Nat.lt_or_ge (r + y1) 4294967296 with g | g
      · exact Or.inl ⟨q - 1, by omega, by omega, decide_eq_false (by omega), Or.inr ⟨decide_eq_false (by omega), decide_eq_true (by omega), by omega⟩, Lib.hid (ki_next k hn g)⟩
      · have := (ki_break s k hn g).trans hQ.symm
        exact Or.inr (Or.inl ⟨by omega, h1, decide_eq_true (by omega), Or.inr ⟨decide_eq_false (by omega), decide_eq_true (by omega), by omega⟩⟩)
    · exact Or.inr (Or.inr ⟨(ki_yes s k h').trans hQ.symm, decide_eq_false (by omega), decide_eq_false (by omega), by omega⟩)
  · have hn := ki_big s h
    rcases Nat.lt_or_ge (r + y1) 4294967296 with g | g
    · exact Or.inl ⟨q - 1, by omega, by omega, decide_eq_false (by omega), Or.inl (decide_eq_true (by omega)), Lib.hid (ki_next k hn g)⟩
    · have := (ki_break s k hn g).trans hQ.symm
      exact Or.inr (Or.inl ⟨by omega, by omega, decide_eq_true (by omega), Or.inl (decide_eq_true (by omega))⟩)

set_option maxRecDepth 100000 in
set_option maxHeartbeats 4000000 in
theorem div64_big (hi lo y : Nat) (h1 : 1 ≤ hi) (h2 : hi < y) (hl : lo < 18446744073709551616) (hy : y < 18446744073709551616) (w : World) :
    Calls Tryz.prog 180 #[.int .u64 hi, .int .u64 lo, .int .u64 y] w (DivPost (hi * 18446744073709551616 + lo) y w) := by
  obtain ⟨S, m, hS, hY1, hY2⟩ := ex_lz (show 1 ≤ y by omega) hy
  obtain ⟨u, L, E4, E5, hu, hL, eU⟩ := dv_setup h2 hl hS hY2
  obtain ⟨Y, eY⟩ : ∃ Y, Y = y * 2 ^ S := ⟨_, rfl⟩
  rw [← eY] at hY1 hY2 hu
  have E1 : IntKind.u64.wrap ((y : Int) * 2 ^ S) = (Y : Int) := by rw [cast_mul_pow, ← eY, wrap_in64 _ hY2]
  obtain ⟨y1, y0, E2, E3, b1, b0, eYh⟩ := dv_half hY2
  obtain ⟨u1, u0, E6, E7, c1, c0, eLh⟩ := dv_half hL
  have ks : KS y1 y0 u u1 := ⟨b1, by omega, b0, by omega, c1⟩
  obtain ⟨q, r, p, Q1, m1, F1, F2, F3, F4, F5, F6, K1, F7, F8, F9, F10, F11⟩ := ex_digit ks hY2 eYh
  have ks' : KS y1 y0 m1 u0 := ⟨b1, by omega, b0, by omega, c0⟩
  obtain ⟨q', r', p', Q0, R, G1, G2, G3, G4, G5, G6, K2, G7, G8, G9, G10, G11⟩ := ex_digit ks' hY2 eYh
  obtain ⟨j1, j2⟩ := dv_join eY rfl eU eLh F11.out G11.out G9
  have b2 : 0 < y1 := by have := ks.a2; omega
  have b3 : 0 < (y1 : Int) := by omega
  have bu : u < 18446744073709551616 := by omega
  have bm : m1 < 18446744073709551616 := by omega
  have J2 : (R : Int) / 2 ^ S = (((hi * 18446744073709551616 + lo) % y : Nat) : Int) := by rw [← j2, Int.natCast_ediv, Int.natCast_pow]; rfl
  have J1 : (Q1 : Int) * 4294967296 + (Q0 : Int) = (((hi * 18446744073709551616 + lo) / y : Nat) : Int) := by rw [← j1]; omega
  have HJ2 := Lib.hid J2; have HJ1 := Lib.hid J1
  have Hks := Lib.hid ks; have Hks' := Lib.hid ks'
  clear eU eYh eLh eY j1 j2 ks ks' J1 J2 hY1 F11 G11 hu
  have t1 : ((y : Int) == 0) = false := by simp; omega
  have t2 : ((hi : Int) == 0) = false := by simp; omega
  go_enter Tryz.func180, Tryz.ntmps180
  go_wp2_with fail
  refine (m _).mono ?_
  rintro e w' ⟨rfl, rfl⟩
  go_wp2_with fail
  clear t1 t2 E1 E2 E3 E4 E5 E6 E7 F1 F2 F3 h1 h2 m
  go_loop [15, 16] (fun a b => ∃ q r : Nat, a = .int .u64 q ∧ b = .int .u64 r ∧ Hid (KI y1 y0 u u1 q r)) (fun a _ => (intOf a).toNat)
  case atStart => exact ⟨q, r, rfl, rfl, K1⟩
  case round =>
    obtain ⟨q2, r2, rfl, rfl, k⟩ := hrel
    have d1 : q2 ≤ 4294967297 := k.out.2.2.1
    have d2 : r2 < 4294967296 := k.out.2.2.2
    obtain ⟨t, v, ht, hv, bv, hc⟩ := tests Hks.out k.out F10.out
    rcases hc with ⟨p2, hp, lp, lv, g2 | ⟨g2, g3, g5⟩, g4⟩ | ⟨hp, lp, lv, g2 | ⟨g2, g3, g5⟩⟩ | ⟨rfl, g1, g2, g5⟩
    · go_wp2_with fail
      go_round
      case rel => exact ⟨p2, v, rfl, rfl, g4⟩
      case measure => simp [intOf]; omega
    · go_wp2_with fail
      go_round
      case rel => exact ⟨p2, v, rfl, rfl, g4⟩
      case measure => simp [intOf]; omega
    all_goals (
      go_wp2_with fail
      clear ht hv bv d1 d2 k F7 G1 G2 G3
      go_loop [18, 16] (fun a b => ∃ q r : Nat, a = .int .u64 q ∧ b = .int .u64 r ∧ Hid (KI y1 y0 m1 u0 q r)) (fun a _ => (intOf a).toNat)
      case atStart => exact ⟨q', r', rfl, rfl, K2⟩
      case round =>
        obtain ⟨q3, r3, rfl, rfl, k⟩ := hrel
        have d1 : q3 ≤ 4294967297 := k.out.2.2.1
        have d2 : r3 < 4294967296 := k.out.2.2.2
        obtain ⟨t, v, ht, hv, bv, hc⟩ := tests Hks'.out k.out G10.out
        rcases hc with ⟨p2, hp, lp, lv, g2 | ⟨g2, g3, g5⟩, g4⟩ | ⟨hp, lp, lv, g2 | ⟨g2, g3, g5⟩⟩ | ⟨rfl, g1, g2, g5⟩
        · go_wp2_with fail
          go_round
          case rel => exact ⟨p2, v, rfl, rfl, g4⟩
          case measure => simp [intOf]; omega
        · go_wp2_with fail
          go_round
          case rel => exact ⟨p2, v, rfl, rfl, g4⟩
          case measure => simp [intOf]; omega
        all_goals (
          go_wp2_with fail
          go_ret2
          exact ⟨0, by rw [HJ1.out, HJ2.out]; rfl, rfl⟩))

theorem div64_zero (lo y : Nat) (h2 : 0 < y) (hl : lo < 18446744073709551616) (hy : y < 18446744073709551616) (w : World) :
    Calls Tryz.prog 180 #[.int .u64 0, .int .u64 lo, .int .u64 y] w (DivPost lo y w) := by
  obtain ⟨q, E1⟩ : ∃ q : Nat, (lo : Int) / (y : Int) = (q : Int) := ⟨lo / y, (Int.natCast_ediv lo y).symm⟩
  obtain ⟨r, E2⟩ : ∃ r : Nat, (lo : Int) % (y : Int) = (r : Int) := ⟨lo % y, (Int.natCast_emod lo y).symm⟩
  have e1 : q = lo / y := by rw [← Int.natCast_ediv] at E1; exact (Int.ofNat.inj E1).symm
  have e2 : r = lo % y := by rw [← Int.natCast_emod] at E2; exact (Int.ofNat.inj E2).symm
  have b1 : q < 18446744073709551616 := by rw [e1]; exact Nat.lt_of_le_of_lt (Nat.div_le_self _ _) hl
  have b2 : r < 18446744073709551616 := by rw [e2]; exact Nat.lt_of_lt_of_le (Nat.mod_lt _ h2) (by omega)
  have H1 := Lib.hid e1; have H2 := Lib.hid e2
  clear e1 e2
  have t1 : ((y : Int) == 0) = false := by simp; omega
  go_enter Tryz.func180, Tryz.ntmps180
  go_wp2_with fail
  go_quiet (fail)
  go_wp2_with fail
  go_ret2
  exact ⟨_, by rw [← H1.out, ← H2.out, ← E2]; rfl, rfl⟩

theorem ex_Div64 {hi lo y : Nat} (h : hi < y) (hl : lo < 18446744073709551616) (hy : y < 18446744073709551616) : ∃ q r : Nat,
    (∀ w, Calls Tryz.prog 180 #[.int .u64 hi, .int .u64 lo, .int .u64 y] w fun e w' => e = .returned (.tuple #[.int .u64 (q : Nat), .int .u64 (r : Nat)]) ∧ ∃ n, w' = w.drewN n) ∧
    q < 18446744073709551616 ∧ r < y ∧ Hid (q * y + r = hi * 18446744073709551616 + lo) := by
  refine ⟨(hi * 18446744073709551616 + lo) / y, (hi * 18446744073709551616 + lo) % y, fun w => ?_, ?_, Nat.mod_lt _ (by omega), Lib.hid (by rw [Nat.mul_comm]; exact Nat.div_add_mod _ _)⟩
  · rcases Nat.eq_zero_or_pos hi with rfl | h1
    · have := div64_zero lo y h hl hy w
      rw [Nat.zero_mul, Nat.zero_add]
      exact this.mono fun e w' ⟨n, he, hw⟩ => ⟨he, n, hw⟩
    · exact (div64_big hi lo y h1 h hl hy w).mono fun e w' ⟨n, he, hw⟩ => ⟨he, n, hw⟩
  · rw [Nat.div_lt_iff_lt_mul (by omega)]
    have := Nat.mul_le_mul_right 18446744073709551616 (show hi + 1 ≤ y by omega)
    rw [Nat.mul_comm 18446744073709551616 y]
    omega
end Go.Proofs.YtgacpjmggdmgdaaGreat
