/-
  Plain numbers behind the rest of a long number by a normalised one, word by word: the guessed digit is right or too great by one or two; the difference is brought back. No program in sight. Conditions: as each lemma says.
-/
import Derived.Test.YtkkbjemifmekfaaDivNum
namespace Go.Proofs.Ytkkbjemifmekfaa
set_option linter.unusedVariables false

theorem top5 (r0 r1 r2 r3 x : Nat) : val4 r0 r1 r2 r3 * 18446744073709551616 + x = r3 * 115792089237316195423570985008687907853269984665640564039457584007913129639936 + val4 x r0 r1 r2 := by unfold val4; omega
theorem val4_hi (b0 b1 b2 b3 : Nat) (h : ok4 b0 b1 b2 b3) : ∃ t, val4 b0 b1 b2 b3 = b3 * 6277101735386680763835789423207666416102355444464034512896 + t ∧ t < 6277101735386680763835789423207666416102355444464034512896 := by
  obtain ⟨h0, h1, h2, _⟩ := h
  exact ⟨b0 + 18446744073709551616 * (b1 + 18446744073709551616 * b2), by unfold val4; omega, by omega⟩
theorem low3 {x r0 r1 r2 : Nat} (hx : x < 18446744073709551616) (h0 : r0 < 18446744073709551616) (h1 : r1 < 18446744073709551616) : ∃ t, val4 x r0 r1 r2 = r2 * 6277101735386680763835789423207666416102355444464034512896 + t ∧ t < 6277101735386680763835789423207666416102355444464034512896 :=
  ⟨x + 18446744073709551616 * (r0 + 18446744073709551616 * r1), by unfold val4; omega, by omega⟩

/-- A digit guessed by the highest word. -/
theorem guess_lt {N b b3 t r g m : Nat} (hb : b = b3 * 6277101735386680763835789423207666416102355444464034512896 + t) (ht : t < 6277101735386680763835789423207666416102355444464034512896) (h3 : 9223372036854775808 ≤ b3) (hN : N = r * 6277101735386680763835789423207666416102355444464034512896 + m) (hm : m < 6277101735386680763835789423207666416102355444464034512896)
    (hg : g < 18446744073709551616) (h1 : g * b3 ≤ r) (h2 : r < g * b3 + b3) : N / b ≤ g ∧ g ≤ N / b + 2 := by
  have hp : 0 < b := by omega
  constructor
  · rw [← Nat.lt_succ_iff, Nat.div_lt_iff_lt_mul hp, Nat.succ_mul, hb, Nat.mul_add, ← Nat.mul_assoc]
    omega
  · have e := Nat.div_add_mod N b
    have hl := Nat.mod_lt N hp
    have h4 := mul_le (show g ≤ 18446744073709551615 by omega) (show t ≤ 6277101735386680763835789423207666416102355444464034512895 by omega)
    have h5 : g * b < N + 2 * b := by
      rw [hb, Nat.mul_add, ← Nat.mul_assoc]; omega
    rcases Nat.lt_or_ge g (N / b + 3) with h | h
    · omega
    · have h6 := Nat.mul_le_mul_right b h
      rw [Nat.add_mul, Nat.mul_comm (N / b) b] at h6
      omega
theorem guess_eq {N b b3 t r2 m x R : Nat} (hb : b = b3 * 6277101735386680763835789423207666416102355444464034512896 + t) (ht : t < 6277101735386680763835789423207666416102355444464034512896) (h3 : 9223372036854775808 ≤ b3) (hN : N = b3 * 115792089237316195423570985008687907853269984665640564039457584007913129639936 + (r2 * 6277101735386680763835789423207666416102355444464034512896 + m)) (hR : N = R * 18446744073709551616 + x) (hx : x < 18446744073709551616) (hl : R < b) :
    N / b ≤ 18446744073709551615 ∧ 18446744073709551615 ≤ N / b + 2 := by
  have hp : 0 < b := by omega
  constructor
  · rw [← Nat.lt_succ_iff, Nat.div_lt_iff_lt_mul hp]; omega
  · have e := Nat.div_add_mod N b
    have hl' := Nat.mod_lt N hp
    rcases Nat.lt_or_ge 18446744073709551615 (N / b + 3) with h | h
    · omega
    · have h6 := Nat.mul_le_mul_right b h
      rw [Nat.add_mul, Nat.mul_comm (N / b) b] at h6
      omega

/-- Where the difference stands: k times the divisor below the rest R, the words wrapped. -/
def TI (b R k top s : Nat) : Prop := k ≤ 2 ∧ (k = 0 → top = 0 ∧ s = R) ∧ (k = 1 → top * 115792089237316195423570985008687907853269984665640564039457584007913129639936 + s + b = 18446744073709551616 * 115792089237316195423570985008687907853269984665640564039457584007913129639936 + R ∧ 0 < top) ∧ (k = 2 → top * 115792089237316195423570985008687907853269984665640564039457584007913129639936 + s + b + b = 18446744073709551616 * 115792089237316195423570985008687907853269984665640564039457584007913129639936 + R ∧ 0 < top)
theorem ti_start {N b g r3 xr p o s c : Nat} (hb : b < 115792089237316195423570985008687907853269984665640564039457584007913129639936) (hp : 0 < b) (hN : N = r3 * 115792089237316195423570985008687907853269984665640564039457584007913129639936 + xr) (hxr : xr < 115792089237316195423570985008687907853269984665640564039457584007913129639936) (h1 : N / b ≤ g) (h2 : g ≤ N / b + 2) (hr : r3 < 18446744073709551616) (ho : o < 18446744073709551616)
    (e1 : p + 115792089237316195423570985008687907853269984665640564039457584007913129639936 * o = b * g) (hpp : p < 115792089237316195423570985008687907853269984665640564039457584007913129639936) (e2 : s + p = xr + 115792089237316195423570985008687907853269984665640564039457584007913129639936 * c) (hs : s < 115792089237316195423570985008687907853269984665640564039457584007913129639936) :
    ∃ top : Nat, IntKind.u64.wrap (IntKind.u64.wrap ((r3 : Int) - (o : Int)) - (c : Int)) = (top : Int) ∧ top < 18446744073709551616 ∧ TI b (N % b) (g - N / b) top s := by
  have e := Nat.div_add_mod N b
  have hl := Nat.mod_lt N hp
  obtain ⟨k, hk⟩ : ∃ k, g = N / b + k := ⟨g - N / b, by omega⟩
  subst hk
  rw [Nat.mul_add] at e1
  generalize b * (N / b) = P at *
  generalize N % b = R at *
  generalize N / b = q at *
  have hk : k = 0 ∨ k = 1 ∨ k = 2 := by omega
  rw [show q + k - q = k by omega]
  simp only [IntKind.wrap_u64]
  unfold TI
  rcases hk with rfl | rfl | rfl
  · refine ⟨0, by omega, by omega, by omega, fun _ => ⟨rfl, by omega⟩, by omega, by omega⟩
  · refine ⟨(r3 + 18446744073709551616 + 18446744073709551616 - o - c) % 18446744073709551616, by omega, by omega, by omega, by omega, fun _ => by omega, by omega⟩
  · refine ⟨(r3 + 18446744073709551616 + 18446744073709551616 - o - c) % 18446744073709551616, by omega, by omega, by omega, by omega, by omega, fun _ => by omega⟩
theorem ti_top {b R k top s : Nat} (h : TI b R k top s) (hk : 0 < k) : 0 < top := by
  obtain ⟨h0, _, h2, h3⟩ := h
  have : k = 1 ∨ k = 2 := by omega
  rcases this with rfl | rfl
  · exact (h2 rfl).2
  · exact (h3 rfl).2
theorem ti_round {b R k top s s' c : Nat} (hb : b < 115792089237316195423570985008687907853269984665640564039457584007913129639936) (hR : R < b) (h : TI b R (k + 1) top s) (ht : top < 18446744073709551616) (hs : s < 115792089237316195423570985008687907853269984665640564039457584007913129639936) (hs' : s' < 115792089237316195423570985008687907853269984665640564039457584007913129639936) (hc : c ≤ 1) (e : s' + 115792089237316195423570985008687907853269984665640564039457584007913129639936 * c = s + b) :
    ∃ top' : Nat, IntKind.u64.wrap ((top : Int) + (c : Int)) = (top' : Int) ∧ top' < 18446744073709551616 ∧ TI b R k top' s' := by
  obtain ⟨h0, _, h2, h3⟩ := h
  have hk : k = 0 ∨ k = 1 := by omega
  simp only [IntKind.wrap_u64]
  unfold TI
  rcases hk with rfl | rfl
  · have h2 := h2 rfl
    exact ⟨0, by omega, by omega, by omega, fun _ => ⟨rfl, by omega⟩, by omega, by omega⟩
  · obtain ⟨h3, h4⟩ := h3 rfl
    have hv : top + c < 18446744073709551616 := by omega
    refine ⟨top + c, by omega, hv, by omega, (fun h => absurd h (by omega)), (fun _ => ⟨?_, by omega⟩), (fun h => absurd h (by omega))⟩
    rw [Nat.add_mul]
    omega
end Go.Proofs.Ytkkbjemifmekfaa
