/-
  Plain lists behind decimal digits: the digits of a number by pieces of nineteen. No program in sight. Conditions: none.
-/
import Derived.Test.YtopahcobdfdnlaaDoorNum
import Derived.Lib.ItoaNum
import Derived.Lib.Repeat
import Derived.Lib.Hide
namespace Go.Proofs.YtopahcobdfdnlaaDoor
set_option linter.unusedVariables false
open Go.Lib

theorem dec_step {u : Nat} (h : ¬ u < 10) : decDigits u = decDigits (u / 10) ++ [UInt8.ofNat (48 + u % 10)] := by rw [decDigits, dif_neg h]
def padN : Nat → Nat → List UInt8
  | 0, _ => []
  | k + 1, r => padN k (r / 10) ++ [UInt8.ofNat (48 + r % 10)]
theorem dec_pad {q : Nat} (hq : 0 < q) : ∀ k r, r < 10 ^ k → decDigits (q * 10 ^ k + r) = decDigits q ++ padN k r
  | 0, r, h => by
    obtain rfl : r = 0 := by simpa using h
    simp [padN]
  | k + 1, r, h => by
    have h1 : 0 < q * 10 ^ k := Nat.mul_pos hq (Nat.pow_pos (by omega))
    have e : q * 10 ^ (k + 1) = 10 * (q * 10 ^ k) := by rw [Nat.pow_succ, ← Nat.mul_assoc, Nat.mul_comm]
    have h2 : r / 10 < 10 ^ k := by rw [Nat.div_lt_iff_lt_mul (by omega), ← Nat.pow_succ]; exact h
    rw [dec_step (by omega), show (q * 10 ^ (k + 1) + r) / 10 = q * 10 ^ k + r / 10 by omega, show (q * 10 ^ (k + 1) + r) % 10 = r % 10 by omega, dec_pad hq k _ h2, List.append_assoc]
    rfl
theorem pad_zero : ∀ k, padN k 0 = List.replicate k 48
  | 0 => rfl
  | k + 1 => by
    show padN k (0 / 10) ++ [48] = _
    rw [Nat.zero_div, pad_zero k, List.replicate_succ']
theorem pad_dec : ∀ k r, r < 10 ^ k → 0 < k → padN k r = List.replicate (k - (decDigits r).length) 48 ++ decDigits r ∧ (decDigits r).length ≤ k
  | 0, r, h, h0 => absurd h0 (by omega)
  | k + 1, r, h, _ => by
    by_cases hr : r < 10
    · rw [decDigits_one hr]
      refine ⟨?_, by simp⟩
      show padN k (r / 10) ++ [UInt8.ofNat (48 + r % 10)] = _
      rw [show r / 10 = 0 by omega, show r % 10 = r by omega, pad_zero]
      rfl
    · have h2 : r / 10 < 10 ^ k := by rw [Nat.div_lt_iff_lt_mul (by omega), ← Nat.pow_succ]; exact h
      have h3 : 0 < k := by
        rcases Nat.eq_zero_or_pos k with e | e
        · subst e; simp at h; omega
        · exact e
      obtain ⟨e1, e2⟩ := pad_dec k _ h2 h3
      rw [dec_step hr]
      refine ⟨?_, by simp; omega⟩
      show padN k (r / 10) ++ [UInt8.ofNat (48 + r % 10)] = _
      rw [e1, List.length_append, List.append_assoc]
      congr 2
      simp
/-- one piece of nineteen digits more -/
theorem dec_piece {V q r : Nat} (hq : 0 < q) (e : V = q * 10000000000000000000 + r) (hr : r < 10000000000000000000) : decDigits V = decDigits q ++ (List.replicate (19 - (decDigits r).length) 48 ++ decDigits r) ∧ (decDigits r).length ≤ 19 := by
  have h1 : r < 10 ^ 19 := by simpa using hr
  obtain ⟨e1, e2⟩ := pad_dec 19 r h1 (by omega)
  have e3 := dec_pad hq 19 r h1
  rw [show 10 ^ 19 = 10000000000000000000 by simp, ← e] at e3
  exact ⟨by rw [e3, e1], e2⟩
theorem dec_len : ∀ k u, u < 10 ^ k → 0 < k → (decDigits u).length ≤ k := fun k u h h0 => (pad_dec k u h h0).2
theorem dec_len78 {u : Nat} (h : u < 115792089237316195423570985008687907853269984665640564039457584007913129639936) : (decDigits u).length ≤ 78 :=
  dec_len 78 u (Nat.lt_of_lt_of_le h (by simp)) (by omega)
theorem dec_pos (u : Nat) : 0 < (decDigits u).length := by
  by_cases h : u < 10
  · rw [decDigits_one h]; simp
  · rw [dec_step h]; simp
theorem repeat_one (b : UInt8) : ∀ c, repeatL [b] c = List.replicate c b
  | 0 => rfl
  | c + 1 => by
    show [b] ++ repeatL [b] c = _
    rw [repeat_one b c, List.replicate_succ]
    rfl
theorem bytes_mk (s : ByteArray) (l : List UInt8) (h : s.data.toList = l) : s = ⟨l.toArray⟩ := by
  subst h; rfl
theorem bytes_app (s t : ByteArray) : (s ++ t).data.toList = s.data.toList ++ t.data.toList := by
  simp
end Go.Proofs.YtopahcobdfdnlaaDoor
