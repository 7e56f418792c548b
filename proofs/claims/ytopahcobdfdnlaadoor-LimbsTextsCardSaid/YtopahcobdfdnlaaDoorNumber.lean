/-
  The call of limbs.isNumber: of any string, whether it is decimal digits without a 0 ahead. Conditions: the string's length an int.
-/
import Derived.Test.YtopahcobdfdnlaaDoorWord
import Derived.LoopTactic
import Derived.Outline
namespace Go.Proofs.YtopahcobdfdnlaaDoor
set_option linter.unusedVariables false
set_option linter.unusedSimpArgs false
open Go.RowKit

def digB (c : UInt8) : Bool := decide (48 ≤ c.toNat ∧ c.toNat ≤ 57)
def headB : List UInt8 → Bool
  | [] => false
  | c :: _ => decide (c.toNat ≠ 48)
def numB (l : List UInt8) : Bool := l.all digB && (decide (l = [48]) || headB l)
theorem numB_bad {l : List UInt8} {k : Nat} (hk : k < l.length) (h : digB l[k] = false) : numB l = false := by
  unfold numB
  have : l.all digB = false := by
    rw [List.all_eq_false]
    exact ⟨l[k], List.getElem_mem hk, by simp [h]⟩
  rw [this]; rfl
theorem numB_all {l : List UInt8} (h : ∀ k (hk : k < l.length), digB l[k] = true) : numB l = (decide (l = [48]) || headB l) := by
  unfold numB
  have : l.all digB = true := by
    rw [List.all_eq_true]
    intro x hx
    obtain ⟨k, hk, rfl⟩ := List.getElem_of_mem hx
    exact h k hk
  rw [this]; rfl
theorem ret_bool {a b : Bool} (h : a = b) : Ending.returned (.bool a) = .returned (.bool b) := by rw [h]

theorem toList_data (s : ByteArray) : s.toList = s.data.toList := ByteArray.toList_eq s
theorem headB_get (l : List UInt8) (h : 0 < l.length) : headB l = decide (l[0].toNat ≠ 48) := by
  match l, h with
  | c :: t, _ => rfl

set_option maxHeartbeats 1000000 in
theorem isNumber_calls (s : ByteArray) (hs : s.size ≤ maxLen) (w : World) :
    Calls Tryd.prog 50 #[.string s] w fun e w' => e = .returned (.bool (numB s.data.toList)) ∧ w' = w := by
  unfold maxLen at hs
  go_enter Tryd.func50, Tryd.ntmps50
  go_wp2_with fail
  go_loop [6] (fun x => ∃ k : Nat, k ≤ s.size ∧ x = .int .i64 k ∧ Hid (∀ j (hj : j < s.data.toList.length), j < k → digB s.data.toList[j] = true)) (fun x => s.size - (intOf x).toNat)
  case atStart => exact ⟨0, Nat.zero_le _, rfl, Lib.hid (fun j _ h => absurd h (by omega))⟩
  case round =>
    obtain ⟨k, hk, rfl, ha⟩ := hrel
    by_cases hlt : k < s.size
    · have hl : k < s.data.toList.length := by simpa using hlt
      obtain ⟨c, ec, eq⟩ : ∃ c : UInt8, s[k]'hlt = c ∧ s.data.toList[k] = c := ⟨s[k]'hlt, rfl, rfl⟩
      by_cases h1 : (c.toNat : Int) < 48
      · have HR := Lib.hid (numB_bad hl (by rw [eq]; unfold digB; exact decide_eq_false (by omega)))
        clear eq hl ha
        go_wp2
        go_ret
        exact ⟨ret_bool HR.out.symm, rfl⟩
      · by_cases h2 : (57 : Int) < (c.toNat : Int)
        · have HR := Lib.hid (numB_bad hl (by rw [eq]; unfold digB; exact decide_eq_false (by omega)))
          clear eq hl ha
          go_wp2
          go_ret
          exact ⟨ret_bool HR.out.symm, rfl⟩
        · have HN := Lib.hid (show ∀ j (hj : j < s.data.toList.length), j < k + 1 → digB s.data.toList[j] = true from fun j hj h => by
            by_cases e : j = k
            · subst e; rw [eq]; unfold digB; exact decide_eq_true (by omega)
            · exact ha.out j hj (by omega))
          clear eq hl ha
          go_wp2
          go_round
          case rel => exact ⟨k + 1, by omega, by go_num, HN⟩
          case measure => simp [intOf]; omega
    · obtain rfl : k = s.size := by omega
      have HA := Lib.hid (numB_all (l := s.data.toList) (fun j hj => ha.out j hj (by simpa using hj)))
      clear ha
      have eL : s.toList = s.data.toList := toList_data s
      by_cases h48 : s.toList = [48]
      · have HR := Lib.hid (show numB s.data.toList = true by rw [HA.out, ← eL, h48]; rfl)
        clear eL
        go_wp2
        go_ret
        exact ⟨ret_bool HR.out.symm, rfl⟩
      · by_cases hnil : s.toList = []
        · have HR := Lib.hid (show numB s.data.toList = false by rw [HA.out, ← eL, hnil]; rfl)
          clear eL
          go_wp2
          go_ret
          exact ⟨ret_bool HR.out.symm, rfl⟩
        · have hp : 0 < s.size := by
            rcases Nat.eq_zero_or_pos s.size with h | h
            · exact absurd (by rw [eL]; exact List.eq_nil_of_length_eq_zero (by simpa using h)) hnil
            · exact h
          have hpl : 0 < s.data.toList.length := by simpa using hp
          have e48 : (s.toList == [48]) = false := by simpa using h48
          have enil : (!s.toList.isEmpty) = true := by simpa using hnil
          obtain ⟨c, ec, eq⟩ : ∃ c : UInt8, s[0]'hp = c ∧ s.data.toList[0] = c := ⟨s[0]'hp, rfl, rfl⟩
          have HR := Lib.hid (show numB s.data.toList = decide (c.toNat ≠ 48) by
            rw [HA.out, ← eL, decide_eq_false h48, Bool.false_or, eL, ← eq]
            exact headB_get _ hpl)
          clear eL eq hpl h48 hnil
          by_cases hc : c.toNat = 48
          · have t1 : ((c.toNat : Int) != 48) = false := by simp [hc]
            have HR' := Lib.hid (HR.out.trans (decide_eq_false (by simp [hc])))
            clear hc HR
            go_wp2
            go_ret
            exact ⟨ret_bool HR'.out.symm, rfl⟩
          · have t1 : ((c.toNat : Int) != 48) = true := by simp; omega
            have HR' := Lib.hid (HR.out.trans (decide_eq_true hc))
            clear hc HR
            go_wp2
            go_ret
            exact ⟨ret_bool HR'.out.symm, rfl⟩
end Go.Proofs.YtopahcobdfdnlaaDoor
