/-
  The call of limbs.Print: for any number of four words, its decimal digits. Conditions: each word below 2^64; the table of powers of ten as the program's text lays it.
-/
import Derived.Test.YtopahcobdfdnlaaDoorPrint1
import Derived.Test.YtopahcobdfdnlaaDoorDecNum
import Derived.Test.YtopahcobdfdnlaaDoorMem
import Derived.Deep.LoopGhost
namespace Go.Proofs.YtopahcobdfdnlaaDoor
set_option linter.unusedVariables false
set_option linter.unusedSimpArgs false
open Go.RowKit

theorem equalNZ {q0 q1 q2 q3 : Nat} (hq : ok4 q0 q1 q2 q3) (h : 0 < val4 q0 q1 q2 q3) (w : World) : (Op.equalIn 10000 24 (.agg #[.int .u64 q0, .int .u64 q1, .int .u64 q2, .int .u64 q3]) (.agg #[.int .u64 0, .int .u64 0, .int .u64 0, .int .u64 0])).run Tryd.prog w = .ok false w := by
  have h1 := equalInW 9998 q0 q1 q2 q3 0 0 0 0 w
  have h2 : eqW q0 q1 q2 q3 0 0 0 0 = false := by
    cases e : eqW q0 q1 q2 q3 0 0 0 0 with
    | false => rfl
    | true =>
      have := (eqW_iff hq (show ok4 0 0 0 0 from ⟨by omega, by omega, by omega, by omega⟩)).1 e
      have hz : val4 0 0 0 0 = 0 := rfl
      omega
  rw [h2] at h1
  exact h1

set_option maxRecDepth 100000 in
set_option maxHeartbeats 2000000 in
theorem print_calls (a0 a1 a2 a3 : Nat) (ha : ok4 a0 a1 a2 a3) (w : World) (htab : Lib.TabIs Tryd.prog w "internal/strconv.uint64pow10" .u64 Lib.pow10Tab) :
    Calls Tryd.prog 38 #[.agg #[.int .u64 a0, .int .u64 a1, .int .u64 a2, .int .u64 a3]] w fun e w' => e = .returned (.string ⟨(Lib.decDigits (val4 a0 a1 a2 a3)).toArray⟩) ∧ Below w.heap.size w w' := by
  have hG := eqGuardW
  have hZ := fun w => equalInZ w
  have HT := Lib.hid htab
  obtain ⟨A, hA⟩ : ∃ A, A = val4 a0 a1 a2 a3 := ⟨_, rfl⟩
  rw [← hA]
  have HL := Lib.hid (dec_len78 (u := A) (by rw [hA]; exact val4_lt ha))
  have HA := Lib.hid hA
  clear hA htab
  go_enter Tryd.func38, Tryd.ntmps38
  go_wp2_with fail
  go_loopg [3] A (fun k t wr => ∃ (v0 v1 v2 v3 : Nat) (T : ByteArray), t = .string T ∧ ok4 v0 v1 v2 v3 ∧ Hid (val4 v0 v1 v2 v3 = k) ∧ Hid (Lib.decDigits A = Lib.decDigits k ++ T.data.toList) ∧ Mem w wr [(w.heap.size, v0, v1, v2, v3)])
  case atStart => exact ⟨a0, a1, a2, a3, ⟨#[]⟩, rfl, ha, Lib.hid HA.out.symm, Lib.hid (by simp), (Mem.nil w).new w.heap.size a0 a1 a2 a3 24 rfl⟩
  case round =>
    obtain ⟨v0, v1, v2, v3, T, rfl, hv, ek, eT, mm⟩ := hrel
    have lT : T.size ≤ 78 := by
      have h1 := HL.out
      rw [eT.out, List.length_append] at h1
      have : T.size = T.data.toList.length := by simp
      omega
    have M := Lib.hid mm
    obtain ⟨lt_v, c0, c1, c2, c3, cf⟩ := mm.2 (w.heap.size, v0, v1, v2, v3) (by simp)
    clear mm
    go_wp2_with fail
    refine (divL_some v0 v1 v2 v3 10000000000000000000 hv (by omega) (by omega) _).mono ?_
    rintro e w1 ⟨q0, q1, q2, q3, r, c, rfl, hq, ⟨hd, hr, rfl⟩, hbl⟩
    have lr : r < 18446744073709551616 := by omega
    have Hd := Lib.hid (hd.trans ek.out)
    have Hr := Lib.hid hr
    have M1 := Lib.hid ((M.out.on hbl).new w1.heap.size q0 q1 q2 q3 24 rfl)
    clear hbl M c0 c1 c2 c3 cf lt_v hd
    obtain ⟨D, hD⟩ : ∃ D : ByteArray, D = ⟨(Lib.decDigits r).toArray⟩ := ⟨_, rfl⟩
    have F := fun w h => fmt_calls r lr w h
    unfold FmtPost at F
    rw [← hD] at F
    have HD := Lib.hid (show D.data.toList = Lib.decDigits r by rw [hD])
    have HF := Lib.hid F
    have lD : D.size ≤ 19 := by
      have h1 := dec_len 19 r (by have := Hr.out; simpa using this) (by omega)
      have : D.size = D.data.toList.length := by simp
      rw [this, HD.out]; exact h1
    clear hD F
    go_wp2_with fail
    refine (HF.out _ (tab_below HT.out M1.out.1 (Nat.le_refl _))).mono ?_
    rintro e w2 ⟨rfl, hbl⟩
    have M2 := Lib.hid (M1.out.on hbl)
    clear hbl M1
    obtain ⟨lt_q, d0, d1, d2, d3, df⟩ := M2.out.2 (w1.heap.size, q0, q1, q2, q3) (by simp)
    rcases Nat.eq_zero_or_pos (val4 q0 q1 q2 q3) with hz | hz
    · obtain ⟨rfl, rfl, rfl, rfl⟩ := val4_inj hq (show ok4 0 0 0 0 from ⟨by omega, by omega, by omega, by omega⟩) (hz.trans (show 0 = val4 0 0 0 0 from rfl))
      have HR := Lib.hid (show Lib.decDigits A = D.data.toList ++ T.data.toList by
        have h1 := Hd.out
        rw [hz, Nat.zero_mul, Nat.zero_add] at h1
        rw [eT.out, ← h1, HD.out])
      clear hz
      go_wp2_with fail
      go_ret
      have he : Ending.returned (.string (D ++ T)) = .returned (.string ⟨(Lib.decDigits A).toArray⟩) := congrArg (fun s => Ending.returned (.string s)) (bytes_mk _ _ ((bytes_app D T).trans HR.out.symm))
      exact ⟨he, M2.out.1⟩
    · have hE := fun w => equalNZ hq hz w
      have HP := Lib.hid (dec_piece hz Hd.out.symm Hr.out)
      have Hz := Lib.hid hz
      obtain ⟨n, hn, en⟩ : ∃ n : Nat, (19 : Int) - (D.size : Int) = (n : Int) ∧ n = 19 - D.size := ⟨19 - D.size, by omega, rfl⟩
      have ln : n ≤ 19 := by omega
      have hR := fun w => Tryd.strings_Repeat ⟨#[48]⟩ n w (by omega) (by show 1 * n ≤ _; omega)
      obtain ⟨Z, hZ'⟩ : ∃ Z : ByteArray, Z = ⟨(Lib.repeatL (ByteArray.mk #[48]).data.toList n).toArray⟩ := ⟨_, rfl⟩
      rw [← hZ'] at hR
      have HZ := Lib.hid (show Z.data.toList = List.replicate n 48 by rw [hZ']; exact repeat_one 48 n)
      have lZ : Z.size ≤ 19 := by
        have : Z.size = Z.data.toList.length := by simp
        rw [this, HZ.out]; simpa using ln
      have Hen := Lib.hid en
      have HRp := Lib.hid hR
      clear hz hZ' hR en
      go_wp2_with fail
      refine (HRp.out _).mono ?_
      rintro e w3 ⟨rfl, hbl⟩
      have M3 := Lib.hid (M2.out.on hbl)
      clear hbl M2 d0 d1 d2 d3 df lt_q
      obtain ⟨lt_q, d0, d1, d2, d3, df⟩ := M3.out.2 (w1.heap.size, q0, q1, q2, q3) (by simp)
      obtain ⟨lt_v, c0, c1, c2, c3, cf⟩ := M3.out.2 (w.heap.size, v0, v1, v2, v3) (by simp)
      have M4 := Lib.hid ((M3.out.sub (rs' := [(w.heap.size, v0, v1, v2, v3)]) (fun r h => List.mem_cons_of_mem _ h)).put q0 q1 q2 q3 (by omega) (by simp))
      have HN := Lib.hid (show Lib.decDigits A = Lib.decDigits (val4 q0 q1 q2 q3) ++ (Z ++ D ++ T).data.toList by
        have sD : D.size = D.data.toList.length := by simp
        rw [eT.out, HP.out.1, bytes_app, bytes_app, HZ.out, HD.out, Hen.out, sD, HD.out]
        simp)
      have hlt := Lib.hid (show val4 q0 q1 q2 q3 < gk by have h1 := Hd.out; have h2 := Hz.out; omega)
      clear M3
      go_wp2_with fail
      go_roundg (val4 q0 q1 q2 q3)
      case rel => exact ⟨q0, q1, q2, q3, Z ++ D ++ T, rfl, hq, Lib.hid rfl, HN, M4.out⟩
      case measure => exact hlt.out
end Go.Proofs.YtopahcobdfdnlaaDoor
