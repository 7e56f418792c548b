/-
  The calls of the reference's Len, Shl and Shr, bit by bit: for any number of four words and any number of bits, in any world. Conditions: each word below 2^64; the number of bits an int.
-/
import Derived.Test.YtopahcobdfdnlaaDoorPut
import Derived.LoopTactic
import Derived.Deep.LoopGhost
namespace Go.Proofs.YtopahcobdfdnlaaDoor
set_option linter.unusedVariables false
set_option linter.unusedSimpArgs false
open Go.RowKit

theorem len_down {A m : Nat} (h : A < 2 ^ (m + 1)) (hb : bitOf A m = 0) : A < 2 ^ m := by
  unfold bitOf at hb
  have h1 : A / 2 ^ m < 2 := by rw [Nat.div_lt_iff_lt_mul (Nat.pow_pos (by omega)), Nat.mul_comm, ← Nat.pow_succ]; exact h
  have h2 : A / 2 ^ m = 0 := by generalize A / 2 ^ m = q at h1 hb; omega
  have h3 := Nat.div_add_mod A (2 ^ m)
  have h4 := Nat.mod_lt A (show 0 < 2 ^ m from Nat.pow_pos (by omega))
  rw [h2] at h3; omega
theorem len_is {A m : Nat} (h : A < 2 ^ (m + 1)) (hb : bitOf A m = 1) : LenIs A (m + 1) := by
  refine ⟨h, fun _ => ?_⟩
  unfold bitOf at hb
  have h1 : 1 ≤ A / 2 ^ m := by
    rcases Nat.eq_zero_or_pos (A / 2 ^ m) with e | e
    · rw [e] at hb; omega
    · exact e
  exact (Nat.one_le_div_iff (Nat.pow_pos (by omega))).1 h1

def LenP (A : Nat) (w : World) (e : Ending) (w' : World) : Prop :=
  ∃ L : Nat, e = .returned (.int .i64 L) ∧ L ≤ 256 ∧ LenIs A L ∧ Below w.heap.size w w'

theorem refLen_calls (a0 a1 a2 a3 : Nat) (ha : ok4 a0 a1 a2 a3) (w : World) :
    Calls Tryd.prog 19 #[.agg #[.int .u64 a0, .int .u64 a1, .int .u64 a2, .int .u64 a3]] w (LenP (val4 a0 a1 a2 a3) w) := by
  have h256 : val4 a0 a1 a2 a3 < 2 ^ 256 := by have := val4_lt ha; simpa using this
  have HB := Lib.hid (fun i h (w : World) => refBit_in a0 a1 a2 a3 i ha h w)
  generalize hA : val4 a0 a1 a2 a3 = A at *
  have H256 := Lib.hid h256
  clear h256 hA
  go_enter Tryd.func19, Tryd.ntmps19
  go_wp2_with fail
  go_loopw [3] (fun i wr => ∃ n : Int, -1 ≤ n ∧ n ≤ 255 ∧ i = .int .i64 n ∧ Hid (A < 2 ^ (n + 1).toNat) ∧ Mem w wr [(w.heap.size, a0, a1, a2, a3)]) (fun i _ => (intOf i + 1).toNat)
  case atStart => exact ⟨255, by omega, by omega, rfl, H256, (Mem.nil w).new w.heap.size a0 a1 a2 a3 24 rfl⟩
  case round =>
    obtain ⟨n, h1, h2, rfl, hA, m⟩ := hrel
    have M := Lib.hid m
    obtain ⟨lt_a, c0, c1, c2, c3, cf⟩ := m.get (b := w.heap.size) (c0 := a0) (c1 := a1) (c2 := a2) (c3 := a3) (by simp)
    clear m
    by_cases h0 : 0 ≤ n
    · obtain ⟨i, rfl⟩ := Int.eq_ofNat_of_zero_le h0
      have hA' := Lib.hid (show A < 2 ^ (i + 1) from hA.out)
      clear hA
      rcases bitOf_01 A i with hb | hb
      · have hB := HB.out i (by omega)
        rw [hb] at hB
        have HN := Lib.hid (len_down hA'.out hb)
        clear hb hA'
        go_wp2_with fail
        refine (hB _).mono ?_
        rintro e w1 ⟨rfl, hbl⟩
        have M' := M.out.on hbl
        clear hbl
        go_wp2_with fail
        go_roundw
        case rel => exact ⟨(i : Int) - 1, by omega, by omega, by first | rfl | go_num, Lib.hid (by rw [show ((i : Int) - 1 + 1).toNat = i by omega]; exact HN.out), M'⟩
        case measure => first | (simp [intOf]; done) | (simp [intOf]; omega)
      · have hB := HB.out i (by omega)
        rw [hb] at hB
        have HN := Lib.hid (len_is hA'.out hb)
        clear hb hA'
        go_wp2_with fail
        refine (hB _).mono ?_
        rintro e w1 ⟨rfl, hbl⟩
        have M' := M.out.on hbl
        clear hbl
        go_wp2_with fail
        go_ret
        exact ⟨i + 1, rfl, by omega, HN.out, M'.1⟩
    · obtain rfl : n = -1 := by omega
      go_wp2_with fail
      go_ret
      exact ⟨0, rfl, by omega, ⟨hA.out, fun h => absurd h (by omega)⟩, M.out.1⟩

theorem shl_dvd (A n i : Nat) (h : i ≤ n) (h' : i ≤ 256) : 2 ^ i ∣ A * 2 ^ n % 115792089237316195423570985008687907853269984665640564039457584007913129639936 := by
  refine (Nat.dvd_mod_iff ?_).2 ?_
  · rw [show 115792089237316195423570985008687907853269984665640564039457584007913129639936 = 2 ^ 256 by simp]
    exact Nat.pow_dvd_pow 2 h'
  · exact Nat.dvd_trans (Nat.pow_dvd_pow 2 h) (Nat.dvd_mul_left _ _)

theorem refShl_neg (a0 a1 a2 a3 : Nat) (n : Int) (ha : ok4 a0 a1 a2 a3) (h0 : n < 0) (w : World) :
    Calls Tryd.prog 23 #[.agg #[.int .u64 a0, .int .u64 a1, .int .u64 a2, .int .u64 a3], .int .i64 n] w (NumPost (val4 a0 a1 a2 a3) w) := by
  have t0 : decide (n < 0) = true := decide_eq_true h0
  go_enter Tryd.func23, Tryd.ntmps23
  go_wp2_with fail
  refine bodyPost_ret (v := .agg #[.int .u64 a0, .int .u64 a1, .int .u64 a2, .int .u64 a3]) (by simp [results, Tryd.results23, go_sem]) rfl ?_
  refine ⟨a0, a1, a2, a3, rfl, ha, rfl, ?_⟩
  repeat (first | exact Below.refl _ _ | refine Below.drew ?_ | refine Below.alloc ?_ (by first | (simp; done) | (simp; omega)) _)

set_option maxHeartbeats 2000000 in
theorem refShl_calls (a0 a1 a2 a3 n : Nat) (ha : ok4 a0 a1 a2 a3) (hn : n ≤ 9223372036854775807) (w : World) :
    Calls Tryd.prog 23 #[.agg #[.int .u64 a0, .int .u64 a1, .int .u64 a2, .int .u64 a3], .int .i64 n] w (NumPost (val4 a0 a1 a2 a3 * 2 ^ n % 115792089237316195423570985008687907853269984665640564039457584007913129639936) w) := by
  have t0 : decide ((n : Int) < 0) = false := decide_eq_false (by omega)
  obtain ⟨T, hT⟩ : ∃ T, T = val4 a0 a1 a2 a3 * 2 ^ n % 115792089237316195423570985008687907853269984665640564039457584007913129639936 := ⟨_, rfl⟩
  rw [← hT]
  have HTop := Lib.hid (show from' T 256 = 0 from from_top (by rw [hT]; exact Nat.lt_of_lt_of_le (Nat.mod_lt _ (by omega)) (by simp)))
  have HBit := Lib.hid (fun i (h : i < 256) (h' : n ≤ i) => (show bitOf T i = bitOf (val4 a0 a1 a2 a3) (i - n) by rw [hT]; exact bit_shl _ n i h h'))
  have HEnd := Lib.hid (fun i (h : i ≤ n) (h' : i ≤ 256) => (show from' T i = T from from_all (by rw [hT]; exact shl_dvd _ n i h h')))
  have HB := Lib.hid (fun i h (w : World) => refBit_in a0 a1 a2 a3 i ha h w)
  clear hT
  generalize val4 a0 a1 a2 a3 = A at *
  go_enter Tryd.func23, Tryd.ntmps23
  go_wp2_with fail
  go_loopw [6] (fun i wr => ∃ (m : Int) (o0 o1 o2 o3 : Nat), -1 ≤ m ∧ m ≤ 255 ∧ i = .int .i64 m ∧ Hid ((n : Int) ≤ m + 1 ∨ m = 255) ∧ ok4 o0 o1 o2 o3 ∧ Hid (val4 o0 o1 o2 o3 = from' T (m + 1).toNat) ∧ Mem w wr [(w.heap.size + 2, o0, o1, o2, o3), (w.heap.size + 1, 0, 0, 0, 0), (w.heap.size, a0, a1, a2, a3)]) (fun i _ => (intOf i + 1).toNat)
  case atStart =>
    exact ⟨255, 0, 0, 0, 0, by omega, by omega, rfl, Lib.hid (Or.inr rfl), ⟨by omega, by omega, by omega, by omega⟩, Lib.hid HTop.out.symm, (((Mem.nil w).new w.heap.size a0 a1 a2 a3 24 rfl).new (w.heap.size + 1) 0 0 0 0 24 (by simp)).new (w.heap.size + 2) 0 0 0 0 24 (by simp)⟩
  case round =>
    obtain ⟨m, o0, o1, o2, o3, h1, h2, rfl, hmn, ho, hv, mm⟩ := hrel
    have M := Lib.hid mm
    obtain ⟨lt_a, c0, c1, c2, c3, cf⟩ := mm.get (b := w.heap.size) (c0 := a0) (c1 := a1) (c2 := a2) (c3 := a3) (by simp)
    obtain ⟨lt_r, r0, r1, r2, r3, rf⟩ := mm.get (b := w.heap.size + 1) (c0 := 0) (c1 := 0) (c2 := 0) (c3 := 0) (by simp)
    obtain ⟨lt_o, d0, d1, d2, d3, df⟩ := mm.get (b := w.heap.size + 2) (c0 := o0) (c1 := o1) (c2 := o2) (c3 := o3) (by simp)
    clear mm
    by_cases h0 : (n : Int) ≤ m
    · obtain ⟨i, rfl⟩ := Int.eq_ofNat_of_zero_le (show 0 ≤ m by omega)
      obtain ⟨k, hk⟩ : ∃ k : Nat, (i : Int) - (n : Int) = (k : Int) := ⟨i - n, by omega⟩
      have hki : k = i - n := by omega
      have hB := HB.out k (by omega)
      have hbit := HBit.out i (by omega) (by omega)
      have hst := from_step T i
      have hfb := from_bit T i
      have hv' : val4 o0 o1 o2 o3 = from' T (i + 1) := hv.out
      rw [← hv'] at hst hfb
      rw [← hki] at hbit
      have hki' := Lib.hid hki
      clear hki hv' hv
      rcases bitOf_01 A k with hb | hb
      · rw [hb] at hB hbit
        rw [hbit] at hst
        have HN := Lib.hid (show val4 o0 o1 o2 o3 = from' T i by rw [hst]; omega)
        clear hb hst hfb hbit
        go_wp2_with fail
        refine (hB _).mono ?_
        rintro e w1 ⟨rfl, hbl⟩
        have M' := M.out.on hbl
        clear hbl
        go_wp2_with fail
        go_roundw
        case rel => exact ⟨(i : Int) - 1, o0, o1, o2, o3, by omega, by omega, by first | rfl | go_num, Lib.hid (Or.inl (by omega)), ho, Lib.hid (by rw [show ((i : Int) - 1 + 1).toNat = i by omega]; exact HN.out), M'⟩
        case measure => first | (simp [intOf]; done) | (simp [intOf]; omega)
      · rw [hb] at hB hbit
        rw [hbit] at hst
        have hP := fun w => put_calls o0 o1 o2 o3 i ho (by omega) hfb w
        have HN := Lib.hid (show val4 o0 o1 o2 o3 + 2 ^ i = from' T i by rw [hst]; omega)
        clear hb hst hfb hbit
        go_wp2_with fail
        refine (hB _).mono ?_
        rintro e w1 ⟨rfl, hbl⟩
        have M' := Lib.hid (M.out.on hbl)
        clear hbl M c0 c1 c2 c3 cf d0 d1 d2 d3 df r0 r1 r2 r3 rf
        obtain ⟨lt_o', d0, d1, d2, d3, df⟩ := M'.out.get (b := w.heap.size + 2) (c0 := o0) (c1 := o1) (c2 := o2) (c3 := o3) (by simp)
        go_wp2_with fail
        refine (hP _).mono ?_
        rintro e w2 ⟨s0, s1, s2, s3, rfl, hs, es, hbl⟩
        have M := Lib.hid (M'.out.on hbl)
        have Hes := Lib.hid (es.trans HN.out)
        clear hbl M' d0 d1 d2 d3 df es lt_o'
        obtain ⟨lt_o', d0, d1, d2, d3, df⟩ := M.out.get (b := w.heap.size + 2) (c0 := o0) (c1 := o1) (c2 := o2) (c3 := o3) (by simp)
        go_wp2_with fail
        go_roundw
        case rel => exact ⟨(i : Int) - 1, s0, s1, s2, s3, by omega, by omega, by first | rfl | go_num, Lib.hid (Or.inl (by omega)), hs, Lib.hid (by rw [show ((i : Int) - 1 + 1).toNat = i by omega]; exact Hes.out), M.out.put s0 s1 s2 s3 (by omega) (by simp)⟩
        case measure => first | (simp [intOf]; done) | (simp [intOf]; omega)
    · have HF := Lib.hid (show val4 o0 o1 o2 o3 = T by rw [hv.out]; exact HEnd.out _ (by omega) (by omega))
      clear hv hmn
      go_wp2_with fail
      refine bodyPost_ret (v := .agg #[.int .u64 o0, .int .u64 o1, .int .u64 o2, .int .u64 o3]) (by simp [results, Tryd.results23, go_sem, *]) rfl ?_
      exact ⟨o0, o1, o2, o3, rfl, ho, HF.out, below_set4 M.out.1 (by omega) _ _ _ _⟩

theorem refShr_neg (a0 a1 a2 a3 : Nat) (n : Int) (ha : ok4 a0 a1 a2 a3) (h0 : n < 0) (w : World) :
    Calls Tryd.prog 25 #[.agg #[.int .u64 a0, .int .u64 a1, .int .u64 a2, .int .u64 a3], .int .i64 n] w (NumPost (val4 a0 a1 a2 a3) w) := by
  have t0 : decide (n < 0) = true := decide_eq_true h0
  go_enter Tryd.func25, Tryd.ntmps25
  go_wp2_with fail
  refine bodyPost_ret (v := .agg #[.int .u64 a0, .int .u64 a1, .int .u64 a2, .int .u64 a3]) (by simp [results, Tryd.results25, go_sem]) rfl ?_
  refine ⟨a0, a1, a2, a3, rfl, ha, rfl, ?_⟩
  repeat (first | exact Below.refl _ _ | refine Below.drew ?_ | refine Below.alloc ?_ (by first | (simp; done) | (simp; omega)) _)
theorem refShr_far (a0 a1 a2 a3 : Nat) (n : Int) (ha : ok4 a0 a1 a2 a3) (h0 : 255 < n) (w : World) :
    Calls Tryd.prog 25 #[.agg #[.int .u64 a0, .int .u64 a1, .int .u64 a2, .int .u64 a3], .int .i64 n] w (NumPost 0 w) := by
  have t0 : decide (n < 0) = false := decide_eq_false (by omega)
  have t1 : decide (255 < n) = true := decide_eq_true h0
  go_enter Tryd.func25, Tryd.ntmps25
  go_wp2_with fail
  refine bodyPost_ret (v := .agg #[.int .u64 0, .int .u64 0, .int .u64 0, .int .u64 0]) (by simp [results, Tryd.results25, go_sem]) rfl ?_
  refine ⟨0, 0, 0, 0, rfl, ⟨by omega, by omega, by omega, by omega⟩, rfl, ?_⟩
  repeat (first | exact Below.refl _ _ | refine Below.drew ?_ | refine Below.alloc ?_ (by first | (simp; done) | (simp; omega)) _)

set_option maxHeartbeats 2000000 in
theorem refShr_calls (a0 a1 a2 a3 n : Nat) (ha : ok4 a0 a1 a2 a3) (hn : n < 256) (w : World) :
    Calls Tryd.prog 25 #[.agg #[.int .u64 a0, .int .u64 a1, .int .u64 a2, .int .u64 a3], .int .i64 n] w (NumPost (val4 a0 a1 a2 a3 / 2 ^ n) w) := by
  have t0 : decide ((n : Int) < 0) = false := decide_eq_false (by omega)
  have t1 : decide (255 < (n : Int)) = false := decide_eq_false (by omega)
  obtain ⟨T, hT⟩ : ∃ T, T = val4 a0 a1 a2 a3 / 2 ^ n := ⟨_, rfl⟩
  rw [← hT]
  have HEnd := Lib.hid (show ∀ i, 256 ≤ i + n → below' T i = T from fun i h => Nat.mod_eq_of_lt (by
    rw [hT, Nat.div_lt_iff_lt_mul (Nat.pow_pos (by omega)), ← Nat.pow_add]
    exact Nat.lt_of_lt_of_le (show _ < 2 ^ 256 by have := val4_lt ha; simpa using this) (Nat.pow_le_pow_right (by omega) h)))
  have HBit := Lib.hid (fun i => (show bitOf T i = bitOf (val4 a0 a1 a2 a3) (i + n) by rw [hT]; exact bit_shr _ n i))
  have HB := Lib.hid (fun i h (w : World) => refBit_in a0 a1 a2 a3 i ha h w)
  clear hT
  generalize val4 a0 a1 a2 a3 = A at *
  go_enter Tryd.func25, Tryd.ntmps25
  go_wp2_with fail
  go_loopw [6] (fun x wr => ∃ i o0 o1 o2 o3 : Nat, i ≤ 256 ∧ x = .int .i64 i ∧ ok4 o0 o1 o2 o3 ∧ Hid (val4 o0 o1 o2 o3 = below' T i) ∧ Mem w wr [(w.heap.size + 2, o0, o1, o2, o3), (w.heap.size + 1, 0, 0, 0, 0), (w.heap.size, a0, a1, a2, a3)]) (fun x _ => 256 - (intOf x).toNat)
  case atStart =>
    exact ⟨0, 0, 0, 0, 0, by omega, rfl, ⟨by omega, by omega, by omega, by omega⟩, Lib.hid (by unfold below'; rw [Nat.pow_zero, Nat.mod_one]; rfl), (((Mem.nil w).new w.heap.size a0 a1 a2 a3 24 rfl).new (w.heap.size + 1) 0 0 0 0 24 (by simp)).new (w.heap.size + 2) 0 0 0 0 24 (by simp)⟩
  case round =>
    obtain ⟨i, o0, o1, o2, o3, h2, rfl, ho, hv, mm⟩ := hrel
    have M := Lib.hid mm
    obtain ⟨lt_a, c0, c1, c2, c3, cf⟩ := mm.get (b := w.heap.size) (c0 := a0) (c1 := a1) (c2 := a2) (c3 := a3) (by simp)
    obtain ⟨lt_r, r0, r1, r2, r3, rf⟩ := mm.get (b := w.heap.size + 1) (c0 := 0) (c1 := 0) (c2 := 0) (c3 := 0) (by simp)
    obtain ⟨lt_o, d0, d1, d2, d3, df⟩ := mm.get (b := w.heap.size + 2) (c0 := o0) (c1 := o1) (c2 := o2) (c3 := o3) (by simp)
    clear mm
    by_cases h0 : i + n < 256
    · obtain ⟨k, hk, hki⟩ : ∃ k : Nat, (i : Int) + (n : Int) = (k : Int) ∧ k = i + n := ⟨i + n, by omega, rfl⟩
      have hB := HB.out k (by omega)
      have hbit := HBit.out i
      have hst := below_step T i
      have hfb := below_bit T i
      rw [← hv.out] at hst hfb
      rw [← hki] at hbit
      have hki' := Lib.hid hki
      have t2 : decide ((k : Int) < 256) = true := decide_eq_true (by omega)
      clear hki hv
      rcases bitOf_01 A k with hb | hb
      · rw [hb] at hB hbit
        rw [hbit] at hst
        have HN := Lib.hid (show val4 o0 o1 o2 o3 = below' T (i + 1) by rw [hst]; omega)
        clear hb hst hfb hbit
        go_wp2_with fail
        refine (hB _).mono ?_
        rintro e w1 ⟨rfl, hbl⟩
        have M' := M.out.on hbl
        clear hbl
        go_wp2_with fail
        go_roundw
        case rel => exact ⟨i + 1, o0, o1, o2, o3, by omega, by go_num, ho, HN, M'⟩
        case measure => first | (simp [intOf]; done) | (simp [intOf]; omega)
      · rw [hb] at hB hbit
        rw [hbit] at hst
        have hP := fun w => put_calls o0 o1 o2 o3 i ho (by omega) hfb w
        have HN := Lib.hid (show val4 o0 o1 o2 o3 + 2 ^ i = below' T (i + 1) by rw [hst]; omega)
        clear hb hst hfb hbit
        go_wp2_with fail
        refine (hB _).mono ?_
        rintro e w1 ⟨rfl, hbl⟩
        have M' := Lib.hid (M.out.on hbl)
        clear hbl M c0 c1 c2 c3 cf d0 d1 d2 d3 df r0 r1 r2 r3 rf
        obtain ⟨lt_o', d0, d1, d2, d3, df⟩ := M'.out.get (b := w.heap.size + 2) (c0 := o0) (c1 := o1) (c2 := o2) (c3 := o3) (by simp)
        go_wp2_with fail
        refine (hP _).mono ?_
        rintro e w2 ⟨s0, s1, s2, s3, rfl, hs, es, hbl⟩
        have M := Lib.hid (M'.out.on hbl)
        have Hes := Lib.hid (es.trans HN.out)
        clear hbl M' d0 d1 d2 d3 df es lt_o'
        obtain ⟨lt_o', d0, d1, d2, d3, df⟩ := M.out.get (b := w.heap.size + 2) (c0 := o0) (c1 := o1) (c2 := o2) (c3 := o3) (by simp)
        go_wp2_with fail
        go_roundw
        case rel => exact ⟨i + 1, s0, s1, s2, s3, by omega, by go_num, hs, Hes, M.out.put s0 s1 s2 s3 (by omega) (by simp)⟩
        case measure => first | (simp [intOf]; done) | (simp [intOf]; omega)
    · obtain ⟨k, hk, hki⟩ : ∃ k : Nat, (i : Int) + (n : Int) = (k : Int) ∧ k = i + n := ⟨i + n, by omega, rfl⟩
      have t2 : decide ((k : Int) < 256) = false := decide_eq_false (by omega)
      have bk : k ≤ 512 := by omega
      have HF := Lib.hid (show val4 o0 o1 o2 o3 = T by rw [hv.out]; exact HEnd.out _ (by omega))
      clear hv hki
      go_wp2_with fail
      refine bodyPost_ret (v := .agg #[.int .u64 o0, .int .u64 o1, .int .u64 o2, .int .u64 o3]) (by simp [results, Tryd.results25, go_sem, *]) rfl ?_
      exact ⟨o0, o1, o2, o3, rfl, ho, HF.out, below_set4 M.out.1 (by omega) _ _ _ _⟩
end Go.Proofs.YtopahcobdfdnlaaDoor
