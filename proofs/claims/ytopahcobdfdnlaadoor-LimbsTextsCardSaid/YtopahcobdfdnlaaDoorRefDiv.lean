/-
  The calls of the reference's Div and Mod, bit by bit: for any numbers of four words, in any world. Conditions: each word below 2^64.
-/
import Derived.Test.YtopahcobdfdnlaaDoorRefSh
import Derived.Test.YtopahcobdfdnlaaDoorRefDivNum
import Derived.Test.YtopahcobdfdnlaaDoorDivL
import Derived.Test.YtopahcobdfdnlaaDoorRefAdd
import Derived.Test.YtopahcobdfdnlaaDoorRefCmp
import Derived.Test.YtopahcobdfdnlaaDoorMod
namespace Go.Proofs.YtopahcobdfdnlaaDoor
set_option linter.unusedVariables false
set_option linter.unusedSimpArgs false
open Go.RowKit

theorem refDiv_zero (a0 a1 a2 a3 : Nat) (w : World) :
    Calls Tryd.prog 27 #[.agg #[.int .u64 a0, .int .u64 a1, .int .u64 a2, .int .u64 a3], .int .u64 0] w (DivLPost (fun q r c => q = 0 ∧ r = 0 ∧ c = 22) w) := by
  go_enter Tryd.func27, Tryd.ntmps27
  go_wp2_with fail
  refine bodyPost_ret (v := .tuple #[.agg #[.int .u64 0, .int .u64 0, .int .u64 0, .int .u64 0], .int .u64 0, .int .i64 22]) (by simp [results, Tryd.results27, go_sem]) rfl ?_
  refine ⟨0, 0, 0, 0, 0, 22, rfl, ⟨by omega, by omega, by omega, by omega⟩, ⟨rfl, rfl, rfl⟩, ?_⟩
  repeat (first | exact Below.refl _ _ | refine Below.drew ?_ | refine Below.alloc ?_ (by first | (simp; done) | (simp; omega)) _)

set_option maxHeartbeats 4000000 in
theorem refDiv_some (a0 a1 a2 a3 y : Nat) (ha : ok4 a0 a1 a2 a3) (h0 : 0 < y) (hy : y < 18446744073709551616) (w : World) :
    Calls Tryd.prog 27 #[.agg #[.int .u64 a0, .int .u64 a1, .int .u64 a2, .int .u64 a3], .int .u64 y] w (DivLPost (fun q r c => q = val4 a0 a1 a2 a3 / y ∧ r = val4 a0 a1 a2 a3 % y ∧ c = 0) w) := by
  have h256 := Lib.hid (show val4 a0 a1 a2 a3 < 2 ^ 256 by have := val4_lt ha; simpa using this)
  have HB := Lib.hid (fun i h (w : World) => refBit_in a0 a1 a2 a3 i ha h w)
  generalize val4 a0 a1 a2 a3 = A at *
  have t0 : ((y : Int) == 0) = false := by simp; omega
  go_enter Tryd.func27, Tryd.ntmps27
  go_wp2_with fail
  clear t0
  go_loopw [8, 9] (fun re i wr => ∃ (m : Int) (r o0 o1 o2 o3 : Nat), -1 ≤ m ∧ m ≤ 255 ∧ i = .int .i64 m ∧ re = .int .u64 r ∧ r < y ∧ ok4 o0 o1 o2 o3 ∧ Hid (DI A y (m + 1).toNat (val4 o0 o1 o2 o3) r) ∧ Mem w wr [(w.heap.size + 2, o0, o1, o2, o3), (w.heap.size + 1, 0, 0, 0, 0), (w.heap.size, a0, a1, a2, a3)]) (fun _ i _ => (intOf i + 1).toNat)
  case atStart =>
    exact ⟨255, 0, 0, 0, 0, 0, by omega, by omega, rfl, rfl, h0, ⟨by omega, by omega, by omega, by omega⟩, Lib.hid (di_start h256.out), (((Mem.nil w).new w.heap.size a0 a1 a2 a3 24 rfl).new (w.heap.size + 1) 0 0 0 0 24 (by simp)).new (w.heap.size + 2) 0 0 0 0 24 (by simp)⟩
  case round =>
    obtain ⟨m, r, o0, o1, o2, o3, h1, h2, rfl, rfl, hr, ho, di, mm⟩ := hrel
    have M := Lib.hid mm
    obtain ⟨lt_a, c0, c1, c2, c3, cf⟩ := mm.get (b := w.heap.size) (c0 := a0) (c1 := a1) (c2 := a2) (c3 := a3) (by simp)
    obtain ⟨lt_r, r0, r1, r2, r3, rf⟩ := mm.get (b := w.heap.size + 1) (c0 := 0) (c1 := 0) (c2 := 0) (c3 := 0) (by simp)
    obtain ⟨lt_o, d0, d1, d2, d3, df⟩ := mm.get (b := w.heap.size + 2) (c0 := o0) (c1 := o1) (c2 := o2) (c3 := o3) (by simp)
    clear mm
    by_cases hm : 0 ≤ m
    · obtain ⟨i, rfl⟩ := Int.eq_ofNat_of_zero_le hm
      have hB := HB.out i (by omega)
      have hfb := di_bit (show DI A y (i + 1) _ _ from di.out)
      have hP := fun w => put_calls o0 o1 o2 o3 i ho (by omega) hfb w
      have HP := Lib.hid hP
      have lr : r < 18446744073709551616 := by omega
      have HY := Lib.hid (fun b hb h => di_yes h0 (b := b) (show DI A y (i + 1) _ _ from di.out) hb h)
      have HN := Lib.hid (fun b hb h => di_no h0 (b := b) (show DI A y (i + 1) _ _ from di.out) hb h)
      have hb1 := bitOf_01 A i
      obtain ⟨b, hb⟩ : ∃ b, bitOf A i = b := ⟨_, rfl⟩
      rw [hb] at hB hb1
      have bb : b ≤ 1 := by omega
      obtain ⟨x, z, q1, q2, lx, lz, ez⟩ := ex_take lr bb
      have HY := Lib.hid (HY.out b hb)
      have HN := Lib.hid (HN.out b hb)
      clear di hfb hP hb hb1
      by_cases hge : y ≤ 2 * r + b
      · have HD := Lib.hid (HY.out hge)
        have hw := ex_less ez.out hr bb hy hge
        obtain ⟨s, es⟩ : ∃ s, 2 * r + b - y = s := ⟨_, rfl⟩
        have ls : s < y := by omega
        rw [es] at hw HD
        by_cases ht : 9223372036854775808 ≤ r
        · have e1 := ex_top1 lr ht
          clear ht es hge
          go_wp2_with fail
          refine (hB _).mono ?_
          rintro e w1 ⟨rfl, hbl⟩
          have M' := Lib.hid (M.out.on hbl)
          clear hbl M c0 c1 c2 c3 cf d0 d1 d2 d3 df r0 r1 r2 r3 rf
          obtain ⟨lt_o', d0, d1, d2, d3, df⟩ := M'.out.get (b := w.heap.size + 2) (c0 := o0) (c1 := o1) (c2 := o2) (c3 := o3) (by simp)
          go_wp2_with fail
          refine (HP.out _).mono ?_
          rintro e w2 ⟨s0, s1, s2, s3, rfl, hs, es, hbl⟩
          have M := Lib.hid (M'.out.on hbl)
          rw [← es] at HD
          clear hbl M' d0 d1 d2 d3 df es lt_o'
          obtain ⟨lt_o', d0, d1, d2, d3, df⟩ := M.out.get (b := w.heap.size + 2) (c0 := o0) (c1 := o1) (c2 := o2) (c3 := o3) (by simp)
          go_wp2_with fail
          go_roundw
          case rel => exact ⟨(i : Int) - 1, s, s0, s1, s2, s3, by omega, by omega, by first | rfl | go_num, rfl, ls, hs, Lib.hid (by rw [show ((i : Int) - 1 + 1).toNat = i by omega]; exact HD.out), M.out.put s0 s1 s2 s3 (by omega) (by simp)⟩
          case measure => first | (simp [intOf]; done) | (simp [intOf]; omega)
        · have e1 := ex_top0 (show r < 9223372036854775808 by omega)
          have ezz := ez.out
          have hw2 : (z : Int) - (y : Int) = (s : Int) := by omega
          have t1 : decide ((y : Int) ≤ (z : Int)) = true := decide_eq_true (by omega)
          have t2 : decide (y ≤ z) = true := decide_eq_true (by omega)
          clear ht es hge ezz
          go_wp2_with fail
          refine (hB _).mono ?_
          rintro e w1 ⟨rfl, hbl⟩
          have M' := Lib.hid (M.out.on hbl)
          clear hbl M c0 c1 c2 c3 cf d0 d1 d2 d3 df r0 r1 r2 r3 rf
          obtain ⟨lt_o', d0, d1, d2, d3, df⟩ := M'.out.get (b := w.heap.size + 2) (c0 := o0) (c1 := o1) (c2 := o2) (c3 := o3) (by simp)
          go_wp2_with fail
          refine (HP.out _).mono ?_
          rintro e w2 ⟨s0, s1, s2, s3, rfl, hs, es, hbl⟩
          have M := Lib.hid (M'.out.on hbl)
          rw [← es] at HD
          clear hbl M' d0 d1 d2 d3 df es lt_o'
          obtain ⟨lt_o', d0, d1, d2, d3, df⟩ := M.out.get (b := w.heap.size + 2) (c0 := o0) (c1 := o1) (c2 := o2) (c3 := o3) (by simp)
          go_wp2_with fail
          go_roundw
          case rel => exact ⟨(i : Int) - 1, s, s0, s1, s2, s3, by omega, by omega, by first | rfl | go_num, rfl, ls, hs, Lib.hid (by rw [show ((i : Int) - 1 + 1).toNat = i by omega]; exact HD.out), M.out.put s0 s1 s2 s3 (by omega) (by simp)⟩
          case measure => first | (simp [intOf]; done) | (simp [intOf]; omega)
      · have HD := Lib.hid (HN.out (by omega))
        have e1 := ex_top0 (show r < 9223372036854775808 by omega)
        have ezz := ez.out
        have t1 : decide ((y : Int) ≤ (z : Int)) = false := decide_eq_false (by omega)
        have t2 : decide (y ≤ z) = false := decide_eq_false (by omega)
        have ezr : z = 2 * r + b := by omega
        rw [← ezr] at HD
        have lzy : z < y := by omega
        clear hge ezz ezr
        go_wp2_with fail
        refine (hB _).mono ?_
        rintro e w1 ⟨rfl, hbl⟩
        have M' := Lib.hid (M.out.on hbl)
        clear hbl M c0 c1 c2 c3 cf d0 d1 d2 d3 df r0 r1 r2 r3 rf
        go_wp2_with fail
        go_roundw
        case rel => exact ⟨(i : Int) - 1, z, o0, o1, o2, o3, by omega, by omega, by first | rfl | go_num, rfl, lzy, ho, Lib.hid (by rw [show ((i : Int) - 1 + 1).toNat = i by omega]; exact HD.out), M'.out⟩
        case measure => first | (simp [intOf]; done) | (simp [intOf]; omega)
    · obtain rfl : m = -1 := by omega
      have HF := Lib.hid (di_end (show DI A y 0 _ _ from di.out))
      have lr : r < 18446744073709551616 := by omega
      clear di
      go_wp2_with fail
      refine bodyPost_ret (v := .tuple #[.agg #[.int .u64 o0, .int .u64 o1, .int .u64 o2, .int .u64 o3], .int .u64 r, .int .i64 0]) (by simp [results, Tryd.results27, go_sem, *]) rfl ?_
      exact ⟨o0, o1, o2, o3, r, 0, rfl, ho, ⟨HF.out.1, HF.out.2, rfl⟩, below_set4 M.out.1 (by omega) _ _ _ _⟩

/-- the reference's Div, for any number -/
theorem refDiv_calls (a0 a1 a2 a3 y : Nat) (ha : ok4 a0 a1 a2 a3) (hy : y < 18446744073709551616) (w : World) :
    Calls Tryd.prog 27 #[.agg #[.int .u64 a0, .int .u64 a1, .int .u64 a2, .int .u64 a3], .int .u64 y] w (DivLPost (fun q r c => y = 0 ∧ q = 0 ∧ r = 0 ∧ c = 22 ∨ 0 < y ∧ q = val4 a0 a1 a2 a3 / y ∧ r = val4 a0 a1 a2 a3 % y ∧ c = 0) w) := by
  rcases Nat.eq_zero_or_pos y with rfl | h
  · exact (refDiv_zero a0 a1 a2 a3 w).mono fun e w' ⟨q0, q1, q2, q3, r, c, he, hq, hv, hb⟩ => ⟨q0, q1, q2, q3, r, c, he, hq, Or.inl ⟨rfl, hv⟩, hb⟩
  · exact (refDiv_some a0 a1 a2 a3 y ha h hy w).mono fun e w' ⟨q0, q1, q2, q3, r, c, he, hq, hv, hb⟩ => ⟨q0, q1, q2, q3, r, c, he, hq, Or.inr ⟨h, hv⟩, hb⟩
end Go.Proofs.YtopahcobdfdnlaaDoor
