/-
  The field's powers, by the bits of the exponent. Conditions: the base is an element that is kept, words below 2^64, the constants in a block of memory.
-/
import Derived.Test.YtgacpjmggdmgdaaGreatKept
import Derived.Test.YtgacpjmggdmgdaaGreatLen
import Derived.Test.YtgacpjmggdmgdaaGreatBits
namespace Go.Proofs.YtgacpjmggdmgdaaGreat
set_option linter.unusedVariables false
set_option linter.unusedSimpArgs false
open Go.RowKit

theorem Mem.row {w wr : World} {rs : List (Nat × Nat × Nat × Nat × Nat)} (h : Mem w wr rs) {b c0 c1 c2 c3 : Nat} (hm : (b, c0, c1, c2, c3) ∈ rs) : Row4 wr b c0 c1 c2 c3 := (h.2 _ hm).2
theorem Mem.lt {w wr : World} {rs : List (Nat × Nat × Nat × Nat × Nat)} (h : Mem w wr rs) {b c0 c1 c2 c3 : Nat} (hm : (b, c0, c1, c2, c3) ∈ rs) : b < wr.heap.size := (h.2 _ hm).1
theorem pow_next {N k L : Nat} (hk : k < L) : N / 2 ^ (L - (k + 1)) = 2 * (N / 2 ^ (L - k)) + bitOf N (L - 1 - k) := by
  have := bit_step N (L - 1 - k)
  rw [show L - 1 - k + 1 = L - k by omega] at this
  rw [show L - (k + 1) = L - 1 - k by omega, this]

set_option maxRecDepth 100000 in
set_option maxHeartbeats 4000000 in
theorem power_calls (F : FC) (hF : F.Ok) (A b a0 a1 a2 a3 n0 n1 n2 n3 : Nat) (ha : ok4 a0 a1 a2 a3) (hn : ok4 n0 n1 n2 n3) (hA : val4 a0 a1 a2 a3 = kp F A) (w : World) (hk : KIs w b F) :
    Calls Tryz.prog 163 #[.pointer (some ⟨b, 0, none⟩), .agg #[.int .u64 a0, .int .u64 a1, .int .u64 a2, .int .u64 a3], .agg #[.int .u64 n0, .int .u64 n1, .int .u64 n2, .int .u64 n3]] w (FePost (kp F (A ^ val4 n0 n1 n2 n3)) w) := by
  have HK := Lib.hid hk
  have HF := Lib.hid hF
  have HA := Lib.hid hA
  have la : val4 a0 a1 a2 a3 < F.M := by rw [hA]; exact kp_lt hF _
  have hL := hk.lt
  have HLA := Lib.hid la
  clear hk hF hA la
  go_enter Tryz.func163, Tryz.ntmps163
  go_wp2_with fail
  have M0 := ((((Mem.nil w).new w.heap.size a0 a1 a2 a3 135 rfl).new (w.heap.size + 1) n0 n1 n2 n3 50 (by simp)).new (w.heap.size + 1 + 1) 0 0 0 0 135 (by simp))
  refine (one_calls F HF.out b _ (HK.out.same M0.1)).mono ?_
  rintro e w1 ⟨s0, s1, s2, s3, rfl, hs, hv, hbl⟩
  have M1 := M0.on hbl
  have HV1 := Lib.hid hv
  have hz1 : w.heap.size + 1 + 1 < w1.heap.size := M1.lt (c0 := 0) (c1 := 0) (c2 := 0) (c3 := 0) (by simp)
  have R1 := M1.row (b := w.heap.size + 1) (c0 := n0) (c1 := n1) (c2 := n2) (c3 := n3) (by simp)
  have x0 := R1.c0; have x1 := R1.c1; have x2 := R1.c2; have x3 := R1.c3
  have lt1 : w.heap.size + 1 < w1.heap.size := by omega
  have M2 := Lib.hid (M1.new w1.heap.size s0 s1 s2 s3 135 rfl)
  clear hbl hv R1 M0 M1
  go_wp2_with fail
  refine (len_calls n0 n1 n2 n3 hn _).mono ?_
  rintro e w2 ⟨L, rfl, hL256, hLen, hbl⟩
  have HLen := Lib.hid hLen
  have M3 := Lib.hid (M2.out.on hbl)
  have hz2 : w1.heap.size < w2.heap.size := by have := hbl.size; simp at this; omega
  clear hbl hLen x0 x1 x2 x3
  go_wp2_with fail
  go_loopw [15] (fun i wr => ∃ k r0 r1 r2 r3 : Nat, k ≤ L ∧ i = .int .i64 k ∧ ok4 r0 r1 r2 r3 ∧ Hid (val4 r0 r1 r2 r3 = kp F (A ^ (val4 n0 n1 n2 n3 / 2 ^ (L - k)))) ∧ Hid (Mem w wr [(w1.heap.size, r0, r1, r2, r3), (w.heap.size + 1 + 1, 0, 0, 0, 0), (w.heap.size + 1, n0, n1, n2, n3), (w.heap.size, a0, a1, a2, a3)])) (fun i _ => L - (intOf i).toNat)
  case atStart =>
    refine ⟨0, s0, s1, s2, s3, Nat.zero_le _, rfl, hs, Lib.hid ?_, M3⟩
    rw [HV1.out, Nat.sub_zero, Nat.div_eq_of_lt HLen.out.1, Nat.pow_zero]
  case round =>
    obtain ⟨k, r0, r1, r2, r3, hkL, rfl, hr, HV, HM⟩ := hrel
    have hrl : val4 r0 r1 r2 r3 < F.M := by rw [HV.out]; exact kp_lt HF.out _
    by_cases hlt : k < L
    · have Rr := HM.out.row (b := w1.heap.size) (c0 := r0) (c1 := r1) (c2 := r2) (c3 := r3) (by simp)
      have x0 := Rr.c0; have x1 := Rr.c1; have x2 := Rr.c2; have x3 := Rr.c3
      have ltr := HM.out.lt (b := w1.heap.size) (c0 := r0) (c1 := r1) (c2 := r2) (c3 := r3) (by simp)
      have Hrl := Lib.hid hrl
      clear Rr hrl
      go_wp2_with fail
      refine (times_calls F HF.out b r0 r1 r2 r3 r0 r1 r2 r3 hr hr Hrl.out _ (HK.out.same HM.out.1)).mono ?_
      rintro e w3 ⟨p0, p1, p2, p3, rfl, hp, hv, hbl⟩
      have hv' : val4 p0 p1 p2 p3 = kp F (A ^ (val4 n0 n1 n2 n3 / 2 ^ (L - k)) * A ^ (val4 n0 n1 n2 n3 / 2 ^ (L - k)) % F.M) := by rw [hv, HV.out, kp_times HF.out]
      have HP := Lib.hid hv'
      have M4 := HM.out.on hbl
      have lt4 := M4.lt (b := w1.heap.size) (c0 := r0) (c1 := r1) (c2 := r2) (c3 := r3) (by simp)
      have Rr := M4.row (b := w1.heap.size) (c0 := r0) (c1 := r1) (c2 := r2) (c3 := r3) (by simp)
      have Rn := M4.row (b := w.heap.size + 1) (c0 := n0) (c1 := n1) (c2 := n2) (c3 := n3) (by simp)
      have Ra := M4.row (b := w.heap.size) (c0 := a0) (c1 := a1) (c2 := a2) (c3 := a3) (by simp)
      have M5 := Lib.hid (M4.put p0 p1 p2 p3 (by omega) (by intro r hr; simp at hr; rcases hr with rfl | rfl | rfl <;> simp <;> omega))
      clear x0 x1 x2 x3 hv hv' hbl M4
      have x0 := Rr.c0; have x1 := Rr.c1; have x2 := Rr.c2; have x3 := Rr.c3; have xf := Rr.fr
      have y0 := Rn.c0; have y1 := Rn.c1; have y2 := Rn.c2; have y3 := Rn.c3
      have ne1 : ¬ w.heap.size + 1 = w1.heap.size := by omega
      have ne1' : ¬ w1.heap.size = w.heap.size + 1 := by omega
      clear Rr Rn Ra
      obtain ⟨L1, e1, hL1⟩ : ∃ L1 : Nat, (L : Int) - 1 = (L1 : Int) ∧ L1 + 1 = L := ⟨L - 1, by omega, by omega⟩
      obtain ⟨j, e2, hj⟩ : ∃ j : Nat, (L1 : Int) - (k : Int) = (j : Int) ∧ j + k = L1 := ⟨L1 - k, by omega, by omega⟩
      have hj256 : j < 256 := by omega
      have hjk : j = L - 1 - k := by omega
      have HJ := Lib.hid hjk
      clear hjk
      go_wp2_with fail
      refine (bit_in n0 n1 n2 n3 j hn hj256 _).mono ?_
      rintro e w4 ⟨he, hbl⟩
      have M5' := M5.out
      unfold set4 at M5'
      have M6 := M5'.on hbl
      clear hbl M5' x0 x1 x2 x3 xf y0 y1 y2 y3
      have lt6 := M6.lt (b := w1.heap.size) (c0 := p0) (c1 := p1) (c2 := p2) (c3 := p3) (by simp)
      rcases bitOf_01 (val4 n0 n1 n2 n3) j with hb | hb
      · rw [hb] at he
        subst he
        have HS := Lib.hid (show val4 p0 p1 p2 p3 = kp F (A ^ (val4 n0 n1 n2 n3 / 2 ^ (L - (k + 1)))) by
          rw [HP.out, pow_next hlt, ← HJ.out, hb]; exact ((kp_pow_step F A _ 0 (Or.inl rfl)).1 rfl).symm)
        have M7 := Lib.hid M6
        clear hb M6
        go_wp2_with fail
        go_roundw
        case rel => exact ⟨k + 1, p0, p1, p2, p3, by omega, by go_num, hp, HS, M7⟩
        case measure => simp [intOf]; omega
      · rw [hb] at he
        subst he
        have Rr := M6.row (b := w1.heap.size) (c0 := p0) (c1 := p1) (c2 := p2) (c3 := p3) (by simp)
        have Ra := M6.row (b := w.heap.size) (c0 := a0) (c1 := a1) (c2 := a2) (c3 := a3) (by simp)
        have x0 := Rr.c0; have x1 := Rr.c1; have x2 := Rr.c2; have x3 := Rr.c3
        have z0 := Ra.c0; have z1 := Ra.c1; have z2 := Ra.c2; have z3 := Ra.c3
        have HB := Lib.hid hb
        have M7 := Lib.hid M6
        clear hb M6 Rr Ra
        go_wp2_with fail
        refine (times_calls F HF.out b p0 p1 p2 p3 a0 a1 a2 a3 hp ha HLA.out _ (HK.out.same M7.out.1)).mono ?_
        rintro e w5 ⟨q0, q1, q2, q3, rfl, hq, hv, hbl⟩
        have hv' : val4 q0 q1 q2 q3 = kp F (A ^ (val4 n0 n1 n2 n3 / 2 ^ (L - (k + 1)))) := by
          rw [hv, HP.out, HA.out, kp_times HF.out, pow_next hlt, ← HJ.out, HB.out]; exact ((kp_pow_step F A _ 1 (Or.inr rfl)).2 rfl).symm
        have HS := Lib.hid hv'
        have M8 := M7.out.on hbl
        have lt8 := M8.lt (b := w1.heap.size) (c0 := p0) (c1 := p1) (c2 := p2) (c3 := p3) (by simp)
        have Rr := M8.row (b := w1.heap.size) (c0 := p0) (c1 := p1) (c2 := p2) (c3 := p3) (by simp)
        have M9 := Lib.hid (M8.put q0 q1 q2 q3 (by omega) (by intro r hr; simp at hr; rcases hr with rfl | rfl | rfl <;> simp <;> omega))
        clear x0 x1 x2 x3 z0 z1 z2 z3 hv hv' hbl M8
        have x0 := Rr.c0; have x1 := Rr.c1; have x2 := Rr.c2; have x3 := Rr.c3; have xf := Rr.fr
        clear Rr
        go_wp2_with fail
        go_roundw
        case rel => exact ⟨k + 1, q0, q1, q2, q3, by omega, by go_num, hq, HS, M9⟩
        case measure => simp [intOf]; omega
    · obtain rfl : k = L := by omega
      have Rr := HM.out.row (b := w1.heap.size) (c0 := r0) (c1 := r1) (c2 := r2) (c3 := r3) (by simp)
      have x0 := Rr.c0; have x1 := Rr.c1; have x2 := Rr.c2; have x3 := Rr.c3
      have Ro := HM.out.row (b := w.heap.size + 1 + 1) (c0 := 0) (c1 := 0) (c2 := 0) (c3 := 0) (by simp)
      have o0 := Ro.c0; have o1 := Ro.c1; have o2 := Ro.c2; have o3 := Ro.c3; have of := Ro.fr
      have ltr := HM.out.lt (b := w1.heap.size) (c0 := r0) (c1 := r1) (c2 := r2) (c3 := r3) (by simp)
      have lto := HM.out.lt (b := w.heap.size + 1 + 1) (c0 := 0) (c1 := 0) (c2 := 0) (c3 := 0) (by simp)
      clear Rr Ro hrl
      go_wp2_with fail
      refine bodyPost_ret (v := .agg #[.int .u64 r0, .int .u64 r1, .int .u64 r2, .int .u64 r3]) (by simp [results, Tryz.results163, go_sem, *]) rfl ?_
      refine ⟨_, _, _, _, rfl, hr, by rw [HV.out, Nat.sub_self, Nat.pow_zero, Nat.div_one], ?_⟩
      exact below_set4 HM.out.1 (by omega) _ _ _ _
end Go.Proofs.YtgacpjmggdmgdaaGreat
