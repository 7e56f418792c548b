/-
  The call of the reference's Mod, bit by bit: for any numbers of four words, in any world. Conditions: each word below 2^64.
-/
import Derived.Test.YtopahcobdfdnlaaDoorRefDiv
namespace Go.Proofs.YtopahcobdfdnlaaDoor
set_option linter.unusedVariables false
set_option linter.unusedSimpArgs false
open Go.RowKit

theorem refMod_zero (h0 h1 h2 h3 l0 l1 l2 l3 : Nat) (hh : ok4 h0 h1 h2 h3) (hl : ok4 l0 l1 l2 l3) (w : World) :
    Calls Tryd.prog 29 #[.agg #[.int .u64 h0, .int .u64 h1, .int .u64 h2, .int .u64 h3], .agg #[.int .u64 l0, .int .u64 l1, .int .u64 l2, .int .u64 l3], .agg #[.int .u64 0, .int .u64 0, .int .u64 0, .int .u64 0]] w (ModPost (fun v c => v = 0 ∧ c = 22) w) := by
  have hz : ok4 0 0 0 0 := ⟨by omega, by omega, by omega, by omega⟩
  go_enter Tryd.func29, Tryd.ntmps29
  go_wp2_with fail
  have M := Lib.hid (((((Mem.nil w).new w.heap.size h0 h1 h2 h3 24 rfl).new (w.heap.size + 1) l0 l1 l2 l3 24 (by simp)).new (w.heap.size + 2) 0 0 0 0 24 (by simp)).new (w.heap.size + 3) 0 0 0 0 24 (by simp) |>.new (w.heap.size + 4) 0 0 0 0 24 (by simp))
  refine (refCmp_calls 0 0 0 0 0 0 0 0 hz hz _).mono ?_
  rintro e w1 ⟨rfl, hbl⟩
  rw [show cmpN (val4 0 0 0 0) (val4 0 0 0 0) = 0 from rfl]
  have M' := Lib.hid (M.out.on hbl)
  clear hbl M
  obtain ⟨lt_x, x0, x1, x2, x3, xf⟩ := M'.out.get (b := w.heap.size + 4) (c0 := 0) (c1 := 0) (c2 := 0) (c3 := 0) (by simp)
  obtain ⟨lt_y, y0, y1, y2, y3, yf⟩ := M'.out.get (b := w.heap.size + 3) (c0 := 0) (c1 := 0) (c2 := 0) (c3 := 0) (by simp)
  go_wp2_with fail
  refine bodyPost_ret (v := .tuple #[.agg #[.int .u64 0, .int .u64 0, .int .u64 0, .int .u64 0], .int .i64 22]) (by simp [results, Tryd.results29, go_sem, *]) rfl ?_
  exact ⟨0, 0, 0, 0, 22, rfl, hz, ⟨rfl, rfl⟩, below_set4 M'.out.1 (by omega) _ _ _ _⟩

theorem cmp_pos (a0 a1 a2 a3 b0 b1 b2 b3 : Nat) (ha : ok4 a0 a1 a2 a3) (hb : ok4 b0 b1 b2 b3) (h : val4 b0 b1 b2 b3 ≤ val4 a0 a1 a2 a3) :
    ∃ z : Nat, z ≤ 1 ∧ ∀ w, Calls Tryd.prog 16 #[.agg #[.int .u64 a0, .int .u64 a1, .int .u64 a2, .int .u64 a3], .agg #[.int .u64 b0, .int .u64 b1, .int .u64 b2, .int .u64 b3]] w fun e w' => e = .returned (.int .i64 z) ∧ Below w.heap.size w w' := by
  have hc := fun w => refCmp_calls a0 a1 a2 a3 b0 b1 b2 b3 ha hb w
  unfold cmpN at hc
  by_cases e : val4 a0 a1 a2 a3 = val4 b0 b1 b2 b3
  · simp only [if_pos e] at hc; exact ⟨0, by omega, hc⟩
  · simp only [if_neg e, if_neg (show ¬ val4 a0 a1 a2 a3 < val4 b0 b1 b2 b3 by omega)] at hc; exact ⟨1, by omega, hc⟩
theorem cmp_neg (a0 a1 a2 a3 b0 b1 b2 b3 : Nat) (ha : ok4 a0 a1 a2 a3) (hb : ok4 b0 b1 b2 b3) (h : val4 a0 a1 a2 a3 < val4 b0 b1 b2 b3) (w : World) :
    Calls Tryd.prog 16 #[.agg #[.int .u64 a0, .int .u64 a1, .int .u64 a2, .int .u64 a3], .agg #[.int .u64 b0, .int .u64 b1, .int .u64 b2, .int .u64 b3]] w fun e w' => e = .returned (.int .i64 (-1)) ∧ Below w.heap.size w w' := by
  have hc := refCmp_calls a0 a1 a2 a3 b0 b1 b2 b3 ha hb w
  unfold cmpN at hc
  simpa only [if_neg (show ¬ val4 a0 a1 a2 a3 = val4 b0 b1 b2 b3 by omega), if_pos h] using hc

theorem low_val {s0 s1 s2 s3 z b : Nat} (h : z = s0 + b) : val4 z s1 s2 s3 = val4 s0 s1 s2 s3 + b := by unfold val4; omega

set_option maxRecDepth 100000 in
set_option maxHeartbeats 8000000 in
theorem refMod_some (h0 h1 h2 h3 l0 l1 l2 l3 m0 m1 m2 m3 : Nat) (hh : ok4 h0 h1 h2 h3) (hl : ok4 l0 l1 l2 l3) (hm : ok4 m0 m1 m2 m3) (hp : 0 < val4 m0 m1 m2 m3) (w : World) :
    Calls Tryd.prog 29 #[.agg #[.int .u64 h0, .int .u64 h1, .int .u64 h2, .int .u64 h3], .agg #[.int .u64 l0, .int .u64 l1, .int .u64 l2, .int .u64 l3], .agg #[.int .u64 m0, .int .u64 m1, .int .u64 m2, .int .u64 m3]] w (ModPost (fun v c => v = (val4 h0 h1 h2 h3 * 115792089237316195423570985008687907853269984665640564039457584007913129639936 + val4 l0 l1 l2 l3) % val4 m0 m1 m2 m3 ∧ c = 0) w) := by
  have hz : ok4 0 0 0 0 := ⟨by omega, by omega, by omega, by omega⟩
  obtain ⟨X, eX⟩ : ∃ X, X = val4 h0 h1 h2 h3 * 115792089237316195423570985008687907853269984665640564039457584007913129639936 + val4 l0 l1 l2 l3 := ⟨_, rfl⟩
  rw [← eX]
  have lX := Lib.hid (show ∀ k, k = 512 → X / 2 ^ k = 0 from fun k hk => by
    have p1 := val4_lt hh; have p2 := val4_lt hl
    obtain ⟨j, hj, rfl⟩ : ∃ j, j = 256 ∧ k = j + j := ⟨256, rfl, hk⟩
    rw [Nat.pow_add, show (2 : Nat) ^ j = 115792089237316195423570985008687907853269984665640564039457584007913129639936 by rw [hj]]
    exact Nat.div_eq_of_lt (by rw [eX]; omega))
  have HBh := Lib.hid (fun (i k : Nat) (h : 256 ≤ i) (h' : i < 512) (e : k = i - 256) (w : World) => (show Calls Tryd.prog 21 #[.agg #[.int .u64 h0, .int .u64 h1, .int .u64 h2, .int .u64 h3], .int .i64 k] w (BitPost (bitOf X i) w) by
    rw [eX, bit_hi (val4_lt hl) h, ← e]; exact refBit_in h0 h1 h2 h3 k hh (by omega) w))
  have HBl := Lib.hid (fun (i : Nat) (h' : i < 256) (w : World) => (show Calls Tryd.prog 21 #[.agg #[.int .u64 l0, .int .u64 l1, .int .u64 l2, .int .u64 l3], .int .i64 i] w (BitPost (bitOf X i) w) by
    rw [eX, bit_lo h']; exact refBit_in l0 l1 l2 l3 i hl h' w))
  clear eX
  have hc0 : ∀ w, Calls Tryd.prog 16 #[.agg #[.int .u64 m0, .int .u64 m1, .int .u64 m2, .int .u64 m3], .agg #[.int .u64 0, .int .u64 0, .int .u64 0, .int .u64 0]] w fun e w' => e = .returned (.int .i64 1) ∧ Below w.heap.size w w' := fun w => by
    have hc : Calls Tryd.prog 16 #[.agg #[.int .u64 m0, .int .u64 m1, .int .u64 m2, .int .u64 m3], .agg #[.int .u64 0, .int .u64 0, .int .u64 0, .int .u64 0]] w fun e w' => e = .returned (.int .i64 (cmpN (val4 m0 m1 m2 m3) (val4 0 0 0 0))) ∧ Below w.heap.size w w' := refCmp_calls m0 m1 m2 m3 0 0 0 0 hm hz w
    unfold cmpN at hc
    simpa only [show val4 0 0 0 0 = 0 from rfl, if_neg (show ¬ val4 m0 m1 m2 m3 = 0 by omega), if_neg (show ¬ val4 m0 m1 m2 m3 < 0 by omega)] using hc
  have Hc0 := Lib.hid hc0
  clear hc0
  have HP := Lib.hid hp
  have Hm := Lib.hid hm
  go_enter Tryd.func29, Tryd.ntmps29
  go_wp2_with fail
  have M := Lib.hid (((((Mem.nil w).new w.heap.size h0 h1 h2 h3 24 rfl).new (w.heap.size + 1) l0 l1 l2 l3 24 (by simp)).new (w.heap.size + 2) m0 m1 m2 m3 24 (by simp)).new (w.heap.size + 3) 0 0 0 0 24 (by simp) |>.new (w.heap.size + 4) 0 0 0 0 24 (by simp))
  refine (Hc0.out _).mono ?_
  rintro e w1 ⟨rfl, hbl⟩
  have M' := Lib.hid (M.out.on hbl)
  clear hbl M
  go_wp2_with fail
  go_loopw [9] (fun i wr => ∃ (n : Int) (r0 r1 r2 r3 : Nat), -1 ≤ n ∧ n ≤ 511 ∧ i = .int .i64 n ∧ ok4 r0 r1 r2 r3 ∧ Hid (MB X (val4 m0 m1 m2 m3) (n + 1).toNat (val4 r0 r1 r2 r3)) ∧ Mem w wr [(w.heap.size + 4, r0, r1, r2, r3), (w.heap.size + 3, 0, 0, 0, 0), (w.heap.size + 2, m0, m1, m2, m3), (w.heap.size + 1, l0, l1, l2, l3), (w.heap.size, h0, h1, h2, h3)]) (fun i _ => (intOf i + 1).toNat)
  case atStart =>
    exact ⟨511, 0, 0, 0, 0, by omega, by omega, rfl, hz, Lib.hid (by show 0 = X / 2 ^ ((511 : Int) + 1).toNat % _; rw [lX.out ((511 : Int) + 1).toNat rfl, Nat.zero_mod]), M'.out⟩
  case round =>
    clear M'
    obtain ⟨n, r0, r1, r2, r3, b1, b2, rfl, hr, mb, mm⟩ := hrel
    have M := Lib.hid mm
    have zh := mm.2 (w.heap.size, h0, h1, h2, h3) (by simp)
    have zl := mm.2 (w.heap.size + 1, l0, l1, l2, l3) (by simp)
    have zm := mm.2 (w.heap.size + 2, m0, m1, m2, m3) (by simp)
    have zo := mm.2 (w.heap.size + 3, 0, 0, 0, 0) (by simp)
    have zr := mm.2 (w.heap.size + 4, r0, r1, r2, r3) (by simp)
    obtain ⟨lt_h, p0, p1, p2, p3, pf⟩ := zh
    obtain ⟨lt_l, q0, q1, q2, q3, qf⟩ := zl
    obtain ⟨lt_m, x0, x1, x2, x3, xf⟩ := zm
    obtain ⟨lt_o, o0, o1, o2, o3, of⟩ := zo
    obtain ⟨lt_r, y0, y1, y2, y3, yf⟩ := zr
    clear mm
    by_cases hn : 0 ≤ n
    · obtain ⟨i, rfl⟩ := Int.eq_ofNat_of_zero_le hn
      have HY := Lib.hid (fun b hb h => mb_yes HP.out (b := b) (show MB X _ (i + 1) _ from mb.out) hb h)
      have HN := Lib.hid (fun b hb h => mb_no HP.out (b := b) (show MB X _ (i + 1) _ from mb.out) hb h)
      have HL := Lib.hid (mb_lt HP.out mb.out)
      have hb1 := bitOf_01 X i
      obtain ⟨b, hb⟩ : ∃ b, bitOf X i = b := ⟨_, rfl⟩
      have bb : b ≤ 1 := by omega
      have HY := Lib.hid (HY.out b hb)
      have HN := Lib.hid (HN.out b hb)
      by_cases h256 : 256 ≤ i
      · obtain ⟨k, hk, ek⟩ : ∃ k : Nat, (i : Int) - 256 = (k : Int) ∧ k = i - 256 := ⟨i - 256, by omega, rfl⟩
        have hB := HBh.out i k h256 (by omega) ek
        rw [hb] at hB
        have t1 : decide ((256 : Int) ≤ (i : Int)) = true := decide_eq_true (by omega)
        clear hb hb1 mb ek
        go_wp2_with fail
        refine (hB _).mono ?_
        rintro e w2 ⟨rfl, hbl⟩
        have M' := Lib.hid (M.out.on hbl)
        clear hbl M hB
        clear p0 p1 p2 p3 pf q0 q1 q2 q3 qf x0 x1 x2 x3 xf o0 o1 o2 o3 of y0 y1 y2 y3 yf lt_h lt_l lt_m lt_o lt_r
        obtain ⟨lt_r, y0, y1, y2, y3, yf⟩ := M'.out.2 (w.heap.size + 4, r0, r1, r2, r3) (by simp)
        go_wp2_with fail
        refine (refAdd_calls r0 r1 r2 r3 r0 r1 r2 r3 hr hr _).mono ?_
        rintro e w3 ⟨s0, s1, s2, s3, c, rfl, hs, hc, es, hbl⟩
        obtain ⟨z, o1, lz, ez⟩ := ex_low hs.1 bb (even_low es)
        have hs' : ok4 z s1 s2 s3 := ⟨lz, hs.2⟩
        have HV := Lib.hid (low_val (s1 := s1) (s2 := s2) (s3 := s3) ez.out)
        have lV := Lib.hid (val4_lt hs')
        have Hes := Lib.hid es
        have hsz := ((M'.out.on hbl).2 (w.heap.size + 4, r0, r1, r2, r3) (by simp)).1
        have M := Lib.hid ((M'.out.on hbl).new w3.heap.size z s1 s2 s3 24 rfl)
        clear hbl M' y0 y1 y2 y3 yf lt_r es ez hs
        obtain ⟨lt_r, y0, y1, y2, y3, yf⟩ := M.out.2 (w.heap.size + 2, m0, m1, m2, m3) (by simp)
        rcases (show c = 0 ∨ c = 1 by omega) with rfl | rfl
        · rcases Nat.lt_or_ge (val4 z s1 s2 s3) (val4 m0 m1 m2 m3) with hvm | hvm
          · have HD := Lib.hid (HN.out (by have k1 := HV.out; have k2 := Hes.out; omega))
            have HU := Lib.hid (show val4 z s1 s2 s3 = 2 * val4 r0 r1 r2 r3 + b by have k1 := HV.out; have k2 := Hes.out; omega)
            have hC := fun w => cmp_neg z s1 s2 s3 m0 m1 m2 m3 hs' Hm.out hvm w
            clear hvm
            go_wp2_with fail
            refine (hC _).mono ?_
            rintro e w4 ⟨rfl, hbl⟩
            have M5 := Lib.hid (M.out.on hbl)
            clear hbl M y0 y1 y2 y3 yf lt_r hC
            obtain ⟨lt_x, x0, x1, x2, x3, xf⟩ := M5.out.2 (w3.heap.size, z, s1, s2, s3) (by simp)
            obtain ⟨lt_r, y0, y1, y2, y3, yf⟩ := M5.out.2 (w.heap.size + 4, r0, r1, r2, r3) (by simp)
            have M6 := Lib.hid ((M5.out.sub (rs' := [(w.heap.size + 4, r0, r1, r2, r3), (w.heap.size + 3, 0, 0, 0, 0), (w.heap.size + 2, m0, m1, m2, m3), (w.heap.size + 1, l0, l1, l2, l3), (w.heap.size, h0, h1, h2, h3)]) (fun r h => List.mem_cons_of_mem _ h)).put z s1 s2 s3 (by omega) (by simp))
            clear M5
            go_wp2_with fail
            go_roundw
            case rel => exact ⟨(i : Int) - 1, z, s1, s2, s3, by omega, by omega, by first | rfl | go_num, hs', Lib.hid (by rw [show ((i : Int) - 1 + 1).toNat = i by omega, HU.out]; exact HD.out), M6.out⟩
            case measure => first | (simp [intOf]; done) | (simp [intOf]; omega)
          · have HD := Lib.hid (HY.out (by have k1 := HV.out; have k2 := Hes.out; omega))
            obtain ⟨q, lq, hC⟩ := cmp_pos z s1 s2 s3 m0 m1 m2 m3 hs' Hm.out hvm
            have Hvm := Lib.hid hvm
            clear hvm
            go_wp2_with fail
            refine (hC _).mono ?_
            rintro e w4 ⟨rfl, hbl⟩
            have M4 := Lib.hid (M.out.on hbl)
            clear hbl M y0 y1 y2 y3 yf lt_r hC
            obtain ⟨lt_x, x0, x1, x2, x3, xf⟩ := M4.out.2 (w3.heap.size, z, s1, s2, s3) (by simp)
            obtain ⟨lt_r, y0, y1, y2, y3, yf⟩ := M4.out.2 (w.heap.size + 2, m0, m1, m2, m3) (by simp)
            go_wp2_with fail
            refine (refSub_calls z s1 s2 s3 m0 m1 m2 m3 hs' Hm.out _).mono ?_
            rintro e w5 ⟨u0, u1, u2, u3, bo, rfl, hu, hbo, eu, hbl⟩
            have M5 := Lib.hid (M4.out.on hbl)
            have HU := Lib.hid (show val4 u0 u1 u2 u3 = 2 * val4 r0 r1 r2 r3 + b - val4 m0 m1 m2 m3 by
              have k1 := HV.out; have k2 := Hes.out; have k3 := HL.out; have k4 := val4_lt hu; have k5 := val4_lt Hm.out; have k6 := lV.out; have k7 := Hvm.out
              omega)
            clear eu hbl M4 x0 x1 x2 x3 xf lt_x y0 y1 y2 y3 yf lt_r
            obtain ⟨lt_x, x0, x1, x2, x3, xf⟩ := M5.out.2 (w3.heap.size, z, s1, s2, s3) (by simp)
            obtain ⟨lt_r, y0, y1, y2, y3, yf⟩ := M5.out.2 (w.heap.size + 4, r0, r1, r2, r3) (by simp)
            have M6 := Lib.hid ((((M5.out.put u0 u1 u2 u3 (by omega) (by simp; omega)).sub (rs' := [(w.heap.size + 4, r0, r1, r2, r3), (w.heap.size + 3, 0, 0, 0, 0), (w.heap.size + 2, m0, m1, m2, m3), (w.heap.size + 1, l0, l1, l2, l3), (w.heap.size, h0, h1, h2, h3)]) (fun r h => List.mem_cons_of_mem _ h))).put u0 u1 u2 u3 (by omega) (by simp))
            clear M5
            go_wp2_with fail
            go_roundw
            case rel => exact ⟨(i : Int) - 1, u0, u1, u2, u3, by omega, by omega, by first | rfl | go_num, hu, Lib.hid (by rw [show ((i : Int) - 1 + 1).toNat = i by omega, HU.out]; exact HD.out), M6.out⟩
            case measure => first | (simp [intOf]; done) | (simp [intOf]; omega)
        · have HD := Lib.hid (HY.out (by have k1 := HV.out; have k2 := Hes.out; have k5 := val4_lt Hm.out; omega))
          go_wp2_with fail
          refine (refSub_calls z s1 s2 s3 m0 m1 m2 m3 hs' Hm.out _).mono ?_
          rintro e w5 ⟨u0, u1, u2, u3, bo, rfl, hu, hbo, eu, hbl⟩
          have M5 := Lib.hid (M.out.on hbl)
          have HU := Lib.hid (show val4 u0 u1 u2 u3 = 2 * val4 r0 r1 r2 r3 + b - val4 m0 m1 m2 m3 by
            have k1 := HV.out; have k2 := Hes.out; have k3 := HL.out; have k4 := val4_lt hu; have k5 := val4_lt Hm.out; have k6 := lV.out
            omega)
          clear eu hbl M y0 y1 y2 y3 yf lt_r
          obtain ⟨lt_x, x0, x1, x2, x3, xf⟩ := M5.out.2 (w3.heap.size, z, s1, s2, s3) (by simp)
          obtain ⟨lt_r, y0, y1, y2, y3, yf⟩ := M5.out.2 (w.heap.size + 4, r0, r1, r2, r3) (by simp)
          have M6 := Lib.hid ((((M5.out.put u0 u1 u2 u3 (by omega) (by simp; omega)).sub (rs' := [(w.heap.size + 4, r0, r1, r2, r3), (w.heap.size + 3, 0, 0, 0, 0), (w.heap.size + 2, m0, m1, m2, m3), (w.heap.size + 1, l0, l1, l2, l3), (w.heap.size, h0, h1, h2, h3)]) (fun r h => List.mem_cons_of_mem _ h))).put u0 u1 u2 u3 (by omega) (by simp))
          clear M5
          go_wp2_with fail
          go_roundw
          case rel => exact ⟨(i : Int) - 1, u0, u1, u2, u3, by omega, by omega, by first | rfl | go_num, hu, Lib.hid (by rw [show ((i : Int) - 1 + 1).toNat = i by omega, HU.out]; exact HD.out), M6.out⟩
          case measure => first | (simp [intOf]; done) | (simp [intOf]; omega)
      · have hB := HBl.out i (by omega)
        rw [hb] at hB
        have t1 : decide ((256 : Int) ≤ (i : Int)) = false := decide_eq_false (by omega)
        clear hb hb1 mb
        go_wp2_with fail
        refine (hB _).mono ?_
        rintro e w2 ⟨rfl, hbl⟩
        have M' := Lib.hid (M.out.on hbl)
        clear hbl M hB
        clear p0 p1 p2 p3 pf q0 q1 q2 q3 qf x0 x1 x2 x3 xf o0 o1 o2 o3 of y0 y1 y2 y3 yf lt_h lt_l lt_m lt_o lt_r
        obtain ⟨lt_r, y0, y1, y2, y3, yf⟩ := M'.out.2 (w.heap.size + 4, r0, r1, r2, r3) (by simp)
        go_wp2_with fail
        refine (refAdd_calls r0 r1 r2 r3 r0 r1 r2 r3 hr hr _).mono ?_
        rintro e w3 ⟨s0, s1, s2, s3, c, rfl, hs, hc, es, hbl⟩
        obtain ⟨z, o1, lz, ez⟩ := ex_low hs.1 bb (even_low es)
        have hs' : ok4 z s1 s2 s3 := ⟨lz, hs.2⟩
        have HV := Lib.hid (low_val (s1 := s1) (s2 := s2) (s3 := s3) ez.out)
        have lV := Lib.hid (val4_lt hs')
        have Hes := Lib.hid es
        have hsz := ((M'.out.on hbl).2 (w.heap.size + 4, r0, r1, r2, r3) (by simp)).1
        have M := Lib.hid ((M'.out.on hbl).new w3.heap.size z s1 s2 s3 24 rfl)
        clear hbl M' y0 y1 y2 y3 yf lt_r es ez hs
        obtain ⟨lt_r, y0, y1, y2, y3, yf⟩ := M.out.2 (w.heap.size + 2, m0, m1, m2, m3) (by simp)
        rcases (show c = 0 ∨ c = 1 by omega) with rfl | rfl
        · rcases Nat.lt_or_ge (val4 z s1 s2 s3) (val4 m0 m1 m2 m3) with hvm | hvm
          · have HD := Lib.hid (HN.out (by have k1 := HV.out; have k2 := Hes.out; omega))
            have HU := Lib.hid (show val4 z s1 s2 s3 = 2 * val4 r0 r1 r2 r3 + b by have k1 := HV.out; have k2 := Hes.out; omega)
            have hC := fun w => cmp_neg z s1 s2 s3 m0 m1 m2 m3 hs' Hm.out hvm w
            clear hvm
            go_wp2_with fail
            refine (hC _).mono ?_
            rintro e w4 ⟨rfl, hbl⟩
            have M5 := Lib.hid (M.out.on hbl)
            clear hbl M y0 y1 y2 y3 yf lt_r hC
            obtain ⟨lt_x, x0, x1, x2, x3, xf⟩ := M5.out.2 (w3.heap.size, z, s1, s2, s3) (by simp)
            obtain ⟨lt_r, y0, y1, y2, y3, yf⟩ := M5.out.2 (w.heap.size + 4, r0, r1, r2, r3) (by simp)
            have M6 := Lib.hid ((M5.out.sub (rs' := [(w.heap.size + 4, r0, r1, r2, r3), (w.heap.size + 3, 0, 0, 0, 0), (w.heap.size + 2, m0, m1, m2, m3), (w.heap.size + 1, l0, l1, l2, l3), (w.heap.size, h0, h1, h2, h3)]) (fun r h => List.mem_cons_of_mem _ h)).put z s1 s2 s3 (by omega) (by simp))
            clear M5
            go_wp2_with fail
            go_roundw
            case rel => exact ⟨(i : Int) - 1, z, s1, s2, s3, by omega, by omega, by first | rfl | go_num, hs', Lib.hid (by rw [show ((i : Int) - 1 + 1).toNat = i by omega, HU.out]; exact HD.out), M6.out⟩
            case measure => first | (simp [intOf]; done) | (simp [intOf]; omega)
          · have HD := Lib.hid (HY.out (by have k1 := HV.out; have k2 := Hes.out; omega))
            obtain ⟨q, lq, hC⟩ := cmp_pos z s1 s2 s3 m0 m1 m2 m3 hs' Hm.out hvm
            have Hvm := Lib.hid hvm
            clear hvm
            go_wp2_with fail
            refine (hC _).mono ?_
            rintro e w4 ⟨rfl, hbl⟩
            have M4 := Lib.hid (M.out.on hbl)
            clear hbl M y0 y1 y2 y3 yf lt_r hC
            obtain ⟨lt_x, x0, x1, x2, x3, xf⟩ := M4.out.2 (w3.heap.size, z, s1, s2, s3) (by simp)
            obtain ⟨lt_r, y0, y1, y2, y3, yf⟩ := M4.out.2 (w.heap.size + 2, m0, m1, m2, m3) (by simp)
            go_wp2_with fail
            refine (refSub_calls z s1 s2 s3 m0 m1 m2 m3 hs' Hm.out _).mono ?_
            rintro e w5 ⟨u0, u1, u2, u3, bo, rfl, hu, hbo, eu, hbl⟩
            have M5 := Lib.hid (M4.out.on hbl)
            have HU := Lib.hid (show val4 u0 u1 u2 u3 = 2 * val4 r0 r1 r2 r3 + b - val4 m0 m1 m2 m3 by
              have k1 := HV.out; have k2 := Hes.out; have k3 := HL.out; have k4 := val4_lt hu; have k5 := val4_lt Hm.out; have k6 := lV.out; have k7 := Hvm.out
              omega)
            clear eu hbl M4 x0 x1 x2 x3 xf lt_x y0 y1 y2 y3 yf lt_r
            obtain ⟨lt_x, x0, x1, x2, x3, xf⟩ := M5.out.2 (w3.heap.size, z, s1, s2, s3) (by simp)
            obtain ⟨lt_r, y0, y1, y2, y3, yf⟩ := M5.out.2 (w.heap.size + 4, r0, r1, r2, r3) (by simp)
            have M6 := Lib.hid ((((M5.out.put u0 u1 u2 u3 (by omega) (by simp; omega)).sub (rs' := [(w.heap.size + 4, r0, r1, r2, r3), (w.heap.size + 3, 0, 0, 0, 0), (w.heap.size + 2, m0, m1, m2, m3), (w.heap.size + 1, l0, l1, l2, l3), (w.heap.size, h0, h1, h2, h3)]) (fun r h => List.mem_cons_of_mem _ h))).put u0 u1 u2 u3 (by omega) (by simp))
            clear M5
            go_wp2_with fail
            go_roundw
            case rel => exact ⟨(i : Int) - 1, u0, u1, u2, u3, by omega, by omega, by first | rfl | go_num, hu, Lib.hid (by rw [show ((i : Int) - 1 + 1).toNat = i by omega, HU.out]; exact HD.out), M6.out⟩
            case measure => first | (simp [intOf]; done) | (simp [intOf]; omega)
        · have HD := Lib.hid (HY.out (by have k1 := HV.out; have k2 := Hes.out; have k5 := val4_lt Hm.out; omega))
          go_wp2_with fail
          refine (refSub_calls z s1 s2 s3 m0 m1 m2 m3 hs' Hm.out _).mono ?_
          rintro e w5 ⟨u0, u1, u2, u3, bo, rfl, hu, hbo, eu, hbl⟩
          have M5 := Lib.hid (M.out.on hbl)
          have HU := Lib.hid (show val4 u0 u1 u2 u3 = 2 * val4 r0 r1 r2 r3 + b - val4 m0 m1 m2 m3 by
            have k1 := HV.out; have k2 := Hes.out; have k3 := HL.out; have k4 := val4_lt hu; have k5 := val4_lt Hm.out; have k6 := lV.out
            omega)
          clear eu hbl M y0 y1 y2 y3 yf lt_r
          obtain ⟨lt_x, x0, x1, x2, x3, xf⟩ := M5.out.2 (w3.heap.size, z, s1, s2, s3) (by simp)
          obtain ⟨lt_r, y0, y1, y2, y3, yf⟩ := M5.out.2 (w.heap.size + 4, r0, r1, r2, r3) (by simp)
          have M6 := Lib.hid ((((M5.out.put u0 u1 u2 u3 (by omega) (by simp; omega)).sub (rs' := [(w.heap.size + 4, r0, r1, r2, r3), (w.heap.size + 3, 0, 0, 0, 0), (w.heap.size + 2, m0, m1, m2, m3), (w.heap.size + 1, l0, l1, l2, l3), (w.heap.size, h0, h1, h2, h3)]) (fun r h => List.mem_cons_of_mem _ h))).put u0 u1 u2 u3 (by omega) (by simp))
          clear M5
          go_wp2_with fail
          go_roundw
          case rel => exact ⟨(i : Int) - 1, u0, u1, u2, u3, by omega, by omega, by first | rfl | go_num, hu, Lib.hid (by rw [show ((i : Int) - 1 + 1).toNat = i by omega, HU.out]; exact HD.out), M6.out⟩
          case measure => first | (simp [intOf]; done) | (simp [intOf]; omega)
    · obtain rfl : n = -1 := by omega
      have HF := Lib.hid (show val4 r0 r1 r2 r3 = X % val4 m0 m1 m2 m3 by have := mb.out; unfold MB at this; simpa using this)
      clear mb
      go_wp2_with fail
      refine bodyPost_ret (v := .tuple #[.agg #[.int .u64 r0, .int .u64 r1, .int .u64 r2, .int .u64 r3], .int .i64 0]) (by simp [results, Tryd.results29, go_sem, *]) rfl ?_
      exact ⟨r0, r1, r2, r3, 0, rfl, hr, ⟨HF.out, rfl⟩, below_set4 M.out.1 (by omega) _ _ _ _⟩

/-- the reference's Mod, for any numbers -/
theorem refMod_calls (h0 h1 h2 h3 l0 l1 l2 l3 m0 m1 m2 m3 : Nat) (hh : ok4 h0 h1 h2 h3) (hl : ok4 l0 l1 l2 l3) (hm : ok4 m0 m1 m2 m3) (w : World) :
    Calls Tryd.prog 29 #[.agg #[.int .u64 h0, .int .u64 h1, .int .u64 h2, .int .u64 h3], .agg #[.int .u64 l0, .int .u64 l1, .int .u64 l2, .int .u64 l3], .agg #[.int .u64 m0, .int .u64 m1, .int .u64 m2, .int .u64 m3]] w (ModPost (fun v c => val4 m0 m1 m2 m3 = 0 ∧ v = 0 ∧ c = 22 ∨ 0 < val4 m0 m1 m2 m3 ∧ v = (val4 h0 h1 h2 h3 * 115792089237316195423570985008687907853269984665640564039457584007913129639936 + val4 l0 l1 l2 l3) % val4 m0 m1 m2 m3 ∧ c = 0) w) := by
  rcases Nat.eq_zero_or_pos (val4 m0 m1 m2 m3) with hz | hz
  · obtain ⟨e0, e1, e2, e3⟩ := val4_inj hm (show ok4 0 0 0 0 from ⟨by omega, by omega, by omega, by omega⟩) (hz.trans (show 0 = val4 0 0 0 0 from rfl))
    subst e0; subst e1; subst e2; subst e3
    exact (refMod_zero h0 h1 h2 h3 l0 l1 l2 l3 hh hl w).mono fun e w' ⟨s0, s1, s2, s3, c, he, hs, hv, hb⟩ => ⟨s0, s1, s2, s3, c, he, hs, Or.inl ⟨hz, hv⟩, hb⟩
  · exact (refMod_some h0 h1 h2 h3 l0 l1 l2 l3 m0 m1 m2 m3 hh hl hm hz w).mono fun e w' ⟨s0, s1, s2, s3, c, he, hs, hv, hb⟩ => ⟨s0, s1, s2, s3, c, he, hs, Or.inr ⟨hz, hv⟩, hb⟩
end Go.Proofs.YtopahcobdfdnlaaDoor
