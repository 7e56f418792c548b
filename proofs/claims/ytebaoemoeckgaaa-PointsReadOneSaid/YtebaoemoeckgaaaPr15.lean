/-
  The field's root, by Tonelli and Shanks, of what is no square. Conditions: an element that is kept and is not 0, words below 2^64, the constants in a block of memory.
-/
import Derived.Deep.DeepCutAuto
import Derived.Test.YtebaoemoeckgaaaPr14
import Derived.Test.YtebaoemoeckgaaaPr13
namespace Go.Proofs.Ytebaoemoeckgaaa
set_option linter.unusedVariables false
set_option linter.unusedSimpArgs false
open Go.RowKit

set_option maxRecDepth 100000 in
set_option maxHeartbeats 4000000 in
theorem root_no (F : FC) (hF : F.Ok) (g : Nat) (hr : Root F.M g) (A H T C b a0 a1 a2 a3 c0 c1 c2 c3 : Nat) (ha : ok4 a0 a1 a2 a3) (hc : ok4 c0 c1 c2 c3) (hA : val4 a0 a1 a2 a3 = kp F A) (hC : val4 c0 c1 c2 c3 = kp F C) (hT : 1 ≤ T) (hT2 : T ≤ 200)
    (hM : F.M = 2 ^ T * (2 * H + 1) + 1) (hs : A ^ (F.M / 2) % F.M ≠ 1) (w : World) (hk : KIs w b F) :
    Calls Try.prog 88 #[.pointer (some ⟨b, 0, none⟩), .agg #[.int .u64 a0, .int .u64 a1, .int .u64 a2, .int .u64 a3], .int .i64 T, .agg #[.int .u64 c0, .int .u64 c1, .int .u64 c2, .int .u64 c3]] w fun e w' =>
      e = .returned (.tuple #[.agg #[.int .u64 0, .int .u64 0, .int .u64 0, .int .u64 0], .bool false]) ∧ Below w.heap.size w w' := by
  have HK := Lib.hid hk
  have HF := Lib.hid hF
  have HA := Lib.hid hA
  have HC := Lib.hid hC
  have HS2 := Lib.hid (shift_half hM hT)
  have HI := Lib.hid (show (A * A ^ H * A ^ H) ^ 2 ^ (T - 1) % F.M ≠ 1 by
    rw [show A * A ^ H * A ^ H = A ^ (2 * H + 1) by rw [Nat.mul_assoc, ← Nat.pow_add, ← Nat.pow_succ']; congr 1; omega, pow_half hM hT]; exact hs)
  have hL := hk.lt
  have hL1 : b < w.heap.size + 1 := by omega
  have hL2 : b < w.heap.size + 1 + 1 := by omega
  have k0 := hk.k0; have k1 := hk.k1; have k2 := hk.k2; have k3 := hk.k3
  obtain ⟨T1, e1, hT1⟩ : ∃ T1 : Nat, (T : Int) + 1 = (T1 : Int) ∧ T1 = T + 1 := ⟨T + 1, by omega, rfl⟩
  have HT1 := Lib.hid hT1
  have bT1 : T1 ≤ 201 := by omega
  clear hk hF hA hC hM hs hT1
  go_enter Try.func88, Try.ntmps88
  go_upto_region 1 with fail
  have M0 := Lib.hid (((Mem.nil w).new w.heap.size a0 a1 a2 a3 113 rfl).new (w.heap.size + 1) c0 c1 c2 c3 113 (by simp) |>.new (w.heap.size + 1 + 1) 0 0 0 0 113 (by simp))
  go_cut [10] (fun s10 wx => ∃ g p0 p1 p2 p3 : Nat, s10 = .pointer (some ⟨g, 0, none⟩) ∧ ok4 p0 p1 p2 p3 ∧ Hid (val4 p0 p1 p2 p3 = kp F (A ^ H)) ∧ w.heap.size + 1 + 1 < g ∧ Hid (Mem w wx [(g, p0, p1, p2, p3), (w.heap.size + 1 + 1, 0, 0, 0, 0), (w.heap.size + 1, c0, c1, c2, c3), (w.heap.size, a0, a1, a2, a3)]))
  case first =>
    refine region_till (fun wx => Mem w wx [(w.heap.size + 1 + 1, 0, 0, 0, 0), (w.heap.size + 1, c0, c1, c2, c3), (w.heap.size, a0, a1, a2, a3)]) 11 (by kernel_rfl) ?_
    have HS := M0.out.drewN 1
    have HM := Lib.hid HS
    refine till_take (i := 0) (v := .pointer (some ⟨b, 0, none⟩)) rfl (by kernel_rfl) (by kernel_rfl) (by kernel_rfl) (by kernel_rfl) (fun _ _ _ h => h) HS (Or.inl ⟨by kernel_rfl, fun wx hx => ?_⟩) ?_
    · clear HS hx
      go_simp
    simp only [Act.put, List.setIfInBounds_toArray, List.set_cons_zero, List.set_cons_succ]
    refine till_take (i := 1) (v := .agg #[.int .u64 a0, .int .u64 a1, .int .u64 a2, .int .u64 a3]) rfl (by kernel_rfl) (by kernel_rfl) (by kernel_rfl) (by kernel_rfl) (fun _ _ _ h => h) HS (Or.inl ⟨by kernel_rfl, fun wx hx => ?_⟩) ?_
    · have kr := hx.row (b := w.heap.size) (c0 := a0) (c1 := a1) (c2 := a2) (c3 := a3) (by simp)
      have x0 := kr.c0; have x1 := kr.c1; have x2 := kr.c2; have x3 := kr.c3
      clear kr k0 k1 k2 k3
      clear HS hx
      go_simp
    simp only [Act.put, List.setIfInBounds_toArray, List.set_cons_zero, List.set_cons_succ]
    refine till_take (i := 2) (v := .pointer (some ⟨b, 0, none⟩)) rfl (by kernel_rfl) (by kernel_rfl) (by kernel_rfl) (by kernel_rfl) (fun _ _ _ h => h) HS (Or.inl ⟨by kernel_rfl, fun wx hx => ?_⟩) ?_
    · clear HS hx
      go_simp
    simp only [Act.put, List.setIfInBounds_toArray, List.set_cons_zero, List.set_cons_succ]
    refine till_take (i := 3) (v := .pointer (some ⟨b, 0, none⟩)) rfl (by kernel_rfl) (by kernel_rfl) (by kernel_rfl) (by kernel_rfl) (fun _ _ _ h => h) HS (Or.inl ⟨by kernel_rfl, fun wx hx => ?_⟩) ?_
    · clear HS hx
      go_simp
    simp only [Act.put, List.setIfInBounds_toArray, List.set_cons_zero, List.set_cons_succ]
    refine till_take (i := 4) (v := .pointer (some ⟨b, 0, none⟩)) rfl (by kernel_rfl) (by kernel_rfl) (by kernel_rfl) (by kernel_rfl) (fun _ _ _ h => h) HS (Or.inl ⟨by kernel_rfl, fun wx hx => ?_⟩) ?_
    · clear HS hx
      go_simp
    simp only [Act.put, List.setIfInBounds_toArray, List.set_cons_zero, List.set_cons_succ]
    refine till_take (i := 5) (v := .agg #[.int .u64 F.m0, .int .u64 F.m1, .int .u64 F.m2, .int .u64 F.m3]) rfl (by kernel_rfl) (by kernel_rfl) (by kernel_rfl) (by kernel_rfl) (fun _ _ _ h => h) HS (Or.inl ⟨by kernel_rfl, fun wx hx => ?_⟩) ?_
    · have kk := HK.out.same hx.1
      have x0 := kk.k0; have x1 := kk.k1; have x2 := kk.k2; have x3 := kk.k3
      clear kk k0 k1 k2 k3
      clear HS hx
      go_simp
    simp only [Act.put, List.setIfInBounds_toArray, List.set_cons_zero, List.set_cons_succ]
    refine till_take (i := 6) (v := .int .i64 (T : Nat)) rfl (by kernel_rfl) (by kernel_rfl) (by kernel_rfl) (by kernel_rfl) (fun _ _ _ h => h) HS (Or.inl ⟨by kernel_rfl, fun wx hx => ?_⟩) ?_
    · clear HS hx
      go_simp
    simp only [Act.put, List.setIfInBounds_toArray, List.set_cons_zero, List.set_cons_succ]
    refine till_take (i := 7) (v := .int .i64 (T1 : Nat)) rfl (by kernel_rfl) (by kernel_rfl) (by kernel_rfl) (by kernel_rfl) (fun _ _ _ h => h) HS (Or.inl ⟨by kernel_rfl, fun wx hx => ?_⟩) ?_
    · have hw : IntKind.i64.wrap (T1 : Int) = (T1 : Int) := IntWalk.i64_in _ (by omega)
      clear HS hx
      go_simp
    simp only [Act.put, List.setIfInBounds_toArray, List.set_cons_zero, List.set_cons_succ]
    clear HS
    refine till_two (i := 8) (j := 10) (by kernel_rfl) rfl rfl (fun K hK => ?_) (fun K hK => ?_)
    · go_simp
      refine (shr_calls F.m0 F.m1 F.m2 F.m3 T1 HF.out.okm (by omega) (by have := HT1.out; omega) _).mono ?_
      rintro e w1 ⟨n0, n1, n2, n3, rfl, hn, hv, hbl⟩
      have HS := HM.out.on hbl
      clear HM
      have HM := Lib.hid HS
      have HV := Lib.hid (show val4 n0 n1 n2 n3 = H by rw [hv, show (T1 : Int).toNat = T + 1 by have := HT1.out; omega]; exact HS2.out)
      clear hv hbl
      refine hK.out _ _ (Or.inr (HS.sub (by simp))) (fun _ => ?_)
      clear hK K
      clear HS
      refine till_two (i := 9) (j := 10) (by kernel_rfl) rfl rfl (fun K hK => ?_) (fun K hK => ?_)
      · go_simp
        refine (power_calls F HF.out A b a0 a1 a2 a3 n0 n1 n2 n3 ha hn HA.out _ (HK.out.same HM.out.1)).mono ?_
        rintro e w2 ⟨p0, p1, p2, p3, rfl, hp, hv, hbl⟩
        have HS := HM.out.on hbl
        clear HM
        have HM := Lib.hid HS
        have HVp := Lib.hid (show val4 p0 p1 p2 p3 = kp F (A ^ H) by rw [hv, HV.out])
        clear hv hbl
        refine hK.out _ _ (Or.inr (HS.sub (by simp))) (fun _ => ?_)
        clear hK K
        clear HS
        refine till_step (i := 10) (by kernel_rfl) rfl (fun K hK => ?_)
        go_simp
        have HS := HM.out.new w2.heap.size 0 0 0 0 113 (by first | rfl | (simp; done))
        have hg : w.heap.size + 1 + 1 < w2.heap.size := by first | (simp; done) | exact HM.out.lt (b := w.heap.size + 1 + 1) (c0 := 0) (c1 := 0) (c2 := 0) (c3 := 0) (by simp)
        have HM9 := HM
        clear HM
        have HM := Lib.hid HS
        refine hK.out _ _ (Or.inr (HS.sub (by simp))) (fun _ => ?_)
        clear hK K
        clear HS
        have kr := HM.out.row (b := w2.heap.size) (c0 := 0) (c1 := 0) (c2 := 0) (c3 := 0) (by simp)
        have lr := HM.out.lt (b := w2.heap.size) (c0 := 0) (c1 := 0) (c2 := 0) (c3 := 0) (by simp)
        have x0 := kr.c0; have x1 := kr.c1; have x2 := kr.c2; have x3 := kr.c3; have xf := kr.fr
        clear kr
        refine till_step (i := 11) (by kernel_rfl) rfl (fun K hK => ?_)
        go_simp
        refine hK.out _ _ (Or.inl rfl) (fun _ => ?_)
        clear hK K
        refine till_done (by kernel_rfl) ?_
        go_wp2_with fail
        go_meet
        refine ⟨w2.heap.size, p0, p1, p2, p3, rfl, hp, HVp, hg, Lib.hid ?_⟩
        exact HM9.out.new w2.heap.size p0 p1 p2 p3 113 rfl
      · go_simp
        have HS := HM.out.new w1.heap.size 0 0 0 0 113 (by first | rfl | (simp; done))
        have hg : w.heap.size + 1 + 1 < w1.heap.size := by first | (simp; done) | exact HM.out.lt (b := w.heap.size + 1 + 1) (c0 := 0) (c1 := 0) (c2 := 0) (c3 := 0) (by simp)
        have HM9 := HM
        clear HM
        have HM := Lib.hid HS
        refine hK.out _ _ (Or.inr (HS.sub (by simp))) (fun _ => ?_)
        clear hK K
        clear HS
        refine till_step (i := 9) (by kernel_rfl) rfl (fun K hK => ?_)
        go_simp
        refine (power_calls F HF.out A b a0 a1 a2 a3 n0 n1 n2 n3 ha hn HA.out _ (HK.out.same HM.out.1)).mono ?_
        rintro e w2 ⟨p0, p1, p2, p3, rfl, hp, hv, hbl⟩
        have HS := HM.out.on hbl
        clear HM
        have HM := Lib.hid HS
        have HVp := Lib.hid (show val4 p0 p1 p2 p3 = kp F (A ^ H) by rw [hv, HV.out])
        clear hv hbl
        refine hK.out _ _ (Or.inr (HS.sub (by simp))) (fun _ => ?_)
        clear hK K
        clear HS
        have kr := HM.out.row (b := w1.heap.size) (c0 := 0) (c1 := 0) (c2 := 0) (c3 := 0) (by simp)
        have lr := HM.out.lt (b := w1.heap.size) (c0 := 0) (c1 := 0) (c2 := 0) (c3 := 0) (by simp)
        have x0 := kr.c0; have x1 := kr.c1; have x2 := kr.c2; have x3 := kr.c3; have xf := kr.fr
        clear kr
        refine till_step (i := 11) (by kernel_rfl) rfl (fun K hK => ?_)
        go_simp
        refine hK.out _ _ (Or.inl rfl) (fun _ => ?_)
        clear hK K
        refine till_done (by kernel_rfl) ?_
        go_wp2_with fail
        go_meet
        refine ⟨w1.heap.size, p0, p1, p2, p3, rfl, hp, HVp, hg, Lib.hid ?_⟩
        exact HM.out.put p0 p1 p2 p3 (by omega) (by intro r hr; simp at hr; rcases hr with rfl | rfl | rfl <;> simp <;> omega)
    · go_simp
      have HS := HM.out.new (w.heap.size + 1 + 1 + 1) 0 0 0 0 113 (by first | rfl | (simp; done))
      have hg : w.heap.size + 1 + 1 < (w.heap.size + 1 + 1 + 1) := by first | (simp; done) | exact HM.out.lt (b := w.heap.size + 1 + 1) (c0 := 0) (c1 := 0) (c2 := 0) (c3 := 0) (by simp)
      have HM9 := HM
      clear HM
      have HM := Lib.hid HS
      refine hK.out _ _ (Or.inr (HS.sub (by simp))) (fun _ => ?_)
      clear hK K
      clear HS
      refine till_step (i := 8) (by kernel_rfl) rfl (fun K hK => ?_)
      go_simp
      refine (shr_calls F.m0 F.m1 F.m2 F.m3 T1 HF.out.okm (by omega) (by have := HT1.out; omega) _).mono ?_
      rintro e w1 ⟨n0, n1, n2, n3, rfl, hn, hv, hbl⟩
      have HS := HM.out.on hbl
      clear HM
      have HM := Lib.hid HS
      have HV := Lib.hid (show val4 n0 n1 n2 n3 = H by rw [hv, show (T1 : Int).toNat = T + 1 by have := HT1.out; omega]; exact HS2.out)
      clear hv hbl
      refine hK.out _ _ (Or.inr (HS.sub (by simp))) (fun _ => ?_)
      clear hK K
      clear HS
      refine till_step (i := 9) (by kernel_rfl) rfl (fun K hK => ?_)
      go_simp
      refine (power_calls F HF.out A b a0 a1 a2 a3 n0 n1 n2 n3 ha hn HA.out _ (HK.out.same HM.out.1)).mono ?_
      rintro e w2 ⟨p0, p1, p2, p3, rfl, hp, hv, hbl⟩
      have HS := HM.out.on hbl
      clear HM
      have HM := Lib.hid HS
      have HVp := Lib.hid (show val4 p0 p1 p2 p3 = kp F (A ^ H) by rw [hv, HV.out])
      clear hv hbl
      refine hK.out _ _ (Or.inr (HS.sub (by simp))) (fun _ => ?_)
      clear hK K
      clear HS
      have kr := HM.out.row (b := (w.heap.size + 1 + 1 + 1)) (c0 := 0) (c1 := 0) (c2 := 0) (c3 := 0) (by simp)
      have lr := HM.out.lt (b := (w.heap.size + 1 + 1 + 1)) (c0 := 0) (c1 := 0) (c2 := 0) (c3 := 0) (by simp)
      have x0 := kr.c0; have x1 := kr.c1; have x2 := kr.c2; have x3 := kr.c3; have xf := kr.fr
      clear kr
      refine till_step (i := 11) (by kernel_rfl) rfl (fun K hK => ?_)
      go_simp
      refine hK.out _ _ (Or.inl rfl) (fun _ => ?_)
      clear hK K
      refine till_done (by kernel_rfl) ?_
      go_wp2_with fail
      go_meet
      refine ⟨(w.heap.size + 1 + 1 + 1), p0, p1, p2, p3, rfl, hp, HVp, hg, Lib.hid ?_⟩
      exact HM.out.put p0 p1 p2 p3 (by omega) (by intro r hr; simp at hr; rcases hr with rfl | rfl | rfl <;> simp <;> omega)
  case rest =>
    obtain ⟨g', p0, p1, p2, p3, rfl, hp, HVp, hg, HM⟩ := hcut
    clear k0 k1 k2 k3 e1 bT1
    have kr := HM.out.row (b := w.heap.size) (c0 := a0) (c1 := a1) (c2 := a2) (c3 := a3) (by simp)
    have x0 := kr.c0; have x1 := kr.c1; have x2 := kr.c2; have x3 := kr.c3
    clear kr
    have xl := HM.out.lt (b := w.heap.size) (c0 := a0) (c1 := a1) (c2 := a2) (c3 := a3) (by simp)
    have kr := HM.out.row (b := g') (c0 := p0) (c1 := p1) (c2 := p2) (c3 := p3) (by simp)
    have y0 := kr.c0; have y1 := kr.c1; have y2 := kr.c2; have y3 := kr.c3
    clear kr
    have yl := HM.out.lt (b := g') (c0 := p0) (c1 := p1) (c2 := p2) (c3 := p3) (by simp)
    go_wp2_with fail
    refine (times_calls F HF.out b a0 a1 a2 a3 p0 p1 p2 p3 (by assumption) (by assumption) (by rw [HVp.out]; exact kp_lt HF.out _) _ (HK.out.same HM.out.1)).mono ?_
    rintro e w3 ⟨q0, q1, q2, q3, rfl, hq, hv, hbl⟩
    have HVq := Lib.hid (show val4 q0 q1 q2 q3 = kp F (A * A ^ H) by rw [hv, HA.out, HVp.out, kp_times HF.out, kp_mod])
    have MM := HM.out.on hbl
    clear HM hv hbl x0 x1 x2 x3 xl y0 y1 y2 y3 yl
    have HM := Lib.hid (MM.new w3.heap.size q0 q1 q2 q3 113 rfl)
    have hg3 : w.heap.size + 1 + 1 < w3.heap.size := MM.lt (b := w.heap.size + 1 + 1) (c0 := 0) (c1 := 0) (c2 := 0) (c3 := 0) (by simp)
    clear MM
    have kr := HM.out.row (b := w3.heap.size) (c0 := q0) (c1 := q1) (c2 := q2) (c3 := q3) (by simp)
    have x0 := kr.c0; have x1 := kr.c1; have x2 := kr.c2; have x3 := kr.c3
    clear kr
    have xl := HM.out.lt (b := w3.heap.size) (c0 := q0) (c1 := q1) (c2 := q2) (c3 := q3) (by simp)
    have kr := HM.out.row (b := g') (c0 := p0) (c1 := p1) (c2 := p2) (c3 := p3) (by simp)
    have y0 := kr.c0; have y1 := kr.c1; have y2 := kr.c2; have y3 := kr.c3
    clear kr
    have yl := HM.out.lt (b := g') (c0 := p0) (c1 := p1) (c2 := p2) (c3 := p3) (by simp)
    go_wp2_with fail
    refine (times_calls F HF.out b q0 q1 q2 q3 p0 p1 p2 p3 (by assumption) (by assumption) (by rw [HVp.out]; exact kp_lt HF.out _) _ (HK.out.same HM.out.1)).mono ?_
    rintro e w4 ⟨s0, s1, s2, s3, rfl, hs, hv, hbl⟩
    have HVs := Lib.hid (show val4 s0 s1 s2 s3 = kp F (A * A ^ H * A ^ H) by rw [hv, HVq.out, HVp.out, kp_times HF.out, kp_mod])
    have MM := HM.out.on hbl
    clear HM hv hbl x0 x1 x2 x3 xl y0 y1 y2 y3 yl
    have HM := Lib.hid (MM.new w4.heap.size s0 s1 s2 s3 113 rfl)
    clear MM
    go_wp2_with fail
    refine wp_loop_rounds 1 ?_
    rw [rounds_succ]
    have kr := HM.out.row (b := w4.heap.size) (c0 := s0) (c1 := s1) (c2 := s2) (c3 := s3) (by simp)
    have x0 := kr.c0; have x1 := kr.c1; have x2 := kr.c2; have x3 := kr.c3
    clear kr
    have xl := HM.out.lt (b := w4.heap.size) (c0 := s0) (c1 := s1) (c2 := s2) (c3 := s3) (by simp)
    go_wp2_with fail
    refine (logOrder_calls F HF.out (A * A ^ H * A ^ H) b s0 s1 s2 s3 T hs HVs.out (by omega) _ (HK.out.same HM.out.1)).mono ?_
    rintro e w5 ⟨o, rfl, ho, hmin, hone, hbl⟩
    obtain rfl : o = T := by
      rcases Nat.lt_or_ge o T with q | q
      · exact absurd (one_up (by have := HF.out.gt; omega) (by omega) (hone q)) HI.out
      · omega
    have HM5 := Lib.hid (HM.out.on hbl)
    clear HM hbl hmin hone ho x0 x1 x2 x3 xl
    have HM := HM5
    clear HM5
    have t0 : ((o : Int) == 0) = false := by simp; omega
    have kr := HM.out.row (b := w.heap.size + 1 + 1) (c0 := 0) (c1 := 0) (c2 := 0) (c3 := 0) (by simp)
    have y0 := kr.c0; have y1 := kr.c1; have y2 := kr.c2; have y3 := kr.c3; have yf := kr.fr
    clear kr
    have yl := HM.out.lt (b := w.heap.size + 1 + 1) (c0 := 0) (c1 := 0) (c2 := 0) (c3 := 0) (by simp)
    go_wp2_with fail
    refine bodyPost_ret (v := .tuple #[.agg #[.int .u64 0, .int .u64 0, .int .u64 0, .int .u64 0], .bool false]) (by simp [results, Try.results88, go_sem, *]) rfl ?_
    refine ⟨rfl, ?_⟩
    exact below_set4 HM.out.1 (by omega) 0 0 0 0
end Go.Proofs.Ytebaoemoeckgaaa
