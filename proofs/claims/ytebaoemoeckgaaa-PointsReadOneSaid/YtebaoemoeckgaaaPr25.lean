/-
  The reference's bit, Of and Exp, for either field: the power of an element. Conditions: words below 2^64.
  The reference's Lower, half, Legendre and Inv, for either field. Conditions: words below 2^64.
-/
import Derived.Test.YtebaoemoeckgaaaPr24
import Derived.Test.YtebaoemoeckgaaaPr01
import Derived.Test.YtebaoemoeckgaaaPr19
namespace Go.Proofs.Ytebaoemoeckgaaa
set_option linter.unusedVariables false
set_option linter.unusedSimpArgs false
open Go.RowKit

set_option maxRecDepth 20000 in
set_option maxHeartbeats 1000000 in
theorem rof_calls (n : Nat) (w : World) : Calls Try.prog 91 #[.int .u64 n] w fun e w' => e = .returned (.agg #[.int .u64 n, .int .u64 0, .int .u64 0, .int .u64 0]) ∧ Below w.heap.size w w' := by
  go_enter Try.func91, Try.ntmps91
  go_wp2_with fail
  refine bodyPost_ret (v := .agg #[.int .u64 n, .int .u64 0, .int .u64 0, .int .u64 0]) (by simp [results, Try.results91, go_sem]) rfl ?_
  refine ⟨rfl, ?_⟩
  repeat (first | exact Below.refl _ _ | refine Below.drew ?_ | refine Below.alloc ?_ (by first | (simp; done) | (simp; omega)) _ | refine Below.setCell ?_ (by simp) _)
set_option maxRecDepth 20000 in
set_option maxHeartbeats 1000000 in
theorem rbit_calls (a0 a1 a2 a3 i : Nat) (ha : ok4 a0 a1 a2 a3) (hi : i < 256) (w : World) :
    Calls Try.prog 92 #[.agg #[.int .u64 a0, .int .u64 a1, .int .u64 a2, .int .u64 a3], .int .i64 i] w (fun e w' => e = .returned (.bool (decide (bitOf (val4 a0 a1 a2 a3) i = 1))) ∧ Below w.heap.size w w') := by
  obtain ⟨j, k, q, r, hj, hk, e⟩ := ex_ix hi
  have hc := new_cell w 45 a0 a1 a2 a3 j hj
  have hx := fn4_lt ha j
  obtain ⟨s, e1, e2, hs⟩ := ex_bit hx (bit_fn ha hj hk e.out)
  have hb := bitOf_01 (val4 a0 a1 a2 a3) i
  generalize bitOf (val4 a0 a1 a2 a3) i = b at *
  generalize fnOf [a0, a1, a2, a3] j = x at *
  have hb' : b ≤ 1 := by omega
  clear e
  go_enter Try.func92, Try.ntmps92
  rcases hb with rfl | rfl
  · go_wp2_with fail
    go_ret
    exact ⟨rfl, (Below.refl _ _).alloc (Nat.le_refl _) _⟩
  · go_wp2_with fail
    go_ret
    exact ⟨rfl, (Below.refl _ _).alloc (Nat.le_refl _) _⟩

theorem rpow0 {M A N i : Nat} (hb : bitOf N i = 0) : A ^ (N / 2 ^ (i + 1)) % M * (A ^ (N / 2 ^ (i + 1)) % M) % M = A ^ (N / 2 ^ i) % M := by
  rw [← Nat.mul_mod, ← Nat.pow_add, bit_step N i, hb]
  congr 2
  omega
theorem rpow1 {M A N i : Nat} (hb : bitOf N i = 1) : A ^ (N / 2 ^ (i + 1)) % M * (A ^ (N / 2 ^ (i + 1)) % M) % M * A % M = A ^ (N / 2 ^ i) % M := by
  rw [← Nat.mul_mod, ← Nat.pow_add, bit_step N i, hb, Nat.mod_mul_mod, ← Nat.pow_succ]
  congr 2
  omega

set_option maxRecDepth 100000 in
set_option maxHeartbeats 4000000 in
theorem rexp_calls (f : Int) (F : FC) (hf : FieldIs f F) (a0 a1 a2 a3 n0 n1 n2 n3 : Nat) (ha : ok4 a0 a1 a2 a3) (hn : ok4 n0 n1 n2 n3) (w : World) :
    Calls Try.prog 65 #[.int .i64 f, .agg #[.int .u64 a0, .int .u64 a1, .int .u64 a2, .int .u64 a3], .agg #[.int .u64 n0, .int .u64 n1, .int .u64 n2, .int .u64 n3]] w (FePost (val4 a0 a1 a2 a3 ^ val4 n0 n1 n2 n3 % F.M) w) := by
  have h2 := hf.ok.gt
  go_enter Try.func65, Try.ntmps65
  go_wp2_with fail
  have M0 := ((((Mem.nil w).new w.heap.size a0 a1 a2 a3 24 rfl).new (w.heap.size + 1) n0 n1 n2 n3 45 (by simp)).new (w.heap.size + 1 + 1) 0 0 0 0 24 (by simp))
  refine (rof_calls 1 _).mono ?_
  rintro e w1 ⟨rfl, hbl⟩
  have M1 := M0.on hbl
  have hz1 : w.heap.size + 1 + 1 < w1.heap.size := M1.lt (c0 := 0) (c1 := 0) (c2 := 0) (c3 := 0) (by simp)
  have M2 := Lib.hid (M1.new w1.heap.size 1 0 0 0 24 rfl)
  clear hbl M0 M1
  go_wp2_with fail
  go_loopw [8] (fun t wr => ∃ (j r0 r1 r2 r3 : Nat) (m : Int), j ≤ 256 ∧ Hid (m = (j : Int) - 1) ∧ t = .int .i64 m ∧ ok4 r0 r1 r2 r3 ∧ Hid (val4 r0 r1 r2 r3 = val4 a0 a1 a2 a3 ^ (val4 n0 n1 n2 n3 / 2 ^ j) % F.M) ∧ Hid (Mem w wr [(w1.heap.size, r0, r1, r2, r3), (w.heap.size + 1 + 1, 0, 0, 0, 0), (w.heap.size + 1, n0, n1, n2, n3), (w.heap.size, a0, a1, a2, a3)])) (fun t _ => (intOf t + 1).toNat)
  case atStart =>
    refine ⟨256, 1, 0, 0, 0, 255, Nat.le_refl _, Lib.hid (by omega), rfl, (show ok4 1 0 0 0 by unfold ok4; decide), Lib.hid ?_, M2⟩
    rw [Nat.div_eq_of_lt (show val4 n0 n1 n2 n3 < 2 ^ 256 from val4_lt hn), Nat.pow_zero, Nat.mod_eq_of_lt (by omega)]
    rfl
  case round =>
    obtain ⟨j, r0, r1, r2, r3, m, hj, hm, rfl, hr, HV, HM⟩ := hrel
    by_cases hlt : 0 < j
    · obtain ⟨i, hi⟩ : ∃ i, j = i + 1 := ⟨j - 1, by omega⟩
      subst hi
      obtain rfl : m = (i : Int) := by have := hm.out; omega
      have Rr := HM.out.row (b := w1.heap.size) (c0 := r0) (c1 := r1) (c2 := r2) (c3 := r3) (by simp)
      have x0 := Rr.c0; have x1 := Rr.c1; have x2 := Rr.c2; have x3 := Rr.c3
      have ltr := HM.out.lt (b := w1.heap.size) (c0 := r0) (c1 := r1) (c2 := r2) (c3 := r3) (by simp)
      clear Rr hm
      go_wp2_with fail
      refine (rmul_calls f F hf r0 r1 r2 r3 r0 r1 r2 r3 hr hr _).mono ?_
      rintro e w3 ⟨p0, p1, p2, p3, rfl, hp, hv, hbl⟩
      have HP := Lib.hid (show val4 p0 p1 p2 p3 = _ by rw [hv, HV.out])
      have M4 := HM.out.on hbl
      have lt4 := M4.lt (b := w1.heap.size) (c0 := r0) (c1 := r1) (c2 := r2) (c3 := r3) (by simp)
      have Rr := M4.row (b := w1.heap.size) (c0 := r0) (c1 := r1) (c2 := r2) (c3 := r3) (by simp)
      have Rn := M4.row (b := w.heap.size + 1) (c0 := n0) (c1 := n1) (c2 := n2) (c3 := n3) (by simp)
      have M5 := Lib.hid (M4.put p0 p1 p2 p3 (by omega) (by intro r hr; simp at hr; rcases hr with rfl | rfl | rfl <;> simp <;> omega))
      clear x0 x1 x2 x3 hv hbl M4
      have x0 := Rr.c0; have x1 := Rr.c1; have x2 := Rr.c2; have x3 := Rr.c3; have xf := Rr.fr
      have y0 := Rn.c0; have y1 := Rn.c1; have y2 := Rn.c2; have y3 := Rn.c3
      have ne1 : ¬ w.heap.size + 1 = w1.heap.size := by omega
      have ne1' : ¬ w1.heap.size = w.heap.size + 1 := by omega
      have hi256 : i < 256 := by omega
      clear Rr Rn
      go_wp2_with fail
      refine (rbit_calls n0 n1 n2 n3 i hn hi256 _).mono ?_
      rintro e w4 ⟨he, hbl⟩
      have M5' := M5.out
      unfold set4 at M5'
      have M6 := M5'.on hbl
      clear hbl M5' x0 x1 x2 x3 xf y0 y1 y2 y3
      have lt6 := M6.lt (b := w1.heap.size) (c0 := p0) (c1 := p1) (c2 := p2) (c3 := p3) (by simp)
      rcases bitOf_01 (val4 n0 n1 n2 n3) i with hb | hb
      · rw [hb, show decide (0 = 1) = false from rfl] at he
        subst he
        have HS := Lib.hid (show val4 p0 p1 p2 p3 = val4 a0 a1 a2 a3 ^ (val4 n0 n1 n2 n3 / 2 ^ i) % F.M by rw [HP.out]; exact rpow0 hb)
        have M7 := Lib.hid M6
        clear hb M6
        go_wp2_with fail
        go_roundw
        case rel => exact ⟨i, p0, p1, p2, p3, (i : Int) - 1, by omega, Lib.hid rfl, by first | rfl | go_num, hp, HS, M7⟩
        case measure => first | (simp [intOf]; done) | (simp [intOf]; omega)
      · rw [hb, show decide (1 = 1) = true from rfl] at he
        subst he
        have Rr := M6.row (b := w1.heap.size) (c0 := p0) (c1 := p1) (c2 := p2) (c3 := p3) (by simp)
        have Ra := M6.row (b := w.heap.size) (c0 := a0) (c1 := a1) (c2 := a2) (c3 := a3) (by simp)
        have x0 := Rr.c0; have x1 := Rr.c1; have x2 := Rr.c2; have x3 := Rr.c3
        have z0 := Ra.c0; have z1 := Ra.c1; have z2 := Ra.c2; have z3 := Ra.c3
        have HB := Lib.hid hb
        have M7 := Lib.hid M6
        clear hb M6 Rr Ra
        go_wp2_with fail
        refine (rmul_calls f F hf p0 p1 p2 p3 a0 a1 a2 a3 hp ha _).mono ?_
        rintro e w5 ⟨q0, q1, q2, q3, rfl, hq, hv, hbl⟩
        have HS := Lib.hid (show val4 q0 q1 q2 q3 = val4 a0 a1 a2 a3 ^ (val4 n0 n1 n2 n3 / 2 ^ i) % F.M by rw [hv, HP.out]; exact rpow1 HB.out)
        have M8 := M7.out.on hbl
        have lt8 := M8.lt (b := w1.heap.size) (c0 := p0) (c1 := p1) (c2 := p2) (c3 := p3) (by simp)
        have Rr := M8.row (b := w1.heap.size) (c0 := p0) (c1 := p1) (c2 := p2) (c3 := p3) (by simp)
        have M9 := Lib.hid (M8.put q0 q1 q2 q3 (by omega) (by intro r hr; simp at hr; rcases hr with rfl | rfl | rfl <;> simp <;> omega))
        clear x0 x1 x2 x3 z0 z1 z2 z3 hv hbl M8
        have x0 := Rr.c0; have x1 := Rr.c1; have x2 := Rr.c2; have x3 := Rr.c3; have xf := Rr.fr
        clear Rr
        go_wp2_with fail
        go_roundw
        case rel => exact ⟨i, q0, q1, q2, q3, (i : Int) - 1, by omega, Lib.hid rfl, by first | rfl | go_num, hq, HS, M9⟩
        case measure => first | (simp [intOf]; done) | (simp [intOf]; omega)
    · obtain rfl : j = 0 := by omega
      obtain rfl : m = -1 := by have := hm.out; omega
      have Rr := HM.out.row (b := w1.heap.size) (c0 := r0) (c1 := r1) (c2 := r2) (c3 := r3) (by simp)
      have x0 := Rr.c0; have x1 := Rr.c1; have x2 := Rr.c2; have x3 := Rr.c3
      have Ro := HM.out.row (b := w.heap.size + 1 + 1) (c0 := 0) (c1 := 0) (c2 := 0) (c3 := 0) (by simp)
      have o0 := Ro.c0; have o1 := Ro.c1; have o2 := Ro.c2; have o3 := Ro.c3; have of := Ro.fr
      have ltr := HM.out.lt (b := w1.heap.size) (c0 := r0) (c1 := r1) (c2 := r2) (c3 := r3) (by simp)
      have lto := HM.out.lt (b := w.heap.size + 1 + 1) (c0 := 0) (c1 := 0) (c2 := 0) (c3 := 0) (by simp)
      clear Rr Ro hm
      go_wp2_with fail
      refine bodyPost_ret (v := .agg #[.int .u64 r0, .int .u64 r1, .int .u64 r2, .int .u64 r3]) (by simp [results, Try.results65, go_sem, *]) rfl ?_
      refine ⟨_, _, _, _, rfl, hr, by rw [HV.out, Nat.pow_zero, Nat.div_one], ?_⟩
      exact below_set4 HM.out.1 (by omega) _ _ _ _
end Go.Proofs.Ytebaoemoeckgaaa
namespace Go.Proofs.Ytebaoemoeckgaaa
set_option linter.unusedVariables false
set_option linter.unusedSimpArgs false
open Go.RowKit

set_option maxRecDepth 100000 in
set_option maxHeartbeats 2000000 in
theorem rlower_calls (f : Int) (F : FC) (hf : FieldIs f F) (a0 a1 a2 a3 : Nat) (ha : ok4 a0 a1 a2 a3) (la : val4 a0 a1 a2 a3 < F.M) (w : World) :
    Calls Try.prog 67 #[.int .i64 f, .agg #[.int .u64 a0, .int .u64 a1, .int .u64 a2, .int .u64 a3]] w (fun e w' => e = .returned (.bool (lowB F.M (val4 a0 a1 a2 a3))) ∧ Below w.heap.size w w') := by
  go_enter Try.func67, Try.ntmps67
  go_wp2_with fail
  have HM := Lib.hid ((Mem.nil w).new (w.heap.size) a0 a1 a2 a3 24 (by simp))
  refine region_till (fun wx => Mem w wx [(w.heap.size, a0, a1, a2, a3)]) 6 (by kernel_rfl) ?_
  have HM' := Lib.hid (HM.out.drewN 1)
  clear HM
  have HM := HM'
  clear HM'
  have HS := HM.out.sub (rs' := [(w.heap.size, a0, a1, a2, a3)]) (by simp)
  refine till_take (i := 0) (v := .agg #[.int .u64 a0, .int .u64 a1, .int .u64 a2, .int .u64 a3]) rfl (by kernel_rfl) (by kernel_rfl) (by kernel_rfl) (by kernel_rfl) (fun _ _ _ h => h) HS (Or.inl ⟨by kernel_rfl, fun wx hx => ?_⟩) ?_
  · have kr := hx.row (b := w.heap.size) (c0 := a0) (c1 := a1) (c2 := a2) (c3 := a3) (by simp)
    have x0 := kr.c0; have x1 := kr.c1; have x2 := kr.c2; have x3 := kr.c3
    clear kr HS hx
    go_simp
  simp only [Act.put, List.setIfInBounds_toArray, List.set_cons_zero, List.set_cons_succ]
  refine till_take (i := 1) (v := .int .i64 f) rfl (by kernel_rfl) (by kernel_rfl) (by kernel_rfl) (by kernel_rfl) (fun _ _ _ h => h) HS (Or.inl ⟨by kernel_rfl, fun wx hx => ?_⟩) ?_
  · clear HS hx
    go_simp
  simp only [Act.put, List.setIfInBounds_toArray, List.set_cons_zero, List.set_cons_succ]
  refine till_take (i := 2) (v := .agg #[.int .u64 a0, .int .u64 a1, .int .u64 a2, .int .u64 a3]) rfl (by kernel_rfl) (by kernel_rfl) (by kernel_rfl) (by kernel_rfl) (fun _ _ _ h => h) HS (Or.inl ⟨by kernel_rfl, fun wx hx => ?_⟩) ?_
  · have kr := hx.row (b := w.heap.size) (c0 := a0) (c1 := a1) (c2 := a2) (c3 := a3) (by simp)
    have x0 := kr.c0; have x1 := kr.c1; have x2 := kr.c2; have x3 := kr.c3
    clear kr HS hx
    go_simp
  simp only [Act.put, List.setIfInBounds_toArray, List.set_cons_zero, List.set_cons_succ]
  clear HS
  refine till_step (i := 3) (by kernel_rfl) rfl (fun K hK => ?_)
  go_simp
  refine (rneg_calls f F hf a0 a1 a2 a3 ha _).mono ?_
  rintro e w1 ⟨n0, n1, n2, n3, rfl, hn, hv, hbl⟩
  have HVn := Lib.hid hv
  clear hv
  have HM' := Lib.hid (HM.out.on hbl)
  clear HM hbl
  have HM := HM'
  clear HM'
  have HS := HM.out.sub (rs' := [(w.heap.size, a0, a1, a2, a3)]) (by simp)
  refine hK.out _ _ (Or.inr HS) (fun _ => ?_)
  clear hK K
  clear HS
  refine till_step (i := 4) (by kernel_rfl) rfl (fun K hK => ?_)
  go_simp
  refine (refCmp_calls a0 a1 a2 a3 n0 n1 n2 n3 ha hn _).mono ?_
  rintro e w2 ⟨he, hbl⟩
  have HC := Lib.hid (show decide (cmpN (val4 a0 a1 a2 a3) (val4 n0 n1 n2 n3) ≤ 0) = lowB F.M (val4 a0 a1 a2 a3) by
    rw [HVn.out, ← lowB_of, Nat.mod_eq_of_lt la, Nat.zero_add])
  generalize cmpN (val4 a0 a1 a2 a3) (val4 n0 n1 n2 n3) = cc at *
  subst he
  have HM' := Lib.hid (HM.out.on hbl)
  clear HM hbl
  have HM := HM'
  clear HM'
  have HS := HM.out.sub (rs' := [(w.heap.size, a0, a1, a2, a3)]) (by simp)
  refine hK.out _ _ (Or.inr HS) (fun _ => ?_)
  clear hK K
  refine till_take (i := 5) (v := .bool (decide (cc ≤ 0))) rfl (by kernel_rfl) (by kernel_rfl) (by kernel_rfl) (by kernel_rfl) (fun _ _ _ h => h) HS (Or.inl ⟨by kernel_rfl, fun wx hx => ?_⟩) ?_
  · clear HS hx
    go_simp
  simp only [Act.put, List.setIfInBounds_toArray, List.set_cons_zero, List.set_cons_succ]
  clear HS
  refine till_step (i := 6) (by kernel_rfl) rfl (fun K hK => ?_)
  go_simp
  refine hK.out _ _ (Or.inl rfl) (fun _ => ?_)
  clear hK K
  refine till_done (by kernel_rfl) ?_
  go_wp2_with fail
  go_ret
  exact ⟨by rw [← HC.out]; rfl, HM.out.1⟩
theorem halfP_val : ok4 11389680472494603939 14681934109093717318 15863968012492123182 1743499133401485332 ∧ val4 11389680472494603939 14681934109093717318 15863968012492123182 1743499133401485332 = FP.M / 2 := ⟨by unfold ok4; decide, by kernel_rfl⟩
set_option maxRecDepth 100000 in
set_option maxHeartbeats 2000000 in
theorem halfP_calls (w : World) : Calls Try.prog 90 #[.int .i64 1] w (fun e w' => e = .returned (.agg #[.int .u64 11389680472494603939, .int .u64 14681934109093717318, .int .u64 15863968012492123182, .int .u64 1743499133401485332]) ∧ Below w.heap.size w w') := by
  go_enter Try.func90, Try.ntmps90
  go_wp2_with fail
  refine (rmod_some 1 FP (by unfold FieldIs; simp) _).mono ?_
  rintro e w1 ⟨rfl, hbl⟩
  have HM := Lib.hid (((Mem.nil w).new w.heap.size 0 0 0 0 45 rfl).on hbl)
  have kr := HM.out.row (b := w.heap.size) (c0 := 0) (c1 := 0) (c2 := 0) (c3 := 0) (by simp)
  have o0 := kr.c0; have o1 := kr.c1; have o2 := kr.c2; have o3 := kr.c3; have of := kr.fr
  have lto := HM.out.lt (b := w.heap.size) (c0 := 0) (c1 := 0) (c2 := 0) (c3 := 0) (by simp)
  clear kr hbl
  have b0 : bits .or .u64 2166308435639828131 (IntKind.u64.wrap 100692697557049423688002991953404755968) = 11389680472494603939 := by kernel_rfl
  have b1 : bits .or .u64 5458562072238941510 (IntKind.u64.wrap 122497374459487735683716562798029832192) = 14681934109093717318 := by kernel_rfl
  have b2 : bits .or .u64 6640595975637347374 (IntKind.u64.wrap 32161882306591588514290432766975672320) = 15863968012492123182 := by kernel_rfl
  simp only [FP]
  go_wp2_with fail
  refine wp_loop_rounds 6 ?_
  rw [rounds_succ]
  go_wp2_with fail
  go_region
  go_wp2_with fail
  rw [rounds_succ]
  go_wp2_with fail
  go_region
  go_wp2_with fail
  rw [rounds_succ]
  go_wp2_with fail
  go_region
  go_wp2_with fail
  rw [rounds_succ]
  go_wp2_with fail
  rw [rounds_succ]
  go_wp2_with fail
  refine bodyPost_ret (v := .agg #[.int .u64 11389680472494603939, .int .u64 14681934109093717318, .int .u64 15863968012492123182, .int .u64 1743499133401485332]) (by simp [results, Try.results90, go_sem, *]) rfl ?_
  refine ⟨rfl, ?_⟩
  have hb := HM.out.1
  repeat (first | exact hb | refine Below.drew ?_ | refine Below.alloc ?_ (by first | (simp; done) | (simp; omega)) _ | refine Below.setCell ?_ (by simp) _)
theorem halfR_val : ok4 11669102379873075200 10671829228508198984 15863968012492123182 1743499133401485332 ∧ val4 11669102379873075200 10671829228508198984 15863968012492123182 1743499133401485332 = FR.M / 2 := ⟨by unfold ok4; decide, by kernel_rfl⟩
set_option maxRecDepth 100000 in
set_option maxHeartbeats 2000000 in
theorem halfR_calls (w : World) : Calls Try.prog 90 #[.int .i64 2] w (fun e w' => e = .returned (.agg #[.int .u64 11669102379873075200, .int .u64 10671829228508198984, .int .u64 15863968012492123182, .int .u64 1743499133401485332]) ∧ Below w.heap.size w w') := by
  go_enter Try.func90, Try.ntmps90
  go_wp2_with fail
  refine (rmod_some 2 FR (by unfold FieldIs; simp) _).mono ?_
  rintro e w1 ⟨rfl, hbl⟩
  have HM := Lib.hid (((Mem.nil w).new w.heap.size 0 0 0 0 45 rfl).on hbl)
  have kr := HM.out.row (b := w.heap.size) (c0 := 0) (c1 := 0) (c2 := 0) (c3 := 0) (by simp)
  have o0 := kr.c0; have o1 := kr.c1; have o2 := kr.c2; have o3 := kr.c3; have of := kr.fr
  have lto := HM.out.lt (b := w.heap.size) (c0 := 0) (c1 := 0) (c2 := 0) (c3 := 0) (by simp)
  clear kr hbl
  have b0 : bits .or .u64 2445730343018299392 (IntKind.u64.wrap 26719319116154764192306716011317428224) = 11669102379873075200 := by kernel_rfl
  have b1 : bits .or .u64 1448457191653423176 (IntKind.u64.wrap 122497374459487735683716562798029832192) = 10671829228508198984 := by kernel_rfl
  have b2 : bits .or .u64 6640595975637347374 (IntKind.u64.wrap 32161882306591588514290432766975672320) = 15863968012492123182 := by kernel_rfl
  simp only [FR]
  go_wp2_with fail
  refine wp_loop_rounds 6 ?_
  rw [rounds_succ]
  go_wp2_with fail
  go_region
  go_wp2_with fail
  rw [rounds_succ]
  go_wp2_with fail
  go_region
  go_wp2_with fail
  rw [rounds_succ]
  go_wp2_with fail
  go_region
  go_wp2_with fail
  rw [rounds_succ]
  go_wp2_with fail
  rw [rounds_succ]
  go_wp2_with fail
  refine bodyPost_ret (v := .agg #[.int .u64 11669102379873075200, .int .u64 10671829228508198984, .int .u64 15863968012492123182, .int .u64 1743499133401485332]) (by simp [results, Try.results90, go_sem, *]) rfl ?_
  refine ⟨rfl, ?_⟩
  have hb := HM.out.1
  repeat (first | exact hb | refine Below.drew ?_ | refine Below.alloc ?_ (by first | (simp; done) | (simp; omega)) _ | refine Below.setCell ?_ (by simp) _)
set_option maxRecDepth 100000 in
set_option maxHeartbeats 2000000 in
theorem rhalf_calls (f : Int) (F : FC) (hf : FieldIs f F) (w : World) : Calls Try.prog 90 #[.int .i64 f] w (FePost (F.M / 2) w) := by
  rcases hf with ⟨rfl, rfl⟩ | ⟨rfl, rfl⟩
  · refine (halfP_calls w).mono ?_
    rintro e w' ⟨he, hb⟩
    exact ⟨_, _, _, _, he, halfP_val.1, halfP_val.2, hb⟩
  · refine (halfR_calls w).mono ?_
    rintro e w' ⟨he, hb⟩
    exact ⟨_, _, _, _, he, halfR_val.1, halfR_val.2, hb⟩
/-- Legendre's answer -/
def legV (M A : Nat) : Int := if A ^ (M / 2) % M = 0 then 0 else if A ^ (M / 2) % M = 1 then 1 else -1
theorem eqF_not_one {s0 s1 s2 s3 : Nat} (hs : ok4 s0 s1 s2 s3) (h : val4 s0 s1 s2 s3 ≠ 1) (w : World) : (Op.equalIn 10000 24 (.agg #[.int .u64 s0, .int .u64 s1, .int .u64 s2, .int .u64 s3]) (.agg #[.int .u64 1, .int .u64 0, .int .u64 0, .int .u64 0])).run Try.prog w = .ok false w := eqF_no hs (show ok4 1 0 0 0 by unfold ok4; decide) (fun q => h (q.trans rfl)) w
set_option maxRecDepth 100000 in
set_option maxHeartbeats 2000000 in
theorem rleg_calls (f : Int) (F : FC) (hf : FieldIs f F) (a0 a1 a2 a3 : Nat) (ha : ok4 a0 a1 a2 a3) (w : World) :
    Calls Try.prog 64 #[.int .i64 f, .agg #[.int .u64 a0, .int .u64 a1, .int .u64 a2, .int .u64 a3]] w (fun e w' => e = .returned (.int .i64 (legV F.M (val4 a0 a1 a2 a3))) ∧ Below w.heap.size w w') := by
  have hG := eqGuardF
  go_enter Try.func64, Try.ntmps64
  go_upto_region 1 with fail
  have HM := Lib.hid ((Mem.nil w).new (w.heap.size) a0 a1 a2 a3 24 (by simp))
  go_cut [5] (fun s5 wx => ∃ gb s0 s1 s2 s3 : Nat, s5 = .pointer (some ⟨gb, 0, none⟩) ∧ ok4 s0 s1 s2 s3 ∧ Hid (val4 s0 s1 s2 s3 = val4 a0 a1 a2 a3 ^ (F.M / 2) % F.M) ∧ Hid (Mem w wx [(gb, s0, s1, s2, s3)]))
  case first =>
    refine region_till (fun wx => Mem w wx [(w.heap.size, a0, a1, a2, a3)]) 6 (by kernel_rfl) ?_
    have HM' := Lib.hid (HM.out.drewN 1)
    clear HM
    have HM := HM'
    clear HM'
    have HS := HM.out.sub (rs' := [(w.heap.size, a0, a1, a2, a3)]) (by simp)
    refine till_take (i := 0) (v := .int .i64 f) rfl (by kernel_rfl) (by kernel_rfl) (by kernel_rfl) (by kernel_rfl) (fun _ _ _ h => h) HS (Or.inl ⟨by kernel_rfl, fun wx hx => ?_⟩) ?_
    · clear HS hx
      go_simp
    simp only [Act.put, List.setIfInBounds_toArray, List.set_cons_zero, List.set_cons_succ]
    refine till_take (i := 1) (v := .agg #[.int .u64 a0, .int .u64 a1, .int .u64 a2, .int .u64 a3]) rfl (by kernel_rfl) (by kernel_rfl) (by kernel_rfl) (by kernel_rfl) (fun _ _ _ h => h) HS (Or.inl ⟨by kernel_rfl, fun wx hx => ?_⟩) ?_
    · have kr := hx.row (b := w.heap.size) (c0 := a0) (c1 := a1) (c2 := a2) (c3 := a3) (by simp)
      have x0 := kr.c0; have x1 := kr.c1; have x2 := kr.c2; have x3 := kr.c3
      clear kr HS hx
      go_simp
    simp only [Act.put, List.setIfInBounds_toArray, List.set_cons_zero, List.set_cons_succ]
    refine till_take (i := 2) (v := .int .i64 f) rfl (by kernel_rfl) (by kernel_rfl) (by kernel_rfl) (by kernel_rfl) (fun _ _ _ h => h) HS (Or.inl ⟨by kernel_rfl, fun wx hx => ?_⟩) ?_
    · clear HS hx
      go_simp
    simp only [Act.put, List.setIfInBounds_toArray, List.set_cons_zero, List.set_cons_succ]
    clear HS
    refine till_two (i := 3) (j := 5) (by kernel_rfl) rfl rfl (fun K hK => ?_) (fun K hK => ?_)
    · go_simp
      refine (rhalf_calls f F hf _).mono ?_
      rintro e v1 ⟨n0, n1, n2, n3, rfl, hn, hv, hbl⟩
      have HVn := Lib.hid hv
      clear hv
      have HM' := Lib.hid (HM.out.on hbl)
      clear HM hbl
      have HM := HM'
      clear HM'
      have HS := HM.out.sub (rs' := [(w.heap.size, a0, a1, a2, a3)]) (by simp)
      refine hK.out _ _ (Or.inr HS) (fun _ => ?_)
      clear hK K
      clear HS
      refine till_two (i := 4) (j := 5) (by kernel_rfl) rfl rfl (fun K hK => ?_) (fun K hK => ?_)
      · go_simp
        refine (rexp_calls f F hf a0 a1 a2 a3 n0 n1 n2 n3 ha hn _).mono ?_
        rintro e v2 ⟨s0, s1, s2, s3, rfl, hs, hv, hbl⟩
        have HVs := Lib.hid (show val4 s0 s1 s2 s3 = val4 a0 a1 a2 a3 ^ (F.M / 2) % F.M by rw [hv, HVn.out])
        clear hv
        have HM' := Lib.hid (HM.out.on hbl)
        clear HM hbl
        have HM := HM'
        clear HM'
        have HS := HM.out.sub (rs' := [(w.heap.size, a0, a1, a2, a3)]) (by simp)
        refine hK.out _ _ (Or.inr HS) (fun _ => ?_)
        clear hK K
        clear HS
        refine till_step (i := 5) (by kernel_rfl) rfl (fun K hK => ?_)
        go_simp
        have HM9 := HM
        have hgb : w.heap.size ≤ (v2.heap.size) := by first | exact HM.out.1.size | (have := HM.out.1.size; simp at this; omega) | omega
        have hgl0 : w.heap.size < (v2.heap.size) := by first | exact HM.out.lt (b := w.heap.size) (c0 := a0) (c1 := a1) (c2 := a2) (c3 := a3) (by simp) | (have := HM.out.lt (b := w.heap.size) (c0 := a0) (c1 := a1) (c2 := a2) (c3 := a3) (by simp); simp at this; omega) | omega
        have HM' := Lib.hid (HM.out.new (v2.heap.size) 0 0 0 0 24 (by first | rfl | (simp; done)))
        clear HM
        have HM := HM'
        clear HM'
        have HS := HM.out.sub (rs' := [(w.heap.size, a0, a1, a2, a3)]) (by simp)
        refine hK.out _ _ (Or.inr HS) (fun _ => ?_)
        clear hK K HS
        have kr := HM.out.row (b := (v2.heap.size)) (c0 := 0) (c1 := 0) (c2 := 0) (c3 := 0) (by simp)
        have yl := HM.out.lt (b := (v2.heap.size)) (c0 := 0) (c1 := 0) (c2 := 0) (c3 := 0) (by simp)
        have y0 := kr.c0; have y1 := kr.c1; have y2 := kr.c2; have y3 := kr.c3; have yf := kr.fr
        clear kr
        refine till_step (i := 6) (by kernel_rfl) rfl (fun K hK => ?_)
        go_simp
        have HM' := Lib.hid (HM9.out.new (v2.heap.size) s0 s1 s2 s3 24 (by first | rfl | (simp; done)))
        clear HM
        have HM := HM'
        clear HM'
        refine hK.out _ _ (Or.inl rfl) (fun _ => ?_)
        clear hK K
        refine till_done (by kernel_rfl) ?_
        go_wp2_with fail
        go_meet
        exact ⟨(v2.heap.size), s0, s1, s2, s3, rfl, hs, HVs, Lib.hid (HM.out.sub (by simp))⟩
      · go_simp
        have HM9 := HM
        have hgb : w.heap.size ≤ (v1.heap.size) := by first | exact HM.out.1.size | (have := HM.out.1.size; simp at this; omega) | omega
        have hgl0 : w.heap.size < (v1.heap.size) := by first | exact HM.out.lt (b := w.heap.size) (c0 := a0) (c1 := a1) (c2 := a2) (c3 := a3) (by simp) | (have := HM.out.lt (b := w.heap.size) (c0 := a0) (c1 := a1) (c2 := a2) (c3 := a3) (by simp); simp at this; omega) | omega
        have HM' := Lib.hid (HM.out.new (v1.heap.size) 0 0 0 0 24 (by first | rfl | (simp; done)))
        clear HM
        have HM := HM'
        clear HM'
        have HS := HM.out.sub (rs' := [(w.heap.size, a0, a1, a2, a3)]) (by simp)
        refine hK.out _ _ (Or.inr HS) (fun _ => ?_)
        clear hK K HS
        refine till_step (i := 4) (by kernel_rfl) rfl (fun K hK => ?_)
        go_simp
        refine (rexp_calls f F hf a0 a1 a2 a3 n0 n1 n2 n3 ha hn _).mono ?_
        rintro e v2 ⟨s0, s1, s2, s3, rfl, hs, hv, hbl⟩
        have HVs := Lib.hid (show val4 s0 s1 s2 s3 = val4 a0 a1 a2 a3 ^ (F.M / 2) % F.M by rw [hv, HVn.out])
        clear hv
        have HM' := Lib.hid (HM.out.on hbl)
        clear HM hbl
        have HM := HM'
        clear HM'
        have HS := HM.out.sub (rs' := [(w.heap.size, a0, a1, a2, a3)]) (by simp)
        refine hK.out _ _ (Or.inr HS) (fun _ => ?_)
        clear hK K
        clear HS
        have kr := HM.out.row (b := (v1.heap.size)) (c0 := 0) (c1 := 0) (c2 := 0) (c3 := 0) (by simp)
        have yl := HM.out.lt (b := (v1.heap.size)) (c0 := 0) (c1 := 0) (c2 := 0) (c3 := 0) (by simp)
        have y0 := kr.c0; have y1 := kr.c1; have y2 := kr.c2; have y3 := kr.c3; have yf := kr.fr
        clear kr
        refine till_step (i := 6) (by kernel_rfl) rfl (fun K hK => ?_)
        go_simp
        have HM' := Lib.hid ((HM.out.sub (rs' := [((v1.heap.size), 0, 0, 0, 0), (w.heap.size, a0, a1, a2, a3)]) (by simp)).put s0 s1 s2 s3 hgb (by intro r hr; simp at hr; subst hr <;> simp <;> omega))
        clear HM
        have HM := HM'
        clear HM'
        refine hK.out _ _ (Or.inl rfl) (fun _ => ?_)
        clear hK K
        refine till_done (by kernel_rfl) ?_
        go_wp2_with fail
        go_meet
        exact ⟨(v1.heap.size), s0, s1, s2, s3, rfl, hs, HVs, Lib.hid (HM.out.sub (by simp))⟩
    · go_simp
      have HM9 := HM
      have hgb : w.heap.size ≤ (w.heap.size + 1) := by first | exact HM.out.1.size | (have := HM.out.1.size; simp at this; omega) | omega
      have hgl0 : w.heap.size < (w.heap.size + 1) := by first | exact HM.out.lt (b := w.heap.size) (c0 := a0) (c1 := a1) (c2 := a2) (c3 := a3) (by simp) | (have := HM.out.lt (b := w.heap.size) (c0 := a0) (c1 := a1) (c2 := a2) (c3 := a3) (by simp); simp at this; omega) | omega
      have HM' := Lib.hid (HM.out.new (w.heap.size + 1) 0 0 0 0 24 (by first | rfl | (simp; done)))
      clear HM
      have HM := HM'
      clear HM'
      have HS := HM.out.sub (rs' := [(w.heap.size, a0, a1, a2, a3)]) (by simp)
      refine hK.out _ _ (Or.inr HS) (fun _ => ?_)
      clear hK K HS
      refine till_step (i := 3) (by kernel_rfl) rfl (fun K hK => ?_)
      go_simp
      refine (rhalf_calls f F hf _).mono ?_
      rintro e v1 ⟨n0, n1, n2, n3, rfl, hn, hv, hbl⟩
      have HVn := Lib.hid hv
      clear hv
      have HM' := Lib.hid (HM.out.on hbl)
      clear HM hbl
      have HM := HM'
      clear HM'
      have HS := HM.out.sub (rs' := [(w.heap.size, a0, a1, a2, a3)]) (by simp)
      refine hK.out _ _ (Or.inr HS) (fun _ => ?_)
      clear hK K
      clear HS
      refine till_step (i := 4) (by kernel_rfl) rfl (fun K hK => ?_)
      go_simp
      refine (rexp_calls f F hf a0 a1 a2 a3 n0 n1 n2 n3 ha hn _).mono ?_
      rintro e v2 ⟨s0, s1, s2, s3, rfl, hs, hv, hbl⟩
      have HVs := Lib.hid (show val4 s0 s1 s2 s3 = val4 a0 a1 a2 a3 ^ (F.M / 2) % F.M by rw [hv, HVn.out])
      clear hv
      have HM' := Lib.hid (HM.out.on hbl)
      clear HM hbl
      have HM := HM'
      clear HM'
      have HS := HM.out.sub (rs' := [(w.heap.size, a0, a1, a2, a3)]) (by simp)
      refine hK.out _ _ (Or.inr HS) (fun _ => ?_)
      clear hK K
      clear HS
      have kr := HM.out.row (b := (w.heap.size + 1)) (c0 := 0) (c1 := 0) (c2 := 0) (c3 := 0) (by simp)
      have yl := HM.out.lt (b := (w.heap.size + 1)) (c0 := 0) (c1 := 0) (c2 := 0) (c3 := 0) (by simp)
      have y0 := kr.c0; have y1 := kr.c1; have y2 := kr.c2; have y3 := kr.c3; have yf := kr.fr
      clear kr
      refine till_step (i := 6) (by kernel_rfl) rfl (fun K hK => ?_)
      go_simp
      have HM' := Lib.hid ((HM.out.sub (rs' := [((w.heap.size + 1), 0, 0, 0, 0), (w.heap.size, a0, a1, a2, a3)]) (by simp)).put s0 s1 s2 s3 hgb (by intro r hr; simp at hr; subst hr <;> simp <;> omega))
      clear HM
      have HM := HM'
      clear HM'
      refine hK.out _ _ (Or.inl rfl) (fun _ => ?_)
      clear hK K
      refine till_done (by kernel_rfl) ?_
      go_wp2_with fail
      go_meet
      exact ⟨(w.heap.size + 1), s0, s1, s2, s3, rfl, hs, HVs, Lib.hid (HM.out.sub (by simp))⟩
  case rest =>
    obtain ⟨gb, s0, s1, s2, s3, rfl, hs, HV, HM⟩ := hcut
    have kr := HM.out.row (b := gb) (c0 := s0) (c1 := s1) (c2 := s2) (c3 := s3) (by simp)
    have x0 := kr.c0; have x1 := kr.c1; have x2 := kr.c2; have x3 := kr.c3
    have xl := HM.out.lt (b := gb) (c0 := s0) (c1 := s1) (c2 := s2) (c3 := s3) (by simp)
    clear kr
    by_cases h0 : val4 s0 s1 s2 s3 = 0
    · have E0 := eqF_zero hs h0
      have HL := Lib.hid (show legV F.M (val4 a0 a1 a2 a3) = 0 by unfold legV; rw [← HV.out, if_pos h0])
      clear h0
      go_wp2_with fail
      go_ret
      exact ⟨by rw [HL.out]; rfl, HM.out.1⟩
    · by_cases h1 : val4 s0 s1 s2 s3 = 1
      · have E0 := eqF_nz hs h0
        have E1 := eqF_one hs h1
        have HL := Lib.hid (show legV F.M (val4 a0 a1 a2 a3) = 1 by unfold legV; rw [← HV.out, if_neg h0, if_pos h1])
        clear h0 h1
        go_wp2_with fail
        go_ret
        exact ⟨by rw [HL.out]; rfl, HM.out.1⟩
      · have E0 := eqF_nz hs h0
        have E1 := eqF_not_one hs h1
        have HL := Lib.hid (show legV F.M (val4 a0 a1 a2 a3) = -1 by unfold legV; rw [← HV.out, if_neg h0, if_neg h1])
        clear h0 h1
        go_wp2_with fail
        go_ret
        exact ⟨by rw [HL.out]; rfl, HM.out.1⟩
theorem eqWz_yes {s0 s1 s2 s3 : Nat} (hs : ok4 s0 s1 s2 s3) (h : val4 s0 s1 s2 s3 = 0) (w : World) : (Op.equalIn 10000 45 (.agg #[.int .u64 s0, .int .u64 s1, .int .u64 s2, .int .u64 s3]) (.agg #[.int .u64 0, .int .u64 0, .int .u64 0, .int .u64 0])).run Try.prog w = .ok true w := by
  have h' := equalInW 9998 s0 s1 s2 s3 0 0 0 0 w
  rw [(eqW_iff hs zok).2 (h.trans rfl)] at h'
  exact h'
theorem eqWz_no {s0 s1 s2 s3 : Nat} (hs : ok4 s0 s1 s2 s3) (h : val4 s0 s1 s2 s3 ≠ 0) (w : World) : (Op.equalIn 10000 45 (.agg #[.int .u64 s0, .int .u64 s1, .int .u64 s2, .int .u64 s3]) (.agg #[.int .u64 0, .int .u64 0, .int .u64 0, .int .u64 0])).run Try.prog w = .ok false w := by
  have h' := equalInW 9998 s0 s1 s2 s3 0 0 0 0 w
  rw [eqW_false (fun q => h ((eqW_iff hs zok).1 q))] at h'
  exact h'
theorem eqGuardWd : Try.prog.eqGuardType Try.prog.depth 45 = false := by kernel_rfl
set_option maxRecDepth 100000 in
set_option maxHeartbeats 2000000 in
theorem rinv1_calls (f : Int) (F : FC) (hf : FieldIs f F) (a0 a1 a2 a3 : Nat) (ha : ok4 a0 a1 a2 a3) (hz : val4 a0 a1 a2 a3 % F.M ≠ 0) (w : World) :
    Calls Try.prog 97 #[.int .i64 f, .agg #[.int .u64 a0, .int .u64 a1, .int .u64 a2, .int .u64 a3]] w (fun e w' => ∃ s0 s1 s2 s3 : Nat, e = .returned (.tuple #[.agg #[.int .u64 s0, .int .u64 s1, .int .u64 s2, .int .u64 s3], .int .i64 0]) ∧ ok4 s0 s1 s2 s3 ∧ val4 s0 s1 s2 s3 = val4 a0 a1 a2 a3 ^ (F.M - 2) % F.M ∧ Below w.heap.size w w') := by
  have hG := eqGuardWd
  have h2 := hf.ok.gt
  go_enter Try.func97, Try.ntmps97
  go_wp2_with fail
  have HM := Lib.hid (((Mem.nil w).new (w.heap.size) a0 a1 a2 a3 24 (by simp)).new (w.heap.size + 1) 0 0 0 0 24 (by simp))
  refine (down_calls f F hf a0 a1 a2 a3 ha _).mono ?_
  rintro e w1 ⟨d0, d1, d2, d3, rfl, hd, hv, hbl⟩
  have HM' := Lib.hid (HM.out.on hbl)
  clear HM hbl
  have HM := HM'
  clear HM'
  have EQ := eqWz_no hd (by rw [hv]; exact hz)
  clear hv hz
  go_wp2_with fail
  refine (rmod_some f F hf _).mono ?_
  rintro e w2 ⟨rfl, hbl⟩
  have HM' := Lib.hid (HM.out.on hbl)
  clear HM hbl
  have HM := HM'
  clear HM'
  go_wp2_with fail
  refine (refMinus_calls F.m0 F.m1 F.m2 F.m3 2 0 0 0 hf.ok.okm (show ok4 2 0 0 0 by unfold ok4; decide) _).mono ?_
  rintro e w3 ⟨n0, n1, n2, n3, c, rfl, hn, hc, hv, hbl⟩
  have HVn := Lib.hid (show val4 n0 n1 n2 n3 = F.M - 2 by
    have e2 : val4 2 0 0 0 = 2 := rfl
    have := val4_lt hn
    rw [e2] at hv
    have e3 : val4 F.m0 F.m1 F.m2 F.m3 = F.M := rfl
    rw [e3] at hv
    have : c = 0 := by rcases (show c = 0 ∨ c = 1 by omega) with h | h; exact h; subst h; omega
    subst this
    omega)
  clear hv hc
  have HM' := Lib.hid ((HM.out.on hbl).new w3.heap.size n0 n1 n2 n3 45 rfl)
  clear HM hbl
  have HM := HM'
  clear HM'
  have kr := HM.out.row (b := w.heap.size) (c0 := a0) (c1 := a1) (c2 := a2) (c3 := a3) (by simp)
  have x0 := kr.c0; have x1 := kr.c1; have x2 := kr.c2; have x3 := kr.c3
  clear kr
  have xl : w.heap.size < w3.heap.size := by have := HM.out.lt (b := w.heap.size) (c0 := a0) (c1 := a1) (c2 := a2) (c3 := a3) (by simp); have l2 := HM.out.lt (b := w.heap.size + 1) (c0 := 0) (c1 := 0) (c2 := 0) (c3 := 0) (by simp); simp at l2; omega
  go_wp2_with fail
  refine (rexp_calls f F hf a0 a1 a2 a3 n0 n1 n2 n3 ha hn _).mono ?_
  rintro e w4 ⟨s0, s1, s2, s3, rfl, hs, hv, hbl⟩
  have HVs := Lib.hid (show val4 s0 s1 s2 s3 = val4 a0 a1 a2 a3 ^ (F.M - 2) % F.M by rw [hv, HVn.out])
  have HM' := Lib.hid (HM.out.on hbl)
  clear HM hbl hv x0 x1 x2 x3 xl
  have HM := HM'
  clear HM'
  have kr := HM.out.row (b := w.heap.size + 1) (c0 := 0) (c1 := 0) (c2 := 0) (c3 := 0) (by simp)
  have y0 := kr.c0; have y1 := kr.c1; have y2 := kr.c2; have y3 := kr.c3; have yf := kr.fr
  have yl := HM.out.lt (b := w.heap.size + 1) (c0 := 0) (c1 := 0) (c2 := 0) (c3 := 0) (by simp)
  clear kr
  go_wp2_with fail
  refine bodyPost_ret (v := .tuple #[.agg #[.int .u64 s0, .int .u64 s1, .int .u64 s2, .int .u64 s3], .int .i64 0]) (by simp [results, Try.results97, go_sem, *]) rfl ?_
  refine ⟨_, _, _, _, rfl, hs, HVs.out, ?_⟩
  exact below_set4 HM.out.1 (by omega) _ _ _ _
set_option maxRecDepth 100000 in
set_option maxHeartbeats 2000000 in
theorem rinv0_calls (f : Int) (F : FC) (hf : FieldIs f F) (a0 a1 a2 a3 : Nat) (ha : ok4 a0 a1 a2 a3) (hz : val4 a0 a1 a2 a3 % F.M = 0) (w : World) :
    Calls Try.prog 97 #[.int .i64 f, .agg #[.int .u64 a0, .int .u64 a1, .int .u64 a2, .int .u64 a3]] w (fun e w' => ∃ s0 s1 s2 s3 : Nat, e = .returned (.tuple #[.agg #[.int .u64 s0, .int .u64 s1, .int .u64 s2, .int .u64 s3], .int .i64 22]) ∧ ok4 s0 s1 s2 s3 ∧ val4 s0 s1 s2 s3 = 0 ∧ Below w.heap.size w w') := by
  have hG := eqGuardWd
  have h2 := hf.ok.gt
  go_enter Try.func97, Try.ntmps97
  go_wp2_with fail
  have HM := Lib.hid (((Mem.nil w).new (w.heap.size) a0 a1 a2 a3 24 (by simp)).new (w.heap.size + 1) 0 0 0 0 24 (by simp))
  refine (down_calls f F hf a0 a1 a2 a3 ha _).mono ?_
  rintro e w1 ⟨d0, d1, d2, d3, rfl, hd, hv, hbl⟩
  have HM' := Lib.hid (HM.out.on hbl)
  clear HM hbl
  have HM := HM'
  clear HM'
  have EQ := eqWz_yes hd (by rw [hv]; exact hz)
  clear hv hz
  have kr := HM.out.row (b := w.heap.size + 1) (c0 := 0) (c1 := 0) (c2 := 0) (c3 := 0) (by simp)
  have y0 := kr.c0; have y1 := kr.c1; have y2 := kr.c2; have y3 := kr.c3; have yf := kr.fr
  have yl := HM.out.lt (b := w.heap.size + 1) (c0 := 0) (c1 := 0) (c2 := 0) (c3 := 0) (by simp)
  clear kr
  go_wp2_with fail
  refine bodyPost_ret (v := .tuple #[.agg #[.int .u64 (0 : Nat), .int .u64 (0 : Nat), .int .u64 (0 : Nat), .int .u64 (0 : Nat)], .int .i64 22]) (by simp [results, Try.results97, go_sem, *]) rfl ?_
  refine ⟨_, _, _, _, rfl, zok, rfl, ?_⟩
  exact below_set4 HM.out.1 (by omega) 0 0 0 0
end Go.Proofs.Ytebaoemoeckgaaa
