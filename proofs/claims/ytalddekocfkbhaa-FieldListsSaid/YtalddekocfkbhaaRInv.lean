/-
  The reference's Lower, half, Legendre and Inv, for either field. Conditions: words below 2^64.
-/
import Derived.Test.YtalddekocfkbhaaRPow
import Derived.Test.YtalddekocfkbhaaFRingA
namespace Go.Proofs.Ytalddekocfkbhaa
set_option linter.unusedVariables false
set_option linter.unusedSimpArgs false
open Go.RowKit

set_option maxRecDepth 100000 in
set_option maxHeartbeats 2000000 in
theorem rlower_calls (f : Int) (F : FC) (hf : FieldIs f F) (a0 a1 a2 a3 : Nat) (ha : ok4 a0 a1 a2 a3) (la : val4 a0 a1 a2 a3 < F.M) (w : World) :
    Calls Try.prog 22 #[.int .i64 f, .agg #[.int .u64 a0, .int .u64 a1, .int .u64 a2, .int .u64 a3]] w (fun e w' => e = .returned (.bool (lowB F.M (val4 a0 a1 a2 a3))) ∧ Below w.heap.size w w') := by
  go_enter Try.func22, Try.ntmps22
  go_wp2_with fail
  have HM := Lib.hid ((Mem.nil w).new (w.heap.size) a0 a1 a2 a3 25 (by simp))
  refine region_till (fun wx => Mem w wx [(w.heap.size, a0, a1, a2, a3)]) 6 (by kernel_rfl) ?_
  have HM' := Lib.hid (HM.out.drewN 1)
  clear HM
  have HM := HM'
  clear HM'
  have HS := HM.out.sub (rs' := [(w.heap.size, a0, a1, a2, a3)]) (by simp)
  refine till_take (i := 0) (v := .agg #[.int .u64 a0, .int .u64 a1, .int .u64 a2, .int .u64 a3]) rfl (by kernel_rfl) (by kernel_rfl) (by kernel_rfl) (by kernel_rfl) (fun _ _ _ h => h) HS (Or.inl ⟨by kernel_rfl, fun wx hx => ?_⟩) ?_
  · have kr := hx.row (b := w.heap.size) (c0 := a0) (c1 := a1) (c2 := a2) (c3 := a3) (by simp)
    have x0 := kr.c0; have x1 := kr.c1; have x2 := kr.c2; have x3 := kr.c3
    clear kr HS hx
    go_simp
  simp only [Act.put, List.setIfInBounds_toArray, List.set_cons_zero, List.set_cons_succ]
  refine till_take (i := 1) (v := .int .i64 f) rfl (by kernel_rfl) (by kernel_rfl) (by kernel_rfl) (by kernel_rfl) (fun _ _ _ h => h) HS (Or.inl ⟨by kernel_rfl, fun wx hx => ?_⟩) ?_
  · clear HS hx
    go_simp
  simp only [Act.put, List.setIfInBounds_toArray, List.set_cons_zero, List.set_cons_succ]
  refine till_take (i := 2) (v := .agg #[.int .u64 a0, .int .u64 a1, .int .u64 a2, .int .u64 a3]) rfl (by kernel_rfl) (by kernel_rfl) (by kernel_rfl) (by kernel_rfl) (fun _ _ _ h => h) HS (Or.inl ⟨by kernel_rfl, fun wx hx => ?_⟩) ?_
  · have kr := hx.row (b := w.heap.size) (c0 := a0) (c1 := a1) (c2 := a2) (c3 := a3) (by simp)
    have x0 := kr.c0; have x1 := kr.c1; have x2 := kr.c2; have x3 := kr.c3
    clear kr HS hx
    go_simp
  simp only [Act.put, List.setIfInBounds_toArray, List.set_cons_zero, List.set_cons_succ]
  clear HS
  refine till_step (i := 3) (by kernel_rfl) rfl (fun K hK => ?_)
  go_simp
  refine (rneg_calls f F hf a0 a1 a2 a3 ha _).mono ?_
  rintro e w1 ⟨n0, n1, n2, n3, rfl, hn, hv, hbl⟩
  have HVn := Lib.hid hv
  clear hv
  have HM' := Lib.hid (HM.out.on hbl)
  clear HM hbl
  have HM := HM'
  clear HM'
  have HS := HM.out.sub (rs' := [(w.heap.size, a0, a1, a2, a3)]) (by simp)
  refine hK.out _ _ (Or.inr HS) (fun _ => ?_)
  clear hK K
  clear HS
  refine till_step (i := 4) (by kernel_rfl) rfl (fun K hK => ?_)
  go_simp
  refine (refCmp_calls a0 a1 a2 a3 n0 n1 n2 n3 ha hn _).mono ?_
  rintro e w2 ⟨he, hbl⟩
  have HC := Lib.hid (show decide (cmpN (val4 a0 a1 a2 a3) (val4 n0 n1 n2 n3) ≤ 0) = lowB F.M (val4 a0 a1 a2 a3) by
    rw [HVn.out, ← lowB_of, Nat.mod_eq_of_lt la, Nat.zero_add])
  generalize cmpN (val4 a0 a1 a2 a3) (val4 n0 n1 n2 n3) = cc at *
  subst he
  have HM' := Lib.hid (HM.out.on hbl)
  clear HM hbl
  have HM := HM'
  clear HM'
  have HS := HM.out.sub (rs' := [(w.heap.size, a0, a1, a2, a3)]) (by simp)
  refine hK.out _ _ (Or.inr HS) (fun _ => ?_)
  clear hK K
  refine till_take (i := 5) (v := .bool (decide (cc ≤ 0))) rfl (by kernel_rfl) (by kernel_rfl) (by kernel_rfl) (by kernel_rfl) (fun _ _ _ h => h) HS (Or.inl ⟨by kernel_rfl, fun wx hx => ?_⟩) ?_
  · clear HS hx
    go_simp
  simp only [Act.put, List.setIfInBounds_toArray, List.set_cons_zero, List.set_cons_succ]
  clear HS
  refine till_step (i := 6) (by kernel_rfl) rfl (fun K hK => ?_)
  go_simp
  refine hK.out _ _ (Or.inl rfl) (fun _ => ?_)
  clear hK K
  refine till_done (by kernel_rfl) ?_
  go_wp2_with fail
  go_ret
  exact ⟨by rw [← HC.out]; rfl, HM.out.1⟩
theorem halfP_val : ok4 11389680472494603939 14681934109093717318 15863968012492123182 1743499133401485332 ∧ val4 11389680472494603939 14681934109093717318 15863968012492123182 1743499133401485332 = FP.M / 2 := ⟨by unfold ok4; decide, by kernel_rfl⟩
set_option maxRecDepth 100000 in
set_option maxHeartbeats 2000000 in
theorem halfP_calls (w : World) : Calls Try.prog 70 #[.int .i64 1] w (fun e w' => e = .returned (.agg #[.int .u64 11389680472494603939, .int .u64 14681934109093717318, .int .u64 15863968012492123182, .int .u64 1743499133401485332]) ∧ Below w.heap.size w w') := by
  go_enter Try.func70, Try.ntmps70
  go_wp2_with fail
  refine (rmod_some 1 FP (by unfold FieldIs; simp) _).mono ?_
  rintro e w1 ⟨rfl, hbl⟩
  have HM := Lib.hid (((Mem.nil w).new w.heap.size 0 0 0 0 26 rfl).on hbl)
  have kr := HM.out.row (b := w.heap.size) (c0 := 0) (c1 := 0) (c2 := 0) (c3 := 0) (by simp)
  have o0 := kr.c0; have o1 := kr.c1; have o2 := kr.c2; have o3 := kr.c3; have of := kr.fr
  have lto := HM.out.lt (b := w.heap.size) (c0 := 0) (c1 := 0) (c2 := 0) (c3 := 0) (by simp)
  clear kr hbl
  have b0 : bits .or .u64 2166308435639828131 (IntKind.u64.wrap 100692697557049423688002991953404755968) = 11389680472494603939 := by kernel_rfl
  have b1 : bits .or .u64 5458562072238941510 (IntKind.u64.wrap 122497374459487735683716562798029832192) = 14681934109093717318 := by kernel_rfl
  have b2 : bits .or .u64 6640595975637347374 (IntKind.u64.wrap 32161882306591588514290432766975672320) = 15863968012492123182 := by kernel_rfl
  simp only [FP]
  go_wp2_with fail
  refine wp_loop_rounds 6 ?_
  rw [rounds_succ]
  go_wp2_with fail
  go_region
  go_wp2_with fail
  rw [rounds_succ]
  go_wp2_with fail
  go_region
  go_wp2_with fail
  rw [rounds_succ]
  go_wp2_with fail
  go_region
  go_wp2_with fail
  rw [rounds_succ]
  go_wp2_with fail
  rw [rounds_succ]
  go_wp2_with fail
  refine bodyPost_ret (v := .agg #[.int .u64 11389680472494603939, .int .u64 14681934109093717318, .int .u64 15863968012492123182, .int .u64 1743499133401485332]) (by simp [results, Try.results70, go_sem, *]) rfl ?_
  refine ⟨rfl, ?_⟩
  have hb := HM.out.1
  repeat (first | exact hb | refine Below.drew ?_ | refine Below.alloc ?_ (by first | (simp; done) | (simp; omega)) _ | refine Below.setCell ?_ (by simp) _)
theorem halfR_val : ok4 11669102379873075200 10671829228508198984 15863968012492123182 1743499133401485332 ∧ val4 11669102379873075200 10671829228508198984 15863968012492123182 1743499133401485332 = FR.M / 2 := ⟨by unfold ok4; decide, by kernel_rfl⟩
set_option maxRecDepth 100000 in
set_option maxHeartbeats 2000000 in
theorem halfR_calls (w : World) : Calls Try.prog 70 #[.int .i64 2] w (fun e w' => e = .returned (.agg #[.int .u64 11669102379873075200, .int .u64 10671829228508198984, .int .u64 15863968012492123182, .int .u64 1743499133401485332]) ∧ Below w.heap.size w w') := by
  go_enter Try.func70, Try.ntmps70
  go_wp2_with fail
  refine (rmod_some 2 FR (by unfold FieldIs; simp) _).mono ?_
  rintro e w1 ⟨rfl, hbl⟩
  have HM := Lib.hid (((Mem.nil w).new w.heap.size 0 0 0 0 26 rfl).on hbl)
  have kr := HM.out.row (b := w.heap.size) (c0 := 0) (c1 := 0) (c2 := 0) (c3 := 0) (by simp)
  have o0 := kr.c0; have o1 := kr.c1; have o2 := kr.c2; have o3 := kr.c3; have of := kr.fr
  have lto := HM.out.lt (b := w.heap.size) (c0 := 0) (c1 := 0) (c2 := 0) (c3 := 0) (by simp)
  clear kr hbl
  have b0 : bits .or .u64 2445730343018299392 (IntKind.u64.wrap 26719319116154764192306716011317428224) = 11669102379873075200 := by kernel_rfl
  have b1 : bits .or .u64 1448457191653423176 (IntKind.u64.wrap 122497374459487735683716562798029832192) = 10671829228508198984 := by kernel_rfl
  have b2 : bits .or .u64 6640595975637347374 (IntKind.u64.wrap 32161882306591588514290432766975672320) = 15863968012492123182 := by kernel_rfl
  simp only [FR]
  go_wp2_with fail
  refine wp_loop_rounds 6 ?_
  rw [rounds_succ]
  go_wp2_with fail
  go_region
  go_wp2_with fail
  rw [rounds_succ]
  go_wp2_with fail
  go_region
  go_wp2_with fail
  rw [rounds_succ]
  go_wp2_with fail
  go_region
  go_wp2_with fail
  rw [rounds_succ]
  go_wp2_with fail
  rw [rounds_succ]
  go_wp2_with fail
  refine bodyPost_ret (v := .agg #[.int .u64 11669102379873075200, .int .u64 10671829228508198984, .int .u64 15863968012492123182, .int .u64 1743499133401485332]) (by simp [results, Try.results70, go_sem, *]) rfl ?_
  refine ⟨rfl, ?_⟩
  have hb := HM.out.1
  repeat (first | exact hb | refine Below.drew ?_ | refine Below.alloc ?_ (by first | (simp; done) | (simp; omega)) _ | refine Below.setCell ?_ (by simp) _)
set_option maxRecDepth 100000 in
set_option maxHeartbeats 2000000 in
theorem rhalf_calls (f : Int) (F : FC) (hf : FieldIs f F) (w : World) : Calls Try.prog 70 #[.int .i64 f] w (FePost (F.M / 2) w) := by
  rcases hf with ⟨rfl, rfl⟩ | ⟨rfl, rfl⟩
  · refine (halfP_calls w).mono ?_
    rintro e w' ⟨he, hb⟩
    exact ⟨_, _, _, _, he, halfP_val.1, halfP_val.2, hb⟩
  · refine (halfR_calls w).mono ?_
    rintro e w' ⟨he, hb⟩
    exact ⟨_, _, _, _, he, halfR_val.1, halfR_val.2, hb⟩
/-- Legendre's answer -/
def legV (M A : Nat) : Int := if A ^ (M / 2) % M = 0 then 0 else if A ^ (M / 2) % M = 1 then 1 else -1
theorem eqF_not_one {s0 s1 s2 s3 : Nat} (hs : ok4 s0 s1 s2 s3) (h : val4 s0 s1 s2 s3 ≠ 1) (w : World) : (Op.equalIn 10000 25 (.agg #[.int .u64 s0, .int .u64 s1, .int .u64 s2, .int .u64 s3]) (.agg #[.int .u64 1, .int .u64 0, .int .u64 0, .int .u64 0])).run Try.prog w = .ok false w := eqF_no hs (show ok4 1 0 0 0 by unfold ok4; decide) (fun q => h (q.trans rfl)) w
set_option maxRecDepth 100000 in
set_option maxHeartbeats 2000000 in
theorem rleg_calls (f : Int) (F : FC) (hf : FieldIs f F) (a0 a1 a2 a3 : Nat) (ha : ok4 a0 a1 a2 a3) (w : World) :
    Calls Try.prog 21 #[.int .i64 f, .agg #[.int .u64 a0, .int .u64 a1, .int .u64 a2, .int .u64 a3]] w (fun e w' => e = .returned (.int .i64 (legV F.M (val4 a0 a1 a2 a3))) ∧ Below w.heap.size w w') := by
  have hG := eqGuardF
  go_enter Try.func21, Try.ntmps21
  go_upto_region 1 with fail
  have HM := Lib.hid ((Mem.nil w).new (w.heap.size) a0 a1 a2 a3 25 (by simp))
  go_cut [5] (fun s5 wx => ∃ gb s0 s1 s2 s3 : Nat, s5 = .pointer (some ⟨gb, 0, none⟩) ∧ ok4 s0 s1 s2 s3 ∧ Hid (val4 s0 s1 s2 s3 = val4 a0 a1 a2 a3 ^ (F.M / 2) % F.M) ∧ Hid (Mem w wx [(gb, s0, s1, s2, s3)]))
  case first =>
    refine region_till (fun wx => Mem w wx [(w.heap.size, a0, a1, a2, a3)]) 6 (by kernel_rfl) ?_
    have HM' := Lib.hid (HM.out.drewN 1)
    clear HM
    have HM := HM'
    clear HM'
    have HS := HM.out.sub (rs' := [(w.heap.size, a0, a1, a2, a3)]) (by simp)
    refine till_take (i := 0) (v := .int .i64 f) rfl (by kernel_rfl) (by kernel_rfl) (by kernel_rfl) (by kernel_rfl) (fun _ _ _ h => h) HS (Or.inl ⟨by kernel_rfl, fun wx hx => ?_⟩) ?_
    · clear HS hx
      go_simp
    simp only [Act.put, List.setIfInBounds_toArray, List.set_cons_zero, List.set_cons_succ]
    refine till_take (i := 1) (v := .agg #[.int .u64 a0, .int .u64 a1, .int .u64 a2, .int .u64 a3]) rfl (by kernel_rfl) (by kernel_rfl) (by kernel_rfl) (by kernel_rfl) (fun _ _ _ h => h) HS (Or.inl ⟨by kernel_rfl, fun wx hx => ?_⟩) ?_
    · have kr := hx.row (b := w.heap.size) (c0 := a0) (c1 := a1) (c2 := a2) (c3 := a3) (by simp)
      have x0 := kr.c0; have x1 := kr.c1; have x2 := kr.c2; have x3 := kr.c3
      clear kr HS hx
      go_simp
    simp only [Act.put, List.setIfInBounds_toArray, List.set_cons_zero, List.set_cons_succ]
    refine till_take (i := 2) (v := .int .i64 f) rfl (by kernel_rfl) (by kernel_rfl) (by kernel_rfl) (by kernel_rfl) (fun _ _ _ h => h) HS (Or.inl ⟨by kernel_rfl, fun wx hx => ?_⟩) ?_
    · clear HS hx
      go_simp
    simp only [Act.put, List.setIfInBounds_toArray, List.set_cons_zero, List.set_cons_succ]
    clear HS
    refine till_two (i := 3) (j := 5) (by kernel_rfl) rfl rfl (fun K hK => ?_) (fun K hK => ?_)
    · go_simp
      refine (rhalf_calls f F hf _).mono ?_
      rintro e v1 ⟨n0, n1, n2, n3, rfl, hn, hv, hbl⟩
      have HVn := Lib.hid hv
      clear hv
      have HM' := Lib.hid (HM.out.on hbl)
      clear HM hbl
      have HM := HM'
      clear HM'
      have HS := HM.out.sub (rs' := [(w.heap.size, a0, a1, a2, a3)]) (by simp)
      refine hK.out _ _ (Or.inr HS) (fun _ => ?_)
      clear hK K
      clear HS
      refine till_two (i := 4) (j := 5) (by kernel_rfl) rfl rfl (fun K hK => ?_) (fun K hK => ?_)
      · go_simp
        refine (rexp_calls f F hf a0 a1 a2 a3 n0 n1 n2 n3 ha hn _).mono ?_
        rintro e v2 ⟨s0, s1, s2, s3, rfl, hs, hv, hbl⟩
        have HVs := Lib.hid (show val4 s0 s1 s2 s3 = val4 a0 a1 a2 a3 ^ (F.M / 2) % F.M by rw [hv, HVn.out])
        clear hv
        have HM' := Lib.hid (HM.out.on hbl)
        clear HM hbl
        have HM := HM'
        clear HM'
        have HS := HM.out.sub (rs' := [(w.heap.size, a0, a1, a2, a3)]) (by simp)
        refine hK.out _ _ (Or.inr HS) (fun _ => ?_)
        clear hK K
        clear HS
        refine till_step (i := 5) (by kernel_rfl) rfl (fun K hK => ?_)
        go_simp
        have HM9 := HM
        have hgb : w.heap.size ≤ (v2.heap.size) := by first | exact HM.out.1.size | (have := HM.out.1.size; simp at this; omega) | omega
        have hgl0 : w.heap.size < (v2.heap.size) := by first | exact HM.out.lt (b := w.heap.size) (c0 := a0) (c1 := a1) (c2 := a2) (c3 := a3) (by simp) | (have := HM.out.lt (b := w.heap.size) (c0 := a0) (c1 := a1) (c2 := a2) (c3 := a3) (by simp); simp at this; omega) | omega
        have HM' := Lib.hid (HM.out.new (v2.heap.size) 0 0 0 0 25 (by first | rfl | (simp; done)))
        clear HM
        have HM := HM'
        clear HM'
        have HS := HM.out.sub (rs' := [(w.heap.size, a0, a1, a2, a3)]) (by simp)
        refine hK.out _ _ (Or.inr HS) (fun _ => ?_)
        clear hK K HS
        have kr := HM.out.row (b := (v2.heap.size)) (c0 := 0) (c1 := 0) (c2 := 0) (c3 := 0) (by simp)
        have yl := HM.out.lt (b := (v2.heap.size)) (c0 := 0) (c1 := 0) (c2 := 0) (c3 := 0) (by simp)
        have y0 := kr.c0; have y1 := kr.c1; have y2 := kr.c2; have y3 := kr.c3; have yf := kr.fr
        clear kr
        refine till_step (i := 6) (by kernel_rfl) rfl (fun K hK => ?_)
        go_simp
        have HM' := Lib.hid (HM9.out.new (v2.heap.size) s0 s1 s2 s3 25 (by first | rfl | (simp; done)))
        clear HM
        have HM := HM'
        clear HM'
        refine hK.out _ _ (Or.inl rfl) (fun _ => ?_)
        clear hK K
        refine till_done (by kernel_rfl) ?_
        go_wp2_with fail
        go_meet
        exact ⟨(v2.heap.size), s0, s1, s2, s3, rfl, hs, HVs, Lib.hid (HM.out.sub (by simp))⟩
      · go_simp
        have HM9 := HM
        have hgb : w.heap.size ≤ (v1.heap.size) := by first | exact HM.out.1.size | (have := HM.out.1.size; simp at this; omega) | omega
        have hgl0 : w.heap.size < (v1.heap.size) := by first | exact HM.out.lt (b := w.heap.size) (c0 := a0) (c1 := a1) (c2 := a2) (c3 := a3) (by simp) | (have := HM.out.lt (b := w.heap.size) (c0 := a0) (c1 := a1) (c2 := a2) (c3 := a3) (by simp); simp at this; omega) | omega
        have HM' := Lib.hid (HM.out.new (v1.heap.size) 0 0 0 0 25 (by first | rfl | (simp; done)))
        clear HM
        have HM := HM'
        clear HM'
        have HS := HM.out.sub (rs' := [(w.heap.size, a0, a1, a2, a3)]) (by simp)
        refine hK.out _ _ (Or.inr HS) (fun _ => ?_)
        clear hK K HS
        refine till_step (i := 4) (by kernel_rfl) rfl (fun K hK => ?_)
        go_simp
        refine (rexp_calls f F hf a0 a1 a2 a3 n0 n1 n2 n3 ha hn _).mono ?_
        rintro e v2 ⟨s0, s1, s2, s3, rfl, hs, hv, hbl⟩
        have HVs := Lib.hid (show val4 s0 s1 s2 s3 = val4 a0 a1 a2 a3 ^ (F.M / 2) % F.M by rw [hv, HVn.out])
        clear hv
        have HM' := Lib.hid (HM.out.on hbl)
        clear HM hbl
        have HM := HM'
        clear HM'
        have HS := HM.out.sub (rs' := [(w.heap.size, a0, a1, a2, a3)]) (by simp)
        refine hK.out _ _ (Or.inr HS) (fun _ => ?_)
        clear hK K
        clear HS
        have kr := HM.out.row (b := (v1.heap.size)) (c0 := 0) (c1 := 0) (c2 := 0) (c3 := 0) (by simp)
        have yl := HM.out.lt (b := (v1.heap.size)) (c0 := 0) (c1 := 0) (c2 := 0) (c3 := 0) (by simp)
        have y0 := kr.c0; have y1 := kr.c1; have y2 := kr.c2; have y3 := kr.c3; have yf := kr.fr
        clear kr
        refine till_step (i := 6) (by kernel_rfl) rfl (fun K hK => ?_)
        go_simp
        have HM' := Lib.hid ((HM.out.sub (rs' := [((v1.heap.size), 0, 0, 0, 0), (w.heap.size, a0, a1, a2, a3)]) (by simp)).put s0 s1 s2 s3 hgb (by intro r hr; simp at hr; subst hr <;> simp <;> omega))
        clear HM
        have HM := HM'
        clear HM'
        refine hK.out _ _ (Or.inl rfl) (fun _ => ?_)
        clear hK K
        refine till_done (by kernel_rfl) ?_
        go_wp2_with fail
        go_meet
        exact ⟨(v1.heap.size), s0, s1, s2, s3, rfl, hs, HVs, Lib.hid (HM.out.sub (by simp))⟩
    · go_simp
      have HM9 := HM
      have hgb : w.heap.size ≤ (w.heap.size + 1) := by first | exact HM.out.1.size | (have := HM.out.1.size; simp at this; omega) | omega
      have hgl0 : w.heap.size < (w.heap.size + 1) := by first | exact HM.out.lt (b := w.heap.size) (c0 := a0) (c1 := a1) (c2 := a2) (c3 := a3) (by simp) | (have := HM.out.lt (b := w.heap.size) (c0 := a0) (c1 := a1) (c2 := a2) (c3 := a3) (by simp); simp at this; omega) | omega
      have HM' := Lib.hid (HM.out.new (w.heap.size + 1) 0 0 0 0 25 (by first | rfl | (simp; done)))
      clear HM
      have HM := HM'
      clear HM'
      have HS := HM.out.sub (rs' := [(w.heap.size, a0, a1, a2, a3)]) (by simp)
      refine hK.out _ _ (Or.inr HS) (fun _ => ?_)
      clear hK K HS
      refine till_step (i := 3) (by kernel_rfl) rfl (fun K hK => ?_)
      go_simp
      refine (rhalf_calls f F hf _).mono ?_
      rintro e v1 ⟨n0, n1, n2, n3, rfl, hn, hv, hbl⟩
      have HVn := Lib.hid hv
      clear hv
      have HM' := Lib.hid (HM.out.on hbl)
      clear HM hbl
      have HM := HM'
      clear HM'
      have HS := HM.out.sub (rs' := [(w.heap.size, a0, a1, a2, a3)]) (by simp)
      refine hK.out _ _ (Or.inr HS) (fun _ => ?_)
      clear hK K
      clear HS
      refine till_step (i := 4) (by kernel_rfl) rfl (fun K hK => ?_)
      go_simp
      refine (rexp_calls f F hf a0 a1 a2 a3 n0 n1 n2 n3 ha hn _).mono ?_
      rintro e v2 ⟨s0, s1, s2, s3, rfl, hs, hv, hbl⟩
      have HVs := Lib.hid (show val4 s0 s1 s2 s3 = val4 a0 a1 a2 a3 ^ (F.M / 2) % F.M by rw [hv, HVn.out])
      clear hv
      have HM' := Lib.hid (HM.out.on hbl)
      clear HM hbl
      have HM := HM'
      clear HM'
      have HS := HM.out.sub (rs' := [(w.heap.size, a0, a1, a2, a3)]) (by simp)
      refine hK.out _ _ (Or.inr HS) (fun _ => ?_)
      clear hK K
      clear HS
      have kr := HM.out.row (b := (w.heap.size + 1)) (c0 := 0) (c1 := 0) (c2 := 0) (c3 := 0) (by simp)
      have yl := HM.out.lt (b := (w.heap.size + 1)) (c0 := 0) (c1 := 0) (c2 := 0) (c3 := 0) (by simp)
      have y0 := kr.c0; have y1 := kr.c1; have y2 := kr.c2; have y3 := kr.c3; have yf := kr.fr
      clear kr
      refine till_step (i := 6) (by kernel_rfl) rfl (fun K hK => ?_)
      go_simp
      have HM' := Lib.hid ((HM.out.sub (rs' := [((w.heap.size + 1), 0, 0, 0, 0), (w.heap.size, a0, a1, a2, a3)]) (by simp)).put s0 s1 s2 s3 hgb (by intro r hr; simp at hr; subst hr <;> simp <;> omega))
      clear HM
      have HM := HM'
      clear HM'
      refine hK.out _ _ (Or.inl rfl) (fun _ => ?_)
      clear hK K
      refine till_done (by kernel_rfl) ?_
      go_wp2_with fail
      go_meet
      exact ⟨(w.heap.size + 1), s0, s1, s2, s3, rfl, hs, HVs, Lib.hid (HM.out.sub (by simp))⟩
  case rest =>
    obtain ⟨gb, s0, s1, s2, s3, rfl, hs, HV, HM⟩ := hcut
    have kr := HM.out.row (b := gb) (c0 := s0) (c1 := s1) (c2 := s2) (c3 := s3) (by simp)
    have x0 := kr.c0; have x1 := kr.c1; have x2 := kr.c2; have x3 := kr.c3
    have xl := HM.out.lt (b := gb) (c0 := s0) (c1 := s1) (c2 := s2) (c3 := s3) (by simp)
    clear kr
    by_cases h0 : val4 s0 s1 s2 s3 = 0
    · have E0 := eqF_zero hs h0
      have HL := Lib.hid (show legV F.M (val4 a0 a1 a2 a3) = 0 by unfold legV; rw [← HV.out, if_pos h0])
      clear h0
      go_wp2_with fail
      go_ret
      exact ⟨by rw [HL.out]; rfl, HM.out.1⟩
    · by_cases h1 : val4 s0 s1 s2 s3 = 1
      · have E0 := eqF_nz hs h0
        have E1 := eqF_one hs h1
        have HL := Lib.hid (show legV F.M (val4 a0 a1 a2 a3) = 1 by unfold legV; rw [← HV.out, if_neg h0, if_pos h1])
        clear h0 h1
        go_wp2_with fail
        go_ret
        exact ⟨by rw [HL.out]; rfl, HM.out.1⟩
      · have E0 := eqF_nz hs h0
        have E1 := eqF_not_one hs h1
        have HL := Lib.hid (show legV F.M (val4 a0 a1 a2 a3) = -1 by unfold legV; rw [← HV.out, if_neg h0, if_neg h1])
        clear h0 h1
        go_wp2_with fail
        go_ret
        exact ⟨by rw [HL.out]; rfl, HM.out.1⟩
theorem eqWz_yes {s0 s1 s2 s3 : Nat} (hs : ok4 s0 s1 s2 s3) (h : val4 s0 s1 s2 s3 = 0) (w : World) : (Op.equalIn 10000 26 (.agg #[.int .u64 s0, .int .u64 s1, .int .u64 s2, .int .u64 s3]) (.agg #[.int .u64 0, .int .u64 0, .int .u64 0, .int .u64 0])).run Try.prog w = .ok true w := by
  have h' := equalInW 9998 s0 s1 s2 s3 0 0 0 0 w
  rw [(eqW_iff hs zok).2 (h.trans rfl)] at h'
  exact h'
theorem eqWz_no {s0 s1 s2 s3 : Nat} (hs : ok4 s0 s1 s2 s3) (h : val4 s0 s1 s2 s3 ≠ 0) (w : World) : (Op.equalIn 10000 26 (.agg #[.int .u64 s0, .int .u64 s1, .int .u64 s2, .int .u64 s3]) (.agg #[.int .u64 0, .int .u64 0, .int .u64 0, .int .u64 0])).run Try.prog w = .ok false w := by
  have h' := equalInW 9998 s0 s1 s2 s3 0 0 0 0 w
  rw [eqW_false (fun q => h ((eqW_iff hs zok).1 q))] at h'
  exact h'
theorem eqGuardWd : Try.prog.eqGuardType Try.prog.depth 26 = false := by kernel_rfl
set_option maxRecDepth 100000 in
set_option maxHeartbeats 2000000 in
theorem rinv1_calls (f : Int) (F : FC) (hf : FieldIs f F) (a0 a1 a2 a3 : Nat) (ha : ok4 a0 a1 a2 a3) (hz : val4 a0 a1 a2 a3 % F.M ≠ 0) (w : World) :
    Calls Try.prog 18 #[.int .i64 f, .agg #[.int .u64 a0, .int .u64 a1, .int .u64 a2, .int .u64 a3]] w (fun e w' => ∃ s0 s1 s2 s3 : Nat, e = .returned (.tuple #[.agg #[.int .u64 s0, .int .u64 s1, .int .u64 s2, .int .u64 s3], .int .i64 0]) ∧ ok4 s0 s1 s2 s3 ∧ val4 s0 s1 s2 s3 = val4 a0 a1 a2 a3 ^ (F.M - 2) % F.M ∧ Below w.heap.size w w') := by
  have hG := eqGuardWd
  have h2 := hf.ok.gt
  go_enter Try.func18, Try.ntmps18
  go_wp2_with fail
  have HM := Lib.hid (((Mem.nil w).new (w.heap.size) a0 a1 a2 a3 25 (by simp)).new (w.heap.size + 1) 0 0 0 0 25 (by simp))
  refine (down_calls f F hf a0 a1 a2 a3 ha _).mono ?_
  rintro e w1 ⟨d0, d1, d2, d3, rfl, hd, hv, hbl⟩
  have HM' := Lib.hid (HM.out.on hbl)
  clear HM hbl
  have HM := HM'
  clear HM'
  have EQ := eqWz_no hd (by rw [hv]; exact hz)
  clear hv hz
  go_wp2_with fail
  refine (rmod_some f F hf _).mono ?_
  rintro e w2 ⟨rfl, hbl⟩
  have HM' := Lib.hid (HM.out.on hbl)
  clear HM hbl
  have HM := HM'
  clear HM'
  go_wp2_with fail
  refine (refMinus_calls F.m0 F.m1 F.m2 F.m3 2 0 0 0 hf.ok.okm (show ok4 2 0 0 0 by unfold ok4; decide) _).mono ?_
  rintro e w3 ⟨n0, n1, n2, n3, c, rfl, hn, hc, hv, hbl⟩
  have HVn := Lib.hid (show val4 n0 n1 n2 n3 = F.M - 2 by
    have e2 : val4 2 0 0 0 = 2 := rfl
    have := val4_lt hn
    rw [e2] at hv
    have e3 : val4 F.m0 F.m1 F.m2 F.m3 = F.M := rfl
    rw [e3] at hv
    have : c = 0 := by rcases (show c = 0 ∨ c = 1 by omega) with h | h; exact h; subst h; omega
    subst this
    omega)
  clear hv hc
  have HM' := Lib.hid ((HM.out.on hbl).new w3.heap.size n0 n1 n2 n3 26 rfl)
  clear HM hbl
  have HM := HM'
  clear HM'
  have kr := HM.out.row (b := w.heap.size) (c0 := a0) (c1 := a1) (c2 := a2) (c3 := a3) (by simp)
  have x0 := kr.c0; have x1 := kr.c1; have x2 := kr.c2; have x3 := kr.c3
  clear kr
  have xl : w.heap.size < w3.heap.size := by have := HM.out.lt (b := w.heap.size) (c0 := a0) (c1 := a1) (c2 := a2) (c3 := a3) (by simp); have l2 := HM.out.lt (b := w.heap.size + 1) (c0 := 0) (c1 := 0) (c2 := 0) (c3 := 0) (by simp); simp at l2; omega
  go_wp2_with fail
  refine (rexp_calls f F hf a0 a1 a2 a3 n0 n1 n2 n3 ha hn _).mono ?_
  rintro e w4 ⟨s0, s1, s2, s3, rfl, hs, hv, hbl⟩
  have HVs := Lib.hid (show val4 s0 s1 s2 s3 = val4 a0 a1 a2 a3 ^ (F.M - 2) % F.M by rw [hv, HVn.out])
  have HM' := Lib.hid (HM.out.on hbl)
  clear HM hbl hv x0 x1 x2 x3 xl
  have HM := HM'
  clear HM'
  have kr := HM.out.row (b := w.heap.size + 1) (c0 := 0) (c1 := 0) (c2 := 0) (c3 := 0) (by simp)
  have y0 := kr.c0; have y1 := kr.c1; have y2 := kr.c2; have y3 := kr.c3; have yf := kr.fr
  have yl := HM.out.lt (b := w.heap.size + 1) (c0 := 0) (c1 := 0) (c2 := 0) (c3 := 0) (by simp)
  clear kr
  go_wp2_with fail
  refine bodyPost_ret (v := .tuple #[.agg #[.int .u64 s0, .int .u64 s1, .int .u64 s2, .int .u64 s3], .int .i64 0]) (by simp [results, Try.results18, go_sem, *]) rfl ?_
  refine ⟨_, _, _, _, rfl, hs, HVs.out, ?_⟩
  exact below_set4 HM.out.1 (by omega) _ _ _ _
set_option maxRecDepth 100000 in
set_option maxHeartbeats 2000000 in
theorem rinv0_calls (f : Int) (F : FC) (hf : FieldIs f F) (a0 a1 a2 a3 : Nat) (ha : ok4 a0 a1 a2 a3) (hz : val4 a0 a1 a2 a3 % F.M = 0) (w : World) :
    Calls Try.prog 18 #[.int .i64 f, .agg #[.int .u64 a0, .int .u64 a1, .int .u64 a2, .int .u64 a3]] w (fun e w' => ∃ s0 s1 s2 s3 : Nat, e = .returned (.tuple #[.agg #[.int .u64 s0, .int .u64 s1, .int .u64 s2, .int .u64 s3], .int .i64 22]) ∧ ok4 s0 s1 s2 s3 ∧ val4 s0 s1 s2 s3 = 0 ∧ Below w.heap.size w w') := by
  have hG := eqGuardWd
  have h2 := hf.ok.gt
  go_enter Try.func18, Try.ntmps18
  go_wp2_with fail
  have HM := Lib.hid (((Mem.nil w).new (w.heap.size) a0 a1 a2 a3 25 (by simp)).new (w.heap.size + 1) 0 0 0 0 25 (by simp))
  refine (down_calls f F hf a0 a1 a2 a3 ha _).mono ?_
  rintro e w1 ⟨d0, d1, d2, d3, rfl, hd, hv, hbl⟩
  have HM' := Lib.hid (HM.out.on hbl)
  clear HM hbl
  have HM := HM'
  clear HM'
  have EQ := eqWz_yes hd (by rw [hv]; exact hz)
  clear hv hz
  have kr := HM.out.row (b := w.heap.size + 1) (c0 := 0) (c1 := 0) (c2 := 0) (c3 := 0) (by simp)
  have y0 := kr.c0; have y1 := kr.c1; have y2 := kr.c2; have y3 := kr.c3; have yf := kr.fr
  have yl := HM.out.lt (b := w.heap.size + 1) (c0 := 0) (c1 := 0) (c2 := 0) (c3 := 0) (by simp)
  clear kr
  go_wp2_with fail
  refine bodyPost_ret (v := .tuple #[.agg #[.int .u64 (0 : Nat), .int .u64 (0 : Nat), .int .u64 (0 : Nat), .int .u64 (0 : Nat)], .int .i64 22]) (by simp [results, Try.results18, go_sem, *]) rfl ?_
  refine ⟨_, _, _, _, rfl, zok, rfl, ?_⟩
  exact below_set4 HM.out.1 (by omega) 0 0 0 0
end Go.Proofs.Ytalddekocfkbhaa
