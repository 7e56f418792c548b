/-
  The call Sqrt. Conditions: words below 2^64.
-/
import Derived.Test.YtebaoemoeckgaaaPr17
namespace Go.Proofs.Ytebaoemoeckgaaa
set_option linter.unusedVariables false
set_option linter.unusedSimpArgs false
open Go.RowKit

/-- what cycleOf answers: how often 2 divides the modulus less 1, and an element of that order -/
def CycPost (F : FC) (w : World) (e : Ending) (w' : World) : Prop :=
  ∃ T H c0 c1 c2 c3 : Nat, e = .returned (.tuple #[.int .i64 T, .agg #[.int .u64 c0, .int .u64 c1, .int .u64 c2, .int .u64 c3]]) ∧ ok4 c0 c1 c2 c3 ∧ 1 ≤ T ∧ T ≤ 200 ∧ F.M = 2 ^ T * (2 * H + 1) + 1 ∧ val4 c0 c1 c2 c3 ^ 2 ^ (T - 1) % F.M = F.M - 1 ∧ Below w.heap.size w w'
theorem pm_val {n b e v : Nat} (he : e < 2 ^ 256) (h : Nat.beq (pm n 256 b e) v = true) : b ^ e % n = v := by
  rw [← pm_eq n 256 b e he]; exact Nat.eq_of_beq_eq_true h
theorem cyc_R' (e : Nat) (he : e = 134217728) : val4 11229192882073836016 4624371214017703636 63235024940837564 3043318377369730693 ^ e % FR.M = FR.M - 1 :=
  pm_val (n := FR.M) (b := val4 11229192882073836016 4624371214017703636 63235024940837564 3043318377369730693) (e := e) (v := FR.M - 1) (by rw [he]; decide) (by rw [he]; kernel_rfl)
theorem cyc_R (T : Nat) (hT : T = 28) : val4 11229192882073836016 4624371214017703636 63235024940837564 3043318377369730693 ^ 2 ^ (T - 1) % FR.M = FR.M - 1 := cyc_R' (2 ^ (T - 1)) (by rw [hT])
theorem cyc_P : val4 4332616871279656262 10917124144477883021 13281191951274694749 3486998266802970665 ^ 2 ^ (1 - 1) % FP.M = FP.M - 1 := by kernel_rfl
set_option maxRecDepth 100000 in
set_option maxHeartbeats 2000000 in
theorem cycle_calls (f : Int) (F : FC) (hf : FieldIs f F) (w : World) : Calls Try.prog 87 #[.int .i64 f] w (CycPost F w) := by
  rcases hf with ⟨rfl, rfl⟩ | ⟨rfl, rfl⟩
  · go_enter Try.func87, Try.ntmps87
    go_wp2_with fail
    refine bodyPost_ret (v := .tuple #[.int .i64 1, .agg #[.int .u64 4332616871279656262, .int .u64 10917124144477883021, .int .u64 13281191951274694749, .int .u64 3486998266802970665]]) (by simp [results, Try.results87, go_sem]) rfl ?_
    refine ⟨1, 5472060717959818805561601436314318772174077789324455915672259473661306552145, 4332616871279656262, 10917124144477883021, 13281191951274694749, 3486998266802970665, rfl, by unfold ok4; decide, by omega, by omega, by kernel_rfl, cyc_P, ?_⟩
    repeat (first | exact Below.refl _ _ | refine Below.drew ?_ | refine Below.alloc ?_ (by first | (simp; done) | (simp; omega)) _ | refine Below.setCell ?_ (by simp) _)
  · go_enter Try.func87, Try.ntmps87
    go_wp2_with fail
    refine bodyPost_ret (v := .tuple #[.int .i64 28, .agg #[.int .u64 11229192882073836016, .int .u64 4624371214017703636, .int .u64 63235024940837564, .int .u64 3043318377369730693]]) (by simp [results, Try.results87, go_sem]) rfl ?_
    refine ⟨28, 40770029410420498293352137776570907027550720424234931066070132305055, 11229192882073836016, 4624371214017703636, 63235024940837564, 3043318377369730693, rfl, by unfold ok4; decide, by omega, by omega, by kernel_rfl, cyc_R 28 rfl, ?_⟩
    repeat (first | exact Below.refl _ _ | refine Below.drew ?_ | refine Below.alloc ?_ (by first | (simp; done) | (simp; omega)) _ | refine Below.setCell ?_ (by simp) _)
set_option maxRecDepth 100000 in
set_option maxHeartbeats 2000000 in
theorem fsqrt0_ok (f : Int) (F : FC) (hf : FieldIs f F) (a0 a1 a2 a3 : Nat) (ha : ok4 a0 a1 a2 a3) (la : val4 a0 a1 a2 a3 < F.M) (hz : val4 a0 a1 a2 a3 = 0) (w : World) :
    Calls Try.prog 59 #[.int .i64 f, .agg #[.int .u64 a0, .int .u64 a1, .int .u64 a2, .int .u64 a3]] w (FeE 0 0 w) := by
  have HE := Lib.hid (show ∀ w, (Op.equalIn 10000 24 (.agg #[.int .u64 a0, .int .u64 a1, .int .u64 a2, .int .u64 a3]) (.agg #[.int .u64 0, .int .u64 0, .int .u64 0, .int .u64 0])).run Try.prog w = .ok true w from fun w => by
    have h := equalInF 9998 a0 a1 a2 a3 0 0 0 0 w
    rw [show eqW a0 a1 a2 a3 0 0 0 0 = true from (eqW_iff ha zok).2 (hz.trans rfl)] at h
    exact h)
  have hG := eqGuardF
  clear hz
  go_enter Try.func59, Try.ntmps59
  go_wp2_with fail
  refine (cons_some f F hf _).mono ?_
  rintro e w1 ⟨rfl, hbl⟩
  have M1 := (((Mem.nil w).new (w.heap.size) a0 a1 a2 a3 24 (by simp)).new (w.heap.size + 1) 0 0 0 0 24 (by simp)).on hbl
  clear hbl
  have z0 : w.heap.size < w1.heap.size := M1.lt (c0 := a0) (c1 := a1) (c2 := a2) (c3 := a3) (by simp)
  have z1 : w.heap.size + 1 < w1.heap.size := M1.lt (c0 := 0) (c1 := 0) (c2 := 0) (c3 := 0) (by simp)
  have HM := Lib.hid (M1.on ((Below.refl _ _).alloc (Nat.le_refl _) (.cells #[.int .u64 F.m0, .int .u64 F.m1, .int .u64 F.m2, .int .u64 F.m3, .int .u64 F.inv, .int .u64 F.s0, .int .u64 F.s1, .int .u64 F.s2, .int .u64 F.s3] 115)))
  have KK := Lib.hid (KIs.new w1 F 115)
  have kr := M1.row (b := w.heap.size) (c0 := a0) (c1 := a1) (c2 := a2) (c3 := a3) (by simp)
  have x0 := kr.c0; have x1 := kr.c1; have x2 := kr.c2; have x3 := kr.c3
  clear kr
  have xl := M1.lt (b := w.heap.size) (c0 := a0) (c1 := a1) (c2 := a2) (c3 := a3) (by simp)
  go_wp2_with fail
  refine (has_calls F hf.ok w1.heap.size a0 a1 a2 a3 ha _ KK.out).mono ?_
  rintro e w2 ⟨he, hbl⟩
  rw [show isB (val4 a0 a1 a2 a3) F.M = true from decide_eq_true la] at he
  subst he
  have HM' := Lib.hid (HM.out.on hbl)
  have KK' := Lib.hid (KK.out.same hbl)
  have zk := KK'.out.lt
  clear HM KK hbl M1
  have HM := HM'
  have KK := KK'
  clear HM' KK'
  clear x0 x1 x2 x3 xl zk
  have kr := HM.out.row (b := w.heap.size) (c0 := a0) (c1 := a1) (c2 := a2) (c3 := a3) (by simp)
  have x0 := kr.c0; have x1 := kr.c1; have x2 := kr.c2; have x3 := kr.c3
  clear kr
  have xl := HM.out.lt (b := w.heap.size) (c0 := a0) (c1 := a1) (c2 := a2) (c3 := a3) (by simp)
  have kr := HM.out.row (b := w.heap.size + 1) (c0 := 0) (c1 := 0) (c2 := 0) (c3 := 0) (by simp)
  have y0 := kr.c0; have y1 := kr.c1; have y2 := kr.c2; have y3 := kr.c3; have yf := kr.fr
  clear kr
  have yl := HM.out.lt (b := w.heap.size + 1) (c0 := 0) (c1 := 0) (c2 := 0) (c3 := 0) (by simp)
  have hE := HE.out
  go_wp2_with fail
  refine bodyPost_ret (v := .tuple #[.agg #[.int .u64 0, .int .u64 0, .int .u64 0, .int .u64 0], .int .i64 0]) (by simp [results, Try.results59, go_sem, *]) rfl ?_
  refine ⟨_, _, _, _, rfl, zok, rfl, ?_⟩
  exact below_set4 HM.out.1 (by omega) 0 0 0 0
theorem low_neg {F : FC} (hF : F.Ok) {v : Nat} (hv : v < F.M) (h : lowB F.M v = false) : (0 + F.M - v) % F.M * ((0 + F.M - v) % F.M) % F.M = v * v % F.M ∧ (0 + F.M - v) % F.M < F.M ∧ lowB F.M ((0 + F.M - v) % F.M) = true := by
  unfold lowB at *
  have h' : ¬ v ≤ (0 + F.M - v) % F.M := of_decide_eq_false h
  have hp := hF.pos
  have v0 : 0 < v := by
    rcases Nat.eq_zero_or_pos v with q | q
    · subst q; exact absurd (Nat.zero_le _) h'
    · exact q
  rw [Nat.mod_eq_of_lt (show 0 + F.M - v < F.M by omega)] at *
  refine ⟨?_, by omega, ?_⟩
  · obtain ⟨d, hd⟩ : ∃ d, F.M = v + d := ⟨F.M - v, by omega⟩
    have hdv : d < v := by omega
    obtain ⟨e, rfl⟩ : ∃ e, v = d + e := ⟨v - d, by omega⟩
    rw [show 0 + F.M - (d + e) = d by omega]
    have : (d + e) * (d + e) = d * d + F.M * e := by
      rw [hd]; simp only [Nat.add_mul, Nat.mul_add, Nat.mul_comm e d]; omega
    rw [this, Nat.add_mul_mod_self_left]
  · rw [decide_eq_true_iff, show 0 + F.M - (0 + F.M - v) = v by omega, Nat.mod_eq_of_lt hv]; omega
set_option maxRecDepth 100000 in
set_option maxHeartbeats 2000000 in
theorem fsqrt_yes_ok (f : Int) (F : FC) (hf : FieldIs f F) (a0 a1 a2 a3 : Nat) (ha : ok4 a0 a1 a2 a3) (la : val4 a0 a1 a2 a3 < F.M) (hz : val4 a0 a1 a2 a3 ≠ 0) (hs2 : val4 a0 a1 a2 a3 ^ (F.M / 2) % F.M = 1) (w : World) :
    Calls Try.prog 59 #[.int .i64 f, .agg #[.int .u64 a0, .int .u64 a1, .int .u64 a2, .int .u64 a3]] w (fun e w' => ∃ V, FeE 0 V w e w' ∧ V * V % F.M = val4 a0 a1 a2 a3 ∧ V < F.M ∧ lowB F.M V = true) := by
  have HE := Lib.hid (show ∀ w, (Op.equalIn 10000 24 (.agg #[.int .u64 a0, .int .u64 a1, .int .u64 a2, .int .u64 a3]) (.agg #[.int .u64 0, .int .u64 0, .int .u64 0, .int .u64 0])).run Try.prog w = .ok false w from fun w => by
    have h := equalInF 9998 a0 a1 a2 a3 0 0 0 0 w
    rw [show eqW a0 a1 a2 a3 0 0 0 0 = false from eqW_false (fun q => hz (((eqW_iff ha zok).1 q).trans rfl))] at h
    exact h)
  have hG := eqGuardF
  have HS2 := Lib.hid hs2
  have HZ := Lib.hid hz
  clear hz hs2
  go_enter Try.func59, Try.ntmps59
  go_wp2_with fail
  refine (cons_some f F hf _).mono ?_
  rintro e w1 ⟨rfl, hbl⟩
  have M1 := (((Mem.nil w).new (w.heap.size) a0 a1 a2 a3 24 (by simp)).new (w.heap.size + 1) 0 0 0 0 24 (by simp)).on hbl
  clear hbl
  have z0 : w.heap.size < w1.heap.size := M1.lt (c0 := a0) (c1 := a1) (c2 := a2) (c3 := a3) (by simp)
  have z1 : w.heap.size + 1 < w1.heap.size := M1.lt (c0 := 0) (c1 := 0) (c2 := 0) (c3 := 0) (by simp)
  have HM := Lib.hid (M1.on ((Below.refl _ _).alloc (Nat.le_refl _) (.cells #[.int .u64 F.m0, .int .u64 F.m1, .int .u64 F.m2, .int .u64 F.m3, .int .u64 F.inv, .int .u64 F.s0, .int .u64 F.s1, .int .u64 F.s2, .int .u64 F.s3] 115)))
  have KK := Lib.hid (KIs.new w1 F 115)
  have kr := M1.row (b := w.heap.size) (c0 := a0) (c1 := a1) (c2 := a2) (c3 := a3) (by simp)
  have x0 := kr.c0; have x1 := kr.c1; have x2 := kr.c2; have x3 := kr.c3
  clear kr
  have xl := M1.lt (b := w.heap.size) (c0 := a0) (c1 := a1) (c2 := a2) (c3 := a3) (by simp)
  go_wp2_with fail
  refine (has_calls F hf.ok w1.heap.size a0 a1 a2 a3 ha _ KK.out).mono ?_
  rintro e w2 ⟨he, hbl⟩
  rw [show isB (val4 a0 a1 a2 a3) F.M = true from decide_eq_true la] at he
  subst he
  have HM' := Lib.hid (HM.out.on hbl)
  have KK' := Lib.hid (KK.out.same hbl)
  have zk := KK'.out.lt
  clear HM KK hbl M1
  have HM := HM'
  have KK := KK'
  clear HM' KK'
  clear x0 x1 x2 x3 xl zk
  have kr := HM.out.row (b := w.heap.size) (c0 := a0) (c1 := a1) (c2 := a2) (c3 := a3) (by simp)
  have x0 := kr.c0; have x1 := kr.c1; have x2 := kr.c2; have x3 := kr.c3
  clear kr
  have xl := HM.out.lt (b := w.heap.size) (c0 := a0) (c1 := a1) (c2 := a2) (c3 := a3) (by simp)
  have hE := HE.out
  go_wp2_with fail
  clear hE x0 x1 x2 x3 xl
  refine (cycle_calls f F hf _).mono ?_
  rintro e w3 ⟨T, H, c0, c1, c2, c3, rfl, hc, hT1, hT2, hMT, hcyc, hbl⟩
  have HMT := Lib.hid hMT
  have HCY := Lib.hid hcyc
  clear hMT hcyc
  have HM' := Lib.hid (HM.out.on hbl)
  have KK' := Lib.hid (KK.out.same hbl)
  have zk := KK'.out.lt
  clear HM KK hbl
  have HM := HM'
  have KK := KK'
  clear HM' KK'
  clear zk
  have wz : w1.heap.size < w3.heap.size := KK.out.lt
  have HM' := Lib.hid (HM.out.new w3.heap.size c0 c1 c2 c3 24 rfl)
  have KK' := Lib.hid (KK.out.same ((Below.refl _ _).alloc (Nat.le_refl _) (.cells #[.int .u64 c0, .int .u64 c1, .int .u64 c2, .int .u64 c3] 24)))
  clear HM KK
  have HM := HM'
  have KK := KK'
  clear HM' KK'
  clear HE hG
  go_upto_region 7 with fail
  go_cut [10, 11] (fun s10 s11 wx => ∃ gb s0 s1 s2 s3 : Nat, s10 = .pointer (some ⟨gb, 0, none⟩) ∧ s11 = .bool true ∧ ok4 s0 s1 s2 s3 ∧ Hid (∃ R, val4 s0 s1 s2 s3 = kp F R ∧ R * R % F.M = val4 a0 a1 a2 a3 % F.M) ∧ Hid (Mem w wx [(gb, s0, s1, s2, s3), (w.heap.size + 1, 0, 0, 0, 0)]) ∧ Hid (KIs wx w1.heap.size F))
  case first =>
    obtain ⟨gr, hroot⟩ := hf.root
    have HRo := Lib.hid hroot
    clear hroot
    refine region_till (fun wx => Mem w wx [(w3.heap.size, c0, c1, c2, c3), (w.heap.size + 1, 0, 0, 0, 0), (w.heap.size, a0, a1, a2, a3)] ∧ KIs wx w1.heap.size F) 11 (by kernel_rfl) ?_
    have HM' := Lib.hid (HM.out.drewN 1)
    have KK' := Lib.hid (KK.out.drewN 1)
    clear HM KK
    have HM := HM'
    have KK := KK'
    clear HM' KK'
    have HS := And.intro (HM.out.sub (rs' := [(w3.heap.size, c0, c1, c2, c3), (w.heap.size + 1, 0, 0, 0, 0), (w.heap.size, a0, a1, a2, a3)]) (by simp)) KK.out
    refine till_take (i := 0) (v := .agg #[.int .u64 a0, .int .u64 a1, .int .u64 a2, .int .u64 a3]) rfl (by kernel_rfl) (by kernel_rfl) (by kernel_rfl) (by kernel_rfl) (fun _ _ _ h => h) HS (Or.inl ⟨by kernel_rfl, fun wx hx => ?_⟩) ?_
    · have kr := hx.1.row (b := w.heap.size) (c0 := a0) (c1 := a1) (c2 := a2) (c3 := a3) (by simp)
      have x0 := kr.c0; have x1 := kr.c1; have x2 := kr.c2; have x3 := kr.c3
      clear kr HS hx
      go_simp
    simp only [Act.put, List.setIfInBounds_toArray, List.set_cons_zero, List.set_cons_succ]
    refine till_take (i := 2) (v := .int .i64 (T : Nat)) rfl (by kernel_rfl) (by kernel_rfl) (by kernel_rfl) (by kernel_rfl) (fun _ _ _ h => h) HS (Or.inl ⟨by kernel_rfl, fun wx hx => ?_⟩) ?_
    · clear HS hx
      go_simp
    simp only [Act.put, List.setIfInBounds_toArray, List.set_cons_zero, List.set_cons_succ]
    refine till_take (i := 3) (v := .agg #[.int .u64 c0, .int .u64 c1, .int .u64 c2, .int .u64 c3]) rfl (by kernel_rfl) (by kernel_rfl) (by kernel_rfl) (by kernel_rfl) (fun _ _ _ h => h) HS (Or.inl ⟨by kernel_rfl, fun wx hx => ?_⟩) ?_
    · have kr := hx.1.row (b := w3.heap.size) (c0 := c0) (c1 := c1) (c2 := c2) (c3 := c3) (by simp)
      have x0 := kr.c0; have x1 := kr.c1; have x2 := kr.c2; have x3 := kr.c3
      clear kr HS hx
      go_simp
    simp only [Act.put, List.setIfInBounds_toArray, List.set_cons_zero, List.set_cons_succ]
    clear HS
    refine till_two (i := 1) (j := 9) (by kernel_rfl) rfl rfl (fun K hK => ?_) (fun K hK => ?_)
    · go_simp
      refine (into_calls F hf.ok w1.heap.size a0 a1 a2 a3 ha _ KK.out).mono ?_
      rintro e v1 ⟨i0, i1, i2, i3, rfl, hi, hv, hbl⟩
      have HVi := Lib.hid hv
      clear hv
      have HM' := Lib.hid (HM.out.on hbl)
      have KK' := Lib.hid (KK.out.same hbl)
      clear HM KK hbl
      have HM := HM'
      have KK := KK'
      clear HM' KK'
      have HS := And.intro (HM.out.sub (rs' := [(w3.heap.size, c0, c1, c2, c3), (w.heap.size + 1, 0, 0, 0, 0), (w.heap.size, a0, a1, a2, a3)]) (by simp)) KK.out
      refine hK.out _ _ (Or.inr HS) (fun _ => ?_)
      clear hK K HS
      refine till_two (i := 4) (j := 9) (by kernel_rfl) rfl rfl (fun K hK => ?_) (fun K hK => ?_)
      · go_simp
        refine (into_calls F hf.ok w1.heap.size c0 c1 c2 c3 hc _ KK.out).mono ?_
        rintro e v2 ⟨j0, j1, j2, j3, rfl, hj, hv, hbl⟩
        have HVj := Lib.hid hv
        clear hv
        have HM' := Lib.hid (HM.out.on hbl)
        have KK' := Lib.hid (KK.out.same hbl)
        clear HM KK hbl
        have HM := HM'
        have KK := KK'
        clear HM' KK'
        have HS := And.intro (HM.out.sub (rs' := [(w3.heap.size, c0, c1, c2, c3), (w.heap.size + 1, 0, 0, 0, 0), (w.heap.size, a0, a1, a2, a3)]) (by simp)) KK.out
        refine hK.out _ _ (Or.inr HS) (fun _ => ?_)
        clear hK K HS
        refine till_two (i := 5) (j := 9) (by kernel_rfl) rfl rfl (fun K hK => ?_) (fun K hK => ?_)
        · go_simp
          refine (root_yes F hf.ok gr HRo.out (val4 a0 a1 a2 a3) H T (val4 c0 c1 c2 c3) w1.heap.size i0 i1 i2 i3 j0 j1 j2 j3 hi hj HVi.out HVj.out hT1 hT2 HMT.out HCY.out HS2.out _ KK.out).mono ?_
          rintro e v3 ⟨s0, s1, s2, s3, R, rfl, hs, hv, hRR, hbl⟩
          have HVs := Lib.hid (show ∃ R, val4 s0 s1 s2 s3 = kp F R ∧ R * R % F.M = val4 a0 a1 a2 a3 % F.M from ⟨R, hv, hRR⟩)
          clear hv hRR
          have HM' := Lib.hid (HM.out.on hbl)
          have KK' := Lib.hid (KK.out.same hbl)
          clear HM KK hbl
          have HM := HM'
          have KK := KK'
          clear HM' KK'
          have HS := And.intro (HM.out.sub (rs' := [(w3.heap.size, c0, c1, c2, c3), (w.heap.size + 1, 0, 0, 0, 0), (w.heap.size, a0, a1, a2, a3)]) (by simp)) KK.out
          refine hK.out _ _ (Or.inr HS) (fun _ => ?_)
          clear hK K HS
          have HS := And.intro (HM.out.sub (rs' := [(w3.heap.size, c0, c1, c2, c3), (w.heap.size + 1, 0, 0, 0, 0), (w.heap.size, a0, a1, a2, a3)]) (by simp)) KK.out
          refine till_take (i := 6) (v := .tuple #[.agg #[.int .u64 s0, .int .u64 s1, .int .u64 s2, .int .u64 s3], .bool true]) rfl (by kernel_rfl) (by kernel_rfl) (by kernel_rfl) (by kernel_rfl) (fun _ _ _ h => h) HS (Or.inl ⟨by kernel_rfl, fun wx hx => ?_⟩) ?_
          · clear HS hx
            go_simp
          simp only [Act.put, List.setIfInBounds_toArray, List.set_cons_zero, List.set_cons_succ]
          refine till_take (i := 7) (v := .agg #[.int .u64 s0, .int .u64 s1, .int .u64 s2, .int .u64 s3]) rfl (by kernel_rfl) (by kernel_rfl) (by kernel_rfl) (by kernel_rfl) (fun _ _ _ h => h) HS (Or.inl ⟨by kernel_rfl, fun wx hx => ?_⟩) ?_
          · clear HS hx
            go_simp
          simp only [Act.put, List.setIfInBounds_toArray, List.set_cons_zero, List.set_cons_succ]
          refine till_take (i := 8) (v := .bool true) rfl (by kernel_rfl) (by kernel_rfl) (by kernel_rfl) (by kernel_rfl) (fun _ _ _ h => h) HS (Or.inl ⟨by kernel_rfl, fun wx hx => ?_⟩) ?_
          · clear HS hx
            go_simp
          simp only [Act.put, List.setIfInBounds_toArray, List.set_cons_zero, List.set_cons_succ]
          clear HS
          refine till_step (i := 9) (by kernel_rfl) rfl (fun K hK => ?_)
          go_simp
          have HM9 := HM
          have KK9 := KK
          have HM' := Lib.hid (HM.out.new (v3.heap.size) 0 0 0 0 113 (by first | rfl | (simp; done)))
          have KK' := Lib.hid (KK.out.same ((Below.refl _ _).alloc (Nat.le_refl _) (.cells #[.int .u64 (0 : Nat), .int .u64 (0 : Nat), .int .u64 (0 : Nat), .int .u64 (0 : Nat)] 113)))
          have hgk : w1.heap.size < (v3.heap.size) := by first | omega | exact KK.out.lt | (have := KK.out.lt; simpa using this)
          have hgc : w3.heap.size < (v3.heap.size) := by first | omega | exact HM.out.lt (b := w3.heap.size) (c0 := c0) (c1 := c1) (c2 := c2) (c3 := c3) (by simp)
          have hga : w.heap.size + 1 < (v3.heap.size) := by omega
          clear HM KK
          have HM := HM'
          have KK := KK'
          clear HM' KK'
          have HS := And.intro (HM.out.sub (rs' := [(w3.heap.size, c0, c1, c2, c3), (w.heap.size + 1, 0, 0, 0, 0), (w.heap.size, a0, a1, a2, a3)]) (by simp)) KK.out
          refine hK.out _ _ (Or.inr HS) (fun _ => ?_)
          clear hK K HS
          have kr := HM.out.row (b := (v3.heap.size)) (c0 := 0) (c1 := 0) (c2 := 0) (c3 := 0) (by simp)
          have yl := HM.out.lt (b := (v3.heap.size)) (c0 := 0) (c1 := 0) (c2 := 0) (c3 := 0) (by simp)
          have y0 := kr.c0; have y1 := kr.c1; have y2 := kr.c2; have y3 := kr.c3; have yf := kr.fr
          clear kr
          refine till_step (i := 10) (by kernel_rfl) rfl (fun K hK => ?_)
          go_simp
          have HM' := Lib.hid (HM9.out.new (v3.heap.size) s0 s1 s2 s3 113 (by first | rfl | (simp; done)))
          have KK' := Lib.hid (KK9.out.same ((Below.refl _ _).alloc (Nat.le_refl _) (.cells #[.int .u64 s0, .int .u64 s1, .int .u64 s2, .int .u64 s3] 113)))
          clear HM KK
          have HM := HM'
          have KK := KK'
          clear HM' KK'
          have HS := And.intro (HM.out.sub (rs' := [(w3.heap.size, c0, c1, c2, c3), (w.heap.size + 1, 0, 0, 0, 0), (w.heap.size, a0, a1, a2, a3)]) (by simp)) KK.out
          refine hK.out _ _ (Or.inr HS) (fun _ => ?_)
          clear hK K HS
          refine till_step (i := 11) (by kernel_rfl) rfl (fun K hK => ?_)
          go_simp
          refine hK.out _ _ (Or.inl rfl) (fun _ => ?_)
          clear hK K
          refine till_done (by kernel_rfl) ?_
          go_wp2_with fail
          go_meet
          exact ⟨(v3.heap.size), s0, s1, s2, s3, rfl, rfl, hs, HVs, Lib.hid (HM.out.sub (by simp)), KK⟩
        · go_simp
          have HM9 := HM
          have KK9 := KK
          have HM' := Lib.hid (HM.out.new (v2.heap.size) 0 0 0 0 113 (by first | rfl | (simp; done)))
          have KK' := Lib.hid (KK.out.same ((Below.refl _ _).alloc (Nat.le_refl _) (.cells #[.int .u64 (0 : Nat), .int .u64 (0 : Nat), .int .u64 (0 : Nat), .int .u64 (0 : Nat)] 113)))
          have hgk : w1.heap.size < (v2.heap.size) := by first | omega | exact KK.out.lt | (have := KK.out.lt; simpa using this)
          have hgc : w3.heap.size < (v2.heap.size) := by first | omega | exact HM.out.lt (b := w3.heap.size) (c0 := c0) (c1 := c1) (c2 := c2) (c3 := c3) (by simp)
          have hga : w.heap.size + 1 < (v2.heap.size) := by omega
          clear HM KK
          have HM := HM'
          have KK := KK'
          clear HM' KK'
          have HS := And.intro (HM.out.sub (rs' := [(w3.heap.size, c0, c1, c2, c3), (w.heap.size + 1, 0, 0, 0, 0), (w.heap.size, a0, a1, a2, a3)]) (by simp)) KK.out
          refine hK.out _ _ (Or.inr HS) (fun _ => ?_)
          clear hK K HS
          refine till_step (i := 5) (by kernel_rfl) rfl (fun K hK => ?_)
          go_simp
          refine (root_yes F hf.ok gr HRo.out (val4 a0 a1 a2 a3) H T (val4 c0 c1 c2 c3) w1.heap.size i0 i1 i2 i3 j0 j1 j2 j3 hi hj HVi.out HVj.out hT1 hT2 HMT.out HCY.out HS2.out _ KK.out).mono ?_
          rintro e v3 ⟨s0, s1, s2, s3, R, rfl, hs, hv, hRR, hbl⟩
          have HVs := Lib.hid (show ∃ R, val4 s0 s1 s2 s3 = kp F R ∧ R * R % F.M = val4 a0 a1 a2 a3 % F.M from ⟨R, hv, hRR⟩)
          clear hv hRR
          have HM' := Lib.hid (HM.out.on hbl)
          have KK' := Lib.hid (KK.out.same hbl)
          clear HM KK hbl
          have HM := HM'
          have KK := KK'
          clear HM' KK'
          have HS := And.intro (HM.out.sub (rs' := [(w3.heap.size, c0, c1, c2, c3), (w.heap.size + 1, 0, 0, 0, 0), (w.heap.size, a0, a1, a2, a3)]) (by simp)) KK.out
          refine hK.out _ _ (Or.inr HS) (fun _ => ?_)
          clear hK K HS
          have HS := And.intro (HM.out.sub (rs' := [(w3.heap.size, c0, c1, c2, c3), (w.heap.size + 1, 0, 0, 0, 0), (w.heap.size, a0, a1, a2, a3)]) (by simp)) KK.out
          refine till_take (i := 6) (v := .tuple #[.agg #[.int .u64 s0, .int .u64 s1, .int .u64 s2, .int .u64 s3], .bool true]) rfl (by kernel_rfl) (by kernel_rfl) (by kernel_rfl) (by kernel_rfl) (fun _ _ _ h => h) HS (Or.inl ⟨by kernel_rfl, fun wx hx => ?_⟩) ?_
          · clear HS hx
            go_simp
          simp only [Act.put, List.setIfInBounds_toArray, List.set_cons_zero, List.set_cons_succ]
          refine till_take (i := 7) (v := .agg #[.int .u64 s0, .int .u64 s1, .int .u64 s2, .int .u64 s3]) rfl (by kernel_rfl) (by kernel_rfl) (by kernel_rfl) (by kernel_rfl) (fun _ _ _ h => h) HS (Or.inl ⟨by kernel_rfl, fun wx hx => ?_⟩) ?_
          · clear HS hx
            go_simp
          simp only [Act.put, List.setIfInBounds_toArray, List.set_cons_zero, List.set_cons_succ]
          refine till_take (i := 8) (v := .bool true) rfl (by kernel_rfl) (by kernel_rfl) (by kernel_rfl) (by kernel_rfl) (fun _ _ _ h => h) HS (Or.inl ⟨by kernel_rfl, fun wx hx => ?_⟩) ?_
          · clear HS hx
            go_simp
          simp only [Act.put, List.setIfInBounds_toArray, List.set_cons_zero, List.set_cons_succ]
          clear HS
          have kr := HM.out.row (b := (v2.heap.size)) (c0 := 0) (c1 := 0) (c2 := 0) (c3 := 0) (by simp)
          have yl := HM.out.lt (b := (v2.heap.size)) (c0 := 0) (c1 := 0) (c2 := 0) (c3 := 0) (by simp)
          have y0 := kr.c0; have y1 := kr.c1; have y2 := kr.c2; have y3 := kr.c3; have yf := kr.fr
          clear kr
          refine till_step (i := 10) (by kernel_rfl) rfl (fun K hK => ?_)
          go_simp
          have HM' := Lib.hid (HM.out.put s0 s1 s2 s3 (by omega) (by intro r hr; simp at hr; rcases hr with rfl | rfl | rfl <;> simp <;> omega))
          have KK' := Lib.hid (KK.out.set4 (d := (v2.heap.size)) (by omega) s0 s1 s2 s3)
          clear HM KK
          have HM := HM'
          have KK := KK'
          clear HM' KK'
          have HS := And.intro (HM.out.sub (rs' := [(w3.heap.size, c0, c1, c2, c3), (w.heap.size + 1, 0, 0, 0, 0), (w.heap.size, a0, a1, a2, a3)]) (by simp)) KK.out
          refine hK.out _ _ (Or.inr HS) (fun _ => ?_)
          clear hK K HS
          refine till_step (i := 11) (by kernel_rfl) rfl (fun K hK => ?_)
          go_simp
          refine hK.out _ _ (Or.inl rfl) (fun _ => ?_)
          clear hK K
          refine till_done (by kernel_rfl) ?_
          go_wp2_with fail
          go_meet
          exact ⟨(v2.heap.size), s0, s1, s2, s3, rfl, rfl, hs, HVs, Lib.hid (HM.out.sub (by simp)), KK⟩
      · go_simp
        have HM9 := HM
        have KK9 := KK
        have HM' := Lib.hid (HM.out.new (v1.heap.size) 0 0 0 0 113 (by first | rfl | (simp; done)))
        have KK' := Lib.hid (KK.out.same ((Below.refl _ _).alloc (Nat.le_refl _) (.cells #[.int .u64 (0 : Nat), .int .u64 (0 : Nat), .int .u64 (0 : Nat), .int .u64 (0 : Nat)] 113)))
        have hgk : w1.heap.size < (v1.heap.size) := by first | omega | exact KK.out.lt | (have := KK.out.lt; simpa using this)
        have hgc : w3.heap.size < (v1.heap.size) := by first | omega | exact HM.out.lt (b := w3.heap.size) (c0 := c0) (c1 := c1) (c2 := c2) (c3 := c3) (by simp)
        have hga : w.heap.size + 1 < (v1.heap.size) := by omega
        clear HM KK
        have HM := HM'
        have KK := KK'
        clear HM' KK'
        have HS := And.intro (HM.out.sub (rs' := [(w3.heap.size, c0, c1, c2, c3), (w.heap.size + 1, 0, 0, 0, 0), (w.heap.size, a0, a1, a2, a3)]) (by simp)) KK.out
        refine hK.out _ _ (Or.inr HS) (fun _ => ?_)
        clear hK K HS
        refine till_step (i := 4) (by kernel_rfl) rfl (fun K hK => ?_)
        go_simp
        refine (into_calls F hf.ok w1.heap.size c0 c1 c2 c3 hc _ KK.out).mono ?_
        rintro e v2 ⟨j0, j1, j2, j3, rfl, hj, hv, hbl⟩
        have HVj := Lib.hid hv
        clear hv
        have HM' := Lib.hid (HM.out.on hbl)
        have KK' := Lib.hid (KK.out.same hbl)
        clear HM KK hbl
        have HM := HM'
        have KK := KK'
        clear HM' KK'
        have HS := And.intro (HM.out.sub (rs' := [(w3.heap.size, c0, c1, c2, c3), (w.heap.size + 1, 0, 0, 0, 0), (w.heap.size, a0, a1, a2, a3)]) (by simp)) KK.out
        refine hK.out _ _ (Or.inr HS) (fun _ => ?_)
        clear hK K HS
        refine till_step (i := 5) (by kernel_rfl) rfl (fun K hK => ?_)
        go_simp
        refine (root_yes F hf.ok gr HRo.out (val4 a0 a1 a2 a3) H T (val4 c0 c1 c2 c3) w1.heap.size i0 i1 i2 i3 j0 j1 j2 j3 hi hj HVi.out HVj.out hT1 hT2 HMT.out HCY.out HS2.out _ KK.out).mono ?_
        rintro e v3 ⟨s0, s1, s2, s3, R, rfl, hs, hv, hRR, hbl⟩
        have HVs := Lib.hid (show ∃ R, val4 s0 s1 s2 s3 = kp F R ∧ R * R % F.M = val4 a0 a1 a2 a3 % F.M from ⟨R, hv, hRR⟩)
        clear hv hRR
        have HM' := Lib.hid (HM.out.on hbl)
        have KK' := Lib.hid (KK.out.same hbl)
        clear HM KK hbl
        have HM := HM'
        have KK := KK'
        clear HM' KK'
        have HS := And.intro (HM.out.sub (rs' := [(w3.heap.size, c0, c1, c2, c3), (w.heap.size + 1, 0, 0, 0, 0), (w.heap.size, a0, a1, a2, a3)]) (by simp)) KK.out
        refine hK.out _ _ (Or.inr HS) (fun _ => ?_)
        clear hK K HS
        have HS := And.intro (HM.out.sub (rs' := [(w3.heap.size, c0, c1, c2, c3), (w.heap.size + 1, 0, 0, 0, 0), (w.heap.size, a0, a1, a2, a3)]) (by simp)) KK.out
        refine till_take (i := 6) (v := .tuple #[.agg #[.int .u64 s0, .int .u64 s1, .int .u64 s2, .int .u64 s3], .bool true]) rfl (by kernel_rfl) (by kernel_rfl) (by kernel_rfl) (by kernel_rfl) (fun _ _ _ h => h) HS (Or.inl ⟨by kernel_rfl, fun wx hx => ?_⟩) ?_
        · clear HS hx
          go_simp
        simp only [Act.put, List.setIfInBounds_toArray, List.set_cons_zero, List.set_cons_succ]
        refine till_take (i := 7) (v := .agg #[.int .u64 s0, .int .u64 s1, .int .u64 s2, .int .u64 s3]) rfl (by kernel_rfl) (by kernel_rfl) (by kernel_rfl) (by kernel_rfl) (fun _ _ _ h => h) HS (Or.inl ⟨by kernel_rfl, fun wx hx => ?_⟩) ?_
        · clear HS hx
          go_simp
        simp only [Act.put, List.setIfInBounds_toArray, List.set_cons_zero, List.set_cons_succ]
        refine till_take (i := 8) (v := .bool true) rfl (by kernel_rfl) (by kernel_rfl) (by kernel_rfl) (by kernel_rfl) (fun _ _ _ h => h) HS (Or.inl ⟨by kernel_rfl, fun wx hx => ?_⟩) ?_
        · clear HS hx
          go_simp
        simp only [Act.put, List.setIfInBounds_toArray, List.set_cons_zero, List.set_cons_succ]
        clear HS
        have kr := HM.out.row (b := (v1.heap.size)) (c0 := 0) (c1 := 0) (c2 := 0) (c3 := 0) (by simp)
        have yl := HM.out.lt (b := (v1.heap.size)) (c0 := 0) (c1 := 0) (c2 := 0) (c3 := 0) (by simp)
        have y0 := kr.c0; have y1 := kr.c1; have y2 := kr.c2; have y3 := kr.c3; have yf := kr.fr
        clear kr
        refine till_step (i := 10) (by kernel_rfl) rfl (fun K hK => ?_)
        go_simp
        have HM' := Lib.hid (HM.out.put s0 s1 s2 s3 (by omega) (by intro r hr; simp at hr; rcases hr with rfl | rfl | rfl <;> simp <;> omega))
        have KK' := Lib.hid (KK.out.set4 (d := (v1.heap.size)) (by omega) s0 s1 s2 s3)
        clear HM KK
        have HM := HM'
        have KK := KK'
        clear HM' KK'
        have HS := And.intro (HM.out.sub (rs' := [(w3.heap.size, c0, c1, c2, c3), (w.heap.size + 1, 0, 0, 0, 0), (w.heap.size, a0, a1, a2, a3)]) (by simp)) KK.out
        refine hK.out _ _ (Or.inr HS) (fun _ => ?_)
        clear hK K HS
        refine till_step (i := 11) (by kernel_rfl) rfl (fun K hK => ?_)
        go_simp
        refine hK.out _ _ (Or.inl rfl) (fun _ => ?_)
        clear hK K
        refine till_done (by kernel_rfl) ?_
        go_wp2_with fail
        go_meet
        exact ⟨(v1.heap.size), s0, s1, s2, s3, rfl, rfl, hs, HVs, Lib.hid (HM.out.sub (by simp)), KK⟩
    · go_simp
      have HM9 := HM
      have KK9 := KK
      have HM' := Lib.hid (HM.out.new (w3.heap.size + 1) 0 0 0 0 113 (by first | rfl | (simp; done)))
      have KK' := Lib.hid (KK.out.same ((Below.refl _ _).alloc (Nat.le_refl _) (.cells #[.int .u64 (0 : Nat), .int .u64 (0 : Nat), .int .u64 (0 : Nat), .int .u64 (0 : Nat)] 113)))
      have hgk : w1.heap.size < (w3.heap.size + 1) := by first | omega | exact KK.out.lt | (have := KK.out.lt; simpa using this)
      have hgc : w3.heap.size < (w3.heap.size + 1) := by first | omega | exact HM.out.lt (b := w3.heap.size) (c0 := c0) (c1 := c1) (c2 := c2) (c3 := c3) (by simp)
      have hga : w.heap.size + 1 < (w3.heap.size + 1) := by omega
      clear HM KK
      have HM := HM'
      have KK := KK'
      clear HM' KK'
      have HS := And.intro (HM.out.sub (rs' := [(w3.heap.size, c0, c1, c2, c3), (w.heap.size + 1, 0, 0, 0, 0), (w.heap.size, a0, a1, a2, a3)]) (by simp)) KK.out
      refine hK.out _ _ (Or.inr HS) (fun _ => ?_)
      clear hK K HS
      refine till_step (i := 1) (by kernel_rfl) rfl (fun K hK => ?_)
      go_simp
      refine (into_calls F hf.ok w1.heap.size a0 a1 a2 a3 ha _ KK.out).mono ?_
      rintro e v1 ⟨i0, i1, i2, i3, rfl, hi, hv, hbl⟩
      have HVi := Lib.hid hv
      clear hv
      have HM' := Lib.hid (HM.out.on hbl)
      have KK' := Lib.hid (KK.out.same hbl)
      clear HM KK hbl
      have HM := HM'
      have KK := KK'
      clear HM' KK'
      have HS := And.intro (HM.out.sub (rs' := [(w3.heap.size, c0, c1, c2, c3), (w.heap.size + 1, 0, 0, 0, 0), (w.heap.size, a0, a1, a2, a3)]) (by simp)) KK.out
      refine hK.out _ _ (Or.inr HS) (fun _ => ?_)
      clear hK K HS
      refine till_step (i := 4) (by kernel_rfl) rfl (fun K hK => ?_)
      go_simp
      refine (into_calls F hf.ok w1.heap.size c0 c1 c2 c3 hc _ KK.out).mono ?_
      rintro e v2 ⟨j0, j1, j2, j3, rfl, hj, hv, hbl⟩
      have HVj := Lib.hid hv
      clear hv
      have HM' := Lib.hid (HM.out.on hbl)
      have KK' := Lib.hid (KK.out.same hbl)
      clear HM KK hbl
      have HM := HM'
      have KK := KK'
      clear HM' KK'
      have HS := And.intro (HM.out.sub (rs' := [(w3.heap.size, c0, c1, c2, c3), (w.heap.size + 1, 0, 0, 0, 0), (w.heap.size, a0, a1, a2, a3)]) (by simp)) KK.out
      refine hK.out _ _ (Or.inr HS) (fun _ => ?_)
      clear hK K HS
      refine till_step (i := 5) (by kernel_rfl) rfl (fun K hK => ?_)
      go_simp
      refine (root_yes F hf.ok gr HRo.out (val4 a0 a1 a2 a3) H T (val4 c0 c1 c2 c3) w1.heap.size i0 i1 i2 i3 j0 j1 j2 j3 hi hj HVi.out HVj.out hT1 hT2 HMT.out HCY.out HS2.out _ KK.out).mono ?_
      rintro e v3 ⟨s0, s1, s2, s3, R, rfl, hs, hv, hRR, hbl⟩
      have HVs := Lib.hid (show ∃ R, val4 s0 s1 s2 s3 = kp F R ∧ R * R % F.M = val4 a0 a1 a2 a3 % F.M from ⟨R, hv, hRR⟩)
      clear hv hRR
      have HM' := Lib.hid (HM.out.on hbl)
      have KK' := Lib.hid (KK.out.same hbl)
      clear HM KK hbl
      have HM := HM'
      have KK := KK'
      clear HM' KK'
      have HS := And.intro (HM.out.sub (rs' := [(w3.heap.size, c0, c1, c2, c3), (w.heap.size + 1, 0, 0, 0, 0), (w.heap.size, a0, a1, a2, a3)]) (by simp)) KK.out
      refine hK.out _ _ (Or.inr HS) (fun _ => ?_)
      clear hK K HS
      have HS := And.intro (HM.out.sub (rs' := [(w3.heap.size, c0, c1, c2, c3), (w.heap.size + 1, 0, 0, 0, 0), (w.heap.size, a0, a1, a2, a3)]) (by simp)) KK.out
      refine till_take (i := 6) (v := .tuple #[.agg #[.int .u64 s0, .int .u64 s1, .int .u64 s2, .int .u64 s3], .bool true]) rfl (by kernel_rfl) (by kernel_rfl) (by kernel_rfl) (by kernel_rfl) (fun _ _ _ h => h) HS (Or.inl ⟨by kernel_rfl, fun wx hx => ?_⟩) ?_
      · clear HS hx
        go_simp
      simp only [Act.put, List.setIfInBounds_toArray, List.set_cons_zero, List.set_cons_succ]
      refine till_take (i := 7) (v := .agg #[.int .u64 s0, .int .u64 s1, .int .u64 s2, .int .u64 s3]) rfl (by kernel_rfl) (by kernel_rfl) (by kernel_rfl) (by kernel_rfl) (fun _ _ _ h => h) HS (Or.inl ⟨by kernel_rfl, fun wx hx => ?_⟩) ?_
      · clear HS hx
        go_simp
      simp only [Act.put, List.setIfInBounds_toArray, List.set_cons_zero, List.set_cons_succ]
      refine till_take (i := 8) (v := .bool true) rfl (by kernel_rfl) (by kernel_rfl) (by kernel_rfl) (by kernel_rfl) (fun _ _ _ h => h) HS (Or.inl ⟨by kernel_rfl, fun wx hx => ?_⟩) ?_
      · clear HS hx
        go_simp
      simp only [Act.put, List.setIfInBounds_toArray, List.set_cons_zero, List.set_cons_succ]
      clear HS
      have kr := HM.out.row (b := (w3.heap.size + 1)) (c0 := 0) (c1 := 0) (c2 := 0) (c3 := 0) (by simp)
      have yl := HM.out.lt (b := (w3.heap.size + 1)) (c0 := 0) (c1 := 0) (c2 := 0) (c3 := 0) (by simp)
      have y0 := kr.c0; have y1 := kr.c1; have y2 := kr.c2; have y3 := kr.c3; have yf := kr.fr
      clear kr
      refine till_step (i := 10) (by kernel_rfl) rfl (fun K hK => ?_)
      go_simp
      have HM' := Lib.hid (HM.out.put s0 s1 s2 s3 (by omega) (by intro r hr; simp at hr; rcases hr with rfl | rfl | rfl <;> simp <;> omega))
      have KK' := Lib.hid (KK.out.set4 (d := (w3.heap.size + 1)) (by omega) s0 s1 s2 s3)
      clear HM KK
      have HM := HM'
      have KK := KK'
      clear HM' KK'
      have HS := And.intro (HM.out.sub (rs' := [(w3.heap.size, c0, c1, c2, c3), (w.heap.size + 1, 0, 0, 0, 0), (w.heap.size, a0, a1, a2, a3)]) (by simp)) KK.out
      refine hK.out _ _ (Or.inr HS) (fun _ => ?_)
      clear hK K HS
      refine till_step (i := 11) (by kernel_rfl) rfl (fun K hK => ?_)
      go_simp
      refine hK.out _ _ (Or.inl rfl) (fun _ => ?_)
      clear hK K
      refine till_done (by kernel_rfl) ?_
      go_wp2_with fail
      go_meet
      exact ⟨(w3.heap.size + 1), s0, s1, s2, s3, rfl, rfl, hs, HVs, Lib.hid (HM.out.sub (by simp)), KK⟩
  case rest =>
    obtain ⟨gb, s0, s1, s2, s3, rfl, rfl, hs, HVs, HM', KK'⟩ := hcut
    clear HM KK
    have HM := HM'
    have KK := KK'
    clear HM' KK'
    obtain ⟨R, hR1, hR2⟩ := HVs.out
    have HR1 := Lib.hid hR1
    have HR2 := Lib.hid hR2
    clear hR1 hR2 HVs
    have kr := HM.out.row (b := gb) (c0 := s0) (c1 := s1) (c2 := s2) (c3 := s3) (by simp)
    have x0 := kr.c0; have x1 := kr.c1; have x2 := kr.c2; have x3 := kr.c3
    clear kr
    have xl := HM.out.lt (b := gb) (c0 := s0) (c1 := s1) (c2 := s2) (c3 := s3) (by simp)
    go_wp2_with fail
    refine (out_calls F hf.ok w1.heap.size s0 s1 s2 s3 hs _ KK.out).mono ?_
    rintro e w5 ⟨u0, u1, u2, u3, rfl, hu, hv, hbl⟩
    have HVu := Lib.hid (show val4 u0 u1 u2 u3 = R % F.M by rw [hv, HR1.out, ← kp_mod, kp_out hf.ok _ (Nat.mod_lt _ hf.ok.pos)])
    have lu : val4 u0 u1 u2 u3 < F.M := by rw [HVu.out]; exact Nat.mod_lt _ hf.ok.pos
    have HQ := Lib.hid (show val4 u0 u1 u2 u3 * val4 u0 u1 u2 u3 % F.M = val4 a0 a1 a2 a3 by rw [HVu.out, ← Nat.mul_mod, HR2.out, Nat.mod_eq_of_lt la])
    clear hv
    have HM' := Lib.hid (HM.out.on hbl)
    have KK' := Lib.hid (KK.out.same hbl)
    have zk := KK'.out.lt
    clear HM KK hbl
    have HM := HM'
    have KK := KK'
    clear HM' KK'
    have Hlu := Lib.hid lu
    clear lu zk x0 x1 x2 x3 xl
    have wz5 : w1.heap.size < w5.heap.size := KK.out.lt
    have wz6 : w.heap.size + 1 < w5.heap.size := HM.out.lt (b := w.heap.size + 1) (c0 := 0) (c1 := 0) (c2 := 0) (c3 := 0) (by simp)
    have HM' := Lib.hid ((HM.out.new w5.heap.size u0 u1 u2 u3 24 rfl).sub (rs' := [(w5.heap.size, u0, u1, u2, u3), (w.heap.size + 1, 0, 0, 0, 0)]) (by simp))
    have KK' := Lib.hid (KK.out.same ((Below.refl _ _).alloc (Nat.le_refl _) (.cells #[.int .u64 u0, .int .u64 u1, .int .u64 u2, .int .u64 u3] 24)))
    clear HM KK
    have HM := HM'
    have KK := KK'
    clear HM' KK'
    go_wp2_with fail
    refine (isLower_calls F hf.ok w1.heap.size u0 u1 u2 u3 hu Hlu.out _ KK.out).mono ?_
    rintro e w6 ⟨he, hbl⟩
    have HM' := Lib.hid (HM.out.on hbl)
    have KK' := Lib.hid (KK.out.same hbl)
    clear HM KK hbl
    have HM := HM'
    have KK := KK'
    clear HM' KK'
    cases q : lowB F.M (val4 u0 u1 u2 u3)
    · rw [q] at he
      subst he
      have HQ2 := Lib.hid q
      clear q
      have kr := HM.out.row (b := w5.heap.size) (c0 := u0) (c1 := u1) (c2 := u2) (c3 := u3) (by simp)
      have x0 := kr.c0; have x1 := kr.c1; have x2 := kr.c2; have x3 := kr.c3
      clear kr
      have xl := HM.out.lt (b := w5.heap.size) (c0 := u0) (c1 := u1) (c2 := u2) (c3 := u3) (by simp)
      go_wp2_with fail
      refine (minus_calls F hf.ok w1.heap.size 0 0 0 0 u0 u1 u2 u3 zok hu hf.ok.pos Hlu.out _ KK.out).mono ?_
      rintro e w7 ⟨n0, n1, n2, n3, rfl, hn, hv, hbl⟩
      have HVn := Lib.hid hv
      clear hv
      have HM' := Lib.hid (HM.out.on hbl)
      have KK' := Lib.hid (KK.out.same hbl)
      have zk := KK'.out.lt
      clear HM KK hbl
      have HM := HM'
      have KK := KK'
      clear HM' KK'
      clear zk x0 x1 x2 x3 xl
      have kr := HM.out.row (b := w5.heap.size) (c0 := u0) (c1 := u1) (c2 := u2) (c3 := u3) (by simp)
      have x0 := kr.c0; have x1 := kr.c1; have x2 := kr.c2; have x3 := kr.c3; have xf := kr.fr
      clear kr
      have xl := HM.out.lt (b := w5.heap.size) (c0 := u0) (c1 := u1) (c2 := u2) (c3 := u3) (by simp)
      have kr := HM.out.row (b := w.heap.size + 1) (c0 := 0) (c1 := 0) (c2 := 0) (c3 := 0) (by simp)
      have y0 := kr.c0; have y1 := kr.c1; have y2 := kr.c2; have y3 := kr.c3; have yf := kr.fr
      clear kr
      have yl := HM.out.lt (b := w.heap.size + 1) (c0 := 0) (c1 := 0) (c2 := 0) (c3 := 0) (by simp)
      have HM' := Lib.hid (HM.out.put n0 n1 n2 n3 (by omega) (by intro r hr; simp at hr; rcases hr with rfl; simp; omega))
      have ne1 : ¬ w.heap.size + 1 = w5.heap.size := by omega
      clear HM
      have HM := HM'
      clear HM'
      go_wp2_with fail
      refine bodyPost_ret (v := .tuple #[.agg #[.int .u64 n0, .int .u64 n1, .int .u64 n2, .int .u64 n3], .int .i64 0]) (by simp [results, Try.results59, go_sem, *]) rfl ?_
      obtain ⟨v1, v2, v3⟩ := low_neg hf.ok Hlu.out HQ2.out
      refine ⟨_, ⟨_, _, _, _, rfl, hn, HVn.out, ?_⟩, ?_, v2, v3⟩
      · have HB := HM.out.1
        unfold set4 at HB
        exact below_set4 HB (by omega) _ _ _ _
      · rw [show val4 0 0 0 0 = 0 from rfl, v1, HQ.out]
    · rw [q] at he
      subst he
      have HQ2 := Lib.hid q
      clear q
      have kr := HM.out.row (b := w5.heap.size) (c0 := u0) (c1 := u1) (c2 := u2) (c3 := u3) (by simp)
      have x0 := kr.c0; have x1 := kr.c1; have x2 := kr.c2; have x3 := kr.c3
      clear kr
      have xl := HM.out.lt (b := w5.heap.size) (c0 := u0) (c1 := u1) (c2 := u2) (c3 := u3) (by simp)
      have kr := HM.out.row (b := w.heap.size + 1) (c0 := 0) (c1 := 0) (c2 := 0) (c3 := 0) (by simp)
      have y0 := kr.c0; have y1 := kr.c1; have y2 := kr.c2; have y3 := kr.c3; have yf := kr.fr
      clear kr
      have yl := HM.out.lt (b := w.heap.size + 1) (c0 := 0) (c1 := 0) (c2 := 0) (c3 := 0) (by simp)
      go_wp2_with fail
      refine bodyPost_ret (v := .tuple #[.agg #[.int .u64 u0, .int .u64 u1, .int .u64 u2, .int .u64 u3], .int .i64 0]) (by simp [results, Try.results59, go_sem, *]) rfl ?_
      refine ⟨_, ⟨_, _, _, _, rfl, hu, rfl, ?_⟩, HQ.out, Hlu.out, HQ2.out⟩
      exact below_set4 HM.out.1 (by omega) _ _ _ _
set_option maxRecDepth 100000 in
set_option maxHeartbeats 2000000 in
theorem fsqrt_no_ok (f : Int) (F : FC) (hf : FieldIs f F) (a0 a1 a2 a3 : Nat) (ha : ok4 a0 a1 a2 a3) (la : val4 a0 a1 a2 a3 < F.M) (hz : val4 a0 a1 a2 a3 ≠ 0) (hs2 : val4 a0 a1 a2 a3 ^ (F.M / 2) % F.M ≠ 1) (w : World) :
    Calls Try.prog 59 #[.int .i64 f, .agg #[.int .u64 a0, .int .u64 a1, .int .u64 a2, .int .u64 a3]] w (FeE 23 0 w) := by
  have HE := Lib.hid (show ∀ w, (Op.equalIn 10000 24 (.agg #[.int .u64 a0, .int .u64 a1, .int .u64 a2, .int .u64 a3]) (.agg #[.int .u64 0, .int .u64 0, .int .u64 0, .int .u64 0])).run Try.prog w = .ok false w from fun w => by
    have h := equalInF 9998 a0 a1 a2 a3 0 0 0 0 w
    rw [show eqW a0 a1 a2 a3 0 0 0 0 = false from eqW_false (fun q => hz (((eqW_iff ha zok).1 q).trans rfl))] at h
    exact h)
  have hG := eqGuardF
  have HS2 := Lib.hid hs2
  have HZ := Lib.hid hz
  clear hz hs2
  go_enter Try.func59, Try.ntmps59
  go_wp2_with fail
  refine (cons_some f F hf _).mono ?_
  rintro e w1 ⟨rfl, hbl⟩
  have M1 := (((Mem.nil w).new (w.heap.size) a0 a1 a2 a3 24 (by simp)).new (w.heap.size + 1) 0 0 0 0 24 (by simp)).on hbl
  clear hbl
  have z0 : w.heap.size < w1.heap.size := M1.lt (c0 := a0) (c1 := a1) (c2 := a2) (c3 := a3) (by simp)
  have z1 : w.heap.size + 1 < w1.heap.size := M1.lt (c0 := 0) (c1 := 0) (c2 := 0) (c3 := 0) (by simp)
  have HM := Lib.hid (M1.on ((Below.refl _ _).alloc (Nat.le_refl _) (.cells #[.int .u64 F.m0, .int .u64 F.m1, .int .u64 F.m2, .int .u64 F.m3, .int .u64 F.inv, .int .u64 F.s0, .int .u64 F.s1, .int .u64 F.s2, .int .u64 F.s3] 115)))
  have KK := Lib.hid (KIs.new w1 F 115)
  have kr := M1.row (b := w.heap.size) (c0 := a0) (c1 := a1) (c2 := a2) (c3 := a3) (by simp)
  have x0 := kr.c0; have x1 := kr.c1; have x2 := kr.c2; have x3 := kr.c3
  clear kr
  have xl := M1.lt (b := w.heap.size) (c0 := a0) (c1 := a1) (c2 := a2) (c3 := a3) (by simp)
  go_wp2_with fail
  refine (has_calls F hf.ok w1.heap.size a0 a1 a2 a3 ha _ KK.out).mono ?_
  rintro e w2 ⟨he, hbl⟩
  rw [show isB (val4 a0 a1 a2 a3) F.M = true from decide_eq_true la] at he
  subst he
  have HM' := Lib.hid (HM.out.on hbl)
  have KK' := Lib.hid (KK.out.same hbl)
  have zk := KK'.out.lt
  clear HM KK hbl M1
  have HM := HM'
  have KK := KK'
  clear HM' KK'
  clear x0 x1 x2 x3 xl zk
  have kr := HM.out.row (b := w.heap.size) (c0 := a0) (c1 := a1) (c2 := a2) (c3 := a3) (by simp)
  have x0 := kr.c0; have x1 := kr.c1; have x2 := kr.c2; have x3 := kr.c3
  clear kr
  have xl := HM.out.lt (b := w.heap.size) (c0 := a0) (c1 := a1) (c2 := a2) (c3 := a3) (by simp)
  have hE := HE.out
  go_wp2_with fail
  clear hE x0 x1 x2 x3 xl
  refine (cycle_calls f F hf _).mono ?_
  rintro e w3 ⟨T, H, c0, c1, c2, c3, rfl, hc, hT1, hT2, hMT, hcyc, hbl⟩
  have HMT := Lib.hid hMT
  have HCY := Lib.hid hcyc
  clear hMT hcyc
  have HM' := Lib.hid (HM.out.on hbl)
  have KK' := Lib.hid (KK.out.same hbl)
  have zk := KK'.out.lt
  clear HM KK hbl
  have HM := HM'
  have KK := KK'
  clear HM' KK'
  clear zk
  have wz : w1.heap.size < w3.heap.size := KK.out.lt
  have HM' := Lib.hid (HM.out.new w3.heap.size c0 c1 c2 c3 24 rfl)
  have KK' := Lib.hid (KK.out.same ((Below.refl _ _).alloc (Nat.le_refl _) (.cells #[.int .u64 c0, .int .u64 c1, .int .u64 c2, .int .u64 c3] 24)))
  clear HM KK
  have HM := HM'
  have KK := KK'
  clear HM' KK'
  clear HE hG
  go_upto_region 7 with fail
  go_cut [10, 11] (fun s10 s11 wx => ∃ gb s0 s1 s2 s3 : Nat, s10 = .pointer (some ⟨gb, 0, none⟩) ∧ s11 = .bool false ∧ ok4 s0 s1 s2 s3 ∧ True ∧ Hid (Mem w wx [(gb, s0, s1, s2, s3), (w.heap.size + 1, 0, 0, 0, 0)]) ∧ Hid (KIs wx w1.heap.size F))
  case first =>
    obtain ⟨gr, hroot⟩ := hf.root
    have HRo := Lib.hid hroot
    clear hroot
    refine region_till (fun wx => Mem w wx [(w3.heap.size, c0, c1, c2, c3), (w.heap.size + 1, 0, 0, 0, 0), (w.heap.size, a0, a1, a2, a3)] ∧ KIs wx w1.heap.size F) 11 (by kernel_rfl) ?_
    have HM' := Lib.hid (HM.out.drewN 1)
    have KK' := Lib.hid (KK.out.drewN 1)
    clear HM KK
    have HM := HM'
    have KK := KK'
    clear HM' KK'
    have HS := And.intro (HM.out.sub (rs' := [(w3.heap.size, c0, c1, c2, c3), (w.heap.size + 1, 0, 0, 0, 0), (w.heap.size, a0, a1, a2, a3)]) (by simp)) KK.out
    refine till_take (i := 0) (v := .agg #[.int .u64 a0, .int .u64 a1, .int .u64 a2, .int .u64 a3]) rfl (by kernel_rfl) (by kernel_rfl) (by kernel_rfl) (by kernel_rfl) (fun _ _ _ h => h) HS (Or.inl ⟨by kernel_rfl, fun wx hx => ?_⟩) ?_
    · have kr := hx.1.row (b := w.heap.size) (c0 := a0) (c1 := a1) (c2 := a2) (c3 := a3) (by simp)
      have x0 := kr.c0; have x1 := kr.c1; have x2 := kr.c2; have x3 := kr.c3
      clear kr HS hx
      go_simp
    simp only [Act.put, List.setIfInBounds_toArray, List.set_cons_zero, List.set_cons_succ]
    refine till_take (i := 2) (v := .int .i64 (T : Nat)) rfl (by kernel_rfl) (by kernel_rfl) (by kernel_rfl) (by kernel_rfl) (fun _ _ _ h => h) HS (Or.inl ⟨by kernel_rfl, fun wx hx => ?_⟩) ?_
    · clear HS hx
      go_simp
    simp only [Act.put, List.setIfInBounds_toArray, List.set_cons_zero, List.set_cons_succ]
    refine till_take (i := 3) (v := .agg #[.int .u64 c0, .int .u64 c1, .int .u64 c2, .int .u64 c3]) rfl (by kernel_rfl) (by kernel_rfl) (by kernel_rfl) (by kernel_rfl) (fun _ _ _ h => h) HS (Or.inl ⟨by kernel_rfl, fun wx hx => ?_⟩) ?_
    · have kr := hx.1.row (b := w3.heap.size) (c0 := c0) (c1 := c1) (c2 := c2) (c3 := c3) (by simp)
      have x0 := kr.c0; have x1 := kr.c1; have x2 := kr.c2; have x3 := kr.c3
      clear kr HS hx
      go_simp
    simp only [Act.put, List.setIfInBounds_toArray, List.set_cons_zero, List.set_cons_succ]
    clear HS
    refine till_two (i := 1) (j := 9) (by kernel_rfl) rfl rfl (fun K hK => ?_) (fun K hK => ?_)
    · go_simp
      refine (into_calls F hf.ok w1.heap.size a0 a1 a2 a3 ha _ KK.out).mono ?_
      rintro e v1 ⟨i0, i1, i2, i3, rfl, hi, hv, hbl⟩
      have HVi := Lib.hid hv
      clear hv
      have HM' := Lib.hid (HM.out.on hbl)
      have KK' := Lib.hid (KK.out.same hbl)
      clear HM KK hbl
      have HM := HM'
      have KK := KK'
      clear HM' KK'
      have HS := And.intro (HM.out.sub (rs' := [(w3.heap.size, c0, c1, c2, c3), (w.heap.size + 1, 0, 0, 0, 0), (w.heap.size, a0, a1, a2, a3)]) (by simp)) KK.out
      refine hK.out _ _ (Or.inr HS) (fun _ => ?_)
      clear hK K HS
      refine till_two (i := 4) (j := 9) (by kernel_rfl) rfl rfl (fun K hK => ?_) (fun K hK => ?_)
      · go_simp
        refine (into_calls F hf.ok w1.heap.size c0 c1 c2 c3 hc _ KK.out).mono ?_
        rintro e v2 ⟨j0, j1, j2, j3, rfl, hj, hv, hbl⟩
        have HVj := Lib.hid hv
        clear hv
        have HM' := Lib.hid (HM.out.on hbl)
        have KK' := Lib.hid (KK.out.same hbl)
        clear HM KK hbl
        have HM := HM'
        have KK := KK'
        clear HM' KK'
        have HS := And.intro (HM.out.sub (rs' := [(w3.heap.size, c0, c1, c2, c3), (w.heap.size + 1, 0, 0, 0, 0), (w.heap.size, a0, a1, a2, a3)]) (by simp)) KK.out
        refine hK.out _ _ (Or.inr HS) (fun _ => ?_)
        clear hK K HS
        refine till_two (i := 5) (j := 9) (by kernel_rfl) rfl rfl (fun K hK => ?_) (fun K hK => ?_)
        · go_simp
          refine (root_no F hf.ok gr HRo.out (val4 a0 a1 a2 a3) H T (val4 c0 c1 c2 c3) w1.heap.size i0 i1 i2 i3 j0 j1 j2 j3 hi hj HVi.out HVj.out hT1 hT2 HMT.out HS2.out _ KK.out).mono ?_
          rintro e v3 ⟨rfl, hbl⟩
          have HM' := Lib.hid (HM.out.on hbl)
          have KK' := Lib.hid (KK.out.same hbl)
          clear HM KK hbl
          have HM := HM'
          have KK := KK'
          clear HM' KK'
          have HS := And.intro (HM.out.sub (rs' := [(w3.heap.size, c0, c1, c2, c3), (w.heap.size + 1, 0, 0, 0, 0), (w.heap.size, a0, a1, a2, a3)]) (by simp)) KK.out
          refine hK.out _ _ (Or.inr HS) (fun _ => ?_)
          clear hK K HS
          have HS := And.intro (HM.out.sub (rs' := [(w3.heap.size, c0, c1, c2, c3), (w.heap.size + 1, 0, 0, 0, 0), (w.heap.size, a0, a1, a2, a3)]) (by simp)) KK.out
          refine till_take (i := 6) (v := .tuple #[.agg #[.int .u64 0, .int .u64 0, .int .u64 0, .int .u64 0], .bool false]) rfl (by kernel_rfl) (by kernel_rfl) (by kernel_rfl) (by kernel_rfl) (fun _ _ _ h => h) HS (Or.inl ⟨by kernel_rfl, fun wx hx => ?_⟩) ?_
          · clear HS hx
            go_simp
          simp only [Act.put, List.setIfInBounds_toArray, List.set_cons_zero, List.set_cons_succ]
          refine till_take (i := 7) (v := .agg #[.int .u64 0, .int .u64 0, .int .u64 0, .int .u64 0]) rfl (by kernel_rfl) (by kernel_rfl) (by kernel_rfl) (by kernel_rfl) (fun _ _ _ h => h) HS (Or.inl ⟨by kernel_rfl, fun wx hx => ?_⟩) ?_
          · clear HS hx
            go_simp
          simp only [Act.put, List.setIfInBounds_toArray, List.set_cons_zero, List.set_cons_succ]
          refine till_take (i := 8) (v := .bool false) rfl (by kernel_rfl) (by kernel_rfl) (by kernel_rfl) (by kernel_rfl) (fun _ _ _ h => h) HS (Or.inl ⟨by kernel_rfl, fun wx hx => ?_⟩) ?_
          · clear HS hx
            go_simp
          simp only [Act.put, List.setIfInBounds_toArray, List.set_cons_zero, List.set_cons_succ]
          clear HS
          refine till_step (i := 9) (by kernel_rfl) rfl (fun K hK => ?_)
          go_simp
          have HM9 := HM
          have KK9 := KK
          have HM' := Lib.hid (HM.out.new (v3.heap.size) 0 0 0 0 113 (by first | rfl | (simp; done)))
          have KK' := Lib.hid (KK.out.same ((Below.refl _ _).alloc (Nat.le_refl _) (.cells #[.int .u64 (0 : Nat), .int .u64 (0 : Nat), .int .u64 (0 : Nat), .int .u64 (0 : Nat)] 113)))
          have hgk : w1.heap.size < (v3.heap.size) := by first | omega | exact KK.out.lt | (have := KK.out.lt; simpa using this)
          have hgc : w3.heap.size < (v3.heap.size) := by first | omega | exact HM.out.lt (b := w3.heap.size) (c0 := c0) (c1 := c1) (c2 := c2) (c3 := c3) (by simp)
          have hga : w.heap.size + 1 < (v3.heap.size) := by omega
          clear HM KK
          have HM := HM'
          have KK := KK'
          clear HM' KK'
          have HS := And.intro (HM.out.sub (rs' := [(w3.heap.size, c0, c1, c2, c3), (w.heap.size + 1, 0, 0, 0, 0), (w.heap.size, a0, a1, a2, a3)]) (by simp)) KK.out
          refine hK.out _ _ (Or.inr HS) (fun _ => ?_)
          clear hK K HS
          have kr := HM.out.row (b := (v3.heap.size)) (c0 := 0) (c1 := 0) (c2 := 0) (c3 := 0) (by simp)
          have yl := HM.out.lt (b := (v3.heap.size)) (c0 := 0) (c1 := 0) (c2 := 0) (c3 := 0) (by simp)
          have y0 := kr.c0; have y1 := kr.c1; have y2 := kr.c2; have y3 := kr.c3; have yf := kr.fr
          clear kr
          refine till_step (i := 10) (by kernel_rfl) rfl (fun K hK => ?_)
          go_simp
          have HM' := Lib.hid (HM9.out.new (v3.heap.size) 0 0 0 0 113 (by first | rfl | (simp; done)))
          have KK' := Lib.hid (KK9.out.same ((Below.refl _ _).alloc (Nat.le_refl _) (.cells #[.int .u64 0, .int .u64 0, .int .u64 0, .int .u64 0] 113)))
          clear HM KK
          have HM := HM'
          have KK := KK'
          clear HM' KK'
          have HS := And.intro (HM.out.sub (rs' := [(w3.heap.size, c0, c1, c2, c3), (w.heap.size + 1, 0, 0, 0, 0), (w.heap.size, a0, a1, a2, a3)]) (by simp)) KK.out
          refine hK.out _ _ (Or.inr HS) (fun _ => ?_)
          clear hK K HS
          refine till_step (i := 11) (by kernel_rfl) rfl (fun K hK => ?_)
          go_simp
          refine hK.out _ _ (Or.inl rfl) (fun _ => ?_)
          clear hK K
          refine till_done (by kernel_rfl) ?_
          go_wp2_with fail
          go_meet
          exact ⟨(v3.heap.size), 0, 0, 0, 0, rfl, rfl, zok, trivial, Lib.hid (HM.out.sub (by simp)), KK⟩
        · go_simp
          have HM9 := HM
          have KK9 := KK
          have HM' := Lib.hid (HM.out.new (v2.heap.size) 0 0 0 0 113 (by first | rfl | (simp; done)))
          have KK' := Lib.hid (KK.out.same ((Below.refl _ _).alloc (Nat.le_refl _) (.cells #[.int .u64 (0 : Nat), .int .u64 (0 : Nat), .int .u64 (0 : Nat), .int .u64 (0 : Nat)] 113)))
          have hgk : w1.heap.size < (v2.heap.size) := by first | omega | exact KK.out.lt | (have := KK.out.lt; simpa using this)
          have hgc : w3.heap.size < (v2.heap.size) := by first | omega | exact HM.out.lt (b := w3.heap.size) (c0 := c0) (c1 := c1) (c2 := c2) (c3 := c3) (by simp)
          have hga : w.heap.size + 1 < (v2.heap.size) := by omega
          clear HM KK
          have HM := HM'
          have KK := KK'
          clear HM' KK'
          have HS := And.intro (HM.out.sub (rs' := [(w3.heap.size, c0, c1, c2, c3), (w.heap.size + 1, 0, 0, 0, 0), (w.heap.size, a0, a1, a2, a3)]) (by simp)) KK.out
          refine hK.out _ _ (Or.inr HS) (fun _ => ?_)
          clear hK K HS
          refine till_step (i := 5) (by kernel_rfl) rfl (fun K hK => ?_)
          go_simp
          refine (root_no F hf.ok gr HRo.out (val4 a0 a1 a2 a3) H T (val4 c0 c1 c2 c3) w1.heap.size i0 i1 i2 i3 j0 j1 j2 j3 hi hj HVi.out HVj.out hT1 hT2 HMT.out HS2.out _ KK.out).mono ?_
          rintro e v3 ⟨rfl, hbl⟩
          have HM' := Lib.hid (HM.out.on hbl)
          have KK' := Lib.hid (KK.out.same hbl)
          clear HM KK hbl
          have HM := HM'
          have KK := KK'
          clear HM' KK'
          have HS := And.intro (HM.out.sub (rs' := [(w3.heap.size, c0, c1, c2, c3), (w.heap.size + 1, 0, 0, 0, 0), (w.heap.size, a0, a1, a2, a3)]) (by simp)) KK.out
          refine hK.out _ _ (Or.inr HS) (fun _ => ?_)
          clear hK K HS
          have HS := And.intro (HM.out.sub (rs' := [(w3.heap.size, c0, c1, c2, c3), (w.heap.size + 1, 0, 0, 0, 0), (w.heap.size, a0, a1, a2, a3)]) (by simp)) KK.out
          refine till_take (i := 6) (v := .tuple #[.agg #[.int .u64 0, .int .u64 0, .int .u64 0, .int .u64 0], .bool false]) rfl (by kernel_rfl) (by kernel_rfl) (by kernel_rfl) (by kernel_rfl) (fun _ _ _ h => h) HS (Or.inl ⟨by kernel_rfl, fun wx hx => ?_⟩) ?_
          · clear HS hx
            go_simp
          simp only [Act.put, List.setIfInBounds_toArray, List.set_cons_zero, List.set_cons_succ]
          refine till_take (i := 7) (v := .agg #[.int .u64 0, .int .u64 0, .int .u64 0, .int .u64 0]) rfl (by kernel_rfl) (by kernel_rfl) (by kernel_rfl) (by kernel_rfl) (fun _ _ _ h => h) HS (Or.inl ⟨by kernel_rfl, fun wx hx => ?_⟩) ?_
          · clear HS hx
            go_simp
          simp only [Act.put, List.setIfInBounds_toArray, List.set_cons_zero, List.set_cons_succ]
          refine till_take (i := 8) (v := .bool false) rfl (by kernel_rfl) (by kernel_rfl) (by kernel_rfl) (by kernel_rfl) (fun _ _ _ h => h) HS (Or.inl ⟨by kernel_rfl, fun wx hx => ?_⟩) ?_
          · clear HS hx
            go_simp
          simp only [Act.put, List.setIfInBounds_toArray, List.set_cons_zero, List.set_cons_succ]
          clear HS
          have kr := HM.out.row (b := (v2.heap.size)) (c0 := 0) (c1 := 0) (c2 := 0) (c3 := 0) (by simp)
          have yl := HM.out.lt (b := (v2.heap.size)) (c0 := 0) (c1 := 0) (c2 := 0) (c3 := 0) (by simp)
          have y0 := kr.c0; have y1 := kr.c1; have y2 := kr.c2; have y3 := kr.c3; have yf := kr.fr
          clear kr
          refine till_step (i := 10) (by kernel_rfl) rfl (fun K hK => ?_)
          go_simp
          have HM' := Lib.hid (HM.out.put 0 0 0 0 (by omega) (by intro r hr; simp at hr; rcases hr with rfl | rfl | rfl <;> simp <;> omega))
          have KK' := Lib.hid (KK.out.set4 (d := (v2.heap.size)) (by omega) 0 0 0 0)
          clear HM KK
          have HM := HM'
          have KK := KK'
          clear HM' KK'
          have HS := And.intro (HM.out.sub (rs' := [(w3.heap.size, c0, c1, c2, c3), (w.heap.size + 1, 0, 0, 0, 0), (w.heap.size, a0, a1, a2, a3)]) (by simp)) KK.out
          refine hK.out _ _ (Or.inr HS) (fun _ => ?_)
          clear hK K HS
          refine till_step (i := 11) (by kernel_rfl) rfl (fun K hK => ?_)
          go_simp
          refine hK.out _ _ (Or.inl rfl) (fun _ => ?_)
          clear hK K
          refine till_done (by kernel_rfl) ?_
          go_wp2_with fail
          go_meet
          exact ⟨(v2.heap.size), 0, 0, 0, 0, rfl, rfl, zok, trivial, Lib.hid (HM.out.sub (by simp)), KK⟩
      · go_simp
        have HM9 := HM
        have KK9 := KK
        have HM' := Lib.hid (HM.out.new (v1.heap.size) 0 0 0 0 113 (by first | rfl | (simp; done)))
        have KK' := Lib.hid (KK.out.same ((Below.refl _ _).alloc (Nat.le_refl _) (.cells #[.int .u64 (0 : Nat), .int .u64 (0 : Nat), .int .u64 (0 : Nat), .int .u64 (0 : Nat)] 113)))
        have hgk : w1.heap.size < (v1.heap.size) := by first | omega | exact KK.out.lt | (have := KK.out.lt; simpa using this)
        have hgc : w3.heap.size < (v1.heap.size) := by first | omega | exact HM.out.lt (b := w3.heap.size) (c0 := c0) (c1 := c1) (c2 := c2) (c3 := c3) (by simp)
        have hga : w.heap.size + 1 < (v1.heap.size) := by omega
        clear HM KK
        have HM := HM'
        have KK := KK'
        clear HM' KK'
        have HS := And.intro (HM.out.sub (rs' := [(w3.heap.size, c0, c1, c2, c3), (w.heap.size + 1, 0, 0, 0, 0), (w.heap.size, a0, a1, a2, a3)]) (by simp)) KK.out
        refine hK.out _ _ (Or.inr HS) (fun _ => ?_)
        clear hK K HS
        refine till_step (i := 4) (by kernel_rfl) rfl (fun K hK => ?_)
        go_simp
        refine (into_calls F hf.ok w1.heap.size c0 c1 c2 c3 hc _ KK.out).mono ?_
        rintro e v2 ⟨j0, j1, j2, j3, rfl, hj, hv, hbl⟩
        have HVj := Lib.hid hv
        clear hv
        have HM' := Lib.hid (HM.out.on hbl)
        have KK' := Lib.hid (KK.out.same hbl)
        clear HM KK hbl
        have HM := HM'
        have KK := KK'
        clear HM' KK'
        have HS := And.intro (HM.out.sub (rs' := [(w3.heap.size, c0, c1, c2, c3), (w.heap.size + 1, 0, 0, 0, 0), (w.heap.size, a0, a1, a2, a3)]) (by simp)) KK.out
        refine hK.out _ _ (Or.inr HS) (fun _ => ?_)
        clear hK K HS
        refine till_step (i := 5) (by kernel_rfl) rfl (fun K hK => ?_)
        go_simp
        refine (root_no F hf.ok gr HRo.out (val4 a0 a1 a2 a3) H T (val4 c0 c1 c2 c3) w1.heap.size i0 i1 i2 i3 j0 j1 j2 j3 hi hj HVi.out HVj.out hT1 hT2 HMT.out HS2.out _ KK.out).mono ?_
        rintro e v3 ⟨rfl, hbl⟩
        have HM' := Lib.hid (HM.out.on hbl)
        have KK' := Lib.hid (KK.out.same hbl)
        clear HM KK hbl
        have HM := HM'
        have KK := KK'
        clear HM' KK'
        have HS := And.intro (HM.out.sub (rs' := [(w3.heap.size, c0, c1, c2, c3), (w.heap.size + 1, 0, 0, 0, 0), (w.heap.size, a0, a1, a2, a3)]) (by simp)) KK.out
        refine hK.out _ _ (Or.inr HS) (fun _ => ?_)
        clear hK K HS
        have HS := And.intro (HM.out.sub (rs' := [(w3.heap.size, c0, c1, c2, c3), (w.heap.size + 1, 0, 0, 0, 0), (w.heap.size, a0, a1, a2, a3)]) (by simp)) KK.out
        refine till_take (i := 6) (v := .tuple #[.agg #[.int .u64 0, .int .u64 0, .int .u64 0, .int .u64 0], .bool false]) rfl (by kernel_rfl) (by kernel_rfl) (by kernel_rfl) (by kernel_rfl) (fun _ _ _ h => h) HS (Or.inl ⟨by kernel_rfl, fun wx hx => ?_⟩) ?_
        · clear HS hx
          go_simp
        simp only [Act.put, List.setIfInBounds_toArray, List.set_cons_zero, List.set_cons_succ]
        refine till_take (i := 7) (v := .agg #[.int .u64 0, .int .u64 0, .int .u64 0, .int .u64 0]) rfl (by kernel_rfl) (by kernel_rfl) (by kernel_rfl) (by kernel_rfl) (fun _ _ _ h => h) HS (Or.inl ⟨by kernel_rfl, fun wx hx => ?_⟩) ?_
        · clear HS hx
          go_simp
        simp only [Act.put, List.setIfInBounds_toArray, List.set_cons_zero, List.set_cons_succ]
        refine till_take (i := 8) (v := .bool false) rfl (by kernel_rfl) (by kernel_rfl) (by kernel_rfl) (by kernel_rfl) (fun _ _ _ h => h) HS (Or.inl ⟨by kernel_rfl, fun wx hx => ?_⟩) ?_
        · clear HS hx
          go_simp
        simp only [Act.put, List.setIfInBounds_toArray, List.set_cons_zero, List.set_cons_succ]
        clear HS
        have kr := HM.out.row (b := (v1.heap.size)) (c0 := 0) (c1 := 0) (c2 := 0) (c3 := 0) (by simp)
        have yl := HM.out.lt (b := (v1.heap.size)) (c0 := 0) (c1 := 0) (c2 := 0) (c3 := 0) (by simp)
        have y0 := kr.c0; have y1 := kr.c1; have y2 := kr.c2; have y3 := kr.c3; have yf := kr.fr
        clear kr
        refine till_step (i := 10) (by kernel_rfl) rfl (fun K hK => ?_)
        go_simp
        have HM' := Lib.hid (HM.out.put 0 0 0 0 (by omega) (by intro r hr; simp at hr; rcases hr with rfl | rfl | rfl <;> simp <;> omega))
        have KK' := Lib.hid (KK.out.set4 (d := (v1.heap.size)) (by omega) 0 0 0 0)
        clear HM KK
        have HM := HM'
        have KK := KK'
        clear HM' KK'
        have HS := And.intro (HM.out.sub (rs' := [(w3.heap.size, c0, c1, c2, c3), (w.heap.size + 1, 0, 0, 0, 0), (w.heap.size, a0, a1, a2, a3)]) (by simp)) KK.out
        refine hK.out _ _ (Or.inr HS) (fun _ => ?_)
        clear hK K HS
        refine till_step (i := 11) (by kernel_rfl) rfl (fun K hK => ?_)
        go_simp
        refine hK.out _ _ (Or.inl rfl) (fun _ => ?_)
        clear hK K
        refine till_done (by kernel_rfl) ?_
        go_wp2_with fail
        go_meet
        exact ⟨(v1.heap.size), 0, 0, 0, 0, rfl, rfl, zok, trivial, Lib.hid (HM.out.sub (by simp)), KK⟩
    · go_simp
      have HM9 := HM
      have KK9 := KK
      have HM' := Lib.hid (HM.out.new (w3.heap.size + 1) 0 0 0 0 113 (by first | rfl | (simp; done)))
      have KK' := Lib.hid (KK.out.same ((Below.refl _ _).alloc (Nat.le_refl _) (.cells #[.int .u64 (0 : Nat), .int .u64 (0 : Nat), .int .u64 (0 : Nat), .int .u64 (0 : Nat)] 113)))
      have hgk : w1.heap.size < (w3.heap.size + 1) := by first | omega | exact KK.out.lt | (have := KK.out.lt; simpa using this)
      have hgc : w3.heap.size < (w3.heap.size + 1) := by first | omega | exact HM.out.lt (b := w3.heap.size) (c0 := c0) (c1 := c1) (c2 := c2) (c3 := c3) (by simp)
      have hga : w.heap.size + 1 < (w3.heap.size + 1) := by omega
      clear HM KK
      have HM := HM'
      have KK := KK'
      clear HM' KK'
      have HS := And.intro (HM.out.sub (rs' := [(w3.heap.size, c0, c1, c2, c3), (w.heap.size + 1, 0, 0, 0, 0), (w.heap.size, a0, a1, a2, a3)]) (by simp)) KK.out
      refine hK.out _ _ (Or.inr HS) (fun _ => ?_)
      clear hK K HS
      refine till_step (i := 1) (by kernel_rfl) rfl (fun K hK => ?_)
      go_simp
      refine (into_calls F hf.ok w1.heap.size a0 a1 a2 a3 ha _ KK.out).mono ?_
      rintro e v1 ⟨i0, i1, i2, i3, rfl, hi, hv, hbl⟩
      have HVi := Lib.hid hv
      clear hv
      have HM' := Lib.hid (HM.out.on hbl)
      have KK' := Lib.hid (KK.out.same hbl)
      clear HM KK hbl
      have HM := HM'
      have KK := KK'
      clear HM' KK'
      have HS := And.intro (HM.out.sub (rs' := [(w3.heap.size, c0, c1, c2, c3), (w.heap.size + 1, 0, 0, 0, 0), (w.heap.size, a0, a1, a2, a3)]) (by simp)) KK.out
      refine hK.out _ _ (Or.inr HS) (fun _ => ?_)
      clear hK K HS
      refine till_step (i := 4) (by kernel_rfl) rfl (fun K hK => ?_)
      go_simp
      refine (into_calls F hf.ok w1.heap.size c0 c1 c2 c3 hc _ KK.out).mono ?_
      rintro e v2 ⟨j0, j1, j2, j3, rfl, hj, hv, hbl⟩
      have HVj := Lib.hid hv
      clear hv
      have HM' := Lib.hid (HM.out.on hbl)
      have KK' := Lib.hid (KK.out.same hbl)
      clear HM KK hbl
      have HM := HM'
      have KK := KK'
      clear HM' KK'
      have HS := And.intro (HM.out.sub (rs' := [(w3.heap.size, c0, c1, c2, c3), (w.heap.size + 1, 0, 0, 0, 0), (w.heap.size, a0, a1, a2, a3)]) (by simp)) KK.out
      refine hK.out _ _ (Or.inr HS) (fun _ => ?_)
      clear hK K HS
      refine till_step (i := 5) (by kernel_rfl) rfl (fun K hK => ?_)
      go_simp
      refine (root_no F hf.ok gr HRo.out (val4 a0 a1 a2 a3) H T (val4 c0 c1 c2 c3) w1.heap.size i0 i1 i2 i3 j0 j1 j2 j3 hi hj HVi.out HVj.out hT1 hT2 HMT.out HS2.out _ KK.out).mono ?_
      rintro e v3 ⟨rfl, hbl⟩
      have HM' := Lib.hid (HM.out.on hbl)
      have KK' := Lib.hid (KK.out.same hbl)
      clear HM KK hbl
      have HM := HM'
      have KK := KK'
      clear HM' KK'
      have HS := And.intro (HM.out.sub (rs' := [(w3.heap.size, c0, c1, c2, c3), (w.heap.size + 1, 0, 0, 0, 0), (w.heap.size, a0, a1, a2, a3)]) (by simp)) KK.out
      refine hK.out _ _ (Or.inr HS) (fun _ => ?_)
      clear hK K HS
      have HS := And.intro (HM.out.sub (rs' := [(w3.heap.size, c0, c1, c2, c3), (w.heap.size + 1, 0, 0, 0, 0), (w.heap.size, a0, a1, a2, a3)]) (by simp)) KK.out
      refine till_take (i := 6) (v := .tuple #[.agg #[.int .u64 0, .int .u64 0, .int .u64 0, .int .u64 0], .bool false]) rfl (by kernel_rfl) (by kernel_rfl) (by kernel_rfl) (by kernel_rfl) (fun _ _ _ h => h) HS (Or.inl ⟨by kernel_rfl, fun wx hx => ?_⟩) ?_
      · clear HS hx
        go_simp
      simp only [Act.put, List.setIfInBounds_toArray, List.set_cons_zero, List.set_cons_succ]
      refine till_take (i := 7) (v := .agg #[.int .u64 0, .int .u64 0, .int .u64 0, .int .u64 0]) rfl (by kernel_rfl) (by kernel_rfl) (by kernel_rfl) (by kernel_rfl) (fun _ _ _ h => h) HS (Or.inl ⟨by kernel_rfl, fun wx hx => ?_⟩) ?_
      · clear HS hx
        go_simp
      simp only [Act.put, List.setIfInBounds_toArray, List.set_cons_zero, List.set_cons_succ]
      refine till_take (i := 8) (v := .bool false) rfl (by kernel_rfl) (by kernel_rfl) (by kernel_rfl) (by kernel_rfl) (fun _ _ _ h => h) HS (Or.inl ⟨by kernel_rfl, fun wx hx => ?_⟩) ?_
      · clear HS hx
        go_simp
      simp only [Act.put, List.setIfInBounds_toArray, List.set_cons_zero, List.set_cons_succ]
      clear HS
      have kr := HM.out.row (b := (w3.heap.size + 1)) (c0 := 0) (c1 := 0) (c2 := 0) (c3 := 0) (by simp)
      have yl := HM.out.lt (b := (w3.heap.size + 1)) (c0 := 0) (c1 := 0) (c2 := 0) (c3 := 0) (by simp)
      have y0 := kr.c0; have y1 := kr.c1; have y2 := kr.c2; have y3 := kr.c3; have yf := kr.fr
      clear kr
      refine till_step (i := 10) (by kernel_rfl) rfl (fun K hK => ?_)
      go_simp
      have HM' := Lib.hid (HM.out.put 0 0 0 0 (by omega) (by intro r hr; simp at hr; rcases hr with rfl | rfl | rfl <;> simp <;> omega))
      have KK' := Lib.hid (KK.out.set4 (d := (w3.heap.size + 1)) (by omega) 0 0 0 0)
      clear HM KK
      have HM := HM'
      have KK := KK'
      clear HM' KK'
      have HS := And.intro (HM.out.sub (rs' := [(w3.heap.size, c0, c1, c2, c3), (w.heap.size + 1, 0, 0, 0, 0), (w.heap.size, a0, a1, a2, a3)]) (by simp)) KK.out
      refine hK.out _ _ (Or.inr HS) (fun _ => ?_)
      clear hK K HS
      refine till_step (i := 11) (by kernel_rfl) rfl (fun K hK => ?_)
      go_simp
      refine hK.out _ _ (Or.inl rfl) (fun _ => ?_)
      clear hK K
      refine till_done (by kernel_rfl) ?_
      go_wp2_with fail
      go_meet
      exact ⟨(w3.heap.size + 1), 0, 0, 0, 0, rfl, rfl, zok, trivial, Lib.hid (HM.out.sub (by simp)), KK⟩
  case rest =>
    obtain ⟨gb, s0, s1, s2, s3, rfl, rfl, hs, _, HM', KK'⟩ := hcut
    clear HM KK
    have HM := HM'
    have KK := KK'
    clear HM' KK'
    have kr := HM.out.row (b := w.heap.size + 1) (c0 := 0) (c1 := 0) (c2 := 0) (c3 := 0) (by simp)
    have y0 := kr.c0; have y1 := kr.c1; have y2 := kr.c2; have y3 := kr.c3; have yf := kr.fr
    clear kr
    have yl := HM.out.lt (b := w.heap.size + 1) (c0 := 0) (c1 := 0) (c2 := 0) (c3 := 0) (by simp)
    go_wp2_with fail
    refine bodyPost_ret (v := .tuple #[.agg #[.int .u64 0, .int .u64 0, .int .u64 0, .int .u64 0], .int .i64 23]) (by simp [results, Try.results59, go_sem, *]) rfl ?_
    refine ⟨_, _, _, _, rfl, zok, rfl, ?_⟩
    exact below_set4 HM.out.1 (by omega) 0 0 0 0
end Go.Proofs.Ytebaoemoeckgaaa
