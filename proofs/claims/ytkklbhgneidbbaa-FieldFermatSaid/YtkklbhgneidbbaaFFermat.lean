/-
  THE STATEMENT FieldFermat: for either field and any element, or none, and any two numbers: a power by the modulus is the element, by a sum the product of powers: the law answers true. Conditions: words below 2^64.
-/
import Derived.Test.YtkklbhgneidbbaaFRingA
namespace Go.Proofs.Ytkklbhgneidbbaa
set_option linter.unusedVariables false
set_option linter.unusedSimpArgs false
open Go.RowKit

theorem fe_mod {M g : Nat} (hr : Root M g) {A : Nat} (h : A < M) : A ^ M % M = A := by
  rcases Nat.eq_zero_or_pos A with q | q
  · subst q; rw [Nat.zero_pow h, Nat.zero_mod]
  · have e : A ^ M = A ^ (M - 1) * A := by rw [← Nat.pow_succ]; congr 1; omega
    rw [e, Nat.mul_mod, fermat hr q h, Nat.one_mul, Nat.mod_mod, Nat.mod_eq_of_lt h]
theorem fe_sum (M A m n : Nat) : A ^ m % M * (A ^ n % M) % M = A ^ (m + n) % M := (pow_add_mod A m n M).symm
theorem fe_turn (M A m n : Nat) : (A ^ m % M) ^ n % M = (A ^ n % M) ^ m % M := by rw [pmod_mod, pmod_mod, ← Nat.pow_mul, ← Nat.pow_mul, Nat.mul_comm]
theorem val4_low (n : Nat) : val4 n 0 0 0 = n := by unfold val4; omega
set_option maxRecDepth 100000 in
set_option maxHeartbeats 8000000 in
theorem fermat_bad (f : Int) (a0 a1 a2 a3 m n : Nat) (ha : ok4 a0 a1 a2 a3) (hm : m < 18446744073709551616) (hn : n < 18446744073709551616) (c : Int) (h : Bad1 f (val4 a0 a1 a2 a3) c) (w : World) :
    Calls Try.prog 8 #[.int .i64 f, .agg #[.int .u64 a0, .int .u64 a1, .int .u64 a2, .int .u64 a3], .int .u64 m, .int .u64 n] w fun e w' => e = .returned (.bool true) ∧ Below w.heap.size w w' := by
  have t0 : (c != 0) = true := by have := h.ne; simp [this]
  have HBAD := Lib.hid h
  clear h
  go_enter Try.func8, Try.ntmps8
  go_wp2_with fail
  have HM := Lib.hid ((Mem.nil w).new (w.heap.size) a0 a1 a2 a3 25 (by simp))
  refine (works_calls _).mono ?_
  rintro e w1 ⟨rfl, hbl⟩
  have MP' := Lib.hid (HM.out.on hbl)
  clear hbl HM
  have MP := MP'
  clear MP'
  have HM := MP
  have kr := MP.out.row (b := w.heap.size) (c0 := a0) (c1 := a1) (c2 := a2) (c3 := a3) (by simp)
  have Fa0 := kr.c0; have Fa1 := kr.c1; have Fa2 := kr.c2; have Fa3 := kr.c3
  clear kr
  have Fal := MP.out.lt (b := w.heap.size) (c0 := a0) (c1 := a1) (c2 := a2) (c3 := a3) (by simp)
  go_wp2_with fail
  refine (fcheck_err f c a0 a1 a2 a3 ha HBAD.out _).mono ?_
  rintro e w2 ⟨rfl, hbl⟩
  have MP' := Lib.hid (HM.out.on hbl)
  clear hbl HM MP Fa0 Fa1 Fa2 Fa3 Fal
  have MP := MP'
  clear MP'
  have HM := MP
  go_wp2_with fail
  go_ret
  exact ⟨rfl, HM.out.1⟩
set_option maxRecDepth 100000 in
set_option maxHeartbeats 8000000 in
theorem fermat_main (f : Int) (a0 a1 a2 a3 m n : Nat) (ha : ok4 a0 a1 a2 a3) (hm : m < 18446744073709551616) (hn : n < 18446744073709551616) (F : FC) (hf : FieldIs f F) (la : val4 a0 a1 a2 a3 < F.M) (w : World) :
    Calls Try.prog 8 #[.int .i64 f, .agg #[.int .u64 a0, .int .u64 a1, .int .u64 a2, .int .u64 a3], .int .u64 m, .int .u64 n] w fun e w' => e = .returned (.bool true) ∧ Below w.heap.size w w' := by
  have hG := eqGuardF
  have hS := equalSelfF
  have hpos := hf.ok.pos
  obtain ⟨gr, hroot⟩ := hf.root
  have HRo := Lib.hid hroot
  obtain ⟨m1, em, bm⟩ : ∃ m1 : Nat, (m : Int) / 2 = (m1 : Int) ∧ m1 < 9223372036854775808 := ⟨m / 2, by omega, by omega⟩
  obtain ⟨n1, en, bn⟩ : ∃ n1 : Nat, (n : Int) / 2 = (n1 : Int) ∧ n1 < 9223372036854775808 := ⟨n / 2, by omega, by omega⟩
  obtain ⟨k, ek, bk⟩ : ∃ k : Nat, (m1 : Int) + (n1 : Int) = (k : Int) ∧ Hid (k = m1 + n1) := ⟨m1 + n1, by omega, Lib.hid rfl⟩
  have hk : k < 18446744073709551616 := by have := bk.out; omega
  clear hroot
  go_enter Try.func8, Try.ntmps8
  go_wp2_with fail
  have HM := Lib.hid ((Mem.nil w).new (w.heap.size) a0 a1 a2 a3 25 (by simp))
  refine (works_calls _).mono ?_
  rintro e w1 ⟨rfl, hbl⟩
  have MP' := Lib.hid (HM.out.on hbl)
  clear hbl HM
  have MP := MP'
  clear MP'
  have HM := MP
  have kr := MP.out.row (b := w.heap.size) (c0 := a0) (c1 := a1) (c2 := a2) (c3 := a3) (by simp)
  have Fa0 := kr.c0; have Fa1 := kr.c1; have Fa2 := kr.c2; have Fa3 := kr.c3
  clear kr
  have Fal := MP.out.lt (b := w.heap.size) (c0 := a0) (c1 := a1) (c2 := a2) (c3 := a3) (by simp)
  go_wp2_with fail
  refine (fcheck_ok f F hf a0 a1 a2 a3 ha la _).mono ?_
  rintro e w2 ⟨rfl, hbl⟩
  have MP' := Lib.hid (HM.out.on hbl)
  clear hbl HM MP Fa0 Fa1 Fa2 Fa3 Fal
  have MP := MP'
  clear MP'
  have HM := MP
  clear MP
  go_upto_region 6 with fail
  go_cut [9, 10] (fun s9 s10 wx => ∃ gb s0 s1 s2 s3 : Nat, s9 = .pointer (some ⟨gb, 0, none⟩) ∧ s10 = .int .i64 0 ∧ ok4 s0 s1 s2 s3 ∧ Hid (val4 s0 s1 s2 s3 = val4 a0 a1 a2 a3) ∧ Hid (Mem w wx [(gb, s0, s1, s2, s3), (w.heap.size, a0, a1, a2, a3)]))
  case first =>
    refine region_till (fun wx => Mem w wx [(w.heap.size, a0, a1, a2, a3)]) 10 (by kernel_rfl) ?_
    have HM' := Lib.hid (HM.out.drewN 1)
    clear HM
    have HM := HM'
    clear HM'
    have HS := HM.out.sub (rs' := [(w.heap.size, a0, a1, a2, a3)]) (by simp)
    refine till_take (i := 0) (v := .int .i64 f) rfl (by kernel_rfl) (by kernel_rfl) (by kernel_rfl) (by kernel_rfl) (fun _ _ _ h => h) HS (Or.inl ⟨by kernel_rfl, fun wx hx => ?_⟩) ?_
    · clear HS hx
      go_simp
    simp only [Act.put, List.setIfInBounds_toArray, List.set_cons_zero, List.set_cons_succ]
    refine till_take (i := 1) (v := .agg #[.int .u64 a0, .int .u64 a1, .int .u64 a2, .int .u64 a3]) rfl (by kernel_rfl) (by kernel_rfl) (by kernel_rfl) (by kernel_rfl) (fun _ _ _ h => h) HS (Or.inl ⟨by kernel_rfl, fun wx hx => ?_⟩) ?_
    · have kr := hx.row (b := w.heap.size) (c0 := a0) (c1 := a1) (c2 := a2) (c3 := a3) (by simp)
      have x0 := kr.c0; have x1 := kr.c1; have x2 := kr.c2; have x3 := kr.c3
      clear kr HS hx
      go_simp
    simp only [Act.put, List.setIfInBounds_toArray, List.set_cons_zero, List.set_cons_succ]
    refine till_take (i := 2) (v := .int .i64 f) rfl (by kernel_rfl) (by kernel_rfl) (by kernel_rfl) (by kernel_rfl) (fun _ _ _ h => h) HS (Or.inl ⟨by kernel_rfl, fun wx hx => ?_⟩) ?_
    · clear HS hx
      go_simp
    simp only [Act.put, List.setIfInBounds_toArray, List.set_cons_zero, List.set_cons_succ]
    clear HS
    refine till_two (i := 3) (j := 8) (by kernel_rfl) rfl rfl (fun K hK => ?_) (fun K hK => ?_)
    · go_simp
      refine (fmodulus_some f F hf _).mono ?_
      rintro e v1 ⟨rfl, hbl⟩
      have HM' := Lib.hid (HM.out.on hbl)
      clear HM hbl
      have HM := HM'
      clear HM'
      have HS := (HM.out.sub (rs' := [(w.heap.size, a0, a1, a2, a3)]) (by simp))
      refine hK.out _ _ (Or.inr HS) (fun _ => ?_)
      clear hK K HS
      refine till_two (i := 4) (j := 8) (by kernel_rfl) rfl rfl (fun K hK => ?_) (fun K hK => ?_)
      · go_simp
        refine (fexp_ok f F hf a0 a1 a2 a3 F.m0 F.m1 F.m2 F.m3 ha hf.ok.okm la _).mono ?_
        rintro e v2 ⟨s0, s1, s2, s3, rfl, hs, hv, hbl⟩
        have HVs := Lib.hid (show val4 s0 s1 s2 s3 = val4 a0 a1 a2 a3 from hv.trans (fe_mod HRo.out la))
        clear hv
        have HM' := Lib.hid (HM.out.on hbl)
        clear HM hbl
        have HM := HM'
        clear HM'
        have HS := (HM.out.sub (rs' := [(w.heap.size, a0, a1, a2, a3)]) (by simp))
        refine hK.out _ _ (Or.inr HS) (fun _ => ?_)
        clear hK K HS
        have HS := HM.out.sub (rs' := [(w.heap.size, a0, a1, a2, a3)]) (by simp)
        refine till_take (i := 5) (v := .tuple #[.agg #[.int .u64 s0, .int .u64 s1, .int .u64 s2, .int .u64 s3], .int .i64 0]) rfl (by kernel_rfl) (by kernel_rfl) (by kernel_rfl) (by kernel_rfl) (fun _ _ _ h => h) HS (Or.inl ⟨by kernel_rfl, fun wx hx => ?_⟩) ?_
        · clear HS hx
          go_simp
        simp only [Act.put, List.setIfInBounds_toArray, List.set_cons_zero, List.set_cons_succ]
        refine till_take (i := 6) (v := .agg #[.int .u64 s0, .int .u64 s1, .int .u64 s2, .int .u64 s3]) rfl (by kernel_rfl) (by kernel_rfl) (by kernel_rfl) (by kernel_rfl) (fun _ _ _ h => h) HS (Or.inl ⟨by kernel_rfl, fun wx hx => ?_⟩) ?_
        · clear HS hx
          go_simp
        simp only [Act.put, List.setIfInBounds_toArray, List.set_cons_zero, List.set_cons_succ]
        refine till_take (i := 7) (v := .int .i64 0) rfl (by kernel_rfl) (by kernel_rfl) (by kernel_rfl) (by kernel_rfl) (fun _ _ _ h => h) HS (Or.inl ⟨by kernel_rfl, fun wx hx => ?_⟩) ?_
        · clear HS hx
          go_simp
        simp only [Act.put, List.setIfInBounds_toArray, List.set_cons_zero, List.set_cons_succ]
        clear HS
        refine till_step (i := 8) (by kernel_rfl) rfl (fun K hK => ?_)
        go_simp
        have HM9 := HM
        have HM' := Lib.hid (HM.out.new (v2.heap.size) 0 0 0 0 25 (by first | rfl | (simp; done)))
        have hga : w.heap.size < (v2.heap.size) := by first | exact HM.out.lt (b := w.heap.size) (c0 := a0) (c1 := a1) (c2 := a2) (c3 := a3) (by simp) | simpa using HM.out.lt (b := w.heap.size) (c0 := a0) (c1 := a1) (c2 := a2) (c3 := a3) (by simp)
        clear HM
        have HM := HM'
        clear HM'
        have HS := (HM.out.sub (rs' := [(w.heap.size, a0, a1, a2, a3)]) (by simp))
        refine hK.out _ _ (Or.inr HS) (fun _ => ?_)
        clear hK K HS
        have kr := HM.out.row (b := (v2.heap.size)) (c0 := 0) (c1 := 0) (c2 := 0) (c3 := 0) (by simp)
        have yl := HM.out.lt (b := (v2.heap.size)) (c0 := 0) (c1 := 0) (c2 := 0) (c3 := 0) (by simp)
        have y0 := kr.c0; have y1 := kr.c1; have y2 := kr.c2; have y3 := kr.c3; have yf := kr.fr
        clear kr
        refine till_step (i := 9) (by kernel_rfl) rfl (fun K hK => ?_)
        go_simp
        have HM' := Lib.hid (HM9.out.new (v2.heap.size) s0 s1 s2 s3 25 (by first | rfl | (simp; done)))
        clear HM
        have HM := HM'
        clear HM'
        have HS := (HM.out.sub (rs' := [(w.heap.size, a0, a1, a2, a3)]) (by simp))
        refine hK.out _ _ (Or.inr HS) (fun _ => ?_)
        clear hK K HS
        refine till_step (i := 10) (by kernel_rfl) rfl (fun K hK => ?_)
        go_simp
        refine hK.out _ _ (Or.inl rfl) (fun _ => ?_)
        clear hK K
        refine till_done (by kernel_rfl) ?_
        go_wp2_with fail
        go_meet
        exact ⟨(v2.heap.size), s0, s1, s2, s3, rfl, rfl, hs, HVs, HM⟩
      · go_simp
        have HM9 := HM
        have HM' := Lib.hid (HM.out.new (v1.heap.size) 0 0 0 0 25 (by first | rfl | (simp; done)))
        have hga : w.heap.size < (v1.heap.size) := by first | exact HM.out.lt (b := w.heap.size) (c0 := a0) (c1 := a1) (c2 := a2) (c3 := a3) (by simp) | simpa using HM.out.lt (b := w.heap.size) (c0 := a0) (c1 := a1) (c2 := a2) (c3 := a3) (by simp)
        clear HM
        have HM := HM'
        clear HM'
        have HS := (HM.out.sub (rs' := [(w.heap.size, a0, a1, a2, a3)]) (by simp))
        refine hK.out _ _ (Or.inr HS) (fun _ => ?_)
        clear hK K HS
        refine till_step (i := 4) (by kernel_rfl) rfl (fun K hK => ?_)
        go_simp
        refine (fexp_ok f F hf a0 a1 a2 a3 F.m0 F.m1 F.m2 F.m3 ha hf.ok.okm la _).mono ?_
        rintro e v2 ⟨s0, s1, s2, s3, rfl, hs, hv, hbl⟩
        have HVs := Lib.hid (show val4 s0 s1 s2 s3 = val4 a0 a1 a2 a3 from hv.trans (fe_mod HRo.out la))
        clear hv
        have HM' := Lib.hid (HM.out.on hbl)
        clear HM hbl
        have HM := HM'
        clear HM'
        have HS := (HM.out.sub (rs' := [(w.heap.size, a0, a1, a2, a3)]) (by simp))
        refine hK.out _ _ (Or.inr HS) (fun _ => ?_)
        clear hK K HS
        have HS := HM.out.sub (rs' := [(w.heap.size, a0, a1, a2, a3)]) (by simp)
        refine till_take (i := 5) (v := .tuple #[.agg #[.int .u64 s0, .int .u64 s1, .int .u64 s2, .int .u64 s3], .int .i64 0]) rfl (by kernel_rfl) (by kernel_rfl) (by kernel_rfl) (by kernel_rfl) (fun _ _ _ h => h) HS (Or.inl ⟨by kernel_rfl, fun wx hx => ?_⟩) ?_
        · clear HS hx
          go_simp
        simp only [Act.put, List.setIfInBounds_toArray, List.set_cons_zero, List.set_cons_succ]
        refine till_take (i := 6) (v := .agg #[.int .u64 s0, .int .u64 s1, .int .u64 s2, .int .u64 s3]) rfl (by kernel_rfl) (by kernel_rfl) (by kernel_rfl) (by kernel_rfl) (fun _ _ _ h => h) HS (Or.inl ⟨by kernel_rfl, fun wx hx => ?_⟩) ?_
        · clear HS hx
          go_simp
        simp only [Act.put, List.setIfInBounds_toArray, List.set_cons_zero, List.set_cons_succ]
        refine till_take (i := 7) (v := .int .i64 0) rfl (by kernel_rfl) (by kernel_rfl) (by kernel_rfl) (by kernel_rfl) (fun _ _ _ h => h) HS (Or.inl ⟨by kernel_rfl, fun wx hx => ?_⟩) ?_
        · clear HS hx
          go_simp
        simp only [Act.put, List.setIfInBounds_toArray, List.set_cons_zero, List.set_cons_succ]
        clear HS
        have kr := HM.out.row (b := (v1.heap.size)) (c0 := 0) (c1 := 0) (c2 := 0) (c3 := 0) (by simp)
        have yl := HM.out.lt (b := (v1.heap.size)) (c0 := 0) (c1 := 0) (c2 := 0) (c3 := 0) (by simp)
        have y0 := kr.c0; have y1 := kr.c1; have y2 := kr.c2; have y3 := kr.c3; have yf := kr.fr
        clear kr
        refine till_step (i := 9) (by kernel_rfl) rfl (fun K hK => ?_)
        go_simp
        have HM' := Lib.hid (HM.out.put s0 s1 s2 s3 (by omega) (by intro r hr; simp at hr; rcases hr with rfl <;> simp <;> omega))
        clear HM
        have HM := HM'
        clear HM'
        have HS := (HM.out.sub (rs' := [(w.heap.size, a0, a1, a2, a3)]) (by simp))
        refine hK.out _ _ (Or.inr HS) (fun _ => ?_)
        clear hK K HS
        refine till_step (i := 10) (by kernel_rfl) rfl (fun K hK => ?_)
        go_simp
        refine hK.out _ _ (Or.inl rfl) (fun _ => ?_)
        clear hK K
        refine till_done (by kernel_rfl) ?_
        go_wp2_with fail
        go_meet
        exact ⟨(v1.heap.size), s0, s1, s2, s3, rfl, rfl, hs, HVs, HM⟩
    · go_simp
      have HM9 := HM
      have HM' := Lib.hid (HM.out.new (w2.heap.size) 0 0 0 0 25 (by first | rfl | (simp; done)))
      have hga : w.heap.size < (w2.heap.size) := by first | exact HM.out.lt (b := w.heap.size) (c0 := a0) (c1 := a1) (c2 := a2) (c3 := a3) (by simp) | simpa using HM.out.lt (b := w.heap.size) (c0 := a0) (c1 := a1) (c2 := a2) (c3 := a3) (by simp)
      clear HM
      have HM := HM'
      clear HM'
      have HS := (HM.out.sub (rs' := [(w.heap.size, a0, a1, a2, a3)]) (by simp))
      refine hK.out _ _ (Or.inr HS) (fun _ => ?_)
      clear hK K HS
      refine till_step (i := 3) (by kernel_rfl) rfl (fun K hK => ?_)
      go_simp
      refine (fmodulus_some f F hf _).mono ?_
      rintro e v1 ⟨rfl, hbl⟩
      have HM' := Lib.hid (HM.out.on hbl)
      clear HM hbl
      have HM := HM'
      clear HM'
      have HS := (HM.out.sub (rs' := [(w.heap.size, a0, a1, a2, a3)]) (by simp))
      refine hK.out _ _ (Or.inr HS) (fun _ => ?_)
      clear hK K HS
      refine till_step (i := 4) (by kernel_rfl) rfl (fun K hK => ?_)
      go_simp
      refine (fexp_ok f F hf a0 a1 a2 a3 F.m0 F.m1 F.m2 F.m3 ha hf.ok.okm la _).mono ?_
      rintro e v2 ⟨s0, s1, s2, s3, rfl, hs, hv, hbl⟩
      have HVs := Lib.hid (show val4 s0 s1 s2 s3 = val4 a0 a1 a2 a3 from hv.trans (fe_mod HRo.out la))
      clear hv
      have HM' := Lib.hid (HM.out.on hbl)
      clear HM hbl
      have HM := HM'
      clear HM'
      have HS := (HM.out.sub (rs' := [(w.heap.size, a0, a1, a2, a3)]) (by simp))
      refine hK.out _ _ (Or.inr HS) (fun _ => ?_)
      clear hK K HS
      have HS := HM.out.sub (rs' := [(w.heap.size, a0, a1, a2, a3)]) (by simp)
      refine till_take (i := 5) (v := .tuple #[.agg #[.int .u64 s0, .int .u64 s1, .int .u64 s2, .int .u64 s3], .int .i64 0]) rfl (by kernel_rfl) (by kernel_rfl) (by kernel_rfl) (by kernel_rfl) (fun _ _ _ h => h) HS (Or.inl ⟨by kernel_rfl, fun wx hx => ?_⟩) ?_
      · clear HS hx
        go_simp
      simp only [Act.put, List.setIfInBounds_toArray, List.set_cons_zero, List.set_cons_succ]
      refine till_take (i := 6) (v := .agg #[.int .u64 s0, .int .u64 s1, .int .u64 s2, .int .u64 s3]) rfl (by kernel_rfl) (by kernel_rfl) (by kernel_rfl) (by kernel_rfl) (fun _ _ _ h => h) HS (Or.inl ⟨by kernel_rfl, fun wx hx => ?_⟩) ?_
      · clear HS hx
        go_simp
      simp only [Act.put, List.setIfInBounds_toArray, List.set_cons_zero, List.set_cons_succ]
      refine till_take (i := 7) (v := .int .i64 0) rfl (by kernel_rfl) (by kernel_rfl) (by kernel_rfl) (by kernel_rfl) (fun _ _ _ h => h) HS (Or.inl ⟨by kernel_rfl, fun wx hx => ?_⟩) ?_
      · clear HS hx
        go_simp
      simp only [Act.put, List.setIfInBounds_toArray, List.set_cons_zero, List.set_cons_succ]
      clear HS
      have kr := HM.out.row (b := (w2.heap.size)) (c0 := 0) (c1 := 0) (c2 := 0) (c3 := 0) (by simp)
      have yl := HM.out.lt (b := (w2.heap.size)) (c0 := 0) (c1 := 0) (c2 := 0) (c3 := 0) (by simp)
      have y0 := kr.c0; have y1 := kr.c1; have y2 := kr.c2; have y3 := kr.c3; have yf := kr.fr
      clear kr
      refine till_step (i := 9) (by kernel_rfl) rfl (fun K hK => ?_)
      go_simp
      have HM' := Lib.hid (HM.out.put s0 s1 s2 s3 (by omega) (by intro r hr; simp at hr; rcases hr with rfl <;> simp <;> omega))
      clear HM
      have HM := HM'
      clear HM'
      have HS := (HM.out.sub (rs' := [(w.heap.size, a0, a1, a2, a3)]) (by simp))
      refine hK.out _ _ (Or.inr HS) (fun _ => ?_)
      clear hK K HS
      refine till_step (i := 10) (by kernel_rfl) rfl (fun K hK => ?_)
      go_simp
      refine hK.out _ _ (Or.inl rfl) (fun _ => ?_)
      clear hK K
      refine till_done (by kernel_rfl) ?_
      go_wp2_with fail
      go_meet
      exact ⟨(w2.heap.size), s0, s1, s2, s3, rfl, rfl, hs, HVs, HM⟩
  case rest =>
    obtain ⟨gb, s0, s1, s2, s3, rfl, rfl, hs, HVs, HM'⟩ := hcut
    obtain ⟨rfl, rfl, rfl, rfl⟩ := val4_inj ha hs HVs.out.symm
    clear HM HVs hs
    have HM := HM'
    have MP := HM
    clear HM'
    have kr := MP.out.row (b := w.heap.size) (c0 := a0) (c1 := a1) (c2 := a2) (c3 := a3) (by simp)
    have Fa0 := kr.c0; have Fa1 := kr.c1; have Fa2 := kr.c2; have Fa3 := kr.c3
    clear kr
    have Fal := MP.out.lt (b := w.heap.size) (c0 := a0) (c1 := a1) (c2 := a2) (c3 := a3) (by simp)
    go_wp2_with fail
    refine (fexp_ok f F hf a0 a1 a2 a3 m1 0 0 0 ha ⟨by omega, by omega, by omega, by omega⟩ la _).mono ?_
    rintro e w11 ⟨x0, x1, x2, x3, rfl, hx, hv, hbl⟩
    have Vx := Lib.hid (show val4 x0 x1 x2 x3 = val4 a0 a1 a2 a3 ^ m1 % F.M by rw [hv, val4_low])
    have lx : val4 x0 x1 x2 x3 < F.M := by rw [hv]; exact Nat.mod_lt _ hpos
    clear hv
    have MP' := Lib.hid (HM.out.on hbl)
    clear hbl HM MP Fa0 Fa1 Fa2 Fa3 Fal
    have MP := MP'
    clear MP'
    have HM := Lib.hid (MP.out.new w11.heap.size x0 x1 x2 x3 25 rfl)
    have kr := MP.out.row (b := w.heap.size) (c0 := a0) (c1 := a1) (c2 := a2) (c3 := a3) (by simp)
    have Fa0 := kr.c0; have Fa1 := kr.c1; have Fa2 := kr.c2; have Fa3 := kr.c3
    clear kr
    have Fal := MP.out.lt (b := w.heap.size) (c0 := a0) (c1 := a1) (c2 := a2) (c3 := a3) (by simp)
    go_wp2_with fail
    refine (fexp_ok f F hf a0 a1 a2 a3 n1 0 0 0 ha ⟨by omega, by omega, by omega, by omega⟩ la _).mono ?_
    rintro e w12 ⟨y0, y1, y2, y3, rfl, hy, hv, hbl⟩
    have Vy := Lib.hid (show val4 y0 y1 y2 y3 = val4 a0 a1 a2 a3 ^ n1 % F.M by rw [hv, val4_low])
    have ly : val4 y0 y1 y2 y3 < F.M := by rw [hv]; exact Nat.mod_lt _ hpos
    clear hv
    have MP' := Lib.hid (HM.out.on hbl)
    clear hbl HM MP Fa0 Fa1 Fa2 Fa3 Fal
    have MP := MP'
    clear MP'
    have HM := Lib.hid (MP.out.new w12.heap.size y0 y1 y2 y3 25 rfl)
    have kr := MP.out.row (b := w.heap.size) (c0 := a0) (c1 := a1) (c2 := a2) (c3 := a3) (by simp)
    have Fa0 := kr.c0; have Fa1 := kr.c1; have Fa2 := kr.c2; have Fa3 := kr.c3
    clear kr
    have Fal := MP.out.lt (b := w.heap.size) (c0 := a0) (c1 := a1) (c2 := a2) (c3 := a3) (by simp)
    go_wp2_with fail
    refine (fexp_ok f F hf a0 a1 a2 a3 k 0 0 0 ha ⟨hk, by omega, by omega, by omega⟩ la _).mono ?_
    rintro e w13 ⟨s0, s1, s2, s3, rfl, hs, hv, hbl⟩
    have Vs := Lib.hid (show val4 s0 s1 s2 s3 = val4 a0 a1 a2 a3 ^ k % F.M by rw [hv, val4_low])
    have ls : val4 s0 s1 s2 s3 < F.M := by rw [hv]; exact Nat.mod_lt _ hpos
    clear hv
    have MP' := Lib.hid (HM.out.on hbl)
    clear hbl HM MP Fa0 Fa1 Fa2 Fa3 Fal
    have MP := MP'
    clear MP'
    have HM := Lib.hid (MP.out.new w13.heap.size s0 s1 s2 s3 25 rfl)
    have kr := MP.out.row (b := w11.heap.size) (c0 := x0) (c1 := x1) (c2 := x2) (c3 := x3) (by simp)
    have Fx0 := kr.c0; have Fx1 := kr.c1; have Fx2 := kr.c2; have Fx3 := kr.c3
    clear kr
    have Fxl := MP.out.lt (b := w11.heap.size) (c0 := x0) (c1 := x1) (c2 := x2) (c3 := x3) (by simp)
    have kr := MP.out.row (b := w12.heap.size) (c0 := y0) (c1 := y1) (c2 := y2) (c3 := y3) (by simp)
    have Fy0 := kr.c0; have Fy1 := kr.c1; have Fy2 := kr.c2; have Fy3 := kr.c3
    clear kr
    have Fyl := MP.out.lt (b := w12.heap.size) (c0 := y0) (c1 := y1) (c2 := y2) (c3 := y3) (by simp)
    go_wp2_with fail
    refine (fmul_ok f F hf x0 x1 x2 x3 y0 y1 y2 y3 hx hy lx ly _).mono ?_
    rintro e w14 ⟨p0, p1, p2, p3, rfl, hp, hv, hbl⟩
    obtain ⟨rfl, rfl, rfl, rfl⟩ := val4_inj hs hp (show val4 s0 s1 s2 s3 = val4 p0 p1 p2 p3 by rw [hv, Vs.out, Vx.out, Vy.out, bk.out]; exact (fe_sum _ _ _ _).symm)
    clear hv hp
    have MP' := Lib.hid (HM.out.on hbl)
    clear hbl HM MP Fx0 Fx1 Fx2 Fx3 Fxl Fy0 Fy1 Fy2 Fy3 Fyl
    have MP := MP'
    clear MP'
    have HM := Lib.hid (MP.out.new w14.heap.size s0 s1 s2 s3 25 rfl)
    have kr := MP.out.row (b := w11.heap.size) (c0 := x0) (c1 := x1) (c2 := x2) (c3 := x3) (by simp)
    have Fx0 := kr.c0; have Fx1 := kr.c1; have Fx2 := kr.c2; have Fx3 := kr.c3
    clear kr
    have Fxl := MP.out.lt (b := w11.heap.size) (c0 := x0) (c1 := x1) (c2 := x2) (c3 := x3) (by simp)
    go_wp2_with fail
    refine (fexp_ok f F hf x0 x1 x2 x3 n1 0 0 0 hx ⟨by omega, by omega, by omega, by omega⟩ lx _).mono ?_
    rintro e w15 ⟨t0, t1, t2, t3, rfl, ht, hv, hbl⟩
    have Vt := Lib.hid (show val4 t0 t1 t2 t3 = val4 x0 x1 x2 x3 ^ n1 % F.M by rw [hv, val4_low])
    have lt : val4 t0 t1 t2 t3 < F.M := by rw [hv]; exact Nat.mod_lt _ hpos
    clear hv
    have MP' := Lib.hid (HM.out.on hbl)
    clear hbl HM MP Fx0 Fx1 Fx2 Fx3 Fxl
    have MP := MP'
    clear MP'
    have HM := Lib.hid (MP.out.new w15.heap.size t0 t1 t2 t3 25 rfl)
    have kr := MP.out.row (b := w12.heap.size) (c0 := y0) (c1 := y1) (c2 := y2) (c3 := y3) (by simp)
    have Fy0 := kr.c0; have Fy1 := kr.c1; have Fy2 := kr.c2; have Fy3 := kr.c3
    clear kr
    have Fyl := MP.out.lt (b := w12.heap.size) (c0 := y0) (c1 := y1) (c2 := y2) (c3 := y3) (by simp)
    go_wp2_with fail
    refine (fexp_ok f F hf y0 y1 y2 y3 m1 0 0 0 hy ⟨by omega, by omega, by omega, by omega⟩ ly _).mono ?_
    rintro e w16 ⟨u0, u1, u2, u3, rfl, hu, hv, hbl⟩
    obtain ⟨rfl, rfl, rfl, rfl⟩ := val4_inj ht hu (show val4 t0 t1 t2 t3 = val4 u0 u1 u2 u3 by rw [hv, val4_low]; rw [Vt.out, Vx.out, Vy.out]; exact fe_turn _ _ _ _)
    clear hv hu
    have MP' := Lib.hid (HM.out.on hbl)
    clear hbl HM MP Fy0 Fy1 Fy2 Fy3 Fyl
    have MP := MP'
    clear MP'
    have HM := Lib.hid (MP.out.new w16.heap.size t0 t1 t2 t3 25 rfl)
    have kr := MP.out.row (b := gb) (c0 := a0) (c1 := a1) (c2 := a2) (c3 := a3) (by simp)
    have Fw0 := kr.c0; have Fw1 := kr.c1; have Fw2 := kr.c2; have Fw3 := kr.c3
    clear kr
    have Fwl := MP.out.lt (b := gb) (c0 := a0) (c1 := a1) (c2 := a2) (c3 := a3) (by simp)
    have kr := MP.out.row (b := w.heap.size) (c0 := a0) (c1 := a1) (c2 := a2) (c3 := a3) (by simp)
    have Fa0 := kr.c0; have Fa1 := kr.c1; have Fa2 := kr.c2; have Fa3 := kr.c3
    clear kr
    have Fal := MP.out.lt (b := w.heap.size) (c0 := a0) (c1 := a1) (c2 := a2) (c3 := a3) (by simp)
    have kr := MP.out.row (b := w13.heap.size) (c0 := s0) (c1 := s1) (c2 := s2) (c3 := s3) (by simp)
    have Fs0 := kr.c0; have Fs1 := kr.c1; have Fs2 := kr.c2; have Fs3 := kr.c3
    clear kr
    have Fsl := MP.out.lt (b := w13.heap.size) (c0 := s0) (c1 := s1) (c2 := s2) (c3 := s3) (by simp)
    have kr := MP.out.row (b := w14.heap.size) (c0 := s0) (c1 := s1) (c2 := s2) (c3 := s3) (by simp)
    have Fp0 := kr.c0; have Fp1 := kr.c1; have Fp2 := kr.c2; have Fp3 := kr.c3
    clear kr
    have Fpl := MP.out.lt (b := w14.heap.size) (c0 := s0) (c1 := s1) (c2 := s2) (c3 := s3) (by simp)
    have kr := MP.out.row (b := w15.heap.size) (c0 := t0) (c1 := t1) (c2 := t2) (c3 := t3) (by simp)
    have Ft0 := kr.c0; have Ft1 := kr.c1; have Ft2 := kr.c2; have Ft3 := kr.c3
    clear kr
    have Ftl := MP.out.lt (b := w15.heap.size) (c0 := t0) (c1 := t1) (c2 := t2) (c3 := t3) (by simp)
    go_wp2_with fail
    go_ret
    exact ⟨rfl, HM.out.1⟩
theorem fermat2_calls (f : Int) (a0 a1 a2 a3 m n : Nat) (ha : ok4 a0 a1 a2 a3) (hm : m < 18446744073709551616) (hn : n < 18446744073709551616) (w : World) :
    Calls Try.prog 8 #[.int .i64 f, .agg #[.int .u64 a0, .int .u64 a1, .int .u64 a2, .int .u64 a3], .int .u64 m, .int .u64 n] w fun e w' => e = .returned (.bool true) ∧ Below w.heap.size w w' := by
  rcases all1 f (val4 a0 a1 a2 a3) with ⟨F, hf, la⟩ | ⟨c, h⟩
  · exact fermat_main f a0 a1 a2 a3 m n ha hm hn F hf la w
  · exact fermat_bad f a0 a1 a2 a3 m n ha hm hn c h w
end Go.Proofs.Ytkklbhgneidbbaa
