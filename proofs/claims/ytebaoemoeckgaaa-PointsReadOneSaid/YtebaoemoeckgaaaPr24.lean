/-
  The reference's calls Add, Neg, Sub, Mul, Below, Check. Conditions: words below 2^64, one of the two fields.
-/
import Derived.Deep.DeepCutAuto
import Derived.Test.YtebaoemoeckgaaaPr23
namespace Go.Proofs.Ytebaoemoeckgaaa
set_option linter.unusedVariables false
set_option linter.unusedSimpArgs false
set_option linter.unnecessarySimpa false
open Go.RowKit

set_option maxRecDepth 100000 in
set_option maxHeartbeats 2000000 in
theorem rsquare_some (f : Int) (F : FC) (hf : FieldIs f F) (w : World) : Calls Try.prog 72 #[.int .i64 f] w fun e w' => e = .returned (.agg #[.int .u64 F.s0, .int .u64 F.s1, .int .u64 F.s2, .int .u64 F.s3]) ∧ Below w.heap.size w w' := by
  rcases hf with ⟨rfl, rfl⟩ | ⟨rfl, rfl⟩
  · go_enter Try.func72, Try.ntmps72
    go_wp2_with fail
    refine bodyPost_ret (v := .agg #[.int .u64 FP.s0, .int .u64 FP.s1, .int .u64 FP.s2, .int .u64 FP.s3]) (by simp [results, Try.results72, go_sem, FP]) rfl ?_
    refine ⟨rfl, ?_⟩
    repeat (first | exact Below.refl _ _ | refine Below.drew ?_ | refine Below.alloc ?_ (by first | (simp; done) | (simp; omega)) _ | refine Below.setCell ?_ (by simp) _)
  · go_enter Try.func72, Try.ntmps72
    go_wp2_with fail
    refine bodyPost_ret (v := .agg #[.int .u64 FR.s0, .int .u64 FR.s1, .int .u64 FR.s2, .int .u64 FR.s3]) (by simp [results, Try.results72, go_sem, FR]) rfl ?_
    refine ⟨rfl, ?_⟩
    repeat (first | exact Below.refl _ _ | refine Below.drew ?_ | refine Below.alloc ?_ (by first | (simp; done) | (simp; omega)) _ | refine Below.setCell ?_ (by simp) _)
set_option maxRecDepth 100000 in
set_option maxHeartbeats 2000000 in
theorem radd_calls (f : Int) (F : FC) (hf : FieldIs f F) (a0 a1 a2 a3 b0 b1 b2 b3 : Nat) (ha : ok4 a0 a1 a2 a3) (hb : ok4 b0 b1 b2 b3) (w : World) :
    Calls Try.prog 39 #[.int .i64 f, .agg #[.int .u64 a0, .int .u64 a1, .int .u64 a2, .int .u64 a3], .agg #[.int .u64 b0, .int .u64 b1, .int .u64 b2, .int .u64 b3]] w (FePost ((val4 a0 a1 a2 a3 + val4 b0 b1 b2 b3) % F.M) w) := by
  have hpos := hf.ok.pos
  have h2M := hf.ok.two
  go_enter Try.func39, Try.ntmps39
  go_wp2_with fail
  have HM := Lib.hid ((((Mem.nil w).new (w.heap.size) a0 a1 a2 a3 24 (by simp)).new (w.heap.size + 1) b0 b1 b2 b3 24 (by simp)).new (w.heap.size + 1 + 1) 0 0 0 0 24 (by simp))
  go_upto_region 1 with fail
  go_cut [7] (fun s7 wx => ∃ gb s0 s1 s2 s3 : Nat, s7 = .pointer (some ⟨gb, 0, none⟩) ∧ ok4 s0 s1 s2 s3 ∧ Hid (val4 s0 s1 s2 s3 = val4 a0 a1 a2 a3 % F.M + val4 b0 b1 b2 b3 % F.M) ∧ Hid (Mem w wx [(gb, s0, s1, s2, s3), (w.heap.size + 1 + 1, 0, 0, 0, 0)]))
  case first =>
    refine region_till (fun wx => Mem w wx [(w.heap.size + 1 + 1, 0, 0, 0, 0), (w.heap.size + 1, b0, b1, b2, b3), (w.heap.size, a0, a1, a2, a3)]) 12 (by kernel_rfl) ?_
    have HM' := Lib.hid (HM.out.drewN 1)
    clear HM
    have HM := HM'
    clear HM'
    have HS := HM.out.sub (rs' := [(w.heap.size + 1 + 1, 0, 0, 0, 0), (w.heap.size + 1, b0, b1, b2, b3), (w.heap.size, a0, a1, a2, a3)]) (by simp)
    refine till_take (i := 0) (v := .int .i64 f) rfl (by kernel_rfl) (by kernel_rfl) (by kernel_rfl) (by kernel_rfl) (fun _ _ _ h => h) HS (Or.inl ⟨by kernel_rfl, fun wx hx => ?_⟩) ?_
    · clear HS hx
      go_simp
    simp only [Act.put, List.setIfInBounds_toArray, List.set_cons_zero, List.set_cons_succ]
    refine till_take (i := 1) (v := .agg #[.int .u64 a0, .int .u64 a1, .int .u64 a2, .int .u64 a3]) rfl (by kernel_rfl) (by kernel_rfl) (by kernel_rfl) (by kernel_rfl) (fun _ _ _ h => h) HS (Or.inl ⟨by kernel_rfl, fun wx hx => ?_⟩) ?_
    · have kr := hx.row (b := w.heap.size) (c0 := a0) (c1 := a1) (c2 := a2) (c3 := a3) (by simp)
      have x0 := kr.c0; have x1 := kr.c1; have x2 := kr.c2; have x3 := kr.c3
      clear kr HS hx
      go_simp
    simp only [Act.put, List.setIfInBounds_toArray, List.set_cons_zero, List.set_cons_succ]
    refine till_take (i := 3) (v := .int .i64 f) rfl (by kernel_rfl) (by kernel_rfl) (by kernel_rfl) (by kernel_rfl) (fun _ _ _ h => h) HS (Or.inl ⟨by kernel_rfl, fun wx hx => ?_⟩) ?_
    · clear HS hx
      go_simp
    simp only [Act.put, List.setIfInBounds_toArray, List.set_cons_zero, List.set_cons_succ]
    refine till_take (i := 4) (v := .agg #[.int .u64 b0, .int .u64 b1, .int .u64 b2, .int .u64 b3]) rfl (by kernel_rfl) (by kernel_rfl) (by kernel_rfl) (by kernel_rfl) (fun _ _ _ h => h) HS (Or.inl ⟨by kernel_rfl, fun wx hx => ?_⟩) ?_
    · have kr := hx.row (b := w.heap.size + 1) (c0 := b0) (c1 := b1) (c2 := b2) (c3 := b3) (by simp)
      have x0 := kr.c0; have x1 := kr.c1; have x2 := kr.c2; have x3 := kr.c3
      clear kr HS hx
      go_simp
    simp only [Act.put, List.setIfInBounds_toArray, List.set_cons_zero, List.set_cons_succ]
    clear HS
    refine till_two (i := 2) (j := 10) (by kernel_rfl) rfl rfl (fun K hK => ?_) (fun K hK => ?_)
    · go_simp
      refine (down_calls f F hf a0 a1 a2 a3 ha _).mono ?_
      rintro e v1 ⟨x0, x1, x2, x3, rfl, hx, hv, hbl⟩
      have HVx := Lib.hid hv
      clear hv
      have HM' := Lib.hid (HM.out.on hbl)
      clear HM hbl
      have HM := HM'
      clear HM'
      have HS := (HM.out.sub (rs' := [(w.heap.size + 1 + 1, 0, 0, 0, 0), (w.heap.size + 1, b0, b1, b2, b3), (w.heap.size, a0, a1, a2, a3)]) (by simp))
      refine hK.out _ _ (Or.inr HS) (fun _ => ?_)
      clear hK K HS
      refine till_two (i := 5) (j := 10) (by kernel_rfl) rfl rfl (fun K hK => ?_) (fun K hK => ?_)
      · go_simp
        refine (down_calls f F hf b0 b1 b2 b3 hb _).mono ?_
        rintro e v2 ⟨y0, y1, y2, y3, rfl, hy, hv, hbl⟩
        have HVy := Lib.hid hv
        clear hv
        have HM' := Lib.hid (HM.out.on hbl)
        clear HM hbl
        have HM := HM'
        clear HM'
        have HS := (HM.out.sub (rs' := [(w.heap.size + 1 + 1, 0, 0, 0, 0), (w.heap.size + 1, b0, b1, b2, b3), (w.heap.size, a0, a1, a2, a3)]) (by simp))
        refine hK.out _ _ (Or.inr HS) (fun _ => ?_)
        clear hK K HS
        refine till_two (i := 6) (j := 10) (by kernel_rfl) rfl rfl (fun K hK => ?_) (fun K hK => ?_)
        · go_simp
          refine (refPlus_calls x0 x1 x2 x3 y0 y1 y2 y3 hx hy _).mono ?_
          rintro e v3 ⟨s0, s1, s2, s3, cc, rfl, hs, hcc, hv, hbl⟩
          have HVs := Lib.hid (show val4 s0 s1 s2 s3 = val4 a0 a1 a2 a3 % F.M + val4 b0 b1 b2 b3 % F.M by have := Nat.mod_lt (val4 a0 a1 a2 a3) hpos; have := Nat.mod_lt (val4 b0 b1 b2 b3) hpos; rw [HVx.out, HVy.out] at hv; omega)
          clear hv
          have HM' := Lib.hid (HM.out.on hbl)
          clear HM hbl
          have HM := HM'
          clear HM'
          have HS := (HM.out.sub (rs' := [(w.heap.size + 1 + 1, 0, 0, 0, 0), (w.heap.size + 1, b0, b1, b2, b3), (w.heap.size, a0, a1, a2, a3)]) (by simp))
          refine hK.out _ _ (Or.inr HS) (fun _ => ?_)
          clear hK K HS
          have HS := HM.out.sub (rs' := [(w.heap.size + 1 + 1, 0, 0, 0, 0), (w.heap.size + 1, b0, b1, b2, b3), (w.heap.size, a0, a1, a2, a3)]) (by simp)
          refine till_take (i := 7) (v := .tuple #[.agg #[.int .u64 s0, .int .u64 s1, .int .u64 s2, .int .u64 s3], .int .u64 (cc : Nat)]) rfl (by kernel_rfl) (by kernel_rfl) (by kernel_rfl) (by kernel_rfl) (fun _ _ _ h => h) HS (Or.inl ⟨by kernel_rfl, fun wx hx => ?_⟩) ?_
          · clear HS hx
            go_simp
          simp only [Act.put, List.setIfInBounds_toArray, List.set_cons_zero, List.set_cons_succ]
          refine till_take (i := 8) (v := .agg #[.int .u64 s0, .int .u64 s1, .int .u64 s2, .int .u64 s3]) rfl (by kernel_rfl) (by kernel_rfl) (by kernel_rfl) (by kernel_rfl) (fun _ _ _ h => h) HS (Or.inl ⟨by kernel_rfl, fun wx hx => ?_⟩) ?_
          · clear HS hx
            go_simp
          simp only [Act.put, List.setIfInBounds_toArray, List.set_cons_zero, List.set_cons_succ]
          refine till_take (i := 9) (v := .int .u64 (cc : Nat)) rfl (by kernel_rfl) (by kernel_rfl) (by kernel_rfl) (by kernel_rfl) (fun _ _ _ h => h) HS (Or.inl ⟨by kernel_rfl, fun wx hx => ?_⟩) ?_
          · clear HS hx
            go_simp
          simp only [Act.put, List.setIfInBounds_toArray, List.set_cons_zero, List.set_cons_succ]
          clear HS
          refine till_step (i := 10) (by kernel_rfl) rfl (fun K hK => ?_)
          go_simp
          have HM9 := HM
          have HM' := Lib.hid (HM.out.new (v3.heap.size) 0 0 0 0 45 (by first | rfl | (simp; done)))
          have hga : w.heap.size + 1 + 1 < (v3.heap.size) := by first | exact HM.out.lt (b := w.heap.size + 1 + 1) (c0 := 0) (c1 := 0) (c2 := 0) (c3 := 0) (by simp) | simpa using HM.out.lt (b := w.heap.size + 1 + 1) (c0 := 0) (c1 := 0) (c2 := 0) (c3 := 0) (by simp) | (have := HM.out.lt (b := w.heap.size + 1 + 1) (c0 := 0) (c1 := 0) (c2 := 0) (c3 := 0) (by simp); simp at this ⊢; omega)
          clear HM
          have HM := HM'
          clear HM'
          have HS := (HM.out.sub (rs' := [(w.heap.size + 1 + 1, 0, 0, 0, 0), (w.heap.size + 1, b0, b1, b2, b3), (w.heap.size, a0, a1, a2, a3)]) (by simp))
          refine hK.out _ _ (Or.inr HS) (fun _ => ?_)
          clear hK K HS
          have kr := HM.out.row (b := (v3.heap.size)) (c0 := 0) (c1 := 0) (c2 := 0) (c3 := 0) (by simp)
          have yl := HM.out.lt (b := (v3.heap.size)) (c0 := 0) (c1 := 0) (c2 := 0) (c3 := 0) (by simp)
          have y0 := kr.c0; have y1 := kr.c1; have y2 := kr.c2; have y3 := kr.c3; have yf := kr.fr
          clear kr
          refine till_step (i := 11) (by kernel_rfl) rfl (fun K hK => ?_)
          go_simp
          have HM' := Lib.hid (HM9.out.new (v3.heap.size) s0 s1 s2 s3 45 (by first | rfl | (simp; done)))
          clear HM
          have HM := HM'
          clear HM'
          have HS := (HM.out.sub (rs' := [(w.heap.size + 1 + 1, 0, 0, 0, 0), (w.heap.size + 1, b0, b1, b2, b3), (w.heap.size, a0, a1, a2, a3)]) (by simp))
          refine hK.out _ _ (Or.inr HS) (fun _ => ?_)
          clear hK K HS
          refine till_step (i := 12) (by kernel_rfl) rfl (fun K hK => ?_)
          go_simp
          refine hK.out _ _ (Or.inl rfl) (fun _ => ?_)
          clear hK K
          refine till_done (by kernel_rfl) ?_
          go_wp2_with fail
          go_meet
          exact ⟨(v3.heap.size), s0, s1, s2, s3, rfl, hs, HVs, Lib.hid (HM.out.sub (by simp))⟩
        · go_simp
          have HM9 := HM
          have HM' := Lib.hid (HM.out.new (v2.heap.size) 0 0 0 0 45 (by first | rfl | (simp; done)))
          have hga : w.heap.size + 1 + 1 < (v2.heap.size) := by first | exact HM.out.lt (b := w.heap.size + 1 + 1) (c0 := 0) (c1 := 0) (c2 := 0) (c3 := 0) (by simp) | simpa using HM.out.lt (b := w.heap.size + 1 + 1) (c0 := 0) (c1 := 0) (c2 := 0) (c3 := 0) (by simp) | (have := HM.out.lt (b := w.heap.size + 1 + 1) (c0 := 0) (c1 := 0) (c2 := 0) (c3 := 0) (by simp); simp at this ⊢; omega)
          clear HM
          have HM := HM'
          clear HM'
          have HS := (HM.out.sub (rs' := [(w.heap.size + 1 + 1, 0, 0, 0, 0), (w.heap.size + 1, b0, b1, b2, b3), (w.heap.size, a0, a1, a2, a3)]) (by simp))
          refine hK.out _ _ (Or.inr HS) (fun _ => ?_)
          clear hK K HS
          refine till_step (i := 6) (by kernel_rfl) rfl (fun K hK => ?_)
          go_simp
          refine (refPlus_calls x0 x1 x2 x3 y0 y1 y2 y3 hx hy _).mono ?_
          rintro e v3 ⟨s0, s1, s2, s3, cc, rfl, hs, hcc, hv, hbl⟩
          have HVs := Lib.hid (show val4 s0 s1 s2 s3 = val4 a0 a1 a2 a3 % F.M + val4 b0 b1 b2 b3 % F.M by have := Nat.mod_lt (val4 a0 a1 a2 a3) hpos; have := Nat.mod_lt (val4 b0 b1 b2 b3) hpos; rw [HVx.out, HVy.out] at hv; omega)
          clear hv
          have HM' := Lib.hid (HM.out.on hbl)
          clear HM hbl
          have HM := HM'
          clear HM'
          have HS := (HM.out.sub (rs' := [(w.heap.size + 1 + 1, 0, 0, 0, 0), (w.heap.size + 1, b0, b1, b2, b3), (w.heap.size, a0, a1, a2, a3)]) (by simp))
          refine hK.out _ _ (Or.inr HS) (fun _ => ?_)
          clear hK K HS
          have HS := HM.out.sub (rs' := [(w.heap.size + 1 + 1, 0, 0, 0, 0), (w.heap.size + 1, b0, b1, b2, b3), (w.heap.size, a0, a1, a2, a3)]) (by simp)
          refine till_take (i := 7) (v := .tuple #[.agg #[.int .u64 s0, .int .u64 s1, .int .u64 s2, .int .u64 s3], .int .u64 (cc : Nat)]) rfl (by kernel_rfl) (by kernel_rfl) (by kernel_rfl) (by kernel_rfl) (fun _ _ _ h => h) HS (Or.inl ⟨by kernel_rfl, fun wx hx => ?_⟩) ?_
          · clear HS hx
            go_simp
          simp only [Act.put, List.setIfInBounds_toArray, List.set_cons_zero, List.set_cons_succ]
          refine till_take (i := 8) (v := .agg #[.int .u64 s0, .int .u64 s1, .int .u64 s2, .int .u64 s3]) rfl (by kernel_rfl) (by kernel_rfl) (by kernel_rfl) (by kernel_rfl) (fun _ _ _ h => h) HS (Or.inl ⟨by kernel_rfl, fun wx hx => ?_⟩) ?_
          · clear HS hx
            go_simp
          simp only [Act.put, List.setIfInBounds_toArray, List.set_cons_zero, List.set_cons_succ]
          refine till_take (i := 9) (v := .int .u64 (cc : Nat)) rfl (by kernel_rfl) (by kernel_rfl) (by kernel_rfl) (by kernel_rfl) (fun _ _ _ h => h) HS (Or.inl ⟨by kernel_rfl, fun wx hx => ?_⟩) ?_
          · clear HS hx
            go_simp
          simp only [Act.put, List.setIfInBounds_toArray, List.set_cons_zero, List.set_cons_succ]
          clear HS
          have kr := HM.out.row (b := (v2.heap.size)) (c0 := 0) (c1 := 0) (c2 := 0) (c3 := 0) (by simp)
          have yl := HM.out.lt (b := (v2.heap.size)) (c0 := 0) (c1 := 0) (c2 := 0) (c3 := 0) (by simp)
          have y0 := kr.c0; have y1 := kr.c1; have y2 := kr.c2; have y3 := kr.c3; have yf := kr.fr
          clear kr
          refine till_step (i := 11) (by kernel_rfl) rfl (fun K hK => ?_)
          go_simp
          have HM' := Lib.hid (HM.out.put s0 s1 s2 s3 (by omega) (by intro r hr; simp at hr; rcases hr with rfl | rfl | rfl <;> simp <;> omega))
          clear HM
          have HM := HM'
          clear HM'
          have HS := (HM.out.sub (rs' := [(w.heap.size + 1 + 1, 0, 0, 0, 0), (w.heap.size + 1, b0, b1, b2, b3), (w.heap.size, a0, a1, a2, a3)]) (by simp))
          refine hK.out _ _ (Or.inr HS) (fun _ => ?_)
          clear hK K HS
          refine till_step (i := 12) (by kernel_rfl) rfl (fun K hK => ?_)
          go_simp
          refine hK.out _ _ (Or.inl rfl) (fun _ => ?_)
          clear hK K
          refine till_done (by kernel_rfl) ?_
          go_wp2_with fail
          go_meet
          exact ⟨(v2.heap.size), s0, s1, s2, s3, rfl, hs, HVs, Lib.hid (HM.out.sub (by simp))⟩
      · go_simp
        have HM9 := HM
        have HM' := Lib.hid (HM.out.new (v1.heap.size) 0 0 0 0 45 (by first | rfl | (simp; done)))
        have hga : w.heap.size + 1 + 1 < (v1.heap.size) := by first | exact HM.out.lt (b := w.heap.size + 1 + 1) (c0 := 0) (c1 := 0) (c2 := 0) (c3 := 0) (by simp) | simpa using HM.out.lt (b := w.heap.size + 1 + 1) (c0 := 0) (c1 := 0) (c2 := 0) (c3 := 0) (by simp) | (have := HM.out.lt (b := w.heap.size + 1 + 1) (c0 := 0) (c1 := 0) (c2 := 0) (c3 := 0) (by simp); simp at this ⊢; omega)
        clear HM
        have HM := HM'
        clear HM'
        have HS := (HM.out.sub (rs' := [(w.heap.size + 1 + 1, 0, 0, 0, 0), (w.heap.size + 1, b0, b1, b2, b3), (w.heap.size, a0, a1, a2, a3)]) (by simp))
        refine hK.out _ _ (Or.inr HS) (fun _ => ?_)
        clear hK K HS
        refine till_step (i := 5) (by kernel_rfl) rfl (fun K hK => ?_)
        go_simp
        refine (down_calls f F hf b0 b1 b2 b3 hb _).mono ?_
        rintro e v2 ⟨y0, y1, y2, y3, rfl, hy, hv, hbl⟩
        have HVy := Lib.hid hv
        clear hv
        have HM' := Lib.hid (HM.out.on hbl)
        clear HM hbl
        have HM := HM'
        clear HM'
        have HS := (HM.out.sub (rs' := [(w.heap.size + 1 + 1, 0, 0, 0, 0), (w.heap.size + 1, b0, b1, b2, b3), (w.heap.size, a0, a1, a2, a3)]) (by simp))
        refine hK.out _ _ (Or.inr HS) (fun _ => ?_)
        clear hK K HS
        refine till_step (i := 6) (by kernel_rfl) rfl (fun K hK => ?_)
        go_simp
        refine (refPlus_calls x0 x1 x2 x3 y0 y1 y2 y3 hx hy _).mono ?_
        rintro e v3 ⟨s0, s1, s2, s3, cc, rfl, hs, hcc, hv, hbl⟩
        have HVs := Lib.hid (show val4 s0 s1 s2 s3 = val4 a0 a1 a2 a3 % F.M + val4 b0 b1 b2 b3 % F.M by have := Nat.mod_lt (val4 a0 a1 a2 a3) hpos; have := Nat.mod_lt (val4 b0 b1 b2 b3) hpos; rw [HVx.out, HVy.out] at hv; omega)
        clear hv
        have HM' := Lib.hid (HM.out.on hbl)
        clear HM hbl
        have HM := HM'
        clear HM'
        have HS := (HM.out.sub (rs' := [(w.heap.size + 1 + 1, 0, 0, 0, 0), (w.heap.size + 1, b0, b1, b2, b3), (w.heap.size, a0, a1, a2, a3)]) (by simp))
        refine hK.out _ _ (Or.inr HS) (fun _ => ?_)
        clear hK K HS
        have HS := HM.out.sub (rs' := [(w.heap.size + 1 + 1, 0, 0, 0, 0), (w.heap.size + 1, b0, b1, b2, b3), (w.heap.size, a0, a1, a2, a3)]) (by simp)
        refine till_take (i := 7) (v := .tuple #[.agg #[.int .u64 s0, .int .u64 s1, .int .u64 s2, .int .u64 s3], .int .u64 (cc : Nat)]) rfl (by kernel_rfl) (by kernel_rfl) (by kernel_rfl) (by kernel_rfl) (fun _ _ _ h => h) HS (Or.inl ⟨by kernel_rfl, fun wx hx => ?_⟩) ?_
        · clear HS hx
          go_simp
        simp only [Act.put, List.setIfInBounds_toArray, List.set_cons_zero, List.set_cons_succ]
        refine till_take (i := 8) (v := .agg #[.int .u64 s0, .int .u64 s1, .int .u64 s2, .int .u64 s3]) rfl (by kernel_rfl) (by kernel_rfl) (by kernel_rfl) (by kernel_rfl) (fun _ _ _ h => h) HS (Or.inl ⟨by kernel_rfl, fun wx hx => ?_⟩) ?_
        · clear HS hx
          go_simp
        simp only [Act.put, List.setIfInBounds_toArray, List.set_cons_zero, List.set_cons_succ]
        refine till_take (i := 9) (v := .int .u64 (cc : Nat)) rfl (by kernel_rfl) (by kernel_rfl) (by kernel_rfl) (by kernel_rfl) (fun _ _ _ h => h) HS (Or.inl ⟨by kernel_rfl, fun wx hx => ?_⟩) ?_
        · clear HS hx
          go_simp
        simp only [Act.put, List.setIfInBounds_toArray, List.set_cons_zero, List.set_cons_succ]
        clear HS
        have kr := HM.out.row (b := (v1.heap.size)) (c0 := 0) (c1 := 0) (c2 := 0) (c3 := 0) (by simp)
        have yl := HM.out.lt (b := (v1.heap.size)) (c0 := 0) (c1 := 0) (c2 := 0) (c3 := 0) (by simp)
        have y0 := kr.c0; have y1 := kr.c1; have y2 := kr.c2; have y3 := kr.c3; have yf := kr.fr
        clear kr
        refine till_step (i := 11) (by kernel_rfl) rfl (fun K hK => ?_)
        go_simp
        have HM' := Lib.hid (HM.out.put s0 s1 s2 s3 (by omega) (by intro r hr; simp at hr; rcases hr with rfl | rfl | rfl <;> simp <;> omega))
        clear HM
        have HM := HM'
        clear HM'
        have HS := (HM.out.sub (rs' := [(w.heap.size + 1 + 1, 0, 0, 0, 0), (w.heap.size + 1, b0, b1, b2, b3), (w.heap.size, a0, a1, a2, a3)]) (by simp))
        refine hK.out _ _ (Or.inr HS) (fun _ => ?_)
        clear hK K HS
        refine till_step (i := 12) (by kernel_rfl) rfl (fun K hK => ?_)
        go_simp
        refine hK.out _ _ (Or.inl rfl) (fun _ => ?_)
        clear hK K
        refine till_done (by kernel_rfl) ?_
        go_wp2_with fail
        go_meet
        exact ⟨(v1.heap.size), s0, s1, s2, s3, rfl, hs, HVs, Lib.hid (HM.out.sub (by simp))⟩
    · go_simp
      have HM9 := HM
      have HM' := Lib.hid (HM.out.new (w.heap.size + 1 + 1 + 1) 0 0 0 0 45 (by first | rfl | (simp; done)))
      have hga : w.heap.size + 1 + 1 < (w.heap.size + 1 + 1 + 1) := by first | exact HM.out.lt (b := w.heap.size + 1 + 1) (c0 := 0) (c1 := 0) (c2 := 0) (c3 := 0) (by simp) | simpa using HM.out.lt (b := w.heap.size + 1 + 1) (c0 := 0) (c1 := 0) (c2 := 0) (c3 := 0) (by simp) | (have := HM.out.lt (b := w.heap.size + 1 + 1) (c0 := 0) (c1 := 0) (c2 := 0) (c3 := 0) (by simp); simp at this ⊢; omega)
      clear HM
      have HM := HM'
      clear HM'
      have HS := (HM.out.sub (rs' := [(w.heap.size + 1 + 1, 0, 0, 0, 0), (w.heap.size + 1, b0, b1, b2, b3), (w.heap.size, a0, a1, a2, a3)]) (by simp))
      refine hK.out _ _ (Or.inr HS) (fun _ => ?_)
      clear hK K HS
      refine till_step (i := 2) (by kernel_rfl) rfl (fun K hK => ?_)
      go_simp
      refine (down_calls f F hf a0 a1 a2 a3 ha _).mono ?_
      rintro e v1 ⟨x0, x1, x2, x3, rfl, hx, hv, hbl⟩
      have HVx := Lib.hid hv
      clear hv
      have HM' := Lib.hid (HM.out.on hbl)
      clear HM hbl
      have HM := HM'
      clear HM'
      have HS := (HM.out.sub (rs' := [(w.heap.size + 1 + 1, 0, 0, 0, 0), (w.heap.size + 1, b0, b1, b2, b3), (w.heap.size, a0, a1, a2, a3)]) (by simp))
      refine hK.out _ _ (Or.inr HS) (fun _ => ?_)
      clear hK K HS
      refine till_step (i := 5) (by kernel_rfl) rfl (fun K hK => ?_)
      go_simp
      refine (down_calls f F hf b0 b1 b2 b3 hb _).mono ?_
      rintro e v2 ⟨y0, y1, y2, y3, rfl, hy, hv, hbl⟩
      have HVy := Lib.hid hv
      clear hv
      have HM' := Lib.hid (HM.out.on hbl)
      clear HM hbl
      have HM := HM'
      clear HM'
      have HS := (HM.out.sub (rs' := [(w.heap.size + 1 + 1, 0, 0, 0, 0), (w.heap.size + 1, b0, b1, b2, b3), (w.heap.size, a0, a1, a2, a3)]) (by simp))
      refine hK.out _ _ (Or.inr HS) (fun _ => ?_)
      clear hK K HS
      refine till_step (i := 6) (by kernel_rfl) rfl (fun K hK => ?_)
      go_simp
      refine (refPlus_calls x0 x1 x2 x3 y0 y1 y2 y3 hx hy _).mono ?_
      rintro e v3 ⟨s0, s1, s2, s3, cc, rfl, hs, hcc, hv, hbl⟩
      have HVs := Lib.hid (show val4 s0 s1 s2 s3 = val4 a0 a1 a2 a3 % F.M + val4 b0 b1 b2 b3 % F.M by have := Nat.mod_lt (val4 a0 a1 a2 a3) hpos; have := Nat.mod_lt (val4 b0 b1 b2 b3) hpos; rw [HVx.out, HVy.out] at hv; omega)
      clear hv
      have HM' := Lib.hid (HM.out.on hbl)
      clear HM hbl
      have HM := HM'
      clear HM'
      have HS := (HM.out.sub (rs' := [(w.heap.size + 1 + 1, 0, 0, 0, 0), (w.heap.size + 1, b0, b1, b2, b3), (w.heap.size, a0, a1, a2, a3)]) (by simp))
      refine hK.out _ _ (Or.inr HS) (fun _ => ?_)
      clear hK K HS
      have HS := HM.out.sub (rs' := [(w.heap.size + 1 + 1, 0, 0, 0, 0), (w.heap.size + 1, b0, b1, b2, b3), (w.heap.size, a0, a1, a2, a3)]) (by simp)
      refine till_take (i := 7) (v := .tuple #[.agg #[.int .u64 s0, .int .u64 s1, .int .u64 s2, .int .u64 s3], .int .u64 (cc : Nat)]) rfl (by kernel_rfl) (by kernel_rfl) (by kernel_rfl) (by kernel_rfl) (fun _ _ _ h => h) HS (Or.inl ⟨by kernel_rfl, fun wx hx => ?_⟩) ?_
      · clear HS hx
        go_simp
      simp only [Act.put, List.setIfInBounds_toArray, List.set_cons_zero, List.set_cons_succ]
      refine till_take (i := 8) (v := .agg #[.int .u64 s0, .int .u64 s1, .int .u64 s2, .int .u64 s3]) rfl (by kernel_rfl) (by kernel_rfl) (by kernel_rfl) (by kernel_rfl) (fun _ _ _ h => h) HS (Or.inl ⟨by kernel_rfl, fun wx hx => ?_⟩) ?_
      · clear HS hx
        go_simp
      simp only [Act.put, List.setIfInBounds_toArray, List.set_cons_zero, List.set_cons_succ]
      refine till_take (i := 9) (v := .int .u64 (cc : Nat)) rfl (by kernel_rfl) (by kernel_rfl) (by kernel_rfl) (by kernel_rfl) (fun _ _ _ h => h) HS (Or.inl ⟨by kernel_rfl, fun wx hx => ?_⟩) ?_
      · clear HS hx
        go_simp
      simp only [Act.put, List.setIfInBounds_toArray, List.set_cons_zero, List.set_cons_succ]
      clear HS
      have kr := HM.out.row (b := (w.heap.size + 1 + 1 + 1)) (c0 := 0) (c1 := 0) (c2 := 0) (c3 := 0) (by simp)
      have yl := HM.out.lt (b := (w.heap.size + 1 + 1 + 1)) (c0 := 0) (c1 := 0) (c2 := 0) (c3 := 0) (by simp)
      have y0 := kr.c0; have y1 := kr.c1; have y2 := kr.c2; have y3 := kr.c3; have yf := kr.fr
      clear kr
      refine till_step (i := 11) (by kernel_rfl) rfl (fun K hK => ?_)
      go_simp
      have HM' := Lib.hid (HM.out.put s0 s1 s2 s3 (by omega) (by intro r hr; simp at hr; rcases hr with rfl | rfl | rfl <;> simp <;> omega))
      clear HM
      have HM := HM'
      clear HM'
      have HS := (HM.out.sub (rs' := [(w.heap.size + 1 + 1, 0, 0, 0, 0), (w.heap.size + 1, b0, b1, b2, b3), (w.heap.size, a0, a1, a2, a3)]) (by simp))
      refine hK.out _ _ (Or.inr HS) (fun _ => ?_)
      clear hK K HS
      refine till_step (i := 12) (by kernel_rfl) rfl (fun K hK => ?_)
      go_simp
      refine hK.out _ _ (Or.inl rfl) (fun _ => ?_)
      clear hK K
      refine till_done (by kernel_rfl) ?_
      go_wp2_with fail
      go_meet
      exact ⟨(w.heap.size + 1 + 1 + 1), s0, s1, s2, s3, rfl, hs, HVs, Lib.hid (HM.out.sub (by simp))⟩
  case rest =>
    obtain ⟨gb, s0, s1, s2, s3, rfl, hs, HVs, HM'⟩ := hcut
    clear HM
    have HM := HM'
    clear HM'
    have kr := HM.out.row (b := gb) (c0 := s0) (c1 := s1) (c2 := s2) (c3 := s3) (by simp)
    have x0 := kr.c0; have x1 := kr.c1; have x2 := kr.c2; have x3 := kr.c3
    clear kr
    have xl := HM.out.lt (b := gb) (c0 := s0) (c1 := s1) (c2 := s2) (c3 := s3) (by simp)
    go_wp2_with fail
    refine (down_calls f F hf s0 s1 s2 s3 hs _).mono ?_
    rintro e w5 ⟨r0, r1, r2, r3, rfl, hr, hv, hbl⟩
    have HVr := Lib.hid (show val4 r0 r1 r2 r3 = (val4 a0 a1 a2 a3 + val4 b0 b1 b2 b3) % F.M by rw [hv, HVs.out, ← Nat.add_mod])
    clear hv
    have HM' := Lib.hid (HM.out.on hbl)
    clear HM hbl
    have HM := HM'
    clear HM'
    clear x0 x1 x2 x3 xl
    have kr := HM.out.row (b := w.heap.size + 1 + 1) (c0 := 0) (c1 := 0) (c2 := 0) (c3 := 0) (by simp)
    have y0 := kr.c0; have y1 := kr.c1; have y2 := kr.c2; have y3 := kr.c3; have yf := kr.fr
    clear kr
    have yl := HM.out.lt (b := w.heap.size + 1 + 1) (c0 := 0) (c1 := 0) (c2 := 0) (c3 := 0) (by simp)
    go_wp2_with fail
    refine bodyPost_ret (v := .agg #[.int .u64 r0, .int .u64 r1, .int .u64 r2, .int .u64 r3]) (by simp [results, Try.results39, go_sem, *]) rfl ?_
    refine ⟨_, _, _, _, rfl, hr, HVr.out, ?_⟩
    exact below_set4 HM.out.1 (by omega) _ _ _ _
set_option maxRecDepth 100000 in
set_option maxHeartbeats 2000000 in
theorem rneg_calls (f : Int) (F : FC) (hf : FieldIs f F) (a0 a1 a2 a3 : Nat) (ha : ok4 a0 a1 a2 a3) (w : World) :
    Calls Try.prog 68 #[.int .i64 f, .agg #[.int .u64 a0, .int .u64 a1, .int .u64 a2, .int .u64 a3]] w (FePost ((F.M - val4 a0 a1 a2 a3 % F.M) % F.M) w) := by
  have hpos := hf.ok.pos
  have h2M := hf.ok.two
  have hG := eqGuardW
  go_enter Try.func68, Try.ntmps68
  go_wp2_with fail
  have HM := Lib.hid (((Mem.nil w).new (w.heap.size) a0 a1 a2 a3 24 (by simp)).new (w.heap.size + 1) 0 0 0 0 24 (by simp))
  refine (down_calls f F hf a0 a1 a2 a3 ha _).mono ?_
  rintro e w1 ⟨x0, x1, x2, x3, rfl, hx, hv, hbl⟩
  have HVx := Lib.hid hv
  clear hv
  have HM' := Lib.hid (HM.out.on hbl)
  clear HM hbl
  have HM := HM'
  clear HM'
  have hz1 : w.heap.size + 1 < w1.heap.size := HM.out.lt (b := w.heap.size + 1) (c0 := 0) (c1 := 0) (c2 := 0) (c3 := 0) (by simp)
  have HMo := HM
  have HM' := Lib.hid (HM.out.new w1.heap.size x0 x1 x2 x3 45 rfl)
  clear HM
  have HM := HM'
  clear HM'
  by_cases hz : val4 a0 a1 a2 a3 % F.M = 0
  · have hE : ∀ w, (Op.equalIn 10000 45 (.agg #[.int .u64 x0, .int .u64 x1, .int .u64 x2, .int .u64 x3]) (.agg #[.int .u64 0, .int .u64 0, .int .u64 0, .int .u64 0])).run Try.prog w = .ok true w := fun w => by
      have h := equalInW 9998 x0 x1 x2 x3 0 0 0 0 w
      rw [(eqW_iff hx zok).2 (HVx.out.trans (hz.trans rfl))] at h
      exact h
    have HZ := Lib.hid hz
    clear hz
    have kr := HMo.out.row (b := w.heap.size + 1) (c0 := 0) (c1 := 0) (c2 := 0) (c3 := 0) (by simp)
    have y0 := kr.c0; have y1 := kr.c1; have y2 := kr.c2; have y3 := kr.c3; have yf := kr.fr
    clear kr
    go_wp2_with fail
    refine bodyPost_ret (v := .agg #[.int .u64 0, .int .u64 0, .int .u64 0, .int .u64 0]) (by simp [results, Try.results68, go_sem, *]) rfl ?_
    refine ⟨_, _, _, _, rfl, zok, by rw [HZ.out, Nat.sub_zero, Nat.mod_self]; rfl, ?_⟩
    repeat (first | exact HMo.out.1 | refine Below.alloc ?_ (by first | (simp; done) | (simp; omega)) _ | refine Below.setCell ?_ (by first | (simp; done) | (simp; omega)) _)
  · have hE : ∀ w, (Op.equalIn 10000 45 (.agg #[.int .u64 x0, .int .u64 x1, .int .u64 x2, .int .u64 x3]) (.agg #[.int .u64 0, .int .u64 0, .int .u64 0, .int .u64 0])).run Try.prog w = .ok false w := fun w => by
      have h := equalInW 9998 x0 x1 x2 x3 0 0 0 0 w
      rw [eqW_false (fun q => hz (HVx.out.symm.trans (((eqW_iff hx zok).1 q).trans rfl)))] at h
      exact h
    have HZ := Lib.hid hz
    clear hz HMo
    go_upto_region 4 with fail
    go_cut [6] (fun s6 wx => ∃ gb s0 s1 s2 s3 : Nat, s6 = .pointer (some ⟨gb, 0, none⟩) ∧ ok4 s0 s1 s2 s3 ∧ Hid (val4 s0 s1 s2 s3 = F.M - val4 a0 a1 a2 a3 % F.M) ∧ Hid (Mem w wx [(gb, s0, s1, s2, s3), (w.heap.size + 1, 0, 0, 0, 0)]))
    case first =>
      refine region_till (fun wx => Mem w wx [(w1.heap.size, x0, x1, x2, x3), (w.heap.size + 1, 0, 0, 0, 0), (w.heap.size, a0, a1, a2, a3)]) 9 (by kernel_rfl) ?_
      have HM' := Lib.hid (HM.out.drewN 1)
      clear HM
      have HM := HM'
      clear HM'
      have HS := HM.out.sub (rs' := [(w1.heap.size, x0, x1, x2, x3), (w.heap.size + 1, 0, 0, 0, 0), (w.heap.size, a0, a1, a2, a3)]) (by simp)
      refine till_take (i := 0) (v := .int .i64 f) rfl (by kernel_rfl) (by kernel_rfl) (by kernel_rfl) (by kernel_rfl) (fun _ _ _ h => h) HS (Or.inl ⟨by kernel_rfl, fun wx hx => ?_⟩) ?_
      · clear HS hx
        go_simp
      simp only [Act.put, List.setIfInBounds_toArray, List.set_cons_zero, List.set_cons_succ]
      refine till_take (i := 2) (v := .agg #[.int .u64 x0, .int .u64 x1, .int .u64 x2, .int .u64 x3]) rfl (by kernel_rfl) (by kernel_rfl) (by kernel_rfl) (by kernel_rfl) (fun _ _ _ h => h) HS (Or.inl ⟨by kernel_rfl, fun wx hx => ?_⟩) ?_
      · have kr := hx.row (b := w1.heap.size) (c0 := x0) (c1 := x1) (c2 := x2) (c3 := x3) (by simp)
        have x0 := kr.c0; have x1 := kr.c1; have x2 := kr.c2; have x3 := kr.c3
        clear kr HS hx
        go_simp
      simp only [Act.put, List.setIfInBounds_toArray, List.set_cons_zero, List.set_cons_succ]
      clear HS
      refine till_two (i := 1) (j := 7) (by kernel_rfl) rfl rfl (fun K hK => ?_) (fun K hK => ?_)
      · go_simp
        refine (rmod_some f F hf _).mono ?_
        rintro e v1 ⟨rfl, hbl⟩
        have HM' := Lib.hid (HM.out.on hbl)
        clear HM hbl
        have HM := HM'
        clear HM'
        have HS := (HM.out.sub (rs' := [(w1.heap.size, x0, x1, x2, x3), (w.heap.size + 1, 0, 0, 0, 0), (w.heap.size, a0, a1, a2, a3)]) (by simp))
        refine hK.out _ _ (Or.inr HS) (fun _ => ?_)
        clear hK K HS
        refine till_two (i := 3) (j := 7) (by kernel_rfl) rfl rfl (fun K hK => ?_) (fun K hK => ?_)
        · go_simp
          refine (refMinus_calls F.m0 F.m1 F.m2 F.m3 x0 x1 x2 x3 hf.ok.okm hx _).mono ?_
          rintro e v2 ⟨s0, s1, s2, s3, cc, rfl, hs, hcc, hv, hbl⟩
          have HVs := Lib.hid (show val4 s0 s1 s2 s3 = F.M - val4 a0 a1 a2 a3 % F.M by have := Nat.mod_lt (val4 a0 a1 a2 a3) hpos; have := val4_lt hs; rw [HVx.out, show val4 F.m0 F.m1 F.m2 F.m3 = F.M from rfl] at hv; omega)
          clear hv
          have HM' := Lib.hid (HM.out.on hbl)
          clear HM hbl
          have HM := HM'
          clear HM'
          have HS := (HM.out.sub (rs' := [(w1.heap.size, x0, x1, x2, x3), (w.heap.size + 1, 0, 0, 0, 0), (w.heap.size, a0, a1, a2, a3)]) (by simp))
          refine hK.out _ _ (Or.inr HS) (fun _ => ?_)
          clear hK K HS
          have HS := HM.out.sub (rs' := [(w1.heap.size, x0, x1, x2, x3), (w.heap.size + 1, 0, 0, 0, 0), (w.heap.size, a0, a1, a2, a3)]) (by simp)
          refine till_take (i := 4) (v := .tuple #[.agg #[.int .u64 s0, .int .u64 s1, .int .u64 s2, .int .u64 s3], .int .u64 (cc : Nat)]) rfl (by kernel_rfl) (by kernel_rfl) (by kernel_rfl) (by kernel_rfl) (fun _ _ _ h => h) HS (Or.inl ⟨by kernel_rfl, fun wx hx => ?_⟩) ?_
          · clear HS hx
            go_simp
          simp only [Act.put, List.setIfInBounds_toArray, List.set_cons_zero, List.set_cons_succ]
          refine till_take (i := 5) (v := .agg #[.int .u64 s0, .int .u64 s1, .int .u64 s2, .int .u64 s3]) rfl (by kernel_rfl) (by kernel_rfl) (by kernel_rfl) (by kernel_rfl) (fun _ _ _ h => h) HS (Or.inl ⟨by kernel_rfl, fun wx hx => ?_⟩) ?_
          · clear HS hx
            go_simp
          simp only [Act.put, List.setIfInBounds_toArray, List.set_cons_zero, List.set_cons_succ]
          refine till_take (i := 6) (v := .int .u64 (cc : Nat)) rfl (by kernel_rfl) (by kernel_rfl) (by kernel_rfl) (by kernel_rfl) (fun _ _ _ h => h) HS (Or.inl ⟨by kernel_rfl, fun wx hx => ?_⟩) ?_
          · clear HS hx
            go_simp
          simp only [Act.put, List.setIfInBounds_toArray, List.set_cons_zero, List.set_cons_succ]
          clear HS
          refine till_step (i := 7) (by kernel_rfl) rfl (fun K hK => ?_)
          go_simp
          have HM9 := HM
          have HM' := Lib.hid (HM.out.new (v2.heap.size) 0 0 0 0 45 (by first | rfl | (simp; done)))
          have hga : w1.heap.size < (v2.heap.size) := by first | exact HM.out.lt (b := w1.heap.size) (c0 := x0) (c1 := x1) (c2 := x2) (c3 := x3) (by simp) | simpa using HM.out.lt (b := w1.heap.size) (c0 := x0) (c1 := x1) (c2 := x2) (c3 := x3) (by simp) | (have := HM.out.lt (b := w1.heap.size) (c0 := x0) (c1 := x1) (c2 := x2) (c3 := x3) (by simp); simp at this ⊢; omega)
          clear HM
          have HM := HM'
          clear HM'
          have HS := (HM.out.sub (rs' := [(w1.heap.size, x0, x1, x2, x3), (w.heap.size + 1, 0, 0, 0, 0), (w.heap.size, a0, a1, a2, a3)]) (by simp))
          refine hK.out _ _ (Or.inr HS) (fun _ => ?_)
          clear hK K HS
          have kr := HM.out.row (b := (v2.heap.size)) (c0 := 0) (c1 := 0) (c2 := 0) (c3 := 0) (by simp)
          have yl := HM.out.lt (b := (v2.heap.size)) (c0 := 0) (c1 := 0) (c2 := 0) (c3 := 0) (by simp)
          have y0 := kr.c0; have y1 := kr.c1; have y2 := kr.c2; have y3 := kr.c3; have yf := kr.fr
          clear kr
          refine till_step (i := 8) (by kernel_rfl) rfl (fun K hK => ?_)
          go_simp
          have HM' := Lib.hid (HM9.out.new (v2.heap.size) s0 s1 s2 s3 45 (by first | rfl | (simp; done)))
          clear HM
          have HM := HM'
          clear HM'
          have HS := (HM.out.sub (rs' := [(w1.heap.size, x0, x1, x2, x3), (w.heap.size + 1, 0, 0, 0, 0), (w.heap.size, a0, a1, a2, a3)]) (by simp))
          refine hK.out _ _ (Or.inr HS) (fun _ => ?_)
          clear hK K HS
          refine till_step (i := 9) (by kernel_rfl) rfl (fun K hK => ?_)
          go_simp
          refine hK.out _ _ (Or.inl rfl) (fun _ => ?_)
          clear hK K
          refine till_done (by kernel_rfl) ?_
          go_wp2_with fail
          go_meet
          exact ⟨(v2.heap.size), s0, s1, s2, s3, rfl, hs, HVs, Lib.hid (HM.out.sub (by simp))⟩
        · go_simp
          have HM9 := HM
          have HM' := Lib.hid (HM.out.new (v1.heap.size) 0 0 0 0 45 (by first | rfl | (simp; done)))
          have hga : w1.heap.size < (v1.heap.size) := by first | exact HM.out.lt (b := w1.heap.size) (c0 := x0) (c1 := x1) (c2 := x2) (c3 := x3) (by simp) | simpa using HM.out.lt (b := w1.heap.size) (c0 := x0) (c1 := x1) (c2 := x2) (c3 := x3) (by simp) | (have := HM.out.lt (b := w1.heap.size) (c0 := x0) (c1 := x1) (c2 := x2) (c3 := x3) (by simp); simp at this ⊢; omega)
          clear HM
          have HM := HM'
          clear HM'
          have HS := (HM.out.sub (rs' := [(w1.heap.size, x0, x1, x2, x3), (w.heap.size + 1, 0, 0, 0, 0), (w.heap.size, a0, a1, a2, a3)]) (by simp))
          refine hK.out _ _ (Or.inr HS) (fun _ => ?_)
          clear hK K HS
          refine till_step (i := 3) (by kernel_rfl) rfl (fun K hK => ?_)
          go_simp
          refine (refMinus_calls F.m0 F.m1 F.m2 F.m3 x0 x1 x2 x3 hf.ok.okm hx _).mono ?_
          rintro e v2 ⟨s0, s1, s2, s3, cc, rfl, hs, hcc, hv, hbl⟩
          have HVs := Lib.hid (show val4 s0 s1 s2 s3 = F.M - val4 a0 a1 a2 a3 % F.M by have := Nat.mod_lt (val4 a0 a1 a2 a3) hpos; have := val4_lt hs; rw [HVx.out, show val4 F.m0 F.m1 F.m2 F.m3 = F.M from rfl] at hv; omega)
          clear hv
          have HM' := Lib.hid (HM.out.on hbl)
          clear HM hbl
          have HM := HM'
          clear HM'
          have HS := (HM.out.sub (rs' := [(w1.heap.size, x0, x1, x2, x3), (w.heap.size + 1, 0, 0, 0, 0), (w.heap.size, a0, a1, a2, a3)]) (by simp))
          refine hK.out _ _ (Or.inr HS) (fun _ => ?_)
          clear hK K HS
          have HS := HM.out.sub (rs' := [(w1.heap.size, x0, x1, x2, x3), (w.heap.size + 1, 0, 0, 0, 0), (w.heap.size, a0, a1, a2, a3)]) (by simp)
          refine till_take (i := 4) (v := .tuple #[.agg #[.int .u64 s0, .int .u64 s1, .int .u64 s2, .int .u64 s3], .int .u64 (cc : Nat)]) rfl (by kernel_rfl) (by kernel_rfl) (by kernel_rfl) (by kernel_rfl) (fun _ _ _ h => h) HS (Or.inl ⟨by kernel_rfl, fun wx hx => ?_⟩) ?_
          · clear HS hx
            go_simp
          simp only [Act.put, List.setIfInBounds_toArray, List.set_cons_zero, List.set_cons_succ]
          refine till_take (i := 5) (v := .agg #[.int .u64 s0, .int .u64 s1, .int .u64 s2, .int .u64 s3]) rfl (by kernel_rfl) (by kernel_rfl) (by kernel_rfl) (by kernel_rfl) (fun _ _ _ h => h) HS (Or.inl ⟨by kernel_rfl, fun wx hx => ?_⟩) ?_
          · clear HS hx
            go_simp
          simp only [Act.put, List.setIfInBounds_toArray, List.set_cons_zero, List.set_cons_succ]
          refine till_take (i := 6) (v := .int .u64 (cc : Nat)) rfl (by kernel_rfl) (by kernel_rfl) (by kernel_rfl) (by kernel_rfl) (fun _ _ _ h => h) HS (Or.inl ⟨by kernel_rfl, fun wx hx => ?_⟩) ?_
          · clear HS hx
            go_simp
          simp only [Act.put, List.setIfInBounds_toArray, List.set_cons_zero, List.set_cons_succ]
          clear HS
          have kr := HM.out.row (b := (v1.heap.size)) (c0 := 0) (c1 := 0) (c2 := 0) (c3 := 0) (by simp)
          have yl := HM.out.lt (b := (v1.heap.size)) (c0 := 0) (c1 := 0) (c2 := 0) (c3 := 0) (by simp)
          have y0 := kr.c0; have y1 := kr.c1; have y2 := kr.c2; have y3 := kr.c3; have yf := kr.fr
          clear kr
          refine till_step (i := 8) (by kernel_rfl) rfl (fun K hK => ?_)
          go_simp
          have HM' := Lib.hid (HM.out.put s0 s1 s2 s3 (by omega) (by intro r hr; simp at hr; rcases hr with rfl | rfl | rfl <;> simp <;> omega))
          clear HM
          have HM := HM'
          clear HM'
          have HS := (HM.out.sub (rs' := [(w1.heap.size, x0, x1, x2, x3), (w.heap.size + 1, 0, 0, 0, 0), (w.heap.size, a0, a1, a2, a3)]) (by simp))
          refine hK.out _ _ (Or.inr HS) (fun _ => ?_)
          clear hK K HS
          refine till_step (i := 9) (by kernel_rfl) rfl (fun K hK => ?_)
          go_simp
          refine hK.out _ _ (Or.inl rfl) (fun _ => ?_)
          clear hK K
          refine till_done (by kernel_rfl) ?_
          go_wp2_with fail
          go_meet
          exact ⟨(v1.heap.size), s0, s1, s2, s3, rfl, hs, HVs, Lib.hid (HM.out.sub (by simp))⟩
      · go_simp
        have HM9 := HM
        have HM' := Lib.hid (HM.out.new (w1.heap.size + 1) 0 0 0 0 45 (by first | rfl | (simp; done)))
        have hga : w1.heap.size < (w1.heap.size + 1) := by first | exact HM.out.lt (b := w1.heap.size) (c0 := x0) (c1 := x1) (c2 := x2) (c3 := x3) (by simp) | simpa using HM.out.lt (b := w1.heap.size) (c0 := x0) (c1 := x1) (c2 := x2) (c3 := x3) (by simp) | (have := HM.out.lt (b := w1.heap.size) (c0 := x0) (c1 := x1) (c2 := x2) (c3 := x3) (by simp); simp at this ⊢; omega)
        clear HM
        have HM := HM'
        clear HM'
        have HS := (HM.out.sub (rs' := [(w1.heap.size, x0, x1, x2, x3), (w.heap.size + 1, 0, 0, 0, 0), (w.heap.size, a0, a1, a2, a3)]) (by simp))
        refine hK.out _ _ (Or.inr HS) (fun _ => ?_)
        clear hK K HS
        refine till_step (i := 1) (by kernel_rfl) rfl (fun K hK => ?_)
        go_simp
        refine (rmod_some f F hf _).mono ?_
        rintro e v1 ⟨rfl, hbl⟩
        have HM' := Lib.hid (HM.out.on hbl)
        clear HM hbl
        have HM := HM'
        clear HM'
        have HS := (HM.out.sub (rs' := [(w1.heap.size, x0, x1, x2, x3), (w.heap.size + 1, 0, 0, 0, 0), (w.heap.size, a0, a1, a2, a3)]) (by simp))
        refine hK.out _ _ (Or.inr HS) (fun _ => ?_)
        clear hK K HS
        refine till_step (i := 3) (by kernel_rfl) rfl (fun K hK => ?_)
        go_simp
        refine (refMinus_calls F.m0 F.m1 F.m2 F.m3 x0 x1 x2 x3 hf.ok.okm hx _).mono ?_
        rintro e v2 ⟨s0, s1, s2, s3, cc, rfl, hs, hcc, hv, hbl⟩
        have HVs := Lib.hid (show val4 s0 s1 s2 s3 = F.M - val4 a0 a1 a2 a3 % F.M by have := Nat.mod_lt (val4 a0 a1 a2 a3) hpos; have := val4_lt hs; rw [HVx.out, show val4 F.m0 F.m1 F.m2 F.m3 = F.M from rfl] at hv; omega)
        clear hv
        have HM' := Lib.hid (HM.out.on hbl)
        clear HM hbl
        have HM := HM'
        clear HM'
        have HS := (HM.out.sub (rs' := [(w1.heap.size, x0, x1, x2, x3), (w.heap.size + 1, 0, 0, 0, 0), (w.heap.size, a0, a1, a2, a3)]) (by simp))
        refine hK.out _ _ (Or.inr HS) (fun _ => ?_)
        clear hK K HS
        have HS := HM.out.sub (rs' := [(w1.heap.size, x0, x1, x2, x3), (w.heap.size + 1, 0, 0, 0, 0), (w.heap.size, a0, a1, a2, a3)]) (by simp)
        refine till_take (i := 4) (v := .tuple #[.agg #[.int .u64 s0, .int .u64 s1, .int .u64 s2, .int .u64 s3], .int .u64 (cc : Nat)]) rfl (by kernel_rfl) (by kernel_rfl) (by kernel_rfl) (by kernel_rfl) (fun _ _ _ h => h) HS (Or.inl ⟨by kernel_rfl, fun wx hx => ?_⟩) ?_
        · clear HS hx
          go_simp
        simp only [Act.put, List.setIfInBounds_toArray, List.set_cons_zero, List.set_cons_succ]
        refine till_take (i := 5) (v := .agg #[.int .u64 s0, .int .u64 s1, .int .u64 s2, .int .u64 s3]) rfl (by kernel_rfl) (by kernel_rfl) (by kernel_rfl) (by kernel_rfl) (fun _ _ _ h => h) HS (Or.inl ⟨by kernel_rfl, fun wx hx => ?_⟩) ?_
        · clear HS hx
          go_simp
        simp only [Act.put, List.setIfInBounds_toArray, List.set_cons_zero, List.set_cons_succ]
        refine till_take (i := 6) (v := .int .u64 (cc : Nat)) rfl (by kernel_rfl) (by kernel_rfl) (by kernel_rfl) (by kernel_rfl) (fun _ _ _ h => h) HS (Or.inl ⟨by kernel_rfl, fun wx hx => ?_⟩) ?_
        · clear HS hx
          go_simp
        simp only [Act.put, List.setIfInBounds_toArray, List.set_cons_zero, List.set_cons_succ]
        clear HS
        have kr := HM.out.row (b := (w1.heap.size + 1)) (c0 := 0) (c1 := 0) (c2 := 0) (c3 := 0) (by simp)
        have yl := HM.out.lt (b := (w1.heap.size + 1)) (c0 := 0) (c1 := 0) (c2 := 0) (c3 := 0) (by simp)
        have y0 := kr.c0; have y1 := kr.c1; have y2 := kr.c2; have y3 := kr.c3; have yf := kr.fr
        clear kr
        refine till_step (i := 8) (by kernel_rfl) rfl (fun K hK => ?_)
        go_simp
        have HM' := Lib.hid (HM.out.put s0 s1 s2 s3 (by omega) (by intro r hr; simp at hr; rcases hr with rfl | rfl | rfl <;> simp <;> omega))
        clear HM
        have HM := HM'
        clear HM'
        have HS := (HM.out.sub (rs' := [(w1.heap.size, x0, x1, x2, x3), (w.heap.size + 1, 0, 0, 0, 0), (w.heap.size, a0, a1, a2, a3)]) (by simp))
        refine hK.out _ _ (Or.inr HS) (fun _ => ?_)
        clear hK K HS
        refine till_step (i := 9) (by kernel_rfl) rfl (fun K hK => ?_)
        go_simp
        refine hK.out _ _ (Or.inl rfl) (fun _ => ?_)
        clear hK K
        refine till_done (by kernel_rfl) ?_
        go_wp2_with fail
        go_meet
        exact ⟨(w1.heap.size + 1), s0, s1, s2, s3, rfl, hs, HVs, Lib.hid (HM.out.sub (by simp))⟩
    case rest =>
      obtain ⟨gb, s0, s1, s2, s3, rfl, hs, HVs, HM'⟩ := hcut
      clear HM
      have HM := HM'
      clear HM'
      have kr := HM.out.row (b := gb) (c0 := s0) (c1 := s1) (c2 := s2) (c3 := s3) (by simp)
      have x0 := kr.c0; have x1 := kr.c1; have x2 := kr.c2; have x3 := kr.c3
      clear kr
      have xl := HM.out.lt (b := gb) (c0 := s0) (c1 := s1) (c2 := s2) (c3 := s3) (by simp)
      have kr := HM.out.row (b := w.heap.size + 1) (c0 := 0) (c1 := 0) (c2 := 0) (c3 := 0) (by simp)
      have y0 := kr.c0; have y1 := kr.c1; have y2 := kr.c2; have y3 := kr.c3; have yf := kr.fr
      clear kr
      have yl := HM.out.lt (b := w.heap.size + 1) (c0 := 0) (c1 := 0) (c2 := 0) (c3 := 0) (by simp)
      go_wp2_with fail
      refine bodyPost_ret (v := .agg #[.int .u64 s0, .int .u64 s1, .int .u64 s2, .int .u64 s3]) (by simp [results, Try.results68, go_sem, *]) rfl ?_
      refine ⟨_, _, _, _, rfl, hs, by rw [HVs.out, Nat.mod_eq_of_lt (Nat.sub_lt hpos (Nat.pos_of_ne_zero HZ.out))], ?_⟩
      exact below_set4 HM.out.1 (by omega) _ _ _ _
set_option maxRecDepth 100000 in
set_option maxHeartbeats 2000000 in
theorem rsub_calls (f : Int) (F : FC) (hf : FieldIs f F) (a0 a1 a2 a3 b0 b1 b2 b3 : Nat) (ha : ok4 a0 a1 a2 a3) (hb : ok4 b0 b1 b2 b3) (w : World) :
    Calls Try.prog 41 #[.int .i64 f, .agg #[.int .u64 a0, .int .u64 a1, .int .u64 a2, .int .u64 a3], .agg #[.int .u64 b0, .int .u64 b1, .int .u64 b2, .int .u64 b3]] w (FePost ((val4 a0 a1 a2 a3 + (F.M - val4 b0 b1 b2 b3 % F.M)) % F.M) w) := by
  go_enter Try.func41, Try.ntmps41
  go_wp2_with fail
  have HM := Lib.hid ((((Mem.nil w).new (w.heap.size) a0 a1 a2 a3 24 (by simp)).new (w.heap.size + 1) b0 b1 b2 b3 24 (by simp)).new (w.heap.size + 1 + 1) 0 0 0 0 24 (by simp))
  refine region_till (fun wx => Mem w wx [(w.heap.size + 1, b0, b1, b2, b3), (w.heap.size, a0, a1, a2, a3)]) 6 (by kernel_rfl) ?_
  have HM' := Lib.hid (HM.out.drewN 1)
  clear HM
  have HM := HM'
  clear HM'
  have HS := HM.out.sub (rs' := [(w.heap.size + 1, b0, b1, b2, b3), (w.heap.size, a0, a1, a2, a3)]) (by simp)
  refine till_take (i := 0) (v := .int .i64 f) rfl (by kernel_rfl) (by kernel_rfl) (by kernel_rfl) (by kernel_rfl) (fun _ _ _ h => h) HS (Or.inl ⟨by kernel_rfl, fun wx hx => ?_⟩) ?_
  · clear HS hx
    go_simp
  simp only [Act.put, List.setIfInBounds_toArray, List.set_cons_zero, List.set_cons_succ]
  refine till_take (i := 1) (v := .agg #[.int .u64 a0, .int .u64 a1, .int .u64 a2, .int .u64 a3]) rfl (by kernel_rfl) (by kernel_rfl) (by kernel_rfl) (by kernel_rfl) (fun _ _ _ h => h) HS (Or.inl ⟨by kernel_rfl, fun wx hx => ?_⟩) ?_
  · have kr := hx.row (b := w.heap.size) (c0 := a0) (c1 := a1) (c2 := a2) (c3 := a3) (by simp)
    have x0 := kr.c0; have x1 := kr.c1; have x2 := kr.c2; have x3 := kr.c3
    clear kr HS hx
    go_simp
  simp only [Act.put, List.setIfInBounds_toArray, List.set_cons_zero, List.set_cons_succ]
  refine till_take (i := 2) (v := .int .i64 f) rfl (by kernel_rfl) (by kernel_rfl) (by kernel_rfl) (by kernel_rfl) (fun _ _ _ h => h) HS (Or.inl ⟨by kernel_rfl, fun wx hx => ?_⟩) ?_
  · clear HS hx
    go_simp
  simp only [Act.put, List.setIfInBounds_toArray, List.set_cons_zero, List.set_cons_succ]
  refine till_take (i := 3) (v := .agg #[.int .u64 b0, .int .u64 b1, .int .u64 b2, .int .u64 b3]) rfl (by kernel_rfl) (by kernel_rfl) (by kernel_rfl) (by kernel_rfl) (fun _ _ _ h => h) HS (Or.inl ⟨by kernel_rfl, fun wx hx => ?_⟩) ?_
  · have kr := hx.row (b := w.heap.size + 1) (c0 := b0) (c1 := b1) (c2 := b2) (c3 := b3) (by simp)
    have x0 := kr.c0; have x1 := kr.c1; have x2 := kr.c2; have x3 := kr.c3
    clear kr HS hx
    go_simp
  simp only [Act.put, List.setIfInBounds_toArray, List.set_cons_zero, List.set_cons_succ]
  clear HS
  refine till_step (i := 4) (by kernel_rfl) rfl (fun K hK => ?_)
  go_simp
  refine (rneg_calls f F hf b0 b1 b2 b3 hb _).mono ?_
  rintro e w1 ⟨n0, n1, n2, n3, rfl, hn, hv, hbl⟩
  have HVn := Lib.hid hv
  clear hv
  have HM' := Lib.hid (HM.out.on hbl)
  clear HM hbl
  have HM := HM'
  clear HM'
  have HS := HM.out.sub (rs' := [(w.heap.size + 1, b0, b1, b2, b3), (w.heap.size, a0, a1, a2, a3)]) (by simp)
  refine hK.out _ _ (Or.inr HS) (fun _ => ?_)
  clear hK K
  clear HS
  refine till_step (i := 5) (by kernel_rfl) rfl (fun K hK => ?_)
  go_simp
  refine (radd_calls f F hf a0 a1 a2 a3 n0 n1 n2 n3 ha hn _).mono ?_
  rintro e w2 ⟨s0, s1, s2, s3, rfl, hs, hv, hbl⟩
  have HVs := Lib.hid (show val4 s0 s1 s2 s3 = (val4 a0 a1 a2 a3 + (F.M - val4 b0 b1 b2 b3 % F.M)) % F.M by rw [hv, HVn.out, Nat.add_mod_mod])
  clear hv
  have HM' := Lib.hid (HM.out.on hbl)
  clear HM hbl
  have HM := HM'
  clear HM'
  have HS := HM.out.sub (rs' := [(w.heap.size + 1, b0, b1, b2, b3), (w.heap.size, a0, a1, a2, a3)]) (by simp)
  refine hK.out _ _ (Or.inr HS) (fun _ => ?_)
  clear hK K
  clear HS
  have kr := HM.out.row (b := w.heap.size + 1 + 1) (c0 := 0) (c1 := 0) (c2 := 0) (c3 := 0) (by simp)
  have y0 := kr.c0; have y1 := kr.c1; have y2 := kr.c2; have y3 := kr.c3; have yf := kr.fr
  clear kr
  have yl := HM.out.lt (b := w.heap.size + 1 + 1) (c0 := 0) (c1 := 0) (c2 := 0) (c3 := 0) (by simp)
  refine till_step (i := 6) (by kernel_rfl) rfl (fun K hK => ?_)
  go_simp
  have HM' := Lib.hid ((HM.out.sub (rs' := [(w.heap.size + 1 + 1, 0, 0, 0, 0), (w.heap.size + 1, b0, b1, b2, b3), (w.heap.size, a0, a1, a2, a3)]) (by simp)).put s0 s1 s2 s3 (by omega) (by intro r hr; simp at hr; rcases hr with rfl | rfl <;> simp <;> omega))
  clear HM
  have HM := HM'
  clear HM'
  refine hK.out _ _ (Or.inl rfl) (fun _ => ?_)
  clear hK K
  refine till_done (by kernel_rfl) ?_
  go_wp2_with fail
  refine bodyPost_ret (v := .agg #[.int .u64 s0, .int .u64 s1, .int .u64 s2, .int .u64 s3]) (by simp [results, Try.results41, go_sem, *]) rfl ?_
  exact ⟨_, _, _, _, rfl, hs, HVs.out, HM.out.1⟩
theorem rmul_val {F : FC} (hF : F.Ok) (A B : Nat) : A % F.M * (B % F.M) * F.Ri % F.M * val4 F.s0 F.s1 F.s2 F.s3 * F.Ri % F.M = A * B % F.M := by
  rw [kp_into hF]
  unfold kp
  have h : A % F.M * (B % F.M) * F.Ri % F.M * F.R % F.M = A * B * F.R * F.Ri % F.M := by
    have e : A % F.M * (B % F.M) * F.Ri % F.M * F.R % F.M = A * B * F.Ri * F.R % F.M := cg_mul ((cg_mod _ _).trans (cg_mul (cg_mul (cg_mod _ _) (cg_mod _ _)) rfl)) rfl
    rw [e, Nat.mul_right_comm]
  rw [h, ri_cancel hF]
set_option maxRecDepth 100000 in
set_option maxHeartbeats 2000000 in
theorem rmul_calls (f : Int) (F : FC) (hf : FieldIs f F) (a0 a1 a2 a3 b0 b1 b2 b3 : Nat) (ha : ok4 a0 a1 a2 a3) (hb : ok4 b0 b1 b2 b3) (w : World) :
    Calls Try.prog 40 #[.int .i64 f, .agg #[.int .u64 a0, .int .u64 a1, .int .u64 a2, .int .u64 a3], .agg #[.int .u64 b0, .int .u64 b1, .int .u64 b2, .int .u64 b3]] w (FePost (val4 a0 a1 a2 a3 * val4 b0 b1 b2 b3 % F.M) w) := by
  have hpos := hf.ok.pos
  go_enter Try.func40, Try.ntmps40
  go_wp2_with fail
  have HM := Lib.hid ((((Mem.nil w).new (w.heap.size) a0 a1 a2 a3 24 (by simp)).new (w.heap.size + 1) b0 b1 b2 b3 24 (by simp)).new (w.heap.size + 1 + 1) 0 0 0 0 24 (by simp))
  refine region_till (fun wx => Mem w wx [(w.heap.size + 1, b0, b1, b2, b3), (w.heap.size, a0, a1, a2, a3)]) 12 (by kernel_rfl) ?_
  have HM' := Lib.hid (HM.out.drewN 1)
  clear HM
  have HM := HM'
  clear HM'
  have HS := HM.out.sub (rs' := [(w.heap.size + 1, b0, b1, b2, b3), (w.heap.size, a0, a1, a2, a3)]) (by simp)
  refine till_take (i := 0) (v := .int .i64 f) rfl (by kernel_rfl) (by kernel_rfl) (by kernel_rfl) (by kernel_rfl) (fun _ _ _ h => h) HS (Or.inl ⟨by kernel_rfl, fun wx hx => ?_⟩) ?_
  · clear HS hx
    go_simp
  simp only [Act.put, List.setIfInBounds_toArray, List.set_cons_zero, List.set_cons_succ]
  refine till_take (i := 1) (v := .int .i64 f) rfl (by kernel_rfl) (by kernel_rfl) (by kernel_rfl) (by kernel_rfl) (fun _ _ _ h => h) HS (Or.inl ⟨by kernel_rfl, fun wx hx => ?_⟩) ?_
  · clear HS hx
    go_simp
  simp only [Act.put, List.setIfInBounds_toArray, List.set_cons_zero, List.set_cons_succ]
  refine till_take (i := 2) (v := .int .i64 f) rfl (by kernel_rfl) (by kernel_rfl) (by kernel_rfl) (by kernel_rfl) (fun _ _ _ h => h) HS (Or.inl ⟨by kernel_rfl, fun wx hx => ?_⟩) ?_
  · clear HS hx
    go_simp
  simp only [Act.put, List.setIfInBounds_toArray, List.set_cons_zero, List.set_cons_succ]
  refine till_take (i := 3) (v := .agg #[.int .u64 a0, .int .u64 a1, .int .u64 a2, .int .u64 a3]) rfl (by kernel_rfl) (by kernel_rfl) (by kernel_rfl) (by kernel_rfl) (fun _ _ _ h => h) HS (Or.inl ⟨by kernel_rfl, fun wx hx => ?_⟩) ?_
  · have kr := hx.row (b := w.heap.size) (c0 := a0) (c1 := a1) (c2 := a2) (c3 := a3) (by simp)
    have x0 := kr.c0; have x1 := kr.c1; have x2 := kr.c2; have x3 := kr.c3
    clear kr HS hx
    go_simp
  simp only [Act.put, List.setIfInBounds_toArray, List.set_cons_zero, List.set_cons_succ]
  refine till_take (i := 5) (v := .int .i64 f) rfl (by kernel_rfl) (by kernel_rfl) (by kernel_rfl) (by kernel_rfl) (fun _ _ _ h => h) HS (Or.inl ⟨by kernel_rfl, fun wx hx => ?_⟩) ?_
  · clear HS hx
    go_simp
  simp only [Act.put, List.setIfInBounds_toArray, List.set_cons_zero, List.set_cons_succ]
  refine till_take (i := 6) (v := .agg #[.int .u64 b0, .int .u64 b1, .int .u64 b2, .int .u64 b3]) rfl (by kernel_rfl) (by kernel_rfl) (by kernel_rfl) (by kernel_rfl) (fun _ _ _ h => h) HS (Or.inl ⟨by kernel_rfl, fun wx hx => ?_⟩) ?_
  · have kr := hx.row (b := w.heap.size + 1) (c0 := b0) (c1 := b1) (c2 := b2) (c3 := b3) (by simp)
    have x0 := kr.c0; have x1 := kr.c1; have x2 := kr.c2; have x3 := kr.c3
    clear kr HS hx
    go_simp
  simp only [Act.put, List.setIfInBounds_toArray, List.set_cons_zero, List.set_cons_succ]
  refine till_take (i := 9) (v := .int .i64 f) rfl (by kernel_rfl) (by kernel_rfl) (by kernel_rfl) (by kernel_rfl) (fun _ _ _ h => h) HS (Or.inl ⟨by kernel_rfl, fun wx hx => ?_⟩) ?_
  · clear HS hx
    go_simp
  simp only [Act.put, List.setIfInBounds_toArray, List.set_cons_zero, List.set_cons_succ]
  clear HS
  refine till_step (i := 4) (by kernel_rfl) rfl (fun K hK => ?_)
  go_simp
  refine (down_calls f F hf a0 a1 a2 a3 ha _).mono ?_
  rintro e w1 ⟨x0, x1, x2, x3, rfl, hx, hv, hbl⟩
  have HVx := Lib.hid hv
  clear hv
  have HM' := Lib.hid (HM.out.on hbl)
  clear HM hbl
  have HM := HM'
  clear HM'
  have HS := HM.out.sub (rs' := [(w.heap.size + 1, b0, b1, b2, b3), (w.heap.size, a0, a1, a2, a3)]) (by simp)
  refine hK.out _ _ (Or.inr HS) (fun _ => ?_)
  clear hK K
  clear HS
  refine till_step (i := 7) (by kernel_rfl) rfl (fun K hK => ?_)
  go_simp
  refine (down_calls f F hf b0 b1 b2 b3 hb _).mono ?_
  rintro e w2 ⟨y0, y1, y2, y3, rfl, hy, hv, hbl⟩
  have HVy := Lib.hid hv
  clear hv
  have HM' := Lib.hid (HM.out.on hbl)
  clear HM hbl
  have HM := HM'
  clear HM'
  have HS := HM.out.sub (rs' := [(w.heap.size + 1, b0, b1, b2, b3), (w.heap.size, a0, a1, a2, a3)]) (by simp)
  refine hK.out _ _ (Or.inr HS) (fun _ => ?_)
  clear hK K
  clear HS
  refine till_step (i := 8) (by kernel_rfl) rfl (fun K hK => ?_)
  go_simp
  refine (mont_calls f F hf x0 x1 x2 x3 y0 y1 y2 y3 hx hy (by rw [HVx.out]; exact Nat.mod_lt _ hpos) _).mono ?_
  rintro e w3 ⟨z0, z1, z2, z3, rfl, hz, hv, hbl⟩
  have HVz := Lib.hid hv
  clear hv
  have HM' := Lib.hid (HM.out.on hbl)
  clear HM hbl
  have HM := HM'
  clear HM'
  have HS := HM.out.sub (rs' := [(w.heap.size + 1, b0, b1, b2, b3), (w.heap.size, a0, a1, a2, a3)]) (by simp)
  refine hK.out _ _ (Or.inr HS) (fun _ => ?_)
  clear hK K
  clear HS
  refine till_step (i := 10) (by kernel_rfl) rfl (fun K hK => ?_)
  go_simp
  refine (rsquare_some f F hf _).mono ?_
  rintro e w4 ⟨rfl, hbl⟩
  have HM' := Lib.hid (HM.out.on hbl)
  clear HM hbl
  have HM := HM'
  clear HM'
  have HS := HM.out.sub (rs' := [(w.heap.size + 1, b0, b1, b2, b3), (w.heap.size, a0, a1, a2, a3)]) (by simp)
  refine hK.out _ _ (Or.inr HS) (fun _ => ?_)
  clear hK K
  clear HS
  refine till_step (i := 11) (by kernel_rfl) rfl (fun K hK => ?_)
  go_simp
  refine (mont_calls f F hf z0 z1 z2 z3 F.s0 F.s1 F.s2 F.s3 hz hf.ok.oks (by rw [HVz.out]; exact Nat.mod_lt _ hpos) _).mono ?_
  rintro e w5 ⟨s0, s1, s2, s3, rfl, hs, hv, hbl⟩
  have HVs := Lib.hid (show val4 s0 s1 s2 s3 = val4 a0 a1 a2 a3 * val4 b0 b1 b2 b3 % F.M by rw [hv, HVz.out, HVx.out, HVy.out]; exact rmul_val hf.ok _ _)
  clear hv
  have HM' := Lib.hid (HM.out.on hbl)
  clear HM hbl
  have HM := HM'
  clear HM'
  have HS := HM.out.sub (rs' := [(w.heap.size + 1, b0, b1, b2, b3), (w.heap.size, a0, a1, a2, a3)]) (by simp)
  refine hK.out _ _ (Or.inr HS) (fun _ => ?_)
  clear hK K
  clear HS
  have kr := HM.out.row (b := w.heap.size + 1 + 1) (c0 := 0) (c1 := 0) (c2 := 0) (c3 := 0) (by simp)
  have y0 := kr.c0; have y1 := kr.c1; have y2 := kr.c2; have y3 := kr.c3; have yf := kr.fr
  clear kr
  have yl := HM.out.lt (b := w.heap.size + 1 + 1) (c0 := 0) (c1 := 0) (c2 := 0) (c3 := 0) (by simp)
  refine till_step (i := 12) (by kernel_rfl) rfl (fun K hK => ?_)
  go_simp
  have HM' := Lib.hid ((HM.out.sub (rs' := [(w.heap.size + 1 + 1, 0, 0, 0, 0), (w.heap.size + 1, b0, b1, b2, b3), (w.heap.size, a0, a1, a2, a3)]) (by simp)).put s0 s1 s2 s3 (by omega) (by intro r hr; simp at hr; rcases hr with rfl | rfl <;> simp <;> omega))
  clear HM
  have HM := HM'
  clear HM'
  refine hK.out _ _ (Or.inl rfl) (fun _ => ?_)
  clear hK K
  refine till_done (by kernel_rfl) ?_
  go_wp2_with fail
  refine bodyPost_ret (v := .agg #[.int .u64 s0, .int .u64 s1, .int .u64 s2, .int .u64 s3]) (by simp [results, Try.results40, go_sem, *]) rfl ?_
  exact ⟨_, _, _, _, rfl, hs, HVs.out, HM.out.1⟩
theorem below_of (A M : Nat) : decide (cmpN A M < 0) = isB A M := by
  unfold isB cmpN
  by_cases q : A = M
  · rw [if_pos q, decide_eq_false (by omega), decide_eq_false (by omega)]
  · rw [if_neg q]
    by_cases h : A < M
    · rw [if_pos h, decide_eq_true (by omega), decide_eq_true (by omega)]
    · rw [if_neg h, decide_eq_false (by omega), decide_eq_false (by omega)]
set_option maxRecDepth 100000 in
set_option maxHeartbeats 2000000 in
theorem rbelow_calls (f : Int) (F : FC) (hf : FieldIs f F) (a0 a1 a2 a3 : Nat) (ha : ok4 a0 a1 a2 a3) (w : World) :
    Calls Try.prog 21 #[.int .i64 f, .agg #[.int .u64 a0, .int .u64 a1, .int .u64 a2, .int .u64 a3]] w (fun e w' => e = .returned (.bool (isB (val4 a0 a1 a2 a3) F.M)) ∧ Below w.heap.size w w') := by
  go_enter Try.func21, Try.ntmps21
  go_wp2_with fail
  have HM := Lib.hid ((Mem.nil w).new (w.heap.size) a0 a1 a2 a3 24 (by simp))
  refine region_till (fun wx => Mem w wx [(w.heap.size, a0, a1, a2, a3)]) 5 (by kernel_rfl) ?_
  have HM' := Lib.hid (HM.out.drewN 1)
  clear HM
  have HM := HM'
  clear HM'
  have HS := HM.out.sub (rs' := [(w.heap.size, a0, a1, a2, a3)]) (by simp)
  refine till_take (i := 0) (v := .agg #[.int .u64 a0, .int .u64 a1, .int .u64 a2, .int .u64 a3]) rfl (by kernel_rfl) (by kernel_rfl) (by kernel_rfl) (by kernel_rfl) (fun _ _ _ h => h) HS (Or.inl ⟨by kernel_rfl, fun wx hx => ?_⟩) ?_
  · have kr := hx.row (b := w.heap.size) (c0 := a0) (c1 := a1) (c2 := a2) (c3 := a3) (by simp)
    have x0 := kr.c0; have x1 := kr.c1; have x2 := kr.c2; have x3 := kr.c3
    clear kr HS hx
    go_simp
  simp only [Act.put, List.setIfInBounds_toArray, List.set_cons_zero, List.set_cons_succ]
  refine till_take (i := 1) (v := .int .i64 f) rfl (by kernel_rfl) (by kernel_rfl) (by kernel_rfl) (by kernel_rfl) (fun _ _ _ h => h) HS (Or.inl ⟨by kernel_rfl, fun wx hx => ?_⟩) ?_
  · clear HS hx
    go_simp
  simp only [Act.put, List.setIfInBounds_toArray, List.set_cons_zero, List.set_cons_succ]
  clear HS
  refine till_step (i := 2) (by kernel_rfl) rfl (fun K hK => ?_)
  go_simp
  refine (rmod_some f F hf _).mono ?_
  rintro e w1 ⟨rfl, hbl⟩
  have HM' := Lib.hid (HM.out.on hbl)
  clear HM hbl
  have HM := HM'
  clear HM'
  have HS := HM.out.sub (rs' := [(w.heap.size, a0, a1, a2, a3)]) (by simp)
  refine hK.out _ _ (Or.inr HS) (fun _ => ?_)
  clear hK K
  clear HS
  refine till_step (i := 3) (by kernel_rfl) rfl (fun K hK => ?_)
  go_simp
  refine (refCmp_calls a0 a1 a2 a3 F.m0 F.m1 F.m2 F.m3 ha hf.ok.okm _).mono ?_
  rintro e w2 ⟨he, hbl⟩
  have HC := Lib.hid (below_of (val4 a0 a1 a2 a3) (val4 F.m0 F.m1 F.m2 F.m3))
  generalize cmpN (val4 a0 a1 a2 a3) (val4 F.m0 F.m1 F.m2 F.m3) = cc at *
  subst he
  have HM' := Lib.hid (HM.out.on hbl)
  clear HM hbl
  have HM := HM'
  clear HM'
  have HS := HM.out.sub (rs' := [(w.heap.size, a0, a1, a2, a3)]) (by simp)
  refine hK.out _ _ (Or.inr HS) (fun _ => ?_)
  clear hK K
  refine till_take (i := 4) (v := .bool (decide (cc < 0))) rfl (by kernel_rfl) (by kernel_rfl) (by kernel_rfl) (by kernel_rfl) (fun _ _ _ h => h) HS (Or.inl ⟨by kernel_rfl, fun wx hx => ?_⟩) ?_
  · clear HS hx
    go_simp
  simp only [Act.put, List.setIfInBounds_toArray, List.set_cons_zero, List.set_cons_succ]
  clear HS
  refine till_step (i := 5) (by kernel_rfl) rfl (fun K hK => ?_)
  go_simp
  refine hK.out _ _ (Or.inl rfl) (fun _ => ?_)
  clear hK K
  refine till_done (by kernel_rfl) ?_
  go_wp2_with fail
  go_ret
  exact ⟨ret_bool HC.out, HM.out.1⟩
end Go.Proofs.Ytebaoemoeckgaaa
