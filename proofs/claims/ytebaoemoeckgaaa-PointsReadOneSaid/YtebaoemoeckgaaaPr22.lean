/-
  The reference's numbers modulo the modulus: down, Add, Neg, Sub, Below, Check. Conditions: words below 2^64, one of the two fields.
-/
import Derived.Test.YtebaoemoeckgaaaPr21
import Derived.Test.YtebaoemoeckgaaaPr19
namespace Go.Proofs.Ytebaoemoeckgaaa
set_option linter.unusedVariables false
set_option linter.unusedSimpArgs false
open Go.RowKit

theorem cmpN_lt {A B : Nat} (h : A < B) : cmpN A B = -1 := by unfold cmpN; rw [if_neg (by omega), if_pos h]
theorem cmpN_ge {A B : Nat} (h : ¬ A < B) : decide (0 ≤ cmpN A B) = true := by
  unfold cmpN
  by_cases q : A = B
  · rw [if_pos q]; rfl
  · rw [if_neg q, if_neg h]; rfl
set_option maxRecDepth 100000 in
set_option maxHeartbeats 2000000 in
theorem down_calls (f : Int) (F : FC) (hf : FieldIs f F) (a0 a1 a2 a3 : Nat) (ha : ok4 a0 a1 a2 a3) (w : World) :
    Calls Try.prog 70 #[.int .i64 f, .agg #[.int .u64 a0, .int .u64 a1, .int .u64 a2, .int .u64 a3]] w (FePost (val4 a0 a1 a2 a3 % F.M) w) := by
  have hpos := hf.ok.pos
  go_enter Try.func70, Try.ntmps70
  go_wp2_with fail
  have HM := Lib.hid (((Mem.nil w).new (w.heap.size) a0 a1 a2 a3 45 (by simp)).new (w.heap.size + 1) 0 0 0 0 45 (by simp))
  refine (rmod_some f F hf _).mono ?_
  rintro e w1 ⟨rfl, hbl⟩
  have HM' := Lib.hid (HM.out.on hbl)
  clear HM hbl
  have HM := HM'
  clear HM'
  have hz1 : w.heap.size + 1 < w1.heap.size := HM.out.lt (b := w.heap.size + 1) (c0 := 0) (c1 := 0) (c2 := 0) (c3 := 0) (by simp)
  have HM' := Lib.hid ((HM.out.new w1.heap.size F.m0 F.m1 F.m2 F.m3 45 rfl).sub (rs' := [(w.heap.size, a0, a1, a2, a3), (w1.heap.size, F.m0, F.m1, F.m2, F.m3), (w.heap.size + 1, 0, 0, 0, 0)]) (by simp))
  clear HM
  have HM := HM'
  clear HM'
  go_wp2_with fail
  go_loopg [8] (val4 a0 a1 a2 a3 / F.M) (fun k t wr => ∃ v0 v1 v2 v3 : Nat, ok4 v0 v1 v2 v3 ∧ Hid (val4 v0 v1 v2 v3 / F.M = k ∧ val4 v0 v1 v2 v3 % F.M = val4 a0 a1 a2 a3 % F.M) ∧ Hid (Mem w wr [(w.heap.size, v0, v1, v2, v3), (w1.heap.size, F.m0, F.m1, F.m2, F.m3), (w.heap.size + 1, 0, 0, 0, 0)]))
  case atStart => exact ⟨a0, a1, a2, a3, ha, Lib.hid ⟨rfl, rfl⟩, HM⟩
  case round =>
    clear HM
    obtain ⟨v0, v1, v2, v3, hv, HV, HM⟩ := hrel
    have kr := HM.out.row (b := w.heap.size) (c0 := v0) (c1 := v1) (c2 := v2) (c3 := v3) (by simp)
    have x0 := kr.c0; have x1 := kr.c1; have x2 := kr.c2; have x3 := kr.c3
    clear kr
    have xl := HM.out.lt (b := w.heap.size) (c0 := v0) (c1 := v1) (c2 := v2) (c3 := v3) (by simp)
    have kr := HM.out.row (b := w1.heap.size) (c0 := F.m0) (c1 := F.m1) (c2 := F.m2) (c3 := F.m3) (by simp)
    have u0 := kr.c0; have u1 := kr.c1; have u2 := kr.c2; have u3 := kr.c3
    clear kr
    have ul := HM.out.lt (b := w1.heap.size) (c0 := F.m0) (c1 := F.m1) (c2 := F.m2) (c3 := F.m3) (by simp)
    go_wp2_with fail
    refine (refCmp_calls v0 v1 v2 v3 F.m0 F.m1 F.m2 F.m3 hv hf.ok.okm _).mono ?_
    rintro e w2 ⟨he, hbl⟩
    have HM' := Lib.hid (HM.out.on hbl)
    clear HM hbl
    have HM := HM'
    clear HM'
    clear x0 x1 x2 x3 xl u0 u1 u2 u3 ul
    by_cases hlt : val4 v0 v1 v2 v3 < F.M
    · rw [show cmpN (val4 v0 v1 v2 v3) (val4 F.m0 F.m1 F.m2 F.m3) = -1 from cmpN_lt hlt] at he
      subst he
      have kr := HM.out.row (b := w.heap.size) (c0 := v0) (c1 := v1) (c2 := v2) (c3 := v3) (by simp)
      have x0 := kr.c0; have x1 := kr.c1; have x2 := kr.c2; have x3 := kr.c3
      clear kr
      have xl := HM.out.lt (b := w.heap.size) (c0 := v0) (c1 := v1) (c2 := v2) (c3 := v3) (by simp)
      have kr := HM.out.row (b := w.heap.size + 1) (c0 := 0) (c1 := 0) (c2 := 0) (c3 := 0) (by simp)
      have y0 := kr.c0; have y1 := kr.c1; have y2 := kr.c2; have y3 := kr.c3; have yf := kr.fr
      clear kr
      have yl := HM.out.lt (b := w.heap.size + 1) (c0 := 0) (c1 := 0) (c2 := 0) (c3 := 0) (by simp)
      have HE := Lib.hid (show val4 v0 v1 v2 v3 = val4 a0 a1 a2 a3 % F.M by rw [← HV.out.2, Nat.mod_eq_of_lt hlt])
      clear HV hlt
      go_wp2_with fail
      refine bodyPost_ret (v := .agg #[.int .u64 v0, .int .u64 v1, .int .u64 v2, .int .u64 v3]) (by simp [results, Try.results70, go_sem, *]) rfl ?_
      refine ⟨_, _, _, _, rfl, hv, HE.out, ?_⟩
      exact below_set4 HM.out.1 (by omega) _ _ _ _
    · obtain ⟨k, rfl⟩ : ∃ k, gk = k + 1 := ⟨gk - 1, by have h := HV.out.1; have := Nat.div_pos (show F.M ≤ val4 v0 v1 v2 v3 by omega) hpos; omega⟩
      have HT : decide (0 ≤ cmpN (val4 v0 v1 v2 v3) (val4 F.m0 F.m1 F.m2 F.m3)) = true := cmpN_ge hlt
      generalize cmpN (val4 v0 v1 v2 v3) (val4 F.m0 F.m1 F.m2 F.m3) = cc at *
      subst he
      have kr := HM.out.row (b := w.heap.size) (c0 := v0) (c1 := v1) (c2 := v2) (c3 := v3) (by simp)
      have x0 := kr.c0; have x1 := kr.c1; have x2 := kr.c2; have x3 := kr.c3
      clear kr
      have xl := HM.out.lt (b := w.heap.size) (c0 := v0) (c1 := v1) (c2 := v2) (c3 := v3) (by simp)
      have kr := HM.out.row (b := w1.heap.size) (c0 := F.m0) (c1 := F.m1) (c2 := F.m2) (c3 := F.m3) (by simp)
      have u0 := kr.c0; have u1 := kr.c1; have u2 := kr.c2; have u3 := kr.c3
      clear kr
      have ul := HM.out.lt (b := w1.heap.size) (c0 := F.m0) (c1 := F.m1) (c2 := F.m2) (c3 := F.m3) (by simp)
      have Hlt := Lib.hid hlt
      clear hlt
      go_wp2_with fail
      refine (refMinus_calls v0 v1 v2 v3 F.m0 F.m1 F.m2 F.m3 hv hf.ok.okm _).mono ?_
      rintro e w3 ⟨s0, s1, s2, s3, c, rfl, hs, hc, he, hbl⟩
      have HE := Lib.hid (show val4 s0 s1 s2 s3 + F.M = val4 v0 v1 v2 v3 by have := val4_lt hs; have := val4_lt hv; have := Hlt.out; have hM : val4 F.m0 F.m1 F.m2 F.m3 = F.M := rfl; rw [hM] at he; omega)
      clear he
      have HM' := Lib.hid (HM.out.on hbl)
      clear HM hbl
      have HM := HM'
      clear HM'
      clear x0 x1 x2 x3 xl u0 u1 u2 u3 ul
      have kr := HM.out.row (b := w.heap.size) (c0 := v0) (c1 := v1) (c2 := v2) (c3 := v3) (by simp)
      have x0 := kr.c0; have x1 := kr.c1; have x2 := kr.c2; have x3 := kr.c3; have xf := kr.fr
      clear kr
      have xl := HM.out.lt (b := w.heap.size) (c0 := v0) (c1 := v1) (c2 := v2) (c3 := v3) (by simp)
      have HM' := Lib.hid (HM.out.put s0 s1 s2 s3 (by omega) (by intro r hr; simp at hr; rcases hr with rfl | rfl <;> simp <;> omega))
      clear HM
      go_wp2_with fail
      go_roundg k
      case rel => exact ⟨s0, s1, s2, s3, hs, Lib.hid (by
          have h := HV.out
          rw [← HE.out, Nat.add_mod_right, Nat.add_div_right _ hpos] at h
          exact ⟨by omega, h.2⟩), HM'⟩
      case measure => omega
end Go.Proofs.Ytebaoemoeckgaaa
