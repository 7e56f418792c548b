/-
  FieldSquares: a product is a square just if both or none of its factors are; a root's square is the element: the cases. Conditions: words below 2^64.
-/
import Derived.Test.YtkklbhgneidbbaaFRingA
namespace Go.Proofs.Ytkklbhgneidbbaa
set_option linter.unusedVariables false
set_option linter.unusedSimpArgs false
open Go.RowKit

/-- Legendre's sign, as the call answers it -/
theorem fleg_any (f : Int) (F : FC) (hf : FieldIs f F) (a0 a1 a2 a3 : Nat) (ha : ok4 a0 a1 a2 a3) (la : val4 a0 a1 a2 a3 < F.M) (w : World) :
    Calls Try.prog 29 #[.int .i64 f, .agg #[.int .u64 a0, .int .u64 a1, .int .u64 a2, .int .u64 a3]] w fun e w' => e = .returned (.tuple #[.int .i64 (legN F.M (val4 a0 a1 a2 a3)), .int .i64 0]) ∧ Below w.heap.size w w' := by
  obtain ⟨gr, hroot⟩ := hf.root
  have hg := hf.ok.gt
  unfold legN
  by_cases hz : val4 a0 a1 a2 a3 = 0
  · rw [if_pos hz]
    refine fleg0_ok f F hf a0 a1 a2 a3 ha la ?_ w
    rw [hz, Nat.zero_pow (by omega), Nat.zero_mod]
  · rw [if_neg hz]
    rcases half_pow hroot hg hf.ok.odd (show 0 < val4 a0 a1 a2 a3 by omega) la with q | q
    · rw [if_pos q]; exact fleg1_ok f F hf a0 a1 a2 a3 ha la q w
    · rw [if_neg (by omega)]; exact flegm_ok f F hf a0 a1 a2 a3 ha la ⟨by omega, by omega⟩ w
theorem leg_cases (M A : Nat) : legN M A = -1 ∨ legN M A = 0 ∨ legN M A = 1 := by
  unfold legN; split
  · exact Or.inr (Or.inl rfl)
  · split
    · exact Or.inr (Or.inr rfl)
    · exact Or.inl rfl
theorem leg_lt {M A : Nat} {X : Int} (e : legN M A = X) (h : legN M A = -1) : decide (X < 0) = true := decide_eq_true (by omega)
theorem leg_ge {M A : Nat} {X : Int} (e : legN M A = X) (h : legN M A ≠ -1) : decide (X < 0) = false := decide_eq_false (by rcases leg_cases M A with q | q | q <;> omega)
theorem leg_wrap {M g A B : Nat} (hr : Root M g) (h2 : 2 < M) (ho : M % 2 = 1) (ha : A < M) (hb : B < M) : IntKind.i64.wrap (legN M A * legN M B) = legN M (A * B % M) := by
  rw [leg_mul hr h2 ho ha hb]
  rcases leg_cases M A with a | a | a <;> rcases leg_cases M B with b | b | b <;> rw [a, b] <;> rfl
/-- the lower root of a square is the element or its negative -/
theorem low_root {M g A V : Nat} (hr : Root M g) (h2 : 2 < M) (hA : A < M) (hV : V < M) (e : V * V % M = A * A % M) (l : lowB M V = true) : (lowB M A = true → V = A) ∧ (lowB M A = false → V = (0 + M - A) % M) := by
  have hl : V ≤ (0 + M - V) % M := of_decide_eq_true l
  refine ⟨fun h => ?_, fun h => ?_⟩
  · have hh : A ≤ (0 + M - A) % M := of_decide_eq_true h
    rcases sq_two hr (by omega) hV hA e with q | q
    · exact q
    · rcases Nat.eq_zero_or_pos A with z | z
      · omega
      · rcases Nat.eq_zero_or_pos V with y | y
        · omega
        · rw [Nat.mod_eq_of_lt (by omega)] at hl hh; omega
  · have hh : ¬ A ≤ (0 + M - A) % M := of_decide_eq_false h
    rcases sq_two hr (by omega) hV hA e with q | q
    · subst q; exact absurd hl hh
    · have z : 0 < A := by
        rcases Nat.eq_zero_or_pos A with z | z
        · subst z; exact absurd (Nat.zero_le _) hh
        · exact z
      rw [Nat.mod_eq_of_lt (by omega)]; omega
/-- the root of an element's square: whatever the element is -/
theorem fsqrt_sq (f : Int) (F : FC) (hf : FieldIs f F) (a0 a1 a2 a3 s0 s1 s2 s3 : Nat) (la : val4 a0 a1 a2 a3 < F.M) (hs : ok4 s0 s1 s2 s3) (e : val4 s0 s1 s2 s3 = val4 a0 a1 a2 a3 * val4 a0 a1 a2 a3 % F.M) (w : World) :
    Calls Try.prog 32 #[.int .i64 f, .agg #[.int .u64 s0, .int .u64 s1, .int .u64 s2, .int .u64 s3]] w (FeE 0 (if lowB F.M (val4 a0 a1 a2 a3) = true then val4 a0 a1 a2 a3 else (0 + F.M - val4 a0 a1 a2 a3) % F.M) w) := by
  obtain ⟨gr, hroot⟩ := hf.root
  have hg := hf.ok.gt
  have ls : val4 s0 s1 s2 s3 < F.M := by rw [e]; exact Nat.mod_lt _ hf.ok.pos
  by_cases hz : val4 a0 a1 a2 a3 = 0
  · have h0 : val4 s0 s1 s2 s3 = 0 := by rw [e, hz, Nat.zero_mul, Nat.zero_mod]
    have hl : lowB F.M (val4 a0 a1 a2 a3) = true := by rw [hz]; exact decide_eq_true (Nat.zero_le _)
    rw [if_pos hl, hz]
    exact fsqrt0_ok f F hf s0 s1 s2 s3 hs ls h0 w
  · have hne : val4 s0 s1 s2 s3 ≠ 0 := by
      have := mul_ne hroot (by omega) (show 0 < val4 a0 a1 a2 a3 by omega) la (show 0 < val4 a0 a1 a2 a3 by omega) la
      omega
    refine (fsqrt_yes_ok f F hf s0 s1 s2 s3 hs ls hne (by rw [e]; exact leg_sq hroot hf.ok.odd (by omega) la) w).mono ?_
    rintro r w' ⟨V, ⟨v0, v1, v2, v3, he, hv, hval, hbl⟩, h1, h2, h3⟩
    obtain ⟨p, q⟩ := low_root hroot hg la h2 (by rw [h1, e]) h3
    refine ⟨v0, v1, v2, v3, he, hv, ?_, hbl⟩
    rw [hval]
    cases hl : lowB F.M (val4 a0 a1 a2 a3) with
    | true => rw [if_pos rfl]; exact p hl
    | false => rw [if_neg (by simp)]; exact q hl
/-- the root in any case but that of no square: its square is the element -/
theorem fsqrt_any (f : Int) (F : FC) (hf : FieldIs f F) (a0 a1 a2 a3 : Nat) (ha : ok4 a0 a1 a2 a3) (la : val4 a0 a1 a2 a3 < F.M) (h : legN F.M (val4 a0 a1 a2 a3) ≠ -1) (w : World) :
    Calls Try.prog 32 #[.int .i64 f, .agg #[.int .u64 a0, .int .u64 a1, .int .u64 a2, .int .u64 a3]] w fun e w' => ∃ V, FeE 0 V w e w' ∧ V * V % F.M = val4 a0 a1 a2 a3 ∧ V < F.M := by
  by_cases hz : val4 a0 a1 a2 a3 = 0
  · exact (fsqrt0_ok f F hf a0 a1 a2 a3 ha la hz w).mono fun e w' k => ⟨0, k, by rw [hz, Nat.zero_mul, Nat.zero_mod], hf.ok.pos⟩
  · refine (fsqrt_yes_ok f F hf a0 a1 a2 a3 ha la hz ?_ w).mono fun e w' ⟨V, k, k1, k2, _⟩ => ⟨V, k, k1, k2⟩
    unfold legN at h
    rw [if_neg hz] at h
    by_cases q : val4 a0 a1 a2 a3 ^ (F.M / 2) % F.M = 1
    · exact q
    · rw [if_neg q] at h; exact absurd rfl h
theorem fsqrt_none (f : Int) (F : FC) (hf : FieldIs f F) (a0 a1 a2 a3 : Nat) (ha : ok4 a0 a1 a2 a3) (la : val4 a0 a1 a2 a3 < F.M) (h : legN F.M (val4 a0 a1 a2 a3) = -1) (w : World) :
    Calls Try.prog 32 #[.int .i64 f, .agg #[.int .u64 a0, .int .u64 a1, .int .u64 a2, .int .u64 a3]] w (FeE 23 0 w) := by
  unfold legN at h
  by_cases hz : val4 a0 a1 a2 a3 = 0
  · rw [if_pos hz] at h; omega
  · rw [if_neg hz] at h
    refine fsqrt_no_ok f F hf a0 a1 a2 a3 ha la hz (fun q => ?_) w
    rw [if_pos q] at h; omega
set_option maxRecDepth 100000 in
set_option maxHeartbeats 8000000 in
theorem squares_bad1 (f : Int) (a0 a1 a2 a3 b0 b1 b2 b3 : Nat) (ha : ok4 a0 a1 a2 a3) (hb : ok4 b0 b1 b2 b3) (c : Int) (h : Bad1 f (val4 a0 a1 a2 a3) c) (w : World) :
    Calls Try.prog 9 #[.int .i64 f, .agg #[.int .u64 a0, .int .u64 a1, .int .u64 a2, .int .u64 a3], .agg #[.int .u64 b0, .int .u64 b1, .int .u64 b2, .int .u64 b3]] w fun e w' => e = .returned (.bool true) ∧ Below w.heap.size w w' := by
  have t0 : (c != 0) = true := by have := h.ne; simp [this]
  have HBAD := Lib.hid h
  clear h
  go_enter Try.func9, Try.ntmps9
  go_wp2_with fail
  have HM := Lib.hid (((Mem.nil w).new (w.heap.size) a0 a1 a2 a3 25 (by simp)).new (w.heap.size + 1) b0 b1 b2 b3 25 (by simp))
  refine (works_calls _).mono ?_
  rintro e w1 ⟨rfl, hbl⟩
  have MP' := Lib.hid (HM.out.on hbl)
  clear hbl HM
  have MP := MP'
  clear MP'
  have HM := MP
  have kr := MP.out.row (b := w.heap.size) (c0 := a0) (c1 := a1) (c2 := a2) (c3 := a3) (by simp)
  have Fa0 := kr.c0; have Fa1 := kr.c1; have Fa2 := kr.c2; have Fa3 := kr.c3
  clear kr
  have Fal := MP.out.lt (b := w.heap.size) (c0 := a0) (c1 := a1) (c2 := a2) (c3 := a3) (by simp)
  go_wp2_with fail
  refine (fcheck_err f c a0 a1 a2 a3 ha HBAD.out _).mono ?_
  rintro e w2 ⟨rfl, hbl⟩
  have MP' := Lib.hid (HM.out.on hbl)
  clear hbl HM MP Fa0 Fa1 Fa2 Fa3 Fal
  have MP := MP'
  clear MP'
  have HM := MP
  go_wp2_with fail
  go_ret
  exact ⟨rfl, HM.out.1⟩
set_option maxRecDepth 100000 in
set_option maxHeartbeats 8000000 in
theorem squares_bad2 (f : Int) (a0 a1 a2 a3 b0 b1 b2 b3 : Nat) (ha : ok4 a0 a1 a2 a3) (hb : ok4 b0 b1 b2 b3) (F : FC) (hf : FieldIs f F) (la : val4 a0 a1 a2 a3 < F.M) (c : Int) (h : Bad1 f (val4 b0 b1 b2 b3) c) (w : World) :
    Calls Try.prog 9 #[.int .i64 f, .agg #[.int .u64 a0, .int .u64 a1, .int .u64 a2, .int .u64 a3], .agg #[.int .u64 b0, .int .u64 b1, .int .u64 b2, .int .u64 b3]] w fun e w' => e = .returned (.bool true) ∧ Below w.heap.size w w' := by
  have t0 : (c != 0) = true := by have := h.ne; simp [this]
  have HBAD := Lib.hid h
  clear h
  go_enter Try.func9, Try.ntmps9
  go_wp2_with fail
  have HM := Lib.hid (((Mem.nil w).new (w.heap.size) a0 a1 a2 a3 25 (by simp)).new (w.heap.size + 1) b0 b1 b2 b3 25 (by simp))
  refine (works_calls _).mono ?_
  rintro e w1 ⟨rfl, hbl⟩
  have MP' := Lib.hid (HM.out.on hbl)
  clear hbl HM
  have MP := MP'
  clear MP'
  have HM := MP
  have kr := MP.out.row (b := w.heap.size) (c0 := a0) (c1 := a1) (c2 := a2) (c3 := a3) (by simp)
  have Fa0 := kr.c0; have Fa1 := kr.c1; have Fa2 := kr.c2; have Fa3 := kr.c3
  clear kr
  have Fal := MP.out.lt (b := w.heap.size) (c0 := a0) (c1 := a1) (c2 := a2) (c3 := a3) (by simp)
  go_wp2_with fail
  refine (fcheck_ok f F hf a0 a1 a2 a3 ha la _).mono ?_
  rintro e w2 ⟨rfl, hbl⟩
  have MP' := Lib.hid (HM.out.on hbl)
  clear hbl HM MP Fa0 Fa1 Fa2 Fa3 Fal
  have MP := MP'
  clear MP'
  have HM := MP
  have kr := MP.out.row (b := w.heap.size + 1) (c0 := b0) (c1 := b1) (c2 := b2) (c3 := b3) (by simp)
  have Fb0 := kr.c0; have Fb1 := kr.c1; have Fb2 := kr.c2; have Fb3 := kr.c3
  clear kr
  have Fbl := MP.out.lt (b := w.heap.size + 1) (c0 := b0) (c1 := b1) (c2 := b2) (c3 := b3) (by simp)
  go_wp2_with fail
  refine (fcheck_err f c b0 b1 b2 b3 hb HBAD.out _).mono ?_
  rintro e w3 ⟨rfl, hbl⟩
  have MP' := Lib.hid (HM.out.on hbl)
  clear hbl HM MP Fb0 Fb1 Fb2 Fb3 Fbl
  have MP := MP'
  clear MP'
  have HM := MP
  go_wp2_with fail
  go_ret
  exact ⟨rfl, HM.out.1⟩
set_option maxRecDepth 100000 in
set_option maxHeartbeats 8000000 in
theorem squares_low_no (f : Int) (a0 a1 a2 a3 b0 b1 b2 b3 : Nat) (ha : ok4 a0 a1 a2 a3) (hb : ok4 b0 b1 b2 b3) (F : FC) (hf : FieldIs f F) (la : val4 a0 a1 a2 a3 < F.M) (lb : val4 b0 b1 b2 b3 < F.M) (hlow : lowB F.M (val4 a0 a1 a2 a3) = true) (hleg : legN F.M (val4 a0 a1 a2 a3) = -1) (w : World) :
    Calls Try.prog 9 #[.int .i64 f, .agg #[.int .u64 a0, .int .u64 a1, .int .u64 a2, .int .u64 a3], .agg #[.int .u64 b0, .int .u64 b1, .int .u64 b2, .int .u64 b3]] w fun e w' => e = .returned (.bool true) ∧ Below w.heap.size w w' := by
  have hG := eqGuardF
  have hS := equalSelfF
  have hpos := hf.ok.pos
  obtain ⟨gr, hroot⟩ := hf.root
  have HRo := Lib.hid hroot
  have HLow := Lib.hid hlow
  have HLeg := Lib.hid hleg
  obtain ⟨X, eX⟩ : ∃ X, legN F.M (val4 a0 a1 a2 a3) = X := ⟨_, rfl⟩
  obtain ⟨Y, eY⟩ : ∃ Y, legN F.M (val4 b0 b1 b2 b3) = Y := ⟨_, rfl⟩
  obtain ⟨Z, eZ⟩ : ∃ Z, legN F.M (val4 a0 a1 a2 a3 * val4 b0 b1 b2 b3 % F.M) = Z := ⟨_, rfl⟩
  have hXY : IntKind.i64.wrap (X * Y) = Z := by rw [← eX, ← eY, ← eZ]; exact leg_wrap hroot hf.ok.gt hf.ok.odd la lb
  have tX : decide (X < 0) = true := leg_lt eX hleg
  have HX := Lib.hid eX
  have HY := Lib.hid eY
  have HZ := Lib.hid eZ
  clear hroot hlow hleg eX eY eZ
  go_enter Try.func9, Try.ntmps9
  go_wp2_with fail
  have HM := Lib.hid (((Mem.nil w).new (w.heap.size) a0 a1 a2 a3 25 (by simp)).new (w.heap.size + 1) b0 b1 b2 b3 25 (by simp))
  refine (works_calls _).mono ?_
  rintro e w1 ⟨rfl, hbl⟩
  have MP' := Lib.hid (HM.out.on hbl)
  clear hbl HM
  have MP := MP'
  clear MP'
  have HM := MP
  have kr := MP.out.row (b := w.heap.size) (c0 := a0) (c1 := a1) (c2 := a2) (c3 := a3) (by simp)
  have Fa0 := kr.c0; have Fa1 := kr.c1; have Fa2 := kr.c2; have Fa3 := kr.c3
  clear kr
  have Fal := MP.out.lt (b := w.heap.size) (c0 := a0) (c1 := a1) (c2 := a2) (c3 := a3) (by simp)
  go_wp2_with fail
  refine (fcheck_ok f F hf a0 a1 a2 a3 ha la _).mono ?_
  rintro e w2 ⟨rfl, hbl⟩
  have MP' := Lib.hid (HM.out.on hbl)
  clear hbl HM MP Fa0 Fa1 Fa2 Fa3 Fal
  have MP := MP'
  clear MP'
  have HM := MP
  have kr := MP.out.row (b := w.heap.size + 1) (c0 := b0) (c1 := b1) (c2 := b2) (c3 := b3) (by simp)
  have Fb0 := kr.c0; have Fb1 := kr.c1; have Fb2 := kr.c2; have Fb3 := kr.c3
  clear kr
  have Fbl := MP.out.lt (b := w.heap.size + 1) (c0 := b0) (c1 := b1) (c2 := b2) (c3 := b3) (by simp)
  go_wp2_with fail
  refine (fcheck_ok f F hf b0 b1 b2 b3 hb lb _).mono ?_
  rintro e w3 ⟨rfl, hbl⟩
  have MP' := Lib.hid (HM.out.on hbl)
  clear hbl HM MP Fb0 Fb1 Fb2 Fb3 Fbl
  have MP := MP'
  clear MP'
  have HM := MP
  have kr := MP.out.row (b := w.heap.size) (c0 := a0) (c1 := a1) (c2 := a2) (c3 := a3) (by simp)
  have Fa0 := kr.c0; have Fa1 := kr.c1; have Fa2 := kr.c2; have Fa3 := kr.c3
  clear kr
  have Fal := MP.out.lt (b := w.heap.size) (c0 := a0) (c1 := a1) (c2 := a2) (c3 := a3) (by simp)
  go_wp2_with fail
  refine (fleg_any f F hf a0 a1 a2 a3 ha la _).mono ?_
  rintro e w4 ⟨he, hbl⟩
  rw [HX.out] at he
  subst he
  have MP' := Lib.hid (HM.out.on hbl)
  clear hbl HM MP Fa0 Fa1 Fa2 Fa3 Fal
  have MP := MP'
  clear MP'
  have HM := MP
  have kr := MP.out.row (b := w.heap.size + 1) (c0 := b0) (c1 := b1) (c2 := b2) (c3 := b3) (by simp)
  have Fb0 := kr.c0; have Fb1 := kr.c1; have Fb2 := kr.c2; have Fb3 := kr.c3
  clear kr
  have Fbl := MP.out.lt (b := w.heap.size + 1) (c0 := b0) (c1 := b1) (c2 := b2) (c3 := b3) (by simp)
  go_wp2_with fail
  refine (fleg_any f F hf b0 b1 b2 b3 hb lb _).mono ?_
  rintro e w5 ⟨he, hbl⟩
  rw [HY.out] at he
  subst he
  have MP' := Lib.hid (HM.out.on hbl)
  clear hbl HM MP Fb0 Fb1 Fb2 Fb3 Fbl
  have MP := MP'
  clear MP'
  have HM := MP
  have kr := MP.out.row (b := w.heap.size) (c0 := a0) (c1 := a1) (c2 := a2) (c3 := a3) (by simp)
  have Fa0 := kr.c0; have Fa1 := kr.c1; have Fa2 := kr.c2; have Fa3 := kr.c3
  clear kr
  have Fal := MP.out.lt (b := w.heap.size) (c0 := a0) (c1 := a1) (c2 := a2) (c3 := a3) (by simp)
  have kr := MP.out.row (b := w.heap.size + 1) (c0 := b0) (c1 := b1) (c2 := b2) (c3 := b3) (by simp)
  have Fb0 := kr.c0; have Fb1 := kr.c1; have Fb2 := kr.c2; have Fb3 := kr.c3
  clear kr
  have Fbl := MP.out.lt (b := w.heap.size + 1) (c0 := b0) (c1 := b1) (c2 := b2) (c3 := b3) (by simp)
  go_wp2_with fail
  refine (fmul_ok f F hf a0 a1 a2 a3 b0 b1 b2 b3 ha hb la lb _).mono ?_
  rintro e w6 ⟨p0, p1, p2, p3, rfl, hp, hv, hbl⟩
  have Vp := Lib.hid hv
  have lp : val4 p0 p1 p2 p3 < F.M := by rw [hv]; exact Nat.mod_lt _ hpos
  clear hv
  have MP' := Lib.hid (HM.out.on hbl)
  clear hbl HM MP Fa0 Fa1 Fa2 Fa3 Fal Fb0 Fb1 Fb2 Fb3 Fbl
  have MP := MP'
  clear MP'
  have HM := Lib.hid (MP.out.new w6.heap.size p0 p1 p2 p3 25 rfl)
  go_wp2_with fail
  refine (fleg_any f F hf p0 p1 p2 p3 hp lp _).mono ?_
  rintro e w7 ⟨he, hbl⟩
  rw [Vp.out, HZ.out] at he
  subst he
  have MP' := Lib.hid (HM.out.on hbl)
  clear hbl HM MP
  have MP := MP'
  clear MP'
  have HM := MP
  have kr := MP.out.row (b := w.heap.size) (c0 := a0) (c1 := a1) (c2 := a2) (c3 := a3) (by simp)
  have Fa0 := kr.c0; have Fa1 := kr.c1; have Fa2 := kr.c2; have Fa3 := kr.c3
  clear kr
  have Fal := MP.out.lt (b := w.heap.size) (c0 := a0) (c1 := a1) (c2 := a2) (c3 := a3) (by simp)
  go_wp2_with fail
  refine (fmul_ok f F hf a0 a1 a2 a3 a0 a1 a2 a3 ha ha la la _).mono ?_
  rintro e w8 ⟨s0, s1, s2, s3, rfl, hs, hv, hbl⟩
  have Vs := Lib.hid hv
  clear hv
  have MP' := Lib.hid (HM.out.on hbl)
  clear hbl HM MP Fa0 Fa1 Fa2 Fa3 Fal
  have MP := MP'
  clear MP'
  have HM := Lib.hid (MP.out.new w8.heap.size s0 s1 s2 s3 25 rfl)
  go_wp2_with fail
  refine (fsqrt_sq f F hf a0 a1 a2 a3 s0 s1 s2 s3 la hs Vs.out _).mono ?_
  rintro e w9 ⟨r0, r1, r2, r3, rfl, hr, hv, hbl⟩
  obtain ⟨rfl, rfl, rfl, rfl⟩ := val4_inj ha hr (show val4 a0 a1 a2 a3 = val4 r0 r1 r2 r3 by rw [hv, if_pos HLow.out])
  clear hv hr
  have MP' := Lib.hid (HM.out.on hbl)
  clear hbl HM MP
  have MP := MP'
  clear MP'
  have HM := Lib.hid (MP.out.new w9.heap.size a0 a1 a2 a3 25 rfl)
  have kr := MP.out.row (b := w.heap.size) (c0 := a0) (c1 := a1) (c2 := a2) (c3 := a3) (by simp)
  have Fa0 := kr.c0; have Fa1 := kr.c1; have Fa2 := kr.c2; have Fa3 := kr.c3
  clear kr
  have Fal := MP.out.lt (b := w.heap.size) (c0 := a0) (c1 := a1) (c2 := a2) (c3 := a3) (by simp)
  go_wp2_with fail
  refine (fneg_ok f F hf a0 a1 a2 a3 ha la _).mono ?_
  rintro e w10 ⟨n0, n1, n2, n3, rfl, hn, hv, hbl⟩
  clear hv
  have MP' := Lib.hid (HM.out.on hbl)
  clear hbl HM MP Fa0 Fa1 Fa2 Fa3 Fal
  have MP := MP'
  clear MP'
  have HM := Lib.hid (MP.out.new w10.heap.size n0 n1 n2 n3 25 rfl)
  have kr := MP.out.row (b := w.heap.size) (c0 := a0) (c1 := a1) (c2 := a2) (c3 := a3) (by simp)
  have Fa0 := kr.c0; have Fa1 := kr.c1; have Fa2 := kr.c2; have Fa3 := kr.c3
  clear kr
  have Fal := MP.out.lt (b := w.heap.size) (c0 := a0) (c1 := a1) (c2 := a2) (c3 := a3) (by simp)
  go_wp2_with fail
  refine (flower_ok f F hf a0 a1 a2 a3 ha la _).mono ?_
  rintro e w11 ⟨he, hbl⟩
  rw [HLow.out] at he
  subst he
  have MP' := Lib.hid (HM.out.on hbl)
  clear hbl HM MP Fa0 Fa1 Fa2 Fa3 Fal
  have MP := MP'
  clear MP'
  have HM := MP
  have kr := MP.out.row (b := w9.heap.size) (c0 := a0) (c1 := a1) (c2 := a2) (c3 := a3) (by simp)
  have Fr0 := kr.c0; have Fr1 := kr.c1; have Fr2 := kr.c2; have Fr3 := kr.c3
  clear kr
  have Frl := MP.out.lt (b := w9.heap.size) (c0 := a0) (c1 := a1) (c2 := a2) (c3 := a3) (by simp)
  have kr := MP.out.row (b := w.heap.size) (c0 := a0) (c1 := a1) (c2 := a2) (c3 := a3) (by simp)
  have Fa0 := kr.c0; have Fa1 := kr.c1; have Fa2 := kr.c2; have Fa3 := kr.c3
  clear kr
  have Fal := MP.out.lt (b := w.heap.size) (c0 := a0) (c1 := a1) (c2 := a2) (c3 := a3) (by simp)
  have kr := MP.out.row (b := w10.heap.size) (c0 := n0) (c1 := n1) (c2 := n2) (c3 := n3) (by simp)
  have Fn0 := kr.c0; have Fn1 := kr.c1; have Fn2 := kr.c2; have Fn3 := kr.c3
  clear kr
  have Fnl := MP.out.lt (b := w10.heap.size) (c0 := n0) (c1 := n1) (c2 := n2) (c3 := n3) (by simp)
  go_wp2_with fail
  refine (fsqrt_none f F hf a0 a1 a2 a3 ha la HLeg.out _).mono ?_
  rintro e w12 ⟨q0, q1, q2, q3, rfl, hq, hv, hbl⟩
  have hZ := eqF_zero hq hv
  have HM' := Lib.hid (HM.out.on hbl)
  clear hbl HM MP Fr0 Fr1 Fr2 Fr3 Frl Fa0 Fa1 Fa2 Fa3 Fal Fn0 Fn1 Fn2 Fn3 Fnl hv
  have HM := HM'
  clear HM'
  go_wp2_with fail
  go_ret
  exact ⟨rfl, (HM.out.on ((Below.refl _ _).alloc (Nat.le_refl _) _)).1⟩
set_option maxRecDepth 100000 in
set_option maxHeartbeats 8000000 in
theorem squares_low_yes (f : Int) (a0 a1 a2 a3 b0 b1 b2 b3 : Nat) (ha : ok4 a0 a1 a2 a3) (hb : ok4 b0 b1 b2 b3) (F : FC) (hf : FieldIs f F) (la : val4 a0 a1 a2 a3 < F.M) (lb : val4 b0 b1 b2 b3 < F.M) (hlow : lowB F.M (val4 a0 a1 a2 a3) = true) (hleg : legN F.M (val4 a0 a1 a2 a3) ≠ -1) (w : World) :
    Calls Try.prog 9 #[.int .i64 f, .agg #[.int .u64 a0, .int .u64 a1, .int .u64 a2, .int .u64 a3], .agg #[.int .u64 b0, .int .u64 b1, .int .u64 b2, .int .u64 b3]] w fun e w' => e = .returned (.bool true) ∧ Below w.heap.size w w' := by
  have hG := eqGuardF
  have hS := equalSelfF
  have hpos := hf.ok.pos
  obtain ⟨gr, hroot⟩ := hf.root
  have HRo := Lib.hid hroot
  have HLow := Lib.hid hlow
  have HLeg := Lib.hid hleg
  obtain ⟨X, eX⟩ : ∃ X, legN F.M (val4 a0 a1 a2 a3) = X := ⟨_, rfl⟩
  obtain ⟨Y, eY⟩ : ∃ Y, legN F.M (val4 b0 b1 b2 b3) = Y := ⟨_, rfl⟩
  obtain ⟨Z, eZ⟩ : ∃ Z, legN F.M (val4 a0 a1 a2 a3 * val4 b0 b1 b2 b3 % F.M) = Z := ⟨_, rfl⟩
  have hXY : IntKind.i64.wrap (X * Y) = Z := by rw [← eX, ← eY, ← eZ]; exact leg_wrap hroot hf.ok.gt hf.ok.odd la lb
  have tX : decide (X < 0) = false := leg_ge eX hleg
  have HX := Lib.hid eX
  have HY := Lib.hid eY
  have HZ := Lib.hid eZ
  clear hroot hlow hleg eX eY eZ
  go_enter Try.func9, Try.ntmps9
  go_wp2_with fail
  have HM := Lib.hid (((Mem.nil w).new (w.heap.size) a0 a1 a2 a3 25 (by simp)).new (w.heap.size + 1) b0 b1 b2 b3 25 (by simp))
  refine (works_calls _).mono ?_
  rintro e w1 ⟨rfl, hbl⟩
  have MP' := Lib.hid (HM.out.on hbl)
  clear hbl HM
  have MP := MP'
  clear MP'
  have HM := MP
  have kr := MP.out.row (b := w.heap.size) (c0 := a0) (c1 := a1) (c2 := a2) (c3 := a3) (by simp)
  have Fa0 := kr.c0; have Fa1 := kr.c1; have Fa2 := kr.c2; have Fa3 := kr.c3
  clear kr
  have Fal := MP.out.lt (b := w.heap.size) (c0 := a0) (c1 := a1) (c2 := a2) (c3 := a3) (by simp)
  go_wp2_with fail
  refine (fcheck_ok f F hf a0 a1 a2 a3 ha la _).mono ?_
  rintro e w2 ⟨rfl, hbl⟩
  have MP' := Lib.hid (HM.out.on hbl)
  clear hbl HM MP Fa0 Fa1 Fa2 Fa3 Fal
  have MP := MP'
  clear MP'
  have HM := MP
  have kr := MP.out.row (b := w.heap.size + 1) (c0 := b0) (c1 := b1) (c2 := b2) (c3 := b3) (by simp)
  have Fb0 := kr.c0; have Fb1 := kr.c1; have Fb2 := kr.c2; have Fb3 := kr.c3
  clear kr
  have Fbl := MP.out.lt (b := w.heap.size + 1) (c0 := b0) (c1 := b1) (c2 := b2) (c3 := b3) (by simp)
  go_wp2_with fail
  refine (fcheck_ok f F hf b0 b1 b2 b3 hb lb _).mono ?_
  rintro e w3 ⟨rfl, hbl⟩
  have MP' := Lib.hid (HM.out.on hbl)
  clear hbl HM MP Fb0 Fb1 Fb2 Fb3 Fbl
  have MP := MP'
  clear MP'
  have HM := MP
  have kr := MP.out.row (b := w.heap.size) (c0 := a0) (c1 := a1) (c2 := a2) (c3 := a3) (by simp)
  have Fa0 := kr.c0; have Fa1 := kr.c1; have Fa2 := kr.c2; have Fa3 := kr.c3
  clear kr
  have Fal := MP.out.lt (b := w.heap.size) (c0 := a0) (c1 := a1) (c2 := a2) (c3 := a3) (by simp)
  go_wp2_with fail
  refine (fleg_any f F hf a0 a1 a2 a3 ha la _).mono ?_
  rintro e w4 ⟨he, hbl⟩
  rw [HX.out] at he
  subst he
  have MP' := Lib.hid (HM.out.on hbl)
  clear hbl HM MP Fa0 Fa1 Fa2 Fa3 Fal
  have MP := MP'
  clear MP'
  have HM := MP
  have kr := MP.out.row (b := w.heap.size + 1) (c0 := b0) (c1 := b1) (c2 := b2) (c3 := b3) (by simp)
  have Fb0 := kr.c0; have Fb1 := kr.c1; have Fb2 := kr.c2; have Fb3 := kr.c3
  clear kr
  have Fbl := MP.out.lt (b := w.heap.size + 1) (c0 := b0) (c1 := b1) (c2 := b2) (c3 := b3) (by simp)
  go_wp2_with fail
  refine (fleg_any f F hf b0 b1 b2 b3 hb lb _).mono ?_
  rintro e w5 ⟨he, hbl⟩
  rw [HY.out] at he
  subst he
  have MP' := Lib.hid (HM.out.on hbl)
  clear hbl HM MP Fb0 Fb1 Fb2 Fb3 Fbl
  have MP := MP'
  clear MP'
  have HM := MP
  have kr := MP.out.row (b := w.heap.size) (c0 := a0) (c1 := a1) (c2 := a2) (c3 := a3) (by simp)
  have Fa0 := kr.c0; have Fa1 := kr.c1; have Fa2 := kr.c2; have Fa3 := kr.c3
  clear kr
  have Fal := MP.out.lt (b := w.heap.size) (c0 := a0) (c1 := a1) (c2 := a2) (c3 := a3) (by simp)
  have kr := MP.out.row (b := w.heap.size + 1) (c0 := b0) (c1 := b1) (c2 := b2) (c3 := b3) (by simp)
  have Fb0 := kr.c0; have Fb1 := kr.c1; have Fb2 := kr.c2; have Fb3 := kr.c3
  clear kr
  have Fbl := MP.out.lt (b := w.heap.size + 1) (c0 := b0) (c1 := b1) (c2 := b2) (c3 := b3) (by simp)
  go_wp2_with fail
  refine (fmul_ok f F hf a0 a1 a2 a3 b0 b1 b2 b3 ha hb la lb _).mono ?_
  rintro e w6 ⟨p0, p1, p2, p3, rfl, hp, hv, hbl⟩
  have Vp := Lib.hid hv
  have lp : val4 p0 p1 p2 p3 < F.M := by rw [hv]; exact Nat.mod_lt _ hpos
  clear hv
  have MP' := Lib.hid (HM.out.on hbl)
  clear hbl HM MP Fa0 Fa1 Fa2 Fa3 Fal Fb0 Fb1 Fb2 Fb3 Fbl
  have MP := MP'
  clear MP'
  have HM := Lib.hid (MP.out.new w6.heap.size p0 p1 p2 p3 25 rfl)
  go_wp2_with fail
  refine (fleg_any f F hf p0 p1 p2 p3 hp lp _).mono ?_
  rintro e w7 ⟨he, hbl⟩
  rw [Vp.out, HZ.out] at he
  subst he
  have MP' := Lib.hid (HM.out.on hbl)
  clear hbl HM MP
  have MP := MP'
  clear MP'
  have HM := MP
  have kr := MP.out.row (b := w.heap.size) (c0 := a0) (c1 := a1) (c2 := a2) (c3 := a3) (by simp)
  have Fa0 := kr.c0; have Fa1 := kr.c1; have Fa2 := kr.c2; have Fa3 := kr.c3
  clear kr
  have Fal := MP.out.lt (b := w.heap.size) (c0 := a0) (c1 := a1) (c2 := a2) (c3 := a3) (by simp)
  go_wp2_with fail
  refine (fmul_ok f F hf a0 a1 a2 a3 a0 a1 a2 a3 ha ha la la _).mono ?_
  rintro e w8 ⟨s0, s1, s2, s3, rfl, hs, hv, hbl⟩
  have Vs := Lib.hid hv
  clear hv
  have MP' := Lib.hid (HM.out.on hbl)
  clear hbl HM MP Fa0 Fa1 Fa2 Fa3 Fal
  have MP := MP'
  clear MP'
  have HM := Lib.hid (MP.out.new w8.heap.size s0 s1 s2 s3 25 rfl)
  go_wp2_with fail
  refine (fsqrt_sq f F hf a0 a1 a2 a3 s0 s1 s2 s3 la hs Vs.out _).mono ?_
  rintro e w9 ⟨r0, r1, r2, r3, rfl, hr, hv, hbl⟩
  obtain ⟨rfl, rfl, rfl, rfl⟩ := val4_inj ha hr (show val4 a0 a1 a2 a3 = val4 r0 r1 r2 r3 by rw [hv, if_pos HLow.out])
  clear hv hr
  have MP' := Lib.hid (HM.out.on hbl)
  clear hbl HM MP
  have MP := MP'
  clear MP'
  have HM := Lib.hid (MP.out.new w9.heap.size a0 a1 a2 a3 25 rfl)
  have kr := MP.out.row (b := w.heap.size) (c0 := a0) (c1 := a1) (c2 := a2) (c3 := a3) (by simp)
  have Fa0 := kr.c0; have Fa1 := kr.c1; have Fa2 := kr.c2; have Fa3 := kr.c3
  clear kr
  have Fal := MP.out.lt (b := w.heap.size) (c0 := a0) (c1 := a1) (c2 := a2) (c3 := a3) (by simp)
  go_wp2_with fail
  refine (fneg_ok f F hf a0 a1 a2 a3 ha la _).mono ?_
  rintro e w10 ⟨n0, n1, n2, n3, rfl, hn, hv, hbl⟩
  clear hv
  have MP' := Lib.hid (HM.out.on hbl)
  clear hbl HM MP Fa0 Fa1 Fa2 Fa3 Fal
  have MP := MP'
  clear MP'
  have HM := Lib.hid (MP.out.new w10.heap.size n0 n1 n2 n3 25 rfl)
  have kr := MP.out.row (b := w.heap.size) (c0 := a0) (c1 := a1) (c2 := a2) (c3 := a3) (by simp)
  have Fa0 := kr.c0; have Fa1 := kr.c1; have Fa2 := kr.c2; have Fa3 := kr.c3
  clear kr
  have Fal := MP.out.lt (b := w.heap.size) (c0 := a0) (c1 := a1) (c2 := a2) (c3 := a3) (by simp)
  go_wp2_with fail
  refine (flower_ok f F hf a0 a1 a2 a3 ha la _).mono ?_
  rintro e w11 ⟨he, hbl⟩
  rw [HLow.out] at he
  subst he
  have MP' := Lib.hid (HM.out.on hbl)
  clear hbl HM MP Fa0 Fa1 Fa2 Fa3 Fal
  have MP := MP'
  clear MP'
  have HM := MP
  have kr := MP.out.row (b := w9.heap.size) (c0 := a0) (c1 := a1) (c2 := a2) (c3 := a3) (by simp)
  have Fr0 := kr.c0; have Fr1 := kr.c1; have Fr2 := kr.c2; have Fr3 := kr.c3
  clear kr
  have Frl := MP.out.lt (b := w9.heap.size) (c0 := a0) (c1 := a1) (c2 := a2) (c3 := a3) (by simp)
  have kr := MP.out.row (b := w.heap.size) (c0 := a0) (c1 := a1) (c2 := a2) (c3 := a3) (by simp)
  have Fa0 := kr.c0; have Fa1 := kr.c1; have Fa2 := kr.c2; have Fa3 := kr.c3
  clear kr
  have Fal := MP.out.lt (b := w.heap.size) (c0 := a0) (c1 := a1) (c2 := a2) (c3 := a3) (by simp)
  have kr := MP.out.row (b := w10.heap.size) (c0 := n0) (c1 := n1) (c2 := n2) (c3 := n3) (by simp)
  have Fn0 := kr.c0; have Fn1 := kr.c1; have Fn2 := kr.c2; have Fn3 := kr.c3
  clear kr
  have Fnl := MP.out.lt (b := w10.heap.size) (c0 := n0) (c1 := n1) (c2 := n2) (c3 := n3) (by simp)
  go_wp2_with fail
  refine (fsqrt_any f F hf a0 a1 a2 a3 ha la HLeg.out _).mono ?_
  rintro e w12 ⟨V, ⟨q0, q1, q2, q3, rfl, hq, hv, hbl⟩, hV1, hV2⟩
  have HV := Lib.hid (show val4 q0 q1 q2 q3 * val4 q0 q1 q2 q3 % F.M = val4 a0 a1 a2 a3 by rw [hv, hV1])
  have lq : val4 q0 q1 q2 q3 < F.M := by rw [hv]; exact hV2
  have MP' := Lib.hid (HM.out.on hbl)
  clear hbl HM MP Fr0 Fr1 Fr2 Fr3 Frl Fa0 Fa1 Fa2 Fa3 Fal Fn0 Fn1 Fn2 Fn3 Fnl hv hV1 hV2
  have MP := MP'
  clear MP'
  have HM := Lib.hid (MP.out.new w12.heap.size q0 q1 q2 q3 25 rfl)
  go_wp2_with fail
  refine (fmul_ok f F hf q0 q1 q2 q3 q0 q1 q2 q3 hq hq lq lq _).mono ?_
  rintro e w13 ⟨t0, t1, t2, t3, rfl, ht, hv, hbl⟩
  obtain ⟨rfl, rfl, rfl, rfl⟩ := val4_inj ha ht (show val4 a0 a1 a2 a3 = val4 t0 t1 t2 t3 by rw [hv, HV.out])
  clear hv ht
  have MP' := Lib.hid (HM.out.on hbl)
  clear hbl HM MP
  have MP := MP'
  clear MP'
  have HM := Lib.hid (MP.out.new w13.heap.size a0 a1 a2 a3 25 rfl)
  have kr := MP.out.row (b := w.heap.size) (c0 := a0) (c1 := a1) (c2 := a2) (c3 := a3) (by simp)
  have Fa0 := kr.c0; have Fa1 := kr.c1; have Fa2 := kr.c2; have Fa3 := kr.c3
  clear kr
  have Fal := MP.out.lt (b := w.heap.size) (c0 := a0) (c1 := a1) (c2 := a2) (c3 := a3) (by simp)
  go_wp2_with fail
  go_ret
  exact ⟨rfl, HM.out.1⟩
set_option maxRecDepth 100000 in
set_option maxHeartbeats 8000000 in
theorem squares_high_no (f : Int) (a0 a1 a2 a3 b0 b1 b2 b3 : Nat) (ha : ok4 a0 a1 a2 a3) (hb : ok4 b0 b1 b2 b3) (F : FC) (hf : FieldIs f F) (la : val4 a0 a1 a2 a3 < F.M) (lb : val4 b0 b1 b2 b3 < F.M) (hlow : lowB F.M (val4 a0 a1 a2 a3) = false) (hleg : legN F.M (val4 a0 a1 a2 a3) = -1) (w : World) :
    Calls Try.prog 9 #[.int .i64 f, .agg #[.int .u64 a0, .int .u64 a1, .int .u64 a2, .int .u64 a3], .agg #[.int .u64 b0, .int .u64 b1, .int .u64 b2, .int .u64 b3]] w fun e w' => e = .returned (.bool true) ∧ Below w.heap.size w w' := by
  have hG := eqGuardF
  have hS := equalSelfF
  have hpos := hf.ok.pos
  obtain ⟨gr, hroot⟩ := hf.root
  have HRo := Lib.hid hroot
  have HLow := Lib.hid hlow
  have HLeg := Lib.hid hleg
  obtain ⟨X, eX⟩ : ∃ X, legN F.M (val4 a0 a1 a2 a3) = X := ⟨_, rfl⟩
  obtain ⟨Y, eY⟩ : ∃ Y, legN F.M (val4 b0 b1 b2 b3) = Y := ⟨_, rfl⟩
  obtain ⟨Z, eZ⟩ : ∃ Z, legN F.M (val4 a0 a1 a2 a3 * val4 b0 b1 b2 b3 % F.M) = Z := ⟨_, rfl⟩
  have hXY : IntKind.i64.wrap (X * Y) = Z := by rw [← eX, ← eY, ← eZ]; exact leg_wrap hroot hf.ok.gt hf.ok.odd la lb
  have tX : decide (X < 0) = true := leg_lt eX hleg
  have HX := Lib.hid eX
  have HY := Lib.hid eY
  have HZ := Lib.hid eZ
  clear hroot hlow hleg eX eY eZ
  go_enter Try.func9, Try.ntmps9
  go_wp2_with fail
  have HM := Lib.hid (((Mem.nil w).new (w.heap.size) a0 a1 a2 a3 25 (by simp)).new (w.heap.size + 1) b0 b1 b2 b3 25 (by simp))
  refine (works_calls _).mono ?_
  rintro e w1 ⟨rfl, hbl⟩
  have MP' := Lib.hid (HM.out.on hbl)
  clear hbl HM
  have MP := MP'
  clear MP'
  have HM := MP
  have kr := MP.out.row (b := w.heap.size) (c0 := a0) (c1 := a1) (c2 := a2) (c3 := a3) (by simp)
  have Fa0 := kr.c0; have Fa1 := kr.c1; have Fa2 := kr.c2; have Fa3 := kr.c3
  clear kr
  have Fal := MP.out.lt (b := w.heap.size) (c0 := a0) (c1 := a1) (c2 := a2) (c3 := a3) (by simp)
  go_wp2_with fail
  refine (fcheck_ok f F hf a0 a1 a2 a3 ha la _).mono ?_
  rintro e w2 ⟨rfl, hbl⟩
  have MP' := Lib.hid (HM.out.on hbl)
  clear hbl HM MP Fa0 Fa1 Fa2 Fa3 Fal
  have MP := MP'
  clear MP'
  have HM := MP
  have kr := MP.out.row (b := w.heap.size + 1) (c0 := b0) (c1 := b1) (c2 := b2) (c3 := b3) (by simp)
  have Fb0 := kr.c0; have Fb1 := kr.c1; have Fb2 := kr.c2; have Fb3 := kr.c3
  clear kr
  have Fbl := MP.out.lt (b := w.heap.size + 1) (c0 := b0) (c1 := b1) (c2 := b2) (c3 := b3) (by simp)
  go_wp2_with fail
  refine (fcheck_ok f F hf b0 b1 b2 b3 hb lb _).mono ?_
  rintro e w3 ⟨rfl, hbl⟩
  have MP' := Lib.hid (HM.out.on hbl)
  clear hbl HM MP Fb0 Fb1 Fb2 Fb3 Fbl
  have MP := MP'
  clear MP'
  have HM := MP
  have kr := MP.out.row (b := w.heap.size) (c0 := a0) (c1 := a1) (c2 := a2) (c3 := a3) (by simp)
  have Fa0 := kr.c0; have Fa1 := kr.c1; have Fa2 := kr.c2; have Fa3 := kr.c3
  clear kr
  have Fal := MP.out.lt (b := w.heap.size) (c0 := a0) (c1 := a1) (c2 := a2) (c3 := a3) (by simp)
  go_wp2_with fail
  refine (fleg_any f F hf a0 a1 a2 a3 ha la _).mono ?_
  rintro e w4 ⟨he, hbl⟩
  rw [HX.out] at he
  subst he
  have MP' := Lib.hid (HM.out.on hbl)
  clear hbl HM MP Fa0 Fa1 Fa2 Fa3 Fal
  have MP := MP'
  clear MP'
  have HM := MP
  have kr := MP.out.row (b := w.heap.size + 1) (c0 := b0) (c1 := b1) (c2 := b2) (c3 := b3) (by simp)
  have Fb0 := kr.c0; have Fb1 := kr.c1; have Fb2 := kr.c2; have Fb3 := kr.c3
  clear kr
  have Fbl := MP.out.lt (b := w.heap.size + 1) (c0 := b0) (c1 := b1) (c2 := b2) (c3 := b3) (by simp)
  go_wp2_with fail
  refine (fleg_any f F hf b0 b1 b2 b3 hb lb _).mono ?_
  rintro e w5 ⟨he, hbl⟩
  rw [HY.out] at he
  subst he
  have MP' := Lib.hid (HM.out.on hbl)
  clear hbl HM MP Fb0 Fb1 Fb2 Fb3 Fbl
  have MP := MP'
  clear MP'
  have HM := MP
  have kr := MP.out.row (b := w.heap.size) (c0 := a0) (c1 := a1) (c2 := a2) (c3 := a3) (by simp)
  have Fa0 := kr.c0; have Fa1 := kr.c1; have Fa2 := kr.c2; have Fa3 := kr.c3
  clear kr
  have Fal := MP.out.lt (b := w.heap.size) (c0 := a0) (c1 := a1) (c2 := a2) (c3 := a3) (by simp)
  have kr := MP.out.row (b := w.heap.size + 1) (c0 := b0) (c1 := b1) (c2 := b2) (c3 := b3) (by simp)
  have Fb0 := kr.c0; have Fb1 := kr.c1; have Fb2 := kr.c2; have Fb3 := kr.c3
  clear kr
  have Fbl := MP.out.lt (b := w.heap.size + 1) (c0 := b0) (c1 := b1) (c2 := b2) (c3 := b3) (by simp)
  go_wp2_with fail
  refine (fmul_ok f F hf a0 a1 a2 a3 b0 b1 b2 b3 ha hb la lb _).mono ?_
  rintro e w6 ⟨p0, p1, p2, p3, rfl, hp, hv, hbl⟩
  have Vp := Lib.hid hv
  have lp : val4 p0 p1 p2 p3 < F.M := by rw [hv]; exact Nat.mod_lt _ hpos
  clear hv
  have MP' := Lib.hid (HM.out.on hbl)
  clear hbl HM MP Fa0 Fa1 Fa2 Fa3 Fal Fb0 Fb1 Fb2 Fb3 Fbl
  have MP := MP'
  clear MP'
  have HM := Lib.hid (MP.out.new w6.heap.size p0 p1 p2 p3 25 rfl)
  go_wp2_with fail
  refine (fleg_any f F hf p0 p1 p2 p3 hp lp _).mono ?_
  rintro e w7 ⟨he, hbl⟩
  rw [Vp.out, HZ.out] at he
  subst he
  have MP' := Lib.hid (HM.out.on hbl)
  clear hbl HM MP
  have MP := MP'
  clear MP'
  have HM := MP
  have kr := MP.out.row (b := w.heap.size) (c0 := a0) (c1 := a1) (c2 := a2) (c3 := a3) (by simp)
  have Fa0 := kr.c0; have Fa1 := kr.c1; have Fa2 := kr.c2; have Fa3 := kr.c3
  clear kr
  have Fal := MP.out.lt (b := w.heap.size) (c0 := a0) (c1 := a1) (c2 := a2) (c3 := a3) (by simp)
  go_wp2_with fail
  refine (fmul_ok f F hf a0 a1 a2 a3 a0 a1 a2 a3 ha ha la la _).mono ?_
  rintro e w8 ⟨s0, s1, s2, s3, rfl, hs, hv, hbl⟩
  have Vs := Lib.hid hv
  clear hv
  have MP' := Lib.hid (HM.out.on hbl)
  clear hbl HM MP Fa0 Fa1 Fa2 Fa3 Fal
  have MP := MP'
  clear MP'
  have HM := Lib.hid (MP.out.new w8.heap.size s0 s1 s2 s3 25 rfl)
  go_wp2_with fail
  refine (fsqrt_sq f F hf a0 a1 a2 a3 s0 s1 s2 s3 la hs Vs.out _).mono ?_
  rintro e w9 ⟨r0, r1, r2, r3, rfl, hr, hv, hbl⟩
  have Vr := Lib.hid (show val4 r0 r1 r2 r3 = (0 + F.M - val4 a0 a1 a2 a3) % F.M by rw [hv, if_neg (by rw [HLow.out]; simp)])
  clear hv
  have MP' := Lib.hid (HM.out.on hbl)
  clear hbl HM MP
  have MP := MP'
  clear MP'
  have HM := Lib.hid (MP.out.new w9.heap.size r0 r1 r2 r3 25 rfl)
  have kr := MP.out.row (b := w.heap.size) (c0 := a0) (c1 := a1) (c2 := a2) (c3 := a3) (by simp)
  have Fa0 := kr.c0; have Fa1 := kr.c1; have Fa2 := kr.c2; have Fa3 := kr.c3
  clear kr
  have Fal := MP.out.lt (b := w.heap.size) (c0 := a0) (c1 := a1) (c2 := a2) (c3 := a3) (by simp)
  go_wp2_with fail
  refine (fneg_ok f F hf a0 a1 a2 a3 ha la _).mono ?_
  rintro e w10 ⟨n0, n1, n2, n3, rfl, hn, hv, hbl⟩
  obtain ⟨rfl, rfl, rfl, rfl⟩ := val4_inj hr hn (show val4 r0 r1 r2 r3 = val4 n0 n1 n2 n3 by rw [hv, Vr.out])
  clear hv hn
  have MP' := Lib.hid (HM.out.on hbl)
  clear hbl HM MP Fa0 Fa1 Fa2 Fa3 Fal
  have MP := MP'
  clear MP'
  have HM := Lib.hid (MP.out.new w10.heap.size r0 r1 r2 r3 25 rfl)
  have kr := MP.out.row (b := w.heap.size) (c0 := a0) (c1 := a1) (c2 := a2) (c3 := a3) (by simp)
  have Fa0 := kr.c0; have Fa1 := kr.c1; have Fa2 := kr.c2; have Fa3 := kr.c3
  clear kr
  have Fal := MP.out.lt (b := w.heap.size) (c0 := a0) (c1 := a1) (c2 := a2) (c3 := a3) (by simp)
  go_wp2_with fail
  refine (flower_ok f F hf a0 a1 a2 a3 ha la _).mono ?_
  rintro e w11 ⟨he, hbl⟩
  rw [HLow.out] at he
  subst he
  have MP' := Lib.hid (HM.out.on hbl)
  clear hbl HM MP Fa0 Fa1 Fa2 Fa3 Fal
  have MP := MP'
  clear MP'
  have HM := MP
  have kr := MP.out.row (b := w9.heap.size) (c0 := r0) (c1 := r1) (c2 := r2) (c3 := r3) (by simp)
  have Fr0 := kr.c0; have Fr1 := kr.c1; have Fr2 := kr.c2; have Fr3 := kr.c3
  clear kr
  have Frl := MP.out.lt (b := w9.heap.size) (c0 := r0) (c1 := r1) (c2 := r2) (c3 := r3) (by simp)
  have kr := MP.out.row (b := w.heap.size) (c0 := a0) (c1 := a1) (c2 := a2) (c3 := a3) (by simp)
  have Fa0 := kr.c0; have Fa1 := kr.c1; have Fa2 := kr.c2; have Fa3 := kr.c3
  clear kr
  have Fal := MP.out.lt (b := w.heap.size) (c0 := a0) (c1 := a1) (c2 := a2) (c3 := a3) (by simp)
  have kr := MP.out.row (b := w10.heap.size) (c0 := r0) (c1 := r1) (c2 := r2) (c3 := r3) (by simp)
  have Fn0 := kr.c0; have Fn1 := kr.c1; have Fn2 := kr.c2; have Fn3 := kr.c3
  clear kr
  have Fnl := MP.out.lt (b := w10.heap.size) (c0 := r0) (c1 := r1) (c2 := r2) (c3 := r3) (by simp)
  go_wp2_with fail
  refine (fsqrt_none f F hf a0 a1 a2 a3 ha la HLeg.out _).mono ?_
  rintro e w12 ⟨q0, q1, q2, q3, rfl, hq, hv, hbl⟩
  have hZ := eqF_zero hq hv
  have HM' := Lib.hid (HM.out.on hbl)
  clear hbl HM MP Fr0 Fr1 Fr2 Fr3 Frl Fa0 Fa1 Fa2 Fa3 Fal Fn0 Fn1 Fn2 Fn3 Fnl hv
  have HM := HM'
  clear HM'
  go_wp2_with fail
  go_ret
  exact ⟨rfl, (HM.out.on ((Below.refl _ _).alloc (Nat.le_refl _) _)).1⟩
set_option maxRecDepth 100000 in
set_option maxHeartbeats 8000000 in
theorem squares_high_yes (f : Int) (a0 a1 a2 a3 b0 b1 b2 b3 : Nat) (ha : ok4 a0 a1 a2 a3) (hb : ok4 b0 b1 b2 b3) (F : FC) (hf : FieldIs f F) (la : val4 a0 a1 a2 a3 < F.M) (lb : val4 b0 b1 b2 b3 < F.M) (hlow : lowB F.M (val4 a0 a1 a2 a3) = false) (hleg : legN F.M (val4 a0 a1 a2 a3) ≠ -1) (w : World) :
    Calls Try.prog 9 #[.int .i64 f, .agg #[.int .u64 a0, .int .u64 a1, .int .u64 a2, .int .u64 a3], .agg #[.int .u64 b0, .int .u64 b1, .int .u64 b2, .int .u64 b3]] w fun e w' => e = .returned (.bool true) ∧ Below w.heap.size w w' := by
  have hG := eqGuardF
  have hS := equalSelfF
  have hpos := hf.ok.pos
  obtain ⟨gr, hroot⟩ := hf.root
  have HRo := Lib.hid hroot
  have HLow := Lib.hid hlow
  have HLeg := Lib.hid hleg
  obtain ⟨X, eX⟩ : ∃ X, legN F.M (val4 a0 a1 a2 a3) = X := ⟨_, rfl⟩
  obtain ⟨Y, eY⟩ : ∃ Y, legN F.M (val4 b0 b1 b2 b3) = Y := ⟨_, rfl⟩
  obtain ⟨Z, eZ⟩ : ∃ Z, legN F.M (val4 a0 a1 a2 a3 * val4 b0 b1 b2 b3 % F.M) = Z := ⟨_, rfl⟩
  have hXY : IntKind.i64.wrap (X * Y) = Z := by rw [← eX, ← eY, ← eZ]; exact leg_wrap hroot hf.ok.gt hf.ok.odd la lb
  have tX : decide (X < 0) = false := leg_ge eX hleg
  have HX := Lib.hid eX
  have HY := Lib.hid eY
  have HZ := Lib.hid eZ
  clear hroot hlow hleg eX eY eZ
  go_enter Try.func9, Try.ntmps9
  go_wp2_with fail
  have HM := Lib.hid (((Mem.nil w).new (w.heap.size) a0 a1 a2 a3 25 (by simp)).new (w.heap.size + 1) b0 b1 b2 b3 25 (by simp))
  refine (works_calls _).mono ?_
  rintro e w1 ⟨rfl, hbl⟩
  have MP' := Lib.hid (HM.out.on hbl)
  clear hbl HM
  have MP := MP'
  clear MP'
  have HM := MP
  have kr := MP.out.row (b := w.heap.size) (c0 := a0) (c1 := a1) (c2 := a2) (c3 := a3) (by simp)
  have Fa0 := kr.c0; have Fa1 := kr.c1; have Fa2 := kr.c2; have Fa3 := kr.c3
  clear kr
  have Fal := MP.out.lt (b := w.heap.size) (c0 := a0) (c1 := a1) (c2 := a2) (c3 := a3) (by simp)
  go_wp2_with fail
  refine (fcheck_ok f F hf a0 a1 a2 a3 ha la _).mono ?_
  rintro e w2 ⟨rfl, hbl⟩
  have MP' := Lib.hid (HM.out.on hbl)
  clear hbl HM MP Fa0 Fa1 Fa2 Fa3 Fal
  have MP := MP'
  clear MP'
  have HM := MP
  have kr := MP.out.row (b := w.heap.size + 1) (c0 := b0) (c1 := b1) (c2 := b2) (c3 := b3) (by simp)
  have Fb0 := kr.c0; have Fb1 := kr.c1; have Fb2 := kr.c2; have Fb3 := kr.c3
  clear kr
  have Fbl := MP.out.lt (b := w.heap.size + 1) (c0 := b0) (c1 := b1) (c2 := b2) (c3 := b3) (by simp)
  go_wp2_with fail
  refine (fcheck_ok f F hf b0 b1 b2 b3 hb lb _).mono ?_
  rintro e w3 ⟨rfl, hbl⟩
  have MP' := Lib.hid (HM.out.on hbl)
  clear hbl HM MP Fb0 Fb1 Fb2 Fb3 Fbl
  have MP := MP'
  clear MP'
  have HM := MP
  have kr := MP.out.row (b := w.heap.size) (c0 := a0) (c1 := a1) (c2 := a2) (c3 := a3) (by simp)
  have Fa0 := kr.c0; have Fa1 := kr.c1; have Fa2 := kr.c2; have Fa3 := kr.c3
  clear kr
  have Fal := MP.out.lt (b := w.heap.size) (c0 := a0) (c1 := a1) (c2 := a2) (c3 := a3) (by simp)
  go_wp2_with fail
  refine (fleg_any f F hf a0 a1 a2 a3 ha la _).mono ?_
  rintro e w4 ⟨he, hbl⟩
  rw [HX.out] at he
  subst he
  have MP' := Lib.hid (HM.out.on hbl)
  clear hbl HM MP Fa0 Fa1 Fa2 Fa3 Fal
  have MP := MP'
  clear MP'
  have HM := MP
  have kr := MP.out.row (b := w.heap.size + 1) (c0 := b0) (c1 := b1) (c2 := b2) (c3 := b3) (by simp)
  have Fb0 := kr.c0; have Fb1 := kr.c1; have Fb2 := kr.c2; have Fb3 := kr.c3
  clear kr
  have Fbl := MP.out.lt (b := w.heap.size + 1) (c0 := b0) (c1 := b1) (c2 := b2) (c3 := b3) (by simp)
  go_wp2_with fail
  refine (fleg_any f F hf b0 b1 b2 b3 hb lb _).mono ?_
  rintro e w5 ⟨he, hbl⟩
  rw [HY.out] at he
  subst he
  have MP' := Lib.hid (HM.out.on hbl)
  clear hbl HM MP Fb0 Fb1 Fb2 Fb3 Fbl
  have MP := MP'
  clear MP'
  have HM := MP
  have kr := MP.out.row (b := w.heap.size) (c0 := a0) (c1 := a1) (c2 := a2) (c3 := a3) (by simp)
  have Fa0 := kr.c0; have Fa1 := kr.c1; have Fa2 := kr.c2; have Fa3 := kr.c3
  clear kr
  have Fal := MP.out.lt (b := w.heap.size) (c0 := a0) (c1 := a1) (c2 := a2) (c3 := a3) (by simp)
  have kr := MP.out.row (b := w.heap.size + 1) (c0 := b0) (c1 := b1) (c2 := b2) (c3 := b3) (by simp)
  have Fb0 := kr.c0; have Fb1 := kr.c1; have Fb2 := kr.c2; have Fb3 := kr.c3
  clear kr
  have Fbl := MP.out.lt (b := w.heap.size + 1) (c0 := b0) (c1 := b1) (c2 := b2) (c3 := b3) (by simp)
  go_wp2_with fail
  refine (fmul_ok f F hf a0 a1 a2 a3 b0 b1 b2 b3 ha hb la lb _).mono ?_
  rintro e w6 ⟨p0, p1, p2, p3, rfl, hp, hv, hbl⟩
  have Vp := Lib.hid hv
  have lp : val4 p0 p1 p2 p3 < F.M := by rw [hv]; exact Nat.mod_lt _ hpos
  clear hv
  have MP' := Lib.hid (HM.out.on hbl)
  clear hbl HM MP Fa0 Fa1 Fa2 Fa3 Fal Fb0 Fb1 Fb2 Fb3 Fbl
  have MP := MP'
  clear MP'
  have HM := Lib.hid (MP.out.new w6.heap.size p0 p1 p2 p3 25 rfl)
  go_wp2_with fail
  refine (fleg_any f F hf p0 p1 p2 p3 hp lp _).mono ?_
  rintro e w7 ⟨he, hbl⟩
  rw [Vp.out, HZ.out] at he
  subst he
  have MP' := Lib.hid (HM.out.on hbl)
  clear hbl HM MP
  have MP := MP'
  clear MP'
  have HM := MP
  have kr := MP.out.row (b := w.heap.size) (c0 := a0) (c1 := a1) (c2 := a2) (c3 := a3) (by simp)
  have Fa0 := kr.c0; have Fa1 := kr.c1; have Fa2 := kr.c2; have Fa3 := kr.c3
  clear kr
  have Fal := MP.out.lt (b := w.heap.size) (c0 := a0) (c1 := a1) (c2 := a2) (c3 := a3) (by simp)
  go_wp2_with fail
  refine (fmul_ok f F hf a0 a1 a2 a3 a0 a1 a2 a3 ha ha la la _).mono ?_
  rintro e w8 ⟨s0, s1, s2, s3, rfl, hs, hv, hbl⟩
  have Vs := Lib.hid hv
  clear hv
  have MP' := Lib.hid (HM.out.on hbl)
  clear hbl HM MP Fa0 Fa1 Fa2 Fa3 Fal
  have MP := MP'
  clear MP'
  have HM := Lib.hid (MP.out.new w8.heap.size s0 s1 s2 s3 25 rfl)
  go_wp2_with fail
  refine (fsqrt_sq f F hf a0 a1 a2 a3 s0 s1 s2 s3 la hs Vs.out _).mono ?_
  rintro e w9 ⟨r0, r1, r2, r3, rfl, hr, hv, hbl⟩
  have Vr := Lib.hid (show val4 r0 r1 r2 r3 = (0 + F.M - val4 a0 a1 a2 a3) % F.M by rw [hv, if_neg (by rw [HLow.out]; simp)])
  clear hv
  have MP' := Lib.hid (HM.out.on hbl)
  clear hbl HM MP
  have MP := MP'
  clear MP'
  have HM := Lib.hid (MP.out.new w9.heap.size r0 r1 r2 r3 25 rfl)
  have kr := MP.out.row (b := w.heap.size) (c0 := a0) (c1 := a1) (c2 := a2) (c3 := a3) (by simp)
  have Fa0 := kr.c0; have Fa1 := kr.c1; have Fa2 := kr.c2; have Fa3 := kr.c3
  clear kr
  have Fal := MP.out.lt (b := w.heap.size) (c0 := a0) (c1 := a1) (c2 := a2) (c3 := a3) (by simp)
  go_wp2_with fail
  refine (fneg_ok f F hf a0 a1 a2 a3 ha la _).mono ?_
  rintro e w10 ⟨n0, n1, n2, n3, rfl, hn, hv, hbl⟩
  obtain ⟨rfl, rfl, rfl, rfl⟩ := val4_inj hr hn (show val4 r0 r1 r2 r3 = val4 n0 n1 n2 n3 by rw [hv, Vr.out])
  clear hv hn
  have MP' := Lib.hid (HM.out.on hbl)
  clear hbl HM MP Fa0 Fa1 Fa2 Fa3 Fal
  have MP := MP'
  clear MP'
  have HM := Lib.hid (MP.out.new w10.heap.size r0 r1 r2 r3 25 rfl)
  have kr := MP.out.row (b := w.heap.size) (c0 := a0) (c1 := a1) (c2 := a2) (c3 := a3) (by simp)
  have Fa0 := kr.c0; have Fa1 := kr.c1; have Fa2 := kr.c2; have Fa3 := kr.c3
  clear kr
  have Fal := MP.out.lt (b := w.heap.size) (c0 := a0) (c1 := a1) (c2 := a2) (c3 := a3) (by simp)
  go_wp2_with fail
  refine (flower_ok f F hf a0 a1 a2 a3 ha la _).mono ?_
  rintro e w11 ⟨he, hbl⟩
  rw [HLow.out] at he
  subst he
  have MP' := Lib.hid (HM.out.on hbl)
  clear hbl HM MP Fa0 Fa1 Fa2 Fa3 Fal
  have MP := MP'
  clear MP'
  have HM := MP
  have kr := MP.out.row (b := w9.heap.size) (c0 := r0) (c1 := r1) (c2 := r2) (c3 := r3) (by simp)
  have Fr0 := kr.c0; have Fr1 := kr.c1; have Fr2 := kr.c2; have Fr3 := kr.c3
  clear kr
  have Frl := MP.out.lt (b := w9.heap.size) (c0 := r0) (c1 := r1) (c2 := r2) (c3 := r3) (by simp)
  have kr := MP.out.row (b := w.heap.size) (c0 := a0) (c1 := a1) (c2 := a2) (c3 := a3) (by simp)
  have Fa0 := kr.c0; have Fa1 := kr.c1; have Fa2 := kr.c2; have Fa3 := kr.c3
  clear kr
  have Fal := MP.out.lt (b := w.heap.size) (c0 := a0) (c1 := a1) (c2 := a2) (c3 := a3) (by simp)
  have kr := MP.out.row (b := w10.heap.size) (c0 := r0) (c1 := r1) (c2 := r2) (c3 := r3) (by simp)
  have Fn0 := kr.c0; have Fn1 := kr.c1; have Fn2 := kr.c2; have Fn3 := kr.c3
  clear kr
  have Fnl := MP.out.lt (b := w10.heap.size) (c0 := r0) (c1 := r1) (c2 := r2) (c3 := r3) (by simp)
  go_wp2_with fail
  refine (fsqrt_any f F hf a0 a1 a2 a3 ha la HLeg.out _).mono ?_
  rintro e w12 ⟨V, ⟨q0, q1, q2, q3, rfl, hq, hv, hbl⟩, hV1, hV2⟩
  have HV := Lib.hid (show val4 q0 q1 q2 q3 * val4 q0 q1 q2 q3 % F.M = val4 a0 a1 a2 a3 by rw [hv, hV1])
  have lq : val4 q0 q1 q2 q3 < F.M := by rw [hv]; exact hV2
  have MP' := Lib.hid (HM.out.on hbl)
  clear hbl HM MP Fr0 Fr1 Fr2 Fr3 Frl Fa0 Fa1 Fa2 Fa3 Fal Fn0 Fn1 Fn2 Fn3 Fnl hv hV1 hV2
  have MP := MP'
  clear MP'
  have HM := Lib.hid (MP.out.new w12.heap.size q0 q1 q2 q3 25 rfl)
  go_wp2_with fail
  refine (fmul_ok f F hf q0 q1 q2 q3 q0 q1 q2 q3 hq hq lq lq _).mono ?_
  rintro e w13 ⟨t0, t1, t2, t3, rfl, ht, hv, hbl⟩
  obtain ⟨rfl, rfl, rfl, rfl⟩ := val4_inj ha ht (show val4 a0 a1 a2 a3 = val4 t0 t1 t2 t3 by rw [hv, HV.out])
  clear hv ht
  have MP' := Lib.hid (HM.out.on hbl)
  clear hbl HM MP
  have MP := MP'
  clear MP'
  have HM := Lib.hid (MP.out.new w13.heap.size a0 a1 a2 a3 25 rfl)
  have kr := MP.out.row (b := w.heap.size) (c0 := a0) (c1 := a1) (c2 := a2) (c3 := a3) (by simp)
  have Fa0 := kr.c0; have Fa1 := kr.c1; have Fa2 := kr.c2; have Fa3 := kr.c3
  clear kr
  have Fal := MP.out.lt (b := w.heap.size) (c0 := a0) (c1 := a1) (c2 := a2) (c3 := a3) (by simp)
  go_wp2_with fail
  go_ret
  exact ⟨rfl, HM.out.1⟩
theorem squares_calls (f : Int) (a0 a1 a2 a3 b0 b1 b2 b3 : Nat) (ha : ok4 a0 a1 a2 a3) (hb : ok4 b0 b1 b2 b3) (w : World) :
    Calls Try.prog 9 #[.int .i64 f, .agg #[.int .u64 a0, .int .u64 a1, .int .u64 a2, .int .u64 a3], .agg #[.int .u64 b0, .int .u64 b1, .int .u64 b2, .int .u64 b3]] w fun e w' => e = .returned (.bool true) ∧ Below w.heap.size w w' := by
  rcases all1 f (val4 a0 a1 a2 a3) with ⟨F, hf, la⟩ | ⟨c, h⟩
  · rcases all1 f (val4 b0 b1 b2 b3) with ⟨G, hg, lb⟩ | ⟨c, h⟩
    · obtain rfl := hf.uniq hg
      cases hl : lowB F.M (val4 a0 a1 a2 a3) with
      | true =>
        by_cases q : legN F.M (val4 a0 a1 a2 a3) = -1
        · exact squares_low_no f a0 a1 a2 a3 b0 b1 b2 b3 ha hb F hf la lb hl q w
        · exact squares_low_yes f a0 a1 a2 a3 b0 b1 b2 b3 ha hb F hf la lb hl q w
      | false =>
        by_cases q : legN F.M (val4 a0 a1 a2 a3) = -1
        · exact squares_high_no f a0 a1 a2 a3 b0 b1 b2 b3 ha hb F hf la lb hl q w
        · exact squares_high_yes f a0 a1 a2 a3 b0 b1 b2 b3 ha hb F hf la lb hl q w
    · exact squares_bad2 f a0 a1 a2 a3 b0 b1 b2 b3 ha hb F hf la c h w
  · exact squares_bad1 f a0 a1 a2 a3 b0 b1 b2 b3 ha hb c h w
end Go.Proofs.Ytkklbhgneidbbaa
