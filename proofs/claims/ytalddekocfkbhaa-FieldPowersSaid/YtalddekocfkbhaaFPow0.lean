/-
  As till_take of the region's laws, where the condition stands behind every operation: no last one. Of whatever program. Conditions: as the law says.
  FieldSums: the helpers two and same, and the statement where something may not be. Conditions: words below 2^64.
  FieldSquares: a product is a square just if both or none of its factors are; a root's square is the element: the cases. Conditions: words below 2^64.
  The reference's Sqrt, for either field: an element with a root: the lower one; else refused. Conditions: the element is below the modulus.
-/
import Derived.Test.YtalddekocfkbhaaTill
import Derived.Test.YtalddekocfkbhaaFRingA
import Derived.Test.YtalddekocfkbhaaRef3
import Derived.Test.YtalddekocfkbhaaRRoot
namespace Go.Proofs.Ytalddekocfkbhaa
set_option linter.unusedVariables false

section
variable {P : Program} {ops : Array Oper} {Q : Exit → Act → World → Prop} {md : Region.Mode} {S : World → Prop} {L : Nat}
theorem keep_first {i : Nat} {oi : Oper} {v : Value} (hi : ops[i]? = some oi) (hsel : ∀ (j : Nat) (o : Oper) cs b, ops[j]? = some o → o.op ≠ .select cs b)
    (hL : ops.size ≤ L) (hQ : ∀ c a w, Q (.panic c) (a.put oi.dst v) w → Q (.panic c) a w) :
    ∀ (m : Nat) (got : Array Bool) (a : Act) (w : World),
      (∀ j oj, ops[j]? = some oj → j ≠ i → got.getD j true = false → (∀ e ∈ oj.after, Region.binds md e = true → e.on ≠ i) → oi.apart ops oj = true) →
      i ∈ Region.ready md ops got → YieldsIf P ops S oi v a → S w →
      anyTill P md ops Q S L m (got.setIfInBounds i true) (a.put oi.dst v) w → anyTill P md ops Q S L (m + 1) got a w := by
  intro m
  induction m with
  | zero =>
    intro got a w _ hr hy hS H
    refine ⟨fun h => (by rw [h] at hr; cases hr), fun j hj => ?_⟩
    by_cases hji : j = i
    · subst hji; exact hy.wpOp hi hS ⟨.inr hS, H⟩
    · have := ready_mono hj hji
      rw [H.1] at this
      cases this
  | succ m ih =>
    intro got a w hfree hr hy hS H
    refine ⟨fun h => (by rw [h] at hr; cases hr), fun j hj => ?_⟩
    by_cases hji : j = i
    · subst hji; exact hy.wpOp hi hS ⟨.inr hS, H⟩
    · obtain ⟨hun, oj, hoj, hall⟩ := mem_ready.1 hj
      have hno : ∀ e ∈ oj.after, Region.binds md e = true → e.on ≠ i := fun e he hb heq => by
        have h1 := hall e he hb
        have h0 := (mem_ready.1 hr).1
        rw [heq] at h1
        rcases Nat.lt_or_ge i got.size with h' | h'
        · simp [h'] at h0 h1; rw [h0] at h1; cases h1
        · simp [Array.getElem?_eq_none h'] at h1
      have hjL : j ≠ L := fun e => by
        have := (Array.getElem?_eq_some_iff.1 hoj).1
        omega
      have h2 := wpOp_putIf hoj (hfree j oj hoj hji hun hno) (fun cs b => hsel i oi cs b hi) (fun cs b => hsel j oj cs b hoj) hQ hy (H.2 j (ready_mono hj hji))
      have hfree' : ∀ k ok, ops[k]? = some ok → k ≠ i → (got.setIfInBounds j true).getD k true = false →
          (∀ e ∈ ok.after, Region.binds md e = true → e.on ≠ i) → oi.apart ops ok = true := fun k ok hk hki hu hn => by
        refine hfree k ok hk hki ?_ hn
        by_cases hjk : j = k
        · subst hjk; exact hun
        · rw [getD_set_ne true hjk] at hu; exact hu
      refine wpOp_mono (fun b u h3 => ⟨h3.2.1, ih (got.setIfInBounds j true) b u hfree' (ready_mono hr (Ne.symm hji)) h3.1 (h3.2.1.resolve_left hjL) ?_⟩) h2
      rw [Array.setIfInBounds_comm _ _ hji]
      exact h3.2.2

theorem till_keep {i : Nat} {oi : Oper} {v : Value} {m : Nat} {got : Array Bool} {a : Act} {w : World} (hi : ops[i]? = some oi)
    (hs : Region.noSelect ops = true) (hf : Region.free md ops got i = true) (hr : (Region.ready md ops got).contains i = true) (hL : ops.size ≤ L)
    (hQ : ∀ c a w, Q (.panic c) (a.put oi.dst v) w → Q (.panic c) a w) (hS : S w) (hy : YieldsIf P ops S oi v a)
    (h : anyTill P md ops Q S L m (got.setIfInBounds i true) (a.put oi.dst v) w) : anyTill P md ops Q S L (m + 1) got a w :=
  keep_first hi (Region.noSelect_spec hs) hL hQ m got a w (Region.free_spec hi hf) (by simpa using hr) hy hS h
end
end Go.Proofs.Ytalddekocfkbhaa
namespace Go.Proofs.Ytalddekocfkbhaa
set_option linter.unusedVariables false
set_option linter.unusedSimpArgs false
open Go.RowKit

set_option maxRecDepth 100000 in
set_option maxHeartbeats 8000000 in
theorem same_ok (a0 a1 a2 a3 : Nat) (w : World) :
    Calls Try.prog 23 #[.agg #[.int .u64 a0, .int .u64 a1, .int .u64 a2, .int .u64 a3], .int .i64 0, .agg #[.int .u64 a0, .int .u64 a1, .int .u64 a2, .int .u64 a3], .int .i64 0] w fun e w' => e = .returned (.bool true) ∧ Below w.heap.size w w' := by
  have hG := eqGuardF
  have hS := equalSelfF
  go_enter Try.func23, Try.ntmps23
  go_wp2_with fail
  refine (num_calls _ _).mono ?_
  rintro e w' ⟨rfl, rfl⟩
  go_wp2_with fail
  go_ret
  refine ⟨rfl, ?_⟩
  repeat (first | exact Below.refl _ _ | refine Below.alloc ?_ (by first | (simp; done) | (simp; omega)) _)
end Go.Proofs.Ytalddekocfkbhaa
namespace Go.Proofs.Ytalddekocfkbhaa
set_option linter.unusedVariables false
set_option linter.unusedSimpArgs false
open Go.RowKit

/-- Legendre's sign, as the call answers it -/
theorem fleg_any (f : Int) (F : FC) (hf : FieldIs f F) (a0 a1 a2 a3 : Nat) (ha : ok4 a0 a1 a2 a3) (la : val4 a0 a1 a2 a3 < F.M) (w : World) :
    Calls Try.prog 11 #[.int .i64 f, .agg #[.int .u64 a0, .int .u64 a1, .int .u64 a2, .int .u64 a3]] w fun e w' => e = .returned (.tuple #[.int .i64 (legN F.M (val4 a0 a1 a2 a3)), .int .i64 0]) ∧ Below w.heap.size w w' := by
  obtain ⟨gr, hroot⟩ := hf.root
  have hg := hf.ok.gt
  unfold legN
  by_cases hz : val4 a0 a1 a2 a3 = 0
  · rw [if_pos hz]
    refine fleg0_ok f F hf a0 a1 a2 a3 ha la ?_ w
    rw [hz, Nat.zero_pow (by omega), Nat.zero_mod]
  · rw [if_neg hz]
    rcases half_pow hroot hg hf.ok.odd (show 0 < val4 a0 a1 a2 a3 by omega) la with q | q
    · rw [if_pos q]; exact fleg1_ok f F hf a0 a1 a2 a3 ha la q w
    · rw [if_neg (by omega)]; exact flegm_ok f F hf a0 a1 a2 a3 ha la ⟨by omega, by omega⟩ w
theorem leg_cases (M A : Nat) : legN M A = -1 ∨ legN M A = 0 ∨ legN M A = 1 := by
  unfold legN; split
  · exact Or.inr (Or.inl rfl)
  · split
    · exact Or.inr (Or.inr rfl)
    · exact Or.inl rfl
theorem leg_lt {M A : Nat} {X : Int} (e : legN M A = X) (h : legN M A = -1) : decide (X < 0) = true := decide_eq_true (by omega)
theorem leg_ge {M A : Nat} {X : Int} (e : legN M A = X) (h : legN M A ≠ -1) : decide (X < 0) = false := decide_eq_false (by rcases leg_cases M A with q | q | q <;> omega)
theorem leg_wrap {M g A B : Nat} (hr : Root M g) (h2 : 2 < M) (ho : M % 2 = 1) (ha : A < M) (hb : B < M) : IntKind.i64.wrap (legN M A * legN M B) = legN M (A * B % M) := by
  rw [leg_mul hr h2 ho ha hb]
  rcases leg_cases M A with a | a | a <;> rcases leg_cases M B with b | b | b <;> rw [a, b] <;> rfl
/-- the lower root of a square is the element or its negative -/
theorem low_root {M g A V : Nat} (hr : Root M g) (h2 : 2 < M) (hA : A < M) (hV : V < M) (e : V * V % M = A * A % M) (l : lowB M V = true) : (lowB M A = true → V = A) ∧ (lowB M A = false → V = (0 + M - A) % M) := by
  have hl : V ≤ (0 + M - V) % M := of_decide_eq_true l
  refine ⟨fun h => ?_, fun h => ?_⟩
  · have hh : A ≤ (0 + M - A) % M := of_decide_eq_true h
    rcases sq_two hr (by omega) hV hA e with q | q
    · exact q
    · rcases Nat.eq_zero_or_pos A with z | z
      · omega
      · rcases Nat.eq_zero_or_pos V with y | y
        · omega
        · rw [Nat.mod_eq_of_lt (by omega)] at hl hh; omega
  · have hh : ¬ A ≤ (0 + M - A) % M := of_decide_eq_false h
    rcases sq_two hr (by omega) hV hA e with q | q
    · subst q; exact absurd hl hh
    · have z : 0 < A := by
        rcases Nat.eq_zero_or_pos A with z | z
        · subst z; exact absurd (Nat.zero_le _) hh
        · exact z
      rw [Nat.mod_eq_of_lt (by omega)]; omega
/-- the root of an element's square: whatever the element is -/
theorem fsqrt_sq (f : Int) (F : FC) (hf : FieldIs f F) (a0 a1 a2 a3 s0 s1 s2 s3 : Nat) (la : val4 a0 a1 a2 a3 < F.M) (hs : ok4 s0 s1 s2 s3) (e : val4 s0 s1 s2 s3 = val4 a0 a1 a2 a3 * val4 a0 a1 a2 a3 % F.M) (w : World) :
    Calls Try.prog 14 #[.int .i64 f, .agg #[.int .u64 s0, .int .u64 s1, .int .u64 s2, .int .u64 s3]] w (FeE 0 (if lowB F.M (val4 a0 a1 a2 a3) = true then val4 a0 a1 a2 a3 else (0 + F.M - val4 a0 a1 a2 a3) % F.M) w) := by
  obtain ⟨gr, hroot⟩ := hf.root
  have hg := hf.ok.gt
  have ls : val4 s0 s1 s2 s3 < F.M := by rw [e]; exact Nat.mod_lt _ hf.ok.pos
  by_cases hz : val4 a0 a1 a2 a3 = 0
  · have h0 : val4 s0 s1 s2 s3 = 0 := by rw [e, hz, Nat.zero_mul, Nat.zero_mod]
    have hl : lowB F.M (val4 a0 a1 a2 a3) = true := by rw [hz]; exact decide_eq_true (Nat.zero_le _)
    rw [if_pos hl, hz]
    exact fsqrt0_ok f F hf s0 s1 s2 s3 hs ls h0 w
  · have hne : val4 s0 s1 s2 s3 ≠ 0 := by
      have := mul_ne hroot (by omega) (show 0 < val4 a0 a1 a2 a3 by omega) la (show 0 < val4 a0 a1 a2 a3 by omega) la
      omega
    refine (fsqrt_yes_ok f F hf s0 s1 s2 s3 hs ls hne (by rw [e]; exact leg_sq hroot hf.ok.odd (by omega) la) w).mono ?_
    rintro r w' ⟨V, ⟨v0, v1, v2, v3, he, hv, hval, hbl⟩, h1, h2, h3⟩
    obtain ⟨p, q⟩ := low_root hroot hg la h2 (by rw [h1, e]) h3
    refine ⟨v0, v1, v2, v3, he, hv, ?_, hbl⟩
    rw [hval]
    cases hl : lowB F.M (val4 a0 a1 a2 a3) with
    | true => rw [if_pos rfl]; exact p hl
    | false => rw [if_neg (by simp)]; exact q hl
/-- the root in any case but that of no square: its square is the element -/
theorem fsqrt_any (f : Int) (F : FC) (hf : FieldIs f F) (a0 a1 a2 a3 : Nat) (ha : ok4 a0 a1 a2 a3) (la : val4 a0 a1 a2 a3 < F.M) (h : legN F.M (val4 a0 a1 a2 a3) ≠ -1) (w : World) :
    Calls Try.prog 14 #[.int .i64 f, .agg #[.int .u64 a0, .int .u64 a1, .int .u64 a2, .int .u64 a3]] w fun e w' => ∃ V, FeE 0 V w e w' ∧ V * V % F.M = val4 a0 a1 a2 a3 ∧ V < F.M := by
  by_cases hz : val4 a0 a1 a2 a3 = 0
  · exact (fsqrt0_ok f F hf a0 a1 a2 a3 ha la hz w).mono fun e w' k => ⟨0, k, by rw [hz, Nat.zero_mul, Nat.zero_mod], hf.ok.pos⟩
  · refine (fsqrt_yes_ok f F hf a0 a1 a2 a3 ha la hz ?_ w).mono fun e w' ⟨V, k, k1, k2, _⟩ => ⟨V, k, k1, k2⟩
    unfold legN at h
    rw [if_neg hz] at h
    by_cases q : val4 a0 a1 a2 a3 ^ (F.M / 2) % F.M = 1
    · exact q
    · rw [if_neg q] at h; exact absurd rfl h
theorem fsqrt_none (f : Int) (F : FC) (hf : FieldIs f F) (a0 a1 a2 a3 : Nat) (ha : ok4 a0 a1 a2 a3) (la : val4 a0 a1 a2 a3 < F.M) (h : legN F.M (val4 a0 a1 a2 a3) = -1) (w : World) :
    Calls Try.prog 14 #[.int .i64 f, .agg #[.int .u64 a0, .int .u64 a1, .int .u64 a2, .int .u64 a3]] w (FeE 23 0 w) := by
  unfold legN at h
  by_cases hz : val4 a0 a1 a2 a3 = 0
  · rw [if_pos hz] at h; omega
  · rw [if_neg hz] at h
    refine fsqrt_no_ok f F hf a0 a1 a2 a3 ha la hz (fun q => ?_) w
    rw [if_pos q] at h; omega
end Go.Proofs.Ytalddekocfkbhaa
namespace Go.Proofs.Ytalddekocfkbhaa
set_option linter.unusedVariables false
set_option linter.unusedSimpArgs false
open Go.RowKit

set_option maxRecDepth 100000 in
set_option maxHeartbeats 4000000 in
theorem rsqrt_no (f : Int) (F : FC) (hf : FieldIs f F) (a0 a1 a2 a3 : Nat) (ha : ok4 a0 a1 a2 a3) (hl : legV F.M (val4 a0 a1 a2 a3) = -1) (w : World) :
    Calls Try.prog 19 #[.int .i64 f, .agg #[.int .u64 a0, .int .u64 a1, .int .u64 a2, .int .u64 a3]] w (fun e w' => ∃ s0 s1 s2 s3 : Nat, e = .returned (.tuple #[.agg #[.int .u64 s0, .int .u64 s1, .int .u64 s2, .int .u64 s3], .int .i64 23]) ∧ ok4 s0 s1 s2 s3 ∧ val4 s0 s1 s2 s3 = 0 ∧ Below w.heap.size w w') := by
  go_enter Try.func19, Try.ntmps19
  go_wp2_with fail
  have HM := Lib.hid (((Mem.nil w).new (w.heap.size) a0 a1 a2 a3 25 (by simp)).new (w.heap.size + 1) 0 0 0 0 25 (by simp))
  refine (rleg_calls f F hf a0 a1 a2 a3 ha _).mono ?_
  rintro e w1 ⟨rfl, hbl⟩
  have HM' := Lib.hid (HM.out.on hbl)
  clear hbl
  clear HM
  have HM := HM'
  clear HM'
  rw [hl]
  have kr := HM.out.row (b := w.heap.size + 1) (c0 := 0) (c1 := 0) (c2 := 0) (c3 := 0) (by simp)
  have y0 := kr.c0; have y1 := kr.c1; have y2 := kr.c2; have y3 := kr.c3; have yf := kr.fr
  clear kr
  have yl := HM.out.lt (b := w.heap.size + 1) (c0 := 0) (c1 := 0) (c2 := 0) (c3 := 0) (by simp)
  clear hl
  go_wp2_with fail
  refine bodyPost_ret (v := .tuple #[.agg #[.int .u64 (0 : Nat), .int .u64 (0 : Nat), .int .u64 (0 : Nat), .int .u64 (0 : Nat)], .int .i64 23]) (by simp [results, Try.results19, go_sem, *]) rfl ?_
  refine ⟨_, _, _, _, rfl, zok, rfl, ?_⟩
  exact below_set4 HM.out.1 (by omega) 0 0 0 0
theorem ep_val : ok4 5694840236247301970 7340967054546858659 7931984006246061591 871749566700742666 ∧ val4 5694840236247301970 7340967054546858659 7931984006246061591 871749566700742666 + val4 5694840236247301970 7340967054546858659 7931984006246061591 871749566700742666 = FP.M / 2 + 1 := ⟨by unfold ok4; decide, by kernel_rfl⟩
theorem rootP_sq {A : Nat} (h : A ^ (FP.M / 2) % FP.M = 1 ∨ A = 0) : A ^ val4 5694840236247301970 7340967054546858659 7931984006246061591 871749566700742666 % FP.M * (A ^ val4 5694840236247301970 7340967054546858659 7931984006246061591 871749566700742666 % FP.M) % FP.M = A % FP.M := by
  rw [← Nat.mul_mod, ← Nat.pow_add, ep_val.2, Nat.pow_succ, Nat.mul_mod]
  rcases h with h | h
  · rw [h, Nat.one_mul, Nat.mod_mod]
  · subst h; rw [Nat.zero_mod, Nat.mul_zero, Nat.zero_mod]
set_option maxRecDepth 100000 in
set_option maxHeartbeats 4000000 in
theorem rsqrtP_yes (a0 a1 a2 a3 : Nat) (ha : ok4 a0 a1 a2 a3) (la : val4 a0 a1 a2 a3 < FP.M) (hs : val4 a0 a1 a2 a3 ^ (FP.M / 2) % FP.M = 1 ∨ val4 a0 a1 a2 a3 = 0) (w : World) :
    Calls Try.prog 19 #[.int .i64 1, .agg #[.int .u64 a0, .int .u64 a1, .int .u64 a2, .int .u64 a3]] w (fun e w' => ∃ s0 s1 s2 s3 : Nat, e = .returned (.tuple #[.agg #[.int .u64 s0, .int .u64 s1, .int .u64 s2, .int .u64 s3], .int .i64 0]) ∧ ok4 s0 s1 s2 s3 ∧ val4 s0 s1 s2 s3 * val4 s0 s1 s2 s3 % FP.M = val4 a0 a1 a2 a3 ∧ val4 s0 s1 s2 s3 < FP.M ∧ lowB FP.M (val4 s0 s1 s2 s3) = true ∧ Below w.heap.size w w') := by
  have hf : FieldIs 1 FP := Or.inl ⟨rfl, rfl⟩
  have hok := hf.ok
  have hpos := hok.pos
  have HSq := Lib.hid hs
  have hlv : legV FP.M (val4 a0 a1 a2 a3) = 0 ∨ legV FP.M (val4 a0 a1 a2 a3) = 1 := by
    unfold legV
    rcases hs with h | h
    · right; rw [if_neg (by rw [h]; decide), if_pos h]
    · left; rw [if_pos (by rw [h, Nat.zero_pow (by decide)]; rfl)]
  clear hs
  go_enter Try.func19, Try.ntmps19
  go_wp2_with fail
  have HM := Lib.hid (((Mem.nil w).new (w.heap.size) a0 a1 a2 a3 25 (by simp)).new (w.heap.size + 1) 0 0 0 0 25 (by simp))
  refine (rleg_calls 1 FP hf a0 a1 a2 a3 ha _).mono ?_
  rintro e w1 ⟨rfl, hbl⟩
  have HM' := Lib.hid (HM.out.on hbl)
  clear hbl
  clear HM
  have HM := HM'
  clear HM'
  generalize hlg : legV _ _ = lv at *
  have hll : decide (lv < 0) = false := by rcases hlv with h | h <;> subst h <;> rfl
  clear hlv hlg
  have kr := HM.out.row (b := w.heap.size) (c0 := a0) (c1 := a1) (c2 := a2) (c3 := a3) (by simp)
  have x0 := kr.c0; have x1 := kr.c1; have x2 := kr.c2; have x3 := kr.c3
  clear kr
  have xl := HM.out.lt (b := w.heap.size) (c0 := a0) (c1 := a1) (c2 := a2) (c3 := a3) (by simp)
  have gxl : w.heap.size + 1 < w1.heap.size := HM.out.lt (b := w.heap.size + 1) (c0 := 0) (c1 := 0) (c2 := 0) (c3 := 0) (by simp)
  go_wp2_with fail
  refine (rexp_calls 1 FP hf a0 a1 a2 a3 5694840236247301970 7340967054546858659 7931984006246061591 871749566700742666 ha ep_val.1 _).mono ?_
  rintro e w2 ⟨s0, s1, s2, s3, rfl, hs, hv, hbl⟩
  have HVs := Lib.hid (show val4 s0 s1 s2 s3 * val4 s0 s1 s2 s3 % FP.M = val4 a0 a1 a2 a3 ∧ val4 s0 s1 s2 s3 < FP.M by rw [hv]; exact ⟨(rootP_sq HSq.out).trans (Nat.mod_eq_of_lt la), Nat.mod_lt _ hpos⟩)
  have HM' := Lib.hid ((HM.out.new w1.heap.size 0 0 0 0 25 rfl).on hbl)
  clear hv hbl x0 x1 x2 x3 xl
  clear HM
  have HM := HM'
  clear HM'
  have kr := HM.out.row (b := w1.heap.size) (c0 := 0) (c1 := 0) (c2 := 0) (c3 := 0) (by simp)
  have x0 := kr.c0; have x1 := kr.c1; have x2 := kr.c2; have x3 := kr.c3; have xf := kr.fr
  clear kr
  have xl := HM.out.lt (b := w1.heap.size) (c0 := 0) (c1 := 0) (c2 := 0) (c3 := 0) (by simp)
  have HM' := Lib.hid (HM.out.put s0 s1 s2 s3 (by omega) (by intro r hr; simp at hr; rcases hr with rfl | rfl <;> simp <;> omega))
  clear HM
  have HX := HM'.out
  unfold set4 at HX
  clear HM'
  have HM := Lib.hid HX
  clear HX
  have HLs := HVs.out.2
  go_wp2_with fail
  refine (rlower_calls 1 FP hf s0 s1 s2 s3 hs HVs.out.2 _).mono ?_
  rintro e w3 ⟨rfl, hbl⟩
  have HM' := Lib.hid (HM.out.on hbl)
  clear hbl x0 x1 x2 x3 xf xl
  clear HM
  have HM := HM'
  clear HM'
  have kr := HM.out.row (b := w1.heap.size) (c0 := s0) (c1 := s1) (c2 := s2) (c3 := s3) (by simp)
  have x0 := kr.c0; have x1 := kr.c1; have x2 := kr.c2; have x3 := kr.c3; have xf := kr.fr
  clear kr
  have xl := HM.out.lt (b := w1.heap.size) (c0 := s0) (c1 := s1) (c2 := s2) (c3 := s3) (by simp)
  have kr := HM.out.row (b := w.heap.size + 1) (c0 := 0) (c1 := 0) (c2 := 0) (c3 := 0) (by simp)
  have y0 := kr.c0; have y1 := kr.c1; have y2 := kr.c2; have y3 := kr.c3; have yf := kr.fr
  clear kr
  have yl := HM.out.lt (b := w.heap.size + 1) (c0 := 0) (c1 := 0) (c2 := 0) (c3 := 0) (by simp)
  cases hlo : lowB FP.M (val4 s0 s1 s2 s3) with
  | true =>
    have HLo := Lib.hid hlo
    clear hlo
    go_wp2_with fail
    refine bodyPost_ret (v := .tuple #[.agg #[.int .u64 s0, .int .u64 s1, .int .u64 s2, .int .u64 s3], .int .i64 0]) (by simp [results, Try.results19, go_sem, *]) rfl ?_
    refine ⟨_, _, _, _, rfl, hs, HVs.out.1, HVs.out.2, HLo.out, ?_⟩
    exact below_set4 HM.out.1 (by omega) _ _ _ _
  | false =>
    have HLo := Lib.hid (low_neg hok HVs.out.2 hlo)
    clear hlo
    go_wp2_with fail
    refine (rneg_calls 1 FP hf s0 s1 s2 s3 hs _).mono ?_
    rintro e w4 ⟨n0, n1, n2, n3, rfl, hn, hv, hbl⟩
    have HVn := Lib.hid (show val4 n0 n1 n2 n3 = (0 + FP.M - val4 s0 s1 s2 s3) % FP.M by rw [hv, Nat.mod_eq_of_lt HVs.out.2, Nat.zero_add])
    have HM' := Lib.hid (HM.out.on hbl)
    clear hv hbl x0 x1 x2 x3 xf xl y0 y1 y2 y3 yf yl
    clear HM
    have HM := HM'
    clear HM'
    have kr := HM.out.row (b := w1.heap.size) (c0 := s0) (c1 := s1) (c2 := s2) (c3 := s3) (by simp)
    have x0 := kr.c0; have x1 := kr.c1; have x2 := kr.c2; have x3 := kr.c3; have xf := kr.fr
    clear kr
    have xl := HM.out.lt (b := w1.heap.size) (c0 := s0) (c1 := s1) (c2 := s2) (c3 := s3) (by simp)
    have kr := HM.out.row (b := w.heap.size + 1) (c0 := 0) (c1 := 0) (c2 := 0) (c3 := 0) (by simp)
    have y0 := kr.c0; have y1 := kr.c1; have y2 := kr.c2; have y3 := kr.c3; have yf := kr.fr
    clear kr
    have yl := HM.out.lt (b := w.heap.size + 1) (c0 := 0) (c1 := 0) (c2 := 0) (c3 := 0) (by simp)
    have ne1 : ¬ w.heap.size + 1 = w1.heap.size := by omega
    have ne1' : ¬ w1.heap.size = w.heap.size + 1 := by omega
    go_wp2_with fail
    refine bodyPost_ret (v := .tuple #[.agg #[.int .u64 n0, .int .u64 n1, .int .u64 n2, .int .u64 n3], .int .i64 0]) (by simp [results, Try.results19, go_sem, *]) rfl ?_
    refine ⟨_, _, _, _, rfl, hn, by rw [HVn.out, HLo.out.1]; exact HVs.out.1, by rw [HVn.out]; exact HLo.out.2.1, by rw [HVn.out]; exact HLo.out.2.2, ?_⟩
    exact below_set4 (below_set4 HM.out.1 (by omega) _ _ _ _) (by omega) _ _ _ _
set_option maxRecDepth 100000 in
set_option maxHeartbeats 4000000 in
theorem rsqrtR_yes (a0 a1 a2 a3 : Nat) (ha : ok4 a0 a1 a2 a3) (la : val4 a0 a1 a2 a3 < FR.M) (hs : val4 a0 a1 a2 a3 ^ (FR.M / 2) % FR.M = 1 ∨ val4 a0 a1 a2 a3 = 0) (w : World) :
    Calls Try.prog 19 #[.int .i64 2, .agg #[.int .u64 a0, .int .u64 a1, .int .u64 a2, .int .u64 a3]] w (fun e w' => ∃ s0 s1 s2 s3 : Nat, e = .returned (.tuple #[.agg #[.int .u64 s0, .int .u64 s1, .int .u64 s2, .int .u64 s3], .int .i64 0]) ∧ ok4 s0 s1 s2 s3 ∧ val4 s0 s1 s2 s3 * val4 s0 s1 s2 s3 % FR.M = val4 a0 a1 a2 a3 ∧ val4 s0 s1 s2 s3 < FR.M ∧ lowB FR.M (val4 s0 s1 s2 s3) = true ∧ Below w.heap.size w w') := by
  have hf : FieldIs 2 FR := Or.inr ⟨rfl, rfl⟩
  have hok := hf.ok
  have hpos := hok.pos
  have HSq := Lib.hid hs
  have hlv : legV FR.M (val4 a0 a1 a2 a3) = 0 ∨ legV FR.M (val4 a0 a1 a2 a3) = 1 := by
    unfold legV
    rcases hs with h | h
    · right; rw [if_neg (by rw [h]; decide), if_pos h]
    · left; rw [if_pos (by rw [h, Nat.zero_pow (by decide)]; rfl)]
  clear hs
  go_enter Try.func19, Try.ntmps19
  go_wp2_with fail
  have HM := Lib.hid (((Mem.nil w).new (w.heap.size) a0 a1 a2 a3 25 (by simp)).new (w.heap.size + 1) 0 0 0 0 25 (by simp))
  refine (rleg_calls 2 FR hf a0 a1 a2 a3 ha _).mono ?_
  rintro e w1 ⟨rfl, hbl⟩
  have HM' := Lib.hid (HM.out.on hbl)
  clear hbl
  clear HM
  have HM := HM'
  clear HM'
  generalize hlg : legV _ _ = lv at *
  have hll : decide (lv < 0) = false := by rcases hlv with h | h <;> subst h <;> rfl
  clear hlv hlg
  have kr := HM.out.row (b := w.heap.size) (c0 := a0) (c1 := a1) (c2 := a2) (c3 := a3) (by simp)
  have x0 := kr.c0; have x1 := kr.c1; have x2 := kr.c2; have x3 := kr.c3
  clear kr
  have xl := HM.out.lt (b := w.heap.size) (c0 := a0) (c1 := a1) (c2 := a2) (c3 := a3) (by simp)
  have gxl : w.heap.size + 1 < w1.heap.size := HM.out.lt (b := w.heap.size + 1) (c0 := 0) (c1 := 0) (c2 := 0) (c3 := 0) (by simp)
  go_wp2_with fail
  refine (rshanks_calls a0 a1 a2 a3 ha HSq.out _).mono ?_
  rintro e w2 ⟨s0, s1, s2, s3, rfl, hs, hv, hlt, hbl⟩
  have HVs := Lib.hid (show val4 s0 s1 s2 s3 * val4 s0 s1 s2 s3 % FR.M = val4 a0 a1 a2 a3 ∧ val4 s0 s1 s2 s3 < FR.M from ⟨hv.trans (Nat.mod_eq_of_lt la), hlt⟩)
  clear hlt
  have HM' := Lib.hid ((HM.out.new w1.heap.size 0 0 0 0 25 rfl).on hbl)
  clear hv hbl x0 x1 x2 x3 xl
  clear HM
  have HM := HM'
  clear HM'
  have kr := HM.out.row (b := w1.heap.size) (c0 := 0) (c1 := 0) (c2 := 0) (c3 := 0) (by simp)
  have x0 := kr.c0; have x1 := kr.c1; have x2 := kr.c2; have x3 := kr.c3; have xf := kr.fr
  clear kr
  have xl := HM.out.lt (b := w1.heap.size) (c0 := 0) (c1 := 0) (c2 := 0) (c3 := 0) (by simp)
  have HM' := Lib.hid (HM.out.put s0 s1 s2 s3 (by omega) (by intro r hr; simp at hr; rcases hr with rfl | rfl <;> simp <;> omega))
  clear HM
  have HX := HM'.out
  unfold set4 at HX
  clear HM'
  have HM := Lib.hid HX
  clear HX
  have HLs := HVs.out.2
  go_wp2_with fail
  refine (rlower_calls 2 FR hf s0 s1 s2 s3 hs HVs.out.2 _).mono ?_
  rintro e w3 ⟨rfl, hbl⟩
  have HM' := Lib.hid (HM.out.on hbl)
  clear hbl x0 x1 x2 x3 xf xl
  clear HM
  have HM := HM'
  clear HM'
  have kr := HM.out.row (b := w1.heap.size) (c0 := s0) (c1 := s1) (c2 := s2) (c3 := s3) (by simp)
  have x0 := kr.c0; have x1 := kr.c1; have x2 := kr.c2; have x3 := kr.c3; have xf := kr.fr
  clear kr
  have xl := HM.out.lt (b := w1.heap.size) (c0 := s0) (c1 := s1) (c2 := s2) (c3 := s3) (by simp)
  have kr := HM.out.row (b := w.heap.size + 1) (c0 := 0) (c1 := 0) (c2 := 0) (c3 := 0) (by simp)
  have y0 := kr.c0; have y1 := kr.c1; have y2 := kr.c2; have y3 := kr.c3; have yf := kr.fr
  clear kr
  have yl := HM.out.lt (b := w.heap.size + 1) (c0 := 0) (c1 := 0) (c2 := 0) (c3 := 0) (by simp)
  cases hlo : lowB FR.M (val4 s0 s1 s2 s3) with
  | true =>
    have HLo := Lib.hid hlo
    clear hlo
    go_wp2_with fail
    refine bodyPost_ret (v := .tuple #[.agg #[.int .u64 s0, .int .u64 s1, .int .u64 s2, .int .u64 s3], .int .i64 0]) (by simp [results, Try.results19, go_sem, *]) rfl ?_
    refine ⟨_, _, _, _, rfl, hs, HVs.out.1, HVs.out.2, HLo.out, ?_⟩
    exact below_set4 HM.out.1 (by omega) _ _ _ _
  | false =>
    have HLo := Lib.hid (low_neg hok HVs.out.2 hlo)
    clear hlo
    go_wp2_with fail
    refine (rneg_calls 2 FR hf s0 s1 s2 s3 hs _).mono ?_
    rintro e w4 ⟨n0, n1, n2, n3, rfl, hn, hv, hbl⟩
    have HVn := Lib.hid (show val4 n0 n1 n2 n3 = (0 + FR.M - val4 s0 s1 s2 s3) % FR.M by rw [hv, Nat.mod_eq_of_lt HVs.out.2, Nat.zero_add])
    have HM' := Lib.hid (HM.out.on hbl)
    clear hv hbl x0 x1 x2 x3 xf xl y0 y1 y2 y3 yf yl
    clear HM
    have HM := HM'
    clear HM'
    have kr := HM.out.row (b := w1.heap.size) (c0 := s0) (c1 := s1) (c2 := s2) (c3 := s3) (by simp)
    have x0 := kr.c0; have x1 := kr.c1; have x2 := kr.c2; have x3 := kr.c3; have xf := kr.fr
    clear kr
    have xl := HM.out.lt (b := w1.heap.size) (c0 := s0) (c1 := s1) (c2 := s2) (c3 := s3) (by simp)
    have kr := HM.out.row (b := w.heap.size + 1) (c0 := 0) (c1 := 0) (c2 := 0) (c3 := 0) (by simp)
    have y0 := kr.c0; have y1 := kr.c1; have y2 := kr.c2; have y3 := kr.c3; have yf := kr.fr
    clear kr
    have yl := HM.out.lt (b := w.heap.size + 1) (c0 := 0) (c1 := 0) (c2 := 0) (c3 := 0) (by simp)
    have ne1 : ¬ w.heap.size + 1 = w1.heap.size := by omega
    have ne1' : ¬ w1.heap.size = w.heap.size + 1 := by omega
    go_wp2_with fail
    refine bodyPost_ret (v := .tuple #[.agg #[.int .u64 n0, .int .u64 n1, .int .u64 n2, .int .u64 n3], .int .i64 0]) (by simp [results, Try.results19, go_sem, *]) rfl ?_
    refine ⟨_, _, _, _, rfl, hn, by rw [HVn.out, HLo.out.1]; exact HVs.out.1, by rw [HVn.out]; exact HLo.out.2.1, by rw [HVn.out]; exact HLo.out.2.2, ?_⟩
    exact below_set4 (below_set4 HM.out.1 (by omega) _ _ _ _) (by omega) _ _ _ _
end Go.Proofs.Ytalddekocfkbhaa
