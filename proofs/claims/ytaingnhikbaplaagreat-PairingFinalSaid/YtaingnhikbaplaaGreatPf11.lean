/-
  The field's constants by its name, the errors, and the calls Add, Sub, Mul, Neg, Check, Modulus, Lower. Conditions: words below 2^64.
  The lists of package field: hasAll.
-/
import Derived.Deep.DeepCutAuto
import Derived.Test.YtaingnhikbaplaaGreatPf10
namespace Go.Proofs.YtaingnhikbaplaaGreat
set_option linter.unusedVariables false
set_option linter.unusedSimpArgs false
open Go.RowKit

/-- which field's constants a name stands for -/
def FieldIs (f : Int) (F : FC) : Prop := f = 1 ∧ F = FP ∨ f = 2 ∧ F = FR
theorem FieldIs.ok {f : Int} {F : FC} (h : FieldIs f F) : F.Ok := by rcases h with ⟨_, rfl⟩ | ⟨_, rfl⟩; exact FP_ok; exact FR_ok
theorem FieldIs.root {f : Int} {F : FC} (h : FieldIs f F) : ∃ g, Root F.M g := by
  rcases h with ⟨_, rfl⟩ | ⟨_, rfl⟩
  · exact ⟨3, by rw [FP_M]; exact root_P⟩
  · exact ⟨5, by rw [FR_M]; exact root_R⟩
/-- the errors of one element, of two -/
def Bad1 (f : Int) (A : Nat) (c : Int) : Prop := f ≠ 1 ∧ f ≠ 2 ∧ c = 1 ∨ ∃ F, FieldIs f F ∧ ¬ A < F.M ∧ c = 21
def Bad2 (f : Int) (A B : Nat) (c : Int) : Prop := Bad1 f A c ∨ ∃ F, FieldIs f F ∧ A < F.M ∧ ¬ B < F.M ∧ c = 21
/-- an element and an error -/
def FeE (c : Int) (V : Nat) (w : World) (e : Ending) (w' : World) : Prop :=
  ∃ s0 s1 s2 s3 : Nat, e = .returned (.tuple #[.agg #[.int .u64 s0, .int .u64 s1, .int .u64 s2, .int .u64 s3], .int .i64 c]) ∧ ok4 s0 s1 s2 s3 ∧ val4 s0 s1 s2 s3 = V ∧ Below w.heap.size w w'
theorem zok : ok4 0 0 0 0 := ⟨by omega, by omega, by omega, by omega⟩

theorem KIs.new (w : World) (F : FC) (t : TypeId) : KIs (w.alloc (.cells #[.int .u64 F.m0, .int .u64 F.m1, .int .u64 F.m2, .int .u64 F.m3, .int .u64 F.inv, .int .u64 F.s0, .int .u64 F.s1, .int .u64 F.s2, .int .u64 F.s3] t)) w.heap.size F :=
  ⟨by rw [World.cell?_alloc_new]; rfl, by rw [World.cell?_alloc_new]; rfl, by rw [World.cell?_alloc_new]; rfl, by rw [World.cell?_alloc_new]; rfl, by rw [World.cell?_alloc_new]; rfl, by rw [World.cell?_alloc_new]; rfl, by rw [World.cell?_alloc_new]; rfl, by rw [World.cell?_alloc_new]; rfl, by rw [World.cell?_alloc_new]; rfl, by simp⟩
set_option maxRecDepth 100000 in
set_option maxHeartbeats 2000000 in
theorem cons_some (f : Int) (F : FC) (hf : FieldIs f F) (w : World) : Calls Tryz.prog 165 #[.int .i64 f] w fun e w' => e = .returned (.tuple #[.agg #[.int .u64 F.m0, .int .u64 F.m1, .int .u64 F.m2, .int .u64 F.m3, .int .u64 F.inv, .int .u64 F.s0, .int .u64 F.s1, .int .u64 F.s2, .int .u64 F.s3], .int .i64 0]) ∧ Below w.heap.size w w' := by
  rcases hf with ⟨rfl, rfl⟩ | ⟨rfl, rfl⟩
  · go_enter Tryz.func165, Tryz.ntmps165
    go_wp2_with fail
    refine bodyPost_ret (v := .tuple #[.agg #[.int .u64 FP.m0, .int .u64 FP.m1, .int .u64 FP.m2, .int .u64 FP.m3, .int .u64 FP.inv, .int .u64 FP.s0, .int .u64 FP.s1, .int .u64 FP.s2, .int .u64 FP.s3], .int .i64 0]) (by simp [results, Tryz.results165, go_sem, FP]) rfl ?_
    refine ⟨rfl, ?_⟩
    repeat (first | exact Below.refl _ _ | refine Below.drew ?_ | refine Below.alloc ?_ (by first | (simp; done) | (simp; omega)) _ | refine Below.setCell ?_ (by simp) _)
  · go_enter Tryz.func165, Tryz.ntmps165
    go_wp2_with fail
    refine bodyPost_ret (v := .tuple #[.agg #[.int .u64 FR.m0, .int .u64 FR.m1, .int .u64 FR.m2, .int .u64 FR.m3, .int .u64 FR.inv, .int .u64 FR.s0, .int .u64 FR.s1, .int .u64 FR.s2, .int .u64 FR.s3], .int .i64 0]) (by simp [results, Tryz.results165, go_sem, FR]) rfl ?_
    refine ⟨rfl, ?_⟩
    repeat (first | exact Below.refl _ _ | refine Below.drew ?_ | refine Below.alloc ?_ (by first | (simp; done) | (simp; omega)) _ | refine Below.setCell ?_ (by simp) _)
set_option maxRecDepth 100000 in
set_option maxHeartbeats 2000000 in
theorem cons_none (f : Int) (h1 : f ≠ 1) (h2 : f ≠ 2) (w : World) : Calls Tryz.prog 165 #[.int .i64 f] w fun e w' => e = .returned (.tuple #[.agg #[.int .u64 0, .int .u64 0, .int .u64 0, .int .u64 0, .int .u64 0, .int .u64 0, .int .u64 0, .int .u64 0, .int .u64 0], .int .i64 1]) ∧ Below w.heap.size w w' := by
  have t1 : (f == 1) = false := by simp [h1]
  have t2 : (f == 2) = false := by simp [h2]
  go_enter Tryz.func165, Tryz.ntmps165
  go_wp2_with fail
  refine bodyPost_ret (v := .tuple #[.agg #[.int .u64 0, .int .u64 0, .int .u64 0, .int .u64 0, .int .u64 0, .int .u64 0, .int .u64 0, .int .u64 0, .int .u64 0], .int .i64 1]) (by simp [results, Tryz.results165, go_sem]) rfl ?_
  refine ⟨rfl, ?_⟩
  repeat (first | exact Below.refl _ _ | refine Below.drew ?_ | refine Below.alloc ?_ (by first | (simp; done) | (simp; omega)) _ | refine Below.setCell ?_ (by simp) _)
theorem refusal_one (w : World) : Calls Tryz.prog 189 #[.int .i64 1] w fun e w' => e = .returned (.int .i64 1) ∧ w' = w := by
  go_enter Tryz.func189, Tryz.ntmps189
  go_wp2_with fail
  go_ret
  exact ⟨rfl, rfl⟩
theorem refusal_two (w : World) : Calls Tryz.prog 189 #[.int .i64 0] w fun e w' => e = .returned (.int .i64 21) ∧ w' = w := by
  go_enter Tryz.func189, Tryz.ntmps189
  go_wp2_with fail
  go_ret
  exact ⟨rfl, rfl⟩
set_option maxRecDepth 100000 in
set_option maxHeartbeats 2000000 in
theorem fadd_ok (f : Int) (F : FC) (hf : FieldIs f F) (a0 a1 a2 a3 b0 b1 b2 b3 : Nat) (ha : ok4 a0 a1 a2 a3) (hb : ok4 b0 b1 b2 b3) (la : val4 a0 a1 a2 a3 < F.M) (lb : val4 b0 b1 b2 b3 < F.M) (w : World) :
    Calls Tryz.prog 118 #[.int .i64 f, .agg #[.int .u64 a0, .int .u64 a1, .int .u64 a2, .int .u64 a3], .agg #[.int .u64 b0, .int .u64 b1, .int .u64 b2, .int .u64 b3]] w (FeE 0 ((val4 a0 a1 a2 a3 + val4 b0 b1 b2 b3) % F.M) w) := by
  go_enter Tryz.func118, Tryz.ntmps118
  go_wp2_with fail
  refine (cons_some f F hf _).mono ?_
  rintro e w1 ⟨rfl, hbl⟩
  have M1 := ((((Mem.nil w).new (w.heap.size) a0 a1 a2 a3 24 (by simp)).new (w.heap.size + 1) b0 b1 b2 b3 24 (by simp)).new (w.heap.size + 1 + 1) 0 0 0 0 24 (by simp)).on hbl
  clear hbl
  have z0 : w.heap.size < w1.heap.size := M1.lt (c0 := a0) (c1 := a1) (c2 := a2) (c3 := a3) (by simp)
  have z1 : w.heap.size + 1 < w1.heap.size := M1.lt (c0 := b0) (c1 := b1) (c2 := b2) (c3 := b3) (by simp)
  have z2 : w.heap.size + 1 + 1 < w1.heap.size := M1.lt (c0 := 0) (c1 := 0) (c2 := 0) (c3 := 0) (by simp)
  have HM := Lib.hid (M1.on ((Below.refl _ _).alloc (Nat.le_refl _) (.cells #[.int .u64 F.m0, .int .u64 F.m1, .int .u64 F.m2, .int .u64 F.m3, .int .u64 F.inv, .int .u64 F.s0, .int .u64 F.s1, .int .u64 F.s2, .int .u64 F.s3] 206)))
  have KK := Lib.hid (KIs.new w1 F 206)
  have kr := M1.row (b := w.heap.size) (c0 := a0) (c1 := a1) (c2 := a2) (c3 := a3) (by simp)
  have x0 := kr.c0; have x1 := kr.c1; have x2 := kr.c2; have x3 := kr.c3
  clear kr
  have xl := M1.lt (b := w.heap.size) (c0 := a0) (c1 := a1) (c2 := a2) (c3 := a3) (by simp)
  go_wp2_with fail
  refine (has_calls F hf.ok w1.heap.size a0 a1 a2 a3 ha _ KK.out).mono ?_
  rintro e w2 ⟨he, hbl⟩
  rw [show isB (val4 a0 a1 a2 a3) F.M = true from decide_eq_true la] at he
  subst he
  have HM' := Lib.hid (HM.out.on hbl)
  have KK' := Lib.hid (KK.out.same hbl)
  have zk := KK'.out.lt
  clear HM KK hbl M1
  have HM := HM'
  have KK := KK'
  clear HM' KK'
  clear x0 x1 x2 x3 xl zk
  have kr := HM.out.row (b := w.heap.size + 1) (c0 := b0) (c1 := b1) (c2 := b2) (c3 := b3) (by simp)
  have x0 := kr.c0; have x1 := kr.c1; have x2 := kr.c2; have x3 := kr.c3
  clear kr
  have xl := HM.out.lt (b := w.heap.size + 1) (c0 := b0) (c1 := b1) (c2 := b2) (c3 := b3) (by simp)
  go_wp2_with fail
  refine (has_calls F hf.ok w1.heap.size b0 b1 b2 b3 hb _ KK.out).mono ?_
  rintro e w3 ⟨he, hbl⟩
  rw [show isB (val4 b0 b1 b2 b3) F.M = true from decide_eq_true lb] at he
  subst he
  have HM' := Lib.hid (HM.out.on hbl)
  have KK' := Lib.hid (KK.out.same hbl)
  have zk := KK'.out.lt
  clear HM KK hbl
  have HM := HM'
  have KK := KK'
  clear HM' KK'
  clear x0 x1 x2 x3 xl zk
  have kr := HM.out.row (b := w.heap.size) (c0 := a0) (c1 := a1) (c2 := a2) (c3 := a3) (by simp)
  have x0 := kr.c0; have x1 := kr.c1; have x2 := kr.c2; have x3 := kr.c3
  clear kr
  have xl := HM.out.lt (b := w.heap.size) (c0 := a0) (c1 := a1) (c2 := a2) (c3 := a3) (by simp)
  have kr := HM.out.row (b := w.heap.size + 1) (c0 := b0) (c1 := b1) (c2 := b2) (c3 := b3) (by simp)
  have u0 := kr.c0; have u1 := kr.c1; have u2 := kr.c2; have u3 := kr.c3
  clear kr
  have ul := HM.out.lt (b := w.heap.size + 1) (c0 := b0) (c1 := b1) (c2 := b2) (c3 := b3) (by simp)
  go_wp2_with fail
  refine (plus_calls F hf.ok w1.heap.size a0 a1 a2 a3 b0 b1 b2 b3 ha hb la lb _ KK.out).mono ?_
  rintro e w4 ⟨s0, s1, s2, s3, rfl, hs, hv, hbl⟩
  have HV := Lib.hid hv
  clear hv
  have HM' := Lib.hid (HM.out.on hbl)
  have KK' := Lib.hid (KK.out.same hbl)
  have zk := KK'.out.lt
  clear HM KK hbl
  have HM := HM'
  have KK := KK'
  clear HM' KK'
  clear x0 x1 x2 x3 xl u0 u1 u2 u3 ul zk
  have kr := HM.out.row (b := w.heap.size + 1 + 1) (c0 := 0) (c1 := 0) (c2 := 0) (c3 := 0) (by simp)
  have y0 := kr.c0; have y1 := kr.c1; have y2 := kr.c2; have y3 := kr.c3; have yf := kr.fr
  clear kr
  have yl := HM.out.lt (b := w.heap.size + 1 + 1) (c0 := 0) (c1 := 0) (c2 := 0) (c3 := 0) (by simp)
  go_wp2_with fail
  refine bodyPost_ret (v := .tuple #[.agg #[.int .u64 s0, .int .u64 s1, .int .u64 s2, .int .u64 s3], .int .i64 0]) (by simp [results, Tryz.results118, go_sem, *]) rfl ?_
  refine ⟨_, _, _, _, rfl, hs, HV.out, ?_⟩
  exact below_set4 HM.out.1 (by omega) _ _ _ _
set_option maxRecDepth 100000 in
set_option maxHeartbeats 2000000 in
theorem fsub_ok (f : Int) (F : FC) (hf : FieldIs f F) (a0 a1 a2 a3 b0 b1 b2 b3 : Nat) (ha : ok4 a0 a1 a2 a3) (hb : ok4 b0 b1 b2 b3) (la : val4 a0 a1 a2 a3 < F.M) (lb : val4 b0 b1 b2 b3 < F.M) (w : World) :
    Calls Tryz.prog 273 #[.int .i64 f, .agg #[.int .u64 a0, .int .u64 a1, .int .u64 a2, .int .u64 a3], .agg #[.int .u64 b0, .int .u64 b1, .int .u64 b2, .int .u64 b3]] w (FeE 0 ((val4 a0 a1 a2 a3 + F.M - val4 b0 b1 b2 b3) % F.M) w) := by
  go_enter Tryz.func273, Tryz.ntmps273
  go_wp2_with fail
  refine (cons_some f F hf _).mono ?_
  rintro e w1 ⟨rfl, hbl⟩
  have M1 := ((((Mem.nil w).new (w.heap.size) a0 a1 a2 a3 24 (by simp)).new (w.heap.size + 1) b0 b1 b2 b3 24 (by simp)).new (w.heap.size + 1 + 1) 0 0 0 0 24 (by simp)).on hbl
  clear hbl
  have z0 : w.heap.size < w1.heap.size := M1.lt (c0 := a0) (c1 := a1) (c2 := a2) (c3 := a3) (by simp)
  have z1 : w.heap.size + 1 < w1.heap.size := M1.lt (c0 := b0) (c1 := b1) (c2 := b2) (c3 := b3) (by simp)
  have z2 : w.heap.size + 1 + 1 < w1.heap.size := M1.lt (c0 := 0) (c1 := 0) (c2 := 0) (c3 := 0) (by simp)
  have HM := Lib.hid (M1.on ((Below.refl _ _).alloc (Nat.le_refl _) (.cells #[.int .u64 F.m0, .int .u64 F.m1, .int .u64 F.m2, .int .u64 F.m3, .int .u64 F.inv, .int .u64 F.s0, .int .u64 F.s1, .int .u64 F.s2, .int .u64 F.s3] 206)))
  have KK := Lib.hid (KIs.new w1 F 206)
  have kr := M1.row (b := w.heap.size) (c0 := a0) (c1 := a1) (c2 := a2) (c3 := a3) (by simp)
  have x0 := kr.c0; have x1 := kr.c1; have x2 := kr.c2; have x3 := kr.c3
  clear kr
  have xl := M1.lt (b := w.heap.size) (c0 := a0) (c1 := a1) (c2 := a2) (c3 := a3) (by simp)
  go_wp2_with fail
  refine (has_calls F hf.ok w1.heap.size a0 a1 a2 a3 ha _ KK.out).mono ?_
  rintro e w2 ⟨he, hbl⟩
  rw [show isB (val4 a0 a1 a2 a3) F.M = true from decide_eq_true la] at he
  subst he
  have HM' := Lib.hid (HM.out.on hbl)
  have KK' := Lib.hid (KK.out.same hbl)
  have zk := KK'.out.lt
  clear HM KK hbl M1
  have HM := HM'
  have KK := KK'
  clear HM' KK'
  clear x0 x1 x2 x3 xl zk
  have kr := HM.out.row (b := w.heap.size + 1) (c0 := b0) (c1 := b1) (c2 := b2) (c3 := b3) (by simp)
  have x0 := kr.c0; have x1 := kr.c1; have x2 := kr.c2; have x3 := kr.c3
  clear kr
  have xl := HM.out.lt (b := w.heap.size + 1) (c0 := b0) (c1 := b1) (c2 := b2) (c3 := b3) (by simp)
  go_wp2_with fail
  refine (has_calls F hf.ok w1.heap.size b0 b1 b2 b3 hb _ KK.out).mono ?_
  rintro e w3 ⟨he, hbl⟩
  rw [show isB (val4 b0 b1 b2 b3) F.M = true from decide_eq_true lb] at he
  subst he
  have HM' := Lib.hid (HM.out.on hbl)
  have KK' := Lib.hid (KK.out.same hbl)
  have zk := KK'.out.lt
  clear HM KK hbl
  have HM := HM'
  have KK := KK'
  clear HM' KK'
  clear x0 x1 x2 x3 xl zk
  have kr := HM.out.row (b := w.heap.size) (c0 := a0) (c1 := a1) (c2 := a2) (c3 := a3) (by simp)
  have x0 := kr.c0; have x1 := kr.c1; have x2 := kr.c2; have x3 := kr.c3
  clear kr
  have xl := HM.out.lt (b := w.heap.size) (c0 := a0) (c1 := a1) (c2 := a2) (c3 := a3) (by simp)
  have kr := HM.out.row (b := w.heap.size + 1) (c0 := b0) (c1 := b1) (c2 := b2) (c3 := b3) (by simp)
  have u0 := kr.c0; have u1 := kr.c1; have u2 := kr.c2; have u3 := kr.c3
  clear kr
  have ul := HM.out.lt (b := w.heap.size + 1) (c0 := b0) (c1 := b1) (c2 := b2) (c3 := b3) (by simp)
  go_wp2_with fail
  refine (minus_calls F hf.ok w1.heap.size a0 a1 a2 a3 b0 b1 b2 b3 ha hb la lb _ KK.out).mono ?_
  rintro e w4 ⟨s0, s1, s2, s3, rfl, hs, hv, hbl⟩
  have HV := Lib.hid hv
  clear hv
  have HM' := Lib.hid (HM.out.on hbl)
  have KK' := Lib.hid (KK.out.same hbl)
  have zk := KK'.out.lt
  clear HM KK hbl
  have HM := HM'
  have KK := KK'
  clear HM' KK'
  clear x0 x1 x2 x3 xl u0 u1 u2 u3 ul zk
  have kr := HM.out.row (b := w.heap.size + 1 + 1) (c0 := 0) (c1 := 0) (c2 := 0) (c3 := 0) (by simp)
  have y0 := kr.c0; have y1 := kr.c1; have y2 := kr.c2; have y3 := kr.c3; have yf := kr.fr
  clear kr
  have yl := HM.out.lt (b := w.heap.size + 1 + 1) (c0 := 0) (c1 := 0) (c2 := 0) (c3 := 0) (by simp)
  go_wp2_with fail
  refine bodyPost_ret (v := .tuple #[.agg #[.int .u64 s0, .int .u64 s1, .int .u64 s2, .int .u64 s3], .int .i64 0]) (by simp [results, Tryz.results273, go_sem, *]) rfl ?_
  refine ⟨_, _, _, _, rfl, hs, HV.out, ?_⟩
  exact below_set4 HM.out.1 (by omega) _ _ _ _
set_option maxRecDepth 100000 in
set_option maxHeartbeats 2000000 in
theorem fmul_ok (f : Int) (F : FC) (hf : FieldIs f F) (a0 a1 a2 a3 b0 b1 b2 b3 : Nat) (ha : ok4 a0 a1 a2 a3) (hb : ok4 b0 b1 b2 b3) (la : val4 a0 a1 a2 a3 < F.M) (lb : val4 b0 b1 b2 b3 < F.M) (w : World) :
    Calls Tryz.prog 272 #[.int .i64 f, .agg #[.int .u64 a0, .int .u64 a1, .int .u64 a2, .int .u64 a3], .agg #[.int .u64 b0, .int .u64 b1, .int .u64 b2, .int .u64 b3]] w (FeE 0 (val4 a0 a1 a2 a3 * val4 b0 b1 b2 b3 % F.M) w) := by
  go_enter Tryz.func272, Tryz.ntmps272
  go_wp2_with fail
  refine (cons_some f F hf _).mono ?_
  rintro e w1 ⟨rfl, hbl⟩
  have M1 := ((((Mem.nil w).new (w.heap.size) a0 a1 a2 a3 24 (by simp)).new (w.heap.size + 1) b0 b1 b2 b3 24 (by simp)).new (w.heap.size + 1 + 1) 0 0 0 0 24 (by simp)).on hbl
  clear hbl
  have z0 : w.heap.size < w1.heap.size := M1.lt (c0 := a0) (c1 := a1) (c2 := a2) (c3 := a3) (by simp)
  have z1 : w.heap.size + 1 < w1.heap.size := M1.lt (c0 := b0) (c1 := b1) (c2 := b2) (c3 := b3) (by simp)
  have z2 : w.heap.size + 1 + 1 < w1.heap.size := M1.lt (c0 := 0) (c1 := 0) (c2 := 0) (c3 := 0) (by simp)
  have HM := Lib.hid (M1.on ((Below.refl _ _).alloc (Nat.le_refl _) (.cells #[.int .u64 F.m0, .int .u64 F.m1, .int .u64 F.m2, .int .u64 F.m3, .int .u64 F.inv, .int .u64 F.s0, .int .u64 F.s1, .int .u64 F.s2, .int .u64 F.s3] 206)))
  have KK := Lib.hid (KIs.new w1 F 206)
  have kr := M1.row (b := w.heap.size) (c0 := a0) (c1 := a1) (c2 := a2) (c3 := a3) (by simp)
  have x0 := kr.c0; have x1 := kr.c1; have x2 := kr.c2; have x3 := kr.c3
  clear kr
  have xl := M1.lt (b := w.heap.size) (c0 := a0) (c1 := a1) (c2 := a2) (c3 := a3) (by simp)
  go_wp2_with fail
  refine (has_calls F hf.ok w1.heap.size a0 a1 a2 a3 ha _ KK.out).mono ?_
  rintro e w2 ⟨he, hbl⟩
  rw [show isB (val4 a0 a1 a2 a3) F.M = true from decide_eq_true la] at he
  subst he
  have HM' := Lib.hid (HM.out.on hbl)
  have KK' := Lib.hid (KK.out.same hbl)
  have zk := KK'.out.lt
  clear HM KK hbl M1
  have HM := HM'
  have KK := KK'
  clear HM' KK'
  clear x0 x1 x2 x3 xl zk
  have kr := HM.out.row (b := w.heap.size + 1) (c0 := b0) (c1 := b1) (c2 := b2) (c3 := b3) (by simp)
  have x0 := kr.c0; have x1 := kr.c1; have x2 := kr.c2; have x3 := kr.c3
  clear kr
  have xl := HM.out.lt (b := w.heap.size + 1) (c0 := b0) (c1 := b1) (c2 := b2) (c3 := b3) (by simp)
  go_wp2_with fail
  refine (has_calls F hf.ok w1.heap.size b0 b1 b2 b3 hb _ KK.out).mono ?_
  rintro e w3 ⟨he, hbl⟩
  rw [show isB (val4 b0 b1 b2 b3) F.M = true from decide_eq_true lb] at he
  subst he
  have HM' := Lib.hid (HM.out.on hbl)
  have KK' := Lib.hid (KK.out.same hbl)
  have zk := KK'.out.lt
  clear HM KK hbl
  have HM := HM'
  have KK := KK'
  clear HM' KK'
  clear x0 x1 x2 x3 xl zk
  have kr := HM.out.row (b := w.heap.size) (c0 := a0) (c1 := a1) (c2 := a2) (c3 := a3) (by simp)
  have x0 := kr.c0; have x1 := kr.c1; have x2 := kr.c2; have x3 := kr.c3
  clear kr
  have xl := HM.out.lt (b := w.heap.size) (c0 := a0) (c1 := a1) (c2 := a2) (c3 := a3) (by simp)
  have kr := HM.out.row (b := w.heap.size + 1) (c0 := b0) (c1 := b1) (c2 := b2) (c3 := b3) (by simp)
  have u0 := kr.c0; have u1 := kr.c1; have u2 := kr.c2; have u3 := kr.c3
  clear kr
  have ul := HM.out.lt (b := w.heap.size + 1) (c0 := b0) (c1 := b1) (c2 := b2) (c3 := b3) (by simp)
  go_wp2_with fail
  refine (product_calls F hf.ok w1.heap.size a0 a1 a2 a3 b0 b1 b2 b3 ha hb lb _ KK.out).mono ?_
  rintro e w4 ⟨s0, s1, s2, s3, rfl, hs, hv, hbl⟩
  have HV := Lib.hid hv
  clear hv
  have HM' := Lib.hid (HM.out.on hbl)
  have KK' := Lib.hid (KK.out.same hbl)
  have zk := KK'.out.lt
  clear HM KK hbl
  have HM := HM'
  have KK := KK'
  clear HM' KK'
  clear x0 x1 x2 x3 xl u0 u1 u2 u3 ul zk
  have kr := HM.out.row (b := w.heap.size + 1 + 1) (c0 := 0) (c1 := 0) (c2 := 0) (c3 := 0) (by simp)
  have y0 := kr.c0; have y1 := kr.c1; have y2 := kr.c2; have y3 := kr.c3; have yf := kr.fr
  clear kr
  have yl := HM.out.lt (b := w.heap.size + 1 + 1) (c0 := 0) (c1 := 0) (c2 := 0) (c3 := 0) (by simp)
  go_wp2_with fail
  refine bodyPost_ret (v := .tuple #[.agg #[.int .u64 s0, .int .u64 s1, .int .u64 s2, .int .u64 s3], .int .i64 0]) (by simp [results, Tryz.results272, go_sem, *]) rfl ?_
  refine ⟨_, _, _, _, rfl, hs, HV.out, ?_⟩
  exact below_set4 HM.out.1 (by omega) _ _ _ _
set_option maxRecDepth 100000 in
set_option maxHeartbeats 2000000 in
theorem fneg_ok (f : Int) (F : FC) (hf : FieldIs f F) (a0 a1 a2 a3 : Nat) (ha : ok4 a0 a1 a2 a3) (la : val4 a0 a1 a2 a3 < F.M) (w : World) :
    Calls Tryz.prog 121 #[.int .i64 f, .agg #[.int .u64 a0, .int .u64 a1, .int .u64 a2, .int .u64 a3]] w (FeE 0 ((0 + F.M - val4 a0 a1 a2 a3) % F.M) w) := by
  go_enter Tryz.func121, Tryz.ntmps121
  go_wp2_with fail
  refine (cons_some f F hf _).mono ?_
  rintro e w1 ⟨rfl, hbl⟩
  have M1 := (((Mem.nil w).new (w.heap.size) a0 a1 a2 a3 24 (by simp)).new (w.heap.size + 1) 0 0 0 0 24 (by simp)).on hbl
  clear hbl
  have z0 : w.heap.size < w1.heap.size := M1.lt (c0 := a0) (c1 := a1) (c2 := a2) (c3 := a3) (by simp)
  have z1 : w.heap.size + 1 < w1.heap.size := M1.lt (c0 := 0) (c1 := 0) (c2 := 0) (c3 := 0) (by simp)
  have HM := Lib.hid (M1.on ((Below.refl _ _).alloc (Nat.le_refl _) (.cells #[.int .u64 F.m0, .int .u64 F.m1, .int .u64 F.m2, .int .u64 F.m3, .int .u64 F.inv, .int .u64 F.s0, .int .u64 F.s1, .int .u64 F.s2, .int .u64 F.s3] 206)))
  have KK := Lib.hid (KIs.new w1 F 206)
  have kr := M1.row (b := w.heap.size) (c0 := a0) (c1 := a1) (c2 := a2) (c3 := a3) (by simp)
  have x0 := kr.c0; have x1 := kr.c1; have x2 := kr.c2; have x3 := kr.c3
  clear kr
  have xl := M1.lt (b := w.heap.size) (c0 := a0) (c1 := a1) (c2 := a2) (c3 := a3) (by simp)
  go_wp2_with fail
  refine (has_calls F hf.ok w1.heap.size a0 a1 a2 a3 ha _ KK.out).mono ?_
  rintro e w2 ⟨he, hbl⟩
  rw [show isB (val4 a0 a1 a2 a3) F.M = true from decide_eq_true la] at he
  subst he
  have HM' := Lib.hid (HM.out.on hbl)
  have KK' := Lib.hid (KK.out.same hbl)
  have zk := KK'.out.lt
  clear HM KK hbl M1
  have HM := HM'
  have KK := KK'
  clear HM' KK'
  clear x0 x1 x2 x3 xl zk
  have kr := HM.out.row (b := w.heap.size) (c0 := a0) (c1 := a1) (c2 := a2) (c3 := a3) (by simp)
  have x0 := kr.c0; have x1 := kr.c1; have x2 := kr.c2; have x3 := kr.c3
  clear kr
  have xl := HM.out.lt (b := w.heap.size) (c0 := a0) (c1 := a1) (c2 := a2) (c3 := a3) (by simp)
  go_wp2_with fail
  refine (minus_calls F hf.ok w1.heap.size 0 0 0 0 a0 a1 a2 a3 zok ha hf.ok.pos la _ KK.out).mono ?_
  rintro e w4 ⟨s0, s1, s2, s3, rfl, hs, hv, hbl⟩
  have HV := Lib.hid hv
  clear hv
  have HM' := Lib.hid (HM.out.on hbl)
  have KK' := Lib.hid (KK.out.same hbl)
  have zk := KK'.out.lt
  clear HM KK hbl
  have HM := HM'
  have KK := KK'
  clear HM' KK'
  clear x0 x1 x2 x3 xl zk
  have kr := HM.out.row (b := w.heap.size + 1) (c0 := 0) (c1 := 0) (c2 := 0) (c3 := 0) (by simp)
  have y0 := kr.c0; have y1 := kr.c1; have y2 := kr.c2; have y3 := kr.c3; have yf := kr.fr
  clear kr
  have yl := HM.out.lt (b := w.heap.size + 1) (c0 := 0) (c1 := 0) (c2 := 0) (c3 := 0) (by simp)
  go_wp2_with fail
  refine bodyPost_ret (v := .tuple #[.agg #[.int .u64 s0, .int .u64 s1, .int .u64 s2, .int .u64 s3], .int .i64 0]) (by simp [results, Tryz.results121, go_sem, *]) rfl ?_
  refine ⟨_, _, _, _, rfl, hs, HV.out, ?_⟩
  exact below_set4 HM.out.1 (by omega) _ _ _ _
set_option maxRecDepth 100000 in
set_option maxHeartbeats 2000000 in
theorem fcheck_err (f c : Int) (a0 a1 a2 a3 : Nat) (ha : ok4 a0 a1 a2 a3) (h : Bad1 f (val4 a0 a1 a2 a3) c) (w : World) :
    Calls Tryz.prog 135 #[.int .i64 f, .agg #[.int .u64 a0, .int .u64 a1, .int .u64 a2, .int .u64 a3]] w fun e w' => e = .returned (.int .i64 c) ∧ Below w.heap.size w w' := by
  rcases h with ⟨h1, h2, rfl⟩ | ⟨F, hf, la, rfl⟩
  · go_enter Tryz.func135, Tryz.ntmps135
    go_wp2_with fail
    refine (cons_none f h1 h2 _).mono ?_
    rintro e w1 ⟨rfl, hbl⟩
    have M1 := ((Mem.nil w).new (w.heap.size) a0 a1 a2 a3 24 (by simp)).on hbl
    clear hbl
    have z0 : w.heap.size < w1.heap.size := M1.lt (c0 := a0) (c1 := a1) (c2 := a2) (c3 := a3) (by simp)
    have HM := Lib.hid (M1.on ((Below.refl _ _).alloc (Nat.le_refl _) (.cells #[.int .u64 0, .int .u64 0, .int .u64 0, .int .u64 0, .int .u64 0, .int .u64 0, .int .u64 0, .int .u64 0, .int .u64 0] 206)))
    go_wp2_with fail
    refine (refusal_one _).mono ?_
    rintro e w2 ⟨rfl, rfl⟩
    go_wp2_with fail
    refine bodyPost_ret (v := .int .i64 1) (by simp [results, Tryz.results135, go_sem, *]) rfl ?_
    exact ⟨rfl, HM.out.1⟩
  · go_enter Tryz.func135, Tryz.ntmps135
    go_wp2_with fail
    refine (cons_some f F hf _).mono ?_
    rintro e w1 ⟨rfl, hbl⟩
    have M1 := ((Mem.nil w).new (w.heap.size) a0 a1 a2 a3 24 (by simp)).on hbl
    clear hbl
    have z0 : w.heap.size < w1.heap.size := M1.lt (c0 := a0) (c1 := a1) (c2 := a2) (c3 := a3) (by simp)
    have HM := Lib.hid (M1.on ((Below.refl _ _).alloc (Nat.le_refl _) (.cells #[.int .u64 F.m0, .int .u64 F.m1, .int .u64 F.m2, .int .u64 F.m3, .int .u64 F.inv, .int .u64 F.s0, .int .u64 F.s1, .int .u64 F.s2, .int .u64 F.s3] 206)))
    have KK := Lib.hid (KIs.new w1 F 206)
    have kr := M1.row (b := w.heap.size) (c0 := a0) (c1 := a1) (c2 := a2) (c3 := a3) (by simp)
    have x0 := kr.c0; have x1 := kr.c1; have x2 := kr.c2; have x3 := kr.c3
    clear kr
    have xl := M1.lt (b := w.heap.size) (c0 := a0) (c1 := a1) (c2 := a2) (c3 := a3) (by simp)
    go_wp2_with fail
    refine (has_calls F hf.ok w1.heap.size a0 a1 a2 a3 ha _ KK.out).mono ?_
    rintro e w2 ⟨he, hbl⟩
    rw [show isB (val4 a0 a1 a2 a3) F.M = false from decide_eq_false la] at he
    subst he
    have HM' := Lib.hid (HM.out.on hbl)
    have KK' := Lib.hid (KK.out.same hbl)
    have zk := KK'.out.lt
    clear HM KK hbl M1
    have HM := HM'
    have KK := KK'
    clear HM' KK'
    clear x0 x1 x2 x3 xl zk
    go_wp2_with fail
    refine (refusal_two _).mono ?_
    rintro e w3 ⟨rfl, rfl⟩
    go_wp2_with fail
    refine bodyPost_ret (v := .int .i64 21) (by simp [results, Tryz.results135, go_sem, *]) rfl ?_
    exact ⟨rfl, HM.out.1⟩
set_option maxRecDepth 100000 in
set_option maxHeartbeats 2000000 in
theorem fcheck_ok (f : Int) (F : FC) (hf : FieldIs f F) (a0 a1 a2 a3 : Nat) (ha : ok4 a0 a1 a2 a3) (la : val4 a0 a1 a2 a3 < F.M) (w : World) :
    Calls Tryz.prog 135 #[.int .i64 f, .agg #[.int .u64 a0, .int .u64 a1, .int .u64 a2, .int .u64 a3]] w (fun e w' => e = .returned (.int .i64 0) ∧ Below w.heap.size w w') := by
  go_enter Tryz.func135, Tryz.ntmps135
  go_wp2_with fail
  refine (cons_some f F hf _).mono ?_
  rintro e w1 ⟨rfl, hbl⟩
  have M1 := ((Mem.nil w).new (w.heap.size) a0 a1 a2 a3 24 (by simp)).on hbl
  clear hbl
  have z0 : w.heap.size < w1.heap.size := M1.lt (c0 := a0) (c1 := a1) (c2 := a2) (c3 := a3) (by simp)
  have HM := Lib.hid (M1.on ((Below.refl _ _).alloc (Nat.le_refl _) (.cells #[.int .u64 F.m0, .int .u64 F.m1, .int .u64 F.m2, .int .u64 F.m3, .int .u64 F.inv, .int .u64 F.s0, .int .u64 F.s1, .int .u64 F.s2, .int .u64 F.s3] 206)))
  have KK := Lib.hid (KIs.new w1 F 206)
  have kr := M1.row (b := w.heap.size) (c0 := a0) (c1 := a1) (c2 := a2) (c3 := a3) (by simp)
  have x0 := kr.c0; have x1 := kr.c1; have x2 := kr.c2; have x3 := kr.c3
  clear kr
  have xl := M1.lt (b := w.heap.size) (c0 := a0) (c1 := a1) (c2 := a2) (c3 := a3) (by simp)
  go_wp2_with fail
  refine (has_calls F hf.ok w1.heap.size a0 a1 a2 a3 ha _ KK.out).mono ?_
  rintro e w2 ⟨he, hbl⟩
  rw [show isB (val4 a0 a1 a2 a3) F.M = true from decide_eq_true la] at he
  subst he
  have HM' := Lib.hid (HM.out.on hbl)
  have KK' := Lib.hid (KK.out.same hbl)
  have zk := KK'.out.lt
  clear HM KK hbl M1
  have HM := HM'
  have KK := KK'
  clear HM' KK'
  clear x0 x1 x2 x3 xl zk
  go_wp2_with fail
  go_ret
  exact ⟨rfl, HM.out.1⟩
end Go.Proofs.YtaingnhikbaplaaGreat
namespace Go.Proofs.YtaingnhikbaplaaGreat
set_option linter.unusedVariables false
set_option linter.unusedSimpArgs false
open Go.ChangeShapes Go.WideShapes Go.ChangeAt Go.RowKit

/-- the list's elements, cell by cell: four cells an element -/
def LAt (w : World) (g off len : Nat) (A : Nat → Nat → Nat) : Prop := ∀ k, k < len →
  w.cell? ⟨g, off + k * 4, none⟩ = some (.int .u64 (A k 0)) ∧ w.cell? ⟨g, off + k * 4 + 1, none⟩ = some (.int .u64 (A k 1)) ∧
  w.cell? ⟨g, off + k * 4 + 2, none⟩ = some (.int .u64 (A k 2)) ∧ w.cell? ⟨g, off + k * 4 + 3, none⟩ = some (.int .u64 (A k 3))
def LOk (len : Nat) (A : Nat → Nat → Nat) : Prop := ∀ k, k < len → ok4 (A k 0) (A k 1) (A k 2) (A k 3)
theorem LAt.same {w w' : World} {g off len : Nat} {A : Nat → Nat → Nat} {B : Nat} (h : LAt w g off len A) (hg : 0 < len → g < B) (hb : Below B w w') : LAt w' g off len A :=
  fun k hk => have hg := hg (Nat.lt_of_le_of_lt (Nat.zero_le _) hk); ⟨(hb.cell (p := ⟨g, off + k * 4, none⟩) hg).trans (h k hk).1, (hb.cell (p := ⟨g, off + k * 4 + 1, none⟩) hg).trans (h k hk).2.1,
    (hb.cell (p := ⟨g, off + k * 4 + 2, none⟩) hg).trans (h k hk).2.2.1, (hb.cell (p := ⟨g, off + k * 4 + 3, none⟩) hg).trans (h k hk).2.2.2⟩

set_option maxHeartbeats 1000000 in
theorem hasAll_calls (F : FC) (hF : F.Ok) (b g off len cap : Nat) (A : Nat → Nat → Nat) (hA : LOk len A) (hm : len ≤ 9223372036854775807) (w : World) (hk : KIs w b F) (hg : 0 < len → g < w.heap.size) (hl : LAt w g off len A) :
    Calls Tryz.prog 280 #[.pointer (some ⟨b, 0, none⟩), .slice (some ⟨g, off, none⟩) len cap] w fun e w' => (∃ t : Bool, e = .returned (.bool t) ∧ (t = true ↔ ∀ k, k < len → val4 (A k 0) (A k 1) (A k 2) (A k 3) < F.M)) ∧ Below w.heap.size w w' := by
  have HK := Lib.hid hk
  have HL := Lib.hid hl
  have HG := Lib.hid hg
  clear hg
  have HA := Lib.hid hA
  have HF := Lib.hid hF
  clear hk hl hA hF
  go_enter Tryz.func280, Tryz.ntmps280
  go_wp2_with fail
  go_loopw [9] (fun t wr => ∃ k : Nat, k ≤ len ∧ t = .int .i64 k ∧ Hid (∀ j, j < k → val4 (A j 0) (A j 1) (A j 2) (A j 3) < F.M) ∧ Below w.heap.size w wr) (fun t _ => len - (intOf t).toNat)
  case atStart => exact ⟨0, Nat.zero_le _, rfl, Lib.hid (fun j h => absurd h (by omega)), Below.refl _ _⟩
  case round =>
    obtain ⟨k, hk, rfl, ha, hbl⟩ := hrel
    by_cases hlt : k < len
    · obtain ⟨a0, a1, a2, a3, e0, e1, e2, e3⟩ : ∃ a0 a1 a2 a3 : Nat, a0 = A k 0 ∧ a1 = A k 1 ∧ a2 = A k 2 ∧ a3 = A k 3 := ⟨_, _, _, _, rfl, rfl, rfl, rfl⟩
      have hc := (HL.out.same HG.out hbl) k hlt
      have hok := HA.out k hlt
      rw [← e0, ← e1, ← e2, ← e3] at hc hok
      have c0 := hc.1; have c1 := hc.2.1; have c2 := hc.2.2.1; have c3 := hc.2.2.2
      clear hc
      have HB := Lib.hid hbl
      have HR := Lib.hid (HK.out.same hbl)
      clear hbl
      have HE := Lib.hid (And.intro e0 (And.intro e1 (And.intro e2 e3)))
      have HO := Lib.hid hok
      clear e0 e1 e2 e3 hok
      have hsz : w.heap.size ≤ wr.heap.size := HB.out.size
      go_wp2_with fail
      refine (has_calls F HF.out b a0 a1 a2 a3 HO.out _ (HR.out.same ((Below.refl _ _).alloc (Nat.le_refl _) _))).mono ?_
      rintro e w2 ⟨rfl, hb2⟩
      have HW := Lib.hid ((HB.out.alloc hsz (.cells #[.int .u64 a0, .int .u64 a1, .int .u64 a2, .int .u64 a3] 24)).trans (hb2.mono (by simp; omega)))
      clear hb2 c0 c1 c2 c3
      by_cases hv : val4 a0 a1 a2 a3 < F.M
      · rw [show isB (val4 a0 a1 a2 a3) F.M = true from decide_eq_true hv]
        have HN := Lib.hid (show ∀ j, j < k + 1 → val4 (A j 0) (A j 1) (A j 2) (A j 3) < F.M from fun j h => by
          by_cases e : j = k
          · subst e; rw [← HE.out.1, ← HE.out.2.1, ← HE.out.2.2.1, ← HE.out.2.2.2]; exact hv
          · exact ha.out j (by omega))
        clear hv
        go_wp2_with fail
        go_round
        case rel => exact ⟨k + 1, by omega, by go_num, HN, HW.out⟩
        case measure => simp [intOf]; omega
      · rw [show isB (val4 a0 a1 a2 a3) F.M = false from decide_eq_false hv]
        have HN := Lib.hid (show ¬ ∀ j, j < len → val4 (A j 0) (A j 1) (A j 2) (A j 3) < F.M from fun h => hv (by
          have := h k hlt
          rwa [← HE.out.1, ← HE.out.2.1, ← HE.out.2.2.1, ← HE.out.2.2.2] at this))
        clear hv
        go_wp2_with fail
        go_ret
        exact ⟨⟨false, rfl, ⟨fun h => (by cases h), fun h => absurd h HN.out⟩⟩, HW.out⟩
    · obtain rfl : k = len := by omega
      have HB := Lib.hid hbl
      clear hbl
      go_wp2_with fail
      go_ret
      exact ⟨⟨true, rfl, ⟨fun _ => ha.out, fun _ => rfl⟩⟩, HB.out⟩
end Go.Proofs.YtaingnhikbaplaaGreat
