/-
  The field's constants by its name, the errors, and the calls Add, Sub, Mul, Neg, Check, Modulus, Lower. Conditions: words below 2^64.
-/
import Derived.Test.YtgacpjmggdmgdaaGreatRoot9
namespace Go.Proofs.YtgacpjmggdmgdaaGreat
set_option linter.unusedVariables false
set_option linter.unusedSimpArgs false
open Go.RowKit

/-- which field's constants a name stands for -/
def FieldIs (f : Int) (F : FC) : Prop := f = 1 ∧ F = FP ∨ f = 2 ∧ F = FR
theorem FieldIs.ok {f : Int} {F : FC} (h : FieldIs f F) : F.Ok := by rcases h with ⟨_, rfl⟩ | ⟨_, rfl⟩; exact FP_ok; exact FR_ok
theorem FieldIs.root {f : Int} {F : FC} (h : FieldIs f F) : ∃ g, Root F.M g := by
  rcases h with ⟨_, rfl⟩ | ⟨_, rfl⟩
  · exact ⟨3, by rw [FP_M]; exact root_P⟩
  · exact ⟨5, by rw [FR_M]; exact root_R⟩
/-- the errors of one element, of two -/
def Bad1 (f : Int) (A : Nat) (c : Int) : Prop := f ≠ 1 ∧ f ≠ 2 ∧ c = 1 ∨ ∃ F, FieldIs f F ∧ ¬ A < F.M ∧ c = 21
def Bad2 (f : Int) (A B : Nat) (c : Int) : Prop := Bad1 f A c ∨ ∃ F, FieldIs f F ∧ A < F.M ∧ ¬ B < F.M ∧ c = 21
theorem all1 (f : Int) (A : Nat) : (∃ F, FieldIs f F ∧ A < F.M) ∨ ∃ c, Bad1 f A c := by
  by_cases h1 : f = 1
  · by_cases h : A < FP.M
    · exact Or.inl ⟨FP, Or.inl ⟨h1, rfl⟩, h⟩
    · exact Or.inr ⟨21, Or.inr ⟨FP, Or.inl ⟨h1, rfl⟩, h, rfl⟩⟩
  · by_cases h2 : f = 2
    · by_cases h : A < FR.M
      · exact Or.inl ⟨FR, Or.inr ⟨h2, rfl⟩, h⟩
      · exact Or.inr ⟨21, Or.inr ⟨FR, Or.inr ⟨h2, rfl⟩, h, rfl⟩⟩
    · exact Or.inr ⟨1, Or.inl ⟨h1, h2, rfl⟩⟩
theorem all2 (f : Int) (A B : Nat) : (∃ F, FieldIs f F ∧ A < F.M ∧ B < F.M) ∨ ∃ c, Bad2 f A B c := by
  rcases all1 f A with ⟨F, hf, h⟩ | ⟨c, h⟩
  · by_cases hb : B < F.M
    · exact Or.inl ⟨F, hf, h, hb⟩
    · exact Or.inr ⟨21, Or.inr ⟨F, hf, h, hb, rfl⟩⟩
  · exact Or.inr ⟨c, Or.inl h⟩
/-- an element and an error -/
def FeE (c : Int) (V : Nat) (w : World) (e : Ending) (w' : World) : Prop :=
  ∃ s0 s1 s2 s3 : Nat, e = .returned (.tuple #[.agg #[.int .u64 s0, .int .u64 s1, .int .u64 s2, .int .u64 s3], .int .i64 c]) ∧ ok4 s0 s1 s2 s3 ∧ val4 s0 s1 s2 s3 = V ∧ Below w.heap.size w w'
theorem zok : ok4 0 0 0 0 := ⟨by omega, by omega, by omega, by omega⟩

theorem KIs.new (w : World) (F : FC) (t : TypeId) : KIs (w.alloc (.cells #[.int .u64 F.m0, .int .u64 F.m1, .int .u64 F.m2, .int .u64 F.m3, .int .u64 F.inv, .int .u64 F.s0, .int .u64 F.s1, .int .u64 F.s2, .int .u64 F.s3] t)) w.heap.size F :=
  ⟨by rw [World.cell?_alloc_new]; rfl, by rw [World.cell?_alloc_new]; rfl, by rw [World.cell?_alloc_new]; rfl, by rw [World.cell?_alloc_new]; rfl, by rw [World.cell?_alloc_new]; rfl, by rw [World.cell?_alloc_new]; rfl, by rw [World.cell?_alloc_new]; rfl, by rw [World.cell?_alloc_new]; rfl, by rw [World.cell?_alloc_new]; rfl, by simp⟩
set_option maxRecDepth 100000 in
set_option maxHeartbeats 2000000 in
theorem cons_some (f : Int) (F : FC) (hf : FieldIs f F) (w : World) : Calls Tryz.prog 137 #[.int .i64 f] w fun e w' => e = .returned (.tuple #[.agg #[.int .u64 F.m0, .int .u64 F.m1, .int .u64 F.m2, .int .u64 F.m3, .int .u64 F.inv, .int .u64 F.s0, .int .u64 F.s1, .int .u64 F.s2, .int .u64 F.s3], .int .i64 0]) ∧ Below w.heap.size w w' := by
  rcases hf with ⟨rfl, rfl⟩ | ⟨rfl, rfl⟩
  · go_enter Tryz.func137, Tryz.ntmps137
    go_wp2_with fail
    refine bodyPost_ret (v := .tuple #[.agg #[.int .u64 FP.m0, .int .u64 FP.m1, .int .u64 FP.m2, .int .u64 FP.m3, .int .u64 FP.inv, .int .u64 FP.s0, .int .u64 FP.s1, .int .u64 FP.s2, .int .u64 FP.s3], .int .i64 0]) (by simp [results, Tryz.results137, go_sem, FP]) rfl ?_
    refine ⟨rfl, ?_⟩
    repeat (first | exact Below.refl _ _ | refine Below.drew ?_ | refine Below.alloc ?_ (by first | (simp; done) | (simp; omega)) _ | refine Below.setCell ?_ (by simp) _)
  · go_enter Tryz.func137, Tryz.ntmps137
    go_wp2_with fail
    refine bodyPost_ret (v := .tuple #[.agg #[.int .u64 FR.m0, .int .u64 FR.m1, .int .u64 FR.m2, .int .u64 FR.m3, .int .u64 FR.inv, .int .u64 FR.s0, .int .u64 FR.s1, .int .u64 FR.s2, .int .u64 FR.s3], .int .i64 0]) (by simp [results, Tryz.results137, go_sem, FR]) rfl ?_
    refine ⟨rfl, ?_⟩
    repeat (first | exact Below.refl _ _ | refine Below.drew ?_ | refine Below.alloc ?_ (by first | (simp; done) | (simp; omega)) _ | refine Below.setCell ?_ (by simp) _)
set_option maxRecDepth 100000 in
set_option maxHeartbeats 2000000 in
theorem cons_none (f : Int) (h1 : f ≠ 1) (h2 : f ≠ 2) (w : World) : Calls Tryz.prog 137 #[.int .i64 f] w fun e w' => e = .returned (.tuple #[.agg #[.int .u64 0, .int .u64 0, .int .u64 0, .int .u64 0, .int .u64 0, .int .u64 0, .int .u64 0, .int .u64 0, .int .u64 0], .int .i64 1]) ∧ Below w.heap.size w w' := by
  have t1 : (f == 1) = false := by simp [h1]
  have t2 : (f == 2) = false := by simp [h2]
  go_enter Tryz.func137, Tryz.ntmps137
  go_wp2_with fail
  refine bodyPost_ret (v := .tuple #[.agg #[.int .u64 0, .int .u64 0, .int .u64 0, .int .u64 0, .int .u64 0, .int .u64 0, .int .u64 0, .int .u64 0, .int .u64 0], .int .i64 1]) (by simp [results, Tryz.results137, go_sem]) rfl ?_
  refine ⟨rfl, ?_⟩
  repeat (first | exact Below.refl _ _ | refine Below.drew ?_ | refine Below.alloc ?_ (by first | (simp; done) | (simp; omega)) _ | refine Below.setCell ?_ (by simp) _)
theorem refusal_one (w : World) : Calls Tryz.prog 139 #[.int .i64 1] w fun e w' => e = .returned (.int .i64 1) ∧ w' = w := by
  go_enter Tryz.func139, Tryz.ntmps139
  go_wp2_with fail
  go_ret
  exact ⟨rfl, rfl⟩
theorem refusal_two (w : World) : Calls Tryz.prog 139 #[.int .i64 0] w fun e w' => e = .returned (.int .i64 21) ∧ w' = w := by
  go_enter Tryz.func139, Tryz.ntmps139
  go_wp2_with fail
  go_ret
  exact ⟨rfl, rfl⟩
set_option maxRecDepth 100000 in
set_option maxHeartbeats 2000000 in
theorem fadd_err (f c : Int) (a0 a1 a2 a3 b0 b1 b2 b3 : Nat) (ha : ok4 a0 a1 a2 a3) (hb : ok4 b0 b1 b2 b3) (h : Bad2 f (val4 a0 a1 a2 a3) (val4 b0 b1 b2 b3) c) (w : World) :
    Calls Tryz.prog 148 #[.int .i64 f, .agg #[.int .u64 a0, .int .u64 a1, .int .u64 a2, .int .u64 a3], .agg #[.int .u64 b0, .int .u64 b1, .int .u64 b2, .int .u64 b3]] w fun e w' => e = .returned (.tuple #[.agg #[.int .u64 0, .int .u64 0, .int .u64 0, .int .u64 0], .int .i64 c]) ∧ Below w.heap.size w w' := by
  rcases h with (⟨h1, h2, rfl⟩ | ⟨F, hf, la, rfl⟩) | ⟨F, hf, la, lb, rfl⟩
  · go_enter Tryz.func148, Tryz.ntmps148
    go_wp2_with fail
    refine (cons_none f h1 h2 _).mono ?_
    rintro e w1 ⟨rfl, hbl⟩
    have M1 := ((((Mem.nil w).new (w.heap.size) a0 a1 a2 a3 24 (by simp)).new (w.heap.size + 1) b0 b1 b2 b3 24 (by simp)).new (w.heap.size + 1 + 1) 0 0 0 0 24 (by simp)).on hbl
    clear hbl
    have z0 : w.heap.size < w1.heap.size := M1.lt (c0 := a0) (c1 := a1) (c2 := a2) (c3 := a3) (by simp)
    have z1 : w.heap.size + 1 < w1.heap.size := M1.lt (c0 := b0) (c1 := b1) (c2 := b2) (c3 := b3) (by simp)
    have z2 : w.heap.size + 1 + 1 < w1.heap.size := M1.lt (c0 := 0) (c1 := 0) (c2 := 0) (c3 := 0) (by simp)
    have HM := Lib.hid (M1.on ((Below.refl _ _).alloc (Nat.le_refl _) (.cells #[.int .u64 0, .int .u64 0, .int .u64 0, .int .u64 0, .int .u64 0, .int .u64 0, .int .u64 0, .int .u64 0, .int .u64 0] 137)))
    have kr := M1.row (b := w.heap.size + 1 + 1) (c0 := 0) (c1 := 0) (c2 := 0) (c3 := 0) (by simp)
    have y0 := kr.c0; have y1 := kr.c1; have y2 := kr.c2; have y3 := kr.c3; have yf := kr.fr
    clear kr
    have yl := M1.lt (b := w.heap.size + 1 + 1) (c0 := 0) (c1 := 0) (c2 := 0) (c3 := 0) (by simp)
    go_wp2_with fail
    refine (refusal_one _).mono ?_
    rintro e w2 ⟨rfl, rfl⟩
    go_wp2_with fail
    refine bodyPost_ret (v := .tuple #[.agg #[.int .u64 0, .int .u64 0, .int .u64 0, .int .u64 0], .int .i64 1]) (by simp [results, Tryz.results148, go_sem, *]) rfl ?_
    refine ⟨rfl, ?_⟩
    repeat (first | exact M1.1 | exact HM.out.1 | refine Below.alloc ?_ (by first | (simp; done) | (simp; omega)) _ | refine Below.setCell ?_ (by first | (simp; done) | (simp; omega)) _)
  · go_enter Tryz.func148, Tryz.ntmps148
    go_wp2_with fail
    refine (cons_some f F hf _).mono ?_
    rintro e w1 ⟨rfl, hbl⟩
    have M1 := ((((Mem.nil w).new (w.heap.size) a0 a1 a2 a3 24 (by simp)).new (w.heap.size + 1) b0 b1 b2 b3 24 (by simp)).new (w.heap.size + 1 + 1) 0 0 0 0 24 (by simp)).on hbl
    clear hbl
    have z0 : w.heap.size < w1.heap.size := M1.lt (c0 := a0) (c1 := a1) (c2 := a2) (c3 := a3) (by simp)
    have z1 : w.heap.size + 1 < w1.heap.size := M1.lt (c0 := b0) (c1 := b1) (c2 := b2) (c3 := b3) (by simp)
    have z2 : w.heap.size + 1 + 1 < w1.heap.size := M1.lt (c0 := 0) (c1 := 0) (c2 := 0) (c3 := 0) (by simp)
    have HM := Lib.hid (M1.on ((Below.refl _ _).alloc (Nat.le_refl _) (.cells #[.int .u64 F.m0, .int .u64 F.m1, .int .u64 F.m2, .int .u64 F.m3, .int .u64 F.inv, .int .u64 F.s0, .int .u64 F.s1, .int .u64 F.s2, .int .u64 F.s3] 137)))
    have KK := Lib.hid (KIs.new w1 F 137)
    have kr := M1.row (b := w.heap.size) (c0 := a0) (c1 := a1) (c2 := a2) (c3 := a3) (by simp)
    have x0 := kr.c0; have x1 := kr.c1; have x2 := kr.c2; have x3 := kr.c3
    clear kr
    have xl := M1.lt (b := w.heap.size) (c0 := a0) (c1 := a1) (c2 := a2) (c3 := a3) (by simp)
    go_wp2_with fail
    refine (has_calls F hf.ok w1.heap.size a0 a1 a2 a3 ha _ KK.out).mono ?_
    rintro e w2 ⟨he, hbl⟩
    rw [show isB (val4 a0 a1 a2 a3) F.M = false from decide_eq_false la] at he
    subst he
    have HM' := Lib.hid (HM.out.on hbl)
    have KK' := Lib.hid (KK.out.same hbl)
    have zk := KK'.out.lt
    clear HM KK hbl M1
    have HM := HM'
    have KK := KK'
    clear HM' KK'
    clear x0 x1 x2 x3 xl zk
    have kr := HM.out.row (b := w.heap.size + 1 + 1) (c0 := 0) (c1 := 0) (c2 := 0) (c3 := 0) (by simp)
    have y0 := kr.c0; have y1 := kr.c1; have y2 := kr.c2; have y3 := kr.c3; have yf := kr.fr
    clear kr
    have yl := HM.out.lt (b := w.heap.size + 1 + 1) (c0 := 0) (c1 := 0) (c2 := 0) (c3 := 0) (by simp)
    go_wp2_with fail
    refine (refusal_two _).mono ?_
    rintro e w3 ⟨rfl, rfl⟩
    go_wp2_with fail
    refine bodyPost_ret (v := .tuple #[.agg #[.int .u64 0, .int .u64 0, .int .u64 0, .int .u64 0], .int .i64 21]) (by simp [results, Tryz.results148, go_sem, *]) rfl ?_
    refine ⟨rfl, ?_⟩
    exact below_set4 HM.out.1 (by omega) 0 0 0 0
  · go_enter Tryz.func148, Tryz.ntmps148
    go_wp2_with fail
    refine (cons_some f F hf _).mono ?_
    rintro e w1 ⟨rfl, hbl⟩
    have M1 := ((((Mem.nil w).new (w.heap.size) a0 a1 a2 a3 24 (by simp)).new (w.heap.size + 1) b0 b1 b2 b3 24 (by simp)).new (w.heap.size + 1 + 1) 0 0 0 0 24 (by simp)).on hbl
    clear hbl
    have z0 : w.heap.size < w1.heap.size := M1.lt (c0 := a0) (c1 := a1) (c2 := a2) (c3 := a3) (by simp)
    have z1 : w.heap.size + 1 < w1.heap.size := M1.lt (c0 := b0) (c1 := b1) (c2 := b2) (c3 := b3) (by simp)
    have z2 : w.heap.size + 1 + 1 < w1.heap.size := M1.lt (c0 := 0) (c1 := 0) (c2 := 0) (c3 := 0) (by simp)
    have HM := Lib.hid (M1.on ((Below.refl _ _).alloc (Nat.le_refl _) (.cells #[.int .u64 F.m0, .int .u64 F.m1, .int .u64 F.m2, .int .u64 F.m3, .int .u64 F.inv, .int .u64 F.s0, .int .u64 F.s1, .int .u64 F.s2, .int .u64 F.s3] 137)))
    have KK := Lib.hid (KIs.new w1 F 137)
    have kr := M1.row (b := w.heap.size) (c0 := a0) (c1 := a1) (c2 := a2) (c3 := a3) (by simp)
    have x0 := kr.c0; have x1 := kr.c1; have x2 := kr.c2; have x3 := kr.c3
    clear kr
    have xl := M1.lt (b := w.heap.size) (c0 := a0) (c1 := a1) (c2 := a2) (c3 := a3) (by simp)
    go_wp2_with fail
    refine (has_calls F hf.ok w1.heap.size a0 a1 a2 a3 ha _ KK.out).mono ?_
    rintro e w2 ⟨he, hbl⟩
    rw [show isB (val4 a0 a1 a2 a3) F.M = true from decide_eq_true la] at he
    subst he
    have HM' := Lib.hid (HM.out.on hbl)
    have KK' := Lib.hid (KK.out.same hbl)
    have zk := KK'.out.lt
    clear HM KK hbl M1
    have HM := HM'
    have KK := KK'
    clear HM' KK'
    clear x0 x1 x2 x3 xl zk
    have kr := HM.out.row (b := w.heap.size + 1) (c0 := b0) (c1 := b1) (c2 := b2) (c3 := b3) (by simp)
    have x0 := kr.c0; have x1 := kr.c1; have x2 := kr.c2; have x3 := kr.c3
    clear kr
    have xl := HM.out.lt (b := w.heap.size + 1) (c0 := b0) (c1 := b1) (c2 := b2) (c3 := b3) (by simp)
    go_wp2_with fail
    refine (has_calls F hf.ok w1.heap.size b0 b1 b2 b3 hb _ KK.out).mono ?_
    rintro e w3 ⟨he, hbl⟩
    rw [show isB (val4 b0 b1 b2 b3) F.M = false from decide_eq_false lb] at he
    subst he
    have HM' := Lib.hid (HM.out.on hbl)
    have KK' := Lib.hid (KK.out.same hbl)
    have zk := KK'.out.lt
    clear HM KK hbl
    have HM := HM'
    have KK := KK'
    clear HM' KK'
    clear x0 x1 x2 x3 xl zk
    have kr := HM.out.row (b := w.heap.size + 1 + 1) (c0 := 0) (c1 := 0) (c2 := 0) (c3 := 0) (by simp)
    have y0 := kr.c0; have y1 := kr.c1; have y2 := kr.c2; have y3 := kr.c3; have yf := kr.fr
    clear kr
    have yl := HM.out.lt (b := w.heap.size + 1 + 1) (c0 := 0) (c1 := 0) (c2 := 0) (c3 := 0) (by simp)
    go_wp2_with fail
    refine (refusal_two _).mono ?_
    rintro e w4 ⟨rfl, rfl⟩
    go_wp2_with fail
    refine bodyPost_ret (v := .tuple #[.agg #[.int .u64 0, .int .u64 0, .int .u64 0, .int .u64 0], .int .i64 21]) (by simp [results, Tryz.results148, go_sem, *]) rfl ?_
    refine ⟨rfl, ?_⟩
    exact below_set4 HM.out.1 (by omega) 0 0 0 0
set_option maxRecDepth 100000 in
set_option maxHeartbeats 2000000 in
theorem fadd_ok (f : Int) (F : FC) (hf : FieldIs f F) (a0 a1 a2 a3 b0 b1 b2 b3 : Nat) (ha : ok4 a0 a1 a2 a3) (hb : ok4 b0 b1 b2 b3) (la : val4 a0 a1 a2 a3 < F.M) (lb : val4 b0 b1 b2 b3 < F.M) (w : World) :
    Calls Tryz.prog 148 #[.int .i64 f, .agg #[.int .u64 a0, .int .u64 a1, .int .u64 a2, .int .u64 a3], .agg #[.int .u64 b0, .int .u64 b1, .int .u64 b2, .int .u64 b3]] w (FeE 0 ((val4 a0 a1 a2 a3 + val4 b0 b1 b2 b3) % F.M) w) := by
  go_enter Tryz.func148, Tryz.ntmps148
  go_wp2_with fail
  refine (cons_some f F hf _).mono ?_
  rintro e w1 ⟨rfl, hbl⟩
  have M1 := ((((Mem.nil w).new (w.heap.size) a0 a1 a2 a3 24 (by simp)).new (w.heap.size + 1) b0 b1 b2 b3 24 (by simp)).new (w.heap.size + 1 + 1) 0 0 0 0 24 (by simp)).on hbl
  clear hbl
  have z0 : w.heap.size < w1.heap.size := M1.lt (c0 := a0) (c1 := a1) (c2 := a2) (c3 := a3) (by simp)
  have z1 : w.heap.size + 1 < w1.heap.size := M1.lt (c0 := b0) (c1 := b1) (c2 := b2) (c3 := b3) (by simp)
  have z2 : w.heap.size + 1 + 1 < w1.heap.size := M1.lt (c0 := 0) (c1 := 0) (c2 := 0) (c3 := 0) (by simp)
  have HM := Lib.hid (M1.on ((Below.refl _ _).alloc (Nat.le_refl _) (.cells #[.int .u64 F.m0, .int .u64 F.m1, .int .u64 F.m2, .int .u64 F.m3, .int .u64 F.inv, .int .u64 F.s0, .int .u64 F.s1, .int .u64 F.s2, .int .u64 F.s3] 137)))
  have KK := Lib.hid (KIs.new w1 F 137)
  have kr := M1.row (b := w.heap.size) (c0 := a0) (c1 := a1) (c2 := a2) (c3 := a3) (by simp)
  have x0 := kr.c0; have x1 := kr.c1; have x2 := kr.c2; have x3 := kr.c3
  clear kr
  have xl := M1.lt (b := w.heap.size) (c0 := a0) (c1 := a1) (c2 := a2) (c3 := a3) (by simp)
  go_wp2_with fail
  refine (has_calls F hf.ok w1.heap.size a0 a1 a2 a3 ha _ KK.out).mono ?_
  rintro e w2 ⟨he, hbl⟩
  rw [show isB (val4 a0 a1 a2 a3) F.M = true from decide_eq_true la] at he
  subst he
  have HM' := Lib.hid (HM.out.on hbl)
  have KK' := Lib.hid (KK.out.same hbl)
  have zk := KK'.out.lt
  clear HM KK hbl M1
  have HM := HM'
  have KK := KK'
  clear HM' KK'
  clear x0 x1 x2 x3 xl zk
  have kr := HM.out.row (b := w.heap.size + 1) (c0 := b0) (c1 := b1) (c2 := b2) (c3 := b3) (by simp)
  have x0 := kr.c0; have x1 := kr.c1; have x2 := kr.c2; have x3 := kr.c3
  clear kr
  have xl := HM.out.lt (b := w.heap.size + 1) (c0 := b0) (c1 := b1) (c2 := b2) (c3 := b3) (by simp)
  go_wp2_with fail
  refine (has_calls F hf.ok w1.heap.size b0 b1 b2 b3 hb _ KK.out).mono ?_
  rintro e w3 ⟨he, hbl⟩
  rw [show isB (val4 b0 b1 b2 b3) F.M = true from decide_eq_true lb] at he
  subst he
  have HM' := Lib.hid (HM.out.on hbl)
  have KK' := Lib.hid (KK.out.same hbl)
  have zk := KK'.out.lt
  clear HM KK hbl
  have HM := HM'
  have KK := KK'
  clear HM' KK'
  clear x0 x1 x2 x3 xl zk
  have kr := HM.out.row (b := w.heap.size) (c0 := a0) (c1 := a1) (c2 := a2) (c3 := a3) (by simp)
  have x0 := kr.c0; have x1 := kr.c1; have x2 := kr.c2; have x3 := kr.c3
  clear kr
  have xl := HM.out.lt (b := w.heap.size) (c0 := a0) (c1 := a1) (c2 := a2) (c3 := a3) (by simp)
  have kr := HM.out.row (b := w.heap.size + 1) (c0 := b0) (c1 := b1) (c2 := b2) (c3 := b3) (by simp)
  have u0 := kr.c0; have u1 := kr.c1; have u2 := kr.c2; have u3 := kr.c3
  clear kr
  have ul := HM.out.lt (b := w.heap.size + 1) (c0 := b0) (c1 := b1) (c2 := b2) (c3 := b3) (by simp)
  go_wp2_with fail
  refine (plus_calls F hf.ok w1.heap.size a0 a1 a2 a3 b0 b1 b2 b3 ha hb la lb _ KK.out).mono ?_
  rintro e w4 ⟨s0, s1, s2, s3, rfl, hs, hv, hbl⟩
  have HV := Lib.hid hv
  clear hv
  have HM' := Lib.hid (HM.out.on hbl)
  have KK' := Lib.hid (KK.out.same hbl)
  have zk := KK'.out.lt
  clear HM KK hbl
  have HM := HM'
  have KK := KK'
  clear HM' KK'
  clear x0 x1 x2 x3 xl u0 u1 u2 u3 ul zk
  have kr := HM.out.row (b := w.heap.size + 1 + 1) (c0 := 0) (c1 := 0) (c2 := 0) (c3 := 0) (by simp)
  have y0 := kr.c0; have y1 := kr.c1; have y2 := kr.c2; have y3 := kr.c3; have yf := kr.fr
  clear kr
  have yl := HM.out.lt (b := w.heap.size + 1 + 1) (c0 := 0) (c1 := 0) (c2 := 0) (c3 := 0) (by simp)
  go_wp2_with fail
  refine bodyPost_ret (v := .tuple #[.agg #[.int .u64 s0, .int .u64 s1, .int .u64 s2, .int .u64 s3], .int .i64 0]) (by simp [results, Tryz.results148, go_sem, *]) rfl ?_
  refine ⟨_, _, _, _, rfl, hs, HV.out, ?_⟩
  exact below_set4 HM.out.1 (by omega) _ _ _ _
set_option maxRecDepth 100000 in
set_option maxHeartbeats 2000000 in
theorem fsub_err (f c : Int) (a0 a1 a2 a3 b0 b1 b2 b3 : Nat) (ha : ok4 a0 a1 a2 a3) (hb : ok4 b0 b1 b2 b3) (h : Bad2 f (val4 a0 a1 a2 a3) (val4 b0 b1 b2 b3) c) (w : World) :
    Calls Tryz.prog 149 #[.int .i64 f, .agg #[.int .u64 a0, .int .u64 a1, .int .u64 a2, .int .u64 a3], .agg #[.int .u64 b0, .int .u64 b1, .int .u64 b2, .int .u64 b3]] w fun e w' => e = .returned (.tuple #[.agg #[.int .u64 0, .int .u64 0, .int .u64 0, .int .u64 0], .int .i64 c]) ∧ Below w.heap.size w w' := by
  rcases h with (⟨h1, h2, rfl⟩ | ⟨F, hf, la, rfl⟩) | ⟨F, hf, la, lb, rfl⟩
  · go_enter Tryz.func149, Tryz.ntmps149
    go_wp2_with fail
    refine (cons_none f h1 h2 _).mono ?_
    rintro e w1 ⟨rfl, hbl⟩
    have M1 := ((((Mem.nil w).new (w.heap.size) a0 a1 a2 a3 24 (by simp)).new (w.heap.size + 1) b0 b1 b2 b3 24 (by simp)).new (w.heap.size + 1 + 1) 0 0 0 0 24 (by simp)).on hbl
    clear hbl
    have z0 : w.heap.size < w1.heap.size := M1.lt (c0 := a0) (c1 := a1) (c2 := a2) (c3 := a3) (by simp)
    have z1 : w.heap.size + 1 < w1.heap.size := M1.lt (c0 := b0) (c1 := b1) (c2 := b2) (c3 := b3) (by simp)
    have z2 : w.heap.size + 1 + 1 < w1.heap.size := M1.lt (c0 := 0) (c1 := 0) (c2 := 0) (c3 := 0) (by simp)
    have HM := Lib.hid (M1.on ((Below.refl _ _).alloc (Nat.le_refl _) (.cells #[.int .u64 0, .int .u64 0, .int .u64 0, .int .u64 0, .int .u64 0, .int .u64 0, .int .u64 0, .int .u64 0, .int .u64 0] 137)))
    have kr := M1.row (b := w.heap.size + 1 + 1) (c0 := 0) (c1 := 0) (c2 := 0) (c3 := 0) (by simp)
    have y0 := kr.c0; have y1 := kr.c1; have y2 := kr.c2; have y3 := kr.c3; have yf := kr.fr
    clear kr
    have yl := M1.lt (b := w.heap.size + 1 + 1) (c0 := 0) (c1 := 0) (c2 := 0) (c3 := 0) (by simp)
    go_wp2_with fail
    refine (refusal_one _).mono ?_
    rintro e w2 ⟨rfl, rfl⟩
    go_wp2_with fail
    refine bodyPost_ret (v := .tuple #[.agg #[.int .u64 0, .int .u64 0, .int .u64 0, .int .u64 0], .int .i64 1]) (by simp [results, Tryz.results149, go_sem, *]) rfl ?_
    refine ⟨rfl, ?_⟩
    repeat (first | exact M1.1 | exact HM.out.1 | refine Below.alloc ?_ (by first | (simp; done) | (simp; omega)) _ | refine Below.setCell ?_ (by first | (simp; done) | (simp; omega)) _)
  · go_enter Tryz.func149, Tryz.ntmps149
    go_wp2_with fail
    refine (cons_some f F hf _).mono ?_
    rintro e w1 ⟨rfl, hbl⟩
    have M1 := ((((Mem.nil w).new (w.heap.size) a0 a1 a2 a3 24 (by simp)).new (w.heap.size + 1) b0 b1 b2 b3 24 (by simp)).new (w.heap.size + 1 + 1) 0 0 0 0 24 (by simp)).on hbl
    clear hbl
    have z0 : w.heap.size < w1.heap.size := M1.lt (c0 := a0) (c1 := a1) (c2 := a2) (c3 := a3) (by simp)
    have z1 : w.heap.size + 1 < w1.heap.size := M1.lt (c0 := b0) (c1 := b1) (c2 := b2) (c3 := b3) (by simp)
    have z2 : w.heap.size + 1 + 1 < w1.heap.size := M1.lt (c0 := 0) (c1 := 0) (c2 := 0) (c3 := 0) (by simp)
    have HM := Lib.hid (M1.on ((Below.refl _ _).alloc (Nat.le_refl _) (.cells #[.int .u64 F.m0, .int .u64 F.m1, .int .u64 F.m2, .int .u64 F.m3, .int .u64 F.inv, .int .u64 F.s0, .int .u64 F.s1, .int .u64 F.s2, .int .u64 F.s3] 137)))
    have KK := Lib.hid (KIs.new w1 F 137)
    have kr := M1.row (b := w.heap.size) (c0 := a0) (c1 := a1) (c2 := a2) (c3 := a3) (by simp)
    have x0 := kr.c0; have x1 := kr.c1; have x2 := kr.c2; have x3 := kr.c3
    clear kr
    have xl := M1.lt (b := w.heap.size) (c0 := a0) (c1 := a1) (c2 := a2) (c3 := a3) (by simp)
    go_wp2_with fail
    refine (has_calls F hf.ok w1.heap.size a0 a1 a2 a3 ha _ KK.out).mono ?_
    rintro e w2 ⟨he, hbl⟩
    rw [show isB (val4 a0 a1 a2 a3) F.M = false from decide_eq_false la] at he
    subst he
    have HM' := Lib.hid (HM.out.on hbl)
    have KK' := Lib.hid (KK.out.same hbl)
    have zk := KK'.out.lt
    clear HM KK hbl M1
    have HM := HM'
    have KK := KK'
    clear HM' KK'
    clear x0 x1 x2 x3 xl zk
    have kr := HM.out.row (b := w.heap.size + 1 + 1) (c0 := 0) (c1 := 0) (c2 := 0) (c3 := 0) (by simp)
    have y0 := kr.c0; have y1 := kr.c1; have y2 := kr.c2; have y3 := kr.c3; have yf := kr.fr
    clear kr
    have yl := HM.out.lt (b := w.heap.size + 1 + 1) (c0 := 0) (c1 := 0) (c2 := 0) (c3 := 0) (by simp)
    go_wp2_with fail
    refine (refusal_two _).mono ?_
    rintro e w3 ⟨rfl, rfl⟩
    go_wp2_with fail
    refine bodyPost_ret (v := .tuple #[.agg #[.int .u64 0, .int .u64 0, .int .u64 0, .int .u64 0], .int .i64 21]) (by simp [results, Tryz.results149, go_sem, *]) rfl ?_
    refine ⟨rfl, ?_⟩
    exact below_set4 HM.out.1 (by omega) 0 0 0 0
  · go_enter Tryz.func149, Tryz.ntmps149
    go_wp2_with fail
    refine (cons_some f F hf _).mono ?_
    rintro e w1 ⟨rfl, hbl⟩
    have M1 := ((((Mem.nil w).new (w.heap.size) a0 a1 a2 a3 24 (by simp)).new (w.heap.size + 1) b0 b1 b2 b3 24 (by simp)).new (w.heap.size + 1 + 1) 0 0 0 0 24 (by simp)).on hbl
    clear hbl
    have z0 : w.heap.size < w1.heap.size := M1.lt (c0 := a0) (c1 := a1) (c2 := a2) (c3 := a3) (by simp)
    have z1 : w.heap.size + 1 < w1.heap.size := M1.lt (c0 := b0) (c1 := b1) (c2 := b2) (c3 := b3) (by simp)
    have z2 : w.heap.size + 1 + 1 < w1.heap.size := M1.lt (c0 := 0) (c1 := 0) (c2 := 0) (c3 := 0) (by simp)
    have HM := Lib.hid (M1.on ((Below.refl _ _).alloc (Nat.le_refl _) (.cells #[.int .u64 F.m0, .int .u64 F.m1, .int .u64 F.m2, .int .u64 F.m3, .int .u64 F.inv, .int .u64 F.s0, .int .u64 F.s1, .int .u64 F.s2, .int .u64 F.s3] 137)))
    have KK := Lib.hid (KIs.new w1 F 137)
    have kr := M1.row (b := w.heap.size) (c0 := a0) (c1 := a1) (c2 := a2) (c3 := a3) (by simp)
    have x0 := kr.c0; have x1 := kr.c1; have x2 := kr.c2; have x3 := kr.c3
    clear kr
    have xl := M1.lt (b := w.heap.size) (c0 := a0) (c1 := a1) (c2 := a2) (c3 := a3) (by simp)
    go_wp2_with fail
    refine (has_calls F hf.ok w1.heap.size a0 a1 a2 a3 ha _ KK.out).mono ?_
    rintro e w2 ⟨he, hbl⟩
    rw [show isB (val4 a0 a1 a2 a3) F.M = true from decide_eq_true la] at he
    subst he
    have HM' := Lib.hid (HM.out.on hbl)
    have KK' := Lib.hid (KK.out.same hbl)
    have zk := KK'.out.lt
    clear HM KK hbl M1
    have HM := HM'
    have KK := KK'
    clear HM' KK'
    clear x0 x1 x2 x3 xl zk
    have kr := HM.out.row (b := w.heap.size + 1) (c0 := b0) (c1 := b1) (c2 := b2) (c3 := b3) (by simp)
    have x0 := kr.c0; have x1 := kr.c1; have x2 := kr.c2; have x3 := kr.c3
    clear kr
    have xl := HM.out.lt (b := w.heap.size + 1) (c0 := b0) (c1 := b1) (c2 := b2) (c3 := b3) (by simp)
    go_wp2_with fail
    refine (has_calls F hf.ok w1.heap.size b0 b1 b2 b3 hb _ KK.out).mono ?_
    rintro e w3 ⟨he, hbl⟩
    rw [show isB (val4 b0 b1 b2 b3) F.M = false from decide_eq_false lb] at he
    subst he
    have HM' := Lib.hid (HM.out.on hbl)
    have KK' := Lib.hid (KK.out.same hbl)
    have zk := KK'.out.lt
    clear HM KK hbl
    have HM := HM'
    have KK := KK'
    clear HM' KK'
    clear x0 x1 x2 x3 xl zk
    have kr := HM.out.row (b := w.heap.size + 1 + 1) (c0 := 0) (c1 := 0) (c2 := 0) (c3 := 0) (by simp)
    have y0 := kr.c0; have y1 := kr.c1; have y2 := kr.c2; have y3 := kr.c3; have yf := kr.fr
    clear kr
    have yl := HM.out.lt (b := w.heap.size + 1 + 1) (c0 := 0) (c1 := 0) (c2 := 0) (c3 := 0) (by simp)
    go_wp2_with fail
    refine (refusal_two _).mono ?_
    rintro e w4 ⟨rfl, rfl⟩
    go_wp2_with fail
    refine bodyPost_ret (v := .tuple #[.agg #[.int .u64 0, .int .u64 0, .int .u64 0, .int .u64 0], .int .i64 21]) (by simp [results, Tryz.results149, go_sem, *]) rfl ?_
    refine ⟨rfl, ?_⟩
    exact below_set4 HM.out.1 (by omega) 0 0 0 0
set_option maxRecDepth 100000 in
set_option maxHeartbeats 2000000 in
theorem fsub_ok (f : Int) (F : FC) (hf : FieldIs f F) (a0 a1 a2 a3 b0 b1 b2 b3 : Nat) (ha : ok4 a0 a1 a2 a3) (hb : ok4 b0 b1 b2 b3) (la : val4 a0 a1 a2 a3 < F.M) (lb : val4 b0 b1 b2 b3 < F.M) (w : World) :
    Calls Tryz.prog 149 #[.int .i64 f, .agg #[.int .u64 a0, .int .u64 a1, .int .u64 a2, .int .u64 a3], .agg #[.int .u64 b0, .int .u64 b1, .int .u64 b2, .int .u64 b3]] w (FeE 0 ((val4 a0 a1 a2 a3 + F.M - val4 b0 b1 b2 b3) % F.M) w) := by
  go_enter Tryz.func149, Tryz.ntmps149
  go_wp2_with fail
  refine (cons_some f F hf _).mono ?_
  rintro e w1 ⟨rfl, hbl⟩
  have M1 := ((((Mem.nil w).new (w.heap.size) a0 a1 a2 a3 24 (by simp)).new (w.heap.size + 1) b0 b1 b2 b3 24 (by simp)).new (w.heap.size + 1 + 1) 0 0 0 0 24 (by simp)).on hbl
  clear hbl
  have z0 : w.heap.size < w1.heap.size := M1.lt (c0 := a0) (c1 := a1) (c2 := a2) (c3 := a3) (by simp)
  have z1 : w.heap.size + 1 < w1.heap.size := M1.lt (c0 := b0) (c1 := b1) (c2 := b2) (c3 := b3) (by simp)
  have z2 : w.heap.size + 1 + 1 < w1.heap.size := M1.lt (c0 := 0) (c1 := 0) (c2 := 0) (c3 := 0) (by simp)
  have HM := Lib.hid (M1.on ((Below.refl _ _).alloc (Nat.le_refl _) (.cells #[.int .u64 F.m0, .int .u64 F.m1, .int .u64 F.m2, .int .u64 F.m3, .int .u64 F.inv, .int .u64 F.s0, .int .u64 F.s1, .int .u64 F.s2, .int .u64 F.s3] 137)))
  have KK := Lib.hid (KIs.new w1 F 137)
  have kr := M1.row (b := w.heap.size) (c0 := a0) (c1 := a1) (c2 := a2) (c3 := a3) (by simp)
  have x0 := kr.c0; have x1 := kr.c1; have x2 := kr.c2; have x3 := kr.c3
  clear kr
  have xl := M1.lt (b := w.heap.size) (c0 := a0) (c1 := a1) (c2 := a2) (c3 := a3) (by simp)
  go_wp2_with fail
  refine (has_calls F hf.ok w1.heap.size a0 a1 a2 a3 ha _ KK.out).mono ?_
  rintro e w2 ⟨he, hbl⟩
  rw [show isB (val4 a0 a1 a2 a3) F.M = true from decide_eq_true la] at he
  subst he
  have HM' := Lib.hid (HM.out.on hbl)
  have KK' := Lib.hid (KK.out.same hbl)
  have zk := KK'.out.lt
  clear HM KK hbl M1
  have HM := HM'
  have KK := KK'
  clear HM' KK'
  clear x0 x1 x2 x3 xl zk
  have kr := HM.out.row (b := w.heap.size + 1) (c0 := b0) (c1 := b1) (c2 := b2) (c3 := b3) (by simp)
  have x0 := kr.c0; have x1 := kr.c1; have x2 := kr.c2; have x3 := kr.c3
  clear kr
  have xl := HM.out.lt (b := w.heap.size + 1) (c0 := b0) (c1 := b1) (c2 := b2) (c3 := b3) (by simp)
  go_wp2_with fail
  refine (has_calls F hf.ok w1.heap.size b0 b1 b2 b3 hb _ KK.out).mono ?_
  rintro e w3 ⟨he, hbl⟩
  rw [show isB (val4 b0 b1 b2 b3) F.M = true from decide_eq_true lb] at he
  subst he
  have HM' := Lib.hid (HM.out.on hbl)
  have KK' := Lib.hid (KK.out.same hbl)
  have zk := KK'.out.lt
  clear HM KK hbl
  have HM := HM'
  have KK := KK'
  clear HM' KK'
  clear x0 x1 x2 x3 xl zk
  have kr := HM.out.row (b := w.heap.size) (c0 := a0) (c1 := a1) (c2 := a2) (c3 := a3) (by simp)
  have x0 := kr.c0; have x1 := kr.c1; have x2 := kr.c2; have x3 := kr.c3
  clear kr
  have xl := HM.out.lt (b := w.heap.size) (c0 := a0) (c1 := a1) (c2 := a2) (c3 := a3) (by simp)
  have kr := HM.out.row (b := w.heap.size + 1) (c0 := b0) (c1 := b1) (c2 := b2) (c3 := b3) (by simp)
  have u0 := kr.c0; have u1 := kr.c1; have u2 := kr.c2; have u3 := kr.c3
  clear kr
  have ul := HM.out.lt (b := w.heap.size + 1) (c0 := b0) (c1 := b1) (c2 := b2) (c3 := b3) (by simp)
  go_wp2_with fail
  refine (minus_calls F hf.ok w1.heap.size a0 a1 a2 a3 b0 b1 b2 b3 ha hb la lb _ KK.out).mono ?_
  rintro e w4 ⟨s0, s1, s2, s3, rfl, hs, hv, hbl⟩
  have HV := Lib.hid hv
  clear hv
  have HM' := Lib.hid (HM.out.on hbl)
  have KK' := Lib.hid (KK.out.same hbl)
  have zk := KK'.out.lt
  clear HM KK hbl
  have HM := HM'
  have KK := KK'
  clear HM' KK'
  clear x0 x1 x2 x3 xl u0 u1 u2 u3 ul zk
  have kr := HM.out.row (b := w.heap.size + 1 + 1) (c0 := 0) (c1 := 0) (c2 := 0) (c3 := 0) (by simp)
  have y0 := kr.c0; have y1 := kr.c1; have y2 := kr.c2; have y3 := kr.c3; have yf := kr.fr
  clear kr
  have yl := HM.out.lt (b := w.heap.size + 1 + 1) (c0 := 0) (c1 := 0) (c2 := 0) (c3 := 0) (by simp)
  go_wp2_with fail
  refine bodyPost_ret (v := .tuple #[.agg #[.int .u64 s0, .int .u64 s1, .int .u64 s2, .int .u64 s3], .int .i64 0]) (by simp [results, Tryz.results149, go_sem, *]) rfl ?_
  refine ⟨_, _, _, _, rfl, hs, HV.out, ?_⟩
  exact below_set4 HM.out.1 (by omega) _ _ _ _
set_option maxRecDepth 100000 in
set_option maxHeartbeats 2000000 in
theorem fmul_err (f c : Int) (a0 a1 a2 a3 b0 b1 b2 b3 : Nat) (ha : ok4 a0 a1 a2 a3) (hb : ok4 b0 b1 b2 b3) (h : Bad2 f (val4 a0 a1 a2 a3) (val4 b0 b1 b2 b3) c) (w : World) :
    Calls Tryz.prog 147 #[.int .i64 f, .agg #[.int .u64 a0, .int .u64 a1, .int .u64 a2, .int .u64 a3], .agg #[.int .u64 b0, .int .u64 b1, .int .u64 b2, .int .u64 b3]] w fun e w' => e = .returned (.tuple #[.agg #[.int .u64 0, .int .u64 0, .int .u64 0, .int .u64 0], .int .i64 c]) ∧ Below w.heap.size w w' := by
  rcases h with (⟨h1, h2, rfl⟩ | ⟨F, hf, la, rfl⟩) | ⟨F, hf, la, lb, rfl⟩
  · go_enter Tryz.func147, Tryz.ntmps147
    go_wp2_with fail
    refine (cons_none f h1 h2 _).mono ?_
    rintro e w1 ⟨rfl, hbl⟩
    have M1 := ((((Mem.nil w).new (w.heap.size) a0 a1 a2 a3 24 (by simp)).new (w.heap.size + 1) b0 b1 b2 b3 24 (by simp)).new (w.heap.size + 1 + 1) 0 0 0 0 24 (by simp)).on hbl
    clear hbl
    have z0 : w.heap.size < w1.heap.size := M1.lt (c0 := a0) (c1 := a1) (c2 := a2) (c3 := a3) (by simp)
    have z1 : w.heap.size + 1 < w1.heap.size := M1.lt (c0 := b0) (c1 := b1) (c2 := b2) (c3 := b3) (by simp)
    have z2 : w.heap.size + 1 + 1 < w1.heap.size := M1.lt (c0 := 0) (c1 := 0) (c2 := 0) (c3 := 0) (by simp)
    have HM := Lib.hid (M1.on ((Below.refl _ _).alloc (Nat.le_refl _) (.cells #[.int .u64 0, .int .u64 0, .int .u64 0, .int .u64 0, .int .u64 0, .int .u64 0, .int .u64 0, .int .u64 0, .int .u64 0] 137)))
    have kr := M1.row (b := w.heap.size + 1 + 1) (c0 := 0) (c1 := 0) (c2 := 0) (c3 := 0) (by simp)
    have y0 := kr.c0; have y1 := kr.c1; have y2 := kr.c2; have y3 := kr.c3; have yf := kr.fr
    clear kr
    have yl := M1.lt (b := w.heap.size + 1 + 1) (c0 := 0) (c1 := 0) (c2 := 0) (c3 := 0) (by simp)
    go_wp2_with fail
    refine (refusal_one _).mono ?_
    rintro e w2 ⟨rfl, rfl⟩
    go_wp2_with fail
    refine bodyPost_ret (v := .tuple #[.agg #[.int .u64 0, .int .u64 0, .int .u64 0, .int .u64 0], .int .i64 1]) (by simp [results, Tryz.results147, go_sem, *]) rfl ?_
    refine ⟨rfl, ?_⟩
    repeat (first | exact M1.1 | exact HM.out.1 | refine Below.alloc ?_ (by first | (simp; done) | (simp; omega)) _ | refine Below.setCell ?_ (by first | (simp; done) | (simp; omega)) _)
  · go_enter Tryz.func147, Tryz.ntmps147
    go_wp2_with fail
    refine (cons_some f F hf _).mono ?_
    rintro e w1 ⟨rfl, hbl⟩
    have M1 := ((((Mem.nil w).new (w.heap.size) a0 a1 a2 a3 24 (by simp)).new (w.heap.size + 1) b0 b1 b2 b3 24 (by simp)).new (w.heap.size + 1 + 1) 0 0 0 0 24 (by simp)).on hbl
    clear hbl
    have z0 : w.heap.size < w1.heap.size := M1.lt (c0 := a0) (c1 := a1) (c2 := a2) (c3 := a3) (by simp)
    have z1 : w.heap.size + 1 < w1.heap.size := M1.lt (c0 := b0) (c1 := b1) (c2 := b2) (c3 := b3) (by simp)
    have z2 : w.heap.size + 1 + 1 < w1.heap.size := M1.lt (c0 := 0) (c1 := 0) (c2 := 0) (c3 := 0) (by simp)
    have HM := Lib.hid (M1.on ((Below.refl _ _).alloc (Nat.le_refl _) (.cells #[.int .u64 F.m0, .int .u64 F.m1, .int .u64 F.m2, .int .u64 F.m3, .int .u64 F.inv, .int .u64 F.s0, .int .u64 F.s1, .int .u64 F.s2, .int .u64 F.s3] 137)))
    have KK := Lib.hid (KIs.new w1 F 137)
    have kr := M1.row (b := w.heap.size) (c0 := a0) (c1 := a1) (c2 := a2) (c3 := a3) (by simp)
    have x0 := kr.c0; have x1 := kr.c1; have x2 := kr.c2; have x3 := kr.c3
    clear kr
    have xl := M1.lt (b := w.heap.size) (c0 := a0) (c1 := a1) (c2 := a2) (c3 := a3) (by simp)
    go_wp2_with fail
    refine (has_calls F hf.ok w1.heap.size a0 a1 a2 a3 ha _ KK.out).mono ?_
    rintro e w2 ⟨he, hbl⟩
    rw [show isB (val4 a0 a1 a2 a3) F.M = false from decide_eq_false la] at he
    subst he
    have HM' := Lib.hid (HM.out.on hbl)
    have KK' := Lib.hid (KK.out.same hbl)
    have zk := KK'.out.lt
    clear HM KK hbl M1
    have HM := HM'
    have KK := KK'
    clear HM' KK'
    clear x0 x1 x2 x3 xl zk
    have kr := HM.out.row (b := w.heap.size + 1 + 1) (c0 := 0) (c1 := 0) (c2 := 0) (c3 := 0) (by simp)
    have y0 := kr.c0; have y1 := kr.c1; have y2 := kr.c2; have y3 := kr.c3; have yf := kr.fr
    clear kr
    have yl := HM.out.lt (b := w.heap.size + 1 + 1) (c0 := 0) (c1 := 0) (c2 := 0) (c3 := 0) (by simp)
    go_wp2_with fail
    refine (refusal_two _).mono ?_
    rintro e w3 ⟨rfl, rfl⟩
    go_wp2_with fail
    refine bodyPost_ret (v := .tuple #[.agg #[.int .u64 0, .int .u64 0, .int .u64 0, .int .u64 0], .int .i64 21]) (by simp [results, Tryz.results147, go_sem, *]) rfl ?_
    refine ⟨rfl, ?_⟩
    exact below_set4 HM.out.1 (by omega) 0 0 0 0
  · go_enter Tryz.func147, Tryz.ntmps147
    go_wp2_with fail
    refine (cons_some f F hf _).mono ?_
    rintro e w1 ⟨rfl, hbl⟩
    have M1 := ((((Mem.nil w).new (w.heap.size) a0 a1 a2 a3 24 (by simp)).new (w.heap.size + 1) b0 b1 b2 b3 24 (by simp)).new (w.heap.size + 1 + 1) 0 0 0 0 24 (by simp)).on hbl
    clear hbl
    have z0 : w.heap.size < w1.heap.size := M1.lt (c0 := a0) (c1 := a1) (c2 := a2) (c3 := a3) (by simp)
    have z1 : w.heap.size + 1 < w1.heap.size := M1.lt (c0 := b0) (c1 := b1) (c2 := b2) (c3 := b3) (by simp)
    have z2 : w.heap.size + 1 + 1 < w1.heap.size := M1.lt (c0 := 0) (c1 := 0) (c2 := 0) (c3 := 0) (by simp)
    have HM := Lib.hid (M1.on ((Below.refl _ _).alloc (Nat.le_refl _) (.cells #[.int .u64 F.m0, .int .u64 F.m1, .int .u64 F.m2, .int .u64 F.m3, .int .u64 F.inv, .int .u64 F.s0, .int .u64 F.s1, .int .u64 F.s2, .int .u64 F.s3] 137)))
    have KK := Lib.hid (KIs.new w1 F 137)
    have kr := M1.row (b := w.heap.size) (c0 := a0) (c1 := a1) (c2 := a2) (c3 := a3) (by simp)
    have x0 := kr.c0; have x1 := kr.c1; have x2 := kr.c2; have x3 := kr.c3
    clear kr
    have xl := M1.lt (b := w.heap.size) (c0 := a0) (c1 := a1) (c2 := a2) (c3 := a3) (by simp)
    go_wp2_with fail
    refine (has_calls F hf.ok w1.heap.size a0 a1 a2 a3 ha _ KK.out).mono ?_
    rintro e w2 ⟨he, hbl⟩
    rw [show isB (val4 a0 a1 a2 a3) F.M = true from decide_eq_true la] at he
    subst he
    have HM' := Lib.hid (HM.out.on hbl)
    have KK' := Lib.hid (KK.out.same hbl)
    have zk := KK'.out.lt
    clear HM KK hbl M1
    have HM := HM'
    have KK := KK'
    clear HM' KK'
    clear x0 x1 x2 x3 xl zk
    have kr := HM.out.row (b := w.heap.size + 1) (c0 := b0) (c1 := b1) (c2 := b2) (c3 := b3) (by simp)
    have x0 := kr.c0; have x1 := kr.c1; have x2 := kr.c2; have x3 := kr.c3
    clear kr
    have xl := HM.out.lt (b := w.heap.size + 1) (c0 := b0) (c1 := b1) (c2 := b2) (c3 := b3) (by simp)
    go_wp2_with fail
    refine (has_calls F hf.ok w1.heap.size b0 b1 b2 b3 hb _ KK.out).mono ?_
    rintro e w3 ⟨he, hbl⟩
    rw [show isB (val4 b0 b1 b2 b3) F.M = false from decide_eq_false lb] at he
    subst he
    have HM' := Lib.hid (HM.out.on hbl)
    have KK' := Lib.hid (KK.out.same hbl)
    have zk := KK'.out.lt
    clear HM KK hbl
    have HM := HM'
    have KK := KK'
    clear HM' KK'
    clear x0 x1 x2 x3 xl zk
    have kr := HM.out.row (b := w.heap.size + 1 + 1) (c0 := 0) (c1 := 0) (c2 := 0) (c3 := 0) (by simp)
    have y0 := kr.c0; have y1 := kr.c1; have y2 := kr.c2; have y3 := kr.c3; have yf := kr.fr
    clear kr
    have yl := HM.out.lt (b := w.heap.size + 1 + 1) (c0 := 0) (c1 := 0) (c2 := 0) (c3 := 0) (by simp)
    go_wp2_with fail
    refine (refusal_two _).mono ?_
    rintro e w4 ⟨rfl, rfl⟩
    go_wp2_with fail
    refine bodyPost_ret (v := .tuple #[.agg #[.int .u64 0, .int .u64 0, .int .u64 0, .int .u64 0], .int .i64 21]) (by simp [results, Tryz.results147, go_sem, *]) rfl ?_
    refine ⟨rfl, ?_⟩
    exact below_set4 HM.out.1 (by omega) 0 0 0 0
set_option maxRecDepth 100000 in
set_option maxHeartbeats 2000000 in
theorem fmul_ok (f : Int) (F : FC) (hf : FieldIs f F) (a0 a1 a2 a3 b0 b1 b2 b3 : Nat) (ha : ok4 a0 a1 a2 a3) (hb : ok4 b0 b1 b2 b3) (la : val4 a0 a1 a2 a3 < F.M) (lb : val4 b0 b1 b2 b3 < F.M) (w : World) :
    Calls Tryz.prog 147 #[.int .i64 f, .agg #[.int .u64 a0, .int .u64 a1, .int .u64 a2, .int .u64 a3], .agg #[.int .u64 b0, .int .u64 b1, .int .u64 b2, .int .u64 b3]] w (FeE 0 (val4 a0 a1 a2 a3 * val4 b0 b1 b2 b3 % F.M) w) := by
  go_enter Tryz.func147, Tryz.ntmps147
  go_wp2_with fail
  refine (cons_some f F hf _).mono ?_
  rintro e w1 ⟨rfl, hbl⟩
  have M1 := ((((Mem.nil w).new (w.heap.size) a0 a1 a2 a3 24 (by simp)).new (w.heap.size + 1) b0 b1 b2 b3 24 (by simp)).new (w.heap.size + 1 + 1) 0 0 0 0 24 (by simp)).on hbl
  clear hbl
  have z0 : w.heap.size < w1.heap.size := M1.lt (c0 := a0) (c1 := a1) (c2 := a2) (c3 := a3) (by simp)
  have z1 : w.heap.size + 1 < w1.heap.size := M1.lt (c0 := b0) (c1 := b1) (c2 := b2) (c3 := b3) (by simp)
  have z2 : w.heap.size + 1 + 1 < w1.heap.size := M1.lt (c0 := 0) (c1 := 0) (c2 := 0) (c3 := 0) (by simp)
  have HM := Lib.hid (M1.on ((Below.refl _ _).alloc (Nat.le_refl _) (.cells #[.int .u64 F.m0, .int .u64 F.m1, .int .u64 F.m2, .int .u64 F.m3, .int .u64 F.inv, .int .u64 F.s0, .int .u64 F.s1, .int .u64 F.s2, .int .u64 F.s3] 137)))
  have KK := Lib.hid (KIs.new w1 F 137)
  have kr := M1.row (b := w.heap.size) (c0 := a0) (c1 := a1) (c2 := a2) (c3 := a3) (by simp)
  have x0 := kr.c0; have x1 := kr.c1; have x2 := kr.c2; have x3 := kr.c3
  clear kr
  have xl := M1.lt (b := w.heap.size) (c0 := a0) (c1 := a1) (c2 := a2) (c3 := a3) (by simp)
  go_wp2_with fail
  refine (has_calls F hf.ok w1.heap.size a0 a1 a2 a3 ha _ KK.out).mono ?_
  rintro e w2 ⟨he, hbl⟩
  rw [show isB (val4 a0 a1 a2 a3) F.M = true from decide_eq_true la] at he
  subst he
  have HM' := Lib.hid (HM.out.on hbl)
  have KK' := Lib.hid (KK.out.same hbl)
  have zk := KK'.out.lt
  clear HM KK hbl M1
  have HM := HM'
  have KK := KK'
  clear HM' KK'
  clear x0 x1 x2 x3 xl zk
  have kr := HM.out.row (b := w.heap.size + 1) (c0 := b0) (c1 := b1) (c2 := b2) (c3 := b3) (by simp)
  have x0 := kr.c0; have x1 := kr.c1; have x2 := kr.c2; have x3 := kr.c3
  clear kr
  have xl := HM.out.lt (b := w.heap.size + 1) (c0 := b0) (c1 := b1) (c2 := b2) (c3 := b3) (by simp)
  go_wp2_with fail
  refine (has_calls F hf.ok w1.heap.size b0 b1 b2 b3 hb _ KK.out).mono ?_
  rintro e w3 ⟨he, hbl⟩
  rw [show isB (val4 b0 b1 b2 b3) F.M = true from decide_eq_true lb] at he
  subst he
  have HM' := Lib.hid (HM.out.on hbl)
  have KK' := Lib.hid (KK.out.same hbl)
  have zk := KK'.out.lt
  clear HM KK hbl
  have HM := HM'
  have KK := KK'
  clear HM' KK'
  clear x0 x1 x2 x3 xl zk
  have kr := HM.out.row (b := w.heap.size) (c0 := a0) (c1 := a1) (c2 := a2) (c3 := a3) (by simp)
  have x0 := kr.c0; have x1 := kr.c1; have x2 := kr.c2; have x3 := kr.c3
  clear kr
  have xl := HM.out.lt (b := w.heap.size) (c0 := a0) (c1 := a1) (c2 := a2) (c3 := a3) (by simp)
  have kr := HM.out.row (b := w.heap.size + 1) (c0 := b0) (c1 := b1) (c2 := b2) (c3 := b3) (by simp)
  have u0 := kr.c0; have u1 := kr.c1; have u2 := kr.c2; have u3 := kr.c3
  clear kr
  have ul := HM.out.lt (b := w.heap.size + 1) (c0 := b0) (c1 := b1) (c2 := b2) (c3 := b3) (by simp)
  go_wp2_with fail
  refine (product_calls F hf.ok w1.heap.size a0 a1 a2 a3 b0 b1 b2 b3 ha hb lb _ KK.out).mono ?_
  rintro e w4 ⟨s0, s1, s2, s3, rfl, hs, hv, hbl⟩
  have HV := Lib.hid hv
  clear hv
  have HM' := Lib.hid (HM.out.on hbl)
  have KK' := Lib.hid (KK.out.same hbl)
  have zk := KK'.out.lt
  clear HM KK hbl
  have HM := HM'
  have KK := KK'
  clear HM' KK'
  clear x0 x1 x2 x3 xl u0 u1 u2 u3 ul zk
  have kr := HM.out.row (b := w.heap.size + 1 + 1) (c0 := 0) (c1 := 0) (c2 := 0) (c3 := 0) (by simp)
  have y0 := kr.c0; have y1 := kr.c1; have y2 := kr.c2; have y3 := kr.c3; have yf := kr.fr
  clear kr
  have yl := HM.out.lt (b := w.heap.size + 1 + 1) (c0 := 0) (c1 := 0) (c2 := 0) (c3 := 0) (by simp)
  go_wp2_with fail
  refine bodyPost_ret (v := .tuple #[.agg #[.int .u64 s0, .int .u64 s1, .int .u64 s2, .int .u64 s3], .int .i64 0]) (by simp [results, Tryz.results147, go_sem, *]) rfl ?_
  refine ⟨_, _, _, _, rfl, hs, HV.out, ?_⟩
  exact below_set4 HM.out.1 (by omega) _ _ _ _
set_option maxRecDepth 100000 in
set_option maxHeartbeats 2000000 in
theorem fneg_err (f c : Int) (a0 a1 a2 a3 : Nat) (ha : ok4 a0 a1 a2 a3) (h : Bad1 f (val4 a0 a1 a2 a3) c) (w : World) :
    Calls Tryz.prog 146 #[.int .i64 f, .agg #[.int .u64 a0, .int .u64 a1, .int .u64 a2, .int .u64 a3]] w fun e w' => e = .returned (.tuple #[.agg #[.int .u64 0, .int .u64 0, .int .u64 0, .int .u64 0], .int .i64 c]) ∧ Below w.heap.size w w' := by
  rcases h with ⟨h1, h2, rfl⟩ | ⟨F, hf, la, rfl⟩
  · go_enter Tryz.func146, Tryz.ntmps146
    go_wp2_with fail
    refine (cons_none f h1 h2 _).mono ?_
    rintro e w1 ⟨rfl, hbl⟩
    have M1 := (((Mem.nil w).new (w.heap.size) a0 a1 a2 a3 24 (by simp)).new (w.heap.size + 1) 0 0 0 0 24 (by simp)).on hbl
    clear hbl
    have z0 : w.heap.size < w1.heap.size := M1.lt (c0 := a0) (c1 := a1) (c2 := a2) (c3 := a3) (by simp)
    have z1 : w.heap.size + 1 < w1.heap.size := M1.lt (c0 := 0) (c1 := 0) (c2 := 0) (c3 := 0) (by simp)
    have HM := Lib.hid (M1.on ((Below.refl _ _).alloc (Nat.le_refl _) (.cells #[.int .u64 0, .int .u64 0, .int .u64 0, .int .u64 0, .int .u64 0, .int .u64 0, .int .u64 0, .int .u64 0, .int .u64 0] 137)))
    have kr := M1.row (b := w.heap.size + 1) (c0 := 0) (c1 := 0) (c2 := 0) (c3 := 0) (by simp)
    have y0 := kr.c0; have y1 := kr.c1; have y2 := kr.c2; have y3 := kr.c3; have yf := kr.fr
    clear kr
    have yl := M1.lt (b := w.heap.size + 1) (c0 := 0) (c1 := 0) (c2 := 0) (c3 := 0) (by simp)
    go_wp2_with fail
    refine (refusal_one _).mono ?_
    rintro e w2 ⟨rfl, rfl⟩
    go_wp2_with fail
    refine bodyPost_ret (v := .tuple #[.agg #[.int .u64 0, .int .u64 0, .int .u64 0, .int .u64 0], .int .i64 1]) (by simp [results, Tryz.results146, go_sem, *]) rfl ?_
    refine ⟨rfl, ?_⟩
    repeat (first | exact M1.1 | exact HM.out.1 | refine Below.alloc ?_ (by first | (simp; done) | (simp; omega)) _ | refine Below.setCell ?_ (by first | (simp; done) | (simp; omega)) _)
  · go_enter Tryz.func146, Tryz.ntmps146
    go_wp2_with fail
    refine (cons_some f F hf _).mono ?_
    rintro e w1 ⟨rfl, hbl⟩
    have M1 := (((Mem.nil w).new (w.heap.size) a0 a1 a2 a3 24 (by simp)).new (w.heap.size + 1) 0 0 0 0 24 (by simp)).on hbl
    clear hbl
    have z0 : w.heap.size < w1.heap.size := M1.lt (c0 := a0) (c1 := a1) (c2 := a2) (c3 := a3) (by simp)
    have z1 : w.heap.size + 1 < w1.heap.size := M1.lt (c0 := 0) (c1 := 0) (c2 := 0) (c3 := 0) (by simp)
    have HM := Lib.hid (M1.on ((Below.refl _ _).alloc (Nat.le_refl _) (.cells #[.int .u64 F.m0, .int .u64 F.m1, .int .u64 F.m2, .int .u64 F.m3, .int .u64 F.inv, .int .u64 F.s0, .int .u64 F.s1, .int .u64 F.s2, .int .u64 F.s3] 137)))
    have KK := Lib.hid (KIs.new w1 F 137)
    have kr := M1.row (b := w.heap.size) (c0 := a0) (c1 := a1) (c2 := a2) (c3 := a3) (by simp)
    have x0 := kr.c0; have x1 := kr.c1; have x2 := kr.c2; have x3 := kr.c3
    clear kr
    have xl := M1.lt (b := w.heap.size) (c0 := a0) (c1 := a1) (c2 := a2) (c3 := a3) (by simp)
    go_wp2_with fail
    refine (has_calls F hf.ok w1.heap.size a0 a1 a2 a3 ha _ KK.out).mono ?_
    rintro e w2 ⟨he, hbl⟩
    rw [show isB (val4 a0 a1 a2 a3) F.M = false from decide_eq_false la] at he
    subst he
    have HM' := Lib.hid (HM.out.on hbl)
    have KK' := Lib.hid (KK.out.same hbl)
    have zk := KK'.out.lt
    clear HM KK hbl M1
    have HM := HM'
    have KK := KK'
    clear HM' KK'
    clear x0 x1 x2 x3 xl zk
    have kr := HM.out.row (b := w.heap.size + 1) (c0 := 0) (c1 := 0) (c2 := 0) (c3 := 0) (by simp)
    have y0 := kr.c0; have y1 := kr.c1; have y2 := kr.c2; have y3 := kr.c3; have yf := kr.fr
    clear kr
    have yl := HM.out.lt (b := w.heap.size + 1) (c0 := 0) (c1 := 0) (c2 := 0) (c3 := 0) (by simp)
    go_wp2_with fail
    refine (refusal_two _).mono ?_
    rintro e w3 ⟨rfl, rfl⟩
    go_wp2_with fail
    refine bodyPost_ret (v := .tuple #[.agg #[.int .u64 0, .int .u64 0, .int .u64 0, .int .u64 0], .int .i64 21]) (by simp [results, Tryz.results146, go_sem, *]) rfl ?_
    refine ⟨rfl, ?_⟩
    exact below_set4 HM.out.1 (by omega) 0 0 0 0
set_option maxRecDepth 100000 in
set_option maxHeartbeats 2000000 in
theorem fneg_ok (f : Int) (F : FC) (hf : FieldIs f F) (a0 a1 a2 a3 : Nat) (ha : ok4 a0 a1 a2 a3) (la : val4 a0 a1 a2 a3 < F.M) (w : World) :
    Calls Tryz.prog 146 #[.int .i64 f, .agg #[.int .u64 a0, .int .u64 a1, .int .u64 a2, .int .u64 a3]] w (FeE 0 ((0 + F.M - val4 a0 a1 a2 a3) % F.M) w) := by
  go_enter Tryz.func146, Tryz.ntmps146
  go_wp2_with fail
  refine (cons_some f F hf _).mono ?_
  rintro e w1 ⟨rfl, hbl⟩
  have M1 := (((Mem.nil w).new (w.heap.size) a0 a1 a2 a3 24 (by simp)).new (w.heap.size + 1) 0 0 0 0 24 (by simp)).on hbl
  clear hbl
  have z0 : w.heap.size < w1.heap.size := M1.lt (c0 := a0) (c1 := a1) (c2 := a2) (c3 := a3) (by simp)
  have z1 : w.heap.size + 1 < w1.heap.size := M1.lt (c0 := 0) (c1 := 0) (c2 := 0) (c3 := 0) (by simp)
  have HM := Lib.hid (M1.on ((Below.refl _ _).alloc (Nat.le_refl _) (.cells #[.int .u64 F.m0, .int .u64 F.m1, .int .u64 F.m2, .int .u64 F.m3, .int .u64 F.inv, .int .u64 F.s0, .int .u64 F.s1, .int .u64 F.s2, .int .u64 F.s3] 137)))
  have KK := Lib.hid (KIs.new w1 F 137)
  have kr := M1.row (b := w.heap.size) (c0 := a0) (c1 := a1) (c2 := a2) (c3 := a3) (by simp)
  have x0 := kr.c0; have x1 := kr.c1; have x2 := kr.c2; have x3 := kr.c3
  clear kr
  have xl := M1.lt (b := w.heap.size) (c0 := a0) (c1 := a1) (c2 := a2) (c3 := a3) (by simp)
  go_wp2_with fail
  refine (has_calls F hf.ok w1.heap.size a0 a1 a2 a3 ha _ KK.out).mono ?_
  rintro e w2 ⟨he, hbl⟩
  rw [show isB (val4 a0 a1 a2 a3) F.M = true from decide_eq_true la] at he
  subst he
  have HM' := Lib.hid (HM.out.on hbl)
  have KK' := Lib.hid (KK.out.same hbl)
  have zk := KK'.out.lt
  clear HM KK hbl M1
  have HM := HM'
  have KK := KK'
  clear HM' KK'
  clear x0 x1 x2 x3 xl zk
  have kr := HM.out.row (b := w.heap.size) (c0 := a0) (c1 := a1) (c2 := a2) (c3 := a3) (by simp)
  have x0 := kr.c0; have x1 := kr.c1; have x2 := kr.c2; have x3 := kr.c3
  clear kr
  have xl := HM.out.lt (b := w.heap.size) (c0 := a0) (c1 := a1) (c2 := a2) (c3 := a3) (by simp)
  go_wp2_with fail
  refine (minus_calls F hf.ok w1.heap.size 0 0 0 0 a0 a1 a2 a3 zok ha hf.ok.pos la _ KK.out).mono ?_
  rintro e w4 ⟨s0, s1, s2, s3, rfl, hs, hv, hbl⟩
  have HV := Lib.hid hv
  clear hv
  have HM' := Lib.hid (HM.out.on hbl)
  have KK' := Lib.hid (KK.out.same hbl)
  have zk := KK'.out.lt
  clear HM KK hbl
  have HM := HM'
  have KK := KK'
  clear HM' KK'
  clear x0 x1 x2 x3 xl zk
  have kr := HM.out.row (b := w.heap.size + 1) (c0 := 0) (c1 := 0) (c2 := 0) (c3 := 0) (by simp)
  have y0 := kr.c0; have y1 := kr.c1; have y2 := kr.c2; have y3 := kr.c3; have yf := kr.fr
  clear kr
  have yl := HM.out.lt (b := w.heap.size + 1) (c0 := 0) (c1 := 0) (c2 := 0) (c3 := 0) (by simp)
  go_wp2_with fail
  refine bodyPost_ret (v := .tuple #[.agg #[.int .u64 s0, .int .u64 s1, .int .u64 s2, .int .u64 s3], .int .i64 0]) (by simp [results, Tryz.results146, go_sem, *]) rfl ?_
  refine ⟨_, _, _, _, rfl, hs, HV.out, ?_⟩
  exact below_set4 HM.out.1 (by omega) _ _ _ _
set_option maxRecDepth 100000 in
set_option maxHeartbeats 2000000 in
theorem fcheck_err (f c : Int) (a0 a1 a2 a3 : Nat) (ha : ok4 a0 a1 a2 a3) (h : Bad1 f (val4 a0 a1 a2 a3) c) (w : World) :
    Calls Tryz.prog 128 #[.int .i64 f, .agg #[.int .u64 a0, .int .u64 a1, .int .u64 a2, .int .u64 a3]] w fun e w' => e = .returned (.int .i64 c) ∧ Below w.heap.size w w' := by
  rcases h with ⟨h1, h2, rfl⟩ | ⟨F, hf, la, rfl⟩
  · go_enter Tryz.func128, Tryz.ntmps128
    go_wp2_with fail
    refine (cons_none f h1 h2 _).mono ?_
    rintro e w1 ⟨rfl, hbl⟩
    have M1 := ((Mem.nil w).new (w.heap.size) a0 a1 a2 a3 24 (by simp)).on hbl
    clear hbl
    have z0 : w.heap.size < w1.heap.size := M1.lt (c0 := a0) (c1 := a1) (c2 := a2) (c3 := a3) (by simp)
    have HM := Lib.hid (M1.on ((Below.refl _ _).alloc (Nat.le_refl _) (.cells #[.int .u64 0, .int .u64 0, .int .u64 0, .int .u64 0, .int .u64 0, .int .u64 0, .int .u64 0, .int .u64 0, .int .u64 0] 137)))
    go_wp2_with fail
    refine (refusal_one _).mono ?_
    rintro e w2 ⟨rfl, rfl⟩
    go_wp2_with fail
    refine bodyPost_ret (v := .int .i64 1) (by simp [results, Tryz.results128, go_sem, *]) rfl ?_
    exact ⟨rfl, HM.out.1⟩
  · go_enter Tryz.func128, Tryz.ntmps128
    go_wp2_with fail
    refine (cons_some f F hf _).mono ?_
    rintro e w1 ⟨rfl, hbl⟩
    have M1 := ((Mem.nil w).new (w.heap.size) a0 a1 a2 a3 24 (by simp)).on hbl
    clear hbl
    have z0 : w.heap.size < w1.heap.size := M1.lt (c0 := a0) (c1 := a1) (c2 := a2) (c3 := a3) (by simp)
    have HM := Lib.hid (M1.on ((Below.refl _ _).alloc (Nat.le_refl _) (.cells #[.int .u64 F.m0, .int .u64 F.m1, .int .u64 F.m2, .int .u64 F.m3, .int .u64 F.inv, .int .u64 F.s0, .int .u64 F.s1, .int .u64 F.s2, .int .u64 F.s3] 137)))
    have KK := Lib.hid (KIs.new w1 F 137)
    have kr := M1.row (b := w.heap.size) (c0 := a0) (c1 := a1) (c2 := a2) (c3 := a3) (by simp)
    have x0 := kr.c0; have x1 := kr.c1; have x2 := kr.c2; have x3 := kr.c3
    clear kr
    have xl := M1.lt (b := w.heap.size) (c0 := a0) (c1 := a1) (c2 := a2) (c3 := a3) (by simp)
    go_wp2_with fail
    refine (has_calls F hf.ok w1.heap.size a0 a1 a2 a3 ha _ KK.out).mono ?_
    rintro e w2 ⟨he, hbl⟩
    rw [show isB (val4 a0 a1 a2 a3) F.M = false from decide_eq_false la] at he
    subst he
    have HM' := Lib.hid (HM.out.on hbl)
    have KK' := Lib.hid (KK.out.same hbl)
    have zk := KK'.out.lt
    clear HM KK hbl M1
    have HM := HM'
    have KK := KK'
    clear HM' KK'
    clear x0 x1 x2 x3 xl zk
    go_wp2_with fail
    refine (refusal_two _).mono ?_
    rintro e w3 ⟨rfl, rfl⟩
    go_wp2_with fail
    refine bodyPost_ret (v := .int .i64 21) (by simp [results, Tryz.results128, go_sem, *]) rfl ?_
    exact ⟨rfl, HM.out.1⟩
set_option maxRecDepth 100000 in
set_option maxHeartbeats 2000000 in
theorem fcheck_ok (f : Int) (F : FC) (hf : FieldIs f F) (a0 a1 a2 a3 : Nat) (ha : ok4 a0 a1 a2 a3) (la : val4 a0 a1 a2 a3 < F.M) (w : World) :
    Calls Tryz.prog 128 #[.int .i64 f, .agg #[.int .u64 a0, .int .u64 a1, .int .u64 a2, .int .u64 a3]] w (fun e w' => e = .returned (.int .i64 0) ∧ Below w.heap.size w w') := by
  go_enter Tryz.func128, Tryz.ntmps128
  go_wp2_with fail
  refine (cons_some f F hf _).mono ?_
  rintro e w1 ⟨rfl, hbl⟩
  have M1 := ((Mem.nil w).new (w.heap.size) a0 a1 a2 a3 24 (by simp)).on hbl
  clear hbl
  have z0 : w.heap.size < w1.heap.size := M1.lt (c0 := a0) (c1 := a1) (c2 := a2) (c3 := a3) (by simp)
  have HM := Lib.hid (M1.on ((Below.refl _ _).alloc (Nat.le_refl _) (.cells #[.int .u64 F.m0, .int .u64 F.m1, .int .u64 F.m2, .int .u64 F.m3, .int .u64 F.inv, .int .u64 F.s0, .int .u64 F.s1, .int .u64 F.s2, .int .u64 F.s3] 137)))
  have KK := Lib.hid (KIs.new w1 F 137)
  have kr := M1.row (b := w.heap.size) (c0 := a0) (c1 := a1) (c2 := a2) (c3 := a3) (by simp)
  have x0 := kr.c0; have x1 := kr.c1; have x2 := kr.c2; have x3 := kr.c3
  clear kr
  have xl := M1.lt (b := w.heap.size) (c0 := a0) (c1 := a1) (c2 := a2) (c3 := a3) (by simp)
  go_wp2_with fail
  refine (has_calls F hf.ok w1.heap.size a0 a1 a2 a3 ha _ KK.out).mono ?_
  rintro e w2 ⟨he, hbl⟩
  rw [show isB (val4 a0 a1 a2 a3) F.M = true from decide_eq_true la] at he
  subst he
  have HM' := Lib.hid (HM.out.on hbl)
  have KK' := Lib.hid (KK.out.same hbl)
  have zk := KK'.out.lt
  clear HM KK hbl M1
  have HM := HM'
  have KK := KK'
  clear HM' KK'
  clear x0 x1 x2 x3 xl zk
  go_wp2_with fail
  go_ret
  exact ⟨rfl, HM.out.1⟩
set_option maxRecDepth 100000 in
set_option maxHeartbeats 2000000 in
theorem flower_err (f c : Int) (a0 a1 a2 a3 : Nat) (ha : ok4 a0 a1 a2 a3) (h : Bad1 f (val4 a0 a1 a2 a3) c) (w : World) :
    Calls Tryz.prog 97 #[.int .i64 f, .agg #[.int .u64 a0, .int .u64 a1, .int .u64 a2, .int .u64 a3]] w fun e w' => e = .returned (.tuple #[.bool false, .int .i64 c]) ∧ Below w.heap.size w w' := by
  rcases h with ⟨h1, h2, rfl⟩ | ⟨F, hf, la, rfl⟩
  · go_enter Tryz.func97, Tryz.ntmps97
    go_wp2_with fail
    refine (cons_none f h1 h2 _).mono ?_
    rintro e w1 ⟨rfl, hbl⟩
    have M1 := ((Mem.nil w).new (w.heap.size) a0 a1 a2 a3 24 (by simp)).on hbl
    clear hbl
    have z0 : w.heap.size < w1.heap.size := M1.lt (c0 := a0) (c1 := a1) (c2 := a2) (c3 := a3) (by simp)
    have HM := Lib.hid (M1.on ((Below.refl _ _).alloc (Nat.le_refl _) (.cells #[.int .u64 0, .int .u64 0, .int .u64 0, .int .u64 0, .int .u64 0, .int .u64 0, .int .u64 0, .int .u64 0, .int .u64 0] 137)))
    go_wp2_with fail
    refine (refusal_one _).mono ?_
    rintro e w2 ⟨rfl, rfl⟩
    go_wp2_with fail
    refine bodyPost_ret (v := .tuple #[.bool false, .int .i64 1]) (by simp [results, Tryz.results97, go_sem, *]) rfl ?_
    exact ⟨rfl, HM.out.1⟩
  · go_enter Tryz.func97, Tryz.ntmps97
    go_wp2_with fail
    refine (cons_some f F hf _).mono ?_
    rintro e w1 ⟨rfl, hbl⟩
    have M1 := ((Mem.nil w).new (w.heap.size) a0 a1 a2 a3 24 (by simp)).on hbl
    clear hbl
    have z0 : w.heap.size < w1.heap.size := M1.lt (c0 := a0) (c1 := a1) (c2 := a2) (c3 := a3) (by simp)
    have HM := Lib.hid (M1.on ((Below.refl _ _).alloc (Nat.le_refl _) (.cells #[.int .u64 F.m0, .int .u64 F.m1, .int .u64 F.m2, .int .u64 F.m3, .int .u64 F.inv, .int .u64 F.s0, .int .u64 F.s1, .int .u64 F.s2, .int .u64 F.s3] 137)))
    have KK := Lib.hid (KIs.new w1 F 137)
    have kr := M1.row (b := w.heap.size) (c0 := a0) (c1 := a1) (c2 := a2) (c3 := a3) (by simp)
    have x0 := kr.c0; have x1 := kr.c1; have x2 := kr.c2; have x3 := kr.c3
    clear kr
    have xl := M1.lt (b := w.heap.size) (c0 := a0) (c1 := a1) (c2 := a2) (c3 := a3) (by simp)
    go_wp2_with fail
    refine (has_calls F hf.ok w1.heap.size a0 a1 a2 a3 ha _ KK.out).mono ?_
    rintro e w2 ⟨he, hbl⟩
    rw [show isB (val4 a0 a1 a2 a3) F.M = false from decide_eq_false la] at he
    subst he
    have HM' := Lib.hid (HM.out.on hbl)
    have KK' := Lib.hid (KK.out.same hbl)
    have zk := KK'.out.lt
    clear HM KK hbl M1
    have HM := HM'
    have KK := KK'
    clear HM' KK'
    clear x0 x1 x2 x3 xl zk
    go_wp2_with fail
    refine (refusal_two _).mono ?_
    rintro e w3 ⟨rfl, rfl⟩
    go_wp2_with fail
    refine bodyPost_ret (v := .tuple #[.bool false, .int .i64 21]) (by simp [results, Tryz.results97, go_sem, *]) rfl ?_
    exact ⟨rfl, HM.out.1⟩
set_option maxRecDepth 100000 in
set_option maxHeartbeats 2000000 in
theorem flower_ok (f : Int) (F : FC) (hf : FieldIs f F) (a0 a1 a2 a3 : Nat) (ha : ok4 a0 a1 a2 a3) (la : val4 a0 a1 a2 a3 < F.M) (w : World) :
    Calls Tryz.prog 97 #[.int .i64 f, .agg #[.int .u64 a0, .int .u64 a1, .int .u64 a2, .int .u64 a3]] w (fun e w' => e = .returned (.tuple #[.bool (lowB F.M (val4 a0 a1 a2 a3)), .int .i64 0]) ∧ Below w.heap.size w w') := by
  go_enter Tryz.func97, Tryz.ntmps97
  go_wp2_with fail
  refine (cons_some f F hf _).mono ?_
  rintro e w1 ⟨rfl, hbl⟩
  have M1 := ((Mem.nil w).new (w.heap.size) a0 a1 a2 a3 24 (by simp)).on hbl
  clear hbl
  have z0 : w.heap.size < w1.heap.size := M1.lt (c0 := a0) (c1 := a1) (c2 := a2) (c3 := a3) (by simp)
  have HM := Lib.hid (M1.on ((Below.refl _ _).alloc (Nat.le_refl _) (.cells #[.int .u64 F.m0, .int .u64 F.m1, .int .u64 F.m2, .int .u64 F.m3, .int .u64 F.inv, .int .u64 F.s0, .int .u64 F.s1, .int .u64 F.s2, .int .u64 F.s3] 137)))
  have KK := Lib.hid (KIs.new w1 F 137)
  have kr := M1.row (b := w.heap.size) (c0 := a0) (c1 := a1) (c2 := a2) (c3 := a3) (by simp)
  have x0 := kr.c0; have x1 := kr.c1; have x2 := kr.c2; have x3 := kr.c3
  clear kr
  have xl := M1.lt (b := w.heap.size) (c0 := a0) (c1 := a1) (c2 := a2) (c3 := a3) (by simp)
  go_wp2_with fail
  refine (has_calls F hf.ok w1.heap.size a0 a1 a2 a3 ha _ KK.out).mono ?_
  rintro e w2 ⟨he, hbl⟩
  rw [show isB (val4 a0 a1 a2 a3) F.M = true from decide_eq_true la] at he
  subst he
  have HM' := Lib.hid (HM.out.on hbl)
  have KK' := Lib.hid (KK.out.same hbl)
  have zk := KK'.out.lt
  clear HM KK hbl M1
  have HM := HM'
  have KK := KK'
  clear HM' KK'
  clear x0 x1 x2 x3 xl zk
  have kr := HM.out.row (b := w.heap.size) (c0 := a0) (c1 := a1) (c2 := a2) (c3 := a3) (by simp)
  have x0 := kr.c0; have x1 := kr.c1; have x2 := kr.c2; have x3 := kr.c3
  clear kr
  have xl := HM.out.lt (b := w.heap.size) (c0 := a0) (c1 := a1) (c2 := a2) (c3 := a3) (by simp)
  go_wp2_with fail
  refine (isLower_calls F hf.ok w1.heap.size a0 a1 a2 a3 ha la _ KK.out).mono ?_
  rintro e w4 ⟨rfl, hbl⟩
  have HM' := Lib.hid (HM.out.on hbl)
  have KK' := Lib.hid (KK.out.same hbl)
  have zk := KK'.out.lt
  clear HM KK hbl
  have HM := HM'
  have KK := KK'
  clear HM' KK'
  clear x0 x1 x2 x3 xl zk
  go_wp2_with fail
  go_ret2
  exact ⟨rfl, HM.out.1⟩
end Go.Proofs.YtgacpjmggdmgdaaGreat
