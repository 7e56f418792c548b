/-
  The calls Div, Inv and Exp. Conditions: words below 2^64.
  The calls Legendre and Sqrt. Conditions: words below 2^64.
-/
import Derived.Deep.DeepCutAuto
import Derived.Test.YtebaoemoeckgaaaPr16
namespace Go.Proofs.Ytebaoemoeckgaaa
set_option linter.unusedVariables false
set_option linter.unusedSimpArgs false
open Go.RowKit

set_option maxRecDepth 100000 in
set_option maxHeartbeats 2000000 in
theorem fexp_err (f c : Int) (a0 a1 a2 a3 n0 n1 n2 n3 : Nat) (ha : ok4 a0 a1 a2 a3) (hn : ok4 n0 n1 n2 n3) (h : Bad1 f (val4 a0 a1 a2 a3) c) (w : World) :
    Calls Try.prog 56 #[.int .i64 f, .agg #[.int .u64 a0, .int .u64 a1, .int .u64 a2, .int .u64 a3], .agg #[.int .u64 n0, .int .u64 n1, .int .u64 n2, .int .u64 n3]] w fun e w' => e = .returned (.tuple #[.agg #[.int .u64 0, .int .u64 0, .int .u64 0, .int .u64 0], .int .i64 c]) ∧ Below w.heap.size w w' := by
  rcases h with ⟨h1, h2, rfl⟩ | ⟨F, hf, la, rfl⟩
  · go_enter Try.func56, Try.ntmps56
    go_wp2_with fail
    refine (cons_none f h1 h2 _).mono ?_
    rintro e w1 ⟨rfl, hbl⟩
    have M1 := ((((Mem.nil w).new (w.heap.size) a0 a1 a2 a3 24 (by simp)).new (w.heap.size + 1) n0 n1 n2 n3 45 (by simp)).new (w.heap.size + 1 + 1) 0 0 0 0 24 (by simp)).on hbl
    clear hbl
    have z0 : w.heap.size < w1.heap.size := M1.lt (c0 := a0) (c1 := a1) (c2 := a2) (c3 := a3) (by simp)
    have z1 : w.heap.size + 1 < w1.heap.size := M1.lt (c0 := n0) (c1 := n1) (c2 := n2) (c3 := n3) (by simp)
    have z2 : w.heap.size + 1 + 1 < w1.heap.size := M1.lt (c0 := 0) (c1 := 0) (c2 := 0) (c3 := 0) (by simp)
    have HM := Lib.hid (M1.on ((Below.refl _ _).alloc (Nat.le_refl _) (.cells #[.int .u64 0, .int .u64 0, .int .u64 0, .int .u64 0, .int .u64 0, .int .u64 0, .int .u64 0, .int .u64 0, .int .u64 0] 115)))
    have kr := M1.row (b := w.heap.size + 1 + 1) (c0 := 0) (c1 := 0) (c2 := 0) (c3 := 0) (by simp)
    have y0 := kr.c0; have y1 := kr.c1; have y2 := kr.c2; have y3 := kr.c3; have yf := kr.fr
    clear kr
    have yl := M1.lt (b := w.heap.size + 1 + 1) (c0 := 0) (c1 := 0) (c2 := 0) (c3 := 0) (by simp)
    go_wp2_with fail
    refine (refusal_one _).mono ?_
    rintro e w2 ⟨rfl, rfl⟩
    go_wp2_with fail
    refine bodyPost_ret (v := .tuple #[.agg #[.int .u64 0, .int .u64 0, .int .u64 0, .int .u64 0], .int .i64 1]) (by simp [results, Try.results56, go_sem, *]) rfl ?_
    refine ⟨rfl, ?_⟩
    repeat (first | exact M1.1 | exact HM.out.1 | refine Below.alloc ?_ (by first | (simp; done) | (simp; omega)) _ | refine Below.setCell ?_ (by first | (simp; done) | (simp; omega)) _)
  · go_enter Try.func56, Try.ntmps56
    go_wp2_with fail
    refine (cons_some f F hf _).mono ?_
    rintro e w1 ⟨rfl, hbl⟩
    have M1 := ((((Mem.nil w).new (w.heap.size) a0 a1 a2 a3 24 (by simp)).new (w.heap.size + 1) n0 n1 n2 n3 45 (by simp)).new (w.heap.size + 1 + 1) 0 0 0 0 24 (by simp)).on hbl
    clear hbl
    have z0 : w.heap.size < w1.heap.size := M1.lt (c0 := a0) (c1 := a1) (c2 := a2) (c3 := a3) (by simp)
    have z1 : w.heap.size + 1 < w1.heap.size := M1.lt (c0 := n0) (c1 := n1) (c2 := n2) (c3 := n3) (by simp)
    have z2 : w.heap.size + 1 + 1 < w1.heap.size := M1.lt (c0 := 0) (c1 := 0) (c2 := 0) (c3 := 0) (by simp)
    have HM := Lib.hid (M1.on ((Below.refl _ _).alloc (Nat.le_refl _) (.cells #[.int .u64 F.m0, .int .u64 F.m1, .int .u64 F.m2, .int .u64 F.m3, .int .u64 F.inv, .int .u64 F.s0, .int .u64 F.s1, .int .u64 F.s2, .int .u64 F.s3] 115)))
    have KK := Lib.hid (KIs.new w1 F 115)
    have kr := M1.row (b := w.heap.size) (c0 := a0) (c1 := a1) (c2 := a2) (c3 := a3) (by simp)
    have x0 := kr.c0; have x1 := kr.c1; have x2 := kr.c2; have x3 := kr.c3
    clear kr
    have xl := M1.lt (b := w.heap.size) (c0 := a0) (c1 := a1) (c2 := a2) (c3 := a3) (by simp)
    go_wp2_with fail
    refine (has_calls F hf.ok w1.heap.size a0 a1 a2 a3 ha _ KK.out).mono ?_
    rintro e w2 ⟨he, hbl⟩
    rw [show isB (val4 a0 a1 a2 a3) F.M = false from decide_eq_false la] at he
    subst he
    have HM' := Lib.hid (HM.out.on hbl)
    have KK' := Lib.hid (KK.out.same hbl)
    have zk := KK'.out.lt
    clear HM KK hbl M1
    have HM := HM'
    have KK := KK'
    clear HM' KK'
    clear x0 x1 x2 x3 xl zk
    have kr := HM.out.row (b := w.heap.size + 1 + 1) (c0 := 0) (c1 := 0) (c2 := 0) (c3 := 0) (by simp)
    have y0 := kr.c0; have y1 := kr.c1; have y2 := kr.c2; have y3 := kr.c3; have yf := kr.fr
    clear kr
    have yl := HM.out.lt (b := w.heap.size + 1 + 1) (c0 := 0) (c1 := 0) (c2 := 0) (c3 := 0) (by simp)
    go_wp2_with fail
    refine (refusal_two _).mono ?_
    rintro e w3 ⟨rfl, rfl⟩
    go_wp2_with fail
    refine bodyPost_ret (v := .tuple #[.agg #[.int .u64 0, .int .u64 0, .int .u64 0, .int .u64 0], .int .i64 21]) (by simp [results, Try.results56, go_sem, *]) rfl ?_
    refine ⟨rfl, ?_⟩
    exact below_set4 HM.out.1 (by omega) 0 0 0 0
set_option maxRecDepth 100000 in
set_option maxHeartbeats 2000000 in
theorem fexp_ok (f : Int) (F : FC) (hf : FieldIs f F) (a0 a1 a2 a3 n0 n1 n2 n3 : Nat) (ha : ok4 a0 a1 a2 a3) (hn : ok4 n0 n1 n2 n3) (la : val4 a0 a1 a2 a3 < F.M) (w : World) :
    Calls Try.prog 56 #[.int .i64 f, .agg #[.int .u64 a0, .int .u64 a1, .int .u64 a2, .int .u64 a3], .agg #[.int .u64 n0, .int .u64 n1, .int .u64 n2, .int .u64 n3]] w (FeE 0 (val4 a0 a1 a2 a3 ^ val4 n0 n1 n2 n3 % F.M) w) := by
  go_enter Try.func56, Try.ntmps56
  go_wp2_with fail
  refine (cons_some f F hf _).mono ?_
  rintro e w1 ⟨rfl, hbl⟩
  have M1 := ((((Mem.nil w).new (w.heap.size) a0 a1 a2 a3 24 (by simp)).new (w.heap.size + 1) n0 n1 n2 n3 45 (by simp)).new (w.heap.size + 1 + 1) 0 0 0 0 24 (by simp)).on hbl
  clear hbl
  have z0 : w.heap.size < w1.heap.size := M1.lt (c0 := a0) (c1 := a1) (c2 := a2) (c3 := a3) (by simp)
  have z1 : w.heap.size + 1 < w1.heap.size := M1.lt (c0 := n0) (c1 := n1) (c2 := n2) (c3 := n3) (by simp)
  have z2 : w.heap.size + 1 + 1 < w1.heap.size := M1.lt (c0 := 0) (c1 := 0) (c2 := 0) (c3 := 0) (by simp)
  have HM := Lib.hid (M1.on ((Below.refl _ _).alloc (Nat.le_refl _) (.cells #[.int .u64 F.m0, .int .u64 F.m1, .int .u64 F.m2, .int .u64 F.m3, .int .u64 F.inv, .int .u64 F.s0, .int .u64 F.s1, .int .u64 F.s2, .int .u64 F.s3] 115)))
  have KK := Lib.hid (KIs.new w1 F 115)
  have kr := M1.row (b := w.heap.size) (c0 := a0) (c1 := a1) (c2 := a2) (c3 := a3) (by simp)
  have x0 := kr.c0; have x1 := kr.c1; have x2 := kr.c2; have x3 := kr.c3
  clear kr
  have xl := M1.lt (b := w.heap.size) (c0 := a0) (c1 := a1) (c2 := a2) (c3 := a3) (by simp)
  go_wp2_with fail
  refine (has_calls F hf.ok w1.heap.size a0 a1 a2 a3 ha _ KK.out).mono ?_
  rintro e w2 ⟨he, hbl⟩
  rw [show isB (val4 a0 a1 a2 a3) F.M = true from decide_eq_true la] at he
  subst he
  have HM' := Lib.hid (HM.out.on hbl)
  have KK' := Lib.hid (KK.out.same hbl)
  have zk := KK'.out.lt
  clear HM KK hbl M1
  have HM := HM'
  have KK := KK'
  clear HM' KK'
  clear x0 x1 x2 x3 xl zk
  go_wp2_with fail
  refine region_till (fun wx => Mem w wx [(w.heap.size + 1, n0, n1, n2, n3), (w.heap.size, a0, a1, a2, a3)]) 6 (by kernel_rfl) ?_
  have HM' := Lib.hid (HM.out.drewN 1)
  have KK' := Lib.hid (KK.out.drewN 1)
  clear HM KK
  have HM := HM'
  have KK := KK'
  clear HM' KK'
  have HS := HM.out.sub (rs' := [(w.heap.size + 1, n0, n1, n2, n3), (w.heap.size, a0, a1, a2, a3)]) (by simp)
  refine till_take (i := 0) (v := .agg #[.int .u64 a0, .int .u64 a1, .int .u64 a2, .int .u64 a3]) rfl (by kernel_rfl) (by kernel_rfl) (by kernel_rfl) (by kernel_rfl) (fun _ _ _ h => h) HS (Or.inl ⟨by kernel_rfl, fun wx hx => ?_⟩) ?_
  · have kr := hx.row (b := w.heap.size) (c0 := a0) (c1 := a1) (c2 := a2) (c3 := a3) (by simp)
    have x0 := kr.c0; have x1 := kr.c1; have x2 := kr.c2; have x3 := kr.c3
    clear kr HS hx
    go_simp
  simp only [Act.put, List.setIfInBounds_toArray, List.set_cons_zero, List.set_cons_succ]
  refine till_take (i := 2) (v := .agg #[.int .u64 n0, .int .u64 n1, .int .u64 n2, .int .u64 n3]) rfl (by kernel_rfl) (by kernel_rfl) (by kernel_rfl) (by kernel_rfl) (fun _ _ _ h => h) HS (Or.inl ⟨by kernel_rfl, fun wx hx => ?_⟩) ?_
  · have kr := hx.row (b := w.heap.size + 1) (c0 := n0) (c1 := n1) (c2 := n2) (c3 := n3) (by simp)
    have x0 := kr.c0; have x1 := kr.c1; have x2 := kr.c2; have x3 := kr.c3
    clear kr HS hx
    go_simp
  simp only [Act.put, List.setIfInBounds_toArray, List.set_cons_zero, List.set_cons_succ]
  clear HS
  refine till_step (i := 1) (by kernel_rfl) rfl (fun K hK => ?_)
  go_simp
  refine (into_calls F hf.ok w1.heap.size a0 a1 a2 a3 ha _ KK.out).mono ?_
  rintro e w4 ⟨i0, i1, i2, i3, rfl, hi, hv, hbl⟩
  have HVi := Lib.hid hv
  clear hv
  have HM' := Lib.hid (HM.out.on hbl)
  have KK' := Lib.hid (KK.out.same hbl)
  have zk_w4 := KK'.out.lt
  clear HM KK hbl
  have HM := HM'
  have KK := KK'
  clear HM' KK'
  have HS := HM.out.sub (rs' := [(w.heap.size + 1, n0, n1, n2, n3), (w.heap.size, a0, a1, a2, a3)]) (by simp)
  refine hK.out _ _ (Or.inr HS) (fun _ => ?_)
  clear hK K
  clear HS
  refine till_step (i := 3) (by kernel_rfl) rfl (fun K hK => ?_)
  go_simp
  refine (power_calls F hf.ok (val4 a0 a1 a2 a3) w1.heap.size i0 i1 i2 i3 n0 n1 n2 n3 hi hn HVi.out _ KK.out).mono ?_
  rintro e w5 ⟨j0, j1, j2, j3, rfl, hj, hv, hbl⟩
  have HVj := Lib.hid hv
  clear hv
  have HM' := Lib.hid (HM.out.on hbl)
  have KK' := Lib.hid (KK.out.same hbl)
  have zk_w5 := KK'.out.lt
  clear HM KK hbl
  have HM := HM'
  have KK := KK'
  clear HM' KK'
  have HS := HM.out.sub (rs' := [(w.heap.size + 1, n0, n1, n2, n3), (w.heap.size, a0, a1, a2, a3)]) (by simp)
  refine hK.out _ _ (Or.inr HS) (fun _ => ?_)
  clear hK K
  clear HS
  refine till_step (i := 4) (by kernel_rfl) rfl (fun K hK => ?_)
  go_simp
  refine (out_calls F hf.ok w1.heap.size j0 j1 j2 j3 hj _ KK.out).mono ?_
  rintro e w6 ⟨s0, s1, s2, s3, rfl, hs, hv, hbl⟩
  have HVs := Lib.hid (show val4 s0 s1 s2 s3 = val4 a0 a1 a2 a3 ^ val4 n0 n1 n2 n3 % F.M by rw [hv, HVj.out, ← kp_mod, kp_out hf.ok _ (Nat.mod_lt _ hf.ok.pos)])
  clear hv
  have HM' := Lib.hid (HM.out.on hbl)
  have KK' := Lib.hid (KK.out.same hbl)
  have zk_w6 := KK'.out.lt
  clear HM KK hbl
  have HM := HM'
  have KK := KK'
  clear HM' KK'
  have HS := HM.out.sub (rs' := [(w.heap.size + 1, n0, n1, n2, n3), (w.heap.size, a0, a1, a2, a3)]) (by simp)
  refine hK.out _ _ (Or.inr HS) (fun _ => ?_)
  clear hK K
  clear HS
  have kr := HM.out.row (b := w.heap.size + 1 + 1) (c0 := 0) (c1 := 0) (c2 := 0) (c3 := 0) (by simp)
  have y0 := kr.c0; have y1 := kr.c1; have y2 := kr.c2; have y3 := kr.c3; have yf := kr.fr
  clear kr
  have yl := HM.out.lt (b := w.heap.size + 1 + 1) (c0 := 0) (c1 := 0) (c2 := 0) (c3 := 0) (by simp)
  refine till_step (i := 5) (by kernel_rfl) rfl (fun K hK => ?_)
  go_simp
  have HM' := Lib.hid ((HM.out.sub (rs' := [(w.heap.size + 1 + 1, 0, 0, 0, 0), (w.heap.size + 1, n0, n1, n2, n3), (w.heap.size, a0, a1, a2, a3)]) (by simp)).put s0 s1 s2 s3 (by omega) (by intro r hr; simp at hr; rcases hr with rfl | rfl <;> simp <;> omega))
  clear HM
  have HM := HM'
  clear HM'
  have HS := HM.out.sub (rs' := [(w.heap.size + 1, n0, n1, n2, n3), (w.heap.size, a0, a1, a2, a3)]) (by simp)
  refine hK.out _ _ (Or.inr HS) (fun _ => ?_)
  clear hK K
  clear HS
  refine till_step (i := 6) (by kernel_rfl) rfl (fun K hK => ?_)
  go_simp
  refine hK.out _ _ (Or.inl rfl) (fun _ => ?_)
  clear hK K
  refine till_done (by kernel_rfl) ?_
  go_wp2_with fail
  refine bodyPost_ret (v := .tuple #[.agg #[.int .u64 s0, .int .u64 s1, .int .u64 s2, .int .u64 s3], .int .i64 0]) (by simp [results, Try.results56, go_sem, *]) rfl ?_
  exact ⟨_, _, _, _, rfl, hs, HVs.out, HM.out.1⟩
end Go.Proofs.Ytebaoemoeckgaaa
namespace Go.Proofs.Ytebaoemoeckgaaa
set_option linter.unusedVariables false
set_option linter.unusedSimpArgs false
open Go.RowKit

theorem KIs.set4 {w : World} {b d : Nat} {F : FC} (h : KIs w b F) (hd : d ≠ b) (d0 d1 d2 d3 : Nat) : KIs (Go.Proofs.Ytebaoemoeckgaaa.set4 w d d0 d1 d2 d3) b F := (((h.other hd _).other hd _).other hd _).other hd _
theorem eqW_false {a0 a1 a2 a3 b0 b1 b2 b3 : Nat} (h : ¬ eqW a0 a1 a2 a3 b0 b1 b2 b3 = true) : eqW a0 a1 a2 a3 b0 b1 b2 b3 = false := by cases q : eqW a0 a1 a2 a3 b0 b1 b2 b3 with | false => rfl | true => exact absurd q h
end Go.Proofs.Ytebaoemoeckgaaa
