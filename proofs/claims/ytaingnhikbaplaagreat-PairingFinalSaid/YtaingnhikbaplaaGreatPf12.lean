/-
  The calls Div, Inv and Exp. Conditions: words below 2^64.
  The calls Legendre and Sqrt. Conditions: words below 2^64.
  The page's examples: the helper of every statement of layer 2 answers true, in any world. Conditions: none.
  THE STATEMENT FieldRing: for either field and any three elements, or none: sums and products commute and associate, products go over sums, negatives and inverses undo: the law answers true. Conditions: words below 2^64.
  The inverses of a list.
  The call Invs.
  The call Invs of a list of no element, wherever it lies.
  The call Dot: the sum of the products of two lists, in each of its cases. Conditions: the lists as they lie.
  The calls of limbs.takeIn and limbs.Len: four words more into a rest, modulo a divisor whose highest bit is set; how many bits a number has. Conditions: the divisor's highest word at least 2^63, the rest below the divisor, each word below 2^64.
-/
import Derived.Deep.DeepCutAuto
import Derived.Laws.MakeOwn
import Derived.Test.YtaingnhikbaplaaGreatPf11
import Derived.Test.YtaingnhikbaplaaGreatPf09
import Derived.Test.YtaingnhikbaplaaGreatPf10
import Derived.Test.YtaingnhikbaplaaGreatPf08
namespace Go.Proofs.YtaingnhikbaplaaGreat
set_option linter.unusedVariables false
set_option linter.unusedSimpArgs false
open Go.RowKit

set_option maxRecDepth 100000 in
set_option maxHeartbeats 2000000 in
theorem fdiv0_ok (f : Int) (F : FC) (hf : FieldIs f F) (a0 a1 a2 a3 b0 b1 b2 b3 : Nat) (ha : ok4 a0 a1 a2 a3) (hb : ok4 b0 b1 b2 b3) (la : val4 a0 a1 a2 a3 < F.M) (lb : val4 b0 b1 b2 b3 < F.M) (hz : val4 b0 b1 b2 b3 = 0) (w : World) :
    Calls Tryz.prog 236 #[.int .i64 f, .agg #[.int .u64 a0, .int .u64 a1, .int .u64 a2, .int .u64 a3], .agg #[.int .u64 b0, .int .u64 b1, .int .u64 b2, .int .u64 b3]] w (FeE 22 0 w) := by
  have HE := Lib.hid (show ∀ w, (Op.equalIn 10000 24 (.agg #[.int .u64 b0, .int .u64 b1, .int .u64 b2, .int .u64 b3]) (.agg #[.int .u64 0, .int .u64 0, .int .u64 0, .int .u64 0])).run Tryz.prog w = .ok true w from fun w => by
    have h := equalInF 9998 b0 b1 b2 b3 0 0 0 0 w
    rw [(eqW_iff hb zok).2 (hz.trans rfl)] at h
    exact h)
  have hG := eqGuardF
  clear hz
  go_enter Tryz.func236, Tryz.ntmps236
  go_wp2_with fail
  refine (cons_some f F hf _).mono ?_
  rintro e w1 ⟨rfl, hbl⟩
  have M1 := ((((Mem.nil w).new (w.heap.size) a0 a1 a2 a3 24 (by simp)).new (w.heap.size + 1) b0 b1 b2 b3 24 (by simp)).new (w.heap.size + 1 + 1) 0 0 0 0 24 (by simp)).on hbl
  clear hbl
  have z0 : w.heap.size < w1.heap.size := M1.lt (c0 := a0) (c1 := a1) (c2 := a2) (c3 := a3) (by simp)
  have z1 : w.heap.size + 1 < w1.heap.size := M1.lt (c0 := b0) (c1 := b1) (c2 := b2) (c3 := b3) (by simp)
  have z2 : w.heap.size + 1 + 1 < w1.heap.size := M1.lt (c0 := 0) (c1 := 0) (c2 := 0) (c3 := 0) (by simp)
  have HM := Lib.hid (M1.on ((Below.refl _ _).alloc (Nat.le_refl _) (.cells #[.int .u64 F.m0, .int .u64 F.m1, .int .u64 F.m2, .int .u64 F.m3, .int .u64 F.inv, .int .u64 F.s0, .int .u64 F.s1, .int .u64 F.s2, .int .u64 F.s3] 206)))
  have KK := Lib.hid (KIs.new w1 F 206)
  have kr := M1.row (b := w.heap.size) (c0 := a0) (c1 := a1) (c2 := a2) (c3 := a3) (by simp)
  have x0 := kr.c0; have x1 := kr.c1; have x2 := kr.c2; have x3 := kr.c3
  clear kr
  have xl := M1.lt (b := w.heap.size) (c0 := a0) (c1 := a1) (c2 := a2) (c3 := a3) (by simp)
  go_wp2_with fail
  refine (has_calls F hf.ok w1.heap.size a0 a1 a2 a3 ha _ KK.out).mono ?_
  rintro e w2 ⟨he, hbl⟩
  rw [show isB (val4 a0 a1 a2 a3) F.M = true from decide_eq_true la] at he
  subst he
  have HM' := Lib.hid (HM.out.on hbl)
  have KK' := Lib.hid (KK.out.same hbl)
  have zk := KK'.out.lt
  clear HM KK hbl M1
  have HM := HM'
  have KK := KK'
  clear HM' KK'
  clear x0 x1 x2 x3 xl zk
  have kr := HM.out.row (b := w.heap.size + 1) (c0 := b0) (c1 := b1) (c2 := b2) (c3 := b3) (by simp)
  have x0 := kr.c0; have x1 := kr.c1; have x2 := kr.c2; have x3 := kr.c3
  clear kr
  have xl := HM.out.lt (b := w.heap.size + 1) (c0 := b0) (c1 := b1) (c2 := b2) (c3 := b3) (by simp)
  go_wp2_with fail
  refine (has_calls F hf.ok w1.heap.size b0 b1 b2 b3 hb _ KK.out).mono ?_
  rintro e w3 ⟨he, hbl⟩
  rw [show isB (val4 b0 b1 b2 b3) F.M = true from decide_eq_true lb] at he
  subst he
  have HM' := Lib.hid (HM.out.on hbl)
  have KK' := Lib.hid (KK.out.same hbl)
  have zk := KK'.out.lt
  clear HM KK hbl
  have HM := HM'
  have KK := KK'
  clear HM' KK'
  clear x0 x1 x2 x3 xl zk
  have kr := HM.out.row (b := w.heap.size + 1) (c0 := b0) (c1 := b1) (c2 := b2) (c3 := b3) (by simp)
  have u0 := kr.c0; have u1 := kr.c1; have u2 := kr.c2; have u3 := kr.c3
  clear kr
  have ul := HM.out.lt (b := w.heap.size + 1) (c0 := b0) (c1 := b1) (c2 := b2) (c3 := b3) (by simp)
  have kr := HM.out.row (b := w.heap.size + 1 + 1) (c0 := 0) (c1 := 0) (c2 := 0) (c3 := 0) (by simp)
  have y0 := kr.c0; have y1 := kr.c1; have y2 := kr.c2; have y3 := kr.c3; have yf := kr.fr
  clear kr
  have yl := HM.out.lt (b := w.heap.size + 1 + 1) (c0 := 0) (c1 := 0) (c2 := 0) (c3 := 0) (by simp)
  have hE := HE.out
  go_wp2_with fail
  refine bodyPost_ret (v := .tuple #[.agg #[.int .u64 0, .int .u64 0, .int .u64 0, .int .u64 0], .int .i64 22]) (by simp [results, Tryz.results236, go_sem, *]) rfl ?_
  refine ⟨_, _, _, _, rfl, zok, rfl, ?_⟩
  exact below_set4 HM.out.1 (by omega) 0 0 0 0
set_option maxRecDepth 100000 in
set_option maxHeartbeats 2000000 in
theorem fdiv_ok (f : Int) (F : FC) (hf : FieldIs f F) (a0 a1 a2 a3 b0 b1 b2 b3 : Nat) (ha : ok4 a0 a1 a2 a3) (hb : ok4 b0 b1 b2 b3) (la : val4 a0 a1 a2 a3 < F.M) (lb : val4 b0 b1 b2 b3 < F.M) (hz : val4 b0 b1 b2 b3 ≠ 0) (w : World) :
    Calls Tryz.prog 236 #[.int .i64 f, .agg #[.int .u64 a0, .int .u64 a1, .int .u64 a2, .int .u64 a3], .agg #[.int .u64 b0, .int .u64 b1, .int .u64 b2, .int .u64 b3]] w (FeE 0 (val4 a0 a1 a2 a3 * (val4 b0 b1 b2 b3 ^ (F.M - 2)) % F.M) w) := by
  have HE := Lib.hid (show ∀ w, (Op.equalIn 10000 24 (.agg #[.int .u64 b0, .int .u64 b1, .int .u64 b2, .int .u64 b3]) (.agg #[.int .u64 0, .int .u64 0, .int .u64 0, .int .u64 0])).run Tryz.prog w = .ok false w from fun w => by
    have h := equalInF 9998 b0 b1 b2 b3 0 0 0 0 w
    have q : eqW b0 b1 b2 b3 0 0 0 0 = false := by
      cases q : eqW b0 b1 b2 b3 0 0 0 0
      · rfl
      · exact absurd (((eqW_iff hb zok).1 q).trans rfl) hz
    rw [q] at h
    exact h)
  have hG := eqGuardF
  clear hz
  go_enter Tryz.func236, Tryz.ntmps236
  go_wp2_with fail
  refine (cons_some f F hf _).mono ?_
  rintro e w1 ⟨rfl, hbl⟩
  have M1 := ((((Mem.nil w).new (w.heap.size) a0 a1 a2 a3 24 (by simp)).new (w.heap.size + 1) b0 b1 b2 b3 24 (by simp)).new (w.heap.size + 1 + 1) 0 0 0 0 24 (by simp)).on hbl
  clear hbl
  have z0 : w.heap.size < w1.heap.size := M1.lt (c0 := a0) (c1 := a1) (c2 := a2) (c3 := a3) (by simp)
  have z1 : w.heap.size + 1 < w1.heap.size := M1.lt (c0 := b0) (c1 := b1) (c2 := b2) (c3 := b3) (by simp)
  have z2 : w.heap.size + 1 + 1 < w1.heap.size := M1.lt (c0 := 0) (c1 := 0) (c2 := 0) (c3 := 0) (by simp)
  have HM := Lib.hid (M1.on ((Below.refl _ _).alloc (Nat.le_refl _) (.cells #[.int .u64 F.m0, .int .u64 F.m1, .int .u64 F.m2, .int .u64 F.m3, .int .u64 F.inv, .int .u64 F.s0, .int .u64 F.s1, .int .u64 F.s2, .int .u64 F.s3] 206)))
  have KK := Lib.hid (KIs.new w1 F 206)
  have kr := M1.row (b := w.heap.size) (c0 := a0) (c1 := a1) (c2 := a2) (c3 := a3) (by simp)
  have x0 := kr.c0; have x1 := kr.c1; have x2 := kr.c2; have x3 := kr.c3
  clear kr
  have xl := M1.lt (b := w.heap.size) (c0 := a0) (c1 := a1) (c2 := a2) (c3 := a3) (by simp)
  go_wp2_with fail
  refine (has_calls F hf.ok w1.heap.size a0 a1 a2 a3 ha _ KK.out).mono ?_
  rintro e w2 ⟨he, hbl⟩
  rw [show isB (val4 a0 a1 a2 a3) F.M = true from decide_eq_true la] at he
  subst he
  have HM' := Lib.hid (HM.out.on hbl)
  have KK' := Lib.hid (KK.out.same hbl)
  have zk := KK'.out.lt
  clear HM KK hbl M1
  have HM := HM'
  have KK := KK'
  clear HM' KK'
  clear x0 x1 x2 x3 xl zk
  have kr := HM.out.row (b := w.heap.size + 1) (c0 := b0) (c1 := b1) (c2 := b2) (c3 := b3) (by simp)
  have x0 := kr.c0; have x1 := kr.c1; have x2 := kr.c2; have x3 := kr.c3
  clear kr
  have xl := HM.out.lt (b := w.heap.size + 1) (c0 := b0) (c1 := b1) (c2 := b2) (c3 := b3) (by simp)
  go_wp2_with fail
  refine (has_calls F hf.ok w1.heap.size b0 b1 b2 b3 hb _ KK.out).mono ?_
  rintro e w3 ⟨he, hbl⟩
  rw [show isB (val4 b0 b1 b2 b3) F.M = true from decide_eq_true lb] at he
  subst he
  have HM' := Lib.hid (HM.out.on hbl)
  have KK' := Lib.hid (KK.out.same hbl)
  have zk := KK'.out.lt
  clear HM KK hbl
  have HM := HM'
  have KK := KK'
  clear HM' KK'
  clear x0 x1 x2 x3 xl zk
  have kr := HM.out.row (b := w.heap.size + 1) (c0 := b0) (c1 := b1) (c2 := b2) (c3 := b3) (by simp)
  have u0 := kr.c0; have u1 := kr.c1; have u2 := kr.c2; have u3 := kr.c3
  clear kr
  have ul := HM.out.lt (b := w.heap.size + 1) (c0 := b0) (c1 := b1) (c2 := b2) (c3 := b3) (by simp)
  have hE := HE.out
  go_wp2_with fail
  clear u0 u1 u2 u3 ul hE
  refine region_till (fun wx => Mem w wx [(w.heap.size + 1, b0, b1, b2, b3), (w.heap.size, a0, a1, a2, a3)]) 6 (by kernel_rfl) ?_
  have HM' := Lib.hid (HM.out.drewN 1)
  have KK' := Lib.hid (KK.out.drewN 1)
  clear HM KK
  have HM := HM'
  have KK := KK'
  clear HM' KK'
  have HS := HM.out.sub (rs' := [(w.heap.size + 1, b0, b1, b2, b3), (w.heap.size, a0, a1, a2, a3)]) (by simp)
  refine till_take (i := 0) (v := .agg #[.int .u64 b0, .int .u64 b1, .int .u64 b2, .int .u64 b3]) rfl (by kernel_rfl) (by kernel_rfl) (by kernel_rfl) (by kernel_rfl) (fun _ _ _ h => h) HS (Or.inl ⟨by kernel_rfl, fun wx hx => ?_⟩) ?_
  · have kr := hx.row (b := w.heap.size + 1) (c0 := b0) (c1 := b1) (c2 := b2) (c3 := b3) (by simp)
    have x0 := kr.c0; have x1 := kr.c1; have x2 := kr.c2; have x3 := kr.c3
    clear kr HS hx
    go_simp
  simp only [Act.put, List.setIfInBounds_toArray, List.set_cons_zero, List.set_cons_succ]
  refine till_take (i := 3) (v := .agg #[.int .u64 a0, .int .u64 a1, .int .u64 a2, .int .u64 a3]) rfl (by kernel_rfl) (by kernel_rfl) (by kernel_rfl) (by kernel_rfl) (fun _ _ _ h => h) HS (Or.inl ⟨by kernel_rfl, fun wx hx => ?_⟩) ?_
  · have kr := hx.row (b := w.heap.size) (c0 := a0) (c1 := a1) (c2 := a2) (c3 := a3) (by simp)
    have x0 := kr.c0; have x1 := kr.c1; have x2 := kr.c2; have x3 := kr.c3
    clear kr HS hx
    go_simp
  simp only [Act.put, List.setIfInBounds_toArray, List.set_cons_zero, List.set_cons_succ]
  clear HS
  refine till_step (i := 1) (by kernel_rfl) rfl (fun K hK => ?_)
  go_simp
  refine (into_calls F hf.ok w1.heap.size b0 b1 b2 b3 hb _ KK.out).mono ?_
  rintro e w4 ⟨i0, i1, i2, i3, rfl, hi, hv, hbl⟩
  have HVi := Lib.hid hv
  clear hv
  have HM' := Lib.hid (HM.out.on hbl)
  have KK' := Lib.hid (KK.out.same hbl)
  have zk_w4 := KK'.out.lt
  clear HM KK hbl
  have HM := HM'
  have KK := KK'
  clear HM' KK'
  have HS := HM.out.sub (rs' := [(w.heap.size + 1, b0, b1, b2, b3), (w.heap.size, a0, a1, a2, a3)]) (by simp)
  refine hK.out _ _ (Or.inr HS) (fun _ => ?_)
  clear hK K
  clear HS
  refine till_step (i := 2) (by kernel_rfl) rfl (fun K hK => ?_)
  go_simp
  refine (inverted_calls F hf.ok (val4 b0 b1 b2 b3) w1.heap.size i0 i1 i2 i3 hi HVi.out _ KK.out).mono ?_
  rintro e w5 ⟨j0, j1, j2, j3, rfl, hj, hv, hbl⟩
  have HVj := Lib.hid hv
  clear hv
  have HM' := Lib.hid (HM.out.on hbl)
  have KK' := Lib.hid (KK.out.same hbl)
  have zk_w5 := KK'.out.lt
  clear HM KK hbl
  have HM := HM'
  have KK := KK'
  clear HM' KK'
  have HS := HM.out.sub (rs' := [(w.heap.size + 1, b0, b1, b2, b3), (w.heap.size, a0, a1, a2, a3)]) (by simp)
  refine hK.out _ _ (Or.inr HS) (fun _ => ?_)
  clear hK K
  clear HS
  refine till_step (i := 4) (by kernel_rfl) rfl (fun K hK => ?_)
  go_simp
  refine (times_calls F hf.ok w1.heap.size j0 j1 j2 j3 a0 a1 a2 a3 hj ha la _ KK.out).mono ?_
  rintro e w6 ⟨s0, s1, s2, s3, rfl, hs, hv, hbl⟩
  have HVs := Lib.hid (show val4 s0 s1 s2 s3 = val4 a0 a1 a2 a3 * (val4 b0 b1 b2 b3 ^ (F.M - 2)) % F.M by rw [hv, HVj.out, kp_product hf.ok, Nat.mul_comm])
  clear hv
  have HM' := Lib.hid (HM.out.on hbl)
  have KK' := Lib.hid (KK.out.same hbl)
  have zk_w6 := KK'.out.lt
  clear HM KK hbl
  have HM := HM'
  have KK := KK'
  clear HM' KK'
  have HS := HM.out.sub (rs' := [(w.heap.size + 1, b0, b1, b2, b3), (w.heap.size, a0, a1, a2, a3)]) (by simp)
  refine hK.out _ _ (Or.inr HS) (fun _ => ?_)
  clear hK K
  clear HS
  have kr := HM.out.row (b := w.heap.size + 1 + 1) (c0 := 0) (c1 := 0) (c2 := 0) (c3 := 0) (by simp)
  have y0 := kr.c0; have y1 := kr.c1; have y2 := kr.c2; have y3 := kr.c3; have yf := kr.fr
  clear kr
  have yl := HM.out.lt (b := w.heap.size + 1 + 1) (c0 := 0) (c1 := 0) (c2 := 0) (c3 := 0) (by simp)
  refine till_step (i := 5) (by kernel_rfl) rfl (fun K hK => ?_)
  go_simp
  have HM' := Lib.hid ((HM.out.sub (rs' := [(w.heap.size + 1 + 1, 0, 0, 0, 0), (w.heap.size + 1, b0, b1, b2, b3), (w.heap.size, a0, a1, a2, a3)]) (by simp)).put s0 s1 s2 s3 (by omega) (by intro r hr; simp at hr; rcases hr with rfl | rfl <;> simp <;> omega))
  clear HM
  have HM := HM'
  clear HM'
  have HS := HM.out.sub (rs' := [(w.heap.size + 1, b0, b1, b2, b3), (w.heap.size, a0, a1, a2, a3)]) (by simp)
  refine hK.out _ _ (Or.inr HS) (fun _ => ?_)
  clear hK K
  clear HS
  refine till_step (i := 6) (by kernel_rfl) rfl (fun K hK => ?_)
  go_simp
  refine hK.out _ _ (Or.inl rfl) (fun _ => ?_)
  clear hK K
  refine till_done (by kernel_rfl) ?_
  go_wp2_with fail
  refine bodyPost_ret (v := .tuple #[.agg #[.int .u64 s0, .int .u64 s1, .int .u64 s2, .int .u64 s3], .int .i64 0]) (by simp [results, Tryz.results236, go_sem, *]) rfl ?_
  exact ⟨_, _, _, _, rfl, hs, HVs.out, HM.out.1⟩
set_option maxRecDepth 100000 in
set_option maxHeartbeats 2000000 in
theorem finv_of (f c : Int) (V a0 a1 a2 a3 : Nat) (hD : ∀ w, Calls Tryz.prog 236 #[.int .i64 f, .agg #[.int .u64 1, .int .u64 0, .int .u64 0, .int .u64 0], .agg #[.int .u64 a0, .int .u64 a1, .int .u64 a2, .int .u64 a3]] w (FeE c V w)) (w : World) :
    Calls Tryz.prog 232 #[.int .i64 f, .agg #[.int .u64 a0, .int .u64 a1, .int .u64 a2, .int .u64 a3]] w (FeE c V w) := by
  have HD := Lib.hid hD
  clear hD
  go_enter Tryz.func232, Tryz.ntmps232
  go_wp2_with fail
  have HM := Lib.hid (((Mem.nil w).new (w.heap.size) a0 a1 a2 a3 24 (by simp)).new (w.heap.size + 1) 0 0 0 0 24 (by simp))
  refine region_till (fun wx => Mem w wx [(w.heap.size, a0, a1, a2, a3)]) 7 (by kernel_rfl) ?_
  have HM' := Lib.hid (HM.out.drewN 1)
  clear HM
  have HM := HM'
  clear HM'
  have HS := HM.out.sub (rs' := [(w.heap.size, a0, a1, a2, a3)]) (by simp)
  refine till_take (i := 0) (v := .int .i64 f) rfl (by kernel_rfl) (by kernel_rfl) (by kernel_rfl) (by kernel_rfl) (fun _ _ _ h => h) HS (Or.inl ⟨by kernel_rfl, fun wx hx => ?_⟩) ?_
  · clear HS hx
    go_simp
  simp only [Act.put, List.setIfInBounds_toArray, List.set_cons_zero, List.set_cons_succ]
  refine till_take (i := 2) (v := .agg #[.int .u64 a0, .int .u64 a1, .int .u64 a2, .int .u64 a3]) rfl (by kernel_rfl) (by kernel_rfl) (by kernel_rfl) (by kernel_rfl) (fun _ _ _ h => h) HS (Or.inl ⟨by kernel_rfl, fun wx hx => ?_⟩) ?_
  · have kr := hx.row (b := w.heap.size) (c0 := a0) (c1 := a1) (c2 := a2) (c3 := a3) (by simp)
    have x0 := kr.c0; have x1 := kr.c1; have x2 := kr.c2; have x3 := kr.c3
    clear kr HS hx
    go_simp
  simp only [Act.put, List.setIfInBounds_toArray, List.set_cons_zero, List.set_cons_succ]
  clear HS
  refine till_step (i := 1) (by kernel_rfl) rfl (fun K hK => ?_)
  go_simp
  refine (of_calls 1 (by omega) _).mono ?_
  rintro e w1 ⟨rfl, hbl⟩
  have HM' := Lib.hid (HM.out.on hbl)
  clear HM hbl
  have HM := HM'
  clear HM'
  have HS := HM.out.sub (rs' := [(w.heap.size, a0, a1, a2, a3)]) (by simp)
  refine hK.out _ _ (Or.inr HS) (fun _ => ?_)
  clear hK K
  clear HS
  refine till_step (i := 3) (by kernel_rfl) rfl (fun K hK => ?_)
  go_simp
  refine (HD.out _).mono ?_
  rintro e w2 ⟨s0, s1, s2, s3, rfl, hs, hv, hbl⟩
  have HVs := Lib.hid hv
  clear hv
  have HM' := Lib.hid (HM.out.on hbl)
  clear HM hbl
  have HM := HM'
  clear HM'
  have HS := HM.out.sub (rs' := [(w.heap.size, a0, a1, a2, a3)]) (by simp)
  refine hK.out _ _ (Or.inr HS) (fun _ => ?_)
  clear hK K
  refine till_take (i := 4) (v := .agg #[.int .u64 s0, .int .u64 s1, .int .u64 s2, .int .u64 s3]) rfl (by kernel_rfl) (by kernel_rfl) (by kernel_rfl) (by kernel_rfl) (fun _ _ _ h => h) HS (Or.inl ⟨by kernel_rfl, fun wx hx => ?_⟩) ?_
  · clear HS hx
    go_simp
  simp only [Act.put, List.setIfInBounds_toArray, List.set_cons_zero, List.set_cons_succ]
  refine till_take (i := 5) (v := .int .i64 c) rfl (by kernel_rfl) (by kernel_rfl) (by kernel_rfl) (by kernel_rfl) (fun _ _ _ h => h) HS (Or.inl ⟨by kernel_rfl, fun wx hx => ?_⟩) ?_
  · clear HS hx
    go_simp
  simp only [Act.put, List.setIfInBounds_toArray, List.set_cons_zero, List.set_cons_succ]
  clear HS
  have kr := HM.out.row (b := w.heap.size + 1) (c0 := 0) (c1 := 0) (c2 := 0) (c3 := 0) (by simp)
  have y0 := kr.c0; have y1 := kr.c1; have y2 := kr.c2; have y3 := kr.c3; have yf := kr.fr
  clear kr
  have yl := HM.out.lt (b := w.heap.size + 1) (c0 := 0) (c1 := 0) (c2 := 0) (c3 := 0) (by simp)
  refine till_step (i := 6) (by kernel_rfl) rfl (fun K hK => ?_)
  go_simp
  have HM' := Lib.hid ((HM.out.sub (rs' := [(w.heap.size + 1, 0, 0, 0, 0), (w.heap.size, a0, a1, a2, a3)]) (by simp)).put s0 s1 s2 s3 (by omega) (by intro r hr; simp at hr; rcases hr with rfl <;> simp <;> omega))
  clear HM
  have HM := HM'
  clear HM'
  have HS := HM.out.sub (rs' := [(w.heap.size, a0, a1, a2, a3)]) (by simp)
  refine hK.out _ _ (Or.inr HS) (fun _ => ?_)
  clear hK K
  clear HS
  refine till_step (i := 7) (by kernel_rfl) rfl (fun K hK => ?_)
  go_simp
  refine hK.out _ _ (Or.inl rfl) (fun _ => ?_)
  clear hK K
  refine till_done (by kernel_rfl) ?_
  go_wp2_with fail
  refine bodyPost_ret (v := .tuple #[.agg #[.int .u64 s0, .int .u64 s1, .int .u64 s2, .int .u64 s3], .int .i64 c]) (by simp [results, Tryz.results232, go_sem, *]) rfl ?_
  exact ⟨_, _, _, _, rfl, hs, HVs.out, HM.out.1⟩
end Go.Proofs.YtaingnhikbaplaaGreat
namespace Go.Proofs.YtaingnhikbaplaaGreat
set_option linter.unusedVariables false
set_option linter.unusedSimpArgs false
open Go.RowKit

theorem KIs.set4 {w : World} {b d : Nat} {F : FC} (h : KIs w b F) (hd : d ≠ b) (d0 d1 d2 d3 : Nat) : KIs (Go.Proofs.YtaingnhikbaplaaGreat.set4 w d d0 d1 d2 d3) b F := (((h.other hd _).other hd _).other hd _).other hd _
theorem eqW_false {a0 a1 a2 a3 b0 b1 b2 b3 : Nat} (h : ¬ eqW a0 a1 a2 a3 b0 b1 b2 b3 = true) : eqW a0 a1 a2 a3 b0 b1 b2 b3 = false := by cases q : eqW a0 a1 a2 a3 b0 b1 b2 b3 with | false => rfl | true => exact absurd q h
end Go.Proofs.YtaingnhikbaplaaGreat
namespace Go.Proofs.YtaingnhikbaplaaGreat
set_option linter.unusedVariables false
set_option linter.unusedSimpArgs false
open Go.RowKit

set_option maxRecDepth 100000 in
set_option maxHeartbeats 2000000 in
theorem rmod_some (f : Int) (F : FC) (hf : FieldIs f F) (w : World) : Calls Tryz.prog 143 #[.int .i64 f] w fun e w' => e = .returned (.agg #[.int .u64 F.m0, .int .u64 F.m1, .int .u64 F.m2, .int .u64 F.m3]) ∧ Below w.heap.size w w' := by
  rcases hf with ⟨rfl, rfl⟩ | ⟨rfl, rfl⟩
  · go_enter Tryz.func143, Tryz.ntmps143
    go_wp2_with fail
    refine bodyPost_ret (v := .agg #[.int .u64 FP.m0, .int .u64 FP.m1, .int .u64 FP.m2, .int .u64 FP.m3]) (by simp [results, Tryz.results143, go_sem, FP]) rfl ?_
    refine ⟨rfl, ?_⟩
    repeat (first | exact Below.refl _ _ | refine Below.drew ?_ | refine Below.alloc ?_ (by first | (simp; done) | (simp; omega)) _ | refine Below.setCell ?_ (by simp) _)
  · go_enter Tryz.func143, Tryz.ntmps143
    go_wp2_with fail
    refine bodyPost_ret (v := .agg #[.int .u64 FR.m0, .int .u64 FR.m1, .int .u64 FR.m2, .int .u64 FR.m3]) (by simp [results, Tryz.results143, go_sem, FR]) rfl ?_
    refine ⟨rfl, ?_⟩
    repeat (first | exact Below.refl _ _ | refine Below.drew ?_ | refine Below.alloc ?_ (by first | (simp; done) | (simp; omega)) _ | refine Below.setCell ?_ (by simp) _)
end Go.Proofs.YtaingnhikbaplaaGreat
namespace Go.Proofs.YtaingnhikbaplaaGreat
set_option linter.unusedVariables false
set_option linter.unusedSimpArgs false
open Go.RowKit

section
variable {M g : Nat}
end
theorem Bad1.ne {f c : Int} {A : Nat} (h : Bad1 f A c) : c ≠ 0 := by rcases h with ⟨_, _, h⟩ | ⟨_, _, _, h⟩ <;> omega
theorem Bad2.ne {f c : Int} {A B : Nat} (h : Bad2 f A B c) : c ≠ 0 := by
  rcases h with h | ⟨_, _, _, _, h⟩
  · exact h.ne
  · omega
theorem FieldIs.uniq {f : Int} {F G : FC} (h : FieldIs f F) (k : FieldIs f G) : F = G := by
  rcases h with ⟨h, rfl⟩ | ⟨h, rfl⟩ <;> rcases k with ⟨k, rfl⟩ | ⟨k, rfl⟩ <;> first | rfl | omega
end Go.Proofs.YtaingnhikbaplaaGreat
namespace Go.Proofs.YtaingnhikbaplaaGreat
set_option linter.unusedVariables false
set_option linter.unusedSimpArgs false
open Go.ChangeShapes Go.WideShapes Go.ChangeAt Go.RowKit

/-- element j of the list, as a number -/
def elA (A : Nat → Nat → Nat) (j : Nat) : Nat := val4 (A j 0) (A j 1) (A j 2) (A j 3)
end Go.Proofs.YtaingnhikbaplaaGreat
namespace Go.Proofs.YtaingnhikbaplaaGreat
set_option linter.unusedVariables false
set_option linter.unusedSimpArgs false
open Go.ChangeShapes Go.WideShapes Go.ChangeAt Go.RowKit

end Go.Proofs.YtaingnhikbaplaaGreat
namespace Go.Proofs.YtaingnhikbaplaaGreat
set_option linter.unusedVariables false
set_option linter.unusedSimpArgs false
open Go.ChangeShapes Go.WideShapes Go.ChangeAt Go.RowKit

set_option maxRecDepth 20000 in
set_option maxHeartbeats 4000000 in
theorem hasAll_nil (p : Option Addr) (cap b : Nat) (w : World) :
    Calls Tryz.prog 280 #[.pointer (some ⟨b, 0, none⟩), .slice p 0 cap] w fun e w' => e = .returned (.bool true) ∧ w' = w := by
  go_enter Tryz.func280, Tryz.ntmps280
  go_wp2_with fail
  refine wp_loop_rounds 2 ?_
  rw [rounds_succ]
  go_wp2_with fail
  go_ret
  exact ⟨rfl, rfl⟩

end Go.Proofs.YtaingnhikbaplaaGreat
namespace Go.Proofs.YtaingnhikbaplaaGreat
set_option linter.unusedVariables false
set_option linter.unusedSimpArgs false
open Go.RowKit

/-- a list of elements in hand, wherever it lies -/
def FIs (W : World) (o : Option Addr) (len : Nat) (A : Nat → Nat → Nat) : Prop := len * 32 ≤ 140737488351232 ∧ LOk len A ∧ (0 < len → ∃ g off, o = some ⟨g, off, none⟩ ∧ g < W.heap.size ∧ LAt W g off len A)
theorem FIs.on {W w : World} {o : Option Addr} {len : Nat} {A : Nat → Nat → Nat} (h : FIs W o len A) (hb : Below W.heap.size W w) : FIs w o len A := by
  refine ⟨h.1, h.2.1, fun hl => ?_⟩
  obtain ⟨g, off, e, hg, hc⟩ := h.2.2 hl
  exact ⟨g, off, e, Nat.lt_of_lt_of_le hg hb.size, hc.same (fun _ => hg) hb⟩
def allIn (M : Nat) (len : Nat) (A : Nat → Nat → Nat) : Prop := ∀ k, k < len → elA A k < M
theorem hasAll_any (F : FC) (hF : F.Ok) (b : Nat) (o : Option Addr) (len cap : Nat) (A : Nat → Nat → Nat) (w : World) (hk : KIs w b F) (h : FIs w o len A) :
    Calls Tryz.prog 280 #[.pointer (some ⟨b, 0, none⟩), .slice o len cap] w fun e w' => (∃ t : Bool, e = .returned (.bool t) ∧ (t = true ↔ allIn F.M len A)) ∧ Below w.heap.size w w' := by
  by_cases h0 : 0 < len
  · obtain ⟨g, off, rfl, hg, hc⟩ := h.2.2 h0
    exact hasAll_calls F hF b g off len cap A h.2.1 (by have := h.1; omega) w hk (fun _ => hg) hc
  · obtain rfl : len = 0 := by omega
    refine (hasAll_nil o cap b w).mono ?_
    rintro e w' ⟨he, rfl⟩
    exact ⟨⟨true, he, fun _ k hk => absurd hk (by omega), fun _ => rfl⟩, Below.refl _ _⟩
def dotN (M : Nat) (X Y : Nat → Nat) : Nat → Nat
  | 0 => 0
  | n + 1 => (dotN M X Y n + X n * Y n) % M
theorem dotN_lt {M : Nat} (h : 0 < M) (X Y : Nat → Nat) : ∀ n, dotN M X Y n < M
  | 0 => h
  | n + 1 => Nat.mod_lt _ h
theorem dot_step {F : FC} (hF : F.Ok) {s x y d : Nat} (h : s * F.R % F.M = d) : (s + x * y * F.Ri % F.M) % F.M * F.R % F.M = (d + x * y) % F.M := by
  have e1 : (s + x * y * F.Ri % F.M) % F.M * F.R % F.M = (s * F.R + x * y * F.Ri * F.R) % F.M := by
    rw [Nat.mod_mul_mod, Nat.add_mul, Nat.add_mod, Nat.mod_mul_mod, ← Nat.add_mod]
  have e2 : x * y * F.Ri * F.R % F.M = x * y % F.M := by rw [Nat.mul_right_comm]; exact ri_cancel hF _
  rw [e1, Nat.add_mod, h, e2, Nat.add_mod_mod]
set_option maxRecDepth 100000 in
set_option maxHeartbeats 4000000 in
theorem fdot_ok (f : Int) (F : FC) (hf : FieldIs f F) (p q : Option Addr) (la ca lb cb : Nat) (A B : Nat → Nat → Nat) (h1 : la = lb) (h2 : la ≤ 65536) (ia : allIn F.M la A) (ib : allIn F.M lb B) (w : World) (hA : FIs w p la A) (hB : FIs w q lb B) :
    Calls Tryz.prog 256 #[.int .i64 f, .slice p la ca, .slice q lb cb] w (FeE 0 (dotN F.M (elA A) (elA B) la) w) := by
  subst h1
  have hok := hf.ok
  have hpos := hf.ok.pos
  have IA := Lib.hid ia
  have IB := Lib.hid ib
  clear ia ib
  have HA := Lib.hid hA
  have HB := Lib.hid hB
  clear hA hB
  go_enter Tryz.func256, Tryz.ntmps256
  go_wp2_with fail
  have HM := Lib.hid ((Mem.nil w).new (w.heap.size) 0 0 0 0 24 (by simp))
  refine (cons_some f F hf _).mono ?_
  rintro e w1 ⟨rfl, hbl⟩
  have KK := Lib.hid (KIs.new w1 F 206)
  have B1 := Lib.hid (HM.out.on hbl)
  clear HM hbl
  have HM := Lib.hid (show Mem w (w1.alloc (.cells #[.int .u64 F.m0, .int .u64 F.m1, .int .u64 F.m2, .int .u64 F.m3, .int .u64 F.inv, .int .u64 F.s0, .int .u64 F.s1, .int .u64 F.s2, .int .u64 F.s3] 206)) [(w.heap.size, 0, 0, 0, 0)] from B1.out.on ((Below.refl _ _).alloc (Nat.le_refl _) _))
  clear B1
  have t1 : decide ((65536 : Int) < (la : Int)) = false := decide_eq_false (by omega)
  go_wp2_with fail
  refine (hasAll_any F hf.ok w1.heap.size p la ca A _ KK.out (HA.out.on HM.out.1)).mono ?_
  rintro e w2 ⟨⟨t, rfl, ht⟩, hbl⟩
  obtain rfl : t = true := ht.2 IA.out
  have KK' := Lib.hid (KK.out.same hbl)
  have HM' := Lib.hid (HM.out.on hbl)
  clear hbl KK ht
  have KK := KK'
  clear KK'
  clear HM
  have HM := HM'
  clear HM'
  go_wp2_with fail
  refine (hasAll_any F hf.ok w1.heap.size q la cb B _ KK.out (HB.out.on HM.out.1)).mono ?_
  rintro e w3 ⟨⟨t, rfl, ht⟩, hbl⟩
  obtain rfl : t = true := ht.2 IB.out
  have KK' := Lib.hid (KK.out.same hbl)
  have HM' := Lib.hid (HM.out.on hbl)
  clear hbl KK ht
  have KK := KK'
  clear KK'
  clear HM
  have HM := HM'
  clear HM'
  go_wp2_with fail
  have kl : w1.heap.size < w3.heap.size := KK.out.lt
  have ls : w.heap.size < w3.heap.size := HM.out.lt (b := w.heap.size) (c0 := 0) (c1 := 0) (c2 := 0) (c3 := 0) (by simp)
  have HM' := Lib.hid (HM.out.new w3.heap.size 0 0 0 0 24 rfl)
  have KK' := Lib.hid (KK.out.same ((Below.refl _ w3).alloc (Nat.le_refl _) (.cells #[.int .u64 (0 : Nat), .int .u64 (0 : Nat), .int .u64 (0 : Nat), .int .u64 (0 : Nat)] 24)))
  clear KK
  have KK := KK'
  clear KK'
  clear HM
  have HM := HM'
  clear HM'
  obtain ⟨W5, hW5⟩ : ∃ W5, W5 = (w3.alloc (.cells #[.int .u64 (0 : Nat), .int .u64 (0 : Nat), .int .u64 (0 : Nat), .int .u64 (0 : Nat)] 24)) := ⟨_, rfl⟩
  obtain ⟨gs, hgs⟩ : ∃ gs, gs = w3.heap.size := ⟨_, rfl⟩
  rw [← hgs] at HM kl ls ⊢
  clear hgs hW5 W5
  go_loopw [43] (fun t wr => ∃ (k s0 s1 s2 s3 : Nat), k ≤ la ∧ t = .int .i64 k ∧ ok4 s0 s1 s2 s3 ∧ Hid (val4 s0 s1 s2 s3 < F.M ∧ val4 s0 s1 s2 s3 * F.R % F.M = dotN F.M (elA A) (elA B) k) ∧ Hid (Mem w wr [(gs, s0, s1, s2, s3), (w.heap.size, 0, 0, 0, 0)]) ∧ Hid (KIs wr w1.heap.size F)) (fun t _ => la - (intOf t).toNat)
  case atStart => exact ⟨0, 0, 0, 0, 0, Nat.zero_le _, rfl, zok, Lib.hid ⟨hpos, by rw [show val4 0 0 0 0 = 0 from rfl, Nat.zero_mul, Nat.zero_mod]; rfl⟩, HM, KK⟩
  case round =>
    clear HM KK
    obtain ⟨k, s0, s1, s2, s3, hk, rfl, hs, HV, HM, KK⟩ := hrel
    by_cases hlt : k < la
    · obtain ⟨g, off, rfl, hg, hla⟩ := HA.out.2.2 (by omega)
      obtain ⟨g2, off2, rfl, hg2, hlb⟩ := HB.out.2.2 (by omega)
      obtain ⟨a0, a1, a2, a3, e0, e1, e2, e3⟩ : ∃ a0 a1 a2 a3 : Nat, a0 = A k 0 ∧ a1 = A k 1 ∧ a2 = A k 2 ∧ a3 = A k 3 := ⟨_, _, _, _, rfl, rfl, rfl, rfl⟩
      obtain ⟨b0, b1, b2, b3, d0, d1, d2, d3⟩ : ∃ b0 b1 b2 b3 : Nat, b0 = B k 0 ∧ b1 = B k 1 ∧ b2 = B k 2 ∧ b3 = B k 3 := ⟨_, _, _, _, rfl, rfl, rfl, rfl⟩
      have hoka := HA.out.2.1 k hlt
      have hokb := HB.out.2.1 k hlt
      have hva : elA A k = val4 a0 a1 a2 a3 := by unfold elA; rw [← e0, ← e1, ← e2, ← e3]
      have hvb : elA B k = val4 b0 b1 b2 b3 := by unfold elA; rw [← d0, ← d1, ← d2, ← d3]
      have hlb' : val4 b0 b1 b2 b3 < F.M := by rw [← hvb]; exact IB.out k hlt
      rw [← e0, ← e1, ← e2, ← e3] at hoka
      rw [← d0, ← d1, ← d2, ← d3] at hokb
      have HCA := Lib.hid (show ∀ wx, Below w.heap.size w wx → wx.cell? ⟨g, off + k * 4, none⟩ = some (.int .u64 (a0 : Nat)) ∧ wx.cell? ⟨g, off + k * 4 + 1, none⟩ = some (.int .u64 (a1 : Nat)) ∧ wx.cell? ⟨g, off + k * 4 + 2, none⟩ = some (.int .u64 (a2 : Nat)) ∧ wx.cell? ⟨g, off + k * 4 + 3, none⟩ = some (.int .u64 (a3 : Nat)) from fun wx hx => by
        have q := (hla.same (fun _ => hg) hx) k hlt
        rw [← e0, ← e1, ← e2, ← e3] at q
        exact q)
      have HCB := Lib.hid (show ∀ wx, Below w.heap.size w wx → wx.cell? ⟨g2, off2 + k * 4, none⟩ = some (.int .u64 (b0 : Nat)) ∧ wx.cell? ⟨g2, off2 + k * 4 + 1, none⟩ = some (.int .u64 (b1 : Nat)) ∧ wx.cell? ⟨g2, off2 + k * 4 + 2, none⟩ = some (.int .u64 (b2 : Nat)) ∧ wx.cell? ⟨g2, off2 + k * 4 + 3, none⟩ = some (.int .u64 (b3 : Nat)) from fun wx hx => by
        have q := (hlb.same (fun _ => hg2) hx) k hlt
        rw [← d0, ← d1, ← d2, ← d3] at q
        exact q)
      have HO := Lib.hid (And.intro hoka hokb)
      have HE := Lib.hid (And.intro hva (And.intro hvb hlb'))
      clear e0 e1 e2 e3 d0 d1 d2 d3 hla hlb hoka hokb hva hvb hlb'
      go_wp2_with fail
      refine region_till (fun wx => Below wr.heap.size wr wx) 11 (by kernel_rfl) ?_
      have HS := below_drewN' wr.heap.size wr 1
      have H8 := Lib.hid HS
      refine till_take (i := 0) (v := .agg #[.int .u64 s0, .int .u64 s1, .int .u64 s2, .int .u64 s3]) rfl (by kernel_rfl) (by kernel_rfl) (by kernel_rfl) (by kernel_rfl) (fun _ _ _ h => h) HS (Or.inl ⟨by kernel_rfl, fun wx hx => ?_⟩) ?_
      · have kr := (HM.out.on hx).row (b := gs) (c0 := s0) (c1 := s1) (c2 := s2) (c3 := s3) (by simp)
        have x0 := kr.c0; have x1 := kr.c1; have x2 := kr.c2; have x3 := kr.c3
        clear kr
        clear HS hx
        go_simp
      simp only [Act.put, List.setIfInBounds_toArray, List.set_cons_zero, List.set_cons_succ]
      refine till_take (i := 1) (v := .slice (some ⟨g, off, none⟩) la ca) rfl (by kernel_rfl) (by kernel_rfl) (by kernel_rfl) (by kernel_rfl) (fun _ _ _ h => h) HS (Or.inl ⟨by kernel_rfl, fun wx hx => ?_⟩) ?_
      · clear HS hx
        go_simp
      simp only [Act.put, List.setIfInBounds_toArray, List.set_cons_zero, List.set_cons_succ]
      refine till_take (i := 2) (v := .int .i64 k) rfl (by kernel_rfl) (by kernel_rfl) (by kernel_rfl) (by kernel_rfl) (fun _ _ _ h => h) HS (Or.inl ⟨by kernel_rfl, fun wx hx => ?_⟩) ?_
      · clear HS hx
        go_simp
      simp only [Act.put, List.setIfInBounds_toArray, List.set_cons_zero, List.set_cons_succ]
      refine till_take (i := 3) (v := .pointer (some ⟨g, off + k * 4, none⟩)) rfl (by kernel_rfl) (by kernel_rfl) (by kernel_rfl) (by kernel_rfl) (fun _ _ _ h => h) HS (Or.inl ⟨by kernel_rfl, fun wx hx => ?_⟩) ?_
      · clear HS hx
        go_simp
      simp only [Act.put, List.setIfInBounds_toArray, List.set_cons_zero, List.set_cons_succ]
      refine till_take (i := 4) (v := .agg #[.int .u64 a0, .int .u64 a1, .int .u64 a2, .int .u64 a3]) rfl (by kernel_rfl) (by kernel_rfl) (by kernel_rfl) (by kernel_rfl) (fun _ _ _ h => h) HS (Or.inl ⟨by kernel_rfl, fun wx hx => ?_⟩) ?_
      · have q := HCA.out wx (HM.out.on hx).1
        have x0 := q.1; have x1 := q.2.1; have x2 := q.2.2.1; have x3 := q.2.2.2
        clear q
        clear HS hx
        go_simp
      simp only [Act.put, List.setIfInBounds_toArray, List.set_cons_zero, List.set_cons_succ]
      refine till_take (i := 5) (v := .slice (some ⟨g2, off2, none⟩) la cb) rfl (by kernel_rfl) (by kernel_rfl) (by kernel_rfl) (by kernel_rfl) (fun _ _ _ h => h) HS (Or.inl ⟨by kernel_rfl, fun wx hx => ?_⟩) ?_
      · clear HS hx
        go_simp
      simp only [Act.put, List.setIfInBounds_toArray, List.set_cons_zero, List.set_cons_succ]
      refine till_take (i := 6) (v := .int .i64 k) rfl (by kernel_rfl) (by kernel_rfl) (by kernel_rfl) (by kernel_rfl) (fun _ _ _ h => h) HS (Or.inl ⟨by kernel_rfl, fun wx hx => ?_⟩) ?_
      · clear HS hx
        go_simp
      simp only [Act.put, List.setIfInBounds_toArray, List.set_cons_zero, List.set_cons_succ]
      refine till_take (i := 7) (v := .pointer (some ⟨g2, off2 + k * 4, none⟩)) rfl (by kernel_rfl) (by kernel_rfl) (by kernel_rfl) (by kernel_rfl) (fun _ _ _ h => h) HS (Or.inl ⟨by kernel_rfl, fun wx hx => ?_⟩) ?_
      · clear HS hx
        go_simp
      simp only [Act.put, List.setIfInBounds_toArray, List.set_cons_zero, List.set_cons_succ]
      refine till_take (i := 8) (v := .agg #[.int .u64 b0, .int .u64 b1, .int .u64 b2, .int .u64 b3]) rfl (by kernel_rfl) (by kernel_rfl) (by kernel_rfl) (by kernel_rfl) (fun _ _ _ h => h) HS (Or.inl ⟨by kernel_rfl, fun wx hx => ?_⟩) ?_
      · have q := HCB.out wx (HM.out.on hx).1
        have x0 := q.1; have x1 := q.2.1; have x2 := q.2.2.1; have x3 := q.2.2.2
        clear q
        clear HS hx
        go_simp
      simp only [Act.put, List.setIfInBounds_toArray, List.set_cons_zero, List.set_cons_succ]
      clear HS
      refine till_step (i := 9) (by kernel_rfl) rfl (fun K hK => ?_)
      go_simp
      refine (times_calls F hok w1.heap.size a0 a1 a2 a3 b0 b1 b2 b3 HO.out.1 HO.out.2 HE.out.2.2 _ (KK.out.same H8.out)).mono ?_
      rintro e v1 ⟨p0, p1, p2, p3, rfl, hp, hv, hbl⟩
      have HVp := Lib.hid hv
      clear hv
      have HS := H8.out.trans (hbl.mono H8.out.size)
      clear H8 hbl
      have H8 := Lib.hid HS
      refine hK.out _ _ (Or.inr HS) (fun _ => ?_)
      clear hK K
      clear HS
      refine till_step (i := 10) (by kernel_rfl) rfl (fun K hK => ?_)
      go_simp
      refine (plus_calls F hok w1.heap.size s0 s1 s2 s3 p0 p1 p2 p3 hs hp HV.out.1 (by rw [HVp.out]; exact Nat.mod_lt _ hpos) _ (KK.out.same H8.out)).mono ?_
      rintro e v2 ⟨u0, u1, u2, u3, rfl, hu, hv, hbl⟩
      have HVu := Lib.hid (show val4 u0 u1 u2 u3 < F.M ∧ val4 u0 u1 u2 u3 * F.R % F.M = dotN F.M (elA A) (elA B) (k + 1) by
        rw [hv, HVp.out]
        refine ⟨Nat.mod_lt _ hpos, ?_⟩
        rw [dot_step hok HV.out.2, ← HE.out.1, ← HE.out.2.1]
        rfl)
      clear hv
      have HS := H8.out.trans (hbl.mono H8.out.size)
      clear H8 hbl
      have H8 := Lib.hid HS
      refine hK.out _ _ (Or.inr HS) (fun _ => ?_)
      clear hK K
      clear HS
      have HM' := Lib.hid (HM.out.on H8.out)
      have KK' := Lib.hid (KK.out.same H8.out)
      clear HM KK H8
      have HM := HM'
      have KK := KK'
      clear HM' KK'
      have kr := HM.out.row (b := gs) (c0 := s0) (c1 := s1) (c2 := s2) (c3 := s3) (by simp)
      have y0 := kr.c0; have y1 := kr.c1; have y2 := kr.c2; have y3 := kr.c3; have yf := kr.fr
      clear kr
      have yl := HM.out.lt (b := gs) (c0 := s0) (c1 := s1) (c2 := s2) (c3 := s3) (by simp)
      refine till_step (i := 11) (by kernel_rfl) rfl (fun K hK => ?_)
      go_simp
      have HM' := Lib.hid (HM.out.put u0 u1 u2 u3 (by omega) (by intro r hr; simp at hr; subst hr; show w.heap.size ≠ gs; omega))
      have KK' := Lib.hid (KK.out.set4 (d := gs) (by omega) u0 u1 u2 u3)
      clear HM KK
      have HM := HM'
      have KK := KK'
      clear HM' KK'
      refine hK.out _ _ (Or.inl rfl) (fun _ => ?_)
      clear hK K
      refine till_done (by kernel_rfl) ?_
      go_wp2_with fail
      go_roundw
      case rel => exact ⟨k + 1, u0, u1, u2, u3, by omega, by go_num, hu, HVu, HM, KK⟩
      case measure => simp [intOf]; omega
    · obtain rfl : la = k := by omega
      obtain ⟨wo, rfl⟩ : ∃ wo, wo = wr := ⟨_, rfl⟩
      have kr := HM.out.row (b := gs) (c0 := s0) (c1 := s1) (c2 := s2) (c3 := s3) (by simp)
      have x0 := kr.c0; have x1 := kr.c1; have x2 := kr.c2; have x3 := kr.c3
      clear kr
      have xl := HM.out.lt (b := gs) (c0 := s0) (c1 := s1) (c2 := s2) (c3 := s3) (by simp)
      clear hk hlt
      go_wp2_with fail
      refine (into_calls F hok w1.heap.size s0 s1 s2 s3 hs _ KK.out).mono ?_
      rintro e w4 ⟨u0, u1, u2, u3, rfl, hu, hv, hbl⟩
      have HVu := Lib.hid (show val4 u0 u1 u2 u3 = dotN F.M (elA A) (elA B) la by rw [hv]; exact HV.out.2)
      have HM' := Lib.hid (HM.out.on hbl)
      clear hv hbl x0 x1 x2 x3 xl
      clear HM
      have HM := HM'
      clear HM'
      have kr := HM.out.row (b := w.heap.size) (c0 := 0) (c1 := 0) (c2 := 0) (c3 := 0) (by simp)
      have y0 := kr.c0; have y1 := kr.c1; have y2 := kr.c2; have y3 := kr.c3; have yf := kr.fr
      clear kr
      have yl := HM.out.lt (b := w.heap.size) (c0 := 0) (c1 := 0) (c2 := 0) (c3 := 0) (by simp)
      go_wp2_with fail
      refine bodyPost_ret (v := .tuple #[.agg #[.int .u64 u0, .int .u64 u1, .int .u64 u2, .int .u64 u3], .int .i64 0]) (by simp [results, Tryz.results256, go_sem, *]) rfl ?_
      refine ⟨_, _, _, _, rfl, hu, HVu.out, ?_⟩
      exact below_set4 HM.out.1 (Nat.le_refl _) _ _ _ _
end Go.Proofs.YtaingnhikbaplaaGreat
namespace Go.Proofs.YtaingnhikbaplaaGreat
set_option linter.unusedVariables false
set_option linter.unusedSimpArgs false
open Go.RowKit

/-- the world in the rounds of takeIn -/
structure LW (w wr : World) (s0 s1 s2 s3 a0 a1 a2 a3 b0 b1 b2 b3 : Nat) : Prop where
  below : Below w.heap.size w wr
  size : w.heap.size + 1 + 1 + 1 < wr.heap.size
  rowS : Row4 wr w.heap.size s0 s1 s2 s3
  rowA : Row4 wr (w.heap.size + 1) a0 a1 a2 a3
  rowB : Row4 wr (w.heap.size + 1 + 1) b0 b1 b2 b3
  rowO : Row4 wr (w.heap.size + 1 + 1 + 1) 0 0 0 0
theorem below4 (w : World) (o1 o2 o3 o4 : Obj) : Below w.heap.size w ((((w.alloc o1).alloc o2).alloc o3).alloc o4) :=
  (below3 w o1 o2 o3).alloc (by simp; omega) o4
/-- the k highest words -/
def topN (a0 a1 a2 a3 : Nat) : Nat → Nat
  | 0 => 0
  | 1 => a3
  | 2 => a3 * 18446744073709551616 + a2
  | 3 => (a3 * 18446744073709551616 + a2) * 18446744073709551616 + a1
  | _ => ((a3 * 18446744073709551616 + a2) * 18446744073709551616 + a1) * 18446744073709551616 + a0
def wordN (a0 a1 a2 a3 : Nat) : Nat → Nat
  | 0 => a3
  | 1 => a2
  | 2 => a1
  | _ => a0
theorem topN_succ (a0 a1 a2 a3 : Nat) {k : Nat} (h : k < 4) : topN a0 a1 a2 a3 (k + 1) = topN a0 a1 a2 a3 k * 18446744073709551616 + wordN a0 a1 a2 a3 k := by
  match k, h with
  | 0, _ => simp [topN, wordN]
  | 1, _ => rfl
  | 2, _ => rfl
  | 3, _ => rfl
theorem wordN_lt {a0 a1 a2 a3 : Nat} (h : ok4 a0 a1 a2 a3) (k : Nat) : wordN a0 a1 a2 a3 k < 18446744073709551616 := by
  obtain ⟨h0, h1, h2, h3⟩ := h
  match k with
  | 0 => exact h3
  | 1 => exact h2
  | 2 => exact h1
  | k + 3 => exact h0
theorem mod_step (n m x b : Nat) : ((n % b) * m + x) % b = (n * m + x) % b := by
  rw [Nat.add_mod, Nat.mul_mod, Nat.mod_mod, ← Nat.mul_mod, ← Nat.add_mod]
def TIn (R b : Nat) (a0 a1 a2 a3 k v : Nat) : Prop := v < b ∧ v = (R * 18446744073709551616 ^ k + topN a0 a1 a2 a3 k) % b
theorem tin_next {R b k v x : Nat} {a0 a1 a2 a3 : Nat} (h : TIn R b a0 a1 a2 a3 k v) (hk : k < 4) (hb : 0 < b) (hx : x = wordN a0 a1 a2 a3 k) : TIn R b a0 a1 a2 a3 (k + 1) ((v * 18446744073709551616 + x) % b) := by
  refine ⟨Nat.mod_lt _ hb, ?_⟩
  rw [h.2, mod_step, topN_succ _ _ _ _ hk, hx, Nat.pow_succ, Nat.add_mul, Nat.mul_assoc, Nat.add_assoc]
theorem tin_end {R b v : Nat} {a0 a1 a2 a3 : Nat} (h : TIn R b a0 a1 a2 a3 4 v) : v = (R * 115792089237316195423570985008687907853269984665640564039457584007913129639936 + val4 a0 a1 a2 a3) % b := by
  rw [h.2, show 18446744073709551616 ^ 4 = 115792089237316195423570985008687907853269984665640564039457584007913129639936 by simp, show topN a0 a1 a2 a3 4 = val4 a0 a1 a2 a3 by show ((a3 * 18446744073709551616 + a2) * 18446744073709551616 + a1) * 18446744073709551616 + a0 = _; unfold val4; omega]

theorem row_word {w : World} {g : Nat} {a0 a1 a2 a3 : Nat} (rA : Row4 w g a0 a1 a2 a3) (k : Nat) (hk : k < 4) : ∃ j x, j + k = 3 ∧ x = wordN a0 a1 a2 a3 k ∧ w.cell? ⟨g, j, none⟩ = some (.int .u64 (x : Nat)) := by
  match k, hk with
  | 0, _ => exact ⟨3, _, rfl, rfl, rA.c3⟩
  | 1, _ => exact ⟨2, _, rfl, rfl, rA.c2⟩
  | 2, _ => exact ⟨1, _, rfl, rfl, rA.c1⟩
  | 3, _ => exact ⟨0, _, rfl, rfl, rA.c0⟩

set_option maxRecDepth 100000 in
set_option maxHeartbeats 1000000 in
theorem takeIn_calls (r0 r1 r2 r3 a0 a1 a2 a3 b0 b1 b2 b3 : Nat) (hr : ok4 r0 r1 r2 r3) (ha : ok4 a0 a1 a2 a3) (hb : ok4 b0 b1 b2 b3) (h3 : 9223372036854775808 ≤ b3) (hlt : val4 r0 r1 r2 r3 < val4 b0 b1 b2 b3) (w : World) :
    Calls Tryz.prog 315 #[.agg #[.int .u64 r0, .int .u64 r1, .int .u64 r2, .int .u64 r3], .agg #[.int .u64 a0, .int .u64 a1, .int .u64 a2, .int .u64 a3], .agg #[.int .u64 b0, .int .u64 b1, .int .u64 b2, .int .u64 b3]] w (WordPost (fun n => n = (val4 r0 r1 r2 r3 * 115792089237316195423570985008687907853269984665640564039457584007913129639936 + val4 a0 a1 a2 a3) % val4 b0 b1 b2 b3) w) := by
  go_enter Tryz.func315, Tryz.ntmps315
  go_wp2_with fail
  go_loopw [8] (fun i wr => ∃ k s0 s1 s2 s3 : Nat, k ≤ 4 ∧ i = .int .i64 k ∧ ok4 s0 s1 s2 s3 ∧ Hid (TIn (val4 r0 r1 r2 r3) (val4 b0 b1 b2 b3) a0 a1 a2 a3 k (val4 s0 s1 s2 s3)) ∧ LW w wr s0 s1 s2 s3 a0 a1 a2 a3 b0 b1 b2 b3) (fun i _ => 4 - (intOf i).toNat)
  case atStart =>
    refine ⟨0, r0, r1, r2, r3, by omega, rfl, hr, Lib.hid ⟨hlt, by show _ = (_ * 18446744073709551616 ^ 0 + 0) % _; rw [Nat.pow_zero, Nat.mul_one, Nat.add_zero, Nat.mod_eq_of_lt hlt]⟩, ⟨below4 _ _ _ _ _, by simp, ?_, ?_, ?_, ?_⟩⟩
    all_goals exact ⟨by simp [go_sem], by simp [go_sem], by simp [go_sem], by simp [go_sem], fun k => by simp [go_sem]⟩
  case round =>
    obtain ⟨k, s0, s1, s2, s3, hk, rfl, hs, ti, lw⟩ := hrel
    have hsz := lw.size
    obtain ⟨x0, x1, x2, x3, xf⟩ := lw.rowS
    obtain ⟨z0, z1, z2, z3, zf⟩ := lw.rowB
    by_cases hlt' : k < 4
    · obtain ⟨j, x, hj, hx, cx⟩ := row_word lw.rowA k hlt'
      have wj : IntKind.i64.wrap (3 - (k : Int)) = (j : Int) := by simp [IntKind.wrap, IntKind.bits, IntKind.signed]; omega
      have bj : (j : Int) < 4 := by omega
      have bx : x < 18446744073709551616 := by rw [hx]; exact wordN_lt ha k
      have Hx := Lib.hid hx
      have HL := Lib.hid lw
      clear lw hx hj
      go_wp2_with fail
      refine wp_region_still_tail 6 (by kernel_rfl) (by kernel_rfl) ?_
      simp only [List.take_succ_cons, List.take_zero, List.drop_succ_cons, List.drop_zero]
      change wpStill _ _ wr.drew _ _ _
      repeat still_step
      refine wpStill_nil ?_
      change wpList _ _ _ _ _ wr.drew
      go_wp2_with fail
      refine (takeWord_calls s0 s1 s2 s3 x b0 b1 b2 b3 hs bx hb h3 ti.out.1 _).mono ?_
      rintro e w3 ⟨n0, n1, n2, n3, rfl, hn, en, hbl⟩
      have hz3 : wr.heap.size ≤ w3.heap.size := hbl.size
      have S3 := HL.out.rowS.drewN 1 |>.below hbl (show w.heap.size < wr.heap.size by omega)
      have T3 : LW w (set4 w3 w.heap.size n0 n1 n2 n3) n0 n1 n2 n3 a0 a1 a2 a3 b0 b1 b2 b3 :=
        ⟨below_set4 ((HL.out.below.drew).trans (hbl.mono HL.out.below.size)) (Nat.le_refl _) _ _ _ _, by unfold set4; simp only [World.size_setCell]; omega, S3.set4 _ _ _ _,
          (HL.out.rowA.drewN 1 |>.below hbl (show w.heap.size + 1 < wr.heap.size by omega)).set4_other (by omega) _ _ _ _,
          (HL.out.rowB.drewN 1 |>.below hbl (show w.heap.size + 1 + 1 < wr.heap.size by omega)).set4_other (by omega) _ _ _ _,
          (HL.out.rowO.drewN 1 |>.below hbl (show w.heap.size + 1 + 1 + 1 < wr.heap.size by omega)).set4_other (by omega) _ _ _ _⟩
      have HT := Lib.hid T3
      have Hti := Lib.hid (tin_next ti.out hlt' (by have := ti.out.1; omega) Hx.out)
      rw [← en] at Hti
      obtain ⟨v0, v1, v2, v3, vf⟩ := S3
      clear hbl en T3 ti
      go_wp2_with fail
      go_roundw
      case rel => exact ⟨k + 1, n0, n1, n2, n3, by omega, by go_num, hn, Hti, HT.out⟩
      case measure => simp [intOf]; omega
    · obtain rfl : k = 4 := by omega
      have HF := Lib.hid (tin_end ti.out)
      obtain ⟨o0, o1, o2, o3, of⟩ := lw.rowO
      have HB := Lib.hid lw.below
      clear ti lw
      go_wp2_with fail
      refine bodyPost_ret (v := .agg #[.int .u64 s0, .int .u64 s1, .int .u64 s2, .int .u64 s3]) (by simp [results, Tryz.results315, go_sem, *]) rfl ?_
      exact ⟨s0, s1, s2, s3, rfl, hs, HF.out, below_set4 HB.out (by omega) _ _ _ _⟩
end Go.Proofs.YtaingnhikbaplaaGreat
