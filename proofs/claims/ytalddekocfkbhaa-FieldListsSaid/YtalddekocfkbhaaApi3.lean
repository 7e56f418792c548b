/-
  The calls Legendre and Sqrt. Conditions: words below 2^64.
-/
import Derived.Test.YtalddekocfkbhaaApi2
import Derived.Deep.DeepCutAuto
namespace Go.Proofs.Ytalddekocfkbhaa
set_option linter.unusedVariables false
set_option linter.unusedSimpArgs false
open Go.RowKit

theorem KIs.set4 {w : World} {b d : Nat} {F : FC} (h : KIs w b F) (hd : d ≠ b) (d0 d1 d2 d3 : Nat) : KIs (Go.Proofs.Ytalddekocfkbhaa.set4 w d d0 d1 d2 d3) b F := (((h.other hd _).other hd _).other hd _).other hd _
theorem kp_eq_zero {F : FC} (hF : F.Ok) {a0 a1 a2 a3 A : Nat} (ha : ok4 a0 a1 a2 a3) (hA : val4 a0 a1 a2 a3 = kp F A) : eqW a0 a1 a2 a3 0 0 0 0 = true ↔ A % F.M = 0 := by
  rw [eqW_iff ha zok, hA, show val4 0 0 0 0 = 0 from rfl, ← kp_mod F A]
  exact ⟨fun h => kp_inj hF (Nat.mod_lt _ hF.pos) hF.pos (h.trans (kp_zero F).symm), fun h => by rw [h, kp_zero]⟩

set_option maxRecDepth 100000 in
set_option maxHeartbeats 2000000 in
theorem fleg_err (f c : Int) (a0 a1 a2 a3 : Nat) (ha : ok4 a0 a1 a2 a3) (h : Bad1 f (val4 a0 a1 a2 a3) c) (w : World) :
    Calls Try.prog 11 #[.int .i64 f, .agg #[.int .u64 a0, .int .u64 a1, .int .u64 a2, .int .u64 a3]] w fun e w' => e = .returned (.tuple #[.int .i64 0, .int .i64 c]) ∧ Below w.heap.size w w' := by
  rcases h with ⟨h1, h2, rfl⟩ | ⟨F, hf, la, rfl⟩
  · go_enter Try.func11, Try.ntmps11
    go_wp2_with fail
    refine (cons_none f h1 h2 _).mono ?_
    rintro e w1 ⟨rfl, hbl⟩
    have M1 := ((Mem.nil w).new (w.heap.size) a0 a1 a2 a3 25 (by simp)).on hbl
    clear hbl
    have z0 : w.heap.size < w1.heap.size := M1.lt (c0 := a0) (c1 := a1) (c2 := a2) (c3 := a3) (by simp)
    have HM := Lib.hid (M1.on ((Below.refl _ _).alloc (Nat.le_refl _) (.cells #[.int .u64 0, .int .u64 0, .int .u64 0, .int .u64 0, .int .u64 0, .int .u64 0, .int .u64 0, .int .u64 0, .int .u64 0] 85)))
    go_wp2_with fail
    refine (refusal_one _).mono ?_
    rintro e w2 ⟨rfl, rfl⟩
    go_wp2_with fail
    refine bodyPost_ret (v := .tuple #[.int .i64 0, .int .i64 1]) (by simp [results, Try.results11, go_sem, *]) rfl ?_
    exact ⟨rfl, HM.out.1⟩
  · go_enter Try.func11, Try.ntmps11
    go_wp2_with fail
    refine (cons_some f F hf _).mono ?_
    rintro e w1 ⟨rfl, hbl⟩
    have M1 := ((Mem.nil w).new (w.heap.size) a0 a1 a2 a3 25 (by simp)).on hbl
    clear hbl
    have z0 : w.heap.size < w1.heap.size := M1.lt (c0 := a0) (c1 := a1) (c2 := a2) (c3 := a3) (by simp)
    have HM := Lib.hid (M1.on ((Below.refl _ _).alloc (Nat.le_refl _) (.cells #[.int .u64 F.m0, .int .u64 F.m1, .int .u64 F.m2, .int .u64 F.m3, .int .u64 F.inv, .int .u64 F.s0, .int .u64 F.s1, .int .u64 F.s2, .int .u64 F.s3] 85)))
    have KK := Lib.hid (KIs.new w1 F 85)
    have kr := M1.row (b := w.heap.size) (c0 := a0) (c1 := a1) (c2 := a2) (c3 := a3) (by simp)
    have x0 := kr.c0; have x1 := kr.c1; have x2 := kr.c2; have x3 := kr.c3
    clear kr
    have xl := M1.lt (b := w.heap.size) (c0 := a0) (c1 := a1) (c2 := a2) (c3 := a3) (by simp)
    go_wp2_with fail
    refine (has_calls F hf.ok w1.heap.size a0 a1 a2 a3 ha _ KK.out).mono ?_
    rintro e w2 ⟨he, hbl⟩
    rw [show isB (val4 a0 a1 a2 a3) F.M = false from decide_eq_false la] at he
    subst he
    have HM' := Lib.hid (HM.out.on hbl)
    have KK' := Lib.hid (KK.out.same hbl)
    have zk := KK'.out.lt
    clear HM KK hbl M1
    have HM := HM'
    have KK := KK'
    clear HM' KK'
    clear x0 x1 x2 x3 xl zk
    go_wp2_with fail
    refine (refusal_two _).mono ?_
    rintro e w3 ⟨rfl, rfl⟩
    go_wp2_with fail
    refine bodyPost_ret (v := .tuple #[.int .i64 0, .int .i64 21]) (by simp [results, Try.results11, go_sem, *]) rfl ?_
    exact ⟨rfl, HM.out.1⟩
theorem eqW_false {a0 a1 a2 a3 b0 b1 b2 b3 : Nat} (h : ¬ eqW a0 a1 a2 a3 b0 b1 b2 b3 = true) : eqW a0 a1 a2 a3 b0 b1 b2 b3 = false := by cases q : eqW a0 a1 a2 a3 b0 b1 b2 b3 with | false => rfl | true => exact absurd q h
set_option maxRecDepth 100000 in
set_option maxHeartbeats 2000000 in
theorem fleg0_ok (f : Int) (F : FC) (hf : FieldIs f F) (a0 a1 a2 a3 : Nat) (ha : ok4 a0 a1 a2 a3) (la : val4 a0 a1 a2 a3 < F.M) (hh : val4 a0 a1 a2 a3 ^ (F.M / 2) % F.M = 0) (w : World) :
    Calls Try.prog 11 #[.int .i64 f, .agg #[.int .u64 a0, .int .u64 a1, .int .u64 a2, .int .u64 a3]] w (fun e w' => e = .returned (.tuple #[.int .i64 0, .int .i64 0]) ∧ Below w.heap.size w w') := by
  have HH := Lib.hid hh
  have hG := eqGuardK
  clear hh
  go_enter Try.func11, Try.ntmps11
  go_wp2_with fail
  refine (cons_some f F hf _).mono ?_
  rintro e w1 ⟨rfl, hbl⟩
  have M1 := ((Mem.nil w).new (w.heap.size) a0 a1 a2 a3 25 (by simp)).on hbl
  clear hbl
  have z0 : w.heap.size < w1.heap.size := M1.lt (c0 := a0) (c1 := a1) (c2 := a2) (c3 := a3) (by simp)
  have HM := Lib.hid (M1.on ((Below.refl _ _).alloc (Nat.le_refl _) (.cells #[.int .u64 F.m0, .int .u64 F.m1, .int .u64 F.m2, .int .u64 F.m3, .int .u64 F.inv, .int .u64 F.s0, .int .u64 F.s1, .int .u64 F.s2, .int .u64 F.s3] 85)))
  have KK := Lib.hid (KIs.new w1 F 85)
  have kr := M1.row (b := w.heap.size) (c0 := a0) (c1 := a1) (c2 := a2) (c3 := a3) (by simp)
  have x0 := kr.c0; have x1 := kr.c1; have x2 := kr.c2; have x3 := kr.c3
  clear kr
  have xl := M1.lt (b := w.heap.size) (c0 := a0) (c1 := a1) (c2 := a2) (c3 := a3) (by simp)
  go_wp2_with fail
  refine (has_calls F hf.ok w1.heap.size a0 a1 a2 a3 ha _ KK.out).mono ?_
  rintro e w2 ⟨he, hbl⟩
  rw [show isB (val4 a0 a1 a2 a3) F.M = true from decide_eq_true la] at he
  subst he
  have HM' := Lib.hid (HM.out.on hbl)
  have KK' := Lib.hid (KK.out.same hbl)
  have zk := KK'.out.lt
  clear HM KK hbl M1
  have HM := HM'
  have KK := KK'
  clear HM' KK'
  clear x0 x1 x2 x3 xl zk
  have hw0 : w.heap.size < w1.heap.size := z0
  go_upto_region 4 with fail
  go_cut [8] (fun s8 wx => ∃ gb s0 s1 s2 s3 : Nat, s8 = .pointer (some ⟨gb, 0, none⟩) ∧ ok4 s0 s1 s2 s3 ∧ Hid (val4 s0 s1 s2 s3 = kp F (val4 a0 a1 a2 a3 ^ (F.M / 2))) ∧ Hid (Mem w wx [(gb, s0, s1, s2, s3), (w.heap.size, a0, a1, a2, a3)]) ∧ Hid (KIs wx w1.heap.size F))
  case first =>
    refine region_till (fun wx => Mem w wx [(w.heap.size, a0, a1, a2, a3)] ∧ KIs wx w1.heap.size F) 7 (by kernel_rfl) ?_
    have HM' := Lib.hid (HM.out.drewN 1)
    have KK' := Lib.hid (KK.out.drewN 1)
    clear HM KK
    have HM := HM'
    have KK := KK'
    clear HM' KK'
    have HS := And.intro (HM.out.sub (rs' := [(w.heap.size, a0, a1, a2, a3)]) (by simp)) KK.out
    refine till_take (i := 0) (v := .agg #[.int .u64 a0, .int .u64 a1, .int .u64 a2, .int .u64 a3]) rfl (by kernel_rfl) (by kernel_rfl) (by kernel_rfl) (by kernel_rfl) (fun _ _ _ h => h) HS (Or.inl ⟨by kernel_rfl, fun wx hx => ?_⟩) ?_
    · have kr := hx.1.row (b := w.heap.size) (c0 := a0) (c1 := a1) (c2 := a2) (c3 := a3) (by simp)
      have x0 := kr.c0; have x1 := kr.c1; have x2 := kr.c2; have x3 := kr.c3
      clear kr HS hx
      go_simp
    simp only [Act.put, List.setIfInBounds_toArray, List.set_cons_zero, List.set_cons_succ]
    refine till_take (i := 2) (v := .pointer (some ⟨w1.heap.size, 0, none⟩)) rfl (by kernel_rfl) (by kernel_rfl) (by kernel_rfl) (by kernel_rfl) (fun _ _ _ h => h) HS (Or.inl ⟨by kernel_rfl, fun wx hx => ?_⟩) ?_
    · clear HS hx
      go_simp
    simp only [Act.put, List.setIfInBounds_toArray, List.set_cons_zero, List.set_cons_succ]
    refine till_take (i := 3) (v := .agg #[.int .u64 F.m0, .int .u64 F.m1, .int .u64 F.m2, .int .u64 F.m3]) rfl (by kernel_rfl) (by kernel_rfl) (by kernel_rfl) (by kernel_rfl) (fun _ _ _ h => h) HS (Or.inl ⟨by kernel_rfl, fun wx hx => ?_⟩) ?_
    · have x0 := hx.2.k0; have x1 := hx.2.k1; have x2 := hx.2.k2; have x3 := hx.2.k3
      clear HS hx
      go_simp
    simp only [Act.put, List.setIfInBounds_toArray, List.set_cons_zero, List.set_cons_succ]
    clear HS
    refine till_two (i := 1) (j := 6) (by kernel_rfl) rfl rfl (fun K hK => ?_) (fun K hK => ?_)
    · go_simp
      refine (into_calls F hf.ok w1.heap.size a0 a1 a2 a3 ha _ KK.out).mono ?_
      rintro e v1 ⟨i0, i1, i2, i3, rfl, hi, hv, hbl⟩
      have HVi := Lib.hid hv
      clear hv
      have HM' := Lib.hid (HM.out.on hbl)
      have KK' := Lib.hid (KK.out.same hbl)
      clear HM KK hbl
      have HM := HM'
      have KK := KK'
      clear HM' KK'
      have HS := And.intro (HM.out.sub (rs' := [(w.heap.size, a0, a1, a2, a3)]) (by simp)) KK.out
      refine hK.out _ _ (Or.inr HS) (fun _ => ?_)
      clear hK K HS
      refine till_two (i := 4) (j := 6) (by kernel_rfl) rfl rfl (fun K hK => ?_) (fun K hK => ?_)
      · go_simp
        refine (shr_calls F.m0 F.m1 F.m2 F.m3 1 hf.ok.okm (by omega) (by omega) _).mono ?_
        rintro e v2 ⟨n0, n1, n2, n3, rfl, hn, hv, hbl⟩
        have HVn := Lib.hid (show val4 n0 n1 n2 n3 = F.M / 2 by rw [hv]; rfl)
        clear hv
        have HM' := Lib.hid (HM.out.on hbl)
        have KK' := Lib.hid (KK.out.same hbl)
        clear HM KK hbl
        have HM := HM'
        have KK := KK'
        clear HM' KK'
        have HS := And.intro (HM.out.sub (rs' := [(w.heap.size, a0, a1, a2, a3)]) (by simp)) KK.out
        refine hK.out _ _ (Or.inr HS) (fun _ => ?_)
        clear hK K HS
        refine till_two (i := 5) (j := 6) (by kernel_rfl) rfl rfl (fun K hK => ?_) (fun K hK => ?_)
        · go_simp
          refine (power_calls F hf.ok (val4 a0 a1 a2 a3) w1.heap.size i0 i1 i2 i3 n0 n1 n2 n3 hi hn HVi.out _ KK.out).mono ?_
          rintro e v3 ⟨s0, s1, s2, s3, rfl, hs, hv, hbl⟩
          have HVs := Lib.hid (show val4 s0 s1 s2 s3 = kp F (val4 a0 a1 a2 a3 ^ (F.M / 2)) by rw [hv, HVn.out])
          clear hv
          have HM' := Lib.hid (HM.out.on hbl)
          have KK' := Lib.hid (KK.out.same hbl)
          clear HM KK hbl
          have HM := HM'
          have KK := KK'
          clear HM' KK'
          have HS := And.intro (HM.out.sub (rs' := [(w.heap.size, a0, a1, a2, a3)]) (by simp)) KK.out
          refine hK.out _ _ (Or.inr HS) (fun _ => ?_)
          clear hK K HS
          refine till_step (i := 6) (by kernel_rfl) rfl (fun K hK => ?_)
          go_simp
          have HM9 := HM
          have KK9 := KK
          have HM' := Lib.hid (HM.out.new (v3.heap.size) 0 0 0 0 83 (by first | rfl | (simp; done)))
          have KK' := Lib.hid (KK.out.same ((Below.refl _ _).alloc (Nat.le_refl _) (.cells #[.int .u64 (0 : Nat), .int .u64 (0 : Nat), .int .u64 (0 : Nat), .int .u64 (0 : Nat)] 83)))
          have hgk : w1.heap.size < (v3.heap.size) := by first | exact KK.out.lt | (have := KK.out.lt; simpa using this)
          clear HM KK
          have HM := HM'
          have KK := KK'
          clear HM' KK'
          have HS := And.intro (HM.out.sub (rs' := [(w.heap.size, a0, a1, a2, a3)]) (by simp)) KK.out
          refine hK.out _ _ (Or.inr HS) (fun _ => ?_)
          clear hK K HS
          have kr := HM.out.row (b := (v3.heap.size)) (c0 := 0) (c1 := 0) (c2 := 0) (c3 := 0) (by simp)
          have yl := HM.out.lt (b := (v3.heap.size)) (c0 := 0) (c1 := 0) (c2 := 0) (c3 := 0) (by simp)
          have y0 := kr.c0; have y1 := kr.c1; have y2 := kr.c2; have y3 := kr.c3; have yf := kr.fr
          clear kr
          refine till_step (i := 7) (by kernel_rfl) rfl (fun K hK => ?_)
          go_simp
          have HM' := Lib.hid (HM9.out.new (v3.heap.size) s0 s1 s2 s3 83 (by first | rfl | (simp; done)))
          have KK' := Lib.hid (KK9.out.same ((Below.refl _ _).alloc (Nat.le_refl _) (.cells #[.int .u64 s0, .int .u64 s1, .int .u64 s2, .int .u64 s3] 83)))
          clear HM KK
          have HM := HM'
          have KK := KK'
          clear HM' KK'
          refine hK.out _ _ (Or.inl rfl) (fun _ => ?_)
          clear hK K
          refine till_done (by kernel_rfl) ?_
          go_wp2_with fail
          go_meet
          exact ⟨(v3.heap.size), s0, s1, s2, s3, rfl, hs, HVs, HM, KK⟩
        · go_simp
          have HM9 := HM
          have KK9 := KK
          have HM' := Lib.hid (HM.out.new (v2.heap.size) 0 0 0 0 83 (by first | rfl | (simp; done)))
          have KK' := Lib.hid (KK.out.same ((Below.refl _ _).alloc (Nat.le_refl _) (.cells #[.int .u64 (0 : Nat), .int .u64 (0 : Nat), .int .u64 (0 : Nat), .int .u64 (0 : Nat)] 83)))
          have hgk : w1.heap.size < (v2.heap.size) := by first | exact KK.out.lt | (have := KK.out.lt; simpa using this)
          clear HM KK
          have HM := HM'
          have KK := KK'
          clear HM' KK'
          have HS := And.intro (HM.out.sub (rs' := [(w.heap.size, a0, a1, a2, a3)]) (by simp)) KK.out
          refine hK.out _ _ (Or.inr HS) (fun _ => ?_)
          clear hK K HS
          refine till_step (i := 5) (by kernel_rfl) rfl (fun K hK => ?_)
          go_simp
          refine (power_calls F hf.ok (val4 a0 a1 a2 a3) w1.heap.size i0 i1 i2 i3 n0 n1 n2 n3 hi hn HVi.out _ KK.out).mono ?_
          rintro e v3 ⟨s0, s1, s2, s3, rfl, hs, hv, hbl⟩
          have HVs := Lib.hid (show val4 s0 s1 s2 s3 = kp F (val4 a0 a1 a2 a3 ^ (F.M / 2)) by rw [hv, HVn.out])
          clear hv
          have HM' := Lib.hid (HM.out.on hbl)
          have KK' := Lib.hid (KK.out.same hbl)
          clear HM KK hbl
          have HM := HM'
          have KK := KK'
          clear HM' KK'
          have HS := And.intro (HM.out.sub (rs' := [(w.heap.size, a0, a1, a2, a3)]) (by simp)) KK.out
          refine hK.out _ _ (Or.inr HS) (fun _ => ?_)
          clear hK K HS
          have kr := HM.out.row (b := (v2.heap.size)) (c0 := 0) (c1 := 0) (c2 := 0) (c3 := 0) (by simp)
          have yl := HM.out.lt (b := (v2.heap.size)) (c0 := 0) (c1 := 0) (c2 := 0) (c3 := 0) (by simp)
          have y0 := kr.c0; have y1 := kr.c1; have y2 := kr.c2; have y3 := kr.c3; have yf := kr.fr
          clear kr
          refine till_step (i := 7) (by kernel_rfl) rfl (fun K hK => ?_)
          go_simp
          have HM' := Lib.hid (HM.out.put s0 s1 s2 s3 (by omega) (by intro r hr; simp at hr; rcases hr with rfl <;> simp <;> omega))
          have KK' := Lib.hid (KK.out.set4 (d := (v2.heap.size)) (by omega) s0 s1 s2 s3)
          clear HM KK
          have HM := HM'
          have KK := KK'
          clear HM' KK'
          refine hK.out _ _ (Or.inl rfl) (fun _ => ?_)
          clear hK K
          refine till_done (by kernel_rfl) ?_
          go_wp2_with fail
          go_meet
          exact ⟨(v2.heap.size), s0, s1, s2, s3, rfl, hs, HVs, HM, KK⟩
      · go_simp
        have HM9 := HM
        have KK9 := KK
        have HM' := Lib.hid (HM.out.new (v1.heap.size) 0 0 0 0 83 (by first | rfl | (simp; done)))
        have KK' := Lib.hid (KK.out.same ((Below.refl _ _).alloc (Nat.le_refl _) (.cells #[.int .u64 (0 : Nat), .int .u64 (0 : Nat), .int .u64 (0 : Nat), .int .u64 (0 : Nat)] 83)))
        have hgk : w1.heap.size < (v1.heap.size) := by first | exact KK.out.lt | (have := KK.out.lt; simpa using this)
        clear HM KK
        have HM := HM'
        have KK := KK'
        clear HM' KK'
        have HS := And.intro (HM.out.sub (rs' := [(w.heap.size, a0, a1, a2, a3)]) (by simp)) KK.out
        refine hK.out _ _ (Or.inr HS) (fun _ => ?_)
        clear hK K HS
        refine till_step (i := 4) (by kernel_rfl) rfl (fun K hK => ?_)
        go_simp
        refine (shr_calls F.m0 F.m1 F.m2 F.m3 1 hf.ok.okm (by omega) (by omega) _).mono ?_
        rintro e v2 ⟨n0, n1, n2, n3, rfl, hn, hv, hbl⟩
        have HVn := Lib.hid (show val4 n0 n1 n2 n3 = F.M / 2 by rw [hv]; rfl)
        clear hv
        have HM' := Lib.hid (HM.out.on hbl)
        have KK' := Lib.hid (KK.out.same hbl)
        clear HM KK hbl
        have HM := HM'
        have KK := KK'
        clear HM' KK'
        have HS := And.intro (HM.out.sub (rs' := [(w.heap.size, a0, a1, a2, a3)]) (by simp)) KK.out
        refine hK.out _ _ (Or.inr HS) (fun _ => ?_)
        clear hK K HS
        refine till_step (i := 5) (by kernel_rfl) rfl (fun K hK => ?_)
        go_simp
        refine (power_calls F hf.ok (val4 a0 a1 a2 a3) w1.heap.size i0 i1 i2 i3 n0 n1 n2 n3 hi hn HVi.out _ KK.out).mono ?_
        rintro e v3 ⟨s0, s1, s2, s3, rfl, hs, hv, hbl⟩
        have HVs := Lib.hid (show val4 s0 s1 s2 s3 = kp F (val4 a0 a1 a2 a3 ^ (F.M / 2)) by rw [hv, HVn.out])
        clear hv
        have HM' := Lib.hid (HM.out.on hbl)
        have KK' := Lib.hid (KK.out.same hbl)
        clear HM KK hbl
        have HM := HM'
        have KK := KK'
        clear HM' KK'
        have HS := And.intro (HM.out.sub (rs' := [(w.heap.size, a0, a1, a2, a3)]) (by simp)) KK.out
        refine hK.out _ _ (Or.inr HS) (fun _ => ?_)
        clear hK K HS
        have kr := HM.out.row (b := (v1.heap.size)) (c0 := 0) (c1 := 0) (c2 := 0) (c3 := 0) (by simp)
        have yl := HM.out.lt (b := (v1.heap.size)) (c0 := 0) (c1 := 0) (c2 := 0) (c3 := 0) (by simp)
        have y0 := kr.c0; have y1 := kr.c1; have y2 := kr.c2; have y3 := kr.c3; have yf := kr.fr
        clear kr
        refine till_step (i := 7) (by kernel_rfl) rfl (fun K hK => ?_)
        go_simp
        have HM' := Lib.hid (HM.out.put s0 s1 s2 s3 (by omega) (by intro r hr; simp at hr; rcases hr with rfl <;> simp <;> omega))
        have KK' := Lib.hid (KK.out.set4 (d := (v1.heap.size)) (by omega) s0 s1 s2 s3)
        clear HM KK
        have HM := HM'
        have KK := KK'
        clear HM' KK'
        refine hK.out _ _ (Or.inl rfl) (fun _ => ?_)
        clear hK K
        refine till_done (by kernel_rfl) ?_
        go_wp2_with fail
        go_meet
        exact ⟨(v1.heap.size), s0, s1, s2, s3, rfl, hs, HVs, HM, KK⟩
    · go_simp
      have HM9 := HM
      have KK9 := KK
      have HM' := Lib.hid (HM.out.new (w2.heap.size) 0 0 0 0 83 (by first | rfl | (simp; done)))
      have KK' := Lib.hid (KK.out.same ((Below.refl _ _).alloc (Nat.le_refl _) (.cells #[.int .u64 (0 : Nat), .int .u64 (0 : Nat), .int .u64 (0 : Nat), .int .u64 (0 : Nat)] 83)))
      have hgk : w1.heap.size < (w2.heap.size) := by first | exact KK.out.lt | (have := KK.out.lt; simpa using this)
      clear HM KK
      have HM := HM'
      have KK := KK'
      clear HM' KK'
      have HS := And.intro (HM.out.sub (rs' := [(w.heap.size, a0, a1, a2, a3)]) (by simp)) KK.out
      refine hK.out _ _ (Or.inr HS) (fun _ => ?_)
      clear hK K HS
      refine till_step (i := 1) (by kernel_rfl) rfl (fun K hK => ?_)
      go_simp
      refine (into_calls F hf.ok w1.heap.size a0 a1 a2 a3 ha _ KK.out).mono ?_
      rintro e v1 ⟨i0, i1, i2, i3, rfl, hi, hv, hbl⟩
      have HVi := Lib.hid hv
      clear hv
      have HM' := Lib.hid (HM.out.on hbl)
      have KK' := Lib.hid (KK.out.same hbl)
      clear HM KK hbl
      have HM := HM'
      have KK := KK'
      clear HM' KK'
      have HS := And.intro (HM.out.sub (rs' := [(w.heap.size, a0, a1, a2, a3)]) (by simp)) KK.out
      refine hK.out _ _ (Or.inr HS) (fun _ => ?_)
      clear hK K HS
      refine till_step (i := 4) (by kernel_rfl) rfl (fun K hK => ?_)
      go_simp
      refine (shr_calls F.m0 F.m1 F.m2 F.m3 1 hf.ok.okm (by omega) (by omega) _).mono ?_
      rintro e v2 ⟨n0, n1, n2, n3, rfl, hn, hv, hbl⟩
      have HVn := Lib.hid (show val4 n0 n1 n2 n3 = F.M / 2 by rw [hv]; rfl)
      clear hv
      have HM' := Lib.hid (HM.out.on hbl)
      have KK' := Lib.hid (KK.out.same hbl)
      clear HM KK hbl
      have HM := HM'
      have KK := KK'
      clear HM' KK'
      have HS := And.intro (HM.out.sub (rs' := [(w.heap.size, a0, a1, a2, a3)]) (by simp)) KK.out
      refine hK.out _ _ (Or.inr HS) (fun _ => ?_)
      clear hK K HS
      refine till_step (i := 5) (by kernel_rfl) rfl (fun K hK => ?_)
      go_simp
      refine (power_calls F hf.ok (val4 a0 a1 a2 a3) w1.heap.size i0 i1 i2 i3 n0 n1 n2 n3 hi hn HVi.out _ KK.out).mono ?_
      rintro e v3 ⟨s0, s1, s2, s3, rfl, hs, hv, hbl⟩
      have HVs := Lib.hid (show val4 s0 s1 s2 s3 = kp F (val4 a0 a1 a2 a3 ^ (F.M / 2)) by rw [hv, HVn.out])
      clear hv
      have HM' := Lib.hid (HM.out.on hbl)
      have KK' := Lib.hid (KK.out.same hbl)
      clear HM KK hbl
      have HM := HM'
      have KK := KK'
      clear HM' KK'
      have HS := And.intro (HM.out.sub (rs' := [(w.heap.size, a0, a1, a2, a3)]) (by simp)) KK.out
      refine hK.out _ _ (Or.inr HS) (fun _ => ?_)
      clear hK K HS
      have kr := HM.out.row (b := (w2.heap.size)) (c0 := 0) (c1 := 0) (c2 := 0) (c3 := 0) (by simp)
      have yl := HM.out.lt (b := (w2.heap.size)) (c0 := 0) (c1 := 0) (c2 := 0) (c3 := 0) (by simp)
      have y0 := kr.c0; have y1 := kr.c1; have y2 := kr.c2; have y3 := kr.c3; have yf := kr.fr
      clear kr
      refine till_step (i := 7) (by kernel_rfl) rfl (fun K hK => ?_)
      go_simp
      have HM' := Lib.hid (HM.out.put s0 s1 s2 s3 (by omega) (by intro r hr; simp at hr; rcases hr with rfl <;> simp <;> omega))
      have KK' := Lib.hid (KK.out.set4 (d := (w2.heap.size)) (by omega) s0 s1 s2 s3)
      clear HM KK
      have HM := HM'
      have KK := KK'
      clear HM' KK'
      refine hK.out _ _ (Or.inl rfl) (fun _ => ?_)
      clear hK K
      refine till_done (by kernel_rfl) ?_
      go_wp2_with fail
      go_meet
      exact ⟨(w2.heap.size), s0, s1, s2, s3, rfl, hs, HVs, HM, KK⟩
  case rest =>
    obtain ⟨gb, s0, s1, s2, s3, rfl, hs, HVs, HM', KK'⟩ := hcut
    clear HM KK
    have HM := HM'
    have KK := KK'
    clear HM' KK'
    have kr := HM.out.row (b := gb) (c0 := s0) (c1 := s1) (c2 := s2) (c3 := s3) (by simp)
    have x0 := kr.c0; have x1 := kr.c1; have x2 := kr.c2; have x3 := kr.c3
    clear kr
    have xl := HM.out.lt (b := gb) (c0 := s0) (c1 := s1) (c2 := s2) (c3 := s3) (by simp)
    have hE : ∀ w, (Op.equalIn 10000 83 (.agg #[.int .u64 s0, .int .u64 s1, .int .u64 s2, .int .u64 s3]) (.agg #[.int .u64 0, .int .u64 0, .int .u64 0, .int .u64 0])).run Try.prog w = .ok true w := fun w => by
      have h := equalInK 9998 s0 s1 s2 s3 0 0 0 0 w
      rw [show eqW s0 s1 s2 s3 0 0 0 0 = true from (kp_eq_zero hf.ok hs HVs.out).2 HH.out] at h
      exact h
    go_wp2_with fail
    go_ret2
    exact ⟨rfl, HM.out.1⟩
set_option maxRecDepth 100000 in
set_option maxHeartbeats 2000000 in
theorem fleg1_ok (f : Int) (F : FC) (hf : FieldIs f F) (a0 a1 a2 a3 : Nat) (ha : ok4 a0 a1 a2 a3) (la : val4 a0 a1 a2 a3 < F.M) (hh : val4 a0 a1 a2 a3 ^ (F.M / 2) % F.M = 1) (w : World) :
    Calls Try.prog 11 #[.int .i64 f, .agg #[.int .u64 a0, .int .u64 a1, .int .u64 a2, .int .u64 a3]] w (fun e w' => e = .returned (.tuple #[.int .i64 1, .int .i64 0]) ∧ Below w.heap.size w w') := by
  have HH := Lib.hid hh
  have hG := eqGuardK
  clear hh
  go_enter Try.func11, Try.ntmps11
  go_wp2_with fail
  refine (cons_some f F hf _).mono ?_
  rintro e w1 ⟨rfl, hbl⟩
  have M1 := ((Mem.nil w).new (w.heap.size) a0 a1 a2 a3 25 (by simp)).on hbl
  clear hbl
  have z0 : w.heap.size < w1.heap.size := M1.lt (c0 := a0) (c1 := a1) (c2 := a2) (c3 := a3) (by simp)
  have HM := Lib.hid (M1.on ((Below.refl _ _).alloc (Nat.le_refl _) (.cells #[.int .u64 F.m0, .int .u64 F.m1, .int .u64 F.m2, .int .u64 F.m3, .int .u64 F.inv, .int .u64 F.s0, .int .u64 F.s1, .int .u64 F.s2, .int .u64 F.s3] 85)))
  have KK := Lib.hid (KIs.new w1 F 85)
  have kr := M1.row (b := w.heap.size) (c0 := a0) (c1 := a1) (c2 := a2) (c3 := a3) (by simp)
  have x0 := kr.c0; have x1 := kr.c1; have x2 := kr.c2; have x3 := kr.c3
  clear kr
  have xl := M1.lt (b := w.heap.size) (c0 := a0) (c1 := a1) (c2 := a2) (c3 := a3) (by simp)
  go_wp2_with fail
  refine (has_calls F hf.ok w1.heap.size a0 a1 a2 a3 ha _ KK.out).mono ?_
  rintro e w2 ⟨he, hbl⟩
  rw [show isB (val4 a0 a1 a2 a3) F.M = true from decide_eq_true la] at he
  subst he
  have HM' := Lib.hid (HM.out.on hbl)
  have KK' := Lib.hid (KK.out.same hbl)
  have zk := KK'.out.lt
  clear HM KK hbl M1
  have HM := HM'
  have KK := KK'
  clear HM' KK'
  clear x0 x1 x2 x3 xl zk
  have hw0 : w.heap.size < w1.heap.size := z0
  go_upto_region 4 with fail
  go_cut [8] (fun s8 wx => ∃ gb s0 s1 s2 s3 : Nat, s8 = .pointer (some ⟨gb, 0, none⟩) ∧ ok4 s0 s1 s2 s3 ∧ Hid (val4 s0 s1 s2 s3 = kp F (val4 a0 a1 a2 a3 ^ (F.M / 2))) ∧ Hid (Mem w wx [(gb, s0, s1, s2, s3), (w.heap.size, a0, a1, a2, a3)]) ∧ Hid (KIs wx w1.heap.size F))
  case first =>
    refine region_till (fun wx => Mem w wx [(w.heap.size, a0, a1, a2, a3)] ∧ KIs wx w1.heap.size F) 7 (by kernel_rfl) ?_
    have HM' := Lib.hid (HM.out.drewN 1)
    have KK' := Lib.hid (KK.out.drewN 1)
    clear HM KK
    have HM := HM'
    have KK := KK'
    clear HM' KK'
    have HS := And.intro (HM.out.sub (rs' := [(w.heap.size, a0, a1, a2, a3)]) (by simp)) KK.out
    refine till_take (i := 0) (v := .agg #[.int .u64 a0, .int .u64 a1, .int .u64 a2, .int .u64 a3]) rfl (by kernel_rfl) (by kernel_rfl) (by kernel_rfl) (by kernel_rfl) (fun _ _ _ h => h) HS (Or.inl ⟨by kernel_rfl, fun wx hx => ?_⟩) ?_
    · have kr := hx.1.row (b := w.heap.size) (c0 := a0) (c1 := a1) (c2 := a2) (c3 := a3) (by simp)
      have x0 := kr.c0; have x1 := kr.c1; have x2 := kr.c2; have x3 := kr.c3
      clear kr HS hx
      go_simp
    simp only [Act.put, List.setIfInBounds_toArray, List.set_cons_zero, List.set_cons_succ]
    refine till_take (i := 2) (v := .pointer (some ⟨w1.heap.size, 0, none⟩)) rfl (by kernel_rfl) (by kernel_rfl) (by kernel_rfl) (by kernel_rfl) (fun _ _ _ h => h) HS (Or.inl ⟨by kernel_rfl, fun wx hx => ?_⟩) ?_
    · clear HS hx
      go_simp
    simp only [Act.put, List.setIfInBounds_toArray, List.set_cons_zero, List.set_cons_succ]
    refine till_take (i := 3) (v := .agg #[.int .u64 F.m0, .int .u64 F.m1, .int .u64 F.m2, .int .u64 F.m3]) rfl (by kernel_rfl) (by kernel_rfl) (by kernel_rfl) (by kernel_rfl) (fun _ _ _ h => h) HS (Or.inl ⟨by kernel_rfl, fun wx hx => ?_⟩) ?_
    · have x0 := hx.2.k0; have x1 := hx.2.k1; have x2 := hx.2.k2; have x3 := hx.2.k3
      clear HS hx
      go_simp
    simp only [Act.put, List.setIfInBounds_toArray, List.set_cons_zero, List.set_cons_succ]
    clear HS
    refine till_two (i := 1) (j := 6) (by kernel_rfl) rfl rfl (fun K hK => ?_) (fun K hK => ?_)
    · go_simp
      refine (into_calls F hf.ok w1.heap.size a0 a1 a2 a3 ha _ KK.out).mono ?_
      rintro e v1 ⟨i0, i1, i2, i3, rfl, hi, hv, hbl⟩
      have HVi := Lib.hid hv
      clear hv
      have HM' := Lib.hid (HM.out.on hbl)
      have KK' := Lib.hid (KK.out.same hbl)
      clear HM KK hbl
      have HM := HM'
      have KK := KK'
      clear HM' KK'
      have HS := And.intro (HM.out.sub (rs' := [(w.heap.size, a0, a1, a2, a3)]) (by simp)) KK.out
      refine hK.out _ _ (Or.inr HS) (fun _ => ?_)
      clear hK K HS
      refine till_two (i := 4) (j := 6) (by kernel_rfl) rfl rfl (fun K hK => ?_) (fun K hK => ?_)
      · go_simp
        refine (shr_calls F.m0 F.m1 F.m2 F.m3 1 hf.ok.okm (by omega) (by omega) _).mono ?_
        rintro e v2 ⟨n0, n1, n2, n3, rfl, hn, hv, hbl⟩
        have HVn := Lib.hid (show val4 n0 n1 n2 n3 = F.M / 2 by rw [hv]; rfl)
        clear hv
        have HM' := Lib.hid (HM.out.on hbl)
        have KK' := Lib.hid (KK.out.same hbl)
        clear HM KK hbl
        have HM := HM'
        have KK := KK'
        clear HM' KK'
        have HS := And.intro (HM.out.sub (rs' := [(w.heap.size, a0, a1, a2, a3)]) (by simp)) KK.out
        refine hK.out _ _ (Or.inr HS) (fun _ => ?_)
        clear hK K HS
        refine till_two (i := 5) (j := 6) (by kernel_rfl) rfl rfl (fun K hK => ?_) (fun K hK => ?_)
        · go_simp
          refine (power_calls F hf.ok (val4 a0 a1 a2 a3) w1.heap.size i0 i1 i2 i3 n0 n1 n2 n3 hi hn HVi.out _ KK.out).mono ?_
          rintro e v3 ⟨s0, s1, s2, s3, rfl, hs, hv, hbl⟩
          have HVs := Lib.hid (show val4 s0 s1 s2 s3 = kp F (val4 a0 a1 a2 a3 ^ (F.M / 2)) by rw [hv, HVn.out])
          clear hv
          have HM' := Lib.hid (HM.out.on hbl)
          have KK' := Lib.hid (KK.out.same hbl)
          clear HM KK hbl
          have HM := HM'
          have KK := KK'
          clear HM' KK'
          have HS := And.intro (HM.out.sub (rs' := [(w.heap.size, a0, a1, a2, a3)]) (by simp)) KK.out
          refine hK.out _ _ (Or.inr HS) (fun _ => ?_)
          clear hK K HS
          refine till_step (i := 6) (by kernel_rfl) rfl (fun K hK => ?_)
          go_simp
          have HM9 := HM
          have KK9 := KK
          have HM' := Lib.hid (HM.out.new (v3.heap.size) 0 0 0 0 83 (by first | rfl | (simp; done)))
          have KK' := Lib.hid (KK.out.same ((Below.refl _ _).alloc (Nat.le_refl _) (.cells #[.int .u64 (0 : Nat), .int .u64 (0 : Nat), .int .u64 (0 : Nat), .int .u64 (0 : Nat)] 83)))
          have hgk : w1.heap.size < (v3.heap.size) := by first | exact KK.out.lt | (have := KK.out.lt; simpa using this)
          clear HM KK
          have HM := HM'
          have KK := KK'
          clear HM' KK'
          have HS := And.intro (HM.out.sub (rs' := [(w.heap.size, a0, a1, a2, a3)]) (by simp)) KK.out
          refine hK.out _ _ (Or.inr HS) (fun _ => ?_)
          clear hK K HS
          have kr := HM.out.row (b := (v3.heap.size)) (c0 := 0) (c1 := 0) (c2 := 0) (c3 := 0) (by simp)
          have yl := HM.out.lt (b := (v3.heap.size)) (c0 := 0) (c1 := 0) (c2 := 0) (c3 := 0) (by simp)
          have y0 := kr.c0; have y1 := kr.c1; have y2 := kr.c2; have y3 := kr.c3; have yf := kr.fr
          clear kr
          refine till_step (i := 7) (by kernel_rfl) rfl (fun K hK => ?_)
          go_simp
          have HM' := Lib.hid (HM9.out.new (v3.heap.size) s0 s1 s2 s3 83 (by first | rfl | (simp; done)))
          have KK' := Lib.hid (KK9.out.same ((Below.refl _ _).alloc (Nat.le_refl _) (.cells #[.int .u64 s0, .int .u64 s1, .int .u64 s2, .int .u64 s3] 83)))
          clear HM KK
          have HM := HM'
          have KK := KK'
          clear HM' KK'
          refine hK.out _ _ (Or.inl rfl) (fun _ => ?_)
          clear hK K
          refine till_done (by kernel_rfl) ?_
          go_wp2_with fail
          go_meet
          exact ⟨(v3.heap.size), s0, s1, s2, s3, rfl, hs, HVs, HM, KK⟩
        · go_simp
          have HM9 := HM
          have KK9 := KK
          have HM' := Lib.hid (HM.out.new (v2.heap.size) 0 0 0 0 83 (by first | rfl | (simp; done)))
          have KK' := Lib.hid (KK.out.same ((Below.refl _ _).alloc (Nat.le_refl _) (.cells #[.int .u64 (0 : Nat), .int .u64 (0 : Nat), .int .u64 (0 : Nat), .int .u64 (0 : Nat)] 83)))
          have hgk : w1.heap.size < (v2.heap.size) := by first | exact KK.out.lt | (have := KK.out.lt; simpa using this)
          clear HM KK
          have HM := HM'
          have KK := KK'
          clear HM' KK'
          have HS := And.intro (HM.out.sub (rs' := [(w.heap.size, a0, a1, a2, a3)]) (by simp)) KK.out
          refine hK.out _ _ (Or.inr HS) (fun _ => ?_)
          clear hK K HS
          refine till_step (i := 5) (by kernel_rfl) rfl (fun K hK => ?_)
          go_simp
          refine (power_calls F hf.ok (val4 a0 a1 a2 a3) w1.heap.size i0 i1 i2 i3 n0 n1 n2 n3 hi hn HVi.out _ KK.out).mono ?_
          rintro e v3 ⟨s0, s1, s2, s3, rfl, hs, hv, hbl⟩
          have HVs := Lib.hid (show val4 s0 s1 s2 s3 = kp F (val4 a0 a1 a2 a3 ^ (F.M / 2)) by rw [hv, HVn.out])
          clear hv
          have HM' := Lib.hid (HM.out.on hbl)
          have KK' := Lib.hid (KK.out.same hbl)
          clear HM KK hbl
          have HM := HM'
          have KK := KK'
          clear HM' KK'
          have HS := And.intro (HM.out.sub (rs' := [(w.heap.size, a0, a1, a2, a3)]) (by simp)) KK.out
          refine hK.out _ _ (Or.inr HS) (fun _ => ?_)
          clear hK K HS
          have kr := HM.out.row (b := (v2.heap.size)) (c0 := 0) (c1 := 0) (c2 := 0) (c3 := 0) (by simp)
          have yl := HM.out.lt (b := (v2.heap.size)) (c0 := 0) (c1 := 0) (c2 := 0) (c3 := 0) (by simp)
          have y0 := kr.c0; have y1 := kr.c1; have y2 := kr.c2; have y3 := kr.c3; have yf := kr.fr
          clear kr
          refine till_step (i := 7) (by kernel_rfl) rfl (fun K hK => ?_)
          go_simp
          have HM' := Lib.hid (HM.out.put s0 s1 s2 s3 (by omega) (by intro r hr; simp at hr; rcases hr with rfl <;> simp <;> omega))
          have KK' := Lib.hid (KK.out.set4 (d := (v2.heap.size)) (by omega) s0 s1 s2 s3)
          clear HM KK
          have HM := HM'
          have KK := KK'
          clear HM' KK'
          refine hK.out _ _ (Or.inl rfl) (fun _ => ?_)
          clear hK K
          refine till_done (by kernel_rfl) ?_
          go_wp2_with fail
          go_meet
          exact ⟨(v2.heap.size), s0, s1, s2, s3, rfl, hs, HVs, HM, KK⟩
      · go_simp
        have HM9 := HM
        have KK9 := KK
        have HM' := Lib.hid (HM.out.new (v1.heap.size) 0 0 0 0 83 (by first | rfl | (simp; done)))
        have KK' := Lib.hid (KK.out.same ((Below.refl _ _).alloc (Nat.le_refl _) (.cells #[.int .u64 (0 : Nat), .int .u64 (0 : Nat), .int .u64 (0 : Nat), .int .u64 (0 : Nat)] 83)))
        have hgk : w1.heap.size < (v1.heap.size) := by first | exact KK.out.lt | (have := KK.out.lt; simpa using this)
        clear HM KK
        have HM := HM'
        have KK := KK'
        clear HM' KK'
        have HS := And.intro (HM.out.sub (rs' := [(w.heap.size, a0, a1, a2, a3)]) (by simp)) KK.out
        refine hK.out _ _ (Or.inr HS) (fun _ => ?_)
        clear hK K HS
        refine till_step (i := 4) (by kernel_rfl) rfl (fun K hK => ?_)
        go_simp
        refine (shr_calls F.m0 F.m1 F.m2 F.m3 1 hf.ok.okm (by omega) (by omega) _).mono ?_
        rintro e v2 ⟨n0, n1, n2, n3, rfl, hn, hv, hbl⟩
        have HVn := Lib.hid (show val4 n0 n1 n2 n3 = F.M / 2 by rw [hv]; rfl)
        clear hv
        have HM' := Lib.hid (HM.out.on hbl)
        have KK' := Lib.hid (KK.out.same hbl)
        clear HM KK hbl
        have HM := HM'
        have KK := KK'
        clear HM' KK'
        have HS := And.intro (HM.out.sub (rs' := [(w.heap.size, a0, a1, a2, a3)]) (by simp)) KK.out
        refine hK.out _ _ (Or.inr HS) (fun _ => ?_)
        clear hK K HS
        refine till_step (i := 5) (by kernel_rfl) rfl (fun K hK => ?_)
        go_simp
        refine (power_calls F hf.ok (val4 a0 a1 a2 a3) w1.heap.size i0 i1 i2 i3 n0 n1 n2 n3 hi hn HVi.out _ KK.out).mono ?_
        rintro e v3 ⟨s0, s1, s2, s3, rfl, hs, hv, hbl⟩
        have HVs := Lib.hid (show val4 s0 s1 s2 s3 = kp F (val4 a0 a1 a2 a3 ^ (F.M / 2)) by rw [hv, HVn.out])
        clear hv
        have HM' := Lib.hid (HM.out.on hbl)
        have KK' := Lib.hid (KK.out.same hbl)
        clear HM KK hbl
        have HM := HM'
        have KK := KK'
        clear HM' KK'
        have HS := And.intro (HM.out.sub (rs' := [(w.heap.size, a0, a1, a2, a3)]) (by simp)) KK.out
        refine hK.out _ _ (Or.inr HS) (fun _ => ?_)
        clear hK K HS
        have kr := HM.out.row (b := (v1.heap.size)) (c0 := 0) (c1 := 0) (c2 := 0) (c3 := 0) (by simp)
        have yl := HM.out.lt (b := (v1.heap.size)) (c0 := 0) (c1 := 0) (c2 := 0) (c3 := 0) (by simp)
        have y0 := kr.c0; have y1 := kr.c1; have y2 := kr.c2; have y3 := kr.c3; have yf := kr.fr
        clear kr
        refine till_step (i := 7) (by kernel_rfl) rfl (fun K hK => ?_)
        go_simp
        have HM' := Lib.hid (HM.out.put s0 s1 s2 s3 (by omega) (by intro r hr; simp at hr; rcases hr with rfl <;> simp <;> omega))
        have KK' := Lib.hid (KK.out.set4 (d := (v1.heap.size)) (by omega) s0 s1 s2 s3)
        clear HM KK
        have HM := HM'
        have KK := KK'
        clear HM' KK'
        refine hK.out _ _ (Or.inl rfl) (fun _ => ?_)
        clear hK K
        refine till_done (by kernel_rfl) ?_
        go_wp2_with fail
        go_meet
        exact ⟨(v1.heap.size), s0, s1, s2, s3, rfl, hs, HVs, HM, KK⟩
    · go_simp
      have HM9 := HM
      have KK9 := KK
      have HM' := Lib.hid (HM.out.new (w2.heap.size) 0 0 0 0 83 (by first | rfl | (simp; done)))
      have KK' := Lib.hid (KK.out.same ((Below.refl _ _).alloc (Nat.le_refl _) (.cells #[.int .u64 (0 : Nat), .int .u64 (0 : Nat), .int .u64 (0 : Nat), .int .u64 (0 : Nat)] 83)))
      have hgk : w1.heap.size < (w2.heap.size) := by first | exact KK.out.lt | (have := KK.out.lt; simpa using this)
      clear HM KK
      have HM := HM'
      have KK := KK'
      clear HM' KK'
      have HS := And.intro (HM.out.sub (rs' := [(w.heap.size, a0, a1, a2, a3)]) (by simp)) KK.out
      refine hK.out _ _ (Or.inr HS) (fun _ => ?_)
      clear hK K HS
      refine till_step (i := 1) (by kernel_rfl) rfl (fun K hK => ?_)
      go_simp
      refine (into_calls F hf.ok w1.heap.size a0 a1 a2 a3 ha _ KK.out).mono ?_
      rintro e v1 ⟨i0, i1, i2, i3, rfl, hi, hv, hbl⟩
      have HVi := Lib.hid hv
      clear hv
      have HM' := Lib.hid (HM.out.on hbl)
      have KK' := Lib.hid (KK.out.same hbl)
      clear HM KK hbl
      have HM := HM'
      have KK := KK'
      clear HM' KK'
      have HS := And.intro (HM.out.sub (rs' := [(w.heap.size, a0, a1, a2, a3)]) (by simp)) KK.out
      refine hK.out _ _ (Or.inr HS) (fun _ => ?_)
      clear hK K HS
      refine till_step (i := 4) (by kernel_rfl) rfl (fun K hK => ?_)
      go_simp
      refine (shr_calls F.m0 F.m1 F.m2 F.m3 1 hf.ok.okm (by omega) (by omega) _).mono ?_
      rintro e v2 ⟨n0, n1, n2, n3, rfl, hn, hv, hbl⟩
      have HVn := Lib.hid (show val4 n0 n1 n2 n3 = F.M / 2 by rw [hv]; rfl)
      clear hv
      have HM' := Lib.hid (HM.out.on hbl)
      have KK' := Lib.hid (KK.out.same hbl)
      clear HM KK hbl
      have HM := HM'
      have KK := KK'
      clear HM' KK'
      have HS := And.intro (HM.out.sub (rs' := [(w.heap.size, a0, a1, a2, a3)]) (by simp)) KK.out
      refine hK.out _ _ (Or.inr HS) (fun _ => ?_)
      clear hK K HS
      refine till_step (i := 5) (by kernel_rfl) rfl (fun K hK => ?_)
      go_simp
      refine (power_calls F hf.ok (val4 a0 a1 a2 a3) w1.heap.size i0 i1 i2 i3 n0 n1 n2 n3 hi hn HVi.out _ KK.out).mono ?_
      rintro e v3 ⟨s0, s1, s2, s3, rfl, hs, hv, hbl⟩
      have HVs := Lib.hid (show val4 s0 s1 s2 s3 = kp F (val4 a0 a1 a2 a3 ^ (F.M / 2)) by rw [hv, HVn.out])
      clear hv
      have HM' := Lib.hid (HM.out.on hbl)
      have KK' := Lib.hid (KK.out.same hbl)
      clear HM KK hbl
      have HM := HM'
      have KK := KK'
      clear HM' KK'
      have HS := And.intro (HM.out.sub (rs' := [(w.heap.size, a0, a1, a2, a3)]) (by simp)) KK.out
      refine hK.out _ _ (Or.inr HS) (fun _ => ?_)
      clear hK K HS
      have kr := HM.out.row (b := (w2.heap.size)) (c0 := 0) (c1 := 0) (c2 := 0) (c3 := 0) (by simp)
      have yl := HM.out.lt (b := (w2.heap.size)) (c0 := 0) (c1 := 0) (c2 := 0) (c3 := 0) (by simp)
      have y0 := kr.c0; have y1 := kr.c1; have y2 := kr.c2; have y3 := kr.c3; have yf := kr.fr
      clear kr
      refine till_step (i := 7) (by kernel_rfl) rfl (fun K hK => ?_)
      go_simp
      have HM' := Lib.hid (HM.out.put s0 s1 s2 s3 (by omega) (by intro r hr; simp at hr; rcases hr with rfl <;> simp <;> omega))
      have KK' := Lib.hid (KK.out.set4 (d := (w2.heap.size)) (by omega) s0 s1 s2 s3)
      clear HM KK
      have HM := HM'
      have KK := KK'
      clear HM' KK'
      refine hK.out _ _ (Or.inl rfl) (fun _ => ?_)
      clear hK K
      refine till_done (by kernel_rfl) ?_
      go_wp2_with fail
      go_meet
      exact ⟨(w2.heap.size), s0, s1, s2, s3, rfl, hs, HVs, HM, KK⟩
  case rest =>
    obtain ⟨gb, s0, s1, s2, s3, rfl, hs, HVs, HM', KK'⟩ := hcut
    clear HM KK
    have HM := HM'
    have KK := KK'
    clear HM' KK'
    have kr := HM.out.row (b := gb) (c0 := s0) (c1 := s1) (c2 := s2) (c3 := s3) (by simp)
    have x0 := kr.c0; have x1 := kr.c1; have x2 := kr.c2; have x3 := kr.c3
    clear kr
    have xl := HM.out.lt (b := gb) (c0 := s0) (c1 := s1) (c2 := s2) (c3 := s3) (by simp)
    have hE : ∀ w, (Op.equalIn 10000 83 (.agg #[.int .u64 s0, .int .u64 s1, .int .u64 s2, .int .u64 s3]) (.agg #[.int .u64 0, .int .u64 0, .int .u64 0, .int .u64 0])).run Try.prog w = .ok false w := fun w => by
      have h := equalInK 9998 s0 s1 s2 s3 0 0 0 0 w
      rw [show eqW s0 s1 s2 s3 0 0 0 0 = false from eqW_false (fun q => by have := (kp_eq_zero hf.ok hs HVs.out).1 q; rw [HH.out] at this; omega)] at h
      exact h
    go_wp2_with fail
    clear hE x0 x1 x2 x3 xl
    refine region_till (fun wx => Mem w wx [(gb, s0, s1, s2, s3)] ∧ KIs wx w1.heap.size F) 2 (by kernel_rfl) ?_
    have HM' := Lib.hid (HM.out.drewN 1)
    have KK' := Lib.hid (KK.out.drewN 1)
    clear HM KK
    have HM := HM'
    have KK := KK'
    clear HM' KK'
    have HS := And.intro (HM.out.sub (rs' := [(gb, s0, s1, s2, s3)]) (by simp)) KK.out
    refine till_take (i := 0) (v := .agg #[.int .u64 s0, .int .u64 s1, .int .u64 s2, .int .u64 s3]) rfl (by kernel_rfl) (by kernel_rfl) (by kernel_rfl) (by kernel_rfl) (fun _ _ _ h => h) HS (Or.inl ⟨by kernel_rfl, fun wx hx => ?_⟩) ?_
    · have kr := hx.1.row (b := gb) (c0 := s0) (c1 := s1) (c2 := s2) (c3 := s3) (by simp)
      have x0 := kr.c0; have x1 := kr.c1; have x2 := kr.c2; have x3 := kr.c3
      clear kr HS hx
      go_simp
    simp only [Act.put, List.setIfInBounds_toArray, List.set_cons_zero, List.set_cons_succ]
    clear HS
    refine till_step (i := 1) (by kernel_rfl) rfl (fun K hK => ?_)
    go_simp
    refine (one_calls F hf.ok w1.heap.size _ KK.out).mono ?_
    rintro e w9 ⟨o0, o1, o2, o3, rfl, ho, hv, hbl⟩
    have hq := eq_one hf.ok hs ho HVs.out hv
    have hE : ∀ w, (Op.equalIn 10000 83 (.agg #[.int .u64 s0, .int .u64 s1, .int .u64 s2, .int .u64 s3]) (.agg #[.int .u64 o0, .int .u64 o1, .int .u64 o2, .int .u64 o3])).run Try.prog w = .ok true w := fun w => by
      have h := equalInK 9998 s0 s1 s2 s3 o0 o1 o2 o3 w
      rw [show eqW s0 s1 s2 s3 o0 o1 o2 o3 = true from hq.2 HH.out] at h
      exact h
    have HM' := Lib.hid (HM.out.on hbl)
    have KK' := Lib.hid (KK.out.same hbl)
    clear HM KK hbl hv hq
    have HM := HM'
    have KK := KK'
    clear HM' KK'
    have HS := And.intro (HM.out.sub (rs' := [(gb, s0, s1, s2, s3)]) (by simp)) KK.out
    refine hK.out _ _ (Or.inr HS) (fun _ => ?_)
    clear hK K HS
    refine till_step (i := 2) (by kernel_rfl) rfl (fun K hK => ?_)
    go_simp
    refine hK.out _ _ (Or.inl rfl) (fun _ => ?_)
    clear hK K
    refine till_done (by kernel_rfl) ?_
    go_wp2_with fail
    go_ret2
    exact ⟨rfl, HM.out.1⟩
set_option maxRecDepth 100000 in
set_option maxHeartbeats 2000000 in
theorem flegm_ok (f : Int) (F : FC) (hf : FieldIs f F) (a0 a1 a2 a3 : Nat) (ha : ok4 a0 a1 a2 a3) (la : val4 a0 a1 a2 a3 < F.M) (hh : ¬ val4 a0 a1 a2 a3 ^ (F.M / 2) % F.M = 0 ∧ ¬ val4 a0 a1 a2 a3 ^ (F.M / 2) % F.M = 1) (w : World) :
    Calls Try.prog 11 #[.int .i64 f, .agg #[.int .u64 a0, .int .u64 a1, .int .u64 a2, .int .u64 a3]] w (fun e w' => e = .returned (.tuple #[.int .i64 (-1), .int .i64 0]) ∧ Below w.heap.size w w') := by
  have HH := Lib.hid hh
  have hG := eqGuardK
  clear hh
  go_enter Try.func11, Try.ntmps11
  go_wp2_with fail
  refine (cons_some f F hf _).mono ?_
  rintro e w1 ⟨rfl, hbl⟩
  have M1 := ((Mem.nil w).new (w.heap.size) a0 a1 a2 a3 25 (by simp)).on hbl
  clear hbl
  have z0 : w.heap.size < w1.heap.size := M1.lt (c0 := a0) (c1 := a1) (c2 := a2) (c3 := a3) (by simp)
  have HM := Lib.hid (M1.on ((Below.refl _ _).alloc (Nat.le_refl _) (.cells #[.int .u64 F.m0, .int .u64 F.m1, .int .u64 F.m2, .int .u64 F.m3, .int .u64 F.inv, .int .u64 F.s0, .int .u64 F.s1, .int .u64 F.s2, .int .u64 F.s3] 85)))
  have KK := Lib.hid (KIs.new w1 F 85)
  have kr := M1.row (b := w.heap.size) (c0 := a0) (c1 := a1) (c2 := a2) (c3 := a3) (by simp)
  have x0 := kr.c0; have x1 := kr.c1; have x2 := kr.c2; have x3 := kr.c3
  clear kr
  have xl := M1.lt (b := w.heap.size) (c0 := a0) (c1 := a1) (c2 := a2) (c3 := a3) (by simp)
  go_wp2_with fail
  refine (has_calls F hf.ok w1.heap.size a0 a1 a2 a3 ha _ KK.out).mono ?_
  rintro e w2 ⟨he, hbl⟩
  rw [show isB (val4 a0 a1 a2 a3) F.M = true from decide_eq_true la] at he
  subst he
  have HM' := Lib.hid (HM.out.on hbl)
  have KK' := Lib.hid (KK.out.same hbl)
  have zk := KK'.out.lt
  clear HM KK hbl M1
  have HM := HM'
  have KK := KK'
  clear HM' KK'
  clear x0 x1 x2 x3 xl zk
  have hw0 : w.heap.size < w1.heap.size := z0
  go_upto_region 4 with fail
  go_cut [8] (fun s8 wx => ∃ gb s0 s1 s2 s3 : Nat, s8 = .pointer (some ⟨gb, 0, none⟩) ∧ ok4 s0 s1 s2 s3 ∧ Hid (val4 s0 s1 s2 s3 = kp F (val4 a0 a1 a2 a3 ^ (F.M / 2))) ∧ Hid (Mem w wx [(gb, s0, s1, s2, s3), (w.heap.size, a0, a1, a2, a3)]) ∧ Hid (KIs wx w1.heap.size F))
  case first =>
    refine region_till (fun wx => Mem w wx [(w.heap.size, a0, a1, a2, a3)] ∧ KIs wx w1.heap.size F) 7 (by kernel_rfl) ?_
    have HM' := Lib.hid (HM.out.drewN 1)
    have KK' := Lib.hid (KK.out.drewN 1)
    clear HM KK
    have HM := HM'
    have KK := KK'
    clear HM' KK'
    have HS := And.intro (HM.out.sub (rs' := [(w.heap.size, a0, a1, a2, a3)]) (by simp)) KK.out
    refine till_take (i := 0) (v := .agg #[.int .u64 a0, .int .u64 a1, .int .u64 a2, .int .u64 a3]) rfl (by kernel_rfl) (by kernel_rfl) (by kernel_rfl) (by kernel_rfl) (fun _ _ _ h => h) HS (Or.inl ⟨by kernel_rfl, fun wx hx => ?_⟩) ?_
    · have kr := hx.1.row (b := w.heap.size) (c0 := a0) (c1 := a1) (c2 := a2) (c3 := a3) (by simp)
      have x0 := kr.c0; have x1 := kr.c1; have x2 := kr.c2; have x3 := kr.c3
      clear kr HS hx
      go_simp
    simp only [Act.put, List.setIfInBounds_toArray, List.set_cons_zero, List.set_cons_succ]
    refine till_take (i := 2) (v := .pointer (some ⟨w1.heap.size, 0, none⟩)) rfl (by kernel_rfl) (by kernel_rfl) (by kernel_rfl) (by kernel_rfl) (fun _ _ _ h => h) HS (Or.inl ⟨by kernel_rfl, fun wx hx => ?_⟩) ?_
    · clear HS hx
      go_simp
    simp only [Act.put, List.setIfInBounds_toArray, List.set_cons_zero, List.set_cons_succ]
    refine till_take (i := 3) (v := .agg #[.int .u64 F.m0, .int .u64 F.m1, .int .u64 F.m2, .int .u64 F.m3]) rfl (by kernel_rfl) (by kernel_rfl) (by kernel_rfl) (by kernel_rfl) (fun _ _ _ h => h) HS (Or.inl ⟨by kernel_rfl, fun wx hx => ?_⟩) ?_
    · have x0 := hx.2.k0; have x1 := hx.2.k1; have x2 := hx.2.k2; have x3 := hx.2.k3
      clear HS hx
      go_simp
    simp only [Act.put, List.setIfInBounds_toArray, List.set_cons_zero, List.set_cons_succ]
    clear HS
    refine till_two (i := 1) (j := 6) (by kernel_rfl) rfl rfl (fun K hK => ?_) (fun K hK => ?_)
    · go_simp
      refine (into_calls F hf.ok w1.heap.size a0 a1 a2 a3 ha _ KK.out).mono ?_
      rintro e v1 ⟨i0, i1, i2, i3, rfl, hi, hv, hbl⟩
      have HVi := Lib.hid hv
      clear hv
      have HM' := Lib.hid (HM.out.on hbl)
      have KK' := Lib.hid (KK.out.same hbl)
      clear HM KK hbl
      have HM := HM'
      have KK := KK'
      clear HM' KK'
      have HS := And.intro (HM.out.sub (rs' := [(w.heap.size, a0, a1, a2, a3)]) (by simp)) KK.out
      refine hK.out _ _ (Or.inr HS) (fun _ => ?_)
      clear hK K HS
      refine till_two (i := 4) (j := 6) (by kernel_rfl) rfl rfl (fun K hK => ?_) (fun K hK => ?_)
      · go_simp
        refine (shr_calls F.m0 F.m1 F.m2 F.m3 1 hf.ok.okm (by omega) (by omega) _).mono ?_
        rintro e v2 ⟨n0, n1, n2, n3, rfl, hn, hv, hbl⟩
        have HVn := Lib.hid (show val4 n0 n1 n2 n3 = F.M / 2 by rw [hv]; rfl)
        clear hv
        have HM' := Lib.hid (HM.out.on hbl)
        have KK' := Lib.hid (KK.out.same hbl)
        clear HM KK hbl
        have HM := HM'
        have KK := KK'
        clear HM' KK'
        have HS := And.intro (HM.out.sub (rs' := [(w.heap.size, a0, a1, a2, a3)]) (by simp)) KK.out
        refine hK.out _ _ (Or.inr HS) (fun _ => ?_)
        clear hK K HS
        refine till_two (i := 5) (j := 6) (by kernel_rfl) rfl rfl (fun K hK => ?_) (fun K hK => ?_)
        · go_simp
          refine (power_calls F hf.ok (val4 a0 a1 a2 a3) w1.heap.size i0 i1 i2 i3 n0 n1 n2 n3 hi hn HVi.out _ KK.out).mono ?_
          rintro e v3 ⟨s0, s1, s2, s3, rfl, hs, hv, hbl⟩
          have HVs := Lib.hid (show val4 s0 s1 s2 s3 = kp F (val4 a0 a1 a2 a3 ^ (F.M / 2)) by rw [hv, HVn.out])
          clear hv
          have HM' := Lib.hid (HM.out.on hbl)
          have KK' := Lib.hid (KK.out.same hbl)
          clear HM KK hbl
          have HM := HM'
          have KK := KK'
          clear HM' KK'
          have HS := And.intro (HM.out.sub (rs' := [(w.heap.size, a0, a1, a2, a3)]) (by simp)) KK.out
          refine hK.out _ _ (Or.inr HS) (fun _ => ?_)
          clear hK K HS
          refine till_step (i := 6) (by kernel_rfl) rfl (fun K hK => ?_)
          go_simp
          have HM9 := HM
          have KK9 := KK
          have HM' := Lib.hid (HM.out.new (v3.heap.size) 0 0 0 0 83 (by first | rfl | (simp; done)))
          have KK' := Lib.hid (KK.out.same ((Below.refl _ _).alloc (Nat.le_refl _) (.cells #[.int .u64 (0 : Nat), .int .u64 (0 : Nat), .int .u64 (0 : Nat), .int .u64 (0 : Nat)] 83)))
          have hgk : w1.heap.size < (v3.heap.size) := by first | exact KK.out.lt | (have := KK.out.lt; simpa using this)
          clear HM KK
          have HM := HM'
          have KK := KK'
          clear HM' KK'
          have HS := And.intro (HM.out.sub (rs' := [(w.heap.size, a0, a1, a2, a3)]) (by simp)) KK.out
          refine hK.out _ _ (Or.inr HS) (fun _ => ?_)
          clear hK K HS
          have kr := HM.out.row (b := (v3.heap.size)) (c0 := 0) (c1 := 0) (c2 := 0) (c3 := 0) (by simp)
          have yl := HM.out.lt (b := (v3.heap.size)) (c0 := 0) (c1 := 0) (c2 := 0) (c3 := 0) (by simp)
          have y0 := kr.c0; have y1 := kr.c1; have y2 := kr.c2; have y3 := kr.c3; have yf := kr.fr
          clear kr
          refine till_step (i := 7) (by kernel_rfl) rfl (fun K hK => ?_)
          go_simp
          have HM' := Lib.hid (HM9.out.new (v3.heap.size) s0 s1 s2 s3 83 (by first | rfl | (simp; done)))
          have KK' := Lib.hid (KK9.out.same ((Below.refl _ _).alloc (Nat.le_refl _) (.cells #[.int .u64 s0, .int .u64 s1, .int .u64 s2, .int .u64 s3] 83)))
          clear HM KK
          have HM := HM'
          have KK := KK'
          clear HM' KK'
          refine hK.out _ _ (Or.inl rfl) (fun _ => ?_)
          clear hK K
          refine till_done (by kernel_rfl) ?_
          go_wp2_with fail
          go_meet
          exact ⟨(v3.heap.size), s0, s1, s2, s3, rfl, hs, HVs, HM, KK⟩
        · go_simp
          have HM9 := HM
          have KK9 := KK
          have HM' := Lib.hid (HM.out.new (v2.heap.size) 0 0 0 0 83 (by first | rfl | (simp; done)))
          have KK' := Lib.hid (KK.out.same ((Below.refl _ _).alloc (Nat.le_refl _) (.cells #[.int .u64 (0 : Nat), .int .u64 (0 : Nat), .int .u64 (0 : Nat), .int .u64 (0 : Nat)] 83)))
          have hgk : w1.heap.size < (v2.heap.size) := by first | exact KK.out.lt | (have := KK.out.lt; simpa using this)
          clear HM KK
          have HM := HM'
          have KK := KK'
          clear HM' KK'
          have HS := And.intro (HM.out.sub (rs' := [(w.heap.size, a0, a1, a2, a3)]) (by simp)) KK.out
          refine hK.out _ _ (Or.inr HS) (fun _ => ?_)
          clear hK K HS
          refine till_step (i := 5) (by kernel_rfl) rfl (fun K hK => ?_)
          go_simp
          refine (power_calls F hf.ok (val4 a0 a1 a2 a3) w1.heap.size i0 i1 i2 i3 n0 n1 n2 n3 hi hn HVi.out _ KK.out).mono ?_
          rintro e v3 ⟨s0, s1, s2, s3, rfl, hs, hv, hbl⟩
          have HVs := Lib.hid (show val4 s0 s1 s2 s3 = kp F (val4 a0 a1 a2 a3 ^ (F.M / 2)) by rw [hv, HVn.out])
          clear hv
          have HM' := Lib.hid (HM.out.on hbl)
          have KK' := Lib.hid (KK.out.same hbl)
          clear HM KK hbl
          have HM := HM'
          have KK := KK'
          clear HM' KK'
          have HS := And.intro (HM.out.sub (rs' := [(w.heap.size, a0, a1, a2, a3)]) (by simp)) KK.out
          refine hK.out _ _ (Or.inr HS) (fun _ => ?_)
          clear hK K HS
          have kr := HM.out.row (b := (v2.heap.size)) (c0 := 0) (c1 := 0) (c2 := 0) (c3 := 0) (by simp)
          have yl := HM.out.lt (b := (v2.heap.size)) (c0 := 0) (c1 := 0) (c2 := 0) (c3 := 0) (by simp)
          have y0 := kr.c0; have y1 := kr.c1; have y2 := kr.c2; have y3 := kr.c3; have yf := kr.fr
          clear kr
          refine till_step (i := 7) (by kernel_rfl) rfl (fun K hK => ?_)
          go_simp
          have HM' := Lib.hid (HM.out.put s0 s1 s2 s3 (by omega) (by intro r hr; simp at hr; rcases hr with rfl <;> simp <;> omega))
          have KK' := Lib.hid (KK.out.set4 (d := (v2.heap.size)) (by omega) s0 s1 s2 s3)
          clear HM KK
          have HM := HM'
          have KK := KK'
          clear HM' KK'
          refine hK.out _ _ (Or.inl rfl) (fun _ => ?_)
          clear hK K
          refine till_done (by kernel_rfl) ?_
          go_wp2_with fail
          go_meet
          exact ⟨(v2.heap.size), s0, s1, s2, s3, rfl, hs, HVs, HM, KK⟩
      · go_simp
        have HM9 := HM
        have KK9 := KK
        have HM' := Lib.hid (HM.out.new (v1.heap.size) 0 0 0 0 83 (by first | rfl | (simp; done)))
        have KK' := Lib.hid (KK.out.same ((Below.refl _ _).alloc (Nat.le_refl _) (.cells #[.int .u64 (0 : Nat), .int .u64 (0 : Nat), .int .u64 (0 : Nat), .int .u64 (0 : Nat)] 83)))
        have hgk : w1.heap.size < (v1.heap.size) := by first | exact KK.out.lt | (have := KK.out.lt; simpa using this)
        clear HM KK
        have HM := HM'
        have KK := KK'
        clear HM' KK'
        have HS := And.intro (HM.out.sub (rs' := [(w.heap.size, a0, a1, a2, a3)]) (by simp)) KK.out
        refine hK.out _ _ (Or.inr HS) (fun _ => ?_)
        clear hK K HS
        refine till_step (i := 4) (by kernel_rfl) rfl (fun K hK => ?_)
        go_simp
        refine (shr_calls F.m0 F.m1 F.m2 F.m3 1 hf.ok.okm (by omega) (by omega) _).mono ?_
        rintro e v2 ⟨n0, n1, n2, n3, rfl, hn, hv, hbl⟩
        have HVn := Lib.hid (show val4 n0 n1 n2 n3 = F.M / 2 by rw [hv]; rfl)
        clear hv
        have HM' := Lib.hid (HM.out.on hbl)
        have KK' := Lib.hid (KK.out.same hbl)
        clear HM KK hbl
        have HM := HM'
        have KK := KK'
        clear HM' KK'
        have HS := And.intro (HM.out.sub (rs' := [(w.heap.size, a0, a1, a2, a3)]) (by simp)) KK.out
        refine hK.out _ _ (Or.inr HS) (fun _ => ?_)
        clear hK K HS
        refine till_step (i := 5) (by kernel_rfl) rfl (fun K hK => ?_)
        go_simp
        refine (power_calls F hf.ok (val4 a0 a1 a2 a3) w1.heap.size i0 i1 i2 i3 n0 n1 n2 n3 hi hn HVi.out _ KK.out).mono ?_
        rintro e v3 ⟨s0, s1, s2, s3, rfl, hs, hv, hbl⟩
        have HVs := Lib.hid (show val4 s0 s1 s2 s3 = kp F (val4 a0 a1 a2 a3 ^ (F.M / 2)) by rw [hv, HVn.out])
        clear hv
        have HM' := Lib.hid (HM.out.on hbl)
        have KK' := Lib.hid (KK.out.same hbl)
        clear HM KK hbl
        have HM := HM'
        have KK := KK'
        clear HM' KK'
        have HS := And.intro (HM.out.sub (rs' := [(w.heap.size, a0, a1, a2, a3)]) (by simp)) KK.out
        refine hK.out _ _ (Or.inr HS) (fun _ => ?_)
        clear hK K HS
        have kr := HM.out.row (b := (v1.heap.size)) (c0 := 0) (c1 := 0) (c2 := 0) (c3 := 0) (by simp)
        have yl := HM.out.lt (b := (v1.heap.size)) (c0 := 0) (c1 := 0) (c2 := 0) (c3 := 0) (by simp)
        have y0 := kr.c0; have y1 := kr.c1; have y2 := kr.c2; have y3 := kr.c3; have yf := kr.fr
        clear kr
        refine till_step (i := 7) (by kernel_rfl) rfl (fun K hK => ?_)
        go_simp
        have HM' := Lib.hid (HM.out.put s0 s1 s2 s3 (by omega) (by intro r hr; simp at hr; rcases hr with rfl <;> simp <;> omega))
        have KK' := Lib.hid (KK.out.set4 (d := (v1.heap.size)) (by omega) s0 s1 s2 s3)
        clear HM KK
        have HM := HM'
        have KK := KK'
        clear HM' KK'
        refine hK.out _ _ (Or.inl rfl) (fun _ => ?_)
        clear hK K
        refine till_done (by kernel_rfl) ?_
        go_wp2_with fail
        go_meet
        exact ⟨(v1.heap.size), s0, s1, s2, s3, rfl, hs, HVs, HM, KK⟩
    · go_simp
      have HM9 := HM
      have KK9 := KK
      have HM' := Lib.hid (HM.out.new (w2.heap.size) 0 0 0 0 83 (by first | rfl | (simp; done)))
      have KK' := Lib.hid (KK.out.same ((Below.refl _ _).alloc (Nat.le_refl _) (.cells #[.int .u64 (0 : Nat), .int .u64 (0 : Nat), .int .u64 (0 : Nat), .int .u64 (0 : Nat)] 83)))
      have hgk : w1.heap.size < (w2.heap.size) := by first | exact KK.out.lt | (have := KK.out.lt; simpa using this)
      clear HM KK
      have HM := HM'
      have KK := KK'
      clear HM' KK'
      have HS := And.intro (HM.out.sub (rs' := [(w.heap.size, a0, a1, a2, a3)]) (by simp)) KK.out
      refine hK.out _ _ (Or.inr HS) (fun _ => ?_)
      clear hK K HS
      refine till_step (i := 1) (by kernel_rfl) rfl (fun K hK => ?_)
      go_simp
      refine (into_calls F hf.ok w1.heap.size a0 a1 a2 a3 ha _ KK.out).mono ?_
      rintro e v1 ⟨i0, i1, i2, i3, rfl, hi, hv, hbl⟩
      have HVi := Lib.hid hv
      clear hv
      have HM' := Lib.hid (HM.out.on hbl)
      have KK' := Lib.hid (KK.out.same hbl)
      clear HM KK hbl
      have HM := HM'
      have KK := KK'
      clear HM' KK'
      have HS := And.intro (HM.out.sub (rs' := [(w.heap.size, a0, a1, a2, a3)]) (by simp)) KK.out
      refine hK.out _ _ (Or.inr HS) (fun _ => ?_)
      clear hK K HS
      refine till_step (i := 4) (by kernel_rfl) rfl (fun K hK => ?_)
      go_simp
      refine (shr_calls F.m0 F.m1 F.m2 F.m3 1 hf.ok.okm (by omega) (by omega) _).mono ?_
      rintro e v2 ⟨n0, n1, n2, n3, rfl, hn, hv, hbl⟩
      have HVn := Lib.hid (show val4 n0 n1 n2 n3 = F.M / 2 by rw [hv]; rfl)
      clear hv
      have HM' := Lib.hid (HM.out.on hbl)
      have KK' := Lib.hid (KK.out.same hbl)
      clear HM KK hbl
      have HM := HM'
      have KK := KK'
      clear HM' KK'
      have HS := And.intro (HM.out.sub (rs' := [(w.heap.size, a0, a1, a2, a3)]) (by simp)) KK.out
      refine hK.out _ _ (Or.inr HS) (fun _ => ?_)
      clear hK K HS
      refine till_step (i := 5) (by kernel_rfl) rfl (fun K hK => ?_)
      go_simp
      refine (power_calls F hf.ok (val4 a0 a1 a2 a3) w1.heap.size i0 i1 i2 i3 n0 n1 n2 n3 hi hn HVi.out _ KK.out).mono ?_
      rintro e v3 ⟨s0, s1, s2, s3, rfl, hs, hv, hbl⟩
      have HVs := Lib.hid (show val4 s0 s1 s2 s3 = kp F (val4 a0 a1 a2 a3 ^ (F.M / 2)) by rw [hv, HVn.out])
      clear hv
      have HM' := Lib.hid (HM.out.on hbl)
      have KK' := Lib.hid (KK.out.same hbl)
      clear HM KK hbl
      have HM := HM'
      have KK := KK'
      clear HM' KK'
      have HS := And.intro (HM.out.sub (rs' := [(w.heap.size, a0, a1, a2, a3)]) (by simp)) KK.out
      refine hK.out _ _ (Or.inr HS) (fun _ => ?_)
      clear hK K HS
      have kr := HM.out.row (b := (w2.heap.size)) (c0 := 0) (c1 := 0) (c2 := 0) (c3 := 0) (by simp)
      have yl := HM.out.lt (b := (w2.heap.size)) (c0 := 0) (c1 := 0) (c2 := 0) (c3 := 0) (by simp)
      have y0 := kr.c0; have y1 := kr.c1; have y2 := kr.c2; have y3 := kr.c3; have yf := kr.fr
      clear kr
      refine till_step (i := 7) (by kernel_rfl) rfl (fun K hK => ?_)
      go_simp
      have HM' := Lib.hid (HM.out.put s0 s1 s2 s3 (by omega) (by intro r hr; simp at hr; rcases hr with rfl <;> simp <;> omega))
      have KK' := Lib.hid (KK.out.set4 (d := (w2.heap.size)) (by omega) s0 s1 s2 s3)
      clear HM KK
      have HM := HM'
      have KK := KK'
      clear HM' KK'
      refine hK.out _ _ (Or.inl rfl) (fun _ => ?_)
      clear hK K
      refine till_done (by kernel_rfl) ?_
      go_wp2_with fail
      go_meet
      exact ⟨(w2.heap.size), s0, s1, s2, s3, rfl, hs, HVs, HM, KK⟩
  case rest =>
    obtain ⟨gb, s0, s1, s2, s3, rfl, hs, HVs, HM', KK'⟩ := hcut
    clear HM KK
    have HM := HM'
    have KK := KK'
    clear HM' KK'
    have kr := HM.out.row (b := gb) (c0 := s0) (c1 := s1) (c2 := s2) (c3 := s3) (by simp)
    have x0 := kr.c0; have x1 := kr.c1; have x2 := kr.c2; have x3 := kr.c3
    clear kr
    have xl := HM.out.lt (b := gb) (c0 := s0) (c1 := s1) (c2 := s2) (c3 := s3) (by simp)
    have hE : ∀ w, (Op.equalIn 10000 83 (.agg #[.int .u64 s0, .int .u64 s1, .int .u64 s2, .int .u64 s3]) (.agg #[.int .u64 0, .int .u64 0, .int .u64 0, .int .u64 0])).run Try.prog w = .ok false w := fun w => by
      have h := equalInK 9998 s0 s1 s2 s3 0 0 0 0 w
      rw [show eqW s0 s1 s2 s3 0 0 0 0 = false from eqW_false (fun q => HH.out.1 ((kp_eq_zero hf.ok hs HVs.out).1 q))] at h
      exact h
    go_wp2_with fail
    clear hE x0 x1 x2 x3 xl
    refine region_till (fun wx => Mem w wx [(gb, s0, s1, s2, s3)] ∧ KIs wx w1.heap.size F) 2 (by kernel_rfl) ?_
    have HM' := Lib.hid (HM.out.drewN 1)
    have KK' := Lib.hid (KK.out.drewN 1)
    clear HM KK
    have HM := HM'
    have KK := KK'
    clear HM' KK'
    have HS := And.intro (HM.out.sub (rs' := [(gb, s0, s1, s2, s3)]) (by simp)) KK.out
    refine till_take (i := 0) (v := .agg #[.int .u64 s0, .int .u64 s1, .int .u64 s2, .int .u64 s3]) rfl (by kernel_rfl) (by kernel_rfl) (by kernel_rfl) (by kernel_rfl) (fun _ _ _ h => h) HS (Or.inl ⟨by kernel_rfl, fun wx hx => ?_⟩) ?_
    · have kr := hx.1.row (b := gb) (c0 := s0) (c1 := s1) (c2 := s2) (c3 := s3) (by simp)
      have x0 := kr.c0; have x1 := kr.c1; have x2 := kr.c2; have x3 := kr.c3
      clear kr HS hx
      go_simp
    simp only [Act.put, List.setIfInBounds_toArray, List.set_cons_zero, List.set_cons_succ]
    clear HS
    refine till_step (i := 1) (by kernel_rfl) rfl (fun K hK => ?_)
    go_simp
    refine (one_calls F hf.ok w1.heap.size _ KK.out).mono ?_
    rintro e w9 ⟨o0, o1, o2, o3, rfl, ho, hv, hbl⟩
    have hq := eq_one hf.ok hs ho HVs.out hv
    have hE : ∀ w, (Op.equalIn 10000 83 (.agg #[.int .u64 s0, .int .u64 s1, .int .u64 s2, .int .u64 s3]) (.agg #[.int .u64 o0, .int .u64 o1, .int .u64 o2, .int .u64 o3])).run Try.prog w = .ok false w := fun w => by
      have h := equalInK 9998 s0 s1 s2 s3 o0 o1 o2 o3 w
      rw [show eqW s0 s1 s2 s3 o0 o1 o2 o3 = false from eqW_false (fun q => HH.out.2 (hq.1 q))] at h
      exact h
    have HM' := Lib.hid (HM.out.on hbl)
    have KK' := Lib.hid (KK.out.same hbl)
    clear HM KK hbl hv hq
    have HM := HM'
    have KK := KK'
    clear HM' KK'
    have HS := And.intro (HM.out.sub (rs' := [(gb, s0, s1, s2, s3)]) (by simp)) KK.out
    refine hK.out _ _ (Or.inr HS) (fun _ => ?_)
    clear hK K HS
    refine till_step (i := 2) (by kernel_rfl) rfl (fun K hK => ?_)
    go_simp
    refine hK.out _ _ (Or.inl rfl) (fun _ => ?_)
    clear hK K
    refine till_done (by kernel_rfl) ?_
    go_wp2_with fail
    go_ret2
    exact ⟨rfl, HM.out.1⟩
end Go.Proofs.Ytalddekocfkbhaa
