/-
  The reference's root of a square of the second field, by Shanks: its square is the element. Conditions: the element is below the modulus, and a square or 0.
-/
import Derived.Test.YtalddekocfkbhaaRInv
import Derived.Test.YtalddekocfkbhaaFldTon
namespace Go.Proofs.Ytalddekocfkbhaa
set_option linter.unusedVariables false
set_option linter.unusedSimpArgs false
open Go.RowKit

/-- half of the odd part of r - 1 -/
def hOdd : Nat := 40770029410420498293352137776570907027550720424234931066070132305055
theorem odd_val : ok4 11211439779908376895 1735440370612733063 1376415503089949544 12990080814 ∧ val4 11211439779908376895 1735440370612733063 1376415503089949544 12990080814 = 2 * hOdd + 1 ∧ ok4 14829091926808964256 867720185306366531 688207751544974772 6495040407 ∧ val4 14829091926808964256 867720185306366531 688207751544974772 6495040407 = hOdd + 1 := ⟨by unfold ok4; decide, by kernel_rfl, by unfold ok4; decide, by kernel_rfl⟩
theorem fr_split : FR.M = 2 ^ 28 * (2 * hOdd + 1) + 1 := by rw [FR_M]; rfl
theorem five_half (e : Nat) (he : e = 10944121435919637611123202872628637544274182200208017171849102093287904247808) : 5 ^ e % FR.M = FR.M - 1 :=
  pm_val (by subst he; decide) (by subst he; kernel_rfl)
theorem odd_half (T : Nat) (hT : T = 28) : (2 * hOdd + 1) * 2 ^ (T - 1) = 10944121435919637611123202872628637544274182200208017171849102093287904247808 := by subst hT; rfl
theorem five_odd (T : Nat) (hT : T = 28) : (5 ^ (2 * hOdd + 1) % FR.M) ^ 2 ^ (T - 1) % FR.M = FR.M - 1 := by
  rw [← Nat.pow_mod, ← Nat.pow_mul]
  exact five_half _ (odd_half T hT)
theorem ton_mod {M A T R S C : Nat} (h : TonI M A T R S C) : TonI M A T (R % M) (S % M) (C % M) := by
  obtain ⟨h1, h2, h3, h4⟩ := h
  refine ⟨h1, ?_, ?_, ?_⟩
  · rw [← Nat.mul_mod, h2, Nat.mul_mod_mod]
  · rw [← Nat.pow_mod]; exact h3
  · rw [← Nat.pow_mod]; exact h4
theorem ton_begin {M A H T C : Nat} (hM : M = 2 ^ T * (2 * H + 1) + 1) (hT : 1 ≤ T) (hC : C ^ 2 ^ (T - 1) % M = M - 1) (hs : A ^ (M / 2) % M = 1) :
    TonI M A T (A ^ (H + 1) % M) (A ^ (2 * H + 1) % M) C := by
  have h := ton_start hM hT hC hs
  have e1 : A * A ^ H = A ^ (H + 1) := by rw [Nat.pow_succ, Nat.mul_comm]
  have e2 : A * A ^ H * A ^ H = A ^ (2 * H + 1) := by rw [e1, ← Nat.pow_add]; congr 1; omega
  rw [e2, e1] at h
  obtain ⟨h1, h2, h3, h4⟩ := h
  refine ⟨h1, ?_, h3, ?_⟩
  · rw [← Nat.mul_mod, h2, Nat.mul_mod_mod]
  · rw [← Nat.pow_mod]; exact h4
theorem ton_step {M g : Nat} (hr : Root M g) (h2 : 2 < M) {A T o R S C : Nat} (h : TonI M A T R S C) (ho : 0 < o) (hoT : o < T) (h1 : S ^ 2 ^ o % M = 1) (hmin : S ^ 2 ^ (o - 1) % M ≠ 1) :
    TonI M A o (R * (C ^ 2 ^ (T - o - 1) % M) % M) (S * (C ^ 2 ^ (T - o - 1) % M * (C ^ 2 ^ (T - o - 1) % M) % M) % M) (C ^ 2 ^ (T - o - 1) % M * (C ^ 2 ^ (T - o - 1) % M) % M) := by
  have h' := ton_mod (ton_next hr h2 h ho hoT h1 hmin)
  rw [← Nat.mul_mod, Nat.mul_mod_mod, Nat.mul_mod_mod]
  exact h'
set_option maxRecDepth 100000 in
set_option maxHeartbeats 4000000 in
theorem rshanks_calls (a0 a1 a2 a3 : Nat) (ha : ok4 a0 a1 a2 a3) (hs : val4 a0 a1 a2 a3 ^ (FR.M / 2) % FR.M = 1 ∨ val4 a0 a1 a2 a3 = 0) (w : World) :
    Calls Try.prog 67 #[.agg #[.int .u64 a0, .int .u64 a1, .int .u64 a2, .int .u64 a3]] w (fun e w' => ∃ s0 s1 s2 s3 : Nat, e = .returned (.agg #[.int .u64 s0, .int .u64 s1, .int .u64 s2, .int .u64 s3]) ∧ ok4 s0 s1 s2 s3 ∧ val4 s0 s1 s2 s3 * val4 s0 s1 s2 s3 % FR.M = val4 a0 a1 a2 a3 % FR.M ∧ val4 s0 s1 s2 s3 < FR.M ∧ Below w.heap.size w w') := by
  have hG := eqGuardF
  have hf : FieldIs 2 FR := Or.inr ⟨rfl, rfl⟩
  obtain ⟨gg, hroot⟩ := hf.root
  have HRt := Lib.hid hroot
  have HSq := Lib.hid hs
  have HOd := Lib.hid odd_val
  have h2 := FR_ok.gt
  clear hroot hs
  go_enter Try.func67, Try.ntmps67
  go_upto_region 3 with fail
  have HM := Lib.hid (((((Mem.nil w).new (w.heap.size) a0 a1 a2 a3 25 (by simp)).new (w.heap.size + 1) 0 0 0 0 25 (by simp)).new (w.heap.size + 1 + 1) 11211439779908376895 1735440370612733063 1376415503089949544 12990080814 26 (by simp)).new (w.heap.size + 1 + 1 + 1) 14829091926808964256 867720185306366531 688207751544974772 6495040407 26 (by simp))
  go_cut [5] (fun s5 wx => ∃ gc c0 c1 c2 c3 : Nat, s5 = .pointer (some ⟨gc, 0, none⟩) ∧ w.heap.size + 1 + 1 + 1 < gc ∧ ok4 c0 c1 c2 c3 ∧ Hid (val4 c0 c1 c2 c3 = 5 ^ (2 * hOdd + 1) % FR.M) ∧ Hid (Mem w wx [(gc, c0, c1, c2, c3), (w.heap.size + 1 + 1 + 1, 14829091926808964256, 867720185306366531, 688207751544974772, 6495040407), (w.heap.size + 1 + 1, 11211439779908376895, 1735440370612733063, 1376415503089949544, 12990080814), (w.heap.size + 1, 0, 0, 0, 0), (w.heap.size, a0, a1, a2, a3)]))
  case first =>
    refine region_till (fun wx => Mem w wx [(w.heap.size + 1 + 1 + 1, 14829091926808964256, 867720185306366531, 688207751544974772, 6495040407), (w.heap.size + 1 + 1, 11211439779908376895, 1735440370612733063, 1376415503089949544, 12990080814), (w.heap.size + 1, 0, 0, 0, 0), (w.heap.size, a0, a1, a2, a3)]) 4 (by kernel_rfl) ?_
    have HM' := Lib.hid (HM.out.drewN 1)
    clear HM
    have HM := HM'
    clear HM'
    have HS := HM.out.sub (rs' := [(w.heap.size + 1 + 1 + 1, 14829091926808964256, 867720185306366531, 688207751544974772, 6495040407), (w.heap.size + 1 + 1, 11211439779908376895, 1735440370612733063, 1376415503089949544, 12990080814), (w.heap.size + 1, 0, 0, 0, 0), (w.heap.size, a0, a1, a2, a3)]) (by simp)
    refine till_take (i := 1) (v := .agg #[.int .u64 11211439779908376895, .int .u64 1735440370612733063, .int .u64 1376415503089949544, .int .u64 12990080814]) rfl (by kernel_rfl) (by kernel_rfl) (by kernel_rfl) (by kernel_rfl) (fun _ _ _ h => h) HS (Or.inl ⟨by kernel_rfl, fun wx hx => ?_⟩) ?_
    · have kr := hx.row (b := w.heap.size + 1 + 1) (c0 := 11211439779908376895) (c1 := 1735440370612733063) (c2 := 1376415503089949544) (c3 := 12990080814) (by simp)
      have x0 := kr.c0; have x1 := kr.c1; have x2 := kr.c2; have x3 := kr.c3
      clear kr HS hx
      go_simp
    simp only [Act.put, List.setIfInBounds_toArray, List.set_cons_zero, List.set_cons_succ]
    clear HS
    refine till_two (i := 0) (j := 3) (by kernel_rfl) rfl rfl (fun K hK => ?_) (fun K hK => ?_)
    · go_simp
      refine (rof_calls 5 _).mono ?_
      rintro e v1 ⟨rfl, hbl⟩
      have HM' := Lib.hid (HM.out.on hbl)
      clear HM hbl
      have HM := HM'
      clear HM'
      have HS := HM.out.sub (rs' := [(w.heap.size + 1 + 1 + 1, 14829091926808964256, 867720185306366531, 688207751544974772, 6495040407), (w.heap.size + 1 + 1, 11211439779908376895, 1735440370612733063, 1376415503089949544, 12990080814), (w.heap.size + 1, 0, 0, 0, 0), (w.heap.size, a0, a1, a2, a3)]) (by simp)
      refine hK.out _ _ (Or.inr HS) (fun _ => ?_)
      clear hK K
      clear HS
      refine till_two (i := 2) (j := 3) (by kernel_rfl) rfl rfl (fun K hK => ?_) (fun K hK => ?_)
      · go_simp
        refine (rexp_calls 2 FR hf 5 0 0 0 11211439779908376895 1735440370612733063 1376415503089949544 12990080814 (show ok4 5 0 0 0 by unfold ok4; decide) HOd.out.1 _).mono ?_
        rintro e v2 ⟨c0, c1, c2, c3, rfl, hc, hv, hbl⟩
        have HVc := Lib.hid (show val4 c0 c1 c2 c3 = 5 ^ (2 * hOdd + 1) % FR.M by rw [hv, HOd.out.2.1, show val4 5 0 0 0 = 5 from rfl])
        clear hv
        have HM' := Lib.hid (HM.out.on hbl)
        clear HM hbl
        have HM := HM'
        clear HM'
        have HS := HM.out.sub (rs' := [(w.heap.size + 1 + 1 + 1, 14829091926808964256, 867720185306366531, 688207751544974772, 6495040407), (w.heap.size + 1 + 1, 11211439779908376895, 1735440370612733063, 1376415503089949544, 12990080814), (w.heap.size + 1, 0, 0, 0, 0), (w.heap.size, a0, a1, a2, a3)]) (by simp)
        refine hK.out _ _ (Or.inr HS) (fun _ => ?_)
        clear hK K
        clear HS
        refine till_step (i := 3) (by kernel_rfl) rfl (fun K hK => ?_)
        go_simp
        have HM9 := HM
        have hgb : w.heap.size ≤ (v2.heap.size) := by first | exact HM.out.1.size | (have := HM.out.1.size; simp at this; omega) | omega
        have hgl0 : w.heap.size + 1 + 1 + 1 < (v2.heap.size) := by first | exact HM.out.lt (b := w.heap.size + 1 + 1 + 1) (c0 := 14829091926808964256) (c1 := 867720185306366531) (c2 := 688207751544974772) (c3 := 6495040407) (by simp) | (have := HM.out.lt (b := w.heap.size + 1 + 1 + 1) (c0 := 14829091926808964256) (c1 := 867720185306366531) (c2 := 688207751544974772) (c3 := 6495040407) (by simp); simp at this; omega) | omega
        have hgl1 : w.heap.size + 1 + 1 < (v2.heap.size) := by first | exact HM.out.lt (b := w.heap.size + 1 + 1) (c0 := 11211439779908376895) (c1 := 1735440370612733063) (c2 := 1376415503089949544) (c3 := 12990080814) (by simp) | (have := HM.out.lt (b := w.heap.size + 1 + 1) (c0 := 11211439779908376895) (c1 := 1735440370612733063) (c2 := 1376415503089949544) (c3 := 12990080814) (by simp); simp at this; omega) | omega
        have hgl2 : w.heap.size + 1 < (v2.heap.size) := by first | exact HM.out.lt (b := w.heap.size + 1) (c0 := 0) (c1 := 0) (c2 := 0) (c3 := 0) (by simp) | (have := HM.out.lt (b := w.heap.size + 1) (c0 := 0) (c1 := 0) (c2 := 0) (c3 := 0) (by simp); simp at this; omega) | omega
        have hgl3 : w.heap.size < (v2.heap.size) := by first | exact HM.out.lt (b := w.heap.size) (c0 := a0) (c1 := a1) (c2 := a2) (c3 := a3) (by simp) | (have := HM.out.lt (b := w.heap.size) (c0 := a0) (c1 := a1) (c2 := a2) (c3 := a3) (by simp); simp at this; omega) | omega
        have HM' := Lib.hid (HM.out.new (v2.heap.size) 0 0 0 0 25 (by first | rfl | (simp; done)))
        clear HM
        have HM := HM'
        clear HM'
        have HS := HM.out.sub (rs' := [(w.heap.size + 1 + 1 + 1, 14829091926808964256, 867720185306366531, 688207751544974772, 6495040407), (w.heap.size + 1 + 1, 11211439779908376895, 1735440370612733063, 1376415503089949544, 12990080814), (w.heap.size + 1, 0, 0, 0, 0), (w.heap.size, a0, a1, a2, a3)]) (by simp)
        refine hK.out _ _ (Or.inr HS) (fun _ => ?_)
        clear hK K HS
        have kr := HM.out.row (b := (v2.heap.size)) (c0 := 0) (c1 := 0) (c2 := 0) (c3 := 0) (by simp)
        have yl := HM.out.lt (b := (v2.heap.size)) (c0 := 0) (c1 := 0) (c2 := 0) (c3 := 0) (by simp)
        have y0 := kr.c0; have y1 := kr.c1; have y2 := kr.c2; have y3 := kr.c3; have yf := kr.fr
        clear kr
        refine till_step (i := 4) (by kernel_rfl) rfl (fun K hK => ?_)
        go_simp
        have HM' := Lib.hid (HM9.out.new (v2.heap.size) c0 c1 c2 c3 25 (by first | rfl | (simp; done)))
        clear HM
        have HM := HM'
        clear HM'
        refine hK.out _ _ (Or.inl rfl) (fun _ => ?_)
        clear hK K
        refine till_done (by kernel_rfl) ?_
        go_wp2_with fail
        go_meet
        exact ⟨(v2.heap.size), c0, c1, c2, c3, rfl, by omega, hc, HVc, HM⟩
      · go_simp
        have HM9 := HM
        have hgb : w.heap.size ≤ (v1.heap.size) := by first | exact HM.out.1.size | (have := HM.out.1.size; simp at this; omega) | omega
        have hgl0 : w.heap.size + 1 + 1 + 1 < (v1.heap.size) := by first | exact HM.out.lt (b := w.heap.size + 1 + 1 + 1) (c0 := 14829091926808964256) (c1 := 867720185306366531) (c2 := 688207751544974772) (c3 := 6495040407) (by simp) | (have := HM.out.lt (b := w.heap.size + 1 + 1 + 1) (c0 := 14829091926808964256) (c1 := 867720185306366531) (c2 := 688207751544974772) (c3 := 6495040407) (by simp); simp at this; omega) | omega
        have hgl1 : w.heap.size + 1 + 1 < (v1.heap.size) := by first | exact HM.out.lt (b := w.heap.size + 1 + 1) (c0 := 11211439779908376895) (c1 := 1735440370612733063) (c2 := 1376415503089949544) (c3 := 12990080814) (by simp) | (have := HM.out.lt (b := w.heap.size + 1 + 1) (c0 := 11211439779908376895) (c1 := 1735440370612733063) (c2 := 1376415503089949544) (c3 := 12990080814) (by simp); simp at this; omega) | omega
        have hgl2 : w.heap.size + 1 < (v1.heap.size) := by first | exact HM.out.lt (b := w.heap.size + 1) (c0 := 0) (c1 := 0) (c2 := 0) (c3 := 0) (by simp) | (have := HM.out.lt (b := w.heap.size + 1) (c0 := 0) (c1 := 0) (c2 := 0) (c3 := 0) (by simp); simp at this; omega) | omega
        have hgl3 : w.heap.size < (v1.heap.size) := by first | exact HM.out.lt (b := w.heap.size) (c0 := a0) (c1 := a1) (c2 := a2) (c3 := a3) (by simp) | (have := HM.out.lt (b := w.heap.size) (c0 := a0) (c1 := a1) (c2 := a2) (c3 := a3) (by simp); simp at this; omega) | omega
        have HM' := Lib.hid (HM.out.new (v1.heap.size) 0 0 0 0 25 (by first | rfl | (simp; done)))
        clear HM
        have HM := HM'
        clear HM'
        have HS := HM.out.sub (rs' := [(w.heap.size + 1 + 1 + 1, 14829091926808964256, 867720185306366531, 688207751544974772, 6495040407), (w.heap.size + 1 + 1, 11211439779908376895, 1735440370612733063, 1376415503089949544, 12990080814), (w.heap.size + 1, 0, 0, 0, 0), (w.heap.size, a0, a1, a2, a3)]) (by simp)
        refine hK.out _ _ (Or.inr HS) (fun _ => ?_)
        clear hK K HS
        refine till_step (i := 2) (by kernel_rfl) rfl (fun K hK => ?_)
        go_simp
        refine (rexp_calls 2 FR hf 5 0 0 0 11211439779908376895 1735440370612733063 1376415503089949544 12990080814 (show ok4 5 0 0 0 by unfold ok4; decide) HOd.out.1 _).mono ?_
        rintro e v2 ⟨c0, c1, c2, c3, rfl, hc, hv, hbl⟩
        have HVc := Lib.hid (show val4 c0 c1 c2 c3 = 5 ^ (2 * hOdd + 1) % FR.M by rw [hv, HOd.out.2.1, show val4 5 0 0 0 = 5 from rfl])
        clear hv
        have HM' := Lib.hid (HM.out.on hbl)
        clear HM hbl
        have HM := HM'
        clear HM'
        have HS := HM.out.sub (rs' := [(w.heap.size + 1 + 1 + 1, 14829091926808964256, 867720185306366531, 688207751544974772, 6495040407), (w.heap.size + 1 + 1, 11211439779908376895, 1735440370612733063, 1376415503089949544, 12990080814), (w.heap.size + 1, 0, 0, 0, 0), (w.heap.size, a0, a1, a2, a3)]) (by simp)
        refine hK.out _ _ (Or.inr HS) (fun _ => ?_)
        clear hK K
        clear HS
        have kr := HM.out.row (b := (v1.heap.size)) (c0 := 0) (c1 := 0) (c2 := 0) (c3 := 0) (by simp)
        have yl := HM.out.lt (b := (v1.heap.size)) (c0 := 0) (c1 := 0) (c2 := 0) (c3 := 0) (by simp)
        have y0 := kr.c0; have y1 := kr.c1; have y2 := kr.c2; have y3 := kr.c3; have yf := kr.fr
        clear kr
        refine till_step (i := 4) (by kernel_rfl) rfl (fun K hK => ?_)
        go_simp
        have HM' := Lib.hid ((HM.out.sub (rs' := [((v1.heap.size), 0, 0, 0, 0), (w.heap.size + 1 + 1 + 1, 14829091926808964256, 867720185306366531, 688207751544974772, 6495040407), (w.heap.size + 1 + 1, 11211439779908376895, 1735440370612733063, 1376415503089949544, 12990080814), (w.heap.size + 1, 0, 0, 0, 0), (w.heap.size, a0, a1, a2, a3)]) (by simp)).put c0 c1 c2 c3 hgb (by intro r hr; simp at hr; rcases hr with rfl | rfl | rfl | rfl <;> simp <;> omega))
        clear HM
        have HM := HM'
        clear HM'
        refine hK.out _ _ (Or.inl rfl) (fun _ => ?_)
        clear hK K
        refine till_done (by kernel_rfl) ?_
        go_wp2_with fail
        go_meet
        exact ⟨(v1.heap.size), c0, c1, c2, c3, rfl, by omega, hc, HVc, HM⟩
    · go_simp
      have HM9 := HM
      have hgb : w.heap.size ≤ (w.heap.size + 1 + 1 + 1 + 1) := by first | exact HM.out.1.size | (have := HM.out.1.size; simp at this; omega) | omega
      have hgl0 : w.heap.size + 1 + 1 + 1 < (w.heap.size + 1 + 1 + 1 + 1) := by first | exact HM.out.lt (b := w.heap.size + 1 + 1 + 1) (c0 := 14829091926808964256) (c1 := 867720185306366531) (c2 := 688207751544974772) (c3 := 6495040407) (by simp) | (have := HM.out.lt (b := w.heap.size + 1 + 1 + 1) (c0 := 14829091926808964256) (c1 := 867720185306366531) (c2 := 688207751544974772) (c3 := 6495040407) (by simp); simp at this; omega) | omega
      have hgl1 : w.heap.size + 1 + 1 < (w.heap.size + 1 + 1 + 1 + 1) := by first | exact HM.out.lt (b := w.heap.size + 1 + 1) (c0 := 11211439779908376895) (c1 := 1735440370612733063) (c2 := 1376415503089949544) (c3 := 12990080814) (by simp) | (have := HM.out.lt (b := w.heap.size + 1 + 1) (c0 := 11211439779908376895) (c1 := 1735440370612733063) (c2 := 1376415503089949544) (c3 := 12990080814) (by simp); simp at this; omega) | omega
      have hgl2 : w.heap.size + 1 < (w.heap.size + 1 + 1 + 1 + 1) := by first | exact HM.out.lt (b := w.heap.size + 1) (c0 := 0) (c1 := 0) (c2 := 0) (c3 := 0) (by simp) | (have := HM.out.lt (b := w.heap.size + 1) (c0 := 0) (c1 := 0) (c2 := 0) (c3 := 0) (by simp); simp at this; omega) | omega
      have hgl3 : w.heap.size < (w.heap.size + 1 + 1 + 1 + 1) := by first | exact HM.out.lt (b := w.heap.size) (c0 := a0) (c1 := a1) (c2 := a2) (c3 := a3) (by simp) | (have := HM.out.lt (b := w.heap.size) (c0 := a0) (c1 := a1) (c2 := a2) (c3 := a3) (by simp); simp at this; omega) | omega
      have HM' := Lib.hid (HM.out.new (w.heap.size + 1 + 1 + 1 + 1) 0 0 0 0 25 (by first | rfl | (simp; done)))
      clear HM
      have HM := HM'
      clear HM'
      have HS := HM.out.sub (rs' := [(w.heap.size + 1 + 1 + 1, 14829091926808964256, 867720185306366531, 688207751544974772, 6495040407), (w.heap.size + 1 + 1, 11211439779908376895, 1735440370612733063, 1376415503089949544, 12990080814), (w.heap.size + 1, 0, 0, 0, 0), (w.heap.size, a0, a1, a2, a3)]) (by simp)
      refine hK.out _ _ (Or.inr HS) (fun _ => ?_)
      clear hK K HS
      refine till_step (i := 0) (by kernel_rfl) rfl (fun K hK => ?_)
      go_simp
      refine (rof_calls 5 _).mono ?_
      rintro e v1 ⟨rfl, hbl⟩
      have HM' := Lib.hid (HM.out.on hbl)
      clear HM hbl
      have HM := HM'
      clear HM'
      have HS := HM.out.sub (rs' := [(w.heap.size + 1 + 1 + 1, 14829091926808964256, 867720185306366531, 688207751544974772, 6495040407), (w.heap.size + 1 + 1, 11211439779908376895, 1735440370612733063, 1376415503089949544, 12990080814), (w.heap.size + 1, 0, 0, 0, 0), (w.heap.size, a0, a1, a2, a3)]) (by simp)
      refine hK.out _ _ (Or.inr HS) (fun _ => ?_)
      clear hK K
      clear HS
      refine till_step (i := 2) (by kernel_rfl) rfl (fun K hK => ?_)
      go_simp
      refine (rexp_calls 2 FR hf 5 0 0 0 11211439779908376895 1735440370612733063 1376415503089949544 12990080814 (show ok4 5 0 0 0 by unfold ok4; decide) HOd.out.1 _).mono ?_
      rintro e v2 ⟨c0, c1, c2, c3, rfl, hc, hv, hbl⟩
      have HVc := Lib.hid (show val4 c0 c1 c2 c3 = 5 ^ (2 * hOdd + 1) % FR.M by rw [hv, HOd.out.2.1, show val4 5 0 0 0 = 5 from rfl])
      clear hv
      have HM' := Lib.hid (HM.out.on hbl)
      clear HM hbl
      have HM := HM'
      clear HM'
      have HS := HM.out.sub (rs' := [(w.heap.size + 1 + 1 + 1, 14829091926808964256, 867720185306366531, 688207751544974772, 6495040407), (w.heap.size + 1 + 1, 11211439779908376895, 1735440370612733063, 1376415503089949544, 12990080814), (w.heap.size + 1, 0, 0, 0, 0), (w.heap.size, a0, a1, a2, a3)]) (by simp)
      refine hK.out _ _ (Or.inr HS) (fun _ => ?_)
      clear hK K
      clear HS
      have kr := HM.out.row (b := (w.heap.size + 1 + 1 + 1 + 1)) (c0 := 0) (c1 := 0) (c2 := 0) (c3 := 0) (by simp)
      have yl := HM.out.lt (b := (w.heap.size + 1 + 1 + 1 + 1)) (c0 := 0) (c1 := 0) (c2 := 0) (c3 := 0) (by simp)
      have y0 := kr.c0; have y1 := kr.c1; have y2 := kr.c2; have y3 := kr.c3; have yf := kr.fr
      clear kr
      refine till_step (i := 4) (by kernel_rfl) rfl (fun K hK => ?_)
      go_simp
      have HM' := Lib.hid ((HM.out.sub (rs' := [((w.heap.size + 1 + 1 + 1 + 1), 0, 0, 0, 0), (w.heap.size + 1 + 1 + 1, 14829091926808964256, 867720185306366531, 688207751544974772, 6495040407), (w.heap.size + 1 + 1, 11211439779908376895, 1735440370612733063, 1376415503089949544, 12990080814), (w.heap.size + 1, 0, 0, 0, 0), (w.heap.size, a0, a1, a2, a3)]) (by simp)).put c0 c1 c2 c3 hgb (by intro r hr; simp at hr; rcases hr with rfl | rfl | rfl | rfl <;> simp <;> omega))
      clear HM
      have HM := HM'
      clear HM'
      refine hK.out _ _ (Or.inl rfl) (fun _ => ?_)
      clear hK K
      refine till_done (by kernel_rfl) ?_
      go_wp2_with fail
      go_meet
      exact ⟨(w.heap.size + 1 + 1 + 1 + 1), c0, c1, c2, c3, rfl, by omega, hc, HVc, HM⟩
  case rest =>
    obtain ⟨gc, c0, c1, c2, c3, rfl, hgc, hc, HVc, HM⟩ := hcut
    have kr := HM.out.row (b := w.heap.size) (c0 := a0) (c1 := a1) (c2 := a2) (c3 := a3) (by simp)
    have p0 := kr.c0; have p1 := kr.c1; have p2 := kr.c2; have p3 := kr.c3
    clear kr
    have pl := HM.out.lt (b := w.heap.size) (c0 := a0) (c1 := a1) (c2 := a2) (c3 := a3) (by simp)
    have kr := HM.out.row (b := w.heap.size + 1 + 1 + 1) (c0 := 14829091926808964256) (c1 := 867720185306366531) (c2 := 688207751544974772) (c3 := 6495040407) (by simp)
    have q0 := kr.c0; have q1 := kr.c1; have q2 := kr.c2; have q3 := kr.c3
    clear kr
    have ql := HM.out.lt (b := w.heap.size + 1 + 1 + 1) (c0 := 14829091926808964256) (c1 := 867720185306366531) (c2 := 688207751544974772) (c3 := 6495040407) (by simp)
    go_wp2_with fail
    refine (rexp_calls 2 FR hf a0 a1 a2 a3 14829091926808964256 867720185306366531 688207751544974772 6495040407 ha HOd.out.2.2.1 _).mono ?_
    rintro e v3 ⟨x0, x1, x2, x3, rfl, hx, hv, hbl⟩
    have HVx := Lib.hid (show val4 x0 x1 x2 x3 = val4 a0 a1 a2 a3 ^ (hOdd + 1) % FR.M by rw [hv, HOd.out.2.2.2])
    have lc : gc < v3.heap.size := (HM.out.on hbl).lt (b := gc) (c0 := c0) (c1 := c1) (c2 := c2) (c3 := c3) (by simp)
    have HM' := Lib.hid ((HM.out.on hbl).new v3.heap.size x0 x1 x2 x3 25 rfl)
    clear hbl hv p0 p1 p2 p3 pl q0 q1 q2 q3 ql
    clear HM
    have HM := HM'
    clear HM'
    have kr := HM.out.row (b := w.heap.size) (c0 := a0) (c1 := a1) (c2 := a2) (c3 := a3) (by simp)
    have p0 := kr.c0; have p1 := kr.c1; have p2 := kr.c2; have p3 := kr.c3
    clear kr
    have pl := HM.out.lt (b := w.heap.size) (c0 := a0) (c1 := a1) (c2 := a2) (c3 := a3) (by simp)
    have kr := HM.out.row (b := w.heap.size + 1 + 1) (c0 := 11211439779908376895) (c1 := 1735440370612733063) (c2 := 1376415503089949544) (c3 := 12990080814) (by simp)
    have q0 := kr.c0; have q1 := kr.c1; have q2 := kr.c2; have q3 := kr.c3
    clear kr
    have ql := HM.out.lt (b := w.heap.size + 1 + 1) (c0 := 11211439779908376895) (c1 := 1735440370612733063) (c2 := 1376415503089949544) (c3 := 12990080814) (by simp)
    go_wp2_with fail
    refine (rexp_calls 2 FR hf a0 a1 a2 a3 11211439779908376895 1735440370612733063 1376415503089949544 12990080814 ha HOd.out.1 _).mono ?_
    rintro e v4 ⟨t0, t1, t2, t3, rfl, ht, hv, hbl⟩
    have HVt := Lib.hid (show val4 t0 t1 t2 t3 = val4 a0 a1 a2 a3 ^ (2 * hOdd + 1) % FR.M by rw [hv, HOd.out.2.1])
    have lx : v3.heap.size < v4.heap.size := (HM.out.on hbl).lt (b := v3.heap.size) (c0 := x0) (c1 := x1) (c2 := x2) (c3 := x3) (by simp)
    have HM' := Lib.hid ((HM.out.on hbl).new v4.heap.size t0 t1 t2 t3 25 rfl)
    clear hbl hv p0 p1 p2 p3 pl q0 q1 q2 q3 ql
    clear HM
    have HM := HM'
    clear HM'
    have HI : Hid (TonI FR.M (val4 a0 a1 a2 a3) 28 (val4 x0 x1 x2 x3) (val4 t0 t1 t2 t3) (val4 c0 c1 c2 c3) ∨ (val4 t0 t1 t2 t3 = 0 ∧ val4 x0 x1 x2 x3 = 0 ∧ val4 a0 a1 a2 a3 = 0)) := Lib.hid (by
      rcases HSq.out with h | h
      · left
        rw [HVx.out, HVt.out, HVc.out]
        exact ton_begin fr_split (by omega) (five_odd 28 rfl) h
      · right
        rw [HVx.out, HVt.out, h]
        exact ⟨by rw [Nat.zero_pow (by omega)]; rfl, by rw [Nat.zero_pow (by omega)]; rfl, rfl⟩)
    have HLT := Lib.hid (show val4 x0 x1 x2 x3 < FR.M ∧ val4 t0 t1 t2 t3 < FR.M ∧ val4 c0 c1 c2 c3 < FR.M by rw [HVx.out, HVt.out, HVc.out]; exact ⟨Nat.mod_lt _ (by omega), Nat.mod_lt _ (by omega), Nat.mod_lt _ (by omega)⟩)
    go_wp2_with fail
    obtain ⟨gx, hgx⟩ : ∃ gx, gx = v3.heap.size := ⟨_, rfl⟩
    obtain ⟨gt, hgt⟩ : ∃ gt, gt = v4.heap.size := ⟨_, rfl⟩
    rw [← hgx, ← hgt] at HM ⊢
    have ord1 : w.heap.size + 1 + 1 + 1 < gc ∧ gc < gx ∧ gx < gt := by omega
    clear HVx HVt HVc hgx hgt lc lx hgc HSq HOd
    have HM' := Lib.hid (HM.out.sub (rs' := [(gt, t0, t1, t2, t3), (gx, x0, x1, x2, x3), (gc, c0, c1, c2, c3), (w.heap.size + 1, 0, 0, 0, 0)]) (by simp))
    clear HM
    go_loopw [8] (fun t wr => ∃ n x0 x1 x2 x3 t0 t1 t2 t3 c0 c1 c2 c3 : Nat, t = .int .i64 n ∧ n ≤ 28 ∧ ok4 x0 x1 x2 x3 ∧ ok4 t0 t1 t2 t3 ∧ ok4 c0 c1 c2 c3 ∧ Hid (TonI FR.M (val4 a0 a1 a2 a3) n (val4 x0 x1 x2 x3) (val4 t0 t1 t2 t3) (val4 c0 c1 c2 c3) ∨ (val4 t0 t1 t2 t3 = 0 ∧ val4 x0 x1 x2 x3 = 0 ∧ val4 a0 a1 a2 a3 = 0)) ∧ Hid (val4 x0 x1 x2 x3 < FR.M ∧ val4 t0 t1 t2 t3 < FR.M ∧ val4 c0 c1 c2 c3 < FR.M) ∧ Hid (Mem w wr [(gt, t0, t1, t2, t3), (gx, x0, x1, x2, x3), (gc, c0, c1, c2, c3), (w.heap.size + 1, 0, 0, 0, 0)])) (fun t _ => (intOf t).toNat)
    case atStart => exact ⟨28, x0, x1, x2, x3, t0, t1, t2, t3, c0, c1, c2, c3, rfl, Nat.le_refl _, hx, ht, hc, HI, HLT, HM'⟩
    case round =>
      clear HM' HI HLT
      obtain ⟨n, x0, x1, x2, x3, t0, t1, t2, t3, c0, c1, c2, c3, rfl, hn28, hx, ht, hc, HI, HLT, HM⟩ := hrel
      have kr := HM.out.row (b := gt) (c0 := t0) (c1 := t1) (c2 := t2) (c3 := t3) (by simp)
      have p0 := kr.c0; have p1 := kr.c1; have p2 := kr.c2; have p3 := kr.c3
      clear kr
      have pl := HM.out.lt (b := gt) (c0 := t0) (c1 := t1) (c2 := t2) (c3 := t3) (by simp)
      have kr := HM.out.row (b := gx) (c0 := x0) (c1 := x1) (c2 := x2) (c3 := x3) (by simp)
      have q0 := kr.c0; have q1 := kr.c1; have q2 := kr.c2; have q3 := kr.c3
      clear kr
      have ql := HM.out.lt (b := gx) (c0 := x0) (c1 := x1) (c2 := x2) (c3 := x3) (by simp)
      have kr := HM.out.row (b := w.heap.size + 1) (c0 := 0) (c1 := 0) (c2 := 0) (c3 := 0) (by simp)
      have y0 := kr.c0; have y1 := kr.c1; have y2 := kr.c2; have y3 := kr.c3; have yf := kr.fr
      clear kr
      have yl := HM.out.lt (b := w.heap.size + 1) (c0 := 0) (c1 := 0) (c2 := 0) (c3 := 0) (by simp)
      by_cases h0 : val4 t0 t1 t2 t3 = 0
      · have E0 := eqF_zero ht h0
        have E1 := eqF_not_one ht (by rw [h0]; decide)
        have HQ := Lib.hid (show val4 x0 x1 x2 x3 * val4 x0 x1 x2 x3 % FR.M = val4 a0 a1 a2 a3 % FR.M by
          rcases HI.out with h | h
          · rw [h.2.1, h0, Nat.mul_zero, Nat.zero_mod]
            have h4 := h.2.2.2
            rw [h0, Nat.zero_pow (Nat.two_pow_pos _), Nat.zero_mod] at h4
            exact absurd h4 (by decide)
          · rw [h.2.1, h.2.2])
        clear h0 HI
        go_wp2_with fail
        refine bodyPost_ret (v := .agg #[.int .u64 x0, .int .u64 x1, .int .u64 x2, .int .u64 x3]) (by simp [results, Try.results67, go_sem, *]) rfl ?_
        refine ⟨_, _, _, _, rfl, hx, HQ.out, HLT.out.1, ?_⟩
        exact below_set4 HM.out.1 (by omega) _ _ _ _
      · by_cases h1 : val4 t0 t1 t2 t3 = 1
        · have E0 := eqF_nz ht h0
          have E1 := eqF_one ht h1
          have HQ := Lib.hid (show val4 x0 x1 x2 x3 * val4 x0 x1 x2 x3 % FR.M = val4 a0 a1 a2 a3 % FR.M by
            rcases HI.out with h | h
            · rw [h.2.1, h1, Nat.mul_one]
            · exact absurd h.1 h0)
          clear h0 h1 HI
          go_wp2_with fail
          refine bodyPost_ret (v := .agg #[.int .u64 x0, .int .u64 x1, .int .u64 x2, .int .u64 x3]) (by simp [results, Try.results67, go_sem, *]) rfl ?_
          refine ⟨_, _, _, _, rfl, hx, HQ.out, HLT.out.1, ?_⟩
          exact below_set4 HM.out.1 (by omega) _ _ _ _
        · have E0 := eqF_nz ht h0
          have E1 := eqF_not_one ht h1
          have HT : Hid (TonI FR.M (val4 a0 a1 a2 a3) n (val4 x0 x1 x2 x3) (val4 t0 t1 t2 t3) (val4 c0 c1 c2 c3)) := Lib.hid (by
            rcases HI.out with h | h
            · exact h
            · exact absurd h.1 h0)
          have HN1 := Lib.hid h1
          have hn1 : 1 ≤ n := HT.out.1
          clear h0 h1 HI
          go_wp2_with fail
          have HM' := Lib.hid (HM.out.new wr.heap.size t0 t1 t2 t3 25 rfl)
          have S0 := Lib.hid (show val4 t0 t1 t2 t3 = val4 t0 t1 t2 t3 ^ 2 ^ 0 % FR.M by rw [Nat.pow_zero, Nat.pow_one, Nat.mod_eq_of_lt HLT.out.2.1])
          clear p0 p1 p2 p3 pl q0 q1 q2 q3 ql y0 y1 y2 y3 yf yl E0 E1
          obtain ⟨wo, hwo⟩ : ∃ wo, wo = wr := ⟨_, rfl⟩
          rw [← hwo] at HM' ⊢
          have ltw : gt < wo.heap.size := by rw [hwo]; exact HM.out.lt (b := gt) (c0 := t0) (c1 := t1) (c2 := t2) (c3 := t3) (by simp)
          clear HM hwo
          go_loopw [9, 10] (fun t9 t10 wr => ∃ k gs s0 s1 s2 s3 : Nat, t9 = .int .i64 k ∧ t10 = .pointer (some ⟨gs, 0, none⟩) ∧ gt < gs ∧ k < n ∧ ok4 s0 s1 s2 s3 ∧ Hid (val4 s0 s1 s2 s3 = val4 t0 t1 t2 t3 ^ 2 ^ k % FR.M) ∧ Hid (∀ j, j < k → val4 t0 t1 t2 t3 ^ 2 ^ j % FR.M ≠ 1) ∧ Hid (Mem w wr [(gs, s0, s1, s2, s3), (gt, t0, t1, t2, t3), (gx, x0, x1, x2, x3), (gc, c0, c1, c2, c3), (w.heap.size + 1, 0, 0, 0, 0)])) (fun t9 _ _ => n - (intOf t9).toNat)
          case atStart => exact ⟨0, wo.heap.size, t0, t1, t2, t3, rfl, rfl, ltw, by omega, ht, S0, Lib.hid (fun j h => absurd h (by omega)), HM'⟩
          case round =>
            clear HM' S0
            obtain ⟨k, gs, s0, s1, s2, s3, rfl, rfl, hgs, hkn, hs, HVs, HMin, HM⟩ := hrel
            have kr := HM.out.row (b := gs) (c0 := s0) (c1 := s1) (c2 := s2) (c3 := s3) (by simp)
            have p0 := kr.c0; have p1 := kr.c1; have p2 := kr.c2; have p3 := kr.c3; have pf := kr.fr
            clear kr
            have pl := HM.out.lt (b := gs) (c0 := s0) (c1 := s1) (c2 := s2) (c3 := s3) (by simp)
            by_cases h1 : val4 s0 s1 s2 s3 = 1
            · have E1 := eqF_one hs h1
              have hk1 : 0 < k := by
                rcases Nat.eq_zero_or_pos k with e | e
                · subst e
                  have := HVs.out
                  rw [h1, Nat.pow_zero, Nat.pow_one, Nat.mod_eq_of_lt HLT.out.2.1] at this
                  exact absurd this.symm HN1.out
                · exact e
              have HO := Lib.hid (show val4 t0 t1 t2 t3 ^ 2 ^ k % FR.M = 1 by rw [← HVs.out]; exact h1)
              clear h1 HVs
              obtain ⟨wi, hwi⟩ : ∃ wi, wi = wr := ⟨_, rfl⟩
              rw [← hwi] at HM pl pf p0 p1 p2 p3 ⊢
              clear hwi
              have HM' := Lib.hid (HM.out.sub (rs' := [(gt, t0, t1, t2, t3), (gx, x0, x1, x2, x3), (gc, c0, c1, c2, c3), (w.heap.size + 1, 0, 0, 0, 0)]) (by simp))
              clear HM
              have HM := HM'
              clear HM'
              have kr := HM.out.row (b := gc) (c0 := c0) (c1 := c1) (c2 := c2) (c3 := c3) (by simp)
              have q0 := kr.c0; have q1 := kr.c1; have q2 := kr.c2; have q3 := kr.c3
              clear kr
              have ql := HM.out.lt (b := gc) (c0 := c0) (c1 := c1) (c2 := c2) (c3 := c3) (by simp)
              have zz1 : (n : Int) - (k : Int) = ((n - k : Nat) : Int) := by omega
              have zz2 : ((n - k : Nat) : Int) - 1 = ((n - k - 1 : Nat) : Int) := by omega
              obtain ⟨d, hd⟩ : ∃ d, d = n - k - 1 := ⟨_, rfl⟩
              rw [← hd] at zz2
              have HD := Lib.hid hd
              have hd28 : d ≤ 28 := by omega
              clear hd
              go_wp2_with fail
              have HM' := Lib.hid (HM.out.new wi.heap.size c0 c1 c2 c3 25 rfl)
              have ltb : gt < wi.heap.size := HM.out.lt (b := gt) (c0 := t0) (c1 := t1) (c2 := t2) (c3 := t3) (by simp)
              obtain ⟨gb, hgb⟩ : ∃ gb, gb = wi.heap.size := ⟨_, rfl⟩
              rw [← hgb] at HM' ltb ⊢
              clear HM hgb p0 p1 p2 p3 pf pl q0 q1 q2 q3 ql E1
              have C0 := Lib.hid (show val4 c0 c1 c2 c3 = val4 c0 c1 c2 c3 ^ 2 ^ 0 % FR.M by rw [Nat.pow_zero, Nat.pow_one, Nat.mod_eq_of_lt HLT.out.2.2])
              go_loopw [12] (fun t12 wr => ∃ i b0 b1 b2 b3 : Nat, t12 = .int .i64 i ∧ i ≤ d ∧ ok4 b0 b1 b2 b3 ∧ Hid (val4 b0 b1 b2 b3 = val4 c0 c1 c2 c3 ^ 2 ^ i % FR.M) ∧ Hid (Mem w wr [(gb, b0, b1, b2, b3), (gt, t0, t1, t2, t3), (gx, x0, x1, x2, x3), (gc, c0, c1, c2, c3), (w.heap.size + 1, 0, 0, 0, 0)])) (fun t12 _ => d - (intOf t12).toNat)
              case atStart => exact ⟨0, c0, c1, c2, c3, rfl, Nat.zero_le _, hc, C0, HM'⟩
              case round =>
                clear HM' C0
                obtain ⟨i, b0, b1, b2, b3, rfl, hid, hb, HVb, HM⟩ := hrel
                have kr := HM.out.row (b := gb) (c0 := b0) (c1 := b1) (c2 := b2) (c3 := b3) (by simp)
                have p0 := kr.c0; have p1 := kr.c1; have p2 := kr.c2; have p3 := kr.c3; have pf := kr.fr
                clear kr
                have pl := HM.out.lt (b := gb) (c0 := b0) (c1 := b1) (c2 := b2) (c3 := b3) (by simp)
                by_cases hlt : i < d
                · go_wp2_with fail
                  refine (rmul_calls 2 FR hf b0 b1 b2 b3 b0 b1 b2 b3 hb hb _).mono ?_
                  rintro e v5 ⟨u0, u1, u2, u3, rfl, hu, hv, hbl⟩
                  have HVu := Lib.hid (show val4 u0 u1 u2 u3 = val4 c0 c1 c2 c3 ^ 2 ^ (i + 1) % FR.M by rw [hv, HVb.out, ← Nat.mul_mod, ← pow_two_succ])
                  have HM' := Lib.hid (HM.out.on hbl)
                  clear hv hbl p0 p1 p2 p3 pf pl
                  clear HM
                  have HM := HM'
                  clear HM'
                  have kr := HM.out.row (b := gb) (c0 := b0) (c1 := b1) (c2 := b2) (c3 := b3) (by simp)
                  have p0 := kr.c0; have p1 := kr.c1; have p2 := kr.c2; have p3 := kr.c3; have pf := kr.fr
                  clear kr
                  have pl := HM.out.lt (b := gb) (c0 := b0) (c1 := b1) (c2 := b2) (c3 := b3) (by simp)
                  have HM' := Lib.hid (HM.out.put u0 u1 u2 u3 (by omega) (by intro r hr; simp at hr; rcases hr with rfl | rfl | rfl | rfl <;> simp <;> omega))
                  clear HM
                  have HM := HM'
                  clear HM'
                  go_wp2_with fail
                  go_roundw
                  case rel => exact ⟨i + 1, u0, u1, u2, u3, by go_num, by omega, hu, HVu, HM⟩
                  case measure => simp [intOf]; omega
                · obtain rfl : d = i := by omega
                  obtain ⟨wj, hwj⟩ : ∃ wj, wj = wr := ⟨_, rfl⟩
                  rw [← hwj] at HM pl pf p0 p1 p2 p3 ⊢
                  clear hwj
                  go_wp2_with fail
                  refine (rmul_calls 2 FR hf b0 b1 b2 b3 b0 b1 b2 b3 hb hb _).mono ?_
                  rintro e v5 ⟨u0, u1, u2, u3, rfl, hu, hv, hbl⟩
                  have HVu := Lib.hid hv
                  have HM' := Lib.hid (HM.out.on hbl)
                  clear hv hbl p0 p1 p2 p3 pf pl
                  clear HM
                  have HM := HM'
                  clear HM'
                  have kr := HM.out.row (b := gc) (c0 := c0) (c1 := c1) (c2 := c2) (c3 := c3) (by simp)
                  have q0 := kr.c0; have q1 := kr.c1; have q2 := kr.c2; have q3 := kr.c3; have qf := kr.fr
                  clear kr
                  have ql := HM.out.lt (b := gc) (c0 := c0) (c1 := c1) (c2 := c2) (c3 := c3) (by simp)
                  have HM' := Lib.hid ((HM.out.sub (rs' := [(gc, c0, c1, c2, c3), (gb, b0, b1, b2, b3), (gt, t0, t1, t2, t3), (gx, x0, x1, x2, x3), (w.heap.size + 1, 0, 0, 0, 0)]) (by simp)).put u0 u1 u2 u3 (by omega) (by intro r hr; simp at hr; rcases hr with rfl | rfl | rfl | rfl <;> simp <;> omega))
                  clear HM
                  have HM := HM'
                  clear HM'
                  have HX := Lib.hid HM.out
                  unfold set4 at HX
                  obtain ⟨z5, hz5⟩ : ∃ z5, z5 = v5.heap.size := ⟨_, rfl⟩
                  have kx := HX.out.row (b := gx) (c0 := x0) (c1 := x1) (c2 := x2) (c3 := x3) (by simp)
                  have x_0 := kx.c0; have x_1 := kx.c1; have x_2 := kx.c2; have x_3 := kx.c3
                  have kb := HX.out.row (b := gb) (c0 := b0) (c1 := b1) (c2 := b2) (c3 := b3) (by simp)
                  have b_0 := kb.c0; have b_1 := kb.c1; have b_2 := kb.c2; have b_3 := kb.c3
                  clear kx kb hz5 z5 HM
                  go_wp2_with fail
                  refine (rmul_calls 2 FR hf x0 x1 x2 x3 b0 b1 b2 b3 hx hb _).mono ?_
                  rintro e v6 ⟨v0, v1, v2, v3, rfl, hvo, hv, hbl⟩
                  have HVv := Lib.hid hv
                  have HM := Lib.hid (HX.out.on hbl)
                  clear hv hbl q0 q1 q2 q3 qf ql x_0 x_1 x_2 x_3 b_0 b_1 b_2 b_3 HX
                  have kr := HM.out.row (b := gx) (c0 := x0) (c1 := x1) (c2 := x2) (c3 := x3) (by simp)
                  have q0 := kr.c0; have q1 := kr.c1; have q2 := kr.c2; have q3 := kr.c3; have qf := kr.fr
                  clear kr
                  have ql := HM.out.lt (b := gx) (c0 := x0) (c1 := x1) (c2 := x2) (c3 := x3) (by simp)
                  have HX := Lib.hid ((HM.out.sub (rs' := [(gx, x0, x1, x2, x3), (gc, u0, u1, u2, u3), (gt, t0, t1, t2, t3), (w.heap.size + 1, 0, 0, 0, 0)]) (by simp)).put v0 v1 v2 v3 (by omega) (by intro r hr; simp at hr; rcases hr with rfl | rfl | rfl <;> simp <;> omega))
                  clear HM
                  have HM := Lib.hid HX.out
                  clear HX
                  have HX := Lib.hid HM.out
                  clear HM
                  have HX' := HX.out
                  unfold set4 at HX'
                  have HM := Lib.hid HX'
                  clear HX HX'
                  have kx := HM.out.row (b := gt) (c0 := t0) (c1 := t1) (c2 := t2) (c3 := t3) (by simp)
                  have x_0 := kx.c0; have x_1 := kx.c1; have x_2 := kx.c2; have x_3 := kx.c3
                  have kb := HM.out.row (b := gc) (c0 := u0) (c1 := u1) (c2 := u2) (c3 := u3) (by simp)
                  have b_0 := kb.c0; have b_1 := kb.c1; have b_2 := kb.c2; have b_3 := kb.c3
                  clear kx kb
                  go_wp2_with fail
                  refine (rmul_calls 2 FR hf t0 t1 t2 t3 u0 u1 u2 u3 ht hu _).mono ?_
                  rintro e v7 ⟨y0, y1, y2, y3, rfl, hy, hv, hbl⟩
                  have HVy := Lib.hid hv
                  have HM' := Lib.hid (HM.out.on hbl)
                  clear hv hbl q0 q1 q2 q3 qf ql x_0 x_1 x_2 x_3 b_0 b_1 b_2 b_3
                  clear HM
                  have HM := HM'
                  clear HM'
                  have kr := HM.out.row (b := gt) (c0 := t0) (c1 := t1) (c2 := t2) (c3 := t3) (by simp)
                  have q0 := kr.c0; have q1 := kr.c1; have q2 := kr.c2; have q3 := kr.c3; have qf := kr.fr
                  clear kr
                  have ql := HM.out.lt (b := gt) (c0 := t0) (c1 := t1) (c2 := t2) (c3 := t3) (by simp)
                  have HM' := Lib.hid ((HM.out.sub (rs' := [(gt, t0, t1, t2, t3), (gx, v0, v1, v2, v3), (gc, u0, u1, u2, u3), (w.heap.size + 1, 0, 0, 0, 0)]) (by simp)).put y0 y1 y2 y3 (by omega) (by intro r hr; simp at hr; rcases hr with rfl | rfl | rfl <;> simp <;> omega))
                  clear HM
                  have HM := HM'
                  clear HM'
                  have HTN := Lib.hid (show TonI FR.M (val4 a0 a1 a2 a3) k (val4 v0 v1 v2 v3) (val4 y0 y1 y2 y3) (val4 u0 u1 u2 u3) by
                    have h := ton_step HRt.out h2 HT.out hk1 hkn HO.out (HMin.out (k - 1) (by omega))
                    rw [HVy.out, HVv.out, HVu.out, HVb.out, HD.out]
                    exact h)
                  have HLN := Lib.hid (show val4 v0 v1 v2 v3 < FR.M ∧ val4 y0 y1 y2 y3 < FR.M ∧ val4 u0 u1 u2 u3 < FR.M by rw [HVv.out, HVy.out, HVu.out]; exact ⟨Nat.mod_lt _ (by omega), Nat.mod_lt _ (by omega), Nat.mod_lt _ (by omega)⟩)
                  have hk28 : k ≤ 28 := by omega
                  go_wp2_with fail
                  go_roundw
                  case rel => exact ⟨k, v0, v1, v2, v3, y0, y1, y2, y3, u0, u1, u2, u3, rfl, hk28, hvo, hy, hu, Lib.hid (Or.inl HTN.out), HLN, HM⟩
                  case measure => simp [intOf]; omega
            · have E1 := eqF_not_one hs h1
              have hkn' : k + 1 < n := by
                rcases Nat.lt_or_ge (k + 1) n with e | e
                · exact e
                · obtain rfl : k = n - 1 := by omega
                  exact absurd (HVs.out.trans HT.out.2.2.2) h1
              have HMin' := Lib.hid (show ∀ j, j < k + 1 → val4 t0 t1 t2 t3 ^ 2 ^ j % FR.M ≠ 1 from fun j hj => by
                by_cases e : j = k
                · subst e; rw [← HVs.out]; exact h1
                · exact HMin.out j (by omega))
              clear h1
              go_wp2_with fail
              refine (rmul_calls 2 FR hf s0 s1 s2 s3 s0 s1 s2 s3 hs hs _).mono ?_
              rintro e v5 ⟨u0, u1, u2, u3, rfl, hu, hv, hbl⟩
              have HVu := Lib.hid (show val4 u0 u1 u2 u3 = val4 t0 t1 t2 t3 ^ 2 ^ (k + 1) % FR.M by rw [hv, HVs.out, ← Nat.mul_mod, ← pow_two_succ])
              have HM' := Lib.hid (HM.out.on hbl)
              clear hv hbl p0 p1 p2 p3 pf pl
              clear HM
              have HM := HM'
              clear HM'
              have kr := HM.out.row (b := gs) (c0 := s0) (c1 := s1) (c2 := s2) (c3 := s3) (by simp)
              have p0 := kr.c0; have p1 := kr.c1; have p2 := kr.c2; have p3 := kr.c3; have pf := kr.fr
              clear kr
              have pl := HM.out.lt (b := gs) (c0 := s0) (c1 := s1) (c2 := s2) (c3 := s3) (by simp)
              have HM' := Lib.hid (((HM.out.put u0 u1 u2 u3 (by omega) (by intro r hr; simp at hr; rcases hr with rfl | rfl | rfl | rfl <;> simp <;> omega)).sub (rs' := [(gt, t0, t1, t2, t3), (gx, x0, x1, x2, x3), (gc, c0, c1, c2, c3), (w.heap.size + 1, 0, 0, 0, 0)]) (by simp)).new v5.heap.size u0 u1 u2 u3 25 (by unfold set4; simp))
              have gs5 : gt < v5.heap.size := by omega
              clear HM
              have HM := HM'
              clear HM'
              go_wp2_with fail
              go_roundw
              case rel => exact ⟨k + 1, v5.heap.size, u0, u1, u2, u3, by go_num, rfl, gs5, hkn', hu, HVu, HMin', HM⟩
              case measure => simp [intOf]; omega
end Go.Proofs.Ytalddekocfkbhaa
