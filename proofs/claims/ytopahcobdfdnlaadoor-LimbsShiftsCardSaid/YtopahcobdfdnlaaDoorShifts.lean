/-
  THE STATEMENT LimbsShifts: bits and shifts of any number by any number are the reference's: the law answers true. Conditions: the row's own.
-/
import Derived.Test.YtopahcobdfdnlaaDoorRefSh
import Derived.Test.YtopahcobdfdnlaaDoorShift
import Derived.Test.YtopahcobdfdnlaaDoorShiftR
import Derived.Test.YtopahcobdfdnlaaDoorLen
import Derived.Test.YtopahcobdfdnlaaDoorAlive
import Derived.Test.YtopahcobdfdnlaaDoorRing
import Derived.Test.YtopahcobdfdnlaaDoorRegion
namespace Go.Proofs.YtopahcobdfdnlaaDoor
set_option linter.unusedVariables false
set_option linter.unusedSimpArgs false
open Go.RowKit

theorem bits_same (a0 a1 a2 a3 : Nat) (n : Int) (ha : ok4 a0 a1 a2 a3) :
    ∃ b : Nat, (∀ w, Calls Tryd.prog 20 #[.agg #[.int .u64 a0, .int .u64 a1, .int .u64 a2, .int .u64 a3], .int .i64 n] w (BitPost b w)) ∧ (∀ w, Calls Tryd.prog 21 #[.agg #[.int .u64 a0, .int .u64 a1, .int .u64 a2, .int .u64 a3], .int .i64 n] w (BitPost b w)) := by
  by_cases h : n < 0 ∨ 255 < n
  · exact ⟨0, fun w => bit_out a0 a1 a2 a3 n h w, fun w => refBit_out a0 a1 a2 a3 n h w⟩
  · obtain ⟨i, rfl⟩ := Int.eq_ofNat_of_zero_le (show 0 ≤ n by omega)
    exact ⟨_, fun w => bit_in a0 a1 a2 a3 i ha (by omega) w, fun w => refBit_in a0 a1 a2 a3 i ha (by omega) w⟩
theorem shl_same (a0 a1 a2 a3 : Nat) (n : Int) (ha : ok4 a0 a1 a2 a3) (h1 : n ≤ 9223372036854775807) :
    ∃ V : Nat, (∀ w, Calls Tryd.prog 22 #[.agg #[.int .u64 a0, .int .u64 a1, .int .u64 a2, .int .u64 a3], .int .i64 n] w (WordPost (fun v => v = V) w)) ∧ (∀ w, Calls Tryd.prog 23 #[.agg #[.int .u64 a0, .int .u64 a1, .int .u64 a2, .int .u64 a3], .int .i64 n] w (NumPost V w)) := by
  by_cases h : n < 0
  · exact ⟨_, fun w => shl_none a0 a1 a2 a3 n ha (by omega) w, fun w => refShl_neg a0 a1 a2 a3 n ha h w⟩
  · obtain ⟨i, rfl⟩ := Int.eq_ofNat_of_zero_le (show 0 ≤ n by omega)
    exact ⟨_, fun w => shl_calls a0 a1 a2 a3 i ha (by omega) h1 w, fun w => refShl_calls a0 a1 a2 a3 i ha (by omega) w⟩
theorem shr_same (a0 a1 a2 a3 : Nat) (n : Int) (ha : ok4 a0 a1 a2 a3) (h1 : n ≤ 9223372036854775807) :
    ∃ V : Nat, (∀ w, Calls Tryd.prog 24 #[.agg #[.int .u64 a0, .int .u64 a1, .int .u64 a2, .int .u64 a3], .int .i64 n] w (WordPost (fun v => v = V) w)) ∧ (∀ w, Calls Tryd.prog 25 #[.agg #[.int .u64 a0, .int .u64 a1, .int .u64 a2, .int .u64 a3], .int .i64 n] w (NumPost V w)) := by
  by_cases h : n < 0
  · exact ⟨_, fun w => shr_none a0 a1 a2 a3 n ha (by omega) w, fun w => refShr_neg a0 a1 a2 a3 n ha h w⟩
  · by_cases h2 : 255 < n
    · exact ⟨_, fun w => shr_far a0 a1 a2 a3 n ha (by omega) h1 w, fun w => refShr_far a0 a1 a2 a3 n ha h2 w⟩
    · obtain ⟨i, rfl⟩ := Int.eq_ofNat_of_zero_le (show 0 ≤ n by omega)
      exact ⟨_, fun w => shr_calls a0 a1 a2 a3 i ha (by omega) h1 w, fun w => refShr_calls a0 a1 a2 a3 i ha (by omega) w⟩

set_option maxRecDepth 100000 in
set_option maxHeartbeats 8000000 in
theorem shifts_calls (a0 a1 a2 a3 : Nat) (n : Int) (ha : ok4 a0 a1 a2 a3) (hn0 : -9223372036854775808 ≤ n) (hn1 : n ≤ 9223372036854775807) (w : World) (htab : Lib.TabIs Tryd.prog w "internal/strconv.uint64pow10" .u64 Lib.pow10Tab) :
    Calls Tryd.prog 4 #[.agg #[.int .u64 a0, .int .u64 a1, .int .u64 a2, .int .u64 a3], .int .i64 n] w fun e w' => e = .returned (.bool true) ∧ Below w.heap.size w w' := by
  have hG := eqGuardW
  have hS := equalSelf
  have HT := Lib.hid htab
  clear htab
  obtain ⟨b, rB1, rB2⟩ := bits_same a0 a1 a2 a3 n ha
  obtain ⟨V, rL1, rL2⟩ := shl_same a0 a1 a2 a3 n ha hn1
  obtain ⟨R, rR1, rR2⟩ := shr_same a0 a1 a2 a3 n ha hn1
  go_enter Tryd.func4, Tryd.ntmps4
  go_wp2_with fail
  have M := Lib.hid ((Mem.nil w).new (w.heap.size) a0 a1 a2 a3 24 rfl)
  refine region_till (fun wx => Mem w wx [(w.heap.size, a0, a1, a2, a3)]) 35 (by kernel_rfl) ?_
  have HS := M.out.drewN 1
  clear M
  have HM := Lib.hid HS
  refine till_take (i := 0) (v := .agg #[.int .u64 a0, .int .u64 a1, .int .u64 a2, .int .u64 a3]) rfl (by kernel_rfl) (by kernel_rfl) (by kernel_rfl) (by kernel_rfl) (fun _ _ _ h => h) HS (Or.inl ⟨by kernel_rfl, fun wx hx => ?_⟩) ?_
  · have kr := (hx.2 (w.heap.size, a0, a1, a2, a3) (List.Mem.head _)).2
    have k0 := kr.c0; have k1 := kr.c1; have k2 := kr.c2; have k3 := kr.c3; have kf := kr.fr
    clear kr HS hx
    go_simp
  simp only [Act.put, List.setIfInBounds_toArray, List.set_cons_zero, List.set_cons_succ]
  refine till_take (i := 2) (v := .agg #[.int .u64 a0, .int .u64 a1, .int .u64 a2, .int .u64 a3]) rfl (by kernel_rfl) (by kernel_rfl) (by kernel_rfl) (by kernel_rfl) (fun _ _ _ h => h) HS (Or.inl ⟨by kernel_rfl, fun wx hx => ?_⟩) ?_
  · have kr := (hx.2 (w.heap.size, a0, a1, a2, a3) (List.Mem.head _)).2
    have k0 := kr.c0; have k1 := kr.c1; have k2 := kr.c2; have k3 := kr.c3; have kf := kr.fr
    clear kr HS hx
    go_simp
  simp only [Act.put, List.setIfInBounds_toArray, List.set_cons_zero, List.set_cons_succ]
  clear HS
  refine till_step (i := 1) (by kernel_rfl) rfl (fun K hK => ?_)
  go_simp
  refine (len_calls a0 a1 a2 a3 ha _).mono ?_
  rintro e w1 ⟨L, rfl, hL, el, hbl⟩
  have Hel := Lib.hid el
  clear el
  have HS := HM.out.on hbl
  clear HM hbl
  have HM := Lib.hid HS
  refine hK.out _ _ (Or.inr HS) (fun _ => ?_)
  clear hK K
  clear HS
  refine till_step (i := 3) (by kernel_rfl) rfl (fun K hK => ?_)
  go_simp
  refine (refLen_calls a0 a1 a2 a3 ha _).mono ?_
  rintro e w2 ⟨L', rfl, hL', el, hbl⟩
  obtain rfl := LenIs.uniq Hel.out el
  clear el hL'
  have HS := HM.out.on hbl
  clear HM hbl
  have HM := Lib.hid HS
  refine hK.out _ _ (Or.inr HS) (fun _ => ?_)
  clear hK K
  refine till_take (i := 4) (v := .bool true) rfl (by kernel_rfl) (by kernel_rfl) (by kernel_rfl) (by kernel_rfl) (fun _ _ _ h => h) HS (Or.inl ⟨by kernel_rfl, fun wx hx => ?_⟩) ?_
  · clear hx HS
    go_simp
  simp only [Act.put, List.setIfInBounds_toArray, List.set_cons_zero, List.set_cons_succ]
  refine till_take (i := 5) (v := .bool true) rfl (by kernel_rfl) (by kernel_rfl) (by kernel_rfl) (by kernel_rfl) (fun _ _ _ h => h) HS (Or.inl ⟨by kernel_rfl, fun wx hx => ?_⟩) ?_
  · clear hx HS
    go_simp
  simp only [Act.put, List.setIfInBounds_toArray, List.set_cons_zero, List.set_cons_succ]
  refine till_take (i := 6) (v := .agg #[.int .u64 a0, .int .u64 a1, .int .u64 a2, .int .u64 a3]) rfl (by kernel_rfl) (by kernel_rfl) (by kernel_rfl) (by kernel_rfl) (fun _ _ _ h => h) HS (Or.inl ⟨by kernel_rfl, fun wx hx => ?_⟩) ?_
  · have kr := (hx.2 (w.heap.size, a0, a1, a2, a3) (List.Mem.head _)).2
    have k0 := kr.c0; have k1 := kr.c1; have k2 := kr.c2; have k3 := kr.c3; have kf := kr.fr
    clear kr HS hx
    go_simp
  simp only [Act.put, List.setIfInBounds_toArray, List.set_cons_zero, List.set_cons_succ]
  refine till_take (i := 7) (v := .int .i64 n) rfl (by kernel_rfl) (by kernel_rfl) (by kernel_rfl) (by kernel_rfl) (fun _ _ _ h => h) HS (Or.inl ⟨by kernel_rfl, fun wx hx => ?_⟩) ?_
  · clear hx HS
    go_simp
  simp only [Act.put, List.setIfInBounds_toArray, List.set_cons_zero, List.set_cons_succ]
  refine till_take (i := 9) (v := .agg #[.int .u64 a0, .int .u64 a1, .int .u64 a2, .int .u64 a3]) rfl (by kernel_rfl) (by kernel_rfl) (by kernel_rfl) (by kernel_rfl) (fun _ _ _ h => h) HS (Or.inl ⟨by kernel_rfl, fun wx hx => ?_⟩) ?_
  · have kr := (hx.2 (w.heap.size, a0, a1, a2, a3) (List.Mem.head _)).2
    have k0 := kr.c0; have k1 := kr.c1; have k2 := kr.c2; have k3 := kr.c3; have kf := kr.fr
    clear kr HS hx
    go_simp
  simp only [Act.put, List.setIfInBounds_toArray, List.set_cons_zero, List.set_cons_succ]
  refine till_take (i := 10) (v := .int .i64 n) rfl (by kernel_rfl) (by kernel_rfl) (by kernel_rfl) (by kernel_rfl) (fun _ _ _ h => h) HS (Or.inl ⟨by kernel_rfl, fun wx hx => ?_⟩) ?_
  · clear hx HS
    go_simp
  simp only [Act.put, List.setIfInBounds_toArray, List.set_cons_zero, List.set_cons_succ]
  clear HS
  refine till_step (i := 8) (by kernel_rfl) rfl (fun K hK => ?_)
  go_simp
  refine (rB1 _).mono ?_
  rintro e w3 ⟨rfl, hbl⟩
  have HS := HM.out.on hbl
  clear HM hbl
  have HM := Lib.hid HS
  refine hK.out _ _ (Or.inr HS) (fun _ => ?_)
  clear hK K
  clear HS
  refine till_step (i := 11) (by kernel_rfl) rfl (fun K hK => ?_)
  go_simp
  refine (rB2 _).mono ?_
  rintro e w4 ⟨rfl, hbl⟩
  have HS := HM.out.on hbl
  clear HM hbl
  have HM := Lib.hid HS
  refine hK.out _ _ (Or.inr HS) (fun _ => ?_)
  clear hK K
  refine till_take (i := 12) (v := .bool true) rfl (by kernel_rfl) (by kernel_rfl) (by kernel_rfl) (by kernel_rfl) (fun _ _ _ h => h) HS (Or.inl ⟨by kernel_rfl, fun wx hx => ?_⟩) ?_
  · clear hx HS
    go_simp
  simp only [Act.put, List.setIfInBounds_toArray, List.set_cons_zero, List.set_cons_succ]
  refine till_take (i := 13) (v := .bool true) rfl (by kernel_rfl) (by kernel_rfl) (by kernel_rfl) (by kernel_rfl) (fun _ _ _ h => h) HS (Or.inl ⟨by kernel_rfl, fun wx hx => ?_⟩) ?_
  · clear hx HS
    go_simp
  simp only [Act.put, List.setIfInBounds_toArray, List.set_cons_zero, List.set_cons_succ]
  refine till_take (i := 14) (v := .bool true) rfl (by kernel_rfl) (by kernel_rfl) (by kernel_rfl) (by kernel_rfl) (fun _ _ _ h => h) HS (Or.inl ⟨by kernel_rfl, fun wx hx => ?_⟩) ?_
  · clear hx HS
    go_simp
  simp only [Act.put, List.setIfInBounds_toArray, List.set_cons_zero, List.set_cons_succ]
  refine till_take (i := 15) (v := .agg #[.int .u64 a0, .int .u64 a1, .int .u64 a2, .int .u64 a3]) rfl (by kernel_rfl) (by kernel_rfl) (by kernel_rfl) (by kernel_rfl) (fun _ _ _ h => h) HS (Or.inl ⟨by kernel_rfl, fun wx hx => ?_⟩) ?_
  · have kr := (hx.2 (w.heap.size, a0, a1, a2, a3) (List.Mem.head _)).2
    have k0 := kr.c0; have k1 := kr.c1; have k2 := kr.c2; have k3 := kr.c3; have kf := kr.fr
    clear kr HS hx
    go_simp
  simp only [Act.put, List.setIfInBounds_toArray, List.set_cons_zero, List.set_cons_succ]
  refine till_take (i := 16) (v := .int .i64 n) rfl (by kernel_rfl) (by kernel_rfl) (by kernel_rfl) (by kernel_rfl) (fun _ _ _ h => h) HS (Or.inl ⟨by kernel_rfl, fun wx hx => ?_⟩) ?_
  · clear hx HS
    go_simp
  simp only [Act.put, List.setIfInBounds_toArray, List.set_cons_zero, List.set_cons_succ]
  refine till_take (i := 18) (v := .agg #[.int .u64 a0, .int .u64 a1, .int .u64 a2, .int .u64 a3]) rfl (by kernel_rfl) (by kernel_rfl) (by kernel_rfl) (by kernel_rfl) (fun _ _ _ h => h) HS (Or.inl ⟨by kernel_rfl, fun wx hx => ?_⟩) ?_
  · have kr := (hx.2 (w.heap.size, a0, a1, a2, a3) (List.Mem.head _)).2
    have k0 := kr.c0; have k1 := kr.c1; have k2 := kr.c2; have k3 := kr.c3; have kf := kr.fr
    clear kr HS hx
    go_simp
  simp only [Act.put, List.setIfInBounds_toArray, List.set_cons_zero, List.set_cons_succ]
  refine till_take (i := 19) (v := .int .i64 n) rfl (by kernel_rfl) (by kernel_rfl) (by kernel_rfl) (by kernel_rfl) (fun _ _ _ h => h) HS (Or.inl ⟨by kernel_rfl, fun wx hx => ?_⟩) ?_
  · clear hx HS
    go_simp
  simp only [Act.put, List.setIfInBounds_toArray, List.set_cons_zero, List.set_cons_succ]
  clear HS
  refine till_step (i := 17) (by kernel_rfl) rfl (fun K hK => ?_)
  go_simp
  refine (rL1 _).mono ?_
  rintro e w5 ⟨s0, s1, s2, s3, rfl, hs, es, hbl⟩
  have Hes := Lib.hid es
  clear es
  have HS := HM.out.on hbl
  clear HM hbl
  have HM := Lib.hid HS
  refine hK.out _ _ (Or.inr HS) (fun _ => ?_)
  clear hK K
  clear HS
  refine till_step (i := 20) (by kernel_rfl) rfl (fun K hK => ?_)
  go_simp
  refine (rL2 _).mono ?_
  rintro e w6 ⟨t0, t1, t2, t3, rfl, ht, et, hbl⟩
  obtain ⟨rfl, rfl, rfl, rfl⟩ := val4_inj ht hs (et.trans Hes.out.symm)
  clear et ht
  have HS := HM.out.on hbl
  clear HM hbl
  have HM := Lib.hid HS
  refine hK.out _ _ (Or.inr HS) (fun _ => ?_)
  clear hK K
  refine till_take (i := 21) (v := .bool true) rfl (by kernel_rfl) (by kernel_rfl) (by kernel_rfl) (by kernel_rfl) (fun _ _ _ h => h) HS (Or.inl ⟨by kernel_rfl, fun wx hx => ?_⟩) ?_
  · clear hx HS
    go_simp
  simp only [Act.put, List.setIfInBounds_toArray, List.set_cons_zero, List.set_cons_succ]
  refine till_take (i := 22) (v := .bool true) rfl (by kernel_rfl) (by kernel_rfl) (by kernel_rfl) (by kernel_rfl) (fun _ _ _ h => h) HS (Or.inl ⟨by kernel_rfl, fun wx hx => ?_⟩) ?_
  · clear hx HS
    go_simp
  simp only [Act.put, List.setIfInBounds_toArray, List.set_cons_zero, List.set_cons_succ]
  refine till_take (i := 23) (v := .bool true) rfl (by kernel_rfl) (by kernel_rfl) (by kernel_rfl) (by kernel_rfl) (fun _ _ _ h => h) HS (Or.inl ⟨by kernel_rfl, fun wx hx => ?_⟩) ?_
  · clear hx HS
    go_simp
  simp only [Act.put, List.setIfInBounds_toArray, List.set_cons_zero, List.set_cons_succ]
  refine till_take (i := 24) (v := .agg #[.int .u64 a0, .int .u64 a1, .int .u64 a2, .int .u64 a3]) rfl (by kernel_rfl) (by kernel_rfl) (by kernel_rfl) (by kernel_rfl) (fun _ _ _ h => h) HS (Or.inl ⟨by kernel_rfl, fun wx hx => ?_⟩) ?_
  · have kr := (hx.2 (w.heap.size, a0, a1, a2, a3) (List.Mem.head _)).2
    have k0 := kr.c0; have k1 := kr.c1; have k2 := kr.c2; have k3 := kr.c3; have kf := kr.fr
    clear kr HS hx
    go_simp
  simp only [Act.put, List.setIfInBounds_toArray, List.set_cons_zero, List.set_cons_succ]
  refine till_take (i := 25) (v := .int .i64 n) rfl (by kernel_rfl) (by kernel_rfl) (by kernel_rfl) (by kernel_rfl) (fun _ _ _ h => h) HS (Or.inl ⟨by kernel_rfl, fun wx hx => ?_⟩) ?_
  · clear hx HS
    go_simp
  simp only [Act.put, List.setIfInBounds_toArray, List.set_cons_zero, List.set_cons_succ]
  refine till_take (i := 27) (v := .agg #[.int .u64 a0, .int .u64 a1, .int .u64 a2, .int .u64 a3]) rfl (by kernel_rfl) (by kernel_rfl) (by kernel_rfl) (by kernel_rfl) (fun _ _ _ h => h) HS (Or.inl ⟨by kernel_rfl, fun wx hx => ?_⟩) ?_
  · have kr := (hx.2 (w.heap.size, a0, a1, a2, a3) (List.Mem.head _)).2
    have k0 := kr.c0; have k1 := kr.c1; have k2 := kr.c2; have k3 := kr.c3; have kf := kr.fr
    clear kr HS hx
    go_simp
  simp only [Act.put, List.setIfInBounds_toArray, List.set_cons_zero, List.set_cons_succ]
  refine till_take (i := 28) (v := .int .i64 n) rfl (by kernel_rfl) (by kernel_rfl) (by kernel_rfl) (by kernel_rfl) (fun _ _ _ h => h) HS (Or.inl ⟨by kernel_rfl, fun wx hx => ?_⟩) ?_
  · clear hx HS
    go_simp
  simp only [Act.put, List.setIfInBounds_toArray, List.set_cons_zero, List.set_cons_succ]
  clear HS
  refine till_step (i := 26) (by kernel_rfl) rfl (fun K hK => ?_)
  go_simp
  refine (rR1 _).mono ?_
  rintro e w7 ⟨u0, u1, u2, u3, rfl, hu, eu, hbl⟩
  have Heu := Lib.hid eu
  clear eu
  have HS := HM.out.on hbl
  clear HM hbl
  have HM := Lib.hid HS
  refine hK.out _ _ (Or.inr HS) (fun _ => ?_)
  clear hK K
  clear HS
  refine till_step (i := 29) (by kernel_rfl) rfl (fun K hK => ?_)
  go_simp
  refine (rR2 _).mono ?_
  rintro e w8 ⟨v0, v1, v2, v3, rfl, hv, ev, hbl⟩
  obtain ⟨rfl, rfl, rfl, rfl⟩ := val4_inj hv hu (ev.trans Heu.out.symm)
  clear ev hv
  have HS := HM.out.on hbl
  clear HM hbl
  have HM := Lib.hid HS
  refine hK.out _ _ (Or.inr HS) (fun _ => ?_)
  clear hK K
  refine till_take (i := 30) (v := .bool true) rfl (by kernel_rfl) (by kernel_rfl) (by kernel_rfl) (by kernel_rfl) (fun _ _ _ h => h) HS (Or.inl ⟨by kernel_rfl, fun wx hx => ?_⟩) ?_
  · clear hx HS
    go_simp
  simp only [Act.put, List.setIfInBounds_toArray, List.set_cons_zero, List.set_cons_succ]
  refine till_take (i := 31) (v := .bool true) rfl (by kernel_rfl) (by kernel_rfl) (by kernel_rfl) (by kernel_rfl) (fun _ _ _ h => h) HS (Or.inl ⟨by kernel_rfl, fun wx hx => ?_⟩) ?_
  · clear hx HS
    go_simp
  simp only [Act.put, List.setIfInBounds_toArray, List.set_cons_zero, List.set_cons_succ]
  refine till_take (i := 32) (v := .bool true) rfl (by kernel_rfl) (by kernel_rfl) (by kernel_rfl) (by kernel_rfl) (fun _ _ _ h => h) HS (Or.inl ⟨by kernel_rfl, fun wx hx => ?_⟩) ?_
  · clear hx HS
    go_simp
  simp only [Act.put, List.setIfInBounds_toArray, List.set_cons_zero, List.set_cons_succ]
  clear HS
  refine till_step (i := 33) (by kernel_rfl) rfl (fun K hK => ?_)
  go_simp
  refine (alive_calls _ (tab_below HT.out HM.out.1 (Nat.le_refl _))).mono ?_
  rintro e w9 ⟨rfl, hbl⟩
  have HS := HM.out.on hbl
  clear HM hbl
  have HM := Lib.hid HS
  refine hK.out _ _ (Or.inr HS) (fun _ => ?_)
  clear hK K
  refine till_take (i := 34) (v := .bool true) rfl (by kernel_rfl) (by kernel_rfl) (by kernel_rfl) (by kernel_rfl) (fun _ _ _ h => h) HS (Or.inl ⟨by kernel_rfl, fun wx hx => ?_⟩) ?_
  · clear hx HS
    go_simp
  simp only [Act.put, List.setIfInBounds_toArray, List.set_cons_zero, List.set_cons_succ]
  clear HS
  refine till_step (i := 35) (by kernel_rfl) rfl (fun K hK => ?_)
  go_simp
  refine hK.out _ _ (Or.inl rfl) (fun _ => ?_)
  clear hK K
  refine till_done (by kernel_rfl) ?_
  go_wp2_with fail
  go_ret
  exact ⟨rfl, HM.out.1⟩
end Go.Proofs.YtopahcobdfdnlaaDoor
