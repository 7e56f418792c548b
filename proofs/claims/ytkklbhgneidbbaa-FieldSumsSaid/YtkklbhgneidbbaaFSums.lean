/-
  THE STATEMENT FieldSums: for either field and any elements, or none: sums, differences, negatives and products are those of the page; what may not be is refused: the law answers true. Conditions: words below 2^64.
-/
import Derived.Test.YtkklbhgneidbbaaSums1
import Derived.Test.YtkklbhgneidbbaaKeep
namespace Go.Proofs.Ytkklbhgneidbbaa
set_option linter.unusedVariables false
set_option linter.unusedSimpArgs false
open Go.RowKit

theorem eqW_zz (w : World) : (Op.equalIn 10000 37 (.agg #[.int .u64 0, .int .u64 0, .int .u64 0, .int .u64 0]) (.agg #[.int .u64 0, .int .u64 0, .int .u64 0, .int .u64 0])).run Try.prog w = .ok true w := equalSelfW 0 0 0 0 w
set_option maxRecDepth 100000 in
set_option maxHeartbeats 16000000 in
theorem sums_ok (f : Int) (a0 a1 a2 a3 b0 b1 b2 b3 : Nat) (ha : ok4 a0 a1 a2 a3) (hb : ok4 b0 b1 b2 b3) (F : FC) (hf : FieldIs f F) (la : val4 a0 a1 a2 a3 < F.M) (lb : val4 b0 b1 b2 b3 < F.M) (w : World) :
    Calls Try.prog 3 #[.int .i64 f, .agg #[.int .u64 a0, .int .u64 a1, .int .u64 a2, .int .u64 a3], .agg #[.int .u64 b0, .int .u64 b1, .int .u64 b2, .int .u64 b3]] w fun e w' => e = .returned (.bool true) ∧ Below w.heap.size w w' := by
  have hG := eqGuardF
  have hGW := eqGuardW
  have hS := equalSelfF
  have hSW := equalSelfW
  have hZW := eqW_zz
  have hpos := hf.ok.pos
  go_enter Try.func3, Try.ntmps3
  go_wp2_with fail
  have HM := Lib.hid (((Mem.nil w).new (w.heap.size) a0 a1 a2 a3 25 (by simp)).new (w.heap.size + 1) b0 b1 b2 b3 25 (by simp))
  refine (two_ok f F hf a0 a1 a2 a3 b0 b1 b2 b3 ha hb la lb _).mono ?_
  rintro e w1 ⟨rfl, hbl⟩
  have MP' := Lib.hid (HM.out.on hbl)
  clear hbl HM
  have MP := MP'
  clear MP'
  have HM := MP
  have kr := MP.out.row (b := w.heap.size) (c0 := a0) (c1 := a1) (c2 := a2) (c3 := a3) (by simp)
  have Fa0 := kr.c0; have Fa1 := kr.c1; have Fa2 := kr.c2; have Fa3 := kr.c3
  clear kr
  have Fal := MP.out.lt (b := w.heap.size) (c0 := a0) (c1 := a1) (c2 := a2) (c3 := a3) (by simp)
  have kr := MP.out.row (b := w.heap.size + 1) (c0 := b0) (c1 := b1) (c2 := b2) (c3 := b3) (by simp)
  have Fb0 := kr.c0; have Fb1 := kr.c1; have Fb2 := kr.c2; have Fb3 := kr.c3
  clear kr
  have Fbl := MP.out.lt (b := w.heap.size + 1) (c0 := b0) (c1 := b1) (c2 := b2) (c3 := b3) (by simp)
  go_wp2_with fail
  refine (fadd_ok f F hf a0 a1 a2 a3 b0 b1 b2 b3 ha hb la lb _).mono ?_
  rintro e w2 ⟨x0, x1, x2, x3, rfl, hx, hv, hbl⟩
  have Vx := Lib.hid hv
  clear hv
  have MP' := Lib.hid (HM.out.on hbl)
  clear hbl HM MP Fa0 Fa1 Fa2 Fa3 Fal Fb0 Fb1 Fb2 Fb3 Fbl
  have MP := MP'
  clear MP'
  have HM := Lib.hid (MP.out.new w2.heap.size x0 x1 x2 x3 25 rfl)
  have kr := MP.out.row (b := w.heap.size) (c0 := a0) (c1 := a1) (c2 := a2) (c3 := a3) (by simp)
  have Fa0 := kr.c0; have Fa1 := kr.c1; have Fa2 := kr.c2; have Fa3 := kr.c3
  clear kr
  have Fal := MP.out.lt (b := w.heap.size) (c0 := a0) (c1 := a1) (c2 := a2) (c3 := a3) (by simp)
  have kr := MP.out.row (b := w.heap.size + 1) (c0 := b0) (c1 := b1) (c2 := b2) (c3 := b3) (by simp)
  have Fb0 := kr.c0; have Fb1 := kr.c1; have Fb2 := kr.c2; have Fb3 := kr.c3
  clear kr
  have Fbl := MP.out.lt (b := w.heap.size + 1) (c0 := b0) (c1 := b1) (c2 := b2) (c3 := b3) (by simp)
  go_wp2_with fail
  refine (fsub_ok f F hf a0 a1 a2 a3 b0 b1 b2 b3 ha hb la lb _).mono ?_
  rintro e w3 ⟨y0, y1, y2, y3, rfl, hy, hv, hbl⟩
  have Vy := Lib.hid hv
  clear hv
  have MP' := Lib.hid (HM.out.on hbl)
  clear hbl HM MP Fa0 Fa1 Fa2 Fa3 Fal Fb0 Fb1 Fb2 Fb3 Fbl
  have MP := MP'
  clear MP'
  have HM := Lib.hid (MP.out.new w3.heap.size y0 y1 y2 y3 25 rfl)
  have kr := MP.out.row (b := w.heap.size) (c0 := a0) (c1 := a1) (c2 := a2) (c3 := a3) (by simp)
  have Fa0 := kr.c0; have Fa1 := kr.c1; have Fa2 := kr.c2; have Fa3 := kr.c3
  clear kr
  have Fal := MP.out.lt (b := w.heap.size) (c0 := a0) (c1 := a1) (c2 := a2) (c3 := a3) (by simp)
  have kr := MP.out.row (b := w.heap.size + 1) (c0 := b0) (c1 := b1) (c2 := b2) (c3 := b3) (by simp)
  have Fb0 := kr.c0; have Fb1 := kr.c1; have Fb2 := kr.c2; have Fb3 := kr.c3
  clear kr
  have Fbl := MP.out.lt (b := w.heap.size + 1) (c0 := b0) (c1 := b1) (c2 := b2) (c3 := b3) (by simp)
  go_wp2_with fail
  refine (fmul_ok f F hf a0 a1 a2 a3 b0 b1 b2 b3 ha hb la lb _).mono ?_
  rintro e w4 ⟨z0, z1, z2, z3, rfl, hz, hv, hbl⟩
  have Vz := Lib.hid hv
  clear hv
  have MP' := Lib.hid (HM.out.on hbl)
  clear hbl HM MP Fa0 Fa1 Fa2 Fa3 Fal Fb0 Fb1 Fb2 Fb3 Fbl
  have MP := MP'
  clear MP'
  have HM := Lib.hid (MP.out.new w4.heap.size z0 z1 z2 z3 25 rfl)
  have kr := MP.out.row (b := w.heap.size) (c0 := a0) (c1 := a1) (c2 := a2) (c3 := a3) (by simp)
  have Fa0 := kr.c0; have Fa1 := kr.c1; have Fa2 := kr.c2; have Fa3 := kr.c3
  clear kr
  have Fal := MP.out.lt (b := w.heap.size) (c0 := a0) (c1 := a1) (c2 := a2) (c3 := a3) (by simp)
  go_wp2_with fail
  refine (fneg_ok f F hf a0 a1 a2 a3 ha la _).mono ?_
  rintro e w5 ⟨n0, n1, n2, n3, rfl, hn, hv, hbl⟩
  have Vn := Lib.hid hv
  clear hv
  have MP' := Lib.hid (HM.out.on hbl)
  clear hbl HM MP Fa0 Fa1 Fa2 Fa3 Fal
  have MP := MP'
  clear MP'
  have HM := Lib.hid (MP.out.new w5.heap.size n0 n1 n2 n3 25 rfl)
  go_wp2_with fail
  clear MP
  refine region_till (fun wx => Mem w wx [(w5.heap.size, n0, n1, n2, n3), (w4.heap.size, z0, z1, z2, z3), (w3.heap.size, y0, y1, y2, y3), (w2.heap.size, x0, x1, x2, x3), (w.heap.size + 1, b0, b1, b2, b3), (w.heap.size, a0, a1, a2, a3)]) 99 (by kernel_rfl) ?_
  have HM' := Lib.hid (HM.out.drewN 1)
  clear HM
  have HM := HM'
  clear HM'
  have HS := HM.out.sub (rs' := [(w5.heap.size, n0, n1, n2, n3), (w4.heap.size, z0, z1, z2, z3), (w3.heap.size, y0, y1, y2, y3), (w2.heap.size, x0, x1, x2, x3), (w.heap.size + 1, b0, b1, b2, b3), (w.heap.size, a0, a1, a2, a3)]) (by simp)
  refine till_keep (i := 0) (v := .agg #[.int .u64 x0, .int .u64 x1, .int .u64 x2, .int .u64 x3]) rfl (by kernel_rfl) (by kernel_rfl) (by kernel_rfl) (Nat.le_of_ble_eq_true (by kernel_rfl)) (fun _ _ _ h => h) HS (Or.inl ⟨by kernel_rfl, fun wx hx => ?_⟩) ?_
  · have kr := hx.row (b := w2.heap.size) (c0 := x0) (c1 := x1) (c2 := x2) (c3 := x3) (by simp)
    have x0' := kr.c0; have x1' := kr.c1; have x2' := kr.c2; have x3' := kr.c3
    clear kr HS hx
    go_simp
  simp only [Act.put, List.setIfInBounds_toArray, List.set_cons_zero, List.set_cons_succ]
  refine till_keep (i := 1) (v := .int .i64 0) rfl (by kernel_rfl) (by kernel_rfl) (by kernel_rfl) (Nat.le_of_ble_eq_true (by kernel_rfl)) (fun _ _ _ h => h) HS (Or.inl ⟨by kernel_rfl, fun wx hx => ?_⟩) ?_
  · clear HS hx
    go_simp
  simp only [Act.put, List.setIfInBounds_toArray, List.set_cons_zero, List.set_cons_succ]
  refine till_keep (i := 2) (v := .int .i64 f) rfl (by kernel_rfl) (by kernel_rfl) (by kernel_rfl) (Nat.le_of_ble_eq_true (by kernel_rfl)) (fun _ _ _ h => h) HS (Or.inl ⟨by kernel_rfl, fun wx hx => ?_⟩) ?_
  · clear HS hx
    go_simp
  simp only [Act.put, List.setIfInBounds_toArray, List.set_cons_zero, List.set_cons_succ]
  refine till_keep (i := 3) (v := .agg #[.int .u64 a0, .int .u64 a1, .int .u64 a2, .int .u64 a3]) rfl (by kernel_rfl) (by kernel_rfl) (by kernel_rfl) (Nat.le_of_ble_eq_true (by kernel_rfl)) (fun _ _ _ h => h) HS (Or.inl ⟨by kernel_rfl, fun wx hx => ?_⟩) ?_
  · have kr := hx.row (b := w.heap.size) (c0 := a0) (c1 := a1) (c2 := a2) (c3 := a3) (by simp)
    have x0' := kr.c0; have x1' := kr.c1; have x2' := kr.c2; have x3' := kr.c3
    clear kr HS hx
    go_simp
  simp only [Act.put, List.setIfInBounds_toArray, List.set_cons_zero, List.set_cons_succ]
  refine till_keep (i := 4) (v := .agg #[.int .u64 b0, .int .u64 b1, .int .u64 b2, .int .u64 b3]) rfl (by kernel_rfl) (by kernel_rfl) (by kernel_rfl) (Nat.le_of_ble_eq_true (by kernel_rfl)) (fun _ _ _ h => h) HS (Or.inl ⟨by kernel_rfl, fun wx hx => ?_⟩) ?_
  · have kr := hx.row (b := w.heap.size + 1) (c0 := b0) (c1 := b1) (c2 := b2) (c3 := b3) (by simp)
    have x0' := kr.c0; have x1' := kr.c1; have x2' := kr.c2; have x3' := kr.c3
    clear kr HS hx
    go_simp
  simp only [Act.put, List.setIfInBounds_toArray, List.set_cons_zero, List.set_cons_succ]
  refine till_keep (i := 6) (v := .int .i64 0) rfl (by kernel_rfl) (by kernel_rfl) (by kernel_rfl) (Nat.le_of_ble_eq_true (by kernel_rfl)) (fun _ _ _ h => h) HS (Or.inl ⟨by kernel_rfl, fun wx hx => ?_⟩) ?_
  · clear HS hx
    go_simp
  simp only [Act.put, List.setIfInBounds_toArray, List.set_cons_zero, List.set_cons_succ]
  clear HS
  refine till_step (i := 5) (by kernel_rfl) rfl (fun K hK => ?_)
  go_simp
  refine (radd_calls f F hf a0 a1 a2 a3 b0 b1 b2 b3 ha hb _).mono ?_
  rintro e wq ⟨q0, q1, q2, q3, rfl, hq, hv, hbl⟩
  obtain ⟨rfl, rfl, rfl, rfl⟩ := val4_inj hx hq (show val4 x0 x1 x2 x3 = val4 q0 q1 q2 q3 by rw [hv, Vx.out])
  clear hv hq
  have HM' := Lib.hid (HM.out.on hbl)
  clear HM hbl
  have HM := HM'
  clear HM'
  have HS := HM.out.sub (rs' := [(w5.heap.size, n0, n1, n2, n3), (w4.heap.size, z0, z1, z2, z3), (w3.heap.size, y0, y1, y2, y3), (w2.heap.size, x0, x1, x2, x3), (w.heap.size + 1, b0, b1, b2, b3), (w.heap.size, a0, a1, a2, a3)]) (by simp)
  refine hK.out _ _ (Or.inr HS) (fun _ => ?_)
  clear hK K
  clear HS
  refine till_step (i := 7) (by kernel_rfl) rfl (fun K hK => ?_)
  go_simp
  refine (same_ok x0 x1 x2 x3 _).mono ?_
  rintro e wq ⟨rfl, hbl⟩
  have HM' := Lib.hid (HM.out.on hbl)
  clear HM hbl
  have HM := HM'
  clear HM'
  have HS := HM.out.sub (rs' := [(w5.heap.size, n0, n1, n2, n3), (w4.heap.size, z0, z1, z2, z3), (w3.heap.size, y0, y1, y2, y3), (w2.heap.size, x0, x1, x2, x3), (w.heap.size + 1, b0, b1, b2, b3), (w.heap.size, a0, a1, a2, a3)]) (by simp)
  refine hK.out _ _ (Or.inr HS) (fun _ => ?_)
  clear hK K
  refine till_keep (i := 8) (v := .bool false) rfl (by kernel_rfl) (by kernel_rfl) (by kernel_rfl) (Nat.le_of_ble_eq_true (by kernel_rfl)) (fun _ _ _ h => h) HS (Or.inl ⟨by kernel_rfl, fun wx hx => ?_⟩) ?_
  · clear HS hx
    go_simp
  simp only [Act.put, List.setIfInBounds_toArray, List.set_cons_zero, List.set_cons_succ]
  refine till_keep (i := 9) (v := .bool false) rfl (by kernel_rfl) (by kernel_rfl) (by kernel_rfl) (Nat.le_of_ble_eq_true (by kernel_rfl)) (fun _ _ _ h => h) HS (Or.inl ⟨by kernel_rfl, fun wx hx => ?_⟩) ?_
  · clear HS hx
    go_simp
  simp only [Act.put, List.setIfInBounds_toArray, List.set_cons_zero, List.set_cons_succ]
  refine till_keep (i := 10) (v := .agg #[.int .u64 y0, .int .u64 y1, .int .u64 y2, .int .u64 y3]) rfl (by kernel_rfl) (by kernel_rfl) (by kernel_rfl) (Nat.le_of_ble_eq_true (by kernel_rfl)) (fun _ _ _ h => h) HS (Or.inl ⟨by kernel_rfl, fun wx hx => ?_⟩) ?_
  · have kr := hx.row (b := w3.heap.size) (c0 := y0) (c1 := y1) (c2 := y2) (c3 := y3) (by simp)
    have x0' := kr.c0; have x1' := kr.c1; have x2' := kr.c2; have x3' := kr.c3
    clear kr HS hx
    go_simp
  simp only [Act.put, List.setIfInBounds_toArray, List.set_cons_zero, List.set_cons_succ]
  refine till_keep (i := 11) (v := .int .i64 0) rfl (by kernel_rfl) (by kernel_rfl) (by kernel_rfl) (Nat.le_of_ble_eq_true (by kernel_rfl)) (fun _ _ _ h => h) HS (Or.inl ⟨by kernel_rfl, fun wx hx => ?_⟩) ?_
  · clear HS hx
    go_simp
  simp only [Act.put, List.setIfInBounds_toArray, List.set_cons_zero, List.set_cons_succ]
  refine till_keep (i := 12) (v := .int .i64 f) rfl (by kernel_rfl) (by kernel_rfl) (by kernel_rfl) (Nat.le_of_ble_eq_true (by kernel_rfl)) (fun _ _ _ h => h) HS (Or.inl ⟨by kernel_rfl, fun wx hx => ?_⟩) ?_
  · clear HS hx
    go_simp
  simp only [Act.put, List.setIfInBounds_toArray, List.set_cons_zero, List.set_cons_succ]
  refine till_keep (i := 13) (v := .agg #[.int .u64 a0, .int .u64 a1, .int .u64 a2, .int .u64 a3]) rfl (by kernel_rfl) (by kernel_rfl) (by kernel_rfl) (Nat.le_of_ble_eq_true (by kernel_rfl)) (fun _ _ _ h => h) HS (Or.inl ⟨by kernel_rfl, fun wx hx => ?_⟩) ?_
  · have kr := hx.row (b := w.heap.size) (c0 := a0) (c1 := a1) (c2 := a2) (c3 := a3) (by simp)
    have x0' := kr.c0; have x1' := kr.c1; have x2' := kr.c2; have x3' := kr.c3
    clear kr HS hx
    go_simp
  simp only [Act.put, List.setIfInBounds_toArray, List.set_cons_zero, List.set_cons_succ]
  refine till_keep (i := 14) (v := .agg #[.int .u64 b0, .int .u64 b1, .int .u64 b2, .int .u64 b3]) rfl (by kernel_rfl) (by kernel_rfl) (by kernel_rfl) (Nat.le_of_ble_eq_true (by kernel_rfl)) (fun _ _ _ h => h) HS (Or.inl ⟨by kernel_rfl, fun wx hx => ?_⟩) ?_
  · have kr := hx.row (b := w.heap.size + 1) (c0 := b0) (c1 := b1) (c2 := b2) (c3 := b3) (by simp)
    have x0' := kr.c0; have x1' := kr.c1; have x2' := kr.c2; have x3' := kr.c3
    clear kr HS hx
    go_simp
  simp only [Act.put, List.setIfInBounds_toArray, List.set_cons_zero, List.set_cons_succ]
  refine till_keep (i := 16) (v := .int .i64 0) rfl (by kernel_rfl) (by kernel_rfl) (by kernel_rfl) (Nat.le_of_ble_eq_true (by kernel_rfl)) (fun _ _ _ h => h) HS (Or.inl ⟨by kernel_rfl, fun wx hx => ?_⟩) ?_
  · clear HS hx
    go_simp
  simp only [Act.put, List.setIfInBounds_toArray, List.set_cons_zero, List.set_cons_succ]
  clear HS
  refine till_step (i := 15) (by kernel_rfl) rfl (fun K hK => ?_)
  go_simp
  refine (rsub_calls f F hf a0 a1 a2 a3 b0 b1 b2 b3 ha hb _).mono ?_
  rintro e wq ⟨q0, q1, q2, q3, rfl, hq, hv, hbl⟩
  obtain ⟨rfl, rfl, rfl, rfl⟩ := val4_inj hy hq (show val4 y0 y1 y2 y3 = val4 q0 q1 q2 q3 by rw [hv, Vy.out]; rw [Nat.mod_eq_of_lt lb]; congr 1; omega)
  clear hv hq
  have HM' := Lib.hid (HM.out.on hbl)
  clear HM hbl
  have HM := HM'
  clear HM'
  have HS := HM.out.sub (rs' := [(w5.heap.size, n0, n1, n2, n3), (w4.heap.size, z0, z1, z2, z3), (w3.heap.size, y0, y1, y2, y3), (w2.heap.size, x0, x1, x2, x3), (w.heap.size + 1, b0, b1, b2, b3), (w.heap.size, a0, a1, a2, a3)]) (by simp)
  refine hK.out _ _ (Or.inr HS) (fun _ => ?_)
  clear hK K
  clear HS
  refine till_step (i := 17) (by kernel_rfl) rfl (fun K hK => ?_)
  go_simp
  refine (same_ok y0 y1 y2 y3 _).mono ?_
  rintro e wq ⟨rfl, hbl⟩
  have HM' := Lib.hid (HM.out.on hbl)
  clear HM hbl
  have HM := HM'
  clear HM'
  have HS := HM.out.sub (rs' := [(w5.heap.size, n0, n1, n2, n3), (w4.heap.size, z0, z1, z2, z3), (w3.heap.size, y0, y1, y2, y3), (w2.heap.size, x0, x1, x2, x3), (w.heap.size + 1, b0, b1, b2, b3), (w.heap.size, a0, a1, a2, a3)]) (by simp)
  refine hK.out _ _ (Or.inr HS) (fun _ => ?_)
  clear hK K
  refine till_keep (i := 18) (v := .bool false) rfl (by kernel_rfl) (by kernel_rfl) (by kernel_rfl) (Nat.le_of_ble_eq_true (by kernel_rfl)) (fun _ _ _ h => h) HS (Or.inl ⟨by kernel_rfl, fun wx hx => ?_⟩) ?_
  · clear HS hx
    go_simp
  simp only [Act.put, List.setIfInBounds_toArray, List.set_cons_zero, List.set_cons_succ]
  refine till_keep (i := 19) (v := .bool false) rfl (by kernel_rfl) (by kernel_rfl) (by kernel_rfl) (Nat.le_of_ble_eq_true (by kernel_rfl)) (fun _ _ _ h => h) HS (Or.inl ⟨by kernel_rfl, fun wx hx => ?_⟩) ?_
  · clear HS hx
    go_simp
  simp only [Act.put, List.setIfInBounds_toArray, List.set_cons_zero, List.set_cons_succ]
  refine till_keep (i := 20) (v := .bool false) rfl (by kernel_rfl) (by kernel_rfl) (by kernel_rfl) (Nat.le_of_ble_eq_true (by kernel_rfl)) (fun _ _ _ h => h) HS (Or.inl ⟨by kernel_rfl, fun wx hx => ?_⟩) ?_
  · clear HS hx
    go_simp
  simp only [Act.put, List.setIfInBounds_toArray, List.set_cons_zero, List.set_cons_succ]
  refine till_keep (i := 21) (v := .agg #[.int .u64 z0, .int .u64 z1, .int .u64 z2, .int .u64 z3]) rfl (by kernel_rfl) (by kernel_rfl) (by kernel_rfl) (Nat.le_of_ble_eq_true (by kernel_rfl)) (fun _ _ _ h => h) HS (Or.inl ⟨by kernel_rfl, fun wx hx => ?_⟩) ?_
  · have kr := hx.row (b := w4.heap.size) (c0 := z0) (c1 := z1) (c2 := z2) (c3 := z3) (by simp)
    have x0' := kr.c0; have x1' := kr.c1; have x2' := kr.c2; have x3' := kr.c3
    clear kr HS hx
    go_simp
  simp only [Act.put, List.setIfInBounds_toArray, List.set_cons_zero, List.set_cons_succ]
  refine till_keep (i := 22) (v := .int .i64 0) rfl (by kernel_rfl) (by kernel_rfl) (by kernel_rfl) (Nat.le_of_ble_eq_true (by kernel_rfl)) (fun _ _ _ h => h) HS (Or.inl ⟨by kernel_rfl, fun wx hx => ?_⟩) ?_
  · clear HS hx
    go_simp
  simp only [Act.put, List.setIfInBounds_toArray, List.set_cons_zero, List.set_cons_succ]
  refine till_keep (i := 23) (v := .int .i64 f) rfl (by kernel_rfl) (by kernel_rfl) (by kernel_rfl) (Nat.le_of_ble_eq_true (by kernel_rfl)) (fun _ _ _ h => h) HS (Or.inl ⟨by kernel_rfl, fun wx hx => ?_⟩) ?_
  · clear HS hx
    go_simp
  simp only [Act.put, List.setIfInBounds_toArray, List.set_cons_zero, List.set_cons_succ]
  refine till_keep (i := 24) (v := .agg #[.int .u64 a0, .int .u64 a1, .int .u64 a2, .int .u64 a3]) rfl (by kernel_rfl) (by kernel_rfl) (by kernel_rfl) (Nat.le_of_ble_eq_true (by kernel_rfl)) (fun _ _ _ h => h) HS (Or.inl ⟨by kernel_rfl, fun wx hx => ?_⟩) ?_
  · have kr := hx.row (b := w.heap.size) (c0 := a0) (c1 := a1) (c2 := a2) (c3 := a3) (by simp)
    have x0' := kr.c0; have x1' := kr.c1; have x2' := kr.c2; have x3' := kr.c3
    clear kr HS hx
    go_simp
  simp only [Act.put, List.setIfInBounds_toArray, List.set_cons_zero, List.set_cons_succ]
  refine till_keep (i := 25) (v := .agg #[.int .u64 b0, .int .u64 b1, .int .u64 b2, .int .u64 b3]) rfl (by kernel_rfl) (by kernel_rfl) (by kernel_rfl) (Nat.le_of_ble_eq_true (by kernel_rfl)) (fun _ _ _ h => h) HS (Or.inl ⟨by kernel_rfl, fun wx hx => ?_⟩) ?_
  · have kr := hx.row (b := w.heap.size + 1) (c0 := b0) (c1 := b1) (c2 := b2) (c3 := b3) (by simp)
    have x0' := kr.c0; have x1' := kr.c1; have x2' := kr.c2; have x3' := kr.c3
    clear kr HS hx
    go_simp
  simp only [Act.put, List.setIfInBounds_toArray, List.set_cons_zero, List.set_cons_succ]
  refine till_keep (i := 27) (v := .int .i64 0) rfl (by kernel_rfl) (by kernel_rfl) (by kernel_rfl) (Nat.le_of_ble_eq_true (by kernel_rfl)) (fun _ _ _ h => h) HS (Or.inl ⟨by kernel_rfl, fun wx hx => ?_⟩) ?_
  · clear HS hx
    go_simp
  simp only [Act.put, List.setIfInBounds_toArray, List.set_cons_zero, List.set_cons_succ]
  clear HS
  refine till_step (i := 26) (by kernel_rfl) rfl (fun K hK => ?_)
  go_simp
  refine (rmul_calls f F hf a0 a1 a2 a3 b0 b1 b2 b3 ha hb _).mono ?_
  rintro e wq ⟨q0, q1, q2, q3, rfl, hq, hv, hbl⟩
  obtain ⟨rfl, rfl, rfl, rfl⟩ := val4_inj hz hq (show val4 z0 z1 z2 z3 = val4 q0 q1 q2 q3 by rw [hv, Vz.out])
  clear hv hq
  have HM' := Lib.hid (HM.out.on hbl)
  clear HM hbl
  have HM := HM'
  clear HM'
  have HS := HM.out.sub (rs' := [(w5.heap.size, n0, n1, n2, n3), (w4.heap.size, z0, z1, z2, z3), (w3.heap.size, y0, y1, y2, y3), (w2.heap.size, x0, x1, x2, x3), (w.heap.size + 1, b0, b1, b2, b3), (w.heap.size, a0, a1, a2, a3)]) (by simp)
  refine hK.out _ _ (Or.inr HS) (fun _ => ?_)
  clear hK K
  clear HS
  refine till_step (i := 28) (by kernel_rfl) rfl (fun K hK => ?_)
  go_simp
  refine (same_ok z0 z1 z2 z3 _).mono ?_
  rintro e wq ⟨rfl, hbl⟩
  have HM' := Lib.hid (HM.out.on hbl)
  clear HM hbl
  have HM := HM'
  clear HM'
  have HS := HM.out.sub (rs' := [(w5.heap.size, n0, n1, n2, n3), (w4.heap.size, z0, z1, z2, z3), (w3.heap.size, y0, y1, y2, y3), (w2.heap.size, x0, x1, x2, x3), (w.heap.size + 1, b0, b1, b2, b3), (w.heap.size, a0, a1, a2, a3)]) (by simp)
  refine hK.out _ _ (Or.inr HS) (fun _ => ?_)
  clear hK K
  refine till_keep (i := 29) (v := .bool false) rfl (by kernel_rfl) (by kernel_rfl) (by kernel_rfl) (Nat.le_of_ble_eq_true (by kernel_rfl)) (fun _ _ _ h => h) HS (Or.inl ⟨by kernel_rfl, fun wx hx => ?_⟩) ?_
  · clear HS hx
    go_simp
  simp only [Act.put, List.setIfInBounds_toArray, List.set_cons_zero, List.set_cons_succ]
  have HS' := HS
  clear HS
  refine till_step (i := 30) (by kernel_rfl) rfl (fun K hK => ?_)
  go_simp
  refine hK.out _ _ (Or.inr HS') (fun _ => ?_)
  clear hK K HS'
  refine till_done (by kernel_rfl) ?_
  have MP := HM
  have kr := MP.out.row (b := w.heap.size) (c0 := a0) (c1 := a1) (c2 := a2) (c3 := a3) (by simp)
  have Fa0 := kr.c0; have Fa1 := kr.c1; have Fa2 := kr.c2; have Fa3 := kr.c3
  clear kr
  have Fal := MP.out.lt (b := w.heap.size) (c0 := a0) (c1 := a1) (c2 := a2) (c3 := a3) (by simp)
  go_wp2_with fail
  refine (rcheck_ok f F hf a0 a1 a2 a3 ha la _).mono ?_
  rintro e w6 ⟨rfl, hbl⟩
  have MP' := Lib.hid (HM.out.on hbl)
  clear hbl HM MP Fa0 Fa1 Fa2 Fa3 Fal
  have MP := MP'
  clear MP'
  have HM := MP
  have kr := MP.out.row (b := w.heap.size) (c0 := a0) (c1 := a1) (c2 := a2) (c3 := a3) (by simp)
  have Fa0 := kr.c0; have Fa1 := kr.c1; have Fa2 := kr.c2; have Fa3 := kr.c3
  clear kr
  have Fal := MP.out.lt (b := w.heap.size) (c0 := a0) (c1 := a1) (c2 := a2) (c3 := a3) (by simp)
  go_wp2_with fail
  refine (fcheck_ok f F hf a0 a1 a2 a3 ha la _).mono ?_
  rintro e w7 ⟨rfl, hbl⟩
  have MP' := Lib.hid (HM.out.on hbl)
  clear hbl HM MP Fa0 Fa1 Fa2 Fa3 Fal
  have MP := MP'
  clear MP'
  have HM := MP
  go_wp2_with fail
  refine (num_calls _ _).mono ?_
  rintro e wn ⟨rfl, rfl⟩
  go_wp2_with fail
  refine (num_calls _ _).mono ?_
  rintro e wn ⟨rfl, rfl⟩
  go_wp2_with fail
  clear MP 
  refine region_till (fun wx => Mem w wx [(w5.heap.size, n0, n1, n2, n3), (w4.heap.size, z0, z1, z2, z3), (w3.heap.size, y0, y1, y2, y3), (w2.heap.size, x0, x1, x2, x3), (w.heap.size + 1, b0, b1, b2, b3), (w.heap.size, a0, a1, a2, a3)]) 99 (by kernel_rfl) ?_
  have HM' := Lib.hid (HM.out.drewN 1)
  clear HM
  have HM := HM'
  clear HM'
  have HS := HM.out.sub (rs' := [(w5.heap.size, n0, n1, n2, n3), (w4.heap.size, z0, z1, z2, z3), (w3.heap.size, y0, y1, y2, y3), (w2.heap.size, x0, x1, x2, x3), (w.heap.size + 1, b0, b1, b2, b3), (w.heap.size, a0, a1, a2, a3)]) (by simp)
  refine till_keep (i := 0) (v := .int .i64 0) rfl (by kernel_rfl) (by kernel_rfl) (by kernel_rfl) (Nat.le_of_ble_eq_true (by kernel_rfl)) (fun _ _ _ h => h) HS (Or.inl ⟨by kernel_rfl, fun wx hx => ?_⟩) ?_
  · clear HS hx
    go_simp
  simp only [Act.put, List.setIfInBounds_toArray, List.set_cons_zero, List.set_cons_succ]
  refine till_keep (i := 1) (v := .bool false) rfl (by kernel_rfl) (by kernel_rfl) (by kernel_rfl) (Nat.le_of_ble_eq_true (by kernel_rfl)) (fun _ _ _ h => h) HS (Or.inl ⟨by kernel_rfl, fun wx hx => ?_⟩) ?_
  · clear HS hx
    go_simp
  simp only [Act.put, List.setIfInBounds_toArray, List.set_cons_zero, List.set_cons_succ]
  refine till_keep (i := 2) (v := .bool false) rfl (by kernel_rfl) (by kernel_rfl) (by kernel_rfl) (Nat.le_of_ble_eq_true (by kernel_rfl)) (fun _ _ _ h => h) HS (Or.inl ⟨by kernel_rfl, fun wx hx => ?_⟩) ?_
  · clear HS hx
    go_simp
  simp only [Act.put, List.setIfInBounds_toArray, List.set_cons_zero, List.set_cons_succ]
  refine till_keep (i := 3) (v := .agg #[.int .u64 n0, .int .u64 n1, .int .u64 n2, .int .u64 n3]) rfl (by kernel_rfl) (by kernel_rfl) (by kernel_rfl) (Nat.le_of_ble_eq_true (by kernel_rfl)) (fun _ _ _ h => h) HS (Or.inl ⟨by kernel_rfl, fun wx hx => ?_⟩) ?_
  · have kr := hx.row (b := w5.heap.size) (c0 := n0) (c1 := n1) (c2 := n2) (c3 := n3) (by simp)
    have x0' := kr.c0; have x1' := kr.c1; have x2' := kr.c2; have x3' := kr.c3
    clear kr HS hx
    go_simp
  simp only [Act.put, List.setIfInBounds_toArray, List.set_cons_zero, List.set_cons_succ]
  refine till_keep (i := 4) (v := .int .i64 f) rfl (by kernel_rfl) (by kernel_rfl) (by kernel_rfl) (Nat.le_of_ble_eq_true (by kernel_rfl)) (fun _ _ _ h => h) HS (Or.inl ⟨by kernel_rfl, fun wx hx => ?_⟩) ?_
  · clear HS hx
    go_simp
  simp only [Act.put, List.setIfInBounds_toArray, List.set_cons_zero, List.set_cons_succ]
  refine till_keep (i := 5) (v := .agg #[.int .u64 a0, .int .u64 a1, .int .u64 a2, .int .u64 a3]) rfl (by kernel_rfl) (by kernel_rfl) (by kernel_rfl) (Nat.le_of_ble_eq_true (by kernel_rfl)) (fun _ _ _ h => h) HS (Or.inl ⟨by kernel_rfl, fun wx hx => ?_⟩) ?_
  · have kr := hx.row (b := w.heap.size) (c0 := a0) (c1 := a1) (c2 := a2) (c3 := a3) (by simp)
    have x0' := kr.c0; have x1' := kr.c1; have x2' := kr.c2; have x3' := kr.c3
    clear kr HS hx
    go_simp
  simp only [Act.put, List.setIfInBounds_toArray, List.set_cons_zero, List.set_cons_succ]
  clear HS
  refine till_step (i := 6) (by kernel_rfl) rfl (fun K hK => ?_)
  go_simp
  refine (rneg_calls f F hf a0 a1 a2 a3 ha _).mono ?_
  rintro e wq ⟨q0, q1, q2, q3, rfl, hq, hv, hbl⟩
  obtain ⟨rfl, rfl, rfl, rfl⟩ := val4_inj hn hq (show val4 n0 n1 n2 n3 = val4 q0 q1 q2 q3 by rw [hv, Vn.out, Nat.mod_eq_of_lt la, Nat.zero_add])
  clear hv hq
  have HM' := Lib.hid (HM.out.on hbl)
  clear HM hbl
  have HM := HM'
  clear HM'
  have HS := HM.out.sub (rs' := [(w5.heap.size, n0, n1, n2, n3), (w4.heap.size, z0, z1, z2, z3), (w3.heap.size, y0, y1, y2, y3), (w2.heap.size, x0, x1, x2, x3), (w.heap.size + 1, b0, b1, b2, b3), (w.heap.size, a0, a1, a2, a3)]) (by simp)
  refine hK.out _ _ (Or.inr HS) (fun _ => ?_)
  clear hK K
  refine till_keep (i := 7) (v := .bool true) rfl (by kernel_rfl) (by kernel_rfl) (by kernel_rfl) (Nat.le_of_ble_eq_true (by kernel_rfl)) (fun _ _ _ h => h) HS (Or.inl ⟨by kernel_rfl, fun wx hx => ?_⟩) ?_
  · clear HS hx
    go_simp
  simp only [Act.put, List.setIfInBounds_toArray, List.set_cons_zero, List.set_cons_succ]
  refine till_keep (i := 8) (v := .bool true) rfl (by kernel_rfl) (by kernel_rfl) (by kernel_rfl) (Nat.le_of_ble_eq_true (by kernel_rfl)) (fun _ _ _ h => h) HS (Or.inl ⟨by kernel_rfl, fun wx hx => ?_⟩) ?_
  · clear HS hx
    go_simp
  simp only [Act.put, List.setIfInBounds_toArray, List.set_cons_zero, List.set_cons_succ]
  refine till_keep (i := 9) (v := .bool true) rfl (by kernel_rfl) (by kernel_rfl) (by kernel_rfl) (Nat.le_of_ble_eq_true (by kernel_rfl)) (fun _ _ _ h => h) HS (Or.inl ⟨by kernel_rfl, fun wx hx => ?_⟩) ?_
  · clear HS hx
    go_simp
  simp only [Act.put, List.setIfInBounds_toArray, List.set_cons_zero, List.set_cons_succ]
  refine till_keep (i := 10) (v := .int .i64 f) rfl (by kernel_rfl) (by kernel_rfl) (by kernel_rfl) (Nat.le_of_ble_eq_true (by kernel_rfl)) (fun _ _ _ h => h) HS (Or.inl ⟨by kernel_rfl, fun wx hx => ?_⟩) ?_
  · clear HS hx
    go_simp
  simp only [Act.put, List.setIfInBounds_toArray, List.set_cons_zero, List.set_cons_succ]
  refine till_keep (i := 12) (v := .int .i64 f) rfl (by kernel_rfl) (by kernel_rfl) (by kernel_rfl) (Nat.le_of_ble_eq_true (by kernel_rfl)) (fun _ _ _ h => h) HS (Or.inl ⟨by kernel_rfl, fun wx hx => ?_⟩) ?_
  · clear HS hx
    go_simp
  simp only [Act.put, List.setIfInBounds_toArray, List.set_cons_zero, List.set_cons_succ]
  clear HS
  refine till_step (i := 11) (by kernel_rfl) rfl (fun K hK => ?_)
  go_simp
  refine (fmodulus_some f F hf _).mono ?_
  rintro e wq ⟨rfl, hbl⟩
  have HM' := Lib.hid (HM.out.on hbl)
  clear HM hbl
  have HM := HM'
  clear HM'
  have HS := HM.out.sub (rs' := [(w5.heap.size, n0, n1, n2, n3), (w4.heap.size, z0, z1, z2, z3), (w3.heap.size, y0, y1, y2, y3), (w2.heap.size, x0, x1, x2, x3), (w.heap.size + 1, b0, b1, b2, b3), (w.heap.size, a0, a1, a2, a3)]) (by simp)
  refine hK.out _ _ (Or.inr HS) (fun _ => ?_)
  clear hK K
  clear HS
  refine till_step (i := 13) (by kernel_rfl) rfl (fun K hK => ?_)
  go_simp
  refine (rmod_some f F hf _).mono ?_
  rintro e wq ⟨rfl, hbl⟩
  have HM' := Lib.hid (HM.out.on hbl)
  clear HM hbl
  have HM := HM'
  clear HM'
  have HS := HM.out.sub (rs' := [(w5.heap.size, n0, n1, n2, n3), (w4.heap.size, z0, z1, z2, z3), (w3.heap.size, y0, y1, y2, y3), (w2.heap.size, x0, x1, x2, x3), (w.heap.size + 1, b0, b1, b2, b3), (w.heap.size, a0, a1, a2, a3)]) (by simp)
  refine hK.out _ _ (Or.inr HS) (fun _ => ?_)
  clear hK K
  refine till_keep (i := 14) (v := .bool true) rfl (by kernel_rfl) (by kernel_rfl) (by kernel_rfl) (Nat.le_of_ble_eq_true (by kernel_rfl)) (fun _ _ _ h => h) HS (Or.inl ⟨by kernel_rfl, fun wx hx => ?_⟩) ?_
  · clear HS hx
    go_simp
  simp only [Act.put, List.setIfInBounds_toArray, List.set_cons_zero, List.set_cons_succ]
  refine till_keep (i := 15) (v := .bool true) rfl (by kernel_rfl) (by kernel_rfl) (by kernel_rfl) (Nat.le_of_ble_eq_true (by kernel_rfl)) (fun _ _ _ h => h) HS (Or.inl ⟨by kernel_rfl, fun wx hx => ?_⟩) ?_
  · clear HS hx
    go_simp
  simp only [Act.put, List.setIfInBounds_toArray, List.set_cons_zero, List.set_cons_succ]
  refine till_keep (i := 16) (v := .bool true) rfl (by kernel_rfl) (by kernel_rfl) (by kernel_rfl) (Nat.le_of_ble_eq_true (by kernel_rfl)) (fun _ _ _ h => h) HS (Or.inl ⟨by kernel_rfl, fun wx hx => ?_⟩) ?_
  · clear HS hx
    go_simp
  simp only [Act.put, List.setIfInBounds_toArray, List.set_cons_zero, List.set_cons_succ]
  clear HS
  refine till_step (i := 17) (by kernel_rfl) rfl (fun K hK => ?_)
  go_simp
  refine (works_calls _).mono ?_
  rintro e wq ⟨rfl, hbl⟩
  have HM' := Lib.hid (HM.out.on hbl)
  clear HM hbl
  have HM := HM'
  clear HM'
  have HS := HM.out.sub (rs' := [(w5.heap.size, n0, n1, n2, n3), (w4.heap.size, z0, z1, z2, z3), (w3.heap.size, y0, y1, y2, y3), (w2.heap.size, x0, x1, x2, x3), (w.heap.size + 1, b0, b1, b2, b3), (w.heap.size, a0, a1, a2, a3)]) (by simp)
  refine hK.out _ _ (Or.inr HS) (fun _ => ?_)
  clear hK K
  refine till_keep (i := 18) (v := .bool true) rfl (by kernel_rfl) (by kernel_rfl) (by kernel_rfl) (Nat.le_of_ble_eq_true (by kernel_rfl)) (fun _ _ _ h => h) HS (Or.inl ⟨by kernel_rfl, fun wx hx => ?_⟩) ?_
  · clear HS hx
    go_simp
  simp only [Act.put, List.setIfInBounds_toArray, List.set_cons_zero, List.set_cons_succ]
  have HS' := HS
  clear HS
  refine till_step (i := 19) (by kernel_rfl) rfl (fun K hK => ?_)
  go_simp
  refine hK.out _ _ (Or.inr HS') (fun _ => ?_)
  clear hK K HS'
  refine till_done (by kernel_rfl) ?_
  go_wp2_with fail
  go_ret
  exact ⟨rfl, HM.out.1⟩
set_option maxRecDepth 100000 in
set_option maxHeartbeats 16000000 in
theorem sums_none (f : Int) (a0 a1 a2 a3 b0 b1 b2 b3 : Nat) (ha : ok4 a0 a1 a2 a3) (hb : ok4 b0 b1 b2 b3) (h1 : f ≠ 1) (h2 : f ≠ 2) (w : World) :
    Calls Try.prog 3 #[.int .i64 f, .agg #[.int .u64 a0, .int .u64 a1, .int .u64 a2, .int .u64 a3], .agg #[.int .u64 b0, .int .u64 b1, .int .u64 b2, .int .u64 b3]] w fun e w' => e = .returned (.bool true) ∧ Below w.heap.size w w' := by
  have hG := eqGuardF
  have hGW := eqGuardW
  have hS := equalSelfF
  have hSW := equalSelfW
  have hZW := eqW_zz
  have HBAD := Lib.hid (show Bad2 f (val4 a0 a1 a2 a3) (val4 b0 b1 b2 b3) 1 from Or.inl (Or.inl ⟨h1, h2, rfl⟩))
  go_enter Try.func3, Try.ntmps3
  go_wp2_with fail
  have HM := Lib.hid (((Mem.nil w).new (w.heap.size) a0 a1 a2 a3 25 (by simp)).new (w.heap.size + 1) b0 b1 b2 b3 25 (by simp))
  refine (two_err f 1 a0 a1 a2 a3 b0 b1 b2 b3 ha hb HBAD.out _).mono ?_
  rintro e w1 ⟨rfl, hbl⟩
  have MP' := Lib.hid (HM.out.on hbl)
  clear hbl HM
  have MP := MP'
  clear MP'
  have HM := MP
  have kr := MP.out.row (b := w.heap.size) (c0 := a0) (c1 := a1) (c2 := a2) (c3 := a3) (by simp)
  have Fa0 := kr.c0; have Fa1 := kr.c1; have Fa2 := kr.c2; have Fa3 := kr.c3
  clear kr
  have Fal := MP.out.lt (b := w.heap.size) (c0 := a0) (c1 := a1) (c2 := a2) (c3 := a3) (by simp)
  have kr := MP.out.row (b := w.heap.size + 1) (c0 := b0) (c1 := b1) (c2 := b2) (c3 := b3) (by simp)
  have Fb0 := kr.c0; have Fb1 := kr.c1; have Fb2 := kr.c2; have Fb3 := kr.c3
  clear kr
  have Fbl := MP.out.lt (b := w.heap.size + 1) (c0 := b0) (c1 := b1) (c2 := b2) (c3 := b3) (by simp)
  go_wp2_with fail
  refine (fadd_err f 1 a0 a1 a2 a3 b0 b1 b2 b3 ha hb HBAD.out _).mono ?_
  rintro e w2 ⟨rfl, hbl⟩
  have MP' := Lib.hid (HM.out.on hbl)
  clear hbl HM MP Fa0 Fa1 Fa2 Fa3 Fal Fb0 Fb1 Fb2 Fb3 Fbl
  have MP := MP'
  clear MP'
  have HM := Lib.hid (MP.out.new w2.heap.size 0 0 0 0 25 rfl)
  have kr := MP.out.row (b := w.heap.size) (c0 := a0) (c1 := a1) (c2 := a2) (c3 := a3) (by simp)
  have Fa0 := kr.c0; have Fa1 := kr.c1; have Fa2 := kr.c2; have Fa3 := kr.c3
  clear kr
  have Fal := MP.out.lt (b := w.heap.size) (c0 := a0) (c1 := a1) (c2 := a2) (c3 := a3) (by simp)
  have kr := MP.out.row (b := w.heap.size + 1) (c0 := b0) (c1 := b1) (c2 := b2) (c3 := b3) (by simp)
  have Fb0 := kr.c0; have Fb1 := kr.c1; have Fb2 := kr.c2; have Fb3 := kr.c3
  clear kr
  have Fbl := MP.out.lt (b := w.heap.size + 1) (c0 := b0) (c1 := b1) (c2 := b2) (c3 := b3) (by simp)
  go_wp2_with fail
  refine (fsub_err f 1 a0 a1 a2 a3 b0 b1 b2 b3 ha hb HBAD.out _).mono ?_
  rintro e w3 ⟨rfl, hbl⟩
  have MP' := Lib.hid (HM.out.on hbl)
  clear hbl HM MP Fa0 Fa1 Fa2 Fa3 Fal Fb0 Fb1 Fb2 Fb3 Fbl
  have MP := MP'
  clear MP'
  have HM := Lib.hid (MP.out.new w3.heap.size 0 0 0 0 25 rfl)
  have kr := MP.out.row (b := w.heap.size) (c0 := a0) (c1 := a1) (c2 := a2) (c3 := a3) (by simp)
  have Fa0 := kr.c0; have Fa1 := kr.c1; have Fa2 := kr.c2; have Fa3 := kr.c3
  clear kr
  have Fal := MP.out.lt (b := w.heap.size) (c0 := a0) (c1 := a1) (c2 := a2) (c3 := a3) (by simp)
  have kr := MP.out.row (b := w.heap.size + 1) (c0 := b0) (c1 := b1) (c2 := b2) (c3 := b3) (by simp)
  have Fb0 := kr.c0; have Fb1 := kr.c1; have Fb2 := kr.c2; have Fb3 := kr.c3
  clear kr
  have Fbl := MP.out.lt (b := w.heap.size + 1) (c0 := b0) (c1 := b1) (c2 := b2) (c3 := b3) (by simp)
  go_wp2_with fail
  refine (fmul_err f 1 a0 a1 a2 a3 b0 b1 b2 b3 ha hb HBAD.out _).mono ?_
  rintro e w4 ⟨rfl, hbl⟩
  have MP' := Lib.hid (HM.out.on hbl)
  clear hbl HM MP Fa0 Fa1 Fa2 Fa3 Fal Fb0 Fb1 Fb2 Fb3 Fbl
  have MP := MP'
  clear MP'
  have HM := Lib.hid (MP.out.new w4.heap.size 0 0 0 0 25 rfl)
  have kr := MP.out.row (b := w.heap.size) (c0 := a0) (c1 := a1) (c2 := a2) (c3 := a3) (by simp)
  have Fa0 := kr.c0; have Fa1 := kr.c1; have Fa2 := kr.c2; have Fa3 := kr.c3
  clear kr
  have Fal := MP.out.lt (b := w.heap.size) (c0 := a0) (c1 := a1) (c2 := a2) (c3 := a3) (by simp)
  go_wp2_with fail
  refine (fneg_err f 1 a0 a1 a2 a3 ha (Or.inl ⟨h1, h2, rfl⟩) _).mono ?_
  rintro e w5 ⟨rfl, hbl⟩
  have MP' := Lib.hid (HM.out.on hbl)
  clear hbl HM MP Fa0 Fa1 Fa2 Fa3 Fal
  have MP := MP'
  clear MP'
  have HM := Lib.hid (MP.out.new w5.heap.size 0 0 0 0 25 rfl)
  have hZ := eqF_zz
  have kr := MP.out.row (b := w2.heap.size) (c0 := 0) (c1 := 0) (c2 := 0) (c3 := 0) (by simp)
  have Fx0 := kr.c0; have Fx1 := kr.c1; have Fx2 := kr.c2; have Fx3 := kr.c3
  clear kr
  have Fxl := MP.out.lt (b := w2.heap.size) (c0 := 0) (c1 := 0) (c2 := 0) (c3 := 0) (by simp)
  have kr := MP.out.row (b := w3.heap.size) (c0 := 0) (c1 := 0) (c2 := 0) (c3 := 0) (by simp)
  have Fy0 := kr.c0; have Fy1 := kr.c1; have Fy2 := kr.c2; have Fy3 := kr.c3
  clear kr
  have Fyl := MP.out.lt (b := w3.heap.size) (c0 := 0) (c1 := 0) (c2 := 0) (c3 := 0) (by simp)
  have kr := MP.out.row (b := w4.heap.size) (c0 := 0) (c1 := 0) (c2 := 0) (c3 := 0) (by simp)
  have Fz0 := kr.c0; have Fz1 := kr.c1; have Fz2 := kr.c2; have Fz3 := kr.c3
  clear kr
  have Fzl := MP.out.lt (b := w4.heap.size) (c0 := 0) (c1 := 0) (c2 := 0) (c3 := 0) (by simp)
  have kr := MP.out.row (b := w.heap.size) (c0 := a0) (c1 := a1) (c2 := a2) (c3 := a3) (by simp)
  have Fa0 := kr.c0; have Fa1 := kr.c1; have Fa2 := kr.c2; have Fa3 := kr.c3
  clear kr
  have Fal := MP.out.lt (b := w.heap.size) (c0 := a0) (c1 := a1) (c2 := a2) (c3 := a3) (by simp)
  go_wp2_with fail
  refine (num_calls _ _).mono ?_
  rintro e wn ⟨rfl, rfl⟩
  go_wp2_with fail
  refine (num_calls _ _).mono ?_
  rintro e wn ⟨rfl, rfl⟩
  go_wp2_with fail
  refine (num_calls _ _).mono ?_
  rintro e wn ⟨rfl, rfl⟩
  go_wp2_with fail
  refine (rcheck_err f 1 a0 a1 a2 a3 ha (Or.inl ⟨h1, h2, rfl⟩) _).mono ?_
  rintro e w6 ⟨rfl, hbl⟩
  have MP' := Lib.hid (HM.out.on hbl)
  clear hbl HM MP Fx0 Fx1 Fx2 Fx3 Fxl Fy0 Fy1 Fy2 Fy3 Fyl Fz0 Fz1 Fz2 Fz3 Fzl Fa0 Fa1 Fa2 Fa3 Fal
  have MP := MP'
  clear MP'
  have HM := MP
  have kr := MP.out.row (b := w.heap.size) (c0 := a0) (c1 := a1) (c2 := a2) (c3 := a3) (by simp)
  have Fa0 := kr.c0; have Fa1 := kr.c1; have Fa2 := kr.c2; have Fa3 := kr.c3
  clear kr
  have Fal := MP.out.lt (b := w.heap.size) (c0 := a0) (c1 := a1) (c2 := a2) (c3 := a3) (by simp)
  go_wp2_with fail
  refine (fcheck_err f 1 a0 a1 a2 a3 ha (Or.inl ⟨h1, h2, rfl⟩) _).mono ?_
  rintro e w7 ⟨rfl, hbl⟩
  have MP' := Lib.hid (HM.out.on hbl)
  clear hbl HM MP Fa0 Fa1 Fa2 Fa3 Fal
  have MP := MP'
  clear MP'
  have HM := MP
  have kr := MP.out.row (b := w5.heap.size) (c0 := 0) (c1 := 0) (c2 := 0) (c3 := 0) (by simp)
  have Fn0 := kr.c0; have Fn1 := kr.c1; have Fn2 := kr.c2; have Fn3 := kr.c3
  clear kr
  have Fnl := MP.out.lt (b := w5.heap.size) (c0 := 0) (c1 := 0) (c2 := 0) (c3 := 0) (by simp)
  go_wp2_with fail
  refine (num_calls _ _).mono ?_
  rintro e wn ⟨rfl, rfl⟩
  go_wp2_with fail
  refine (num_calls _ _).mono ?_
  rintro e wn ⟨rfl, rfl⟩
  go_wp2_with fail
  clear MP Fn0 Fn1 Fn2 Fn3 Fnl
  refine region_till (fun wx => Mem w wx [(w5.heap.size, 0, 0, 0, 0), (w4.heap.size, 0, 0, 0, 0), (w3.heap.size, 0, 0, 0, 0), (w2.heap.size, 0, 0, 0, 0), (w.heap.size + 1, b0, b1, b2, b3), (w.heap.size, a0, a1, a2, a3)]) 99 (by kernel_rfl) ?_
  have HM' := Lib.hid (HM.out.drewN 1)
  clear HM
  have HM := HM'
  clear HM'
  have HS := HM.out.sub (rs' := [(w5.heap.size, 0, 0, 0, 0), (w4.heap.size, 0, 0, 0, 0), (w3.heap.size, 0, 0, 0, 0), (w2.heap.size, 0, 0, 0, 0), (w.heap.size + 1, b0, b1, b2, b3), (w.heap.size, a0, a1, a2, a3)]) (by simp)
  refine till_keep (i := 0) (v := .int .i64 1) rfl (by kernel_rfl) (by kernel_rfl) (by kernel_rfl) (Nat.le_of_ble_eq_true (by kernel_rfl)) (fun _ _ _ h => h) HS (Or.inl ⟨by kernel_rfl, fun wx hx => ?_⟩) ?_
  · clear HS hx
    go_simp
  simp only [Act.put, List.setIfInBounds_toArray, List.set_cons_zero, List.set_cons_succ]
  refine till_keep (i := 1) (v := .bool true) rfl (by kernel_rfl) (by kernel_rfl) (by kernel_rfl) (Nat.le_of_ble_eq_true (by kernel_rfl)) (fun _ _ _ h => h) HS (Or.inl ⟨by kernel_rfl, fun wx hx => ?_⟩) ?_
  · clear HS hx
    go_simp
  simp only [Act.put, List.setIfInBounds_toArray, List.set_cons_zero, List.set_cons_succ]
  refine till_keep (i := 2) (v := .bool true) rfl (by kernel_rfl) (by kernel_rfl) (by kernel_rfl) (Nat.le_of_ble_eq_true (by kernel_rfl)) (fun _ _ _ h => h) HS (Or.inl ⟨by kernel_rfl, fun wx hx => ?_⟩) ?_
  · clear HS hx
    go_simp
  simp only [Act.put, List.setIfInBounds_toArray, List.set_cons_zero, List.set_cons_succ]
  refine till_keep (i := 3) (v := undef) rfl (by kernel_rfl) (by kernel_rfl) (by kernel_rfl) (Nat.le_of_ble_eq_true (by kernel_rfl)) (fun _ _ _ h => h) HS (Or.inr ⟨by kernel_rfl, rfl⟩) ?_
  simp only [Act.put, List.setIfInBounds_toArray, List.set_cons_zero, List.set_cons_succ]
  refine till_keep (i := 4) (v := undef) rfl (by kernel_rfl) (by kernel_rfl) (by kernel_rfl) (Nat.le_of_ble_eq_true (by kernel_rfl)) (fun _ _ _ h => h) HS (Or.inr ⟨by kernel_rfl, rfl⟩) ?_
  simp only [Act.put, List.setIfInBounds_toArray, List.set_cons_zero, List.set_cons_succ]
  refine till_keep (i := 5) (v := undef) rfl (by kernel_rfl) (by kernel_rfl) (by kernel_rfl) (Nat.le_of_ble_eq_true (by kernel_rfl)) (fun _ _ _ h => h) HS (Or.inr ⟨by kernel_rfl, rfl⟩) ?_
  simp only [Act.put, List.setIfInBounds_toArray, List.set_cons_zero, List.set_cons_succ]
  refine till_keep (i := 6) (v := undef) rfl (by kernel_rfl) (by kernel_rfl) (by kernel_rfl) (Nat.le_of_ble_eq_true (by kernel_rfl)) (fun _ _ _ h => h) HS (Or.inr ⟨by kernel_rfl, rfl⟩) ?_
  simp only [Act.put, List.setIfInBounds_toArray, List.set_cons_zero, List.set_cons_succ]
  refine till_keep (i := 7) (v := undef) rfl (by kernel_rfl) (by kernel_rfl) (by kernel_rfl) (Nat.le_of_ble_eq_true (by kernel_rfl)) (fun _ _ _ h => h) HS (Or.inr ⟨by kernel_rfl, rfl⟩) ?_
  simp only [Act.put, List.setIfInBounds_toArray, List.set_cons_zero, List.set_cons_succ]
  refine till_keep (i := 8) (v := .bool true) rfl (by kernel_rfl) (by kernel_rfl) (by kernel_rfl) (Nat.le_of_ble_eq_true (by kernel_rfl)) (fun _ _ _ h => h) HS (Or.inl ⟨by kernel_rfl, fun wx hx => ?_⟩) ?_
  · clear HS hx
    go_simp
  simp only [Act.put, List.setIfInBounds_toArray, List.set_cons_zero, List.set_cons_succ]
  refine till_keep (i := 9) (v := .bool true) rfl (by kernel_rfl) (by kernel_rfl) (by kernel_rfl) (Nat.le_of_ble_eq_true (by kernel_rfl)) (fun _ _ _ h => h) HS (Or.inl ⟨by kernel_rfl, fun wx hx => ?_⟩) ?_
  · clear HS hx
    go_simp
  simp only [Act.put, List.setIfInBounds_toArray, List.set_cons_zero, List.set_cons_succ]
  refine till_keep (i := 10) (v := .int .i64 f) rfl (by kernel_rfl) (by kernel_rfl) (by kernel_rfl) (Nat.le_of_ble_eq_true (by kernel_rfl)) (fun _ _ _ h => h) HS (Or.inl ⟨by kernel_rfl, fun wx hx => ?_⟩) ?_
  · clear HS hx
    go_simp
  simp only [Act.put, List.setIfInBounds_toArray, List.set_cons_zero, List.set_cons_succ]
  refine till_keep (i := 12) (v := .int .i64 f) rfl (by kernel_rfl) (by kernel_rfl) (by kernel_rfl) (Nat.le_of_ble_eq_true (by kernel_rfl)) (fun _ _ _ h => h) HS (Or.inl ⟨by kernel_rfl, fun wx hx => ?_⟩) ?_
  · clear HS hx
    go_simp
  simp only [Act.put, List.setIfInBounds_toArray, List.set_cons_zero, List.set_cons_succ]
  clear HS
  refine till_step (i := 11) (by kernel_rfl) rfl (fun K hK => ?_)
  go_simp
  refine (fmodulus_none f h1 h2 _).mono ?_
  rintro e wq ⟨rfl, hbl⟩
  have HM' := Lib.hid (HM.out.on hbl)
  clear HM hbl
  have HM := HM'
  clear HM'
  have HS := HM.out.sub (rs' := [(w5.heap.size, 0, 0, 0, 0), (w4.heap.size, 0, 0, 0, 0), (w3.heap.size, 0, 0, 0, 0), (w2.heap.size, 0, 0, 0, 0), (w.heap.size + 1, b0, b1, b2, b3), (w.heap.size, a0, a1, a2, a3)]) (by simp)
  refine hK.out _ _ (Or.inr HS) (fun _ => ?_)
  clear hK K
  clear HS
  refine till_step (i := 13) (by kernel_rfl) rfl (fun K hK => ?_)
  go_simp
  refine (rmod_none f h1 h2 _).mono ?_
  rintro e wq ⟨rfl, hbl⟩
  have HM' := Lib.hid (HM.out.on hbl)
  clear HM hbl
  have HM := HM'
  clear HM'
  have HS := HM.out.sub (rs' := [(w5.heap.size, 0, 0, 0, 0), (w4.heap.size, 0, 0, 0, 0), (w3.heap.size, 0, 0, 0, 0), (w2.heap.size, 0, 0, 0, 0), (w.heap.size + 1, b0, b1, b2, b3), (w.heap.size, a0, a1, a2, a3)]) (by simp)
  refine hK.out _ _ (Or.inr HS) (fun _ => ?_)
  clear hK K
  refine till_keep (i := 14) (v := .bool true) rfl (by kernel_rfl) (by kernel_rfl) (by kernel_rfl) (Nat.le_of_ble_eq_true (by kernel_rfl)) (fun _ _ _ h => h) HS (Or.inl ⟨by kernel_rfl, fun wx hx => ?_⟩) ?_
  · clear HS hx
    go_simp
  simp only [Act.put, List.setIfInBounds_toArray, List.set_cons_zero, List.set_cons_succ]
  refine till_keep (i := 15) (v := .bool true) rfl (by kernel_rfl) (by kernel_rfl) (by kernel_rfl) (Nat.le_of_ble_eq_true (by kernel_rfl)) (fun _ _ _ h => h) HS (Or.inl ⟨by kernel_rfl, fun wx hx => ?_⟩) ?_
  · clear HS hx
    go_simp
  simp only [Act.put, List.setIfInBounds_toArray, List.set_cons_zero, List.set_cons_succ]
  refine till_keep (i := 16) (v := .bool true) rfl (by kernel_rfl) (by kernel_rfl) (by kernel_rfl) (Nat.le_of_ble_eq_true (by kernel_rfl)) (fun _ _ _ h => h) HS (Or.inl ⟨by kernel_rfl, fun wx hx => ?_⟩) ?_
  · clear HS hx
    go_simp
  simp only [Act.put, List.setIfInBounds_toArray, List.set_cons_zero, List.set_cons_succ]
  clear HS
  refine till_step (i := 17) (by kernel_rfl) rfl (fun K hK => ?_)
  go_simp
  refine (works_calls _).mono ?_
  rintro e wq ⟨rfl, hbl⟩
  have HM' := Lib.hid (HM.out.on hbl)
  clear HM hbl
  have HM := HM'
  clear HM'
  have HS := HM.out.sub (rs' := [(w5.heap.size, 0, 0, 0, 0), (w4.heap.size, 0, 0, 0, 0), (w3.heap.size, 0, 0, 0, 0), (w2.heap.size, 0, 0, 0, 0), (w.heap.size + 1, b0, b1, b2, b3), (w.heap.size, a0, a1, a2, a3)]) (by simp)
  refine hK.out _ _ (Or.inr HS) (fun _ => ?_)
  clear hK K
  refine till_keep (i := 18) (v := .bool true) rfl (by kernel_rfl) (by kernel_rfl) (by kernel_rfl) (Nat.le_of_ble_eq_true (by kernel_rfl)) (fun _ _ _ h => h) HS (Or.inl ⟨by kernel_rfl, fun wx hx => ?_⟩) ?_
  · clear HS hx
    go_simp
  simp only [Act.put, List.setIfInBounds_toArray, List.set_cons_zero, List.set_cons_succ]
  have HS' := HS
  clear HS
  refine till_step (i := 19) (by kernel_rfl) rfl (fun K hK => ?_)
  go_simp
  refine hK.out _ _ (Or.inr HS') (fun _ => ?_)
  clear hK K HS'
  refine till_done (by kernel_rfl) ?_
  go_wp2_with fail
  go_ret
  exact ⟨rfl, HM.out.1⟩
set_option maxRecDepth 100000 in
set_option maxHeartbeats 16000000 in
theorem sums_bada (f : Int) (a0 a1 a2 a3 b0 b1 b2 b3 : Nat) (ha : ok4 a0 a1 a2 a3) (hb : ok4 b0 b1 b2 b3) (F : FC) (hf : FieldIs f F) (la : ¬ val4 a0 a1 a2 a3 < F.M) (w : World) :
    Calls Try.prog 3 #[.int .i64 f, .agg #[.int .u64 a0, .int .u64 a1, .int .u64 a2, .int .u64 a3], .agg #[.int .u64 b0, .int .u64 b1, .int .u64 b2, .int .u64 b3]] w fun e w' => e = .returned (.bool true) ∧ Below w.heap.size w w' := by
  have hG := eqGuardF
  have hGW := eqGuardW
  have hS := equalSelfF
  have hSW := equalSelfW
  have hZW := eqW_zz
  have hpos := hf.ok.pos
  have HBAD := Lib.hid (show Bad2 f (val4 a0 a1 a2 a3) (val4 b0 b1 b2 b3) 21 from Or.inl (Or.inr ⟨F, hf, la, rfl⟩))
  go_enter Try.func3, Try.ntmps3
  go_wp2_with fail
  have HM := Lib.hid (((Mem.nil w).new (w.heap.size) a0 a1 a2 a3 25 (by simp)).new (w.heap.size + 1) b0 b1 b2 b3 25 (by simp))
  refine (two_err f 21 a0 a1 a2 a3 b0 b1 b2 b3 ha hb HBAD.out _).mono ?_
  rintro e w1 ⟨rfl, hbl⟩
  have MP' := Lib.hid (HM.out.on hbl)
  clear hbl HM
  have MP := MP'
  clear MP'
  have HM := MP
  have kr := MP.out.row (b := w.heap.size) (c0 := a0) (c1 := a1) (c2 := a2) (c3 := a3) (by simp)
  have Fa0 := kr.c0; have Fa1 := kr.c1; have Fa2 := kr.c2; have Fa3 := kr.c3
  clear kr
  have Fal := MP.out.lt (b := w.heap.size) (c0 := a0) (c1 := a1) (c2 := a2) (c3 := a3) (by simp)
  have kr := MP.out.row (b := w.heap.size + 1) (c0 := b0) (c1 := b1) (c2 := b2) (c3 := b3) (by simp)
  have Fb0 := kr.c0; have Fb1 := kr.c1; have Fb2 := kr.c2; have Fb3 := kr.c3
  clear kr
  have Fbl := MP.out.lt (b := w.heap.size + 1) (c0 := b0) (c1 := b1) (c2 := b2) (c3 := b3) (by simp)
  go_wp2_with fail
  refine (fadd_err f 21 a0 a1 a2 a3 b0 b1 b2 b3 ha hb HBAD.out _).mono ?_
  rintro e w2 ⟨rfl, hbl⟩
  have MP' := Lib.hid (HM.out.on hbl)
  clear hbl HM MP Fa0 Fa1 Fa2 Fa3 Fal Fb0 Fb1 Fb2 Fb3 Fbl
  have MP := MP'
  clear MP'
  have HM := Lib.hid (MP.out.new w2.heap.size 0 0 0 0 25 rfl)
  have kr := MP.out.row (b := w.heap.size) (c0 := a0) (c1 := a1) (c2 := a2) (c3 := a3) (by simp)
  have Fa0 := kr.c0; have Fa1 := kr.c1; have Fa2 := kr.c2; have Fa3 := kr.c3
  clear kr
  have Fal := MP.out.lt (b := w.heap.size) (c0 := a0) (c1 := a1) (c2 := a2) (c3 := a3) (by simp)
  have kr := MP.out.row (b := w.heap.size + 1) (c0 := b0) (c1 := b1) (c2 := b2) (c3 := b3) (by simp)
  have Fb0 := kr.c0; have Fb1 := kr.c1; have Fb2 := kr.c2; have Fb3 := kr.c3
  clear kr
  have Fbl := MP.out.lt (b := w.heap.size + 1) (c0 := b0) (c1 := b1) (c2 := b2) (c3 := b3) (by simp)
  go_wp2_with fail
  refine (fsub_err f 21 a0 a1 a2 a3 b0 b1 b2 b3 ha hb HBAD.out _).mono ?_
  rintro e w3 ⟨rfl, hbl⟩
  have MP' := Lib.hid (HM.out.on hbl)
  clear hbl HM MP Fa0 Fa1 Fa2 Fa3 Fal Fb0 Fb1 Fb2 Fb3 Fbl
  have MP := MP'
  clear MP'
  have HM := Lib.hid (MP.out.new w3.heap.size 0 0 0 0 25 rfl)
  have kr := MP.out.row (b := w.heap.size) (c0 := a0) (c1 := a1) (c2 := a2) (c3 := a3) (by simp)
  have Fa0 := kr.c0; have Fa1 := kr.c1; have Fa2 := kr.c2; have Fa3 := kr.c3
  clear kr
  have Fal := MP.out.lt (b := w.heap.size) (c0 := a0) (c1 := a1) (c2 := a2) (c3 := a3) (by simp)
  have kr := MP.out.row (b := w.heap.size + 1) (c0 := b0) (c1 := b1) (c2 := b2) (c3 := b3) (by simp)
  have Fb0 := kr.c0; have Fb1 := kr.c1; have Fb2 := kr.c2; have Fb3 := kr.c3
  clear kr
  have Fbl := MP.out.lt (b := w.heap.size + 1) (c0 := b0) (c1 := b1) (c2 := b2) (c3 := b3) (by simp)
  go_wp2_with fail
  refine (fmul_err f 21 a0 a1 a2 a3 b0 b1 b2 b3 ha hb HBAD.out _).mono ?_
  rintro e w4 ⟨rfl, hbl⟩
  have MP' := Lib.hid (HM.out.on hbl)
  clear hbl HM MP Fa0 Fa1 Fa2 Fa3 Fal Fb0 Fb1 Fb2 Fb3 Fbl
  have MP := MP'
  clear MP'
  have HM := Lib.hid (MP.out.new w4.heap.size 0 0 0 0 25 rfl)
  have kr := MP.out.row (b := w.heap.size) (c0 := a0) (c1 := a1) (c2 := a2) (c3 := a3) (by simp)
  have Fa0 := kr.c0; have Fa1 := kr.c1; have Fa2 := kr.c2; have Fa3 := kr.c3
  clear kr
  have Fal := MP.out.lt (b := w.heap.size) (c0 := a0) (c1 := a1) (c2 := a2) (c3 := a3) (by simp)
  go_wp2_with fail
  refine (fneg_err f 21 a0 a1 a2 a3 ha (Or.inr ⟨F, hf, la, rfl⟩) _).mono ?_
  rintro e w5 ⟨rfl, hbl⟩
  have MP' := Lib.hid (HM.out.on hbl)
  clear hbl HM MP Fa0 Fa1 Fa2 Fa3 Fal
  have MP := MP'
  clear MP'
  have HM := Lib.hid (MP.out.new w5.heap.size 0 0 0 0 25 rfl)
  have hZ := eqF_zz
  have kr := MP.out.row (b := w2.heap.size) (c0 := 0) (c1 := 0) (c2 := 0) (c3 := 0) (by simp)
  have Fx0 := kr.c0; have Fx1 := kr.c1; have Fx2 := kr.c2; have Fx3 := kr.c3
  clear kr
  have Fxl := MP.out.lt (b := w2.heap.size) (c0 := 0) (c1 := 0) (c2 := 0) (c3 := 0) (by simp)
  have kr := MP.out.row (b := w3.heap.size) (c0 := 0) (c1 := 0) (c2 := 0) (c3 := 0) (by simp)
  have Fy0 := kr.c0; have Fy1 := kr.c1; have Fy2 := kr.c2; have Fy3 := kr.c3
  clear kr
  have Fyl := MP.out.lt (b := w3.heap.size) (c0 := 0) (c1 := 0) (c2 := 0) (c3 := 0) (by simp)
  have kr := MP.out.row (b := w4.heap.size) (c0 := 0) (c1 := 0) (c2 := 0) (c3 := 0) (by simp)
  have Fz0 := kr.c0; have Fz1 := kr.c1; have Fz2 := kr.c2; have Fz3 := kr.c3
  clear kr
  have Fzl := MP.out.lt (b := w4.heap.size) (c0 := 0) (c1 := 0) (c2 := 0) (c3 := 0) (by simp)
  have kr := MP.out.row (b := w.heap.size) (c0 := a0) (c1 := a1) (c2 := a2) (c3 := a3) (by simp)
  have Fa0 := kr.c0; have Fa1 := kr.c1; have Fa2 := kr.c2; have Fa3 := kr.c3
  clear kr
  have Fal := MP.out.lt (b := w.heap.size) (c0 := a0) (c1 := a1) (c2 := a2) (c3 := a3) (by simp)
  go_wp2_with fail
  refine (num_calls _ _).mono ?_
  rintro e wn ⟨rfl, rfl⟩
  go_wp2_with fail
  refine (num_calls _ _).mono ?_
  rintro e wn ⟨rfl, rfl⟩
  go_wp2_with fail
  refine (num_calls _ _).mono ?_
  rintro e wn ⟨rfl, rfl⟩
  go_wp2_with fail
  refine (rcheck_err f 21 a0 a1 a2 a3 ha (Or.inr ⟨F, hf, la, rfl⟩) _).mono ?_
  rintro e w6 ⟨rfl, hbl⟩
  have MP' := Lib.hid (HM.out.on hbl)
  clear hbl HM MP Fx0 Fx1 Fx2 Fx3 Fxl Fy0 Fy1 Fy2 Fy3 Fyl Fz0 Fz1 Fz2 Fz3 Fzl Fa0 Fa1 Fa2 Fa3 Fal
  have MP := MP'
  clear MP'
  have HM := MP
  have kr := MP.out.row (b := w.heap.size) (c0 := a0) (c1 := a1) (c2 := a2) (c3 := a3) (by simp)
  have Fa0 := kr.c0; have Fa1 := kr.c1; have Fa2 := kr.c2; have Fa3 := kr.c3
  clear kr
  have Fal := MP.out.lt (b := w.heap.size) (c0 := a0) (c1 := a1) (c2 := a2) (c3 := a3) (by simp)
  go_wp2_with fail
  refine (fcheck_err f 21 a0 a1 a2 a3 ha (Or.inr ⟨F, hf, la, rfl⟩) _).mono ?_
  rintro e w7 ⟨rfl, hbl⟩
  have MP' := Lib.hid (HM.out.on hbl)
  clear hbl HM MP Fa0 Fa1 Fa2 Fa3 Fal
  have MP := MP'
  clear MP'
  have HM := MP
  have kr := MP.out.row (b := w5.heap.size) (c0 := 0) (c1 := 0) (c2 := 0) (c3 := 0) (by simp)
  have Fn0 := kr.c0; have Fn1 := kr.c1; have Fn2 := kr.c2; have Fn3 := kr.c3
  clear kr
  have Fnl := MP.out.lt (b := w5.heap.size) (c0 := 0) (c1 := 0) (c2 := 0) (c3 := 0) (by simp)
  go_wp2_with fail
  refine (num_calls _ _).mono ?_
  rintro e wn ⟨rfl, rfl⟩
  go_wp2_with fail
  refine (num_calls _ _).mono ?_
  rintro e wn ⟨rfl, rfl⟩
  go_wp2_with fail
  clear MP Fn0 Fn1 Fn2 Fn3 Fnl
  refine region_till (fun wx => Mem w wx [(w5.heap.size, 0, 0, 0, 0), (w4.heap.size, 0, 0, 0, 0), (w3.heap.size, 0, 0, 0, 0), (w2.heap.size, 0, 0, 0, 0), (w.heap.size + 1, b0, b1, b2, b3), (w.heap.size, a0, a1, a2, a3)]) 99 (by kernel_rfl) ?_
  have HM' := Lib.hid (HM.out.drewN 1)
  clear HM
  have HM := HM'
  clear HM'
  have HS := HM.out.sub (rs' := [(w5.heap.size, 0, 0, 0, 0), (w4.heap.size, 0, 0, 0, 0), (w3.heap.size, 0, 0, 0, 0), (w2.heap.size, 0, 0, 0, 0), (w.heap.size + 1, b0, b1, b2, b3), (w.heap.size, a0, a1, a2, a3)]) (by simp)
  refine till_keep (i := 0) (v := .int .i64 21) rfl (by kernel_rfl) (by kernel_rfl) (by kernel_rfl) (Nat.le_of_ble_eq_true (by kernel_rfl)) (fun _ _ _ h => h) HS (Or.inl ⟨by kernel_rfl, fun wx hx => ?_⟩) ?_
  · clear HS hx
    go_simp
  simp only [Act.put, List.setIfInBounds_toArray, List.set_cons_zero, List.set_cons_succ]
  refine till_keep (i := 1) (v := .bool true) rfl (by kernel_rfl) (by kernel_rfl) (by kernel_rfl) (Nat.le_of_ble_eq_true (by kernel_rfl)) (fun _ _ _ h => h) HS (Or.inl ⟨by kernel_rfl, fun wx hx => ?_⟩) ?_
  · clear HS hx
    go_simp
  simp only [Act.put, List.setIfInBounds_toArray, List.set_cons_zero, List.set_cons_succ]
  refine till_keep (i := 2) (v := .bool true) rfl (by kernel_rfl) (by kernel_rfl) (by kernel_rfl) (Nat.le_of_ble_eq_true (by kernel_rfl)) (fun _ _ _ h => h) HS (Or.inl ⟨by kernel_rfl, fun wx hx => ?_⟩) ?_
  · clear HS hx
    go_simp
  simp only [Act.put, List.setIfInBounds_toArray, List.set_cons_zero, List.set_cons_succ]
  refine till_keep (i := 3) (v := undef) rfl (by kernel_rfl) (by kernel_rfl) (by kernel_rfl) (Nat.le_of_ble_eq_true (by kernel_rfl)) (fun _ _ _ h => h) HS (Or.inr ⟨by kernel_rfl, rfl⟩) ?_
  simp only [Act.put, List.setIfInBounds_toArray, List.set_cons_zero, List.set_cons_succ]
  refine till_keep (i := 4) (v := undef) rfl (by kernel_rfl) (by kernel_rfl) (by kernel_rfl) (Nat.le_of_ble_eq_true (by kernel_rfl)) (fun _ _ _ h => h) HS (Or.inr ⟨by kernel_rfl, rfl⟩) ?_
  simp only [Act.put, List.setIfInBounds_toArray, List.set_cons_zero, List.set_cons_succ]
  refine till_keep (i := 5) (v := undef) rfl (by kernel_rfl) (by kernel_rfl) (by kernel_rfl) (Nat.le_of_ble_eq_true (by kernel_rfl)) (fun _ _ _ h => h) HS (Or.inr ⟨by kernel_rfl, rfl⟩) ?_
  simp only [Act.put, List.setIfInBounds_toArray, List.set_cons_zero, List.set_cons_succ]
  refine till_keep (i := 6) (v := undef) rfl (by kernel_rfl) (by kernel_rfl) (by kernel_rfl) (Nat.le_of_ble_eq_true (by kernel_rfl)) (fun _ _ _ h => h) HS (Or.inr ⟨by kernel_rfl, rfl⟩) ?_
  simp only [Act.put, List.setIfInBounds_toArray, List.set_cons_zero, List.set_cons_succ]
  refine till_keep (i := 7) (v := undef) rfl (by kernel_rfl) (by kernel_rfl) (by kernel_rfl) (Nat.le_of_ble_eq_true (by kernel_rfl)) (fun _ _ _ h => h) HS (Or.inr ⟨by kernel_rfl, rfl⟩) ?_
  simp only [Act.put, List.setIfInBounds_toArray, List.set_cons_zero, List.set_cons_succ]
  refine till_keep (i := 8) (v := .bool true) rfl (by kernel_rfl) (by kernel_rfl) (by kernel_rfl) (Nat.le_of_ble_eq_true (by kernel_rfl)) (fun _ _ _ h => h) HS (Or.inl ⟨by kernel_rfl, fun wx hx => ?_⟩) ?_
  · clear HS hx
    go_simp
  simp only [Act.put, List.setIfInBounds_toArray, List.set_cons_zero, List.set_cons_succ]
  refine till_keep (i := 9) (v := .bool true) rfl (by kernel_rfl) (by kernel_rfl) (by kernel_rfl) (Nat.le_of_ble_eq_true (by kernel_rfl)) (fun _ _ _ h => h) HS (Or.inl ⟨by kernel_rfl, fun wx hx => ?_⟩) ?_
  · clear HS hx
    go_simp
  simp only [Act.put, List.setIfInBounds_toArray, List.set_cons_zero, List.set_cons_succ]
  refine till_keep (i := 10) (v := .int .i64 f) rfl (by kernel_rfl) (by kernel_rfl) (by kernel_rfl) (Nat.le_of_ble_eq_true (by kernel_rfl)) (fun _ _ _ h => h) HS (Or.inl ⟨by kernel_rfl, fun wx hx => ?_⟩) ?_
  · clear HS hx
    go_simp
  simp only [Act.put, List.setIfInBounds_toArray, List.set_cons_zero, List.set_cons_succ]
  refine till_keep (i := 12) (v := .int .i64 f) rfl (by kernel_rfl) (by kernel_rfl) (by kernel_rfl) (Nat.le_of_ble_eq_true (by kernel_rfl)) (fun _ _ _ h => h) HS (Or.inl ⟨by kernel_rfl, fun wx hx => ?_⟩) ?_
  · clear HS hx
    go_simp
  simp only [Act.put, List.setIfInBounds_toArray, List.set_cons_zero, List.set_cons_succ]
  clear HS
  refine till_step (i := 11) (by kernel_rfl) rfl (fun K hK => ?_)
  go_simp
  refine (fmodulus_some f F hf _).mono ?_
  rintro e wq ⟨rfl, hbl⟩
  have HM' := Lib.hid (HM.out.on hbl)
  clear HM hbl
  have HM := HM'
  clear HM'
  have HS := HM.out.sub (rs' := [(w5.heap.size, 0, 0, 0, 0), (w4.heap.size, 0, 0, 0, 0), (w3.heap.size, 0, 0, 0, 0), (w2.heap.size, 0, 0, 0, 0), (w.heap.size + 1, b0, b1, b2, b3), (w.heap.size, a0, a1, a2, a3)]) (by simp)
  refine hK.out _ _ (Or.inr HS) (fun _ => ?_)
  clear hK K
  clear HS
  refine till_step (i := 13) (by kernel_rfl) rfl (fun K hK => ?_)
  go_simp
  refine (rmod_some f F hf _).mono ?_
  rintro e wq ⟨rfl, hbl⟩
  have HM' := Lib.hid (HM.out.on hbl)
  clear HM hbl
  have HM := HM'
  clear HM'
  have HS := HM.out.sub (rs' := [(w5.heap.size, 0, 0, 0, 0), (w4.heap.size, 0, 0, 0, 0), (w3.heap.size, 0, 0, 0, 0), (w2.heap.size, 0, 0, 0, 0), (w.heap.size + 1, b0, b1, b2, b3), (w.heap.size, a0, a1, a2, a3)]) (by simp)
  refine hK.out _ _ (Or.inr HS) (fun _ => ?_)
  clear hK K
  refine till_keep (i := 14) (v := .bool true) rfl (by kernel_rfl) (by kernel_rfl) (by kernel_rfl) (Nat.le_of_ble_eq_true (by kernel_rfl)) (fun _ _ _ h => h) HS (Or.inl ⟨by kernel_rfl, fun wx hx => ?_⟩) ?_
  · clear HS hx
    go_simp
  simp only [Act.put, List.setIfInBounds_toArray, List.set_cons_zero, List.set_cons_succ]
  refine till_keep (i := 15) (v := .bool true) rfl (by kernel_rfl) (by kernel_rfl) (by kernel_rfl) (Nat.le_of_ble_eq_true (by kernel_rfl)) (fun _ _ _ h => h) HS (Or.inl ⟨by kernel_rfl, fun wx hx => ?_⟩) ?_
  · clear HS hx
    go_simp
  simp only [Act.put, List.setIfInBounds_toArray, List.set_cons_zero, List.set_cons_succ]
  refine till_keep (i := 16) (v := .bool true) rfl (by kernel_rfl) (by kernel_rfl) (by kernel_rfl) (Nat.le_of_ble_eq_true (by kernel_rfl)) (fun _ _ _ h => h) HS (Or.inl ⟨by kernel_rfl, fun wx hx => ?_⟩) ?_
  · clear HS hx
    go_simp
  simp only [Act.put, List.setIfInBounds_toArray, List.set_cons_zero, List.set_cons_succ]
  clear HS
  refine till_step (i := 17) (by kernel_rfl) rfl (fun K hK => ?_)
  go_simp
  refine (works_calls _).mono ?_
  rintro e wq ⟨rfl, hbl⟩
  have HM' := Lib.hid (HM.out.on hbl)
  clear HM hbl
  have HM := HM'
  clear HM'
  have HS := HM.out.sub (rs' := [(w5.heap.size, 0, 0, 0, 0), (w4.heap.size, 0, 0, 0, 0), (w3.heap.size, 0, 0, 0, 0), (w2.heap.size, 0, 0, 0, 0), (w.heap.size + 1, b0, b1, b2, b3), (w.heap.size, a0, a1, a2, a3)]) (by simp)
  refine hK.out _ _ (Or.inr HS) (fun _ => ?_)
  clear hK K
  refine till_keep (i := 18) (v := .bool true) rfl (by kernel_rfl) (by kernel_rfl) (by kernel_rfl) (Nat.le_of_ble_eq_true (by kernel_rfl)) (fun _ _ _ h => h) HS (Or.inl ⟨by kernel_rfl, fun wx hx => ?_⟩) ?_
  · clear HS hx
    go_simp
  simp only [Act.put, List.setIfInBounds_toArray, List.set_cons_zero, List.set_cons_succ]
  have HS' := HS
  clear HS
  refine till_step (i := 19) (by kernel_rfl) rfl (fun K hK => ?_)
  go_simp
  refine hK.out _ _ (Or.inr HS') (fun _ => ?_)
  clear hK K HS'
  refine till_done (by kernel_rfl) ?_
  go_wp2_with fail
  go_ret
  exact ⟨rfl, HM.out.1⟩
set_option maxRecDepth 100000 in
set_option maxHeartbeats 16000000 in
theorem sums_badb (f : Int) (a0 a1 a2 a3 b0 b1 b2 b3 : Nat) (ha : ok4 a0 a1 a2 a3) (hb : ok4 b0 b1 b2 b3) (F : FC) (hf : FieldIs f F) (la : val4 a0 a1 a2 a3 < F.M) (lb : ¬ val4 b0 b1 b2 b3 < F.M) (w : World) :
    Calls Try.prog 3 #[.int .i64 f, .agg #[.int .u64 a0, .int .u64 a1, .int .u64 a2, .int .u64 a3], .agg #[.int .u64 b0, .int .u64 b1, .int .u64 b2, .int .u64 b3]] w fun e w' => e = .returned (.bool true) ∧ Below w.heap.size w w' := by
  have hG := eqGuardF
  have hGW := eqGuardW
  have hS := equalSelfF
  have hSW := equalSelfW
  have hZW := eqW_zz
  have hpos := hf.ok.pos
  have HBAD := Lib.hid (show Bad2 f (val4 a0 a1 a2 a3) (val4 b0 b1 b2 b3) 21 from Or.inr ⟨F, hf, la, lb, rfl⟩)
  go_enter Try.func3, Try.ntmps3
  go_wp2_with fail
  have HM := Lib.hid (((Mem.nil w).new (w.heap.size) a0 a1 a2 a3 25 (by simp)).new (w.heap.size + 1) b0 b1 b2 b3 25 (by simp))
  refine (two_err f 21 a0 a1 a2 a3 b0 b1 b2 b3 ha hb HBAD.out _).mono ?_
  rintro e w1 ⟨rfl, hbl⟩
  have MP' := Lib.hid (HM.out.on hbl)
  clear hbl HM
  have MP := MP'
  clear MP'
  have HM := MP
  have kr := MP.out.row (b := w.heap.size) (c0 := a0) (c1 := a1) (c2 := a2) (c3 := a3) (by simp)
  have Fa0 := kr.c0; have Fa1 := kr.c1; have Fa2 := kr.c2; have Fa3 := kr.c3
  clear kr
  have Fal := MP.out.lt (b := w.heap.size) (c0 := a0) (c1 := a1) (c2 := a2) (c3 := a3) (by simp)
  have kr := MP.out.row (b := w.heap.size + 1) (c0 := b0) (c1 := b1) (c2 := b2) (c3 := b3) (by simp)
  have Fb0 := kr.c0; have Fb1 := kr.c1; have Fb2 := kr.c2; have Fb3 := kr.c3
  clear kr
  have Fbl := MP.out.lt (b := w.heap.size + 1) (c0 := b0) (c1 := b1) (c2 := b2) (c3 := b3) (by simp)
  go_wp2_with fail
  refine (fadd_err f 21 a0 a1 a2 a3 b0 b1 b2 b3 ha hb HBAD.out _).mono ?_
  rintro e w2 ⟨rfl, hbl⟩
  have MP' := Lib.hid (HM.out.on hbl)
  clear hbl HM MP Fa0 Fa1 Fa2 Fa3 Fal Fb0 Fb1 Fb2 Fb3 Fbl
  have MP := MP'
  clear MP'
  have HM := Lib.hid (MP.out.new w2.heap.size 0 0 0 0 25 rfl)
  have kr := MP.out.row (b := w.heap.size) (c0 := a0) (c1 := a1) (c2 := a2) (c3 := a3) (by simp)
  have Fa0 := kr.c0; have Fa1 := kr.c1; have Fa2 := kr.c2; have Fa3 := kr.c3
  clear kr
  have Fal := MP.out.lt (b := w.heap.size) (c0 := a0) (c1 := a1) (c2 := a2) (c3 := a3) (by simp)
  have kr := MP.out.row (b := w.heap.size + 1) (c0 := b0) (c1 := b1) (c2 := b2) (c3 := b3) (by simp)
  have Fb0 := kr.c0; have Fb1 := kr.c1; have Fb2 := kr.c2; have Fb3 := kr.c3
  clear kr
  have Fbl := MP.out.lt (b := w.heap.size + 1) (c0 := b0) (c1 := b1) (c2 := b2) (c3 := b3) (by simp)
  go_wp2_with fail
  refine (fsub_err f 21 a0 a1 a2 a3 b0 b1 b2 b3 ha hb HBAD.out _).mono ?_
  rintro e w3 ⟨rfl, hbl⟩
  have MP' := Lib.hid (HM.out.on hbl)
  clear hbl HM MP Fa0 Fa1 Fa2 Fa3 Fal Fb0 Fb1 Fb2 Fb3 Fbl
  have MP := MP'
  clear MP'
  have HM := Lib.hid (MP.out.new w3.heap.size 0 0 0 0 25 rfl)
  have kr := MP.out.row (b := w.heap.size) (c0 := a0) (c1 := a1) (c2 := a2) (c3 := a3) (by simp)
  have Fa0 := kr.c0; have Fa1 := kr.c1; have Fa2 := kr.c2; have Fa3 := kr.c3
  clear kr
  have Fal := MP.out.lt (b := w.heap.size) (c0 := a0) (c1 := a1) (c2 := a2) (c3 := a3) (by simp)
  have kr := MP.out.row (b := w.heap.size + 1) (c0 := b0) (c1 := b1) (c2 := b2) (c3 := b3) (by simp)
  have Fb0 := kr.c0; have Fb1 := kr.c1; have Fb2 := kr.c2; have Fb3 := kr.c3
  clear kr
  have Fbl := MP.out.lt (b := w.heap.size + 1) (c0 := b0) (c1 := b1) (c2 := b2) (c3 := b3) (by simp)
  go_wp2_with fail
  refine (fmul_err f 21 a0 a1 a2 a3 b0 b1 b2 b3 ha hb HBAD.out _).mono ?_
  rintro e w4 ⟨rfl, hbl⟩
  have MP' := Lib.hid (HM.out.on hbl)
  clear hbl HM MP Fa0 Fa1 Fa2 Fa3 Fal Fb0 Fb1 Fb2 Fb3 Fbl
  have MP := MP'
  clear MP'
  have HM := Lib.hid (MP.out.new w4.heap.size 0 0 0 0 25 rfl)
  have kr := MP.out.row (b := w.heap.size) (c0 := a0) (c1 := a1) (c2 := a2) (c3 := a3) (by simp)
  have Fa0 := kr.c0; have Fa1 := kr.c1; have Fa2 := kr.c2; have Fa3 := kr.c3
  clear kr
  have Fal := MP.out.lt (b := w.heap.size) (c0 := a0) (c1 := a1) (c2 := a2) (c3 := a3) (by simp)
  go_wp2_with fail
  refine (fneg_ok f F hf a0 a1 a2 a3 ha la _).mono ?_
  rintro e w5 ⟨n0, n1, n2, n3, rfl, hn, hv, hbl⟩
  have Vn := Lib.hid hv
  clear hv
  have MP' := Lib.hid (HM.out.on hbl)
  clear hbl HM MP Fa0 Fa1 Fa2 Fa3 Fal
  have MP := MP'
  clear MP'
  have HM := Lib.hid (MP.out.new w5.heap.size n0 n1 n2 n3 25 rfl)
  have hZ := eqF_zz
  have kr := MP.out.row (b := w2.heap.size) (c0 := 0) (c1 := 0) (c2 := 0) (c3 := 0) (by simp)
  have Fx0 := kr.c0; have Fx1 := kr.c1; have Fx2 := kr.c2; have Fx3 := kr.c3
  clear kr
  have Fxl := MP.out.lt (b := w2.heap.size) (c0 := 0) (c1 := 0) (c2 := 0) (c3 := 0) (by simp)
  have kr := MP.out.row (b := w3.heap.size) (c0 := 0) (c1 := 0) (c2 := 0) (c3 := 0) (by simp)
  have Fy0 := kr.c0; have Fy1 := kr.c1; have Fy2 := kr.c2; have Fy3 := kr.c3
  clear kr
  have Fyl := MP.out.lt (b := w3.heap.size) (c0 := 0) (c1 := 0) (c2 := 0) (c3 := 0) (by simp)
  have kr := MP.out.row (b := w4.heap.size) (c0 := 0) (c1 := 0) (c2 := 0) (c3 := 0) (by simp)
  have Fz0 := kr.c0; have Fz1 := kr.c1; have Fz2 := kr.c2; have Fz3 := kr.c3
  clear kr
  have Fzl := MP.out.lt (b := w4.heap.size) (c0 := 0) (c1 := 0) (c2 := 0) (c3 := 0) (by simp)
  have kr := MP.out.row (b := w.heap.size) (c0 := a0) (c1 := a1) (c2 := a2) (c3 := a3) (by simp)
  have Fa0 := kr.c0; have Fa1 := kr.c1; have Fa2 := kr.c2; have Fa3 := kr.c3
  clear kr
  have Fal := MP.out.lt (b := w.heap.size) (c0 := a0) (c1 := a1) (c2 := a2) (c3 := a3) (by simp)
  go_wp2_with fail
  refine (num_calls _ _).mono ?_
  rintro e wn ⟨rfl, rfl⟩
  go_wp2_with fail
  refine (num_calls _ _).mono ?_
  rintro e wn ⟨rfl, rfl⟩
  go_wp2_with fail
  refine (num_calls _ _).mono ?_
  rintro e wn ⟨rfl, rfl⟩
  go_wp2_with fail
  refine (rcheck_ok f F hf a0 a1 a2 a3 ha la _).mono ?_
  rintro e w6 ⟨rfl, hbl⟩
  have MP' := Lib.hid (HM.out.on hbl)
  clear hbl HM MP Fx0 Fx1 Fx2 Fx3 Fxl Fy0 Fy1 Fy2 Fy3 Fyl Fz0 Fz1 Fz2 Fz3 Fzl Fa0 Fa1 Fa2 Fa3 Fal
  have MP := MP'
  clear MP'
  have HM := MP
  have kr := MP.out.row (b := w.heap.size) (c0 := a0) (c1 := a1) (c2 := a2) (c3 := a3) (by simp)
  have Fa0 := kr.c0; have Fa1 := kr.c1; have Fa2 := kr.c2; have Fa3 := kr.c3
  clear kr
  have Fal := MP.out.lt (b := w.heap.size) (c0 := a0) (c1 := a1) (c2 := a2) (c3 := a3) (by simp)
  go_wp2_with fail
  refine (fcheck_ok f F hf a0 a1 a2 a3 ha la _).mono ?_
  rintro e w7 ⟨rfl, hbl⟩
  have MP' := Lib.hid (HM.out.on hbl)
  clear hbl HM MP Fa0 Fa1 Fa2 Fa3 Fal
  have MP := MP'
  clear MP'
  have HM := MP
  go_wp2_with fail
  refine (num_calls _ _).mono ?_
  rintro e wn ⟨rfl, rfl⟩
  go_wp2_with fail
  refine (num_calls _ _).mono ?_
  rintro e wn ⟨rfl, rfl⟩
  go_wp2_with fail
  clear MP 
  refine region_till (fun wx => Mem w wx [(w5.heap.size, n0, n1, n2, n3), (w4.heap.size, 0, 0, 0, 0), (w3.heap.size, 0, 0, 0, 0), (w2.heap.size, 0, 0, 0, 0), (w.heap.size + 1, b0, b1, b2, b3), (w.heap.size, a0, a1, a2, a3)]) 99 (by kernel_rfl) ?_
  have HM' := Lib.hid (HM.out.drewN 1)
  clear HM
  have HM := HM'
  clear HM'
  have HS := HM.out.sub (rs' := [(w5.heap.size, n0, n1, n2, n3), (w4.heap.size, 0, 0, 0, 0), (w3.heap.size, 0, 0, 0, 0), (w2.heap.size, 0, 0, 0, 0), (w.heap.size + 1, b0, b1, b2, b3), (w.heap.size, a0, a1, a2, a3)]) (by simp)
  refine till_keep (i := 0) (v := .int .i64 0) rfl (by kernel_rfl) (by kernel_rfl) (by kernel_rfl) (Nat.le_of_ble_eq_true (by kernel_rfl)) (fun _ _ _ h => h) HS (Or.inl ⟨by kernel_rfl, fun wx hx => ?_⟩) ?_
  · clear HS hx
    go_simp
  simp only [Act.put, List.setIfInBounds_toArray, List.set_cons_zero, List.set_cons_succ]
  refine till_keep (i := 1) (v := .bool false) rfl (by kernel_rfl) (by kernel_rfl) (by kernel_rfl) (Nat.le_of_ble_eq_true (by kernel_rfl)) (fun _ _ _ h => h) HS (Or.inl ⟨by kernel_rfl, fun wx hx => ?_⟩) ?_
  · clear HS hx
    go_simp
  simp only [Act.put, List.setIfInBounds_toArray, List.set_cons_zero, List.set_cons_succ]
  refine till_keep (i := 2) (v := .bool false) rfl (by kernel_rfl) (by kernel_rfl) (by kernel_rfl) (Nat.le_of_ble_eq_true (by kernel_rfl)) (fun _ _ _ h => h) HS (Or.inl ⟨by kernel_rfl, fun wx hx => ?_⟩) ?_
  · clear HS hx
    go_simp
  simp only [Act.put, List.setIfInBounds_toArray, List.set_cons_zero, List.set_cons_succ]
  refine till_keep (i := 3) (v := .agg #[.int .u64 n0, .int .u64 n1, .int .u64 n2, .int .u64 n3]) rfl (by kernel_rfl) (by kernel_rfl) (by kernel_rfl) (Nat.le_of_ble_eq_true (by kernel_rfl)) (fun _ _ _ h => h) HS (Or.inl ⟨by kernel_rfl, fun wx hx => ?_⟩) ?_
  · have kr := hx.row (b := w5.heap.size) (c0 := n0) (c1 := n1) (c2 := n2) (c3 := n3) (by simp)
    have x0' := kr.c0; have x1' := kr.c1; have x2' := kr.c2; have x3' := kr.c3
    clear kr HS hx
    go_simp
  simp only [Act.put, List.setIfInBounds_toArray, List.set_cons_zero, List.set_cons_succ]
  refine till_keep (i := 4) (v := .int .i64 f) rfl (by kernel_rfl) (by kernel_rfl) (by kernel_rfl) (Nat.le_of_ble_eq_true (by kernel_rfl)) (fun _ _ _ h => h) HS (Or.inl ⟨by kernel_rfl, fun wx hx => ?_⟩) ?_
  · clear HS hx
    go_simp
  simp only [Act.put, List.setIfInBounds_toArray, List.set_cons_zero, List.set_cons_succ]
  refine till_keep (i := 5) (v := .agg #[.int .u64 a0, .int .u64 a1, .int .u64 a2, .int .u64 a3]) rfl (by kernel_rfl) (by kernel_rfl) (by kernel_rfl) (Nat.le_of_ble_eq_true (by kernel_rfl)) (fun _ _ _ h => h) HS (Or.inl ⟨by kernel_rfl, fun wx hx => ?_⟩) ?_
  · have kr := hx.row (b := w.heap.size) (c0 := a0) (c1 := a1) (c2 := a2) (c3 := a3) (by simp)
    have x0' := kr.c0; have x1' := kr.c1; have x2' := kr.c2; have x3' := kr.c3
    clear kr HS hx
    go_simp
  simp only [Act.put, List.setIfInBounds_toArray, List.set_cons_zero, List.set_cons_succ]
  clear HS
  refine till_step (i := 6) (by kernel_rfl) rfl (fun K hK => ?_)
  go_simp
  refine (rneg_calls f F hf a0 a1 a2 a3 ha _).mono ?_
  rintro e wq ⟨q0, q1, q2, q3, rfl, hq, hv, hbl⟩
  obtain ⟨rfl, rfl, rfl, rfl⟩ := val4_inj hn hq (show val4 n0 n1 n2 n3 = val4 q0 q1 q2 q3 by rw [hv, Vn.out, Nat.mod_eq_of_lt la, Nat.zero_add])
  clear hv hq
  have HM' := Lib.hid (HM.out.on hbl)
  clear HM hbl
  have HM := HM'
  clear HM'
  have HS := HM.out.sub (rs' := [(w5.heap.size, n0, n1, n2, n3), (w4.heap.size, 0, 0, 0, 0), (w3.heap.size, 0, 0, 0, 0), (w2.heap.size, 0, 0, 0, 0), (w.heap.size + 1, b0, b1, b2, b3), (w.heap.size, a0, a1, a2, a3)]) (by simp)
  refine hK.out _ _ (Or.inr HS) (fun _ => ?_)
  clear hK K
  refine till_keep (i := 7) (v := .bool true) rfl (by kernel_rfl) (by kernel_rfl) (by kernel_rfl) (Nat.le_of_ble_eq_true (by kernel_rfl)) (fun _ _ _ h => h) HS (Or.inl ⟨by kernel_rfl, fun wx hx => ?_⟩) ?_
  · clear HS hx
    go_simp
  simp only [Act.put, List.setIfInBounds_toArray, List.set_cons_zero, List.set_cons_succ]
  refine till_keep (i := 8) (v := .bool true) rfl (by kernel_rfl) (by kernel_rfl) (by kernel_rfl) (Nat.le_of_ble_eq_true (by kernel_rfl)) (fun _ _ _ h => h) HS (Or.inl ⟨by kernel_rfl, fun wx hx => ?_⟩) ?_
  · clear HS hx
    go_simp
  simp only [Act.put, List.setIfInBounds_toArray, List.set_cons_zero, List.set_cons_succ]
  refine till_keep (i := 9) (v := .bool true) rfl (by kernel_rfl) (by kernel_rfl) (by kernel_rfl) (Nat.le_of_ble_eq_true (by kernel_rfl)) (fun _ _ _ h => h) HS (Or.inl ⟨by kernel_rfl, fun wx hx => ?_⟩) ?_
  · clear HS hx
    go_simp
  simp only [Act.put, List.setIfInBounds_toArray, List.set_cons_zero, List.set_cons_succ]
  refine till_keep (i := 10) (v := .int .i64 f) rfl (by kernel_rfl) (by kernel_rfl) (by kernel_rfl) (Nat.le_of_ble_eq_true (by kernel_rfl)) (fun _ _ _ h => h) HS (Or.inl ⟨by kernel_rfl, fun wx hx => ?_⟩) ?_
  · clear HS hx
    go_simp
  simp only [Act.put, List.setIfInBounds_toArray, List.set_cons_zero, List.set_cons_succ]
  refine till_keep (i := 12) (v := .int .i64 f) rfl (by kernel_rfl) (by kernel_rfl) (by kernel_rfl) (Nat.le_of_ble_eq_true (by kernel_rfl)) (fun _ _ _ h => h) HS (Or.inl ⟨by kernel_rfl, fun wx hx => ?_⟩) ?_
  · clear HS hx
    go_simp
  simp only [Act.put, List.setIfInBounds_toArray, List.set_cons_zero, List.set_cons_succ]
  clear HS
  refine till_step (i := 11) (by kernel_rfl) rfl (fun K hK => ?_)
  go_simp
  refine (fmodulus_some f F hf _).mono ?_
  rintro e wq ⟨rfl, hbl⟩
  have HM' := Lib.hid (HM.out.on hbl)
  clear HM hbl
  have HM := HM'
  clear HM'
  have HS := HM.out.sub (rs' := [(w5.heap.size, n0, n1, n2, n3), (w4.heap.size, 0, 0, 0, 0), (w3.heap.size, 0, 0, 0, 0), (w2.heap.size, 0, 0, 0, 0), (w.heap.size + 1, b0, b1, b2, b3), (w.heap.size, a0, a1, a2, a3)]) (by simp)
  refine hK.out _ _ (Or.inr HS) (fun _ => ?_)
  clear hK K
  clear HS
  refine till_step (i := 13) (by kernel_rfl) rfl (fun K hK => ?_)
  go_simp
  refine (rmod_some f F hf _).mono ?_
  rintro e wq ⟨rfl, hbl⟩
  have HM' := Lib.hid (HM.out.on hbl)
  clear HM hbl
  have HM := HM'
  clear HM'
  have HS := HM.out.sub (rs' := [(w5.heap.size, n0, n1, n2, n3), (w4.heap.size, 0, 0, 0, 0), (w3.heap.size, 0, 0, 0, 0), (w2.heap.size, 0, 0, 0, 0), (w.heap.size + 1, b0, b1, b2, b3), (w.heap.size, a0, a1, a2, a3)]) (by simp)
  refine hK.out _ _ (Or.inr HS) (fun _ => ?_)
  clear hK K
  refine till_keep (i := 14) (v := .bool true) rfl (by kernel_rfl) (by kernel_rfl) (by kernel_rfl) (Nat.le_of_ble_eq_true (by kernel_rfl)) (fun _ _ _ h => h) HS (Or.inl ⟨by kernel_rfl, fun wx hx => ?_⟩) ?_
  · clear HS hx
    go_simp
  simp only [Act.put, List.setIfInBounds_toArray, List.set_cons_zero, List.set_cons_succ]
  refine till_keep (i := 15) (v := .bool true) rfl (by kernel_rfl) (by kernel_rfl) (by kernel_rfl) (Nat.le_of_ble_eq_true (by kernel_rfl)) (fun _ _ _ h => h) HS (Or.inl ⟨by kernel_rfl, fun wx hx => ?_⟩) ?_
  · clear HS hx
    go_simp
  simp only [Act.put, List.setIfInBounds_toArray, List.set_cons_zero, List.set_cons_succ]
  refine till_keep (i := 16) (v := .bool true) rfl (by kernel_rfl) (by kernel_rfl) (by kernel_rfl) (Nat.le_of_ble_eq_true (by kernel_rfl)) (fun _ _ _ h => h) HS (Or.inl ⟨by kernel_rfl, fun wx hx => ?_⟩) ?_
  · clear HS hx
    go_simp
  simp only [Act.put, List.setIfInBounds_toArray, List.set_cons_zero, List.set_cons_succ]
  clear HS
  refine till_step (i := 17) (by kernel_rfl) rfl (fun K hK => ?_)
  go_simp
  refine (works_calls _).mono ?_
  rintro e wq ⟨rfl, hbl⟩
  have HM' := Lib.hid (HM.out.on hbl)
  clear HM hbl
  have HM := HM'
  clear HM'
  have HS := HM.out.sub (rs' := [(w5.heap.size, n0, n1, n2, n3), (w4.heap.size, 0, 0, 0, 0), (w3.heap.size, 0, 0, 0, 0), (w2.heap.size, 0, 0, 0, 0), (w.heap.size + 1, b0, b1, b2, b3), (w.heap.size, a0, a1, a2, a3)]) (by simp)
  refine hK.out _ _ (Or.inr HS) (fun _ => ?_)
  clear hK K
  refine till_keep (i := 18) (v := .bool true) rfl (by kernel_rfl) (by kernel_rfl) (by kernel_rfl) (Nat.le_of_ble_eq_true (by kernel_rfl)) (fun _ _ _ h => h) HS (Or.inl ⟨by kernel_rfl, fun wx hx => ?_⟩) ?_
  · clear HS hx
    go_simp
  simp only [Act.put, List.setIfInBounds_toArray, List.set_cons_zero, List.set_cons_succ]
  have HS' := HS
  clear HS
  refine till_step (i := 19) (by kernel_rfl) rfl (fun K hK => ?_)
  go_simp
  refine hK.out _ _ (Or.inr HS') (fun _ => ?_)
  clear hK K HS'
  refine till_done (by kernel_rfl) ?_
  go_wp2_with fail
  go_ret
  exact ⟨rfl, HM.out.1⟩
theorem sums_calls (f : Int) (a0 a1 a2 a3 b0 b1 b2 b3 : Nat) (ha : ok4 a0 a1 a2 a3) (hb : ok4 b0 b1 b2 b3) (w : World) :
    Calls Try.prog 3 #[.int .i64 f, .agg #[.int .u64 a0, .int .u64 a1, .int .u64 a2, .int .u64 a3], .agg #[.int .u64 b0, .int .u64 b1, .int .u64 b2, .int .u64 b3]] w fun e w' => e = .returned (.bool true) ∧ Below w.heap.size w w' := by
  by_cases h0 : f = 1 ∨ f = 2
  · obtain ⟨F, hf⟩ : ∃ F, FieldIs f F := by rcases h0 with h1 | h1; exact ⟨FP, Or.inl ⟨h1, rfl⟩⟩; exact ⟨FR, Or.inr ⟨h1, rfl⟩⟩
    by_cases la : val4 a0 a1 a2 a3 < F.M
    · by_cases lb : val4 b0 b1 b2 b3 < F.M
      · exact sums_ok f a0 a1 a2 a3 b0 b1 b2 b3 ha hb F hf la lb w
      · exact sums_badb f a0 a1 a2 a3 b0 b1 b2 b3 ha hb F hf la lb w
    · exact sums_bada f a0 a1 a2 a3 b0 b1 b2 b3 ha hb F hf la w
  · exact sums_none f a0 a1 a2 a3 b0 b1 b2 b3 ha hb (fun q => h0 (Or.inl q)) (fun q => h0 (Or.inr q)) w
end Go.Proofs.Ytkklbhgneidbbaa
