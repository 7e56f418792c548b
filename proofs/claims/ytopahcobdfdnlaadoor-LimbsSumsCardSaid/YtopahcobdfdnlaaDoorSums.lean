/-
  THE STATEMENT LimbsSums: sums, differences, products and orders of any two numbers are the reference's: the law answers true. Conditions: the row's own.
-/
import Derived.Test.YtopahcobdfdnlaaDoorRefMul
import Derived.Test.YtopahcobdfdnlaaDoorRefCmp
import Derived.Test.YtopahcobdfdnlaaDoorRing
import Derived.Lib.AppendIntMem
import Derived.Test.YtopahcobdfdnlaaDoorRegion
namespace Go.Proofs.YtopahcobdfdnlaaDoor
set_option linter.unusedVariables false
set_option linter.unusedSimpArgs false
open Go.RowKit

theorem add_same {s0 s1 s2 s3 t0 t1 t2 t3 c d S : Nat} (hs : ok4 s0 s1 s2 s3) (ht : ok4 t0 t1 t2 t3) (hc : c ≤ 1) (hd : d ≤ 1) (e : val4 s0 s1 s2 s3 + 115792089237316195423570985008687907853269984665640564039457584007913129639936 * c = S) (f : val4 t0 t1 t2 t3 + 115792089237316195423570985008687907853269984665640564039457584007913129639936 * d = S) : val4 s0 s1 s2 s3 = val4 t0 t1 t2 t3 ∧ c = d := by
  have h1 := val4_lt hs; have h2 := val4_lt ht; omega
theorem sub_same {s0 s1 s2 s3 t0 t1 t2 t3 c d A B : Nat} (hs : ok4 s0 s1 s2 s3) (ht : ok4 t0 t1 t2 t3) (hc : c ≤ 1) (hd : d ≤ 1) (e : val4 s0 s1 s2 s3 + B = A + 115792089237316195423570985008687907853269984665640564039457584007913129639936 * c) (f : val4 t0 t1 t2 t3 + B = A + 115792089237316195423570985008687907853269984665640564039457584007913129639936 * d) : val4 s0 s1 s2 s3 = val4 t0 t1 t2 t3 ∧ c = d := by
  have h1 := val4_lt hs; have h2 := val4_lt ht; omega
theorem tab_on {w w' : World} (h : Lib.TabIs Tryd.prog w "internal/strconv.uint64pow10" .u64 Lib.pow10Tab) (hb : Below w.heap.size w w') : Lib.TabIs Tryd.prog w' "internal/strconv.uint64pow10" .u64 Lib.pow10Tab :=
  (Lib.tabBelow_of_tabIs h) _ hb

set_option maxRecDepth 100000 in
set_option maxHeartbeats 8000000 in
theorem sums_calls (a0 a1 a2 a3 b0 b1 b2 b3 : Nat) (ha : ok4 a0 a1 a2 a3) (hb : ok4 b0 b1 b2 b3) (w : World) (htab : Lib.TabIs Tryd.prog w "internal/strconv.uint64pow10" .u64 Lib.pow10Tab) :
    Calls Tryd.prog 3 #[.agg #[.int .u64 a0, .int .u64 a1, .int .u64 a2, .int .u64 a3], .agg #[.int .u64 b0, .int .u64 b1, .int .u64 b2, .int .u64 b3]] w fun e w' => e = .returned (.bool true) ∧ Below w.heap.size w w' := by
  have hG := eqGuardW
  have hS := equalSelf
  have HT := Lib.hid htab
  clear htab
  obtain ⟨n, r1, r2⟩ : ∃ n : Int, (∀ w, Calls Tryd.prog 15 #[.agg #[.int .u64 a0, .int .u64 a1, .int .u64 a2, .int .u64 a3], .agg #[.int .u64 b0, .int .u64 b1, .int .u64 b2, .int .u64 b3]] w fun e w' => e = .returned (.int .i64 n) ∧ Below w.heap.size w w') ∧ (∀ w, Calls Tryd.prog 16 #[.agg #[.int .u64 a0, .int .u64 a1, .int .u64 a2, .int .u64 a3], .agg #[.int .u64 b0, .int .u64 b1, .int .u64 b2, .int .u64 b3]] w fun e w' => e = .returned (.int .i64 n) ∧ Below w.heap.size w w') :=
    ⟨_, fun w => cmp_calls a0 a1 a2 a3 b0 b1 b2 b3 ha hb w, fun w => refCmp_calls a0 a1 a2 a3 b0 b1 b2 b3 ha hb w⟩
  go_enter Tryd.func3, Tryd.ntmps3
  go_wp2_with fail
  have M := Lib.hid (((Mem.nil w).new (w.heap.size) a0 a1 a2 a3 24 rfl).new (w.heap.size + 1) b0 b1 b2 b3 24 (by simp))
  refine (add_calls a0 a1 a2 a3 b0 b1 b2 b3 ha hb _).mono ?_
  rintro e w1 ⟨x0, x1, x2, x3, c, rfl, hx, hc, ex, hbl⟩
  have Hex := Lib.hid ex
  clear ex
  have M' := M.out.on hbl
  obtain ⟨lt_a, aA, aB, aC, aD, aF⟩ := M'.get (b := w.heap.size) (c0 := a0) (c1 := a1) (c2 := a2) (c3 := a3) (by simp)
  obtain ⟨lt_b, bA, bB, bC, bD, bF⟩ := M'.get (b := (w.heap.size + 1)) (c0 := b0) (c1 := b1) (c2 := b2) (c3 := b3) (by simp)
  have le_b : w.heap.size < w1.heap.size := by omega
  clear M hbl
  have M := Lib.hid (M'.new (w1.heap.size) x0 x1 x2 x3 24 (by simp))
  clear M'
  go_wp2_with fail
  refine (refAdd_calls a0 a1 a2 a3 b0 b1 b2 b3 ha hb _).mono ?_
  rintro e w2 ⟨y0, y1, y2, y3, d, rfl, hy, hd, ey, hbl⟩
  obtain ⟨exy, rfl⟩ := add_same hx hy hc hd Hex.out ey
  obtain ⟨rfl, rfl, rfl, rfl⟩ := val4_inj hx hy exy
  clear ey exy hy hd
  have M' := M.out.on hbl
  clear lt_a aA aB aC aD aF lt_b bA bB bC bD bF le_b
  obtain ⟨lt_a, aA, aB, aC, aD, aF⟩ := M'.get (b := w.heap.size) (c0 := a0) (c1 := a1) (c2 := a2) (c3 := a3) (by simp)
  obtain ⟨lt_b, bA, bB, bC, bD, bF⟩ := M'.get (b := (w.heap.size + 1)) (c0 := b0) (c1 := b1) (c2 := b2) (c3 := b3) (by simp)
  have le_b : w.heap.size < w2.heap.size := by omega
  clear M hbl
  have M := Lib.hid (M'.new (w2.heap.size) x0 x1 x2 x3 24 (by simp))
  clear M'
  go_wp2_with fail
  refine (sub_calls a0 a1 a2 a3 b0 b1 b2 b3 ha hb _).mono ?_
  rintro e w3 ⟨u0, u1, u2, u3, f, rfl, hu, hf, eu, hbl⟩
  have Heu := Lib.hid eu
  clear eu
  have M' := M.out.on hbl
  clear lt_a aA aB aC aD aF lt_b bA bB bC bD bF le_b
  obtain ⟨lt_a, aA, aB, aC, aD, aF⟩ := M'.get (b := w.heap.size) (c0 := a0) (c1 := a1) (c2 := a2) (c3 := a3) (by simp)
  obtain ⟨lt_b, bA, bB, bC, bD, bF⟩ := M'.get (b := (w.heap.size + 1)) (c0 := b0) (c1 := b1) (c2 := b2) (c3 := b3) (by simp)
  have le_b : w.heap.size < w3.heap.size := by omega
  clear M hbl
  have M := Lib.hid (M'.new (w3.heap.size) u0 u1 u2 u3 24 (by simp))
  clear M'
  go_wp2_with fail
  refine (refSub_calls a0 a1 a2 a3 b0 b1 b2 b3 ha hb _).mono ?_
  rintro e w4 ⟨v0, v1, v2, v3, g, rfl, hv, hg, ev, hbl⟩
  obtain ⟨euv, rfl⟩ := sub_same hu hv hf hg Heu.out ev
  obtain ⟨rfl, rfl, rfl, rfl⟩ := val4_inj hu hv euv
  clear ev euv hv hg
  have M' := M.out.on hbl
  clear lt_a aA aB aC aD aF lt_b bA bB bC bD bF le_b
  obtain ⟨lt_a, aA, aB, aC, aD, aF⟩ := M'.get (b := w.heap.size) (c0 := a0) (c1 := a1) (c2 := a2) (c3 := a3) (by simp)
  obtain ⟨lt_b, bA, bB, bC, bD, bF⟩ := M'.get (b := (w.heap.size + 1)) (c0 := b0) (c1 := b1) (c2 := b2) (c3 := b3) (by simp)
  have le_b : w.heap.size < w4.heap.size := by omega
  clear M hbl
  have M := Lib.hid (M'.new (w4.heap.size) u0 u1 u2 u3 24 (by simp))
  clear M'
  go_wp2_with fail
  refine (mul_calls a0 a1 a2 a3 b0 b1 b2 b3 ha hb _).mono ?_
  rintro e w5 ⟨h0, h1, h2, h3, l0, l1, l2, l3, rfl, hh, hl, eh, hbl⟩
  have Heh := Lib.hid eh
  clear eh
  have M' := M.out.on hbl
  clear lt_a aA aB aC aD aF lt_b bA bB bC bD bF le_b
  obtain ⟨lt_a, aA, aB, aC, aD, aF⟩ := M'.get (b := w.heap.size) (c0 := a0) (c1 := a1) (c2 := a2) (c3 := a3) (by simp)
  obtain ⟨lt_b, bA, bB, bC, bD, bF⟩ := M'.get (b := (w.heap.size + 1)) (c0 := b0) (c1 := b1) (c2 := b2) (c3 := b3) (by simp)
  have le_b : w.heap.size < w5.heap.size := by omega
  clear M hbl
  have M := Lib.hid ((M'.new (w5.heap.size) h0 h1 h2 h3 24 (by simp)).new (w5.heap.size + 1) l0 l1 l2 l3 24 (by simp))
  clear M'
  go_wp2_with fail
  refine (refMul_calls a0 a1 a2 a3 b0 b1 b2 b3 ha hb _).mono ?_
  rintro e w6 ⟨i0, i1, i2, i3, m0, m1, m2, m3, rfl, hi, hm, ei, hbl⟩
  obtain ⟨ehi, elm⟩ := two_same (val4_lt hl) (val4_lt hm) Heh.out ei
  obtain ⟨rfl, rfl, rfl, rfl⟩ := val4_inj hh hi ehi
  obtain ⟨rfl, rfl, rfl, rfl⟩ := val4_inj hl hm elm
  clear ei ehi elm hi hm
  have M' := M.out.on hbl
  clear lt_a aA aB aC aD aF lt_b bA bB bC bD bF le_b
  obtain ⟨lt_a, aA, aB, aC, aD, aF⟩ := M'.get (b := w.heap.size) (c0 := a0) (c1 := a1) (c2 := a2) (c3 := a3) (by simp)
  obtain ⟨lt_b, bA, bB, bC, bD, bF⟩ := M'.get (b := (w.heap.size + 1)) (c0 := b0) (c1 := b1) (c2 := b2) (c3 := b3) (by simp)
  have le_b : w.heap.size < w6.heap.size := by omega
  clear M hbl
  have M := Lib.hid ((M'.new (w6.heap.size) h0 h1 h2 h3 24 (by simp)).new (w6.heap.size + 1) l0 l1 l2 l3 24 (by simp))
  clear M'
  go_wp2_with fail
  clear lt_a aA aB aC aD aF lt_b bA bB bC bD bF le_b
  refine region_till (fun wx => Mem w wx [((w6.heap.size + 1), l0, l1, l2, l3), (w6.heap.size, h0, h1, h2, h3), ((w5.heap.size + 1), l0, l1, l2, l3), (w5.heap.size, h0, h1, h2, h3), (w4.heap.size, u0, u1, u2, u3), (w3.heap.size, u0, u1, u2, u3), (w2.heap.size, x0, x1, x2, x3), (w1.heap.size, x0, x1, x2, x3), ((w.heap.size + 1), b0, b1, b2, b3), (w.heap.size, a0, a1, a2, a3)]) 40 (by kernel_rfl) ?_
  have HS := M.out.drewN 1
  clear M
  have HM := Lib.hid HS
  refine till_take (i := 0) (v := .agg #[.int .u64 x0, .int .u64 x1, .int .u64 x2, .int .u64 x3]) rfl (by kernel_rfl) (by kernel_rfl) (by kernel_rfl) (by kernel_rfl) (fun _ _ _ h => h) HS (Or.inl ⟨by kernel_rfl, fun wx hx => ?_⟩) ?_
  · have kr := (hx.2 (w1.heap.size, x0, x1, x2, x3) (List.Mem.tail _ (List.Mem.tail _ (List.Mem.tail _ (List.Mem.tail _ (List.Mem.tail _ (List.Mem.tail _ (List.Mem.tail _ (List.Mem.head _))))))))).2
    have k0 := kr.c0; have k1 := kr.c1; have k2 := kr.c2; have k3 := kr.c3; have kf := kr.fr
    clear kr
    clear HS hx
    go_simp
  simp only [Act.put, List.setIfInBounds_toArray, List.set_cons_zero, List.set_cons_succ]
  refine till_take (i := 1) (v := .agg #[.int .u64 x0, .int .u64 x1, .int .u64 x2, .int .u64 x3]) rfl (by kernel_rfl) (by kernel_rfl) (by kernel_rfl) (by kernel_rfl) (fun _ _ _ h => h) HS (Or.inl ⟨by kernel_rfl, fun wx hx => ?_⟩) ?_
  · have kr := (hx.2 (w2.heap.size, x0, x1, x2, x3) (List.Mem.tail _ (List.Mem.tail _ (List.Mem.tail _ (List.Mem.tail _ (List.Mem.tail _ (List.Mem.tail _ (List.Mem.head _)))))))).2
    have k0 := kr.c0; have k1 := kr.c1; have k2 := kr.c2; have k3 := kr.c3; have kf := kr.fr
    clear kr
    clear HS hx
    go_simp
  simp only [Act.put, List.setIfInBounds_toArray, List.set_cons_zero, List.set_cons_succ]
  refine till_take (i := 2) (v := .bool true) rfl (by kernel_rfl) (by kernel_rfl) (by kernel_rfl) (by kernel_rfl) (fun _ _ _ h => h) HS (Or.inl ⟨by kernel_rfl, fun wx hx => ?_⟩) ?_
  · clear hx HS
    go_simp
  simp only [Act.put, List.setIfInBounds_toArray, List.set_cons_zero, List.set_cons_succ]
  refine till_take (i := 3) (v := .bool true) rfl (by kernel_rfl) (by kernel_rfl) (by kernel_rfl) (by kernel_rfl) (fun _ _ _ h => h) HS (Or.inl ⟨by kernel_rfl, fun wx hx => ?_⟩) ?_
  · clear hx HS
    go_simp
  simp only [Act.put, List.setIfInBounds_toArray, List.set_cons_zero, List.set_cons_succ]
  refine till_take (i := 4) (v := .int .u64 c) rfl (by kernel_rfl) (by kernel_rfl) (by kernel_rfl) (by kernel_rfl) (fun _ _ _ h => h) HS (Or.inl ⟨by kernel_rfl, fun wx hx => ?_⟩) ?_
  · clear hx HS
    go_simp
  simp only [Act.put, List.setIfInBounds_toArray, List.set_cons_zero, List.set_cons_succ]
  refine till_take (i := 5) (v := .int .u64 c) rfl (by kernel_rfl) (by kernel_rfl) (by kernel_rfl) (by kernel_rfl) (fun _ _ _ h => h) HS (Or.inl ⟨by kernel_rfl, fun wx hx => ?_⟩) ?_
  · clear hx HS
    go_simp
  simp only [Act.put, List.setIfInBounds_toArray, List.set_cons_zero, List.set_cons_succ]
  refine till_take (i := 6) (v := .bool true) rfl (by kernel_rfl) (by kernel_rfl) (by kernel_rfl) (by kernel_rfl) (fun _ _ _ h => h) HS (Or.inl ⟨by kernel_rfl, fun wx hx => ?_⟩) ?_
  · clear hx HS
    go_simp
  simp only [Act.put, List.setIfInBounds_toArray, List.set_cons_zero, List.set_cons_succ]
  refine till_take (i := 7) (v := .bool true) rfl (by kernel_rfl) (by kernel_rfl) (by kernel_rfl) (by kernel_rfl) (fun _ _ _ h => h) HS (Or.inl ⟨by kernel_rfl, fun wx hx => ?_⟩) ?_
  · clear hx HS
    go_simp
  simp only [Act.put, List.setIfInBounds_toArray, List.set_cons_zero, List.set_cons_succ]
  refine till_take (i := 8) (v := .bool true) rfl (by kernel_rfl) (by kernel_rfl) (by kernel_rfl) (by kernel_rfl) (fun _ _ _ h => h) HS (Or.inl ⟨by kernel_rfl, fun wx hx => ?_⟩) ?_
  · clear hx HS
    go_simp
  simp only [Act.put, List.setIfInBounds_toArray, List.set_cons_zero, List.set_cons_succ]
  refine till_take (i := 9) (v := .agg #[.int .u64 u0, .int .u64 u1, .int .u64 u2, .int .u64 u3]) rfl (by kernel_rfl) (by kernel_rfl) (by kernel_rfl) (by kernel_rfl) (fun _ _ _ h => h) HS (Or.inl ⟨by kernel_rfl, fun wx hx => ?_⟩) ?_
  · have kr := (hx.2 (w3.heap.size, u0, u1, u2, u3) (List.Mem.tail _ (List.Mem.tail _ (List.Mem.tail _ (List.Mem.tail _ (List.Mem.tail _ (List.Mem.head _))))))).2
    have k0 := kr.c0; have k1 := kr.c1; have k2 := kr.c2; have k3 := kr.c3; have kf := kr.fr
    clear kr
    clear HS hx
    go_simp
  simp only [Act.put, List.setIfInBounds_toArray, List.set_cons_zero, List.set_cons_succ]
  refine till_take (i := 10) (v := .agg #[.int .u64 u0, .int .u64 u1, .int .u64 u2, .int .u64 u3]) rfl (by kernel_rfl) (by kernel_rfl) (by kernel_rfl) (by kernel_rfl) (fun _ _ _ h => h) HS (Or.inl ⟨by kernel_rfl, fun wx hx => ?_⟩) ?_
  · have kr := (hx.2 (w4.heap.size, u0, u1, u2, u3) (List.Mem.tail _ (List.Mem.tail _ (List.Mem.tail _ (List.Mem.tail _ (List.Mem.head _)))))).2
    have k0 := kr.c0; have k1 := kr.c1; have k2 := kr.c2; have k3 := kr.c3; have kf := kr.fr
    clear kr
    clear HS hx
    go_simp
  simp only [Act.put, List.setIfInBounds_toArray, List.set_cons_zero, List.set_cons_succ]
  refine till_take (i := 11) (v := .bool true) rfl (by kernel_rfl) (by kernel_rfl) (by kernel_rfl) (by kernel_rfl) (fun _ _ _ h => h) HS (Or.inl ⟨by kernel_rfl, fun wx hx => ?_⟩) ?_
  · clear hx HS
    go_simp
  simp only [Act.put, List.setIfInBounds_toArray, List.set_cons_zero, List.set_cons_succ]
  refine till_take (i := 12) (v := .bool true) rfl (by kernel_rfl) (by kernel_rfl) (by kernel_rfl) (by kernel_rfl) (fun _ _ _ h => h) HS (Or.inl ⟨by kernel_rfl, fun wx hx => ?_⟩) ?_
  · clear hx HS
    go_simp
  simp only [Act.put, List.setIfInBounds_toArray, List.set_cons_zero, List.set_cons_succ]
  refine till_take (i := 13) (v := .bool true) rfl (by kernel_rfl) (by kernel_rfl) (by kernel_rfl) (by kernel_rfl) (fun _ _ _ h => h) HS (Or.inl ⟨by kernel_rfl, fun wx hx => ?_⟩) ?_
  · clear hx HS
    go_simp
  simp only [Act.put, List.setIfInBounds_toArray, List.set_cons_zero, List.set_cons_succ]
  refine till_take (i := 14) (v := .int .u64 f) rfl (by kernel_rfl) (by kernel_rfl) (by kernel_rfl) (by kernel_rfl) (fun _ _ _ h => h) HS (Or.inl ⟨by kernel_rfl, fun wx hx => ?_⟩) ?_
  · clear hx HS
    go_simp
  simp only [Act.put, List.setIfInBounds_toArray, List.set_cons_zero, List.set_cons_succ]
  refine till_take (i := 15) (v := .int .u64 f) rfl (by kernel_rfl) (by kernel_rfl) (by kernel_rfl) (by kernel_rfl) (fun _ _ _ h => h) HS (Or.inl ⟨by kernel_rfl, fun wx hx => ?_⟩) ?_
  · clear hx HS
    go_simp
  simp only [Act.put, List.setIfInBounds_toArray, List.set_cons_zero, List.set_cons_succ]
  refine till_take (i := 16) (v := .bool true) rfl (by kernel_rfl) (by kernel_rfl) (by kernel_rfl) (by kernel_rfl) (fun _ _ _ h => h) HS (Or.inl ⟨by kernel_rfl, fun wx hx => ?_⟩) ?_
  · clear hx HS
    go_simp
  simp only [Act.put, List.setIfInBounds_toArray, List.set_cons_zero, List.set_cons_succ]
  refine till_take (i := 17) (v := .bool true) rfl (by kernel_rfl) (by kernel_rfl) (by kernel_rfl) (by kernel_rfl) (fun _ _ _ h => h) HS (Or.inl ⟨by kernel_rfl, fun wx hx => ?_⟩) ?_
  · clear hx HS
    go_simp
  simp only [Act.put, List.setIfInBounds_toArray, List.set_cons_zero, List.set_cons_succ]
  refine till_take (i := 18) (v := .bool true) rfl (by kernel_rfl) (by kernel_rfl) (by kernel_rfl) (by kernel_rfl) (fun _ _ _ h => h) HS (Or.inl ⟨by kernel_rfl, fun wx hx => ?_⟩) ?_
  · clear hx HS
    go_simp
  simp only [Act.put, List.setIfInBounds_toArray, List.set_cons_zero, List.set_cons_succ]
  refine till_take (i := 19) (v := .agg #[.int .u64 h0, .int .u64 h1, .int .u64 h2, .int .u64 h3]) rfl (by kernel_rfl) (by kernel_rfl) (by kernel_rfl) (by kernel_rfl) (fun _ _ _ h => h) HS (Or.inl ⟨by kernel_rfl, fun wx hx => ?_⟩) ?_
  · have kr := (hx.2 (w5.heap.size, h0, h1, h2, h3) (List.Mem.tail _ (List.Mem.tail _ (List.Mem.tail _ (List.Mem.head _))))).2
    have k0 := kr.c0; have k1 := kr.c1; have k2 := kr.c2; have k3 := kr.c3; have kf := kr.fr
    clear kr
    clear HS hx
    go_simp
  simp only [Act.put, List.setIfInBounds_toArray, List.set_cons_zero, List.set_cons_succ]
  refine till_take (i := 20) (v := .agg #[.int .u64 h0, .int .u64 h1, .int .u64 h2, .int .u64 h3]) rfl (by kernel_rfl) (by kernel_rfl) (by kernel_rfl) (by kernel_rfl) (fun _ _ _ h => h) HS (Or.inl ⟨by kernel_rfl, fun wx hx => ?_⟩) ?_
  · have kr := (hx.2 (w6.heap.size, h0, h1, h2, h3) (List.Mem.tail _ (List.Mem.head _))).2
    have k0 := kr.c0; have k1 := kr.c1; have k2 := kr.c2; have k3 := kr.c3; have kf := kr.fr
    clear kr
    clear HS hx
    go_simp
  simp only [Act.put, List.setIfInBounds_toArray, List.set_cons_zero, List.set_cons_succ]
  refine till_take (i := 21) (v := .bool true) rfl (by kernel_rfl) (by kernel_rfl) (by kernel_rfl) (by kernel_rfl) (fun _ _ _ h => h) HS (Or.inl ⟨by kernel_rfl, fun wx hx => ?_⟩) ?_
  · clear hx HS
    go_simp
  simp only [Act.put, List.setIfInBounds_toArray, List.set_cons_zero, List.set_cons_succ]
  refine till_take (i := 22) (v := .bool true) rfl (by kernel_rfl) (by kernel_rfl) (by kernel_rfl) (by kernel_rfl) (fun _ _ _ h => h) HS (Or.inl ⟨by kernel_rfl, fun wx hx => ?_⟩) ?_
  · clear hx HS
    go_simp
  simp only [Act.put, List.setIfInBounds_toArray, List.set_cons_zero, List.set_cons_succ]
  refine till_take (i := 23) (v := .bool true) rfl (by kernel_rfl) (by kernel_rfl) (by kernel_rfl) (by kernel_rfl) (fun _ _ _ h => h) HS (Or.inl ⟨by kernel_rfl, fun wx hx => ?_⟩) ?_
  · clear hx HS
    go_simp
  simp only [Act.put, List.setIfInBounds_toArray, List.set_cons_zero, List.set_cons_succ]
  refine till_take (i := 24) (v := .agg #[.int .u64 l0, .int .u64 l1, .int .u64 l2, .int .u64 l3]) rfl (by kernel_rfl) (by kernel_rfl) (by kernel_rfl) (by kernel_rfl) (fun _ _ _ h => h) HS (Or.inl ⟨by kernel_rfl, fun wx hx => ?_⟩) ?_
  · have kr := (hx.2 ((w5.heap.size + 1), l0, l1, l2, l3) (List.Mem.tail _ (List.Mem.tail _ (List.Mem.head _)))).2
    have k0 := kr.c0; have k1 := kr.c1; have k2 := kr.c2; have k3 := kr.c3; have kf := kr.fr
    clear kr
    clear HS hx
    go_simp
  simp only [Act.put, List.setIfInBounds_toArray, List.set_cons_zero, List.set_cons_succ]
  refine till_take (i := 25) (v := .agg #[.int .u64 l0, .int .u64 l1, .int .u64 l2, .int .u64 l3]) rfl (by kernel_rfl) (by kernel_rfl) (by kernel_rfl) (by kernel_rfl) (fun _ _ _ h => h) HS (Or.inl ⟨by kernel_rfl, fun wx hx => ?_⟩) ?_
  · have kr := (hx.2 ((w6.heap.size + 1), l0, l1, l2, l3) (List.Mem.head _)).2
    have k0 := kr.c0; have k1 := kr.c1; have k2 := kr.c2; have k3 := kr.c3; have kf := kr.fr
    clear kr
    clear HS hx
    go_simp
  simp only [Act.put, List.setIfInBounds_toArray, List.set_cons_zero, List.set_cons_succ]
  refine till_take (i := 26) (v := .bool true) rfl (by kernel_rfl) (by kernel_rfl) (by kernel_rfl) (by kernel_rfl) (fun _ _ _ h => h) HS (Or.inl ⟨by kernel_rfl, fun wx hx => ?_⟩) ?_
  · clear hx HS
    go_simp
  simp only [Act.put, List.setIfInBounds_toArray, List.set_cons_zero, List.set_cons_succ]
  refine till_take (i := 27) (v := .bool true) rfl (by kernel_rfl) (by kernel_rfl) (by kernel_rfl) (by kernel_rfl) (fun _ _ _ h => h) HS (Or.inl ⟨by kernel_rfl, fun wx hx => ?_⟩) ?_
  · clear hx HS
    go_simp
  simp only [Act.put, List.setIfInBounds_toArray, List.set_cons_zero, List.set_cons_succ]
  refine till_take (i := 28) (v := .bool true) rfl (by kernel_rfl) (by kernel_rfl) (by kernel_rfl) (by kernel_rfl) (fun _ _ _ h => h) HS (Or.inl ⟨by kernel_rfl, fun wx hx => ?_⟩) ?_
  · clear hx HS
    go_simp
  simp only [Act.put, List.setIfInBounds_toArray, List.set_cons_zero, List.set_cons_succ]
  refine till_take (i := 29) (v := .agg #[.int .u64 a0, .int .u64 a1, .int .u64 a2, .int .u64 a3]) rfl (by kernel_rfl) (by kernel_rfl) (by kernel_rfl) (by kernel_rfl) (fun _ _ _ h => h) HS (Or.inl ⟨by kernel_rfl, fun wx hx => ?_⟩) ?_
  · have kr := (hx.2 (w.heap.size, a0, a1, a2, a3) (List.Mem.tail _ (List.Mem.tail _ (List.Mem.tail _ (List.Mem.tail _ (List.Mem.tail _ (List.Mem.tail _ (List.Mem.tail _ (List.Mem.tail _ (List.Mem.tail _ (List.Mem.head _))))))))))).2
    have k0 := kr.c0; have k1 := kr.c1; have k2 := kr.c2; have k3 := kr.c3; have kf := kr.fr
    clear kr
    clear HS hx
    go_simp
  simp only [Act.put, List.setIfInBounds_toArray, List.set_cons_zero, List.set_cons_succ]
  refine till_take (i := 30) (v := .agg #[.int .u64 b0, .int .u64 b1, .int .u64 b2, .int .u64 b3]) rfl (by kernel_rfl) (by kernel_rfl) (by kernel_rfl) (by kernel_rfl) (fun _ _ _ h => h) HS (Or.inl ⟨by kernel_rfl, fun wx hx => ?_⟩) ?_
  · have kr := (hx.2 ((w.heap.size + 1), b0, b1, b2, b3) (List.Mem.tail _ (List.Mem.tail _ (List.Mem.tail _ (List.Mem.tail _ (List.Mem.tail _ (List.Mem.tail _ (List.Mem.tail _ (List.Mem.tail _ (List.Mem.head _)))))))))).2
    have k0 := kr.c0; have k1 := kr.c1; have k2 := kr.c2; have k3 := kr.c3; have kf := kr.fr
    clear kr
    clear HS hx
    go_simp
  simp only [Act.put, List.setIfInBounds_toArray, List.set_cons_zero, List.set_cons_succ]
  refine till_take (i := 32) (v := .agg #[.int .u64 a0, .int .u64 a1, .int .u64 a2, .int .u64 a3]) rfl (by kernel_rfl) (by kernel_rfl) (by kernel_rfl) (by kernel_rfl) (fun _ _ _ h => h) HS (Or.inl ⟨by kernel_rfl, fun wx hx => ?_⟩) ?_
  · have kr := (hx.2 (w.heap.size, a0, a1, a2, a3) (List.Mem.tail _ (List.Mem.tail _ (List.Mem.tail _ (List.Mem.tail _ (List.Mem.tail _ (List.Mem.tail _ (List.Mem.tail _ (List.Mem.tail _ (List.Mem.tail _ (List.Mem.head _))))))))))).2
    have k0 := kr.c0; have k1 := kr.c1; have k2 := kr.c2; have k3 := kr.c3; have kf := kr.fr
    clear kr
    clear HS hx
    go_simp
  simp only [Act.put, List.setIfInBounds_toArray, List.set_cons_zero, List.set_cons_succ]
  refine till_take (i := 33) (v := .agg #[.int .u64 b0, .int .u64 b1, .int .u64 b2, .int .u64 b3]) rfl (by kernel_rfl) (by kernel_rfl) (by kernel_rfl) (by kernel_rfl) (fun _ _ _ h => h) HS (Or.inl ⟨by kernel_rfl, fun wx hx => ?_⟩) ?_
  · have kr := (hx.2 ((w.heap.size + 1), b0, b1, b2, b3) (List.Mem.tail _ (List.Mem.tail _ (List.Mem.tail _ (List.Mem.tail _ (List.Mem.tail _ (List.Mem.tail _ (List.Mem.tail _ (List.Mem.tail _ (List.Mem.head _)))))))))).2
    have k0 := kr.c0; have k1 := kr.c1; have k2 := kr.c2; have k3 := kr.c3; have kf := kr.fr
    clear kr
    clear HS hx
    go_simp
  simp only [Act.put, List.setIfInBounds_toArray, List.set_cons_zero, List.set_cons_succ]
  clear HS
  refine till_step (i := 31) (by kernel_rfl) rfl (fun K hK => ?_)
  go_simp
  refine (r1 _).mono ?_
  rintro e w7 ⟨rfl, hbl⟩
  have HS := HM.out.on hbl
  clear HM hbl
  have HM := Lib.hid HS
  refine hK.out _ _ (Or.inr HS) (fun _ => ?_)
  clear hK K
  clear HS
  refine till_step (i := 34) (by kernel_rfl) rfl (fun K hK => ?_)
  go_simp
  refine (r2 _).mono ?_
  rintro e w8 ⟨rfl, hbl⟩
  have HS := HM.out.on hbl
  clear HM hbl
  have HM := Lib.hid HS
  refine hK.out _ _ (Or.inr HS) (fun _ => ?_)
  clear hK K
  refine till_take (i := 35) (v := .bool true) rfl (by kernel_rfl) (by kernel_rfl) (by kernel_rfl) (by kernel_rfl) (fun _ _ _ h => h) HS (Or.inl ⟨by kernel_rfl, fun wx hx => ?_⟩) ?_
  · clear hx HS
    go_simp
  simp only [Act.put, List.setIfInBounds_toArray, List.set_cons_zero, List.set_cons_succ]
  refine till_take (i := 36) (v := .bool true) rfl (by kernel_rfl) (by kernel_rfl) (by kernel_rfl) (by kernel_rfl) (fun _ _ _ h => h) HS (Or.inl ⟨by kernel_rfl, fun wx hx => ?_⟩) ?_
  · clear hx HS
    go_simp
  simp only [Act.put, List.setIfInBounds_toArray, List.set_cons_zero, List.set_cons_succ]
  refine till_take (i := 37) (v := .bool true) rfl (by kernel_rfl) (by kernel_rfl) (by kernel_rfl) (by kernel_rfl) (fun _ _ _ h => h) HS (Or.inl ⟨by kernel_rfl, fun wx hx => ?_⟩) ?_
  · clear hx HS
    go_simp
  simp only [Act.put, List.setIfInBounds_toArray, List.set_cons_zero, List.set_cons_succ]
  clear HS
  refine till_step (i := 38) (by kernel_rfl) rfl (fun K hK => ?_)
  go_simp
  refine (alive_calls _ (tab_below HT.out HM.out.1 (Nat.le_refl _))).mono ?_
  rintro e w9 ⟨rfl, hbl⟩
  have HS := HM.out.on hbl
  clear HM hbl
  have HM := Lib.hid HS
  refine hK.out _ _ (Or.inr HS) (fun _ => ?_)
  clear hK K
  refine till_take (i := 39) (v := .bool true) rfl (by kernel_rfl) (by kernel_rfl) (by kernel_rfl) (by kernel_rfl) (fun _ _ _ h => h) HS (Or.inl ⟨by kernel_rfl, fun wx hx => ?_⟩) ?_
  · clear hx HS
    go_simp
  simp only [Act.put, List.setIfInBounds_toArray, List.set_cons_zero, List.set_cons_succ]
  clear HS
  refine till_step (i := 40) (by kernel_rfl) rfl (fun K hK => ?_)
  go_simp
  refine hK.out _ _ (Or.inl rfl) (fun _ => ?_)
  clear hK K
  refine till_done (by kernel_rfl) ?_
  go_wp2_with fail
  go_ret
  exact ⟨rfl, HM.out.1⟩
end Go.Proofs.YtopahcobdfdnlaaDoor
