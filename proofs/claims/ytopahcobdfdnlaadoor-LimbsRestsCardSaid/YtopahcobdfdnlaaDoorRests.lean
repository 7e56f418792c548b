/-
  THE STATEMENT LimbsRests: quotients and rests of any numbers are the reference's: the law answers true. Conditions: the row's own.
-/
import Derived.Test.YtopahcobdfdnlaaDoorRefMod
import Derived.Test.YtopahcobdfdnlaaDoorAlive
import Derived.Test.YtopahcobdfdnlaaDoorRing
import Derived.Test.YtopahcobdfdnlaaDoorRegion
namespace Go.Proofs.YtopahcobdfdnlaaDoor
set_option linter.unusedVariables false
set_option linter.unusedSimpArgs false
open Go.RowKit

theorem num_below (n : Int) (w : World) : Calls Tryd.prog 30 #[.int .i64 n] w fun e w' => e = .returned (.int .i64 n) ∧ Below w.heap.size w w' :=
  (num_calls n w).mono fun e w' ⟨he, hw⟩ => ⟨he, hw ▸ Below.refl _ _⟩
theorem div_same {y A q r c s t f : Nat} (h : y = 0 ∧ q = 0 ∧ r = 0 ∧ c = 22 ∨ 0 < y ∧ q = A / y ∧ r = A % y ∧ c = 0) (k : y = 0 ∧ s = 0 ∧ t = 0 ∧ f = 22 ∨ 0 < y ∧ s = A / y ∧ t = A % y ∧ f = 0) : s = q ∧ t = r ∧ f = c := by
  rcases h with ⟨h0, h1, h2, h3⟩ | ⟨h0, h1, h2, h3⟩ <;> rcases k with ⟨k0, k1, k2, k3⟩ | ⟨k0, k1, k2, k3⟩
  · exact ⟨k1.trans h1.symm, k2.trans h2.symm, k3.trans h3.symm⟩
  · omega
  · omega
  · exact ⟨k1.trans h1.symm, k2.trans h2.symm, k3.trans h3.symm⟩
theorem mod_same {m V x c z f : Nat} (h : m = 0 ∧ x = 0 ∧ c = 22 ∨ 0 < m ∧ x = V % m ∧ c = 0) (k : m = 0 ∧ z = 0 ∧ f = 22 ∨ 0 < m ∧ z = V % m ∧ f = 0) : z = x ∧ f = c := by
  rcases h with ⟨h0, h1, h2⟩ | ⟨h0, h1, h2⟩ <;> rcases k with ⟨k0, k1, k2⟩ | ⟨k0, k1, k2⟩
  · exact ⟨k1.trans h1.symm, k2.trans h2.symm⟩
  · omega
  · omega
  · exact ⟨k1.trans h1.symm, k2.trans h2.symm⟩

set_option maxRecDepth 100000 in
set_option maxHeartbeats 8000000 in
theorem rests_calls (a0 a1 a2 a3 y b0 b1 b2 b3 m0 m1 m2 m3 : Nat) (ha : ok4 a0 a1 a2 a3) (hy : y < 18446744073709551616) (hb : ok4 b0 b1 b2 b3) (hm : ok4 m0 m1 m2 m3) (w : World) (htab : Lib.TabIs Tryd.prog w "internal/strconv.uint64pow10" .u64 Lib.pow10Tab) :
    Calls Tryd.prog 5 #[.agg #[.int .u64 a0, .int .u64 a1, .int .u64 a2, .int .u64 a3], .int .u64 y, .agg #[.int .u64 b0, .int .u64 b1, .int .u64 b2, .int .u64 b3], .agg #[.int .u64 m0, .int .u64 m1, .int .u64 m2, .int .u64 m3]] w fun e w' => e = .returned (.bool true) ∧ Below w.heap.size w w' := by
  have hG := eqGuardW
  have hS := equalSelf
  have HT := Lib.hid htab
  clear htab
  go_enter Tryd.func5, Tryd.ntmps5
  go_wp2_with fail
  have M := Lib.hid ((((Mem.nil w).new (w.heap.size) a0 a1 a2 a3 24 rfl).new (w.heap.size + 1) b0 b1 b2 b3 24 (by simp)).new (w.heap.size + 2) m0 m1 m2 m3 24 (by simp))
  refine (divL_calls a0 a1 a2 a3 y ha hy _).mono ?_
  rintro e w1 ⟨q0, q1, q2, q3, r, c, rfl, hq, hv, hbl⟩
  have Hv := Lib.hid hv
  clear hv
  have M' := M.out.on hbl
  clear M hbl
  have M := Lib.hid (M'.new (w1.heap.size) q0 q1 q2 q3 24 rfl)
  have ga := M'.2 (w.heap.size, a0, a1, a2, a3) (by simp)
  obtain ⟨lt_a, p0, p1, p2, p3, pf⟩ := ga
  clear M'
  go_wp2_with fail
  refine (refDiv_calls a0 a1 a2 a3 y ha hy _).mono ?_
  rintro e w2 ⟨s0, s1, s2, s3, t, f, rfl, hs, hv, hbl⟩
  obtain ⟨e1, rfl, rfl⟩ := div_same Hv.out hv
  obtain ⟨rfl, rfl, rfl, rfl⟩ := val4_inj hs hq e1
  clear Hv hv e1 hs p0 p1 p2 p3 pf lt_a
  have M' := M.out.on hbl
  clear M hbl
  have ga := M'.2 (w.heap.size, a0, a1, a2, a3) (by simp)
  have gb := M'.2 (w.heap.size + 1, b0, b1, b2, b3) (by simp)
  have gm := M'.2 (w.heap.size + 2, m0, m1, m2, m3) (by simp)
  have M := Lib.hid (M'.new (w2.heap.size) s0 s1 s2 s3 24 rfl)
  clear M'
  obtain ⟨lt_a, p0, p1, p2, p3, pf⟩ := ga
  obtain ⟨lt_b, z0, z1, z2, z3, zf⟩ := gb
  obtain ⟨lt_m, v0, v1, v2, v3, vf⟩ := gm
  go_wp2_with fail
  refine (mod_calls b0 b1 b2 b3 a0 a1 a2 a3 m0 m1 m2 m3 hb ha hm _).mono ?_
  rintro e w3 ⟨x0, x1, x2, x3, g, rfl, hx, hv, hbl⟩
  have Hv := Lib.hid hv
  clear hv p0 p1 p2 p3 pf lt_a z0 z1 z2 z3 zf lt_b v0 v1 v2 v3 vf lt_m
  have M' := M.out.on hbl
  clear M hbl
  have ga := M'.2 (w.heap.size, a0, a1, a2, a3) (by simp)
  have gb := M'.2 (w.heap.size + 1, b0, b1, b2, b3) (by simp)
  have gm := M'.2 (w.heap.size + 2, m0, m1, m2, m3) (by simp)
  have M := Lib.hid (M'.new (w3.heap.size) x0 x1 x2 x3 24 rfl)
  clear M'
  obtain ⟨lt_a, p0, p1, p2, p3, pf⟩ := ga
  obtain ⟨lt_b, z0, z1, z2, z3, zf⟩ := gb
  obtain ⟨lt_m, v0, v1, v2, v3, vf⟩ := gm
  go_wp2_with fail
  refine (refMod_calls b0 b1 b2 b3 a0 a1 a2 a3 m0 m1 m2 m3 hb ha hm _).mono ?_
  rintro e w4 ⟨n0, n1, n2, n3, h, rfl, hn, hv, hbl⟩
  obtain ⟨e1, rfl⟩ := mod_same Hv.out hv
  obtain ⟨rfl, rfl, rfl, rfl⟩ := val4_inj hn hx e1
  clear hv e1 Hv hn p0 p1 p2 p3 pf lt_a z0 z1 z2 z3 zf lt_b v0 v1 v2 v3 vf lt_m
  have M' := M.out.on hbl
  clear M hbl
  have g1 := (M'.2 (w1.heap.size, s0, s1, s2, s3) (by simp)).2
  have g2 := (M'.2 (w2.heap.size, s0, s1, s2, s3) (by simp)).2
  have g3 := (M'.2 (w3.heap.size, n0, n1, n2, n3) (by simp)).2
  have l1 := (M'.2 (w1.heap.size, s0, s1, s2, s3) (by simp)).1
  have l2 := (M'.2 (w2.heap.size, s0, s1, s2, s3) (by simp)).1
  have l3 := (M'.2 (w3.heap.size, n0, n1, n2, n3) (by simp)).1
  have M := Lib.hid (M'.new (w4.heap.size) n0 n1 n2 n3 24 rfl)
  clear M'
  have p0 := g1.c0; have p1 := g1.c1; have p2 := g1.c2; have p3 := g1.c3
  have u0 := g2.c0; have u1 := g2.c1; have u2 := g2.c2; have u3 := g2.c3
  have v0 := g3.c0; have v1 := g3.c1; have v2 := g3.c2; have v3 := g3.c3
  clear g1 g2 g3
  go_wp2_with fail
  refine (num_calls f _).mono ?_
  rintro e w5 ⟨rfl, rfl⟩
  go_wp2_with fail
  refine (num_calls h _).mono ?_
  rintro e w5 ⟨rfl, rfl⟩
  go_wp2_with fail
  refine (alive_calls _ (tab_below HT.out M.out.1 (Nat.le_refl _))).mono ?_
  rintro e w9 ⟨rfl, hbl⟩
  have HM := Lib.hid (M.out.on hbl)
  clear hbl
  go_wp2_with fail
  go_ret
  exact ⟨rfl, HM.out.1⟩
end Go.Proofs.YtopahcobdfdnlaaDoor
