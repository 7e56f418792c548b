/-
  THE STATEMENT LimbsRing: for any three numbers of four words: what is added is taken away again, products go over sums, a product's rest is that of the rests' product: the law answers true. Conditions: the row's own (the listed tables as the program's text lays them).
-/
import Derived.Test.YtopahcobdfdnlaaDoorAlive
namespace Go.Proofs.YtopahcobdfdnlaaDoor
set_option linter.unusedVariables false
set_option linter.unusedSimpArgs false
open Go.RowKit

theorem equalSelf (x0 x1 x2 x3 : Nat) (w : World) : (Op.equalIn 10000 24 (.agg #[.int .u64 x0, .int .u64 x1, .int .u64 x2, .int .u64 x3]) (.agg #[.int .u64 x0, .int .u64 x1, .int .u64 x2, .int .u64 x3])).run Tryd.prog w = .ok true w := by
  have h := equalInW 9998 x0 x1 x2 x3 x0 x1 x2 x3 w
  have q : eqW x0 x1 x2 x3 x0 x1 x2 x3 = true := by unfold eqW; simp
  rw [q] at h
  exact h
theorem ring_low {A B C S P X Q Y R Z T ov ct : Nat} (hz : Z < 115792089237316195423570985008687907853269984665640564039457584007913129639936) (ht : T < 115792089237316195423570985008687907853269984665640564039457584007913129639936) (es : S + 115792089237316195423570985008687907853269984665640564039457584007913129639936 * ov = A + B) (ex : X + 115792089237316195423570985008687907853269984665640564039457584007913129639936 * P = A * C) (ey : Y + 115792089237316195423570985008687907853269984665640564039457584007913129639936 * Q = B * C) (ez : Z + 115792089237316195423570985008687907853269984665640564039457584007913129639936 * R = S * C) (et : T + 115792089237316195423570985008687907853269984665640564039457584007913129639936 * ct = X + Y) : Z = T := by
  have h : S * C + 115792089237316195423570985008687907853269984665640564039457584007913129639936 * (ov * C) = A * C + B * C := by rw [← Nat.add_mul, ← es, Nat.add_mul, Nat.mul_assoc]
  generalize S * C = e1 at *
  generalize A * C = e2 at *
  generalize B * C = e3 at *
  generalize ov * C = e4 at *
  omega
theorem two_same {l h k i P : Nat} (hl : l < 115792089237316195423570985008687907853269984665640564039457584007913129639936) (hk : k < 115792089237316195423570985008687907853269984665640564039457584007913129639936) (e : l + 115792089237316195423570985008687907853269984665640564039457584007913129639936 * h = P) (e' : k + 115792089237316195423570985008687907853269984665640564039457584007913129639936 * i = P) : h = i ∧ l = k := by omega
theorem ring_mod {A B C h l m u v f g n : Nat} (eh : l + 115792089237316195423570985008687907853269984665640564039457584007913129639936 * h = A * B) (em : m = (h * 115792089237316195423570985008687907853269984665640564039457584007913129639936 + l) % C) (eu : u = (val4 0 0 0 0 * 115792089237316195423570985008687907853269984665640564039457584007913129639936 + A) % C) (ev : v = (val4 0 0 0 0 * 115792089237316195423570985008687907853269984665640564039457584007913129639936 + B) % C)
    (ef : g + 115792089237316195423570985008687907853269984665640564039457584007913129639936 * f = u * v) (en : n = (f * 115792089237316195423570985008687907853269984665640564039457584007913129639936 + g) % C) : m = n := by
  have z : val4 0 0 0 0 = 0 := rfl
  rw [z, Nat.zero_mul, Nat.zero_add] at eu ev
  rw [em, en, show h * 115792089237316195423570985008687907853269984665640564039457584007913129639936 + l = A * B by omega, show f * 115792089237316195423570985008687907853269984665640564039457584007913129639936 + g = u * v by omega, eu, ev, ← Nat.mul_mod]
theorem z4 : ok4 0 0 0 0 := ⟨by omega, by omega, by omega, by omega⟩

set_option maxRecDepth 100000 in
set_option maxHeartbeats 8000000 in
theorem ring_some (a0 a1 a2 a3 b0 b1 b2 b3 c0 c1 c2 c3 : Nat) (ha : ok4 a0 a1 a2 a3) (hb : ok4 b0 b1 b2 b3) (hc : ok4 c0 c1 c2 c3) (hpz : 0 < val4 c0 c1 c2 c3) (w : World) (htab : Lib.TabIs Tryd.prog w "internal/strconv.uint64pow10" .u64 Lib.pow10Tab) :
    Calls Tryd.prog 7 #[.agg #[.int .u64 a0, .int .u64 a1, .int .u64 a2, .int .u64 a3], .agg #[.int .u64 b0, .int .u64 b1, .int .u64 b2, .int .u64 b3], .agg #[.int .u64 c0, .int .u64 c1, .int .u64 c2, .int .u64 c3]] w fun e w' => e = .returned (.bool true) ∧ Below w.heap.size w w' := by
  have hG := eqGuardW
  have hS := equalSelf
  have HT := Lib.hid htab
  clear htab
  go_enter Tryd.func7, Tryd.ntmps7
  go_wp2_with fail
  have M := Lib.hid ((((Mem.nil w).new w.heap.size a0 a1 a2 a3 24 rfl).new (w.heap.size + 1) b0 b1 b2 b3 24 (by simp)).new (w.heap.size + 1 + 1) c0 c1 c2 c3 24 (by simp))
  refine (alive_calls _ (tab_below HT.out M.out.1 (Nat.le_refl _))).mono ?_
  rintro e w1 ⟨rfl, hbl⟩
  have M' := M.out.on hbl
  obtain ⟨lt_a, aA, aB, aC, aD, aF⟩ := M'.get (b := w.heap.size) (c0 := a0) (c1 := a1) (c2 := a2) (c3 := a3) (by simp)
  obtain ⟨lt_b, bA, bB, bC, bD, bF⟩ := M'.get (b := (w.heap.size + 1)) (c0 := b0) (c1 := b1) (c2 := b2) (c3 := b3) (by simp)
  have le_b : w.heap.size < w1.heap.size := by omega
  clear M hbl
  have M := Lib.hid M'
  clear M'
  go_wp2_with fail
  refine (add_calls a0 a1 a2 a3 b0 b1 b2 b3 ha hb _).mono ?_
  rintro e w2 ⟨s0, s1, s2, s3, ov, rfl, hs, hov, es, hbl⟩
  have Hes := Lib.hid es
  clear es
  have M' := M.out.on hbl
  clear lt_a aA aB aC aD aF lt_b bA bB bC bD bF le_b
  obtain ⟨lt_b, bA, bB, bC, bD, bF⟩ := M'.get (b := (w.heap.size + 1)) (c0 := b0) (c1 := b1) (c2 := b2) (c3 := b3) (by simp)
  have le_b : w.heap.size < w2.heap.size := by omega
  clear M hbl
  have M := Lib.hid (M'.new (w2.heap.size) s0 s1 s2 s3 24 (by simp))
  clear M'
  go_wp2_with fail
  refine (sub_calls s0 s1 s2 s3 b0 b1 b2 b3 hs hb _).mono ?_
  rintro e w3 ⟨d0, d1, d2, d3, un, rfl, hd, hun, ed, hbl⟩
  obtain ⟨eda, rfl⟩ : val4 a0 a1 a2 a3 = val4 d0 d1 d2 d3 ∧ ov = un := by have := Hes.out; have := val4_lt hd; have := val4_lt ha; omega
  obtain ⟨rfl, rfl, rfl, rfl⟩ := val4_inj ha hd eda
  clear ed eda hd hun
  have M' := M.out.on hbl
  clear lt_b bA bB bC bD bF le_b
  obtain ⟨lt_a, aA, aB, aC, aD, aF⟩ := M'.get (b := w.heap.size) (c0 := a0) (c1 := a1) (c2 := a2) (c3 := a3) (by simp)
  obtain ⟨lt_c, cA, cB, cC, cD, cF⟩ := M'.get (b := (w.heap.size + 1 + 1)) (c0 := c0) (c1 := c1) (c2 := c2) (c3 := c3) (by simp)
  have le_c : w.heap.size + 1 < w3.heap.size := by omega
  clear M hbl
  have M := Lib.hid (M'.new (w3.heap.size) a0 a1 a2 a3 24 (by simp))
  clear M'
  go_wp2_with fail
  refine (mul_calls a0 a1 a2 a3 c0 c1 c2 c3 ha hc _).mono ?_
  rintro e w4 ⟨p0, p1, p2, p3, x0, x1, x2, x3, rfl, hp, hx, ex, hbl⟩
  have Hex := Lib.hid ex
  clear ex
  have M' := M.out.on hbl
  clear lt_a aA aB aC aD aF lt_c cA cB cC cD cF le_c
  obtain ⟨lt_b, bA, bB, bC, bD, bF⟩ := M'.get (b := (w.heap.size + 1)) (c0 := b0) (c1 := b1) (c2 := b2) (c3 := b3) (by simp)
  have le_b : w.heap.size < w4.heap.size := by omega
  obtain ⟨lt_c, cA, cB, cC, cD, cF⟩ := M'.get (b := (w.heap.size + 1 + 1)) (c0 := c0) (c1 := c1) (c2 := c2) (c3 := c3) (by simp)
  have le_c : w.heap.size + 1 < w4.heap.size := by omega
  clear M hbl
  have M := Lib.hid ((M'.new (w4.heap.size) p0 p1 p2 p3 24 (by simp)).new (w4.heap.size + 1) x0 x1 x2 x3 24 (by simp))
  clear M'
  go_wp2_with fail
  refine (mul_calls b0 b1 b2 b3 c0 c1 c2 c3 hb hc _).mono ?_
  rintro e w5 ⟨q0, q1, q2, q3, y0, y1, y2, y3, rfl, hq, hy, ey, hbl⟩
  have Hey := Lib.hid ey
  clear ey
  have M' := M.out.on hbl
  clear lt_b bA bB bC bD bF le_b lt_c cA cB cC cD cF le_c
  obtain ⟨lt_s, sA, sB, sC, sD, sF⟩ := M'.get (b := w2.heap.size) (c0 := s0) (c1 := s1) (c2 := s2) (c3 := s3) (by simp)
  obtain ⟨lt_c, cA, cB, cC, cD, cF⟩ := M'.get (b := (w.heap.size + 1 + 1)) (c0 := c0) (c1 := c1) (c2 := c2) (c3 := c3) (by simp)
  have le_c : w.heap.size + 1 < w5.heap.size := by omega
  clear M hbl
  have M := Lib.hid ((M'.new (w5.heap.size) q0 q1 q2 q3 24 (by simp)).new (w5.heap.size + 1) y0 y1 y2 y3 24 (by simp))
  clear M'
  go_wp2_with fail
  refine (mul_calls s0 s1 s2 s3 c0 c1 c2 c3 hs hc _).mono ?_
  rintro e w6 ⟨r0, r1, r2, r3, z0, z1, z2, z3, rfl, hr, hz, ez, hbl⟩
  have Hez := Lib.hid ez
  clear ez
  have M' := M.out.on hbl
  clear lt_s sA sB sC sD sF lt_c cA cB cC cD cF le_c
  obtain ⟨lt_x, xA, xB, xC, xD, xF⟩ := M'.get (b := (w4.heap.size + 1)) (c0 := x0) (c1 := x1) (c2 := x2) (c3 := x3) (by simp)
  have le_x : w4.heap.size < w6.heap.size := by omega
  obtain ⟨lt_y, yA, yB, yC, yD, yF⟩ := M'.get (b := (w5.heap.size + 1)) (c0 := y0) (c1 := y1) (c2 := y2) (c3 := y3) (by simp)
  have le_y : w5.heap.size < w6.heap.size := by omega
  clear M hbl
  have M := Lib.hid ((M'.new (w6.heap.size) r0 r1 r2 r3 24 (by simp)).new (w6.heap.size + 1) z0 z1 z2 z3 24 (by simp))
  clear M'
  go_wp2_with fail
  refine (add_calls x0 x1 x2 x3 y0 y1 y2 y3 hx hy _).mono ?_
  rintro e w7 ⟨t0, t1, t2, t3, ct, rfl, ht, hct, et, hbl⟩
  obtain ⟨rfl, rfl, rfl, rfl⟩ := val4_inj hz ht (ring_low (val4_lt hz) (val4_lt ht) Hes.out Hex.out Hey.out Hez.out et)
  clear et ht
  have M' := M.out.on hbl
  clear lt_x xA xB xC xD xF le_x lt_y yA yB yC yD yF le_y
  obtain ⟨lt_a, aA, aB, aC, aD, aF⟩ := M'.get (b := w.heap.size) (c0 := a0) (c1 := a1) (c2 := a2) (c3 := a3) (by simp)
  obtain ⟨lt_b, bA, bB, bC, bD, bF⟩ := M'.get (b := (w.heap.size + 1)) (c0 := b0) (c1 := b1) (c2 := b2) (c3 := b3) (by simp)
  have le_b : w.heap.size < w7.heap.size := by omega
  clear M hbl
  have M := Lib.hid (M'.new (w7.heap.size) z0 z1 z2 z3 24 (by simp))
  clear M'
  go_wp2_with fail
  refine (mul_calls a0 a1 a2 a3 b0 b1 b2 b3 ha hb _).mono ?_
  rintro e w8 ⟨h0, h1, h2, h3, l0, l1, l2, l3, rfl, hh, hl, eh, hbl⟩
  have Heh := Lib.hid eh
  clear eh
  have M' := M.out.on hbl
  clear lt_a aA aB aC aD aF lt_b bA bB bC bD bF le_b
  obtain ⟨lt_b, bA, bB, bC, bD, bF⟩ := M'.get (b := (w.heap.size + 1)) (c0 := b0) (c1 := b1) (c2 := b2) (c3 := b3) (by simp)
  have le_b : w.heap.size < w8.heap.size := by omega
  obtain ⟨lt_a, aA, aB, aC, aD, aF⟩ := M'.get (b := w.heap.size) (c0 := a0) (c1 := a1) (c2 := a2) (c3 := a3) (by simp)
  obtain ⟨lt_c, cA, cB, cC, cD, cF⟩ := M'.get (b := (w.heap.size + 1 + 1)) (c0 := c0) (c1 := c1) (c2 := c2) (c3 := c3) (by simp)
  have le_c : w.heap.size + 1 < w8.heap.size := by omega
  clear M hbl
  have M := Lib.hid ((M'.new (w8.heap.size) h0 h1 h2 h3 24 (by simp)).new (w8.heap.size + 1) l0 l1 l2 l3 24 (by simp))
  clear M'
  have cz8 := lt_c
  go_wp2_with fail
  refine (mul_calls b0 b1 b2 b3 a0 a1 a2 a3 hb ha _).mono ?_
  rintro e w9 ⟨i0, i1, i2, i3, k0, k1, k2, k3, rfl, hi, hk, ei, hbl⟩
  obtain ⟨ehi, elk⟩ := two_same (val4_lt hl) (val4_lt hk) Heh.out (ei.trans (Nat.mul_comm _ _))
  obtain ⟨rfl, rfl, rfl, rfl⟩ := val4_inj hh hi ehi
  obtain ⟨rfl, rfl, rfl, rfl⟩ := val4_inj hl hk elk
  clear ei ehi elk hi hk
  have M' := M.out.on hbl
  clear lt_b bA bB bC bD bF le_b lt_a aA aB aC aD aF lt_c cA cB cC cD cF le_c
  obtain ⟨lt_z, zA, zB, zC, zD, zF⟩ := M'.get (b := (w6.heap.size + 1)) (c0 := z0) (c1 := z1) (c2 := z2) (c3 := z3) (by simp)
  have le_z : w6.heap.size < w9.heap.size := by omega
  obtain ⟨lt_t, tA, tB, tC, tD, tF⟩ := M'.get (b := w7.heap.size) (c0 := z0) (c1 := z1) (c2 := z2) (c3 := z3) (by simp)
  obtain ⟨lt_h, hA, hB, hC, hD, hF⟩ := M'.get (b := w8.heap.size) (c0 := h0) (c1 := h1) (c2 := h2) (c3 := h3) (by simp)
  obtain ⟨lt_l, lA, lB, lC, lD, lF⟩ := M'.get (b := (w8.heap.size + 1)) (c0 := l0) (c1 := l1) (c2 := l2) (c3 := l3) (by simp)
  have le_l : w8.heap.size < w9.heap.size := by omega
  obtain ⟨lt_c, cA, cB, cC, cD, cF⟩ := M'.get (b := (w.heap.size + 1 + 1)) (c0 := c0) (c1 := c1) (c2 := c2) (c3 := c3) (by simp)
  have le_c : w.heap.size + 1 < w9.heap.size := by omega
  clear M hbl
  have M := Lib.hid ((M'.new (w9.heap.size) h0 h1 h2 h3 24 (by simp)).new (w9.heap.size + 1) l0 l1 l2 l3 24 (by simp))
  clear M'
  go_wp2_with fail
  refine (mod_some h0 h1 h2 h3 l0 l1 l2 l3 c0 c1 c2 c3 hh hl hc hpz _).mono ?_
  rintro e w10 ⟨m0, m1, m2, m3, er, rfl, hm, ⟨em, rfl⟩, hbl⟩
  have Hem := Lib.hid em
  clear em
  have M' := M.out.on hbl
  clear lt_z zA zB zC zD zF le_z lt_t tA tB tC tD tF lt_h hA hB hC hD hF lt_l lA lB lC lD lF le_l lt_c cA cB cC cD cF le_c
  obtain ⟨lt_a, aA, aB, aC, aD, aF⟩ := M'.get (b := w.heap.size) (c0 := a0) (c1 := a1) (c2 := a2) (c3 := a3) (by simp)
  obtain ⟨lt_c, cA, cB, cC, cD, cF⟩ := M'.get (b := (w.heap.size + 1 + 1)) (c0 := c0) (c1 := c1) (c2 := c2) (c3 := c3) (by simp)
  have le_c : w.heap.size + 1 < w10.heap.size := by omega
  obtain ⟨lt_l, lA, lB, lC, lD, lF⟩ := M'.get (b := (w8.heap.size + 1)) (c0 := l0) (c1 := l1) (c2 := l2) (c3 := l3) (by simp)
  have le_l : w8.heap.size < w10.heap.size := by omega
  clear M hbl
  have M := Lib.hid (M'.new (w10.heap.size) m0 m1 m2 m3 24 (by simp))
  clear M'
  have lz10 := lt_l
  go_wp2_with fail
  refine (num_calls _ _).mono ?_
  rintro e w' ⟨rfl, rfl⟩
  go_wp2_with fail
  refine (mod_some 0 0 0 0 a0 a1 a2 a3 c0 c1 c2 c3 z4 ha hc hpz _).mono ?_
  rintro e w11 ⟨u0, u1, u2, u3, er, rfl, hu, ⟨eu, rfl⟩, hbl⟩
  have Heu := Lib.hid eu
  clear eu
  have M' := M.out.on hbl
  clear lt_a aA aB aC aD aF lt_c cA cB cC cD cF le_c lt_l lA lB lC lD lF le_l
  obtain ⟨lt_b, bA, bB, bC, bD, bF⟩ := M'.get (b := (w.heap.size + 1)) (c0 := b0) (c1 := b1) (c2 := b2) (c3 := b3) (by simp)
  have le_b : w.heap.size < w11.heap.size := by omega
  obtain ⟨lt_c, cA, cB, cC, cD, cF⟩ := M'.get (b := (w.heap.size + 1 + 1)) (c0 := c0) (c1 := c1) (c2 := c2) (c3 := c3) (by simp)
  have le_c : w.heap.size + 1 < w11.heap.size := by omega
  clear M hbl
  have M := Lib.hid (M'.new (w11.heap.size) u0 u1 u2 u3 24 (by simp))
  clear M'
  go_wp2_with fail
  refine (mod_some 0 0 0 0 b0 b1 b2 b3 c0 c1 c2 c3 z4 hb hc hpz _).mono ?_
  rintro e w12 ⟨v0, v1, v2, v3, er, rfl, hv, ⟨ev, rfl⟩, hbl⟩
  have Hev := Lib.hid ev
  clear ev
  have M' := M.out.on hbl
  clear lt_b bA bB bC bD bF le_b lt_c cA cB cC cD cF le_c
  obtain ⟨lt_u, uA, uB, uC, uD, uF⟩ := M'.get (b := w11.heap.size) (c0 := u0) (c1 := u1) (c2 := u2) (c3 := u3) (by simp)
  clear M hbl
  have M := Lib.hid (M'.new (w12.heap.size) v0 v1 v2 v3 24 (by simp))
  clear M'
  go_wp2_with fail
  refine (mul_calls u0 u1 u2 u3 v0 v1 v2 v3 hu hv _).mono ?_
  rintro e w13 ⟨f0, f1, f2, f3, g0, g1, g2, g3, rfl, hf, hg, ef, hbl⟩
  have Hef := Lib.hid ef
  clear ef
  have M' := M.out.on hbl
  clear lt_u uA uB uC uD uF
  obtain ⟨lt_h, hA, hB, hC, hD, hF⟩ := M'.get (b := w8.heap.size) (c0 := h0) (c1 := h1) (c2 := h2) (c3 := h3) (by simp)
  obtain ⟨lt_l, lA, lB, lC, lD, lF⟩ := M'.get (b := (w8.heap.size + 1)) (c0 := l0) (c1 := l1) (c2 := l2) (c3 := l3) (by simp)
  have le_l : w8.heap.size < w13.heap.size := by omega
  obtain ⟨lt_c, cA, cB, cC, cD, cF⟩ := M'.get (b := (w.heap.size + 1 + 1)) (c0 := c0) (c1 := c1) (c2 := c2) (c3 := c3) (by simp)
  have le_c : w.heap.size + 1 < w13.heap.size := by omega
  have P1 := (M'.sub (rs' := [(w8.heap.size, h0, h1, h2, h3), ((w8.heap.size + 1), l0, l1, l2, l3), (w10.heap.size, m0, m1, m2, m3), ((w.heap.size + 1 + 1), c0, c1, c2, c3)]) (by simp)).put f0 f1 f2 f3 (by omega) (by intro r hr; simp at hr; rcases hr with rfl | rfl | rfl <;> simp <;> omega)
  have P2 := (P1.sub (rs' := [((w8.heap.size + 1), l0, l1, l2, l3), (w10.heap.size, m0, m1, m2, m3), ((w.heap.size + 1 + 1), c0, c1, c2, c3)]) (by simp)).put g0 g1 g2 g3 (by omega) (by intro r hr; simp at hr; rcases hr with rfl | rfl <;> simp <;> omega)
  have HP := Lib.hid (P2.sub (rs' := [(w10.heap.size, m0, m1, m2, m3), ((w.heap.size + 1 + 1), c0, c1, c2, c3)]) (by simp))
  clear M hbl M' P1 P2
  have ne1 : ¬ w.heap.size + 1 + 1 = w8.heap.size := by omega
  have ne2 : ¬ w.heap.size + 1 + 1 = w8.heap.size + 1 := by omega
  go_wp2_with fail
  refine (mod_some f0 f1 f2 f3 g0 g1 g2 g3 c0 c1 c2 c3 hf hg hc hpz _).mono ?_
  rintro e w14 ⟨n0, n1, n2, n3, er, rfl, hn, ⟨en, rfl⟩, hbl⟩
  obtain ⟨rfl, rfl, rfl, rfl⟩ := val4_inj hm hn (ring_mod Heh.out Hem.out Heu.out Hev.out Hef.out en)
  have HP' := HP.out
  unfold set4 at HP'
  have M' := HP'.on hbl
  clear HP HP' hbl en hn ne1 ne2 lt_h hA hB hC hD hF lt_l lA lB lC lD lF le_l lt_c cA cB cC cD cF le_c
  obtain ⟨lt_m, mA, mB, mC, mD, mF⟩ := M'.get (b := w10.heap.size) (c0 := m0) (c1 := m1) (c2 := m2) (c3 := m3) (by simp)
  obtain ⟨lt_c, cA, cB, cC, cD, cF⟩ := M'.get (b := (w.heap.size + 1 + 1)) (c0 := c0) (c1 := c1) (c2 := c2) (c3 := c3) (by simp)
  have le_c : w.heap.size + 1 < w14.heap.size := by omega
  have M := Lib.hid (M'.new w14.heap.size m0 m1 m2 m3 24 (by simp))
  have Hcmp := Lib.hid (show cmpN (val4 m0 m1 m2 m3) (val4 c0 c1 c2 c3) = -1 by have : val4 m0 m1 m2 m3 < val4 c0 c1 c2 c3 := by { rw [Hem.out]; exact Nat.mod_lt _ hpz }; unfold cmpN; rw [if_neg (by omega), if_pos this])
  clear M'
  go_wp2_with fail
  refine (cmp_calls m0 m1 m2 m3 c0 c1 c2 c3 hm hc _).mono ?_
  rintro e w15 ⟨rfl, hbl⟩
  have HB := Lib.hid (M.out.on hbl).1
  clear hbl
  rw [Hcmp.out]
  go_wp2_with fail
  go_ret
  exact ⟨rfl, HB.out⟩

set_option maxRecDepth 100000 in
set_option maxHeartbeats 8000000 in
theorem ring_zero (a0 a1 a2 a3 b0 b1 b2 b3 c0 c1 c2 c3 : Nat) (ha : ok4 a0 a1 a2 a3) (hb : ok4 b0 b1 b2 b3) (hc : ok4 c0 c1 c2 c3) (hpz : val4 c0 c1 c2 c3 = 0) (w : World) (htab : Lib.TabIs Tryd.prog w "internal/strconv.uint64pow10" .u64 Lib.pow10Tab) :
    Calls Tryd.prog 7 #[.agg #[.int .u64 a0, .int .u64 a1, .int .u64 a2, .int .u64 a3], .agg #[.int .u64 b0, .int .u64 b1, .int .u64 b2, .int .u64 b3], .agg #[.int .u64 c0, .int .u64 c1, .int .u64 c2, .int .u64 c3]] w fun e w' => e = .returned (.bool true) ∧ Below w.heap.size w w' := by
  have hG := eqGuardW
  have hS := equalSelf
  have hE : ∀ w, (Op.equalIn 10000 24 (.agg #[.int .u64 c0, .int .u64 c1, .int .u64 c2, .int .u64 c3]) (.agg #[.int .u64 0, .int .u64 0, .int .u64 0, .int .u64 0])).run Tryd.prog w = .ok true w := fun w => by
    rw [equalInW0 c0 c1 c2 c3 w, (eqW_iff hc z4).2 (hpz.trans rfl)]
  have Hpz := Lib.hid hpz
  have HT := Lib.hid htab
  clear htab hpz
  go_enter Tryd.func7, Tryd.ntmps7
  go_wp2_with fail
  have M := Lib.hid ((((Mem.nil w).new w.heap.size a0 a1 a2 a3 24 rfl).new (w.heap.size + 1) b0 b1 b2 b3 24 (by simp)).new (w.heap.size + 1 + 1) c0 c1 c2 c3 24 (by simp))
  refine (alive_calls _ (tab_below HT.out M.out.1 (Nat.le_refl _))).mono ?_
  rintro e w1 ⟨rfl, hbl⟩
  have M' := M.out.on hbl
  obtain ⟨lt_a, aA, aB, aC, aD, aF⟩ := M'.get (b := w.heap.size) (c0 := a0) (c1 := a1) (c2 := a2) (c3 := a3) (by simp)
  obtain ⟨lt_b, bA, bB, bC, bD, bF⟩ := M'.get (b := (w.heap.size + 1)) (c0 := b0) (c1 := b1) (c2 := b2) (c3 := b3) (by simp)
  have le_b : w.heap.size < w1.heap.size := by omega
  clear M hbl
  have M := Lib.hid M'
  clear M'
  go_wp2_with fail
  refine (add_calls a0 a1 a2 a3 b0 b1 b2 b3 ha hb _).mono ?_
  rintro e w2 ⟨s0, s1, s2, s3, ov, rfl, hs, hov, es, hbl⟩
  have Hes := Lib.hid es
  clear es
  have M' := M.out.on hbl
  clear lt_a aA aB aC aD aF lt_b bA bB bC bD bF le_b
  obtain ⟨lt_b, bA, bB, bC, bD, bF⟩ := M'.get (b := (w.heap.size + 1)) (c0 := b0) (c1 := b1) (c2 := b2) (c3 := b3) (by simp)
  have le_b : w.heap.size < w2.heap.size := by omega
  clear M hbl
  have M := Lib.hid (M'.new (w2.heap.size) s0 s1 s2 s3 24 (by simp))
  clear M'
  go_wp2_with fail
  refine (sub_calls s0 s1 s2 s3 b0 b1 b2 b3 hs hb _).mono ?_
  rintro e w3 ⟨d0, d1, d2, d3, un, rfl, hd, hun, ed, hbl⟩
  obtain ⟨eda, rfl⟩ : val4 a0 a1 a2 a3 = val4 d0 d1 d2 d3 ∧ ov = un := by have := Hes.out; have := val4_lt hd; have := val4_lt ha; omega
  obtain ⟨rfl, rfl, rfl, rfl⟩ := val4_inj ha hd eda
  clear ed eda hd hun
  have M' := M.out.on hbl
  clear lt_b bA bB bC bD bF le_b
  obtain ⟨lt_a, aA, aB, aC, aD, aF⟩ := M'.get (b := w.heap.size) (c0 := a0) (c1 := a1) (c2 := a2) (c3 := a3) (by simp)
  obtain ⟨lt_c, cA, cB, cC, cD, cF⟩ := M'.get (b := (w.heap.size + 1 + 1)) (c0 := c0) (c1 := c1) (c2 := c2) (c3 := c3) (by simp)
  have le_c : w.heap.size + 1 < w3.heap.size := by omega
  clear M hbl
  have M := Lib.hid (M'.new (w3.heap.size) a0 a1 a2 a3 24 (by simp))
  clear M'
  go_wp2_with fail
  refine (mul_calls a0 a1 a2 a3 c0 c1 c2 c3 ha hc _).mono ?_
  rintro e w4 ⟨p0, p1, p2, p3, x0, x1, x2, x3, rfl, hp, hx, ex, hbl⟩
  have Hex := Lib.hid ex
  clear ex
  have M' := M.out.on hbl
  clear lt_a aA aB aC aD aF lt_c cA cB cC cD cF le_c
  obtain ⟨lt_b, bA, bB, bC, bD, bF⟩ := M'.get (b := (w.heap.size + 1)) (c0 := b0) (c1 := b1) (c2 := b2) (c3 := b3) (by simp)
  have le_b : w.heap.size < w4.heap.size := by omega
  obtain ⟨lt_c, cA, cB, cC, cD, cF⟩ := M'.get (b := (w.heap.size + 1 + 1)) (c0 := c0) (c1 := c1) (c2 := c2) (c3 := c3) (by simp)
  have le_c : w.heap.size + 1 < w4.heap.size := by omega
  clear M hbl
  have M := Lib.hid ((M'.new (w4.heap.size) p0 p1 p2 p3 24 (by simp)).new (w4.heap.size + 1) x0 x1 x2 x3 24 (by simp))
  clear M'
  go_wp2_with fail
  refine (mul_calls b0 b1 b2 b3 c0 c1 c2 c3 hb hc _).mono ?_
  rintro e w5 ⟨q0, q1, q2, q3, y0, y1, y2, y3, rfl, hq, hy, ey, hbl⟩
  have Hey := Lib.hid ey
  clear ey
  have M' := M.out.on hbl
  clear lt_b bA bB bC bD bF le_b lt_c cA cB cC cD cF le_c
  obtain ⟨lt_s, sA, sB, sC, sD, sF⟩ := M'.get (b := w2.heap.size) (c0 := s0) (c1 := s1) (c2 := s2) (c3 := s3) (by simp)
  obtain ⟨lt_c, cA, cB, cC, cD, cF⟩ := M'.get (b := (w.heap.size + 1 + 1)) (c0 := c0) (c1 := c1) (c2 := c2) (c3 := c3) (by simp)
  have le_c : w.heap.size + 1 < w5.heap.size := by omega
  clear M hbl
  have M := Lib.hid ((M'.new (w5.heap.size) q0 q1 q2 q3 24 (by simp)).new (w5.heap.size + 1) y0 y1 y2 y3 24 (by simp))
  clear M'
  go_wp2_with fail
  refine (mul_calls s0 s1 s2 s3 c0 c1 c2 c3 hs hc _).mono ?_
  rintro e w6 ⟨r0, r1, r2, r3, z0, z1, z2, z3, rfl, hr, hz, ez, hbl⟩
  have Hez := Lib.hid ez
  clear ez
  have M' := M.out.on hbl
  clear lt_s sA sB sC sD sF lt_c cA cB cC cD cF le_c
  obtain ⟨lt_x, xA, xB, xC, xD, xF⟩ := M'.get (b := (w4.heap.size + 1)) (c0 := x0) (c1 := x1) (c2 := x2) (c3 := x3) (by simp)
  have le_x : w4.heap.size < w6.heap.size := by omega
  obtain ⟨lt_y, yA, yB, yC, yD, yF⟩ := M'.get (b := (w5.heap.size + 1)) (c0 := y0) (c1 := y1) (c2 := y2) (c3 := y3) (by simp)
  have le_y : w5.heap.size < w6.heap.size := by omega
  clear M hbl
  have M := Lib.hid ((M'.new (w6.heap.size) r0 r1 r2 r3 24 (by simp)).new (w6.heap.size + 1) z0 z1 z2 z3 24 (by simp))
  clear M'
  go_wp2_with fail
  refine (add_calls x0 x1 x2 x3 y0 y1 y2 y3 hx hy _).mono ?_
  rintro e w7 ⟨t0, t1, t2, t3, ct, rfl, ht, hct, et, hbl⟩
  obtain ⟨rfl, rfl, rfl, rfl⟩ := val4_inj hz ht (ring_low (val4_lt hz) (val4_lt ht) Hes.out Hex.out Hey.out Hez.out et)
  clear et ht
  have M' := M.out.on hbl
  clear lt_x xA xB xC xD xF le_x lt_y yA yB yC yD yF le_y
  obtain ⟨lt_a, aA, aB, aC, aD, aF⟩ := M'.get (b := w.heap.size) (c0 := a0) (c1 := a1) (c2 := a2) (c3 := a3) (by simp)
  obtain ⟨lt_b, bA, bB, bC, bD, bF⟩ := M'.get (b := (w.heap.size + 1)) (c0 := b0) (c1 := b1) (c2 := b2) (c3 := b3) (by simp)
  have le_b : w.heap.size < w7.heap.size := by omega
  clear M hbl
  have M := Lib.hid (M'.new (w7.heap.size) z0 z1 z2 z3 24 (by simp))
  clear M'
  go_wp2_with fail
  refine (mul_calls a0 a1 a2 a3 b0 b1 b2 b3 ha hb _).mono ?_
  rintro e w8 ⟨h0, h1, h2, h3, l0, l1, l2, l3, rfl, hh, hl, eh, hbl⟩
  have Heh := Lib.hid eh
  clear eh
  have M' := M.out.on hbl
  clear lt_a aA aB aC aD aF lt_b bA bB bC bD bF le_b
  obtain ⟨lt_b, bA, bB, bC, bD, bF⟩ := M'.get (b := (w.heap.size + 1)) (c0 := b0) (c1 := b1) (c2 := b2) (c3 := b3) (by simp)
  have le_b : w.heap.size < w8.heap.size := by omega
  obtain ⟨lt_a, aA, aB, aC, aD, aF⟩ := M'.get (b := w.heap.size) (c0 := a0) (c1 := a1) (c2 := a2) (c3 := a3) (by simp)
  obtain ⟨lt_c, cA, cB, cC, cD, cF⟩ := M'.get (b := (w.heap.size + 1 + 1)) (c0 := c0) (c1 := c1) (c2 := c2) (c3 := c3) (by simp)
  have le_c : w.heap.size + 1 < w8.heap.size := by omega
  clear M hbl
  have M := Lib.hid ((M'.new (w8.heap.size) h0 h1 h2 h3 24 (by simp)).new (w8.heap.size + 1) l0 l1 l2 l3 24 (by simp))
  clear M'
  have cz8 := lt_c
  go_wp2_with fail
  refine (mul_calls b0 b1 b2 b3 a0 a1 a2 a3 hb ha _).mono ?_
  rintro e w9 ⟨i0, i1, i2, i3, k0, k1, k2, k3, rfl, hi, hk, ei, hbl⟩
  obtain ⟨ehi, elk⟩ := two_same (val4_lt hl) (val4_lt hk) Heh.out (ei.trans (Nat.mul_comm _ _))
  obtain ⟨rfl, rfl, rfl, rfl⟩ := val4_inj hh hi ehi
  obtain ⟨rfl, rfl, rfl, rfl⟩ := val4_inj hl hk elk
  clear ei ehi elk hi hk
  have M' := M.out.on hbl
  clear lt_b bA bB bC bD bF le_b lt_a aA aB aC aD aF lt_c cA cB cC cD cF le_c
  obtain ⟨lt_z, zA, zB, zC, zD, zF⟩ := M'.get (b := (w6.heap.size + 1)) (c0 := z0) (c1 := z1) (c2 := z2) (c3 := z3) (by simp)
  have le_z : w6.heap.size < w9.heap.size := by omega
  obtain ⟨lt_t, tA, tB, tC, tD, tF⟩ := M'.get (b := w7.heap.size) (c0 := z0) (c1 := z1) (c2 := z2) (c3 := z3) (by simp)
  obtain ⟨lt_h, hA, hB, hC, hD, hF⟩ := M'.get (b := w8.heap.size) (c0 := h0) (c1 := h1) (c2 := h2) (c3 := h3) (by simp)
  obtain ⟨lt_l, lA, lB, lC, lD, lF⟩ := M'.get (b := (w8.heap.size + 1)) (c0 := l0) (c1 := l1) (c2 := l2) (c3 := l3) (by simp)
  have le_l : w8.heap.size < w9.heap.size := by omega
  obtain ⟨lt_c, cA, cB, cC, cD, cF⟩ := M'.get (b := (w.heap.size + 1 + 1)) (c0 := c0) (c1 := c1) (c2 := c2) (c3 := c3) (by simp)
  have le_c : w.heap.size + 1 < w9.heap.size := by omega
  clear M hbl
  have M := Lib.hid ((M'.new (w9.heap.size) h0 h1 h2 h3 24 (by simp)).new (w9.heap.size + 1) l0 l1 l2 l3 24 (by simp))
  clear M'
  go_wp2_with fail
  refine (mod_calls h0 h1 h2 h3 l0 l1 l2 l3 c0 c1 c2 c3 hh hl hc _).mono ?_
  rintro e w10 ⟨m0, m1, m2, m3, er, rfl, hm, em, hbl⟩
  obtain ⟨_, _, rfl⟩ := em.resolve_right (fun k => by have := Hpz.out; omega)
  have M' := M.out.on hbl
  clear lt_z zA zB zC zD zF le_z lt_t tA tB tC tD tF lt_h hA hB hC hD hF lt_l lA lB lC lD lF le_l lt_c cA cB cC cD cF le_c
  obtain ⟨lt_c, cA, cB, cC, cD, cF⟩ := M'.get (b := (w.heap.size + 1 + 1)) (c0 := c0) (c1 := c1) (c2 := c2) (c3 := c3) (by simp)
  have le_c : w.heap.size + 1 < w10.heap.size := by omega
  clear M hbl
  have M := Lib.hid (M'.new (w10.heap.size) m0 m1 m2 m3 24 (by simp))
  clear M'
  go_wp2_with fail
  refine (num_calls _ _).mono ?_
  rintro e w' ⟨rfl, rfl⟩
  have HB := Lib.hid M.out.1
  go_wp2_with fail
  go_ret
  exact ⟨rfl, HB.out⟩

theorem ring_calls (a0 a1 a2 a3 b0 b1 b2 b3 c0 c1 c2 c3 : Nat) (ha : ok4 a0 a1 a2 a3) (hb : ok4 b0 b1 b2 b3) (hc : ok4 c0 c1 c2 c3) (w : World) (htab : Lib.TabIs Tryd.prog w "internal/strconv.uint64pow10" .u64 Lib.pow10Tab) :
    Calls Tryd.prog 7 #[.agg #[.int .u64 a0, .int .u64 a1, .int .u64 a2, .int .u64 a3], .agg #[.int .u64 b0, .int .u64 b1, .int .u64 b2, .int .u64 b3], .agg #[.int .u64 c0, .int .u64 c1, .int .u64 c2, .int .u64 c3]] w fun e w' => e = .returned (.bool true) ∧ Below w.heap.size w w' := by
  rcases Nat.eq_zero_or_pos (val4 c0 c1 c2 c3) with h | h
  · exact ring_zero a0 a1 a2 a3 b0 b1 b2 b3 c0 c1 c2 c3 ha hb hc h w htab
  · exact ring_some a0 a1 a2 a3 b0 b1 b2 b3 c0 c1 c2 c3 ha hb hc h w htab
end Go.Proofs.YtopahcobdfdnlaaDoor
