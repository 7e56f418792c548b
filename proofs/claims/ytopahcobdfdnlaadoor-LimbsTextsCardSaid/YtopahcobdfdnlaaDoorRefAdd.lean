/-
  The calls of the reference's Add, Sub and Mul: for any two numbers of four words, in any world, the sum with its carry, the difference with its borrow, the product. Conditions: each word below 2^64.
-/
import Derived.Test.YtopahcobdfdnlaaDoorTwo
import Derived.Deep.RegionWith
namespace Go.Proofs.YtopahcobdfdnlaaDoor
set_option linter.unusedVariables false
set_option linter.unusedSimpArgs false
open Go.RowKit

theorem tot_put (B : Nat) (P : Nat → Nat) (k v : Nat) : tot B (upd P k v) (k + 1) = tot B P k + v * B ^ k := by
  rw [tot_succ, tot_upd_ge B P k v k (Nat.le_refl _)]
  unfold upd
  rw [if_pos rfl]
theorem carry_step {B k s c c' X Y T : Nat} (e : s + B * c' = X + Y + c) : s * B ^ k + c' * B ^ (k + 1) = X * B ^ k + Y * B ^ k + c * B ^ k := by
  rw [Nat.pow_succ, ← Nat.add_mul, ← Nat.add_mul, ← e, Nat.add_mul]
  congr 1
  rw [Nat.mul_comm (B ^ k) B, ← Nat.mul_assoc, Nat.mul_comm c' B]
theorem add_tot {B k s c c' : Nat} {P X Y : Nat → Nat} (h : tot B P k + c * B ^ k = tot B X k + tot B Y k) (e : s + B * c' = X k + Y k + c) :
    tot B (upd P k s) (k + 1) + c' * B ^ (k + 1) = tot B X (k + 1) + tot B Y (k + 1) := by
  rw [tot_put, tot_succ, tot_succ]
  have := carry_step (T := 0) (k := k) e
  omega
theorem sub_tot {B k s c c' : Nat} {P X Y : Nat → Nat} (h : tot B P k + tot B Y k = tot B X k + c * B ^ k) (e : s + Y k + c = X k + B * c') :
    tot B (upd P k s) (k + 1) + tot B Y (k + 1) = tot B X (k + 1) + c' * B ^ (k + 1) := by
  rw [tot_put, tot_succ, tot_succ]
  have h1 : s * B ^ k + Y k * B ^ k + c * B ^ k = X k * B ^ k + c' * B ^ (k + 1) := by
    rw [Nat.pow_succ, ← Nat.add_mul, ← Nat.add_mul, e, Nat.add_mul]
    congr 1
    rw [Nat.mul_comm (B ^ k) B, ← Nat.mul_assoc, Nat.mul_comm c' B]
  omega
theorem ex_and {t : Nat} (h : t < 18446744073709551616) : ∃ s c : Nat, bits .and .u64 (t : Int) 4294967295 = (s : Int) ∧ (t : Int) / 4294967296 = (c : Int) ∧ s < 4294967296 ∧ Hid (c = t / 4294967296) ∧ Hid (s + 4294967296 * c = t) := by
  obtain ⟨l, h', e1, e2, h1, h2, e⟩ := ex_half h
  exact ⟨l, h', e1, e2, h1, Lib.hid (by have := e.out; omega), e⟩
theorem ex_ra {x y c : Nat} (hx : x < 4294967296) (hy : y < 4294967296) (hc : c ≤ 1) : ∃ e t s c' : Nat, (x : Int) + (y : Int) = (e : Int) ∧ (e : Int) + (c : Int) = (t : Int) ∧ bits .and .u64 (t : Int) 4294967295 = (s : Int) ∧ (t : Int) / 4294967296 = (c' : Int) ∧
    e < 18446744073709551616 ∧ t < 18446744073709551616 ∧ s < 4294967296 ∧ c' ≤ 1 ∧ Hid (s + 4294967296 * c' = x + y + c) := by
  obtain ⟨s, c', e1, e2, hs, h1, h2⟩ := ex_and (t := x + y + c) (by omega)
  have := h1.out
  exact ⟨x + y, x + y + c, s, c', by omega, by omega, e1, e2, by omega, by omega, hs, by omega, Lib.hid (by have := h2.out; omega)⟩
theorem ex_rs {x y c : Nat} (hx : x < 4294967296) (hy : y < 4294967296) (hc : c ≤ 1) : ∃ d e t s c' b : Nat, (x : Int) + 4294967296 = (d : Int) ∧ (d : Int) - (y : Int) = (e : Int) ∧ (e : Int) - (c : Int) = (t : Int) ∧ bits .and .u64 (t : Int) 4294967295 = (s : Int) ∧ (t : Int) / 4294967296 = (b : Int) ∧ (1 : Int) - (b : Int) = (c' : Int) ∧
    d < 18446744073709551616 ∧ e < 18446744073709551616 ∧ t < 18446744073709551616 ∧ b ≤ 1 ∧ s < 4294967296 ∧ c' ≤ 1 ∧ Hid (s + y + c = x + 4294967296 * c') := by
  obtain ⟨s, b, e1, e2, hs, h1, h2⟩ := ex_and (t := x + 4294967296 - y - c) (by omega)
  have := h1.out
  exact ⟨x + 4294967296, x + 4294967296 - y, x + 4294967296 - y - c, s, 1 - b, b, by omega, by omega, by omega, e1, e2, by omega, by omega, by omega, by omega, by omega, hs, by omega, Lib.hid (by have := h2.out; omega)⟩
theorem ex_rm {x y p o : Nat} (hx : x < 4294967296) (hy : y < 4294967296) (hp : p < 4294967296) (ho : o < 4294967296) : ∃ m e t s c' : Nat, (x : Int) * (y : Int) = (m : Int) ∧ (p : Int) + (m : Int) = (e : Int) ∧ (e : Int) + (o : Int) = (t : Int) ∧ bits .and .u64 (t : Int) 4294967295 = (s : Int) ∧ (t : Int) / 4294967296 = (c' : Int) ∧
    m < 18446744073709551616 ∧ e < 18446744073709551616 ∧ t < 18446744073709551616 ∧ s < 4294967296 ∧ c' < 4294967296 ∧ Hid (s + 4294967296 * c' = x * y + p + o) := by
  have hm := mul_le (show x ≤ 4294967295 by omega) (show y ≤ 4294967295 by omega)
  obtain ⟨s, c', e1, e2, hs, h1, h2⟩ := ex_and (t := p + x * y + o) (by omega)
  have := h1.out
  exact ⟨x * y, p + x * y, p + x * y + o, s, c', (Int.natCast_mul x y).symm, by omega, by omega, e1, e2, by omega, by omega, by omega, hs, by omega, Lib.hid (by have := h2.out; omega)⟩

/-- the world in the rounds -/
structure RW (w wr : World) (p q o r n : Nat) (X Y P : Nat → Nat) : Prop where
  below : Below w.heap.size w wr
  lo : w.heap.size ≤ o
  uo : o < wr.heap.size
  op : ¬ o = p
  oq : ¬ o = q
  or : ¬ o = r
  rowX : RowIs wr p 8 X
  rowY : RowIs wr q 8 Y
  rowH : ∃ H, RowIs wr r 4 H
  ur : r < wr.heap.size
  rowP : RowIs wr o n P
  lt : ∀ k, P k < 4294967296
theorem RW.set {w wr : World} {p q o r n : Nat} {X Y P : Nat → Nat} (h : RW w wr p q o r n X Y P) {k d : Nat} (hk : k < n) (hd : d < 4294967296) :
    RW w (wr.setCell ⟨o, k, none⟩ (.int .u64 (d : Nat))) p q o r n X Y (upd P k d) :=
  ⟨h.below.setCell (p := ⟨o, k, none⟩) h.lo _, h.lo, by rw [World.size_setCell]; exact h.uo, h.op, h.oq, h.or, h.rowX.other h.op _, h.rowY.other h.oq _,
    h.rowH.elim fun H x => ⟨H, x.other h.or _⟩, by rw [World.size_setCell]; exact h.ur, h.rowP.set hk, fun x => by unfold upd; split; exact hd; exact h.lt x⟩
theorem RW.drewN {w wr : World} {p q o r n : Nat} {X Y P : Nat → Nat} (h : RW w wr p q o r n X Y P) (m : Nat) : RW w (wr.drewN m) p q o r n X Y P :=
  ⟨h.below.trans (below_drewN' _ _ _), h.lo, h.uo, h.op, h.oq, h.or, h.rowX, h.rowY, h.rowH, h.ur, h.rowP, h.lt⟩


set_option maxRecDepth 100000 in
set_option maxHeartbeats 4000000 in
theorem refAdd_calls (a0 a1 a2 a3 b0 b1 b2 b3 : Nat) (ha : ok4 a0 a1 a2 a3) (hb : ok4 b0 b1 b2 b3) (w : World) :
    Calls Tryd.prog 10 #[.agg #[.int .u64 a0, .int .u64 a1, .int .u64 a2, .int .u64 a3], .agg #[.int .u64 b0, .int .u64 b1, .int .u64 b2, .int .u64 b3]] w (AddPost (val4 a0 a1 a2 a3) (val4 b0 b1 b2 b3) w) := by
  go_enter Tryd.func10, Tryd.ntmps10
  go_wp2_with fail
  refine two_halves12 (pos := "ref.go:37") a0 a1 a2 a3 b0 b1 b2 b3 ha hb w.heap.size (w.heap.size + 1) _ _ _ _ _ _ _ _ _ _ _ ?_ ?_ (by first | (simp; done) | (simp; omega)) (by first | (simp; done) | (simp; omega)) (fun p q X Y s0 s1 s2 s3 u T => ?_)
  · exact ⟨by simp [go_sem], by simp [go_sem], by simp [go_sem], by simp [go_sem], fun k => by simp [go_sem]⟩
  · exact ⟨by simp [go_sem], by simp [go_sem], by simp [go_sem], by simp [go_sem], fun k => by simp [go_sem]⟩
  have r0 : ∃ H, RowIs u (w.heap.size + 1 + 1) 4 H := ⟨fnOf [0, 0, 0, 0], RowIs.below (RowIs.mk4 (by simp [go_sem]) (by simp [go_sem]) (by simp [go_sem]) (by simp [go_sem]) (fun k => by simp [go_sem])) T.below (by simp)⟩
  have h0 : Below w.heap.size w u := by
    refine Below.trans ?_ (T.below.mono (by simp; omega))
    repeat (first | exact Below.refl _ _ | refine Below.alloc ?_ (by first | (simp; done) | (simp; omega)) _)
  have lp := T.lp; have lq := T.lq; have hs := T.below.size
  simp at lp lq hs
  have up := T.up; have uq := T.uq; have hpq := T.ne; have rX := T.rowX; have rY := T.rowY
  have HlX := Lib.hid T.ltX; have HlY := Lib.hid T.ltY; have HeX := Lib.hid T.eX; have HeY := Lib.hid T.eY
  have Hr0 := Lib.hid r0; have Hh0 := Lib.hid h0; have HX := Lib.hid rX; have HY := Lib.hid rY
  clear T r0 h0 rX rY
  go_wp2_with fail
  go_loopw [9, 10] (fun cc i wr => ∃ (k c : Nat) (P : Nat → Nat), k ≤ 8 ∧ c ≤ 1 ∧ cc = .int .u64 c ∧ i = .int .i64 k ∧ RW w wr p q u.heap.size (w.heap.size + 1 + 1) 8 X Y P ∧ Hid (tot 4294967296 P k + c * 4294967296 ^ k = tot 4294967296 X k + tot 4294967296 Y k)) (fun _ i _ => 8 - (intOf i).toNat)
  case atStart =>
    refine ⟨0, 0, fun _ => 0, by omega, by omega, rfl, rfl, ⟨Hh0.out.alloc (by omega) _, by omega, by simp, by omega, by omega, by omega, HX.out.alloc up _, HY.out.alloc uq _, Hr0.out.elim fun H x => ⟨H, x.alloc (by omega) _⟩, by simp; omega, ?_, fun _ => by omega⟩, Lib.hid rfl⟩
    refine RowIs.mk8z (fun k hk => ?_) (fun k => by simp [go_sem])
    match k, hk with
    | 0, _ | 1, _ | 2, _ | 3, _ | 4, _ | 5, _ | 6, _ | 7, _ => simp [go_sem]
  case round =>
    obtain ⟨i, c, P, hi, hc, rfl, rfl, m, mo⟩ := hrel
    by_cases hlt : i < 8
    · have cx := m.rowX.cell hlt
      have cy := m.rowY.cell hlt
      have cp := m.rowP.cell hlt
      have fp := m.rowP.free hlt
      have bx := HlX.out i
      have by' := HlY.out i
      obtain ⟨e1, t1, s1', c1, q1, q2, q3, q4, l1, l2, l3, l4, e⟩ := ex_ra bx by' hc
      have M := Lib.hid m
      clear m bx by'
      go_wp2_with fail
      go_quiet (fail)
      go_wp2_with fail
      go_roundw
      case rel => exact ⟨i + 1, c1, upd P i s1', by omega, by omega, rfl, by go_num, (M.out.drewN _).set hlt l3, Lib.hid (add_tot mo.out e.out)⟩
      case measure => simp [intOf]; omega
    · obtain rfl : i = 8 := by omega
      have M := Lib.hid m
      have c0 := m.rowP.cell (show 0 < 8 by omega)
      clear m
      go_wp2_with fail
      have m := M.out
      refine (join_calls (P 0) (P 1) (P 2) (P 3) (P 4) (P 5) (P 6) (P 7) ⟨m.lt 0, m.lt 1, m.lt 2, m.lt 3, m.lt 4, m.lt 5, m.lt 6, m.lt 7⟩ u.heap.size 0 8 _ (m.rowP.cell (by omega)) (m.rowP.cell (by omega)) (m.rowP.cell (by omega)) (m.rowP.cell (by omega)) (m.rowP.cell (by omega)) (m.rowP.cell (by omega)) (m.rowP.cell (by omega)) (m.rowP.cell (by omega)) m.uo).mono ?_
      rintro e w' ⟨j0, j1, j2, j3, rfl, hj, ej, hbl⟩
      obtain ⟨H, rH⟩ := m.rowH
      have rH := rH.below hbl m.ur
      have p0 := rH.cell (show 0 < 4 by omega); have q0 := rH.free (show 0 < 4 by omega)
      have p1 := rH.cell (show 1 < 4 by omega); have q1 := rH.free (show 1 < 4 by omega)
      have p2 := rH.cell (show 2 < 4 by omega); have q2 := rH.free (show 2 < 4 by omega)
      have p3 := rH.cell (show 3 < 4 by omega); have q3 := rH.free (show 3 < 4 by omega)
      have HB := Lib.hid (m.below.trans (hbl.mono m.below.size))
      have Hej := Lib.hid ej
      clear rH hbl m ej
      go_wp2_with fail
      refine bodyPost_ret (v := .tuple #[.agg #[.int .u64 j0, .int .u64 j1, .int .u64 j2, .int .u64 j3], .int .u64 c]) (by simp [results, Tryd.results10, go_sem, *]) rfl ?_
      refine ⟨j0, j1, j2, j3, c, rfl, hj, hc, ?_, ?_⟩
      · have h1 := Hej.out.trans (val8_tot P)
        have h2 := mo.out
        have e8 : 4294967296 ^ 8 = 115792089237316195423570985008687907853269984665640564039457584007913129639936 := by simp
        rw [HeX.out, HeY.out, ← h1, e8] at h2
        omega
      · iterate 4 refine Below.setCell ?_ (by simp; omega) _
        exact HB.out

set_option maxRecDepth 100000 in
set_option maxHeartbeats 4000000 in
theorem refSub_calls (a0 a1 a2 a3 b0 b1 b2 b3 : Nat) (ha : ok4 a0 a1 a2 a3) (hb : ok4 b0 b1 b2 b3) (w : World) :
    Calls Tryd.prog 12 #[.agg #[.int .u64 a0, .int .u64 a1, .int .u64 a2, .int .u64 a3], .agg #[.int .u64 b0, .int .u64 b1, .int .u64 b2, .int .u64 b3]] w (SubPost (val4 a0 a1 a2 a3) (val4 b0 b1 b2 b3) w) := by
  go_enter Tryd.func12, Tryd.ntmps12
  go_wp2_with fail
  refine two_halves12 (pos := "ref.go:50") a0 a1 a2 a3 b0 b1 b2 b3 ha hb w.heap.size (w.heap.size + 1) _ _ _ _ _ _ _ _ _ _ _ ?_ ?_ (by first | (simp; done) | (simp; omega)) (by first | (simp; done) | (simp; omega)) (fun p q X Y s0 s1 s2 s3 u T => ?_)
  · exact ⟨by simp [go_sem], by simp [go_sem], by simp [go_sem], by simp [go_sem], fun k => by simp [go_sem]⟩
  · exact ⟨by simp [go_sem], by simp [go_sem], by simp [go_sem], by simp [go_sem], fun k => by simp [go_sem]⟩
  have r0 : ∃ H, RowIs u (w.heap.size + 1 + 1) 4 H := ⟨fnOf [0, 0, 0, 0], RowIs.below (RowIs.mk4 (by simp [go_sem]) (by simp [go_sem]) (by simp [go_sem]) (by simp [go_sem]) (fun k => by simp [go_sem])) T.below (by simp)⟩
  have h0 : Below w.heap.size w u := by
    refine Below.trans ?_ (T.below.mono (by simp; omega))
    repeat (first | exact Below.refl _ _ | refine Below.alloc ?_ (by first | (simp; done) | (simp; omega)) _)
  have lp := T.lp; have lq := T.lq; have hs := T.below.size
  simp at lp lq hs
  have up := T.up; have uq := T.uq; have hpq := T.ne; have rX := T.rowX; have rY := T.rowY
  have HlX := Lib.hid T.ltX; have HlY := Lib.hid T.ltY; have HeX := Lib.hid T.eX; have HeY := Lib.hid T.eY
  have Hr0 := Lib.hid r0; have Hh0 := Lib.hid h0; have HX := Lib.hid rX; have HY := Lib.hid rY
  clear T r0 h0 rX rY
  go_wp2_with fail
  go_loopw [9, 10] (fun cc i wr => ∃ (k c : Nat) (P : Nat → Nat), k ≤ 8 ∧ c ≤ 1 ∧ cc = .int .u64 c ∧ i = .int .i64 k ∧ RW w wr p q u.heap.size (w.heap.size + 1 + 1) 8 X Y P ∧ Hid (tot 4294967296 P k + tot 4294967296 Y k = tot 4294967296 X k + c * 4294967296 ^ k)) (fun _ i _ => 8 - (intOf i).toNat)
  case atStart =>
    refine ⟨0, 0, fun _ => 0, by omega, by omega, rfl, rfl, ⟨Hh0.out.alloc (by omega) _, by omega, by simp, by omega, by omega, by omega, HX.out.alloc up _, HY.out.alloc uq _, Hr0.out.elim fun H x => ⟨H, x.alloc (by omega) _⟩, by simp; omega, ?_, fun _ => by omega⟩, Lib.hid rfl⟩
    refine RowIs.mk8z (fun k hk => ?_) (fun k => by simp [go_sem])
    match k, hk with
    | 0, _ | 1, _ | 2, _ | 3, _ | 4, _ | 5, _ | 6, _ | 7, _ => simp [go_sem]
  case round =>
    obtain ⟨i, c, P, hi, hc, rfl, rfl, m, mo⟩ := hrel
    by_cases hlt : i < 8
    · have cx := m.rowX.cell hlt
      have cy := m.rowY.cell hlt
      have cp := m.rowP.cell hlt
      have fp := m.rowP.free hlt
      have bx := HlX.out i
      have by' := HlY.out i
      obtain ⟨d1, e1, t1, s1', c1, b1, q0, q1, q2, q3, q4, q5, l0, l1, l2, lb, l3, l4, e⟩ := ex_rs bx by' hc
      have M := Lib.hid m
      clear m bx by'
      go_wp2_with fail
      go_quiet (fail)
      go_wp2_with fail
      go_roundw
      case rel => exact ⟨i + 1, c1, upd P i s1', by omega, by omega, rfl, by go_num, (M.out.drewN _).set hlt l3, Lib.hid (sub_tot mo.out e.out)⟩
      case measure => simp [intOf]; omega
    · obtain rfl : i = 8 := by omega
      have M := Lib.hid m
      have c0 := m.rowP.cell (show 0 < 8 by omega)
      clear m
      go_wp2_with fail
      have m := M.out
      refine (join_calls (P 0) (P 1) (P 2) (P 3) (P 4) (P 5) (P 6) (P 7) ⟨m.lt 0, m.lt 1, m.lt 2, m.lt 3, m.lt 4, m.lt 5, m.lt 6, m.lt 7⟩ u.heap.size 0 8 _ (m.rowP.cell (by omega)) (m.rowP.cell (by omega)) (m.rowP.cell (by omega)) (m.rowP.cell (by omega)) (m.rowP.cell (by omega)) (m.rowP.cell (by omega)) (m.rowP.cell (by omega)) (m.rowP.cell (by omega)) m.uo).mono ?_
      rintro e w' ⟨j0, j1, j2, j3, rfl, hj, ej, hbl⟩
      obtain ⟨H, rH⟩ := m.rowH
      have rH := rH.below hbl m.ur
      have p0 := rH.cell (show 0 < 4 by omega); have q0 := rH.free (show 0 < 4 by omega)
      have p1 := rH.cell (show 1 < 4 by omega); have q1 := rH.free (show 1 < 4 by omega)
      have p2 := rH.cell (show 2 < 4 by omega); have q2 := rH.free (show 2 < 4 by omega)
      have p3 := rH.cell (show 3 < 4 by omega); have q3 := rH.free (show 3 < 4 by omega)
      have HB := Lib.hid (m.below.trans (hbl.mono m.below.size))
      have Hej := Lib.hid ej
      clear rH hbl m ej
      go_wp2_with fail
      refine bodyPost_ret (v := .tuple #[.agg #[.int .u64 j0, .int .u64 j1, .int .u64 j2, .int .u64 j3], .int .u64 c]) (by simp [results, Tryd.results12, go_sem, *]) rfl ?_
      refine ⟨j0, j1, j2, j3, c, rfl, hj, hc, ?_, ?_⟩
      · have h1 := Hej.out.trans (val8_tot P)
        have h2 := mo.out
        have e8 : 4294967296 ^ 8 = 115792089237316195423570985008687907853269984665640564039457584007913129639936 := by simp
        rw [HeX.out, HeY.out, ← h1, e8] at h2
        omega
      · iterate 4 refine Below.setCell ?_ (by simp; omega) _
        exact HB.out
#print axioms refAdd_calls
#print axioms refSub_calls
end Go.Proofs.YtopahcobdfdnlaaDoor
