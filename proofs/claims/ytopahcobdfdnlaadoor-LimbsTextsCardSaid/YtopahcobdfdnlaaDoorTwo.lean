/-
  Two numbers' halves at once, as the reference's Add, Sub and Mul take them: two calls and two new blocks in one region that draws its order. Conditions: each word below 2^64.
-/
import Derived.Test.YtopahcobdfdnlaaDoorHalf
import Derived.Test.YtopahcobdfdnlaaDoorHead
namespace Go.Proofs.YtopahcobdfdnlaaDoor
set_option linter.unusedVariables false
set_option linter.unusedSimpArgs false
open Go.RowKit

theorem readyB_at {ops : Array Oper} {got : Nat → Bool} {i : Nat} {o : Oper} {e : Edge} (h : readyB .any ops got i = true) (ho : ops[i]? = some o) (he : e ∈ o.after) (hb : Region.binds .any e = true) : got e.on = true := by
  unfold readyB at h
  rw [ho] at h
  have := (Array.all_eq_true_iff_forall_mem.1 h) e he
  simpa [hb] using this

def HalfV (A : Nat) (t : Value) : Prop := ∃ x0 x1 x2 x3 x4 x5 x6 x7 : Nat, t = .agg #[.int .u64 x0, .int .u64 x1, .int .u64 x2, .int .u64 x3, .int .u64 x4, .int .u64 x5, .int .u64 x6, .int .u64 x7] ∧ ok8 x0 x1 x2 x3 x4 x5 x6 x7 ∧ Hid (val8 x0 x1 x2 x3 x4 x5 x6 x7 = A)
def FreshZ (wr u : World) (t : Value) : Prop := ∃ p, t = .pointer (some ⟨p, 0, none⟩) ∧ wr.heap.size ≤ p ∧ p < u.heap.size ∧ RowIs u p 8 (fun _ => 0)
theorem FreshZ.grow {wr u u' : World} {t : Value} (h : FreshZ wr u t) (hb : Below u.heap.size u u') : FreshZ wr u' t := by
  obtain ⟨p, e, h1, h2, r⟩ := h
  exact ⟨p, e, h1, Nat.lt_of_lt_of_le h2 hb.size, r.below hb h2⟩

structure RI (got : Nat → Bool) (wr : World) (a0 a1 a2 a3 b0 b1 b2 b3 : Nat) (t6 t7 s0 s1 s2 s3 : Value) (u : World) : Prop where
  below : Below wr.heap.size wr u
  g0 : got 0 = true → s0 = .agg #[.int .u64 a0, .int .u64 a1, .int .u64 a2, .int .u64 a3]
  g1 : got 1 = true → HalfV (val4 a0 a1 a2 a3) s1
  g2 : got 2 = true → s2 = .agg #[.int .u64 b0, .int .u64 b1, .int .u64 b2, .int .u64 b3]
  g3 : got 3 = true → HalfV (val4 b0 b1 b2 b3) s3
  g4 : got 4 = true → FreshZ wr u t6
  g5 : got 5 = true → FreshZ wr u t7
  g45 : got 4 = true → got 5 = true → t6 ≠ t7
section
variable {got : Nat → Bool} {wr u u' : World} {a0 a1 a2 a3 b0 b1 b2 b3 : Nat} {t6 t7 s0 s1 s2 s3 : Value}
theorem RI.start (wr : World) (a0 a1 a2 a3 b0 b1 b2 b3 : Nat) : RI (fun _ => false) wr a0 a1 a2 a3 b0 b1 b2 b3 undef undef undef undef undef undef wr.drew :=
  ⟨(Below.refl _ _).drew, fun h => Bool.noConfusion h, fun h => Bool.noConfusion h, fun h => Bool.noConfusion h, fun h => Bool.noConfusion h, fun h => Bool.noConfusion h, fun h => Bool.noConfusion h, fun h => Bool.noConfusion h⟩
theorem RI.op0 (h : RI got wr a0 a1 a2 a3 b0 b1 b2 b3 t6 t7 s0 s1 s2 s3 u) : RI (fun j => j == 0 || got j) wr a0 a1 a2 a3 b0 b1 b2 b3 t6 t7 (.agg #[.int .u64 a0, .int .u64 a1, .int .u64 a2, .int .u64 a3]) s1 s2 s3 u :=
  ⟨h.below, fun _ => rfl, fun e => h.g1 (by simpa using e), fun e => h.g2 (by simpa using e), fun e => h.g3 (by simpa using e), fun e => h.g4 (by simpa using e), fun e => h.g5 (by simpa using e), fun e f => h.g45 (by simpa using e) (by simpa using f)⟩
theorem RI.op2 (h : RI got wr a0 a1 a2 a3 b0 b1 b2 b3 t6 t7 s0 s1 s2 s3 u) : RI (fun j => j == 2 || got j) wr a0 a1 a2 a3 b0 b1 b2 b3 t6 t7 s0 s1 (.agg #[.int .u64 b0, .int .u64 b1, .int .u64 b2, .int .u64 b3]) s3 u :=
  ⟨h.below, fun e => h.g0 (by simpa using e), fun e => h.g1 (by simpa using e), fun _ => rfl, fun e => h.g3 (by simpa using e), fun e => h.g4 (by simpa using e), fun e => h.g5 (by simpa using e), fun e f => h.g45 (by simpa using e) (by simpa using f)⟩
theorem RI.op1 (h : RI got wr a0 a1 a2 a3 b0 b1 b2 b3 t6 t7 s0 s1 s2 s3 u) {x : Value} (hx : HalfV (val4 a0 a1 a2 a3) x) : RI (fun j => j == 1 || got j) wr a0 a1 a2 a3 b0 b1 b2 b3 t6 t7 s0 x s2 s3 u :=
  ⟨h.below, fun e => h.g0 (by simpa using e), fun _ => hx, fun e => h.g2 (by simpa using e), fun e => h.g3 (by simpa using e), fun e => h.g4 (by simpa using e), fun e => h.g5 (by simpa using e), fun e f => h.g45 (by simpa using e) (by simpa using f)⟩
theorem RI.op3 (h : RI got wr a0 a1 a2 a3 b0 b1 b2 b3 t6 t7 s0 s1 s2 s3 u) {x : Value} (hx : HalfV (val4 b0 b1 b2 b3) x) : RI (fun j => j == 3 || got j) wr a0 a1 a2 a3 b0 b1 b2 b3 t6 t7 s0 s1 s2 x u :=
  ⟨h.below, fun e => h.g0 (by simpa using e), fun e => h.g1 (by simpa using e), fun e => h.g2 (by simpa using e), fun _ => hx, fun e => h.g4 (by simpa using e), fun e => h.g5 (by simpa using e), fun e f => h.g45 (by simpa using e) (by simpa using f)⟩
theorem RI.grow (h : RI got wr a0 a1 a2 a3 b0 b1 b2 b3 t6 t7 s0 s1 s2 s3 u) (hb : Below u.heap.size u u') : RI got wr a0 a1 a2 a3 b0 b1 b2 b3 t6 t7 s0 s1 s2 s3 u' :=
  ⟨h.below.trans (hb.mono h.below.size), h.g0, h.g1, h.g2, h.g3, fun e => (h.g4 e).grow hb, fun e => (h.g5 e).grow hb, h.g45⟩
theorem fresh_new (wr u : World) (hs : wr.heap.size ≤ u.heap.size) (t : TypeId) : FreshZ wr (u.alloc (.cells #[.int .u64 0, .int .u64 0, .int .u64 0, .int .u64 0, .int .u64 0, .int .u64 0, .int .u64 0, .int .u64 0] t)) (.pointer (some ⟨u.heap.size, 0, none⟩)) :=
  ⟨_, rfl, hs, by simp, by
    intro k hk
    refine ⟨?_, World.frozen?_alloc_new _ _ _ _⟩
    rw [World.cell?_alloc_new]
    match k, hk with
    | 0, _ | 1, _ | 2, _ | 3, _ | 4, _ | 5, _ | 6, _ | 7, _ => rfl⟩
theorem below_alloc (u : World) (o : Obj) : Below u.heap.size u (u.alloc o) := (Below.refl _ _).alloc (Nat.le_refl _) o
theorem fresh_ne {wr u : World} {t : Value} (h : FreshZ wr u t) : t ≠ .pointer (some ⟨u.heap.size, 0, none⟩) := by
  obtain ⟨p, rfl, _, h2, _⟩ := h
  intro e
  injection e with e
  injection e with e
  injection e with e
  omega
theorem RI.op4 (h : RI got wr a0 a1 a2 a3 b0 b1 b2 b3 t6 t7 s0 s1 s2 s3 u) (t : TypeId) : RI (fun j => j == 4 || got j) wr a0 a1 a2 a3 b0 b1 b2 b3 (.pointer (some ⟨u.heap.size, 0, none⟩)) t7 s0 s1 s2 s3 (u.alloc (.cells #[.int .u64 0, .int .u64 0, .int .u64 0, .int .u64 0, .int .u64 0, .int .u64 0, .int .u64 0, .int .u64 0] t)) :=
  ⟨h.below.alloc h.below.size _, fun e => h.g0 (by simpa using e), fun e => h.g1 (by simpa using e), fun e => h.g2 (by simpa using e), fun e => h.g3 (by simpa using e),
    fun _ => fresh_new wr u h.below.size t, fun e => (h.g5 (by simpa using e)).grow (below_alloc _ _), fun _ f => (fresh_ne (h.g5 (by simpa using f))).symm⟩
theorem RI.op5 (h : RI got wr a0 a1 a2 a3 b0 b1 b2 b3 t6 t7 s0 s1 s2 s3 u) (t : TypeId) : RI (fun j => j == 5 || got j) wr a0 a1 a2 a3 b0 b1 b2 b3 t6 (.pointer (some ⟨u.heap.size, 0, none⟩)) s0 s1 s2 s3 (u.alloc (.cells #[.int .u64 0, .int .u64 0, .int .u64 0, .int .u64 0, .int .u64 0, .int .u64 0, .int .u64 0, .int .u64 0] t)) :=
  ⟨h.below.alloc h.below.size _, fun e => h.g0 (by simpa using e), fun e => h.g1 (by simpa using e), fun e => h.g2 (by simpa using e), fun e => h.g3 (by simpa using e),
    fun e => (h.g4 (by simpa using e)).grow (below_alloc _ _), fun _ => fresh_new wr u h.below.size t, fun e _ => fresh_ne (h.g4 (by simpa using e))⟩
theorem RI.all (h : RI got wr a0 a1 a2 a3 b0 b1 b2 b3 t6 t7 s0 s1 s2 s3 u) (hg : ∀ j, j < 6 → got j = true) :
    ∃ p q x0 x1 x2 x3 x4 x5 x6 x7 y0 y1 y2 y3 y4 y5 y6 y7 : Nat, t6 = .pointer (some ⟨p, 0, none⟩) ∧ t7 = .pointer (some ⟨q, 0, none⟩) ∧
      s1 = .agg #[.int .u64 x0, .int .u64 x1, .int .u64 x2, .int .u64 x3, .int .u64 x4, .int .u64 x5, .int .u64 x6, .int .u64 x7] ∧ s3 = .agg #[.int .u64 y0, .int .u64 y1, .int .u64 y2, .int .u64 y3, .int .u64 y4, .int .u64 y5, .int .u64 y6, .int .u64 y7] ∧
      ok8 x0 x1 x2 x3 x4 x5 x6 x7 ∧ ok8 y0 y1 y2 y3 y4 y5 y6 y7 ∧ Hid (val8 x0 x1 x2 x3 x4 x5 x6 x7 = val4 a0 a1 a2 a3) ∧ Hid (val8 y0 y1 y2 y3 y4 y5 y6 y7 = val4 b0 b1 b2 b3) ∧
      wr.heap.size ≤ p ∧ wr.heap.size ≤ q ∧ p < u.heap.size ∧ q < u.heap.size ∧ ¬ p = q ∧ RowIs u p 8 (fun _ => 0) ∧ RowIs u q 8 (fun _ => 0) ∧ Below wr.heap.size wr u := by
  obtain ⟨x0, x1, x2, x3, x4, x5, x6, x7, e1, hx, ex⟩ := h.g1 (hg 1 (by omega))
  obtain ⟨y0, y1, y2, y3, y4, y5, y6, y7, e2, hy, ey⟩ := h.g3 (hg 3 (by omega))
  obtain ⟨p, e3, lp, up, rp⟩ := h.g4 (hg 4 (by omega))
  obtain ⟨q, e4, lq, uq, rq⟩ := h.g5 (hg 5 (by omega))
  refine ⟨p, q, x0, x1, x2, x3, x4, x5, x6, x7, y0, y1, y2, y3, y4, y5, y6, y7, e3, e4, e1, e2, hx, hy, ex, ey, lp, lq, up, uq, fun e => ?_, rp, rq, h.below⟩
  subst e
  exact h.g45 (hg 4 (by omega)) (hg 5 (by omega)) (e3.trans e4.symm)
end

/-- What stands behind the region: the two blocks hold the halves. -/
structure TwoH (wr u : World) (p q : Nat) (X Y : Nat → Nat) (A B : Nat) : Prop where
  below : Below wr.heap.size wr u
  lp : wr.heap.size ≤ p
  lq : wr.heap.size ≤ q
  up : p < u.heap.size
  uq : q < u.heap.size
  ne : ¬ p = q
  rowX : RowIs u p 8 X
  rowY : RowIs u q 8 Y
  ltX : ∀ k, X k < 4294967296
  ltY : ∀ k, Y k < 4294967296
  eX : tot 4294967296 X 8 = A
  eY : tot 4294967296 Y 8 = B
def set8 (w : World) (b : Nat) (d0 d1 d2 d3 d4 d5 d6 d7 : Nat) : World :=
  (((((((w.setCell ⟨b, 0, none⟩ (.int .u64 d0)).setCell ⟨b, 1, none⟩ (.int .u64 d1)).setCell ⟨b, 2, none⟩ (.int .u64 d2)).setCell ⟨b, 3, none⟩ (.int .u64 d3)).setCell ⟨b, 4, none⟩ (.int .u64 d4)).setCell ⟨b, 5, none⟩ (.int .u64 d5)).setCell ⟨b, 6, none⟩ (.int .u64 d6)).setCell ⟨b, 7, none⟩ (.int .u64 d7)
theorem RowIs.ext {w : World} {b n : Nat} {P R : Nat → Nat} (h : RowIs w b n P) (e : ∀ k, k < n → P k = R k) : RowIs w b n R := fun k hk => ⟨by rw [← e k hk]; exact h.cell hk, h.free hk⟩
theorem RowIs.set8 {w : World} {b : Nat} {P : Nat → Nat} (h : RowIs w b 8 P) (d0 d1 d2 d3 d4 d5 d6 d7 : Nat) : RowIs (Go.Proofs.YtopahcobdfdnlaaDoor.set8 w b d0 d1 d2 d3 d4 d5 d6 d7) b 8 (fnOf [d0, d1, d2, d3, d4, d5, d6, d7]) := by
  have r := (((((((h.set (show 0 < 8 by omega) (v := d0)).set (show 1 < 8 by omega) (v := d1)).set (show 2 < 8 by omega) (v := d2)).set (show 3 < 8 by omega) (v := d3)).set (show 4 < 8 by omega) (v := d4)).set (show 5 < 8 by omega) (v := d5)).set (show 6 < 8 by omega) (v := d6)).set (show 7 < 8 by omega) (v := d7)
  unfold Go.Proofs.YtopahcobdfdnlaaDoor.set8
  refine r.ext fun k hk => ?_
  match k, hk with
  | 0, _ | 1, _ | 2, _ | 3, _ | 4, _ | 5, _ | 6, _ | 7, _ => rfl
theorem RowIs.set8_other {w : World} {b c n : Nat} {P : Nat → Nat} (h : RowIs w b n P) (hc : c ≠ b) (d0 d1 d2 d3 d4 d5 d6 d7 : Nat) : RowIs (Go.Proofs.YtopahcobdfdnlaaDoor.set8 w c d0 d1 d2 d3 d4 d5 d6 d7) b n P :=
  (((((((h.other hc _).other hc _).other hc _).other hc _).other hc _).other hc _).other hc _).other hc _
theorem below_set8 {B : Nat} {w w' : World} {b : Nat} (h : Below B w w') (hb : B ≤ b) (d0 d1 d2 d3 d4 d5 d6 d7 : Nat) : Below B w (set8 w' b d0 d1 d2 d3 d4 d5 d6 d7) :=
  (((((((h.setCell (p := ⟨b, 0, none⟩) hb _).setCell (p := ⟨b, 1, none⟩) hb _).setCell (p := ⟨b, 2, none⟩) hb _).setCell (p := ⟨b, 3, none⟩) hb _).setCell (p := ⟨b, 4, none⟩) hb _).setCell (p := ⟨b, 5, none⟩) hb _).setCell (p := ⟨b, 6, none⟩) hb _).setCell (p := ⟨b, 7, none⟩) hb _
theorem size_set8 (w : World) (b d0 d1 d2 d3 d4 d5 d6 d7 : Nat) : (set8 w b d0 d1 d2 d3 d4 d5 d6 d7).heap.size = w.heap.size := by
  unfold set8; simp only [World.size_setCell]
theorem fnOf8_lt {x0 x1 x2 x3 x4 x5 x6 x7 : Nat} (h : ok8 x0 x1 x2 x3 x4 x5 x6 x7) (k : Nat) : fnOf [x0, x1, x2, x3, x4, x5, x6, x7] k < 4294967296 := by
  obtain ⟨h0, h1, h2, h3, h4, h5, h6, h7⟩ := h
  unfold fnOf
  match k with
  | 0 => exact h0
  | 1 => exact h1
  | 2 => exact h2
  | 3 => exact h3
  | 4 => exact h4
  | 5 => exact h5
  | 6 => exact h6
  | 7 => exact h7
  | k + 8 => simp
theorem val8_tot (P : Nat → Nat) : val8 (P 0) (P 1) (P 2) (P 3) (P 4) (P 5) (P 6) (P 7) = tot 4294967296 P 8 := by
  unfold val8
  simp only [tot]
  omega
theorem TwoH.store {wr u : World} {p q A B x0 x1 x2 x3 x4 x5 x6 x7 y0 y1 y2 y3 y4 y5 y6 y7 : Nat} (hx : ok8 x0 x1 x2 x3 x4 x5 x6 x7) (hy : ok8 y0 y1 y2 y3 y4 y5 y6 y7) (ex : Hid (val8 x0 x1 x2 x3 x4 x5 x6 x7 = A)) (ey : Hid (val8 y0 y1 y2 y3 y4 y5 y6 y7 = B))
    (lp : wr.heap.size ≤ p) (lq : wr.heap.size ≤ q) (up : p < u.heap.size) (uq : q < u.heap.size) (hpq : ¬ p = q) (rp : RowIs u p 8 (fun _ => 0)) (rq : RowIs u q 8 (fun _ => 0)) (hbl : Below wr.heap.size wr u) :
    TwoH wr (set8 (set8 u p x0 x1 x2 x3 x4 x5 x6 x7) q y0 y1 y2 y3 y4 y5 y6 y7) p q (fnOf [x0, x1, x2, x3, x4, x5, x6, x7]) (fnOf [y0, y1, y2, y3, y4, y5, y6, y7]) A B :=
  ⟨below_set8 (below_set8 hbl lp _ _ _ _ _ _ _ _) lq _ _ _ _ _ _ _ _, lp, lq, by rw [size_set8, size_set8]; exact up, by rw [size_set8, size_set8]; exact uq, hpq,
    (rp.set8 _ _ _ _ _ _ _ _).set8_other (fun e => hpq e.symm) _ _ _ _ _ _ _ _, (rq.set8_other hpq _ _ _ _ _ _ _ _).set8 _ _ _ _ _ _ _ _, fnOf8_lt hx, fnOf8_lt hy,
    (val8_tot (fnOf [x0, x1, x2, x3, x4, x5, x6, x7])).symm.trans ex.out, (val8_tot (fnOf [y0, y1, y2, y3, y4, y5, y6, y7])).symm.trans ey.out⟩

def halvesOps12 (pos : String) : List Oper := [
    { dst := some 12, op := Op.load 24 (Operand.tmp 2), type := 24, pos := pos, after := #[], guard := none },
    { dst := some 13, op := Op.call { callee := Callee.value (Operand.func 41), args := #[Operand.tmp 12], argTypes := #[24] }, type := 59, pos := pos, after := #[{ on := 0, ground := Ground.data }], guard := none },
    { dst := some 14, op := Op.load 24 (Operand.tmp 3), type := 24, pos := pos, after := #[], guard := none },
    { dst := some 15, op := Op.call { callee := Callee.value (Operand.func 41), args := #[Operand.tmp 14], argTypes := #[24] }, type := 59, pos := pos, after := #[{ on := 2, ground := Ground.data }, { on := 1, ground := Ground.chain }], guard := none },
    { dst := some 6, op := Op.alloc 59, type := 0, pos := pos, after := #[], guard := none },
    { dst := some 7, op := Op.alloc 59, type := 0, pos := pos, after := #[], guard := none },
    { dst := none, op := Op.store 59 (Operand.tmp 6) (Operand.tmp 13), type := 0, pos := pos, after := #[{ on := 4, ground := Ground.data }, { on := 1, ground := Ground.data }, { on := 3, ground := Ground.chain }, { on := 0, ground := Ground.phase }, { on := 1, ground := Ground.phase }, { on := 2, ground := Ground.textOnly Departure.lateStores }, { on := 3, ground := Ground.textOnly Departure.lateStoresUnsure }, { on := 4, ground := Ground.phase }, { on := 5, ground := Ground.phase }], guard := none },
    { dst := none, op := Op.store 59 (Operand.tmp 7) (Operand.tmp 15), type := 0, pos := pos, after := #[{ on := 5, ground := Ground.data }, { on := 3, ground := Ground.data }, { on := 6, ground := Ground.chain }, { on := 0, ground := Ground.phase }, { on := 1, ground := Ground.phase }, { on := 2, ground := Ground.phase }, { on := 3, ground := Ground.phase }, { on := 4, ground := Ground.phase }, { on := 5, ground := Ground.phase }, { on := 6, ground := Ground.phase }], guard := none }]
set_option maxRecDepth 100000 in
set_option maxHeartbeats 400000 in
theorem two_halves12 {id : Nat} {pos : String} {Q : Exit → Act → World → Prop} (a0 a1 a2 a3 b0 b1 b2 b3 : Nat) (ha : ok4 a0 a1 a2 a3) (hb : ok4 b0 b1 b2 b3) (gA gB : Nat) (wr : World) (v0 v1 v4 v5 v8 v9 v10 v11 : Value) (rest : List Value) (ds : List Deferred)
    (rA : Row4 wr gA a0 a1 a2 a3) (rB : Row4 wr gB b0 b1 b2 b3) (lA : gA < wr.heap.size) (lB : gB < wr.heap.size)
    (next : ∀ (p q : Nat) (X Y : Nat → Nat) (s0 s1 s2 s3 : Value) (u : World), TwoH wr u p q X Y (val4 a0 a1 a2 a3) (val4 b0 b1 b2 b3) → Q .normal { tmps := (v0 :: v1 :: .pointer (some ⟨gA, 0, none⟩) :: .pointer (some ⟨gB, 0, none⟩) :: v4 :: v5 :: .pointer (some ⟨p, 0, none⟩) :: .pointer (some ⟨q, 0, none⟩) :: v8 :: v9 :: v10 :: v11 :: s0 :: s1 :: s2 :: s3 :: rest).toArray, defers := ds } u) :
    (Code.region id (halvesOps12 pos).toArray true).wp Tryd.prog Q { tmps := (v0 :: v1 :: .pointer (some ⟨gA, 0, none⟩) :: .pointer (some ⟨gB, 0, none⟩) :: v4 :: v5 :: undef :: undef :: v8 :: v9 :: v10 :: v11 :: undef :: undef :: undef :: undef :: rest).toArray, defers := ds } wr := by
  unfold halvesOps12
  refine region_head 6 (fun got b u => ∃ t6 t7 s0 s1 s2 s3 : Value, b = { tmps := (v0 :: v1 :: .pointer (some ⟨gA, 0, none⟩) :: .pointer (some ⟨gB, 0, none⟩) :: v4 :: v5 :: t6 :: t7 :: v8 :: v9 :: v10 :: v11 :: s0 :: s1 :: s2 :: s3 :: rest).toArray, defers := ds } ∧ RI got wr a0 a1 a2 a3 b0 b1 b2 b3 t6 t7 s0 s1 s2 s3 u) (by kernel_rfl) (by simp) (by kernel_rfl) (by kernel_rfl) (by kernel_rfl) (by kernel_rfl) ?_ ?_ ?_
  · exact ⟨undef, undef, undef, undef, undef, undef, rfl, RI.start wr a0 a1 a2 a3 b0 b1 b2 b3⟩
  · rintro got b u i hi h0 hr ⟨t6, t7, s0, s1, s2, s3, rfl, H⟩
    match i, hi with
    | 0, _ =>
      obtain ⟨k0, k1, k2, k3, kf⟩ := rA.below H.below lA
      have HH := Lib.hid H
      clear H hr
      refine wpOp_step rfl fun K hK => ?_
      go_simp
      exact hK _ _ ⟨_, _, _, _, _, _, rfl, HH.out.op0⟩
    | 1, _ =>
      have e : got 0 = true := readyB_at (e := { on := 0, ground := Ground.data }) hr rfl (by simp) rfl
      obtain rfl := H.g0 e
      have HH := Lib.hid H
      clear H hr
      refine wpOp_step rfl fun K hK => ?_
      go_simp
      refine (halves_calls a0 a1 a2 a3 ha _).mono ?_
      rintro e u' ⟨x0, x1, x2, x3, x4, x5, x6, x7, rfl, hx, ex, hbl⟩
      exact hK _ _ ⟨_, _, _, _, _, _, rfl, (HH.out.grow hbl).op1 ⟨x0, x1, x2, x3, x4, x5, x6, x7, rfl, hx, ex⟩⟩
    | 2, _ =>
      obtain ⟨k0, k1, k2, k3, kf⟩ := rB.below H.below lB
      have HH := Lib.hid H
      clear H hr
      refine wpOp_step rfl fun K hK => ?_
      go_simp
      exact hK _ _ ⟨_, _, _, _, _, _, rfl, HH.out.op2⟩
    | 3, _ =>
      have e : got 2 = true := readyB_at (e := { on := 2, ground := Ground.data }) hr rfl (by simp) rfl
      obtain rfl := H.g2 e
      have HH := Lib.hid H
      clear H hr
      refine wpOp_step rfl fun K hK => ?_
      go_simp
      refine (halves_calls b0 b1 b2 b3 hb _).mono ?_
      rintro e u' ⟨x0, x1, x2, x3, x4, x5, x6, x7, rfl, hx, ex, hbl⟩
      exact hK _ _ ⟨_, _, _, _, _, _, rfl, (HH.out.grow hbl).op3 ⟨x0, x1, x2, x3, x4, x5, x6, x7, rfl, hx, ex⟩⟩
    | 4, _ =>
      have HH := Lib.hid H
      clear H hr
      refine wpOp_step rfl fun K hK => ?_
      go_simp
      exact hK _ _ ⟨_, _, _, _, _, _, rfl, HH.out.op4 _⟩
    | 5, _ =>
      have HH := Lib.hid H
      clear H hr
      refine wpOp_step rfl fun K hK => ?_
      go_simp
      exact hK _ _ ⟨_, _, _, _, _, _, rfl, HH.out.op5 _⟩
  · rintro got b u hall ⟨t6, t7, s0, s1, s2, s3, rfl, H⟩
    obtain ⟨p, q, x0, x1, x2, x3, x4, x5, x6, x7, y0, y1, y2, y3, y4, y5, y6, y7, rfl, rfl, rfl, rfl, hx, hy, ex, ey, lp, lq, up, uq, hpq, rp, rq, hbl⟩ := H.all hall
    have cp0 := rp.cell (show 0 < 8 by omega); have fp0 := rp.free (show 0 < 8 by omega)
    have cp1 := rp.cell (show 1 < 8 by omega); have fp1 := rp.free (show 1 < 8 by omega)
    have cp2 := rp.cell (show 2 < 8 by omega); have fp2 := rp.free (show 2 < 8 by omega)
    have cp3 := rp.cell (show 3 < 8 by omega); have fp3 := rp.free (show 3 < 8 by omega)
    have cp4 := rp.cell (show 4 < 8 by omega); have fp4 := rp.free (show 4 < 8 by omega)
    have cp5 := rp.cell (show 5 < 8 by omega); have fp5 := rp.free (show 5 < 8 by omega)
    have cp6 := rp.cell (show 6 < 8 by omega); have fp6 := rp.free (show 6 < 8 by omega)
    have cp7 := rp.cell (show 7 < 8 by omega); have fp7 := rp.free (show 7 < 8 by omega)
    have cq0 := rq.cell (show 0 < 8 by omega); have fq0 := rq.free (show 0 < 8 by omega)
    have cq1 := rq.cell (show 1 < 8 by omega); have fq1 := rq.free (show 1 < 8 by omega)
    have cq2 := rq.cell (show 2 < 8 by omega); have fq2 := rq.free (show 2 < 8 by omega)
    have cq3 := rq.cell (show 3 < 8 by omega); have fq3 := rq.free (show 3 < 8 by omega)
    have cq4 := rq.cell (show 4 < 8 by omega); have fq4 := rq.free (show 4 < 8 by omega)
    have cq5 := rq.cell (show 5 < 8 by omega); have fq5 := rq.free (show 5 < 8 by omega)
    have cq6 := rq.cell (show 6 < 8 by omega); have fq6 := rq.free (show 6 < 8 by omega)
    have cq7 := rq.cell (show 7 < 8 by omega); have fq7 := rq.free (show 7 < 8 by omega)
    have HF := Lib.hid (TwoH.store hx hy ex ey lp lq up uq hpq rp rq hbl)
    have hqp : ¬ q = p := fun e => hpq e.symm
    clear H hx hy ex ey lp lq up uq rp rq hbl hall rA rB
    refine wpList_step fun K hK => ?_
    go_simp
    refine hK _ _ ?_
    refine wpList_step fun K2 hK2 => ?_
    go_simp
    refine hK2 _ _ ?_
    refine wpList_nil ?_
    exact next _ _ _ _ _ _ _ _ _ HF.out
def halvesOps13 (pos : String) : List Oper := [
    { dst := some 13, op := Op.load 24 (Operand.tmp 2), type := 24, pos := pos, after := #[], guard := none },
    { dst := some 14, op := Op.call { callee := Callee.value (Operand.func 41), args := #[Operand.tmp 13], argTypes := #[24] }, type := 59, pos := pos, after := #[{ on := 0, ground := Ground.data }], guard := none },
    { dst := some 15, op := Op.load 24 (Operand.tmp 3), type := 24, pos := pos, after := #[], guard := none },
    { dst := some 16, op := Op.call { callee := Callee.value (Operand.func 41), args := #[Operand.tmp 15], argTypes := #[24] }, type := 59, pos := pos, after := #[{ on := 2, ground := Ground.data }, { on := 1, ground := Ground.chain }], guard := none },
    { dst := some 6, op := Op.alloc 59, type := 0, pos := pos, after := #[], guard := none },
    { dst := some 7, op := Op.alloc 59, type := 0, pos := pos, after := #[], guard := none },
    { dst := none, op := Op.store 59 (Operand.tmp 6) (Operand.tmp 14), type := 0, pos := pos, after := #[{ on := 4, ground := Ground.data }, { on := 1, ground := Ground.data }, { on := 3, ground := Ground.chain }, { on := 0, ground := Ground.phase }, { on := 1, ground := Ground.phase }, { on := 2, ground := Ground.textOnly Departure.lateStores }, { on := 3, ground := Ground.textOnly Departure.lateStoresUnsure }, { on := 4, ground := Ground.phase }, { on := 5, ground := Ground.phase }], guard := none },
    { dst := none, op := Op.store 59 (Operand.tmp 7) (Operand.tmp 16), type := 0, pos := pos, after := #[{ on := 5, ground := Ground.data }, { on := 3, ground := Ground.data }, { on := 6, ground := Ground.chain }, { on := 0, ground := Ground.phase }, { on := 1, ground := Ground.phase }, { on := 2, ground := Ground.phase }, { on := 3, ground := Ground.phase }, { on := 4, ground := Ground.phase }, { on := 5, ground := Ground.phase }, { on := 6, ground := Ground.phase }], guard := none }]
set_option maxRecDepth 100000 in
set_option maxHeartbeats 400000 in
theorem two_halves13 {id : Nat} {pos : String} {Q : Exit → Act → World → Prop} (a0 a1 a2 a3 b0 b1 b2 b3 : Nat) (ha : ok4 a0 a1 a2 a3) (hb : ok4 b0 b1 b2 b3) (gA gB : Nat) (wr : World) (v0 v1 v4 v5 v8 v9 v10 v11 v12 : Value) (rest : List Value) (ds : List Deferred)
    (rA : Row4 wr gA a0 a1 a2 a3) (rB : Row4 wr gB b0 b1 b2 b3) (lA : gA < wr.heap.size) (lB : gB < wr.heap.size)
    (next : ∀ (p q : Nat) (X Y : Nat → Nat) (s0 s1 s2 s3 : Value) (u : World), TwoH wr u p q X Y (val4 a0 a1 a2 a3) (val4 b0 b1 b2 b3) → Q .normal { tmps := (v0 :: v1 :: .pointer (some ⟨gA, 0, none⟩) :: .pointer (some ⟨gB, 0, none⟩) :: v4 :: v5 :: .pointer (some ⟨p, 0, none⟩) :: .pointer (some ⟨q, 0, none⟩) :: v8 :: v9 :: v10 :: v11 :: v12 :: s0 :: s1 :: s2 :: s3 :: rest).toArray, defers := ds } u) :
    (Code.region id (halvesOps13 pos).toArray true).wp Tryd.prog Q { tmps := (v0 :: v1 :: .pointer (some ⟨gA, 0, none⟩) :: .pointer (some ⟨gB, 0, none⟩) :: v4 :: v5 :: undef :: undef :: v8 :: v9 :: v10 :: v11 :: v12 :: undef :: undef :: undef :: undef :: rest).toArray, defers := ds } wr := by
  unfold halvesOps13
  refine region_head 6 (fun got b u => ∃ t6 t7 s0 s1 s2 s3 : Value, b = { tmps := (v0 :: v1 :: .pointer (some ⟨gA, 0, none⟩) :: .pointer (some ⟨gB, 0, none⟩) :: v4 :: v5 :: t6 :: t7 :: v8 :: v9 :: v10 :: v11 :: v12 :: s0 :: s1 :: s2 :: s3 :: rest).toArray, defers := ds } ∧ RI got wr a0 a1 a2 a3 b0 b1 b2 b3 t6 t7 s0 s1 s2 s3 u) (by kernel_rfl) (by simp) (by kernel_rfl) (by kernel_rfl) (by kernel_rfl) (by kernel_rfl) ?_ ?_ ?_
  · exact ⟨undef, undef, undef, undef, undef, undef, rfl, RI.start wr a0 a1 a2 a3 b0 b1 b2 b3⟩
  · rintro got b u i hi h0 hr ⟨t6, t7, s0, s1, s2, s3, rfl, H⟩
    match i, hi with
    | 0, _ =>
      obtain ⟨k0, k1, k2, k3, kf⟩ := rA.below H.below lA
      have HH := Lib.hid H
      clear H hr
      refine wpOp_step rfl fun K hK => ?_
      go_simp
      exact hK _ _ ⟨_, _, _, _, _, _, rfl, HH.out.op0⟩
    | 1, _ =>
      have e : got 0 = true := readyB_at (e := { on := 0, ground := Ground.data }) hr rfl (by simp) rfl
      obtain rfl := H.g0 e
      have HH := Lib.hid H
      clear H hr
      refine wpOp_step rfl fun K hK => ?_
      go_simp
      refine (halves_calls a0 a1 a2 a3 ha _).mono ?_
      rintro e u' ⟨x0, x1, x2, x3, x4, x5, x6, x7, rfl, hx, ex, hbl⟩
      exact hK _ _ ⟨_, _, _, _, _, _, rfl, (HH.out.grow hbl).op1 ⟨x0, x1, x2, x3, x4, x5, x6, x7, rfl, hx, ex⟩⟩
    | 2, _ =>
      obtain ⟨k0, k1, k2, k3, kf⟩ := rB.below H.below lB
      have HH := Lib.hid H
      clear H hr
      refine wpOp_step rfl fun K hK => ?_
      go_simp
      exact hK _ _ ⟨_, _, _, _, _, _, rfl, HH.out.op2⟩
    | 3, _ =>
      have e : got 2 = true := readyB_at (e := { on := 2, ground := Ground.data }) hr rfl (by simp) rfl
      obtain rfl := H.g2 e
      have HH := Lib.hid H
      clear H hr
      refine wpOp_step rfl fun K hK => ?_
      go_simp
      refine (halves_calls b0 b1 b2 b3 hb _).mono ?_
      rintro e u' ⟨x0, x1, x2, x3, x4, x5, x6, x7, rfl, hx, ex, hbl⟩
      exact hK _ _ ⟨_, _, _, _, _, _, rfl, (HH.out.grow hbl).op3 ⟨x0, x1, x2, x3, x4, x5, x6, x7, rfl, hx, ex⟩⟩
    | 4, _ =>
      have HH := Lib.hid H
      clear H hr
      refine wpOp_step rfl fun K hK => ?_
      go_simp
      exact hK _ _ ⟨_, _, _, _, _, _, rfl, HH.out.op4 _⟩
    | 5, _ =>
      have HH := Lib.hid H
      clear H hr
      refine wpOp_step rfl fun K hK => ?_
      go_simp
      exact hK _ _ ⟨_, _, _, _, _, _, rfl, HH.out.op5 _⟩
  · rintro got b u hall ⟨t6, t7, s0, s1, s2, s3, rfl, H⟩
    obtain ⟨p, q, x0, x1, x2, x3, x4, x5, x6, x7, y0, y1, y2, y3, y4, y5, y6, y7, rfl, rfl, rfl, rfl, hx, hy, ex, ey, lp, lq, up, uq, hpq, rp, rq, hbl⟩ := H.all hall
    have cp0 := rp.cell (show 0 < 8 by omega); have fp0 := rp.free (show 0 < 8 by omega)
    have cp1 := rp.cell (show 1 < 8 by omega); have fp1 := rp.free (show 1 < 8 by omega)
    have cp2 := rp.cell (show 2 < 8 by omega); have fp2 := rp.free (show 2 < 8 by omega)
    have cp3 := rp.cell (show 3 < 8 by omega); have fp3 := rp.free (show 3 < 8 by omega)
    have cp4 := rp.cell (show 4 < 8 by omega); have fp4 := rp.free (show 4 < 8 by omega)
    have cp5 := rp.cell (show 5 < 8 by omega); have fp5 := rp.free (show 5 < 8 by omega)
    have cp6 := rp.cell (show 6 < 8 by omega); have fp6 := rp.free (show 6 < 8 by omega)
    have cp7 := rp.cell (show 7 < 8 by omega); have fp7 := rp.free (show 7 < 8 by omega)
    have cq0 := rq.cell (show 0 < 8 by omega); have fq0 := rq.free (show 0 < 8 by omega)
    have cq1 := rq.cell (show 1 < 8 by omega); have fq1 := rq.free (show 1 < 8 by omega)
    have cq2 := rq.cell (show 2 < 8 by omega); have fq2 := rq.free (show 2 < 8 by omega)
    have cq3 := rq.cell (show 3 < 8 by omega); have fq3 := rq.free (show 3 < 8 by omega)
    have cq4 := rq.cell (show 4 < 8 by omega); have fq4 := rq.free (show 4 < 8 by omega)
    have cq5 := rq.cell (show 5 < 8 by omega); have fq5 := rq.free (show 5 < 8 by omega)
    have cq6 := rq.cell (show 6 < 8 by omega); have fq6 := rq.free (show 6 < 8 by omega)
    have cq7 := rq.cell (show 7 < 8 by omega); have fq7 := rq.free (show 7 < 8 by omega)
    have HF := Lib.hid (TwoH.store hx hy ex ey lp lq up uq hpq rp rq hbl)
    have hqp : ¬ q = p := fun e => hpq e.symm
    clear H hx hy ex ey lp lq up uq rp rq hbl hall rA rB
    refine wpList_step fun K hK => ?_
    go_simp
    refine hK _ _ ?_
    refine wpList_step fun K2 hK2 => ?_
    go_simp
    refine hK2 _ _ ?_
    refine wpList_nil ?_
    exact next _ _ _ _ _ _ _ _ _ HF.out
end Go.Proofs.YtopahcobdfdnlaaDoor
