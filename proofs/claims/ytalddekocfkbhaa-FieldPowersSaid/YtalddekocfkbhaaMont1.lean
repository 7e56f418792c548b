/-
  Three numbers' halves at once, as the reference's product takes them: four calls and three new blocks in one region that draws its order. Conditions: words below 2^64.
-/
import Derived.Test.YtalddekocfkbhaaRHalf
import Derived.Test.YtalddekocfkbhaaHead
import Derived.Test.YtalddekocfkbhaaRDown
namespace Go.Proofs.Ytalddekocfkbhaa
set_option linter.unusedVariables false
set_option linter.unusedSimpArgs false
open Go.RowKit

theorem readyB_at {ops : Array Oper} {got : Nat → Bool} {i : Nat} {o : Oper} {e : Edge} (h : readyB .any ops got i = true) (ho : ops[i]? = some o) (he : e ∈ o.after) (hb : Region.binds .any e = true) : got e.on = true := by
  unfold readyB at h
  rw [ho] at h
  have := (Array.all_eq_true_iff_forall_mem.1 h) e he
  simpa [hb] using this

def HalfV (A : Nat) (t : Value) : Prop := ∃ x0 x1 x2 x3 x4 x5 x6 x7 : Nat, t = .agg #[.int .u64 x0, .int .u64 x1, .int .u64 x2, .int .u64 x3, .int .u64 x4, .int .u64 x5, .int .u64 x6, .int .u64 x7] ∧ ok8 x0 x1 x2 x3 x4 x5 x6 x7 ∧ Hid (val8 x0 x1 x2 x3 x4 x5 x6 x7 = A)
def FreshZ (wr u : World) (t : Value) : Prop := ∃ p, t = .pointer (some ⟨p, 0, none⟩) ∧ wr.heap.size ≤ p ∧ p < u.heap.size ∧ RowIs u p 8 (fun _ => 0)
theorem FreshZ.grow {wr u u' : World} {t : Value} (h : FreshZ wr u t) (hb : Below u.heap.size u u') : FreshZ wr u' t := by
  obtain ⟨p, e, h1, h2, r⟩ := h
  exact ⟨p, e, h1, Nat.lt_of_lt_of_le h2 hb.size, r.below hb h2⟩

theorem fresh_new (wr u : World) (hs : wr.heap.size ≤ u.heap.size) (t : TypeId) : FreshZ wr (u.alloc (.cells #[.int .u64 0, .int .u64 0, .int .u64 0, .int .u64 0, .int .u64 0, .int .u64 0, .int .u64 0, .int .u64 0] t)) (.pointer (some ⟨u.heap.size, 0, none⟩)) :=
  ⟨_, rfl, hs, by simp, by
    intro k hk
    refine ⟨?_, World.frozen?_alloc_new _ _ _ _⟩
    rw [World.cell?_alloc_new]
    match k, hk with
    | 0, _ | 1, _ | 2, _ | 3, _ | 4, _ | 5, _ | 6, _ | 7, _ => rfl⟩
theorem below_alloc (u : World) (o : Obj) : Below u.heap.size u (u.alloc o) := (Below.refl _ _).alloc (Nat.le_refl _) o
theorem fresh_ne {wr u : World} {t : Value} (h : FreshZ wr u t) : t ≠ .pointer (some ⟨u.heap.size, 0, none⟩) := by
  obtain ⟨p, rfl, _, h2, _⟩ := h
  intro e
  injection e with e
  injection e with e
  injection e with e
  omega
def set8 (w : World) (b : Nat) (d0 d1 d2 d3 d4 d5 d6 d7 : Nat) : World :=
  (((((((w.setCell ⟨b, 0, none⟩ (.int .u64 d0)).setCell ⟨b, 1, none⟩ (.int .u64 d1)).setCell ⟨b, 2, none⟩ (.int .u64 d2)).setCell ⟨b, 3, none⟩ (.int .u64 d3)).setCell ⟨b, 4, none⟩ (.int .u64 d4)).setCell ⟨b, 5, none⟩ (.int .u64 d5)).setCell ⟨b, 6, none⟩ (.int .u64 d6)).setCell ⟨b, 7, none⟩ (.int .u64 d7)
theorem RowIs.ext {w : World} {b n : Nat} {P R : Nat → Nat} (h : RowIs w b n P) (e : ∀ k, k < n → P k = R k) : RowIs w b n R := fun k hk => ⟨by rw [← e k hk]; exact h.cell hk, h.free hk⟩
theorem RowIs.set8 {w : World} {b : Nat} {P : Nat → Nat} (h : RowIs w b 8 P) (d0 d1 d2 d3 d4 d5 d6 d7 : Nat) : RowIs (Go.Proofs.Ytalddekocfkbhaa.set8 w b d0 d1 d2 d3 d4 d5 d6 d7) b 8 (fnOf [d0, d1, d2, d3, d4, d5, d6, d7]) := by
  have r := (((((((h.set (show 0 < 8 by omega) (v := d0)).set (show 1 < 8 by omega) (v := d1)).set (show 2 < 8 by omega) (v := d2)).set (show 3 < 8 by omega) (v := d3)).set (show 4 < 8 by omega) (v := d4)).set (show 5 < 8 by omega) (v := d5)).set (show 6 < 8 by omega) (v := d6)).set (show 7 < 8 by omega) (v := d7)
  unfold Go.Proofs.Ytalddekocfkbhaa.set8
  refine r.ext fun k hk => ?_
  match k, hk with
  | 0, _ | 1, _ | 2, _ | 3, _ | 4, _ | 5, _ | 6, _ | 7, _ => rfl
theorem RowIs.set8_other {w : World} {b c n : Nat} {P : Nat → Nat} (h : RowIs w b n P) (hc : c ≠ b) (d0 d1 d2 d3 d4 d5 d6 d7 : Nat) : RowIs (Go.Proofs.Ytalddekocfkbhaa.set8 w c d0 d1 d2 d3 d4 d5 d6 d7) b n P :=
  (((((((h.other hc _).other hc _).other hc _).other hc _).other hc _).other hc _).other hc _).other hc _
theorem below_set8 {B : Nat} {w w' : World} {b : Nat} (h : Below B w w') (hb : B ≤ b) (d0 d1 d2 d3 d4 d5 d6 d7 : Nat) : Below B w (set8 w' b d0 d1 d2 d3 d4 d5 d6 d7) :=
  (((((((h.setCell (p := ⟨b, 0, none⟩) hb _).setCell (p := ⟨b, 1, none⟩) hb _).setCell (p := ⟨b, 2, none⟩) hb _).setCell (p := ⟨b, 3, none⟩) hb _).setCell (p := ⟨b, 4, none⟩) hb _).setCell (p := ⟨b, 5, none⟩) hb _).setCell (p := ⟨b, 6, none⟩) hb _).setCell (p := ⟨b, 7, none⟩) hb _
theorem size_set8 (w : World) (b d0 d1 d2 d3 d4 d5 d6 d7 : Nat) : (set8 w b d0 d1 d2 d3 d4 d5 d6 d7).heap.size = w.heap.size := by
  unfold set8; simp only [World.size_setCell]
theorem fnOf8_lt {x0 x1 x2 x3 x4 x5 x6 x7 : Nat} (h : ok8 x0 x1 x2 x3 x4 x5 x6 x7) (k : Nat) : fnOf [x0, x1, x2, x3, x4, x5, x6, x7] k < 4294967296 := by
  obtain ⟨h0, h1, h2, h3, h4, h5, h6, h7⟩ := h
  unfold fnOf
  match k with
  | 0 => exact h0
  | 1 => exact h1
  | 2 => exact h2
  | 3 => exact h3
  | 4 => exact h4
  | 5 => exact h5
  | 6 => exact h6
  | 7 => exact h7
  | k + 8 => simp
theorem val8_tot (P : Nat → Nat) : val8 (P 0) (P 1) (P 2) (P 3) (P 4) (P 5) (P 6) (P 7) = tot 4294967296 P 8 := by
  unfold val8
  simp only [tot]
  omega
structure R3 (got : Nat → Bool) (wr : World) (f : Int) (F : FC) (a0 a1 a2 a3 b0 b1 b2 b3 : Nat) (t7 t8 t9 s21 s22 s23 s24 s25 s26 s27 : Value) (u : World) : Prop where
  below : Below wr.heap.size wr u
  g0 : got 0 = true → s21 = .agg #[.int .u64 a0, .int .u64 a1, .int .u64 a2, .int .u64 a3]
  g1 : got 1 = true → HalfV (val4 a0 a1 a2 a3) s22
  g2 : got 2 = true → s23 = .agg #[.int .u64 b0, .int .u64 b1, .int .u64 b2, .int .u64 b3]
  g3 : got 3 = true → HalfV (val4 b0 b1 b2 b3) s24
  g4 : got 4 = true → s25 = .int .i64 f
  g5 : got 5 = true → s26 = .agg #[.int .u64 F.m0, .int .u64 F.m1, .int .u64 F.m2, .int .u64 F.m3]
  g6 : got 6 = true → HalfV F.M s27
  g7 : got 7 = true → FreshZ wr u t7
  g8 : got 8 = true → FreshZ wr u t8
  g9 : got 9 = true → FreshZ wr u t9
  n78 : got 7 = true → got 8 = true → t7 ≠ t8
  n79 : got 7 = true → got 9 = true → t7 ≠ t9
  n89 : got 8 = true → got 9 = true → t8 ≠ t9
section
variable {got : Nat → Bool} {wr u u' : World} {f : Int} {F : FC} {a0 a1 a2 a3 b0 b1 b2 b3 : Nat} {t7 t8 t9 s21 s22 s23 s24 s25 s26 s27 : Value}
theorem R3.start (wr : World) (f : Int) (F : FC) (a0 a1 a2 a3 b0 b1 b2 b3 : Nat) : R3 (fun _ => false) wr f F a0 a1 a2 a3 b0 b1 b2 b3 undef undef undef undef undef undef undef undef undef undef wr.drew :=
  ⟨(Below.refl _ _).drew, fun h => Bool.noConfusion h, fun h => Bool.noConfusion h, fun h => Bool.noConfusion h, fun h => Bool.noConfusion h, fun h => Bool.noConfusion h, fun h => Bool.noConfusion h, fun h => Bool.noConfusion h, fun h => Bool.noConfusion h, fun h => Bool.noConfusion h, fun h => Bool.noConfusion h, fun h => Bool.noConfusion h, fun h => Bool.noConfusion h, fun h => Bool.noConfusion h⟩
theorem R3.op0 (h : R3 got wr f F a0 a1 a2 a3 b0 b1 b2 b3 t7 t8 t9 s21 s22 s23 s24 s25 s26 s27 u) : R3 (fun j => j == 0 || got j) wr f F a0 a1 a2 a3 b0 b1 b2 b3 t7 t8 t9 (.agg #[.int .u64 a0, .int .u64 a1, .int .u64 a2, .int .u64 a3]) s22 s23 s24 s25 s26 s27 u :=
  ⟨h.below, fun _ => rfl, fun e => h.g1 (by simpa using e), fun e => h.g2 (by simpa using e), fun e => h.g3 (by simpa using e), fun e => h.g4 (by simpa using e), fun e => h.g5 (by simpa using e), fun e => h.g6 (by simpa using e), fun e => h.g7 (by simpa using e), fun e => h.g8 (by simpa using e), fun e => h.g9 (by simpa using e), fun e e' => h.n78 (by simpa using e) (by simpa using e'), fun e e' => h.n79 (by simpa using e) (by simpa using e'), fun e e' => h.n89 (by simpa using e) (by simpa using e')⟩
theorem R3.op1 (h : R3 got wr f F a0 a1 a2 a3 b0 b1 b2 b3 t7 t8 t9 s21 s22 s23 s24 s25 s26 s27 u) {x : Value} (hx : HalfV (val4 a0 a1 a2 a3) x) : R3 (fun j => j == 1 || got j) wr f F a0 a1 a2 a3 b0 b1 b2 b3 t7 t8 t9 s21 x s23 s24 s25 s26 s27 u :=
  ⟨h.below, fun e => h.g0 (by simpa using e), fun _ => hx, fun e => h.g2 (by simpa using e), fun e => h.g3 (by simpa using e), fun e => h.g4 (by simpa using e), fun e => h.g5 (by simpa using e), fun e => h.g6 (by simpa using e), fun e => h.g7 (by simpa using e), fun e => h.g8 (by simpa using e), fun e => h.g9 (by simpa using e), fun e e' => h.n78 (by simpa using e) (by simpa using e'), fun e e' => h.n79 (by simpa using e) (by simpa using e'), fun e e' => h.n89 (by simpa using e) (by simpa using e')⟩
theorem R3.op2 (h : R3 got wr f F a0 a1 a2 a3 b0 b1 b2 b3 t7 t8 t9 s21 s22 s23 s24 s25 s26 s27 u) : R3 (fun j => j == 2 || got j) wr f F a0 a1 a2 a3 b0 b1 b2 b3 t7 t8 t9 s21 s22 (.agg #[.int .u64 b0, .int .u64 b1, .int .u64 b2, .int .u64 b3]) s24 s25 s26 s27 u :=
  ⟨h.below, fun e => h.g0 (by simpa using e), fun e => h.g1 (by simpa using e), fun _ => rfl, fun e => h.g3 (by simpa using e), fun e => h.g4 (by simpa using e), fun e => h.g5 (by simpa using e), fun e => h.g6 (by simpa using e), fun e => h.g7 (by simpa using e), fun e => h.g8 (by simpa using e), fun e => h.g9 (by simpa using e), fun e e' => h.n78 (by simpa using e) (by simpa using e'), fun e e' => h.n79 (by simpa using e) (by simpa using e'), fun e e' => h.n89 (by simpa using e) (by simpa using e')⟩
theorem R3.op3 (h : R3 got wr f F a0 a1 a2 a3 b0 b1 b2 b3 t7 t8 t9 s21 s22 s23 s24 s25 s26 s27 u) {x : Value} (hx : HalfV (val4 b0 b1 b2 b3) x) : R3 (fun j => j == 3 || got j) wr f F a0 a1 a2 a3 b0 b1 b2 b3 t7 t8 t9 s21 s22 s23 x s25 s26 s27 u :=
  ⟨h.below, fun e => h.g0 (by simpa using e), fun e => h.g1 (by simpa using e), fun e => h.g2 (by simpa using e), fun _ => hx, fun e => h.g4 (by simpa using e), fun e => h.g5 (by simpa using e), fun e => h.g6 (by simpa using e), fun e => h.g7 (by simpa using e), fun e => h.g8 (by simpa using e), fun e => h.g9 (by simpa using e), fun e e' => h.n78 (by simpa using e) (by simpa using e'), fun e e' => h.n79 (by simpa using e) (by simpa using e'), fun e e' => h.n89 (by simpa using e) (by simpa using e')⟩
theorem R3.op4 (h : R3 got wr f F a0 a1 a2 a3 b0 b1 b2 b3 t7 t8 t9 s21 s22 s23 s24 s25 s26 s27 u) : R3 (fun j => j == 4 || got j) wr f F a0 a1 a2 a3 b0 b1 b2 b3 t7 t8 t9 s21 s22 s23 s24 (.int .i64 f) s26 s27 u :=
  ⟨h.below, fun e => h.g0 (by simpa using e), fun e => h.g1 (by simpa using e), fun e => h.g2 (by simpa using e), fun e => h.g3 (by simpa using e), fun _ => rfl, fun e => h.g5 (by simpa using e), fun e => h.g6 (by simpa using e), fun e => h.g7 (by simpa using e), fun e => h.g8 (by simpa using e), fun e => h.g9 (by simpa using e), fun e e' => h.n78 (by simpa using e) (by simpa using e'), fun e e' => h.n79 (by simpa using e) (by simpa using e'), fun e e' => h.n89 (by simpa using e) (by simpa using e')⟩
theorem R3.op5 (h : R3 got wr f F a0 a1 a2 a3 b0 b1 b2 b3 t7 t8 t9 s21 s22 s23 s24 s25 s26 s27 u) : R3 (fun j => j == 5 || got j) wr f F a0 a1 a2 a3 b0 b1 b2 b3 t7 t8 t9 s21 s22 s23 s24 s25 (.agg #[.int .u64 F.m0, .int .u64 F.m1, .int .u64 F.m2, .int .u64 F.m3]) s27 u :=
  ⟨h.below, fun e => h.g0 (by simpa using e), fun e => h.g1 (by simpa using e), fun e => h.g2 (by simpa using e), fun e => h.g3 (by simpa using e), fun e => h.g4 (by simpa using e), fun _ => rfl, fun e => h.g6 (by simpa using e), fun e => h.g7 (by simpa using e), fun e => h.g8 (by simpa using e), fun e => h.g9 (by simpa using e), fun e e' => h.n78 (by simpa using e) (by simpa using e'), fun e e' => h.n79 (by simpa using e) (by simpa using e'), fun e e' => h.n89 (by simpa using e) (by simpa using e')⟩
theorem R3.op6 (h : R3 got wr f F a0 a1 a2 a3 b0 b1 b2 b3 t7 t8 t9 s21 s22 s23 s24 s25 s26 s27 u) {x : Value} (hx : HalfV F.M x) : R3 (fun j => j == 6 || got j) wr f F a0 a1 a2 a3 b0 b1 b2 b3 t7 t8 t9 s21 s22 s23 s24 s25 s26 x u :=
  ⟨h.below, fun e => h.g0 (by simpa using e), fun e => h.g1 (by simpa using e), fun e => h.g2 (by simpa using e), fun e => h.g3 (by simpa using e), fun e => h.g4 (by simpa using e), fun e => h.g5 (by simpa using e), fun _ => hx, fun e => h.g7 (by simpa using e), fun e => h.g8 (by simpa using e), fun e => h.g9 (by simpa using e), fun e e' => h.n78 (by simpa using e) (by simpa using e'), fun e e' => h.n79 (by simpa using e) (by simpa using e'), fun e e' => h.n89 (by simpa using e) (by simpa using e')⟩
theorem R3.grow (h : R3 got wr f F a0 a1 a2 a3 b0 b1 b2 b3 t7 t8 t9 s21 s22 s23 s24 s25 s26 s27 u) (hb : Below u.heap.size u u') : R3 got wr f F a0 a1 a2 a3 b0 b1 b2 b3 t7 t8 t9 s21 s22 s23 s24 s25 s26 s27 u' :=
  ⟨h.below.trans (hb.mono h.below.size), h.g0, h.g1, h.g2, h.g3, h.g4, h.g5, h.g6, fun e => (h.g7 e).grow hb, fun e => (h.g8 e).grow hb, fun e => (h.g9 e).grow hb, h.n78, h.n79, h.n89⟩
theorem R3.op7 (h : R3 got wr f F a0 a1 a2 a3 b0 b1 b2 b3 t7 t8 t9 s21 s22 s23 s24 s25 s26 s27 u) (t : TypeId) : R3 (fun j => j == 7 || got j) wr f F a0 a1 a2 a3 b0 b1 b2 b3 (.pointer (some ⟨u.heap.size, 0, none⟩)) t8 t9 s21 s22 s23 s24 s25 s26 s27 (u.alloc (.cells #[.int .u64 0, .int .u64 0, .int .u64 0, .int .u64 0, .int .u64 0, .int .u64 0, .int .u64 0, .int .u64 0] t)) :=
  ⟨h.below.alloc h.below.size _, fun e => h.g0 (by simpa using e), fun e => h.g1 (by simpa using e), fun e => h.g2 (by simpa using e), fun e => h.g3 (by simpa using e), fun e => h.g4 (by simpa using e), fun e => h.g5 (by simpa using e), fun e => h.g6 (by simpa using e), fun _ => fresh_new wr u h.below.size t, fun e => (h.g8 (by simpa using e)).grow (below_alloc _ _), fun e => (h.g9 (by simpa using e)).grow (below_alloc _ _), fun _ e => (fresh_ne (h.g8 (by simpa using e))).symm, fun _ e => (fresh_ne (h.g9 (by simpa using e))).symm, fun e e' => h.n89 (by simpa using e) (by simpa using e')⟩
theorem R3.op8 (h : R3 got wr f F a0 a1 a2 a3 b0 b1 b2 b3 t7 t8 t9 s21 s22 s23 s24 s25 s26 s27 u) (t : TypeId) : R3 (fun j => j == 8 || got j) wr f F a0 a1 a2 a3 b0 b1 b2 b3 t7 (.pointer (some ⟨u.heap.size, 0, none⟩)) t9 s21 s22 s23 s24 s25 s26 s27 (u.alloc (.cells #[.int .u64 0, .int .u64 0, .int .u64 0, .int .u64 0, .int .u64 0, .int .u64 0, .int .u64 0, .int .u64 0] t)) :=
  ⟨h.below.alloc h.below.size _, fun e => h.g0 (by simpa using e), fun e => h.g1 (by simpa using e), fun e => h.g2 (by simpa using e), fun e => h.g3 (by simpa using e), fun e => h.g4 (by simpa using e), fun e => h.g5 (by simpa using e), fun e => h.g6 (by simpa using e), fun e => (h.g7 (by simpa using e)).grow (below_alloc _ _), fun _ => fresh_new wr u h.below.size t, fun e => (h.g9 (by simpa using e)).grow (below_alloc _ _), fun e _ => fresh_ne (h.g7 (by simpa using e)), fun e e' => h.n79 (by simpa using e) (by simpa using e'), fun _ e => (fresh_ne (h.g9 (by simpa using e))).symm⟩
theorem R3.op9 (h : R3 got wr f F a0 a1 a2 a3 b0 b1 b2 b3 t7 t8 t9 s21 s22 s23 s24 s25 s26 s27 u) (t : TypeId) : R3 (fun j => j == 9 || got j) wr f F a0 a1 a2 a3 b0 b1 b2 b3 t7 t8 (.pointer (some ⟨u.heap.size, 0, none⟩)) s21 s22 s23 s24 s25 s26 s27 (u.alloc (.cells #[.int .u64 0, .int .u64 0, .int .u64 0, .int .u64 0, .int .u64 0, .int .u64 0, .int .u64 0, .int .u64 0] t)) :=
  ⟨h.below.alloc h.below.size _, fun e => h.g0 (by simpa using e), fun e => h.g1 (by simpa using e), fun e => h.g2 (by simpa using e), fun e => h.g3 (by simpa using e), fun e => h.g4 (by simpa using e), fun e => h.g5 (by simpa using e), fun e => h.g6 (by simpa using e), fun e => (h.g7 (by simpa using e)).grow (below_alloc _ _), fun e => (h.g8 (by simpa using e)).grow (below_alloc _ _), fun _ => fresh_new wr u h.below.size t, fun e e' => h.n78 (by simpa using e) (by simpa using e'), fun e _ => fresh_ne (h.g7 (by simpa using e)), fun e _ => fresh_ne (h.g8 (by simpa using e))⟩
end
/-- what stands behind the region: three blocks hold the halves -/
structure ThreeH (wr u : World) (p q r : Nat) (X Y Z : Nat → Nat) (A B M : Nat) : Prop where
  below : Below wr.heap.size wr u
  lp : wr.heap.size ≤ p
  lq : wr.heap.size ≤ q
  lr : wr.heap.size ≤ r
  up : p < u.heap.size
  uq : q < u.heap.size
  ur : r < u.heap.size
  pq : p ≠ q
  pr : p ≠ r
  qr : q ≠ r
  rowX : RowIs u p 8 X
  rowY : RowIs u q 8 Y
  rowZ : RowIs u r 8 Z
  ltX : ∀ k, X k < 4294967296
  ltY : ∀ k, Y k < 4294967296
  ltZ : ∀ k, Z k < 4294967296
  eX : tot 4294967296 X 8 = A
  eY : tot 4294967296 Y 8 = B
  eZ : tot 4294967296 Z 8 = M
theorem ptr_ne {p q : Nat} (h : (Value.pointer (some ⟨p, 0, none⟩)) ≠ .pointer (some ⟨q, 0, none⟩)) : p ≠ q := fun e => h (by rw [e])
theorem ThreeH.store {wr u : World} {p q r A B M x0 x1 x2 x3 x4 x5 x6 x7 y0 y1 y2 y3 y4 y5 y6 y7 z0 z1 z2 z3 z4 z5 z6 z7 : Nat} (hx : ok8 x0 x1 x2 x3 x4 x5 x6 x7) (hy : ok8 y0 y1 y2 y3 y4 y5 y6 y7) (hz : ok8 z0 z1 z2 z3 z4 z5 z6 z7) (ex : Hid (val8 x0 x1 x2 x3 x4 x5 x6 x7 = A)) (ey : Hid (val8 y0 y1 y2 y3 y4 y5 y6 y7 = B)) (ez : Hid (val8 z0 z1 z2 z3 z4 z5 z6 z7 = M))
    (lp : wr.heap.size ≤ p) (lq : wr.heap.size ≤ q) (lr : wr.heap.size ≤ r) (up : p < u.heap.size) (uq : q < u.heap.size) (ur : r < u.heap.size) (pq : p ≠ q) (pr : p ≠ r) (qr : q ≠ r) (rp : RowIs u p 8 (fun _ => 0)) (rq : RowIs u q 8 (fun _ => 0)) (rr : RowIs u r 8 (fun _ => 0)) (hbl : Below wr.heap.size wr u) :
    ThreeH wr (set8 (set8 (set8 u p x0 x1 x2 x3 x4 x5 x6 x7) q y0 y1 y2 y3 y4 y5 y6 y7) r z0 z1 z2 z3 z4 z5 z6 z7) p q r (fnOf [x0, x1, x2, x3, x4, x5, x6, x7]) (fnOf [y0, y1, y2, y3, y4, y5, y6, y7]) (fnOf [z0, z1, z2, z3, z4, z5, z6, z7]) A B M :=
  ⟨below_set8 (below_set8 (below_set8 hbl lp _ _ _ _ _ _ _ _) lq _ _ _ _ _ _ _ _) lr _ _ _ _ _ _ _ _, lp, lq, lr, by rw [size_set8, size_set8, size_set8]; exact up, by rw [size_set8, size_set8, size_set8]; exact uq, by rw [size_set8, size_set8, size_set8]; exact ur, pq, pr, qr,
    ((rp.set8 _ _ _ _ _ _ _ _).set8_other (fun e => pq e.symm) _ _ _ _ _ _ _ _).set8_other (fun e => pr e.symm) _ _ _ _ _ _ _ _, ((rq.set8_other pq _ _ _ _ _ _ _ _).set8 _ _ _ _ _ _ _ _).set8_other (fun e => qr e.symm) _ _ _ _ _ _ _ _, ((rr.set8_other pr _ _ _ _ _ _ _ _).set8_other qr _ _ _ _ _ _ _ _).set8 _ _ _ _ _ _ _ _, fnOf8_lt hx, fnOf8_lt hy, fnOf8_lt hz,
    (val8_tot (fnOf [x0, x1, x2, x3, x4, x5, x6, x7])).symm.trans ex.out, (val8_tot (fnOf [y0, y1, y2, y3, y4, y5, y6, y7])).symm.trans ey.out, (val8_tot (fnOf [z0, z1, z2, z3, z4, z5, z6, z7])).symm.trans ez.out⟩
end Go.Proofs.Ytalddekocfkbhaa
