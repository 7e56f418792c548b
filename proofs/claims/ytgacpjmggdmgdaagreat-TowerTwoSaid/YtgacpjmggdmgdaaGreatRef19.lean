/-
  The call of limbs.Div: a number of four words divided by one word; an error where that is 0. Conditions: each word below 2^64.
  The reference's halves of a number, of layer 1. Conditions: none.
  Two numbers' halves at once, as the reference's Add, Sub and Mul take them: two calls and two new blocks in one region that draws its order. Conditions: each word below 2^64.
  The calls of the reference's Add, Sub and Mul: for any two numbers of four words, in any world, the sum with its carry, the difference with its borrow, the product. Conditions: each word below 2^64.
  The calls of the reference's Len, Shl and Shr, bit by bit: for any number of four words and any number of bits, in any world. Conditions: each word below 2^64; the number of bits an int.
  Plain numbers behind the reference's Div and Mod: one bit more into a rest. No program in sight. Conditions: none.
  The call of the reference's Cmp: for any two numbers of four words, in any world, the order. Conditions: each word below 2^64.
  The calls of the reference's Div and Mod, bit by bit: for any numbers of four words, in any world. Conditions: each word below 2^64.
-/
import Derived.Test.YtgacpjmggdmgdaaGreatDiv
import Derived.Test.YtgacpjmggdmgdaaGreatRow
import Derived.Test.YtgacpjmggdmgdaaGreatTake
import Derived.Test.YtgacpjmggdmgdaaGreatRefA
import Derived.Deep.RegionWith
import Derived.Test.YtgacpjmggdmgdaaGreatPut
import Derived.LoopTactic
import Derived.Deep.LoopGhost
import Derived.Test.YtgacpjmggdmgdaaGreatBitByte
import Derived.Test.YtgacpjmggdmgdaaGreatWord
import Derived.Test.YtgacpjmggdmgdaaGreatMod
namespace Go.Proofs.YtgacpjmggdmgdaaGreat
set_option linter.unusedVariables false
set_option linter.unusedSimpArgs false
open Go.RowKit

def DivLPost (P : Nat → Nat → Nat → Prop) (w : World) (e : Ending) (w' : World) : Prop :=
  ∃ q0 q1 q2 q3 r c : Nat, e = .returned (.tuple #[.agg #[.int .u64 q0, .int .u64 q1, .int .u64 q2, .int .u64 q3], .int .u64 r, .int .i64 c]) ∧ ok4 q0 q1 q2 q3 ∧ P (val4 q0 q1 q2 q3) r c ∧ Below w.heap.size w w'

theorem ex_Div64z {lo y : Nat} (h : 0 < y) (hl : lo < 18446744073709551616) (hy : y < 18446744073709551616) : ∃ q r : Nat,
    (∀ w, Calls Tryz.prog 180 #[.int .u64 0, .int .u64 lo, .int .u64 y] w fun e w' => e = .returned (.tuple #[.int .u64 (q : Nat), .int .u64 (r : Nat)]) ∧ ∃ n, w' = w.drewN n) ∧
    q < 18446744073709551616 ∧ r < y ∧ Hid (q * y + r = lo) := by
  obtain ⟨q, r, m, hq, hr, e⟩ := ex_Div64 (hi := 0) h hl hy
  exact ⟨q, r, m, hq, hr, Lib.hid (by have := e.out; omega)⟩

end Go.Proofs.YtgacpjmggdmgdaaGreat
namespace Go.Proofs.YtgacpjmggdmgdaaGreat
set_option linter.unusedVariables false
set_option linter.unusedSimpArgs false
open Go.RowKit
set_option maxHeartbeats 1000000 in
theorem halves1_calls (a0 a1 a2 a3 : Nat) (ha : ok4 a0 a1 a2 a3) (w : World) :
    Calls Tryz.prog 153 #[.agg #[.int .u64 a0, .int .u64 a1, .int .u64 a2, .int .u64 a3]] w (HalvesPost (val4 a0 a1 a2 a3) w) := by
  obtain ⟨h0, h1, d0, d1, b0, b1, e0⟩ := ex_half ha.1
  obtain ⟨h2, h3, d2, d3, b2, b3, e1⟩ := ex_half ha.2.1
  obtain ⟨h4, h5, d4, d5, b4, b5, e2⟩ := ex_half ha.2.2.1
  obtain ⟨h6, h7, d6, d7, b6, b7, e3⟩ := ex_half ha.2.2.2
  go_enter Tryz.func153, Tryz.ntmps153
  go_wp2_with fail
  refine wp_loop_rounds 5 ?_
  rw [rounds_succ]
  go_wp2_with fail
  rw [rounds_succ]
  go_wp2_with fail
  rw [rounds_succ]
  go_wp2_with fail
  rw [rounds_succ]
  go_wp2_with fail
  rw [rounds_succ]
  go_wp2_with fail
  refine bodyPost_ret (v := .agg #[.int .u64 h0, .int .u64 h1, .int .u64 h2, .int .u64 h3, .int .u64 h4, .int .u64 h5, .int .u64 h6, .int .u64 h7]) (by simp [results, Tryz.results153, go_sem]) rfl ?_
  refine ⟨h0, h1, h2, h3, h4, h5, h6, h7, rfl, ⟨b0, b1, b2, b3, b4, b5, b6, b7⟩, ?_, ?_⟩
  · have := e0.out; have := e1.out; have := e2.out; have := e3.out
    exact Lib.hid (by unfold val4 val8; omega)
  repeat (first | exact Below.refl _ _ | refine Below.drew ?_ | refine Below.alloc ?_ (by first | (simp; done) | (simp; omega)) _)
end Go.Proofs.YtgacpjmggdmgdaaGreat
namespace Go.Proofs.YtgacpjmggdmgdaaGreat.R1
set_option linter.unusedVariables false
set_option linter.unusedSimpArgs false
open Go.RowKit

theorem readyB_at {ops : Array Oper} {got : Nat → Bool} {i : Nat} {o : Oper} {e : Edge} (h : readyB .any ops got i = true) (ho : ops[i]? = some o) (he : e ∈ o.after) (hb : Region.binds .any e = true) : got e.on = true := by
  unfold readyB at h
  rw [ho] at h
  have := (Array.all_eq_true_iff_forall_mem.1 h) e he
  simpa [hb] using this

def HalfV (A : Nat) (t : Value) : Prop := ∃ x0 x1 x2 x3 x4 x5 x6 x7 : Nat, t = .agg #[.int .u64 x0, .int .u64 x1, .int .u64 x2, .int .u64 x3, .int .u64 x4, .int .u64 x5, .int .u64 x6, .int .u64 x7] ∧ ok8 x0 x1 x2 x3 x4 x5 x6 x7 ∧ Hid (val8 x0 x1 x2 x3 x4 x5 x6 x7 = A)
def FreshZ (wr u : World) (t : Value) : Prop := ∃ p, t = .pointer (some ⟨p, 0, none⟩) ∧ wr.heap.size ≤ p ∧ p < u.heap.size ∧ RowIs u p 8 (fun _ => 0)
theorem FreshZ.grow {wr u u' : World} {t : Value} (h : FreshZ wr u t) (hb : Below u.heap.size u u') : FreshZ wr u' t := by
  obtain ⟨p, e, h1, h2, r⟩ := h
  exact ⟨p, e, h1, Nat.lt_of_lt_of_le h2 hb.size, r.below hb h2⟩

structure RI (got : Nat → Bool) (wr : World) (a0 a1 a2 a3 b0 b1 b2 b3 : Nat) (t6 t7 s0 s1 s2 s3 : Value) (u : World) : Prop where
  below : Below wr.heap.size wr u
  g0 : got 0 = true → s0 = .agg #[.int .u64 a0, .int .u64 a1, .int .u64 a2, .int .u64 a3]
  g1 : got 1 = true → HalfV (val4 a0 a1 a2 a3) s1
  g2 : got 2 = true → s2 = .agg #[.int .u64 b0, .int .u64 b1, .int .u64 b2, .int .u64 b3]
  g3 : got 3 = true → HalfV (val4 b0 b1 b2 b3) s3
  g4 : got 4 = true → FreshZ wr u t6
  g5 : got 5 = true → FreshZ wr u t7
  g45 : got 4 = true → got 5 = true → t6 ≠ t7
section
variable {got : Nat → Bool} {wr u u' : World} {a0 a1 a2 a3 b0 b1 b2 b3 : Nat} {t6 t7 s0 s1 s2 s3 : Value}
theorem RI.start (wr : World) (a0 a1 a2 a3 b0 b1 b2 b3 : Nat) : RI (fun _ => false) wr a0 a1 a2 a3 b0 b1 b2 b3 undef undef undef undef undef undef wr.drew :=
  ⟨(Below.refl _ _).drew, fun h => Bool.noConfusion h, fun h => Bool.noConfusion h, fun h => Bool.noConfusion h, fun h => Bool.noConfusion h, fun h => Bool.noConfusion h, fun h => Bool.noConfusion h, fun h => Bool.noConfusion h⟩
theorem RI.op0 (h : RI got wr a0 a1 a2 a3 b0 b1 b2 b3 t6 t7 s0 s1 s2 s3 u) : RI (fun j => j == 0 || got j) wr a0 a1 a2 a3 b0 b1 b2 b3 t6 t7 (.agg #[.int .u64 a0, .int .u64 a1, .int .u64 a2, .int .u64 a3]) s1 s2 s3 u :=
  ⟨h.below, fun _ => rfl, fun e => h.g1 (by simpa using e), fun e => h.g2 (by simpa using e), fun e => h.g3 (by simpa using e), fun e => h.g4 (by simpa using e), fun e => h.g5 (by simpa using e), fun e f => h.g45 (by simpa using e) (by simpa using f)⟩
theorem RI.op2 (h : RI got wr a0 a1 a2 a3 b0 b1 b2 b3 t6 t7 s0 s1 s2 s3 u) : RI (fun j => j == 2 || got j) wr a0 a1 a2 a3 b0 b1 b2 b3 t6 t7 s0 s1 (.agg #[.int .u64 b0, .int .u64 b1, .int .u64 b2, .int .u64 b3]) s3 u :=
  ⟨h.below, fun e => h.g0 (by simpa using e), fun e => h.g1 (by simpa using e), fun _ => rfl, fun e => h.g3 (by simpa using e), fun e => h.g4 (by simpa using e), fun e => h.g5 (by simpa using e), fun e f => h.g45 (by simpa using e) (by simpa using f)⟩
theorem RI.op1 (h : RI got wr a0 a1 a2 a3 b0 b1 b2 b3 t6 t7 s0 s1 s2 s3 u) {x : Value} (hx : HalfV (val4 a0 a1 a2 a3) x) : RI (fun j => j == 1 || got j) wr a0 a1 a2 a3 b0 b1 b2 b3 t6 t7 s0 x s2 s3 u :=
  ⟨h.below, fun e => h.g0 (by simpa using e), fun _ => hx, fun e => h.g2 (by simpa using e), fun e => h.g3 (by simpa using e), fun e => h.g4 (by simpa using e), fun e => h.g5 (by simpa using e), fun e f => h.g45 (by simpa using e) (by simpa using f)⟩
theorem RI.op3 (h : RI got wr a0 a1 a2 a3 b0 b1 b2 b3 t6 t7 s0 s1 s2 s3 u) {x : Value} (hx : HalfV (val4 b0 b1 b2 b3) x) : RI (fun j => j == 3 || got j) wr a0 a1 a2 a3 b0 b1 b2 b3 t6 t7 s0 s1 s2 x u :=
  ⟨h.below, fun e => h.g0 (by simpa using e), fun e => h.g1 (by simpa using e), fun e => h.g2 (by simpa using e), fun _ => hx, fun e => h.g4 (by simpa using e), fun e => h.g5 (by simpa using e), fun e f => h.g45 (by simpa using e) (by simpa using f)⟩
theorem RI.grow (h : RI got wr a0 a1 a2 a3 b0 b1 b2 b3 t6 t7 s0 s1 s2 s3 u) (hb : Below u.heap.size u u') : RI got wr a0 a1 a2 a3 b0 b1 b2 b3 t6 t7 s0 s1 s2 s3 u' :=
  ⟨h.below.trans (hb.mono h.below.size), h.g0, h.g1, h.g2, h.g3, fun e => (h.g4 e).grow hb, fun e => (h.g5 e).grow hb, h.g45⟩
theorem fresh_new (wr u : World) (hs : wr.heap.size ≤ u.heap.size) (t : TypeId) : FreshZ wr (u.alloc (.cells #[.int .u64 0, .int .u64 0, .int .u64 0, .int .u64 0, .int .u64 0, .int .u64 0, .int .u64 0, .int .u64 0] t)) (.pointer (some ⟨u.heap.size, 0, none⟩)) :=
  ⟨_, rfl, hs, by simp, by
    intro k hk
    refine ⟨?_, World.frozen?_alloc_new _ _ _ _⟩
    rw [World.cell?_alloc_new]
    match k, hk with
    | 0, _ | 1, _ | 2, _ | 3, _ | 4, _ | 5, _ | 6, _ | 7, _ => rfl⟩
theorem below_alloc (u : World) (o : Obj) : Below u.heap.size u (u.alloc o) := (Below.refl _ _).alloc (Nat.le_refl _) o
theorem fresh_ne {wr u : World} {t : Value} (h : FreshZ wr u t) : t ≠ .pointer (some ⟨u.heap.size, 0, none⟩) := by
  obtain ⟨p, rfl, _, h2, _⟩ := h
  intro e
  injection e with e
  injection e with e
  injection e with e
  omega
theorem RI.op4 (h : RI got wr a0 a1 a2 a3 b0 b1 b2 b3 t6 t7 s0 s1 s2 s3 u) (t : TypeId) : RI (fun j => j == 4 || got j) wr a0 a1 a2 a3 b0 b1 b2 b3 (.pointer (some ⟨u.heap.size, 0, none⟩)) t7 s0 s1 s2 s3 (u.alloc (.cells #[.int .u64 0, .int .u64 0, .int .u64 0, .int .u64 0, .int .u64 0, .int .u64 0, .int .u64 0, .int .u64 0] t)) :=
  ⟨h.below.alloc h.below.size _, fun e => h.g0 (by simpa using e), fun e => h.g1 (by simpa using e), fun e => h.g2 (by simpa using e), fun e => h.g3 (by simpa using e),
    fun _ => fresh_new wr u h.below.size t, fun e => (h.g5 (by simpa using e)).grow (below_alloc _ _), fun _ f => (fresh_ne (h.g5 (by simpa using f))).symm⟩
theorem RI.op5 (h : RI got wr a0 a1 a2 a3 b0 b1 b2 b3 t6 t7 s0 s1 s2 s3 u) (t : TypeId) : RI (fun j => j == 5 || got j) wr a0 a1 a2 a3 b0 b1 b2 b3 t6 (.pointer (some ⟨u.heap.size, 0, none⟩)) s0 s1 s2 s3 (u.alloc (.cells #[.int .u64 0, .int .u64 0, .int .u64 0, .int .u64 0, .int .u64 0, .int .u64 0, .int .u64 0, .int .u64 0] t)) :=
  ⟨h.below.alloc h.below.size _, fun e => h.g0 (by simpa using e), fun e => h.g1 (by simpa using e), fun e => h.g2 (by simpa using e), fun e => h.g3 (by simpa using e),
    fun e => (h.g4 (by simpa using e)).grow (below_alloc _ _), fun _ => fresh_new wr u h.below.size t, fun e _ => fresh_ne (h.g4 (by simpa using e))⟩
theorem RI.all (h : RI got wr a0 a1 a2 a3 b0 b1 b2 b3 t6 t7 s0 s1 s2 s3 u) (hg : ∀ j, j < 6 → got j = true) :
    ∃ p q x0 x1 x2 x3 x4 x5 x6 x7 y0 y1 y2 y3 y4 y5 y6 y7 : Nat, t6 = .pointer (some ⟨p, 0, none⟩) ∧ t7 = .pointer (some ⟨q, 0, none⟩) ∧
      s1 = .agg #[.int .u64 x0, .int .u64 x1, .int .u64 x2, .int .u64 x3, .int .u64 x4, .int .u64 x5, .int .u64 x6, .int .u64 x7] ∧ s3 = .agg #[.int .u64 y0, .int .u64 y1, .int .u64 y2, .int .u64 y3, .int .u64 y4, .int .u64 y5, .int .u64 y6, .int .u64 y7] ∧
      ok8 x0 x1 x2 x3 x4 x5 x6 x7 ∧ ok8 y0 y1 y2 y3 y4 y5 y6 y7 ∧ Hid (val8 x0 x1 x2 x3 x4 x5 x6 x7 = val4 a0 a1 a2 a3) ∧ Hid (val8 y0 y1 y2 y3 y4 y5 y6 y7 = val4 b0 b1 b2 b3) ∧
      wr.heap.size ≤ p ∧ wr.heap.size ≤ q ∧ p < u.heap.size ∧ q < u.heap.size ∧ ¬ p = q ∧ RowIs u p 8 (fun _ => 0) ∧ RowIs u q 8 (fun _ => 0) ∧ Below wr.heap.size wr u := by
  obtain ⟨x0, x1, x2, x3, x4, x5, x6, x7, e1, hx, ex⟩ := h.g1 (hg 1 (by omega))
  obtain ⟨y0, y1, y2, y3, y4, y5, y6, y7, e2, hy, ey⟩ := h.g3 (hg 3 (by omega))
  obtain ⟨p, e3, lp, up, rp⟩ := h.g4 (hg 4 (by omega))
  obtain ⟨q, e4, lq, uq, rq⟩ := h.g5 (hg 5 (by omega))
  refine ⟨p, q, x0, x1, x2, x3, x4, x5, x6, x7, y0, y1, y2, y3, y4, y5, y6, y7, e3, e4, e1, e2, hx, hy, ex, ey, lp, lq, up, uq, fun e => ?_, rp, rq, h.below⟩
  subst e
  exact h.g45 (hg 4 (by omega)) (hg 5 (by omega)) (e3.trans e4.symm)
end

/-- What stands behind the region: the two blocks hold the halves. -/
structure TwoH (wr u : World) (p q : Nat) (X Y : Nat → Nat) (A B : Nat) : Prop where
  below : Below wr.heap.size wr u
  lp : wr.heap.size ≤ p
  lq : wr.heap.size ≤ q
  up : p < u.heap.size
  uq : q < u.heap.size
  ne : ¬ p = q
  rowX : RowIs u p 8 X
  rowY : RowIs u q 8 Y
  ltX : ∀ k, X k < 4294967296
  ltY : ∀ k, Y k < 4294967296
  eX : tot 4294967296 X 8 = A
  eY : tot 4294967296 Y 8 = B
def set8 (w : World) (b : Nat) (d0 d1 d2 d3 d4 d5 d6 d7 : Nat) : World :=
  (((((((w.setCell ⟨b, 0, none⟩ (.int .u64 d0)).setCell ⟨b, 1, none⟩ (.int .u64 d1)).setCell ⟨b, 2, none⟩ (.int .u64 d2)).setCell ⟨b, 3, none⟩ (.int .u64 d3)).setCell ⟨b, 4, none⟩ (.int .u64 d4)).setCell ⟨b, 5, none⟩ (.int .u64 d5)).setCell ⟨b, 6, none⟩ (.int .u64 d6)).setCell ⟨b, 7, none⟩ (.int .u64 d7)
theorem RowIs.ext {w : World} {b n : Nat} {P R : Nat → Nat} (h : RowIs w b n P) (e : ∀ k, k < n → P k = R k) : RowIs w b n R := fun k hk => ⟨by rw [← e k hk]; exact h.cell hk, h.free hk⟩
theorem RowIs.set8 {w : World} {b : Nat} {P : Nat → Nat} (h : RowIs w b 8 P) (d0 d1 d2 d3 d4 d5 d6 d7 : Nat) : RowIs (Go.Proofs.YtgacpjmggdmgdaaGreat.set8 w b d0 d1 d2 d3 d4 d5 d6 d7) b 8 (fnOf [d0, d1, d2, d3, d4, d5, d6, d7]) := by
  have r := (((((((h.set (show 0 < 8 by omega) (v := d0)).set (show 1 < 8 by omega) (v := d1)).set (show 2 < 8 by omega) (v := d2)).set (show 3 < 8 by omega) (v := d3)).set (show 4 < 8 by omega) (v := d4)).set (show 5 < 8 by omega) (v := d5)).set (show 6 < 8 by omega) (v := d6)).set (show 7 < 8 by omega) (v := d7)
  unfold Go.Proofs.YtgacpjmggdmgdaaGreat.set8
  refine r.ext fun k hk => ?_
  match k, hk with
  | 0, _ | 1, _ | 2, _ | 3, _ | 4, _ | 5, _ | 6, _ | 7, _ => rfl
theorem RowIs.set8_other {w : World} {b c n : Nat} {P : Nat → Nat} (h : RowIs w b n P) (hc : c ≠ b) (d0 d1 d2 d3 d4 d5 d6 d7 : Nat) : RowIs (Go.Proofs.YtgacpjmggdmgdaaGreat.set8 w c d0 d1 d2 d3 d4 d5 d6 d7) b n P :=
  (((((((h.other hc _).other hc _).other hc _).other hc _).other hc _).other hc _).other hc _).other hc _
theorem below_set8 {B : Nat} {w w' : World} {b : Nat} (h : Below B w w') (hb : B ≤ b) (d0 d1 d2 d3 d4 d5 d6 d7 : Nat) : Below B w (set8 w' b d0 d1 d2 d3 d4 d5 d6 d7) :=
  (((((((h.setCell (p := ⟨b, 0, none⟩) hb _).setCell (p := ⟨b, 1, none⟩) hb _).setCell (p := ⟨b, 2, none⟩) hb _).setCell (p := ⟨b, 3, none⟩) hb _).setCell (p := ⟨b, 4, none⟩) hb _).setCell (p := ⟨b, 5, none⟩) hb _).setCell (p := ⟨b, 6, none⟩) hb _).setCell (p := ⟨b, 7, none⟩) hb _
theorem size_set8 (w : World) (b d0 d1 d2 d3 d4 d5 d6 d7 : Nat) : (set8 w b d0 d1 d2 d3 d4 d5 d6 d7).heap.size = w.heap.size := by
  unfold set8; simp only [World.size_setCell]
theorem fnOf8_lt {x0 x1 x2 x3 x4 x5 x6 x7 : Nat} (h : ok8 x0 x1 x2 x3 x4 x5 x6 x7) (k : Nat) : fnOf [x0, x1, x2, x3, x4, x5, x6, x7] k < 4294967296 := by
  obtain ⟨h0, h1, h2, h3, h4, h5, h6, h7⟩ := h
  unfold fnOf
  match k with
  | 0 => exact h0
  | 1 => exact h1
  | 2 => exact h2
  | 3 => exact h3
  | 4 => exact h4
  | 5 => exact h5
  | 6 => exact h6
  | 7 => exact h7
  | k + 8 => simp
theorem val8_tot (P : Nat → Nat) : val8 (P 0) (P 1) (P 2) (P 3) (P 4) (P 5) (P 6) (P 7) = tot 4294967296 P 8 := by
  unfold val8
  simp only [tot]
  omega
theorem TwoH.store {wr u : World} {p q A B x0 x1 x2 x3 x4 x5 x6 x7 y0 y1 y2 y3 y4 y5 y6 y7 : Nat} (hx : ok8 x0 x1 x2 x3 x4 x5 x6 x7) (hy : ok8 y0 y1 y2 y3 y4 y5 y6 y7) (ex : Hid (val8 x0 x1 x2 x3 x4 x5 x6 x7 = A)) (ey : Hid (val8 y0 y1 y2 y3 y4 y5 y6 y7 = B))
    (lp : wr.heap.size ≤ p) (lq : wr.heap.size ≤ q) (up : p < u.heap.size) (uq : q < u.heap.size) (hpq : ¬ p = q) (rp : RowIs u p 8 (fun _ => 0)) (rq : RowIs u q 8 (fun _ => 0)) (hbl : Below wr.heap.size wr u) :
    TwoH wr (set8 (set8 u p x0 x1 x2 x3 x4 x5 x6 x7) q y0 y1 y2 y3 y4 y5 y6 y7) p q (fnOf [x0, x1, x2, x3, x4, x5, x6, x7]) (fnOf [y0, y1, y2, y3, y4, y5, y6, y7]) A B :=
  ⟨below_set8 (below_set8 hbl lp _ _ _ _ _ _ _ _) lq _ _ _ _ _ _ _ _, lp, lq, by rw [size_set8, size_set8]; exact up, by rw [size_set8, size_set8]; exact uq, hpq,
    (rp.set8 _ _ _ _ _ _ _ _).set8_other (fun e => hpq e.symm) _ _ _ _ _ _ _ _, (rq.set8_other hpq _ _ _ _ _ _ _ _).set8 _ _ _ _ _ _ _ _, fnOf8_lt hx, fnOf8_lt hy,
    (val8_tot (fnOf [x0, x1, x2, x3, x4, x5, x6, x7])).symm.trans ex.out, (val8_tot (fnOf [y0, y1, y2, y3, y4, y5, y6, y7])).symm.trans ey.out⟩

def halvesOps12 (pos : String) : List Oper := [
    { dst := some 12, op := Op.load 50 (Operand.tmp 2), type := 50, pos := pos, after := #[], guard := none },
    { dst := some 13, op := Op.call { callee := Callee.value (Operand.func 153), args := #[Operand.tmp 12], argTypes := #[50] }, type := 150, pos := pos, after := #[{ on := 0, ground := Ground.data }], guard := none },
    { dst := some 14, op := Op.load 50 (Operand.tmp 3), type := 50, pos := pos, after := #[], guard := none },
    { dst := some 15, op := Op.call { callee := Callee.value (Operand.func 153), args := #[Operand.tmp 14], argTypes := #[50] }, type := 150, pos := pos, after := #[{ on := 2, ground := Ground.data }, { on := 1, ground := Ground.chain }], guard := none },
    { dst := some 6, op := Op.alloc 150, type := 0, pos := pos, after := #[], guard := none },
    { dst := some 7, op := Op.alloc 150, type := 0, pos := pos, after := #[], guard := none },
    { dst := none, op := Op.store 150 (Operand.tmp 6) (Operand.tmp 13), type := 0, pos := pos, after := #[{ on := 4, ground := Ground.data }, { on := 1, ground := Ground.data }, { on := 3, ground := Ground.chain }, { on := 0, ground := Ground.phase }, { on := 1, ground := Ground.phase }, { on := 2, ground := Ground.textOnly Departure.lateStores }, { on := 3, ground := Ground.textOnly Departure.lateStoresUnsure }, { on := 4, ground := Ground.phase }, { on := 5, ground := Ground.phase }], guard := none },
    { dst := none, op := Op.store 150 (Operand.tmp 7) (Operand.tmp 15), type := 0, pos := pos, after := #[{ on := 5, ground := Ground.data }, { on := 3, ground := Ground.data }, { on := 6, ground := Ground.chain }, { on := 0, ground := Ground.phase }, { on := 1, ground := Ground.phase }, { on := 2, ground := Ground.phase }, { on := 3, ground := Ground.phase }, { on := 4, ground := Ground.phase }, { on := 5, ground := Ground.phase }, { on := 6, ground := Ground.phase }], guard := none }]
set_option maxRecDepth 100000 in
set_option maxHeartbeats 400000 in
theorem two_halves12 {id : Nat} {pos : String} {Q : Exit → Act → World → Prop} (a0 a1 a2 a3 b0 b1 b2 b3 : Nat) (ha : ok4 a0 a1 a2 a3) (hb : ok4 b0 b1 b2 b3) (gA gB : Nat) (wr : World) (v0 v1 v4 v5 v8 v9 v10 v11 : Value) (rest : List Value) (ds : List Deferred)
    (rA : Row4 wr gA a0 a1 a2 a3) (rB : Row4 wr gB b0 b1 b2 b3) (lA : gA < wr.heap.size) (lB : gB < wr.heap.size)
    (next : ∀ (p q : Nat) (X Y : Nat → Nat) (s0 s1 s2 s3 : Value) (u : World), TwoH wr u p q X Y (val4 a0 a1 a2 a3) (val4 b0 b1 b2 b3) → Q .normal { tmps := (v0 :: v1 :: .pointer (some ⟨gA, 0, none⟩) :: .pointer (some ⟨gB, 0, none⟩) :: v4 :: v5 :: .pointer (some ⟨p, 0, none⟩) :: .pointer (some ⟨q, 0, none⟩) :: v8 :: v9 :: v10 :: v11 :: s0 :: s1 :: s2 :: s3 :: rest).toArray, defers := ds } u) :
    (Code.region id (halvesOps12 pos).toArray true).wp Tryz.prog Q { tmps := (v0 :: v1 :: .pointer (some ⟨gA, 0, none⟩) :: .pointer (some ⟨gB, 0, none⟩) :: v4 :: v5 :: undef :: undef :: v8 :: v9 :: v10 :: v11 :: undef :: undef :: undef :: undef :: rest).toArray, defers := ds } wr := by
  unfold halvesOps12
  refine region_head 6 (fun got b u => ∃ t6 t7 s0 s1 s2 s3 : Value, b = { tmps := (v0 :: v1 :: .pointer (some ⟨gA, 0, none⟩) :: .pointer (some ⟨gB, 0, none⟩) :: v4 :: v5 :: t6 :: t7 :: v8 :: v9 :: v10 :: v11 :: s0 :: s1 :: s2 :: s3 :: rest).toArray, defers := ds } ∧ RI got wr a0 a1 a2 a3 b0 b1 b2 b3 t6 t7 s0 s1 s2 s3 u) (by kernel_rfl) (by simp) (by kernel_rfl) (by kernel_rfl) (by kernel_rfl) (by kernel_rfl) ?_ ?_ ?_
  · exact ⟨undef, undef, undef, undef, undef, undef, rfl, RI.start wr a0 a1 a2 a3 b0 b1 b2 b3⟩
  · rintro got b u i hi h0 hr ⟨t6, t7, s0, s1, s2, s3, rfl, H⟩
    match i, hi with
    | 0, _ =>
      obtain ⟨k0, k1, k2, k3, kf⟩ := rA.below H.below lA
      have HH := Lib.hid H
      clear H hr
      refine wpOp_step rfl fun K hK => ?_
      go_simp
      exact hK _ _ ⟨_, _, _, _, _, _, rfl, HH.out.op0⟩
    | 1, _ =>
      have e : got 0 = true := readyB_at (e := { on := 0, ground := Ground.data }) hr rfl (by simp) rfl
      obtain rfl := H.g0 e
      have HH := Lib.hid H
      clear H hr
      refine wpOp_step rfl fun K hK => ?_
      go_simp
      refine (halves1_calls a0 a1 a2 a3 ha _).mono ?_
      rintro e u' ⟨x0, x1, x2, x3, x4, x5, x6, x7, rfl, hx, ex, hbl⟩
      exact hK _ _ ⟨_, _, _, _, _, _, rfl, (HH.out.grow hbl).op1 ⟨x0, x1, x2, x3, x4, x5, x6, x7, rfl, hx, ex⟩⟩
    | 2, _ =>
      obtain ⟨k0, k1, k2, k3, kf⟩ := rB.below H.below lB
      have HH := Lib.hid H
      clear H hr
      refine wpOp_step rfl fun K hK => ?_
      go_simp
      exact hK _ _ ⟨_, _, _, _, _, _, rfl, HH.out.op2⟩
    | 3, _ =>
      have e : got 2 = true := readyB_at (e := { on := 2, ground := Ground.data }) hr rfl (by simp) rfl
      obtain rfl := H.g2 e
      have HH := Lib.hid H
      clear H hr
      refine wpOp_step rfl fun K hK => ?_
      go_simp
      refine (halves1_calls b0 b1 b2 b3 hb _).mono ?_
      rintro e u' ⟨x0, x1, x2, x3, x4, x5, x6, x7, rfl, hx, ex, hbl⟩
      exact hK _ _ ⟨_, _, _, _, _, _, rfl, (HH.out.grow hbl).op3 ⟨x0, x1, x2, x3, x4, x5, x6, x7, rfl, hx, ex⟩⟩
    | 4, _ =>
      have HH := Lib.hid H
      clear H hr
      refine wpOp_step rfl fun K hK => ?_
      go_simp
      exact hK _ _ ⟨_, _, _, _, _, _, rfl, HH.out.op4 _⟩
    | 5, _ =>
      have HH := Lib.hid H
      clear H hr
      refine wpOp_step rfl fun K hK => ?_
      go_simp
      exact hK _ _ ⟨_, _, _, _, _, _, rfl, HH.out.op5 _⟩
  · rintro got b u hall ⟨t6, t7, s0, s1, s2, s3, rfl, H⟩
    obtain ⟨p, q, x0, x1, x2, x3, x4, x5, x6, x7, y0, y1, y2, y3, y4, y5, y6, y7, rfl, rfl, rfl, rfl, hx, hy, ex, ey, lp, lq, up, uq, hpq, rp, rq, hbl⟩ := H.all hall
    have cp0 := rp.cell (show 0 < 8 by omega); have fp0 := rp.free (show 0 < 8 by omega)
    have cp1 := rp.cell (show 1 < 8 by omega); have fp1 := rp.free (show 1 < 8 by omega)
    have cp2 := rp.cell (show 2 < 8 by omega); have fp2 := rp.free (show 2 < 8 by omega)
    have cp3 := rp.cell (show 3 < 8 by omega); have fp3 := rp.free (show 3 < 8 by omega)
    have cp4 := rp.cell (show 4 < 8 by omega); have fp4 := rp.free (show 4 < 8 by omega)
    have cp5 := rp.cell (show 5 < 8 by omega); have fp5 := rp.free (show 5 < 8 by omega)
    have cp6 := rp.cell (show 6 < 8 by omega); have fp6 := rp.free (show 6 < 8 by omega)
    have cp7 := rp.cell (show 7 < 8 by omega); have fp7 := rp.free (show 7 < 8 by omega)
    have cq0 := rq.cell (show 0 < 8 by omega); have fq0 := rq.free (show 0 < 8 by omega)
    have cq1 := rq.cell (show 1 < 8 by omega); have fq1 := rq.free (show 1 < 8 by omega)
    have cq2 := rq.cell (show 2 < 8 by omega); have fq2 := rq.free (show 2 < 8 by omega)
    have cq3 := rq.cell (show 3 < 8 by omega); have fq3 := rq.free (show 3 < 8 by omega)
    have cq4 := rq.cell (show 4 < 8 by omega); have fq4 := rq.free (show 4 < 8 by omega)
    have cq5 := rq.cell (show 5 < 8 by omega); have fq5 := rq.free (show 5 < 8 by omega)
    have cq6 := rq.cell (show 6 < 8 by omega); have fq6 := rq.free (show 6 < 8 by omega)
    have cq7 := rq.cell (show 7 < 8 by omega); have fq7 := rq.free (show 7 < 8 by omega)
    have HF := Lib.hid (TwoH.store hx hy ex ey lp lq up uq hpq rp rq hbl)
    have hqp : ¬ q = p := fun e => hpq e.symm
    clear H hx hy ex ey lp lq up uq rp rq hbl hall rA rB
    refine wpList_step fun K hK => ?_
    go_simp
    refine hK _ _ ?_
    refine wpList_step fun K2 hK2 => ?_
    go_simp
    refine hK2 _ _ ?_
    refine wpList_nil ?_
    exact next _ _ _ _ _ _ _ _ _ HF.out
def halvesOps13 (pos : String) : List Oper := [
    { dst := some 13, op := Op.load 50 (Operand.tmp 2), type := 50, pos := pos, after := #[], guard := none },
    { dst := some 14, op := Op.call { callee := Callee.value (Operand.func 153), args := #[Operand.tmp 13], argTypes := #[50] }, type := 150, pos := pos, after := #[{ on := 0, ground := Ground.data }], guard := none },
    { dst := some 15, op := Op.load 50 (Operand.tmp 3), type := 50, pos := pos, after := #[], guard := none },
    { dst := some 16, op := Op.call { callee := Callee.value (Operand.func 153), args := #[Operand.tmp 15], argTypes := #[50] }, type := 150, pos := pos, after := #[{ on := 2, ground := Ground.data }, { on := 1, ground := Ground.chain }], guard := none },
    { dst := some 6, op := Op.alloc 150, type := 0, pos := pos, after := #[], guard := none },
    { dst := some 7, op := Op.alloc 150, type := 0, pos := pos, after := #[], guard := none },
    { dst := none, op := Op.store 150 (Operand.tmp 6) (Operand.tmp 14), type := 0, pos := pos, after := #[{ on := 4, ground := Ground.data }, { on := 1, ground := Ground.data }, { on := 3, ground := Ground.chain }, { on := 0, ground := Ground.phase }, { on := 1, ground := Ground.phase }, { on := 2, ground := Ground.textOnly Departure.lateStores }, { on := 3, ground := Ground.textOnly Departure.lateStoresUnsure }, { on := 4, ground := Ground.phase }, { on := 5, ground := Ground.phase }], guard := none },
    { dst := none, op := Op.store 150 (Operand.tmp 7) (Operand.tmp 16), type := 0, pos := pos, after := #[{ on := 5, ground := Ground.data }, { on := 3, ground := Ground.data }, { on := 6, ground := Ground.chain }, { on := 0, ground := Ground.phase }, { on := 1, ground := Ground.phase }, { on := 2, ground := Ground.phase }, { on := 3, ground := Ground.phase }, { on := 4, ground := Ground.phase }, { on := 5, ground := Ground.phase }, { on := 6, ground := Ground.phase }], guard := none }]
set_option maxRecDepth 100000 in
set_option maxHeartbeats 400000 in
theorem two_halves13 {id : Nat} {pos : String} {Q : Exit → Act → World → Prop} (a0 a1 a2 a3 b0 b1 b2 b3 : Nat) (ha : ok4 a0 a1 a2 a3) (hb : ok4 b0 b1 b2 b3) (gA gB : Nat) (wr : World) (v0 v1 v4 v5 v8 v9 v10 v11 v12 : Value) (rest : List Value) (ds : List Deferred)
    (rA : Row4 wr gA a0 a1 a2 a3) (rB : Row4 wr gB b0 b1 b2 b3) (lA : gA < wr.heap.size) (lB : gB < wr.heap.size)
    (next : ∀ (p q : Nat) (X Y : Nat → Nat) (s0 s1 s2 s3 : Value) (u : World), TwoH wr u p q X Y (val4 a0 a1 a2 a3) (val4 b0 b1 b2 b3) → Q .normal { tmps := (v0 :: v1 :: .pointer (some ⟨gA, 0, none⟩) :: .pointer (some ⟨gB, 0, none⟩) :: v4 :: v5 :: .pointer (some ⟨p, 0, none⟩) :: .pointer (some ⟨q, 0, none⟩) :: v8 :: v9 :: v10 :: v11 :: v12 :: s0 :: s1 :: s2 :: s3 :: rest).toArray, defers := ds } u) :
    (Code.region id (halvesOps13 pos).toArray true).wp Tryz.prog Q { tmps := (v0 :: v1 :: .pointer (some ⟨gA, 0, none⟩) :: .pointer (some ⟨gB, 0, none⟩) :: v4 :: v5 :: undef :: undef :: v8 :: v9 :: v10 :: v11 :: v12 :: undef :: undef :: undef :: undef :: rest).toArray, defers := ds } wr := by
  unfold halvesOps13
  refine region_head 6 (fun got b u => ∃ t6 t7 s0 s1 s2 s3 : Value, b = { tmps := (v0 :: v1 :: .pointer (some ⟨gA, 0, none⟩) :: .pointer (some ⟨gB, 0, none⟩) :: v4 :: v5 :: t6 :: t7 :: v8 :: v9 :: v10 :: v11 :: v12 :: s0 :: s1 :: s2 :: s3 :: rest).toArray, defers := ds } ∧ RI got wr a0 a1 a2 a3 b0 b1 b2 b3 t6 t7 s0 s1 s2 s3 u) (by kernel_rfl) (by simp) (by kernel_rfl) (by kernel_rfl) (by kernel_rfl) (by kernel_rfl) ?_ ?_ ?_
  · exact ⟨undef, undef, undef, undef, undef, undef, rfl, RI.start wr a0 a1 a2 a3 b0 b1 b2 b3⟩
  · rintro got b u i hi h0 hr ⟨t6, t7, s0, s1, s2, s3, rfl, H⟩
    match i, hi with
    | 0, _ =>
      obtain ⟨k0, k1, k2, k3, kf⟩ := rA.below H.below lA
      have HH := Lib.hid H
      clear H hr
      refine wpOp_step rfl fun K hK => ?_
      go_simp
      exact hK _ _ ⟨_, _, _, _, _, _, rfl, HH.out.op0⟩
    | 1, _ =>
      have e : got 0 = true := readyB_at (e := { on := 0, ground := Ground.data }) hr rfl (by simp) rfl
      obtain rfl := H.g0 e
      have HH := Lib.hid H
      clear H hr
      refine wpOp_step rfl fun K hK => ?_
      go_simp
      refine (halves1_calls a0 a1 a2 a3 ha _).mono ?_
      rintro e u' ⟨x0, x1, x2, x3, x4, x5, x6, x7, rfl, hx, ex, hbl⟩
      exact hK _ _ ⟨_, _, _, _, _, _, rfl, (HH.out.grow hbl).op1 ⟨x0, x1, x2, x3, x4, x5, x6, x7, rfl, hx, ex⟩⟩
    | 2, _ =>
      obtain ⟨k0, k1, k2, k3, kf⟩ := rB.below H.below lB
      have HH := Lib.hid H
      clear H hr
      refine wpOp_step rfl fun K hK => ?_
      go_simp
      exact hK _ _ ⟨_, _, _, _, _, _, rfl, HH.out.op2⟩
    | 3, _ =>
      have e : got 2 = true := readyB_at (e := { on := 2, ground := Ground.data }) hr rfl (by simp) rfl
      obtain rfl := H.g2 e
      have HH := Lib.hid H
      clear H hr
      refine wpOp_step rfl fun K hK => ?_
      go_simp
      refine (halves1_calls b0 b1 b2 b3 hb _).mono ?_
      rintro e u' ⟨x0, x1, x2, x3, x4, x5, x6, x7, rfl, hx, ex, hbl⟩
      exact hK _ _ ⟨_, _, _, _, _, _, rfl, (HH.out.grow hbl).op3 ⟨x0, x1, x2, x3, x4, x5, x6, x7, rfl, hx, ex⟩⟩
    | 4, _ =>
      have HH := Lib.hid H
      clear H hr
      refine wpOp_step rfl fun K hK => ?_
      go_simp
      exact hK _ _ ⟨_, _, _, _, _, _, rfl, HH.out.op4 _⟩
    | 5, _ =>
      have HH := Lib.hid H
      clear H hr
      refine wpOp_step rfl fun K hK => ?_
      go_simp
      exact hK _ _ ⟨_, _, _, _, _, _, rfl, HH.out.op5 _⟩
  · rintro got b u hall ⟨t6, t7, s0, s1, s2, s3, rfl, H⟩
    obtain ⟨p, q, x0, x1, x2, x3, x4, x5, x6, x7, y0, y1, y2, y3, y4, y5, y6, y7, rfl, rfl, rfl, rfl, hx, hy, ex, ey, lp, lq, up, uq, hpq, rp, rq, hbl⟩ := H.all hall
    have cp0 := rp.cell (show 0 < 8 by omega); have fp0 := rp.free (show 0 < 8 by omega)
    have cp1 := rp.cell (show 1 < 8 by omega); have fp1 := rp.free (show 1 < 8 by omega)
    have cp2 := rp.cell (show 2 < 8 by omega); have fp2 := rp.free (show 2 < 8 by omega)
    have cp3 := rp.cell (show 3 < 8 by omega); have fp3 := rp.free (show 3 < 8 by omega)
    have cp4 := rp.cell (show 4 < 8 by omega); have fp4 := rp.free (show 4 < 8 by omega)
    have cp5 := rp.cell (show 5 < 8 by omega); have fp5 := rp.free (show 5 < 8 by omega)
    have cp6 := rp.cell (show 6 < 8 by omega); have fp6 := rp.free (show 6 < 8 by omega)
    have cp7 := rp.cell (show 7 < 8 by omega); have fp7 := rp.free (show 7 < 8 by omega)
    have cq0 := rq.cell (show 0 < 8 by omega); have fq0 := rq.free (show 0 < 8 by omega)
    have cq1 := rq.cell (show 1 < 8 by omega); have fq1 := rq.free (show 1 < 8 by omega)
    have cq2 := rq.cell (show 2 < 8 by omega); have fq2 := rq.free (show 2 < 8 by omega)
    have cq3 := rq.cell (show 3 < 8 by omega); have fq3 := rq.free (show 3 < 8 by omega)
    have cq4 := rq.cell (show 4 < 8 by omega); have fq4 := rq.free (show 4 < 8 by omega)
    have cq5 := rq.cell (show 5 < 8 by omega); have fq5 := rq.free (show 5 < 8 by omega)
    have cq6 := rq.cell (show 6 < 8 by omega); have fq6 := rq.free (show 6 < 8 by omega)
    have cq7 := rq.cell (show 7 < 8 by omega); have fq7 := rq.free (show 7 < 8 by omega)
    have HF := Lib.hid (TwoH.store hx hy ex ey lp lq up uq hpq rp rq hbl)
    have hqp : ¬ q = p := fun e => hpq e.symm
    clear H hx hy ex ey lp lq up uq rp rq hbl hall rA rB
    refine wpList_step fun K hK => ?_
    go_simp
    refine hK _ _ ?_
    refine wpList_step fun K2 hK2 => ?_
    go_simp
    refine hK2 _ _ ?_
    refine wpList_nil ?_
    exact next _ _ _ _ _ _ _ _ _ HF.out
end Go.Proofs.YtgacpjmggdmgdaaGreat.R1
namespace Go.Proofs.YtgacpjmggdmgdaaGreat.R1
set_option linter.unusedVariables false
set_option linter.unusedSimpArgs false
open Go.RowKit

theorem tot_put (B : Nat) (P : Nat → Nat) (k v : Nat) : tot B (upd P k v) (k + 1) = tot B P k + v * B ^ k := by
  rw [tot_succ, tot_upd_ge B P k v k (Nat.le_refl _)]
  unfold upd
  rw [if_pos rfl]
theorem carry_step {B k s c c' X Y T : Nat} (e : s + B * c' = X + Y + c) : s * B ^ k + c' * B ^ (k + 1) = X * B ^ k + Y * B ^ k + c * B ^ k := by
  rw [Nat.pow_succ, ← Nat.add_mul, ← Nat.add_mul, ← e, Nat.add_mul]
  congr 1
  rw [Nat.mul_comm (B ^ k) B, ← Nat.mul_assoc, Nat.mul_comm c' B]
theorem add_tot {B k s c c' : Nat} {P X Y : Nat → Nat} (h : tot B P k + c * B ^ k = tot B X k + tot B Y k) (e : s + B * c' = X k + Y k + c) :
    tot B (upd P k s) (k + 1) + c' * B ^ (k + 1) = tot B X (k + 1) + tot B Y (k + 1) := by
  rw [tot_put, tot_succ, tot_succ]
  have := carry_step (T := 0) (k := k) e
  omega
theorem sub_tot {B k s c c' : Nat} {P X Y : Nat → Nat} (h : tot B P k + tot B Y k = tot B X k + c * B ^ k) (e : s + Y k + c = X k + B * c') :
    tot B (upd P k s) (k + 1) + tot B Y (k + 1) = tot B X (k + 1) + c' * B ^ (k + 1) := by
  rw [tot_put, tot_succ, tot_succ]
  have h1 : s * B ^ k + Y k * B ^ k + c * B ^ k = X k * B ^ k + c' * B ^ (k + 1) := by
    rw [Nat.pow_succ, ← Nat.add_mul, ← Nat.add_mul, e, Nat.add_mul]
    congr 1
    rw [Nat.mul_comm (B ^ k) B, ← Nat.mul_assoc, Nat.mul_comm c' B]
  omega
theorem ex_and {t : Nat} (h : t < 18446744073709551616) : ∃ s c : Nat, bits .and .u64 (t : Int) 4294967295 = (s : Int) ∧ (t : Int) / 4294967296 = (c : Int) ∧ s < 4294967296 ∧ Hid (c = t / 4294967296) ∧ Hid (s + 4294967296 * c = t) := by
  obtain ⟨l, h', e1, e2, h1, h2, e⟩ := ex_half h
  exact ⟨l, h', e1, e2, h1, Lib.hid (by have := e.out; omega), e⟩
theorem ex_ra {x y c : Nat} (hx : x < 4294967296) (hy : y < 4294967296) (hc : c ≤ 1) : ∃ e t s c' : Nat, (x : Int) + (y : Int) = (e : Int) ∧ (e : Int) + (c : Int) = (t : Int) ∧ bits .and .u64 (t : Int) 4294967295 = (s : Int) ∧ (t : Int) / 4294967296 = (c' : Int) ∧
    e < 18446744073709551616 ∧ t < 18446744073709551616 ∧ s < 4294967296 ∧ c' ≤ 1 ∧ Hid (s + 4294967296 * c' = x + y + c) := by
  obtain ⟨s, c', e1, e2, hs, h1, h2⟩ := ex_and (t := x + y + c) (by omega)
  have := h1.out
  exact ⟨x + y, x + y + c, s, c', by omega, by omega, e1, e2, by omega, by omega, hs, by omega, Lib.hid (by have := h2.out; omega)⟩
theorem ex_rs {x y c : Nat} (hx : x < 4294967296) (hy : y < 4294967296) (hc : c ≤ 1) : ∃ d e t s c' b : Nat, (x : Int) + 4294967296 = (d : Int) ∧ (d : Int) - (y : Int) = (e : Int) ∧ (e : Int) - (c : Int) = (t : Int) ∧ bits .and .u64 (t : Int) 4294967295 = (s : Int) ∧ (t : Int) / 4294967296 = (b : Int) ∧ (1 : Int) - (b : Int) = (c' : Int) ∧
    d < 18446744073709551616 ∧ e < 18446744073709551616 ∧ t < 18446744073709551616 ∧ b ≤ 1 ∧ s < 4294967296 ∧ c' ≤ 1 ∧ Hid (s + y + c = x + 4294967296 * c') := by
  obtain ⟨s, b, e1, e2, hs, h1, h2⟩ := ex_and (t := x + 4294967296 - y - c) (by omega)
  have := h1.out
  exact ⟨x + 4294967296, x + 4294967296 - y, x + 4294967296 - y - c, s, 1 - b, b, by omega, by omega, by omega, e1, e2, by omega, by omega, by omega, by omega, by omega, hs, by omega, Lib.hid (by have := h2.out; omega)⟩
theorem ex_rm {x y p o : Nat} (hx : x < 4294967296) (hy : y < 4294967296) (hp : p < 4294967296) (ho : o < 4294967296) : ∃ m e t s c' : Nat, (x : Int) * (y : Int) = (m : Int) ∧ (p : Int) + (m : Int) = (e : Int) ∧ (e : Int) + (o : Int) = (t : Int) ∧ bits .and .u64 (t : Int) 4294967295 = (s : Int) ∧ (t : Int) / 4294967296 = (c' : Int) ∧
    m < 18446744073709551616 ∧ e < 18446744073709551616 ∧ t < 18446744073709551616 ∧ s < 4294967296 ∧ c' < 4294967296 ∧ Hid (s + 4294967296 * c' = x * y + p + o) := by
  have hm := mul_le (show x ≤ 4294967295 by omega) (show y ≤ 4294967295 by omega)
  obtain ⟨s, c', e1, e2, hs, h1, h2⟩ := ex_and (t := p + x * y + o) (by omega)
  have := h1.out
  exact ⟨x * y, p + x * y, p + x * y + o, s, c', (Int.natCast_mul x y).symm, by omega, by omega, e1, e2, by omega, by omega, by omega, hs, by omega, Lib.hid (by have := h2.out; omega)⟩

/-- the world in the rounds -/
structure RW (w wr : World) (p q o r n : Nat) (X Y P : Nat → Nat) : Prop where
  below : Below w.heap.size w wr
  lo : w.heap.size ≤ o
  uo : o < wr.heap.size
  op : ¬ o = p
  oq : ¬ o = q
  or : ¬ o = r
  rowX : RowIs wr p 8 X
  rowY : RowIs wr q 8 Y
  rowH : ∃ H, RowIs wr r 4 H
  ur : r < wr.heap.size
  rowP : RowIs wr o n P
  lt : ∀ k, P k < 4294967296
theorem RW.set {w wr : World} {p q o r n : Nat} {X Y P : Nat → Nat} (h : RW w wr p q o r n X Y P) {k d : Nat} (hk : k < n) (hd : d < 4294967296) :
    RW w (wr.setCell ⟨o, k, none⟩ (.int .u64 (d : Nat))) p q o r n X Y (upd P k d) :=
  ⟨h.below.setCell (p := ⟨o, k, none⟩) h.lo _, h.lo, by rw [World.size_setCell]; exact h.uo, h.op, h.oq, h.or, h.rowX.other h.op _, h.rowY.other h.oq _,
    h.rowH.elim fun H x => ⟨H, x.other h.or _⟩, by rw [World.size_setCell]; exact h.ur, h.rowP.set hk, fun x => by unfold upd; split; exact hd; exact h.lt x⟩
theorem RW.drewN {w wr : World} {p q o r n : Nat} {X Y P : Nat → Nat} (h : RW w wr p q o r n X Y P) (m : Nat) : RW w (wr.drewN m) p q o r n X Y P :=
  ⟨h.below.trans (below_drewN' _ _ _), h.lo, h.uo, h.op, h.oq, h.or, h.rowX, h.rowY, h.rowH, h.ur, h.rowP, h.lt⟩


set_option maxRecDepth 100000 in
set_option maxHeartbeats 4000000 in
theorem refSub_calls (a0 a1 a2 a3 b0 b1 b2 b3 : Nat) (ha : ok4 a0 a1 a2 a3) (hb : ok4 b0 b1 b2 b3) (w : World) :
    Calls Tryz.prog 115 #[.agg #[.int .u64 a0, .int .u64 a1, .int .u64 a2, .int .u64 a3], .agg #[.int .u64 b0, .int .u64 b1, .int .u64 b2, .int .u64 b3]] w (SubPost (val4 a0 a1 a2 a3) (val4 b0 b1 b2 b3) w) := by
  go_enter Tryz.func115, Tryz.ntmps115
  go_wp2_with fail
  refine two_halves12 (pos := "ref.go:50") a0 a1 a2 a3 b0 b1 b2 b3 ha hb w.heap.size (w.heap.size + 1) _ _ _ _ _ _ _ _ _ _ _ ?_ ?_ (by first | (simp; done) | (simp; omega)) (by first | (simp; done) | (simp; omega)) (fun p q X Y s0 s1 s2 s3 u T => ?_)
  · exact ⟨by simp [go_sem], by simp [go_sem], by simp [go_sem], by simp [go_sem], fun k => by simp [go_sem]⟩
  · exact ⟨by simp [go_sem], by simp [go_sem], by simp [go_sem], by simp [go_sem], fun k => by simp [go_sem]⟩
  have r0 : ∃ H, RowIs u (w.heap.size + 1 + 1) 4 H := ⟨fnOf [0, 0, 0, 0], RowIs.below (RowIs.mk4 (by simp [go_sem]) (by simp [go_sem]) (by simp [go_sem]) (by simp [go_sem]) (fun k => by simp [go_sem])) T.below (by simp)⟩
  have h0 : Below w.heap.size w u := by
    refine Below.trans ?_ (T.below.mono (by simp; omega))
    repeat (first | exact Below.refl _ _ | refine Below.alloc ?_ (by first | (simp; done) | (simp; omega)) _)
  have lp := T.lp; have lq := T.lq; have hs := T.below.size
  simp at lp lq hs
  have up := T.up; have uq := T.uq; have hpq := T.ne; have rX := T.rowX; have rY := T.rowY
  have HlX := Lib.hid T.ltX; have HlY := Lib.hid T.ltY; have HeX := Lib.hid T.eX; have HeY := Lib.hid T.eY
  have Hr0 := Lib.hid r0; have Hh0 := Lib.hid h0; have HX := Lib.hid rX; have HY := Lib.hid rY
  clear T r0 h0 rX rY
  go_wp2_with fail
  go_loopw [9, 10] (fun cc i wr => ∃ (k c : Nat) (P : Nat → Nat), k ≤ 8 ∧ c ≤ 1 ∧ cc = .int .u64 c ∧ i = .int .i64 k ∧ RW w wr p q u.heap.size (w.heap.size + 1 + 1) 8 X Y P ∧ Hid (tot 4294967296 P k + tot 4294967296 Y k = tot 4294967296 X k + c * 4294967296 ^ k)) (fun _ i _ => 8 - (intOf i).toNat)
  case atStart =>
    refine ⟨0, 0, fun _ => 0, by omega, by omega, rfl, rfl, ⟨Hh0.out.alloc (by omega) _, by omega, by simp, by omega, by omega, by omega, HX.out.alloc up _, HY.out.alloc uq _, Hr0.out.elim fun H x => ⟨H, x.alloc (by omega) _⟩, by simp; omega, ?_, fun _ => by omega⟩, Lib.hid rfl⟩
    refine RowIs.mk8z (fun k hk => ?_) (fun k => by simp [go_sem])
    match k, hk with
    | 0, _ | 1, _ | 2, _ | 3, _ | 4, _ | 5, _ | 6, _ | 7, _ => simp [go_sem]
  case round =>
    obtain ⟨i, c, P, hi, hc, rfl, rfl, m, mo⟩ := hrel
    by_cases hlt : i < 8
    · have cx := m.rowX.cell hlt
      have cy := m.rowY.cell hlt
      have cp := m.rowP.cell hlt
      have fp := m.rowP.free hlt
      have bx := HlX.out i
      have by' := HlY.out i
      obtain ⟨d1, e1, t1, s1', c1, b1, q0, q1, q2, q3, q4, q5, l0, l1, l2, lb, l3, l4, e⟩ := ex_rs bx by' hc
      have M := Lib.hid m
      clear m bx by'
      go_wp2_with fail
      go_quiet (fail)
      go_wp2_with fail
      go_roundw
      case rel => exact ⟨i + 1, c1, upd P i s1', by omega, by omega, rfl, by go_num, (M.out.drewN _).set hlt l3, Lib.hid (sub_tot mo.out e.out)⟩
      case measure => simp [intOf]; omega
    · obtain rfl : i = 8 := by omega
      have M := Lib.hid m
      have c0 := m.rowP.cell (show 0 < 8 by omega)
      clear m
      go_wp2_with fail
      have m := M.out
      refine (join_calls (P 0) (P 1) (P 2) (P 3) (P 4) (P 5) (P 6) (P 7) ⟨m.lt 0, m.lt 1, m.lt 2, m.lt 3, m.lt 4, m.lt 5, m.lt 6, m.lt 7⟩ u.heap.size 0 8 _ (m.rowP.cell (by omega)) (m.rowP.cell (by omega)) (m.rowP.cell (by omega)) (m.rowP.cell (by omega)) (m.rowP.cell (by omega)) (m.rowP.cell (by omega)) (m.rowP.cell (by omega)) (m.rowP.cell (by omega)) m.uo).mono ?_
      rintro e w' ⟨j0, j1, j2, j3, rfl, hj, ej, hbl⟩
      obtain ⟨H, rH⟩ := m.rowH
      have rH := rH.below hbl m.ur
      have p0 := rH.cell (show 0 < 4 by omega); have q0 := rH.free (show 0 < 4 by omega)
      have p1 := rH.cell (show 1 < 4 by omega); have q1 := rH.free (show 1 < 4 by omega)
      have p2 := rH.cell (show 2 < 4 by omega); have q2 := rH.free (show 2 < 4 by omega)
      have p3 := rH.cell (show 3 < 4 by omega); have q3 := rH.free (show 3 < 4 by omega)
      have HB := Lib.hid (m.below.trans (hbl.mono m.below.size))
      have Hej := Lib.hid ej
      clear rH hbl m ej
      go_wp2_with fail
      refine bodyPost_ret (v := .tuple #[.agg #[.int .u64 j0, .int .u64 j1, .int .u64 j2, .int .u64 j3], .int .u64 c]) (by simp [results, Tryz.results115, go_sem, *]) rfl ?_
      refine ⟨j0, j1, j2, j3, c, rfl, hj, hc, ?_, ?_⟩
      · have h1 := Hej.out.trans (val8_tot P)
        have h2 := mo.out
        have e8 : 4294967296 ^ 8 = 115792089237316195423570985008687907853269984665640564039457584007913129639936 := by simp
        rw [HeX.out, HeY.out, ← h1, e8] at h2
        omega
      · iterate 4 refine Below.setCell ?_ (by simp; omega) _
        exact HB.out
end Go.Proofs.YtgacpjmggdmgdaaGreat.R1
namespace Go.Proofs.YtgacpjmggdmgdaaGreat.R1
set_option linter.unusedVariables false
set_option linter.unusedSimpArgs false
open Go.RowKit

theorem len_down {A m : Nat} (h : A < 2 ^ (m + 1)) (hb : bitOf A m = 0) : A < 2 ^ m := by
  unfold bitOf at hb
  have h1 : A / 2 ^ m < 2 := by rw [Nat.div_lt_iff_lt_mul (Nat.pow_pos (by omega)), Nat.mul_comm, ← Nat.pow_succ]; exact h
  have h2 : A / 2 ^ m = 0 := by generalize A / 2 ^ m = q at h1 hb; omega
  have h3 := Nat.div_add_mod A (2 ^ m)
  have h4 := Nat.mod_lt A (show 0 < 2 ^ m from Nat.pow_pos (by omega))
  rw [h2] at h3; omega
theorem len_is {A m : Nat} (h : A < 2 ^ (m + 1)) (hb : bitOf A m = 1) : LenIs A (m + 1) := by
  refine ⟨h, fun _ => ?_⟩
  unfold bitOf at hb
  have h1 : 1 ≤ A / 2 ^ m := by
    rcases Nat.eq_zero_or_pos (A / 2 ^ m) with e | e
    · rw [e] at hb; omega
    · exact e
  exact (Nat.one_le_div_iff (Nat.pow_pos (by omega))).1 h1

def LenP (A : Nat) (w : World) (e : Ending) (w' : World) : Prop :=
  ∃ L : Nat, e = .returned (.int .i64 L) ∧ L ≤ 256 ∧ LenIs A L ∧ Below w.heap.size w w'

theorem refLen_calls (a0 a1 a2 a3 : Nat) (ha : ok4 a0 a1 a2 a3) (w : World) :
    Calls Tryz.prog 42 #[.agg #[.int .u64 a0, .int .u64 a1, .int .u64 a2, .int .u64 a3]] w (LenP (val4 a0 a1 a2 a3) w) := by
  have h256 : val4 a0 a1 a2 a3 < 2 ^ 256 := by have := val4_lt ha; simpa using this
  have HB := Lib.hid (fun i h (w : World) => refBit_in a0 a1 a2 a3 i ha h w)
  generalize hA : val4 a0 a1 a2 a3 = A at *
  have H256 := Lib.hid h256
  clear h256 hA
  go_enter Tryz.func42, Tryz.ntmps42
  go_wp2_with fail
  go_loopw [3] (fun i wr => ∃ n : Int, -1 ≤ n ∧ n ≤ 255 ∧ i = .int .i64 n ∧ Hid (A < 2 ^ (n + 1).toNat) ∧ Mem w wr [(w.heap.size, a0, a1, a2, a3)]) (fun i _ => (intOf i + 1).toNat)
  case atStart => exact ⟨255, by omega, by omega, rfl, H256, (Mem.nil w).new w.heap.size a0 a1 a2 a3 50 rfl⟩
  case round =>
    obtain ⟨n, h1, h2, rfl, hA, m⟩ := hrel
    have M := Lib.hid m
    obtain ⟨lt_a, c0, c1, c2, c3, cf⟩ := m.get (b := w.heap.size) (c0 := a0) (c1 := a1) (c2 := a2) (c3 := a3) (by simp)
    clear m
    by_cases h0 : 0 ≤ n
    · obtain ⟨i, rfl⟩ := Int.eq_ofNat_of_zero_le h0
      have hA' := Lib.hid (show A < 2 ^ (i + 1) from hA.out)
      clear hA
      rcases bitOf_01 A i with hb | hb
      · have hB := HB.out i (by omega)
        rw [hb] at hB
        have HN := Lib.hid (len_down hA'.out hb)
        clear hb hA'
        go_wp2_with fail
        refine (hB _).mono ?_
        rintro e w1 ⟨rfl, hbl⟩
        have M' := M.out.on hbl
        clear hbl
        go_wp2_with fail
        go_roundw
        case rel => exact ⟨(i : Int) - 1, by omega, by omega, by first | rfl | go_num, Lib.hid (by rw [show ((i : Int) - 1 + 1).toNat = i by omega]; exact HN.out), M'⟩
        case measure => first | (simp [intOf]; done) | (simp [intOf]; omega)
      · have hB := HB.out i (by omega)
        rw [hb] at hB
        have HN := Lib.hid (len_is hA'.out hb)
        clear hb hA'
        go_wp2_with fail
        refine (hB _).mono ?_
        rintro e w1 ⟨rfl, hbl⟩
        have M' := M.out.on hbl
        clear hbl
        go_wp2_with fail
        go_ret
        exact ⟨i + 1, rfl, by omega, HN.out, M'.1⟩
    · obtain rfl : n = -1 := by omega
      go_wp2_with fail
      go_ret
      exact ⟨0, rfl, by omega, ⟨hA.out, fun h => absurd h (by omega)⟩, M.out.1⟩

theorem shl_dvd (A n i : Nat) (h : i ≤ n) (h' : i ≤ 256) : 2 ^ i ∣ A * 2 ^ n % 115792089237316195423570985008687907853269984665640564039457584007913129639936 := by
  refine (Nat.dvd_mod_iff ?_).2 ?_
  · rw [show 115792089237316195423570985008687907853269984665640564039457584007913129639936 = 2 ^ 256 by simp]
    exact Nat.pow_dvd_pow 2 h'
  · exact Nat.dvd_trans (Nat.pow_dvd_pow 2 h) (Nat.dvd_mul_left _ _)

end Go.Proofs.YtgacpjmggdmgdaaGreat.R1
namespace Go.Proofs.YtgacpjmggdmgdaaGreat.R1
set_option linter.unusedVariables false
open Go.RowKit

/-- one step of a long division by bits -/
theorem bit_div {N q r y b : Nat} (hy : 0 < y) (hq : q = N / y) (hr : r = N % y) (h : y ≤ 2 * r + b) (hb : b ≤ 1) : 2 * q + 1 = (2 * N + b) / y ∧ 2 * r + b - y = (2 * N + b) % y := by
  have h1 := Nat.div_add_mod N y
  have h2 := Nat.mod_lt N hy
  rw [← hq, ← hr] at h1
  rw [← hr] at h2
  have e : 2 * N + b = (2 * r + b - y) + y * (2 * q + 1) := by
    rw [Nat.mul_add, Nat.mul_one, Nat.mul_left_comm]; omega
  rw [e, Nat.add_mul_div_left _ _ hy, Nat.add_mul_mod_self_left, Nat.div_eq_of_lt (by omega), Nat.mod_eq_of_lt (by omega)]
  exact ⟨by omega, rfl⟩
theorem bit_div' {N q r y b : Nat} (hy : 0 < y) (hq : q = N / y) (hr : r = N % y) (h : 2 * r + b < y) : 2 * q = (2 * N + b) / y ∧ 2 * r + b = (2 * N + b) % y := by
  have h1 := Nat.div_add_mod N y
  rw [← hq, ← hr] at h1
  have e : 2 * N + b = (2 * r + b) + y * (2 * q) := by rw [Nat.mul_left_comm]; omega
  rw [e, Nat.add_mul_div_left _ _ hy, Nat.add_mul_mod_self_left, Nat.div_eq_of_lt h, Nat.mod_eq_of_lt h]
  exact ⟨by omega, rfl⟩

/-- what stands in Div's loop: out and rest, when the bits above i are taken -/
def DI (A y i o r : Nat) : Prop := o = A / 2 ^ i / y * 2 ^ i ∧ r = A / 2 ^ i % y
theorem di_start {A y : Nat} (h : A < 2 ^ 256) : DI A y 256 0 0 := by
  unfold DI; rw [Nat.div_eq_of_lt h]; simp
theorem di_bit {A y i o r : Nat} (h : DI A y (i + 1) o r) : bitOf o i = 0 := by
  rw [h.1]; unfold bitOf
  rw [Nat.pow_succ, Nat.mul_comm (2 ^ i) 2, ← Nat.mul_assoc, Nat.mul_div_cancel _ (Nat.pow_pos (by omega))]
  omega
theorem di_yes {A y i o r b : Nat} (hy : 0 < y) (h : DI A y (i + 1) o r) (hb : bitOf A i = b) (hge : y ≤ 2 * r + b) : DI A y i (o + 2 ^ i) (2 * r + b - y) := by
  have hs := bit_step A i
  have hb1 : b ≤ 1 := by rcases bitOf_01 A i with e | e <;> omega
  rw [hb] at hs
  obtain ⟨e1, e2⟩ := bit_div hy rfl h.2 hge hb1
  refine ⟨?_, by rw [hs]; exact e2⟩
  rw [hs, ← e1, h.1]
  generalize A / 2 ^ (i + 1) / y = q
  rw [Nat.pow_succ, Nat.add_mul, Nat.one_mul, Nat.mul_comm 2 q, Nat.mul_assoc, Nat.mul_comm 2]
theorem di_no {A y i o r b : Nat} (hy : 0 < y) (h : DI A y (i + 1) o r) (hb : bitOf A i = b) (hlt : 2 * r + b < y) : DI A y i o (2 * r + b) := by
  have hs := bit_step A i
  rw [hb] at hs
  obtain ⟨e1, e2⟩ := bit_div' hy rfl h.2 hlt
  refine ⟨?_, by rw [hs]; exact e2⟩
  rw [hs, ← e1, h.1]
  generalize A / 2 ^ (i + 1) / y = q
  rw [Nat.pow_succ, Nat.mul_comm 2 q, Nat.mul_assoc, Nat.mul_comm 2]
theorem di_end {A y o r : Nat} (h : DI A y 0 o r) : o = A / y ∧ r = A % y := by
  unfold DI at h
  simpa using h
theorem di_lt {A y i o r : Nat} (hy : 0 < y) (h : DI A y i o r) : r < y := by rw [h.2]; exact Nat.mod_lt _ hy

/-- the numbers of a round of Div as the program lays them -/
theorem ex_take {r b : Nat} (hr : r < 18446744073709551616) (hb : b ≤ 1) : ∃ x z : Nat, IntKind.u64.wrap ((r : Int) * 2) = (x : Int) ∧ bits .or .u64 (x : Int) (b : Int) = (z : Int) ∧ x < 18446744073709551616 ∧ z < 18446744073709551616 ∧ Hid (z = (2 * r + b) % 18446744073709551616) := by
  have hx : 2 * r % 18446744073709551616 < 18446744073709551616 := by omega
  obtain ⟨z, h1, h2, h3⟩ := ex_or (p := 1) hx (show b < 18446744073709551616 by omega) (Lib.hid (by omega)) (Lib.hid ⟨r % 9223372036854775808, by omega⟩)
  refine ⟨2 * r % 18446744073709551616, z, ?_, h1, hx, h2, Lib.hid (by rw [h3.out]; omega)⟩
  rw [show (r : Int) * 2 = ((2 * r : Nat) : Int) by omega, wrap_mod64]
theorem ex_top1 {r : Nat} (hr : r < 18446744073709551616) (h : 9223372036854775808 ≤ r) : (r : Int) / 9223372036854775808 = 1 := by omega
theorem ex_top0 {r : Nat} (h : r < 9223372036854775808) : (r : Int) / 9223372036854775808 = 0 := by omega
theorem ex_less {z y r b : Nat} (hz : z = (2 * r + b) % 18446744073709551616) (hr : r < y) (hb : b ≤ 1) (hy : y < 18446744073709551616) (h : y ≤ 2 * r + b) : IntKind.u64.wrap ((z : Int) - (y : Int)) = ((2 * r + b - y : Nat) : Int) := by
  rw [IntKind.wrap_u64]; omega

/-- what stands in Mod's loop -/
def MB (X m i r : Nat) : Prop := r = X / 2 ^ i % m
theorem mb_yes {X m i r b : Nat} (hm : 0 < m) (h : MB X m (i + 1) r) (hb : bitOf X i = b) (hge : m ≤ 2 * r + b) : MB X m i (2 * r + b - m) := by
  have hs := bit_step X i
  have hb1 : b ≤ 1 := by rcases bitOf_01 X i with e | e <;> omega
  rw [hb] at hs
  unfold MB; rw [hs]
  exact (bit_div hm rfl h hge hb1).2
theorem mb_no {X m i r b : Nat} (hm : 0 < m) (h : MB X m (i + 1) r) (hb : bitOf X i = b) (hlt : 2 * r + b < m) : MB X m i (2 * r + b) := by
  have hs := bit_step X i
  rw [hb] at hs
  unfold MB; rw [hs]
  exact (bit_div' hm rfl h hlt).2
theorem mb_lt {X m i r : Nat} (hm : 0 < m) (h : MB X m i r) : r < m := by rw [show r = _ from h]; exact Nat.mod_lt _ hm
theorem bit_hi {H L i : Nat} (hL : L < 115792089237316195423570985008687907853269984665640564039457584007913129639936) (h : 256 ≤ i) : bitOf (H * 115792089237316195423570985008687907853269984665640564039457584007913129639936 + L) i = bitOf H (i - 256) := by
  obtain ⟨k, rfl⟩ : ∃ k, i = 256 + k := ⟨i - 256, by omega⟩
  unfold bitOf
  rw [Nat.pow_add, ← Nat.div_div_eq_div_mul, show (2 : Nat) ^ 256 = 115792089237316195423570985008687907853269984665640564039457584007913129639936 by simp, Nat.mul_comm H, Nat.mul_add_div (by omega), Nat.div_eq_of_lt hL, Nat.add_zero, show 256 + k - 256 = k by omega]
theorem bit_lo {H L i : Nat} (h : i < 256) : bitOf (H * 115792089237316195423570985008687907853269984665640564039457584007913129639936 + L) i = bitOf L i := by
  unfold bitOf
  have e : 115792089237316195423570985008687907853269984665640564039457584007913129639936 = 2 ^ i * (2 * 2 ^ (255 - i)) := by
    rw [← Nat.pow_succ', ← Nat.pow_add, show i + (255 - i).succ = 256 by omega]
  rw [e, Nat.mul_left_comm H, Nat.mul_add_div (Nat.pow_pos (by omega)), Nat.mul_left_comm H 2, Nat.mul_add_mod]
theorem even_low {s0 s1 s2 s3 c R : Nat} (h : val4 s0 s1 s2 s3 + 115792089237316195423570985008687907853269984665640564039457584007913129639936 * c = R + R) : ∃ t, s0 = 2 ^ 1 * t := by
  unfold val4 at h
  exact ⟨s0 / 2, by omega⟩
theorem ex_low {s0 b : Nat} (hs : s0 < 18446744073709551616) (hb : b ≤ 1) (he : ∃ t, s0 = 2 ^ 1 * t) : ∃ z : Nat, bits .or .u64 (s0 : Int) (b : Int) = (z : Int) ∧ z < 18446744073709551616 ∧ Hid (z = s0 + b) :=
  ex_or (p := 1) hs (show b < 18446744073709551616 by omega) (Lib.hid (by omega)) (Lib.hid he)
end Go.Proofs.YtgacpjmggdmgdaaGreat.R1
namespace Go.Proofs.YtgacpjmggdmgdaaGreat.R1
set_option linter.unusedVariables false
set_option linter.unusedSimpArgs false
open Go.RowKit

set_option maxRecDepth 100000 in
theorem rcmp_l3 (a0 a1 a2 a3 b0 b1 b2 b3 : Nat) (ha : ok4 a0 a1 a2 a3) (hb : ok4 b0 b1 b2 b3) (e3 : a3 < b3) (w : World) :
    Calls Tryz.prog 103 #[.agg #[.int .u64 a0, .int .u64 a1, .int .u64 a2, .int .u64 a3], .agg #[.int .u64 b0, .int .u64 b1, .int .u64 b2, .int .u64 b3]] w fun e w' => e = .returned (.int .i64 (cmpN (val4 a0 a1 a2 a3) (val4 b0 b1 b2 b3))) ∧ Below w.heap.size w w' := by
  have hfin : cmpN (val4 a0 a1 a2 a3) (val4 b0 b1 b2 b3) = -1 := by
    obtain ⟨p0, p1, p2, p3⟩ := ha; obtain ⟨q0, q1, q2, q3⟩ := hb; unfold cmpN val4
    rw [if_neg (by omega), if_pos (by omega)]
  rw [hfin]
  clear hfin
  have l3 : decide (a3 < b3) = true := decide_eq_true (by omega)
  clear e3
  go_enter Tryz.func103, Tryz.ntmps103
  go_wp2_with fail
  refine wp_loop_rounds 5 ?_
  rw [rounds_succ]
  go_wp2_with fail
  go_quiet (fail)
  go_wp2_with fail
  go_ret
  exact ⟨rfl, by repeat (first | exact Below.refl _ _ | refine Below.trans ?_ (below_drewN' _ _ _) | refine Below.drew ?_ | refine Below.alloc ?_ (by first | (simp; done) | (simp; omega)) _)⟩
set_option maxRecDepth 100000 in
theorem rcmp_g3 (a0 a1 a2 a3 b0 b1 b2 b3 : Nat) (ha : ok4 a0 a1 a2 a3) (hb : ok4 b0 b1 b2 b3) (e3 : b3 < a3) (w : World) :
    Calls Tryz.prog 103 #[.agg #[.int .u64 a0, .int .u64 a1, .int .u64 a2, .int .u64 a3], .agg #[.int .u64 b0, .int .u64 b1, .int .u64 b2, .int .u64 b3]] w fun e w' => e = .returned (.int .i64 (cmpN (val4 a0 a1 a2 a3) (val4 b0 b1 b2 b3))) ∧ Below w.heap.size w w' := by
  have hfin : cmpN (val4 a0 a1 a2 a3) (val4 b0 b1 b2 b3) = 1 := by
    obtain ⟨p0, p1, p2, p3⟩ := ha; obtain ⟨q0, q1, q2, q3⟩ := hb; unfold cmpN val4
    rw [if_neg (by omega), if_neg (by omega)]
  rw [hfin]
  clear hfin
  have l3 : decide (a3 < b3) = false := decide_eq_false (by omega)
  have g3 : decide (b3 < a3) = true := decide_eq_true (by omega)
  clear e3
  go_enter Tryz.func103, Tryz.ntmps103
  go_wp2_with fail
  refine wp_loop_rounds 5 ?_
  rw [rounds_succ]
  go_wp2_with fail
  go_quiet (fail)
  go_wp2_with fail
  go_quiet (fail)
  go_wp2_with fail
  go_ret
  exact ⟨rfl, by repeat (first | exact Below.refl _ _ | refine Below.trans ?_ (below_drewN' _ _ _) | refine Below.drew ?_ | refine Below.alloc ?_ (by first | (simp; done) | (simp; omega)) _)⟩
set_option maxRecDepth 100000 in
theorem rcmp_l2 (a0 a1 a2 a3 b0 b1 b2 b3 : Nat) (ha : ok4 a0 a1 a2 a3) (hb : ok4 b0 b1 b2 b3) (e3 : a3 = b3) (e2 : a2 < b2) (w : World) :
    Calls Tryz.prog 103 #[.agg #[.int .u64 a0, .int .u64 a1, .int .u64 a2, .int .u64 a3], .agg #[.int .u64 b0, .int .u64 b1, .int .u64 b2, .int .u64 b3]] w fun e w' => e = .returned (.int .i64 (cmpN (val4 a0 a1 a2 a3) (val4 b0 b1 b2 b3))) ∧ Below w.heap.size w w' := by
  have hfin : cmpN (val4 a0 a1 a2 a3) (val4 b0 b1 b2 b3) = -1 := by
    obtain ⟨p0, p1, p2, p3⟩ := ha; obtain ⟨q0, q1, q2, q3⟩ := hb; unfold cmpN val4
    rw [if_neg (by omega), if_pos (by omega)]
  rw [hfin]
  clear hfin
  have l3 : decide (a3 < b3) = false := decide_eq_false (by omega)
  have g3 : decide (b3 < a3) = false := decide_eq_false (by omega)
  clear e3
  have l2 : decide (a2 < b2) = true := decide_eq_true (by omega)
  clear e2
  go_enter Tryz.func103, Tryz.ntmps103
  go_wp2_with fail
  refine wp_loop_rounds 5 ?_
  rw [rounds_succ]
  go_wp2_with fail
  go_quiet (fail)
  go_wp2_with fail
  go_quiet (fail)
  go_wp2_with fail
  rw [rounds_succ]
  go_wp2_with fail
  go_quiet (fail)
  go_wp2_with fail
  go_ret
  exact ⟨rfl, by repeat (first | exact Below.refl _ _ | refine Below.trans ?_ (below_drewN' _ _ _) | refine Below.drew ?_ | refine Below.alloc ?_ (by first | (simp; done) | (simp; omega)) _)⟩
set_option maxRecDepth 100000 in
theorem rcmp_g2 (a0 a1 a2 a3 b0 b1 b2 b3 : Nat) (ha : ok4 a0 a1 a2 a3) (hb : ok4 b0 b1 b2 b3) (e3 : a3 = b3) (e2 : b2 < a2) (w : World) :
    Calls Tryz.prog 103 #[.agg #[.int .u64 a0, .int .u64 a1, .int .u64 a2, .int .u64 a3], .agg #[.int .u64 b0, .int .u64 b1, .int .u64 b2, .int .u64 b3]] w fun e w' => e = .returned (.int .i64 (cmpN (val4 a0 a1 a2 a3) (val4 b0 b1 b2 b3))) ∧ Below w.heap.size w w' := by
  have hfin : cmpN (val4 a0 a1 a2 a3) (val4 b0 b1 b2 b3) = 1 := by
    obtain ⟨p0, p1, p2, p3⟩ := ha; obtain ⟨q0, q1, q2, q3⟩ := hb; unfold cmpN val4
    rw [if_neg (by omega), if_neg (by omega)]
  rw [hfin]
  clear hfin
  have l3 : decide (a3 < b3) = false := decide_eq_false (by omega)
  have g3 : decide (b3 < a3) = false := decide_eq_false (by omega)
  clear e3
  have l2 : decide (a2 < b2) = false := decide_eq_false (by omega)
  have g2 : decide (b2 < a2) = true := decide_eq_true (by omega)
  clear e2
  go_enter Tryz.func103, Tryz.ntmps103
  go_wp2_with fail
  refine wp_loop_rounds 5 ?_
  rw [rounds_succ]
  go_wp2_with fail
  go_quiet (fail)
  go_wp2_with fail
  go_quiet (fail)
  go_wp2_with fail
  rw [rounds_succ]
  go_wp2_with fail
  go_quiet (fail)
  go_wp2_with fail
  go_quiet (fail)
  go_wp2_with fail
  go_ret
  exact ⟨rfl, by repeat (first | exact Below.refl _ _ | refine Below.trans ?_ (below_drewN' _ _ _) | refine Below.drew ?_ | refine Below.alloc ?_ (by first | (simp; done) | (simp; omega)) _)⟩
set_option maxRecDepth 100000 in
theorem rcmp_l1 (a0 a1 a2 a3 b0 b1 b2 b3 : Nat) (ha : ok4 a0 a1 a2 a3) (hb : ok4 b0 b1 b2 b3) (e3 : a3 = b3) (e2 : a2 = b2) (e1 : a1 < b1) (w : World) :
    Calls Tryz.prog 103 #[.agg #[.int .u64 a0, .int .u64 a1, .int .u64 a2, .int .u64 a3], .agg #[.int .u64 b0, .int .u64 b1, .int .u64 b2, .int .u64 b3]] w fun e w' => e = .returned (.int .i64 (cmpN (val4 a0 a1 a2 a3) (val4 b0 b1 b2 b3))) ∧ Below w.heap.size w w' := by
  have hfin : cmpN (val4 a0 a1 a2 a3) (val4 b0 b1 b2 b3) = -1 := by
    obtain ⟨p0, p1, p2, p3⟩ := ha; obtain ⟨q0, q1, q2, q3⟩ := hb; unfold cmpN val4
    rw [if_neg (by omega), if_pos (by omega)]
  rw [hfin]
  clear hfin
  have l3 : decide (a3 < b3) = false := decide_eq_false (by omega)
  have g3 : decide (b3 < a3) = false := decide_eq_false (by omega)
  clear e3
  have l2 : decide (a2 < b2) = false := decide_eq_false (by omega)
  have g2 : decide (b2 < a2) = false := decide_eq_false (by omega)
  clear e2
  have l1 : decide (a1 < b1) = true := decide_eq_true (by omega)
  clear e1
  go_enter Tryz.func103, Tryz.ntmps103
  go_wp2_with fail
  refine wp_loop_rounds 5 ?_
  rw [rounds_succ]
  go_wp2_with fail
  go_quiet (fail)
  go_wp2_with fail
  go_quiet (fail)
  go_wp2_with fail
  rw [rounds_succ]
  go_wp2_with fail
  go_quiet (fail)
  go_wp2_with fail
  go_quiet (fail)
  go_wp2_with fail
  rw [rounds_succ]
  go_wp2_with fail
  go_quiet (fail)
  go_wp2_with fail
  go_ret
  exact ⟨rfl, by repeat (first | exact Below.refl _ _ | refine Below.trans ?_ (below_drewN' _ _ _) | refine Below.drew ?_ | refine Below.alloc ?_ (by first | (simp; done) | (simp; omega)) _)⟩
set_option maxRecDepth 100000 in
theorem rcmp_g1 (a0 a1 a2 a3 b0 b1 b2 b3 : Nat) (ha : ok4 a0 a1 a2 a3) (hb : ok4 b0 b1 b2 b3) (e3 : a3 = b3) (e2 : a2 = b2) (e1 : b1 < a1) (w : World) :
    Calls Tryz.prog 103 #[.agg #[.int .u64 a0, .int .u64 a1, .int .u64 a2, .int .u64 a3], .agg #[.int .u64 b0, .int .u64 b1, .int .u64 b2, .int .u64 b3]] w fun e w' => e = .returned (.int .i64 (cmpN (val4 a0 a1 a2 a3) (val4 b0 b1 b2 b3))) ∧ Below w.heap.size w w' := by
  have hfin : cmpN (val4 a0 a1 a2 a3) (val4 b0 b1 b2 b3) = 1 := by
    obtain ⟨p0, p1, p2, p3⟩ := ha; obtain ⟨q0, q1, q2, q3⟩ := hb; unfold cmpN val4
    rw [if_neg (by omega), if_neg (by omega)]
  rw [hfin]
  clear hfin
  have l3 : decide (a3 < b3) = false := decide_eq_false (by omega)
  have g3 : decide (b3 < a3) = false := decide_eq_false (by omega)
  clear e3
  have l2 : decide (a2 < b2) = false := decide_eq_false (by omega)
  have g2 : decide (b2 < a2) = false := decide_eq_false (by omega)
  clear e2
  have l1 : decide (a1 < b1) = false := decide_eq_false (by omega)
  have g1 : decide (b1 < a1) = true := decide_eq_true (by omega)
  clear e1
  go_enter Tryz.func103, Tryz.ntmps103
  go_wp2_with fail
  refine wp_loop_rounds 5 ?_
  rw [rounds_succ]
  go_wp2_with fail
  go_quiet (fail)
  go_wp2_with fail
  go_quiet (fail)
  go_wp2_with fail
  rw [rounds_succ]
  go_wp2_with fail
  go_quiet (fail)
  go_wp2_with fail
  go_quiet (fail)
  go_wp2_with fail
  rw [rounds_succ]
  go_wp2_with fail
  go_quiet (fail)
  go_wp2_with fail
  go_quiet (fail)
  go_wp2_with fail
  go_ret
  exact ⟨rfl, by repeat (first | exact Below.refl _ _ | refine Below.trans ?_ (below_drewN' _ _ _) | refine Below.drew ?_ | refine Below.alloc ?_ (by first | (simp; done) | (simp; omega)) _)⟩
set_option maxRecDepth 100000 in
theorem rcmp_l0 (a0 a1 a2 a3 b0 b1 b2 b3 : Nat) (ha : ok4 a0 a1 a2 a3) (hb : ok4 b0 b1 b2 b3) (e3 : a3 = b3) (e2 : a2 = b2) (e1 : a1 = b1) (e0 : a0 < b0) (w : World) :
    Calls Tryz.prog 103 #[.agg #[.int .u64 a0, .int .u64 a1, .int .u64 a2, .int .u64 a3], .agg #[.int .u64 b0, .int .u64 b1, .int .u64 b2, .int .u64 b3]] w fun e w' => e = .returned (.int .i64 (cmpN (val4 a0 a1 a2 a3) (val4 b0 b1 b2 b3))) ∧ Below w.heap.size w w' := by
  have hfin : cmpN (val4 a0 a1 a2 a3) (val4 b0 b1 b2 b3) = -1 := by
    obtain ⟨p0, p1, p2, p3⟩ := ha; obtain ⟨q0, q1, q2, q3⟩ := hb; unfold cmpN val4
    rw [if_neg (by omega), if_pos (by omega)]
  rw [hfin]
  clear hfin
  have l3 : decide (a3 < b3) = false := decide_eq_false (by omega)
  have g3 : decide (b3 < a3) = false := decide_eq_false (by omega)
  clear e3
  have l2 : decide (a2 < b2) = false := decide_eq_false (by omega)
  have g2 : decide (b2 < a2) = false := decide_eq_false (by omega)
  clear e2
  have l1 : decide (a1 < b1) = false := decide_eq_false (by omega)
  have g1 : decide (b1 < a1) = false := decide_eq_false (by omega)
  clear e1
  have l0 : decide (a0 < b0) = true := decide_eq_true (by omega)
  clear e0
  go_enter Tryz.func103, Tryz.ntmps103
  go_wp2_with fail
  refine wp_loop_rounds 5 ?_
  rw [rounds_succ]
  go_wp2_with fail
  go_quiet (fail)
  go_wp2_with fail
  go_quiet (fail)
  go_wp2_with fail
  rw [rounds_succ]
  go_wp2_with fail
  go_quiet (fail)
  go_wp2_with fail
  go_quiet (fail)
  go_wp2_with fail
  rw [rounds_succ]
  go_wp2_with fail
  go_quiet (fail)
  go_wp2_with fail
  go_quiet (fail)
  go_wp2_with fail
  rw [rounds_succ]
  go_wp2_with fail
  go_quiet (fail)
  go_wp2_with fail
  go_ret
  exact ⟨rfl, by repeat (first | exact Below.refl _ _ | refine Below.trans ?_ (below_drewN' _ _ _) | refine Below.drew ?_ | refine Below.alloc ?_ (by first | (simp; done) | (simp; omega)) _)⟩
set_option maxRecDepth 100000 in
theorem rcmp_g0 (a0 a1 a2 a3 b0 b1 b2 b3 : Nat) (ha : ok4 a0 a1 a2 a3) (hb : ok4 b0 b1 b2 b3) (e3 : a3 = b3) (e2 : a2 = b2) (e1 : a1 = b1) (e0 : b0 < a0) (w : World) :
    Calls Tryz.prog 103 #[.agg #[.int .u64 a0, .int .u64 a1, .int .u64 a2, .int .u64 a3], .agg #[.int .u64 b0, .int .u64 b1, .int .u64 b2, .int .u64 b3]] w fun e w' => e = .returned (.int .i64 (cmpN (val4 a0 a1 a2 a3) (val4 b0 b1 b2 b3))) ∧ Below w.heap.size w w' := by
  have hfin : cmpN (val4 a0 a1 a2 a3) (val4 b0 b1 b2 b3) = 1 := by
    obtain ⟨p0, p1, p2, p3⟩ := ha; obtain ⟨q0, q1, q2, q3⟩ := hb; unfold cmpN val4
    rw [if_neg (by omega), if_neg (by omega)]
  rw [hfin]
  clear hfin
  have l3 : decide (a3 < b3) = false := decide_eq_false (by omega)
  have g3 : decide (b3 < a3) = false := decide_eq_false (by omega)
  clear e3
  have l2 : decide (a2 < b2) = false := decide_eq_false (by omega)
  have g2 : decide (b2 < a2) = false := decide_eq_false (by omega)
  clear e2
  have l1 : decide (a1 < b1) = false := decide_eq_false (by omega)
  have g1 : decide (b1 < a1) = false := decide_eq_false (by omega)
  clear e1
  have l0 : decide (a0 < b0) = false := decide_eq_false (by omega)
  have g0 : decide (b0 < a0) = true := decide_eq_true (by omega)
  clear e0
  go_enter Tryz.func103, Tryz.ntmps103
  go_wp2_with fail
  refine wp_loop_rounds 5 ?_
  rw [rounds_succ]
  go_wp2_with fail
  go_quiet (fail)
  go_wp2_with fail
  go_quiet (fail)
  go_wp2_with fail
  rw [rounds_succ]
  go_wp2_with fail
  go_quiet (fail)
  go_wp2_with fail
  go_quiet (fail)
  go_wp2_with fail
  rw [rounds_succ]
  go_wp2_with fail
  go_quiet (fail)
  go_wp2_with fail
  go_quiet (fail)
  go_wp2_with fail
  rw [rounds_succ]
  go_wp2_with fail
  go_quiet (fail)
  go_wp2_with fail
  go_quiet (fail)
  go_wp2_with fail
  go_ret
  exact ⟨rfl, by repeat (first | exact Below.refl _ _ | refine Below.trans ?_ (below_drewN' _ _ _) | refine Below.drew ?_ | refine Below.alloc ?_ (by first | (simp; done) | (simp; omega)) _)⟩
set_option maxRecDepth 100000 in
theorem rcmp_e (a0 a1 a2 a3 b0 b1 b2 b3 : Nat) (ha : ok4 a0 a1 a2 a3) (hb : ok4 b0 b1 b2 b3) (e3 : a3 = b3) (e2 : a2 = b2) (e1 : a1 = b1) (e0 : a0 = b0) (w : World) :
    Calls Tryz.prog 103 #[.agg #[.int .u64 a0, .int .u64 a1, .int .u64 a2, .int .u64 a3], .agg #[.int .u64 b0, .int .u64 b1, .int .u64 b2, .int .u64 b3]] w fun e w' => e = .returned (.int .i64 (cmpN (val4 a0 a1 a2 a3) (val4 b0 b1 b2 b3))) ∧ Below w.heap.size w w' := by
  have hfin : cmpN (val4 a0 a1 a2 a3) (val4 b0 b1 b2 b3) = 0 := by
    obtain ⟨p0, p1, p2, p3⟩ := ha; obtain ⟨q0, q1, q2, q3⟩ := hb; unfold cmpN val4
    rw [if_pos (by omega)]
  rw [hfin]
  clear hfin
  have l3 : decide (a3 < b3) = false := decide_eq_false (by omega)
  have g3 : decide (b3 < a3) = false := decide_eq_false (by omega)
  clear e3
  have l2 : decide (a2 < b2) = false := decide_eq_false (by omega)
  have g2 : decide (b2 < a2) = false := decide_eq_false (by omega)
  clear e2
  have l1 : decide (a1 < b1) = false := decide_eq_false (by omega)
  have g1 : decide (b1 < a1) = false := decide_eq_false (by omega)
  clear e1
  have l0 : decide (a0 < b0) = false := decide_eq_false (by omega)
  have g0 : decide (b0 < a0) = false := decide_eq_false (by omega)
  clear e0
  go_enter Tryz.func103, Tryz.ntmps103
  go_wp2_with fail
  refine wp_loop_rounds 5 ?_
  rw [rounds_succ]
  go_wp2_with fail
  go_quiet (fail)
  go_wp2_with fail
  go_quiet (fail)
  go_wp2_with fail
  rw [rounds_succ]
  go_wp2_with fail
  go_quiet (fail)
  go_wp2_with fail
  go_quiet (fail)
  go_wp2_with fail
  rw [rounds_succ]
  go_wp2_with fail
  go_quiet (fail)
  go_wp2_with fail
  go_quiet (fail)
  go_wp2_with fail
  rw [rounds_succ]
  go_wp2_with fail
  go_quiet (fail)
  go_wp2_with fail
  go_quiet (fail)
  go_wp2_with fail
  rw [rounds_succ]
  go_wp2_with fail
  go_ret
  exact ⟨rfl, by repeat (first | exact Below.refl _ _ | refine Below.trans ?_ (below_drewN' _ _ _) | refine Below.drew ?_ | refine Below.alloc ?_ (by first | (simp; done) | (simp; omega)) _)⟩
theorem refCmp_calls (a0 a1 a2 a3 b0 b1 b2 b3 : Nat) (ha : ok4 a0 a1 a2 a3) (hb : ok4 b0 b1 b2 b3) (w : World) :
    Calls Tryz.prog 103 #[.agg #[.int .u64 a0, .int .u64 a1, .int .u64 a2, .int .u64 a3], .agg #[.int .u64 b0, .int .u64 b1, .int .u64 b2, .int .u64 b3]] w fun e w' => e = .returned (.int .i64 (cmpN (val4 a0 a1 a2 a3) (val4 b0 b1 b2 b3))) ∧ Below w.heap.size w w' := by
  rcases Nat.lt_trichotomy a3 b3 with e3 | e3 | e3
  · exact rcmp_l3 a0 a1 a2 a3 b0 b1 b2 b3 ha hb e3 w
  · rcases Nat.lt_trichotomy a2 b2 with e2 | e2 | e2
    · exact rcmp_l2 a0 a1 a2 a3 b0 b1 b2 b3 ha hb e3 e2 w
    · rcases Nat.lt_trichotomy a1 b1 with e1 | e1 | e1
      · exact rcmp_l1 a0 a1 a2 a3 b0 b1 b2 b3 ha hb e3 e2 e1 w
      · rcases Nat.lt_trichotomy a0 b0 with e0 | e0 | e0
        · exact rcmp_l0 a0 a1 a2 a3 b0 b1 b2 b3 ha hb e3 e2 e1 e0 w
        · exact rcmp_e a0 a1 a2 a3 b0 b1 b2 b3 ha hb e3 e2 e1 e0 w
        · exact rcmp_g0 a0 a1 a2 a3 b0 b1 b2 b3 ha hb e3 e2 e1 e0 w
      · exact rcmp_g1 a0 a1 a2 a3 b0 b1 b2 b3 ha hb e3 e2 e1 w
    · exact rcmp_g2 a0 a1 a2 a3 b0 b1 b2 b3 ha hb e3 e2 w
  · exact rcmp_g3 a0 a1 a2 a3 b0 b1 b2 b3 ha hb e3 w
end Go.Proofs.YtgacpjmggdmgdaaGreat.R1
namespace Go.Proofs.YtgacpjmggdmgdaaGreat.R1
set_option linter.unusedVariables false
set_option linter.unusedSimpArgs false
open Go.RowKit

theorem refDiv_zero (a0 a1 a2 a3 : Nat) (w : World) :
    Calls Tryz.prog 116 #[.agg #[.int .u64 a0, .int .u64 a1, .int .u64 a2, .int .u64 a3], .int .u64 0] w (DivLPost (fun q r c => q = 0 ∧ r = 0 ∧ c = 22) w) := by
  go_enter Tryz.func116, Tryz.ntmps116
  go_wp2_with fail
  refine bodyPost_ret (v := .tuple #[.agg #[.int .u64 0, .int .u64 0, .int .u64 0, .int .u64 0], .int .u64 0, .int .i64 22]) (by simp [results, Tryz.results116, go_sem]) rfl ?_
  refine ⟨0, 0, 0, 0, 0, 22, rfl, ⟨by omega, by omega, by omega, by omega⟩, ⟨rfl, rfl, rfl⟩, ?_⟩
  repeat (first | exact Below.refl _ _ | refine Below.drew ?_ | refine Below.alloc ?_ (by first | (simp; done) | (simp; omega)) _)

set_option maxHeartbeats 4000000 in
theorem refDiv_some (a0 a1 a2 a3 y : Nat) (ha : ok4 a0 a1 a2 a3) (h0 : 0 < y) (hy : y < 18446744073709551616) (w : World) :
    Calls Tryz.prog 116 #[.agg #[.int .u64 a0, .int .u64 a1, .int .u64 a2, .int .u64 a3], .int .u64 y] w (DivLPost (fun q r c => q = val4 a0 a1 a2 a3 / y ∧ r = val4 a0 a1 a2 a3 % y ∧ c = 0) w) := by
  have h256 := Lib.hid (show val4 a0 a1 a2 a3 < 2 ^ 256 by have := val4_lt ha; simpa using this)
  have HB := Lib.hid (fun i h (w : World) => refBit_in a0 a1 a2 a3 i ha h w)
  generalize val4 a0 a1 a2 a3 = A at *
  have t0 : ((y : Int) == 0) = false := by simp; omega
  go_enter Tryz.func116, Tryz.ntmps116
  go_wp2_with fail
  clear t0
  go_loopw [8, 9] (fun re i wr => ∃ (m : Int) (r o0 o1 o2 o3 : Nat), -1 ≤ m ∧ m ≤ 255 ∧ i = .int .i64 m ∧ re = .int .u64 r ∧ r < y ∧ ok4 o0 o1 o2 o3 ∧ Hid (DI A y (m + 1).toNat (val4 o0 o1 o2 o3) r) ∧ Mem w wr [(w.heap.size + 2, o0, o1, o2, o3), (w.heap.size + 1, 0, 0, 0, 0), (w.heap.size, a0, a1, a2, a3)]) (fun _ i _ => (intOf i + 1).toNat)
  case atStart =>
    exact ⟨255, 0, 0, 0, 0, 0, by omega, by omega, rfl, rfl, h0, ⟨by omega, by omega, by omega, by omega⟩, Lib.hid (di_start h256.out), (((Mem.nil w).new w.heap.size a0 a1 a2 a3 50 rfl).new (w.heap.size + 1) 0 0 0 0 50 (by simp)).new (w.heap.size + 2) 0 0 0 0 50 (by simp)⟩
  case round =>
    obtain ⟨m, r, o0, o1, o2, o3, h1, h2, rfl, rfl, hr, ho, di, mm⟩ := hrel
    have M := Lib.hid mm
    obtain ⟨lt_a, c0, c1, c2, c3, cf⟩ := mm.get (b := w.heap.size) (c0 := a0) (c1 := a1) (c2 := a2) (c3 := a3) (by simp)
    obtain ⟨lt_r, r0, r1, r2, r3, rf⟩ := mm.get (b := w.heap.size + 1) (c0 := 0) (c1 := 0) (c2 := 0) (c3 := 0) (by simp)
    obtain ⟨lt_o, d0, d1, d2, d3, df⟩ := mm.get (b := w.heap.size + 2) (c0 := o0) (c1 := o1) (c2 := o2) (c3 := o3) (by simp)
    clear mm
    by_cases hm : 0 ≤ m
    · obtain ⟨i, rfl⟩ := Int.eq_ofNat_of_zero_le hm
      have hB := HB.out i (by omega)
      have hfb := di_bit (show DI A y (i + 1) _ _ from di.out)
      have hP := fun w => put_calls o0 o1 o2 o3 i ho (by omega) hfb w
      have HP := Lib.hid hP
      have lr : r < 18446744073709551616 := by omega
      have HY := Lib.hid (fun b hb h => di_yes h0 (b := b) (show DI A y (i + 1) _ _ from di.out) hb h)
      have HN := Lib.hid (fun b hb h => di_no h0 (b := b) (show DI A y (i + 1) _ _ from di.out) hb h)
      have hb1 := bitOf_01 A i
      obtain ⟨b, hb⟩ : ∃ b, bitOf A i = b := ⟨_, rfl⟩
      rw [hb] at hB hb1
      have bb : b ≤ 1 := by omega
      obtain ⟨x, z, q1, q2, lx, lz, ez⟩ := ex_take lr bb
      have HY := Lib.hid (HY.out b hb)
      have HN := Lib.hid (HN.out b hb)
      clear di hfb hP hb hb1
      by_cases hge : y ≤ 2 * r + b
      · have HD := Lib.hid (HY.out hge)
        have hw := ex_less ez.out hr bb hy hge
        obtain ⟨s, es⟩ : ∃ s, 2 * r + b - y = s := ⟨_, rfl⟩
        have ls : s < y := by omega
        rw [es] at hw HD
        by_cases ht : 9223372036854775808 ≤ r
        · have e1 := ex_top1 lr ht
          clear ht es hge
          go_wp2_with fail
          refine (hB _).mono ?_
          rintro e w1 ⟨rfl, hbl⟩
          have M' := Lib.hid (M.out.on hbl)
          clear hbl M c0 c1 c2 c3 cf d0 d1 d2 d3 df r0 r1 r2 r3 rf
          obtain ⟨lt_o', d0, d1, d2, d3, df⟩ := M'.out.get (b := w.heap.size + 2) (c0 := o0) (c1 := o1) (c2 := o2) (c3 := o3) (by simp)
          go_wp2_with fail
          refine (HP.out _).mono ?_
          rintro e w2 ⟨s0, s1, s2, s3, rfl, hs, es, hbl⟩
          have M := Lib.hid (M'.out.on hbl)
          rw [← es] at HD
          clear hbl M' d0 d1 d2 d3 df es lt_o'
          obtain ⟨lt_o', d0, d1, d2, d3, df⟩ := M.out.get (b := w.heap.size + 2) (c0 := o0) (c1 := o1) (c2 := o2) (c3 := o3) (by simp)
          go_wp2_with fail
          go_roundw
          case rel => exact ⟨(i : Int) - 1, s, s0, s1, s2, s3, by omega, by omega, by first | rfl | go_num, rfl, ls, hs, Lib.hid (by rw [show ((i : Int) - 1 + 1).toNat = i by omega]; exact HD.out), M.out.put s0 s1 s2 s3 (by omega) (by simp)⟩
          case measure => first | (simp [intOf]; done) | (simp [intOf]; omega)
        · have e1 := ex_top0 (show r < 9223372036854775808 by omega)
          have ezz := ez.out
          have hw2 : (z : Int) - (y : Int) = (s : Int) := by omega
          have t1 : decide ((y : Int) ≤ (z : Int)) = true := decide_eq_true (by omega)
          have t2 : decide (y ≤ z) = true := decide_eq_true (by omega)
          clear ht es hge ezz
          go_wp2_with fail
          refine (hB _).mono ?_
          rintro e w1 ⟨rfl, hbl⟩
          have M' := Lib.hid (M.out.on hbl)
          clear hbl M c0 c1 c2 c3 cf d0 d1 d2 d3 df r0 r1 r2 r3 rf
          obtain ⟨lt_o', d0, d1, d2, d3, df⟩ := M'.out.get (b := w.heap.size + 2) (c0 := o0) (c1 := o1) (c2 := o2) (c3 := o3) (by simp)
          go_wp2_with fail
          refine (HP.out _).mono ?_
          rintro e w2 ⟨s0, s1, s2, s3, rfl, hs, es, hbl⟩
          have M := Lib.hid (M'.out.on hbl)
          rw [← es] at HD
          clear hbl M' d0 d1 d2 d3 df es lt_o'
          obtain ⟨lt_o', d0, d1, d2, d3, df⟩ := M.out.get (b := w.heap.size + 2) (c0 := o0) (c1 := o1) (c2 := o2) (c3 := o3) (by simp)
          go_wp2_with fail
          go_roundw
          case rel => exact ⟨(i : Int) - 1, s, s0, s1, s2, s3, by omega, by omega, by first | rfl | go_num, rfl, ls, hs, Lib.hid (by rw [show ((i : Int) - 1 + 1).toNat = i by omega]; exact HD.out), M.out.put s0 s1 s2 s3 (by omega) (by simp)⟩
          case measure => first | (simp [intOf]; done) | (simp [intOf]; omega)
      · have HD := Lib.hid (HN.out (by omega))
        have e1 := ex_top0 (show r < 9223372036854775808 by omega)
        have ezz := ez.out
        have t1 : decide ((y : Int) ≤ (z : Int)) = false := decide_eq_false (by omega)
        have t2 : decide (y ≤ z) = false := decide_eq_false (by omega)
        have ezr : z = 2 * r + b := by omega
        rw [← ezr] at HD
        have lzy : z < y := by omega
        clear hge ezz ezr
        go_wp2_with fail
        refine (hB _).mono ?_
        rintro e w1 ⟨rfl, hbl⟩
        have M' := Lib.hid (M.out.on hbl)
        clear hbl M c0 c1 c2 c3 cf d0 d1 d2 d3 df r0 r1 r2 r3 rf
        go_wp2_with fail
        go_roundw
        case rel => exact ⟨(i : Int) - 1, z, o0, o1, o2, o3, by omega, by omega, by first | rfl | go_num, rfl, lzy, ho, Lib.hid (by rw [show ((i : Int) - 1 + 1).toNat = i by omega]; exact HD.out), M'.out⟩
        case measure => first | (simp [intOf]; done) | (simp [intOf]; omega)
    · obtain rfl : m = -1 := by omega
      have HF := Lib.hid (di_end (show DI A y 0 _ _ from di.out))
      have lr : r < 18446744073709551616 := by omega
      clear di
      go_wp2_with fail
      refine bodyPost_ret (v := .tuple #[.agg #[.int .u64 o0, .int .u64 o1, .int .u64 o2, .int .u64 o3], .int .u64 r, .int .i64 0]) (by simp [results, Tryz.results116, go_sem, *]) rfl ?_
      exact ⟨o0, o1, o2, o3, r, 0, rfl, ho, ⟨HF.out.1, HF.out.2, rfl⟩, below_set4 M.out.1 (by omega) _ _ _ _⟩

/-- the reference's Div, for any number -/
theorem refDiv_calls (a0 a1 a2 a3 y : Nat) (ha : ok4 a0 a1 a2 a3) (hy : y < 18446744073709551616) (w : World) :
    Calls Tryz.prog 116 #[.agg #[.int .u64 a0, .int .u64 a1, .int .u64 a2, .int .u64 a3], .int .u64 y] w (DivLPost (fun q r c => y = 0 ∧ q = 0 ∧ r = 0 ∧ c = 22 ∨ 0 < y ∧ q = val4 a0 a1 a2 a3 / y ∧ r = val4 a0 a1 a2 a3 % y ∧ c = 0) w) := by
  rcases Nat.eq_zero_or_pos y with rfl | h
  · exact (refDiv_zero a0 a1 a2 a3 w).mono fun e w' ⟨q0, q1, q2, q3, r, c, he, hq, hv, hb⟩ => ⟨q0, q1, q2, q3, r, c, he, hq, Or.inl ⟨rfl, hv⟩, hb⟩
  · exact (refDiv_some a0 a1 a2 a3 y ha h hy w).mono fun e w' ⟨q0, q1, q2, q3, r, c, he, hq, hv, hb⟩ => ⟨q0, q1, q2, q3, r, c, he, hq, Or.inr ⟨h, hv⟩, hb⟩
end Go.Proofs.YtgacpjmggdmgdaaGreat.R1
