/-
  The call of limbs.Mul: for any two numbers of four words, in any world, the answers are the product's upper and lower four words. Conditions: each word below 2^64.
-/
import Derived.Test.YtgacpjmggdmgdaaGreatMul
import Derived.Test.YtgacpjmggdmgdaaGreatRow
import Derived.LoopTactic
namespace Go.Proofs.YtgacpjmggdmgdaaGreat
set_option linter.unusedVariables false
open Go.RowKit

/-- A product: its upper and its lower four words. -/
def MulPost (A B : Nat) (w : World) (e : Ending) (w' : World) : Prop :=
  ∃ h0 h1 h2 h3 l0 l1 l2 l3 : Nat, e = .returned (.tuple #[.agg #[.int .u64 h0, .int .u64 h1, .int .u64 h2, .int .u64 h3], .agg #[.int .u64 l0, .int .u64 l1, .int .u64 l2, .int .u64 l3]]) ∧ ok4 h0 h1 h2 h3 ∧ ok4 l0 l1 l2 l3 ∧ val4 l0 l1 l2 l3 + 115792089237316195423570985008687907853269984665640564039457584007913129639936 * val4 h0 h1 h2 h3 = A * B ∧ Below w.heap.size w w'
theorem ex_mr {x y : Nat} {p o : Nat} (hx : x < 18446744073709551616) (hy : y < 18446744073709551616) (hp : p < 18446744073709551616) (ho : o < 18446744073709551616) : ∃ h l l' c c' g d o' : Nat, (∀ w, Calls Tryz.prog 178 #[.int .u64 x, .int .u64 y] w fun e w' => e = .returned (.tuple #[.int .u64 (h : Nat), .int .u64 (l : Nat)]) ∧ w' = w) ∧
    (∀ w, (callFunc 167 #[.int .u64 (l : Int), .int .u64 (p : Int), .int .u64 0]).run Tryz.prog w = .ok (.value (.tuple #[.int .u64 (l' : Int), .int .u64 (c : Int)])) w) ∧
    (∀ w, (callFunc 167 #[.int .u64 (l' : Int), .int .u64 (o : Int), .int .u64 0]).run Tryz.prog w = .ok (.value (.tuple #[.int .u64 (d : Int), .int .u64 (c' : Int)])) w) ∧
    ((h : Int) + (c : Int) = (g : Int)) ∧ ((g : Int) + (c' : Int) = (o' : Int)) ∧
    h ≤ 18446744073709551614 ∧ c ≤ 1 ∧ c' ≤ 1 ∧ g < 18446744073709551616 ∧ d < 18446744073709551616 ∧ o' < 18446744073709551616 ∧ Hid (d + 18446744073709551616 * o' = x * y + p + o) := by
  obtain ⟨h, l, r, hh, hl, e⟩ := ex_Mul64 hx hy
  obtain ⟨l', c, r1, hl', hc, e1⟩ := ex_Add64z hl hp
  obtain ⟨d, c', r2, hd, hc', e2⟩ := ex_Add64z hl' ho
  have e' := e.out; have e1' := e1.out; have e2' := e2.out
  have hxy := mul_le (show x ≤ 18446744073709551615 by omega) (show y ≤ 18446744073709551615 by omega)
  have hb : h + c + c' < 18446744073709551616 := by omega
  exact ⟨h, l, l', c, c', h + c, d, h + c + c', r, r1, r2, by omega, by omega, hh, hc, hc', by omega, hd, hb, Lib.hid (by omega)⟩

/-- the world in a product's rounds: a's, b's and the result's blocks, and the product's -/
structure MW (w wr : World) (A B P : Nat → Nat) : Prop where
  below : Below w.heap.size w wr
  size : wr.heap.size = w.heap.size + 1 + 1 + 1 + 1 + 1
  rowA : RowIs wr w.heap.size 4 A
  rowB : RowIs wr (w.heap.size + 1) 4 B
  rowH : ∃ H, RowIs wr (w.heap.size + 1 + 1) 4 H
  rowL : ∃ L, RowIs wr (w.heap.size + 1 + 1 + 1) 4 L
  rowP : RowIs wr (w.heap.size + 1 + 1 + 1 + 1) 8 P
  lt : ∀ k, P k < 18446744073709551616
theorem MW.set {w wr : World} {A B P : Nat → Nat} (h : MW w wr A B P) {k d : Nat} (hk : k < 8) (hd : d < 18446744073709551616) :
    MW w (wr.setCell ⟨w.heap.size + 1 + 1 + 1 + 1, k, none⟩ (.int .u64 (d : Nat))) A B (upd P k d) :=
  ⟨h.below.setCell (p := ⟨w.heap.size + 1 + 1 + 1 + 1, k, none⟩) (by simp; omega) _, by rw [World.size_setCell]; exact h.size, h.rowA.other (by omega) _, h.rowB.other (by omega) _,
    h.rowH.elim fun H x => ⟨H, x.other (by omega) _⟩, h.rowL.elim fun L x => ⟨L, x.other (by omega) _⟩, h.rowP.set hk,
    fun x => by unfold upd; split; exact hd; exact h.lt x⟩
theorem MW.drewN {w wr : World} {A B P : Nat → Nat} (h : MW w wr A B P) (n : Nat) : MW w (wr.drewN n) A B P :=
  ⟨h.below.trans (below_drewN' _ _ _), h.size, h.rowA, h.rowB, h.rowH, h.rowL, h.rowP, h.lt⟩
theorem RowIs.mk4 {w : World} {b : Nat} {c0 c1 c2 c3 : Nat} (h0 : w.cell? ⟨b, 0, none⟩ = some (.int .u64 c0)) (h1 : w.cell? ⟨b, 1, none⟩ = some (.int .u64 c1)) (h2 : w.cell? ⟨b, 2, none⟩ = some (.int .u64 c2)) (h3 : w.cell? ⟨b, 3, none⟩ = some (.int .u64 c3))
    (hf : ∀ k, w.frozen? ⟨b, k, none⟩ = false) : RowIs w b 4 (fnOf [c0, c1, c2, c3]) := by
  intro k hk
  refine ⟨?_, hf k⟩
  match k, hk with
  | 0, _ => exact h0
  | 1, _ => exact h1
  | 2, _ => exact h2
  | 3, _ => exact h3
theorem RowIs.mk8z {w : World} {b : Nat} (h : ∀ k, k < 8 → w.cell? ⟨b, k, none⟩ = some (.int .u64 0)) (hf : ∀ k, w.frozen? ⟨b, k, none⟩ = false) : RowIs w b 8 (fun _ => 0) :=
  fun k hk => ⟨h k hk, hf k⟩
theorem fnOf4_lt {a0 a1 a2 a3 : Nat} (ha : ok4 a0 a1 a2 a3) (k : Nat) : fnOf [a0, a1, a2, a3] k < 18446744073709551616 := by
  obtain ⟨h0, h1, h2, h3⟩ := ha
  unfold fnOf
  match k with
  | 0 => exact h0
  | 1 => exact h1
  | 2 => exact h2
  | 3 => exact h3
  | k + 4 => simp

theorem mul_fin {A B P : Nat → Nat} {a0 a1 a2 a3 b0 b1 b2 b3 : Nat} (hA : A = fnOf [a0, a1, a2, a3]) (hB : B = fnOf [b0, b1, b2, b3]) (h : MO 18446744073709551616 4 A B 4 P) :
    val4 (P 0) (P 1) (P 2) (P 3) + 115792089237316195423570985008687907853269984665640564039457584007913129639936 * val4 (P 4) (P 5) (P 6) (P 7) = val4 a0 a1 a2 a3 * val4 b0 b1 b2 b3 := by
  have h := h.2
  have eA : tot 18446744073709551616 A 4 = val4 a0 a1 a2 a3 := by rw [hA, ← val4_tot]; rfl
  have eB : tot 18446744073709551616 B 4 = val4 b0 b1 b2 b3 := by rw [hB, ← val4_tot]; rfl
  have e4 : 18446744073709551616 ^ 4 = 115792089237316195423570985008687907853269984665640564039457584007913129639936 := by simp
  rw [tot_split, eA, eB, e4, ← val4_tot P, ← val4_tot (fun k => P (4 + k))] at h
  exact h
theorem run_arrayAt (g o c : Nat) (w : World) : (Instr.arrayAt 50 (.slice (some ⟨g, o, none⟩) 4 c)).run Tryz.prog w = .ok (.pointer (some ⟨g, o, none⟩)) w := by
  unfold Instr.arrayAt
  simp [run_underlying Tryz.underlying50, Sem.run_bind, Result.andThen_ok]

end Go.Proofs.YtgacpjmggdmgdaaGreat
