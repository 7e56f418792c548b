/-
  The call of limbs.Mul: for any two numbers of four words, in any world, the answers are the product's upper and lower four words. Conditions: each word below 2^64.
-/
import Derived.Test.YtopahcobdfdnlaaDoorMul
import Derived.Test.YtopahcobdfdnlaaDoorRow
import Derived.LoopTactic
namespace Go.Proofs.YtopahcobdfdnlaaDoor
set_option linter.unusedVariables false
open Go.RowKit

/-- A product: its upper and its lower four words. -/
def MulPost (A B : Nat) (w : World) (e : Ending) (w' : World) : Prop :=
  ∃ h0 h1 h2 h3 l0 l1 l2 l3 : Nat, e = .returned (.tuple #[.agg #[.int .u64 h0, .int .u64 h1, .int .u64 h2, .int .u64 h3], .agg #[.int .u64 l0, .int .u64 l1, .int .u64 l2, .int .u64 l3]]) ∧ ok4 h0 h1 h2 h3 ∧ ok4 l0 l1 l2 l3 ∧ val4 l0 l1 l2 l3 + 115792089237316195423570985008687907853269984665640564039457584007913129639936 * val4 h0 h1 h2 h3 = A * B ∧ Below w.heap.size w w'
theorem ex_mr {x y : Nat} {p o : Nat} (hx : x < 18446744073709551616) (hy : y < 18446744073709551616) (hp : p < 18446744073709551616) (ho : o < 18446744073709551616) : ∃ h l l' c c' g d o' : Nat, (∀ w, Calls Tryd.prog 44 #[.int .u64 x, .int .u64 y] w fun e w' => e = .returned (.tuple #[.int .u64 (h : Nat), .int .u64 (l : Nat)]) ∧ w' = w) ∧
    (∀ w, (callFunc 40 #[.int .u64 (l : Int), .int .u64 (p : Int), .int .u64 0]).run Tryd.prog w = .ok (.value (.tuple #[.int .u64 (l' : Int), .int .u64 (c : Int)])) w) ∧
    (∀ w, (callFunc 40 #[.int .u64 (l' : Int), .int .u64 (o : Int), .int .u64 0]).run Tryd.prog w = .ok (.value (.tuple #[.int .u64 (d : Int), .int .u64 (c' : Int)])) w) ∧
    ((h : Int) + (c : Int) = (g : Int)) ∧ ((g : Int) + (c' : Int) = (o' : Int)) ∧
    h ≤ 18446744073709551614 ∧ c ≤ 1 ∧ c' ≤ 1 ∧ g < 18446744073709551616 ∧ d < 18446744073709551616 ∧ o' < 18446744073709551616 ∧ Hid (d + 18446744073709551616 * o' = x * y + p + o) := by
  obtain ⟨h, l, r, hh, hl, e⟩ := ex_Mul64 hx hy
  obtain ⟨l', c, r1, hl', hc, e1⟩ := ex_Add64z hl hp
  obtain ⟨d, c', r2, hd, hc', e2⟩ := ex_Add64z hl' ho
  have e' := e.out; have e1' := e1.out; have e2' := e2.out
  have hxy := mul_le (show x ≤ 18446744073709551615 by omega) (show y ≤ 18446744073709551615 by omega)
  have hb : h + c + c' < 18446744073709551616 := by omega
  exact ⟨h, l, l', c, c', h + c, d, h + c + c', r, r1, r2, by omega, by omega, hh, hc, hc', by omega, hd, hb, Lib.hid (by omega)⟩

/-- the world in a product's rounds: a's, b's and the result's blocks, and the product's -/
structure MW (w wr : World) (A B P : Nat → Nat) : Prop where
  below : Below w.heap.size w wr
  size : wr.heap.size = w.heap.size + 1 + 1 + 1 + 1 + 1
  rowA : RowIs wr w.heap.size 4 A
  rowB : RowIs wr (w.heap.size + 1) 4 B
  rowH : ∃ H, RowIs wr (w.heap.size + 1 + 1) 4 H
  rowL : ∃ L, RowIs wr (w.heap.size + 1 + 1 + 1) 4 L
  rowP : RowIs wr (w.heap.size + 1 + 1 + 1 + 1) 8 P
  lt : ∀ k, P k < 18446744073709551616
theorem MW.set {w wr : World} {A B P : Nat → Nat} (h : MW w wr A B P) {k d : Nat} (hk : k < 8) (hd : d < 18446744073709551616) :
    MW w (wr.setCell ⟨w.heap.size + 1 + 1 + 1 + 1, k, none⟩ (.int .u64 (d : Nat))) A B (upd P k d) :=
  ⟨h.below.setCell (p := ⟨w.heap.size + 1 + 1 + 1 + 1, k, none⟩) (by simp; omega) _, by rw [World.size_setCell]; exact h.size, h.rowA.other (by omega) _, h.rowB.other (by omega) _,
    h.rowH.elim fun H x => ⟨H, x.other (by omega) _⟩, h.rowL.elim fun L x => ⟨L, x.other (by omega) _⟩, h.rowP.set hk,
    fun x => by unfold upd; split; exact hd; exact h.lt x⟩
theorem MW.drewN {w wr : World} {A B P : Nat → Nat} (h : MW w wr A B P) (n : Nat) : MW w (wr.drewN n) A B P :=
  ⟨h.below.trans (below_drewN' _ _ _), h.size, h.rowA, h.rowB, h.rowH, h.rowL, h.rowP, h.lt⟩
theorem RowIs.mk4 {w : World} {b : Nat} {c0 c1 c2 c3 : Nat} (h0 : w.cell? ⟨b, 0, none⟩ = some (.int .u64 c0)) (h1 : w.cell? ⟨b, 1, none⟩ = some (.int .u64 c1)) (h2 : w.cell? ⟨b, 2, none⟩ = some (.int .u64 c2)) (h3 : w.cell? ⟨b, 3, none⟩ = some (.int .u64 c3))
    (hf : ∀ k, w.frozen? ⟨b, k, none⟩ = false) : RowIs w b 4 (fnOf [c0, c1, c2, c3]) := by
  intro k hk
  refine ⟨?_, hf k⟩
  match k, hk with
  | 0, _ => exact h0
  | 1, _ => exact h1
  | 2, _ => exact h2
  | 3, _ => exact h3
theorem RowIs.mk8z {w : World} {b : Nat} (h : ∀ k, k < 8 → w.cell? ⟨b, k, none⟩ = some (.int .u64 0)) (hf : ∀ k, w.frozen? ⟨b, k, none⟩ = false) : RowIs w b 8 (fun _ => 0) :=
  fun k hk => ⟨h k hk, hf k⟩
theorem fnOf4_lt {a0 a1 a2 a3 : Nat} (ha : ok4 a0 a1 a2 a3) (k : Nat) : fnOf [a0, a1, a2, a3] k < 18446744073709551616 := by
  obtain ⟨h0, h1, h2, h3⟩ := ha
  unfold fnOf
  match k with
  | 0 => exact h0
  | 1 => exact h1
  | 2 => exact h2
  | 3 => exact h3
  | k + 4 => simp

theorem mul_fin {A B P : Nat → Nat} {a0 a1 a2 a3 b0 b1 b2 b3 : Nat} (hA : A = fnOf [a0, a1, a2, a3]) (hB : B = fnOf [b0, b1, b2, b3]) (h : MO 18446744073709551616 4 A B 4 P) :
    val4 (P 0) (P 1) (P 2) (P 3) + 115792089237316195423570985008687907853269984665640564039457584007913129639936 * val4 (P 4) (P 5) (P 6) (P 7) = val4 a0 a1 a2 a3 * val4 b0 b1 b2 b3 := by
  have h := h.2
  have eA : tot 18446744073709551616 A 4 = val4 a0 a1 a2 a3 := by rw [hA, ← val4_tot]; rfl
  have eB : tot 18446744073709551616 B 4 = val4 b0 b1 b2 b3 := by rw [hB, ← val4_tot]; rfl
  have e4 : 18446744073709551616 ^ 4 = 115792089237316195423570985008687907853269984665640564039457584007913129639936 := by simp
  rw [tot_split, eA, eB, e4, ← val4_tot P, ← val4_tot (fun k => P (4 + k))] at h
  exact h
theorem run_arrayAt (g o c : Nat) (w : World) : (Instr.arrayAt 24 (.slice (some ⟨g, o, none⟩) 4 c)).run Tryd.prog w = .ok (.pointer (some ⟨g, o, none⟩)) w := by
  unfold Instr.arrayAt
  simp [run_underlying Tryd.underlying24, Sem.run_bind, Result.andThen_ok]

set_option maxHeartbeats 1000000 in
theorem mul_calls (a0 a1 a2 a3 b0 b1 b2 b3 : Nat) (ha : ok4 a0 a1 a2 a3) (hb : ok4 b0 b1 b2 b3) (w : World) :
    Calls Tryd.prog 13 #[.agg #[.int .u64 a0, .int .u64 a1, .int .u64 a2, .int .u64 a3], .agg #[.int .u64 b0, .int .u64 b1, .int .u64 b2, .int .u64 b3]] w (MulPost (val4 a0 a1 a2 a3) (val4 b0 b1 b2 b3) w) := by
  have lA := fnOf4_lt ha
  have lB := fnOf4_lt hb
  obtain ⟨A, eA⟩ : ∃ A, A = fnOf [a0, a1, a2, a3] := ⟨_, rfl⟩
  obtain ⟨B, eB⟩ : ∃ B, B = fnOf [b0, b1, b2, b3] := ⟨_, rfl⟩
  rw [← eA] at lA
  rw [← eB] at lB
  have HA := Lib.hid eA; have HB := Lib.hid eB
  have HlA := Lib.hid lA; have HlB := Lib.hid lB
  clear eA eB lA lB
  go_enter Tryd.func13, Tryd.ntmps13
  go_wp2_with fail
  go_loopw [8, 13] (fun ov i wr => ∃ (k : Nat) (P : Nat → Nat), k ≤ 4 ∧ i = .int .i64 k ∧ MW w wr A B P ∧ Hid (MO 18446744073709551616 4 A B k P)) (fun _ i _ => 4 - (intOf i).toNat)
  case atStart =>
    refine ⟨0, fun _ => 0, by omega, rfl, ⟨?_, by simp, ?_, ?_, ⟨fnOf [0, 0, 0, 0], ?_⟩, ⟨fnOf [0, 0, 0, 0], ?_⟩, ?_, fun _ => by omega⟩, Lib.hid (mo_begin fun _ => rfl)⟩
    · repeat (first | exact Below.refl _ _ | refine Below.alloc ?_ (by first | (simp; done) | (simp; omega)) _)
    · rw [HA.out]; exact RowIs.mk4 (by simp [go_sem]) (by simp [go_sem]) (by simp [go_sem]) (by simp [go_sem]) (fun k => by simp [go_sem])
    · rw [HB.out]; exact RowIs.mk4 (by simp [go_sem]) (by simp [go_sem]) (by simp [go_sem]) (by simp [go_sem]) (fun k => by simp [go_sem])
    · exact RowIs.mk4 (by simp [go_sem]) (by simp [go_sem]) (by simp [go_sem]) (by simp [go_sem]) (fun k => by simp [go_sem])
    · exact RowIs.mk4 (by simp [go_sem]) (by simp [go_sem]) (by simp [go_sem]) (by simp [go_sem]) (fun k => by simp [go_sem])
    · refine RowIs.mk8z (fun k hk => ?_) (fun k => by simp [go_sem])
      match k, hk with
      | 0, _ | 1, _ | 2, _ | 3, _ | 4, _ | 5, _ | 6, _ | 7, _ => simp [go_sem]
  case round =>
    obtain ⟨i, P, hi, rfl, m, mo⟩ := hrel
    by_cases hlt : i < 4
    · go_wp2_with fail
      go_loopw [8, 16] (fun ov jj wr => ∃ (j o : Nat) (P : Nat → Nat), j ≤ 4 ∧ o < 18446744073709551616 ∧ jj = .int .i64 j ∧ ov = .int .u64 o ∧ MW w wr A B P ∧ Hid (MI 18446744073709551616 4 A B i j o P)) (fun _ j _ => 4 - (intOf j).toNat)
      case atStart => exact ⟨0, 0, P, by omega, by omega, rfl, rfl, m, Lib.hid (mi_begin mo.out)⟩
      case round =>
        obtain ⟨j, o, P, hj, ho, rfl, rfl, m, mi⟩ := hrel
        by_cases hlt' : j < 4
        · have ca := m.rowA.cell hlt
          have cb := m.rowB.cell hlt'
          have cp := m.rowP.cell (show i + j < 8 by omega)
          have fp := m.rowP.free (show i + j < 8 by omega)
          have bx := HlA.out i
          have by' := HlB.out j
          have bp := m.lt (i + j)
          obtain ⟨h, l, l', c, c', g, d, o', rm, r1, r2, q, q', bh, bc, bc', bg, bd, bo, e⟩ := ex_mr bx by' bp ho
          have M := Lib.hid m
          clear m bx by' bp
          go_wp2_with fail
          go_quiet ((go_at_call 44; exact Calls.quiet_of_same (rm _)))
          go_wp2_with fail
          go_roundw
          case rel => exact ⟨j + 1, o', upd P (i + j) d, by omega, bo, by go_num, rfl, (M.out.drewN _).set (by omega) bd, Lib.hid (mi_step hlt hlt' mi.out e.out)⟩
          case measure => simp [intOf]; omega
        · obtain rfl : j = 4 := by omega
          have cp := m.rowP.cell (show i + 4 < 8 by omega)
          have fp := m.rowP.free (show i + 4 < 8 by omega)
          have M := Lib.hid m
          clear m
          go_wp2_with fail
          go_roundw
          case rel => exact ⟨i + 1, upd P (i + 4) o, by omega, by go_num, M.out.set (by omega) ho, Lib.hid (mi_end hlt mi.out)⟩
          case measure => simp [intOf]; omega
    · obtain rfl : i = 4 := by omega
      have c0 := m.rowP.cell (show 0 < 8 by omega)
      have c1 := m.rowP.cell (show 1 < 8 by omega)
      have c2 := m.rowP.cell (show 2 < 8 by omega)
      have c3 := m.rowP.cell (show 3 < 8 by omega)
      have c4 := m.rowP.cell (show 4 < 8 by omega)
      have c5 := m.rowP.cell (show 5 < 8 by omega)
      have c6 := m.rowP.cell (show 6 < 8 by omega)
      have c7 := m.rowP.cell (show 7 < 8 by omega)
      obtain ⟨H, rH⟩ := m.rowH
      obtain ⟨L, rL⟩ := m.rowL
      have p0 := rH.cell (show 0 < 4 by omega); have q0 := rH.free (show 0 < 4 by omega)
      have p1 := rH.cell (show 1 < 4 by omega); have q1 := rH.free (show 1 < 4 by omega)
      have p2 := rH.cell (show 2 < 4 by omega); have q2 := rH.free (show 2 < 4 by omega)
      have p3 := rH.cell (show 3 < 4 by omega); have q3 := rH.free (show 3 < 4 by omega)
      have u0 := rL.cell (show 0 < 4 by omega); have v0 := rL.free (show 0 < 4 by omega)
      have u1 := rL.cell (show 1 < 4 by omega); have v1 := rL.free (show 1 < 4 by omega)
      have u2 := rL.cell (show 2 < 4 by omega); have v2 := rL.free (show 2 < 4 by omega)
      have u3 := rL.cell (show 3 < 4 by omega); have v3 := rL.free (show 3 < 4 by omega)
      have hlt := m.lt
      have hbl := m.below
      have hsz : w.heap.size + 1 + 1 + 1 + 1 < wr.heap.size := by have := m.size; omega
      have Hlt := Lib.hid hlt; have Hbl := Lib.hid hbl
      clear rH rL m hlt hbl
      have hAt := run_arrayAt
      go_wp2_with fail
      go_region
      go_wp2_with fail
      refine bodyPost_ret (v := .tuple #[.agg #[.int .u64 (P 4 : Nat), .int .u64 (P 5 : Nat), .int .u64 (P 6 : Nat), .int .u64 (P 7 : Nat)], .agg #[.int .u64 (P 0 : Nat), .int .u64 (P 1 : Nat), .int .u64 (P 2 : Nat), .int .u64 (P 3 : Nat)]]) (by simp [results, Tryd.results13, go_sem, *]) rfl ?_
      refine ⟨P 4, P 5, P 6, P 7, P 0, P 1, P 2, P 3, rfl, ⟨Hlt.out 4, Hlt.out 5, Hlt.out 6, Hlt.out 7⟩, ⟨Hlt.out 0, Hlt.out 1, Hlt.out 2, Hlt.out 3⟩, ?_, ?_⟩
      · exact mul_fin HA.out HB.out mo.out
      · refine Below.drew ?_
        iterate 8 refine Below.setCell ?_ (by simp; omega) _
        exact Hbl.out
end Go.Proofs.YtopahcobdfdnlaaDoor
