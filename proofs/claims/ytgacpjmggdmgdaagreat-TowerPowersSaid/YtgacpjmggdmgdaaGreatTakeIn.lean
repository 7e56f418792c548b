/-
  The calls of limbs.takeIn and limbs.Len: four words more into a rest, modulo a divisor whose highest bit is set; how many bits a number has. Conditions: the divisor's highest word at least 2^63, the rest below the divisor, each word below 2^64.
-/
import Derived.Test.YtgacpjmggdmgdaaGreatTake
import Derived.Test.YtgacpjmggdmgdaaGreatNums
namespace Go.Proofs.YtgacpjmggdmgdaaGreat
set_option linter.unusedVariables false
set_option linter.unusedSimpArgs false
open Go.RowKit

/-- the world in the rounds of takeIn -/
structure LW (w wr : World) (s0 s1 s2 s3 a0 a1 a2 a3 b0 b1 b2 b3 : Nat) : Prop where
  below : Below w.heap.size w wr
  size : w.heap.size + 1 + 1 + 1 < wr.heap.size
  rowS : Row4 wr w.heap.size s0 s1 s2 s3
  rowA : Row4 wr (w.heap.size + 1) a0 a1 a2 a3
  rowB : Row4 wr (w.heap.size + 1 + 1) b0 b1 b2 b3
  rowO : Row4 wr (w.heap.size + 1 + 1 + 1) 0 0 0 0
theorem below4 (w : World) (o1 o2 o3 o4 : Obj) : Below w.heap.size w ((((w.alloc o1).alloc o2).alloc o3).alloc o4) :=
  (below3 w o1 o2 o3).alloc (by simp; omega) o4
/-- the k highest words -/
def topN (a0 a1 a2 a3 : Nat) : Nat → Nat
  | 0 => 0
  | 1 => a3
  | 2 => a3 * 18446744073709551616 + a2
  | 3 => (a3 * 18446744073709551616 + a2) * 18446744073709551616 + a1
  | _ => ((a3 * 18446744073709551616 + a2) * 18446744073709551616 + a1) * 18446744073709551616 + a0
def wordN (a0 a1 a2 a3 : Nat) : Nat → Nat
  | 0 => a3
  | 1 => a2
  | 2 => a1
  | _ => a0
theorem topN_succ (a0 a1 a2 a3 : Nat) {k : Nat} (h : k < 4) : topN a0 a1 a2 a3 (k + 1) = topN a0 a1 a2 a3 k * 18446744073709551616 + wordN a0 a1 a2 a3 k := by
  match k, h with
  | 0, _ => simp [topN, wordN]
  | 1, _ => rfl
  | 2, _ => rfl
  | 3, _ => rfl
theorem wordN_lt {a0 a1 a2 a3 : Nat} (h : ok4 a0 a1 a2 a3) (k : Nat) : wordN a0 a1 a2 a3 k < 18446744073709551616 := by
  obtain ⟨h0, h1, h2, h3⟩ := h
  match k with
  | 0 => exact h3
  | 1 => exact h2
  | 2 => exact h1
  | k + 3 => exact h0
theorem mod_step (n m x b : Nat) : ((n % b) * m + x) % b = (n * m + x) % b := by
  rw [Nat.add_mod, Nat.mul_mod, Nat.mod_mod, ← Nat.mul_mod, ← Nat.add_mod]
def TIn (R b : Nat) (a0 a1 a2 a3 k v : Nat) : Prop := v < b ∧ v = (R * 18446744073709551616 ^ k + topN a0 a1 a2 a3 k) % b
theorem tin_next {R b k v x : Nat} {a0 a1 a2 a3 : Nat} (h : TIn R b a0 a1 a2 a3 k v) (hk : k < 4) (hb : 0 < b) (hx : x = wordN a0 a1 a2 a3 k) : TIn R b a0 a1 a2 a3 (k + 1) ((v * 18446744073709551616 + x) % b) := by
  refine ⟨Nat.mod_lt _ hb, ?_⟩
  rw [h.2, mod_step, topN_succ _ _ _ _ hk, hx, Nat.pow_succ, Nat.add_mul, Nat.mul_assoc, Nat.add_assoc]
theorem tin_end {R b v : Nat} {a0 a1 a2 a3 : Nat} (h : TIn R b a0 a1 a2 a3 4 v) : v = (R * 115792089237316195423570985008687907853269984665640564039457584007913129639936 + val4 a0 a1 a2 a3) % b := by
  rw [h.2, show 18446744073709551616 ^ 4 = 115792089237316195423570985008687907853269984665640564039457584007913129639936 by simp, show topN a0 a1 a2 a3 4 = val4 a0 a1 a2 a3 by show ((a3 * 18446744073709551616 + a2) * 18446744073709551616 + a1) * 18446744073709551616 + a0 = _; unfold val4; omega]

theorem row_word {w : World} {g : Nat} {a0 a1 a2 a3 : Nat} (rA : Row4 w g a0 a1 a2 a3) (k : Nat) (hk : k < 4) : ∃ j x, j + k = 3 ∧ x = wordN a0 a1 a2 a3 k ∧ w.cell? ⟨g, j, none⟩ = some (.int .u64 (x : Nat)) := by
  match k, hk with
  | 0, _ => exact ⟨3, _, rfl, rfl, rA.c3⟩
  | 1, _ => exact ⟨2, _, rfl, rfl, rA.c2⟩
  | 2, _ => exact ⟨1, _, rfl, rfl, rA.c1⟩
  | 3, _ => exact ⟨0, _, rfl, rfl, rA.c0⟩

set_option maxRecDepth 100000 in
set_option maxHeartbeats 1000000 in
theorem takeIn_calls (r0 r1 r2 r3 a0 a1 a2 a3 b0 b1 b2 b3 : Nat) (hr : ok4 r0 r1 r2 r3) (ha : ok4 a0 a1 a2 a3) (hb : ok4 b0 b1 b2 b3) (h3 : 9223372036854775808 ≤ b3) (hlt : val4 r0 r1 r2 r3 < val4 b0 b1 b2 b3) (w : World) :
    Calls Tryz.prog 174 #[.agg #[.int .u64 r0, .int .u64 r1, .int .u64 r2, .int .u64 r3], .agg #[.int .u64 a0, .int .u64 a1, .int .u64 a2, .int .u64 a3], .agg #[.int .u64 b0, .int .u64 b1, .int .u64 b2, .int .u64 b3]] w (WordPost (fun n => n = (val4 r0 r1 r2 r3 * 115792089237316195423570985008687907853269984665640564039457584007913129639936 + val4 a0 a1 a2 a3) % val4 b0 b1 b2 b3) w) := by
  go_enter Tryz.func174, Tryz.ntmps174
  go_wp2_with fail
  go_loopw [8] (fun i wr => ∃ k s0 s1 s2 s3 : Nat, k ≤ 4 ∧ i = .int .i64 k ∧ ok4 s0 s1 s2 s3 ∧ Hid (TIn (val4 r0 r1 r2 r3) (val4 b0 b1 b2 b3) a0 a1 a2 a3 k (val4 s0 s1 s2 s3)) ∧ LW w wr s0 s1 s2 s3 a0 a1 a2 a3 b0 b1 b2 b3) (fun i _ => 4 - (intOf i).toNat)
  case atStart =>
    refine ⟨0, r0, r1, r2, r3, by omega, rfl, hr, Lib.hid ⟨hlt, by show _ = (_ * 18446744073709551616 ^ 0 + 0) % _; rw [Nat.pow_zero, Nat.mul_one, Nat.add_zero, Nat.mod_eq_of_lt hlt]⟩, ⟨below4 _ _ _ _ _, by simp, ?_, ?_, ?_, ?_⟩⟩
    all_goals exact ⟨by simp [go_sem], by simp [go_sem], by simp [go_sem], by simp [go_sem], fun k => by simp [go_sem]⟩
  case round =>
    obtain ⟨k, s0, s1, s2, s3, hk, rfl, hs, ti, lw⟩ := hrel
    have hsz := lw.size
    obtain ⟨x0, x1, x2, x3, xf⟩ := lw.rowS
    obtain ⟨z0, z1, z2, z3, zf⟩ := lw.rowB
    by_cases hlt' : k < 4
    · obtain ⟨j, x, hj, hx, cx⟩ := row_word lw.rowA k hlt'
      have wj : IntKind.i64.wrap (3 - (k : Int)) = (j : Int) := by simp [IntKind.wrap, IntKind.bits, IntKind.signed]; omega
      have bj : (j : Int) < 4 := by omega
      have bx : x < 18446744073709551616 := by rw [hx]; exact wordN_lt ha k
      have Hx := Lib.hid hx
      have HL := Lib.hid lw
      clear lw hx hj
      go_wp2_with fail
      refine wp_region_still_tail 6 (by kernel_rfl) (by kernel_rfl) ?_
      simp only [List.take_succ_cons, List.take_zero, List.drop_succ_cons, List.drop_zero]
      change wpStill _ _ wr.drew _ _ _
      repeat still_step
      refine wpStill_nil ?_
      change wpList _ _ _ _ _ wr.drew
      go_wp2_with fail
      refine (takeWord_calls s0 s1 s2 s3 x b0 b1 b2 b3 hs bx hb h3 ti.out.1 _).mono ?_
      rintro e w3 ⟨n0, n1, n2, n3, rfl, hn, en, hbl⟩
      have hz3 : wr.heap.size ≤ w3.heap.size := hbl.size
      have S3 := HL.out.rowS.drewN 1 |>.below hbl (show w.heap.size < wr.heap.size by omega)
      have T3 : LW w (set4 w3 w.heap.size n0 n1 n2 n3) n0 n1 n2 n3 a0 a1 a2 a3 b0 b1 b2 b3 :=
        ⟨below_set4 ((HL.out.below.drew).trans (hbl.mono HL.out.below.size)) (Nat.le_refl _) _ _ _ _, by unfold set4; simp only [World.size_setCell]; omega, S3.set4 _ _ _ _,
          (HL.out.rowA.drewN 1 |>.below hbl (show w.heap.size + 1 < wr.heap.size by omega)).set4_other (by omega) _ _ _ _,
          (HL.out.rowB.drewN 1 |>.below hbl (show w.heap.size + 1 + 1 < wr.heap.size by omega)).set4_other (by omega) _ _ _ _,
          (HL.out.rowO.drewN 1 |>.below hbl (show w.heap.size + 1 + 1 + 1 < wr.heap.size by omega)).set4_other (by omega) _ _ _ _⟩
      have HT := Lib.hid T3
      have Hti := Lib.hid (tin_next ti.out hlt' (by have := ti.out.1; omega) Hx.out)
      rw [← en] at Hti
      obtain ⟨v0, v1, v2, v3, vf⟩ := S3
      clear hbl en T3 ti
      go_wp2_with fail
      go_roundw
      case rel => exact ⟨k + 1, n0, n1, n2, n3, by omega, by go_num, hn, Hti, HT.out⟩
      case measure => simp [intOf]; omega
    · obtain rfl : k = 4 := by omega
      have HF := Lib.hid (tin_end ti.out)
      obtain ⟨o0, o1, o2, o3, of⟩ := lw.rowO
      have HB := Lib.hid lw.below
      clear ti lw
      go_wp2_with fail
      refine bodyPost_ret (v := .agg #[.int .u64 s0, .int .u64 s1, .int .u64 s2, .int .u64 s3]) (by simp [results, Tryz.results174, go_sem, *]) rfl ?_
      exact ⟨s0, s1, s2, s3, rfl, hs, HF.out, below_set4 HB.out (by omega) _ _ _ _⟩
end Go.Proofs.YtgacpjmggdmgdaaGreat
