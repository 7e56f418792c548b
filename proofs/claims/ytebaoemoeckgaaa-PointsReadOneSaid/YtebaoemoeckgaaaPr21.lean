/-
  The reference's sum and difference of two numbers of four words. Conditions: words below 2^64.
  The call of the reference's Cmp: for any two numbers of four words, in any world, the order. Conditions: each word below 2^64.
-/
import Derived.LoopTactic
import Derived.Test.YtebaoemoeckgaaaPr10
import Derived.Test.YtebaoemoeckgaaaPr00
import Derived.Test.YtebaoemoeckgaaaPr13
namespace Go.Proofs.Ytebaoemoeckgaaa
set_option linter.unusedVariables false
set_option linter.unusedSimpArgs false
open Go.RowKit

structure QW (w wr : World) (A B P : Nat → Nat) : Prop where
  below : Below w.heap.size w wr
  size : w.heap.size + 1 + 1 + 1 < wr.heap.size
  rowA : RowIs wr w.heap.size 4 A
  rowB : RowIs wr (w.heap.size + 1) 4 B
  rowR : RowIs wr (w.heap.size + 1 + 1) 4 (fun _ => 0)
  rowP : RowIs wr (w.heap.size + 1 + 1 + 1) 4 P
theorem QW.set {w wr : World} {A B P : Nat → Nat} (h : QW w wr A B P) {k d : Nat} (hk : k < 4) : QW w (wr.setCell ⟨w.heap.size + 1 + 1 + 1, k, none⟩ (.int .u64 (d : Nat))) A B (upd P k d) :=
  ⟨h.below.setCell (p := ⟨w.heap.size + 1 + 1 + 1, k, none⟩) (by simp; omega) _, by rw [World.size_setCell]; exact h.size, h.rowA.other (by omega) _, h.rowB.other (by omega) _, h.rowR.other (by omega) _, h.rowP.set hk⟩
theorem QW.drewN {w wr : World} {A B P : Nat → Nat} (h : QW w wr A B P) (n : Nat) : QW w (wr.drewN n) A B P := ⟨h.below.trans (below_drewN' _ _ _), h.size, h.rowA, h.rowB, h.rowR, h.rowP⟩
theorem QW.start (w : World) (a0 a1 a2 a3 b0 b1 b2 b3 : Nat) (t : TypeId) : QW w ((((w.alloc (.cells #[.int .u64 a0, .int .u64 a1, .int .u64 a2, .int .u64 a3] t)).alloc (.cells #[.int .u64 b0, .int .u64 b1, .int .u64 b2, .int .u64 b3] t)).alloc (.cells #[.int .u64 0, .int .u64 0, .int .u64 0, .int .u64 0] t)).alloc (.cells #[.int .u64 0, .int .u64 0, .int .u64 0, .int .u64 0] t)) (fnOf [a0, a1, a2, a3]) (fnOf [b0, b1, b2, b3]) (fun _ => 0) := by
  refine ⟨?_, by simp, ?_, ?_, ?_, ?_⟩
  · repeat (first | exact Below.refl _ _ | refine Below.alloc ?_ (by first | (simp; done) | (simp; omega)) _)
  · exact RowIs.mk4 (by simp [go_sem]) (by simp [go_sem]) (by simp [go_sem]) (by simp [go_sem]) (fun k => by simp [go_sem])
  · exact RowIs.mk4 (by simp [go_sem]) (by simp [go_sem]) (by simp [go_sem]) (by simp [go_sem]) (fun k => by simp [go_sem])
  · intro k hk
    match k, hk with
    | 0, _ | 1, _ | 2, _ | 3, _ => exact ⟨by simp [go_sem], by simp [go_sem]⟩
  · intro k hk
    match k, hk with
    | 0, _ | 1, _ | 2, _ | 3, _ => exact ⟨by simp [go_sem], by simp [go_sem]⟩
/-- one word of a sum -/
theorem plus_step {A B P : Nat → Nat} {k c t d : Nat} (h : tot 18446744073709551616 P k + c * 18446744073709551616 ^ k = tot 18446744073709551616 A k + tot 18446744073709551616 B k) (e : t + 18446744073709551616 * d = A k + B k + c) : tot 18446744073709551616 (upd P k t) (k + 1) + d * 18446744073709551616 ^ (k + 1) = tot 18446744073709551616 A (k + 1) + tot 18446744073709551616 B (k + 1) := by
  rw [tot_succ, tot_succ, tot_succ, tot_upd_ge 18446744073709551616 P k t k (Nat.le_refl _), Nat.pow_succ]
  have hu : upd P k t k = t := by unfold upd; rw [if_pos rfl]
  rw [hu]
  have e' : t * 18446744073709551616 ^ k + d * (18446744073709551616 ^ k * 18446744073709551616) = A k * 18446744073709551616 ^ k + B k * 18446744073709551616 ^ k + c * 18446744073709551616 ^ k := by
    rw [← Nat.add_mul, ← Nat.add_mul, ← e, Nat.add_mul]
    congr 1
    rw [Nat.mul_comm (18446744073709551616 ^ k) 18446744073709551616, ← Nat.mul_assoc, Nat.mul_comm d 18446744073709551616]
  omega
/-- one word of a difference -/
theorem minus_step {A B P : Nat → Nat} {k c t d : Nat} (h : tot 18446744073709551616 P k + tot 18446744073709551616 B k = tot 18446744073709551616 A k + c * 18446744073709551616 ^ k) (e : t + B k + c = A k + 18446744073709551616 * d) : tot 18446744073709551616 (upd P k t) (k + 1) + tot 18446744073709551616 B (k + 1) = tot 18446744073709551616 A (k + 1) + d * 18446744073709551616 ^ (k + 1) := by
  rw [tot_succ, tot_succ, tot_succ, tot_upd_ge 18446744073709551616 P k t k (Nat.le_refl _), Nat.pow_succ]
  have hu : upd P k t k = t := by unfold upd; rw [if_pos rfl]
  rw [hu]
  have e' : t * 18446744073709551616 ^ k + B k * 18446744073709551616 ^ k + c * 18446744073709551616 ^ k = A k * 18446744073709551616 ^ k + d * (18446744073709551616 ^ k * 18446744073709551616) := by
    rw [← Nat.add_mul, ← Nat.add_mul, e, Nat.add_mul]
    congr 1
    rw [Nat.mul_comm (18446744073709551616 ^ k) 18446744073709551616, ← Nat.mul_assoc, Nat.mul_comm d 18446744073709551616]
  omega
theorem tot4 (l : List Nat) (a0 a1 a2 a3 : Nat) (h : l = [a0, a1, a2, a3]) : tot 18446744073709551616 (fnOf l) 4 = val4 a0 a1 a2 a3 := by subst h; rw [← val4_tot]; rfl
theorem below_set4' {B : Nat} {w w' : World} {b : Nat} (h : Below B w w') (hb : B ≤ b) (d0 d1 d2 d3 : Value) : Below B w ((((w'.setCell ⟨b, 0, none⟩ d0).setCell ⟨b, 1, none⟩ d1).setCell ⟨b, 2, none⟩ d2).setCell ⟨b, 3, none⟩ d3) :=
  (((h.setCell (p := ⟨b, 0, none⟩) hb _).setCell (p := ⟨b, 1, none⟩) hb _).setCell (p := ⟨b, 2, none⟩) hb _).setCell (p := ⟨b, 3, none⟩) hb _

set_option maxRecDepth 100000 in
set_option maxHeartbeats 2000000 in
theorem refPlus_calls (a0 a1 a2 a3 b0 b1 b2 b3 : Nat) (ha : ok4 a0 a1 a2 a3) (hb : ok4 b0 b1 b2 b3) (w : World) :
    Calls Try.prog 69 #[.agg #[.int .u64 a0, .int .u64 a1, .int .u64 a2, .int .u64 a3], .agg #[.int .u64 b0, .int .u64 b1, .int .u64 b2, .int .u64 b3]] w (AddPost (val4 a0 a1 a2 a3) (val4 b0 b1 b2 b3) w) := by
  have hAl := fnOf4_lt ha
  have hBl := fnOf4_lt hb
  have HTA := Lib.hid (tot4 [a0, a1, a2, a3] a0 a1 a2 a3 rfl)
  have HTB := Lib.hid (tot4 [b0, b1, b2, b3] b0 b1 b2 b3 rfl)
  have HQ := Lib.hid (QW.start w a0 a1 a2 a3 b0 b1 b2 b3 45)
  generalize fnOf [a0, a1, a2, a3] = A at *
  generalize fnOf [b0, b1, b2, b3] = B at *
  have HAl := Lib.hid hAl; have HBl := Lib.hid hBl
  clear hAl hBl
  go_enter Try.func69, Try.ntmps69
  go_wp2_with fail
  go_loopw [7, 8] (fun cv i wr => ∃ (k c : Nat) (P : Nat → Nat), k ≤ 4 ∧ c ≤ 1 ∧ i = .int .i64 k ∧ cv = .int .u64 c ∧ QW w wr A B P ∧ Hid ((∀ j, P j < 18446744073709551616) ∧ tot 18446744073709551616 P k + c * 18446744073709551616 ^ k = tot 18446744073709551616 A k + tot 18446744073709551616 B k)) (fun _ i _ => 4 - (intOf i).toNat)
  case atStart => exact ⟨0, 0, fun _ => 0, by omega, by omega, rfl, rfl, HQ.out, Lib.hid ⟨fun _ => by show 0 < _; omega, by simp [tot]⟩⟩
  case round =>
    obtain ⟨k, c, P, hk, hc, rfl, rfl, m, mo⟩ := hrel
    by_cases hlt : k < 4
    · have ca := m.rowA.cell hlt
      have cb := m.rowB.cell hlt
      have cp := m.rowP.cell hlt
      have fp := m.rowP.free hlt
      have bA := HAl.out k
      have bB := HBl.out k
      have M := Lib.hid m
      clear m
      obtain ⟨s, es, bs, hs⟩ : ∃ s : Nat, IntKind.u64.wrap ((A k : Int) + (B k : Int)) = (s : Int) ∧ s < 18446744073709551616 ∧ Hid (s = (A k + B k) % 18446744073709551616) := ⟨(A k + B k) % 18446744073709551616, by rw [← Int.natCast_add]; exact wrap_mod64 _, by omega, Lib.hid rfl⟩
      obtain ⟨t, et, bt, ht⟩ : ∃ t : Nat, IntKind.u64.wrap ((s : Int) + (c : Int)) = (t : Int) ∧ t < 18446744073709551616 ∧ Hid (t = (s + c) % 18446744073709551616) := ⟨(s + c) % 18446744073709551616, by rw [← Int.natCast_add]; exact wrap_mod64 _, by omega, Lib.hid rfl⟩
      by_cases h1 : s < A k
      · have t1 : decide (s < A k) = true := decide_eq_true (by omega)
        have hn : ¬ t < s := by have := hs.out; have := ht.out; omega
        have t2 : decide (t < s) = false := decide_eq_false (by omega)
        have HE := Lib.hid (show t + 18446744073709551616 * 1 = A k + B k + c by have := hs.out; have := ht.out; omega)
        clear h1 hn hs ht
        go_wp2_with fail
        go_quiet (fail)
        go_wp2_with fail
        go_roundw
        case rel => exact ⟨k + 1, 1, upd P k t, by omega, by omega, by go_num, rfl, (M.out.drewN _).set hlt, Lib.hid ⟨fun j => by unfold upd; split; exact bt; exact mo.out.1 j, plus_step mo.out.2 HE.out⟩⟩
        case measure => simp [intOf]; omega
      · have t1 : decide (s < A k) = false := decide_eq_false (by omega)
        by_cases h2 : t < s
        · have t2 : decide (t < s) = true := decide_eq_true (by omega)
          have HE := Lib.hid (show t + 18446744073709551616 * 1 = A k + B k + c by have := hs.out; have := ht.out; omega)
          clear h1 h2 hs ht
          go_wp2_with fail
          go_quiet (fail)
          go_wp2_with fail
          go_roundw
          case rel => exact ⟨k + 1, 1, upd P k t, by omega, by omega, by go_num, rfl, (M.out.drewN _).set hlt, Lib.hid ⟨fun j => by unfold upd; split; exact bt; exact mo.out.1 j, plus_step mo.out.2 HE.out⟩⟩
          case measure => simp [intOf]; omega
        · have t2 : decide (t < s) = false := decide_eq_false (by omega)
          have HE := Lib.hid (show t + 18446744073709551616 * 0 = A k + B k + c by have := hs.out; have := ht.out; omega)
          clear h1 h2 hs ht
          go_wp2_with fail
          go_quiet (fail)
          go_wp2_with fail
          go_roundw
          case rel => exact ⟨k + 1, 0, upd P k t, by omega, by omega, by go_num, rfl, (M.out.drewN _).set hlt, Lib.hid ⟨fun j => by unfold upd; split; exact bt; exact mo.out.1 j, plus_step mo.out.2 HE.out⟩⟩
          case measure => simp [intOf]; omega
    · obtain rfl : k = 4 := by omega
      have c0 := m.rowP.cell (show 0 < 4 by omega); have c1 := m.rowP.cell (show 1 < 4 by omega); have c2 := m.rowP.cell (show 2 < 4 by omega); have c3 := m.rowP.cell (show 3 < 4 by omega)
      have r0 := m.rowR.cell (show 0 < 4 by omega); have r1 := m.rowR.cell (show 1 < 4 by omega); have r2 := m.rowR.cell (show 2 < 4 by omega); have r3 := m.rowR.cell (show 3 < 4 by omega)
      have s0 := m.rowR.free (show 0 < 4 by omega); have s1 := m.rowR.free (show 1 < 4 by omega); have s2 := m.rowR.free (show 2 < 4 by omega); have s3 := m.rowR.free (show 3 < 4 by omega)
      have hz := m.size
      have HB := Lib.hid m.below
      clear m
      go_wp2_with fail
      refine bodyPost_ret (v := .tuple #[.agg #[.int .u64 (P 0 : Nat), .int .u64 (P 1 : Nat), .int .u64 (P 2 : Nat), .int .u64 (P 3 : Nat)], .int .u64 (c : Nat)]) (by simp [results, Try.results69, go_sem, *]) rfl ?_
      refine ⟨P 0, P 1, P 2, P 3, c, rfl, ⟨mo.out.1 0, mo.out.1 1, mo.out.1 2, mo.out.1 3⟩, hc, ?_, below_set4' HB.out (by omega) _ _ _ _⟩
      have h := mo.out.2
      rw [HTA.out, HTB.out, ← val4_tot P, show (18446744073709551616 : Nat) ^ 4 = 115792089237316195423570985008687907853269984665640564039457584007913129639936 by rfl] at h
      omega
set_option maxRecDepth 100000 in
set_option maxHeartbeats 2000000 in
theorem refMinus_calls (a0 a1 a2 a3 b0 b1 b2 b3 : Nat) (ha : ok4 a0 a1 a2 a3) (hb : ok4 b0 b1 b2 b3) (w : World) :
    Calls Try.prog 93 #[.agg #[.int .u64 a0, .int .u64 a1, .int .u64 a2, .int .u64 a3], .agg #[.int .u64 b0, .int .u64 b1, .int .u64 b2, .int .u64 b3]] w (SubPost (val4 a0 a1 a2 a3) (val4 b0 b1 b2 b3) w) := by
  have hAl := fnOf4_lt ha
  have hBl := fnOf4_lt hb
  have HTA := Lib.hid (tot4 [a0, a1, a2, a3] a0 a1 a2 a3 rfl)
  have HTB := Lib.hid (tot4 [b0, b1, b2, b3] b0 b1 b2 b3 rfl)
  have HQ := Lib.hid (QW.start w a0 a1 a2 a3 b0 b1 b2 b3 45)
  generalize fnOf [a0, a1, a2, a3] = A at *
  generalize fnOf [b0, b1, b2, b3] = B at *
  have HAl := Lib.hid hAl; have HBl := Lib.hid hBl
  clear hAl hBl
  go_enter Try.func93, Try.ntmps93
  go_wp2_with fail
  go_loopw [7, 8] (fun cv i wr => ∃ (k c : Nat) (P : Nat → Nat), k ≤ 4 ∧ c ≤ 1 ∧ i = .int .i64 k ∧ cv = .int .u64 c ∧ QW w wr A B P ∧ Hid ((∀ j, P j < 18446744073709551616) ∧ tot 18446744073709551616 P k + tot 18446744073709551616 B k = tot 18446744073709551616 A k + c * 18446744073709551616 ^ k)) (fun _ i _ => 4 - (intOf i).toNat)
  case atStart => exact ⟨0, 0, fun _ => 0, by omega, by omega, rfl, rfl, HQ.out, Lib.hid ⟨fun _ => by show 0 < _; omega, by simp [tot]⟩⟩
  case round =>
    obtain ⟨k, c, P, hk, hc, rfl, rfl, m, mo⟩ := hrel
    by_cases hlt : k < 4
    · have ca := m.rowA.cell hlt
      have cb := m.rowB.cell hlt
      have cp := m.rowP.cell hlt
      have fp := m.rowP.free hlt
      have bA := HAl.out k
      have bB := HBl.out k
      have M := Lib.hid m
      clear m
      obtain ⟨s, es, bs, hs⟩ : ∃ s : Nat, IntKind.u64.wrap ((A k : Int) - (B k : Int)) = (s : Int) ∧ s < 18446744073709551616 ∧ Hid (s = (A k + 18446744073709551616 - B k) % 18446744073709551616) := ⟨(A k + 18446744073709551616 - B k) % 18446744073709551616, by rw [IntKind.wrap_u64]; omega, by omega, Lib.hid rfl⟩
      obtain ⟨t, et, bt, ht⟩ : ∃ t : Nat, IntKind.u64.wrap ((s : Int) - (c : Int)) = (t : Int) ∧ t < 18446744073709551616 ∧ Hid (t = (s + 18446744073709551616 - c) % 18446744073709551616) := ⟨(s + 18446744073709551616 - c) % 18446744073709551616, by rw [IntKind.wrap_u64]; omega, by omega, Lib.hid rfl⟩
      have hs' := hs.out
      have ht' := ht.out
      clear hs ht
      by_cases h1 : A k < B k
      · have t1 : decide (A k < B k) = true := decide_eq_true h1
        have HE := Lib.hid (show t + B k + c = A k + 18446744073709551616 * 1 by omega)
        clear h1 hs' ht'
        go_wp2_with fail
        go_quiet (fail)
        go_wp2_with fail
        go_region
        go_wp2_with fail
        go_roundw
        case rel => exact ⟨k + 1, 1, upd P k t, by omega, by omega, by go_num, rfl, (M.out.drewN _).set hlt, Lib.hid ⟨fun j => by unfold upd; split; exact bt; exact mo.out.1 j, minus_step mo.out.2 HE.out⟩⟩
        case measure => simp [intOf]; omega
      · have t1 : decide (A k < B k) = false := decide_eq_false h1
        by_cases h2 : A k = B k
        · have t2 : ((A k : Int) == (B k : Int)) = true := by simp; omega
          rcases (show c = 0 ∨ c = 1 by omega) with rfl | rfl
          · obtain rfl : s = t := by omega
            clear et
            have HE := Lib.hid (show s + B k + 0 = A k + 18446744073709551616 * 0 by omega)
            clear h1 h2 hs' ht'
            go_wp2_with fail
            go_quiet (fail)
            go_wp2_with fail
            go_region
            go_wp2_with fail
            go_roundw
            case rel => exact ⟨k + 1, 0, upd P k s, by omega, by omega, by go_num, rfl, (M.out.drewN _).set hlt, Lib.hid ⟨fun j => by unfold upd; split; exact bs; exact mo.out.1 j, minus_step mo.out.2 HE.out⟩⟩
            case measure => simp [intOf]; omega
          · have et2 : IntKind.u64.wrap ((s : Int) - 1) = (t : Int) := et
            clear et
            have HE := Lib.hid (show t + B k + 1 = A k + 18446744073709551616 * 1 by omega)
            clear h1 h2 hs' ht'
            go_wp2_with fail
            go_quiet (fail)
            go_wp2_with fail
            go_region
            go_wp2_with fail
            go_roundw
            case rel => exact ⟨k + 1, 1, upd P k t, by omega, by omega, by go_num, rfl, (M.out.drewN _).set hlt, Lib.hid ⟨fun j => by unfold upd; split; exact bt; exact mo.out.1 j, minus_step mo.out.2 HE.out⟩⟩
            case measure => simp [intOf]; omega
        · have t2 : ((A k : Int) == (B k : Int)) = false := by simp; omega
          have HE := Lib.hid (show t + B k + c = A k + 18446744073709551616 * 0 by omega)
          clear h1 h2 hs' ht'
          go_wp2_with fail
          go_quiet (fail)
          go_wp2_with fail
          go_region
          go_wp2_with fail
          go_roundw
          case rel => exact ⟨k + 1, 0, upd P k t, by omega, by omega, by go_num, rfl, (M.out.drewN _).set hlt, Lib.hid ⟨fun j => by unfold upd; split; exact bt; exact mo.out.1 j, minus_step mo.out.2 HE.out⟩⟩
          case measure => simp [intOf]; omega
    · obtain rfl : k = 4 := by omega
      have c0 := m.rowP.cell (show 0 < 4 by omega); have c1 := m.rowP.cell (show 1 < 4 by omega); have c2 := m.rowP.cell (show 2 < 4 by omega); have c3 := m.rowP.cell (show 3 < 4 by omega)
      have r0 := m.rowR.cell (show 0 < 4 by omega); have r1 := m.rowR.cell (show 1 < 4 by omega); have r2 := m.rowR.cell (show 2 < 4 by omega); have r3 := m.rowR.cell (show 3 < 4 by omega)
      have s0 := m.rowR.free (show 0 < 4 by omega); have s1 := m.rowR.free (show 1 < 4 by omega); have s2 := m.rowR.free (show 2 < 4 by omega); have s3 := m.rowR.free (show 3 < 4 by omega)
      have hz := m.size
      have HB := Lib.hid m.below
      clear m
      go_wp2_with fail
      refine bodyPost_ret (v := .tuple #[.agg #[.int .u64 (P 0 : Nat), .int .u64 (P 1 : Nat), .int .u64 (P 2 : Nat), .int .u64 (P 3 : Nat)], .int .u64 (c : Nat)]) (by simp [results, Try.results93, go_sem, *]) rfl ?_
      refine ⟨P 0, P 1, P 2, P 3, c, rfl, ⟨mo.out.1 0, mo.out.1 1, mo.out.1 2, mo.out.1 3⟩, hc, ?_, below_set4' HB.out (by omega) _ _ _ _⟩
      have h := mo.out.2
      rw [HTA.out, HTB.out, ← val4_tot P, show (18446744073709551616 : Nat) ^ 4 = 115792089237316195423570985008687907853269984665640564039457584007913129639936 by rfl] at h
      omega
end Go.Proofs.Ytebaoemoeckgaaa
namespace Go.Proofs.Ytebaoemoeckgaaa
set_option linter.unusedVariables false
set_option linter.unusedSimpArgs false
open Go.RowKit

set_option maxRecDepth 100000 in
theorem rcmp_l3 (a0 a1 a2 a3 b0 b1 b2 b3 : Nat) (ha : ok4 a0 a1 a2 a3) (hb : ok4 b0 b1 b2 b3) (e3 : a3 < b3) (w : World) :
    Calls Try.prog 46 #[.agg #[.int .u64 a0, .int .u64 a1, .int .u64 a2, .int .u64 a3], .agg #[.int .u64 b0, .int .u64 b1, .int .u64 b2, .int .u64 b3]] w fun e w' => e = .returned (.int .i64 (cmpN (val4 a0 a1 a2 a3) (val4 b0 b1 b2 b3))) ∧ Below w.heap.size w w' := by
  have hfin : cmpN (val4 a0 a1 a2 a3) (val4 b0 b1 b2 b3) = -1 := by
    obtain ⟨p0, p1, p2, p3⟩ := ha; obtain ⟨q0, q1, q2, q3⟩ := hb; unfold cmpN val4
    rw [if_neg (by omega), if_pos (by omega)]
  rw [hfin]
  clear hfin
  have l3 : decide (a3 < b3) = true := decide_eq_true (by omega)
  clear e3
  go_enter Try.func46, Try.ntmps46
  go_wp2_with fail
  refine wp_loop_rounds 5 ?_
  rw [rounds_succ]
  go_wp2_with fail
  go_quiet (fail)
  go_wp2_with fail
  go_ret
  exact ⟨rfl, by repeat (first | exact Below.refl _ _ | refine Below.trans ?_ (below_drewN' _ _ _) | refine Below.drew ?_ | refine Below.alloc ?_ (by first | (simp; done) | (simp; omega)) _)⟩
set_option maxRecDepth 100000 in
theorem rcmp_g3 (a0 a1 a2 a3 b0 b1 b2 b3 : Nat) (ha : ok4 a0 a1 a2 a3) (hb : ok4 b0 b1 b2 b3) (e3 : b3 < a3) (w : World) :
    Calls Try.prog 46 #[.agg #[.int .u64 a0, .int .u64 a1, .int .u64 a2, .int .u64 a3], .agg #[.int .u64 b0, .int .u64 b1, .int .u64 b2, .int .u64 b3]] w fun e w' => e = .returned (.int .i64 (cmpN (val4 a0 a1 a2 a3) (val4 b0 b1 b2 b3))) ∧ Below w.heap.size w w' := by
  have hfin : cmpN (val4 a0 a1 a2 a3) (val4 b0 b1 b2 b3) = 1 := by
    obtain ⟨p0, p1, p2, p3⟩ := ha; obtain ⟨q0, q1, q2, q3⟩ := hb; unfold cmpN val4
    rw [if_neg (by omega), if_neg (by omega)]
  rw [hfin]
  clear hfin
  have l3 : decide (a3 < b3) = false := decide_eq_false (by omega)
  have g3 : decide (b3 < a3) = true := decide_eq_true (by omega)
  clear e3
  go_enter Try.func46, Try.ntmps46
  go_wp2_with fail
  refine wp_loop_rounds 5 ?_
  rw [rounds_succ]
  go_wp2_with fail
  go_quiet (fail)
  go_wp2_with fail
  go_quiet (fail)
  go_wp2_with fail
  go_ret
  exact ⟨rfl, by repeat (first | exact Below.refl _ _ | refine Below.trans ?_ (below_drewN' _ _ _) | refine Below.drew ?_ | refine Below.alloc ?_ (by first | (simp; done) | (simp; omega)) _)⟩
set_option maxRecDepth 100000 in
theorem rcmp_l2 (a0 a1 a2 a3 b0 b1 b2 b3 : Nat) (ha : ok4 a0 a1 a2 a3) (hb : ok4 b0 b1 b2 b3) (e3 : a3 = b3) (e2 : a2 < b2) (w : World) :
    Calls Try.prog 46 #[.agg #[.int .u64 a0, .int .u64 a1, .int .u64 a2, .int .u64 a3], .agg #[.int .u64 b0, .int .u64 b1, .int .u64 b2, .int .u64 b3]] w fun e w' => e = .returned (.int .i64 (cmpN (val4 a0 a1 a2 a3) (val4 b0 b1 b2 b3))) ∧ Below w.heap.size w w' := by
  have hfin : cmpN (val4 a0 a1 a2 a3) (val4 b0 b1 b2 b3) = -1 := by
    obtain ⟨p0, p1, p2, p3⟩ := ha; obtain ⟨q0, q1, q2, q3⟩ := hb; unfold cmpN val4
    rw [if_neg (by omega), if_pos (by omega)]
  rw [hfin]
  clear hfin
  have l3 : decide (a3 < b3) = false := decide_eq_false (by omega)
  have g3 : decide (b3 < a3) = false := decide_eq_false (by omega)
  clear e3
  have l2 : decide (a2 < b2) = true := decide_eq_true (by omega)
  clear e2
  go_enter Try.func46, Try.ntmps46
  go_wp2_with fail
  refine wp_loop_rounds 5 ?_
  rw [rounds_succ]
  go_wp2_with fail
  go_quiet (fail)
  go_wp2_with fail
  go_quiet (fail)
  go_wp2_with fail
  rw [rounds_succ]
  go_wp2_with fail
  go_quiet (fail)
  go_wp2_with fail
  go_ret
  exact ⟨rfl, by repeat (first | exact Below.refl _ _ | refine Below.trans ?_ (below_drewN' _ _ _) | refine Below.drew ?_ | refine Below.alloc ?_ (by first | (simp; done) | (simp; omega)) _)⟩
set_option maxRecDepth 100000 in
theorem rcmp_g2 (a0 a1 a2 a3 b0 b1 b2 b3 : Nat) (ha : ok4 a0 a1 a2 a3) (hb : ok4 b0 b1 b2 b3) (e3 : a3 = b3) (e2 : b2 < a2) (w : World) :
    Calls Try.prog 46 #[.agg #[.int .u64 a0, .int .u64 a1, .int .u64 a2, .int .u64 a3], .agg #[.int .u64 b0, .int .u64 b1, .int .u64 b2, .int .u64 b3]] w fun e w' => e = .returned (.int .i64 (cmpN (val4 a0 a1 a2 a3) (val4 b0 b1 b2 b3))) ∧ Below w.heap.size w w' := by
  have hfin : cmpN (val4 a0 a1 a2 a3) (val4 b0 b1 b2 b3) = 1 := by
    obtain ⟨p0, p1, p2, p3⟩ := ha; obtain ⟨q0, q1, q2, q3⟩ := hb; unfold cmpN val4
    rw [if_neg (by omega), if_neg (by omega)]
  rw [hfin]
  clear hfin
  have l3 : decide (a3 < b3) = false := decide_eq_false (by omega)
  have g3 : decide (b3 < a3) = false := decide_eq_false (by omega)
  clear e3
  have l2 : decide (a2 < b2) = false := decide_eq_false (by omega)
  have g2 : decide (b2 < a2) = true := decide_eq_true (by omega)
  clear e2
  go_enter Try.func46, Try.ntmps46
  go_wp2_with fail
  refine wp_loop_rounds 5 ?_
  rw [rounds_succ]
  go_wp2_with fail
  go_quiet (fail)
  go_wp2_with fail
  go_quiet (fail)
  go_wp2_with fail
  rw [rounds_succ]
  go_wp2_with fail
  go_quiet (fail)
  go_wp2_with fail
  go_quiet (fail)
  go_wp2_with fail
  go_ret
  exact ⟨rfl, by repeat (first | exact Below.refl _ _ | refine Below.trans ?_ (below_drewN' _ _ _) | refine Below.drew ?_ | refine Below.alloc ?_ (by first | (simp; done) | (simp; omega)) _)⟩
set_option maxRecDepth 100000 in
theorem rcmp_l1 (a0 a1 a2 a3 b0 b1 b2 b3 : Nat) (ha : ok4 a0 a1 a2 a3) (hb : ok4 b0 b1 b2 b3) (e3 : a3 = b3) (e2 : a2 = b2) (e1 : a1 < b1) (w : World) :
    Calls Try.prog 46 #[.agg #[.int .u64 a0, .int .u64 a1, .int .u64 a2, .int .u64 a3], .agg #[.int .u64 b0, .int .u64 b1, .int .u64 b2, .int .u64 b3]] w fun e w' => e = .returned (.int .i64 (cmpN (val4 a0 a1 a2 a3) (val4 b0 b1 b2 b3))) ∧ Below w.heap.size w w' := by
  have hfin : cmpN (val4 a0 a1 a2 a3) (val4 b0 b1 b2 b3) = -1 := by
    obtain ⟨p0, p1, p2, p3⟩ := ha; obtain ⟨q0, q1, q2, q3⟩ := hb; unfold cmpN val4
    rw [if_neg (by omega), if_pos (by omega)]
  rw [hfin]
  clear hfin
  have l3 : decide (a3 < b3) = false := decide_eq_false (by omega)
  have g3 : decide (b3 < a3) = false := decide_eq_false (by omega)
  clear e3
  have l2 : decide (a2 < b2) = false := decide_eq_false (by omega)
  have g2 : decide (b2 < a2) = false := decide_eq_false (by omega)
  clear e2
  have l1 : decide (a1 < b1) = true := decide_eq_true (by omega)
  clear e1
  go_enter Try.func46, Try.ntmps46
  go_wp2_with fail
  refine wp_loop_rounds 5 ?_
  rw [rounds_succ]
  go_wp2_with fail
  go_quiet (fail)
  go_wp2_with fail
  go_quiet (fail)
  go_wp2_with fail
  rw [rounds_succ]
  go_wp2_with fail
  go_quiet (fail)
  go_wp2_with fail
  go_quiet (fail)
  go_wp2_with fail
  rw [rounds_succ]
  go_wp2_with fail
  go_quiet (fail)
  go_wp2_with fail
  go_ret
  exact ⟨rfl, by repeat (first | exact Below.refl _ _ | refine Below.trans ?_ (below_drewN' _ _ _) | refine Below.drew ?_ | refine Below.alloc ?_ (by first | (simp; done) | (simp; omega)) _)⟩
set_option maxRecDepth 100000 in
theorem rcmp_g1 (a0 a1 a2 a3 b0 b1 b2 b3 : Nat) (ha : ok4 a0 a1 a2 a3) (hb : ok4 b0 b1 b2 b3) (e3 : a3 = b3) (e2 : a2 = b2) (e1 : b1 < a1) (w : World) :
    Calls Try.prog 46 #[.agg #[.int .u64 a0, .int .u64 a1, .int .u64 a2, .int .u64 a3], .agg #[.int .u64 b0, .int .u64 b1, .int .u64 b2, .int .u64 b3]] w fun e w' => e = .returned (.int .i64 (cmpN (val4 a0 a1 a2 a3) (val4 b0 b1 b2 b3))) ∧ Below w.heap.size w w' := by
  have hfin : cmpN (val4 a0 a1 a2 a3) (val4 b0 b1 b2 b3) = 1 := by
    obtain ⟨p0, p1, p2, p3⟩ := ha; obtain ⟨q0, q1, q2, q3⟩ := hb; unfold cmpN val4
    rw [if_neg (by omega), if_neg (by omega)]
  rw [hfin]
  clear hfin
  have l3 : decide (a3 < b3) = false := decide_eq_false (by omega)
  have g3 : decide (b3 < a3) = false := decide_eq_false (by omega)
  clear e3
  have l2 : decide (a2 < b2) = false := decide_eq_false (by omega)
  have g2 : decide (b2 < a2) = false := decide_eq_false (by omega)
  clear e2
  have l1 : decide (a1 < b1) = false := decide_eq_false (by omega)
  have g1 : decide (b1 < a1) = true := decide_eq_true (by omega)
  clear e1
  go_enter Try.func46, Try.ntmps46
  go_wp2_with fail
  refine wp_loop_rounds 5 ?_
  rw [rounds_succ]
  go_wp2_with fail
  go_quiet (fail)
  go_wp2_with fail
  go_quiet (fail)
  go_wp2_with fail
  rw [rounds_succ]
  go_wp2_with fail
  go_quiet (fail)
  go_wp2_with fail
  go_quiet (fail)
  go_wp2_with fail
  rw [rounds_succ]
  go_wp2_with fail
  go_quiet (fail)
  go_wp2_with fail
  go_quiet (fail)
  go_wp2_with fail
  go_ret
  exact ⟨rfl, by repeat (first | exact Below.refl _ _ | refine Below.trans ?_ (below_drewN' _ _ _) | refine Below.drew ?_ | refine Below.alloc ?_ (by first | (simp; done) | (simp; omega)) _)⟩
set_option maxRecDepth 100000 in
theorem rcmp_l0 (a0 a1 a2 a3 b0 b1 b2 b3 : Nat) (ha : ok4 a0 a1 a2 a3) (hb : ok4 b0 b1 b2 b3) (e3 : a3 = b3) (e2 : a2 = b2) (e1 : a1 = b1) (e0 : a0 < b0) (w : World) :
    Calls Try.prog 46 #[.agg #[.int .u64 a0, .int .u64 a1, .int .u64 a2, .int .u64 a3], .agg #[.int .u64 b0, .int .u64 b1, .int .u64 b2, .int .u64 b3]] w fun e w' => e = .returned (.int .i64 (cmpN (val4 a0 a1 a2 a3) (val4 b0 b1 b2 b3))) ∧ Below w.heap.size w w' := by
  have hfin : cmpN (val4 a0 a1 a2 a3) (val4 b0 b1 b2 b3) = -1 := by
    obtain ⟨p0, p1, p2, p3⟩ := ha; obtain ⟨q0, q1, q2, q3⟩ := hb; unfold cmpN val4
    rw [if_neg (by omega), if_pos (by omega)]
  rw [hfin]
  clear hfin
  have l3 : decide (a3 < b3) = false := decide_eq_false (by omega)
  have g3 : decide (b3 < a3) = false := decide_eq_false (by omega)
  clear e3
  have l2 : decide (a2 < b2) = false := decide_eq_false (by omega)
  have g2 : decide (b2 < a2) = false := decide_eq_false (by omega)
  clear e2
  have l1 : decide (a1 < b1) = false := decide_eq_false (by omega)
  have g1 : decide (b1 < a1) = false := decide_eq_false (by omega)
  clear e1
  have l0 : decide (a0 < b0) = true := decide_eq_true (by omega)
  clear e0
  go_enter Try.func46, Try.ntmps46
  go_wp2_with fail
  refine wp_loop_rounds 5 ?_
  rw [rounds_succ]
  go_wp2_with fail
  go_quiet (fail)
  go_wp2_with fail
  go_quiet (fail)
  go_wp2_with fail
  rw [rounds_succ]
  go_wp2_with fail
  go_quiet (fail)
  go_wp2_with fail
  go_quiet (fail)
  go_wp2_with fail
  rw [rounds_succ]
  go_wp2_with fail
  go_quiet (fail)
  go_wp2_with fail
  go_quiet (fail)
  go_wp2_with fail
  rw [rounds_succ]
  go_wp2_with fail
  go_quiet (fail)
  go_wp2_with fail
  go_ret
  exact ⟨rfl, by repeat (first | exact Below.refl _ _ | refine Below.trans ?_ (below_drewN' _ _ _) | refine Below.drew ?_ | refine Below.alloc ?_ (by first | (simp; done) | (simp; omega)) _)⟩
set_option maxRecDepth 100000 in
theorem rcmp_g0 (a0 a1 a2 a3 b0 b1 b2 b3 : Nat) (ha : ok4 a0 a1 a2 a3) (hb : ok4 b0 b1 b2 b3) (e3 : a3 = b3) (e2 : a2 = b2) (e1 : a1 = b1) (e0 : b0 < a0) (w : World) :
    Calls Try.prog 46 #[.agg #[.int .u64 a0, .int .u64 a1, .int .u64 a2, .int .u64 a3], .agg #[.int .u64 b0, .int .u64 b1, .int .u64 b2, .int .u64 b3]] w fun e w' => e = .returned (.int .i64 (cmpN (val4 a0 a1 a2 a3) (val4 b0 b1 b2 b3))) ∧ Below w.heap.size w w' := by
  have hfin : cmpN (val4 a0 a1 a2 a3) (val4 b0 b1 b2 b3) = 1 := by
    obtain ⟨p0, p1, p2, p3⟩ := ha; obtain ⟨q0, q1, q2, q3⟩ := hb; unfold cmpN val4
    rw [if_neg (by omega), if_neg (by omega)]
  rw [hfin]
  clear hfin
  have l3 : decide (a3 < b3) = false := decide_eq_false (by omega)
  have g3 : decide (b3 < a3) = false := decide_eq_false (by omega)
  clear e3
  have l2 : decide (a2 < b2) = false := decide_eq_false (by omega)
  have g2 : decide (b2 < a2) = false := decide_eq_false (by omega)
  clear e2
  have l1 : decide (a1 < b1) = false := decide_eq_false (by omega)
  have g1 : decide (b1 < a1) = false := decide_eq_false (by omega)
  clear e1
  have l0 : decide (a0 < b0) = false := decide_eq_false (by omega)
  have g0 : decide (b0 < a0) = true := decide_eq_true (by omega)
  clear e0
  go_enter Try.func46, Try.ntmps46
  go_wp2_with fail
  refine wp_loop_rounds 5 ?_
  rw [rounds_succ]
  go_wp2_with fail
  go_quiet (fail)
  go_wp2_with fail
  go_quiet (fail)
  go_wp2_with fail
  rw [rounds_succ]
  go_wp2_with fail
  go_quiet (fail)
  go_wp2_with fail
  go_quiet (fail)
  go_wp2_with fail
  rw [rounds_succ]
  go_wp2_with fail
  go_quiet (fail)
  go_wp2_with fail
  go_quiet (fail)
  go_wp2_with fail
  rw [rounds_succ]
  go_wp2_with fail
  go_quiet (fail)
  go_wp2_with fail
  go_quiet (fail)
  go_wp2_with fail
  go_ret
  exact ⟨rfl, by repeat (first | exact Below.refl _ _ | refine Below.trans ?_ (below_drewN' _ _ _) | refine Below.drew ?_ | refine Below.alloc ?_ (by first | (simp; done) | (simp; omega)) _)⟩
set_option maxRecDepth 100000 in
theorem rcmp_e (a0 a1 a2 a3 b0 b1 b2 b3 : Nat) (ha : ok4 a0 a1 a2 a3) (hb : ok4 b0 b1 b2 b3) (e3 : a3 = b3) (e2 : a2 = b2) (e1 : a1 = b1) (e0 : a0 = b0) (w : World) :
    Calls Try.prog 46 #[.agg #[.int .u64 a0, .int .u64 a1, .int .u64 a2, .int .u64 a3], .agg #[.int .u64 b0, .int .u64 b1, .int .u64 b2, .int .u64 b3]] w fun e w' => e = .returned (.int .i64 (cmpN (val4 a0 a1 a2 a3) (val4 b0 b1 b2 b3))) ∧ Below w.heap.size w w' := by
  have hfin : cmpN (val4 a0 a1 a2 a3) (val4 b0 b1 b2 b3) = 0 := by
    obtain ⟨p0, p1, p2, p3⟩ := ha; obtain ⟨q0, q1, q2, q3⟩ := hb; unfold cmpN val4
    rw [if_pos (by omega)]
  rw [hfin]
  clear hfin
  have l3 : decide (a3 < b3) = false := decide_eq_false (by omega)
  have g3 : decide (b3 < a3) = false := decide_eq_false (by omega)
  clear e3
  have l2 : decide (a2 < b2) = false := decide_eq_false (by omega)
  have g2 : decide (b2 < a2) = false := decide_eq_false (by omega)
  clear e2
  have l1 : decide (a1 < b1) = false := decide_eq_false (by omega)
  have g1 : decide (b1 < a1) = false := decide_eq_false (by omega)
  clear e1
  have l0 : decide (a0 < b0) = false := decide_eq_false (by omega)
  have g0 : decide (b0 < a0) = false := decide_eq_false (by omega)
  clear e0
  go_enter Try.func46, Try.ntmps46
  go_wp2_with fail
  refine wp_loop_rounds 5 ?_
  rw [rounds_succ]
  go_wp2_with fail
  go_quiet (fail)
  go_wp2_with fail
  go_quiet (fail)
  go_wp2_with fail
  rw [rounds_succ]
  go_wp2_with fail
  go_quiet (fail)
  go_wp2_with fail
  go_quiet (fail)
  go_wp2_with fail
  rw [rounds_succ]
  go_wp2_with fail
  go_quiet (fail)
  go_wp2_with fail
  go_quiet (fail)
  go_wp2_with fail
  rw [rounds_succ]
  go_wp2_with fail
  go_quiet (fail)
  go_wp2_with fail
  go_quiet (fail)
  go_wp2_with fail
  rw [rounds_succ]
  go_wp2_with fail
  go_ret
  exact ⟨rfl, by repeat (first | exact Below.refl _ _ | refine Below.trans ?_ (below_drewN' _ _ _) | refine Below.drew ?_ | refine Below.alloc ?_ (by first | (simp; done) | (simp; omega)) _)⟩
theorem refCmp_calls (a0 a1 a2 a3 b0 b1 b2 b3 : Nat) (ha : ok4 a0 a1 a2 a3) (hb : ok4 b0 b1 b2 b3) (w : World) :
    Calls Try.prog 46 #[.agg #[.int .u64 a0, .int .u64 a1, .int .u64 a2, .int .u64 a3], .agg #[.int .u64 b0, .int .u64 b1, .int .u64 b2, .int .u64 b3]] w fun e w' => e = .returned (.int .i64 (cmpN (val4 a0 a1 a2 a3) (val4 b0 b1 b2 b3))) ∧ Below w.heap.size w w' := by
  rcases Nat.lt_trichotomy a3 b3 with e3 | e3 | e3
  · exact rcmp_l3 a0 a1 a2 a3 b0 b1 b2 b3 ha hb e3 w
  · rcases Nat.lt_trichotomy a2 b2 with e2 | e2 | e2
    · exact rcmp_l2 a0 a1 a2 a3 b0 b1 b2 b3 ha hb e3 e2 w
    · rcases Nat.lt_trichotomy a1 b1 with e1 | e1 | e1
      · exact rcmp_l1 a0 a1 a2 a3 b0 b1 b2 b3 ha hb e3 e2 e1 w
      · rcases Nat.lt_trichotomy a0 b0 with e0 | e0 | e0
        · exact rcmp_l0 a0 a1 a2 a3 b0 b1 b2 b3 ha hb e3 e2 e1 e0 w
        · exact rcmp_e a0 a1 a2 a3 b0 b1 b2 b3 ha hb e3 e2 e1 e0 w
        · exact rcmp_g0 a0 a1 a2 a3 b0 b1 b2 b3 ha hb e3 e2 e1 e0 w
      · exact rcmp_g1 a0 a1 a2 a3 b0 b1 b2 b3 ha hb e3 e2 e1 w
    · exact rcmp_g2 a0 a1 a2 a3 b0 b1 b2 b3 ha hb e3 e2 w
  · exact rcmp_g3 a0 a1 a2 a3 b0 b1 b2 b3 ha hb e3 w
end Go.Proofs.Ytebaoemoeckgaaa
