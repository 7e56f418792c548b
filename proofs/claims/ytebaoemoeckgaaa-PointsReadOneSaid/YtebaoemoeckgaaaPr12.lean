/-
  Elements are kept and told back: the calls into, out, one, product. Conditions: words below 2^64, elements below the modulus, the constants in a block of memory.
  The call of limbs.Len: how many bits a number of four words has. Conditions: each word below 2^64.
  The field's powers, by the bits of the exponent. Conditions: the base is an element that is kept, words below 2^64, the constants in a block of memory.
  Plain numbers: how a root is found, round by round. No program in sight. Conditions: none.
  The field's inverses, the test which of an element and its negative is lower, how often an element is squared till it is one. Conditions: elements below the modulus, words below 2^64, the constants in a block of memory.
  How often an element is squared till it is one. Conditions: an element that is kept, words below 2^64, the constants in a block of memory, a count that is not below 0.
-/
import Derived.Deep.RegionWith
import Derived.LoopTactic
import Derived.Test.YtebaoemoeckgaaaPr11
import Derived.Test.YtebaoemoeckgaaaPr10
import Derived.Test.YtebaoemoeckgaaaPr00
import Derived.Test.YtebaoemoeckgaaaPr01
namespace Go.Proofs.Ytebaoemoeckgaaa
set_option linter.unusedVariables false
set_option linter.unusedSimpArgs false
open Go.RowKit

theorem FC.Ok.sqlt {F : FC} (hF : F.Ok) : val4 F.s0 F.s1 F.s2 F.s3 < F.M := by rw [hF.sq]; exact Nat.mod_lt _ (by have := hF.gt; omega)
theorem FC.Ok.pos {F : FC} (hF : F.Ok) : 0 < F.M := by have := hF.gt; omega

set_option maxRecDepth 100000 in
set_option maxHeartbeats 1000000 in
theorem into_calls (F : FC) (hF : F.Ok) (b a0 a1 a2 a3 : Nat) (ha : ok4 a0 a1 a2 a3) (w : World) (hk : KIs w b F) :
    Calls Try.prog 85 #[.pointer (some ⟨b, 0, none⟩), .agg #[.int .u64 a0, .int .u64 a1, .int .u64 a2, .int .u64 a3]] w (FePost (kp F (val4 a0 a1 a2 a3)) w) := by
  have HK := Lib.hid hk
  have HF := Lib.hid hF
  have hL := hk.lt
  have hL1 : b < w.heap.size + 1 := by omega
  have hL2 : b < w.heap.size + 1 + 1 := by omega
  have k5 := hk.k5; have k6 := hk.k6; have k7 := hk.k7; have k8 := hk.k8
  clear hk hF
  go_enter Try.func85, Try.ntmps85
  go_wp2_with fail
  go_region_with (go_at_call 100; refine (times_calls F HF.out b a0 a1 a2 a3 F.s0 F.s1 F.s2 F.s3 ha HF.out.oks HF.out.sqlt _ (HK.out.same (by repeat (first | exact Below.refl _ _ | refine Below.drew ?_ | refine Below.trans ?_ (below_drewN' _ _ _) | refine Below.alloc ?_ (by first | (simp; done) | (simp; omega)) _)))).mono ?_; rintro e ws ⟨s0, s1, s2, s3, rfl, hs, hv, hbl⟩; have HVs := Lib.hid hv; obtain ⟨hcs, hfs⟩ := bcell hbl; have hzs : w.heap.size + 1 < ws.heap.size := by { have := hbl.size; simp at this; omega }; have HBLs := Lib.hid hbl; clear hv hbl)
  all_goals (
    go_wp2_with fail
    refine bodyPost_ret (v := .agg #[.int .u64 s0, .int .u64 s1, .int .u64 s2, .int .u64 s3]) (by simp [results, Try.results85, go_sem, *]) rfl ?_
    refine ⟨_, _, _, _, rfl, hs, HVs.out.trans (kp_into HF.out _), ?_⟩
    refine below_set4 (Below.trans ?_ (HBLs.out.mono (by first | (simp; done) | (simp; omega)))) (by omega) _ _ _ _
    repeat (first | exact Below.refl _ _ | refine Below.drew ?_ | refine Below.trans ?_ (below_drewN' _ _ _) | refine Below.alloc ?_ (by first | (simp; done) | (simp; omega)) _)
  )
set_option maxRecDepth 100000 in
set_option maxHeartbeats 1000000 in
theorem out_calls (F : FC) (hF : F.Ok) (b a0 a1 a2 a3 : Nat) (ha : ok4 a0 a1 a2 a3) (w : World) (hk : KIs w b F) :
    Calls Try.prog 83 #[.pointer (some ⟨b, 0, none⟩), .agg #[.int .u64 a0, .int .u64 a1, .int .u64 a2, .int .u64 a3]] w (FePost (val4 a0 a1 a2 a3 * 1 * F.Ri % F.M) w) := by
  have HK := Lib.hid hk
  have HF := Lib.hid hF
  have hL := hk.lt
  have hL1 : b < w.heap.size + 1 := by omega
  have hL2 : b < w.heap.size + 1 + 1 := by omega
  clear hk hF
  go_enter Try.func83, Try.ntmps83
  go_wp2_with fail
  refine (times_calls F HF.out b a0 a1 a2 a3 1 0 0 0 ha ⟨by omega, by omega, by omega, by omega⟩ (by show 1 < _; have := HF.out.gt; omega) _ (HK.out.same (by repeat (first | exact Below.refl _ _ | refine Below.drew ?_ | refine Below.trans ?_ (below_drewN' _ _ _) | refine Below.alloc ?_ (by first | (simp; done) | (simp; omega)) _)))).mono ?_
  rintro e ws ⟨s0, s1, s2, s3, rfl, hs, hv, hbl⟩; have HVs := Lib.hid hv; obtain ⟨hcs, hfs⟩ := bcell hbl; have hzs : w.heap.size + 1 < ws.heap.size := by { have := hbl.size; simp at this; omega }; have HBLs := Lib.hid hbl; clear hv hbl
  go_wp2_with fail
  refine bodyPost_ret (v := .agg #[.int .u64 s0, .int .u64 s1, .int .u64 s2, .int .u64 s3]) (by simp [results, Try.results83, go_sem, *]) rfl ?_
  refine ⟨_, _, _, _, rfl, hs, HVs.out, ?_⟩
  refine below_set4 (Below.trans ?_ (HBLs.out.mono (by first | (simp; done) | (simp; omega)))) (by omega) _ _ _ _
  repeat (first | exact Below.refl _ _ | refine Below.drew ?_ | refine Below.trans ?_ (below_drewN' _ _ _) | refine Below.alloc ?_ (by first | (simp; done) | (simp; omega)) _)

theorem of_calls (n : Nat) (hn : n < 18446744073709551616) (w : World) : Calls Try.prog 58 #[.int .u64 n] w fun e w' => e = .returned (.agg #[.int .u64 n, .int .u64 0, .int .u64 0, .int .u64 0]) ∧ Below w.heap.size w w' := by
  go_enter Try.func58, Try.ntmps58
  go_wp2_with fail
  refine bodyPost_ret (v := .agg #[.int .u64 n, .int .u64 0, .int .u64 0, .int .u64 0]) (by simp [results, Try.results58, go_sem]) rfl ?_
  exact ⟨rfl, by repeat (first | exact Below.refl _ _ | refine Below.drew ?_ | refine Below.alloc ?_ (by first | (simp; done) | (simp; omega)) _ | refine Below.setCell ?_ (by simp) _)⟩
set_option maxRecDepth 100000 in
set_option maxHeartbeats 1000000 in
theorem one_calls (F : FC) (hF : F.Ok) (b : Nat)  (w : World) (hk : KIs w b F) :
    Calls Try.prog 101 #[.pointer (some ⟨b, 0, none⟩)] w (FePost (kp F 1) w) := by
  have HK := Lib.hid hk
  have HF := Lib.hid hF
  have hL := hk.lt
  have hL1 : b < w.heap.size + 1 := by omega
  have hL2 : b < w.heap.size + 1 + 1 := by omega
  clear hk hF
  go_enter Try.func101, Try.ntmps101
  go_wp2_with fail
  refine (of_calls 1 (by omega) _).mono ?_
  rintro e w1 ⟨rfl, hb1⟩
  have hz1 : w.heap.size < w1.heap.size := by have := hb1.size; simp at this; omega
  obtain ⟨hc1, hf1⟩ := bcell hb1
  have HB1 := Lib.hid hb1
  have HK1 := Lib.hid ((HK.out.same (by repeat (first | exact Below.refl _ _ | refine Below.drew ?_ | refine Below.trans ?_ (below_drewN' _ _ _) | refine Below.alloc ?_ (by first | (simp; done) | (simp; omega)) _)) : KIs (w.alloc _) b F).same hb1)
  clear hb1
  go_wp2_with fail
  refine (into_calls F HF.out b 1 0 0 0 ⟨by omega, by omega, by omega, by omega⟩ _ HK1.out).mono ?_
  rintro e ws ⟨s0, s1, s2, s3, rfl, hs, hv, hbl⟩
  have HVs := Lib.hid hv
  obtain ⟨hcs, hfs⟩ := bcell hbl
  have hzs : w.heap.size < ws.heap.size := by have := hbl.size; omega
  have HBLs := Lib.hid (HB1.out.trans (hbl.mono HB1.out.size))
  clear hv hbl
  go_wp2_with fail
  refine bodyPost_ret (v := .agg #[.int .u64 s0, .int .u64 s1, .int .u64 s2, .int .u64 s3]) (by simp [results, Try.results101, go_sem, *]) rfl ?_
  refine ⟨_, _, _, _, rfl, hs, HVs.out, ?_⟩
  refine below_set4 (Below.trans ?_ (HBLs.out.mono (by first | (simp; done) | (simp; omega)))) (by omega) _ _ _ _
  repeat (first | exact Below.refl _ _ | refine Below.drew ?_ | refine Below.trans ?_ (below_drewN' _ _ _) | refine Below.alloc ?_ (by first | (simp; done) | (simp; omega)) _)

set_option maxRecDepth 100000 in
set_option maxHeartbeats 1000000 in
theorem product_calls (F : FC) (hF : F.Ok) (b a0 a1 a2 a3 b0 b1 b2 b3 : Nat) (ha : ok4 a0 a1 a2 a3) (hb : ok4 b0 b1 b2 b3) (lb : val4 b0 b1 b2 b3 < F.M) (w : World) (hk : KIs w b F) :
    Calls Try.prog 134 #[.pointer (some ⟨b, 0, none⟩), .agg #[.int .u64 a0, .int .u64 a1, .int .u64 a2, .int .u64 a3], .agg #[.int .u64 b0, .int .u64 b1, .int .u64 b2, .int .u64 b3]] w (FePost (val4 a0 a1 a2 a3 * val4 b0 b1 b2 b3 % F.M) w) := by
  have HK := Lib.hid hk
  have HF := Lib.hid hF
  have hL := hk.lt
  have hL1 : b < w.heap.size + 1 := by omega
  have hL2 : b < w.heap.size + 1 + 1 := by omega
  have HLB := Lib.hid lb
  clear lb
  clear hk hF
  go_enter Try.func134, Try.ntmps134
  go_wp2_with fail
  go_region_with (first | (go_at_call 85; refine (into_calls F HF.out b a0 a1 a2 a3 ha _ (HK.out.same (by repeat (first | exact Below.refl _ _ | refine Below.drew ?_ | refine Below.trans ?_ (below_drewN' _ _ _) | refine Below.alloc ?_ (by first | (simp; done) | (simp; omega)) _)))).mono ?_; rintro e ws ⟨s0, s1, s2, s3, rfl, hs, hv, hbl⟩; have HVs := Lib.hid hv; obtain ⟨hcs, hfs⟩ := bcell hbl; have hzs : w.heap.size + 1 + 1 < ws.heap.size := by { have := hbl.size; simp at this; omega }; have HBLs := Lib.hid hbl; clear hv hbl; have HKs := Lib.hid (KIs.same (F := F) (b := b) (HK.out.same (by repeat (first | exact Below.refl _ _ | refine Below.drew ?_ | refine Below.trans ?_ (below_drewN' _ _ _) | refine Below.alloc ?_ (by first | (simp; done) | (simp; omega)) _))) HBLs.out)) | (go_at_call 100; refine (times_calls F HF.out b s0 s1 s2 s3 b0 b1 b2 b3 hs hb HLB.out _ HKs.out).mono ?_; rintro e wp ⟨p0, p1, p2, p3, rfl, hp, hv, hbl⟩; have HVp := Lib.hid hv; obtain ⟨hcp, hfp⟩ := bcell hbl; have hzp : w.heap.size + 1 + 1 < wp.heap.size := by { have := hbl.size; omega }; have HBLp := Lib.hid (HBLs.out.trans (hbl.mono HBLs.out.size)); clear hv hbl))
  all_goals (
    go_wp2_with fail
    refine bodyPost_ret (v := .agg #[.int .u64 p0, .int .u64 p1, .int .u64 p2, .int .u64 p3]) (by simp [results, Try.results134, go_sem, *]) rfl ?_
    refine ⟨_, _, _, _, rfl, hp, HVp.out.trans (by rw [HVs.out]; exact kp_product HF.out _ _), ?_⟩
    refine below_set4 (Below.trans ?_ (HBLp.out.mono (by first | (simp; done) | (simp; omega)))) (by omega) _ _ _ _
    repeat (first | exact Below.refl _ _ | refine Below.drew ?_ | refine Below.trans ?_ (below_drewN' _ _ _) | refine Below.alloc ?_ (by first | (simp; done) | (simp; omega)) _)
  )
end Go.Proofs.Ytebaoemoeckgaaa
namespace Go.Proofs.Ytebaoemoeckgaaa
set_option linter.unusedVariables false
set_option linter.unusedSimpArgs false
open Go.RowKit

theorem ex_len64 {y : Nat} (h0 : 0 < y) (hy : y < 18446744073709551616) : ∃ S : Nat, (∀ w, Calls Try.prog 110 #[.int .u64 y] w fun e w' => e = .returned (.int .i64 S) ∧ w' = w) ∧ S ≤ 64 ∧ Hid (LenIs y S) := by
  obtain ⟨hl, ha, hb, hk⟩ := lenLog h0 hy
  refine ⟨y.log2 + 1, fun w => ?_, by omega, Lib.hid ⟨hb, fun _ => ha⟩⟩
  have := Try.bits_Len64 (y : Int) w (by omega) (by omega)
  rw [Int.toNat_natCast, hl] at this
  exact this

theorem run_indexW0 (a0 a1 a2 a3 : Nat) (w : World) : (Instr.index 45 (.agg #[.int .u64 a0, .int .u64 a1, .int .u64 a2, .int .u64 a3]) (.int .i64 (0 : Nat))).run Try.prog w = .ok (.int .u64 (a0 : Nat)) w := by kernel_rfl
theorem run_indexW1 (a0 a1 a2 a3 : Nat) (w : World) : (Instr.index 45 (.agg #[.int .u64 a0, .int .u64 a1, .int .u64 a2, .int .u64 a3]) (.int .i64 (1 : Nat))).run Try.prog w = .ok (.int .u64 (a1 : Nat)) w := by kernel_rfl
theorem run_indexW2 (a0 a1 a2 a3 : Nat) (w : World) : (Instr.index 45 (.agg #[.int .u64 a0, .int .u64 a1, .int .u64 a2, .int .u64 a3]) (.int .i64 (2 : Nat))).run Try.prog w = .ok (.int .u64 (a2 : Nat)) w := by kernel_rfl
theorem run_indexW3 (a0 a1 a2 a3 : Nat) (w : World) : (Instr.index 45 (.agg #[.int .u64 a0, .int .u64 a1, .int .u64 a2, .int .u64 a3]) (.int .i64 (3 : Nat))).run Try.prog w = .ok (.int .u64 (a3 : Nat)) w := by kernel_rfl
theorem run_indexW (a0 a1 a2 a3 k : Nat) (hk : k < 4) (w : World) : (Instr.index 45 (.agg #[.int .u64 a0, .int .u64 a1, .int .u64 a2, .int .u64 a3]) (.int .i64 (k : Nat))).run Try.prog w = .ok (.int .u64 (fnOf [a0, a1, a2, a3] k : Nat)) w := by
  match k, hk with
  | 0, _ => exact run_indexW0 a0 a1 a2 a3 w
  | 1, _ => exact run_indexW1 a0 a1 a2 a3 w
  | 2, _ => exact run_indexW2 a0 a1 a2 a3 w
  | 3, _ => exact run_indexW3 a0 a1 a2 a3 w

def LenPost (A : Nat) (w : World) (e : Ending) (w' : World) : Prop :=
  ∃ L : Nat, e = .returned (.int .i64 L) ∧ L ≤ 256 ∧ LenIs A L ∧ Below w.heap.size w w'

theorem len_step {A : Nat → Nat} {k L S : Nat} (hA : ∀ j, j < k → A j < 18446744073709551616) (h0 : 0 < A k) (hS : LenIs (A k) S) : LenIs (tot 18446744073709551616 A (k + 1)) (64 * k + S) := by
  have h1 := tot_lt 18446744073709551616 A (by omega) k hA
  rw [show 18446744073709551616 ^ k = 2 ^ (64 * k) by rw [Nat.pow_mul]] at h1
  rw [tot_succ, show 18446744073709551616 ^ k = 2 ^ (64 * k) by rw [Nat.pow_mul]]
  exact LenIs.up h1 h0 hS

theorem len_calls (a0 a1 a2 a3 : Nat) (ha : ok4 a0 a1 a2 a3) (w : World) :
    Calls Try.prog 102 #[.agg #[.int .u64 a0, .int .u64 a1, .int .u64 a2, .int .u64 a3]] w (LenPost (val4 a0 a1 a2 a3) w) := by
  have lA : ∀ k, fnOf [a0, a1, a2, a3] k < 18446744073709551616 := fun k => by
    obtain ⟨h0, h1, h2, h3⟩ := ha
    unfold fnOf
    match k with
    | 0 => exact h0
    | 1 => exact h1
    | 2 => exact h2
    | 3 => exact h3
    | k + 4 => simp
  obtain ⟨A, eA⟩ : ∃ A, A = fnOf [a0, a1, a2, a3] := ⟨_, rfl⟩
  have hix := fun k hk w => run_indexW a0 a1 a2 a3 k hk w
  rw [← eA] at lA
  simp only [← eA] at hix
  have hv : val4 a0 a1 a2 a3 = tot 18446744073709551616 A 4 := by rw [← val4_tot, eA]; rfl
  have HV := Lib.hid hv; have HlA := Lib.hid lA; have Hix := Lib.hid hix
  clear eA lA hv hix
  go_enter Try.func102, Try.ntmps102
  go_wp2_with fail
  go_loop [3, 7] (fun l i => ∃ k L : Nat, k ≤ 4 ∧ i = .int .i64 k ∧ l = .int .i64 L ∧ L ≤ 64 * k ∧ Hid (LenIs (tot 18446744073709551616 A k) L)) (fun _ i => 4 - (intOf i).toNat)
  case atStart => exact ⟨0, 0, by omega, rfl, rfl, by omega, Lib.hid LenIs.zero⟩
  case round =>
    obtain ⟨k, L, hk, rfl, rfl, hL, hl⟩ := hrel
    by_cases hlt : k < 4
    · obtain ⟨x, ex⟩ : ∃ x, x = A k := ⟨_, rfl⟩
      have hx := Hix.out k hlt
      rw [← ex] at hx
      have bx : x < 18446744073709551616 := by rw [ex]; exact HlA.out k
      rcases Nat.eq_zero_or_pos x with h0 | h0
      · have t0 : ((x : Int) != 0) = false := by simp [h0]
        have HN : Hid (LenIs (tot 18446744073709551616 A (k + 1)) L) := Lib.hid (by rw [tot_succ, ← ex, h0, Nat.zero_mul, Nat.add_zero]; exact hl.out)
        clear h0 ex
        go_wp2_with fail
        go_round
        case rel => exact ⟨k + 1, L, by omega, by go_num, rfl, by omega, HN⟩
        case measure => simp [intOf]; omega
      · have t0 : ((x : Int) != 0) = true := by simp; omega
        obtain ⟨S, rS, bS, hS⟩ := ex_len64 h0 bx
        have HN : Hid (LenIs (tot 18446744073709551616 A (k + 1)) (64 * k + S)) := Lib.hid (len_step (L := L) (fun j _ => HlA.out j) (by omega) (by rw [← ex]; exact hS.out))
        clear h0 ex
        go_wp2_with fail
        refine (rS _).mono ?_
        rintro e w' ⟨rfl, rfl⟩
        go_wp2_with fail
        go_round
        case rel => exact ⟨k + 1, 64 * k + S, by omega, by go_num, by go_num, by omega, HN⟩
        case measure => simp [intOf]; omega
    · obtain rfl : k = 4 := by omega
      go_wp2_with fail
      go_ret
      exact ⟨L, rfl, by omega, by rw [HV.out]; exact hl.out, (Below.refl _ _).alloc (Nat.le_refl _) _⟩
end Go.Proofs.Ytebaoemoeckgaaa
namespace Go.Proofs.Ytebaoemoeckgaaa
set_option linter.unusedVariables false
set_option linter.unusedSimpArgs false
open Go.RowKit

theorem Mem.row {w wr : World} {rs : List (Nat × Nat × Nat × Nat × Nat)} (h : Mem w wr rs) {b c0 c1 c2 c3 : Nat} (hm : (b, c0, c1, c2, c3) ∈ rs) : Row4 wr b c0 c1 c2 c3 := (h.2 _ hm).2
theorem Mem.lt {w wr : World} {rs : List (Nat × Nat × Nat × Nat × Nat)} (h : Mem w wr rs) {b c0 c1 c2 c3 : Nat} (hm : (b, c0, c1, c2, c3) ∈ rs) : b < wr.heap.size := (h.2 _ hm).1
theorem pow_next {N k L : Nat} (hk : k < L) : N / 2 ^ (L - (k + 1)) = 2 * (N / 2 ^ (L - k)) + bitOf N (L - 1 - k) := by
  have := bit_step N (L - 1 - k)
  rw [show L - 1 - k + 1 = L - k by omega] at this
  rw [show L - (k + 1) = L - 1 - k by omega, this]

set_option maxRecDepth 100000 in
set_option maxHeartbeats 4000000 in
theorem power_calls (F : FC) (hF : F.Ok) (A b a0 a1 a2 a3 n0 n1 n2 n3 : Nat) (ha : ok4 a0 a1 a2 a3) (hn : ok4 n0 n1 n2 n3) (hA : val4 a0 a1 a2 a3 = kp F A) (w : World) (hk : KIs w b F) :
    Calls Try.prog 84 #[.pointer (some ⟨b, 0, none⟩), .agg #[.int .u64 a0, .int .u64 a1, .int .u64 a2, .int .u64 a3], .agg #[.int .u64 n0, .int .u64 n1, .int .u64 n2, .int .u64 n3]] w (FePost (kp F (A ^ val4 n0 n1 n2 n3)) w) := by
  have HK := Lib.hid hk
  have HF := Lib.hid hF
  have HA := Lib.hid hA
  have la : val4 a0 a1 a2 a3 < F.M := by rw [hA]; exact kp_lt hF _
  have hL := hk.lt
  have HLA := Lib.hid la
  clear hk hF hA la
  go_enter Try.func84, Try.ntmps84
  go_wp2_with fail
  have M0 := ((((Mem.nil w).new w.heap.size a0 a1 a2 a3 113 rfl).new (w.heap.size + 1) n0 n1 n2 n3 45 (by simp)).new (w.heap.size + 1 + 1) 0 0 0 0 113 (by simp))
  refine (one_calls F HF.out b _ (HK.out.same M0.1)).mono ?_
  rintro e w1 ⟨s0, s1, s2, s3, rfl, hs, hv, hbl⟩
  have M1 := M0.on hbl
  have HV1 := Lib.hid hv
  have hz1 : w.heap.size + 1 + 1 < w1.heap.size := M1.lt (c0 := 0) (c1 := 0) (c2 := 0) (c3 := 0) (by simp)
  have R1 := M1.row (b := w.heap.size + 1) (c0 := n0) (c1 := n1) (c2 := n2) (c3 := n3) (by simp)
  have x0 := R1.c0; have x1 := R1.c1; have x2 := R1.c2; have x3 := R1.c3
  have lt1 : w.heap.size + 1 < w1.heap.size := by omega
  have M2 := Lib.hid (M1.new w1.heap.size s0 s1 s2 s3 113 rfl)
  clear hbl hv R1 M0 M1
  go_wp2_with fail
  refine (len_calls n0 n1 n2 n3 hn _).mono ?_
  rintro e w2 ⟨L, rfl, hL256, hLen, hbl⟩
  have HLen := Lib.hid hLen
  have M3 := Lib.hid (M2.out.on hbl)
  have hz2 : w1.heap.size < w2.heap.size := by have := hbl.size; simp at this; omega
  clear hbl hLen x0 x1 x2 x3
  go_wp2_with fail
  go_loopw [15] (fun i wr => ∃ k r0 r1 r2 r3 : Nat, k ≤ L ∧ i = .int .i64 k ∧ ok4 r0 r1 r2 r3 ∧ Hid (val4 r0 r1 r2 r3 = kp F (A ^ (val4 n0 n1 n2 n3 / 2 ^ (L - k)))) ∧ Hid (Mem w wr [(w1.heap.size, r0, r1, r2, r3), (w.heap.size + 1 + 1, 0, 0, 0, 0), (w.heap.size + 1, n0, n1, n2, n3), (w.heap.size, a0, a1, a2, a3)])) (fun i _ => L - (intOf i).toNat)
  case atStart =>
    refine ⟨0, s0, s1, s2, s3, Nat.zero_le _, rfl, hs, Lib.hid ?_, M3⟩
    rw [HV1.out, Nat.sub_zero, Nat.div_eq_of_lt HLen.out.1, Nat.pow_zero]
  case round =>
    obtain ⟨k, r0, r1, r2, r3, hkL, rfl, hr, HV, HM⟩ := hrel
    have hrl : val4 r0 r1 r2 r3 < F.M := by rw [HV.out]; exact kp_lt HF.out _
    by_cases hlt : k < L
    · have Rr := HM.out.row (b := w1.heap.size) (c0 := r0) (c1 := r1) (c2 := r2) (c3 := r3) (by simp)
      have x0 := Rr.c0; have x1 := Rr.c1; have x2 := Rr.c2; have x3 := Rr.c3
      have ltr := HM.out.lt (b := w1.heap.size) (c0 := r0) (c1 := r1) (c2 := r2) (c3 := r3) (by simp)
      have Hrl := Lib.hid hrl
      clear Rr hrl
      go_wp2_with fail
      refine (times_calls F HF.out b r0 r1 r2 r3 r0 r1 r2 r3 hr hr Hrl.out _ (HK.out.same HM.out.1)).mono ?_
      rintro e w3 ⟨p0, p1, p2, p3, rfl, hp, hv, hbl⟩
      have hv' : val4 p0 p1 p2 p3 = kp F (A ^ (val4 n0 n1 n2 n3 / 2 ^ (L - k)) * A ^ (val4 n0 n1 n2 n3 / 2 ^ (L - k)) % F.M) := by rw [hv, HV.out, kp_times HF.out]
      have HP := Lib.hid hv'
      have M4 := HM.out.on hbl
      have lt4 := M4.lt (b := w1.heap.size) (c0 := r0) (c1 := r1) (c2 := r2) (c3 := r3) (by simp)
      have Rr := M4.row (b := w1.heap.size) (c0 := r0) (c1 := r1) (c2 := r2) (c3 := r3) (by simp)
      have Rn := M4.row (b := w.heap.size + 1) (c0 := n0) (c1 := n1) (c2 := n2) (c3 := n3) (by simp)
      have Ra := M4.row (b := w.heap.size) (c0 := a0) (c1 := a1) (c2 := a2) (c3 := a3) (by simp)
      have M5 := Lib.hid (M4.put p0 p1 p2 p3 (by omega) (by intro r hr; simp at hr; rcases hr with rfl | rfl | rfl <;> simp <;> omega))
      clear x0 x1 x2 x3 hv hv' hbl M4
      have x0 := Rr.c0; have x1 := Rr.c1; have x2 := Rr.c2; have x3 := Rr.c3; have xf := Rr.fr
      have y0 := Rn.c0; have y1 := Rn.c1; have y2 := Rn.c2; have y3 := Rn.c3
      have ne1 : ¬ w.heap.size + 1 = w1.heap.size := by omega
      have ne1' : ¬ w1.heap.size = w.heap.size + 1 := by omega
      clear Rr Rn Ra
      obtain ⟨L1, e1, hL1⟩ : ∃ L1 : Nat, (L : Int) - 1 = (L1 : Int) ∧ L1 + 1 = L := ⟨L - 1, by omega, by omega⟩
      obtain ⟨j, e2, hj⟩ : ∃ j : Nat, (L1 : Int) - (k : Int) = (j : Int) ∧ j + k = L1 := ⟨L1 - k, by omega, by omega⟩
      have hj256 : j < 256 := by omega
      have hjk : j = L - 1 - k := by omega
      have HJ := Lib.hid hjk
      clear hjk
      go_wp2_with fail
      refine (bit_in n0 n1 n2 n3 j hn hj256 _).mono ?_
      rintro e w4 ⟨he, hbl⟩
      have M5' := M5.out
      unfold set4 at M5'
      have M6 := M5'.on hbl
      clear hbl M5' x0 x1 x2 x3 xf y0 y1 y2 y3
      have lt6 := M6.lt (b := w1.heap.size) (c0 := p0) (c1 := p1) (c2 := p2) (c3 := p3) (by simp)
      rcases bitOf_01 (val4 n0 n1 n2 n3) j with hb | hb
      · rw [hb] at he
        subst he
        have HS := Lib.hid (show val4 p0 p1 p2 p3 = kp F (A ^ (val4 n0 n1 n2 n3 / 2 ^ (L - (k + 1)))) by
          rw [HP.out, pow_next hlt, ← HJ.out, hb]; exact ((kp_pow_step F A _ 0 (Or.inl rfl)).1 rfl).symm)
        have M7 := Lib.hid M6
        clear hb M6
        go_wp2_with fail
        go_roundw
        case rel => exact ⟨k + 1, p0, p1, p2, p3, by omega, by go_num, hp, HS, M7⟩
        case measure => simp [intOf]; omega
      · rw [hb] at he
        subst he
        have Rr := M6.row (b := w1.heap.size) (c0 := p0) (c1 := p1) (c2 := p2) (c3 := p3) (by simp)
        have Ra := M6.row (b := w.heap.size) (c0 := a0) (c1 := a1) (c2 := a2) (c3 := a3) (by simp)
        have x0 := Rr.c0; have x1 := Rr.c1; have x2 := Rr.c2; have x3 := Rr.c3
        have z0 := Ra.c0; have z1 := Ra.c1; have z2 := Ra.c2; have z3 := Ra.c3
        have HB := Lib.hid hb
        have M7 := Lib.hid M6
        clear hb M6 Rr Ra
        go_wp2_with fail
        refine (times_calls F HF.out b p0 p1 p2 p3 a0 a1 a2 a3 hp ha HLA.out _ (HK.out.same M7.out.1)).mono ?_
        rintro e w5 ⟨q0, q1, q2, q3, rfl, hq, hv, hbl⟩
        have hv' : val4 q0 q1 q2 q3 = kp F (A ^ (val4 n0 n1 n2 n3 / 2 ^ (L - (k + 1)))) := by
          rw [hv, HP.out, HA.out, kp_times HF.out, pow_next hlt, ← HJ.out, HB.out]; exact ((kp_pow_step F A _ 1 (Or.inr rfl)).2 rfl).symm
        have HS := Lib.hid hv'
        have M8 := M7.out.on hbl
        have lt8 := M8.lt (b := w1.heap.size) (c0 := p0) (c1 := p1) (c2 := p2) (c3 := p3) (by simp)
        have Rr := M8.row (b := w1.heap.size) (c0 := p0) (c1 := p1) (c2 := p2) (c3 := p3) (by simp)
        have M9 := Lib.hid (M8.put q0 q1 q2 q3 (by omega) (by intro r hr; simp at hr; rcases hr with rfl | rfl | rfl <;> simp <;> omega))
        clear x0 x1 x2 x3 z0 z1 z2 z3 hv hv' hbl M8
        have x0 := Rr.c0; have x1 := Rr.c1; have x2 := Rr.c2; have x3 := Rr.c3; have xf := Rr.fr
        clear Rr
        go_wp2_with fail
        go_roundw
        case rel => exact ⟨k + 1, q0, q1, q2, q3, by omega, by go_num, hq, HS, M9⟩
        case measure => simp [intOf]; omega
    · obtain rfl : k = L := by omega
      have Rr := HM.out.row (b := w1.heap.size) (c0 := r0) (c1 := r1) (c2 := r2) (c3 := r3) (by simp)
      have x0 := Rr.c0; have x1 := Rr.c1; have x2 := Rr.c2; have x3 := Rr.c3
      have Ro := HM.out.row (b := w.heap.size + 1 + 1) (c0 := 0) (c1 := 0) (c2 := 0) (c3 := 0) (by simp)
      have o0 := Ro.c0; have o1 := Ro.c1; have o2 := Ro.c2; have o3 := Ro.c3; have of := Ro.fr
      have ltr := HM.out.lt (b := w1.heap.size) (c0 := r0) (c1 := r1) (c2 := r2) (c3 := r3) (by simp)
      have lto := HM.out.lt (b := w.heap.size + 1 + 1) (c0 := 0) (c1 := 0) (c2 := 0) (c3 := 0) (by simp)
      clear Rr Ro hrl
      go_wp2_with fail
      refine bodyPost_ret (v := .agg #[.int .u64 r0, .int .u64 r1, .int .u64 r2, .int .u64 r3]) (by simp [results, Try.results84, go_sem, *]) rfl ?_
      refine ⟨_, _, _, _, rfl, hr, by rw [HV.out, Nat.sub_self, Nat.pow_zero, Nat.div_one], ?_⟩
      exact below_set4 HM.out.1 (by omega) _ _ _ _
end Go.Proofs.Ytebaoemoeckgaaa
namespace Go.Proofs.Ytebaoemoeckgaaa
set_option linter.unusedVariables false
set_option linter.unusedSimpArgs false

/-- what holds between the rounds: the root's square is the element times the rest, and the rest's order falls -/
def TonI (M A T R S C : Nat) : Prop := 1 ≤ T ∧ R * R % M = A * S % M ∧ C ^ 2 ^ (T - 1) % M = M - 1 ∧ S ^ 2 ^ (T - 1) % M = 1
theorem pow_two_succ (x k : Nat) : x ^ 2 ^ (k + 1) = x ^ 2 ^ k * x ^ 2 ^ k := by rw [Nat.pow_succ, Nat.mul_comm, Nat.two_mul, Nat.pow_add]
theorem ton_next {M g : Nat} (hr : Root M g) (h2 : 2 < M) {A T o R S C : Nat} (h : TonI M A T R S C) (ho : 0 < o) (hoT : o < T) (h1 : S ^ 2 ^ o % M = 1) (hmin : S ^ 2 ^ (o - 1) % M ≠ 1) :
    TonI M A o (R * C ^ 2 ^ (T - o - 1)) (S * (C ^ 2 ^ (T - o - 1) * C ^ 2 ^ (T - o - 1))) (C ^ 2 ^ (T - o - 1) * C ^ 2 ^ (T - o - 1)) := by
  obtain ⟨hT, hR, hC, hS⟩ := h
  have hD : (C ^ 2 ^ (T - o - 1) * C ^ 2 ^ (T - o - 1)) ^ 2 ^ (o - 1) % M = M - 1 := by
    rw [← pow_two_succ, ← Nat.pow_mul, ← Nat.pow_add, show T - o - 1 + 1 + (o - 1) = T - 1 by omega]; exact hC
  have hx : S ^ 2 ^ (o - 1) % M = M - 1 := by
    have hlt := Nat.mod_lt (S ^ 2 ^ (o - 1)) (show 0 < M by omega)
    have e : S ^ 2 ^ (o - 1) % M * (S ^ 2 ^ (o - 1) % M) % M = 1 := by
      rw [← Nat.mul_mod, ← pow_two_succ, show o - 1 + 1 = o by omega]; exact h1
    rcases pm_one hr (by omega) hlt e with q | q
    · exact absurd q hmin
    · exact q
  refine ⟨ho, ?_, hD, ?_⟩
  · generalize C ^ 2 ^ (T - o - 1) = D at *
    rw [show R * D * (R * D) = R * R * (D * D) by simp only [Nat.mul_comm, Nat.mul_left_comm, Nat.mul_assoc], ← Nat.mul_assoc A S]
    exact cg_mul hR rfl
  · rw [Nat.mul_pow, Nat.mul_mod, hD, hx]
    exact sq_neg h2
theorem pow_half {M A H T : Nat} (hM : M = 2 ^ T * (2 * H + 1) + 1) (hT : 1 ≤ T) : (A ^ (2 * H + 1)) ^ 2 ^ (T - 1) = A ^ (M / 2) := by
  rw [← Nat.pow_mul]
  congr 1
  obtain ⟨t, rfl⟩ : ∃ t, T = t + 1 := ⟨T - 1, by omega⟩
  rw [hM, Nat.pow_succ, show t + 1 - 1 = t by omega, Nat.mul_comm (2 ^ t) 2, Nat.mul_assoc, Nat.mul_comm (2 * H + 1)]
  omega
theorem ton_start {M A H T C : Nat} (hM : M = 2 ^ T * (2 * H + 1) + 1) (hT : 1 ≤ T) (hC : C ^ 2 ^ (T - 1) % M = M - 1) (hs : A ^ (M / 2) % M = 1) :
    TonI M A T (A * A ^ H) (A * A ^ H * A ^ H) C := by
  have e : A * A ^ H * A ^ H = A ^ (2 * H + 1) := by rw [Nat.mul_assoc, ← Nat.pow_add, ← Nat.pow_succ']; congr 1; omega
  refine ⟨hT, ?_, hC, ?_⟩
  · rw [show A * A ^ H * (A * A ^ H) = A * (A * A ^ H * A ^ H) by simp only [Nat.mul_comm, Nat.mul_left_comm, Nat.mul_assoc]]
  · rw [e, pow_half hM hT, hs]
theorem shift_half {M H T : Nat} (hM : M = 2 ^ T * (2 * H + 1) + 1) (hT : 1 ≤ T) : M / 2 ^ (T + 1) = H := by
  obtain ⟨t, rfl⟩ : ∃ t, T = t + 1 := ⟨T - 1, by omega⟩
  have hp := Nat.two_pow_pos t
  rw [hM, Nat.pow_succ 2 (t + 1), Nat.pow_succ 2 t]
  generalize 2 ^ t = x at *
  rw [show x * 2 * (2 * H + 1) + 1 = x * 2 + 1 + x * 2 * 2 * H by rw [Nat.mul_add, ← Nat.mul_assoc]; omega]
  rw [Nat.add_mul_div_left _ _ (by omega), Nat.div_eq_of_lt (by omega), Nat.zero_add]
theorem one_up {M S i j : Nat} (h1 : 1 < M) (hij : i ≤ j) (h : S ^ 2 ^ i % M = 1) : S ^ 2 ^ j % M = 1 := by
  obtain ⟨d, rfl⟩ : ∃ d, j = i + d := ⟨j - i, by omega⟩
  rw [Nat.pow_add, Nat.pow_mul, Nat.pow_mod, h, Nat.one_pow, Nat.mod_eq_of_lt h1]
end Go.Proofs.Ytebaoemoeckgaaa
namespace Go.Proofs.Ytebaoemoeckgaaa
set_option linter.unusedVariables false
set_option linter.unusedSimpArgs false
open Go.RowKit

theorem equalInK (d : Nat) (a0 a1 a2 a3 b0 b1 b2 b3 : Nat) (w : World) : (Op.equalIn (d + 1 + 1) 113 (.agg #[.int .u64 a0, .int .u64 a1, .int .u64 a2, .int .u64 a3]) (.agg #[.int .u64 b0, .int .u64 b1, .int .u64 b2, .int .u64 b3])).run Try.prog w = .ok (eqW a0 a1 a2 a3 b0 b1 b2 b3) w := by
  have h0 : ∀ (x y : Int) (w : World), (Op.equalIn (d + 1) 22 (.int .u64 x) (.int .u64 y)).run Try.prog w = .ok (x == y) w := fun x y w => run_equalIn_int w d 22 .u64 .u64 x y Try.underlying22
  rw [Op.equalIn]
  simp only [Sem.run_bind, run_underlying Try.underlying113, Result.andThen_ok, Try.sizeOf22]
  simp [Std.Legacy.Range.forIn_eq_forIn_range', Std.Legacy.Range.size, List.range', part, h0, Sem.run_bind, Result.andThen_ok]
  unfold eqW
  by_cases q0 : a0 = b0 <;> by_cases q1 : a1 = b1 <;> by_cases q2 : a2 = b2 <;> by_cases q3 : a3 = b3 <;> simp [q0, q1, q2, q3] <;> omega
theorem equalInF (d : Nat) (a0 a1 a2 a3 b0 b1 b2 b3 : Nat) (w : World) : (Op.equalIn (d + 1 + 1) 24 (.agg #[.int .u64 a0, .int .u64 a1, .int .u64 a2, .int .u64 a3]) (.agg #[.int .u64 b0, .int .u64 b1, .int .u64 b2, .int .u64 b3])).run Try.prog w = .ok (eqW a0 a1 a2 a3 b0 b1 b2 b3) w := by
  have h0 : ∀ (x y : Int) (w : World), (Op.equalIn (d + 1) 22 (.int .u64 x) (.int .u64 y)).run Try.prog w = .ok (x == y) w := fun x y w => run_equalIn_int w d 22 .u64 .u64 x y Try.underlying22
  rw [Op.equalIn]
  simp only [Sem.run_bind, run_underlying Try.underlying24, Result.andThen_ok, Try.sizeOf22]
  simp [Std.Legacy.Range.forIn_eq_forIn_range', Std.Legacy.Range.size, List.range', part, h0, Sem.run_bind, Result.andThen_ok]
  unfold eqW
  by_cases q0 : a0 = b0 <;> by_cases q1 : a1 = b1 <;> by_cases q2 : a2 = b2 <;> by_cases q3 : a3 = b3 <;> simp [q0, q1, q2, q3] <;> omega
theorem Mem.drew {w wr : World} {rs : List (Nat × Nat × Nat × Nat × Nat)} (h : Mem w wr rs) : Mem w wr.drew rs :=
  ⟨h.1.drew, fun r hr => ⟨(h.2 r hr).1, ⟨(h.2 r hr).2.c0, (h.2 r hr).2.c1, (h.2 r hr).2.c2, (h.2 r hr).2.c3, (h.2 r hr).2.fr⟩⟩⟩
theorem eqGuardK : Try.prog.eqGuardType Try.prog.depth 113 = false := by kernel_rfl
theorem eqGuardF : Try.prog.eqGuardType Try.prog.depth 24 = false := by kernel_rfl

/-- an element is lower than its negative, or 0 -/
def lowB (M A : Nat) : Bool := decide (A ≤ (0 + M - A) % M)
theorem lowB_of (M A : Nat) : decide (cmpN A ((0 + M - A) % M) ≤ 0) = lowB M A := by
  unfold lowB cmpN
  by_cases h : A = (0 + M - A) % M
  · rw [if_pos h, decide_eq_true (by omega), decide_eq_true (by omega)]
  · rw [if_neg h]
    by_cases h2 : A < (0 + M - A) % M
    · rw [if_pos h2, decide_eq_true (by omega), decide_eq_true (by omega)]
    · rw [if_neg h2, decide_eq_false (by omega), decide_eq_false (by omega)]

set_option maxRecDepth 100000 in
set_option maxHeartbeats 1000000 in
theorem isLower_calls (F : FC) (hF : F.Ok) (b a0 a1 a2 a3 : Nat) (ha : ok4 a0 a1 a2 a3) (la : val4 a0 a1 a2 a3 < F.M) (w : World) (hk : KIs w b F) :
    Calls Try.prog 81 #[.pointer (some ⟨b, 0, none⟩), .agg #[.int .u64 a0, .int .u64 a1, .int .u64 a2, .int .u64 a3]] w fun e w' => e = .returned (.bool (lowB F.M (val4 a0 a1 a2 a3))) ∧ Below w.heap.size w w' := by
  have HK := Lib.hid hk
  have HF := Lib.hid hF
  have HLA := Lib.hid la
  have hL := hk.lt
  have hL1 : b < w.heap.size + 1 := by omega
  clear hk hF la
  go_enter Try.func81, Try.ntmps81
  go_wp2_with fail
  have M0 := Lib.hid ((Mem.nil w).new w.heap.size a0 a1 a2 a3 24 rfl)
  go_region_with (first
    | (go_at_call 89; (refine (minus_calls F HF.out b 0 0 0 0 a0 a1 a2 a3 ⟨by omega, by omega, by omega, by omega⟩ ha HF.out.pos HLA.out _ (HK.out.same (by repeat (first | exact Below.refl _ _ | refine Below.drew ?_ | refine Below.alloc ?_ (by first | (simp; done) | (simp; omega)) _)))).mono ?_; rintro e w1 ⟨s0, s1, s2, s3, rfl, hs, hv, hbl⟩; have HV := Lib.hid hv; have M1 := Lib.hid (M0.out.drew.on hbl); have R1 := M1.out.row (b := w.heap.size) (c0 := a0) (c1 := a1) (c2 := a2) (c3 := a3) (by simp); have x0 := R1.c0; have x1 := R1.c1; have x2 := R1.c2; have x3 := R1.c3; have lt1 := M1.out.lt (b := w.heap.size) (c0 := a0) (c1 := a1) (c2 := a2) (c3 := a3) (by simp); clear hv hbl R1))
    | (go_at_call 99; refine (cmp_calls a0 a1 a2 a3 s0 s1 s2 s3 ha hs _).mono ?_; rintro e w2 ⟨rfl, hbl⟩; have HB := Lib.hid (M1.out.on hbl).1; clear hbl))
  all_goals (
    go_wp2_with fail
    go_ret
    exact ⟨ret_bool (by rw [HV.out]; exact lowB_of _ _), HB.out⟩)
end Go.Proofs.Ytebaoemoeckgaaa
namespace Go.Proofs.Ytebaoemoeckgaaa
set_option linter.unusedVariables false
set_option linter.unusedSimpArgs false
open Go.RowKit

def OrdPost (M A T : Nat) (w : World) (e : Ending) (w' : World) : Prop :=
  ∃ o : Nat, e = .returned (.int .i64 o) ∧ o ≤ T ∧ (∀ j, j < o → A ^ 2 ^ j % M ≠ 1) ∧ (o < T → A ^ 2 ^ o % M = 1) ∧ Below w.heap.size w w'
theorem eq_one {F : FC} (hF : F.Ok) {a0 a1 a2 a3 s0 s1 s2 s3 A : Nat} (ha : ok4 a0 a1 a2 a3) (hs : ok4 s0 s1 s2 s3) (hA : val4 a0 a1 a2 a3 = kp F A) (hS : val4 s0 s1 s2 s3 = kp F 1) : eqW a0 a1 a2 a3 s0 s1 s2 s3 = true ↔ A % F.M = 1 := by
  have h1 : 1 < F.M := by have := hF.gt; omega
  rw [eqW_iff ha hs, hA, hS, ← kp_mod F A]
  exact ⟨fun h => kp_inj hF (Nat.mod_lt _ (by omega)) h1 h, fun h => by rw [h]⟩

set_option maxRecDepth 100000 in
set_option maxHeartbeats 4000000 in
theorem logOrder_calls (F : FC) (hF : F.Ok) (A b a0 a1 a2 a3 T : Nat) (ha : ok4 a0 a1 a2 a3) (hA : val4 a0 a1 a2 a3 = kp F A) (hT : T ≤ 256) (w : World) (hk : KIs w b F) :
    Calls Try.prog 107 #[.pointer (some ⟨b, 0, none⟩), .agg #[.int .u64 a0, .int .u64 a1, .int .u64 a2, .int .u64 a3], .int .i64 T] w (OrdPost F.M A T w) := by
  have HK := Lib.hid hk
  have HF := Lib.hid hF
  have HA := Lib.hid hA
  have hL := hk.lt
  have hG := eqGuardK
  clear hk hF hA
  go_enter Try.func107, Try.ntmps107
  go_wp2_with fail
  have M0 := (Mem.nil w).new w.heap.size a0 a1 a2 a3 113 rfl
  refine (one_calls F HF.out b _ (HK.out.same M0.1)).mono ?_
  rintro e w1 ⟨s0, s1, s2, s3, rfl, hs, hv, hbl⟩
  have M1 := M0.on hbl
  have HV1 := Lib.hid hv
  have hz1 : w.heap.size < w1.heap.size := M1.lt (c0 := a0) (c1 := a1) (c2 := a2) (c3 := a3) (by simp)
  have M2 := Lib.hid ((M1.new w1.heap.size s0 s1 s2 s3 113 rfl).sub (rs' := [(w.heap.size, a0, a1, a2, a3), (w1.heap.size, s0, s1, s2, s3)]) (by simp))
  clear hbl hv M0 M1
  go_wp2_with fail
  go_loopw [12] (fun i wr => ∃ k r0 r1 r2 r3 : Nat, k ≤ T ∧ i = .int .i64 k ∧ ok4 r0 r1 r2 r3 ∧ Hid (val4 r0 r1 r2 r3 = kp F (A ^ 2 ^ k)) ∧ Hid (∀ j, j < k → A ^ 2 ^ j % F.M ≠ 1) ∧ Hid (Mem w wr [(w.heap.size, r0, r1, r2, r3), (w1.heap.size, s0, s1, s2, s3)])) (fun i _ => T - (intOf i).toNat)
  case atStart =>
    exact ⟨0, a0, a1, a2, a3, Nat.zero_le _, rfl, ha, Lib.hid (by rw [HA.out, Nat.pow_zero, Nat.pow_one]), Lib.hid (fun j hj => absurd hj (by omega)), M2⟩
  case round =>
    obtain ⟨k, r0, r1, r2, r3, hkT, rfl, hr, HV, HN, HM⟩ := hrel
    by_cases hlt : k < T
    · have Rr := HM.out.row (b := w.heap.size) (c0 := r0) (c1 := r1) (c2 := r2) (c3 := r3) (by simp)
      have x0 := Rr.c0; have x1 := Rr.c1; have x2 := Rr.c2; have x3 := Rr.c3
      have Ro := HM.out.row (b := w1.heap.size) (c0 := s0) (c1 := s1) (c2 := s2) (c3 := s3) (by simp)
      have o0 := Ro.c0; have o1 := Ro.c1; have o2 := Ro.c2; have o3 := Ro.c3
      have ltr := HM.out.lt (b := w.heap.size) (c0 := r0) (c1 := r1) (c2 := r2) (c3 := r3) (by simp)
      have lto := HM.out.lt (b := w1.heap.size) (c0 := s0) (c1 := s1) (c2 := s2) (c3 := s3) (by simp)
      have hE := fun w => equalInK 9998 r0 r1 r2 r3 s0 s1 s2 s3 w
      have hq := eq_one HF.out hr hs HV.out HV1.out
      clear Rr Ro
      cases q : eqW r0 r1 r2 r3 s0 s1 s2 s3
      · rw [q] at hE hq
        have HN1 := Lib.hid (show ¬ A ^ 2 ^ k % F.M = 1 from fun h => by simpa using hq.2 h)
        have hrl := Lib.hid (show val4 r0 r1 r2 r3 < F.M by rw [HV.out]; exact kp_lt HF.out _)
        clear q hq
        go_wp2_with fail
        refine (times_calls F HF.out b r0 r1 r2 r3 r0 r1 r2 r3 hr hr hrl.out _ (HK.out.same HM.out.1)).mono ?_
        rintro e w3 ⟨p0, p1, p2, p3, rfl, hp, hv, hbl⟩
        have HP := Lib.hid (show val4 p0 p1 p2 p3 = kp F (A ^ 2 ^ (k + 1)) by rw [hv, HV.out, kp_times HF.out, kp_mod, pow_two_succ])
        have M4 := HM.out.on hbl
        have lt4 := M4.lt (b := w.heap.size) (c0 := r0) (c1 := r1) (c2 := r2) (c3 := r3) (by simp)
        have Rr := M4.row (b := w.heap.size) (c0 := r0) (c1 := r1) (c2 := r2) (c3 := r3) (by simp)
        have M5 := Lib.hid (M4.put p0 p1 p2 p3 (by omega) (by intro r hr; simp at hr; rcases hr with rfl; simp; omega))
        clear x0 x1 x2 x3 o0 o1 o2 o3 hv hbl M4 hE
        have x0 := Rr.c0; have x1 := Rr.c1; have x2 := Rr.c2; have x3 := Rr.c3; have xf := Rr.fr
        clear Rr
        go_wp2_with fail
        go_roundw
        case rel =>
          exact ⟨k + 1, p0, p1, p2, p3, by omega, by go_num, hp, HP, Lib.hid (fun j hj => by
            by_cases h : j = k
            · subst h; exact HN1.out
            · exact HN.out j (by omega)), M5⟩
        case measure => simp [intOf]; omega
      · rw [q] at hE hq
        have HN1 := Lib.hid (hq.1 rfl)
        clear q hq
        go_wp2_with fail
        go_ret
        exact ⟨k, rfl, by omega, HN.out, fun _ => HN1.out, HM.out.1⟩
    · obtain rfl : k = T := by omega
      go_wp2_with fail
      go_ret
      exact ⟨k, rfl, Nat.le_refl _, HN.out, fun h => absurd h (by omega), HM.out.1⟩
end Go.Proofs.Ytebaoemoeckgaaa
