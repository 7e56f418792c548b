/-
  The calls of the reference's put, Len, Shl and Shr, bit by bit: for any number of four words and any number of bits, in any world. Conditions: each word below 2^64; a bit that is put was not there.
-/
import Derived.Test.YtgacpjmggdmgdaaGreatBits
import Derived.RegionTactic
namespace Go.Proofs.YtgacpjmggdmgdaaGreat
set_option linter.unusedVariables false
set_option linter.unusedSimpArgs false
open Go.RowKit

def NumPost (n : Nat) (w : World) (e : Ending) (w' : World) : Prop :=
  ∃ s0 s1 s2 s3 : Nat, e = .returned (.agg #[.int .u64 s0, .int .u64 s1, .int .u64 s2, .int .u64 s3]) ∧ ok4 s0 s1 s2 s3 ∧ val4 s0 s1 s2 s3 = n ∧ Below w.heap.size w w'
theorem upd4 (a0 a1 a2 a3 j s : Nat) (hj : j < 4) : ∃ s0 s1 s2 s3 : Nat, upd (fnOf [a0, a1, a2, a3]) j s = fnOf [s0, s1, s2, s3] ∧ [Value.int .u64 a0, .int .u64 a1, .int .u64 a2, .int .u64 a3].set j (.int .u64 s) = [.int .u64 s0, .int .u64 s1, .int .u64 s2, .int .u64 s3] := by
  match j, hj with
  | 0, _ => exact ⟨s, a1, a2, a3, by funext k; unfold upd fnOf; match k with | 0 | 1 | 2 | 3 => rfl | k + 4 => simp, rfl⟩
  | 1, _ => exact ⟨a0, s, a2, a3, by funext k; unfold upd fnOf; match k with | 0 | 1 | 2 | 3 => rfl | k + 4 => simp, rfl⟩
  | 2, _ => exact ⟨a0, a1, s, a3, by funext k; unfold upd fnOf; match k with | 0 | 1 | 2 | 3 => rfl | k + 4 => simp, rfl⟩
  | 3, _ => exact ⟨a0, a1, a2, s, by funext k; unfold upd fnOf; match k with | 0 | 1 | 2 | 3 => rfl | k + 4 => simp, rfl⟩
theorem RowIs.row4 {w : World} {b c0 c1 c2 c3 : Nat} (h : RowIs w b 4 (fnOf [c0, c1, c2, c3])) (hf : ∀ k, w.frozen? ⟨b, k, none⟩ = false) : Row4 w b c0 c1 c2 c3 :=
  ⟨h.cell (by omega), h.cell (by omega), h.cell (by omega), h.cell (by omega), hf⟩

set_option maxHeartbeats 1000000 in
theorem put_calls (a0 a1 a2 a3 i : Nat) (ha : ok4 a0 a1 a2 a3) (hi : i < 256) (h0 : bitOf (val4 a0 a1 a2 a3) i = 0) (w : World) :
    Calls Tryz.prog 155 #[.agg #[.int .u64 a0, .int .u64 a1, .int .u64 a2, .int .u64 a3], .int .i64 i] w (NumPost (val4 a0 a1 a2 a3 + 2 ^ i) w) := by
  obtain ⟨j, k, q, r, hj, hk, e⟩ := ex_ix hi
  have hc := new_cell w 50 a0 a1 a2 a3 j hj
  have hx := fn4_lt ha j
  obtain ⟨t, s, e1, e2, ht, hs, es⟩ := ex_put hx hk ((bit_fn ha hj hk e.out).trans h0)
  have hW := fn4_lt ha
  obtain ⟨s0, s1, s2, s3, eu, el⟩ := upd4 a0 a1 a2 a3 j s hj
  have HV : Hid (val4 s0 s1 s2 s3 = val4 a0 a1 a2 a3 + 2 ^ i) := Lib.hid (by
    rw [val4_fn, val4_fn a0, ← eu, es.out, tot_put_bit hj, ← e.out])
  have HO : Hid (ok4 s0 s1 s2 s3) := Lib.hid (by
    have hl : ∀ m, fnOf [s0, s1, s2, s3] m < 18446744073709551616 := fun m => by
      rw [← eu]; unfold upd; split
      · exact hs
      · exact hW m
    exact ⟨hl 0, hl 1, hl 2, hl 3⟩)
  clear eu es hW h0
  have hg : (#[Value.int .u64 a0, .int .u64 a1, .int .u64 a2, .int .u64 a3] : Array Value)[j]'(by simp; omega) = .int .u64 (fnOf [a0, a1, a2, a3] j : Nat) := by
    match j, hj with
    | 0, _ | 1, _ | 2, _ | 3, _ => rfl
  generalize fnOf [a0, a1, a2, a3] j = x at hc hx e1 e2 hg
  clear hc
  have Hj := Lib.hid hj
  go_enter Tryz.func155, Tryz.ntmps155
  go_wp2_with fail
  go_region
  go_wp2_with fail
  refine bodyPost_ret (v := .agg #[.int .u64 s0, .int .u64 s1, .int .u64 s2, .int .u64 s3]) (by simp [results, Tryz.results155, go_sem, *]) rfl ?_
  exact ⟨s0, s1, s2, s3, rfl, HO.out, HV.out, (((Below.refl _ _).alloc (Nat.le_refl _) _).alloc (by simp) _).drew⟩
end Go.Proofs.YtgacpjmggdmgdaaGreat
