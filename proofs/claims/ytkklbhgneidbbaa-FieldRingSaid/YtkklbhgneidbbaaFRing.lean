/-
  THE STATEMENT FieldRing: for either field and any three elements, or none: sums and products commute and associate, products go over sums, negatives and inverses undo: the law answers true. Conditions: words below 2^64.
-/
import Derived.Test.YtkklbhgneidbbaaFRingZ
import Derived.Test.YtkklbhgneidbbaaFRingM
namespace Go.Proofs.Ytkklbhgneidbbaa
set_option linter.unusedVariables false
set_option linter.unusedSimpArgs false
open Go.RowKit

theorem ring_calls (f : Int) (a0 a1 a2 a3 b0 b1 b2 b3 c0 c1 c2 c3 : Nat) (ha : ok4 a0 a1 a2 a3) (hb : ok4 b0 b1 b2 b3) (hc : ok4 c0 c1 c2 c3) (w : World) :
    Calls Try.prog 7 #[.int .i64 f, .agg #[.int .u64 a0, .int .u64 a1, .int .u64 a2, .int .u64 a3], .agg #[.int .u64 b0, .int .u64 b1, .int .u64 b2, .int .u64 b3], .agg #[.int .u64 c0, .int .u64 c1, .int .u64 c2, .int .u64 c3]] w fun e w' => e = .returned (.bool true) ∧ Below w.heap.size w w' := by
  rcases all2 f (val4 a0 a1 a2 a3) (val4 b0 b1 b2 b3) with ⟨F, hf, la, lb⟩ | ⟨c, h⟩
  · rcases all2 f (val4 b0 b1 b2 b3) (val4 c0 c1 c2 c3) with ⟨G, hg, _, lc⟩ | ⟨c, h⟩
    · obtain rfl := hf.uniq hg
      by_cases hz : val4 a0 a1 a2 a3 = 0
      · exact ring_zero f a0 a1 a2 a3 b0 b1 b2 b3 c0 c1 c2 c3 ha hb hc F hf la lb lc hz w
      · exact ring_main f a0 a1 a2 a3 b0 b1 b2 b3 c0 c1 c2 c3 ha hb hc F hf la lb lc hz w
    · exact ring_bad2 f a0 a1 a2 a3 b0 b1 b2 b3 c0 c1 c2 c3 ha hb hc F hf la lb c h w
  · exact ring_bad1 f a0 a1 a2 a3 b0 b1 b2 b3 c0 c1 c2 c3 ha hb hc c h w
end Go.Proofs.Ytkklbhgneidbbaa
