/-
  Memory through a row of calls: the rows of words that were laid, and that nothing older is changed. Of whatever program. Conditions: none.
-/
import Derived.Test.YtgacpjmggdmgdaaGreatRow
namespace Go.Proofs.YtgacpjmggdmgdaaGreat
set_option linter.unusedVariables false
set_option linter.unusedSimpArgs false
open Go.RowKit

/-- what was laid since w, told row by row -/
def Mem (w wr : World) (rs : List (Nat × Nat × Nat × Nat × Nat)) : Prop :=
  Below w.heap.size w wr ∧ ∀ r, r ∈ rs → r.1 < wr.heap.size ∧ Row4 wr r.1 r.2.1 r.2.2.1 r.2.2.2.1 r.2.2.2.2
theorem Mem.nil (w : World) : Mem w w [] := ⟨Below.refl _ _, fun _ h => by cases h⟩
theorem Mem.on {w wr w' : World} {rs : List (Nat × Nat × Nat × Nat × Nat)} (h : Mem w wr rs) (hb : Below wr.heap.size wr w') : Mem w w' rs :=
  ⟨h.1.trans (hb.mono h.1.size), fun r hr => ⟨Nat.lt_of_lt_of_le (h.2 r hr).1 hb.size, (h.2 r hr).2.below hb (h.2 r hr).1⟩⟩
theorem Mem.drewN {w wr : World} {rs : List (Nat × Nat × Nat × Nat × Nat)} (h : Mem w wr rs) (n : Nat) : Mem w (wr.drewN n) rs := h.on (below_drewN' _ _ n)
theorem Mem.new {w wr : World} {rs : List (Nat × Nat × Nat × Nat × Nat)} (h : Mem w wr rs) (b c0 c1 c2 c3 : Nat) (t : TypeId) (hb : b = wr.heap.size) :
    Mem w (wr.alloc (.cells #[.int .u64 c0, .int .u64 c1, .int .u64 c2, .int .u64 c3] t)) ((b, c0, c1, c2, c3) :: rs) := by
  subst hb
  have hB : Below wr.heap.size wr (wr.alloc (.cells #[.int .u64 c0, .int .u64 c1, .int .u64 c2, .int .u64 c3] t)) := (Below.refl _ _).alloc (Nat.le_refl _) _
  refine ⟨(h.on hB).1, fun r hr => ?_⟩
  rcases List.mem_cons.1 hr with e | hr
  · rw [e]
    exact ⟨by simp, Row4.new wr c0 c1 c2 c3 t⟩
  · exact (h.on hB).2 r hr
theorem Mem.get {w wr : World} {rs : List (Nat × Nat × Nat × Nat × Nat)} (h : Mem w wr rs) {b c0 c1 c2 c3 : Nat} (hm : (b, c0, c1, c2, c3) ∈ rs) : b < wr.heap.size ∧ Row4 wr b c0 c1 c2 c3 := h.2 _ hm
theorem Mem.sub {w wr : World} {rs rs' : List (Nat × Nat × Nat × Nat × Nat)} (h : Mem w wr rs) (hs : ∀ r, r ∈ rs' → r ∈ rs) : Mem w wr rs' := ⟨h.1, fun r hr => h.2 r (hs r hr)⟩
/-- a row written anew -/
theorem Mem.put {w wr : World} {rs : List (Nat × Nat × Nat × Nat × Nat)} {b c0 c1 c2 c3 : Nat} (h : Mem w wr ((b, c0, c1, c2, c3) :: rs)) (d0 d1 d2 d3 : Nat) (hw : w.heap.size ≤ b) (hne : ∀ r, r ∈ rs → r.1 ≠ b) :
    Mem w (set4 wr b d0 d1 d2 d3) ((b, d0, d1, d2, d3) :: rs) := by
  refine ⟨below_set4 h.1 hw _ _ _ _, fun r hr => ?_⟩
  have hs : (set4 wr b d0 d1 d2 d3).heap.size = wr.heap.size := by unfold set4; simp only [World.size_setCell]
  rcases List.mem_cons.1 hr with e | hr
  · rw [e]
    exact ⟨by rw [hs]; exact (h.2 _ List.mem_cons_self).1, (h.2 _ List.mem_cons_self).2.set4 _ _ _ _⟩
  · exact ⟨by rw [hs]; exact (h.2 r (List.mem_cons_of_mem _ hr)).1, (h.2 r (List.mem_cons_of_mem _ hr)).2.set4_other (fun e => hne r hr e.symm) _ _ _ _⟩
end Go.Proofs.YtgacpjmggdmgdaaGreat
