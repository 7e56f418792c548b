/-
  An argument that is a slice of bytes is opened: too short or too long, or 32 bytes. Conditions: none of its own.
-/
import Derived.Test.YtkklbhgneidbbaaFBack
import Derived.Test.YtkklbhgneidbbaaProofF
namespace Go.Proofs.Ytkklbhgneidbbaa
set_option linter.unusedVariables false
open Go.ChangeShapes Go.WideShapes Go.ChangeAt Go.RowKit

theorem u8_cells : Try.prog.cellsOf 5 = 1 := by kernel_rfl
theorem open_bytes {H : Type} {enc : TypeId × Value → H} {W : World} {o : Option Addr} {len cap : Nat} {d : DataW H} {ps : List MemPlace} (h : DataW.Trod enc Try.prog W 0 (fun _ => true) true 52 (.slice o len cap) d ps) (hl : ∀ x ∈ ps, x.block < W.heap.size) : BytesAre W (.slice o len cap) := by
  obtain ⟨fuel, hf⟩ := h
  rcases open_ints Try.underlying52 Try.underlying5 u8_cells hf with ⟨hcs, hx⟩ | ⟨a, len', cap', zs, hcs, _, hl', hm, hz, hx, hcell, hwz⟩
  · simp [Value.cells] at hcs
    obtain ⟨rfl, rfl, rfl⟩ := hcs
    exact .short none 0 0 (by omega) (by omega)
  · simp [Value.cells] at hcs
    obtain ⟨rfl, rfl, rfl⟩ := hcs
    simp only [Prod.mk.injEq] at hx
    obtain ⟨rfl, rfl⟩ := hx
    simp only [if_true] at hz
    by_cases h32 : len = 32
    · subst h32
      obtain ⟨b, off, spot⟩ := a
      have hspot : spot = none := by simpa [Addr.add] using World.cell?_spot (hcell 0 (by omega))
      subst hspot
      have hb : b < W.heap.size := hl (.cell b off) (MemPlace.mem_row.2 ⟨0, by omega, by simp⟩)
      have hB : ∀ k, ∃ n : Nat, n < 256 ∧ zs.getD k 0 = (n : Int) := fun k => by
        by_cases hk : k < zs.length
        · have h1 := bounds_u8 (hwz (zs[k]) (List.getElem_mem hk))
          refine ⟨(zs[k]).toNat, by omega, ?_⟩
          rw [List.getD_eq_getElem?_getD, List.getElem?_eq_getElem hk]
          show zs[k] = _
          omega
        · exact ⟨0, by omega, by rw [List.getD_eq_getElem?_getD, List.getElem?_eq_none (by omega)]; rfl⟩
      refine .full b off cap (fun k => Classical.choose (hB k)) (fun k => (Classical.choose_spec (hB k)).1) hb (fun k hk => ?_)
      rw [← (Classical.choose_spec (hB k)).2, ← add_plain]
      exact hcell k (by omega)
    · exact .short (some a) len cap h32 (by unfold maxLen at hm; omega)

end Go.Proofs.Ytkklbhgneidbbaa
