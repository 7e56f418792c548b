/-
  An argument that is a list of elements is opened: none, or elements laid in memory; an argument that is a slice of bytes too. Conditions: none of its own.
-/
import Derived.Test.YtalddekocfkbhaaLists
import Derived.Test.YtalddekocfkbhaaProofF
import Derived.Deep.Slices
namespace Go.Proofs.Ytalddekocfkbhaa
set_option linter.unusedVariables false
open Go.ChangeShapes Go.WideShapes Go.ChangeAt Go.RowKit

theorem fe_cellsL : Try.prog.cellsOf 25 = 4 := by kernel_rfl
theorem u64_cellsL : Try.prog.cellsOf 23 = 1 := by kernel_rfl
theorem list4L (cs : List Value) (h : cs.length = 4) : ∃ c0 c1 c2 c3, cs = [c0, c1, c2, c3] := by
  match cs, h with
  | [c0, c1, c2, c3], _ => exact ⟨c0, c1, c2, c3, rfl⟩
theorem open_fes {H : Type} {enc : TypeId × Value → H} {W : World} {o : Option Addr} {len cap : Nat} {d : DataW H} {ps : List MemPlace} (h : DataW.Trod enc Try.prog W 0 (fun _ => true) true 57 (.slice o len cap) d ps) (hl : ∀ x ∈ ps, x.block < W.heap.size) :
    len ≤ 9223372036854775807 ∧ (len = 0 ∨ (0 < len ∧ ∃ g off A, o = some ⟨g, off, none⟩ ∧ g < W.heap.size ∧ LOk len A ∧ LAt W g off len A)) := by
  obtain ⟨fuel, hf⟩ := h
  rcases DataW.trod_slice Try.underlying57 hf with ⟨hcs, _⟩ | ⟨a, len', cap', elems, rest, n, _, hcs, hx, hb, hlc, hm, hlen, hel, _⟩
  · simp [Value.cells] at hcs
    obtain ⟨rfl, rfl, rfl⟩ := hcs
    exact ⟨by omega, Or.inl rfl⟩
  · simp [Value.cells] at hcs
    obtain ⟨rfl, rfl, rfl⟩ := hcs
    refine ⟨by unfold maxLen at hm; omega, ?_⟩
    by_cases h0 : len = 0
    · exact Or.inl h0
    right
    refine ⟨by omega, ?_⟩
    rw [fe_cellsL] at hel
    have each : ∀ i, i < len → ∃ q : Nat × Nat × Nat × Nat, ok4 q.1 q.2.1 q.2.2.1 q.2.2.2 ∧ W.cell? (a.add (i * 4)) = some (.int .u64 q.1) ∧ W.cell? (a.add (i * 4 + 1)) = some (.int .u64 q.2.1) ∧ W.cell? (a.add (i * 4 + 2)) = some (.int .u64 q.2.2.1) ∧ W.cell? (a.add (i * 4 + 3)) = some (.int .u64 q.2.2.2) := by
      intro i hi
      have e1 := hel i hi
      rw [List.getElem?_eq_getElem (by omega), Option.bind_eq_some_iff] at e1
      obtain ⟨cs', h1, h2⟩ := e1
      obtain ⟨_, hlen', hcell⟩ := World.cells?_some h1
      obtain ⟨c0, c1, c2, c3, rfl⟩ := list4L cs' hlen'
      obtain ⟨y0, y1, y2, y3, m, _, hy0, hy1, hy2, hy3⟩ := trod_array4 Try.underlying25 u64_cellsL h2
      obtain ⟨x0, e0, _, w0⟩ := DataW.trod_int Try.underlying23 hy0
      obtain ⟨x1, e1, _, w1⟩ := DataW.trod_int Try.underlying23 hy1
      obtain ⟨x2, e2, _, w2⟩ := DataW.trod_int Try.underlying23 hy2
      obtain ⟨x3, e3, _, w3⟩ := DataW.trod_int Try.underlying23 hy3
      simp at e0 e1 e2 e3
      subst e0 e1 e2 e3
      obtain ⟨a0, rfl, k0⟩ := nat_of_wf w0
      obtain ⟨a1, rfl, k1⟩ := nat_of_wf w1
      obtain ⟨a2, rfl, k2⟩ := nat_of_wf w2
      obtain ⟨a3, rfl, k3⟩ := nat_of_wf w3
      have g0 := hcell 0 (by omega)
      have g1 := hcell 1 (by omega)
      have g2 := hcell 2 (by omega)
      have g3 := hcell 3 (by omega)
      rw [Go.Deep.add_add] at g0 g1 g2 g3
      exact ⟨(a0, a1, a2, a3), ⟨k0, k1, k2, k3⟩, by simpa using g0, by simpa using g1, by simpa using g2, by simpa using g3⟩
    obtain ⟨g, off, spot⟩ := a
    obtain ⟨q0, _, hq0, _⟩ := each 0 (by omega)
    have hspot : spot = none := by simpa [Addr.add] using World.cell?_spot hq0
    subst hspot
    have hg : g < W.heap.size := hl (.cell g off) (by
      have := congrArg Prod.snd hx
      simp only at this
      rw [this]
      refine List.mem_append_left _ (MemPlace.mem_row.2 ⟨0, ?_, by simp⟩)
      rw [fe_cellsL, hlen]
      omega)
    have each' : ∀ i, ∃ q : Nat × Nat × Nat × Nat, i < len → ok4 q.1 q.2.1 q.2.2.1 q.2.2.2 ∧ W.cell? ⟨g, off + i * 4, none⟩ = some (.int .u64 q.1) ∧ W.cell? ⟨g, off + i * 4 + 1, none⟩ = some (.int .u64 q.2.1) ∧ W.cell? ⟨g, off + i * 4 + 2, none⟩ = some (.int .u64 q.2.2.1) ∧ W.cell? ⟨g, off + i * 4 + 3, none⟩ = some (.int .u64 q.2.2.2) := fun i => by
      by_cases hi : i < len
      · obtain ⟨q, hq⟩ := each i hi
        refine ⟨q, fun _ => ?_⟩
        simp only [add_plain] at hq
        simpa [Nat.add_assoc] using hq
      · exact ⟨(0, 0, 0, 0), fun h => absurd h hi⟩
    refine ⟨g, off, fun i j => match j with | 0 => (Classical.choose (each' i)).1 | 1 => (Classical.choose (each' i)).2.1 | 2 => (Classical.choose (each' i)).2.2.1 | _ => (Classical.choose (each' i)).2.2.2, rfl, hg, fun k hk => (Classical.choose_spec (each' k) hk).1, fun k hk => (Classical.choose_spec (each' k) hk).2⟩
end Go.Proofs.Ytalddekocfkbhaa
