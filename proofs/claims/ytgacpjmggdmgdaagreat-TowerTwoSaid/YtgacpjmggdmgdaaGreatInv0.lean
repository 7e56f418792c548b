/-
  Slices of elements that a call made: four cells an element.
-/
import Derived.Test.YtgacpjmggdmgdaaGreatLists
import Derived.Laws.MakeOwn
namespace Go.Proofs.YtgacpjmggdmgdaaGreat
set_option linter.unusedVariables false
set_option linter.unusedSimpArgs false
open Go.RowKit

theorem madeCells_get (n q : Nat) (h : q < n) : (madeCells #[.int .u64 0, .int .u64 0, .int .u64 0, .int .u64 0] n)[q]? = some (.int .u64 0) := by
  simp only [madeCells, Array.getElem?_map, Array.getElem?_range, h, if_true, Option.map_some]
  have : q % 4 < 4 := Nat.mod_lt _ (by omega)
  obtain ⟨r, hr⟩ : ∃ r, r = q % 4 := ⟨_, rfl⟩
  simp only [List.size_toArray, List.length_cons, List.length_nil, Nat.zero_add, Nat.reduceAdd, ← hr]
  rw [← hr] at this
  rcases (show r = 0 ∨ r = 1 ∨ r = 2 ∨ r = 3 by omega) with rfl | rfl | rfl | rfl <;> rfl

theorem kept_info : ∃ i : TypeInfo, Tryz.prog.info? 135 = some i ∧ i.zero = some (.agg #[.int .u64 0, .int .u64 0, .int .u64 0, .int .u64 0]) ∧ i.size = 4 ∧ i.bytes = 32 := by
  have h : (Tryz.prog.info? 135).map (fun i => (i.zero, i.size, i.bytes)) = some (some (.agg #[.int .u64 0, .int .u64 0, .int .u64 0, .int .u64 0]), 4, 32) := by kernel_rfl
  match hi : Tryz.prog.info? 135 with
  | none => rw [hi] at h; cases h
  | some i =>
    rw [hi] at h
    simp only [Option.map_some, Option.some.injEq, Prod.mk.injEq] at h
    exact ⟨i, rfl, h.1, h.2.1, h.2.2⟩
theorem fe_info : ∃ i : TypeInfo, Tryz.prog.info? 24 = some i ∧ i.zero = some (.agg #[.int .u64 0, .int .u64 0, .int .u64 0, .int .u64 0]) ∧ i.size = 4 ∧ i.bytes = 32 := by
  have h : (Tryz.prog.info? 24).map (fun i => (i.zero, i.size, i.bytes)) = some (some (.agg #[.int .u64 0, .int .u64 0, .int .u64 0, .int .u64 0]), 4, 32) := by kernel_rfl
  match hi : Tryz.prog.info? 24 with
  | none => rw [hi] at h; cases h
  | some i =>
    rw [hi] at h
    simp only [Option.map_some, Option.some.injEq, Prod.mk.injEq] at h
    exact ⟨i, rfl, h.1, h.2.1, h.2.2⟩

theorem made_row (n : Nat) (t : TypeId) (w : World) (b : Nat) (hb : b = w.heap.size) : RowIs (w.alloc (.cells (madeCells #[.int .u64 0, .int .u64 0, .int .u64 0, .int .u64 0] n) t)) b n (fun _ => 0) := fun k hk => by
  subst hb
  refine ⟨?_, World.frozen?_alloc_new _ _ _ _⟩
  rw [World.cell?_alloc_new]
  exact madeCells_get n k hk

theorem makeF (n : Nat) (hn : n ≤ 65536) : ∃ o : Obj, (∀ w, (Instr.makeSlice 131 (.int .i64 n) (.int .i64 n)).run Tryz.prog w = .ok (.slice (some ⟨w.heap.size, 0, none⟩) n n) (w.alloc o)) ∧ (∀ (w : World) (b : Nat), b = w.heap.size → RowIs (w.alloc o) b (n * 4) (fun _ => 0)) := by
  obtain ⟨i, hi, hz, hs, hb⟩ := fe_info
  refine ⟨.cells (madeCells #[.int .u64 0, .int .u64 0, .int .u64 0, .int .u64 0] (n * 4)) 24, fun w => ?_, fun w b hb => made_row _ _ w b hb⟩
  have h := run_make (P := Tryz.prog) w 131 24 i _ (by kernel_rfl) hi hz .i64 .i64 n n (by omega) (Int.le_refl _) (by rw [hb]; omega) (by omega)
  rw [hs] at h
  simpa only [Int.toNat_natCast, Value.cells] using h
end Go.Proofs.YtgacpjmggdmgdaaGreat
