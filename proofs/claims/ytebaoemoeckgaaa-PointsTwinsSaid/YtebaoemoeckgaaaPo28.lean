/-
  An argument that is a point is opened: it lies flat, its numbers' words. Conditions: none of its own.
-/
import Derived.Test.YtebaoemoeckgaaaPo27
import Derived.Test.YtebaoemoeckgaaaPo22
namespace Go.Proofs.Ytebaoemoeckgaaa.Ex
set_option linter.unusedVariables false
set_option linter.unusedSimpArgs false
open Go.Deep Go.ChangeShapes Go.WideShapes Go.ChangeAt Go.RowKit
section
variable {H : Type} {enc : TypeId × Value → H} {W : World}
theorem cG1 : Try.prog.cellsOf 26 = 9 := by kernel_rfl
theorem cBo : Try.prog.cellsOf 4 = 1 := by kernel_rfl
theorem split3 {α : Type} (a b : Nat) (cs : List α) (h : cs.length = a + b + 1) : cs = cs.take a ++ ((cs.drop a).take b ++ (cs.drop (a + b)).take 1) := by
  have e : (cs.drop (a + b)).take 1 = cs.drop (a + b) := List.take_of_length_le (by simp [h])
  rw [e, ← List.drop_drop, List.take_append_drop, List.take_append_drop]
theorem op_g1 {fuel : Nat} {cs : List Value} {x : DataW H × List MemPlace} (h : DataW.trod enc Try.prog W 0 (fun _ => true) true fuel 26 cs = some x) : ∃ n : G1N, cs = flat (gq1 n) := by
  obtain ⟨y0, y1, y2, n, _, hl, h0, h1, h2⟩ := trod_struct3 Try.underlying26 h
  rw [cG1] at hl
  simp only [c24, cBo] at h0 h1 h2
  obtain ⟨a, ha⟩ := op_fe (by simp [hl]) h0
  obtain ⟨b, hb⟩ := op_fe (by simp [hl]) h1
  obtain ⟨c, hc, _⟩ := DataW.trod_bool Try.underlying4 h2
  refine ⟨(a, b, c), ?_⟩
  rw [split3 4 4 cs hl, ← List.drop_zero (l := cs.take 4)]
  have e : flat (gq1 (a, b, c)) = flat (q1 a) ++ (flat (q1 b) ++ [.bool c]) := by
    show w4 a ++ (w4 b ++ _) = (w4 a ++ []) ++ ((w4 b ++ []) ++ _)
    rw [List.append_nil, List.append_nil]
    rfl
  rw [e]
  rw [List.drop_zero] at ha
  have ha' : cs.take 4 = flat (q1 a) := ha.trans (by first | rfl | simp)
  have hb' : (cs.drop 4).take 4 = flat (q1 b) := hb.trans (by first | rfl | simp)
  have hc' : (cs.drop (4 + 4)).take 1 = [.bool c] := hc
  rw [List.drop_zero, ha', hb', hc']
set_option maxRecDepth 100000 in
theorem open_g1 {base : Nat} {v : Value} {d : DataW H} {ps : List MemPlace} {pt : Array TypeId} {args : Array Value} (hval : ∀ (j : Nat) t v, pt[j]? = some t → args[j]? = some v → Value.okWide Try.prog W .any base t v) (j : Nat) (hj : pt[j]? = some 26) (ha : args[j]? = some v)
    (h : DataW.Trod enc Try.prog W 0 (fun _ => true) true 26 v d ps) : ∃ x : G1N, v = .agg (flat (gq1 x)).toArray := by
  have hv := hval j 26 v hj ha
  obtain ⟨cs, rfl⟩ := agg_of (t := 26) Try.underlying26 hv
  obtain ⟨fuel, hf⟩ := h
  obtain ⟨l⟩ := cs
  obtain ⟨x, hx⟩ := op_g1 hf
  subst hx
  exact ⟨x, rfl⟩
end
end Go.Proofs.Ytebaoemoeckgaaa.Ex
