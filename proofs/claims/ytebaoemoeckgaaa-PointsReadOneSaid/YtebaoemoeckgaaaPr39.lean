/-
  An argument that is an element of the tower is opened: it lies flat, its numbers' words. Conditions: none of its own.
  An argument that is a point is opened: it lies flat, its numbers' words. Conditions: none of its own.
-/
import Derived.Deep.Strs
import Derived.Test.YtebaoemoeckgaaaPr38
import Derived.Test.YtebaoemoeckgaaaPr09
import Derived.Test.YtebaoemoeckgaaaPr29
namespace Go.Proofs.Ytebaoemoeckgaaa.Ex
set_option linter.unusedVariables false
set_option linter.unusedSimpArgs false
open Go.Deep Go.ChangeShapes Go.WideShapes Go.ChangeAt Go.RowKit

theorem agg_of {P : Program} {W : World} {base : Nat} {t : TypeId} {fs : Array Field} {v : Value} (ht : P.underlying t = some (.struct fs)) (h : Value.okWide P W .any base t v) : ∃ cs, v = .agg cs := by
  obtain ⟨cs, rfl, _⟩ : ∃ cs, v = .agg cs ∧ cs.size = P.cellsOf t ∧ Row.okWide P W .any base t cs := by
    simpa [Value.okWide, ht] using h
  exact ⟨cs, rfl⟩
theorem agg_ofA {P : Program} {W : World} {base : Nat} {t n e : TypeId} {v : Value} (ht : P.underlying t = some (.array n e)) (h : Value.okWide P W .any base t v) : ∃ cs, v = .agg cs := by
  obtain ⟨cs, rfl, _⟩ : ∃ cs, v = .agg cs ∧ cs.size = P.cellsOf t ∧ Row.okWide P W .any base t cs := by
    simpa [Value.okWide, ht] using h
  exact ⟨cs, rfl⟩
section
variable {H : Type} {enc : TypeId × Value → H} {W : World}
theorem c24 : Try.prog.cellsOf 24 = 4 := by kernel_rfl
theorem op_fe {fuel : Nat} {cs : List Value} {x : DataW H × List MemPlace} (hl : cs.length = 4) (h : DataW.trod enc Try.prog W 0 (fun _ => true) true fuel 24 cs = some x) : ∃ n : Nat, cs = flat (q1 n) := by
  obtain ⟨c0, c1, c2, c3, rfl⟩ := list4 cs hl
  obtain ⟨y0, y1, y2, y3, m, hx, hy0, hy1, hy2, hy3⟩ := trod_array4 Try.underlying24 u64_cells h
  obtain ⟨x0, e0, rfl, w0⟩ := DataW.trod_int Try.underlying22 hy0
  obtain ⟨x1, e1, rfl, w1⟩ := DataW.trod_int Try.underlying22 hy1
  obtain ⟨x2, e2, rfl, w2⟩ := DataW.trod_int Try.underlying22 hy2
  obtain ⟨x3, e3, rfl, w3⟩ := DataW.trod_int Try.underlying22 hy3
  simp at e0 e1 e2 e3
  obtain ⟨a0, rfl, k0⟩ := nat_of_wf w0
  obtain ⟨a1, rfl, k1⟩ := nat_of_wf w1
  obtain ⟨a2, rfl, k2⟩ := nat_of_wf w2
  obtain ⟨a3, rfl, k3⟩ := nat_of_wf w3
  subst e0 e1 e2 e3
  have hv : val4 a0 a1 a2 a3 < 115792089237316195423570985008687907853269984665640564039457584007913129639936 := by unfold val4; omega
  obtain ⟨q0, q1', q2', q3⟩ := fw_of ⟨k0, k1, k2, k3⟩ hv rfl
  refine ⟨val4 a0 a1 a2 a3, ?_⟩
  show _ = w4 (val4 a0 a1 a2 a3)
  unfold w4
  rw [← q0, ← q1', ← q2', ← q3]
theorem op_w {fuel : Nat} {cs : List Value} {x : DataW H × List MemPlace} (hl : cs.length = 4) (h : DataW.trod enc Try.prog W 0 (fun _ => true) true fuel 45 cs = some x) : ∃ n : Nat, cs = flat (q1 n) := by
  obtain ⟨c0, c1, c2, c3, rfl⟩ := list4 cs hl
  obtain ⟨y0, y1, y2, y3, m, hx, hy0, hy1, hy2, hy3⟩ := trod_array4 Try.underlying45 u64_cells h
  obtain ⟨x0, e0, rfl, w0⟩ := DataW.trod_int Try.underlying22 hy0
  obtain ⟨x1, e1, rfl, w1⟩ := DataW.trod_int Try.underlying22 hy1
  obtain ⟨x2, e2, rfl, w2⟩ := DataW.trod_int Try.underlying22 hy2
  obtain ⟨x3, e3, rfl, w3⟩ := DataW.trod_int Try.underlying22 hy3
  simp at e0 e1 e2 e3
  obtain ⟨a0, rfl, k0⟩ := nat_of_wf w0
  obtain ⟨a1, rfl, k1⟩ := nat_of_wf w1
  obtain ⟨a2, rfl, k2⟩ := nat_of_wf w2
  obtain ⟨a3, rfl, k3⟩ := nat_of_wf w3
  subst e0 e1 e2 e3
  have hv : val4 a0 a1 a2 a3 < 115792089237316195423570985008687907853269984665640564039457584007913129639936 := by unfold val4; omega
  obtain ⟨q0, q1', q2', q3⟩ := fw_of ⟨k0, k1, k2, k3⟩ hv rfl
  refine ⟨val4 a0 a1 a2 a3, ?_⟩
  show _ = w4 (val4 a0 a1 a2 a3)
  unfold w4
  rw [← q0, ← q1', ← q2', ← q3]
set_option maxRecDepth 100000 in
theorem open_w {base : Nat} {v : Value} {d : DataW H} {ps : List MemPlace} {pt : Array TypeId} {args : Array Value} (hval : ∀ (j : Nat) t v, pt[j]? = some t → args[j]? = some v → Value.okWide Try.prog W .any base t v) (j : Nat) (hj : pt[j]? = some 45) (ha : args[j]? = some v)
    (h : DataW.Trod enc Try.prog W 0 (fun _ => true) true 45 v d ps) : ∃ x : Nat, v = .agg (flat (q1 x)).toArray := by
  have hv := hval j 45 v hj ha
  obtain ⟨cs, rfl⟩ := agg_ofA (t := 45) Try.underlying45 hv
  obtain ⟨fuel, hf⟩ := h
  obtain ⟨l⟩ := cs
  have hl : l.length = 4 := by
    obtain ⟨cs', e, hs, _⟩ : ∃ cs, Value.agg ⟨l⟩ = .agg cs ∧ cs.size = Try.prog.cellsOf 45 ∧ Row.okWide Try.prog W .any base 45 cs := by
      simpa [Value.okWide, Try.underlying45] using hv
    cases e
    rw [show Try.prog.cellsOf 45 = 4 by kernel_rfl] at hs
    exact hs
  obtain ⟨x, hx⟩ := op_w hl hf
  subst hx
  exact ⟨x, rfl⟩
end
end Go.Proofs.Ytebaoemoeckgaaa.Ex
namespace Go.Proofs.Ytebaoemoeckgaaa.Ex
set_option linter.unusedVariables false
set_option linter.unusedSimpArgs false
open Go.Deep Go.ChangeShapes Go.WideShapes Go.ChangeAt Go.RowKit
section
variable {H : Type} {enc : TypeId × Value → H} {W : World}
theorem cG1 : Try.prog.cellsOf 26 = 9 := by kernel_rfl
theorem cBo : Try.prog.cellsOf 4 = 1 := by kernel_rfl
theorem split3 {α : Type} (a b : Nat) (cs : List α) (h : cs.length = a + b + 1) : cs = cs.take a ++ ((cs.drop a).take b ++ (cs.drop (a + b)).take 1) := by
  have e : (cs.drop (a + b)).take 1 = cs.drop (a + b) := List.take_of_length_le (by simp [h])
  rw [e, ← List.drop_drop, List.take_append_drop, List.take_append_drop]
theorem op_g1 {fuel : Nat} {cs : List Value} {x : DataW H × List MemPlace} (h : DataW.trod enc Try.prog W 0 (fun _ => true) true fuel 26 cs = some x) : ∃ n : G1N, cs = flat (gq1 n) := by
  obtain ⟨y0, y1, y2, n, _, hl, h0, h1, h2⟩ := trod_struct3 Try.underlying26 h
  rw [cG1] at hl
  simp only [c24, cBo] at h0 h1 h2
  obtain ⟨a, ha⟩ := op_fe (by simp [hl]) h0
  obtain ⟨b, hb⟩ := op_fe (by simp [hl]) h1
  obtain ⟨c, hc, _⟩ := DataW.trod_bool Try.underlying4 h2
  refine ⟨(a, b, c), ?_⟩
  rw [split3 4 4 cs hl, ← List.drop_zero (l := cs.take 4)]
  have e : flat (gq1 (a, b, c)) = flat (q1 a) ++ (flat (q1 b) ++ [.bool c]) := by
    show w4 a ++ (w4 b ++ _) = (w4 a ++ []) ++ ((w4 b ++ []) ++ _)
    rw [List.append_nil, List.append_nil]
    rfl
  rw [e]
  rw [List.drop_zero] at ha
  have ha' : cs.take 4 = flat (q1 a) := ha.trans (by first | rfl | simp)
  have hb' : (cs.drop 4).take 4 = flat (q1 b) := hb.trans (by first | rfl | simp)
  have hc' : (cs.drop (4 + 4)).take 1 = [.bool c] := hc
  rw [List.drop_zero, ha', hb', hc']
set_option maxRecDepth 100000 in
theorem open_g1 {base : Nat} {v : Value} {d : DataW H} {ps : List MemPlace} {pt : Array TypeId} {args : Array Value} (hval : ∀ (j : Nat) t v, pt[j]? = some t → args[j]? = some v → Value.okWide Try.prog W .any base t v) (j : Nat) (hj : pt[j]? = some 26) (ha : args[j]? = some v)
    (h : DataW.Trod enc Try.prog W 0 (fun _ => true) true 26 v d ps) : ∃ x : G1N, v = .agg (flat (gq1 x)).toArray := by
  have hv := hval j 26 v hj ha
  obtain ⟨cs, rfl⟩ := agg_of (t := 26) Try.underlying26 hv
  obtain ⟨fuel, hf⟩ := h
  obtain ⟨l⟩ := cs
  obtain ⟨x, hx⟩ := op_g1 hf
  subst hx
  exact ⟨x, rfl⟩
end
end Go.Proofs.Ytebaoemoeckgaaa.Ex
