/-
  An argument that is an element of the tower is opened: it lies flat, its numbers' words. Conditions: none of its own.
  An argument that is a point is opened: it lies flat, its numbers' words. Conditions: none of its own.
-/
import Derived.Deep.Strs
import Derived.Test.YthlcjdcjnioeoaaGreatCk32
import Derived.Test.YthlcjdcjnioeoaaGreatCk04
import Derived.Test.YthlcjdcjnioeoaaGreatCk23
namespace Go.Proofs.YthlcjdcjnioeoaaGreat.Ex
set_option linter.unusedVariables false
set_option linter.unusedSimpArgs false
open Go.Deep Go.ChangeShapes Go.WideShapes Go.ChangeAt Go.RowKit

theorem agg_of {P : Program} {W : World} {base : Nat} {t : TypeId} {fs : Array Field} {v : Value} (ht : P.underlying t = some (.struct fs)) (h : Value.okWide P W .any base t v) : ∃ cs, v = .agg cs := by
  obtain ⟨cs, rfl, _⟩ : ∃ cs, v = .agg cs ∧ cs.size = P.cellsOf t ∧ Row.okWide P W .any base t cs := by
    simpa [Value.okWide, ht] using h
  exact ⟨cs, rfl⟩
theorem agg_ofA {P : Program} {W : World} {base : Nat} {t n e : TypeId} {v : Value} (ht : P.underlying t = some (.array n e)) (h : Value.okWide P W .any base t v) : ∃ cs, v = .agg cs := by
  obtain ⟨cs, rfl, _⟩ : ∃ cs, v = .agg cs ∧ cs.size = P.cellsOf t ∧ Row.okWide P W .any base t cs := by
    simpa [Value.okWide, ht] using h
  exact ⟨cs, rfl⟩
section
variable {H : Type} {enc : TypeId × Value → H} {W : World}
theorem c24 : Tryz.prog.cellsOf 24 = 4 := by kernel_rfl
theorem c26 : Tryz.prog.cellsOf 43 = 8 := by kernel_rfl
theorem op_fe {fuel : Nat} {cs : List Value} {x : DataW H × List MemPlace} (hl : cs.length = 4) (h : DataW.trod enc Tryz.prog W 0 (fun _ => true) true fuel 24 cs = some x) : ∃ n : Nat, cs = flat (q1 n) := by
  obtain ⟨c0, c1, c2, c3, rfl⟩ := list4 cs hl
  obtain ⟨y0, y1, y2, y3, m, hx, hy0, hy1, hy2, hy3⟩ := trod_array4 Tryz.underlying24 u64_cells h
  obtain ⟨x0, e0, rfl, w0⟩ := DataW.trod_int Tryz.underlying22 hy0
  obtain ⟨x1, e1, rfl, w1⟩ := DataW.trod_int Tryz.underlying22 hy1
  obtain ⟨x2, e2, rfl, w2⟩ := DataW.trod_int Tryz.underlying22 hy2
  obtain ⟨x3, e3, rfl, w3⟩ := DataW.trod_int Tryz.underlying22 hy3
  simp at e0 e1 e2 e3
  obtain ⟨a0, rfl, k0⟩ := nat_of_wf w0
  obtain ⟨a1, rfl, k1⟩ := nat_of_wf w1
  obtain ⟨a2, rfl, k2⟩ := nat_of_wf w2
  obtain ⟨a3, rfl, k3⟩ := nat_of_wf w3
  subst e0 e1 e2 e3
  have hv : val4 a0 a1 a2 a3 < 115792089237316195423570985008687907853269984665640564039457584007913129639936 := by unfold val4; omega
  obtain ⟨q0, q1', q2', q3⟩ := fw_of ⟨k0, k1, k2, k3⟩ hv rfl
  refine ⟨val4 a0 a1 a2 a3, ?_⟩
  show _ = w4 (val4 a0 a1 a2 a3)
  unfold w4
  rw [← q0, ← q1', ← q2', ← q3]
theorem op_e2 {fuel : Nat} {cs : List Value} {x : DataW H × List MemPlace} (h : DataW.trod enc Tryz.prog W 0 (fun _ => true) true fuel 43 cs = some x) : ∃ n : N2, cs = flat (q2 n) := by
  obtain ⟨y0, y1, n, _, hl, h0, h1⟩ := trod_struct2 Tryz.underlying43 h
  rw [c26] at hl
  simp only [c24] at h0 h1
  obtain ⟨a, ha⟩ := op_fe (by simp [hl]) h0
  obtain ⟨b, hb⟩ := op_fe (by simp [hl]) h1
  refine ⟨(a, b), ?_⟩
  rw [List.drop_zero] at ha
  rw [List.take_of_length_le (by simp [hl])] at hb
  show cs = w4 a ++ (w4 b ++ [])
  rw [List.append_nil, ← List.take_append_drop 4 cs]
  congr 1
  all_goals first | exact ha.trans (List.append_nil _) | exact hb.trans (List.append_nil _)
theorem op_w {fuel : Nat} {cs : List Value} {x : DataW H × List MemPlace} (hl : cs.length = 4) (h : DataW.trod enc Tryz.prog W 0 (fun _ => true) true fuel 27 cs = some x) : ∃ n : Nat, cs = flat (q1 n) := by
  obtain ⟨c0, c1, c2, c3, rfl⟩ := list4 cs hl
  obtain ⟨y0, y1, y2, y3, m, hx, hy0, hy1, hy2, hy3⟩ := trod_array4 Tryz.underlying27 u64_cells h
  obtain ⟨x0, e0, rfl, w0⟩ := DataW.trod_int Tryz.underlying22 hy0
  obtain ⟨x1, e1, rfl, w1⟩ := DataW.trod_int Tryz.underlying22 hy1
  obtain ⟨x2, e2, rfl, w2⟩ := DataW.trod_int Tryz.underlying22 hy2
  obtain ⟨x3, e3, rfl, w3⟩ := DataW.trod_int Tryz.underlying22 hy3
  simp at e0 e1 e2 e3
  obtain ⟨a0, rfl, k0⟩ := nat_of_wf w0
  obtain ⟨a1, rfl, k1⟩ := nat_of_wf w1
  obtain ⟨a2, rfl, k2⟩ := nat_of_wf w2
  obtain ⟨a3, rfl, k3⟩ := nat_of_wf w3
  subst e0 e1 e2 e3
  have hv : val4 a0 a1 a2 a3 < 115792089237316195423570985008687907853269984665640564039457584007913129639936 := by unfold val4; omega
  obtain ⟨q0, q1', q2', q3⟩ := fw_of ⟨k0, k1, k2, k3⟩ hv rfl
  refine ⟨val4 a0 a1 a2 a3, ?_⟩
  show _ = w4 (val4 a0 a1 a2 a3)
  unfold w4
  rw [← q0, ← q1', ← q2', ← q3]
set_option maxRecDepth 100000 in
theorem open_w {base : Nat} {v : Value} {d : DataW H} {ps : List MemPlace} {pt : Array TypeId} {args : Array Value} (hval : ∀ (j : Nat) t v, pt[j]? = some t → args[j]? = some v → Value.okWide Tryz.prog W .any base t v) (j : Nat) (hj : pt[j]? = some 27) (ha : args[j]? = some v)
    (h : DataW.Trod enc Tryz.prog W 0 (fun _ => true) true 27 v d ps) : ∃ x : Nat, v = .agg (flat (q1 x)).toArray := by
  have hv := hval j 27 v hj ha
  obtain ⟨cs, rfl⟩ := agg_ofA (t := 27) Tryz.underlying27 hv
  obtain ⟨fuel, hf⟩ := h
  obtain ⟨l⟩ := cs
  have hl : l.length = 4 := by
    obtain ⟨cs', e, hs, _⟩ : ∃ cs, Value.agg ⟨l⟩ = .agg cs ∧ cs.size = Tryz.prog.cellsOf 27 ∧ Row.okWide Tryz.prog W .any base 27 cs := by
      simpa [Value.okWide, Tryz.underlying27] using hv
    cases e
    rw [show Tryz.prog.cellsOf 27 = 4 by kernel_rfl] at hs
    exact hs
  obtain ⟨x, hx⟩ := op_w hl hf
  subst hx
  exact ⟨x, rfl⟩
end
end Go.Proofs.YthlcjdcjnioeoaaGreat.Ex
namespace Go.Proofs.YthlcjdcjnioeoaaGreat.Ex
set_option linter.unusedVariables false
set_option linter.unusedSimpArgs false
open Go.Deep Go.ChangeShapes Go.WideShapes Go.ChangeAt Go.RowKit
section
variable {H : Type} {enc : TypeId × Value → H} {W : World}
theorem cG2 : Tryz.prog.cellsOf 45 = 17 := by kernel_rfl
theorem cBo : Tryz.prog.cellsOf 4 = 1 := by kernel_rfl
theorem split3 {α : Type} (a b : Nat) (cs : List α) (h : cs.length = a + b + 1) : cs = cs.take a ++ ((cs.drop a).take b ++ (cs.drop (a + b)).take 1) := by
  have e : (cs.drop (a + b)).take 1 = cs.drop (a + b) := List.take_of_length_le (by simp [h])
  rw [e, ← List.drop_drop, List.take_append_drop, List.take_append_drop]
theorem op_g2 {fuel : Nat} {cs : List Value} {x : DataW H × List MemPlace} (h : DataW.trod enc Tryz.prog W 0 (fun _ => true) true fuel 45 cs = some x) : ∃ n : G2N, cs = flat (gq2 n) := by
  obtain ⟨y0, y1, y2, n, _, hl, h0, h1, h2⟩ := trod_struct3 Tryz.underlying45 h
  rw [cG2] at hl
  simp only [c26, cBo] at h0 h1 h2
  obtain ⟨a, ha⟩ := op_e2 h0
  obtain ⟨b, hb⟩ := op_e2 h1
  obtain ⟨c, hc, _⟩ := DataW.trod_bool Tryz.underlying4 h2
  refine ⟨(a, b, c), ?_⟩
  rw [split3 8 8 cs hl, ← List.drop_zero (l := cs.take 8)]
  have e : flat (gq2 (a, b, c)) = flat (q2 a) ++ (flat (q2 b) ++ [.bool c]) := by
    show w4 a.1 ++ (w4 a.2 ++ (w4 b.1 ++ (w4 b.2 ++ _))) = (w4 a.1 ++ (w4 a.2 ++ [])) ++ ((w4 b.1 ++ (w4 b.2 ++ [])) ++ _)
    rw [List.append_nil, List.append_nil, List.append_assoc, List.append_assoc]
    rfl
  rw [e]
  rw [List.drop_zero] at ha
  have hb' : (cs.drop 8).take 8 = flat (q2 b) := hb
  have hc' : (cs.drop (8 + 8)).take 1 = [.bool c] := hc
  rw [List.drop_zero, ha, hb', hc']
set_option maxRecDepth 100000 in
theorem open_g2 {base : Nat} {v : Value} {d : DataW H} {ps : List MemPlace} {pt : Array TypeId} {args : Array Value} (hval : ∀ (j : Nat) t v, pt[j]? = some t → args[j]? = some v → Value.okWide Tryz.prog W .any base t v) (j : Nat) (hj : pt[j]? = some 45) (ha : args[j]? = some v)
    (h : DataW.Trod enc Tryz.prog W 0 (fun _ => true) true 45 v d ps) : ∃ x : G2N, v = .agg (flat (gq2 x)).toArray := by
  have hv := hval j 45 v hj ha
  obtain ⟨cs, rfl⟩ := agg_of (t := 45) Tryz.underlying45 hv
  obtain ⟨fuel, hf⟩ := h
  obtain ⟨l⟩ := cs
  obtain ⟨x, hx⟩ := op_g2 hf
  subst hx
  exact ⟨x, rfl⟩
end
end Go.Proofs.YthlcjdcjnioeoaaGreat.Ex
