/-
  The law TowerField answers true, whatever it is handed. Conditions: none.
  From a row's premises to a walk's: an argument of four words is opened. Conditions: none of its own.
  An argument that is an element of the tower is opened: it lies flat, its numbers' words. Conditions: none of its own.
  THE STATEMENT TowerField, lifted: for any arguments the law answers true and its arguments read as they did. Conditions: the row's own.
-/
import Derived.Test.YtkkbjemifmekfaaTwLaw
import Derived.Test.YtkkbjemifmekfaaRows
import Derived.Test.YtkkbjemifmekfaaRow
import Derived.ProofKit
import Derived.LaidMore
import Derived.OpenShut
import Derived.Stop.Joined
import Derived.Carry
import Derived.RowKit
import Derived.ChangeSame
import Derived.JoinedOf
import Derived.JoinedAt
import Derived.Laws.IdiomArrays
import Derived.Test.YtkkbjemifmekfaaTwTab
import Derived.Deep.Strs
namespace Go.Proofs.Ytkkbjemifmekfaa.Ex
set_option linter.unusedVariables false
set_option linter.unusedSimpArgs false
open Go.RowKit

set_option maxRecDepth 100000 in
theorem run_field1 (x y z : N12) : funA Try.prog (T_alive true) qT (fun _ => true) Try.f3 60 [.v (.fl (q12 x)), .v (.fl (q12 y)), .v (.fl (q12 z))] = some ([flat (e12 (F12.mul (m12 x) (m12 y))) = flat (e12 (F12.mul (m12 y) (m12 x))),
  flat (e12 (F12.mul (m12 x) (m12 (nv12 (F12.mul (m12 y) (m12 z)))))) = flat (e12 (F12.mul (m12 (nv12 (F12.mul (m12 x) (m12 y)))) (m12 z))),
  nu12 (m12 x) ≠ F1.zero, flat (e12 (F12.mul (m12 x) (m12 (nv12 (iv12 (m12 x)))))) = flat (e12 F12.one)], .one (.im (.bool true))) := by kernel_rfl
set_option maxRecDepth 100000 in
theorem run_field0 (x y z : N12) : funA Try.prog (T_alive false) qT (fun _ => true) Try.f3 60 [.v (.fl (q12 x)), .v (.fl (q12 y)), .v (.fl (q12 z))] = some ([flat (e12 (F12.mul (m12 x) (m12 y))) = flat (e12 (F12.mul (m12 y) (m12 x))),
  flat (e12 (F12.mul (m12 x) (m12 (nv12 (F12.mul (m12 y) (m12 z)))))) = flat (e12 (F12.mul (m12 (nv12 (F12.mul (m12 x) (m12 y)))) (m12 z))),
  nu12 (m12 x) = F1.zero, flat (e12 (F12.mul (m12 x) (m12 y))) = flat (e12 F12.zero)], .one (.im (.bool true))) := by kernel_rfl
theorem field_calls (x y z : N12) (w : World) : Calls Try.prog 3 #[.agg (flat (q12 x)).toArray, .agg (flat (q12 y)).toArray, .agg (flat (q12 z)).toArray] w (fun e w' => e = .returned (.bool true) ∧ Below w.heap.size w w') := by
  have h1 : flat (e12 (F12.mul (m12 x) (m12 y))) = flat (e12 (F12.mul (m12 y) (m12 x))) := by rw [F12.mul_comm]
  have h2 : flat (e12 (F12.mul (m12 x) (m12 (nv12 (F12.mul (m12 y) (m12 z)))))) = flat (e12 (F12.mul (m12 (nv12 (F12.mul (m12 x) (m12 y)))) (m12 z))) := by rw [m12_nv, m12_nv, F12.mul_assoc]
  have ha : CAs w [.v (.fl (q12 x)), .v (.fl (q12 y)), .v (.fl (q12 z))] [.agg (flat (q12 x)).toArray, .agg (flat (q12 y)).toArray, .agg (flat (q12 z)).toArray] := ⟨rfl, rfl, rfl, trivial⟩
  by_cases h : nu12 (m12 x) = F1.zero
  · have h3 : flat (e12 (F12.mul (m12 x) (m12 y))) = flat (e12 F12.zero) := by rw [nu12_zero h, F12.zero_mul]
    exact fun_sound hmix (ok_alive false) qT_ok Try.func3 (run_field0 x y z) ⟨h1, h2, h, h3, trivial⟩ ha
  · have h3 : flat (e12 (F12.mul (m12 x) (m12 (nv12 (iv12 (m12 x)))))) = flat (e12 F12.one) := by rw [m12_nv, F12_inv h]
    exact fun_sound hmix (ok_alive true) qT_ok Try.func3 (run_field1 x y z) ⟨h1, h2, h, h3, trivial⟩ ha

end Go.Proofs.Ytkkbjemifmekfaa.Ex
namespace Go.Proofs.Ytkkbjemifmekfaa
set_option linter.unusedVariables false
open Go.ChangeShapes Go.WideShapes Go.ChangeAt Go.RowKit

theorem own : ownKnob Try.prog.godebug = none := by kernel_rfl
theorem laidOut : laidOutB Try.prog = true := by kernel_rfl

theorem u64_cells : Try.prog.cellsOf 22 = 1 := by kernel_rfl
theorem list4 {α : Type} (l : List α) (h : (⟨l⟩ : Array α).size = 4) : ∃ a b c d, l = [a, b, c, d] := by
  match l, h with
  | [a, b, c, d], _ => exact ⟨a, b, c, d, rfl⟩

theorem nat_of_wf {n : Int} (h : (Lit.int .u64 n).wf = true) : ∃ k : Nat, n = (k : Int) ∧ k < 18446744073709551616 := by
  obtain ⟨h1, h2⟩ := bounds_u64 h
  obtain ⟨k, rfl⟩ := Int.eq_ofNat_of_zero_le h1
  exact ⟨k, rfl, by omega⟩

/-- An argument of four words: of whatever program. -/
theorem open_word' {P : Program} {H : Type} {enc : TypeId × Value → H} {W : World} {base : Nat} {t e : TypeId} {v : Value} {d : DataW H} {ps : List MemPlace} (ht : P.underlying t = some (.array 4 e)) (he : P.underlying e = some (.int .u64)) (ct : P.cellsOf t = 4) (ce : P.cellsOf e = 1)
    {pt : Array TypeId} {args : Array Value} (hval : ∀ (j : Nat) t v, pt[j]? = some t → args[j]? = some v → Value.okWide P W .any base t v) (j : Nat) (hj : pt[j]? = some t) (ha : args[j]? = some v) (h : DataW.Trod enc P W 0 (fun _ => true) true t v d ps) :
    ∃ a0 a1 a2 a3 : Nat, v = .agg #[.int .u64 a0, .int .u64 a1, .int .u64 a2, .int .u64 a3] ∧ ok4 a0 a1 a2 a3 := by
  obtain ⟨cs, rfl, hsz, _⟩ : ∃ cs, v = .agg cs ∧ cs.size = P.cellsOf t ∧ Row.okWide P W .any base t cs := by
    simpa [Value.okWide, ht] using hval j t v hj ha
  rw [ct] at hsz
  obtain ⟨l⟩ := cs
  obtain ⟨c0, c1, c2, c3, rfl⟩ := list4 l hsz
  obtain ⟨fuel, hf⟩ := h
  obtain ⟨y0, y1, y2, y3, m, hx, hy0, hy1, hy2, hy3⟩ := trod_array4 ht ce hf
  obtain ⟨x0, e0, rfl, w0⟩ := DataW.trod_int he hy0
  obtain ⟨x1, e1, rfl, w1⟩ := DataW.trod_int he hy1
  obtain ⟨x2, e2, rfl, w2⟩ := DataW.trod_int he hy2
  obtain ⟨x3, e3, rfl, w3⟩ := DataW.trod_int he hy3
  simp at e0 e1 e2 e3
  obtain ⟨a0, rfl, k0⟩ := nat_of_wf w0
  obtain ⟨a1, rfl, k1⟩ := nat_of_wf w1
  obtain ⟨a2, rfl, k2⟩ := nat_of_wf w2
  obtain ⟨a3, rfl, k3⟩ := nat_of_wf w3
  subst e0 e1 e2 e3
  exact ⟨a0, a1, a2, a3, rfl, k0, k1, k2, k3⟩
theorem word_cells : Try.prog.cellsOf 40 = 4 := by kernel_rfl
theorem fe_cells : Try.prog.cellsOf 24 = 4 := by kernel_rfl
end Go.Proofs.Ytkkbjemifmekfaa
namespace Go.Proofs.Ytkkbjemifmekfaa.Ex
set_option linter.unusedVariables false
set_option linter.unusedSimpArgs false
open Go.Deep Go.ChangeShapes Go.WideShapes Go.ChangeAt Go.RowKit

theorem agg_of {P : Program} {W : World} {base : Nat} {t : TypeId} {fs : Array Field} {v : Value} (ht : P.underlying t = some (.struct fs)) (h : Value.okWide P W .any base t v) : ∃ cs, v = .agg cs := by
  obtain ⟨cs, rfl, _⟩ : ∃ cs, v = .agg cs ∧ cs.size = P.cellsOf t ∧ Row.okWide P W .any base t cs := by
    simpa [Value.okWide, ht] using h
  exact ⟨cs, rfl⟩
section
variable {H : Type} {enc : TypeId × Value → H} {W : World}
theorem c24 : Try.prog.cellsOf 24 = 4 := by kernel_rfl
theorem c26 : Try.prog.cellsOf 26 = 8 := by kernel_rfl
theorem c28 : Try.prog.cellsOf 28 = 24 := by kernel_rfl
theorem c30 : Try.prog.cellsOf 30 = 48 := by kernel_rfl
theorem op_fe {fuel : Nat} {cs : List Value} {x : DataW H × List MemPlace} (hl : cs.length = 4) (h : DataW.trod enc Try.prog W 0 (fun _ => true) true fuel 24 cs = some x) : ∃ n : Nat, cs = flat (q1 n) := by
  obtain ⟨c0, c1, c2, c3, rfl⟩ := list4 cs hl
  obtain ⟨y0, y1, y2, y3, m, hx, hy0, hy1, hy2, hy3⟩ := trod_array4 Try.underlying24 u64_cells h
  obtain ⟨x0, e0, rfl, w0⟩ := DataW.trod_int Try.underlying22 hy0
  obtain ⟨x1, e1, rfl, w1⟩ := DataW.trod_int Try.underlying22 hy1
  obtain ⟨x2, e2, rfl, w2⟩ := DataW.trod_int Try.underlying22 hy2
  obtain ⟨x3, e3, rfl, w3⟩ := DataW.trod_int Try.underlying22 hy3
  simp at e0 e1 e2 e3
  obtain ⟨a0, rfl, k0⟩ := nat_of_wf w0
  obtain ⟨a1, rfl, k1⟩ := nat_of_wf w1
  obtain ⟨a2, rfl, k2⟩ := nat_of_wf w2
  obtain ⟨a3, rfl, k3⟩ := nat_of_wf w3
  subst e0 e1 e2 e3
  have hv : val4 a0 a1 a2 a3 < 115792089237316195423570985008687907853269984665640564039457584007913129639936 := by unfold val4; omega
  obtain ⟨q0, q1', q2', q3⟩ := fw_of ⟨k0, k1, k2, k3⟩ hv rfl
  refine ⟨val4 a0 a1 a2 a3, ?_⟩
  show _ = w4 (val4 a0 a1 a2 a3)
  unfold w4
  rw [← q0, ← q1', ← q2', ← q3]
theorem op_e2 {fuel : Nat} {cs : List Value} {x : DataW H × List MemPlace} (h : DataW.trod enc Try.prog W 0 (fun _ => true) true fuel 26 cs = some x) : ∃ n : N2, cs = flat (q2 n) := by
  obtain ⟨y0, y1, n, _, hl, h0, h1⟩ := trod_struct2 Try.underlying26 h
  rw [c26] at hl
  simp only [c24] at h0 h1
  obtain ⟨a, ha⟩ := op_fe (by simp [hl]) h0
  obtain ⟨b, hb⟩ := op_fe (by simp [hl]) h1
  refine ⟨(a, b), ?_⟩
  rw [List.drop_zero] at ha
  rw [List.take_of_length_le (by simp [hl])] at hb
  show cs = w4 a ++ (w4 b ++ [])
  rw [List.append_nil, ← List.take_append_drop 4 cs]
  congr 1
  all_goals first | exact ha.trans (List.append_nil _) | exact hb.trans (List.append_nil _)
theorem op_e6 {fuel : Nat} {cs : List Value} {x : DataW H × List MemPlace} (h : DataW.trod enc Try.prog W 0 (fun _ => true) true fuel 28 cs = some x) : ∃ n : N6, cs = flat (q6 n) := by
  obtain ⟨y0, y1, y2, n, _, hl, h0, h1, h2⟩ := trod_struct3 Try.underlying28 h
  rw [c28] at hl
  simp only [c26] at h0 h1 h2
  obtain ⟨a, ha⟩ := op_e2 h0
  obtain ⟨b, hb⟩ := op_e2 h1
  obtain ⟨c, hc⟩ := op_e2 h2
  refine ⟨(a, b, c), ?_⟩
  rw [List.drop_zero] at ha
  rw [List.take_of_length_le (by simp [hl])] at hc
  have e : flat (q6 (a, b, c)) = flat (q2 a) ++ (flat (q2 b) ++ flat (q2 c)) := by rw [← flat_append, ← flat_append]; rfl
  rw [e, ← ha, ← hb, ← hc, ← List.take_append_drop 8 cs]
  congr 1
  · simp
  · conv => lhs; rw [← List.take_append_drop 8 (List.drop 8 cs), List.drop_drop]
    simp
theorem op_e12 {fuel : Nat} {cs : List Value} {x : DataW H × List MemPlace} (h : DataW.trod enc Try.prog W 0 (fun _ => true) true fuel 30 cs = some x) : ∃ n : N12, cs = flat (q12 n) := by
  obtain ⟨y0, y1, n, _, hl, h0, h1⟩ := trod_struct2 Try.underlying30 h
  rw [c30] at hl
  simp only [c28] at h0 h1
  obtain ⟨a, ha⟩ := op_e6 h0
  obtain ⟨b, hb⟩ := op_e6 h1
  refine ⟨(a, b), ?_⟩
  rw [List.drop_zero] at ha
  rw [List.take_of_length_le (by simp [hl])] at hb
  have e : flat (q12 (a, b)) = flat (q6 a) ++ flat (q6 b) := by rw [← flat_append]; rfl
  rw [e, ← ha, ← hb, List.take_append_drop]
set_option maxRecDepth 100000 in
theorem open_e12 {base : Nat} {v : Value} {d : DataW H} {ps : List MemPlace} {pt : Array TypeId} {args : Array Value} (hval : ∀ (j : Nat) t v, pt[j]? = some t → args[j]? = some v → Value.okWide Try.prog W .any base t v) (j : Nat) (hj : pt[j]? = some 30) (ha : args[j]? = some v)
    (h : DataW.Trod enc Try.prog W 0 (fun _ => true) true 30 v d ps) : ∃ x : N12, v = .agg (flat (q12 x)).toArray := by
  have hv := hval j 30 v hj ha
  obtain ⟨cs, rfl⟩ := agg_of (t := 30) Try.underlying30 hv
  obtain ⟨fuel, hf⟩ := h
  obtain ⟨l⟩ := cs
  obtain ⟨x, hx⟩ := op_e12 hf
  subst hx
  exact ⟨x, rfl⟩
end
end Go.Proofs.Ytkkbjemifmekfaa.Ex
namespace Go.Proofs.Ytkkbjemifmekfaa
set_option linter.unusedVariables false
open Go.ChangeShapes Go.WideShapes Go.ChangeAt Go.RowKit

set_option maxRecDepth 100000 in
theorem towerfield_lifted (os : Os) (started : os.Started) (H : Type) (enc : TypeId × Value → H) :
    ReturnsInHanded {} Try.checked os 3 .any (Rows.towerFieldSpec.pre6 enc Try.prog Try.f3 Rows.towerFieldRow.domain false) (Rows.towerFieldSpec.post enc Try.prog Try.f3 false true false false) := by
  refine returnsInHanded_of_change (C := Try.checked) own started (by kernel_rfl) Try.func3
    (ChangeSpec.witness6 (enc := enc) (C := Try.checked) false ⟨#[], #[.agg #[.int .u64 0, .int .u64 0, .int .u64 0, .int .u64 0, .int .u64 0, .int .u64 0, .int .u64 0, .int .u64 0, .int .u64 0, .int .u64 0, .int .u64 0, .int .u64 0, .int .u64 0, .int .u64 0, .int .u64 0, .int .u64 0, .int .u64 0, .int .u64 0, .int .u64 0, .int .u64 0, .int .u64 0, .int .u64 0, .int .u64 0, .int .u64 0, .int .u64 0, .int .u64 0, .int .u64 0, .int .u64 0, .int .u64 0, .int .u64 0, .int .u64 0, .int .u64 0, .int .u64 0, .int .u64 0, .int .u64 0, .int .u64 0, .int .u64 0, .int .u64 0, .int .u64 0, .int .u64 0, .int .u64 0, .int .u64 0, .int .u64 0, .int .u64 0, .int .u64 0, .int .u64 0, .int .u64 0, .int .u64 0], .agg #[.int .u64 0, .int .u64 0, .int .u64 0, .int .u64 0, .int .u64 0, .int .u64 0, .int .u64 0, .int .u64 0, .int .u64 0, .int .u64 0, .int .u64 0, .int .u64 0, .int .u64 0, .int .u64 0, .int .u64 0, .int .u64 0, .int .u64 0, .int .u64 0, .int .u64 0, .int .u64 0, .int .u64 0, .int .u64 0, .int .u64 0, .int .u64 0, .int .u64 0, .int .u64 0, .int .u64 0, .int .u64 0, .int .u64 0, .int .u64 0, .int .u64 0, .int .u64 0, .int .u64 0, .int .u64 0, .int .u64 0, .int .u64 0, .int .u64 0, .int .u64 0, .int .u64 0, .int .u64 0, .int .u64 0, .int .u64 0, .int .u64 0, .int .u64 0, .int .u64 0, .int .u64 0, .int .u64 0, .int .u64 0], .agg #[.int .u64 0, .int .u64 0, .int .u64 0, .int .u64 0, .int .u64 0, .int .u64 0, .int .u64 0, .int .u64 0, .int .u64 0, .int .u64 0, .int .u64 0, .int .u64 0, .int .u64 0, .int .u64 0, .int .u64 0, .int .u64 0, .int .u64 0, .int .u64 0, .int .u64 0, .int .u64 0, .int .u64 0, .int .u64 0, .int .u64 0, .int .u64 0, .int .u64 0, .int .u64 0, .int .u64 0, .int .u64 0, .int .u64 0, .int .u64 0, .int .u64 0, .int .u64 0, .int .u64 0, .int .u64 0, .int .u64 0, .int .u64 0, .int .u64 0, .int .u64 0, .int .u64 0, .int .u64 0, .int .u64 0, .int .u64 0, .int .u64 0, .int .u64 0, .int .u64 0, .int .u64 0, .int .u64 0, .int .u64 0]], []⟩ 8 (by kernel_rfl) (by kernel_rfl) (by kernel_rfl) (by kernel_rfl)) ?_
  intro W base args ds gs before hval0 hW hcnd _
  have hval : ∀ (j : Nat) t v, Try.f3.params[j]? = some t → args[j]? = some v → Value.okWide Try.prog W .any base t v := hval0
  have hW' := hW
  obtain ⟨p, q, hA0, hV, rfl, hfz, hnd⟩ := hW
  have hA : DataW.TrodAll enc Try.prog W 0 (fun _ => true) true Try.f3.params.toList args.toList ds p := hA0
  rw [Try.params3] at hA hval
  obtain ⟨v0, v1, v2, d0, d1, d2, p0, p1, p2, rfl, rfl, rfl, h0, h1, h2⟩ := trodAll_three hA
  obtain ⟨rfl, rfl⟩ := trodVars_none hV
  obtain ⟨x, rfl⟩ := Ex.open_e12 hval 0 rfl rfl h0
  obtain ⟨y, rfl⟩ := Ex.open_e12 hval 1 rfl rfl h1
  obtain ⟨z, rfl⟩ := Ex.open_e12 hval 2 rfl rfl h2
  clear hA0 hval0
  simp only [List.append_nil] at hW'
  have l0 : ∀ x ∈ p0, x.block < W.heap.size := fun x hx => hW'.lt x (by simp [hx])
  have l1 : ∀ x ∈ p1, x.block < W.heap.size := fun x hx => hW'.lt x (by simp [hx])
  have l2 : ∀ x ∈ p2, x.block < W.heap.size := fun x hx => hW'.lt x (by simp [hx])
  refine (Ex.field_calls x y z W).mono fun e W' ⟨he, hbl⟩ => ?_
  subst he
  have kT : ∀ {v d ps}, DataW.Trod enc Try.prog W 0 (fun _ => true) true 30 v d ps → (∀ x ∈ ps, x.block < W.heap.size) → DataW.Trod enc Try.prog W' 0 (fun b => decide (b < W.heap.size)) true 30 v d ps :=
    fun h l => Below.trod laidOut (by kernel_rfl) (of_decide_eq_true (by kernel_rfl)) h hbl l
  exact ⟨_, rfl, ⟨_, _, _, [], _, [], hW', trodAll_mk1 (shut_bool Try.underlying4 _), trodAll_mk3 (kT h0 l0) (kT h1 l1) (kT h2 l2), rfl, hbl.frame _, fun h => by cases h⟩⟩

theorem towerfield_holds : Rows.TowerFieldSaid :=
  OpenClaim.holds_of_wide 3 Try.f3 rfl rfl rfl rfl rfl rfl rfl ⟨rfl, rfl, rfl, rfl, rfl⟩ rfl rfl rfl rfl rfl (by kernel_rfl) Try.func3 (by kernel_rfl)
    (of_decide_eq_true (by kernel_rfl)) (by unfold Func.isWrapper; first | (rw [if_pos (by decide +kernel)]; kernel_rfl) | (rw [if_neg (by decide +kernel)]; exact ⟨rfl, rfl⟩))
    (fun os started H enc _ => towerfield_lifted os started H enc)
#print axioms towerfield_holds
end Go.Proofs.Ytkkbjemifmekfaa
