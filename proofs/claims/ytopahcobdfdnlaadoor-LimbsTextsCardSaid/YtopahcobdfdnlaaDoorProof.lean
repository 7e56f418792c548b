/-
  From a row's premises to a walk's: the run of the program at its door meets what the rows list; an argument of four words is opened; the table of powers of ten is got from the condition. Conditions: none of its own.
-/
import Derived.Test.YtopahcobdfdnlaaDoorRows
import Derived.Test.YtopahcobdfdnlaaDoorRow
import Derived.ProofKit
import Derived.LaidMore
import Derived.OpenShut
import Derived.Stop.Joined
import Derived.Carry
import Derived.RowKit
import Derived.ChangeSame
import Derived.JoinedOf
import Derived.JoinedAt
import Derived.Laws.IdiomArrays
import Derived.Lib.LaidTab
import Derived.Lib.ItoaNum
import Derived.MakeChecks
namespace Go.Proofs.YtopahcobdfdnlaaDoor
set_option linter.unusedVariables false
open Go.ChangeShapes Go.WideShapes Go.ChangeAt Go.RowKit

theorem own : ownKnob Tryd.prog.godebug = none := by kernel_rfl
theorem laidOut : laidOutB Tryd.prog = true := by kernel_rfl

/-- What the six rows list. -/
def theLaid : List (String × DataW Unit) := [("math/bits.deBruijn32tab", Rows.laid_math_bits_deBruijn32tab), ("math/bits.deBruijn64tab", Rows.laid_math_bits_deBruijn64tab), ("internal/strconv.uint64pow10", Rows.laid_internal_strconv_uint64pow10)]

theorem door_met (os : Os) (args : Array Value) : laidMetH Tryd.prog theLaid ((World.doorLaid Tryd.prog 400 os).forCall (fun _ _ => 0) ⟨#[], args, []⟩).memory :=
  laidMetH_of_parts3 (fuel := 8) (laidMet_of_run' 8 (by kernel_rfl) (by kernel_rfl)) (by kernel_rfl) (by kernel_rfl)

theorem laid_tail {P : Program} {x : String × DataW Unit} {l : List (String × DataW Unit)} {w : World} (h : laidMet P (x :: l) w) : laidMet P l w := by
  obtain ⟨ps, ⟨g, t, cs, fuel, p, q, hg, ht, hv, hd, hr, hp⟩, hn, hc⟩ := h
  rw [hp] at hn hc
  exact ⟨q, hr, (List.nodup_append.1 hn).2.1, fun b off hb => hc b off (List.mem_append.2 (Or.inr hb))⟩

theorem pow_at : Tryd.prog.globalNamed "internal/strconv.uint64pow10" = some 2 := by kernel_rfl
theorem pow_ty : (Tryd.prog.globals[2]?).map (·.type) = some 99 := by kernel_rfl
theorem pow_data : (Rows.laid_internal_strconv_uint64pow10 : DataW Unit) = Lib.tabData .u64 Lib.pow10Tab := by kernel_rfl
theorem pow_cells : Tryd.prog.cellsOf 99 = 20 := by kernel_rfl
theorem u64_cells : Tryd.prog.cellsOf 22 = 1 := by kernel_rfl
theorem plain_laid : (theLaid.all fun x => x.2.handleName?.isNone) = true := by kernel_rfl
theorem tab_of_laid {W : World} (h : laidMetH Tryd.prog theLaid W) : Lib.TabIs Tryd.prog W "internal/strconv.uint64pow10" .u64 Lib.pow10Tab := by
  rw [MakeChecks.laidMetH_plain _ _ _ plain_laid] at h
  have h2 := laid_tail (laid_tail h)
  rw [pow_data] at h2
  exact Lib.tabIs_of_head (g := 2) pow_at pow_ty Tryd.underlying99 Tryd.underlying22 u64_cells pow_cells h2

theorem list4 {α : Type} (l : List α) (h : (⟨l⟩ : Array α).size = 4) : ∃ a b c d, l = [a, b, c, d] := by
  match l, h with
  | [a, b, c, d], _ => exact ⟨a, b, c, d, rfl⟩

theorem nat_of_wf {n : Int} (h : (Lit.int .u64 n).wf = true) : ∃ k : Nat, n = (k : Int) ∧ k < 18446744073709551616 := by
  obtain ⟨h1, h2⟩ := bounds_u64 h
  obtain ⟨k, rfl⟩ := Int.eq_ofNat_of_zero_le h1
  exact ⟨k, rfl, by omega⟩

/-- An argument of four words: of whatever program. -/
theorem open_word' {P : Program} {H : Type} {enc : TypeId × Value → H} {W : World} {base : Nat} {t e : TypeId} {v : Value} {d : DataW H} {ps : List MemPlace} (ht : P.underlying t = some (.array 4 e)) (he : P.underlying e = some (.int .u64)) (ct : P.cellsOf t = 4) (ce : P.cellsOf e = 1)
    {pt : Array TypeId} {args : Array Value} (hval : ∀ (j : Nat) t v, pt[j]? = some t → args[j]? = some v → Value.okWide P W .any base t v) (j : Nat) (hj : pt[j]? = some t) (ha : args[j]? = some v) (h : DataW.Trod enc P W 0 (fun _ => true) true t v d ps) :
    ∃ a0 a1 a2 a3 : Nat, v = .agg #[.int .u64 a0, .int .u64 a1, .int .u64 a2, .int .u64 a3] ∧ ok4 a0 a1 a2 a3 := by
  obtain ⟨cs, rfl, hsz, _⟩ : ∃ cs, v = .agg cs ∧ cs.size = P.cellsOf t ∧ Row.okWide P W .any base t cs := by
    simpa [Value.okWide, ht] using hval j t v hj ha
  rw [ct] at hsz
  obtain ⟨l⟩ := cs
  obtain ⟨c0, c1, c2, c3, rfl⟩ := list4 l hsz
  obtain ⟨fuel, hf⟩ := h
  obtain ⟨y0, y1, y2, y3, m, hx, hy0, hy1, hy2, hy3⟩ := trod_array4 ht ce hf
  obtain ⟨x0, e0, rfl, w0⟩ := DataW.trod_int he hy0
  obtain ⟨x1, e1, rfl, w1⟩ := DataW.trod_int he hy1
  obtain ⟨x2, e2, rfl, w2⟩ := DataW.trod_int he hy2
  obtain ⟨x3, e3, rfl, w3⟩ := DataW.trod_int he hy3
  simp at e0 e1 e2 e3
  obtain ⟨a0, rfl, k0⟩ := nat_of_wf w0
  obtain ⟨a1, rfl, k1⟩ := nat_of_wf w1
  obtain ⟨a2, rfl, k2⟩ := nat_of_wf w2
  obtain ⟨a3, rfl, k3⟩ := nat_of_wf w3
  subst e0 e1 e2 e3
  exact ⟨a0, a1, a2, a3, rfl, k0, k1, k2, k3⟩
theorem word_cells : Tryd.prog.cellsOf 24 = 4 := by kernel_rfl
end Go.Proofs.YtopahcobdfdnlaaDoor
