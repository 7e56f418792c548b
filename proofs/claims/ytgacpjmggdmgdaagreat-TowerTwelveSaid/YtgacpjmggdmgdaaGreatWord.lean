/-
  The calls of limbs.Add, limbs.Sub and limbs.Cmp: for any two numbers of four words, in any world, the answers are the sum with its carry, the difference with its borrow, the order; nothing that was there is changed. Conditions: each word below 2^64.
-/
import Derived.Test.YtgacpjmggdmgdaaGreatProg
import Derived.Test.YtgacpjmggdmgdaaGreatNum
import Derived.WalkKit
import Derived.WalkLawsBesides
import Derived.WalkSpells
import Derived.ProofKit
import Derived.RegionTactic
import Derived.BigRegion
import Derived.BigQuiet
import Derived.Deep.QuietTactic
import Derived.ChangeAlike
import Derived.Laws.Externs
import Derived.LoopN
import Derived.Below
import Derived.Lib.Hide
namespace Go.Proofs.YtgacpjmggdmgdaaGreat
set_option linter.unusedVariables false
open Go.RowKit

theorem run_Add64 (x y c : Nat) (hc : c ≤ 1) (w : World) :
    (callFunc 167 #[.int .u64 (x : Int), .int .u64 (y : Int), .int .u64 (c : Int)]).run Tryz.prog w =
      .ok (.value (.tuple #[.int .u64 (addS x y c : Nat), .int .u64 (addC x y c : Nat)])) w := by
  rw [run_callFunc_extern Tryz.func167 (by kernel_rfl) (by kernel_rfl) (by kernel_rfl) (e := add64Entry) (by kernel_rfl), run_add64 x y c (by omega) (by omega) (by omega) (by omega)]
  simp only [Result.andThen]
  unfold addS addC
  congr 5 <;> omega
theorem run_Add64z (x y : Nat) (w : World) :
    (callFunc 167 #[.int .u64 (x : Int), .int .u64 (y : Int), .int .u64 0]).run Tryz.prog w =
      .ok (.value (.tuple #[.int .u64 (addS x y 0 : Nat), .int .u64 (addC x y 0 : Nat)])) w := run_Add64 x y 0 (by omega) w
def sub64E : Array Value → Sem Value := fun args => do
  let (x, y, b) ← Extern.MathBitsCarry.three "Sub64" args
  pure (Extern.MathBitsCarry.pair ((x + Extern.MathBitsCarry.m64 - y - b) % Extern.MathBitsCarry.m64) (if x < y + b then 1 else 0))
theorem run_sub64E {P : Program} (x y b : Nat) (hb : b ≤ 1) (w : World) :
    (sub64E #[.int .u64 x, .int .u64 y, .int .u64 b]).run P w = .ok (.tuple #[.int .u64 (subD x y b : Nat), .int .u64 (subB x y b : Nat)]) w := by
  have : b = 0 ∨ b = 1 := by omega
  rcases this with rfl | rfl <;> rfl
theorem run_Sub64 (x y c : Nat) (hc : c ≤ 1) (w : World) :
    (callFunc 162 #[.int .u64 (x : Int), .int .u64 (y : Int), .int .u64 (c : Int)]).run Tryz.prog w =
      .ok (.value (.tuple #[.int .u64 (subD x y c : Nat), .int .u64 (subB x y c : Nat)])) w := by
  rw [run_callFunc_extern Tryz.func162 (by kernel_rfl) (by kernel_rfl) (by kernel_rfl) (e := sub64E) (by kernel_rfl), run_sub64E x y c hc]
  rfl
theorem run_Sub64z (x y : Nat) (w : World) :
    (callFunc 162 #[.int .u64 (x : Int), .int .u64 (y : Int), .int .u64 0]).run Tryz.prog w =
      .ok (.value (.tuple #[.int .u64 (subD x y 0 : Nat), .int .u64 (subB x y 0 : Nat)])) w := run_Sub64 x y 0 (by omega) w

theorem ex_Add64 {x y c : Nat} (hx : x < 18446744073709551616) (hy : y < 18446744073709551616) (hc : c ≤ 1) : ∃ d b : Nat, (∀ w, (callFunc 167 #[.int .u64 (x : Int), .int .u64 (y : Int), .int .u64 (c : Int)]).run Tryz.prog w =
      .ok (.value (.tuple #[.int .u64 (d : Int), .int .u64 (b : Int)])) w) ∧ d < 18446744073709551616 ∧ b ≤ 1 ∧ Hid (d + 18446744073709551616 * b = x + y + c) :=
  ⟨_, _, run_Add64 x y c hc, addS_lt _ _ _, addC_le hx hy hc, addSC x y c⟩
theorem ex_Add64z {x y : Nat} (hx : x < 18446744073709551616) (hy : y < 18446744073709551616) : ∃ d b : Nat, (∀ w, (callFunc 167 #[.int .u64 (x : Int), .int .u64 (y : Int), .int .u64 0]).run Tryz.prog w =
      .ok (.value (.tuple #[.int .u64 (d : Int), .int .u64 (b : Int)])) w) ∧ d < 18446744073709551616 ∧ b ≤ 1 ∧ Hid (d + 18446744073709551616 * b = x + y) :=
  ⟨_, _, run_Add64z x y, addS_lt _ _ _, addC_le hx hy (Nat.zero_le _), addSC x y 0⟩
theorem ex_Sub64 {x y c : Nat} (hx : x < 18446744073709551616) (hy : y < 18446744073709551616) (hc : c ≤ 1) : ∃ d b : Nat, (∀ w, (callFunc 162 #[.int .u64 (x : Int), .int .u64 (y : Int), .int .u64 (c : Int)]).run Tryz.prog w =
      .ok (.value (.tuple #[.int .u64 (d : Int), .int .u64 (b : Int)])) w) ∧ d < 18446744073709551616 ∧ b ≤ 1 ∧ Hid (d + y + c = x + 18446744073709551616 * b) :=
  ⟨_, _, run_Sub64 x y c hc, subD_lt _ _ _, subB_le _ _ _, subDB hx hy hc⟩
theorem ex_Sub64z {x y : Nat} (hx : x < 18446744073709551616) (hy : y < 18446744073709551616) : ∃ d b : Nat, (∀ w, (callFunc 162 #[.int .u64 (x : Int), .int .u64 (y : Int), .int .u64 0]).run Tryz.prog w =
      .ok (.value (.tuple #[.int .u64 (d : Int), .int .u64 (b : Int)])) w) ∧ d < 18446744073709551616 ∧ b ≤ 1 ∧ Hid (d + y = x + 18446744073709551616 * b) :=
  ⟨_, _, run_Sub64z x y, subD_lt _ _ _, subB_le _ _ _, subDB hx hy (Nat.zero_le _)⟩

/-- A sum: four words and a carry. -/
def AddPost (A B : Nat) (w : World) (e : Ending) (w' : World) : Prop :=
  ∃ s0 s1 s2 s3 c : Nat, e = .returned (.tuple #[.agg #[.int .u64 s0, .int .u64 s1, .int .u64 s2, .int .u64 s3], .int .u64 c]) ∧ ok4 s0 s1 s2 s3 ∧ c ≤ 1 ∧ val4 s0 s1 s2 s3 + 115792089237316195423570985008687907853269984665640564039457584007913129639936 * c = A + B ∧ Below w.heap.size w w'
/-- A difference: four words and a borrow. -/
def SubPost (A B : Nat) (w : World) (e : Ending) (w' : World) : Prop :=
  ∃ s0 s1 s2 s3 c : Nat, e = .returned (.tuple #[.agg #[.int .u64 s0, .int .u64 s1, .int .u64 s2, .int .u64 s3], .int .u64 c]) ∧ ok4 s0 s1 s2 s3 ∧ c ≤ 1 ∧ val4 s0 s1 s2 s3 + B = A + 115792089237316195423570985008687907853269984665640564039457584007913129639936 * c ∧ Below w.heap.size w w'

theorem add_calls (a0 a1 a2 a3 b0 b1 b2 b3 : Nat) (ha : ok4 a0 a1 a2 a3) (hb : ok4 b0 b1 b2 b3) (w : World) :
    Calls Tryz.prog 182 #[.agg #[.int .u64 a0, .int .u64 a1, .int .u64 a2, .int .u64 a3], .agg #[.int .u64 b0, .int .u64 b1, .int .u64 b2, .int .u64 b3]] w (AddPost (val4 a0 a1 a2 a3) (val4 b0 b1 b2 b3) w) := by
  obtain ⟨s0, c0, r0, bs0, bc0, e0⟩ := ex_Add64z ha.1 hb.1
  obtain ⟨s1, c1, r1, bs1, bc1, e1⟩ := ex_Add64 ha.2.1 hb.2.1 bc0
  obtain ⟨s2, c2, r2, bs2, bc2, e2⟩ := ex_Add64 ha.2.2.1 hb.2.2.1 bc1
  obtain ⟨s3, c3, r3, bs3, bc3, e3⟩ := ex_Add64 ha.2.2.2 hb.2.2.2 bc2
  go_enter Tryz.func182, Tryz.ntmps182
  go_wp2
  refine wp_loop_rounds 5 ?_
  rw [rounds_succ]
  go_wp2
  go_region
  go_wp2
  rw [rounds_succ]
  go_wp2
  go_region
  go_wp2
  rw [rounds_succ]
  go_wp2
  go_region
  go_wp2
  rw [rounds_succ]
  go_wp2
  go_region
  go_wp2
  rw [rounds_succ]
  go_wp2
  refine bodyPost_ret (v := .tuple #[.agg #[.int .u64 s0, .int .u64 s1, .int .u64 s2, .int .u64 s3], .int .u64 c3]) (by simp [results, Tryz.results182, go_sem]) rfl ?_
  refine ⟨_, _, _, _, _, rfl, ⟨bs0, bs1, bs2, bs3⟩, bc3, by have := e0.out; have := e1.out; have := e2.out; have := e3.out; unfold val4; omega, ?_⟩
  repeat (first | exact Below.refl _ _ | refine Below.drew ?_ | refine Below.alloc ?_ (by first | (simp; done) | (simp; omega)) _)

theorem sub_calls (a0 a1 a2 a3 b0 b1 b2 b3 : Nat) (ha : ok4 a0 a1 a2 a3) (hb : ok4 b0 b1 b2 b3) (w : World) :
    Calls Tryz.prog 172 #[.agg #[.int .u64 a0, .int .u64 a1, .int .u64 a2, .int .u64 a3], .agg #[.int .u64 b0, .int .u64 b1, .int .u64 b2, .int .u64 b3]] w (SubPost (val4 a0 a1 a2 a3) (val4 b0 b1 b2 b3) w) := by
  obtain ⟨s0, c0, r0, bs0, bc0, e0⟩ := ex_Sub64z ha.1 hb.1
  obtain ⟨s1, c1, r1, bs1, bc1, e1⟩ := ex_Sub64 ha.2.1 hb.2.1 bc0
  obtain ⟨s2, c2, r2, bs2, bc2, e2⟩ := ex_Sub64 ha.2.2.1 hb.2.2.1 bc1
  obtain ⟨s3, c3, r3, bs3, bc3, e3⟩ := ex_Sub64 ha.2.2.2 hb.2.2.2 bc2
  go_enter Tryz.func172, Tryz.ntmps172
  go_wp2
  refine wp_loop_rounds 5 ?_
  rw [rounds_succ]
  go_wp2
  go_region
  go_wp2
  rw [rounds_succ]
  go_wp2
  go_region
  go_wp2
  rw [rounds_succ]
  go_wp2
  go_region
  go_wp2
  rw [rounds_succ]
  go_wp2
  go_region
  go_wp2
  rw [rounds_succ]
  go_wp2
  refine bodyPost_ret (v := .tuple #[.agg #[.int .u64 s0, .int .u64 s1, .int .u64 s2, .int .u64 s3], .int .u64 c3]) (by simp [results, Tryz.results172, go_sem]) rfl ?_
  refine ⟨_, _, _, _, _, rfl, ⟨bs0, bs1, bs2, bs3⟩, bc3, by have := e0.out; have := e1.out; have := e2.out; have := e3.out; unfold val4; omega, ?_⟩
  repeat (first | exact Below.refl _ _ | refine Below.drew ?_ | refine Below.alloc ?_ (by first | (simp; done) | (simp; omega)) _)

/-- the cells below a block stay -/
theorem bcell {W w1 : World} (hb : Below W.heap.size W w1) : (∀ b o, b < W.heap.size → w1.cell? ⟨b, o, none⟩ = W.cell? ⟨b, o, none⟩) ∧ (∀ b o, b < W.heap.size → w1.frozen? ⟨b, o, none⟩ = W.frozen? ⟨b, o, none⟩) :=
  ⟨fun b o h => hb.cell (p := ⟨b, o, none⟩) h, fun b o h => hb.frozen (p := ⟨b, o, none⟩) h⟩

/-- The test of two numbers of four words. -/
def eqW (a0 a1 a2 a3 b0 b1 b2 b3 : Nat) : Bool := decide (a0 = b0 ∧ a1 = b1 ∧ a2 = b2 ∧ a3 = b3)
theorem equalInW (d : Nat) (a0 a1 a2 a3 b0 b1 b2 b3 : Nat) (w : World) : (Op.equalIn (d + 1 + 1) 50 (.agg #[.int .u64 a0, .int .u64 a1, .int .u64 a2, .int .u64 a3]) (.agg #[.int .u64 b0, .int .u64 b1, .int .u64 b2, .int .u64 b3])).run Tryz.prog w = .ok (eqW a0 a1 a2 a3 b0 b1 b2 b3) w := by
  have h0 : ∀ (x y : Int) (w : World), (Op.equalIn (d + 1) 22 (.int .u64 x) (.int .u64 y)).run Tryz.prog w = .ok (x == y) w := fun x y w => run_equalIn_int w d 22 .u64 .u64 x y Tryz.underlying22
  rw [Op.equalIn]
  simp only [Sem.run_bind, run_underlying Tryz.underlying50, Result.andThen_ok, Tryz.sizeOf22]
  simp [Std.Legacy.Range.forIn_eq_forIn_range', Std.Legacy.Range.size, List.range', part, h0, Sem.run_bind, Result.andThen_ok]
  unfold eqW
  by_cases q0 : a0 = b0 <;> by_cases q1 : a1 = b1 <;> by_cases q2 : a2 = b2 <;> by_cases q3 : a3 = b3 <;> simp [q0, q1, q2, q3] <;> omega
theorem eqGuardW : Tryz.prog.eqGuardType Tryz.prog.depth 50 = false := by kernel_rfl
theorem eqW_iff {a0 a1 a2 a3 b0 b1 b2 b3 : Nat} (ha : ok4 a0 a1 a2 a3) (hb : ok4 b0 b1 b2 b3) : eqW a0 a1 a2 a3 b0 b1 b2 b3 = true ↔ val4 a0 a1 a2 a3 = val4 b0 b1 b2 b3 := by
  unfold eqW; rw [decide_eq_true_iff]
  exact ⟨fun ⟨h0, h1, h2, h3⟩ => by rw [h0, h1, h2, h3], val4_inj ha hb⟩

def cmpN (A B : Nat) : Int := if A = B then 0 else if A < B then -1 else 1

set_option maxRecDepth 100000 in
theorem cmp_calls (a0 a1 a2 a3 b0 b1 b2 b3 : Nat) (ha : ok4 a0 a1 a2 a3) (hb : ok4 b0 b1 b2 b3) (w : World) :
    Calls Tryz.prog 166 #[.agg #[.int .u64 a0, .int .u64 a1, .int .u64 a2, .int .u64 a3], .agg #[.int .u64 b0, .int .u64 b1, .int .u64 b2, .int .u64 b3]] w fun e w' => e = .returned (.int .i64 (cmpN (val4 a0 a1 a2 a3) (val4 b0 b1 b2 b3))) ∧ Below w.heap.size w w' := by
  have hE := fun w => equalInW 9998 a0 a1 a2 a3 b0 b1 b2 b3 w
  have hG := eqGuardW
  have hi := eqW_iff ha hb
  cases q : eqW a0 a1 a2 a3 b0 b1 b2 b3
  · rw [q] at hE hi
    have hn : ¬ val4 a0 a1 a2 a3 = val4 b0 b1 b2 b3 := fun h => by simpa using hi.2 h
    have hfin1 : val4 a0 a1 a2 a3 < val4 b0 b1 b2 b3 → cmpN (val4 a0 a1 a2 a3) (val4 b0 b1 b2 b3) = -1 := fun h => by unfold cmpN; rw [if_neg hn, if_pos h]
    have hfin2 : ¬ val4 a0 a1 a2 a3 < val4 b0 b1 b2 b3 → cmpN (val4 a0 a1 a2 a3) (val4 b0 b1 b2 b3) = 1 := fun h => by unfold cmpN; rw [if_neg hn, if_neg h]
    have HF1 := Lib.hid hfin1; have HF2 := Lib.hid hfin2
    have vb := val4_lt hb
    have va := val4_lt ha
    clear q hi hn hfin1 hfin2
    go_enter Tryz.func166, Tryz.ntmps166
    go_wp2_with fail
    refine (sub_calls a0 a1 a2 a3 b0 b1 b2 b3 ha hb _).mono ?_
    rintro e w1 ⟨s0, s1, s2, s3, c, rfl, hs, hc, hv, hbl⟩
    have HV := Lib.hid hv; clear hv
    have vs := val4_lt hs
    have hc' : c = 0 ∨ c = 1 := by omega
    rcases hc' with rfl | rfl
    · go_wp2
      go_ret
      exact ⟨by rw [HF2.out (by have := HV.out; omega)]; rfl, ((((Below.refl _ _).alloc (Nat.le_refl _) _).alloc (by simp) _).trans (hbl.mono (by simp; omega))).alloc (by have := hbl.size; simp at this; omega) _⟩
    · go_wp2
      go_ret
      exact ⟨by rw [HF1.out (by have := HV.out; omega)]; rfl, ((((Below.refl _ _).alloc (Nat.le_refl _) _).alloc (by simp) _).trans (hbl.mono (by simp; omega))).alloc (by have := hbl.size; simp at this; omega) _⟩
  · rw [q] at hE hi
    have hn : val4 a0 a1 a2 a3 = val4 b0 b1 b2 b3 := hi.1 rfl
    have HF := Lib.hid (show cmpN (val4 a0 a1 a2 a3) (val4 b0 b1 b2 b3) = 0 by unfold cmpN; rw [if_pos hn])
    clear q hi hn
    go_enter Tryz.func166, Tryz.ntmps166
    go_wp2_with fail
    go_ret
    exact ⟨by rw [HF.out]; rfl, (((Below.refl _ _).alloc (Nat.le_refl _) _).alloc (by simp) _)⟩
end Go.Proofs.YtgacpjmggdmgdaaGreat
