/-
  Plain numbers behind the walks: a number of four words, sums with a carry, differences with a borrow, products of two words. No program in sight. Conditions: none.
  The calls of limbs.Add, limbs.Sub and limbs.Cmp: for any two numbers of four words, in any world, the answers are the sum with its carry, the difference with its borrow, the order; nothing that was there is changed. Conditions: each word below 2^64.
  Plain numbers behind the division of two words by one: the normalised divisor, a digit guessed from the upper halves, the correction. No program in sight. Conditions: as each lemma says.
  Plain numbers behind shifts of four words, their joining and their length. No program in sight. Conditions: as each lemma says.
  Rows of words in memory, said cell by cell by a function on places; sums of digits; a store of one digit. Of whatever program. Conditions: none.
  Plain numbers behind the reference's bit by bit: the bit of a number of four words is a bit of one of its words; a bit more; shifts, quotients and rests bit by bit. No program in sight. Conditions: none.
  Memory through a row of calls: the rows of words that were laid, and that nothing older is changed. Of whatever program. Conditions: none.
-/
import Derived.Laws.Externs
import Derived.WalkKit
import Derived.WalkLawsBesides
import Derived.WalkSpells
import Derived.ProofKit
import Derived.RegionTactic
import Derived.BigRegion
import Derived.BigQuiet
import Derived.Deep.QuietTactic
import Derived.ChangeAlike
import Derived.LoopN
import Derived.Below
import Derived.Lib.Hide
import Derived.Laws.Bits64b
import Derived.Laws.Bits64
import Derived.Deep.Draws
import Derived.Test.YtebaoemoeckgaaaProg
namespace Go.Proofs.Ytebaoemoeckgaaa
set_option linter.unusedVariables false

def val4 (a b c d : Nat) : Nat := a + 18446744073709551616 * (b + 18446744073709551616 * (c + 18446744073709551616 * d))
def ok4 (a b c d : Nat) : Prop := a < 18446744073709551616 ∧ b < 18446744073709551616 ∧ c < 18446744073709551616 ∧ d < 18446744073709551616
theorem val4_lt {a b c d : Nat} (h : ok4 a b c d) : val4 a b c d < 115792089237316195423570985008687907853269984665640564039457584007913129639936 := by
  obtain ⟨h0, h1, h2, h3⟩ := h; unfold val4; omega
theorem val4_inj {a0 a1 a2 a3 b0 b1 b2 b3 : Nat} (ha : ok4 a0 a1 a2 a3) (hb : ok4 b0 b1 b2 b3) (h : val4 a0 a1 a2 a3 = val4 b0 b1 b2 b3) : a0 = b0 ∧ a1 = b1 ∧ a2 = b2 ∧ a3 = b3 := by
  obtain ⟨p0, p1, p2, p3⟩ := ha; obtain ⟨q0, q1, q2, q3⟩ := hb; unfold val4 at h; omega

def addS (x y c : Nat) : Nat := (x + y + c) % 18446744073709551616
def addC (x y c : Nat) : Nat := (x + y + c) / 18446744073709551616
theorem addC_le {x y c : Nat} (hx : x < 18446744073709551616) (hy : y < 18446744073709551616) (hc : c ≤ 1) : addC x y c ≤ 1 := by unfold addC; omega
theorem addS_lt (x y c : Nat) : addS x y c < 18446744073709551616 := by unfold addS; omega
theorem addSC (x y c : Nat) : addS x y c + 18446744073709551616 * addC x y c = x + y + c := by unfold addS addC; omega
def subD (x y c : Nat) : Nat := (x + 18446744073709551616 - y - c) % 18446744073709551616
def subB (x y c : Nat) : Nat := if x < y + c then 1 else 0
theorem subB_le (x y c : Nat) : subB x y c ≤ 1 := by unfold subB; split <;> omega
theorem subD_lt (x y c : Nat) : subD x y c < 18446744073709551616 := by unfold subD; omega
theorem subDB {x y c : Nat} (hx : x < 18446744073709551616) (hy : y < 18446744073709551616) (hc : c ≤ 1) : subD x y c + y + c = x + 18446744073709551616 * subB x y c := by
  unfold subD subB; split <;> omega
def mulH (x y : Nat) : Nat := x * y / 18446744073709551616
def mulL (x y : Nat) : Nat := x * y % 18446744073709551616
theorem mulHL (x y : Nat) : mulL x y + 18446744073709551616 * mulH x y = x * y := by unfold mulL mulH; omega
theorem mulL_lt (x y : Nat) : mulL x y < 18446744073709551616 := by unfold mulL; omega
theorem mul_le {x y p q : Nat} (hx : x ≤ p) (hy : y ≤ q) : x * y ≤ p * q := Nat.mul_le_mul hx hy
theorem mulH_le {x y : Nat} (hx : x < 18446744073709551616) (hy : y < 18446744073709551616) : mulH x y ≤ 18446744073709551614 := by
  have := mul_le (show x ≤ 18446744073709551615 by omega) (show y ≤ 18446744073709551615 by omega)
  unfold mulH; omega

end Go.Proofs.Ytebaoemoeckgaaa
namespace Go.Proofs.Ytebaoemoeckgaaa
set_option linter.unusedVariables false
open Go.RowKit

theorem run_Add64 (x y c : Nat) (hc : c ≤ 1) (w : World) :
    (callFunc 104 #[.int .u64 (x : Int), .int .u64 (y : Int), .int .u64 (c : Int)]).run Try.prog w =
      .ok (.value (.tuple #[.int .u64 (addS x y c : Nat), .int .u64 (addC x y c : Nat)])) w := by
  rw [run_callFunc_extern Try.func104 (by kernel_rfl) (by kernel_rfl) (by kernel_rfl) (e := add64Entry) (by kernel_rfl), run_add64 x y c (by omega) (by omega) (by omega) (by omega)]
  simp only [Result.andThen]
  unfold addS addC
  congr 5 <;> omega
theorem run_Add64z (x y : Nat) (w : World) :
    (callFunc 104 #[.int .u64 (x : Int), .int .u64 (y : Int), .int .u64 0]).run Try.prog w =
      .ok (.value (.tuple #[.int .u64 (addS x y 0 : Nat), .int .u64 (addC x y 0 : Nat)])) w := run_Add64 x y 0 (by omega) w
def sub64E : Array Value → Sem Value := fun args => do
  let (x, y, b) ← Extern.MathBitsCarry.three "Sub64" args
  pure (Extern.MathBitsCarry.pair ((x + Extern.MathBitsCarry.m64 - y - b) % Extern.MathBitsCarry.m64) (if x < y + b then 1 else 0))
theorem run_sub64E {P : Program} (x y b : Nat) (hb : b ≤ 1) (w : World) :
    (sub64E #[.int .u64 x, .int .u64 y, .int .u64 b]).run P w = .ok (.tuple #[.int .u64 (subD x y b : Nat), .int .u64 (subB x y b : Nat)]) w := by
  have : b = 0 ∨ b = 1 := by omega
  rcases this with rfl | rfl <;> rfl
theorem run_Sub64 (x y c : Nat) (hc : c ≤ 1) (w : World) :
    (callFunc 98 #[.int .u64 (x : Int), .int .u64 (y : Int), .int .u64 (c : Int)]).run Try.prog w =
      .ok (.value (.tuple #[.int .u64 (subD x y c : Nat), .int .u64 (subB x y c : Nat)])) w := by
  rw [run_callFunc_extern Try.func98 (by kernel_rfl) (by kernel_rfl) (by kernel_rfl) (e := sub64E) (by kernel_rfl), run_sub64E x y c hc]
  rfl
theorem run_Sub64z (x y : Nat) (w : World) :
    (callFunc 98 #[.int .u64 (x : Int), .int .u64 (y : Int), .int .u64 0]).run Try.prog w =
      .ok (.value (.tuple #[.int .u64 (subD x y 0 : Nat), .int .u64 (subB x y 0 : Nat)])) w := run_Sub64 x y 0 (by omega) w

theorem ex_Add64 {x y c : Nat} (hx : x < 18446744073709551616) (hy : y < 18446744073709551616) (hc : c ≤ 1) : ∃ d b : Nat, (∀ w, (callFunc 104 #[.int .u64 (x : Int), .int .u64 (y : Int), .int .u64 (c : Int)]).run Try.prog w =
      .ok (.value (.tuple #[.int .u64 (d : Int), .int .u64 (b : Int)])) w) ∧ d < 18446744073709551616 ∧ b ≤ 1 ∧ Hid (d + 18446744073709551616 * b = x + y + c) :=
  ⟨_, _, run_Add64 x y c hc, addS_lt _ _ _, addC_le hx hy hc, addSC x y c⟩
theorem ex_Add64z {x y : Nat} (hx : x < 18446744073709551616) (hy : y < 18446744073709551616) : ∃ d b : Nat, (∀ w, (callFunc 104 #[.int .u64 (x : Int), .int .u64 (y : Int), .int .u64 0]).run Try.prog w =
      .ok (.value (.tuple #[.int .u64 (d : Int), .int .u64 (b : Int)])) w) ∧ d < 18446744073709551616 ∧ b ≤ 1 ∧ Hid (d + 18446744073709551616 * b = x + y) :=
  ⟨_, _, run_Add64z x y, addS_lt _ _ _, addC_le hx hy (Nat.zero_le _), addSC x y 0⟩
theorem ex_Sub64 {x y c : Nat} (hx : x < 18446744073709551616) (hy : y < 18446744073709551616) (hc : c ≤ 1) : ∃ d b : Nat, (∀ w, (callFunc 98 #[.int .u64 (x : Int), .int .u64 (y : Int), .int .u64 (c : Int)]).run Try.prog w =
      .ok (.value (.tuple #[.int .u64 (d : Int), .int .u64 (b : Int)])) w) ∧ d < 18446744073709551616 ∧ b ≤ 1 ∧ Hid (d + y + c = x + 18446744073709551616 * b) :=
  ⟨_, _, run_Sub64 x y c hc, subD_lt _ _ _, subB_le _ _ _, subDB hx hy hc⟩
theorem ex_Sub64z {x y : Nat} (hx : x < 18446744073709551616) (hy : y < 18446744073709551616) : ∃ d b : Nat, (∀ w, (callFunc 98 #[.int .u64 (x : Int), .int .u64 (y : Int), .int .u64 0]).run Try.prog w =
      .ok (.value (.tuple #[.int .u64 (d : Int), .int .u64 (b : Int)])) w) ∧ d < 18446744073709551616 ∧ b ≤ 1 ∧ Hid (d + y = x + 18446744073709551616 * b) :=
  ⟨_, _, run_Sub64z x y, subD_lt _ _ _, subB_le _ _ _, subDB hx hy (Nat.zero_le _)⟩

/-- A sum: four words and a carry. -/
def AddPost (A B : Nat) (w : World) (e : Ending) (w' : World) : Prop :=
  ∃ s0 s1 s2 s3 c : Nat, e = .returned (.tuple #[.agg #[.int .u64 s0, .int .u64 s1, .int .u64 s2, .int .u64 s3], .int .u64 c]) ∧ ok4 s0 s1 s2 s3 ∧ c ≤ 1 ∧ val4 s0 s1 s2 s3 + 115792089237316195423570985008687907853269984665640564039457584007913129639936 * c = A + B ∧ Below w.heap.size w w'
/-- A difference: four words and a borrow. -/
def SubPost (A B : Nat) (w : World) (e : Ending) (w' : World) : Prop :=
  ∃ s0 s1 s2 s3 c : Nat, e = .returned (.tuple #[.agg #[.int .u64 s0, .int .u64 s1, .int .u64 s2, .int .u64 s3], .int .u64 c]) ∧ ok4 s0 s1 s2 s3 ∧ c ≤ 1 ∧ val4 s0 s1 s2 s3 + B = A + 115792089237316195423570985008687907853269984665640564039457584007913129639936 * c ∧ Below w.heap.size w w'

theorem sub_calls (a0 a1 a2 a3 b0 b1 b2 b3 : Nat) (ha : ok4 a0 a1 a2 a3) (hb : ok4 b0 b1 b2 b3) (w : World) :
    Calls Try.prog 108 #[.agg #[.int .u64 a0, .int .u64 a1, .int .u64 a2, .int .u64 a3], .agg #[.int .u64 b0, .int .u64 b1, .int .u64 b2, .int .u64 b3]] w (SubPost (val4 a0 a1 a2 a3) (val4 b0 b1 b2 b3) w) := by
  obtain ⟨s0, c0, r0, bs0, bc0, e0⟩ := ex_Sub64z ha.1 hb.1
  obtain ⟨s1, c1, r1, bs1, bc1, e1⟩ := ex_Sub64 ha.2.1 hb.2.1 bc0
  obtain ⟨s2, c2, r2, bs2, bc2, e2⟩ := ex_Sub64 ha.2.2.1 hb.2.2.1 bc1
  obtain ⟨s3, c3, r3, bs3, bc3, e3⟩ := ex_Sub64 ha.2.2.2 hb.2.2.2 bc2
  go_enter Try.func108, Try.ntmps108
  go_wp2
  refine wp_loop_rounds 5 ?_
  rw [rounds_succ]
  go_wp2
  go_region
  go_wp2
  rw [rounds_succ]
  go_wp2
  go_region
  go_wp2
  rw [rounds_succ]
  go_wp2
  go_region
  go_wp2
  rw [rounds_succ]
  go_wp2
  go_region
  go_wp2
  rw [rounds_succ]
  go_wp2
  refine bodyPost_ret (v := .tuple #[.agg #[.int .u64 s0, .int .u64 s1, .int .u64 s2, .int .u64 s3], .int .u64 c3]) (by simp [results, Try.results108, go_sem]) rfl ?_
  refine ⟨_, _, _, _, _, rfl, ⟨bs0, bs1, bs2, bs3⟩, bc3, by have := e0.out; have := e1.out; have := e2.out; have := e3.out; unfold val4; omega, ?_⟩
  repeat (first | exact Below.refl _ _ | refine Below.drew ?_ | refine Below.alloc ?_ (by first | (simp; done) | (simp; omega)) _)

/-- the cells below a block stay -/
theorem bcell {W w1 : World} (hb : Below W.heap.size W w1) : (∀ b o, b < W.heap.size → w1.cell? ⟨b, o, none⟩ = W.cell? ⟨b, o, none⟩) ∧ (∀ b o, b < W.heap.size → w1.frozen? ⟨b, o, none⟩ = W.frozen? ⟨b, o, none⟩) :=
  ⟨fun b o h => hb.cell (p := ⟨b, o, none⟩) h, fun b o h => hb.frozen (p := ⟨b, o, none⟩) h⟩

/-- The test of two numbers of four words. -/
def eqW (a0 a1 a2 a3 b0 b1 b2 b3 : Nat) : Bool := decide (a0 = b0 ∧ a1 = b1 ∧ a2 = b2 ∧ a3 = b3)
theorem equalInW (d : Nat) (a0 a1 a2 a3 b0 b1 b2 b3 : Nat) (w : World) : (Op.equalIn (d + 1 + 1) 45 (.agg #[.int .u64 a0, .int .u64 a1, .int .u64 a2, .int .u64 a3]) (.agg #[.int .u64 b0, .int .u64 b1, .int .u64 b2, .int .u64 b3])).run Try.prog w = .ok (eqW a0 a1 a2 a3 b0 b1 b2 b3) w := by
  have h0 : ∀ (x y : Int) (w : World), (Op.equalIn (d + 1) 22 (.int .u64 x) (.int .u64 y)).run Try.prog w = .ok (x == y) w := fun x y w => run_equalIn_int w d 22 .u64 .u64 x y Try.underlying22
  rw [Op.equalIn]
  simp only [Sem.run_bind, run_underlying Try.underlying45, Result.andThen_ok, Try.sizeOf22]
  simp [Std.Legacy.Range.forIn_eq_forIn_range', Std.Legacy.Range.size, List.range', part, h0, Sem.run_bind, Result.andThen_ok]
  unfold eqW
  by_cases q0 : a0 = b0 <;> by_cases q1 : a1 = b1 <;> by_cases q2 : a2 = b2 <;> by_cases q3 : a3 = b3 <;> simp [q0, q1, q2, q3] <;> omega
theorem eqGuardW : Try.prog.eqGuardType Try.prog.depth 45 = false := by kernel_rfl
theorem eqW_iff {a0 a1 a2 a3 b0 b1 b2 b3 : Nat} (ha : ok4 a0 a1 a2 a3) (hb : ok4 b0 b1 b2 b3) : eqW a0 a1 a2 a3 b0 b1 b2 b3 = true ↔ val4 a0 a1 a2 a3 = val4 b0 b1 b2 b3 := by
  unfold eqW; rw [decide_eq_true_iff]
  exact ⟨fun ⟨h0, h1, h2, h3⟩ => by rw [h0, h1, h2, h3], val4_inj ha hb⟩

def cmpN (A B : Nat) : Int := if A = B then 0 else if A < B then -1 else 1

set_option maxRecDepth 100000 in
theorem cmp_calls (a0 a1 a2 a3 b0 b1 b2 b3 : Nat) (ha : ok4 a0 a1 a2 a3) (hb : ok4 b0 b1 b2 b3) (w : World) :
    Calls Try.prog 99 #[.agg #[.int .u64 a0, .int .u64 a1, .int .u64 a2, .int .u64 a3], .agg #[.int .u64 b0, .int .u64 b1, .int .u64 b2, .int .u64 b3]] w fun e w' => e = .returned (.int .i64 (cmpN (val4 a0 a1 a2 a3) (val4 b0 b1 b2 b3))) ∧ Below w.heap.size w w' := by
  have hE := fun w => equalInW 9998 a0 a1 a2 a3 b0 b1 b2 b3 w
  have hG := eqGuardW
  have hi := eqW_iff ha hb
  cases q : eqW a0 a1 a2 a3 b0 b1 b2 b3
  · rw [q] at hE hi
    have hn : ¬ val4 a0 a1 a2 a3 = val4 b0 b1 b2 b3 := fun h => by simpa using hi.2 h
    have hfin1 : val4 a0 a1 a2 a3 < val4 b0 b1 b2 b3 → cmpN (val4 a0 a1 a2 a3) (val4 b0 b1 b2 b3) = -1 := fun h => by unfold cmpN; rw [if_neg hn, if_pos h]
    have hfin2 : ¬ val4 a0 a1 a2 a3 < val4 b0 b1 b2 b3 → cmpN (val4 a0 a1 a2 a3) (val4 b0 b1 b2 b3) = 1 := fun h => by unfold cmpN; rw [if_neg hn, if_neg h]
    have HF1 := Lib.hid hfin1; have HF2 := Lib.hid hfin2
    have vb := val4_lt hb
    have va := val4_lt ha
    clear q hi hn hfin1 hfin2
    go_enter Try.func99, Try.ntmps99
    go_wp2_with fail
    refine (sub_calls a0 a1 a2 a3 b0 b1 b2 b3 ha hb _).mono ?_
    rintro e w1 ⟨s0, s1, s2, s3, c, rfl, hs, hc, hv, hbl⟩
    have HV := Lib.hid hv; clear hv
    have vs := val4_lt hs
    have hc' : c = 0 ∨ c = 1 := by omega
    rcases hc' with rfl | rfl
    · go_wp2
      go_ret
      exact ⟨by rw [HF2.out (by have := HV.out; omega)]; rfl, ((((Below.refl _ _).alloc (Nat.le_refl _) _).alloc (by simp) _).trans (hbl.mono (by simp; omega))).alloc (by have := hbl.size; simp at this; omega) _⟩
    · go_wp2
      go_ret
      exact ⟨by rw [HF1.out (by have := HV.out; omega)]; rfl, ((((Below.refl _ _).alloc (Nat.le_refl _) _).alloc (by simp) _).trans (hbl.mono (by simp; omega))).alloc (by have := hbl.size; simp at this; omega) _⟩
  · rw [q] at hE hi
    have hn : val4 a0 a1 a2 a3 = val4 b0 b1 b2 b3 := hi.1 rfl
    have HF := Lib.hid (show cmpN (val4 a0 a1 a2 a3) (val4 b0 b1 b2 b3) = 0 by unfold cmpN; rw [if_pos hn])
    clear q hi hn
    go_enter Try.func99, Try.ntmps99
    go_wp2_with fail
    go_ret
    exact ⟨by rw [HF.out]; rfl, (((Below.refl _ _).alloc (Nat.le_refl _) _).alloc (by simp) _)⟩
end Go.Proofs.Ytebaoemoeckgaaa
namespace Go.Proofs.Ytebaoemoeckgaaa
set_option linter.unusedVariables false

theorem wrap_in64 (x : Nat) (h : x < 18446744073709551616) : IntKind.u64.wrap (x : Int) = (x : Int) := by rw [IntKind.wrap_u64]; omega
theorem wrap_mod64 (x : Nat) : IntKind.u64.wrap (x : Int) = ((x % 18446744073709551616 : Nat) : Int) := by rw [IntKind.wrap_u64]; omega
theorem cast_mul_pow (x S : Nat) : (x : Int) * 2 ^ S = ((x * 2 ^ S : Nat) : Int) := by rw [Int.natCast_mul, Int.natCast_pow]; rfl

theorem pow_split (S : Nat) (h : S ≤ 63) : 2 ^ (64 - S) * 2 ^ S = 18446744073709551616 := by
  rw [← Nat.pow_add, show 64 - S + S = 64 by omega]
theorem dv_half {Y : Nat} (h : Y < 18446744073709551616) : ∃ a b : Nat, (Y : Int) / 4294967296 = (a : Int) ∧ bits .and .u64 (Y : Int) 4294967295 = (b : Int) ∧ a < 4294967296 ∧ b < 4294967296 ∧ Y = a * 4294967296 + b := by
  refine ⟨Y / 4294967296, Y % 4294967296, by omega, ?_, by omega, by omega, by omega⟩
  have h' := bits_and_u64_nat Y 4294967295 h (by omega)
  rw [show Y &&& 4294967295 = Y % 4294967296 from Nat.and_two_pow_sub_one_eq_mod Y 32] at h'
  exact h'

/-- What holds of a guessed digit q and its rest r. -/
def KI (y1 y0 u u1 q r : Nat) : Prop := q * y1 + r = u ∧ (u * 4294967296 + u1) / (y1 * 4294967296 + y0) ≤ q ∧ q ≤ 4294967297 ∧ r < 4294967296
/-- What the guess is held against. -/
structure KS (y1 y0 u u1 : Nat) : Prop where
  a1 : y1 < 4294967296
  a2 : 2147483648 ≤ y1
  a3 : y0 < 4294967296
  a4 : u < y1 * 4294967296 + y0
  a5 : u1 < 4294967296

section
variable {y1 y0 u u1 q r : Nat}
theorem ki_mulY (q y1 y0 : Nat) : q * (y1 * 4294967296 + y0) = q * y1 * 4294967296 + q * y0 := by rw [Nat.mul_add, Nat.mul_assoc]
theorem ks_pos (s : KS y1 y0 u u1) : 0 < y1 * 4294967296 + y0 := by have := s.a2; omega
theorem ks_Q (s : KS y1 y0 u u1) : (u * 4294967296 + u1) / (y1 * 4294967296 + y0) < 4294967296 := by
  obtain ⟨b1, b2, b3, b4, b5⟩ := s
  rw [Nat.div_lt_iff_lt_mul (by omega)]; omega
theorem ki_le (s : KS y1 y0 u u1) (e : q * y1 + r = u) (h : q * y0 ≤ 4294967296 * r + u1) : q ≤ (u * 4294967296 + u1) / (y1 * 4294967296 + y0) := by
  rw [Nat.le_div_iff_mul_le (ks_pos s), ki_mulY]; omega
theorem ki_yes (s : KS y1 y0 u u1) (k : KI y1 y0 u u1 q r) (h : q * y0 ≤ 4294967296 * r + u1) : q = (u * 4294967296 + u1) / (y1 * 4294967296 + y0) :=
  Nat.le_antisymm (ki_le s k.1 h) k.2.1
theorem ki_no (s : KS y1 y0 u u1) (k : KI y1 y0 u u1 q r) (h : 4294967296 * r + u1 < q * y0) : (u * 4294967296 + u1) / (y1 * 4294967296 + y0) + 1 ≤ q := by
  rw [Nat.succ_le_iff, Nat.div_lt_iff_lt_mul (ks_pos s), ki_mulY]; have := k.1; omega
theorem ki_big (s : KS y1 y0 u u1) (h : 4294967296 ≤ q) : (u * 4294967296 + u1) / (y1 * 4294967296 + y0) + 1 ≤ q := by have := ks_Q s; omega
theorem ki_pred (h : 1 ≤ q) : (q - 1) * y1 + (r + y1) = q * y1 + r := by
  obtain ⟨p, rfl⟩ : ∃ p, q = p + 1 := ⟨q - 1, by omega⟩
  rw [Nat.add_sub_cancel, Nat.add_mul, Nat.one_mul]; omega
theorem ki_next (k : KI y1 y0 u u1 q r) (h : (u * 4294967296 + u1) / (y1 * 4294967296 + y0) + 1 ≤ q) (h' : r + y1 < 4294967296) : KI y1 y0 u u1 (q - 1) (r + y1) :=
  ⟨by rw [ki_pred (Nat.le_trans (Nat.le_add_left 1 _) h)]; exact k.1, Nat.le_sub_one_of_lt h, by have := k.2.2.1; omega, h'⟩
theorem ki_break (s : KS y1 y0 u u1) (k : KI y1 y0 u u1 q r) (h : (u * 4294967296 + u1) / (y1 * 4294967296 + y0) + 1 ≤ q) (h' : 4294967296 ≤ r + y1) : q - 1 = (u * 4294967296 + u1) / (y1 * 4294967296 + y0) := by
  have e := ki_pred (y1 := y1) (r := r) (Nat.le_trans (Nat.le_add_left 1 _) h)
  refine Nat.le_antisymm (ki_le s (e.trans k.1) ?_) (Nat.le_sub_one_of_lt h)
  have := mul_le (show q - 1 ≤ 4294967296 by have := k.2.2.1; omega) (show y0 ≤ 4294967295 by have := s.a3; omega)
  omega
end

end Go.Proofs.Ytebaoemoeckgaaa
namespace Go.Proofs.Ytebaoemoeckgaaa
set_option linter.unusedVariables false
open Go.RowKit

theorem ex_or {lo hi p : Nat} (hl : lo < 18446744073709551616) (hh : hi < 18446744073709551616) (h1 : Hid (hi < 2 ^ p)) (h2 : Hid (∃ t, lo = 2 ^ p * t)) : ∃ s : Nat, bits .or .u64 (lo : Int) (hi : Int) = (s : Int) ∧ s < 18446744073709551616 ∧ Hid (s = lo + hi) := by
  obtain ⟨t, ht⟩ := h2.out
  have e : lo ||| hi = lo + hi := by rw [ht, ← Nat.two_pow_add_eq_or_of_lt h1.out]
  refine ⟨lo + hi, by rw [bits_or_u64_nat _ _ hl hh, e], ?_, Lib.hid rfl⟩
  rw [← e]; exact Nat.or_lt_two_pow (n := 64) hl hh
/-- a word shifted down by p: the upper part, and what leaves it, laid above -/
theorem ex_down {a p : Nat} (ha : a < 18446744073709551616) (hp : p ≤ 63) : ∃ lo up : Nat, (a : Int) / 2 ^ p = (lo : Int) ∧ IntKind.u64.wrap ((a : Int) * 2 ^ (64 - p)) = (up : Int) ∧
    lo < 18446744073709551616 ∧ up < 18446744073709551616 ∧ Hid (∃ m, a = lo * 2 ^ p + m ∧ m < 2 ^ p ∧ up * 2 ^ p = m * 18446744073709551616) ∧ Hid (lo < 2 ^ (64 - p)) ∧ Hid (∃ t, up = 2 ^ (64 - p) * t) := by
  have hps := pow_split p hp
  have hpos : 0 < 2 ^ p := Nat.two_pow_pos p
  refine ⟨a / 2 ^ p, a % 2 ^ p * 2 ^ (64 - p), ?_, ?_, Nat.lt_of_le_of_lt (Nat.div_le_self _ _) ha, ?_, Lib.hid ⟨a % 2 ^ p, ?_, Nat.mod_lt _ hpos, ?_⟩, Lib.hid ?_, Lib.hid ⟨a % 2 ^ p, Nat.mul_comm _ _⟩⟩
  · rw [Int.natCast_ediv, Int.natCast_pow]; rfl
  · rw [cast_mul_pow, wrap_mod64]
    congr 1
    rw [show 18446744073709551616 = 2 ^ p * 2 ^ (64 - p) by rw [Nat.mul_comm, hps], Nat.mul_mod_mul_right]
  · have := Nat.mul_lt_mul_of_pos_right (Nat.mod_lt a hpos) (Nat.two_pow_pos (64 - p))
    rw [Nat.mul_comm (2 ^ p), hps] at this
    exact this
  · rw [Nat.mul_comm]; exact (Nat.div_add_mod a (2 ^ p)).symm
  · rw [Nat.mul_assoc, hps]
  · rw [Nat.div_lt_iff_lt_mul hpos, hps]; exact ha
theorem ex_or' {lo up k : Nat} (hl : lo < 18446744073709551616) (hu : up < 18446744073709551616) (h1 : Hid (lo < 2 ^ k)) (h2 : Hid (∃ t, up = 2 ^ k * t)) : ∃ s : Nat, bits .or .u64 (lo : Int) (up : Int) = (s : Int) ∧ s < 18446744073709551616 ∧ Hid (s = lo + up) := by
  obtain ⟨t, ht⟩ := h2.out
  have e : lo ||| up = lo + up := by rw [Nat.or_comm, ht, ← Nat.two_pow_add_eq_or_of_lt h1.out, Nat.add_comm]
  refine ⟨lo + up, by rw [bits_or_u64_nat _ _ hl hu, e], ?_, Lib.hid rfl⟩
  rw [← e]; exact Nat.or_lt_two_pow (n := 64) hl hu

theorem ex_n {n : Int} (h0 : 0 ≤ n) (q : Int) (h : n / 64 = q) (h1 : 0 ≤ q) : ∃ p : Nat, n % 64 = (p : Int) ∧ p ≤ 63 ∧ n.toNat = 64 * q.toNat + p :=
  ⟨(n % 64).toNat, by omega, by omega, by omega⟩
theorem pow_n (q p : Nat) : 2 ^ (64 * q + p) = 18446744073709551616 ^ q * 2 ^ p := by rw [Nat.pow_add, Nat.pow_mul]
theorem div_fin {r x T m : Nat} (h : r * T + m = x) (hm : m < T) : r = x / T := by
  subst h
  rw [Nat.mul_comm, Nat.mul_add_div (by omega), Nat.div_eq_of_lt hm, Nat.add_zero]

/-- the length of a number: L bits and no fewer -/
def LenIs (n L : Nat) : Prop := n < 2 ^ L ∧ (0 < L → 2 ^ (L - 1) ≤ n)
theorem LenIs.uniq {n L M : Nat} (h : LenIs n L) (k : LenIs n M) : L = M := by
  rcases Nat.lt_trichotomy L M with c | c | c
  · have h1 := k.2 (by omega)
    have h2 := Nat.pow_le_pow_right (show 0 < 2 by omega) (show L ≤ M - 1 by omega)
    have := h.1; omega
  · exact c
  · have h1 := h.2 (by omega)
    have h2 := Nat.pow_le_pow_right (show 0 < 2 by omega) (show M ≤ L - 1 by omega)
    have := k.1; omega
theorem LenIs.zero : LenIs 0 0 := ⟨by simp, fun h => absurd h (by omega)⟩
theorem LenIs.up {n x L k : Nat} (hn : n < 2 ^ k) (hx : 0 < x) (h : LenIs x L) : LenIs (n + x * 2 ^ k) (k + L) := by
  have hL : 0 < L := by
    rcases Nat.eq_zero_or_pos L with e | e
    · subst e; have := h.1; simp at this; omega
    · exact e
  constructor
  · have := Nat.mul_le_mul_right (2 ^ k) (show x + 1 ≤ 2 ^ L from h.1)
    rw [Nat.add_mul, Nat.one_mul] at this
    rw [Nat.pow_add, Nat.mul_comm (2 ^ k)]; omega
  · intro _
    have := Nat.mul_le_mul_right (2 ^ k) (h.2 hL)
    rw [show k + L - 1 = k + (L - 1) by omega, Nat.pow_add, Nat.mul_comm (2 ^ k)]; omega
end Go.Proofs.Ytebaoemoeckgaaa
namespace Go.Proofs.Ytebaoemoeckgaaa
set_option linter.unusedVariables false
open Go.RowKit

/-- n cells of block b hold the words P 0, P 1, .., and may be written. -/
def RowIs (w : World) (b n : Nat) (P : Nat → Nat) : Prop := ∀ k, k < n → w.cell? ⟨b, k, none⟩ = some (.int .u64 (P k : Nat)) ∧ w.frozen? ⟨b, k, none⟩ = false
def upd (P : Nat → Nat) (i v : Nat) : Nat → Nat := fun k => if k = i then v else P k
/-- a list as a function on places -/
def fnOf (l : List Nat) : Nat → Nat := fun k => l.getD k 0

section
variable {w w' : World} {b n i v : Nat} {P : Nat → Nat}
theorem RowIs.cell (h : RowIs w b n P) (hi : i < n) : w.cell? ⟨b, i, none⟩ = some (.int .u64 (P i : Nat)) := (h i hi).1
theorem RowIs.free (h : RowIs w b n P) (hi : i < n) : w.frozen? ⟨b, i, none⟩ = false := (h i hi).2
theorem RowIs.set (h : RowIs w b n P) (hi : i < n) : RowIs (w.setCell ⟨b, i, none⟩ (.int .u64 (v : Nat))) b n (upd P i v) := by
  intro k hk
  refine ⟨?_, by rw [World.frozen?_setCell]; exact h.free hk⟩
  unfold upd
  by_cases e : k = i
  · subst e; rw [if_pos rfl]; exact World.cell?_setCell_same (h := h.cell hk) ..
  · rw [if_neg e, World.cell?_setCell_other (h := fun he => e (by simpa using (congrArg Addr.off he).symm)) ..]; exact h.cell hk
theorem RowIs.other (h : RowIs w b n P) {c : Nat} (hc : c ≠ b) (x : Value) : RowIs (w.setCell ⟨c, i, none⟩ x) b n P := by
  intro k hk
  exact ⟨by rw [World.cell?_setCell_other (h := fun he => hc (by simpa using congrArg Addr.block he)) ..]; exact h.cell hk, by rw [World.frozen?_setCell]; exact h.free hk⟩
theorem RowIs.drew (h : RowIs w b n P) : RowIs w.drew b n P := h
theorem RowIs.drewN (h : RowIs w b n P) (m : Nat) : RowIs (w.drewN m) b n P := h
theorem RowIs.below (h : RowIs w b n P) {B : Nat} (hb : Below B w w') (hB : b < B) : RowIs w' b n P := by
  intro k hk
  exact ⟨by rw [hb.cell (p := ⟨b, k, none⟩) hB]; exact h.cell hk, by rw [hb.frozen (p := ⟨b, k, none⟩) hB]; exact h.free hk⟩
theorem RowIs.alloc (h : RowIs w b n P) (hb : b < w.heap.size) (o : Obj) : RowIs (w.alloc o) b n P :=
  h.below ((Below.refl w.heap.size w).alloc (Nat.le_refl _) o) hb
/-- a new block of words -/
theorem RowIs.mk (w : World) (t : TypeId) (l : List Nat) (b : Nat) (hb : b = w.heap.size) : RowIs (w.alloc (.cells (l.map fun x => Value.int .u64 (x : Nat)).toArray t)) b l.length (fnOf l) := by
  subst hb
  intro k hk
  refine ⟨?_, World.frozen?_alloc_new _ _ _ _⟩
  rw [World.cell?_alloc_new]
  simp [fnOf, hk]
end

/-- four words in a block, told one by one -/
structure Row4 (w : World) (b : Nat) (c0 c1 c2 c3 : Nat) : Prop where
  c0 : w.cell? ⟨b, 0, none⟩ = some (.int .u64 c0)
  c1 : w.cell? ⟨b, 1, none⟩ = some (.int .u64 c1)
  c2 : w.cell? ⟨b, 2, none⟩ = some (.int .u64 c2)
  c3 : w.cell? ⟨b, 3, none⟩ = some (.int .u64 c3)
  fr : ∀ k, w.frozen? ⟨b, k, none⟩ = false
theorem Row4.below {w w' : World} {b : Nat} {c0 c1 c2 c3 : Nat} (h : Row4 w b c0 c1 c2 c3) {B : Nat} (hb : Below B w w') (hB : b < B) : Row4 w' b c0 c1 c2 c3 :=
  ⟨by rw [hb.cell (p := ⟨b, 0, none⟩) hB]; exact h.c0, by rw [hb.cell (p := ⟨b, 1, none⟩) hB]; exact h.c1, by rw [hb.cell (p := ⟨b, 2, none⟩) hB]; exact h.c2, by rw [hb.cell (p := ⟨b, 3, none⟩) hB]; exact h.c3,
    fun k => by rw [hb.frozen (p := ⟨b, k, none⟩) hB]; exact h.fr k⟩
theorem Row4.alloc {w : World} {b : Nat} {c0 c1 c2 c3 : Nat} (h : Row4 w b c0 c1 c2 c3) (hb : b < w.heap.size) (o : Obj) : Row4 (w.alloc o) b c0 c1 c2 c3 :=
  h.below ((Below.refl w.heap.size w).alloc (Nat.le_refl _) o) hb
theorem Row4.drewN {w : World} {b : Nat} {c0 c1 c2 c3 : Nat} (h : Row4 w b c0 c1 c2 c3) (n : Nat) : Row4 (w.drewN n) b c0 c1 c2 c3 := ⟨h.c0, h.c1, h.c2, h.c3, h.fr⟩
theorem Row4.new (w : World) (c0 c1 c2 c3 : Nat) (t : TypeId) : Row4 (w.alloc (.cells #[.int .u64 c0, .int .u64 c1, .int .u64 c2, .int .u64 c3] t)) w.heap.size c0 c1 c2 c3 :=
  ⟨by rw [World.cell?_alloc_new]; rfl, by rw [World.cell?_alloc_new]; rfl, by rw [World.cell?_alloc_new]; rfl, by rw [World.cell?_alloc_new]; rfl, fun k => World.frozen?_alloc_new _ _ _ _⟩
theorem Row4.other {w : World} {b d i : Nat} {c0 c1 c2 c3 : Nat} (h : Row4 w b c0 c1 c2 c3) (hd : d ≠ b) (v : Value) : Row4 (w.setCell ⟨d, i, none⟩ v) b c0 c1 c2 c3 :=
  ⟨by rw [World.cell?_setCell_other (h := fun he => hd (by simpa using congrArg Addr.block he)) ..]; exact h.c0, by rw [World.cell?_setCell_other (h := fun he => hd (by simpa using congrArg Addr.block he)) ..]; exact h.c1,
    by rw [World.cell?_setCell_other (h := fun he => hd (by simpa using congrArg Addr.block he)) ..]; exact h.c2, by rw [World.cell?_setCell_other (h := fun he => hd (by simpa using congrArg Addr.block he)) ..]; exact h.c3,
    fun k => by rw [World.frozen?_setCell]; exact h.fr k⟩
/-- four stores, in the walk's order -/
def set4 (w : World) (b : Nat) (d0 d1 d2 d3 : Nat) : World := (((w.setCell ⟨b, 0, none⟩ (.int .u64 d0)).setCell ⟨b, 1, none⟩ (.int .u64 d1)).setCell ⟨b, 2, none⟩ (.int .u64 d2)).setCell ⟨b, 3, none⟩ (.int .u64 d3)
theorem Row4.rows {w : World} {b : Nat} {c0 c1 c2 c3 : Nat} (h : Row4 w b c0 c1 c2 c3) : RowIs w b 4 (fnOf [c0, c1, c2, c3]) := by
  intro k hk
  refine ⟨?_, h.fr k⟩
  match k, hk with
  | 0, _ => exact h.c0
  | 1, _ => exact h.c1
  | 2, _ => exact h.c2
  | 3, _ => exact h.c3
theorem Row4.set4 {w : World} {b : Nat} {c0 c1 c2 c3 : Nat} (h : Row4 w b c0 c1 c2 c3) (d0 d1 d2 d3 : Nat) : Row4 (set4 w b d0 d1 d2 d3) b d0 d1 d2 d3 := by
  have r := (((h.rows.set (show 0 < 4 by omega) (v := d0)).set (show 1 < 4 by omega) (v := d1)).set (show 2 < 4 by omega) (v := d2)).set (show 3 < 4 by omega) (v := d3)
  exact ⟨r.cell (by omega), r.cell (show 1 < 4 by omega), r.cell (show 2 < 4 by omega), r.cell (show 3 < 4 by omega), fun k => by
    show World.frozen? (((_ : World).setCell _ _)) _ = _
    rw [World.frozen?_setCell, World.frozen?_setCell, World.frozen?_setCell, World.frozen?_setCell]; exact h.fr k⟩
theorem Row4.set4_other {w : World} {b d : Nat} {c0 c1 c2 c3 : Nat} (h : Row4 w b c0 c1 c2 c3) (hd : d ≠ b) (e0 e1 e2 e3 : Nat) : Row4 (Go.Proofs.Ytebaoemoeckgaaa.set4 w d e0 e1 e2 e3) b c0 c1 c2 c3 :=
  (((h.other hd _).other hd _).other hd _).other hd _
theorem below_set4 {B : Nat} {w w' : World} {b : Nat} (h : Below B w w') (hb : B ≤ b) (d0 d1 d2 d3 : Nat) : Below B w (set4 w' b d0 d1 d2 d3) :=
  (((h.setCell (p := ⟨b, 0, none⟩) hb _).setCell (p := ⟨b, 1, none⟩) hb _).setCell (p := ⟨b, 2, none⟩) hb _).setCell (p := ⟨b, 3, none⟩) hb _
theorem below_drewN' (B : Nat) (w : World) (n : Nat) : Below B w (w.drewN n) := ⟨rfl, rfl, rfl, Nat.le_refl _, fun _ _ => rfl⟩

def tot (B : Nat) (P : Nat → Nat) : Nat → Nat
  | 0 => 0
  | n + 1 => tot B P n + P n * B ^ n
theorem tot_succ (B : Nat) (P : Nat → Nat) (n : Nat) : tot B P (n + 1) = tot B P n + P n * B ^ n := rfl
theorem tot_upd_ge (B : Nat) (P : Nat → Nat) (k v : Nat) : ∀ n, n ≤ k → tot B (upd P k v) n = tot B P n
  | 0, _ => rfl
  | n + 1, h => by
    rw [tot_succ, tot_succ, tot_upd_ge B P k v n (by omega)]
    unfold upd
    rw [if_neg (by omega)]
theorem tot_upd (B : Nat) (P : Nat → Nat) (k v : Nat) : ∀ n, k < n → tot B (upd P k v) n + P k * B ^ k = tot B P n + v * B ^ k
  | n + 1, h => by
    rw [tot_succ, tot_succ]
    by_cases e : k = n
    · subst e
      rw [tot_upd_ge B P k v k (Nat.le_refl _)]
      unfold upd
      rw [if_pos rfl]; omega
    · have := tot_upd B P k v n (by omega)
      have e' : upd P k v n = P n := by unfold upd; rw [if_neg (by omega)]
      rw [e']; omega
theorem tot_zero (B : Nat) (P : Nat → Nat) (h : ∀ k, P k = 0) : ∀ n, tot B P n = 0
  | 0 => rfl
  | n + 1 => by rw [tot_succ, tot_zero B P h n, h n, Nat.zero_mul]
theorem tot_lt (B : Nat) (P : Nat → Nat) (hB : 0 < B) : ∀ n, (∀ k, k < n → P k < B) → tot B P n < B ^ n
  | 0, _ => by simp [tot]
  | n + 1, h => by
    have h1 := tot_lt B P hB n (fun k hk => h k (by omega))
    have h2 := Nat.mul_le_mul_right (B ^ n) (show P n + 1 ≤ B by have := h n (by omega); omega)
    rw [tot_succ, Nat.pow_succ, Nat.mul_comm (B ^ n) B]
    rw [Nat.add_mul, Nat.one_mul] at h2
    omega

/-- One step of the school's product: the digit at place k takes in a product and what was carried over. -/
theorem step_arith {B : Nat} {P : Nat → Nat} {n k x o d o' T : Nat} (hk : k < n) (he : d + B * o' = x + P k + o) (hT : tot B P n + o * B ^ k = T) :
    tot B (upd P k d) n + o' * B ^ (k + 1) = T + x * B ^ k := by
  have h1 := tot_upd B P k d n hk
  have h2 : d * B ^ k + o' * B ^ (k + 1) = x * B ^ k + P k * B ^ k + o * B ^ k := by
    rw [Nat.pow_succ, ← Nat.add_mul, ← Nat.add_mul, ← he, Nat.add_mul]
    congr 1
    rw [Nat.mul_comm (B ^ k) B, ← Nat.mul_assoc, Nat.mul_comm o' B]
  omega
/-! ### The school's product over a base R: n digits by n digits into 2n -/
section
variable {R n : Nat} {A B P : Nat → Nat} {i j o d o' : Nat}
theorem tot_split (R : Nat) (P : Nat → Nat) (n : Nat) : ∀ m, tot R P (n + m) = tot R P n + R ^ n * tot R (fun k => P (n + k)) m
  | 0 => by rw [Nat.add_zero]; show _ = _ + R ^ n * 0; rw [Nat.mul_zero, Nat.add_zero]
  | m + 1 => by
    rw [show n + (m + 1) = n + m + 1 by omega, tot_succ, tot_split R P n m, tot_succ, Nat.mul_add, Nat.pow_add, ← Nat.mul_assoc (R ^ n), Nat.add_assoc]
    rw [Nat.mul_comm (P (n + m)) (R ^ n * R ^ m), Nat.mul_right_comm]
end
theorem val4_tot (P : Nat → Nat) : val4 (P 0) (P 1) (P 2) (P 3) = tot 18446744073709551616 P 4 := by
  unfold val4
  simp only [tot]
  omega
end Go.Proofs.Ytebaoemoeckgaaa
namespace Go.Proofs.Ytebaoemoeckgaaa
set_option linter.unusedVariables false
open Go.RowKit

def bitOf (A i : Nat) : Nat := A / 2 ^ i % 2
theorem bitOf_01 (A i : Nat) : bitOf A i = 0 ∨ bitOf A i = 1 := by unfold bitOf; omega
theorem tot_shift (R : Nat) (P : Nat → Nat) (n : Nat) : tot R P (n + 1) = P 0 + R * tot R (fun k => P (1 + k)) n := by
  have := tot_split R P 1 n
  rw [Nat.add_comm n 1, this]
  simp [tot]
theorem word_bit (P : Nat → Nat) (hP : ∀ k, P k < 18446744073709551616) (n j k : Nat) (hj : j < n) (hk : k < 64) : bitOf (tot 18446744073709551616 P n) (64 * j + k) = P j / 2 ^ k % 2 := by
  obtain ⟨m, rfl⟩ : ∃ m, n = j + (m + 1) := ⟨n - j - 1, by omega⟩
  have h1 := tot_split 18446744073709551616 P j (m + 1)
  have h2 := tot_shift 18446744073709551616 (fun k => P (j + k)) m
  have h3 := tot_lt 18446744073709551616 P (by omega) j (fun k _ => hP k)
  unfold bitOf
  rw [h1, h2, pow_n, ← Nat.div_div_eq_div_mul, Nat.add_mul_div_left _ _ (by exact Nat.pow_pos (by omega)), Nat.div_eq_of_lt h3, Nat.zero_add]
  have e : 18446744073709551616 = 2 ^ k * (2 * 2 ^ (63 - k)) := by
    rw [← Nat.pow_succ', ← Nat.pow_add, show k + (63 - k).succ = 64 by omega]
  show (P j + 18446744073709551616 * _) / 2 ^ k % 2 = _
  generalize tot 18446744073709551616 (fun k => P (j + (1 + k))) m = H
  rw [show 18446744073709551616 * H = 2 ^ k * (2 * 2 ^ (63 - k)) * H by rw [← e], Nat.mul_assoc, Nat.add_mul_div_left _ _ (by exact Nat.pow_pos (by omega)), Nat.mul_assoc, Nat.add_mul_mod_self_left]

theorem ex_ix {i : Nat} (h : i < 256) : ∃ j k : Nat, (i : Int) / 64 = (j : Int) ∧ (i : Int) % 64 = (k : Int) ∧ j < 4 ∧ k < 64 ∧ Hid (i = 64 * j + k) :=
  ⟨i / 64, i % 64, by omega, by omega, by omega, by omega, Lib.hid (by omega)⟩
theorem and_one64 (x : Nat) (hx : x < 18446744073709551616) : bits .and .u64 (x : Int) 1 = ((x % 2 : Nat) : Int) := by
  rw [show (1 : Int) = ((1 : Nat) : Int) from rfl, bits_and_u64_nat _ _ hx (by omega), Nat.and_one_is_mod]
theorem ex_bit {x k b : Nat} (hx : x < 18446744073709551616) (hb : x / 2 ^ k % 2 = b) : ∃ s : Nat, (x : Int) / 2 ^ k = (s : Int) ∧ bits .and .u64 (s : Int) 1 = (b : Int) ∧ s < 18446744073709551616 := by
  have hs : x / 2 ^ k < 18446744073709551616 := Nat.lt_of_le_of_lt (Nat.div_le_self _ _) hx
  exact ⟨x / 2 ^ k, by rw [Int.natCast_ediv, Int.natCast_pow]; rfl, by rw [and_one64 _ hs, hb], hs⟩
theorem bit_step (A i : Nat) : A / 2 ^ i = 2 * (A / 2 ^ (i + 1)) + bitOf A i := by
  unfold bitOf
  rw [Nat.pow_succ, ← Nat.div_div_eq_div_mul]
  omega
end Go.Proofs.Ytebaoemoeckgaaa
namespace Go.Proofs.Ytebaoemoeckgaaa
set_option linter.unusedVariables false
set_option linter.unusedSimpArgs false
open Go.RowKit

/-- what was laid since w, told row by row -/
def Mem (w wr : World) (rs : List (Nat × Nat × Nat × Nat × Nat)) : Prop :=
  Below w.heap.size w wr ∧ ∀ r, r ∈ rs → r.1 < wr.heap.size ∧ Row4 wr r.1 r.2.1 r.2.2.1 r.2.2.2.1 r.2.2.2.2
theorem Mem.nil (w : World) : Mem w w [] := ⟨Below.refl _ _, fun _ h => by cases h⟩
theorem Mem.on {w wr w' : World} {rs : List (Nat × Nat × Nat × Nat × Nat)} (h : Mem w wr rs) (hb : Below wr.heap.size wr w') : Mem w w' rs :=
  ⟨h.1.trans (hb.mono h.1.size), fun r hr => ⟨Nat.lt_of_lt_of_le (h.2 r hr).1 hb.size, (h.2 r hr).2.below hb (h.2 r hr).1⟩⟩
theorem Mem.drewN {w wr : World} {rs : List (Nat × Nat × Nat × Nat × Nat)} (h : Mem w wr rs) (n : Nat) : Mem w (wr.drewN n) rs := h.on (below_drewN' _ _ n)
theorem Mem.new {w wr : World} {rs : List (Nat × Nat × Nat × Nat × Nat)} (h : Mem w wr rs) (b c0 c1 c2 c3 : Nat) (t : TypeId) (hb : b = wr.heap.size) :
    Mem w (wr.alloc (.cells #[.int .u64 c0, .int .u64 c1, .int .u64 c2, .int .u64 c3] t)) ((b, c0, c1, c2, c3) :: rs) := by
  subst hb
  have hB : Below wr.heap.size wr (wr.alloc (.cells #[.int .u64 c0, .int .u64 c1, .int .u64 c2, .int .u64 c3] t)) := (Below.refl _ _).alloc (Nat.le_refl _) _
  refine ⟨(h.on hB).1, fun r hr => ?_⟩
  rcases List.mem_cons.1 hr with e | hr
  · rw [e]
    exact ⟨by simp, Row4.new wr c0 c1 c2 c3 t⟩
  · exact (h.on hB).2 r hr
theorem Mem.get {w wr : World} {rs : List (Nat × Nat × Nat × Nat × Nat)} (h : Mem w wr rs) {b c0 c1 c2 c3 : Nat} (hm : (b, c0, c1, c2, c3) ∈ rs) : b < wr.heap.size ∧ Row4 wr b c0 c1 c2 c3 := h.2 _ hm
theorem Mem.sub {w wr : World} {rs rs' : List (Nat × Nat × Nat × Nat × Nat)} (h : Mem w wr rs) (hs : ∀ r, r ∈ rs' → r ∈ rs) : Mem w wr rs' := ⟨h.1, fun r hr => h.2 r (hs r hr)⟩
/-- a row written anew -/
theorem Mem.put {w wr : World} {rs : List (Nat × Nat × Nat × Nat × Nat)} {b c0 c1 c2 c3 : Nat} (h : Mem w wr ((b, c0, c1, c2, c3) :: rs)) (d0 d1 d2 d3 : Nat) (hw : w.heap.size ≤ b) (hne : ∀ r, r ∈ rs → r.1 ≠ b) :
    Mem w (set4 wr b d0 d1 d2 d3) ((b, d0, d1, d2, d3) :: rs) := by
  refine ⟨below_set4 h.1 hw _ _ _ _, fun r hr => ?_⟩
  have hs : (set4 wr b d0 d1 d2 d3).heap.size = wr.heap.size := by unfold set4; simp only [World.size_setCell]
  rcases List.mem_cons.1 hr with e | hr
  · rw [e]
    exact ⟨by rw [hs]; exact (h.2 _ List.mem_cons_self).1, (h.2 _ List.mem_cons_self).2.set4 _ _ _ _⟩
  · exact ⟨by rw [hs]; exact (h.2 r (List.mem_cons_of_mem _ hr)).1, (h.2 r (List.mem_cons_of_mem _ hr)).2.set4_other (fun e => hne r hr e.symm) _ _ _ _⟩
end Go.Proofs.Ytebaoemoeckgaaa
