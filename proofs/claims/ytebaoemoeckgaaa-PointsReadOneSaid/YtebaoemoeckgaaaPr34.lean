/-
  The calls of taken on 32 bytes: the mark and X. Conditions: the bytes are below 256 and the slice's capacity is no less than 32.
  Powers in commutative rings; where p times anything is 0, the p-th power of a sum is the sum of the p-th powers. Conditions: none.
  In the tower the p-th power is the map of coefficients. Conditions: none.
  The cyclotomic subgroup of Fp12: three equations over Fp4, and the square there. Conditions: none.
  Squares and roots in Fp and Fp2. Conditions: none.
  As till_take of the region's laws, where the condition stands behind every operation: no last one. Of whatever program. Conditions: as the law says.
  FieldSums: the helpers two and same, and the statement where something may not be. Conditions: words below 2^64.
  FieldSquares: a product is a square just if both or none of its factors are; a root's square is the element: the cases. Conditions: words below 2^64.
  The reference's Sqrt, for either field: an element with a root: the lower one; else refused. Conditions: the element is below the modulus.
-/
import Derived.Test.YtebaoemoeckgaaaPr33
import Derived.Test.YtebaoemoeckgaaaPr16
import Derived.Test.YtebaoemoeckgaaaPr19
import Derived.Test.YtebaoemoeckgaaaPr01
import Derived.Test.YtebaoemoeckgaaaPr20
import Derived.Test.YtebaoemoeckgaaaPr10
import Derived.Test.YtebaoemoeckgaaaPr12
import Derived.Test.YtebaoemoeckgaaaPr13
import Derived.Test.YtebaoemoeckgaaaPr24
import Derived.Test.YtebaoemoeckgaaaPr25
import Derived.Test.YtebaoemoeckgaaaPr18
namespace Go.Proofs.Ytebaoemoeckgaaa.Ex
set_option linter.unusedVariables false
set_option linter.unusedSimpArgs false
open Go.RowKit

def u8? : At → Option Nat
  | .c (.int .u8 (.ofNat b)) => some b
  | _ => none
def bys : List At → Option (List Nat)
  | [] => some []
  | a :: r => match u8? a, bys r with | some x, some l => some (x :: l) | _, _ => none
theorem bys_cell : ∀ {l : List At} {L : List Nat}, bys l = some L → ∀ k, k < L.length → (flat l)[k]? = some (.int .u8 (Int.ofNat (L.getD k 0)))
  | [], L, h, k, hk => by cases h; exact absurd hk (by simp)
  | a :: r, L, h, k, hk => by
    unfold bys at h
    split at h
    · rename_i x l' h1 h2
      cases h
      have ha : a.cells = [.int .u8 (Int.ofNat x)] := by
        unfold u8? at h1
        split at h1
        · cases h1; rfl
        · cases h1
      show (a.cells ++ flat r)[k]? = _
      rw [ha]
      cases k with
      | zero => rfl
      | succ k => exact bys_cell h2 k (by simpa using hk)
    · cases h
/-- 32 bytes -/
def L8 (L : List Nat) : Prop := L.length = 32 ∧ ∀ k, L.getD k 0 < 256
/-- their number, the highest first -/
def hv (L : List Nat) : Nat := Go.Proofs.Ytebaoemoeckgaaa.hor (fun k => L.getD k 0) 0 32
def wl (N : Nat) : List At := [.c (.int .u64 (Int.ofNat (fw N 0))), .c (.int .u64 (Int.ofNat (fw N 1))), .c (.int .u64 (Int.ofNat (fw N 2))), .c (.int .u64 (Int.ofNat (fw N 3)))]
def gRd : Ent
  | [c] => match lenC c with
    | some (l, 32) => (match bys l with | some L => some ([L8 (L.take 32)], .many [.fl (wl (hv (L.take 32))), .im (.int .i64 0)]) | none => none)
    | _ => none
  | _ => none
theorem hv_lt {L : List Nat} (h : L8 L) : hv L < 115792089237316195423570985008687907853269984665640564039457584007913129639936 := by
  have := hor_lt (B := fun k => L.getD k 0) h.2 0 32
  exact Nat.lt_of_lt_of_le this (by decide)
theorem lenC_at {c : CA} {l : List At} {n : Nat} (h : lenC c = some (l, n)) {w : World} {v : Value} (hc : c.ok w v) : ∃ b o m, v = .slice (some ⟨b, o, none⟩) n m ∧ b < w.heap.size ∧ w.rangeAt b o (flat l) := by
  cases c with
  | v x => cases h
  | s l' n' m =>
    cases h
    obtain ⟨b, o, e, hb, hr⟩ := hc
    exact ⟨b, o, m, e, hb, hr⟩
  | so l' n' =>
    cases h
    obtain ⟨b, o, m, e, hb, hr⟩ := hc
    exact ⟨b, o, m, e, hb, hr⟩
theorem gRd_ok : ∀ cs pre r, gRd cs = some (pre, r) → allP pre → ∀ (args : List Value) (w : World), CAs w cs args → Good Try.prog 55 r args w := by
  intro cs pre r hg hp args w ha
  unfold gRd at hg
  split at hg
  · rename_i c
    split at hg
    · rename_i l hl
      split at hg
      · rename_i L hL
        cases hg
        have h8 : L8 (L.take 32) := hp.1
        have hle : 32 ≤ L.length := by have := h8.1; rw [List.length_take] at this; omega
        have htk : ∀ k, k < 32 → (L.take 32).getD k 0 = L.getD k 0 := fun k hk => by rw [List.getD_eq_getElem?_getD, List.getElem?_take, if_pos hk, ← List.getD_eq_getElem?_getD]
        match args, ha with
        | [v], ha =>
          obtain ⟨b, o, m, rfl, hb, hr⟩ := lenC_at hl (by have := ha; cases c <;> exact this.1)
          have h := read_32 b o m (fun k => (L.take 32).getD k 0) h8.2 w hb fun k hk => hr k _ (by have h := bys_cell hL k (by omega); rw [← htk k hk] at h; exact h)
          refine h.mono ?_
          rintro e w' ⟨s0, s1, s2, s3, c', rfl, hs, ⟨h1, rfl⟩, hbl⟩
          obtain ⟨rfl, rfl, rfl, rfl⟩ := fw_of hs (hv_lt h8) h1
          exact ⟨rfl, hbl⟩
        | [], ha => cases c <;> exact ha.elim
        | _ :: _ :: _, ha => cases c <;> exact ha.2.elim
      · cases hg
    · cases hg
  · cases hg


def bL (B : Nat → Nat) : List At := [.c (.int .u8 (Int.ofNat (B 0))), .c (.int .u8 (Int.ofNat (B 1))), .c (.int .u8 (Int.ofNat (B 2))), .c (.int .u8 (Int.ofNat (B 3))), .c (.int .u8 (Int.ofNat (B 4))), .c (.int .u8 (Int.ofNat (B 5))), .c (.int .u8 (Int.ofNat (B 6))), .c (.int .u8 (Int.ofNat (B 7))), .c (.int .u8 (Int.ofNat (B 8))), .c (.int .u8 (Int.ofNat (B 9))), .c (.int .u8 (Int.ofNat (B 10))), .c (.int .u8 (Int.ofNat (B 11))), .c (.int .u8 (Int.ofNat (B 12))), .c (.int .u8 (Int.ofNat (B 13))), .c (.int .u8 (Int.ofNat (B 14))), .c (.int .u8 (Int.ofNat (B 15))), .c (.int .u8 (Int.ofNat (B 16))), .c (.int .u8 (Int.ofNat (B 17))), .c (.int .u8 (Int.ofNat (B 18))), .c (.int .u8 (Int.ofNat (B 19))), .c (.int .u8 (Int.ofNat (B 20))), .c (.int .u8 (Int.ofNat (B 21))), .c (.int .u8 (Int.ofNat (B 22))), .c (.int .u8 (Int.ofNat (B 23))), .c (.int .u8 (Int.ofNat (B 24))), .c (.int .u8 (Int.ofNat (B 25))), .c (.int .u8 (Int.ofNat (B 26))), .c (.int .u8 (Int.ofNat (B 27))), .c (.int .u8 (Int.ofNat (B 28))), .c (.int .u8 (Int.ofNat (B 29))), .c (.int .u8 (Int.ofNat (B 30))), .c (.int .u8 (Int.ofNat (B 31)))]
def bN (B : Nat → Nat) : List Nat := [B 0, B 1, B 2, B 3, B 4, B 5, B 6, B 7, B 8, B 9, B 10, B 11, B 12, B 13, B 14, B 15, B 16, B 17, B 18, B 19, B 20, B 21, B 22, B 23, B 24, B 25, B 26, B 27, B 28, B 29, B 30, B 31]
def gTells : Ent
  | [.v (.im (.int .u8 (.ofNat m)))] => bif Nat.blt m 4 then some ([], .one (.im (.bool (Nat.beq m 2 || Nat.beq m 3)))) else none
  | _ => none
set_option maxRecDepth 100000 in
theorem run_tells0 : funB Try.prog (qG Try.prog) (fun _ => ⟨fun _ => T0, fun _ => true, fun _ => none⟩) Try.f33 60 [.v (.im (.int .u8 0))] = some ([], .one (.im (.bool false))) := by kernel_rfl
set_option maxRecDepth 100000 in
theorem run_tells1 : funB Try.prog (qG Try.prog) (fun _ => ⟨fun _ => T0, fun _ => true, fun _ => none⟩) Try.f33 60 [.v (.im (.int .u8 1))] = some ([], .one (.im (.bool false))) := by kernel_rfl
set_option maxRecDepth 100000 in
theorem run_tells2 : funB Try.prog (qG Try.prog) (fun _ => ⟨fun _ => T0, fun _ => true, fun _ => none⟩) Try.f33 60 [.v (.im (.int .u8 2))] = some ([], .one (.im (.bool true))) := by kernel_rfl
set_option maxRecDepth 100000 in
theorem run_tells3 : funB Try.prog (qG Try.prog) (fun _ => ⟨fun _ => T0, fun _ => true, fun _ => none⟩) Try.f33 60 [.v (.im (.int .u8 3))] = some ([], .one (.im (.bool true))) := by kernel_rfl
theorem gTells_ok : ∀ cs pre r, gTells cs = some (pre, r) → allP pre → ∀ (args : List Value) (w : World), CAs w cs args → Good Try.prog 33 r args w := by
  intro cs pre r hg hp args w ha
  unfold gTells at hg
  split at hg
  · rename_i m
    match m, hg with
    | 0, hg => cases hg; exact funB_sound hmix (fun _ _ => T0_ok _) (qG_ok Try.prog) Try.func33 run_tells0 trivial ha
    | 1, hg => cases hg; exact funB_sound hmix (fun _ _ => T0_ok _) (qG_ok Try.prog) Try.func33 run_tells1 trivial ha
    | 2, hg => cases hg; exact funB_sound hmix (fun _ _ => T0_ok _) (qG_ok Try.prog) Try.func33 run_tells2 trivial ha
    | 3, hg => cases hg; exact funB_sound hmix (fun _ _ => T0_ok _) (qG_ok Try.prog) Try.func33 run_tells3 trivial ha
    | m + 4, hg =>
      have hb : Nat.blt (m + 4) 4 = false := Bool.eq_false_iff.2 fun h => absurd (Nat.le_of_ble_eq_true h) (by omega)
      rw [hb] at hg
      cases hg
  · cases hg
def T_tk : Tab := (T0.add 55 gRd).add 33 gTells
theorem ok_tk : TabOk Try.prog T_tk := ((T0_ok _).add Try.func55 (by kernel_rfl) (by kernel_rfl) gRd_ok).add Try.func33 (by kernel_rfl) (by kernel_rfl) gTells_ok
def xT (a m : Nat) : Ext := x3 Fs0 Wr0 (assoc [(33, .int .u8 (Int.ofNat m)), (84, .int .u64 (Int.ofNat (4 * a % 18446744073709551616))), (85, .int .u64 (Int.ofNat (a % 4611686018427387904)))]) (fun i => bif Nat.beq i 54 then some (2, [.q 0, .q 0]) else none)
theorem xT_ok (a m : Nat) (w : World) : EqOkW Try.prog (qY Try.prog (xT a m)) w.heap.size w := x3_ok (Fs0_ok _) (Wr0_ok _) w
/-- two elements are made -/
def MkE2 : Prop := ∃ e, ∀ w : World, (Instr.makeSlice 59 (.int .i64 2) (.int .i64 2)).run Try.prog w = .ok (.slice (some ⟨w.heap.size, 0, none⟩) 2 2) (w.alloc (.cells (flat [.q 0, .q 0]).toArray e))
theorem mkE2_ok : MkE2 :=
  made' (P := Try.prog) (t := 59) (e := 24) (z := [.q 0]) (v := .int .u64 0) (N := 2) (n := 4) (by8 := 32) (by kernel_rfl) (by kernel_rfl) rfl (show flat [At.q 0] = List.replicate (flat [At.q 0]).length (Value.int .u64 0) from by kernel_rfl) (by omega) (by omega) (by omega)

set_option maxRecDepth 100000 in
theorem run_tk1 (B : Nat → Nat) (c : Nat) : funS Try.prog (qY Try.prog (xT (fw (hv (bN B)) 3) 1)) (cfB T_tk) Try.f32 100 [.s (bL B) 32 c, .v (.im (.int .i64 1))] = some ([Bin .shr 5 (.tmp 32) (.const (.int .u64 6)) (.int .u8 (Int.ofNat (B 0))) (.int .u64 6) (.int .u8 (Int.ofNat 1)), MkE2, 0 ≤ 32, 32 ≤ c, 0 < c, L8 (bN B), Bin .shl 22 (.tmp 83) (.const (.int .u64 2)) (.int .u64 (Int.ofNat (fw (hv (bN B)) 3))) (.int .u64 2) (.int .u64 (Int.ofNat (4 * fw (hv (bN B)) 3 % 18446744073709551616))), Bin .shr 22 (.tmp 84) (.const (.int .u64 2)) (.int .u64 (Int.ofNat (4 * fw (hv (bN B)) 3 % 18446744073709551616))) (.int .u64 2) (.int .u64 (Int.ofNat (fw (hv (bN B)) 3 % 4611686018427387904)))], ⟨[.c (.int .u64 (Int.ofNat (fw (hv (bN B)) 0))), .c (.int .u64 (Int.ofNat (fw (hv (bN B)) 1))), .c (.int .u64 (Int.ofNat (fw (hv (bN B)) 2))), .c (.int .u64 (Int.ofNat (fw (hv (bN B)) 3 % 4611686018427387904))), .q 0], 2, 0, 0, false, [.im (.int .u8 (Int.ofNat 1))], [.im (.int .i64 0)]⟩) := by kernel_rfl
set_option maxRecDepth 100000 in
theorem run_tk2 (B : Nat → Nat) (c : Nat) : funS Try.prog (qY Try.prog (xT (fw (hv (bN B)) 3) 2)) (cfB T_tk) Try.f32 100 [.s (bL B) 32 c, .v (.im (.int .i64 1))] = some ([Bin .shr 5 (.tmp 32) (.const (.int .u64 6)) (.int .u8 (Int.ofNat (B 0))) (.int .u64 6) (.int .u8 (Int.ofNat 2)), MkE2, 0 ≤ 32, 32 ≤ c, 0 < c, L8 (bN B), Bin .shl 22 (.tmp 83) (.const (.int .u64 2)) (.int .u64 (Int.ofNat (fw (hv (bN B)) 3))) (.int .u64 2) (.int .u64 (Int.ofNat (4 * fw (hv (bN B)) 3 % 18446744073709551616))), Bin .shr 22 (.tmp 84) (.const (.int .u64 2)) (.int .u64 (Int.ofNat (4 * fw (hv (bN B)) 3 % 18446744073709551616))) (.int .u64 2) (.int .u64 (Int.ofNat (fw (hv (bN B)) 3 % 4611686018427387904)))], ⟨[.c (.int .u64 (Int.ofNat (fw (hv (bN B)) 0))), .c (.int .u64 (Int.ofNat (fw (hv (bN B)) 1))), .c (.int .u64 (Int.ofNat (fw (hv (bN B)) 2))), .c (.int .u64 (Int.ofNat (fw (hv (bN B)) 3 % 4611686018427387904))), .q 0], 2, 0, 0, false, [.im (.int .u8 (Int.ofNat 2))], [.im (.int .i64 0)]⟩) := by kernel_rfl
set_option maxRecDepth 100000 in
theorem run_tk3 (B : Nat → Nat) (c : Nat) : funS Try.prog (qY Try.prog (xT (fw (hv (bN B)) 3) 3)) (cfB T_tk) Try.f32 100 [.s (bL B) 32 c, .v (.im (.int .i64 1))] = some ([Bin .shr 5 (.tmp 32) (.const (.int .u64 6)) (.int .u8 (Int.ofNat (B 0))) (.int .u64 6) (.int .u8 (Int.ofNat 3)), MkE2, 0 ≤ 32, 32 ≤ c, 0 < c, L8 (bN B), Bin .shl 22 (.tmp 83) (.const (.int .u64 2)) (.int .u64 (Int.ofNat (fw (hv (bN B)) 3))) (.int .u64 2) (.int .u64 (Int.ofNat (4 * fw (hv (bN B)) 3 % 18446744073709551616))), Bin .shr 22 (.tmp 84) (.const (.int .u64 2)) (.int .u64 (Int.ofNat (4 * fw (hv (bN B)) 3 % 18446744073709551616))) (.int .u64 2) (.int .u64 (Int.ofNat (fw (hv (bN B)) 3 % 4611686018427387904)))], ⟨[.c (.int .u64 (Int.ofNat (fw (hv (bN B)) 0))), .c (.int .u64 (Int.ofNat (fw (hv (bN B)) 1))), .c (.int .u64 (Int.ofNat (fw (hv (bN B)) 2))), .c (.int .u64 (Int.ofNat (fw (hv (bN B)) 3 % 4611686018427387904))), .q 0], 2, 0, 0, false, [.im (.int .u8 (Int.ofNat 3))], [.im (.int .i64 0)]⟩) := by kernel_rfl
set_option maxRecDepth 100000 in
theorem run_tk0 (B : Nat → Nat) (c : Nat) : funB Try.prog (qY Try.prog (xT (fw (hv (bN B)) 3) 0)) (cfB T_tk) Try.f32 100 [.s (bL B) 32 c, .v (.im (.int .i64 1))] = some ([Bin .shr 5 (.tmp 32) (.const (.int .u64 6)) (.int .u8 (Int.ofNat (B 0))) (.int .u64 6) (.int .u8 (Int.ofNat 0))], .many [.im (.int .u8 0), .im (.slice none 0 0), .im (.int .i64 44)]) := by kernel_rfl


/-- X without the mark -/
def xv (N : Nat) : Nat := N % 28948022309329048855892746252171976963317496166410141009864396001978282409984
theorem tk_flat (N : Nat) : flat [.c (.int .u64 (Int.ofNat (fw N 0))), .c (.int .u64 (Int.ofNat (fw N 1))), .c (.int .u64 (Int.ofNat (fw N 2))), .c (.int .u64 (Int.ofNat (fw N 3 % 4611686018427387904))), .q 0] = flat [.q (xv N), .q 0] := by
  have h0 : fw N 0 = fw (xv N) 0 := by
    show N / 1 % 18446744073709551616 = N % 28948022309329048855892746252171976963317496166410141009864396001978282409984 / 1 % 18446744073709551616
    omega
  have h1 : fw N 1 = fw (xv N) 1 := by
    show N / 18446744073709551616 % 18446744073709551616 = N % 28948022309329048855892746252171976963317496166410141009864396001978282409984 / 18446744073709551616 % 18446744073709551616
    omega
  have h2 : fw N 2 = fw (xv N) 2 := by
    show N / 340282366920938463463374607431768211456 % 18446744073709551616 = N % 28948022309329048855892746252171976963317496166410141009864396001978282409984 / 340282366920938463463374607431768211456 % 18446744073709551616
    omega
  have h3 : fw N 3 % 4611686018427387904 = fw (xv N) 3 := by
    show N / 6277101735386680763835789423207666416102355444464034512896 % 18446744073709551616 % 4611686018427387904 = N % 28948022309329048855892746252171976963317496166410141009864396001978282409984 / 6277101735386680763835789423207666416102355444464034512896 % 18446744073709551616
    omega
  rw [h0, h1, h2, h3]
  rfl
theorem bin_shl2 {t : Nat} {x y : Operand} {a : Nat} (ha : a < 18446744073709551616) : Bin .shl t x y (.int .u64 (Int.ofNat a)) (.int .u64 2) (.int .u64 (Int.ofNat (4 * a % 18446744073709551616))) := fun w => by
  simp only [Int.ofNat_eq_natCast]
  simp [eqGuard, binOp, go_sem]
  rw [show ∀ z : Int, IntKind.u64.wrap z = z % 18446744073709551616 from fun _ => rfl]
  omega
theorem bin_shr2 {t : Nat} {x y : Operand} {a : Nat} (ha : a < 18446744073709551616) : Bin .shr t x y (.int .u64 (Int.ofNat (4 * a % 18446744073709551616))) (.int .u64 2) (.int .u64 (Int.ofNat (a % 4611686018427387904))) := fun w => by
  simp only [Int.ofNat_eq_natCast]
  simp [eqGuard, binOp, go_sem]
  omega
end Go.Proofs.Ytebaoemoeckgaaa.Ex
namespace Go.Proofs.Ytebaoemoeckgaaa.Ex
set_option linter.unusedVariables false
set_option linter.unusedSimpArgs false

section
variable {R : Type} (K : CR R)
def pwK (x : R) : Nat → R
  | 0 => K.one
  | n + 1 => K.mul (pwK x n) x
end
end Go.Proofs.Ytebaoemoeckgaaa.Ex
namespace Go.Proofs.Ytebaoemoeckgaaa.Ex
set_option linter.unusedVariables false
set_option linter.unusedSimpArgs false

theorem pwF1 (x : Fq) : ∀ n, (pwK F1 x n).1 = x.1 ^ n % FP.M
  | 0 => rfl
  | n + 1 => by show (pwK F1 x n).1 * x.1 % FP.M = _; rw [pwF1 x n, Nat.pow_succ, Nat.mod_mul_mod]
theorem pow_pred (x m : Nat) (h : 0 < m) : x ^ m = x ^ (m - 1) * x := by
  obtain ⟨n, rfl⟩ : ∃ n, m = n + 1 := ⟨m - 1, by omega⟩
  rw [Nat.add_sub_cancel, Nat.pow_succ]
theorem p1 (x : Fq) : pwK F1 x FP.M = x := by
  apply Fin.ext
  rw [pwF1]
  rcases Nat.eq_zero_or_pos x.1 with h | h
  · rw [pow_pred x.1 FP.M fp_pos, h, Nat.mul_zero, Nat.zero_mod]
  · have := ferm h x.2
    rw [pow_pred x.1 FP.M fp_pos, Nat.mul_mod, this, Nat.one_mul, Nat.mod_mod, Nat.mod_eq_of_lt x.2]
def i2 (a : Fq) : Q2 := (a, F1.zero)
def u2 : Q2 := (F1.zero, F1.one)
end Go.Proofs.Ytebaoemoeckgaaa.Ex
namespace Go.Proofs.Ytebaoemoeckgaaa.Ex
set_option linter.unusedVariables false
set_option linter.unusedSimpArgs false
set_option maxRecDepth 10000
theorem sub_zero_of {R : Type} (K : CR R) {a b : R} (h : K.sub a b = K.zero) : a = b := by
  have h1 : K.add (K.add a (K.neg b)) b = b := by
    rw [show K.add a (K.neg b) = K.zero from h, K.zero_add]
  rw [K.add_assoc, K.neg_add, K.add_zero] at h1
  exact h1
theorem sub_self' {R : Type} (K : CR R) (a : R) : K.sub a a = K.zero := K.add_neg a
end Go.Proofs.Ytebaoemoeckgaaa.Ex
namespace Go.Proofs.Ytebaoemoeckgaaa.Ex
set_option linter.unusedVariables false
set_option linter.unusedSimpArgs false
set_option maxRecDepth 10000
theorem sq_pm {R : Type} {K : CR R} (hF : Fld K) {a b : R} (h : K.mul a a = K.mul b b) : a = b ∨ a = K.neg b := by
  have h1 : K.mul (K.sub a b) (K.add a b) = K.zero := by
    have : K.mul (K.sub a b) (K.add a b) = K.sub (K.mul a a) (K.mul b b) :=
      ring_id K (envL K [a, b]) (.mul (.add (.v 0) (.neg (.v 1))) (.add (.v 0) (.v 1))) (.add (.mul (.v 0) (.v 0)) (.neg (.mul (.v 1) (.v 1)))) (by decide)
    rw [this, h, sub_self']
  by_cases h2 : K.sub a b = K.zero
  · exact Or.inl (sub_zero_of K h2)
  · refine Or.inr ?_
    have h3 := hF.zd h1 h2
    refine sub_zero_of K ?_
    show K.add a (K.neg (K.neg b)) = K.zero
    rw [K.neg_neg]
    exact h3
theorem ep_val' : ok4 5694840236247301970 7340967054546858659 7931984006246061591 871749566700742666 ∧ val4 5694840236247301970 7340967054546858659 7931984006246061591 871749566700742666 + val4 5694840236247301970 7340967054546858659 7931984006246061591 871749566700742666 = FP.M / 2 + 1 := ⟨by unfold ok4; decide, by kernel_rfl⟩
theorem rootP_sq' {A : Nat} (h : A ^ (FP.M / 2) % FP.M = 1 ∨ A = 0) : A ^ val4 5694840236247301970 7340967054546858659 7931984006246061591 871749566700742666 % FP.M * (A ^ val4 5694840236247301970 7340967054546858659 7931984006246061591 871749566700742666 % FP.M) % FP.M = A % FP.M := by
  rw [← Nat.mul_mod, ← Nat.pow_add, ep_val'.2, Nat.pow_succ, Nat.mul_mod]
  rcases h with h | h
  · rw [h, Nat.one_mul, Nat.mod_mod]
  · subst h; rw [Nat.zero_mod, Nat.mul_zero, Nat.zero_mod]
/-- a square -/
def isq (x : Fq) : Prop := ∃ V : Fq, F1.mul V V = x
/-- is it the lower one, of it and its negative? -/
def lowF (x : Fq) : Bool := lowB FP.M x.1
theorem hM : FP.M = 21888242871839275222246405745257275088696311157297823662689037894645226208583 := by decide
theorem neg_val' (x : Fq) : (F1.neg x).1 = (0 + FP.M - x.1) % FP.M := rfl
theorem neg_pos {x : Fq} (h : x.1 ≠ 0) : (F1.neg x).1 = FP.M - x.1 := by
  have := x.2
  rw [neg_val', Nat.zero_add, Nat.mod_eq_of_lt (by omega)]
theorem low_iff {x : Fq} (h : x.1 ≠ 0) : lowF x = true ↔ x.1 ≤ FP.M - x.1 := by
  have := x.2
  unfold lowF lowB
  rw [decide_eq_true_iff, Nat.zero_add, Nat.mod_eq_of_lt (show FP.M - x.1 < FP.M by omega)]
theorem low_zero : lowF F1.zero = true := by
  unfold lowF lowB
  exact decide_eq_true (Nat.zero_le _)
theorem f1_zero {x : Fq} (h : x.1 = 0) : x = F1.zero := Fin.ext h
theorem low_or (x : Fq) : lowF x = true ∨ lowF (F1.neg x) = true := by
  by_cases h : x.1 = 0
  · rw [f1_zero h]; exact Or.inl low_zero
  · have h2 := x.2
    have hn : (F1.neg x).1 ≠ 0 := by rw [neg_pos h]; omega
    rw [low_iff h, low_iff hn, neg_pos h]
    omega
theorem low_both {x : Fq} (h : lowF x = true) (h' : lowF (F1.neg x) = true) : x = F1.zero := by
  by_cases h0 : x.1 = 0
  · exact f1_zero h0
  · have h2 := x.2
    have hn : (F1.neg x).1 ≠ 0 := by rw [neg_pos h0]; omega
    rw [low_iff h0] at h
    rw [low_iff hn, neg_pos h0] at h'
    have := hM
    omega
theorem low_neg {x : Fq} (h : lowF x = false) : lowF (F1.neg x) = true := (low_or x).resolve_left (by rw [h]; simp)
theorem isq_leg (x : Fq) : isq x ↔ legN FP.M x.1 ≠ -1 := by
  constructor
  · rintro ⟨V, rfl⟩
    show legN FP.M (V.1 * V.1 % FP.M) ≠ -1
    unfold legN
    by_cases h : V.1 = 0
    · rw [h, Nat.zero_mul, Nat.zero_mod, if_pos rfl]; decide
    · split
      · decide
      · rw [if_pos (leg_sq fpRoot (by decide) (by omega) V.2)]; decide
  · intro h
    have hs : x.1 ^ (FP.M / 2) % FP.M = 1 ∨ x.1 = 0 := by
      unfold legN at h
      by_cases h0 : x.1 = 0
      · exact Or.inr h0
      · rw [if_neg h0] at h
        by_cases h1 : x.1 ^ (FP.M / 2) % FP.M = 1
        · exact Or.inl h1
        · rw [if_neg h1] at h; exact absurd rfl h
    refine ⟨⟨x.1 ^ val4 5694840236247301970 7340967054546858659 7931984006246061591 871749566700742666 % FP.M, Nat.mod_lt _ fp_pos⟩, Fin.ext ?_⟩
    exact (rootP_sq' hs).trans (Nat.mod_eq_of_lt x.2)
theorem not_isq (x : Fq) : ¬ isq x ↔ legN FP.M x.1 = -1 := by rw [isq_leg]; exact Decidable.not_not
theorem isq_zero : isq F1.zero := ⟨F1.zero, F1.mul_zero _⟩
open Classical in
/-- the root that is told -/
noncomputable def fsq (x : Fq) : Fq := if h : ∃ V : Fq, F1.mul V V = x ∧ lowF V = true then Classical.choose h else F1.zero
theorem fsq_spec {x : Fq} (h : isq x) : F1.mul (fsq x) (fsq x) = x ∧ lowF (fsq x) = true := by
  have h' : ∃ V : Fq, F1.mul V V = x ∧ lowF V = true := by
    obtain ⟨V, rfl⟩ := h
    rcases low_or V with l | l
    · exact ⟨V, rfl, l⟩
    · exact ⟨F1.neg V, by rw [F1.neg_mul, F1.mul_neg, F1.neg_neg], l⟩
  unfold fsq
  rw [dif_pos h']
  exact Classical.choose_spec h'
theorem fsq_uniq {x V : Fq} (h : F1.mul V V = x) (l : lowF V = true) : fsq x = V := by
  obtain ⟨h1, h2⟩ := fsq_spec ⟨V, h⟩
  rcases sq_pm fld1' (h1.trans h.symm) with e | e
  · exact e
  · have l' := h2
    rw [e] at l'
    have hz := low_both l l'
    rw [e, hz, neg_zero]
theorem fsq_zero : fsq F1.zero = F1.zero := fsq_uniq (F1.mul_zero _) low_zero
/-- which root in Fp2 is told -/
def low2 (r : Q2) : Prop := (r.2 = F1.zero → lowF r.1 = true) ∧ (r.2 ≠ F1.zero → lowF r.2 = true)
open Classical in
noncomputable def rt (x : Q2) : Q2 := if h : ∃ r : Q2, F2.mul r r = x ∧ low2 r then Classical.choose h else F2.zero
/-- a half -/
noncomputable def hf : Fq := finv (fm 2)
/-- the root by the norm's root n, a square s = (a + n) / 2 -/
noncomputable def rr (x : Q2) (s : Fq) : Q2 := (fsq s, F1.mul (F1.mul x.2 hf) (finv (fsq s)))
end Go.Proofs.Ytebaoemoeckgaaa.Ex
namespace Go.Proofs.Ytebaoemoeckgaaa
set_option linter.unusedVariables false

section
variable {P : Program} {ops : Array Oper} {Q : Exit → Act → World → Prop} {md : Region.Mode} {S : World → Prop} {L : Nat}
end
end Go.Proofs.Ytebaoemoeckgaaa
namespace Go.Proofs.Ytebaoemoeckgaaa
set_option linter.unusedVariables false
set_option linter.unusedSimpArgs false
open Go.RowKit

end Go.Proofs.Ytebaoemoeckgaaa
namespace Go.Proofs.Ytebaoemoeckgaaa
set_option linter.unusedVariables false
set_option linter.unusedSimpArgs false
open Go.RowKit

end Go.Proofs.Ytebaoemoeckgaaa
namespace Go.Proofs.Ytebaoemoeckgaaa
set_option linter.unusedVariables false
set_option linter.unusedSimpArgs false
open Go.RowKit

set_option maxRecDepth 100000 in
set_option maxHeartbeats 4000000 in
theorem rsqrt_no (f : Int) (F : FC) (hf : FieldIs f F) (a0 a1 a2 a3 : Nat) (ha : ok4 a0 a1 a2 a3) (hl : legV F.M (val4 a0 a1 a2 a3) = -1) (w : World) :
    Calls Try.prog 38 #[.int .i64 f, .agg #[.int .u64 a0, .int .u64 a1, .int .u64 a2, .int .u64 a3]] w (fun e w' => ∃ s0 s1 s2 s3 : Nat, e = .returned (.tuple #[.agg #[.int .u64 s0, .int .u64 s1, .int .u64 s2, .int .u64 s3], .int .i64 23]) ∧ ok4 s0 s1 s2 s3 ∧ val4 s0 s1 s2 s3 = 0 ∧ Below w.heap.size w w') := by
  go_enter Try.func38, Try.ntmps38
  go_wp2_with fail
  have HM := Lib.hid (((Mem.nil w).new (w.heap.size) a0 a1 a2 a3 24 (by simp)).new (w.heap.size + 1) 0 0 0 0 24 (by simp))
  refine (rleg_calls f F hf a0 a1 a2 a3 ha _).mono ?_
  rintro e w1 ⟨rfl, hbl⟩
  have HM' := Lib.hid (HM.out.on hbl)
  clear hbl
  clear HM
  have HM := HM'
  clear HM'
  rw [hl]
  have kr := HM.out.row (b := w.heap.size + 1) (c0 := 0) (c1 := 0) (c2 := 0) (c3 := 0) (by simp)
  have y0 := kr.c0; have y1 := kr.c1; have y2 := kr.c2; have y3 := kr.c3; have yf := kr.fr
  clear kr
  have yl := HM.out.lt (b := w.heap.size + 1) (c0 := 0) (c1 := 0) (c2 := 0) (c3 := 0) (by simp)
  clear hl
  go_wp2_with fail
  refine bodyPost_ret (v := .tuple #[.agg #[.int .u64 (0 : Nat), .int .u64 (0 : Nat), .int .u64 (0 : Nat), .int .u64 (0 : Nat)], .int .i64 23]) (by simp [results, Try.results38, go_sem, *]) rfl ?_
  refine ⟨_, _, _, _, rfl, zok, rfl, ?_⟩
  exact below_set4 HM.out.1 (by omega) 0 0 0 0
theorem ep_val : ok4 5694840236247301970 7340967054546858659 7931984006246061591 871749566700742666 ∧ val4 5694840236247301970 7340967054546858659 7931984006246061591 871749566700742666 + val4 5694840236247301970 7340967054546858659 7931984006246061591 871749566700742666 = FP.M / 2 + 1 := ⟨by unfold ok4; decide, by kernel_rfl⟩
theorem rootP_sq {A : Nat} (h : A ^ (FP.M / 2) % FP.M = 1 ∨ A = 0) : A ^ val4 5694840236247301970 7340967054546858659 7931984006246061591 871749566700742666 % FP.M * (A ^ val4 5694840236247301970 7340967054546858659 7931984006246061591 871749566700742666 % FP.M) % FP.M = A % FP.M := by
  rw [← Nat.mul_mod, ← Nat.pow_add, ep_val.2, Nat.pow_succ, Nat.mul_mod]
  rcases h with h | h
  · rw [h, Nat.one_mul, Nat.mod_mod]
  · subst h; rw [Nat.zero_mod, Nat.mul_zero, Nat.zero_mod]
set_option maxRecDepth 100000 in
set_option maxHeartbeats 4000000 in
theorem rsqrtP_yes (a0 a1 a2 a3 : Nat) (ha : ok4 a0 a1 a2 a3) (la : val4 a0 a1 a2 a3 < FP.M) (hs : val4 a0 a1 a2 a3 ^ (FP.M / 2) % FP.M = 1 ∨ val4 a0 a1 a2 a3 = 0) (w : World) :
    Calls Try.prog 38 #[.int .i64 1, .agg #[.int .u64 a0, .int .u64 a1, .int .u64 a2, .int .u64 a3]] w (fun e w' => ∃ s0 s1 s2 s3 : Nat, e = .returned (.tuple #[.agg #[.int .u64 s0, .int .u64 s1, .int .u64 s2, .int .u64 s3], .int .i64 0]) ∧ ok4 s0 s1 s2 s3 ∧ val4 s0 s1 s2 s3 * val4 s0 s1 s2 s3 % FP.M = val4 a0 a1 a2 a3 ∧ val4 s0 s1 s2 s3 < FP.M ∧ lowB FP.M (val4 s0 s1 s2 s3) = true ∧ Below w.heap.size w w') := by
  have hf : FieldIs 1 FP := Or.inl ⟨rfl, rfl⟩
  have hok := hf.ok
  have hpos := hok.pos
  have HSq := Lib.hid hs
  have hlv : legV FP.M (val4 a0 a1 a2 a3) = 0 ∨ legV FP.M (val4 a0 a1 a2 a3) = 1 := by
    unfold legV
    rcases hs with h | h
    · right; rw [if_neg (by rw [h]; decide), if_pos h]
    · left; rw [if_pos (by rw [h, Nat.zero_pow (by decide)]; rfl)]
  clear hs
  go_enter Try.func38, Try.ntmps38
  go_wp2_with fail
  have HM := Lib.hid (((Mem.nil w).new (w.heap.size) a0 a1 a2 a3 24 (by simp)).new (w.heap.size + 1) 0 0 0 0 24 (by simp))
  refine (rleg_calls 1 FP hf a0 a1 a2 a3 ha _).mono ?_
  rintro e w1 ⟨rfl, hbl⟩
  have HM' := Lib.hid (HM.out.on hbl)
  clear hbl
  clear HM
  have HM := HM'
  clear HM'
  generalize hlg : legV _ _ = lv at *
  have hll : decide (lv < 0) = false := by rcases hlv with h | h <;> subst h <;> rfl
  clear hlv hlg
  have kr := HM.out.row (b := w.heap.size) (c0 := a0) (c1 := a1) (c2 := a2) (c3 := a3) (by simp)
  have x0 := kr.c0; have x1 := kr.c1; have x2 := kr.c2; have x3 := kr.c3
  clear kr
  have xl := HM.out.lt (b := w.heap.size) (c0 := a0) (c1 := a1) (c2 := a2) (c3 := a3) (by simp)
  have gxl : w.heap.size + 1 < w1.heap.size := HM.out.lt (b := w.heap.size + 1) (c0 := 0) (c1 := 0) (c2 := 0) (c3 := 0) (by simp)
  go_wp2_with fail
  refine (rexp_calls 1 FP hf a0 a1 a2 a3 5694840236247301970 7340967054546858659 7931984006246061591 871749566700742666 ha ep_val.1 _).mono ?_
  rintro e w2 ⟨s0, s1, s2, s3, rfl, hs, hv, hbl⟩
  have HVs := Lib.hid (show val4 s0 s1 s2 s3 * val4 s0 s1 s2 s3 % FP.M = val4 a0 a1 a2 a3 ∧ val4 s0 s1 s2 s3 < FP.M by rw [hv]; exact ⟨(rootP_sq HSq.out).trans (Nat.mod_eq_of_lt la), Nat.mod_lt _ hpos⟩)
  have HM' := Lib.hid ((HM.out.new w1.heap.size 0 0 0 0 24 rfl).on hbl)
  clear hv hbl x0 x1 x2 x3 xl
  clear HM
  have HM := HM'
  clear HM'
  have kr := HM.out.row (b := w1.heap.size) (c0 := 0) (c1 := 0) (c2 := 0) (c3 := 0) (by simp)
  have x0 := kr.c0; have x1 := kr.c1; have x2 := kr.c2; have x3 := kr.c3; have xf := kr.fr
  clear kr
  have xl := HM.out.lt (b := w1.heap.size) (c0 := 0) (c1 := 0) (c2 := 0) (c3 := 0) (by simp)
  have HM' := Lib.hid (HM.out.put s0 s1 s2 s3 (by omega) (by intro r hr; simp at hr; rcases hr with rfl | rfl <;> simp <;> omega))
  clear HM
  have HX := HM'.out
  unfold set4 at HX
  clear HM'
  have HM := Lib.hid HX
  clear HX
  have HLs := HVs.out.2
  go_wp2_with fail
  refine (rlower_calls 1 FP hf s0 s1 s2 s3 hs HVs.out.2 _).mono ?_
  rintro e w3 ⟨rfl, hbl⟩
  have HM' := Lib.hid (HM.out.on hbl)
  clear hbl x0 x1 x2 x3 xf xl
  clear HM
  have HM := HM'
  clear HM'
  have kr := HM.out.row (b := w1.heap.size) (c0 := s0) (c1 := s1) (c2 := s2) (c3 := s3) (by simp)
  have x0 := kr.c0; have x1 := kr.c1; have x2 := kr.c2; have x3 := kr.c3; have xf := kr.fr
  clear kr
  have xl := HM.out.lt (b := w1.heap.size) (c0 := s0) (c1 := s1) (c2 := s2) (c3 := s3) (by simp)
  have kr := HM.out.row (b := w.heap.size + 1) (c0 := 0) (c1 := 0) (c2 := 0) (c3 := 0) (by simp)
  have y0 := kr.c0; have y1 := kr.c1; have y2 := kr.c2; have y3 := kr.c3; have yf := kr.fr
  clear kr
  have yl := HM.out.lt (b := w.heap.size + 1) (c0 := 0) (c1 := 0) (c2 := 0) (c3 := 0) (by simp)
  cases hlo : lowB FP.M (val4 s0 s1 s2 s3) with
  | true =>
    have HLo := Lib.hid hlo
    clear hlo
    go_wp2_with fail
    refine bodyPost_ret (v := .tuple #[.agg #[.int .u64 s0, .int .u64 s1, .int .u64 s2, .int .u64 s3], .int .i64 0]) (by simp [results, Try.results38, go_sem, *]) rfl ?_
    refine ⟨_, _, _, _, rfl, hs, HVs.out.1, HVs.out.2, HLo.out, ?_⟩
    exact below_set4 HM.out.1 (by omega) _ _ _ _
  | false =>
    have HLo := Lib.hid (low_neg hok HVs.out.2 hlo)
    clear hlo
    go_wp2_with fail
    refine (rneg_calls 1 FP hf s0 s1 s2 s3 hs _).mono ?_
    rintro e w4 ⟨n0, n1, n2, n3, rfl, hn, hv, hbl⟩
    have HVn := Lib.hid (show val4 n0 n1 n2 n3 = (0 + FP.M - val4 s0 s1 s2 s3) % FP.M by rw [hv, Nat.mod_eq_of_lt HVs.out.2, Nat.zero_add])
    have HM' := Lib.hid (HM.out.on hbl)
    clear hv hbl x0 x1 x2 x3 xf xl y0 y1 y2 y3 yf yl
    clear HM
    have HM := HM'
    clear HM'
    have kr := HM.out.row (b := w1.heap.size) (c0 := s0) (c1 := s1) (c2 := s2) (c3 := s3) (by simp)
    have x0 := kr.c0; have x1 := kr.c1; have x2 := kr.c2; have x3 := kr.c3; have xf := kr.fr
    clear kr
    have xl := HM.out.lt (b := w1.heap.size) (c0 := s0) (c1 := s1) (c2 := s2) (c3 := s3) (by simp)
    have kr := HM.out.row (b := w.heap.size + 1) (c0 := 0) (c1 := 0) (c2 := 0) (c3 := 0) (by simp)
    have y0 := kr.c0; have y1 := kr.c1; have y2 := kr.c2; have y3 := kr.c3; have yf := kr.fr
    clear kr
    have yl := HM.out.lt (b := w.heap.size + 1) (c0 := 0) (c1 := 0) (c2 := 0) (c3 := 0) (by simp)
    have ne1 : ¬ w.heap.size + 1 = w1.heap.size := by omega
    have ne1' : ¬ w1.heap.size = w.heap.size + 1 := by omega
    go_wp2_with fail
    refine bodyPost_ret (v := .tuple #[.agg #[.int .u64 n0, .int .u64 n1, .int .u64 n2, .int .u64 n3], .int .i64 0]) (by simp [results, Try.results38, go_sem, *]) rfl ?_
    refine ⟨_, _, _, _, rfl, hn, by rw [HVn.out, HLo.out.1]; exact HVs.out.1, by rw [HVn.out]; exact HLo.out.2.1, by rw [HVn.out]; exact HLo.out.2.2, ?_⟩
    exact below_set4 (below_set4 HM.out.1 (by omega) _ _ _ _) (by omega) _ _ _ _
end Go.Proofs.Ytebaoemoeckgaaa
