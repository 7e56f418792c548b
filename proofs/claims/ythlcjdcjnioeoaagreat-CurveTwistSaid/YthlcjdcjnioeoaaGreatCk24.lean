/-
  The digits of numbers, in a table of calls. Conditions: none.
-/
import Derived.Test.YthlcjdcjnioeoaaGreatCk23
namespace Go.Proofs.YthlcjdcjnioeoaaGreat.Ex
set_option linter.unusedVariables false
set_option linter.unusedSimpArgs false
open Go.RowKit
def sh1 (x : Nat) : Nat := fw x 0 * 2 % 18446744073709551616
def dwin (x p : Nat) : Nat := (if p = 0 then sh1 x else fw (wv x / 2 ^ (p * 4 - 1)) 0) % 32
def digI (x p : Nat) : Int := ((dwin x p + 1) / 2 : Nat) - (if 16 ≤ dwin x p then 16 else 0 : Int)
noncomputable def T_dig (d : Bool) : Tab := ((T_out2 d).add 215 gLen).add 217 gShr
theorem ok_dig (d : Bool) : TabOk Tryz.prog (T_dig d) := ((ok_out2 d).add Tryz.func215 (by kernel_rfl) (by kernel_rfl) len_ok).add Tryz.func217 (by kernel_rfl) (by kernel_rfl) shr_ok
def digS (b o n m : Nat) : List At := [.c (slV b o n m), .c (iI 4)]
def atX (old : Nat → Nat → List At → Prop) (x i w : Nat) : Ext :=
  { idx := assoc [(13, i)], ld := assoc [(14, [At.q x])], st := fun _ => none, gen := assoc [(17, uI (sh1 x)), (32, uI 32), (34, uI w), (37, iI (w + 1)), (42, uI (w / 16)), (47, iI 16)], mks := fun _ => none, ky := fun _ => none, old := old, T2 := Fr0 }
def atN (p w : Nat) (c0 c1 : Bool) (v : Int) : Nat → Option Value := assoc [(19, .bool c0), (24, iI (p * 4)), (25, iI (p * 4 - 1)), (36, uI (w + 1)), (38, iI ((w + 1) / 2)), (43, .bool c1), (48, .int .i64 v)]
/-- what is asked of the operations, by their answers -/
def SemI (op : BinOp) (t : Nat) (x y : Operand) (v u r : Value) : Prop := ∀ w : World, (do eqGuard op t x y v u; binOp op t v u : Sem Value).run Tryz.prog w = .ok r w
set_option maxRecDepth 100000 in
theorem run_at_tt (old : Nat → Nat → List At → Prop) (b o n m i p x w : Nat) (v : Int) : funB Tryz.prog (qX Tryz.prog (atX old x i w)) (fun _ => ⟨fun s => T_dig true, fun s => true, atN p w true true v⟩) Tryz.f192 80 [.v (.fl (digS b o n m)), .v (.im (iI i)), .v (.im (iI p))] = some ([Int.ofNat i = Int.ofNat i, i < n, old b (o + i * 4) [At.q x], fsz [At.q x] = 4, SemI .shl 22 (.tmp 16) (.const (.int .u64 1)) (.int .u64 (fw x 0 : Nat)) (.int .u64 1) (uI (sh1 x)), intOp .gtr .i64 (Int.ofNat p) 0 = some (.bool true), intOp .mul .i64 (Int.ofNat p) (Int.ofNat 4) = some (iI (p * 4)), intOp .sub .i64 (Int.ofNat (p * 4)) 1 = some (iI (p * 4 - 1)), p * 4 - 1 < 9223372036854775808, SemI .shl 22 (.const (.int .u64 1)) (.tmp 31) (.int .u64 1) (.int .i64 (IntKind.i64.wrap (Int.ofNat 4 + 1))) (uI 32), SemI .and 22 (.tmp 28) (.tmp 33) (.int .u64 (fw (wv x / 2 ^ (p * 4 - 1)) 0 : Nat)) (.int .u64 (IntKind.u64.wrap (Int.ofNat 32 - 1))) (uI w), intOp .add .u64 (Int.ofNat w) 1 = some (uI (w + 1)), ∀ W : World, (convert 22 3 (uI (w + 1))).run Tryz.prog W = .ok (iI (w + 1)) W, intOp .quo .i64 (Int.ofNat (w + 1)) 2 = some (iI ((w + 1) / 2)), SemI .shr 22 (.tmp 39) (.tmp 41) (uI w) (iI 4) (uI (w / 16)), intOp .eql .u64 (Int.ofNat (w / 16)) 1 = some (.bool true), SemI .shl 3 (.const (.int .i64 1)) (.tmp 46) (.int .i64 1) (iI 4) (iI 16), intOp .sub .i64 (Int.ofNat ((w + 1) / 2)) (Int.ofNat 16) = some (.int .i64 v)], .one (.im (.int .i64 v))) := by kernel_rfl
set_option maxRecDepth 100000 in
theorem run_at_tf (old : Nat → Nat → List At → Prop) (b o n m i p x w : Nat) (v : Int) : funB Tryz.prog (qX Tryz.prog (atX old x i w)) (fun _ => ⟨fun s => T_dig true, fun s => true, atN p w true false v⟩) Tryz.f192 80 [.v (.fl (digS b o n m)), .v (.im (iI i)), .v (.im (iI p))] = some ([Int.ofNat i = Int.ofNat i, i < n, old b (o + i * 4) [At.q x], fsz [At.q x] = 4, SemI .shl 22 (.tmp 16) (.const (.int .u64 1)) (.int .u64 (fw x 0 : Nat)) (.int .u64 1) (uI (sh1 x)), intOp .gtr .i64 (Int.ofNat p) 0 = some (.bool true), intOp .mul .i64 (Int.ofNat p) (Int.ofNat 4) = some (iI (p * 4)), intOp .sub .i64 (Int.ofNat (p * 4)) 1 = some (iI (p * 4 - 1)), p * 4 - 1 < 9223372036854775808, SemI .shl 22 (.const (.int .u64 1)) (.tmp 31) (.int .u64 1) (.int .i64 (IntKind.i64.wrap (Int.ofNat 4 + 1))) (uI 32), SemI .and 22 (.tmp 28) (.tmp 33) (.int .u64 (fw (wv x / 2 ^ (p * 4 - 1)) 0 : Nat)) (.int .u64 (IntKind.u64.wrap (Int.ofNat 32 - 1))) (uI w), intOp .add .u64 (Int.ofNat w) 1 = some (uI (w + 1)), ∀ W : World, (convert 22 3 (uI (w + 1))).run Tryz.prog W = .ok (iI (w + 1)) W, intOp .quo .i64 (Int.ofNat (w + 1)) 2 = some (iI ((w + 1) / 2)), SemI .shr 22 (.tmp 39) (.tmp 41) (uI w) (iI 4) (uI (w / 16)), intOp .eql .u64 (Int.ofNat (w / 16)) 1 = some (.bool false)], .one (.im (iI ((w + 1) / 2)))) := by kernel_rfl
set_option maxRecDepth 100000 in
theorem run_at_ft (old : Nat → Nat → List At → Prop) (b o n m i p x w : Nat) (v : Int) : funB Tryz.prog (qX Tryz.prog (atX old x i w)) (fun _ => ⟨fun s => T_dig true, fun s => true, atN p w false true v⟩) Tryz.f192 80 [.v (.fl (digS b o n m)), .v (.im (iI i)), .v (.im (iI p))] = some ([Int.ofNat i = Int.ofNat i, i < n, old b (o + i * 4) [At.q x], fsz [At.q x] = 4, SemI .shl 22 (.tmp 16) (.const (.int .u64 1)) (.int .u64 (fw x 0 : Nat)) (.int .u64 1) (uI (sh1 x)), intOp .gtr .i64 (Int.ofNat p) 0 = some (.bool false), SemI .shl 22 (.const (.int .u64 1)) (.tmp 31) (.int .u64 1) (.int .i64 (IntKind.i64.wrap (Int.ofNat 4 + 1))) (uI 32), SemI .and 22 (.tmp 28) (.tmp 33) (.int .u64 (sh1 x : Nat)) (.int .u64 (IntKind.u64.wrap (Int.ofNat 32 - 1))) (uI w), intOp .add .u64 (Int.ofNat w) 1 = some (uI (w + 1)), ∀ W : World, (convert 22 3 (uI (w + 1))).run Tryz.prog W = .ok (iI (w + 1)) W, intOp .quo .i64 (Int.ofNat (w + 1)) 2 = some (iI ((w + 1) / 2)), SemI .shr 22 (.tmp 39) (.tmp 41) (uI w) (iI 4) (uI (w / 16)), intOp .eql .u64 (Int.ofNat (w / 16)) 1 = some (.bool true), SemI .shl 3 (.const (.int .i64 1)) (.tmp 46) (.int .i64 1) (iI 4) (iI 16), intOp .sub .i64 (Int.ofNat ((w + 1) / 2)) (Int.ofNat 16) = some (.int .i64 v)], .one (.im (.int .i64 v))) := by kernel_rfl
set_option maxRecDepth 100000 in
theorem run_at_ff (old : Nat → Nat → List At → Prop) (b o n m i p x w : Nat) (v : Int) : funB Tryz.prog (qX Tryz.prog (atX old x i w)) (fun _ => ⟨fun s => T_dig true, fun s => true, atN p w false false v⟩) Tryz.f192 80 [.v (.fl (digS b o n m)), .v (.im (iI i)), .v (.im (iI p))] = some ([Int.ofNat i = Int.ofNat i, i < n, old b (o + i * 4) [At.q x], fsz [At.q x] = 4, SemI .shl 22 (.tmp 16) (.const (.int .u64 1)) (.int .u64 (fw x 0 : Nat)) (.int .u64 1) (uI (sh1 x)), intOp .gtr .i64 (Int.ofNat p) 0 = some (.bool false), SemI .shl 22 (.const (.int .u64 1)) (.tmp 31) (.int .u64 1) (.int .i64 (IntKind.i64.wrap (Int.ofNat 4 + 1))) (uI 32), SemI .and 22 (.tmp 28) (.tmp 33) (.int .u64 (sh1 x : Nat)) (.int .u64 (IntKind.u64.wrap (Int.ofNat 32 - 1))) (uI w), intOp .add .u64 (Int.ofNat w) 1 = some (uI (w + 1)), ∀ W : World, (convert 22 3 (uI (w + 1))).run Tryz.prog W = .ok (iI (w + 1)) W, intOp .quo .i64 (Int.ofNat (w + 1)) 2 = some (iI ((w + 1) / 2)), SemI .shr 22 (.tmp 39) (.tmp 41) (uI w) (iI 4) (uI (w / 16)), intOp .eql .u64 (Int.ofNat (w / 16)) 1 = some (.bool false)], .one (.im (iI ((w + 1) / 2)))) := by kernel_rfl
theorem s_shl (x : Nat) : SemI .shl 22 (.tmp 16) (.const (.int .u64 1)) (.int .u64 (fw x 0 : Nat)) (.int .u64 1) (uI (sh1 x)) := fun w => by
  have h := (fw_ok x).1
  simp [eqGuard, binOp, go_sem, IntKind.wrap, IntKind.signed, uI, sh1]
theorem s_shl2 : SemI .shl 22 (.const (.int .u64 1)) (.tmp 31) (.int .u64 1) (.int .i64 (IntKind.i64.wrap (Int.ofNat 4 + 1))) (uI 32) := fun w => by
  have e : IntKind.i64.wrap (Int.ofNat 4 + 1) = 5 := by decide
  rw [e]
  simp [eqGuard, binOp, go_sem, IntKind.wrap, uI]
theorem s_shl3 : SemI .shl 3 (.const (.int .i64 1)) (.tmp 46) (.int .i64 1) (iI 4) (iI 16) := fun w => by
  simp [eqGuard, binOp, go_sem, IntKind.wrap, iI]
theorem s_and (x : Nat) (h : x < 18446744073709551616) : SemI .and 22 (.tmp 28) (.tmp 33) (.int .u64 (x : Nat)) (.int .u64 (IntKind.u64.wrap (Int.ofNat 32 - 1))) (uI (x % 32)) := fun w => by
  have e : IntKind.u64.wrap (Int.ofNat 32 - 1) = ((31 : Nat) : Int) := by decide
  rw [e]
  have h2 := bits_and_u64_nat x 31 h (by omega)
  have h3 : x &&& 31 = x % 32 := Nat.and_two_pow_sub_one_eq_mod x 5
  rw [h3] at h2
  simp [eqGuard, binOp, go_sem, uI]
  exact h2
theorem s_conv (x : Nat) (h : x < 64) (W : World) : (convert 22 3 (uI x)).run Tryz.prog W = .ok (iI x) W := by
  have e : IntKind.i64.wrap (x : Int) = x := i64_in' (by omega)
  have e2 : (x : Int) % 18446744073709551616 = x := by omega
  simp [convert, go_sem, uI, iI, e]
theorem s_shr (x : Nat) (h : x < 32) : SemI .shr 22 (.tmp 39) (.tmp 41) (uI x) (iI 4) (uI (x / 16)) := fun w => by
  simp [eqGuard, binOp, go_sem, uI, iI]
theorem dwin_lt (x p : Nat) : dwin x p < 32 := Nat.mod_lt _ (by omega)
theorem o_u64 (n : Nat) (h : n < 100) : intOp .add .u64 (Int.ofNat n) 1 = some (uI (n + 1)) := by
  show some (Value.int .u64 (IntKind.u64.wrap ((n : Int) + 1))) = _
  have e : IntKind.u64.wrap ((n : Int) + 1) = ((n + 1 : Nat) : Int) := by
    unfold IntKind.wrap
    simp [IntKind.signed, IntKind.bits]
    omega
  rw [e]; rfl
theorem o_eql1 (k : IntKind) (n : Nat) : intOp .eql k (Int.ofNat n) 1 = some (.bool (decide (n = 1))) := by
  show some (Value.bool ((n : Int) == 1)) = _
  by_cases h : n = 1
  · subst h; rfl
  · rw [decide_eq_false h, beq_eq_false_iff_ne.2 (by omega)]
/-- a digit, where the number lies in memory from before -/
theorem at_calls {w0 : World} (b o n m i p x : Nat) (hx : oldOf w0 b (o + i * 4) [.q x]) (hi : i < n) (hp : p < 1152921504606846976) : Calls Tryz.prog 192 #[.agg (flat (digS b o n m)).toArray, iI i, iI p] w0 (fun e w' => e = .returned (.int .i64 (digI x p)) ∧ Below w0.heap.size w0 w') := by
  have hq : ∀ w, EqOkW Tryz.prog (qX Tryz.prog (atX (oldOf w0) x i w)) w0.heap.size w0 := fun w => qX_ok (Fr0_ok _) fun _ _ _ h => h
  have hT : ∀ n d : Nat, TabOkW Tryz.prog (T_dig true) w0.heap.size w0 := fun _ _ => (ok_dig true).w _ _
  have ha : CAs w0 [.v (.fl (digS b o n m)), .v (.im (iI i)), .v (.im (iI p))] [.agg (flat (digS b o n m)).toArray, iI i, iI p] := ⟨rfl, rfl, rfl, trivial⟩
  have hw := dwin_lt x p
  have hfw := (fw_ok (wv x / 2 ^ (p * 4 - 1))).1
  have hs : sh1 x < 18446744073709551616 := Nat.mod_lt _ (by omega)
  have o1 := o_u64 (dwin x p) (by omega)
  have o2 := s_conv (dwin x p + 1) (by omega)
  have o3 : intOp .quo .i64 (Int.ofNat (dwin x p + 1)) 2 = some (iI ((dwin x p + 1) / 2)) := o_quo (k := 2) (by omega) (by omega)
  have o4 := s_shr (dwin x p) hw
  have hv : 16 ≤ dwin x p → intOp .sub .i64 (Int.ofNat ((dwin x p + 1) / 2)) (Int.ofNat 16) = some (.int .i64 (digI x p)) := fun h => by
    show some (Value.int .i64 (IntKind.i64.wrap ((((dwin x p + 1) / 2 : Nat) : Int) - 16))) = _
    unfold digI
    rw [if_pos h, IntKind.wrap_i64]
    congr 2
    omega
  have hn : ¬ 16 ≤ dwin x p → digI x p = Int.ofNat ((dwin x p + 1) / 2) := fun h => by
    unfold digI
    rw [if_neg h]; simp
  by_cases hp0 : p = 0
  · have hd : dwin x p = sh1 x % 32 := by unfold dwin; rw [if_pos hp0]
    have o5 := s_and (sh1 x) hs
    rw [← hd] at o5
    have g0 : intOp .gtr .i64 (Int.ofNat p) 0 = some (.bool false) := by rw [hp0]; rfl
    by_cases h16 : 16 ≤ dwin x p
    · exact funB_soundW hmix hT (hq _) Tryz.func192 (run_at_ft (oldOf w0) b o n m i p x (dwin x p) (digI x p)) ⟨rfl, hi, hx, rfl, s_shl x, g0, s_shl2, o5, o1, o2, o3, o4, by rw [o_eql1, decide_eq_true (by omega)], s_shl3, hv h16, trivial⟩ ha
    · rw [hn h16]
      exact funB_soundW hmix hT (hq _) Tryz.func192 (run_at_ff (oldOf w0) b o n m i p x (dwin x p) 0) ⟨rfl, hi, hx, rfl, s_shl x, g0, s_shl2, o5, o1, o2, o3, o4, by rw [o_eql1, decide_eq_false (by omega)], trivial⟩ ha
  · have hd : dwin x p = fw (wv x / 2 ^ (p * 4 - 1)) 0 % 32 := by unfold dwin; rw [if_neg hp0]
    have o5 := s_and _ hfw
    rw [← hd] at o5
    have g0 : intOp .gtr .i64 (Int.ofNat p) 0 = some (.bool true) := by
      have := o_gtr (i := p) (n := 0)
      rw [decide_eq_true (by omega)] at this
      exact this
    have g1 : intOp .mul .i64 (Int.ofNat p) (Int.ofNat 4) = some (iI (p * 4)) := o_mul (by omega)
    have g2 : intOp .sub .i64 (Int.ofNat (p * 4)) 1 = some (iI (p * 4 - 1)) := o_sub (k := 1) (by omega) (by omega)
    by_cases h16 : 16 ≤ dwin x p
    · exact funB_soundW hmix hT (hq _) Tryz.func192 (run_at_tt (oldOf w0) b o n m i p x (dwin x p) (digI x p)) ⟨rfl, hi, hx, rfl, s_shl x, g0, g1, g2, by omega, s_shl2, o5, o1, o2, o3, o4, by rw [o_eql1, decide_eq_true (by omega)], s_shl3, hv h16, trivial⟩ ha
    · rw [hn h16]
      exact funB_soundW hmix hT (hq _) Tryz.func192 (run_at_tf (oldOf w0) b o n m i p x (dwin x p) 0) ⟨rfl, hi, hx, rfl, s_shl x, g0, g1, g2, by omega, s_shl2, o5, o1, o2, o3, o4, by rw [o_eql1, decide_eq_false (by omega)], trivial⟩ ha
/-- digits of numbers that lie at b, o: x i is the i-th -/
def gAt (b o n m : Nat) (x : Nat → Nat) : Ent
  | [.v (.fl [.c (.slice (some ⟨b', o', .none⟩) n' m'), .c (.int .i64 (.ofNat 4))]), .v (.im (.int .i64 (.ofNat i))), .v (.im (.int .i64 (.ofNat p)))] =>
    some ([b' = b, o' = o, n' = n, m' = m, i < n, p < 1152921504606846976], .one (.im (.int .i64 (digI (x i) p))))
  | _ => none
theorem gAt_ok {w : World} {b o n m : Nat} {x : Nat → Nat} (hx : ∀ i, i < n → oldOf w b (o + i * 4) [.q (x i)]) : ∀ cs pre r, gAt b o n m x cs = some (pre, r) → allP pre → ∀ (args : List Value), CAs w cs args → Good Tryz.prog 192 r args w := by
  intro cs pre r hg hp args ha
  unfold gAt at hg
  split at hg
  · rename_i b' o' n' m' i p
    cases hg
    obtain ⟨rfl, rfl, rfl, rfl, hi, hpp, _⟩ := hp
    match args, ha with
    | [u, v, t], ha =>
      have h1 : u = .agg (flat (digS b' o' n' m')).toArray := ha.1
      have h2 : v = iI i := ha.2.1
      have h3 : t = iI p := ha.2.2.1
      subst h1; subst h2; subst h3
      exact at_calls b' o' n' m' i p (x i) (hx i hi) hi hpp
    | [], ha => exact ha.elim
    | [_], ha => exact ha.2.elim
    | [_, _], ha => exact ha.2.2.elim
    | _ :: _ :: _ :: _ :: _, ha => exact ha.2.2.2.elim
  · cases hg
end Go.Proofs.YthlcjdcjnioeoaaGreat.Ex
