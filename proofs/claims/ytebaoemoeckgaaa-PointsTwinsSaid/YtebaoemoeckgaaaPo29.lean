/-
  The law PointsTwins answers true, whatever it is handed. Conditions: none.
-/
import Derived.Test.YtebaoemoeckgaaaPo28
import Derived.Test.YtebaoemoeckgaaaPo27
import Derived.Laws.BitsAllLaws
namespace Go.Proofs.Ytebaoemoeckgaaa.Ex
set_option linter.unusedVariables false
set_option linter.unusedSimpArgs false
open Go.RowKit

theorem bin_xor {t : Nat} {x y : Operand} {a b : Nat} (ha : a < 256) (hb : b < 256) : Bin .xor t x y (.int .u8 (Int.ofNat a)) (.int .u8 (Int.ofNat b)) (.int .u8 (Int.ofNat (a ^^^ b))) := fun w => by
  have h := u8_xor_nat a b ha hb
  simp only [Int.ofNat_eq_natCast]
  exact congrArg (fun z => Result.ok (Value.int .u8 z) w) h
theorem m1_v (x : Fq) : m1 x.1 = x := Fin.ext (show wv x.1 % FP.M = x.1 by rw [show wv x.1 = x.1 from fw_valp x.2]; exact Nat.mod_eq_of_lt x.2)
theorem bl1_v (x : Fq) : bl1 x.1 := by show wv x.1 < FP.M; rw [show wv x.1 = x.1 from fw_valp x.2]; exact x.2
theorem ck_on {x y : Fq} (h : On F1 (fm 3) (some (x, y))) : (ck1 x.1 y.1 false).1 = 0 := by
  have e := ck1_eq x.1 y.1 false
  rw [if_neg (by simp), if_neg (fun q => q ⟨bl1_v x, bl1_v y⟩), m1_v, m1_v] at e
  have h' : F1.mul y y = F1.add (F1.mul (F1.mul x x) x) (fm 3) := by
    rw [F1.mul_comm (F1.mul x x) x]; exact h
  rw [if_pos h'] at e
  rw [e]
theorem af_v (x y : Fq) : af1 (x.1, y.1, false) = some (x, y) := congrArg some (Prod.ext (m1_v x) (m1_v y))
def gen1 : G1N := (1, 2, false)
theorem gen1_ck : (ckN1 gen1).1 = 0 := ck_12
/-- n times the generator -/
noncomputable def tw (n : Nat) : C1 := ec1.grp.ns (wv n) (cp1 gen1)
theorem mul_is (n : Nat) : rresM1 gen1 n = ((tw n).1, 0) := by
  rw [rresM1_1, if_neg (fun h => h gen1_ck)]
  rfl
theorem neg_some {x y : Fq} (h : On F1 (fm 3) (some (x, y))) : rresN1 (x.1, y.1, false) = (some (x, F1.neg y), 0) := by
  have hc : (ckN1 (x.1, y.1, false)).1 = 0 := ck_on h
  rw [rresN1_1, if_neg (fun q => q hc)]
  have : (ec1.grp.neg (cp1 (x.1, y.1, false))).1 = ptN F1 (cp1 (x.1, y.1, false)).1 := rfl
  rw [this, cp1_eq hc, af_v]
  rfl
theorem neg_none : rresN1 (0, 0, true) = (none, 0) := by
  have hc : (ckN1 (0, 0, true)).1 = 0 := ck_inf
  rw [rresN1_1, if_neg (fun q => q hc)]
  have : (ec1.grp.neg (cp1 (0, 0, true))).1 = ptN F1 (cp1 (0, 0, true)).1 := rfl
  rw [this, cp1_eq hc]
  rfl
theorem on_ne {x y : Fq} (h : On F1 (fm 3) (some (x, y))) : y ≠ F1.zero := fun e => by
  have h' : F1.mul y y = F1.add (F1.mul x (F1.mul x x)) (fm 3) := h
  rw [e, F1.mul_zero] at h'
  exact ec1.odd x h'.symm
/-- the marks of a point and its negative -/
theorem low_flip {y : Fq} (h : y ≠ F1.zero) : lowB FP.M (wv (F1.neg y).1) = !lowB FP.M (wv y.1) := by
  have e1 : wv y.1 = y.1 := fw_valp y.2
  have e2 : wv (F1.neg y).1 = (F1.neg y).1 := fw_valp (F1.neg y).2
  rw [e1, e2]
  show lowF (F1.neg y) = !lowF y
  cases h1 : lowF y
  · exact low_neg h1
  · cases h2 : lowF (F1.neg y)
    · rfl
    · exact absurd (low_both h1 h2) h
theorem flip_bits : ∀ a, a < 64 → (a ||| 64 * 2) ^^^ 64 = a ||| 64 * 3 ∧ (a ||| 64 * 3) ^^^ 64 = a ||| 64 * 2 := by decide
theorem top_lt (x : Fq) : byteAt (wv x.1) 0 < 64 := by
  rw [show wv x.1 = x.1 from fw_valp x.2]
  have h : x.1 < 21888242871839275222246405745257275088696311157297823662689037894645226208583 := Nat.lt_of_lt_of_eq x.2 (by decide)
  unfold byteAt
  show x.1 / 452312848583266388373324160190187140051835877600158453279131187530910662656 % 256 < 64
  omega
theorem bor_lt {a m : Nat} (ha : a < 256) (hm : m < 4) : a ||| 64 * m < 256 := by
  have h1 : a < 2 ^ 8 := ha
  have h2 : 64 * m < 2 ^ 8 := by omega
  exact Nat.or_lt_two_pow h1 h2
theorem sMk_lt (c i : Bool) : sMark c i < 4 := by cases c <;> cases i <;> decide
theorem twin_xor {t : Nat} {u v : Operand} {x y : Fq} (h : y ≠ F1.zero) : Bin .xor t u v (.int .u8 (Int.ofNat (byteAt (wv x.1) 0 ||| 64 * sMark (lowB FP.M (wv (F1.neg y).1)) false))) (.int .u8 64) (.int .u8 (Int.ofNat (byteAt (wv x.1) 0 ||| 64 * sMark (lowB FP.M (wv y.1)) false))) := by
  have hb := bin_xor (t := t) (x := u) (y := v) (a := byteAt (wv x.1) 0 ||| 64 * sMark (lowB FP.M (wv (F1.neg y).1)) false) (b := 64) (bor_lt (by have := top_lt x; omega) (sMk_lt _ _)) (by decide)
  have e : (byteAt (wv x.1) 0 ||| 64 * sMark (lowB FP.M (wv (F1.neg y).1)) false) ^^^ 64 = byteAt (wv x.1) 0 ||| 64 * sMark (lowB FP.M (wv y.1)) false := by
    rw [low_flip h]
    cases lowB FP.M (wv y.1)
    · exact (flip_bits _ (top_lt x)).1
    · exact (flip_bits _ (top_lt x)).2
  rw [e] at hb
  exact hb

set_option maxRecDepth 100000 in
theorem run_gen1 : funB Try.prog (qG Try.prog) (fun _ => ⟨fun _ => T0, fun _ => true, fun _ => none⟩) Try.f19 60 [] = some ([], .one (.fl [.f (fm 1), .f (fm 2), .c (.bool false)])) := by kernel_rfl
def gGen : Ent
  | [] => some ([], .one (.fl [.f (fm 1), .f (fm 2), .c (.bool false)]))
  | _ => none
theorem gGen_ok : ∀ cs pre r, gGen cs = some (pre, r) → allP pre → ∀ (args : List Value) (w : World), CAs w cs args → Good Try.prog 19 r args w := by
  intro cs pre r hg hp args w ha
  unfold gGen at hg
  split at hg
  · cases hg
    exact funB_sound hmix (fun _ _ => T0_ok _) (qG_ok Try.prog) Try.func19 run_gen1 trivial ha
  · cases hg
theorem mulF_ok : ∀ (p : G1N) (n : Nat) (args : List Value) (w : World), CAs w [.v (.fl (gq1 p)), .v (.fl (q1 n))] args → Good Try.prog 18 (.many [.fl (gf1 (rresM1 p n).1), .im (.int .i64 (rresM1 p n).2)]) args w := fun p n args w ha => by
  match args, ha with
  | [u, v], ha =>
    exact (ok_rrNeg1 18 [.v (.fl (gq1 p)), .v (.fl (q1 n))] [] _ (by kernel_rfl) trivial).2 [u, v] w ha
  | [], ha => exact ha.elim
  | [_], ha => exact ha.2.elim
  | _ :: _ :: _ :: _, ha => exact ha.2.2.elim
theorem negF_ok : ∀ (p : G1N) (args : List Value) (w : World), CAs w [.v (.fl (gq1 p))] args → Good Try.prog 20 (.many [.fl (gf1 (rresN1 p).1), .im (.int .i64 (rresN1 p).2)]) args w := fun p args w ha =>
  (ok_rrNeg1 20 [.v (.fl (gq1 p))] [] _ (by kernel_rfl) trivial).2 args w ha
/-- the product and the negative, told beforehand -/
noncomputable def gMulT (P : Pt Fq) : Ent := g2 rg1 rq1 fun p n => ([rresM1 p n = (P, 0)], .many [.fl (gf1 P), .im (.int .i64 0)])
noncomputable def gNegT (P : Pt Fq) : Ent := g1 rg1 fun p => ([rresN1 p = (P, 0)], .many [.fl (gf1 P), .im (.int .i64 0)])
theorem gMulT_ok (P : Pt Fq) : ∀ cs pre r, gMulT P cs = some (pre, r) → allP pre → ∀ (args : List Value) (w : World), CAs w cs args → Good Try.prog 18 r args w :=
  g2_ok (op := fun p n => ([rresM1 p n = (P, 0)], .many [.fl (gf1 P), .im (.int .i64 0)])) rg1_ok rq1_ok fun p n hp args w ha => by
    have h := mulF_ok p n args w ha
    rw [hp.1] at h
    exact h
theorem gNegT_ok (P : Pt Fq) : ∀ cs pre r, gNegT P cs = some (pre, r) → allP pre → ∀ (args : List Value) (w : World), CAs w cs args → Good Try.prog 20 r args w :=
  g1_ok (op := fun p => ([rresN1 p = (P, 0)], .many [.fl (gf1 P), .im (.int .i64 0)])) rg1_ok fun p hp args w ha => by
    have h := negF_ok p args w ha
    rw [hp.1] at h
    exact h
noncomputable def T_tw (P Q : Pt Fq) : Tab := ((((T_pl true).add 19 gGen).add 18 (gMulT P)).add 20 (gNegT Q)).add 21 (gBelc true)
theorem ok_tw (P Q : Pt Fq) : TabOk Try.prog (T_tw P Q) := ((((ok_pl true).add Try.func19 (by kernel_rfl) (by kernel_rfl) gGen_ok).add Try.func18 (by kernel_rfl) (by kernel_rfl) (gMulT_ok P)).add Try.func20 (by kernel_rfl) (by kernel_rfl) (gNegT_ok Q)).add Try.func21 (by kernel_rfl) (by kernel_rfl) (belc_ok true)
/-- whichever root Y is -/
def okY (p : G1N) : List Prop := okP (lowB FP.M (wv p.2.1)) p
def oY (p : G1N) : FS := oS (lowB FP.M (wv p.2.1)) p
noncomputable def xTw (r : Value) : Ext := x3 (Fs0.add 6 (gFS okY oY)) Wr0 (assoc [(59, r)]) (fun _ => none)
theorem xTw_ok (r : Value) (w : World) : EqOkW Try.prog (qY Try.prog (xTw r)) w.heap.size w := x3_ok ((Fs0_ok _).add Try.func6 (by kernel_rfl) (by kernel_rfl) (gFS_ok fun p hp args w ha => ps_ok _ p hp args w ha)) (Wr0_ok _) w


set_option maxRecDepth 100000 in
theorem run_tw_s (x y z : Fq) (n r : Nat) : funB Try.prog (qY Try.prog (xTw (.int .u8 (Int.ofNat r)))) (cfB (T_tw (some (x, y)) (some (x, z)))) Try.f5 100 [.v (.fl (q1 n))] = some ([rresM1 gen1 n = (some (x, y), 0), rresN1 (x.1, y.1, false) = (some (x, z), 0)] ++ okY (x.1, y.1, false) ++ okY (x.1, z.1, false) ++ [Bin .xor 5 (.tmp 58) (.const (.int .u8 64)) (.int .u8 (Int.ofNat (byteAt (wv x.1) 0 ||| 64 * sMark (lowB FP.M (wv z.1)) false))) (.int .u8 64) (.int .u8 (Int.ofNat r)), 32 = 32, 32 < 4611686018427387904, ∃ P, U8s (oY (x.1, y.1, false)).l 32 P ∧ U8s (.c (.int .u8 (Int.ofNat r)) :: (bm (wv x.1) 0).tail) 32 P, blw x.1 = true], .one (.im (.bool true))) := by kernel_rfl
set_option maxRecDepth 100000 in
theorem run_tw_n (n : Nat) (r : Value) : funB Try.prog (qY Try.prog (xTw r)) (cfB (T_tw none none)) Try.f5 100 [.v (.fl (q1 n))] = some ([rresM1 gen1 n = (none, 0), rresN1 (0, 0, true) = (none, 0)] ++ okY (0, 0, true) ++ okY (0, 0, true) ++ [32 = 32, 32 < 4611686018427387904, U8e (oY (0, 0, true)).l 32], .one (.im (.bool true))) := by kernel_rfl
theorem u8e_oY (p : G1N) : U8e (oY p).l 32 := by
  obtain ⟨L, h1, h2⟩ := bys_bm (wv p.1) (sMark (lowB FP.M (wv p.2.1)) p.2.2)
  exact u8s_bys h1 h2
theorem twins_calls (n : Nat) (w : World) : Calls Try.prog 5 #[.agg (flat (q1 n)).toArray] w (fun e w' => e = .returned (.bool true) ∧ Below w.heap.size w w') := by
  have ha : CAs w [.v (.fl (q1 n))] [.agg (flat (q1 n)).toArray] := ⟨rfl, trivial⟩
  have hm := mul_is n
  have hon := (tw n).2
  cases hP : (tw n).1 with
  | none =>
    rw [hP] at hm
    have ho : allP (okY (0, 0, true)) := okP_c (p := (0, 0, true)) ck_inf
    exact funB_soundW hmix (fun _ _ => (ok_tw none none).w _ _) (xTw_ok (.bool true) w) Try.func5 (run_tw_n n (.bool true)) (allP_append.2 ⟨allP_append.2 ⟨allP_append.2 ⟨⟨hm, neg_none, trivial⟩, ho⟩, ho⟩, rfl, by decide, u8e_oY _, trivial⟩) ha
  | some P =>
    obtain ⟨x, y⟩ := P
    rw [hP] at hm hon
    have hy := on_ne hon
    have hon2 : On F1 (fm 3) (some (x, F1.neg y)) := On.neg hon
    have h1 : allP (okY (x.1, y.1, false)) := okP_c (p := (x.1, y.1, false)) (ck_on hon)
    have h2 : allP (okY (x.1, (F1.neg y).1, false)) := okP_c (p := (x.1, (F1.neg y).1, false)) (ck_on hon2)
    exact funB_soundW hmix (fun _ _ => (ok_tw (some (x, y)) (some (x, F1.neg y))).w _ _) (xTw_ok _ w) Try.func5 (run_tw_s x y (F1.neg y) n (byteAt (wv x.1) 0 ||| 64 * sMark (lowB FP.M (wv y.1)) false)) (allP_append.2 ⟨allP_append.2 ⟨allP_append.2 ⟨⟨hm, neg_some hon, trivial⟩, h1⟩, h2⟩, twin_xor hy, rfl, by decide, u8e_oY (x.1, y.1, false), blw_t.2 (bl1_v x), trivial⟩) ha
end Go.Proofs.Ytebaoemoeckgaaa.Ex
