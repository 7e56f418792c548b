/-
  The calls of Short1 and Long1, and of the reference's: a point that may not be answers nothing and its error; another its bytes. Conditions: none.
  Short1 and Long1, and the reference's: what they answer, by the point's kind. Conditions: none.
  The calls of taken on 32 bytes: the mark and X. Conditions: the bytes are below 256 and the slice's capacity is no less than 32.
  Powers in commutative rings; where p times anything is 0, the p-th power of a sum is the sum of the p-th powers. Conditions: none.
  In the tower the p-th power is the map of coefficients. Conditions: none.
  The cyclotomic subgroup of Fp12: three equations over Fp4, and the square there. Conditions: none.
  Squares and roots in Fp and Fp2. Conditions: none.
-/
import Derived.Test.YtebaoemoeckgaaaPo14
import Derived.Test.YtebaoemoeckgaaaPo25
import Derived.Test.YtebaoemoeckgaaaPo12
import Derived.Test.YtebaoemoeckgaaaPo01
import Derived.Test.YtebaoemoeckgaaaPo07
import Derived.Test.YtebaoemoeckgaaaPo09
namespace Go.Proofs.Ytebaoemoeckgaaa.Ex
set_option linter.unusedVariables false
set_option linter.unusedSimpArgs false
open Go.RowKit

/-- the point's check: k: that it may be -/
noncomputable def gCk (k : Bool) : Ent := g1 rg1 fun p => bif k then ([(ck1 p.1 p.2.1 p.2.2).1 = 0], .one (.im (.int .i64 0))) else ([], .one (.im (.int .i64 (ck1 p.1 p.2.1 p.2.2).1)))
theorem gCk_ok {f : FuncId} (h : ∀ (p : G1N) (args : List Value) (w : World), CAs w [.v (.fl (gq1 p))] args → Good Try.prog f (.one (.im (.int .i64 (ck1 p.1 p.2.1 p.2.2).1))) args w) (k : Bool) :
    ∀ cs pre r, gCk k cs = some (pre, r) → allP pre → ∀ (args : List Value) (w : World), CAs w cs args → Good Try.prog f r args w :=
  g1_ok rg1_ok fun p hp args w ha => by
    cases k
    · exact h p args w ha
    · have e : (ck1 p.1 p.2.1 p.2.2).1 = 0 := hp.1
      have := h p args w ha
      rw [e] at this
      exact this
set_option maxRecDepth 100000 in
theorem run_pck (p : G1N) : funB Try.prog (qG Try.prog) (fun _ => ⟨fun _ => T_rrNeg1, fun _ => true, fun _ => none⟩) Try.f11 60 [.v (.fl (gq1 p))] = some ([], .one (.im (.int .i64 (ck1 p.1 p.2.1 p.2.2).1))) := by kernel_rfl
theorem pck_ok (p : G1N) (args : List Value) (w : World) (ha : CAs w [.v (.fl (gq1 p))] args) : Good Try.prog 11 (.one (.im (.int .i64 (ck1 p.1 p.2.1 p.2.2).1))) args w :=
  funB_sound hmix (fun _ _ => ok_rrNeg1) (qG_ok Try.prog) Try.func11 (run_pck p) trivial ha
set_option maxRecDepth 100000 in
theorem run_rck (p : G1N) : funB Try.prog (qG Try.prog) (fun _ => ⟨fun _ => T_rrNeg1, fun _ => true, fun _ => none⟩) Try.f12 60 [.v (.fl (gq1 p))] = some ([], .one (.im (.int .i64 (ck1 p.1 p.2.1 p.2.2).1))) := by kernel_rfl
theorem rck_ok (p : G1N) (args : List Value) (w : World) (ha : CAs w [.v (.fl (gq1 p))] args) : Good Try.prog 12 (.one (.im (.int .i64 (ck1 p.1 p.2.1 p.2.2).1))) args w :=
  funB_sound hmix (fun _ _ => ok_rrNeg1) (qG_ok Try.prog) Try.func12 (run_rck p) trivial ha

/-- is an element lower than its negative? c: the answer -/
def gLq (c : Bool) : Ent
  | [.v (.im (.int .i64 (.ofNat 1))), .v (.fl l)] => match rq1 l with
    | some n => some ([wv n < FP.M, lowB FP.M (wv n) = c], .many [.im (.bool c), .im (.int .i64 0)])
    | none => none
  | _ => none
theorem gLq_ok (c : Bool) : ∀ cs pre r, gLq c cs = some (pre, r) → allP pre → ∀ (args : List Value) (w : World), CAs w cs args → Good Try.prog 49 r args w := by
  intro cs pre r hg hp args w ha
  unfold gLq at hg
  split at hg
  · rename_i l
    split at hg
    · rename_i n hn
      cases hg
      match args, ha with
      | [v, u], ha =>
        have h1 : v = .int .i64 1 := ha.1
        have h2 : u = .agg (flat l).toArray := ha.2.1
        rw [rq1_ok l _ hn] at h2
        subst h1; subst h2
        have h := flower_ok 1 FP fld1 _ _ _ _ (fw_ok n) hp.1 w
        refine h.mono ?_
        rintro e w' ⟨rfl, hb⟩
        refine ⟨?_, hb⟩
        have e2 : lowB FP.M (val4 (fw n 0) (fw n 1) (fw n 2) (fw n 3)) = c := hp.2.1
        rw [e2]
        rfl
      | [], ha => exact ha.elim
      | [_], ha => exact ha.2.elim
      | _ :: _ :: _ :: _, ha => exact ha.2.2.elim
    · cases hg
  · cases hg
noncomputable def T_lq (c : Bool) : Tab := T_rrNeg1.add 49 (gLq c)
theorem ok_lq (c : Bool) : TabOk Try.prog (T_lq c) := ok_rrNeg1.add Try.func49 (by kernel_rfl) (by kernel_rfl) (gLq_ok c)
set_option maxRecDepth 100000 in
theorem run_lo1 (c : Bool) (n : Nat) : funB Try.prog (qG Try.prog) (fun _ => ⟨fun _ => T_lq c, fun _ => true, fun _ => none⟩) Try.f24 60 [.v (.fl (q1 n))] = some ([wv n < FP.M, lowB FP.M (wv n) = c], .one (.im (.bool c))) := by kernel_rfl
noncomputable def T_lo1 (c : Bool) : Tab := (T_lq c).add 24 (g1 rq1 fun n => ([wv n < FP.M, lowB FP.M (wv n) = c], .one (.im (.bool c))))
theorem ok_lo1 (c : Bool) : TabOk Try.prog (T_lo1 c) := (ok_lq c).add Try.func24 (by kernel_rfl) (by kernel_rfl) (g1_ok (op := fun n => ([wv n < FP.M, lowB FP.M (wv n) = c], .one (.im (.bool c)))) rq1_ok fun n hp args w ha => funB_sound hmix (fun _ _ => ok_lq c) (qG_ok Try.prog) Try.func24 (run_lo1 c n) hp ha)

/-- the reference's -/
def gCmpQ : Ent
  | [.v (.fl l), .v (.fl m)] => match rq1 l, rq1 m with
    | some a, some b => some ([], .one (.im (.int .i64 (Go.Proofs.Ytebaoemoeckgaaa.cmpN (wv a) (wv b)))))
    | _, _ => none
  | _ => none
theorem gCmpQ_ok : ∀ cs pre r, gCmpQ cs = some (pre, r) → allP pre → ∀ (args : List Value) (w : World), CAs w cs args → Good Try.prog 51 r args w := by
  intro cs pre r hg hp args w ha
  unfold gCmpQ at hg
  split at hg
  · rename_i l m
    split at hg
    · rename_i a b h1 h2
      cases hg
      rw [args2 ha, rq1_ok l _ h1, rq1_ok m _ h2]
      exact (R1.refCmp_calls _ _ _ _ _ _ _ _ (fw_ok a) (fw_ok b) w).mono fun e w' h => h
    · cases hg
  · cases hg
noncomputable def T_cmq : Tab := T_rrNeg1.add 51 gCmpQ
theorem ok_cmq : TabOk Try.prog T_cmq := ok_rrNeg1.add Try.func51 (by kernel_rfl) (by kernel_rfl) gCmpQ_ok
set_option maxRecDepth 100000 in
theorem run_rlo1 (c : Bool) (n : Nat) : funB Try.prog (qG Try.prog) (fun _ => ⟨fun _ => T_cmq, fun _ => true, fun s => bif Nat.beq s 10 then some (.bool c) else none⟩) Try.f28 60 [.v (.fl (q1 n))] = some ([intOp .leq .i64 (Go.Proofs.Ytebaoemoeckgaaa.cmpN (wv n) (wv (F1.sub F1.zero (m1 n)).1)) 0 = some (.bool c)], .one (.im (.bool c))) := by kernel_rfl
theorem cmp_leqQ (a b : Nat) : intOp .leq .i64 (Go.Proofs.Ytebaoemoeckgaaa.cmpN a b) 0 = some (.bool (decide (a ≤ b))) := by
  unfold Go.Proofs.Ytebaoemoeckgaaa.cmpN
  by_cases h : a = b
  · rw [if_pos h, decide_eq_true (by omega)]; rfl
  · rw [if_neg h]
    by_cases h2 : a < b
    · rw [if_pos h2, decide_eq_true (by omega)]; rfl
    · rw [if_neg h2, decide_eq_false (by omega)]; rfl
theorem rlo1_num {c : Bool} {n : Nat} (h : wv n < FP.M) (hc : lowB FP.M (wv n) = c) : intOp .leq .i64 (Go.Proofs.Ytebaoemoeckgaaa.cmpN (wv n) (wv (F1.sub F1.zero (m1 n)).1)) 0 = some (.bool c) := by
  have e1 : (F1.sub F1.zero (m1 n)).1 = (0 + FP.M - wv n) % FP.M := by
    have e2 : (m1 n).1 = wv n := Nat.mod_eq_of_lt h
    show (0 + (FP.M - (m1 n).1) % FP.M) % FP.M = _
    rw [e2, Nat.zero_add, Nat.zero_add, Nat.mod_mod]
  have e3 : wv (F1.sub F1.zero (m1 n)).1 = (F1.sub F1.zero (m1 n)).1 := fw_valp (F1.sub F1.zero (m1 n)).2
  rw [cmp_leqQ, e3, e1, ← hc]
  rfl
noncomputable def T_rlo (c : Bool) : Tab := T_cmq.add 28 (g1 rq1 fun n => ([wv n < FP.M, lowB FP.M (wv n) = c], .one (.im (.bool c))))
theorem ok_rlo (c : Bool) : TabOk Try.prog (T_rlo c) := ok_cmq.add Try.func28 (by kernel_rfl) (by kernel_rfl) (g1_ok (op := fun n => ([wv n < FP.M, lowB FP.M (wv n) = c], .one (.im (.bool c)))) rq1_ok fun n hp args w ha => funB_sound hmix (fun _ _ => ok_cmq) (qG_ok Try.prog) Try.func28 (run_rlo1 c n) ⟨rlo1_num hp.1 hp.2.1, trivial⟩ ha)

/-- marks -/
def gSm : Ent
  | [.v (.im (.bool i)), .v (.im (.bool l))] => some ([], .one (.im (.int .u8 (bif i then 1 else bif l then 2 else 3))))
  | _ => none
set_option maxRecDepth 100000 in
theorem run_sm (i l : Bool) : funB Try.prog (qG Try.prog) (fun _ => ⟨fun _ => T0, fun _ => true, fun _ => none⟩) Try.f23 60 [.v (.im (.bool i)), .v (.im (.bool l))] = some ([], .one (.im (.int .u8 (bif i then 1 else bif l then 2 else 3)))) := by cases i <;> cases l <;> kernel_rfl
theorem gSm_ok : ∀ cs pre r, gSm cs = some (pre, r) → allP pre → ∀ (args : List Value) (w : World), CAs w cs args → Good Try.prog 23 r args w := by
  intro cs pre r hg hp args w ha
  unfold gSm at hg
  split at hg
  · rename_i i l
    cases hg
    exact funB_sound hmix (fun _ _ => T0_ok _) (qG_ok Try.prog) Try.func23 (run_sm i l) trivial ha
  · cases hg
def gLm : Ent
  | [.v (.im (.bool i))] => some ([], .one (.im (.int .u8 (bif i then 1 else 0))))
  | _ => none
set_option maxRecDepth 100000 in
theorem run_lm (i : Bool) : funB Try.prog (qG Try.prog) (fun _ => ⟨fun _ => T0, fun _ => true, fun _ => none⟩) Try.f29 60 [.v (.im (.bool i))] = some ([], .one (.im (.int .u8 (bif i then 1 else 0)))) := by cases i <;> kernel_rfl
theorem gLm_ok : ∀ cs pre r, gLm cs = some (pre, r) → allP pre → ∀ (args : List Value) (w : World), CAs w cs args → Good Try.prog 29 r args w := by
  intro cs pre r hg hp args w ha
  unfold gLm at hg
  split at hg
  · rename_i i
    cases hg
    exact funB_sound hmix (fun _ _ => T0_ok _) (qG_ok Try.prog) Try.func29 (run_lm i) trivial ha
  · cases hg
def gRm : Ent
  | [.v (.im (.bool l))] => some ([], .one (.im (.int .u8 (bif l then 2 else 3))))
  | _ => none
set_option maxRecDepth 100000 in
theorem run_rm (i : Bool) : funB Try.prog (qG Try.prog) (fun _ => ⟨fun _ => T0, fun _ => true, fun _ => none⟩) Try.f27 60 [.v (.im (.bool i))] = some ([], .one (.im (.int .u8 (bif i then 2 else 3)))) := by cases i <;> kernel_rfl
theorem gRm_ok : ∀ cs pre r, gRm cs = some (pre, r) → allP pre → ∀ (args : List Value) (w : World), CAs w cs args → Good Try.prog 27 r args w := by
  intro cs pre r hg hp args w ha
  unfold gRm at hg
  split at hg
  · rename_i i
    cases hg
    exact funB_sound hmix (fun _ _ => T0_ok _) (qG_ok Try.prog) Try.func27 (run_rm i) trivial ha
  · cases hg
/-- the table of ours: k: that the point may be; c: its Y is the lower one -/
noncomputable def T_po (k c : Bool) : Tab := (((T_lo1 c).add 11 (gCk k)).add 23 gSm).add 29 gLm
theorem ok_po (k c : Bool) : TabOk Try.prog (T_po k c) := (((ok_lo1 c).add Try.func11 (by kernel_rfl) (by kernel_rfl) (gCk_ok pck_ok k)).add Try.func23 (by kernel_rfl) (by kernel_rfl) gSm_ok).add Try.func29 (by kernel_rfl) (by kernel_rfl) gLm_ok
noncomputable def T_ro (k c : Bool) : Tab := ((T_rlo c).add 12 (gCk k)).add 27 gRm
theorem ok_ro (k c : Bool) : TabOk Try.prog (T_ro k c) := ((ok_rlo c).add Try.func12 (by kernel_rfl) (by kernel_rfl) (gCk_ok rck_ok k)).add Try.func27 (by kernel_rfl) (by kernel_rfl) gRm_ok
end Go.Proofs.Ytebaoemoeckgaaa.Ex
namespace Go.Proofs.Ytebaoemoeckgaaa.Ex
set_option linter.unusedVariables false
set_option linter.unusedSimpArgs false
open Go.RowKit

theorem rb1_run (w : World) : EqOkW Try.prog (qY Try.prog (x3 L3 W4 (fun _ => none) (fun _ => none))) w.heap.size w := x3_ok L3_ok W4_ok w
/-- the reference's bytes of an element -/
noncomputable def cfB (T : Tab) : Nat → Cfg := fun _ => ⟨fun _ => T, fun _ => true, fun _ => none⟩
set_option maxRecDepth 100000 in
theorem run_rb1 (n : Nat) : funS Try.prog (qY Try.prog (x3 L3 W4 (fun _ => none) (fun _ => none))) cT0 Try.f26 60 [.v (.fl (q1 n))] = some ([], ⟨bl (wv n), 32, 5, 1, true, [], []⟩) := by kernel_rfl
theorem gRb1_ok : ∀ cs pre r, gRBy cs = some (pre, r) → allP pre → ∀ (args : List Value) (w : World), CAs w cs args → Calls Try.prog 26 args.toArray w (fun e w' => r.ok w e w') := by
  intro cs pre r hg hp args w ha
  unfold gRBy at hg
  split at hg
  · rename_i l
    split at hg
    · rename_i n hn
      cases hg
      rw [args1 ha, rq1_ok l _ hn]
      exact funS_sound hmix (fun _ _ => (T0_ok _).w _ _) (rb1_run w) Try.func26 (run_rb1 n) trivial (args := [_]) ⟨rfl, trivial⟩
    · cases hg
  · cases hg
def R3 : Tab3 := L3.add 26 gRBy
theorem R3_ok : FsOk Try.prog R3 := L3_ok.add Try.func26 (by kernel_rfl) (by kernel_rfl) gRb1_ok
/-- zeros -/
def z8 : Nat → List At
  | 0 => []
  | n + 1 => .c (.int .u8 0) :: z8 n
/-- so many zero bytes are made -/
def Mk (N : Nat) : Prop := ∃ e, ∀ w : World, (Instr.makeSlice 27 (.int .i64 N) (.int .i64 N)).run Try.prog w = .ok (.slice (some ⟨w.heap.size, 0, none⟩) N N) (w.alloc (.cells (flat (z8 N)).toArray e))
theorem z8_cat : ∀ (s n : Nat), cat (fun _ => [At.c (.int .u8 0)]) s n = z8 n
  | _, 0 => rfl
  | s, n + 1 => congrArg (At.c (.int .u8 0) :: ·) (z8_cat (s + 1) n)
theorem mk_ok (N : Nat) (h : N < 1000) : Mk N := by
  have h1 := made' (P := Try.prog) (t := 27) (e := 5) (z := [At.c (.int .u8 0)]) (v := .int .u8 0) (N := N) (n := 1) (by8 := 1) (by kernel_rfl) (by kernel_rfl) rfl rfl (by omega) (by omega) (by omega)
  rw [z8_cat] at h1
  exact h1
noncomputable def xR (n s : Nat) : Ext := x3 R3 W4 (fun _ => none) (fun i => bif Nat.beq i s then some (n, z8 n) else none)
theorem xR_ok (n s : Nat) (w : World) : EqOkW Try.prog (qY Try.prog (xR n s)) w.heap.size w := x3_ok R3_ok W4_ok w
/-- a bad point's -/
noncomputable def oBad (x y : Nat) (i : Bool) : List Prop × RV := ([intOp .neq .i64 (ck1 x y i).1 0 = some (.bool true)], .many [.im (.slice none 0 0), .im (.int .i64 (ck1 x y i).1)])
noncomputable def cfN (T : Tab) (s : Nat) : Nat → Cfg := fun _ => ⟨fun _ => T, fun _ => true, fun n => bif Nat.beq n s then some (.bool true) else none⟩
set_option maxRecDepth 100000 in
theorem run_ps_bad (x y : Nat) (i : Bool) : funB Try.prog (qG Try.prog) (cfN (T_po false true) 8) Try.f6 60 [.v (.fl (gq1 (x, y, i)))] = some (oBad x y i) := by kernel_rfl
set_option maxRecDepth 100000 in
theorem run_pl_bad (x y : Nat) (i : Bool) : funB Try.prog (qG Try.prog) (cfN (T_po false true) 8) Try.f8 60 [.v (.fl (gq1 (x, y, i)))] = some (oBad x y i) := by kernel_rfl
set_option maxRecDepth 100000 in
theorem run_rs_bad (x y : Nat) (i : Bool) : funB Try.prog (qG Try.prog) (cfN (T_ro false true) 9) Try.f7 60 [.v (.fl (gq1 (x, y, i)))] = some (oBad x y i) := by kernel_rfl
set_option maxRecDepth 100000 in
theorem run_rl_bad (x y : Nat) (i : Bool) : funB Try.prog (qG Try.prog) (cfN (T_ro false true) 9) Try.f9 60 [.v (.fl (gq1 (x, y, i)))] = some (oBad x y i) := by kernel_rfl
set_option maxRecDepth 100000 in
theorem run_ps_t (x y : Nat) (c : Bool) : funS Try.prog (qY Try.prog (x3 L3 W4 (fun _ => none) (fun _ => none))) (cfB (T_po true c)) Try.f6 80 [.v (.fl (gq1 (x, y, true)))] = some ([(ck1 x y true).1 = 0, wv y < FP.M, lowB FP.M (wv y) = c, 1 < 4], ⟨bm (wv x) 1, 32, 5, 1, true, [], [.im (.int .i64 0)]⟩) := by kernel_rfl
set_option maxRecDepth 100000 in
theorem run_ps_f (x y : Nat) (c : Bool) : funS Try.prog (qY Try.prog (x3 L3 W4 (fun _ => none) (fun _ => none))) (cfB (T_po true c)) Try.f6 80 [.v (.fl (gq1 (x, y, false)))] = some ([(ck1 x y false).1 = 0, wv y < FP.M, lowB FP.M (wv y) = c, (bif c then 2 else 3) < 4], ⟨bm (wv x) (bif c then 2 else 3), 32, 5, 1, true, [], [.im (.int .i64 0)]⟩) := by cases c <;> kernel_rfl
set_option maxRecDepth 100000 in
theorem run_pl_t (x y : Nat) : funS Try.prog (qY Try.prog (x3 L3 W4 (fun _ => none) (fun _ => none))) (cfB (T_po true true)) Try.f8 80 [.v (.fl (gq1 (x, y, true)))] = some ([(ck1 x y true).1 = 0, 1 < 4], ⟨bm (wv x) 1 ++ bl (wv y), 64, 5, 1, true, [], [.im (.int .i64 0)]⟩) := by kernel_rfl
set_option maxRecDepth 100000 in
theorem run_pl_f (x y : Nat) : funS Try.prog (qY Try.prog (x3 L3 W4 (fun _ => none) (fun _ => none))) (cfB (T_po true true)) Try.f8 80 [.v (.fl (gq1 (x, y, false)))] = some ([(ck1 x y false).1 = 0, 0 < 4], ⟨bm (wv x) 0 ++ bl (wv y), 64, 5, 1, true, [], [.im (.int .i64 0)]⟩) := by kernel_rfl
set_option maxRecDepth 100000 in
theorem run_rs_t (x y : Nat) : funS Try.prog (qY Try.prog (xR 32 14)) (cfB (T_ro true true)) Try.f7 80 [.v (.fl (gq1 (x, y, true)))] = some ([(ck1 x y true).1 = 0, Mk 32, 0 < 256, 1 < 4], ⟨.c (.int .u8 (Int.ofNat (0 ||| 64 * 1))) :: z8 31, 32, 0, 0, false, [], [.im (.int .i64 0)]⟩) := by kernel_rfl
set_option maxRecDepth 100000 in
theorem run_rs_f (x y : Nat) (c : Bool) : funS Try.prog (qY Try.prog (xR 32 14)) (cfB (T_ro true c)) Try.f7 80 [.v (.fl (gq1 (x, y, false)))] = some ([(ck1 x y false).1 = 0, wv y < FP.M, lowB FP.M (wv y) = c, byteAt (wv x) 0 < 256, (bif c then 2 else 3) < 4], ⟨bm (wv x) (bif c then 2 else 3), 32, 5, 1, true, [], [.im (.int .i64 0)]⟩) := by cases c <;> kernel_rfl
set_option maxRecDepth 100000 in
theorem run_rl_t (x y : Nat) : funS Try.prog (qY Try.prog (xR 64 14)) (cfB (T_ro true true)) Try.f9 80 [.v (.fl (gq1 (x, y, true)))] = some ([(ck1 x y true).1 = 0, Mk 64, 0 < 256, 1 < 4], ⟨.c (.int .u8 (Int.ofNat (0 ||| 64 * 1))) :: z8 63, 64, 0, 0, false, [], [.im (.int .i64 0)]⟩) := by kernel_rfl
set_option maxRecDepth 100000 in
theorem run_rl_f (x y : Nat) : funS Try.prog (qY Try.prog (xR 64 14)) (cfB (T_ro true true)) Try.f9 80 [.v (.fl (gq1 (x, y, false)))] = some ([(ck1 x y false).1 = 0], ⟨bl (wv x) ++ bl (wv y), 64, 5, 1, true, [], [.im (.int .i64 0)]⟩) := by kernel_rfl

/-- what Short1 and Long1 answer of a point that may be; c: its Y is the lower one -/
def sMark (c i : Bool) : Nat := bif i then 1 else bif c then 2 else 3
def oS (c : Bool) (p : G1N) : FS := ⟨bm (wv p.1) (sMark c p.2.2), 32, 0, 0, false, [], [.im (.int .i64 0)]⟩
def oL (p : G1N) : FS := ⟨bm (wv p.1) (bif p.2.2 then 1 else 0) ++ bl (wv p.2.1), 64, 0, 0, false, [], [.im (.int .i64 0)]⟩
theorem FS.ok.weak {r : FS} {w : World} {e : Ending} {w' : World} (h : r.ok w e w') {l : List At} (hl : flat l = flat r.l) : (⟨l, r.n, 0, 0, false, r.ante, r.post⟩ : FS).ok w e w' := by
  obtain ⟨b, cap, h1, h2, h3, h4, h5, h6, _⟩ := h
  exact ⟨b, cap, h1, h2, h3, h4, by rw [hl]; exact h5, h6, fun h => by cases h⟩
theorem bm_zero (n : Nat) : bm n 0 = bl n := by
  have : hb n 0 = b8 n 0 := by unfold hb b8; rw [Nat.mul_zero, Nat.or_zero]
  unfold bm bl
  rw [this]
/-- a point that may be, and which root its Y is -/
def okP (c : Bool) (p : G1N) : List Prop := [(ck1 p.1 p.2.1 p.2.2).1 = 0, wv p.2.1 < FP.M, lowB FP.M (wv p.2.1) = c]
theorem inf_zero {x y : Nat} (h : (ck1 x y true).1 = 0) : wv x = 0 ∧ wv y = 0 := by
  rw [ck1_eq, if_pos rfl] at h
  by_cases hz : zr1 x ∧ zr1 y
  · exact hz
  · rw [if_neg hz] at h; cases h
theorem okP_c {p : G1N} (h : (ck1 p.1 p.2.1 p.2.2).1 = 0) : allP (okP (lowB FP.M (wv p.2.1)) p) := by
  refine ⟨h, ?_, rfl, trivial⟩
  obtain ⟨x, y, i⟩ := p
  cases i
  · exact (ck1_bl h rfl).2
  · show wv y < FP.M
    rw [(inf_zero h).2]; exact fp_pos
theorem sM_lt (c : Bool) : (bif c then 2 else 3) < 4 := by cases c <;> decide
theorem ps_ok (c : Bool) (p : G1N) (hp : allP (okP c p)) (args : List Value) (w : World) (ha : CAs w [.v (.fl (gq1 p))] args) : Calls Try.prog 6 args.toArray w (fun e w' => (oS c p).ok w e w') := by
  obtain ⟨h0, h1, h2, _⟩ := hp
  obtain ⟨x, y, i⟩ := p
  cases i
  · exact (funS_sound hmix (fun _ _ => (ok_po true c).w _ _) (rb1_run w) Try.func6 (run_ps_f x y c) ⟨h0, h1, h2, sM_lt c, trivial⟩ ha).mono fun e w' h => h.weak rfl
  · exact (funS_sound hmix (fun _ _ => (ok_po true c).w _ _) (rb1_run w) Try.func6 (run_ps_t x y c) ⟨h0, h1, h2, by decide, trivial⟩ ha).mono fun e w' h => h.weak rfl
theorem pl_ok (c : Bool) (p : G1N) (hp : allP (okP c p)) (args : List Value) (w : World) (ha : CAs w [.v (.fl (gq1 p))] args) : Calls Try.prog 8 args.toArray w (fun e w' => (oL p).ok w e w') := by
  obtain ⟨h0, h1, h2, _⟩ := hp
  obtain ⟨x, y, i⟩ := p
  cases i
  · exact (funS_sound hmix (fun _ _ => (ok_po true true).w _ _) (rb1_run w) Try.func8 (run_pl_f x y) ⟨h0, by decide, trivial⟩ ha).mono fun e w' h => h.weak rfl
  · exact (funS_sound hmix (fun _ _ => (ok_po true true).w _ _) (rb1_run w) Try.func8 (run_pl_t x y) ⟨h0, by decide, trivial⟩ ha).mono fun e w' h => h.weak rfl
theorem rs_ok (c : Bool) (p : G1N) (hp : allP (okP c p)) (args : List Value) (w : World) (ha : CAs w [.v (.fl (gq1 p))] args) : Calls Try.prog 7 args.toArray w (fun e w' => (oS c p).ok w e w') := by
  obtain ⟨h0, h1, h2, _⟩ := hp
  obtain ⟨x, y, i⟩ := p
  cases i
  · exact (funS_sound hmix (fun _ _ => (ok_ro true c).w _ _) (xR_ok _ _ w) Try.func7 (run_rs_f x y c) ⟨h0, h1, h2, byte_lt _ _, sM_lt c, trivial⟩ ha).mono fun e w' h => h.weak rfl
  · refine (funS_sound hmix (fun _ _ => (ok_ro true true).w _ _) (xR_ok _ _ w) Try.func7 (run_rs_t x y) ⟨h0, mk_ok 32 (by decide), by decide, by decide, trivial⟩ ha).mono fun e w' h => h.weak ?_
    show flat (bm (wv x) 1) = _
    rw [(inf_zero h0).1]
    kernel_rfl
theorem rl_ok (c : Bool) (p : G1N) (hp : allP (okP c p)) (args : List Value) (w : World) (ha : CAs w [.v (.fl (gq1 p))] args) : Calls Try.prog 9 args.toArray w (fun e w' => (oL p).ok w e w') := by
  obtain ⟨h0, h1, h2, _⟩ := hp
  obtain ⟨x, y, i⟩ := p
  cases i
  · refine (funS_sound hmix (fun _ _ => (ok_ro true true).w _ _) (xR_ok 64 14 w) Try.func9 (run_rl_f x y) ⟨h0, trivial⟩ ha).mono fun e w' h => h.weak ?_
    show flat (bm (wv x) 0 ++ bl (wv y)) = _
    rw [bm_zero]
  · refine (funS_sound hmix (fun _ _ => (ok_ro true true).w _ _) (xR_ok _ _ w) Try.func9 (run_rl_t x y) ⟨h0, mk_ok 64 (by decide), by decide, by decide, trivial⟩ ha).mono fun e w' h => h.weak ?_
    show flat (bm (wv x) 1 ++ bl (wv y)) = _
    rw [(inf_zero h0).1, (inf_zero h0).2]
    kernel_rfl
theorem bad_ne {x y : Nat} {i : Bool} (h : (ck1 x y i).1 ≠ 0) : intOp .neq .i64 (ck1 x y i).1 0 = some (.bool true) := by
  show some (Value.bool ((ck1 x y i).1 != 0)) = _
  rw [bne_iff_ne.2 h]
theorem bad_ok {f : FuncId} {fn : Func} (hf : Try.prog.funcs[f]? = some fn) {T : Tab} (hT : TabOk Try.prog T) {s n : Nat} (p : G1N) (h : funB Try.prog (qG Try.prog) (cfN T s) fn n [.v (.fl (gq1 (p.1, p.2.1, p.2.2)))] = some (oBad p.1 p.2.1 p.2.2)) (h0 : (ck1 p.1 p.2.1 p.2.2).1 ≠ 0) (args : List Value) (w : World) (ha : CAs w [.v (.fl (gq1 p))] args) :
    Good Try.prog f (.many [.im (.slice none 0 0), .im (.int .i64 (ck1 p.1 p.2.1 p.2.2).1)]) args w := funB_sound hmix (fun _ _ => hT) (qG_ok Try.prog) hf h ⟨bad_ne h0, trivial⟩ ha
def gFS (pre : G1N → List Prop) (o : G1N → FS) : List CA → Option (List Prop × FS)
  | [.v (.fl l)] => match rg1 l with
    | some p => some (pre p, o p)
    | none => none
  | _ => none
theorem gFS_ok {f : FuncId} {pre : G1N → List Prop} {o : G1N → FS} (h : ∀ p, allP (pre p) → ∀ (args : List Value) (w : World), CAs w [.v (.fl (gq1 p))] args → Calls Try.prog f args.toArray w (fun e w' => (o p).ok w e w')) :
    ∀ cs ps r, gFS pre o cs = some (ps, r) → allP ps → ∀ (args : List Value) (w : World), CAs w cs args → Calls Try.prog f args.toArray w (fun e w' => r.ok w e w') := by
  intro cs ps r hg hp args w ha
  unfold gFS at hg
  split at hg
  · rename_i l
    split at hg
    · rename_i p hn
      cases hg
      refine h p hp args w ?_
      rw [args1 ha, rg1_ok l _ hn]
      exact ⟨rfl, trivial⟩
    · cases hg
  · cases hg
end Go.Proofs.Ytebaoemoeckgaaa.Ex
namespace Go.Proofs.Ytebaoemoeckgaaa.Ex
set_option linter.unusedVariables false
set_option linter.unusedSimpArgs false
open Go.RowKit

def u8? : At → Option Nat
  | .c (.int .u8 (.ofNat b)) => some b
  | _ => none
def bys : List At → Option (List Nat)
  | [] => some []
  | a :: r => match u8? a, bys r with | some x, some l => some (x :: l) | _, _ => none
theorem bys_cell : ∀ {l : List At} {L : List Nat}, bys l = some L → ∀ k, k < L.length → (flat l)[k]? = some (.int .u8 (Int.ofNat (L.getD k 0)))
  | [], L, h, k, hk => by cases h; exact absurd hk (by simp)
  | a :: r, L, h, k, hk => by
    unfold bys at h
    split at h
    · rename_i x l' h1 h2
      cases h
      have ha : a.cells = [.int .u8 (Int.ofNat x)] := by
        unfold u8? at h1
        split at h1
        · cases h1; rfl
        · cases h1
      show (a.cells ++ flat r)[k]? = _
      rw [ha]
      cases k with
      | zero => rfl
      | succ k => exact bys_cell h2 k (by simpa using hk)
    · cases h
/-- 32 bytes -/
def L8 (L : List Nat) : Prop := L.length = 32 ∧ ∀ k, L.getD k 0 < 256
/-- their number, the highest first -/
def hv (L : List Nat) : Nat := Go.Proofs.Ytebaoemoeckgaaa.hor (fun k => L.getD k 0) 0 32
def wl (N : Nat) : List At := [.c (.int .u64 (Int.ofNat (fw N 0))), .c (.int .u64 (Int.ofNat (fw N 1))), .c (.int .u64 (Int.ofNat (fw N 2))), .c (.int .u64 (Int.ofNat (fw N 3)))]
def gRd : Ent
  | [c] => match lenC c with
    | some (l, 32) => (match bys l with | some L => some ([L8 L], .many [.fl (wl (hv L)), .im (.int .i64 0)]) | none => none)
    | _ => none
  | _ => none
theorem hv_lt {L : List Nat} (h : L8 L) : hv L < 115792089237316195423570985008687907853269984665640564039457584007913129639936 := by
  have := hor_lt (B := fun k => L.getD k 0) h.2 0 32
  exact Nat.lt_of_lt_of_le this (by decide)
theorem lenC_at {c : CA} {l : List At} {n : Nat} (h : lenC c = some (l, n)) {w : World} {v : Value} (hc : c.ok w v) : ∃ b o m, v = .slice (some ⟨b, o, none⟩) n m ∧ b < w.heap.size ∧ w.rangeAt b o (flat l) := by
  cases c with
  | v x => cases h
  | s l' n' m =>
    cases h
    obtain ⟨b, o, e, hb, hr⟩ := hc
    exact ⟨b, o, m, e, hb, hr⟩
  | so l' n' =>
    cases h
    obtain ⟨b, o, m, e, hb, hr⟩ := hc
    exact ⟨b, o, m, e, hb, hr⟩
theorem gRd_ok : ∀ cs pre r, gRd cs = some (pre, r) → allP pre → ∀ (args : List Value) (w : World), CAs w cs args → Good Try.prog 55 r args w := by
  intro cs pre r hg hp args w ha
  unfold gRd at hg
  split at hg
  · rename_i c
    split at hg
    · rename_i l hl
      split at hg
      · rename_i L hL
        cases hg
        have h8 : L8 L := hp.1
        match args, ha with
        | [v], ha =>
          obtain ⟨b, o, m, rfl, hb, hr⟩ := lenC_at hl (by have := ha; cases c <;> exact this.1)
          have h := read_32 b o m (fun k => L.getD k 0) h8.2 w hb fun k hk => hr k _ (bys_cell hL k (by rw [h8.1]; exact hk))
          refine h.mono ?_
          rintro e w' ⟨s0, s1, s2, s3, c', rfl, hs, ⟨h1, rfl⟩, hbl⟩
          obtain ⟨rfl, rfl, rfl, rfl⟩ := fw_of hs (hv_lt h8) h1
          exact ⟨rfl, hbl⟩
        | [], ha => cases c <;> exact ha.elim
        | _ :: _ :: _, ha => cases c <;> exact ha.2.elim
      · cases hg
    · cases hg
  · cases hg


def bL (B : Nat → Nat) : List At := [.c (.int .u8 (Int.ofNat (B 0))), .c (.int .u8 (Int.ofNat (B 1))), .c (.int .u8 (Int.ofNat (B 2))), .c (.int .u8 (Int.ofNat (B 3))), .c (.int .u8 (Int.ofNat (B 4))), .c (.int .u8 (Int.ofNat (B 5))), .c (.int .u8 (Int.ofNat (B 6))), .c (.int .u8 (Int.ofNat (B 7))), .c (.int .u8 (Int.ofNat (B 8))), .c (.int .u8 (Int.ofNat (B 9))), .c (.int .u8 (Int.ofNat (B 10))), .c (.int .u8 (Int.ofNat (B 11))), .c (.int .u8 (Int.ofNat (B 12))), .c (.int .u8 (Int.ofNat (B 13))), .c (.int .u8 (Int.ofNat (B 14))), .c (.int .u8 (Int.ofNat (B 15))), .c (.int .u8 (Int.ofNat (B 16))), .c (.int .u8 (Int.ofNat (B 17))), .c (.int .u8 (Int.ofNat (B 18))), .c (.int .u8 (Int.ofNat (B 19))), .c (.int .u8 (Int.ofNat (B 20))), .c (.int .u8 (Int.ofNat (B 21))), .c (.int .u8 (Int.ofNat (B 22))), .c (.int .u8 (Int.ofNat (B 23))), .c (.int .u8 (Int.ofNat (B 24))), .c (.int .u8 (Int.ofNat (B 25))), .c (.int .u8 (Int.ofNat (B 26))), .c (.int .u8 (Int.ofNat (B 27))), .c (.int .u8 (Int.ofNat (B 28))), .c (.int .u8 (Int.ofNat (B 29))), .c (.int .u8 (Int.ofNat (B 30))), .c (.int .u8 (Int.ofNat (B 31)))]
def bN (B : Nat → Nat) : List Nat := [B 0, B 1, B 2, B 3, B 4, B 5, B 6, B 7, B 8, B 9, B 10, B 11, B 12, B 13, B 14, B 15, B 16, B 17, B 18, B 19, B 20, B 21, B 22, B 23, B 24, B 25, B 26, B 27, B 28, B 29, B 30, B 31]
def gTells : Ent
  | [.v (.im (.int .u8 (.ofNat m)))] => bif Nat.blt m 4 then some ([], .one (.im (.bool (Nat.beq m 2 || Nat.beq m 3)))) else none
  | _ => none
set_option maxRecDepth 100000 in
theorem run_tells0 : funB Try.prog (qG Try.prog) (fun _ => ⟨fun _ => T0, fun _ => true, fun _ => none⟩) Try.f33 60 [.v (.im (.int .u8 0))] = some ([], .one (.im (.bool false))) := by kernel_rfl
set_option maxRecDepth 100000 in
theorem run_tells1 : funB Try.prog (qG Try.prog) (fun _ => ⟨fun _ => T0, fun _ => true, fun _ => none⟩) Try.f33 60 [.v (.im (.int .u8 1))] = some ([], .one (.im (.bool false))) := by kernel_rfl
set_option maxRecDepth 100000 in
theorem run_tells2 : funB Try.prog (qG Try.prog) (fun _ => ⟨fun _ => T0, fun _ => true, fun _ => none⟩) Try.f33 60 [.v (.im (.int .u8 2))] = some ([], .one (.im (.bool true))) := by kernel_rfl
set_option maxRecDepth 100000 in
theorem run_tells3 : funB Try.prog (qG Try.prog) (fun _ => ⟨fun _ => T0, fun _ => true, fun _ => none⟩) Try.f33 60 [.v (.im (.int .u8 3))] = some ([], .one (.im (.bool true))) := by kernel_rfl
theorem gTells_ok : ∀ cs pre r, gTells cs = some (pre, r) → allP pre → ∀ (args : List Value) (w : World), CAs w cs args → Good Try.prog 33 r args w := by
  intro cs pre r hg hp args w ha
  unfold gTells at hg
  split at hg
  · rename_i m
    match m, hg with
    | 0, hg => cases hg; exact funB_sound hmix (fun _ _ => T0_ok _) (qG_ok Try.prog) Try.func33 run_tells0 trivial ha
    | 1, hg => cases hg; exact funB_sound hmix (fun _ _ => T0_ok _) (qG_ok Try.prog) Try.func33 run_tells1 trivial ha
    | 2, hg => cases hg; exact funB_sound hmix (fun _ _ => T0_ok _) (qG_ok Try.prog) Try.func33 run_tells2 trivial ha
    | 3, hg => cases hg; exact funB_sound hmix (fun _ _ => T0_ok _) (qG_ok Try.prog) Try.func33 run_tells3 trivial ha
    | m + 4, hg =>
      have hb : Nat.blt (m + 4) 4 = false := Bool.eq_false_iff.2 fun h => absurd (Nat.le_of_ble_eq_true h) (by omega)
      rw [hb] at hg
      cases hg
  · cases hg
def T_tk : Tab := (T0.add 55 gRd).add 33 gTells
theorem ok_tk : TabOk Try.prog T_tk := ((T0_ok _).add Try.func55 (by kernel_rfl) (by kernel_rfl) gRd_ok).add Try.func33 (by kernel_rfl) (by kernel_rfl) gTells_ok
def xT (a m : Nat) : Ext := x3 Fs0 Wr0 (assoc [(33, .int .u8 (Int.ofNat m)), (84, .int .u64 (Int.ofNat (4 * a % 18446744073709551616))), (85, .int .u64 (Int.ofNat (a % 4611686018427387904)))]) (fun i => bif Nat.beq i 54 then some (2, [.q 0, .q 0]) else none)
theorem xT_ok (a m : Nat) (w : World) : EqOkW Try.prog (qY Try.prog (xT a m)) w.heap.size w := x3_ok (Fs0_ok _) (Wr0_ok _) w
/-- two elements are made -/
def MkE2 : Prop := ∃ e, ∀ w : World, (Instr.makeSlice 59 (.int .i64 2) (.int .i64 2)).run Try.prog w = .ok (.slice (some ⟨w.heap.size, 0, none⟩) 2 2) (w.alloc (.cells (flat [.q 0, .q 0]).toArray e))
theorem mkE2_ok : MkE2 :=
  made' (P := Try.prog) (t := 59) (e := 24) (z := [.q 0]) (v := .int .u64 0) (N := 2) (n := 4) (by8 := 32) (by kernel_rfl) (by kernel_rfl) rfl (show flat [At.q 0] = List.replicate (flat [At.q 0]).length (Value.int .u64 0) from by kernel_rfl) (by omega) (by omega) (by omega)

set_option maxRecDepth 100000 in
theorem run_tk1 (B : Nat → Nat) (c : Nat) : funS Try.prog (qY Try.prog (xT (fw (hv (bN B)) 3) 1)) (cfB T_tk) Try.f32 100 [.s (bL B) 32 c, .v (.im (.int .i64 1))] = some ([Bin .shr 5 (.tmp 32) (.const (.int .u64 6)) (.int .u8 (Int.ofNat (B 0))) (.int .u64 6) (.int .u8 (Int.ofNat 1)), MkE2, 0 ≤ 32, 32 ≤ c, 0 < c, L8 (bN B), Bin .shl 22 (.tmp 83) (.const (.int .u64 2)) (.int .u64 (Int.ofNat (fw (hv (bN B)) 3))) (.int .u64 2) (.int .u64 (Int.ofNat (4 * fw (hv (bN B)) 3 % 18446744073709551616))), Bin .shr 22 (.tmp 84) (.const (.int .u64 2)) (.int .u64 (Int.ofNat (4 * fw (hv (bN B)) 3 % 18446744073709551616))) (.int .u64 2) (.int .u64 (Int.ofNat (fw (hv (bN B)) 3 % 4611686018427387904)))], ⟨[.c (.int .u64 (Int.ofNat (fw (hv (bN B)) 0))), .c (.int .u64 (Int.ofNat (fw (hv (bN B)) 1))), .c (.int .u64 (Int.ofNat (fw (hv (bN B)) 2))), .c (.int .u64 (Int.ofNat (fw (hv (bN B)) 3 % 4611686018427387904))), .q 0], 2, 0, 0, false, [.im (.int .u8 (Int.ofNat 1))], [.im (.int .i64 0)]⟩) := by kernel_rfl
set_option maxRecDepth 100000 in
theorem run_tk2 (B : Nat → Nat) (c : Nat) : funS Try.prog (qY Try.prog (xT (fw (hv (bN B)) 3) 2)) (cfB T_tk) Try.f32 100 [.s (bL B) 32 c, .v (.im (.int .i64 1))] = some ([Bin .shr 5 (.tmp 32) (.const (.int .u64 6)) (.int .u8 (Int.ofNat (B 0))) (.int .u64 6) (.int .u8 (Int.ofNat 2)), MkE2, 0 ≤ 32, 32 ≤ c, 0 < c, L8 (bN B), Bin .shl 22 (.tmp 83) (.const (.int .u64 2)) (.int .u64 (Int.ofNat (fw (hv (bN B)) 3))) (.int .u64 2) (.int .u64 (Int.ofNat (4 * fw (hv (bN B)) 3 % 18446744073709551616))), Bin .shr 22 (.tmp 84) (.const (.int .u64 2)) (.int .u64 (Int.ofNat (4 * fw (hv (bN B)) 3 % 18446744073709551616))) (.int .u64 2) (.int .u64 (Int.ofNat (fw (hv (bN B)) 3 % 4611686018427387904)))], ⟨[.c (.int .u64 (Int.ofNat (fw (hv (bN B)) 0))), .c (.int .u64 (Int.ofNat (fw (hv (bN B)) 1))), .c (.int .u64 (Int.ofNat (fw (hv (bN B)) 2))), .c (.int .u64 (Int.ofNat (fw (hv (bN B)) 3 % 4611686018427387904))), .q 0], 2, 0, 0, false, [.im (.int .u8 (Int.ofNat 2))], [.im (.int .i64 0)]⟩) := by kernel_rfl
set_option maxRecDepth 100000 in
theorem run_tk3 (B : Nat → Nat) (c : Nat) : funS Try.prog (qY Try.prog (xT (fw (hv (bN B)) 3) 3)) (cfB T_tk) Try.f32 100 [.s (bL B) 32 c, .v (.im (.int .i64 1))] = some ([Bin .shr 5 (.tmp 32) (.const (.int .u64 6)) (.int .u8 (Int.ofNat (B 0))) (.int .u64 6) (.int .u8 (Int.ofNat 3)), MkE2, 0 ≤ 32, 32 ≤ c, 0 < c, L8 (bN B), Bin .shl 22 (.tmp 83) (.const (.int .u64 2)) (.int .u64 (Int.ofNat (fw (hv (bN B)) 3))) (.int .u64 2) (.int .u64 (Int.ofNat (4 * fw (hv (bN B)) 3 % 18446744073709551616))), Bin .shr 22 (.tmp 84) (.const (.int .u64 2)) (.int .u64 (Int.ofNat (4 * fw (hv (bN B)) 3 % 18446744073709551616))) (.int .u64 2) (.int .u64 (Int.ofNat (fw (hv (bN B)) 3 % 4611686018427387904)))], ⟨[.c (.int .u64 (Int.ofNat (fw (hv (bN B)) 0))), .c (.int .u64 (Int.ofNat (fw (hv (bN B)) 1))), .c (.int .u64 (Int.ofNat (fw (hv (bN B)) 2))), .c (.int .u64 (Int.ofNat (fw (hv (bN B)) 3 % 4611686018427387904))), .q 0], 2, 0, 0, false, [.im (.int .u8 (Int.ofNat 3))], [.im (.int .i64 0)]⟩) := by kernel_rfl
set_option maxRecDepth 100000 in
theorem run_tk0 (B : Nat → Nat) (c : Nat) : funB Try.prog (qY Try.prog (xT (fw (hv (bN B)) 3) 0)) (cfB T_tk) Try.f32 100 [.s (bL B) 32 c, .v (.im (.int .i64 1))] = some ([Bin .shr 5 (.tmp 32) (.const (.int .u64 6)) (.int .u8 (Int.ofNat (B 0))) (.int .u64 6) (.int .u8 (Int.ofNat 0))], .many [.im (.int .u8 0), .im (.slice none 0 0), .im (.int .i64 44)]) := by kernel_rfl


/-- X without the mark -/
def xv (N : Nat) : Nat := N % 28948022309329048855892746252171976963317496166410141009864396001978282409984
theorem tk_flat (N : Nat) : flat [.c (.int .u64 (Int.ofNat (fw N 0))), .c (.int .u64 (Int.ofNat (fw N 1))), .c (.int .u64 (Int.ofNat (fw N 2))), .c (.int .u64 (Int.ofNat (fw N 3 % 4611686018427387904))), .q 0] = flat [.q (xv N), .q 0] := by
  have h0 : fw N 0 = fw (xv N) 0 := by
    show N / 1 % 18446744073709551616 = N % 28948022309329048855892746252171976963317496166410141009864396001978282409984 / 1 % 18446744073709551616
    omega
  have h1 : fw N 1 = fw (xv N) 1 := by
    show N / 18446744073709551616 % 18446744073709551616 = N % 28948022309329048855892746252171976963317496166410141009864396001978282409984 / 18446744073709551616 % 18446744073709551616
    omega
  have h2 : fw N 2 = fw (xv N) 2 := by
    show N / 340282366920938463463374607431768211456 % 18446744073709551616 = N % 28948022309329048855892746252171976963317496166410141009864396001978282409984 / 340282366920938463463374607431768211456 % 18446744073709551616
    omega
  have h3 : fw N 3 % 4611686018427387904 = fw (xv N) 3 := by
    show N / 6277101735386680763835789423207666416102355444464034512896 % 18446744073709551616 % 4611686018427387904 = N % 28948022309329048855892746252171976963317496166410141009864396001978282409984 / 6277101735386680763835789423207666416102355444464034512896 % 18446744073709551616
    omega
  rw [h0, h1, h2, h3]
  rfl
theorem bin_shl2 {t : Nat} {x y : Operand} {a : Nat} (ha : a < 18446744073709551616) : Bin .shl t x y (.int .u64 (Int.ofNat a)) (.int .u64 2) (.int .u64 (Int.ofNat (4 * a % 18446744073709551616))) := fun w => by
  simp only [Int.ofNat_eq_natCast]
  simp [eqGuard, binOp, go_sem]
  rw [show ∀ z : Int, IntKind.u64.wrap z = z % 18446744073709551616 from fun _ => rfl]
  omega
theorem bin_shr2 {t : Nat} {x y : Operand} {a : Nat} (ha : a < 18446744073709551616) : Bin .shr t x y (.int .u64 (Int.ofNat (4 * a % 18446744073709551616))) (.int .u64 2) (.int .u64 (Int.ofNat (a % 4611686018427387904))) := fun w => by
  simp only [Int.ofNat_eq_natCast]
  simp [eqGuard, binOp, go_sem]
  omega
end Go.Proofs.Ytebaoemoeckgaaa.Ex
namespace Go.Proofs.Ytebaoemoeckgaaa.Ex
set_option linter.unusedVariables false
set_option linter.unusedSimpArgs false

section
variable {R : Type} (K : CR R)
def pwK (x : R) : Nat → R
  | 0 => K.one
  | n + 1 => K.mul (pwK x n) x
end
end Go.Proofs.Ytebaoemoeckgaaa.Ex
namespace Go.Proofs.Ytebaoemoeckgaaa.Ex
set_option linter.unusedVariables false
set_option linter.unusedSimpArgs false

theorem pwF1 (x : Fq) : ∀ n, (pwK F1 x n).1 = x.1 ^ n % FP.M
  | 0 => rfl
  | n + 1 => by show (pwK F1 x n).1 * x.1 % FP.M = _; rw [pwF1 x n, Nat.pow_succ, Nat.mod_mul_mod]
theorem pow_pred (x m : Nat) (h : 0 < m) : x ^ m = x ^ (m - 1) * x := by
  obtain ⟨n, rfl⟩ : ∃ n, m = n + 1 := ⟨m - 1, by omega⟩
  rw [Nat.add_sub_cancel, Nat.pow_succ]
theorem p1 (x : Fq) : pwK F1 x FP.M = x := by
  apply Fin.ext
  rw [pwF1]
  rcases Nat.eq_zero_or_pos x.1 with h | h
  · rw [pow_pred x.1 FP.M fp_pos, h, Nat.mul_zero, Nat.zero_mod]
  · have := ferm h x.2
    rw [pow_pred x.1 FP.M fp_pos, Nat.mul_mod, this, Nat.one_mul, Nat.mod_mod, Nat.mod_eq_of_lt x.2]
def i2 (a : Fq) : Q2 := (a, F1.zero)
def u2 : Q2 := (F1.zero, F1.one)
end Go.Proofs.Ytebaoemoeckgaaa.Ex
namespace Go.Proofs.Ytebaoemoeckgaaa.Ex
set_option linter.unusedVariables false
set_option linter.unusedSimpArgs false
set_option maxRecDepth 10000
theorem sub_zero_of {R : Type} (K : CR R) {a b : R} (h : K.sub a b = K.zero) : a = b := by
  have h1 : K.add (K.add a (K.neg b)) b = b := by
    rw [show K.add a (K.neg b) = K.zero from h, K.zero_add]
  rw [K.add_assoc, K.neg_add, K.add_zero] at h1
  exact h1
theorem sub_self' {R : Type} (K : CR R) (a : R) : K.sub a a = K.zero := K.add_neg a
end Go.Proofs.Ytebaoemoeckgaaa.Ex
namespace Go.Proofs.Ytebaoemoeckgaaa.Ex
set_option linter.unusedVariables false
set_option linter.unusedSimpArgs false
set_option maxRecDepth 10000
theorem sq_pm {R : Type} {K : CR R} (hF : Fld K) {a b : R} (h : K.mul a a = K.mul b b) : a = b ∨ a = K.neg b := by
  have h1 : K.mul (K.sub a b) (K.add a b) = K.zero := by
    have : K.mul (K.sub a b) (K.add a b) = K.sub (K.mul a a) (K.mul b b) :=
      ring_id K (envL K [a, b]) (.mul (.add (.v 0) (.neg (.v 1))) (.add (.v 0) (.v 1))) (.add (.mul (.v 0) (.v 0)) (.neg (.mul (.v 1) (.v 1)))) (by decide)
    rw [this, h, sub_self']
  by_cases h2 : K.sub a b = K.zero
  · exact Or.inl (sub_zero_of K h2)
  · refine Or.inr ?_
    have h3 := hF.zd h1 h2
    refine sub_zero_of K ?_
    show K.add a (K.neg (K.neg b)) = K.zero
    rw [K.neg_neg]
    exact h3
theorem ep_val' : ok4 5694840236247301970 7340967054546858659 7931984006246061591 871749566700742666 ∧ val4 5694840236247301970 7340967054546858659 7931984006246061591 871749566700742666 + val4 5694840236247301970 7340967054546858659 7931984006246061591 871749566700742666 = FP.M / 2 + 1 := ⟨by unfold ok4; decide, by kernel_rfl⟩
theorem rootP_sq' {A : Nat} (h : A ^ (FP.M / 2) % FP.M = 1 ∨ A = 0) : A ^ val4 5694840236247301970 7340967054546858659 7931984006246061591 871749566700742666 % FP.M * (A ^ val4 5694840236247301970 7340967054546858659 7931984006246061591 871749566700742666 % FP.M) % FP.M = A % FP.M := by
  rw [← Nat.mul_mod, ← Nat.pow_add, ep_val'.2, Nat.pow_succ, Nat.mul_mod]
  rcases h with h | h
  · rw [h, Nat.one_mul, Nat.mod_mod]
  · subst h; rw [Nat.zero_mod, Nat.mul_zero, Nat.zero_mod]
/-- a square -/
def isq (x : Fq) : Prop := ∃ V : Fq, F1.mul V V = x
/-- is it the lower one, of it and its negative? -/
def lowF (x : Fq) : Bool := lowB FP.M x.1
theorem hM : FP.M = 21888242871839275222246405745257275088696311157297823662689037894645226208583 := by decide
theorem neg_val' (x : Fq) : (F1.neg x).1 = (0 + FP.M - x.1) % FP.M := rfl
theorem neg_pos {x : Fq} (h : x.1 ≠ 0) : (F1.neg x).1 = FP.M - x.1 := by
  have := x.2
  rw [neg_val', Nat.zero_add, Nat.mod_eq_of_lt (by omega)]
theorem low_iff {x : Fq} (h : x.1 ≠ 0) : lowF x = true ↔ x.1 ≤ FP.M - x.1 := by
  have := x.2
  unfold lowF lowB
  rw [decide_eq_true_iff, Nat.zero_add, Nat.mod_eq_of_lt (show FP.M - x.1 < FP.M by omega)]
theorem low_zero : lowF F1.zero = true := by
  unfold lowF lowB
  exact decide_eq_true (Nat.zero_le _)
theorem f1_zero {x : Fq} (h : x.1 = 0) : x = F1.zero := Fin.ext h
theorem low_or (x : Fq) : lowF x = true ∨ lowF (F1.neg x) = true := by
  by_cases h : x.1 = 0
  · rw [f1_zero h]; exact Or.inl low_zero
  · have h2 := x.2
    have hn : (F1.neg x).1 ≠ 0 := by rw [neg_pos h]; omega
    rw [low_iff h, low_iff hn, neg_pos h]
    omega
theorem low_both {x : Fq} (h : lowF x = true) (h' : lowF (F1.neg x) = true) : x = F1.zero := by
  by_cases h0 : x.1 = 0
  · exact f1_zero h0
  · have h2 := x.2
    have hn : (F1.neg x).1 ≠ 0 := by rw [neg_pos h0]; omega
    rw [low_iff h0] at h
    rw [low_iff hn, neg_pos h0] at h'
    have := hM
    omega
theorem low_neg {x : Fq} (h : lowF x = false) : lowF (F1.neg x) = true := (low_or x).resolve_left (by rw [h]; simp)
theorem isq_leg (x : Fq) : isq x ↔ legN FP.M x.1 ≠ -1 := by
  constructor
  · rintro ⟨V, rfl⟩
    show legN FP.M (V.1 * V.1 % FP.M) ≠ -1
    unfold legN
    by_cases h : V.1 = 0
    · rw [h, Nat.zero_mul, Nat.zero_mod, if_pos rfl]; decide
    · split
      · decide
      · rw [if_pos (leg_sq fpRoot (by decide) (by omega) V.2)]; decide
  · intro h
    have hs : x.1 ^ (FP.M / 2) % FP.M = 1 ∨ x.1 = 0 := by
      unfold legN at h
      by_cases h0 : x.1 = 0
      · exact Or.inr h0
      · rw [if_neg h0] at h
        by_cases h1 : x.1 ^ (FP.M / 2) % FP.M = 1
        · exact Or.inl h1
        · rw [if_neg h1] at h; exact absurd rfl h
    refine ⟨⟨x.1 ^ val4 5694840236247301970 7340967054546858659 7931984006246061591 871749566700742666 % FP.M, Nat.mod_lt _ fp_pos⟩, Fin.ext ?_⟩
    exact (rootP_sq' hs).trans (Nat.mod_eq_of_lt x.2)
theorem not_isq (x : Fq) : ¬ isq x ↔ legN FP.M x.1 = -1 := by rw [isq_leg]; exact Decidable.not_not
open Classical in
/-- the root that is told -/
noncomputable def fsq (x : Fq) : Fq := if h : ∃ V : Fq, F1.mul V V = x ∧ lowF V = true then Classical.choose h else F1.zero
theorem fsq_spec {x : Fq} (h : isq x) : F1.mul (fsq x) (fsq x) = x ∧ lowF (fsq x) = true := by
  have h' : ∃ V : Fq, F1.mul V V = x ∧ lowF V = true := by
    obtain ⟨V, rfl⟩ := h
    rcases low_or V with l | l
    · exact ⟨V, rfl, l⟩
    · exact ⟨F1.neg V, by rw [F1.neg_mul, F1.mul_neg, F1.neg_neg], l⟩
  unfold fsq
  rw [dif_pos h']
  exact Classical.choose_spec h'
theorem fsq_uniq {x V : Fq} (h : F1.mul V V = x) (l : lowF V = true) : fsq x = V := by
  obtain ⟨h1, h2⟩ := fsq_spec ⟨V, h⟩
  rcases sq_pm fld1' (h1.trans h.symm) with e | e
  · exact e
  · have l' := h2
    rw [e] at l'
    have hz := low_both l l'
    rw [e, hz, neg_zero]
theorem fsq_zero : fsq F1.zero = F1.zero := fsq_uniq (F1.mul_zero _) low_zero
/-- which root in Fp2 is told -/
def low2 (r : Q2) : Prop := (r.2 = F1.zero → lowF r.1 = true) ∧ (r.2 ≠ F1.zero → lowF r.2 = true)
open Classical in
noncomputable def rt (x : Q2) : Q2 := if h : ∃ r : Q2, F2.mul r r = x ∧ low2 r then Classical.choose h else F2.zero
/-- a half -/
noncomputable def hf : Fq := finv (fm 2)
/-- the root by the norm's root n, a square s = (a + n) / 2 -/
noncomputable def rr (x : Q2) (s : Fq) : Q2 := (fsq s, F1.mul (F1.mul x.2 hf) (finv (fsq s)))
end Go.Proofs.Ytebaoemoeckgaaa.Ex
