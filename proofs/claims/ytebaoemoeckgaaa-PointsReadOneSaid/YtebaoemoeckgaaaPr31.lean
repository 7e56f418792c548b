/-
  The reference's curve: checks, multiples, sums, negatives of points as they come. Conditions: none.
  Multiples in a commutative group; Booth's digits make the number. Conditions: none.
-/
import Derived.Test.YtebaoemoeckgaaaPr30
import Derived.Test.YtebaoemoeckgaaaPr28
namespace Go.Proofs.Ytebaoemoeckgaaa.Ex
set_option linter.unusedVariables false
set_option linter.unusedSimpArgs false
open Go.RowKit
/-- Below, where it is known what it answers -/
def gBelc (c : Bool) : Ent
  | [.v (.im (.int .i64 (.ofNat 1))), .v (.fl l)] => match rq1 l with
    | some n => some ([blw n = c], .one (.im (.bool c)))
    | none => none
  | _ => none
theorem belc_ok (c : Bool) : ∀ cs pre r, gBelc c cs = some (pre, r) → allP pre → ∀ (args : List Value) (w : World), CAs w cs args → Good Try.prog 21 r args w := by
  intro cs pre r hg hp args w ha
  unfold gBelc at hg
  split at hg
  · rename_i l
    split at hg
    · rename_i n hn
      cases hg
      have h := bel_ok [.v (.im (.int .i64 (.ofNat 1))), .v (.fl l)] [] (.one (.im (.bool (blw n)))) (by show (match rq1 l with | some n => some ([], RV.one (.im (.bool (blw n)))) | none => none) = _; rw [hn]) trivial args w ha
      rw [hp.1] at h
      exact h
    · cases hg
  · cases hg
theorem blw_t {n : Nat} : blw n = true ↔ wv n < FP.M := by unfold blw isB; exact decide_eq_true_iff
theorem blw_f {n : Nat} : blw n = false ↔ ¬ wv n < FP.M := by unfold blw isB; exact decide_eq_false_iff_not
def inP2 (x : N2) : Bool := blw x.1 && blw x.2

noncomputable def T_r1Len : Tab := (T_rpl1).add 73 gLen
theorem ok_r1Len : TabOk Try.prog T_r1Len := (ok_rpl1).add Try.func73 (by kernel_rfl) (by kernel_rfl) rlen_ok
noncomputable def T_r1Bit : Tab := (T_r1Len).add 75 gBit
theorem ok_r1Bit : TabOk Try.prog T_r1Bit := (ok_r1Len).add Try.func75 (by kernel_rfl) (by kernel_rfl) rbit_ok
/-- the counter behind k rounds of L -/
def vI (L k : Nat) : Value := if k < L then iI (L - 1 - k) else .int .i64 (-1)
theorem vI_0 {L : Nat} (h : L ≤ 256) : intOp .sub .i64 (Int.ofNat L) 1 = some (vI L 0) := by
  unfold vI
  cases L with
  | zero => rfl
  | succ n =>
    rw [if_pos (by omega)]
    exact o_sub (k := 1) (i := n + 1) (by omega) (by omega)
theorem vI_s {L k : Nat} (h : L ≤ 256) (hk : k < L) : intOp .sub .i64 (Int.ofNat (L - 1 - k)) 1 = some (vI L (k + 1)) := by
  unfold vI
  by_cases e : k + 1 < L
  · rw [if_pos e, ← Nat.sub_sub (L - 1) k 1]
    exact o_sub (k := 1) (by omega) (by omega)
  · rw [if_neg e, show L - 1 - k = 0 by omega]
    rfl
theorem o_geq0 (n : Nat) : intOp .geq .i64 (Int.ofNat n) 0 = some (.bool true) := by
  show some (Value.bool (decide ((0 : Int) ≤ Int.ofNat n))) = _
  rw [decide_eq_true (show (0 : Int) ≤ Int.ofNat n from Int.natCast_nonneg n)]
theorem eql_t {c : Int} (h : c = 0) : intOp .eql .i64 c 0 = some (.bool true) := by rw [h]; rfl
theorem eql_f {c : Int} (h : c ≠ 0) : intOp .eql .i64 c 0 = some (.bool false) := by
  show some (Value.bool (c == 0)) = _
  rw [beq_eq_false_iff_ne.2 h]

set_option maxRecDepth 100000 in
theorem run_ron1_a (x y : Nat) : funB Try.prog (qG Try.prog) (fun _ => ⟨fun s => T_r1Bit, fun s => false, fun _ => none⟩) Try.f31 60 [.v (.fl (gq1 (x, y, true)))] = some ([flat (q1 x) ≠ flat (e1 F1.zero)], .one (.im (.int .i64 44))) := by kernel_rfl
set_option maxRecDepth 100000 in
theorem run_ron1_b (x y : Nat) : funB Try.prog (qG Try.prog) (fun _ => ⟨fun s => T_r1Bit, fun s => Nat.beq s 7, fun _ => none⟩) Try.f31 60 [.v (.fl (gq1 (x, y, true)))] = some ([flat (q1 x) = flat (e1 F1.zero), flat (q1 y) ≠ flat (e1 F1.zero)], .one (.im (.int .i64 44))) := by kernel_rfl
set_option maxRecDepth 100000 in
theorem run_ron1_c (x y : Nat) : funB Try.prog (qG Try.prog) (fun _ => ⟨fun s => T_r1Bit, fun s => true, fun _ => none⟩) Try.f31 60 [.v (.fl (gq1 (x, y, true)))] = some ([flat (q1 x) = flat (e1 F1.zero), flat (q1 y) = flat (e1 F1.zero)], .one (.im (.int .i64 0))) := by kernel_rfl
set_option maxRecDepth 100000 in
theorem run_ron1_du (x y : Nat) : funB Try.prog (qG Try.prog) (fun _ => ⟨fun s => (T_r1Bit).add 21 (gBelc (bif Nat.beq s 27 then false else true)), fun s => false, fun _ => none⟩) Try.f31 60 [.v (.fl (gq1 (x, y, false)))] = some ([flat (q1 x) ≠ flat (e1 F1.zero), blw x = false], .one (.im (.int .i64 21))) := by kernel_rfl
set_option maxRecDepth 100000 in
theorem run_ron1_eu (x y : Nat) : funB Try.prog (qG Try.prog) (fun _ => ⟨fun s => (T_r1Bit).add 21 (gBelc (bif Nat.beq s 27 then true else false)), fun s => false, fun _ => none⟩) Try.f31 60 [.v (.fl (gq1 (x, y, false)))] = some ([flat (q1 x) ≠ flat (e1 F1.zero), blw x = true, blw y = false], .one (.im (.int .i64 21))) := by kernel_rfl
set_option maxRecDepth 100000 in
theorem run_ron1_fu (x y : Nat) : funB Try.prog (qG Try.prog) (fun _ => ⟨fun s => (T_r1Bit).add 21 (gBelc (bif Nat.beq s 27 then true else true)), fun s => false, fun _ => none⟩) Try.f31 80 [.v (.fl (gq1 (x, y, false)))] = some ([flat (q1 x) ≠ flat (e1 F1.zero), blw x = true, blw y = true, flat (e1 (F1.mul (m1 y) (m1 y))) ≠ flat (e1 (F1.add (F1.mul (m1 x) (F1.mul (m1 x) (m1 x))) (fm 3)))], .one (.im (.int .i64 41))) := by kernel_rfl
set_option maxRecDepth 100000 in
theorem run_ron1_gu (x y : Nat) : funB Try.prog (qG Try.prog) (fun _ => ⟨fun s => (T_r1Bit).add 21 (gBelc (bif Nat.beq s 27 then true else true)), fun s => false || Nat.beq s 51, fun _ => none⟩) Try.f31 80 [.v (.fl (gq1 (x, y, false)))] = some ([flat (q1 x) ≠ flat (e1 F1.zero), blw x = true, blw y = true, flat (e1 (F1.mul (m1 y) (m1 y))) = flat (e1 (F1.add (F1.mul (m1 x) (F1.mul (m1 x) (m1 x))) (fm 3)))], .one (.im (.int .i64 0))) := by kernel_rfl
set_option maxRecDepth 100000 in
theorem run_ron1_dv (x y : Nat) : funB Try.prog (qG Try.prog) (fun _ => ⟨fun s => (T_r1Bit).add 21 (gBelc (bif Nat.beq s 27 then false else true)), fun s => Nat.beq s 7, fun _ => none⟩) Try.f31 60 [.v (.fl (gq1 (x, y, false)))] = some ([flat (q1 x) = flat (e1 F1.zero), flat (q1 y) ≠ flat (e1 F1.zero), blw x = false], .one (.im (.int .i64 21))) := by kernel_rfl
set_option maxRecDepth 100000 in
theorem run_ron1_ev (x y : Nat) : funB Try.prog (qG Try.prog) (fun _ => ⟨fun s => (T_r1Bit).add 21 (gBelc (bif Nat.beq s 27 then true else false)), fun s => Nat.beq s 7, fun _ => none⟩) Try.f31 60 [.v (.fl (gq1 (x, y, false)))] = some ([flat (q1 x) = flat (e1 F1.zero), flat (q1 y) ≠ flat (e1 F1.zero), blw x = true, blw y = false], .one (.im (.int .i64 21))) := by kernel_rfl
set_option maxRecDepth 100000 in
theorem run_ron1_fv (x y : Nat) : funB Try.prog (qG Try.prog) (fun _ => ⟨fun s => (T_r1Bit).add 21 (gBelc (bif Nat.beq s 27 then true else true)), fun s => Nat.beq s 7, fun _ => none⟩) Try.f31 80 [.v (.fl (gq1 (x, y, false)))] = some ([flat (q1 x) = flat (e1 F1.zero), flat (q1 y) ≠ flat (e1 F1.zero), blw x = true, blw y = true, flat (e1 (F1.mul (m1 y) (m1 y))) ≠ flat (e1 (F1.add (F1.mul (m1 x) (F1.mul (m1 x) (m1 x))) (fm 3)))], .one (.im (.int .i64 41))) := by kernel_rfl
set_option maxRecDepth 100000 in
theorem run_ron1_gv (x y : Nat) : funB Try.prog (qG Try.prog) (fun _ => ⟨fun s => (T_r1Bit).add 21 (gBelc (bif Nat.beq s 27 then true else true)), fun s => Nat.beq s 7 || Nat.beq s 51, fun _ => none⟩) Try.f31 80 [.v (.fl (gq1 (x, y, false)))] = some ([flat (q1 x) = flat (e1 F1.zero), flat (q1 y) ≠ flat (e1 F1.zero), blw x = true, blw y = true, flat (e1 (F1.mul (m1 y) (m1 y))) = flat (e1 (F1.add (F1.mul (m1 x) (F1.mul (m1 x) (m1 x))) (fm 3)))], .one (.im (.int .i64 0))) := by kernel_rfl
set_option maxRecDepth 100000 in
theorem run_ron1_dw (x y : Nat) : funB Try.prog (qG Try.prog) (fun _ => ⟨fun s => (T_r1Bit).add 21 (gBelc (bif Nat.beq s 27 then false else true)), fun s => Nat.beq s 7 || Nat.beq s 12, fun _ => none⟩) Try.f31 60 [.v (.fl (gq1 (x, y, false)))] = some ([flat (q1 x) = flat (e1 F1.zero), flat (q1 y) = flat (e1 F1.zero), blw x = false], .one (.im (.int .i64 21))) := by kernel_rfl
set_option maxRecDepth 100000 in
theorem run_ron1_ew (x y : Nat) : funB Try.prog (qG Try.prog) (fun _ => ⟨fun s => (T_r1Bit).add 21 (gBelc (bif Nat.beq s 27 then true else false)), fun s => Nat.beq s 7 || Nat.beq s 12, fun _ => none⟩) Try.f31 60 [.v (.fl (gq1 (x, y, false)))] = some ([flat (q1 x) = flat (e1 F1.zero), flat (q1 y) = flat (e1 F1.zero), blw x = true, blw y = false], .one (.im (.int .i64 21))) := by kernel_rfl
set_option maxRecDepth 100000 in
theorem run_ron1_fw (x y : Nat) : funB Try.prog (qG Try.prog) (fun _ => ⟨fun s => (T_r1Bit).add 21 (gBelc (bif Nat.beq s 27 then true else true)), fun s => Nat.beq s 7 || Nat.beq s 12, fun _ => none⟩) Try.f31 80 [.v (.fl (gq1 (x, y, false)))] = some ([flat (q1 x) = flat (e1 F1.zero), flat (q1 y) = flat (e1 F1.zero), blw x = true, blw y = true, flat (e1 (F1.mul (m1 y) (m1 y))) ≠ flat (e1 (F1.add (F1.mul (m1 x) (F1.mul (m1 x) (m1 x))) (fm 3)))], .one (.im (.int .i64 41))) := by kernel_rfl
set_option maxRecDepth 100000 in
theorem run_ron1_gw (x y : Nat) : funB Try.prog (qG Try.prog) (fun _ => ⟨fun s => (T_r1Bit).add 21 (gBelc (bif Nat.beq s 27 then true else true)), fun s => Nat.beq s 7 || Nat.beq s 12 || Nat.beq s 51, fun _ => none⟩) Try.f31 80 [.v (.fl (gq1 (x, y, false)))] = some ([flat (q1 x) = flat (e1 F1.zero), flat (q1 y) = flat (e1 F1.zero), blw x = true, blw y = true, flat (e1 (F1.mul (m1 y) (m1 y))) = flat (e1 (F1.add (F1.mul (m1 x) (F1.mul (m1 x) (m1 x))) (fm 3)))], .one (.im (.int .i64 0))) := by kernel_rfl
theorem ron1_ok (p : G1N) (args : List Value) (w : World) (ha : CAs w [.v (.fl (gq1 p))] args) : Good Try.prog 31 (.one (.im (.int .i64 (ck1 p.1 p.2.1 p.2.2).1))) args w := by
  obtain ⟨x, y, b⟩ := p
  show Good _ _ (.one (.im (.int .i64 (ck1 x y b).1))) _ _
  rw [ck1_eq]
  cases b with
  | true =>
    rw [if_pos rfl]
    by_cases hx : zr1 x
    · by_cases hy : zr1 y
      · rw [if_pos ⟨hx, hy⟩]
        exact funB_sound hmix (fun _ s => ok_r1Bit) (qG_ok Try.prog) Try.func31 (run_ron1_c x y) ⟨q_zero.2 hx, q_zero.2 hy, trivial⟩ ha
      · rw [if_neg (fun h => hy h.2)]
        exact funB_sound hmix (fun _ s => ok_r1Bit) (qG_ok Try.prog) Try.func31 (run_ron1_b x y) ⟨q_zero.2 hx, fun h => hy (q_zero.1 h), trivial⟩ ha
    · rw [if_neg (fun h => hx h.1)]
      exact funB_sound hmix (fun _ s => ok_r1Bit) (qG_ok Try.prog) Try.func31 (run_ron1_a x y) ⟨fun h => hx (q_zero.1 h), trivial⟩ ha
  | false =>
    rw [if_neg (by simp)]
    by_cases hx : bl1 x
    · by_cases hy : bl1 y
      · rw [if_neg (fun h => h ⟨hx, hy⟩)]
        by_cases h : F1.mul (m1 y) (m1 y) = F1.add (F1.mul (F1.mul (m1 x) (m1 x)) (m1 x)) (fm 3)
        · rw [if_pos h]
          have h' : F1.mul (m1 y) (m1 y) = F1.add (F1.mul (m1 x) (F1.mul (m1 x) (m1 x))) (fm 3) := by rw [h, F1.mul_comm (m1 x) (F1.mul (m1 x) (m1 x))]
          by_cases hx0 : zr1 x
          · by_cases hy0 : zr1 y
            · exact funB_sound hmix (fun _ s => (ok_r1Bit).add Try.func21 (by kernel_rfl) (by kernel_rfl) (belc_ok _)) (qG_ok Try.prog) Try.func31 (run_ron1_gw x y) ⟨q_zero.2 hx0, q_zero.2 hy0, (blw_t.2 hx), (blw_t.2 hy), by rw [h'], trivial⟩ ha
            · exact funB_sound hmix (fun _ s => (ok_r1Bit).add Try.func21 (by kernel_rfl) (by kernel_rfl) (belc_ok _)) (qG_ok Try.prog) Try.func31 (run_ron1_gv x y) ⟨q_zero.2 hx0, fun h => hy0 (q_zero.1 h), (blw_t.2 hx), (blw_t.2 hy), by rw [h'], trivial⟩ ha
          · exact funB_sound hmix (fun _ s => (ok_r1Bit).add Try.func21 (by kernel_rfl) (by kernel_rfl) (belc_ok _)) (qG_ok Try.prog) Try.func31 (run_ron1_gu x y) ⟨fun h => hx0 (q_zero.1 h), (blw_t.2 hx), (blw_t.2 hy), by rw [h'], trivial⟩ ha
        · rw [if_neg h]
          have h' : F1.mul (m1 y) (m1 y) ≠ F1.add (F1.mul (m1 x) (F1.mul (m1 x) (m1 x))) (fm 3) := by rw [F1.mul_comm (m1 x) (F1.mul (m1 x) (m1 x))]; exact h
          by_cases hx0 : zr1 x
          · by_cases hy0 : zr1 y
            · exact funB_sound hmix (fun _ s => (ok_r1Bit).add Try.func21 (by kernel_rfl) (by kernel_rfl) (belc_ok _)) (qG_ok Try.prog) Try.func31 (run_ron1_fw x y) ⟨q_zero.2 hx0, q_zero.2 hy0, (blw_t.2 hx), (blw_t.2 hy), flat_ne h', trivial⟩ ha
            · exact funB_sound hmix (fun _ s => (ok_r1Bit).add Try.func21 (by kernel_rfl) (by kernel_rfl) (belc_ok _)) (qG_ok Try.prog) Try.func31 (run_ron1_fv x y) ⟨q_zero.2 hx0, fun h => hy0 (q_zero.1 h), (blw_t.2 hx), (blw_t.2 hy), flat_ne h', trivial⟩ ha
          · exact funB_sound hmix (fun _ s => (ok_r1Bit).add Try.func21 (by kernel_rfl) (by kernel_rfl) (belc_ok _)) (qG_ok Try.prog) Try.func31 (run_ron1_fu x y) ⟨fun h => hx0 (q_zero.1 h), (blw_t.2 hx), (blw_t.2 hy), flat_ne h', trivial⟩ ha
      · rw [if_pos (fun h => hy h.2)]
        by_cases hx0 : zr1 x
        · by_cases hy0 : zr1 y
          · exact funB_sound hmix (fun _ s => (ok_r1Bit).add Try.func21 (by kernel_rfl) (by kernel_rfl) (belc_ok _)) (qG_ok Try.prog) Try.func31 (run_ron1_ew x y) ⟨q_zero.2 hx0, q_zero.2 hy0, (blw_t.2 hx), (blw_f.2 hy), trivial⟩ ha
          · exact funB_sound hmix (fun _ s => (ok_r1Bit).add Try.func21 (by kernel_rfl) (by kernel_rfl) (belc_ok _)) (qG_ok Try.prog) Try.func31 (run_ron1_ev x y) ⟨q_zero.2 hx0, fun h => hy0 (q_zero.1 h), (blw_t.2 hx), (blw_f.2 hy), trivial⟩ ha
        · exact funB_sound hmix (fun _ s => (ok_r1Bit).add Try.func21 (by kernel_rfl) (by kernel_rfl) (belc_ok _)) (qG_ok Try.prog) Try.func31 (run_ron1_eu x y) ⟨fun h => hx0 (q_zero.1 h), (blw_t.2 hx), (blw_f.2 hy), trivial⟩ ha
    · rw [if_pos (fun h => hx h.1)]
      by_cases hx0 : zr1 x
      · by_cases hy0 : zr1 y
        · exact funB_sound hmix (fun _ s => (ok_r1Bit).add Try.func21 (by kernel_rfl) (by kernel_rfl) (belc_ok _)) (qG_ok Try.prog) Try.func31 (run_ron1_dw x y) ⟨q_zero.2 hx0, q_zero.2 hy0, (blw_f.2 hx), trivial⟩ ha
        · exact funB_sound hmix (fun _ s => (ok_r1Bit).add Try.func21 (by kernel_rfl) (by kernel_rfl) (belc_ok _)) (qG_ok Try.prog) Try.func31 (run_ron1_dv x y) ⟨q_zero.2 hx0, fun h => hy0 (q_zero.1 h), (blw_f.2 hx), trivial⟩ ha
      · exact funB_sound hmix (fun _ s => (ok_r1Bit).add Try.func21 (by kernel_rfl) (by kernel_rfl) (belc_ok _)) (qG_ok Try.prog) Try.func31 (run_ron1_du x y) ⟨fun h => hx0 (q_zero.1 h), (blw_f.2 hx), trivial⟩ ha
noncomputable def T_ron1 : Tab := (T_r1Bit).add 31 (g1 rg1 fun p => ([], .one (.im (.int .i64 (ck1 p.1 p.2.1 p.2.2).1))))
theorem ok_ron1 : TabOk Try.prog T_ron1 := (ok_r1Bit).add Try.func31 (by kernel_rfl) (by kernel_rfl) (g1_ok rg1_ok fun p hp args w ha => ron1_ok p args w ha)
noncomputable def rtm1 (a : J1) (n L : Nat) : Nat → J1
  | 0 => (F1.one, F1.one, F1.zero)
  | k + 1 => if bitOf (wv n) (L - 1 - k) = 1 then rplus F1 (jdbl F1 (rtm1 a n L k)) a else jdbl F1 (rtm1 a n L k)
def tmF1 (a : J1) (n : Nat) (v : Value) (c : J1) : List Fact := [.slot 2 (.pt 2 0), .row 2 true (ej1 a), .slot 3 (.pt 3 0), .row 3 true [.q n], .slot 4 (.pt 4 0), .row 4 true (ej1 zp1), .slot 5 (.pt 5 0), .row 5 true (ej1 c), .slot 6 (.im v)]
def tmA1 (a : J1) (n : Nat) : List Fact := [.slot 2 (.pt 2 0), .row 2 true (ej1 a), .slot 3 (.pt 3 0), .row 3 true [.q n], .slot 4 (.pt 4 0), .row 4 true (ej1 zp1)]
def tmB1 (a : J1) (n : Nat) (c : J1) : List Fact := [.slot 2 (.pt 2 0), .row 2 true (ej1 a), .slot 3 (.pt 3 0), .row 3 true [.q n], .slot 4 (.pt 4 0), .row 4 true (ej1 zp1), .slot 5 (.pt 5 0), .row 5 true (ej1 c)]
noncomputable def tmC1 (num : Nat → Option Value) (_ : Nat) : Cfg := ⟨fun _ => T_ron1, fun _ => true, num⟩
noncomputable def tmCode1 : Code := (Try.f43.body).getD .skip
noncomputable def tmLoop1 : Code := cIn (cIn (cB (cA (cB (cB tmCode1)))))
theorem tm1_code : tmCode1 = .seq (cA tmCode1) (.seq (cA (cB tmCode1)) (.seq (.seq (cA (cA (cB (cB tmCode1)))) (.block 0 (.loop tmLoop1))) (cB (cB (cB tmCode1))))) := by kernel_rfl
set_option maxRecDepth 100000 in
theorem tm1_s0 (a : J1) (n : Nat) : runK Try.prog (qG Try.prog) Try.f43.ntmps (tmC1 fun _ => none) 60 (cA tmCode1) (argF 0 [.v (.fl (ej1 a)), .v (.fl [.q n])]) (tmA1 a n) = some ([], .nrm, (tmA1 a n)) := by kernel_rfl
set_option maxRecDepth 100000 in
theorem tm1_s1 (a : J1) (n : Nat) : runK Try.prog (qG Try.prog) Try.f43.ntmps (tmC1 fun _ => none) 60 (cA (cB tmCode1)) (tmA1 a n) (tmB1 a n (F1.one, F1.one, F1.zero)) = some ([], .nrm, (tmB1 a n (F1.one, F1.one, F1.zero))) := by kernel_rfl
set_option maxRecDepth 100000 in
theorem tm1_s2 (a c : J1) (n : Nat) (v : Value) : runK Try.prog (qG Try.prog) Try.f43.ntmps (tmC1 (assoc [(12, v)])) 60 (cA (cA (cB (cB tmCode1)))) (tmB1 a n c) (tmF1 a n v c) = some ([intOp .sub .i64 (Int.ofNat (lenF n)) 1 = some v], .nrm, (tmF1 a n v c)) := by kernel_rfl
set_option maxRecDepth 100000 in
theorem tm1_rd1 (a c : J1) (n j : Nat) (v : Value) : runK Try.prog (qG Try.prog) Try.f43.ntmps (tmC1 (assoc [(14, .bool true), (22, .bool true), (16, v)])) 60 tmLoop1 (tmF1 a n (iI j) c) (tmF1 a n v (rplus F1 (jdbl F1 c) a)) = some ([intOp .geq .i64 (Int.ofNat j) 0 = some (.bool true), j < 256, intOp .eql .i64 (Int.ofNat (bitOf (wv n) j)) 1 = some (.bool true), intOp .sub .i64 (Int.ofNat j) 1 = some v], .nrm, (tmF1 a n v (rplus F1 (jdbl F1 c) a))) := by kernel_rfl
set_option maxRecDepth 100000 in
theorem tm1_rd0 (a c : J1) (n j : Nat) (v : Value) : runK Try.prog (qG Try.prog) Try.f43.ntmps (tmC1 (assoc [(14, .bool true), (22, .bool false), (16, v)])) 60 tmLoop1 (tmF1 a n (iI j) c) (tmF1 a n v (jdbl F1 c)) = some ([intOp .geq .i64 (Int.ofNat j) 0 = some (.bool true), j < 256, intOp .eql .i64 (Int.ofNat (bitOf (wv n) j)) 1 = some (.bool false), intOp .sub .i64 (Int.ofNat j) 1 = some v], .nrm, (tmF1 a n v (jdbl F1 c))) := by kernel_rfl
set_option maxRecDepth 100000 in
theorem tm1_end (a c : J1) (n : Nat) : runK Try.prog (qG Try.prog) Try.f43.ntmps (tmC1 (fun _ => none)) 60 tmLoop1 (tmF1 a n (.int .i64 (-1)) c) (tmF1 a n (.int .i64 (-1)) c) = some ([], (.ex 0), (tmF1 a n (.int .i64 (-1)) c)) := by kernel_rfl
set_option maxRecDepth 100000 in
theorem tm1_last (a c : J1) (n : Nat) (v : Value) : runK Try.prog (qG Try.prog) Try.f43.ntmps (tmC1 fun _ => none) 60 (cB (cB (cB tmCode1))) (tmF1 a n v c) [.slot 4 (.pt 4 0), .row 4 true (ej1 c)] = some ([], .rt, [.slot 4 (.pt 4 0), .row 4 true (ej1 c)]) := by kernel_rfl
theorem tm1_calls (a : J1) (n : Nat) (args : List Value) (w0 : World) (ha : CAs w0 [.v (.fl (ej1 a)), .v (.fl [.q n])] args) : Good Try.prog 43 (.one (.fl (ej1 (rtm1 a n (lenF n) (lenF n))))) args w0 := by
  have hG : EqOkW Try.prog (qG Try.prog) w0.heap.size w0 := (qG_ok _).w _ _
  have hT : ∀ n d : Nat, TabOkW Try.prog (T_ron1) w0.heap.size w0 := fun _ _ => (ok_ron1).w _ _
  have hL := lenF_le n
  refine fn_enter Try.func43 (c := tmCode1) rfl ha (Nat.le_of_ble_eq_true (by kernel_rfl)) fun b w' hA => ?_
  rw [tm1_code]
  refine wp_seq (runKW_sound hmix hT hG (tm1_s0 a n) trivial hA fun b w' hA => ?_)
  refine wp_seq (runKW_sound hmix hT hG (tm1_s1 a n) trivial hA fun b w' hA => ?_)
  refine wp_seq (wp_seq (runKW_sound hmix hT hG (tm1_s2 a _ n (vI (lenF n) 0)) ⟨vI_0 hL, trivial⟩ hA fun b w' hA => ?_))
  refine wp_block ?_
  refine loop_r hmix (fun k => tmF1 a n (vI (lenF n) k) (rtm1 a n (lenF n) k)) (lenF n) (fun k hk => ?_) (.ex 0) (by simp) (tmF1 a n (.int .i64 (-1)) (rtm1 a n (lenF n) (lenF n))) ?_ hA fun b w' hA => ?_
  · have e0 : vI (lenF n) k = iI (lenF n - 1 - k) := if_pos hk
    show Ok _ _ _ _ _ (tmF1 a n (vI (lenF n) k) (rtm1 a n (lenF n) k)) _ (tmF1 a n (vI (lenF n) (k + 1)) (rtm1 a n (lenF n) (k + 1)))
    rw [e0]
    by_cases h : bitOf (wv n) (lenF n - 1 - k) = 1
    · rw [show rtm1 a n (lenF n) (k + 1) = rplus F1 (jdbl F1 (rtm1 a n (lenF n) k)) a from if_pos h]
      exact ⟨_, _, _, _, hG, hT, tm1_rd1 a (rtm1 a n (lenF n) k) n (lenF n - 1 - k) (vI (lenF n) (k + 1)), o_geq0 _, by omega, by rw [o_eql1, decide_eq_true h], vI_s hL hk, trivial⟩
    · rw [show rtm1 a n (lenF n) (k + 1) = jdbl F1 (rtm1 a n (lenF n) k) from if_neg h]
      exact ⟨_, _, _, _, hG, hT, tm1_rd0 a (rtm1 a n (lenF n) k) n (lenF n - 1 - k) (vI (lenF n) (k + 1)), o_geq0 _, by omega, by rw [o_eql1, decide_eq_false h], vI_s hL hk, trivial⟩
  · show Ok _ _ _ _ _ (tmF1 a n (vI (lenF n) (lenF n)) _) _ _
    rw [show vI (lenF n) (lenF n) = .int .i64 (-1) from if_neg (Nat.lt_irrefl _)]
    exact ⟨_, _, _, _, hG, hT, tm1_end a _ n, trivial⟩
  · show (cB (cB (cB tmCode1))).wp _ _ _ _
    exact runKW_sound hmix hT hG (tm1_last a _ n _) trivial hA fun b w' hA => fn_leave (l := [.fl (ej1 (rtm1 a n (lenF n) (lenF n)))]) (r := .one (.fl (ej1 (rtm1 a n (lenF n) (lenF n))))) (by kernel_rfl) (by kernel_rfl) hA
noncomputable def T_rtm1 : Tab := (T_ron1).add 43 (g2 rj1 rq1 fun a n => ([], .one (.fl (ej1 (rtm1 a n (lenF n) (lenF n))))))
theorem ok_rtm1 : TabOk Try.prog T_rtm1 := (ok_ron1).add Try.func43 (by kernel_rfl) (by kernel_rfl) (g2_ok rj1_ok rq1_ok fun a n hp args w ha => tm1_calls a n args w ha)
theorem ck1_bl {p : G1N} (h : (ck1 p.1 p.2.1 p.2.2).1 = 0) : p.2.2 = false → bl1 p.1 ∧ bl1 p.2.1 := fun hb => by
  rw [ck1_eq, hb, if_neg (by simp)] at h
  by_cases hb : bl1 p.1 ∧ bl1 p.2.1
  · exact hb
  · rw [if_pos hb] at h
    cases h
noncomputable def rresA1 (p q : G1N) : Pt Fq × Int := if (ck1 p.1 p.2.1 p.2.2).1 ≠ 0 then ((some (F1.zero, F1.zero)), (ck1 p.1 p.2.1 p.2.2).1) else if (ck1 q.1 q.2.1 q.2.2).1 ≠ 0 then ((some (F1.zero, F1.zero)), (ck1 q.1 q.2.1 q.2.2).1) else (jto F1 finv (rplus F1 (wd1 p) (wd1 q)), 0)
set_option maxRecDepth 100000 in
theorem run_rMul1_a (p : G1N) (n : Nat) : funB Try.prog (qG Try.prog) (fun _ => ⟨fun s => T_rtm1, fun s => true, fun s => bif Nat.beq s 10 then some (.bool true) else none⟩) Try.f18 60 [.v (.fl (gq1 p)), .v (.fl [.q n])] = some ([intOp .neq .i64 (ck1 p.1 p.2.1 p.2.2).1 0 = some (.bool true)], .many [.fl (gf1 (some (F1.zero, F1.zero))), .im (.int .i64 (ck1 p.1 p.2.1 p.2.2).1)]) := by kernel_rfl
set_option maxRecDepth 100000 in
theorem run_rMul1_b (p : G1N) (n : Nat) : funB Try.prog (qG Try.prog) (fun _ => ⟨fun s => T_rtm1, fun s => true, fun s => bif Nat.beq s 10 then some (.bool false) else none⟩) Try.f18 60 [.v (.fl (gq1 p)), .v (.fl [.q n])] = some ([intOp .neq .i64 (ck1 p.1 p.2.1 p.2.2).1 0 = some (.bool false), (p.2.2 = false → bl1 p.1 ∧ bl1 p.2.1)], .many [.fl (gf1 (jto F1 finv (rtm1 (wd1 p) n (lenF n) (lenF n)))), .im (.int .i64 0)]) := by kernel_rfl
noncomputable def rresM1 (p : G1N) (n : Nat) : Pt Fq × Int := if (ck1 p.1 p.2.1 p.2.2).1 ≠ 0 then ((some (F1.zero, F1.zero)), (ck1 p.1 p.2.1 p.2.2).1) else (jto F1 finv (rtm1 (wd1 p) n (lenF n) (lenF n)), 0)
theorem rMul1_ok (p : G1N) (n : Nat) (args : List Value) (w : World) (ha : CAs w [.v (.fl (gq1 p)), .v (.fl [.q n])] args) : Good Try.prog 18 (.many [.fl (gf1 (rresM1 p n).1), .im (.int .i64 (rresM1 p n).2)]) args w := by
  unfold rresM1
  by_cases h1 : (ck1 p.1 p.2.1 p.2.2).1 = 0
  · rw [if_neg (fun h => h h1)]
    exact funB_sound hmix (fun _ s => ok_rtm1) (qG_ok Try.prog) Try.func18 (run_rMul1_b p n) ⟨neq_f h1, ck1_bl h1, trivial⟩ ha
  · rw [if_pos h1]
    exact funB_sound hmix (fun _ s => ok_rtm1) (qG_ok Try.prog) Try.func18 (run_rMul1_a p n) ⟨neq_t h1, trivial⟩ ha
noncomputable def T_rrMul1 : Tab := (T_rtm1).add 18 (g2 rg1 rq1 fun p n => ([], .many [.fl (gf1 (rresM1 p n).1), .im (.int .i64 (rresM1 p n).2)]))
theorem ok_rrMul1 : TabOk Try.prog T_rrMul1 := (ok_rtm1).add Try.func18 (by kernel_rfl) (by kernel_rfl) (g2_ok rg1_ok rq1_ok fun p n hp args w ha => rMul1_ok p n args w ha)
set_option maxRecDepth 100000 in
theorem run_rNeg1_atrue (x y : Nat) : funB Try.prog (qG Try.prog) (fun _ => ⟨fun s => T_rrMul1, fun s => true, fun s => bif Nat.beq s 8 then some (.bool true) else bif Nat.beq s 14 then some (.bool false) else none⟩) Try.f20 60 [.v (.fl (gq1 (x, y, true)))] = some ([intOp .neq .i64 (ck1 x y true).1 0 = some (.bool true), intOp .eql .i64 (ck1 x y true).1 0 = some (.bool false)], .many [.fl (gf1 (some (F1.zero, F1.zero))), .im (.int .i64 (ck1 x y true).1)]) := by kernel_rfl
set_option maxRecDepth 100000 in
theorem run_rNeg1_afalse (x y : Nat) : funB Try.prog (qG Try.prog) (fun _ => ⟨fun s => T_rrMul1, fun s => true, fun s => bif Nat.beq s 8 then some (.bool true) else bif Nat.beq s 14 then some (.bool false) else none⟩) Try.f20 60 [.v (.fl (gq1 (x, y, false)))] = some ([intOp .neq .i64 (ck1 x y false).1 0 = some (.bool true), intOp .eql .i64 (ck1 x y false).1 0 = some (.bool false)], .many [.fl (gf1 (some (F1.zero, F1.zero))), .im (.int .i64 (ck1 x y false).1)]) := by kernel_rfl
set_option maxRecDepth 100000 in
theorem run_rNeg1_b (x y : Nat) : funB Try.prog (qG Try.prog) (fun _ => ⟨fun s => T_rrMul1, fun s => true, fun s => bif Nat.beq s 8 then some (.bool false) else bif Nat.beq s 14 then some (.bool true) else none⟩) Try.f20 60 [.v (.fl (gq1 (x, y, true)))] = some ([intOp .neq .i64 (ck1 x y true).1 0 = some (.bool false), intOp .eql .i64 (ck1 x y true).1 0 = some (.bool true)], .many [.fl (gf1 none), .im (.int .i64 (ck1 x y true).1)]) := by kernel_rfl
set_option maxRecDepth 100000 in
theorem run_rNeg1_c (x y : Nat) : funB Try.prog (qG Try.prog) (fun _ => ⟨fun s => T_rrMul1, fun s => true, fun s => bif Nat.beq s 8 then some (.bool false) else none⟩) Try.f20 60 [.v (.fl (gq1 (x, y, false)))] = some ([intOp .neq .i64 (ck1 x y false).1 0 = some (.bool false)], .many [.fl (q1 x ++ (e1 (F1.neg (m1 y)) ++ [.c (.bool false)])), .im (.int .i64 0)]) := by kernel_rfl
noncomputable def rresN1 (p : G1N) : Pt Fq × Int := if (ck1 p.1 p.2.1 p.2.2).1 ≠ 0 then ((some (F1.zero, F1.zero)), (ck1 p.1 p.2.1 p.2.2).1) else (bif p.2.2 then none else some (m1 p.1, (F1.neg (m1 p.2.1))), 0)
theorem rNeg1_ok (p : G1N) (args : List Value) (w : World) (ha : CAs w [.v (.fl (gq1 p))] args) : Good Try.prog 20 (.many [.fl (gf1 (rresN1 p).1), .im (.int .i64 (rresN1 p).2)]) args w := by
  obtain ⟨x, y, b⟩ := p
  by_cases h1 : (ck1 x y b).1 = 0
  · rw [show rresN1 (x, y, b) = (bif b then none else some (m1 x, (F1.neg (m1 y))), 0) from if_neg (fun h => h h1)]
    cases b with
    | true =>
      have e : Good Try.prog 20 (.many [.fl (gf1 none), .im (.int .i64 (ck1 x y true).1)]) args w := funB_sound hmix (fun _ s => ok_rrMul1) (qG_ok Try.prog) Try.func20 (run_rNeg1_b x y) ⟨neq_f h1, eql_t h1, trivial⟩ ha
      rw [h1] at e
      exact e
    | false =>
      refine Good.congr (funB_sound hmix (fun _ s => ok_rrMul1) (qG_ok Try.prog) Try.func20 (run_rNeg1_c x y) ⟨neq_f h1, trivial⟩ ha) ?_
      obtain ⟨hx, hy⟩ := ck1_bl (p := (x, y, false)) h1 rfl
      have e : flat (q1 x ++ (e1 (F1.neg (m1 y)) ++ [.c (.bool false)])) = flat (gf1 (some (m1 x, (F1.neg (m1 y))))) := by
        rw [flat_append, bl_f1 hx]
        rfl
      show Value.tuple #[.agg (flat _).toArray, _] = .tuple #[.agg (flat _).toArray, _]
      rw [e]
      rfl
  · rw [show rresN1 (x, y, b) = ((some (F1.zero, F1.zero)), (ck1 x y b).1) from if_pos h1]
    cases b with
    | true => exact funB_sound hmix (fun _ s => ok_rrMul1) (qG_ok Try.prog) Try.func20 (run_rNeg1_atrue x y) ⟨neq_t h1, eql_f h1, trivial⟩ ha
    | false => exact funB_sound hmix (fun _ s => ok_rrMul1) (qG_ok Try.prog) Try.func20 (run_rNeg1_afalse x y) ⟨neq_t h1, eql_f h1, trivial⟩ ha
noncomputable def T_rrNeg1 : Tab := (T_rrMul1).add 20 (g1 rg1 fun p => ([], .many [.fl (gf1 (rresN1 p).1), .im (.int .i64 (rresN1 p).2)]))
theorem ok_rrNeg1 : TabOk Try.prog T_rrNeg1 := (ok_rrMul1).add Try.func20 (by kernel_rfl) (by kernel_rfl) (g1_ok rg1_ok fun p hp args w ha => rNeg1_ok p args w ha)
def gB2c (c : Bool) : Ent := g1 rq2 fun x => ([inP2 x = c], .one (.im (.bool c)))
theorem blp_t {x : N2} : inP2 x = true ↔ bl2 x := by
  unfold inP2 bl2
  rw [Bool.and_eq_true, blw_t, blw_t]
theorem blp_f {x : N2} : inP2 x = false ↔ ¬ bl2 x := by
  rw [← blp_t]
  cases inP2 x <;> simp
noncomputable def rtm2 (a : J2) (n L : Nat) : Nat → J2
  | 0 => (F2.one, F2.one, F2.zero)
  | k + 1 => if bitOf (wv n) (L - 1 - k) = 1 then rplus F2 (jdbl F2 (rtm2 a n L k)) a else jdbl F2 (rtm2 a n L k)
def tmF2 (a : J2) (n : Nat) (v : Value) (c : J2) : List Fact := [.slot 2 (.pt 2 0), .row 2 true (ej2 a), .slot 3 (.pt 3 0), .row 3 true [.q n], .slot 4 (.pt 4 0), .row 4 true (ej2 zp2), .slot 5 (.pt 5 0), .row 5 true (ej2 c), .slot 6 (.im v)]
def tmA2 (a : J2) (n : Nat) : List Fact := [.slot 2 (.pt 2 0), .row 2 true (ej2 a), .slot 3 (.pt 3 0), .row 3 true [.q n], .slot 4 (.pt 4 0), .row 4 true (ej2 zp2)]
def tmB2 (a : J2) (n : Nat) (c : J2) : List Fact := [.slot 2 (.pt 2 0), .row 2 true (ej2 a), .slot 3 (.pt 3 0), .row 3 true [.q n], .slot 4 (.pt 4 0), .row 4 true (ej2 zp2), .slot 5 (.pt 5 0), .row 5 true (ej2 c)]
noncomputable def tmC2 (num : Nat → Option Value) (_ : Nat) : Cfg := ⟨fun _ => T_rrNeg1, fun _ => true, num⟩
theorem ck2_bl {p : G2N} (h : (ck2 p.1 p.2.1 p.2.2).1 = 0) : p.2.2 = false → bl2 p.1 ∧ bl2 p.2.1 := fun hb => by
  rw [ck2_eq, hb, if_neg (by simp)] at h
  by_cases hb : bl2 p.1 ∧ bl2 p.2.1
  · exact hb
  · rw [if_pos hb] at h
    cases h
noncomputable def rresA2 (p q : G2N) : Pt Q2 × Int := if (ck2 p.1 p.2.1 p.2.2).1 ≠ 0 then ((some (F2.zero, F2.zero)), (ck2 p.1 p.2.1 p.2.2).1) else if (ck2 q.1 q.2.1 q.2.2).1 ≠ 0 then ((some (F2.zero, F2.zero)), (ck2 q.1 q.2.1 q.2.2).1) else (jto F2 iv2 (rplus F2 (wd2 p) (wd2 q)), 0)
noncomputable def rresM2 (p : G2N) (n : Nat) : Pt Q2 × Int := if (ck2 p.1 p.2.1 p.2.2).1 ≠ 0 then ((some (F2.zero, F2.zero)), (ck2 p.1 p.2.1 p.2.2).1) else (jto F2 iv2 (rtm2 (wd2 p) n (lenF n) (lenF n)), 0)
noncomputable def rresN2 (p : G2N) : Pt Q2 × Int := if (ck2 p.1 p.2.1 p.2.2).1 ≠ 0 then ((some (F2.zero, F2.zero)), (ck2 p.1 p.2.1 p.2.2).1) else (bif p.2.2 then none else some (m2 p.1, (F2.sub F2.zero (m2 p.2.1))), 0)
end Go.Proofs.Ytebaoemoeckgaaa.Ex
namespace Go.Proofs.Ytebaoemoeckgaaa.Ex
set_option linter.unusedVariables false
set_option linter.unusedSimpArgs false
namespace AG
variable {G : Type} (A : AG G)
theorem addz (a : G) : A.add a A.zero = a := by rw [A.comm, A.zadd]
theorem addn (a : G) : A.add a (A.neg a) = A.zero := by rw [A.comm, A.nadd]
theorem left_comm (a b c : G) : A.add a (A.add b c) = A.add b (A.add a c) := by rw [← A.assoc, A.comm a b, A.assoc]
theorem cancel {a b c : G} (h : A.add a b = A.add a c) : b = c := by
  have := congrArg (A.add (A.neg a)) h
  rwa [← A.assoc, ← A.assoc, A.nadd, A.zadd, A.zadd] at this
theorem negz : A.neg A.zero = A.zero := by apply A.cancel (a := A.zero); rw [A.addn, A.addz]
theorem neg_add (a b : G) : A.neg (A.add a b) = A.add (A.neg a) (A.neg b) := by
  apply A.cancel (a := A.add a b)
  rw [A.addn, A.assoc, A.left_comm b, A.addn, A.addz, A.addn]
theorem negneg (a : G) : A.neg (A.neg a) = a := by
  apply A.cancel (a := A.neg a)
  rw [A.addn, A.nadd]
theorem add4 (a b c d : G) : A.add (A.add a b) (A.add c d) = A.add (A.add a c) (A.add b d) := by
  rw [A.assoc, A.left_comm b, ← A.assoc]
def ns : Nat → G → G
  | 0, _ => A.zero
  | n + 1, g => A.add (ns n g) g
theorem ns_add (m : Nat) (g : G) : ∀ n, A.ns (m + n) g = A.add (A.ns m g) (A.ns n g)
  | 0 => (A.addz _).symm
  | n + 1 => by show A.add (A.ns (m + n) g) g = A.add _ (A.add _ _); rw [ns_add m g n, A.assoc]
theorem ns_zero : ∀ n, A.ns n A.zero = A.zero
  | 0 => rfl
  | n + 1 => by show A.add (A.ns n _) _ = _; rw [ns_zero n, A.zadd]
theorem ns_sum (g h : G) : ∀ n, A.ns n (A.add g h) = A.add (A.ns n g) (A.ns n h)
  | 0 => (A.zadd _).symm
  | n + 1 => by show A.add (A.ns n _) _ = A.add (A.add _ _) (A.add _ _); rw [ns_sum g h n, A.add4]
theorem ns_mul (m : Nat) (g : G) : ∀ n, A.ns (m * n) g = A.ns n (A.ns m g)
  | 0 => rfl
  | n + 1 => by rw [Nat.mul_add, Nat.mul_one, ns_add, ns_mul m g n]; rfl
theorem ns_neg (g : G) : ∀ n, A.ns n (A.neg g) = A.neg (A.ns n g)
  | 0 => A.negz.symm
  | n + 1 => by show A.add (A.ns n _) _ = A.neg (A.add _ _); rw [ns_neg g n, A.neg_add]
def zs : Int → G → G
  | .ofNat n, g => A.ns n g
  | .negSucc n, g => A.neg (A.ns (n + 1) g)
theorem zs_sub (m n : Nat) (g : G) : A.zs (Int.subNatNat m n) g = A.add (A.ns m g) (A.neg (A.ns n g)) := by
  unfold Int.subNatNat
  split
  · rename_i h
    have : m = n + (m - n) := by omega
    show A.ns (m - n) g = _
    conv => rhs; rw [this, ns_add]
    rw [A.comm (A.ns n g), A.assoc, A.addn, A.addz]
  · rename_i k h
    have : n = m + (k + 1) := by omega
    show A.neg (A.ns (k + 1) g) = _
    rw [this, ns_add A m g (k + 1), A.neg_add (A.ns m g), ← A.assoc, A.addn, A.zadd]
theorem zs_add (g : G) (a b : Int) : A.zs (a + b) g = A.add (A.zs a g) (A.zs b g) := by
  cases a with
  | ofNat m =>
    cases b with
    | ofNat n => exact A.ns_add m g n
    | negSucc n => exact A.zs_sub m (n + 1) g
  | negSucc m =>
    cases b with
    | ofNat n => show A.zs (Int.subNatNat n (m + 1)) g = _; rw [zs_sub, A.comm]; rfl
    | negSucc n =>
      show A.neg (A.ns (m + n + 1 + 1) g) = A.add (A.neg (A.ns (m + 1) g)) (A.neg (A.ns (n + 1) g))
      rw [← A.neg_add, ← ns_add, show m + 1 + (n + 1) = m + n + 1 + 1 by omega]
/-- a sum of multiples -/
def sm (P : Nat → G) (c : Nat → Int) : Nat → G
  | 0 => A.zero
  | n + 1 => A.add (sm P c n) (A.zs (c n) (P n))
theorem sm_add (P : Nat → G) (c d : Nat → Int) : ∀ n, A.sm P (fun i => c i + d i) n = A.add (A.sm P c n) (A.sm P d n)
  | 0 => (A.zadd _).symm
  | n + 1 => by show A.add (A.sm P _ n) (A.zs (c n + d n) (P n)) = A.add (A.add _ _) (A.add _ _); rw [sm_add P c d n, zs_add, A.add4]
theorem sm_congr {P : Nat → G} {c d : Nat → Int} : ∀ {n}, (∀ i, i < n → c i = d i) → A.sm P c n = A.sm P d n
  | 0, _ => rfl
  | n + 1, h => by show A.add _ (A.zs (c n) _) = A.add _ (A.zs (d n) _); rw [sm_congr fun i hi => h i (by omega), h n (by omega)]
theorem sm_zero (P : Nat → G) : ∀ n, A.sm P (fun _ => 0) n = A.zero
  | 0 => rfl
  | n + 1 => by show A.add (A.sm P _ n) A.zero = _; rw [sm_zero P n, A.zadd]
theorem sm_two (P : Nat → G) (c : Nat → Int) (n : Nat) : A.add (A.sm P c n) (A.sm P c n) = A.sm P (fun i => 2 * c i) n := by
  rw [← sm_add]
  exact A.sm_congr fun i _ => by omega
end AG
/-- Booth's digit out of a window of five bits -/
def booth (w : Nat) : Int := ((w + 1) / 2 : Nat) - (if 16 ≤ w then 16 else 0 : Int)
def bwin (x p : Nat) : Nat := (if p = 0 then x * 2 else x / 2 ^ (p * 4 - 1)) % 32
/-- the highest i places -/
def hor (x PL : Nat) : Nat → Int
  | 0 => 0
  | i + 1 => 16 * hor x PL i + booth (bwin x (PL - 1 - i))
theorem hor_is (x PL : Nat) (h : x < 2 ^ (4 * PL - 1)) (h0 : 0 < PL) : ∀ i, i < PL → hor x PL i = ((x / 2 ^ (4 * (PL - i)) + x / 2 ^ (4 * (PL - i) - 1) % 2 : Nat) : Int)
  | 0, _ => by
    have h1 : x / 2 ^ (4 * PL - 1) = 0 := Nat.div_eq_of_lt h
    have h2 : x / 2 ^ (4 * PL) = 0 := Nat.div_eq_of_lt (Nat.lt_of_lt_of_le h (Nat.pow_le_pow_right (by omega) (by omega)))
    show (0 : Int) = ((x / 2 ^ (4 * (PL - 0)) + x / 2 ^ (4 * (PL - 0) - 1) % 2 : Nat) : Int)
    rw [Nat.sub_zero, h1, h2]; rfl
  | i + 1, hi => by
    have ih := hor_is x PL h h0 i (by omega)
    show 16 * hor x PL i + booth (bwin x (PL - 1 - i)) = _
    rw [ih]
    have hp : PL - 1 - i ≠ 0 := by omega
    have e1 : 4 * (PL - i) = (4 * (PL - (i + 1)) - 1) + 5 := by omega
    have e2 : 4 * (PL - i) - 1 = (4 * (PL - (i + 1)) - 1) + 4 := by omega
    have e3 : 4 * (PL - (i + 1)) = (4 * (PL - (i + 1)) - 1) + 1 := by omega
    have e4 : (PL - 1 - i) * 4 - 1 = 4 * (PL - (i + 1)) - 1 := by omega
    unfold booth bwin
    rw [if_neg hp, e1, e4]
    rw [show (4 * (PL - (i + 1)) - 1) + 5 - 1 = (4 * (PL - (i + 1)) - 1) + 4 by omega]
    have e5 : x / 2 ^ (4 * (PL - (i + 1))) = x / 2 ^ (4 * (PL - (i + 1)) - 1) / 2 := by
      conv => lhs; rw [e3]
      rw [Nat.pow_add, ← Nat.div_div_eq_div_mul]
    rw [e5, Nat.pow_add, Nat.pow_add, ← Nat.div_div_eq_div_mul, ← Nat.div_div_eq_div_mul]
    generalize x / 2 ^ (4 * (PL - (i + 1)) - 1) = a
    show 16 * ((a / 32 + a / 16 % 2 : Nat) : Int) + (((a % 32 + 1) / 2 : Nat) - (if 16 ≤ a % 32 then 16 else 0 : Int)) = ((a / 2 + a % 2 : Nat) : Int)
    split <;> omega
theorem hor_end (x PL : Nat) (h : x < 2 ^ (4 * PL - 1)) (h0 : 0 < PL) : hor x PL PL = x := by
  obtain ⟨k, rfl⟩ : ∃ k, PL = k + 1 := ⟨PL - 1, by omega⟩
  show 16 * hor x (k + 1) k + booth (bwin x (k + 1 - 1 - k)) = _
  rw [hor_is x (k + 1) h h0 k (by omega), show k + 1 - 1 - k = 0 by omega, show k + 1 - k = 1 by omega]
  unfold booth bwin
  rw [if_pos rfl]
  show 16 * ((x / 16 + x / 8 % 2 : Nat) : Int) + (((x * 2 % 32 + 1) / 2 : Nat) - (if 16 ≤ x * 2 % 32 then 16 else 0 : Int)) = (x : Int)
  split <;> omega
end Go.Proofs.Ytebaoemoeckgaaa.Ex
