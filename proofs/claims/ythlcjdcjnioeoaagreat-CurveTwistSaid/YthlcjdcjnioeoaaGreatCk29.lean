/-
  The reference's curve: checks, multiples, sums, negatives of points as they come. Conditions: none.
-/
import Derived.Test.YthlcjdcjnioeoaaGreatCk28
namespace Go.Proofs.YthlcjdcjnioeoaaGreat.Ex
set_option linter.unusedVariables false
set_option linter.unusedSimpArgs false
open Go.RowKit
/-- Below, where it is known what it answers -/
def gBelc (c : Bool) : Ent
  | [.v (.im (.int .i64 (.ofNat 1))), .v (.fl l)] => match rq1 l with
    | some n => some ([blw n = c], .one (.im (.bool c)))
    | none => none
  | _ => none
theorem belc_ok (c : Bool) : ∀ cs pre r, gBelc c cs = some (pre, r) → allP pre → ∀ (args : List Value) (w : World), CAs w cs args → Good Tryz.prog 62 r args w := by
  intro cs pre r hg hp args w ha
  unfold gBelc at hg
  split at hg
  · rename_i l
    split at hg
    · rename_i n hn
      cases hg
      have h := bel_ok [.v (.im (.int .i64 (.ofNat 1))), .v (.fl l)] [] (.one (.im (.bool (blw n)))) (by show (match rq1 l with | some n => some ([], RV.one (.im (.bool (blw n)))) | none => none) = _; rw [hn]) trivial args w ha
      rw [hp.1] at h
      exact h
    · cases hg
  · cases hg
theorem blw_t {n : Nat} : blw n = true ↔ wv n < FP.M := by unfold blw isB; exact decide_eq_true_iff
theorem blw_f {n : Nat} : blw n = false ↔ ¬ wv n < FP.M := by unfold blw isB; exact decide_eq_false_iff_not
def inP2 (x : N2) : Bool := blw x.1 && blw x.2

noncomputable def T_r1Len : Tab := (T_rpl2).add 112 gLen
theorem ok_r1Len : TabOk Tryz.prog T_r1Len := (ok_rpl2).add Tryz.func112 (by kernel_rfl) (by kernel_rfl) rlen_ok
noncomputable def T_r1Bit : Tab := (T_r1Len).add 113 gBit
theorem ok_r1Bit : TabOk Tryz.prog T_r1Bit := (ok_r1Len).add Tryz.func113 (by kernel_rfl) (by kernel_rfl) rbit_ok
set_option maxRecDepth 100000 in
theorem run_bl2_tt (x : N2) : funB Tryz.prog (qG Tryz.prog) (fun _ => ⟨fun s => (T_r1Bit).add 62 (gBelc (bif Nat.beq s 5 then true else true)), fun s => true, fun _ => none⟩) Tryz.f83 60 [.v (.fl (q2 x))] = some ([blw x.1 = true, blw x.2 = true], .one (.im (.bool true))) := by kernel_rfl
set_option maxRecDepth 100000 in
theorem run_bl2_tf (x : N2) : funB Tryz.prog (qG Tryz.prog) (fun _ => ⟨fun s => (T_r1Bit).add 62 (gBelc (bif Nat.beq s 5 then true else false)), fun s => true, fun _ => none⟩) Tryz.f83 60 [.v (.fl (q2 x))] = some ([blw x.1 = true, blw x.2 = false], .one (.im (.bool false))) := by kernel_rfl
set_option maxRecDepth 100000 in
theorem run_bl2_f (x : N2) : funB Tryz.prog (qG Tryz.prog) (fun _ => ⟨fun s => (T_r1Bit).add 62 (gBelc (bif Nat.beq s 5 then false else true)), fun s => true, fun _ => none⟩) Tryz.f83 60 [.v (.fl (q2 x))] = some ([blw x.1 = false], .one (.im (.bool false))) := by kernel_rfl
theorem bl2_ok (c : Bool) (x : N2) (hp : inP2 x = c) (args : List Value) (w : World) (ha : CAs w [.v (.fl (q2 x))] args) : Good Tryz.prog 83 (.one (.im (.bool c))) args w := by
  unfold inP2 at hp
  cases h1 : blw x.1 with
  | false =>
    rw [h1] at hp
    subst hp
    exact funB_sound hmix (fun _ s => (ok_r1Bit).add Tryz.func62 (by kernel_rfl) (by kernel_rfl) (belc_ok _)) (qG_ok Tryz.prog) Tryz.func83 (run_bl2_f x) ⟨h1, trivial⟩ ha
  | true =>
    cases h2 : blw x.2 with
    | false =>
      rw [h1, h2] at hp
      subst hp
      exact funB_sound hmix (fun _ s => (ok_r1Bit).add Tryz.func62 (by kernel_rfl) (by kernel_rfl) (belc_ok _)) (qG_ok Tryz.prog) Tryz.func83 (run_bl2_tf x) ⟨h1, h2, trivial⟩ ha
    | true =>
      rw [h1, h2] at hp
      subst hp
      exact funB_sound hmix (fun _ s => (ok_r1Bit).add Tryz.func62 (by kernel_rfl) (by kernel_rfl) (belc_ok _)) (qG_ok Tryz.prog) Tryz.func83 (run_bl2_tt x) ⟨h1, h2, trivial⟩ ha
noncomputable def T_bl2 : Tab := (T_r1Bit).add 83 (g1 rq2 fun x => ([inP2 x = true], .one (.im (.bool true))))
theorem ok_bl2 : TabOk Tryz.prog T_bl2 := (ok_r1Bit).add Tryz.func83 (by kernel_rfl) (by kernel_rfl) (g1_ok rq2_ok fun x hp args w ha => bl2_ok true x hp.1 args w ha)
set_option maxRecDepth 100000 in
theorem run_rB2  : funB Tryz.prog (qG Tryz.prog) (fun _ => ⟨fun s => T_bl2, fun s => true, fun _ => none⟩) Tryz.f85 60 [] = some ([], .one (.fl (e2 b2E))) := by kernel_rfl
noncomputable def T_rB2 : Tab := (T_bl2).add 85 (g0 (.one (.fl (e2 b2E))))
theorem ok_rB2 : TabOk Tryz.prog T_rB2 := (ok_bl2).add Tryz.func85 (by kernel_rfl) (by kernel_rfl) (g0_ok fun w => funB_sound hmix (fun _ s => ok_bl2) (qG_ok Tryz.prog) Tryz.func85 run_rB2 trivial (args := []) trivial)
/-- the counter behind k rounds of L -/
def vI (L k : Nat) : Value := if k < L then iI (L - 1 - k) else .int .i64 (-1)
theorem vI_0 {L : Nat} (h : L ≤ 256) : intOp .sub .i64 (Int.ofNat L) 1 = some (vI L 0) := by
  unfold vI
  cases L with
  | zero => rfl
  | succ n =>
    rw [if_pos (by omega)]
    exact o_sub (k := 1) (i := n + 1) (by omega) (by omega)
theorem vI_s {L k : Nat} (h : L ≤ 256) (hk : k < L) : intOp .sub .i64 (Int.ofNat (L - 1 - k)) 1 = some (vI L (k + 1)) := by
  unfold vI
  by_cases e : k + 1 < L
  · rw [if_pos e, ← Nat.sub_sub (L - 1) k 1]
    exact o_sub (k := 1) (by omega) (by omega)
  · rw [if_neg e, show L - 1 - k = 0 by omega]
    rfl
theorem o_geq0 (n : Nat) : intOp .geq .i64 (Int.ofNat n) 0 = some (.bool true) := by
  show some (Value.bool (decide ((0 : Int) ≤ Int.ofNat n))) = _
  rw [decide_eq_true (show (0 : Int) ≤ Int.ofNat n from Int.natCast_nonneg n)]
theorem eql_t {c : Int} (h : c = 0) : intOp .eql .i64 c 0 = some (.bool true) := by rw [h]; rfl
theorem eql_f {c : Int} (h : c ≠ 0) : intOp .eql .i64 c 0 = some (.bool false) := by
  show some (Value.bool (c == 0)) = _
  rw [beq_eq_false_iff_ne.2 h]

set_option maxRecDepth 100000 in
theorem run_ron1_a (x y : Nat) : funB Tryz.prog (qG Tryz.prog) (fun _ => ⟨fun s => T_rB2, fun s => false, fun _ => none⟩) Tryz.f18 60 [.v (.fl (gq1 (x, y, true)))] = some ([flat (q1 x) ≠ flat (e1 F1.zero)], .one (.im (.int .i64 44))) := by kernel_rfl
set_option maxRecDepth 100000 in
theorem run_ron1_b (x y : Nat) : funB Tryz.prog (qG Tryz.prog) (fun _ => ⟨fun s => T_rB2, fun s => Nat.beq s 7, fun _ => none⟩) Tryz.f18 60 [.v (.fl (gq1 (x, y, true)))] = some ([flat (q1 x) = flat (e1 F1.zero), flat (q1 y) ≠ flat (e1 F1.zero)], .one (.im (.int .i64 44))) := by kernel_rfl
set_option maxRecDepth 100000 in
theorem run_ron1_c (x y : Nat) : funB Tryz.prog (qG Tryz.prog) (fun _ => ⟨fun s => T_rB2, fun s => true, fun _ => none⟩) Tryz.f18 60 [.v (.fl (gq1 (x, y, true)))] = some ([flat (q1 x) = flat (e1 F1.zero), flat (q1 y) = flat (e1 F1.zero)], .one (.im (.int .i64 0))) := by kernel_rfl
set_option maxRecDepth 100000 in
theorem run_ron1_du (x y : Nat) : funB Tryz.prog (qG Tryz.prog) (fun _ => ⟨fun s => (T_rB2).add 62 (gBelc (bif Nat.beq s 27 then false else true)), fun s => false, fun _ => none⟩) Tryz.f18 60 [.v (.fl (gq1 (x, y, false)))] = some ([flat (q1 x) ≠ flat (e1 F1.zero), blw x = false], .one (.im (.int .i64 21))) := by kernel_rfl
set_option maxRecDepth 100000 in
theorem run_ron1_eu (x y : Nat) : funB Tryz.prog (qG Tryz.prog) (fun _ => ⟨fun s => (T_rB2).add 62 (gBelc (bif Nat.beq s 27 then true else false)), fun s => false, fun _ => none⟩) Tryz.f18 60 [.v (.fl (gq1 (x, y, false)))] = some ([flat (q1 x) ≠ flat (e1 F1.zero), blw x = true, blw y = false], .one (.im (.int .i64 21))) := by kernel_rfl
set_option maxRecDepth 100000 in
theorem run_ron1_fu (x y : Nat) : funB Tryz.prog (qG Tryz.prog) (fun _ => ⟨fun s => (T_rB2).add 62 (gBelc (bif Nat.beq s 27 then true else true)), fun s => false, fun _ => none⟩) Tryz.f18 80 [.v (.fl (gq1 (x, y, false)))] = some ([flat (q1 x) ≠ flat (e1 F1.zero), blw x = true, blw y = true, flat (e1 (F1.mul (m1 y) (m1 y))) ≠ flat (e1 (F1.add (F1.mul (m1 x) (F1.mul (m1 x) (m1 x))) (fm 3)))], .one (.im (.int .i64 41))) := by kernel_rfl
set_option maxRecDepth 100000 in
theorem run_ron1_gu (x y : Nat) : funB Tryz.prog (qG Tryz.prog) (fun _ => ⟨fun s => (T_rB2).add 62 (gBelc (bif Nat.beq s 27 then true else true)), fun s => false || Nat.beq s 51, fun _ => none⟩) Tryz.f18 80 [.v (.fl (gq1 (x, y, false)))] = some ([flat (q1 x) ≠ flat (e1 F1.zero), blw x = true, blw y = true, flat (e1 (F1.mul (m1 y) (m1 y))) = flat (e1 (F1.add (F1.mul (m1 x) (F1.mul (m1 x) (m1 x))) (fm 3)))], .one (.im (.int .i64 0))) := by kernel_rfl
set_option maxRecDepth 100000 in
theorem run_ron1_dv (x y : Nat) : funB Tryz.prog (qG Tryz.prog) (fun _ => ⟨fun s => (T_rB2).add 62 (gBelc (bif Nat.beq s 27 then false else true)), fun s => Nat.beq s 7, fun _ => none⟩) Tryz.f18 60 [.v (.fl (gq1 (x, y, false)))] = some ([flat (q1 x) = flat (e1 F1.zero), flat (q1 y) ≠ flat (e1 F1.zero), blw x = false], .one (.im (.int .i64 21))) := by kernel_rfl
set_option maxRecDepth 100000 in
theorem run_ron1_ev (x y : Nat) : funB Tryz.prog (qG Tryz.prog) (fun _ => ⟨fun s => (T_rB2).add 62 (gBelc (bif Nat.beq s 27 then true else false)), fun s => Nat.beq s 7, fun _ => none⟩) Tryz.f18 60 [.v (.fl (gq1 (x, y, false)))] = some ([flat (q1 x) = flat (e1 F1.zero), flat (q1 y) ≠ flat (e1 F1.zero), blw x = true, blw y = false], .one (.im (.int .i64 21))) := by kernel_rfl
set_option maxRecDepth 100000 in
theorem run_ron1_fv (x y : Nat) : funB Tryz.prog (qG Tryz.prog) (fun _ => ⟨fun s => (T_rB2).add 62 (gBelc (bif Nat.beq s 27 then true else true)), fun s => Nat.beq s 7, fun _ => none⟩) Tryz.f18 80 [.v (.fl (gq1 (x, y, false)))] = some ([flat (q1 x) = flat (e1 F1.zero), flat (q1 y) ≠ flat (e1 F1.zero), blw x = true, blw y = true, flat (e1 (F1.mul (m1 y) (m1 y))) ≠ flat (e1 (F1.add (F1.mul (m1 x) (F1.mul (m1 x) (m1 x))) (fm 3)))], .one (.im (.int .i64 41))) := by kernel_rfl
set_option maxRecDepth 100000 in
theorem run_ron1_gv (x y : Nat) : funB Tryz.prog (qG Tryz.prog) (fun _ => ⟨fun s => (T_rB2).add 62 (gBelc (bif Nat.beq s 27 then true else true)), fun s => Nat.beq s 7 || Nat.beq s 51, fun _ => none⟩) Tryz.f18 80 [.v (.fl (gq1 (x, y, false)))] = some ([flat (q1 x) = flat (e1 F1.zero), flat (q1 y) ≠ flat (e1 F1.zero), blw x = true, blw y = true, flat (e1 (F1.mul (m1 y) (m1 y))) = flat (e1 (F1.add (F1.mul (m1 x) (F1.mul (m1 x) (m1 x))) (fm 3)))], .one (.im (.int .i64 0))) := by kernel_rfl
set_option maxRecDepth 100000 in
theorem run_ron1_dw (x y : Nat) : funB Tryz.prog (qG Tryz.prog) (fun _ => ⟨fun s => (T_rB2).add 62 (gBelc (bif Nat.beq s 27 then false else true)), fun s => Nat.beq s 7 || Nat.beq s 12, fun _ => none⟩) Tryz.f18 60 [.v (.fl (gq1 (x, y, false)))] = some ([flat (q1 x) = flat (e1 F1.zero), flat (q1 y) = flat (e1 F1.zero), blw x = false], .one (.im (.int .i64 21))) := by kernel_rfl
set_option maxRecDepth 100000 in
theorem run_ron1_ew (x y : Nat) : funB Tryz.prog (qG Tryz.prog) (fun _ => ⟨fun s => (T_rB2).add 62 (gBelc (bif Nat.beq s 27 then true else false)), fun s => Nat.beq s 7 || Nat.beq s 12, fun _ => none⟩) Tryz.f18 60 [.v (.fl (gq1 (x, y, false)))] = some ([flat (q1 x) = flat (e1 F1.zero), flat (q1 y) = flat (e1 F1.zero), blw x = true, blw y = false], .one (.im (.int .i64 21))) := by kernel_rfl
set_option maxRecDepth 100000 in
theorem run_ron1_fw (x y : Nat) : funB Tryz.prog (qG Tryz.prog) (fun _ => ⟨fun s => (T_rB2).add 62 (gBelc (bif Nat.beq s 27 then true else true)), fun s => Nat.beq s 7 || Nat.beq s 12, fun _ => none⟩) Tryz.f18 80 [.v (.fl (gq1 (x, y, false)))] = some ([flat (q1 x) = flat (e1 F1.zero), flat (q1 y) = flat (e1 F1.zero), blw x = true, blw y = true, flat (e1 (F1.mul (m1 y) (m1 y))) ≠ flat (e1 (F1.add (F1.mul (m1 x) (F1.mul (m1 x) (m1 x))) (fm 3)))], .one (.im (.int .i64 41))) := by kernel_rfl
set_option maxRecDepth 100000 in
theorem run_ron1_gw (x y : Nat) : funB Tryz.prog (qG Tryz.prog) (fun _ => ⟨fun s => (T_rB2).add 62 (gBelc (bif Nat.beq s 27 then true else true)), fun s => Nat.beq s 7 || Nat.beq s 12 || Nat.beq s 51, fun _ => none⟩) Tryz.f18 80 [.v (.fl (gq1 (x, y, false)))] = some ([flat (q1 x) = flat (e1 F1.zero), flat (q1 y) = flat (e1 F1.zero), blw x = true, blw y = true, flat (e1 (F1.mul (m1 y) (m1 y))) = flat (e1 (F1.add (F1.mul (m1 x) (F1.mul (m1 x) (m1 x))) (fm 3)))], .one (.im (.int .i64 0))) := by kernel_rfl
theorem ron1_ok (p : G1N) (args : List Value) (w : World) (ha : CAs w [.v (.fl (gq1 p))] args) : Good Tryz.prog 18 (.one (.im (.int .i64 (ck1 p.1 p.2.1 p.2.2).1))) args w := by
  obtain ⟨x, y, b⟩ := p
  show Good _ _ (.one (.im (.int .i64 (ck1 x y b).1))) _ _
  rw [ck1_eq]
  cases b with
  | true =>
    rw [if_pos rfl]
    by_cases hx : zr1 x
    · by_cases hy : zr1 y
      · rw [if_pos ⟨hx, hy⟩]
        exact funB_sound hmix (fun _ s => ok_rB2) (qG_ok Tryz.prog) Tryz.func18 (run_ron1_c x y) ⟨q_zero.2 hx, q_zero.2 hy, trivial⟩ ha
      · rw [if_neg (fun h => hy h.2)]
        exact funB_sound hmix (fun _ s => ok_rB2) (qG_ok Tryz.prog) Tryz.func18 (run_ron1_b x y) ⟨q_zero.2 hx, fun h => hy (q_zero.1 h), trivial⟩ ha
    · rw [if_neg (fun h => hx h.1)]
      exact funB_sound hmix (fun _ s => ok_rB2) (qG_ok Tryz.prog) Tryz.func18 (run_ron1_a x y) ⟨fun h => hx (q_zero.1 h), trivial⟩ ha
  | false =>
    rw [if_neg (by simp)]
    by_cases hx : bl1 x
    · by_cases hy : bl1 y
      · rw [if_neg (fun h => h ⟨hx, hy⟩)]
        by_cases h : F1.mul (m1 y) (m1 y) = F1.add (F1.mul (F1.mul (m1 x) (m1 x)) (m1 x)) (fm 3)
        · rw [if_pos h]
          have h' : F1.mul (m1 y) (m1 y) = F1.add (F1.mul (m1 x) (F1.mul (m1 x) (m1 x))) (fm 3) := by rw [h, F1.mul_comm (m1 x) (F1.mul (m1 x) (m1 x))]
          by_cases hx0 : zr1 x
          · by_cases hy0 : zr1 y
            · exact funB_sound hmix (fun _ s => (ok_rB2).add Tryz.func62 (by kernel_rfl) (by kernel_rfl) (belc_ok _)) (qG_ok Tryz.prog) Tryz.func18 (run_ron1_gw x y) ⟨q_zero.2 hx0, q_zero.2 hy0, (blw_t.2 hx), (blw_t.2 hy), by rw [h'], trivial⟩ ha
            · exact funB_sound hmix (fun _ s => (ok_rB2).add Tryz.func62 (by kernel_rfl) (by kernel_rfl) (belc_ok _)) (qG_ok Tryz.prog) Tryz.func18 (run_ron1_gv x y) ⟨q_zero.2 hx0, fun h => hy0 (q_zero.1 h), (blw_t.2 hx), (blw_t.2 hy), by rw [h'], trivial⟩ ha
          · exact funB_sound hmix (fun _ s => (ok_rB2).add Tryz.func62 (by kernel_rfl) (by kernel_rfl) (belc_ok _)) (qG_ok Tryz.prog) Tryz.func18 (run_ron1_gu x y) ⟨fun h => hx0 (q_zero.1 h), (blw_t.2 hx), (blw_t.2 hy), by rw [h'], trivial⟩ ha
        · rw [if_neg h]
          have h' : F1.mul (m1 y) (m1 y) ≠ F1.add (F1.mul (m1 x) (F1.mul (m1 x) (m1 x))) (fm 3) := by rw [F1.mul_comm (m1 x) (F1.mul (m1 x) (m1 x))]; exact h
          by_cases hx0 : zr1 x
          · by_cases hy0 : zr1 y
            · exact funB_sound hmix (fun _ s => (ok_rB2).add Tryz.func62 (by kernel_rfl) (by kernel_rfl) (belc_ok _)) (qG_ok Tryz.prog) Tryz.func18 (run_ron1_fw x y) ⟨q_zero.2 hx0, q_zero.2 hy0, (blw_t.2 hx), (blw_t.2 hy), flat_ne h', trivial⟩ ha
            · exact funB_sound hmix (fun _ s => (ok_rB2).add Tryz.func62 (by kernel_rfl) (by kernel_rfl) (belc_ok _)) (qG_ok Tryz.prog) Tryz.func18 (run_ron1_fv x y) ⟨q_zero.2 hx0, fun h => hy0 (q_zero.1 h), (blw_t.2 hx), (blw_t.2 hy), flat_ne h', trivial⟩ ha
          · exact funB_sound hmix (fun _ s => (ok_rB2).add Tryz.func62 (by kernel_rfl) (by kernel_rfl) (belc_ok _)) (qG_ok Tryz.prog) Tryz.func18 (run_ron1_fu x y) ⟨fun h => hx0 (q_zero.1 h), (blw_t.2 hx), (blw_t.2 hy), flat_ne h', trivial⟩ ha
      · rw [if_pos (fun h => hy h.2)]
        by_cases hx0 : zr1 x
        · by_cases hy0 : zr1 y
          · exact funB_sound hmix (fun _ s => (ok_rB2).add Tryz.func62 (by kernel_rfl) (by kernel_rfl) (belc_ok _)) (qG_ok Tryz.prog) Tryz.func18 (run_ron1_ew x y) ⟨q_zero.2 hx0, q_zero.2 hy0, (blw_t.2 hx), (blw_f.2 hy), trivial⟩ ha
          · exact funB_sound hmix (fun _ s => (ok_rB2).add Tryz.func62 (by kernel_rfl) (by kernel_rfl) (belc_ok _)) (qG_ok Tryz.prog) Tryz.func18 (run_ron1_ev x y) ⟨q_zero.2 hx0, fun h => hy0 (q_zero.1 h), (blw_t.2 hx), (blw_f.2 hy), trivial⟩ ha
        · exact funB_sound hmix (fun _ s => (ok_rB2).add Tryz.func62 (by kernel_rfl) (by kernel_rfl) (belc_ok _)) (qG_ok Tryz.prog) Tryz.func18 (run_ron1_eu x y) ⟨fun h => hx0 (q_zero.1 h), (blw_t.2 hx), (blw_f.2 hy), trivial⟩ ha
    · rw [if_pos (fun h => hx h.1)]
      by_cases hx0 : zr1 x
      · by_cases hy0 : zr1 y
        · exact funB_sound hmix (fun _ s => (ok_rB2).add Tryz.func62 (by kernel_rfl) (by kernel_rfl) (belc_ok _)) (qG_ok Tryz.prog) Tryz.func18 (run_ron1_dw x y) ⟨q_zero.2 hx0, q_zero.2 hy0, (blw_f.2 hx), trivial⟩ ha
        · exact funB_sound hmix (fun _ s => (ok_rB2).add Tryz.func62 (by kernel_rfl) (by kernel_rfl) (belc_ok _)) (qG_ok Tryz.prog) Tryz.func18 (run_ron1_dv x y) ⟨q_zero.2 hx0, fun h => hy0 (q_zero.1 h), (blw_f.2 hx), trivial⟩ ha
      · exact funB_sound hmix (fun _ s => (ok_rB2).add Tryz.func62 (by kernel_rfl) (by kernel_rfl) (belc_ok _)) (qG_ok Tryz.prog) Tryz.func18 (run_ron1_du x y) ⟨fun h => hx0 (q_zero.1 h), (blw_f.2 hx), trivial⟩ ha
noncomputable def T_ron1 : Tab := (T_rB2).add 18 (g1 rg1 fun p => ([], .one (.im (.int .i64 (ck1 p.1 p.2.1 p.2.2).1))))
theorem ok_ron1 : TabOk Tryz.prog T_ron1 := (ok_rB2).add Tryz.func18 (by kernel_rfl) (by kernel_rfl) (g1_ok rg1_ok fun p hp args w ha => ron1_ok p args w ha)
noncomputable def rtm1 (a : J1) (n L : Nat) : Nat → J1
  | 0 => (F1.one, F1.one, F1.zero)
  | k + 1 => if bitOf (wv n) (L - 1 - k) = 1 then rplus F1 (jdbl F1 (rtm1 a n L k)) a else jdbl F1 (rtm1 a n L k)
def tmF1 (a : J1) (n : Nat) (v : Value) (c : J1) : List Fact := [.slot 2 (.pt 2 0), .row 2 true (ej1 a), .slot 3 (.pt 3 0), .row 3 true [.q n], .slot 4 (.pt 4 0), .row 4 true (ej1 zp1), .slot 5 (.pt 5 0), .row 5 true (ej1 c), .slot 6 (.im v)]
def tmA1 (a : J1) (n : Nat) : List Fact := [.slot 2 (.pt 2 0), .row 2 true (ej1 a), .slot 3 (.pt 3 0), .row 3 true [.q n], .slot 4 (.pt 4 0), .row 4 true (ej1 zp1)]
def tmB1 (a : J1) (n : Nat) (c : J1) : List Fact := [.slot 2 (.pt 2 0), .row 2 true (ej1 a), .slot 3 (.pt 3 0), .row 3 true [.q n], .slot 4 (.pt 4 0), .row 4 true (ej1 zp1), .slot 5 (.pt 5 0), .row 5 true (ej1 c)]
noncomputable def tmC1 (num : Nat → Option Value) (_ : Nat) : Cfg := ⟨fun _ => T_ron1, fun _ => true, num⟩
noncomputable def tmCode1 : Code := (Tryz.f58.body).getD .skip
noncomputable def tmLoop1 : Code := cIn (cIn (cB (cA (cB (cB tmCode1)))))
theorem tm1_code : tmCode1 = .seq (cA tmCode1) (.seq (cA (cB tmCode1)) (.seq (.seq (cA (cA (cB (cB tmCode1)))) (.block 0 (.loop tmLoop1))) (cB (cB (cB tmCode1))))) := by kernel_rfl
set_option maxRecDepth 100000 in
theorem tm1_s0 (a : J1) (n : Nat) : runK Tryz.prog (qG Tryz.prog) Tryz.f58.ntmps (tmC1 fun _ => none) 60 (cA tmCode1) (argF 0 [.v (.fl (ej1 a)), .v (.fl [.q n])]) (tmA1 a n) = some ([], .nrm, (tmA1 a n)) := by kernel_rfl
set_option maxRecDepth 100000 in
theorem tm1_s1 (a : J1) (n : Nat) : runK Tryz.prog (qG Tryz.prog) Tryz.f58.ntmps (tmC1 fun _ => none) 60 (cA (cB tmCode1)) (tmA1 a n) (tmB1 a n (F1.one, F1.one, F1.zero)) = some ([], .nrm, (tmB1 a n (F1.one, F1.one, F1.zero))) := by kernel_rfl
set_option maxRecDepth 100000 in
theorem tm1_s2 (a c : J1) (n : Nat) (v : Value) : runK Tryz.prog (qG Tryz.prog) Tryz.f58.ntmps (tmC1 (assoc [(12, v)])) 60 (cA (cA (cB (cB tmCode1)))) (tmB1 a n c) (tmF1 a n v c) = some ([intOp .sub .i64 (Int.ofNat (lenF n)) 1 = some v], .nrm, (tmF1 a n v c)) := by kernel_rfl
set_option maxRecDepth 100000 in
theorem tm1_rd1 (a c : J1) (n j : Nat) (v : Value) : runK Tryz.prog (qG Tryz.prog) Tryz.f58.ntmps (tmC1 (assoc [(14, .bool true), (22, .bool true), (16, v)])) 60 tmLoop1 (tmF1 a n (iI j) c) (tmF1 a n v (rplus F1 (jdbl F1 c) a)) = some ([intOp .geq .i64 (Int.ofNat j) 0 = some (.bool true), j < 256, intOp .eql .i64 (Int.ofNat (bitOf (wv n) j)) 1 = some (.bool true), intOp .sub .i64 (Int.ofNat j) 1 = some v], .nrm, (tmF1 a n v (rplus F1 (jdbl F1 c) a))) := by kernel_rfl
set_option maxRecDepth 100000 in
theorem tm1_rd0 (a c : J1) (n j : Nat) (v : Value) : runK Tryz.prog (qG Tryz.prog) Tryz.f58.ntmps (tmC1 (assoc [(14, .bool true), (22, .bool false), (16, v)])) 60 tmLoop1 (tmF1 a n (iI j) c) (tmF1 a n v (jdbl F1 c)) = some ([intOp .geq .i64 (Int.ofNat j) 0 = some (.bool true), j < 256, intOp .eql .i64 (Int.ofNat (bitOf (wv n) j)) 1 = some (.bool false), intOp .sub .i64 (Int.ofNat j) 1 = some v], .nrm, (tmF1 a n v (jdbl F1 c))) := by kernel_rfl
set_option maxRecDepth 100000 in
theorem tm1_end (a c : J1) (n : Nat) : runK Tryz.prog (qG Tryz.prog) Tryz.f58.ntmps (tmC1 (fun _ => none)) 60 tmLoop1 (tmF1 a n (.int .i64 (-1)) c) (tmF1 a n (.int .i64 (-1)) c) = some ([], (.ex 0), (tmF1 a n (.int .i64 (-1)) c)) := by kernel_rfl
set_option maxRecDepth 100000 in
theorem tm1_last (a c : J1) (n : Nat) (v : Value) : runK Tryz.prog (qG Tryz.prog) Tryz.f58.ntmps (tmC1 fun _ => none) 60 (cB (cB (cB tmCode1))) (tmF1 a n v c) [.slot 4 (.pt 4 0), .row 4 true (ej1 c)] = some ([], .rt, [.slot 4 (.pt 4 0), .row 4 true (ej1 c)]) := by kernel_rfl
theorem tm1_calls (a : J1) (n : Nat) (args : List Value) (w0 : World) (ha : CAs w0 [.v (.fl (ej1 a)), .v (.fl [.q n])] args) : Good Tryz.prog 58 (.one (.fl (ej1 (rtm1 a n (lenF n) (lenF n))))) args w0 := by
  have hG : EqOkW Tryz.prog (qG Tryz.prog) w0.heap.size w0 := (qG_ok _).w _ _
  have hT : ∀ n d : Nat, TabOkW Tryz.prog (T_ron1) w0.heap.size w0 := fun _ _ => (ok_ron1).w _ _
  have hL := lenF_le n
  refine fn_enter Tryz.func58 (c := tmCode1) rfl ha (Nat.le_of_ble_eq_true (by kernel_rfl)) fun b w' hA => ?_
  rw [tm1_code]
  refine wp_seq (runKW_sound hmix hT hG (tm1_s0 a n) trivial hA fun b w' hA => ?_)
  refine wp_seq (runKW_sound hmix hT hG (tm1_s1 a n) trivial hA fun b w' hA => ?_)
  refine wp_seq (wp_seq (runKW_sound hmix hT hG (tm1_s2 a _ n (vI (lenF n) 0)) ⟨vI_0 hL, trivial⟩ hA fun b w' hA => ?_))
  refine wp_block ?_
  refine loop_r hmix (fun k => tmF1 a n (vI (lenF n) k) (rtm1 a n (lenF n) k)) (lenF n) (fun k hk => ?_) (.ex 0) (by simp) (tmF1 a n (.int .i64 (-1)) (rtm1 a n (lenF n) (lenF n))) ?_ hA fun b w' hA => ?_
  · have e0 : vI (lenF n) k = iI (lenF n - 1 - k) := if_pos hk
    show Ok _ _ _ _ _ (tmF1 a n (vI (lenF n) k) (rtm1 a n (lenF n) k)) _ (tmF1 a n (vI (lenF n) (k + 1)) (rtm1 a n (lenF n) (k + 1)))
    rw [e0]
    by_cases h : bitOf (wv n) (lenF n - 1 - k) = 1
    · rw [show rtm1 a n (lenF n) (k + 1) = rplus F1 (jdbl F1 (rtm1 a n (lenF n) k)) a from if_pos h]
      exact ⟨_, _, _, _, hG, hT, tm1_rd1 a (rtm1 a n (lenF n) k) n (lenF n - 1 - k) (vI (lenF n) (k + 1)), o_geq0 _, by omega, by rw [o_eql1, decide_eq_true h], vI_s hL hk, trivial⟩
    · rw [show rtm1 a n (lenF n) (k + 1) = jdbl F1 (rtm1 a n (lenF n) k) from if_neg h]
      exact ⟨_, _, _, _, hG, hT, tm1_rd0 a (rtm1 a n (lenF n) k) n (lenF n - 1 - k) (vI (lenF n) (k + 1)), o_geq0 _, by omega, by rw [o_eql1, decide_eq_false h], vI_s hL hk, trivial⟩
  · show Ok _ _ _ _ _ (tmF1 a n (vI (lenF n) (lenF n)) _) _ _
    rw [show vI (lenF n) (lenF n) = .int .i64 (-1) from if_neg (Nat.lt_irrefl _)]
    exact ⟨_, _, _, _, hG, hT, tm1_end a _ n, trivial⟩
  · show (cB (cB (cB tmCode1))).wp _ _ _ _
    exact runKW_sound hmix hT hG (tm1_last a _ n _) trivial hA fun b w' hA => fn_leave (l := [.fl (ej1 (rtm1 a n (lenF n) (lenF n)))]) (r := .one (.fl (ej1 (rtm1 a n (lenF n) (lenF n))))) (by kernel_rfl) (by kernel_rfl) hA
noncomputable def T_rtm1 : Tab := (T_ron1).add 58 (g2 rj1 rq1 fun a n => ([], .one (.fl (ej1 (rtm1 a n (lenF n) (lenF n))))))
theorem ok_rtm1 : TabOk Tryz.prog T_rtm1 := (ok_ron1).add Tryz.func58 (by kernel_rfl) (by kernel_rfl) (g2_ok rj1_ok rq1_ok fun a n hp args w ha => tm1_calls a n args w ha)
theorem ck1_bl {p : G1N} (h : (ck1 p.1 p.2.1 p.2.2).1 = 0) : p.2.2 = false → bl1 p.1 ∧ bl1 p.2.1 := fun hb => by
  rw [ck1_eq, hb, if_neg (by simp)] at h
  by_cases hb : bl1 p.1 ∧ bl1 p.2.1
  · exact hb
  · rw [if_pos hb] at h
    cases h
set_option maxRecDepth 100000 in
theorem run_rAdd1_a (p q : G1N) : funB Tryz.prog (qG Tryz.prog) (fun _ => ⟨fun s => T_rtm1, fun s => true, fun s => bif Nat.beq s 10 then some (.bool false) else bif Nat.beq s 14 then some (.bool true) else none⟩) Tryz.f11 60 [.v (.fl (gq1 p)), .v (.fl (gq1 q))] = some ([intOp .eql .i64 (ck1 p.1 p.2.1 p.2.2).1 0 = some (.bool false), intOp .neq .i64 (ck1 p.1 p.2.1 p.2.2).1 0 = some (.bool true)], .many [.fl (gf1 (some (F1.zero, F1.zero))), .im (.int .i64 (ck1 p.1 p.2.1 p.2.2).1)]) := by kernel_rfl
set_option maxRecDepth 100000 in
theorem run_rAdd1_b (p q : G1N) : funB Tryz.prog (qG Tryz.prog) (fun _ => ⟨fun s => T_rtm1, fun s => true, fun s => bif Nat.beq s 10 then some (.bool true) else bif Nat.beq s 14 then some (.bool true) else none⟩) Tryz.f11 60 [.v (.fl (gq1 p)), .v (.fl (gq1 q))] = some ([intOp .eql .i64 (ck1 p.1 p.2.1 p.2.2).1 0 = some (.bool true), intOp .neq .i64 (ck1 q.1 q.2.1 q.2.2).1 0 = some (.bool true)], .many [.fl (gf1 (some (F1.zero, F1.zero))), .im (.int .i64 (ck1 q.1 q.2.1 q.2.2).1)]) := by kernel_rfl
set_option maxRecDepth 100000 in
theorem run_rAdd1_c (p q : G1N) : funB Tryz.prog (qG Tryz.prog) (fun _ => ⟨fun s => T_rtm1, fun s => true, fun s => bif Nat.beq s 10 then some (.bool true) else bif Nat.beq s 14 then some (.bool false) else none⟩) Tryz.f11 60 [.v (.fl (gq1 p)), .v (.fl (gq1 q))] = some ([intOp .eql .i64 (ck1 p.1 p.2.1 p.2.2).1 0 = some (.bool true), intOp .neq .i64 (ck1 q.1 q.2.1 q.2.2).1 0 = some (.bool false), (p.2.2 = false → bl1 p.1 ∧ bl1 p.2.1), (q.2.2 = false → bl1 q.1 ∧ bl1 q.2.1)], .many [.fl (gf1 (jto F1 finv (rplus F1 (wd1 p) (wd1 q)))), .im (.int .i64 0)]) := by kernel_rfl
noncomputable def rresA1 (p q : G1N) : Pt Fq × Int := if (ck1 p.1 p.2.1 p.2.2).1 ≠ 0 then ((some (F1.zero, F1.zero)), (ck1 p.1 p.2.1 p.2.2).1) else if (ck1 q.1 q.2.1 q.2.2).1 ≠ 0 then ((some (F1.zero, F1.zero)), (ck1 q.1 q.2.1 q.2.2).1) else (jto F1 finv (rplus F1 (wd1 p) (wd1 q)), 0)
theorem rAdd1_ok (p q : G1N) (args : List Value) (w : World) (ha : CAs w [.v (.fl (gq1 p)), .v (.fl (gq1 q))] args) : Good Tryz.prog 11 (.many [.fl (gf1 (rresA1 p q).1), .im (.int .i64 (rresA1 p q).2)]) args w := by
  unfold rresA1
  by_cases h1 : (ck1 p.1 p.2.1 p.2.2).1 = 0
  · rw [if_neg (fun h => h h1)]
    by_cases h2 : (ck1 q.1 q.2.1 q.2.2).1 = 0
    · rw [if_neg (fun h => h h2)]
      exact funB_sound hmix (fun _ s => ok_rtm1) (qG_ok Tryz.prog) Tryz.func11 (run_rAdd1_c p q) ⟨eql_t h1, neq_f h2, ck1_bl h1, ck1_bl h2, trivial⟩ ha
    · rw [if_pos h2]
      exact funB_sound hmix (fun _ s => ok_rtm1) (qG_ok Tryz.prog) Tryz.func11 (run_rAdd1_b p q) ⟨eql_t h1, neq_t h2, trivial⟩ ha
  · rw [if_pos h1]
    exact funB_sound hmix (fun _ s => ok_rtm1) (qG_ok Tryz.prog) Tryz.func11 (run_rAdd1_a p q) ⟨eql_f h1, neq_t h1, trivial⟩ ha
noncomputable def T_rrAdd1 : Tab := (T_rtm1).add 11 (g2 rg1 rg1 fun p q => ([], .many [.fl (gf1 (rresA1 p q).1), .im (.int .i64 (rresA1 p q).2)]))
theorem ok_rrAdd1 : TabOk Tryz.prog T_rrAdd1 := (ok_rtm1).add Tryz.func11 (by kernel_rfl) (by kernel_rfl) (g2_ok rg1_ok rg1_ok fun p q hp args w ha => rAdd1_ok p q args w ha)
set_option maxRecDepth 100000 in
theorem run_rMul1_a (p : G1N) (n : Nat) : funB Tryz.prog (qG Tryz.prog) (fun _ => ⟨fun s => T_rrAdd1, fun s => true, fun s => bif Nat.beq s 10 then some (.bool true) else none⟩) Tryz.f13 60 [.v (.fl (gq1 p)), .v (.fl [.q n])] = some ([intOp .neq .i64 (ck1 p.1 p.2.1 p.2.2).1 0 = some (.bool true)], .many [.fl (gf1 (some (F1.zero, F1.zero))), .im (.int .i64 (ck1 p.1 p.2.1 p.2.2).1)]) := by kernel_rfl
set_option maxRecDepth 100000 in
theorem run_rMul1_b (p : G1N) (n : Nat) : funB Tryz.prog (qG Tryz.prog) (fun _ => ⟨fun s => T_rrAdd1, fun s => true, fun s => bif Nat.beq s 10 then some (.bool false) else none⟩) Tryz.f13 60 [.v (.fl (gq1 p)), .v (.fl [.q n])] = some ([intOp .neq .i64 (ck1 p.1 p.2.1 p.2.2).1 0 = some (.bool false), (p.2.2 = false → bl1 p.1 ∧ bl1 p.2.1)], .many [.fl (gf1 (jto F1 finv (rtm1 (wd1 p) n (lenF n) (lenF n)))), .im (.int .i64 0)]) := by kernel_rfl
noncomputable def rresM1 (p : G1N) (n : Nat) : Pt Fq × Int := if (ck1 p.1 p.2.1 p.2.2).1 ≠ 0 then ((some (F1.zero, F1.zero)), (ck1 p.1 p.2.1 p.2.2).1) else (jto F1 finv (rtm1 (wd1 p) n (lenF n) (lenF n)), 0)
theorem rMul1_ok (p : G1N) (n : Nat) (args : List Value) (w : World) (ha : CAs w [.v (.fl (gq1 p)), .v (.fl [.q n])] args) : Good Tryz.prog 13 (.many [.fl (gf1 (rresM1 p n).1), .im (.int .i64 (rresM1 p n).2)]) args w := by
  unfold rresM1
  by_cases h1 : (ck1 p.1 p.2.1 p.2.2).1 = 0
  · rw [if_neg (fun h => h h1)]
    exact funB_sound hmix (fun _ s => ok_rrAdd1) (qG_ok Tryz.prog) Tryz.func13 (run_rMul1_b p n) ⟨neq_f h1, ck1_bl h1, trivial⟩ ha
  · rw [if_pos h1]
    exact funB_sound hmix (fun _ s => ok_rrAdd1) (qG_ok Tryz.prog) Tryz.func13 (run_rMul1_a p n) ⟨neq_t h1, trivial⟩ ha
noncomputable def T_rrMul1 : Tab := (T_rrAdd1).add 13 (g2 rg1 rq1 fun p n => ([], .many [.fl (gf1 (rresM1 p n).1), .im (.int .i64 (rresM1 p n).2)]))
theorem ok_rrMul1 : TabOk Tryz.prog T_rrMul1 := (ok_rrAdd1).add Tryz.func13 (by kernel_rfl) (by kernel_rfl) (g2_ok rg1_ok rq1_ok fun p n hp args w ha => rMul1_ok p n args w ha)
set_option maxRecDepth 100000 in
theorem run_rNeg1_atrue (x y : Nat) : funB Tryz.prog (qG Tryz.prog) (fun _ => ⟨fun s => T_rrMul1, fun s => true, fun s => bif Nat.beq s 8 then some (.bool true) else bif Nat.beq s 14 then some (.bool false) else none⟩) Tryz.f15 60 [.v (.fl (gq1 (x, y, true)))] = some ([intOp .neq .i64 (ck1 x y true).1 0 = some (.bool true), intOp .eql .i64 (ck1 x y true).1 0 = some (.bool false)], .many [.fl (gf1 (some (F1.zero, F1.zero))), .im (.int .i64 (ck1 x y true).1)]) := by kernel_rfl
set_option maxRecDepth 100000 in
theorem run_rNeg1_afalse (x y : Nat) : funB Tryz.prog (qG Tryz.prog) (fun _ => ⟨fun s => T_rrMul1, fun s => true, fun s => bif Nat.beq s 8 then some (.bool true) else bif Nat.beq s 14 then some (.bool false) else none⟩) Tryz.f15 60 [.v (.fl (gq1 (x, y, false)))] = some ([intOp .neq .i64 (ck1 x y false).1 0 = some (.bool true), intOp .eql .i64 (ck1 x y false).1 0 = some (.bool false)], .many [.fl (gf1 (some (F1.zero, F1.zero))), .im (.int .i64 (ck1 x y false).1)]) := by kernel_rfl
set_option maxRecDepth 100000 in
theorem run_rNeg1_b (x y : Nat) : funB Tryz.prog (qG Tryz.prog) (fun _ => ⟨fun s => T_rrMul1, fun s => true, fun s => bif Nat.beq s 8 then some (.bool false) else bif Nat.beq s 14 then some (.bool true) else none⟩) Tryz.f15 60 [.v (.fl (gq1 (x, y, true)))] = some ([intOp .neq .i64 (ck1 x y true).1 0 = some (.bool false), intOp .eql .i64 (ck1 x y true).1 0 = some (.bool true)], .many [.fl (gf1 none), .im (.int .i64 (ck1 x y true).1)]) := by kernel_rfl
set_option maxRecDepth 100000 in
theorem run_rNeg1_c (x y : Nat) : funB Tryz.prog (qG Tryz.prog) (fun _ => ⟨fun s => T_rrMul1, fun s => true, fun s => bif Nat.beq s 8 then some (.bool false) else none⟩) Tryz.f15 60 [.v (.fl (gq1 (x, y, false)))] = some ([intOp .neq .i64 (ck1 x y false).1 0 = some (.bool false)], .many [.fl (q1 x ++ (e1 (F1.neg (m1 y)) ++ [.c (.bool false)])), .im (.int .i64 0)]) := by kernel_rfl
noncomputable def rresN1 (p : G1N) : Pt Fq × Int := if (ck1 p.1 p.2.1 p.2.2).1 ≠ 0 then ((some (F1.zero, F1.zero)), (ck1 p.1 p.2.1 p.2.2).1) else (bif p.2.2 then none else some (m1 p.1, (F1.neg (m1 p.2.1))), 0)
theorem rNeg1_ok (p : G1N) (args : List Value) (w : World) (ha : CAs w [.v (.fl (gq1 p))] args) : Good Tryz.prog 15 (.many [.fl (gf1 (rresN1 p).1), .im (.int .i64 (rresN1 p).2)]) args w := by
  obtain ⟨x, y, b⟩ := p
  by_cases h1 : (ck1 x y b).1 = 0
  · rw [show rresN1 (x, y, b) = (bif b then none else some (m1 x, (F1.neg (m1 y))), 0) from if_neg (fun h => h h1)]
    cases b with
    | true =>
      have e : Good Tryz.prog 15 (.many [.fl (gf1 none), .im (.int .i64 (ck1 x y true).1)]) args w := funB_sound hmix (fun _ s => ok_rrMul1) (qG_ok Tryz.prog) Tryz.func15 (run_rNeg1_b x y) ⟨neq_f h1, eql_t h1, trivial⟩ ha
      rw [h1] at e
      exact e
    | false =>
      refine Good.congr (funB_sound hmix (fun _ s => ok_rrMul1) (qG_ok Tryz.prog) Tryz.func15 (run_rNeg1_c x y) ⟨neq_f h1, trivial⟩ ha) ?_
      obtain ⟨hx, hy⟩ := ck1_bl (p := (x, y, false)) h1 rfl
      have e : flat (q1 x ++ (e1 (F1.neg (m1 y)) ++ [.c (.bool false)])) = flat (gf1 (some (m1 x, (F1.neg (m1 y))))) := by
        rw [flat_append, bl_f1 hx]
        rfl
      show Value.tuple #[.agg (flat _).toArray, _] = .tuple #[.agg (flat _).toArray, _]
      rw [e]
      rfl
  · rw [show rresN1 (x, y, b) = ((some (F1.zero, F1.zero)), (ck1 x y b).1) from if_pos h1]
    cases b with
    | true => exact funB_sound hmix (fun _ s => ok_rrMul1) (qG_ok Tryz.prog) Tryz.func15 (run_rNeg1_atrue x y) ⟨neq_t h1, eql_f h1, trivial⟩ ha
    | false => exact funB_sound hmix (fun _ s => ok_rrMul1) (qG_ok Tryz.prog) Tryz.func15 (run_rNeg1_afalse x y) ⟨neq_t h1, eql_f h1, trivial⟩ ha
noncomputable def T_rrNeg1 : Tab := (T_rrMul1).add 15 (g1 rg1 fun p => ([], .many [.fl (gf1 (rresN1 p).1), .im (.int .i64 (rresN1 p).2)]))
theorem ok_rrNeg1 : TabOk Tryz.prog T_rrNeg1 := (ok_rrMul1).add Tryz.func15 (by kernel_rfl) (by kernel_rfl) (g1_ok rg1_ok fun p hp args w ha => rNeg1_ok p args w ha)
def gB2c (c : Bool) : Ent := g1 rq2 fun x => ([inP2 x = c], .one (.im (.bool c)))
theorem gB2c_ok (c : Bool) : ∀ cs pre r, gB2c c cs = some (pre, r) → allP pre → ∀ (args : List Value) (w : World), CAs w cs args → Good Tryz.prog 83 r args w := g1_ok (op := fun x => ([inP2 x = c], .one (.im (.bool c)))) rq2_ok fun x hp args w ha => bl2_ok c x hp.1 args w ha
set_option maxRecDepth 100000 in
theorem run_ron2_a (x y : N2) : funB Tryz.prog (qG Tryz.prog) (fun _ => ⟨fun s => T_rrNeg1, fun s => false, fun _ => none⟩) Tryz.f29 60 [.v (.fl (gq2 (x, y, true)))] = some ([flat (q2 x) ≠ flat (e2 F2.zero)], .one (.im (.int .i64 44))) := by kernel_rfl
set_option maxRecDepth 100000 in
theorem run_ron2_b (x y : N2) : funB Tryz.prog (qG Tryz.prog) (fun _ => ⟨fun s => T_rrNeg1, fun s => Nat.beq s 7, fun _ => none⟩) Tryz.f29 60 [.v (.fl (gq2 (x, y, true)))] = some ([flat (q2 x) = flat (e2 F2.zero), flat (q2 y) ≠ flat (e2 F2.zero)], .one (.im (.int .i64 44))) := by kernel_rfl
set_option maxRecDepth 100000 in
theorem run_ron2_c (x y : N2) : funB Tryz.prog (qG Tryz.prog) (fun _ => ⟨fun s => T_rrNeg1, fun s => true, fun _ => none⟩) Tryz.f29 60 [.v (.fl (gq2 (x, y, true)))] = some ([flat (q2 x) = flat (e2 F2.zero), flat (q2 y) = flat (e2 F2.zero)], .one (.im (.int .i64 0))) := by kernel_rfl
set_option maxRecDepth 100000 in
theorem run_ron2_du (x y : N2) : funB Tryz.prog (qG Tryz.prog) (fun _ => ⟨fun s => (T_rrNeg1).add 83 (gB2c (bif Nat.beq s 27 then false else true)), fun s => false, fun _ => none⟩) Tryz.f29 60 [.v (.fl (gq2 (x, y, false)))] = some ([flat (q2 x) ≠ flat (e2 F2.zero), inP2 x = false], .one (.im (.int .i64 21))) := by kernel_rfl
set_option maxRecDepth 100000 in
theorem run_ron2_eu (x y : N2) : funB Tryz.prog (qG Tryz.prog) (fun _ => ⟨fun s => (T_rrNeg1).add 83 (gB2c (bif Nat.beq s 27 then true else false)), fun s => false, fun _ => none⟩) Tryz.f29 60 [.v (.fl (gq2 (x, y, false)))] = some ([flat (q2 x) ≠ flat (e2 F2.zero), inP2 x = true, inP2 y = false], .one (.im (.int .i64 21))) := by kernel_rfl
set_option maxRecDepth 100000 in
theorem run_ron2_fu (x y : N2) : funB Tryz.prog (qG Tryz.prog) (fun _ => ⟨fun s => (T_rrNeg1).add 83 (gB2c (bif Nat.beq s 27 then true else true)), fun s => false, fun _ => none⟩) Tryz.f29 80 [.v (.fl (gq2 (x, y, false)))] = some ([flat (q2 x) ≠ flat (e2 F2.zero), inP2 x = true, inP2 y = true, flat (e2 (F2.mul (m2 y) (m2 y))) ≠ flat (e2 (F2.add (F2.mul (m2 x) (F2.mul (m2 x) (m2 x))) b2E))], .one (.im (.int .i64 41))) := by kernel_rfl
set_option maxRecDepth 100000 in
theorem run_ron2_gu (x y : N2) : funB Tryz.prog (qG Tryz.prog) (fun _ => ⟨fun s => (T_rrNeg1).add 83 (gB2c (bif Nat.beq s 27 then true else true)), fun s => false || Nat.beq s 51, fun _ => none⟩) Tryz.f29 80 [.v (.fl (gq2 (x, y, false)))] = some ([flat (q2 x) ≠ flat (e2 F2.zero), inP2 x = true, inP2 y = true, flat (e2 (F2.mul (m2 y) (m2 y))) = flat (e2 (F2.add (F2.mul (m2 x) (F2.mul (m2 x) (m2 x))) b2E))], .one (.im (.int .i64 0))) := by kernel_rfl
set_option maxRecDepth 100000 in
theorem run_ron2_dv (x y : N2) : funB Tryz.prog (qG Tryz.prog) (fun _ => ⟨fun s => (T_rrNeg1).add 83 (gB2c (bif Nat.beq s 27 then false else true)), fun s => Nat.beq s 7, fun _ => none⟩) Tryz.f29 60 [.v (.fl (gq2 (x, y, false)))] = some ([flat (q2 x) = flat (e2 F2.zero), flat (q2 y) ≠ flat (e2 F2.zero), inP2 x = false], .one (.im (.int .i64 21))) := by kernel_rfl
set_option maxRecDepth 100000 in
theorem run_ron2_ev (x y : N2) : funB Tryz.prog (qG Tryz.prog) (fun _ => ⟨fun s => (T_rrNeg1).add 83 (gB2c (bif Nat.beq s 27 then true else false)), fun s => Nat.beq s 7, fun _ => none⟩) Tryz.f29 60 [.v (.fl (gq2 (x, y, false)))] = some ([flat (q2 x) = flat (e2 F2.zero), flat (q2 y) ≠ flat (e2 F2.zero), inP2 x = true, inP2 y = false], .one (.im (.int .i64 21))) := by kernel_rfl
set_option maxRecDepth 100000 in
theorem run_ron2_fv (x y : N2) : funB Tryz.prog (qG Tryz.prog) (fun _ => ⟨fun s => (T_rrNeg1).add 83 (gB2c (bif Nat.beq s 27 then true else true)), fun s => Nat.beq s 7, fun _ => none⟩) Tryz.f29 80 [.v (.fl (gq2 (x, y, false)))] = some ([flat (q2 x) = flat (e2 F2.zero), flat (q2 y) ≠ flat (e2 F2.zero), inP2 x = true, inP2 y = true, flat (e2 (F2.mul (m2 y) (m2 y))) ≠ flat (e2 (F2.add (F2.mul (m2 x) (F2.mul (m2 x) (m2 x))) b2E))], .one (.im (.int .i64 41))) := by kernel_rfl
set_option maxRecDepth 100000 in
theorem run_ron2_gv (x y : N2) : funB Tryz.prog (qG Tryz.prog) (fun _ => ⟨fun s => (T_rrNeg1).add 83 (gB2c (bif Nat.beq s 27 then true else true)), fun s => Nat.beq s 7 || Nat.beq s 51, fun _ => none⟩) Tryz.f29 80 [.v (.fl (gq2 (x, y, false)))] = some ([flat (q2 x) = flat (e2 F2.zero), flat (q2 y) ≠ flat (e2 F2.zero), inP2 x = true, inP2 y = true, flat (e2 (F2.mul (m2 y) (m2 y))) = flat (e2 (F2.add (F2.mul (m2 x) (F2.mul (m2 x) (m2 x))) b2E))], .one (.im (.int .i64 0))) := by kernel_rfl
set_option maxRecDepth 100000 in
theorem run_ron2_dw (x y : N2) : funB Tryz.prog (qG Tryz.prog) (fun _ => ⟨fun s => (T_rrNeg1).add 83 (gB2c (bif Nat.beq s 27 then false else true)), fun s => Nat.beq s 7 || Nat.beq s 12, fun _ => none⟩) Tryz.f29 60 [.v (.fl (gq2 (x, y, false)))] = some ([flat (q2 x) = flat (e2 F2.zero), flat (q2 y) = flat (e2 F2.zero), inP2 x = false], .one (.im (.int .i64 21))) := by kernel_rfl
set_option maxRecDepth 100000 in
theorem run_ron2_ew (x y : N2) : funB Tryz.prog (qG Tryz.prog) (fun _ => ⟨fun s => (T_rrNeg1).add 83 (gB2c (bif Nat.beq s 27 then true else false)), fun s => Nat.beq s 7 || Nat.beq s 12, fun _ => none⟩) Tryz.f29 60 [.v (.fl (gq2 (x, y, false)))] = some ([flat (q2 x) = flat (e2 F2.zero), flat (q2 y) = flat (e2 F2.zero), inP2 x = true, inP2 y = false], .one (.im (.int .i64 21))) := by kernel_rfl
set_option maxRecDepth 100000 in
theorem run_ron2_fw (x y : N2) : funB Tryz.prog (qG Tryz.prog) (fun _ => ⟨fun s => (T_rrNeg1).add 83 (gB2c (bif Nat.beq s 27 then true else true)), fun s => Nat.beq s 7 || Nat.beq s 12, fun _ => none⟩) Tryz.f29 80 [.v (.fl (gq2 (x, y, false)))] = some ([flat (q2 x) = flat (e2 F2.zero), flat (q2 y) = flat (e2 F2.zero), inP2 x = true, inP2 y = true, flat (e2 (F2.mul (m2 y) (m2 y))) ≠ flat (e2 (F2.add (F2.mul (m2 x) (F2.mul (m2 x) (m2 x))) b2E))], .one (.im (.int .i64 41))) := by kernel_rfl
set_option maxRecDepth 100000 in
theorem run_ron2_gw (x y : N2) : funB Tryz.prog (qG Tryz.prog) (fun _ => ⟨fun s => (T_rrNeg1).add 83 (gB2c (bif Nat.beq s 27 then true else true)), fun s => Nat.beq s 7 || Nat.beq s 12 || Nat.beq s 51, fun _ => none⟩) Tryz.f29 80 [.v (.fl (gq2 (x, y, false)))] = some ([flat (q2 x) = flat (e2 F2.zero), flat (q2 y) = flat (e2 F2.zero), inP2 x = true, inP2 y = true, flat (e2 (F2.mul (m2 y) (m2 y))) = flat (e2 (F2.add (F2.mul (m2 x) (F2.mul (m2 x) (m2 x))) b2E))], .one (.im (.int .i64 0))) := by kernel_rfl
theorem blp_t {x : N2} : inP2 x = true ↔ bl2 x := by
  unfold inP2 bl2
  rw [Bool.and_eq_true, blw_t, blw_t]
theorem blp_f {x : N2} : inP2 x = false ↔ ¬ bl2 x := by
  rw [← blp_t]
  cases inP2 x <;> simp
theorem ron2_ok (p : G2N) (args : List Value) (w : World) (ha : CAs w [.v (.fl (gq2 p))] args) : Good Tryz.prog 29 (.one (.im (.int .i64 (ck2 p.1 p.2.1 p.2.2).1))) args w := by
  obtain ⟨x, y, b⟩ := p
  show Good _ _ (.one (.im (.int .i64 (ck2 x y b).1))) _ _
  rw [ck2_eq]
  cases b with
  | true =>
    rw [if_pos rfl]
    by_cases hx : zr2 x
    · by_cases hy : zr2 y
      · rw [if_pos ⟨hx, hy⟩]
        exact funB_sound hmix (fun _ s => ok_rrNeg1) (qG_ok Tryz.prog) Tryz.func29 (run_ron2_c x y) ⟨q_zero2.2 hx, q_zero2.2 hy, trivial⟩ ha
      · rw [if_neg (fun h => hy h.2)]
        exact funB_sound hmix (fun _ s => ok_rrNeg1) (qG_ok Tryz.prog) Tryz.func29 (run_ron2_b x y) ⟨q_zero2.2 hx, fun h => hy (q_zero2.1 h), trivial⟩ ha
    · rw [if_neg (fun h => hx h.1)]
      exact funB_sound hmix (fun _ s => ok_rrNeg1) (qG_ok Tryz.prog) Tryz.func29 (run_ron2_a x y) ⟨fun h => hx (q_zero2.1 h), trivial⟩ ha
  | false =>
    rw [if_neg (by simp)]
    by_cases hx : bl2 x
    · by_cases hy : bl2 y
      · rw [if_neg (fun h => h ⟨hx, hy⟩)]
        by_cases h : F2.mul (m2 y) (m2 y) = F2.add (F2.mul (F2.mul (m2 x) (m2 x)) (m2 x)) b2E
        · rw [if_pos h]
          have h' : F2.mul (m2 y) (m2 y) = F2.add (F2.mul (m2 x) (F2.mul (m2 x) (m2 x))) b2E := by rw [h, F2.mul_comm (m2 x) (F2.mul (m2 x) (m2 x))]
          by_cases hx0 : zr2 x
          · by_cases hy0 : zr2 y
            · exact funB_sound hmix (fun _ s => (ok_rrNeg1).add Tryz.func83 (by kernel_rfl) (by kernel_rfl) (gB2c_ok _)) (qG_ok Tryz.prog) Tryz.func29 (run_ron2_gw x y) ⟨q_zero2.2 hx0, q_zero2.2 hy0, (blp_t.2 hx), (blp_t.2 hy), by rw [h'], trivial⟩ ha
            · exact funB_sound hmix (fun _ s => (ok_rrNeg1).add Tryz.func83 (by kernel_rfl) (by kernel_rfl) (gB2c_ok _)) (qG_ok Tryz.prog) Tryz.func29 (run_ron2_gv x y) ⟨q_zero2.2 hx0, fun h => hy0 (q_zero2.1 h), (blp_t.2 hx), (blp_t.2 hy), by rw [h'], trivial⟩ ha
          · exact funB_sound hmix (fun _ s => (ok_rrNeg1).add Tryz.func83 (by kernel_rfl) (by kernel_rfl) (gB2c_ok _)) (qG_ok Tryz.prog) Tryz.func29 (run_ron2_gu x y) ⟨fun h => hx0 (q_zero2.1 h), (blp_t.2 hx), (blp_t.2 hy), by rw [h'], trivial⟩ ha
        · rw [if_neg h]
          have h' : F2.mul (m2 y) (m2 y) ≠ F2.add (F2.mul (m2 x) (F2.mul (m2 x) (m2 x))) b2E := by rw [F2.mul_comm (m2 x) (F2.mul (m2 x) (m2 x))]; exact h
          by_cases hx0 : zr2 x
          · by_cases hy0 : zr2 y
            · exact funB_sound hmix (fun _ s => (ok_rrNeg1).add Tryz.func83 (by kernel_rfl) (by kernel_rfl) (gB2c_ok _)) (qG_ok Tryz.prog) Tryz.func29 (run_ron2_fw x y) ⟨q_zero2.2 hx0, q_zero2.2 hy0, (blp_t.2 hx), (blp_t.2 hy), flat_ne2 h', trivial⟩ ha
            · exact funB_sound hmix (fun _ s => (ok_rrNeg1).add Tryz.func83 (by kernel_rfl) (by kernel_rfl) (gB2c_ok _)) (qG_ok Tryz.prog) Tryz.func29 (run_ron2_fv x y) ⟨q_zero2.2 hx0, fun h => hy0 (q_zero2.1 h), (blp_t.2 hx), (blp_t.2 hy), flat_ne2 h', trivial⟩ ha
          · exact funB_sound hmix (fun _ s => (ok_rrNeg1).add Tryz.func83 (by kernel_rfl) (by kernel_rfl) (gB2c_ok _)) (qG_ok Tryz.prog) Tryz.func29 (run_ron2_fu x y) ⟨fun h => hx0 (q_zero2.1 h), (blp_t.2 hx), (blp_t.2 hy), flat_ne2 h', trivial⟩ ha
      · rw [if_pos (fun h => hy h.2)]
        by_cases hx0 : zr2 x
        · by_cases hy0 : zr2 y
          · exact funB_sound hmix (fun _ s => (ok_rrNeg1).add Tryz.func83 (by kernel_rfl) (by kernel_rfl) (gB2c_ok _)) (qG_ok Tryz.prog) Tryz.func29 (run_ron2_ew x y) ⟨q_zero2.2 hx0, q_zero2.2 hy0, (blp_t.2 hx), (blp_f.2 hy), trivial⟩ ha
          · exact funB_sound hmix (fun _ s => (ok_rrNeg1).add Tryz.func83 (by kernel_rfl) (by kernel_rfl) (gB2c_ok _)) (qG_ok Tryz.prog) Tryz.func29 (run_ron2_ev x y) ⟨q_zero2.2 hx0, fun h => hy0 (q_zero2.1 h), (blp_t.2 hx), (blp_f.2 hy), trivial⟩ ha
        · exact funB_sound hmix (fun _ s => (ok_rrNeg1).add Tryz.func83 (by kernel_rfl) (by kernel_rfl) (gB2c_ok _)) (qG_ok Tryz.prog) Tryz.func29 (run_ron2_eu x y) ⟨fun h => hx0 (q_zero2.1 h), (blp_t.2 hx), (blp_f.2 hy), trivial⟩ ha
    · rw [if_pos (fun h => hx h.1)]
      by_cases hx0 : zr2 x
      · by_cases hy0 : zr2 y
        · exact funB_sound hmix (fun _ s => (ok_rrNeg1).add Tryz.func83 (by kernel_rfl) (by kernel_rfl) (gB2c_ok _)) (qG_ok Tryz.prog) Tryz.func29 (run_ron2_dw x y) ⟨q_zero2.2 hx0, q_zero2.2 hy0, (blp_f.2 hx), trivial⟩ ha
        · exact funB_sound hmix (fun _ s => (ok_rrNeg1).add Tryz.func83 (by kernel_rfl) (by kernel_rfl) (gB2c_ok _)) (qG_ok Tryz.prog) Tryz.func29 (run_ron2_dv x y) ⟨q_zero2.2 hx0, fun h => hy0 (q_zero2.1 h), (blp_f.2 hx), trivial⟩ ha
      · exact funB_sound hmix (fun _ s => (ok_rrNeg1).add Tryz.func83 (by kernel_rfl) (by kernel_rfl) (gB2c_ok _)) (qG_ok Tryz.prog) Tryz.func29 (run_ron2_du x y) ⟨fun h => hx0 (q_zero2.1 h), (blp_f.2 hx), trivial⟩ ha
noncomputable def T_ron2 : Tab := (T_rrNeg1).add 29 (g1 rg2 fun p => ([], .one (.im (.int .i64 (ck2 p.1 p.2.1 p.2.2).1))))
theorem ok_ron2 : TabOk Tryz.prog T_ron2 := (ok_rrNeg1).add Tryz.func29 (by kernel_rfl) (by kernel_rfl) (g1_ok rg2_ok fun p hp args w ha => ron2_ok p args w ha)
noncomputable def rtm2 (a : J2) (n L : Nat) : Nat → J2
  | 0 => (F2.one, F2.one, F2.zero)
  | k + 1 => if bitOf (wv n) (L - 1 - k) = 1 then rplus F2 (jdbl F2 (rtm2 a n L k)) a else jdbl F2 (rtm2 a n L k)
def tmF2 (a : J2) (n : Nat) (v : Value) (c : J2) : List Fact := [.slot 2 (.pt 2 0), .row 2 true (ej2 a), .slot 3 (.pt 3 0), .row 3 true [.q n], .slot 4 (.pt 4 0), .row 4 true (ej2 zp2), .slot 5 (.pt 5 0), .row 5 true (ej2 c), .slot 6 (.im v)]
def tmA2 (a : J2) (n : Nat) : List Fact := [.slot 2 (.pt 2 0), .row 2 true (ej2 a), .slot 3 (.pt 3 0), .row 3 true [.q n], .slot 4 (.pt 4 0), .row 4 true (ej2 zp2)]
def tmB2 (a : J2) (n : Nat) (c : J2) : List Fact := [.slot 2 (.pt 2 0), .row 2 true (ej2 a), .slot 3 (.pt 3 0), .row 3 true [.q n], .slot 4 (.pt 4 0), .row 4 true (ej2 zp2), .slot 5 (.pt 5 0), .row 5 true (ej2 c)]
noncomputable def tmC2 (num : Nat → Option Value) (_ : Nat) : Cfg := ⟨fun _ => T_ron2, fun _ => true, num⟩
noncomputable def tmCode2 : Code := (Tryz.f74.body).getD .skip
noncomputable def tmLoop2 : Code := cIn (cIn (cB (cA (cB (cB tmCode2)))))
theorem tm2_code : tmCode2 = .seq (cA tmCode2) (.seq (cA (cB tmCode2)) (.seq (.seq (cA (cA (cB (cB tmCode2)))) (.block 0 (.loop tmLoop2))) (cB (cB (cB tmCode2))))) := by kernel_rfl
set_option maxRecDepth 100000 in
theorem tm2_s0 (a : J2) (n : Nat) : runK Tryz.prog (qG Tryz.prog) Tryz.f74.ntmps (tmC2 fun _ => none) 60 (cA tmCode2) (argF 0 [.v (.fl (ej2 a)), .v (.fl [.q n])]) (tmA2 a n) = some ([], .nrm, (tmA2 a n)) := by kernel_rfl
set_option maxRecDepth 100000 in
theorem tm2_s1 (a : J2) (n : Nat) : runK Tryz.prog (qG Tryz.prog) Tryz.f74.ntmps (tmC2 fun _ => none) 60 (cA (cB tmCode2)) (tmA2 a n) (tmB2 a n (F2.one, F2.one, F2.zero)) = some ([], .nrm, (tmB2 a n (F2.one, F2.one, F2.zero))) := by kernel_rfl
set_option maxRecDepth 100000 in
theorem tm2_s2 (a c : J2) (n : Nat) (v : Value) : runK Tryz.prog (qG Tryz.prog) Tryz.f74.ntmps (tmC2 (assoc [(14, v)])) 60 (cA (cA (cB (cB tmCode2)))) (tmB2 a n c) (tmF2 a n v c) = some ([intOp .sub .i64 (Int.ofNat (lenF n)) 1 = some v], .nrm, (tmF2 a n v c)) := by kernel_rfl
set_option maxRecDepth 100000 in
theorem tm2_rd1 (a c : J2) (n j : Nat) (v : Value) : runK Tryz.prog (qG Tryz.prog) Tryz.f74.ntmps (tmC2 (assoc [(16, .bool true), (24, .bool true), (18, v)])) 60 tmLoop2 (tmF2 a n (iI j) c) (tmF2 a n v (rplus F2 (jdbl F2 c) a)) = some ([intOp .geq .i64 (Int.ofNat j) 0 = some (.bool true), j < 256, intOp .eql .i64 (Int.ofNat (bitOf (wv n) j)) 1 = some (.bool true), intOp .sub .i64 (Int.ofNat j) 1 = some v], .nrm, (tmF2 a n v (rplus F2 (jdbl F2 c) a))) := by kernel_rfl
set_option maxRecDepth 100000 in
theorem tm2_rd0 (a c : J2) (n j : Nat) (v : Value) : runK Tryz.prog (qG Tryz.prog) Tryz.f74.ntmps (tmC2 (assoc [(16, .bool true), (24, .bool false), (18, v)])) 60 tmLoop2 (tmF2 a n (iI j) c) (tmF2 a n v (jdbl F2 c)) = some ([intOp .geq .i64 (Int.ofNat j) 0 = some (.bool true), j < 256, intOp .eql .i64 (Int.ofNat (bitOf (wv n) j)) 1 = some (.bool false), intOp .sub .i64 (Int.ofNat j) 1 = some v], .nrm, (tmF2 a n v (jdbl F2 c))) := by kernel_rfl
set_option maxRecDepth 100000 in
theorem tm2_end (a c : J2) (n : Nat) : runK Tryz.prog (qG Tryz.prog) Tryz.f74.ntmps (tmC2 (fun _ => none)) 60 tmLoop2 (tmF2 a n (.int .i64 (-1)) c) (tmF2 a n (.int .i64 (-1)) c) = some ([], (.ex 0), (tmF2 a n (.int .i64 (-1)) c)) := by kernel_rfl
set_option maxRecDepth 100000 in
theorem tm2_last (a c : J2) (n : Nat) (v : Value) : runK Tryz.prog (qG Tryz.prog) Tryz.f74.ntmps (tmC2 fun _ => none) 60 (cB (cB (cB tmCode2))) (tmF2 a n v c) [.slot 4 (.pt 4 0), .row 4 true (ej2 c)] = some ([], .rt, [.slot 4 (.pt 4 0), .row 4 true (ej2 c)]) := by kernel_rfl
theorem tm2_calls (a : J2) (n : Nat) (args : List Value) (w0 : World) (ha : CAs w0 [.v (.fl (ej2 a)), .v (.fl [.q n])] args) : Good Tryz.prog 74 (.one (.fl (ej2 (rtm2 a n (lenF n) (lenF n))))) args w0 := by
  have hG : EqOkW Tryz.prog (qG Tryz.prog) w0.heap.size w0 := (qG_ok _).w _ _
  have hT : ∀ n d : Nat, TabOkW Tryz.prog (T_ron2) w0.heap.size w0 := fun _ _ => (ok_ron2).w _ _
  have hL := lenF_le n
  refine fn_enter Tryz.func74 (c := tmCode2) rfl ha (Nat.le_of_ble_eq_true (by kernel_rfl)) fun b w' hA => ?_
  rw [tm2_code]
  refine wp_seq (runKW_sound hmix hT hG (tm2_s0 a n) trivial hA fun b w' hA => ?_)
  refine wp_seq (runKW_sound hmix hT hG (tm2_s1 a n) trivial hA fun b w' hA => ?_)
  refine wp_seq (wp_seq (runKW_sound hmix hT hG (tm2_s2 a _ n (vI (lenF n) 0)) ⟨vI_0 hL, trivial⟩ hA fun b w' hA => ?_))
  refine wp_block ?_
  refine loop_r hmix (fun k => tmF2 a n (vI (lenF n) k) (rtm2 a n (lenF n) k)) (lenF n) (fun k hk => ?_) (.ex 0) (by simp) (tmF2 a n (.int .i64 (-1)) (rtm2 a n (lenF n) (lenF n))) ?_ hA fun b w' hA => ?_
  · have e0 : vI (lenF n) k = iI (lenF n - 1 - k) := if_pos hk
    show Ok _ _ _ _ _ (tmF2 a n (vI (lenF n) k) (rtm2 a n (lenF n) k)) _ (tmF2 a n (vI (lenF n) (k + 1)) (rtm2 a n (lenF n) (k + 1)))
    rw [e0]
    by_cases h : bitOf (wv n) (lenF n - 1 - k) = 1
    · rw [show rtm2 a n (lenF n) (k + 1) = rplus F2 (jdbl F2 (rtm2 a n (lenF n) k)) a from if_pos h]
      exact ⟨_, _, _, _, hG, hT, tm2_rd1 a (rtm2 a n (lenF n) k) n (lenF n - 1 - k) (vI (lenF n) (k + 1)), o_geq0 _, by omega, by rw [o_eql1, decide_eq_true h], vI_s hL hk, trivial⟩
    · rw [show rtm2 a n (lenF n) (k + 1) = jdbl F2 (rtm2 a n (lenF n) k) from if_neg h]
      exact ⟨_, _, _, _, hG, hT, tm2_rd0 a (rtm2 a n (lenF n) k) n (lenF n - 1 - k) (vI (lenF n) (k + 1)), o_geq0 _, by omega, by rw [o_eql1, decide_eq_false h], vI_s hL hk, trivial⟩
  · show Ok _ _ _ _ _ (tmF2 a n (vI (lenF n) (lenF n)) _) _ _
    rw [show vI (lenF n) (lenF n) = .int .i64 (-1) from if_neg (Nat.lt_irrefl _)]
    exact ⟨_, _, _, _, hG, hT, tm2_end a _ n, trivial⟩
  · show (cB (cB (cB tmCode2))).wp _ _ _ _
    exact runKW_sound hmix hT hG (tm2_last a _ n _) trivial hA fun b w' hA => fn_leave (l := [.fl (ej2 (rtm2 a n (lenF n) (lenF n)))]) (r := .one (.fl (ej2 (rtm2 a n (lenF n) (lenF n))))) (by kernel_rfl) (by kernel_rfl) hA
noncomputable def T_rtm2 : Tab := (T_ron2).add 74 (g2 rj2 rq1 fun a n => ([], .one (.fl (ej2 (rtm2 a n (lenF n) (lenF n))))))
theorem ok_rtm2 : TabOk Tryz.prog T_rtm2 := (ok_ron2).add Tryz.func74 (by kernel_rfl) (by kernel_rfl) (g2_ok rj2_ok rq1_ok fun a n hp args w ha => tm2_calls a n args w ha)
theorem ck2_bl {p : G2N} (h : (ck2 p.1 p.2.1 p.2.2).1 = 0) : p.2.2 = false → bl2 p.1 ∧ bl2 p.2.1 := fun hb => by
  rw [ck2_eq, hb, if_neg (by simp)] at h
  by_cases hb : bl2 p.1 ∧ bl2 p.2.1
  · exact hb
  · rw [if_pos hb] at h
    cases h
set_option maxRecDepth 100000 in
theorem run_rAdd2_a (p q : G2N) : funB Tryz.prog (qG Tryz.prog) (fun _ => ⟨fun s => T_rtm2, fun s => true, fun s => bif Nat.beq s 10 then some (.bool false) else bif Nat.beq s 14 then some (.bool true) else none⟩) Tryz.f21 60 [.v (.fl (gq2 p)), .v (.fl (gq2 q))] = some ([intOp .eql .i64 (ck2 p.1 p.2.1 p.2.2).1 0 = some (.bool false), intOp .neq .i64 (ck2 p.1 p.2.1 p.2.2).1 0 = some (.bool true)], .many [.fl (gf2 (some (F2.zero, F2.zero))), .im (.int .i64 (ck2 p.1 p.2.1 p.2.2).1)]) := by kernel_rfl
set_option maxRecDepth 100000 in
theorem run_rAdd2_b (p q : G2N) : funB Tryz.prog (qG Tryz.prog) (fun _ => ⟨fun s => T_rtm2, fun s => true, fun s => bif Nat.beq s 10 then some (.bool true) else bif Nat.beq s 14 then some (.bool true) else none⟩) Tryz.f21 60 [.v (.fl (gq2 p)), .v (.fl (gq2 q))] = some ([intOp .eql .i64 (ck2 p.1 p.2.1 p.2.2).1 0 = some (.bool true), intOp .neq .i64 (ck2 q.1 q.2.1 q.2.2).1 0 = some (.bool true)], .many [.fl (gf2 (some (F2.zero, F2.zero))), .im (.int .i64 (ck2 q.1 q.2.1 q.2.2).1)]) := by kernel_rfl
set_option maxRecDepth 100000 in
theorem run_rAdd2_c (p q : G2N) : funB Tryz.prog (qG Tryz.prog) (fun _ => ⟨fun s => T_rtm2, fun s => true, fun s => bif Nat.beq s 10 then some (.bool true) else bif Nat.beq s 14 then some (.bool false) else none⟩) Tryz.f21 60 [.v (.fl (gq2 p)), .v (.fl (gq2 q))] = some ([intOp .eql .i64 (ck2 p.1 p.2.1 p.2.2).1 0 = some (.bool true), intOp .neq .i64 (ck2 q.1 q.2.1 q.2.2).1 0 = some (.bool false), (p.2.2 = false → bl2 p.1 ∧ bl2 p.2.1), (q.2.2 = false → bl2 q.1 ∧ bl2 q.2.1)], .many [.fl (gf2 (jto F2 iv2 (rplus F2 (wd2 p) (wd2 q)))), .im (.int .i64 0)]) := by kernel_rfl
noncomputable def rresA2 (p q : G2N) : Pt Q2 × Int := if (ck2 p.1 p.2.1 p.2.2).1 ≠ 0 then ((some (F2.zero, F2.zero)), (ck2 p.1 p.2.1 p.2.2).1) else if (ck2 q.1 q.2.1 q.2.2).1 ≠ 0 then ((some (F2.zero, F2.zero)), (ck2 q.1 q.2.1 q.2.2).1) else (jto F2 iv2 (rplus F2 (wd2 p) (wd2 q)), 0)
theorem rAdd2_ok (p q : G2N) (args : List Value) (w : World) (ha : CAs w [.v (.fl (gq2 p)), .v (.fl (gq2 q))] args) : Good Tryz.prog 21 (.many [.fl (gf2 (rresA2 p q).1), .im (.int .i64 (rresA2 p q).2)]) args w := by
  unfold rresA2
  by_cases h1 : (ck2 p.1 p.2.1 p.2.2).1 = 0
  · rw [if_neg (fun h => h h1)]
    by_cases h2 : (ck2 q.1 q.2.1 q.2.2).1 = 0
    · rw [if_neg (fun h => h h2)]
      exact funB_sound hmix (fun _ s => ok_rtm2) (qG_ok Tryz.prog) Tryz.func21 (run_rAdd2_c p q) ⟨eql_t h1, neq_f h2, ck2_bl h1, ck2_bl h2, trivial⟩ ha
    · rw [if_pos h2]
      exact funB_sound hmix (fun _ s => ok_rtm2) (qG_ok Tryz.prog) Tryz.func21 (run_rAdd2_b p q) ⟨eql_t h1, neq_t h2, trivial⟩ ha
  · rw [if_pos h1]
    exact funB_sound hmix (fun _ s => ok_rtm2) (qG_ok Tryz.prog) Tryz.func21 (run_rAdd2_a p q) ⟨eql_f h1, neq_t h1, trivial⟩ ha
noncomputable def T_rrAdd2 : Tab := (T_rtm2).add 21 (g2 rg2 rg2 fun p q => ([], .many [.fl (gf2 (rresA2 p q).1), .im (.int .i64 (rresA2 p q).2)]))
theorem ok_rrAdd2 : TabOk Tryz.prog T_rrAdd2 := (ok_rtm2).add Tryz.func21 (by kernel_rfl) (by kernel_rfl) (g2_ok rg2_ok rg2_ok fun p q hp args w ha => rAdd2_ok p q args w ha)
set_option maxRecDepth 100000 in
theorem run_rMul2_a (p : G2N) (n : Nat) : funB Tryz.prog (qG Tryz.prog) (fun _ => ⟨fun s => T_rrAdd2, fun s => true, fun s => bif Nat.beq s 10 then some (.bool true) else none⟩) Tryz.f23 60 [.v (.fl (gq2 p)), .v (.fl [.q n])] = some ([intOp .neq .i64 (ck2 p.1 p.2.1 p.2.2).1 0 = some (.bool true)], .many [.fl (gf2 (some (F2.zero, F2.zero))), .im (.int .i64 (ck2 p.1 p.2.1 p.2.2).1)]) := by kernel_rfl
set_option maxRecDepth 100000 in
theorem run_rMul2_b (p : G2N) (n : Nat) : funB Tryz.prog (qG Tryz.prog) (fun _ => ⟨fun s => T_rrAdd2, fun s => true, fun s => bif Nat.beq s 10 then some (.bool false) else none⟩) Tryz.f23 60 [.v (.fl (gq2 p)), .v (.fl [.q n])] = some ([intOp .neq .i64 (ck2 p.1 p.2.1 p.2.2).1 0 = some (.bool false), (p.2.2 = false → bl2 p.1 ∧ bl2 p.2.1)], .many [.fl (gf2 (jto F2 iv2 (rtm2 (wd2 p) n (lenF n) (lenF n)))), .im (.int .i64 0)]) := by kernel_rfl
noncomputable def rresM2 (p : G2N) (n : Nat) : Pt Q2 × Int := if (ck2 p.1 p.2.1 p.2.2).1 ≠ 0 then ((some (F2.zero, F2.zero)), (ck2 p.1 p.2.1 p.2.2).1) else (jto F2 iv2 (rtm2 (wd2 p) n (lenF n) (lenF n)), 0)
theorem rMul2_ok (p : G2N) (n : Nat) (args : List Value) (w : World) (ha : CAs w [.v (.fl (gq2 p)), .v (.fl [.q n])] args) : Good Tryz.prog 23 (.many [.fl (gf2 (rresM2 p n).1), .im (.int .i64 (rresM2 p n).2)]) args w := by
  unfold rresM2
  by_cases h1 : (ck2 p.1 p.2.1 p.2.2).1 = 0
  · rw [if_neg (fun h => h h1)]
    exact funB_sound hmix (fun _ s => ok_rrAdd2) (qG_ok Tryz.prog) Tryz.func23 (run_rMul2_b p n) ⟨neq_f h1, ck2_bl h1, trivial⟩ ha
  · rw [if_pos h1]
    exact funB_sound hmix (fun _ s => ok_rrAdd2) (qG_ok Tryz.prog) Tryz.func23 (run_rMul2_a p n) ⟨neq_t h1, trivial⟩ ha
noncomputable def T_rrMul2 : Tab := (T_rrAdd2).add 23 (g2 rg2 rq1 fun p n => ([], .many [.fl (gf2 (rresM2 p n).1), .im (.int .i64 (rresM2 p n).2)]))
theorem ok_rrMul2 : TabOk Tryz.prog T_rrMul2 := (ok_rrAdd2).add Tryz.func23 (by kernel_rfl) (by kernel_rfl) (g2_ok rg2_ok rq1_ok fun p n hp args w ha => rMul2_ok p n args w ha)
set_option maxRecDepth 100000 in
theorem run_rNeg2_atrue (x y : N2) : funB Tryz.prog (qG Tryz.prog) (fun _ => ⟨fun s => T_rrMul2, fun s => true, fun s => bif Nat.beq s 8 then some (.bool true) else bif Nat.beq s 14 then some (.bool false) else none⟩) Tryz.f25 60 [.v (.fl (gq2 (x, y, true)))] = some ([intOp .neq .i64 (ck2 x y true).1 0 = some (.bool true), intOp .eql .i64 (ck2 x y true).1 0 = some (.bool false)], .many [.fl (gf2 (some (F2.zero, F2.zero))), .im (.int .i64 (ck2 x y true).1)]) := by kernel_rfl
set_option maxRecDepth 100000 in
theorem run_rNeg2_afalse (x y : N2) : funB Tryz.prog (qG Tryz.prog) (fun _ => ⟨fun s => T_rrMul2, fun s => true, fun s => bif Nat.beq s 8 then some (.bool true) else bif Nat.beq s 14 then some (.bool false) else none⟩) Tryz.f25 60 [.v (.fl (gq2 (x, y, false)))] = some ([intOp .neq .i64 (ck2 x y false).1 0 = some (.bool true), intOp .eql .i64 (ck2 x y false).1 0 = some (.bool false)], .many [.fl (gf2 (some (F2.zero, F2.zero))), .im (.int .i64 (ck2 x y false).1)]) := by kernel_rfl
set_option maxRecDepth 100000 in
theorem run_rNeg2_b (x y : N2) : funB Tryz.prog (qG Tryz.prog) (fun _ => ⟨fun s => T_rrMul2, fun s => true, fun s => bif Nat.beq s 8 then some (.bool false) else bif Nat.beq s 14 then some (.bool true) else none⟩) Tryz.f25 60 [.v (.fl (gq2 (x, y, true)))] = some ([intOp .neq .i64 (ck2 x y true).1 0 = some (.bool false), intOp .eql .i64 (ck2 x y true).1 0 = some (.bool true)], .many [.fl (gf2 none), .im (.int .i64 (ck2 x y true).1)]) := by kernel_rfl
set_option maxRecDepth 100000 in
theorem run_rNeg2_c (x y : N2) : funB Tryz.prog (qG Tryz.prog) (fun _ => ⟨fun s => T_rrMul2, fun s => true, fun s => bif Nat.beq s 8 then some (.bool false) else none⟩) Tryz.f25 60 [.v (.fl (gq2 (x, y, false)))] = some ([intOp .neq .i64 (ck2 x y false).1 0 = some (.bool false)], .many [.fl (q2 x ++ (e2 (F2.sub F2.zero (m2 y)) ++ [.c (.bool false)])), .im (.int .i64 0)]) := by kernel_rfl
noncomputable def rresN2 (p : G2N) : Pt Q2 × Int := if (ck2 p.1 p.2.1 p.2.2).1 ≠ 0 then ((some (F2.zero, F2.zero)), (ck2 p.1 p.2.1 p.2.2).1) else (bif p.2.2 then none else some (m2 p.1, (F2.sub F2.zero (m2 p.2.1))), 0)
theorem rNeg2_ok (p : G2N) (args : List Value) (w : World) (ha : CAs w [.v (.fl (gq2 p))] args) : Good Tryz.prog 25 (.many [.fl (gf2 (rresN2 p).1), .im (.int .i64 (rresN2 p).2)]) args w := by
  obtain ⟨x, y, b⟩ := p
  by_cases h1 : (ck2 x y b).1 = 0
  · rw [show rresN2 (x, y, b) = (bif b then none else some (m2 x, (F2.sub F2.zero (m2 y))), 0) from if_neg (fun h => h h1)]
    cases b with
    | true =>
      have e : Good Tryz.prog 25 (.many [.fl (gf2 none), .im (.int .i64 (ck2 x y true).1)]) args w := funB_sound hmix (fun _ s => ok_rrMul2) (qG_ok Tryz.prog) Tryz.func25 (run_rNeg2_b x y) ⟨neq_f h1, eql_t h1, trivial⟩ ha
      rw [h1] at e
      exact e
    | false =>
      refine Good.congr (funB_sound hmix (fun _ s => ok_rrMul2) (qG_ok Tryz.prog) Tryz.func25 (run_rNeg2_c x y) ⟨neq_f h1, trivial⟩ ha) ?_
      obtain ⟨hx, hy⟩ := ck2_bl (p := (x, y, false)) h1 rfl
      have e : flat (q2 x ++ (e2 (F2.sub F2.zero (m2 y)) ++ [.c (.bool false)])) = flat (gf2 (some (m2 x, (F2.sub F2.zero (m2 y))))) := by
        rw [flat_append, bl_f2 hx]
        rfl
      show Value.tuple #[.agg (flat _).toArray, _] = .tuple #[.agg (flat _).toArray, _]
      rw [e]
      rfl
  · rw [show rresN2 (x, y, b) = ((some (F2.zero, F2.zero)), (ck2 x y b).1) from if_pos h1]
    cases b with
    | true => exact funB_sound hmix (fun _ s => ok_rrMul2) (qG_ok Tryz.prog) Tryz.func25 (run_rNeg2_atrue x y) ⟨neq_t h1, eql_f h1, trivial⟩ ha
    | false => exact funB_sound hmix (fun _ s => ok_rrMul2) (qG_ok Tryz.prog) Tryz.func25 (run_rNeg2_afalse x y) ⟨neq_t h1, eql_f h1, trivial⟩ ha
noncomputable def T_rrNeg2 : Tab := (T_rrMul2).add 25 (g1 rg2 fun p => ([], .many [.fl (gf2 (rresN2 p).1), .im (.int .i64 (rresN2 p).2)]))
theorem ok_rrNeg2 : TabOk Tryz.prog T_rrNeg2 := (ok_rrMul2).add Tryz.func25 (by kernel_rfl) (by kernel_rfl) (g1_ok rg2_ok fun p hp args w ha => rNeg2_ok p args w ha)
end Go.Proofs.YthlcjdcjnioeoaaGreat.Ex
