/-
  Roots in Fp2 in a table of calls. Conditions: none.
  The reference's root in Fp2. Conditions: none.
  The law TowerTwo answers true, whatever it is handed. Conditions: none.
-/
import Derived.Test.YtgacpjmggdmgdaaGreatTwRef
import Derived.Test.YtgacpjmggdmgdaaGreatTwTwo9
import Derived.Test.YtgacpjmggdmgdaaGreatRef19
import Derived.Test.YtgacpjmggdmgdaaGreatTwCyc9
import Derived.Test.YtgacpjmggdmgdaaGreatTwAll9
namespace Go.Proofs.YtgacpjmggdmgdaaGreat.Ex
set_option linter.unusedVariables false
set_option linter.unusedSimpArgs false
open Go.RowKit
set_option maxRecDepth 100000 in
theorem run_Add2 (c : Bool) (x : N2) (y : N2) : funA Tryz.prog (T_rInv6 c) qN (fun _ => true) Tryz.f11 40 [.v (.fl (q2 x)), .v (.fl (q2 y))] = some ([], .one (.fl (e2 (F2.add (m2 x) (m2 y))))) := by kernel_rfl
noncomputable def T_Add2 (c : Bool) : Tab := (T_rInv6 c).add 11 (g2 rv2 rv2 (fun x y => ([], .one (.fl (e2 (F2.add x y))))))
theorem ok_Add2 (c : Bool) : TabOk Tryz.prog (T_Add2 c) := (ok_rInv6 c).add Tryz.func11 (by kernel_rfl) (by kernel_rfl) (g2v_ok rv2_ok rv2_ok fun x y hp args w ha => fun_sound hmix (ok_rInv6 c) qN_ok Tryz.func11 (run_Add2 c x y) hp ha)
set_option maxRecDepth 100000 in
theorem run_Sub2 (c : Bool) (x : N2) (y : N2) : funA Tryz.prog (T_Add2 c) qN (fun _ => true) Tryz.f13 40 [.v (.fl (q2 x)), .v (.fl (q2 y))] = some ([], .one (.fl (e2 (F2.sub (m2 x) (m2 y))))) := by kernel_rfl
noncomputable def T_Sub2 (c : Bool) : Tab := (T_Add2 c).add 13 (g2 rv2 rv2 (fun x y => ([], .one (.fl (e2 (F2.sub x y))))))
theorem ok_Sub2 (c : Bool) : TabOk Tryz.prog (T_Sub2 c) := (ok_Add2 c).add Tryz.func13 (by kernel_rfl) (by kernel_rfl) (g2v_ok rv2_ok rv2_ok fun x y hp args w ha => fun_sound hmix (ok_Add2 c) qN_ok Tryz.func13 (run_Sub2 c x y) hp ha)
set_option maxRecDepth 100000 in
theorem run_Conj2 (c : Bool) (x : N2) : funA Tryz.prog (T_Sub2 c) qN (fun _ => true) Tryz.f19 40 [.v (.fl (q2 x))] = some ([], .one (.fl (e2 (conj2' (m2 x))))) := by kernel_rfl
noncomputable def T_Conj2 (c : Bool) : Tab := (T_Sub2 c).add 19 (g1 rv2 (fun x => ([], .one (.fl (e2 (conj2' x))))))
theorem ok_Conj2 (c : Bool) : TabOk Tryz.prog (T_Conj2 c) := (ok_Sub2 c).add Tryz.func19 (by kernel_rfl) (by kernel_rfl) (g1v_ok rv2_ok fun x hp args w ha => fun_sound hmix (ok_Sub2 c) qN_ok Tryz.func19 (run_Conj2 c x) hp ha)
set_option maxRecDepth 100000 in
theorem run_Xi2 (c : Bool) (x : N2) : funA Tryz.prog (T_Conj2 c) qN (fun _ => true) Tryz.f21 40 [.v (.fl (q2 x))] = some ([], .one (.fl (e2 (F2.mul (m2 x) xiE)))) := by kernel_rfl
noncomputable def T_Xi2 (c : Bool) : Tab := (T_Conj2 c).add 21 (g1 rv2 (fun x => ([], .one (.fl (e2 (F2.mul x xiE))))))
theorem ok_Xi2 (c : Bool) : TabOk Tryz.prog (T_Xi2 c) := (ok_Conj2 c).add Tryz.func21 (by kernel_rfl) (by kernel_rfl) (g1v_ok rv2_ok fun x hp args w ha => fun_sound hmix (ok_Conj2 c) qN_ok Tryz.func21 (run_Xi2 c x) hp ha)

theorem args3 {x : Value} {l m : List At} {args : List Value} {w : World} (h : CAs w [.v (.im x), .v (.fl l), .v (.fl m)] args) : args = [x, .agg (flat l).toArray, .agg (flat m).toArray] := by
  match args, h with
  | [v, u, s], h => rw [show v = _ from h.1, show u = _ from h.2.1, show s = _ from h.2.2.1]; rfl
  | [], h => exact h.elim
  | [_], h => exact h.2.elim
  | [_, _], h => exact h.2.2.elim
  | _ :: _ :: _ :: _ :: _, h => exact h.2.2.2.elim
theorem argsI {x : Value} {l : List At} {args : List Value} {w : World} (h : CAs w [.v (.im x), .v (.fl l)] args) : args = [x, .agg (flat l).toArray] := by
  match args, h with
  | [v, u], h => rw [show v = _ from h.1, show u = _ from h.2.1]; rfl
  | [], h => exact h.elim
  | [_], h => exact h.2.elim
  | _ :: _ :: _ :: _, h => exact h.2.2.elim
noncomputable def gDivP : Ent
  | [.v (.im (.int .i64 (.ofNat 1))), .v (.fl l), .v (.fl m)] => match rd1 l, rd1 m with
    | some a, some b => some ([b ≠ F1.zero], .many [.fl (e1 (F1.mul a (finv b))), .im (.int .i64 0)])
    | _, _ => none
  | _ => none
theorem divP_ok : ∀ cs pre r, gDivP cs = some (pre, r) → allP pre → ∀ (args : List Value) (w : World), CAs w cs args → Good Tryz.prog 96 r args w := by
  intro cs pre r hg hp args w ha
  unfold gDivP at hg
  split at hg
  · rename_i l m
    split at hg
    · rename_i a b h1 h2
      cases hg
      have hz : b ≠ F1.zero := hp.1
      have hz' : b.1 ≠ 0 := fun e => hz (Fin.ext e)
      rw [args3 ha, rd1_ok l _ h1, rd1_ok m _ h2]
      refine (fdiv_ok 1 FP fld1 _ _ _ _ _ _ _ _ (fw_ok a.1) (fw_ok b.1) (by rw [fw_valp a.2]; exact a.2) (by rw [fw_valp b.2]; exact b.2) (by rw [fw_valp b.2]; exact hz') w).mono ?_
      rintro e w' ⟨s0, s1, s2, s3, rfl, hs, hv, hb⟩
      have hf := finv_val b
      rw [Nat.one_mul] at hf
      have hv' : val4 s0 s1 s2 s3 = (F1.mul a (finv b)).1 := by
        rw [hv, fw_valp a.2, fw_valp b.2]
        show _ = a.1 * (finv b).1 % FP.M
        rw [hf, Nat.mul_mod_mod]
      obtain ⟨rfl, rfl, rfl, rfl⟩ := fw_of hs (fp_lt (F1.mul a (finv b)).2) hv'
      exact ⟨rfl, hb⟩
    · cases hg
  · cases hg
def gLowP : Ent
  | [.v (.im (.int .i64 (.ofNat 1))), .v (.fl l)] => match rd1 l with
    | some x => some ([], .many [.im (.bool (lowF x)), .im (.int .i64 0)])
    | none => none
  | _ => none
theorem lowP_ok : ∀ cs pre r, gLowP cs = some (pre, r) → allP pre → ∀ (args : List Value) (w : World), CAs w cs args → Good Tryz.prog 97 r args w := by
  intro cs pre r hg hp args w ha
  unfold gLowP at hg
  split at hg
  · rename_i l
    split at hg
    · rename_i x h1
      cases hg
      rw [argsI ha, rd1_ok l _ h1]
      refine (flower_ok 1 FP fld1 _ _ _ _ (fw_ok x.1) (by rw [fw_valp x.2]; exact x.2) w).mono ?_
      rintro e w' ⟨rfl, hb⟩
      refine ⟨?_, hb⟩
      rw [fw_valp x.2]
      rfl
    · cases hg
  · cases hg
def gCmp : Ent
  | [.v (.fl l), .v (.fl m)] => match rq1 l, rq1 m with
    | some a, some b => some ([], .one (.im (.int .i64 (Go.Proofs.YtgacpjmggdmgdaaGreat.cmpN (wv a) (wv b)))))
    | _, _ => none
  | _ => none
theorem cmp_ok : ∀ cs pre r, gCmp cs = some (pre, r) → allP pre → ∀ (args : List Value) (w : World), CAs w cs args → Good Tryz.prog 103 r args w := by
  intro cs pre r hg hp args w ha
  unfold gCmp at hg
  split at hg
  · rename_i l m
    split at hg
    · rename_i a b h1 h2
      cases hg
      rw [args2 ha, rq1_ok l _ h1, rq1_ok m _ h2]
      exact (R1.refCmp_calls _ _ _ _ _ _ _ _ (fw_ok a) (fw_ok b) w).mono fun e w' h => h
    · cases hg
  · cases hg

noncomputable def T_fDiv (c : Bool) : Tab := (T_Xi2 c).add 96 gDivP
theorem ok_fDiv (c : Bool) : TabOk Tryz.prog (T_fDiv c) := (ok_Xi2 c).add Tryz.func96 (by kernel_rfl) (by kernel_rfl) divP_ok
noncomputable def T_fLower (c : Bool) : Tab := (T_fDiv c).add 97 gLowP
theorem ok_fLower (c : Bool) : TabOk Tryz.prog (T_fLower c) := (ok_fDiv c).add Tryz.func97 (by kernel_rfl) (by kernel_rfl) lowP_ok
noncomputable def T_r1Cmp (c : Bool) : Tab := (T_fLower c).add 103 gCmp
theorem ok_r1Cmp (c : Bool) : TabOk Tryz.prog (T_r1Cmp c) := (ok_fLower c).add Tryz.func103 (by kernel_rfl) (by kernel_rfl) cmp_ok
theorem cmp_lss (a b : Nat) : intOp .lss .i64 (Go.Proofs.YtgacpjmggdmgdaaGreat.cmpN a b) 0 = some (.bool (decide (a < b))) := by
  unfold Go.Proofs.YtgacpjmggdmgdaaGreat.cmpN
  by_cases h : a = b
  · rw [if_pos h, decide_eq_false (by omega)]; rfl
  · rw [if_neg h]
    by_cases h2 : a < b
    · rw [if_pos h2, decide_eq_true h2]; rfl
    · rw [if_neg h2, decide_eq_false h2]; rfl
theorem cmp_eql (a b : Nat) : intOp .eql .i64 (Go.Proofs.YtgacpjmggdmgdaaGreat.cmpN a b) 0 = some (.bool (decide (a = b))) := by
  unfold Go.Proofs.YtgacpjmggdmgdaaGreat.cmpN
  by_cases h : a = b
  · rw [if_pos h, decide_eq_true h]; rfl
  · rw [if_neg h, decide_eq_false h]; split <;> rfl
theorem cmp_leq (a b : Nat) : intOp .leq .i64 (Go.Proofs.YtgacpjmggdmgdaaGreat.cmpN a b) 0 = some (.bool (decide (a ≤ b))) := by
  unfold Go.Proofs.YtgacpjmggdmgdaaGreat.cmpN
  by_cases h : a = b
  · rw [if_pos h, decide_eq_true (by omega)]; rfl
  · rw [if_neg h]
    by_cases h2 : a < b
    · rw [if_pos h2, decide_eq_true (by omega)]; rfl
    · rw [if_neg h2, decide_eq_false (by omega)]; rfl
set_option maxRecDepth 100000 in
theorem run_rlower_1 (c : Bool) (x y : Q2) : funB Tryz.prog qN (fun _ => ⟨fun _ => T_r1Cmp c, fun _ => true, fun s => bif Nat.beq s 12 then some (.bool true) else bif Nat.beq s 15 then some (.bool false) else bif Nat.beq s 22 then some (.bool false) else none⟩) Tryz.f52 60 [.v (.fl (e2 x)), .v (.fl (e2 y))] = some ([intOp .lss .i64 (Go.Proofs.YtgacpjmggdmgdaaGreat.cmpN (wv x.2.1) (wv y.2.1)) 0 = some (.bool true)], .one (.im (.bool true))) := by kernel_rfl
set_option maxRecDepth 100000 in
theorem run_rlower_2 (c : Bool) (x y : Q2) : funB Tryz.prog qN (fun _ => ⟨fun _ => T_r1Cmp c, fun _ => true, fun s => bif Nat.beq s 12 then some (.bool false) else bif Nat.beq s 15 then some (.bool false) else bif Nat.beq s 22 then some (.bool false) else none⟩) Tryz.f52 60 [.v (.fl (e2 x)), .v (.fl (e2 y))] = some ([intOp .lss .i64 (Go.Proofs.YtgacpjmggdmgdaaGreat.cmpN (wv x.2.1) (wv y.2.1)) 0 = some (.bool false), intOp .eql .i64 (Go.Proofs.YtgacpjmggdmgdaaGreat.cmpN (wv x.2.1) (wv y.2.1)) 0 = some (.bool false)], .one (.im (.bool false))) := by kernel_rfl
set_option maxRecDepth 100000 in
theorem run_rlower_3 (c b : Bool) (x y : Q2) : funB Tryz.prog qN (fun _ => ⟨fun _ => T_r1Cmp c, fun _ => true, fun s => bif Nat.beq s 12 then some (.bool false) else bif Nat.beq s 15 then some (.bool true) else bif Nat.beq s 22 then some (.bool b) else none⟩) Tryz.f52 60 [.v (.fl (e2 x)), .v (.fl (e2 y))] = some ([intOp .lss .i64 (Go.Proofs.YtgacpjmggdmgdaaGreat.cmpN (wv x.2.1) (wv y.2.1)) 0 = some (.bool false), intOp .eql .i64 (Go.Proofs.YtgacpjmggdmgdaaGreat.cmpN (wv x.2.1) (wv y.2.1)) 0 = some (.bool true), intOp .leq .i64 (Go.Proofs.YtgacpjmggdmgdaaGreat.cmpN (wv x.1.1) (wv y.1.1)) 0 = some (.bool b)], .one (.im (.bool b))) := by kernel_rfl
theorem wv_f (x : Fq) : wv x.1 = x.1 := fw_valp x.2
theorem lowR_calls (c : Bool) (x y : Q2) (args : List Value) (w : World) (ha : CAs w [.v (.fl (e2 x)), .v (.fl (e2 y))] args) : Good Tryz.prog 52 (.one (.im (.bool (lowR x y)))) args w := by
  unfold lowR
  by_cases h : x.2.1 < y.2.1
  · rw [decide_eq_true h, Bool.true_or]
    exact funB_sound hmix (fun _ _ => ok_r1Cmp c) qN_ok Tryz.func52 (run_rlower_1 c x y) ⟨by rw [wv_f, wv_f, cmp_lss, decide_eq_true h], trivial⟩ ha
  · rw [decide_eq_false h, Bool.false_or]
    by_cases h2 : x.2.1 = y.2.1
    · rw [decide_eq_true h2, Bool.true_and]
      exact funB_sound hmix (fun _ _ => ok_r1Cmp c) qN_ok Tryz.func52 (run_rlower_3 c _ x y) ⟨by rw [wv_f, wv_f, cmp_lss, decide_eq_false h], by rw [wv_f, wv_f, cmp_eql, decide_eq_true h2], by rw [wv_f, wv_f, cmp_leq], trivial⟩ ha
    · rw [decide_eq_false h2, Bool.false_and]
      exact funB_sound hmix (fun _ _ => ok_r1Cmp c) qN_ok Tryz.func52 (run_rlower_2 c x y) ⟨by rw [wv_f, wv_f, cmp_lss, decide_eq_false h], by rw [wv_f, wv_f, cmp_eql, decide_eq_false h2], trivial⟩ ha
/-- b: how it comes out -/
def gLowR (b : Bool) : Ent
  | [.v (.fl l), .v (.fl m)] => match rd2 l, rd2 m with
    | some x, some y => some ([lowR x y = b], .one (.im (.bool b)))
    | _, _ => none
  | _ => none
theorem gLowR_ok (c b : Bool) : ∀ cs pre r, gLowR b cs = some (pre, r) → allP pre → ∀ (args : List Value) (w : World), CAs w cs args → Good Tryz.prog 52 r args w := by
  intro cs pre r hg hp args w ha
  unfold gLowR at hg
  split at hg
  · rename_i l m
    split at hg
    · rename_i x y h1 h2
      cases hg
      have e : lowR x y = b := hp.1
      subst e
      refine lowR_calls c x y args w ?_
      rw [args2 ha, rd2_ok l _ h1, rd2_ok m _ h2]
      exact ⟨rfl, rfl, trivial⟩
    · cases hg
  · cases hg
/-- the roots in Fp: d: that there is one -/
noncomputable def gSq (d : Bool) : Ent
  | [.v (.im (.int .i64 (.ofNat 1))), .v (.fl l)] => match rd1 l with
    | some x => bif d then some ([isq x], .many [.fl (e1 (fsq x)), .im (.int .i64 0)]) else some ([¬ isq x], .many [.fl (e1 F1.zero), .im (.int .i64 23)])
    | none => none
  | _ => none
theorem isq_pow {x : Fq} (h : isq x) : x.1 ^ (FP.M / 2) % FP.M = 1 ∨ x.1 = 0 := by
  rw [isq_leg] at h
  unfold legN at h
  by_cases h0 : x.1 = 0
  · exact Or.inr h0
  · rw [if_neg h0] at h
    by_cases h1 : x.1 ^ (FP.M / 2) % FP.M = 1
    · exact Or.inl h1
    · rw [if_neg h1] at h; exact absurd rfl h
theorem nsq_pow {x : Fq} (h : ¬ isq x) : x.1 ≠ 0 ∧ x.1 ^ (FP.M / 2) % FP.M ≠ 1 := by
  rw [not_isq] at h
  unfold legN at h
  by_cases h0 : x.1 = 0
  · rw [if_pos h0] at h; exact absurd h (by decide)
  · rw [if_neg h0] at h
    refine ⟨h0, fun e => ?_⟩
    rw [if_pos e] at h
    exact absurd h (by decide)
theorem fsqrt_a (x : Fq) (h : isq x) (w : World) : Calls Tryz.prog 90 #[.int .i64 1, .agg (flat (e1 x)).toArray] w (fun e w' => e = .returned (RV.many [.fl (e1 (fsq x)), .im (.int .i64 0)]).den ∧ Below w.heap.size w w') := by
  have hx : val4 (fw x.1 0) (fw x.1 1) (fw x.1 2) (fw x.1 3) = x.1 := fw_valp x.2
  by_cases h0 : x.1 = 0
  · refine (fsqrt0_ok 1 FP fld1 _ _ _ _ (fw_ok x.1) (by rw [hx]; exact x.2) (by rw [hx]; exact h0) w).mono ?_
    rintro e w' ⟨s0, s1, s2, s3, rfl, hs, hv, hb⟩
    rw [f1_zero h0, fsq_zero]
    obtain ⟨rfl, rfl, rfl, rfl⟩ := fw_of hs (fp_lt fp_pos) hv
    exact ⟨rfl, hb⟩
  · refine (fsqrt_yes_ok 1 FP fld1 _ _ _ _ (fw_ok x.1) (by rw [hx]; exact x.2) (by rw [hx]; exact h0) (by rw [hx]; exact (isq_pow h).resolve_right h0) w).mono ?_
    rintro e w' ⟨V, ⟨s0, s1, s2, s3, rfl, hs, hv, hb⟩, h1, h2, h3⟩
    rw [hx] at h1
    have e1 : fsq x = ⟨V, h2⟩ := fsq_uniq (Fin.ext h1) h3
    rw [e1]
    obtain ⟨rfl, rfl, rfl, rfl⟩ := fw_of hs (fp_lt h2) hv
    exact ⟨rfl, hb⟩
theorem fsqrt_b (x : Fq) (h : ¬ isq x) (w : World) : Calls Tryz.prog 90 #[.int .i64 1, .agg (flat (e1 x)).toArray] w (fun e w' => e = .returned (RV.many [.fl (e1 F1.zero), .im (.int .i64 23)]).den ∧ Below w.heap.size w w') := by
  have hx : val4 (fw x.1 0) (fw x.1 1) (fw x.1 2) (fw x.1 3) = x.1 := fw_valp x.2
  obtain ⟨h0, h1⟩ := nsq_pow h
  refine (fsqrt_no_ok 1 FP fld1 _ _ _ _ (fw_ok x.1) (by rw [hx]; exact x.2) (by rw [hx]; exact h0) (by rw [hx]; exact h1) w).mono ?_
  rintro e w' ⟨s0, s1, s2, s3, rfl, hs, hv, hb⟩
  obtain ⟨rfl, rfl, rfl, rfl⟩ := fw_of hs (fp_lt fp_pos) hv
  exact ⟨rfl, hb⟩
theorem rsqrt_a (x : Fq) (h : isq x) (w : World) : Calls Tryz.prog 50 #[.int .i64 1, .agg (flat (e1 x)).toArray] w (fun e w' => e = .returned (RV.many [.fl (e1 (fsq x)), .im (.int .i64 0)]).den ∧ Below w.heap.size w w') := by
  have hx : val4 (fw x.1 0) (fw x.1 1) (fw x.1 2) (fw x.1 3) = x.1 := fw_valp x.2
  refine (rsqrtP_yes _ _ _ _ (fw_ok x.1) (by rw [hx]; exact x.2) (by rw [hx]; exact isq_pow h) w).mono ?_
  rintro e w' ⟨s0, s1, s2, s3, rfl, hs, h1, h2, h3, hb⟩
  rw [hx] at h1
  have e1 : fsq x = ⟨val4 s0 s1 s2 s3, h2⟩ := fsq_uniq (Fin.ext h1) h3
  rw [e1]
  obtain ⟨e0, e1, e2, e3⟩ := fw_of hs (fp_lt h2) rfl
  refine ⟨?_, hb⟩
  show Ending.returned (.tuple #[.agg #[.int .u64 s0, .int .u64 s1, .int .u64 s2, .int .u64 s3], .int .i64 0]) = .returned (.tuple #[.agg (w4 (val4 s0 s1 s2 s3)).toArray, .int .i64 0])
  unfold w4
  rw [← e0, ← e1, ← e2, ← e3]
theorem rsqrt_b (x : Fq) (h : ¬ isq x) (w : World) : Calls Tryz.prog 50 #[.int .i64 1, .agg (flat (e1 x)).toArray] w (fun e w' => e = .returned (RV.many [.fl (e1 F1.zero), .im (.int .i64 23)]).den ∧ Below w.heap.size w w') := by
  have hx : val4 (fw x.1 0) (fw x.1 1) (fw x.1 2) (fw x.1 3) = x.1 := fw_valp x.2
  obtain ⟨h0, h1⟩ := nsq_pow h
  have hz : x.1 ^ (FP.M / 2) % FP.M ≠ 0 := fun e => by
    have := half_pow fpRoot (by decide) (by decide) (show 0 < x.1 by omega) x.2
    have := hM
    omega
  refine (rsqrt_no 1 FP fld1 _ _ _ _ (fw_ok x.1) (by rw [hx]; unfold legV; rw [if_neg hz, if_neg h1]) w).mono ?_
  rintro e w' ⟨s0, s1, s2, s3, rfl, hs, hv, hb⟩
  obtain ⟨rfl, rfl, rfl, rfl⟩ := fw_of hs (fp_lt fp_pos) hv
  exact ⟨rfl, hb⟩
theorem gSq_ok {f : FuncId} (hA : ∀ x : Fq, isq x → ∀ w, Calls Tryz.prog f #[.int .i64 1, .agg (flat (e1 x)).toArray] w (fun e w' => e = .returned (RV.many [.fl (e1 (fsq x)), .im (.int .i64 0)]).den ∧ Below w.heap.size w w')) (hN : ∀ x : Fq, ¬ isq x → ∀ w, Calls Tryz.prog f #[.int .i64 1, .agg (flat (e1 x)).toArray] w (fun e w' => e = .returned (RV.many [.fl (e1 F1.zero), .im (.int .i64 23)]).den ∧ Below w.heap.size w w')) (d : Bool) :
    ∀ cs pre r, gSq d cs = some (pre, r) → allP pre → ∀ (args : List Value) (w : World), CAs w cs args → Good Tryz.prog f r args w := by
  intro cs pre r hg hp args w ha
  unfold gSq at hg
  split at hg
  · rename_i l
    split at hg
    · rename_i x h1
      cases d
      · cases hg
        rw [argsI ha, rd1_ok l _ h1]
        exact hN x hp.1 w
      · cases hg
        rw [argsI ha, rd1_ok l _ h1]
        exact hA x hp.1 w
    · cases hg
  · cases hg
/-- c: inverses; d: roots; b: which is lower -/
noncomputable def T_q (c d b : Bool) : Tab := (((T_r1Cmp c).add 52 (gLowR b)).add 90 (gSq d)).add 50 (gSq d)
theorem ok_q (c d b : Bool) : TabOk Tryz.prog (T_q c d b) := (((ok_r1Cmp c).add Tryz.func52 (by kernel_rfl) (by kernel_rfl) (gLowR_ok c b)).add Tryz.func90 (by kernel_rfl) (by kernel_rfl) (gSq_ok fsqrt_a fsqrt_b d)).add Tryz.func50 (by kernel_rfl) (by kernel_rfl) (gSq_ok rsqrt_a rsqrt_b d)
set_option maxRecDepth 100000 in
theorem run_part_1 (x : Fq) : funB Tryz.prog (qG Tryz.prog) (fun m => ⟨fun s => T_q true (true) false, fun s => true, fun s => none⟩) Tryz.f48 60 [.v (.fl (e1 x))] = some ([isq x], .one (.fl (e2 (fsq x, F1.zero)))) := by kernel_rfl
set_option maxRecDepth 100000 in
theorem run_part_0 (x : Fq) : funB Tryz.prog (qG Tryz.prog) (fun m => ⟨fun s => T_q true (bif Nat.beq s 7 then false else true) false, fun s => true, fun s => none⟩) Tryz.f48 60 [.v (.fl (e1 x))] = some ([¬ isq x, isq (F1.neg x)], .one (.fl (e2 (F1.zero, fsq (F1.neg x))))) := by kernel_rfl
theorem part_calls (x : Fq) (args : List Value) (w : World) (ha : CAs w [.v (.fl (e1 x))] args) : Good Tryz.prog 48 (.one (.fl (e2 (rt (x, F1.zero))))) args w := by
  by_cases h : isq x
  · rw [(rt_part x).1 h]
    exact funB_sound hmix (fun _ _ => ok_q _ _ _) (qG_ok _) Tryz.func48 (run_part_1 x) ⟨h, trivial⟩ ha
  · rw [(rt_part x).2.1 h]
    exact funB_sound hmix (fun _ _ => ok_q _ _ _) (qG_ok _) Tryz.func48 (run_part_0 x) ⟨h, isq_neg h, trivial⟩ ha
set_option maxRecDepth 100000 in
theorem run_root_n (x : Q2) : funB Tryz.prog (qG Tryz.prog) (fun m => ⟨fun s => T_q true (bif Nat.beq s 17 then false else true) false, fun s => true, fun s => none⟩) Tryz.f49 60 [.v (.fl (e2 x))] = some ([¬ isq (nm2 x)], .many [.fl (e2 F2.zero), .im (.int .i64 23)]) := by kernel_rfl
set_option maxRecDepth 100000 in
theorem run_root_a1 (x : Q2) : funB Tryz.prog (qG Tryz.prog) (fun m => ⟨fun s => T_q true (true) false, fun s => true, fun s => bif Nat.beq s 69 then some (.bool false) else none⟩) Tryz.f49 60 [.v (.fl (e2 x))] = some ([isq (nm2 x), fm 2 ≠ F1.zero, isq (sA x), fsq (sA x) ≠ F1.zero, Value.bool (!(lowF (rr x (sA x)).2)) = .bool false], .many [.fl (e2 (rr x (sA x))), .im (.int .i64 0)]) := by kernel_rfl
set_option maxRecDepth 100000 in
theorem run_root_a0 (x : Q2) : funB Tryz.prog (qG Tryz.prog) (fun m => ⟨fun s => T_q true (true) false, fun s => true, fun s => bif Nat.beq s 69 then some (.bool true) else none⟩) Tryz.f49 60 [.v (.fl (e2 x))] = some ([isq (nm2 x), fm 2 ≠ F1.zero, isq (sA x), fsq (sA x) ≠ F1.zero, Value.bool (!(lowF (rr x (sA x)).2)) = .bool true], .many [.fl (e2 (F2.sub F2.zero (rr x (sA x)))), .im (.int .i64 0)]) := by kernel_rfl
set_option maxRecDepth 100000 in
theorem run_root_b1 (x : Q2) : funB Tryz.prog (qG Tryz.prog) (fun m => ⟨fun s => T_q true (bif Nat.beq s 36 then false else true) false, fun s => true, fun s => bif Nat.beq s 69 then some (.bool false) else none⟩) Tryz.f49 60 [.v (.fl (e2 x))] = some ([isq (nm2 x), fm 2 ≠ F1.zero, ¬ isq (sA x), isq (sB x), fsq (sB x) ≠ F1.zero, Value.bool (!(lowF (rr x (sB x)).2)) = .bool false], .many [.fl (e2 (rr x (sB x))), .im (.int .i64 0)]) := by kernel_rfl
set_option maxRecDepth 100000 in
theorem run_root_b0 (x : Q2) : funB Tryz.prog (qG Tryz.prog) (fun m => ⟨fun s => T_q true (bif Nat.beq s 36 then false else true) false, fun s => true, fun s => bif Nat.beq s 69 then some (.bool true) else none⟩) Tryz.f49 60 [.v (.fl (e2 x))] = some ([isq (nm2 x), fm 2 ≠ F1.zero, ¬ isq (sA x), isq (sB x), fsq (sB x) ≠ F1.zero, Value.bool (!(lowF (rr x (sB x)).2)) = .bool true], .many [.fl (e2 (F2.sub F2.zero (rr x (sB x)))), .im (.int .i64 0)]) := by kernel_rfl
noncomputable def oRoot (d : Bool) (x : Q2) : List Prop × RV := bif d then ([x.2 ≠ F1.zero, isq2 x], .many [.fl (e2 (rt x)), .im (.int .i64 0)]) else ([x.2 ≠ F1.zero, ¬ isq2 x], .many [.fl (e2 F2.zero), .im (.int .i64 23)])
theorem root_calls (d : Bool) (x : Q2) (hp : allP (oRoot d x).1) (args : List Value) (w : World) (ha : CAs w [.v (.fl (e2 x))] args) : Good Tryz.prog 49 (oRoot d x).2 args w := by
  cases d
  · obtain ⟨hx, hn, _⟩ := hp
    rw [isq2_iff hx] at hn
    exact funB_sound hmix (fun _ _ => ok_q _ _ _) (qG_ok _) Tryz.func49 (run_root_n x) ⟨hn, trivial⟩ ha
  · obtain ⟨hx, hn, _⟩ := hp
    rw [isq2_iff hx] at hn
    show Good _ _ (.many [.fl (e2 (rt x)), .im (.int .i64 0)]) _ _
    by_cases hs : isq (sA x)
    · obtain ⟨hr, n1⟩ := rr_a hx hn hs
      have hr2 := rr2 hx hr
      cases hl : lowF (rr x (sA x)).2
      · rw [(rt_low hr hr2).2 hl, ← zsub2]
        exact funB_sound hmix (fun _ _ => ok_q _ _ _) (qG_ok _) Tryz.func49 (run_root_a0 x) ⟨hn, two_ne, hs, fsq_nz hs n1, by rw [hl]; rfl, trivial⟩ ha
      · rw [(rt_low hr hr2).1 hl]
        exact funB_sound hmix (fun _ _ => ok_q _ _ _) (qG_ok _) Tryz.func49 (run_root_a1 x) ⟨hn, two_ne, hs, fsq_nz hs n1, by rw [hl]; rfl, trivial⟩ ha
    · obtain ⟨hr, hq, hz⟩ := rr_b hx hn hs
      have hr2 := rr2 hx hr
      cases hl : lowF (rr x (sB x)).2
      · rw [(rt_low hr hr2).2 hl, ← zsub2]
        exact funB_sound hmix (fun _ _ => ok_q _ _ _) (qG_ok _) Tryz.func49 (run_root_b0 x) ⟨hn, two_ne, hs, hq, fsq_nz hq hz, by rw [hl]; rfl, trivial⟩ ha
      · rw [(rt_low hr hr2).1 hl]
        exact funB_sound hmix (fun _ _ => ok_q _ _ _) (qG_ok _) Tryz.func49 (run_root_b1 x) ⟨hn, two_ne, hs, hq, fsq_nz hq hz, by rw [hl]; rfl, trivial⟩ ha
noncomputable def T_r (d : Bool) : Tab := ((T_q true true true).add 48 (g1 rd1 fun x => ([], .one (.fl (e2 (rt (x, F1.zero))))))).add 49 (g1 rd2 (oRoot d))
theorem ok_r (d : Bool) : TabOk Tryz.prog (T_r d) := ((ok_q true true true).add Tryz.func48 (by kernel_rfl) (by kernel_rfl) (g1_ok rd1_ok fun x _ args w ha => part_calls x args w ha)).add Tryz.func49 (by kernel_rfl) (by kernel_rfl) (g1_ok rd2_ok (root_calls d))
set_option maxRecDepth 100000 in
theorem run_S_p (x : N2) : funB Tryz.prog (qG Tryz.prog) (fun _ => ⟨fun _ => T_r true, fun s => bif Nat.beq s 12 then true else true, fun _ => none⟩) Tryz.f9 60 [.v (.fl (q2 x))] = some ([flat [.f (m2 x).2] = flat [.f F1.zero]], .many [.fl (e2 (rt ((m2 x).1, F1.zero))), .im (.int .i64 0)]) := by kernel_rfl
set_option maxRecDepth 100000 in
theorem run_S_1 (x : N2) : funB Tryz.prog (qG Tryz.prog) (fun _ => ⟨fun _ => T_r true, fun s => bif Nat.beq s 12 then false else true, fun _ => none⟩) Tryz.f9 60 [.v (.fl (q2 x))] = some ([flat [.f (m2 x).2] ≠ flat [.f F1.zero], (m2 x).2 ≠ F1.zero, isq2 (m2 x)], .many [.fl (e2 (rt (m2 x))), .im (.int .i64 0)]) := by kernel_rfl
set_option maxRecDepth 100000 in
theorem run_S_0 (x : N2) : funB Tryz.prog (qG Tryz.prog) (fun _ => ⟨fun _ => T_r false, fun s => bif Nat.beq s 12 then false else true, fun _ => none⟩) Tryz.f9 60 [.v (.fl (q2 x))] = some ([flat [.f (m2 x).2] ≠ flat [.f F1.zero], (m2 x).2 ≠ F1.zero, ¬ isq2 (m2 x)], .many [.fl (e2 F2.zero), .im (.int .i64 23)]) := by kernel_rfl
noncomputable def oS2 (d : Bool) (x : Q2) : List Prop × RV := bif d then ([isq2 x], .many [.fl (e2 (rt x)), .im (.int .i64 0)]) else ([¬ isq2 x], .many [.fl (e2 F2.zero), .im (.int .i64 23)])
theorem S2_calls (d : Bool) (x : N2) (hp : allP (oS2 d (m2 x)).1) (args : List Value) (w : World) (ha : CAs w [.v (.fl (q2 x))] args) : Good Tryz.prog 9 (oS2 d (m2 x)).2 args w := by
  by_cases hx : (m2 x).2 = F1.zero
  · have e : m2 x = ((m2 x).1, F1.zero) := Prod.ext rfl hx
    cases d
    · exact absurd (by rw [e]; exact (rt_part _).2.2) (show ¬ isq2 (m2 x) from hp.1)
    · show Good _ _ (.many [.fl (e2 (rt (m2 x))), .im (.int .i64 0)]) _ _
      rw [e]
      exact funB_sound hmix (fun _ _ => ok_r _) (qG_ok _) Tryz.func9 (run_S_p x) ⟨by rw [hx], trivial⟩ ha
  · cases d
    · exact funB_sound hmix (fun _ _ => ok_r _) (qG_ok _) Tryz.func9 (run_S_0 x) ⟨fun h => hx (e1_inj h), hx, hp.1, trivial⟩ ha
    · exact funB_sound hmix (fun _ _ => ok_r _) (qG_ok _) Tryz.func9 (run_S_1 x) ⟨fun h => hx (e1_inj h), hx, hp.1, trivial⟩ ha
end Go.Proofs.YtgacpjmggdmgdaaGreat.Ex
namespace Go.Proofs.YtgacpjmggdmgdaaGreat.Ex
set_option linter.unusedVariables false
set_option linter.unusedSimpArgs false
open Go.RowKit
noncomputable def sC (y : Q2) : Fq := F1.mul (F1.add y.1 (F1.sub F1.zero (fsq (nm2 y)))) hf
noncomputable def zC (y : Q2) : Q2 := (F1.zero, fsq (F1.sub F1.zero y.1))
noncomputable def RB (y : Q2) (s : Fq) : Q2 := (fsq s, F1.mul y.2 (finv (F1.add (fsq s) (fsq s))))
theorem sC_eq (y : Q2) : sC y = sB y := by unfold sC; rw [sub_z]; rfl
theorem zC_eq (y : Q2) : zC y = zr y := by unfold zC; rw [sub_z]; rfl
theorem RB_eq {y : Q2} {s : Fq} (h : fsq s ≠ F1.zero) : RB y s = rr y s := RB_rr h
set_option maxRecDepth 100000 in
theorem run_R_n (x : N2) : funB Tryz.prog (qG Tryz.prog) (fun m => ⟨fun s => T_q true (bif Nat.beq s 32 then false else true) false, fun s => true, fun s => none⟩) Tryz.f10 60 [.v (.fl (q2 x))] = some ([¬ isq (nm2 (F2.sub (m2 x) F2.zero))], .many [.fl (e2 F2.zero), .im (.int .i64 23)]) := by kernel_rfl
set_option maxRecDepth 100000 in
theorem run_R_at (x : N2) : funB Tryz.prog (qG Tryz.prog) (fun m => ⟨fun s => T_q true (true) true, fun s => bif Nat.beq s 67 then false else true, fun s => none⟩) Tryz.f10 60 [.v (.fl (q2 x))] = some ([isq (nm2 (F2.sub (m2 x) F2.zero)), fm 2 ≠ F1.zero, isq (sA (F2.sub (m2 x) F2.zero)), flat [.f (fsq (sA (F2.sub (m2 x) F2.zero)))] ≠ flat [.f F1.zero], F1.add (fsq (sA (F2.sub (m2 x) F2.zero))) (fsq (sA (F2.sub (m2 x) F2.zero))) ≠ F1.zero, flat (e2 (F2.mul (RB (F2.sub (m2 x) F2.zero) (sA (F2.sub (m2 x) F2.zero))) (RB (F2.sub (m2 x) F2.zero) (sA (F2.sub (m2 x) F2.zero))))) = flat (e2 (F2.sub (m2 x) F2.zero)), lowR (RB (F2.sub (m2 x) F2.zero) (sA (F2.sub (m2 x) F2.zero))) (F2.sub F2.zero (RB (F2.sub (m2 x) F2.zero) (sA (F2.sub (m2 x) F2.zero)))) = true], .many [.fl (e2 (RB (F2.sub (m2 x) F2.zero) (sA (F2.sub (m2 x) F2.zero)))), .im (.int .i64 0)]) := by kernel_rfl
set_option maxRecDepth 100000 in
theorem run_R_bt (x : N2) : funB Tryz.prog (qG Tryz.prog) (fun m => ⟨fun s => T_q true (bif Nat.beq s 58 && Nat.beq m 44 then false else true) true, fun s => bif Nat.beq s 67 then false else true, fun s => none⟩) Tryz.f10 60 [.v (.fl (q2 x))] = some ([isq (nm2 (F2.sub (m2 x) F2.zero)), fm 2 ≠ F1.zero, ¬ isq (sA (F2.sub (m2 x) F2.zero)), isq (sC (F2.sub (m2 x) F2.zero)), flat [.f (fsq (sC (F2.sub (m2 x) F2.zero)))] ≠ flat [.f F1.zero], F1.add (fsq (sC (F2.sub (m2 x) F2.zero))) (fsq (sC (F2.sub (m2 x) F2.zero))) ≠ F1.zero, flat (e2 (F2.mul (RB (F2.sub (m2 x) F2.zero) (sC (F2.sub (m2 x) F2.zero))) (RB (F2.sub (m2 x) F2.zero) (sC (F2.sub (m2 x) F2.zero))))) = flat (e2 (F2.sub (m2 x) F2.zero)), lowR (RB (F2.sub (m2 x) F2.zero) (sC (F2.sub (m2 x) F2.zero))) (F2.sub F2.zero (RB (F2.sub (m2 x) F2.zero) (sC (F2.sub (m2 x) F2.zero)))) = true], .many [.fl (e2 (RB (F2.sub (m2 x) F2.zero) (sC (F2.sub (m2 x) F2.zero)))), .im (.int .i64 0)]) := by kernel_rfl
set_option maxRecDepth 100000 in
theorem run_R_af (x : N2) : funB Tryz.prog (qG Tryz.prog) (fun m => ⟨fun s => T_q true (true) false, fun s => bif Nat.beq s 67 then false else true, fun s => none⟩) Tryz.f10 60 [.v (.fl (q2 x))] = some ([isq (nm2 (F2.sub (m2 x) F2.zero)), fm 2 ≠ F1.zero, isq (sA (F2.sub (m2 x) F2.zero)), flat [.f (fsq (sA (F2.sub (m2 x) F2.zero)))] ≠ flat [.f F1.zero], F1.add (fsq (sA (F2.sub (m2 x) F2.zero))) (fsq (sA (F2.sub (m2 x) F2.zero))) ≠ F1.zero, flat (e2 (F2.mul (RB (F2.sub (m2 x) F2.zero) (sA (F2.sub (m2 x) F2.zero))) (RB (F2.sub (m2 x) F2.zero) (sA (F2.sub (m2 x) F2.zero))))) = flat (e2 (F2.sub (m2 x) F2.zero)), lowR (RB (F2.sub (m2 x) F2.zero) (sA (F2.sub (m2 x) F2.zero))) (F2.sub F2.zero (RB (F2.sub (m2 x) F2.zero) (sA (F2.sub (m2 x) F2.zero)))) = false], .many [.fl (e2 (F2.sub F2.zero (RB (F2.sub (m2 x) F2.zero) (sA (F2.sub (m2 x) F2.zero))))), .im (.int .i64 0)]) := by kernel_rfl
set_option maxRecDepth 100000 in
theorem run_R_bf (x : N2) : funB Tryz.prog (qG Tryz.prog) (fun m => ⟨fun s => T_q true (bif Nat.beq s 58 && Nat.beq m 44 then false else true) false, fun s => bif Nat.beq s 67 then false else true, fun s => none⟩) Tryz.f10 60 [.v (.fl (q2 x))] = some ([isq (nm2 (F2.sub (m2 x) F2.zero)), fm 2 ≠ F1.zero, ¬ isq (sA (F2.sub (m2 x) F2.zero)), isq (sC (F2.sub (m2 x) F2.zero)), flat [.f (fsq (sC (F2.sub (m2 x) F2.zero)))] ≠ flat [.f F1.zero], F1.add (fsq (sC (F2.sub (m2 x) F2.zero))) (fsq (sC (F2.sub (m2 x) F2.zero))) ≠ F1.zero, flat (e2 (F2.mul (RB (F2.sub (m2 x) F2.zero) (sC (F2.sub (m2 x) F2.zero))) (RB (F2.sub (m2 x) F2.zero) (sC (F2.sub (m2 x) F2.zero))))) = flat (e2 (F2.sub (m2 x) F2.zero)), lowR (RB (F2.sub (m2 x) F2.zero) (sC (F2.sub (m2 x) F2.zero))) (F2.sub F2.zero (RB (F2.sub (m2 x) F2.zero) (sC (F2.sub (m2 x) F2.zero)))) = false], .many [.fl (e2 (F2.sub F2.zero (RB (F2.sub (m2 x) F2.zero) (sC (F2.sub (m2 x) F2.zero))))), .im (.int .i64 0)]) := by kernel_rfl
set_option maxRecDepth 100000 in
theorem run_R_z0 (x : N2) : funB Tryz.prog (qG Tryz.prog) (fun m => ⟨fun s => T_q true (true) true, fun s => true, fun s => none⟩) Tryz.f10 60 [.v (.fl (q2 x))] = some ([isq (nm2 (F2.sub (m2 x) F2.zero)), fm 2 ≠ F1.zero, isq (sA (F2.sub (m2 x) F2.zero)), flat [.f (fsq (sA (F2.sub (m2 x) F2.zero)))] = flat [.f F1.zero], isq (F1.sub F1.zero (F2.sub (m2 x) F2.zero).1), flat (e2 (F2.mul (zC (F2.sub (m2 x) F2.zero)) (zC (F2.sub (m2 x) F2.zero)))) = flat (e2 (F2.sub (m2 x) F2.zero)), lowR (zC (F2.sub (m2 x) F2.zero)) (F2.sub F2.zero (zC (F2.sub (m2 x) F2.zero))) = true], .many [.fl (e2 (zC (F2.sub (m2 x) F2.zero))), .im (.int .i64 0)]) := by kernel_rfl
set_option maxRecDepth 100000 in
theorem run_R_z1 (x : N2) : funB Tryz.prog (qG Tryz.prog) (fun m => ⟨fun s => T_q true (bif Nat.beq s 58 && Nat.beq m 44 then false else true) true, fun s => true, fun s => none⟩) Tryz.f10 60 [.v (.fl (q2 x))] = some ([isq (nm2 (F2.sub (m2 x) F2.zero)), fm 2 ≠ F1.zero, ¬ isq (sA (F2.sub (m2 x) F2.zero)), isq (sC (F2.sub (m2 x) F2.zero)), flat [.f (fsq (sC (F2.sub (m2 x) F2.zero)))] = flat [.f F1.zero], isq (F1.sub F1.zero (F2.sub (m2 x) F2.zero).1), flat (e2 (F2.mul (zC (F2.sub (m2 x) F2.zero)) (zC (F2.sub (m2 x) F2.zero)))) = flat (e2 (F2.sub (m2 x) F2.zero)), lowR (zC (F2.sub (m2 x) F2.zero)) (F2.sub F2.zero (zC (F2.sub (m2 x) F2.zero))) = true], .many [.fl (e2 (zC (F2.sub (m2 x) F2.zero))), .im (.int .i64 0)]) := by kernel_rfl
set_option maxRecDepth 100000 in
theorem run_R_zb (x : N2) : funB Tryz.prog (qG Tryz.prog) (fun m => ⟨fun s => T_q true (bif Nat.beq s 73 then false else true) true, fun s => bif Nat.beq s 67 && Nat.beq m 39 then false else true, fun s => none⟩) Tryz.f10 60 [.v (.fl (q2 x))] = some ([isq (nm2 (F2.sub (m2 x) F2.zero)), fm 2 ≠ F1.zero, isq (sA (F2.sub (m2 x) F2.zero)), flat [.f (fsq (sA (F2.sub (m2 x) F2.zero)))] = flat [.f F1.zero], ¬ isq (F1.sub F1.zero (F2.sub (m2 x) F2.zero).1), isq (sC (F2.sub (m2 x) F2.zero)), flat [.f (fsq (sC (F2.sub (m2 x) F2.zero)))] ≠ flat [.f F1.zero], F1.add (fsq (sC (F2.sub (m2 x) F2.zero))) (fsq (sC (F2.sub (m2 x) F2.zero))) ≠ F1.zero, flat (e2 (F2.mul (RB (F2.sub (m2 x) F2.zero) (sC (F2.sub (m2 x) F2.zero))) (RB (F2.sub (m2 x) F2.zero) (sC (F2.sub (m2 x) F2.zero))))) = flat (e2 (F2.sub (m2 x) F2.zero)), lowR (RB (F2.sub (m2 x) F2.zero) (sC (F2.sub (m2 x) F2.zero))) (F2.sub F2.zero (RB (F2.sub (m2 x) F2.zero) (sC (F2.sub (m2 x) F2.zero)))) = true], .many [.fl (e2 (RB (F2.sub (m2 x) F2.zero) (sC (F2.sub (m2 x) F2.zero)))), .im (.int .i64 0)]) := by kernel_rfl
theorem RS_calls (d : Bool) (x : N2) (hp : allP (oS2 d (m2 x)).1) (args : List Value) (w : World) (ha : CAs w [.v (.fl (q2 x))] args) : Good Tryz.prog 10 (oS2 d (m2 x)).2 args w := by
  have hY : (F2.sub (m2 x) F2.zero) = m2 x := zsub2r _
  have main := RS_main (m2 x) (fun o => match o with | some r => Good Tryz.prog 10 (.many [.fl (e2 r), .im (.int .i64 0)]) args w | none => Good Tryz.prog 10 (.many [.fl (e2 F2.zero), .im (.int .i64 23)]) args w) ?_ ?_ ?_ ?_ ?_ ?_
  · cases d
    · exact main.2 hp.1
    · exact main.1 hp.1
  all_goals show _
  · intro h1
    have k := run_R_n x
    rw [hY] at k
    exact funB_sound hmix (fun _ _ => ok_q _ _ _) (qG_ok _) Tryz.func10 k ⟨h1, trivial⟩ ha
  · intro b h1 h2 h3 h4 h5
    have hB := (back_eq (m2 x).2 h3).1
    have h3' : flat [.f (fsq (sA (m2 x)))] ≠ flat [.f F1.zero] := fun e => h3 (e1_inj e)
    cases b
    · have k := run_R_af x
      rw [hY, RB_eq h3, zsub2] at k
      exact funB_sound hmix (fun _ _ => ok_q _ _ _) (qG_ok _) Tryz.func10 k ⟨h1, two_ne, h2, h3', hB, by rw [h4], h5, trivial⟩ ha
    · have k := run_R_at x
      rw [hY, RB_eq h3, zsub2] at k
      exact funB_sound hmix (fun _ _ => ok_q _ _ _) (qG_ok _) Tryz.func10 k ⟨h1, two_ne, h2, h3', hB, by rw [h4], h5, trivial⟩ ha
  · intro b h1 h2 h2' h3 h4 h5
    have hB := (back_eq (m2 x).2 h3).1
    have h3' : flat [.f (fsq (sB (m2 x)))] ≠ flat [.f F1.zero] := fun e => h3 (e1_inj e)
    cases b
    · have k := run_R_bf x
      rw [hY, sC_eq, RB_eq h3, zsub2] at k
      exact funB_sound hmix (fun _ _ => ok_q _ _ _) (qG_ok _) Tryz.func10 k ⟨h1, two_ne, h2, h2', h3', hB, by rw [h4], h5, trivial⟩ ha
    · have k := run_R_bt x
      rw [hY, sC_eq, RB_eq h3, zsub2] at k
      exact funB_sound hmix (fun _ _ => ok_q _ _ _) (qG_ok _) Tryz.func10 k ⟨h1, two_ne, h2, h2', h3', hB, by rw [h4], h5, trivial⟩ ha
  · intro h1 h2 h3 h4 h5 h6
    have k := run_R_z0 x
    rw [hY, zC_eq, zsub2, sub_z] at k
    exact funB_sound hmix (fun _ _ => ok_q _ _ _) (qG_ok _) Tryz.func10 k ⟨h1, two_ne, h2, by rw [h3], h4, by rw [h5], h6, trivial⟩ ha
  · intro h1 h2 h2' h3 h4 h5 h6
    have k := run_R_z1 x
    rw [hY, sC_eq, zC_eq, zsub2, sub_z] at k
    exact funB_sound hmix (fun _ _ => ok_q _ _ _) (qG_ok _) Tryz.func10 k ⟨h1, two_ne, h2, h2', by rw [h3], h4, by rw [h5], h6, trivial⟩ ha
  · intro h1 h2 h3 h4 h5 h6 h7 h8
    have hB := (back_eq (m2 x).2 h6).1
    have h6' : flat [.f (fsq (sB (m2 x)))] ≠ flat [.f F1.zero] := fun e => h6 (e1_inj e)
    have k := run_R_zb x
    rw [hY, sC_eq, RB_eq h6, zsub2, sub_z] at k
    exact funB_sound hmix (fun _ _ => ok_q _ _ _) (qG_ok _) Tryz.func10 k ⟨h1, two_ne, h2, by rw [h3], h4, h5, h6', hB, by rw [h7], h8, trivial⟩ ha
/-- c: inverses; d: roots -/
noncomputable def T_two (c d : Bool) : Tab := ((T_r1Cmp c).add 9 (g1 rv2 (oS2 d))).add 10 (g1 rv2 (oS2 d))
theorem ok_two (c d : Bool) : TabOk Tryz.prog (T_two c d) := ((ok_r1Cmp c).add Tryz.func9 (by kernel_rfl) (by kernel_rfl) (g1v_ok rv2_ok (S2_calls d))).add Tryz.func10 (by kernel_rfl) (by kernel_rfl) (g1v_ok rv2_ok (RS_calls d))
end Go.Proofs.YtgacpjmggdmgdaaGreat.Ex
namespace Go.Proofs.YtgacpjmggdmgdaaGreat.Ex
set_option linter.unusedVariables false
set_option linter.unusedSimpArgs false
open Go.RowKit

set_option maxRecDepth 100000 in
theorem run_two11 (x y : N2) : funA Tryz.prog (T_two true true) (qG Tryz.prog) (fun _ => true) Tryz.f3 60 [.v (.fl (q2 x)), .v (.fl (q2 y))] = some ([nm2 (m2 x) ≠ F1.zero, nm2 (m2 x) ≠ F1.zero, isq2 (m2 y), isq2 (m2 y), flat (e2 (F2.add (m2 x) (m2 y))) = flat (e2 (F2.add (m2 x) (m2 y))), flat (e2 (F2.sub (m2 x) (m2 y))) = flat (e2 (F2.sub (m2 x) (m2 y))), flat (e2 (F2.mul (m2 x) (m2 y))) = flat (e2 (F2.mul (m2 x) (m2 y))), flat (e2 (F2.sub F2.zero (m2 x))) = flat (e2 (F2.sub F2.zero (m2 x))), flat (e2 (conj2' (m2 x))) = flat (e2 (F2.sub ((m2 x).1, F1.zero) (F1.zero, (m2 x).2))), flat (e2 (F2.mul (m2 x) xiE)) = flat (e2 (F2.mul (m2 x) xiE)), flat (e2 (iv2 (m2 x))) = flat (e2 (riv2 (m2 x))), flat (e2 (rt (m2 y))) = flat (e2 (rt (m2 y)))], .one (.im (.bool true))) := by kernel_rfl
set_option maxRecDepth 100000 in
theorem run_two10 (x y : N2) : funA Tryz.prog (T_two true false) (qG Tryz.prog) (fun _ => true) Tryz.f3 60 [.v (.fl (q2 x)), .v (.fl (q2 y))] = some ([nm2 (m2 x) ≠ F1.zero, nm2 (m2 x) ≠ F1.zero, ¬ isq2 (m2 y), ¬ isq2 (m2 y), flat (e2 (F2.add (m2 x) (m2 y))) = flat (e2 (F2.add (m2 x) (m2 y))), flat (e2 (F2.sub (m2 x) (m2 y))) = flat (e2 (F2.sub (m2 x) (m2 y))), flat (e2 (F2.mul (m2 x) (m2 y))) = flat (e2 (F2.mul (m2 x) (m2 y))), flat (e2 (F2.sub F2.zero (m2 x))) = flat (e2 (F2.sub F2.zero (m2 x))), flat (e2 (conj2' (m2 x))) = flat (e2 (F2.sub ((m2 x).1, F1.zero) (F1.zero, (m2 x).2))), flat (e2 (F2.mul (m2 x) xiE)) = flat (e2 (F2.mul (m2 x) xiE)), flat (e2 (iv2 (m2 x))) = flat (e2 (riv2 (m2 x))), flat (e2 F2.zero) = flat (e2 F2.zero)], .one (.im (.bool true))) := by kernel_rfl
set_option maxRecDepth 100000 in
theorem run_two01 (x y : N2) : funA Tryz.prog (T_two false true) (qG Tryz.prog) (fun _ => true) Tryz.f3 60 [.v (.fl (q2 x)), .v (.fl (q2 y))] = some ([nm2 (m2 x) = F1.zero, nm2 (m2 x) = F1.zero, isq2 (m2 y), isq2 (m2 y), flat (e2 (F2.add (m2 x) (m2 y))) = flat (e2 (F2.add (m2 x) (m2 y))), flat (e2 (F2.sub (m2 x) (m2 y))) = flat (e2 (F2.sub (m2 x) (m2 y))), flat (e2 (F2.mul (m2 x) (m2 y))) = flat (e2 (F2.mul (m2 x) (m2 y))), flat (e2 (F2.sub F2.zero (m2 x))) = flat (e2 (F2.sub F2.zero (m2 x))), flat (e2 (conj2' (m2 x))) = flat (e2 (F2.sub ((m2 x).1, F1.zero) (F1.zero, (m2 x).2))), flat (e2 (F2.mul (m2 x) xiE)) = flat (e2 (F2.mul (m2 x) xiE)), flat (e2 F2.zero) = flat (e2 F2.zero), flat (e2 (rt (m2 y))) = flat (e2 (rt (m2 y)))], .one (.im (.bool true))) := by kernel_rfl
set_option maxRecDepth 100000 in
theorem run_two00 (x y : N2) : funA Tryz.prog (T_two false false) (qG Tryz.prog) (fun _ => true) Tryz.f3 60 [.v (.fl (q2 x)), .v (.fl (q2 y))] = some ([nm2 (m2 x) = F1.zero, nm2 (m2 x) = F1.zero, ¬ isq2 (m2 y), ¬ isq2 (m2 y), flat (e2 (F2.add (m2 x) (m2 y))) = flat (e2 (F2.add (m2 x) (m2 y))), flat (e2 (F2.sub (m2 x) (m2 y))) = flat (e2 (F2.sub (m2 x) (m2 y))), flat (e2 (F2.mul (m2 x) (m2 y))) = flat (e2 (F2.mul (m2 x) (m2 y))), flat (e2 (F2.sub F2.zero (m2 x))) = flat (e2 (F2.sub F2.zero (m2 x))), flat (e2 (conj2' (m2 x))) = flat (e2 (F2.sub ((m2 x).1, F1.zero) (F1.zero, (m2 x).2))), flat (e2 (F2.mul (m2 x) xiE)) = flat (e2 (F2.mul (m2 x) xiE)), flat (e2 F2.zero) = flat (e2 F2.zero), flat (e2 F2.zero) = flat (e2 F2.zero)], .one (.im (.bool true))) := by kernel_rfl
theorem rconj_eq (x : Q2) : F2.sub (x.1, F1.zero) (F1.zero, x.2) = conj2' x := by
  refine Prod.ext ?_ ?_
  · show F1.add x.1 (F1.neg F1.zero) = x.1; rw [neg_zero, F1.add_zero]
  · show F1.add F1.zero (F1.neg x.2) = F1.neg x.2; rw [F1.zero_add]
theorem two_calls (x y : N2) (w : World) : Calls Tryz.prog 3 #[.agg (flat (q2 x)).toArray, .agg (flat (q2 y)).toArray] w (fun e w' => e = .returned (.bool true) ∧ Below w.heap.size w w') := by
  have ha : CAs w [.v (.fl (q2 x)), .v (.fl (q2 y))] [.agg (flat (q2 x)).toArray, .agg (flat (q2 y)).toArray] := ⟨rfl, rfl, trivial⟩
  have hc : flat (e2 (conj2' (m2 x))) = flat (e2 (F2.sub ((m2 x).1, F1.zero) (F1.zero, (m2 x).2))) := by rw [rconj_eq]
  have hi : flat (e2 (iv2 (m2 x))) = flat (e2 (riv2 (m2 x))) := by rw [riv2_eq]
  by_cases h : nm2 (m2 x) = F1.zero
  · by_cases k : isq2 (m2 y)
    · exact fun_sound hmix (ok_two false true) (qG_ok _) Tryz.func3 (run_two01 x y) ⟨h, h, k, k, rfl, rfl, rfl, rfl, hc, rfl, rfl, rfl, trivial⟩ ha
    · exact fun_sound hmix (ok_two false false) (qG_ok _) Tryz.func3 (run_two00 x y) ⟨h, h, k, k, rfl, rfl, rfl, rfl, hc, rfl, rfl, rfl, trivial⟩ ha
  · by_cases k : isq2 (m2 y)
    · exact fun_sound hmix (ok_two true true) (qG_ok _) Tryz.func3 (run_two11 x y) ⟨h, h, k, k, rfl, rfl, rfl, rfl, hc, rfl, hi, rfl, trivial⟩ ha
    · exact fun_sound hmix (ok_two true false) (qG_ok _) Tryz.func3 (run_two10 x y) ⟨h, h, k, k, rfl, rfl, rfl, rfl, hc, rfl, hi, rfl, trivial⟩ ha

end Go.Proofs.YtgacpjmggdmgdaaGreat.Ex
