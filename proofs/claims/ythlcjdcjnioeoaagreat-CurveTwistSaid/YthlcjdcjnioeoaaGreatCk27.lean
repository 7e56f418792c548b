/-
  Lists of points: they come in, their sums, the sums of their multiples. Conditions: none but for lists of 32 points and more, whose multiples are not told.
-/
import Derived.Test.YthlcjdcjnioeoaaGreatCk26
namespace Go.Proofs.YthlcjdcjnioeoaaGreat.Ex
set_option linter.unusedVariables false
set_option linter.unusedSimpArgs false
open Go.RowKit
noncomputable def ckN1 (p : G1N) : Int × J1 := ck1 p.1 p.2.1 p.2.2
/-- the first error -/
noncomputable def err1 (ps : Nat → G1N) : Nat → Int
  | 0 => 0
  | i + 1 => if err1 ps i ≠ 0 then err1 ps i else (ckN1 (ps i)).1
theorem err1_ok {ps : Nat → G1N} : ∀ {N : Nat}, err1 ps N = 0 → ∀ j, j < N → (ckN1 (ps j)).1 = 0
  | N + 1, h, j, hj => by
    unfold err1 at h
    by_cases h0 : err1 ps N = 0
    · rw [if_neg (fun q => q h0)] at h
      by_cases e : j = N
      · rw [e]; exact h
      · exact err1_ok h0 j (by omega)
    · rw [if_pos h0] at h; exact (h0 h).elim
theorem err1_bad {ps : Nat → G1N} : ∀ {N : Nat}, err1 ps N ≠ 0 → ∃ j, j < N ∧ (∀ k, k < j → (ckN1 (ps k)).1 = 0) ∧ (ckN1 (ps j)).1 ≠ 0 ∧ err1 ps N = (ckN1 (ps j)).1
  | 0, h => (h rfl).elim
  | N + 1, h => by
    unfold err1 at h ⊢
    by_cases h0 : err1 ps N = 0
    · rw [if_neg (fun q => q h0)] at h ⊢
      exact ⟨N, by omega, fun k hk => err1_ok h0 k hk, h, rfl⟩
    · rw [if_pos h0]
      obtain ⟨j, h1, h2, h3, h4⟩ := err1_bad h0
      exact ⟨j, by omega, h2, h3, h4⟩
noncomputable def pj1 (ps : Nat → G1N) (j : Nat) : J1 := (ckN1 (ps j)).2
def aiF1 (LG Z : List At) (N N' i : Nat) : List Fact := [.slot 1 (.sl 1 0 N N'), .row 1 false LG, .slot 2 (.pt 2 0), .row 2 true grp1, .slot 6 (.sl 12 0 N N), .row 12 true Z, .slot 14 (.im (iI N)), .slot 15 (.im (iI i))]
def aiA1 (LG : List At) (N N' : Nat) : List Fact := [.slot 1 (.sl 1 0 N N'), .row 1 false LG, .slot 2 (.pt 2 0), .row 2 true grp1]
def aiB1 (LG Z : List At) (N N' : Nat) : List Fact := [.slot 1 (.sl 1 0 N N'), .row 1 false LG, .slot 2 (.pt 2 0), .row 2 true grp1, .slot 6 (.sl 12 0 N N), .row 12 true Z]
noncomputable def aiCode1 : Code := (Tryz.f106.body).getD .skip
noncomputable def aiLoop1 : Code := cIn (cIn (cB (cA (cB (cB aiCode1)))))
theorem ai1_code : aiCode1 = .seq (cA aiCode1) (.seq (cA (cB aiCode1)) (.seq (.seq (cA (cA (cB (cB aiCode1)))) (.block 0 (.loop aiLoop1))) (cB (cB (cB aiCode1))))) := by kernel_rfl
noncomputable def aiC1 (num : Nat → Option Value) (_ : Nat) : Cfg := ⟨fun _ => T_tab1, fun _ => true, num⟩
set_option maxRecDepth 100000 in
theorem ai1_s0 (LG : List At) (N N' : Nat) : runK Tryz.prog (qG Tryz.prog) Tryz.f106.ntmps (aiC1 fun _ => none) 40 (cA aiCode1) (argF 0 [.v (.fl grp1), .s LG N N']) (aiA1 LG N N') = some ([], .nrm, aiA1 LG N N') := by kernel_rfl
def aiXm1 (N : Nat) (Z : List At) : Ext := { xt0 (fun _ _ _ => False) with mks := assoc [(12, (N, Z))] }
set_option maxRecDepth 100000 in
theorem ai1_s1 (LG Z : List At) (N N' : Nat) : runK Tryz.prog (qX Tryz.prog (aiXm1 N Z)) Tryz.f106.ntmps (aiC1 fun _ => none) 40 (cA (cB aiCode1)) (aiA1 LG N N') (aiB1 LG Z N N') = some ([∃ e, ∀ w : World, (Instr.makeSlice 145 (iI N) (iI N)).run Tryz.prog w = .ok (.slice (some ⟨w.heap.size, 0, none⟩) N N) (w.alloc (.cells (flat Z).toArray e))], .nrm, aiB1 LG Z N N') := by kernel_rfl
set_option maxRecDepth 100000 in
theorem ai1_s2 (LG Z : List At) (N N' : Nat) : runK Tryz.prog (qG Tryz.prog) Tryz.f106.ntmps (aiC1 fun _ => none) 40 (cA (cA (cB (cB aiCode1)))) (aiB1 LG Z N N') (aiF1 LG Z N N' 0) = some ([], .nrm, aiF1 LG Z N N' 0) := by kernel_rfl
def aiX1 (i : Nat) (p : G1N) (Z' : List At) : Ext := { xt0 (fun _ _ _ => False) with idx := assoc [(23, i), (34, i)], ld := assoc [(24, gq1 p)], st := assoc [(34, Z')] }
set_option maxRecDepth 100000 in
theorem ai1_rd (LG Z Z' : List At) (N N' i : Nat) (p : G1N) : runK Tryz.prog (qX Tryz.prog (aiX1 i p Z')) Tryz.f106.ntmps (aiC1 (assoc [(16, .bool true), (29, .bool false), (35, iI (i + 1))])) 60 aiLoop1 (aiF1 LG Z N N' i) (aiF1 LG Z' N N' (i + 1)) = some ([intOp .lss .i64 (Int.ofNat i) (Int.ofNat N) = some (.bool true), Int.ofNat i = Int.ofNat i, i < N, seg LG (0 + i * 9) 9 = some (gq1 p), intOp .neq .i64 (ckN1 p).1 0 = some (.bool false), Int.ofNat i = Int.ofNat i, i < N, put Z (0 + i * 12) (ej1 (ckN1 p).2) = some Z', intOp .add .i64 (Int.ofNat i) 1 = some (iI (i + 1))], .nrm, aiF1 LG Z' N N' (i + 1)) := by kernel_rfl
set_option maxRecDepth 100000 in
theorem ai1_bd (LG Z : List At) (N N' i : Nat) (p : G1N) : runK Tryz.prog (qX Tryz.prog (aiX1 i p Z)) Tryz.f106.ntmps (aiC1 (assoc [(16, .bool true), (29, .bool true)])) 60 aiLoop1 (aiF1 LG Z N N' i) [.slot 4 (.im (.slice none 0 0)), .slot 5 (.im (.int .i64 (ckN1 p).1))] = some ([intOp .lss .i64 (Int.ofNat i) (Int.ofNat N) = some (.bool true), Int.ofNat i = Int.ofNat i, i < N, seg LG (0 + i * 9) 9 = some (gq1 p), intOp .neq .i64 (ckN1 p).1 0 = some (.bool true)], .rt, [.slot 4 (.im (.slice none 0 0)), .slot 5 (.im (.int .i64 (ckN1 p).1))]) := by kernel_rfl
set_option maxRecDepth 100000 in
theorem ai1_end (LG Z : List At) (N N' i : Nat) : runK Tryz.prog (qG Tryz.prog) Tryz.f106.ntmps (aiC1 (assoc [(16, .bool false)])) 40 aiLoop1 (aiF1 LG Z N N' i) (aiF1 LG Z N N' i) = some ([intOp .lss .i64 (Int.ofNat i) (Int.ofNat N) = some (.bool false)], .ex 0, aiF1 LG Z N N' i) := by kernel_rfl
set_option maxRecDepth 100000 in
theorem ai1_last (LG Z : List At) (N N' i : Nat) : runK Tryz.prog (qG Tryz.prog) Tryz.f106.ntmps (aiC1 fun _ => none) 40 (cB (cB (cB aiCode1))) (aiF1 LG Z N N' i) [.slot 4 (.sl 12 0 N N), .row 12 true Z, .slot 5 (.im (.int .i64 0))] = some ([], .rt, [.slot 4 (.sl 12 0 N N), .row 12 true Z, .slot 5 (.im (.int .i64 0))]) := by kernel_rfl
theorem ej1_same : Same (flat (ej1 zp1)) (.int .u64 0) := by unfold Same; kernel_rfl
theorem ai1_enter {w0 : World} {args : List Value} {N N' : Nat} {ps : Nat → G1N} (ha : CAs w0 [.v (.fl grp1), .s (cat (fun j => gq1 (ps j)) 0 N) N N'] args) (hN2 : N ≤ 65536) {R : Ending → World → Prop}
    (h : ∀ a w, Holds Tryz.f106.ntmps w0.heap.size w0 (aiF1 (cat (fun j => gq1 (ps j)) 0 N) (laid (fun j => ej1 (pj1 ps j)) (ej1 zp1) N 0) N N' 0) a w → (Code.loop aiLoop1).wp Tryz.prog (fun e a w => match e with | .exit 0 => (cB (cB (cB aiCode1))).wp Tryz.prog (bodyPost Tryz.prog Tryz.f106 R) a w | .ret => bodyPost Tryz.prog Tryz.f106 R .ret a w | _ => False) a w) : Calls Tryz.prog 106 args.toArray w0 R := by
  have hG : EqOkW Tryz.prog (qG Tryz.prog) w0.heap.size w0 := (qG_ok _).w _ _
  have hT : ∀ n d : Nat, TabOkW Tryz.prog T_tab1 w0.heap.size w0 := fun _ _ => ok_tab1.w _ _
  refine fn_enter Tryz.func106 (c := aiCode1) rfl ha (Nat.le_of_ble_eq_true (by kernel_rfl)) fun a w' hA => ?_
  rw [ai1_code]
  refine wp_seq (runKW_sound hmix hT hG (ai1_s0 _ N N') trivial hA fun a w' hA => ?_)
  refine wp_seq (runKW_sound hmix hT (qX_ok (x := aiXm1 N (cat (fun _ => ej1 zp1) 0 N)) (Fr0_ok _) fun _ _ _ h => h.elim) (ai1_s1 _ (cat (fun _ => ej1 zp1) 0 N) N N') ⟨made' (t := 145) (e := 99) (z := ej1 zp1) (v := .int .u64 0) (n := 12) (by8 := 96) (by kernel_rfl) (by kernel_rfl) rfl ej1_same (by omega) (by omega) (by omega), trivial⟩ hA fun a w' hA => ?_)
  refine wp_seq (wp_seq (runKW_sound hmix hT hG (ai1_s2 _ _ N N') trivial hA fun a w' hA => ?_))
  refine wp_block ?_
  rw [← laid_0 (fun j => ej1 (pj1 ps j))] at hA
  refine Code.wp_mono (fun e a w h => ?_) (h a w' hA)
  cases e with
  | exit id =>
    cases id with
    | zero => exact h
    | succ k => exact h.elim
  | ret => exact h
  | _ => exact h.elim
theorem ai1_step {w0 : World} {N N' : Nat} {ps : Nat → G1N} {i : Nat} (hi : i < N) (hN2 : N ≤ 65536) (h : (ckN1 (ps i)).1 = 0) : Ok Tryz.prog w0.heap.size w0 Tryz.f106.ntmps aiLoop1 (aiF1 (cat (fun j => gq1 (ps j)) 0 N) (laid (fun j => ej1 (pj1 ps j)) (ej1 zp1) N i) N N' i) .nrm (aiF1 (cat (fun j => gq1 (ps j)) 0 N) (laid (fun j => ej1 (pj1 ps j)) (ej1 zp1) N (i + 1)) N N' (i + 1)) :=
  ⟨_, _, _, _, qX_ok (x := aiX1 i (ps i) _) (Fr0_ok _) (fun _ _ _ h => h.elim), fun _ _ => ok_tab1.w _ _, ai1_rd _ _ (laid (fun j => ej1 (pj1 ps j)) (ej1 zp1) N (i + 1)) N N' i (ps i), o_lss_t hi, rfl, hi, seg_cat (f := fun j => gq1 (ps j)) (c := 9) (fun j => rfl) hi (Nat.zero_add _), neq_f h, rfl, hi, put_laid (f := fun j => ej1 (pj1 ps j)) (c := 12) (fun j => rfl) rfl hi (Nat.zero_add _), o_add (k := 1) (by omega), trivial⟩
theorem ai1_good {w0 : World} {args : List Value} {N N' : Nat} {ps : Nat → G1N} (ha : CAs w0 [.v (.fl grp1), .s (cat (fun j => gq1 (ps j)) 0 N) N N'] args) (hN2 : N ≤ 65536) (h : err1 ps N = 0) : Calls Tryz.prog 106 args.toArray w0 (fun e w' => FR.ok ⟨cat (fun j => ej1 (pj1 ps j)) 0 N, N, N, [.im (.int .i64 0)]⟩ w0 e w') := by
  have hG : EqOkW Tryz.prog (qG Tryz.prog) w0.heap.size w0 := (qG_ok _).w _ _
  have hT : ∀ n d : Nat, TabOkW Tryz.prog T_tab1 w0.heap.size w0 := fun _ _ => ok_tab1.w _ _
  refine ai1_enter ha hN2 fun a w hA => ?_
  refine loop_r hmix (fun i => aiF1 (cat (fun j => gq1 (ps j)) 0 N) (laid (fun j => ej1 (pj1 ps j)) (ej1 zp1) N i) N N' i) N (fun i hi => ai1_step hi hN2 (err1_ok h i hi)) (.ex 0) (by simp) (aiF1 (cat (fun j => gq1 (ps j)) 0 N) (cat (fun j => ej1 (pj1 ps j)) 0 N) N N' N) ?_ hA fun a w hA => ?_
  · rw [← laid_N (fun j => ej1 (pj1 ps j)) (ej1 zp1) N]
    exact ⟨_, _, _, _, hG, hT, ai1_end _ _ N N' N, o_lss_f (Nat.le_refl _), trivial⟩
  · show (cB (cB (cB aiCode1))).wp _ _ _ _
    exact runKW_sound hmix hT hG (ai1_last _ _ N N' N) trivial hA fun a w' hA => fn_leaveF (r := ⟨cat (fun j => ej1 (pj1 ps j)) 0 N, N, N, [.im (.int .i64 0)]⟩) (by kernel_rfl) hA
theorem ai1_badc {w0 : World} {args : List Value} {N N' : Nat} {ps : Nat → G1N} (ha : CAs w0 [.v (.fl grp1), .s (cat (fun j => gq1 (ps j)) 0 N) N N'] args) (hN2 : N ≤ 65536) (h : err1 ps N ≠ 0) : Good Tryz.prog 106 (.many [.im (.slice none 0 0), .im (.int .i64 (err1 ps N))]) args w0 := by
  have hG : EqOkW Tryz.prog (qG Tryz.prog) w0.heap.size w0 := (qG_ok _).w _ _
  have hT : ∀ n d : Nat, TabOkW Tryz.prog T_tab1 w0.heap.size w0 := fun _ _ => ok_tab1.w _ _
  obtain ⟨j, hj, h1, h2, h3⟩ := err1_bad h
  rw [h3]
  refine ai1_enter ha hN2 fun a w hA => ?_
  refine loop_r hmix (fun i => aiF1 (cat (fun j => gq1 (ps j)) 0 N) (laid (fun j => ej1 (pj1 ps j)) (ej1 zp1) N i) N N' i) j (fun i hi => ai1_step (by omega) hN2 (h1 i hi)) .rt (by simp) [.slot 4 (.im (.slice none 0 0)), .slot 5 (.im (.int .i64 (ckN1 (ps j)).1))] ?_ hA fun a w hA => ?_
  · exact ⟨_, _, _, _, qX_ok (x := aiX1 j (ps j) _) (Fr0_ok _) (fun _ _ _ h => h.elim), fun _ _ => ok_tab1.w _ _, ai1_bd _ _ N N' j (ps j), o_lss_t hj, rfl, hj, seg_cat (f := fun j => gq1 (ps j)) (c := 9) (fun j => rfl) hj (Nat.zero_add _), neq_t h2, trivial⟩
  · exact fn_leave (l := [.im (.slice none 0 0), .im (.int .i64 (ckN1 (ps j)).1)]) (r := .many [.im (.slice none 0 0), .im (.int .i64 (ckN1 (ps j)).1)]) (by kernel_rfl) (by kernel_rfl) hA
/-- the sum of so many -/
noncomputable def tot1 (pt : Nat → J1) : Nat → J1
  | 0 => zp1
  | i + 1 => jplus F1 (tot1 pt i) (pt i)
def toF1 (L : List At) (N N' i : Nat) (s : J1) : List Fact := [.row 0 false L, .slot 2 (.pt 2 0), .row 2 true (ej1 zp1), .slot 3 (.pt 3 0), .row 3 true (ej1 s), .slot 6 (.sl 0 0 N N'), .slot 7 (.im (iI N)), .slot 8 (.im (iI i))]
noncomputable def toCode1 : Code := (Tryz.f107.body).getD .skip
noncomputable def toLoop1 : Code := cIn (cIn (cB (cA (cB (cB toCode1)))))
theorem to1_code : toCode1 = .seq (cA toCode1) (.seq (cA (cB toCode1)) (.seq (.seq (cA (cA (cB (cB toCode1)))) (.block 0 (.loop toLoop1))) (cB (cB (cB toCode1))))) := by kernel_rfl
def toA1 (L : List At) (N N' : Nat) : List Fact := [.slot 0 (.sl 0 0 N N'), .row 0 false L, .slot 2 (.pt 2 0), .row 2 true (ej1 zp1)]
def toB1 (L : List At) (N N' : Nat) : List Fact := [.slot 0 (.sl 0 0 N N'), .row 0 false L, .slot 2 (.pt 2 0), .row 2 true (ej1 zp1), .slot 3 (.pt 3 0), .row 3 true (ej1 zp1)]
set_option maxRecDepth 100000 in
theorem to1_s0 (L : List At) (N N' : Nat) : runK Tryz.prog (qG Tryz.prog) Tryz.f107.ntmps (aiC1 fun _ => none) 40 (cA toCode1) (argF 0 [.s L N N']) (toA1 L N N') = some ([], .nrm, toA1 L N N') := by kernel_rfl
set_option maxRecDepth 100000 in
theorem to1_s1 (L : List At) (N N' : Nat) : runK Tryz.prog (qG Tryz.prog) Tryz.f107.ntmps (aiC1 fun _ => none) 40 (cA (cB toCode1)) (toA1 L N N') (toB1 L N N') = some ([], .nrm, toB1 L N N') := by kernel_rfl
set_option maxRecDepth 100000 in
theorem to1_s2 (L : List At) (N N' : Nat) : runK Tryz.prog (qG Tryz.prog) Tryz.f107.ntmps (aiC1 fun _ => none) 40 (cA (cA (cB (cB toCode1)))) (toB1 L N N') (toF1 L N N' 0 zp1) = some ([], .nrm, toF1 L N N' 0 zp1) := by kernel_rfl
noncomputable def toX1 (i : Nat) (p : J1) : Ext := { xt0 (fun _ _ _ => False) with idx := assoc [(10, i)], ld := assoc [(11, ej1 p)] }
set_option maxRecDepth 100000 in
theorem to1_rd (L : List At) (N N' i : Nat) (s p : J1) : runK Tryz.prog (qX Tryz.prog (toX1 i p)) Tryz.f107.ntmps (aiC1 (assoc [(9, .bool true), (15, iI (i + 1))])) 40 toLoop1 (toF1 L N N' i s) (toF1 L N N' (i + 1) (jplus F1 s p)) = some ([intOp .lss .i64 (Int.ofNat i) (Int.ofNat N) = some (.bool true), Int.ofNat i = Int.ofNat i, i < N, seg L (0 + i * 12) 12 = some (ej1 p), intOp .add .i64 (Int.ofNat i) 1 = some (iI (i + 1))], .nrm, toF1 L N N' (i + 1) (jplus F1 s p)) := by kernel_rfl
set_option maxRecDepth 100000 in
theorem to1_end (L : List At) (N N' i : Nat) (s : J1) : runK Tryz.prog (qG Tryz.prog) Tryz.f107.ntmps (aiC1 (assoc [(9, .bool false)])) 40 toLoop1 (toF1 L N N' i s) (toF1 L N N' i s) = some ([intOp .lss .i64 (Int.ofNat i) (Int.ofNat N) = some (.bool false)], .ex 0, toF1 L N N' i s) := by kernel_rfl
set_option maxRecDepth 100000 in
theorem to1_last (L : List At) (N N' i : Nat) (s : J1) : runK Tryz.prog (qG Tryz.prog) Tryz.f107.ntmps (aiC1 fun _ => none) 40 (cB (cB (cB toCode1))) (toF1 L N N' i s) [.slot 2 (.pt 2 0), .row 2 true (ej1 s)] = some ([], .rt, [.slot 2 (.pt 2 0), .row 2 true (ej1 s)]) := by kernel_rfl
theorem to1_calls {w0 : World} {args : List Value} {N N' : Nat} {pt : Nat → J1} (ha : CAs w0 [.s (cat (fun j => ej1 (pt j)) 0 N) N N'] args) (hN2 : N ≤ 65536) : Good Tryz.prog 107 (.one (.fl (ej1 (tot1 pt N)))) args w0 := by
  have hG : EqOkW Tryz.prog (qG Tryz.prog) w0.heap.size w0 := (qG_ok _).w _ _
  have hT : ∀ n d : Nat, TabOkW Tryz.prog T_tab1 w0.heap.size w0 := fun _ _ => ok_tab1.w _ _
  refine fn_enter Tryz.func107 (c := toCode1) rfl ha (Nat.le_of_ble_eq_true (by kernel_rfl)) fun a w' hA => ?_
  rw [to1_code]
  refine wp_seq (runKW_sound hmix hT hG (to1_s0 _ N N') trivial hA fun a w' hA => ?_)
  refine wp_seq (runKW_sound hmix hT hG (to1_s1 _ N N') trivial hA fun a w' hA => ?_)
  refine wp_seq (wp_seq (runKW_sound hmix hT hG (to1_s2 _ N N') trivial hA fun a w' hA => ?_))
  refine wp_block ?_
  refine loop_r hmix (fun i => toF1 (cat (fun j => ej1 (pt j)) 0 N) N N' i (tot1 pt i)) N (fun i hi => ?_) (.ex 0) (by simp) (toF1 (cat (fun j => ej1 (pt j)) 0 N) N N' N (tot1 pt N)) ?_ hA fun a w' hA => ?_
  · exact ⟨_, _, _, _, qX_ok (x := toX1 i (pt i)) (Fr0_ok _) (fun _ _ _ h => h.elim), hT, to1_rd _ N N' i _ (pt i), o_lss_t hi, rfl, hi, seg_cat (f := fun j => ej1 (pt j)) (c := 12) (fun j => rfl) hi (Nat.zero_add _), o_add (k := 1) (by omega), trivial⟩
  · exact ⟨_, _, _, _, hG, hT, to1_end _ N N' N _, o_lss_f (Nat.le_refl _), trivial⟩
  · show (cB (cB (cB toCode1))).wp _ _ _ _
    exact runKW_sound hmix hT hG (to1_last _ N N' N _) trivial hA fun a w' hA => fn_leave (l := [.fl (ej1 (tot1 pt N))]) (r := .one (.fl (ej1 (tot1 pt N)))) (by kernel_rfl) (by kernel_rfl) hA
/-- the entries of the list functions, for given lists -/
noncomputable def sumM1 (pt : Nat → J1) (x : Nat → Nat) (N : Nat) : J1 := ov1 (fun p => cs1 pt x p N) (mxL x N / 4 + 1) (mxL x N / 4 + 1)
noncomputable def gBt1 (pt : Nat → J1) (x : Nat → Nat) (N : Nat) : Ent
  | [.s LP n1 n2, .s LX n3 n4] => some ([flat LP = flat (cat (fun j => ej1 (pt j)) 0 N), flat LX = flat (cat (fun j => [.q (x j)]) 0 N), n1 = N, n3 = N, N ≤ 65536], .one (.fl (ej1 (sumM1 pt x N))))
  | _ => none
theorem gBt1_ok {w : World} {pt : Nat → J1} {x : Nat → Nat} {N : Nat} : ∀ cs pre r, gBt1 pt x N cs = some (pre, r) → allP pre → ∀ (args : List Value), CAs w cs args → Good Tryz.prog 155 r args w := by
  intro cs pre r hg hq args ha
  unfold gBt1 at hg
  split at hg
  · rename_i LP n1 n2 LX n3 n4
    cases hg
    obtain ⟨h1, h2, rfl, rfl, h5, _⟩ := hq
    match args, ha with
    | [u, v], ha =>
      obtain ⟨b1, o1, e1, hb1, hr1⟩ := ha.1
      obtain ⟨b2, o2, e2, hb2, hr2⟩ := ha.2.1
      subst e1; subst e2
      refine bt1_calls h1 ⟨hb1, hr1⟩ (fun j hj => ⟨hb2, ?_⟩) (Nat.le_refl _) h5 (by omega)
      rw [h2] at hr2
      exact range_cat (f := fun j => [At.q (x j)]) (c := 4) (fun _ => rfl) hj hr2
    | [], ha => exact ha.elim
    | [_], ha => exact ha.2.elim
    | _ :: _ :: _ :: _, ha => exact ha.2.2.elim
  · cases hg
set_option maxRecDepth 100000 in
theorem run_mu1 (LP LX : List At) (n1 n2 n3 n4 N : Nat) (pt : Nat → J1) (x : Nat → Nat) : funB Tryz.prog (qG Tryz.prog) (fun _ => ⟨fun _ => (T_tab1).add 155 (gBt1 pt x N), fun _ => true, assoc [(7, .bool true)]⟩) Tryz.f111 40 [.s LP n1 n2, .s LX n3 n4] = some ([intOp .lss .i64 (Int.ofNat n1) 32 = some (.bool true), flat LP = flat (cat (fun j => ej1 (pt j)) 0 N), flat LX = flat (cat (fun j => [.q (x j)]) 0 N), n1 = N, n3 = N, N ≤ 65536], .one (.fl (ej1 (sumM1 pt x N)))) := by kernel_rfl
noncomputable def gMu1 (pt : Nat → J1) (x : Nat → Nat) (N : Nat) : Ent
  | [.s LP n1 n2, .s LX n3 n4] => some ([flat LP = flat (cat (fun j => ej1 (pt j)) 0 N), flat LX = flat (cat (fun j => [.q (x j)]) 0 N), n1 = N, n3 = N, N < 32], .one (.fl (ej1 (sumM1 pt x N))))
  | _ => none
theorem gMu1_ok {w : World} {pt : Nat → J1} {x : Nat → Nat} {N : Nat} : ∀ cs pre r, gMu1 pt x N cs = some (pre, r) → allP pre → ∀ (args : List Value), CAs w cs args → Good Tryz.prog 111 r args w := by
  intro cs pre r hg hq args ha
  unfold gMu1 at hg
  split at hg
  · rename_i LP n1 n2 LX n3 n4
    cases hg
    obtain ⟨h1, h2, h3, h4, h5, _⟩ := hq
    exact funB_soundW hmix (fun _ _ => TabOkW.add (ok_tab1.w _ _) Tryz.func155 (by kernel_rfl) (by kernel_rfl) fun w hw => gBt1_ok) ((qG_ok Tryz.prog).w _ _) Tryz.func111 (run_mu1 LP LX n1 n2 n3 n4 N pt x) ⟨by rw [h3]; exact o_lss_t (n := 32) h5, h1, h2, h3, h4, by omega, trivial⟩ ha
  · cases hg
noncomputable def gAi1 (ps : Nat → G1N) (N : Nat) : List CA → Option (List Prop × FR)
  | [.v (.fl l), .s L n1 n2] => some ([flat l = flat grp1, flat L = flat (cat (fun j => gq1 (ps j)) 0 N), n1 = N, N ≤ 65536, err1 ps N = 0], ⟨cat (fun j => ej1 (pj1 ps j)) 0 N, N, N, [.im (.int .i64 0)]⟩)
  | _ => none
noncomputable def gAb1 (ps : Nat → G1N) (N : Nat) : Ent
  | [.v (.fl l), .s L n1 n2] => some ([flat l = flat grp1, flat L = flat (cat (fun j => gq1 (ps j)) 0 N), n1 = N, N ≤ 65536, err1 ps N ≠ 0], .many [.im (.slice none 0 0), .im (.int .i64 (err1 ps N))])
  | _ => none
theorem ai1_cas {w : World} {ps : Nat → G1N} {N n1 n2 : Nat} {l L : List At} (h1 : flat l = flat grp1) (h2 : flat L = flat (cat (fun j => gq1 (ps j)) 0 N)) {args : List Value} (ha : CAs w [.v (.fl l), .s L n1 n2] args) : CAs w [.v (.fl grp1), .s (cat (fun j => gq1 (ps j)) 0 N) n1 n2] args := by
  match args, ha with
  | [u, v], ha =>
    obtain ⟨b, o, e, hb, hr⟩ := ha.2.1
    refine ⟨?_, ⟨b, o, e, hb, by rw [← h2]; exact hr⟩, trivial⟩
    show u = .agg (flat grp1).toArray
    rw [← h1]; exact ha.1
  | [], ha => exact ha.elim
  | [_], ha => exact ha.2.elim
  | _ :: _ :: _ :: _, ha => exact ha.2.2.elim
theorem gAi1_ok {ps : Nat → G1N} {N : Nat} : ∀ cs pre r, gAi1 ps N cs = some (pre, r) → allP pre → ∀ (args : List Value) (w : World), CAs w cs args → Calls Tryz.prog 106 args.toArray w (fun e w' => r.ok w e w') := by
  intro cs pre r hg hq args w ha
  unfold gAi1 at hg
  split at hg
  · cases hg
    obtain ⟨h1, h2, rfl, h4, h5, _⟩ := hq
    exact ai1_good (ai1_cas h1 h2 ha) h4 h5
  · cases hg
theorem gAb1_ok {ps : Nat → G1N} {N : Nat} : ∀ cs pre r, gAb1 ps N cs = some (pre, r) → allP pre → ∀ (args : List Value) (w : World), CAs w cs args → Good Tryz.prog 106 r args w := by
  intro cs pre r hg hq args w ha
  unfold gAb1 at hg
  split at hg
  · cases hg
    obtain ⟨h1, h2, rfl, h4, h5, _⟩ := hq
    exact ai1_badc (ai1_cas h1 h2 ha) h4 h5
  · cases hg
noncomputable def gTo1 (pt : Nat → J1) (N : Nat) : Ent
  | [.s L n1 n2] => some ([flat L = flat (cat (fun j => ej1 (pt j)) 0 N), n1 = N, N ≤ 65536], .one (.fl (ej1 (tot1 pt N))))
  | _ => none
theorem gTo1_ok {pt : Nat → J1} {N : Nat} : ∀ cs pre r, gTo1 pt N cs = some (pre, r) → allP pre → ∀ (args : List Value) (w : World), CAs w cs args → Good Tryz.prog 107 r args w := by
  intro cs pre r hg hq args w ha
  unfold gTo1 at hg
  split at hg
  · rename_i L n1 n2
    cases hg
    obtain ⟨h1, rfl, h3, _⟩ := hq
    refine to1_calls (N' := n2) ?_ h3
    match args, ha with
    | [u], ha =>
      obtain ⟨b, o, e, hb, hr⟩ := ha.1
      exact ⟨⟨b, o, e, hb, by rw [← h1]; exact hr⟩, trivial⟩
    | [], ha => exact ha.elim
    | _ :: _ :: _, ha => exact ha.2.elim
  · cases hg
noncomputable def xAi1 (ps : Nat → G1N) (N : Nat) : Ext := { xt0 (fun _ _ _ => False) with T2 := Fr0.add 106 (gAi1 ps N) }
theorem xAi1_ok (ps : Nat → G1N) (N : Nat) (w : World) : EqOkW Tryz.prog (qX Tryz.prog (xAi1 ps N)) w.heap.size w := qX_ok ((Fr0_ok _).add Tryz.func106 (by kernel_rfl) (by kernel_rfl) gAi1_ok) fun _ _ _ h => h.elim
set_option maxRecDepth 100000 in
theorem run_mm1_e (LG LX : List At) (N n2 n n4 : Nat) (ps : Nat → G1N) : funB Tryz.prog (qG Tryz.prog) (fun _ => ⟨fun _ => (T_tab1).add 106 (gAb1 ps N), fun _ => true, assoc [(15, .bool false), (19, .bool false), (29, .bool true)]⟩) Tryz.f57 60 [.v (.fl grp1), .s LG N n2, .s LX n n4] = some ([intOp .neq .i64 (Int.ofNat N) (Int.ofNat n) = some (.bool false), intOp .gtr .i64 (Int.ofNat N) 65536 = some (.bool false), flat grp1 = flat grp1, flat LG = flat (cat (fun j => gq1 (ps j)) 0 N), N = N, N ≤ 65536, err1 ps N ≠ 0, intOp .neq .i64 (err1 ps N) 0 = some (.bool true)], .many [.fl (gf1 (some (F1.zero, F1.zero))), .im (.int .i64 (err1 ps N))]) := by kernel_rfl
set_option maxRecDepth 100000 in
theorem run_mm1_g (LG LX : List At) (N n2 n n4 : Nat) (ps : Nat → G1N) (x : Nat → Nat) : funB Tryz.prog (qX Tryz.prog (xAi1 ps N)) (fun _ => ⟨fun _ => (T_tab1).add 111 (gMu1 (pj1 ps) x N), fun _ => true, assoc [(15, .bool false), (19, .bool false)]⟩) Tryz.f57 60 [.v (.fl grp1), .s LG N n2, .s LX n n4] = some ([intOp .neq .i64 (Int.ofNat N) (Int.ofNat n) = some (.bool false), intOp .gtr .i64 (Int.ofNat N) 65536 = some (.bool false), flat grp1 = flat grp1, flat LG = flat (cat (fun j => gq1 (ps j)) 0 N), N = N, N ≤ 65536, err1 ps N = 0, flat (cat (fun j => ej1 (pj1 ps j)) 0 N) = flat (cat (fun j => ej1 (pj1 ps j)) 0 N), flat LX = flat (cat (fun j => [.q (x j)]) 0 N), N = N, n = N, N < 32], .many [.fl (gf1 (jto F1 finv (sumM1 (pj1 ps) x N))), .im (.int .i64 0)]) := by kernel_rfl
set_option maxRecDepth 100000 in
theorem run_su1_e (LG : List At) (N n2 : Nat) (ps : Nat → G1N) : funB Tryz.prog (qG Tryz.prog) (fun _ => ⟨fun _ => (T_tab1).add 106 (gAb1 ps N), fun _ => true, assoc [(11, .bool false), (20, .bool true)]⟩) Tryz.f53 60 [.v (.fl grp1), .s LG N n2] = some ([intOp .gtr .i64 (Int.ofNat N) 65536 = some (.bool false), flat grp1 = flat grp1, flat LG = flat (cat (fun j => gq1 (ps j)) 0 N), N = N, N ≤ 65536, err1 ps N ≠ 0, intOp .neq .i64 (err1 ps N) 0 = some (.bool true)], .many [.fl (gf1 (some (F1.zero, F1.zero))), .im (.int .i64 (err1 ps N))]) := by kernel_rfl
set_option maxRecDepth 100000 in
theorem run_su1_g (LG : List At) (N n2 : Nat) (ps : Nat → G1N) : funB Tryz.prog (qX Tryz.prog (xAi1 ps N)) (fun _ => ⟨fun _ => (T_tab1).add 107 (gTo1 (pj1 ps) N), fun _ => true, assoc [(11, .bool false)]⟩) Tryz.f53 60 [.v (.fl grp1), .s LG N n2] = some ([intOp .gtr .i64 (Int.ofNat N) 65536 = some (.bool false), flat grp1 = flat grp1, flat LG = flat (cat (fun j => gq1 (ps j)) 0 N), N = N, N ≤ 65536, err1 ps N = 0, flat (cat (fun j => ej1 (pj1 ps j)) 0 N) = flat (cat (fun j => ej1 (pj1 ps j)) 0 N), N = N, N ≤ 65536], .many [.fl (gf1 (jto F1 finv (tot1 (pj1 ps) N))), .im (.int .i64 0)]) := by kernel_rfl
/-- what a sum of multiples answers, of less than 32 points -/
noncomputable def resM1 (ps : Nat → G1N) (x : Nat → Nat) (N : Nat) : Pt Fq × Int := if err1 ps N ≠ 0 then (some (F1.zero, F1.zero), err1 ps N) else (jto F1 finv (sumM1 (pj1 ps) x N), 0)
theorem mm1_calls {w0 : World} {args : List Value} {LG LX : List At} {N n2 n4 : Nat} {ps : Nat → G1N} {x : Nat → Nat} (h1 : flat LG = flat (cat (fun j => gq1 (ps j)) 0 N)) (h2 : flat LX = flat (cat (fun j => [.q (x j)]) 0 N)) (hN : N < 32) (ha : CAs w0 [.v (.fl grp1), .s LG N n2, .s LX N n4] args) : Good Tryz.prog 57 (.many [.fl (gf1 (resM1 ps x N).1), .im (.int .i64 (resM1 ps x N).2)]) args w0 := by
  have g1 : intOp .neq .i64 (Int.ofNat N) (Int.ofNat N) = some (.bool false) := by rw [o_neq, decide_eq_false (by simp)]
  have g2 : intOp .gtr .i64 (Int.ofNat N) 65536 = some (.bool false) := by
    have := o_gtr (i := N) (n := 65536)
    rw [decide_eq_false (by omega)] at this
    exact this
  unfold resM1
  by_cases h : err1 ps N = 0
  · rw [if_neg (fun q => q h)]
    exact funB_soundW hmix (fun _ _ => TabOkW.add (ok_tab1.w _ _) Tryz.func111 (by kernel_rfl) (by kernel_rfl) fun w hw => gMu1_ok) (xAi1_ok ps N w0) Tryz.func57 (run_mm1_g LG LX N n2 N n4 ps x) ⟨g1, g2, rfl, h1, rfl, by omega, h, rfl, h2, rfl, rfl, hN, trivial⟩ ha
  · rw [if_pos h]
    exact funB_soundW hmix (fun _ _ => (ok_tab1.add Tryz.func106 (by kernel_rfl) (by kernel_rfl) gAb1_ok).w _ _) ((qG_ok Tryz.prog).w _ _) Tryz.func57 (run_mm1_e LG LX N n2 N n4 ps) ⟨g1, g2, rfl, h1, rfl, by omega, h, neq_t h, trivial⟩ ha
noncomputable def resS1 (ps : Nat → G1N) (N : Nat) : Pt Fq × Int := if err1 ps N ≠ 0 then (some (F1.zero, F1.zero), err1 ps N) else (jto F1 finv (tot1 (pj1 ps) N), 0)
theorem su1_calls {w0 : World} {args : List Value} {LG : List At} {N n2 : Nat} {ps : Nat → G1N} (h1 : flat LG = flat (cat (fun j => gq1 (ps j)) 0 N)) (hN : N ≤ 65536) (ha : CAs w0 [.v (.fl grp1), .s LG N n2] args) : Good Tryz.prog 53 (.many [.fl (gf1 (resS1 ps N).1), .im (.int .i64 (resS1 ps N).2)]) args w0 := by
  have g2 : intOp .gtr .i64 (Int.ofNat N) 65536 = some (.bool false) := by
    have := o_gtr (i := N) (n := 65536)
    rw [decide_eq_false (by omega)] at this
    exact this
  unfold resS1
  by_cases h : err1 ps N = 0
  · rw [if_neg (fun q => q h)]
    exact funB_soundW hmix (fun _ _ => (ok_tab1.add Tryz.func107 (by kernel_rfl) (by kernel_rfl) gTo1_ok).w _ _) (xAi1_ok ps N w0) Tryz.func53 (run_su1_g LG N n2 ps) ⟨g2, rfl, h1, rfl, hN, h, rfl, rfl, hN, trivial⟩ ha
  · rw [if_pos h]
    exact funB_soundW hmix (fun _ _ => (ok_tab1.add Tryz.func106 (by kernel_rfl) (by kernel_rfl) gAb1_ok).w _ _) ((qG_ok Tryz.prog).w _ _) Tryz.func53 (run_su1_e LG N n2 ps) ⟨g2, rfl, h1, rfl, hN, h, neq_t h, trivial⟩ ha

noncomputable def ckN2 (p : G2N) : Int × J2 := ck2 p.1 p.2.1 p.2.2
/-- the first error -/
noncomputable def err2 (ps : Nat → G2N) : Nat → Int
  | 0 => 0
  | i + 1 => if err2 ps i ≠ 0 then err2 ps i else (ckN2 (ps i)).1
theorem err2_ok {ps : Nat → G2N} : ∀ {N : Nat}, err2 ps N = 0 → ∀ j, j < N → (ckN2 (ps j)).1 = 0
  | N + 1, h, j, hj => by
    unfold err2 at h
    by_cases h0 : err2 ps N = 0
    · rw [if_neg (fun q => q h0)] at h
      by_cases e : j = N
      · rw [e]; exact h
      · exact err2_ok h0 j (by omega)
    · rw [if_pos h0] at h; exact (h0 h).elim
theorem err2_bad {ps : Nat → G2N} : ∀ {N : Nat}, err2 ps N ≠ 0 → ∃ j, j < N ∧ (∀ k, k < j → (ckN2 (ps k)).1 = 0) ∧ (ckN2 (ps j)).1 ≠ 0 ∧ err2 ps N = (ckN2 (ps j)).1
  | 0, h => (h rfl).elim
  | N + 1, h => by
    unfold err2 at h ⊢
    by_cases h0 : err2 ps N = 0
    · rw [if_neg (fun q => q h0)] at h ⊢
      exact ⟨N, by omega, fun k hk => err2_ok h0 k hk, h, rfl⟩
    · rw [if_pos h0]
      obtain ⟨j, h1, h2, h3, h4⟩ := err2_bad h0
      exact ⟨j, by omega, h2, h3, h4⟩
noncomputable def pj2 (ps : Nat → G2N) (j : Nat) : J2 := (ckN2 (ps j)).2
def aiF2 (LG Z : List At) (N N' i : Nat) : List Fact := [.slot 1 (.sl 1 0 N N'), .row 1 false LG, .slot 2 (.pt 2 0), .row 2 true grp2, .slot 6 (.sl 12 0 N N), .row 12 true Z, .slot 14 (.im (iI N)), .slot 15 (.im (iI i))]
def aiA2 (LG : List At) (N N' : Nat) : List Fact := [.slot 1 (.sl 1 0 N N'), .row 1 false LG, .slot 2 (.pt 2 0), .row 2 true grp2]
def aiB2 (LG Z : List At) (N N' : Nat) : List Fact := [.slot 1 (.sl 1 0 N N'), .row 1 false LG, .slot 2 (.pt 2 0), .row 2 true grp2, .slot 6 (.sl 12 0 N N), .row 12 true Z]
noncomputable def aiCode2 : Code := (Tryz.f122.body).getD .skip
noncomputable def aiLoop2 : Code := cIn (cIn (cB (cA (cB (cB aiCode2)))))
theorem ai2_code : aiCode2 = .seq (cA aiCode2) (.seq (cA (cB aiCode2)) (.seq (.seq (cA (cA (cB (cB aiCode2)))) (.block 0 (.loop aiLoop2))) (cB (cB (cB aiCode2))))) := by kernel_rfl
noncomputable def aiC2 (num : Nat → Option Value) (_ : Nat) : Cfg := ⟨fun _ => T_tab2, fun _ => true, num⟩
set_option maxRecDepth 100000 in
theorem ai2_s0 (LG : List At) (N N' : Nat) : runK Tryz.prog (qG Tryz.prog) Tryz.f122.ntmps (aiC2 fun _ => none) 40 (cA aiCode2) (argF 0 [.v (.fl grp2), .s LG N N']) (aiA2 LG N N') = some ([], .nrm, aiA2 LG N N') := by kernel_rfl
def aiXm2 (N : Nat) (Z : List At) : Ext := { xt0 (fun _ _ _ => False) with mks := assoc [(12, (N, Z))] }
set_option maxRecDepth 100000 in
theorem ai2_s1 (LG Z : List At) (N N' : Nat) : runK Tryz.prog (qX Tryz.prog (aiXm2 N Z)) Tryz.f122.ntmps (aiC2 fun _ => none) 40 (cA (cB aiCode2)) (aiA2 LG N N') (aiB2 LG Z N N') = some ([∃ e, ∀ w : World, (Instr.makeSlice 161 (iI N) (iI N)).run Tryz.prog w = .ok (.slice (some ⟨w.heap.size, 0, none⟩) N N) (w.alloc (.cells (flat Z).toArray e))], .nrm, aiB2 LG Z N N') := by kernel_rfl
set_option maxRecDepth 100000 in
theorem ai2_s2 (LG Z : List At) (N N' : Nat) : runK Tryz.prog (qG Tryz.prog) Tryz.f122.ntmps (aiC2 fun _ => none) 40 (cA (cA (cB (cB aiCode2)))) (aiB2 LG Z N N') (aiF2 LG Z N N' 0) = some ([], .nrm, aiF2 LG Z N N' 0) := by kernel_rfl
def aiX2 (i : Nat) (p : G2N) (Z' : List At) : Ext := { xt0 (fun _ _ _ => False) with idx := assoc [(23, i), (34, i)], ld := assoc [(24, gq2 p)], st := assoc [(34, Z')] }
set_option maxRecDepth 100000 in
theorem ai2_rd (LG Z Z' : List At) (N N' i : Nat) (p : G2N) : runK Tryz.prog (qX Tryz.prog (aiX2 i p Z')) Tryz.f122.ntmps (aiC2 (assoc [(16, .bool true), (29, .bool false), (35, iI (i + 1))])) 60 aiLoop2 (aiF2 LG Z N N' i) (aiF2 LG Z' N N' (i + 1)) = some ([intOp .lss .i64 (Int.ofNat i) (Int.ofNat N) = some (.bool true), Int.ofNat i = Int.ofNat i, i < N, seg LG (0 + i * 17) 17 = some (gq2 p), intOp .neq .i64 (ckN2 p).1 0 = some (.bool false), Int.ofNat i = Int.ofNat i, i < N, put Z (0 + i * 24) (ej2 (ckN2 p).2) = some Z', intOp .add .i64 (Int.ofNat i) 1 = some (iI (i + 1))], .nrm, aiF2 LG Z' N N' (i + 1)) := by kernel_rfl
set_option maxRecDepth 100000 in
theorem ai2_bd (LG Z : List At) (N N' i : Nat) (p : G2N) : runK Tryz.prog (qX Tryz.prog (aiX2 i p Z)) Tryz.f122.ntmps (aiC2 (assoc [(16, .bool true), (29, .bool true)])) 60 aiLoop2 (aiF2 LG Z N N' i) [.slot 4 (.im (.slice none 0 0)), .slot 5 (.im (.int .i64 (ckN2 p).1))] = some ([intOp .lss .i64 (Int.ofNat i) (Int.ofNat N) = some (.bool true), Int.ofNat i = Int.ofNat i, i < N, seg LG (0 + i * 17) 17 = some (gq2 p), intOp .neq .i64 (ckN2 p).1 0 = some (.bool true)], .rt, [.slot 4 (.im (.slice none 0 0)), .slot 5 (.im (.int .i64 (ckN2 p).1))]) := by kernel_rfl
set_option maxRecDepth 100000 in
theorem ai2_end (LG Z : List At) (N N' i : Nat) : runK Tryz.prog (qG Tryz.prog) Tryz.f122.ntmps (aiC2 (assoc [(16, .bool false)])) 40 aiLoop2 (aiF2 LG Z N N' i) (aiF2 LG Z N N' i) = some ([intOp .lss .i64 (Int.ofNat i) (Int.ofNat N) = some (.bool false)], .ex 0, aiF2 LG Z N N' i) := by kernel_rfl
set_option maxRecDepth 100000 in
theorem ai2_last (LG Z : List At) (N N' i : Nat) : runK Tryz.prog (qG Tryz.prog) Tryz.f122.ntmps (aiC2 fun _ => none) 40 (cB (cB (cB aiCode2))) (aiF2 LG Z N N' i) [.slot 4 (.sl 12 0 N N), .row 12 true Z, .slot 5 (.im (.int .i64 0))] = some ([], .rt, [.slot 4 (.sl 12 0 N N), .row 12 true Z, .slot 5 (.im (.int .i64 0))]) := by kernel_rfl
theorem ej2_same : Same (flat (ej2 zp2)) (.int .u64 0) := by unfold Same; kernel_rfl
theorem ai2_enter {w0 : World} {args : List Value} {N N' : Nat} {ps : Nat → G2N} (ha : CAs w0 [.v (.fl grp2), .s (cat (fun j => gq2 (ps j)) 0 N) N N'] args) (hN2 : N ≤ 65536) {R : Ending → World → Prop}
    (h : ∀ a w, Holds Tryz.f122.ntmps w0.heap.size w0 (aiF2 (cat (fun j => gq2 (ps j)) 0 N) (laid (fun j => ej2 (pj2 ps j)) (ej2 zp2) N 0) N N' 0) a w → (Code.loop aiLoop2).wp Tryz.prog (fun e a w => match e with | .exit 0 => (cB (cB (cB aiCode2))).wp Tryz.prog (bodyPost Tryz.prog Tryz.f122 R) a w | .ret => bodyPost Tryz.prog Tryz.f122 R .ret a w | _ => False) a w) : Calls Tryz.prog 122 args.toArray w0 R := by
  have hG : EqOkW Tryz.prog (qG Tryz.prog) w0.heap.size w0 := (qG_ok _).w _ _
  have hT : ∀ n d : Nat, TabOkW Tryz.prog T_tab2 w0.heap.size w0 := fun _ _ => ok_tab2.w _ _
  refine fn_enter Tryz.func122 (c := aiCode2) rfl ha (Nat.le_of_ble_eq_true (by kernel_rfl)) fun a w' hA => ?_
  rw [ai2_code]
  refine wp_seq (runKW_sound hmix hT hG (ai2_s0 _ N N') trivial hA fun a w' hA => ?_)
  refine wp_seq (runKW_sound hmix hT (qX_ok (x := aiXm2 N (cat (fun _ => ej2 zp2) 0 N)) (Fr0_ok _) fun _ _ _ h => h.elim) (ai2_s1 _ (cat (fun _ => ej2 zp2) 0 N) N N') ⟨made' (t := 161) (e := 120) (z := ej2 zp2) (v := .int .u64 0) (n := 24) (by8 := 192) (by kernel_rfl) (by kernel_rfl) rfl ej2_same (by omega) (by omega) (by omega), trivial⟩ hA fun a w' hA => ?_)
  refine wp_seq (wp_seq (runKW_sound hmix hT hG (ai2_s2 _ _ N N') trivial hA fun a w' hA => ?_))
  refine wp_block ?_
  rw [← laid_0 (fun j => ej2 (pj2 ps j))] at hA
  refine Code.wp_mono (fun e a w h => ?_) (h a w' hA)
  cases e with
  | exit id =>
    cases id with
    | zero => exact h
    | succ k => exact h.elim
  | ret => exact h
  | _ => exact h.elim
theorem ai2_step {w0 : World} {N N' : Nat} {ps : Nat → G2N} {i : Nat} (hi : i < N) (hN2 : N ≤ 65536) (h : (ckN2 (ps i)).1 = 0) : Ok Tryz.prog w0.heap.size w0 Tryz.f122.ntmps aiLoop2 (aiF2 (cat (fun j => gq2 (ps j)) 0 N) (laid (fun j => ej2 (pj2 ps j)) (ej2 zp2) N i) N N' i) .nrm (aiF2 (cat (fun j => gq2 (ps j)) 0 N) (laid (fun j => ej2 (pj2 ps j)) (ej2 zp2) N (i + 1)) N N' (i + 1)) :=
  ⟨_, _, _, _, qX_ok (x := aiX2 i (ps i) _) (Fr0_ok _) (fun _ _ _ h => h.elim), fun _ _ => ok_tab2.w _ _, ai2_rd _ _ (laid (fun j => ej2 (pj2 ps j)) (ej2 zp2) N (i + 1)) N N' i (ps i), o_lss_t hi, rfl, hi, seg_cat (f := fun j => gq2 (ps j)) (c := 17) (fun j => rfl) hi (Nat.zero_add _), neq_f h, rfl, hi, put_laid (f := fun j => ej2 (pj2 ps j)) (c := 24) (fun j => rfl) rfl hi (Nat.zero_add _), o_add (k := 1) (by omega), trivial⟩
theorem ai2_good {w0 : World} {args : List Value} {N N' : Nat} {ps : Nat → G2N} (ha : CAs w0 [.v (.fl grp2), .s (cat (fun j => gq2 (ps j)) 0 N) N N'] args) (hN2 : N ≤ 65536) (h : err2 ps N = 0) : Calls Tryz.prog 122 args.toArray w0 (fun e w' => FR.ok ⟨cat (fun j => ej2 (pj2 ps j)) 0 N, N, N, [.im (.int .i64 0)]⟩ w0 e w') := by
  have hG : EqOkW Tryz.prog (qG Tryz.prog) w0.heap.size w0 := (qG_ok _).w _ _
  have hT : ∀ n d : Nat, TabOkW Tryz.prog T_tab2 w0.heap.size w0 := fun _ _ => ok_tab2.w _ _
  refine ai2_enter ha hN2 fun a w hA => ?_
  refine loop_r hmix (fun i => aiF2 (cat (fun j => gq2 (ps j)) 0 N) (laid (fun j => ej2 (pj2 ps j)) (ej2 zp2) N i) N N' i) N (fun i hi => ai2_step hi hN2 (err2_ok h i hi)) (.ex 0) (by simp) (aiF2 (cat (fun j => gq2 (ps j)) 0 N) (cat (fun j => ej2 (pj2 ps j)) 0 N) N N' N) ?_ hA fun a w hA => ?_
  · rw [← laid_N (fun j => ej2 (pj2 ps j)) (ej2 zp2) N]
    exact ⟨_, _, _, _, hG, hT, ai2_end _ _ N N' N, o_lss_f (Nat.le_refl _), trivial⟩
  · show (cB (cB (cB aiCode2))).wp _ _ _ _
    exact runKW_sound hmix hT hG (ai2_last _ _ N N' N) trivial hA fun a w' hA => fn_leaveF (r := ⟨cat (fun j => ej2 (pj2 ps j)) 0 N, N, N, [.im (.int .i64 0)]⟩) (by kernel_rfl) hA
theorem ai2_badc {w0 : World} {args : List Value} {N N' : Nat} {ps : Nat → G2N} (ha : CAs w0 [.v (.fl grp2), .s (cat (fun j => gq2 (ps j)) 0 N) N N'] args) (hN2 : N ≤ 65536) (h : err2 ps N ≠ 0) : Good Tryz.prog 122 (.many [.im (.slice none 0 0), .im (.int .i64 (err2 ps N))]) args w0 := by
  have hG : EqOkW Tryz.prog (qG Tryz.prog) w0.heap.size w0 := (qG_ok _).w _ _
  have hT : ∀ n d : Nat, TabOkW Tryz.prog T_tab2 w0.heap.size w0 := fun _ _ => ok_tab2.w _ _
  obtain ⟨j, hj, h1, h2, h3⟩ := err2_bad h
  rw [h3]
  refine ai2_enter ha hN2 fun a w hA => ?_
  refine loop_r hmix (fun i => aiF2 (cat (fun j => gq2 (ps j)) 0 N) (laid (fun j => ej2 (pj2 ps j)) (ej2 zp2) N i) N N' i) j (fun i hi => ai2_step (by omega) hN2 (h1 i hi)) .rt (by simp) [.slot 4 (.im (.slice none 0 0)), .slot 5 (.im (.int .i64 (ckN2 (ps j)).1))] ?_ hA fun a w hA => ?_
  · exact ⟨_, _, _, _, qX_ok (x := aiX2 j (ps j) _) (Fr0_ok _) (fun _ _ _ h => h.elim), fun _ _ => ok_tab2.w _ _, ai2_bd _ _ N N' j (ps j), o_lss_t hj, rfl, hj, seg_cat (f := fun j => gq2 (ps j)) (c := 17) (fun j => rfl) hj (Nat.zero_add _), neq_t h2, trivial⟩
  · exact fn_leave (l := [.im (.slice none 0 0), .im (.int .i64 (ckN2 (ps j)).1)]) (r := .many [.im (.slice none 0 0), .im (.int .i64 (ckN2 (ps j)).1)]) (by kernel_rfl) (by kernel_rfl) hA
/-- the sum of so many -/
noncomputable def tot2 (pt : Nat → J2) : Nat → J2
  | 0 => zp2
  | i + 1 => jplus F2 (tot2 pt i) (pt i)
def toF2 (L : List At) (N N' i : Nat) (s : J2) : List Fact := [.row 0 false L, .slot 2 (.pt 2 0), .row 2 true (ej2 zp2), .slot 3 (.pt 3 0), .row 3 true (ej2 s), .slot 6 (.sl 0 0 N N'), .slot 7 (.im (iI N)), .slot 8 (.im (iI i))]
noncomputable def toCode2 : Code := (Tryz.f123.body).getD .skip
noncomputable def toLoop2 : Code := cIn (cIn (cB (cA (cB (cB toCode2)))))
theorem to2_code : toCode2 = .seq (cA toCode2) (.seq (cA (cB toCode2)) (.seq (.seq (cA (cA (cB (cB toCode2)))) (.block 0 (.loop toLoop2))) (cB (cB (cB toCode2))))) := by kernel_rfl
def toA2 (L : List At) (N N' : Nat) : List Fact := [.slot 0 (.sl 0 0 N N'), .row 0 false L, .slot 2 (.pt 2 0), .row 2 true (ej2 zp2)]
def toB2 (L : List At) (N N' : Nat) : List Fact := [.slot 0 (.sl 0 0 N N'), .row 0 false L, .slot 2 (.pt 2 0), .row 2 true (ej2 zp2), .slot 3 (.pt 3 0), .row 3 true (ej2 zp2)]
set_option maxRecDepth 100000 in
theorem to2_s0 (L : List At) (N N' : Nat) : runK Tryz.prog (qG Tryz.prog) Tryz.f123.ntmps (aiC2 fun _ => none) 40 (cA toCode2) (argF 0 [.s L N N']) (toA2 L N N') = some ([], .nrm, toA2 L N N') := by kernel_rfl
set_option maxRecDepth 100000 in
theorem to2_s1 (L : List At) (N N' : Nat) : runK Tryz.prog (qG Tryz.prog) Tryz.f123.ntmps (aiC2 fun _ => none) 40 (cA (cB toCode2)) (toA2 L N N') (toB2 L N N') = some ([], .nrm, toB2 L N N') := by kernel_rfl
set_option maxRecDepth 100000 in
theorem to2_s2 (L : List At) (N N' : Nat) : runK Tryz.prog (qG Tryz.prog) Tryz.f123.ntmps (aiC2 fun _ => none) 40 (cA (cA (cB (cB toCode2)))) (toB2 L N N') (toF2 L N N' 0 zp2) = some ([], .nrm, toF2 L N N' 0 zp2) := by kernel_rfl
noncomputable def toX2 (i : Nat) (p : J2) : Ext := { xt0 (fun _ _ _ => False) with idx := assoc [(10, i)], ld := assoc [(11, ej2 p)] }
set_option maxRecDepth 100000 in
theorem to2_rd (L : List At) (N N' i : Nat) (s p : J2) : runK Tryz.prog (qX Tryz.prog (toX2 i p)) Tryz.f123.ntmps (aiC2 (assoc [(9, .bool true), (15, iI (i + 1))])) 40 toLoop2 (toF2 L N N' i s) (toF2 L N N' (i + 1) (jplus F2 s p)) = some ([intOp .lss .i64 (Int.ofNat i) (Int.ofNat N) = some (.bool true), Int.ofNat i = Int.ofNat i, i < N, seg L (0 + i * 24) 24 = some (ej2 p), intOp .add .i64 (Int.ofNat i) 1 = some (iI (i + 1))], .nrm, toF2 L N N' (i + 1) (jplus F2 s p)) := by kernel_rfl
set_option maxRecDepth 100000 in
theorem to2_end (L : List At) (N N' i : Nat) (s : J2) : runK Tryz.prog (qG Tryz.prog) Tryz.f123.ntmps (aiC2 (assoc [(9, .bool false)])) 40 toLoop2 (toF2 L N N' i s) (toF2 L N N' i s) = some ([intOp .lss .i64 (Int.ofNat i) (Int.ofNat N) = some (.bool false)], .ex 0, toF2 L N N' i s) := by kernel_rfl
set_option maxRecDepth 100000 in
theorem to2_last (L : List At) (N N' i : Nat) (s : J2) : runK Tryz.prog (qG Tryz.prog) Tryz.f123.ntmps (aiC2 fun _ => none) 40 (cB (cB (cB toCode2))) (toF2 L N N' i s) [.slot 2 (.pt 2 0), .row 2 true (ej2 s)] = some ([], .rt, [.slot 2 (.pt 2 0), .row 2 true (ej2 s)]) := by kernel_rfl
theorem to2_calls {w0 : World} {args : List Value} {N N' : Nat} {pt : Nat → J2} (ha : CAs w0 [.s (cat (fun j => ej2 (pt j)) 0 N) N N'] args) (hN2 : N ≤ 65536) : Good Tryz.prog 123 (.one (.fl (ej2 (tot2 pt N)))) args w0 := by
  have hG : EqOkW Tryz.prog (qG Tryz.prog) w0.heap.size w0 := (qG_ok _).w _ _
  have hT : ∀ n d : Nat, TabOkW Tryz.prog T_tab2 w0.heap.size w0 := fun _ _ => ok_tab2.w _ _
  refine fn_enter Tryz.func123 (c := toCode2) rfl ha (Nat.le_of_ble_eq_true (by kernel_rfl)) fun a w' hA => ?_
  rw [to2_code]
  refine wp_seq (runKW_sound hmix hT hG (to2_s0 _ N N') trivial hA fun a w' hA => ?_)
  refine wp_seq (runKW_sound hmix hT hG (to2_s1 _ N N') trivial hA fun a w' hA => ?_)
  refine wp_seq (wp_seq (runKW_sound hmix hT hG (to2_s2 _ N N') trivial hA fun a w' hA => ?_))
  refine wp_block ?_
  refine loop_r hmix (fun i => toF2 (cat (fun j => ej2 (pt j)) 0 N) N N' i (tot2 pt i)) N (fun i hi => ?_) (.ex 0) (by simp) (toF2 (cat (fun j => ej2 (pt j)) 0 N) N N' N (tot2 pt N)) ?_ hA fun a w' hA => ?_
  · exact ⟨_, _, _, _, qX_ok (x := toX2 i (pt i)) (Fr0_ok _) (fun _ _ _ h => h.elim), hT, to2_rd _ N N' i _ (pt i), o_lss_t hi, rfl, hi, seg_cat (f := fun j => ej2 (pt j)) (c := 24) (fun j => rfl) hi (Nat.zero_add _), o_add (k := 1) (by omega), trivial⟩
  · exact ⟨_, _, _, _, hG, hT, to2_end _ N N' N _, o_lss_f (Nat.le_refl _), trivial⟩
  · show (cB (cB (cB toCode2))).wp _ _ _ _
    exact runKW_sound hmix hT hG (to2_last _ N N' N _) trivial hA fun a w' hA => fn_leave (l := [.fl (ej2 (tot2 pt N))]) (r := .one (.fl (ej2 (tot2 pt N)))) (by kernel_rfl) (by kernel_rfl) hA
/-- the entries of the list functions, for given lists -/
noncomputable def sumM2 (pt : Nat → J2) (x : Nat → Nat) (N : Nat) : J2 := ov2 (fun p => cs2 pt x p N) (mxL x N / 4 + 1) (mxL x N / 4 + 1)
noncomputable def gBt2 (pt : Nat → J2) (x : Nat → Nat) (N : Nat) : Ent
  | [.s LP n1 n2, .s LX n3 n4] => some ([flat LP = flat (cat (fun j => ej2 (pt j)) 0 N), flat LX = flat (cat (fun j => [.q (x j)]) 0 N), n1 = N, n3 = N, N ≤ 65536], .one (.fl (ej2 (sumM2 pt x N))))
  | _ => none
theorem gBt2_ok {w : World} {pt : Nat → J2} {x : Nat → Nat} {N : Nat} : ∀ cs pre r, gBt2 pt x N cs = some (pre, r) → allP pre → ∀ (args : List Value), CAs w cs args → Good Tryz.prog 164 r args w := by
  intro cs pre r hg hq args ha
  unfold gBt2 at hg
  split at hg
  · rename_i LP n1 n2 LX n3 n4
    cases hg
    obtain ⟨h1, h2, rfl, rfl, h5, _⟩ := hq
    match args, ha with
    | [u, v], ha =>
      obtain ⟨b1, o1, e1, hb1, hr1⟩ := ha.1
      obtain ⟨b2, o2, e2, hb2, hr2⟩ := ha.2.1
      subst e1; subst e2
      refine bt2_calls h1 ⟨hb1, hr1⟩ (fun j hj => ⟨hb2, ?_⟩) (Nat.le_refl _) h5 (by omega)
      rw [h2] at hr2
      exact range_cat (f := fun j => [At.q (x j)]) (c := 4) (fun _ => rfl) hj hr2
    | [], ha => exact ha.elim
    | [_], ha => exact ha.2.elim
    | _ :: _ :: _ :: _, ha => exact ha.2.2.elim
  · cases hg
set_option maxRecDepth 100000 in
theorem run_mu2 (LP LX : List At) (n1 n2 n3 n4 N : Nat) (pt : Nat → J2) (x : Nat → Nat) : funB Tryz.prog (qG Tryz.prog) (fun _ => ⟨fun _ => (T_tab2).add 164 (gBt2 pt x N), fun _ => true, assoc [(7, .bool true)]⟩) Tryz.f127 40 [.s LP n1 n2, .s LX n3 n4] = some ([intOp .lss .i64 (Int.ofNat n1) 32 = some (.bool true), flat LP = flat (cat (fun j => ej2 (pt j)) 0 N), flat LX = flat (cat (fun j => [.q (x j)]) 0 N), n1 = N, n3 = N, N ≤ 65536], .one (.fl (ej2 (sumM2 pt x N)))) := by kernel_rfl
noncomputable def gMu2 (pt : Nat → J2) (x : Nat → Nat) (N : Nat) : Ent
  | [.s LP n1 n2, .s LX n3 n4] => some ([flat LP = flat (cat (fun j => ej2 (pt j)) 0 N), flat LX = flat (cat (fun j => [.q (x j)]) 0 N), n1 = N, n3 = N, N < 32], .one (.fl (ej2 (sumM2 pt x N))))
  | _ => none
theorem gMu2_ok {w : World} {pt : Nat → J2} {x : Nat → Nat} {N : Nat} : ∀ cs pre r, gMu2 pt x N cs = some (pre, r) → allP pre → ∀ (args : List Value), CAs w cs args → Good Tryz.prog 127 r args w := by
  intro cs pre r hg hq args ha
  unfold gMu2 at hg
  split at hg
  · rename_i LP n1 n2 LX n3 n4
    cases hg
    obtain ⟨h1, h2, h3, h4, h5, _⟩ := hq
    exact funB_soundW hmix (fun _ _ => TabOkW.add (ok_tab2.w _ _) Tryz.func164 (by kernel_rfl) (by kernel_rfl) fun w hw => gBt2_ok) ((qG_ok Tryz.prog).w _ _) Tryz.func127 (run_mu2 LP LX n1 n2 n3 n4 N pt x) ⟨by rw [h3]; exact o_lss_t (n := 32) h5, h1, h2, h3, h4, by omega, trivial⟩ ha
  · cases hg
noncomputable def gAi2 (ps : Nat → G2N) (N : Nat) : List CA → Option (List Prop × FR)
  | [.v (.fl l), .s L n1 n2] => some ([flat l = flat grp2, flat L = flat (cat (fun j => gq2 (ps j)) 0 N), n1 = N, N ≤ 65536, err2 ps N = 0], ⟨cat (fun j => ej2 (pj2 ps j)) 0 N, N, N, [.im (.int .i64 0)]⟩)
  | _ => none
noncomputable def gAb2 (ps : Nat → G2N) (N : Nat) : Ent
  | [.v (.fl l), .s L n1 n2] => some ([flat l = flat grp2, flat L = flat (cat (fun j => gq2 (ps j)) 0 N), n1 = N, N ≤ 65536, err2 ps N ≠ 0], .many [.im (.slice none 0 0), .im (.int .i64 (err2 ps N))])
  | _ => none
theorem ai2_cas {w : World} {ps : Nat → G2N} {N n1 n2 : Nat} {l L : List At} (h1 : flat l = flat grp2) (h2 : flat L = flat (cat (fun j => gq2 (ps j)) 0 N)) {args : List Value} (ha : CAs w [.v (.fl l), .s L n1 n2] args) : CAs w [.v (.fl grp2), .s (cat (fun j => gq2 (ps j)) 0 N) n1 n2] args := by
  match args, ha with
  | [u, v], ha =>
    obtain ⟨b, o, e, hb, hr⟩ := ha.2.1
    refine ⟨?_, ⟨b, o, e, hb, by rw [← h2]; exact hr⟩, trivial⟩
    show u = .agg (flat grp2).toArray
    rw [← h1]; exact ha.1
  | [], ha => exact ha.elim
  | [_], ha => exact ha.2.elim
  | _ :: _ :: _ :: _, ha => exact ha.2.2.elim
theorem gAi2_ok {ps : Nat → G2N} {N : Nat} : ∀ cs pre r, gAi2 ps N cs = some (pre, r) → allP pre → ∀ (args : List Value) (w : World), CAs w cs args → Calls Tryz.prog 122 args.toArray w (fun e w' => r.ok w e w') := by
  intro cs pre r hg hq args w ha
  unfold gAi2 at hg
  split at hg
  · cases hg
    obtain ⟨h1, h2, rfl, h4, h5, _⟩ := hq
    exact ai2_good (ai2_cas h1 h2 ha) h4 h5
  · cases hg
theorem gAb2_ok {ps : Nat → G2N} {N : Nat} : ∀ cs pre r, gAb2 ps N cs = some (pre, r) → allP pre → ∀ (args : List Value) (w : World), CAs w cs args → Good Tryz.prog 122 r args w := by
  intro cs pre r hg hq args w ha
  unfold gAb2 at hg
  split at hg
  · cases hg
    obtain ⟨h1, h2, rfl, h4, h5, _⟩ := hq
    exact ai2_badc (ai2_cas h1 h2 ha) h4 h5
  · cases hg
noncomputable def gTo2 (pt : Nat → J2) (N : Nat) : Ent
  | [.s L n1 n2] => some ([flat L = flat (cat (fun j => ej2 (pt j)) 0 N), n1 = N, N ≤ 65536], .one (.fl (ej2 (tot2 pt N))))
  | _ => none
theorem gTo2_ok {pt : Nat → J2} {N : Nat} : ∀ cs pre r, gTo2 pt N cs = some (pre, r) → allP pre → ∀ (args : List Value) (w : World), CAs w cs args → Good Tryz.prog 123 r args w := by
  intro cs pre r hg hq args w ha
  unfold gTo2 at hg
  split at hg
  · rename_i L n1 n2
    cases hg
    obtain ⟨h1, rfl, h3, _⟩ := hq
    refine to2_calls (N' := n2) ?_ h3
    match args, ha with
    | [u], ha =>
      obtain ⟨b, o, e, hb, hr⟩ := ha.1
      exact ⟨⟨b, o, e, hb, by rw [← h1]; exact hr⟩, trivial⟩
    | [], ha => exact ha.elim
    | _ :: _ :: _, ha => exact ha.2.elim
  · cases hg
noncomputable def xAi2 (ps : Nat → G2N) (N : Nat) : Ext := { xt0 (fun _ _ _ => False) with T2 := Fr0.add 122 (gAi2 ps N) }
theorem xAi2_ok (ps : Nat → G2N) (N : Nat) (w : World) : EqOkW Tryz.prog (qX Tryz.prog (xAi2 ps N)) w.heap.size w := qX_ok ((Fr0_ok _).add Tryz.func122 (by kernel_rfl) (by kernel_rfl) gAi2_ok) fun _ _ _ h => h.elim
set_option maxRecDepth 100000 in
theorem run_mm2_e (LG LX : List At) (N n2 n n4 : Nat) (ps : Nat → G2N) : funB Tryz.prog (qG Tryz.prog) (fun _ => ⟨fun _ => (T_tab2).add 122 (gAb2 ps N), fun _ => true, assoc [(15, .bool false), (19, .bool false), (29, .bool true)]⟩) Tryz.f73 60 [.v (.fl grp2), .s LG N n2, .s LX n n4] = some ([intOp .neq .i64 (Int.ofNat N) (Int.ofNat n) = some (.bool false), intOp .gtr .i64 (Int.ofNat N) 65536 = some (.bool false), flat grp2 = flat grp2, flat LG = flat (cat (fun j => gq2 (ps j)) 0 N), N = N, N ≤ 65536, err2 ps N ≠ 0, intOp .neq .i64 (err2 ps N) 0 = some (.bool true)], .many [.fl (gf2 (some (F2.zero, F2.zero))), .im (.int .i64 (err2 ps N))]) := by kernel_rfl
set_option maxRecDepth 100000 in
theorem run_mm2_g (LG LX : List At) (N n2 n n4 : Nat) (ps : Nat → G2N) (x : Nat → Nat) : funB Tryz.prog (qX Tryz.prog (xAi2 ps N)) (fun _ => ⟨fun _ => (T_tab2).add 127 (gMu2 (pj2 ps) x N), fun _ => true, assoc [(15, .bool false), (19, .bool false)]⟩) Tryz.f73 60 [.v (.fl grp2), .s LG N n2, .s LX n n4] = some ([intOp .neq .i64 (Int.ofNat N) (Int.ofNat n) = some (.bool false), intOp .gtr .i64 (Int.ofNat N) 65536 = some (.bool false), flat grp2 = flat grp2, flat LG = flat (cat (fun j => gq2 (ps j)) 0 N), N = N, N ≤ 65536, err2 ps N = 0, flat (cat (fun j => ej2 (pj2 ps j)) 0 N) = flat (cat (fun j => ej2 (pj2 ps j)) 0 N), flat LX = flat (cat (fun j => [.q (x j)]) 0 N), N = N, n = N, N < 32], .many [.fl (gf2 (jto F2 iv2 (sumM2 (pj2 ps) x N))), .im (.int .i64 0)]) := by kernel_rfl
set_option maxRecDepth 100000 in
theorem run_su2_e (LG : List At) (N n2 : Nat) (ps : Nat → G2N) : funB Tryz.prog (qG Tryz.prog) (fun _ => ⟨fun _ => (T_tab2).add 122 (gAb2 ps N), fun _ => true, assoc [(11, .bool false), (20, .bool true)]⟩) Tryz.f69 60 [.v (.fl grp2), .s LG N n2] = some ([intOp .gtr .i64 (Int.ofNat N) 65536 = some (.bool false), flat grp2 = flat grp2, flat LG = flat (cat (fun j => gq2 (ps j)) 0 N), N = N, N ≤ 65536, err2 ps N ≠ 0, intOp .neq .i64 (err2 ps N) 0 = some (.bool true)], .many [.fl (gf2 (some (F2.zero, F2.zero))), .im (.int .i64 (err2 ps N))]) := by kernel_rfl
set_option maxRecDepth 100000 in
theorem run_su2_g (LG : List At) (N n2 : Nat) (ps : Nat → G2N) : funB Tryz.prog (qX Tryz.prog (xAi2 ps N)) (fun _ => ⟨fun _ => (T_tab2).add 123 (gTo2 (pj2 ps) N), fun _ => true, assoc [(11, .bool false)]⟩) Tryz.f69 60 [.v (.fl grp2), .s LG N n2] = some ([intOp .gtr .i64 (Int.ofNat N) 65536 = some (.bool false), flat grp2 = flat grp2, flat LG = flat (cat (fun j => gq2 (ps j)) 0 N), N = N, N ≤ 65536, err2 ps N = 0, flat (cat (fun j => ej2 (pj2 ps j)) 0 N) = flat (cat (fun j => ej2 (pj2 ps j)) 0 N), N = N, N ≤ 65536], .many [.fl (gf2 (jto F2 iv2 (tot2 (pj2 ps) N))), .im (.int .i64 0)]) := by kernel_rfl
/-- what a sum of multiples answers, of less than 32 points -/
noncomputable def resM2 (ps : Nat → G2N) (x : Nat → Nat) (N : Nat) : Pt Q2 × Int := if err2 ps N ≠ 0 then (some (F2.zero, F2.zero), err2 ps N) else (jto F2 iv2 (sumM2 (pj2 ps) x N), 0)
theorem mm2_calls {w0 : World} {args : List Value} {LG LX : List At} {N n2 n4 : Nat} {ps : Nat → G2N} {x : Nat → Nat} (h1 : flat LG = flat (cat (fun j => gq2 (ps j)) 0 N)) (h2 : flat LX = flat (cat (fun j => [.q (x j)]) 0 N)) (hN : N < 32) (ha : CAs w0 [.v (.fl grp2), .s LG N n2, .s LX N n4] args) : Good Tryz.prog 73 (.many [.fl (gf2 (resM2 ps x N).1), .im (.int .i64 (resM2 ps x N).2)]) args w0 := by
  have g1 : intOp .neq .i64 (Int.ofNat N) (Int.ofNat N) = some (.bool false) := by rw [o_neq, decide_eq_false (by simp)]
  have g2 : intOp .gtr .i64 (Int.ofNat N) 65536 = some (.bool false) := by
    have := o_gtr (i := N) (n := 65536)
    rw [decide_eq_false (by omega)] at this
    exact this
  unfold resM2
  by_cases h : err2 ps N = 0
  · rw [if_neg (fun q => q h)]
    exact funB_soundW hmix (fun _ _ => TabOkW.add (ok_tab2.w _ _) Tryz.func127 (by kernel_rfl) (by kernel_rfl) fun w hw => gMu2_ok) (xAi2_ok ps N w0) Tryz.func73 (run_mm2_g LG LX N n2 N n4 ps x) ⟨g1, g2, rfl, h1, rfl, by omega, h, rfl, h2, rfl, rfl, hN, trivial⟩ ha
  · rw [if_pos h]
    exact funB_soundW hmix (fun _ _ => (ok_tab2.add Tryz.func122 (by kernel_rfl) (by kernel_rfl) gAb2_ok).w _ _) ((qG_ok Tryz.prog).w _ _) Tryz.func73 (run_mm2_e LG LX N n2 N n4 ps) ⟨g1, g2, rfl, h1, rfl, by omega, h, neq_t h, trivial⟩ ha
noncomputable def resS2 (ps : Nat → G2N) (N : Nat) : Pt Q2 × Int := if err2 ps N ≠ 0 then (some (F2.zero, F2.zero), err2 ps N) else (jto F2 iv2 (tot2 (pj2 ps) N), 0)
theorem su2_calls {w0 : World} {args : List Value} {LG : List At} {N n2 : Nat} {ps : Nat → G2N} (h1 : flat LG = flat (cat (fun j => gq2 (ps j)) 0 N)) (hN : N ≤ 65536) (ha : CAs w0 [.v (.fl grp2), .s LG N n2] args) : Good Tryz.prog 69 (.many [.fl (gf2 (resS2 ps N).1), .im (.int .i64 (resS2 ps N).2)]) args w0 := by
  have g2 : intOp .gtr .i64 (Int.ofNat N) 65536 = some (.bool false) := by
    have := o_gtr (i := N) (n := 65536)
    rw [decide_eq_false (by omega)] at this
    exact this
  unfold resS2
  by_cases h : err2 ps N = 0
  · rw [if_neg (fun q => q h)]
    exact funB_soundW hmix (fun _ _ => (ok_tab2.add Tryz.func123 (by kernel_rfl) (by kernel_rfl) gTo2_ok).w _ _) (xAi2_ok ps N w0) Tryz.func69 (run_su2_g LG N n2 ps) ⟨g2, rfl, h1, rfl, hN, h, rfl, rfl, hN, trivial⟩ ha
  · rw [if_pos h]
    exact funB_soundW hmix (fun _ _ => (ok_tab2.add Tryz.func122 (by kernel_rfl) (by kernel_rfl) gAb2_ok).w _ _) ((qG_ok Tryz.prog).w _ _) Tryz.func69 (run_su2_e LG N n2 ps) ⟨g2, rfl, h1, rfl, hN, h, neq_t h, trivial⟩ ha

end Go.Proofs.YthlcjdcjnioeoaaGreat.Ex
