/-
  Read1 and the reference's answer alike on 64 bytes too. Conditions: they are below 256.
  The law PointsOne answers true, whatever it is handed. Conditions: none.
  The law PointsReadOne on a list that is not empty, out of what CopyBytes and both Read1 answer. Conditions: their contracts.
  CopyBytes of a list of any length; the law PointsReadOne on it. Conditions: the bytes are below 256.
  From a row's premises to a walk's: an argument of four words is opened. Conditions: none of its own.
-/
import Derived.ProofKit
import Derived.LaidMore
import Derived.OpenShut
import Derived.Stop.Joined
import Derived.Carry
import Derived.RowKit
import Derived.ChangeSame
import Derived.JoinedOf
import Derived.JoinedAt
import Derived.Laws.IdiomArrays
import Derived.Test.YtebaoemoeckgaaaPr37
import Derived.Test.YtebaoemoeckgaaaPr35
import Derived.Test.YtebaoemoeckgaaaRows
import Derived.Test.YtebaoemoeckgaaaPr00
namespace Go.Proofs.Ytebaoemoeckgaaa.Ex
set_option linter.unusedVariables false
set_option linter.unusedSimpArgs false
open Go.RowKit

theorem all64 {A B : List Nat} (hA : A.length = 32) : (∀ k, k < 64 → (A ++ B).getD k 0 = 0) ↔ (∀ k, k < 32 → A.getD k 0 = 0) ∧ ∀ k, k < 32 → B.getD k 0 = 0 := by
  have h1 : ∀ k, k < 32 → (A ++ B).getD k 0 = A.getD k 0 := fun k hk => by rw [List.getD_eq_getElem?_getD, List.getElem?_append_left (by omega), ← List.getD_eq_getElem?_getD]
  have h2 : ∀ k, (A ++ B).getD (32 + k) 0 = B.getD k 0 := fun k => by rw [List.getD_eq_getElem?_getD, List.getElem?_append_right (by omega), hA, Nat.add_sub_cancel_left, ← List.getD_eq_getElem?_getD]
  constructor
  · intro h
    exact ⟨fun k hk => by rw [← h1 k hk]; exact h k (by omega), fun k hk => by rw [← h2 k]; exact h (32 + k) (by omega)⟩
  · rintro ⟨g1, g2⟩ k hk
    by_cases hlt : k < 32
    · rw [h1 k hlt]; exact g1 k hlt
    · obtain ⟨j, rfl⟩ : ∃ j, k = 32 + j := ⟨k - 32, by omega⟩
      rw [h2 j]; exact g2 j (by omega)
def zz6 (L : List Nat) : List At := zL (lB (L.take 32)) ++ bL (lB (L.drop 32))
def nz6 (L : List Nat) : List Nat := zN (lB (L.take 32)) ++ bN (lB (L.drop 32))
theorem nz6_take (L : List Nat) : (nz6 L).take 32 = zN (lB (L.take 32)) := rfl
theorem nz6_drop {L : List Nat} (h : L6 L) : (nz6 L).drop 32 = L.drop 32 := by
  have : (nz6 L).drop 32 = bN (lB (L.drop 32)) := rfl
  rw [this]
  exact bN_of h.2.1
theorem nz6_l6 {L : List Nat} (h : L6 L) : L6 (nz6 L) := ⟨by rw [nz6_take]; exact zN_l8 h.1, by rw [nz6_drop h]; exact h.2⟩
theorem nz6_zero {L : List Nat} (h : L6 L) : (∀ k, k < 64 → (nz6 L).getD k 0 = 0) ↔ hi L = 0 ∧ lo L = 0 := by
  have e1 : bN (lB (L.drop 32)) = L.drop 32 := bN_of h.2.1
  unfold nz6
  rw [e1, all64 (zN_len h.1.1), ← hv_zero, ← hv_zero, zN_hv h.1]
  exact Iff.rfl
theorem h64 {L : List Nat} (h6 : L6 L) {m : Nat} (hb : (L.take 32).getD 0 0 / 64 = m) : allP (p64 m (lB (L.take 32)) (lB (L.drop 32))) := ⟨by
  rw [show bN (lB (L.take 32)) = L.take 32 from bN_of h6.1.1, show bN (lB (L.drop 32)) = L.drop 32 from bN_of h6.2.1, List.take_append_drop]
  exact h6, hb, trivial⟩
theorem begin_64 {l : List At} {L : List Nat} (hL : bys l = some L) (h6 : L6 L) (hb : (L.take 32).getD 0 0 / 64 = 0) (c : Nat) : HBg l 64 c (rBg (zz6 L) 64 0 false) := fun args w ha =>
  funS_sound hmix (fun _ _ => (ok_ba true).w _ _) (xB_ok 0 w) Try.func36 (run_bg64_0 (lB (L.take 32)) (lB (L.drop 32)) c) (h64 h6 hb) (casT (bL6_of hL h6) ha)
theorem begin_64i {l : List At} {L : List Nat} (hL : bys l = some L) (h6 : L6 L) (hb : (L.take 32).getD 0 0 / 64 = 1) (hz : ∀ k, k < 64 → (nz6 L).getD k 0 = 0) (c : Nat) : HBg l 64 c (rBg (zz6 L) 64 1 true) := fun args w ha =>
  funS_sound hmix (fun _ _ => (ok_ba true).w _ _) (xB_ok 1 w) Try.func36 (run_bg64_1t (lB (L.take 32)) (lB (L.drop 32)) c) (allP_append.2 ⟨h64 h6 hb, rfl, by decide, hz, trivial⟩) (casT (bL6_of hL h6) ha)
theorem begin_64n {l : List At} {L : List Nat} (hL : bys l = some L) (h6 : L6 L) (h : (L.take 32).getD 0 0 / 64 = 2 ∨ (L.take 32).getD 0 0 / 64 = 3 ∨ (L.take 32).getD 0 0 / 64 = 1 ∧ ¬ ∀ k, k < 64 → (nz6 L).getD k 0 = 0) (c : Nat) : HasR 36 [.s l 64 c, .v (.im (.int .i64 32))] (rNo 44) := fun args w ha => by
  rcases h with hb | hb | ⟨hb, hz⟩
  · exact funB_soundW hmix (fun _ _ => (ok_ba true).w _ _) (xB_ok 2 w) Try.func36 (run_bg64_2 (lB (L.take 32)) (lB (L.drop 32)) c) (h64 h6 hb) (casT (bL6_of hL h6) ha)
  · exact funB_soundW hmix (fun _ _ => (ok_ba true).w _ _) (xB_ok 3 w) Try.func36 (run_bg64_3 (lB (L.take 32)) (lB (L.drop 32)) c) (h64 h6 hb) (casT (bL6_of hL h6) ha)
  · exact funB_soundW hmix (fun _ _ => (ok_ba false).w _ _) (xB_ok 1 w) Try.func36 (run_bg64_1f (lB (L.take 32)) (lB (L.drop 32)) c) (allP_append.2 ⟨h64 h6 hb, rfl, by decide, hz, trivial⟩) (casT (bL6_of hL h6) ha)
theorem ref_no64 {l : List At} {c : Nat} (h : HasR 36 [.s l 64 c, .v (.im (.int .i64 32))] (rNo 44)) : R2 l 64 c (0, 0, false) 44 := fun args w ha =>
  good_fl zG_flat (funB_sound hmix (fun _ _ => ok_bn 44) (qG_ok Try.prog) Try.func17 (run_rr_s44 l 64 c) ⟨h, trivial⟩ ha)
theorem hv6 (L : List Nat) (h6 : L6 L) : hv ((nz6 L).take 32) = hi L ∧ hv ((nz6 L).drop 32) = lo L := ⟨by rw [nz6_take, zN_hv h6.1]; rfl, by rw [nz6_drop h6]; rfl⟩
theorem pa_64 {L : List Nat} (h6 : L6 L) (h : blw (hi L) = true) (h' : blw (lo L) = true) (cap : Nat) (hc : 64 ≤ cap) : HPa (zz6 L) 64 cap (rPa [.q (hi L), .q (lo L)] 2) := fun args w ha => by
  obtain ⟨e1, e2⟩ := hv6 L h6
  have hh := gPa_ok [.s (zz6 L) 64 cap] [L6 (nz6 L), 64 ≤ cap, blw (hv ((nz6 L).take 32)) = true, blw (hv ((nz6 L).drop 32)) = true] (rPa [.q (hv ((nz6 L).take 32)), .q (hv ((nz6 L).drop 32))] 2) rfl ⟨nz6_l6 h6, hc, by rw [e1]; exact h, by rw [e2]; exact h', trivial⟩ args w ha
  rw [e1, e2] at hh
  exact hh
theorem pn_64 {L : List Nat} (h6 : L6 L) (h : ¬ (blw (hi L) = true ∧ blw (lo L) = true)) (cap : Nat) (hc : 64 ≤ cap) : HasR 37 [.s (zz6 L) 64 cap] pNo := fun args w ha => by
  obtain ⟨e1, e2⟩ := hv6 L h6
  exact gPn_ok [.s (zz6 L) 64 cap] [L6 (nz6 L), 64 ≤ cap, ¬ (blw (hv ((nz6 L).take 32)) = true ∧ blw (hv ((nz6 L).drop 32)) = true)] pNo rfl ⟨nz6_l6 h6, hc, by rw [e1, e2]; exact h, trivial⟩ args w ha
theorem ref_pt {l rest : List At} {n m c x y : Nat} (h : HBg l n c (rBg rest n m false)) (hp : ∀ cap, n ≤ cap → HPa rest n cap (rPa [.q x, .q y] 2)) (hc : (ck1 x y false).1 = 0) : R2 l n c (x, y, false) 0 := fun args w ha =>
  rr_calls (r := gq1 (x, y, false)) h (fun cap hcap => ⟨_, cfB (T_rq true true), _, xPa_ok [.q x, .q y] 2, fun _ _ => ok_rq true true, rr_64_t rest n m cap x y, hp cap hcap, hc, trivial⟩) (by kernel_rfl) args w ha
theorem ref_off {l rest : List At} {n m c x y : Nat} (h : HBg l n c (rBg rest n m false)) (hp : ∀ cap, n ≤ cap → HPa rest n cap (rPa [.q x, .q y] 2)) (hc : (ck1 x y false).1 ≠ 0) : R2 l n c (0, 0, false) 41 := fun args w ha =>
  good_fl zG_flat (rr_calls h (fun cap hcap => ⟨_, cfN (T_rq true false) 75, _, xPa_ok [.q x, .q y] 2, fun _ _ => ok_rq true false, rr_64_f rest n m cap x y, hp cap hcap, bad_ne hc, trivial⟩) (by kernel_rfl) args w ha)
theorem wv_hi (L : List Nat) : wv (hi L) = hi L := wv_xv _
theorem wv_lo {L : List Nat} (h : L6 L) : wv (lo L) = lo L := wv_hv h.2
theorem both64 {l : List At} {L : List Nat} (hL : bys l = some L) (h6 : L6 L) : Both l 64 := by
  rcases mark_lt h6.1 with hb | hb | hb | hb
  · by_cases hk : wv (hi L) < FP.M ∧ wv (lo L) < FP.M
    · have hp := pa_64 h6 (blw_t.2 hk.1) (blw_t.2 hk.2)
      by_cases hs : F1.mul (m1 (lo L)) (m1 (lo L)) = ysX true (hi L)
      · have hc := ck_yes hk.1 hk.2 hs
        exact ⟨(hi L, lo L, false), 0, fun cap hcap => our_ok3 hc fun q args w ha => rl_both true hL h6 hb hcap q args w ha, fun c => ref_pt (begin_64 hL h6 hb c) hp hc⟩
      · have hc := ck_off hk.1 hk.2 hs
        exact ⟨(0, 0, false), 41, fun cap hcap => our_bad3 hc (by decide) fun q args w ha => rl_both false hL h6 hb hcap q args w ha, fun c => ref_off (begin_64 hL h6 hb c) hp (by rw [hc]; decide)⟩
    · have hc := ck_not hk
      have hn : ¬ (blw (hi L) = true ∧ blw (lo L) = true) := fun q => hk ⟨blw_t.1 q.1, blw_t.1 q.2⟩
      exact ⟨(0, 0, false), 21, fun cap hcap => our_bad3 hc (by decide) fun q args w ha => rl_both false hL h6 hb hcap q args w ha, fun c => ref_parts_no (begin_64 hL h6 hb c) (pn_64 h6 hn)⟩
  · by_cases hz : ∀ k, k < 64 → (nz6 L).getD k 0 = 0
    · obtain ⟨e1, e2⟩ := (nz6_zero h6).1 hz
      have hc : (ck1 (hi L) (lo L) true).1 = 0 := ck_inf_t (by rw [wv_hi]; exact e1) (by rw [wv_lo h6]; exact e2)
      refine ⟨(0, 0, true), 0, fun cap hcap => ?_, fun c => ref_inf (begin_64i hL h6 hb hz c)⟩
      have := our_ok3 (l := l) (n := 64) (cap := cap) hc fun q args w ha => rl_inf true hL h6 hb hcap q args w ha
      rw [e1, e2] at this
      exact this
    · have hc : (ck1 (hi L) (lo L) true).1 = 44 := ck_inf_f fun q => hz ((nz6_zero h6).2 ⟨by rw [← wv_hi]; exact q.1, by rw [← wv_lo h6]; exact q.2⟩)
      exact ⟨(0, 0, false), 44, fun cap hcap => our_bad3 hc (by decide) fun q args w ha => rl_inf false hL h6 hb hcap q args w ha, fun c => ref_no64 (begin_64n hL h6 (Or.inr (Or.inr ⟨hb, hz⟩)) c)⟩
  · exact ⟨(0, 0, false), 44, fun cap hcap args w ha => good_fl zG_flat (rl_flag (Or.inl rfl) hL h6 hb hcap args w ha), fun c => ref_no64 (begin_64n hL h6 (Or.inl hb) c)⟩
  · exact ⟨(0, 0, false), 44, fun cap hcap args w ha => good_fl zG_flat (rl_flag (Or.inr rfl) hL h6 hb hcap args w ha), fun c => ref_no64 (begin_64n hL h6 (Or.inr (Or.inl hb)) c)⟩
end Go.Proofs.Ytebaoemoeckgaaa.Ex
namespace Go.Proofs.Ytebaoemoeckgaaa.Ex
set_option linter.unusedVariables false
set_option linter.unusedSimpArgs false
open Go.RowKit

/-- two empty slices are the same -/
def gSameN : Ent
  | [.v (.im (.slice none 0 0)), .v (.im (.slice none 0 0))] => some ([], .one (.im (.bool true)))
  | cs => gSame cs
set_option maxRecDepth 100000 in
theorem run_sameN : funB Try.prog (qG Try.prog) (fun _ => ⟨fun _ => T0, fun _ => true, fun _ => none⟩) Try.f13 60 [.v (.im (.slice none 0 0)), .v (.im (.slice none 0 0))] = some ([], .one (.im (.bool true))) := by kernel_rfl
theorem gSameN_ok : ∀ cs pre r, gSameN cs = some (pre, r) → allP pre → ∀ (args : List Value) (w : World), CAs w cs args → Good Try.prog 13 r args w := by
  intro cs pre r hg hp args w ha
  unfold gSameN at hg
  split at hg
  · cases hg
    exact funB_sound hmix (fun _ _ => T0_ok _) (qG_ok Try.prog) Try.func13 run_sameN trivial ha
  · exact gSame_ok _ _ _ hg hp args w ha
theorem u8s_bys {l : List At} {L : List Nat} {n : Nat} (h : bys l = some L) (hn : L.length = n) : ∃ P, U8s l n P ∧ U8s l n P :=
  have h1 : U8s l n fun k => Int.ofNat (L.getD k 0) := fun k hk => bys_cell h k (by omega)
  ⟨_, h1, h1⟩
/-- an entry that answers an error and nothing -/
noncomputable def gBad : Ent := g1 rg1 fun p => ([(ck1 p.1 p.2.1 p.2.2).1 ≠ 0], .many [.im (.slice none 0 0), .im (.int .i64 (ck1 p.1 p.2.1 p.2.2).1)])
theorem gBad_ok {f : FuncId} {fn : Func} (hf : Try.prog.funcs[f]? = some fn) {T : Tab} (hT : TabOk Try.prog T) {s n : Nat} (h : ∀ p : G1N, funB Try.prog (qG Try.prog) (cfN T s) fn n [.v (.fl (gq1 (p.1, p.2.1, p.2.2)))] = some (oBad p.1 p.2.1 p.2.2)) :
    ∀ cs pre r, gBad cs = some (pre, r) → allP pre → ∀ (args : List Value) (w : World), CAs w cs args → Good Try.prog f r args w :=
  g1_ok (op := fun p => ([(ck1 p.1 p.2.1 p.2.2).1 ≠ 0], .many [.im (.slice none 0 0), .im (.int .i64 (ck1 p.1 p.2.1 p.2.2).1)])) rg1_ok fun p hp args w ha => bad_ok hf hT p (h p) hp.1 args w ha
def gAlive : Ent
  | [] => some ([], .one (.im (.bool true)))
  | _ => none
theorem gAlive_ok : ∀ cs pre r, gAlive cs = some (pre, r) → allP pre → ∀ (args : List Value) (w : World), CAs w cs args → Good Try.prog 14 r args w := by
  intro cs pre r hg hp args w ha
  unfold gAlive at hg
  split at hg
  · cases hg
    exact alive_ok args w ha
  · cases hg
/-- what the laws on points share; k: that the point may be -/
noncomputable def T_pl (k : Bool) : Tab := ((((T0.add 10 gNum5).add 13 gSameN).add 14 gAlive).add 11 (gCk k)).add 12 (gCk k)
theorem ok_pl (k : Bool) : TabOk Try.prog (T_pl k) := (((((T0_ok _).add Try.func10 (by kernel_rfl) (by kernel_rfl) gNum5_ok).add Try.func13 (by kernel_rfl) (by kernel_rfl) gSameN_ok).add Try.func14 (by kernel_rfl) (by kernel_rfl) gAlive_ok).add Try.func11 (by kernel_rfl) (by kernel_rfl) (gCk_ok pck_ok k)).add Try.func12 (by kernel_rfl) (by kernel_rfl) (gCk_ok rck_ok k)
noncomputable def T_plb : Tab := ((((T_pl false).add 6 gBad).add 8 gBad).add 7 gBad).add 9 gBad
theorem ok_plb : TabOk Try.prog T_plb := ((((ok_pl false).add Try.func6 (by kernel_rfl) (by kernel_rfl) (gBad_ok Try.func6 (ok_po false true) fun p => run_ps_bad p.1 p.2.1 p.2.2)).add Try.func8 (by kernel_rfl) (by kernel_rfl) (gBad_ok Try.func8 (ok_po false true) fun p => run_pl_bad p.1 p.2.1 p.2.2)).add Try.func7 (by kernel_rfl) (by kernel_rfl) (gBad_ok Try.func7 (ok_ro false true) fun p => run_rs_bad p.1 p.2.1 p.2.2)).add Try.func9 (by kernel_rfl) (by kernel_rfl) (gBad_ok Try.func9 (ok_ro false true) fun p => run_rl_bad p.1 p.2.1 p.2.2)
noncomputable def xOne (c : Bool) : Ext := x3 ((((Fs0.add 6 (gFS (okP c) (oS c))).add 8 (gFS (okP c) oL)).add 7 (gFS (okP c) (oS c))).add 9 (gFS (okP c) oL)) Wr0 (fun _ => none) (fun _ => none)
theorem xOne_ok (c : Bool) (w : World) : EqOkW Try.prog (qY Try.prog (xOne c)) w.heap.size w :=
  x3_ok (((((Fs0_ok _).add Try.func6 (by kernel_rfl) (by kernel_rfl) (gFS_ok fun p hp args w ha => ps_ok c p hp args w ha)).add Try.func8 (by kernel_rfl) (by kernel_rfl) (gFS_ok fun p hp args w ha => pl_ok c p hp args w ha)).add Try.func7 (by kernel_rfl) (by kernel_rfl) (gFS_ok fun p hp args w ha => rs_ok c p hp args w ha)).add Try.func9 (by kernel_rfl) (by kernel_rfl) (gFS_ok fun p hp args w ha => rl_ok c p hp args w ha)) (Wr0_ok _) w
def U8e (l : List At) (n : Nat) : Prop := ∃ P, U8s l n P ∧ U8s l n P
set_option maxRecDepth 100000 in
theorem run_one_g (c : Bool) (p : G1N) : funB Try.prog (qY Try.prog (xOne c)) (cfB (T_pl true)) Try.f3 80 [.v (.fl (gq1 p))] = some (okP c p ++ okP c p ++ okP c p ++ okP c p ++ [(ck1 p.1 p.2.1 p.2.2).1 = 0, (ck1 p.1 p.2.1 p.2.2).1 = 0, 32 = 32, 32 < 4611686018427387904, U8e (oS c p).l 32, 64 = 64, 64 < 4611686018427387904, U8e (oL p).l 64], .one (.im (.bool true))) := by kernel_rfl
set_option maxRecDepth 100000 in
theorem run_one_b (p : G1N) : funB Try.prog (qG Try.prog) (fun _ => ⟨fun _ => T_plb, fun _ => true, assoc [(36, .bool true), (46, .bool true), (57, .bool true)]⟩) Try.f3 80 [.v (.fl (gq1 p))] = some ([(ck1 p.1 p.2.1 p.2.2).1 ≠ 0, (ck1 p.1 p.2.1 p.2.2).1 ≠ 0, (ck1 p.1 p.2.1 p.2.2).1 ≠ 0, (ck1 p.1 p.2.1 p.2.2).1 ≠ 0, intOp .eql .i64 (ck1 p.1 p.2.1 p.2.2).1 (ck1 p.1 p.2.1 p.2.2).1 = some (.bool true), intOp .eql .i64 (ck1 p.1 p.2.1 p.2.2).1 (ck1 p.1 p.2.1 p.2.2).1 = some (.bool true), intOp .eql .i64 (ck1 p.1 p.2.1 p.2.2).1 (ck1 p.1 p.2.1 p.2.2).1 = some (.bool true)], .one (.im (.bool true))) := by kernel_rfl
theorem eql_self (z : Int) : intOp .eql .i64 z z = some (.bool true) := by
  show some (Value.bool (z == z)) = _
  rw [beq_self_eq_true]
theorem bys_bm (n m : Nat) : ∃ L, bys (bm n m) = some L ∧ L.length = 32 := ⟨_, rfl, rfl⟩
theorem bys_bmbl (n m k : Nat) : ∃ L, bys (bm n m ++ bl k) = some L ∧ L.length = 64 := ⟨_, rfl, rfl⟩
theorem one_calls (p : G1N) (w : World) : Calls Try.prog 3 #[.agg (flat (gq1 p)).toArray] w (fun e w' => e = .returned (.bool true) ∧ Below w.heap.size w w') := by
  have ha : CAs w [.v (.fl (gq1 p))] [.agg (flat (gq1 p)).toArray] := ⟨rfl, trivial⟩
  by_cases h : (ck1 p.1 p.2.1 p.2.2).1 = 0
  · have hc := okP_c h
    have h1 : U8e (oS (lowB FP.M (wv p.2.1)) p).l 32 := by
      obtain ⟨L, h1, h2⟩ := bys_bm (wv p.1) (sMark (lowB FP.M (wv p.2.1)) p.2.2)
      exact u8s_bys h1 h2
    have h2 : U8e (oL p).l 64 := by
      obtain ⟨L, h1, h2⟩ := bys_bmbl (wv p.1) (bif p.2.2 then 1 else 0) (wv p.2.1)
      exact u8s_bys h1 h2
    exact funB_soundW hmix (fun _ _ => (ok_pl true).w _ _) (xOne_ok _ w) Try.func3 (run_one_g (lowB FP.M (wv p.2.1)) p) (allP_append.2 ⟨allP_append.2 ⟨allP_append.2 ⟨allP_append.2 ⟨hc, hc⟩, hc⟩, hc⟩, h, h, rfl, by decide, h1, rfl, by decide, h2, trivial⟩) ha
  · exact funB_sound hmix (fun _ _ => ok_plb) (qG_ok Try.prog) Try.func3 (run_one_b p) ⟨h, h, h, h, eql_self _, eql_self _, eql_self _, trivial⟩ ha
end Go.Proofs.Ytebaoemoeckgaaa.Ex
namespace Go.Proofs.Ytebaoemoeckgaaa.Ex
set_option linter.unusedVariables false
set_option linter.unusedSimpArgs false
open Go.RowKit

def rCp (l : List At) (n : Nat) : FS := ⟨l, n, 5, 1, true, [], []⟩
def xCp (l : List At) (n : Nat) : Ext := x3 (Fs0.add 15 (gHasS 15 (rCp l n))) Wr0 (fun _ => none) (fun _ => none)
theorem xCp_ok (l : List At) (n : Nat) (w : World) : EqOkW Try.prog (qY Try.prog (xCp l n)) w.heap.size w := x3_ok ((Fs0_ok _).add Try.func15 (by kernel_rfl) (by kernel_rfl) (gHasS_ok _ _)) (Wr0_ok _) w
noncomputable def T_rl (p : G1N) (e : Int) : Tab := ((T_pl true).add 16 (gHasR 16 (rOut p e))).add 17 (gHasR 17 (rOut p e))
theorem ok_rl (p : G1N) (e : Int) : TabOk Try.prog (T_rl p e) := ((ok_pl true).add Try.func16 (by kernel_rfl) (by kernel_rfl) (gHasR_ok _ _)).add Try.func17 (by kernel_rfl) (by kernel_rfl) (gHasR_ok _ _)
noncomputable def lwCode : Code := (Try.f4.body).getD .skip
theorem lw_code : lwCode = .seq (cA lwCode) (.seq (cA (cB lwCode)) (cB (cB lwCode))) := by kernel_rfl
def lwA0 (l : List At) (n c : Nat) : List Fact := [.slot 0 (.sl 0 0 n c), .row 0 false l]
def lwA1 (l : List At) (n c : Nat) : List Fact := [.slot 3 (.so 9 n), .app 9 5 1 n, .slot 0 (.sl 0 0 n c), .row 0 false l, .row 9 true l]
def lwA2 (l : List At) (n c cap : Nat) : List Fact := [.slot 3 (.sl 9 0 n cap), .slot 0 (.sl 0 0 n c), .row 0 false l, .row 9 true l]
set_option maxRecDepth 100000 in
theorem lw_s0 (l : List At) (n c : Nat) : runK Try.prog (qG Try.prog) Try.f4.ntmps cT0 60 (cA lwCode) (argF 0 [.s l n c]) (lwA0 l n c) = some ([], .nrm, lwA0 l n c) := by kernel_rfl
set_option maxRecDepth 100000 in
theorem lw_s1 (l : List At) (n c : Nat) : runK Try.prog (qY Try.prog (xCp l n)) Try.f4.ntmps cT0 60 (cA (cB lwCode)) (lwA0 l n c) (lwA1 l n c) = some ([HasS 15 [.s l n c] (rCp l n)], .nrm, lwA1 l n c) := by kernel_rfl
set_option maxRecDepth 100000 in
theorem lw_s2 (l : List At) (n c cap : Nat) (p : G1N) (e : Int) : runK Try.prog (qG Try.prog) Try.f4.ntmps (fun _ => ⟨fun _ => T_rl p e, fun _ => true, assoc [(27, .bool true)]⟩) 60 (cB (cB lwCode)) (lwA2 l n c cap) [.slot 2 (.im (.bool true))] = some ([R1 l n cap p e, R2 l n c p e, flat (gq1 p) = flat (gq1 p), intOp .eql .i64 e e = some (.bool true), n = n, n < 4611686018427387904, U8e l n], .rt, [.slot 2 (.im (.bool true))]) := by kernel_rfl
theorem law_calls {l : List At} {n c : Nat} {p : G1N} {e : Int} (hn : n < 4611686018427387904) (hcp : HasS 15 [.s l n c] (rCp l n)) (h1 : ∀ cap, n ≤ cap → R1 l n cap p e) (h2 : R2 l n c p e) (hu : U8e l n)
    (args : List Value) (w : World) (ha : CAs w [.s l n c] args) : Good Try.prog 4 (.one (.im (.bool true))) args w := by
  have hT0 : ∀ k d : Nat, TabOkW Try.prog ((cT0 k).T d) w.heap.size w := fun _ _ => (T0_ok _).w _ _
  refine fn_enter Try.func4 (c := lwCode) rfl ha (Nat.le_of_ble_eq_true (by kernel_rfl)) fun a w' hA => ?_
  rw [lw_code]
  refine wp_seq (runKW_sound hmix hT0 ((qG_ok _).w _ _) (lw_s0 l n c) trivial hA fun a w' hA => ?_)
  refine wp_seq (runKW_sound hmix hT0 (xCp_ok l n w) (lw_s1 l n c) ⟨hcp, trivial⟩ hA fun a w' hA => ?_)
  obtain ⟨cap, hc, hA⟩ := hA.cap (s := 3) (k := 9) (n := n) (e := 5) (sz := 1) (List.mem_cons_self ..) (List.mem_cons_of_mem _ (List.mem_cons_self ..))
  have hA2 : Holds Try.f4.ntmps w.heap.size w (lwA2 l n c cap) a w' := hA.sub fun φ hφ => by
    rcases List.mem_cons.1 hφ with rfl | hφ
    · exact List.mem_cons_self ..
    · exact List.mem_cons_of_mem _ (List.mem_cons_of_mem _ (List.mem_cons_of_mem _ hφ))
  refine runKW_sound hmix (fun k d => (ok_rl p e).w _ _) ((qG_ok _).w _ _) (lw_s2 l n c cap p e) ⟨h1 cap hc, h2, rfl, eql_self e, rfl, hn, hu, trivial⟩ hA2 fun a w' hA => ?_
  exact fn_leave (l := [.im (.bool true)]) (r := .one (.im (.bool true))) (by kernel_rfl) (by kernel_rfl) hA
set_option maxRecDepth 100000 in
theorem run_cp32 (B : Nat → Nat) (c : Nat) : funS Try.prog (qY Try.prog x0) cT0 Try.f15 120 [.s (bL B) 32 c] = some ([], rCp (bL B) 32) := by kernel_rfl
set_option maxRecDepth 100000 in
theorem run_cp64 (B C : Nat → Nat) (c : Nat) : funS Try.prog (qY Try.prog x0) cT0 Try.f15 120 [.s (bL B ++ bL C) 64 c] = some ([], rCp (bL B ++ bL C) 64) := by kernel_rfl
theorem law_32 (B : Nat → Nat) (hB : ∀ k, B k < 256) (c : Nat) (args : List Value) (w : World) (ha : CAs w [.s (bL B) 32 c] args) : Good Try.prog 4 (.one (.im (.bool true))) args w := by
  have h8 : L8 (bN B) := ⟨rfl, fun k => by
    rw [List.getD_eq_getElem?_getD]
    cases h : (bN B)[k]? with
    | none => exact Nat.succ_pos _
    | some v =>
      have := List.mem_of_getElem? h
      simp only [bN, List.mem_cons, List.not_mem_nil, or_false] at this
      show v < 256
      rcases this with rfl | rfl | rfl | rfl | rfl | rfl | rfl | rfl | rfl | rfl | rfl | rfl | rfl | rfl | rfl | rfl | rfl | rfl | rfl | rfl | rfl | rfl | rfl | rfl | rfl | rfl | rfl | rfl | rfl | rfl | rfl | rfl <;> exact hB _⟩
  obtain ⟨p, e, h1, h2⟩ := both32 (l := bL B) (L := bN B) rfl h8
  exact law_calls (by decide) (fun args w ha => funS_sound hmix (fun _ _ => (T0_ok _).w _ _) (x0_ok w) Try.func15 (run_cp32 B c) trivial ha) h1 (h2 c) (u8s_bys (L := bN B) rfl rfl) args w ha

theorem l8_bN {B : Nat → Nat} (hB : ∀ k, B k < 256) : L8 (bN B) := ⟨rfl, fun k => by
  rw [List.getD_eq_getElem?_getD]
  cases h : (bN B)[k]? with
  | none => exact Nat.succ_pos _
  | some v =>
    have := List.mem_of_getElem? h
    simp only [bN, List.mem_cons, List.not_mem_nil, or_false] at this
    show v < 256
    rcases this with rfl | rfl | rfl | rfl | rfl | rfl | rfl | rfl | rfl | rfl | rfl | rfl | rfl | rfl | rfl | rfl | rfl | rfl | rfl | rfl | rfl | rfl | rfl | rfl | rfl | rfl | rfl | rfl | rfl | rfl | rfl | rfl <;> exact hB _⟩
theorem l6_bN {B C : Nat → Nat} (hB : ∀ k, B k < 256) (hC : ∀ k, C k < 256) : L6 (bN B ++ bN C) := ⟨l8_bN hB, l8_bN hC⟩
theorem law_64 (B C : Nat → Nat) (hB : ∀ k, B k < 256) (hC : ∀ k, C k < 256) (c : Nat) (args : List Value) (w : World) (ha : CAs w [.s (bL B ++ bL C) 64 c] args) : Good Try.prog 4 (.one (.im (.bool true))) args w := by
  obtain ⟨p, e, h1, h2⟩ := both64 (l := bL B ++ bL C) (L := bN B ++ bN C) rfl (l6_bN hB hC)
  exact law_calls (by decide) (fun args w ha => funS_sound hmix (fun _ _ => (T0_ok _).w _ _) (x0_ok w) Try.func15 (run_cp64 B C c) trivial ha) h1 (h2 c) (u8s_bys (L := bN B ++ bN C) rfl rfl) args w ha
/-- neither 32 nor 64 bytes: the reference's -/
theorem ref_begin_o (p : Option Addr) (n c : Nat) (h1 : n ≠ 32) (h2 : n ≠ 64) : HasR 36 [.v (.im (.slice p n c)), .v (.im (.int .i64 32))] (rNo 3) := fun args w ha =>
  funB_sound hmix (fun _ _ => T0_ok _) (qG_ok Try.prog) Try.func36 (run_bgo p n c) ⟨neq_n h1, neq_n h2, trivial⟩ ha
theorem ref_count (p : Option Addr) (n c : Nat) (h1 : n ≠ 32) (h2 : n ≠ 64) (args : List Value) (w : World) (ha : CAs w [.v (.im (.slice p n c))] args) : Good Try.prog 17 (rOut (0, 0, false) 3) args w :=
  good_fl zG_flat (funB_sound hmix (fun _ _ => ok_bn 3) (qG_ok Try.prog) Try.func17 (run_rr_v3 p n c) ⟨ref_begin_o p n c h1 h2, trivial⟩ ha)
theorem both_o {l : List At} {n : Nat} (h1 : n ≠ 32) (h2 : n ≠ 64) : Both l n := ⟨(0, 0, false), 3, fun cap _ args w ha => by
    match args, ha with
    | [v], ha =>
      obtain ⟨b, o, rfl, _, _⟩ := ha.1
      exact good_fl zG_flat (rd_count _ n cap h1 h2 w)
    | [], ha => exact ha.elim
    | _ :: _ :: _, ha => exact ha.2.elim,
  fun cap args w ha => by
    match args, ha with
    | [v], ha =>
      obtain ⟨b, o, rfl, _, _⟩ := ha.1
      exact ref_count _ n cap h1 h2 _ w ⟨rfl, trivial⟩
    | [], ha => exact ha.elim
    | _ :: _ :: _, ha => exact ha.2.elim⟩
end Go.Proofs.Ytebaoemoeckgaaa.Ex
namespace Go.Proofs.Ytebaoemoeckgaaa.Ex
set_option linter.unusedVariables false
set_option linter.unusedSimpArgs false
open Go.RowKit

def vB (B : Nat → Nat) (n : Nat) : List Value := (List.range n).map fun k => .int .u8 (Int.ofNat (B k))
def aB (B : Nat → Nat) (n : Nat) : List At := (List.range n).map fun k => .c (.int .u8 (Int.ofNat (B k)))
theorem flat_bytes : ∀ (r : List Nat) (B : Nat → Nat), flat (r.map fun k => At.c (.int .u8 (Int.ofNat (B k)))) = r.map fun k => Value.int .u8 (Int.ofNat (B k))
  | [], _ => rfl
  | a :: r, B => congrArg (Value.int .u8 (Int.ofNat (B a)) :: ·) (flat_bytes r B)
theorem aB_flat (B : Nat → Nat) (n : Nat) : flat (aB B n) = vB B n := flat_bytes _ _
theorem vB_len (B : Nat → Nat) (n : Nat) : (vB B n).length = n := by unfold vB; simp
theorem vB_get (B : Nat → Nat) (n k : Nat) (hk : k < n) : (vB B n)[k]? = some (.int .u8 (Int.ofNat (B k))) := by unfold vB; simp [hk]
theorem aB_u8e (B : Nat → Nat) (n : Nat) : U8e (aB B n) n :=
  have h : U8s (aB B n) n fun k => Int.ofNat (B k) := fun k hk => by rw [aB_flat]; exact vB_get B n k hk
  ⟨_, h, h⟩
set_option maxHeartbeats 1000000 in
theorem copy_calls (b o n c : Nat) (B : Nat → Nat) (h0 : 0 < n) (hn : n ≤ 140737488355328) (w : World) (hc : ∀ k, k < n → w.cell? ⟨b, o + k, none⟩ = some (.int .u8 (Int.ofNat (B k)))) :
    Calls Try.prog 15 #[.slice (some ⟨b, o, none⟩) n c] w (fun e w' => (rCp (aB B n) n).ok w e w') := by
  obtain ⟨i0, hi, hz0, hz1, hz2⟩ := info_parts u8_info
  have HC := Lib.hid hc
  clear hc
  go_enter Try.func15, Try.ntmps15
  go_wp2_with (at_builtin; refine wpList_append_own _ rfl _ _ 27 rfl w.heap.size 5 i0 (.int .u8 0) 1 1 Try.underlying27 hi hz0 hz1 hz2 rfl (by decide) _ _ _ rfl (World.ownsRow_nil w w.heap.size 5 1) ⟨b, o, none⟩ n c (vB B n) rfl (by rw [vB_len]; omega) ?c1 ?c2 ?c3 ?c4 ?c5 ?_)
  case c1 =>
    intro j u hj
    have hlt : j < n := by have := (List.getElem?_eq_some_iff.1 hj).1; rwa [vB_len] at this
    rw [vB_get B n j hlt] at hj
    cases hj
    have e : (⟨b, o, none⟩ : Addr).add j = ⟨b, o + j, none⟩ := by simp [Addr.add]
    rw [e]
    exact HC.out j hlt
  case c2 =>
    intro u hu
    unfold vB at hu
    obtain ⟨_, _, rfl⟩ := List.mem_map.1 hu
    rfl
  case c3 => unfold maxLen; omega
  case c4 => omega
  case c5 => simp
  intro v' w1 hown hgrow hne
  obtain ⟨g, cap, hu, hg, lg⟩ := own_form hown h0
  subst hu
  have HO := Lib.hid (Ex.own_app hown)
  have HB := Lib.hid ((Below.refl w.heap.size w).grown hgrow (Nat.le_refl _) (fun k hk => by cases hk))
  clear hown hgrow hne
  go_wp2_with fail
  go_ret
  obtain ⟨a1, a2, a3, a4, a5⟩ := HO.out
  exact ⟨g, cap, rfl, HB.out, a2, a3, by show w1.rangeAt g 0 (flat (aB B n)); rw [aB_flat]; exact a4, a5, fun _ => a1⟩


set_option maxHeartbeats 1000000 in
theorem copy_none (w : World) : Calls Try.prog 15 #[.slice none 0 0] w (fun e w' => e = .returned (.slice none 0 0) ∧ Below w.heap.size w w') := by
  obtain ⟨i0, hi, hz0, hz1, hz2⟩ := info_parts u8_info
  go_enter Try.func15, Try.ntmps15
  go_wp2_with fail
  go_ret
  exact ⟨rfl, Below.refl _ _⟩
set_option maxHeartbeats 1000000 in
theorem copy_empty (a : Addr) (c : Nat) (w : World) : Calls Try.prog 15 #[.slice (some a) 0 c] w (fun e w' => e = .returned (.slice none 0 0) ∧ Below w.heap.size w w') := by
  obtain ⟨i0, hi, hz0, hz1, hz2⟩ := info_parts u8_info
  go_enter Try.func15, Try.ntmps15
  go_wp2_with (at_builtin; refine wpList_append_own _ rfl _ _ 27 rfl w.heap.size 5 i0 (.int .u8 0) 1 1 Try.underlying27 hi hz0 hz1 hz2 rfl (by decide) _ _ _ rfl (World.ownsRow_nil w w.heap.size 5 1) a 0 c [] rfl rfl ?c1 ?c2 ?c3 ?c4 ?c5 ?_)
  case c1 => intro j u hj; simp at hj
  case c2 => intro u hu; cases hu
  case c3 => unfold maxLen; omega
  case c4 => omega
  case c5 => simp
  intro v' w1 hown hgrow hne
  have hv : v' = .slice none 0 0 := by first | exact hne | exact hne.2 rfl
  subst hv
  have HB := Lib.hid ((Below.refl w.heap.size w).grown hgrow (Nat.le_refl _) (fun k hk => by cases hk))
  clear hown hgrow
  go_wp2_with fail
  go_ret
  exact ⟨rfl, HB.out⟩



set_option maxRecDepth 100000 in
theorem run_sameE (p : Option Addr) (c : Nat) : funB Try.prog (qG Try.prog) (fun _ => ⟨fun _ => T0, fun _ => true, fun _ => none⟩) Try.f13 60 [.v (.im (.slice none 0 0)), .v (.im (.slice p 0 c))] = some ([], .one (.im (.bool true))) := by kernel_rfl
noncomputable def T_em : Tab := (((T_pl true).add 16 (gHasR 16 (rOut (0, 0, false) 3))).add 17 (gHasR 17 (rOut (0, 0, false) 3))).add 15 (gHasR 15 (.one (.im (.slice none 0 0)))) |>.add 13 (gHasR 13 (.one (.im (.bool true))))
theorem ok_em : TabOk Try.prog T_em := ((((ok_pl true).add Try.func16 (by kernel_rfl) (by kernel_rfl) (gHasR_ok _ _)).add Try.func17 (by kernel_rfl) (by kernel_rfl) (gHasR_ok _ _)).add Try.func15 (by kernel_rfl) (by kernel_rfl) (gHasR_ok _ _)).add Try.func13 (by kernel_rfl) (by kernel_rfl) (gHasR_ok _ _)
set_option maxRecDepth 100000 in
theorem run_em (p : Option Addr) (c : Nat) : funB Try.prog (qG Try.prog) (fun _ => ⟨fun _ => T_em, fun _ => true, fun _ => none⟩) Try.f4 80 [.v (.im (.slice p 0 c))] = some ([HasR 15 [.v (.im (.slice p 0 c))] (.one (.im (.slice none 0 0))), HasR 16 [.v (.im (.slice none 0 0))] (rOut (0, 0, false) 3), HasR 17 [.v (.im (.slice p 0 c))] (rOut (0, 0, false) 3), flat (gq1 (0, 0, false)) = flat (gq1 (0, 0, false)), HasR 13 [.v (.im (.slice none 0 0)), .v (.im (.slice p 0 c))] (.one (.im (.bool true)))], .one (.im (.bool true))) := by kernel_rfl
theorem hasv {f : FuncId} {v : Value} {r : RV} (h : ∀ w, Good Try.prog f r [v] w) : HasR f [.v (.im v)] r := fun args w ha => by
  match args, ha with
  | [u], ha =>
    have e : u = v := ha.1
    subst e
    exact h w
  | [], ha => exact ha.elim
  | _ :: _ :: _, ha => exact ha.2.elim
theorem law_empty (p : Option Addr) (c : Nat) (hp : p = none → c = 0) (w : World) : Good Try.prog 4 (.one (.im (.bool true))) [.slice p 0 c] w := by
  refine funB_sound hmix (fun _ _ => ok_em) (qG_ok Try.prog) Try.func4 (run_em p c) ⟨hasv fun w => ?_, hasv fun w => good_fl zG_flat (rd_count none 0 0 (by decide) (by decide) w), fun args w ha => ref_count p 0 c (by decide) (by decide) args w ha, rfl, fun args w ha => funB_sound hmix (fun _ _ => T0_ok _) (qG_ok Try.prog) Try.func13 (run_sameE p c) trivial ha, trivial⟩ ⟨rfl, trivial⟩
  cases p with
  | none => rw [hp rfl]; exact copy_none w
  | some a => exact copy_empty a c w
theorem bL_v (B : Nat → Nat) : flat (bL B) = vB B 32 := by kernel_rfl
theorem bL_v2 (B : Nat → Nat) : flat (bL B ++ bL fun k => B (32 + k)) = vB B 64 := by kernel_rfl
theorem law_any (b o n c : Nat) (B : Nat → Nat) (hB : ∀ k, B k < 256) (hn : n ≤ 140737488355328) (w : World) (hb : b < w.heap.size) (hc : ∀ k, k < n → w.cell? ⟨b, o + k, none⟩ = some (.int .u8 (Int.ofNat (B k)))) : Good Try.prog 4 (.one (.im (.bool true))) [.slice (some ⟨b, o, none⟩) n c] w := by
  have hr : ∀ l, flat l = vB B n → CAs w [.s l n c] [.slice (some ⟨b, o, none⟩) n c] := fun l hl => ⟨⟨b, o, rfl, hb, fun j v hj => by
    have hlt : j < n := by have := (List.getElem?_eq_some_iff.1 hj).1; rw [hl, vB_len] at this; exact this
    rw [hl, vB_get B n j hlt] at hj
    rw [hc j hlt, hj]⟩, trivial⟩
  by_cases h0 : n = 0
  · subst h0
    exact law_empty _ c (fun h => by cases h) w
  · by_cases h1 : n = 32
    · subst h1
      exact law_32 B hB c _ w (hr _ (bL_v B))
    · by_cases h2 : n = 64
      · subst h2
        exact law_64 B (fun k => B (32 + k)) hB (fun k => hB _) c _ w (hr _ (bL_v2 B))
      · obtain ⟨p, e, g1, g2⟩ := both_o (l := aB B n) h1 h2
        refine law_calls (by omega) (fun args w ha => ?_) g1 (g2 c) (aB_u8e B n) _ w (hr _ (aB_flat B n))
        match args, ha with
        | [v], ha =>
          obtain ⟨b', o', rfl, _, hrr⟩ := ha.1
          exact copy_calls b' o' n c B (by omega) hn w fun k hk => hrr k _ (by rw [aB_flat]; exact vB_get B n k hk)
        | [], ha => exact ha.elim
        | _ :: _ :: _, ha => exact ha.2.elim
end Go.Proofs.Ytebaoemoeckgaaa.Ex
namespace Go.Proofs.Ytebaoemoeckgaaa
set_option linter.unusedVariables false
open Go.ChangeShapes Go.WideShapes Go.ChangeAt Go.RowKit

theorem own : ownKnob Try.prog.godebug = none := by kernel_rfl
theorem laidOut : laidOutB Try.prog = true := by kernel_rfl

theorem u64_cells : Try.prog.cellsOf 22 = 1 := by kernel_rfl
theorem list4 {α : Type} (l : List α) (h : (⟨l⟩ : Array α).size = 4) : ∃ a b c d, l = [a, b, c, d] := by
  match l, h with
  | [a, b, c, d], _ => exact ⟨a, b, c, d, rfl⟩

theorem nat_of_wf {n : Int} (h : (Lit.int .u64 n).wf = true) : ∃ k : Nat, n = (k : Int) ∧ k < 18446744073709551616 := by
  obtain ⟨h1, h2⟩ := bounds_u64 h
  obtain ⟨k, rfl⟩ := Int.eq_ofNat_of_zero_le h1
  exact ⟨k, rfl, by omega⟩

/-- An argument of four words: of whatever program. -/
theorem open_word' {P : Program} {H : Type} {enc : TypeId × Value → H} {W : World} {base : Nat} {t e : TypeId} {v : Value} {d : DataW H} {ps : List MemPlace} (ht : P.underlying t = some (.array 4 e)) (he : P.underlying e = some (.int .u64)) (ct : P.cellsOf t = 4) (ce : P.cellsOf e = 1)
    {pt : Array TypeId} {args : Array Value} (hval : ∀ (j : Nat) t v, pt[j]? = some t → args[j]? = some v → Value.okWide P W .any base t v) (j : Nat) (hj : pt[j]? = some t) (ha : args[j]? = some v) (h : DataW.Trod enc P W 0 (fun _ => true) true t v d ps) :
    ∃ a0 a1 a2 a3 : Nat, v = .agg #[.int .u64 a0, .int .u64 a1, .int .u64 a2, .int .u64 a3] ∧ ok4 a0 a1 a2 a3 := by
  obtain ⟨cs, rfl, hsz, _⟩ : ∃ cs, v = .agg cs ∧ cs.size = P.cellsOf t ∧ Row.okWide P W .any base t cs := by
    simpa [Value.okWide, ht] using hval j t v hj ha
  rw [ct] at hsz
  obtain ⟨l⟩ := cs
  obtain ⟨c0, c1, c2, c3, rfl⟩ := list4 l hsz
  obtain ⟨fuel, hf⟩ := h
  obtain ⟨y0, y1, y2, y3, m, hx, hy0, hy1, hy2, hy3⟩ := trod_array4 ht ce hf
  obtain ⟨x0, e0, rfl, w0⟩ := DataW.trod_int he hy0
  obtain ⟨x1, e1, rfl, w1⟩ := DataW.trod_int he hy1
  obtain ⟨x2, e2, rfl, w2⟩ := DataW.trod_int he hy2
  obtain ⟨x3, e3, rfl, w3⟩ := DataW.trod_int he hy3
  simp at e0 e1 e2 e3
  obtain ⟨a0, rfl, k0⟩ := nat_of_wf w0
  obtain ⟨a1, rfl, k1⟩ := nat_of_wf w1
  obtain ⟨a2, rfl, k2⟩ := nat_of_wf w2
  obtain ⟨a3, rfl, k3⟩ := nat_of_wf w3
  subst e0 e1 e2 e3
  exact ⟨a0, a1, a2, a3, rfl, k0, k1, k2, k3⟩
theorem word_cells : Try.prog.cellsOf 45 = 4 := by kernel_rfl
theorem fe_cells : Try.prog.cellsOf 24 = 4 := by kernel_rfl
end Go.Proofs.Ytebaoemoeckgaaa
