/-
  The page's examples answer true: New of no label, Elements of two bytes. Conditions: none.
  The law TranscriptTells answers true. Conditions: at most 2^47 bytes.
  THE STATEMENT TranscriptTells, lifted: for any bytes the law answers true and its argument reads as it did. Conditions: the row's own (the listed table as the program's text lays it).
-/
import Derived.ProofKit
import Derived.LaidMore
import Derived.OpenShut
import Derived.Stop.Joined
import Derived.Carry
import Derived.RowKit
import Derived.ChangeSame
import Derived.JoinedOf
import Derived.JoinedAt
import Derived.Laws.IdiomArrays
import Derived.Lib.LaidTab
import Derived.MakeChecks
import Derived.ChangeSlices
import Derived.ChangeMaps5
import Derived.WideShapes
import Derived.SizedLaws
import Derived.Test.YtalcpnkkbimojaaDoorTt04
import Derived.Test.YtalcpnkkbimojaaDoorRows
namespace Go.Proofs.YtalcpnkkbimojaaDoor.Ex
set_option linter.unusedVariables false
set_option linter.unusedSimpArgs false
set_option maxRecDepth 100000
open Go.RowKit

def sE : Value := .string { data := #[] }
theorem ptr_ne {t b : Nat} (hu : Tryd.prog.underlying t = some (.pointer (Tryd.prog.pointee t))) (w : World) : (do eqGuard .neq t (.tmp 3) (.const (.pointer none)) (ptV b 0) (.pointer none); binOp .neq t (ptV b 0) (.pointer none) : Sem Value).run Tryd.prog w = .ok (.bool true) w := by
  have := run_equal_pointer_nil (P := Tryd.prog) w t (some ⟨b, 0, none⟩) hu
  simp [eqGuard, binOp, go_sem, ptV, this]
theorem run_ism (W : World) (b : Nat) (mk : Bool) : funB Tryd.prog { qG Tryd.prog with x := xO W (fun _ => none) (fun _ => none) (assoc [(4, .bool true), (9, .bool mk)]) } (fun _ => tC T0 fun _ => none) Tryd.f23 40 [.v (.im (ptV b 0))] = some ([∀ w : World, (do eqGuard .neq 34 (.tmp 3) (.const (.pointer none)) (ptV b 0) (.pointer none); binOp .neq 34 (ptV b 0) (.pointer none) : Sem Value).run Tryd.prog w = .ok (.bool true) w, oldOf W b (0 + 0) [.c (.bool mk)]], .one (.im (.bool mk))) := by kernel_rfl
theorem str_eq (w : World) : (do eqGuard .eql 9 (.tmp 8) (.const sE) sE sE; binOp .eql 9 sE sE : Sem Value).run Tryd.prog w = .ok (.bool true) w := by
  simp [eqGuard, binOp, go_sem, sE, Op.stringOp]
def gV (vs : List Value) (r : RV) : Ent := fun cs => match cs with
  | [.v (.im v)] => some ([[v] = vs], r)
  | [.v (.im v), .v (.im u)] => some ([[v, u] = vs], r)
  | _ => none
theorem gV_ok {f : FuncId} {vs : List Value} {r : RV} {w : World} (h : Good Tryd.prog f r vs w) : ∀ cs pre r', gV vs r cs = some (pre, r') → allP pre → ∀ (args : List Value), CAs w cs args → Good Tryd.prog f r' args w := by
  intro cs pre r' hg hp args ha
  unfold gV at hg
  split at hg
  · rename_i v
    cases hg
    obtain ⟨rfl, _⟩ := hp
    match args, ha with
    | [a], ha => obtain ⟨rfl, _⟩ := ha; exact h
    | [], ha => exact ha.elim
    | _ :: _ :: _, ha => exact ha.2.elim
  · rename_i v u
    cases hg
    obtain ⟨rfl, _⟩ := hp
    match args, ha with
    | [a, b], ha => obtain ⟨rfl, rfl, _⟩ := ha; exact h
    | [], ha => exact ha.elim
    | [_], ha => exact ha.2.elim
    | _ :: _ :: _ :: _, ha => exact ha.2.2.elim
  · cases hg
theorem run_rfs (b : Nat) : funB Tryd.prog { qG Tryd.prog with x := { Ext.none with gen := assoc [(9, .bool true)] } } (fun _ => tC (T0.add 23 (gV [ptV b 0] (.one (.im (.bool true))))) fun _ => none) Tryd.f16 40 [.v (.im (ptV b 0)), .v (.im sE)] = some ([[ptV b 0] = [ptV b 0], ∀ w : World, (do eqGuard .eql 9 (.tmp 8) (.const sE) sE sE; binOp .eql 9 sE sE : Sem Value).run Tryd.prog w = .ok (.bool true) w], .one (.im (.int .i64 101))) := by kernel_rfl
theorem ism_calls {w : World} {b : Nat} {mk : Bool} (h : oldOf w b 0 [.c (.bool mk)]) : Good Tryd.prog 23 (.one (.im (.bool mk))) [ptV b 0] w :=
  funB_soundW hmix (fun _ _ => (T0_ok _).w _ _) (xO_ok w _ _ _) Tryd.func23 (run_ism w b mk) ⟨ptr_ne (by kernel_rfl), h, trivial⟩ (args := [ptV b 0]) ⟨rfl, trivial⟩
theorem rfs_calls {w : World} {b : Nat} (h : oldOf w b 0 [.c (.bool true)]) : Good Tryd.prog 16 (.one (.im (.int .i64 101))) [ptV b 0, sE] w := by
  have hT : TabOkW Tryd.prog (T0.add 23 (gV [ptV b 0] (.one (.im (.bool true))))) w.heap.size w :=
    TabOkW.add ((T0_ok _).w _ _) Tryd.func23 (by kernel_rfl) (by kernel_rfl) fun w' hw => gV_ok (ism_calls (oldOf.go hw (Nat.le_refl _) h))
  exact funB_soundW hmix (fun _ _ => hT) (qPx_ok (T5n_ok _) _ _) Tryd.func16 (run_rfs b) ⟨rfl, str_eq, trivial⟩ (args := [ptV b 0, sE]) ⟨rfl, rfl, trivial⟩
noncomputable abbrev nwF : Func := Tryd.f7
noncomputable def nwCode : Code := (Tryd.f7.body).getD .skip
noncomputable def nw2 : Code := cA (cB (cB nwCode))
noncomputable def nw3 : Code := cB (cB (cB nwCode))
theorem nw_code : nwCode = .seq (cA nwCode) (.seq (cA (cB nwCode)) (.seq nw2 nw3)) := by kernel_rfl
theorem nw_s0 (v : Value) : runK Tryd.prog (qG Tryd.prog) 20 (fun _ => tC T0 fun _ => none) 40 (cA nwCode) (argF 0 [.v (.im v)]) [.slot 0 (.im v)] = some ([], .nrm, [.slot 0 (.im v)]) := by kernel_rfl
theorem nw_s1 (v : Value) : runK Tryd.prog (qG Tryd.prog) 20 (fun _ => tC T0 fun _ => none) 40 (cA (cB nwCode)) [.slot 0 (.im v)] [.slot 4 (.pt 7 0), .row 7 true [.c (.bool true), .f ⟨0, fp_pos⟩], .slot 0 (.im v)] = some ([], .nrm, [.slot 4 (.pt 7 0), .row 7 true [.c (.bool true), .f ⟨0, fp_pos⟩], .slot 0 (.im v)]) := by kernel_rfl
theorem nw_s2 (b : Nat) : runK Tryd.prog (qG Tryd.prog) 20 (fun _ => tC (T0.add 16 (gV [ptV b 0, sE] (.one (.im (.int .i64 101))))) fun _ => none) 40 nw2 [.slot 0 (.im sE), .slot 4 (.im (ptV b 0))] [.slot 2 (.im (.pointer none)), .slot 3 (.im (.int .i64 101))] = some ([[ptV b 0, sE] = [ptV b 0, sE]], .rt, [.slot 2 (.im (.pointer none)), .slot 3 (.im (.int .i64 101))]) := by kernel_rfl
theorem nw_empty (w0 : World) : Good Tryd.prog 7 (.many [.im (.pointer none), .im (.int .i64 101)]) [sE] w0 := by
  have hG : ∀ base w, EqOkW Tryd.prog (qG Tryd.prog) base w := fun _ _ => (qG_ok _).w _ _
  have hT : ∀ base w, ∀ n d : Nat, TabOkW Tryd.prog T0 base w := fun _ _ _ _ => (T0_ok _).w _ _
  have hnt : nwF.ntmps = 20 := by kernel_rfl
  refine fn_enter Tryd.func7 (cs := [.v (.im sE)]) (args := [sE]) (c := nwCode) rfl ⟨rfl, trivial⟩ (Nat.le_of_ble_eq_true (by kernel_rfl)) fun a w hA => ?_
  rw [hnt] at hA
  rw [nw_code]
  refine wp_seq (runKW_sound hmix (hT _ _) (hG _ _) (nw_s0 _) trivial hA fun a w hA => ?_)
  refine wp_seq (runKW_sound hmix (hT _ _) (hG _ _) (nw_s1 _) trivial hA fun a w hA => ?_)
  obtain ⟨b, hA⟩ := hA.at (k := 7) (l := [.c (.bool true), .f ⟨0, fp_pos⟩]) (by simp)
  have ho := hA.old (k := 7) (l := [.c (.bool true), .f ⟨0, fp_pos⟩]) (b := b) (by simp) (by simp)
  have ho1 : oldOf w b 0 [.c (.bool true)] := ⟨ho.1, fun j v hj => ho.2 j v (by
    have hj0 : j = 0 := by have := (List.getElem?_eq_some_iff.1 hj).1; simpa [flat, At.cells] using this
    subst hj0
    exact hj)⟩
  have h4 : a.tmps[4]? = some (ptV b 0) := by
    obtain ⟨β, g1, _⟩ := hA.facts
    have e1 := g1 (.slot 4 (.pt 7 0)) (by simp)
    have e2 := g1 (.at 7 b) (by simp)
    simp only [Fact.ok] at e1 e2
    rw [e1]
    simp [AV.den, e2, Go.Proofs.YtalcpnkkbimojaaDoor.Ex.ptV]
  have hb := hA.below
  have hH : Holds 20 w.heap.size w [.slot 0 (.im sE), .slot 4 (.im (ptV b 0))] a w := slots_holds (ts := [(0, sE), (4, ptV b 0)]) hA.defers hA.size (fun x hx => by
    simp only [List.mem_cons, List.not_mem_nil, or_false] at hx
    rcases hx with rfl | rfl
    · exact hA.slot (by simp)
    · exact h4)
  have hT2 : TabOkW Tryd.prog (T0.add 16 (gV [ptV b 0, sE] (.one (.im (.int .i64 101))))) w.heap.size w :=
    TabOkW.add ((T0_ok _).w _ _) Tryd.func16 (by kernel_rfl) (by kernel_rfl) fun w' hw => gV_ok (rfs_calls (oldOf.go hw (Nat.le_refl _) ho1))
  refine wp_seq (runKW_sound hmix (fun _ _ => hT2) (hG _ _) (nw_s2 b) ⟨rfl, trivial⟩ hH fun a' w' hA' => ?_)
  simp only [EA.out, Exit.then]
  refine fn_leaveR (l := [.im (.pointer none), .im (.int .i64 101)]) (r := .many [.im (.pointer none), .im (.int .i64 101)]) (by kernel_rfl) (by kernel_rfl) hA' ?_
  exact ⟨rfl, hb.trans (hA'.below.mono hb.size)⟩
-- the page's examples
def gNm : Ent
  | [.v (.im (.int .i64 z))] => some ([], .one (.im (.int .i64 z)))
  | _ => none
theorem run_nm10 (z : Int) : funB Tryd.prog (qG Tryd.prog) (fun _ => tC T0 fun _ => none) Tryd.f8 40 [.v (.im (.int .i64 z))] = some ([], .one (.im (.int .i64 z))) := by kernel_rfl
theorem gNm_ok : ∀ cs pre r, gNm cs = some (pre, r) → allP pre → ∀ (args : List Value) (w : World), CAs w cs args → Good Tryd.prog 8 r args w := by
  intro cs pre r hg hp args w ha
  unfold gNm at hg
  split at hg
  · cases hg
    exact funB_sound hmix (fun _ _ => T0_ok _) (qG_ok _) Tryd.func8 (run_nm10 _) trivial ha
  · cases hg
noncomputable abbrev wkF : Func := Tryd.f4
noncomputable def wkCode : Code := (Tryd.f4.body).getD .skip
noncomputable def wk2 : Code := cA (cB (cB wkCode))
noncomputable def wk3 : Code := cB (cB (cB wkCode))
theorem wk_code : wkCode = .seq (cA wkCode) (.seq (cA (cB wkCode)) (.seq (.region 2 (opsOf wk2) false) wk3)) := by kernel_rfl
theorem wk_s0 : runK Tryd.prog (qG Tryd.prog) 32 (fun _ => tC T0 fun _ => none) 40 (cA wkCode) (argF 0 []) [] = some ([], .nrm, []) := by kernel_rfl
theorem wk_s1 : runK Tryd.prog (qG Tryd.prog) 32 (fun _ => tC (T0.add 7 (gV [sE] (.many [.im (.pointer none), .im (.int .i64 101)]))) fun _ => none) 40 (cA (cB wkCode)) [] [.slot 2 (.im (.int .i64 101))] = some ([[sE] = [sE]], .nrm, [.slot 2 (.im (.int .i64 101))]) := by kernel_rfl
def twoB : List At := [.c (.int .u8 1), .c (.int .u8 2)]
theorem wk_s2 : regK Tryd.prog (qG Tryd.prog) 32 (tC T0 fun _ => none) ((opsOf wk2).extract 0 1) [.slot 2 (.im (.int .i64 101))] [.slot 8 (.sl 8 0 2 2), .row 8 true twoB, .slot 2 (.im (.int .i64 101))] = some ([], [.slot 8 (.sl 8 0 2 2), .row 8 true twoB, .slot 2 (.im (.int .i64 101))]) := by kernel_rfl
theorem wk_s2b (v : Value) : regK Tryd.prog (qG Tryd.prog) 32 (tC T0 fun _ => none) ((opsOf wk2).extract 2 3) [.slot 9 (.im v), .slot 2 (.im (.int .i64 101))] [.slot 3 (.im v), .slot 2 (.im (.int .i64 101))] = some ([], [.slot 3 (.im v), .slot 2 (.im (.int .i64 101))]) := by kernel_rfl
theorem wk_s3 (W : World) (bl cap : Nat) : runK Tryd.prog { qG Tryd.prog with x := xO W (assoc [(20, 0), (27, 1)]) (assoc [(21, [.q 2]), (28, [.q 258])]) (fun _ => none) } 32 (fun _ => tC (T0.add 8 gNm) fun _ => none) 40 wk3 [.slot 3 (.im (slV bl 0 2 cap)), .slot 2 (.im (.int .i64 101))] [.slot 0 (.im (.bool true))] = some ([(0 : Int) = Int.ofNat 0, 0 < 2, oldOf W bl (0 + 0 * 4) [.q 2], fsz [.q 2] = 4, flat [At.q 2] = flat [At.f (⟨2, by decide⟩ : Fq)], (1 : Int) = Int.ofNat 1, 1 < 2, oldOf W bl (0 + 1 * 4) [.q 258], fsz [.q 258] = 4, flat [At.q 258] = flat [At.f (⟨258, by decide⟩ : Fq)]], .rt, [.slot 0 (.im (.bool true))]) := by kernel_rfl
def f12 (j : Nat) : Nat := if j = 0 then 1 else if j = 1 then 2 else 0
theorem wk_calls (w0 : World) : Good Tryd.prog 4 (.one (.im (.bool true))) [] w0 := by
  have hG : ∀ base w, EqOkW Tryd.prog (qG Tryd.prog) base w := fun _ _ => (qG_ok _).w _ _
  have hT : ∀ base w, ∀ n d : Nat, TabOkW Tryd.prog T0 base w := fun _ _ _ _ => (T0_ok _).w _ _
  have hnt : wkF.ntmps = 32 := by kernel_rfl
  refine fn_enter Tryd.func4 (cs := []) (args := []) (c := wkCode) rfl trivial (Nat.le_of_ble_eq_true (by kernel_rfl)) fun a w hA => ?_
  rw [hnt] at hA
  rw [wk_code]
  refine wp_seq (runKW_sound hmix (hT _ _) (hG _ _) wk_s0 trivial hA fun a w hA => ?_)
  have hT1 : TabOkW Tryd.prog (T0.add 7 (gV [sE] (.many [.im (.pointer none), .im (.int .i64 101)]))) w0.heap.size w0 :=
    TabOkW.add ((T0_ok _).w _ _) Tryd.func7 (by kernel_rfl) (by kernel_rfl) fun w' hw => gV_ok (nw_empty w')
  refine wp_seq (runKW_sound hmix (fun _ _ => hT1) (hG _ _) wk_s1 ⟨rfl, trivial⟩ hA fun a w hA => ?_)
  refine wp_seq (wp_rangeP (l := List.range' 0 ((opsOf wk2).extract 0 1).size ++ (1 :: (List.range' 2 ((opsOf wk2).extract 2 3).size ++ []))) (by kernel_rfl) ?_)
  refine partE_sound (c := tC T0 _) (hT _ _ 0) (hG _ _) wk_s2 trivial (by kernel_rfl) hA fun a w hA => ?_
  obtain ⟨b, hA⟩ := hA.at (k := 8) (l := twoB) (by simp)
  have ho := hA.old (k := 8) (l := twoB) (b := b) (by simp) (by simp)
  have hA := hA.im (s := 8) (k := 8) (o := 0) (n := 2) (m := 2) (b := b) (by simp) (by simp)
  have t8 := hA.slot (s := 8) (v := slV b 0 2 2) (by simp)
  have t2 := hA.slot (s := 2) (v := .int .i64 101) (by simp)
  have hB : BV w (slV b 0 2 2) 2 f12 := ⟨_, _, rfl, Nat.le_refl _, fun j => by unfold f12; split; omega; split <;> omega, fun _ => ⟨b, 0, rfl, ho.1, fun j => by unfold f12; split; omega; split <;> omega, fun j hj => by
    match j, hj with
    | 0, _ => exact ho.2 0 _ rfl
    | 1, _ => exact ho.2 1 _ rfl⟩⟩
  obtain ⟨o1, ho1, ⟨ts1, hop1⟩, hd1, hg1⟩ : ∃ x, (opsOf wk2)[1]? = some x ∧ (∃ ts, x.op = .call ⟨.value (.func 5), #[.tmp 8], ts⟩) ∧ x.dst = some 9 ∧ x.guard = none := ⟨_, rfl, ⟨_, rfl⟩, rfl, rfl⟩
  refine wpOps_one ho1 hg1 (wp_call_ex hop1 (vs := [slV b 0 2 2]) (List.cons_eq_cons.2 ⟨ev_t t8, rfl⟩) (fun args => callable Tryd.func5 (by kernel_rfl) (by kernel_rfl) args _) (el_calls hB (by omega)) fun e w2 hr => ?_)
  obtain ⟨bl, cap, rfl, hb2, hl1, hl2, hl3, _, _⟩ := hr
  refine ⟨_, rfl, ?_⟩
  rw [hd1]
  have hbw := hA.below.trans (hb2.mono hA.below.size)
  have t9 := put_get a 9 (slV bl 0 2 cap) (by rw [hA.size]; decide)
  have t22 := put_s (d := 9) (u := slV bl 0 2 cap) t2 (by decide)
  have hd' : (a.put (some 9) (slV bl 0 2 cap)).defers = [] := hA.defers
  have hs' : (a.put (some 9) (slV bl 0 2 cap)).tmps.size = 32 := by rw [put_size]; exact hA.size
  change wpOps Tryd.prog (opsOf wk2) _ _ (a.put (some 9) (slV bl 0 2 cap)) w2
  generalize a.put (some 9) (slV bl 0 2 cap) = a2 at *
  have hH : Holds 32 w2.heap.size w2 [.slot 9 (.im (slV bl 0 2 cap)), .slot 2 (.im (.int .i64 101))] a2 w2 := slots_holds (ts := [(9, slV bl 0 2 cap), (2, .int .i64 101)]) hd' hs' (fun x hx => by
    simp only [List.mem_cons, List.not_mem_nil, or_false] at hx
    rcases hx with rfl | rfl
    · exact t9
    · exact t22)
  refine partE_sound (c := tC T0 _) (hT _ _ 0) (hG _ _) (wk_s2b (slV bl 0 2 cap)) trivial (by kernel_rfl) hH fun a3 w3 hA3 => ?_
  have hT3 : TabOkW Tryd.prog (T0.add 8 gNm) w2.heap.size w2 := ((T0_ok _).add Tryd.func8 (by kernel_rfl) (by kernel_rfl) gNm_ok).w _ _
  show wk3.wp _ _ _ _
  have e0 : oldOf w2 bl (0 + 0 * 4) [.q 2] := ⟨hl2, by
    have := range_cat (f := el (elN f12 2)) (c := 4) (i := 0) (N := 2) (fun _ => rfl) (by omega) hl3
    exact this⟩
  have e1 : oldOf w2 bl (0 + 1 * 4) [.q 258] := ⟨hl2, by
    have := range_cat (f := el (elN f12 2)) (c := 4) (i := 1) (N := 2) (fun _ => rfl) (by omega) hl3
    exact this⟩
  refine runKW_sound hmix (fun _ _ => hT3) (xO_ok w2 _ _ _) (wk_s3 w2 bl cap) ⟨rfl, by omega, e0, rfl, rfl, rfl, by omega, e1, rfl, rfl, trivial⟩ hA3 fun a4 w4 hA4 => ?_
  simp only [EA.out]
  refine fn_leaveR (l := [.im (.bool true)]) (r := .one (.im (.bool true))) (by kernel_rfl) (by kernel_rfl) hA4 ?_
  exact ⟨rfl, hbw.trans (hA4.below.mono hbw.size)⟩
end Go.Proofs.YtalcpnkkbimojaaDoor.Ex
namespace Go.Proofs.YtalcpnkkbimojaaDoor.Ex
set_option linter.unusedVariables false
set_option linter.unusedSimpArgs false
set_option maxRecDepth 100000
open Go.RowKit

theorem tl_s0 (v : Value) : runK Tryd.prog (qG Tryd.prog) 70 (fun _ => tC T0 fun _ => none) 40 (cA tlCode) (argF 0 [.v (.im v)]) [.slot 0 (.im v)] = some ([], .nrm, [.slot 0 (.im v)]) := by kernel_rfl
theorem tl_s1 (v : Value) : runK Tryd.prog (qG Tryd.prog) 70 (fun _ => tC (T0.add 4 (g0 (.one (.im (.bool true))))) fun _ => none) 40 (cA tk1) [.slot 0 (.im v)] [.slot 0 (.im v)] = some ([], .nrm, [.slot 0 (.im v)]) := by kernel_rfl
theorem tl_s2 (v : Value) : regK Tryd.prog (qG Tryd.prog) 70 (tC T0 fun _ => none) ((opsOf (cA tk2)).extract 0 1) [.slot 0 (.im v)] [.slot 11 (.im v), .slot 0 (.im v)] = some ([], [.slot 11 (.im v), .slot 0 (.im v)]) := by kernel_rfl
theorem tl_s2b (v u : Value) : regK Tryd.prog (qG Tryd.prog) 70 (tC T0 fun _ => none) ((opsOf (cA tk2)).extract 2 3) [.slot 12 (.im u), .slot 0 (.im v)] [.slot 0 (.im v), .slot 3 (.im u)] = some ([], [.slot 0 (.im v), .slot 3 (.im u)]) := by kernel_rfl
theorem tl_s3 (W : World) (p : Option Addr) (N m bl n C : Nat) : runK Tryd.prog { qG Tryd.prog with x := xO W (assoc [(23, 0)]) (assoc [(24, [.q N]), (28, [.q N])]) (assoc [(27, .int .u64 (Int.ofNat N))]) } 70 (fun _ => tC T0 (assoc [(17, iI (N + 30)), (18, iI ((N + 30) / 31)), (19, iI (1 + (N + 30) / 31)), (20, .bool false)])) 40 (cA tk3) [.slot 0 (.im (.slice p N m)), .slot 3 (.im (slV bl 0 n C))] [.slot 0 (.im (.slice p N m)), .slot 3 (.im (slV bl 0 n C))] = some ([intOp .add .i64 (Int.ofNat N) 30 = some (iI (N + 30)), intOp .quo .i64 (Int.ofNat (N + 30)) 31 = some (iI ((N + 30) / 31)), intOp .add .i64 1 (Int.ofNat ((N + 30) / 31)) = some (iI (1 + (N + 30) / 31)), intOp .neq .i64 (Int.ofNat n) (Int.ofNat (1 + (N + 30) / 31)) = some (.bool false), (0 : Int) = Int.ofNat 0, 0 < n, oldOf W bl (0 + 0 * 4) [.q N], fsz [.q N] = 4, ∀ w : World, (convert 3 26 (.int .i64 (Int.ofNat N))).run Tryd.prog w = .ok (.int .u64 (Int.ofNat N)) w, flat [.c (.int .u64 (Int.ofNat N)), .c (.int .u64 0), .c (.int .u64 0), .c (.int .u64 0)] = flat [.q N], flat [.q N] = flat [.q N]], .nrm, [.slot 0 (.im (.slice p N m)), .slot 3 (.im (slV bl 0 n C))]) := by kernel_rfl
theorem tl_s4 (v u : Value) : runK Tryd.prog (qG Tryd.prog) 70 (fun _ => tC T0 fun _ => none) 40 (cA tk4) [.slot 0 (.im v), .slot 3 (.im u)] [.slot 0 (.im v), .slot 3 (.im u), .slot 4 (.im (.slice none 0 0))] = some ([], .nrm, [.slot 0 (.im v), .slot 3 (.im u), .slot 4 (.im (.slice none 0 0))]) := by kernel_rfl
theorem tl_s5 (v u : Value) : runK Tryd.prog (qG Tryd.prog) 70 (fun _ => tC T0 fun _ => none) 40 (cA (cA tk5)) [.slot 0 (.im v), .slot 3 (.im u), .slot 4 (.im (.slice none 0 0))] (f4 v u (.slice none 0 0) (iI 1)) = some ([], .nrm, f4 v u (.slice none 0 0) (iI 1)) := by kernel_rfl
theorem neqs' (n : Nat) : intOp .neq .i64 (Int.ofNat n) (Int.ofNat n) = some (.bool false) := by
  show some (Value.bool (Int.ofNat n != Int.ofNat n)) = _
  simp
theorem flatN {N : Nat} (h : N < 18446744073709551616) : flat [At.c (.int .u64 (Int.ofNat N)), .c (.int .u64 0), .c (.int .u64 0), .c (.int .u64 0)] = flat [At.q N] := by
  obtain ⟨e0, e1, e2, e3⟩ := fw_of (s0 := N) (s1 := 0) (s2 := 0) (s3 := 0) (x := N) ⟨h, by omega, by omega, by omega⟩ (by omega) (by unfold val4; omega)
  show [Value.int .u64 (Int.ofNat N), .int .u64 0, .int .u64 0, .int .u64 0] = [.int .u64 (fw N 0 : Nat), .int .u64 (fw N 1 : Nat), .int .u64 (fw N 2 : Nat), .int .u64 (fw N 3 : Nat)] ++ []
  rw [← e0, ← e1, ← e2, ← e3]
  rfl
-- the texts
def txt (f : Nat → Nat) (N : Nat) : Value := .string ⟨((List.range N).map fun j => UInt8.ofNat (f j)).toArray⟩
theorem conv_some {w : World} {g o N m : Nat} {f : Nat → Nat} (hf : ∀ j, f j < 256) (hc : ∀ j, j < N → w.cell? ⟨g, o + j, none⟩ = some (.int .u8 (Int.ofNat (f j)))) : (convert 22 9 (slV g o N m)).run Tryd.prog w = .ok (txt f N) w := by
  have hlen : ((List.range N).map fun j => UInt8.ofNat (f j)).length = N := by simp
  have h := run_convert_bytes_back (P := Tryd.prog) w 22 9 5 ⟨g, o, none⟩ m ((List.range N).map fun j => UInt8.ofNat (f j)) under8 (by kernel_rfl) (by kernel_rfl) (fun j hj => by
    have hj' : j < N := by rwa [hlen] at hj
    have e : (⟨g, o, none⟩ : Addr).add j = ⟨g, o + j, none⟩ := by simp [Addr.add]
    rw [e, hc j hj']
    simp only [List.getElem_map, List.getElem_range]
    rw [UInt8.toNat_ofNat_of_lt' (by have := hf j; omega)]
    rfl)
  rw [hlen] at h
  exact h
theorem conv_none (w : World) (p : Option Addr) (m : Nat) (f : Nat → Nat) : (convert 22 9 (.slice p 0 m)).run Tryd.prog w = .ok (txt f 0) w := by
  cases p with
  | none =>
    rw [run_convert_bytes_string (P := Tryd.prog) w 22 9 5 none 0 m under8 (by kernel_rfl) (by kernel_rfl)]
    simp [Conv.bytesToString, txt]
    rfl
  | some a =>
    have h := run_convert_bytes_back (P := Tryd.prog) w 22 9 5 a m [] under8 (by kernel_rfl) (by kernel_rfl) (fun j hj => by simp at hj)
    exact h
theorem tl_calls {w0 : World} {v : Value} {N : Nat} {f : Nat → Nat} (hv : BV w0 v N f) (hN0 : N ≤ 140737488355327) : Good Tryd.prog 3 (.one (.im (.bool true))) [v] w0 := by
  have hv0 := hv
  obtain ⟨p, m, rfl, hm, hf, hmem⟩ := hv
  have hG : ∀ base w, EqOkW Tryd.prog (qG Tryd.prog) base w := fun _ _ => (qG_ok _).w _ _
  have hT : ∀ base w, ∀ n d : Nat, TabOkW Tryd.prog T0 base w := fun _ _ _ _ => (T0_ok _).w _ _
  have hnt : tlF.ntmps = 70 := by kernel_rfl
  refine fn_enter Tryd.func3 (cs := [.v (.im (.slice p N m))]) (args := [.slice p N m]) (c := tlCode) rfl ⟨rfl, trivial⟩ (Nat.le_of_ble_eq_true (by kernel_rfl)) fun a w hA => ?_
  rw [hnt] at hA
  rw [tl_code]
  refine wp_seq (runKW_sound hmix (hT _ _) (hG _ _) (tl_s0 _) trivial hA fun a w hA => ?_)
  have hT1 : TabOkW Tryd.prog (T0.add 4 (g0 (.one (.im (.bool true))))) w0.heap.size w0 :=
    ((T0_ok _).add Tryd.func4 (by kernel_rfl) (by kernel_rfl) (g0_ok wk_calls)).w _ _
  refine wp_seq (runKW_sound hmix (fun _ _ => hT1) (hG _ _) (tl_s1 _) trivial hA fun a w hA => ?_)
  refine wp_seq (wp_rangeP (l := List.range' 0 ((opsOf (cA tk2)).extract 0 1).size ++ (1 :: (List.range' 2 ((opsOf (cA tk2)).extract 2 3).size ++ []))) (by kernel_rfl) ?_)
  refine partE_sound (c := tC T0 _) (hT _ _ 0) (hG _ _) (tl_s2 _) trivial (by kernel_rfl) hA fun a w hA => ?_
  have t11 := hA.slot (s := 11) (v := .slice p N m) (by simp)
  have t0 := hA.slot (s := 0) (v := .slice p N m) (by simp)
  obtain ⟨o1, ho1, ⟨ts1, hop1⟩, hd1, hg1⟩ : ∃ x, (opsOf (cA tk2))[1]? = some x ∧ (∃ ts, x.op = .call ⟨.value (.func 5), #[.tmp 11], ts⟩) ∧ x.dst = some 12 ∧ x.guard = none := ⟨_, rfl, ⟨_, rfl⟩, rfl, rfl⟩
  refine wpOps_one ho1 hg1 (wp_call_ex hop1 (vs := [.slice p N m]) (List.cons_eq_cons.2 ⟨ev_t t11, rfl⟩) (fun args => callable Tryd.func5 (by kernel_rfl) (by kernel_rfl) args _) (el_calls (hv0.on hA.below) (by omega)) fun e w2 hr => ?_)
  obtain ⟨bl, C, rfl, hb2, hl1, hl2, hl3, _, _⟩ := hr
  refine ⟨_, rfl, ?_⟩
  rw [hd1]
  have hbw := hA.below.trans (hb2.mono hA.below.size)
  have t12 := put_get a 12 (slV bl 0 (1 + (N + 30) / 31) C) (by rw [hA.size]; decide)
  have t02 := put_s (d := 12) (u := slV bl 0 (1 + (N + 30) / 31) C) t0 (by decide)
  have hd' : (a.put (some 12) (slV bl 0 (1 + (N + 30) / 31) C)).defers = [] := hA.defers
  have hs' : (a.put (some 12) (slV bl 0 (1 + (N + 30) / 31) C)).tmps.size = 70 := by rw [put_size]; exact hA.size
  change wpOps Tryd.prog (opsOf (cA tk2)) _ _ (a.put (some 12) (slV bl 0 (1 + (N + 30) / 31) C)) w2
  generalize a.put (some 12) (slV bl 0 (1 + (N + 30) / 31) C) = a2 at *
  clear hA
  have hH : Holds 70 w2.heap.size w2 [.slot 12 (.im (slV bl 0 (1 + (N + 30) / 31) C)), .slot 0 (.im (.slice p N m))] a2 w2 := slots_holds (ts := [(12, slV bl 0 (1 + (N + 30) / 31) C), (0, .slice p N m)]) hd' hs' (fun x hx => by
    simp only [List.mem_cons, List.not_mem_nil, or_false] at hx
    rcases hx with rfl | rfl
    · exact t12
    · exact t02)
  refine partE_sound (c := tC T0 _) (hT _ _ 0) (hG _ _) (tl_s2b _ _) trivial (by kernel_rfl) hH fun a3 w3 hA => ?_
  show (Code.seq _ _).wp _ _ _ _
  have h0 : oldOf w2 bl (0 + 0 * 4) [.q N] := ⟨hl2, by
    have := range_cat (f := el (elN f N)) (c := 4) (i := 0) (N := 1 + (N + 30) / 31) (fun _ => rfl) (by omega) hl3
    exact this⟩
  refine wp_seq (runKW_sound hmix (hT _ _) (xO_ok w2 _ _ _) (tl_s3 w2 p N m bl (1 + (N + 30) / 31) C) ⟨o_add (k := 30) (by omega), o_quo (k := 31) (by omega) (by omega), o_add (i := 1) (by omega), neqs' _, rfl, by omega, h0, rfl, fun w => conv64 (by omega) w, flatN (by omega), rfl, trivial⟩ hA fun a4 w4 hA => ?_)
  refine wp_seq (runKW_sound hmix (hT _ _) (hG _ _) (tl_s4 _ _) trivial hA fun a5 w5 hA => ?_)
  refine wp_seq (wp_seq (runKW_sound hmix (hT _ _) (hG _ _) (tl_s5 _ _) trivial hA fun a6 w6 hA => ?_))
  have hb6 := hA.below
  have h46 : T4 (.slice p N m) (slV bl 0 (1 + (N + 30) / 31) C) (.slice none 0 0) (iI 1) a6 := T4.of hA fun φ h => h
  show (Code.block 0 _).wp _ _ _ _
  refine wp_block (wp_loop_un (tl_loop (WB := w6) (by omega) hf (Nat.lt_of_lt_of_le hl2 hb6.size) (below_range hb6 hl2 hl3) (fun a7 w7 u h4 hb hu => ?_) ((N + 30) / 31) 1 a6 w6 (.slice none 0 0) (by omega) (by omega) h46 (Below.refl _ _) (Or.inl ⟨rfl, by omega⟩)))
  simp only [Exit.inBlock, if_true, Exit.then]
  have hB7 : Below w0.heap.size w0 w7 := (hbw.trans (hb6.mono hbw.size)).trans (hb.mono (Nat.le_trans hbw.size hb6.size))
  refine wp_seq (wp_rangeP (l := [0, 1, 2, 3, 4, 5]) (by kernel_rfl) ?_)
  obtain ⟨o0, ho0, hop0, hd0, hg0⟩ : ∃ x, (opsOf (cA (cB tk5)))[0]? = some x ∧ x.op = .move (.tmp 4) ∧ x.dst = some 65 ∧ x.guard = none := ⟨_, rfl, rfl, rfl, rfl⟩
  obtain ⟨o1, ho1, hop1, hd1, hg1⟩ : ∃ x, (opsOf (cA (cB tk5)))[1]? = some x ∧ x.op = .convert 22 9 (.tmp 65) ∧ x.dst = some 66 ∧ x.guard = none := ⟨_, rfl, rfl, rfl, rfl⟩
  obtain ⟨o2, ho2, hop2, hd2, hg2⟩ : ∃ x, (opsOf (cA (cB tk5)))[2]? = some x ∧ x.op = .move (.tmp 0) ∧ x.dst = some 67 ∧ x.guard = none := ⟨_, rfl, rfl, rfl, rfl⟩
  obtain ⟨o3, ho3, hop3, hd3, hg3⟩ : ∃ x, (opsOf (cA (cB tk5)))[3]? = some x ∧ x.op = .convert 22 9 (.tmp 67) ∧ x.dst = some 68 ∧ x.guard = none := ⟨_, rfl, rfl, rfl, rfl⟩
  obtain ⟨o4, ho4, ⟨r4, hop4⟩, hd4, hg4⟩ : ∃ x, (opsOf (cA (cB tk5)))[4]? = some x ∧ (∃ r, x.op = .binOp .eql 9 (.tmp 66) (.tmp 68) r) ∧ x.dst = some 69 ∧ x.guard = none := ⟨_, rfl, ⟨_, rfl⟩, rfl, rfl⟩
  obtain ⟨o5, ho5, hop5, hd5, hg5⟩ : ∃ x, (opsOf (cA (cB tk5)))[5]? = some x ∧ x.op = .assign (.tmp 69) ∧ x.dst = some 2 ∧ x.guard = none := ⟨_, rfl, rfl, rfl, rfl⟩
  have hcu : (convert 22 9 u).run Tryd.prog w7 = .ok (txt f N) w7 := by
    rcases hu with ⟨rfl, rfl⟩ | ⟨b, cap, rfl, _, h3, _, h5⟩
    · exact conv_none w7 none 0 f
    · exact conv_some hf fun j hj => by
        have := h5 j _ (gU_cell N 0 j hj)
        rwa [Nat.zero_add] at this ⊢
  have hcv : (convert 22 9 (.slice p N m)).run Tryd.prog w7 = .ok (txt f N) w7 := by
    by_cases h : 0 < N
    · obtain ⟨g, o, rfl, hB⟩ := hmem h
      exact conv_some hf fun j hj => (hB7.cell (p := ⟨g, o + j, none⟩) hB.1).trans (hB.2.2 j hj)
    · have : N = 0 := by omega
      subst this
      exact conv_none w7 p m f
  refine wpOps_one ho0 hg0 (wp_value (v := u) (w' := w7) (by simp only [execOp, hop0, Sem.run_bind, Sem.run_pure, Result.andThen_ok, ev_t h4.t4]) ?_)
  rw [hd0]
  have s65 := put_get a7 65 u (by rw [h4.size]; decide)
  have h4 := h4.put (d := 65) (v := u) (by decide)
  generalize a7.put (some 65) u = b1 at *
  refine wpOps_one ho1 hg1 (wp_value (v := txt f N) (w' := w7) (by simp [execOp, hop1, ev_t s65, hcu]) ?_)
  rw [hd1]
  have s66 := put_get b1 66 (txt f N) (by rw [h4.size]; decide)
  have h4 := h4.put (d := 66) (v := txt f N) (by decide)
  generalize b1.put (some 66) (txt f N) = b2 at *
  refine wpOps_one ho2 hg2 (wp_value (v := .slice p N m) (w' := w7) (by simp only [execOp, hop2, Sem.run_bind, Sem.run_pure, Result.andThen_ok, ev_t h4.t0]) ?_)
  rw [hd2]
  have s67 := put_get b2 67 (.slice p N m) (by rw [h4.size]; decide)
  have s66 := put_s (d := 67) (u := .slice p N m) s66 (by decide)
  have h4 := h4.put (d := 67) (v := .slice p N m) (by decide)
  generalize b2.put (some 67) (.slice p N m) = b3 at *
  refine wpOps_one ho3 hg3 (wp_value (v := txt f N) (w' := w7) (by simp [execOp, hop3, ev_t s67, hcv]) ?_)
  rw [hd3]
  have s68 := put_get b3 68 (txt f N) (by rw [h4.size]; decide)
  have s66 := put_s (d := 68) (u := txt f N) s66 (by decide)
  have h4 := h4.put (d := 68) (v := txt f N) (by decide)
  generalize b3.put (some 68) (txt f N) = b4 at *
  refine wpOps_one ho4 hg4 (wp_value (v := .bool true) (w' := w7) (by
    simp [execOp, hop4, ev_t s66, ev_t s68, eqGuard, binOp, txt, Op.stringOp]) ?_)
  rw [hd4]
  have s69 := put_get b4 69 (.bool true) (by rw [h4.size]; decide)
  have h4 := h4.put (d := 69) (v := .bool true) (by decide)
  generalize b4.put (some 69) (.bool true) = b5 at *
  refine wpOps_one ho5 hg5 (wp_value (v := .bool true) (w' := w7) (by simp only [execOp, hop5, Sem.run_bind, Sem.run_pure, Result.andThen_ok, ev_t s69]) ?_)
  rw [hd5]
  have s2 := put_get b5 2 (.bool true) (by rw [h4.size]; decide)
  have hd : (b5.put (some 2) (.bool true)).defers = [] := h4.defers
  generalize b5.put (some 2) (.bool true) = b6 at *
  show Code.ret.wp _ _ _ _
  exact wp_ret ⟨hd, _, results_slot (s := 2) (by kernel_rfl) s2, rfl, hB7⟩
end Go.Proofs.YtalcpnkkbimojaaDoor.Ex
namespace Go.Proofs.YtalcpnkkbimojaaDoor
set_option linter.unusedVariables false
open Go.ChangeShapes Go.WideShapes Go.ChangeAt Go.RowKit

theorem own : ownKnob Tryd.prog.godebug = none := by kernel_rfl
theorem laidOut : laidOutB Tryd.prog = true := by kernel_rfl
/-- What the row lists. -/
def theLaid : List (String × DataW Unit) := [("math/bits.deBruijn64tab", Rows.laid_math_bits_deBruijn64tab)]
theorem door_met (os : Os) (args : Array Value) : laidMetH Tryd.prog theLaid ((World.doorLaid Tryd.prog 400 os).forCall (fun _ _ => 0) ⟨#[], args, []⟩).memory :=
  laidMetH_of_parts3 (fuel := 8) (laidMet_of_run' 8 (by kernel_rfl) (by kernel_rfl)) (by kernel_rfl) (by kernel_rfl)
theorem u8_cellsT : Tryd.prog.cellsOf 5 = 1 := by kernel_rfl
theorem u8_bytesT : Tryd.prog.bytesOf 5 = 1 := by kernel_rfl
theorem open_bytesT {H : Type} {enc : TypeId × Value → H} {W : World} {o : Option Addr} {len cap : Nat} {d : DataW H} {ps : List MemPlace} (h : DataW.Trod enc Tryd.prog W 0 (fun _ => true) true 22 (.slice o len cap) d ps) (hl : ∀ x ∈ ps, x.block < W.heap.size)
    (hsz : ∀ elems spare, d = .slice elems spare → (elems.length + spare.length) * Tryd.prog.bytesOf 5 ≤ reachBytes) :
    ∃ f, Ex.BV W (.slice o len cap) len f ∧ len ≤ 140737488355327 := by
  obtain ⟨fuel, hf⟩ := h
  rcases open_ints Tryd.underlying22 Tryd.underlying5 u8_cellsT hf with ⟨hcs, hx⟩ | ⟨a, len', cap', zs, hcs, _, hl', hm, hz, hx, hcell, hwz⟩
  · simp [Value.cells] at hcs
    obtain ⟨rfl, rfl, rfl⟩ := hcs
    exact ⟨fun _ => 0, ⟨none, 0, rfl, Nat.le_refl _, fun _ => Nat.zero_lt_succ _, fun h => by omega⟩, by omega⟩
  · simp [Value.cells] at hcs
    obtain ⟨rfl, rfl, rfl⟩ := hcs
    simp only [Prod.mk.injEq] at hx
    obtain ⟨rfl, rfl⟩ := hx
    simp only [if_true] at hz
    have hs := hsz _ _ rfl
    rw [u8_bytesT] at hs
    have hlen : len ≤ 140737488355327 := by
      have e1 : (lits (H := H) .u8 (zs.take len)).length = len := by simp [lits]; omega
      rw [e1] at hs
      simp only [reachBytes] at hs
      omega
    have hB : ∀ k, ∃ n : Nat, n < 256 ∧ zs.getD k 0 = (n : Int) := fun k => by
      by_cases hk : k < zs.length
      · have h1 := bounds_u8 (hwz (zs[k]) (List.getElem_mem hk))
        refine ⟨(zs[k]).toNat, by omega, ?_⟩
        rw [List.getD_eq_getElem?_getD, List.getElem?_eq_getElem hk]
        show zs[k] = _
        omega
      · exact ⟨0, by omega, by rw [List.getD_eq_getElem?_getD, List.getElem?_eq_none (by omega)]; rfl⟩
    refine ⟨fun k => Classical.choose (hB k), ⟨_, cap, rfl, hl', fun k => (Classical.choose_spec (hB k)).1, fun h0 => ?_⟩, hlen⟩
    obtain ⟨b, off, spot⟩ := a
    have hspot : spot = none := by simpa [Addr.add] using World.cell?_spot (hcell 0 (by omega))
    subst hspot
    have hb : b < W.heap.size := hl (.cell b off) (MemPlace.mem_row.2 ⟨0, by omega, by simp⟩)
    refine ⟨b, off, rfl, hb, fun k => (Classical.choose_spec (hB k)).1, fun k hk => ?_⟩
    have e2 := (Classical.choose_spec (hB k)).2
    have e3 := hcell k (by omega)
    rw [e2] at e3
    have e4 : (⟨b, off, none⟩ : Addr).add k = ⟨b, off + k, none⟩ := by simp [Addr.add]
    rw [e4] at e3
    exact e3
set_option maxRecDepth 100000 in
theorem tells_lifted (os : Os) (started : os.Started) (H : Type) (enc : TypeId × Value → H) :
    ReturnsInHanded {} Tryd.checked os 3 .any (fun w args => (Rows.transcriptTellsSpec.pre enc Tryd.prog Tryd.f3 [] false w args ∧ laidMetH Tryd.prog theLaid w) ∧ sizedMet enc Tryd.prog Tryd.f3 (OpenSpec.ofChange Rows.transcriptTellsSpec) false w args)
      (Rows.transcriptTellsSpec.post enc Tryd.prog Tryd.f3 false true false false) := by
  refine returnsInHanded_of_change_and (C := Tryd.checked) (X := fun w _ => laidMetH Tryd.prog theLaid w) (fun _ _ _ hh h => h.of_heap hh) own started (by kernel_rfl) Tryd.func3
    (ChangeSpec.witness_shaped (enc := enc) (C := Tryd.checked) (os := os) (X := fun w _ => laidMetH Tryd.prog theLaid w) false (World.doorLaid Tryd.prog 400 os) #[.slice none 0 0] 8 rfl (World.shaped_of_RefB (by kernel_rfl) (by kernel_rfl)) (by kernel_rfl) (by kernel_rfl) (by kernel_rfl) (door_met os _)) ?_
  intro W base args ds gs before hval0 hW _ hsz0 hL _
  have hval : ∀ (j : Nat) t v, Tryd.f3.params[j]? = some t → args[j]? = some v → Value.okWide Tryd.prog W .any base t v := hval0
  have hW' := hW
  obtain ⟨p, q, hA0, hV, rfl, _, _⟩ := hW
  have hA : DataW.TrodAll enc Tryd.prog W 0 (fun _ => true) true Tryd.f3.params.toList args.toList ds p := hA0
  have hsz : (DataW.weightsEach Tryd.prog (Tryd.f3.params.toList ++ Rows.transcriptTellsSpec.plain.varTypes Tryd.prog) (ds ++ gs)).all (· ≤ reachBytes) = true := hsz0
  rw [Tryd.params3] at hA hval hsz
  obtain ⟨v0, d0, rfl, rfl, h0⟩ := trodAll_one hA
  obtain ⟨rfl, rfl⟩ := trodVars_none hV
  obtain ⟨bo, bn, bc, rfl⟩ := okWide_slice Tryd.underlying22 (hval 0 _ _ rfl rfl)
  clear hA0 hval0
  simp only [List.append_nil] at hW'
  have l0 : ∀ x ∈ p, x.block < W.heap.size := fun x hx => hW'.lt x (by simp [hx])
  obtain ⟨f, hB, hN⟩ := open_bytesT h0 l0 (fun elems spare e => sized_slice hsz (j := 0) (t := 22) (e := 5) rfl (by rw [e]; rfl) Tryd.underlying22)
  have hcall : Calls Tryd.prog 3 #[.slice bo bn bc] W (fun e w' => e = .returned (.bool true) ∧ Below W.heap.size W w') := Ex.tl_calls hB hN
  refine hcall.mono fun e W' ⟨he, hbl⟩ => ?_
  subst he
  have kb : ∀ {v d ps}, DataW.Trod enc Tryd.prog W 0 (fun _ => true) true 22 v d ps → (∀ x ∈ ps, x.block < W.heap.size) → DataW.Trod enc Tryd.prog W' 0 (fun b => decide (b < W.heap.size)) true 22 v d ps :=
    fun h l => Below.trod laidOut (by kernel_rfl) (of_decide_eq_true (by kernel_rfl)) h hbl l
  exact ⟨_, rfl, ⟨_, _, _, [], _, [], hW', trodAll_mk1 (shut_bool Tryd.underlying4 _), trodAll_mk1 (kb h0 l0), rfl, hbl.frame _, fun h => by cases h⟩⟩

theorem tells_holds : Rows.TranscriptTellsSaid :=
  OpenClaim.holds_of_wide 3 Tryd.f3 rfl rfl rfl rfl rfl rfl rfl ⟨rfl, rfl, rfl, rfl, rfl⟩ rfl rfl rfl rfl rfl (by kernel_rfl) Tryd.func3 (by kernel_rfl)
    (of_decide_eq_true (by kernel_rfl)) (by unfold Func.isWrapper; first | (rw [if_pos (by decide +kernel)]; kernel_rfl) | (rw [if_neg (by decide +kernel)]; exact ⟨rfl, rfl⟩))
    (fun os started H enc _ => tells_lifted os started H enc)
#print axioms tells_holds
end Go.Proofs.YtalcpnkkbimojaaDoor
