/-
  Points as they come in and go out, a point's first multiples, checks and negatives, over both fields. Conditions: none.
  Lengths and bits of numbers in tables of calls; shifts. Conditions: none.
  The reckoner: steps that are so, one after another; loops by rounds; tables that hold from a world on. Of whatever program. Conditions: none.
-/
import Derived.Test.YthlcjdcjnioeoaaGreatCk22
import Derived.Test.YthlcjdcjnioeoaaGreatCk13
import Derived.Test.YthlcjdcjnioeoaaGreatCk08
import Derived.Test.YthlcjdcjnioeoaaGreatCk09
import Derived.Test.YthlcjdcjnioeoaaGreatCk19
namespace Go.Proofs.YthlcjdcjnioeoaaGreat.Ex
set_option linter.unusedVariables false
set_option linter.unusedSimpArgs false
open Go.RowKit
theorem w4_wv (x : Nat) : w4 x = w4 (wv x) := by
  obtain ⟨e0, e1, e2, e3⟩ := fw_of (fw_ok x) (show wv x < 115792089237316195423570985008687907853269984665640564039457584007913129639936 by
    have h := fw_ok x
    obtain ⟨h0, h1, h2, h3⟩ := h
    unfold wv val4; omega) rfl
  unfold w4
  rw [e0, e1, e2, e3]
theorem q_f {x : Nat} (h : wv x < FP.M) : flat [.q x] = flat [.f (m1 x)] := by
  show w4 x ++ [] = w4 (m1 x).1 ++ []
  rw [w4_wv x]
  show w4 (wv x) ++ [] = w4 (wv x % FP.M) ++ []
  rw [Nat.mod_eq_of_lt h]
theorem flat_cons (a : At) (l : List At) : flat (a :: l) = flat [a] ++ flat l := by show a.cells ++ flat l = (a.cells ++ []) ++ flat l; rw [List.append_nil]
theorem w4_inj' {x y : Nat} (h : w4 x = w4 y) : wv x = wv y := by
  unfold w4 at h
  simp only [List.cons.injEq, Value.int.injEq, true_and, and_true, Int.ofNat_inj] at h
  unfold wv
  rw [h.1, h.2.1, h.2.2.1, h.2.2.2]
theorem q_zero {x : Nat} : flat [.q x] = flat (e1 F1.zero) ↔ wv x = 0 := by
  constructor
  · intro h
    have h' : w4 x ++ [] = w4 0 ++ [] := h
    rw [List.append_nil, List.append_nil] at h'
    rw [w4_inj' h']; decide
  · intro h
    show w4 x ++ [] = w4 0 ++ []
    rw [w4_wv x, h]
theorem q_zero2 {x : N2} : flat (q2 x) = flat (e2 F2.zero) ↔ wv x.1 = 0 ∧ wv x.2 = 0 := by
  constructor
  · intro h
    have h' : w4 x.1 ++ (w4 x.2 ++ []) = w4 0 ++ (w4 0 ++ []) := h
    obtain ⟨h1, h2⟩ := List.append_inj h' rfl
    rw [List.append_nil, List.append_nil] at h2
    exact ⟨by rw [w4_inj' h1]; decide, by rw [w4_inj' h2]; decide⟩
  · rintro ⟨h1, h2⟩
    show w4 x.1 ++ (w4 x.2 ++ []) = w4 0 ++ (w4 0 ++ [])
    rw [w4_wv x.1, w4_wv x.2, h1, h2]
theorem Good.congr {P : Program} {f : FuncId} {r r' : RV} {args : List Value} {w : World} (h : Good P f r args w) (e : r.den = r'.den) : Good P f r' args w := by
  unfold Good at h ⊢
  rw [← e]
  exact h
/-- below p, all parts -/
def bl1 (x : Nat) : Prop := wv x < FP.M
def bl2 (x : N2) : Prop := wv x.1 < FP.M ∧ wv x.2 < FP.M
def zr1 (x : Nat) : Prop := wv x = 0
def zr2 (x : N2) : Prop := wv x.1 = 0 ∧ wv x.2 = 0
theorem bl_f1 {x : Nat} (h : bl1 x) : flat (q1 x) = flat (e1 (m1 x)) := q_f h
theorem bl_f2 {x : N2} (h : bl2 x) : flat (q2 x) = flat (e2 (m2 x)) := by
  show flat (.q x.1 :: [.q x.2]) = flat (.f (m1 x.1) :: [.f (m1 x.2)])
  rw [flat_cons, flat_cons (.f _), q_f h.1, q_f h.2]
/-- ways that a number of a program goes: what it is, and that it is so -/
theorem neq_t {c : Int} (h : c ≠ 0) : intOp .neq .i64 c 0 = some (.bool true) := by
  show some (Value.bool (c != 0)) = _
  rw [bne_iff_ne.2 h]
theorem neq_f {c : Int} (h : c = 0) : intOp .neq .i64 c 0 = some (.bool false) := by rw [h]; rfl

open Classical in
theorem ck1_ex : ∃ g : Nat → Nat → Bool → Int × J1, ∀ x y i, g x y i = if i = true then (if zr1 x ∧ zr1 y then (0, (F1.zero, F1.zero, F1.zero)) else (44, (F1.zero, F1.zero, F1.zero))) else if ¬ (bl1 x ∧ bl1 y) then (21, (F1.zero, F1.zero, F1.zero)) else if F1.mul (m1 y) (m1 y) = F1.add (F1.mul (F1.mul (m1 x) (m1 x)) (m1 x)) (fm 3) then (0, (m1 x, m1 y, F1.one)) else (41, (F1.zero, F1.zero, F1.zero)) := ⟨_, fun _ _ _ => rfl⟩
noncomputable def ck1 : Nat → Nat → Bool → Int × J1 := Classical.choose ck1_ex
open Classical in
theorem ck1_eq (x y : Nat) (i : Bool) : ck1 x y i = if i = true then (if zr1 x ∧ zr1 y then (0, (F1.zero, F1.zero, F1.zero)) else (44, (F1.zero, F1.zero, F1.zero))) else if ¬ (bl1 x ∧ bl1 y) then (21, (F1.zero, F1.zero, F1.zero)) else if F1.mul (m1 y) (m1 y) = F1.add (F1.mul (F1.mul (m1 x) (m1 x)) (m1 x)) (fm 3) then (0, (m1 x, m1 y, F1.one)) else (41, (F1.zero, F1.zero, F1.zero)) := Classical.choose_spec ck1_ex x y i
set_option maxRecDepth 100000 in
theorem run_ck1_a (x y : Nat) : funB Tryz.prog (qG Tryz.prog) (fun _ => ⟨fun s => T_plus2 (bif Nat.beq s 28 then true else bif Nat.beq s 33 then true else true), fun s => false, fun _ => none⟩) Tryz.f116 80 [.v (.fl (q1 x)), .v (.fl (q1 y)), .v (.im (.bool true))] = some ([flat (q1 x) ≠ flat (e1 F1.zero)], .many [.fl (ej1 (F1.zero, F1.zero, F1.zero)), .im (.int .i64 44)]) := by kernel_rfl
set_option maxRecDepth 100000 in
theorem run_ck1_b (x y : Nat) : funB Tryz.prog (qG Tryz.prog) (fun _ => ⟨fun s => T_plus2 (bif Nat.beq s 28 then true else bif Nat.beq s 33 then true else true), fun s => !(Nat.beq s 18), fun _ => none⟩) Tryz.f116 80 [.v (.fl (q1 x)), .v (.fl (q1 y)), .v (.im (.bool true))] = some ([flat (q1 x) = flat (e1 F1.zero), flat (q1 y) ≠ flat (e1 F1.zero)], .many [.fl (ej1 (F1.zero, F1.zero, F1.zero)), .im (.int .i64 44)]) := by kernel_rfl
set_option maxRecDepth 100000 in
theorem run_ck1_c (x y : Nat) : funB Tryz.prog (qG Tryz.prog) (fun _ => ⟨fun s => T_plus2 (bif Nat.beq s 28 then true else bif Nat.beq s 33 then true else true), fun s => true, fun _ => none⟩) Tryz.f116 80 [.v (.fl (q1 x)), .v (.fl (q1 y)), .v (.im (.bool true))] = some ([flat (q1 x) = flat (e1 F1.zero), flat (q1 y) = flat (e1 F1.zero)], .many [.fl (ej1 (F1.zero, F1.zero, F1.zero)), .im (.int .i64 0)]) := by kernel_rfl
set_option maxRecDepth 100000 in
theorem run_ck1_d (x y : Nat) : funB Tryz.prog (qG Tryz.prog) (fun _ => ⟨fun s => T_plus2 (bif Nat.beq s 28 then false else bif Nat.beq s 33 then true else true), fun s => true, fun _ => none⟩) Tryz.f116 80 [.v (.fl (q1 x)), .v (.fl (q1 y)), .v (.im (.bool false))] = some ([¬ wv x < FP.M], .many [.fl (ej1 (F1.zero, F1.zero, F1.zero)), .im (.int .i64 21)]) := by kernel_rfl
set_option maxRecDepth 100000 in
theorem run_ck1_e (x y : Nat) : funB Tryz.prog (qG Tryz.prog) (fun _ => ⟨fun s => T_plus2 (bif Nat.beq s 28 then true else bif Nat.beq s 33 then false else true), fun s => true, fun _ => none⟩) Tryz.f116 80 [.v (.fl (q1 x)), .v (.fl (q1 y)), .v (.im (.bool false))] = some ([wv x < FP.M, ¬ wv y < FP.M], .many [.fl (ej1 (F1.zero, F1.zero, F1.zero)), .im (.int .i64 21)]) := by kernel_rfl
set_option maxRecDepth 100000 in
theorem run_ck1_f (x y : Nat) : funB Tryz.prog (qG Tryz.prog) (fun _ => ⟨fun s => T_plus2 (bif Nat.beq s 28 then true else bif Nat.beq s 33 then true else true), fun s => false, fun _ => none⟩) Tryz.f116 80 [.v (.fl (q1 x)), .v (.fl (q1 y)), .v (.im (.bool false))] = some ([wv x < FP.M, wv y < FP.M, wv y < FP.M, wv y < FP.M, wv x < FP.M, wv x < FP.M, wv x < FP.M, flat (e1 (F1.mul (m1 y) (m1 y))) ≠ flat (e1 (F1.add (F1.mul (F1.mul (m1 x) (m1 x)) (m1 x)) (fm 3)))], .many [.fl (ej1 (F1.zero, F1.zero, F1.zero)), .im (.int .i64 41)]) := by kernel_rfl
set_option maxRecDepth 100000 in
theorem run_ck1_g (x y : Nat) : funB Tryz.prog (qG Tryz.prog) (fun _ => ⟨fun s => T_plus2 (bif Nat.beq s 28 then true else bif Nat.beq s 33 then true else true), fun s => true, fun _ => none⟩) Tryz.f116 80 [.v (.fl (q1 x)), .v (.fl (q1 y)), .v (.im (.bool false))] = some ([wv x < FP.M, wv y < FP.M, wv y < FP.M, wv y < FP.M, wv x < FP.M, wv x < FP.M, wv x < FP.M, flat (e1 (F1.mul (m1 y) (m1 y))) = flat (e1 (F1.add (F1.mul (F1.mul (m1 x) (m1 x)) (m1 x)) (fm 3)))], .many [.fl (q1 x ++ (q1 y ++ e1 F1.one)), .im (.int .i64 0)]) := by kernel_rfl
theorem ck1_ok (x y : Nat) (i : Bool) (args : List Value) (w : World) (ha : CAs w [.v (.fl (q1 x)), .v (.fl (q1 y)), .v (.im (.bool i))] args) : Good Tryz.prog 116 (.many [.fl (ej1 (ck1 x y i).2), .im (.int .i64 (ck1 x y i).1)]) args w := by
  rw [ck1_eq]
  cases i with
  | true =>
    rw [if_pos rfl]
    by_cases hx : zr1 x
    · by_cases hy : zr1 y
      · rw [if_pos ⟨hx, hy⟩]
        exact funB_sound hmix (fun _ s => ok_plus2 _) (qG_ok Tryz.prog) Tryz.func116 (run_ck1_c x y) ⟨q_zero.2 hx, q_zero.2 hy, trivial⟩ ha
      · rw [if_neg (fun h => hy h.2)]
        exact funB_sound hmix (fun _ s => ok_plus2 _) (qG_ok Tryz.prog) Tryz.func116 (run_ck1_b x y) ⟨q_zero.2 hx, fun h => hy (q_zero.1 h), trivial⟩ ha
    · rw [if_neg (fun h => hx h.1)]
      exact funB_sound hmix (fun _ s => ok_plus2 _) (qG_ok Tryz.prog) Tryz.func116 (run_ck1_a x y) ⟨fun h => hx (q_zero.1 h), trivial⟩ ha
  | false =>
    rw [if_neg (by simp)]
    by_cases hx : bl1 x
    · by_cases hy : bl1 y
      · rw [if_neg (fun h => h ⟨hx, hy⟩)]
        by_cases h : F1.mul (m1 y) (m1 y) = F1.add (F1.mul (F1.mul (m1 x) (m1 x)) (m1 x)) (fm 3)
        · rw [if_pos h]
          refine Good.congr (r := .many [.fl (q1 x ++ (q1 y ++ e1 F1.one)), .im (.int .i64 0)]) ?_ ?_
          · exact funB_sound hmix (fun _ s => ok_plus2 _) (qG_ok Tryz.prog) Tryz.func116 (run_ck1_g x y) ⟨hx, hy, hy, hy, hx, hx, hx, by rw [h], trivial⟩ ha
          · have e : flat (q1 x ++ (q1 y ++ e1 F1.one)) = flat (ej1 (m1 x, m1 y, F1.one)) := by
              rw [flat_append, flat_append, bl_f1 hx, bl_f1 hy]
              rfl
            show Value.tuple #[.agg (flat _).toArray, _] = .tuple #[.agg (flat _).toArray, _]
            rw [e]
        · rw [if_neg h]
          exact funB_sound hmix (fun _ s => ok_plus2 _) (qG_ok Tryz.prog) Tryz.func116 (run_ck1_f x y) ⟨hx, hy, hy, hy, hx, hx, hx, flat_ne h, trivial⟩ ha
      · rw [if_pos (fun h => hy h.2)]
        exact funB_sound hmix (fun _ s => ok_plus2 _) (qG_ok Tryz.prog) Tryz.func116 (run_ck1_e x y) ⟨hx, hy, trivial⟩ ha
    · rw [if_pos (fun h => hx h.1)]
      exact funB_sound hmix (fun _ s => ok_plus2 _) (qG_ok Tryz.prog) Tryz.func116 (run_ck1_d x y) ⟨hx, trivial⟩ ha
noncomputable def gCk1 : Ent
  | [.v (.fl l), .v (.fl m), .v (.im (.bool i))] => match rq1 l, rq1 m with
    | some x, some y => some ([], .many [.fl (ej1 (ck1 x y i).2), .im (.int .i64 (ck1 x y i).1)])
    | _, _ => none
  | _ => none
theorem gCk1_ok : ∀ cs pre r, gCk1 cs = some (pre, r) → allP pre → ∀ (args : List Value) (w : World), CAs w cs args → Good Tryz.prog 116 r args w := by
  intro cs pre r hg hp args w ha
  unfold gCk1 at hg
  split at hg
  · rename_i l m i
    split at hg
    · rename_i x y hx hy
      cases hg
      refine ck1_ok x y i args w ?_
      match args, ha with
      | [u, v, t], ha =>
        refine ⟨?_, ?_, ha.2.2⟩
        · show u = .agg (flat (q1 x)).toArray
          rw [← rq1_ok l x hx]; exact ha.1
        · show v = .agg (flat (q1 y)).toArray
          rw [← rq1_ok m y hy]; exact ha.2.1
      | [], ha => exact ha.elim
      | [_], ha => exact ha.2.elim
      | [_, _], ha => exact ha.2.2.elim
      | _ :: _ :: _ :: _ :: _, ha => exact ha.2.2.2.elim
    · cases hg
  · cases hg
noncomputable def T_ck1 (d : Bool) : Tab := (T_plus2 d).add 116 gCk1
theorem ok_ck1 (d : Bool) : TabOk Tryz.prog (T_ck1 d) := (ok_plus2 d).add Tryz.func116 (by kernel_rfl) (by kernel_rfl) gCk1_ok
/-- a point as it comes in -/
abbrev G1N := Nat × Nat × Bool
def gq1 (p : G1N) : List At := [.q p.1, .q p.2.1, .c (.bool p.2.2)]
def rg1 : List At → Option G1N
  | [a, b, .c (.bool i)] => match nat? a, nat? b with | some x, some y => some (x, y, i) | _, _ => none
  | _ => none
theorem nat?_flat {a : At} {x : Nat} (h : nat? a = some x) : a.cells = w4 x := by cases a <;> cases h <;> rfl
theorem rg1_ok : Rd rg1 gq1 := fun l x h => by
  unfold rg1 at h
  split at h
  · split at h
    · rename_i x y h1 h2
      cases h
      show _ ++ (_ ++ _) = w4 _ ++ (w4 _ ++ _)
      rw [nat?_flat h1, nat?_flat h2]
    · cases h
  · cases h
def ptI {R : Type} : Pt R → Bool | none => true | some _ => false
def ptX {R : Type} (K : CR R) : Pt R → R | none => K.zero | some p => p.1
def ptY {R : Type} (K : CR R) : Pt R → R | none => K.zero | some p => p.2
def gf1 (p : Pt Fq) : List At := [.f (ptX F1 p), .f (ptY F1 p), .c (.bool (ptI p))]
set_option maxRecDepth 100000 in
theorem run_in1 (d : Bool) (p : G1N) : funB Tryz.prog (qG Tryz.prog) (fun _ => ⟨fun s => T_ck1 d, fun s => true, fun _ => none⟩) Tryz.f61 80 [.v (.fl (gq1 p))] = some ([], .many [.fl (ej1 (ck1 p.1 p.2.1 p.2.2).2), .im (.int .i64 (ck1 p.1 p.2.1 p.2.2).1)]) := by kernel_rfl
noncomputable def T_in1 (d : Bool) : Tab := (T_ck1 d).add 61 (g1 rg1 fun p => ([], .many [.fl (ej1 (ck1 p.1 p.2.1 p.2.2).2), .im (.int .i64 (ck1 p.1 p.2.1 p.2.2).1)]))
theorem ok_in1 (d : Bool) : TabOk Tryz.prog (T_in1 d) := (ok_ck1 d).add Tryz.func61 (by kernel_rfl) (by kernel_rfl) (g1_ok rg1_ok fun p hp args w ha => funB_sound hmix (fun _ s => ok_ck1 _) (qG_ok Tryz.prog) Tryz.func61 (run_in1 d p) trivial ha)
set_option maxRecDepth 100000 in
theorem run_On1 (d : Bool) (p : G1N) : funB Tryz.prog (qG Tryz.prog) (fun _ => ⟨fun s => T_in1 d, fun s => true, fun _ => none⟩) Tryz.f17 80 [.v (.fl (gq1 p))] = some ([], .one (.im (.int .i64 (ck1 p.1 p.2.1 p.2.2).1))) := by kernel_rfl
noncomputable def T_On1 (d : Bool) : Tab := (T_in1 d).add 17 (g1 rg1 fun p => ([], .one (.im (.int .i64 (ck1 p.1 p.2.1 p.2.2).1))))
theorem ok_On1 (d : Bool) : TabOk Tryz.prog (T_On1 d) := (ok_in1 d).add Tryz.func17 (by kernel_rfl) (by kernel_rfl) (g1_ok rg1_ok fun p hp args w ha => funB_sound hmix (fun _ s => ok_in1 _) (qG_ok Tryz.prog) Tryz.func17 (run_On1 d p) trivial ha)
set_option maxRecDepth 100000 in
theorem run_out1_t (p : J1) : funB Tryz.prog (qG Tryz.prog) (fun _ => ⟨fun s => T_On1 true, fun s => true, fun _ => none⟩) Tryz.f105 80 [.v (.fl (ej1 p))] = some ([p.2.2 = F1.zero], .one (.fl (gf1 none))) := by kernel_rfl
set_option maxRecDepth 100000 in
theorem run_out1_f (p : J1) : funB Tryz.prog (qG Tryz.prog) (fun _ => ⟨fun s => T_On1 false, fun s => true, fun _ => none⟩) Tryz.f105 80 [.v (.fl (ej1 p))] = some ([p.2.2 ≠ F1.zero], .one (.fl (gf1 (some (F1.mul p.1 (F1.mul (finv p.2.2) (finv p.2.2)), F1.mul p.2.1 (F1.mul (F1.mul (finv p.2.2) (finv p.2.2)) (finv p.2.2))))))) := by kernel_rfl
theorem out1_ok (p : J1) (args : List Value) (w : World) (ha : CAs w [.v (.fl (ej1 p))] args) : Good Tryz.prog 105 (.one (.fl (gf1 (jto F1 finv p)))) args w := by
  by_cases h : p.2.2 = F1.zero
  · rw [jto_zero h]
    exact funB_sound hmix (fun _ s => ok_On1 _) (qG_ok Tryz.prog) Tryz.func105 (run_out1_t p) ⟨h, trivial⟩ ha
  · rw [jto_some h]
    exact funB_sound hmix (fun _ s => ok_On1 _) (qG_ok Tryz.prog) Tryz.func105 (run_out1_f p) ⟨h, trivial⟩ ha
noncomputable def T_out1 (d : Bool) : Tab := (T_On1 d).add 105 (g1 rj1 fun p => ([], .one (.fl (gf1 (jto F1 finv p)))))
theorem ok_out1 (d : Bool) : TabOk Tryz.prog (T_out1 d) := (ok_On1 d).add Tryz.func105 (by kernel_rfl) (by kernel_rfl) (g1_ok rj1_ok fun p hp args w ha => out1_ok p args w ha)
def grp1 : List At := [.c (.func (.func 61) #[] #[]), .c (.func (.func 105) #[] #[])]
set_option maxRecDepth 100000 in
theorem run_grp1 (d : Bool) : funB Tryz.prog (qG Tryz.prog) (fun _ => ⟨fun s => T_out1 d, fun s => true, fun _ => none⟩) Tryz.f52 80 [] = some ([], .one (.fl grp1)) := by kernel_rfl
noncomputable def T_grp1 (d : Bool) : Tab := (T_out1 d).add 52 (g0 (.one (.fl grp1)))
theorem ok_grp1 (d : Bool) : TabOk Tryz.prog (T_grp1 d) := (ok_out1 d).add Tryz.func52 (by kernel_rfl) (by kernel_rfl) (g0_ok fun w => funB_sound hmix (fun _ s => ok_out1 _) (qG_ok Tryz.prog) Tryz.func52 (run_grp1 d) trivial (args := []) trivial)
set_option maxRecDepth 100000 in
theorem run_gneg1_t (d : Bool) (p : G1N) : funB Tryz.prog (qG Tryz.prog) (fun _ => ⟨fun s => T_grp1 d, fun s => true, fun s => bif Nat.beq s 17 then some (.bool true) else none⟩) Tryz.f59 80 [.v (.fl grp1), .v (.fl (gq1 p))] = some ([intOp .neq .i64 (ck1 p.1 p.2.1 p.2.2).1 0 = some (.bool true)], .many [.fl (gf1 (some (F1.zero, F1.zero))), .im (.int .i64 (ck1 p.1 p.2.1 p.2.2).1)]) := by kernel_rfl
set_option maxRecDepth 100000 in
theorem run_gneg1_f (d : Bool) (p : G1N) : funB Tryz.prog (qG Tryz.prog) (fun _ => ⟨fun s => T_grp1 d, fun s => true, fun s => bif Nat.beq s 17 then some (.bool false) else none⟩) Tryz.f59 80 [.v (.fl grp1), .v (.fl (gq1 p))] = some ([intOp .neq .i64 (ck1 p.1 p.2.1 p.2.2).1 0 = some (.bool false)], .many [.fl (gf1 (jto F1 finv (jneg F1 (ck1 p.1 p.2.1 p.2.2).2))), .im (.int .i64 0)]) := by kernel_rfl
open Classical in
theorem ck2_ex : ∃ g : N2 → N2 → Bool → Int × J2, ∀ x y i, g x y i = if i = true then (if zr2 x ∧ zr2 y then (0, (F2.zero, F2.zero, F2.zero)) else (44, (F2.zero, F2.zero, F2.zero))) else if ¬ (bl2 x ∧ bl2 y) then (21, (F2.zero, F2.zero, F2.zero)) else if F2.mul (m2 y) (m2 y) = F2.add (F2.mul (F2.mul (m2 x) (m2 x)) (m2 x)) b2E then (0, (m2 x, m2 y, F2.one)) else (41, (F2.zero, F2.zero, F2.zero)) := ⟨_, fun _ _ _ => rfl⟩
noncomputable def ck2 : N2 → N2 → Bool → Int × J2 := Classical.choose ck2_ex
open Classical in
theorem ck2_eq (x y : N2) (i : Bool) : ck2 x y i = if i = true then (if zr2 x ∧ zr2 y then (0, (F2.zero, F2.zero, F2.zero)) else (44, (F2.zero, F2.zero, F2.zero))) else if ¬ (bl2 x ∧ bl2 y) then (21, (F2.zero, F2.zero, F2.zero)) else if F2.mul (m2 y) (m2 y) = F2.add (F2.mul (F2.mul (m2 x) (m2 x)) (m2 x)) b2E then (0, (m2 x, m2 y, F2.one)) else (41, (F2.zero, F2.zero, F2.zero)) := Classical.choose_spec ck2_ex x y i
set_option maxRecDepth 100000 in
theorem run_ck2_a (x y : N2) : funB Tryz.prog (qG Tryz.prog) (fun _ => ⟨fun s => T_grp1 (bif Nat.beq s 28 then true else bif Nat.beq s 33 then true else true), fun s => false, fun _ => none⟩) Tryz.f135 80 [.v (.fl (q2 x)), .v (.fl (q2 y)), .v (.im (.bool true))] = some ([flat (q2 x) ≠ flat (e2 F2.zero)], .many [.fl (ej2 (F2.zero, F2.zero, F2.zero)), .im (.int .i64 44)]) := by kernel_rfl
set_option maxRecDepth 100000 in
theorem run_ck2_b (x y : N2) : funB Tryz.prog (qG Tryz.prog) (fun _ => ⟨fun s => T_grp1 (bif Nat.beq s 28 then true else bif Nat.beq s 33 then true else true), fun s => !(Nat.beq s 18), fun _ => none⟩) Tryz.f135 80 [.v (.fl (q2 x)), .v (.fl (q2 y)), .v (.im (.bool true))] = some ([flat (q2 x) = flat (e2 F2.zero), flat (q2 y) ≠ flat (e2 F2.zero)], .many [.fl (ej2 (F2.zero, F2.zero, F2.zero)), .im (.int .i64 44)]) := by kernel_rfl
set_option maxRecDepth 100000 in
theorem run_ck2_c (x y : N2) : funB Tryz.prog (qG Tryz.prog) (fun _ => ⟨fun s => T_grp1 (bif Nat.beq s 28 then true else bif Nat.beq s 33 then true else true), fun s => true, fun _ => none⟩) Tryz.f135 80 [.v (.fl (q2 x)), .v (.fl (q2 y)), .v (.im (.bool true))] = some ([flat (q2 x) = flat (e2 F2.zero), flat (q2 y) = flat (e2 F2.zero)], .many [.fl (ej2 (F2.zero, F2.zero, F2.zero)), .im (.int .i64 0)]) := by kernel_rfl
set_option maxRecDepth 100000 in
theorem run_ck2_d (x y : N2) : funB Tryz.prog (qG Tryz.prog) (fun _ => ⟨fun s => T_grp1 (bif Nat.beq s 28 then false else bif Nat.beq s 33 then true else true), fun s => true, fun _ => none⟩) Tryz.f135 80 [.v (.fl (q2 x)), .v (.fl (q2 y)), .v (.im (.bool false))] = some ([¬ (wv x.1 < FP.M ∧ wv x.2 < FP.M)], .many [.fl (ej2 (F2.zero, F2.zero, F2.zero)), .im (.int .i64 21)]) := by kernel_rfl
set_option maxRecDepth 100000 in
theorem run_ck2_e (x y : N2) : funB Tryz.prog (qG Tryz.prog) (fun _ => ⟨fun s => T_grp1 (bif Nat.beq s 28 then true else bif Nat.beq s 33 then false else true), fun s => true, fun _ => none⟩) Tryz.f135 80 [.v (.fl (q2 x)), .v (.fl (q2 y)), .v (.im (.bool false))] = some ([(wv x.1 < FP.M ∧ wv x.2 < FP.M), ¬ (wv y.1 < FP.M ∧ wv y.2 < FP.M)], .many [.fl (ej2 (F2.zero, F2.zero, F2.zero)), .im (.int .i64 21)]) := by kernel_rfl
set_option maxRecDepth 100000 in
theorem run_ck2_f (x y : N2) : funB Tryz.prog (qG Tryz.prog) (fun _ => ⟨fun s => T_grp1 (bif Nat.beq s 28 then true else bif Nat.beq s 33 then true else true), fun s => false, fun _ => none⟩) Tryz.f135 80 [.v (.fl (q2 x)), .v (.fl (q2 y)), .v (.im (.bool false))] = some ([(wv x.1 < FP.M ∧ wv x.2 < FP.M), (wv y.1 < FP.M ∧ wv y.2 < FP.M), flat (e2 (F2.mul (m2 y) (m2 y))) ≠ flat (e2 (F2.add (F2.mul (F2.mul (m2 x) (m2 x)) (m2 x)) b2E))], .many [.fl (ej2 (F2.zero, F2.zero, F2.zero)), .im (.int .i64 41)]) := by kernel_rfl
set_option maxRecDepth 100000 in
theorem run_ck2_g (x y : N2) : funB Tryz.prog (qG Tryz.prog) (fun _ => ⟨fun s => T_grp1 (bif Nat.beq s 28 then true else bif Nat.beq s 33 then true else true), fun s => true, fun _ => none⟩) Tryz.f135 80 [.v (.fl (q2 x)), .v (.fl (q2 y)), .v (.im (.bool false))] = some ([(wv x.1 < FP.M ∧ wv x.2 < FP.M), (wv y.1 < FP.M ∧ wv y.2 < FP.M), flat (e2 (F2.mul (m2 y) (m2 y))) = flat (e2 (F2.add (F2.mul (F2.mul (m2 x) (m2 x)) (m2 x)) b2E))], .many [.fl (q2 x ++ (q2 y ++ e2 F2.one)), .im (.int .i64 0)]) := by kernel_rfl
theorem ck2_ok (x y : N2) (i : Bool) (args : List Value) (w : World) (ha : CAs w [.v (.fl (q2 x)), .v (.fl (q2 y)), .v (.im (.bool i))] args) : Good Tryz.prog 135 (.many [.fl (ej2 (ck2 x y i).2), .im (.int .i64 (ck2 x y i).1)]) args w := by
  rw [ck2_eq]
  cases i with
  | true =>
    rw [if_pos rfl]
    by_cases hx : zr2 x
    · by_cases hy : zr2 y
      · rw [if_pos ⟨hx, hy⟩]
        exact funB_sound hmix (fun _ s => ok_grp1 _) (qG_ok Tryz.prog) Tryz.func135 (run_ck2_c x y) ⟨q_zero2.2 hx, q_zero2.2 hy, trivial⟩ ha
      · rw [if_neg (fun h => hy h.2)]
        exact funB_sound hmix (fun _ s => ok_grp1 _) (qG_ok Tryz.prog) Tryz.func135 (run_ck2_b x y) ⟨q_zero2.2 hx, fun h => hy (q_zero2.1 h), trivial⟩ ha
    · rw [if_neg (fun h => hx h.1)]
      exact funB_sound hmix (fun _ s => ok_grp1 _) (qG_ok Tryz.prog) Tryz.func135 (run_ck2_a x y) ⟨fun h => hx (q_zero2.1 h), trivial⟩ ha
  | false =>
    rw [if_neg (by simp)]
    by_cases hx : bl2 x
    · by_cases hy : bl2 y
      · rw [if_neg (fun h => h ⟨hx, hy⟩)]
        by_cases h : F2.mul (m2 y) (m2 y) = F2.add (F2.mul (F2.mul (m2 x) (m2 x)) (m2 x)) b2E
        · rw [if_pos h]
          refine Good.congr (r := .many [.fl (q2 x ++ (q2 y ++ e2 F2.one)), .im (.int .i64 0)]) ?_ ?_
          · exact funB_sound hmix (fun _ s => ok_grp1 _) (qG_ok Tryz.prog) Tryz.func135 (run_ck2_g x y) ⟨hx, hy, by rw [h], trivial⟩ ha
          · have e : flat (q2 x ++ (q2 y ++ e2 F2.one)) = flat (ej2 (m2 x, m2 y, F2.one)) := by
              rw [flat_append, flat_append, bl_f2 hx, bl_f2 hy]
              rfl
            show Value.tuple #[.agg (flat _).toArray, _] = .tuple #[.agg (flat _).toArray, _]
            rw [e]
        · rw [if_neg h]
          exact funB_sound hmix (fun _ s => ok_grp1 _) (qG_ok Tryz.prog) Tryz.func135 (run_ck2_f x y) ⟨hx, hy, flat_ne2 h, trivial⟩ ha
      · rw [if_pos (fun h => hy h.2)]
        exact funB_sound hmix (fun _ s => ok_grp1 _) (qG_ok Tryz.prog) Tryz.func135 (run_ck2_e x y) ⟨hx, hy, trivial⟩ ha
    · rw [if_pos (fun h => hx h.1)]
      exact funB_sound hmix (fun _ s => ok_grp1 _) (qG_ok Tryz.prog) Tryz.func135 (run_ck2_d x y) ⟨hx, trivial⟩ ha
noncomputable def gCk2 : Ent
  | [.v (.fl l), .v (.fl m), .v (.im (.bool i))] => match rq2 l, rq2 m with
    | some x, some y => some ([], .many [.fl (ej2 (ck2 x y i).2), .im (.int .i64 (ck2 x y i).1)])
    | _, _ => none
  | _ => none
theorem gCk2_ok : ∀ cs pre r, gCk2 cs = some (pre, r) → allP pre → ∀ (args : List Value) (w : World), CAs w cs args → Good Tryz.prog 135 r args w := by
  intro cs pre r hg hp args w ha
  unfold gCk2 at hg
  split at hg
  · rename_i l m i
    split at hg
    · rename_i x y hx hy
      cases hg
      refine ck2_ok x y i args w ?_
      match args, ha with
      | [u, v, t], ha =>
        refine ⟨?_, ?_, ha.2.2⟩
        · show u = .agg (flat (q2 x)).toArray
          rw [← rq2_ok l x hx]; exact ha.1
        · show v = .agg (flat (q2 y)).toArray
          rw [← rq2_ok m y hy]; exact ha.2.1
      | [], ha => exact ha.elim
      | [_], ha => exact ha.2.elim
      | [_, _], ha => exact ha.2.2.elim
      | _ :: _ :: _ :: _ :: _, ha => exact ha.2.2.2.elim
    · cases hg
  · cases hg
noncomputable def T_ck2 (d : Bool) : Tab := (T_grp1 d).add 135 gCk2
theorem ok_ck2 (d : Bool) : TabOk Tryz.prog (T_ck2 d) := (ok_grp1 d).add Tryz.func135 (by kernel_rfl) (by kernel_rfl) gCk2_ok
/-- a point as it comes in -/
abbrev G2N := N2 × N2 × Bool
def gq2 (p : G2N) : List At := [.q p.1.1, .q p.1.2, .q p.2.1.1, .q p.2.1.2, .c (.bool p.2.2)]
def rg2 : List At → Option G2N
  | [a, b, c, d, .c (.bool i)] => match nat? a, nat? b, nat? c, nat? d with | some x, some y, some z, some w => some ((x, y), (z, w), i) | _, _, _, _ => none
  | _ => none
theorem rg2_ok : Rd rg2 gq2 := fun l x h => by
  unfold rg2 at h
  split at h
  · split at h
    · rename_i x y z w h1 h2 h3 h4
      cases h
      show _ ++ (_ ++ (_ ++ (_ ++ _))) = w4 _ ++ (w4 _ ++ (w4 _ ++ (w4 _ ++ _)))
      rw [nat?_flat h1, nat?_flat h2, nat?_flat h3, nat?_flat h4]
    · cases h
  · cases h
def gf2 (p : Pt Q2) : List At := [.f (ptX F2 p).1, .f (ptX F2 p).2, .f (ptY F2 p).1, .f (ptY F2 p).2, .c (.bool (ptI p))]
set_option maxRecDepth 100000 in
theorem run_in2 (d : Bool) (p : G2N) : funB Tryz.prog (qG Tryz.prog) (fun _ => ⟨fun s => T_ck2 d, fun s => true, fun _ => none⟩) Tryz.f82 80 [.v (.fl (gq2 p))] = some ([], .many [.fl (ej2 (ck2 p.1 p.2.1 p.2.2).2), .im (.int .i64 (ck2 p.1 p.2.1 p.2.2).1)]) := by kernel_rfl
noncomputable def T_in2 (d : Bool) : Tab := (T_ck2 d).add 82 (g1 rg2 fun p => ([], .many [.fl (ej2 (ck2 p.1 p.2.1 p.2.2).2), .im (.int .i64 (ck2 p.1 p.2.1 p.2.2).1)]))
theorem ok_in2 (d : Bool) : TabOk Tryz.prog (T_in2 d) := (ok_ck2 d).add Tryz.func82 (by kernel_rfl) (by kernel_rfl) (g1_ok rg2_ok fun p hp args w ha => funB_sound hmix (fun _ s => ok_ck2 _) (qG_ok Tryz.prog) Tryz.func82 (run_in2 d p) trivial ha)
set_option maxRecDepth 100000 in
theorem run_On2 (d : Bool) (p : G2N) : funB Tryz.prog (qG Tryz.prog) (fun _ => ⟨fun s => T_in2 d, fun s => true, fun _ => none⟩) Tryz.f28 80 [.v (.fl (gq2 p))] = some ([], .one (.im (.int .i64 (ck2 p.1 p.2.1 p.2.2).1))) := by kernel_rfl
noncomputable def T_On2 (d : Bool) : Tab := (T_in2 d).add 28 (g1 rg2 fun p => ([], .one (.im (.int .i64 (ck2 p.1 p.2.1 p.2.2).1))))
theorem ok_On2 (d : Bool) : TabOk Tryz.prog (T_On2 d) := (ok_in2 d).add Tryz.func28 (by kernel_rfl) (by kernel_rfl) (g1_ok rg2_ok fun p hp args w ha => funB_sound hmix (fun _ s => ok_in2 _) (qG_ok Tryz.prog) Tryz.func28 (run_On2 d p) trivial ha)
set_option maxRecDepth 100000 in
theorem run_out2_t (p : J2) : funB Tryz.prog (qG Tryz.prog) (fun _ => ⟨fun s => T_On2 true, fun s => true, fun _ => none⟩) Tryz.f121 80 [.v (.fl (ej2 p))] = some ([p.2.2 = F2.zero], .one (.fl (gf2 none))) := by kernel_rfl
set_option maxRecDepth 100000 in
theorem run_out2_f (p : J2) : funB Tryz.prog (qG Tryz.prog) (fun _ => ⟨fun s => T_On2 false, fun s => true, fun _ => none⟩) Tryz.f121 80 [.v (.fl (ej2 p))] = some ([p.2.2 ≠ F2.zero], .one (.fl (gf2 (some (F2.mul p.1 (F2.mul (iv2 p.2.2) (iv2 p.2.2)), F2.mul p.2.1 (F2.mul (F2.mul (iv2 p.2.2) (iv2 p.2.2)) (iv2 p.2.2))))))) := by kernel_rfl
theorem out2_ok (p : J2) (args : List Value) (w : World) (ha : CAs w [.v (.fl (ej2 p))] args) : Good Tryz.prog 121 (.one (.fl (gf2 (jto F2 iv2 p)))) args w := by
  by_cases h : p.2.2 = F2.zero
  · rw [jto_zero h]
    exact funB_sound hmix (fun _ s => ok_On2 _) (qG_ok Tryz.prog) Tryz.func121 (run_out2_t p) ⟨h, trivial⟩ ha
  · rw [jto_some h]
    exact funB_sound hmix (fun _ s => ok_On2 _) (qG_ok Tryz.prog) Tryz.func121 (run_out2_f p) ⟨h, trivial⟩ ha
noncomputable def T_out2 (d : Bool) : Tab := (T_On2 d).add 121 (g1 rj2 fun p => ([], .one (.fl (gf2 (jto F2 iv2 p)))))
theorem ok_out2 (d : Bool) : TabOk Tryz.prog (T_out2 d) := (ok_On2 d).add Tryz.func121 (by kernel_rfl) (by kernel_rfl) (g1_ok rj2_ok fun p hp args w ha => out2_ok p args w ha)
def grp2 : List At := [.c (.func (.func 82) #[] #[]), .c (.func (.func 121) #[] #[])]
set_option maxRecDepth 100000 in
theorem run_grp2 (d : Bool) : funB Tryz.prog (qG Tryz.prog) (fun _ => ⟨fun s => T_out2 d, fun s => true, fun _ => none⟩) Tryz.f68 80 [] = some ([], .one (.fl grp2)) := by kernel_rfl
noncomputable def T_grp2 (d : Bool) : Tab := (T_out2 d).add 68 (g0 (.one (.fl grp2)))
theorem ok_grp2 (d : Bool) : TabOk Tryz.prog (T_grp2 d) := (ok_out2 d).add Tryz.func68 (by kernel_rfl) (by kernel_rfl) (g0_ok fun w => funB_sound hmix (fun _ s => ok_out2 _) (qG_ok Tryz.prog) Tryz.func68 (run_grp2 d) trivial (args := []) trivial)
set_option maxRecDepth 100000 in
theorem run_gneg2_t (d : Bool) (p : G2N) : funB Tryz.prog (qG Tryz.prog) (fun _ => ⟨fun s => T_grp2 d, fun s => true, fun s => bif Nat.beq s 17 then some (.bool true) else none⟩) Tryz.f75 80 [.v (.fl grp2), .v (.fl (gq2 p))] = some ([intOp .neq .i64 (ck2 p.1 p.2.1 p.2.2).1 0 = some (.bool true)], .many [.fl (gf2 (some (F2.zero, F2.zero))), .im (.int .i64 (ck2 p.1 p.2.1 p.2.2).1)]) := by kernel_rfl
set_option maxRecDepth 100000 in
theorem run_gneg2_f (d : Bool) (p : G2N) : funB Tryz.prog (qG Tryz.prog) (fun _ => ⟨fun s => T_grp2 d, fun s => true, fun s => bif Nat.beq s 17 then some (.bool false) else none⟩) Tryz.f75 80 [.v (.fl grp2), .v (.fl (gq2 p))] = some ([intOp .neq .i64 (ck2 p.1 p.2.1 p.2.2).1 0 = some (.bool false)], .many [.fl (gf2 (jto F2 iv2 (jneg F2 (ck2 p.1 p.2.1 p.2.2).2))), .im (.int .i64 0)]) := by kernel_rfl
end Go.Proofs.YthlcjdcjnioeoaaGreat.Ex
namespace Go.Proofs.YthlcjdcjnioeoaaGreat.Ex
set_option linter.unusedVariables false
set_option linter.unusedSimpArgs false
open Go.RowKit
/-- a number's length -/
def lenF (n : Nat) : Nat := if wv n = 0 then 0 else Nat.log2 (wv n) + 1
theorem lenF_is (n : Nat) : LenIs (wv n) (lenF n) := by
  unfold lenF
  by_cases h : wv n = 0
  · rw [if_pos h, h]; exact ⟨by decide, fun h => by cases h⟩
  · rw [if_neg h]
    exact ⟨Nat.lt_log2_self, fun _ => by rw [Nat.add_sub_cancel]; exact Nat.log2_self_le h⟩
theorem wv_lt (n : Nat) : wv n < 2 ^ 256 := by
  obtain ⟨h0, h1, h2, h3⟩ := fw_ok n
  unfold wv val4
  have : (2 : Nat) ^ 256 = 115792089237316195423570985008687907853269984665640564039457584007913129639936 := by decide
  omega
theorem lenF_le (n : Nat) : lenF n ≤ 256 := by
  rcases Nat.lt_or_ge 256 (lenF n) with h | h
  · have h1 := (lenF_is n).2 (by omega)
    have h2 := Nat.pow_le_pow_right (show 0 < 2 by omega) (show 256 ≤ lenF n - 1 by omega)
    have := wv_lt n
    omega
  · exact h
def gLen : Ent
  | [.v (.fl l)] => match rq1 l with
    | some n => some ([], .one (.im (.int .i64 (lenF n : Nat))))
    | none => none
  | _ => none
theorem len_ok : ∀ cs pre r, gLen cs = some (pre, r) → allP pre → ∀ (args : List Value) (w : World), CAs w cs args → Good Tryz.prog 215 r args w := by
  intro cs pre r hg hp args w ha
  unfold gLen at hg
  split at hg
  · rename_i l
    split at hg
    · rename_i n hn
      cases hg
      rw [args1 ha, rq1_ok l _ hn]
      refine (len_calls _ _ _ _ (fw_ok n) w).mono ?_
      rintro e w' ⟨L, rfl, _, h, hbl⟩
      cases h.uniq (lenF_is n)
      exact ⟨rfl, hbl⟩
    · cases hg
  · cases hg
def gBit : Ent
  | [.v (.fl l), .v (.im (.int .i64 (.ofNat i)))] => match rq1 l with
    | some n => some ([i < 256], .one (.im (.int .i64 (bitOf (wv n) i : Nat))))
    | none => none
  | _ => none
/-- a number, less its lowest bits -/
def gShr : Ent
  | [.v (.fl l), .v (.im (.int .i64 (.ofNat k)))] => match rq1 l with
    | some n => some ([k < 9223372036854775808], .one (.fl (q1 (wv n / 2 ^ k))))
    | none => none
  | _ => none
theorem shr_ok : ∀ cs pre r, gShr cs = some (pre, r) → allP pre → ∀ (args : List Value) (w : World), CAs w cs args → Good Tryz.prog 217 r args w := by
  intro cs pre r hg hp args w ha
  unfold gShr at hg
  split at hg
  · rename_i l k
    split at hg
    · rename_i n hn
      cases hg
      match args, ha with
      | [v, u], ha =>
        have h1 : v = .agg (flat l).toArray := ha.1
        have h2 : u = .int .i64 (Int.ofNat k) := ha.2.1
        rw [rq1_ok l _ hn] at h1
        subst h1; subst h2
        have hk : k < 9223372036854775808 := hp.1
        refine (shr_calls _ _ _ _ (Int.ofNat k) (fw_ok n) (by simp) (by simp; omega) w).mono ?_
        rintro e w' ⟨s0, s1, s2, s3, rfl, hs, hv, hb⟩
        have hlt : wv n / 2 ^ k < 115792089237316195423570985008687907853269984665640564039457584007913129639936 := by
          refine Nat.lt_of_le_of_lt (Nat.div_le_self _ _) ?_
          have := wv_lt n
          have e : (2 : Nat) ^ 256 = 115792089237316195423570985008687907853269984665640564039457584007913129639936 := by decide
          omega
        obtain ⟨rfl, rfl, rfl, rfl⟩ := fw_of hs hlt hv
        exact ⟨rfl, hb⟩
      | [], ha => exact ha.elim
      | [_], ha => exact ha.2.elim
      | _ :: _ :: _ :: _, ha => exact ha.2.2.elim
    · cases hg
  · cases hg
end Go.Proofs.YthlcjdcjnioeoaaGreat.Ex
namespace Go.Proofs.YthlcjdcjnioeoaaGreat.Ex
set_option linter.unusedVariables false
set_option linter.unusedSimpArgs false
open Go.RowKit

/-- code leads from the facts A to the facts L -/
def Ok (P : Program) (base : Nat) (w0 : World) (nt : Nat) (c : Code) (A : List Fact) (e : EA) (L : List Fact) : Prop :=
  ∃ q C f ps, EqOkW P q base w0 ∧ (∀ n d, TabOkW P ((C n).T d) base w0) ∧ runK P q nt C f c A L = some (ps, e, L) ∧ allP ps
section
variable {P : Program} {nt base : Nat} {w0 : World} {Q : Exit → Act → World → Prop}
theorem Ok.wp (hm : P.follows .mixedOrders = true) {c : Code} {A L : List Fact} {e : EA} (h : Ok P base w0 nt c A e L) {a : Act} {w : World} (hA : Holds nt base w0 A a w) (hQ : ∀ a w, Holds nt base w0 L a w → Q e.out a w) : c.wp P Q a w := by
  obtain ⟨q, C, f, ps, h1, h2, h3, h4⟩ := h
  exact runKW_sound hm h2 h1 h3 h4 hA hQ
/-- a loop: round i leads from the facts A i to A (i + 1); the round behind the last leaves with e -/
theorem loop_r (hm : P.follows .mixedOrders = true) {c : Code} (A : Nat → List Fact) (N : Nat) (hstep : ∀ i, i < N → Ok P base w0 nt c (A i) .nrm (A (i + 1)))
    (e : EA) (he : e ≠ .nrm) (A' : List Fact) (hend : Ok P base w0 nt c (A N) e A')
    {a : Act} {w : World} (hA : Holds nt base w0 (A 0) a w) (hQ : ∀ a w, Holds nt base w0 A' a w → Q e.out a w) : (Code.loop c).wp P Q a w := by
  have key : ∀ m i a w, i + m = N → Holds nt base w0 (A i) a w → Un P c Q (m + 1) a w := by
    intro m
    induction m with
    | zero =>
      intro i a w hi hA
      have : i = N := by omega
      subst this
      unfold Un
      refine hend.wp hm hA fun a w hA1 => ?_
      have := hQ a w hA1
      cases e with
      | nrm => exact (he rfl).elim
      | ex id => exact this
      | rt => exact this
    | succ m ih =>
      intro i a w hi hA
      unfold Un
      exact (hstep i (by omega)).wp hm hA fun a w hA1 => ih (i + 1) a w (by omega) hA1
  exact wp_loop_un (key N 0 a w (by omega) hA)
end
theorem TabOkW.add {P : Program} {T : Tab} {base : Nat} {w0 : World} (hT : TabOkW P T base w0) {f : Nat} {fn : Func} (hf : P.funcs[f]? = some fn) (hn : (fn.name == "runtime.NumGoroutine") = false) (hb : fn.body.isNone = false) {g : List CA → Option (List Prop × RV)}
    (h : ∀ w, Below base w0 w → ∀ cs pre r, g cs = some (pre, r) → allP pre → ∀ (args : List Value), CAs w cs args → Calls P f args.toArray w (fun e w' => e = .returned r.den ∧ Below w.heap.size w w')) : TabOkW P (T.add f g) base w0 := by
  intro w hw f' cs pre r hg hp
  unfold Tab.add at hg
  cases hb' : Nat.beq f' f <;> rw [hb'] at hg
  · exact hT w hw f' cs pre r hg hp
  · cases Nat.eq_of_beq_eq_true hb'
    exact ⟨callable hf hn hb, h w hw cs pre r hg hp⟩
theorem oldOf.go {base : Nat} {w0 w : World} (hb : Below base w0 w) (hbase : base ≤ w0.heap.size) {b o : Nat} {l : List At} (h : b < base ∧ w0.rangeAt b o (flat l)) : oldOf w b o l :=
  ⟨Nat.lt_of_lt_of_le h.1 (Nat.le_trans hbase hb.size), below_range hb h.1 h.2⟩
def assoc {α : Type} : List (Nat × α) → Nat → Option α
  | [], _ => none
  | (k, v) :: r, s => bif Nat.beq k s then some v else assoc r s
def uI (n : Nat) : Value := .int .u64 (Int.ofNat n)
def iI (n : Nat) : Value := .int .i64 (Int.ofNat n)
def slV (b o n m : Nat) : Value := .slice (some ⟨b, o, none⟩) n m
def ptV (b o : Nat) : Value := .pointer (some ⟨b, o, none⟩)
theorem i64_in' {n : Nat} (h : n < 9223372036854775808) : IntKind.i64.wrap (n : Int) = n := by rw [IntKind.wrap_i64]; omega
theorem o_lss {i n : Nat} : intOp .lss .i64 (Int.ofNat i) (Int.ofNat n) = some (.bool (decide (i < n))) := by
  show some (Value.bool (decide ((i : Int) < (n : Int)))) = _
  by_cases h : i < n
  · rw [decide_eq_true h, decide_eq_true (by omega)]
  · rw [decide_eq_false h, decide_eq_false (by omega)]
theorem o_lss_t {i n : Nat} (h : i < n) : intOp .lss .i64 (Int.ofNat i) (Int.ofNat n) = some (.bool true) := by rw [o_lss, decide_eq_true h]
theorem o_lss_f {i n : Nat} (h : n ≤ i) : intOp .lss .i64 (Int.ofNat i) (Int.ofNat n) = some (.bool false) := by rw [o_lss, decide_eq_false (by omega)]
theorem o_gtr {i n : Nat} : intOp .gtr .i64 (Int.ofNat i) (Int.ofNat n) = some (.bool (decide (n < i))) := by
  show some (Value.bool (decide ((i : Int) > (n : Int)))) = _
  by_cases h : n < i
  · rw [decide_eq_true h, decide_eq_true (by omega)]
  · rw [decide_eq_false h, decide_eq_false (by omega)]
theorem o_add {i k : Nat} (h : i + k < 9223372036854775808) : intOp .add .i64 (Int.ofNat i) (Int.ofNat k) = some (iI (i + k)) := by
  show some (Value.int .i64 (IntKind.i64.wrap ((i : Int) + (k : Int)))) = _
  rw [show (i : Int) + (k : Int) = ((i + k : Nat) : Int) by omega, i64_in' h]
  rfl
theorem o_sub {i k : Nat} (h : k ≤ i) (hi : i < 9223372036854775808) : intOp .sub .i64 (Int.ofNat i) (Int.ofNat k) = some (iI (i - k)) := by
  show some (Value.int .i64 (IntKind.i64.wrap ((i : Int) - (k : Int)))) = _
  rw [show (i : Int) - (k : Int) = ((i - k : Nat) : Int) by omega, i64_in' (by omega)]
  rfl
theorem o_mul {i k : Nat} (h : i * k < 9223372036854775808) : intOp .mul .i64 (Int.ofNat i) (Int.ofNat k) = some (iI (i * k)) := by
  show some (Value.int .i64 (IntKind.i64.wrap ((i : Int) * (k : Int)))) = _
  rw [show (i : Int) * (k : Int) = ((i * k : Nat) : Int) by simp, i64_in' h]
  rfl
theorem o_quo {i k : Nat} (hk : 0 < k) (h : i < 9223372036854775808) : intOp .quo .i64 (Int.ofNat i) (Int.ofNat k) = some (iI (i / k)) := by
  show (if (k : Int) = 0 then none else some (Value.int .i64 (IntKind.i64.wrap ((i : Int).tdiv (k : Int))))) = _
  rw [if_neg (by omega), show (i : Int).tdiv (k : Int) = ((i / k : Nat) : Int) from rfl, i64_in' (Nat.lt_of_le_of_lt (Nat.div_le_self _ _) h)]
  rfl
theorem o_neq {i n : Nat} : intOp .neq .i64 (Int.ofNat i) (Int.ofNat n) = some (.bool (decide (i ≠ n))) := by
  show some (Value.bool ((i : Int) != (n : Int))) = _
  by_cases h : i = n
  · subst h; simp
  · rw [decide_eq_true h, bne_iff_ne.2 (by omega)]
end Go.Proofs.YthlcjdcjnioeoaaGreat.Ex
