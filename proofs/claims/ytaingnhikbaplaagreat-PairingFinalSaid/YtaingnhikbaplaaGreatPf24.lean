/-
  The cyclotomic subgroup in a table of calls. Conditions: none.
  What the last power makes of an element of the cyclotomic subgroup: its r-th power is one. Conditions: none.
  The reckoner: what lies in memory from before; answers that are slices of a call's own. Of whatever program. Conditions: the tables of calls are right.
  The reckoner: steps that are so, one after another; loops by rounds; tables that hold from a world on. Of whatever program. Conditions: none.
-/
import Derived.Test.YtaingnhikbaplaaGreatPf22
import Derived.Test.YtaingnhikbaplaaGreatPf23
import Derived.Test.YtaingnhikbaplaaGreatPf21
namespace Go.Proofs.YtaingnhikbaplaaGreat.Ex
set_option linter.unusedVariables false
set_option linter.unusedSimpArgs false
open Go.RowKit

def e4 (x : Q4) : List At := [.f x.1.1, .f x.1.2, .f x.2.1, .f x.2.2]
def rd4 : List At → Option Q4 | [.f a, .f b, .f c, .f d] => some ((a, b), (c, d)) | _ => none
theorem rd4_ok : Rd rd4 e4 := fun l x h => by unfold rd4 at h; split at h <;> cases h; rfl
def g3 {α γ δ : Type} (rd : List At → Option α) (rd' : List At → Option γ) (rd'' : List At → Option δ) (op : α → γ → δ → List Prop × RV) : Ent
  | [.v (.fl l), .v (.fl m), .v (.fl n)] => match rd l, rd' m, rd'' n with | some x, some y, some z => some (op x y z) | _, _, _ => none
  | _ => none
theorem g3_ok {P : Program} {f : FuncId} {α γ δ : Type} {rd : List At → Option α} {en : α → List At} {rd' : List At → Option γ} {en' : γ → List At} {rd'' : List At → Option δ} {en'' : δ → List At} (hr : Rd rd en) (hr' : Rd rd' en') (hr'' : Rd rd'' en'') {op : α → γ → δ → List Prop × RV}
    (h : ∀ x y z, allP (op x y z).1 → ∀ args w, CAs w [.v (.fl (en x)), .v (.fl (en' y)), .v (.fl (en'' z))] args → Good P f (op x y z).2 args w) :
    ∀ cs pre r, g3 rd rd' rd'' op cs = some (pre, r) → allP pre → ∀ (args : List Value) (w : World), CAs w cs args → Good P f r args w := by
  intro cs pre r hg hp args w ha
  unfold g3 at hg
  split at hg
  · rename_i l m n
    split at hg
    · rename_i x y z hx hy hz
      have e : op x y z = (pre, r) := by simpa using hg
      have := h x y z (by rw [e]; exact hp) args w (by
        match args, ha with
        | [v, u, s], ha =>
          refine ⟨?_, ?_, ?_, trivial⟩
          · show v = .agg (flat (en x)).toArray
            rw [← hr l x hx]
            exact ha.1
          · show u = .agg (flat (en' y)).toArray
            rw [← hr' m y hy]
            exact ha.2.1
          · show s = .agg (flat (en'' z)).toArray
            rw [← hr'' n z hz]
            exact ha.2.2.1
        | [], ha => exact ha.elim
        | [_], ha => exact ha.2.elim
        | [_, _], ha => exact ha.2.2.elim
        | _ :: _ :: _ :: _ :: _, ha => exact ha.2.2.2.elim)
      rw [e] at this
      exact this
    · cases hg
  · cases hg
theorem e4_inj {a b : Q4} (h : flat (e4 a) = flat (e4 b)) : a = b := by
  have := flat_inj [a.1.1, a.1.2, a.2.1, a.2.2] [b.1.1, b.1.2, b.2.1, b.2.2] h
  simp only [List.cons.injEq, and_true] at this
  exact Prod.ext (Prod.ext this.1 this.2.1) (Prod.ext this.2.2.1 this.2.2.2)
theorem e12_inj {a b : Q12} (h : flat (e12 a) = flat (e12 b)) : a = b := by
  have := flat_inj [a.1.1.1, a.1.1.2, a.1.2.1.1, a.1.2.1.2, a.1.2.2.1, a.1.2.2.2, a.2.1.1, a.2.1.2, a.2.2.1.1, a.2.2.1.2, a.2.2.2.1, a.2.2.2.2] [b.1.1.1, b.1.1.2, b.1.2.1.1, b.1.2.1.2, b.1.2.2.1, b.1.2.2.2, b.2.1.1, b.2.1.2, b.2.2.1.1, b.2.2.1.2, b.2.2.2.1, b.2.2.2.2] h
  simp only [List.cons.injEq, and_true] at this
  obtain ⟨h0, h1, h2, h3, h4, h5, h6, h7, h8, h9, h10, h11⟩ := this
  exact Prod.ext (Prod.ext (Prod.ext h0 h1) (Prod.ext (Prod.ext h2 h3) (Prod.ext h4 h5))) (Prod.ext (Prod.ext h6 h7) (Prod.ext (Prod.ext h8 h9) (Prod.ext h10 h11)))

set_option maxRecDepth 100000 in
theorem run_fours (c : Bool) (x : Q12) : funA Tryz.prog (T_r2Modulus c) qN (fun _ => true) Tryz.f152 60 [.v (.fl (e12 x))] = some ([], .many [.fl (e4 (fX x)), .fl (e4 (fY x)), .fl (e4 (fZ x))]) := by kernel_rfl
noncomputable def T_fours (c : Bool) : Tab := (T_r2Modulus c).add 152 (g1 rd12 fun x => ([], .many [.fl (e4 (fX x)), .fl (e4 (fY x)), .fl (e4 (fZ x))]))
theorem ok_fours (c : Bool) : TabOk Tryz.prog (T_fours c) := (ok_r2Modulus c).add Tryz.func152 (by kernel_rfl) (by kernel_rfl) (g1_ok rd12_ok fun x hp args w ha => fun_sound hmix (ok_r2Modulus c) qN_ok Tryz.func152 (run_fours c x) hp ha)
set_option maxRecDepth 100000 in
theorem run_f4times (c : Bool) (x : Q4) (y : Q4) : funA Tryz.prog (T_fours c) qN (fun _ => true) Tryz.f153 60 [.v (.fl (e4 x)), .v (.fl (e4 y))] = some ([], .one (.fl (e4 ((F2.add (F2.mul x.1 y.1) (F2.mul x.2 (F2.mul y.2 xiE)), F2.add (F2.mul x.1 y.2) (F2.mul x.2 y.1)))))) := by kernel_rfl
theorem raw_f4times (x : Q4) (y : Q4) : F4.mul x y = (F2.add (F2.mul x.1 y.1) (F2.mul x.2 (F2.mul y.2 xiE)), F2.add (F2.mul x.1 y.2) (F2.mul x.2 y.1)) := by
  refine Prod.ext ?_ rfl
  exact ring_id F2 (envL F2 [x.1, x.2, y.1, y.2, xiE]) (.add (.mul (.v 0) (.v 2)) (.mul (.v 4) (.mul (.v 1) (.v 3)))) (.add (.mul (.v 0) (.v 2)) (.mul (.v 1) (.mul (.v 3) (.v 4)))) (by decide)
noncomputable def T_f4times (c : Bool) : Tab := (T_fours c).add 153 (g2 rd4 rd4 fun x y => ([], .one (.fl (e4 (F4.mul x y)))))
theorem ok_f4times (c : Bool) : TabOk Tryz.prog (T_f4times c) := (ok_fours c).add Tryz.func153 (by kernel_rfl) (by kernel_rfl) (g2_ok rd4_ok rd4_ok fun x y hp args w ha => by show Good _ _ (.one (.fl (e4 (F4.mul x y)))) _ _; rw [raw_f4times]; exact fun_sound hmix (ok_fours c) qN_ok Tryz.func153 (run_f4times c x y) hp ha)
set_option maxRecDepth 100000 in
theorem run_f4s (c : Bool) (x : Q4) : funA Tryz.prog (T_f4times c) qN (fun _ => true) Tryz.f154 60 [.v (.fl (e4 x))] = some ([], .one (.fl (e4 (s4 x)))) := by kernel_rfl
noncomputable def T_f4s (c : Bool) : Tab := (T_f4times c).add 154 (g1 rd4 fun x => ([], .one (.fl (e4 (s4 x)))))
theorem ok_f4s (c : Bool) : TabOk Tryz.prog (T_f4s c) := (ok_f4times c).add Tryz.func154 (by kernel_rfl) (by kernel_rfl) (g1_ok rd4_ok fun x hp args w ha => fun_sound hmix (ok_f4times c) qN_ok Tryz.func154 (run_f4s c x) hp ha)
set_option maxRecDepth 100000 in
theorem run_f4minus (c : Bool) (x : Q4) (y : Q4) : funA Tryz.prog (T_f4s c) qN (fun _ => true) Tryz.f155 60 [.v (.fl (e4 x)), .v (.fl (e4 y))] = some ([], .one (.fl (e4 (F4.sub x y)))) := by kernel_rfl
noncomputable def T_f4minus (c : Bool) : Tab := (T_f4s c).add 155 (g2 rd4 rd4 fun x y => ([], .one (.fl (e4 (F4.sub x y)))))
theorem ok_f4minus (c : Bool) : TabOk Tryz.prog (T_f4minus c) := (ok_f4s c).add Tryz.func155 (by kernel_rfl) (by kernel_rfl) (g2_ok rd4_ok rd4_ok fun x y hp args w ha => fun_sound hmix (ok_f4s c) qN_ok Tryz.func155 (run_f4minus c x y) hp ha)
set_option maxRecDepth 100000 in
theorem run_f4conj (c : Bool) (x : Q4) : funA Tryz.prog (T_f4minus c) qN (fun _ => true) Tryz.f156 60 [.v (.fl (e4 x))] = some ([], .one (.fl (e4 (cj4 x)))) := by kernel_rfl
noncomputable def T_f4conj (c : Bool) : Tab := (T_f4minus c).add 156 (g1 rd4 fun x => ([], .one (.fl (e4 (cj4 x)))))
theorem ok_f4conj (c : Bool) : TabOk Tryz.prog (T_f4conj c) := (ok_f4minus c).add Tryz.func156 (by kernel_rfl) (by kernel_rfl) (g1_ok rd4_ok fun x hp args w ha => fun_sound hmix (ok_f4minus c) qN_ok Tryz.func156 (run_f4conj c x) hp ha)
set_option maxRecDepth 100000 in
theorem run_f4thrice (c : Bool) (x : Q4) (y : Q4) : funA Tryz.prog (T_f4conj c) qN (fun _ => true) Tryz.f158 60 [.v (.fl (e4 x)), .v (.fl (e4 y))] = some ([], .one (.fl (e4 (tri4 x y)))) := by kernel_rfl
noncomputable def T_f4thrice (c : Bool) : Tab := (T_f4conj c).add 158 (g2 rd4 rd4 fun x y => ([], .one (.fl (e4 (tri4 x y)))))
theorem ok_f4thrice (c : Bool) : TabOk Tryz.prog (T_f4thrice c) := (ok_f4conj c).add Tryz.func158 (by kernel_rfl) (by kernel_rfl) (g2_ok rd4_ok rd4_ok fun x y hp args w ha => fun_sound hmix (ok_f4conj c) qN_ok Tryz.func158 (run_f4thrice c x y) hp ha)
set_option maxRecDepth 100000 in
theorem run_joined4 (c : Bool) (x y z : Q4) : funA Tryz.prog (T_f4thrice c) qN (fun _ => true) Tryz.f157 60 [.v (.fl (e4 x)), .v (.fl (e4 y)), .v (.fl (e4 z))] = some ([], .one (.fl (e12 (join4 x y z)))) := by kernel_rfl
noncomputable def T_joined4 (c : Bool) : Tab := (T_f4thrice c).add 157 (g3 rd4 rd4 rd4 fun x y z => ([], .one (.fl (e12 (join4 x y z)))))
theorem ok_joined4 (c : Bool) : TabOk Tryz.prog (T_joined4 c) := (ok_f4thrice c).add Tryz.func157 (by kernel_rfl) (by kernel_rfl) (g3_ok rd4_ok rd4_ok rd4_ok fun x y z hp args w ha => fun_sound hmix (ok_f4thrice c) qN_ok Tryz.func157 (run_joined4 c x y z) hp ha)
set_option maxRecDepth 100000 in
theorem run_cyclo_t (c : Bool) (x : Q12) : funA Tryz.prog (T_joined4 c) (qG Tryz.prog) (fun s => bif Nat.beq s 35 then true else bif Nat.beq s 44 then true else bif Nat.beq s 54 then true else bif Nat.beq s 61 then false else true) Tryz.f85 60 [.v (.fl (e12 x))] = some ([flat (e4 (F4.sub (F4.mul (fX x) (fX x)) (s4 (F4.mul (fY x) (fZ x))))) = flat (e4 (cj4 (fX x))), flat (e4 (F4.sub (F4.mul (fX x) (fY x)) (s4 (F4.mul (fZ x) (fZ x))))) = flat (e4 (cj4 (fY x))), flat (e4 (F4.sub (F4.mul (fY x) (fY x)) (F4.mul (fX x) (fZ x)))) = flat (e4 (cj4 (fZ x))), flat (e12 x) ≠ flat (e12 F12.zero)], .many [.fl (e12 (sqr4 x)), .im (.bool true)]) := by kernel_rfl
set_option maxRecDepth 100000 in
theorem run_cyclo_1 (c : Bool) (x : Q12) : funA Tryz.prog (T_joined4 c) (qG Tryz.prog) (fun s => bif Nat.beq s 35 then false else bif Nat.beq s 44 then true else bif Nat.beq s 54 then true else bif Nat.beq s 61 then false else true) Tryz.f85 60 [.v (.fl (e12 x))] = some ([flat (e4 (F4.sub (F4.mul (fX x) (fX x)) (s4 (F4.mul (fY x) (fZ x))))) ≠ flat (e4 (cj4 (fX x)))], .many [.fl (e12 F12.zero), .im (.bool false)]) := by kernel_rfl
set_option maxRecDepth 100000 in
theorem run_cyclo_2 (c : Bool) (x : Q12) : funA Tryz.prog (T_joined4 c) (qG Tryz.prog) (fun s => bif Nat.beq s 35 then true else bif Nat.beq s 44 then false else bif Nat.beq s 54 then true else bif Nat.beq s 61 then false else true) Tryz.f85 60 [.v (.fl (e12 x))] = some ([flat (e4 (F4.sub (F4.mul (fX x) (fX x)) (s4 (F4.mul (fY x) (fZ x))))) = flat (e4 (cj4 (fX x))), flat (e4 (F4.sub (F4.mul (fX x) (fY x)) (s4 (F4.mul (fZ x) (fZ x))))) ≠ flat (e4 (cj4 (fY x)))], .many [.fl (e12 F12.zero), .im (.bool false)]) := by kernel_rfl
set_option maxRecDepth 100000 in
theorem run_cyclo_3 (c : Bool) (x : Q12) : funA Tryz.prog (T_joined4 c) (qG Tryz.prog) (fun s => bif Nat.beq s 35 then true else bif Nat.beq s 44 then true else bif Nat.beq s 54 then false else bif Nat.beq s 61 then false else true) Tryz.f85 60 [.v (.fl (e12 x))] = some ([flat (e4 (F4.sub (F4.mul (fX x) (fX x)) (s4 (F4.mul (fY x) (fZ x))))) = flat (e4 (cj4 (fX x))), flat (e4 (F4.sub (F4.mul (fX x) (fY x)) (s4 (F4.mul (fZ x) (fZ x))))) = flat (e4 (cj4 (fY x))), flat (e4 (F4.sub (F4.mul (fY x) (fY x)) (F4.mul (fX x) (fZ x)))) ≠ flat (e4 (cj4 (fZ x)))], .many [.fl (e12 F12.zero), .im (.bool false)]) := by kernel_rfl
set_option maxRecDepth 100000 in
theorem run_cyclo_4 (c : Bool) (x : Q12) : funA Tryz.prog (T_joined4 c) (qG Tryz.prog) (fun s => bif Nat.beq s 35 then true else bif Nat.beq s 44 then true else bif Nat.beq s 54 then true else bif Nat.beq s 61 then true else true) Tryz.f85 60 [.v (.fl (e12 x))] = some ([flat (e4 (F4.sub (F4.mul (fX x) (fX x)) (s4 (F4.mul (fY x) (fZ x))))) = flat (e4 (cj4 (fX x))), flat (e4 (F4.sub (F4.mul (fX x) (fY x)) (s4 (F4.mul (fZ x) (fZ x))))) = flat (e4 (cj4 (fY x))), flat (e4 (F4.sub (F4.mul (fY x) (fY x)) (F4.mul (fX x) (fZ x)))) = flat (e4 (cj4 (fZ x))), flat (e12 x) = flat (e12 F12.zero)], .many [.fl (e12 F12.zero), .im (.bool false)]) := by kernel_rfl
noncomputable def oCyc (c : Bool) (x : Q12) : List Prop × RV := bif c then ([inC x], .many [.fl (e12 (F12.mul x x)), .im (.bool true)]) else ([¬ inC x], .many [.fl (e12 F12.zero), .im (.bool false)])
theorem oCyc_ok (c : Bool) (x : Q12) (hp : allP (oCyc c x).1) (args : List Value) (w : World) (ha : CAs w [.v (.fl (e12 x))] args) : Good Tryz.prog 85 (oCyc c x).2 args w := by
  cases c
  · have hn : ¬ inC x := hp.1
    unfold inC at hn
    rw [cyc_iff] at hn
    by_cases h1 : inE1 x
    · by_cases h2 : inE2 x
      · by_cases h3 : inE3 x
        · have hz : x = F12.zero := Classical.byContradiction fun e => hn ⟨e, h1, h2, h3⟩
          exact fun_sound hmix (ok_joined4 false) (qG_ok _) Tryz.func85 (run_cyclo_4 false x) ⟨congrArg (fun t => flat (e4 t)) h1, congrArg (fun t => flat (e4 t)) h2, congrArg (fun t => flat (e4 t)) h3, congrArg (fun t => flat (e12 t)) hz, trivial⟩ ha
        · exact fun_sound hmix (ok_joined4 false) (qG_ok _) Tryz.func85 (run_cyclo_3 false x) ⟨congrArg (fun t => flat (e4 t)) h1, congrArg (fun t => flat (e4 t)) h2, fun e => h3 (e4_inj e), trivial⟩ ha
      · exact fun_sound hmix (ok_joined4 false) (qG_ok _) Tryz.func85 (run_cyclo_2 false x) ⟨congrArg (fun t => flat (e4 t)) h1, fun e => h2 (e4_inj e), trivial⟩ ha
    · exact fun_sound hmix (ok_joined4 false) (qG_ok _) Tryz.func85 (run_cyclo_1 false x) ⟨fun e => h1 (e4_inj e), trivial⟩ ha
  · have hn : inC x := hp.1
    unfold inC at hn
    rw [cyc_iff] at hn
    obtain ⟨hz, h1, h2, h3⟩ := hn
    show Good _ _ (.many [.fl (e12 (F12.mul x x)), .im (.bool true)]) _ _
    rw [← sqr_eq x ⟨h1, h2, h3⟩]
    exact fun_sound hmix (ok_joined4 true) (qG_ok _) Tryz.func85 (run_cyclo_t true x) ⟨congrArg (fun t => flat (e4 t)) h1, congrArg (fun t => flat (e4 t)) h2, congrArg (fun t => flat (e4 t)) h3, fun e => hz (e12_inj e), trivial⟩ ha
noncomputable def T_cyclo (c : Bool) : Tab := (T_joined4 c).add 85 (g1 rd12 (oCyc c))
theorem ok_cyclo (c : Bool) : TabOk Tryz.prog (T_cyclo c) := (ok_joined4 c).add Tryz.func85 (by kernel_rfl) (by kernel_rfl) (g1_ok rd12_ok (oCyc_ok c))
noncomputable def oCyX (c : Bool) (x : Q12) : List Prop × RV := bif c then ([inC x], .many [.fl (e12 (F12.mul x x)), .im (.int .i64 0)]) else ([¬ inC x], .many [.fl (e12 F12.zero), .im (.int .i64 42)])
set_option maxRecDepth 100000 in
theorem run_Cyclo12_true (x : N12) : funA Tryz.prog (T_cyclo true) qN (fun _ => true) Tryz.f253 40 [.v (.fl (q12 x))] = some ([inC (m12 x)], .many [.fl (e12 (F12.mul (m12 x) (m12 x))), .im (.int .i64 0)]) := by kernel_rfl
set_option maxRecDepth 100000 in
theorem run_Cyclo12_false (x : N12) : funA Tryz.prog (T_cyclo false) qN (fun _ => true) Tryz.f253 40 [.v (.fl (q12 x))] = some ([¬ inC (m12 x)], .many [.fl (e12 F12.zero), .im (.int .i64 42)]) := by kernel_rfl
theorem oCyX_ok (c : Bool) (x : N12) (hp : allP (oCyX c (m12 x)).1) (args : List Value) (w : World) (ha : CAs w [.v (.fl (q12 x))] args) : Good Tryz.prog 253 (oCyX c (m12 x)).2 args w := by
  cases c
  · exact fun_sound hmix (ok_cyclo false) qN_ok Tryz.func253 (run_Cyclo12_false x) hp ha
  · exact fun_sound hmix (ok_cyclo true) qN_ok Tryz.func253 (run_Cyclo12_true x) hp ha
noncomputable def T_Cyclo12 (c : Bool) : Tab := (T_cyclo c).add 253 (g1 rv12 (oCyX c))
theorem ok_Cyclo12 (c : Bool) : TabOk Tryz.prog (T_Cyclo12 c) := (ok_cyclo c).add Tryz.func253 (by kernel_rfl) (by kernel_rfl) (g1v_ok rv12_ok (oCyX_ok c))
noncomputable def oCyY (c : Bool) (x : Q12) : List Prop × RV := bif c then ([inC x], .one (.im (.bool true))) else ([¬ inC x], .one (.im (.bool false)))
set_option maxRecDepth 100000 in
theorem run_InCyclo_true (x : N12) : funA Tryz.prog (T_Cyclo12 true) qN (fun _ => true) Tryz.f37 40 [.v (.fl (q12 x))] = some ([inC (m12 x)], .one (.im (.bool true))) := by kernel_rfl
set_option maxRecDepth 100000 in
theorem run_InCyclo_false (x : N12) : funA Tryz.prog (T_Cyclo12 false) qN (fun _ => true) Tryz.f37 40 [.v (.fl (q12 x))] = some ([¬ inC (m12 x)], .one (.im (.bool false))) := by kernel_rfl
theorem oCyY_ok (c : Bool) (x : N12) (hp : allP (oCyY c (m12 x)).1) (args : List Value) (w : World) (ha : CAs w [.v (.fl (q12 x))] args) : Good Tryz.prog 37 (oCyY c (m12 x)).2 args w := by
  cases c
  · exact fun_sound hmix (ok_Cyclo12 false) qN_ok Tryz.func37 (run_InCyclo_false x) hp ha
  · exact fun_sound hmix (ok_Cyclo12 true) qN_ok Tryz.func37 (run_InCyclo_true x) hp ha
noncomputable def T_InCyclo (c : Bool) : Tab := (T_Cyclo12 c).add 37 (g1 rv12 (oCyY c))
theorem ok_InCyclo (c : Bool) : TabOk Tryz.prog (T_InCyclo c) := (ok_Cyclo12 c).add Tryz.func37 (by kernel_rfl) (by kernel_rfl) (g1v_ok rv12_ok (oCyY_ok c))
theorem it_r2 (y : Q12) : it12 (rest12N 2).toNat y = tw12 y := by rw [show (rest12N 2).toNat = 2 by decide, it_is2]
/-- what is known at the head of the loop -/
def x12F (x : N12) (n : Nat) (r : List At) (j : Int) : List Fact := [.slot 2 (.pt 2 0), .row 2 true (q12 x), .slot 3 (.pt 3 0), .row 3 true (q1 n), .slot 4 (.pt 4 0), .row 4 true (e12 F12.zero), .slot 5 (.pt 5 0), .row 5 true r, .slot 6 (.im (.int .i64 j))]
noncomputable def x12C (c : Bool) (j : Int) (b : Bool) (_ : Nat) : Cfg := ⟨fun _ => T_InCyclo c, fun _ => true, fun s => bif Nat.beq s 12 then some (.bool true) else bif Nat.beq s 21 then some (.bool b) else bif Nat.beq s 14 then some (.int .i64 j) else none⟩
noncomputable def x12E (c : Bool) (_ : Nat) : Cfg := ⟨fun _ => T_InCyclo c, fun _ => true, fun s => bif Nat.beq s 12 then some (.bool false) else none⟩
noncomputable def x12Code : Code := (Tryz.f78.body).getD .skip
noncomputable def x12Loop : Code := cIn (cIn (cB (cA (cB (cB x12Code)))))
set_option maxRecDepth 100000 in
theorem x12_one (c : Bool) (x : N12) (r r2 : Q12) (n j : Nat) (j2 : Int) : runK Tryz.prog qN Tryz.f78.ntmps (x12C c j2 true) 40 x12Loop (x12F x n (e12 r) (Int.ofNat j)) (x12F x n (e12 r2) j2) = some ([intOp .geq .i64 (Int.ofNat j) 0 = some (.bool true), j < 256, intOp .eql .i64 (bitOf (wv n) j : Nat) 1 = some (.bool true), intOp .sub .i64 (Int.ofNat j) 1 = some (.int .i64 j2)], .nrm, x12F x n (e12 (F12.mul (F12.mul r r) (m12 x))) j2) := by kernel_rfl
set_option maxRecDepth 100000 in
theorem x12_zero (c : Bool) (x : N12) (r r2 : Q12) (n j : Nat) (j2 : Int) : runK Tryz.prog qN Tryz.f78.ntmps (x12C c j2 false) 40 x12Loop (x12F x n (e12 r) (Int.ofNat j)) (x12F x n (e12 r2) j2) = some ([intOp .geq .i64 (Int.ofNat j) 0 = some (.bool true), j < 256, intOp .eql .i64 (bitOf (wv n) j : Nat) 1 = some (.bool false), intOp .sub .i64 (Int.ofNat j) 1 = some (.int .i64 j2)], .nrm, x12F x n (e12 (F12.mul r r)) j2) := by kernel_rfl
set_option maxRecDepth 100000 in
theorem x12_end (c : Bool) (x : N12) (r : Q12) (n : Nat) : runK Tryz.prog qN Tryz.f78.ntmps (x12E c) 40 x12Loop (x12F x n (e12 r) (-1)) (x12F x n (e12 r) (-1)) = some ([intOp .geq .i64 (-1) 0 = some (.bool false)], .ex 0, x12F x n (e12 r) (-1)) := by kernel_rfl
def x12R (x : N12) (n i : Nat) : Q12 := pwK F12 (m12 x) (wv n / 2 ^ (lenF n - i))
theorem x12R_0 (x : N12) (n : Nat) : x12R x n 0 = F12.one := by
  unfold x12R
  rw [Nat.sub_zero, Nat.div_eq_of_lt (lenF_is n).1]
  rfl
theorem x12R_end (x : N12) (n : Nat) : x12R x n (lenF n) = pwK F12 (m12 x) (wv n) := by
  unfold x12R
  rw [Nat.sub_self, Nat.pow_zero, Nat.div_one]
theorem x12R_step (x : N12) (n i : Nat) (h : i < lenF n) (b : Bool) (hb : bitOf (wv n) (lenF n - 1 - i) = if b then 1 else 0) : x12R x n (i + 1) = bif b then F12.mul (F12.mul (x12R x n i) (x12R x n i)) (m12 x) else F12.mul (x12R x n i) (x12R x n i) := by
  have h2 : F12.mul (x12R x n i) (x12R x n i) = pwK F12 (m12 x) (2 * (wv n / 2 ^ (lenF n - i))) := by unfold x12R; rw [← pwK_add, Nat.two_mul]
  rw [h2]
  unfold x12R
  rw [top_step n i h, hb]
  cases b <;> rfl
theorem x12_round (c : Bool) (x : N12) (n i : Nat) (h : i < lenF n) : ∃ b, ∃ ps, runK Tryz.prog qN Tryz.f78.ntmps (x12C c (cnt (lenF n) (i + 1)) b) 40 x12Loop (x12F x n (e12 (x12R x n i)) (cnt (lenF n) i)) (x12F x n (e12 (x12R x n (i + 1))) (cnt (lenF n) (i + 1))) = some (ps, .nrm, x12F x n (e12 (x12R x n (i + 1))) (cnt (lenF n) (i + 1))) ∧ allP ps := by
  have hL := lenF_le n
  rw [cnt_lt h]
  rcases bitOf_01 (wv n) (lenF n - 1 - i) with hb | hb
  · have hz := x12_zero c x (x12R x n i) (x12R x n (i + 1)) n (lenF n - 1 - i) (cnt (lenF n) (i + 1))
    rw [show F12.mul (x12R x n i) (x12R x n i) = x12R x n (i + 1) from (x12R_step x n i h false hb).symm] at hz
    exact ⟨false, _, hz, rfl, by omega, eql_b _ false hb, cnt_next h hL, trivial⟩
  · have hz := x12_one c x (x12R x n i) (x12R x n (i + 1)) n (lenF n - 1 - i) (cnt (lenF n) (i + 1))
    rw [show F12.mul (F12.mul (x12R x n i) (x12R x n i)) (m12 x) = x12R x n (i + 1) from (x12R_step x n i h true hb).symm] at hz
    exact ⟨true, _, hz, rfl, by omega, eql_b _ true hb, cnt_next h hL, trivial⟩
def x12A (x : N12) (n : Nat) : List Fact := [.slot 2 (.pt 2 0), .row 2 true (q12 x), .slot 3 (.pt 3 0), .row 3 true (q1 n), .slot 4 (.pt 4 0), .row 4 true (e12 F12.zero)]
def x12B (x : N12) (n : Nat) : List Fact := [.slot 2 (.pt 2 0), .row 2 true (q12 x), .slot 3 (.pt 3 0), .row 3 true (q1 n), .slot 4 (.pt 4 0), .row 4 true (e12 F12.zero), .slot 5 (.pt 5 0), .row 5 true (e12 F12.one)]
noncomputable def x12C0 (c : Bool) (v : Option Value) (_ : Nat) : Cfg := ⟨fun _ => T_InCyclo c, fun _ => true, fun s => bif Nat.beq s 10 then v else none⟩
set_option maxRecDepth 100000 in
theorem x12_s0 (c : Bool) (x : N12) (n : Nat) : runK Tryz.prog qN Tryz.f78.ntmps (x12C0 c none) 40 (cA x12Code) (argF 0 [.v (.fl (q12 x)), .v (.fl (q1 n))]) (x12A x n) = some ([], .nrm, x12A x n) := by kernel_rfl
set_option maxRecDepth 100000 in
theorem x12_s1 (c : Bool) (x : N12) (n : Nat) : runK Tryz.prog qN Tryz.f78.ntmps (x12C0 c none) 40 (cA (cB x12Code)) (x12A x n) (x12B x n) = some ([], .nrm, x12B x n) := by kernel_rfl
set_option maxRecDepth 100000 in
theorem x12_s2 (c : Bool) (x : N12) (n : Nat) (j : Int) : runK Tryz.prog qN Tryz.f78.ntmps (x12C0 c (some (.int .i64 j))) 40 (cA (cA (cB (cB x12Code)))) (x12B x n) (x12F x n (e12 F12.one) j) = some ([intOp .sub .i64 (lenF n : Nat) 1 = some (.int .i64 j)], .nrm, x12F x n (e12 F12.one) j) := by kernel_rfl
set_option maxRecDepth 100000 in
theorem x12_s4 (c : Bool) (x : N12) (r : Q12) (n : Nat) : runK Tryz.prog qN Tryz.f78.ntmps (x12C0 c none) 40 (cB (cB (cB x12Code))) (x12F x n (e12 r) (-1)) [.slot 4 (.pt 4 0), .row 4 true (e12 r)] = some ([], .rt, [.slot 4 (.pt 4 0), .row 4 true (e12 r)]) := by kernel_rfl
theorem x12_code : x12Code = .seq (cA x12Code) (.seq (cA (cB x12Code)) (.seq (.seq (cA (cA (cB (cB x12Code)))) (.block 0 (.loop x12Loop))) (cB (cB (cB x12Code))))) := by kernel_rfl
theorem x12_lit : flat (e12 F12.one) = flat (e12 F12.one) := by kernel_rfl
theorem x12_calls (c : Bool) (x : N12) (n : Nat) (args : List Value) (w : World) (ha : CAs w [.v (.fl (q12 x)), .v (.fl (q1 n))] args) : Good Tryz.prog 78 (.one (.fl (e12 (pwK F12 (m12 x) (wv n))))) args w := by
  refine fn_enter Tryz.func78 (c := x12Code) rfl ha (Nat.le_of_ble_eq_true (by kernel_rfl)) fun a w' hA => ?_
  rw [x12_code]
  refine wp_seq (runK_sound hmix (fun _ _ => ok_InCyclo c) qN_ok (x12_s0 c x n) trivial hA fun a w' hA => ?_)
  refine wp_seq (runK_sound hmix (fun _ _ => ok_InCyclo c) qN_ok (x12_s1 c x n) trivial hA fun a w' hA => ?_)
  refine wp_seq (wp_seq (runK_sound hmix (fun _ _ => ok_InCyclo c) qN_ok (x12_s2 c x n (cnt (lenF n) 0)) ⟨cnt_first (lenF_le n), trivial⟩ hA fun a w' hA => ?_))
  refine wp_block ?_
  have hA : Holds Tryz.f78.ntmps w.heap.size w (x12F x n (e12 (x12R x n 0)) (cnt (lenF n) 0)) a w' := by
    refine hA.same fun φ hφ => ?_
    rw [x12R_0] at hφ
    unfold x12F at hφ ⊢
    simp only [List.mem_cons, List.not_mem_nil, or_false] at hφ ⊢
    rcases hφ with h | h | h | h | h | h | h | h | h
    · exact Or.inl (Or.inl h)
    · exact Or.inl (Or.inr (Or.inl h))
    · exact Or.inl (Or.inr (Or.inr (Or.inl h)))
    · exact Or.inl (Or.inr (Or.inr (Or.inr (Or.inl h))))
    · exact Or.inl (Or.inr (Or.inr (Or.inr (Or.inr (Or.inl h)))))
    · exact Or.inl (Or.inr (Or.inr (Or.inr (Or.inr (Or.inr (Or.inl h))))))
    · exact Or.inl (Or.inr (Or.inr (Or.inr (Or.inr (Or.inr (Or.inr (Or.inl h)))))))
    · exact Or.inr ⟨5, true, (e12 F12.one), _, h, Or.inr (Or.inr (Or.inr (Or.inr (Or.inr (Or.inr (Or.inr (Or.inl rfl))))))), x12_lit⟩
    · exact Or.inl (Or.inr (Or.inr (Or.inr (Or.inr (Or.inr (Or.inr (Or.inr (Or.inr h))))))))
  have hb : ∀ i, i < lenF n → ∃ b, ∃ ps, runK Tryz.prog qN Tryz.f78.ntmps (x12C c (cnt (lenF n) (i + 1)) b) 40 x12Loop (x12F x n (e12 (x12R x n i)) (cnt (lenF n) i)) (x12F x n (e12 (x12R x n (i + 1))) (cnt (lenF n) (i + 1))) = some (ps, .nrm, x12F x n (e12 (x12R x n (i + 1))) (cnt (lenF n) (i + 1))) ∧ allP ps := fun i h => x12_round c x n i h
  classical
  refine loop_rounds (f := 40) hmix qN_ok (fun i => x12F x n (e12 (x12R x n i)) (cnt (lenF n) i)) (fun i => if h : i < lenF n then x12C c (cnt (lenF n) (i + 1)) (hb i h).choose else x12E c) (fun i m d => ?_) (lenF n) (fun i hi => ?_) (.ex 0) (by simp) (x12F x n (e12 (x12R x n (lenF n))) (-1)) ?_ hA fun a w' hA => ?_
  · show TabOk _ ((if h : i < lenF n then x12C c (cnt (lenF n) (i + 1)) (hb i h).choose else x12E c) m |>.T d)
    split <;> exact ok_InCyclo c
  · rw [dif_pos hi]
    exact (hb i hi).choose_spec
  · rw [dif_neg (Nat.lt_irrefl _), cnt_end]
    exact ⟨_, x12_end c x _ n, rfl, trivial⟩
  · rw [x12R_end] at hA
    show (cB (cB (cB x12Code))).wp _ _ _ _
    exact runK_sound hmix (fun _ _ => ok_InCyclo c) qN_ok (x12_s4 c x _ n) trivial hA fun a w' hA => fn_leave (l := [.fl (e12 (pwK F12 (m12 x) (wv n)))]) (by kernel_rfl) (by kernel_rfl) hA
noncomputable def T_rExp12 (c : Bool) : Tab := (T_InCyclo c).add 78 (g2 rv12 rq1 fun x n => ([], .one (.fl (e12 (pwK F12 x (wv n))))))
theorem ok_rExp12 (c : Bool) : TabOk Tryz.prog (T_rExp12 c) := (ok_InCyclo c).add Tryz.func78 (by kernel_rfl) (by kernel_rfl) (g2v_ok rv12_ok rq1_v fun x n _ args w ha => x12_calls c x n args w ha)
end Go.Proofs.YtaingnhikbaplaaGreat.Ex
namespace Go.Proofs.YtaingnhikbaplaaGreat.Ex
set_option linter.unusedVariables false
set_option linter.unusedSimpArgs false

def sdN : Nat := 4965661367192848881
def s6N : Nat := 6 * sdN
def q4N : Nat := FP.M ^ 4 - FP.M ^ 2 + 1
theorem on_pw (x : Q12) : on12 x = pwK F12 x FP.M := (p12 x).symm
def p2N : Nat := FP.M * FP.M
def p6N : Nat := p2N * (p2N * p2N)
theorem tw_pw (x : Q12) : tw12 x = pwK F12 x p2N := by rw [← on_on, on_pw, on_pw, ← pwK_pw, p2N]
theorem cj_pw6 (x : Q12) : cj12 x = pwK F12 x p6N := by
  rw [← tw_three, tw_pw, tw_pw, tw_pw, ← pwK_pw, ← pwK_pw, p6N]
theorem pwK_1 (x : Q12) : pwK F12 x 1 = x := by show F12.mul F12.one x = x; rw [F12.one_mul]
/-- what the hard part makes -/
def hSix (y : Q12) : Q12 := pwK F12 y s6N
def hS2 (y : Q12) : Q12 := pwK F12 (hSix y) sdN
def hCu (y : Q12) : Q12 := pwK F12 (hS2 y) s6N
def hT (y : Q12) : Q12 := F12.mul (hS2 y) (hS2 y)
def hG (y : Q12) : Q12 := F12.mul (F12.mul (F12.mul (hCu y) (hS2 y)) (hT y)) (F12.mul (hSix y) (hSix y))
def hR (y : Q12) : Q12 := F12.mul (F12.mul (F12.mul (hG y) (hT y)) (hSix y)) (F12.mul y y)
def hX (y : Q12) : Q12 := F12.mul (F12.mul (F12.mul (it12 3 y) (it12 2 (F12.mul y (hS2 y)))) (it12 1 (F12.mul y (cj12 (hG y))))) (cj12 (hR y))
def eS2 : Nat := s6N * sdN
def eCu : Nat := eS2 * s6N
def eT : Nat := eS2 + eS2
def eG : Nat := eCu + eS2 + eT + (s6N + s6N)
def eR : Nat := eG + eT + s6N + (1 + 1)
def eX : Nat := p2N * FP.M + (1 + eS2) * p2N + (1 + eG * p6N) * FP.M + eR * p6N
theorem hS2_pw (y : Q12) : hS2 y = pwK F12 y eS2 := by unfold hS2 hSix eS2; rw [← pwK_pw]
theorem hCu_pw (y : Q12) : hCu y = pwK F12 y eCu := by unfold hCu eCu; rw [hS2_pw, ← pwK_pw]
theorem hT_pw (y : Q12) : hT y = pwK F12 y eT := by unfold hT eT; rw [hS2_pw, ← pwK_add]
theorem hG_pw (y : Q12) : hG y = pwK F12 y eG := by unfold hG eG; rw [hCu_pw, hS2_pw, hT_pw, show hSix y = pwK F12 y s6N from rfl, ← pwK_add, ← pwK_add, ← pwK_add, ← pwK_add]
theorem sq_pw (y : Q12) : F12.mul y y = pwK F12 y (1 + 1) := by rw [pwK_add, pwK_1]
theorem hR_pw (y : Q12) : hR y = pwK F12 y eR := by unfold hR eR; rw [hG_pw, hT_pw, show hSix y = pwK F12 y s6N from rfl, sq_pw, ← pwK_add, ← pwK_add, ← pwK_add]
theorem it3_pw (y : Q12) : it12 3 y = pwK F12 y (p2N * FP.M) := by rw [it_is3, on_pw, tw_pw, ← pwK_pw]
theorem it2_pw (y : Q12) : it12 2 y = pwK F12 y p2N := by rw [it_is2, tw_pw]
theorem it1_pw (y : Q12) : it12 1 y = pwK F12 y FP.M := by rw [it_is1, on_pw]
theorem one_add_pw (y : Q12) (n : Nat) : F12.mul y (pwK F12 y n) = pwK F12 y (1 + n) := by rw [pwK_add, pwK_1]
theorem hX_pw (y : Q12) : hX y = pwK F12 y eX := by
  unfold hX eX
  rw [hS2_pw, one_add_pw, it3_pw, it2_pw, hG_pw, cj_pw6 (pwK F12 y eG), ← pwK_pw F12 y eG, one_add_pw, it1_pw, hR_pw, cj_pw6 (pwK F12 y eR), ← pwK_pw, ← pwK_pw, ← pwK_pw, ← pwK_add, ← pwK_add, ← pwK_add]
theorem pw_unit {x k : Q12} (h : F12.mul x k = F12.one) (n : Nat) : F12.mul (pwK F12 x n) (pwK F12 k n) = F12.one := by rw [← pwK_mul, h, pwK_one]
theorem unit_ne {x k : Q12} (h : F12.mul x k = F12.one) : x ≠ F12.zero := fun e => by
  rw [e, F12.mul_comm, F12.mul_zero] at h
  exact fld12.1 h.symm
theorem inC_pw {y : Q12} (h : inC y) (n : Nat) : inC (pwK F12 y n) := by
  obtain ⟨hz, h2⟩ := h
  obtain ⟨k, hk⟩ := fld12.2 y hz
  refine ⟨unit_ne (pw_unit hk n), ?_⟩
  have e : ∀ z, tw12 (pwK F12 z n) = pwK F12 (tw12 z) n := fun z => (pwK_hom F12 F12 tw12 (by decide) tw12_mul z n).symm
  rw [e, e, ← pwK_mul, h2]
theorem q4_eq : p2N + q4N = p2N * p2N + 1 := by kernel_rfl
theorem q4_one {y : Q12} (h : inC y) : pwK F12 y q4N = F12.one := by
  obtain ⟨hz, h2⟩ := h
  obtain ⟨k, hk⟩ := fld12.2 y hz
  have h3 : pwK F12 y (p2N * p2N + 1) = pwK F12 y p2N := by
    rw [pwK_add, pwK_1, pwK_pw, ← tw_pw, ← tw_pw]
    exact h2
  rw [← q4_eq, pwK_add] at h3
  have hu := pw_unit hk p2N
  have h4 : F12.mul (pwK F12 k p2N) (F12.mul (pwK F12 y p2N) (pwK F12 y q4N)) = F12.mul (pwK F12 k p2N) (pwK F12 y p2N) := congrArg (fun t => F12.mul (pwK F12 k p2N) t) h3
  rw [← F12.mul_assoc, F12.mul_comm (pwK F12 k p2N), hu, F12.one_mul] at h4
  exact h4
def kX : Nat := eX * Go.Proofs.YtaingnhikbaplaaGreat.FR.M / q4N
theorem eX_r : eX * Go.Proofs.YtaingnhikbaplaaGreat.FR.M = q4N * kX := by kernel_rfl
theorem hX_r {y : Q12} (h : inC y) : pwK F12 (hX y) Go.Proofs.YtaingnhikbaplaaGreat.FR.M = F12.one := by
  rw [hX_pw, ← pwK_pw, eX_r, pwK_pw, q4_one h, pwK_one]
theorem hX_in {y : Q12} (h : inC y) : inC (hX y) := by rw [hX_pw]; exact inC_pw h _
theorem p_eq : FP.M = Go.Proofs.YtaingnhikbaplaaGreat.FR.M + s6N * sdN := by kernel_rfl
/-- where the r-th power is one the p-th is that to the 6x^2 -/
theorem pw_g {x : Q12} (h : pwK F12 x Go.Proofs.YtaingnhikbaplaaGreat.FR.M = F12.one) : pwK F12 (pwK F12 x s6N) sdN = on12 x := by
  rw [on_pw, p_eq, pwK_add, h, F12.one_mul, pwK_pw]
end Go.Proofs.YtaingnhikbaplaaGreat.Ex
namespace Go.Proofs.YtaingnhikbaplaaGreat.Ex
set_option linter.unusedVariables false
set_option linter.unusedSimpArgs false
open Go.RowKit

/-- what lay in memory at the start -/
def oldOf (w : World) (b o : Nat) (l : List At) : Prop := b < w.heap.size ∧ w.rangeAt b o (flat l)
theorem below_range {base : Nat} {w w' : World} (h : Below base w w') {b o : Nat} {l : List Value} (hb : b < base) (hr : w.rangeAt b o l) : w'.rangeAt b o l := fun j v hj => by
  rw [h.cell hb]
  exact hr j v hj
abbrev Tab2 := Nat → List CA → Option (List Prop × FR)
def Fr0 : Tab2 := fun _ _ => none
def FrOk (P : Program) (T : Tab2) : Prop := ∀ f cs pre r, T f cs = some (pre, r) → allP pre →
  (∀ args w, (callFunc f args).run P w = .ok (.enter f args) w) ∧ ∀ (args : List Value) (w : World), CAs w cs args → Calls P f args.toArray w (fun e w' => r.ok w e w')
def Tab2.add (T : Tab2) (f : Nat) (g : List CA → Option (List Prop × FR)) : Tab2 := fun f' cs => bif Nat.beq f' f then g cs else T f' cs
theorem FrOk.add {P : Program} {T : Tab2} (hT : FrOk P T) {f : Nat} {fn : Func} (hf : P.funcs[f]? = some fn) (hn : (fn.name == "runtime.NumGoroutine") = false) (hb : fn.body.isNone = false) {g : List CA → Option (List Prop × FR)}
    (h : ∀ cs pre r, g cs = some (pre, r) → allP pre → ∀ (args : List Value) (w : World), CAs w cs args → Calls P f args.toArray w (fun e w' => r.ok w e w')) : FrOk P (T.add f g) := by
  intro f' cs pre r hg hp
  unfold Tab2.add at hg
  cases hb' : Nat.beq f' f <;> rw [hb'] at hg
  · exact hT f' cs pre r hg hp
  · cases Nat.eq_of_beq_eq_true hb'
    exact ⟨callable hf hn hb, h cs pre r hg hp⟩
abbrev Tab3 := Nat → List CA → Option (List Prop × FS)
abbrev Tab4 := Nat → List CA → Option (List Prop × Nat × List At)
def FsOk (P : Program) (T : Tab3) : Prop := ∀ f cs pre r, T f cs = some (pre, r) → allP pre →
  (∀ args w, (callFunc f args).run P w = .ok (.enter f args) w) ∧ ∀ (args : List Value) (w : World), CAs w cs args → Calls P f args.toArray w (fun e w' => r.ok w e w')
def WrOk (P : Program) (T : Tab4) : Prop := ∀ f cs pre j l, T f cs = some (pre, j, l) → allP pre →
  (∀ args w, (callFunc f args).run P w = .ok (.enter f args) w) ∧ ∀ (args : List Value) (w : World), CAs w cs args → ∀ b o n m, args[j]? = some (.slice (some ⟨b, o, none⟩) n m) → (∀ q, w.frozen? ⟨b, q, none⟩ = false) →
    Calls P f args.toArray w (fun e w' => e = .returned (.slice (some ⟨b, o, none⟩) n m) ∧ WrAt w w' b l ∧ w'.rangeAt b o (flat l))
def Fs0 : Tab3 := fun _ _ => none
def Wr0 : Tab4 := fun _ _ => none
def Tab3.add (T : Tab3) (f : Nat) (g : List CA → Option (List Prop × FS)) : Tab3 := fun f' cs => bif Nat.beq f' f then g cs else T f' cs
def Tab4.add (T : Tab4) (f : Nat) (g : List CA → Option (List Prop × Nat × List At)) : Tab4 := fun f' cs => bif Nat.beq f' f then g cs else T f' cs
theorem FsOk.add {P : Program} {T : Tab3} (hT : FsOk P T) {f : Nat} {fn : Func} (hf : P.funcs[f]? = some fn) (hn : (fn.name == "runtime.NumGoroutine") = false) (hb : fn.body.isNone = false) {g : List CA → Option (List Prop × FS)}
    (h : ∀ cs pre r, g cs = some (pre, r) → allP pre → ∀ (args : List Value) (w : World), CAs w cs args → Calls P f args.toArray w (fun e w' => r.ok w e w')) : FsOk P (T.add f g) := by
  intro f' cs pre r hg hp
  unfold Tab3.add at hg
  cases hb' : Nat.beq f' f <;> rw [hb'] at hg
  · exact hT f' cs pre r hg hp
  · cases Nat.eq_of_beq_eq_true hb'
    exact ⟨callable hf hn hb, h cs pre r hg hp⟩
theorem WrOk.add {P : Program} {T : Tab4} (hT : WrOk P T) {f : Nat} {fn : Func} (hf : P.funcs[f]? = some fn) (hn : (fn.name == "runtime.NumGoroutine") = false) (hb : fn.body.isNone = false) {g : List CA → Option (List Prop × Nat × List At)}
    (h : ∀ cs pre j l, g cs = some (pre, j, l) → allP pre → ∀ (args : List Value) (w : World), CAs w cs args → ∀ b o n m, args[j]? = some (.slice (some ⟨b, o, none⟩) n m) → (∀ q, w.frozen? ⟨b, q, none⟩ = false) →
      Calls P f args.toArray w (fun e w' => e = .returned (.slice (some ⟨b, o, none⟩) n m) ∧ WrAt w w' b l ∧ w'.rangeAt b o (flat l))) : WrOk P (T.add f g) := by
  intro f' cs pre j l hg hp
  unfold Tab4.add at hg
  cases hb' : Nat.beq f' f <;> rw [hb'] at hg
  · exact hT f' cs pre j l hg hp
  · cases Nat.eq_of_beq_eq_true hb'
    exact ⟨callable hf hn hb, h cs pre j l hg hp⟩
/-- a block of the call's own has a number -/
theorem Holds.at {nt base : Nat} {w0 : World} {A : List Fact} {a : Act} {w : World} (h : Holds nt base w0 A a w) {k : Nat} {l : List At} (hk : Fact.row k true l ∈ A) : ∃ b, Holds nt base w0 (.at k b :: A) a w := by
  obtain ⟨β, h1, h2⟩ := h.facts
  obtain ⟨_, _, g3, _⟩ := h1 _ hk
  refine ⟨(β k).1, h.defers, h.size, h.below, h.heap, β, fun φ hφ => ?_, fun k1 k2 l1 l2 e1 e2 => ?_⟩
  · rcases List.mem_cons.1 hφ with rfl | hφ
    · exact ⟨rfl, (g3 rfl).2.1⟩
    · exact h1 φ hφ
  · rcases List.mem_cons.1 e1 with e1 | e1
    · cases e1
    · rcases List.mem_cons.1 e2 with e2 | e2
      · cases e2
      · exact h2 k1 k2 l1 l2 e1 e2
end Go.Proofs.YtaingnhikbaplaaGreat.Ex
namespace Go.Proofs.YtaingnhikbaplaaGreat.Ex
set_option linter.unusedVariables false
set_option linter.unusedSimpArgs false
open Go.RowKit

/-- code leads from the facts A to the facts L -/
def Ok (P : Program) (base : Nat) (w0 : World) (nt : Nat) (c : Code) (A : List Fact) (e : EA) (L : List Fact) : Prop :=
  ∃ q C f ps, EqOkW P q base w0 ∧ (∀ n d, TabOkW P ((C n).T d) base w0) ∧ runK P q nt C f c A L = some (ps, e, L) ∧ allP ps
section
variable {P : Program} {nt base : Nat} {w0 : World} {Q : Exit → Act → World → Prop}
theorem Ok.wp (hm : P.follows .mixedOrders = true) {c : Code} {A L : List Fact} {e : EA} (h : Ok P base w0 nt c A e L) {a : Act} {w : World} (hA : Holds nt base w0 A a w) (hQ : ∀ a w, Holds nt base w0 L a w → Q e.out a w) : c.wp P Q a w := by
  obtain ⟨q, C, f, ps, h1, h2, h3, h4⟩ := h
  exact runKW_sound hm h2 h1 h3 h4 hA hQ
end
theorem TabOkW.add {P : Program} {T : Tab} {base : Nat} {w0 : World} (hT : TabOkW P T base w0) {f : Nat} {fn : Func} (hf : P.funcs[f]? = some fn) (hn : (fn.name == "runtime.NumGoroutine") = false) (hb : fn.body.isNone = false) {g : List CA → Option (List Prop × RV)}
    (h : ∀ w, Below base w0 w → ∀ cs pre r, g cs = some (pre, r) → allP pre → ∀ (args : List Value), CAs w cs args → Calls P f args.toArray w (fun e w' => e = .returned r.den ∧ Below w.heap.size w w')) : TabOkW P (T.add f g) base w0 := by
  intro w hw f' cs pre r hg hp
  unfold Tab.add at hg
  cases hb' : Nat.beq f' f <;> rw [hb'] at hg
  · exact hT w hw f' cs pre r hg hp
  · cases Nat.eq_of_beq_eq_true hb'
    exact ⟨callable hf hn hb, h w hw cs pre r hg hp⟩
theorem oldOf.go {base : Nat} {w0 w : World} (hb : Below base w0 w) (hbase : base ≤ w0.heap.size) {b o : Nat} {l : List At} (h : b < base ∧ w0.rangeAt b o (flat l)) : oldOf w b o l :=
  ⟨Nat.lt_of_lt_of_le h.1 (Nat.le_trans hbase hb.size), below_range hb h.1 h.2⟩
def assoc {α : Type} : List (Nat × α) → Nat → Option α
  | [], _ => none
  | (k, v) :: r, s => bif Nat.beq k s then some v else assoc r s
def iI (n : Nat) : Value := .int .i64 (Int.ofNat n)
def slV (b o n m : Nat) : Value := .slice (some ⟨b, o, none⟩) n m
def ptV (b o : Nat) : Value := .pointer (some ⟨b, o, none⟩)
theorem i64_in' {n : Nat} (h : n < 9223372036854775808) : IntKind.i64.wrap (n : Int) = n := by rw [IntKind.wrap_i64]; omega
theorem o_lss {i n : Nat} : intOp .lss .i64 (Int.ofNat i) (Int.ofNat n) = some (.bool (decide (i < n))) := by
  show some (Value.bool (decide ((i : Int) < (n : Int)))) = _
  by_cases h : i < n
  · rw [decide_eq_true h, decide_eq_true (by omega)]
  · rw [decide_eq_false h, decide_eq_false (by omega)]
theorem o_lss_t {i n : Nat} (h : i < n) : intOp .lss .i64 (Int.ofNat i) (Int.ofNat n) = some (.bool true) := by rw [o_lss, decide_eq_true h]
theorem o_lss_f {i n : Nat} (h : n ≤ i) : intOp .lss .i64 (Int.ofNat i) (Int.ofNat n) = some (.bool false) := by rw [o_lss, decide_eq_false (by omega)]
theorem o_add {i k : Nat} (h : i + k < 9223372036854775808) : intOp .add .i64 (Int.ofNat i) (Int.ofNat k) = some (iI (i + k)) := by
  show some (Value.int .i64 (IntKind.i64.wrap ((i : Int) + (k : Int)))) = _
  rw [show (i : Int) + (k : Int) = ((i + k : Nat) : Int) by omega, i64_in' h]
  rfl
theorem o_sub {i k : Nat} (h : k ≤ i) (hi : i < 9223372036854775808) : intOp .sub .i64 (Int.ofNat i) (Int.ofNat k) = some (iI (i - k)) := by
  show some (Value.int .i64 (IntKind.i64.wrap ((i : Int) - (k : Int)))) = _
  rw [show (i : Int) - (k : Int) = ((i - k : Nat) : Int) by omega, i64_in' (by omega)]
  rfl
end Go.Proofs.YtaingnhikbaplaaGreat.Ex
