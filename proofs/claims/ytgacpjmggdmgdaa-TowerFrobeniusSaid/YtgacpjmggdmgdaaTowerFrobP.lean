/-
  Numbers as they come in, by value: entries. Conditions: none.
  Frobenius' maps in a table of calls. Conditions: none.
  Powers in Fp12, by any number. Conditions: none.
  The reference's Below. Conditions: the words below 2^64.
  The law TowerFrobenius answers true, whatever it is handed. Conditions: none.
  From a row's premises to a walk's: an argument of four words is opened. Conditions: none of its own.
  An argument that is an element of the tower is opened: it lies flat, its numbers' words. Conditions: none of its own.
  THE STATEMENT TowerFrobenius, lifted: for any arguments the law answers true and its arguments read as they did. Conditions: the row's own.
-/
import Derived.Test.YtgacpjmggdmgdaaTwLaw
import Derived.Test.YtgacpjmggdmgdaaTwFr
import Derived.IntWalk
import Derived.Test.YtgacpjmggdmgdaaBits
import Derived.Test.YtgacpjmggdmgdaaLen
import Derived.Test.YtgacpjmggdmgdaaExec
import Derived.Test.YtgacpjmggdmgdaaRCmp
import Derived.Test.YtgacpjmggdmgdaaFRing9
import Derived.Test.YtgacpjmggdmgdaaTill
import Derived.Test.YtgacpjmggdmgdaaRows
import Derived.Test.YtgacpjmggdmgdaaRow
import Derived.ProofKit
import Derived.LaidMore
import Derived.OpenShut
import Derived.Stop.Joined
import Derived.Carry
import Derived.RowKit
import Derived.ChangeSame
import Derived.JoinedOf
import Derived.JoinedAt
import Derived.Laws.IdiomArrays
import Derived.Test.YtgacpjmggdmgdaaTwTab
import Derived.Deep.Strs
namespace Go.Proofs.Ytgacpjmggdmgdaa.Ex
set_option linter.unusedVariables false
set_option linter.unusedSimpArgs false
open Go.RowKit

/-- numbers as they come in, by value -/
def vl : At → Option Fq
  | .f x => some x
  | .q x => some (m1 x)
  | .c _ => none
def vls : List At → Option (List Fq)
  | [] => some []
  | a :: r => match vl a, vls r with | some x, some l => some (x :: l) | _, _ => none
def rv1 (l : List At) : Option Fq := match vls l with | some [a] => some a | _ => none
def rv2 (l : List At) : Option Q2 := match vls l with | some [a, b] => some (a, b) | _ => none
def rv6 (l : List At) : Option Q6 := match vls l with | some [a, b, c, d, e, f] => some ((a, b), (c, d), (e, f)) | _ => none
def rv12 (l : List At) : Option Q12 := match vls l with | some [a, b, c, d, e, f, g, h, i, j, k, l] => some (((a, b), (c, d), (e, f)), ((g, h), (i, j), (k, l))) | _ => none
def Rdv {α γ : Type} (rd : List At → Option α) (qn : γ → List At) (mm : γ → α) : Prop := ∀ l x, rd l = some x → ∃ n, flat l = flat (qn n) ∧ mm n = x
theorem vls_ok : ∀ {l : List At} {m : List Fq}, vls l = some m → ∃ ns : List Nat, flat l = flat (ns.map At.q) ∧ ns.map m1 = m
  | [], m, h => by cases h; exact ⟨[], rfl, rfl⟩
  | a :: r, m, h => by
    unfold vls at h
    split at h
    · rename_i x l' h1 h2
      cases h
      obtain ⟨ns, e1, e2⟩ := vls_ok h2
      cases a with
      | f y => cases h1; exact ⟨x.1 :: ns, by show w4 x.1 ++ flat r = w4 x.1 ++ flat (ns.map At.q); rw [e1], by rw [List.map_cons, e2, m1_nv]⟩
      | q y => cases h1; exact ⟨y :: ns, by show w4 y ++ flat r = w4 y ++ flat (ns.map At.q); rw [e1], by rw [List.map_cons, e2]⟩
      | c v => cases h1
    · cases h
theorem rv1_ok : Rdv rv1 q1 m1 := fun l x h => by
  unfold rv1 at h
  split at h
  · rename_i a hn
    cases h
    obtain ⟨ns, e1, e2⟩ := vls_ok hn
    match ns, e2 with
    | [n], e2 => cases e2; exact ⟨n, e1, rfl⟩
  · cases h
theorem rv2_ok : Rdv rv2 q2 m2 := fun l x h => by
  unfold rv2 at h
  split at h
  · rename_i a b hn
    cases h
    obtain ⟨ns, e1, e2⟩ := vls_ok hn
    match ns, e2 with
    | [n, m], e2 => cases e2; exact ⟨(n, m), e1, rfl⟩
  · cases h
theorem rv6_ok : Rdv rv6 q6 m6 := fun l x h => by
  unfold rv6 at h
  split at h
  · rename_i hn
    cases h
    obtain ⟨ns, e1, e2⟩ := vls_ok hn
    match ns, e2 with
    | [a, b, c, d, e, f], e2 => cases e2; exact ⟨((a, b), (c, d), (e, f)), e1, rfl⟩
  · cases h
theorem rv12_ok : Rdv rv12 q12 m12 := fun l x h => by
  unfold rv12 at h
  split at h
  · rename_i hn
    cases h
    obtain ⟨ns, e1, e2⟩ := vls_ok hn
    match ns, e2 with
    | [a, b, c, d, e, f, g, h, i, j, k, l], e2 => cases e2; exact ⟨(((a, b), (c, d), (e, f)), ((g, h), (i, j), (k, l))), e1, rfl⟩
  · cases h
theorem g1v_ok {P : Program} {f : FuncId} {α γ : Type} {rd : List At → Option α} {qn : γ → List At} {mm : γ → α} (hr : Rdv rd qn mm) {op : α → List Prop × RV} (h : ∀ x, allP (op (mm x)).1 → ∀ args w, CAs w [.v (.fl (qn x))] args → Good P f (op (mm x)).2 args w) :
    ∀ cs pre r, g1 rd op cs = some (pre, r) → allP pre → ∀ (args : List Value) (w : World), CAs w cs args → Good P f r args w := by
  intro cs pre r hg hp args w ha
  unfold g1 at hg
  split at hg
  · rename_i l
    split at hg
    · rename_i x hx
      obtain ⟨n, e1, rfl⟩ := hr l x hx
      have e : op (mm n) = (pre, r) := by simpa using hg
      have := h n (by rw [e]; exact hp) args w (by
        rw [args1 ha, e1]
        exact ⟨rfl, trivial⟩)
      rw [e] at this
      exact this
    · cases hg
  · cases hg
theorem g2v_ok {P : Program} {f : FuncId} {α γ α' γ' : Type} {rd : List At → Option α} {qn : γ → List At} {mm : γ → α} {rd' : List At → Option α'} {qn' : γ' → List At} {mm' : γ' → α'} (hr : Rdv rd qn mm) (hr' : Rdv rd' qn' mm') {op : α → α' → List Prop × RV}
    (h : ∀ x y, allP (op (mm x) (mm' y)).1 → ∀ args w, CAs w [.v (.fl (qn x)), .v (.fl (qn' y))] args → Good P f (op (mm x) (mm' y)).2 args w) :
    ∀ cs pre r, g2 rd rd' op cs = some (pre, r) → allP pre → ∀ (args : List Value) (w : World), CAs w cs args → Good P f r args w := by
  intro cs pre r hg hp args w ha
  unfold g2 at hg
  split at hg
  · rename_i l m
    split at hg
    · rename_i x y hx hy
      obtain ⟨n, e1, rfl⟩ := hr l x hx
      obtain ⟨n', e2, rfl⟩ := hr' m y hy
      have e : op (mm n) (mm' n') = (pre, r) := by simpa using hg
      have := h n n' (by rw [e]; exact hp) args w (by
        rw [args2 ha, e1, e2]
        exact ⟨rfl, rfl, trivial⟩)
      rw [e] at this
      exact this
    · cases hg
  · cases hg

end Go.Proofs.Ytgacpjmggdmgdaa.Ex
namespace Go.Proofs.Ytgacpjmggdmgdaa.Ex
set_option linter.unusedVariables false
set_option linter.unusedSimpArgs false
open Go.RowKit
set_option maxRecDepth 100000 in
theorem run_turnsOnce (c : Bool)  : funA Try.prog (T_alive c) qN (fun _ => true) Try.f35 60 [] = some ([], .one (.fl [.f tn0.1, .f tn0.2, .f tn1.1, .f tn1.2, .f tn2.1, .f tn2.2, .f tn3.1, .f tn3.2, .f tn4.1, .f tn4.2, .f tn5.1, .f tn5.2])) := by kernel_rfl
noncomputable def T_turnsOnce (c : Bool) : Tab := (T_alive c).add 35 (g0 (.one (.fl [.f tn0.1, .f tn0.2, .f tn1.1, .f tn1.2, .f tn2.1, .f tn2.2, .f tn3.1, .f tn3.2, .f tn4.1, .f tn4.2, .f tn5.1, .f tn5.2])))
theorem ok_turnsOnce (c : Bool) : TabOk Try.prog (T_turnsOnce c) := (ok_alive c).add Try.func35 (by kernel_rfl) (by kernel_rfl) (g0_ok fun w => fun_sound hmix (ok_alive c) qN_ok Try.func35 (run_turnsOnce c) trivial (args := []) trivial)
set_option maxRecDepth 100000 in
theorem run_turnsTwice (c : Bool)  : funA Try.prog (T_turnsOnce c) qN (fun _ => true) Try.f33 60 [] = some ([], .one (.fl [.f sn0, .f sn1, .f sn2, .f sn3, .f sn4, .f sn5])) := by kernel_rfl
noncomputable def T_turnsTwice (c : Bool) : Tab := (T_turnsOnce c).add 33 (g0 (.one (.fl [.f sn0, .f sn1, .f sn2, .f sn3, .f sn4, .f sn5])))
theorem ok_turnsTwice (c : Bool) : TabOk Try.prog (T_turnsTwice c) := (ok_turnsOnce c).add Try.func33 (by kernel_rfl) (by kernel_rfl) (g0_ok fun w => fun_sound hmix (ok_turnsOnce c) qN_ok Try.func33 (run_turnsTwice c) trivial (args := []) trivial)
set_option maxRecDepth 100000 in
theorem run_once (c : Bool) (x : Q12) : funA Try.prog (T_turnsTwice c) qN (fun _ => true) Try.f20 80 [.v (.fl (e12 x))] = some ([], .one (.fl (e12 (on12 x)))) := by kernel_rfl
noncomputable def T_once (c : Bool) : Tab := (T_turnsTwice c).add 20 (g1 rd12 fun x => ([], .one (.fl (e12 (on12 x)))))
theorem ok_once (c : Bool) : TabOk Try.prog (T_once c) := (ok_turnsTwice c).add Try.func20 (by kernel_rfl) (by kernel_rfl) (g1_ok rd12_ok fun x hp args w ha => fun_sound hmix (ok_turnsTwice c) qN_ok Try.func20 (run_once c x) hp ha)
set_option maxRecDepth 100000 in
theorem run_twice (c : Bool) (x : Q12) : funA Try.prog (T_once c) qN (fun _ => true) Try.f19 80 [.v (.fl (e12 x))] = some ([], .one (.fl (e12 (tw12 x)))) := by kernel_rfl
noncomputable def T_twice (c : Bool) : Tab := (T_once c).add 19 (g1 rd12 fun x => ([], .one (.fl (e12 (tw12 x)))))
theorem ok_twice (c : Bool) : TabOk Try.prog (T_twice c) := (ok_once c).add Try.func19 (by kernel_rfl) (by kernel_rfl) (g1_ok rd12_ok fun x hp args w ha => fun_sound hmix (ok_once c) qN_ok Try.func19 (run_twice c x) hp ha)
theorem sq_id1 {R : Type} (K : CR R) (a b v : R) : K.add (K.mul a a) (K.mul v (K.mul b b)) = K.sub (K.sub (K.mul (K.add a b) (K.add a (K.mul v b))) (K.mul a b)) (K.mul v (K.mul a b)) :=
  ring_id K (envL K [a, b, v]) (.add (.mul (.v 0) (.v 0)) (.mul (.v 2) (.mul (.v 1) (.v 1)))) (.add (.add (.mul (.add (.v 0) (.v 1)) (.add (.v 0) (.mul (.v 2) (.v 1)))) (.neg (.mul (.v 0) (.v 1)))) (.neg (.mul (.v 2) (.mul (.v 0) (.v 1))))) (by decide)
theorem sq_id2 {R : Type} (K : CR R) (a b : R) : K.add (K.mul a b) (K.mul b a) = K.add (K.mul a b) (K.mul a b) := by rw [K.mul_comm b a]
set_option maxRecDepth 100000 in
theorem run_square (c : Bool) (x : Q12) : funA Try.prog (T_twice c) qN (fun _ => true) Try.f42 60 [.v (.fl (e12 x))] = some ([], .one (.fl (e12 ((F6.sub (F6.sub (F6.mul (F6.add x.1 x.2) (F6.add x.1 (F6.mul vE x.2))) (F6.mul x.1 x.2)) (F6.mul vE (F6.mul x.1 x.2)), F6.add (F6.mul x.1 x.2) (F6.mul x.1 x.2)))))) := by kernel_rfl
theorem raw_square (x : Q12) : F12.mul x x = (F6.sub (F6.sub (F6.mul (F6.add x.1 x.2) (F6.add x.1 (F6.mul vE x.2))) (F6.mul x.1 x.2)) (F6.mul vE (F6.mul x.1 x.2)), F6.add (F6.mul x.1 x.2) (F6.mul x.1 x.2)) := by
  exact Prod.ext (sq_id1 F6 x.1 x.2 vE) (sq_id2 F6 x.1 x.2)
noncomputable def T_square (c : Bool) : Tab := (T_twice c).add 42 (g1 rd12 fun x => ([], .one (.fl (e12 (F12.mul x x)))))
theorem ok_square (c : Bool) : TabOk Try.prog (T_square c) := (ok_twice c).add Try.func42 (by kernel_rfl) (by kernel_rfl) (g1_ok rd12_ok fun x hp args w ha => by show Good _ _ (.one (.fl (e12 (F12.mul x x)))) _ _; rw [raw_square]; exact fun_sound hmix (ok_twice c) qN_ok Try.func42 (run_square c x) hp ha)
/-- the rest that Frob12 reckons of n -/
def rest12N (n : Int) : Int := (IntKind.i64.wrap (n.tmod 12 + 12)).tmod 12
/-- so often to the p -/
def it12 : Nat → Q12 → Q12
  | 0, x => x
  | n + 1, x => on12 (it12 n x)
set_option maxRecDepth 100000 in
theorem run_frob_0 (c : Bool) (x : N12) (n : Int) : funB Try.prog qN (fun _ => ⟨fun _ => T_square c, fun _ => true, fun s => bif Nat.beq s 9 then some (.int .i64 0) else none⟩) Try.f7 60 [.v (.fl (q12 x)), .v (.im (.int .i64 n))] = some ([intOp .rem .i64 (IntKind.i64.wrap (n.tmod 12 + 12)) 12 = some (.int .i64 0)], .one (.fl (e12 (m12 x)))) := by kernel_rfl
set_option maxRecDepth 100000 in
theorem run_frob_1 (c : Bool) (x : N12) (n : Int) : funB Try.prog qN (fun _ => ⟨fun _ => T_square c, fun _ => true, fun s => bif Nat.beq s 9 then some (.int .i64 1) else none⟩) Try.f7 60 [.v (.fl (q12 x)), .v (.im (.int .i64 n))] = some ([intOp .rem .i64 (IntKind.i64.wrap (n.tmod 12 + 12)) 12 = some (.int .i64 1)], .one (.fl (e12 (on12 (m12 x))))) := by kernel_rfl
set_option maxRecDepth 100000 in
theorem run_frob_2 (c : Bool) (x : N12) (n : Int) : funB Try.prog qN (fun _ => ⟨fun _ => T_square c, fun _ => true, fun s => bif Nat.beq s 9 then some (.int .i64 2) else none⟩) Try.f7 60 [.v (.fl (q12 x)), .v (.im (.int .i64 n))] = some ([intOp .rem .i64 (IntKind.i64.wrap (n.tmod 12 + 12)) 12 = some (.int .i64 2)], .one (.fl (e12 (tw12 (m12 x))))) := by kernel_rfl
set_option maxRecDepth 100000 in
theorem run_frob_3 (c : Bool) (x : N12) (n : Int) : funB Try.prog qN (fun _ => ⟨fun _ => T_square c, fun _ => true, fun s => bif Nat.beq s 9 then some (.int .i64 3) else none⟩) Try.f7 60 [.v (.fl (q12 x)), .v (.im (.int .i64 n))] = some ([intOp .rem .i64 (IntKind.i64.wrap (n.tmod 12 + 12)) 12 = some (.int .i64 3)], .one (.fl (e12 (on12 (tw12 (m12 x)))))) := by kernel_rfl
set_option maxRecDepth 100000 in
theorem run_frob_4 (c : Bool) (x : N12) (n : Int) : funB Try.prog qN (fun _ => ⟨fun _ => T_square c, fun _ => true, fun s => bif Nat.beq s 9 then some (.int .i64 4) else none⟩) Try.f7 60 [.v (.fl (q12 x)), .v (.im (.int .i64 n))] = some ([intOp .rem .i64 (IntKind.i64.wrap (n.tmod 12 + 12)) 12 = some (.int .i64 4)], .one (.fl (e12 (tw12 (tw12 (m12 x)))))) := by kernel_rfl
set_option maxRecDepth 100000 in
theorem run_frob_5 (c : Bool) (x : N12) (n : Int) : funB Try.prog qN (fun _ => ⟨fun _ => T_square c, fun _ => true, fun s => bif Nat.beq s 9 then some (.int .i64 5) else none⟩) Try.f7 60 [.v (.fl (q12 x)), .v (.im (.int .i64 n))] = some ([intOp .rem .i64 (IntKind.i64.wrap (n.tmod 12 + 12)) 12 = some (.int .i64 5)], .one (.fl (e12 (on12 (tw12 (tw12 (m12 x))))))) := by kernel_rfl
set_option maxRecDepth 100000 in
theorem run_frob_6 (c : Bool) (x : N12) (n : Int) : funB Try.prog qN (fun _ => ⟨fun _ => T_square c, fun _ => true, fun s => bif Nat.beq s 9 then some (.int .i64 6) else none⟩) Try.f7 60 [.v (.fl (q12 x)), .v (.im (.int .i64 n))] = some ([intOp .rem .i64 (IntKind.i64.wrap (n.tmod 12 + 12)) 12 = some (.int .i64 6)], .one (.fl (e12 (cj12 (m12 x))))) := by kernel_rfl
set_option maxRecDepth 100000 in
theorem run_frob_7 (c : Bool) (x : N12) (n : Int) : funB Try.prog qN (fun _ => ⟨fun _ => T_square c, fun _ => true, fun s => bif Nat.beq s 9 then some (.int .i64 7) else none⟩) Try.f7 60 [.v (.fl (q12 x)), .v (.im (.int .i64 n))] = some ([intOp .rem .i64 (IntKind.i64.wrap (n.tmod 12 + 12)) 12 = some (.int .i64 7)], .one (.fl (e12 (on12 (cj12 (m12 x)))))) := by kernel_rfl
set_option maxRecDepth 100000 in
theorem run_frob_8 (c : Bool) (x : N12) (n : Int) : funB Try.prog qN (fun _ => ⟨fun _ => T_square c, fun _ => true, fun s => bif Nat.beq s 9 then some (.int .i64 8) else none⟩) Try.f7 60 [.v (.fl (q12 x)), .v (.im (.int .i64 n))] = some ([intOp .rem .i64 (IntKind.i64.wrap (n.tmod 12 + 12)) 12 = some (.int .i64 8)], .one (.fl (e12 (tw12 (cj12 (m12 x)))))) := by kernel_rfl
set_option maxRecDepth 100000 in
theorem run_frob_9 (c : Bool) (x : N12) (n : Int) : funB Try.prog qN (fun _ => ⟨fun _ => T_square c, fun _ => true, fun s => bif Nat.beq s 9 then some (.int .i64 9) else none⟩) Try.f7 60 [.v (.fl (q12 x)), .v (.im (.int .i64 n))] = some ([intOp .rem .i64 (IntKind.i64.wrap (n.tmod 12 + 12)) 12 = some (.int .i64 9)], .one (.fl (e12 (on12 (tw12 (cj12 (m12 x))))))) := by kernel_rfl
set_option maxRecDepth 100000 in
theorem run_frob_10 (c : Bool) (x : N12) (n : Int) : funB Try.prog qN (fun _ => ⟨fun _ => T_square c, fun _ => true, fun s => bif Nat.beq s 9 then some (.int .i64 10) else none⟩) Try.f7 60 [.v (.fl (q12 x)), .v (.im (.int .i64 n))] = some ([intOp .rem .i64 (IntKind.i64.wrap (n.tmod 12 + 12)) 12 = some (.int .i64 10)], .one (.fl (e12 (tw12 (tw12 (cj12 (m12 x))))))) := by kernel_rfl
set_option maxRecDepth 100000 in
theorem run_frob_11 (c : Bool) (x : N12) (n : Int) : funB Try.prog qN (fun _ => ⟨fun _ => T_square c, fun _ => true, fun s => bif Nat.beq s 9 then some (.int .i64 11) else none⟩) Try.f7 60 [.v (.fl (q12 x)), .v (.im (.int .i64 n))] = some ([intOp .rem .i64 (IntKind.i64.wrap (n.tmod 12 + 12)) 12 = some (.int .i64 11)], .one (.fl (e12 (on12 (tw12 (tw12 (cj12 (m12 x)))))))) := by kernel_rfl
def gFrob : Ent
  | [.v (.fl l), .v (.im (.int .i64 n))] => match rv12 l with
    | some x => some ([], .one (.fl (e12 (it12 (rest12N n).toNat x))))
    | none => none
  | _ => none
theorem it_tw (k : Nat) (x : Q12) : it12 (k + 2) x = tw12 (it12 k x) := on_on _
theorem it_six (x : Q12) : it12 6 x = cj12 x := by rw [it_tw 4, it_tw 2, it_tw 0, ← tw_three]; rfl
theorem it_comm (m : Nat) : ∀ (n : Nat) (x : Q12), it12 (n + m) x = it12 n (it12 m x)
  | 0, x => by rw [Nat.zero_add]; rfl
  | n + 1, x => by rw [show n + 1 + m = (n + m) + 1 by omega]; show on12 (it12 (n + m) x) = on12 (it12 n (it12 m x)); rw [it_comm m n x]
theorem it_is0 (x : Q12) : it12 0 x = x := rfl
theorem it_is1 (x : Q12) : it12 1 x = (on12 x) := rfl
theorem it_is2 (x : Q12) : it12 2 x = (tw12 x) := by rw [it_tw 0]; rfl
theorem it_is3 (x : Q12) : it12 3 x = (on12 (tw12 x)) := by show on12 (it12 2 x) = _; rw [it_tw 0]; rfl
theorem it_is4 (x : Q12) : it12 4 x = (tw12 (tw12 x)) := by rw [it_tw 2, it_tw 0]; rfl
theorem it_is5 (x : Q12) : it12 5 x = (on12 (tw12 (tw12 x))) := by show on12 (it12 4 x) = _; rw [it_tw 2, it_tw 0]; rfl
theorem it_is6 (x : Q12) : it12 6 x = (cj12 x) := by rw [show (6 : Nat) = 0 + 6 from rfl, it_comm, it_six]; exact it_is0 _
theorem it_is7 (x : Q12) : it12 7 x = (on12 (cj12 x)) := by rw [show (7 : Nat) = 1 + 6 from rfl, it_comm, it_six]; exact it_is1 _
theorem it_is8 (x : Q12) : it12 8 x = (tw12 (cj12 x)) := by rw [show (8 : Nat) = 2 + 6 from rfl, it_comm, it_six]; exact it_is2 _
theorem it_is9 (x : Q12) : it12 9 x = (on12 (tw12 (cj12 x))) := by rw [show (9 : Nat) = 3 + 6 from rfl, it_comm, it_six]; exact it_is3 _
theorem it_is10 (x : Q12) : it12 10 x = (tw12 (tw12 (cj12 x))) := by rw [show (10 : Nat) = 4 + 6 from rfl, it_comm, it_six]; exact it_is4 _
theorem it_is11 (x : Q12) : it12 11 x = (on12 (tw12 (tw12 (cj12 x)))) := by rw [show (11 : Nat) = 5 + 6 from rfl, it_comm, it_six]; exact it_is5 _
theorem intOp_rem {n : Int} {k : Int} (h : rest12N n = k) : intOp .rem .i64 (IntKind.i64.wrap (n.tmod 12 + 12)) 12 = some (.int .i64 k) := by
  show some (Value.int .i64 ((IntKind.i64.wrap (n.tmod 12 + 12)).tmod 12)) = _
  rw [show (IntKind.i64.wrap (n.tmod 12 + 12)).tmod 12 = k from h]
theorem tmod_lt (n : Int) : -12 < n.tmod 12 ∧ n.tmod 12 < 12 := by
  constructor
  · exact Int.lt_tmod_of_pos n (by omega)
  · exact Int.tmod_lt_of_pos n (by omega)
theorem rest12N_eq (n : Int) : rest12N n = (n.tmod 12 + 12).tmod 12 ∧ 0 ≤ rest12N n ∧ rest12N n < 12 := by
  have h := tmod_lt n
  have e : IntKind.i64.wrap (n.tmod 12 + 12) = n.tmod 12 + 12 := IntWalk.i64_in _ (by omega)
  unfold rest12N
  rw [e]
  exact ⟨rfl, Int.tmod_nonneg 12 (by omega), Int.tmod_lt_of_pos _ (by omega)⟩
theorem frob_ok (c : Bool) : ∀ cs pre r, gFrob cs = some (pre, r) → allP pre → ∀ (args : List Value) (w : World), CAs w cs args → Good Try.prog 7 r args w := by
  intro cs pre r hg hp args w ha
  unfold gFrob at hg
  split at hg
  · rename_i l n
    split at hg
    · rename_i x hx
      cases hg
      obtain ⟨a, e1, rfl⟩ := rv12_ok l x hx
      have ha' : CAs w [.v (.fl (q12 a)), .v (.im (.int .i64 n))] args := by
        match args, ha with
        | [v, u], ha =>
          refine ⟨?_, ha.2.1, trivial⟩
          show v = .agg (flat (q12 a)).toArray
          rw [← e1]
          exact ha.1
        | [], ha => exact ha.elim
        | [_], ha => exact ha.2.elim
        | _ :: _ :: _ :: _, ha => exact ha.2.2.elim
      obtain ⟨_, h0, h1⟩ := rest12N_eq n
      have hk : (rest12N n).toNat = 0 ∨ (rest12N n).toNat = 1 ∨ (rest12N n).toNat = 2 ∨ (rest12N n).toNat = 3 ∨ (rest12N n).toNat = 4 ∨ (rest12N n).toNat = 5 ∨ (rest12N n).toNat = 6 ∨ (rest12N n).toNat = 7 ∨ (rest12N n).toNat = 8 ∨ (rest12N n).toNat = 9 ∨ (rest12N n).toNat = 10 ∨ (rest12N n).toNat = 11 := by omega
      rcases hk with h | h | h | h | h | h | h | h | h | h | h | h
      · rw [h, it_is0]
        exact funB_sound hmix (fun _ _ => ok_square c) qN_ok Try.func7 (run_frob_0 c a n) ⟨intOp_rem (by omega), trivial⟩ ha'
      · rw [h, it_is1]
        exact funB_sound hmix (fun _ _ => ok_square c) qN_ok Try.func7 (run_frob_1 c a n) ⟨intOp_rem (by omega), trivial⟩ ha'
      · rw [h, it_is2]
        exact funB_sound hmix (fun _ _ => ok_square c) qN_ok Try.func7 (run_frob_2 c a n) ⟨intOp_rem (by omega), trivial⟩ ha'
      · rw [h, it_is3]
        exact funB_sound hmix (fun _ _ => ok_square c) qN_ok Try.func7 (run_frob_3 c a n) ⟨intOp_rem (by omega), trivial⟩ ha'
      · rw [h, it_is4]
        exact funB_sound hmix (fun _ _ => ok_square c) qN_ok Try.func7 (run_frob_4 c a n) ⟨intOp_rem (by omega), trivial⟩ ha'
      · rw [h, it_is5]
        exact funB_sound hmix (fun _ _ => ok_square c) qN_ok Try.func7 (run_frob_5 c a n) ⟨intOp_rem (by omega), trivial⟩ ha'
      · rw [h, it_is6]
        exact funB_sound hmix (fun _ _ => ok_square c) qN_ok Try.func7 (run_frob_6 c a n) ⟨intOp_rem (by omega), trivial⟩ ha'
      · rw [h, it_is7]
        exact funB_sound hmix (fun _ _ => ok_square c) qN_ok Try.func7 (run_frob_7 c a n) ⟨intOp_rem (by omega), trivial⟩ ha'
      · rw [h, it_is8]
        exact funB_sound hmix (fun _ _ => ok_square c) qN_ok Try.func7 (run_frob_8 c a n) ⟨intOp_rem (by omega), trivial⟩ ha'
      · rw [h, it_is9]
        exact funB_sound hmix (fun _ _ => ok_square c) qN_ok Try.func7 (run_frob_9 c a n) ⟨intOp_rem (by omega), trivial⟩ ha'
      · rw [h, it_is10]
        exact funB_sound hmix (fun _ _ => ok_square c) qN_ok Try.func7 (run_frob_10 c a n) ⟨intOp_rem (by omega), trivial⟩ ha'
      · rw [h, it_is11]
        exact funB_sound hmix (fun _ _ => ok_square c) qN_ok Try.func7 (run_frob_11 c a n) ⟨intOp_rem (by omega), trivial⟩ ha'
    · cases hg
  · cases hg
noncomputable def T_Frob12 (c : Bool) : Tab := (T_square c).add 7 gFrob
theorem ok_Frob12 (c : Bool) : TabOk Try.prog (T_Frob12 c) := (ok_square c).add Try.func7 (by kernel_rfl) (by kernel_rfl) (frob_ok c)
set_option maxRecDepth 100000 in
theorem run_Conj12 (c : Bool) (x : N12) : funA Try.prog (T_Frob12 c) qN (fun _ => true) Try.f9 40 [.v (.fl (q12 x))] = some ([], .one (.fl (e12 (cj12 (m12 x))))) := by kernel_rfl
noncomputable def T_Conj12 (c : Bool) : Tab := (T_Frob12 c).add 9 (g1 rv12 (fun x => ([], .one (.fl (e12 (cj12 x))))))
theorem ok_Conj12 (c : Bool) : TabOk Try.prog (T_Conj12 c) := (ok_Frob12 c).add Try.func9 (by kernel_rfl) (by kernel_rfl) (g1v_ok rv12_ok fun x hp args w ha => fun_sound hmix (ok_Frob12 c) qN_ok Try.func9 (run_Conj12 c x) hp ha)
end Go.Proofs.Ytgacpjmggdmgdaa.Ex
namespace Go.Proofs.Ytgacpjmggdmgdaa.Ex
set_option linter.unusedVariables false
set_option linter.unusedSimpArgs false
open Go.RowKit

/-- a number's length -/
def lenF (n : Nat) : Nat := if wv n = 0 then 0 else Nat.log2 (wv n) + 1
theorem lenF_is (n : Nat) : LenIs (wv n) (lenF n) := by
  unfold lenF
  by_cases h : wv n = 0
  · rw [if_pos h, h]; exact ⟨by decide, fun h => by cases h⟩
  · rw [if_neg h]
    exact ⟨Nat.lt_log2_self, fun _ => by rw [Nat.add_sub_cancel]; exact Nat.log2_self_le h⟩
theorem wv_lt (n : Nat) : wv n < 2 ^ 256 := by
  obtain ⟨h0, h1, h2, h3⟩ := fw_ok n
  unfold wv val4
  have : (2 : Nat) ^ 256 = 115792089237316195423570985008687907853269984665640564039457584007913129639936 := by decide
  omega
theorem lenF_le (n : Nat) : lenF n ≤ 256 := by
  rcases Nat.lt_or_ge 256 (lenF n) with h | h
  · have h1 := (lenF_is n).2 (by omega)
    have h2 := Nat.pow_le_pow_right (show 0 < 2 by omega) (show 256 ≤ lenF n - 1 by omega)
    have := wv_lt n
    omega
  · exact h
def gLen : Ent
  | [.v (.fl l)] => match rq1 l with
    | some n => some ([], .one (.im (.int .i64 (lenF n : Nat))))
    | none => none
  | _ => none
theorem len_ok : ∀ cs pre r, gLen cs = some (pre, r) → allP pre → ∀ (args : List Value) (w : World), CAs w cs args → Good Try.prog 41 r args w := by
  intro cs pre r hg hp args w ha
  unfold gLen at hg
  split at hg
  · rename_i l
    split at hg
    · rename_i n hn
      cases hg
      rw [args1 ha, rq1_ok l _ hn]
      refine (len_calls _ _ _ _ (fw_ok n) w).mono ?_
      rintro e w' ⟨L, rfl, _, h, hbl⟩
      cases h.uniq (lenF_is n)
      exact ⟨rfl, hbl⟩
    · cases hg
  · cases hg
def gBit : Ent
  | [.v (.fl l), .v (.im (.int .i64 (.ofNat i)))] => match rq1 l with
    | some n => some ([i < 256], .one (.im (.int .i64 (bitOf (wv n) i : Nat))))
    | none => none
  | _ => none
theorem bit_ok : ∀ cs pre r, gBit cs = some (pre, r) → allP pre → ∀ (args : List Value) (w : World), CAs w cs args → Good Try.prog 43 r args w := by
  intro cs pre r hg hp args w ha
  unfold gBit at hg
  split at hg
  · rename_i l i
    split at hg
    · rename_i n hn
      cases hg
      match args, ha with
      | [v, u], ha =>
        have h1 : v = .agg (flat l).toArray := ha.1
        have h2 : u = .int .i64 (Int.ofNat i) := ha.2.1
        rw [rq1_ok l _ hn] at h1
        subst h1; subst h2
        exact bit_in _ _ _ _ i (fw_ok n) hp.1 w
      | [], ha => exact ha.elim
      | [_], ha => exact ha.2.elim
      | _ :: _ :: _ :: _, ha => exact ha.2.2.elim
    · cases hg
  · cases hg

noncomputable def T_Len (c : Bool) : Tab := (T_Conj12 c).add 41 gLen
theorem ok_Len (c : Bool) : TabOk Try.prog (T_Len c) := (ok_Conj12 c).add Try.func41 (by kernel_rfl) (by kernel_rfl) len_ok
noncomputable def T_Bit (c : Bool) : Tab := (T_Len c).add 43 gBit
theorem ok_Bit (c : Bool) : TabOk Try.prog (T_Bit c) := (ok_Len c).add Try.func43 (by kernel_rfl) (by kernel_rfl) bit_ok
def z12 : List At := e12 F12.zero
/-- what is known at the head of the loop -/
def pwF (x : Q12) (n L i : Nat) (r : Q12) : List Fact := [.slot 2 (.pt 2 0), .row 2 true (e12 x), .slot 3 (.pt 3 0), .row 3 true (q1 n), .slot 4 (.pt 4 0), .row 4 true z12, .slot 5 (.pt 5 0), .row 5 true (e12 r), .slot 6 (.im (.int .i64 (L : Nat))), .slot 11 (.im (.int .i64 (L : Nat))), .slot 12 (.im (.int .i64 (i : Nat)))]
noncomputable def pwC (c : Bool) (i j : Nat) (b : Bool) (_ : Nat) : Cfg := ⟨fun _ => T_Bit c, fun _ => true, fun s => bif Nat.beq s 13 then some (.bool true) else bif Nat.beq s 21 then some (.int .i64 (Int.ofNat j)) else bif Nat.beq s 23 then some (.bool b) else bif Nat.beq s 27 then some (.int .i64 ((i + 1 : Nat) : Int)) else none⟩
noncomputable def pwE (c : Bool) (_ : Nat) : Cfg := ⟨fun _ => T_Bit c, fun _ => true, fun s => bif Nat.beq s 13 then some (.bool false) else none⟩
noncomputable def pwCode : Code := (Try.f23.body).getD .skip
noncomputable def pwLoop : Code := cIn (cIn (cB (cA (cB (cB (cB pwCode))))))
set_option maxRecDepth 100000 in
theorem pw_one (c : Bool) (x r r2 : Q12) (n L i j : Nat) : runK Try.prog qN Try.f23.ntmps (pwC c i j true) 40 pwLoop (pwF x n L i r) (pwF x n L (i + 1) r2) = some ([intOp .lss .i64 (i : Nat) (L : Nat) = some (.bool true), intOp .sub .i64 (IntKind.i64.wrap ((L : Nat) - 1)) (i : Nat) = some (.int .i64 (Int.ofNat j)), j < 256, intOp .eql .i64 (bitOf (wv n) j : Nat) 1 = some (.bool true), intOp .add .i64 (i : Nat) 1 = some (.int .i64 ((i + 1 : Nat) : Int))], .nrm, pwF x n L (i + 1) (F12.mul (F12.mul r r) x)) := by kernel_rfl
set_option maxRecDepth 100000 in
theorem pw_zero (c : Bool) (x r r2 : Q12) (n L i j : Nat) : runK Try.prog qN Try.f23.ntmps (pwC c i j false) 40 pwLoop (pwF x n L i r) (pwF x n L (i + 1) r2) = some ([intOp .lss .i64 (i : Nat) (L : Nat) = some (.bool true), intOp .sub .i64 (IntKind.i64.wrap ((L : Nat) - 1)) (i : Nat) = some (.int .i64 (Int.ofNat j)), j < 256, intOp .eql .i64 (bitOf (wv n) j : Nat) 1 = some (.bool false), intOp .add .i64 (i : Nat) 1 = some (.int .i64 ((i + 1 : Nat) : Int))], .nrm, pwF x n L (i + 1) (F12.mul r r)) := by kernel_rfl
set_option maxRecDepth 100000 in
theorem pw_end (c : Bool) (x r : Q12) (n L i : Nat) : runK Try.prog qN Try.f23.ntmps (pwE c) 40 pwLoop (pwF x n L i r) (pwF x n L i r) = some ([intOp .lss .i64 (i : Nat) (L : Nat) = some (.bool false)], .ex 0, pwF x n L i r) := by kernel_rfl

theorem i64_small (k : Int) (h0 : -1000 < k) (h1 : k < 1000) : IntKind.i64.wrap k = k := IntWalk.i64_in _ (by omega)
theorem lss_t {i L : Nat} (h : i < L) : intOp .lss .i64 (i : Nat) (L : Nat) = some (.bool true) := by
  show some (Value.bool (decide ((i : Int) < (L : Int)))) = _
  rw [decide_eq_true (by omega)]
theorem lss_f (L : Nat) : intOp .lss .i64 (L : Nat) (L : Nat) = some (.bool false) := by
  show some (Value.bool (decide ((L : Int) < (L : Int)))) = _
  rw [decide_eq_false (by omega)]
theorem sub_t {i L : Nat} (h : i < L) (hL : L ≤ 256) : intOp .sub .i64 (IntKind.i64.wrap ((L : Nat) - 1)) (i : Nat) = some (.int .i64 (Int.ofNat (L - 1 - i))) := by
  show some (Value.int .i64 (IntKind.i64.wrap (IntKind.i64.wrap ((L : Int) - 1) - (i : Int)))) = _
  have e1 : IntKind.i64.wrap ((L : Int) - 1) = (L : Int) - 1 := i64_small _ (by omega) (by omega)
  rw [e1, i64_small _ (by omega) (by omega), show (L : Int) - 1 - (i : Int) = Int.ofNat (L - 1 - i) by show _ = ((L - 1 - i : Nat) : Int); omega]
theorem eql_b (v : Nat) (b : Bool) (h : v = if b then 1 else 0) : intOp .eql .i64 (v : Nat) 1 = some (.bool b) := by
  subst h
  cases b <;> rfl
theorem add_t {i : Nat} (h : i < 256) : intOp .add .i64 (i : Nat) 1 = some (.int .i64 ((i + 1 : Nat) : Int)) := by
  show some (Value.int .i64 (IntKind.i64.wrap ((i : Int) + 1))) = _
  rw [i64_small _ (by omega) (by omega)]
  rfl
/-- what the highest i bits make -/
theorem top_step (n i : Nat) (h : i < lenF n) : wv n / 2 ^ (lenF n - (i + 1)) = 2 * (wv n / 2 ^ (lenF n - i)) + bitOf (wv n) (lenF n - 1 - i) := by
  have e : lenF n - i = (lenF n - (i + 1)) + 1 := by omega
  have e2 : lenF n - 1 - i = lenF n - (i + 1) := by omega
  unfold bitOf
  rw [e, e2, Nat.pow_succ, ← Nat.div_div_eq_div_mul]
  omega
def pwR (x : Q12) (n i : Nat) : Q12 := pwK F12 x (wv n / 2 ^ (lenF n - i))
theorem pwR_0 (x : Q12) (n : Nat) : pwR x n 0 = F12.one := by
  unfold pwR
  rw [Nat.sub_zero, Nat.div_eq_of_lt (lenF_is n).1]
  rfl
theorem pwR_end (x : Q12) (n : Nat) : pwR x n (lenF n) = pwK F12 x (wv n) := by
  unfold pwR
  rw [Nat.sub_self, Nat.pow_zero, Nat.div_one]
theorem pwR_step (x : Q12) (n i : Nat) (h : i < lenF n) (b : Bool) (hb : bitOf (wv n) (lenF n - 1 - i) = if b then 1 else 0) : pwR x n (i + 1) = bif b then F12.mul (F12.mul (pwR x n i) (pwR x n i)) x else F12.mul (pwR x n i) (pwR x n i) := by
  have h2 : F12.mul (pwR x n i) (pwR x n i) = pwK F12 x (2 * (wv n / 2 ^ (lenF n - i))) := by unfold pwR; rw [← pwK_add, Nat.two_mul]
  rw [h2]
  unfold pwR
  rw [top_step n i h, hb]
  cases b <;> rfl
theorem pw_round (c : Bool) (x : Q12) (n i : Nat) (h : i < lenF n) : ∃ b, ∃ ps, runK Try.prog qN Try.f23.ntmps (pwC c i (lenF n - 1 - i) b) 40 pwLoop (pwF x n (lenF n) i (pwR x n i)) (pwF x n (lenF n) (i + 1) (pwR x n (i + 1))) = some (ps, .nrm, pwF x n (lenF n) (i + 1) (pwR x n (i + 1))) ∧ allP ps := by
  have hL := lenF_le n
  rcases bitOf_01 (wv n) (lenF n - 1 - i) with hb | hb
  · have hz := pw_zero c x (pwR x n i) (pwR x n (i + 1)) n (lenF n) i (lenF n - 1 - i)
    rw [show F12.mul (pwR x n i) (pwR x n i) = pwR x n (i + 1) from (pwR_step x n i h false hb).symm] at hz
    exact ⟨false, _, hz, lss_t h, sub_t h hL, by omega, eql_b _ false hb, add_t (by omega), trivial⟩
  · have hz := pw_one c x (pwR x n i) (pwR x n (i + 1)) n (lenF n) i (lenF n - 1 - i)
    rw [show F12.mul (F12.mul (pwR x n i) (pwR x n i)) x = pwR x n (i + 1) from (pwR_step x n i h true hb).symm] at hz
    exact ⟨true, _, hz, lss_t h, sub_t h hL, by omega, eql_b _ true hb, add_t (by omega), trivial⟩

def pwA (x : Q12) (n : Nat) : List Fact := [.slot 2 (.pt 2 0), .row 2 true (e12 x), .slot 3 (.pt 3 0), .row 3 true (q1 n), .slot 4 (.pt 4 0), .row 4 true z12]
def pwB1 (x : Q12) (n : Nat) : List Fact := [.slot 2 (.pt 2 0), .row 2 true (e12 x), .slot 3 (.pt 3 0), .row 3 true (q1 n), .slot 4 (.pt 4 0), .row 4 true z12, .slot 5 (.pt 5 0), .row 5 true (e12 F12.one)]
def pwB2 (x : Q12) (n : Nat) : List Fact := [.slot 2 (.pt 2 0), .row 2 true (e12 x), .slot 3 (.pt 3 0), .row 3 true (q1 n), .slot 4 (.pt 4 0), .row 4 true z12, .slot 5 (.pt 5 0), .row 5 true (e12 F12.one), .slot 6 (.im (.int .i64 (lenF n : Nat)))]
noncomputable def pwC0 (c : Bool) (_ : Nat) : Cfg := ⟨fun _ => T_Bit c, fun _ => true, fun _ => none⟩
set_option maxRecDepth 100000 in
theorem pw_s0 (c : Bool) (x : Q12) (n : Nat) : runK Try.prog qN Try.f23.ntmps (pwC0 c) 40 (cA pwCode) (argF 0 [.v (.fl (e12 x)), .v (.fl (q1 n))]) (pwA x n) = some ([], .nrm, pwA x n) := by kernel_rfl
set_option maxRecDepth 100000 in
theorem pw_s1 (c : Bool) (x : Q12) (n : Nat) : runK Try.prog qN Try.f23.ntmps (pwC0 c) 40 (cA (cB pwCode)) (pwA x n) (pwB1 x n) = some ([], .nrm, pwB1 x n) := by kernel_rfl
set_option maxRecDepth 100000 in
theorem pw_s2 (c : Bool) (x : Q12) (n : Nat) : runK Try.prog qN Try.f23.ntmps (pwC0 c) 40 (cA (cB (cB pwCode))) (pwB1 x n) (pwB2 x n) = some ([], .nrm, pwB2 x n) := by kernel_rfl
set_option maxRecDepth 100000 in
theorem pw_s3 (c : Bool) (x : Q12) (n : Nat) : runK Try.prog qN Try.f23.ntmps (pwC0 c) 40 (cA (cA (cB (cB (cB pwCode))))) (pwB2 x n) (pwF x n (lenF n) 0 F12.one) = some ([], .nrm, pwF x n (lenF n) 0 F12.one) := by kernel_rfl
set_option maxRecDepth 100000 in
theorem pw_s4 (c : Bool) (x r : Q12) (n : Nat) : runK Try.prog qN Try.f23.ntmps (pwC0 c) 40 (cB (cB (cB (cB pwCode)))) (pwF x n (lenF n) (lenF n) r) [.slot 4 (.pt 4 0), .row 4 true (e12 r)] = some ([], .rt, [.slot 4 (.pt 4 0), .row 4 true (e12 r)]) := by kernel_rfl
theorem pw_code : pwCode = .seq (cA pwCode) (.seq (cA (cB pwCode)) (.seq (cA (cB (cB pwCode))) (.seq (.seq (cA (cA (cB (cB (cB pwCode))))) (.block 0 (.loop pwLoop))) (cB (cB (cB (cB pwCode))))))) := by kernel_rfl
def gPow : Ent := g2 rd12 rq1 fun x n => ([], .one (.fl (e12 (pwK F12 x (wv n)))))
theorem pow_calls (c : Bool) (x : Q12) (n : Nat) (args : List Value) (w : World) (ha : CAs w [.v (.fl (e12 x)), .v (.fl (q1 n))] args) : Good Try.prog 23 (.one (.fl (e12 (pwK F12 x (wv n))))) args w := by
  refine fn_enter Try.func23 (c := pwCode) rfl ha (Nat.le_of_ble_eq_true (by kernel_rfl)) fun a w' hA => ?_
  rw [pw_code]
  refine wp_seq (runK_sound hmix (fun _ _ => ok_Bit c) qN_ok (pw_s0 c x n) trivial hA fun a w' hA => ?_)
  refine wp_seq (runK_sound hmix (fun _ _ => ok_Bit c) qN_ok (pw_s1 c x n) trivial hA fun a w' hA => ?_)
  refine wp_seq (runK_sound hmix (fun _ _ => ok_Bit c) qN_ok (pw_s2 c x n) trivial hA fun a w' hA => ?_)
  refine wp_seq (wp_seq (runK_sound hmix (fun _ _ => ok_Bit c) qN_ok (pw_s3 c x n) trivial hA fun a w' hA => ?_))
  refine wp_block ?_
  have hb : ∀ i, i < lenF n → ∃ b, ∃ ps, runK Try.prog qN Try.f23.ntmps (pwC c i (lenF n - 1 - i) b) 40 pwLoop (pwF x n (lenF n) i (pwR x n i)) (pwF x n (lenF n) (i + 1) (pwR x n (i + 1))) = some (ps, .nrm, pwF x n (lenF n) (i + 1) (pwR x n (i + 1))) ∧ allP ps := fun i h => pw_round c x n i h
  classical
  refine loop_rounds (f := 40) hmix qN_ok (fun i => pwF x n (lenF n) i (pwR x n i)) (fun i => if h : i < lenF n then pwC c i (lenF n - 1 - i) (hb i h).choose else pwE c) (fun i m d => ?_) (lenF n) (fun i hi => ?_) (.ex 0) (by simp) (pwF x n (lenF n) (lenF n) (pwR x n (lenF n))) ?_ (by rw [pwR_0]; exact hA) fun a w' hA => ?_
  · show TabOk _ ((if h : i < lenF n then pwC c i (lenF n - 1 - i) (hb i h).choose else pwE c) m |>.T d)
    split <;> exact ok_Bit c
  · rw [dif_pos hi]
    exact (hb i hi).choose_spec
  · rw [dif_neg (Nat.lt_irrefl _)]
    exact ⟨_, pw_end c x _ n (lenF n) (lenF n), lss_f _, trivial⟩
  · rw [pwR_end] at hA
    show (cB (cB (cB (cB pwCode)))).wp _ _ _ _
    exact runK_sound hmix (fun _ _ => ok_Bit c) qN_ok (pw_s4 c x _ n) trivial hA fun a w' hA => fn_leave (l := [.fl (e12 (pwK F12 x (wv n)))]) (by kernel_rfl) (by kernel_rfl) hA
noncomputable def T_power (c : Bool) : Tab := (T_Bit c).add 23 gPow
theorem ok_power (c : Bool) : TabOk Try.prog (T_power c) := (ok_Bit c).add Try.func23 (by kernel_rfl) (by kernel_rfl) (g2_ok rd12_ok rq1_ok fun x n _ args w ha => pow_calls c x n args w ha)
theorem it_one (x : Q12) : it12 1 x = on12 x := rfl
set_option maxRecDepth 100000 in
theorem run_exp (c : Bool) (x : N12) (n : Nat) : funA Try.prog (T_power c) qN (fun _ => true) Try.f10 60 [.v (.fl (q12 x)), .v (.fl (q1 n))] = some ([], .one (.fl (e12 (pwK F12 (m12 x) (wv n))))) := by kernel_rfl
theorem rq1_v : Rdv rq1 q1 (fun n => n) := fun l n h => ⟨n, rq1_ok l n h, rfl⟩
noncomputable def T_Exp12 (c : Bool) : Tab := (T_power c).add 10 (g2 rv12 rq1 fun x n => ([], .one (.fl (e12 (pwK F12 x (wv n))))))
theorem ok_Exp12 (c : Bool) : TabOk Try.prog (T_Exp12 c) := (ok_power c).add Try.func10 (by kernel_rfl) (by kernel_rfl) (g2v_ok rv12_ok rq1_v fun x n hp args w ha => fun_sound hmix (ok_power c) qN_ok Try.func10 (run_exp c x n) trivial ha)
end Go.Proofs.Ytgacpjmggdmgdaa.Ex
namespace Go.Proofs.Ytgacpjmggdmgdaa
set_option linter.unusedVariables false
set_option linter.unusedSimpArgs false
open Go.RowKit

theorem below_of (A M : Nat) : decide (cmpN A M < 0) = isB A M := by
  unfold isB cmpN
  by_cases q : A = M
  · rw [if_pos q, decide_eq_false (by omega), decide_eq_false (by omega)]
  · rw [if_neg q]
    by_cases h : A < M
    · rw [if_pos h, decide_eq_true (by omega), decide_eq_true (by omega)]
    · rw [if_neg h, decide_eq_false (by omega), decide_eq_false (by omega)]
set_option maxRecDepth 100000 in
set_option maxHeartbeats 2000000 in
theorem rbelow_calls (f : Int) (F : FC) (hf : FieldIs f F) (a0 a1 a2 a3 : Nat) (ha : ok4 a0 a1 a2 a3) (w : World) :
    Calls Try.prog 16 #[.int .i64 f, .agg #[.int .u64 a0, .int .u64 a1, .int .u64 a2, .int .u64 a3]] w (fun e w' => e = .returned (.bool (isB (val4 a0 a1 a2 a3) F.M)) ∧ Below w.heap.size w w') := by
  go_enter Try.func16, Try.ntmps16
  go_wp2_with fail
  have HM := Lib.hid ((Mem.nil w).new (w.heap.size) a0 a1 a2 a3 24 (by simp))
  refine region_till (fun wx => Mem w wx [(w.heap.size, a0, a1, a2, a3)]) 5 (by kernel_rfl) ?_
  have HM' := Lib.hid (HM.out.drewN 1)
  clear HM
  have HM := HM'
  clear HM'
  have HS := HM.out.sub (rs' := [(w.heap.size, a0, a1, a2, a3)]) (by simp)
  refine till_take (i := 0) (v := .agg #[.int .u64 a0, .int .u64 a1, .int .u64 a2, .int .u64 a3]) rfl (by kernel_rfl) (by kernel_rfl) (by kernel_rfl) (by kernel_rfl) (fun _ _ _ h => h) HS (Or.inl ⟨by kernel_rfl, fun wx hx => ?_⟩) ?_
  · have kr := hx.row (b := w.heap.size) (c0 := a0) (c1 := a1) (c2 := a2) (c3 := a3) (by simp)
    have x0 := kr.c0; have x1 := kr.c1; have x2 := kr.c2; have x3 := kr.c3
    clear kr HS hx
    go_simp
  simp only [Act.put, List.setIfInBounds_toArray, List.set_cons_zero, List.set_cons_succ]
  refine till_take (i := 1) (v := .int .i64 f) rfl (by kernel_rfl) (by kernel_rfl) (by kernel_rfl) (by kernel_rfl) (fun _ _ _ h => h) HS (Or.inl ⟨by kernel_rfl, fun wx hx => ?_⟩) ?_
  · clear HS hx
    go_simp
  simp only [Act.put, List.setIfInBounds_toArray, List.set_cons_zero, List.set_cons_succ]
  clear HS
  refine till_step (i := 2) (by kernel_rfl) rfl (fun K hK => ?_)
  go_simp
  refine (rmod_some f F hf _).mono ?_
  rintro e w1 ⟨rfl, hbl⟩
  have HM' := Lib.hid (HM.out.on hbl)
  clear HM hbl
  have HM := HM'
  clear HM'
  have HS := HM.out.sub (rs' := [(w.heap.size, a0, a1, a2, a3)]) (by simp)
  refine hK.out _ _ (Or.inr HS) (fun _ => ?_)
  clear hK K
  clear HS
  refine till_step (i := 3) (by kernel_rfl) rfl (fun K hK => ?_)
  go_simp
  refine (refCmp_calls a0 a1 a2 a3 F.m0 F.m1 F.m2 F.m3 ha hf.ok.okm _).mono ?_
  rintro e w2 ⟨he, hbl⟩
  have HC := Lib.hid (below_of (val4 a0 a1 a2 a3) (val4 F.m0 F.m1 F.m2 F.m3))
  generalize cmpN (val4 a0 a1 a2 a3) (val4 F.m0 F.m1 F.m2 F.m3) = cc at *
  subst he
  have HM' := Lib.hid (HM.out.on hbl)
  clear HM hbl
  have HM := HM'
  clear HM'
  have HS := HM.out.sub (rs' := [(w.heap.size, a0, a1, a2, a3)]) (by simp)
  refine hK.out _ _ (Or.inr HS) (fun _ => ?_)
  clear hK K
  refine till_take (i := 4) (v := .bool (decide (cc < 0))) rfl (by kernel_rfl) (by kernel_rfl) (by kernel_rfl) (by kernel_rfl) (fun _ _ _ h => h) HS (Or.inl ⟨by kernel_rfl, fun wx hx => ?_⟩) ?_
  · clear HS hx
    go_simp
  simp only [Act.put, List.setIfInBounds_toArray, List.set_cons_zero, List.set_cons_succ]
  clear HS
  refine till_step (i := 5) (by kernel_rfl) rfl (fun K hK => ?_)
  go_simp
  refine hK.out _ _ (Or.inl rfl) (fun _ => ?_)
  clear hK K
  refine till_done (by kernel_rfl) ?_
  go_wp2_with fail
  go_ret
  exact ⟨ret_bool HC.out, HM.out.1⟩
end Go.Proofs.Ytgacpjmggdmgdaa
namespace Go.Proofs.Ytgacpjmggdmgdaa.Ex
set_option linter.unusedVariables false
set_option linter.unusedSimpArgs false
open Go.RowKit
def gMod : Ent
  | [.v (.im (.int .i64 (.ofNat 1)))] => some ([], .one (.fl (q1 FP.M)))
  | _ => none
theorem mod_ok : ∀ cs pre r, gMod cs = some (pre, r) → allP pre → ∀ (args : List Value) (w : World), CAs w cs args → Good Try.prog 6 r args w := by
  intro cs pre r hg hp args w ha
  unfold gMod at hg
  split at hg
  · cases hg
    match args, ha with
    | [v], ha =>
      have h1 : v = .int .i64 1 := ha.1
      subst h1
      exact (rmod_some 1 FP fld1 w).mono fun e w' h => h
    | [], ha => exact ha.elim
    | _ :: _ :: _, ha => exact ha.2.elim
  · cases hg
/-- is the number below p? -/
def bl (n : Nat) : Bool := isB (wv n) FP.M
def gBel : Ent
  | [.v (.im (.int .i64 (.ofNat 1))), .v (.fl l)] => match rq1 l with
    | some n => some ([], .one (.im (.bool (bl n))))
    | none => none
  | _ => none
theorem bel_ok : ∀ cs pre r, gBel cs = some (pre, r) → allP pre → ∀ (args : List Value) (w : World), CAs w cs args → Good Try.prog 16 r args w := by
  intro cs pre r hg hp args w ha
  unfold gBel at hg
  split at hg
  · rename_i l
    split at hg
    · rename_i n hn
      cases hg
      match args, ha with
      | [v, u], ha =>
        have h1 : v = .int .i64 1 := ha.1
        have h2 : u = .agg (flat l).toArray := ha.2.1
        rw [rq1_ok l _ hn] at h2
        subst h1; subst h2
        exact rbelow_calls 1 FP fld1 _ _ _ _ (fw_ok n) w
      | [], ha => exact ha.elim
      | [_], ha => exact ha.2.elim
      | _ :: _ :: _ :: _, ha => exact ha.2.2.elim
    · cases hg
  · cases hg
noncomputable def T_r2Modulus (c : Bool) : Tab := (T_Exp12 c).add 6 gMod
theorem ok_r2Modulus (c : Bool) : TabOk Try.prog (T_r2Modulus c) := (ok_Exp12 c).add Try.func6 (by kernel_rfl) (by kernel_rfl) mod_ok
noncomputable def T_r2Below (c : Bool) : Tab := (T_r2Modulus c).add 16 gBel
theorem ok_r2Below (c : Bool) : TabOk Try.prog (T_r2Below c) := (ok_r2Modulus c).add Try.func16 (by kernel_rfl) (by kernel_rfl) bel_ok
/-- all parts below p? -/
def inP (x : N12) : Bool := bl x.1.1.1 && bl x.1.1.2 && bl x.1.2.1.1 && bl x.1.2.1.2 && bl x.1.2.2.1 && bl x.1.2.2.2 && bl x.2.1.1 && bl x.2.1.2 && bl x.2.2.1.1 && bl x.2.2.1.2 && bl x.2.2.2.1 && bl x.2.2.2.2
set_option maxRecDepth 100000 in
theorem run_below (c : Bool) (x : N12) : funB Try.prog qN (fun _ => ⟨fun _ => T_r2Below c, fun _ => true, fun s => bif Nat.beq s 36 || Nat.beq s 44 then some (.bool false) else none⟩) Try.f5 60 [.v (.fl (q12 x))] = some ([Value.bool (!(bl x.1.1.1)) = .bool false, Value.bool (!(bl x.1.1.2)) = .bool false, Value.bool (!(bl x.1.2.1.1)) = .bool false, Value.bool (!(bl x.1.2.1.2)) = .bool false, Value.bool (!(bl x.1.2.2.1)) = .bool false, Value.bool (!(bl x.1.2.2.2)) = .bool false, Value.bool (!(bl x.2.1.1)) = .bool false, Value.bool (!(bl x.2.1.2)) = .bool false, Value.bool (!(bl x.2.2.1.1)) = .bool false, Value.bool (!(bl x.2.2.1.2)) = .bool false, Value.bool (!(bl x.2.2.2.1)) = .bool false, Value.bool (!(bl x.2.2.2.2)) = .bool false], .one (.im (.bool true))) := by kernel_rfl
set_option maxRecDepth 100000 in
theorem run_below_0 (c : Bool) (x : N12) : funB Try.prog qN (fun m => ⟨fun _ => T_r2Below c, fun _ => true, fun s => bif Nat.beq m (49 - 0) && Nat.beq s 36 then some (.bool true) else bif Nat.beq s 36 || Nat.beq s 44 then some (.bool false) else none⟩) Try.f5 60 [.v (.fl (q12 x))] = some ([Value.bool (!(bl x.1.1.1)) = .bool true], .one (.im (.bool false))) := by kernel_rfl
set_option maxRecDepth 100000 in
theorem run_below_1 (c : Bool) (x : N12) : funB Try.prog qN (fun m => ⟨fun _ => T_r2Below c, fun _ => true, fun s => bif Nat.beq m (49 - 0) && Nat.beq s 44 then some (.bool true) else bif Nat.beq s 36 || Nat.beq s 44 then some (.bool false) else none⟩) Try.f5 60 [.v (.fl (q12 x))] = some ([Value.bool (!(bl x.1.1.1)) = .bool false, Value.bool (!(bl x.1.1.2)) = .bool true], .one (.im (.bool false))) := by kernel_rfl
set_option maxRecDepth 100000 in
theorem run_below_2 (c : Bool) (x : N12) : funB Try.prog qN (fun m => ⟨fun _ => T_r2Below c, fun _ => true, fun s => bif Nat.beq m (49 - 1) && Nat.beq s 36 then some (.bool true) else bif Nat.beq s 36 || Nat.beq s 44 then some (.bool false) else none⟩) Try.f5 60 [.v (.fl (q12 x))] = some ([Value.bool (!(bl x.1.1.1)) = .bool false, Value.bool (!(bl x.1.1.2)) = .bool false, Value.bool (!(bl x.1.2.1.1)) = .bool true], .one (.im (.bool false))) := by kernel_rfl
set_option maxRecDepth 100000 in
theorem run_below_3 (c : Bool) (x : N12) : funB Try.prog qN (fun m => ⟨fun _ => T_r2Below c, fun _ => true, fun s => bif Nat.beq m (49 - 1) && Nat.beq s 44 then some (.bool true) else bif Nat.beq s 36 || Nat.beq s 44 then some (.bool false) else none⟩) Try.f5 60 [.v (.fl (q12 x))] = some ([Value.bool (!(bl x.1.1.1)) = .bool false, Value.bool (!(bl x.1.1.2)) = .bool false, Value.bool (!(bl x.1.2.1.1)) = .bool false, Value.bool (!(bl x.1.2.1.2)) = .bool true], .one (.im (.bool false))) := by kernel_rfl
set_option maxRecDepth 100000 in
theorem run_below_4 (c : Bool) (x : N12) : funB Try.prog qN (fun m => ⟨fun _ => T_r2Below c, fun _ => true, fun s => bif Nat.beq m (49 - 2) && Nat.beq s 36 then some (.bool true) else bif Nat.beq s 36 || Nat.beq s 44 then some (.bool false) else none⟩) Try.f5 60 [.v (.fl (q12 x))] = some ([Value.bool (!(bl x.1.1.1)) = .bool false, Value.bool (!(bl x.1.1.2)) = .bool false, Value.bool (!(bl x.1.2.1.1)) = .bool false, Value.bool (!(bl x.1.2.1.2)) = .bool false, Value.bool (!(bl x.1.2.2.1)) = .bool true], .one (.im (.bool false))) := by kernel_rfl
set_option maxRecDepth 100000 in
theorem run_below_5 (c : Bool) (x : N12) : funB Try.prog qN (fun m => ⟨fun _ => T_r2Below c, fun _ => true, fun s => bif Nat.beq m (49 - 2) && Nat.beq s 44 then some (.bool true) else bif Nat.beq s 36 || Nat.beq s 44 then some (.bool false) else none⟩) Try.f5 60 [.v (.fl (q12 x))] = some ([Value.bool (!(bl x.1.1.1)) = .bool false, Value.bool (!(bl x.1.1.2)) = .bool false, Value.bool (!(bl x.1.2.1.1)) = .bool false, Value.bool (!(bl x.1.2.1.2)) = .bool false, Value.bool (!(bl x.1.2.2.1)) = .bool false, Value.bool (!(bl x.1.2.2.2)) = .bool true], .one (.im (.bool false))) := by kernel_rfl
set_option maxRecDepth 100000 in
theorem run_below_6 (c : Bool) (x : N12) : funB Try.prog qN (fun m => ⟨fun _ => T_r2Below c, fun _ => true, fun s => bif Nat.beq m (49 - 3) && Nat.beq s 36 then some (.bool true) else bif Nat.beq s 36 || Nat.beq s 44 then some (.bool false) else none⟩) Try.f5 60 [.v (.fl (q12 x))] = some ([Value.bool (!(bl x.1.1.1)) = .bool false, Value.bool (!(bl x.1.1.2)) = .bool false, Value.bool (!(bl x.1.2.1.1)) = .bool false, Value.bool (!(bl x.1.2.1.2)) = .bool false, Value.bool (!(bl x.1.2.2.1)) = .bool false, Value.bool (!(bl x.1.2.2.2)) = .bool false, Value.bool (!(bl x.2.1.1)) = .bool true], .one (.im (.bool false))) := by kernel_rfl
set_option maxRecDepth 100000 in
theorem run_below_7 (c : Bool) (x : N12) : funB Try.prog qN (fun m => ⟨fun _ => T_r2Below c, fun _ => true, fun s => bif Nat.beq m (49 - 3) && Nat.beq s 44 then some (.bool true) else bif Nat.beq s 36 || Nat.beq s 44 then some (.bool false) else none⟩) Try.f5 60 [.v (.fl (q12 x))] = some ([Value.bool (!(bl x.1.1.1)) = .bool false, Value.bool (!(bl x.1.1.2)) = .bool false, Value.bool (!(bl x.1.2.1.1)) = .bool false, Value.bool (!(bl x.1.2.1.2)) = .bool false, Value.bool (!(bl x.1.2.2.1)) = .bool false, Value.bool (!(bl x.1.2.2.2)) = .bool false, Value.bool (!(bl x.2.1.1)) = .bool false, Value.bool (!(bl x.2.1.2)) = .bool true], .one (.im (.bool false))) := by kernel_rfl
set_option maxRecDepth 100000 in
theorem run_below_8 (c : Bool) (x : N12) : funB Try.prog qN (fun m => ⟨fun _ => T_r2Below c, fun _ => true, fun s => bif Nat.beq m (49 - 4) && Nat.beq s 36 then some (.bool true) else bif Nat.beq s 36 || Nat.beq s 44 then some (.bool false) else none⟩) Try.f5 60 [.v (.fl (q12 x))] = some ([Value.bool (!(bl x.1.1.1)) = .bool false, Value.bool (!(bl x.1.1.2)) = .bool false, Value.bool (!(bl x.1.2.1.1)) = .bool false, Value.bool (!(bl x.1.2.1.2)) = .bool false, Value.bool (!(bl x.1.2.2.1)) = .bool false, Value.bool (!(bl x.1.2.2.2)) = .bool false, Value.bool (!(bl x.2.1.1)) = .bool false, Value.bool (!(bl x.2.1.2)) = .bool false, Value.bool (!(bl x.2.2.1.1)) = .bool true], .one (.im (.bool false))) := by kernel_rfl
set_option maxRecDepth 100000 in
theorem run_below_9 (c : Bool) (x : N12) : funB Try.prog qN (fun m => ⟨fun _ => T_r2Below c, fun _ => true, fun s => bif Nat.beq m (49 - 4) && Nat.beq s 44 then some (.bool true) else bif Nat.beq s 36 || Nat.beq s 44 then some (.bool false) else none⟩) Try.f5 60 [.v (.fl (q12 x))] = some ([Value.bool (!(bl x.1.1.1)) = .bool false, Value.bool (!(bl x.1.1.2)) = .bool false, Value.bool (!(bl x.1.2.1.1)) = .bool false, Value.bool (!(bl x.1.2.1.2)) = .bool false, Value.bool (!(bl x.1.2.2.1)) = .bool false, Value.bool (!(bl x.1.2.2.2)) = .bool false, Value.bool (!(bl x.2.1.1)) = .bool false, Value.bool (!(bl x.2.1.2)) = .bool false, Value.bool (!(bl x.2.2.1.1)) = .bool false, Value.bool (!(bl x.2.2.1.2)) = .bool true], .one (.im (.bool false))) := by kernel_rfl
set_option maxRecDepth 100000 in
theorem run_below_10 (c : Bool) (x : N12) : funB Try.prog qN (fun m => ⟨fun _ => T_r2Below c, fun _ => true, fun s => bif Nat.beq m (49 - 5) && Nat.beq s 36 then some (.bool true) else bif Nat.beq s 36 || Nat.beq s 44 then some (.bool false) else none⟩) Try.f5 60 [.v (.fl (q12 x))] = some ([Value.bool (!(bl x.1.1.1)) = .bool false, Value.bool (!(bl x.1.1.2)) = .bool false, Value.bool (!(bl x.1.2.1.1)) = .bool false, Value.bool (!(bl x.1.2.1.2)) = .bool false, Value.bool (!(bl x.1.2.2.1)) = .bool false, Value.bool (!(bl x.1.2.2.2)) = .bool false, Value.bool (!(bl x.2.1.1)) = .bool false, Value.bool (!(bl x.2.1.2)) = .bool false, Value.bool (!(bl x.2.2.1.1)) = .bool false, Value.bool (!(bl x.2.2.1.2)) = .bool false, Value.bool (!(bl x.2.2.2.1)) = .bool true], .one (.im (.bool false))) := by kernel_rfl
set_option maxRecDepth 100000 in
theorem run_below_11 (c : Bool) (x : N12) : funB Try.prog qN (fun m => ⟨fun _ => T_r2Below c, fun _ => true, fun s => bif Nat.beq m (49 - 5) && Nat.beq s 44 then some (.bool true) else bif Nat.beq s 36 || Nat.beq s 44 then some (.bool false) else none⟩) Try.f5 60 [.v (.fl (q12 x))] = some ([Value.bool (!(bl x.1.1.1)) = .bool false, Value.bool (!(bl x.1.1.2)) = .bool false, Value.bool (!(bl x.1.2.1.1)) = .bool false, Value.bool (!(bl x.1.2.1.2)) = .bool false, Value.bool (!(bl x.1.2.2.1)) = .bool false, Value.bool (!(bl x.1.2.2.2)) = .bool false, Value.bool (!(bl x.2.1.1)) = .bool false, Value.bool (!(bl x.2.1.2)) = .bool false, Value.bool (!(bl x.2.2.1.1)) = .bool false, Value.bool (!(bl x.2.2.1.2)) = .bool false, Value.bool (!(bl x.2.2.2.1)) = .bool false, Value.bool (!(bl x.2.2.2.2)) = .bool true], .one (.im (.bool false))) := by kernel_rfl
def gBelow : Ent
  | [.v (.fl l)] => match rq12 l with
    | some x => some ([], .one (.im (.bool (inP x))))
    | none => none
  | _ => none
theorem nb_t {b : Bool} (h : b = true) : Value.bool (!b) = .bool false := by rw [h]; rfl
theorem nb_f {b : Bool} (h : b = false) : Value.bool (!b) = .bool true := by rw [h]; rfl
theorem below_calls (c : Bool) (x : N12) (args : List Value) (w : World) (ha : CAs w [.v (.fl (q12 x))] args) : Good Try.prog 5 (.one (.im (.bool (inP x)))) args w := by
  cases h0 : bl x.1.1.1
  · have e : inP x = false := by unfold inP; rw [h0]; simp
    rw [e]
    exact funB_sound hmix (fun _ _ => ok_r2Below c) qN_ok Try.func5 (run_below_0 c x) ⟨nb_f h0, trivial⟩ ha
  · cases h1 : bl x.1.1.2
    · have e : inP x = false := by unfold inP; rw [h1]; simp
      rw [e]
      exact funB_sound hmix (fun _ _ => ok_r2Below c) qN_ok Try.func5 (run_below_1 c x) ⟨nb_t h0, nb_f h1, trivial⟩ ha
    · cases h2 : bl x.1.2.1.1
      · have e : inP x = false := by unfold inP; rw [h2]; simp
        rw [e]
        exact funB_sound hmix (fun _ _ => ok_r2Below c) qN_ok Try.func5 (run_below_2 c x) ⟨nb_t h0, nb_t h1, nb_f h2, trivial⟩ ha
      · cases h3 : bl x.1.2.1.2
        · have e : inP x = false := by unfold inP; rw [h3]; simp
          rw [e]
          exact funB_sound hmix (fun _ _ => ok_r2Below c) qN_ok Try.func5 (run_below_3 c x) ⟨nb_t h0, nb_t h1, nb_t h2, nb_f h3, trivial⟩ ha
        · cases h4 : bl x.1.2.2.1
          · have e : inP x = false := by unfold inP; rw [h4]; simp
            rw [e]
            exact funB_sound hmix (fun _ _ => ok_r2Below c) qN_ok Try.func5 (run_below_4 c x) ⟨nb_t h0, nb_t h1, nb_t h2, nb_t h3, nb_f h4, trivial⟩ ha
          · cases h5 : bl x.1.2.2.2
            · have e : inP x = false := by unfold inP; rw [h5]; simp
              rw [e]
              exact funB_sound hmix (fun _ _ => ok_r2Below c) qN_ok Try.func5 (run_below_5 c x) ⟨nb_t h0, nb_t h1, nb_t h2, nb_t h3, nb_t h4, nb_f h5, trivial⟩ ha
            · cases h6 : bl x.2.1.1
              · have e : inP x = false := by unfold inP; rw [h6]; simp
                rw [e]
                exact funB_sound hmix (fun _ _ => ok_r2Below c) qN_ok Try.func5 (run_below_6 c x) ⟨nb_t h0, nb_t h1, nb_t h2, nb_t h3, nb_t h4, nb_t h5, nb_f h6, trivial⟩ ha
              · cases h7 : bl x.2.1.2
                · have e : inP x = false := by unfold inP; rw [h7]; simp
                  rw [e]
                  exact funB_sound hmix (fun _ _ => ok_r2Below c) qN_ok Try.func5 (run_below_7 c x) ⟨nb_t h0, nb_t h1, nb_t h2, nb_t h3, nb_t h4, nb_t h5, nb_t h6, nb_f h7, trivial⟩ ha
                · cases h8 : bl x.2.2.1.1
                  · have e : inP x = false := by unfold inP; rw [h8]; simp
                    rw [e]
                    exact funB_sound hmix (fun _ _ => ok_r2Below c) qN_ok Try.func5 (run_below_8 c x) ⟨nb_t h0, nb_t h1, nb_t h2, nb_t h3, nb_t h4, nb_t h5, nb_t h6, nb_t h7, nb_f h8, trivial⟩ ha
                  · cases h9 : bl x.2.2.1.2
                    · have e : inP x = false := by unfold inP; rw [h9]; simp
                      rw [e]
                      exact funB_sound hmix (fun _ _ => ok_r2Below c) qN_ok Try.func5 (run_below_9 c x) ⟨nb_t h0, nb_t h1, nb_t h2, nb_t h3, nb_t h4, nb_t h5, nb_t h6, nb_t h7, nb_t h8, nb_f h9, trivial⟩ ha
                    · cases h10 : bl x.2.2.2.1
                      · have e : inP x = false := by unfold inP; rw [h10]; simp
                        rw [e]
                        exact funB_sound hmix (fun _ _ => ok_r2Below c) qN_ok Try.func5 (run_below_10 c x) ⟨nb_t h0, nb_t h1, nb_t h2, nb_t h3, nb_t h4, nb_t h5, nb_t h6, nb_t h7, nb_t h8, nb_t h9, nb_f h10, trivial⟩ ha
                      · cases h11 : bl x.2.2.2.2
                        · have e : inP x = false := by unfold inP; rw [h11]; simp
                          rw [e]
                          exact funB_sound hmix (fun _ _ => ok_r2Below c) qN_ok Try.func5 (run_below_11 c x) ⟨nb_t h0, nb_t h1, nb_t h2, nb_t h3, nb_t h4, nb_t h5, nb_t h6, nb_t h7, nb_t h8, nb_t h9, nb_t h10, nb_f h11, trivial⟩ ha
                        · have e : inP x = true := by unfold inP; rw [h0, h1, h2, h3, h4, h5, h6, h7, h8, h9, h10, h11]; rfl
                          rw [e]
                          exact funB_sound hmix (fun _ _ => ok_r2Below c) qN_ok Try.func5 (run_below c x) ⟨nb_t h0, nb_t h1, nb_t h2, nb_t h3, nb_t h4, nb_t h5, nb_t h6, nb_t h7, nb_t h8, nb_t h9, nb_t h10, nb_t h11, trivial⟩ ha
theorem rq12_v : Rdv rq12 q12 (fun n => n) := fun l n h => ⟨n, rq12_ok l n h, rfl⟩
noncomputable def T_below (c : Bool) : Tab := (T_r2Below c).add 5 (g1 rq12 fun x => ([], .one (.im (.bool (inP x)))))
theorem ok_below (c : Bool) : TabOk Try.prog (T_below c) := (ok_r2Below c).add Try.func5 (by kernel_rfl) (by kernel_rfl) (g1v_ok rq12_v fun x hp args w ha => below_calls c x args w ha)
set_option maxRecDepth 100000 in
theorem run_fr1 (x y : N12) (n : Int) : funB Try.prog qT (fun _ => ⟨fun _ => T_below true, fun _ => true, fun s => bif Nat.beq s 14 then some (.bool false) else bif Nat.beq s 19 then some (.bool false) else none⟩) Try.f3 60 [.v (.fl (q12 x)), .v (.fl (q12 y)), .v (.im (.int .i64 n))] = some ([Value.bool (!(inP x)) = .bool false, Value.bool (!(inP y)) = .bool false, flat (e12 (it12 (rest12N n).toNat (F12.mul (m12 x) (m12 y)))) = flat (e12 (F12.mul (m12 (nv12 (it12 (rest12N n).toNat (m12 x)))) (m12 (nv12 (it12 (rest12N n).toNat (m12 y)))))), flat (e12 (it12 (rest12N (IntKind.i64.wrap (12 - rest12N n))).toNat (it12 (rest12N (rest12N n)).toNat (m12 x)))) = flat (q12 x), flat (e12 (it12 (rest12N 6).toNat (m12 x))) = flat (e12 (cj12 (m12 x))), flat (e12 (it12 (rest12N 1).toNat (m12 x))) = flat (e12 (pwK F12 (m12 x) (wv FP.M)))], .one (.im (.bool true))) := by kernel_rfl
set_option maxRecDepth 100000 in
theorem run_fr2 (x y : N12) (n : Int) : funB Try.prog qT (fun _ => ⟨fun _ => T_below true, fun _ => true, fun s => bif Nat.beq s 14 then some (.bool true) else bif Nat.beq s 19 then some (.bool false) else none⟩) Try.f3 60 [.v (.fl (q12 x)), .v (.fl (q12 y)), .v (.im (.int .i64 n))] = some ([Value.bool (!(inP x)) = .bool true], .one (.im (.bool true))) := by kernel_rfl
set_option maxRecDepth 100000 in
theorem run_fr3 (x y : N12) (n : Int) : funB Try.prog qT (fun _ => ⟨fun _ => T_below true, fun _ => true, fun s => bif Nat.beq s 14 then some (.bool false) else bif Nat.beq s 19 then some (.bool true) else none⟩) Try.f3 60 [.v (.fl (q12 x)), .v (.fl (q12 y)), .v (.im (.int .i64 n))] = some ([Value.bool (!(inP x)) = .bool false, Value.bool (!(inP y)) = .bool true], .one (.im (.bool true))) := by kernel_rfl
theorem it_mul (k : Nat) (x y : Q12) : it12 k (F12.mul x y) = F12.mul (it12 k x) (it12 k y) := by
  induction k with
  | zero => rfl
  | succ k ih => show on12 (it12 k (F12.mul x y)) = _; rw [ih, on12_mul]; rfl
theorem it_twelve (x : Q12) : it12 12 x = x := by
  rw [show (12 : Nat) = 6 + 6 from rfl, it_comm, it_six, it_six]
  refine Prod.ext rfl ?_
  show F6.add F6.zero (F6.neg (F6.add F6.zero (F6.neg x.2))) = x.2
  rw [F6.zero_add, F6.zero_add, F6.neg_neg]
theorem bl_in {n : Nat} (h : bl n = true) : w4 (m1 n).1 = w4 n := by
  have hv : wv n < FP.M := of_decide_eq_true h
  show w4 (wv n % FP.M) = w4 n
  rw [Nat.mod_eq_of_lt hv]
  obtain ⟨a, b, c, d⟩ := fw_of (s0 := fw n 0) (s1 := fw n 1) (s2 := fw n 2) (s3 := fw n 3) (fw_ok n) (fp_lt hv) rfl
  unfold w4
  rw [← a, ← b, ← c, ← d]
theorem inP_flat {x : N12} (h : inP x = true) : flat (e12 (m12 x)) = flat (q12 x) := by
  unfold inP at h
  simp only [Bool.and_eq_true] at h
  obtain ⟨⟨⟨⟨⟨⟨⟨⟨⟨⟨⟨h0, h1⟩, h2⟩, h3⟩, h4⟩, h5⟩, h6⟩, h7⟩, h8⟩, h9⟩, h10⟩, h11⟩ := h
  show w4 (m1 _).1 ++ (w4 (m1 _).1 ++ (w4 (m1 _).1 ++ (w4 (m1 _).1 ++ (w4 (m1 _).1 ++ (w4 (m1 _).1 ++ (w4 (m1 _).1 ++ (w4 (m1 _).1 ++ (w4 (m1 _).1 ++ (w4 (m1 _).1 ++ (w4 (m1 _).1 ++ (w4 (m1 _).1 ++ []))))))))))) = _
  rw [bl_in h0, bl_in h1, bl_in h2, bl_in h3, bl_in h4, bl_in h5, bl_in h6, bl_in h7, bl_in h8, bl_in h9, bl_in h10, bl_in h11]
  rfl
theorem rest_rest (n : Int) : rest12N (rest12N n) = rest12N n := by
  obtain ⟨_, h0, h1⟩ := rest12N_eq n
  obtain ⟨e, _⟩ := rest12N_eq (rest12N n)
  rw [e, Int.tmod_eq_of_lt h0 h1, Int.add_comm, Int.tmod_eq_emod_of_nonneg (by omega)]
  omega
theorem rest_less (n : Int) : (rest12N (IntKind.i64.wrap (12 - rest12N n))).toNat + (rest12N n).toNat = 12 ∨ ((rest12N (IntKind.i64.wrap (12 - rest12N n))).toNat = 0 ∧ (rest12N n).toNat = 0) := by
  obtain ⟨_, h0, h1⟩ := rest12N_eq n
  rw [i64_small _ (by omega) (by omega)]
  obtain ⟨e, _⟩ := rest12N_eq (12 - rest12N n)
  rw [e, Int.tmod_eq_emod_of_nonneg (show 0 ≤ 12 - rest12N n by omega), Int.tmod_eq_emod_of_nonneg (by omega)]
  omega
theorem frob_calls (x y : N12) (n : Int) (w : World) : Calls Try.prog 3 #[.agg (flat (q12 x)).toArray, .agg (flat (q12 y)).toArray, .int .i64 n] w (fun e w' => e = .returned (.bool true) ∧ Below w.heap.size w w') := by
  have ha : CAs w [.v (.fl (q12 x)), .v (.fl (q12 y)), .v (.im (.int .i64 n))] [.agg (flat (q12 x)).toArray, .agg (flat (q12 y)).toArray, .int .i64 n] := ⟨rfl, rfl, rfl, trivial⟩
  cases hx : inP x
  · exact funB_sound hmix (fun _ _ => ok_below true) qT_ok Try.func3 (run_fr2 x y n) ⟨nb_f hx, trivial⟩ ha
  · cases hy : inP y
    · exact funB_sound hmix (fun _ _ => ok_below true) qT_ok Try.func3 (run_fr3 x y n) ⟨nb_t hx, nb_f hy, trivial⟩ ha
    · refine funB_sound hmix (fun _ _ => ok_below true) qT_ok Try.func3 (run_fr1 x y n) ⟨nb_t hx, nb_t hy, ?_, ?_, ?_, ?_, trivial⟩ ha
      · rw [m12_nv, m12_nv, it_mul]
      · rw [rest_rest, ← it_comm, ← inP_flat hx]
        rcases rest_less n with h | ⟨h, k⟩
        · rw [h, it_twelve]
        · rw [h, k]; rfl
      · rw [show (rest12N 6).toNat = 6 by decide, it_six]
      · rw [show (rest12N 1).toNat = 1 by decide, show wv FP.M = FP.M from fw_val (by decide), p12]
        rfl
end Go.Proofs.Ytgacpjmggdmgdaa.Ex
namespace Go.Proofs.Ytgacpjmggdmgdaa
set_option linter.unusedVariables false
open Go.ChangeShapes Go.WideShapes Go.ChangeAt Go.RowKit

theorem own : ownKnob Try.prog.godebug = none := by kernel_rfl
theorem laidOut : laidOutB Try.prog = true := by kernel_rfl

theorem u64_cells : Try.prog.cellsOf 22 = 1 := by kernel_rfl
theorem list4 {α : Type} (l : List α) (h : (⟨l⟩ : Array α).size = 4) : ∃ a b c d, l = [a, b, c, d] := by
  match l, h with
  | [a, b, c, d], _ => exact ⟨a, b, c, d, rfl⟩

theorem nat_of_wf {n : Int} (h : (Lit.int .u64 n).wf = true) : ∃ k : Nat, n = (k : Int) ∧ k < 18446744073709551616 := by
  obtain ⟨h1, h2⟩ := bounds_u64 h
  obtain ⟨k, rfl⟩ := Int.eq_ofNat_of_zero_le h1
  exact ⟨k, rfl, by omega⟩

/-- An argument of four words: of whatever program. -/
theorem open_word' {P : Program} {H : Type} {enc : TypeId × Value → H} {W : World} {base : Nat} {t e : TypeId} {v : Value} {d : DataW H} {ps : List MemPlace} (ht : P.underlying t = some (.array 4 e)) (he : P.underlying e = some (.int .u64)) (ct : P.cellsOf t = 4) (ce : P.cellsOf e = 1)
    {pt : Array TypeId} {args : Array Value} (hval : ∀ (j : Nat) t v, pt[j]? = some t → args[j]? = some v → Value.okWide P W .any base t v) (j : Nat) (hj : pt[j]? = some t) (ha : args[j]? = some v) (h : DataW.Trod enc P W 0 (fun _ => true) true t v d ps) :
    ∃ a0 a1 a2 a3 : Nat, v = .agg #[.int .u64 a0, .int .u64 a1, .int .u64 a2, .int .u64 a3] ∧ ok4 a0 a1 a2 a3 := by
  obtain ⟨cs, rfl, hsz, _⟩ : ∃ cs, v = .agg cs ∧ cs.size = P.cellsOf t ∧ Row.okWide P W .any base t cs := by
    simpa [Value.okWide, ht] using hval j t v hj ha
  rw [ct] at hsz
  obtain ⟨l⟩ := cs
  obtain ⟨c0, c1, c2, c3, rfl⟩ := list4 l hsz
  obtain ⟨fuel, hf⟩ := h
  obtain ⟨y0, y1, y2, y3, m, hx, hy0, hy1, hy2, hy3⟩ := trod_array4 ht ce hf
  obtain ⟨x0, e0, rfl, w0⟩ := DataW.trod_int he hy0
  obtain ⟨x1, e1, rfl, w1⟩ := DataW.trod_int he hy1
  obtain ⟨x2, e2, rfl, w2⟩ := DataW.trod_int he hy2
  obtain ⟨x3, e3, rfl, w3⟩ := DataW.trod_int he hy3
  simp at e0 e1 e2 e3
  obtain ⟨a0, rfl, k0⟩ := nat_of_wf w0
  obtain ⟨a1, rfl, k1⟩ := nat_of_wf w1
  obtain ⟨a2, rfl, k2⟩ := nat_of_wf w2
  obtain ⟨a3, rfl, k3⟩ := nat_of_wf w3
  subst e0 e1 e2 e3
  exact ⟨a0, a1, a2, a3, rfl, k0, k1, k2, k3⟩
theorem word_cells : Try.prog.cellsOf 33 = 4 := by kernel_rfl
theorem fe_cells : Try.prog.cellsOf 24 = 4 := by kernel_rfl
end Go.Proofs.Ytgacpjmggdmgdaa
namespace Go.Proofs.Ytgacpjmggdmgdaa.Ex
set_option linter.unusedVariables false
set_option linter.unusedSimpArgs false
open Go.Deep Go.ChangeShapes Go.WideShapes Go.ChangeAt Go.RowKit

theorem agg_of {P : Program} {W : World} {base : Nat} {t : TypeId} {fs : Array Field} {v : Value} (ht : P.underlying t = some (.struct fs)) (h : Value.okWide P W .any base t v) : ∃ cs, v = .agg cs := by
  obtain ⟨cs, rfl, _⟩ : ∃ cs, v = .agg cs ∧ cs.size = P.cellsOf t ∧ Row.okWide P W .any base t cs := by
    simpa [Value.okWide, ht] using h
  exact ⟨cs, rfl⟩
theorem agg_ofA {P : Program} {W : World} {base : Nat} {t n e : TypeId} {v : Value} (ht : P.underlying t = some (.array n e)) (h : Value.okWide P W .any base t v) : ∃ cs, v = .agg cs := by
  obtain ⟨cs, rfl, _⟩ : ∃ cs, v = .agg cs ∧ cs.size = P.cellsOf t ∧ Row.okWide P W .any base t cs := by
    simpa [Value.okWide, ht] using h
  exact ⟨cs, rfl⟩
section
variable {H : Type} {enc : TypeId × Value → H} {W : World}
theorem c24 : Try.prog.cellsOf 24 = 4 := by kernel_rfl
theorem c26 : Try.prog.cellsOf 26 = 8 := by kernel_rfl
theorem c28 : Try.prog.cellsOf 28 = 24 := by kernel_rfl
theorem c30 : Try.prog.cellsOf 30 = 48 := by kernel_rfl
theorem op_fe {fuel : Nat} {cs : List Value} {x : DataW H × List MemPlace} (hl : cs.length = 4) (h : DataW.trod enc Try.prog W 0 (fun _ => true) true fuel 24 cs = some x) : ∃ n : Nat, cs = flat (q1 n) := by
  obtain ⟨c0, c1, c2, c3, rfl⟩ := list4 cs hl
  obtain ⟨y0, y1, y2, y3, m, hx, hy0, hy1, hy2, hy3⟩ := trod_array4 Try.underlying24 u64_cells h
  obtain ⟨x0, e0, rfl, w0⟩ := DataW.trod_int Try.underlying22 hy0
  obtain ⟨x1, e1, rfl, w1⟩ := DataW.trod_int Try.underlying22 hy1
  obtain ⟨x2, e2, rfl, w2⟩ := DataW.trod_int Try.underlying22 hy2
  obtain ⟨x3, e3, rfl, w3⟩ := DataW.trod_int Try.underlying22 hy3
  simp at e0 e1 e2 e3
  obtain ⟨a0, rfl, k0⟩ := nat_of_wf w0
  obtain ⟨a1, rfl, k1⟩ := nat_of_wf w1
  obtain ⟨a2, rfl, k2⟩ := nat_of_wf w2
  obtain ⟨a3, rfl, k3⟩ := nat_of_wf w3
  subst e0 e1 e2 e3
  have hv : val4 a0 a1 a2 a3 < 115792089237316195423570985008687907853269984665640564039457584007913129639936 := by unfold val4; omega
  obtain ⟨q0, q1', q2', q3⟩ := fw_of ⟨k0, k1, k2, k3⟩ hv rfl
  refine ⟨val4 a0 a1 a2 a3, ?_⟩
  show _ = w4 (val4 a0 a1 a2 a3)
  unfold w4
  rw [← q0, ← q1', ← q2', ← q3]
theorem op_e2 {fuel : Nat} {cs : List Value} {x : DataW H × List MemPlace} (h : DataW.trod enc Try.prog W 0 (fun _ => true) true fuel 26 cs = some x) : ∃ n : N2, cs = flat (q2 n) := by
  obtain ⟨y0, y1, n, _, hl, h0, h1⟩ := trod_struct2 Try.underlying26 h
  rw [c26] at hl
  simp only [c24] at h0 h1
  obtain ⟨a, ha⟩ := op_fe (by simp [hl]) h0
  obtain ⟨b, hb⟩ := op_fe (by simp [hl]) h1
  refine ⟨(a, b), ?_⟩
  rw [List.drop_zero] at ha
  rw [List.take_of_length_le (by simp [hl])] at hb
  show cs = w4 a ++ (w4 b ++ [])
  rw [List.append_nil, ← List.take_append_drop 4 cs]
  congr 1
  all_goals first | exact ha.trans (List.append_nil _) | exact hb.trans (List.append_nil _)
theorem op_e6 {fuel : Nat} {cs : List Value} {x : DataW H × List MemPlace} (h : DataW.trod enc Try.prog W 0 (fun _ => true) true fuel 28 cs = some x) : ∃ n : N6, cs = flat (q6 n) := by
  obtain ⟨y0, y1, y2, n, _, hl, h0, h1, h2⟩ := trod_struct3 Try.underlying28 h
  rw [c28] at hl
  simp only [c26] at h0 h1 h2
  obtain ⟨a, ha⟩ := op_e2 h0
  obtain ⟨b, hb⟩ := op_e2 h1
  obtain ⟨c, hc⟩ := op_e2 h2
  refine ⟨(a, b, c), ?_⟩
  rw [List.drop_zero] at ha
  rw [List.take_of_length_le (by simp [hl])] at hc
  have e : flat (q6 (a, b, c)) = flat (q2 a) ++ (flat (q2 b) ++ flat (q2 c)) := by rw [← flat_append, ← flat_append]; rfl
  rw [e, ← ha, ← hb, ← hc, ← List.take_append_drop 8 cs]
  congr 1
  · simp
  · conv => lhs; rw [← List.take_append_drop 8 (List.drop 8 cs), List.drop_drop]
    simp
theorem op_e12 {fuel : Nat} {cs : List Value} {x : DataW H × List MemPlace} (h : DataW.trod enc Try.prog W 0 (fun _ => true) true fuel 30 cs = some x) : ∃ n : N12, cs = flat (q12 n) := by
  obtain ⟨y0, y1, n, _, hl, h0, h1⟩ := trod_struct2 Try.underlying30 h
  rw [c30] at hl
  simp only [c28] at h0 h1
  obtain ⟨a, ha⟩ := op_e6 h0
  obtain ⟨b, hb⟩ := op_e6 h1
  refine ⟨(a, b), ?_⟩
  rw [List.drop_zero] at ha
  rw [List.take_of_length_le (by simp [hl])] at hb
  have e : flat (q12 (a, b)) = flat (q6 a) ++ flat (q6 b) := by rw [← flat_append]; rfl
  rw [e, ← ha, ← hb, List.take_append_drop]
theorem op_w {fuel : Nat} {cs : List Value} {x : DataW H × List MemPlace} (hl : cs.length = 4) (h : DataW.trod enc Try.prog W 0 (fun _ => true) true fuel 33 cs = some x) : ∃ n : Nat, cs = flat (q1 n) := by
  obtain ⟨c0, c1, c2, c3, rfl⟩ := list4 cs hl
  obtain ⟨y0, y1, y2, y3, m, hx, hy0, hy1, hy2, hy3⟩ := trod_array4 Try.underlying33 u64_cells h
  obtain ⟨x0, e0, rfl, w0⟩ := DataW.trod_int Try.underlying22 hy0
  obtain ⟨x1, e1, rfl, w1⟩ := DataW.trod_int Try.underlying22 hy1
  obtain ⟨x2, e2, rfl, w2⟩ := DataW.trod_int Try.underlying22 hy2
  obtain ⟨x3, e3, rfl, w3⟩ := DataW.trod_int Try.underlying22 hy3
  simp at e0 e1 e2 e3
  obtain ⟨a0, rfl, k0⟩ := nat_of_wf w0
  obtain ⟨a1, rfl, k1⟩ := nat_of_wf w1
  obtain ⟨a2, rfl, k2⟩ := nat_of_wf w2
  obtain ⟨a3, rfl, k3⟩ := nat_of_wf w3
  subst e0 e1 e2 e3
  have hv : val4 a0 a1 a2 a3 < 115792089237316195423570985008687907853269984665640564039457584007913129639936 := by unfold val4; omega
  obtain ⟨q0, q1', q2', q3⟩ := fw_of ⟨k0, k1, k2, k3⟩ hv rfl
  refine ⟨val4 a0 a1 a2 a3, ?_⟩
  show _ = w4 (val4 a0 a1 a2 a3)
  unfold w4
  rw [← q0, ← q1', ← q2', ← q3]
set_option maxRecDepth 100000 in
theorem open_w {base : Nat} {v : Value} {d : DataW H} {ps : List MemPlace} {pt : Array TypeId} {args : Array Value} (hval : ∀ (j : Nat) t v, pt[j]? = some t → args[j]? = some v → Value.okWide Try.prog W .any base t v) (j : Nat) (hj : pt[j]? = some 33) (ha : args[j]? = some v)
    (h : DataW.Trod enc Try.prog W 0 (fun _ => true) true 33 v d ps) : ∃ x : Nat, v = .agg (flat (q1 x)).toArray := by
  have hv := hval j 33 v hj ha
  obtain ⟨cs, rfl⟩ := agg_ofA (t := 33) Try.underlying33 hv
  obtain ⟨fuel, hf⟩ := h
  obtain ⟨l⟩ := cs
  have hl : l.length = 4 := by
    obtain ⟨cs', e, hs, _⟩ : ∃ cs, Value.agg ⟨l⟩ = .agg cs ∧ cs.size = Try.prog.cellsOf 33 ∧ Row.okWide Try.prog W .any base 33 cs := by
      simpa [Value.okWide, Try.underlying33] using hv
    cases e
    rw [show Try.prog.cellsOf 33 = 4 by kernel_rfl] at hs
    exact hs
  obtain ⟨x, hx⟩ := op_w hl hf
  subst hx
  exact ⟨x, rfl⟩
set_option maxRecDepth 100000 in
theorem open_e12 {base : Nat} {v : Value} {d : DataW H} {ps : List MemPlace} {pt : Array TypeId} {args : Array Value} (hval : ∀ (j : Nat) t v, pt[j]? = some t → args[j]? = some v → Value.okWide Try.prog W .any base t v) (j : Nat) (hj : pt[j]? = some 30) (ha : args[j]? = some v)
    (h : DataW.Trod enc Try.prog W 0 (fun _ => true) true 30 v d ps) : ∃ x : N12, v = .agg (flat (q12 x)).toArray := by
  have hv := hval j 30 v hj ha
  obtain ⟨cs, rfl⟩ := agg_of (t := 30) Try.underlying30 hv
  obtain ⟨fuel, hf⟩ := h
  obtain ⟨l⟩ := cs
  obtain ⟨x, hx⟩ := op_e12 hf
  subst hx
  exact ⟨x, rfl⟩
set_option maxRecDepth 100000 in
theorem open_e2 {base : Nat} {v : Value} {d : DataW H} {ps : List MemPlace} {pt : Array TypeId} {args : Array Value} (hval : ∀ (j : Nat) t v, pt[j]? = some t → args[j]? = some v → Value.okWide Try.prog W .any base t v) (j : Nat) (hj : pt[j]? = some 26) (ha : args[j]? = some v)
    (h : DataW.Trod enc Try.prog W 0 (fun _ => true) true 26 v d ps) : ∃ x : N2, v = .agg (flat (q2 x)).toArray := by
  have hv := hval j 26 v hj ha
  obtain ⟨cs, rfl⟩ := agg_of (t := 26) Try.underlying26 hv
  obtain ⟨fuel, hf⟩ := h
  obtain ⟨l⟩ := cs
  obtain ⟨x, hx⟩ := op_e2 hf
  subst hx
  exact ⟨x, rfl⟩
set_option maxRecDepth 100000 in
theorem open_e6 {base : Nat} {v : Value} {d : DataW H} {ps : List MemPlace} {pt : Array TypeId} {args : Array Value} (hval : ∀ (j : Nat) t v, pt[j]? = some t → args[j]? = some v → Value.okWide Try.prog W .any base t v) (j : Nat) (hj : pt[j]? = some 28) (ha : args[j]? = some v)
    (h : DataW.Trod enc Try.prog W 0 (fun _ => true) true 28 v d ps) : ∃ x : N6, v = .agg (flat (q6 x)).toArray := by
  have hv := hval j 28 v hj ha
  obtain ⟨cs, rfl⟩ := agg_of (t := 28) Try.underlying28 hv
  obtain ⟨fuel, hf⟩ := h
  obtain ⟨l⟩ := cs
  obtain ⟨x, hx⟩ := op_e6 hf
  subst hx
  exact ⟨x, rfl⟩
end
end Go.Proofs.Ytgacpjmggdmgdaa.Ex
namespace Go.Proofs.Ytgacpjmggdmgdaa
set_option linter.unusedVariables false
open Go.ChangeShapes Go.WideShapes Go.ChangeAt Go.RowKit

set_option maxRecDepth 100000 in
theorem towerfrobenius_lifted (os : Os) (started : os.Started) (H : Type) (enc : TypeId × Value → H) :
    ReturnsInHanded {} Try.checked os 3 .any (Rows.towerFrobeniusSpec.pre6 enc Try.prog Try.f3 Rows.towerFrobeniusRow.domain false) (Rows.towerFrobeniusSpec.post enc Try.prog Try.f3 false true false false) := by
  refine returnsInHanded_of_change (C := Try.checked) own started (by kernel_rfl) Try.func3
    (ChangeSpec.witness6 (enc := enc) (C := Try.checked) false ⟨#[], #[.agg #[.int .u64 0, .int .u64 0, .int .u64 0, .int .u64 0, .int .u64 0, .int .u64 0, .int .u64 0, .int .u64 0, .int .u64 0, .int .u64 0, .int .u64 0, .int .u64 0, .int .u64 0, .int .u64 0, .int .u64 0, .int .u64 0, .int .u64 0, .int .u64 0, .int .u64 0, .int .u64 0, .int .u64 0, .int .u64 0, .int .u64 0, .int .u64 0, .int .u64 0, .int .u64 0, .int .u64 0, .int .u64 0, .int .u64 0, .int .u64 0, .int .u64 0, .int .u64 0, .int .u64 0, .int .u64 0, .int .u64 0, .int .u64 0, .int .u64 0, .int .u64 0, .int .u64 0, .int .u64 0, .int .u64 0, .int .u64 0, .int .u64 0, .int .u64 0, .int .u64 0, .int .u64 0, .int .u64 0, .int .u64 0], .agg #[.int .u64 0, .int .u64 0, .int .u64 0, .int .u64 0, .int .u64 0, .int .u64 0, .int .u64 0, .int .u64 0, .int .u64 0, .int .u64 0, .int .u64 0, .int .u64 0, .int .u64 0, .int .u64 0, .int .u64 0, .int .u64 0, .int .u64 0, .int .u64 0, .int .u64 0, .int .u64 0, .int .u64 0, .int .u64 0, .int .u64 0, .int .u64 0, .int .u64 0, .int .u64 0, .int .u64 0, .int .u64 0, .int .u64 0, .int .u64 0, .int .u64 0, .int .u64 0, .int .u64 0, .int .u64 0, .int .u64 0, .int .u64 0, .int .u64 0, .int .u64 0, .int .u64 0, .int .u64 0, .int .u64 0, .int .u64 0, .int .u64 0, .int .u64 0, .int .u64 0, .int .u64 0, .int .u64 0, .int .u64 0], .int .i64 0], []⟩ 8 (by kernel_rfl) (by kernel_rfl) (by kernel_rfl) (by kernel_rfl)) ?_
  intro W base args ds gs before hval0 hW hcnd _
  have hval : ∀ (j : Nat) t v, Try.f3.params[j]? = some t → args[j]? = some v → Value.okWide Try.prog W .any base t v := hval0
  have hW' := hW
  obtain ⟨p, q, hA0, hV, rfl, hfz, hnd⟩ := hW
  have hA : DataW.TrodAll enc Try.prog W 0 (fun _ => true) true Try.f3.params.toList args.toList ds p := hA0
  rw [Try.params3] at hA hval
  obtain ⟨v0, v1, v2, d0, d1, d2, p0, p1, p2, rfl, rfl, rfl, h0, h1, h2⟩ := trodAll_three hA
  obtain ⟨rfl, rfl⟩ := trodVars_none hV
  obtain ⟨x, rfl⟩ := Ex.open_e12 hval 0 rfl rfl h0
  obtain ⟨y, rfl⟩ := Ex.open_e12 hval 1 rfl rfl h1
  obtain ⟨z, rfl, rfl, rfl, gz⟩ := open_int Try.underlying3 (hval 2 _ _ rfl rfl) h2
  clear hA0 hval0
  simp only [List.append_nil] at hW'
  have l0 : ∀ x ∈ p0, x.block < W.heap.size := fun x hx => hW'.lt x (by simp [hx])
  have l1 : ∀ x ∈ p1, x.block < W.heap.size := fun x hx => hW'.lt x (by simp [hx])
  have l2 : ∀ x ∈ ([] : List MemPlace), x.block < W.heap.size := fun x hx => by cases hx
  refine (Ex.frob_calls x y z W).mono fun e W' ⟨he, hbl⟩ => ?_
  subst he
  have kT : ∀ {v d ps}, DataW.Trod enc Try.prog W 0 (fun _ => true) true 30 v d ps → (∀ x ∈ ps, x.block < W.heap.size) → DataW.Trod enc Try.prog W' 0 (fun b => decide (b < W.heap.size)) true 30 v d ps :=
    fun h l => Below.trod laidOut (by kernel_rfl) (of_decide_eq_true (by kernel_rfl)) h hbl l
  have ki : ∀ {v d ps}, DataW.Trod enc Try.prog W 0 (fun _ => true) true 3 v d ps → (∀ x ∈ ps, x.block < W.heap.size) → DataW.Trod enc Try.prog W' 0 (fun b => decide (b < W.heap.size)) true 3 v d ps :=
    fun h l => Below.trod laidOut (by kernel_rfl) (of_decide_eq_true (by kernel_rfl)) h hbl l
  exact ⟨_, rfl, ⟨_, _, _, [], _, [], hW', trodAll_mk1 (shut_bool Try.underlying4 _), trodAll_mk3 (kT h0 l0) (kT h1 l1) (ki h2 l2), rfl, hbl.frame _, fun h => by cases h⟩⟩

theorem towerfrobenius_holds : Rows.TowerFrobeniusSaid :=
  OpenClaim.holds_of_wide 3 Try.f3 rfl rfl rfl rfl rfl rfl rfl ⟨rfl, rfl, rfl, rfl, rfl⟩ rfl rfl rfl rfl rfl (by kernel_rfl) Try.func3 (by kernel_rfl)
    (of_decide_eq_true (by kernel_rfl)) (by unfold Func.isWrapper; first | (rw [if_pos (by decide +kernel)]; kernel_rfl) | (rw [if_neg (by decide +kernel)]; exact ⟨rfl, rfl⟩))
    (fun os started H enc _ => towerfrobenius_lifted os started H enc)
#print axioms towerfrobenius_holds
end Go.Proofs.Ytgacpjmggdmgdaa
