/-
  Frobenius' maps in a table of calls. Conditions: none.
  Powers in Fp12, by any number. Conditions: none.
-/
import Derived.Test.YtgacpjmggdmgdaaGreatTwLaw
import Derived.Test.YtgacpjmggdmgdaaGreatTwFr
import Derived.IntWalk
import Derived.Test.YtgacpjmggdmgdaaGreatBits
import Derived.Test.YtgacpjmggdmgdaaGreatLen
import Derived.Test.YtgacpjmggdmgdaaGreatExec
namespace Go.Proofs.YtgacpjmggdmgdaaGreat.Ex
set_option linter.unusedVariables false
set_option linter.unusedSimpArgs false
open Go.RowKit
set_option maxRecDepth 100000 in
theorem run_turnsOnce (c : Bool)  : funA Tryz.prog (T_alive c) qN (fun _ => true) Tryz.f114 60 [] = some ([], .one (.fl [.f tn0.1, .f tn0.2, .f tn1.1, .f tn1.2, .f tn2.1, .f tn2.2, .f tn3.1, .f tn3.2, .f tn4.1, .f tn4.2, .f tn5.1, .f tn5.2])) := by kernel_rfl
noncomputable def T_turnsOnce (c : Bool) : Tab := (T_alive c).add 114 (g0 (.one (.fl [.f tn0.1, .f tn0.2, .f tn1.1, .f tn1.2, .f tn2.1, .f tn2.2, .f tn3.1, .f tn3.2, .f tn4.1, .f tn4.2, .f tn5.1, .f tn5.2])))
theorem ok_turnsOnce (c : Bool) : TabOk Tryz.prog (T_turnsOnce c) := (ok_alive c).add Tryz.func114 (by kernel_rfl) (by kernel_rfl) (g0_ok fun w => fun_sound hmix (ok_alive c) qN_ok Tryz.func114 (run_turnsOnce c) trivial (args := []) trivial)
set_option maxRecDepth 100000 in
theorem run_turnsTwice (c : Bool)  : funA Tryz.prog (T_turnsOnce c) qN (fun _ => true) Tryz.f113 60 [] = some ([], .one (.fl [.f sn0, .f sn1, .f sn2, .f sn3, .f sn4, .f sn5])) := by kernel_rfl
noncomputable def T_turnsTwice (c : Bool) : Tab := (T_turnsOnce c).add 113 (g0 (.one (.fl [.f sn0, .f sn1, .f sn2, .f sn3, .f sn4, .f sn5])))
theorem ok_turnsTwice (c : Bool) : TabOk Tryz.prog (T_turnsTwice c) := (ok_turnsOnce c).add Tryz.func113 (by kernel_rfl) (by kernel_rfl) (g0_ok fun w => fun_sound hmix (ok_turnsOnce c) qN_ok Tryz.func113 (run_turnsTwice c) trivial (args := []) trivial)
set_option maxRecDepth 100000 in
theorem run_once (c : Bool) (x : Q12) : funA Tryz.prog (T_turnsTwice c) qN (fun _ => true) Tryz.f73 80 [.v (.fl (e12 x))] = some ([], .one (.fl (e12 (on12 x)))) := by kernel_rfl
noncomputable def T_once (c : Bool) : Tab := (T_turnsTwice c).add 73 (g1 rd12 fun x => ([], .one (.fl (e12 (on12 x)))))
theorem ok_once (c : Bool) : TabOk Tryz.prog (T_once c) := (ok_turnsTwice c).add Tryz.func73 (by kernel_rfl) (by kernel_rfl) (g1_ok rd12_ok fun x hp args w ha => fun_sound hmix (ok_turnsTwice c) qN_ok Tryz.func73 (run_once c x) hp ha)
set_option maxRecDepth 100000 in
theorem run_twice (c : Bool) (x : Q12) : funA Tryz.prog (T_once c) qN (fun _ => true) Tryz.f72 80 [.v (.fl (e12 x))] = some ([], .one (.fl (e12 (tw12 x)))) := by kernel_rfl
noncomputable def T_twice (c : Bool) : Tab := (T_once c).add 72 (g1 rd12 fun x => ([], .one (.fl (e12 (tw12 x)))))
theorem ok_twice (c : Bool) : TabOk Tryz.prog (T_twice c) := (ok_once c).add Tryz.func72 (by kernel_rfl) (by kernel_rfl) (g1_ok rd12_ok fun x hp args w ha => fun_sound hmix (ok_once c) qN_ok Tryz.func72 (run_twice c x) hp ha)
theorem sq_id1 {R : Type} (K : CR R) (a b v : R) : K.add (K.mul a a) (K.mul v (K.mul b b)) = K.sub (K.sub (K.mul (K.add a b) (K.add a (K.mul v b))) (K.mul a b)) (K.mul v (K.mul a b)) :=
  ring_id K (envL K [a, b, v]) (.add (.mul (.v 0) (.v 0)) (.mul (.v 2) (.mul (.v 1) (.v 1)))) (.add (.add (.mul (.add (.v 0) (.v 1)) (.add (.v 0) (.mul (.v 2) (.v 1)))) (.neg (.mul (.v 0) (.v 1)))) (.neg (.mul (.v 2) (.mul (.v 0) (.v 1))))) (by decide)
theorem sq_id2 {R : Type} (K : CR R) (a b : R) : K.add (K.mul a b) (K.mul b a) = K.add (K.mul a b) (K.mul a b) := by rw [K.mul_comm b a]
set_option maxRecDepth 100000 in
theorem run_square (c : Bool) (x : Q12) : funA Tryz.prog (T_twice c) qN (fun _ => true) Tryz.f70 60 [.v (.fl (e12 x))] = some ([], .one (.fl (e12 ((F6.sub (F6.sub (F6.mul (F6.add x.1 x.2) (F6.add x.1 (F6.mul vE x.2))) (F6.mul x.1 x.2)) (F6.mul vE (F6.mul x.1 x.2)), F6.add (F6.mul x.1 x.2) (F6.mul x.1 x.2)))))) := by kernel_rfl
theorem raw_square (x : Q12) : F12.mul x x = (F6.sub (F6.sub (F6.mul (F6.add x.1 x.2) (F6.add x.1 (F6.mul vE x.2))) (F6.mul x.1 x.2)) (F6.mul vE (F6.mul x.1 x.2)), F6.add (F6.mul x.1 x.2) (F6.mul x.1 x.2)) := by
  exact Prod.ext (sq_id1 F6 x.1 x.2 vE) (sq_id2 F6 x.1 x.2)
noncomputable def T_square (c : Bool) : Tab := (T_twice c).add 70 (g1 rd12 fun x => ([], .one (.fl (e12 (F12.mul x x)))))
theorem ok_square (c : Bool) : TabOk Tryz.prog (T_square c) := (ok_twice c).add Tryz.func70 (by kernel_rfl) (by kernel_rfl) (g1_ok rd12_ok fun x hp args w ha => by show Good _ _ (.one (.fl (e12 (F12.mul x x)))) _ _; rw [raw_square]; exact fun_sound hmix (ok_twice c) qN_ok Tryz.func70 (run_square c x) hp ha)
/-- the rest that Frob12 reckons of n -/
def rest12N (n : Int) : Int := (IntKind.i64.wrap (n.tmod 12 + 12)).tmod 12
/-- so often to the p -/
def it12 : Nat → Q12 → Q12
  | 0, x => x
  | n + 1, x => on12 (it12 n x)
set_option maxRecDepth 100000 in
theorem run_frob_0 (c : Bool) (x : N12) (n : Int) : funB Tryz.prog qN (fun _ => ⟨fun _ => T_square c, fun _ => true, fun s => bif Nat.beq s 9 then some (.int .i64 0) else none⟩) Tryz.f32 60 [.v (.fl (q12 x)), .v (.im (.int .i64 n))] = some ([intOp .rem .i64 (IntKind.i64.wrap (n.tmod 12 + 12)) 12 = some (.int .i64 0)], .one (.fl (e12 (m12 x)))) := by kernel_rfl
set_option maxRecDepth 100000 in
theorem run_frob_1 (c : Bool) (x : N12) (n : Int) : funB Tryz.prog qN (fun _ => ⟨fun _ => T_square c, fun _ => true, fun s => bif Nat.beq s 9 then some (.int .i64 1) else none⟩) Tryz.f32 60 [.v (.fl (q12 x)), .v (.im (.int .i64 n))] = some ([intOp .rem .i64 (IntKind.i64.wrap (n.tmod 12 + 12)) 12 = some (.int .i64 1)], .one (.fl (e12 (on12 (m12 x))))) := by kernel_rfl
set_option maxRecDepth 100000 in
theorem run_frob_2 (c : Bool) (x : N12) (n : Int) : funB Tryz.prog qN (fun _ => ⟨fun _ => T_square c, fun _ => true, fun s => bif Nat.beq s 9 then some (.int .i64 2) else none⟩) Tryz.f32 60 [.v (.fl (q12 x)), .v (.im (.int .i64 n))] = some ([intOp .rem .i64 (IntKind.i64.wrap (n.tmod 12 + 12)) 12 = some (.int .i64 2)], .one (.fl (e12 (tw12 (m12 x))))) := by kernel_rfl
set_option maxRecDepth 100000 in
theorem run_frob_3 (c : Bool) (x : N12) (n : Int) : funB Tryz.prog qN (fun _ => ⟨fun _ => T_square c, fun _ => true, fun s => bif Nat.beq s 9 then some (.int .i64 3) else none⟩) Tryz.f32 60 [.v (.fl (q12 x)), .v (.im (.int .i64 n))] = some ([intOp .rem .i64 (IntKind.i64.wrap (n.tmod 12 + 12)) 12 = some (.int .i64 3)], .one (.fl (e12 (on12 (tw12 (m12 x)))))) := by kernel_rfl
set_option maxRecDepth 100000 in
theorem run_frob_4 (c : Bool) (x : N12) (n : Int) : funB Tryz.prog qN (fun _ => ⟨fun _ => T_square c, fun _ => true, fun s => bif Nat.beq s 9 then some (.int .i64 4) else none⟩) Tryz.f32 60 [.v (.fl (q12 x)), .v (.im (.int .i64 n))] = some ([intOp .rem .i64 (IntKind.i64.wrap (n.tmod 12 + 12)) 12 = some (.int .i64 4)], .one (.fl (e12 (tw12 (tw12 (m12 x)))))) := by kernel_rfl
set_option maxRecDepth 100000 in
theorem run_frob_5 (c : Bool) (x : N12) (n : Int) : funB Tryz.prog qN (fun _ => ⟨fun _ => T_square c, fun _ => true, fun s => bif Nat.beq s 9 then some (.int .i64 5) else none⟩) Tryz.f32 60 [.v (.fl (q12 x)), .v (.im (.int .i64 n))] = some ([intOp .rem .i64 (IntKind.i64.wrap (n.tmod 12 + 12)) 12 = some (.int .i64 5)], .one (.fl (e12 (on12 (tw12 (tw12 (m12 x))))))) := by kernel_rfl
set_option maxRecDepth 100000 in
theorem run_frob_6 (c : Bool) (x : N12) (n : Int) : funB Tryz.prog qN (fun _ => ⟨fun _ => T_square c, fun _ => true, fun s => bif Nat.beq s 9 then some (.int .i64 6) else none⟩) Tryz.f32 60 [.v (.fl (q12 x)), .v (.im (.int .i64 n))] = some ([intOp .rem .i64 (IntKind.i64.wrap (n.tmod 12 + 12)) 12 = some (.int .i64 6)], .one (.fl (e12 (cj12 (m12 x))))) := by kernel_rfl
set_option maxRecDepth 100000 in
theorem run_frob_7 (c : Bool) (x : N12) (n : Int) : funB Tryz.prog qN (fun _ => ⟨fun _ => T_square c, fun _ => true, fun s => bif Nat.beq s 9 then some (.int .i64 7) else none⟩) Tryz.f32 60 [.v (.fl (q12 x)), .v (.im (.int .i64 n))] = some ([intOp .rem .i64 (IntKind.i64.wrap (n.tmod 12 + 12)) 12 = some (.int .i64 7)], .one (.fl (e12 (on12 (cj12 (m12 x)))))) := by kernel_rfl
set_option maxRecDepth 100000 in
theorem run_frob_8 (c : Bool) (x : N12) (n : Int) : funB Tryz.prog qN (fun _ => ⟨fun _ => T_square c, fun _ => true, fun s => bif Nat.beq s 9 then some (.int .i64 8) else none⟩) Tryz.f32 60 [.v (.fl (q12 x)), .v (.im (.int .i64 n))] = some ([intOp .rem .i64 (IntKind.i64.wrap (n.tmod 12 + 12)) 12 = some (.int .i64 8)], .one (.fl (e12 (tw12 (cj12 (m12 x)))))) := by kernel_rfl
set_option maxRecDepth 100000 in
theorem run_frob_9 (c : Bool) (x : N12) (n : Int) : funB Tryz.prog qN (fun _ => ⟨fun _ => T_square c, fun _ => true, fun s => bif Nat.beq s 9 then some (.int .i64 9) else none⟩) Tryz.f32 60 [.v (.fl (q12 x)), .v (.im (.int .i64 n))] = some ([intOp .rem .i64 (IntKind.i64.wrap (n.tmod 12 + 12)) 12 = some (.int .i64 9)], .one (.fl (e12 (on12 (tw12 (cj12 (m12 x))))))) := by kernel_rfl
set_option maxRecDepth 100000 in
theorem run_frob_10 (c : Bool) (x : N12) (n : Int) : funB Tryz.prog qN (fun _ => ⟨fun _ => T_square c, fun _ => true, fun s => bif Nat.beq s 9 then some (.int .i64 10) else none⟩) Tryz.f32 60 [.v (.fl (q12 x)), .v (.im (.int .i64 n))] = some ([intOp .rem .i64 (IntKind.i64.wrap (n.tmod 12 + 12)) 12 = some (.int .i64 10)], .one (.fl (e12 (tw12 (tw12 (cj12 (m12 x))))))) := by kernel_rfl
set_option maxRecDepth 100000 in
theorem run_frob_11 (c : Bool) (x : N12) (n : Int) : funB Tryz.prog qN (fun _ => ⟨fun _ => T_square c, fun _ => true, fun s => bif Nat.beq s 9 then some (.int .i64 11) else none⟩) Tryz.f32 60 [.v (.fl (q12 x)), .v (.im (.int .i64 n))] = some ([intOp .rem .i64 (IntKind.i64.wrap (n.tmod 12 + 12)) 12 = some (.int .i64 11)], .one (.fl (e12 (on12 (tw12 (tw12 (cj12 (m12 x)))))))) := by kernel_rfl
def gFrob : Ent
  | [.v (.fl l), .v (.im (.int .i64 n))] => match rv12 l with
    | some x => some ([], .one (.fl (e12 (it12 (rest12N n).toNat x))))
    | none => none
  | _ => none
theorem it_tw (k : Nat) (x : Q12) : it12 (k + 2) x = tw12 (it12 k x) := on_on _
theorem it_six (x : Q12) : it12 6 x = cj12 x := by rw [it_tw 4, it_tw 2, it_tw 0, ← tw_three]; rfl
theorem it_comm (m : Nat) : ∀ (n : Nat) (x : Q12), it12 (n + m) x = it12 n (it12 m x)
  | 0, x => by rw [Nat.zero_add]; rfl
  | n + 1, x => by rw [show n + 1 + m = (n + m) + 1 by omega]; show on12 (it12 (n + m) x) = on12 (it12 n (it12 m x)); rw [it_comm m n x]
theorem it_is0 (x : Q12) : it12 0 x = x := rfl
theorem it_is1 (x : Q12) : it12 1 x = (on12 x) := rfl
theorem it_is2 (x : Q12) : it12 2 x = (tw12 x) := by rw [it_tw 0]; rfl
theorem it_is3 (x : Q12) : it12 3 x = (on12 (tw12 x)) := by show on12 (it12 2 x) = _; rw [it_tw 0]; rfl
theorem it_is4 (x : Q12) : it12 4 x = (tw12 (tw12 x)) := by rw [it_tw 2, it_tw 0]; rfl
theorem it_is5 (x : Q12) : it12 5 x = (on12 (tw12 (tw12 x))) := by show on12 (it12 4 x) = _; rw [it_tw 2, it_tw 0]; rfl
theorem it_is6 (x : Q12) : it12 6 x = (cj12 x) := by rw [show (6 : Nat) = 0 + 6 from rfl, it_comm, it_six]; exact it_is0 _
theorem it_is7 (x : Q12) : it12 7 x = (on12 (cj12 x)) := by rw [show (7 : Nat) = 1 + 6 from rfl, it_comm, it_six]; exact it_is1 _
theorem it_is8 (x : Q12) : it12 8 x = (tw12 (cj12 x)) := by rw [show (8 : Nat) = 2 + 6 from rfl, it_comm, it_six]; exact it_is2 _
theorem it_is9 (x : Q12) : it12 9 x = (on12 (tw12 (cj12 x))) := by rw [show (9 : Nat) = 3 + 6 from rfl, it_comm, it_six]; exact it_is3 _
theorem it_is10 (x : Q12) : it12 10 x = (tw12 (tw12 (cj12 x))) := by rw [show (10 : Nat) = 4 + 6 from rfl, it_comm, it_six]; exact it_is4 _
theorem it_is11 (x : Q12) : it12 11 x = (on12 (tw12 (tw12 (cj12 x)))) := by rw [show (11 : Nat) = 5 + 6 from rfl, it_comm, it_six]; exact it_is5 _
theorem intOp_rem {n : Int} {k : Int} (h : rest12N n = k) : intOp .rem .i64 (IntKind.i64.wrap (n.tmod 12 + 12)) 12 = some (.int .i64 k) := by
  show some (Value.int .i64 ((IntKind.i64.wrap (n.tmod 12 + 12)).tmod 12)) = _
  rw [show (IntKind.i64.wrap (n.tmod 12 + 12)).tmod 12 = k from h]
theorem tmod_lt (n : Int) : -12 < n.tmod 12 ∧ n.tmod 12 < 12 := by
  constructor
  · exact Int.lt_tmod_of_pos n (by omega)
  · exact Int.tmod_lt_of_pos n (by omega)
theorem rest12N_eq (n : Int) : rest12N n = (n.tmod 12 + 12).tmod 12 ∧ 0 ≤ rest12N n ∧ rest12N n < 12 := by
  have h := tmod_lt n
  have e : IntKind.i64.wrap (n.tmod 12 + 12) = n.tmod 12 + 12 := IntWalk.i64_in _ (by omega)
  unfold rest12N
  rw [e]
  exact ⟨rfl, Int.tmod_nonneg 12 (by omega), Int.tmod_lt_of_pos _ (by omega)⟩
theorem frob_ok (c : Bool) : ∀ cs pre r, gFrob cs = some (pre, r) → allP pre → ∀ (args : List Value) (w : World), CAs w cs args → Good Tryz.prog 32 r args w := by
  intro cs pre r hg hp args w ha
  unfold gFrob at hg
  split at hg
  · rename_i l n
    split at hg
    · rename_i x hx
      cases hg
      obtain ⟨a, e1, rfl⟩ := rv12_ok l x hx
      have ha' : CAs w [.v (.fl (q12 a)), .v (.im (.int .i64 n))] args := by
        match args, ha with
        | [v, u], ha =>
          refine ⟨?_, ha.2.1, trivial⟩
          show v = .agg (flat (q12 a)).toArray
          rw [← e1]
          exact ha.1
        | [], ha => exact ha.elim
        | [_], ha => exact ha.2.elim
        | _ :: _ :: _ :: _, ha => exact ha.2.2.elim
      obtain ⟨_, h0, h1⟩ := rest12N_eq n
      have hk : (rest12N n).toNat = 0 ∨ (rest12N n).toNat = 1 ∨ (rest12N n).toNat = 2 ∨ (rest12N n).toNat = 3 ∨ (rest12N n).toNat = 4 ∨ (rest12N n).toNat = 5 ∨ (rest12N n).toNat = 6 ∨ (rest12N n).toNat = 7 ∨ (rest12N n).toNat = 8 ∨ (rest12N n).toNat = 9 ∨ (rest12N n).toNat = 10 ∨ (rest12N n).toNat = 11 := by omega
      rcases hk with h | h | h | h | h | h | h | h | h | h | h | h
      · rw [h, it_is0]
        exact funB_sound hmix (fun _ _ => ok_square c) qN_ok Tryz.func32 (run_frob_0 c a n) ⟨intOp_rem (by omega), trivial⟩ ha'
      · rw [h, it_is1]
        exact funB_sound hmix (fun _ _ => ok_square c) qN_ok Tryz.func32 (run_frob_1 c a n) ⟨intOp_rem (by omega), trivial⟩ ha'
      · rw [h, it_is2]
        exact funB_sound hmix (fun _ _ => ok_square c) qN_ok Tryz.func32 (run_frob_2 c a n) ⟨intOp_rem (by omega), trivial⟩ ha'
      · rw [h, it_is3]
        exact funB_sound hmix (fun _ _ => ok_square c) qN_ok Tryz.func32 (run_frob_3 c a n) ⟨intOp_rem (by omega), trivial⟩ ha'
      · rw [h, it_is4]
        exact funB_sound hmix (fun _ _ => ok_square c) qN_ok Tryz.func32 (run_frob_4 c a n) ⟨intOp_rem (by omega), trivial⟩ ha'
      · rw [h, it_is5]
        exact funB_sound hmix (fun _ _ => ok_square c) qN_ok Tryz.func32 (run_frob_5 c a n) ⟨intOp_rem (by omega), trivial⟩ ha'
      · rw [h, it_is6]
        exact funB_sound hmix (fun _ _ => ok_square c) qN_ok Tryz.func32 (run_frob_6 c a n) ⟨intOp_rem (by omega), trivial⟩ ha'
      · rw [h, it_is7]
        exact funB_sound hmix (fun _ _ => ok_square c) qN_ok Tryz.func32 (run_frob_7 c a n) ⟨intOp_rem (by omega), trivial⟩ ha'
      · rw [h, it_is8]
        exact funB_sound hmix (fun _ _ => ok_square c) qN_ok Tryz.func32 (run_frob_8 c a n) ⟨intOp_rem (by omega), trivial⟩ ha'
      · rw [h, it_is9]
        exact funB_sound hmix (fun _ _ => ok_square c) qN_ok Tryz.func32 (run_frob_9 c a n) ⟨intOp_rem (by omega), trivial⟩ ha'
      · rw [h, it_is10]
        exact funB_sound hmix (fun _ _ => ok_square c) qN_ok Tryz.func32 (run_frob_10 c a n) ⟨intOp_rem (by omega), trivial⟩ ha'
      · rw [h, it_is11]
        exact funB_sound hmix (fun _ _ => ok_square c) qN_ok Tryz.func32 (run_frob_11 c a n) ⟨intOp_rem (by omega), trivial⟩ ha'
    · cases hg
  · cases hg
noncomputable def T_Frob12 (c : Bool) : Tab := (T_square c).add 32 gFrob
theorem ok_Frob12 (c : Bool) : TabOk Tryz.prog (T_Frob12 c) := (ok_square c).add Tryz.func32 (by kernel_rfl) (by kernel_rfl) (frob_ok c)
set_option maxRecDepth 100000 in
theorem run_Conj12 (c : Bool) (x : N12) : funA Tryz.prog (T_Frob12 c) qN (fun _ => true) Tryz.f30 40 [.v (.fl (q12 x))] = some ([], .one (.fl (e12 (cj12 (m12 x))))) := by kernel_rfl
noncomputable def T_Conj12 (c : Bool) : Tab := (T_Frob12 c).add 30 (g1 rv12 (fun x => ([], .one (.fl (e12 (cj12 x))))))
theorem ok_Conj12 (c : Bool) : TabOk Tryz.prog (T_Conj12 c) := (ok_Frob12 c).add Tryz.func30 (by kernel_rfl) (by kernel_rfl) (g1v_ok rv12_ok fun x hp args w ha => fun_sound hmix (ok_Frob12 c) qN_ok Tryz.func30 (run_Conj12 c x) hp ha)
end Go.Proofs.YtgacpjmggdmgdaaGreat.Ex
namespace Go.Proofs.YtgacpjmggdmgdaaGreat.Ex
set_option linter.unusedVariables false
set_option linter.unusedSimpArgs false
open Go.RowKit

/-- a number's length -/
def lenF (n : Nat) : Nat := if wv n = 0 then 0 else Nat.log2 (wv n) + 1
theorem lenF_is (n : Nat) : LenIs (wv n) (lenF n) := by
  unfold lenF
  by_cases h : wv n = 0
  · rw [if_pos h, h]; exact ⟨by decide, fun h => by cases h⟩
  · rw [if_neg h]
    exact ⟨Nat.lt_log2_self, fun _ => by rw [Nat.add_sub_cancel]; exact Nat.log2_self_le h⟩
theorem wv_lt (n : Nat) : wv n < 2 ^ 256 := by
  obtain ⟨h0, h1, h2, h3⟩ := fw_ok n
  unfold wv val4
  have : (2 : Nat) ^ 256 = 115792089237316195423570985008687907853269984665640564039457584007913129639936 := by decide
  omega
theorem lenF_le (n : Nat) : lenF n ≤ 256 := by
  rcases Nat.lt_or_ge 256 (lenF n) with h | h
  · have h1 := (lenF_is n).2 (by omega)
    have h2 := Nat.pow_le_pow_right (show 0 < 2 by omega) (show 256 ≤ lenF n - 1 by omega)
    have := wv_lt n
    omega
  · exact h
def gLen : Ent
  | [.v (.fl l)] => match rq1 l with
    | some n => some ([], .one (.im (.int .i64 (lenF n : Nat))))
    | none => none
  | _ => none
theorem len_ok : ∀ cs pre r, gLen cs = some (pre, r) → allP pre → ∀ (args : List Value) (w : World), CAs w cs args → Good Tryz.prog 126 r args w := by
  intro cs pre r hg hp args w ha
  unfold gLen at hg
  split at hg
  · rename_i l
    split at hg
    · rename_i n hn
      cases hg
      rw [args1 ha, rq1_ok l _ hn]
      refine (len_calls _ _ _ _ (fw_ok n) w).mono ?_
      rintro e w' ⟨L, rfl, _, h, hbl⟩
      cases h.uniq (lenF_is n)
      exact ⟨rfl, hbl⟩
    · cases hg
  · cases hg
def gBit : Ent
  | [.v (.fl l), .v (.im (.int .i64 (.ofNat i)))] => match rq1 l with
    | some n => some ([i < 256], .one (.im (.int .i64 (bitOf (wv n) i : Nat))))
    | none => none
  | _ => none
theorem bit_ok : ∀ cs pre r, gBit cs = some (pre, r) → allP pre → ∀ (args : List Value) (w : World), CAs w cs args → Good Tryz.prog 127 r args w := by
  intro cs pre r hg hp args w ha
  unfold gBit at hg
  split at hg
  · rename_i l i
    split at hg
    · rename_i n hn
      cases hg
      match args, ha with
      | [v, u], ha =>
        have h1 : v = .agg (flat l).toArray := ha.1
        have h2 : u = .int .i64 (Int.ofNat i) := ha.2.1
        rw [rq1_ok l _ hn] at h1
        subst h1; subst h2
        exact bit_in _ _ _ _ i (fw_ok n) hp.1 w
      | [], ha => exact ha.elim
      | [_], ha => exact ha.2.elim
      | _ :: _ :: _ :: _, ha => exact ha.2.2.elim
    · cases hg
  · cases hg

noncomputable def T_Len (c : Bool) : Tab := (T_Conj12 c).add 126 gLen
theorem ok_Len (c : Bool) : TabOk Tryz.prog (T_Len c) := (ok_Conj12 c).add Tryz.func126 (by kernel_rfl) (by kernel_rfl) len_ok
noncomputable def T_Bit (c : Bool) : Tab := (T_Len c).add 127 gBit
theorem ok_Bit (c : Bool) : TabOk Tryz.prog (T_Bit c) := (ok_Len c).add Tryz.func127 (by kernel_rfl) (by kernel_rfl) bit_ok
def z12 : List At := e12 F12.zero
/-- what is known at the head of the loop -/
def pwF (x : Q12) (n L i : Nat) (r : Q12) : List Fact := [.slot 2 (.pt 2 0), .row 2 true (e12 x), .slot 3 (.pt 3 0), .row 3 true (q1 n), .slot 4 (.pt 4 0), .row 4 true z12, .slot 5 (.pt 5 0), .row 5 true (e12 r), .slot 6 (.im (.int .i64 (L : Nat))), .slot 11 (.im (.int .i64 (L : Nat))), .slot 12 (.im (.int .i64 (i : Nat)))]
noncomputable def pwC (c : Bool) (i j : Nat) (b : Bool) (_ : Nat) : Cfg := ⟨fun _ => T_Bit c, fun _ => true, fun s => bif Nat.beq s 13 then some (.bool true) else bif Nat.beq s 21 then some (.int .i64 (Int.ofNat j)) else bif Nat.beq s 23 then some (.bool b) else bif Nat.beq s 27 then some (.int .i64 ((i + 1 : Nat) : Int)) else none⟩
noncomputable def pwE (c : Bool) (_ : Nat) : Cfg := ⟨fun _ => T_Bit c, fun _ => true, fun s => bif Nat.beq s 13 then some (.bool false) else none⟩
noncomputable def pwCode : Code := (Tryz.f78.body).getD .skip
noncomputable def pwLoop : Code := cIn (cIn (cB (cA (cB (cB (cB pwCode))))))
set_option maxRecDepth 100000 in
theorem pw_one (c : Bool) (x r r2 : Q12) (n L i j : Nat) : runK Tryz.prog qN Tryz.f78.ntmps (pwC c i j true) 40 pwLoop (pwF x n L i r) (pwF x n L (i + 1) r2) = some ([intOp .lss .i64 (i : Nat) (L : Nat) = some (.bool true), intOp .sub .i64 (IntKind.i64.wrap ((L : Nat) - 1)) (i : Nat) = some (.int .i64 (Int.ofNat j)), j < 256, intOp .eql .i64 (bitOf (wv n) j : Nat) 1 = some (.bool true), intOp .add .i64 (i : Nat) 1 = some (.int .i64 ((i + 1 : Nat) : Int))], .nrm, pwF x n L (i + 1) (F12.mul (F12.mul r r) x)) := by kernel_rfl
set_option maxRecDepth 100000 in
theorem pw_zero (c : Bool) (x r r2 : Q12) (n L i j : Nat) : runK Tryz.prog qN Tryz.f78.ntmps (pwC c i j false) 40 pwLoop (pwF x n L i r) (pwF x n L (i + 1) r2) = some ([intOp .lss .i64 (i : Nat) (L : Nat) = some (.bool true), intOp .sub .i64 (IntKind.i64.wrap ((L : Nat) - 1)) (i : Nat) = some (.int .i64 (Int.ofNat j)), j < 256, intOp .eql .i64 (bitOf (wv n) j : Nat) 1 = some (.bool false), intOp .add .i64 (i : Nat) 1 = some (.int .i64 ((i + 1 : Nat) : Int))], .nrm, pwF x n L (i + 1) (F12.mul r r)) := by kernel_rfl
set_option maxRecDepth 100000 in
theorem pw_end (c : Bool) (x r : Q12) (n L i : Nat) : runK Tryz.prog qN Tryz.f78.ntmps (pwE c) 40 pwLoop (pwF x n L i r) (pwF x n L i r) = some ([intOp .lss .i64 (i : Nat) (L : Nat) = some (.bool false)], .ex 0, pwF x n L i r) := by kernel_rfl

theorem i64_small (k : Int) (h0 : -1000 < k) (h1 : k < 1000) : IntKind.i64.wrap k = k := IntWalk.i64_in _ (by omega)
theorem lss_t {i L : Nat} (h : i < L) : intOp .lss .i64 (i : Nat) (L : Nat) = some (.bool true) := by
  show some (Value.bool (decide ((i : Int) < (L : Int)))) = _
  rw [decide_eq_true (by omega)]
theorem lss_f (L : Nat) : intOp .lss .i64 (L : Nat) (L : Nat) = some (.bool false) := by
  show some (Value.bool (decide ((L : Int) < (L : Int)))) = _
  rw [decide_eq_false (by omega)]
theorem sub_t {i L : Nat} (h : i < L) (hL : L ≤ 256) : intOp .sub .i64 (IntKind.i64.wrap ((L : Nat) - 1)) (i : Nat) = some (.int .i64 (Int.ofNat (L - 1 - i))) := by
  show some (Value.int .i64 (IntKind.i64.wrap (IntKind.i64.wrap ((L : Int) - 1) - (i : Int)))) = _
  have e1 : IntKind.i64.wrap ((L : Int) - 1) = (L : Int) - 1 := i64_small _ (by omega) (by omega)
  rw [e1, i64_small _ (by omega) (by omega), show (L : Int) - 1 - (i : Int) = Int.ofNat (L - 1 - i) by show _ = ((L - 1 - i : Nat) : Int); omega]
theorem eql_b (v : Nat) (b : Bool) (h : v = if b then 1 else 0) : intOp .eql .i64 (v : Nat) 1 = some (.bool b) := by
  subst h
  cases b <;> rfl
theorem add_t {i : Nat} (h : i < 256) : intOp .add .i64 (i : Nat) 1 = some (.int .i64 ((i + 1 : Nat) : Int)) := by
  show some (Value.int .i64 (IntKind.i64.wrap ((i : Int) + 1))) = _
  rw [i64_small _ (by omega) (by omega)]
  rfl
/-- what the highest i bits make -/
theorem top_step (n i : Nat) (h : i < lenF n) : wv n / 2 ^ (lenF n - (i + 1)) = 2 * (wv n / 2 ^ (lenF n - i)) + bitOf (wv n) (lenF n - 1 - i) := by
  have e : lenF n - i = (lenF n - (i + 1)) + 1 := by omega
  have e2 : lenF n - 1 - i = lenF n - (i + 1) := by omega
  unfold bitOf
  rw [e, e2, Nat.pow_succ, ← Nat.div_div_eq_div_mul]
  omega
def pwR (x : Q12) (n i : Nat) : Q12 := pwK F12 x (wv n / 2 ^ (lenF n - i))
theorem pwR_0 (x : Q12) (n : Nat) : pwR x n 0 = F12.one := by
  unfold pwR
  rw [Nat.sub_zero, Nat.div_eq_of_lt (lenF_is n).1]
  rfl
theorem pwR_end (x : Q12) (n : Nat) : pwR x n (lenF n) = pwK F12 x (wv n) := by
  unfold pwR
  rw [Nat.sub_self, Nat.pow_zero, Nat.div_one]
theorem pwR_step (x : Q12) (n i : Nat) (h : i < lenF n) (b : Bool) (hb : bitOf (wv n) (lenF n - 1 - i) = if b then 1 else 0) : pwR x n (i + 1) = bif b then F12.mul (F12.mul (pwR x n i) (pwR x n i)) x else F12.mul (pwR x n i) (pwR x n i) := by
  have h2 : F12.mul (pwR x n i) (pwR x n i) = pwK F12 x (2 * (wv n / 2 ^ (lenF n - i))) := by unfold pwR; rw [← pwK_add, Nat.two_mul]
  rw [h2]
  unfold pwR
  rw [top_step n i h, hb]
  cases b <;> rfl
theorem pw_round (c : Bool) (x : Q12) (n i : Nat) (h : i < lenF n) : ∃ b, ∃ ps, runK Tryz.prog qN Tryz.f78.ntmps (pwC c i (lenF n - 1 - i) b) 40 pwLoop (pwF x n (lenF n) i (pwR x n i)) (pwF x n (lenF n) (i + 1) (pwR x n (i + 1))) = some (ps, .nrm, pwF x n (lenF n) (i + 1) (pwR x n (i + 1))) ∧ allP ps := by
  have hL := lenF_le n
  rcases bitOf_01 (wv n) (lenF n - 1 - i) with hb | hb
  · have hz := pw_zero c x (pwR x n i) (pwR x n (i + 1)) n (lenF n) i (lenF n - 1 - i)
    rw [show F12.mul (pwR x n i) (pwR x n i) = pwR x n (i + 1) from (pwR_step x n i h false hb).symm] at hz
    exact ⟨false, _, hz, lss_t h, sub_t h hL, by omega, eql_b _ false hb, add_t (by omega), trivial⟩
  · have hz := pw_one c x (pwR x n i) (pwR x n (i + 1)) n (lenF n) i (lenF n - 1 - i)
    rw [show F12.mul (F12.mul (pwR x n i) (pwR x n i)) x = pwR x n (i + 1) from (pwR_step x n i h true hb).symm] at hz
    exact ⟨true, _, hz, lss_t h, sub_t h hL, by omega, eql_b _ true hb, add_t (by omega), trivial⟩

def pwA (x : Q12) (n : Nat) : List Fact := [.slot 2 (.pt 2 0), .row 2 true (e12 x), .slot 3 (.pt 3 0), .row 3 true (q1 n), .slot 4 (.pt 4 0), .row 4 true z12]
def pwB1 (x : Q12) (n : Nat) : List Fact := [.slot 2 (.pt 2 0), .row 2 true (e12 x), .slot 3 (.pt 3 0), .row 3 true (q1 n), .slot 4 (.pt 4 0), .row 4 true z12, .slot 5 (.pt 5 0), .row 5 true (e12 F12.one)]
def pwB2 (x : Q12) (n : Nat) : List Fact := [.slot 2 (.pt 2 0), .row 2 true (e12 x), .slot 3 (.pt 3 0), .row 3 true (q1 n), .slot 4 (.pt 4 0), .row 4 true z12, .slot 5 (.pt 5 0), .row 5 true (e12 F12.one), .slot 6 (.im (.int .i64 (lenF n : Nat)))]
noncomputable def pwC0 (c : Bool) (_ : Nat) : Cfg := ⟨fun _ => T_Bit c, fun _ => true, fun _ => none⟩
set_option maxRecDepth 100000 in
theorem pw_s0 (c : Bool) (x : Q12) (n : Nat) : runK Tryz.prog qN Tryz.f78.ntmps (pwC0 c) 40 (cA pwCode) (argF 0 [.v (.fl (e12 x)), .v (.fl (q1 n))]) (pwA x n) = some ([], .nrm, pwA x n) := by kernel_rfl
set_option maxRecDepth 100000 in
theorem pw_s1 (c : Bool) (x : Q12) (n : Nat) : runK Tryz.prog qN Tryz.f78.ntmps (pwC0 c) 40 (cA (cB pwCode)) (pwA x n) (pwB1 x n) = some ([], .nrm, pwB1 x n) := by kernel_rfl
set_option maxRecDepth 100000 in
theorem pw_s2 (c : Bool) (x : Q12) (n : Nat) : runK Tryz.prog qN Tryz.f78.ntmps (pwC0 c) 40 (cA (cB (cB pwCode))) (pwB1 x n) (pwB2 x n) = some ([], .nrm, pwB2 x n) := by kernel_rfl
set_option maxRecDepth 100000 in
theorem pw_s3 (c : Bool) (x : Q12) (n : Nat) : runK Tryz.prog qN Tryz.f78.ntmps (pwC0 c) 40 (cA (cA (cB (cB (cB pwCode))))) (pwB2 x n) (pwF x n (lenF n) 0 F12.one) = some ([], .nrm, pwF x n (lenF n) 0 F12.one) := by kernel_rfl
set_option maxRecDepth 100000 in
theorem pw_s4 (c : Bool) (x r : Q12) (n : Nat) : runK Tryz.prog qN Tryz.f78.ntmps (pwC0 c) 40 (cB (cB (cB (cB pwCode)))) (pwF x n (lenF n) (lenF n) r) [.slot 4 (.pt 4 0), .row 4 true (e12 r)] = some ([], .rt, [.slot 4 (.pt 4 0), .row 4 true (e12 r)]) := by kernel_rfl
theorem pw_code : pwCode = .seq (cA pwCode) (.seq (cA (cB pwCode)) (.seq (cA (cB (cB pwCode))) (.seq (.seq (cA (cA (cB (cB (cB pwCode))))) (.block 0 (.loop pwLoop))) (cB (cB (cB (cB pwCode))))))) := by kernel_rfl
def gPow : Ent := g2 rd12 rq1 fun x n => ([], .one (.fl (e12 (pwK F12 x (wv n)))))
theorem pow_calls (c : Bool) (x : Q12) (n : Nat) (args : List Value) (w : World) (ha : CAs w [.v (.fl (e12 x)), .v (.fl (q1 n))] args) : Good Tryz.prog 78 (.one (.fl (e12 (pwK F12 x (wv n))))) args w := by
  refine fn_enter Tryz.func78 (c := pwCode) rfl ha (Nat.le_of_ble_eq_true (by kernel_rfl)) fun a w' hA => ?_
  rw [pw_code]
  refine wp_seq (runK_sound hmix (fun _ _ => ok_Bit c) qN_ok (pw_s0 c x n) trivial hA fun a w' hA => ?_)
  refine wp_seq (runK_sound hmix (fun _ _ => ok_Bit c) qN_ok (pw_s1 c x n) trivial hA fun a w' hA => ?_)
  refine wp_seq (runK_sound hmix (fun _ _ => ok_Bit c) qN_ok (pw_s2 c x n) trivial hA fun a w' hA => ?_)
  refine wp_seq (wp_seq (runK_sound hmix (fun _ _ => ok_Bit c) qN_ok (pw_s3 c x n) trivial hA fun a w' hA => ?_))
  refine wp_block ?_
  have hb : ∀ i, i < lenF n → ∃ b, ∃ ps, runK Tryz.prog qN Tryz.f78.ntmps (pwC c i (lenF n - 1 - i) b) 40 pwLoop (pwF x n (lenF n) i (pwR x n i)) (pwF x n (lenF n) (i + 1) (pwR x n (i + 1))) = some (ps, .nrm, pwF x n (lenF n) (i + 1) (pwR x n (i + 1))) ∧ allP ps := fun i h => pw_round c x n i h
  classical
  refine loop_rounds (f := 40) hmix qN_ok (fun i => pwF x n (lenF n) i (pwR x n i)) (fun i => if h : i < lenF n then pwC c i (lenF n - 1 - i) (hb i h).choose else pwE c) (fun i m d => ?_) (lenF n) (fun i hi => ?_) (.ex 0) (by simp) (pwF x n (lenF n) (lenF n) (pwR x n (lenF n))) ?_ (by rw [pwR_0]; exact hA) fun a w' hA => ?_
  · show TabOk _ ((if h : i < lenF n then pwC c i (lenF n - 1 - i) (hb i h).choose else pwE c) m |>.T d)
    split <;> exact ok_Bit c
  · rw [dif_pos hi]
    exact (hb i hi).choose_spec
  · rw [dif_neg (Nat.lt_irrefl _)]
    exact ⟨_, pw_end c x _ n (lenF n) (lenF n), lss_f _, trivial⟩
  · rw [pwR_end] at hA
    show (cB (cB (cB (cB pwCode)))).wp _ _ _ _
    exact runK_sound hmix (fun _ _ => ok_Bit c) qN_ok (pw_s4 c x _ n) trivial hA fun a w' hA => fn_leave (l := [.fl (e12 (pwK F12 x (wv n)))]) (by kernel_rfl) (by kernel_rfl) hA
noncomputable def T_power (c : Bool) : Tab := (T_Bit c).add 78 gPow
theorem ok_power (c : Bool) : TabOk Tryz.prog (T_power c) := (ok_Bit c).add Tryz.func78 (by kernel_rfl) (by kernel_rfl) (g2_ok rd12_ok rq1_ok fun x n _ args w ha => pow_calls c x n args w ha)
theorem it_one (x : Q12) : it12 1 x = on12 x := rfl
set_option maxRecDepth 100000 in
theorem run_exp (c : Bool) (x : N12) (n : Nat) : funA Tryz.prog (T_power c) qN (fun _ => true) Tryz.f38 60 [.v (.fl (q12 x)), .v (.fl (q1 n))] = some ([], .one (.fl (e12 (pwK F12 (m12 x) (wv n))))) := by kernel_rfl
theorem rq1_v : Rdv rq1 q1 (fun n => n) := fun l n h => ⟨n, rq1_ok l n h, rfl⟩
noncomputable def T_Exp12 (c : Bool) : Tab := (T_power c).add 38 (g2 rv12 rq1 fun x n => ([], .one (.fl (e12 (pwK F12 x (wv n))))))
theorem ok_Exp12 (c : Bool) : TabOk Tryz.prog (T_Exp12 c) := (ok_power c).add Tryz.func38 (by kernel_rfl) (by kernel_rfl) (g2v_ok rv12_ok rq1_v fun x n hp args w ha => fun_sound hmix (ok_power c) qN_ok Tryz.func38 (run_exp c x n) trivial ha)
end Go.Proofs.YtgacpjmggdmgdaaGreat.Ex
