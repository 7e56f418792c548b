/-
  Identities of commutative rings, by reckoning with polynomials. Conditions: none.
  Elements of Fp12 in a table of calls, and what the package exports. Conditions: the parts' table is right.
  The calls of limbs.Add, limbs.Sub and limbs.Cmp: for any two numbers of four words, in any world, the answers are the sum with its carry, the difference with its borrow, the order; nothing that was there is changed. Conditions: each word below 2^64.
  DERIVED: THE SHELF's CONTRACTS AT THIS DUMP, IN PLAIN WORDS (tools/lay-plain.mjs out of 'TryzShelf.lean', which tools/lay-shelf.mjs wrote): THE SAME DECLARATIONS UNDER THE SAME NAMES: 'import', 'namespace', 'open', 'def', 'theorem' AND NOTHING ELSE: no command of the shelf's: FOR A HAND-IN. Each laying: the table of numbers ('.._ren') and one theorem, a field a fact of the dump's own or the kernel's comparison; each contract: ONE APPLICATION.
  The calls of limbs.timesWord and limbs.Mul: for any numbers of four words, in any world, the answers are the product's words. Conditions: each word below 2^64.
-/
import Derived.WalkKit
import Derived.WalkLawsBesides
import Derived.WalkSpells
import Derived.ProofKit
import Derived.RegionTactic
import Derived.BigRegion
import Derived.BigQuiet
import Derived.Deep.QuietTactic
import Derived.ChangeAlike
import Derived.Laws.Externs
import Derived.LoopN
import Derived.Below
import Derived.Lib.Hide
import Derived.Shelf.Small.Bits
import Derived.Shelf.Strconv.Itoa0
import Derived.Shelf.Bits.Mul64
import Derived.StillTailTactics
import Derived.Test.YtaingnhikbaplaaGreatPf04
import Derived.Test.YtaingnhikbaplaaGreatPf05
import Derived.Test.YtaingnhikbaplaaGreatProg
import Derived.Test.YtaingnhikbaplaaGreatPf00
namespace Go.Proofs.YtaingnhikbaplaaGreat.Ex
set_option linter.unusedVariables false
set_option linter.unusedSimpArgs false

inductive RE | v (i : Nat) | add (a b : RE) | mul (a b : RE) | neg (a : RE) | zero | one
section
variable {R : Type} (K : CR R) (env : Nat → R)
def RE.den : RE → R
  | .v i => env i
  | .add a b => K.add (a.den) (b.den)
  | .mul a b => K.mul (a.den) (b.den)
  | .neg a => K.neg a.den
  | .zero => K.zero
  | .one => K.one
/-- n times x -/
def nt (x : R) : Nat → R
  | 0 => K.zero
  | n + 1 => K.add (nt x n) x
def zt (x : R) : Int → R
  | .ofNat n => nt K x n
  | .negSucc n => K.neg (nt K x (n + 1))
def mono : List Nat → R
  | [] => K.one
  | i :: r => K.mul (env i) (mono r)
def pden : List (Int × List Nat) → R
  | [] => K.zero
  | (c, m) :: r => K.add (zt K (mono K env m) c) (pden r)
end
def ltL : List Nat → List Nat → Bool
  | [], [] => false
  | [], _ :: _ => true
  | _ :: _, [] => false
  | a :: r, b :: s => bif Nat.blt a b then true else bif Nat.blt b a then false else ltL r s
def eqL : List Nat → List Nat → Bool
  | [], [] => true
  | a :: r, b :: s => bif Nat.beq a b then eqL r s else false
  | _, _ => false
theorem eqL_eq : ∀ {a b : List Nat}, eqL a b = true → a = b
  | [], [], _ => rfl
  | a :: r, b :: s, h => by
    unfold eqL at h
    cases hb : Nat.beq a b <;> rw [hb] at h
    · cases h
    · rw [Nat.eq_of_beq_eq_true hb, eqL_eq h]
  | [], _ :: _, h => by cases h
  | _ :: _, [], h => by cases h
/-- one monomial more -/
def ins (c : Int) (m : List Nat) : List (Int × List Nat) → List (Int × List Nat)
  | [] => [(c, m)]
  | (d, k) :: r => bif eqL m k then (c + d, k) :: r else bif ltL m k then (c, m) :: (d, k) :: r else (d, k) :: ins c m r
def padd : List (Int × List Nat) → List (Int × List Nat) → List (Int × List Nat)
  | [], q => q
  | (c, m) :: r, q => ins c m (padd r q)
def insM (i : Nat) : List Nat → List Nat
  | [] => [i]
  | j :: r => bif Nat.ble i j then i :: j :: r else j :: insM i r
def mulM : List Nat → List Nat → List Nat
  | [], m => m
  | i :: r, m => insM i (mulM r m)
def pmul1 (c : Int) (m : List Nat) : List (Int × List Nat) → List (Int × List Nat)
  | [] => []
  | (d, k) :: r => ins (c * d) (mulM m k) (pmul1 c m r)
def pmul : List (Int × List Nat) → List (Int × List Nat) → List (Int × List Nat)
  | [], _ => []
  | (c, m) :: r, q => padd (pmul1 c m q) (pmul r q)
def pneg : List (Int × List Nat) → List (Int × List Nat)
  | [] => []
  | (c, m) :: r => (-c, m) :: pneg r
def RE.norm : RE → List (Int × List Nat)
  | .v i => [(1, [i])]
  | .add a b => padd a.norm b.norm
  | .mul a b => pmul a.norm b.norm
  | .neg a => pneg a.norm
  | .zero => []
  | .one => [(1, [])]
def isZ : List (Int × List Nat) → Bool
  | [] => true
  | (.ofNat 0, _) :: r => isZ r
  | _ => false
section
variable {R : Type} (K : CR R) (env : Nat → R)
theorem nt_add (x : R) (n : Nat) : ∀ m, nt K x (n + m) = K.add (nt K x n) (nt K x m)
  | 0 => (K.add_zero _).symm
  | m + 1 => by show K.add (nt K x (n + m)) x = _; rw [nt_add x n m, K.add_assoc]; rfl
theorem neg_zero : K.neg K.zero = K.zero := by
  apply K.add_cancel (a := K.zero)
  rw [K.add_neg, K.add_zero]
theorem zt_sub (x : R) (n m : Nat) : zt K x (Int.subNatNat n m) = K.add (nt K x n) (K.neg (nt K x m)) := by
  unfold Int.subNatNat
  split
  · rename_i h
    have : n = m + (n - m) := by omega
    show nt K x (n - m) = _
    conv => rhs; rw [this, nt_add]
    rw [K.add_comm (nt K x m), K.add_assoc, K.add_neg, K.add_zero]
  · rename_i k h
    have : m = n + (k + 1) := by omega
    show K.neg (nt K x (k + 1)) = K.add (nt K x n) (K.neg (nt K x m))
    rw [this, nt_add K x n (k + 1), K.neg_add' (nt K x n), ← K.add_assoc, K.add_neg, K.zero_add]
theorem zt_add (x : R) (a b : Int) : zt K x (a + b) = K.add (zt K x a) (zt K x b) := by
  cases a with
  | ofNat n =>
    cases b with
    | ofNat m => exact nt_add K x n m
    | negSucc m => exact zt_sub K x n (m + 1)
  | negSucc n =>
    cases b with
    | ofNat m => show zt K x (Int.subNatNat m (n + 1)) = _; rw [zt_sub, K.add_comm]; rfl
    | negSucc m =>
      show K.neg (nt K x (n + m + 1 + 1)) = K.add (K.neg (nt K x (n + 1))) (K.neg (nt K x (m + 1)))
      rw [← K.neg_add', ← nt_add, show n + 1 + (m + 1) = n + m + 1 + 1 by omega]
theorem zt_neg (x : R) (a : Int) : zt K x (-a) = K.neg (zt K x a) := by
  apply K.add_cancel (a := zt K x a)
  rw [← zt_add, K.add_neg, Int.add_right_neg]
  rfl
theorem nt_mul (x y : R) (n : Nat) : ∀ m, K.mul (nt K x n) (nt K y m) = nt K (K.mul x y) (n * m)
  | 0 => K.mul_zero _
  | m + 1 => by
    show K.mul _ (K.add (nt K y m) y) = _
    rw [K.mul_add, nt_mul x y n m, Nat.mul_add, Nat.mul_one, nt_add]
    congr 1
    clear nt_mul
    induction n with
    | zero => exact K.zero_mul _
    | succ n ih => show K.mul (K.add (nt K x n) x) y = _; rw [K.add_mul, ih]; rfl
theorem zt_mul (x y : R) (a b : Int) : K.mul (zt K x a) (zt K y b) = zt K (K.mul x y) (a * b) := by
  have hn : ∀ (c : Int), ∃ n : Nat, c = n ∨ c = -(n : Int) := fun c => ⟨c.natAbs, Int.natAbs_eq c⟩
  have h0 : ∀ n m : Nat, K.mul (zt K x n) (zt K y m) = zt K (K.mul x y) ((n : Int) * m) := fun n m => by
    rw [← Int.natCast_mul]; exact nt_mul K x y n m
  obtain ⟨n, rfl | rfl⟩ := hn a
  · obtain ⟨m, rfl | rfl⟩ := hn b
    · exact h0 n m
    · rw [zt_neg, K.mul_neg, h0, Int.mul_neg, zt_neg]
  · obtain ⟨m, rfl | rfl⟩ := hn b
    · rw [zt_neg, K.neg_mul, h0, Int.neg_mul, zt_neg]
    · rw [zt_neg, zt_neg, K.neg_mul, K.mul_neg, K.neg_neg, h0, Int.neg_mul_neg]
theorem ins_den (c : Int) (m : List Nat) : ∀ q, pden K env (ins c m q) = K.add (zt K (mono K env m) c) (pden K env q)
  | [] => rfl
  | (d, k) :: r => by
    unfold ins
    cases he : eqL m k
    · cases hl : ltL m k
      · show K.add (zt K (mono K env k) d) (pden K env (ins c m r)) = K.add _ (K.add _ _)
        rw [ins_den c m r, K.add_left_comm]
      · rfl
    · rw [eqL_eq he]
      show K.add (zt K (mono K env k) (c + d)) (pden K env r) = K.add _ (K.add _ _)
      rw [zt_add, K.add_assoc]
theorem padd_den : ∀ p q, pden K env (padd p q) = K.add (pden K env p) (pden K env q)
  | [], q => (K.zero_add _).symm
  | (c, m) :: r, q => by
    show pden K env (ins c m (padd r q)) = K.add (K.add _ _) _
    rw [ins_den, padd_den r q, K.add_assoc]
theorem insM_den (i : Nat) : ∀ m, mono K env (insM i m) = K.mul (env i) (mono K env m)
  | [] => rfl
  | j :: r => by
    unfold insM
    cases Nat.ble i j
    · show K.mul (env j) (mono K env (insM i r)) = K.mul _ (K.mul _ _)
      rw [insM_den i r, K.mul_left_comm]
    · rfl
theorem mulM_den : ∀ m k, mono K env (mulM m k) = K.mul (mono K env m) (mono K env k)
  | [], k => (K.one_mul _).symm
  | i :: r, k => by
    show mono K env (insM i (mulM r k)) = K.mul (K.mul _ _) _
    rw [insM_den, mulM_den r k, K.mul_assoc]
theorem pmul1_den (c : Int) (m : List Nat) : ∀ q, pden K env (pmul1 c m q) = K.mul (zt K (mono K env m) c) (pden K env q)
  | [] => (K.mul_zero _).symm
  | (d, k) :: r => by
    show pden K env (ins (c * d) (mulM m k) (pmul1 c m r)) = K.mul _ (K.add _ _)
    rw [ins_den, pmul1_den c m r, K.mul_add, mulM_den, zt_mul]
theorem pmul_den : ∀ p q, pden K env (pmul p q) = K.mul (pden K env p) (pden K env q)
  | [], q => (K.zero_mul _).symm
  | (c, m) :: r, q => by
    show pden K env (padd (pmul1 c m q) (pmul r q)) = K.mul (K.add _ _) _
    rw [padd_den, pmul1_den, pmul_den r q, K.add_mul]
theorem pneg_den : ∀ p, pden K env (pneg p) = K.neg (pden K env p)
  | [] => (neg_zero K).symm
  | (c, m) :: r => by
    show K.add (zt K (mono K env m) (-c)) (pden K env (pneg r)) = K.neg (K.add _ _)
    rw [pneg_den r, K.neg_add', zt_neg]
theorem norm_den : ∀ e : RE, pden K env e.norm = e.den K env
  | .v i => by show K.add (K.add K.zero (K.mul (env i) K.one)) K.zero = env i; rw [K.add_zero, K.zero_add, K.mul_one]
  | .add a b => by show pden K env (padd _ _) = K.add _ _; rw [padd_den, norm_den a, norm_den b]
  | .mul a b => by show pden K env (pmul _ _) = K.mul _ _; rw [pmul_den, norm_den a, norm_den b]
  | .neg a => by show pden K env (pneg _) = K.neg _; rw [pneg_den, norm_den a]
  | .zero => rfl
  | .one => by show K.add (K.add K.zero K.one) K.zero = K.one; rw [K.add_zero, K.zero_add]
theorem isZ_den : ∀ p, isZ p = true → pden K env p = K.zero
  | [], _ => rfl
  | (.ofNat 0, m) :: r, h => by
    show K.add K.zero (pden K env r) = _
    rw [K.zero_add]
    exact isZ_den r h
  | (.ofNat (_ + 1), _) :: _, h => by cases h
  | (.negSucc _, _) :: _, h => by cases h
/-- two expressions are one, if their difference has no monomial -/
theorem ring_id (a b : RE) (h : isZ (RE.norm (.add a (.neg b))) = true) : a.den K env = b.den K env := by
  have := isZ_den K env _ h
  rw [norm_den] at this
  have h2 : K.add (K.add (a.den K env) (K.neg (b.den K env))) (b.den K env) = K.add K.zero (b.den K env) := congrArg (fun x => K.add x (b.den K env)) this
  rwa [K.add_assoc, K.neg_add, K.add_zero, K.zero_add] at h2
end
/-- variables of an identity -/
def envL {R : Type} (K : CR R) (l : List R) (i : Nat) : R := (l[i]?).getD K.zero
end Go.Proofs.YtaingnhikbaplaaGreat.Ex
namespace Go.Proofs.YtaingnhikbaplaaGreat.Ex
set_option linter.unusedVariables false
set_option linter.unusedSimpArgs false
open Go.RowKit

def cj12 (x : Q12) : Q12 := (x.1, F6.sub F6.zero x.2)
def n12 (x : Q12) : Q6 := F6.sub (F6.mul x.1 x.1) (F6.mul vE (F6.mul x.2 x.2))
noncomputable def iv12 (x : Q12) : Q12 := (F6.mul x.1 (iv6 (n12 x)), F6.mul (F6.sub F6.zero x.2) (iv6 (n12 x)))
/-- 0 just of 0 -/
def nu12 (x : Q12) : Fq := nm2 (n6 (n12 x))

set_option maxRecDepth 100000 in
theorem run_t12times (c : Bool) (x : Q12) (y : Q12) : funA Tryz.prog (T_t6inv c) qN (fun _ => true) Tryz.f81 40 [.v (.fl (e12 x)), .v (.fl (e12 y))] = some ([], .one (.fl (e12 ((F6.add (F6.mul x.1 y.1) (F6.mul vE (F6.mul x.2 y.2)), F6.sub (F6.sub (F6.mul (F6.add x.1 x.2) (F6.add y.1 y.2)) (F6.mul x.1 y.1)) (F6.mul x.2 y.2)))))) := by kernel_rfl
theorem raw_t12times (x : Q12) (y : Q12) : F12.mul x y = (F6.add (F6.mul x.1 y.1) (F6.mul vE (F6.mul x.2 y.2)), F6.sub (F6.sub (F6.mul (F6.add x.1 x.2) (F6.add y.1 y.2)) (F6.mul x.1 y.1)) (F6.mul x.2 y.2)) := by
  refine Prod.ext rfl ?_
  exact ring_id F6 (envL F6 [x.1, x.2, y.1, y.2]) (.add (.mul (.v 0) (.v 3)) (.mul (.v 1) (.v 2))) (.add (.add (.mul (.add (.v 0) (.v 1)) (.add (.v 2) (.v 3))) (.neg (.mul (.v 0) (.v 2)))) (.neg (.mul (.v 1) (.v 3)))) (by decide)
noncomputable def T_t12times (c : Bool) : Tab := (T_t6inv c).add 81 (g2 rd12 rd12 (fun x y => ([], .one (.fl (e12 (F12.mul x y))))))
theorem ok_t12times (c : Bool) (hB : TabOk Tryz.prog (T_B c)) : TabOk Tryz.prog (T_t12times c) := (ok_t6inv c hB).add Tryz.func81 (by kernel_rfl) (by kernel_rfl) (g2_ok rd12_ok rd12_ok fun x y hp args w ha => by show Good _ _ (.one (.fl (e12 (F12.mul x y)))) _ _; rw [raw_t12times x y]; exact fun_sound hmix (ok_t6inv c hB) qN_ok Tryz.func81 (run_t12times c x y) hp ha)
set_option maxRecDepth 100000 in
theorem run_t12conj (c : Bool) (x : Q12) : funA Tryz.prog (T_t12times c) qN (fun _ => true) Tryz.f137 40 [.v (.fl (e12 x))] = some ([], .one (.fl (e12 (cj12 x)))) := by kernel_rfl
noncomputable def T_t12conj (c : Bool) : Tab := (T_t12times c).add 137 (g1 rd12 (fun x => ([], .one (.fl (e12 (cj12 x))))))
theorem ok_t12conj (c : Bool) (hB : TabOk Tryz.prog (T_B c)) : TabOk Tryz.prog (T_t12conj c) := (ok_t12times c hB).add Tryz.func137 (by kernel_rfl) (by kernel_rfl) (g1_ok rd12_ok fun x hp args w ha => fun_sound hmix (ok_t12times c hB) qN_ok Tryz.func137 (run_t12conj c x) hp ha)
set_option maxRecDepth 100000 in
theorem run_t12out (c : Bool) (x : Q12) : funA Tryz.prog (T_t12conj c) qN (fun _ => true) Tryz.f82 40 [.v (.fl (e12 x))] = some ([], .one (.fl (e12 (x)))) := by kernel_rfl
noncomputable def T_t12out (c : Bool) : Tab := (T_t12conj c).add 82 (g1 rd12 (fun x => ([], .one (.fl (e12 (x))))))
theorem ok_t12out (c : Bool) (hB : TabOk Tryz.prog (T_B c)) : TabOk Tryz.prog (T_t12out c) := (ok_t12conj c hB).add Tryz.func82 (by kernel_rfl) (by kernel_rfl) (g1_ok rd12_ok fun x hp args w ha => fun_sound hmix (ok_t12conj c hB) qN_ok Tryz.func82 (run_t12out c x) hp ha)
set_option maxRecDepth 100000 in
theorem run_rest12 (c : Bool) (x : N12) : funA Tryz.prog (T_t12out c) qN (fun _ => true) Tryz.f80 40 [.v (.fl (q12 x))] = some ([], .one (.fl (e12 (m12 x)))) := by kernel_rfl
noncomputable def T_rest12 (c : Bool) : Tab := (T_t12out c).add 80 (g1 rq12 (fun x => ([], .one (.fl (e12 (m12 x))))))
theorem ok_rest12 (c : Bool) (hB : TabOk Tryz.prog (T_B c)) : TabOk Tryz.prog (T_rest12 c) := (ok_t12out c hB).add Tryz.func80 (by kernel_rfl) (by kernel_rfl) (g1_ok rq12_ok fun x hp args w ha => fun_sound hmix (ok_t12out c hB) qN_ok Tryz.func80 (run_rest12 c x) hp ha)
set_option maxRecDepth 100000 in
theorem run_one12 (c : Bool)  : funA Tryz.prog (T_rest12 c) qN (fun _ => true) Tryz.f133 40 [] = some ([], .one (.fl (e12 (F12.one)))) := by kernel_rfl
noncomputable def T_one12 (c : Bool) : Tab := (T_rest12 c).add 133 (g0 (.one (.fl (e12 (F12.one)))))
theorem ok_one12 (c : Bool) (hB : TabOk Tryz.prog (T_B c)) : TabOk Tryz.prog (T_one12 c) := (ok_rest12 c hB).add Tryz.func133 (by kernel_rfl) (by kernel_rfl) (g0_ok fun w => fun_sound hmix (ok_rest12 c hB) qN_ok Tryz.func133 (run_one12 c ) trivial (args := []) trivial)
noncomputable def oInv12 (c : Bool) (x : Q12) : List Prop × RV := bif c then ([nu12 x ≠ F1.zero], .many [.fl (e12 (iv12 x)), .im (.int .i64 0)]) else ([nu12 x = F1.zero], .many [.fl (e12 F12.zero), .im (.int .i64 22)])
set_option maxRecDepth 100000 in
theorem run_t12inv_true (x : Q12) : funA Tryz.prog (T_one12 true) qN (fun _ => true) Tryz.f200 40 [.v (.fl (e12 x))] = some ([nu12 x ≠ F1.zero], .many [.fl (e12 (iv12 x)), .im (.int .i64 0)]) := by kernel_rfl
set_option maxRecDepth 100000 in
theorem run_t12inv_false (x : Q12) : funA Tryz.prog (T_one12 false) qN (fun _ => true) Tryz.f200 40 [.v (.fl (e12 x))] = some ([nu12 x = F1.zero], .many [.fl (e12 F12.zero), .im (.int .i64 22)]) := by kernel_rfl
theorem oInv12_ok (c : Bool) (hB : TabOk Tryz.prog (T_B c)) (x : Q12) (hp : allP (oInv12 c x).1) (args : List Value) (w : World) (ha : CAs w [.v (.fl (e12 x))] args) : Good Tryz.prog 200 (oInv12 c x).2 args w := by
  cases c
  · exact fun_sound hmix (ok_one12 false hB) qN_ok Tryz.func200 (run_t12inv_false x) hp ha
  · exact fun_sound hmix (ok_one12 true hB) qN_ok Tryz.func200 (run_t12inv_true x) hp ha
noncomputable def T_t12inv (c : Bool) : Tab := (T_one12 c).add 200 (g1 rd12 (oInv12 c))
theorem ok_t12inv (c : Bool) (hB : TabOk Tryz.prog (T_B c)) : TabOk Tryz.prog (T_t12inv c) := (ok_one12 c hB).add Tryz.func200 (by kernel_rfl) (by kernel_rfl) (g1_ok rd12_ok (oInv12_ok c hB))
set_option maxRecDepth 100000 in
theorem run_Mul12 (c : Bool) (x : N12) (y : N12) : funA Tryz.prog (T_t12inv c) qN (fun _ => true) Tryz.f34 40 [.v (.fl (q12 x)), .v (.fl (q12 y))] = some ([], .one (.fl (e12 (F12.mul (m12 x) (m12 y))))) := by kernel_rfl
noncomputable def T_Mul12 (c : Bool) : Tab := (T_t12inv c).add 34 (g2 rq12 rq12 (fun x y => ([], .one (.fl (e12 (F12.mul (m12 x) (m12 y)))))))
theorem ok_Mul12 (c : Bool) (hB : TabOk Tryz.prog (T_B c)) : TabOk Tryz.prog (T_Mul12 c) := (ok_t12inv c hB).add Tryz.func34 (by kernel_rfl) (by kernel_rfl) (g2_ok rq12_ok rq12_ok fun x y hp args w ha => fun_sound hmix (ok_t12inv c hB) qN_ok Tryz.func34 (run_Mul12 c x y) hp ha)
noncomputable def oInvX (c : Bool) (x : N12) : List Prop × RV := bif c then ([nu12 (m12 x) ≠ F1.zero], .many [.fl (e12 (iv12 (m12 x))), .im (.int .i64 0)]) else ([nu12 (m12 x) = F1.zero], .many [.fl (e12 F12.zero), .im (.int .i64 22)])
set_option maxRecDepth 100000 in
theorem run_Inv12_true (x : N12) : funA Tryz.prog (T_Mul12 true) qN (fun _ => true) Tryz.f123 40 [.v (.fl (q12 x))] = some ([nu12 (m12 x) ≠ F1.zero], .many [.fl (e12 (iv12 (m12 x))), .im (.int .i64 0)]) := by kernel_rfl
set_option maxRecDepth 100000 in
theorem run_Inv12_false (x : N12) : funA Tryz.prog (T_Mul12 false) qN (fun _ => true) Tryz.f123 40 [.v (.fl (q12 x))] = some ([nu12 (m12 x) = F1.zero], .many [.fl (e12 F12.zero), .im (.int .i64 22)]) := by kernel_rfl
theorem oInvX_ok (c : Bool) (hB : TabOk Tryz.prog (T_B c)) (x : N12) (hp : allP (oInvX c x).1) (args : List Value) (w : World) (ha : CAs w [.v (.fl (q12 x))] args) : Good Tryz.prog 123 (oInvX c x).2 args w := by
  cases c
  · exact fun_sound hmix (ok_Mul12 false hB) qN_ok Tryz.func123 (run_Inv12_false x) hp ha
  · exact fun_sound hmix (ok_Mul12 true hB) qN_ok Tryz.func123 (run_Inv12_true x) hp ha
noncomputable def T_Inv12 (c : Bool) : Tab := (T_Mul12 c).add 123 (g1 rq12 (oInvX c))
theorem ok_Inv12 (c : Bool) (hB : TabOk Tryz.prog (T_B c)) : TabOk Tryz.prog (T_Inv12 c) := (ok_Mul12 c hB).add Tryz.func123 (by kernel_rfl) (by kernel_rfl) (g1_ok rq12_ok (oInvX_ok c hB))
set_option maxRecDepth 100000 in
theorem run_One12 (c : Bool)  : funA Tryz.prog (T_Inv12 c) qN (fun _ => true) Tryz.f71 40 [] = some ([], .one (.fl (e12 (F12.one)))) := by kernel_rfl
noncomputable def T_One12 (c : Bool) : Tab := (T_Inv12 c).add 71 (g0 (.one (.fl (e12 (F12.one)))))
theorem ok_One12 (c : Bool) (hB : TabOk Tryz.prog (T_B c)) : TabOk Tryz.prog (T_One12 c) := (ok_Inv12 c hB).add Tryz.func71 (by kernel_rfl) (by kernel_rfl) (g0_ok fun w => fun_sound hmix (ok_Inv12 c hB) qN_ok Tryz.func71 (run_One12 c ) trivial (args := []) trivial)
noncomputable def oInvY (c : Bool) (x : N2) : List Prop × RV := bif c then ([nm2 (m2 x) ≠ F1.zero], .many [.fl (e2 (iv2 (m2 x))), .im (.int .i64 0)]) else ([nm2 (m2 x) = F1.zero], .many [.fl (e2 F2.zero), .im (.int .i64 22)])
set_option maxRecDepth 100000 in
theorem run_Inv2_true (x : N2) : funA Tryz.prog (T_One12 true) qN (fun _ => true) Tryz.f344 40 [.v (.fl (q2 x))] = some ([nm2 (m2 x) ≠ F1.zero], .many [.fl (e2 (iv2 (m2 x))), .im (.int .i64 0)]) := by kernel_rfl
set_option maxRecDepth 100000 in
theorem run_Inv2_false (x : N2) : funA Tryz.prog (T_One12 false) qN (fun _ => true) Tryz.f344 40 [.v (.fl (q2 x))] = some ([nm2 (m2 x) = F1.zero], .many [.fl (e2 F2.zero), .im (.int .i64 22)]) := by kernel_rfl
theorem oInvY_ok (c : Bool) (hB : TabOk Tryz.prog (T_B c)) (x : N2) (hp : allP (oInvY c x).1) (args : List Value) (w : World) (ha : CAs w [.v (.fl (q2 x))] args) : Good Tryz.prog 344 (oInvY c x).2 args w := by
  cases c
  · exact fun_sound hmix (ok_One12 false hB) qN_ok Tryz.func344 (run_Inv2_false x) hp ha
  · exact fun_sound hmix (ok_One12 true hB) qN_ok Tryz.func344 (run_Inv2_true x) hp ha
noncomputable def T_Inv2 (c : Bool) : Tab := (T_One12 c).add 344 (g1 rq2 (oInvY c))
theorem ok_Inv2 (c : Bool) (hB : TabOk Tryz.prog (T_B c)) : TabOk Tryz.prog (T_Inv2 c) := (ok_One12 c hB).add Tryz.func344 (by kernel_rfl) (by kernel_rfl) (g1_ok rq2_ok (oInvY_ok c hB))
set_option maxRecDepth 100000 in
theorem run_Mul2 (c : Bool) (x : N2) (y : N2) : funA Tryz.prog (T_Inv2 c) qN (fun _ => true) Tryz.f162 40 [.v (.fl (q2 x)), .v (.fl (q2 y))] = some ([], .one (.fl (e2 (F2.mul (m2 x) (m2 y))))) := by kernel_rfl
noncomputable def T_Mul2 (c : Bool) : Tab := (T_Inv2 c).add 162 (g2 rq2 rq2 (fun x y => ([], .one (.fl (e2 (F2.mul (m2 x) (m2 y)))))))
theorem ok_Mul2 (c : Bool) (hB : TabOk Tryz.prog (T_B c)) : TabOk Tryz.prog (T_Mul2 c) := (ok_Inv2 c hB).add Tryz.func162 (by kernel_rfl) (by kernel_rfl) (g2_ok rq2_ok rq2_ok fun x y hp args w ha => fun_sound hmix (ok_Inv2 c hB) qN_ok Tryz.func162 (run_Mul2 c x y) hp ha)
set_option maxRecDepth 100000 in
theorem run_Neg2 (c : Bool) (x : N2) : funA Tryz.prog (T_Mul2 c) qN (fun _ => true) Tryz.f102 40 [.v (.fl (q2 x))] = some ([], .one (.fl (e2 (F2.sub F2.zero (m2 x))))) := by kernel_rfl
noncomputable def T_Neg2 (c : Bool) : Tab := (T_Mul2 c).add 102 (g1 rq2 (fun x => ([], .one (.fl (e2 (F2.sub F2.zero (m2 x)))))))
theorem ok_Neg2 (c : Bool) (hB : TabOk Tryz.prog (T_B c)) : TabOk Tryz.prog (T_Neg2 c) := (ok_Mul2 c hB).add Tryz.func102 (by kernel_rfl) (by kernel_rfl) (g1_ok rq2_ok fun x hp args w ha => fun_sound hmix (ok_Mul2 c hB) qN_ok Tryz.func102 (run_Neg2 c x) hp ha)

end Go.Proofs.YtaingnhikbaplaaGreat.Ex
namespace Go.Proofs.YtaingnhikbaplaaGreat
set_option linter.unusedVariables false
open Go.RowKit

theorem run_Add64 (x y c : Nat) (hc : c ≤ 1) (w : World) :
    (callFunc 248 #[.int .u64 (x : Int), .int .u64 (y : Int), .int .u64 (c : Int)]).run Tryz.prog w =
      .ok (.value (.tuple #[.int .u64 (addS x y c : Nat), .int .u64 (addC x y c : Nat)])) w := by
  rw [run_callFunc_extern Tryz.func248 (by kernel_rfl) (by kernel_rfl) (by kernel_rfl) (e := add64Entry) (by kernel_rfl), run_add64 x y c (by omega) (by omega) (by omega) (by omega)]
  simp only [Result.andThen]
  unfold addS addC
  congr 5 <;> omega
theorem run_Add64z (x y : Nat) (w : World) :
    (callFunc 248 #[.int .u64 (x : Int), .int .u64 (y : Int), .int .u64 0]).run Tryz.prog w =
      .ok (.value (.tuple #[.int .u64 (addS x y 0 : Nat), .int .u64 (addC x y 0 : Nat)])) w := run_Add64 x y 0 (by omega) w
def sub64E : Array Value → Sem Value := fun args => do
  let (x, y, b) ← Extern.MathBitsCarry.three "Sub64" args
  pure (Extern.MathBitsCarry.pair ((x + Extern.MathBitsCarry.m64 - y - b) % Extern.MathBitsCarry.m64) (if x < y + b then 1 else 0))
theorem run_sub64E {P : Program} (x y b : Nat) (hb : b ≤ 1) (w : World) :
    (sub64E #[.int .u64 x, .int .u64 y, .int .u64 b]).run P w = .ok (.tuple #[.int .u64 (subD x y b : Nat), .int .u64 (subB x y b : Nat)]) w := by
  have : b = 0 ∨ b = 1 := by omega
  rcases this with rfl | rfl <;> rfl
theorem run_Sub64 (x y c : Nat) (hc : c ≤ 1) (w : World) :
    (callFunc 164 #[.int .u64 (x : Int), .int .u64 (y : Int), .int .u64 (c : Int)]).run Tryz.prog w =
      .ok (.value (.tuple #[.int .u64 (subD x y c : Nat), .int .u64 (subB x y c : Nat)])) w := by
  rw [run_callFunc_extern Tryz.func164 (by kernel_rfl) (by kernel_rfl) (by kernel_rfl) (e := sub64E) (by kernel_rfl), run_sub64E x y c hc]
  rfl
theorem run_Sub64z (x y : Nat) (w : World) :
    (callFunc 164 #[.int .u64 (x : Int), .int .u64 (y : Int), .int .u64 0]).run Tryz.prog w =
      .ok (.value (.tuple #[.int .u64 (subD x y 0 : Nat), .int .u64 (subB x y 0 : Nat)])) w := run_Sub64 x y 0 (by omega) w

theorem ex_Add64 {x y c : Nat} (hx : x < 18446744073709551616) (hy : y < 18446744073709551616) (hc : c ≤ 1) : ∃ d b : Nat, (∀ w, (callFunc 248 #[.int .u64 (x : Int), .int .u64 (y : Int), .int .u64 (c : Int)]).run Tryz.prog w =
      .ok (.value (.tuple #[.int .u64 (d : Int), .int .u64 (b : Int)])) w) ∧ d < 18446744073709551616 ∧ b ≤ 1 ∧ Hid (d + 18446744073709551616 * b = x + y + c) :=
  ⟨_, _, run_Add64 x y c hc, addS_lt _ _ _, addC_le hx hy hc, addSC x y c⟩
theorem ex_Add64z {x y : Nat} (hx : x < 18446744073709551616) (hy : y < 18446744073709551616) : ∃ d b : Nat, (∀ w, (callFunc 248 #[.int .u64 (x : Int), .int .u64 (y : Int), .int .u64 0]).run Tryz.prog w =
      .ok (.value (.tuple #[.int .u64 (d : Int), .int .u64 (b : Int)])) w) ∧ d < 18446744073709551616 ∧ b ≤ 1 ∧ Hid (d + 18446744073709551616 * b = x + y) :=
  ⟨_, _, run_Add64z x y, addS_lt _ _ _, addC_le hx hy (Nat.zero_le _), addSC x y 0⟩
theorem ex_Sub64 {x y c : Nat} (hx : x < 18446744073709551616) (hy : y < 18446744073709551616) (hc : c ≤ 1) : ∃ d b : Nat, (∀ w, (callFunc 164 #[.int .u64 (x : Int), .int .u64 (y : Int), .int .u64 (c : Int)]).run Tryz.prog w =
      .ok (.value (.tuple #[.int .u64 (d : Int), .int .u64 (b : Int)])) w) ∧ d < 18446744073709551616 ∧ b ≤ 1 ∧ Hid (d + y + c = x + 18446744073709551616 * b) :=
  ⟨_, _, run_Sub64 x y c hc, subD_lt _ _ _, subB_le _ _ _, subDB hx hy hc⟩
theorem ex_Sub64z {x y : Nat} (hx : x < 18446744073709551616) (hy : y < 18446744073709551616) : ∃ d b : Nat, (∀ w, (callFunc 164 #[.int .u64 (x : Int), .int .u64 (y : Int), .int .u64 0]).run Tryz.prog w =
      .ok (.value (.tuple #[.int .u64 (d : Int), .int .u64 (b : Int)])) w) ∧ d < 18446744073709551616 ∧ b ≤ 1 ∧ Hid (d + y = x + 18446744073709551616 * b) :=
  ⟨_, _, run_Sub64z x y, subD_lt _ _ _, subB_le _ _ _, subDB hx hy (Nat.zero_le _)⟩

/-- A sum: four words and a carry. -/
def AddPost (A B : Nat) (w : World) (e : Ending) (w' : World) : Prop :=
  ∃ s0 s1 s2 s3 c : Nat, e = .returned (.tuple #[.agg #[.int .u64 s0, .int .u64 s1, .int .u64 s2, .int .u64 s3], .int .u64 c]) ∧ ok4 s0 s1 s2 s3 ∧ c ≤ 1 ∧ val4 s0 s1 s2 s3 + 115792089237316195423570985008687907853269984665640564039457584007913129639936 * c = A + B ∧ Below w.heap.size w w'
/-- A difference: four words and a borrow. -/
def SubPost (A B : Nat) (w : World) (e : Ending) (w' : World) : Prop :=
  ∃ s0 s1 s2 s3 c : Nat, e = .returned (.tuple #[.agg #[.int .u64 s0, .int .u64 s1, .int .u64 s2, .int .u64 s3], .int .u64 c]) ∧ ok4 s0 s1 s2 s3 ∧ c ≤ 1 ∧ val4 s0 s1 s2 s3 + B = A + 115792089237316195423570985008687907853269984665640564039457584007913129639936 * c ∧ Below w.heap.size w w'

theorem add_calls (a0 a1 a2 a3 b0 b1 b2 b3 : Nat) (ha : ok4 a0 a1 a2 a3) (hb : ok4 b0 b1 b2 b3) (w : World) :
    Calls Tryz.prog 203 #[.agg #[.int .u64 a0, .int .u64 a1, .int .u64 a2, .int .u64 a3], .agg #[.int .u64 b0, .int .u64 b1, .int .u64 b2, .int .u64 b3]] w (AddPost (val4 a0 a1 a2 a3) (val4 b0 b1 b2 b3) w) := by
  obtain ⟨s0, c0, r0, bs0, bc0, e0⟩ := ex_Add64z ha.1 hb.1
  obtain ⟨s1, c1, r1, bs1, bc1, e1⟩ := ex_Add64 ha.2.1 hb.2.1 bc0
  obtain ⟨s2, c2, r2, bs2, bc2, e2⟩ := ex_Add64 ha.2.2.1 hb.2.2.1 bc1
  obtain ⟨s3, c3, r3, bs3, bc3, e3⟩ := ex_Add64 ha.2.2.2 hb.2.2.2 bc2
  go_enter Tryz.func203, Tryz.ntmps203
  go_wp2
  refine wp_loop_rounds 5 ?_
  rw [rounds_succ]
  go_wp2
  go_region
  go_wp2
  rw [rounds_succ]
  go_wp2
  go_region
  go_wp2
  rw [rounds_succ]
  go_wp2
  go_region
  go_wp2
  rw [rounds_succ]
  go_wp2
  go_region
  go_wp2
  rw [rounds_succ]
  go_wp2
  refine bodyPost_ret (v := .tuple #[.agg #[.int .u64 s0, .int .u64 s1, .int .u64 s2, .int .u64 s3], .int .u64 c3]) (by simp [results, Tryz.results203, go_sem]) rfl ?_
  refine ⟨_, _, _, _, _, rfl, ⟨bs0, bs1, bs2, bs3⟩, bc3, by have := e0.out; have := e1.out; have := e2.out; have := e3.out; unfold val4; omega, ?_⟩
  repeat (first | exact Below.refl _ _ | refine Below.drew ?_ | refine Below.alloc ?_ (by first | (simp; done) | (simp; omega)) _)

theorem sub_calls (a0 a1 a2 a3 b0 b1 b2 b3 : Nat) (ha : ok4 a0 a1 a2 a3) (hb : ok4 b0 b1 b2 b3) (w : World) :
    Calls Tryz.prog 90 #[.agg #[.int .u64 a0, .int .u64 a1, .int .u64 a2, .int .u64 a3], .agg #[.int .u64 b0, .int .u64 b1, .int .u64 b2, .int .u64 b3]] w (SubPost (val4 a0 a1 a2 a3) (val4 b0 b1 b2 b3) w) := by
  obtain ⟨s0, c0, r0, bs0, bc0, e0⟩ := ex_Sub64z ha.1 hb.1
  obtain ⟨s1, c1, r1, bs1, bc1, e1⟩ := ex_Sub64 ha.2.1 hb.2.1 bc0
  obtain ⟨s2, c2, r2, bs2, bc2, e2⟩ := ex_Sub64 ha.2.2.1 hb.2.2.1 bc1
  obtain ⟨s3, c3, r3, bs3, bc3, e3⟩ := ex_Sub64 ha.2.2.2 hb.2.2.2 bc2
  go_enter Tryz.func90, Tryz.ntmps90
  go_wp2
  refine wp_loop_rounds 5 ?_
  rw [rounds_succ]
  go_wp2
  go_region
  go_wp2
  rw [rounds_succ]
  go_wp2
  go_region
  go_wp2
  rw [rounds_succ]
  go_wp2
  go_region
  go_wp2
  rw [rounds_succ]
  go_wp2
  go_region
  go_wp2
  rw [rounds_succ]
  go_wp2
  refine bodyPost_ret (v := .tuple #[.agg #[.int .u64 s0, .int .u64 s1, .int .u64 s2, .int .u64 s3], .int .u64 c3]) (by simp [results, Tryz.results90, go_sem]) rfl ?_
  refine ⟨_, _, _, _, _, rfl, ⟨bs0, bs1, bs2, bs3⟩, bc3, by have := e0.out; have := e1.out; have := e2.out; have := e3.out; unfold val4; omega, ?_⟩
  repeat (first | exact Below.refl _ _ | refine Below.drew ?_ | refine Below.alloc ?_ (by first | (simp; done) | (simp; omega)) _)

/-- the cells below a block stay -/
theorem bcell {W w1 : World} (hb : Below W.heap.size W w1) : (∀ b o, b < W.heap.size → w1.cell? ⟨b, o, none⟩ = W.cell? ⟨b, o, none⟩) ∧ (∀ b o, b < W.heap.size → w1.frozen? ⟨b, o, none⟩ = W.frozen? ⟨b, o, none⟩) :=
  ⟨fun b o h => hb.cell (p := ⟨b, o, none⟩) h, fun b o h => hb.frozen (p := ⟨b, o, none⟩) h⟩

/-- The test of two numbers of four words. -/
def eqW (a0 a1 a2 a3 b0 b1 b2 b3 : Nat) : Bool := decide (a0 = b0 ∧ a1 = b1 ∧ a2 = b2 ∧ a3 = b3)
theorem equalInW (d : Nat) (a0 a1 a2 a3 b0 b1 b2 b3 : Nat) (w : World) : (Op.equalIn (d + 1 + 1) 70 (.agg #[.int .u64 a0, .int .u64 a1, .int .u64 a2, .int .u64 a3]) (.agg #[.int .u64 b0, .int .u64 b1, .int .u64 b2, .int .u64 b3])).run Tryz.prog w = .ok (eqW a0 a1 a2 a3 b0 b1 b2 b3) w := by
  have h0 : ∀ (x y : Int) (w : World), (Op.equalIn (d + 1) 22 (.int .u64 x) (.int .u64 y)).run Tryz.prog w = .ok (x == y) w := fun x y w => run_equalIn_int w d 22 .u64 .u64 x y Tryz.underlying22
  rw [Op.equalIn]
  simp only [Sem.run_bind, run_underlying Tryz.underlying70, Result.andThen_ok, Tryz.sizeOf22]
  simp [Std.Legacy.Range.forIn_eq_forIn_range', Std.Legacy.Range.size, List.range', part, h0, Sem.run_bind, Result.andThen_ok]
  unfold eqW
  by_cases q0 : a0 = b0 <;> by_cases q1 : a1 = b1 <;> by_cases q2 : a2 = b2 <;> by_cases q3 : a3 = b3 <;> simp [q0, q1, q2, q3] <;> omega
theorem eqGuardW : Tryz.prog.eqGuardType Tryz.prog.depth 70 = false := by kernel_rfl
theorem eqW_iff {a0 a1 a2 a3 b0 b1 b2 b3 : Nat} (ha : ok4 a0 a1 a2 a3) (hb : ok4 b0 b1 b2 b3) : eqW a0 a1 a2 a3 b0 b1 b2 b3 = true ↔ val4 a0 a1 a2 a3 = val4 b0 b1 b2 b3 := by
  unfold eqW; rw [decide_eq_true_iff]
  exact ⟨fun ⟨h0, h1, h2, h3⟩ => by rw [h0, h1, h2, h3], val4_inj ha hb⟩

def cmpN (A B : Nat) : Int := if A = B then 0 else if A < B then -1 else 1

end Go.Proofs.YtaingnhikbaplaaGreat
namespace Go.Proofs
open Go.Shelf
def Tryz.lays134_ren : Go.Shelf.Ren := ⟨fun | 134 => 321 | 129 => 278 | n => n, fun | 53 => 22 | 3 => 3 | 4 => 4 | 46 => 127 | 5 => 5 | 9 => 9 | n => n, fun | n => n⟩
theorem Tryz.lays134 : Go.Proofs.Lays.n134 Tryz.prog Tryz.lays134_ren := {
  mixed := by kernel_rfl
  f129 := Tryz.func278.trans (congrArg some (by kernel_rfl))
  f134 := Tryz.func321.trans (congrArg some (by kernel_rfl))
  t3 := Tryz.underlying3
  a3 := Tryz.isAgg3
  z3 := Tryz.sizeOf3
  v3 := Tryz.zeroValue3
  t4 := Tryz.underlying4
  a4 := Tryz.isAgg4
  z4 := Tryz.sizeOf4
  v4 := Tryz.zeroValue4
  t5 := Tryz.underlying5
  a5 := Tryz.isAgg5
  z5 := Tryz.sizeOf5
  v5 := Tryz.zeroValue5
  t9 := Tryz.underlying9
  a9 := Tryz.isAgg9
  z9 := Tryz.sizeOf9
  v9 := Tryz.zeroValue9
  t46 := Tryz.underlying127
  a46 := Tryz.isAgg127
  z46 := Tryz.sizeOf127
  v46 := Tryz.zeroValue127
  t53 := Tryz.underlying22
  a53 := Tryz.isAgg22
  z53 := Tryz.sizeOf22
  v53 := Tryz.zeroValue22 }
/-- bits.LeadingZeros64: "LeadingZeros64 returns the number of leading zero bits in x; the result is 64 for x == 0.": IT RETURNS '64 - Lib.bitLen x'; the world is as it was. ITS CALLEE bits.Len64 IS MET BY ITS OWN CONTRACT OFF THE SHELF (lay that first): entered in place it sends the kernel out of memory. (LAID: no walk: one application.) -/
theorem Tryz.bits_LeadingZeros64 (x : Int) (w : World) (h0 : 0 ≤ x) (h1 : x ≤ 18446744073709551615) :
    Calls Tryz.prog 321 #[.int .u64 x] w fun e w' => e = .returned (.int .i64 (64 - (Lib.bitLen x.toNat : Int))) ∧ w' = w := Any.bits_LeadingZeros64 Tryz.lays134 x w h0 h1
def Tryz.lays129_ren : Go.Shelf.Ren := ⟨fun | 129 => 278 | n => n, fun | 53 => 22 | 3 => 3 | 4 => 4 | 46 => 127 | 5 => 5 | 9 => 9 | n => n, fun | n => n⟩
theorem Tryz.lays129 : Go.Proofs.Lays.n129 Tryz.prog Tryz.lays129_ren := {
  mixed := by kernel_rfl
  f129 := Tryz.func278.trans (congrArg some (by kernel_rfl))
  t3 := Tryz.underlying3
  a3 := Tryz.isAgg3
  z3 := Tryz.sizeOf3
  v3 := Tryz.zeroValue3
  t4 := Tryz.underlying4
  a4 := Tryz.isAgg4
  z4 := Tryz.sizeOf4
  v4 := Tryz.zeroValue4
  t5 := Tryz.underlying5
  a5 := Tryz.isAgg5
  z5 := Tryz.sizeOf5
  v5 := Tryz.zeroValue5
  t9 := Tryz.underlying9
  a9 := Tryz.isAgg9
  z9 := Tryz.sizeOf9
  v9 := Tryz.zeroValue9
  t46 := Tryz.underlying127
  a46 := Tryz.isAgg127
  z46 := Tryz.sizeOf127
  v46 := Tryz.zeroValue127
  t53 := Tryz.underlying22
  a53 := Tryz.isAgg22
  z53 := Tryz.sizeOf22
  v53 := Tryz.zeroValue22 }
/-- bits.Len64: "Len64 returns the minimum number of bits required to represent x; the result is 0 for x == 0.": IT RETURNS 'Lib.bitLen x'; the world is as it was. ('h0', 'h1': x is a uint64.) (LAID: no walk: one application.) -/
theorem Tryz.bits_Len64 (x : Int) (w : World) (h0 : 0 ≤ x) (h1 : x ≤ 18446744073709551615) :
    Calls Tryz.prog 278 #[.int .u64 x] w fun e w' => e = .returned (.int .i64 (Lib.bitLen x.toNat)) ∧ w' = w := Any.bits_Len64 Tryz.lays129 x w h0 h1
def Tryz.lays264_ren : Go.Shelf.Ren := ⟨fun | 264 => 305 | n => n, fun | 53 => 22 | 46 => 127 | n => n, fun | n => n⟩
theorem Tryz.lays264 : Go.Proofs.Lays.n264 Tryz.prog Tryz.lays264_ren := {
  mixed := by kernel_rfl
  f264 := Tryz.func305.trans (congrArg some (by kernel_rfl))
  t46 := Tryz.underlying127
  a46 := Tryz.isAgg127
  z46 := Tryz.sizeOf127
  v46 := Tryz.zeroValue127
  t53 := Tryz.underlying22
  a53 := Tryz.isAgg22
  z53 := Tryz.sizeOf22
  v53 := Tryz.zeroValue22 }
open Go.RowKit Go.Lib in
theorem Tryz.bits_Mul64 (x y : Nat) (hx : x < 18446744073709551616) (hy : y < 18446744073709551616) (w : World) :
    Calls Tryz.prog 305 #[.int .u64 x, .int .u64 y] w fun e w' => e = .returned (.tuple #[.int .u64 ((x * y / 18446744073709551616 : Nat) : Int), .int .u64 ((x * y % 18446744073709551616 : Nat) : Int)]) ∧ w' = w := Any.bits_Mul64 Tryz.lays264 x y hx hy w
end Go.Proofs
namespace Go.Proofs.YtaingnhikbaplaaGreat
set_option linter.unusedVariables false
open Go.RowKit

theorem mul64_calls (x y : Nat) (hx : x < 18446744073709551616) (hy : y < 18446744073709551616) (w : World) :
    Calls Tryz.prog 305 #[.int .u64 x, .int .u64 y] w fun e w' => e = .returned (.tuple #[.int .u64 (mulH x y : Nat), .int .u64 (mulL x y : Nat)]) ∧ w' = w :=
  Tryz.bits_Mul64 x y hx hy w
theorem ex_Mul64 {x y : Nat} (hx : x < 18446744073709551616) (hy : y < 18446744073709551616) : ∃ h l : Nat, (∀ w, Calls Tryz.prog 305 #[.int .u64 x, .int .u64 y] w fun e w' => e = .returned (.tuple #[.int .u64 (h : Nat), .int .u64 (l : Nat)]) ∧ w' = w) ∧ h ≤ 18446744073709551614 ∧ l < 18446744073709551616 ∧ Hid (l + 18446744073709551616 * h = x * y) :=
  ⟨_, _, mul64_calls x y hx hy, mulH_le hx hy, mulL_lt _ _, mulHL x y⟩

def TwPost (A y : Nat) (w : World) (e : Ending) (w' : World) : Prop :=
  ∃ s0 s1 s2 s3 o : Nat, e = .returned (.tuple #[.int .u64 o, .agg #[.int .u64 s0, .int .u64 s1, .int .u64 s2, .int .u64 s3]]) ∧ ok4 s0 s1 s2 s3 ∧ o < 18446744073709551616 ∧ val4 s0 s1 s2 s3 + 115792089237316195423570985008687907853269984665640564039457584007913129639936 * o = A * y ∧ Below w.heap.size w w'

/-- one round's numbers -/
theorem ex_tw {x y o : Nat} (hx : x < 18446744073709551616) (hy : y < 18446744073709551616) (ho : o < 18446744073709551616) : ∃ h l d b p : Nat, (∀ w, Calls Tryz.prog 305 #[.int .u64 x, .int .u64 y] w fun e w' => e = .returned (.tuple #[.int .u64 (h : Nat), .int .u64 (l : Nat)]) ∧ w' = w) ∧
    (∀ w, (callFunc 248 #[.int .u64 (l : Int), .int .u64 (o : Int), .int .u64 0]).run Tryz.prog w = .ok (.value (.tuple #[.int .u64 (d : Int), .int .u64 (b : Int)])) w) ∧ h ≤ 18446744073709551614 ∧ b ≤ 1 ∧ d < 18446744073709551616 ∧ p < 18446744073709551616 ∧ ((h : Int) + (b : Int) = (p : Int)) ∧ Hid (d + 18446744073709551616 * p = x * y + o) := by
  obtain ⟨h, l, r, hh, hl, e⟩ := ex_Mul64 hx hy
  obtain ⟨d, b, r', hd, hb, e'⟩ := ex_Add64z hl ho
  exact ⟨h, l, d, b, h + b, r, r', hh, hb, hd, by omega, by omega, Lib.hid (by have := e.out; have := e'.out; omega)⟩
theorem ex_twz {x y : Nat} (hx : x < 18446744073709551616) (hy : y < 18446744073709551616) : ∃ h l d b p : Nat, (∀ w, Calls Tryz.prog 305 #[.int .u64 x, .int .u64 y] w fun e w' => e = .returned (.tuple #[.int .u64 (h : Nat), .int .u64 (l : Nat)]) ∧ w' = w) ∧
    (∀ w, (callFunc 248 #[.int .u64 (l : Int), .int .u64 0, .int .u64 0]).run Tryz.prog w = .ok (.value (.tuple #[.int .u64 (d : Int), .int .u64 (b : Int)])) w) ∧ h ≤ 18446744073709551614 ∧ b ≤ 1 ∧ d < 18446744073709551616 ∧ p < 18446744073709551616 ∧ ((h : Int) + (b : Int) = (p : Int)) ∧ Hid (d + 18446744073709551616 * p = x * y) := by
  obtain ⟨h, l, d, b, p, r, r', hh, hb, hd, hp, q, e⟩ := ex_tw hx hy (by omega : 0 < 18446744073709551616)
  exact ⟨h, l, d, b, p, r, r', hh, hb, hd, hp, q, e⟩

theorem tw_calls (a0 a1 a2 a3 y : Nat) (ha : ok4 a0 a1 a2 a3) (hy : y < 18446744073709551616) (w : World) :
    Calls Tryz.prog 320 #[.agg #[.int .u64 a0, .int .u64 a1, .int .u64 a2, .int .u64 a3], .int .u64 y] w (TwPost (val4 a0 a1 a2 a3) y w) := by
  obtain ⟨h0, l0, d0, b0, o0, m0, r0, bh0, bb0, bd0, bo0, q0, e0⟩ := ex_twz ha.1 hy
  obtain ⟨h1, l1, d1, b1, o1, m1, r1, bh1, bb1, bd1, bo1, q1, e1⟩ := ex_tw ha.2.1 hy bo0
  obtain ⟨h2, l2, d2, b2, o2, m2, r2, bh2, bb2, bd2, bo2, q2, e2⟩ := ex_tw ha.2.2.1 hy bo1
  obtain ⟨h3, l3, d3, b3, o3, m3, r3, bh3, bb3, bd3, bo3, q3, e3⟩ := ex_tw ha.2.2.2 hy bo2
  have HF : Hid (val4 d0 d1 d2 d3 + 115792089237316195423570985008687907853269984665640564039457584007913129639936 * o3 = val4 a0 a1 a2 a3 * y) := Lib.hid (by
    have := e0.out; have := e1.out; have := e2.out; have := e3.out
    unfold val4; simp only [Nat.add_mul, Nat.mul_assoc]; omega)
  clear e0 e1 e2 e3
  go_enter Tryz.func320, Tryz.ntmps320
  go_wp2_with fail
  refine wp_loop_rounds 5 ?_
  rw [rounds_succ]
  go_wp2_with fail
  refine (m0 _).mono ?_
  rintro e w' ⟨rfl, rfl⟩
  go_wp2_with fail
  rw [rounds_succ]
  go_wp2_with fail
  refine (m1 _).mono ?_
  rintro e w' ⟨rfl, rfl⟩
  go_wp2_with fail
  rw [rounds_succ]
  go_wp2_with fail
  refine (m2 _).mono ?_
  rintro e w' ⟨rfl, rfl⟩
  go_wp2_with fail
  rw [rounds_succ]
  go_wp2_with fail
  refine (m3 _).mono ?_
  rintro e w' ⟨rfl, rfl⟩
  go_wp2_with fail
  rw [rounds_succ]
  go_wp2_with fail
  go_region
  all_goals (
    go_wp2
    refine bodyPost_ret (v := .tuple #[.int .u64 o3, .agg #[.int .u64 d0, .int .u64 d1, .int .u64 d2, .int .u64 d3]]) (by simp [results, Tryz.results320, go_sem]) rfl ?_
    refine ⟨_, _, _, _, _, rfl, ⟨bd0, bd1, bd2, bd3⟩, bo3, HF.out, ?_⟩
    repeat (first | exact Below.refl _ _ | refine Below.drew ?_ | refine Below.alloc ?_ (by first | (simp; done) | (simp; omega)) _))
end Go.Proofs.YtaingnhikbaplaaGreat
