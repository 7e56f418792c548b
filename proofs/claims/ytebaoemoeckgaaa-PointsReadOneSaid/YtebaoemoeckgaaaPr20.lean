/-
  Identities of commutative rings, by reckoning with polynomials. Conditions: none.
  p has the root 3. Conditions: none.
  The tower is a tower of fields: what is not 0 has its inverse. Conditions: none.
  The tower's examples hold: alive answers true. Conditions: none.
  Numbers as they come in, by value: entries. Conditions: none.
  The calls of the reference's halves and join: for any number of four words, in any world, eight halves of words; and back. Conditions: each word below 2^64.
  A region that draws its order: operations in whatever order that make memory and call, held by one condition on what has come up, the frame and the world; behind them a tail in one forced order. Of whatever program. Conditions: as the law says.
-/
import Derived.Laws.StructEq
import Derived.StillTail
import Derived.RegionTactic
import Derived.KernelRfl
import Derived.Test.YtebaoemoeckgaaaPr09
import Derived.Test.YtebaoemoeckgaaaPr11
import Derived.Test.YtebaoemoeckgaaaPr01
import Derived.Test.YtebaoemoeckgaaaPr19
import Derived.Test.YtebaoemoeckgaaaPr12
import Derived.Test.YtebaoemoeckgaaaPr10
import Derived.Test.YtebaoemoeckgaaaPr00
namespace Go.Proofs.Ytebaoemoeckgaaa.Ex
set_option linter.unusedVariables false
set_option linter.unusedSimpArgs false

inductive RE | v (i : Nat) | add (a b : RE) | mul (a b : RE) | neg (a : RE) | zero | one
section
variable {R : Type} (K : CR R) (env : Nat → R)
def RE.den : RE → R
  | .v i => env i
  | .add a b => K.add (a.den) (b.den)
  | .mul a b => K.mul (a.den) (b.den)
  | .neg a => K.neg a.den
  | .zero => K.zero
  | .one => K.one
/-- n times x -/
def nt (x : R) : Nat → R
  | 0 => K.zero
  | n + 1 => K.add (nt x n) x
def zt (x : R) : Int → R
  | .ofNat n => nt K x n
  | .negSucc n => K.neg (nt K x (n + 1))
def mono : List Nat → R
  | [] => K.one
  | i :: r => K.mul (env i) (mono r)
def pden : List (Int × List Nat) → R
  | [] => K.zero
  | (c, m) :: r => K.add (zt K (mono K env m) c) (pden r)
end
def ltL : List Nat → List Nat → Bool
  | [], [] => false
  | [], _ :: _ => true
  | _ :: _, [] => false
  | a :: r, b :: s => bif Nat.blt a b then true else bif Nat.blt b a then false else ltL r s
def eqL : List Nat → List Nat → Bool
  | [], [] => true
  | a :: r, b :: s => bif Nat.beq a b then eqL r s else false
  | _, _ => false
theorem eqL_eq : ∀ {a b : List Nat}, eqL a b = true → a = b
  | [], [], _ => rfl
  | a :: r, b :: s, h => by
    unfold eqL at h
    cases hb : Nat.beq a b <;> rw [hb] at h
    · cases h
    · rw [Nat.eq_of_beq_eq_true hb, eqL_eq h]
  | [], _ :: _, h => by cases h
  | _ :: _, [], h => by cases h
/-- one monomial more -/
def ins (c : Int) (m : List Nat) : List (Int × List Nat) → List (Int × List Nat)
  | [] => [(c, m)]
  | (d, k) :: r => bif eqL m k then (c + d, k) :: r else bif ltL m k then (c, m) :: (d, k) :: r else (d, k) :: ins c m r
def padd : List (Int × List Nat) → List (Int × List Nat) → List (Int × List Nat)
  | [], q => q
  | (c, m) :: r, q => ins c m (padd r q)
def insM (i : Nat) : List Nat → List Nat
  | [] => [i]
  | j :: r => bif Nat.ble i j then i :: j :: r else j :: insM i r
def mulM : List Nat → List Nat → List Nat
  | [], m => m
  | i :: r, m => insM i (mulM r m)
def pmul1 (c : Int) (m : List Nat) : List (Int × List Nat) → List (Int × List Nat)
  | [] => []
  | (d, k) :: r => ins (c * d) (mulM m k) (pmul1 c m r)
def pmul : List (Int × List Nat) → List (Int × List Nat) → List (Int × List Nat)
  | [], _ => []
  | (c, m) :: r, q => padd (pmul1 c m q) (pmul r q)
def pneg : List (Int × List Nat) → List (Int × List Nat)
  | [] => []
  | (c, m) :: r => (-c, m) :: pneg r
def RE.norm : RE → List (Int × List Nat)
  | .v i => [(1, [i])]
  | .add a b => padd a.norm b.norm
  | .mul a b => pmul a.norm b.norm
  | .neg a => pneg a.norm
  | .zero => []
  | .one => [(1, [])]
def isZ : List (Int × List Nat) → Bool
  | [] => true
  | (.ofNat 0, _) :: r => isZ r
  | _ => false
section
variable {R : Type} (K : CR R) (env : Nat → R)
theorem nt_add (x : R) (n : Nat) : ∀ m, nt K x (n + m) = K.add (nt K x n) (nt K x m)
  | 0 => (K.add_zero _).symm
  | m + 1 => by show K.add (nt K x (n + m)) x = _; rw [nt_add x n m, K.add_assoc]; rfl
theorem neg_zero : K.neg K.zero = K.zero := by
  apply K.add_cancel (a := K.zero)
  rw [K.add_neg, K.add_zero]
theorem zt_sub (x : R) (n m : Nat) : zt K x (Int.subNatNat n m) = K.add (nt K x n) (K.neg (nt K x m)) := by
  unfold Int.subNatNat
  split
  · rename_i h
    have : n = m + (n - m) := by omega
    show nt K x (n - m) = _
    conv => rhs; rw [this, nt_add]
    rw [K.add_comm (nt K x m), K.add_assoc, K.add_neg, K.add_zero]
  · rename_i k h
    have : m = n + (k + 1) := by omega
    show K.neg (nt K x (k + 1)) = K.add (nt K x n) (K.neg (nt K x m))
    rw [this, nt_add K x n (k + 1), K.neg_add' (nt K x n), ← K.add_assoc, K.add_neg, K.zero_add]
theorem zt_add (x : R) (a b : Int) : zt K x (a + b) = K.add (zt K x a) (zt K x b) := by
  cases a with
  | ofNat n =>
    cases b with
    | ofNat m => exact nt_add K x n m
    | negSucc m => exact zt_sub K x n (m + 1)
  | negSucc n =>
    cases b with
    | ofNat m => show zt K x (Int.subNatNat m (n + 1)) = _; rw [zt_sub, K.add_comm]; rfl
    | negSucc m =>
      show K.neg (nt K x (n + m + 1 + 1)) = K.add (K.neg (nt K x (n + 1))) (K.neg (nt K x (m + 1)))
      rw [← K.neg_add', ← nt_add, show n + 1 + (m + 1) = n + m + 1 + 1 by omega]
theorem zt_neg (x : R) (a : Int) : zt K x (-a) = K.neg (zt K x a) := by
  apply K.add_cancel (a := zt K x a)
  rw [← zt_add, K.add_neg, Int.add_right_neg]
  rfl
theorem nt_mul (x y : R) (n : Nat) : ∀ m, K.mul (nt K x n) (nt K y m) = nt K (K.mul x y) (n * m)
  | 0 => K.mul_zero _
  | m + 1 => by
    show K.mul _ (K.add (nt K y m) y) = _
    rw [K.mul_add, nt_mul x y n m, Nat.mul_add, Nat.mul_one, nt_add]
    congr 1
    clear nt_mul
    induction n with
    | zero => exact K.zero_mul _
    | succ n ih => show K.mul (K.add (nt K x n) x) y = _; rw [K.add_mul, ih]; rfl
theorem zt_mul (x y : R) (a b : Int) : K.mul (zt K x a) (zt K y b) = zt K (K.mul x y) (a * b) := by
  have hn : ∀ (c : Int), ∃ n : Nat, c = n ∨ c = -(n : Int) := fun c => ⟨c.natAbs, Int.natAbs_eq c⟩
  have h0 : ∀ n m : Nat, K.mul (zt K x n) (zt K y m) = zt K (K.mul x y) ((n : Int) * m) := fun n m => by
    rw [← Int.natCast_mul]; exact nt_mul K x y n m
  obtain ⟨n, rfl | rfl⟩ := hn a
  · obtain ⟨m, rfl | rfl⟩ := hn b
    · exact h0 n m
    · rw [zt_neg, K.mul_neg, h0, Int.mul_neg, zt_neg]
  · obtain ⟨m, rfl | rfl⟩ := hn b
    · rw [zt_neg, K.neg_mul, h0, Int.neg_mul, zt_neg]
    · rw [zt_neg, zt_neg, K.neg_mul, K.mul_neg, K.neg_neg, h0, Int.neg_mul_neg]
theorem ins_den (c : Int) (m : List Nat) : ∀ q, pden K env (ins c m q) = K.add (zt K (mono K env m) c) (pden K env q)
  | [] => rfl
  | (d, k) :: r => by
    unfold ins
    cases he : eqL m k
    · cases hl : ltL m k
      · show K.add (zt K (mono K env k) d) (pden K env (ins c m r)) = K.add _ (K.add _ _)
        rw [ins_den c m r, K.add_left_comm]
      · rfl
    · rw [eqL_eq he]
      show K.add (zt K (mono K env k) (c + d)) (pden K env r) = K.add _ (K.add _ _)
      rw [zt_add, K.add_assoc]
theorem padd_den : ∀ p q, pden K env (padd p q) = K.add (pden K env p) (pden K env q)
  | [], q => (K.zero_add _).symm
  | (c, m) :: r, q => by
    show pden K env (ins c m (padd r q)) = K.add (K.add _ _) _
    rw [ins_den, padd_den r q, K.add_assoc]
theorem insM_den (i : Nat) : ∀ m, mono K env (insM i m) = K.mul (env i) (mono K env m)
  | [] => rfl
  | j :: r => by
    unfold insM
    cases Nat.ble i j
    · show K.mul (env j) (mono K env (insM i r)) = K.mul _ (K.mul _ _)
      rw [insM_den i r, K.mul_left_comm]
    · rfl
theorem mulM_den : ∀ m k, mono K env (mulM m k) = K.mul (mono K env m) (mono K env k)
  | [], k => (K.one_mul _).symm
  | i :: r, k => by
    show mono K env (insM i (mulM r k)) = K.mul (K.mul _ _) _
    rw [insM_den, mulM_den r k, K.mul_assoc]
theorem pmul1_den (c : Int) (m : List Nat) : ∀ q, pden K env (pmul1 c m q) = K.mul (zt K (mono K env m) c) (pden K env q)
  | [] => (K.mul_zero _).symm
  | (d, k) :: r => by
    show pden K env (ins (c * d) (mulM m k) (pmul1 c m r)) = K.mul _ (K.add _ _)
    rw [ins_den, pmul1_den c m r, K.mul_add, mulM_den, zt_mul]
theorem pmul_den : ∀ p q, pden K env (pmul p q) = K.mul (pden K env p) (pden K env q)
  | [], q => (K.zero_mul _).symm
  | (c, m) :: r, q => by
    show pden K env (padd (pmul1 c m q) (pmul r q)) = K.mul (K.add _ _) _
    rw [padd_den, pmul1_den, pmul_den r q, K.add_mul]
theorem pneg_den : ∀ p, pden K env (pneg p) = K.neg (pden K env p)
  | [] => (neg_zero K).symm
  | (c, m) :: r => by
    show K.add (zt K (mono K env m) (-c)) (pden K env (pneg r)) = K.neg (K.add _ _)
    rw [pneg_den r, K.neg_add', zt_neg]
theorem norm_den : ∀ e : RE, pden K env e.norm = e.den K env
  | .v i => by show K.add (K.add K.zero (K.mul (env i) K.one)) K.zero = env i; rw [K.add_zero, K.zero_add, K.mul_one]
  | .add a b => by show pden K env (padd _ _) = K.add _ _; rw [padd_den, norm_den a, norm_den b]
  | .mul a b => by show pden K env (pmul _ _) = K.mul _ _; rw [pmul_den, norm_den a, norm_den b]
  | .neg a => by show pden K env (pneg _) = K.neg _; rw [pneg_den, norm_den a]
  | .zero => rfl
  | .one => by show K.add (K.add K.zero K.one) K.zero = K.one; rw [K.add_zero, K.zero_add]
theorem isZ_den : ∀ p, isZ p = true → pden K env p = K.zero
  | [], _ => rfl
  | (.ofNat 0, m) :: r, h => by
    show K.add K.zero (pden K env r) = _
    rw [K.zero_add]
    exact isZ_den r h
  | (.ofNat (_ + 1), _) :: _, h => by cases h
  | (.negSucc _, _) :: _, h => by cases h
/-- two expressions are one, if their difference has no monomial -/
theorem ring_id (a b : RE) (h : isZ (RE.norm (.add a (.neg b))) = true) : a.den K env = b.den K env := by
  have := isZ_den K env _ h
  rw [norm_den] at this
  have h2 : K.add (K.add (a.den K env) (K.neg (b.den K env))) (b.den K env) = K.add K.zero (b.den K env) := congrArg (fun x => K.add x (b.den K env)) this
  rwa [K.add_assoc, K.neg_add, K.add_zero, K.zero_add] at h2
end
/-- variables of an identity -/
def envL {R : Type} (K : CR R) (l : List R) (i : Nat) : R := (l[i]?).getD K.zero
end Go.Proofs.Ytebaoemoeckgaaa.Ex
namespace Go.Proofs.Ytebaoemoeckgaaa
theorem fpRoot : Root FP.M 3 := by
  rw [show FP.M = 21888242871839275222246405745257275088696311157297823662689037894645226208583 from by decide]
  exact root_P
end Go.Proofs.Ytebaoemoeckgaaa
namespace Go.Proofs.Ytebaoemoeckgaaa.Ex
set_option linter.unusedVariables false
set_option linter.unusedSimpArgs false

/-- what is not 0 has an inverse -/
def Fld {R : Type} (K : CR R) : Prop := K.one ≠ K.zero ∧ ∀ x, x ≠ K.zero → ∃ y, K.mul x y = K.one
theorem Fld.zd {R : Type} {K : CR R} (h : Fld K) {a b : R} (e : K.mul a b = K.zero) (ha : a ≠ K.zero) : b = K.zero := by
  obtain ⟨y, hy⟩ := h.2 a ha
  have := congrArg (K.mul y) e
  rwa [← K.mul_assoc, K.mul_comm y, hy, K.one_mul, K.mul_zero] at this
theorem sq_zero {R : Type} {K : CR R} (h : Fld K) {a : R} (e : K.mul a a = K.zero) : a = K.zero := by
  by_cases ha : a = K.zero
  · exact ha
  · exact h.zd e ha
theorem F1_ne : F1.one ≠ F1.zero := fun h => by have := congrArg Fin.val h; exact absurd this (by decide)
theorem fq_ne {x : Fq} (h : x ≠ F1.zero) : 0 < x.1 := by
  rcases Nat.eq_zero_or_pos x.1 with h0 | h0
  · exact absurd (Fin.ext h0 : x = F1.zero) h
  · exact h0
theorem finv_mul {x : Fq} (h : x ≠ F1.zero) : F1.mul x (finv x) = F1.one := by
  apply Fin.ext
  show x.1 * (finv x).1 % FP.M = 1
  rw [finv_val, Nat.one_mul]
  exact inv_mul fpRoot (by decide) (fq_ne h) x.2
theorem fld1' : Fld F1 := ⟨F1_ne, fun x h => ⟨_, finv_mul h⟩⟩
theorem ferm {n : Nat} (h0 : 0 < n) (h : n < FP.M) : n ^ (FP.M - 1) % FP.M = 1 := fermat fpRoot h0 h
def pThird : Nat := (FP.M - 1) / 3
def pHalf : Nat := (FP.M - 1) / 2
theorem third_eq : 3 * pThird = FP.M - 1 := by decide
theorem half_eq : 2 * pHalf = FP.M - 1 := by decide
theorem neg_val : (FP.M - 1) ^ pHalf % FP.M ≠ 1 := by
  rw [← pm_eq FP.M 256 (FP.M - 1) pHalf (by decide)]
  exact of_decide_eq_true (by kernel_rfl)
theorem no_neg (n : Fq) : F1.mul n n ≠ F1.neg F1.one := fun h => by
  have hv : n.1 ^ 2 % FP.M = FP.M - 1 := by
    have := congrArg Fin.val h
    have e : n.1 * n.1 % FP.M = (0 + FP.M - 1) % FP.M := this
    rw [Nat.pow_two, e]; decide
  have h0 : 0 < n.1 := by
    rcases Nat.eq_zero_or_pos n.1 with h0 | h0
    · rw [h0] at hv; exact absurd hv (by decide)
    · exact h0
  have := ferm h0 n.2
  rw [← half_eq, Nat.pow_mul, Nat.pow_mod, hv] at this
  exact neg_val this
/-- a quotient's square, its cube -/
theorem div_sq {R : Type} {K : CR R} (h : Fld K) {a b q : R} (hb : b ≠ K.zero) (e : K.mul a a = K.mul q (K.mul b b)) : ∃ t, K.mul t t = q := by
  obtain ⟨y, hy⟩ := h.2 b hb
  refine ⟨K.mul a y, ?_⟩
  have h1 : K.mul (K.mul a y) (K.mul a y) = K.mul (K.mul a a) (K.mul y y) := ring_id K (envL K [a, y]) (.mul (.mul (.v 0) (.v 1)) (.mul (.v 0) (.v 1))) (.mul (.mul (.v 0) (.v 0)) (.mul (.v 1) (.v 1))) (by decide)
  have h2 : K.mul (K.mul q (K.mul b b)) (K.mul y y) = K.mul q (K.mul (K.mul b y) (K.mul b y)) := ring_id K (envL K [q, b, y]) (.mul (.mul (.v 0) (.mul (.v 1) (.v 1))) (.mul (.v 2) (.v 2))) (.mul (.v 0) (.mul (.mul (.v 1) (.v 2)) (.mul (.v 1) (.v 2)))) (by decide)
  rw [h1, e, h2, hy, K.mul_one, K.mul_one]
theorem nm2_zero {x : Q2} (h : nm2 x = F1.zero) : x = F2.zero := by
  have h1 : F1.mul x.1 x.1 = F1.mul (F1.neg F1.one) (F1.mul x.2 x.2) := by
    rw [F1.neg_mul, F1.one_mul]
    apply F1.add_cancel (a := F1.mul x.2 x.2)
    rw [F1.add_neg, F1.add_comm]
    exact h
  by_cases hb : x.2 = F1.zero
  · rw [hb, F1.mul_zero, F1.mul_zero] at h1
    exact Prod.ext (sq_zero fld1' h1) hb
  · obtain ⟨t, ht⟩ := div_sq fld1' hb h1
    exact absurd ht (no_neg t)
theorem F2_inv {x : Q2} (h : nm2 x ≠ F1.zero) : F2.mul x (iv2 x) = F2.one := by
  have hi := finv_mul h
  refine Prod.ext ?_ ?_
  · show F1.add (F1.mul x.1 (F1.mul x.1 (finv (nm2 x)))) (F1.mul (F1.neg F1.one) (F1.mul x.2 (F1.mul (F1.neg x.2) (finv (nm2 x))))) = F1.one
    refine Eq.trans ?_ hi
    exact ring_id F1 (envL F1 [x.1, x.2, finv (nm2 x)]) (.add (.mul (.v 0) (.mul (.v 0) (.v 2))) (.mul (.neg .one) (.mul (.v 1) (.mul (.neg (.v 1)) (.v 2))))) (.mul (.add (.mul (.v 0) (.v 0)) (.mul (.v 1) (.v 1))) (.v 2)) (by decide)
  · show F1.add (F1.mul x.1 (F1.mul (F1.neg x.2) (finv (nm2 x)))) (F1.mul x.2 (F1.mul x.1 (finv (nm2 x)))) = F1.zero
    exact ring_id F1 (envL F1 [x.1, x.2, finv (nm2 x)]) (.add (.mul (.v 0) (.mul (.neg (.v 1)) (.v 2))) (.mul (.v 1) (.mul (.v 0) (.v 2)))) .zero (by decide)
theorem fld2 : Fld F2 := ⟨fun h => F1_ne (congrArg Prod.fst h), fun x h => ⟨_, F2_inv fun e => h (nm2_zero e)⟩⟩
theorem nm2_mul (x y : Q2) : nm2 (F2.mul x y) = F1.mul (nm2 x) (nm2 y) :=
  ring_id F1 (envL F1 [x.1, x.2, y.1, y.2]) (.add (.mul (.add (.mul (.v 0) (.v 2)) (.mul (.neg .one) (.mul (.v 1) (.v 3)))) (.add (.mul (.v 0) (.v 2)) (.mul (.neg .one) (.mul (.v 1) (.v 3))))) (.mul (.add (.mul (.v 0) (.v 3)) (.mul (.v 1) (.v 2))) (.add (.mul (.v 0) (.v 3)) (.mul (.v 1) (.v 2)))))
    (.mul (.add (.mul (.v 0) (.v 0)) (.mul (.v 1) (.v 1))) (.add (.mul (.v 2) (.v 2)) (.mul (.v 3) (.v 3)))) (by decide)
end Go.Proofs.Ytebaoemoeckgaaa.Ex
namespace Go.Proofs.Ytebaoemoeckgaaa.Ex
set_option linter.unusedVariables false
set_option linter.unusedSimpArgs false
open Go.RowKit

theorem m1_nv (x : Fq) : m1 x.1 = x := Fin.ext (by show wv x.1 % FP.M = x.1; unfold wv; rw [fw_valp x.2, Nat.mod_eq_of_lt x.2])
def z0 : At := .f F1.zero
theorem ok_al (c : Bool) : TabOk Try.prog (T_B c) := ok_B c (ok_base c)
end Go.Proofs.Ytebaoemoeckgaaa.Ex
namespace Go.Proofs.Ytebaoemoeckgaaa.Ex
set_option linter.unusedVariables false
set_option linter.unusedSimpArgs false
open Go.RowKit

/-- numbers as they come in, by value -/
def vl : At → Option Fq
  | .f x => some x
  | .q x => some (m1 x)
  | .c _ => none
def vls : List At → Option (List Fq)
  | [] => some []
  | a :: r => match vl a, vls r with | some x, some l => some (x :: l) | _, _ => none
def rv1 (l : List At) : Option Fq := match vls l with | some [a] => some a | _ => none
def Rdv {α γ : Type} (rd : List At → Option α) (qn : γ → List At) (mm : γ → α) : Prop := ∀ l x, rd l = some x → ∃ n, flat l = flat (qn n) ∧ mm n = x
theorem vls_ok : ∀ {l : List At} {m : List Fq}, vls l = some m → ∃ ns : List Nat, flat l = flat (ns.map At.q) ∧ ns.map m1 = m
  | [], m, h => by cases h; exact ⟨[], rfl, rfl⟩
  | a :: r, m, h => by
    unfold vls at h
    split at h
    · rename_i x l' h1 h2
      cases h
      obtain ⟨ns, e1, e2⟩ := vls_ok h2
      cases a with
      | f y => cases h1; exact ⟨x.1 :: ns, by show w4 x.1 ++ flat r = w4 x.1 ++ flat (ns.map At.q); rw [e1], by rw [List.map_cons, e2, m1_nv]⟩
      | q y => cases h1; exact ⟨y :: ns, by show w4 y ++ flat r = w4 y ++ flat (ns.map At.q); rw [e1], by rw [List.map_cons, e2]⟩
      | c v => cases h1
    · cases h
theorem rv1_ok : Rdv rv1 q1 m1 := fun l x h => by
  unfold rv1 at h
  split at h
  · rename_i a hn
    cases h
    obtain ⟨ns, e1, e2⟩ := vls_ok hn
    match ns, e2 with
    | [n], e2 => cases e2; exact ⟨n, e1, rfl⟩
  · cases h
theorem g1v_ok {P : Program} {f : FuncId} {α γ : Type} {rd : List At → Option α} {qn : γ → List At} {mm : γ → α} (hr : Rdv rd qn mm) {op : α → List Prop × RV} (h : ∀ x, allP (op (mm x)).1 → ∀ args w, CAs w [.v (.fl (qn x))] args → Good P f (op (mm x)).2 args w) :
    ∀ cs pre r, g1 rd op cs = some (pre, r) → allP pre → ∀ (args : List Value) (w : World), CAs w cs args → Good P f r args w := by
  intro cs pre r hg hp args w ha
  unfold g1 at hg
  split at hg
  · rename_i l
    split at hg
    · rename_i x hx
      obtain ⟨n, e1, rfl⟩ := hr l x hx
      have e : op (mm n) = (pre, r) := by simpa using hg
      have := h n (by rw [e]; exact hp) args w (by
        rw [args1 ha, e1]
        exact ⟨rfl, trivial⟩)
      rw [e] at this
      exact this
    · cases hg
  · cases hg
theorem g2v_ok {P : Program} {f : FuncId} {α γ α' γ' : Type} {rd : List At → Option α} {qn : γ → List At} {mm : γ → α} {rd' : List At → Option α'} {qn' : γ' → List At} {mm' : γ' → α'} (hr : Rdv rd qn mm) (hr' : Rdv rd' qn' mm') {op : α → α' → List Prop × RV}
    (h : ∀ x y, allP (op (mm x) (mm' y)).1 → ∀ args w, CAs w [.v (.fl (qn x)), .v (.fl (qn' y))] args → Good P f (op (mm x) (mm' y)).2 args w) :
    ∀ cs pre r, g2 rd rd' op cs = some (pre, r) → allP pre → ∀ (args : List Value) (w : World), CAs w cs args → Good P f r args w := by
  intro cs pre r hg hp args w ha
  unfold g2 at hg
  split at hg
  · rename_i l m
    split at hg
    · rename_i x y hx hy
      obtain ⟨n, e1, rfl⟩ := hr l x hx
      obtain ⟨n', e2, rfl⟩ := hr' m y hy
      have e : op (mm n) (mm' n') = (pre, r) := by simpa using hg
      have := h n n' (by rw [e]; exact hp) args w (by
        rw [args2 ha, e1, e2]
        exact ⟨rfl, rfl, trivial⟩)
      rw [e] at this
      exact this
    · cases hg
  · cases hg

end Go.Proofs.Ytebaoemoeckgaaa.Ex
namespace Go.Proofs.Ytebaoemoeckgaaa
set_option linter.unusedVariables false
set_option linter.unusedSimpArgs false
open Go.RowKit

def val8 (a0 a1 a2 a3 a4 a5 a6 a7 : Nat) : Nat := a0 + 4294967296 * (a1 + 4294967296 * (a2 + 4294967296 * (a3 + 4294967296 * (a4 + 4294967296 * (a5 + 4294967296 * (a6 + 4294967296 * a7))))))
def ok8 (a0 a1 a2 a3 a4 a5 a6 a7 : Nat) : Prop := a0 < 4294967296 ∧ a1 < 4294967296 ∧ a2 < 4294967296 ∧ a3 < 4294967296 ∧ a4 < 4294967296 ∧ a5 < 4294967296 ∧ a6 < 4294967296 ∧ a7 < 4294967296
theorem ex_half {a : Nat} (ha : a < 18446744073709551616) : ∃ l h : Nat, bits .and .u64 (a : Int) 4294967295 = (l : Int) ∧ (a : Int) / 4294967296 = (h : Int) ∧ l < 4294967296 ∧ h < 4294967296 ∧ Hid (l + 4294967296 * h = a) := by
  obtain ⟨h, l, e1, e2, h1, h2, e⟩ := dv_half ha
  exact ⟨l, h, e2, e1, h2, h1, Lib.hid (by omega)⟩
def HalvesPost (A : Nat) (w : World) (e : Ending) (w' : World) : Prop :=
  ∃ h0 h1 h2 h3 h4 h5 h6 h7 : Nat, e = .returned (.agg #[.int .u64 h0, .int .u64 h1, .int .u64 h2, .int .u64 h3, .int .u64 h4, .int .u64 h5, .int .u64 h6, .int .u64 h7]) ∧ ok8 h0 h1 h2 h3 h4 h5 h6 h7 ∧ Hid (val8 h0 h1 h2 h3 h4 h5 h6 h7 = A) ∧ Below w.heap.size w w'

set_option maxHeartbeats 1000000 in
theorem halves_calls (a0 a1 a2 a3 : Nat) (ha : ok4 a0 a1 a2 a3) (w : World) :
    Calls Try.prog 94 #[.agg #[.int .u64 a0, .int .u64 a1, .int .u64 a2, .int .u64 a3]] w (HalvesPost (val4 a0 a1 a2 a3) w) := by
  obtain ⟨h0, h1, d0, d1, b0, b1, e0⟩ := ex_half ha.1
  obtain ⟨h2, h3, d2, d3, b2, b3, e1⟩ := ex_half ha.2.1
  obtain ⟨h4, h5, d4, d5, b4, b5, e2⟩ := ex_half ha.2.2.1
  obtain ⟨h6, h7, d6, d7, b6, b7, e3⟩ := ex_half ha.2.2.2
  go_enter Try.func94, Try.ntmps94
  go_wp2_with fail
  refine wp_loop_rounds 5 ?_
  rw [rounds_succ]
  go_wp2_with fail
  rw [rounds_succ]
  go_wp2_with fail
  rw [rounds_succ]
  go_wp2_with fail
  rw [rounds_succ]
  go_wp2_with fail
  rw [rounds_succ]
  go_wp2_with fail
  refine bodyPost_ret (v := .agg #[.int .u64 h0, .int .u64 h1, .int .u64 h2, .int .u64 h3, .int .u64 h4, .int .u64 h5, .int .u64 h6, .int .u64 h7]) (by simp [results, Try.results94, go_sem]) rfl ?_
  refine ⟨h0, h1, h2, h3, h4, h5, h6, h7, rfl, ⟨b0, b1, b2, b3, b4, b5, b6, b7⟩, ?_, ?_⟩
  · have := e0.out; have := e1.out; have := e2.out; have := e3.out
    exact Lib.hid (by unfold val4 val8; omega)
  repeat (first | exact Below.refl _ _ | refine Below.drew ?_ | refine Below.alloc ?_ (by first | (simp; done) | (simp; omega)) _)

theorem ex_join {l h : Nat} (hl : l < 4294967296) (hh : h < 4294967296) : ∃ u s : Nat, (h : Int) * 4294967296 = (u : Int) ∧ bits .or .u64 (l : Int) (u : Int) = (s : Int) ∧ u < 18446744073709551616 ∧ s < 18446744073709551616 ∧ Hid (s = l + 4294967296 * h) := by
  obtain ⟨s, e, hs, f⟩ := ex_or' (k := 32) (lo := l) (up := h * 4294967296) (by omega) (by omega) (Lib.hid (by omega)) (Lib.hid ⟨h, by omega⟩)
  have := f.out
  exact ⟨h * 4294967296, s, by omega, e, by omega, hs, Lib.hid (by omega)⟩

end Go.Proofs.Ytebaoemoeckgaaa
namespace Go.Proofs.Ytebaoemoeckgaaa
set_option linter.unusedVariables false

section
variable {P : Program} {ops : Array Oper} {Q : Exit → Act → World → Prop} {md : Region.Mode}

/-- each operation below n waits only for lower ones -/
def backB (md : Region.Mode) (ops : Array Oper) (n : Nat) : Bool :=
  (List.range n).all fun i => match ops[i]? with
    | some o => o.after.all fun e => !Region.binds md e || decide (e.on < i)
    | none => false
/-- all that number i waits for has come up -/
def readyB (md : Region.Mode) (ops : Array Oper) (got : Nat → Bool) (i : Nat) : Bool :=
  match ops[i]? with
    | some o => o.after.all fun e => !Region.binds md e || got e.on
    | none => false
/-- how many of those below n have not come up -/
def undone (listed : Array Bool) : Nat → Nat
  | 0 => 0
  | n + 1 => undone listed n + if listed.getD n false = true then 0 else 1
theorem undone_succ (listed : Array Bool) (n : Nat) : undone listed (n + 1) = undone listed n + if listed.getD n false = true then 0 else 1 := rfl
theorem undone_set {listed : Array Bool} {i : Nat} (hi : i < listed.size) (h : listed.getD i false = false) : ∀ n, undone (listed.setIfInBounds i true) n + (if i < n then 1 else 0) = undone listed n
  | 0 => by simp [undone]
  | n + 1 => by
    have ih := undone_set hi h n
    rw [undone_succ, undone_succ]
    by_cases e : i = n
    · subst e
      have h1 : (listed.setIfInBounds i true).getD i false = true := by simp [hi]
      rw [h1, h]
      simp at ih ⊢
      omega
    · rw [getD_set_ne false e]
      by_cases h2 : i < n
      · rw [if_pos h2] at ih; rw [if_pos (show i < n + 1 by omega)]; omega
      · rw [if_neg h2] at ih; rw [if_neg (show ¬ i < n + 1 by omega)]; omega
theorem undone_zero {listed : Array Bool} : ∀ {n : Nat}, undone listed n = 0 → ∀ j, j < n → listed.getD j false = true
  | 0, _, j, hj => by omega
  | n + 1, h, j, hj => by
    rw [undone_succ] at h
    by_cases e : listed.getD n false = true
    · rw [if_pos e] at h
      rcases Nat.lt_or_ge j n with h1 | h1
      · exact undone_zero (by omega) j h1
      · obtain rfl : j = n := by omega
        exact e
    · rw [if_neg e] at h; omega
theorem undone_some {listed : Array Bool} : ∀ {n : Nat}, 0 < undone listed n → ∃ j, j < n ∧ listed.getD j false = false ∧ ∀ k, k < j → listed.getD k false = true
  | 0, h => by unfold undone at h; omega
  | n + 1, h => by
    rcases Nat.eq_zero_or_pos (undone listed n) with h0 | h0
    · unfold undone at h
      rw [h0] at h
      refine ⟨n, by omega, ?_, undone_zero h0⟩
      cases e : listed.getD n false with
      | true => rw [e] at h; simp at h
      | false => rfl
    · obtain ⟨j, hj, h1, h2⟩ := undone_some h0
      exact ⟨j, by omega, h1, h2⟩

def headDone (n m : Nat) : Array Bool := Array.replicate n true ++ Array.replicate (m - n) false

theorem wpAny_of_inv {n : Nat} {Inv : (Nat → Bool) → Act → World → Prop} {l : List Oper} (hl : ops = l.toArray) (hn : n < ops.size)
    (hs : Region.sinkB md ops n = true) (hc : Region.chainB md ops n = true) (hb : backB md ops n = true) (hq : Region.seqB md ops (ops.size - n) n (headDone n ops.size) = true)
    (step : ∀ (got : Nat → Bool) b u i, i < n → got i = false → readyB md ops got i = true → Inv got b u → wpOp P ops Q i (Inv (fun j => j == i || got j)) b u)
    (tail : ∀ got b u, (∀ j, j < n → got j = true) → Inv got b u → wpList P ops Q (l.drop n) b u) :
    ∀ (m : Nat) (listed : Array Bool) (b : Act) (u : World), HeadInv md ops n listed → undone listed n = m → Inv (fun j => listed.getD j false) b u → wpAny P md ops Q (m + (ops.size - n)) listed b u
  | 0, listed, b, u, inv, hm, h => by
    have hall := undone_zero hm
    have he : listed = headDone n ops.size := by
      refine Array.ext (by simp [headDone, inv.size]; omega) fun j h1 h2 => ?_
      rcases Nat.lt_or_ge j n with hj | hj
      · have := hall j hj
        simp [h1] at this
        rw [this]
        simp [headDone, hj]
      · have := inv.tail j hj (by rw [← inv.size]; exact h1)
        simp [h1] at this
        rw [this]
        simp [headDone, hj]
    subst he
    have hlen : (l.drop n).length = ops.size - n := by subst hl; simp
    rw [Nat.zero_add, ← hlen]
    exact wpAny_of_seq (l.drop n) n _ b u (fun j => by subst hl; simp [List.getElem?_drop]) (by rw [hlen]; exact hq) (tail _ b u hall h)
  | m + 1, listed, b, u, inv, hm, h => by
    rw [show m + 1 + (ops.size - n) = m + (ops.size - n) + 1 by omega]
    refine ⟨fun h0 => ?_, fun i hi => ?_⟩
    · obtain ⟨j, hj, h1, h2⟩ := undone_some (n := n) (listed := listed) (by omega)
      have hjr : j ∈ Region.ready md ops listed := by
        have hbj := List.all_eq_true.1 hb j (List.mem_range.2 hj)
        cases ho : ops[j]? with
        | none => rw [ho] at hbj; cases hbj
        | some o =>
          rw [ho] at hbj
          refine mem_ready.2 ⟨getD_in (by rw [inv.size]; omega) h1, o, ho, fun e he hbi => h2 _ ?_⟩
          have := (Array.all_eq_true_iff_forall_mem.1 hbj) e he
          simp [hbi] at this
          exact this
      rw [h0] at hjr; cases hjr
    · obtain ⟨hun, o, ho, hall⟩ := mem_ready.1 hi
      have hin : i < n := by
        rcases Nat.lt_or_ge i n with h' | h'
        · exact h'
        · obtain ⟨j, hj, h1, h2⟩ := undone_some (n := n) (listed := listed) (by omega)
          exact absurd hi (tail_waits hs hc hn inv _ j rfl hj (getD_in (by rw [inv.size]; omega) h1) i h')
      have his : i < listed.size := by rw [inv.size]; omega
      have hun' := getD_both hun
      refine wpOp_mono (fun b' u' h' => ?_) (step _ b u i hin hun' (by
        unfold readyB
        rw [ho]
        refine Array.all_eq_true_iff_forall_mem.2 fun e he => ?_
        cases hbi : Region.binds md e with
        | false => rfl
        | true => simpa [hbi] using hall e he hbi) h)
      refine wpAny_of_inv hl hn hs hc hb hq step tail m _ b' u' (inv.set hi hin) ?_ ?_
      · have := undone_set his hun' n
        rw [if_pos hin] at this; omega
      · have hf : (fun j => (listed.setIfInBounds i true).getD j false) = fun j => j == i || listed.getD j false := by
          funext j
          by_cases e : j = i
          · subst e; simp [his]
          · rw [getD_set_ne false (Ne.symm e)]; simp [e]
        rw [hf]; exact h'

theorem undone_new (k : Nat) : ∀ n, undone (Array.replicate k false) n = n
  | 0 => rfl
  | n + 1 => by rw [undone_succ, undone_new k n, getD_replicate_false]; simp

/-- The law: n operations in whatever order under the condition Inv, then the others in theirs. -/
theorem region_head (n : Nat) (Inv : (Nat → Bool) → Act → World → Prop) {id : Nat} {a : Act} {w : World} {l : List Oper} (hm : P.follows .mixedOrders = true) (hn : n < l.length)
    (hs : Region.sinkB .any l.toArray n = true) (hc : Region.chainB .any l.toArray n = true) (hb : backB .any l.toArray n = true) (hq : Region.seqB .any l.toArray (l.toArray.size - n) n (headDone n l.toArray.size) = true)
    (start : Inv (fun _ => false) a w.drew)
    (step : ∀ (got : Nat → Bool) b u i, i < n → got i = false → readyB .any l.toArray got i = true → Inv got b u → wpOp P l.toArray Q i (Inv (fun j => j == i || got j)) b u)
    (tail : ∀ got b u, (∀ j, j < n → got j = true) → Inv got b u → wpList P l.toArray Q (l.drop n) b u) : (Code.region id l.toArray true).wp P Q a w := by
  have hn' : n < l.toArray.size := by simpa using hn
  have inv0 : HeadInv .any l.toArray n (Array.replicate l.toArray.size false) :=
    ⟨by simp, fun j oj _ hl => (by rw [getD_replicate_false] at hl; cases hl), fun t _ ht => getD_in (by simpa using ht) (getD_replicate_false _ _)⟩
  refine wp_region_any hm ?_
  have hf : (fun j => (Array.replicate l.toArray.size false).getD j false) = fun _ : Nat => false := by funext j; exact getD_replicate_false _ _
  have H := wpAny_of_inv (md := .any) rfl hn' hs hc hb hq step tail n _ a w.drew inv0 (undone_new _ n) (by rw [hf]; exact start)
  rw [show n + (l.toArray.size - n) = l.toArray.size by omega] at H
  exact H
end
end Go.Proofs.Ytebaoemoeckgaaa
