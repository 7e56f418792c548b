/-
  Commutative rings, their square and cubic extensions, by plain words.
  Towers of pairs and triples over Fp: how their elements lie flat; what a table of calls says of functions over them. Of whatever program. Conditions: none.
  The tower's parts in a table of calls. Conditions: none.
  Elements of Fp2 in a table of calls. Conditions: the parts' table is right.
  Identities of commutative rings, by reckoning with polynomials. Conditions: none.
  Elements of Fp6 in a table of calls. Conditions: the parts' table is right.
  Elements of Fp12 in a table of calls, and what the package exports. Conditions: the parts' table is right.
-/
import Derived.Test.YtgacpjmggdmgdaaGreatExec
import Derived.Test.YtgacpjmggdmgdaaGreatProg
import Derived.Test.YtgacpjmggdmgdaaGreatFldAll
namespace Go.Proofs.YtgacpjmggdmgdaaGreat
set_option linter.unusedVariables false
set_option linter.unusedSimpArgs false
/-- a commutative ring with one -/
structure CR (R : Type) where
  add : R → R → R
  mul : R → R → R
  neg : R → R
  zero : R
  one : R
  add_assoc : ∀ a b c, add (add a b) c = add a (add b c)
  add_comm : ∀ a b, add a b = add b a
  zero_add : ∀ a, add zero a = a
  neg_add : ∀ a, add (neg a) a = zero
  mul_assoc : ∀ a b c, mul (mul a b) c = mul a (mul b c)
  mul_comm : ∀ a b, mul a b = mul b a
  one_mul : ∀ a, mul one a = a
  mul_add : ∀ a b c, mul a (add b c) = add (mul a b) (mul a c)

namespace CR
variable {R : Type} (K : CR R)
theorem add_left_comm (a b c : R) : K.add a (K.add b c) = K.add b (K.add a c) := by rw [← K.add_assoc, K.add_comm a b, K.add_assoc]
theorem mul_left_comm (a b c : R) : K.mul a (K.mul b c) = K.mul b (K.mul a c) := by rw [← K.mul_assoc, K.mul_comm a b, K.mul_assoc]
theorem add_mul (a b c : R) : K.mul (K.add a b) c = K.add (K.mul a c) (K.mul b c) := by rw [K.mul_comm, K.mul_add, K.mul_comm c a, K.mul_comm c b]
theorem add_zero (a : R) : K.add a K.zero = a := by rw [K.add_comm, K.zero_add]
theorem add_neg (a : R) : K.add a (K.neg a) = K.zero := by rw [K.add_comm, K.neg_add]
theorem add_cancel {a b c : R} (h : K.add a b = K.add a c) : b = c := by
  have := congrArg (K.add (K.neg a)) h
  rwa [← K.add_assoc, ← K.add_assoc, K.neg_add, K.zero_add, K.zero_add] at this
theorem mul_zero (a : R) : K.mul a K.zero = K.zero := by
  apply K.add_cancel (a := K.mul a K.zero)
  rw [← K.mul_add, K.add_zero, K.add_zero]
theorem zero_mul (a : R) : K.mul K.zero a = K.zero := by rw [K.mul_comm, K.mul_zero]
theorem mul_one (a : R) : K.mul a K.one = a := by rw [K.mul_comm, K.one_mul]
theorem neg_mul (a b : R) : K.mul (K.neg a) b = K.neg (K.mul a b) := by
  apply K.add_cancel (a := K.mul a b)
  rw [← K.add_mul, K.add_neg, K.zero_mul, K.add_neg]
theorem neg_neg (a : R) : K.neg (K.neg a) = a := by
  apply K.add_cancel (a := K.neg a)
  rw [K.add_neg, K.neg_add]
theorem neg_add' (a b : R) : K.neg (K.add a b) = K.add (K.neg a) (K.neg b) := by
  apply K.add_cancel (a := K.add a b)
  rw [K.add_neg, K.add_assoc, K.add_left_comm b, K.add_neg, K.add_zero, K.add_neg]
theorem mul_neg (a b : R) : K.mul a (K.neg b) = K.neg (K.mul a b) := by rw [K.mul_comm, K.neg_mul, K.mul_comm]
def sub (a b : R) : R := K.add a (K.neg b)

/-- R[t] / (t^2 - q): pairs -/
def sq (q : R) : CR (R × R) where
  add x y := (K.add x.1 y.1, K.add x.2 y.2)
  mul x y := (K.add (K.mul x.1 y.1) (K.mul q (K.mul x.2 y.2)), K.add (K.mul x.1 y.2) (K.mul x.2 y.1))
  neg x := (K.neg x.1, K.neg x.2)
  zero := (K.zero, K.zero)
  one := (K.one, K.zero)
  add_assoc a b c := by simp only [K.add_assoc]
  add_comm a b := by rw [K.add_comm a.1, K.add_comm a.2]
  zero_add a := by simp only [K.zero_add]
  neg_add a := by simp only [K.neg_add]
  mul_assoc a b c := by
    simp only [K.mul_add, K.add_mul, K.mul_assoc, K.mul_left_comm, K.add_assoc, K.add_left_comm, K.add_comm]
  mul_comm a b := by
    simp only [K.mul_comm, K.add_comm]
  one_mul a := by simp only [K.one_mul, K.zero_mul, K.mul_zero, K.add_zero]
  mul_add a b c := by
    simp only [K.mul_add, K.add_assoc, Prod.mk.injEq]
    constructor <;> (simp only [K.add_left_comm])

theorem sa : Std.Associative K.add := ⟨K.add_assoc⟩
theorem sc : Std.Commutative K.add := ⟨K.add_comm⟩
theorem ma : Std.Associative K.mul := ⟨K.mul_assoc⟩
theorem mc : Std.Commutative K.mul := ⟨K.mul_comm⟩
/-- R[t] / (t^3 - q): triples -/
def cu (q : R) : CR (R × R × R) where
  add x y := (K.add x.1 y.1, K.add x.2.1 y.2.1, K.add x.2.2 y.2.2)
  mul x y := (K.add (K.mul x.1 y.1) (K.mul q (K.add (K.mul x.2.1 y.2.2) (K.mul x.2.2 y.2.1))), K.add (K.add (K.mul x.1 y.2.1) (K.mul x.2.1 y.1)) (K.mul q (K.mul x.2.2 y.2.2)), K.add (K.add (K.mul x.1 y.2.2) (K.mul x.2.1 y.2.1)) (K.mul x.2.2 y.1))
  neg x := (K.neg x.1, K.neg x.2.1, K.neg x.2.2)
  zero := (K.zero, K.zero, K.zero)
  one := (K.one, K.zero, K.zero)
  add_assoc a b c := by simp only [K.add_assoc]
  add_comm a b := by rw [K.add_comm a.1, K.add_comm a.2.1, K.add_comm a.2.2]
  zero_add a := by simp only [K.zero_add]
  neg_add a := by simp only [K.neg_add]
  mul_assoc a b c := by
    simp only [K.mul_add, K.add_mul, K.mul_assoc, K.add_assoc, Prod.mk.injEq]
    have := K.sa; have := K.sc; have := K.ma; have := K.mc
    refine ⟨?_, ?_, ?_⟩ <;> ac_rfl
  mul_comm a b := by
    simp only [Prod.mk.injEq]
    have := K.sa; have := K.sc; have := K.ma; have := K.mc
    refine ⟨?_, ?_, ?_⟩ <;> ac_rfl
  one_mul a := by simp only [K.one_mul, K.zero_mul, K.mul_zero, K.add_zero]
  mul_add a b c := by
    simp only [K.mul_add, K.add_assoc, Prod.mk.injEq]
    have := K.sa; have := K.sc; have := K.ma; have := K.mc
    refine ⟨?_, ?_, ?_⟩ <;> ac_rfl
end CR
/-- numbers modulo M -/
def fpCR (M : Nat) (h : 1 < M) : CR (Fin M) where
  add a b := ⟨(a.1 + b.1) % M, Nat.mod_lt _ (by omega)⟩
  mul a b := ⟨a.1 * b.1 % M, Nat.mod_lt _ (by omega)⟩
  neg a := ⟨(0 + M - a.1) % M, Nat.mod_lt _ (by omega)⟩
  zero := ⟨0, by omega⟩
  one := ⟨1, h⟩
  add_assoc a b c := Fin.ext (by show ((a.1 + b.1) % M + c.1) % M = (a.1 + (b.1 + c.1) % M) % M; rw [Nat.mod_add_mod, Nat.add_mod_mod, Nat.add_assoc])
  add_comm a b := Fin.ext (by show (a.1 + b.1) % M = (b.1 + a.1) % M; rw [Nat.add_comm])
  zero_add a := Fin.ext (by show (0 + a.1) % M = a.1; rw [Nat.zero_add, Nat.mod_eq_of_lt a.2])
  neg_add a := Fin.ext (by
    show ((0 + M - a.1) % M + a.1) % M = 0
    have := a.2
    rw [Nat.mod_add_mod, show 0 + M - a.1 + a.1 = M by omega, Nat.mod_self])
  mul_assoc a b c := Fin.ext (by show a.1 * b.1 % M * c.1 % M = a.1 * (b.1 * c.1 % M) % M; rw [Nat.mod_mul_mod, Nat.mul_mod_mod, Nat.mul_assoc])
  mul_comm a b := Fin.ext (by show a.1 * b.1 % M = b.1 * a.1 % M; rw [Nat.mul_comm])
  one_mul a := Fin.ext (by show 1 * a.1 % M = a.1; rw [Nat.one_mul, Nat.mod_eq_of_lt a.2])
  mul_add a b c := Fin.ext (by show a.1 * ((b.1 + c.1) % M) % M = (a.1 * b.1 % M + a.1 * c.1 % M) % M; rw [Nat.mul_mod_mod, Nat.mul_add, Nat.add_mod])
end Go.Proofs.YtgacpjmggdmgdaaGreat
namespace Go.Proofs.YtgacpjmggdmgdaaGreat.Ex
set_option linter.unusedVariables false
set_option linter.unusedSimpArgs false
open Go.RowKit

theorem fp_one : 1 < FP.M := by decide
def F1 : CR Fq := fpCR FP.M fp_one
def fm (n : Nat) : Fq := ⟨n % FP.M, Nat.mod_lt _ fp_pos⟩
abbrev Q2 := Fq × Fq
abbrev Q6 := Q2 × Q2 × Q2
abbrev Q12 := Q6 × Q6
def F2 : CR Q2 := F1.sq (F1.neg F1.one)
def xiE : Q2 := (fm 9, fm 1)
def F6 : CR Q6 := F2.cu xiE
def vE : Q6 := (F2.zero, F2.one, F2.zero)
def F12 : CR Q12 := F6.sq vE
def e1 (x : Fq) : List At := [.f x]
def e2 (x : Q2) : List At := [.f x.1, .f x.2]
def e6 (x : Q6) : List At := [.f x.1.1, .f x.1.2, .f x.2.1.1, .f x.2.1.2, .f x.2.2.1, .f x.2.2.2]
def e12 (x : Q12) : List At := [.f x.1.1.1, .f x.1.1.2, .f x.1.2.1.1, .f x.1.2.1.2, .f x.1.2.2.1, .f x.1.2.2.2, .f x.2.1.1, .f x.2.1.2, .f x.2.2.1.1, .f x.2.2.1.2, .f x.2.2.2.1, .f x.2.2.2.2]
def rd1 : List At → Option Fq | [.f a] => some a | _ => none
def rd2 : List At → Option Q2 | [.f a, .f b] => some (a, b) | _ => none
def rd6 : List At → Option Q6 | [.f a, .f b, .f c, .f d, .f e, .f f] => some ((a, b), (c, d), (e, f)) | _ => none
def rd12 : List At → Option Q12 | [.f a, .f b, .f c, .f d, .f e, .f f, .f g, .f h, .f i, .f j, .f k, .f l] => some (((a, b), (c, d), (e, f)), ((g, h), (i, j), (k, l))) | _ => none
/-- elements as they come in -/
abbrev N2 := Nat × Nat
abbrev N6 := N2 × N2 × N2
abbrev N12 := N6 × N6
def q1 (x : Nat) : List At := [.q x]
def q2 (x : N2) : List At := [.q x.1, .q x.2]
def q6 (x : N6) : List At := [.q x.1.1, .q x.1.2, .q x.2.1.1, .q x.2.1.2, .q x.2.2.1, .q x.2.2.2]
def q12 (x : N12) : List At := [.q x.1.1.1, .q x.1.1.2, .q x.1.2.1.1, .q x.1.2.1.2, .q x.1.2.2.1, .q x.1.2.2.2, .q x.2.1.1, .q x.2.1.2, .q x.2.2.1.1, .q x.2.2.1.2, .q x.2.2.2.1, .q x.2.2.2.2]
def nat? : At → Option Nat
  | .f x => some x.1
  | .q x => some x
  | .c _ => none
def nats : List At → Option (List Nat)
  | [] => some []
  | a :: r => match nat? a, nats r with | some x, some l => some (x :: l) | _, _ => none
def rq1 (l : List At) : Option Nat := match nats l with | some [a] => some a | _ => none
def rq2 (l : List At) : Option N2 := match nats l with | some [a, b] => some (a, b) | _ => none
def rq6 (l : List At) : Option N6 := match nats l with | some [a, b, c, d, e, f] => some ((a, b), (c, d), (e, f)) | _ => none
def rq12 (l : List At) : Option N12 := match nats l with | some [a, b, c, d, e, f, g, h, i, j, k, l] => some (((a, b), (c, d), (e, f)), ((g, h), (i, j), (k, l))) | _ => none
/-- a number's words, as an element -/
def wv (x : Nat) : Nat := val4 (fw x 0) (fw x 1) (fw x 2) (fw x 3)
def m1 (x : Nat) : Fq := fm (wv x)
def m2 (x : N2) : Q2 := (m1 x.1, m1 x.2)
def m6 (x : N6) : Q6 := (m2 x.1, m2 x.2.1, m2 x.2.2)
def m12 (x : N12) : Q12 := (m6 x.1, m6 x.2)
/-- a reader gives back what was laid -/
def Rd {α : Type} (rd : List At → Option α) (en : α → List At) : Prop := ∀ l x, rd l = some x → flat l = flat (en x)
theorem rd1_ok : Rd rd1 e1 := fun l x h => by unfold rd1 at h; split at h <;> cases h; rfl
theorem rd2_ok : Rd rd2 e2 := fun l x h => by unfold rd2 at h; split at h <;> cases h; rfl
theorem rd6_ok : Rd rd6 e6 := fun l x h => by unfold rd6 at h; split at h <;> cases h; rfl
theorem rd12_ok : Rd rd12 e12 := fun l x h => by unfold rd12 at h; split at h <;> cases h; rfl
theorem nats_ok : ∀ {l : List At} {m : List Nat}, nats l = some m → flat l = flat (m.map .q)
  | [], m, h => by cases h; rfl
  | a :: r, m, h => by
    unfold nats at h
    split at h
    · rename_i x l' h1 h2
      cases h
      show a.cells ++ flat r = w4 x ++ flat (l'.map .q)
      rw [nats_ok h2]
      cases a <;> cases h1 <;> rfl
    · cases h
theorem rq1_ok : Rd rq1 q1 := fun l x h => by
  unfold rq1 at h
  split at h
  · rename_i hn; cases h; rw [nats_ok hn]; rfl
  · cases h
theorem rq2_ok : Rd rq2 q2 := fun l x h => by
  unfold rq2 at h
  split at h
  · rename_i hn; cases h; rw [nats_ok hn]; rfl
  · cases h
theorem rq6_ok : Rd rq6 q6 := fun l x h => by
  unfold rq6 at h
  split at h
  · rename_i hn; cases h; rw [nats_ok hn]; rfl
  · cases h
theorem rq12_ok : Rd rq12 q12 := fun l x h => by
  unfold rq12 at h
  split at h
  · rename_i hn; cases h; rw [nats_ok hn]; rfl
  · cases h
/-- entries: functions of no, one, two flat values; what must hold and what is answered hang on them -/
abbrev Ent := List CA → Option (List Prop × RV)
def g0 (r : RV) : Ent
  | [] => some ([], r)
  | _ => none
def g1 {α : Type} (rd : List At → Option α) (op : α → List Prop × RV) : Ent
  | [.v (.fl l)] => match rd l with | some x => some (op x) | none => none
  | _ => none
def g2 {α γ : Type} (rd : List At → Option α) (rd' : List At → Option γ) (op : α → γ → List Prop × RV) : Ent
  | [.v (.fl l), .v (.fl m)] => match rd l, rd' m with | some x, some y => some (op x y) | _, _ => none
  | _ => none
/-- what is said of a call -/
def Good (P : Program) (f : FuncId) (r : RV) (args : List Value) (w : World) : Prop := Calls P f args.toArray w (fun e w' => e = .returned r.den ∧ Below w.heap.size w w')
theorem g0_ok {P : Program} {f : FuncId} {r : RV} (h : ∀ w, Good P f r [] w) : ∀ cs pre r', g0 r cs = some (pre, r') → allP pre → ∀ (args : List Value) (w : World), CAs w cs args → Good P f r' args w := by
  intro cs pre r' hg hp args w ha
  unfold g0 at hg
  split at hg
  · cases hg
    cases args with
    | nil => exact h w
    | cons _ _ => exact ha.elim
  · cases hg
theorem g1_ok {P : Program} {f : FuncId} {α : Type} {rd : List At → Option α} {en : α → List At} (hr : Rd rd en) {op : α → List Prop × RV} (h : ∀ x, allP (op x).1 → ∀ args w, CAs w [.v (.fl (en x))] args → Good P f (op x).2 args w) :
    ∀ cs pre r, g1 rd op cs = some (pre, r) → allP pre → ∀ (args : List Value) (w : World), CAs w cs args → Good P f r args w := by
  intro cs pre r hg hp args w ha
  unfold g1 at hg
  split at hg
  · rename_i l
    split at hg
    · rename_i x hx
      have e : op x = (pre, r) := by simpa using hg
      have := h x (by rw [e]; exact hp) args w (by
        cases args with
        | nil => exact ha.elim
        | cons v vs =>
          refine ⟨?_, ha.2⟩
          show v = .agg (flat (en x)).toArray
          rw [← hr l x hx]
          exact ha.1)
      rw [e] at this
      exact this
    · cases hg
  · cases hg
theorem g2_ok {P : Program} {f : FuncId} {α γ : Type} {rd : List At → Option α} {en : α → List At} {rd' : List At → Option γ} {en' : γ → List At} (hr : Rd rd en) (hr' : Rd rd' en') {op : α → γ → List Prop × RV}
    (h : ∀ x y, allP (op x y).1 → ∀ args w, CAs w [.v (.fl (en x)), .v (.fl (en' y))] args → Good P f (op x y).2 args w) :
    ∀ cs pre r, g2 rd rd' op cs = some (pre, r) → allP pre → ∀ (args : List Value) (w : World), CAs w cs args → Good P f r args w := by
  intro cs pre r hg hp args w ha
  unfold g2 at hg
  split at hg
  · rename_i l m
    split at hg
    · rename_i x y hx hy
      have e : op x y = (pre, r) := by simpa using hg
      have := h x y (by rw [e]; exact hp) args w (by
        cases args with
        | nil => exact ha.elim
        | cons v vs =>
          cases vs with
          | nil => exact ha.2.elim
          | cons u us =>
            refine ⟨?_, ?_, ha.2.2⟩
            · show v = .agg (flat (en x)).toArray
              rw [← hr l x hx]
              exact ha.1
            · show u = .agg (flat (en' y)).toArray
              rw [← hr' m y hy]
              exact ha.2.1)
      rw [e] at this
      exact this
    · cases hg
  · cases hg
end Go.Proofs.YtgacpjmggdmgdaaGreat.Ex
namespace Go.Proofs.YtgacpjmggdmgdaaGreat.Ex
set_option linter.unusedVariables false
set_option linter.unusedSimpArgs false
open Go.RowKit

theorem hmix : Tryz.prog.follows .mixedOrders = true := by kernel_rfl
def qN : EqT := ⟨fun _ => none, fun _ => none⟩
theorem qN_ok {P : Program} : EqOk P qN := ⟨(fun t n h => by cases h), (fun t n h => by cases h)⟩
/-- sums of products -/
def dotG : Fq → List Fq → List Fq → Fq
  | a, x :: r, y :: s => dotG (F1.add a (F1.mul x y)) r s
  | a, _, _ => a
def dotF : List Fq → List Fq → Fq
  | x :: r, y :: s => dotG (F1.mul x y) r s
  | _, _ => F1.zero
def ones : Nat → List At → Option (List Fq)
  | 0, _ => some []
  | n + 1, .f a :: r => match ones n r with | some l => some (a :: l) | none => none
  | _, _ => none
def gProd : Ent
  | [.s l n m, .s l' n' m'] => bif Nat.beq n n' && Nat.ble n 6 then (match ones n l, ones n' l' with
    | some x, some y => some ([], .one (.fl (e1 (dotF x y))))
    | _, _ => none) else none
  | _ => none
def gOf : Ent
  | [.v (.im (.int .u64 (.ofNat n)))] => bif Nat.blt n 18446744073709551616 then some ([], .one (.fl (e1 (fm n)))) else none
  | _ => none
/-- an inverse's number -/
theorem finv_ex : ∃ f : Fq → Fq, ∀ x, (f x).1 = 1 * (x.1 ^ (FP.M - 2) % FP.M) :=
  ⟨fun x => ⟨1 * (x.1 ^ (FP.M - 2) % FP.M), by rw [Nat.one_mul]; exact Nat.mod_lt _ fp_pos⟩, fun _ => rfl⟩
noncomputable def finv : Fq → Fq := Classical.choose finv_ex
theorem finv_val (x : Fq) : (finv x).1 = 1 * (x.1 ^ (FP.M - 2) % FP.M) := Classical.choose_spec finv_ex x
/-- c: that what is inverted is not 0 -/
noncomputable def gInv (c : Bool) : Ent
  | [.v (.im (.int .i64 (.ofNat 1))), .v (.fl l)] => match rd1 l with
    | some x => bif c then some ([x ≠ F1.zero], .many [.fl (e1 (finv x)), .im (.int .i64 0)]) else some ([x = F1.zero], .many [.fl (e1 F1.zero), .im (.int .i64 22)])
    | none => none
  | _ => none
noncomputable def T_B (c : Bool) : Tab := (((((((T0.add 94 (g2 rd1 rd1 fun x y => ([], .one (.fl (e1 (F1.add x y)))))).add 95 (g2 rd1 rd1 fun x y => ([], .one (.fl (e1 (F1.sub x y)))))).add 93 (g2 rd1 rd1 fun x y => ([], .one (.fl (e1 (F1.mul x y)))))).add
  91 (g1 rd1 fun x => ([], .one (.fl (e1 (F1.neg x)))))).add 80 (g1 rq1 fun x => ([], .one (.fl (e1 (m1 x)))))).add 130 gProd).add 92 gOf).add 81 (gInv c)
theorem ok_B (c : Bool) (hB : TabOk Tryz.prog (T_B c)) : TabOk Tryz.prog (T_B c) := hB

end Go.Proofs.YtgacpjmggdmgdaaGreat.Ex
namespace Go.Proofs.YtgacpjmggdmgdaaGreat.Ex
set_option linter.unusedVariables false
set_option linter.unusedSimpArgs false
open Go.RowKit

def conj2' (x : Q2) : Q2 := (x.1, F1.neg x.2)
def sc2 (x : Q2) (k : Fq) : Q2 := (F1.mul x.1 k, F1.mul x.2 k)
def nm2 (x : Q2) : Fq := F1.add (F1.mul x.1 x.1) (F1.mul x.2 x.2)
noncomputable def iv2 (x : Q2) : Q2 := sc2 (conj2' x) (finv (nm2 x))
theorem F1a : Std.Associative F1.add := F1.sa
theorem F1c : Std.Commutative F1.add := F1.sc

set_option maxRecDepth 100000 in
theorem run_t2plus (c : Bool) (x : Q2) (y : Q2) : funA Tryz.prog (T_B c) qN (fun _ => true) Tryz.f53 40 [.v (.fl (e2 x)), .v (.fl (e2 y))] = some ([], .one (.fl (e2 (F2.add x y)))) := by kernel_rfl
noncomputable def T_t2plus (c : Bool) : Tab := (T_B c).add 53 (g2 rd2 rd2 (fun x y => ([], .one (.fl (e2 (F2.add x y))))))
theorem ok_t2plus (c : Bool) (hB : TabOk Tryz.prog (T_B c)) : TabOk Tryz.prog (T_t2plus c) := (ok_B c hB).add Tryz.func53 (by kernel_rfl) (by kernel_rfl) (g2_ok rd2_ok rd2_ok fun x y hp args w ha => fun_sound hmix (ok_B c hB) qN_ok Tryz.func53 (run_t2plus c x y) hp ha)
set_option maxRecDepth 100000 in
theorem run_t2minus (c : Bool) (x : Q2) (y : Q2) : funA Tryz.prog (T_t2plus c) qN (fun _ => true) Tryz.f54 40 [.v (.fl (e2 x)), .v (.fl (e2 y))] = some ([], .one (.fl (e2 (F2.sub x y)))) := by kernel_rfl
noncomputable def T_t2minus (c : Bool) : Tab := (T_t2plus c).add 54 (g2 rd2 rd2 (fun x y => ([], .one (.fl (e2 (F2.sub x y))))))
theorem ok_t2minus (c : Bool) (hB : TabOk Tryz.prog (T_B c)) : TabOk Tryz.prog (T_t2minus c) := (ok_t2plus c hB).add Tryz.func54 (by kernel_rfl) (by kernel_rfl) (g2_ok rd2_ok rd2_ok fun x y hp args w ha => fun_sound hmix (ok_t2plus c hB) qN_ok Tryz.func54 (run_t2minus c x y) hp ha)
set_option maxRecDepth 100000 in
theorem run_t2conj (c : Bool) (x : Q2) : funA Tryz.prog (T_t2minus c) qN (fun _ => true) Tryz.f56 40 [.v (.fl (e2 x))] = some ([], .one (.fl (e2 (conj2' x)))) := by kernel_rfl
noncomputable def T_t2conj (c : Bool) : Tab := (T_t2minus c).add 56 (g1 rd2 (fun x => ([], .one (.fl (e2 (conj2' x))))))
theorem ok_t2conj (c : Bool) (hB : TabOk Tryz.prog (T_B c)) : TabOk Tryz.prog (T_t2conj c) := (ok_t2minus c hB).add Tryz.func56 (by kernel_rfl) (by kernel_rfl) (g1_ok rd2_ok fun x hp args w ha => fun_sound hmix (ok_t2minus c hB) qN_ok Tryz.func56 (run_t2conj c x) hp ha)
set_option maxRecDepth 100000 in
theorem run_t2scaled (c : Bool) (x : Q2) (y : Fq) : funA Tryz.prog (T_t2conj c) qN (fun _ => true) Tryz.f83 40 [.v (.fl (e2 x)), .v (.fl (e1 y))] = some ([], .one (.fl (e2 (sc2 x y)))) := by kernel_rfl
noncomputable def T_t2scaled (c : Bool) : Tab := (T_t2conj c).add 83 (g2 rd2 rd1 (fun x y => ([], .one (.fl (e2 (sc2 x y))))))
theorem ok_t2scaled (c : Bool) (hB : TabOk Tryz.prog (T_B c)) : TabOk Tryz.prog (T_t2scaled c) := (ok_t2conj c hB).add Tryz.func83 (by kernel_rfl) (by kernel_rfl) (g2_ok rd2_ok rd1_ok fun x y hp args w ha => fun_sound hmix (ok_t2conj c hB) qN_ok Tryz.func83 (run_t2scaled c x y) hp ha)
set_option maxRecDepth 100000 in
theorem run_t2xi (c : Bool) (x : Q2) : funA Tryz.prog (T_t2scaled c) qN (fun _ => true) Tryz.f57 40 [.v (.fl (e2 x))] = some ([], .one (.fl (e2 ((F1.sub (F1.mul x.1 (fm 9)) x.2, F1.add (F1.mul x.2 (fm 9)) x.1))))) := by kernel_rfl
theorem raw_t2xi (x : Q2) : F2.mul x xiE = (F1.sub (F1.mul x.1 (fm 9)) x.2, F1.add (F1.mul x.2 (fm 9)) x.1) := by
  have h1 : fm 1 = F1.one := by decide
  show (F1.add (F1.mul x.1 (fm 9)) (F1.mul (F1.neg F1.one) (F1.mul x.2 (fm 1))), F1.add (F1.mul x.1 (fm 1)) (F1.mul x.2 (fm 9))) = _
  rw [h1, F1.mul_one, F1.mul_one, F1.neg_mul, F1.one_mul, F1.add_comm x.1]
  rfl
noncomputable def T_t2xi (c : Bool) : Tab := (T_t2scaled c).add 57 (g1 rd2 (fun x => ([], .one (.fl (e2 (F2.mul x xiE))))))
theorem ok_t2xi (c : Bool) (hB : TabOk Tryz.prog (T_B c)) : TabOk Tryz.prog (T_t2xi c) := (ok_t2scaled c hB).add Tryz.func57 (by kernel_rfl) (by kernel_rfl) (g1_ok rd2_ok fun x hp args w ha => by show Good _ _ (.one (.fl (e2 (F2.mul x xiE)))) _ _; rw [raw_t2xi x]; exact fun_sound hmix (ok_t2scaled c hB) qN_ok Tryz.func57 (run_t2xi c x) hp ha)
set_option maxRecDepth 100000 in
theorem run_one2 (c : Bool)  : funA Tryz.prog (T_t2xi c) qN (fun _ => true) Tryz.f156 40 [] = some ([], .one (.fl (e2 (F2.one)))) := by kernel_rfl
noncomputable def T_one2 (c : Bool) : Tab := (T_t2xi c).add 156 (g0 (.one (.fl (e2 (F2.one)))))
theorem ok_one2 (c : Bool) (hB : TabOk Tryz.prog (T_B c)) : TabOk Tryz.prog (T_one2 c) := (ok_t2xi c hB).add Tryz.func156 (by kernel_rfl) (by kernel_rfl) (g0_ok fun w => fun_sound hmix (ok_t2xi c hB) qN_ok Tryz.func156 (run_one2 c ) trivial (args := []) trivial)
set_option maxRecDepth 100000 in
theorem run_t2norm (c : Bool) (x : Q2) : funA Tryz.prog (T_one2 c) qN (fun _ => true) Tryz.f82 40 [.v (.fl (e2 x))] = some ([], .one (.fl (e1 (nm2 x)))) := by kernel_rfl
noncomputable def T_t2norm (c : Bool) : Tab := (T_one2 c).add 82 (g1 rd2 (fun x => ([], .one (.fl (e1 (nm2 x))))))
theorem ok_t2norm (c : Bool) (hB : TabOk Tryz.prog (T_B c)) : TabOk Tryz.prog (T_t2norm c) := (ok_one2 c hB).add Tryz.func82 (by kernel_rfl) (by kernel_rfl) (g1_ok rd2_ok fun x hp args w ha => fun_sound hmix (ok_one2 c hB) qN_ok Tryz.func82 (run_t2norm c x) hp ha)
set_option maxRecDepth 100000 in
theorem run_t2inv (x : Q2) : funA Tryz.prog (T_t2norm true) qN (fun _ => true) Tryz.f44 40 [.v (.fl (e2 x))] = some ([nm2 x ≠ F1.zero], .many [.fl (e2 (iv2 x)), .im (.int .i64 0)]) := by kernel_rfl
set_option maxRecDepth 100000 in
theorem run_t2inv0 (x : Q2) : funA Tryz.prog (T_t2norm false) qN (fun _ => true) Tryz.f44 40 [.v (.fl (e2 x))] = some ([nm2 x = F1.zero], .many [.fl (e2 F2.zero), .im (.int .i64 22)]) := by kernel_rfl
noncomputable def oInv2 (c : Bool) (x : Q2) : List Prop × RV := bif c then ([nm2 x ≠ F1.zero], .many [.fl (e2 (iv2 x)), .im (.int .i64 0)]) else ([nm2 x = F1.zero], .many [.fl (e2 F2.zero), .im (.int .i64 22)])
theorem inv2_ok (c : Bool) (hB : TabOk Tryz.prog (T_B c)) (x : Q2) (hp : allP (oInv2 c x).1) (args : List Value) (w : World) (ha : CAs w [.v (.fl (e2 x))] args) : Good Tryz.prog 44 (oInv2 c x).2 args w := by
  cases c
  · exact fun_sound hmix (ok_t2norm false hB) qN_ok Tryz.func44 (run_t2inv0 x) hp ha
  · exact fun_sound hmix (ok_t2norm true hB) qN_ok Tryz.func44 (run_t2inv x) hp ha
noncomputable def T_t2inv (c : Bool) : Tab := (T_t2norm c).add 44 (g1 rd2 (oInv2 c))
theorem ok_t2inv (c : Bool) (hB : TabOk Tryz.prog (T_B c)) : TabOk Tryz.prog (T_t2inv c) := (ok_t2norm c hB).add Tryz.func44 (by kernel_rfl) (by kernel_rfl) (g1_ok rd2_ok (inv2_ok c hB))

/-- lists of elements, laid one after another -/
def twos : Nat → List At → Option (List Q2)
  | 0, [] => some []
  | n + 1, .f a :: .f b :: r => match twos n r with | some l => some ((a, b) :: l) | none => none
  | _, _ => none
def e2s : List Q2 → List At
  | [] => []
  | x :: r => .f x.1 :: .f x.2 :: e2s r
theorem twos_ok : ∀ {n : Nat} {l : List At} {x : List Q2}, twos n l = some x → l = e2s x ∧ x.length = n
  | 0, [], x, h => by cases h; exact ⟨rfl, rfl⟩
  | n + 1, .f a :: .f b :: r, x, h => by
    unfold twos at h
    split at h
    · rename_i l hl
      cases h
      obtain ⟨h1, h2⟩ := twos_ok hl
      exact ⟨by rw [h1]; rfl, by rw [List.length_cons, h2]⟩
    · cases h
  | 0, _ :: _, x, h => by cases h
  | n + 1, [], x, h => by cases h
  | n + 1, [_], x, h => by unfold twos at h; split at h <;> first | (cases h; done) | (rename_i heq; cases heq)
  | n + 1, .q _ :: _ :: _, x, h => by cases h
  | n + 1, .c _ :: _ :: _, x, h => by cases h
  | n + 1, .f _ :: .q _ :: _, x, h => by cases h
  | n + 1, .f _ :: .c _ :: _, x, h => by cases h
def dotQ : List Q2 → List Q2 → Q2
  | [x], [y] => F2.mul x y
  | [x, y], [z, t] => F2.add (F2.mul x z) (F2.mul y t)
  | [x, y, z], [s, t, u] => F2.add (F2.add (F2.mul x s) (F2.mul y t)) (F2.mul z u)
  | _, _ => F2.zero
def gSum : Ent
  | [.s l n m, .s l' n' m'] => bif Nat.beq n n' && (Nat.ble n 3 && Nat.ble 1 n) then (match twos n l, twos n' l' with
    | some x, some y => some ([], .one (.fl (e2 (dotQ x y))))
    | _, _ => none) else none
  | _ => none
def sl2 : List Q2 → List Fq
  | [] => []
  | x :: r => x.1 :: F1.neg x.2 :: sl2 r
def cr2 : List Q2 → List Fq
  | [] => []
  | x :: r => x.2 :: x.1 :: cr2 r
def st2 : List Q2 → List Fq
  | [] => []
  | x :: r => x.1 :: x.2 :: st2 r
set_option maxRecDepth 100000 in
theorem run_sum1 (c : Bool) (x s : Q2) (m m' : Nat) : funA Tryz.prog (T_t2inv c) qN (fun _ => true) Tryz.f104 40 [.s (e2s [x]) 1 m, .s (e2s [s]) 1 m'] = some ([], .one (.fl (e2 (dotF (sl2 [x]) (st2 [s]), dotF (cr2 [x]) (st2 [s]))))) := by kernel_rfl
set_option maxRecDepth 100000 in
theorem run_sum2 (c : Bool) (x y s t : Q2) (m m' : Nat) : funA Tryz.prog (T_t2inv c) qN (fun _ => true) Tryz.f104 40 [.s (e2s [x, y]) 2 m, .s (e2s [s, t]) 2 m'] = some ([], .one (.fl (e2 (dotF (sl2 [x, y]) (st2 [s, t]), dotF (cr2 [x, y]) (st2 [s, t]))))) := by kernel_rfl
set_option maxRecDepth 100000 in
theorem run_sum3 (c : Bool) (x y z s t u : Q2) (m m' : Nat) : funA Tryz.prog (T_t2inv c) qN (fun _ => true) Tryz.f104 40 [.s (e2s [x, y, z]) 3 m, .s (e2s [s, t, u]) 3 m'] = some ([], .one (.fl (e2 (dotF (sl2 [x, y, z]) (st2 [s, t, u]), dotF (cr2 [x, y, z]) (st2 [s, t, u]))))) := by kernel_rfl
theorem mul2_1 (x s : Q2) : (F2.mul x s).1 = F1.add (F1.mul x.1 s.1) (F1.mul (F1.neg x.2) s.2) := by
  show F1.add (F1.mul x.1 s.1) (F1.mul (F1.neg F1.one) (F1.mul x.2 s.2)) = _
  rw [F1.neg_mul, F1.one_mul, F1.neg_mul]
theorem mul2_2 (x s : Q2) : (F2.mul x s).2 = F1.add (F1.mul x.2 s.1) (F1.mul x.1 s.2) := F1.add_comm _ _
theorem raw_sum1 (x s : Q2) : dotQ [x] [s] = (dotF (sl2 [x]) (st2 [s]), dotF (cr2 [x]) (st2 [s])) := Prod.ext (mul2_1 x s) (mul2_2 x s)
theorem raw_sum2 (x y s t : Q2) : dotQ [x, y] [s, t] = (dotF (sl2 [x, y]) (st2 [s, t]), dotF (cr2 [x, y]) (st2 [s, t])) := by
  refine Prod.ext ?_ ?_
  · show F1.add (F2.mul x s).1 (F2.mul y t).1 = F1.add (F1.add (F1.add (F1.mul x.1 s.1) (F1.mul (F1.neg x.2) s.2)) (F1.mul y.1 t.1)) (F1.mul (F1.neg y.2) t.2)
    rw [mul2_1, mul2_1]; simp only [F1.add_assoc]
  · show F1.add (F2.mul x s).2 (F2.mul y t).2 = F1.add (F1.add (F1.add (F1.mul x.2 s.1) (F1.mul x.1 s.2)) (F1.mul y.2 t.1)) (F1.mul y.1 t.2)
    rw [mul2_2, mul2_2]; simp only [F1.add_assoc]
theorem raw_sum3 (x y z s t u : Q2) : dotQ [x, y, z] [s, t, u] = (dotF (sl2 [x, y, z]) (st2 [s, t, u]), dotF (cr2 [x, y, z]) (st2 [s, t, u])) := by
  refine Prod.ext ?_ ?_
  · show F1.add (F1.add (F2.mul x s).1 (F2.mul y t).1) (F2.mul z u).1 = F1.add (F1.add (F1.add (F1.add (F1.add (F1.mul x.1 s.1) (F1.mul (F1.neg x.2) s.2)) (F1.mul y.1 t.1)) (F1.mul (F1.neg y.2) t.2)) (F1.mul z.1 u.1)) (F1.mul (F1.neg z.2) u.2)
    rw [mul2_1, mul2_1, mul2_1]; simp only [F1.add_assoc]
  · show F1.add (F1.add (F2.mul x s).2 (F2.mul y t).2) (F2.mul z u).2 = F1.add (F1.add (F1.add (F1.add (F1.add (F1.mul x.2 s.1) (F1.mul x.1 s.2)) (F1.mul y.2 t.1)) (F1.mul y.1 t.2)) (F1.mul z.2 u.1)) (F1.mul z.1 u.2)
    rw [mul2_2, mul2_2, mul2_2]; simp only [F1.add_assoc]
theorem sum_ok (c : Bool) (hB : TabOk Tryz.prog (T_B c)) : ∀ cs pre r, gSum cs = some (pre, r) → allP pre → ∀ (args : List Value) (w : World), CAs w cs args → Good Tryz.prog 104 r args w := by
  intro cs pre r hg hp args w ha
  unfold gSum at hg
  split at hg
  · rename_i l n m l' n' m'
    cases hb : (Nat.beq n n' && (Nat.ble n 3 && Nat.ble 1 n)) <;> rw [hb] at hg
    · cases hg
    · simp only [cond_true] at hg
      split at hg
      · rename_i x y hx hy
        cases hg
        obtain ⟨e1, e2⟩ := twos_ok hx
        obtain ⟨e3, e4⟩ := twos_ok hy
        subst e1; subst e3
        simp only [Bool.and_eq_true] at hb
        have hn := Nat.eq_of_beq_eq_true hb.1
        have h3 := Nat.le_of_ble_eq_true hb.2.1
        have h1 := Nat.le_of_ble_eq_true hb.2.2
        subst hn
        match x, y, n, e2, e4, h3, h1 with
        | [x], [s], 1, _, _, _, _ =>
          rw [raw_sum1]
          exact fun_sound hmix (ok_t2inv c hB) qN_ok Tryz.func104 (run_sum1 c x s m m') trivial ha
        | [x, y], [s, t], 2, _, _, _, _ =>
          rw [raw_sum2]
          exact fun_sound hmix (ok_t2inv c hB) qN_ok Tryz.func104 (run_sum2 c x y s t m m') trivial ha
        | [x, y, z], [s, t, u], 3, _, _, _, _ =>
          rw [raw_sum3]
          exact fun_sound hmix (ok_t2inv c hB) qN_ok Tryz.func104 (run_sum3 c x y z s t u m m') trivial ha
        | [], _, _, e2, _, _, h1 => exact absurd h1 (by rw [← e2]; decide)
        | _ :: _ :: _ :: _ :: l, _, _, e2, _, h3, _ => exact absurd h3 (by rw [← e2]; simp)
        | [_], [], _, e2, e4, _, _ => rw [← e2] at e4; cases e4
        | [_], _ :: _ :: _, _, e2, e4, _, _ => rw [← e2] at e4; simp at e4
        | [_, _], [], _, e2, e4, _, _ => rw [← e2] at e4; cases e4
        | [_, _], [_], _, e2, e4, _, _ => rw [← e2] at e4; cases e4
        | [_, _], _ :: _ :: _ :: _, _, e2, e4, _, _ => rw [← e2] at e4; simp at e4
        | [_, _, _], [], _, e2, e4, _, _ => rw [← e2] at e4; cases e4
        | [_, _, _], [_], _, e2, e4, _, _ => rw [← e2] at e4; cases e4
        | [_, _, _], [_, _], _, e2, e4, _, _ => rw [← e2] at e4; cases e4
        | [_, _, _], _ :: _ :: _ :: _ :: _, _, e2, e4, _, _ => rw [← e2] at e4; simp at e4
      · cases hg
  · cases hg
noncomputable def T_sum2 (c : Bool) : Tab := (T_t2inv c).add 104 gSum
theorem ok_sum2 (c : Bool) (hB : TabOk Tryz.prog (T_B c)) : TabOk Tryz.prog (T_sum2 c) := (ok_t2inv c hB).add Tryz.func104 (by kernel_rfl) (by kernel_rfl) (sum_ok c hB)
set_option maxRecDepth 100000 in
theorem run_t2times (c : Bool) (x : Q2) (y : Q2) : funA Tryz.prog (T_sum2 c) qN (fun _ => true) Tryz.f55 40 [.v (.fl (e2 x)), .v (.fl (e2 y))] = some ([], .one (.fl (e2 (F2.mul x y)))) := by kernel_rfl
noncomputable def T_t2times (c : Bool) : Tab := (T_sum2 c).add 55 (g2 rd2 rd2 (fun x y => ([], .one (.fl (e2 (F2.mul x y))))))
theorem ok_t2times (c : Bool) (hB : TabOk Tryz.prog (T_B c)) : TabOk Tryz.prog (T_t2times c) := (ok_sum2 c hB).add Tryz.func55 (by kernel_rfl) (by kernel_rfl) (g2_ok rd2_ok rd2_ok fun x y hp args w ha => fun_sound hmix (ok_sum2 c hB) qN_ok Tryz.func55 (run_t2times c x y) hp ha)
set_option maxRecDepth 100000 in
theorem run_rest2 (c : Bool) (x : N2) : funA Tryz.prog (T_t2times c) qN (fun _ => true) Tryz.f43 40 [.v (.fl (q2 x))] = some ([], .one (.fl (e2 (m2 x)))) := by kernel_rfl
noncomputable def T_rest2 (c : Bool) : Tab := (T_t2times c).add 43 (g1 rq2 (fun x => ([], .one (.fl (e2 (m2 x))))))
theorem ok_rest2 (c : Bool) (hB : TabOk Tryz.prog (T_B c)) : TabOk Tryz.prog (T_rest2 c) := (ok_t2times c hB).add Tryz.func43 (by kernel_rfl) (by kernel_rfl) (g1_ok rq2_ok fun x hp args w ha => fun_sound hmix (ok_t2times c hB) qN_ok Tryz.func43 (run_rest2 c x) hp ha)
end Go.Proofs.YtgacpjmggdmgdaaGreat.Ex
namespace Go.Proofs.YtgacpjmggdmgdaaGreat.Ex
set_option linter.unusedVariables false
set_option linter.unusedSimpArgs false

inductive RE | v (i : Nat) | add (a b : RE) | mul (a b : RE) | neg (a : RE) | zero | one
section
variable {R : Type} (K : CR R) (env : Nat → R)
def RE.den : RE → R
  | .v i => env i
  | .add a b => K.add (a.den) (b.den)
  | .mul a b => K.mul (a.den) (b.den)
  | .neg a => K.neg a.den
  | .zero => K.zero
  | .one => K.one
/-- n times x -/
def nt (x : R) : Nat → R
  | 0 => K.zero
  | n + 1 => K.add (nt x n) x
def zt (x : R) : Int → R
  | .ofNat n => nt K x n
  | .negSucc n => K.neg (nt K x (n + 1))
def mono : List Nat → R
  | [] => K.one
  | i :: r => K.mul (env i) (mono r)
def pden : List (Int × List Nat) → R
  | [] => K.zero
  | (c, m) :: r => K.add (zt K (mono K env m) c) (pden r)
end
def ltL : List Nat → List Nat → Bool
  | [], [] => false
  | [], _ :: _ => true
  | _ :: _, [] => false
  | a :: r, b :: s => bif Nat.blt a b then true else bif Nat.blt b a then false else ltL r s
def eqL : List Nat → List Nat → Bool
  | [], [] => true
  | a :: r, b :: s => bif Nat.beq a b then eqL r s else false
  | _, _ => false
theorem eqL_eq : ∀ {a b : List Nat}, eqL a b = true → a = b
  | [], [], _ => rfl
  | a :: r, b :: s, h => by
    unfold eqL at h
    cases hb : Nat.beq a b <;> rw [hb] at h
    · cases h
    · rw [Nat.eq_of_beq_eq_true hb, eqL_eq h]
  | [], _ :: _, h => by cases h
  | _ :: _, [], h => by cases h
/-- one monomial more -/
def ins (c : Int) (m : List Nat) : List (Int × List Nat) → List (Int × List Nat)
  | [] => [(c, m)]
  | (d, k) :: r => bif eqL m k then (c + d, k) :: r else bif ltL m k then (c, m) :: (d, k) :: r else (d, k) :: ins c m r
def padd : List (Int × List Nat) → List (Int × List Nat) → List (Int × List Nat)
  | [], q => q
  | (c, m) :: r, q => ins c m (padd r q)
def insM (i : Nat) : List Nat → List Nat
  | [] => [i]
  | j :: r => bif Nat.ble i j then i :: j :: r else j :: insM i r
def mulM : List Nat → List Nat → List Nat
  | [], m => m
  | i :: r, m => insM i (mulM r m)
def pmul1 (c : Int) (m : List Nat) : List (Int × List Nat) → List (Int × List Nat)
  | [] => []
  | (d, k) :: r => ins (c * d) (mulM m k) (pmul1 c m r)
def pmul : List (Int × List Nat) → List (Int × List Nat) → List (Int × List Nat)
  | [], _ => []
  | (c, m) :: r, q => padd (pmul1 c m q) (pmul r q)
def pneg : List (Int × List Nat) → List (Int × List Nat)
  | [] => []
  | (c, m) :: r => (-c, m) :: pneg r
def RE.norm : RE → List (Int × List Nat)
  | .v i => [(1, [i])]
  | .add a b => padd a.norm b.norm
  | .mul a b => pmul a.norm b.norm
  | .neg a => pneg a.norm
  | .zero => []
  | .one => [(1, [])]
def isZ : List (Int × List Nat) → Bool
  | [] => true
  | (.ofNat 0, _) :: r => isZ r
  | _ => false
section
variable {R : Type} (K : CR R) (env : Nat → R)
theorem nt_add (x : R) (n : Nat) : ∀ m, nt K x (n + m) = K.add (nt K x n) (nt K x m)
  | 0 => (K.add_zero _).symm
  | m + 1 => by show K.add (nt K x (n + m)) x = _; rw [nt_add x n m, K.add_assoc]; rfl
theorem neg_zero : K.neg K.zero = K.zero := by
  apply K.add_cancel (a := K.zero)
  rw [K.add_neg, K.add_zero]
theorem zt_sub (x : R) (n m : Nat) : zt K x (Int.subNatNat n m) = K.add (nt K x n) (K.neg (nt K x m)) := by
  unfold Int.subNatNat
  split
  · rename_i h
    have : n = m + (n - m) := by omega
    show nt K x (n - m) = _
    conv => rhs; rw [this, nt_add]
    rw [K.add_comm (nt K x m), K.add_assoc, K.add_neg, K.add_zero]
  · rename_i k h
    have : m = n + (k + 1) := by omega
    show K.neg (nt K x (k + 1)) = K.add (nt K x n) (K.neg (nt K x m))
    rw [this, nt_add K x n (k + 1), K.neg_add' (nt K x n), ← K.add_assoc, K.add_neg, K.zero_add]
theorem zt_add (x : R) (a b : Int) : zt K x (a + b) = K.add (zt K x a) (zt K x b) := by
  cases a with
  | ofNat n =>
    cases b with
    | ofNat m => exact nt_add K x n m
    | negSucc m => exact zt_sub K x n (m + 1)
  | negSucc n =>
    cases b with
    | ofNat m => show zt K x (Int.subNatNat m (n + 1)) = _; rw [zt_sub, K.add_comm]; rfl
    | negSucc m =>
      show K.neg (nt K x (n + m + 1 + 1)) = K.add (K.neg (nt K x (n + 1))) (K.neg (nt K x (m + 1)))
      rw [← K.neg_add', ← nt_add, show n + 1 + (m + 1) = n + m + 1 + 1 by omega]
theorem zt_neg (x : R) (a : Int) : zt K x (-a) = K.neg (zt K x a) := by
  apply K.add_cancel (a := zt K x a)
  rw [← zt_add, K.add_neg, Int.add_right_neg]
  rfl
theorem nt_mul (x y : R) (n : Nat) : ∀ m, K.mul (nt K x n) (nt K y m) = nt K (K.mul x y) (n * m)
  | 0 => K.mul_zero _
  | m + 1 => by
    show K.mul _ (K.add (nt K y m) y) = _
    rw [K.mul_add, nt_mul x y n m, Nat.mul_add, Nat.mul_one, nt_add]
    congr 1
    clear nt_mul
    induction n with
    | zero => exact K.zero_mul _
    | succ n ih => show K.mul (K.add (nt K x n) x) y = _; rw [K.add_mul, ih]; rfl
theorem zt_mul (x y : R) (a b : Int) : K.mul (zt K x a) (zt K y b) = zt K (K.mul x y) (a * b) := by
  have hn : ∀ (c : Int), ∃ n : Nat, c = n ∨ c = -(n : Int) := fun c => ⟨c.natAbs, Int.natAbs_eq c⟩
  have h0 : ∀ n m : Nat, K.mul (zt K x n) (zt K y m) = zt K (K.mul x y) ((n : Int) * m) := fun n m => by
    rw [← Int.natCast_mul]; exact nt_mul K x y n m
  obtain ⟨n, rfl | rfl⟩ := hn a
  · obtain ⟨m, rfl | rfl⟩ := hn b
    · exact h0 n m
    · rw [zt_neg, K.mul_neg, h0, Int.mul_neg, zt_neg]
  · obtain ⟨m, rfl | rfl⟩ := hn b
    · rw [zt_neg, K.neg_mul, h0, Int.neg_mul, zt_neg]
    · rw [zt_neg, zt_neg, K.neg_mul, K.mul_neg, K.neg_neg, h0, Int.neg_mul_neg]
theorem ins_den (c : Int) (m : List Nat) : ∀ q, pden K env (ins c m q) = K.add (zt K (mono K env m) c) (pden K env q)
  | [] => rfl
  | (d, k) :: r => by
    unfold ins
    cases he : eqL m k
    · cases hl : ltL m k
      · show K.add (zt K (mono K env k) d) (pden K env (ins c m r)) = K.add _ (K.add _ _)
        rw [ins_den c m r, K.add_left_comm]
      · rfl
    · rw [eqL_eq he]
      show K.add (zt K (mono K env k) (c + d)) (pden K env r) = K.add _ (K.add _ _)
      rw [zt_add, K.add_assoc]
theorem padd_den : ∀ p q, pden K env (padd p q) = K.add (pden K env p) (pden K env q)
  | [], q => (K.zero_add _).symm
  | (c, m) :: r, q => by
    show pden K env (ins c m (padd r q)) = K.add (K.add _ _) _
    rw [ins_den, padd_den r q, K.add_assoc]
theorem insM_den (i : Nat) : ∀ m, mono K env (insM i m) = K.mul (env i) (mono K env m)
  | [] => rfl
  | j :: r => by
    unfold insM
    cases Nat.ble i j
    · show K.mul (env j) (mono K env (insM i r)) = K.mul _ (K.mul _ _)
      rw [insM_den i r, K.mul_left_comm]
    · rfl
theorem mulM_den : ∀ m k, mono K env (mulM m k) = K.mul (mono K env m) (mono K env k)
  | [], k => (K.one_mul _).symm
  | i :: r, k => by
    show mono K env (insM i (mulM r k)) = K.mul (K.mul _ _) _
    rw [insM_den, mulM_den r k, K.mul_assoc]
theorem pmul1_den (c : Int) (m : List Nat) : ∀ q, pden K env (pmul1 c m q) = K.mul (zt K (mono K env m) c) (pden K env q)
  | [] => (K.mul_zero _).symm
  | (d, k) :: r => by
    show pden K env (ins (c * d) (mulM m k) (pmul1 c m r)) = K.mul _ (K.add _ _)
    rw [ins_den, pmul1_den c m r, K.mul_add, mulM_den, zt_mul]
theorem pmul_den : ∀ p q, pden K env (pmul p q) = K.mul (pden K env p) (pden K env q)
  | [], q => (K.zero_mul _).symm
  | (c, m) :: r, q => by
    show pden K env (padd (pmul1 c m q) (pmul r q)) = K.mul (K.add _ _) _
    rw [padd_den, pmul1_den, pmul_den r q, K.add_mul]
theorem pneg_den : ∀ p, pden K env (pneg p) = K.neg (pden K env p)
  | [] => (neg_zero K).symm
  | (c, m) :: r => by
    show K.add (zt K (mono K env m) (-c)) (pden K env (pneg r)) = K.neg (K.add _ _)
    rw [pneg_den r, K.neg_add', zt_neg]
theorem norm_den : ∀ e : RE, pden K env e.norm = e.den K env
  | .v i => by show K.add (K.add K.zero (K.mul (env i) K.one)) K.zero = env i; rw [K.add_zero, K.zero_add, K.mul_one]
  | .add a b => by show pden K env (padd _ _) = K.add _ _; rw [padd_den, norm_den a, norm_den b]
  | .mul a b => by show pden K env (pmul _ _) = K.mul _ _; rw [pmul_den, norm_den a, norm_den b]
  | .neg a => by show pden K env (pneg _) = K.neg _; rw [pneg_den, norm_den a]
  | .zero => rfl
  | .one => by show K.add (K.add K.zero K.one) K.zero = K.one; rw [K.add_zero, K.zero_add]
theorem isZ_den : ∀ p, isZ p = true → pden K env p = K.zero
  | [], _ => rfl
  | (.ofNat 0, m) :: r, h => by
    show K.add K.zero (pden K env r) = _
    rw [K.zero_add]
    exact isZ_den r h
  | (.ofNat (_ + 1), _) :: _, h => by cases h
  | (.negSucc _, _) :: _, h => by cases h
/-- two expressions are one, if their difference has no monomial -/
theorem ring_id (a b : RE) (h : isZ (RE.norm (.add a (.neg b))) = true) : a.den K env = b.den K env := by
  have := isZ_den K env _ h
  rw [norm_den] at this
  have h2 : K.add (K.add (a.den K env) (K.neg (b.den K env))) (b.den K env) = K.add K.zero (b.den K env) := congrArg (fun x => K.add x (b.den K env)) this
  rwa [K.add_assoc, K.neg_add, K.add_zero, K.zero_add] at h2
end
/-- variables of an identity -/
def envL {R : Type} (K : CR R) (l : List R) (i : Nat) : R := (l[i]?).getD K.zero
end Go.Proofs.YtgacpjmggdmgdaaGreat.Ex
namespace Go.Proofs.YtgacpjmggdmgdaaGreat.Ex
set_option linter.unusedVariables false
set_option linter.unusedSimpArgs false
open Go.RowKit

/-- the product of the two conjugates over Fp2; the norm -/
def adj6 (x : Q6) : Q6 := (F2.sub (F2.mul x.1 x.1) (F2.mul (F2.mul x.2.1 x.2.2) xiE), F2.sub (F2.mul (F2.mul x.2.2 x.2.2) xiE) (F2.mul x.1 x.2.1), F2.sub (F2.mul x.2.1 x.2.1) (F2.mul x.1 x.2.2))
def n6 (x : Q6) : Q2 := (F6.mul x (adj6 x)).1
def s6 (x : Q6) (k : Q2) : Q6 := (F2.mul x.1 k, F2.mul x.2.1 k, F2.mul x.2.2 k)
noncomputable def iv6 (x : Q6) : Q6 := s6 (adj6 x) (iv2 (n6 x))

set_option maxRecDepth 100000 in
theorem run_t6plus (c : Bool) (x : Q6) (y : Q6) : funA Tryz.prog (T_rest2 c) qN (fun _ => true) Tryz.f112 40 [.v (.fl (e6 x)), .v (.fl (e6 y))] = some ([], .one (.fl (e6 (F6.add x y)))) := by kernel_rfl
noncomputable def T_t6plus (c : Bool) : Tab := (T_rest2 c).add 112 (g2 rd6 rd6 (fun x y => ([], .one (.fl (e6 (F6.add x y))))))
theorem ok_t6plus (c : Bool) (hB : TabOk Tryz.prog (T_B c)) : TabOk Tryz.prog (T_t6plus c) := (ok_rest2 c hB).add Tryz.func112 (by kernel_rfl) (by kernel_rfl) (g2_ok rd6_ok rd6_ok fun x y hp args w ha => fun_sound hmix (ok_rest2 c hB) qN_ok Tryz.func112 (run_t6plus c x y) hp ha)
set_option maxRecDepth 100000 in
theorem run_t6minus (c : Bool) (x : Q6) (y : Q6) : funA Tryz.prog (T_t6plus c) qN (fun _ => true) Tryz.f108 40 [.v (.fl (e6 x)), .v (.fl (e6 y))] = some ([], .one (.fl (e6 (F6.sub x y)))) := by kernel_rfl
noncomputable def T_t6minus (c : Bool) : Tab := (T_t6plus c).add 108 (g2 rd6 rd6 (fun x y => ([], .one (.fl (e6 (F6.sub x y))))))
theorem ok_t6minus (c : Bool) (hB : TabOk Tryz.prog (T_B c)) : TabOk Tryz.prog (T_t6minus c) := (ok_t6plus c hB).add Tryz.func108 (by kernel_rfl) (by kernel_rfl) (g2_ok rd6_ok rd6_ok fun x y hp args w ha => fun_sound hmix (ok_t6plus c hB) qN_ok Tryz.func108 (run_t6minus c x y) hp ha)
set_option maxRecDepth 100000 in
theorem run_t6v (c : Bool) (x : Q6) : funA Tryz.prog (T_t6minus c) qN (fun _ => true) Tryz.f109 40 [.v (.fl (e6 x))] = some ([], .one (.fl (e6 ((F2.mul x.2.2 xiE, x.1, x.2.1))))) := by kernel_rfl
theorem raw_t6v (x : Q6) : F6.mul vE x = (F2.mul x.2.2 xiE, x.1, x.2.1) := by
  show (F2.add (F2.mul F2.zero x.1) (F2.mul xiE (F2.add (F2.mul F2.one x.2.2) (F2.mul F2.zero x.2.1))), F2.add (F2.add (F2.mul F2.zero x.2.1) (F2.mul F2.one x.1)) (F2.mul xiE (F2.mul F2.zero x.2.2)), F2.add (F2.add (F2.mul F2.zero x.2.2) (F2.mul F2.one x.2.1)) (F2.mul F2.zero x.1)) = _
  simp only [F2.zero_mul, F2.one_mul, F2.zero_add, F2.add_zero, F2.mul_zero, F2.mul_comm xiE]
noncomputable def T_t6v (c : Bool) : Tab := (T_t6minus c).add 109 (g1 rd6 (fun x => ([], .one (.fl (e6 (F6.mul vE x))))))
theorem ok_t6v (c : Bool) (hB : TabOk Tryz.prog (T_B c)) : TabOk Tryz.prog (T_t6v c) := (ok_t6minus c hB).add Tryz.func109 (by kernel_rfl) (by kernel_rfl) (g1_ok rd6_ok fun x hp args w ha => by show Good _ _ (.one (.fl (e6 (F6.mul vE x)))) _ _; rw [raw_t6v x]; exact fun_sound hmix (ok_t6minus c hB) qN_ok Tryz.func109 (run_t6v c x) hp ha)
set_option maxRecDepth 100000 in
theorem run_t6out (c : Bool) (x : Q6) : funA Tryz.prog (T_t6v c) qN (fun _ => true) Tryz.f111 40 [.v (.fl (e6 x))] = some ([], .one (.fl (e6 (x)))) := by kernel_rfl
noncomputable def T_t6out (c : Bool) : Tab := (T_t6v c).add 111 (g1 rd6 (fun x => ([], .one (.fl (e6 (x))))))
theorem ok_t6out (c : Bool) (hB : TabOk Tryz.prog (T_B c)) : TabOk Tryz.prog (T_t6out c) := (ok_t6v c hB).add Tryz.func111 (by kernel_rfl) (by kernel_rfl) (g1_ok rd6_ok fun x hp args w ha => fun_sound hmix (ok_t6v c hB) qN_ok Tryz.func111 (run_t6out c x) hp ha)
set_option maxRecDepth 100000 in
theorem run_one6 (c : Bool)  : funA Tryz.prog (T_t6out c) qN (fun _ => true) Tryz.f118 40 [] = some ([], .one (.fl (e6 (F6.one)))) := by kernel_rfl
noncomputable def T_one6 (c : Bool) : Tab := (T_t6out c).add 118 (g0 (.one (.fl (e6 (F6.one)))))
theorem ok_one6 (c : Bool) (hB : TabOk Tryz.prog (T_B c)) : TabOk Tryz.prog (T_one6 c) := (ok_t6out c hB).add Tryz.func118 (by kernel_rfl) (by kernel_rfl) (g0_ok fun w => fun_sound hmix (ok_t6out c hB) qN_ok Tryz.func118 (run_one6 c ) trivial (args := []) trivial)
set_option maxRecDepth 100000 in
theorem run_rest6 (c : Bool) (x : N6) : funA Tryz.prog (T_one6 c) qN (fun _ => true) Tryz.f107 40 [.v (.fl (q6 x))] = some ([], .one (.fl (e6 (m6 x)))) := by kernel_rfl
noncomputable def T_rest6 (c : Bool) : Tab := (T_one6 c).add 107 (g1 rq6 (fun x => ([], .one (.fl (e6 (m6 x))))))
theorem ok_rest6 (c : Bool) (hB : TabOk Tryz.prog (T_B c)) : TabOk Tryz.prog (T_rest6 c) := (ok_one6 c hB).add Tryz.func107 (by kernel_rfl) (by kernel_rfl) (g1_ok rq6_ok fun x hp args w ha => fun_sound hmix (ok_one6 c hB) qN_ok Tryz.func107 (run_rest6 c x) hp ha)
set_option maxRecDepth 100000 in
theorem run_t6times (c : Bool) (x : Q6) (y : Q6) : funA Tryz.prog (T_rest6 c) qN (fun _ => true) Tryz.f106 40 [.v (.fl (e6 x)), .v (.fl (e6 y))] = some ([], .one (.fl (e6 ((dotQ [x.1, x.2.1, x.2.2] [y.1, F2.mul y.2.2 xiE, F2.mul y.2.1 xiE], dotQ [x.1, x.2.1, x.2.2] [y.2.1, y.1, F2.mul y.2.2 xiE], dotQ [x.1, x.2.1, x.2.2] [y.2.2, y.2.1, y.1]))))) := by kernel_rfl
theorem raw_t6times (x : Q6) (y : Q6) : F6.mul x y = (dotQ [x.1, x.2.1, x.2.2] [y.1, F2.mul y.2.2 xiE, F2.mul y.2.1 xiE], dotQ [x.1, x.2.1, x.2.2] [y.2.1, y.1, F2.mul y.2.2 xiE], dotQ [x.1, x.2.1, x.2.2] [y.2.2, y.2.1, y.1]) := by
  refine Prod.ext ?_ (Prod.ext ?_ rfl)
  · show F2.add (F2.mul x.1 y.1) (F2.mul xiE (F2.add (F2.mul x.2.1 y.2.2) (F2.mul x.2.2 y.2.1))) = F2.add (F2.add (F2.mul x.1 y.1) (F2.mul x.2.1 (F2.mul y.2.2 xiE))) (F2.mul x.2.2 (F2.mul y.2.1 xiE))
    rw [F2.mul_add, F2.add_assoc, F2.mul_comm xiE, F2.mul_comm xiE, F2.mul_assoc, F2.mul_assoc]
  · show F2.add (F2.add (F2.mul x.1 y.2.1) (F2.mul x.2.1 y.1)) (F2.mul xiE (F2.mul x.2.2 y.2.2)) = F2.add (F2.add (F2.mul x.1 y.2.1) (F2.mul x.2.1 y.1)) (F2.mul x.2.2 (F2.mul y.2.2 xiE))
    rw [F2.mul_comm xiE, F2.mul_assoc]
noncomputable def T_t6times (c : Bool) : Tab := (T_rest6 c).add 106 (g2 rd6 rd6 (fun x y => ([], .one (.fl (e6 (F6.mul x y))))))
theorem ok_t6times (c : Bool) (hB : TabOk Tryz.prog (T_B c)) : TabOk Tryz.prog (T_t6times c) := (ok_rest6 c hB).add Tryz.func106 (by kernel_rfl) (by kernel_rfl) (g2_ok rd6_ok rd6_ok fun x y hp args w ha => by show Good _ _ (.one (.fl (e6 (F6.mul x y)))) _ _; rw [raw_t6times x y]; exact fun_sound hmix (ok_rest6 c hB) qN_ok Tryz.func106 (run_t6times c x y) hp ha)
noncomputable def oInv6 (c : Bool) (x : Q6) : List Prop × RV := bif c then ([nm2 (n6 x) ≠ F1.zero], .many [.fl (e6 (iv6 x)), .im (.int .i64 0)]) else ([nm2 (n6 x) = F1.zero], .many [.fl (e6 F6.zero), .im (.int .i64 22)])
set_option maxRecDepth 100000 in
theorem run_t6inv_true (x : Q6) : funA Tryz.prog (T_t6times true) qN (fun _ => true) Tryz.f110 40 [.v (.fl (e6 x))] = some ([nm2 (n6 x) ≠ F1.zero], .many [.fl (e6 (iv6 x)), .im (.int .i64 0)]) := by kernel_rfl
set_option maxRecDepth 100000 in
theorem run_t6inv_false (x : Q6) : funA Tryz.prog (T_t6times false) qN (fun _ => true) Tryz.f110 40 [.v (.fl (e6 x))] = some ([nm2 (n6 x) = F1.zero], .many [.fl (e6 F6.zero), .im (.int .i64 22)]) := by kernel_rfl
theorem oInv6_ok (c : Bool) (hB : TabOk Tryz.prog (T_B c)) (x : Q6) (hp : allP (oInv6 c x).1) (args : List Value) (w : World) (ha : CAs w [.v (.fl (e6 x))] args) : Good Tryz.prog 110 (oInv6 c x).2 args w := by
  cases c
  · exact fun_sound hmix (ok_t6times false hB) qN_ok Tryz.func110 (run_t6inv_false x) hp ha
  · exact fun_sound hmix (ok_t6times true hB) qN_ok Tryz.func110 (run_t6inv_true x) hp ha
noncomputable def T_t6inv (c : Bool) : Tab := (T_t6times c).add 110 (g1 rd6 (oInv6 c))
theorem ok_t6inv (c : Bool) (hB : TabOk Tryz.prog (T_B c)) : TabOk Tryz.prog (T_t6inv c) := (ok_t6times c hB).add Tryz.func110 (by kernel_rfl) (by kernel_rfl) (g1_ok rd6_ok (oInv6_ok c hB))
end Go.Proofs.YtgacpjmggdmgdaaGreat.Ex
namespace Go.Proofs.YtgacpjmggdmgdaaGreat.Ex
set_option linter.unusedVariables false
set_option linter.unusedSimpArgs false
open Go.RowKit

def cj12 (x : Q12) : Q12 := (x.1, F6.sub F6.zero x.2)
def n12 (x : Q12) : Q6 := F6.sub (F6.mul x.1 x.1) (F6.mul vE (F6.mul x.2 x.2))
noncomputable def iv12 (x : Q12) : Q12 := (F6.mul x.1 (iv6 (n12 x)), F6.mul (F6.sub F6.zero x.2) (iv6 (n12 x)))
/-- 0 just of 0 -/
def nu12 (x : Q12) : Fq := nm2 (n6 (n12 x))

set_option maxRecDepth 100000 in
theorem run_t12times (c : Bool) (x : Q12) (y : Q12) : funA Tryz.prog (T_t6inv c) qN (fun _ => true) Tryz.f68 40 [.v (.fl (e12 x)), .v (.fl (e12 y))] = some ([], .one (.fl (e12 ((F6.add (F6.mul x.1 y.1) (F6.mul vE (F6.mul x.2 y.2)), F6.sub (F6.sub (F6.mul (F6.add x.1 x.2) (F6.add y.1 y.2)) (F6.mul x.1 y.1)) (F6.mul x.2 y.2)))))) := by kernel_rfl
theorem raw_t12times (x : Q12) (y : Q12) : F12.mul x y = (F6.add (F6.mul x.1 y.1) (F6.mul vE (F6.mul x.2 y.2)), F6.sub (F6.sub (F6.mul (F6.add x.1 x.2) (F6.add y.1 y.2)) (F6.mul x.1 y.1)) (F6.mul x.2 y.2)) := by
  refine Prod.ext rfl ?_
  exact ring_id F6 (envL F6 [x.1, x.2, y.1, y.2]) (.add (.mul (.v 0) (.v 3)) (.mul (.v 1) (.v 2))) (.add (.add (.mul (.add (.v 0) (.v 1)) (.add (.v 2) (.v 3))) (.neg (.mul (.v 0) (.v 2)))) (.neg (.mul (.v 1) (.v 3)))) (by decide)
noncomputable def T_t12times (c : Bool) : Tab := (T_t6inv c).add 68 (g2 rd12 rd12 (fun x y => ([], .one (.fl (e12 (F12.mul x y))))))
theorem ok_t12times (c : Bool) (hB : TabOk Tryz.prog (T_B c)) : TabOk Tryz.prog (T_t12times c) := (ok_t6inv c hB).add Tryz.func68 (by kernel_rfl) (by kernel_rfl) (g2_ok rd12_ok rd12_ok fun x y hp args w ha => by show Good _ _ (.one (.fl (e12 (F12.mul x y)))) _ _; rw [raw_t12times x y]; exact fun_sound hmix (ok_t6inv c hB) qN_ok Tryz.func68 (run_t12times c x y) hp ha)
set_option maxRecDepth 100000 in
theorem run_t12conj (c : Bool) (x : Q12) : funA Tryz.prog (T_t12times c) qN (fun _ => true) Tryz.f71 40 [.v (.fl (e12 x))] = some ([], .one (.fl (e12 (cj12 x)))) := by kernel_rfl
noncomputable def T_t12conj (c : Bool) : Tab := (T_t12times c).add 71 (g1 rd12 (fun x => ([], .one (.fl (e12 (cj12 x))))))
theorem ok_t12conj (c : Bool) (hB : TabOk Tryz.prog (T_B c)) : TabOk Tryz.prog (T_t12conj c) := (ok_t12times c hB).add Tryz.func71 (by kernel_rfl) (by kernel_rfl) (g1_ok rd12_ok fun x hp args w ha => fun_sound hmix (ok_t12times c hB) qN_ok Tryz.func71 (run_t12conj c x) hp ha)
set_option maxRecDepth 100000 in
theorem run_t12out (c : Bool) (x : Q12) : funA Tryz.prog (T_t12conj c) qN (fun _ => true) Tryz.f62 40 [.v (.fl (e12 x))] = some ([], .one (.fl (e12 (x)))) := by kernel_rfl
noncomputable def T_t12out (c : Bool) : Tab := (T_t12conj c).add 62 (g1 rd12 (fun x => ([], .one (.fl (e12 (x))))))
theorem ok_t12out (c : Bool) (hB : TabOk Tryz.prog (T_B c)) : TabOk Tryz.prog (T_t12out c) := (ok_t12conj c hB).add Tryz.func62 (by kernel_rfl) (by kernel_rfl) (g1_ok rd12_ok fun x hp args w ha => fun_sound hmix (ok_t12conj c hB) qN_ok Tryz.func62 (run_t12out c x) hp ha)
set_option maxRecDepth 100000 in
theorem run_rest12 (c : Bool) (x : N12) : funA Tryz.prog (T_t12out c) qN (fun _ => true) Tryz.f60 40 [.v (.fl (q12 x))] = some ([], .one (.fl (e12 (m12 x)))) := by kernel_rfl
noncomputable def T_rest12 (c : Bool) : Tab := (T_t12out c).add 60 (g1 rq12 (fun x => ([], .one (.fl (e12 (m12 x))))))
theorem ok_rest12 (c : Bool) (hB : TabOk Tryz.prog (T_B c)) : TabOk Tryz.prog (T_rest12 c) := (ok_t12out c hB).add Tryz.func60 (by kernel_rfl) (by kernel_rfl) (g1_ok rq12_ok fun x hp args w ha => fun_sound hmix (ok_t12out c hB) qN_ok Tryz.func60 (run_rest12 c x) hp ha)
set_option maxRecDepth 100000 in
theorem run_one12 (c : Bool)  : funA Tryz.prog (T_rest12 c) qN (fun _ => true) Tryz.f76 40 [] = some ([], .one (.fl (e12 (F12.one)))) := by kernel_rfl
noncomputable def T_one12 (c : Bool) : Tab := (T_rest12 c).add 76 (g0 (.one (.fl (e12 (F12.one)))))
theorem ok_one12 (c : Bool) (hB : TabOk Tryz.prog (T_B c)) : TabOk Tryz.prog (T_one12 c) := (ok_rest12 c hB).add Tryz.func76 (by kernel_rfl) (by kernel_rfl) (g0_ok fun w => fun_sound hmix (ok_rest12 c hB) qN_ok Tryz.func76 (run_one12 c ) trivial (args := []) trivial)
noncomputable def oInv12 (c : Bool) (x : Q12) : List Prop × RV := bif c then ([nu12 x ≠ F1.zero], .many [.fl (e12 (iv12 x)), .im (.int .i64 0)]) else ([nu12 x = F1.zero], .many [.fl (e12 F12.zero), .im (.int .i64 22)])
set_option maxRecDepth 100000 in
theorem run_t12inv_true (x : Q12) : funA Tryz.prog (T_one12 true) qN (fun _ => true) Tryz.f61 40 [.v (.fl (e12 x))] = some ([nu12 x ≠ F1.zero], .many [.fl (e12 (iv12 x)), .im (.int .i64 0)]) := by kernel_rfl
set_option maxRecDepth 100000 in
theorem run_t12inv_false (x : Q12) : funA Tryz.prog (T_one12 false) qN (fun _ => true) Tryz.f61 40 [.v (.fl (e12 x))] = some ([nu12 x = F1.zero], .many [.fl (e12 F12.zero), .im (.int .i64 22)]) := by kernel_rfl
theorem oInv12_ok (c : Bool) (hB : TabOk Tryz.prog (T_B c)) (x : Q12) (hp : allP (oInv12 c x).1) (args : List Value) (w : World) (ha : CAs w [.v (.fl (e12 x))] args) : Good Tryz.prog 61 (oInv12 c x).2 args w := by
  cases c
  · exact fun_sound hmix (ok_one12 false hB) qN_ok Tryz.func61 (run_t12inv_false x) hp ha
  · exact fun_sound hmix (ok_one12 true hB) qN_ok Tryz.func61 (run_t12inv_true x) hp ha
noncomputable def T_t12inv (c : Bool) : Tab := (T_one12 c).add 61 (g1 rd12 (oInv12 c))
theorem ok_t12inv (c : Bool) (hB : TabOk Tryz.prog (T_B c)) : TabOk Tryz.prog (T_t12inv c) := (ok_one12 c hB).add Tryz.func61 (by kernel_rfl) (by kernel_rfl) (g1_ok rd12_ok (oInv12_ok c hB))
set_option maxRecDepth 100000 in
theorem run_Mul12 (c : Bool) (x : N12) (y : N12) : funA Tryz.prog (T_t12inv c) qN (fun _ => true) Tryz.f27 40 [.v (.fl (q12 x)), .v (.fl (q12 y))] = some ([], .one (.fl (e12 (F12.mul (m12 x) (m12 y))))) := by kernel_rfl
noncomputable def T_Mul12 (c : Bool) : Tab := (T_t12inv c).add 27 (g2 rq12 rq12 (fun x y => ([], .one (.fl (e12 (F12.mul (m12 x) (m12 y)))))))
theorem ok_Mul12 (c : Bool) (hB : TabOk Tryz.prog (T_B c)) : TabOk Tryz.prog (T_Mul12 c) := (ok_t12inv c hB).add Tryz.func27 (by kernel_rfl) (by kernel_rfl) (g2_ok rq12_ok rq12_ok fun x y hp args w ha => fun_sound hmix (ok_t12inv c hB) qN_ok Tryz.func27 (run_Mul12 c x y) hp ha)
noncomputable def oInvX (c : Bool) (x : N12) : List Prop × RV := bif c then ([nu12 (m12 x) ≠ F1.zero], .many [.fl (e12 (iv12 (m12 x))), .im (.int .i64 0)]) else ([nu12 (m12 x) = F1.zero], .many [.fl (e12 F12.zero), .im (.int .i64 22)])
set_option maxRecDepth 100000 in
theorem run_Inv12_true (x : N12) : funA Tryz.prog (T_Mul12 true) qN (fun _ => true) Tryz.f25 40 [.v (.fl (q12 x))] = some ([nu12 (m12 x) ≠ F1.zero], .many [.fl (e12 (iv12 (m12 x))), .im (.int .i64 0)]) := by kernel_rfl
set_option maxRecDepth 100000 in
theorem run_Inv12_false (x : N12) : funA Tryz.prog (T_Mul12 false) qN (fun _ => true) Tryz.f25 40 [.v (.fl (q12 x))] = some ([nu12 (m12 x) = F1.zero], .many [.fl (e12 F12.zero), .im (.int .i64 22)]) := by kernel_rfl
theorem oInvX_ok (c : Bool) (hB : TabOk Tryz.prog (T_B c)) (x : N12) (hp : allP (oInvX c x).1) (args : List Value) (w : World) (ha : CAs w [.v (.fl (q12 x))] args) : Good Tryz.prog 25 (oInvX c x).2 args w := by
  cases c
  · exact fun_sound hmix (ok_Mul12 false hB) qN_ok Tryz.func25 (run_Inv12_false x) hp ha
  · exact fun_sound hmix (ok_Mul12 true hB) qN_ok Tryz.func25 (run_Inv12_true x) hp ha
noncomputable def T_Inv12 (c : Bool) : Tab := (T_Mul12 c).add 25 (g1 rq12 (oInvX c))
theorem ok_Inv12 (c : Bool) (hB : TabOk Tryz.prog (T_B c)) : TabOk Tryz.prog (T_Inv12 c) := (ok_Mul12 c hB).add Tryz.func25 (by kernel_rfl) (by kernel_rfl) (g1_ok rq12_ok (oInvX_ok c hB))
set_option maxRecDepth 100000 in
theorem run_One12 (c : Bool)  : funA Tryz.prog (T_Inv12 c) qN (fun _ => true) Tryz.f34 40 [] = some ([], .one (.fl (e12 (F12.one)))) := by kernel_rfl
noncomputable def T_One12 (c : Bool) : Tab := (T_Inv12 c).add 34 (g0 (.one (.fl (e12 (F12.one)))))
theorem ok_One12 (c : Bool) (hB : TabOk Tryz.prog (T_B c)) : TabOk Tryz.prog (T_One12 c) := (ok_Inv12 c hB).add Tryz.func34 (by kernel_rfl) (by kernel_rfl) (g0_ok fun w => fun_sound hmix (ok_Inv12 c hB) qN_ok Tryz.func34 (run_One12 c ) trivial (args := []) trivial)
noncomputable def oInvY (c : Bool) (x : N2) : List Prop × RV := bif c then ([nm2 (m2 x) ≠ F1.zero], .many [.fl (e2 (iv2 (m2 x))), .im (.int .i64 0)]) else ([nm2 (m2 x) = F1.zero], .many [.fl (e2 F2.zero), .im (.int .i64 22)])
set_option maxRecDepth 100000 in
theorem run_Inv2_true (x : N2) : funA Tryz.prog (T_One12 true) qN (fun _ => true) Tryz.f7 40 [.v (.fl (q2 x))] = some ([nm2 (m2 x) ≠ F1.zero], .many [.fl (e2 (iv2 (m2 x))), .im (.int .i64 0)]) := by kernel_rfl
set_option maxRecDepth 100000 in
theorem run_Inv2_false (x : N2) : funA Tryz.prog (T_One12 false) qN (fun _ => true) Tryz.f7 40 [.v (.fl (q2 x))] = some ([nm2 (m2 x) = F1.zero], .many [.fl (e2 F2.zero), .im (.int .i64 22)]) := by kernel_rfl
theorem oInvY_ok (c : Bool) (hB : TabOk Tryz.prog (T_B c)) (x : N2) (hp : allP (oInvY c x).1) (args : List Value) (w : World) (ha : CAs w [.v (.fl (q2 x))] args) : Good Tryz.prog 7 (oInvY c x).2 args w := by
  cases c
  · exact fun_sound hmix (ok_One12 false hB) qN_ok Tryz.func7 (run_Inv2_false x) hp ha
  · exact fun_sound hmix (ok_One12 true hB) qN_ok Tryz.func7 (run_Inv2_true x) hp ha
noncomputable def T_Inv2 (c : Bool) : Tab := (T_One12 c).add 7 (g1 rq2 (oInvY c))
theorem ok_Inv2 (c : Bool) (hB : TabOk Tryz.prog (T_B c)) : TabOk Tryz.prog (T_Inv2 c) := (ok_One12 c hB).add Tryz.func7 (by kernel_rfl) (by kernel_rfl) (g1_ok rq2_ok (oInvY_ok c hB))
set_option maxRecDepth 100000 in
theorem run_Mul2 (c : Bool) (x : N2) (y : N2) : funA Tryz.prog (T_Inv2 c) qN (fun _ => true) Tryz.f15 40 [.v (.fl (q2 x)), .v (.fl (q2 y))] = some ([], .one (.fl (e2 (F2.mul (m2 x) (m2 y))))) := by kernel_rfl
noncomputable def T_Mul2 (c : Bool) : Tab := (T_Inv2 c).add 15 (g2 rq2 rq2 (fun x y => ([], .one (.fl (e2 (F2.mul (m2 x) (m2 y)))))))
theorem ok_Mul2 (c : Bool) (hB : TabOk Tryz.prog (T_B c)) : TabOk Tryz.prog (T_Mul2 c) := (ok_Inv2 c hB).add Tryz.func15 (by kernel_rfl) (by kernel_rfl) (g2_ok rq2_ok rq2_ok fun x y hp args w ha => fun_sound hmix (ok_Inv2 c hB) qN_ok Tryz.func15 (run_Mul2 c x y) hp ha)
set_option maxRecDepth 100000 in
theorem run_Neg2 (c : Bool) (x : N2) : funA Tryz.prog (T_Mul2 c) qN (fun _ => true) Tryz.f17 40 [.v (.fl (q2 x))] = some ([], .one (.fl (e2 (F2.sub F2.zero (m2 x))))) := by kernel_rfl
noncomputable def T_Neg2 (c : Bool) : Tab := (T_Mul2 c).add 17 (g1 rq2 (fun x => ([], .one (.fl (e2 (F2.sub F2.zero (m2 x)))))))
theorem ok_Neg2 (c : Bool) (hB : TabOk Tryz.prog (T_B c)) : TabOk Tryz.prog (T_Neg2 c) := (ok_Mul2 c hB).add Tryz.func17 (by kernel_rfl) (by kernel_rfl) (g1_ok rq2_ok fun x hp args w ha => fun_sound hmix (ok_Mul2 c hB) qN_ok Tryz.func17 (run_Neg2 c x) hp ha)

def gBoth : Ent
  | [.v (.fl l), .v (.fl m), .v (.im (.func (.func id) a b))] => match rq6 l, rq6 m, a.toList, b.toList with
    | some x, some y, [], [] => bif Nat.beq id 106 then some ([], .one (.fl (e6 (F6.mul (m6 x) (m6 y))))) else none
    | _, _, _, _ => none
  | _ => none
set_option maxRecDepth 100000 in
theorem run_both (c : Bool) (x y : N6) : funA Tryz.prog (T_Neg2 c) qN (fun _ => true) Tryz.f105 40 [.v (.fl (q6 x)), .v (.fl (q6 y)), .v (.im (.func (.func 106) #[] #[]))] = some ([], .one (.fl (e6 (F6.mul (m6 x) (m6 y))))) := by kernel_rfl
theorem both_ok (c : Bool) (hB : TabOk Tryz.prog (T_B c)) : ∀ cs pre r, gBoth cs = some (pre, r) → allP pre → ∀ (args : List Value) (w : World), CAs w cs args → Good Tryz.prog 105 r args w := by
  intro cs pre r hg hp args w ha
  unfold gBoth at hg
  split at hg
  · rename_i l m id a b
    split at hg
    · rename_i x y hx hy h1 h2
      cases hb : Nat.beq id 106 <;> rw [hb] at hg
      · cases hg
      · cases hg
        cases Nat.eq_of_beq_eq_true hb
        have ea : a = #[] := by rw [← Array.toArray_toList (xs := a), h1]
        have eb : b = #[] := by rw [← Array.toArray_toList (xs := b), h2]
        subst ea; subst eb
        refine fun_sound hmix (ok_Neg2 c hB) qN_ok Tryz.func105 (run_both c x y) trivial ?_
        match args, ha with
        | [v, u, s], ha =>
          refine ⟨?_, ?_, ha.2.2.1, trivial⟩
          · show v = .agg (flat (q6 x)).toArray
            rw [← rq6_ok l x hx]
            exact ha.1
          · show u = .agg (flat (q6 y)).toArray
            rw [← rq6_ok m y hy]
            exact ha.2.1
        | [], ha => exact ha.elim
        | [_], ha => exact ha.2.elim
        | [_, _], ha => exact ha.2.2.elim
        | _ :: _ :: _ :: _ :: _, ha => exact ha.2.2.2.elim
    · cases hg
  · cases hg
noncomputable def T_both (c : Bool) : Tab := (T_Neg2 c).add 105 gBoth
theorem ok_both (c : Bool) (hB : TabOk Tryz.prog (T_B c)) : TabOk Tryz.prog (T_both c) := (ok_Neg2 c hB).add Tryz.func105 (by kernel_rfl) (by kernel_rfl) (both_ok c hB)
set_option maxRecDepth 100000 in
theorem run_Mul6 (c : Bool) (x : N6) (y : N6) : funA Tryz.prog (T_both c) qN (fun _ => true) Tryz.f59 40 [.v (.fl (q6 x)), .v (.fl (q6 y))] = some ([], .one (.fl (e6 (F6.mul (m6 x) (m6 y))))) := by kernel_rfl
noncomputable def T_Mul6 (c : Bool) : Tab := (T_both c).add 59 (g2 rq6 rq6 (fun x y => ([], .one (.fl (e6 (F6.mul (m6 x) (m6 y)))))))
theorem ok_Mul6 (c : Bool) (hB : TabOk Tryz.prog (T_B c)) : TabOk Tryz.prog (T_Mul6 c) := (ok_both c hB).add Tryz.func59 (by kernel_rfl) (by kernel_rfl) (g2_ok rq6_ok rq6_ok fun x y hp args w ha => fun_sound hmix (ok_both c hB) qN_ok Tryz.func59 (run_Mul6 c x y) hp ha)
end Go.Proofs.YtgacpjmggdmgdaaGreat.Ex
