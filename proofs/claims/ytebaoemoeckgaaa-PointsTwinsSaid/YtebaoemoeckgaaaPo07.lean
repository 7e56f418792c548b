/-
  The reckoner: steps that are so, one after another; loops by rounds; tables that hold from a world on. Of whatever program. Conditions: none.
  The reckoner: a region by parts; lists of blocks; made slices of zeros. Of whatever program. Conditions: none.
  Commutative rings, their square and cubic extensions, by plain words.
  Towers of pairs and triples over Fp: how their elements lie flat; what a table of calls says of functions over them. Of whatever program. Conditions: none.
  Plain numbers: the two moduli are primes with a known root each, so that whatever is not 0 is a power of it. No program in sight. Conditions: none.
  The tower's parts in a table of calls. Conditions: none.
  DERIVED: THE SHELF's CONTRACTS AT THIS DUMP, IN PLAIN WORDS (tools/lay-plain.mjs out of 'TryShelf.lean', which tools/lay-shelf.mjs wrote): THE SAME DECLARATIONS UNDER THE SAME NAMES: 'import', 'namespace', 'open', 'def', 'theorem' AND NOTHING ELSE: no command of the shelf's: FOR A HAND-IN. Each laying: the table of numbers ('.._ren') and one theorem, a field a fact of the dump's own or the kernel's comparison; each contract: ONE APPLICATION.
  The calls of limbs.timesWord and limbs.Mul: for any numbers of four words, in any world, the answers are the product's words. Conditions: each word below 2^64.
  The call of bits.Div64: for a divisor above the upper word, in any world, the answers are the quotient and the rest of the two words' number; nothing that was there is changed. Conditions: hi below y, all below 2^64.
  The call of limbs.Mul: for any two numbers of four words, in any world, the answers are the product's upper and lower four words. Conditions: each word below 2^64.
  The call of limbs.takeWord: the rest times 2^64 and a word more, modulo a divisor whose highest bit is set. Conditions: the divisor's highest word at least 2^63, the rest below the divisor, each word below 2^64.
-/
import Derived.Laws.MakeOwn
import Derived.Laws.Externs
import Derived.Shelf.Strconv.Itoa0
import Derived.Shelf.Bits.Mul64
import Derived.StillTailTactics
import Derived.LoopTactic
import Derived.Deep.LoopGhost
import Derived.Test.YtebaoemoeckgaaaPo06
import Derived.Test.YtebaoemoeckgaaaPo05
import Derived.Test.YtebaoemoeckgaaaProg
import Derived.Test.YtebaoemoeckgaaaPo00
namespace Go.Proofs.Ytebaoemoeckgaaa.Ex
set_option linter.unusedVariables false
set_option linter.unusedSimpArgs false
open Go.RowKit

/-- code leads from the facts A to the facts L -/
def Ok (P : Program) (base : Nat) (w0 : World) (nt : Nat) (c : Code) (A : List Fact) (e : EA) (L : List Fact) : Prop :=
  ∃ q C f ps, EqOkW P q base w0 ∧ (∀ n d, TabOkW P ((C n).T d) base w0) ∧ runK P q nt C f c A L = some (ps, e, L) ∧ allP ps
section
variable {P : Program} {nt base : Nat} {w0 : World} {Q : Exit → Act → World → Prop}
theorem Ok.wp (hm : P.follows .mixedOrders = true) {c : Code} {A L : List Fact} {e : EA} (h : Ok P base w0 nt c A e L) {a : Act} {w : World} (hA : Holds nt base w0 A a w) (hQ : ∀ a w, Holds nt base w0 L a w → Q e.out a w) : c.wp P Q a w := by
  obtain ⟨q, C, f, ps, h1, h2, h3, h4⟩ := h
  exact runKW_sound hm h2 h1 h3 h4 hA hQ
/-- a loop: round i leads from the facts A i to A (i + 1); the round behind the last leaves with e -/
theorem loop_r (hm : P.follows .mixedOrders = true) {c : Code} (A : Nat → List Fact) (N : Nat) (hstep : ∀ i, i < N → Ok P base w0 nt c (A i) .nrm (A (i + 1)))
    (e : EA) (he : e ≠ .nrm) (A' : List Fact) (hend : Ok P base w0 nt c (A N) e A')
    {a : Act} {w : World} (hA : Holds nt base w0 (A 0) a w) (hQ : ∀ a w, Holds nt base w0 A' a w → Q e.out a w) : (Code.loop c).wp P Q a w := by
  have key : ∀ m i a w, i + m = N → Holds nt base w0 (A i) a w → Un P c Q (m + 1) a w := by
    intro m
    induction m with
    | zero =>
      intro i a w hi hA
      have : i = N := by omega
      subst this
      unfold Un
      refine hend.wp hm hA fun a w hA1 => ?_
      have := hQ a w hA1
      cases e with
      | nrm => exact (he rfl).elim
      | ex id => exact this
      | rt => exact this
    | succ m ih =>
      intro i a w hi hA
      unfold Un
      exact (hstep i (by omega)).wp hm hA fun a w hA1 => ih (i + 1) a w (by omega) hA1
  exact wp_loop_un (key N 0 a w (by omega) hA)
end
theorem TabOkW.add {P : Program} {T : Tab} {base : Nat} {w0 : World} (hT : TabOkW P T base w0) {f : Nat} {fn : Func} (hf : P.funcs[f]? = some fn) (hn : (fn.name == "runtime.NumGoroutine") = false) (hb : fn.body.isNone = false) {g : List CA → Option (List Prop × RV)}
    (h : ∀ w, Below base w0 w → ∀ cs pre r, g cs = some (pre, r) → allP pre → ∀ (args : List Value), CAs w cs args → Calls P f args.toArray w (fun e w' => e = .returned r.den ∧ Below w.heap.size w w')) : TabOkW P (T.add f g) base w0 := by
  intro w hw f' cs pre r hg hp
  unfold Tab.add at hg
  cases hb' : Nat.beq f' f <;> rw [hb'] at hg
  · exact hT w hw f' cs pre r hg hp
  · cases Nat.eq_of_beq_eq_true hb'
    exact ⟨callable hf hn hb, h w hw cs pre r hg hp⟩
theorem oldOf.go {base : Nat} {w0 w : World} (hb : Below base w0 w) (hbase : base ≤ w0.heap.size) {b o : Nat} {l : List At} (h : b < base ∧ w0.rangeAt b o (flat l)) : oldOf w b o l :=
  ⟨Nat.lt_of_lt_of_le h.1 (Nat.le_trans hbase hb.size), below_range hb h.1 h.2⟩
def assoc {α : Type} : List (Nat × α) → Nat → Option α
  | [], _ => none
  | (k, v) :: r, s => bif Nat.beq k s then some v else assoc r s
def iI (n : Nat) : Value := .int .i64 (Int.ofNat n)
def slV (b o n m : Nat) : Value := .slice (some ⟨b, o, none⟩) n m
theorem i64_in' {n : Nat} (h : n < 9223372036854775808) : IntKind.i64.wrap (n : Int) = n := by rw [IntKind.wrap_i64]; omega
theorem o_gtr {i n : Nat} : intOp .gtr .i64 (Int.ofNat i) (Int.ofNat n) = some (.bool (decide (n < i))) := by
  show some (Value.bool (decide ((i : Int) > (n : Int)))) = _
  by_cases h : n < i
  · rw [decide_eq_true h, decide_eq_true (by omega)]
  · rw [decide_eq_false h, decide_eq_false (by omega)]
theorem o_sub {i k : Nat} (h : k ≤ i) (hi : i < 9223372036854775808) : intOp .sub .i64 (Int.ofNat i) (Int.ofNat k) = some (iI (i - k)) := by
  show some (Value.int .i64 (IntKind.i64.wrap ((i : Int) - (k : Int)))) = _
  rw [show (i : Int) - (k : Int) = ((i - k : Nat) : Int) by omega, i64_in' (by omega)]
  rfl
end Go.Proofs.Ytebaoemoeckgaaa.Ex
namespace Go.Proofs.Ytebaoemoeckgaaa.Ex
set_option linter.unusedVariables false
set_option linter.unusedSimpArgs false
open Go.RowKit

section
variable {E : Env} {ops big : Array Oper} {base : Nat} {w0 : World} {A A' : List Fact} {TF : List (Option Nat × Fact)} {rs : List Rec} {ps : List Prop} {Q : Exit → Act → World → Prop}
end
section
variable {P : Program} {nt base : Nat} {w0 : World} {A : List Fact} {a : Act} {w : World}
/-- a slice by its block's number -/
theorem Holds.im (h : Holds nt base w0 A a w) {s k o n m b : Nat} (h1 : Fact.slot s (.sl k o n m) ∈ A) (h2 : Fact.at k b ∈ A) : Holds nt base w0 (.slot s (.im (slV b o n m)) :: A) a w := by
  obtain ⟨β, g1, g2⟩ := h.facts
  have e1 := g1 _ h1
  have e2 := g1 _ h2
  simp only [Fact.ok] at e1 e2
  refine ⟨h.defers, h.size, h.below, h.heap, β, fun φ hφ => ?_, fun k1 k2 l1 l2 q1 q2 => ?_⟩
  · rcases List.mem_cons.1 hφ with rfl | hφ
    · show a.tmps[s]? = _
      rw [e1]
      simp [AV.den, e2, slV]
    · exact g1 φ hφ
  · rcases List.mem_cons.1 q1 with q1 | q1
    · cases q1
    · rcases List.mem_cons.1 q2 with q2 | q2
      · cases q2
      · exact g2 k1 k2 l1 l2 q1 q2
theorem Holds.old (h : Holds nt base w0 A a w) {k b : Nat} {l : List At} (h1 : Fact.row k true l ∈ A) (h2 : Fact.at k b ∈ A) : oldOf w b 0 l := by
  obtain ⟨β, g1, g2⟩ := h.facts
  obtain ⟨e1, e2, _⟩ := g1 _ h1
  have e3 := g1 _ h2
  simp only [Fact.ok] at e3
  rw [e3.1] at e1 e2
  rw [e3.2] at e2
  exact ⟨e1, e2⟩
theorem Holds.slot (h : Holds nt base w0 A a w) {s : Nat} {v : Value} (h1 : Fact.slot s (.im v) ∈ A) : a.tmps[s]? = some v := by
  obtain ⟨β, g1, g2⟩ := h.facts
  exact g1 _ h1
/-- behind a call that leaves what was there -/
theorem Holds.put (h : Holds nt base w0 A a w) {w' : World} (hb : Below w.heap.size w w') {d : Nat} (hd : d < nt) (v : TV) (hA : ∀ φ ∈ A, clob (some d) none φ = false) : Holds nt base w0 (.slot d v.av :: A) (a.put (some d) v.den) w' := by
  obtain ⟨β, g1, g2⟩ := h.facts
  have hP := post_call (base := base) (β := β) (a := a) (w := w) (w' := w') (M := A) v.av (d := d) (by rw [h.size]; exact hd) h.heap hb
  rw [TV.av_den] at hP
  refine ⟨by rw [put_defers]; exact h.defers, by rw [put_size]; exact h.size, h.below.trans (hb.mono h.heap), Nat.le_trans h.heap hb.size, β, fun φ hφ => ?_, fun k1 k2 l1 l2 q1 q2 => ?_⟩
  · rcases List.mem_cons.1 hφ with rfl | hφ
    · exact hP.ok _ (List.mem_singleton.2 rfl)
    · exact keep hP (g1 φ hφ) (hA φ hφ) fun kk k own l q => by cases q
  · rcases List.mem_cons.1 q1 with q1 | q1
    · cases q1
    · rcases List.mem_cons.1 q2 with q2 | q2
      · cases q2
      · exact g2 k1 k2 l1 l2 q1 q2
end
/-- blocks, one after another -/
def cat (f : Nat → List At) : Nat → Nat → List At
  | _, 0 => []
  | s, n + 1 => f s ++ cat f (s + 1) n
theorem cat_size {f : Nat → List At} {c : Nat} (h : ∀ j, fsz (f j) = c) : ∀ n s, fsz (cat f s n) = n * c
  | 0, s => by simp [cat, fsz]
  | n + 1, s => by
    show fsz (f s ++ cat f (s + 1) n) = _
    rw [fsz_append, h, cat_size h n, Nat.add_mul, Nat.one_mul, Nat.add_comm]
/-- the first i blocks are laid -/
def laid (f : Nat → List At) (z : List At) (N i : Nat) : List At := cat f 0 i ++ cat (fun _ => z) i (N - i)
/-- cells of one value -/
def Same (l : List Value) (v : Value) : Prop := l = List.replicate l.length v
theorem same_app {l m : List Value} {v : Value} (h : Same l v) (k : Same m v) : Same (l ++ m) v := by
  unfold Same at *
  rw [h, k]
  simp [List.replicate_append_replicate]
theorem cat_same {z : List At} {v : Value} (h : Same (flat z) v) : ∀ n s, Same (flat (cat (fun _ => z) s n)) v
  | 0, s => rfl
  | n + 1, s => by
    show Same (flat (z ++ cat (fun _ => z) (s + 1) n)) v
    rw [flat_append]
    exact same_app h (cat_same h n (s + 1))
/-- a slice of zeros is made -/
theorem made {P : Program} {t e : TypeId} {i : TypeInfo} {zv : Value} {z : List At} {v : Value} {N : Nat} (ht : P.underlying t = some (.slice e)) (hi : P.info? e = some i) (hz : i.zero = some zv) (hs : i.size = fsz z) (hv : zv.cells.toList = List.replicate i.size v) (hsame : Same (flat z) v) (h0 : 0 < fsz z)
    (hb : i.bytes * N ≤ 281474976710656) (hN : N < 4611686018427387904) :
    ∃ e, ∀ w : World, (Instr.makeSlice t (iI N) (iI N)).run P w = .ok (.slice (some ⟨w.heap.size, 0, none⟩) N N) (w.alloc (.cells (flat (cat (fun _ => z) 0 N)).toArray e)) := by
  refine ⟨e, fun w => ?_⟩
  have hr := Go.run_make (P := P) w t e i zv ht hi hz .i64 .i64 (N : Int) (N : Int) (by omega) (Int.le_refl _) (by rw [← Int.natCast_mul]; omega) (by omega)
  refine Eq.trans hr ?_
  have hsz : zv.cells.size = i.size := by rw [← Array.length_toList, hv, List.length_replicate]
  have hc : madeCells zv.cells (N * i.size) = (flat (cat (fun _ => z) 0 N)).toArray := by
    have hl := cat_size (f := fun _ => z) (c := fsz z) (fun _ => rfl) N 0
    have h2 := cat_same hsame N 0
    rw [h2, flat_len, hl, ← hs]
    unfold madeCells
    apply Array.ext
    · simp
    · intro j h1 h3
      simp only [Array.getElem_map, Array.getElem_range, List.getElem_toArray, List.getElem_replicate]
      have hj : j % zv.cells.size < zv.cells.size := Nat.mod_lt _ (by rw [hsz, hs]; exact h0)
      have e1 : zv.cells.toList[j % zv.cells.size]? = some v := by
        rw [hv, List.getElem?_replicate, if_pos (by omega)]
      rw [Array.getElem?_toList] at e1
      rw [getElem!_def, e1]
  simp only [Int.toNat_natCast, hc]
/-- what a type's elements are made of -/
theorem made' {P : Program} {t e : TypeId} {z : List At} {v : Value} {N n by8 : Nat} (ht : P.underlying t = some (.slice e)) (hi : (P.info? e).map (fun i => (i.zero.map (fun z => z.cells.toList), i.size, i.bytes)) = some (some (List.replicate n v), n, by8)) (hs : fsz z = n) (hsame : Same (flat z) v) (h0 : 0 < n)
    (hb : by8 * N ≤ 281474976710656) (hN : N < 4611686018427387904) :
    ∃ e, ∀ w : World, (Instr.makeSlice t (iI N) (iI N)).run P w = .ok (.slice (some ⟨w.heap.size, 0, none⟩) N N) (w.alloc (.cells (flat (cat (fun _ => z) 0 N)).toArray e)) := by
  cases hq : P.info? e with
  | none => rw [hq] at hi; cases hi
  | some it =>
    rw [hq] at hi
    cases hz : it.zero with
    | none => rw [Option.map_some, hz] at hi; cases hi
    | some zv =>
      rw [Option.map_some, hz] at hi
      simp only [Option.map_some, Option.some.injEq, Prod.mk.injEq] at hi
      obtain ⟨h1, h2, h3⟩ := hi
      exact made ht hq hz (by rw [h2, hs]) (by rw [h2, h1]) hsame (by rw [hs]; exact h0) (by rw [h3]; exact hb) hN
end Go.Proofs.Ytebaoemoeckgaaa.Ex
namespace Go.Proofs.Ytebaoemoeckgaaa
set_option linter.unusedVariables false
set_option linter.unusedSimpArgs false
/-- a commutative ring with one -/
structure CR (R : Type) where
  add : R → R → R
  mul : R → R → R
  neg : R → R
  zero : R
  one : R
  add_assoc : ∀ a b c, add (add a b) c = add a (add b c)
  add_comm : ∀ a b, add a b = add b a
  zero_add : ∀ a, add zero a = a
  neg_add : ∀ a, add (neg a) a = zero
  mul_assoc : ∀ a b c, mul (mul a b) c = mul a (mul b c)
  mul_comm : ∀ a b, mul a b = mul b a
  one_mul : ∀ a, mul one a = a
  mul_add : ∀ a b c, mul a (add b c) = add (mul a b) (mul a c)

namespace CR
variable {R : Type} (K : CR R)
theorem add_left_comm (a b c : R) : K.add a (K.add b c) = K.add b (K.add a c) := by rw [← K.add_assoc, K.add_comm a b, K.add_assoc]
theorem mul_left_comm (a b c : R) : K.mul a (K.mul b c) = K.mul b (K.mul a c) := by rw [← K.mul_assoc, K.mul_comm a b, K.mul_assoc]
theorem add_mul (a b c : R) : K.mul (K.add a b) c = K.add (K.mul a c) (K.mul b c) := by rw [K.mul_comm, K.mul_add, K.mul_comm c a, K.mul_comm c b]
theorem add_zero (a : R) : K.add a K.zero = a := by rw [K.add_comm, K.zero_add]
theorem add_neg (a : R) : K.add a (K.neg a) = K.zero := by rw [K.add_comm, K.neg_add]
theorem add_cancel {a b c : R} (h : K.add a b = K.add a c) : b = c := by
  have := congrArg (K.add (K.neg a)) h
  rwa [← K.add_assoc, ← K.add_assoc, K.neg_add, K.zero_add, K.zero_add] at this
theorem mul_zero (a : R) : K.mul a K.zero = K.zero := by
  apply K.add_cancel (a := K.mul a K.zero)
  rw [← K.mul_add, K.add_zero, K.add_zero]
theorem zero_mul (a : R) : K.mul K.zero a = K.zero := by rw [K.mul_comm, K.mul_zero]
theorem mul_one (a : R) : K.mul a K.one = a := by rw [K.mul_comm, K.one_mul]
theorem neg_mul (a b : R) : K.mul (K.neg a) b = K.neg (K.mul a b) := by
  apply K.add_cancel (a := K.mul a b)
  rw [← K.add_mul, K.add_neg, K.zero_mul, K.add_neg]
theorem neg_neg (a : R) : K.neg (K.neg a) = a := by
  apply K.add_cancel (a := K.neg a)
  rw [K.add_neg, K.neg_add]
theorem neg_add' (a b : R) : K.neg (K.add a b) = K.add (K.neg a) (K.neg b) := by
  apply K.add_cancel (a := K.add a b)
  rw [K.add_neg, K.add_assoc, K.add_left_comm b, K.add_neg, K.add_zero, K.add_neg]
theorem mul_neg (a b : R) : K.mul a (K.neg b) = K.neg (K.mul a b) := by rw [K.mul_comm, K.neg_mul, K.mul_comm]
def sub (a b : R) : R := K.add a (K.neg b)

/-- R[t] / (t^2 - q): pairs -/
def sq (q : R) : CR (R × R) where
  add x y := (K.add x.1 y.1, K.add x.2 y.2)
  mul x y := (K.add (K.mul x.1 y.1) (K.mul q (K.mul x.2 y.2)), K.add (K.mul x.1 y.2) (K.mul x.2 y.1))
  neg x := (K.neg x.1, K.neg x.2)
  zero := (K.zero, K.zero)
  one := (K.one, K.zero)
  add_assoc a b c := by simp only [K.add_assoc]
  add_comm a b := by rw [K.add_comm a.1, K.add_comm a.2]
  zero_add a := by simp only [K.zero_add]
  neg_add a := by simp only [K.neg_add]
  mul_assoc a b c := by
    simp only [K.mul_add, K.add_mul, K.mul_assoc, K.mul_left_comm, K.add_assoc, K.add_left_comm, K.add_comm]
  mul_comm a b := by
    simp only [K.mul_comm, K.add_comm]
  one_mul a := by simp only [K.one_mul, K.zero_mul, K.mul_zero, K.add_zero]
  mul_add a b c := by
    simp only [K.mul_add, K.add_assoc, Prod.mk.injEq]
    constructor <;> (simp only [K.add_left_comm])

end CR
/-- numbers modulo M -/
def fpCR (M : Nat) (h : 1 < M) : CR (Fin M) where
  add a b := ⟨(a.1 + b.1) % M, Nat.mod_lt _ (by omega)⟩
  mul a b := ⟨a.1 * b.1 % M, Nat.mod_lt _ (by omega)⟩
  neg a := ⟨(0 + M - a.1) % M, Nat.mod_lt _ (by omega)⟩
  zero := ⟨0, by omega⟩
  one := ⟨1, h⟩
  add_assoc a b c := Fin.ext (by show ((a.1 + b.1) % M + c.1) % M = (a.1 + (b.1 + c.1) % M) % M; rw [Nat.mod_add_mod, Nat.add_mod_mod, Nat.add_assoc])
  add_comm a b := Fin.ext (by show (a.1 + b.1) % M = (b.1 + a.1) % M; rw [Nat.add_comm])
  zero_add a := Fin.ext (by show (0 + a.1) % M = a.1; rw [Nat.zero_add, Nat.mod_eq_of_lt a.2])
  neg_add a := Fin.ext (by
    show ((0 + M - a.1) % M + a.1) % M = 0
    have := a.2
    rw [Nat.mod_add_mod, show 0 + M - a.1 + a.1 = M by omega, Nat.mod_self])
  mul_assoc a b c := Fin.ext (by show a.1 * b.1 % M * c.1 % M = a.1 * (b.1 * c.1 % M) % M; rw [Nat.mod_mul_mod, Nat.mul_mod_mod, Nat.mul_assoc])
  mul_comm a b := Fin.ext (by show a.1 * b.1 % M = b.1 * a.1 % M; rw [Nat.mul_comm])
  one_mul a := Fin.ext (by show 1 * a.1 % M = a.1; rw [Nat.one_mul, Nat.mod_eq_of_lt a.2])
  mul_add a b c := Fin.ext (by show a.1 * ((b.1 + c.1) % M) % M = (a.1 * b.1 % M + a.1 * c.1 % M) % M; rw [Nat.mul_mod_mod, Nat.mul_add, Nat.add_mod])
end Go.Proofs.Ytebaoemoeckgaaa
namespace Go.Proofs.Ytebaoemoeckgaaa.Ex
set_option linter.unusedVariables false
set_option linter.unusedSimpArgs false
open Go.RowKit

theorem fp_one : 1 < FP.M := by decide
def F1 : CR Fq := fpCR FP.M fp_one
def fm (n : Nat) : Fq := ⟨n % FP.M, Nat.mod_lt _ fp_pos⟩
abbrev Q2 := Fq × Fq
abbrev Q6 := Q2 × Q2 × Q2
def F2 : CR Q2 := F1.sq (F1.neg F1.one)
def e1 (x : Fq) : List At := [.f x]
def e2 (x : Q2) : List At := [.f x.1, .f x.2]
def e6 (x : Q6) : List At := [.f x.1.1, .f x.1.2, .f x.2.1.1, .f x.2.1.2, .f x.2.2.1, .f x.2.2.2]
def rd1 : List At → Option Fq | [.f a] => some a | _ => none
/-- elements as they come in -/
abbrev N2 := Nat × Nat
def q1 (x : Nat) : List At := [.q x]
def q2 (x : N2) : List At := [.q x.1, .q x.2]
def nat? : At → Option Nat
  | .f x => some x.1
  | .q x => some x
  | .c _ => none
def nats : List At → Option (List Nat)
  | [] => some []
  | a :: r => match nat? a, nats r with | some x, some l => some (x :: l) | _, _ => none
def rq1 (l : List At) : Option Nat := match nats l with | some [a] => some a | _ => none
def rq2 (l : List At) : Option N2 := match nats l with | some [a, b] => some (a, b) | _ => none
/-- a number's words, as an element -/
def wv (x : Nat) : Nat := val4 (fw x 0) (fw x 1) (fw x 2) (fw x 3)
def m1 (x : Nat) : Fq := fm (wv x)
def m2 (x : N2) : Q2 := (m1 x.1, m1 x.2)
/-- a reader gives back what was laid -/
def Rd {α : Type} (rd : List At → Option α) (en : α → List At) : Prop := ∀ l x, rd l = some x → flat l = flat (en x)
theorem rd1_ok : Rd rd1 e1 := fun l x h => by unfold rd1 at h; split at h <;> cases h; rfl
theorem nats_ok : ∀ {l : List At} {m : List Nat}, nats l = some m → flat l = flat (m.map .q)
  | [], m, h => by cases h; rfl
  | a :: r, m, h => by
    unfold nats at h
    split at h
    · rename_i x l' h1 h2
      cases h
      show a.cells ++ flat r = w4 x ++ flat (l'.map .q)
      rw [nats_ok h2]
      cases a <;> cases h1 <;> rfl
    · cases h
theorem rq1_ok : Rd rq1 q1 := fun l x h => by
  unfold rq1 at h
  split at h
  · rename_i hn; cases h; rw [nats_ok hn]; rfl
  · cases h
/-- entries: functions of no, one, two flat values; what must hold and what is answered hang on them -/
abbrev Ent := List CA → Option (List Prop × RV)
def g0 (r : RV) : Ent
  | [] => some ([], r)
  | _ => none
def g1 {α : Type} (rd : List At → Option α) (op : α → List Prop × RV) : Ent
  | [.v (.fl l)] => match rd l with | some x => some (op x) | none => none
  | _ => none
def g2 {α γ : Type} (rd : List At → Option α) (rd' : List At → Option γ) (op : α → γ → List Prop × RV) : Ent
  | [.v (.fl l), .v (.fl m)] => match rd l, rd' m with | some x, some y => some (op x y) | _, _ => none
  | _ => none
/-- what is said of a call -/
def Good (P : Program) (f : FuncId) (r : RV) (args : List Value) (w : World) : Prop := Calls P f args.toArray w (fun e w' => e = .returned r.den ∧ Below w.heap.size w w')
theorem g1_ok {P : Program} {f : FuncId} {α : Type} {rd : List At → Option α} {en : α → List At} (hr : Rd rd en) {op : α → List Prop × RV} (h : ∀ x, allP (op x).1 → ∀ args w, CAs w [.v (.fl (en x))] args → Good P f (op x).2 args w) :
    ∀ cs pre r, g1 rd op cs = some (pre, r) → allP pre → ∀ (args : List Value) (w : World), CAs w cs args → Good P f r args w := by
  intro cs pre r hg hp args w ha
  unfold g1 at hg
  split at hg
  · rename_i l
    split at hg
    · rename_i x hx
      have e : op x = (pre, r) := by simpa using hg
      have := h x (by rw [e]; exact hp) args w (by
        cases args with
        | nil => exact ha.elim
        | cons v vs =>
          refine ⟨?_, ha.2⟩
          show v = .agg (flat (en x)).toArray
          rw [← hr l x hx]
          exact ha.1)
      rw [e] at this
      exact this
    · cases hg
  · cases hg
theorem g2_ok {P : Program} {f : FuncId} {α γ : Type} {rd : List At → Option α} {en : α → List At} {rd' : List At → Option γ} {en' : γ → List At} (hr : Rd rd en) (hr' : Rd rd' en') {op : α → γ → List Prop × RV}
    (h : ∀ x y, allP (op x y).1 → ∀ args w, CAs w [.v (.fl (en x)), .v (.fl (en' y))] args → Good P f (op x y).2 args w) :
    ∀ cs pre r, g2 rd rd' op cs = some (pre, r) → allP pre → ∀ (args : List Value) (w : World), CAs w cs args → Good P f r args w := by
  intro cs pre r hg hp args w ha
  unfold g2 at hg
  split at hg
  · rename_i l m
    split at hg
    · rename_i x y hx hy
      have e : op x y = (pre, r) := by simpa using hg
      have := h x y (by rw [e]; exact hp) args w (by
        cases args with
        | nil => exact ha.elim
        | cons v vs =>
          cases vs with
          | nil => exact ha.2.elim
          | cons u us =>
            refine ⟨?_, ?_, ha.2.2⟩
            · show v = .agg (flat (en x)).toArray
              rw [← hr l x hx]
              exact ha.1
            · show u = .agg (flat (en' y)).toArray
              rw [← hr' m y hy]
              exact ha.2.1)
      rw [e] at this
      exact this
    · cases hg
  · cases hg
end Go.Proofs.Ytebaoemoeckgaaa.Ex
namespace Go.Proofs.Ytebaoemoeckgaaa
set_option linter.unusedVariables false

theorem beq_ne {a b : Nat} (h : a ≠ b) : Nat.beq a b = false := by cases q : Nat.beq a b with | false => rfl | true => exact absurd (Nat.eq_of_beq_eq_true q) h
def Prm (q : Nat) : Prop := 1 < q ∧ ∀ m, m ∣ q → m = 1 ∨ m = q

/-- a power modulo n, by squares -/
def pm (n : Nat) : Nat → Nat → Nat → Nat
  | 0, _, _ => 1 % n
  | f + 1, b, e => bif Nat.beq e 0 then 1 % n else bif Nat.beq (e % 2) 1 then b * pm n f (b * b % n) (e / 2) % n else pm n f (b * b % n) (e / 2)
theorem pm_eq (n : Nat) : ∀ f b e, e < 2 ^ f → pm n f b e = b ^ e % n := by
  intro f
  induction f with
  | zero => intro b e h; have : e = 0 := by omega
            subst this; simp [pm]
  | succ f ih =>
    intro b e h
    rw [Nat.pow_succ] at h
    unfold pm
    by_cases h0 : e = 0
    · subst h0; simp
    · have h0' : Nat.beq e 0 = false := beq_ne h0
      rw [h0']
      have hi := ih (b * b % n) (e / 2) (by omega)
      have hp : (b * b % n) ^ (e / 2) % n = b ^ (2 * (e / 2)) % n := by
        rw [← Nat.pow_mod, Nat.pow_mul, Nat.pow_two]
      by_cases h1 : e % 2 = 1
      · have h1' : Nat.beq (e % 2) 1 = true := by rw [h1]; rfl
        rw [h1']
        simp only [cond_true, cond_false]
        rw [hi, hp, Nat.mul_mod, Nat.mod_mod, ← Nat.mul_mod, ← Nat.pow_succ']
        congr 2; omega
      · have h1' : Nat.beq (e % 2) 1 = false := beq_ne h1
        rw [h1']
        simp only [cond_false]
        rw [hi, hp]
        congr 2; omega

/-- no divisor from 2 on, so many of them tried -/
def noDiv (n : Nat) : Nat → Bool
  | 0 => true
  | k + 1 => (Nat.beq k 0 || !(Nat.beq (n % (k + 1)) 0)) && noDiv n k
theorem noDiv_spec (n : Nat) : ∀ k, noDiv n k = true → ∀ m, 2 ≤ m → m ≤ k → ¬ m ∣ n := by
  intro k
  induction k with
  | zero => intro _ m h1 h2; omega
  | succ k ih =>
    intro h m h1 h2
    unfold noDiv at h
    rw [Bool.and_eq_true] at h
    by_cases hm : m = k + 1
    · subst hm
      have hk : Nat.beq k 0 = false := beq_ne (by omega)
      rw [hk] at h
      simp at h
      intro hd
      rw [Nat.mod_eq_zero_of_dvd hd] at h
      exact absurd h.1 (by decide)
    · exact ih h.2 m h1 (by omega)
theorem prm_small (n k : Nat) (h1 : 1 < n) (hk : n < (k + 1) * (k + 1)) (h : noDiv n k = true) : Prm n := by
  refine ⟨h1, fun m hm => ?_⟩
  have hs := noDiv_spec n k h
  obtain ⟨c, hc⟩ := hm
  have hm0 : m ≠ 0 := fun e => by subst e; omega
  have hc0 : c ≠ 0 := fun e => by subst e; omega
  by_cases h2 : m = 1
  · exact Or.inl h2
  · by_cases h3 : c = 1
    · subst h3; right; omega
    · exfalso
      by_cases h4 : m ≤ k
      · exact hs m (by omega) h4 ⟨c, hc⟩
      · by_cases h5 : c ≤ k
        · exact hs c (by omega) h5 ⟨m, by rw [hc, Nat.mul_comm]⟩
        · have := Nat.mul_le_mul (show k + 1 ≤ m by omega) (show k + 1 ≤ c by omega)
          omega

theorem prm_dvd_prod : ∀ (l : List Nat) (m : Nat), m ∣ l.foldr (· * ·) 1 → 1 < m → (∀ q, q ∈ l → Prm q) → ∃ q, q ∈ l ∧ q ∣ m := by
  intro l
  induction l with
  | nil => intro m h h1 _; simp at h; omega
  | cons q l ih =>
    intro m h h1 hq
    rw [List.foldr_cons] at h
    rcases (hq q List.mem_cons_self).2 (Nat.gcd m q) (Nat.gcd_dvd_right m q) with g | g
    · have := Nat.Coprime.dvd_of_dvd_mul_left (show Nat.Coprime m q from g) h
      obtain ⟨q', h', h''⟩ := ih m this h1 (fun q' h' => hq q' (List.mem_cons_of_mem _ h'))
      exact ⟨q', List.mem_cons_of_mem _ h', h''⟩
    · exact ⟨q, List.mem_cons_self, g ▸ Nat.gcd_dvd_left m q⟩

theorem pow_add_mod (g a b n : Nat) : g ^ (a + b) % n = (g ^ a % n) * (g ^ b % n) % n := by rw [Nat.pow_add, Nat.mul_mod]
theorem pow_mul_one {g o n : Nat} (h1 : 1 < n) (h : g ^ o % n = 1) (k : Nat) : g ^ (o * k) % n = 1 := by
  rw [Nat.pow_mul, Nat.pow_mod, h, Nat.one_pow, Nat.mod_eq_of_lt h1]

theorem least {P : Nat → Prop} : ∀ n, P n → ∃ m, P m ∧ ∀ k, k < m → ¬ P k := by
  intro n
  induction n using Nat.strongRecOn with
  | ind n ih =>
    intro h
    by_cases hk : ∃ k, k < n ∧ P k
    · obtain ⟨k, h1, h2⟩ := hk; exact ih k h1 h2
    · exact ⟨n, h, fun k h1 h2 => hk ⟨k, h1, h2⟩⟩

/-- the order: no lesser power of g is one -/
theorem order_full {n g : Nat} (l : List Nat) (h1 : 1 < n) (hl : l.foldr (· * ·) 1 = n - 1) (hp : ∀ q, q ∈ l → Prm q) (hg : g ^ (n - 1) % n = 1) (hq : ∀ q, q ∈ l → g ^ ((n - 1) / q) % n ≠ 1) :
    ∀ k, 0 < k → k < n - 1 → g ^ k % n ≠ 1 := by
  obtain ⟨o, ⟨ho0, ho⟩, hmin⟩ := least (P := fun k => 0 < k ∧ g ^ k % n = 1) (n - 1) ⟨by omega, hg⟩
  have hdiv : ∀ k, g ^ k % n = 1 → o ∣ k := by
    intro k hk
    have e : o * (k / o) + k % o = k := Nat.div_add_mod k o
    rw [← e, pow_add_mod, pow_mul_one h1 ho, Nat.one_mul, Nat.mod_mod] at hk
    have hlt := Nat.mod_lt k ho0
    by_cases hz : k % o = 0
    · exact Nat.dvd_of_mod_eq_zero hz
    · exact absurd ⟨by omega, hk⟩ (hmin (k % o) hlt)
  obtain ⟨m, hm⟩ := hdiv (n - 1) hg
  have hm1 : m = 1 := by
    by_cases h : m = 1
    · exact h
    · exfalso
      have hm0 : m ≠ 0 := fun e => by subst e; omega
      obtain ⟨q, hq1, c, hc⟩ := prm_dvd_prod l m (by rw [hl, hm]; exact Nat.dvd_mul_left _ _) (by omega) hp
      have hq0 : 0 < q := Nat.lt_of_lt_of_le (by omega) (Nat.le_of_lt (hp q hq1).1)
      refine hq q hq1 ?_
      have : (n - 1) / q = o * c := by
        rw [hm, hc, ← Nat.mul_assoc, Nat.mul_comm o q, Nat.mul_assoc, Nat.mul_div_cancel_left _ hq0]
      rw [this, pow_mul_one h1 ho]
  subst hm1
  intro k hk0 hk hk1
  have := Nat.le_of_dvd hk0 (hdiv k hk1)
  omega

/-- whom no two of n numbers below n have in common, all have -/
theorem pigeon : ∀ (n : Nat) (f : Nat → Nat), (∀ i, i < n → f i < n) → (∀ i j, i < n → j < n → f i = f j → i = j) → ∀ y, y < n → ∃ i, i < n ∧ f i = y := by
  intro n
  induction n with
  | zero => intro f _ _ y hy; omega
  | succ n ih =>
    intro f hf hi y hy
    by_cases hn : f n = n
    · by_cases hyn : y = n
      · exact ⟨n, by omega, by omega⟩
      · have hf' : ∀ i, i < n → f i < n := fun i h => by
          have := hf i (by omega)
          have hne : f i ≠ n := fun e => by have := hi i n (by omega) (by omega) (by omega); omega
          omega
        obtain ⟨i, h1, h2⟩ := ih f hf' (fun i j h h' => hi i j (by omega) (by omega)) y (by omega)
        exact ⟨i, by omega, h2⟩
    · have hfn := hf n (by omega)
      have key := ih (fun i => if f i = n then f n else f i)
        (fun i h => by
          have := hf i (by omega)
          split <;> omega)
        (fun i j h h' e => by
          split at e <;> split at e
          · exact hi i j (by omega) (by omega) (by omega)
          · have := hi n j (by omega) (by omega) e; omega
          · have := hi i n (by omega) (by omega) e; omega
          · exact hi i j (by omega) (by omega) e)
      by_cases hyn : y = n
      · obtain ⟨i, h1, h2⟩ := key (f n) (by omega)
        by_cases h3 : f i = n
        · exact ⟨i, by omega, by omega⟩
        · rw [if_neg h3] at h2
          have := hi i n (by omega) (by omega) h2
          omega
      · obtain ⟨i, h1, h2⟩ := key y (by omega)
        by_cases h3 : f i = n
        · rw [if_pos h3] at h2; exact ⟨n, by omega, h2⟩
        · rw [if_neg h3] at h2; exact ⟨i, by omega, h2⟩

/-- whatever is not 0 modulo n is a power of g -/
def Root (n g : Nat) : Prop := 1 < n ∧ g ^ (n - 1) % n = 1 ∧ (∀ k, 0 < k → k < n - 1 → g ^ k % n ≠ 1) ∧ ∀ a, 0 < a → a < n → ∃ k, k < n - 1 ∧ g ^ k % n = a
theorem root_of {n g : Nat} (l : List Nat) (h1 : 1 < n) (hl : l.foldr (· * ·) 1 = n - 1) (hp : ∀ q, q ∈ l → Prm q) (hg : g ^ (n - 1) % n = 1) (hq : ∀ q, q ∈ l → g ^ ((n - 1) / q) % n ≠ 1) : Root n g := by
  have ho := order_full l h1 hl hp hg hq
  refine ⟨h1, hg, ho, fun a ha han => ?_⟩
  have hnz : ∀ i, i ≤ n - 1 → g ^ i % n ≠ 0 := by
    intro i hi e
    have : g ^ (n - 1) % n = 0 := by
      have : n - 1 = i + (n - 1 - i) := by omega
      rw [this, pow_add_mod, e, Nat.zero_mul, Nat.zero_mod]
    omega
  have hdis : ∀ i j, i < n - 1 → j < n - 1 → i < j → g ^ i % n ≠ g ^ j % n := by
    intro i j hi hj hij e
    have e1 : g ^ (n - 1 - i + i) % n = 1 := by rw [show n - 1 - i + i = n - 1 by omega]; exact hg
    have e2 : g ^ (n - 1 - i + j) % n = 1 := by rw [pow_add_mod, ← e, ← pow_add_mod]; exact e1
    rw [show n - 1 - i + j = n - 1 + (j - i) by omega, pow_add_mod, hg, Nat.one_mul, Nat.mod_mod] at e2
    exact ho (j - i) (by omega) (by omega) e2
  obtain ⟨i, hi, he⟩ := pigeon (n - 1) (fun i => g ^ i % n - 1)
    (fun i h => by
      have := Nat.mod_lt (g ^ i) (show 0 < n by omega)
      have := hnz i (by omega)
      omega)
    (fun i j h h' e => by
      have a1 := hnz i (by omega)
      have a2 := hnz j (by omega)
      have e' : g ^ i % n = g ^ j % n := by omega
      rcases Nat.lt_trichotomy i j with q | q | q
      · exact absurd e' (hdis i j h h' q)
      · exact q
      · exact absurd e'.symm (hdis j i h' h q))
    (a - 1) (by omega)
  refine ⟨i, hi, ?_⟩
  have := hnz i (by omega)
  omega
theorem Root.prm {n g : Nat} (h : Root n g) : Prm n := by
  obtain ⟨h1, hg, _, hs⟩ := h
  refine ⟨h1, fun m hm => ?_⟩
  by_cases h2 : m = n
  · exact Or.inr h2
  · left
    have hm0 : m ≠ 0 := fun e => by subst e; have := Nat.eq_zero_of_zero_dvd hm; omega
    have hle := Nat.le_of_dvd (by omega) hm
    obtain ⟨k, hk, e⟩ := hs m (by omega) (by omega)
    have e1 : g ^ (k + (n - 1 - k)) % n = 1 := by rw [show k + (n - 1 - k) = n - 1 by omega]; exact hg
    rw [pow_add_mod, e] at e1
    have hd : m ∣ (m * (g ^ (n - 1 - k) % n)) % n := (Nat.dvd_mod_iff hm).2 (Nat.dvd_mul_right _ _)
    rw [e1] at hd
    exact Nat.dvd_one.1 hd
/-- what the kernel checks of a number, its root and the factors of the number less 1 -/
def cert (n g : Nat) (l : List Nat) : Bool :=
  Nat.blt 1 n && (Nat.beq (l.foldr (· * ·) 1) (n - 1) && (Nat.blt n (2 ^ 255) && (Nat.beq (pm n 256 g (n - 1)) 1 && l.all fun q => !(Nat.beq (pm n 256 g ((n - 1) / q)) 1))))
theorem root_cert {n g : Nat} {l : List Nat} (h : cert n g l = true) (hp : ∀ q, q ∈ l → Prm q) : Root n g := by
  unfold cert at h
  simp only [Bool.and_eq_true] at h
  obtain ⟨h1, h2, h3, h4, h5⟩ := h
  have h1 : 1 < n := by unfold Nat.blt at h1; exact Nat.le_of_ble_eq_true h1
  have h3 : n < 2 ^ 255 := by
    unfold Nat.blt at h3; exact Nat.le_of_ble_eq_true h3
  have h2 := Nat.eq_of_beq_eq_true h2
  have h4 := Nat.eq_of_beq_eq_true h4
  have hb : ∀ e, e ≤ n - 1 → e < 2 ^ 256 := fun e he => by
    rw [Nat.pow_succ]; omega
  rw [pm_eq n 256 g _ (hb _ (Nat.le_refl _))] at h4
  refine root_of l h1 h2 hp h4 fun q hq e => ?_
  have := List.all_eq_true.1 h5 q hq
  rw [pm_eq n 256 g _ (hb _ (Nat.div_le_self _ _)), e] at this
  exact absurd this (by decide)
end Go.Proofs.Ytebaoemoeckgaaa
namespace Go.Proofs.Ytebaoemoeckgaaa.Ex
set_option linter.unusedVariables false
set_option linter.unusedSimpArgs false
open Go.RowKit

theorem hmix : Try.prog.follows .mixedOrders = true := by kernel_rfl
def qN : EqT := { q := fun _ => none, n := fun _ => none }
theorem qN_ok {P : Program} : EqOk P qN := ⟨⟨(fun t n h => by cases h), (fun t n h => by cases h)⟩, rfl⟩
def ones : Nat → List At → Option (List Fq)
  | 0, _ => some []
  | n + 1, .f a :: r => match ones n r with | some l => some (a :: l) | none => none
  | _, _ => none
def gOf : Ent
  | [.v (.im (.int .u64 (.ofNat n)))] => bif Nat.blt n 18446744073709551616 then some ([], .one (.fl (e1 (fm n)))) else none
  | _ => none
/-- an inverse's number -/
theorem finv_ex : ∃ f : Fq → Fq, ∀ x, (f x).1 = 1 * (x.1 ^ (FP.M - 2) % FP.M) :=
  ⟨fun x => ⟨1 * (x.1 ^ (FP.M - 2) % FP.M), by rw [Nat.one_mul]; exact Nat.mod_lt _ fp_pos⟩, fun _ => rfl⟩
noncomputable def finv : Fq → Fq := Classical.choose finv_ex
theorem finv_val (x : Fq) : (finv x).1 = 1 * (x.1 ^ (FP.M - 2) % FP.M) := Classical.choose_spec finv_ex x
noncomputable def T_B (c : Bool) : Tab := T0.add 58 gOf
theorem ok_B (c : Bool) (hB : TabOk Try.prog (T_B c)) : TabOk Try.prog (T_B c) := hB

end Go.Proofs.Ytebaoemoeckgaaa.Ex
namespace Go.Proofs
open Go.Shelf
def Try.lays129_ren : Go.Shelf.Ren := ⟨fun | 129 => 110 | n => n, fun | 53 => 22 | 3 => 3 | 4 => 4 | 46 => 79 | 5 => 5 | 9 => 9 | n => n, fun | n => n⟩
theorem Try.lays129 : Go.Proofs.Lays.n129 Try.prog Try.lays129_ren := {
  mixed := by kernel_rfl
  f129 := Try.func110.trans (congrArg some (by kernel_rfl))
  t3 := Try.underlying3
  a3 := Try.isAgg3
  z3 := Try.sizeOf3
  v3 := Try.zeroValue3
  t4 := Try.underlying4
  a4 := Try.isAgg4
  z4 := Try.sizeOf4
  v4 := Try.zeroValue4
  t5 := Try.underlying5
  a5 := Try.isAgg5
  z5 := Try.sizeOf5
  v5 := Try.zeroValue5
  t9 := Try.underlying9
  a9 := Try.isAgg9
  z9 := Try.sizeOf9
  v9 := Try.zeroValue9
  t46 := Try.underlying79
  a46 := Try.isAgg79
  z46 := Try.sizeOf79
  v46 := Try.zeroValue79
  t53 := Try.underlying22
  a53 := Try.isAgg22
  z53 := Try.sizeOf22
  v53 := Try.zeroValue22 }
/-- bits.Len64: "Len64 returns the minimum number of bits required to represent x; the result is 0 for x == 0.": IT RETURNS 'Lib.bitLen x'; the world is as it was. ('h0', 'h1': x is a uint64.) (LAID: no walk: one application.) -/
theorem Try.bits_Len64 (x : Int) (w : World) (h0 : 0 ≤ x) (h1 : x ≤ 18446744073709551615) :
    Calls Try.prog 110 #[.int .u64 x] w fun e w' => e = .returned (.int .i64 (Lib.bitLen x.toNat)) ∧ w' = w := Any.bits_Len64 Try.lays129 x w h0 h1
def Try.lays264_ren : Go.Shelf.Ren := ⟨fun | 264 => 111 | n => n, fun | 53 => 22 | 46 => 79 | n => n, fun | n => n⟩
theorem Try.lays264 : Go.Proofs.Lays.n264 Try.prog Try.lays264_ren := {
  mixed := by kernel_rfl
  f264 := Try.func111.trans (congrArg some (by kernel_rfl))
  t46 := Try.underlying79
  a46 := Try.isAgg79
  z46 := Try.sizeOf79
  v46 := Try.zeroValue79
  t53 := Try.underlying22
  a53 := Try.isAgg22
  z53 := Try.sizeOf22
  v53 := Try.zeroValue22 }
open Go.RowKit Go.Lib in
theorem Try.bits_Mul64 (x y : Nat) (hx : x < 18446744073709551616) (hy : y < 18446744073709551616) (w : World) :
    Calls Try.prog 111 #[.int .u64 x, .int .u64 y] w fun e w' => e = .returned (.tuple #[.int .u64 ((x * y / 18446744073709551616 : Nat) : Int), .int .u64 ((x * y % 18446744073709551616 : Nat) : Int)]) ∧ w' = w := Any.bits_Mul64 Try.lays264 x y hx hy w
end Go.Proofs
namespace Go.Proofs.Ytebaoemoeckgaaa
set_option linter.unusedVariables false
open Go.RowKit

theorem mul64_calls (x y : Nat) (hx : x < 18446744073709551616) (hy : y < 18446744073709551616) (w : World) :
    Calls Try.prog 111 #[.int .u64 x, .int .u64 y] w fun e w' => e = .returned (.tuple #[.int .u64 (mulH x y : Nat), .int .u64 (mulL x y : Nat)]) ∧ w' = w :=
  Try.bits_Mul64 x y hx hy w
theorem ex_Mul64 {x y : Nat} (hx : x < 18446744073709551616) (hy : y < 18446744073709551616) : ∃ h l : Nat, (∀ w, Calls Try.prog 111 #[.int .u64 x, .int .u64 y] w fun e w' => e = .returned (.tuple #[.int .u64 (h : Nat), .int .u64 (l : Nat)]) ∧ w' = w) ∧ h ≤ 18446744073709551614 ∧ l < 18446744073709551616 ∧ Hid (l + 18446744073709551616 * h = x * y) :=
  ⟨_, _, mul64_calls x y hx hy, mulH_le hx hy, mulL_lt _ _, mulHL x y⟩

end Go.Proofs.Ytebaoemoeckgaaa
namespace Go.Proofs.Ytebaoemoeckgaaa
set_option linter.unusedVariables false
open Go.RowKit

theorem lenLog {y : Nat} (h0 : 1 ≤ y) (hy : y < 18446744073709551616) : Lib.bitLen y = y.log2 + 1 ∧ 2 ^ y.log2 ≤ y ∧ y < 2 ^ (y.log2 + 1) ∧ y.log2 ≤ 63 := by
  have a := Nat.log2_self_le (show y ≠ 0 by omega)
  have b : y < 2 ^ (y.log2 + 1) := Nat.lt_log2_self
  refine ⟨?_, a, b, ?_⟩
  · rw [Lib.bitLen_shift y.log2 y a hy]
    have : y / 2 ^ y.log2 = 1 := by
      rw [Nat.pow_succ] at b
      exact (Nat.div_eq_iff (Nat.two_pow_pos _)).2 ⟨by omega, by omega⟩
    rw [this]; rfl
  · have := (Nat.log2_lt (show y ≠ 0 by omega)).2 (show y < 2 ^ 64 from hy)
    omega
end Go.Proofs.Ytebaoemoeckgaaa
namespace Go.Proofs.Ytebaoemoeckgaaa
set_option linter.unusedVariables false
open Go.RowKit

/-- the world in a product's rounds: a's, b's and the result's blocks, and the product's -/
structure MW (w wr : World) (A B P : Nat → Nat) : Prop where
  below : Below w.heap.size w wr
  size : wr.heap.size = w.heap.size + 1 + 1 + 1 + 1 + 1
  rowA : RowIs wr w.heap.size 4 A
  rowB : RowIs wr (w.heap.size + 1) 4 B
  rowH : ∃ H, RowIs wr (w.heap.size + 1 + 1) 4 H
  rowL : ∃ L, RowIs wr (w.heap.size + 1 + 1 + 1) 4 L
  rowP : RowIs wr (w.heap.size + 1 + 1 + 1 + 1) 8 P
  lt : ∀ k, P k < 18446744073709551616
theorem MW.set {w wr : World} {A B P : Nat → Nat} (h : MW w wr A B P) {k d : Nat} (hk : k < 8) (hd : d < 18446744073709551616) :
    MW w (wr.setCell ⟨w.heap.size + 1 + 1 + 1 + 1, k, none⟩ (.int .u64 (d : Nat))) A B (upd P k d) :=
  ⟨h.below.setCell (p := ⟨w.heap.size + 1 + 1 + 1 + 1, k, none⟩) (by simp; omega) _, by rw [World.size_setCell]; exact h.size, h.rowA.other (by omega) _, h.rowB.other (by omega) _,
    h.rowH.elim fun H x => ⟨H, x.other (by omega) _⟩, h.rowL.elim fun L x => ⟨L, x.other (by omega) _⟩, h.rowP.set hk,
    fun x => by unfold upd; split; exact hd; exact h.lt x⟩
theorem MW.drewN {w wr : World} {A B P : Nat → Nat} (h : MW w wr A B P) (n : Nat) : MW w (wr.drewN n) A B P :=
  ⟨h.below.trans (below_drewN' _ _ _), h.size, h.rowA, h.rowB, h.rowH, h.rowL, h.rowP, h.lt⟩
theorem RowIs.mk4 {w : World} {b : Nat} {c0 c1 c2 c3 : Nat} (h0 : w.cell? ⟨b, 0, none⟩ = some (.int .u64 c0)) (h1 : w.cell? ⟨b, 1, none⟩ = some (.int .u64 c1)) (h2 : w.cell? ⟨b, 2, none⟩ = some (.int .u64 c2)) (h3 : w.cell? ⟨b, 3, none⟩ = some (.int .u64 c3))
    (hf : ∀ k, w.frozen? ⟨b, k, none⟩ = false) : RowIs w b 4 (fnOf [c0, c1, c2, c3]) := by
  intro k hk
  refine ⟨?_, hf k⟩
  match k, hk with
  | 0, _ => exact h0
  | 1, _ => exact h1
  | 2, _ => exact h2
  | 3, _ => exact h3
theorem fnOf4_lt {a0 a1 a2 a3 : Nat} (ha : ok4 a0 a1 a2 a3) (k : Nat) : fnOf [a0, a1, a2, a3] k < 18446744073709551616 := by
  obtain ⟨h0, h1, h2, h3⟩ := ha
  unfold fnOf
  match k with
  | 0 => exact h0
  | 1 => exact h1
  | 2 => exact h2
  | 3 => exact h3
  | k + 4 => simp

end Go.Proofs.Ytebaoemoeckgaaa
namespace Go.Proofs.Ytebaoemoeckgaaa
set_option linter.unusedVariables false
open Go.RowKit

def WordPost (P : Nat → Prop) (w : World) (e : Ending) (w' : World) : Prop :=
  ∃ s0 s1 s2 s3 : Nat, e = .returned (.agg #[.int .u64 s0, .int .u64 s1, .int .u64 s2, .int .u64 s3]) ∧ ok4 s0 s1 s2 s3 ∧ P (val4 s0 s1 s2 s3) ∧ Below w.heap.size w w'

end Go.Proofs.Ytebaoemoeckgaaa
