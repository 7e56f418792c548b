/-
  Flat values of words held against each other, of whatever type of arrays and structs of words. Of whatever program. Conditions: none.
  The reckoner: what lies in memory from before; answers that are slices of a call's own. Of whatever program. Conditions: the tables of calls are right.
  Polynomials over a commutative ring, by their coefficients, and their degrees. Conditions: none.
-/
import Derived.Laws.StructEq
import Derived.KernelRfl
import Derived.Test.YthlcjdcjnioeoaaGreatCk04
import Derived.Test.YthlcjdcjnioeoaaGreatCk18
import Derived.Test.YthlcjdcjnioeoaaGreatCk05
namespace Go.Proofs.YthlcjdcjnioeoaaGreat.Ex
set_option linter.unusedVariables false
set_option linter.unusedSimpArgs false
open Go.RowKit

def aggT (P : Program) (t : Nat) : Bool := match P.underlying t with
  | some (.struct _) => true
  | some (.array _ _) => true
  | _ => false
def pvl : Bool → List Value → Value
  | true, xs => .agg xs.toArray
  | false, x :: _ => x
  | false, [] => undef
def is1 (P : Program) (t k : Nat) : Bool := match sizeT P t with | some m => Nat.beq m k | none => false
def cmpFs (P : Program) (g : Nat → Option Nat) : Nat → List Field → Option Nat
  | o, [] => some o
  | o, f :: r => match g f.type with
    | some k => bif (f.name != "_") && (Nat.beq f.offset o && is1 P f.type k) then cmpFs P g (o + k) r else none
    | none => none
/-- what a cell is: a word (false), a bool (true) -/
def kOf : Value → Option Bool
  | .int .u64 _ => some false
  | .bool _ => some true
  | _ => none
def kEq : List (Option Bool) → Option Bool → Bool
  | [some a], some b => a == b
  | _, _ => false
/-- so many words, if the type is one of words, bools, arrays, structs -/
def cmpN (P : Program) : Nat → Nat → Option Nat
  | 0, _ => none
  | d + 1, t => match P.underlying t with
    | some (.int .u64) => bif is1 P t 1 then some 1 else none
    | some .bool => bif is1 P t 1 then some 1 else none
    | some (.array n e) => match cmpN P d e with
      | some k => bif is1 P e k && is1 P t (n * k) then some (n * k) else none
      | none => none
    | some (.struct fs) => match cmpFs P (cmpN P d) 0 fs.toList with
      | some m => bif is1 P t m && !(P.stoodInHeld t) then some m else none
      | none => none
    | _ => none
def allN (f : Nat → Bool) : Nat → Bool
  | 0 => true
  | n + 1 => f n && allN f n
theorem allN_spec {f : Nat → Bool} : ∀ {n : Nat}, allN f n = true → ∀ i, i < n → f i = true
  | 0, _, i, hi => by omega
  | n + 1, h, i, hi => by
    unfold allN at h
    rw [Bool.and_eq_true] at h
    by_cases e : i = n
    · rw [e]; exact h.1
    · exact allN_spec h.2 i (by omega)
def fitFs (P : Program) (g : Nat → Option Nat) (h : Nat → List (Option Bool) → Bool) (ks : List (Option Bool)) : Nat → List Field → Bool
  | _, [] => true
  | o, f :: r => match g f.type with
    | some k => h f.type ((ks.drop o).take k) && fitFs P g h ks (o + k) r
    | none => false
/-- do cells of these kinds fit the type? -/
def fitK (P : Program) : Nat → Nat → List (Option Bool) → Bool
  | 0, _, _ => false
  | d + 1, t, ks => match P.underlying t with
    | some (.int .u64) => kEq ks (some false)
    | some .bool => kEq ks (some true)
    | some (.array n e) => match cmpN P d e with
      | some k => allN (fun i => fitK P d e ((ks.drop (i * k)).take k)) n
      | none => false
    | some (.struct fs) => fitFs P (cmpN P d) (fitK P d) ks 0 fs.toList
    | _ => false
def kA : At → List (Option Bool)
  | .c v => [kOf v]
  | _ => [some false, some false, some false, some false]
def kAs : List At → List (Option Bool)
  | [] => []
  | a :: r => kA a ++ kAs r
theorem kAs_spec : ∀ l : List At, (flat l).map kOf = kAs l
  | [] => rfl
  | a :: r => by
    show (a.cells ++ flat r).map kOf = kA a ++ kAs r
    rw [List.map_append, kAs_spec r]
    cases a <;> rfl
theorem is1_spec {P : Program} {t k : Nat} (h : is1 P t k = true) : sizeT P t = some k := by
  unfold is1 at h
  split at h
  · rename_i m hm; rw [hm, Nat.eq_of_beq_eq_true h]
  · cases h
theorem part_any {P : Program} {t n : Nat} (hs : sizeT P t = some n) (ht : (P.underlying t).isSome = true) (hn : aggT P t = false → n = 1) (cs : List Value) (off : Nat) (hl : off + n ≤ cs.length) (w : World) :
    (part t cs.toArray off).run P w = .ok (pvl (aggT P t) ((cs.drop off).take n)) w := by
  obtain ⟨ds, hu⟩ := Option.isSome_iff_exists.1 ht
  have hagg : (isAgg t).run P w = .ok (aggT P t) w := by
    unfold isAgg aggT
    rw [Sem.run_bind, run_underlying hu w, hu]
    cases ds <;> simp_all
  cases ha : aggT P t
  · have h1 := hn ha
    subst h1
    rw [ha] at hagg
    have hc : cs.toArray[off]? = some cs[off] := by simp
    have hd : (cs.drop off).take 1 = [cs[off]] := by
      rw [List.drop_eq_getElem_cons (by omega)]
      rfl
    unfold part
    rw [Sem.run_bind, hagg]
    simp only [Result.andThen_ok, Bool.false_eq_true, if_false]
    rw [hc, hd]
    rfl
  · rw [ha] at hagg
    simp [part, hagg, run_sizeOf hs, List.extract_eq_take_drop, pvl]
def eqElems (d e n : Nat) (xs ys : Array Value) : Nat → Nat → Sem Bool
  | _, 0 => pure true
  | i, c + 1 => do
    let a ← part e xs (i * n)
    let b ← part e ys (i * n)
    let r ← Op.equalIn d e a b
    if (!r) = true then pure false else eqElems d e n xs ys (i + 1) c
theorem run_equalIn_array {P : Program} (w : World) (d t len e n : Nat) (xs ys : Array Value) (ht : P.underlying t = some (.array len e)) (hs : sizeT P e = some n) :
    (Op.equalIn (d + 1) t (.agg xs) (.agg ys)).run P w = (eqElems d e n xs ys 0 len).run P w := by
  simp only [Op.equalIn, Sem.run_bind, run_underlying ht, Result.andThen_ok, run_sizeOf hs]
  rw [Std.Legacy.Range.forIn_eq_forIn_range']
  simp only [Std.Legacy.Range.size, Nat.sub_zero, Nat.add_sub_cancel, Nat.div_one]
  clear ht
  generalize (0 : Nat) = i
  induction len generalizing i w with
  | zero => simp [eqElems]
  | succ len ih =>
    simp only [List.range'_succ, List.forIn_cons, eqElems, Sem.run_bind, Sem.run_ite]
    generalize (part e xs (i * n)).run P w = r1
    cases r1 with
    | ok a w1 =>
      simp only [Result.andThen_ok]
      generalize (part e ys (i * n)).run P w1 = r2
      cases r2 with
      | ok b w2 =>
        simp only [Result.andThen_ok]
        generalize (Op.equalIn d e a b).run P w2 = r3
        cases r3 with
        | ok r w3 =>
          cases r
          · simp only [Result.andThen_ok, Bool.not_false, if_true, Sem.run_pure]
          · simp only [Result.andThen_ok, Bool.not_true, Bool.false_eq_true, if_false, Sem.run_pure]
            exact ih w3 (i + 1)
        | halt x w3 => simp [Result.andThen]
      | halt x w2 => simp [Result.andThen]
    | halt x w1 => simp [Result.andThen]
theorem cmpN_pos : ∀ {P : Program} {d t n : Nat}, cmpN P d t = some n → sizeT P t = some n ∧ (P.underlying t).isSome = true ∧ (aggT P t = false → n = 1)
  | P, 0, t, n, h => by cases h
  | P, d + 1, t, n, h => by
    unfold cmpN at h
    unfold aggT
    split at h
    · rename_i hu
      cases hb : is1 P t 1 <;> rw [hb] at h
      · cases h
      · cases h
        exact ⟨is1_spec hb, by rw [hu]; rfl, fun _ => rfl⟩
    · rename_i hu
      cases hb : is1 P t 1 <;> rw [hb] at h
      · cases h
      · cases h
        exact ⟨is1_spec hb, by rw [hu]; rfl, fun _ => rfl⟩
    · rename_i len e hu
      split at h
      · rename_i k hk
        cases hb : (is1 P e k && is1 P t (len * k)) <;> rw [hb] at h
        · cases h
        · cases h
          rw [Bool.and_eq_true] at hb
          exact ⟨is1_spec hb.2, by rw [hu]; rfl, fun h => by rw [hu] at h; cases h⟩
      · cases h
    · rename_i fs hu
      split at h
      · rename_i m hm
        cases hb : (is1 P t m && !(P.stoodInHeld t)) <;> rw [hb] at h
        · cases h
        · cases h
          rw [Bool.and_eq_true] at hb
          exact ⟨is1_spec hb.1, by rw [hu]; rfl, fun h => by rw [hu] at h; cases h⟩
      · cases h
    · cases h
theorem take_drop_eq {α : Type} {xs ys : List α} {o k : Nat} : (xs.drop o = ys.drop o) ↔ ((xs.drop o).take k = (ys.drop o).take k ∧ xs.drop (o + k) = ys.drop (o + k)) := by
  constructor
  · intro h
    refine ⟨by rw [h], ?_⟩
    rw [← List.drop_drop, ← List.drop_drop, h]
  · rintro ⟨h1, h2⟩
    rw [← List.take_append_drop k (xs.drop o), ← List.take_append_drop k (ys.drop o), h1, List.drop_drop, List.drop_drop, h2]
theorem kinds_sub (xs : List Value) (o k : Nat) : ((xs.drop o).take k).map kOf = ((xs.map kOf).drop o).take k := by rw [List.map_take, List.map_drop]
theorem kEq_word {x : Value} (h : kEq [kOf x] (some false) = true) : ∃ n : Int, x = .int .u64 n := by
  cases x with
  | int k n => cases k <;> first | exact ⟨n, rfl⟩ | cases h
  | bool b => cases h
  | _ => cases h
theorem kEq_bool {x : Value} (h : kEq [kOf x] (some true) = true) : ∃ b : Bool, x = .bool b := by
  cases x with
  | int k n => cases k <;> cases h
  | bool b => exact ⟨b, rfl⟩
  | _ => cases h
open Classical in
/-- equal just if the words are -/
theorem cmp_run {P : Program} : ∀ {d t n : Nat}, cmpN P d t = some n → ∀ (D : Nat), d ≤ D → ∀ (xs ys : List Value) (w : World), xs.length = n → ys.length = n → fitK P d t (xs.map kOf) = true → fitK P d t (ys.map kOf) = true →
    (Op.equalIn D t (pvl (aggT P t) xs) (pvl (aggT P t) ys)).run P w = .ok (decide (xs = ys)) w
  | 0, t, n, h => by cases h
  | d + 1, t, n, h => by
    intro D hD xs ys w hx hy wx wy
    match D, hD with
    | D + 1, hD =>
    have hd : d ≤ D := by omega
    unfold cmpN at h
    unfold fitK at wx wy
    split at h
    · rename_i hu
      rw [hu] at wx wy
      cases hb : is1 P t 1 <;> rw [hb] at h
      · cases h
      · cases h
        have ha : aggT P t = false := by unfold aggT; rw [hu]
        rw [ha]
        match xs, ys, hx, hy with
        | [x], [y], _, _ =>
          obtain ⟨a, rfl⟩ := kEq_word wx
          obtain ⟨b, rfl⟩ := kEq_word wy
          refine (run_equalIn_int w D t .u64 .u64 a b hu).trans ?_
          congr 1
          by_cases e : a = b <;> simp [e]
    · rename_i hu
      rw [hu] at wx wy
      cases hb : is1 P t 1 <;> rw [hb] at h
      · cases h
      · cases h
        have ha : aggT P t = false := by unfold aggT; rw [hu]
        rw [ha]
        match xs, ys, hx, hy with
        | [x], [y], _, _ =>
          obtain ⟨a, rfl⟩ := kEq_bool wx
          obtain ⟨b, rfl⟩ := kEq_bool wy
          refine (run_equalIn_bool w D t a b hu).trans ?_
          congr 1
          by_cases e : a = b <;> simp [e]
    · rename_i len e hu
      split at h
      · rename_i k hk
        cases hb : (is1 P e k && is1 P t (len * k)) <;> rw [hb] at h
        · cases h
        · cases h
          rw [Bool.and_eq_true] at hb
          have ha : aggT P t = true := by unfold aggT; rw [hu]
          rw [ha]
          refine (run_equalIn_array w D t len e k _ _ hu (is1_spec hb.1)).trans ?_
          obtain ⟨p1, p2, p3⟩ := cmpN_pos hk
          rw [hu] at wx wy
          simp only [hk] at wx wy
          have key : ∀ (c i : Nat) (w : World), i + c = len → (eqElems D e k xs.toArray ys.toArray i c).run P w = .ok (decide (xs.drop (i * k) = ys.drop (i * k))) w := by
            intro c
            induction c with
            | zero =>
              intro i w hi
              have hi' : i = len := by omega
              subst hi'
              have h1 : xs.length ≤ i * k := by omega
              have h2 : ys.length ≤ i * k := by omega
              simp [eqElems, List.drop_of_length_le h1, List.drop_of_length_le h2]
            | succ c ih =>
              intro i w hi
              have hle : i * k + k ≤ len * k := by
                have := Nat.mul_le_mul_right k (show i + 1 ≤ len by omega)
                rw [Nat.add_mul, Nat.one_mul] at this
                exact this
              unfold eqElems
              simp only [Sem.run_bind, part_any p1 p2 p3 xs (i * k) (by omega), part_any p1 p2 p3 ys (i * k) (by omega), Result.andThen_ok]
              rw [cmp_run hk D hd ((xs.drop (i * k)).take k) ((ys.drop (i * k)).take k) w (by simp; omega) (by simp; omega) (by rw [kinds_sub]; exact allN_spec wx i (by omega)) (by rw [kinds_sub]; exact allN_spec wy i (by omega))]
              simp only [Result.andThen_ok]
              have hs := take_drop_eq (xs := xs) (ys := ys) (o := i * k) (k := k)
              rw [show i * k + k = (i + 1) * k by rw [Nat.add_mul, Nat.one_mul]] at hs
              by_cases q : (xs.drop (i * k)).take k = (ys.drop (i * k)).take k
              · rw [decide_eq_true q]
                simp only [Bool.not_true, Bool.false_eq_true, if_false]
                rw [ih (i + 1) w (by omega)]
                congr 1
                rw [decide_eq_decide]
                exact ⟨fun h => hs.2 ⟨q, h⟩, fun h => (hs.1 h).2⟩
              · rw [decide_eq_false q, decide_eq_false (fun h => q (hs.1 h).1)]
                simp
          have := key len 0 w (by omega)
          rw [Nat.zero_mul, List.drop_zero, List.drop_zero] at this
          exact this
      · cases h
    · rename_i fs hu
      split at h
      · rename_i m hm
        cases hb : (is1 P t m && !(P.stoodInHeld t)) <;> rw [hb] at h
        · cases h
        · cases h
          rw [Bool.and_eq_true, Bool.not_eq_true'] at hb
          have ha : aggT P t = true := by unfold aggT; rw [hu]
          rw [ha]
          have hf : P.fieldsOf t = fs := by simp [Program.fieldsOf, hu]
          refine (run_equalIn_struct w D t xs.toArray ys.toArray (by rw [hf]; exact hu) hb.2).trans ?_
          rw [hf]
          rw [hu] at wx wy
          have key : ∀ (l : List Field) (o m : Nat) (w : World), fitFs P (cmpN P d) (fitK P d) (xs.map kOf) o l = true → fitFs P (cmpN P d) (fitK P d) (ys.map kOf) o l = true → cmpFs P (cmpN P d) o l = some m → m ≤ xs.length → xs.length = ys.length → o ≤ m ∧ (Op.eqFields D xs.toArray ys.toArray l).run P w = .ok (decide ((xs.drop o).take (m - o) = (ys.drop o).take (m - o))) w := by
            intro l
            induction l with
            | nil =>
              intro o m w _ _ h1 h2 h3
              cases h1
              simp [Op.eqFields]
            | cons f r ih =>
              intro o m w vx vy h1 h2 h3
              unfold cmpFs at h1
              unfold fitFs at vx vy
              split at h1
              · rename_i k hk
                simp only [hk] at vx vy
                rw [Bool.and_eq_true] at vx vy
                cases hc : ((f.name != "_") && (Nat.beq f.offset o && is1 P f.type k)) <;> rw [hc] at h1
                · cases h1
                · simp only [cond_true] at h1
                  rw [Bool.and_eq_true, Bool.and_eq_true] at hc
                  obtain ⟨c1, c2, c3⟩ := hc
                  have ho := Nat.eq_of_beq_eq_true c2
                  obtain ⟨g1, g2⟩ := ih (o + k) m w vx.2 vy.2 h1 h2 h3
                  refine ⟨by omega, ?_⟩
                  obtain ⟨p1, p2, p3⟩ := cmpN_pos hk
                  unfold Op.eqFields
                  rw [if_pos (by simpa using c1), ho]
                  simp only [Sem.run_bind, part_any p1 p2 p3 xs o (by omega), part_any p1 p2 p3 ys o (by omega), Result.andThen_ok]
                  rw [cmp_run hk D hd ((xs.drop o).take k) ((ys.drop o).take k) w (by simp; omega) (by simp; omega) (by rw [kinds_sub]; exact vx.1) (by rw [kinds_sub]; exact vy.1)]
                  simp only [Result.andThen_ok]
                  have hs : ((xs.drop o).take (m - o) = (ys.drop o).take (m - o)) ↔ ((xs.drop o).take k = (ys.drop o).take k ∧ (xs.drop (o + k)).take (m - (o + k)) = (ys.drop (o + k)).take (m - (o + k))) := by
                    have e : m - o = k + (m - (o + k)) := by omega
                    rw [e, List.take_add, List.take_add, List.drop_drop, List.drop_drop]
                    constructor
                    · intro h
                      exact List.append_inj h (by simp; omega)
                    · rintro ⟨a, b⟩
                      rw [a, b]
                  by_cases q : (xs.drop o).take k = (ys.drop o).take k
                  · rw [decide_eq_true q]
                    simp only [Bool.not_true, Bool.false_eq_true, if_false]
                    rw [g2]
                    congr 1
                    rw [decide_eq_decide]
                    exact ⟨fun h => hs.2 ⟨q, h⟩, fun h => (hs.1 h).2⟩
                  · rw [decide_eq_false q, decide_eq_false (fun h => q (hs.1 h).1)]
                    simp
              · cases h1
          have := (key fs.toList 0 _ w wx wy hm (by omega) (by omega)).2
          rw [Nat.sub_zero, List.drop_zero, List.drop_zero, List.take_of_length_le (by omega), List.take_of_length_le (by omega)] at this
          exact this
      · cases h
    · cases h
def gq (P : Program) (t : Nat) : Option Nat := match cmpN P 9 t with
  | some n => bif aggT P t && !(P.eqGuardType P.depth t) then some n else none
  | none => none
/-- all types of words may be held against each other -/
def qG (P : Program) : EqT := { q := gq P, n := gq P, fit := fun t l => fitK P 9 t (kAs l) }
open Classical in
theorem qG_ok (P : Program) : EqOk P (qG P) := by
  have h0 : ∀ t n, gq P t = some n → P.eqGuardType P.depth t = false ∧ ∀ (l m : List At) (w : World), fsz l = n → fsz m = n → fitK P 9 t (kAs l) = true → fitK P 9 t (kAs m) = true → (Op.equalIn 10000 t (.agg (flat l).toArray) (.agg (flat m).toArray)).run P w = .ok (decide (flat l = flat m)) w := by
    intro t n h
    unfold gq at h
    split at h
    · rename_i k hk
      cases hb : (aggT P t && !(P.eqGuardType P.depth t)) <;> rw [hb] at h
      · cases h
      · cases h
        rw [Bool.and_eq_true, Bool.not_eq_true'] at hb
        refine ⟨hb.2, fun l m w h1 h2 h3 h4 => ?_⟩
        have := cmp_run hk 10000 (by omega) (flat l) (flat m) w (by rw [flat_len, h1]) (by rw [flat_len, h2]) (by rw [kAs_spec]; exact h3) (by rw [kAs_spec]; exact h4)
        rw [hb.1] at this
        exact this
    · cases h
  refine ⟨⟨fun t n h => ?_, fun t n h => ?_⟩, rfl⟩
  · obtain ⟨h1, h2⟩ := h0 t n h
    exact ⟨h1, fun l w hl hn => by rw [h2 l l w hl hl hn hn, decide_eq_true rfl]⟩
  · obtain ⟨h1, h2⟩ := h0 t n h
    exact ⟨h1, fun l m w hl hm hn hn' hne => by rw [h2 l m w hl hm hn hn', decide_eq_false hne]⟩
end Go.Proofs.YthlcjdcjnioeoaaGreat.Ex
namespace Go.Proofs.YthlcjdcjnioeoaaGreat.Ex
set_option linter.unusedVariables false
set_option linter.unusedSimpArgs false
open Go.RowKit

/-- what lay in memory at the start -/
def oldOf (w : World) (b o : Nat) (l : List At) : Prop := b < w.heap.size ∧ w.rangeAt b o (flat l)
theorem below_range {base : Nat} {w w' : World} (h : Below base w w') {b o : Nat} {l : List Value} (hb : b < base) (hr : w.rangeAt b o l) : w'.rangeAt b o l := fun j v hj => by
  rw [h.cell hb]
  exact hr j v hj
abbrev Tab2 := Nat → List CA → Option (List Prop × FR)
def Fr0 : Tab2 := fun _ _ => none
def FrOk (P : Program) (T : Tab2) : Prop := ∀ f cs pre r, T f cs = some (pre, r) → allP pre →
  (∀ args w, (callFunc f args).run P w = .ok (.enter f args) w) ∧ ∀ (args : List Value) (w : World), CAs w cs args → Calls P f args.toArray w (fun e w' => r.ok w e w')
theorem Fr0_ok (P : Program) : FrOk P Fr0 := fun _ _ _ _ h => by cases h
def Tab2.add (T : Tab2) (f : Nat) (g : List CA → Option (List Prop × FR)) : Tab2 := fun f' cs => bif Nat.beq f' f then g cs else T f' cs
theorem FrOk.add {P : Program} {T : Tab2} (hT : FrOk P T) {f : Nat} {fn : Func} (hf : P.funcs[f]? = some fn) (hn : (fn.name == "runtime.NumGoroutine") = false) (hb : fn.body.isNone = false) {g : List CA → Option (List Prop × FR)}
    (h : ∀ cs pre r, g cs = some (pre, r) → allP pre → ∀ (args : List Value) (w : World), CAs w cs args → Calls P f args.toArray w (fun e w' => r.ok w e w')) : FrOk P (T.add f g) := by
  intro f' cs pre r hg hp
  unfold Tab2.add at hg
  cases hb' : Nat.beq f' f <;> rw [hb'] at hg
  · exact hT f' cs pre r hg hp
  · cases Nat.eq_of_beq_eq_true hb'
    exact ⟨callable hf hn hb, h cs pre r hg hp⟩
theorem ext_ok {P : Program} {x : Ext} {w : World} (h2 : FrOk P x.T2) (ho : ∀ b o l, x.old b o l → oldOf w b o l) : ExtOk P x w.heap.size w := fun w' hb =>
  ⟨fun b o l h => below_range hb (ho b o l h).1 (ho b o l h).2, fun f cs pre r hg hp => ⟨(h2 f cs pre r hg hp).1, fun args ha => (h2 f cs pre r hg hp).2 args w' ha⟩⟩
/-- all may be found equal or unlike, and x is told -/
def qX (P : Program) (x : Ext) : EqT := { qG P with x := x }
theorem qX_ok {P : Program} {x : Ext} {w : World} (h2 : FrOk P x.T2) (ho : ∀ b o l, x.old b o l → oldOf w b o l) : EqOkW P (qX P x) w.heap.size w := ⟨(qG_ok P).1, ext_ok h2 ho⟩
/-- a function's results, a slice of its own first -/
def resF2 (P : Program) (A : List Fact) : List ResultVar → Option FR
  | .tmp s :: rest => (match look A s with
    | some (.sl k 0 n m) => (match rowOf A k, resTs P A rest with
      | some (true, l), some post => some ⟨l, n, m, post⟩
      | _, _ => none)
    | _ => none)
  | _ => none
theorem fn_leaveF {P : Program} {fn : Func} {A : List Fact} {r : FR} {w : World} (h : resF2 P A fn.results.toList = some r) {a : Act} {w' : World} (hA : Holds fn.ntmps w.heap.size w A a w') : bodyPost P fn (fun e w' => r.ok w e w') .ret a w' := by
  obtain ⟨β, hok, _⟩ := hA.facts
  unfold resF2 at h
  split at h
  · rename_i s rest hx
    split at h
    · rename_i k n m hl
      split at h
      · rename_i l post hr hp
        cases h
        obtain ⟨g1, g2, g3, _⟩ := hok _ (rowOf_mem hr)
        obtain ⟨g4, g5, g6⟩ := g3 rfl
        have hs := hok _ (look_mem hl)
        simp only [Fact.ok, AV.den] at hs
        rw [g5] at hs g2
        have hv : a.tmps.getD s undef = .slice (some ⟨(β k).1, 0, none⟩) n m := by simp [hs]
        have h1 : (resF a.tmps (.tmp s)).run P w' = .ok (.slice (some ⟨(β k).1, 0, none⟩) n m) w' := by
          show (pure (a.tmps.getD s undef) : Sem Value).run P w' = _
          rw [hv]; rfl
        have h2 := resTs_spec hok hp
        have hres : (results fn a.tmps).run P w' = .ok ((⟨l, n, m, post⟩ : FR).val (β k).1) w' := by
          show ((fn.results.mapM (resF a.tmps)) >>= fun vs => pure (if h : vs.size = 1 then vs[0] else .tuple vs) : Sem Value).run P w' = _
          have hm : (List.toArray <$> fn.results.toList.mapM (resF a.tmps)).run P w' = .ok (.slice (some ⟨(β k).1, 0, none⟩) n m :: post.map TV.den).toArray w' := by
            rw [hx]
            simp [List.mapM_cons, h1, h2]
          rw [Array.mapM_eq_mapM_toList, Sem.run_bind, hm, Result.andThen_ok, Sem.run_pure]
          refine congrArg (fun x => Result.ok x w') ?_
          unfold FR.val
          cases post with
          | nil => rfl
          | cons t ts => rw [dif_neg (by simp)]; rfl
        exact ⟨hA.defers, _, hres, (β k).1, rfl, hA.below, g4, g1, g2, g6⟩
      · cases h
    · cases h
  · cases h
/-- a block of the call's own has a number -/
theorem Holds.at {nt base : Nat} {w0 : World} {A : List Fact} {a : Act} {w : World} (h : Holds nt base w0 A a w) {k : Nat} {l : List At} (hk : Fact.row k true l ∈ A) : ∃ b, Holds nt base w0 (.at k b :: A) a w := by
  obtain ⟨β, h1, h2⟩ := h.facts
  obtain ⟨_, _, g3, _⟩ := h1 _ hk
  refine ⟨(β k).1, h.defers, h.size, h.below, h.heap, β, fun φ hφ => ?_, fun k1 k2 l1 l2 e1 e2 => ?_⟩
  · rcases List.mem_cons.1 hφ with rfl | hφ
    · show β k = ((β k).1, 0)
      rw [← (g3 rfl).2.1]
    · exact h1 φ hφ
  · rcases List.mem_cons.1 e1 with e1 | e1
    · cases e1
    · rcases List.mem_cons.1 e2 with e2 | e2
      · cases e2
      · exact h2 k1 k2 l1 l2 e1 e2
end Go.Proofs.YthlcjdcjnioeoaaGreat.Ex
namespace Go.Proofs.YthlcjdcjnioeoaaGreat.Ex
set_option linter.unusedVariables false
set_option linter.unusedSimpArgs false

/-- a field: what is not 0 has an inverse, by a function -/
structure FD {R : Type} (K : CR R) (inv : R → R) : Prop where
  ne : K.one ≠ K.zero
  inv : ∀ x, x ≠ K.zero → K.mul x (inv x) = K.one
section
variable {R : Type} {K : CR R} {inv : R → R}
theorem FD.zd (h : FD K inv) {a b : R} (e : K.mul a b = K.zero) (ha : a ≠ K.zero) : b = K.zero := by
  have := congrArg (K.mul (inv a)) e
  rwa [← K.mul_assoc, K.mul_comm (inv a), h.inv a ha, K.one_mul, K.mul_zero] at this
theorem FD.mul_ne (h : FD K inv) {a b : R} (ha : a ≠ K.zero) (hb : b ≠ K.zero) : K.mul a b ≠ K.zero := fun e => hb (h.zd e ha)
theorem FD.cancel (h : FD K inv) {a b c : R} (ha : a ≠ K.zero) (e : K.mul a b = K.mul a c) : b = c := by
  have := congrArg (K.mul (inv a)) e
  rwa [← K.mul_assoc, ← K.mul_assoc, K.mul_comm (inv a), h.inv a ha, K.one_mul, K.one_mul] at this
theorem eq_of_neg {a b : R} (h : K.add a (K.neg b) = K.zero) : a = b := by
  have h2 : K.add (K.add a (K.neg b)) b = K.add K.zero b := congrArg (fun x => K.add x b) h
  rwa [K.add_assoc, K.neg_add, K.add_zero, K.zero_add] at h2
theorem neg_of_eq {a b : R} (h : a = b) : K.add a (K.neg b) = K.zero := by rw [h, K.add_neg]
/-- what follows from equations, by multiples of them -/
theorem comb1 {A B L1 R1 c1 : R} (h1 : L1 = R1) (e : K.add A (K.neg B) = K.mul c1 (K.add L1 (K.neg R1))) : A = B := by
  apply eq_of_neg (K := K)
  rw [e, neg_of_eq h1, K.mul_zero]
theorem comb2 {A B L1 R1 c1 L2 R2 c2 : R} (h1 : L1 = R1) (h2 : L2 = R2) (e : K.add A (K.neg B) = K.add (K.mul c1 (K.add L1 (K.neg R1))) (K.mul c2 (K.add L2 (K.neg R2)))) : A = B := by
  apply eq_of_neg (K := K)
  rw [e, neg_of_eq h1, neg_of_eq h2, K.mul_zero, K.mul_zero, K.add_zero]
theorem comb3 {A B L1 R1 c1 L2 R2 c2 L3 R3 c3 : R} (h1 : L1 = R1) (h2 : L2 = R2) (h3 : L3 = R3) (e : K.add A (K.neg B) = K.add (K.add (K.mul c1 (K.add L1 (K.neg R1))) (K.mul c2 (K.add L2 (K.neg R2)))) (K.mul c3 (K.add L3 (K.neg R3)))) : A = B := by
  apply eq_of_neg (K := K)
  rw [e, neg_of_eq h1, neg_of_eq h2, neg_of_eq h3, K.mul_zero, K.mul_zero, K.mul_zero, K.add_zero, K.add_zero]
end

section
variable {R : Type} (K : CR R)
def tl (f : Nat → R) : Nat → R := fun n => f (n + 1)
/-- a coefficient of a product -/
def cof : Nat → (Nat → R) → (Nat → R) → R
  | 0, f, g => K.mul (f 0) (g 0)
  | n + 1, f, g => K.add (K.mul (f 0) (g (n + 1))) (cof n (tl f) g)
def fadd (f g : Nat → R) : Nat → R := fun n => K.add (f n) (g n)
def fsc (c : R) (f : Nat → R) : Nat → R := fun n => K.mul c (f n)
def fmul (f g : Nat → R) : Nat → R := fun n => cof K n f g
def fneg (f : Nat → R) : Nat → R := fun n => K.neg (f n)
def fze : Nat → R := fun _ => K.zero
def fco (c : R) : Nat → R | 0 => c | _ + 1 => K.zero
theorem cof_add_r : ∀ (n : Nat) (f g h : Nat → R), cof K n f (fadd K g h) = K.add (cof K n f g) (cof K n f h)
  | 0, f, g, h => K.mul_add _ _ _
  | n + 1, f, g, h => by
    show K.add (K.mul (f 0) (K.add _ _)) (cof K n (tl f) (fadd K g h)) = K.add (K.add _ _) (K.add _ _)
    rw [cof_add_r n, K.mul_add, K.add_assoc, K.add_assoc, K.add_left_comm (K.mul (f 0) (h (n + 1)))]
theorem cof_add_l : ∀ (n : Nat) (f g h : Nat → R), cof K n (fadd K f g) h = K.add (cof K n f h) (cof K n g h)
  | 0, f, g, h => K.add_mul _ _ _
  | n + 1, f, g, h => by
    show K.add (K.mul (K.add _ _) (h (n + 1))) (cof K n (fadd K (tl f) (tl g)) h) = K.add (K.add _ _) (K.add _ _)
    rw [cof_add_l n, K.add_mul, K.add_assoc, K.add_assoc, K.add_left_comm (K.mul (g 0) (h (n + 1)))]
theorem cof_sc : ∀ (n : Nat) (c : R) (f g : Nat → R), cof K n (fsc K c f) g = K.mul c (cof K n f g)
  | 0, c, f, g => K.mul_assoc _ _ _
  | n + 1, c, f, g => by
    show K.add (K.mul (K.mul c (f 0)) _) (cof K n (fsc K c (tl f)) g) = K.mul c (K.add _ _)
    rw [cof_sc n, K.mul_add, K.mul_assoc]
theorem cof_ze : ∀ (n : Nat) (g : Nat → R), cof K n (fze K) g = K.zero
  | 0, g => K.zero_mul _
  | n + 1, g => by
    show K.add (K.mul K.zero _) (cof K n (fze K) g) = _
    rw [cof_ze n, K.zero_mul, K.add_zero]
theorem cof_co (c : R) (g : Nat → R) : ∀ n, cof K n (fco K c) g = K.mul c (g n)
  | 0 => rfl
  | n + 1 => by
    show K.add (K.mul c _) (cof K n (fze K) g) = _
    rw [cof_ze, K.add_zero]
theorem cof_assoc : ∀ (n : Nat) (f g h : Nat → R), cof K n (fmul K f g) h = cof K n f (fmul K g h)
  | 0, f, g, h => K.mul_assoc _ _ _
  | n + 1, f, g, h => by
    have e : tl (fmul K f g) = fadd K (fsc K (f 0) (tl g)) (fmul K (tl f) g) := rfl
    show K.add (K.mul (K.mul (f 0) (g 0)) (h (n + 1))) (cof K n (tl (fmul K f g)) h) = K.add (K.mul (f 0) (K.add (K.mul (g 0) (h (n + 1))) (cof K n (tl g) h))) (cof K n (tl f) (fmul K g h))
    rw [e, cof_add_l, cof_sc, cof_assoc n, K.mul_add, K.mul_assoc, K.add_assoc]
theorem cof_comm : ∀ (n : Nat) (f g : Nat → R), cof K n f g = cof K n g f
  | 0, f, g => K.mul_comm _ _
  | 1, f, g => by
    show K.add (K.mul (f 0) (g 1)) (K.mul (f 1) (g 0)) = K.add (K.mul (g 0) (f 1)) (K.mul (g 1) (f 0))
    rw [K.add_comm, K.mul_comm (f 1), K.mul_comm (f 0)]
  | n + 2, f, g => by
    show K.add (K.mul (f 0) (g (n + 2))) (cof K (n + 1) (tl f) g) = K.add (K.mul (g 0) (f (n + 2))) (cof K (n + 1) (tl g) f)
    rw [cof_comm (n + 1) (tl f) g, cof_comm (n + 1) (tl g) f]
    show K.add (K.mul (f 0) (g (n + 2))) (K.add (K.mul (g 0) (f (n + 2))) (cof K n (tl g) (tl f))) = K.add (K.mul (g 0) (f (n + 2))) (K.add (K.mul (f 0) (g (n + 2))) (cof K n (tl f) (tl g)))
    rw [K.add_left_comm, cof_comm n (tl g) (tl f)]
theorem cof_hi : ∀ (a b : Nat) (f g : Nat → R), (∀ i, a ≤ i → f i = K.zero) → (∀ i, b ≤ i → g i = K.zero) → ∀ n, a + b ≤ n + 1 → cof K n f g = K.zero
  | 0, b, f, g, hf, hg, n, h => by
    have : f = fze K := funext fun i => hf i (Nat.zero_le _)
    rw [this, cof_ze]
  | a + 1, b, f, g, hf, hg, 0, h => by
    show K.mul (f 0) (g 0) = _
    rw [hg 0 (by omega), K.mul_zero]
  | a + 1, b, f, g, hf, hg, n + 1, h => by
    show K.add (K.mul (f 0) (g (n + 1))) (cof K n (tl f) g) = _
    rw [hg (n + 1) (by omega), K.mul_zero, K.zero_add]
    exact cof_hi a b (tl f) g (fun i hi => hf (i + 1) (by omega)) hg n (by omega)
/-- polynomials -/
def Pol : Type := {f : Nat → R // ∃ n, ∀ i, n ≤ i → f i = K.zero}
variable {K}
theorem Pol.ext {f g : Pol K} (h : ∀ n, f.1 n = g.1 n) : f = g := Subtype.ext (funext h)
def pol : CR (Pol K) where
  add f g := ⟨fadd K f.1 g.1, by
    obtain ⟨a, ha⟩ := f.2; obtain ⟨b, hb⟩ := g.2
    exact ⟨a + b, fun i hi => by show K.add (f.1 i) (g.1 i) = _; rw [ha i (by omega), hb i (by omega), K.add_zero]⟩⟩
  mul f g := ⟨fmul K f.1 g.1, by
    obtain ⟨a, ha⟩ := f.2; obtain ⟨b, hb⟩ := g.2
    exact ⟨a + b, fun i hi => cof_hi K a b f.1 g.1 ha hb i (by omega)⟩⟩
  neg f := ⟨fneg K f.1, by
    obtain ⟨a, ha⟩ := f.2
    exact ⟨a, fun i hi => by show K.neg (f.1 i) = _; rw [ha i hi, neg_zero]⟩⟩
  zero := ⟨fze K, 0, fun _ _ => rfl⟩
  one := ⟨fco K K.one, 1, fun i hi => by cases i with | zero => omega | succ i => rfl⟩
  add_assoc a b c := Pol.ext fun n => K.add_assoc _ _ _
  add_comm a b := Pol.ext fun n => K.add_comm _ _
  zero_add a := Pol.ext fun n => K.zero_add _
  neg_add a := Pol.ext fun n => K.neg_add _
  mul_assoc a b c := Pol.ext fun n => cof_assoc K n _ _ _
  mul_comm a b := Pol.ext fun n => cof_comm K n _ _
  one_mul a := Pol.ext fun n => by show cof K n (fco K K.one) a.1 = _; rw [cof_co, K.one_mul]
  mul_add a b c := Pol.ext fun n => cof_add_r K n _ _ _
/-- constants, and the variable -/
def pco (c : R) : Pol K := ⟨fco K c, 1, fun i hi => by cases i with | zero => omega | succ i => rfl⟩
def pX : Pol K := ⟨fun n => match n with | 1 => K.one | _ => K.zero, 2, fun i hi => by match i, hi with | i + 2, _ => rfl⟩
theorem pco_add (a b : R) : (pco (K.add a b) : Pol K) = pol.add (pco a) (pco b) := Pol.ext fun n => by
  cases n with
  | zero => rfl
  | succ n => exact (K.zero_add _).symm
theorem pco_neg (a : R) : (pco (K.neg a) : Pol K) = pol.neg (pco a) := Pol.ext fun n => by
  cases n with
  | zero => rfl
  | succ n => exact (neg_zero K).symm
theorem pco_mul (a b : R) : (pco (K.mul a b) : Pol K) = pol.mul (pco a) (pco b) := Pol.ext fun n => by
  show _ = cof K n (fco K a) (fco K b)
  rw [cof_co]
  cases n with
  | zero => rfl
  | succ n => exact (K.mul_zero _).symm
/-- f's degree is n -/
def dg (f : Pol K) (n : Nat) : Prop := f.1 n ≠ K.zero ∧ ∀ i, n < i → f.1 i = K.zero
theorem dg_ne {f : Pol K} {n : Nat} (h : dg f n) : f ≠ pol.zero := fun e => h.1 (by rw [e]; rfl)
theorem dg_one {f : Pol K} {n m : Nat} (h : dg f n) (g : dg f m) : n = m := by
  rcases Nat.lt_trichotomy n m with q | q | q
  · exact absurd (h.2 m q) g.1
  · exact q
  · exact absurd (g.2 n q) h.1
theorem dg_ex (f : Pol K) (h : f ≠ pol.zero) : ∃ n, dg f n := by
  obtain ⟨b, hb⟩ := f.2
  have : ∀ b, (∀ i, b ≤ i → f.1 i = K.zero) → ∃ n, dg f n := by
    intro b
    induction b with
    | zero => exact fun hb => absurd (Pol.ext fun n => hb n (Nat.zero_le _)) h
    | succ b ih =>
      intro hb
      by_cases h0 : f.1 b = K.zero
      · exact ih fun i hi => by
          rcases Nat.lt_or_ge b i with q | q
          · exact hb i q
          · rw [show i = b by omega, h0]
      · exact ⟨b, h0, hb⟩
  exact this b hb
variable {inv : R → R}
theorem cof_top : ∀ (a b : Nat) (f g : Nat → R), (∀ i, a < i → f i = K.zero) → (∀ i, b < i → g i = K.zero) → cof K (a + b) f g = K.mul (f a) (g b)
  | 0, b, f, g, hf, hg => by
    have : f = fco K (f 0) := funext fun i => by cases i with | zero => rfl | succ i => exact hf _ (by omega)
    rw [this, cof_co, Nat.zero_add]; rfl
  | a + 1, b, f, g, hf, hg => by
    rw [show a + 1 + b = (a + b) + 1 by omega]
    show K.add (K.mul (f 0) (g (a + b + 1))) (cof K (a + b) (tl f) g) = _
    rw [hg (a + b + 1) (by omega), K.mul_zero, K.zero_add]
    exact cof_top a b (tl f) g (fun i hi => hf (i + 1) (by omega)) hg
theorem dg_mul (F : FD K inv) {f g : Pol K} {n m : Nat} (hf : dg f n) (hg : dg g m) : dg (pol.mul f g) (n + m) := by
  refine ⟨?_, fun i hi => cof_hi K (n + 1) (m + 1) f.1 g.1 (fun j hj => hf.2 j hj) (fun j hj => hg.2 j hj) i (by omega)⟩
  · show cof K (n + m) f.1 g.1 ≠ _
    rw [cof_top n m f.1 g.1 hf.2 hg.2]
    exact F.mul_ne hf.1 hg.1
theorem dg_add_r {f g : Pol K} {n : Nat} (hf : dg f n) (hg : ∀ i, n ≤ i → g.1 i = K.zero) : dg (pol.add f g) n := by
  refine ⟨?_, fun i hi => ?_⟩
  · show K.add (f.1 n) (g.1 n) ≠ _
    rw [hg n (Nat.le_refl _), K.add_zero]; exact hf.1
  · show K.add (f.1 i) (g.1 i) = _
    rw [hf.2 i hi, hg i (by omega), K.add_zero]
theorem neg_ne {a : R} (h : a ≠ K.zero) : K.neg a ≠ K.zero := fun e => h (by rw [← K.neg_neg a, e, neg_zero])
theorem dg_neg {f : Pol K} {n : Nat} (hf : dg f n) : dg (pol.neg f) n :=
  ⟨neg_ne hf.1, fun i hi => by show K.neg (f.1 i) = _; rw [hf.2 i hi, neg_zero]⟩
/-- X - c -/
theorem dg_lin (F : FD K inv) (c : R) : dg (pol.sub (pX : Pol K) (pco c)) 1 := by
  refine ⟨?_, fun i hi => ?_⟩
  · show K.add K.one (K.neg K.zero) ≠ _
    rw [neg_zero, K.add_zero]; exact F.ne
  · match i, hi with
    | i + 2, _ => show K.add K.zero (K.neg K.zero) = _; rw [neg_zero, K.add_zero]
/-- X^3 + c -/
def qP (c : R) : Pol K := pol.add (pol.mul pX (pol.mul pX pX)) (pco c)
theorem dg_X (F : FD K inv) : dg (pX : Pol K) 1 := ⟨F.ne, fun i hi => by match i, hi with | i + 2, _ => rfl⟩
theorem dg_qP (F : FD K inv) (c : R) : dg (qP c : Pol K) 3 :=
  dg_add_r (dg_mul F (dg_X F) (dg_mul F (dg_X F) (dg_X F))) fun i hi => by match i, hi with | i + 1, _ => rfl
/-- a multiple of X - c is no constant but 0 -/
theorem lin_const (F : FD K inv) {c k : R} {h : Pol K} (e : pol.mul (pol.sub (pX : Pol K) (pco c)) h = pco k) : k = K.zero := by
  by_cases h0 : h = pol.zero
  · rw [h0, pol.mul_zero] at e
    exact (congrArg (fun p : Pol K => p.1 0) e).symm
  · obtain ⟨n, hn⟩ := dg_ex h h0
    have := dg_mul F (dg_lin F c) hn
    rw [e] at this
    exact absurd (by rw [Nat.add_comm]; rfl) this.1
end
end Go.Proofs.YthlcjdcjnioeoaaGreat.Ex
