/-
  The reckoner: loops of unknown length, a round at a time; code taken apart. Of whatever program. Conditions: the table of calls is right.
  Flat values of words held against each other, of whatever type of arrays and structs of words. Of whatever program. Conditions: none.
  The reckoner: what lies in memory from before; answers that are slices of a call's own. Of whatever program. Conditions: the tables of calls are right.
  Polynomials over a commutative ring, by their coefficients, and their degrees. Conditions: none.
  The class of a point's ideal: what the group law of y^2 = x^3 + b rests on. Conditions: none.
  The points of y^2 = x^3 + b over a field are a commutative group: by the classes of their ideals. Conditions: none.
  The points of y^2 = x^3 + b over a field, with none of order two, are a commutative group. Conditions: none.
-/
import Derived.Laws.StructEq
import Derived.KernelRfl
import Derived.Test.YthlcjdcjnioeoaaGreatCj02
namespace Go.Proofs.YthlcjdcjnioeoaaGreat.Ex
set_option linter.unusedVariables false
set_option linter.unusedSimpArgs false
open Go.RowKit

/-- fewer facts hold too -/
theorem Holds.sub {nt base : Nat} {w0 : World} {A A' : List Fact} {a : Act} {w : World} (h : Holds nt base w0 A a w) (hs : ∀ φ ∈ A', φ ∈ A) : Holds nt base w0 A' a w := by
  obtain ⟨β, h1, h2⟩ := h.facts
  exact ⟨h.defers, h.size, h.below, h.heap, β, fun φ hφ => h1 φ (hs φ hφ), fun k k' l l' hk hk' => h2 k k' l l' (hs _ hk) (hs _ hk')⟩
/-- the facts of A at the places that K names -/
def pick (A : List Fact) : List Fact → Option (List Fact)
  | [] => some []
  | .slot s _ :: r => match look A s, pick A r with | some v, some l => some (.slot s v :: l) | _, _ => none
  | .row k _ _ :: r => match rowOf A k, pick A r with | some (o, l), some m => some (.row k o l :: m) | _, _ => none
  | .at k _ :: r => match atOf A k, pick A r with | some b, some m => some (.at k b :: m) | _, _ => none
theorem pick_mem {A : List Fact} : ∀ {K L : List Fact}, pick A K = some L → ∀ φ ∈ L, φ ∈ A
  | [], L, h, φ, hφ => by cases h; cases hφ
  | .slot s v :: r, L, h, φ, hφ => by
    unfold pick at h
    split at h
    · rename_i u l h1 h2
      cases h
      rcases List.mem_cons.1 hφ with rfl | hφ
      · exact look_mem h1
      · exact pick_mem h2 φ hφ
    · cases h
  | .row k o m :: r, L, h, φ, hφ => by
    unfold pick at h
    split at h
    · rename_i o' l' m' h1 h2
      cases h
      rcases List.mem_cons.1 hφ with rfl | hφ
      · exact rowOf_mem h1
      · exact pick_mem h2 φ hφ
    · cases h
  | .at k b :: r, L, h, φ, hφ => by
    unfold pick at h
    split at h
    · rename_i b' m' h1 h2
      cases h
      rcases List.mem_cons.1 hφ with rfl | hφ
      · exact atOf_mem h1
      · exact pick_mem h2 φ hφ
    · cases h
/-- code, and the facts at the places that K names -/
def runK (P : Program) (q : EqT) (nt : Nat) (C : Nat → Cfg) (n : Nat) (c : Code) (A K : List Fact) : Option (List Prop × EA × List Fact) :=
  match run P q nt C n c A with
  | some (ps, e, A1) => match pick A1 K with | some L => some (ps, e, L) | none => none
  | none => none
section
variable {P : Program} {q : EqT} {nt base : Nat} {w0 : World} {Q : Exit → Act → World → Prop}
theorem runKW_sound (hm : P.follows .mixedOrders = true) {C : Nat → Cfg} (hT : ∀ n d, TabOkW P ((C n).T d) base w0) (hq : EqOkW P q base w0) {n : Nat} {c : Code} {A K L : List Fact} {ps : List Prop} {e : EA} {a : Act} {w : World}
    (h : runK P q nt C n c A K = some (ps, e, L)) (hps : allP ps) (hA : Holds nt base w0 A a w) (hQ : ∀ a w, Holds nt base w0 L a w → Q e.out a w) : c.wp P Q a w := by
  unfold runK at h
  split at h
  · rename_i ps' e' A1 h1
    split at h
    · rename_i L' h2
      cases h
      exact (run_sound hm hT hq n c A A1 ps e a w Q h1 hps hA fun a w hA1 => hQ a w (hA1.sub (pick_mem h2))).1
    · cases h
  · cases h
/-- a function taken apart: its body's facts at the start; what it answers -/
theorem fn_enter {f : FuncId} {fn : Func} (hf : P.funcs[f]? = some fn) {c : Code} (hb : fn.body = some c) {cs : List CA} {args : List Value} {w : World} (ha : CAs w cs args) (hn : cs.length ≤ fn.ntmps) {R : Ending → World → Prop}
    (h : ∀ a w', Holds fn.ntmps w.heap.size w (argF 0 cs) a w' → c.wp P (bodyPost P fn R) a w') : Calls P f args.toArray w R := by
  have hlen : ∀ (cs : List CA) (vs : List Value), CAs w cs vs → cs.length = vs.length := fun cs => by
    induction cs with
    | nil => intro vs h; cases vs with | nil => rfl | cons _ _ => exact h.elim
    | cons c cs ih => intro vs h; cases vs with | nil => cases c <;> exact h.elim | cons v vs => cases c <;> exact congrArg (· + 1) (ih vs h.2)
  have hle' : args.length ≤ fn.ntmps := by rw [← hlen cs args ha]; exact hn
  refine calls_of_wp hf hb (h _ _ ?_)
  obtain ⟨β, hβ⟩ := argF_ok { tmps := args.toArray ++ Array.replicate (fn.ntmps - args.toArray.size) undef, defers := [] } w cs args 0 ha (fun j v hj => by
    have hlt : j < args.length := (List.getElem?_eq_some_iff.1 hj).1
    simp only [Nat.zero_add]
    rw [Array.getElem?_append_left (by simpa using hlt)]
    simpa using hj)
  exact ⟨rfl, by simp; omega, Below.refl _ _, Nat.le_refl _, β, hβ, fun k k' l l' hk => by
    have : ∀ (cs : List CA) (i : Nat) (k : Nat) (l : List At), Fact.row k true l ∈ argF i cs → False := fun cs => by
      induction cs with
      | nil => intro i k l h; cases h
      | cons c cs ih =>
        intro i k l h
        cases c with
        | v x => rcases List.mem_cons.1 h with h | h; · cases h
                 · exact ih _ _ _ h
        | s l1 n1 m1 =>
          rcases List.mem_cons.1 h with h | h
          · cases h
          · rcases List.mem_cons.1 h with h | h
            · cases h
            · exact ih _ _ _ h
    exact (this cs 0 k l hk).elim⟩
theorem fn_leave {fn : Func} {A : List Fact} {l : List TV} {r : RV} {w : World} (h1 : resTs P A fn.results.toList = some l) (h2 : rv l = some r) {a : Act} {w' : World} (hA : Holds nt w.heap.size w A a w') : bodyPost P fn (fun e w' => e = .returned r.den ∧ Below w.heap.size w w') .ret a w' := by
  obtain ⟨β', hok, _⟩ := hA.facts
  have hres : (results fn a.tmps).run P w' = .ok r.den w' := by
    have := resTs_spec hok h1
    show ((fn.results.mapM (resF a.tmps)) >>= fun vs => pure (if h : vs.size = 1 then vs[0] else .tuple vs) : Sem Value).run P w' = _
    have hm : (List.toArray <$> fn.results.toList.mapM (resF a.tmps)).run P w' = .ok (l.map TV.den).toArray w' := by simp [this]
    rw [Array.mapM_eq_mapM_toList, Sem.run_bind, hm, Result.andThen_ok, Sem.run_pure]
    exact congrArg (fun x => Result.ok x w') (rv_spec h2)
  exact ⟨hA.defers, _, hres, rfl, hA.below⟩
end
/-- a sequence's parts, a block's, a loop's -/
def cA : Code → Code
  | .seq a _ => a
  | c => c
def cB : Code → Code
  | .seq _ b => b
  | c => c
def cIn : Code → Code
  | .block _ c => c
  | .loop c => c
  | c => c
end Go.Proofs.YthlcjdcjnioeoaaGreat.Ex
namespace Go.Proofs.YthlcjdcjnioeoaaGreat.Ex
set_option linter.unusedVariables false
set_option linter.unusedSimpArgs false
open Go.RowKit

def aggT (P : Program) (t : Nat) : Bool := match P.underlying t with
  | some (.struct _) => true
  | some (.array _ _) => true
  | _ => false
def pvl : Bool → List Value → Value
  | true, xs => .agg xs.toArray
  | false, x :: _ => x
  | false, [] => undef
def is1 (P : Program) (t k : Nat) : Bool := match sizeT P t with | some m => Nat.beq m k | none => false
def cmpFs (P : Program) (g : Nat → Option Nat) : Nat → List Field → Option Nat
  | o, [] => some o
  | o, f :: r => match g f.type with
    | some k => bif (f.name != "_") && (Nat.beq f.offset o && is1 P f.type k) then cmpFs P g (o + k) r else none
    | none => none
/-- what a cell is: a word (false), a bool (true) -/
def kOf : Value → Option Bool
  | .int .u64 _ => some false
  | .bool _ => some true
  | _ => none
def kEq : List (Option Bool) → Option Bool → Bool
  | [some a], some b => a == b
  | _, _ => false
/-- so many words, if the type is one of words, bools, arrays, structs -/
def cmpN (P : Program) : Nat → Nat → Option Nat
  | 0, _ => none
  | d + 1, t => match P.underlying t with
    | some (.int .u64) => bif is1 P t 1 then some 1 else none
    | some .bool => bif is1 P t 1 then some 1 else none
    | some (.array n e) => match cmpN P d e with
      | some k => bif is1 P e k && is1 P t (n * k) then some (n * k) else none
      | none => none
    | some (.struct fs) => match cmpFs P (cmpN P d) 0 fs.toList with
      | some m => bif is1 P t m && !(P.stoodInHeld t) then some m else none
      | none => none
    | _ => none
def allN (f : Nat → Bool) : Nat → Bool
  | 0 => true
  | n + 1 => f n && allN f n
theorem allN_spec {f : Nat → Bool} : ∀ {n : Nat}, allN f n = true → ∀ i, i < n → f i = true
  | 0, _, i, hi => by omega
  | n + 1, h, i, hi => by
    unfold allN at h
    rw [Bool.and_eq_true] at h
    by_cases e : i = n
    · rw [e]; exact h.1
    · exact allN_spec h.2 i (by omega)
def fitFs (P : Program) (g : Nat → Option Nat) (h : Nat → List (Option Bool) → Bool) (ks : List (Option Bool)) : Nat → List Field → Bool
  | _, [] => true
  | o, f :: r => match g f.type with
    | some k => h f.type ((ks.drop o).take k) && fitFs P g h ks (o + k) r
    | none => false
/-- do cells of these kinds fit the type? -/
def fitK (P : Program) : Nat → Nat → List (Option Bool) → Bool
  | 0, _, _ => false
  | d + 1, t, ks => match P.underlying t with
    | some (.int .u64) => kEq ks (some false)
    | some .bool => kEq ks (some true)
    | some (.array n e) => match cmpN P d e with
      | some k => allN (fun i => fitK P d e ((ks.drop (i * k)).take k)) n
      | none => false
    | some (.struct fs) => fitFs P (cmpN P d) (fitK P d) ks 0 fs.toList
    | _ => false
def kA : At → List (Option Bool)
  | .c v => [kOf v]
  | _ => [some false, some false, some false, some false]
def kAs : List At → List (Option Bool)
  | [] => []
  | a :: r => kA a ++ kAs r
theorem kAs_spec : ∀ l : List At, (flat l).map kOf = kAs l
  | [] => rfl
  | a :: r => by
    show (a.cells ++ flat r).map kOf = kA a ++ kAs r
    rw [List.map_append, kAs_spec r]
    cases a <;> rfl
theorem is1_spec {P : Program} {t k : Nat} (h : is1 P t k = true) : sizeT P t = some k := by
  unfold is1 at h
  split at h
  · rename_i m hm; rw [hm, Nat.eq_of_beq_eq_true h]
  · cases h
theorem part_any {P : Program} {t n : Nat} (hs : sizeT P t = some n) (ht : (P.underlying t).isSome = true) (hn : aggT P t = false → n = 1) (cs : List Value) (off : Nat) (hl : off + n ≤ cs.length) (w : World) :
    (part t cs.toArray off).run P w = .ok (pvl (aggT P t) ((cs.drop off).take n)) w := by
  obtain ⟨ds, hu⟩ := Option.isSome_iff_exists.1 ht
  have hagg : (isAgg t).run P w = .ok (aggT P t) w := by
    unfold isAgg aggT
    rw [Sem.run_bind, run_underlying hu w, hu]
    cases ds <;> simp_all
  cases ha : aggT P t
  · have h1 := hn ha
    subst h1
    rw [ha] at hagg
    have hc : cs.toArray[off]? = some cs[off] := by simp
    have hd : (cs.drop off).take 1 = [cs[off]] := by
      rw [List.drop_eq_getElem_cons (by omega)]
      rfl
    unfold part
    rw [Sem.run_bind, hagg]
    simp only [Result.andThen_ok, Bool.false_eq_true, if_false]
    rw [hc, hd]
    rfl
  · rw [ha] at hagg
    simp [part, hagg, run_sizeOf hs, List.extract_eq_take_drop, pvl]
def eqElems (d e n : Nat) (xs ys : Array Value) : Nat → Nat → Sem Bool
  | _, 0 => pure true
  | i, c + 1 => do
    let a ← part e xs (i * n)
    let b ← part e ys (i * n)
    let r ← Op.equalIn d e a b
    if (!r) = true then pure false else eqElems d e n xs ys (i + 1) c
theorem run_equalIn_array {P : Program} (w : World) (d t len e n : Nat) (xs ys : Array Value) (ht : P.underlying t = some (.array len e)) (hs : sizeT P e = some n) :
    (Op.equalIn (d + 1) t (.agg xs) (.agg ys)).run P w = (eqElems d e n xs ys 0 len).run P w := by
  simp only [Op.equalIn, Sem.run_bind, run_underlying ht, Result.andThen_ok, run_sizeOf hs]
  rw [Std.Legacy.Range.forIn_eq_forIn_range']
  simp only [Std.Legacy.Range.size, Nat.sub_zero, Nat.add_sub_cancel, Nat.div_one]
  clear ht
  generalize (0 : Nat) = i
  induction len generalizing i w with
  | zero => simp [eqElems]
  | succ len ih =>
    simp only [List.range'_succ, List.forIn_cons, eqElems, Sem.run_bind, Sem.run_ite]
    generalize (part e xs (i * n)).run P w = r1
    cases r1 with
    | ok a w1 =>
      simp only [Result.andThen_ok]
      generalize (part e ys (i * n)).run P w1 = r2
      cases r2 with
      | ok b w2 =>
        simp only [Result.andThen_ok]
        generalize (Op.equalIn d e a b).run P w2 = r3
        cases r3 with
        | ok r w3 =>
          cases r
          · simp only [Result.andThen_ok, Bool.not_false, if_true, Sem.run_pure]
          · simp only [Result.andThen_ok, Bool.not_true, Bool.false_eq_true, if_false, Sem.run_pure]
            exact ih w3 (i + 1)
        | halt x w3 => simp [Result.andThen]
      | halt x w2 => simp [Result.andThen]
    | halt x w1 => simp [Result.andThen]
theorem cmpN_pos : ∀ {P : Program} {d t n : Nat}, cmpN P d t = some n → sizeT P t = some n ∧ (P.underlying t).isSome = true ∧ (aggT P t = false → n = 1)
  | P, 0, t, n, h => by cases h
  | P, d + 1, t, n, h => by
    unfold cmpN at h
    unfold aggT
    split at h
    · rename_i hu
      cases hb : is1 P t 1 <;> rw [hb] at h
      · cases h
      · cases h
        exact ⟨is1_spec hb, by rw [hu]; rfl, fun _ => rfl⟩
    · rename_i hu
      cases hb : is1 P t 1 <;> rw [hb] at h
      · cases h
      · cases h
        exact ⟨is1_spec hb, by rw [hu]; rfl, fun _ => rfl⟩
    · rename_i len e hu
      split at h
      · rename_i k hk
        cases hb : (is1 P e k && is1 P t (len * k)) <;> rw [hb] at h
        · cases h
        · cases h
          rw [Bool.and_eq_true] at hb
          exact ⟨is1_spec hb.2, by rw [hu]; rfl, fun h => by rw [hu] at h; cases h⟩
      · cases h
    · rename_i fs hu
      split at h
      · rename_i m hm
        cases hb : (is1 P t m && !(P.stoodInHeld t)) <;> rw [hb] at h
        · cases h
        · cases h
          rw [Bool.and_eq_true] at hb
          exact ⟨is1_spec hb.1, by rw [hu]; rfl, fun h => by rw [hu] at h; cases h⟩
      · cases h
    · cases h
theorem take_drop_eq {α : Type} {xs ys : List α} {o k : Nat} : (xs.drop o = ys.drop o) ↔ ((xs.drop o).take k = (ys.drop o).take k ∧ xs.drop (o + k) = ys.drop (o + k)) := by
  constructor
  · intro h
    refine ⟨by rw [h], ?_⟩
    rw [← List.drop_drop, ← List.drop_drop, h]
  · rintro ⟨h1, h2⟩
    rw [← List.take_append_drop k (xs.drop o), ← List.take_append_drop k (ys.drop o), h1, List.drop_drop, List.drop_drop, h2]
theorem kinds_sub (xs : List Value) (o k : Nat) : ((xs.drop o).take k).map kOf = ((xs.map kOf).drop o).take k := by rw [List.map_take, List.map_drop]
theorem kEq_word {x : Value} (h : kEq [kOf x] (some false) = true) : ∃ n : Int, x = .int .u64 n := by
  cases x with
  | int k n => cases k <;> first | exact ⟨n, rfl⟩ | cases h
  | bool b => cases h
  | _ => cases h
theorem kEq_bool {x : Value} (h : kEq [kOf x] (some true) = true) : ∃ b : Bool, x = .bool b := by
  cases x with
  | int k n => cases k <;> cases h
  | bool b => exact ⟨b, rfl⟩
  | _ => cases h
open Classical in
/-- equal just if the words are -/
theorem cmp_run {P : Program} : ∀ {d t n : Nat}, cmpN P d t = some n → ∀ (D : Nat), d ≤ D → ∀ (xs ys : List Value) (w : World), xs.length = n → ys.length = n → fitK P d t (xs.map kOf) = true → fitK P d t (ys.map kOf) = true →
    (Op.equalIn D t (pvl (aggT P t) xs) (pvl (aggT P t) ys)).run P w = .ok (decide (xs = ys)) w
  | 0, t, n, h => by cases h
  | d + 1, t, n, h => by
    intro D hD xs ys w hx hy wx wy
    match D, hD with
    | D + 1, hD =>
    have hd : d ≤ D := by omega
    unfold cmpN at h
    unfold fitK at wx wy
    split at h
    · rename_i hu
      rw [hu] at wx wy
      cases hb : is1 P t 1 <;> rw [hb] at h
      · cases h
      · cases h
        have ha : aggT P t = false := by unfold aggT; rw [hu]
        rw [ha]
        match xs, ys, hx, hy with
        | [x], [y], _, _ =>
          obtain ⟨a, rfl⟩ := kEq_word wx
          obtain ⟨b, rfl⟩ := kEq_word wy
          refine (run_equalIn_int w D t .u64 .u64 a b hu).trans ?_
          congr 1
          by_cases e : a = b <;> simp [e]
    · rename_i hu
      rw [hu] at wx wy
      cases hb : is1 P t 1 <;> rw [hb] at h
      · cases h
      · cases h
        have ha : aggT P t = false := by unfold aggT; rw [hu]
        rw [ha]
        match xs, ys, hx, hy with
        | [x], [y], _, _ =>
          obtain ⟨a, rfl⟩ := kEq_bool wx
          obtain ⟨b, rfl⟩ := kEq_bool wy
          refine (run_equalIn_bool w D t a b hu).trans ?_
          congr 1
          by_cases e : a = b <;> simp [e]
    · rename_i len e hu
      split at h
      · rename_i k hk
        cases hb : (is1 P e k && is1 P t (len * k)) <;> rw [hb] at h
        · cases h
        · cases h
          rw [Bool.and_eq_true] at hb
          have ha : aggT P t = true := by unfold aggT; rw [hu]
          rw [ha]
          refine (run_equalIn_array w D t len e k _ _ hu (is1_spec hb.1)).trans ?_
          obtain ⟨p1, p2, p3⟩ := cmpN_pos hk
          rw [hu] at wx wy
          simp only [hk] at wx wy
          have key : ∀ (c i : Nat) (w : World), i + c = len → (eqElems D e k xs.toArray ys.toArray i c).run P w = .ok (decide (xs.drop (i * k) = ys.drop (i * k))) w := by
            intro c
            induction c with
            | zero =>
              intro i w hi
              have hi' : i = len := by omega
              subst hi'
              have h1 : xs.length ≤ i * k := by omega
              have h2 : ys.length ≤ i * k := by omega
              simp [eqElems, List.drop_of_length_le h1, List.drop_of_length_le h2]
            | succ c ih =>
              intro i w hi
              have hle : i * k + k ≤ len * k := by
                have := Nat.mul_le_mul_right k (show i + 1 ≤ len by omega)
                rw [Nat.add_mul, Nat.one_mul] at this
                exact this
              unfold eqElems
              simp only [Sem.run_bind, part_any p1 p2 p3 xs (i * k) (by omega), part_any p1 p2 p3 ys (i * k) (by omega), Result.andThen_ok]
              rw [cmp_run hk D hd ((xs.drop (i * k)).take k) ((ys.drop (i * k)).take k) w (by simp; omega) (by simp; omega) (by rw [kinds_sub]; exact allN_spec wx i (by omega)) (by rw [kinds_sub]; exact allN_spec wy i (by omega))]
              simp only [Result.andThen_ok]
              have hs := take_drop_eq (xs := xs) (ys := ys) (o := i * k) (k := k)
              rw [show i * k + k = (i + 1) * k by rw [Nat.add_mul, Nat.one_mul]] at hs
              by_cases q : (xs.drop (i * k)).take k = (ys.drop (i * k)).take k
              · rw [decide_eq_true q]
                simp only [Bool.not_true, Bool.false_eq_true, if_false]
                rw [ih (i + 1) w (by omega)]
                congr 1
                rw [decide_eq_decide]
                exact ⟨fun h => hs.2 ⟨q, h⟩, fun h => (hs.1 h).2⟩
              · rw [decide_eq_false q, decide_eq_false (fun h => q (hs.1 h).1)]
                simp
          have := key len 0 w (by omega)
          rw [Nat.zero_mul, List.drop_zero, List.drop_zero] at this
          exact this
      · cases h
    · rename_i fs hu
      split at h
      · rename_i m hm
        cases hb : (is1 P t m && !(P.stoodInHeld t)) <;> rw [hb] at h
        · cases h
        · cases h
          rw [Bool.and_eq_true, Bool.not_eq_true'] at hb
          have ha : aggT P t = true := by unfold aggT; rw [hu]
          rw [ha]
          have hf : P.fieldsOf t = fs := by simp [Program.fieldsOf, hu]
          refine (run_equalIn_struct w D t xs.toArray ys.toArray (by rw [hf]; exact hu) hb.2).trans ?_
          rw [hf]
          rw [hu] at wx wy
          have key : ∀ (l : List Field) (o m : Nat) (w : World), fitFs P (cmpN P d) (fitK P d) (xs.map kOf) o l = true → fitFs P (cmpN P d) (fitK P d) (ys.map kOf) o l = true → cmpFs P (cmpN P d) o l = some m → m ≤ xs.length → xs.length = ys.length → o ≤ m ∧ (Op.eqFields D xs.toArray ys.toArray l).run P w = .ok (decide ((xs.drop o).take (m - o) = (ys.drop o).take (m - o))) w := by
            intro l
            induction l with
            | nil =>
              intro o m w _ _ h1 h2 h3
              cases h1
              simp [Op.eqFields]
            | cons f r ih =>
              intro o m w vx vy h1 h2 h3
              unfold cmpFs at h1
              unfold fitFs at vx vy
              split at h1
              · rename_i k hk
                simp only [hk] at vx vy
                rw [Bool.and_eq_true] at vx vy
                cases hc : ((f.name != "_") && (Nat.beq f.offset o && is1 P f.type k)) <;> rw [hc] at h1
                · cases h1
                · simp only [cond_true] at h1
                  rw [Bool.and_eq_true, Bool.and_eq_true] at hc
                  obtain ⟨c1, c2, c3⟩ := hc
                  have ho := Nat.eq_of_beq_eq_true c2
                  obtain ⟨g1, g2⟩ := ih (o + k) m w vx.2 vy.2 h1 h2 h3
                  refine ⟨by omega, ?_⟩
                  obtain ⟨p1, p2, p3⟩ := cmpN_pos hk
                  unfold Op.eqFields
                  rw [if_pos (by simpa using c1), ho]
                  simp only [Sem.run_bind, part_any p1 p2 p3 xs o (by omega), part_any p1 p2 p3 ys o (by omega), Result.andThen_ok]
                  rw [cmp_run hk D hd ((xs.drop o).take k) ((ys.drop o).take k) w (by simp; omega) (by simp; omega) (by rw [kinds_sub]; exact vx.1) (by rw [kinds_sub]; exact vy.1)]
                  simp only [Result.andThen_ok]
                  have hs : ((xs.drop o).take (m - o) = (ys.drop o).take (m - o)) ↔ ((xs.drop o).take k = (ys.drop o).take k ∧ (xs.drop (o + k)).take (m - (o + k)) = (ys.drop (o + k)).take (m - (o + k))) := by
                    have e : m - o = k + (m - (o + k)) := by omega
                    rw [e, List.take_add, List.take_add, List.drop_drop, List.drop_drop]
                    constructor
                    · intro h
                      exact List.append_inj h (by simp; omega)
                    · rintro ⟨a, b⟩
                      rw [a, b]
                  by_cases q : (xs.drop o).take k = (ys.drop o).take k
                  · rw [decide_eq_true q]
                    simp only [Bool.not_true, Bool.false_eq_true, if_false]
                    rw [g2]
                    congr 1
                    rw [decide_eq_decide]
                    exact ⟨fun h => hs.2 ⟨q, h⟩, fun h => (hs.1 h).2⟩
                  · rw [decide_eq_false q, decide_eq_false (fun h => q (hs.1 h).1)]
                    simp
              · cases h1
          have := (key fs.toList 0 _ w wx wy hm (by omega) (by omega)).2
          rw [Nat.sub_zero, List.drop_zero, List.drop_zero, List.take_of_length_le (by omega), List.take_of_length_le (by omega)] at this
          exact this
      · cases h
    · cases h
def gq (P : Program) (t : Nat) : Option Nat := match cmpN P 9 t with
  | some n => bif aggT P t && !(P.eqGuardType P.depth t) then some n else none
  | none => none
/-- all types of words may be held against each other -/
def qG (P : Program) : EqT := { q := gq P, n := gq P, fit := fun t l => fitK P 9 t (kAs l) }
open Classical in
theorem qG_ok (P : Program) : EqOk P (qG P) := by
  have h0 : ∀ t n, gq P t = some n → P.eqGuardType P.depth t = false ∧ ∀ (l m : List At) (w : World), fsz l = n → fsz m = n → fitK P 9 t (kAs l) = true → fitK P 9 t (kAs m) = true → (Op.equalIn 10000 t (.agg (flat l).toArray) (.agg (flat m).toArray)).run P w = .ok (decide (flat l = flat m)) w := by
    intro t n h
    unfold gq at h
    split at h
    · rename_i k hk
      cases hb : (aggT P t && !(P.eqGuardType P.depth t)) <;> rw [hb] at h
      · cases h
      · cases h
        rw [Bool.and_eq_true, Bool.not_eq_true'] at hb
        refine ⟨hb.2, fun l m w h1 h2 h3 h4 => ?_⟩
        have := cmp_run hk 10000 (by omega) (flat l) (flat m) w (by rw [flat_len, h1]) (by rw [flat_len, h2]) (by rw [kAs_spec]; exact h3) (by rw [kAs_spec]; exact h4)
        rw [hb.1] at this
        exact this
    · cases h
  refine ⟨⟨fun t n h => ?_, fun t n h => ?_⟩, rfl⟩
  · obtain ⟨h1, h2⟩ := h0 t n h
    exact ⟨h1, fun l w hl hn => by rw [h2 l l w hl hl hn hn, decide_eq_true rfl]⟩
  · obtain ⟨h1, h2⟩ := h0 t n h
    exact ⟨h1, fun l m w hl hm hn hn' hne => by rw [h2 l m w hl hm hn hn', decide_eq_false hne]⟩
end Go.Proofs.YthlcjdcjnioeoaaGreat.Ex
namespace Go.Proofs.YthlcjdcjnioeoaaGreat.Ex
set_option linter.unusedVariables false
set_option linter.unusedSimpArgs false
open Go.RowKit

/-- what lay in memory at the start -/
def oldOf (w : World) (b o : Nat) (l : List At) : Prop := b < w.heap.size ∧ w.rangeAt b o (flat l)
theorem below_range {base : Nat} {w w' : World} (h : Below base w w') {b o : Nat} {l : List Value} (hb : b < base) (hr : w.rangeAt b o l) : w'.rangeAt b o l := fun j v hj => by
  rw [h.cell hb]
  exact hr j v hj
abbrev Tab2 := Nat → List CA → Option (List Prop × FR)
def Fr0 : Tab2 := fun _ _ => none
def FrOk (P : Program) (T : Tab2) : Prop := ∀ f cs pre r, T f cs = some (pre, r) → allP pre →
  (∀ args w, (callFunc f args).run P w = .ok (.enter f args) w) ∧ ∀ (args : List Value) (w : World), CAs w cs args → Calls P f args.toArray w (fun e w' => r.ok w e w')
theorem Fr0_ok (P : Program) : FrOk P Fr0 := fun _ _ _ _ h => by cases h
def Tab2.add (T : Tab2) (f : Nat) (g : List CA → Option (List Prop × FR)) : Tab2 := fun f' cs => bif Nat.beq f' f then g cs else T f' cs
theorem FrOk.add {P : Program} {T : Tab2} (hT : FrOk P T) {f : Nat} {fn : Func} (hf : P.funcs[f]? = some fn) (hn : (fn.name == "runtime.NumGoroutine") = false) (hb : fn.body.isNone = false) {g : List CA → Option (List Prop × FR)}
    (h : ∀ cs pre r, g cs = some (pre, r) → allP pre → ∀ (args : List Value) (w : World), CAs w cs args → Calls P f args.toArray w (fun e w' => r.ok w e w')) : FrOk P (T.add f g) := by
  intro f' cs pre r hg hp
  unfold Tab2.add at hg
  cases hb' : Nat.beq f' f <;> rw [hb'] at hg
  · exact hT f' cs pre r hg hp
  · cases Nat.eq_of_beq_eq_true hb'
    exact ⟨callable hf hn hb, h cs pre r hg hp⟩
theorem ext_ok {P : Program} {x : Ext} {w : World} (h2 : FrOk P x.T2) (ho : ∀ b o l, x.old b o l → oldOf w b o l) : ExtOk P x w.heap.size w := fun w' hb =>
  ⟨fun b o l h => below_range hb (ho b o l h).1 (ho b o l h).2, fun f cs pre r hg hp => ⟨(h2 f cs pre r hg hp).1, fun args ha => (h2 f cs pre r hg hp).2 args w' ha⟩⟩
/-- all may be found equal or unlike, and x is told -/
def qX (P : Program) (x : Ext) : EqT := { qG P with x := x }
theorem qX_ok {P : Program} {x : Ext} {w : World} (h2 : FrOk P x.T2) (ho : ∀ b o l, x.old b o l → oldOf w b o l) : EqOkW P (qX P x) w.heap.size w := ⟨(qG_ok P).1, ext_ok h2 ho⟩
/-- a function's results, a slice of its own first -/
def resF2 (P : Program) (A : List Fact) : List ResultVar → Option FR
  | .tmp s :: rest => (match look A s with
    | some (.sl k 0 n m) => (match rowOf A k, resTs P A rest with
      | some (true, l), some post => some ⟨l, n, m, post⟩
      | _, _ => none)
    | _ => none)
  | _ => none
theorem fn_leaveF {P : Program} {fn : Func} {A : List Fact} {r : FR} {w : World} (h : resF2 P A fn.results.toList = some r) {a : Act} {w' : World} (hA : Holds fn.ntmps w.heap.size w A a w') : bodyPost P fn (fun e w' => r.ok w e w') .ret a w' := by
  obtain ⟨β, hok, _⟩ := hA.facts
  unfold resF2 at h
  split at h
  · rename_i s rest hx
    split at h
    · rename_i k n m hl
      split at h
      · rename_i l post hr hp
        cases h
        obtain ⟨g1, g2, g3, _⟩ := hok _ (rowOf_mem hr)
        obtain ⟨g4, g5, g6⟩ := g3 rfl
        have hs := hok _ (look_mem hl)
        simp only [Fact.ok, AV.den] at hs
        rw [g5] at hs g2
        have hv : a.tmps.getD s undef = .slice (some ⟨(β k).1, 0, none⟩) n m := by simp [hs]
        have h1 : (resF a.tmps (.tmp s)).run P w' = .ok (.slice (some ⟨(β k).1, 0, none⟩) n m) w' := by
          show (pure (a.tmps.getD s undef) : Sem Value).run P w' = _
          rw [hv]; rfl
        have h2 := resTs_spec hok hp
        have hres : (results fn a.tmps).run P w' = .ok ((⟨l, n, m, post⟩ : FR).val (β k).1) w' := by
          show ((fn.results.mapM (resF a.tmps)) >>= fun vs => pure (if h : vs.size = 1 then vs[0] else .tuple vs) : Sem Value).run P w' = _
          have hm : (List.toArray <$> fn.results.toList.mapM (resF a.tmps)).run P w' = .ok (.slice (some ⟨(β k).1, 0, none⟩) n m :: post.map TV.den).toArray w' := by
            rw [hx]
            simp [List.mapM_cons, h1, h2]
          rw [Array.mapM_eq_mapM_toList, Sem.run_bind, hm, Result.andThen_ok, Sem.run_pure]
          refine congrArg (fun x => Result.ok x w') ?_
          unfold FR.val
          cases post with
          | nil => rfl
          | cons t ts => rw [dif_neg (by simp)]; rfl
        exact ⟨hA.defers, _, hres, (β k).1, rfl, hA.below, g4, g1, g2, g6⟩
      · cases h
    · cases h
  · cases h
/-- a block of the call's own has a number -/
theorem Holds.at {nt base : Nat} {w0 : World} {A : List Fact} {a : Act} {w : World} (h : Holds nt base w0 A a w) {k : Nat} {l : List At} (hk : Fact.row k true l ∈ A) : ∃ b, Holds nt base w0 (.at k b :: A) a w := by
  obtain ⟨β, h1, h2⟩ := h.facts
  obtain ⟨_, _, g3, _⟩ := h1 _ hk
  refine ⟨(β k).1, h.defers, h.size, h.below, h.heap, β, fun φ hφ => ?_, fun k1 k2 l1 l2 e1 e2 => ?_⟩
  · rcases List.mem_cons.1 hφ with rfl | hφ
    · show β k = ((β k).1, 0)
      rw [← (g3 rfl).2.1]
    · exact h1 φ hφ
  · rcases List.mem_cons.1 e1 with e1 | e1
    · cases e1
    · rcases List.mem_cons.1 e2 with e2 | e2
      · cases e2
      · exact h2 k1 k2 l1 l2 e1 e2
end Go.Proofs.YthlcjdcjnioeoaaGreat.Ex
namespace Go.Proofs.YthlcjdcjnioeoaaGreat.Ex
set_option linter.unusedVariables false
set_option linter.unusedSimpArgs false

/-- a field: what is not 0 has an inverse, by a function -/
structure FD {R : Type} (K : CR R) (inv : R → R) : Prop where
  ne : K.one ≠ K.zero
  inv : ∀ x, x ≠ K.zero → K.mul x (inv x) = K.one
section
variable {R : Type} {K : CR R} {inv : R → R}
theorem FD.zd (h : FD K inv) {a b : R} (e : K.mul a b = K.zero) (ha : a ≠ K.zero) : b = K.zero := by
  have := congrArg (K.mul (inv a)) e
  rwa [← K.mul_assoc, K.mul_comm (inv a), h.inv a ha, K.one_mul, K.mul_zero] at this
theorem FD.mul_ne (h : FD K inv) {a b : R} (ha : a ≠ K.zero) (hb : b ≠ K.zero) : K.mul a b ≠ K.zero := fun e => hb (h.zd e ha)
theorem FD.cancel (h : FD K inv) {a b c : R} (ha : a ≠ K.zero) (e : K.mul a b = K.mul a c) : b = c := by
  have := congrArg (K.mul (inv a)) e
  rwa [← K.mul_assoc, ← K.mul_assoc, K.mul_comm (inv a), h.inv a ha, K.one_mul, K.one_mul] at this
theorem eq_of_neg {a b : R} (h : K.add a (K.neg b) = K.zero) : a = b := by
  have h2 : K.add (K.add a (K.neg b)) b = K.add K.zero b := congrArg (fun x => K.add x b) h
  rwa [K.add_assoc, K.neg_add, K.add_zero, K.zero_add] at h2
theorem neg_of_eq {a b : R} (h : a = b) : K.add a (K.neg b) = K.zero := by rw [h, K.add_neg]
/-- what follows from equations, by multiples of them -/
theorem comb1 {A B L1 R1 c1 : R} (h1 : L1 = R1) (e : K.add A (K.neg B) = K.mul c1 (K.add L1 (K.neg R1))) : A = B := by
  apply eq_of_neg (K := K)
  rw [e, neg_of_eq h1, K.mul_zero]
theorem comb2 {A B L1 R1 c1 L2 R2 c2 : R} (h1 : L1 = R1) (h2 : L2 = R2) (e : K.add A (K.neg B) = K.add (K.mul c1 (K.add L1 (K.neg R1))) (K.mul c2 (K.add L2 (K.neg R2)))) : A = B := by
  apply eq_of_neg (K := K)
  rw [e, neg_of_eq h1, neg_of_eq h2, K.mul_zero, K.mul_zero, K.add_zero]
theorem comb3 {A B L1 R1 c1 L2 R2 c2 L3 R3 c3 : R} (h1 : L1 = R1) (h2 : L2 = R2) (h3 : L3 = R3) (e : K.add A (K.neg B) = K.add (K.add (K.mul c1 (K.add L1 (K.neg R1))) (K.mul c2 (K.add L2 (K.neg R2)))) (K.mul c3 (K.add L3 (K.neg R3)))) : A = B := by
  apply eq_of_neg (K := K)
  rw [e, neg_of_eq h1, neg_of_eq h2, neg_of_eq h3, K.mul_zero, K.mul_zero, K.mul_zero, K.add_zero, K.add_zero]
end

section
variable {R : Type} (K : CR R)
def tl (f : Nat → R) : Nat → R := fun n => f (n + 1)
/-- a coefficient of a product -/
def cof : Nat → (Nat → R) → (Nat → R) → R
  | 0, f, g => K.mul (f 0) (g 0)
  | n + 1, f, g => K.add (K.mul (f 0) (g (n + 1))) (cof n (tl f) g)
def fadd (f g : Nat → R) : Nat → R := fun n => K.add (f n) (g n)
def fsc (c : R) (f : Nat → R) : Nat → R := fun n => K.mul c (f n)
def fmul (f g : Nat → R) : Nat → R := fun n => cof K n f g
def fneg (f : Nat → R) : Nat → R := fun n => K.neg (f n)
def fze : Nat → R := fun _ => K.zero
def fco (c : R) : Nat → R | 0 => c | _ + 1 => K.zero
theorem cof_add_r : ∀ (n : Nat) (f g h : Nat → R), cof K n f (fadd K g h) = K.add (cof K n f g) (cof K n f h)
  | 0, f, g, h => K.mul_add _ _ _
  | n + 1, f, g, h => by
    show K.add (K.mul (f 0) (K.add _ _)) (cof K n (tl f) (fadd K g h)) = K.add (K.add _ _) (K.add _ _)
    rw [cof_add_r n, K.mul_add, K.add_assoc, K.add_assoc, K.add_left_comm (K.mul (f 0) (h (n + 1)))]
theorem cof_add_l : ∀ (n : Nat) (f g h : Nat → R), cof K n (fadd K f g) h = K.add (cof K n f h) (cof K n g h)
  | 0, f, g, h => K.add_mul _ _ _
  | n + 1, f, g, h => by
    show K.add (K.mul (K.add _ _) (h (n + 1))) (cof K n (fadd K (tl f) (tl g)) h) = K.add (K.add _ _) (K.add _ _)
    rw [cof_add_l n, K.add_mul, K.add_assoc, K.add_assoc, K.add_left_comm (K.mul (g 0) (h (n + 1)))]
theorem cof_sc : ∀ (n : Nat) (c : R) (f g : Nat → R), cof K n (fsc K c f) g = K.mul c (cof K n f g)
  | 0, c, f, g => K.mul_assoc _ _ _
  | n + 1, c, f, g => by
    show K.add (K.mul (K.mul c (f 0)) _) (cof K n (fsc K c (tl f)) g) = K.mul c (K.add _ _)
    rw [cof_sc n, K.mul_add, K.mul_assoc]
theorem cof_ze : ∀ (n : Nat) (g : Nat → R), cof K n (fze K) g = K.zero
  | 0, g => K.zero_mul _
  | n + 1, g => by
    show K.add (K.mul K.zero _) (cof K n (fze K) g) = _
    rw [cof_ze n, K.zero_mul, K.add_zero]
theorem cof_co (c : R) (g : Nat → R) : ∀ n, cof K n (fco K c) g = K.mul c (g n)
  | 0 => rfl
  | n + 1 => by
    show K.add (K.mul c _) (cof K n (fze K) g) = _
    rw [cof_ze, K.add_zero]
theorem cof_assoc : ∀ (n : Nat) (f g h : Nat → R), cof K n (fmul K f g) h = cof K n f (fmul K g h)
  | 0, f, g, h => K.mul_assoc _ _ _
  | n + 1, f, g, h => by
    have e : tl (fmul K f g) = fadd K (fsc K (f 0) (tl g)) (fmul K (tl f) g) := rfl
    show K.add (K.mul (K.mul (f 0) (g 0)) (h (n + 1))) (cof K n (tl (fmul K f g)) h) = K.add (K.mul (f 0) (K.add (K.mul (g 0) (h (n + 1))) (cof K n (tl g) h))) (cof K n (tl f) (fmul K g h))
    rw [e, cof_add_l, cof_sc, cof_assoc n, K.mul_add, K.mul_assoc, K.add_assoc]
theorem cof_comm : ∀ (n : Nat) (f g : Nat → R), cof K n f g = cof K n g f
  | 0, f, g => K.mul_comm _ _
  | 1, f, g => by
    show K.add (K.mul (f 0) (g 1)) (K.mul (f 1) (g 0)) = K.add (K.mul (g 0) (f 1)) (K.mul (g 1) (f 0))
    rw [K.add_comm, K.mul_comm (f 1), K.mul_comm (f 0)]
  | n + 2, f, g => by
    show K.add (K.mul (f 0) (g (n + 2))) (cof K (n + 1) (tl f) g) = K.add (K.mul (g 0) (f (n + 2))) (cof K (n + 1) (tl g) f)
    rw [cof_comm (n + 1) (tl f) g, cof_comm (n + 1) (tl g) f]
    show K.add (K.mul (f 0) (g (n + 2))) (K.add (K.mul (g 0) (f (n + 2))) (cof K n (tl g) (tl f))) = K.add (K.mul (g 0) (f (n + 2))) (K.add (K.mul (f 0) (g (n + 2))) (cof K n (tl f) (tl g)))
    rw [K.add_left_comm, cof_comm n (tl g) (tl f)]
theorem cof_hi : ∀ (a b : Nat) (f g : Nat → R), (∀ i, a ≤ i → f i = K.zero) → (∀ i, b ≤ i → g i = K.zero) → ∀ n, a + b ≤ n + 1 → cof K n f g = K.zero
  | 0, b, f, g, hf, hg, n, h => by
    have : f = fze K := funext fun i => hf i (Nat.zero_le _)
    rw [this, cof_ze]
  | a + 1, b, f, g, hf, hg, 0, h => by
    show K.mul (f 0) (g 0) = _
    rw [hg 0 (by omega), K.mul_zero]
  | a + 1, b, f, g, hf, hg, n + 1, h => by
    show K.add (K.mul (f 0) (g (n + 1))) (cof K n (tl f) g) = _
    rw [hg (n + 1) (by omega), K.mul_zero, K.zero_add]
    exact cof_hi a b (tl f) g (fun i hi => hf (i + 1) (by omega)) hg n (by omega)
/-- polynomials -/
def Pol : Type := {f : Nat → R // ∃ n, ∀ i, n ≤ i → f i = K.zero}
variable {K}
theorem Pol.ext {f g : Pol K} (h : ∀ n, f.1 n = g.1 n) : f = g := Subtype.ext (funext h)
def pol : CR (Pol K) where
  add f g := ⟨fadd K f.1 g.1, by
    obtain ⟨a, ha⟩ := f.2; obtain ⟨b, hb⟩ := g.2
    exact ⟨a + b, fun i hi => by show K.add (f.1 i) (g.1 i) = _; rw [ha i (by omega), hb i (by omega), K.add_zero]⟩⟩
  mul f g := ⟨fmul K f.1 g.1, by
    obtain ⟨a, ha⟩ := f.2; obtain ⟨b, hb⟩ := g.2
    exact ⟨a + b, fun i hi => cof_hi K a b f.1 g.1 ha hb i (by omega)⟩⟩
  neg f := ⟨fneg K f.1, by
    obtain ⟨a, ha⟩ := f.2
    exact ⟨a, fun i hi => by show K.neg (f.1 i) = _; rw [ha i hi, neg_zero]⟩⟩
  zero := ⟨fze K, 0, fun _ _ => rfl⟩
  one := ⟨fco K K.one, 1, fun i hi => by cases i with | zero => omega | succ i => rfl⟩
  add_assoc a b c := Pol.ext fun n => K.add_assoc _ _ _
  add_comm a b := Pol.ext fun n => K.add_comm _ _
  zero_add a := Pol.ext fun n => K.zero_add _
  neg_add a := Pol.ext fun n => K.neg_add _
  mul_assoc a b c := Pol.ext fun n => cof_assoc K n _ _ _
  mul_comm a b := Pol.ext fun n => cof_comm K n _ _
  one_mul a := Pol.ext fun n => by show cof K n (fco K K.one) a.1 = _; rw [cof_co, K.one_mul]
  mul_add a b c := Pol.ext fun n => cof_add_r K n _ _ _
/-- constants, and the variable -/
def pco (c : R) : Pol K := ⟨fco K c, 1, fun i hi => by cases i with | zero => omega | succ i => rfl⟩
def pX : Pol K := ⟨fun n => match n with | 1 => K.one | _ => K.zero, 2, fun i hi => by match i, hi with | i + 2, _ => rfl⟩
theorem pco_add (a b : R) : (pco (K.add a b) : Pol K) = pol.add (pco a) (pco b) := Pol.ext fun n => by
  cases n with
  | zero => rfl
  | succ n => exact (K.zero_add _).symm
theorem pco_neg (a : R) : (pco (K.neg a) : Pol K) = pol.neg (pco a) := Pol.ext fun n => by
  cases n with
  | zero => rfl
  | succ n => exact (neg_zero K).symm
theorem pco_mul (a b : R) : (pco (K.mul a b) : Pol K) = pol.mul (pco a) (pco b) := Pol.ext fun n => by
  show _ = cof K n (fco K a) (fco K b)
  rw [cof_co]
  cases n with
  | zero => rfl
  | succ n => exact (K.mul_zero _).symm
/-- f's degree is n -/
def dg (f : Pol K) (n : Nat) : Prop := f.1 n ≠ K.zero ∧ ∀ i, n < i → f.1 i = K.zero
theorem dg_ne {f : Pol K} {n : Nat} (h : dg f n) : f ≠ pol.zero := fun e => h.1 (by rw [e]; rfl)
theorem dg_one {f : Pol K} {n m : Nat} (h : dg f n) (g : dg f m) : n = m := by
  rcases Nat.lt_trichotomy n m with q | q | q
  · exact absurd (h.2 m q) g.1
  · exact q
  · exact absurd (g.2 n q) h.1
theorem dg_ex (f : Pol K) (h : f ≠ pol.zero) : ∃ n, dg f n := by
  obtain ⟨b, hb⟩ := f.2
  have : ∀ b, (∀ i, b ≤ i → f.1 i = K.zero) → ∃ n, dg f n := by
    intro b
    induction b with
    | zero => exact fun hb => absurd (Pol.ext fun n => hb n (Nat.zero_le _)) h
    | succ b ih =>
      intro hb
      by_cases h0 : f.1 b = K.zero
      · exact ih fun i hi => by
          rcases Nat.lt_or_ge b i with q | q
          · exact hb i q
          · rw [show i = b by omega, h0]
      · exact ⟨b, h0, hb⟩
  exact this b hb
variable {inv : R → R}
theorem cof_top : ∀ (a b : Nat) (f g : Nat → R), (∀ i, a < i → f i = K.zero) → (∀ i, b < i → g i = K.zero) → cof K (a + b) f g = K.mul (f a) (g b)
  | 0, b, f, g, hf, hg => by
    have : f = fco K (f 0) := funext fun i => by cases i with | zero => rfl | succ i => exact hf _ (by omega)
    rw [this, cof_co, Nat.zero_add]; rfl
  | a + 1, b, f, g, hf, hg => by
    rw [show a + 1 + b = (a + b) + 1 by omega]
    show K.add (K.mul (f 0) (g (a + b + 1))) (cof K (a + b) (tl f) g) = _
    rw [hg (a + b + 1) (by omega), K.mul_zero, K.zero_add]
    exact cof_top a b (tl f) g (fun i hi => hf (i + 1) (by omega)) hg
theorem dg_mul (F : FD K inv) {f g : Pol K} {n m : Nat} (hf : dg f n) (hg : dg g m) : dg (pol.mul f g) (n + m) := by
  refine ⟨?_, fun i hi => cof_hi K (n + 1) (m + 1) f.1 g.1 (fun j hj => hf.2 j hj) (fun j hj => hg.2 j hj) i (by omega)⟩
  · show cof K (n + m) f.1 g.1 ≠ _
    rw [cof_top n m f.1 g.1 hf.2 hg.2]
    exact F.mul_ne hf.1 hg.1
theorem dg_add_r {f g : Pol K} {n : Nat} (hf : dg f n) (hg : ∀ i, n ≤ i → g.1 i = K.zero) : dg (pol.add f g) n := by
  refine ⟨?_, fun i hi => ?_⟩
  · show K.add (f.1 n) (g.1 n) ≠ _
    rw [hg n (Nat.le_refl _), K.add_zero]; exact hf.1
  · show K.add (f.1 i) (g.1 i) = _
    rw [hf.2 i hi, hg i (by omega), K.add_zero]
theorem neg_ne {a : R} (h : a ≠ K.zero) : K.neg a ≠ K.zero := fun e => h (by rw [← K.neg_neg a, e, neg_zero])
theorem dg_neg {f : Pol K} {n : Nat} (hf : dg f n) : dg (pol.neg f) n :=
  ⟨neg_ne hf.1, fun i hi => by show K.neg (f.1 i) = _; rw [hf.2 i hi, neg_zero]⟩
/-- X - c -/
theorem dg_lin (F : FD K inv) (c : R) : dg (pol.sub (pX : Pol K) (pco c)) 1 := by
  refine ⟨?_, fun i hi => ?_⟩
  · show K.add K.one (K.neg K.zero) ≠ _
    rw [neg_zero, K.add_zero]; exact F.ne
  · match i, hi with
    | i + 2, _ => show K.add K.zero (K.neg K.zero) = _; rw [neg_zero, K.add_zero]
/-- X^3 + c -/
def qP (c : R) : Pol K := pol.add (pol.mul pX (pol.mul pX pX)) (pco c)
theorem dg_X (F : FD K inv) : dg (pX : Pol K) 1 := ⟨F.ne, fun i hi => by match i, hi with | i + 2, _ => rfl⟩
theorem dg_qP (F : FD K inv) (c : R) : dg (qP c : Pol K) 3 :=
  dg_add_r (dg_mul F (dg_X F) (dg_mul F (dg_X F) (dg_X F))) fun i hi => by match i, hi with | i + 1, _ => rfl
/-- a multiple of X - c is no constant but 0 -/
theorem lin_const (F : FD K inv) {c k : R} {h : Pol K} (e : pol.mul (pol.sub (pX : Pol K) (pco c)) h = pco k) : k = K.zero := by
  by_cases h0 : h = pol.zero
  · rw [h0, pol.mul_zero] at e
    exact (congrArg (fun p : Pol K => p.1 0) e).symm
  · obtain ⟨n, hn⟩ := dg_ex h h0
    have := dg_mul F (dg_lin F c) hn
    rw [e] at this
    exact absurd (by rw [Nat.add_comm]; rfl) this.1
end
end Go.Proofs.YthlcjdcjnioeoaaGreat.Ex
namespace Go.Proofs.YthlcjdcjnioeoaaGreat.Ex
set_option linter.unusedVariables false
set_option linter.unusedSimpArgs false
section
variable {A : Type} {K : CR A}
theorem comb4 {M N L1 R1 c1 L2 R2 c2 L3 R3 c3 L4 R4 c4 : A} (h1 : L1 = R1) (h2 : L2 = R2) (h3 : L3 = R3) (h4 : L4 = R4) (e : K.add M (K.neg N) = K.add (K.add (K.add (K.mul c1 (K.add L1 (K.neg R1))) (K.mul c2 (K.add L2 (K.neg R2)))) (K.mul c3 (K.add L3 (K.neg R3)))) (K.mul c4 (K.add L4 (K.neg R4)))) : M = N := by
  apply eq_of_neg (K := K)
  rw [e, neg_of_eq h1, neg_of_eq h2, neg_of_eq h3, neg_of_eq h4, K.mul_zero, K.mul_zero, K.mul_zero, K.mul_zero, K.add_zero, K.add_zero, K.add_zero]
/-- a point's ideal times S -/
def op (K : CR A) (X Y x y : A) (S : A → Prop) : A → Prop := fun z => ∃ s t, S s ∧ S t ∧ z = K.add (K.mul (K.sub X x) s) (K.mul (K.sub Y y) t)
structure Idl (K : CR A) (S : A → Prop) : Prop where
  add : ∀ a b, S a → S b → S (K.add a b)
  mul : ∀ a c, S a → S (K.mul c a)
theorem Idl.neg {S : A → Prop} (h : Idl K S) {a : A} (ha : S a) : S (K.neg a) := by
  have := h.mul a (K.neg K.one) ha
  rwa [K.neg_mul, K.one_mul] at this
theorem Idl.sub {S : A → Prop} (h : Idl K S) {a b : A} (ha : S a) (hb : S b) : S (K.sub a b) := h.add _ _ ha (h.neg hb)
/-- one class -/
def Eqv (K : CR A) (S T : A → Prop) : Prop := ∃ a b, a ≠ K.zero ∧ b ≠ K.zero ∧ (∀ s, S s → ∃ t, T t ∧ K.mul a s = K.mul b t) ∧ (∀ t, T t → ∃ s, S s ∧ K.mul a s = K.mul b t)
def Dom (K : CR A) : Prop := K.one ≠ K.zero ∧ ∀ a b, a ≠ K.zero → b ≠ K.zero → K.mul a b ≠ K.zero
theorem Eqv.refl (D : Dom K) (S : A → Prop) : Eqv K S S := ⟨K.one, K.one, D.1, D.1, fun s h => ⟨s, h, rfl⟩, fun s h => ⟨s, h, rfl⟩⟩
theorem Eqv.symm {S T : A → Prop} (h : Eqv K S T) : Eqv K T S := by
  obtain ⟨a, b, ha, hb, h1, h2⟩ := h
  exact ⟨b, a, hb, ha, fun t ht => by obtain ⟨s, hs, e⟩ := h2 t ht; exact ⟨s, hs, e.symm⟩, fun s hs => by obtain ⟨t, ht, e⟩ := h1 s hs; exact ⟨t, ht, e.symm⟩⟩
theorem Eqv.trans (D : Dom K) {S T U : A → Prop} (h : Eqv K S T) (g : Eqv K T U) : Eqv K S U := by
  obtain ⟨a, b, ha, hb, h1, h2⟩ := h
  obtain ⟨c, d, hc, hd, g1, g2⟩ := g
  have key : ∀ s t u, K.mul a s = K.mul b t → K.mul c t = K.mul d u → K.mul (K.mul c a) s = K.mul (K.mul b d) u := fun s t u e f => by
    rw [K.mul_assoc, e, K.mul_left_comm, f, K.mul_assoc]
  refine ⟨K.mul c a, K.mul b d, D.2 _ _ hc ha, D.2 _ _ hb hd, fun s hs => ?_, fun u hu => ?_⟩
  · obtain ⟨t, ht, e⟩ := h1 s hs
    obtain ⟨u, hu, f⟩ := g1 t ht
    exact ⟨u, hu, key s t u e f⟩
  · obtain ⟨t, ht, f⟩ := g2 u hu
    obtain ⟨s, hs, e⟩ := h2 t ht
    exact ⟨s, hs, key s t u e f⟩
variable {X Y : A}
theorem op_scale {x y al be s s2 t t2 : A} (e : K.mul al s = K.mul be t) (f : K.mul al s2 = K.mul be t2) : K.mul al (K.add (K.mul (K.sub X x) s) (K.mul (K.sub Y y) s2)) = K.mul be (K.add (K.mul (K.sub X x) t) (K.mul (K.sub Y y) t2)) :=
  comb2 (K := K) (c1 := (K.sub X x)) (c2 := (K.sub Y y)) e f (ring_id K (envL K [al, X, x, s, Y, y, s2, be, t, t2]) (.add (.mul (.v 0) (.add (.mul (.add (.v 1) (.neg (.v 2))) (.v 3)) (.mul (.add (.v 4) (.neg (.v 5))) (.v 6)))) (.neg (.mul (.v 7) (.add (.mul (.add (.v 1) (.neg (.v 2))) (.v 8)) (.mul (.add (.v 4) (.neg (.v 5))) (.v 9)))))) (.add (.mul (.add (.v 1) (.neg (.v 2))) (.add (.mul (.v 0) (.v 3)) (.neg (.mul (.v 7) (.v 8))))) (.mul (.add (.v 4) (.neg (.v 5))) (.add (.mul (.v 0) (.v 6)) (.neg (.mul (.v 7) (.v 9)))))) (by kernel_rfl))
theorem Eqv.op {S T : A → Prop} (x y : A) (h : Eqv K S T) : Eqv K (op K X Y x y S) (op K X Y x y T) := by
  obtain ⟨a, b, ha, hb, h1, h2⟩ := h
  refine ⟨a, b, ha, hb, ?_, ?_⟩
  · rintro z ⟨s, s2, hs, hs2, rfl⟩
    obtain ⟨t, ht, e⟩ := h1 s hs
    obtain ⟨t2, ht2, f⟩ := h1 s2 hs2
    exact ⟨_, ⟨t, t2, ht, ht2, rfl⟩, op_scale e f⟩
  · rintro z ⟨t, t2, ht, ht2, rfl⟩
    obtain ⟨s, hs, e⟩ := h2 t ht
    obtain ⟨s2, hs2, f⟩ := h2 t2 ht2
    exact ⟨_, ⟨s, s2, hs, hs2, rfl⟩, op_scale e f⟩
theorem op_swap1 {S : A → Prop} (x y x' y' : A) {z : A} (h : op K X Y x y (op K X Y x' y' S) z) : op K X Y x' y' (op K X Y x y S) z := by
  obtain ⟨_, _, ⟨a, bb, ha, hb, rfl⟩, ⟨c, d, hc, hd, rfl⟩, rfl⟩ := h
  exact ⟨_, _, ⟨a, c, ha, hc, rfl⟩, ⟨bb, d, hb, hd, rfl⟩, ring_id K (envL K [X, x, x', a, Y, y', bb, y, c, d]) (.add (.mul (.add (.v 0) (.neg (.v 1))) (.add (.mul (.add (.v 0) (.neg (.v 2))) (.v 3)) (.mul (.add (.v 4) (.neg (.v 5))) (.v 6)))) (.mul (.add (.v 4) (.neg (.v 7))) (.add (.mul (.add (.v 0) (.neg (.v 2))) (.v 8)) (.mul (.add (.v 4) (.neg (.v 5))) (.v 9))))) (.add (.mul (.add (.v 0) (.neg (.v 2))) (.add (.mul (.add (.v 0) (.neg (.v 1))) (.v 3)) (.mul (.add (.v 4) (.neg (.v 7))) (.v 8)))) (.mul (.add (.v 4) (.neg (.v 5))) (.add (.mul (.add (.v 0) (.neg (.v 1))) (.v 6)) (.mul (.add (.v 4) (.neg (.v 7))) (.v 9))))) (by kernel_rfl)⟩
theorem op_swap {S : A → Prop} (x y x' y' : A) : op K X Y x y (op K X Y x' y' S) = op K X Y x' y' (op K X Y x y S) :=
  funext fun z => propext ⟨op_swap1 x y x' y', op_swap1 x' y' x y⟩
theorem op_idl {S : A → Prop} (h : Idl K S) (x y : A) : Idl K (op K X Y x y S) where
  add := by
    rintro _ _ ⟨a, b, ha, hb, rfl⟩ ⟨c, d, hc, hd, rfl⟩
    exact ⟨_, _, h.add a c ha hc, h.add b d hb hd, ring_id K (envL K [X, x, a, Y, y, b, c, d]) (.add (.add (.mul (.add (.v 0) (.neg (.v 1))) (.v 2)) (.mul (.add (.v 3) (.neg (.v 4))) (.v 5))) (.add (.mul (.add (.v 0) (.neg (.v 1))) (.v 6)) (.mul (.add (.v 3) (.neg (.v 4))) (.v 7)))) (.add (.mul (.add (.v 0) (.neg (.v 1))) (.add (.v 2) (.v 6))) (.mul (.add (.v 3) (.neg (.v 4))) (.add (.v 5) (.v 7)))) (by kernel_rfl)⟩
  mul := by
    rintro _ c ⟨a, b, ha, hb, rfl⟩
    exact ⟨_, _, h.mul a c ha, h.mul b c hb, ring_id K (envL K [c, X, x, a, Y, y, b]) (.mul (.v 0) (.add (.mul (.add (.v 1) (.neg (.v 2))) (.v 3)) (.mul (.add (.v 4) (.neg (.v 5))) (.v 6)))) (.add (.mul (.add (.v 1) (.neg (.v 2))) (.mul (.v 0) (.v 3))) (.mul (.add (.v 4) (.neg (.v 5))) (.mul (.v 0) (.v 6)))) (by kernel_rfl)⟩
theorem op_neg {b x y k : A} (hY : K.mul Y Y = K.add (K.mul X (K.mul X X)) b) (hy : K.mul y y = K.add (K.mul x (K.mul x x)) b) (hk : K.mul k (K.add y y) = K.one) (D : Dom K) (hX : K.sub X x ≠ K.zero) {S : A → Prop} (h : Idl K S) : Eqv K (op K X Y x y (op K X Y x (K.neg y) S)) S := by
  refine ⟨K.one, K.sub X x, D.1, hX, ?_, ?_⟩
  · rintro _ ⟨_, _, ⟨a, bb, ha, hb, rfl⟩, ⟨c, d, hc, hd, rfl⟩, rfl⟩
    refine ⟨(K.add (K.add (K.add (K.mul (K.sub X x) a) (K.mul (K.sub Y (K.neg y)) bb)) (K.mul (K.sub Y y) c)) (K.mul (K.add (K.add (K.mul X X) (K.mul x X)) (K.mul x x)) d)), h.add _ _ (h.add _ _ (h.add _ _ (h.mul _ _ ha) (h.mul _ _ hb)) (h.mul _ _ hc)) (h.mul _ _ hd), ?_⟩
    rw [K.one_mul]
    exact comb2 (K := K) (c1 := d) (c2 := (K.neg d)) hY hy (ring_id K (envL K [X, x, a, Y, y, bb, c, d, b]) (.add (.add (.mul (.add (.v 0) (.neg (.v 1))) (.add (.mul (.add (.v 0) (.neg (.v 1))) (.v 2)) (.mul (.add (.v 3) (.neg (.neg (.v 4)))) (.v 5)))) (.mul (.add (.v 3) (.neg (.v 4))) (.add (.mul (.add (.v 0) (.neg (.v 1))) (.v 6)) (.mul (.add (.v 3) (.neg (.neg (.v 4)))) (.v 7))))) (.neg (.mul (.add (.v 0) (.neg (.v 1))) (.add (.add (.add (.mul (.add (.v 0) (.neg (.v 1))) (.v 2)) (.mul (.add (.v 3) (.neg (.neg (.v 4)))) (.v 5))) (.mul (.add (.v 3) (.neg (.v 4))) (.v 6))) (.mul (.add (.add (.mul (.v 0) (.v 0)) (.mul (.v 1) (.v 0))) (.mul (.v 1) (.v 1))) (.v 7)))))) (.add (.mul (.v 7) (.add (.mul (.v 3) (.v 3)) (.neg (.add (.mul (.v 0) (.mul (.v 0) (.v 0))) (.v 8))))) (.mul (.neg (.v 7)) (.add (.mul (.v 4) (.v 4)) (.neg (.add (.mul (.v 1) (.mul (.v 1) (.v 1))) (.v 8)))))) (by kernel_rfl))
  · intro t ht
    refine ⟨_, ⟨_, _, ⟨_, _, h.mul t K.zero ht, h.mul t k ht, rfl⟩, ⟨_, _, h.mul t (K.neg k) ht, h.mul t K.zero ht, rfl⟩, rfl⟩, ?_⟩
    rw [K.one_mul]
    exact comb1 (K := K) (c1 := (K.mul (K.sub X x) t)) hk (ring_id K (envL K [X, x, t, Y, y, k]) (.add (.add (.mul (.add (.v 0) (.neg (.v 1))) (.add (.mul (.add (.v 0) (.neg (.v 1))) (.mul .zero (.v 2))) (.mul (.add (.v 3) (.neg (.neg (.v 4)))) (.mul (.v 5) (.v 2))))) (.mul (.add (.v 3) (.neg (.v 4))) (.add (.mul (.add (.v 0) (.neg (.v 1))) (.mul (.neg (.v 5)) (.v 2))) (.mul (.add (.v 3) (.neg (.neg (.v 4)))) (.mul .zero (.v 2)))))) (.neg (.mul (.add (.v 0) (.neg (.v 1))) (.v 2)))) (.mul (.mul (.add (.v 0) (.neg (.v 1))) (.v 2)) (.add (.mul (.v 5) (.add (.v 4) (.v 4))) (.neg .one))) (by kernel_rfl))
theorem line_cube {b x1 y1 x2 l : A} (hY : K.mul Y Y = K.add (K.mul X (K.mul X X)) b) (H2 : (K.mul l (K.add y1 (K.add y1 (K.mul l (K.sub x2 x1))))) = (K.add (K.add (K.mul x1 x1) (K.mul x1 x2)) (K.mul x2 x2))) (H3 : (K.mul y1 y1) = (K.add (K.mul x1 (K.mul x1 x1)) b)) : (K.mul (K.sub X x1) (K.mul (K.sub X x2) (K.sub X (K.sub (K.sub (K.mul l l) x1) x2)))) = (K.mul (K.sub (K.sub Y y1) (K.mul l (K.sub X x1))) (K.add (K.sub Y (K.sub (K.mul l (K.sub x1 (K.sub (K.sub (K.mul l l) x1) x2))) y1)) (K.mul l (K.sub X (K.sub (K.sub (K.mul l l) x1) x2))))) :=
  comb3 (K := K) (c1 := (K.neg K.one)) (c2 := K.one) (c3 := (K.sub X x1)) hY H3 H2 (ring_id K (envL K [X, x1, x2, l, Y, y1, b]) (.add (.mul (.add (.v 0) (.neg (.v 1))) (.mul (.add (.v 0) (.neg (.v 2))) (.add (.v 0) (.neg (.add (.add (.mul (.v 3) (.v 3)) (.neg (.v 1))) (.neg (.v 2))))))) (.neg (.mul (.add (.add (.v 4) (.neg (.v 5))) (.neg (.mul (.v 3) (.add (.v 0) (.neg (.v 1)))))) (.add (.add (.v 4) (.neg (.add (.mul (.v 3) (.add (.v 1) (.neg (.add (.add (.mul (.v 3) (.v 3)) (.neg (.v 1))) (.neg (.v 2)))))) (.neg (.v 5))))) (.mul (.v 3) (.add (.v 0) (.neg (.add (.add (.mul (.v 3) (.v 3)) (.neg (.v 1))) (.neg (.v 2)))))))))) (.add (.add (.mul (.neg .one) (.add (.mul (.v 4) (.v 4)) (.neg (.add (.mul (.v 0) (.mul (.v 0) (.v 0))) (.v 6))))) (.mul .one (.add (.mul (.v 5) (.v 5)) (.neg (.add (.mul (.v 1) (.mul (.v 1) (.v 1))) (.v 6)))))) (.mul (.add (.v 0) (.neg (.v 1))) (.add (.mul (.v 3) (.add (.v 5) (.add (.v 5) (.mul (.v 3) (.add (.v 2) (.neg (.v 1))))))) (.neg (.add (.add (.mul (.v 1) (.v 1)) (.mul (.v 1) (.v 2))) (.mul (.v 2) (.v 2))))))) (by kernel_rfl))
theorem op_sum {b x1 y1 x2 l : A} (hY : K.mul Y Y = K.add (K.mul X (K.mul X X)) b) (H2 : (K.mul l (K.add y1 (K.add y1 (K.mul l (K.sub x2 x1))))) = (K.add (K.add (K.mul x1 x1) (K.mul x1 x2)) (K.mul x2 x2))) (H3 : (K.mul y1 y1) = (K.add (K.mul x1 (K.mul x1 x1)) b)) (hk : (∃ k, K.mul k (K.add y1 (K.add y1 (K.mul l (K.sub x2 x1)))) = K.one) ∨ (∃ k, K.mul k (K.sub x2 x1) = K.one)) (hX : K.sub X (K.sub (K.sub (K.mul l l) x1) x2) ≠ K.zero) (hl : (K.sub (K.sub Y y1) (K.mul l (K.sub X x1))) ≠ K.zero) {S : A → Prop} (h : Idl K S) : Eqv K (op K X Y x1 y1 (op K X Y x2 (K.add y1 (K.mul l (K.sub x2 x1))) S)) (op K X Y (K.sub (K.sub (K.mul l l) x1) x2) (K.sub (K.mul l (K.sub x1 (K.sub (K.sub (K.mul l l) x1) x2))) y1) S) := by
  have HC := line_cube (X := X) (Y := Y) hY H2 H3
  refine ⟨K.sub X (K.sub (K.sub (K.mul l l) x1) x2), (K.sub (K.sub Y y1) (K.mul l (K.sub X x1))), hX, hl, ?_, ?_⟩
  · rintro _ ⟨_, _, ⟨a, bb, ha, hb, rfl⟩, ⟨c, d, hc, hd, rfl⟩, rfl⟩
    exact ⟨_, ⟨(K.add (K.add (K.add (K.mul l a) (K.mul (K.add (K.sub X x1) (K.mul l l)) bb)) (K.mul (K.add (K.sub X x2) (K.mul l l)) c)) (K.mul (K.add (K.add (K.add (K.sub (K.sub Y y1) (K.mul l (K.sub X x1))) (K.mul l (K.sub X x1))) (K.mul l (K.sub X x2))) (K.mul l (K.mul l l))) d)), (K.add (K.add (K.add a (K.mul l bb)) (K.mul l c)) (K.mul (K.mul l l) d)), h.add _ _ (h.add _ _ (h.add _ _ (h.mul _ _ ha) (h.mul _ _ hb)) (h.mul _ _ hc)) (h.mul _ _ hd), h.add _ _ (h.add _ _ (h.add _ _ ha (h.mul _ _ hb)) (h.mul _ _ hc)) (h.mul _ _ hd), rfl⟩, comb1 (K := K) (c1 := (K.add (K.add (K.add a (K.mul l bb)) (K.mul l c)) (K.mul (K.mul l l) d))) HC (ring_id K (envL K [X, l, x1, x2, a, Y, y1, bb, c, d]) (.add (.mul (.add (.v 0) (.neg (.add (.add (.mul (.v 1) (.v 1)) (.neg (.v 2))) (.neg (.v 3))))) (.add (.mul (.add (.v 0) (.neg (.v 2))) (.add (.mul (.add (.v 0) (.neg (.v 3))) (.v 4)) (.mul (.add (.v 5) (.neg (.add (.v 6) (.mul (.v 1) (.add (.v 3) (.neg (.v 2))))))) (.v 7)))) (.mul (.add (.v 5) (.neg (.v 6))) (.add (.mul (.add (.v 0) (.neg (.v 3))) (.v 8)) (.mul (.add (.v 5) (.neg (.add (.v 6) (.mul (.v 1) (.add (.v 3) (.neg (.v 2))))))) (.v 9)))))) (.neg (.mul (.add (.add (.v 5) (.neg (.v 6))) (.neg (.mul (.v 1) (.add (.v 0) (.neg (.v 2)))))) (.add (.mul (.add (.v 0) (.neg (.add (.add (.mul (.v 1) (.v 1)) (.neg (.v 2))) (.neg (.v 3))))) (.add (.add (.add (.mul (.v 1) (.v 4)) (.mul (.add (.add (.v 0) (.neg (.v 2))) (.mul (.v 1) (.v 1))) (.v 7))) (.mul (.add (.add (.v 0) (.neg (.v 3))) (.mul (.v 1) (.v 1))) (.v 8))) (.mul (.add (.add (.add (.add (.add (.v 5) (.neg (.v 6))) (.neg (.mul (.v 1) (.add (.v 0) (.neg (.v 2)))))) (.mul (.v 1) (.add (.v 0) (.neg (.v 2))))) (.mul (.v 1) (.add (.v 0) (.neg (.v 3))))) (.mul (.v 1) (.mul (.v 1) (.v 1)))) (.v 9)))) (.mul (.add (.v 5) (.neg (.add (.mul (.v 1) (.add (.v 2) (.neg (.add (.add (.mul (.v 1) (.v 1)) (.neg (.v 2))) (.neg (.v 3)))))) (.neg (.v 6))))) (.add (.add (.add (.v 4) (.mul (.v 1) (.v 7))) (.mul (.v 1) (.v 8))) (.mul (.mul (.v 1) (.v 1)) (.v 9)))))))) (.mul (.add (.add (.add (.v 4) (.mul (.v 1) (.v 7))) (.mul (.v 1) (.v 8))) (.mul (.mul (.v 1) (.v 1)) (.v 9))) (.add (.mul (.add (.v 0) (.neg (.v 2))) (.mul (.add (.v 0) (.neg (.v 3))) (.add (.v 0) (.neg (.add (.add (.mul (.v 1) (.v 1)) (.neg (.v 2))) (.neg (.v 3))))))) (.neg (.mul (.add (.add (.v 5) (.neg (.v 6))) (.neg (.mul (.v 1) (.add (.v 0) (.neg (.v 2)))))) (.add (.add (.v 5) (.neg (.add (.mul (.v 1) (.add (.v 2) (.neg (.add (.add (.mul (.v 1) (.v 1)) (.neg (.v 2))) (.neg (.v 3)))))) (.neg (.v 6))))) (.mul (.v 1) (.add (.v 0) (.neg (.add (.add (.mul (.v 1) (.v 1)) (.neg (.v 2))) (.neg (.v 3))))))))))) (by kernel_rfl))⟩
  · rintro _ ⟨u, w, hu, hw, rfl⟩
    have hg : S (K.sub u (K.mul l w)) := h.sub hu (h.mul _ _ hw)
    have e0 : K.mul (K.sub (K.sub Y y1) (K.mul l (K.sub X x1))) (K.add (K.mul (K.sub X (K.sub (K.sub (K.mul l l) x1) x2)) u) (K.mul (K.sub Y (K.sub (K.mul l (K.sub x1 (K.sub (K.sub (K.mul l l) x1) x2))) y1)) w)) = K.mul (K.sub X (K.sub (K.sub (K.mul l l) x1) x2)) (K.add (K.mul (K.sub (K.sub Y y1) (K.mul l (K.sub X x1))) (K.sub u (K.mul l w))) (K.mul (K.sub X x1) (K.mul (K.sub X x2) w))) :=
      comb1 (K := K) (c1 := (K.neg w)) HC (ring_id K (envL K [Y, y1, l, X, x1, x2, u, w]) (.add (.mul (.add (.add (.v 0) (.neg (.v 1))) (.neg (.mul (.v 2) (.add (.v 3) (.neg (.v 4)))))) (.add (.mul (.add (.v 3) (.neg (.add (.add (.mul (.v 2) (.v 2)) (.neg (.v 4))) (.neg (.v 5))))) (.v 6)) (.mul (.add (.v 0) (.neg (.add (.mul (.v 2) (.add (.v 4) (.neg (.add (.add (.mul (.v 2) (.v 2)) (.neg (.v 4))) (.neg (.v 5)))))) (.neg (.v 1))))) (.v 7)))) (.neg (.mul (.add (.v 3) (.neg (.add (.add (.mul (.v 2) (.v 2)) (.neg (.v 4))) (.neg (.v 5))))) (.add (.mul (.add (.add (.v 0) (.neg (.v 1))) (.neg (.mul (.v 2) (.add (.v 3) (.neg (.v 4)))))) (.add (.v 6) (.neg (.mul (.v 2) (.v 7))))) (.mul (.add (.v 3) (.neg (.v 4))) (.mul (.add (.v 3) (.neg (.v 5))) (.v 7))))))) (.mul (.neg (.v 7)) (.add (.mul (.add (.v 3) (.neg (.v 4))) (.mul (.add (.v 3) (.neg (.v 5))) (.add (.v 3) (.neg (.add (.add (.mul (.v 2) (.v 2)) (.neg (.v 4))) (.neg (.v 5))))))) (.neg (.mul (.add (.add (.v 0) (.neg (.v 1))) (.neg (.mul (.v 2) (.add (.v 3) (.neg (.v 4)))))) (.add (.add (.v 0) (.neg (.add (.mul (.v 2) (.add (.v 4) (.neg (.add (.add (.mul (.v 2) (.v 2)) (.neg (.v 4))) (.neg (.v 5)))))) (.neg (.v 1))))) (.mul (.v 2) (.add (.v 3) (.neg (.add (.add (.mul (.v 2) (.v 2)) (.neg (.v 4))) (.neg (.v 5))))))))))) (by kernel_rfl))
    generalize hge : (K.sub u (K.mul l w)) = g at hg e0
    rw [e0]
    rcases hk with ⟨k, hk⟩ | ⟨k, hk⟩
    · refine ⟨_, ⟨_, _, ⟨_, _, h.add _ _ (h.mul g (K.mul k (K.add (K.add X x1) x2)) hg) hw, h.mul g K.zero hg, rfl⟩, ⟨_, _, h.mul g K.zero hg, h.mul g (K.neg k) hg, rfl⟩, rfl⟩, congrArg (K.mul _) ?_⟩
      exact comb4 (K := K) (c1 := (K.mul (K.sub (K.sub Y y1) (K.mul l (K.sub X x1))) g)) (c2 := (K.neg (K.mul k g))) (c3 := (K.mul k g)) (c4 := (K.mul (K.mul k g) (K.sub X x1))) hk hY H3 H2 (ring_id K (envL K [X, x1, x2, k, g, w, Y, y1, l, b]) (.add (.add (.mul (.add (.v 0) (.neg (.v 1))) (.add (.mul (.add (.v 0) (.neg (.v 2))) (.add (.mul (.mul (.v 3) (.add (.add (.v 0) (.v 1)) (.v 2))) (.v 4)) (.v 5))) (.mul (.add (.v 6) (.neg (.add (.v 7) (.mul (.v 8) (.add (.v 2) (.neg (.v 1))))))) (.mul .zero (.v 4))))) (.mul (.add (.v 6) (.neg (.v 7))) (.add (.mul (.add (.v 0) (.neg (.v 2))) (.mul .zero (.v 4))) (.mul (.add (.v 6) (.neg (.add (.v 7) (.mul (.v 8) (.add (.v 2) (.neg (.v 1))))))) (.mul (.neg (.v 3)) (.v 4)))))) (.neg (.add (.mul (.add (.add (.v 6) (.neg (.v 7))) (.neg (.mul (.v 8) (.add (.v 0) (.neg (.v 1)))))) (.v 4)) (.mul (.add (.v 0) (.neg (.v 1))) (.mul (.add (.v 0) (.neg (.v 2))) (.v 5)))))) (.add (.add (.add (.mul (.mul (.add (.add (.v 6) (.neg (.v 7))) (.neg (.mul (.v 8) (.add (.v 0) (.neg (.v 1)))))) (.v 4)) (.add (.mul (.v 3) (.add (.v 7) (.add (.v 7) (.mul (.v 8) (.add (.v 2) (.neg (.v 1))))))) (.neg .one))) (.mul (.neg (.mul (.v 3) (.v 4))) (.add (.mul (.v 6) (.v 6)) (.neg (.add (.mul (.v 0) (.mul (.v 0) (.v 0))) (.v 9)))))) (.mul (.mul (.v 3) (.v 4)) (.add (.mul (.v 7) (.v 7)) (.neg (.add (.mul (.v 1) (.mul (.v 1) (.v 1))) (.v 9)))))) (.mul (.mul (.mul (.v 3) (.v 4)) (.add (.v 0) (.neg (.v 1)))) (.add (.mul (.v 8) (.add (.v 7) (.add (.v 7) (.mul (.v 8) (.add (.v 2) (.neg (.v 1))))))) (.neg (.add (.add (.mul (.v 1) (.v 1)) (.mul (.v 1) (.v 2))) (.mul (.v 2) (.v 2))))))) (by kernel_rfl))
    · refine ⟨_, ⟨_, _, ⟨_, _, hw, h.mul g k hg, rfl⟩, ⟨_, _, h.mul g (K.neg k) hg, h.mul g K.zero hg, rfl⟩, rfl⟩, congrArg (K.mul _) ?_⟩
      exact comb1 (K := K) (c1 := (K.mul (K.sub (K.sub Y y1) (K.mul l (K.sub X x1))) g)) hk (ring_id K (envL K [X, x1, x2, w, Y, y1, l, k, g]) (.add (.add (.mul (.add (.v 0) (.neg (.v 1))) (.add (.mul (.add (.v 0) (.neg (.v 2))) (.v 3)) (.mul (.add (.v 4) (.neg (.add (.v 5) (.mul (.v 6) (.add (.v 2) (.neg (.v 1))))))) (.mul (.v 7) (.v 8))))) (.mul (.add (.v 4) (.neg (.v 5))) (.add (.mul (.add (.v 0) (.neg (.v 2))) (.mul (.neg (.v 7)) (.v 8))) (.mul (.add (.v 4) (.neg (.add (.v 5) (.mul (.v 6) (.add (.v 2) (.neg (.v 1))))))) (.mul .zero (.v 8)))))) (.neg (.add (.mul (.add (.add (.v 4) (.neg (.v 5))) (.neg (.mul (.v 6) (.add (.v 0) (.neg (.v 1)))))) (.v 8)) (.mul (.add (.v 0) (.neg (.v 1))) (.mul (.add (.v 0) (.neg (.v 2))) (.v 3)))))) (.mul (.mul (.add (.add (.v 4) (.neg (.v 5))) (.neg (.mul (.v 6) (.add (.v 0) (.neg (.v 1)))))) (.v 8)) (.add (.mul (.v 7) (.add (.v 2) (.neg (.v 1)))) (.neg .one))) (by kernel_rfl))
end
end Go.Proofs.YthlcjdcjnioeoaaGreat.Ex
namespace Go.Proofs.YthlcjdcjnioeoaaGreat.Ex
set_option linter.unusedVariables false
set_option linter.unusedSimpArgs false
open Classical
section
variable {R : Type} {K : CR R} {inv : R → R}
/-- the curve's ring: polynomials and polynomials times Y -/
def crd (K : CR R) (b : R) : CR (Pol K × Pol K) := (pol (K := K)).sq (qP b)
def cX : Pol K × Pol K := (pX, pol.zero)
def cY : Pol K × Pol K := (pol.zero, pol.one)
def cc (k : R) : Pol K × Pol K := (pco k, pol.zero)
variable (b : R)
theorem cc_add (x y : R) : (cc (K.add x y) : Pol K × Pol K) = (crd K b).add (cc x) (cc y) := Prod.ext (pco_add x y) (pol.zero_add _).symm
theorem cc_neg (x : R) : (cc (K.neg x) : Pol K × Pol K) = (crd K b).neg (cc x) := Prod.ext (pco_neg x) (neg_zero pol).symm
theorem cc_sub (x y : R) : (cc (K.sub x y) : Pol K × Pol K) = (crd K b).sub (cc x) (cc y) := by
  show cc (K.add _ _) = (crd K b).add _ _
  rw [cc_add b, cc_neg b]
theorem cc_mul (x y : R) : (cc (K.mul x y) : Pol K × Pol K) = (crd K b).mul (cc x) (cc y) := by
  refine Prod.ext ?_ ?_
  · show pco (K.mul x y) = pol.add (pol.mul (pco x) (pco y)) (pol.mul (qP b) (pol.mul pol.zero pol.zero))
    rw [pol.mul_zero, pol.mul_zero, pol.add_zero, pco_mul]
  · show pol.zero = pol.add (pol.mul (pco x) pol.zero) (pol.mul pol.zero (pco y))
    rw [pol.mul_zero, pol.zero_mul, pol.add_zero]
theorem cc_one : (cc K.one : Pol K × Pol K) = (crd K b).one := rfl
theorem c_eq : (crd K b).mul cY cY = (crd K b).add ((crd K b).mul cX ((crd K b).mul cX cX)) (cc b) := by
  refine Prod.ext ?_ ?_
  · show pol.add (pol.mul pol.zero pol.zero) (pol.mul (qP b) (pol.mul pol.one pol.one)) = pol.add (pol.add (pol.mul pX (pol.add (pol.mul pX pX) (pol.mul (qP b) (pol.mul pol.zero pol.zero)))) (pol.mul (qP b) (pol.mul pol.zero (pol.add (pol.mul pX pol.zero) (pol.mul pol.zero pX))))) (pco b)
    simp only [pol.mul_zero, pol.zero_mul, pol.add_zero, pol.zero_add, pol.mul_one]
    rfl
  · show pol.add (pol.mul pol.zero pol.one) (pol.mul pol.one pol.zero) = pol.add (pol.add (pol.mul pX (pol.add (pol.mul pX pol.zero) (pol.mul pol.zero pX))) (pol.mul pol.zero (pol.add (pol.mul pX pX) (pol.mul (qP b) (pol.mul pol.zero pol.zero))))) pol.zero
    simp only [pol.mul_zero, pol.zero_mul, pol.add_zero, pol.zero_add, pol.mul_one]
/-- the norm down to polynomials -/
def nrm (f : Pol K × Pol K) : Pol K := pol.sub (pol.mul f.1 f.1) (pol.mul (qP b) (pol.mul f.2 f.2))
theorem nrm_mul (f g : Pol K × Pol K) : nrm b ((crd K b).mul f g) = pol.mul (nrm b f) (nrm b g) :=
  ring_id pol (envL pol [f.1, g.1, qP b, f.2, g.2]) (.add (.mul (.add (.mul (.v 0) (.v 1)) (.mul (.v 2) (.mul (.v 3) (.v 4)))) (.add (.mul (.v 0) (.v 1)) (.mul (.v 2) (.mul (.v 3) (.v 4))))) (.neg (.mul (.v 2) (.mul (.add (.mul (.v 0) (.v 4)) (.mul (.v 3) (.v 1))) (.add (.mul (.v 0) (.v 4)) (.mul (.v 3) (.v 1))))))) (.mul (.add (.mul (.v 0) (.v 0)) (.neg (.mul (.v 2) (.mul (.v 3) (.v 3))))) (.add (.mul (.v 1) (.v 1)) (.neg (.mul (.v 2) (.mul (.v 4) (.v 4)))))) (by kernel_rfl)
theorem nrm_dg (F : FD K inv) (f : Pol K × Pol K) (h : f ≠ (crd K b).zero) : ∃ d, dg (nrm b f) d ∧ d ≠ 1 := by
  have hq : dg (qP b : Pol K) 3 := dg_qP F b
  by_cases h2 : f.2 = pol.zero
  · have h1 : f.1 ≠ pol.zero := fun e => h (Prod.ext e h2)
    obtain ⟨n, hn⟩ := dg_ex _ h1
    refine ⟨n + n, ?_, by omega⟩
    unfold nrm
    rw [h2, pol.mul_zero, pol.mul_zero]
    show dg (pol.add _ (pol.neg pol.zero)) _
    rw [neg_zero, pol.add_zero]
    exact dg_mul F hn hn
  · obtain ⟨m, hm⟩ := dg_ex _ h2
    have hr := dg_mul F hq (dg_mul F hm hm)
    by_cases h1 : f.1 = pol.zero
    · refine ⟨3 + (m + m), ?_, by omega⟩
      unfold nrm
      rw [h1, pol.mul_zero]
      show dg (pol.add _ _) _
      rw [pol.zero_add]
      exact dg_neg hr
    · obtain ⟨n, hn⟩ := dg_ex _ h1
      have hl := dg_mul F hn hn
      have hr' := dg_neg hr
      rcases Nat.lt_or_ge (n + n) (3 + (m + m)) with q | q
      · refine ⟨3 + (m + m), ?_, by omega⟩
        show dg (pol.add _ _) _
        rw [pol.add_comm]
        exact dg_add_r hr' fun i hi => hl.2 i (by omega)
      · refine ⟨n + n, ?_, by omega⟩
        exact dg_add_r hl fun i hi => hr'.2 i (by omega)
theorem crd_dom (F : FD K inv) : Dom (crd K b) := by
  refine ⟨fun e => F.ne (congrArg (fun z : Pol K × Pol K => z.1.1 0) e), fun f g hf hg e => ?_⟩
  obtain ⟨n, hn, _⟩ := nrm_dg b F f hf
  obtain ⟨m, hm, _⟩ := nrm_dg b F g hg
  have h := dg_ne (dg_mul F hn hm)
  rw [← nrm_mul, e] at h
  refine h ?_
  show pol.sub (pol.mul pol.zero pol.zero) (pol.mul (qP b) (pol.mul pol.zero pol.zero)) = _
  rw [pol.mul_zero, pol.mul_zero]
  exact pol.add_neg _
theorem dom_cancel {A : Type} {C : CR A} (D : Dom C) {a s t : A} (ha : a ≠ C.zero) (e : C.mul a s = C.mul a t) : s = t := by
  apply eq_of_neg (K := C)
  by_cases h : C.add s (C.neg t) = C.zero
  · exact h
  · exact absurd (by rw [C.mul_add, C.mul_neg, e, C.add_neg]) (D.2 _ _ ha h)
def univ {A : Type} : A → Prop := fun _ => True
theorem univ_idl {A : Type} (C : CR A) : Idl C univ := ⟨fun _ _ _ _ => trivial, fun _ _ _ => trivial⟩
theorem conj_mul (f : Pol K × Pol K) : (crd K b).mul f (f.1, pol.neg f.2) = (nrm b f, pol.zero) := by
  refine Prod.ext ?_ ?_
  · exact ring_id pol (envL pol [f.1, qP b, f.2]) (.add (.mul (.v 0) (.v 0)) (.mul (.v 1) (.mul (.v 2) (.neg (.v 2))))) (.add (.mul (.v 0) (.v 0)) (.neg (.mul (.v 1) (.mul (.v 2) (.v 2))))) (by kernel_rfl)
  · exact ring_id pol (envL pol [f.1, f.2]) (.add (.mul (.v 0) (.neg (.v 1))) (.mul (.v 1) (.v 0))) .zero (by kernel_rfl)
theorem qP_split {x y : R} (h : K.mul y y = K.add (K.mul x (K.mul x x)) b) : (qP b : Pol K) = pol.add (pol.mul (pco y) (pco y)) (pol.mul (pol.sub pX (pco x)) (pol.add (pol.mul pX pX) (pol.add (pol.mul (pco x) pX) (pol.mul (pco x) (pco x))))) := by
  have e : pol.mul (pco y) (pco y) = pol.add (pol.mul (pco x) (pol.mul (pco x) (pco x))) (pco b : Pol K) := by
    rw [← pco_mul, ← pco_mul, ← pco_mul, ← pco_add, h]
  rw [e]
  exact ring_id pol (envL pol [pX, pco b, pco x]) (.add (.mul (.v 0) (.mul (.v 0) (.v 0))) (.v 1)) (.add (.add (.mul (.v 2) (.mul (.v 2) (.v 2))) (.v 1)) (.mul (.add (.v 0) (.neg (.v 2))) (.add (.mul (.v 0) (.v 0)) (.add (.mul (.v 2) (.v 0)) (.mul (.v 2) (.v 2)))))) (by kernel_rfl)
/-- no point's ideal is principal -/
theorem pt_ne (F : FD K inv) {x y : R} (h : K.mul y y = K.add (K.mul x (K.mul x x)) b) : ¬ Eqv (crd K b) (op (crd K b) cX cY (cc x) (cc y) univ) univ := by
  rintro ⟨a, e, ha, he, h1, h2⟩
  have D := crd_dom (K := K) b F
  obtain ⟨f, hf, e1⟩ := h2 (crd K b).one trivial
  rw [(crd K b).mul_one] at e1
  -- e = a f
  have hm : ∀ g, op (crd K b) cX cY (cc x) (cc y) univ g → ∃ t, g = (crd K b).mul f t := fun g hg => by
    obtain ⟨t, _, e2⟩ := h1 g hg
    rw [← e1, (crd K b).mul_assoc] at e2
    exact ⟨t, dom_cancel D ha e2⟩
  have sz : ∀ z : Pol K × Pol K, (crd K b).sub z (crd K b).zero = z := fun z => by
    show (crd K b).add z ((crd K b).neg _) = z
    rw [neg_zero, (crd K b).add_zero]
  obtain ⟨t, ht⟩ := hm ((crd K b).sub cX (cc x)) ⟨(crd K b).one, (crd K b).zero, trivial, trivial, by rw [(crd K b).mul_one, (crd K b).mul_zero, (crd K b).add_zero]⟩
  obtain ⟨t', ht'⟩ := hm ((crd K b).sub cY (cc y)) ⟨(crd K b).zero, (crd K b).one, trivial, trivial, by rw [(crd K b).mul_one, (crd K b).mul_zero, (crd K b).zero_add]⟩
  have hX : (crd K b).sub cX (cc x) = (pol.sub pX (pco x), pol.zero) := Prod.ext rfl (by show pol.add pol.zero (pol.neg pol.zero) = _; rw [neg_zero, pol.add_zero])
  have hXn : (crd K b).sub cX (cc x) ≠ (crd K b).zero := fun q => dg_ne (dg_lin (K := K) F x) (congrArg Prod.fst q)
  have hf0 : f ≠ (crd K b).zero := fun q => hXn (by rw [ht, q, (crd K b).zero_mul])
  have ht0 : t ≠ (crd K b).zero := fun q => hXn (by rw [ht, q, (crd K b).mul_zero])
  obtain ⟨n, hn, n1⟩ := nrm_dg b F f hf0
  obtain ⟨m, hm', m1⟩ := nrm_dg b F t ht0
  have hnm : n + m = 2 := by
    have e3 := dg_mul F hn hm'
    rw [← nrm_mul, ← ht, hX] at e3
    have e4 : nrm b (pol.sub pX (pco x), pol.zero) = pol.mul (pol.sub pX (pco x)) (pol.sub (pX : Pol K) (pco x)) := by
      show pol.add (pol.mul _ _) (pol.neg (pol.mul _ (pol.mul pol.zero pol.zero))) = _
      rw [pol.mul_zero, pol.mul_zero, neg_zero, pol.add_zero]
    rw [e4] at e3
    exact dg_one e3 (dg_mul F (dg_lin F x) (dg_lin F x))
  have hc : ∀ p : Pol K, dg p 0 → p = pco (p.1 0) := fun p hp => Pol.ext fun i => by
    cases i with
    | zero => rfl
    | succ i => exact hp.2 _ (by omega)
  have h02 : n = 0 ∨ m = 0 := by omega
  rcases h02 with q0 | q0
  · subst q0
    -- the norm lies in the ideal
    obtain ⟨s, r, _, _, e5⟩ := (op_idl (univ_idl (crd K b)) (cc x) (cc y)).mul f (f.1, pol.neg f.2) hf
    rw [(crd K b).mul_comm, conj_mul, hX] at e5
    have c1 : nrm b f = pol.add (pol.add (pol.mul (pol.sub pX (pco x)) s.1) (pol.mul (qP b) (pol.mul pol.zero s.2))) (pol.add (pol.mul (pol.add pol.zero (pol.neg (pco y))) r.1) (pol.mul (qP b) (pol.mul (pol.add pol.one (pol.neg pol.zero)) r.2))) := congrArg Prod.fst e5
    have c2 : pol.zero = pol.add (pol.add (pol.mul (pol.sub pX (pco x)) s.2) (pol.mul pol.zero s.1)) (pol.add (pol.mul (pol.add pol.zero (pol.neg (pco y))) r.2) (pol.mul (pol.add pol.one (pol.neg pol.zero)) r.1)) := congrArg Prod.snd e5
    have hs := qP_split b h
    refine hn.1 (lin_const F (c := x) (h := (pol.add s.1 (pol.add (pol.mul (pol.add (pol.mul pX pX) (pol.add (pol.mul (pco x) pX) (pol.mul (pco x) (pco x)))) r.2) (pol.mul (pco y) s.2)))) ?_)
    rw [← hc _ hn, c1]
    refine Eq.symm ?_
    exact comb2 (K := pol) (c1 := (pco y)) (c2 := r.2) c2 hs (ring_id pol (envL pol [pX, pco x, s.1, qP b, s.2, pco y, r.1, r.2]) (.add (.add (.add (.mul (.add (.v 0) (.neg (.v 1))) (.v 2)) (.mul (.v 3) (.mul .zero (.v 4)))) (.add (.mul (.add .zero (.neg (.v 5))) (.v 6)) (.mul (.v 3) (.mul (.add .one (.neg .zero)) (.v 7))))) (.neg (.mul (.add (.v 0) (.neg (.v 1))) (.add (.v 2) (.add (.mul (.add (.mul (.v 0) (.v 0)) (.add (.mul (.v 1) (.v 0)) (.mul (.v 1) (.v 1)))) (.v 7)) (.mul (.v 5) (.v 4))))))) (.add (.mul (.v 5) (.add .zero (.neg (.add (.add (.mul (.add (.v 0) (.neg (.v 1))) (.v 4)) (.mul .zero (.v 2))) (.add (.mul (.add .zero (.neg (.v 5))) (.v 7)) (.mul (.add .one (.neg .zero)) (.v 6))))))) (.mul (.v 7) (.add (.v 3) (.neg (.add (.mul (.v 5) (.v 5)) (.mul (.add (.v 0) (.neg (.v 1))) (.add (.mul (.v 0) (.v 0)) (.add (.mul (.v 1) (.v 0)) (.mul (.v 1) (.v 1)))))))))) (by kernel_rfl))
  · subst q0
    have e6 : (crd K b).mul ((crd K b).sub cX (cc x)) ((crd K b).mul t' (t.1, pol.neg t.2)) = (crd K b).mul ((crd K b).sub cY (cc y)) (nrm b t, pol.zero) := by
      rw [← conj_mul, ht, ht']
      generalize ((t.1, pol.neg t.2) : Pol K × Pol K) = w
      exact ring_id (crd K b) (envL (crd K b) [f, t, t', w]) (.mul (.mul (.v 0) (.v 1)) (.mul (.v 2) (.v 3))) (.mul (.mul (.v 0) (.v 2)) (.mul (.v 1) (.v 3))) (by kernel_rfl)
    rw [hX] at e6
    generalize (crd K b).mul t' (t.1, pol.neg t.2) = w at e6
    have c2 : pol.add (pol.mul (pol.sub pX (pco x)) w.2) (pol.mul pol.zero w.1) = pol.add (pol.mul (pol.add pol.zero (pol.neg (pco y))) pol.zero) (pol.mul (pol.add pol.one (pol.neg pol.zero)) (nrm b t)) := congrArg Prod.snd e6
    rw [pol.zero_mul, pol.add_zero, pol.mul_zero, pol.zero_add, neg_zero, pol.add_zero, pol.one_mul, hc _ hm'] at c2
    exact hm'.1 (lin_const F c2)
end
end Go.Proofs.YthlcjdcjnioeoaaGreat.Ex
namespace Go.Proofs.YthlcjdcjnioeoaaGreat.Ex
set_option linter.unusedVariables false
set_option linter.unusedSimpArgs false
open Classical
/-- a curve y^2 = x^3 + b over a field where 2 is not 0, no point of which is its own negative -/
structure EC {R : Type} (K : CR R) (inv : R → R) (b : R) : Prop where
  F : FD K inv
  two : K.add K.one K.one ≠ K.zero
  odd : ∀ x, K.add (K.mul x (K.mul x x)) b ≠ K.zero
section
variable {R : Type} (K : CR R) (inv : R → R) (b : R)
abbrev Pt (R : Type) := Option (R × R)
def On : Pt R → Prop
  | none => True
  | some p => K.mul p.2 p.2 = K.add (K.mul p.1 (K.mul p.1 p.1)) b
def ptN : Pt R → Pt R
  | none => none
  | some p => some (p.1, K.neg p.2)
/-- the chord's slope, or the tangent's -/
noncomputable def slope (x1 y1 x2 y2 : R) : R :=
  if x1 = x2 then K.mul (K.add (K.add (K.mul x1 x1) (K.mul x1 x1)) (K.mul x1 x1)) (inv (K.add y1 y2)) else K.mul (K.sub y2 y1) (inv (K.sub x2 x1))
def sx (l x1 x2 : R) : R := K.sub (K.sub (K.mul l l) x1) x2
def sy (l x1 y1 x2 : R) : R := K.sub (K.mul l (K.sub x1 (sx K l x1 x2))) y1
noncomputable def ptA : Pt R → Pt R → Pt R
  | none, q => q
  | some p, none => some p
  | some p, some q =>
    if p.1 = q.1 ∧ K.add p.2 q.2 = K.zero then none
    else some (sx K (slope K inv p.1 p.2 q.1 q.2) p.1 q.1, sy K (slope K inv p.1 p.2 q.1 q.2) p.1 p.2 q.1)
variable {K} {inv} {b}
theorem ptA_opp {p q : R × R} (h : p.1 = q.1 ∧ K.add p.2 q.2 = K.zero) : ptA K inv (some p) (some q) = none := if_pos h
theorem ptA_sum {p q : R × R} (h : ¬ (p.1 = q.1 ∧ K.add p.2 q.2 = K.zero)) : ptA K inv (some p) (some q) = some (sx K (slope K inv p.1 p.2 q.1 q.2) p.1 q.1, sy K (slope K inv p.1 p.2 q.1 q.2) p.1 p.2 q.1) := if_neg h
theorem sub_eq_zero {x y : R} (h : K.sub x y = K.zero) : x = y := eq_of_neg h
theorem sub_ne {x y : R} (h : x ≠ y) : K.sub x y ≠ K.zero := fun e => h (sub_eq_zero e)
theorem EC.dbl_ne (E : EC K inv b) {y : R} (h : y ≠ K.zero) : K.add y y ≠ K.zero := fun e => by
  refine E.F.mul_ne E.two h ?_
  rw [K.add_mul, K.one_mul, e]
theorem EC.y_ne (E : EC K inv b) {x y : R} (h : K.mul y y = K.add (K.mul x (K.mul x x)) b) : y ≠ K.zero := fun e => by
  rw [e, K.mul_zero] at h
  exact E.odd x h.symm
/-- what is asked of the slope -/
structure Slope (K : CR R) (x1 y1 x2 y2 l : R) : Prop where
  h1 : y2 = K.add y1 (K.mul l (K.sub x2 x1))
  h2 : K.mul l (K.add y1 y2) = K.add (K.add (K.mul x1 x1) (K.mul x1 x2)) (K.mul x2 x2)
  hk : (∃ k, K.mul k (K.add y1 y2) = K.one) ∨ (∃ k, K.mul k (K.sub x2 x1) = K.one)
theorem slope_ok (E : EC K inv b) {x1 y1 x2 y2 : R} (hp : K.mul y1 y1 = K.add (K.mul x1 (K.mul x1 x1)) b) (hq : K.mul y2 y2 = K.add (K.mul x2 (K.mul x2 x2)) b) (hn : ¬ (x1 = x2 ∧ K.add y1 y2 = K.zero)) : Slope K x1 y1 x2 y2 (slope K inv x1 y1 x2 y2) := by
  unfold slope
  by_cases hx : x1 = x2
  · subst hx
    rw [if_pos rfl]
    have hy : K.add y1 y2 ≠ K.zero := fun e => hn ⟨rfl, e⟩
    have hi := E.F.inv _ hy
    have e : y1 = y2 := by
      refine sub_eq_zero (K := K) (E.F.zd (a := K.add y1 y2) ?_ hy)
      have e0 : K.mul (K.add y1 y2) (K.sub y1 y2) = K.sub (K.mul y1 y1) (K.mul y2 y2) := ring_id K (envL K [y1, y2]) (.mul (.add (.v 0) (.v 1)) (.add (.v 0) (.neg (.v 1)))) (.add (.mul (.v 0) (.v 0)) (.neg (.mul (.v 1) (.v 1)))) (by kernel_rfl)
      rw [e0, hp, hq]
      exact K.add_neg _
    subst e
    generalize inv (K.add y1 y1) = k at hi
    refine ⟨ring_id K (envL K [y1, x1, k]) (.v 0) (.add (.v 0) (.mul (.mul (.add (.add (.mul (.v 1) (.v 1)) (.mul (.v 1) (.v 1))) (.mul (.v 1) (.v 1))) (.v 2)) (.add (.v 1) (.neg (.v 1))))) (by kernel_rfl), comb1 (K := K) (c1 := (K.add (K.add (K.mul x1 x1) (K.mul x1 x1)) (K.mul x1 x1))) hi (ring_id K (envL K [x1, k, y1]) (.add (.mul (.mul (.add (.add (.mul (.v 0) (.v 0)) (.mul (.v 0) (.v 0))) (.mul (.v 0) (.v 0))) (.v 1)) (.add (.v 2) (.v 2))) (.neg (.add (.add (.mul (.v 0) (.v 0)) (.mul (.v 0) (.v 0))) (.mul (.v 0) (.v 0))))) (.mul (.add (.add (.mul (.v 0) (.v 0)) (.mul (.v 0) (.v 0))) (.mul (.v 0) (.v 0))) (.add (.mul (.add (.v 2) (.v 2)) (.v 1)) (.neg .one))) (by kernel_rfl)), Or.inl ⟨k, by rw [K.mul_comm, hi]⟩⟩
  · rw [if_neg hx]
    have hd : K.sub x2 x1 ≠ K.zero := sub_ne fun e => hx e.symm
    have hi := E.F.inv _ hd
    generalize inv (K.sub x2 x1) = k at hi
    refine ⟨comb1 (K := K) (c1 := (K.neg (K.sub y2 y1))) hi (ring_id K (envL K [y2, y1, k, x2, x1]) (.add (.v 0) (.neg (.add (.v 1) (.mul (.mul (.add (.v 0) (.neg (.v 1))) (.v 2)) (.add (.v 3) (.neg (.v 4))))))) (.mul (.neg (.add (.v 0) (.neg (.v 1)))) (.add (.mul (.add (.v 3) (.neg (.v 4))) (.v 2)) (.neg .one))) (by kernel_rfl)), ?_, Or.inr ⟨k, by rw [K.mul_comm, hi]⟩⟩
    refine E.F.cancel hd ?_
    exact comb3 (K := K) (c1 := (K.mul (K.sub y2 y1) (K.add y1 y2))) (c2 := (K.neg K.one)) (c3 := K.one) hi hp hq (ring_id K (envL K [x2, x1, y2, y1, k, b]) (.add (.mul (.add (.v 0) (.neg (.v 1))) (.mul (.mul (.add (.v 2) (.neg (.v 3))) (.v 4)) (.add (.v 3) (.v 2)))) (.neg (.mul (.add (.v 0) (.neg (.v 1))) (.add (.add (.mul (.v 1) (.v 1)) (.mul (.v 1) (.v 0))) (.mul (.v 0) (.v 0)))))) (.add (.add (.mul (.mul (.add (.v 2) (.neg (.v 3))) (.add (.v 3) (.v 2))) (.add (.mul (.add (.v 0) (.neg (.v 1))) (.v 4)) (.neg .one))) (.mul (.neg .one) (.add (.mul (.v 3) (.v 3)) (.neg (.add (.mul (.v 1) (.mul (.v 1) (.v 1))) (.v 5)))))) (.mul .one (.add (.mul (.v 2) (.v 2)) (.neg (.add (.mul (.v 0) (.mul (.v 0) (.v 0))) (.v 5)))))) (by kernel_rfl))
theorem On.sum {x1 y1 x2 y2 l : R} (hp : K.mul y1 y1 = K.add (K.mul x1 (K.mul x1 x1)) b) (h : Slope K x1 y1 x2 y2 l) : On K b (some (sx K l x1 x2, sy K l x1 y1 x2)) := by
  obtain ⟨h1, h2, _⟩ := h
  subst h1
  show K.mul (K.sub (K.mul l (K.sub x1 (K.sub (K.sub (K.mul l l) x1) x2))) y1) (K.sub (K.mul l (K.sub x1 (K.sub (K.sub (K.mul l l) x1) x2))) y1) = K.add (K.mul (K.sub (K.sub (K.mul l l) x1) x2) (K.mul (K.sub (K.sub (K.mul l l) x1) x2) (K.sub (K.sub (K.mul l l) x1) x2))) b
  exact comb2 (K := K) (c1 := K.one) (c2 := (K.sub (K.sub (K.sub (K.mul l l) x1) x2) x1)) hp h2 (ring_id K (envL K [l, x1, x2, y1, b]) (.add (.mul (.add (.mul (.v 0) (.add (.v 1) (.neg (.add (.add (.mul (.v 0) (.v 0)) (.neg (.v 1))) (.neg (.v 2)))))) (.neg (.v 3))) (.add (.mul (.v 0) (.add (.v 1) (.neg (.add (.add (.mul (.v 0) (.v 0)) (.neg (.v 1))) (.neg (.v 2)))))) (.neg (.v 3)))) (.neg (.add (.mul (.add (.add (.mul (.v 0) (.v 0)) (.neg (.v 1))) (.neg (.v 2))) (.mul (.add (.add (.mul (.v 0) (.v 0)) (.neg (.v 1))) (.neg (.v 2))) (.add (.add (.mul (.v 0) (.v 0)) (.neg (.v 1))) (.neg (.v 2))))) (.v 4)))) (.add (.mul .one (.add (.mul (.v 3) (.v 3)) (.neg (.add (.mul (.v 1) (.mul (.v 1) (.v 1))) (.v 4))))) (.mul (.add (.add (.add (.mul (.v 0) (.v 0)) (.neg (.v 1))) (.neg (.v 2))) (.neg (.v 1))) (.add (.mul (.v 0) (.add (.v 3) (.add (.v 3) (.mul (.v 0) (.add (.v 2) (.neg (.v 1))))))) (.neg (.add (.add (.mul (.v 1) (.v 1)) (.mul (.v 1) (.v 2))) (.mul (.v 2) (.v 2))))))) (by kernel_rfl))
theorem On.neg : ∀ {p : Pt R}, On K b p → On K b (ptN K p)
  | none, _ => trivial
  | some p, h => by
    show K.mul (K.neg p.2) (K.neg p.2) = _
    rw [K.neg_mul, K.mul_neg, K.neg_neg]
    exact h
theorem On.add (E : EC K inv b) : ∀ {p q : Pt R}, On K b p → On K b q → On K b (ptA K inv p q)
  | none, _, _, h => h
  | some _, none, h, _ => h
  | some p, some q, hp, hq => by
    by_cases hn : p.1 = q.1 ∧ K.add p.2 q.2 = K.zero
    · rw [ptA_opp hn]; trivial
    · rw [ptA_sum hn]
      exact On.sum hp (slope_ok E hp hq hn)
/-- a point's class -/
def opP (K : CR R) (b : R) (p : Pt R) (S : Pol K × Pol K → Prop) : Pol K × Pol K → Prop :=
  match p with
  | none => S
  | some p => op (crd K b) cX cY (cc p.1) (cc p.2) S
theorem opP_swap (p q : Pt R) (S : Pol K × Pol K → Prop) : opP K b p (opP K b q S) = opP K b q (opP K b p S) := by
  cases p with
  | none => rfl
  | some p => cases q with
    | none => rfl
    | some q => exact op_swap _ _ _ _
theorem opP_idl {S : Pol K × Pol K → Prop} (h : Idl (crd K b) S) (p : Pt R) : Idl (crd K b) (opP K b p S) := by
  cases p with
  | none => exact h
  | some p => exact op_idl h _ _
theorem opP_eqv {S T : Pol K × Pol K → Prop} (h : Eqv (crd K b) S T) (p : Pt R) : Eqv (crd K b) (opP K b p S) (opP K b p T) := by
  cases p with
  | none => exact h
  | some p => exact h.op _ _
theorem X_ne (F : FD K inv) (c : R) : (crd K b).sub cX (cc c) ≠ (crd K b).zero := fun q => dg_ne (dg_lin (K := K) F c) (congrArg Prod.fst q)
theorem ell_ne (F : FD K inv) (x1 y1 l : R) : (crd K b).sub ((crd K b).sub cY (cc y1)) ((crd K b).mul (cc l) ((crd K b).sub cX (cc x1))) ≠ (crd K b).zero := fun q => by
  have e : K.add (K.add K.one (K.neg K.zero)) (K.neg (K.add (K.mul l (K.add K.zero (K.neg K.zero))) (K.mul K.zero (K.add K.zero (K.neg x1))))) = K.zero := congrArg (fun z : Pol K × Pol K => z.2.1 0) q
  rw [neg_zero, K.add_zero, K.add_zero, K.mul_zero, K.zero_mul, K.add_zero, neg_zero, K.add_zero] at e
  exact F.ne e
/-- the class of a sum is the product of the classes -/
theorem opP_sum (E : EC K inv b) {S : Pol K × Pol K → Prop} (hS : Idl (crd K b) S) : ∀ {p q : Pt R}, On K b p → On K b q → Eqv (crd K b) (opP K b p (opP K b q S)) (opP K b (ptA K inv p q) S)
  | none, _, _, _ => Eqv.refl (crd_dom b E.F) _
  | some _, none, _, _ => Eqv.refl (crd_dom b E.F) _
  | some ⟨x1, y1⟩, some ⟨x2, y2⟩, hp, hq => by
    by_cases hn : x1 = x2 ∧ K.add y1 y2 = K.zero
    · rw [ptA_opp hn]
      obtain ⟨rfl, hy⟩ := hn
      have e : y2 = K.neg y1 := by
        apply K.add_cancel (a := y1)
        rw [hy, K.add_neg]
      subst e
      show Eqv (crd K b) (op (crd K b) cX cY (cc x1) (cc y1) (op (crd K b) cX cY (cc x1) (cc (K.neg y1)) S)) S
      have h0 := E.F.inv _ (E.dbl_ne (E.y_ne hp))
      rw [cc_neg b]
      refine op_neg (b := cc b) (k := cc (inv (K.add y1 y1))) (c_eq b) ?_ ?_ (crd_dom b E.F) (X_ne E.F x1) hS
      · rw [← cc_mul, ← cc_mul, ← cc_mul, ← cc_add]
        exact congrArg cc hp
      · rw [← cc_add, ← cc_mul, K.mul_comm, h0]
        rfl
    · rw [ptA_sum hn]
      have h := slope_ok E hp hq hn
      dsimp only at h ⊢
      generalize slope K inv x1 y1 x2 y2 = l at h
      obtain ⟨h1, h2, hk⟩ := h
      subst h1
      show Eqv (crd K b) (op (crd K b) cX cY (cc x1) (cc y1) (op (crd K b) cX cY (cc x2) (cc (K.add y1 (K.mul l (K.sub x2 x1)))) S)) (op (crd K b) cX cY (cc (sx K l x1 x2)) (cc (sy K l x1 y1 x2)) S)
      unfold sy sx
      have hX := X_ne (K := K) (b := b) E.F (sx K l x1 x2)
      have hl := ell_ne (K := K) (b := b) E.F x1 y1 l
      unfold sx at hX
      simp only [cc_add b, cc_mul b, cc_sub b] at hX ⊢
      refine op_sum (b := cc b) (c_eq b) ?_ ?_ ?_ hX hl hS
      · have := congrArg (cc (K := K)) h2
        simpa only [cc_add b, cc_mul b, cc_sub b] using this
      · have := congrArg (cc (K := K)) hp
        simpa only [cc_add b, cc_mul b, cc_sub b] using this
      · rcases hk with ⟨k, hk⟩ | ⟨k, hk⟩
        · refine Or.inl ⟨cc k, ?_⟩
          have := congrArg (cc (K := K)) hk
          simpa only [cc_add b, cc_mul b, cc_sub b, cc_one b] using this
        · refine Or.inr ⟨cc k, ?_⟩
          have := congrArg (cc (K := K)) hk
          simpa only [cc_add b, cc_mul b, cc_sub b, cc_one b] using this
theorem ptN_neg (p : Pt R) : ptN K (ptN K p) = p := by
  cases p with
  | none => rfl
  | some p => show some (p.1, K.neg (K.neg p.2)) = _; rw [K.neg_neg]
theorem ptA_neg (p : Pt R) : ptA K inv (ptN K p) p = none := by
  cases p with
  | none => rfl
  | some p => exact if_pos ⟨rfl, K.neg_add _⟩
theorem ptA_none {p q : Pt R} (h : ptA K inv (ptN K p) q = none) : q = p := by
  cases p with
  | none => exact h
  | some p => cases q with
    | none => cases h
    | some q =>
      by_cases hh : p.1 = q.1 ∧ K.add (K.neg p.2) q.2 = K.zero
      · obtain ⟨h1, h2⟩ := hh
        refine congrArg some (Prod.ext h1.symm ?_)
        apply K.add_cancel (a := K.neg p.2)
        exact h2.trans (K.neg_add p.2).symm
      · have e : ptA K inv (ptN K (some p)) (some q) = some _ := ptA_sum (p := (p.1, K.neg p.2)) (q := q) hh
        rw [e] at h
        cases h
theorem opP_ne (E : EC K inv b) {p : Pt R} (hp : On K b p) (h : Eqv (crd K b) (opP K b p univ) univ) : p = none := by
  cases p with
  | none => rfl
  | some p => exact absurd h (pt_ne b E.F hp)
/-- points of one class are one -/
theorem opP_inj (E : EC K inv b) {p q : Pt R} (hp : On K b p) (hq : On K b q) (h : Eqv (crd K b) (opP K b p univ) (opP K b q univ)) : p = q := by
  have D := crd_dom (K := K) b E.F
  have h1 := opP_eqv h (ptN K q)
  have a1 := opP_sum E (univ_idl (crd K b)) hq.neg hp
  have a2 := opP_sum E (univ_idl (crd K b)) hq.neg hq
  rw [ptA_neg] at a2
  exact ptA_none (opP_ne E (hq.neg.add E hp) (a1.symm.trans D (h1.trans D a2)))
theorem ptA_comm (E : EC K inv b) {p q : Pt R} (hp : On K b p) (hq : On K b q) : ptA K inv p q = ptA K inv q p := by
  have D := crd_dom (K := K) b E.F
  refine opP_inj E (hp.add E hq) (hq.add E hp) ?_
  refine (opP_sum E (univ_idl (crd K b)) hp hq).symm.trans D ?_
  rw [opP_swap]
  exact opP_sum E (univ_idl (crd K b)) hq hp
theorem ptA_assoc (E : EC K inv b) {p q r : Pt R} (hp : On K b p) (hq : On K b q) (hr : On K b r) : ptA K inv (ptA K inv p q) r = ptA K inv p (ptA K inv q r) := by
  have D := crd_dom (K := K) b E.F
  have hu := univ_idl (crd K b)
  refine opP_inj E ((hp.add E hq).add E hr) (hp.add E (hq.add E hr)) ?_
  refine (opP_sum E hu (hp.add E hq) hr).symm.trans D ?_
  refine (opP_sum E (opP_idl hu r) hp hq).symm.trans D ?_
  refine (opP_eqv (opP_sum E hu hq hr) p).trans D ?_
  exact opP_sum E hu hp (hq.add E hr)
end
/-- a commutative group -/
structure AG (G : Type) where
  add : G → G → G
  neg : G → G
  zero : G
  assoc : ∀ a b c, add (add a b) c = add a (add b c)
  comm : ∀ a b, add a b = add b a
  zadd : ∀ a, add zero a = a
  nadd : ∀ a, add (neg a) a = zero
/-- a curve's points -/
noncomputable def EC.grp {R : Type} {K : CR R} {inv : R → R} {b : R} (E : EC K inv b) : AG {p : Pt R // On K b p} where
  add p q := ⟨ptA K inv p.1 q.1, p.2.add E q.2⟩
  neg p := ⟨ptN K p.1, p.2.neg⟩
  zero := ⟨none, trivial⟩
  assoc p q r := Subtype.ext (ptA_assoc E p.2 q.2 r.2)
  comm p q := Subtype.ext (ptA_comm E p.2 q.2)
  zadd p := rfl
  nadd p := Subtype.ext (ptA_neg p.1)
end Go.Proofs.YthlcjdcjnioeoaaGreat.Ex
