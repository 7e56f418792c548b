/-
  The reckoner: loops of unknown length, a round at a time; code taken apart. Of whatever program. Conditions: the table of calls is right.
  Flat values of words held against each other, of whatever type of arrays and structs of words. Of whatever program. Conditions: none.
  The reckoner: what lies in memory from before; answers that are slices of a call's own. Of whatever program. Conditions: the tables of calls are right.
-/
import Derived.Laws.StructEq
import Derived.Test.YtebaoemoeckgaaaPr07
namespace Go.Proofs.Ytebaoemoeckgaaa.Ex
set_option linter.unusedVariables false
set_option linter.unusedSimpArgs false
open Go.RowKit

/-- fewer facts hold too -/
theorem Holds.sub {nt base : Nat} {w0 : World} {A A' : List Fact} {a : Act} {w : World} (h : Holds nt base w0 A a w) (hs : ∀ φ ∈ A', φ ∈ A) : Holds nt base w0 A' a w := by
  obtain ⟨β, h1, h2⟩ := h.facts
  exact ⟨h.defers, h.size, h.below, h.heap, β, fun φ hφ => h1 φ (hs φ hφ), fun k k' l l' hk hk' => h2 k k' l l' (hs _ hk) (hs _ hk')⟩
/-- the facts of A at the places that K names -/
def pick (A : List Fact) : List Fact → Option (List Fact)
  | [] => some []
  | .slot s _ :: r => match look A s, pick A r with | some v, some l => some (.slot s v :: l) | _, _ => none
  | .row k _ _ :: r => match rowOf A k, pick A r with | some (o, l), some m => some (.row k o l :: m) | _, _ => none
  | .at k _ :: r => match atOf A k, pick A r with | some b, some m => some (.at k b :: m) | _, _ => none
  | .app k _ _ _ :: r => match appOf A k, pick A r with | some (e, sz, n), some m => some (.app k e sz n :: m) | _, _ => none
theorem pick_mem {A : List Fact} : ∀ {K L : List Fact}, pick A K = some L → ∀ φ ∈ L, φ ∈ A
  | [], L, h, φ, hφ => by cases h; cases hφ
  | .slot s v :: r, L, h, φ, hφ => by
    unfold pick at h
    split at h
    · rename_i u l h1 h2
      cases h
      rcases List.mem_cons.1 hφ with rfl | hφ
      · exact look_mem h1
      · exact pick_mem h2 φ hφ
    · cases h
  | .row k o m :: r, L, h, φ, hφ => by
    unfold pick at h
    split at h
    · rename_i o' l' m' h1 h2
      cases h
      rcases List.mem_cons.1 hφ with rfl | hφ
      · exact rowOf_mem h1
      · exact pick_mem h2 φ hφ
    · cases h
  | .at k b :: r, L, h, φ, hφ => by
    unfold pick at h
    split at h
    · rename_i b' m' h1 h2
      cases h
      rcases List.mem_cons.1 hφ with rfl | hφ
      · exact atOf_mem h1
      · exact pick_mem h2 φ hφ
    · cases h
  | .app k e' sz' n' :: r, L, h, φ, hφ => by
    unfold pick at h
    split at h
    · rename_i e sz n m' h1 h2
      cases h
      rcases List.mem_cons.1 hφ with rfl | hφ
      · exact appOf_mem h1
      · exact pick_mem h2 φ hφ
    · cases h
/-- code, and the facts at the places that K names -/
def runK (P : Program) (q : EqT) (nt : Nat) (C : Nat → Cfg) (n : Nat) (c : Code) (A K : List Fact) : Option (List Prop × EA × List Fact) :=
  match run P q nt C n c A with
  | some (ps, e, A1) => match pick A1 K with | some L => some (ps, e, L) | none => none
  | none => none
section
variable {P : Program} {q : EqT} {nt base : Nat} {w0 : World} {Q : Exit → Act → World → Prop}
theorem runKW_sound (hm : P.follows .mixedOrders = true) {C : Nat → Cfg} (hT : ∀ n d, TabOkW P ((C n).T d) base w0) (hq : EqOkW P q base w0) {n : Nat} {c : Code} {A K L : List Fact} {ps : List Prop} {e : EA} {a : Act} {w : World}
    (h : runK P q nt C n c A K = some (ps, e, L)) (hps : allP ps) (hA : Holds nt base w0 A a w) (hQ : ∀ a w, Holds nt base w0 L a w → Q e.out a w) : c.wp P Q a w := by
  unfold runK at h
  split at h
  · rename_i ps' e' A1 h1
    split at h
    · rename_i L' h2
      cases h
      exact (run_sound hm hT hq n c A A1 ps e a w Q h1 hps hA fun a w hA1 => hQ a w (hA1.sub (pick_mem h2))).1
    · cases h
  · cases h
/-- a function taken apart: its body's facts at the start; what it answers -/
theorem fn_enter {f : FuncId} {fn : Func} (hf : P.funcs[f]? = some fn) {c : Code} (hb : fn.body = some c) {cs : List CA} {args : List Value} {w : World} (ha : CAs w cs args) (hn : cs.length ≤ fn.ntmps) {R : Ending → World → Prop}
    (h : ∀ a w', Holds fn.ntmps w.heap.size w (argF 0 cs) a w' → c.wp P (bodyPost P fn R) a w') : Calls P f args.toArray w R := by
  have hlen : ∀ (cs : List CA) (vs : List Value), CAs w cs vs → cs.length = vs.length := fun cs => by
    induction cs with
    | nil => intro vs h; cases vs with | nil => rfl | cons _ _ => exact h.elim
    | cons c cs ih => intro vs h; cases vs with | nil => cases c <;> exact h.elim | cons v vs => cases c <;> exact congrArg (· + 1) (ih vs h.2)
  have hle' : args.length ≤ fn.ntmps := by rw [← hlen cs args ha]; exact hn
  refine calls_of_wp hf hb (h _ _ ?_)
  obtain ⟨β, hβ⟩ := argF_ok { tmps := args.toArray ++ Array.replicate (fn.ntmps - args.toArray.size) undef, defers := [] } w cs args 0 ha (fun j v hj => by
    have hlt : j < args.length := (List.getElem?_eq_some_iff.1 hj).1
    simp only [Nat.zero_add]
    rw [Array.getElem?_append_left (by simpa using hlt)]
    simpa using hj)
  exact ⟨rfl, by simp; omega, Below.refl _ _, Nat.le_refl _, β, hβ, fun k k' l l' hk => by
    have : ∀ (cs : List CA) (i : Nat) (k : Nat) (l : List At), Fact.row k true l ∈ argF i cs → False := fun cs => by
      induction cs with
      | nil => intro i k l h; cases h
      | cons c cs ih =>
        intro i k l h
        cases c with
        | v x => rcases List.mem_cons.1 h with h | h; · cases h
                 · exact ih _ _ _ h
        | s l1 n1 m1 =>
          rcases List.mem_cons.1 h with h | h
          · cases h
          · rcases List.mem_cons.1 h with h | h
            · cases h
            · exact ih _ _ _ h
        | so l1 n1 =>
          rcases List.mem_cons.1 h with h | h
          · cases h
          · rcases List.mem_cons.1 h with h | h
            · cases h
            · exact ih _ _ _ h
    exact (this cs 0 k l hk).elim⟩
theorem fn_leave {fn : Func} {A : List Fact} {l : List TV} {r : RV} {w : World} (h1 : resTs P A fn.results.toList = some l) (h2 : rv l = some r) {a : Act} {w' : World} (hA : Holds nt w.heap.size w A a w') : bodyPost P fn (fun e w' => e = .returned r.den ∧ Below w.heap.size w w') .ret a w' := by
  obtain ⟨β', hok, _⟩ := hA.facts
  have hres : (results fn a.tmps).run P w' = .ok r.den w' := by
    have := resTs_spec hok h1
    show ((fn.results.mapM (resF a.tmps)) >>= fun vs => pure (if h : vs.size = 1 then vs[0] else .tuple vs) : Sem Value).run P w' = _
    have hm : (List.toArray <$> fn.results.toList.mapM (resF a.tmps)).run P w' = .ok (l.map TV.den).toArray w' := by simp [this]
    rw [Array.mapM_eq_mapM_toList, Sem.run_bind, hm, Result.andThen_ok, Sem.run_pure]
    exact congrArg (fun x => Result.ok x w') (rv_spec h2)
  exact ⟨hA.defers, _, hres, rfl, hA.below⟩
end
/-- a sequence's parts, a block's, a loop's -/
def cA : Code → Code
  | .seq a _ => a
  | c => c
def cB : Code → Code
  | .seq _ b => b
  | c => c
def cIn : Code → Code
  | .block _ c => c
  | .loop c => c
  | c => c
end Go.Proofs.Ytebaoemoeckgaaa.Ex
namespace Go.Proofs.Ytebaoemoeckgaaa.Ex
set_option linter.unusedVariables false
set_option linter.unusedSimpArgs false
open Go.RowKit

def aggT (P : Program) (t : Nat) : Bool := match P.underlying t with
  | some (.struct _) => true
  | some (.array _ _) => true
  | _ => false
def pvl : Bool → List Value → Value
  | true, xs => .agg xs.toArray
  | false, x :: _ => x
  | false, [] => undef
def is1 (P : Program) (t k : Nat) : Bool := match sizeT P t with | some m => Nat.beq m k | none => false
def cmpFs (P : Program) (g : Nat → Option Nat) : Nat → List Field → Option Nat
  | o, [] => some o
  | o, f :: r => match g f.type with
    | some k => bif (f.name != "_") && (Nat.beq f.offset o && is1 P f.type k) then cmpFs P g (o + k) r else none
    | none => none
/-- what a cell is: a word (false), a bool (true) -/
def kOf : Value → Option Bool
  | .int .u64 _ => some false
  | .bool _ => some true
  | _ => none
def kEq : List (Option Bool) → Option Bool → Bool
  | [some a], some b => a == b
  | _, _ => false
/-- so many words, if the type is one of words, bools, arrays, structs -/
def cmpN (P : Program) : Nat → Nat → Option Nat
  | 0, _ => none
  | d + 1, t => match P.underlying t with
    | some (.int .u64) => bif is1 P t 1 then some 1 else none
    | some .bool => bif is1 P t 1 then some 1 else none
    | some (.array n e) => match cmpN P d e with
      | some k => bif is1 P e k && is1 P t (n * k) then some (n * k) else none
      | none => none
    | some (.struct fs) => match cmpFs P (cmpN P d) 0 fs.toList with
      | some m => bif is1 P t m && !(P.stoodInHeld t) then some m else none
      | none => none
    | _ => none
def allN (f : Nat → Bool) : Nat → Bool
  | 0 => true
  | n + 1 => f n && allN f n
theorem allN_spec {f : Nat → Bool} : ∀ {n : Nat}, allN f n = true → ∀ i, i < n → f i = true
  | 0, _, i, hi => by omega
  | n + 1, h, i, hi => by
    unfold allN at h
    rw [Bool.and_eq_true] at h
    by_cases e : i = n
    · rw [e]; exact h.1
    · exact allN_spec h.2 i (by omega)
def fitFs (P : Program) (g : Nat → Option Nat) (h : Nat → List (Option Bool) → Bool) (ks : List (Option Bool)) : Nat → List Field → Bool
  | _, [] => true
  | o, f :: r => match g f.type with
    | some k => h f.type ((ks.drop o).take k) && fitFs P g h ks (o + k) r
    | none => false
/-- do cells of these kinds fit the type? -/
def fitK (P : Program) : Nat → Nat → List (Option Bool) → Bool
  | 0, _, _ => false
  | d + 1, t, ks => match P.underlying t with
    | some (.int .u64) => kEq ks (some false)
    | some .bool => kEq ks (some true)
    | some (.array n e) => match cmpN P d e with
      | some k => allN (fun i => fitK P d e ((ks.drop (i * k)).take k)) n
      | none => false
    | some (.struct fs) => fitFs P (cmpN P d) (fitK P d) ks 0 fs.toList
    | _ => false
def kA : At → List (Option Bool)
  | .c v => [kOf v]
  | _ => [some false, some false, some false, some false]
def kAs : List At → List (Option Bool)
  | [] => []
  | a :: r => kA a ++ kAs r
theorem kAs_spec : ∀ l : List At, (flat l).map kOf = kAs l
  | [] => rfl
  | a :: r => by
    show (a.cells ++ flat r).map kOf = kA a ++ kAs r
    rw [List.map_append, kAs_spec r]
    cases a <;> rfl
theorem is1_spec {P : Program} {t k : Nat} (h : is1 P t k = true) : sizeT P t = some k := by
  unfold is1 at h
  split at h
  · rename_i m hm; rw [hm, Nat.eq_of_beq_eq_true h]
  · cases h
theorem part_any {P : Program} {t n : Nat} (hs : sizeT P t = some n) (ht : (P.underlying t).isSome = true) (hn : aggT P t = false → n = 1) (cs : List Value) (off : Nat) (hl : off + n ≤ cs.length) (w : World) :
    (part t cs.toArray off).run P w = .ok (pvl (aggT P t) ((cs.drop off).take n)) w := by
  obtain ⟨ds, hu⟩ := Option.isSome_iff_exists.1 ht
  have hagg : (isAgg t).run P w = .ok (aggT P t) w := by
    unfold isAgg aggT
    rw [Sem.run_bind, run_underlying hu w, hu]
    cases ds <;> simp_all
  cases ha : aggT P t
  · have h1 := hn ha
    subst h1
    rw [ha] at hagg
    have hc : cs.toArray[off]? = some cs[off] := by simp
    have hd : (cs.drop off).take 1 = [cs[off]] := by
      rw [List.drop_eq_getElem_cons (by omega)]
      rfl
    unfold part
    rw [Sem.run_bind, hagg]
    simp only [Result.andThen_ok, Bool.false_eq_true, if_false]
    rw [hc, hd]
    rfl
  · rw [ha] at hagg
    simp [part, hagg, run_sizeOf hs, List.extract_eq_take_drop, pvl]
def eqElems (d e n : Nat) (xs ys : Array Value) : Nat → Nat → Sem Bool
  | _, 0 => pure true
  | i, c + 1 => do
    let a ← part e xs (i * n)
    let b ← part e ys (i * n)
    let r ← Op.equalIn d e a b
    if (!r) = true then pure false else eqElems d e n xs ys (i + 1) c
theorem run_equalIn_array {P : Program} (w : World) (d t len e n : Nat) (xs ys : Array Value) (ht : P.underlying t = some (.array len e)) (hs : sizeT P e = some n) :
    (Op.equalIn (d + 1) t (.agg xs) (.agg ys)).run P w = (eqElems d e n xs ys 0 len).run P w := by
  simp only [Op.equalIn, Sem.run_bind, run_underlying ht, Result.andThen_ok, run_sizeOf hs]
  rw [Std.Legacy.Range.forIn_eq_forIn_range']
  simp only [Std.Legacy.Range.size, Nat.sub_zero, Nat.add_sub_cancel, Nat.div_one]
  clear ht
  generalize (0 : Nat) = i
  induction len generalizing i w with
  | zero => simp [eqElems]
  | succ len ih =>
    simp only [List.range'_succ, List.forIn_cons, eqElems, Sem.run_bind, Sem.run_ite]
    generalize (part e xs (i * n)).run P w = r1
    cases r1 with
    | ok a w1 =>
      simp only [Result.andThen_ok]
      generalize (part e ys (i * n)).run P w1 = r2
      cases r2 with
      | ok b w2 =>
        simp only [Result.andThen_ok]
        generalize (Op.equalIn d e a b).run P w2 = r3
        cases r3 with
        | ok r w3 =>
          cases r
          · simp only [Result.andThen_ok, Bool.not_false, if_true, Sem.run_pure]
          · simp only [Result.andThen_ok, Bool.not_true, Bool.false_eq_true, if_false, Sem.run_pure]
            exact ih w3 (i + 1)
        | halt x w3 => simp [Result.andThen]
      | halt x w2 => simp [Result.andThen]
    | halt x w1 => simp [Result.andThen]
theorem cmpN_pos : ∀ {P : Program} {d t n : Nat}, cmpN P d t = some n → sizeT P t = some n ∧ (P.underlying t).isSome = true ∧ (aggT P t = false → n = 1)
  | P, 0, t, n, h => by cases h
  | P, d + 1, t, n, h => by
    unfold cmpN at h
    unfold aggT
    split at h
    · rename_i hu
      cases hb : is1 P t 1 <;> rw [hb] at h
      · cases h
      · cases h
        exact ⟨is1_spec hb, by rw [hu]; rfl, fun _ => rfl⟩
    · rename_i hu
      cases hb : is1 P t 1 <;> rw [hb] at h
      · cases h
      · cases h
        exact ⟨is1_spec hb, by rw [hu]; rfl, fun _ => rfl⟩
    · rename_i len e hu
      split at h
      · rename_i k hk
        cases hb : (is1 P e k && is1 P t (len * k)) <;> rw [hb] at h
        · cases h
        · cases h
          rw [Bool.and_eq_true] at hb
          exact ⟨is1_spec hb.2, by rw [hu]; rfl, fun h => by rw [hu] at h; cases h⟩
      · cases h
    · rename_i fs hu
      split at h
      · rename_i m hm
        cases hb : (is1 P t m && !(P.stoodInHeld t)) <;> rw [hb] at h
        · cases h
        · cases h
          rw [Bool.and_eq_true] at hb
          exact ⟨is1_spec hb.1, by rw [hu]; rfl, fun h => by rw [hu] at h; cases h⟩
      · cases h
    · cases h
theorem take_drop_eq {α : Type} {xs ys : List α} {o k : Nat} : (xs.drop o = ys.drop o) ↔ ((xs.drop o).take k = (ys.drop o).take k ∧ xs.drop (o + k) = ys.drop (o + k)) := by
  constructor
  · intro h
    refine ⟨by rw [h], ?_⟩
    rw [← List.drop_drop, ← List.drop_drop, h]
  · rintro ⟨h1, h2⟩
    rw [← List.take_append_drop k (xs.drop o), ← List.take_append_drop k (ys.drop o), h1, List.drop_drop, List.drop_drop, h2]
theorem kinds_sub (xs : List Value) (o k : Nat) : ((xs.drop o).take k).map kOf = ((xs.map kOf).drop o).take k := by rw [List.map_take, List.map_drop]
theorem kEq_word {x : Value} (h : kEq [kOf x] (some false) = true) : ∃ n : Int, x = .int .u64 n := by
  cases x with
  | int k n => cases k <;> first | exact ⟨n, rfl⟩ | cases h
  | bool b => cases h
  | _ => cases h
theorem kEq_bool {x : Value} (h : kEq [kOf x] (some true) = true) : ∃ b : Bool, x = .bool b := by
  cases x with
  | int k n => cases k <;> cases h
  | bool b => exact ⟨b, rfl⟩
  | _ => cases h
open Classical in
/-- equal just if the words are -/
theorem cmp_run {P : Program} : ∀ {d t n : Nat}, cmpN P d t = some n → ∀ (D : Nat), d ≤ D → ∀ (xs ys : List Value) (w : World), xs.length = n → ys.length = n → fitK P d t (xs.map kOf) = true → fitK P d t (ys.map kOf) = true →
    (Op.equalIn D t (pvl (aggT P t) xs) (pvl (aggT P t) ys)).run P w = .ok (decide (xs = ys)) w
  | 0, t, n, h => by cases h
  | d + 1, t, n, h => by
    intro D hD xs ys w hx hy wx wy
    match D, hD with
    | D + 1, hD =>
    have hd : d ≤ D := by omega
    unfold cmpN at h
    unfold fitK at wx wy
    split at h
    · rename_i hu
      rw [hu] at wx wy
      cases hb : is1 P t 1 <;> rw [hb] at h
      · cases h
      · cases h
        have ha : aggT P t = false := by unfold aggT; rw [hu]
        rw [ha]
        match xs, ys, hx, hy with
        | [x], [y], _, _ =>
          obtain ⟨a, rfl⟩ := kEq_word wx
          obtain ⟨b, rfl⟩ := kEq_word wy
          refine (run_equalIn_int w D t .u64 .u64 a b hu).trans ?_
          congr 1
          by_cases e : a = b <;> simp [e]
    · rename_i hu
      rw [hu] at wx wy
      cases hb : is1 P t 1 <;> rw [hb] at h
      · cases h
      · cases h
        have ha : aggT P t = false := by unfold aggT; rw [hu]
        rw [ha]
        match xs, ys, hx, hy with
        | [x], [y], _, _ =>
          obtain ⟨a, rfl⟩ := kEq_bool wx
          obtain ⟨b, rfl⟩ := kEq_bool wy
          refine (run_equalIn_bool w D t a b hu).trans ?_
          congr 1
          by_cases e : a = b <;> simp [e]
    · rename_i len e hu
      split at h
      · rename_i k hk
        cases hb : (is1 P e k && is1 P t (len * k)) <;> rw [hb] at h
        · cases h
        · cases h
          rw [Bool.and_eq_true] at hb
          have ha : aggT P t = true := by unfold aggT; rw [hu]
          rw [ha]
          refine (run_equalIn_array w D t len e k _ _ hu (is1_spec hb.1)).trans ?_
          obtain ⟨p1, p2, p3⟩ := cmpN_pos hk
          rw [hu] at wx wy
          simp only [hk] at wx wy
          have key : ∀ (c i : Nat) (w : World), i + c = len → (eqElems D e k xs.toArray ys.toArray i c).run P w = .ok (decide (xs.drop (i * k) = ys.drop (i * k))) w := by
            intro c
            induction c with
            | zero =>
              intro i w hi
              have hi' : i = len := by omega
              subst hi'
              have h1 : xs.length ≤ i * k := by omega
              have h2 : ys.length ≤ i * k := by omega
              simp [eqElems, List.drop_of_length_le h1, List.drop_of_length_le h2]
            | succ c ih =>
              intro i w hi
              have hle : i * k + k ≤ len * k := by
                have := Nat.mul_le_mul_right k (show i + 1 ≤ len by omega)
                rw [Nat.add_mul, Nat.one_mul] at this
                exact this
              unfold eqElems
              simp only [Sem.run_bind, part_any p1 p2 p3 xs (i * k) (by omega), part_any p1 p2 p3 ys (i * k) (by omega), Result.andThen_ok]
              rw [cmp_run hk D hd ((xs.drop (i * k)).take k) ((ys.drop (i * k)).take k) w (by simp; omega) (by simp; omega) (by rw [kinds_sub]; exact allN_spec wx i (by omega)) (by rw [kinds_sub]; exact allN_spec wy i (by omega))]
              simp only [Result.andThen_ok]
              have hs := take_drop_eq (xs := xs) (ys := ys) (o := i * k) (k := k)
              rw [show i * k + k = (i + 1) * k by rw [Nat.add_mul, Nat.one_mul]] at hs
              by_cases q : (xs.drop (i * k)).take k = (ys.drop (i * k)).take k
              · rw [decide_eq_true q]
                simp only [Bool.not_true, Bool.false_eq_true, if_false]
                rw [ih (i + 1) w (by omega)]
                congr 1
                rw [decide_eq_decide]
                exact ⟨fun h => hs.2 ⟨q, h⟩, fun h => (hs.1 h).2⟩
              · rw [decide_eq_false q, decide_eq_false (fun h => q (hs.1 h).1)]
                simp
          have := key len 0 w (by omega)
          rw [Nat.zero_mul, List.drop_zero, List.drop_zero] at this
          exact this
      · cases h
    · rename_i fs hu
      split at h
      · rename_i m hm
        cases hb : (is1 P t m && !(P.stoodInHeld t)) <;> rw [hb] at h
        · cases h
        · cases h
          rw [Bool.and_eq_true, Bool.not_eq_true'] at hb
          have ha : aggT P t = true := by unfold aggT; rw [hu]
          rw [ha]
          have hf : P.fieldsOf t = fs := by simp [Program.fieldsOf, hu]
          refine (run_equalIn_struct w D t xs.toArray ys.toArray (by rw [hf]; exact hu) hb.2).trans ?_
          rw [hf]
          rw [hu] at wx wy
          have key : ∀ (l : List Field) (o m : Nat) (w : World), fitFs P (cmpN P d) (fitK P d) (xs.map kOf) o l = true → fitFs P (cmpN P d) (fitK P d) (ys.map kOf) o l = true → cmpFs P (cmpN P d) o l = some m → m ≤ xs.length → xs.length = ys.length → o ≤ m ∧ (Op.eqFields D xs.toArray ys.toArray l).run P w = .ok (decide ((xs.drop o).take (m - o) = (ys.drop o).take (m - o))) w := by
            intro l
            induction l with
            | nil =>
              intro o m w _ _ h1 h2 h3
              cases h1
              simp [Op.eqFields]
            | cons f r ih =>
              intro o m w vx vy h1 h2 h3
              unfold cmpFs at h1
              unfold fitFs at vx vy
              split at h1
              · rename_i k hk
                simp only [hk] at vx vy
                rw [Bool.and_eq_true] at vx vy
                cases hc : ((f.name != "_") && (Nat.beq f.offset o && is1 P f.type k)) <;> rw [hc] at h1
                · cases h1
                · simp only [cond_true] at h1
                  rw [Bool.and_eq_true, Bool.and_eq_true] at hc
                  obtain ⟨c1, c2, c3⟩ := hc
                  have ho := Nat.eq_of_beq_eq_true c2
                  obtain ⟨g1, g2⟩ := ih (o + k) m w vx.2 vy.2 h1 h2 h3
                  refine ⟨by omega, ?_⟩
                  obtain ⟨p1, p2, p3⟩ := cmpN_pos hk
                  unfold Op.eqFields
                  rw [if_pos (by simpa using c1), ho]
                  simp only [Sem.run_bind, part_any p1 p2 p3 xs o (by omega), part_any p1 p2 p3 ys o (by omega), Result.andThen_ok]
                  rw [cmp_run hk D hd ((xs.drop o).take k) ((ys.drop o).take k) w (by simp; omega) (by simp; omega) (by rw [kinds_sub]; exact vx.1) (by rw [kinds_sub]; exact vy.1)]
                  simp only [Result.andThen_ok]
                  have hs : ((xs.drop o).take (m - o) = (ys.drop o).take (m - o)) ↔ ((xs.drop o).take k = (ys.drop o).take k ∧ (xs.drop (o + k)).take (m - (o + k)) = (ys.drop (o + k)).take (m - (o + k))) := by
                    have e : m - o = k + (m - (o + k)) := by omega
                    rw [e, List.take_add, List.take_add, List.drop_drop, List.drop_drop]
                    constructor
                    · intro h
                      exact List.append_inj h (by simp; omega)
                    · rintro ⟨a, b⟩
                      rw [a, b]
                  by_cases q : (xs.drop o).take k = (ys.drop o).take k
                  · rw [decide_eq_true q]
                    simp only [Bool.not_true, Bool.false_eq_true, if_false]
                    rw [g2]
                    congr 1
                    rw [decide_eq_decide]
                    exact ⟨fun h => hs.2 ⟨q, h⟩, fun h => (hs.1 h).2⟩
                  · rw [decide_eq_false q, decide_eq_false (fun h => q (hs.1 h).1)]
                    simp
              · cases h1
          have := (key fs.toList 0 _ w wx wy hm (by omega) (by omega)).2
          rw [Nat.sub_zero, List.drop_zero, List.drop_zero, List.take_of_length_le (by omega), List.take_of_length_le (by omega)] at this
          exact this
      · cases h
    · cases h
def gq (P : Program) (t : Nat) : Option Nat := match cmpN P 9 t with
  | some n => bif aggT P t && !(P.eqGuardType P.depth t) then some n else none
  | none => none
/-- all types of words may be held against each other -/
def qG (P : Program) : EqT := { q := gq P, n := gq P, fit := fun t l => fitK P 9 t (kAs l) }
open Classical in
theorem qG_ok (P : Program) : EqOk P (qG P) := by
  have h0 : ∀ t n, gq P t = some n → P.eqGuardType P.depth t = false ∧ ∀ (l m : List At) (w : World), fsz l = n → fsz m = n → fitK P 9 t (kAs l) = true → fitK P 9 t (kAs m) = true → (Op.equalIn 10000 t (.agg (flat l).toArray) (.agg (flat m).toArray)).run P w = .ok (decide (flat l = flat m)) w := by
    intro t n h
    unfold gq at h
    split at h
    · rename_i k hk
      cases hb : (aggT P t && !(P.eqGuardType P.depth t)) <;> rw [hb] at h
      · cases h
      · cases h
        rw [Bool.and_eq_true, Bool.not_eq_true'] at hb
        refine ⟨hb.2, fun l m w h1 h2 h3 h4 => ?_⟩
        have := cmp_run hk 10000 (by omega) (flat l) (flat m) w (by rw [flat_len, h1]) (by rw [flat_len, h2]) (by rw [kAs_spec]; exact h3) (by rw [kAs_spec]; exact h4)
        rw [hb.1] at this
        exact this
    · cases h
  refine ⟨⟨fun t n h => ?_, fun t n h => ?_⟩, rfl⟩
  · obtain ⟨h1, h2⟩ := h0 t n h
    exact ⟨h1, fun l w hl hn => by rw [h2 l l w hl hl hn hn, decide_eq_true rfl]⟩
  · obtain ⟨h1, h2⟩ := h0 t n h
    exact ⟨h1, fun l m w hl hm hn hn' hne => by rw [h2 l m w hl hm hn hn', decide_eq_false hne]⟩
end Go.Proofs.Ytebaoemoeckgaaa.Ex
namespace Go.Proofs.Ytebaoemoeckgaaa.Ex
set_option linter.unusedVariables false
set_option linter.unusedSimpArgs false
open Go.RowKit

/-- what lay in memory at the start -/
def oldOf (w : World) (b o : Nat) (l : List At) : Prop := b < w.heap.size ∧ w.rangeAt b o (flat l)
theorem below_range {base : Nat} {w w' : World} (h : Below base w w') {b o : Nat} {l : List Value} (hb : b < base) (hr : w.rangeAt b o l) : w'.rangeAt b o l := fun j v hj => by
  rw [h.cell hb]
  exact hr j v hj
abbrev Tab2 := Nat → List CA → Option (List Prop × FR)
def Fr0 : Tab2 := fun _ _ => none
def FrOk (P : Program) (T : Tab2) : Prop := ∀ f cs pre r, T f cs = some (pre, r) → allP pre →
  (∀ args w, (callFunc f args).run P w = .ok (.enter f args) w) ∧ ∀ (args : List Value) (w : World), CAs w cs args → Calls P f args.toArray w (fun e w' => r.ok w e w')
theorem Fr0_ok (P : Program) : FrOk P Fr0 := fun _ _ _ _ h => by cases h
def Tab2.add (T : Tab2) (f : Nat) (g : List CA → Option (List Prop × FR)) : Tab2 := fun f' cs => bif Nat.beq f' f then g cs else T f' cs
theorem FrOk.add {P : Program} {T : Tab2} (hT : FrOk P T) {f : Nat} {fn : Func} (hf : P.funcs[f]? = some fn) (hn : (fn.name == "runtime.NumGoroutine") = false) (hb : fn.body.isNone = false) {g : List CA → Option (List Prop × FR)}
    (h : ∀ cs pre r, g cs = some (pre, r) → allP pre → ∀ (args : List Value) (w : World), CAs w cs args → Calls P f args.toArray w (fun e w' => r.ok w e w')) : FrOk P (T.add f g) := by
  intro f' cs pre r hg hp
  unfold Tab2.add at hg
  cases hb' : Nat.beq f' f <;> rw [hb'] at hg
  · exact hT f' cs pre r hg hp
  · cases Nat.eq_of_beq_eq_true hb'
    exact ⟨callable hf hn hb, h cs pre r hg hp⟩
abbrev Tab3 := Nat → List CA → Option (List Prop × FS)
abbrev Tab4 := Nat → List CA → Option (List Prop × Nat × List At)
def FsOk (P : Program) (T : Tab3) : Prop := ∀ f cs pre r, T f cs = some (pre, r) → allP pre →
  (∀ args w, (callFunc f args).run P w = .ok (.enter f args) w) ∧ ∀ (args : List Value) (w : World), CAs w cs args → Calls P f args.toArray w (fun e w' => r.ok w e w')
def WrOk (P : Program) (T : Tab4) : Prop := ∀ f cs pre j l, T f cs = some (pre, j, l) → allP pre →
  (∀ args w, (callFunc f args).run P w = .ok (.enter f args) w) ∧ ∀ (args : List Value) (w : World), CAs w cs args → ∀ b o n m, args[j]? = some (.slice (some ⟨b, o, none⟩) n m) → (∀ q, w.frozen? ⟨b, q, none⟩ = false) →
    Calls P f args.toArray w (fun e w' => e = .returned (.slice (some ⟨b, o, none⟩) n m) ∧ WrAt w w' b l ∧ w'.rangeAt b o (flat l))
def Fs0 : Tab3 := fun _ _ => none
def Wr0 : Tab4 := fun _ _ => none
theorem Fs0_ok (P : Program) : FsOk P Fs0 := fun _ _ _ _ h => by cases h
theorem Wr0_ok (P : Program) : WrOk P Wr0 := fun _ _ _ _ _ h => by cases h
def Tab3.add (T : Tab3) (f : Nat) (g : List CA → Option (List Prop × FS)) : Tab3 := fun f' cs => bif Nat.beq f' f then g cs else T f' cs
def Tab4.add (T : Tab4) (f : Nat) (g : List CA → Option (List Prop × Nat × List At)) : Tab4 := fun f' cs => bif Nat.beq f' f then g cs else T f' cs
theorem FsOk.add {P : Program} {T : Tab3} (hT : FsOk P T) {f : Nat} {fn : Func} (hf : P.funcs[f]? = some fn) (hn : (fn.name == "runtime.NumGoroutine") = false) (hb : fn.body.isNone = false) {g : List CA → Option (List Prop × FS)}
    (h : ∀ cs pre r, g cs = some (pre, r) → allP pre → ∀ (args : List Value) (w : World), CAs w cs args → Calls P f args.toArray w (fun e w' => r.ok w e w')) : FsOk P (T.add f g) := by
  intro f' cs pre r hg hp
  unfold Tab3.add at hg
  cases hb' : Nat.beq f' f <;> rw [hb'] at hg
  · exact hT f' cs pre r hg hp
  · cases Nat.eq_of_beq_eq_true hb'
    exact ⟨callable hf hn hb, h cs pre r hg hp⟩
theorem WrOk.add {P : Program} {T : Tab4} (hT : WrOk P T) {f : Nat} {fn : Func} (hf : P.funcs[f]? = some fn) (hn : (fn.name == "runtime.NumGoroutine") = false) (hb : fn.body.isNone = false) {g : List CA → Option (List Prop × Nat × List At)}
    (h : ∀ cs pre j l, g cs = some (pre, j, l) → allP pre → ∀ (args : List Value) (w : World), CAs w cs args → ∀ b o n m, args[j]? = some (.slice (some ⟨b, o, none⟩) n m) → (∀ q, w.frozen? ⟨b, q, none⟩ = false) →
      Calls P f args.toArray w (fun e w' => e = .returned (.slice (some ⟨b, o, none⟩) n m) ∧ WrAt w w' b l ∧ w'.rangeAt b o (flat l))) : WrOk P (T.add f g) := by
  intro f' cs pre j l hg hp
  unfold Tab4.add at hg
  cases hb' : Nat.beq f' f <;> rw [hb'] at hg
  · exact hT f' cs pre j l hg hp
  · cases Nat.eq_of_beq_eq_true hb'
    exact ⟨callable hf hn hb, h cs pre j l hg hp⟩
theorem extY_ok {P : Program} {x : Ext} {w : World} (h2 : FrOk P x.T2) (ho : ∀ b o l, x.old b o l → oldOf w b o l) (h3 : FsOk P x.T3) (h4 : WrOk P x.T4) : ExtOk P x w.heap.size w := fun w' hb =>
  ⟨fun b o l h => below_range hb (ho b o l h).1 (ho b o l h).2, fun f cs pre r hg hp => ⟨(h2 f cs pre r hg hp).1, fun args ha => (h2 f cs pre r hg hp).2 args w' ha⟩,
    fun f cs pre r hg hp => ⟨(h3 f cs pre r hg hp).1, fun args ha => (h3 f cs pre r hg hp).2 args w' ha⟩, fun f cs pre j l hg hp => ⟨(h4 f cs pre j l hg hp).1, fun args ha => (h4 f cs pre j l hg hp).2 args w' ha⟩⟩
/-- all may be found equal or unlike, and x is told, answers of unknown capacity and calls that write among it -/
def qY (P : Program) (x : Ext) : EqT := { qG P with x := x }
theorem qY_ok {P : Program} {x : Ext} {w : World} (h2 : FrOk P x.T2) (ho : ∀ b o l, x.old b o l → oldOf w b o l) (h3 : FsOk P x.T3) (h4 : WrOk P x.T4) : EqOkW P (qY P x) w.heap.size w := ⟨(qG_ok P).1, extY_ok h2 ho h3 h4⟩
/-- a function's results, among them a slice of its own -/
def resU (P : Program) (A : List Fact) : List ResultVar → List TV → Option FS
  | [], _ => none
  | x :: rest, ante => match resT P A x with
    | some t => resU P A rest (ante ++ [t])
    | none => (match x with
      | .tmp s => (match look A s with
        | some (.so k n) => (match rowOf A k, resTs P A rest with
          | some (true, l), some post => (match appOf A k with
            | some (e, sz, n') => bif Nat.beq n n' then some ⟨l, n, e, sz, true, ante, post⟩ else none
            | none => some ⟨l, n, 0, 0, false, ante, post⟩)
          | _, _ => none)
        | some (.sl k 0 n m) => (match rowOf A k, resTs P A rest with
          | some (true, l), some post => some ⟨l, n, 0, 0, false, ante, post⟩
          | _, _ => none)
        | _ => none)
      | _ => none)
theorem resU_spec {P : Program} {A : List Fact} {base : Nat} {β : Nat → Bk} {a : Act} {w : World} (hA : ∀ φ ∈ A, φ.ok base β a w) : ∀ {xs : List ResultVar} {ante : List TV} {r : FS}, resU P A xs ante = some r →
    ∃ b cap mid, r.ante = ante ++ mid ∧ (xs.mapM (resF a.tmps)).run P w = .ok (mid.map TV.den ++ .slice (some ⟨b, 0, none⟩) r.n cap :: r.post.map TV.den) w ∧ base ≤ b ∧ b < w.heap.size ∧ w.rangeAt b 0 (flat r.l) ∧ (∀ j, w.frozen? ⟨b, j, none⟩ = false) ∧ (r.ap = true → AppAt w b r.e r.sz r.n cap)
  | [], ante, r, h => by cases h
  | x :: rest, ante, r, h => by
    unfold resU at h
    split at h
    · rename_i t ht
      obtain ⟨b, cap, mid, e, h1, h2⟩ := resU_spec hA h
      have hx := resT_spec hA ht
      exact ⟨b, cap, t :: mid, by rw [e, List.append_assoc]; rfl, by simp [List.mapM_cons, hx, h1], h2⟩
    · split at h
      · rename_i s hno
        have fin : ∀ (k n cap : Nat) (l : List At) (post : List TV) (e sz : Nat) (ap : Bool), a.tmps[s]? = some (.slice (some ⟨(β k).1, (β k).2.1, none⟩) n cap) → rowOf A k = some (true, l) → resTs P A rest = some post → (ap = true → AppAt w (β k).1 e sz n cap) → r = ⟨l, n, e, sz, ap, ante, post⟩ →
            ∃ b cap mid, r.ante = ante ++ mid ∧ ((ResultVar.tmp s :: rest).mapM (resF a.tmps)).run P w = .ok (mid.map TV.den ++ .slice (some ⟨b, 0, none⟩) r.n cap :: r.post.map TV.den) w ∧ base ≤ b ∧ b < w.heap.size ∧ w.rangeAt b 0 (flat r.l) ∧ (∀ j, w.frozen? ⟨b, j, none⟩ = false) ∧ (r.ap = true → AppAt w b r.e r.sz r.n cap) := by
          intro k n cap l post e sz ap hs hr hp ha hre
          subst hre
          obtain ⟨g1, g2, g3, _⟩ := hA _ (rowOf_mem hr)
          obtain ⟨g4, g5, g6⟩ := g3 rfl
          rw [g5] at hs g2
          have hv : a.tmps.getD s undef = .slice (some ⟨(β k).1, 0, none⟩) n cap := by simp [hs]
          have h1 : (resF a.tmps (.tmp s)).run P w = .ok (.slice (some ⟨(β k).1, 0, none⟩) n cap) w := by
            show (pure (a.tmps.getD s undef) : Sem Value).run P w = _
            rw [hv]; rfl
          have h2 := resTs_spec hA hp
          exact ⟨(β k).1, cap, [], by simp, by simp [List.mapM_cons, h1, h2], g4, g1, g2, g6, ha⟩
        split at h
        · rename_i k n hl
          have hs := hA _ (look_mem hl)
          simp only [Fact.ok, AV.den] at hs
          split at h
          · rename_i l post hr hp
            split at h
            · rename_i e sz n' ha
              cases hb : Nat.beq n n' <;> rw [hb] at h
              · cases h
              · cases Nat.eq_of_beq_eq_true hb
                have ga := hA _ (appOf_mem ha)
                simp only [Fact.ok] at ga
                exact fin k n _ l post e sz true hs hr hp (fun _ => ga) (by cases h; rfl)
            · exact fin k n _ l post 0 0 false hs hr hp (fun e => by cases e) (by cases h; rfl)
          · cases h
        · rename_i k n m hl
          have hs := hA _ (look_mem hl)
          simp only [Fact.ok, AV.den, Nat.add_zero] at hs
          split at h
          · rename_i l post hr hp
            exact fin k n m l post 0 0 false hs hr hp (fun e => by cases e) (by cases h; rfl)
          · cases h
        · cases h
      · cases h
theorem fn_leaveS {P : Program} {fn : Func} {A : List Fact} {r : FS} {w : World} (h : resU P A fn.results.toList [] = some r) {a : Act} {w' : World} (hA : Holds fn.ntmps w.heap.size w A a w') : bodyPost P fn (fun e w' => r.ok w e w') .ret a w' := by
  obtain ⟨β, hok, _⟩ := hA.facts
  obtain ⟨b, cap, mid, e1, h1, h2, h3, h4, h5, h6⟩ := resU_spec hok h
  rw [List.nil_append] at e1
  rw [← e1] at h1
  have hres : (results fn a.tmps).run P w' = .ok (r.val b cap) w' := by
    show ((fn.results.mapM (resF a.tmps)) >>= fun vs => pure (if h : vs.size = 1 then vs[0] else .tuple vs) : Sem Value).run P w' = _
    have hm : (List.toArray <$> fn.results.toList.mapM (resF a.tmps)).run P w' = .ok (r.ante.map TV.den ++ .slice (some ⟨b, 0, none⟩) r.n cap :: r.post.map TV.den).toArray w' := by simp [h1]
    rw [Array.mapM_eq_mapM_toList, Sem.run_bind, hm, Result.andThen_ok, Sem.run_pure]
    refine congrArg (fun x => Result.ok x w') ?_
    unfold FS.val FS.lone
    cases ha : r.ante with
    | nil =>
      cases hp : r.post with
      | nil => rfl
      | cons t ts => rw [dif_neg (by simp)]; rfl
    | cons t ts => rw [dif_neg (by simp)]; rfl
  exact ⟨hA.defers, _, hres, b, cap, rfl, hA.below, h2, h3, h4, h5, h6⟩
/-- a whole function that answers a slice of its own, of unknown capacity -/
def funS (P : Program) (q : EqT) (C : Nat → Cfg) (fn : Func) (n : Nat) (cs : List CA) : Option (List Prop × FS) :=
  match fn.body with
  | some c => bif Nat.ble cs.length fn.ntmps then
      (match run P q fn.ntmps C n c (argF 0 cs) with
      | some (ps, .rt, A) => match resU P A fn.results.toList [] with
        | some r => some (ps, r)
        | none => none
      | _ => none) else none
  | none => none
theorem funS_sound {P : Program} {q : EqT} {C : Nat → Cfg} {w : World} (hm : P.follows .mixedOrders = true) (hT : ∀ n d, TabOkW P ((C n).T d) w.heap.size w) (hq : EqOkW P q w.heap.size w) {f : FuncId} {fn : Func} (hf : P.funcs[f]? = some fn) {n : Nat} {cs : List CA} {ps : List Prop} {r : FS}
    (h : funS P q C fn n cs = some (ps, r)) (hps : allP ps) {args : List Value} (ha : CAs w cs args) : Calls P f args.toArray w (fun e w' => r.ok w e w') := by
  unfold funS at h
  split at h
  · rename_i c hb
    cases hle : Nat.ble cs.length fn.ntmps <;> rw [hle] at h
    · cases h
    · simp only [cond_true] at h
      split at h
      · rename_i ps' A hrun
        split at h
        · rename_i r' hr
          cases h
          exact fn_enter hf hb ha (Nat.le_of_ble_eq_true hle) fun a w' hH => (run_sound (P := P) (q := q) (nt := fn.ntmps) (C := C) hm hT hq n c _ A ps .rt a w' _ hrun hps hH fun a w' hA => fn_leaveS hr hA).1
        · cases h
      · cases h
  · cases h
/-- a block of the call's own has a number -/
theorem Holds.at {nt base : Nat} {w0 : World} {A : List Fact} {a : Act} {w : World} (h : Holds nt base w0 A a w) {k : Nat} {l : List At} (hk : Fact.row k true l ∈ A) : ∃ b, Holds nt base w0 (.at k b :: A) a w := by
  obtain ⟨β, h1, h2⟩ := h.facts
  obtain ⟨_, _, g3, _⟩ := h1 _ hk
  refine ⟨(β k).1, h.defers, h.size, h.below, h.heap, β, fun φ hφ => ?_, fun k1 k2 l1 l2 e1 e2 => ?_⟩
  · rcases List.mem_cons.1 hφ with rfl | hφ
    · exact ⟨rfl, (g3 rfl).2.1⟩
    · exact h1 φ hφ
  · rcases List.mem_cons.1 e1 with e1 | e1
    · cases e1
    · rcases List.mem_cons.1 e2 with e2 | e2
      · cases e2
      · exact h2 k1 k2 l1 l2 e1 e2
end Go.Proofs.Ytebaoemoeckgaaa.Ex
