/-
  Flat values of words held against each other, of whatever type of arrays and structs of words. Of whatever program. Conditions: none.
  The reference's Fp12 in a table of calls. Conditions: none.
-/
import Derived.Test.YtgacpjmggdmgdaaGreatExec
import Derived.Laws.StructEq
import Derived.Test.YtgacpjmggdmgdaaGreatTwRef
import Derived.Test.YtgacpjmggdmgdaaGreatTwFP
import Derived.Test.YtgacpjmggdmgdaaGreatRef19
namespace Go.Proofs.YtgacpjmggdmgdaaGreat.Ex
set_option linter.unusedVariables false
set_option linter.unusedSimpArgs false
open Go.RowKit

def aggT (P : Program) (t : Nat) : Bool := match P.underlying t with
  | some (.struct _) => true
  | some (.array _ _) => true
  | _ => false
def pvl : Bool → List Value → Value
  | true, xs => .agg xs.toArray
  | false, x :: _ => x
  | false, [] => undef
def is1 (P : Program) (t k : Nat) : Bool := match sizeT P t with | some m => Nat.beq m k | none => false
def cmpFs (P : Program) (g : Nat → Option Nat) : Nat → List Field → Option Nat
  | o, [] => some o
  | o, f :: r => match g f.type with
    | some k => bif (f.name != "_") && (Nat.beq f.offset o && is1 P f.type k) then cmpFs P g (o + k) r else none
    | none => none
/-- so many words, if the type is one of words, arrays, structs -/
def cmpN (P : Program) : Nat → Nat → Option Nat
  | 0, _ => none
  | d + 1, t => match P.underlying t with
    | some (.int .u64) => bif is1 P t 1 then some 1 else none
    | some (.array n e) => match cmpN P d e with
      | some k => bif is1 P e k && is1 P t (n * k) then some (n * k) else none
      | none => none
    | some (.struct fs) => match cmpFs P (cmpN P d) 0 fs.toList with
      | some m => bif is1 P t m && !(P.stoodInHeld t) then some m else none
      | none => none
    | _ => none
theorem is1_spec {P : Program} {t k : Nat} (h : is1 P t k = true) : sizeT P t = some k := by
  unfold is1 at h
  split at h
  · rename_i m hm; rw [hm, Nat.eq_of_beq_eq_true h]
  · cases h
def Words (xs : List Value) : Prop := ∀ v ∈ xs, ∃ n : Int, v = .int .u64 n
theorem part_any {P : Program} {t n : Nat} (hs : sizeT P t = some n) (ht : (P.underlying t).isSome = true) (hn : aggT P t = false → n = 1) (cs : List Value) (off : Nat) (hl : off + n ≤ cs.length) (w : World) :
    (part t cs.toArray off).run P w = .ok (pvl (aggT P t) ((cs.drop off).take n)) w := by
  obtain ⟨ds, hu⟩ := Option.isSome_iff_exists.1 ht
  have hagg : (isAgg t).run P w = .ok (aggT P t) w := by
    unfold isAgg aggT
    rw [Sem.run_bind, run_underlying hu w, hu]
    cases ds <;> simp_all
  cases ha : aggT P t
  · have h1 := hn ha
    subst h1
    rw [ha] at hagg
    have hc : cs.toArray[off]? = some cs[off] := by simp
    have hd : (cs.drop off).take 1 = [cs[off]] := by
      rw [List.drop_eq_getElem_cons (by omega)]
      rfl
    unfold part
    rw [Sem.run_bind, hagg]
    simp only [Result.andThen_ok, Bool.false_eq_true, if_false]
    rw [hc, hd]
    rfl
  · rw [ha] at hagg
    simp [part, hagg, run_sizeOf hs, List.extract_eq_take_drop, pvl]
def eqElems (d e n : Nat) (xs ys : Array Value) : Nat → Nat → Sem Bool
  | _, 0 => pure true
  | i, c + 1 => do
    let a ← part e xs (i * n)
    let b ← part e ys (i * n)
    let r ← Op.equalIn d e a b
    if (!r) = true then pure false else eqElems d e n xs ys (i + 1) c
theorem run_equalIn_array {P : Program} (w : World) (d t len e n : Nat) (xs ys : Array Value) (ht : P.underlying t = some (.array len e)) (hs : sizeT P e = some n) :
    (Op.equalIn (d + 1) t (.agg xs) (.agg ys)).run P w = (eqElems d e n xs ys 0 len).run P w := by
  simp only [Op.equalIn, Sem.run_bind, run_underlying ht, Result.andThen_ok, run_sizeOf hs]
  rw [Std.Legacy.Range.forIn_eq_forIn_range']
  simp only [Std.Legacy.Range.size, Nat.sub_zero, Nat.add_sub_cancel, Nat.div_one]
  clear ht
  generalize (0 : Nat) = i
  induction len generalizing i w with
  | zero => simp [eqElems]
  | succ len ih =>
    simp only [List.range'_succ, List.forIn_cons, eqElems, Sem.run_bind, Sem.run_ite]
    generalize (part e xs (i * n)).run P w = r1
    cases r1 with
    | ok a w1 =>
      simp only [Result.andThen_ok]
      generalize (part e ys (i * n)).run P w1 = r2
      cases r2 with
      | ok b w2 =>
        simp only [Result.andThen_ok]
        generalize (Op.equalIn d e a b).run P w2 = r3
        cases r3 with
        | ok r w3 =>
          cases r
          · simp only [Result.andThen_ok, Bool.not_false, if_true, Sem.run_pure]
          · simp only [Result.andThen_ok, Bool.not_true, Bool.false_eq_true, if_false, Sem.run_pure]
            exact ih w3 (i + 1)
        | halt x w3 => simp [Result.andThen]
      | halt x w2 => simp [Result.andThen]
    | halt x w1 => simp [Result.andThen]
theorem cmpN_pos : ∀ {P : Program} {d t n : Nat}, cmpN P d t = some n → sizeT P t = some n ∧ (P.underlying t).isSome = true ∧ (aggT P t = false → n = 1)
  | P, 0, t, n, h => by cases h
  | P, d + 1, t, n, h => by
    unfold cmpN at h
    unfold aggT
    split at h
    · rename_i hu
      cases hb : is1 P t 1 <;> rw [hb] at h
      · cases h
      · cases h
        exact ⟨is1_spec hb, by rw [hu]; rfl, fun _ => rfl⟩
    · rename_i len e hu
      split at h
      · rename_i k hk
        cases hb : (is1 P e k && is1 P t (len * k)) <;> rw [hb] at h
        · cases h
        · cases h
          rw [Bool.and_eq_true] at hb
          exact ⟨is1_spec hb.2, by rw [hu]; rfl, fun h => by rw [hu] at h; cases h⟩
      · cases h
    · rename_i fs hu
      split at h
      · rename_i m hm
        cases hb : (is1 P t m && !(P.stoodInHeld t)) <;> rw [hb] at h
        · cases h
        · cases h
          rw [Bool.and_eq_true] at hb
          exact ⟨is1_spec hb.1, by rw [hu]; rfl, fun h => by rw [hu] at h; cases h⟩
      · cases h
    · cases h
theorem take_drop_eq {α : Type} {xs ys : List α} {o k : Nat} : (xs.drop o = ys.drop o) ↔ ((xs.drop o).take k = (ys.drop o).take k ∧ xs.drop (o + k) = ys.drop (o + k)) := by
  constructor
  · intro h
    refine ⟨by rw [h], ?_⟩
    rw [← List.drop_drop, ← List.drop_drop, h]
  · rintro ⟨h1, h2⟩
    rw [← List.take_append_drop k (xs.drop o), ← List.take_append_drop k (ys.drop o), h1, List.drop_drop, List.drop_drop, h2]
theorem words_sub {xs : List Value} (h : Words xs) (o k : Nat) : Words ((xs.drop o).take k) := fun v hv => h v (List.mem_of_mem_drop (List.mem_of_mem_take hv))
open Classical in
/-- equal just if the words are -/
theorem cmp_run {P : Program} : ∀ {d t n : Nat}, cmpN P d t = some n → ∀ (D : Nat), d ≤ D → ∀ (xs ys : List Value) (w : World), xs.length = n → ys.length = n → Words xs → Words ys →
    (Op.equalIn D t (pvl (aggT P t) xs) (pvl (aggT P t) ys)).run P w = .ok (decide (xs = ys)) w
  | 0, t, n, h => by cases h
  | d + 1, t, n, h => by
    intro D hD xs ys w hx hy wx wy
    match D, hD with
    | D + 1, hD =>
    have hd : d ≤ D := by omega
    unfold cmpN at h
    split at h
    · rename_i hu
      cases hb : is1 P t 1 <;> rw [hb] at h
      · cases h
      · cases h
        have ha : aggT P t = false := by unfold aggT; rw [hu]
        rw [ha]
        match xs, ys, hx, hy with
        | [x], [y], _, _ =>
          obtain ⟨a, rfl⟩ := wx x (List.mem_singleton.2 rfl)
          obtain ⟨b, rfl⟩ := wy y (List.mem_singleton.2 rfl)
          refine (run_equalIn_int w D t .u64 .u64 a b hu).trans ?_
          congr 1
          by_cases e : a = b <;> simp [e]
    · rename_i len e hu
      split at h
      · rename_i k hk
        cases hb : (is1 P e k && is1 P t (len * k)) <;> rw [hb] at h
        · cases h
        · cases h
          rw [Bool.and_eq_true] at hb
          have ha : aggT P t = true := by unfold aggT; rw [hu]
          rw [ha]
          refine (run_equalIn_array w D t len e k _ _ hu (is1_spec hb.1)).trans ?_
          obtain ⟨p1, p2, p3⟩ := cmpN_pos hk
          have key : ∀ (c i : Nat) (w : World), i + c = len → (eqElems D e k xs.toArray ys.toArray i c).run P w = .ok (decide (xs.drop (i * k) = ys.drop (i * k))) w := by
            intro c
            induction c with
            | zero =>
              intro i w hi
              have hi' : i = len := by omega
              subst hi'
              have h1 : xs.length ≤ i * k := by omega
              have h2 : ys.length ≤ i * k := by omega
              simp [eqElems, List.drop_of_length_le h1, List.drop_of_length_le h2]
            | succ c ih =>
              intro i w hi
              have hle : i * k + k ≤ len * k := by
                have := Nat.mul_le_mul_right k (show i + 1 ≤ len by omega)
                rw [Nat.add_mul, Nat.one_mul] at this
                exact this
              unfold eqElems
              simp only [Sem.run_bind, part_any p1 p2 p3 xs (i * k) (by omega), part_any p1 p2 p3 ys (i * k) (by omega), Result.andThen_ok]
              rw [cmp_run hk D hd ((xs.drop (i * k)).take k) ((ys.drop (i * k)).take k) w (by simp; omega) (by simp; omega) (words_sub wx _ _) (words_sub wy _ _)]
              simp only [Result.andThen_ok]
              have hs := take_drop_eq (xs := xs) (ys := ys) (o := i * k) (k := k)
              rw [show i * k + k = (i + 1) * k by rw [Nat.add_mul, Nat.one_mul]] at hs
              by_cases q : (xs.drop (i * k)).take k = (ys.drop (i * k)).take k
              · rw [decide_eq_true q]
                simp only [Bool.not_true, Bool.false_eq_true, if_false]
                rw [ih (i + 1) w (by omega)]
                congr 1
                rw [decide_eq_decide]
                exact ⟨fun h => hs.2 ⟨q, h⟩, fun h => (hs.1 h).2⟩
              · rw [decide_eq_false q, decide_eq_false (fun h => q (hs.1 h).1)]
                simp
          have := key len 0 w (by omega)
          rw [Nat.zero_mul, List.drop_zero, List.drop_zero] at this
          exact this
      · cases h
    · rename_i fs hu
      split at h
      · rename_i m hm
        cases hb : (is1 P t m && !(P.stoodInHeld t)) <;> rw [hb] at h
        · cases h
        · cases h
          rw [Bool.and_eq_true, Bool.not_eq_true'] at hb
          have ha : aggT P t = true := by unfold aggT; rw [hu]
          rw [ha]
          have hf : P.fieldsOf t = fs := by simp [Program.fieldsOf, hu]
          refine (run_equalIn_struct w D t xs.toArray ys.toArray (by rw [hf]; exact hu) hb.2).trans ?_
          rw [hf]
          have key : ∀ (l : List Field) (o m : Nat) (w : World), cmpFs P (cmpN P d) o l = some m → m ≤ xs.length → xs.length = ys.length → o ≤ m ∧ (Op.eqFields D xs.toArray ys.toArray l).run P w = .ok (decide ((xs.drop o).take (m - o) = (ys.drop o).take (m - o))) w := by
            intro l
            induction l with
            | nil =>
              intro o m w h1 h2 h3
              cases h1
              simp [Op.eqFields]
            | cons f r ih =>
              intro o m w h1 h2 h3
              unfold cmpFs at h1
              split at h1
              · rename_i k hk
                cases hc : ((f.name != "_") && (Nat.beq f.offset o && is1 P f.type k)) <;> rw [hc] at h1
                · cases h1
                · simp only [cond_true] at h1
                  rw [Bool.and_eq_true, Bool.and_eq_true] at hc
                  obtain ⟨c1, c2, c3⟩ := hc
                  have ho := Nat.eq_of_beq_eq_true c2
                  obtain ⟨g1, g2⟩ := ih (o + k) m w h1 h2 h3
                  refine ⟨by omega, ?_⟩
                  obtain ⟨p1, p2, p3⟩ := cmpN_pos hk
                  unfold Op.eqFields
                  rw [if_pos (by simpa using c1), ho]
                  simp only [Sem.run_bind, part_any p1 p2 p3 xs o (by omega), part_any p1 p2 p3 ys o (by omega), Result.andThen_ok]
                  rw [cmp_run hk D hd ((xs.drop o).take k) ((ys.drop o).take k) w (by simp; omega) (by simp; omega) (words_sub wx _ _) (words_sub wy _ _)]
                  simp only [Result.andThen_ok]
                  have hs : ((xs.drop o).take (m - o) = (ys.drop o).take (m - o)) ↔ ((xs.drop o).take k = (ys.drop o).take k ∧ (xs.drop (o + k)).take (m - (o + k)) = (ys.drop (o + k)).take (m - (o + k))) := by
                    have e : m - o = k + (m - (o + k)) := by omega
                    rw [e, List.take_add, List.take_add, List.drop_drop, List.drop_drop]
                    constructor
                    · intro h
                      exact List.append_inj h (by simp; omega)
                    · rintro ⟨a, b⟩
                      rw [a, b]
                  by_cases q : (xs.drop o).take k = (ys.drop o).take k
                  · rw [decide_eq_true q]
                    simp only [Bool.not_true, Bool.false_eq_true, if_false]
                    rw [g2]
                    congr 1
                    rw [decide_eq_decide]
                    exact ⟨fun h => hs.2 ⟨q, h⟩, fun h => (hs.1 h).2⟩
                  · rw [decide_eq_false q, decide_eq_false (fun h => q (hs.1 h).1)]
                    simp
              · cases h1
          have := (key fs.toList 0 _ w hm (by omega) (by omega)).2
          rw [Nat.sub_zero, List.drop_zero, List.drop_zero, List.take_of_length_le (by omega), List.take_of_length_le (by omega)] at this
          exact this
      · cases h
    · cases h
theorem words_flat : ∀ (l : List At), l.all isN = true → Words (flat l)
  | [], _ => fun v hv => by cases hv
  | a :: r, h => by
    rw [List.all_cons, Bool.and_eq_true] at h
    intro v hv
    rcases List.mem_append.1 (show v ∈ a.cells ++ flat r from hv) with hv | hv
    · cases a with
      | f x => simp [At.cells, w4] at hv; rcases hv with h | h | h | h <;> exact ⟨_, h⟩
      | q x => simp [At.cells, w4] at hv; rcases hv with h | h | h | h <;> exact ⟨_, h⟩
      | c v => cases h.1
    · exact words_flat r h.2 v hv
def gq (P : Program) (t : Nat) : Option Nat := match cmpN P 9 t with
  | some n => bif aggT P t && !(P.eqGuardType P.depth t) then some n else none
  | none => none
/-- all types of words may be held against each other -/
def qG (P : Program) : EqT := ⟨gq P, gq P⟩
open Classical in
theorem qG_ok (P : Program) : EqOk P (qG P) := by
  have h0 : ∀ t n, gq P t = some n → P.eqGuardType P.depth t = false ∧ ∀ (l m : List At) (w : World), fsz l = n → fsz m = n → l.all isN = true → m.all isN = true → (Op.equalIn 10000 t (.agg (flat l).toArray) (.agg (flat m).toArray)).run P w = .ok (decide (flat l = flat m)) w := by
    intro t n h
    unfold gq at h
    split at h
    · rename_i k hk
      cases hb : (aggT P t && !(P.eqGuardType P.depth t)) <;> rw [hb] at h
      · cases h
      · cases h
        rw [Bool.and_eq_true, Bool.not_eq_true'] at hb
        refine ⟨hb.2, fun l m w h1 h2 h3 h4 => ?_⟩
        have := cmp_run hk 10000 (by omega) (flat l) (flat m) w (by rw [flat_len, h1]) (by rw [flat_len, h2]) (words_flat l h3) (words_flat m h4)
        rw [hb.1] at this
        exact this
    · cases h
  refine ⟨fun t n h => ?_, fun t n h => ?_⟩
  · obtain ⟨h1, h2⟩ := h0 t n h
    exact ⟨h1, fun l w hl hn => by rw [h2 l l w hl hl hn hn, decide_eq_true rfl]⟩
  · obtain ⟨h1, h2⟩ := h0 t n h
    exact ⟨h1, fun l m w hl hm hn hn' hne => by rw [h2 l m w hl hm hn hn', decide_eq_false hne]⟩
end Go.Proofs.YtgacpjmggdmgdaaGreat.Ex
namespace Go.Proofs.YtgacpjmggdmgdaaGreat.Ex
set_option linter.unusedVariables false
set_option linter.unusedSimpArgs false
open Go.RowKit

/-- two tables: what the first does not say the second may -/
def Tab.or (T U : Tab) : Tab := fun f cs => match T f cs with | some r => some r | none => U f cs
theorem TabOk.or {P : Program} {T U : Tab} (h : TabOk P T) (k : TabOk P U) : TabOk P (T.or U) := by
  intro f cs pre r hg hp
  unfold Tab.or at hg
  split at hg
  · rename_i x hx
    cases hg
    exact h f cs pre r hx hp
  · exact k f cs pre r hg hp
/-- facts whose rows lie as others do -/
theorem Holds.same {nt base : Nat} {w0 : World} {A A' : List Fact} {a : Act} {w : World} (h : Holds nt base w0 A a w) (hs : ∀ φ ∈ A', φ ∈ A ∨ ∃ k o l l', φ = .row k o l' ∧ .row k o l ∈ A ∧ flat l = flat l') : Holds nt base w0 A' a w := by
  obtain ⟨β, h1, h2⟩ := h.facts
  refine ⟨h.defers, h.size, h.below, h.heap, β, fun φ hφ => ?_, fun k k' l l' hk hk' hne => ?_⟩
  · rcases hs φ hφ with h3 | ⟨k, o, l, l', rfl, h3, h4⟩
    · exact h1 φ h3
    · have := h1 _ h3
      simp only [Fact.ok] at this ⊢
      rw [← h4]
      exact this
  · have hr : ∀ k l, Fact.row k true l ∈ A' → ∃ m, Fact.row k true m ∈ A := fun k l hk => by
      rcases hs _ hk with h3 | ⟨k1, o, m, m', e, h3, h4⟩
      · exact ⟨l, h3⟩
      · cases e
        exact ⟨m, h3⟩
    obtain ⟨m, hm⟩ := hr k l hk
    obtain ⟨m', hm'⟩ := hr k' l' hk'
    exact h2 k k' m m' hm hm' hne
noncomputable def T_all (c : Bool) : Tab := (T_Exp12 c).or (T_rInv6 c)
theorem ok_all (c : Bool) : TabOk Tryz.prog (T_all c) := (ok_Exp12 c).or (ok_rInv6 c)
theorem zsub6 (x : Q6) : F6.sub x F6.zero = x := by show F6.add x (F6.neg F6.zero) = x; rw [neg_zero, F6.add_zero]

set_option maxRecDepth 100000 in
theorem run_Square12 (c : Bool) (x : N12) : funA Tryz.prog (T_all c) qN (fun _ => true) Tryz.f29 40 [.v (.fl (q12 x))] = some ([], .one (.fl (e12 (F12.mul (m12 x) (m12 x))))) := by kernel_rfl
noncomputable def T_Square12 (c : Bool) : Tab := (T_all c).add 29 (g1 rv12 (fun x => ([], .one (.fl (e12 (F12.mul x x))))))
theorem ok_Square12 (c : Bool) : TabOk Tryz.prog (T_Square12 c) := (ok_all c).add Tryz.func29 (by kernel_rfl) (by kernel_rfl) (g1v_ok rv12_ok fun x hp args w ha => fun_sound hmix (ok_all c) qN_ok Tryz.func29 (run_Square12 c x) hp ha)
set_option maxRecDepth 100000 in
theorem run_rOne12 (c : Bool) : funA Tryz.prog (T_Square12 c) qN (fun _ => true) Tryz.f35 40 [] = some ([], .one (.fl (e12 F12.one))) := by kernel_rfl
noncomputable def T_rOne12 (c : Bool) : Tab := (T_Square12 c).add 35 (g0 (.one (.fl (e12 F12.one))))
theorem ok_rOne12 (c : Bool) : TabOk Tryz.prog (T_rOne12 c) := (ok_Square12 c).add Tryz.func35 (by kernel_rfl) (by kernel_rfl) (g0_ok fun w => fun_sound hmix (ok_Square12 c) qN_ok Tryz.func35 (run_rOne12 c) trivial (args := []) trivial)
set_option maxRecDepth 100000 in
theorem run_rMul12 (c : Bool) (x : N12) (y : N12) : funA Tryz.prog (T_rOne12 c) qN (fun _ => true) Tryz.f28 40 [.v (.fl (q12 x)), .v (.fl (q12 y))] = some ([], .one (.fl (e12 (F12.mul (m12 x) (m12 y))))) := by kernel_rfl
noncomputable def T_rMul12 (c : Bool) : Tab := (T_rOne12 c).add 28 (g2 rv12 rv12 (fun x y => ([], .one (.fl (e12 (F12.mul x y))))))
theorem ok_rMul12 (c : Bool) : TabOk Tryz.prog (T_rMul12 c) := (ok_rOne12 c).add Tryz.func28 (by kernel_rfl) (by kernel_rfl) (g2v_ok rv12_ok rv12_ok fun x y hp args w ha => fun_sound hmix (ok_rOne12 c) qN_ok Tryz.func28 (run_rMul12 c x y) hp ha)
set_option maxRecDepth 100000 in
theorem run_rConj12 (c : Bool) (x : N12) : funA Tryz.prog (T_rMul12 c) qN (fun _ => true) Tryz.f31 40 [.v (.fl (q12 x))] = some ([], .one (.fl (e12 ((F6.sub (m12 x).1 F6.zero, F6.sub F6.zero (m12 x).2))))) := by kernel_rfl
theorem raw_rConj12 (x : Q12) : cj12 x = (F6.sub x.1 F6.zero, F6.sub F6.zero x.2) := by
  rw [zsub6]
  rfl
noncomputable def T_rConj12 (c : Bool) : Tab := (T_rMul12 c).add 31 (g1 rv12 (fun x => ([], .one (.fl (e12 (cj12 x))))))
theorem ok_rConj12 (c : Bool) : TabOk Tryz.prog (T_rConj12 c) := (ok_rMul12 c).add Tryz.func31 (by kernel_rfl) (by kernel_rfl) (g1v_ok rv12_ok fun x hp args w ha => by show Good _ _ (.one (.fl (e12 (cj12 (m12 x))))) _ _; rw [raw_rConj12]; exact fun_sound hmix (ok_rMul12 c) qN_ok Tryz.func31 (run_rConj12 c x) hp ha)
noncomputable def rn12 (x : Q12) : Fq := nm2 (rn6 (F6.sub (F6.mul x.1 x.1) (F6.mul vE (F6.mul x.2 x.2))))
noncomputable def riv12 (x : Q12) : Q12 := (F6.mul x.1 (riv6 (F6.sub (F6.mul x.1 x.1) (F6.mul vE (F6.mul x.2 x.2)))), F6.sub F6.zero (F6.mul x.2 (riv6 (F6.sub (F6.mul x.1 x.1) (F6.mul vE (F6.mul x.2 x.2))))))
theorem rn12_eq (x : Q12) : rn12 x = nu12 x := by unfold rn12; rw [rn6_eq]; rfl
theorem neg_sub_mul {R : Type} (K : CR R) (a b : R) : K.sub K.zero (K.mul a b) = K.mul (K.sub K.zero a) b :=
  ring_id K (envL K [a, b]) (.add .zero (.neg (.mul (.v 0) (.v 1)))) (.mul (.add .zero (.neg (.v 0))) (.v 1)) (by decide)
theorem riv12_eq (x : Q12) : riv12 x = iv12 x := by
  unfold riv12
  rw [riv6_eq, neg_sub_mul F6]
  rfl
noncomputable def oR12 (c : Bool) (x : Q12) : List Prop × RV := bif c then ([rn12 x ≠ F1.zero], .many [.fl (e12 (riv12 x)), .im (.int .i64 0)]) else ([rn12 x = F1.zero], .many [.fl (e12 F12.zero), .im (.int .i64 22)])
set_option maxRecDepth 100000 in
theorem run_rInv12_true (x : N12) : funA Tryz.prog (T_rConj12 true) qN (fun _ => true) Tryz.f26 40 [.v (.fl (q12 x))] = some ([rn12 (m12 x) ≠ F1.zero], .many [.fl (e12 (riv12 (m12 x))), .im (.int .i64 0)]) := by kernel_rfl
set_option maxRecDepth 100000 in
theorem run_rInv12_false (x : N12) : funA Tryz.prog (T_rConj12 false) qN (fun _ => true) Tryz.f26 40 [.v (.fl (q12 x))] = some ([rn12 (m12 x) = F1.zero], .many [.fl (e12 F12.zero), .im (.int .i64 22)]) := by kernel_rfl
theorem oR12_ok (c : Bool) (x : N12) (hp : allP (oR12 c (m12 x)).1) (args : List Value) (w : World) (ha : CAs w [.v (.fl (q12 x))] args) : Good Tryz.prog 26 (oR12 c (m12 x)).2 args w := by
  cases c
  · exact fun_sound hmix (ok_rConj12 false) qN_ok Tryz.func26 (run_rInv12_false x) hp ha
  · exact fun_sound hmix (ok_rConj12 true) qN_ok Tryz.func26 (run_rInv12_true x) hp ha
noncomputable def T_rInv12 (c : Bool) : Tab := (T_rConj12 c).add 26 (g1 rv12 (oR12 c))
theorem ok_rInv12 (c : Bool) : TabOk Tryz.prog (T_rInv12 c) := (ok_rConj12 c).add Tryz.func26 (by kernel_rfl) (by kernel_rfl) (g1v_ok rv12_ok (oR12_ok c))

theorem rlen_ok : ∀ cs pre r, gLen cs = some (pre, r) → allP pre → ∀ (args : List Value) (w : World), CAs w cs args → Good Tryz.prog 42 r args w := by
  intro cs pre r hg hp args w ha
  unfold gLen at hg
  split at hg
  · rename_i l
    split at hg
    · rename_i n hn
      cases hg
      rw [args1 ha, rq1_ok l _ hn]
      refine (R1.refLen_calls _ _ _ _ (fw_ok n) w).mono ?_
      rintro e w' ⟨L, rfl, _, h, hbl⟩
      cases h.uniq (lenF_is n)
      exact ⟨rfl, hbl⟩
    · cases hg
  · cases hg
theorem rbit_ok : ∀ cs pre r, gBit cs = some (pre, r) → allP pre → ∀ (args : List Value) (w : World), CAs w cs args → Good Tryz.prog 79 r args w := by
  intro cs pre r hg hp args w ha
  unfold gBit at hg
  split at hg
  · rename_i l i
    split at hg
    · rename_i n hn
      cases hg
      match args, ha with
      | [v, u], ha =>
        have h1 : v = .agg (flat l).toArray := ha.1
        have h2 : u = .int .i64 (Int.ofNat i) := ha.2.1
        rw [rq1_ok l _ hn] at h1
        subst h1; subst h2
        exact refBit_in _ _ _ _ i (fw_ok n) hp.1 w
      | [], ha => exact ha.elim
      | [_], ha => exact ha.2.elim
      | _ :: _ :: _ :: _, ha => exact ha.2.2.elim
    · cases hg
  · cases hg

noncomputable def T_r1Len (c : Bool) : Tab := (T_rInv12 c).add 42 gLen
theorem ok_r1Len (c : Bool) : TabOk Tryz.prog (T_r1Len c) := (ok_rInv12 c).add Tryz.func42 (by kernel_rfl) (by kernel_rfl) rlen_ok
noncomputable def T_r1Bit (c : Bool) : Tab := (T_r1Len c).add 79 gBit
theorem ok_r1Bit (c : Bool) : TabOk Tryz.prog (T_r1Bit c) := (ok_r1Len c).add Tryz.func79 (by kernel_rfl) (by kernel_rfl) rbit_ok
/-- the counter: from the highest bit down to -1 -/
def cnt (L i : Nat) : Int := if i < L then Int.ofNat (L - 1 - i) else -1
theorem cnt_lt {L i : Nat} (h : i < L) : cnt L i = Int.ofNat (L - 1 - i) := if_pos h
theorem cnt_end (L : Nat) : cnt L L = -1 := if_neg (Nat.lt_irrefl _)
theorem cnt_val {L i : Nat} (h : i ≤ L) : cnt L i = (L : Int) - 1 - i := by
  unfold cnt
  split
  · show ((L - 1 - i : Nat) : Int) = _; omega
  · omega
theorem cnt_next {L i : Nat} (h : i < L) (hL : L ≤ 256) : intOp .sub .i64 (Int.ofNat (L - 1 - i)) 1 = some (.int .i64 (cnt L (i + 1))) := by
  show some (Value.int .i64 (IntKind.i64.wrap (((L - 1 - i : Nat) : Int) - 1))) = _
  rw [i64_small _ (by omega) (by omega), cnt_val (show i + 1 ≤ L by omega)]
  congr 2; omega
theorem cnt_first {L : Nat} (hL : L ≤ 256) : intOp .sub .i64 (L : Nat) 1 = some (.int .i64 (cnt L 0)) := by
  show some (Value.int .i64 (IntKind.i64.wrap ((L : Int) - 1))) = _
  rw [i64_small _ (by omega) (by omega), cnt_val (Nat.zero_le L)]
  congr 2; omega
/-- what is known at the head of the loop -/
def x2F (x : N2) (n : Nat) (r : List At) (j : Int) : List Fact := [.slot 2 (.pt 2 0), .row 2 true (q2 x), .slot 3 (.pt 3 0), .row 3 true (q1 n), .slot 4 (.pt 4 0), .row 4 true (e2 F2.zero), .slot 5 (.pt 5 0), .row 5 true r, .slot 6 (.im (.int .i64 j))]
noncomputable def x2C (c : Bool) (j : Int) (b : Bool) (_ : Nat) : Cfg := ⟨fun _ => T_r1Bit c, fun _ => true, fun s => bif Nat.beq s 13 then some (.bool true) else bif Nat.beq s 22 then some (.bool b) else bif Nat.beq s 15 then some (.int .i64 j) else none⟩
noncomputable def x2E (c : Bool) (_ : Nat) : Cfg := ⟨fun _ => T_r1Bit c, fun _ => true, fun s => bif Nat.beq s 13 then some (.bool false) else none⟩
noncomputable def x2Code : Code := (Tryz.f117.body).getD .skip
noncomputable def x2Loop : Code := cIn (cIn (cB (cA (cB (cB x2Code)))))
set_option maxRecDepth 100000 in
theorem x2_one (c : Bool) (x : N2) (r r2 : Q2) (n j : Nat) (j2 : Int) : runK Tryz.prog qN Tryz.f117.ntmps (x2C c j2 true) 40 x2Loop (x2F x n (e2 r) (Int.ofNat j)) (x2F x n (e2 r2) j2) = some ([intOp .geq .i64 (Int.ofNat j) 0 = some (.bool true), j < 256, intOp .eql .i64 (bitOf (wv n) j : Nat) 1 = some (.bool true), intOp .sub .i64 (Int.ofNat j) 1 = some (.int .i64 j2)], .nrm, x2F x n (e2 (F2.mul (F2.mul r r) (m2 x))) j2) := by kernel_rfl
set_option maxRecDepth 100000 in
theorem x2_zero (c : Bool) (x : N2) (r r2 : Q2) (n j : Nat) (j2 : Int) : runK Tryz.prog qN Tryz.f117.ntmps (x2C c j2 false) 40 x2Loop (x2F x n (e2 r) (Int.ofNat j)) (x2F x n (e2 r2) j2) = some ([intOp .geq .i64 (Int.ofNat j) 0 = some (.bool true), j < 256, intOp .eql .i64 (bitOf (wv n) j : Nat) 1 = some (.bool false), intOp .sub .i64 (Int.ofNat j) 1 = some (.int .i64 j2)], .nrm, x2F x n (e2 (F2.mul r r)) j2) := by kernel_rfl
set_option maxRecDepth 100000 in
theorem x2_end (c : Bool) (x : N2) (r : Q2) (n : Nat) : runK Tryz.prog qN Tryz.f117.ntmps (x2E c) 40 x2Loop (x2F x n (e2 r) (-1)) (x2F x n (e2 r) (-1)) = some ([intOp .geq .i64 (-1) 0 = some (.bool false)], .ex 0, x2F x n (e2 r) (-1)) := by kernel_rfl
def x2R (x : N2) (n i : Nat) : Q2 := pwK F2 (m2 x) (wv n / 2 ^ (lenF n - i))
theorem x2R_0 (x : N2) (n : Nat) : x2R x n 0 = F2.one := by
  unfold x2R
  rw [Nat.sub_zero, Nat.div_eq_of_lt (lenF_is n).1]
  rfl
theorem x2R_end (x : N2) (n : Nat) : x2R x n (lenF n) = pwK F2 (m2 x) (wv n) := by
  unfold x2R
  rw [Nat.sub_self, Nat.pow_zero, Nat.div_one]
theorem x2R_step (x : N2) (n i : Nat) (h : i < lenF n) (b : Bool) (hb : bitOf (wv n) (lenF n - 1 - i) = if b then 1 else 0) : x2R x n (i + 1) = bif b then F2.mul (F2.mul (x2R x n i) (x2R x n i)) (m2 x) else F2.mul (x2R x n i) (x2R x n i) := by
  have h2 : F2.mul (x2R x n i) (x2R x n i) = pwK F2 (m2 x) (2 * (wv n / 2 ^ (lenF n - i))) := by unfold x2R; rw [← pwK_add, Nat.two_mul]
  rw [h2]
  unfold x2R
  rw [top_step n i h, hb]
  cases b <;> rfl
theorem x2_round (c : Bool) (x : N2) (n i : Nat) (h : i < lenF n) : ∃ b, ∃ ps, runK Tryz.prog qN Tryz.f117.ntmps (x2C c (cnt (lenF n) (i + 1)) b) 40 x2Loop (x2F x n (e2 (x2R x n i)) (cnt (lenF n) i)) (x2F x n (e2 (x2R x n (i + 1))) (cnt (lenF n) (i + 1))) = some (ps, .nrm, x2F x n (e2 (x2R x n (i + 1))) (cnt (lenF n) (i + 1))) ∧ allP ps := by
  have hL := lenF_le n
  rw [cnt_lt h]
  rcases bitOf_01 (wv n) (lenF n - 1 - i) with hb | hb
  · have hz := x2_zero c x (x2R x n i) (x2R x n (i + 1)) n (lenF n - 1 - i) (cnt (lenF n) (i + 1))
    rw [show F2.mul (x2R x n i) (x2R x n i) = x2R x n (i + 1) from (x2R_step x n i h false hb).symm] at hz
    exact ⟨false, _, hz, rfl, by omega, eql_b _ false hb, cnt_next h hL, trivial⟩
  · have hz := x2_one c x (x2R x n i) (x2R x n (i + 1)) n (lenF n - 1 - i) (cnt (lenF n) (i + 1))
    rw [show F2.mul (F2.mul (x2R x n i) (x2R x n i)) (m2 x) = x2R x n (i + 1) from (x2R_step x n i h true hb).symm] at hz
    exact ⟨true, _, hz, rfl, by omega, eql_b _ true hb, cnt_next h hL, trivial⟩
def x2A (x : N2) (n : Nat) : List Fact := [.slot 2 (.pt 2 0), .row 2 true (q2 x), .slot 3 (.pt 3 0), .row 3 true (q1 n), .slot 4 (.pt 4 0), .row 4 true (e2 F2.zero)]
def x2B (x : N2) (n : Nat) : List Fact := [.slot 2 (.pt 2 0), .row 2 true (q2 x), .slot 3 (.pt 3 0), .row 3 true (q1 n), .slot 4 (.pt 4 0), .row 4 true (e2 F2.zero), .slot 5 (.pt 5 0), .row 5 true (e2 F2.one)]
noncomputable def x2C0 (c : Bool) (v : Option Value) (_ : Nat) : Cfg := ⟨fun _ => T_r1Bit c, fun _ => true, fun s => bif Nat.beq s 11 then v else none⟩
set_option maxRecDepth 100000 in
theorem x2_s0 (c : Bool) (x : N2) (n : Nat) : runK Tryz.prog qN Tryz.f117.ntmps (x2C0 c none) 40 (cA x2Code) (argF 0 [.v (.fl (q2 x)), .v (.fl (q1 n))]) (x2A x n) = some ([], .nrm, x2A x n) := by kernel_rfl
set_option maxRecDepth 100000 in
theorem x2_s1 (c : Bool) (x : N2) (n : Nat) : runK Tryz.prog qN Tryz.f117.ntmps (x2C0 c none) 40 (cA (cB x2Code)) (x2A x n) (x2B x n) = some ([], .nrm, x2B x n) := by kernel_rfl
set_option maxRecDepth 100000 in
theorem x2_s2 (c : Bool) (x : N2) (n : Nat) (j : Int) : runK Tryz.prog qN Tryz.f117.ntmps (x2C0 c (some (.int .i64 j))) 40 (cA (cA (cB (cB x2Code)))) (x2B x n) (x2F x n (e2 F2.one) j) = some ([intOp .sub .i64 (lenF n : Nat) 1 = some (.int .i64 j)], .nrm, x2F x n (e2 F2.one) j) := by kernel_rfl
set_option maxRecDepth 100000 in
theorem x2_s4 (c : Bool) (x : N2) (r : Q2) (n : Nat) : runK Tryz.prog qN Tryz.f117.ntmps (x2C0 c none) 40 (cB (cB (cB x2Code))) (x2F x n (e2 r) (-1)) [.slot 4 (.pt 4 0), .row 4 true (e2 r)] = some ([], .rt, [.slot 4 (.pt 4 0), .row 4 true (e2 r)]) := by kernel_rfl
theorem x2_code : x2Code = .seq (cA x2Code) (.seq (cA (cB x2Code)) (.seq (.seq (cA (cA (cB (cB x2Code)))) (.block 0 (.loop x2Loop))) (cB (cB (cB x2Code))))) := by kernel_rfl
theorem x2_lit : flat (e2 F2.one) = flat (e2 F2.one) := by kernel_rfl
theorem x2_calls (c : Bool) (x : N2) (n : Nat) (args : List Value) (w : World) (ha : CAs w [.v (.fl (q2 x)), .v (.fl (q1 n))] args) : Good Tryz.prog 117 (.one (.fl (e2 (pwK F2 (m2 x) (wv n))))) args w := by
  refine fn_enter Tryz.func117 (c := x2Code) rfl ha (Nat.le_of_ble_eq_true (by kernel_rfl)) fun a w' hA => ?_
  rw [x2_code]
  refine wp_seq (runK_sound hmix (fun _ _ => ok_r1Bit c) qN_ok (x2_s0 c x n) trivial hA fun a w' hA => ?_)
  refine wp_seq (runK_sound hmix (fun _ _ => ok_r1Bit c) qN_ok (x2_s1 c x n) trivial hA fun a w' hA => ?_)
  refine wp_seq (wp_seq (runK_sound hmix (fun _ _ => ok_r1Bit c) qN_ok (x2_s2 c x n (cnt (lenF n) 0)) ⟨cnt_first (lenF_le n), trivial⟩ hA fun a w' hA => ?_))
  refine wp_block ?_
  have hA : Holds Tryz.f117.ntmps w.heap.size w (x2F x n (e2 (x2R x n 0)) (cnt (lenF n) 0)) a w' := by
    refine hA.same fun φ hφ => ?_
    rw [x2R_0] at hφ
    unfold x2F at hφ ⊢
    simp only [List.mem_cons, List.not_mem_nil, or_false] at hφ ⊢
    rcases hφ with h | h | h | h | h | h | h | h | h
    · exact Or.inl (Or.inl h)
    · exact Or.inl (Or.inr (Or.inl h))
    · exact Or.inl (Or.inr (Or.inr (Or.inl h)))
    · exact Or.inl (Or.inr (Or.inr (Or.inr (Or.inl h))))
    · exact Or.inl (Or.inr (Or.inr (Or.inr (Or.inr (Or.inl h)))))
    · exact Or.inl (Or.inr (Or.inr (Or.inr (Or.inr (Or.inr (Or.inl h))))))
    · exact Or.inl (Or.inr (Or.inr (Or.inr (Or.inr (Or.inr (Or.inr (Or.inl h)))))))
    · exact Or.inr ⟨5, true, (e2 F2.one), _, h, Or.inr (Or.inr (Or.inr (Or.inr (Or.inr (Or.inr (Or.inr (Or.inl rfl))))))), x2_lit⟩
    · exact Or.inl (Or.inr (Or.inr (Or.inr (Or.inr (Or.inr (Or.inr (Or.inr (Or.inr h))))))))
  have hb : ∀ i, i < lenF n → ∃ b, ∃ ps, runK Tryz.prog qN Tryz.f117.ntmps (x2C c (cnt (lenF n) (i + 1)) b) 40 x2Loop (x2F x n (e2 (x2R x n i)) (cnt (lenF n) i)) (x2F x n (e2 (x2R x n (i + 1))) (cnt (lenF n) (i + 1))) = some (ps, .nrm, x2F x n (e2 (x2R x n (i + 1))) (cnt (lenF n) (i + 1))) ∧ allP ps := fun i h => x2_round c x n i h
  classical
  refine loop_rounds (f := 40) hmix qN_ok (fun i => x2F x n (e2 (x2R x n i)) (cnt (lenF n) i)) (fun i => if h : i < lenF n then x2C c (cnt (lenF n) (i + 1)) (hb i h).choose else x2E c) (fun i m d => ?_) (lenF n) (fun i hi => ?_) (.ex 0) (by simp) (x2F x n (e2 (x2R x n (lenF n))) (-1)) ?_ hA fun a w' hA => ?_
  · show TabOk _ ((if h : i < lenF n then x2C c (cnt (lenF n) (i + 1)) (hb i h).choose else x2E c) m |>.T d)
    split <;> exact ok_r1Bit c
  · rw [dif_pos hi]
    exact (hb i hi).choose_spec
  · rw [dif_neg (Nat.lt_irrefl _), cnt_end]
    exact ⟨_, x2_end c x _ n, rfl, trivial⟩
  · rw [x2R_end] at hA
    show (cB (cB (cB x2Code))).wp _ _ _ _
    exact runK_sound hmix (fun _ _ => ok_r1Bit c) qN_ok (x2_s4 c x _ n) trivial hA fun a w' hA => fn_leave (l := [.fl (e2 (pwK F2 (m2 x) (wv n)))]) (by kernel_rfl) (by kernel_rfl) hA
noncomputable def T_rexp2 (c : Bool) : Tab := (T_r1Bit c).add 117 (g2 rv2 rq1 fun x n => ([], .one (.fl (e2 (pwK F2 x (wv n))))))
theorem ok_rexp2 (c : Bool) : TabOk Tryz.prog (T_rexp2 c) := (ok_r1Bit c).add Tryz.func117 (by kernel_rfl) (by kernel_rfl) (g2v_ok rv2_ok rq1_v fun x n _ args w ha => x2_calls c x n args w ha)
def gSub1 : Ent
  | [.v (.fl l), .v (.fl m)] => match rq1 l, rq1 m with
    | some a, some b => bif Nat.beq a FP.M && Nat.beq b 1 then some ([], .many [.fl (q1 (FP.M - 1)), .im (.int .u64 0)]) else none
    | _, _ => none
  | _ => none
theorem gSub1_ok : ∀ cs pre r, gSub1 cs = some (pre, r) → allP pre → ∀ (args : List Value) (w : World), CAs w cs args → Good Tryz.prog 115 r args w := by
  intro cs pre r hg hp args w ha
  unfold gSub1 at hg
  split at hg
  · rename_i l m
    split at hg
    · rename_i a b h1 h2
      cases hb : (Nat.beq a FP.M && Nat.beq b 1) <;> rw [hb] at hg
      · cases hg
      · cases hg
        rw [Bool.and_eq_true] at hb
        cases Nat.eq_of_beq_eq_true hb.1
        cases Nat.eq_of_beq_eq_true hb.2
        rw [args2 ha, rq1_ok l _ h1, rq1_ok m _ h2]
        refine (R1.refSub_calls _ _ _ _ _ _ _ _ (fw_ok FP.M) (fw_ok 1) w).mono ?_
        rintro e w' ⟨s0, s1, s2, s3, c, rfl, hs, hc, hv, hb⟩
        have e1 : val4 (fw FP.M 0) (fw FP.M 1) (fw FP.M 2) (fw FP.M 3) = FP.M := fw_val (by decide)
        have e2 : val4 (fw 1 0) (fw 1 1) (fw 1 2) (fw 1 3) = 1 := fw_val (by decide)
        rw [e1, e2] at hv
        have hm : FP.M = 21888242871839275222246405745257275088696311157297823662689037894645226208583 := by decide
        have hlt := val4_lt hs
        have hc0 : c = 0 := by omega
        subst hc0
        obtain ⟨rfl, rfl, rfl, rfl⟩ := fw_of hs (x := FP.M - 1) (by decide) (by omega)
        exact ⟨rfl, hb⟩
    · cases hg
  · cases hg
def gDiv6 : Ent
  | [.v (.fl l), .v (.im (.int .u64 (.ofNat 6)))] => match rq1 l with
    | some a => bif Nat.beq a (FP.M - 1) then some ([], .many [.fl (q1 pSixth), .im (.int .u64 0), .im (.int .i64 0)]) else none
    | none => none
  | _ => none
theorem div6_ok : ∀ cs pre r, gDiv6 cs = some (pre, r) → allP pre → ∀ (args : List Value) (w : World), CAs w cs args → Good Tryz.prog 116 r args w := by
  intro cs pre r hg hp args w ha
  unfold gDiv6 at hg
  split at hg
  · rename_i l
    split at hg
    · rename_i a h1
      cases hb : Nat.beq a (FP.M - 1) <;> rw [hb] at hg
      · cases hg
      · cases hg
        cases Nat.eq_of_beq_eq_true hb
        match args, ha with
        | [v, u], ha =>
          have g1 : v = .agg (flat l).toArray := ha.1
          have g2 : u = .int .u64 (Int.ofNat 6) := ha.2.1
          rw [rq1_ok l _ h1] at g1
          subst g1; subst g2
          refine (R1.refDiv_calls _ _ _ _ 6 (fw_ok (FP.M - 1)) (by decide) w).mono ?_
          rintro e w' ⟨s0, s1, s2, s3, r, c, rfl, hs, hv, hb⟩
          have e1 : val4 (fw (FP.M - 1) 0) (fw (FP.M - 1) 1) (fw (FP.M - 1) 2) (fw (FP.M - 1) 3) = FP.M - 1 := fw_val (by decide)
          rw [e1] at hv
          rcases hv with ⟨h, _⟩ | ⟨_, hq, hr, rfl⟩
          · cases h
          · have hr0 : (FP.M - 1) % 6 = 0 := by decide
            rw [hr0] at hr
            subst hr
            obtain ⟨rfl, rfl, rfl, rfl⟩ := fw_of hs (x := pSixth) (by decide) hq
            exact ⟨rfl, hb⟩
        | [], ha => exact ha.elim
        | [_], ha => exact ha.2.elim
        | _ :: _ :: _ :: _, ha => exact ha.2.2.elim
    · cases hg
  · cases hg
def gMod : Ent
  | [.v (.im (.int .i64 (.ofNat 1)))] => some ([], .one (.fl (q1 FP.M)))
  | _ => none
theorem mod_ok : ∀ cs pre r, gMod cs = some (pre, r) → allP pre → ∀ (args : List Value) (w : World), CAs w cs args → Good Tryz.prog 86 r args w := by
  intro cs pre r hg hp args w ha
  unfold gMod at hg
  split at hg
  · cases hg
    match args, ha with
    | [v], ha =>
      have h1 : v = .int .i64 1 := ha.1
      subst h1
      exact (rmod_some 1 FP fld1 w).mono fun e w' h => h
    | [], ha => exact ha.elim
    | _ :: _ :: _, ha => exact ha.2.elim
  · cases hg
noncomputable def T_r1Sub (c : Bool) : Tab := (T_rexp2 c).add 115 gSub1
theorem ok_r1Sub (c : Bool) : TabOk Tryz.prog (T_r1Sub c) := (ok_rexp2 c).add Tryz.func115 (by kernel_rfl) (by kernel_rfl) gSub1_ok
noncomputable def T_r1Div (c : Bool) : Tab := (T_r1Sub c).add 116 gDiv6
theorem ok_r1Div (c : Bool) : TabOk Tryz.prog (T_r1Div c) := (ok_r1Sub c).add Tryz.func116 (by kernel_rfl) (by kernel_rfl) div6_ok
noncomputable def T_r2Modulus (c : Bool) : Tab := (T_r1Div c).add 86 gMod
theorem ok_r2Modulus (c : Bool) : TabOk Tryz.prog (T_r2Modulus c) := (ok_r1Div c).add Tryz.func86 (by kernel_rfl) (by kernel_rfl) mod_ok
set_option maxRecDepth 100000 in
theorem run_rgamma (c : Bool) : funA Tryz.prog (T_r2Modulus c) qN (fun _ => true) Tryz.f74 40 [] = some ([], .one (.fl (e2 (pwK F2 xiE (wv pSixth))))) := by kernel_rfl
noncomputable def T_rgamma (c : Bool) : Tab := (T_r2Modulus c).add 74 (g0 (.one (.fl (e2 (pwK F2 xiE (wv pSixth))))))
theorem ok_rgamma (c : Bool) : TabOk Tryz.prog (T_rgamma c) := (ok_r2Modulus c).add Tryz.func74 (by kernel_rfl) (by kernel_rfl) (g0_ok fun w => fun_sound hmix (ok_r2Modulus c) qN_ok Tryz.func74 (run_rgamma c) trivial (args := []) trivial)
theorem gamma_eq : pwK F2 xiE (wv pSixth) = tn1 := by
  rw [show wv pSixth = pSixth from fw_val (by decide), ← xi_sixth]
/-- as the reference turns it once to the p, by g -/
def rcj (x : Q2) : Q2 := F2.sub (x.1, F1.zero) (F1.zero, x.2)
def oE : Q2 := F2.one
theorem rcj_eq (x : Q2) : rcj x = conj2' x := by
  refine Prod.ext ?_ ?_
  · show F1.add x.1 (F1.neg F1.zero) = x.1; rw [neg_zero, F1.add_zero]
  · show F1.add F1.zero (F1.neg x.2) = F1.neg x.2; rw [F1.zero_add]
theorem oE_eq : oE = tn0 := by kernel_rfl
def ron12 (x : Q12) (g : Q2) : Q12 := ((F2.mul (rcj x.1.1) oE, F2.mul (rcj x.1.2.1) (F2.mul (F2.mul oE g) g), F2.mul (rcj x.1.2.2) (F2.mul (F2.mul (F2.mul (F2.mul oE g) g) g) g)), (F2.mul (rcj x.2.1) (F2.mul oE g), F2.mul (rcj x.2.2.1) (F2.mul (F2.mul (F2.mul oE g) g) g), F2.mul (rcj x.2.2.2) (F2.mul (F2.mul (F2.mul (F2.mul (F2.mul oE g) g) g) g) g)))
theorem ron12_eq (x : Q12) : ron12 x tn1 = on12 x := by
  unfold ron12
  have h1 : F2.mul oE tn1 = tn1 := by rw [oE_eq, tn0_eq, F2.one_mul]
  rw [h1, ← tn2_eq, ← tn3_eq, ← tn4_eq, ← tn5_eq, oE_eq, rcj_eq, rcj_eq, rcj_eq, rcj_eq, rcj_eq, rcj_eq]
  rfl
set_option maxRecDepth 100000 in
theorem run_ronce (c : Bool) (x : N12) (y : N2) : funA Tryz.prog (T_rgamma c) qN (fun _ => true) Tryz.f75 90 [.v (.fl (q12 x)), .v (.fl (q2 y))] = some ([], .one (.fl (e12 (ron12 (m12 x) (m2 y))))) := by kernel_rfl
noncomputable def T_ronce (c : Bool) : Tab := (T_rgamma c).add 75 (g2 rv12 rv2 (fun x y => ([], .one (.fl (e12 (ron12 x y))))))
theorem ok_ronce (c : Bool) : TabOk Tryz.prog (T_ronce c) := (ok_rgamma c).add Tryz.func75 (by kernel_rfl) (by kernel_rfl) (g2v_ok rv12_ok rv2_ok fun x y hp args w ha => fun_sound hmix (ok_rgamma c) qN_ok Tryz.func75 (run_ronce c x y) hp ha)
theorem cj_cj12 (x : Q12) : cj12 (cj12 x) = x := by
  refine Prod.ext rfl ?_
  show F6.add F6.zero (F6.neg (F6.add F6.zero (F6.neg x.2))) = x.2
  rw [F6.zero_add, F6.zero_add, F6.neg_neg]
def gamE : Q2 := pwK F2 xiE (wv pSixth)
def rfF (l : List At) (k i : Int) : List Fact := [.slot 1 (.im (.int .i64 k)), .slot 2 (.pt 2 0), .row 2 true l, .slot 4 (.pt 4 0), .row 4 true (e12 F12.zero), .slot 5 (.pt 5 0), .row 5 true (e2 gamE), .slot 6 (.im (.int .i64 i))]
noncomputable def rfC (c : Bool) (i : Int) (_ : Nat) : Cfg := ⟨fun _ => T_ronce c, fun _ => true, fun s => bif Nat.beq s 14 then some (.bool true) else bif Nat.beq s 16 then some (.int .i64 i) else none⟩
noncomputable def rfE (c : Bool) (_ : Nat) : Cfg := ⟨fun _ => T_ronce c, fun _ => true, fun s => bif Nat.beq s 14 then some (.bool false) else none⟩
noncomputable def rfS (c : Bool) (k : Int) (_ : Nat) : Cfg := ⟨fun _ => T_ronce c, fun _ => true, fun s => bif Nat.beq s 10 then some (.int .i64 k) else none⟩
noncomputable def rfCode : Code := (Tryz.f33.body).getD .skip
noncomputable def rfLoop : Code := cIn (cIn (cB (cA (cB (cB (cB rfCode))))))
set_option maxRecDepth 100000 in
theorem rf_first (c : Bool) (x : N12) (r2 : Q12) (k i i2 : Int) : runK Tryz.prog qN Tryz.f33.ntmps (rfC c i2) 60 rfLoop (rfF (q12 x) k i) (rfF (e12 r2) k i2) = some ([intOp .lss .i64 i k = some (.bool true), intOp .add .i64 i 1 = some (.int .i64 i2)], .nrm, rfF (e12 (ron12 (m12 x) gamE)) k i2) := by kernel_rfl
set_option maxRecDepth 100000 in
theorem rf_next (c : Bool) (r r2 : Q12) (k i i2 : Int) : runK Tryz.prog qN Tryz.f33.ntmps (rfC c i2) 60 rfLoop (rfF (e12 r) k i) (rfF (e12 r2) k i2) = some ([intOp .lss .i64 i k = some (.bool true), intOp .add .i64 i 1 = some (.int .i64 i2)], .nrm, rfF (e12 (ron12 r gamE)) k i2) := by kernel_rfl
set_option maxRecDepth 100000 in
theorem rf_end0 (c : Bool) (x : N12) (k i : Int) : runK Tryz.prog qN Tryz.f33.ntmps (rfE c) 60 rfLoop (rfF (q12 x) k i) (rfF (q12 x) k i) = some ([intOp .lss .i64 i k = some (.bool false)], .ex 0, rfF (q12 x) k i) := by kernel_rfl
set_option maxRecDepth 100000 in
theorem rf_end1 (c : Bool) (r : Q12) (k i : Int) : runK Tryz.prog qN Tryz.f33.ntmps (rfE c) 60 rfLoop (rfF (e12 r) k i) (rfF (e12 r) k i) = some ([intOp .lss .i64 i k = some (.bool false)], .ex 0, rfF (e12 r) k i) := by kernel_rfl
def rfA (x : N12) (n : Int) : List Fact := [.slot 1 (.im (.int .i64 n)), .slot 2 (.pt 2 0), .row 2 true (q12 x), .slot 4 (.pt 4 0), .row 4 true (e12 F12.zero)]
def rfB (x : N12) (n : Int) : List Fact := [.slot 1 (.im (.int .i64 n)), .slot 2 (.pt 2 0), .row 2 true (q12 x), .slot 4 (.pt 4 0), .row 4 true (e12 F12.zero), .slot 5 (.pt 5 0), .row 5 true (e2 gamE)]
set_option maxRecDepth 100000 in
theorem rf_s0 (c : Bool) (x : N12) (n : Int) : runK Tryz.prog qN Tryz.f33.ntmps (rfE c) 60 (cA rfCode) (argF 0 [.v (.fl (q12 x)), .v (.im (.int .i64 n))]) (rfA x n) = some ([], .nrm, rfA x n) := by kernel_rfl
set_option maxRecDepth 100000 in
theorem rf_s1 (c : Bool) (x : N12) (n k : Int) : runK Tryz.prog qN Tryz.f33.ntmps (rfS c k) 60 (cA (cB rfCode)) (rfA x n) (rfA x k) = some ([intOp .rem .i64 (IntKind.i64.wrap (n.tmod 12 + 12)) 12 = some (.int .i64 k)], .nrm, rfA x k) := by kernel_rfl
set_option maxRecDepth 100000 in
theorem rf_s2 (c : Bool) (x : N12) (k : Int) : runK Tryz.prog qN Tryz.f33.ntmps (rfE c) 60 (cA (cB (cB rfCode))) (rfA x k) (rfB x k) = some ([], .nrm, rfB x k) := by kernel_rfl
set_option maxRecDepth 100000 in
theorem rf_s3 (c : Bool) (x : N12) (k : Int) : runK Tryz.prog qN Tryz.f33.ntmps (rfE c) 60 (cA (cA (cB (cB (cB rfCode))))) (rfB x k) (rfF (q12 x) k 0) = some ([], .nrm, rfF (q12 x) k 0) := by kernel_rfl
set_option maxRecDepth 100000 in
theorem rf_s40 (c : Bool) (x : N12) (k i : Int) : runK Tryz.prog qN Tryz.f33.ntmps (rfE c) 60 (cB (cB (cB (cB rfCode)))) (rfF (q12 x) k i) [.slot 4 (.pt 4 0), .row 4 true (e12 (cj12 (cj12 (m12 x))))] = some ([], .rt, [.slot 4 (.pt 4 0), .row 4 true (e12 (cj12 (cj12 (m12 x))))]) := by kernel_rfl
set_option maxRecDepth 100000 in
theorem rf_s41 (c : Bool) (r : Q12) (k i : Int) : runK Tryz.prog qN Tryz.f33.ntmps (rfE c) 60 (cB (cB (cB (cB rfCode)))) (rfF (e12 r) k i) [.slot 4 (.pt 4 0), .row 4 true (e12 (cj12 (cj12 r)))] = some ([], .rt, [.slot 4 (.pt 4 0), .row 4 true (e12 (cj12 (cj12 r)))]) := by kernel_rfl
theorem rf_code : rfCode = .seq (cA rfCode) (.seq (cA (cB rfCode)) (.seq (cA (cB (cB rfCode))) (.seq (.seq (cA (cA (cB (cB (cB rfCode))))) (.block 0 (.loop rfLoop))) (cB (cB (cB (cB rfCode))))))) := by kernel_rfl
/-- what lies behind i rounds -/
def rowR (x : N12) : Nat → List At
  | 0 => q12 x
  | i + 1 => e12 (it12 (i + 1) (m12 x))
theorem gam_on (x : Q12) : ron12 x gamE = on12 x := by unfold gamE; rw [gamma_eq, ron12_eq]
theorem rf_round (c : Bool) (x : N12) (k i : Nat) (h : i < k) (hk : k < 12) : ∃ ps, runK Tryz.prog qN Tryz.f33.ntmps (rfC c ((i + 1 : Nat) : Int)) 60 rfLoop (rfF (rowR x i) (k : Int) (i : Int)) (rfF (rowR x (i + 1)) (k : Int) ((i + 1 : Nat) : Int)) = some (ps, .nrm, rfF (rowR x (i + 1)) (k : Int) ((i + 1 : Nat) : Int)) ∧ allP ps := by
  have h1 : intOp .lss .i64 (i : Int) (k : Int) = some (.bool true) := lss_t h
  have h2 : intOp .add .i64 (i : Int) 1 = some (.int .i64 ((i + 1 : Nat) : Int)) := add_t (by omega)
  cases i with
  | zero =>
    have hz := rf_first c x (it12 1 (m12 x)) (k : Int) ((0 : Nat) : Int) ((0 + 1 : Nat) : Int)
    rw [show ron12 (m12 x) gamE = it12 1 (m12 x) from gam_on _] at hz
    exact ⟨_, hz, h1, h2, trivial⟩
  | succ i =>
    have hz := rf_next c (it12 (i + 1) (m12 x)) (it12 (i + 1 + 1) (m12 x)) (k : Int) ((i + 1 : Nat) : Int) ((i + 1 + 1 : Nat) : Int)
    rw [show ron12 (it12 (i + 1) (m12 x)) gamE = it12 (i + 1 + 1) (m12 x) from gam_on _] at hz
    exact ⟨_, hz, h1, h2, trivial⟩
theorem rf_calls (c : Bool) (x : N12) (n : Int) (args : List Value) (w : World) (ha : CAs w [.v (.fl (q12 x)), .v (.im (.int .i64 n))] args) : Good Tryz.prog 33 (.one (.fl (e12 (it12 (rest12N n).toNat (m12 x))))) args w := by
  obtain ⟨_, g0, g1⟩ := rest12N_eq n
  obtain ⟨k, hk, hn⟩ : ∃ k : Nat, rest12N n = (k : Int) ∧ k < 12 := ⟨(rest12N n).toNat, by omega, by omega⟩
  rw [show (rest12N n).toNat = k by omega]
  refine fn_enter Tryz.func33 (c := rfCode) rfl ha (Nat.le_of_ble_eq_true (by kernel_rfl)) fun a w' hA => ?_
  rw [rf_code]
  refine wp_seq (runK_sound hmix (fun _ _ => ok_ronce c) qN_ok (rf_s0 c x n) trivial hA fun a w' hA => ?_)
  refine wp_seq (runK_sound hmix (fun _ _ => ok_ronce c) qN_ok (rf_s1 c x n (k : Int)) ⟨intOp_rem hk, trivial⟩ hA fun a w' hA => ?_)
  refine wp_seq (runK_sound hmix (fun _ _ => ok_ronce c) qN_ok (rf_s2 c x (k : Int)) trivial hA fun a w' hA => ?_)
  refine wp_seq (wp_seq (runK_sound hmix (fun _ _ => ok_ronce c) qN_ok (rf_s3 c x (k : Int)) trivial hA fun a w' hA => ?_))
  refine wp_block ?_
  refine loop_rounds (f := 60) hmix qN_ok (fun i => rfF (rowR x i) (k : Int) (i : Int)) (fun i => if i < k then rfC c ((i + 1 : Nat) : Int) else rfE c) (fun i m d => ?_) k (fun i hi => ?_) (.ex 0) (by simp) (rfF (rowR x k) (k : Int) (k : Int)) ?_ hA fun a w' hA => ?_
  · show TabOk _ ((if i < k then rfC c ((i + 1 : Nat) : Int) else rfE c) m |>.T d)
    split <;> exact ok_ronce c
  · rw [if_pos hi]
    exact rf_round c x k i hi hn
  · rw [if_neg (Nat.lt_irrefl _)]
    cases k with
    | zero => exact ⟨_, rf_end0 c x _ _, lss_f _, trivial⟩
    | succ k => exact ⟨_, rf_end1 c _ _ _, lss_f _, trivial⟩
  · show (cB (cB (cB (cB rfCode)))).wp _ _ _ _
    cases k with
    | zero =>
      have h4 := rf_s40 c x ((0 : Nat) : Int) ((0 : Nat) : Int)
      rw [cj_cj12] at h4
      exact runK_sound hmix (fun _ _ => ok_ronce c) qN_ok h4 trivial hA fun a w' hA => fn_leave (l := [.fl (e12 (m12 x))]) (by kernel_rfl) (by kernel_rfl) hA
    | succ k =>
      have h4 := rf_s41 c (it12 (k + 1) (m12 x)) ((k + 1 : Nat) : Int) ((k + 1 : Nat) : Int)
      rw [cj_cj12] at h4
      exact runK_sound hmix (fun _ _ => ok_ronce c) qN_ok h4 trivial hA fun a w' hA => fn_leave (l := [.fl (e12 (it12 (k + 1) (m12 x)))]) (by kernel_rfl) (by kernel_rfl) hA
theorem rfrob_ok (c : Bool) : ∀ cs pre r, gFrob cs = some (pre, r) → allP pre → ∀ (args : List Value) (w : World), CAs w cs args → Good Tryz.prog 33 r args w := by
  intro cs pre r hg hp args w ha
  unfold gFrob at hg
  split at hg
  · rename_i l n
    split at hg
    · rename_i x hx
      cases hg
      obtain ⟨a, e1, rfl⟩ := rv12_ok l x hx
      refine rf_calls c a n args w ?_
      match args, ha with
      | [v, u], ha =>
        refine ⟨?_, ha.2.1, trivial⟩
        show v = .agg (flat (q12 a)).toArray
        rw [← e1]
        exact ha.1
      | [], ha => exact ha.elim
      | [_], ha => exact ha.2.elim
      | _ :: _ :: _ :: _, ha => exact ha.2.2.elim
    · cases hg
  · cases hg
noncomputable def T_rFrob12 (c : Bool) : Tab := (T_ronce c).add 33 gFrob
theorem ok_rFrob12 (c : Bool) : TabOk Tryz.prog (T_rFrob12 c) := (ok_ronce c).add Tryz.func33 (by kernel_rfl) (by kernel_rfl) (rfrob_ok c)
end Go.Proofs.YtgacpjmggdmgdaaGreat.Ex
