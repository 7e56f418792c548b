/-
  The reckoner: code and whole functions; tables of calls. Of whatever program. Conditions: the table of calls is right.
  Commutative rings, their square and cubic extensions, by plain words.
  Towers of pairs and triples over Fp: how their elements lie flat; what a table of calls says of functions over them. Of whatever program. Conditions: none.
  Plain numbers: the two moduli are primes with a known root each, so that whatever is not 0 is a power of it. No program in sight. Conditions: none.
  The tower's parts in a table of calls. Conditions: none.
  Elements of Fp2 in a table of calls. Conditions: the parts' table is right.
  Elements of Fp6 in a table of calls. Conditions: the parts' table is right.
  Identities of commutative rings, by reckoning with polynomials. Conditions: none.
  Elements of Fp12 in a table of calls, and what the package exports. Conditions: the parts' table is right.
  The calls of limbs.Add, limbs.Sub and limbs.Cmp: for any two numbers of four words, in any world, the answers are the sum with its carry, the difference with its borrow, the order; nothing that was there is changed. Conditions: each word below 2^64.
  DERIVED: THE SHELF's CONTRACTS AT THIS DUMP, IN PLAIN WORDS (tools/lay-plain.mjs out of 'TryzShelf.lean', which tools/lay-shelf.mjs wrote): THE SAME DECLARATIONS UNDER THE SAME NAMES: 'import', 'namespace', 'open', 'def', 'theorem' AND NOTHING ELSE: no command of the shelf's: FOR A HAND-IN. Each laying: the table of numbers ('.._ren') and one theorem, a field a fact of the dump's own or the kernel's comparison; each contract: ONE APPLICATION.
-/
import Derived.KernelRfl
import Derived.Laws.Externs
import Derived.WalkKit
import Derived.WalkLawsBesides
import Derived.WalkSpells
import Derived.ProofKit
import Derived.RegionTactic
import Derived.BigRegion
import Derived.BigQuiet
import Derived.Deep.QuietTactic
import Derived.ChangeAlike
import Derived.LoopN
import Derived.Below
import Derived.Lib.Hide
import Derived.Shelf.Small.Bits
import Derived.Shelf.Strconv.Itoa0
import Derived.Shelf.Bits.Mul64
import Derived.Test.YthlcjdcjnioeoaaGreatCj01
import Derived.Test.YthlcjdcjnioeoaaGreatProg
import Derived.Test.YthlcjdcjnioeoaaGreatCj00
namespace Go.Proofs.YthlcjdcjnioeoaaGreat.Ex
set_option linter.unusedVariables false
set_option linter.unusedSimpArgs false
open Go.RowKit

inductive EA | nrm | ex (id : Nat) | rt
def EA.out : EA → Exit
  | .nrm => .normal
  | .ex id => .exit id
  | .rt => .ret
structure Cfg where
  T : Nat → Tab
  hint : Nat → Bool
  num : Nat → Option Value
def mkE (P : Program) (q : EqT) (nt : Nat) (c : Cfg) : Env := ⟨P, c.T, q, c.hint, c.num, nt⟩
/-- code, so much fuel; what the operations are told may hang on what is left of it -/
def run (P : Program) (q : EqT) (nt : Nat) (C : Nat → Cfg) : Nat → Code → List Fact → Option (List Prop × EA × List Fact)
  | 0, _, _ => none
  | n + 1, c, A => match c with
    | .skip => some ([], .nrm, A)
    | .ret => some ([], .rt, A)
    | .exit id => some ([], .ex id, A)
    | .region id ops draw => match regA (mkE P q nt (C n)) draw ops A with | some (p, A') => some (p, .nrm, A') | none => none
    | .seq x y => match run P q nt C n x A with
      | some (p, .nrm, A1) => match run P q nt C n y A1 with | some (p2, e, A2) => some (p ++ p2, e, A2) | none => none
      | r => r
    | .cond c x y => match ev A c with | some (.im (.bool b)) => run P q nt C n (bif b then x else y) A | _ => none
    | .block id x => match run P q nt C n x A with
      | some (p, .ex j, A1) => some (p, bif Nat.beq j id then .nrm else .ex j, A1)
      | r => r
    | .loop x => match run P q nt C n x A with
      | some (p, .nrm, A1) => match run P q nt C n (.loop x) A1 with | some (p2, e, A2) => some (p ++ p2, e, A2) | none => none
      | r => r
    | _ => none
/-- the loop's body, so often at most -/
def Un (P : Program) (c : Code) (Q : Exit → Act → World → Prop) : Nat → Act → World → Prop
  | 0, _, _ => False
  | n + 1, a, w => c.wp P (Exit.then (Un P c Q n) Q) a w
theorem least {p : Nat → Prop} : ∀ n, p n → ∃ m, p m ∧ ∀ k, p k → m ≤ k := fun n h => by
  induction n using Nat.strongRecOn with
  | _ n ih =>
    by_cases hk : ∃ k, k < n ∧ p k
    · obtain ⟨k, h1, h2⟩ := hk
      exact ih k h1 h2
    · exact ⟨n, h, fun k hp => Nat.le_of_not_lt fun hlt => hk ⟨k, hlt, hp⟩⟩
theorem wp_loop_un {P : Program} {c : Code} {Q : Exit → Act → World → Prop} {n : Nat} {a : Act} {w : World} (h : Un P c Q n a w) : (Code.loop c).wp P Q a w := by
  classical
  have hmin : ∀ a w, (∃ n, Un P c Q n a w) → ∃ m, Un P c Q m a w ∧ ∀ k, Un P c Q k a w → m ≤ k := fun a w ⟨n, h⟩ => least n h
  refine wp_loop (fun a w => ∃ n, Un P c Q n a w) (fun a w => if h : ∃ n, Un P c Q n a w then (hmin a w h).choose else 0) ⟨n, h⟩ ?_
  intro a w hI
  have hs := (hmin a w hI).choose_spec
  rw [dif_pos hI]
  generalize (hmin a w hI).choose = m at hs
  cases m with
  | zero => exact hs.1.elim
  | succ m =>
    refine Code.wp_mono (fun e a' w' he => ?_) hs.1
    cases e with
    | normal =>
      have hI' : ∃ n, Un P c Q n a' w' := ⟨m, he⟩
      refine ⟨hI', ?_⟩
      rw [dif_pos hI']
      exact Nat.lt_succ_of_le ((hmin a' w' hI').choose_spec.2 m he)
    | _ => exact he
section
variable {P : Program} {q : EqT} {nt : Nat} {C : Nat → Cfg} {base : Nat} {w0 : World}
theorem run_sound (hm : P.follows .mixedOrders = true) (hT : ∀ n d, TabOkW P ((C n).T d) base w0) (hq : EqOkW P q base w0) : ∀ (n : Nat) (c : Code) (A A' : List Fact) (ps : List Prop) (e : EA) (a : Act) (w : World) (Q : Exit → Act → World → Prop),
    run P q nt C n c A = some (ps, e, A') → allP ps → Holds nt base w0 A a w → (∀ a w, Holds nt base w0 A' a w → Q e.out a w) → c.wp P Q a w ∧ ∀ x, c = .loop x → Un P x Q n a w
  | 0, c, A, A', ps, e, a, w, Q, h, hps, hA, hQ => by cases h
  | n + 1, c, A, A', ps, e, a, w, Q, h, hps, hA, hQ => by
    cases c with
    | skip => cases h; exact ⟨wp_skip (hQ a w hA), fun x e => by cases e⟩
    | ret => cases h; exact ⟨wp_ret (hQ a w hA), fun x e => by cases e⟩
    | exit id => cases h; exact ⟨wp_exit (hQ a w hA), fun x e => by cases e⟩
    | region id ops draw =>
      refine ⟨?_, fun x e => by cases e⟩
      simp only [run] at h
      split at h
      · rename_i p A1 h1
        cases h
        exact reg_sound (E := mkE P q nt (C n)) hm (hT n) hq h1 hps hA hQ
      · cases h
    | seq x y =>
      refine ⟨?_, fun x e => by cases e⟩
      simp only [run] at h
      split at h
      · rename_i p A1 h1
        split at h
        · rename_i ps2 e2 A2 h2
          cases h
          obtain ⟨p1, p2⟩ := allP_append.1 hps
          refine wp_seq (run_sound hm hT hq n x A A1 p .nrm a w _ h1 p1 hA fun a w hA1 => ?_).1
          exact (run_sound hm hT hq n y A1 A' ps2 e a w Q h2 p2 hA1 hQ).1
        · cases h
      · rename_i r hr
        refine wp_seq (run_sound hm hT hq n x A A' ps e a w _ h hps hA fun a w hA1 => ?_).1
        cases e with
        | nrm => exact (hr _ _ h).elim
        | ex id => exact hQ a w hA1
        | rt => exact hQ a w hA1
    | cond c x y =>
      refine ⟨?_, fun x e => by cases e⟩
      simp only [run] at h
      split at h
      · rename_i b hb
        obtain ⟨β, hok, _⟩ := hA.facts
        have hc : a.eval c = .bool b := ev_spec hok hb
        refine wp_cond hc ?_
        have := (run_sound hm hT hq n _ A A' ps e a w Q h hps hA hQ).1
        cases b <;> exact this
      · cases h
    | block id x =>
      refine ⟨?_, fun x e => by cases e⟩
      simp only [run] at h
      split at h
      · rename_i p j A1 h1
        cases h
        refine wp_block (run_sound hm hT hq n x A A' ps (.ex j) a w _ h1 hps hA fun a w hA1 => ?_).1
        show if j = id then Q .normal a w else Q (.exit j) a w
        cases hj : Nat.beq j id
        · rw [if_neg (fun e => by rw [e] at hj; simp at hj)]
          have := hQ a w hA1
          rw [hj] at this
          exact this
        · rw [if_pos (Nat.eq_of_beq_eq_true hj)]
          have := hQ a w hA1
          rw [hj] at this
          exact this
      · rename_i r hr
        refine wp_block (run_sound hm hT hq n x A A' ps e a w _ h hps hA fun a w hA1 => ?_).1
        cases e with
        | ex id => exact (hr _ _ _ h).elim
        | nrm => exact hQ a w hA1
        | rt => exact hQ a w hA1
    | loop x =>
      have hun : Un P x Q (n + 1) a w := by
        simp only [run] at h
        unfold Un
        split at h
        · rename_i p A1 h1
          split at h
          · rename_i ps2 e2 A2 h2
            cases h
            obtain ⟨p1, p2⟩ := allP_append.1 hps
            refine (run_sound hm hT hq n x A A1 p .nrm a w _ h1 p1 hA fun a w hA1 => ?_).1
            exact (run_sound hm hT hq n (.loop x) A1 A' ps2 e a w Q h2 p2 hA1 hQ).2 x rfl
          · cases h
        · rename_i r hr
          refine (run_sound hm hT hq n x A A' ps e a w _ h hps hA fun a w hA1 => ?_).1
          cases e with
          | nrm => exact (hr _ _ h).elim
          | ex id => exact hQ a w hA1
          | rt => exact hQ a w hA1
      exact ⟨wp_loop_un hun, fun y e => by cases e; exact hun⟩
    | _ => simp only [run] at h; cases h
end
/-- an argument's facts: it lies in slot i -/
def argF : Nat → List CA → List Fact
  | _, [] => []
  | i, .v x :: r => .slot i x.av :: argF (i + 1) r
  | i, .s l n m :: r => .slot i (.sl i 0 n m) :: .row i false l :: argF (i + 1) r
def resT (P : Program) (A : List Fact) : ResultVar → Option TV
  | .tmp t => match look A t with | some (.im v) => some (.im v) | some (.fl l) => some (.fl l) | _ => none
  | .cell t ty => match look A t with
    | some (.pt k o) => match rowOf A k, sizeT P ty, isRowT P ty with
      | some (_, l), some n, true => match seg l o n with | some s => some (.fl s) | none => none
      | _, _, _ => none
    | _ => none
def resTs (P : Program) (A : List Fact) : List ResultVar → Option (List TV)
  | [] => some []
  | x :: r => match resT P A x, resTs P A r with | some t, some l => some (t :: l) | _, _ => none
def rv : List TV → Option RV
  | [] => none
  | [t] => some (.one t)
  | l => some (.many l)
/-- a whole function -/
def funB (P : Program) (q : EqT) (C : Nat → Cfg) (fn : Func) (n : Nat) (cs : List CA) : Option (List Prop × RV) :=
  match fn.body with
  | some c => bif Nat.ble cs.length fn.ntmps then
      (match run P q fn.ntmps C n c (argF 0 cs) with
      | some (ps, .ex _, _) => none
      | some (ps, _, A) => match resTs P A fn.results.toList with
        | some l => match rv l with | some r => some (ps, r) | none => none
        | none => none
      | none => none) else none
  | none => none
def funA (P : Program) (T : Tab) (q : EqT) (hint : Nat → Bool) (fn : Func) (n : Nat) (cs : List CA) : Option (List Prop × RV) := funB P q (fun _ => ⟨fun _ => T, hint, fun _ => none⟩) fn n cs
theorem argF_key : ∀ (cs : List CA) (i : Nat) (φ : Fact), φ ∈ argF i cs → (∀ s v, φ = .slot s v → ∀ k, v.key = some k → i ≤ k) ∧ (∀ k o l, φ = .row k o l → i ≤ k) ∧ ∀ k b, φ ≠ .at k b
  | [], i, φ, h => by cases h
  | .v x :: r, i, φ, h => by
    rcases List.mem_cons.1 h with rfl | h
    · refine ⟨fun s v e k hk => ?_, (fun k o l e => by cases e), fun k b e => by cases e⟩
      cases e
      cases x <;> cases hk
    · obtain ⟨h1, h2, h3⟩ := argF_key r (i + 1) φ h
      exact ⟨fun s v e k hk => Nat.le_of_succ_le (h1 s v e k hk), fun k o l e => Nat.le_of_succ_le (h2 k o l e), h3⟩
  | .s l n m :: r, i, φ, h => by
    rcases List.mem_cons.1 h with rfl | h
    · refine ⟨fun s v e k hk => ?_, (fun k o l e => by cases e), fun k b e => by cases e⟩
      cases e
      cases hk
      exact Nat.le_refl _
    · rcases List.mem_cons.1 h with rfl | h
      · exact ⟨fun s v e => by (cases e), (fun k o l e => by cases e; exact Nat.le_refl _), fun k b e => by cases e⟩
      · obtain ⟨h1, h2, h3⟩ := argF_key r (i + 1) φ h
        exact ⟨fun s v e k hk => Nat.le_of_succ_le (h1 s v e k hk), fun k o l e => Nat.le_of_succ_le (h2 k o l e), h3⟩
theorem argF_ok (a : Act) (w : World) : ∀ (cs : List CA) (vs : List Value) (i : Nat), CAs w cs vs → (∀ j v, vs[j]? = some v → a.tmps[i + j]? = some v) → ∃ β, ∀ φ ∈ argF i cs, φ.ok w.heap.size β a w
  | [], vs, i, _, _ => ⟨fun _ => (0, 0), fun φ h => by cases h⟩
  | c :: cs, [], i, h, _ => by cases c <;> exact h.elim
  | c :: cs, v :: vs, i, h, ha => by
    obtain ⟨h1, h2⟩ : c.ok w v ∧ CAs w cs vs := by cases c <;> exact h
    obtain ⟨β, hβ⟩ := argF_ok a w cs vs (i + 1) h2 (fun j u hj => by have := ha (j + 1) u (by simpa using hj); rwa [show i + (j + 1) = i + 1 + j by omega] at this)
    have h0 := ha 0 v rfl
    rw [Nat.add_zero] at h0
    cases c with
    | v x =>
      refine ⟨β, fun φ hφ => ?_⟩
      rcases List.mem_cons.1 hφ with rfl | hφ
      · show a.tmps[i]? = _
        rw [h0, TV.av_den]
        exact congrArg some h1
      · exact hβ φ hφ
    | s l n m =>
      obtain ⟨b, o, rfl, hb, hr⟩ := h1
      refine ⟨fun k => bif Nat.beq k i then (b, o) else β k, fun φ hφ => ?_⟩
      have hbi : (bif Nat.beq i i then (b, o) else β i) = (b, o) := by simp
      rcases List.mem_cons.1 hφ with rfl | hφ
      · show a.tmps[i]? = _
        rw [h0]
        show _ = some (Value.slice (some ⟨(bif Nat.beq i i then (b, o) else β i).1, (bif Nat.beq i i then (b, o) else β i).2 + 0, none⟩) n m)
        rw [hbi]
        rfl
      · rcases List.mem_cons.1 hφ with rfl | hφ
        · refine ⟨?_, ?_, (fun h => by cases h), fun _ => ?_⟩ <;> simp only [hbi]
          · exact hb
          · exact hr
          · exact hb
        · obtain ⟨k1, k2, k3⟩ := argF_key cs (i + 1) φ hφ
          have hne : ∀ k, i + 1 ≤ k → (bif Nat.beq k i then (b, o) else β k) = β k := fun k hk => by
            cases hq : Nat.beq k i
            · rfl
            · have := Nat.eq_of_beq_eq_true hq; omega
          have hold := hβ φ hφ
          cases φ with
          | slot s u =>
            show a.tmps[s]? = _
            rw [AV.den_eq (β := β) u (fun k hk => hne k (k1 s u rfl k hk))]
            exact hold
          | row k ow l' =>
            have e := hne k (k2 k ow l' rfl)
            simp only [Fact.ok] at hold ⊢
            simp only [e]
            exact hold
          | «at» k b => exact (k3 k b rfl).elim
def resF (tmps : Array Value) : ResultVar → Sem Value
  | .tmp t => pure (tmps.getD t undef)
  | .cell p t => do loadVar t (← asAddr (tmps.getD p undef))
theorem resT_spec {P : Program} {A : List Fact} {base : Nat} {β : Nat → Nat × Nat} {a : Act} {w : World} (hA : ∀ φ ∈ A, φ.ok base β a w) {x : ResultVar} {t : TV} (h1 : resT P A x = some t) : (resF a.tmps x).run P w = .ok t.den w := by
  cases x with
  | tmp s =>
    have : a.tmps.getD s undef = t.den := by
      simp only [resT] at h1
      split at h1
      · rename_i v hl; cases h1; have := hA _ (look_mem hl); simp only [Fact.ok] at this; simp [this]; rfl
      · rename_i v hl; cases h1; have := hA _ (look_mem hl); simp only [Fact.ok] at this; simp [this]; rfl
      · cases h1
    show (pure (a.tmps.getD s undef) : Sem Value).run P w = _
    rw [this]
    rfl
  | cell s ty =>
    simp only [resT] at h1
    split at h1
    · rename_i k o hl
      split at h1
      · rename_i ow row n hr hs ht
        split at h1
        · rename_i sg hg
          cases h1
          obtain ⟨i', hi, hn⟩ := sizeT_spec hs
          obtain ⟨ds, hu, hd'⟩ := isRowT_spec ht
          obtain ⟨g1, g2, _⟩ := hA _ (rowOf_mem hr)
          have hl' := hA _ (look_mem hl)
          simp only [Fact.ok, AV.den] at hl'
          have hv : a.tmps.getD s undef = .pointer (some ⟨(β k).1, (β k).2 + o, none⟩) := by simp [hl']
          have := run_loadVar_mid (P := P) w _ _ ty (flat sg) ds (range_seg g2 hg) hu hd' (by rw [hi]; simp [flat_len, seg_size hg, hn])
          show (do loadVar ty (← asAddr (a.tmps.getD s undef)) : Sem Value).run P w = _
          rw [hv]
          simp [asAddr, this, TV.den]
        · cases h1
      · cases h1
    · cases h1
theorem resTs_spec {P : Program} {A : List Fact} {base : Nat} {β : Nat → Nat × Nat} {a : Act} {w : World} (hA : ∀ φ ∈ A, φ.ok base β a w) : ∀ {xs : List ResultVar} {l : List TV}, resTs P A xs = some l → (xs.mapM (resF a.tmps)).run P w = .ok (l.map TV.den) w
  | [], l, h => by cases h; simp
  | x :: r, l, h => by
    unfold resTs at h
    split at h
    · rename_i t l' h1 h2
      cases h
      have ih := resTs_spec hA h2
      have hx := resT_spec hA h1
      simp [List.mapM_cons, ih, hx]
    · cases h
theorem rv_spec {l : List TV} {r : RV} (h : rv l = some r) : (if h : (l.map TV.den).toArray.size = 1 then (l.map TV.den).toArray[0] else Value.tuple (l.map TV.den).toArray) = r.den := by
  cases l with
  | nil => cases h
  | cons t l =>
    cases l with
    | nil => cases h; rfl
    | cons u l => cases h; rw [dif_neg (by simp)]; rfl
theorem funB_soundW {P : Program} {q : EqT} {C : Nat → Cfg} {w : World} (hm : P.follows .mixedOrders = true) (hT : ∀ n d, TabOkW P ((C n).T d) w.heap.size w) (hq : EqOkW P q w.heap.size w) {f : FuncId} {fn : Func} (hf : P.funcs[f]? = some fn) {n : Nat} {cs : List CA} {ps : List Prop} {r : RV}
    (h : funB P q C fn n cs = some (ps, r)) (hps : allP ps) {args : List Value} (ha : CAs w cs args) : Calls P f args.toArray w (fun e w' => e = .returned r.den ∧ Below w.heap.size w w') := by
  have hlen : ∀ (cs : List CA) (vs : List Value), CAs w cs vs → cs.length = vs.length := fun cs => by
    induction cs with
    | nil => intro vs h; cases vs with | nil => rfl | cons _ _ => exact h.elim
    | cons c cs ih => intro vs h; cases vs with | nil => cases c <;> exact h.elim | cons v vs => cases c <;> exact congrArg (· + 1) (ih vs h.2)
  unfold funB at h
  cases hb : fn.body with
  | none => rw [hb] at h; cases h
  | some c =>
    rw [hb] at h
    simp only at h
    cases hle : Nat.ble cs.length fn.ntmps <;> rw [hle] at h
    · cases h
    · simp only [cond_true] at h
      have hle' : args.length ≤ fn.ntmps := by rw [← hlen cs args ha]; exact Nat.le_of_ble_eq_true hle
      refine calls_of_wp hf hb ?_
      obtain ⟨β, hβ⟩ := argF_ok { tmps := args.toArray ++ Array.replicate (fn.ntmps - args.toArray.size) undef, defers := [] } w cs args 0 ha (fun j v hj => by
        have hlt : j < args.length := (List.getElem?_eq_some_iff.1 hj).1
        simp only [Nat.zero_add]
        rw [Array.getElem?_append_left (by simpa using hlt)]
        simpa using hj)
      have hH : Holds fn.ntmps w.heap.size w (argF 0 cs) { tmps := args.toArray ++ Array.replicate (fn.ntmps - args.toArray.size) undef, defers := [] } w :=
        ⟨rfl, by simp; omega, Below.refl _ _, Nat.le_refl _, β, hβ, fun k k' l l' hk => by
          have : ∀ (cs : List CA) (i : Nat) (k : Nat) (l : List At), Fact.row k true l ∈ argF i cs → False := fun cs => by
            induction cs with
            | nil => intro i k l h; cases h
            | cons c cs ih =>
              intro i k l h
              cases c with
              | v x => rcases List.mem_cons.1 h with h | h; · cases h
                       · exact ih _ _ _ h
              | s l1 n1 m1 =>
                rcases List.mem_cons.1 h with h | h
                · cases h
                · rcases List.mem_cons.1 h with h | h
                  · cases h
                  · exact ih _ _ _ h
          exact (this cs 0 k l hk).elim⟩
      have hfin : ∀ (e : EA) (A : List Fact), (∀ j, e ≠ .ex j) → (∃ l, resTs P A fn.results.toList = some l ∧ rv l = some r) → ∀ a w', Holds fn.ntmps w.heap.size w A a w' → bodyPost P fn (fun e w' => e = .returned r.den ∧ Below w.heap.size w w') e.out a w' := fun e A he ⟨l, h1, h2⟩ a w' hA => by
        obtain ⟨β', hok, _⟩ := hA.facts
        have hres : (results fn a.tmps).run P w' = .ok r.den w' := by
          have := resTs_spec hok h1
          show ((fn.results.mapM (resF a.tmps)) >>= fun vs => pure (if h : vs.size = 1 then vs[0] else .tuple vs) : Sem Value).run P w' = _
          have hm : (List.toArray <$> fn.results.toList.mapM (resF a.tmps)).run P w' = .ok (l.map TV.den).toArray w' := by simp [this]
          rw [Array.mapM_eq_mapM_toList, Sem.run_bind, hm, Result.andThen_ok, Sem.run_pure]
          exact congrArg (fun x => Result.ok x w') (rv_spec h2)
        cases e with
        | nrm => exact ⟨hA.defers, _, hres, rfl, hA.below⟩
        | rt => exact ⟨hA.defers, _, hres, rfl, hA.below⟩
        | ex j => exact (he j rfl).elim
      split at h
      · cases h
      · rename_i ps' e A hne hrun
        split at h
        · rename_i l hl
          split at h
          · rename_i r' hr'
            cases h
            exact (run_sound (P := P) (q := q) (nt := fn.ntmps) (C := C) hm hT hq n c _ A ps e _ w _ hrun hps hH (hfin e A (fun j e' => hne j e') ⟨l, hl, hr'⟩)).1
          · cases h
        · cases h
      · cases h
theorem funB_sound {P : Program} {q : EqT} {C : Nat → Cfg} (hm : P.follows .mixedOrders = true) (hT : ∀ n d, TabOk P ((C n).T d)) (hq : EqOk P q) {f : FuncId} {fn : Func} (hf : P.funcs[f]? = some fn) {n : Nat} {cs : List CA} {ps : List Prop} {r : RV}
    (h : funB P q C fn n cs = some (ps, r)) (hps : allP ps) {args : List Value} {w : World} (ha : CAs w cs args) : Calls P f args.toArray w (fun e w' => e = .returned r.den ∧ Below w.heap.size w w') :=
  funB_soundW hm (fun n d => (hT n d).w _ _) (hq.w _ _) hf h hps ha
theorem fun_sound {P : Program} {T : Tab} {q : EqT} {hint : Nat → Bool} (hm : P.follows .mixedOrders = true) (hT : TabOk P T) (hq : EqOk P q) {f : FuncId} {fn : Func} (hf : P.funcs[f]? = some fn) {n : Nat} {cs : List CA} {ps : List Prop} {r : RV}
    (h : funA P T q hint fn n cs = some (ps, r)) (hps : allP ps) {args : List Value} {w : World} (ha : CAs w cs args) : Calls P f args.toArray w (fun e w' => e = .returned r.den ∧ Below w.heap.size w w') :=
  funB_sound hm (fun _ _ => hT) hq hf h hps ha
theorem callable {P : Program} {f : FuncId} {fn : Func} (hf : P.funcs[f]? = some fn) (hn : (fn.name == "runtime.NumGoroutine") = false) (hb : fn.body.isNone = false) (args : Array Value) (w : World) : (callFunc f args).run P w = .ok (.enter f args) w := by
  have hn' : ¬ fn.name = "runtime.NumGoroutine" := by simpa using hn
  have hb' : ¬ fn.body = none := fun e => by rw [e] at hb; cases hb
  simp [callFunc, hf, hn', hb']
def T0 : Tab := fun _ _ => none
theorem T0_ok (P : Program) : TabOk P T0 := fun _ _ _ _ h => by cases h
/-- a table with one function more -/
def Tab.add (T : Tab) (f : Nat) (g : List CA → Option (List Prop × RV)) : Tab := fun f' cs => bif Nat.beq f' f then g cs else T f' cs
theorem TabOk.add {P : Program} {T : Tab} (hT : TabOk P T) {f : Nat} {fn : Func} (hf : P.funcs[f]? = some fn) (hn : (fn.name == "runtime.NumGoroutine") = false) (hb : fn.body.isNone = false) {g : List CA → Option (List Prop × RV)}
    (h : ∀ cs pre r, g cs = some (pre, r) → allP pre → ∀ (args : List Value) (w : World), CAs w cs args → Calls P f args.toArray w (fun e w' => e = .returned r.den ∧ Below w.heap.size w w')) : TabOk P (T.add f g) := by
  intro f' cs pre r hg hp
  unfold Tab.add at hg
  cases hb' : Nat.beq f' f <;> rw [hb'] at hg
  · exact hT f' cs pre r hg hp
  · cases Nat.eq_of_beq_eq_true hb'
    exact ⟨callable hf hn hb, h cs pre r hg hp⟩
end Go.Proofs.YthlcjdcjnioeoaaGreat.Ex
namespace Go.Proofs.YthlcjdcjnioeoaaGreat
set_option linter.unusedVariables false
set_option linter.unusedSimpArgs false
/-- a commutative ring with one -/
structure CR (R : Type) where
  add : R → R → R
  mul : R → R → R
  neg : R → R
  zero : R
  one : R
  add_assoc : ∀ a b c, add (add a b) c = add a (add b c)
  add_comm : ∀ a b, add a b = add b a
  zero_add : ∀ a, add zero a = a
  neg_add : ∀ a, add (neg a) a = zero
  mul_assoc : ∀ a b c, mul (mul a b) c = mul a (mul b c)
  mul_comm : ∀ a b, mul a b = mul b a
  one_mul : ∀ a, mul one a = a
  mul_add : ∀ a b c, mul a (add b c) = add (mul a b) (mul a c)

namespace CR
variable {R : Type} (K : CR R)
theorem add_left_comm (a b c : R) : K.add a (K.add b c) = K.add b (K.add a c) := by rw [← K.add_assoc, K.add_comm a b, K.add_assoc]
theorem mul_left_comm (a b c : R) : K.mul a (K.mul b c) = K.mul b (K.mul a c) := by rw [← K.mul_assoc, K.mul_comm a b, K.mul_assoc]
theorem add_mul (a b c : R) : K.mul (K.add a b) c = K.add (K.mul a c) (K.mul b c) := by rw [K.mul_comm, K.mul_add, K.mul_comm c a, K.mul_comm c b]
theorem add_zero (a : R) : K.add a K.zero = a := by rw [K.add_comm, K.zero_add]
theorem add_neg (a : R) : K.add a (K.neg a) = K.zero := by rw [K.add_comm, K.neg_add]
theorem add_cancel {a b c : R} (h : K.add a b = K.add a c) : b = c := by
  have := congrArg (K.add (K.neg a)) h
  rwa [← K.add_assoc, ← K.add_assoc, K.neg_add, K.zero_add, K.zero_add] at this
theorem mul_zero (a : R) : K.mul a K.zero = K.zero := by
  apply K.add_cancel (a := K.mul a K.zero)
  rw [← K.mul_add, K.add_zero, K.add_zero]
theorem zero_mul (a : R) : K.mul K.zero a = K.zero := by rw [K.mul_comm, K.mul_zero]
theorem mul_one (a : R) : K.mul a K.one = a := by rw [K.mul_comm, K.one_mul]
theorem neg_mul (a b : R) : K.mul (K.neg a) b = K.neg (K.mul a b) := by
  apply K.add_cancel (a := K.mul a b)
  rw [← K.add_mul, K.add_neg, K.zero_mul, K.add_neg]
theorem neg_neg (a : R) : K.neg (K.neg a) = a := by
  apply K.add_cancel (a := K.neg a)
  rw [K.add_neg, K.neg_add]
theorem neg_add' (a b : R) : K.neg (K.add a b) = K.add (K.neg a) (K.neg b) := by
  apply K.add_cancel (a := K.add a b)
  rw [K.add_neg, K.add_assoc, K.add_left_comm b, K.add_neg, K.add_zero, K.add_neg]
theorem mul_neg (a b : R) : K.mul a (K.neg b) = K.neg (K.mul a b) := by rw [K.mul_comm, K.neg_mul, K.mul_comm]
def sub (a b : R) : R := K.add a (K.neg b)

/-- R[t] / (t^2 - q): pairs -/
def sq (q : R) : CR (R × R) where
  add x y := (K.add x.1 y.1, K.add x.2 y.2)
  mul x y := (K.add (K.mul x.1 y.1) (K.mul q (K.mul x.2 y.2)), K.add (K.mul x.1 y.2) (K.mul x.2 y.1))
  neg x := (K.neg x.1, K.neg x.2)
  zero := (K.zero, K.zero)
  one := (K.one, K.zero)
  add_assoc a b c := by simp only [K.add_assoc]
  add_comm a b := by rw [K.add_comm a.1, K.add_comm a.2]
  zero_add a := by simp only [K.zero_add]
  neg_add a := by simp only [K.neg_add]
  mul_assoc a b c := by
    simp only [K.mul_add, K.add_mul, K.mul_assoc, K.mul_left_comm, K.add_assoc, K.add_left_comm, K.add_comm]
  mul_comm a b := by
    simp only [K.mul_comm, K.add_comm]
  one_mul a := by simp only [K.one_mul, K.zero_mul, K.mul_zero, K.add_zero]
  mul_add a b c := by
    simp only [K.mul_add, K.add_assoc, Prod.mk.injEq]
    constructor <;> (simp only [K.add_left_comm])

theorem sa : Std.Associative K.add := ⟨K.add_assoc⟩
theorem sc : Std.Commutative K.add := ⟨K.add_comm⟩
theorem ma : Std.Associative K.mul := ⟨K.mul_assoc⟩
theorem mc : Std.Commutative K.mul := ⟨K.mul_comm⟩
/-- R[t] / (t^3 - q): triples -/
def cu (q : R) : CR (R × R × R) where
  add x y := (K.add x.1 y.1, K.add x.2.1 y.2.1, K.add x.2.2 y.2.2)
  mul x y := (K.add (K.mul x.1 y.1) (K.mul q (K.add (K.mul x.2.1 y.2.2) (K.mul x.2.2 y.2.1))), K.add (K.add (K.mul x.1 y.2.1) (K.mul x.2.1 y.1)) (K.mul q (K.mul x.2.2 y.2.2)), K.add (K.add (K.mul x.1 y.2.2) (K.mul x.2.1 y.2.1)) (K.mul x.2.2 y.1))
  neg x := (K.neg x.1, K.neg x.2.1, K.neg x.2.2)
  zero := (K.zero, K.zero, K.zero)
  one := (K.one, K.zero, K.zero)
  add_assoc a b c := by simp only [K.add_assoc]
  add_comm a b := by rw [K.add_comm a.1, K.add_comm a.2.1, K.add_comm a.2.2]
  zero_add a := by simp only [K.zero_add]
  neg_add a := by simp only [K.neg_add]
  mul_assoc a b c := by
    simp only [K.mul_add, K.add_mul, K.mul_assoc, K.add_assoc, Prod.mk.injEq]
    have := K.sa; have := K.sc; have := K.ma; have := K.mc
    refine ⟨?_, ?_, ?_⟩ <;> ac_rfl
  mul_comm a b := by
    simp only [Prod.mk.injEq]
    have := K.sa; have := K.sc; have := K.ma; have := K.mc
    refine ⟨?_, ?_, ?_⟩ <;> ac_rfl
  one_mul a := by simp only [K.one_mul, K.zero_mul, K.mul_zero, K.add_zero]
  mul_add a b c := by
    simp only [K.mul_add, K.add_assoc, Prod.mk.injEq]
    have := K.sa; have := K.sc; have := K.ma; have := K.mc
    refine ⟨?_, ?_, ?_⟩ <;> ac_rfl
end CR
/-- numbers modulo M -/
def fpCR (M : Nat) (h : 1 < M) : CR (Fin M) where
  add a b := ⟨(a.1 + b.1) % M, Nat.mod_lt _ (by omega)⟩
  mul a b := ⟨a.1 * b.1 % M, Nat.mod_lt _ (by omega)⟩
  neg a := ⟨(0 + M - a.1) % M, Nat.mod_lt _ (by omega)⟩
  zero := ⟨0, by omega⟩
  one := ⟨1, h⟩
  add_assoc a b c := Fin.ext (by show ((a.1 + b.1) % M + c.1) % M = (a.1 + (b.1 + c.1) % M) % M; rw [Nat.mod_add_mod, Nat.add_mod_mod, Nat.add_assoc])
  add_comm a b := Fin.ext (by show (a.1 + b.1) % M = (b.1 + a.1) % M; rw [Nat.add_comm])
  zero_add a := Fin.ext (by show (0 + a.1) % M = a.1; rw [Nat.zero_add, Nat.mod_eq_of_lt a.2])
  neg_add a := Fin.ext (by
    show ((0 + M - a.1) % M + a.1) % M = 0
    have := a.2
    rw [Nat.mod_add_mod, show 0 + M - a.1 + a.1 = M by omega, Nat.mod_self])
  mul_assoc a b c := Fin.ext (by show a.1 * b.1 % M * c.1 % M = a.1 * (b.1 * c.1 % M) % M; rw [Nat.mod_mul_mod, Nat.mul_mod_mod, Nat.mul_assoc])
  mul_comm a b := Fin.ext (by show a.1 * b.1 % M = b.1 * a.1 % M; rw [Nat.mul_comm])
  one_mul a := Fin.ext (by show 1 * a.1 % M = a.1; rw [Nat.one_mul, Nat.mod_eq_of_lt a.2])
  mul_add a b c := Fin.ext (by show a.1 * ((b.1 + c.1) % M) % M = (a.1 * b.1 % M + a.1 * c.1 % M) % M; rw [Nat.mul_mod_mod, Nat.mul_add, Nat.add_mod])
end Go.Proofs.YthlcjdcjnioeoaaGreat
namespace Go.Proofs.YthlcjdcjnioeoaaGreat.Ex
set_option linter.unusedVariables false
set_option linter.unusedSimpArgs false
open Go.RowKit

theorem fp_one : 1 < FP.M := by decide
def F1 : CR Fq := fpCR FP.M fp_one
def fm (n : Nat) : Fq := ⟨n % FP.M, Nat.mod_lt _ fp_pos⟩
abbrev Q2 := Fq × Fq
abbrev Q6 := Q2 × Q2 × Q2
def F2 : CR Q2 := F1.sq (F1.neg F1.one)
def xiE : Q2 := (fm 9, fm 1)
def F6 : CR Q6 := F2.cu xiE
def e1 (x : Fq) : List At := [.f x]
def e2 (x : Q2) : List At := [.f x.1, .f x.2]
def e6 (x : Q6) : List At := [.f x.1.1, .f x.1.2, .f x.2.1.1, .f x.2.1.2, .f x.2.2.1, .f x.2.2.2]
def rd1 : List At → Option Fq | [.f a] => some a | _ => none
def rd2 : List At → Option Q2 | [.f a, .f b] => some (a, b) | _ => none
/-- elements as they come in -/
abbrev N2 := Nat × Nat
def q1 (x : Nat) : List At := [.q x]
def q2 (x : N2) : List At := [.q x.1, .q x.2]
def nat? : At → Option Nat
  | .f x => some x.1
  | .q x => some x
  | .c _ => none
def nats : List At → Option (List Nat)
  | [] => some []
  | a :: r => match nat? a, nats r with | some x, some l => some (x :: l) | _, _ => none
def rq1 (l : List At) : Option Nat := match nats l with | some [a] => some a | _ => none
def rq2 (l : List At) : Option N2 := match nats l with | some [a, b] => some (a, b) | _ => none
/-- a number's words, as an element -/
def wv (x : Nat) : Nat := val4 (fw x 0) (fw x 1) (fw x 2) (fw x 3)
def m1 (x : Nat) : Fq := fm (wv x)
def m2 (x : N2) : Q2 := (m1 x.1, m1 x.2)
/-- a reader gives back what was laid -/
def Rd {α : Type} (rd : List At → Option α) (en : α → List At) : Prop := ∀ l x, rd l = some x → flat l = flat (en x)
theorem rd1_ok : Rd rd1 e1 := fun l x h => by unfold rd1 at h; split at h <;> cases h; rfl
theorem rd2_ok : Rd rd2 e2 := fun l x h => by unfold rd2 at h; split at h <;> cases h; rfl
theorem nats_ok : ∀ {l : List At} {m : List Nat}, nats l = some m → flat l = flat (m.map .q)
  | [], m, h => by cases h; rfl
  | a :: r, m, h => by
    unfold nats at h
    split at h
    · rename_i x l' h1 h2
      cases h
      show a.cells ++ flat r = w4 x ++ flat (l'.map .q)
      rw [nats_ok h2]
      cases a <;> cases h1 <;> rfl
    · cases h
theorem rq1_ok : Rd rq1 q1 := fun l x h => by
  unfold rq1 at h
  split at h
  · rename_i hn; cases h; rw [nats_ok hn]; rfl
  · cases h
theorem rq2_ok : Rd rq2 q2 := fun l x h => by
  unfold rq2 at h
  split at h
  · rename_i hn; cases h; rw [nats_ok hn]; rfl
  · cases h
/-- entries: functions of no, one, two flat values; what must hold and what is answered hang on them -/
abbrev Ent := List CA → Option (List Prop × RV)
def g0 (r : RV) : Ent
  | [] => some ([], r)
  | _ => none
def g1 {α : Type} (rd : List At → Option α) (op : α → List Prop × RV) : Ent
  | [.v (.fl l)] => match rd l with | some x => some (op x) | none => none
  | _ => none
def g2 {α γ : Type} (rd : List At → Option α) (rd' : List At → Option γ) (op : α → γ → List Prop × RV) : Ent
  | [.v (.fl l), .v (.fl m)] => match rd l, rd' m with | some x, some y => some (op x y) | _, _ => none
  | _ => none
/-- what is said of a call -/
def Good (P : Program) (f : FuncId) (r : RV) (args : List Value) (w : World) : Prop := Calls P f args.toArray w (fun e w' => e = .returned r.den ∧ Below w.heap.size w w')
theorem g0_ok {P : Program} {f : FuncId} {r : RV} (h : ∀ w, Good P f r [] w) : ∀ cs pre r', g0 r cs = some (pre, r') → allP pre → ∀ (args : List Value) (w : World), CAs w cs args → Good P f r' args w := by
  intro cs pre r' hg hp args w ha
  unfold g0 at hg
  split at hg
  · cases hg
    cases args with
    | nil => exact h w
    | cons _ _ => exact ha.elim
  · cases hg
theorem g1_ok {P : Program} {f : FuncId} {α : Type} {rd : List At → Option α} {en : α → List At} (hr : Rd rd en) {op : α → List Prop × RV} (h : ∀ x, allP (op x).1 → ∀ args w, CAs w [.v (.fl (en x))] args → Good P f (op x).2 args w) :
    ∀ cs pre r, g1 rd op cs = some (pre, r) → allP pre → ∀ (args : List Value) (w : World), CAs w cs args → Good P f r args w := by
  intro cs pre r hg hp args w ha
  unfold g1 at hg
  split at hg
  · rename_i l
    split at hg
    · rename_i x hx
      have e : op x = (pre, r) := by simpa using hg
      have := h x (by rw [e]; exact hp) args w (by
        cases args with
        | nil => exact ha.elim
        | cons v vs =>
          refine ⟨?_, ha.2⟩
          show v = .agg (flat (en x)).toArray
          rw [← hr l x hx]
          exact ha.1)
      rw [e] at this
      exact this
    · cases hg
  · cases hg
theorem g2_ok {P : Program} {f : FuncId} {α γ : Type} {rd : List At → Option α} {en : α → List At} {rd' : List At → Option γ} {en' : γ → List At} (hr : Rd rd en) (hr' : Rd rd' en') {op : α → γ → List Prop × RV}
    (h : ∀ x y, allP (op x y).1 → ∀ args w, CAs w [.v (.fl (en x)), .v (.fl (en' y))] args → Good P f (op x y).2 args w) :
    ∀ cs pre r, g2 rd rd' op cs = some (pre, r) → allP pre → ∀ (args : List Value) (w : World), CAs w cs args → Good P f r args w := by
  intro cs pre r hg hp args w ha
  unfold g2 at hg
  split at hg
  · rename_i l m
    split at hg
    · rename_i x y hx hy
      have e : op x y = (pre, r) := by simpa using hg
      have := h x y (by rw [e]; exact hp) args w (by
        cases args with
        | nil => exact ha.elim
        | cons v vs =>
          cases vs with
          | nil => exact ha.2.elim
          | cons u us =>
            refine ⟨?_, ?_, ha.2.2⟩
            · show v = .agg (flat (en x)).toArray
              rw [← hr l x hx]
              exact ha.1
            · show u = .agg (flat (en' y)).toArray
              rw [← hr' m y hy]
              exact ha.2.1)
      rw [e] at this
      exact this
    · cases hg
  · cases hg
end Go.Proofs.YthlcjdcjnioeoaaGreat.Ex
namespace Go.Proofs.YthlcjdcjnioeoaaGreat
set_option linter.unusedVariables false

theorem beq_ne {a b : Nat} (h : a ≠ b) : Nat.beq a b = false := by cases q : Nat.beq a b with | false => rfl | true => exact absurd (Nat.eq_of_beq_eq_true q) h
def Prm (q : Nat) : Prop := 1 < q ∧ ∀ m, m ∣ q → m = 1 ∨ m = q

/-- a power modulo n, by squares -/
def pm (n : Nat) : Nat → Nat → Nat → Nat
  | 0, _, _ => 1 % n
  | f + 1, b, e => bif Nat.beq e 0 then 1 % n else bif Nat.beq (e % 2) 1 then b * pm n f (b * b % n) (e / 2) % n else pm n f (b * b % n) (e / 2)
theorem pm_eq (n : Nat) : ∀ f b e, e < 2 ^ f → pm n f b e = b ^ e % n := by
  intro f
  induction f with
  | zero => intro b e h; have : e = 0 := by omega
            subst this; simp [pm]
  | succ f ih =>
    intro b e h
    rw [Nat.pow_succ] at h
    unfold pm
    by_cases h0 : e = 0
    · subst h0; simp
    · have h0' : Nat.beq e 0 = false := beq_ne h0
      rw [h0']
      have hi := ih (b * b % n) (e / 2) (by omega)
      have hp : (b * b % n) ^ (e / 2) % n = b ^ (2 * (e / 2)) % n := by
        rw [← Nat.pow_mod, Nat.pow_mul, Nat.pow_two]
      by_cases h1 : e % 2 = 1
      · have h1' : Nat.beq (e % 2) 1 = true := by rw [h1]; rfl
        rw [h1']
        simp only [cond_true, cond_false]
        rw [hi, hp, Nat.mul_mod, Nat.mod_mod, ← Nat.mul_mod, ← Nat.pow_succ']
        congr 2; omega
      · have h1' : Nat.beq (e % 2) 1 = false := beq_ne h1
        rw [h1']
        simp only [cond_false]
        rw [hi, hp]
        congr 2; omega

/-- no divisor from 2 on, so many of them tried -/
def noDiv (n : Nat) : Nat → Bool
  | 0 => true
  | k + 1 => (Nat.beq k 0 || !(Nat.beq (n % (k + 1)) 0)) && noDiv n k
theorem noDiv_spec (n : Nat) : ∀ k, noDiv n k = true → ∀ m, 2 ≤ m → m ≤ k → ¬ m ∣ n := by
  intro k
  induction k with
  | zero => intro _ m h1 h2; omega
  | succ k ih =>
    intro h m h1 h2
    unfold noDiv at h
    rw [Bool.and_eq_true] at h
    by_cases hm : m = k + 1
    · subst hm
      have hk : Nat.beq k 0 = false := beq_ne (by omega)
      rw [hk] at h
      simp at h
      intro hd
      rw [Nat.mod_eq_zero_of_dvd hd] at h
      exact absurd h.1 (by decide)
    · exact ih h.2 m h1 (by omega)
theorem prm_small (n k : Nat) (h1 : 1 < n) (hk : n < (k + 1) * (k + 1)) (h : noDiv n k = true) : Prm n := by
  refine ⟨h1, fun m hm => ?_⟩
  have hs := noDiv_spec n k h
  obtain ⟨c, hc⟩ := hm
  have hm0 : m ≠ 0 := fun e => by subst e; omega
  have hc0 : c ≠ 0 := fun e => by subst e; omega
  by_cases h2 : m = 1
  · exact Or.inl h2
  · by_cases h3 : c = 1
    · subst h3; right; omega
    · exfalso
      by_cases h4 : m ≤ k
      · exact hs m (by omega) h4 ⟨c, hc⟩
      · by_cases h5 : c ≤ k
        · exact hs c (by omega) h5 ⟨m, by rw [hc, Nat.mul_comm]⟩
        · have := Nat.mul_le_mul (show k + 1 ≤ m by omega) (show k + 1 ≤ c by omega)
          omega

theorem prm_dvd_prod : ∀ (l : List Nat) (m : Nat), m ∣ l.foldr (· * ·) 1 → 1 < m → (∀ q, q ∈ l → Prm q) → ∃ q, q ∈ l ∧ q ∣ m := by
  intro l
  induction l with
  | nil => intro m h h1 _; simp at h; omega
  | cons q l ih =>
    intro m h h1 hq
    rw [List.foldr_cons] at h
    rcases (hq q List.mem_cons_self).2 (Nat.gcd m q) (Nat.gcd_dvd_right m q) with g | g
    · have := Nat.Coprime.dvd_of_dvd_mul_left (show Nat.Coprime m q from g) h
      obtain ⟨q', h', h''⟩ := ih m this h1 (fun q' h' => hq q' (List.mem_cons_of_mem _ h'))
      exact ⟨q', List.mem_cons_of_mem _ h', h''⟩
    · exact ⟨q, List.mem_cons_self, g ▸ Nat.gcd_dvd_left m q⟩

theorem pow_add_mod (g a b n : Nat) : g ^ (a + b) % n = (g ^ a % n) * (g ^ b % n) % n := by rw [Nat.pow_add, Nat.mul_mod]
theorem pow_mul_one {g o n : Nat} (h1 : 1 < n) (h : g ^ o % n = 1) (k : Nat) : g ^ (o * k) % n = 1 := by
  rw [Nat.pow_mul, Nat.pow_mod, h, Nat.one_pow, Nat.mod_eq_of_lt h1]

theorem least {P : Nat → Prop} : ∀ n, P n → ∃ m, P m ∧ ∀ k, k < m → ¬ P k := by
  intro n
  induction n using Nat.strongRecOn with
  | ind n ih =>
    intro h
    by_cases hk : ∃ k, k < n ∧ P k
    · obtain ⟨k, h1, h2⟩ := hk; exact ih k h1 h2
    · exact ⟨n, h, fun k h1 h2 => hk ⟨k, h1, h2⟩⟩

/-- the order: no lesser power of g is one -/
theorem order_full {n g : Nat} (l : List Nat) (h1 : 1 < n) (hl : l.foldr (· * ·) 1 = n - 1) (hp : ∀ q, q ∈ l → Prm q) (hg : g ^ (n - 1) % n = 1) (hq : ∀ q, q ∈ l → g ^ ((n - 1) / q) % n ≠ 1) :
    ∀ k, 0 < k → k < n - 1 → g ^ k % n ≠ 1 := by
  obtain ⟨o, ⟨ho0, ho⟩, hmin⟩ := least (P := fun k => 0 < k ∧ g ^ k % n = 1) (n - 1) ⟨by omega, hg⟩
  have hdiv : ∀ k, g ^ k % n = 1 → o ∣ k := by
    intro k hk
    have e : o * (k / o) + k % o = k := Nat.div_add_mod k o
    rw [← e, pow_add_mod, pow_mul_one h1 ho, Nat.one_mul, Nat.mod_mod] at hk
    have hlt := Nat.mod_lt k ho0
    by_cases hz : k % o = 0
    · exact Nat.dvd_of_mod_eq_zero hz
    · exact absurd ⟨by omega, hk⟩ (hmin (k % o) hlt)
  obtain ⟨m, hm⟩ := hdiv (n - 1) hg
  have hm1 : m = 1 := by
    by_cases h : m = 1
    · exact h
    · exfalso
      have hm0 : m ≠ 0 := fun e => by subst e; omega
      obtain ⟨q, hq1, c, hc⟩ := prm_dvd_prod l m (by rw [hl, hm]; exact Nat.dvd_mul_left _ _) (by omega) hp
      have hq0 : 0 < q := Nat.lt_of_lt_of_le (by omega) (Nat.le_of_lt (hp q hq1).1)
      refine hq q hq1 ?_
      have : (n - 1) / q = o * c := by
        rw [hm, hc, ← Nat.mul_assoc, Nat.mul_comm o q, Nat.mul_assoc, Nat.mul_div_cancel_left _ hq0]
      rw [this, pow_mul_one h1 ho]
  subst hm1
  intro k hk0 hk hk1
  have := Nat.le_of_dvd hk0 (hdiv k hk1)
  omega

/-- whom no two of n numbers below n have in common, all have -/
theorem pigeon : ∀ (n : Nat) (f : Nat → Nat), (∀ i, i < n → f i < n) → (∀ i j, i < n → j < n → f i = f j → i = j) → ∀ y, y < n → ∃ i, i < n ∧ f i = y := by
  intro n
  induction n with
  | zero => intro f _ _ y hy; omega
  | succ n ih =>
    intro f hf hi y hy
    by_cases hn : f n = n
    · by_cases hyn : y = n
      · exact ⟨n, by omega, by omega⟩
      · have hf' : ∀ i, i < n → f i < n := fun i h => by
          have := hf i (by omega)
          have hne : f i ≠ n := fun e => by have := hi i n (by omega) (by omega) (by omega); omega
          omega
        obtain ⟨i, h1, h2⟩ := ih f hf' (fun i j h h' => hi i j (by omega) (by omega)) y (by omega)
        exact ⟨i, by omega, h2⟩
    · have hfn := hf n (by omega)
      have key := ih (fun i => if f i = n then f n else f i)
        (fun i h => by
          have := hf i (by omega)
          split <;> omega)
        (fun i j h h' e => by
          split at e <;> split at e
          · exact hi i j (by omega) (by omega) (by omega)
          · have := hi n j (by omega) (by omega) e; omega
          · have := hi i n (by omega) (by omega) e; omega
          · exact hi i j (by omega) (by omega) e)
      by_cases hyn : y = n
      · obtain ⟨i, h1, h2⟩ := key (f n) (by omega)
        by_cases h3 : f i = n
        · exact ⟨i, by omega, by omega⟩
        · rw [if_neg h3] at h2
          have := hi i n (by omega) (by omega) h2
          omega
      · obtain ⟨i, h1, h2⟩ := key y (by omega)
        by_cases h3 : f i = n
        · rw [if_pos h3] at h2; exact ⟨n, by omega, h2⟩
        · rw [if_neg h3] at h2; exact ⟨i, by omega, h2⟩

/-- whatever is not 0 modulo n is a power of g -/
def Root (n g : Nat) : Prop := 1 < n ∧ g ^ (n - 1) % n = 1 ∧ (∀ k, 0 < k → k < n - 1 → g ^ k % n ≠ 1) ∧ ∀ a, 0 < a → a < n → ∃ k, k < n - 1 ∧ g ^ k % n = a
theorem root_of {n g : Nat} (l : List Nat) (h1 : 1 < n) (hl : l.foldr (· * ·) 1 = n - 1) (hp : ∀ q, q ∈ l → Prm q) (hg : g ^ (n - 1) % n = 1) (hq : ∀ q, q ∈ l → g ^ ((n - 1) / q) % n ≠ 1) : Root n g := by
  have ho := order_full l h1 hl hp hg hq
  refine ⟨h1, hg, ho, fun a ha han => ?_⟩
  have hnz : ∀ i, i ≤ n - 1 → g ^ i % n ≠ 0 := by
    intro i hi e
    have : g ^ (n - 1) % n = 0 := by
      have : n - 1 = i + (n - 1 - i) := by omega
      rw [this, pow_add_mod, e, Nat.zero_mul, Nat.zero_mod]
    omega
  have hdis : ∀ i j, i < n - 1 → j < n - 1 → i < j → g ^ i % n ≠ g ^ j % n := by
    intro i j hi hj hij e
    have e1 : g ^ (n - 1 - i + i) % n = 1 := by rw [show n - 1 - i + i = n - 1 by omega]; exact hg
    have e2 : g ^ (n - 1 - i + j) % n = 1 := by rw [pow_add_mod, ← e, ← pow_add_mod]; exact e1
    rw [show n - 1 - i + j = n - 1 + (j - i) by omega, pow_add_mod, hg, Nat.one_mul, Nat.mod_mod] at e2
    exact ho (j - i) (by omega) (by omega) e2
  obtain ⟨i, hi, he⟩ := pigeon (n - 1) (fun i => g ^ i % n - 1)
    (fun i h => by
      have := Nat.mod_lt (g ^ i) (show 0 < n by omega)
      have := hnz i (by omega)
      omega)
    (fun i j h h' e => by
      have a1 := hnz i (by omega)
      have a2 := hnz j (by omega)
      have e' : g ^ i % n = g ^ j % n := by omega
      rcases Nat.lt_trichotomy i j with q | q | q
      · exact absurd e' (hdis i j h h' q)
      · exact q
      · exact absurd e'.symm (hdis j i h' h q))
    (a - 1) (by omega)
  refine ⟨i, hi, ?_⟩
  have := hnz i (by omega)
  omega
theorem Root.prm {n g : Nat} (h : Root n g) : Prm n := by
  obtain ⟨h1, hg, _, hs⟩ := h
  refine ⟨h1, fun m hm => ?_⟩
  by_cases h2 : m = n
  · exact Or.inr h2
  · left
    have hm0 : m ≠ 0 := fun e => by subst e; have := Nat.eq_zero_of_zero_dvd hm; omega
    have hle := Nat.le_of_dvd (by omega) hm
    obtain ⟨k, hk, e⟩ := hs m (by omega) (by omega)
    have e1 : g ^ (k + (n - 1 - k)) % n = 1 := by rw [show k + (n - 1 - k) = n - 1 by omega]; exact hg
    rw [pow_add_mod, e] at e1
    have hd : m ∣ (m * (g ^ (n - 1 - k) % n)) % n := (Nat.dvd_mod_iff hm).2 (Nat.dvd_mul_right _ _)
    rw [e1] at hd
    exact Nat.dvd_one.1 hd
/-- what the kernel checks of a number, its root and the factors of the number less 1 -/
def cert (n g : Nat) (l : List Nat) : Bool :=
  Nat.blt 1 n && (Nat.beq (l.foldr (· * ·) 1) (n - 1) && (Nat.blt n (2 ^ 255) && (Nat.beq (pm n 256 g (n - 1)) 1 && l.all fun q => !(Nat.beq (pm n 256 g ((n - 1) / q)) 1))))
theorem root_cert {n g : Nat} {l : List Nat} (h : cert n g l = true) (hp : ∀ q, q ∈ l → Prm q) : Root n g := by
  unfold cert at h
  simp only [Bool.and_eq_true] at h
  obtain ⟨h1, h2, h3, h4, h5⟩ := h
  have h1 : 1 < n := by unfold Nat.blt at h1; exact Nat.le_of_ble_eq_true h1
  have h3 : n < 2 ^ 255 := by
    unfold Nat.blt at h3; exact Nat.le_of_ble_eq_true h3
  have h2 := Nat.eq_of_beq_eq_true h2
  have h4 := Nat.eq_of_beq_eq_true h4
  have hb : ∀ e, e ≤ n - 1 → e < 2 ^ 256 := fun e he => by
    rw [Nat.pow_succ]; omega
  rw [pm_eq n 256 g _ (hb _ (Nat.le_refl _))] at h4
  refine root_of l h1 h2 hp h4 fun q hq e => ?_
  have := List.all_eq_true.1 h5 q hq
  rw [pm_eq n 256 g _ (hb _ (Nat.div_le_self _ _)), e] at this
  exact absurd this (by decide)
end Go.Proofs.YthlcjdcjnioeoaaGreat
namespace Go.Proofs.YthlcjdcjnioeoaaGreat.Ex
set_option linter.unusedVariables false
set_option linter.unusedSimpArgs false
open Go.RowKit

theorem hmix : Tryz.prog.follows .mixedOrders = true := by kernel_rfl
def qN : EqT := { q := fun _ => none, n := fun _ => none }
theorem qN_ok {P : Program} : EqOk P qN := ⟨⟨(fun t n h => by cases h), (fun t n h => by cases h)⟩, rfl⟩
/-- sums of products -/
def dotG : Fq → List Fq → List Fq → Fq
  | a, x :: r, y :: s => dotG (F1.add a (F1.mul x y)) r s
  | a, _, _ => a
def dotF : List Fq → List Fq → Fq
  | x :: r, y :: s => dotG (F1.mul x y) r s
  | _, _ => F1.zero
def ones : Nat → List At → Option (List Fq)
  | 0, _ => some []
  | n + 1, .f a :: r => match ones n r with | some l => some (a :: l) | none => none
  | _, _ => none
def gProd : Ent
  | [.s l n m, .s l' n' m'] => bif Nat.beq n n' && Nat.ble n 6 then (match ones n l, ones n' l' with
    | some x, some y => some ([], .one (.fl (e1 (dotF x y))))
    | _, _ => none) else none
  | _ => none
def gOf : Ent
  | [.v (.im (.int .u64 (.ofNat n)))] => bif Nat.blt n 18446744073709551616 then some ([], .one (.fl (e1 (fm n)))) else none
  | _ => none
/-- an inverse's number -/
theorem finv_ex : ∃ f : Fq → Fq, ∀ x, (f x).1 = 1 * (x.1 ^ (FP.M - 2) % FP.M) :=
  ⟨fun x => ⟨1 * (x.1 ^ (FP.M - 2) % FP.M), by rw [Nat.one_mul]; exact Nat.mod_lt _ fp_pos⟩, fun _ => rfl⟩
noncomputable def finv : Fq → Fq := Classical.choose finv_ex
theorem finv_val (x : Fq) : (finv x).1 = 1 * (x.1 ^ (FP.M - 2) % FP.M) := Classical.choose_spec finv_ex x
/-- c: that what is inverted is not 0 -/
noncomputable def gInv (c : Bool) : Ent
  | [.v (.im (.int .i64 (.ofNat 1))), .v (.fl l)] => match rd1 l with
    | some x => bif c then some ([x ≠ F1.zero], .many [.fl (e1 (finv x)), .im (.int .i64 0)]) else some ([x = F1.zero], .many [.fl (e1 F1.zero), .im (.int .i64 22)])
    | none => none
  | _ => none
noncomputable def T_B (c : Bool) : Tab := (((((((T0.add 222 (g2 rd1 rd1 fun x y => ([], .one (.fl (e1 (F1.add x y)))))).add 223 (g2 rd1 rd1 fun x y => ([], .one (.fl (e1 (F1.sub x y)))))).add 221 (g2 rd1 rd1 fun x y => ([], .one (.fl (e1 (F1.mul x y)))))).add
  168 (g1 rd1 fun x => ([], .one (.fl (e1 (F1.neg x)))))).add 166 (g1 rq1 fun x => ([], .one (.fl (e1 (m1 x)))))).add 210 gProd).add 87 gOf).add 220 (gInv c)
theorem ok_B (c : Bool) (hB : TabOk Tryz.prog (T_B c)) : TabOk Tryz.prog (T_B c) := hB

end Go.Proofs.YthlcjdcjnioeoaaGreat.Ex
namespace Go.Proofs.YthlcjdcjnioeoaaGreat.Ex
set_option linter.unusedVariables false
set_option linter.unusedSimpArgs false
open Go.RowKit

def conj2' (x : Q2) : Q2 := (x.1, F1.neg x.2)
def sc2 (x : Q2) (k : Fq) : Q2 := (F1.mul x.1 k, F1.mul x.2 k)
def nm2 (x : Q2) : Fq := F1.add (F1.mul x.1 x.1) (F1.mul x.2 x.2)
noncomputable def iv2 (x : Q2) : Q2 := sc2 (conj2' x) (finv (nm2 x))
set_option maxRecDepth 100000 in
theorem run_t2plus (c : Bool) (x : Q2) (y : Q2) : funA Tryz.prog (T_B c) qN (fun _ => true) Tryz.f180 40 [.v (.fl (e2 x)), .v (.fl (e2 y))] = some ([], .one (.fl (e2 (F2.add x y)))) := by kernel_rfl
noncomputable def T_t2plus (c : Bool) : Tab := (T_B c).add 180 (g2 rd2 rd2 (fun x y => ([], .one (.fl (e2 (F2.add x y))))))
theorem ok_t2plus (c : Bool) (hB : TabOk Tryz.prog (T_B c)) : TabOk Tryz.prog (T_t2plus c) := (ok_B c hB).add Tryz.func180 (by kernel_rfl) (by kernel_rfl) (g2_ok rd2_ok rd2_ok fun x y hp args w ha => fun_sound hmix (ok_B c hB) qN_ok Tryz.func180 (run_t2plus c x y) hp ha)
set_option maxRecDepth 100000 in
theorem run_t2minus (c : Bool) (x : Q2) (y : Q2) : funA Tryz.prog (T_t2plus c) qN (fun _ => true) Tryz.f182 40 [.v (.fl (e2 x)), .v (.fl (e2 y))] = some ([], .one (.fl (e2 (F2.sub x y)))) := by kernel_rfl
noncomputable def T_t2minus (c : Bool) : Tab := (T_t2plus c).add 182 (g2 rd2 rd2 (fun x y => ([], .one (.fl (e2 (F2.sub x y))))))
theorem ok_t2minus (c : Bool) (hB : TabOk Tryz.prog (T_B c)) : TabOk Tryz.prog (T_t2minus c) := (ok_t2plus c hB).add Tryz.func182 (by kernel_rfl) (by kernel_rfl) (g2_ok rd2_ok rd2_ok fun x y hp args w ha => fun_sound hmix (ok_t2plus c hB) qN_ok Tryz.func182 (run_t2minus c x y) hp ha)
set_option maxRecDepth 100000 in
theorem run_t2conj (c : Bool) (x : Q2) : funA Tryz.prog (T_t2minus c) qN (fun _ => true) Tryz.f131 40 [.v (.fl (e2 x))] = some ([], .one (.fl (e2 (conj2' x)))) := by kernel_rfl
noncomputable def T_t2conj (c : Bool) : Tab := (T_t2minus c).add 131 (g1 rd2 (fun x => ([], .one (.fl (e2 (conj2' x))))))
theorem ok_t2conj (c : Bool) (hB : TabOk Tryz.prog (T_B c)) : TabOk Tryz.prog (T_t2conj c) := (ok_t2minus c hB).add Tryz.func131 (by kernel_rfl) (by kernel_rfl) (g1_ok rd2_ok fun x hp args w ha => fun_sound hmix (ok_t2minus c hB) qN_ok Tryz.func131 (run_t2conj c x) hp ha)
set_option maxRecDepth 100000 in
theorem run_t2scaled (c : Bool) (x : Q2) (y : Fq) : funA Tryz.prog (T_t2conj c) qN (fun _ => true) Tryz.f275 40 [.v (.fl (e2 x)), .v (.fl (e1 y))] = some ([], .one (.fl (e2 (sc2 x y)))) := by kernel_rfl
noncomputable def T_t2scaled (c : Bool) : Tab := (T_t2conj c).add 275 (g2 rd2 rd1 (fun x y => ([], .one (.fl (e2 (sc2 x y))))))
theorem ok_t2scaled (c : Bool) (hB : TabOk Tryz.prog (T_B c)) : TabOk Tryz.prog (T_t2scaled c) := (ok_t2conj c hB).add Tryz.func275 (by kernel_rfl) (by kernel_rfl) (g2_ok rd2_ok rd1_ok fun x y hp args w ha => fun_sound hmix (ok_t2conj c hB) qN_ok Tryz.func275 (run_t2scaled c x y) hp ha)
set_option maxRecDepth 100000 in
theorem run_t2norm (c : Bool) (x : Q2) : funA Tryz.prog (T_t2scaled c) qN (fun _ => true) Tryz.f219 40 [.v (.fl (e2 x))] = some ([], .one (.fl (e1 (nm2 x)))) := by kernel_rfl
noncomputable def T_t2norm (c : Bool) : Tab := (T_t2scaled c).add 219 (g1 rd2 (fun x => ([], .one (.fl (e1 (nm2 x))))))
theorem ok_t2norm (c : Bool) (hB : TabOk Tryz.prog (T_B c)) : TabOk Tryz.prog (T_t2norm c) := (ok_t2scaled c hB).add Tryz.func219 (by kernel_rfl) (by kernel_rfl) (g1_ok rd2_ok fun x hp args w ha => fun_sound hmix (ok_t2scaled c hB) qN_ok Tryz.func219 (run_t2norm c x) hp ha)
set_option maxRecDepth 100000 in
theorem run_t2inv (x : Q2) : funA Tryz.prog (T_t2norm true) qN (fun _ => true) Tryz.f274 40 [.v (.fl (e2 x))] = some ([nm2 x ≠ F1.zero], .many [.fl (e2 (iv2 x)), .im (.int .i64 0)]) := by kernel_rfl
set_option maxRecDepth 100000 in
theorem run_t2inv0 (x : Q2) : funA Tryz.prog (T_t2norm false) qN (fun _ => true) Tryz.f274 40 [.v (.fl (e2 x))] = some ([nm2 x = F1.zero], .many [.fl (e2 F2.zero), .im (.int .i64 22)]) := by kernel_rfl
noncomputable def oInv2 (c : Bool) (x : Q2) : List Prop × RV := bif c then ([nm2 x ≠ F1.zero], .many [.fl (e2 (iv2 x)), .im (.int .i64 0)]) else ([nm2 x = F1.zero], .many [.fl (e2 F2.zero), .im (.int .i64 22)])
theorem inv2_ok (c : Bool) (hB : TabOk Tryz.prog (T_B c)) (x : Q2) (hp : allP (oInv2 c x).1) (args : List Value) (w : World) (ha : CAs w [.v (.fl (e2 x))] args) : Good Tryz.prog 274 (oInv2 c x).2 args w := by
  cases c
  · exact fun_sound hmix (ok_t2norm false hB) qN_ok Tryz.func274 (run_t2inv0 x) hp ha
  · exact fun_sound hmix (ok_t2norm true hB) qN_ok Tryz.func274 (run_t2inv x) hp ha
noncomputable def T_t2inv (c : Bool) : Tab := (T_t2norm c).add 274 (g1 rd2 (oInv2 c))
theorem ok_t2inv (c : Bool) (hB : TabOk Tryz.prog (T_B c)) : TabOk Tryz.prog (T_t2inv c) := (ok_t2norm c hB).add Tryz.func274 (by kernel_rfl) (by kernel_rfl) (g1_ok rd2_ok (inv2_ok c hB))

/-- lists of elements, laid one after another -/
def twos : Nat → List At → Option (List Q2)
  | 0, [] => some []
  | n + 1, .f a :: .f b :: r => match twos n r with | some l => some ((a, b) :: l) | none => none
  | _, _ => none
def e2s : List Q2 → List At
  | [] => []
  | x :: r => .f x.1 :: .f x.2 :: e2s r
theorem twos_ok : ∀ {n : Nat} {l : List At} {x : List Q2}, twos n l = some x → l = e2s x ∧ x.length = n
  | 0, [], x, h => by cases h; exact ⟨rfl, rfl⟩
  | n + 1, .f a :: .f b :: r, x, h => by
    unfold twos at h
    split at h
    · rename_i l hl
      cases h
      obtain ⟨h1, h2⟩ := twos_ok hl
      exact ⟨by rw [h1]; rfl, by rw [List.length_cons, h2]⟩
    · cases h
  | 0, _ :: _, x, h => by cases h
  | n + 1, [], x, h => by cases h
  | n + 1, [_], x, h => by unfold twos at h; split at h <;> first | (cases h; done) | (rename_i heq; cases heq)
  | n + 1, .q _ :: _ :: _, x, h => by cases h
  | n + 1, .c _ :: _ :: _, x, h => by cases h
  | n + 1, .f _ :: .q _ :: _, x, h => by cases h
  | n + 1, .f _ :: .c _ :: _, x, h => by cases h
def dotQ : List Q2 → List Q2 → Q2
  | [x], [y] => F2.mul x y
  | [x, y], [z, t] => F2.add (F2.mul x z) (F2.mul y t)
  | [x, y, z], [s, t, u] => F2.add (F2.add (F2.mul x s) (F2.mul y t)) (F2.mul z u)
  | _, _ => F2.zero
def gSum : Ent
  | [.s l n m, .s l' n' m'] => bif Nat.beq n n' && (Nat.ble n 3 && Nat.ble 1 n) then (match twos n l, twos n' l' with
    | some x, some y => some ([], .one (.fl (e2 (dotQ x y))))
    | _, _ => none) else none
  | _ => none
def sl2 : List Q2 → List Fq
  | [] => []
  | x :: r => x.1 :: F1.neg x.2 :: sl2 r
def cr2 : List Q2 → List Fq
  | [] => []
  | x :: r => x.2 :: x.1 :: cr2 r
def st2 : List Q2 → List Fq
  | [] => []
  | x :: r => x.1 :: x.2 :: st2 r
set_option maxRecDepth 100000 in
theorem run_sum1 (c : Bool) (x s : Q2) (m m' : Nat) : funA Tryz.prog (T_t2inv c) qN (fun _ => true) Tryz.f167 40 [.s (e2s [x]) 1 m, .s (e2s [s]) 1 m'] = some ([], .one (.fl (e2 (dotF (sl2 [x]) (st2 [s]), dotF (cr2 [x]) (st2 [s]))))) := by kernel_rfl
set_option maxRecDepth 100000 in
theorem run_sum2 (c : Bool) (x y s t : Q2) (m m' : Nat) : funA Tryz.prog (T_t2inv c) qN (fun _ => true) Tryz.f167 40 [.s (e2s [x, y]) 2 m, .s (e2s [s, t]) 2 m'] = some ([], .one (.fl (e2 (dotF (sl2 [x, y]) (st2 [s, t]), dotF (cr2 [x, y]) (st2 [s, t]))))) := by kernel_rfl
set_option maxRecDepth 100000 in
theorem run_sum3 (c : Bool) (x y z s t u : Q2) (m m' : Nat) : funA Tryz.prog (T_t2inv c) qN (fun _ => true) Tryz.f167 40 [.s (e2s [x, y, z]) 3 m, .s (e2s [s, t, u]) 3 m'] = some ([], .one (.fl (e2 (dotF (sl2 [x, y, z]) (st2 [s, t, u]), dotF (cr2 [x, y, z]) (st2 [s, t, u]))))) := by kernel_rfl
theorem mul2_1 (x s : Q2) : (F2.mul x s).1 = F1.add (F1.mul x.1 s.1) (F1.mul (F1.neg x.2) s.2) := by
  show F1.add (F1.mul x.1 s.1) (F1.mul (F1.neg F1.one) (F1.mul x.2 s.2)) = _
  rw [F1.neg_mul, F1.one_mul, F1.neg_mul]
theorem mul2_2 (x s : Q2) : (F2.mul x s).2 = F1.add (F1.mul x.2 s.1) (F1.mul x.1 s.2) := F1.add_comm _ _
theorem raw_sum1 (x s : Q2) : dotQ [x] [s] = (dotF (sl2 [x]) (st2 [s]), dotF (cr2 [x]) (st2 [s])) := Prod.ext (mul2_1 x s) (mul2_2 x s)
theorem raw_sum2 (x y s t : Q2) : dotQ [x, y] [s, t] = (dotF (sl2 [x, y]) (st2 [s, t]), dotF (cr2 [x, y]) (st2 [s, t])) := by
  refine Prod.ext ?_ ?_
  · show F1.add (F2.mul x s).1 (F2.mul y t).1 = F1.add (F1.add (F1.add (F1.mul x.1 s.1) (F1.mul (F1.neg x.2) s.2)) (F1.mul y.1 t.1)) (F1.mul (F1.neg y.2) t.2)
    rw [mul2_1, mul2_1]; simp only [F1.add_assoc]
  · show F1.add (F2.mul x s).2 (F2.mul y t).2 = F1.add (F1.add (F1.add (F1.mul x.2 s.1) (F1.mul x.1 s.2)) (F1.mul y.2 t.1)) (F1.mul y.1 t.2)
    rw [mul2_2, mul2_2]; simp only [F1.add_assoc]
theorem raw_sum3 (x y z s t u : Q2) : dotQ [x, y, z] [s, t, u] = (dotF (sl2 [x, y, z]) (st2 [s, t, u]), dotF (cr2 [x, y, z]) (st2 [s, t, u])) := by
  refine Prod.ext ?_ ?_
  · show F1.add (F1.add (F2.mul x s).1 (F2.mul y t).1) (F2.mul z u).1 = F1.add (F1.add (F1.add (F1.add (F1.add (F1.mul x.1 s.1) (F1.mul (F1.neg x.2) s.2)) (F1.mul y.1 t.1)) (F1.mul (F1.neg y.2) t.2)) (F1.mul z.1 u.1)) (F1.mul (F1.neg z.2) u.2)
    rw [mul2_1, mul2_1, mul2_1]; simp only [F1.add_assoc]
  · show F1.add (F1.add (F2.mul x s).2 (F2.mul y t).2) (F2.mul z u).2 = F1.add (F1.add (F1.add (F1.add (F1.add (F1.mul x.2 s.1) (F1.mul x.1 s.2)) (F1.mul y.2 t.1)) (F1.mul y.1 t.2)) (F1.mul z.2 u.1)) (F1.mul z.1 u.2)
    rw [mul2_2, mul2_2, mul2_2]; simp only [F1.add_assoc]
theorem sum_ok (c : Bool) (hB : TabOk Tryz.prog (T_B c)) : ∀ cs pre r, gSum cs = some (pre, r) → allP pre → ∀ (args : List Value) (w : World), CAs w cs args → Good Tryz.prog 167 r args w := by
  intro cs pre r hg hp args w ha
  unfold gSum at hg
  split at hg
  · rename_i l n m l' n' m'
    cases hb : (Nat.beq n n' && (Nat.ble n 3 && Nat.ble 1 n)) <;> rw [hb] at hg
    · cases hg
    · simp only [cond_true] at hg
      split at hg
      · rename_i x y hx hy
        cases hg
        obtain ⟨e1, e2⟩ := twos_ok hx
        obtain ⟨e3, e4⟩ := twos_ok hy
        subst e1; subst e3
        simp only [Bool.and_eq_true] at hb
        have hn := Nat.eq_of_beq_eq_true hb.1
        have h3 := Nat.le_of_ble_eq_true hb.2.1
        have h1 := Nat.le_of_ble_eq_true hb.2.2
        subst hn
        match x, y, n, e2, e4, h3, h1 with
        | [x], [s], 1, _, _, _, _ =>
          rw [raw_sum1]
          exact fun_sound hmix (ok_t2inv c hB) qN_ok Tryz.func167 (run_sum1 c x s m m') trivial ha
        | [x, y], [s, t], 2, _, _, _, _ =>
          rw [raw_sum2]
          exact fun_sound hmix (ok_t2inv c hB) qN_ok Tryz.func167 (run_sum2 c x y s t m m') trivial ha
        | [x, y, z], [s, t, u], 3, _, _, _, _ =>
          rw [raw_sum3]
          exact fun_sound hmix (ok_t2inv c hB) qN_ok Tryz.func167 (run_sum3 c x y z s t u m m') trivial ha
        | [], _, _, e2, _, _, h1 => exact absurd h1 (by rw [← e2]; decide)
        | _ :: _ :: _ :: _ :: l, _, _, e2, _, h3, _ => exact absurd h3 (by rw [← e2]; simp)
        | [_], [], _, e2, e4, _, _ => rw [← e2] at e4; cases e4
        | [_], _ :: _ :: _, _, e2, e4, _, _ => rw [← e2] at e4; simp at e4
        | [_, _], [], _, e2, e4, _, _ => rw [← e2] at e4; cases e4
        | [_, _], [_], _, e2, e4, _, _ => rw [← e2] at e4; cases e4
        | [_, _], _ :: _ :: _ :: _, _, e2, e4, _, _ => rw [← e2] at e4; simp at e4
        | [_, _, _], [], _, e2, e4, _, _ => rw [← e2] at e4; cases e4
        | [_, _, _], [_], _, e2, e4, _, _ => rw [← e2] at e4; cases e4
        | [_, _, _], [_, _], _, e2, e4, _, _ => rw [← e2] at e4; cases e4
        | [_, _, _], _ :: _ :: _ :: _ :: _, _, e2, e4, _, _ => rw [← e2] at e4; simp at e4
      · cases hg
  · cases hg
noncomputable def T_sum2 (c : Bool) : Tab := (T_t2inv c).add 167 gSum
theorem ok_sum2 (c : Bool) (hB : TabOk Tryz.prog (T_B c)) : TabOk Tryz.prog (T_sum2 c) := (ok_t2inv c hB).add Tryz.func167 (by kernel_rfl) (by kernel_rfl) (sum_ok c hB)
set_option maxRecDepth 100000 in
theorem run_t2times (c : Bool) (x : Q2) (y : Q2) : funA Tryz.prog (T_sum2 c) qN (fun _ => true) Tryz.f130 40 [.v (.fl (e2 x)), .v (.fl (e2 y))] = some ([], .one (.fl (e2 (F2.mul x y)))) := by kernel_rfl
noncomputable def T_t2times (c : Bool) : Tab := (T_sum2 c).add 130 (g2 rd2 rd2 (fun x y => ([], .one (.fl (e2 (F2.mul x y))))))
theorem ok_t2times (c : Bool) (hB : TabOk Tryz.prog (T_B c)) : TabOk Tryz.prog (T_t2times c) := (ok_sum2 c hB).add Tryz.func130 (by kernel_rfl) (by kernel_rfl) (g2_ok rd2_ok rd2_ok fun x y hp args w ha => fun_sound hmix (ok_sum2 c hB) qN_ok Tryz.func130 (run_t2times c x y) hp ha)
set_option maxRecDepth 100000 in
theorem run_rest2 (c : Bool) (x : N2) : funA Tryz.prog (T_t2times c) qN (fun _ => true) Tryz.f129 40 [.v (.fl (q2 x))] = some ([], .one (.fl (e2 (m2 x)))) := by kernel_rfl
noncomputable def T_rest2 (c : Bool) : Tab := (T_t2times c).add 129 (g1 rq2 (fun x => ([], .one (.fl (e2 (m2 x))))))
theorem ok_rest2 (c : Bool) (hB : TabOk Tryz.prog (T_B c)) : TabOk Tryz.prog (T_rest2 c) := (ok_t2times c hB).add Tryz.func129 (by kernel_rfl) (by kernel_rfl) (g1_ok rq2_ok fun x hp args w ha => fun_sound hmix (ok_t2times c hB) qN_ok Tryz.func129 (run_rest2 c x) hp ha)
end Go.Proofs.YthlcjdcjnioeoaaGreat.Ex
namespace Go.Proofs.YthlcjdcjnioeoaaGreat.Ex
set_option linter.unusedVariables false
set_option linter.unusedSimpArgs false
open Go.RowKit

def s6 (x : Q6) (k : Q2) : Q6 := (F2.mul x.1 k, F2.mul x.2.1 k, F2.mul x.2.2 k)
end Go.Proofs.YthlcjdcjnioeoaaGreat.Ex
namespace Go.Proofs.YthlcjdcjnioeoaaGreat.Ex
set_option linter.unusedVariables false
set_option linter.unusedSimpArgs false

inductive RE | v (i : Nat) | add (a b : RE) | mul (a b : RE) | neg (a : RE) | zero | one
section
variable {R : Type} (K : CR R) (env : Nat → R)
def RE.den : RE → R
  | .v i => env i
  | .add a b => K.add (a.den) (b.den)
  | .mul a b => K.mul (a.den) (b.den)
  | .neg a => K.neg a.den
  | .zero => K.zero
  | .one => K.one
/-- n times x -/
def nt (x : R) : Nat → R
  | 0 => K.zero
  | n + 1 => K.add (nt x n) x
def zt (x : R) : Int → R
  | .ofNat n => nt K x n
  | .negSucc n => K.neg (nt K x (n + 1))
def mono : List Nat → R
  | [] => K.one
  | i :: r => K.mul (env i) (mono r)
def pden : List (Int × List Nat) → R
  | [] => K.zero
  | (c, m) :: r => K.add (zt K (mono K env m) c) (pden r)
end
def ltL : List Nat → List Nat → Bool
  | [], [] => false
  | [], _ :: _ => true
  | _ :: _, [] => false
  | a :: r, b :: s => bif Nat.blt a b then true else bif Nat.blt b a then false else ltL r s
def eqL : List Nat → List Nat → Bool
  | [], [] => true
  | a :: r, b :: s => bif Nat.beq a b then eqL r s else false
  | _, _ => false
theorem eqL_eq : ∀ {a b : List Nat}, eqL a b = true → a = b
  | [], [], _ => rfl
  | a :: r, b :: s, h => by
    unfold eqL at h
    cases hb : Nat.beq a b <;> rw [hb] at h
    · cases h
    · rw [Nat.eq_of_beq_eq_true hb, eqL_eq h]
  | [], _ :: _, h => by cases h
  | _ :: _, [], h => by cases h
/-- one monomial more -/
def ins (c : Int) (m : List Nat) : List (Int × List Nat) → List (Int × List Nat)
  | [] => [(c, m)]
  | (d, k) :: r => bif eqL m k then (c + d, k) :: r else bif ltL m k then (c, m) :: (d, k) :: r else (d, k) :: ins c m r
def padd : List (Int × List Nat) → List (Int × List Nat) → List (Int × List Nat)
  | [], q => q
  | (c, m) :: r, q => ins c m (padd r q)
def insM (i : Nat) : List Nat → List Nat
  | [] => [i]
  | j :: r => bif Nat.ble i j then i :: j :: r else j :: insM i r
def mulM : List Nat → List Nat → List Nat
  | [], m => m
  | i :: r, m => insM i (mulM r m)
def pmul1 (c : Int) (m : List Nat) : List (Int × List Nat) → List (Int × List Nat)
  | [] => []
  | (d, k) :: r => ins (c * d) (mulM m k) (pmul1 c m r)
def pmul : List (Int × List Nat) → List (Int × List Nat) → List (Int × List Nat)
  | [], _ => []
  | (c, m) :: r, q => padd (pmul1 c m q) (pmul r q)
def pneg : List (Int × List Nat) → List (Int × List Nat)
  | [] => []
  | (c, m) :: r => (-c, m) :: pneg r
def RE.norm : RE → List (Int × List Nat)
  | .v i => [(1, [i])]
  | .add a b => padd a.norm b.norm
  | .mul a b => pmul a.norm b.norm
  | .neg a => pneg a.norm
  | .zero => []
  | .one => [(1, [])]
def isZ : List (Int × List Nat) → Bool
  | [] => true
  | (.ofNat 0, _) :: r => isZ r
  | _ => false
section
variable {R : Type} (K : CR R) (env : Nat → R)
theorem nt_add (x : R) (n : Nat) : ∀ m, nt K x (n + m) = K.add (nt K x n) (nt K x m)
  | 0 => (K.add_zero _).symm
  | m + 1 => by show K.add (nt K x (n + m)) x = _; rw [nt_add x n m, K.add_assoc]; rfl
theorem neg_zero : K.neg K.zero = K.zero := by
  apply K.add_cancel (a := K.zero)
  rw [K.add_neg, K.add_zero]
theorem zt_sub (x : R) (n m : Nat) : zt K x (Int.subNatNat n m) = K.add (nt K x n) (K.neg (nt K x m)) := by
  unfold Int.subNatNat
  split
  · rename_i h
    have : n = m + (n - m) := by omega
    show nt K x (n - m) = _
    conv => rhs; rw [this, nt_add]
    rw [K.add_comm (nt K x m), K.add_assoc, K.add_neg, K.add_zero]
  · rename_i k h
    have : m = n + (k + 1) := by omega
    show K.neg (nt K x (k + 1)) = K.add (nt K x n) (K.neg (nt K x m))
    rw [this, nt_add K x n (k + 1), K.neg_add' (nt K x n), ← K.add_assoc, K.add_neg, K.zero_add]
theorem zt_add (x : R) (a b : Int) : zt K x (a + b) = K.add (zt K x a) (zt K x b) := by
  cases a with
  | ofNat n =>
    cases b with
    | ofNat m => exact nt_add K x n m
    | negSucc m => exact zt_sub K x n (m + 1)
  | negSucc n =>
    cases b with
    | ofNat m => show zt K x (Int.subNatNat m (n + 1)) = _; rw [zt_sub, K.add_comm]; rfl
    | negSucc m =>
      show K.neg (nt K x (n + m + 1 + 1)) = K.add (K.neg (nt K x (n + 1))) (K.neg (nt K x (m + 1)))
      rw [← K.neg_add', ← nt_add, show n + 1 + (m + 1) = n + m + 1 + 1 by omega]
theorem zt_neg (x : R) (a : Int) : zt K x (-a) = K.neg (zt K x a) := by
  apply K.add_cancel (a := zt K x a)
  rw [← zt_add, K.add_neg, Int.add_right_neg]
  rfl
theorem nt_mul (x y : R) (n : Nat) : ∀ m, K.mul (nt K x n) (nt K y m) = nt K (K.mul x y) (n * m)
  | 0 => K.mul_zero _
  | m + 1 => by
    show K.mul _ (K.add (nt K y m) y) = _
    rw [K.mul_add, nt_mul x y n m, Nat.mul_add, Nat.mul_one, nt_add]
    congr 1
    clear nt_mul
    induction n with
    | zero => exact K.zero_mul _
    | succ n ih => show K.mul (K.add (nt K x n) x) y = _; rw [K.add_mul, ih]; rfl
theorem zt_mul (x y : R) (a b : Int) : K.mul (zt K x a) (zt K y b) = zt K (K.mul x y) (a * b) := by
  have hn : ∀ (c : Int), ∃ n : Nat, c = n ∨ c = -(n : Int) := fun c => ⟨c.natAbs, Int.natAbs_eq c⟩
  have h0 : ∀ n m : Nat, K.mul (zt K x n) (zt K y m) = zt K (K.mul x y) ((n : Int) * m) := fun n m => by
    rw [← Int.natCast_mul]; exact nt_mul K x y n m
  obtain ⟨n, rfl | rfl⟩ := hn a
  · obtain ⟨m, rfl | rfl⟩ := hn b
    · exact h0 n m
    · rw [zt_neg, K.mul_neg, h0, Int.mul_neg, zt_neg]
  · obtain ⟨m, rfl | rfl⟩ := hn b
    · rw [zt_neg, K.neg_mul, h0, Int.neg_mul, zt_neg]
    · rw [zt_neg, zt_neg, K.neg_mul, K.mul_neg, K.neg_neg, h0, Int.neg_mul_neg]
theorem ins_den (c : Int) (m : List Nat) : ∀ q, pden K env (ins c m q) = K.add (zt K (mono K env m) c) (pden K env q)
  | [] => rfl
  | (d, k) :: r => by
    unfold ins
    cases he : eqL m k
    · cases hl : ltL m k
      · show K.add (zt K (mono K env k) d) (pden K env (ins c m r)) = K.add _ (K.add _ _)
        rw [ins_den c m r, K.add_left_comm]
      · rfl
    · rw [eqL_eq he]
      show K.add (zt K (mono K env k) (c + d)) (pden K env r) = K.add _ (K.add _ _)
      rw [zt_add, K.add_assoc]
theorem padd_den : ∀ p q, pden K env (padd p q) = K.add (pden K env p) (pden K env q)
  | [], q => (K.zero_add _).symm
  | (c, m) :: r, q => by
    show pden K env (ins c m (padd r q)) = K.add (K.add _ _) _
    rw [ins_den, padd_den r q, K.add_assoc]
theorem insM_den (i : Nat) : ∀ m, mono K env (insM i m) = K.mul (env i) (mono K env m)
  | [] => rfl
  | j :: r => by
    unfold insM
    cases Nat.ble i j
    · show K.mul (env j) (mono K env (insM i r)) = K.mul _ (K.mul _ _)
      rw [insM_den i r, K.mul_left_comm]
    · rfl
theorem mulM_den : ∀ m k, mono K env (mulM m k) = K.mul (mono K env m) (mono K env k)
  | [], k => (K.one_mul _).symm
  | i :: r, k => by
    show mono K env (insM i (mulM r k)) = K.mul (K.mul _ _) _
    rw [insM_den, mulM_den r k, K.mul_assoc]
theorem pmul1_den (c : Int) (m : List Nat) : ∀ q, pden K env (pmul1 c m q) = K.mul (zt K (mono K env m) c) (pden K env q)
  | [] => (K.mul_zero _).symm
  | (d, k) :: r => by
    show pden K env (ins (c * d) (mulM m k) (pmul1 c m r)) = K.mul _ (K.add _ _)
    rw [ins_den, pmul1_den c m r, K.mul_add, mulM_den, zt_mul]
theorem pmul_den : ∀ p q, pden K env (pmul p q) = K.mul (pden K env p) (pden K env q)
  | [], q => (K.zero_mul _).symm
  | (c, m) :: r, q => by
    show pden K env (padd (pmul1 c m q) (pmul r q)) = K.mul (K.add _ _) _
    rw [padd_den, pmul1_den, pmul_den r q, K.add_mul]
theorem pneg_den : ∀ p, pden K env (pneg p) = K.neg (pden K env p)
  | [] => (neg_zero K).symm
  | (c, m) :: r => by
    show K.add (zt K (mono K env m) (-c)) (pden K env (pneg r)) = K.neg (K.add _ _)
    rw [pneg_den r, K.neg_add', zt_neg]
theorem norm_den : ∀ e : RE, pden K env e.norm = e.den K env
  | .v i => by show K.add (K.add K.zero (K.mul (env i) K.one)) K.zero = env i; rw [K.add_zero, K.zero_add, K.mul_one]
  | .add a b => by show pden K env (padd _ _) = K.add _ _; rw [padd_den, norm_den a, norm_den b]
  | .mul a b => by show pden K env (pmul _ _) = K.mul _ _; rw [pmul_den, norm_den a, norm_den b]
  | .neg a => by show pden K env (pneg _) = K.neg _; rw [pneg_den, norm_den a]
  | .zero => rfl
  | .one => by show K.add (K.add K.zero K.one) K.zero = K.one; rw [K.add_zero, K.zero_add]
theorem isZ_den : ∀ p, isZ p = true → pden K env p = K.zero
  | [], _ => rfl
  | (.ofNat 0, m) :: r, h => by
    show K.add K.zero (pden K env r) = _
    rw [K.zero_add]
    exact isZ_den r h
  | (.ofNat (_ + 1), _) :: _, h => by cases h
  | (.negSucc _, _) :: _, h => by cases h
/-- two expressions are one, if their difference has no monomial -/
theorem ring_id (a b : RE) (h : isZ (RE.norm (.add a (.neg b))) = true) : a.den K env = b.den K env := by
  have := isZ_den K env _ h
  rw [norm_den] at this
  have h2 : K.add (K.add (a.den K env) (K.neg (b.den K env))) (b.den K env) = K.add K.zero (b.den K env) := congrArg (fun x => K.add x (b.den K env)) this
  rwa [K.add_assoc, K.neg_add, K.add_zero, K.zero_add] at h2
end
/-- variables of an identity -/
def envL {R : Type} (K : CR R) (l : List R) (i : Nat) : R := (l[i]?).getD K.zero
end Go.Proofs.YthlcjdcjnioeoaaGreat.Ex
namespace Go.Proofs.YthlcjdcjnioeoaaGreat.Ex
set_option linter.unusedVariables false
set_option linter.unusedSimpArgs false
open Go.RowKit

noncomputable def oInvY (c : Bool) (x : N2) : List Prop × RV := bif c then ([nm2 (m2 x) ≠ F1.zero], .many [.fl (e2 (iv2 (m2 x))), .im (.int .i64 0)]) else ([nm2 (m2 x) = F1.zero], .many [.fl (e2 F2.zero), .im (.int .i64 22)])
set_option maxRecDepth 100000 in
theorem run_Inv2_true (x : N2) : funA Tryz.prog (T_rest2 true) qN (fun _ => true) Tryz.f273 40 [.v (.fl (q2 x))] = some ([nm2 (m2 x) ≠ F1.zero], .many [.fl (e2 (iv2 (m2 x))), .im (.int .i64 0)]) := by kernel_rfl
set_option maxRecDepth 100000 in
theorem run_Inv2_false (x : N2) : funA Tryz.prog (T_rest2 false) qN (fun _ => true) Tryz.f273 40 [.v (.fl (q2 x))] = some ([nm2 (m2 x) = F1.zero], .many [.fl (e2 F2.zero), .im (.int .i64 22)]) := by kernel_rfl
theorem oInvY_ok (c : Bool) (hB : TabOk Tryz.prog (T_B c)) (x : N2) (hp : allP (oInvY c x).1) (args : List Value) (w : World) (ha : CAs w [.v (.fl (q2 x))] args) : Good Tryz.prog 273 (oInvY c x).2 args w := by
  cases c
  · exact fun_sound hmix (ok_rest2 false hB) qN_ok Tryz.func273 (run_Inv2_false x) hp ha
  · exact fun_sound hmix (ok_rest2 true hB) qN_ok Tryz.func273 (run_Inv2_true x) hp ha
noncomputable def T_Inv2 (c : Bool) : Tab := (T_rest2 c).add 273 (g1 rq2 (oInvY c))
theorem ok_Inv2 (c : Bool) (hB : TabOk Tryz.prog (T_B c)) : TabOk Tryz.prog (T_Inv2 c) := (ok_rest2 c hB).add Tryz.func273 (by kernel_rfl) (by kernel_rfl) (g1_ok rq2_ok (oInvY_ok c hB))
set_option maxRecDepth 100000 in
theorem run_Mul2 (c : Bool) (x : N2) (y : N2) : funA Tryz.prog (T_Inv2 c) qN (fun _ => true) Tryz.f78 40 [.v (.fl (q2 x)), .v (.fl (q2 y))] = some ([], .one (.fl (e2 (F2.mul (m2 x) (m2 y))))) := by kernel_rfl
noncomputable def T_Mul2 (c : Bool) : Tab := (T_Inv2 c).add 78 (g2 rq2 rq2 (fun x y => ([], .one (.fl (e2 (F2.mul (m2 x) (m2 y)))))))
theorem ok_Mul2 (c : Bool) (hB : TabOk Tryz.prog (T_B c)) : TabOk Tryz.prog (T_Mul2 c) := (ok_Inv2 c hB).add Tryz.func78 (by kernel_rfl) (by kernel_rfl) (g2_ok rq2_ok rq2_ok fun x y hp args w ha => fun_sound hmix (ok_Inv2 c hB) qN_ok Tryz.func78 (run_Mul2 c x y) hp ha)
set_option maxRecDepth 100000 in
theorem run_Neg2 (c : Bool) (x : N2) : funA Tryz.prog (T_Mul2 c) qN (fun _ => true) Tryz.f150 40 [.v (.fl (q2 x))] = some ([], .one (.fl (e2 (F2.sub F2.zero (m2 x))))) := by kernel_rfl
noncomputable def T_Neg2 (c : Bool) : Tab := (T_Mul2 c).add 150 (g1 rq2 (fun x => ([], .one (.fl (e2 (F2.sub F2.zero (m2 x)))))))
theorem ok_Neg2 (c : Bool) (hB : TabOk Tryz.prog (T_B c)) : TabOk Tryz.prog (T_Neg2 c) := (ok_Mul2 c hB).add Tryz.func150 (by kernel_rfl) (by kernel_rfl) (g1_ok rq2_ok fun x hp args w ha => fun_sound hmix (ok_Mul2 c hB) qN_ok Tryz.func150 (run_Neg2 c x) hp ha)

end Go.Proofs.YthlcjdcjnioeoaaGreat.Ex
namespace Go.Proofs.YthlcjdcjnioeoaaGreat
set_option linter.unusedVariables false
open Go.RowKit

theorem run_Add64 (x y c : Nat) (hc : c ≤ 1) (w : World) :
    (callFunc 212 #[.int .u64 (x : Int), .int .u64 (y : Int), .int .u64 (c : Int)]).run Tryz.prog w =
      .ok (.value (.tuple #[.int .u64 (addS x y c : Nat), .int .u64 (addC x y c : Nat)])) w := by
  rw [run_callFunc_extern Tryz.func212 (by kernel_rfl) (by kernel_rfl) (by kernel_rfl) (e := add64Entry) (by kernel_rfl), run_add64 x y c (by omega) (by omega) (by omega) (by omega)]
  simp only [Result.andThen]
  unfold addS addC
  congr 5 <;> omega
theorem run_Add64z (x y : Nat) (w : World) :
    (callFunc 212 #[.int .u64 (x : Int), .int .u64 (y : Int), .int .u64 0]).run Tryz.prog w =
      .ok (.value (.tuple #[.int .u64 (addS x y 0 : Nat), .int .u64 (addC x y 0 : Nat)])) w := run_Add64 x y 0 (by omega) w
def sub64E : Array Value → Sem Value := fun args => do
  let (x, y, b) ← Extern.MathBitsCarry.three "Sub64" args
  pure (Extern.MathBitsCarry.pair ((x + Extern.MathBitsCarry.m64 - y - b) % Extern.MathBitsCarry.m64) (if x < y + b then 1 else 0))
theorem run_sub64E {P : Program} (x y b : Nat) (hb : b ≤ 1) (w : World) :
    (sub64E #[.int .u64 x, .int .u64 y, .int .u64 b]).run P w = .ok (.tuple #[.int .u64 (subD x y b : Nat), .int .u64 (subB x y b : Nat)]) w := by
  have : b = 0 ∨ b = 1 := by omega
  rcases this with rfl | rfl <;> rfl
theorem run_Sub64 (x y c : Nat) (hc : c ≤ 1) (w : World) :
    (callFunc 136 #[.int .u64 (x : Int), .int .u64 (y : Int), .int .u64 (c : Int)]).run Tryz.prog w =
      .ok (.value (.tuple #[.int .u64 (subD x y c : Nat), .int .u64 (subB x y c : Nat)])) w := by
  rw [run_callFunc_extern Tryz.func136 (by kernel_rfl) (by kernel_rfl) (by kernel_rfl) (e := sub64E) (by kernel_rfl), run_sub64E x y c hc]
  rfl
theorem run_Sub64z (x y : Nat) (w : World) :
    (callFunc 136 #[.int .u64 (x : Int), .int .u64 (y : Int), .int .u64 0]).run Tryz.prog w =
      .ok (.value (.tuple #[.int .u64 (subD x y 0 : Nat), .int .u64 (subB x y 0 : Nat)])) w := run_Sub64 x y 0 (by omega) w

theorem ex_Add64 {x y c : Nat} (hx : x < 18446744073709551616) (hy : y < 18446744073709551616) (hc : c ≤ 1) : ∃ d b : Nat, (∀ w, (callFunc 212 #[.int .u64 (x : Int), .int .u64 (y : Int), .int .u64 (c : Int)]).run Tryz.prog w =
      .ok (.value (.tuple #[.int .u64 (d : Int), .int .u64 (b : Int)])) w) ∧ d < 18446744073709551616 ∧ b ≤ 1 ∧ Hid (d + 18446744073709551616 * b = x + y + c) :=
  ⟨_, _, run_Add64 x y c hc, addS_lt _ _ _, addC_le hx hy hc, addSC x y c⟩
theorem ex_Add64z {x y : Nat} (hx : x < 18446744073709551616) (hy : y < 18446744073709551616) : ∃ d b : Nat, (∀ w, (callFunc 212 #[.int .u64 (x : Int), .int .u64 (y : Int), .int .u64 0]).run Tryz.prog w =
      .ok (.value (.tuple #[.int .u64 (d : Int), .int .u64 (b : Int)])) w) ∧ d < 18446744073709551616 ∧ b ≤ 1 ∧ Hid (d + 18446744073709551616 * b = x + y) :=
  ⟨_, _, run_Add64z x y, addS_lt _ _ _, addC_le hx hy (Nat.zero_le _), addSC x y 0⟩
theorem ex_Sub64 {x y c : Nat} (hx : x < 18446744073709551616) (hy : y < 18446744073709551616) (hc : c ≤ 1) : ∃ d b : Nat, (∀ w, (callFunc 136 #[.int .u64 (x : Int), .int .u64 (y : Int), .int .u64 (c : Int)]).run Tryz.prog w =
      .ok (.value (.tuple #[.int .u64 (d : Int), .int .u64 (b : Int)])) w) ∧ d < 18446744073709551616 ∧ b ≤ 1 ∧ Hid (d + y + c = x + 18446744073709551616 * b) :=
  ⟨_, _, run_Sub64 x y c hc, subD_lt _ _ _, subB_le _ _ _, subDB hx hy hc⟩
theorem ex_Sub64z {x y : Nat} (hx : x < 18446744073709551616) (hy : y < 18446744073709551616) : ∃ d b : Nat, (∀ w, (callFunc 136 #[.int .u64 (x : Int), .int .u64 (y : Int), .int .u64 0]).run Tryz.prog w =
      .ok (.value (.tuple #[.int .u64 (d : Int), .int .u64 (b : Int)])) w) ∧ d < 18446744073709551616 ∧ b ≤ 1 ∧ Hid (d + y = x + 18446744073709551616 * b) :=
  ⟨_, _, run_Sub64z x y, subD_lt _ _ _, subB_le _ _ _, subDB hx hy (Nat.zero_le _)⟩

/-- A sum: four words and a carry. -/
def AddPost (A B : Nat) (w : World) (e : Ending) (w' : World) : Prop :=
  ∃ s0 s1 s2 s3 c : Nat, e = .returned (.tuple #[.agg #[.int .u64 s0, .int .u64 s1, .int .u64 s2, .int .u64 s3], .int .u64 c]) ∧ ok4 s0 s1 s2 s3 ∧ c ≤ 1 ∧ val4 s0 s1 s2 s3 + 115792089237316195423570985008687907853269984665640564039457584007913129639936 * c = A + B ∧ Below w.heap.size w w'
/-- A difference: four words and a borrow. -/
def SubPost (A B : Nat) (w : World) (e : Ending) (w' : World) : Prop :=
  ∃ s0 s1 s2 s3 c : Nat, e = .returned (.tuple #[.agg #[.int .u64 s0, .int .u64 s1, .int .u64 s2, .int .u64 s3], .int .u64 c]) ∧ ok4 s0 s1 s2 s3 ∧ c ≤ 1 ∧ val4 s0 s1 s2 s3 + B = A + 115792089237316195423570985008687907853269984665640564039457584007913129639936 * c ∧ Below w.heap.size w w'

theorem add_calls (a0 a1 a2 a3 b0 b1 b2 b3 : Nat) (ha : ok4 a0 a1 a2 a3) (hb : ok4 b0 b1 b2 b3) (w : World) :
    Calls Tryz.prog 242 #[.agg #[.int .u64 a0, .int .u64 a1, .int .u64 a2, .int .u64 a3], .agg #[.int .u64 b0, .int .u64 b1, .int .u64 b2, .int .u64 b3]] w (AddPost (val4 a0 a1 a2 a3) (val4 b0 b1 b2 b3) w) := by
  obtain ⟨s0, c0, r0, bs0, bc0, e0⟩ := ex_Add64z ha.1 hb.1
  obtain ⟨s1, c1, r1, bs1, bc1, e1⟩ := ex_Add64 ha.2.1 hb.2.1 bc0
  obtain ⟨s2, c2, r2, bs2, bc2, e2⟩ := ex_Add64 ha.2.2.1 hb.2.2.1 bc1
  obtain ⟨s3, c3, r3, bs3, bc3, e3⟩ := ex_Add64 ha.2.2.2 hb.2.2.2 bc2
  go_enter Tryz.func242, Tryz.ntmps242
  go_wp2
  refine wp_loop_rounds 5 ?_
  rw [rounds_succ]
  go_wp2
  go_region
  go_wp2
  rw [rounds_succ]
  go_wp2
  go_region
  go_wp2
  rw [rounds_succ]
  go_wp2
  go_region
  go_wp2
  rw [rounds_succ]
  go_wp2
  go_region
  go_wp2
  rw [rounds_succ]
  go_wp2
  refine bodyPost_ret (v := .tuple #[.agg #[.int .u64 s0, .int .u64 s1, .int .u64 s2, .int .u64 s3], .int .u64 c3]) (by simp [results, Tryz.results242, go_sem]) rfl ?_
  refine ⟨_, _, _, _, _, rfl, ⟨bs0, bs1, bs2, bs3⟩, bc3, by have := e0.out; have := e1.out; have := e2.out; have := e3.out; unfold val4; omega, ?_⟩
  repeat (first | exact Below.refl _ _ | refine Below.drew ?_ | refine Below.alloc ?_ (by first | (simp; done) | (simp; omega)) _)

theorem sub_calls (a0 a1 a2 a3 b0 b1 b2 b3 : Nat) (ha : ok4 a0 a1 a2 a3) (hb : ok4 b0 b1 b2 b3) (w : World) :
    Calls Tryz.prog 86 #[.agg #[.int .u64 a0, .int .u64 a1, .int .u64 a2, .int .u64 a3], .agg #[.int .u64 b0, .int .u64 b1, .int .u64 b2, .int .u64 b3]] w (SubPost (val4 a0 a1 a2 a3) (val4 b0 b1 b2 b3) w) := by
  obtain ⟨s0, c0, r0, bs0, bc0, e0⟩ := ex_Sub64z ha.1 hb.1
  obtain ⟨s1, c1, r1, bs1, bc1, e1⟩ := ex_Sub64 ha.2.1 hb.2.1 bc0
  obtain ⟨s2, c2, r2, bs2, bc2, e2⟩ := ex_Sub64 ha.2.2.1 hb.2.2.1 bc1
  obtain ⟨s3, c3, r3, bs3, bc3, e3⟩ := ex_Sub64 ha.2.2.2 hb.2.2.2 bc2
  go_enter Tryz.func86, Tryz.ntmps86
  go_wp2
  refine wp_loop_rounds 5 ?_
  rw [rounds_succ]
  go_wp2
  go_region
  go_wp2
  rw [rounds_succ]
  go_wp2
  go_region
  go_wp2
  rw [rounds_succ]
  go_wp2
  go_region
  go_wp2
  rw [rounds_succ]
  go_wp2
  go_region
  go_wp2
  rw [rounds_succ]
  go_wp2
  refine bodyPost_ret (v := .tuple #[.agg #[.int .u64 s0, .int .u64 s1, .int .u64 s2, .int .u64 s3], .int .u64 c3]) (by simp [results, Tryz.results86, go_sem]) rfl ?_
  refine ⟨_, _, _, _, _, rfl, ⟨bs0, bs1, bs2, bs3⟩, bc3, by have := e0.out; have := e1.out; have := e2.out; have := e3.out; unfold val4; omega, ?_⟩
  repeat (first | exact Below.refl _ _ | refine Below.drew ?_ | refine Below.alloc ?_ (by first | (simp; done) | (simp; omega)) _)

/-- the cells below a block stay -/
theorem bcell {W w1 : World} (hb : Below W.heap.size W w1) : (∀ b o, b < W.heap.size → w1.cell? ⟨b, o, none⟩ = W.cell? ⟨b, o, none⟩) ∧ (∀ b o, b < W.heap.size → w1.frozen? ⟨b, o, none⟩ = W.frozen? ⟨b, o, none⟩) :=
  ⟨fun b o h => hb.cell (p := ⟨b, o, none⟩) h, fun b o h => hb.frozen (p := ⟨b, o, none⟩) h⟩

/-- The test of two numbers of four words. -/
def eqW (a0 a1 a2 a3 b0 b1 b2 b3 : Nat) : Bool := decide (a0 = b0 ∧ a1 = b1 ∧ a2 = b2 ∧ a3 = b3)
theorem equalInW (d : Nat) (a0 a1 a2 a3 b0 b1 b2 b3 : Nat) (w : World) : (Op.equalIn (d + 1 + 1) 27 (.agg #[.int .u64 a0, .int .u64 a1, .int .u64 a2, .int .u64 a3]) (.agg #[.int .u64 b0, .int .u64 b1, .int .u64 b2, .int .u64 b3])).run Tryz.prog w = .ok (eqW a0 a1 a2 a3 b0 b1 b2 b3) w := by
  have h0 : ∀ (x y : Int) (w : World), (Op.equalIn (d + 1) 22 (.int .u64 x) (.int .u64 y)).run Tryz.prog w = .ok (x == y) w := fun x y w => run_equalIn_int w d 22 .u64 .u64 x y Tryz.underlying22
  rw [Op.equalIn]
  simp only [Sem.run_bind, run_underlying Tryz.underlying27, Result.andThen_ok, Tryz.sizeOf22]
  simp [Std.Legacy.Range.forIn_eq_forIn_range', Std.Legacy.Range.size, List.range', part, h0, Sem.run_bind, Result.andThen_ok]
  unfold eqW
  by_cases q0 : a0 = b0 <;> by_cases q1 : a1 = b1 <;> by_cases q2 : a2 = b2 <;> by_cases q3 : a3 = b3 <;> simp [q0, q1, q2, q3] <;> omega
theorem eqGuardW : Tryz.prog.eqGuardType Tryz.prog.depth 27 = false := by kernel_rfl
theorem eqW_iff {a0 a1 a2 a3 b0 b1 b2 b3 : Nat} (ha : ok4 a0 a1 a2 a3) (hb : ok4 b0 b1 b2 b3) : eqW a0 a1 a2 a3 b0 b1 b2 b3 = true ↔ val4 a0 a1 a2 a3 = val4 b0 b1 b2 b3 := by
  unfold eqW; rw [decide_eq_true_iff]
  exact ⟨fun ⟨h0, h1, h2, h3⟩ => by rw [h0, h1, h2, h3], val4_inj ha hb⟩

def cmpN (A B : Nat) : Int := if A = B then 0 else if A < B then -1 else 1

end Go.Proofs.YthlcjdcjnioeoaaGreat
namespace Go.Proofs
open Go.Shelf
def Tryz.lays134_ren : Go.Shelf.Ren := ⟨fun | 134 => 243 | 129 => 231 | n => n, fun | 53 => 22 | 3 => 3 | 4 => 4 | 46 => 182 | 5 => 5 | 9 => 9 | n => n, fun | n => n⟩
theorem Tryz.lays134 : Go.Proofs.Lays.n134 Tryz.prog Tryz.lays134_ren := {
  mixed := by kernel_rfl
  f129 := Tryz.func231.trans (congrArg some (by kernel_rfl))
  f134 := Tryz.func243.trans (congrArg some (by kernel_rfl))
  t3 := Tryz.underlying3
  a3 := Tryz.isAgg3
  z3 := Tryz.sizeOf3
  v3 := Tryz.zeroValue3
  t4 := Tryz.underlying4
  a4 := Tryz.isAgg4
  z4 := Tryz.sizeOf4
  v4 := Tryz.zeroValue4
  t5 := Tryz.underlying5
  a5 := Tryz.isAgg5
  z5 := Tryz.sizeOf5
  v5 := Tryz.zeroValue5
  t9 := Tryz.underlying9
  a9 := Tryz.isAgg9
  z9 := Tryz.sizeOf9
  v9 := Tryz.zeroValue9
  t46 := Tryz.underlying182
  a46 := Tryz.isAgg182
  z46 := Tryz.sizeOf182
  v46 := Tryz.zeroValue182
  t53 := Tryz.underlying22
  a53 := Tryz.isAgg22
  z53 := Tryz.sizeOf22
  v53 := Tryz.zeroValue22 }
/-- bits.LeadingZeros64: "LeadingZeros64 returns the number of leading zero bits in x; the result is 64 for x == 0.": IT RETURNS '64 - Lib.bitLen x'; the world is as it was. ITS CALLEE bits.Len64 IS MET BY ITS OWN CONTRACT OFF THE SHELF (lay that first): entered in place it sends the kernel out of memory. (LAID: no walk: one application.) -/
theorem Tryz.bits_LeadingZeros64 (x : Int) (w : World) (h0 : 0 ≤ x) (h1 : x ≤ 18446744073709551615) :
    Calls Tryz.prog 243 #[.int .u64 x] w fun e w' => e = .returned (.int .i64 (64 - (Lib.bitLen x.toNat : Int))) ∧ w' = w := Any.bits_LeadingZeros64 Tryz.lays134 x w h0 h1
def Tryz.lays129_ren : Go.Shelf.Ren := ⟨fun | 129 => 231 | n => n, fun | 53 => 22 | 3 => 3 | 4 => 4 | 46 => 182 | 5 => 5 | 9 => 9 | n => n, fun | n => n⟩
theorem Tryz.lays129 : Go.Proofs.Lays.n129 Tryz.prog Tryz.lays129_ren := {
  mixed := by kernel_rfl
  f129 := Tryz.func231.trans (congrArg some (by kernel_rfl))
  t3 := Tryz.underlying3
  a3 := Tryz.isAgg3
  z3 := Tryz.sizeOf3
  v3 := Tryz.zeroValue3
  t4 := Tryz.underlying4
  a4 := Tryz.isAgg4
  z4 := Tryz.sizeOf4
  v4 := Tryz.zeroValue4
  t5 := Tryz.underlying5
  a5 := Tryz.isAgg5
  z5 := Tryz.sizeOf5
  v5 := Tryz.zeroValue5
  t9 := Tryz.underlying9
  a9 := Tryz.isAgg9
  z9 := Tryz.sizeOf9
  v9 := Tryz.zeroValue9
  t46 := Tryz.underlying182
  a46 := Tryz.isAgg182
  z46 := Tryz.sizeOf182
  v46 := Tryz.zeroValue182
  t53 := Tryz.underlying22
  a53 := Tryz.isAgg22
  z53 := Tryz.sizeOf22
  v53 := Tryz.zeroValue22 }
/-- bits.Len64: "Len64 returns the minimum number of bits required to represent x; the result is 0 for x == 0.": IT RETURNS 'Lib.bitLen x'; the world is as it was. ('h0', 'h1': x is a uint64.) (LAID: no walk: one application.) -/
theorem Tryz.bits_Len64 (x : Int) (w : World) (h0 : 0 ≤ x) (h1 : x ≤ 18446744073709551615) :
    Calls Tryz.prog 231 #[.int .u64 x] w fun e w' => e = .returned (.int .i64 (Lib.bitLen x.toNat)) ∧ w' = w := Any.bits_Len64 Tryz.lays129 x w h0 h1
def Tryz.lays264_ren : Go.Shelf.Ren := ⟨fun | 264 => 211 | n => n, fun | 53 => 22 | 46 => 182 | n => n, fun | n => n⟩
theorem Tryz.lays264 : Go.Proofs.Lays.n264 Tryz.prog Tryz.lays264_ren := {
  mixed := by kernel_rfl
  f264 := Tryz.func211.trans (congrArg some (by kernel_rfl))
  t46 := Tryz.underlying182
  a46 := Tryz.isAgg182
  z46 := Tryz.sizeOf182
  v46 := Tryz.zeroValue182
  t53 := Tryz.underlying22
  a53 := Tryz.isAgg22
  z53 := Tryz.sizeOf22
  v53 := Tryz.zeroValue22 }
open Go.RowKit Go.Lib in
theorem Tryz.bits_Mul64 (x y : Nat) (hx : x < 18446744073709551616) (hy : y < 18446744073709551616) (w : World) :
    Calls Tryz.prog 211 #[.int .u64 x, .int .u64 y] w fun e w' => e = .returned (.tuple #[.int .u64 ((x * y / 18446744073709551616 : Nat) : Int), .int .u64 ((x * y % 18446744073709551616 : Nat) : Int)]) ∧ w' = w := Any.bits_Mul64 Tryz.lays264 x y hx hy w
end Go.Proofs
