/-
  The reckoner: code and whole functions; tables of calls. Of whatever program. Conditions: the table of calls is right.
  Commutative rings, their square and cubic extensions, by plain words.
  Towers of pairs and triples over Fp: how their elements lie flat; what a table of calls says of functions over them. Of whatever program. Conditions: none.
-/
import Derived.KernelRfl
import Derived.Test.YtaingnhikbaplaaGreatPf03
namespace Go.Proofs.YtaingnhikbaplaaGreat.Ex
set_option linter.unusedVariables false
set_option linter.unusedSimpArgs false
open Go.RowKit

inductive EA | nrm | ex (id : Nat) | rt
def EA.out : EA → Exit
  | .nrm => .normal
  | .ex id => .exit id
  | .rt => .ret
structure Cfg where
  T : Nat → Tab
  hint : Nat → Bool
  num : Nat → Option Value
def mkE (P : Program) (q : EqT) (nt : Nat) (c : Cfg) : Env := ⟨P, c.T, q, c.hint, c.num, nt⟩
/-- code, so much fuel; what the operations are told may hang on what is left of it -/
def run (P : Program) (q : EqT) (nt : Nat) (C : Nat → Cfg) : Nat → Code → List Fact → Option (List Prop × EA × List Fact)
  | 0, _, _ => none
  | n + 1, c, A => match c with
    | .skip => some ([], .nrm, A)
    | .ret => some ([], .rt, A)
    | .exit id => some ([], .ex id, A)
    | .region id ops draw => match regA (mkE P q nt (C n)) draw ops A with | some (p, A') => some (p, .nrm, A') | none => none
    | .seq x y => match run P q nt C n x A with
      | some (p, .nrm, A1) => match run P q nt C n y A1 with | some (p2, e, A2) => some (p ++ p2, e, A2) | none => none
      | r => r
    | .cond c x y => match ev A c with | some (.im (.bool b)) => run P q nt C n (bif b then x else y) A | _ => none
    | .block id x => match run P q nt C n x A with
      | some (p, .ex j, A1) => some (p, bif Nat.beq j id then .nrm else .ex j, A1)
      | r => r
    | .loop x => match run P q nt C n x A with
      | some (p, .nrm, A1) => match run P q nt C n (.loop x) A1 with | some (p2, e, A2) => some (p ++ p2, e, A2) | none => none
      | r => r
    | _ => none
/-- the loop's body, so often at most -/
def Un (P : Program) (c : Code) (Q : Exit → Act → World → Prop) : Nat → Act → World → Prop
  | 0, _, _ => False
  | n + 1, a, w => c.wp P (Exit.then (Un P c Q n) Q) a w
theorem least {p : Nat → Prop} : ∀ n, p n → ∃ m, p m ∧ ∀ k, p k → m ≤ k := fun n h => by
  induction n using Nat.strongRecOn with
  | _ n ih =>
    by_cases hk : ∃ k, k < n ∧ p k
    · obtain ⟨k, h1, h2⟩ := hk
      exact ih k h1 h2
    · exact ⟨n, h, fun k hp => Nat.le_of_not_lt fun hlt => hk ⟨k, hlt, hp⟩⟩
theorem wp_loop_un {P : Program} {c : Code} {Q : Exit → Act → World → Prop} {n : Nat} {a : Act} {w : World} (h : Un P c Q n a w) : (Code.loop c).wp P Q a w := by
  classical
  have hmin : ∀ a w, (∃ n, Un P c Q n a w) → ∃ m, Un P c Q m a w ∧ ∀ k, Un P c Q k a w → m ≤ k := fun a w ⟨n, h⟩ => least n h
  refine wp_loop (fun a w => ∃ n, Un P c Q n a w) (fun a w => if h : ∃ n, Un P c Q n a w then (hmin a w h).choose else 0) ⟨n, h⟩ ?_
  intro a w hI
  have hs := (hmin a w hI).choose_spec
  rw [dif_pos hI]
  generalize (hmin a w hI).choose = m at hs
  cases m with
  | zero => exact hs.1.elim
  | succ m =>
    refine Code.wp_mono (fun e a' w' he => ?_) hs.1
    cases e with
    | normal =>
      have hI' : ∃ n, Un P c Q n a' w' := ⟨m, he⟩
      refine ⟨hI', ?_⟩
      rw [dif_pos hI']
      exact Nat.lt_succ_of_le ((hmin a' w' hI').choose_spec.2 m he)
    | _ => exact he
section
variable {P : Program} {q : EqT} {nt : Nat} {C : Nat → Cfg} {base : Nat} {w0 : World}
theorem run_sound (hm : P.follows .mixedOrders = true) (hT : ∀ n d, TabOkW P ((C n).T d) base w0) (hq : EqOkW P q base w0) : ∀ (n : Nat) (c : Code) (A A' : List Fact) (ps : List Prop) (e : EA) (a : Act) (w : World) (Q : Exit → Act → World → Prop),
    run P q nt C n c A = some (ps, e, A') → allP ps → Holds nt base w0 A a w → (∀ a w, Holds nt base w0 A' a w → Q e.out a w) → c.wp P Q a w ∧ ∀ x, c = .loop x → Un P x Q n a w
  | 0, c, A, A', ps, e, a, w, Q, h, hps, hA, hQ => by cases h
  | n + 1, c, A, A', ps, e, a, w, Q, h, hps, hA, hQ => by
    cases c with
    | skip => cases h; exact ⟨wp_skip (hQ a w hA), fun x e => by cases e⟩
    | ret => cases h; exact ⟨wp_ret (hQ a w hA), fun x e => by cases e⟩
    | exit id => cases h; exact ⟨wp_exit (hQ a w hA), fun x e => by cases e⟩
    | region id ops draw =>
      refine ⟨?_, fun x e => by cases e⟩
      simp only [run] at h
      split at h
      · rename_i p A1 h1
        cases h
        exact reg_sound (E := mkE P q nt (C n)) hm (hT n) hq h1 hps hA hQ
      · cases h
    | seq x y =>
      refine ⟨?_, fun x e => by cases e⟩
      simp only [run] at h
      split at h
      · rename_i p A1 h1
        split at h
        · rename_i ps2 e2 A2 h2
          cases h
          obtain ⟨p1, p2⟩ := allP_append.1 hps
          refine wp_seq (run_sound hm hT hq n x A A1 p .nrm a w _ h1 p1 hA fun a w hA1 => ?_).1
          exact (run_sound hm hT hq n y A1 A' ps2 e a w Q h2 p2 hA1 hQ).1
        · cases h
      · rename_i r hr
        refine wp_seq (run_sound hm hT hq n x A A' ps e a w _ h hps hA fun a w hA1 => ?_).1
        cases e with
        | nrm => exact (hr _ _ h).elim
        | ex id => exact hQ a w hA1
        | rt => exact hQ a w hA1
    | cond c x y =>
      refine ⟨?_, fun x e => by cases e⟩
      simp only [run] at h
      split at h
      · rename_i b hb
        obtain ⟨β, hok, _⟩ := hA.facts
        have hc : a.eval c = .bool b := ev_spec hok hb
        refine wp_cond hc ?_
        have := (run_sound hm hT hq n _ A A' ps e a w Q h hps hA hQ).1
        cases b <;> exact this
      · cases h
    | block id x =>
      refine ⟨?_, fun x e => by cases e⟩
      simp only [run] at h
      split at h
      · rename_i p j A1 h1
        cases h
        refine wp_block (run_sound hm hT hq n x A A' ps (.ex j) a w _ h1 hps hA fun a w hA1 => ?_).1
        show if j = id then Q .normal a w else Q (.exit j) a w
        cases hj : Nat.beq j id
        · rw [if_neg (fun e => by rw [e] at hj; simp at hj)]
          have := hQ a w hA1
          rw [hj] at this
          exact this
        · rw [if_pos (Nat.eq_of_beq_eq_true hj)]
          have := hQ a w hA1
          rw [hj] at this
          exact this
      · rename_i r hr
        refine wp_block (run_sound hm hT hq n x A A' ps e a w _ h hps hA fun a w hA1 => ?_).1
        cases e with
        | ex id => exact (hr _ _ _ h).elim
        | nrm => exact hQ a w hA1
        | rt => exact hQ a w hA1
    | loop x =>
      have hun : Un P x Q (n + 1) a w := by
        simp only [run] at h
        unfold Un
        split at h
        · rename_i p A1 h1
          split at h
          · rename_i ps2 e2 A2 h2
            cases h
            obtain ⟨p1, p2⟩ := allP_append.1 hps
            refine (run_sound hm hT hq n x A A1 p .nrm a w _ h1 p1 hA fun a w hA1 => ?_).1
            exact (run_sound hm hT hq n (.loop x) A1 A' ps2 e a w Q h2 p2 hA1 hQ).2 x rfl
          · cases h
        · rename_i r hr
          refine (run_sound hm hT hq n x A A' ps e a w _ h hps hA fun a w hA1 => ?_).1
          cases e with
          | nrm => exact (hr _ _ h).elim
          | ex id => exact hQ a w hA1
          | rt => exact hQ a w hA1
      exact ⟨wp_loop_un hun, fun y e => by cases e; exact hun⟩
    | _ => simp only [run] at h; cases h
end
/-- an argument's facts: it lies in slot i -/
def argF : Nat → List CA → List Fact
  | _, [] => []
  | i, .v x :: r => .slot i x.av :: argF (i + 1) r
  | i, .s l n m :: r => .slot i (.sl i 0 n m) :: .row i false l :: argF (i + 1) r
  | i, .so l n :: r => .slot i (.so i n) :: .row i false l :: argF (i + 1) r
def resT (P : Program) (A : List Fact) : ResultVar → Option TV
  | .tmp t => match look A t with | some (.im v) => some (.im v) | some (.fl l) => some (.fl l) | _ => none
  | .cell t ty => match look A t with
    | some (.pt k o) => match rowOf A k, sizeT P ty, isRowT P ty with
      | some (_, l), some n, true => match seg l o n with | some s => some (.fl s) | none => none
      | _, _, _ => none
    | _ => none
def resTs (P : Program) (A : List Fact) : List ResultVar → Option (List TV)
  | [] => some []
  | x :: r => match resT P A x, resTs P A r with | some t, some l => some (t :: l) | _, _ => none
def rv : List TV → Option RV
  | [] => none
  | [t] => some (.one t)
  | l => some (.many l)
/-- a whole function -/
def funB (P : Program) (q : EqT) (C : Nat → Cfg) (fn : Func) (n : Nat) (cs : List CA) : Option (List Prop × RV) :=
  match fn.body with
  | some c => bif Nat.ble cs.length fn.ntmps then
      (match run P q fn.ntmps C n c (argF 0 cs) with
      | some (ps, .ex _, _) => none
      | some (ps, _, A) => match resTs P A fn.results.toList with
        | some l => match rv l with | some r => some (ps, r) | none => none
        | none => none
      | none => none) else none
  | none => none
def funA (P : Program) (T : Tab) (q : EqT) (hint : Nat → Bool) (fn : Func) (n : Nat) (cs : List CA) : Option (List Prop × RV) := funB P q (fun _ => ⟨fun _ => T, hint, fun _ => none⟩) fn n cs
theorem argF_key : ∀ (cs : List CA) (i : Nat) (φ : Fact), φ ∈ argF i cs → (∀ s v, φ = .slot s v → ∀ k, v.key = some k → i ≤ k) ∧ (∀ k o l, φ = .row k o l → i ≤ k) ∧ (∀ k b, φ ≠ .at k b) ∧ ∀ k e s n, φ ≠ .app k e s n
  | [], i, φ, h => by cases h
  | .v x :: r, i, φ, h => by
    rcases List.mem_cons.1 h with rfl | h
    · refine ⟨fun s v e k hk => ?_, (fun k o l e => by cases e), (fun k b e => by cases e), fun k e s n q => by cases q⟩
      cases e
      cases x <;> cases hk
    · obtain ⟨h1, h2, h3⟩ := argF_key r (i + 1) φ h
      exact ⟨fun s v e k hk => Nat.le_of_succ_le (h1 s v e k hk), fun k o l e => Nat.le_of_succ_le (h2 k o l e), h3⟩
  | .s l n m :: r, i, φ, h => by
    rcases List.mem_cons.1 h with rfl | h
    · refine ⟨fun s v e k hk => ?_, (fun k o l e => by cases e), (fun k b e => by cases e), fun k e s n q => by cases q⟩
      cases e
      cases hk
      exact Nat.le_refl _
    · rcases List.mem_cons.1 h with rfl | h
      · exact ⟨fun s v e => by (cases e), (fun k o l e => by cases e; exact Nat.le_refl _), (fun k b e => by cases e), fun k e s n q => by cases q⟩
      · obtain ⟨h1, h2, h3⟩ := argF_key r (i + 1) φ h
        exact ⟨fun s v e k hk => Nat.le_of_succ_le (h1 s v e k hk), fun k o l e => Nat.le_of_succ_le (h2 k o l e), h3⟩
  | .so l n :: r, i, φ, h => by
    rcases List.mem_cons.1 h with rfl | h
    · refine ⟨fun s v e k hk => ?_, (fun k o l e => by cases e), (fun k b e => by cases e), fun k e s n q => by cases q⟩
      cases e
      cases hk
      exact Nat.le_refl _
    · rcases List.mem_cons.1 h with rfl | h
      · exact ⟨fun s v e => by (cases e), (fun k o l e => by cases e; exact Nat.le_refl _), (fun k b e => by cases e), fun k e s n q => by cases q⟩
      · obtain ⟨h1, h2, h3⟩ := argF_key r (i + 1) φ h
        exact ⟨fun s v e k hk => Nat.le_of_succ_le (h1 s v e k hk), fun k o l e => Nat.le_of_succ_le (h2 k o l e), h3⟩
theorem argF_ok (a : Act) (w : World) : ∀ (cs : List CA) (vs : List Value) (i : Nat), CAs w cs vs → (∀ j v, vs[j]? = some v → a.tmps[i + j]? = some v) → ∃ β, ∀ φ ∈ argF i cs, φ.ok w.heap.size β a w
  | [], vs, i, _, _ => ⟨fun _ => (0, 0, 0), fun φ h => by cases h⟩
  | c :: cs, [], i, h, _ => by cases c <;> exact h.elim
  | c :: cs, v :: vs, i, h, ha => by
    obtain ⟨h1, h2⟩ : c.ok w v ∧ CAs w cs vs := by cases c <;> exact h
    obtain ⟨β, hβ⟩ := argF_ok a w cs vs (i + 1) h2 (fun j u hj => by have := ha (j + 1) u (by simpa using hj); rwa [show i + (j + 1) = i + 1 + j by omega] at this)
    have h0 := ha 0 v rfl
    rw [Nat.add_zero] at h0
    cases c with
    | v x =>
      refine ⟨β, fun φ hφ => ?_⟩
      rcases List.mem_cons.1 hφ with rfl | hφ
      · show a.tmps[i]? = _
        rw [h0, TV.av_den]
        exact congrArg some h1
      · exact hβ φ hφ
    | s l n m =>
      obtain ⟨b, o, rfl, hb, hr⟩ := h1
      refine ⟨fun k => bif Nat.beq k i then (b, o, 0) else β k, fun φ hφ => ?_⟩
      have hbi : (bif Nat.beq i i then (b, o, 0) else β i) = (b, o, 0) := by simp
      rcases List.mem_cons.1 hφ with rfl | hφ
      · show a.tmps[i]? = _
        rw [h0]
        show _ = some (Value.slice (some ⟨(bif Nat.beq i i then (b, o, 0) else β i).1, (bif Nat.beq i i then (b, o, 0) else β i).2.1 + 0, none⟩) n m)
        rw [hbi]
        rfl
      · rcases List.mem_cons.1 hφ with rfl | hφ
        · refine ⟨?_, ?_, (fun h => by cases h), fun _ => ?_⟩ <;> simp only [hbi]
          · exact hb
          · exact hr
          · exact hb
        · obtain ⟨k1, k2, k3, k4⟩ := argF_key cs (i + 1) φ hφ
          have hne : ∀ k, i + 1 ≤ k → (bif Nat.beq k i then (b, o, 0) else β k) = β k := fun k hk => by
            cases hq : Nat.beq k i
            · rfl
            · have := Nat.eq_of_beq_eq_true hq; omega
          have hold := hβ φ hφ
          cases φ with
          | slot s u =>
            show a.tmps[s]? = _
            rw [AV.den_eq (β := β) u (fun k hk => hne k (k1 s u rfl k hk))]
            exact hold
          | row k ow l' =>
            have e := hne k (k2 k ow l' rfl)
            simp only [Fact.ok] at hold ⊢
            simp only [e]
            exact hold
          | «at» k b => exact (k3 k b rfl).elim
          | app k e s n => exact (k4 k e s n rfl).elim
    | so l n =>
      obtain ⟨b, o, m, rfl, hb, hr⟩ := h1
      refine ⟨fun k => bif Nat.beq k i then (b, o, m) else β k, fun φ hφ => ?_⟩
      have hbi : (bif Nat.beq i i then (b, o, m) else β i) = (b, o, m) := by simp
      rcases List.mem_cons.1 hφ with rfl | hφ
      · show a.tmps[i]? = _
        rw [h0]
        show _ = some (Value.slice (some ⟨(bif Nat.beq i i then (b, o, m) else β i).1, (bif Nat.beq i i then (b, o, m) else β i).2.1, none⟩) n (bif Nat.beq i i then (b, o, m) else β i).2.2)
        rw [hbi]
      · rcases List.mem_cons.1 hφ with rfl | hφ
        · refine ⟨?_, ?_, (fun h => by cases h), fun _ => ?_⟩ <;> simp only [hbi]
          · exact hb
          · exact hr
          · exact hb
        · obtain ⟨k1, k2, k3, k4⟩ := argF_key cs (i + 1) φ hφ
          have hne : ∀ k, i + 1 ≤ k → (bif Nat.beq k i then (b, o, m) else β k) = β k := fun k hk => by
            cases hq : Nat.beq k i
            · rfl
            · have := Nat.eq_of_beq_eq_true hq; omega
          have hold := hβ φ hφ
          cases φ with
          | slot s u =>
            show a.tmps[s]? = _
            rw [AV.den_eq (β := β) u (fun k hk => hne k (k1 s u rfl k hk))]
            exact hold
          | row k ow l' =>
            have e := hne k (k2 k ow l' rfl)
            simp only [Fact.ok] at hold ⊢
            simp only [e]
            exact hold
          | «at» k b => exact (k3 k b rfl).elim
          | app k e s n => exact (k4 k e s n rfl).elim
def resF (tmps : Array Value) : ResultVar → Sem Value
  | .tmp t => pure (tmps.getD t undef)
  | .cell p t => do loadVar t (← asAddr (tmps.getD p undef))
theorem resT_spec {P : Program} {A : List Fact} {base : Nat} {β : Nat → Bk} {a : Act} {w : World} (hA : ∀ φ ∈ A, φ.ok base β a w) {x : ResultVar} {t : TV} (h1 : resT P A x = some t) : (resF a.tmps x).run P w = .ok t.den w := by
  cases x with
  | tmp s =>
    have : a.tmps.getD s undef = t.den := by
      simp only [resT] at h1
      split at h1
      · rename_i v hl; cases h1; have := hA _ (look_mem hl); simp only [Fact.ok] at this; simp [this]; rfl
      · rename_i v hl; cases h1; have := hA _ (look_mem hl); simp only [Fact.ok] at this; simp [this]; rfl
      · cases h1
    show (pure (a.tmps.getD s undef) : Sem Value).run P w = _
    rw [this]
    rfl
  | cell s ty =>
    simp only [resT] at h1
    split at h1
    · rename_i k o hl
      split at h1
      · rename_i ow row n hr hs ht
        split at h1
        · rename_i sg hg
          cases h1
          obtain ⟨i', hi, hn⟩ := sizeT_spec hs
          obtain ⟨ds, hu, hd'⟩ := isRowT_spec ht
          obtain ⟨g1, g2, _⟩ := hA _ (rowOf_mem hr)
          have hl' := hA _ (look_mem hl)
          simp only [Fact.ok, AV.den] at hl'
          have hv : a.tmps.getD s undef = .pointer (some ⟨(β k).1, (β k).2.1 + o, none⟩) := by simp [hl']
          have := run_loadVar_mid (P := P) w _ _ ty (flat sg) ds (range_seg g2 hg) hu hd' (by rw [hi]; simp [flat_len, seg_size hg, hn])
          show (do loadVar ty (← asAddr (a.tmps.getD s undef)) : Sem Value).run P w = _
          rw [hv]
          simp [asAddr, this, TV.den]
        · cases h1
      · cases h1
    · cases h1
theorem resTs_spec {P : Program} {A : List Fact} {base : Nat} {β : Nat → Bk} {a : Act} {w : World} (hA : ∀ φ ∈ A, φ.ok base β a w) : ∀ {xs : List ResultVar} {l : List TV}, resTs P A xs = some l → (xs.mapM (resF a.tmps)).run P w = .ok (l.map TV.den) w
  | [], l, h => by cases h; simp
  | x :: r, l, h => by
    unfold resTs at h
    split at h
    · rename_i t l' h1 h2
      cases h
      have ih := resTs_spec hA h2
      have hx := resT_spec hA h1
      simp [List.mapM_cons, ih, hx]
    · cases h
theorem rv_spec {l : List TV} {r : RV} (h : rv l = some r) : (if h : (l.map TV.den).toArray.size = 1 then (l.map TV.den).toArray[0] else Value.tuple (l.map TV.den).toArray) = r.den := by
  cases l with
  | nil => cases h
  | cons t l =>
    cases l with
    | nil => cases h; rfl
    | cons u l => cases h; rw [dif_neg (by simp)]; rfl
theorem funB_soundW {P : Program} {q : EqT} {C : Nat → Cfg} {w : World} (hm : P.follows .mixedOrders = true) (hT : ∀ n d, TabOkW P ((C n).T d) w.heap.size w) (hq : EqOkW P q w.heap.size w) {f : FuncId} {fn : Func} (hf : P.funcs[f]? = some fn) {n : Nat} {cs : List CA} {ps : List Prop} {r : RV}
    (h : funB P q C fn n cs = some (ps, r)) (hps : allP ps) {args : List Value} (ha : CAs w cs args) : Calls P f args.toArray w (fun e w' => e = .returned r.den ∧ Below w.heap.size w w') := by
  have hlen : ∀ (cs : List CA) (vs : List Value), CAs w cs vs → cs.length = vs.length := fun cs => by
    induction cs with
    | nil => intro vs h; cases vs with | nil => rfl | cons _ _ => exact h.elim
    | cons c cs ih => intro vs h; cases vs with | nil => cases c <;> exact h.elim | cons v vs => cases c <;> exact congrArg (· + 1) (ih vs h.2)
  unfold funB at h
  cases hb : fn.body with
  | none => rw [hb] at h; cases h
  | some c =>
    rw [hb] at h
    simp only at h
    cases hle : Nat.ble cs.length fn.ntmps <;> rw [hle] at h
    · cases h
    · simp only [cond_true] at h
      have hle' : args.length ≤ fn.ntmps := by rw [← hlen cs args ha]; exact Nat.le_of_ble_eq_true hle
      refine calls_of_wp hf hb ?_
      obtain ⟨β, hβ⟩ := argF_ok { tmps := args.toArray ++ Array.replicate (fn.ntmps - args.toArray.size) undef, defers := [] } w cs args 0 ha (fun j v hj => by
        have hlt : j < args.length := (List.getElem?_eq_some_iff.1 hj).1
        simp only [Nat.zero_add]
        rw [Array.getElem?_append_left (by simpa using hlt)]
        simpa using hj)
      have hH : Holds fn.ntmps w.heap.size w (argF 0 cs) { tmps := args.toArray ++ Array.replicate (fn.ntmps - args.toArray.size) undef, defers := [] } w :=
        ⟨rfl, by simp; omega, Below.refl _ _, Nat.le_refl _, β, hβ, fun k k' l l' hk => by
          have : ∀ (cs : List CA) (i : Nat) (k : Nat) (l : List At), Fact.row k true l ∈ argF i cs → False := fun cs => by
            induction cs with
            | nil => intro i k l h; cases h
            | cons c cs ih =>
              intro i k l h
              cases c with
              | v x => rcases List.mem_cons.1 h with h | h; · cases h
                       · exact ih _ _ _ h
              | s l1 n1 m1 =>
                rcases List.mem_cons.1 h with h | h
                · cases h
                · rcases List.mem_cons.1 h with h | h
                  · cases h
                  · exact ih _ _ _ h
              | so l1 n1 =>
                rcases List.mem_cons.1 h with h | h
                · cases h
                · rcases List.mem_cons.1 h with h | h
                  · cases h
                  · exact ih _ _ _ h
          exact (this cs 0 k l hk).elim⟩
      have hfin : ∀ (e : EA) (A : List Fact), (∀ j, e ≠ .ex j) → (∃ l, resTs P A fn.results.toList = some l ∧ rv l = some r) → ∀ a w', Holds fn.ntmps w.heap.size w A a w' → bodyPost P fn (fun e w' => e = .returned r.den ∧ Below w.heap.size w w') e.out a w' := fun e A he ⟨l, h1, h2⟩ a w' hA => by
        obtain ⟨β', hok, _⟩ := hA.facts
        have hres : (results fn a.tmps).run P w' = .ok r.den w' := by
          have := resTs_spec hok h1
          show ((fn.results.mapM (resF a.tmps)) >>= fun vs => pure (if h : vs.size = 1 then vs[0] else .tuple vs) : Sem Value).run P w' = _
          have hm : (List.toArray <$> fn.results.toList.mapM (resF a.tmps)).run P w' = .ok (l.map TV.den).toArray w' := by simp [this]
          rw [Array.mapM_eq_mapM_toList, Sem.run_bind, hm, Result.andThen_ok, Sem.run_pure]
          exact congrArg (fun x => Result.ok x w') (rv_spec h2)
        cases e with
        | nrm => exact ⟨hA.defers, _, hres, rfl, hA.below⟩
        | rt => exact ⟨hA.defers, _, hres, rfl, hA.below⟩
        | ex j => exact (he j rfl).elim
      split at h
      · cases h
      · rename_i ps' e A hne hrun
        split at h
        · rename_i l hl
          split at h
          · rename_i r' hr'
            cases h
            exact (run_sound (P := P) (q := q) (nt := fn.ntmps) (C := C) hm hT hq n c _ A ps e _ w _ hrun hps hH (hfin e A (fun j e' => hne j e') ⟨l, hl, hr'⟩)).1
          · cases h
        · cases h
      · cases h
theorem funB_sound {P : Program} {q : EqT} {C : Nat → Cfg} (hm : P.follows .mixedOrders = true) (hT : ∀ n d, TabOk P ((C n).T d)) (hq : EqOk P q) {f : FuncId} {fn : Func} (hf : P.funcs[f]? = some fn) {n : Nat} {cs : List CA} {ps : List Prop} {r : RV}
    (h : funB P q C fn n cs = some (ps, r)) (hps : allP ps) {args : List Value} {w : World} (ha : CAs w cs args) : Calls P f args.toArray w (fun e w' => e = .returned r.den ∧ Below w.heap.size w w') :=
  funB_soundW hm (fun n d => (hT n d).w _ _) (hq.w _ _) hf h hps ha
theorem fun_sound {P : Program} {T : Tab} {q : EqT} {hint : Nat → Bool} (hm : P.follows .mixedOrders = true) (hT : TabOk P T) (hq : EqOk P q) {f : FuncId} {fn : Func} (hf : P.funcs[f]? = some fn) {n : Nat} {cs : List CA} {ps : List Prop} {r : RV}
    (h : funA P T q hint fn n cs = some (ps, r)) (hps : allP ps) {args : List Value} {w : World} (ha : CAs w cs args) : Calls P f args.toArray w (fun e w' => e = .returned r.den ∧ Below w.heap.size w w') :=
  funB_sound hm (fun _ _ => hT) hq hf h hps ha
theorem callable {P : Program} {f : FuncId} {fn : Func} (hf : P.funcs[f]? = some fn) (hn : (fn.name == "runtime.NumGoroutine") = false) (hb : fn.body.isNone = false) (args : Array Value) (w : World) : (callFunc f args).run P w = .ok (.enter f args) w := by
  have hn' : ¬ fn.name = "runtime.NumGoroutine" := by simpa using hn
  have hb' : ¬ fn.body = none := fun e => by rw [e] at hb; cases hb
  simp [callFunc, hf, hn', hb']
def T0 : Tab := fun _ _ => none
theorem T0_ok (P : Program) : TabOk P T0 := fun _ _ _ _ h => by cases h
/-- a table with one function more -/
def Tab.add (T : Tab) (f : Nat) (g : List CA → Option (List Prop × RV)) : Tab := fun f' cs => bif Nat.beq f' f then g cs else T f' cs
theorem TabOk.add {P : Program} {T : Tab} (hT : TabOk P T) {f : Nat} {fn : Func} (hf : P.funcs[f]? = some fn) (hn : (fn.name == "runtime.NumGoroutine") = false) (hb : fn.body.isNone = false) {g : List CA → Option (List Prop × RV)}
    (h : ∀ cs pre r, g cs = some (pre, r) → allP pre → ∀ (args : List Value) (w : World), CAs w cs args → Calls P f args.toArray w (fun e w' => e = .returned r.den ∧ Below w.heap.size w w')) : TabOk P (T.add f g) := by
  intro f' cs pre r hg hp
  unfold Tab.add at hg
  cases hb' : Nat.beq f' f <;> rw [hb'] at hg
  · exact hT f' cs pre r hg hp
  · cases Nat.eq_of_beq_eq_true hb'
    exact ⟨callable hf hn hb, h cs pre r hg hp⟩
end Go.Proofs.YtaingnhikbaplaaGreat.Ex
namespace Go.Proofs.YtaingnhikbaplaaGreat
set_option linter.unusedVariables false
set_option linter.unusedSimpArgs false
/-- a commutative ring with one -/
structure CR (R : Type) where
  add : R → R → R
  mul : R → R → R
  neg : R → R
  zero : R
  one : R
  add_assoc : ∀ a b c, add (add a b) c = add a (add b c)
  add_comm : ∀ a b, add a b = add b a
  zero_add : ∀ a, add zero a = a
  neg_add : ∀ a, add (neg a) a = zero
  mul_assoc : ∀ a b c, mul (mul a b) c = mul a (mul b c)
  mul_comm : ∀ a b, mul a b = mul b a
  one_mul : ∀ a, mul one a = a
  mul_add : ∀ a b c, mul a (add b c) = add (mul a b) (mul a c)

namespace CR
variable {R : Type} (K : CR R)
theorem add_left_comm (a b c : R) : K.add a (K.add b c) = K.add b (K.add a c) := by rw [← K.add_assoc, K.add_comm a b, K.add_assoc]
theorem mul_left_comm (a b c : R) : K.mul a (K.mul b c) = K.mul b (K.mul a c) := by rw [← K.mul_assoc, K.mul_comm a b, K.mul_assoc]
theorem add_mul (a b c : R) : K.mul (K.add a b) c = K.add (K.mul a c) (K.mul b c) := by rw [K.mul_comm, K.mul_add, K.mul_comm c a, K.mul_comm c b]
theorem add_zero (a : R) : K.add a K.zero = a := by rw [K.add_comm, K.zero_add]
theorem add_neg (a : R) : K.add a (K.neg a) = K.zero := by rw [K.add_comm, K.neg_add]
theorem add_cancel {a b c : R} (h : K.add a b = K.add a c) : b = c := by
  have := congrArg (K.add (K.neg a)) h
  rwa [← K.add_assoc, ← K.add_assoc, K.neg_add, K.zero_add, K.zero_add] at this
theorem mul_zero (a : R) : K.mul a K.zero = K.zero := by
  apply K.add_cancel (a := K.mul a K.zero)
  rw [← K.mul_add, K.add_zero, K.add_zero]
theorem zero_mul (a : R) : K.mul K.zero a = K.zero := by rw [K.mul_comm, K.mul_zero]
theorem mul_one (a : R) : K.mul a K.one = a := by rw [K.mul_comm, K.one_mul]
theorem neg_mul (a b : R) : K.mul (K.neg a) b = K.neg (K.mul a b) := by
  apply K.add_cancel (a := K.mul a b)
  rw [← K.add_mul, K.add_neg, K.zero_mul, K.add_neg]
theorem neg_neg (a : R) : K.neg (K.neg a) = a := by
  apply K.add_cancel (a := K.neg a)
  rw [K.add_neg, K.neg_add]
theorem neg_add' (a b : R) : K.neg (K.add a b) = K.add (K.neg a) (K.neg b) := by
  apply K.add_cancel (a := K.add a b)
  rw [K.add_neg, K.add_assoc, K.add_left_comm b, K.add_neg, K.add_zero, K.add_neg]
theorem mul_neg (a b : R) : K.mul a (K.neg b) = K.neg (K.mul a b) := by rw [K.mul_comm, K.neg_mul, K.mul_comm]
def sub (a b : R) : R := K.add a (K.neg b)

/-- R[t] / (t^2 - q): pairs -/
def sq (q : R) : CR (R × R) where
  add x y := (K.add x.1 y.1, K.add x.2 y.2)
  mul x y := (K.add (K.mul x.1 y.1) (K.mul q (K.mul x.2 y.2)), K.add (K.mul x.1 y.2) (K.mul x.2 y.1))
  neg x := (K.neg x.1, K.neg x.2)
  zero := (K.zero, K.zero)
  one := (K.one, K.zero)
  add_assoc a b c := by simp only [K.add_assoc]
  add_comm a b := by rw [K.add_comm a.1, K.add_comm a.2]
  zero_add a := by simp only [K.zero_add]
  neg_add a := by simp only [K.neg_add]
  mul_assoc a b c := by
    simp only [K.mul_add, K.add_mul, K.mul_assoc, K.mul_left_comm, K.add_assoc, K.add_left_comm, K.add_comm]
  mul_comm a b := by
    simp only [K.mul_comm, K.add_comm]
  one_mul a := by simp only [K.one_mul, K.zero_mul, K.mul_zero, K.add_zero]
  mul_add a b c := by
    simp only [K.mul_add, K.add_assoc, Prod.mk.injEq]
    constructor <;> (simp only [K.add_left_comm])

theorem sa : Std.Associative K.add := ⟨K.add_assoc⟩
theorem sc : Std.Commutative K.add := ⟨K.add_comm⟩
theorem ma : Std.Associative K.mul := ⟨K.mul_assoc⟩
theorem mc : Std.Commutative K.mul := ⟨K.mul_comm⟩
/-- R[t] / (t^3 - q): triples -/
def cu (q : R) : CR (R × R × R) where
  add x y := (K.add x.1 y.1, K.add x.2.1 y.2.1, K.add x.2.2 y.2.2)
  mul x y := (K.add (K.mul x.1 y.1) (K.mul q (K.add (K.mul x.2.1 y.2.2) (K.mul x.2.2 y.2.1))), K.add (K.add (K.mul x.1 y.2.1) (K.mul x.2.1 y.1)) (K.mul q (K.mul x.2.2 y.2.2)), K.add (K.add (K.mul x.1 y.2.2) (K.mul x.2.1 y.2.1)) (K.mul x.2.2 y.1))
  neg x := (K.neg x.1, K.neg x.2.1, K.neg x.2.2)
  zero := (K.zero, K.zero, K.zero)
  one := (K.one, K.zero, K.zero)
  add_assoc a b c := by simp only [K.add_assoc]
  add_comm a b := by rw [K.add_comm a.1, K.add_comm a.2.1, K.add_comm a.2.2]
  zero_add a := by simp only [K.zero_add]
  neg_add a := by simp only [K.neg_add]
  mul_assoc a b c := by
    simp only [K.mul_add, K.add_mul, K.mul_assoc, K.add_assoc, Prod.mk.injEq]
    have := K.sa; have := K.sc; have := K.ma; have := K.mc
    refine ⟨?_, ?_, ?_⟩ <;> ac_rfl
  mul_comm a b := by
    simp only [Prod.mk.injEq]
    have := K.sa; have := K.sc; have := K.ma; have := K.mc
    refine ⟨?_, ?_, ?_⟩ <;> ac_rfl
  one_mul a := by simp only [K.one_mul, K.zero_mul, K.mul_zero, K.add_zero]
  mul_add a b c := by
    simp only [K.mul_add, K.add_assoc, Prod.mk.injEq]
    have := K.sa; have := K.sc; have := K.ma; have := K.mc
    refine ⟨?_, ?_, ?_⟩ <;> ac_rfl
end CR
/-- numbers modulo M -/
def fpCR (M : Nat) (h : 1 < M) : CR (Fin M) where
  add a b := ⟨(a.1 + b.1) % M, Nat.mod_lt _ (by omega)⟩
  mul a b := ⟨a.1 * b.1 % M, Nat.mod_lt _ (by omega)⟩
  neg a := ⟨(0 + M - a.1) % M, Nat.mod_lt _ (by omega)⟩
  zero := ⟨0, by omega⟩
  one := ⟨1, h⟩
  add_assoc a b c := Fin.ext (by show ((a.1 + b.1) % M + c.1) % M = (a.1 + (b.1 + c.1) % M) % M; rw [Nat.mod_add_mod, Nat.add_mod_mod, Nat.add_assoc])
  add_comm a b := Fin.ext (by show (a.1 + b.1) % M = (b.1 + a.1) % M; rw [Nat.add_comm])
  zero_add a := Fin.ext (by show (0 + a.1) % M = a.1; rw [Nat.zero_add, Nat.mod_eq_of_lt a.2])
  neg_add a := Fin.ext (by
    show ((0 + M - a.1) % M + a.1) % M = 0
    have := a.2
    rw [Nat.mod_add_mod, show 0 + M - a.1 + a.1 = M by omega, Nat.mod_self])
  mul_assoc a b c := Fin.ext (by show a.1 * b.1 % M * c.1 % M = a.1 * (b.1 * c.1 % M) % M; rw [Nat.mod_mul_mod, Nat.mul_mod_mod, Nat.mul_assoc])
  mul_comm a b := Fin.ext (by show a.1 * b.1 % M = b.1 * a.1 % M; rw [Nat.mul_comm])
  one_mul a := Fin.ext (by show 1 * a.1 % M = a.1; rw [Nat.one_mul, Nat.mod_eq_of_lt a.2])
  mul_add a b c := Fin.ext (by show a.1 * ((b.1 + c.1) % M) % M = (a.1 * b.1 % M + a.1 * c.1 % M) % M; rw [Nat.mul_mod_mod, Nat.mul_add, Nat.add_mod])
end Go.Proofs.YtaingnhikbaplaaGreat
namespace Go.Proofs.YtaingnhikbaplaaGreat.Ex
set_option linter.unusedVariables false
set_option linter.unusedSimpArgs false
open Go.RowKit

theorem fp_one : 1 < FP.M := by decide
def F1 : CR Fq := fpCR FP.M fp_one
def fm (n : Nat) : Fq := ⟨n % FP.M, Nat.mod_lt _ fp_pos⟩
abbrev Q2 := Fq × Fq
abbrev Q6 := Q2 × Q2 × Q2
abbrev Q12 := Q6 × Q6
def F2 : CR Q2 := F1.sq (F1.neg F1.one)
def xiE : Q2 := (fm 9, fm 1)
def F6 : CR Q6 := F2.cu xiE
def vE : Q6 := (F2.zero, F2.one, F2.zero)
def F12 : CR Q12 := F6.sq vE
def e1 (x : Fq) : List At := [.f x]
def e2 (x : Q2) : List At := [.f x.1, .f x.2]
def e6 (x : Q6) : List At := [.f x.1.1, .f x.1.2, .f x.2.1.1, .f x.2.1.2, .f x.2.2.1, .f x.2.2.2]
def e12 (x : Q12) : List At := [.f x.1.1.1, .f x.1.1.2, .f x.1.2.1.1, .f x.1.2.1.2, .f x.1.2.2.1, .f x.1.2.2.2, .f x.2.1.1, .f x.2.1.2, .f x.2.2.1.1, .f x.2.2.1.2, .f x.2.2.2.1, .f x.2.2.2.2]
def rd1 : List At → Option Fq | [.f a] => some a | _ => none
def rd2 : List At → Option Q2 | [.f a, .f b] => some (a, b) | _ => none
def rd6 : List At → Option Q6 | [.f a, .f b, .f c, .f d, .f e, .f f] => some ((a, b), (c, d), (e, f)) | _ => none
def rd12 : List At → Option Q12 | [.f a, .f b, .f c, .f d, .f e, .f f, .f g, .f h, .f i, .f j, .f k, .f l] => some (((a, b), (c, d), (e, f)), ((g, h), (i, j), (k, l))) | _ => none
/-- elements as they come in -/
abbrev N2 := Nat × Nat
abbrev N6 := N2 × N2 × N2
abbrev N12 := N6 × N6
def q1 (x : Nat) : List At := [.q x]
def q2 (x : N2) : List At := [.q x.1, .q x.2]
def q6 (x : N6) : List At := [.q x.1.1, .q x.1.2, .q x.2.1.1, .q x.2.1.2, .q x.2.2.1, .q x.2.2.2]
def q12 (x : N12) : List At := [.q x.1.1.1, .q x.1.1.2, .q x.1.2.1.1, .q x.1.2.1.2, .q x.1.2.2.1, .q x.1.2.2.2, .q x.2.1.1, .q x.2.1.2, .q x.2.2.1.1, .q x.2.2.1.2, .q x.2.2.2.1, .q x.2.2.2.2]
def nat? : At → Option Nat
  | .f x => some x.1
  | .q x => some x
  | .c _ => none
def nats : List At → Option (List Nat)
  | [] => some []
  | a :: r => match nat? a, nats r with | some x, some l => some (x :: l) | _, _ => none
def rq1 (l : List At) : Option Nat := match nats l with | some [a] => some a | _ => none
def rq2 (l : List At) : Option N2 := match nats l with | some [a, b] => some (a, b) | _ => none
def rq6 (l : List At) : Option N6 := match nats l with | some [a, b, c, d, e, f] => some ((a, b), (c, d), (e, f)) | _ => none
def rq12 (l : List At) : Option N12 := match nats l with | some [a, b, c, d, e, f, g, h, i, j, k, l] => some (((a, b), (c, d), (e, f)), ((g, h), (i, j), (k, l))) | _ => none
/-- a number's words, as an element -/
def wv (x : Nat) : Nat := val4 (fw x 0) (fw x 1) (fw x 2) (fw x 3)
def m1 (x : Nat) : Fq := fm (wv x)
def m2 (x : N2) : Q2 := (m1 x.1, m1 x.2)
def m6 (x : N6) : Q6 := (m2 x.1, m2 x.2.1, m2 x.2.2)
def m12 (x : N12) : Q12 := (m6 x.1, m6 x.2)
/-- a reader gives back what was laid -/
def Rd {α : Type} (rd : List At → Option α) (en : α → List At) : Prop := ∀ l x, rd l = some x → flat l = flat (en x)
theorem rd1_ok : Rd rd1 e1 := fun l x h => by unfold rd1 at h; split at h <;> cases h; rfl
theorem rd2_ok : Rd rd2 e2 := fun l x h => by unfold rd2 at h; split at h <;> cases h; rfl
theorem rd6_ok : Rd rd6 e6 := fun l x h => by unfold rd6 at h; split at h <;> cases h; rfl
theorem rd12_ok : Rd rd12 e12 := fun l x h => by unfold rd12 at h; split at h <;> cases h; rfl
theorem nats_ok : ∀ {l : List At} {m : List Nat}, nats l = some m → flat l = flat (m.map .q)
  | [], m, h => by cases h; rfl
  | a :: r, m, h => by
    unfold nats at h
    split at h
    · rename_i x l' h1 h2
      cases h
      show a.cells ++ flat r = w4 x ++ flat (l'.map .q)
      rw [nats_ok h2]
      cases a <;> cases h1 <;> rfl
    · cases h
theorem rq1_ok : Rd rq1 q1 := fun l x h => by
  unfold rq1 at h
  split at h
  · rename_i hn; cases h; rw [nats_ok hn]; rfl
  · cases h
theorem rq2_ok : Rd rq2 q2 := fun l x h => by
  unfold rq2 at h
  split at h
  · rename_i hn; cases h; rw [nats_ok hn]; rfl
  · cases h
theorem rq6_ok : Rd rq6 q6 := fun l x h => by
  unfold rq6 at h
  split at h
  · rename_i hn; cases h; rw [nats_ok hn]; rfl
  · cases h
theorem rq12_ok : Rd rq12 q12 := fun l x h => by
  unfold rq12 at h
  split at h
  · rename_i hn; cases h; rw [nats_ok hn]; rfl
  · cases h
/-- entries: functions of no, one, two flat values; what must hold and what is answered hang on them -/
abbrev Ent := List CA → Option (List Prop × RV)
def g0 (r : RV) : Ent
  | [] => some ([], r)
  | _ => none
def g1 {α : Type} (rd : List At → Option α) (op : α → List Prop × RV) : Ent
  | [.v (.fl l)] => match rd l with | some x => some (op x) | none => none
  | _ => none
def g2 {α γ : Type} (rd : List At → Option α) (rd' : List At → Option γ) (op : α → γ → List Prop × RV) : Ent
  | [.v (.fl l), .v (.fl m)] => match rd l, rd' m with | some x, some y => some (op x y) | _, _ => none
  | _ => none
/-- what is said of a call -/
def Good (P : Program) (f : FuncId) (r : RV) (args : List Value) (w : World) : Prop := Calls P f args.toArray w (fun e w' => e = .returned r.den ∧ Below w.heap.size w w')
theorem g0_ok {P : Program} {f : FuncId} {r : RV} (h : ∀ w, Good P f r [] w) : ∀ cs pre r', g0 r cs = some (pre, r') → allP pre → ∀ (args : List Value) (w : World), CAs w cs args → Good P f r' args w := by
  intro cs pre r' hg hp args w ha
  unfold g0 at hg
  split at hg
  · cases hg
    cases args with
    | nil => exact h w
    | cons _ _ => exact ha.elim
  · cases hg
theorem g1_ok {P : Program} {f : FuncId} {α : Type} {rd : List At → Option α} {en : α → List At} (hr : Rd rd en) {op : α → List Prop × RV} (h : ∀ x, allP (op x).1 → ∀ args w, CAs w [.v (.fl (en x))] args → Good P f (op x).2 args w) :
    ∀ cs pre r, g1 rd op cs = some (pre, r) → allP pre → ∀ (args : List Value) (w : World), CAs w cs args → Good P f r args w := by
  intro cs pre r hg hp args w ha
  unfold g1 at hg
  split at hg
  · rename_i l
    split at hg
    · rename_i x hx
      have e : op x = (pre, r) := by simpa using hg
      have := h x (by rw [e]; exact hp) args w (by
        cases args with
        | nil => exact ha.elim
        | cons v vs =>
          refine ⟨?_, ha.2⟩
          show v = .agg (flat (en x)).toArray
          rw [← hr l x hx]
          exact ha.1)
      rw [e] at this
      exact this
    · cases hg
  · cases hg
theorem g2_ok {P : Program} {f : FuncId} {α γ : Type} {rd : List At → Option α} {en : α → List At} {rd' : List At → Option γ} {en' : γ → List At} (hr : Rd rd en) (hr' : Rd rd' en') {op : α → γ → List Prop × RV}
    (h : ∀ x y, allP (op x y).1 → ∀ args w, CAs w [.v (.fl (en x)), .v (.fl (en' y))] args → Good P f (op x y).2 args w) :
    ∀ cs pre r, g2 rd rd' op cs = some (pre, r) → allP pre → ∀ (args : List Value) (w : World), CAs w cs args → Good P f r args w := by
  intro cs pre r hg hp args w ha
  unfold g2 at hg
  split at hg
  · rename_i l m
    split at hg
    · rename_i x y hx hy
      have e : op x y = (pre, r) := by simpa using hg
      have := h x y (by rw [e]; exact hp) args w (by
        cases args with
        | nil => exact ha.elim
        | cons v vs =>
          cases vs with
          | nil => exact ha.2.elim
          | cons u us =>
            refine ⟨?_, ?_, ha.2.2⟩
            · show v = .agg (flat (en x)).toArray
              rw [← hr l x hx]
              exact ha.1
            · show u = .agg (flat (en' y)).toArray
              rw [← hr' m y hy]
              exact ha.2.1)
      rw [e] at this
      exact this
    · cases hg
  · cases hg
end Go.Proofs.YtaingnhikbaplaaGreat.Ex
