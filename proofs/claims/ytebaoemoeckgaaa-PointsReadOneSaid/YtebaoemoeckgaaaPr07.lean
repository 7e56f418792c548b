/-
  The reckoner: regions, code, functions. Of whatever program. Conditions: the table of calls is right.
  The reckoner: code and whole functions; tables of calls. Of whatever program. Conditions: the table of calls is right.
-/
import Derived.KernelRfl
import Derived.Test.YtebaoemoeckgaaaPr06
namespace Go.Proofs.Ytebaoemoeckgaaa.Ex
set_option linter.unusedVariables false
set_option linter.unusedSimpArgs false
open Go.RowKit

/-- the facts hold; nothing below base has turned since w0 -/
structure Holds (nt base : Nat) (w0 : World) (A : List Fact) (a : Act) (w : World) : Prop where
  defers : a.defers = []
  size : a.tmps.size = nt
  below : Below base w0 w
  heap : base ≤ w.heap.size
  facts : ∃ β : Nat → Bk, (∀ φ ∈ A, φ.ok base β a w) ∧ ∀ k k' l l', Fact.row k true l ∈ A → Fact.row k' true l' ∈ A → k ≠ k' → (β k).1 ≠ (β k').1
theorem Holds.drew {nt base : Nat} {w0 : World} {A : List Fact} {a : Act} {w : World} (h : Holds nt base w0 A a w) : Holds nt base w0 A a w.drew :=
  ⟨h.defers, h.size, h.below.drew, h.heap, h.facts⟩
section
variable {E : Env} {draw : Bool} {ops : Array Oper} {base : Nat} {w0 : World} {A A' : List Fact} {TF : List (Option Nat × Fact)} {rs : List Rec} {ps : List Prop} {a : Act} {w : World} {Q : Exit → Act → World → Prop}
theorem start_inv (hrun : runR E draw ops ops.toList 0 (A.map fun φ => (none, φ)) [] [] = some (ps, TF, rs)) (h : Holds E.nt base w0 A a w) : Inv E draw ops base w0 TF rs (fun _ => False) a w := by
  obtain ⟨_, h2, _⟩ := runR_spec hrun rfl
  obtain ⟨β, hok, hinj⟩ := h.facts
  have hA : ∀ x ∈ TF, valid draw ops rs (fun _ => False) x → x.2 ∈ A := fun x hx hv => by
    rcases h2 x hx with hx | ⟨b, hb, _⟩
    · obtain ⟨φ, hφ, rfl⟩ := List.mem_map.1 hx
      exact hφ
    · exact (hv.1 b hb).elim
  exact ⟨h.defers, h.size, h.below, h.heap, fun _ _ h => h.elim, β, fun x hx hv => hok _ (hA x hx hv), fun x hx y hy hxv hyv k k' l l' hxe hye hkk => hinj k k' l l' (hxe ▸ hA x hx hxv) (hye ▸ hA y hy hyv) hkk⟩
theorem end_inv (hrun : runR E draw ops ops.toList 0 (A.map fun φ => (none, φ)) [] [] = some (ps, TF, rs)) {G : Nat → Prop} (hG : ∀ i, i < ops.size → G i) (h : Inv E draw ops base w0 TF rs G a w) :
    Holds E.nt base w0 ((TF.filter (lasts draw ops rs)).map (·.2)) a w := by
  obtain ⟨_, h2, _⟩ := runR_spec hrun rfl
  obtain ⟨β, hok, hinj⟩ := h.facts
  have hv : ∀ φ ∈ (TF.filter (lasts draw ops rs)).map (·.2), ∃ x ∈ TF, valid draw ops rs G x ∧ x.2 = φ := fun φ hφ => by
    obtain ⟨x, hx, rfl⟩ := List.mem_map.1 hφ
    obtain ⟨h3, h4⟩ := List.mem_filter.1 hx
    refine ⟨x, h3, ⟨fun b hb => ?_, fun j r hj _ hne hc => ?_⟩, rfl⟩
    · rcases h2 x h3 with h5 | ⟨b', hb', _, hlt⟩
      · obtain ⟨ψ, _, rfl⟩ := List.mem_map.1 h5
        cases hb
      · rw [hb'] at hb
        cases hb
        exact hG b (by simpa using hlt)
    · have h5 := allIdx_spec h4 j r hj
      rw [Nat.zero_add] at h5
      unfold bears at h5
      rw [Bool.or_eq_true, Bool.or_eq_true, hc] at h5
      rcases h5 with h5 | h5 | h5
      · exact absurd (optIs_iff.1 h5) hne
      · cases h5
      · split at h5
        · rename_i b hb; exact ⟨b, hb, h5⟩
        · cases h5
  refine ⟨h.defers, h.size, h.below, h.heap, β, fun φ hφ => ?_, fun k k' l l' hk hk' hne => ?_⟩
  · obtain ⟨x, h1, h2, rfl⟩ := hv φ hφ
    exact hok x h1 h2
  · obtain ⟨x, h1, h2, e1⟩ := hv _ hk
    obtain ⟨y, h3, h4, e2⟩ := hv _ hk'
    exact hinj x h1 y h3 h2 h4 k k' l l' e1 e2 hne
def fr : Nat → Array Bool → Nat
  | 0, _ => 0
  | n + 1, g => fr n g + (bif g.getD n false then 0 else 1)
theorem fr_zero : ∀ {n : Nat} {g : Array Bool}, fr n g = 0 → ∀ i, i < n → g.getD i false = true
  | 0, g, _, i, hi => by omega
  | n + 1, g, h, i, hi => by
    unfold fr at h
    by_cases e : i = n
    · subst e
      cases hb : g.getD i false
      · rw [hb] at h; simp at h
      · rfl
    · exact fr_zero (n := n) (by omega) i (by omega)
theorem getD_set {g : Array Bool} {i j : Nat} (hi : i < g.size) : (g.setIfInBounds i true).getD j false = true ↔ j = i ∨ g.getD j false = true := by
  by_cases e : j = i
  · subst e; simp [Array.getD, hi]
  · have : ¬ i = j := fun h => e h.symm
    simp [Array.getD_eq_getD_getElem?, Array.getElem?_setIfInBounds_ne this, e]
theorem fr_old : ∀ {n : Nat} {g : Array Bool} {i : Nat}, n ≤ i → fr n (g.setIfInBounds i true) = fr n g
  | 0, _, _, _ => rfl
  | n + 1, g, i, h => by
    have : ¬ i = n := by omega
    unfold fr
    rw [fr_old (by omega)]
    simp [Array.getD_eq_getD_getElem?, Array.getElem?_setIfInBounds_ne this]
theorem fr_set : ∀ {n : Nat} {g : Array Bool} {i : Nat}, i < n → i < g.size → g.getD i false = false → fr n (g.setIfInBounds i true) + 1 = fr n g
  | 0, _, _, h, _, _ => by omega
  | n + 1, g, i, h, hs, hg => by
    unfold fr
    by_cases e : i = n
    · subst e
      rw [fr_old (Nat.le_refl _), (getD_set hs).2 (Or.inl rfl), hg]
      simp
    · have h1 := fr_set (n := n) (g := g) (by omega) hs hg
      have h2 : (g.setIfInBounds i true).getD n false = g.getD n false := by
        have : ¬ i = n := e
        simp [Array.getD_eq_getD_getElem?, Array.getElem?_setIfInBounds_ne this]
      rw [h2]; omega
theorem dep_true {i j : Nat} : dep true ops i j = true ↔ ∃ o, ops[i]? = some o ∧ ∃ e ∈ o.after, Region.binds .any e = true ∧ e.on = j := by
  unfold dep
  simp only [cond_true]
  cases ho : ops[i]? with
  | none => simp
  | some o =>
    simp only [List.any_eq_true]
    constructor
    · rintro ⟨e, he, h⟩
      rw [Bool.and_eq_true] at h
      exact ⟨o, rfl, e, by simpa using he, h.1, Nat.eq_of_beq_eq_true h.2⟩
    · rintro ⟨o', e1, e, he, hb, rfl⟩
      cases e1
      exact ⟨e, by simpa using he, by rw [hb]; simp⟩
theorem any_inv (hT : ∀ d, TabOkW E.P (E.T d) base w0) (hq : EqOkW E.P E.q base w0) (hrun : runR E true ops ops.toList 0 (A.map fun φ => (none, φ)) [] [] = some (ps, TF, rs)) (hps : allP ps) (hchk : chk true ops rs = true) (hlow : low true ops = true)
    (hQ : ∀ a w, Inv E true ops base w0 TF rs (fun i => i < ops.size) a w → Q .normal a w) :
    ∀ (m : Nat) (g : Array Bool) (a : Act) (w : World), g.size = ops.size → fr ops.size g = m → Inv E true ops base w0 TF rs (fun i => g.getD i false = true) a w → wpAny E.P .any ops Q m g a w := by
  have hfin : ∀ (g : Array Bool) (a : Act) (w : World), g.size = ops.size → (∀ i, i < ops.size → g.getD i false = true) → Inv E true ops base w0 TF rs (fun i => g.getD i false = true) a w → Q .normal a w := fun g a w hs hall hI => by
    refine hQ a w ?_
    have : (fun i => g.getD i false = true) = fun i => i < ops.size := funext fun i => propext ⟨fun h => by
      rw [← hs]
      by_cases hi : i < g.size
      · exact hi
      · simp [Array.getD, hi] at h, hall i⟩
    rwa [this] at hI
  have hready : ∀ (g : Array Bool), g.size = ops.size → Region.ready .any ops g = [] → ∀ i, i < ops.size → g.getD i false = true := fun g hs hr i => by
    induction i using Nat.strongRecOn with
    | _ i ih =>
      intro hi
      cases hb : g.getD i false with
      | true => rfl
      | false =>
        exfalso
        have : i ∈ Region.ready .any ops g := by
          refine mem_ready.2 ⟨?_, ops[i], Array.getElem?_eq_getElem hi, fun e he hbi => ?_⟩
          · have : i < g.size := by omega
            simp [Array.getD, this] at hb ⊢
            exact hb
          · unfold low at hlow
            simp only [cond_true] at hlow
            have := allIdx_spec hlow i ops[i] (by simp [hi])
            rw [List.all_eq_true] at this
            have := this e (by simpa using he)
            rw [hbi] at this
            have hlt : e.on < i := by simpa using this
            exact ih e.on hlt (by omega)
        rw [hr] at this
        cases this
  intro m
  induction m with
  | zero =>
    intro g a w hs hf hI
    have hall := fr_zero hf
    refine ⟨?_, hfin g a w hs hall hI⟩
    apply List.eq_nil_iff_forall_not_mem.2
    intro i hi
    obtain ⟨h1, o, ho, _⟩ := mem_ready.1 hi
    have hlt : i < ops.size := (Array.getElem?_eq_some_iff.1 ho).1
    have h2 := hall i hlt
    have : i < g.size := by omega
    simp [Array.getD, this] at h1 h2
    rw [h1] at h2; cases h2
  | succ m ih =>
    intro g a w hs hf hI
    refine ⟨fun hr => hfin g a w hs (hready g hs hr) hI, fun i hi => ?_⟩
    obtain ⟨h1, o, ho, h2⟩ := mem_ready.1 hi
    have hlt : i < ops.size := (Array.getElem?_eq_some_iff.1 ho).1
    have hg : i < g.size := by omega
    have hgi : g.getD i false = false := by
      simp [Array.getD, hg] at h1 ⊢
      exact h1
    have hst := step_inv hT hq hrun hps hchk (Q := Q) hI ho (by rw [hgi]; simp) (fun j hj => by
      obtain ⟨o', ho', e, he, hb, rfl⟩ := dep_true.1 hj
      rw [ho] at ho'
      cases ho'
      exact h2 e he hb)
    unfold wpOp
    rw [ho]
    simp only
    have hnext : ∀ a' w', Inv E true ops base w0 TF rs (fun j => j = i ∨ g.getD j false = true) a' w' → wpAny E.P .any ops Q m (g.setIfInBounds i true) a' w' := fun a' w' h => by
      refine ih _ a' w' (by simp [hs]) (by have := fr_set hlt hg hgi; omega) ?_
      have : (fun j => (g.setIfInBounds i true).getD j false = true) = fun j => j = i ∨ g.getD j false = true := funext fun j => propext (getD_set hg)
      rwa [this]
    by_cases hw : Region.wanted o (yielded ops a.tmps) = true
    · rw [if_pos hw] at hst ⊢
      exact Or.inl (Oper.wp_mono hnext hst)
    · rw [if_neg hw] at hst ⊢
      exact hnext _ _ hst
theorem seq_inv (hT : ∀ d, TabOkW E.P (E.T d) base w0) (hq : EqOkW E.P E.q base w0) (hrun : runR E false ops ops.toList 0 (A.map fun φ => (none, φ)) [] [] = some (ps, TF, rs)) (hps : allP ps) (hchk : chk false ops rs = true)
    (hQ : ∀ a w, Inv E false ops base w0 TF rs (fun i => i < ops.size) a w → Q .normal a w) :
    ∀ (m k : Nat) (a : Act) (w : World), k + m = ops.size → Inv E false ops base w0 TF rs (fun i => i < k) a w → wpOps E.P ops Q (List.range' k m) a w
  | 0, k, a, w, hk, hI => by
    have : k = ops.size := by omega
    subst this
    exact hQ a w hI
  | m + 1, k, a, w, hk, hI => by
    have hlt : k < ops.size := by omega
    have ho : ops[k]? = some ops[k] := Array.getElem?_eq_getElem hlt
    have hst := step_inv hT hq hrun hps hchk (Q := Q) hI ho (Nat.lt_irrefl k) (fun j hj => by unfold dep at hj; simpa using hj)
    simp only [List.range'_succ, wpOps]
    rw [ho]
    simp only
    have hnext : ∀ a' w', Inv E false ops base w0 TF rs (fun j => j = k ∨ j < k) a' w' → wpOps E.P ops Q (List.range' (k + 1) m) a' w' := fun a' w' h => by
      refine seq_inv hT hq hrun hps hchk hQ m (k + 1) a' w' (by omega) ?_
      have : (fun j => j < k + 1) = fun j => j = k ∨ j < k := funext fun j => propext (by omega)
      rwa [this]
    by_cases hw : Region.wanted ops[k] (yielded ops a.tmps) = true
    · rw [if_pos hw] at hst ⊢
      exact Or.inl (Oper.wp_mono hnext hst)
    · rw [if_neg hw] at hst ⊢
      exact hnext _ _ hst
theorem reg_sound {id : Nat} (hm : E.P.follows .mixedOrders = true) (hT : ∀ d, TabOkW E.P (E.T d) base w0) (hq : EqOkW E.P E.q base w0) (h : regA E draw ops A = some (ps, A')) (hps : allP ps) (hA : Holds E.nt base w0 A a w)
    (hQ : ∀ a w, Holds E.nt base w0 A' a w → Q .normal a w) : (Code.region id ops draw).wp E.P Q a w := by
  unfold regA at h
  split at h
  · rename_i ps' TF rs hrun
    cases hc : (chk draw ops rs && low draw ops) <;> rw [hc] at h
    · cases h
    · cases h
      rw [Bool.and_eq_true] at hc
      cases draw with
      | false =>
        refine wp_region ?_
        rw [List.range_eq_range']
        exact seq_inv hT hq hrun hps hc.1 (fun a w hI => hQ a w (end_inv hrun (fun _ h => h) hI)) ops.size 0 a w (by omega) (by
          have : (fun i => i < 0) = fun _ : Nat => False := funext fun i => propext ⟨fun h => by omega, fun h => h.elim⟩
          rw [this]
          exact start_inv hrun hA)
      | true =>
        refine wp_region_any hm ?_
        have hsz : ∀ n, fr n (Array.replicate ops.size false) = n := fun n => by
          induction n with
          | zero => rfl
          | succ n ih => unfold fr; rw [ih]; by_cases hn : n < ops.size <;> simp [Array.getD, hn]
        refine any_inv hT hq hrun hps hc.1 hc.2 (fun a w hI => hQ a w (end_inv hrun (fun _ h => h) hI)) ops.size _ a _ (by simp) (hsz _) ?_
        have : (fun i => (Array.replicate ops.size false).getD i false = true) = fun _ : Nat => False := funext fun i => propext (by by_cases hi : i < ops.size <;> simp [Array.getD, hi])
        rw [this]
        exact start_inv hrun hA.drew
  · cases h
end
end Go.Proofs.Ytebaoemoeckgaaa.Ex
namespace Go.Proofs.Ytebaoemoeckgaaa.Ex
set_option linter.unusedVariables false
set_option linter.unusedSimpArgs false
open Go.RowKit

inductive EA | nrm | ex (id : Nat) | rt
def EA.out : EA → Exit
  | .nrm => .normal
  | .ex id => .exit id
  | .rt => .ret
structure Cfg where
  T : Nat → Tab
  hint : Nat → Bool
  num : Nat → Option Value
def mkE (P : Program) (q : EqT) (nt : Nat) (c : Cfg) : Env := ⟨P, c.T, q, c.hint, c.num, nt⟩
/-- code, so much fuel; what the operations are told may hang on what is left of it -/
def run (P : Program) (q : EqT) (nt : Nat) (C : Nat → Cfg) : Nat → Code → List Fact → Option (List Prop × EA × List Fact)
  | 0, _, _ => none
  | n + 1, c, A => match c with
    | .skip => some ([], .nrm, A)
    | .ret => some ([], .rt, A)
    | .exit id => some ([], .ex id, A)
    | .region id ops draw => match regA (mkE P q nt (C n)) draw ops A with | some (p, A') => some (p, .nrm, A') | none => none
    | .seq x y => match run P q nt C n x A with
      | some (p, .nrm, A1) => match run P q nt C n y A1 with | some (p2, e, A2) => some (p ++ p2, e, A2) | none => none
      | r => r
    | .cond c x y => match ev A c with | some (.im (.bool b)) => run P q nt C n (bif b then x else y) A | _ => none
    | .block id x => match run P q nt C n x A with
      | some (p, .ex j, A1) => some (p, bif Nat.beq j id then .nrm else .ex j, A1)
      | r => r
    | .loop x => match run P q nt C n x A with
      | some (p, .nrm, A1) => match run P q nt C n (.loop x) A1 with | some (p2, e, A2) => some (p ++ p2, e, A2) | none => none
      | r => r
    | _ => none
/-- the loop's body, so often at most -/
def Un (P : Program) (c : Code) (Q : Exit → Act → World → Prop) : Nat → Act → World → Prop
  | 0, _, _ => False
  | n + 1, a, w => c.wp P (Exit.then (Un P c Q n) Q) a w
theorem least {p : Nat → Prop} : ∀ n, p n → ∃ m, p m ∧ ∀ k, p k → m ≤ k := fun n h => by
  induction n using Nat.strongRecOn with
  | _ n ih =>
    by_cases hk : ∃ k, k < n ∧ p k
    · obtain ⟨k, h1, h2⟩ := hk
      exact ih k h1 h2
    · exact ⟨n, h, fun k hp => Nat.le_of_not_lt fun hlt => hk ⟨k, hlt, hp⟩⟩
theorem wp_loop_un {P : Program} {c : Code} {Q : Exit → Act → World → Prop} {n : Nat} {a : Act} {w : World} (h : Un P c Q n a w) : (Code.loop c).wp P Q a w := by
  classical
  have hmin : ∀ a w, (∃ n, Un P c Q n a w) → ∃ m, Un P c Q m a w ∧ ∀ k, Un P c Q k a w → m ≤ k := fun a w ⟨n, h⟩ => least n h
  refine wp_loop (fun a w => ∃ n, Un P c Q n a w) (fun a w => if h : ∃ n, Un P c Q n a w then (hmin a w h).choose else 0) ⟨n, h⟩ ?_
  intro a w hI
  have hs := (hmin a w hI).choose_spec
  rw [dif_pos hI]
  generalize (hmin a w hI).choose = m at hs
  cases m with
  | zero => exact hs.1.elim
  | succ m =>
    refine Code.wp_mono (fun e a' w' he => ?_) hs.1
    cases e with
    | normal =>
      have hI' : ∃ n, Un P c Q n a' w' := ⟨m, he⟩
      refine ⟨hI', ?_⟩
      rw [dif_pos hI']
      exact Nat.lt_succ_of_le ((hmin a' w' hI').choose_spec.2 m he)
    | _ => exact he
section
variable {P : Program} {q : EqT} {nt : Nat} {C : Nat → Cfg} {base : Nat} {w0 : World}
theorem run_sound (hm : P.follows .mixedOrders = true) (hT : ∀ n d, TabOkW P ((C n).T d) base w0) (hq : EqOkW P q base w0) : ∀ (n : Nat) (c : Code) (A A' : List Fact) (ps : List Prop) (e : EA) (a : Act) (w : World) (Q : Exit → Act → World → Prop),
    run P q nt C n c A = some (ps, e, A') → allP ps → Holds nt base w0 A a w → (∀ a w, Holds nt base w0 A' a w → Q e.out a w) → c.wp P Q a w ∧ ∀ x, c = .loop x → Un P x Q n a w
  | 0, c, A, A', ps, e, a, w, Q, h, hps, hA, hQ => by cases h
  | n + 1, c, A, A', ps, e, a, w, Q, h, hps, hA, hQ => by
    cases c with
    | skip => cases h; exact ⟨wp_skip (hQ a w hA), fun x e => by cases e⟩
    | ret => cases h; exact ⟨wp_ret (hQ a w hA), fun x e => by cases e⟩
    | exit id => cases h; exact ⟨wp_exit (hQ a w hA), fun x e => by cases e⟩
    | region id ops draw =>
      refine ⟨?_, fun x e => by cases e⟩
      simp only [run] at h
      split at h
      · rename_i p A1 h1
        cases h
        exact reg_sound (E := mkE P q nt (C n)) hm (hT n) hq h1 hps hA hQ
      · cases h
    | seq x y =>
      refine ⟨?_, fun x e => by cases e⟩
      simp only [run] at h
      split at h
      · rename_i p A1 h1
        split at h
        · rename_i ps2 e2 A2 h2
          cases h
          obtain ⟨p1, p2⟩ := allP_append.1 hps
          refine wp_seq (run_sound hm hT hq n x A A1 p .nrm a w _ h1 p1 hA fun a w hA1 => ?_).1
          exact (run_sound hm hT hq n y A1 A' ps2 e a w Q h2 p2 hA1 hQ).1
        · cases h
      · rename_i r hr
        refine wp_seq (run_sound hm hT hq n x A A' ps e a w _ h hps hA fun a w hA1 => ?_).1
        cases e with
        | nrm => exact (hr _ _ h).elim
        | ex id => exact hQ a w hA1
        | rt => exact hQ a w hA1
    | cond c x y =>
      refine ⟨?_, fun x e => by cases e⟩
      simp only [run] at h
      split at h
      · rename_i b hb
        obtain ⟨β, hok, _⟩ := hA.facts
        have hc : a.eval c = .bool b := ev_spec hok hb
        refine wp_cond hc ?_
        have := (run_sound hm hT hq n _ A A' ps e a w Q h hps hA hQ).1
        cases b <;> exact this
      · cases h
    | block id x =>
      refine ⟨?_, fun x e => by cases e⟩
      simp only [run] at h
      split at h
      · rename_i p j A1 h1
        cases h
        refine wp_block (run_sound hm hT hq n x A A' ps (.ex j) a w _ h1 hps hA fun a w hA1 => ?_).1
        show if j = id then Q .normal a w else Q (.exit j) a w
        cases hj : Nat.beq j id
        · rw [if_neg (fun e => by rw [e] at hj; simp at hj)]
          have := hQ a w hA1
          rw [hj] at this
          exact this
        · rw [if_pos (Nat.eq_of_beq_eq_true hj)]
          have := hQ a w hA1
          rw [hj] at this
          exact this
      · rename_i r hr
        refine wp_block (run_sound hm hT hq n x A A' ps e a w _ h hps hA fun a w hA1 => ?_).1
        cases e with
        | ex id => exact (hr _ _ _ h).elim
        | nrm => exact hQ a w hA1
        | rt => exact hQ a w hA1
    | loop x =>
      have hun : Un P x Q (n + 1) a w := by
        simp only [run] at h
        unfold Un
        split at h
        · rename_i p A1 h1
          split at h
          · rename_i ps2 e2 A2 h2
            cases h
            obtain ⟨p1, p2⟩ := allP_append.1 hps
            refine (run_sound hm hT hq n x A A1 p .nrm a w _ h1 p1 hA fun a w hA1 => ?_).1
            exact (run_sound hm hT hq n (.loop x) A1 A' ps2 e a w Q h2 p2 hA1 hQ).2 x rfl
          · cases h
        · rename_i r hr
          refine (run_sound hm hT hq n x A A' ps e a w _ h hps hA fun a w hA1 => ?_).1
          cases e with
          | nrm => exact (hr _ _ h).elim
          | ex id => exact hQ a w hA1
          | rt => exact hQ a w hA1
      exact ⟨wp_loop_un hun, fun y e => by cases e; exact hun⟩
    | _ => simp only [run] at h; cases h
end
/-- an argument's facts: it lies in slot i -/
def argF : Nat → List CA → List Fact
  | _, [] => []
  | i, .v x :: r => .slot i x.av :: argF (i + 1) r
  | i, .s l n m :: r => .slot i (.sl i 0 n m) :: .row i false l :: argF (i + 1) r
  | i, .so l n :: r => .slot i (.so i n) :: .row i false l :: argF (i + 1) r
def resT (P : Program) (A : List Fact) : ResultVar → Option TV
  | .tmp t => match look A t with | some (.im v) => some (.im v) | some (.fl l) => some (.fl l) | _ => none
  | .cell t ty => match look A t with
    | some (.pt k o) => match rowOf A k, sizeT P ty, isRowT P ty with
      | some (_, l), some n, true => match seg l o n with | some s => some (.fl s) | none => none
      | _, _, _ => none
    | _ => none
def resTs (P : Program) (A : List Fact) : List ResultVar → Option (List TV)
  | [] => some []
  | x :: r => match resT P A x, resTs P A r with | some t, some l => some (t :: l) | _, _ => none
def rv : List TV → Option RV
  | [] => none
  | [t] => some (.one t)
  | l => some (.many l)
/-- a whole function -/
def funB (P : Program) (q : EqT) (C : Nat → Cfg) (fn : Func) (n : Nat) (cs : List CA) : Option (List Prop × RV) :=
  match fn.body with
  | some c => bif Nat.ble cs.length fn.ntmps then
      (match run P q fn.ntmps C n c (argF 0 cs) with
      | some (ps, .ex _, _) => none
      | some (ps, _, A) => match resTs P A fn.results.toList with
        | some l => match rv l with | some r => some (ps, r) | none => none
        | none => none
      | none => none) else none
  | none => none
def funA (P : Program) (T : Tab) (q : EqT) (hint : Nat → Bool) (fn : Func) (n : Nat) (cs : List CA) : Option (List Prop × RV) := funB P q (fun _ => ⟨fun _ => T, hint, fun _ => none⟩) fn n cs
theorem argF_key : ∀ (cs : List CA) (i : Nat) (φ : Fact), φ ∈ argF i cs → (∀ s v, φ = .slot s v → ∀ k, v.key = some k → i ≤ k) ∧ (∀ k o l, φ = .row k o l → i ≤ k) ∧ (∀ k b, φ ≠ .at k b) ∧ ∀ k e s n, φ ≠ .app k e s n
  | [], i, φ, h => by cases h
  | .v x :: r, i, φ, h => by
    rcases List.mem_cons.1 h with rfl | h
    · refine ⟨fun s v e k hk => ?_, (fun k o l e => by cases e), (fun k b e => by cases e), fun k e s n q => by cases q⟩
      cases e
      cases x <;> cases hk
    · obtain ⟨h1, h2, h3⟩ := argF_key r (i + 1) φ h
      exact ⟨fun s v e k hk => Nat.le_of_succ_le (h1 s v e k hk), fun k o l e => Nat.le_of_succ_le (h2 k o l e), h3⟩
  | .s l n m :: r, i, φ, h => by
    rcases List.mem_cons.1 h with rfl | h
    · refine ⟨fun s v e k hk => ?_, (fun k o l e => by cases e), (fun k b e => by cases e), fun k e s n q => by cases q⟩
      cases e
      cases hk
      exact Nat.le_refl _
    · rcases List.mem_cons.1 h with rfl | h
      · exact ⟨fun s v e => by (cases e), (fun k o l e => by cases e; exact Nat.le_refl _), (fun k b e => by cases e), fun k e s n q => by cases q⟩
      · obtain ⟨h1, h2, h3⟩ := argF_key r (i + 1) φ h
        exact ⟨fun s v e k hk => Nat.le_of_succ_le (h1 s v e k hk), fun k o l e => Nat.le_of_succ_le (h2 k o l e), h3⟩
  | .so l n :: r, i, φ, h => by
    rcases List.mem_cons.1 h with rfl | h
    · refine ⟨fun s v e k hk => ?_, (fun k o l e => by cases e), (fun k b e => by cases e), fun k e s n q => by cases q⟩
      cases e
      cases hk
      exact Nat.le_refl _
    · rcases List.mem_cons.1 h with rfl | h
      · exact ⟨fun s v e => by (cases e), (fun k o l e => by cases e; exact Nat.le_refl _), (fun k b e => by cases e), fun k e s n q => by cases q⟩
      · obtain ⟨h1, h2, h3⟩ := argF_key r (i + 1) φ h
        exact ⟨fun s v e k hk => Nat.le_of_succ_le (h1 s v e k hk), fun k o l e => Nat.le_of_succ_le (h2 k o l e), h3⟩
theorem argF_ok (a : Act) (w : World) : ∀ (cs : List CA) (vs : List Value) (i : Nat), CAs w cs vs → (∀ j v, vs[j]? = some v → a.tmps[i + j]? = some v) → ∃ β, ∀ φ ∈ argF i cs, φ.ok w.heap.size β a w
  | [], vs, i, _, _ => ⟨fun _ => (0, 0, 0), fun φ h => by cases h⟩
  | c :: cs, [], i, h, _ => by cases c <;> exact h.elim
  | c :: cs, v :: vs, i, h, ha => by
    obtain ⟨h1, h2⟩ : c.ok w v ∧ CAs w cs vs := by cases c <;> exact h
    obtain ⟨β, hβ⟩ := argF_ok a w cs vs (i + 1) h2 (fun j u hj => by have := ha (j + 1) u (by simpa using hj); rwa [show i + (j + 1) = i + 1 + j by omega] at this)
    have h0 := ha 0 v rfl
    rw [Nat.add_zero] at h0
    cases c with
    | v x =>
      refine ⟨β, fun φ hφ => ?_⟩
      rcases List.mem_cons.1 hφ with rfl | hφ
      · show a.tmps[i]? = _
        rw [h0, TV.av_den]
        exact congrArg some h1
      · exact hβ φ hφ
    | s l n m =>
      obtain ⟨b, o, rfl, hb, hr⟩ := h1
      refine ⟨fun k => bif Nat.beq k i then (b, o, 0) else β k, fun φ hφ => ?_⟩
      have hbi : (bif Nat.beq i i then (b, o, 0) else β i) = (b, o, 0) := by simp
      rcases List.mem_cons.1 hφ with rfl | hφ
      · show a.tmps[i]? = _
        rw [h0]
        show _ = some (Value.slice (some ⟨(bif Nat.beq i i then (b, o, 0) else β i).1, (bif Nat.beq i i then (b, o, 0) else β i).2.1 + 0, none⟩) n m)
        rw [hbi]
        rfl
      · rcases List.mem_cons.1 hφ with rfl | hφ
        · refine ⟨?_, ?_, (fun h => by cases h), fun _ => ?_⟩ <;> simp only [hbi]
          · exact hb
          · exact hr
          · exact hb
        · obtain ⟨k1, k2, k3, k4⟩ := argF_key cs (i + 1) φ hφ
          have hne : ∀ k, i + 1 ≤ k → (bif Nat.beq k i then (b, o, 0) else β k) = β k := fun k hk => by
            cases hq : Nat.beq k i
            · rfl
            · have := Nat.eq_of_beq_eq_true hq; omega
          have hold := hβ φ hφ
          cases φ with
          | slot s u =>
            show a.tmps[s]? = _
            rw [AV.den_eq (β := β) u (fun k hk => hne k (k1 s u rfl k hk))]
            exact hold
          | row k ow l' =>
            have e := hne k (k2 k ow l' rfl)
            simp only [Fact.ok] at hold ⊢
            simp only [e]
            exact hold
          | «at» k b => exact (k3 k b rfl).elim
          | app k e s n => exact (k4 k e s n rfl).elim
    | so l n =>
      obtain ⟨b, o, m, rfl, hb, hr⟩ := h1
      refine ⟨fun k => bif Nat.beq k i then (b, o, m) else β k, fun φ hφ => ?_⟩
      have hbi : (bif Nat.beq i i then (b, o, m) else β i) = (b, o, m) := by simp
      rcases List.mem_cons.1 hφ with rfl | hφ
      · show a.tmps[i]? = _
        rw [h0]
        show _ = some (Value.slice (some ⟨(bif Nat.beq i i then (b, o, m) else β i).1, (bif Nat.beq i i then (b, o, m) else β i).2.1, none⟩) n (bif Nat.beq i i then (b, o, m) else β i).2.2)
        rw [hbi]
      · rcases List.mem_cons.1 hφ with rfl | hφ
        · refine ⟨?_, ?_, (fun h => by cases h), fun _ => ?_⟩ <;> simp only [hbi]
          · exact hb
          · exact hr
          · exact hb
        · obtain ⟨k1, k2, k3, k4⟩ := argF_key cs (i + 1) φ hφ
          have hne : ∀ k, i + 1 ≤ k → (bif Nat.beq k i then (b, o, m) else β k) = β k := fun k hk => by
            cases hq : Nat.beq k i
            · rfl
            · have := Nat.eq_of_beq_eq_true hq; omega
          have hold := hβ φ hφ
          cases φ with
          | slot s u =>
            show a.tmps[s]? = _
            rw [AV.den_eq (β := β) u (fun k hk => hne k (k1 s u rfl k hk))]
            exact hold
          | row k ow l' =>
            have e := hne k (k2 k ow l' rfl)
            simp only [Fact.ok] at hold ⊢
            simp only [e]
            exact hold
          | «at» k b => exact (k3 k b rfl).elim
          | app k e s n => exact (k4 k e s n rfl).elim
def resF (tmps : Array Value) : ResultVar → Sem Value
  | .tmp t => pure (tmps.getD t undef)
  | .cell p t => do loadVar t (← asAddr (tmps.getD p undef))
theorem resT_spec {P : Program} {A : List Fact} {base : Nat} {β : Nat → Bk} {a : Act} {w : World} (hA : ∀ φ ∈ A, φ.ok base β a w) {x : ResultVar} {t : TV} (h1 : resT P A x = some t) : (resF a.tmps x).run P w = .ok t.den w := by
  cases x with
  | tmp s =>
    have : a.tmps.getD s undef = t.den := by
      simp only [resT] at h1
      split at h1
      · rename_i v hl; cases h1; have := hA _ (look_mem hl); simp only [Fact.ok] at this; simp [this]; rfl
      · rename_i v hl; cases h1; have := hA _ (look_mem hl); simp only [Fact.ok] at this; simp [this]; rfl
      · cases h1
    show (pure (a.tmps.getD s undef) : Sem Value).run P w = _
    rw [this]
    rfl
  | cell s ty =>
    simp only [resT] at h1
    split at h1
    · rename_i k o hl
      split at h1
      · rename_i ow row n hr hs ht
        split at h1
        · rename_i sg hg
          cases h1
          obtain ⟨i', hi, hn⟩ := sizeT_spec hs
          obtain ⟨ds, hu, hd'⟩ := isRowT_spec ht
          obtain ⟨g1, g2, _⟩ := hA _ (rowOf_mem hr)
          have hl' := hA _ (look_mem hl)
          simp only [Fact.ok, AV.den] at hl'
          have hv : a.tmps.getD s undef = .pointer (some ⟨(β k).1, (β k).2.1 + o, none⟩) := by simp [hl']
          have := run_loadVar_mid (P := P) w _ _ ty (flat sg) ds (range_seg g2 hg) hu hd' (by rw [hi]; simp [flat_len, seg_size hg, hn])
          show (do loadVar ty (← asAddr (a.tmps.getD s undef)) : Sem Value).run P w = _
          rw [hv]
          simp [asAddr, this, TV.den]
        · cases h1
      · cases h1
    · cases h1
theorem resTs_spec {P : Program} {A : List Fact} {base : Nat} {β : Nat → Bk} {a : Act} {w : World} (hA : ∀ φ ∈ A, φ.ok base β a w) : ∀ {xs : List ResultVar} {l : List TV}, resTs P A xs = some l → (xs.mapM (resF a.tmps)).run P w = .ok (l.map TV.den) w
  | [], l, h => by cases h; simp
  | x :: r, l, h => by
    unfold resTs at h
    split at h
    · rename_i t l' h1 h2
      cases h
      have ih := resTs_spec hA h2
      have hx := resT_spec hA h1
      simp [List.mapM_cons, ih, hx]
    · cases h
theorem rv_spec {l : List TV} {r : RV} (h : rv l = some r) : (if h : (l.map TV.den).toArray.size = 1 then (l.map TV.den).toArray[0] else Value.tuple (l.map TV.den).toArray) = r.den := by
  cases l with
  | nil => cases h
  | cons t l =>
    cases l with
    | nil => cases h; rfl
    | cons u l => cases h; rw [dif_neg (by simp)]; rfl
theorem funB_soundW {P : Program} {q : EqT} {C : Nat → Cfg} {w : World} (hm : P.follows .mixedOrders = true) (hT : ∀ n d, TabOkW P ((C n).T d) w.heap.size w) (hq : EqOkW P q w.heap.size w) {f : FuncId} {fn : Func} (hf : P.funcs[f]? = some fn) {n : Nat} {cs : List CA} {ps : List Prop} {r : RV}
    (h : funB P q C fn n cs = some (ps, r)) (hps : allP ps) {args : List Value} (ha : CAs w cs args) : Calls P f args.toArray w (fun e w' => e = .returned r.den ∧ Below w.heap.size w w') := by
  have hlen : ∀ (cs : List CA) (vs : List Value), CAs w cs vs → cs.length = vs.length := fun cs => by
    induction cs with
    | nil => intro vs h; cases vs with | nil => rfl | cons _ _ => exact h.elim
    | cons c cs ih => intro vs h; cases vs with | nil => cases c <;> exact h.elim | cons v vs => cases c <;> exact congrArg (· + 1) (ih vs h.2)
  unfold funB at h
  cases hb : fn.body with
  | none => rw [hb] at h; cases h
  | some c =>
    rw [hb] at h
    simp only at h
    cases hle : Nat.ble cs.length fn.ntmps <;> rw [hle] at h
    · cases h
    · simp only [cond_true] at h
      have hle' : args.length ≤ fn.ntmps := by rw [← hlen cs args ha]; exact Nat.le_of_ble_eq_true hle
      refine calls_of_wp hf hb ?_
      obtain ⟨β, hβ⟩ := argF_ok { tmps := args.toArray ++ Array.replicate (fn.ntmps - args.toArray.size) undef, defers := [] } w cs args 0 ha (fun j v hj => by
        have hlt : j < args.length := (List.getElem?_eq_some_iff.1 hj).1
        simp only [Nat.zero_add]
        rw [Array.getElem?_append_left (by simpa using hlt)]
        simpa using hj)
      have hH : Holds fn.ntmps w.heap.size w (argF 0 cs) { tmps := args.toArray ++ Array.replicate (fn.ntmps - args.toArray.size) undef, defers := [] } w :=
        ⟨rfl, by simp; omega, Below.refl _ _, Nat.le_refl _, β, hβ, fun k k' l l' hk => by
          have : ∀ (cs : List CA) (i : Nat) (k : Nat) (l : List At), Fact.row k true l ∈ argF i cs → False := fun cs => by
            induction cs with
            | nil => intro i k l h; cases h
            | cons c cs ih =>
              intro i k l h
              cases c with
              | v x => rcases List.mem_cons.1 h with h | h; · cases h
                       · exact ih _ _ _ h
              | s l1 n1 m1 =>
                rcases List.mem_cons.1 h with h | h
                · cases h
                · rcases List.mem_cons.1 h with h | h
                  · cases h
                  · exact ih _ _ _ h
              | so l1 n1 =>
                rcases List.mem_cons.1 h with h | h
                · cases h
                · rcases List.mem_cons.1 h with h | h
                  · cases h
                  · exact ih _ _ _ h
          exact (this cs 0 k l hk).elim⟩
      have hfin : ∀ (e : EA) (A : List Fact), (∀ j, e ≠ .ex j) → (∃ l, resTs P A fn.results.toList = some l ∧ rv l = some r) → ∀ a w', Holds fn.ntmps w.heap.size w A a w' → bodyPost P fn (fun e w' => e = .returned r.den ∧ Below w.heap.size w w') e.out a w' := fun e A he ⟨l, h1, h2⟩ a w' hA => by
        obtain ⟨β', hok, _⟩ := hA.facts
        have hres : (results fn a.tmps).run P w' = .ok r.den w' := by
          have := resTs_spec hok h1
          show ((fn.results.mapM (resF a.tmps)) >>= fun vs => pure (if h : vs.size = 1 then vs[0] else .tuple vs) : Sem Value).run P w' = _
          have hm : (List.toArray <$> fn.results.toList.mapM (resF a.tmps)).run P w' = .ok (l.map TV.den).toArray w' := by simp [this]
          rw [Array.mapM_eq_mapM_toList, Sem.run_bind, hm, Result.andThen_ok, Sem.run_pure]
          exact congrArg (fun x => Result.ok x w') (rv_spec h2)
        cases e with
        | nrm => exact ⟨hA.defers, _, hres, rfl, hA.below⟩
        | rt => exact ⟨hA.defers, _, hres, rfl, hA.below⟩
        | ex j => exact (he j rfl).elim
      split at h
      · cases h
      · rename_i ps' e A hne hrun
        split at h
        · rename_i l hl
          split at h
          · rename_i r' hr'
            cases h
            exact (run_sound (P := P) (q := q) (nt := fn.ntmps) (C := C) hm hT hq n c _ A ps e _ w _ hrun hps hH (hfin e A (fun j e' => hne j e') ⟨l, hl, hr'⟩)).1
          · cases h
        · cases h
      · cases h
theorem funB_sound {P : Program} {q : EqT} {C : Nat → Cfg} (hm : P.follows .mixedOrders = true) (hT : ∀ n d, TabOk P ((C n).T d)) (hq : EqOk P q) {f : FuncId} {fn : Func} (hf : P.funcs[f]? = some fn) {n : Nat} {cs : List CA} {ps : List Prop} {r : RV}
    (h : funB P q C fn n cs = some (ps, r)) (hps : allP ps) {args : List Value} {w : World} (ha : CAs w cs args) : Calls P f args.toArray w (fun e w' => e = .returned r.den ∧ Below w.heap.size w w') :=
  funB_soundW hm (fun n d => (hT n d).w _ _) (hq.w _ _) hf h hps ha
theorem fun_sound {P : Program} {T : Tab} {q : EqT} {hint : Nat → Bool} (hm : P.follows .mixedOrders = true) (hT : TabOk P T) (hq : EqOk P q) {f : FuncId} {fn : Func} (hf : P.funcs[f]? = some fn) {n : Nat} {cs : List CA} {ps : List Prop} {r : RV}
    (h : funA P T q hint fn n cs = some (ps, r)) (hps : allP ps) {args : List Value} {w : World} (ha : CAs w cs args) : Calls P f args.toArray w (fun e w' => e = .returned r.den ∧ Below w.heap.size w w') :=
  funB_sound hm (fun _ _ => hT) hq hf h hps ha
theorem callable {P : Program} {f : FuncId} {fn : Func} (hf : P.funcs[f]? = some fn) (hn : (fn.name == "runtime.NumGoroutine") = false) (hb : fn.body.isNone = false) (args : Array Value) (w : World) : (callFunc f args).run P w = .ok (.enter f args) w := by
  have hn' : ¬ fn.name = "runtime.NumGoroutine" := by simpa using hn
  have hb' : ¬ fn.body = none := fun e => by rw [e] at hb; cases hb
  simp [callFunc, hf, hn', hb']
def T0 : Tab := fun _ _ => none
theorem T0_ok (P : Program) : TabOk P T0 := fun _ _ _ _ h => by cases h
/-- a table with one function more -/
def Tab.add (T : Tab) (f : Nat) (g : List CA → Option (List Prop × RV)) : Tab := fun f' cs => bif Nat.beq f' f then g cs else T f' cs
theorem TabOk.add {P : Program} {T : Tab} (hT : TabOk P T) {f : Nat} {fn : Func} (hf : P.funcs[f]? = some fn) (hn : (fn.name == "runtime.NumGoroutine") = false) (hb : fn.body.isNone = false) {g : List CA → Option (List Prop × RV)}
    (h : ∀ cs pre r, g cs = some (pre, r) → allP pre → ∀ (args : List Value) (w : World), CAs w cs args → Calls P f args.toArray w (fun e w' => e = .returned r.den ∧ Below w.heap.size w w')) : TabOk P (T.add f g) := by
  intro f' cs pre r hg hp
  unfold Tab.add at hg
  cases hb' : Nat.beq f' f <;> rw [hb'] at hg
  · exact hT f' cs pre r hg hp
  · cases Nat.eq_of_beq_eq_true hb'
    exact ⟨callable hf hn hb, h cs pre r hg hp⟩
end Go.Proofs.Ytebaoemoeckgaaa.Ex
