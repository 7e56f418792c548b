/-
  A region that draws its order: operations in whatever order that make memory and call, held by one condition on what has come up, the frame and the world; behind them a tail in one forced order. Of whatever program. Conditions: as the law says.
-/
import Derived.StillTail
import Derived.RegionTactic
import Derived.KernelRfl
namespace Go.Proofs.Ytalddekocfkbhaa
set_option linter.unusedVariables false

section
variable {P : Program} {ops : Array Oper} {Q : Exit → Act → World → Prop} {md : Region.Mode}

/-- each operation below n waits only for lower ones -/
def backB (md : Region.Mode) (ops : Array Oper) (n : Nat) : Bool :=
  (List.range n).all fun i => match ops[i]? with
    | some o => o.after.all fun e => !Region.binds md e || decide (e.on < i)
    | none => false
/-- all that number i waits for has come up -/
def readyB (md : Region.Mode) (ops : Array Oper) (got : Nat → Bool) (i : Nat) : Bool :=
  match ops[i]? with
    | some o => o.after.all fun e => !Region.binds md e || got e.on
    | none => false
/-- how many of those below n have not come up -/
def undone (listed : Array Bool) : Nat → Nat
  | 0 => 0
  | n + 1 => undone listed n + if listed.getD n false = true then 0 else 1
theorem undone_succ (listed : Array Bool) (n : Nat) : undone listed (n + 1) = undone listed n + if listed.getD n false = true then 0 else 1 := rfl
theorem undone_set {listed : Array Bool} {i : Nat} (hi : i < listed.size) (h : listed.getD i false = false) : ∀ n, undone (listed.setIfInBounds i true) n + (if i < n then 1 else 0) = undone listed n
  | 0 => by simp [undone]
  | n + 1 => by
    have ih := undone_set hi h n
    rw [undone_succ, undone_succ]
    by_cases e : i = n
    · subst e
      have h1 : (listed.setIfInBounds i true).getD i false = true := by simp [hi]
      rw [h1, h]
      simp at ih ⊢
      omega
    · rw [getD_set_ne false e]
      by_cases h2 : i < n
      · rw [if_pos h2] at ih; rw [if_pos (show i < n + 1 by omega)]; omega
      · rw [if_neg h2] at ih; rw [if_neg (show ¬ i < n + 1 by omega)]; omega
theorem undone_zero {listed : Array Bool} : ∀ {n : Nat}, undone listed n = 0 → ∀ j, j < n → listed.getD j false = true
  | 0, _, j, hj => by omega
  | n + 1, h, j, hj => by
    rw [undone_succ] at h
    by_cases e : listed.getD n false = true
    · rw [if_pos e] at h
      rcases Nat.lt_or_ge j n with h1 | h1
      · exact undone_zero (by omega) j h1
      · obtain rfl : j = n := by omega
        exact e
    · rw [if_neg e] at h; omega
theorem undone_some {listed : Array Bool} : ∀ {n : Nat}, 0 < undone listed n → ∃ j, j < n ∧ listed.getD j false = false ∧ ∀ k, k < j → listed.getD k false = true
  | 0, h => by unfold undone at h; omega
  | n + 1, h => by
    rcases Nat.eq_zero_or_pos (undone listed n) with h0 | h0
    · unfold undone at h
      rw [h0] at h
      refine ⟨n, by omega, ?_, undone_zero h0⟩
      cases e : listed.getD n false with
      | true => rw [e] at h; simp at h
      | false => rfl
    · obtain ⟨j, hj, h1, h2⟩ := undone_some h0
      exact ⟨j, by omega, h1, h2⟩

def headDone (n m : Nat) : Array Bool := Array.replicate n true ++ Array.replicate (m - n) false

theorem wpAny_of_inv {n : Nat} {Inv : (Nat → Bool) → Act → World → Prop} {l : List Oper} (hl : ops = l.toArray) (hn : n < ops.size)
    (hs : Region.sinkB md ops n = true) (hc : Region.chainB md ops n = true) (hb : backB md ops n = true) (hq : Region.seqB md ops (ops.size - n) n (headDone n ops.size) = true)
    (step : ∀ (got : Nat → Bool) b u i, i < n → got i = false → readyB md ops got i = true → Inv got b u → wpOp P ops Q i (Inv (fun j => j == i || got j)) b u)
    (tail : ∀ got b u, (∀ j, j < n → got j = true) → Inv got b u → wpList P ops Q (l.drop n) b u) :
    ∀ (m : Nat) (listed : Array Bool) (b : Act) (u : World), HeadInv md ops n listed → undone listed n = m → Inv (fun j => listed.getD j false) b u → wpAny P md ops Q (m + (ops.size - n)) listed b u
  | 0, listed, b, u, inv, hm, h => by
    have hall := undone_zero hm
    have he : listed = headDone n ops.size := by
      refine Array.ext (by simp [headDone, inv.size]; omega) fun j h1 h2 => ?_
      rcases Nat.lt_or_ge j n with hj | hj
      · have := hall j hj
        simp [h1] at this
        rw [this]
        simp [headDone, hj]
      · have := inv.tail j hj (by rw [← inv.size]; exact h1)
        simp [h1] at this
        rw [this]
        simp [headDone, hj]
    subst he
    have hlen : (l.drop n).length = ops.size - n := by subst hl; simp
    rw [Nat.zero_add, ← hlen]
    exact wpAny_of_seq (l.drop n) n _ b u (fun j => by subst hl; simp [List.getElem?_drop]) (by rw [hlen]; exact hq) (tail _ b u hall h)
  | m + 1, listed, b, u, inv, hm, h => by
    rw [show m + 1 + (ops.size - n) = m + (ops.size - n) + 1 by omega]
    refine ⟨fun h0 => ?_, fun i hi => ?_⟩
    · obtain ⟨j, hj, h1, h2⟩ := undone_some (n := n) (listed := listed) (by omega)
      have hjr : j ∈ Region.ready md ops listed := by
        have hbj := List.all_eq_true.1 hb j (List.mem_range.2 hj)
        cases ho : ops[j]? with
        | none => rw [ho] at hbj; cases hbj
        | some o =>
          rw [ho] at hbj
          refine mem_ready.2 ⟨getD_in (by rw [inv.size]; omega) h1, o, ho, fun e he hbi => h2 _ ?_⟩
          have := (Array.all_eq_true_iff_forall_mem.1 hbj) e he
          simp [hbi] at this
          exact this
      rw [h0] at hjr; cases hjr
    · obtain ⟨hun, o, ho, hall⟩ := mem_ready.1 hi
      have hin : i < n := by
        rcases Nat.lt_or_ge i n with h' | h'
        · exact h'
        · obtain ⟨j, hj, h1, h2⟩ := undone_some (n := n) (listed := listed) (by omega)
          exact absurd hi (tail_waits hs hc hn inv _ j rfl hj (getD_in (by rw [inv.size]; omega) h1) i h')
      have his : i < listed.size := by rw [inv.size]; omega
      have hun' := getD_both hun
      refine wpOp_mono (fun b' u' h' => ?_) (step _ b u i hin hun' (by
        unfold readyB
        rw [ho]
        refine Array.all_eq_true_iff_forall_mem.2 fun e he => ?_
        cases hbi : Region.binds md e with
        | false => rfl
        | true => simpa [hbi] using hall e he hbi) h)
      refine wpAny_of_inv hl hn hs hc hb hq step tail m _ b' u' (inv.set hi hin) ?_ ?_
      · have := undone_set his hun' n
        rw [if_pos hin] at this; omega
      · have hf : (fun j => (listed.setIfInBounds i true).getD j false) = fun j => j == i || listed.getD j false := by
          funext j
          by_cases e : j = i
          · subst e; simp [his]
          · rw [getD_set_ne false (Ne.symm e)]; simp [e]
        rw [hf]; exact h'

theorem undone_new (k : Nat) : ∀ n, undone (Array.replicate k false) n = n
  | 0 => rfl
  | n + 1 => by rw [undone_succ, undone_new k n, getD_replicate_false]; simp

/-- The law: n operations in whatever order under the condition Inv, then the others in theirs. -/
theorem region_head (n : Nat) (Inv : (Nat → Bool) → Act → World → Prop) {id : Nat} {a : Act} {w : World} {l : List Oper} (hm : P.follows .mixedOrders = true) (hn : n < l.length)
    (hs : Region.sinkB .any l.toArray n = true) (hc : Region.chainB .any l.toArray n = true) (hb : backB .any l.toArray n = true) (hq : Region.seqB .any l.toArray (l.toArray.size - n) n (headDone n l.toArray.size) = true)
    (start : Inv (fun _ => false) a w.drew)
    (step : ∀ (got : Nat → Bool) b u i, i < n → got i = false → readyB .any l.toArray got i = true → Inv got b u → wpOp P l.toArray Q i (Inv (fun j => j == i || got j)) b u)
    (tail : ∀ got b u, (∀ j, j < n → got j = true) → Inv got b u → wpList P l.toArray Q (l.drop n) b u) : (Code.region id l.toArray true).wp P Q a w := by
  have hn' : n < l.toArray.size := by simpa using hn
  have inv0 : HeadInv .any l.toArray n (Array.replicate l.toArray.size false) :=
    ⟨by simp, fun j oj _ hl => (by rw [getD_replicate_false] at hl; cases hl), fun t _ ht => getD_in (by simpa using ht) (getD_replicate_false _ _)⟩
  refine wp_region_any hm ?_
  have hf : (fun j => (Array.replicate l.toArray.size false).getD j false) = fun _ : Nat => false := by funext j; exact getD_replicate_false _ _
  have H := wpAny_of_inv (md := .any) rfl hn' hs hc hb hq step tail n _ a w.drew inv0 (undone_new _ n) (by rw [hf]; exact start)
  rw [show n + (l.toArray.size - n) = l.toArray.size by omega] at H
  exact H
end
end Go.Proofs.Ytalddekocfkbhaa
