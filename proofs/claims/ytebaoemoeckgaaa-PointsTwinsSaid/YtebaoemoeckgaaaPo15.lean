/-
  Numbers as they come in, by value: entries. Conditions: none.
  The calls of the reference's halves and join: for any number of four words, in any world, eight halves of words; and back. Conditions: each word below 2^64.
  A region that draws its order: operations in whatever order that make memory and call, held by one condition on what has come up, the frame and the world; behind them a tail in one forced order. Of whatever program. Conditions: as the law says.
  The reference's sum and difference of two numbers of four words. Conditions: words below 2^64.
-/
import Derived.StillTail
import Derived.RegionTactic
import Derived.KernelRfl
import Derived.LoopTactic
import Derived.Test.YtebaoemoeckgaaaPo14
import Derived.Test.YtebaoemoeckgaaaPo07
import Derived.Test.YtebaoemoeckgaaaPo00
import Derived.Test.YtebaoemoeckgaaaPo10
namespace Go.Proofs.Ytebaoemoeckgaaa.Ex
set_option linter.unusedVariables false
set_option linter.unusedSimpArgs false
open Go.RowKit

/-- numbers as they come in, by value -/
def vl : At → Option Fq
  | .f x => some x
  | .q x => some (m1 x)
  | .c _ => none
def vls : List At → Option (List Fq)
  | [] => some []
  | a :: r => match vl a, vls r with | some x, some l => some (x :: l) | _, _ => none
def rv1 (l : List At) : Option Fq := match vls l with | some [a] => some a | _ => none
def Rdv {α γ : Type} (rd : List At → Option α) (qn : γ → List At) (mm : γ → α) : Prop := ∀ l x, rd l = some x → ∃ n, flat l = flat (qn n) ∧ mm n = x
theorem vls_ok : ∀ {l : List At} {m : List Fq}, vls l = some m → ∃ ns : List Nat, flat l = flat (ns.map At.q) ∧ ns.map m1 = m
  | [], m, h => by cases h; exact ⟨[], rfl, rfl⟩
  | a :: r, m, h => by
    unfold vls at h
    split at h
    · rename_i x l' h1 h2
      cases h
      obtain ⟨ns, e1, e2⟩ := vls_ok h2
      cases a with
      | f y => cases h1; exact ⟨x.1 :: ns, by show w4 x.1 ++ flat r = w4 x.1 ++ flat (ns.map At.q); rw [e1], by rw [List.map_cons, e2, m1_nv]⟩
      | q y => cases h1; exact ⟨y :: ns, by show w4 y ++ flat r = w4 y ++ flat (ns.map At.q); rw [e1], by rw [List.map_cons, e2]⟩
      | c v => cases h1
    · cases h
theorem rv1_ok : Rdv rv1 q1 m1 := fun l x h => by
  unfold rv1 at h
  split at h
  · rename_i a hn
    cases h
    obtain ⟨ns, e1, e2⟩ := vls_ok hn
    match ns, e2 with
    | [n], e2 => cases e2; exact ⟨n, e1, rfl⟩
  · cases h
theorem g1v_ok {P : Program} {f : FuncId} {α γ : Type} {rd : List At → Option α} {qn : γ → List At} {mm : γ → α} (hr : Rdv rd qn mm) {op : α → List Prop × RV} (h : ∀ x, allP (op (mm x)).1 → ∀ args w, CAs w [.v (.fl (qn x))] args → Good P f (op (mm x)).2 args w) :
    ∀ cs pre r, g1 rd op cs = some (pre, r) → allP pre → ∀ (args : List Value) (w : World), CAs w cs args → Good P f r args w := by
  intro cs pre r hg hp args w ha
  unfold g1 at hg
  split at hg
  · rename_i l
    split at hg
    · rename_i x hx
      obtain ⟨n, e1, rfl⟩ := hr l x hx
      have e : op (mm n) = (pre, r) := by simpa using hg
      have := h n (by rw [e]; exact hp) args w (by
        rw [args1 ha, e1]
        exact ⟨rfl, trivial⟩)
      rw [e] at this
      exact this
    · cases hg
  · cases hg
theorem g2v_ok {P : Program} {f : FuncId} {α γ α' γ' : Type} {rd : List At → Option α} {qn : γ → List At} {mm : γ → α} {rd' : List At → Option α'} {qn' : γ' → List At} {mm' : γ' → α'} (hr : Rdv rd qn mm) (hr' : Rdv rd' qn' mm') {op : α → α' → List Prop × RV}
    (h : ∀ x y, allP (op (mm x) (mm' y)).1 → ∀ args w, CAs w [.v (.fl (qn x)), .v (.fl (qn' y))] args → Good P f (op (mm x) (mm' y)).2 args w) :
    ∀ cs pre r, g2 rd rd' op cs = some (pre, r) → allP pre → ∀ (args : List Value) (w : World), CAs w cs args → Good P f r args w := by
  intro cs pre r hg hp args w ha
  unfold g2 at hg
  split at hg
  · rename_i l m
    split at hg
    · rename_i x y hx hy
      obtain ⟨n, e1, rfl⟩ := hr l x hx
      obtain ⟨n', e2, rfl⟩ := hr' m y hy
      have e : op (mm n) (mm' n') = (pre, r) := by simpa using hg
      have := h n n' (by rw [e]; exact hp) args w (by
        rw [args2 ha, e1, e2]
        exact ⟨rfl, rfl, trivial⟩)
      rw [e] at this
      exact this
    · cases hg
  · cases hg

end Go.Proofs.Ytebaoemoeckgaaa.Ex
namespace Go.Proofs.Ytebaoemoeckgaaa
set_option linter.unusedVariables false
set_option linter.unusedSimpArgs false
open Go.RowKit

def val8 (a0 a1 a2 a3 a4 a5 a6 a7 : Nat) : Nat := a0 + 4294967296 * (a1 + 4294967296 * (a2 + 4294967296 * (a3 + 4294967296 * (a4 + 4294967296 * (a5 + 4294967296 * (a6 + 4294967296 * a7))))))
def ok8 (a0 a1 a2 a3 a4 a5 a6 a7 : Nat) : Prop := a0 < 4294967296 ∧ a1 < 4294967296 ∧ a2 < 4294967296 ∧ a3 < 4294967296 ∧ a4 < 4294967296 ∧ a5 < 4294967296 ∧ a6 < 4294967296 ∧ a7 < 4294967296
theorem ex_half {a : Nat} (ha : a < 18446744073709551616) : ∃ l h : Nat, bits .and .u64 (a : Int) 4294967295 = (l : Int) ∧ (a : Int) / 4294967296 = (h : Int) ∧ l < 4294967296 ∧ h < 4294967296 ∧ Hid (l + 4294967296 * h = a) := by
  obtain ⟨h, l, e1, e2, h1, h2, e⟩ := dv_half ha
  exact ⟨l, h, e2, e1, h2, h1, Lib.hid (by omega)⟩
def HalvesPost (A : Nat) (w : World) (e : Ending) (w' : World) : Prop :=
  ∃ h0 h1 h2 h3 h4 h5 h6 h7 : Nat, e = .returned (.agg #[.int .u64 h0, .int .u64 h1, .int .u64 h2, .int .u64 h3, .int .u64 h4, .int .u64 h5, .int .u64 h6, .int .u64 h7]) ∧ ok8 h0 h1 h2 h3 h4 h5 h6 h7 ∧ Hid (val8 h0 h1 h2 h3 h4 h5 h6 h7 = A) ∧ Below w.heap.size w w'

set_option maxHeartbeats 1000000 in
theorem halves_calls (a0 a1 a2 a3 : Nat) (ha : ok4 a0 a1 a2 a3) (w : World) :
    Calls Try.prog 94 #[.agg #[.int .u64 a0, .int .u64 a1, .int .u64 a2, .int .u64 a3]] w (HalvesPost (val4 a0 a1 a2 a3) w) := by
  obtain ⟨h0, h1, d0, d1, b0, b1, e0⟩ := ex_half ha.1
  obtain ⟨h2, h3, d2, d3, b2, b3, e1⟩ := ex_half ha.2.1
  obtain ⟨h4, h5, d4, d5, b4, b5, e2⟩ := ex_half ha.2.2.1
  obtain ⟨h6, h7, d6, d7, b6, b7, e3⟩ := ex_half ha.2.2.2
  go_enter Try.func94, Try.ntmps94
  go_wp2_with fail
  refine wp_loop_rounds 5 ?_
  rw [rounds_succ]
  go_wp2_with fail
  rw [rounds_succ]
  go_wp2_with fail
  rw [rounds_succ]
  go_wp2_with fail
  rw [rounds_succ]
  go_wp2_with fail
  rw [rounds_succ]
  go_wp2_with fail
  refine bodyPost_ret (v := .agg #[.int .u64 h0, .int .u64 h1, .int .u64 h2, .int .u64 h3, .int .u64 h4, .int .u64 h5, .int .u64 h6, .int .u64 h7]) (by simp [results, Try.results94, go_sem]) rfl ?_
  refine ⟨h0, h1, h2, h3, h4, h5, h6, h7, rfl, ⟨b0, b1, b2, b3, b4, b5, b6, b7⟩, ?_, ?_⟩
  · have := e0.out; have := e1.out; have := e2.out; have := e3.out
    exact Lib.hid (by unfold val4 val8; omega)
  repeat (first | exact Below.refl _ _ | refine Below.drew ?_ | refine Below.alloc ?_ (by first | (simp; done) | (simp; omega)) _)

theorem ex_join {l h : Nat} (hl : l < 4294967296) (hh : h < 4294967296) : ∃ u s : Nat, (h : Int) * 4294967296 = (u : Int) ∧ bits .or .u64 (l : Int) (u : Int) = (s : Int) ∧ u < 18446744073709551616 ∧ s < 18446744073709551616 ∧ Hid (s = l + 4294967296 * h) := by
  obtain ⟨s, e, hs, f⟩ := ex_or' (k := 32) (lo := l) (up := h * 4294967296) (by omega) (by omega) (Lib.hid (by omega)) (Lib.hid ⟨h, by omega⟩)
  have := f.out
  exact ⟨h * 4294967296, s, by omega, e, by omega, hs, Lib.hid (by omega)⟩

end Go.Proofs.Ytebaoemoeckgaaa
namespace Go.Proofs.Ytebaoemoeckgaaa
set_option linter.unusedVariables false

section
variable {P : Program} {ops : Array Oper} {Q : Exit → Act → World → Prop} {md : Region.Mode}

/-- each operation below n waits only for lower ones -/
def backB (md : Region.Mode) (ops : Array Oper) (n : Nat) : Bool :=
  (List.range n).all fun i => match ops[i]? with
    | some o => o.after.all fun e => !Region.binds md e || decide (e.on < i)
    | none => false
/-- all that number i waits for has come up -/
def readyB (md : Region.Mode) (ops : Array Oper) (got : Nat → Bool) (i : Nat) : Bool :=
  match ops[i]? with
    | some o => o.after.all fun e => !Region.binds md e || got e.on
    | none => false
/-- how many of those below n have not come up -/
def undone (listed : Array Bool) : Nat → Nat
  | 0 => 0
  | n + 1 => undone listed n + if listed.getD n false = true then 0 else 1
theorem undone_succ (listed : Array Bool) (n : Nat) : undone listed (n + 1) = undone listed n + if listed.getD n false = true then 0 else 1 := rfl
theorem undone_set {listed : Array Bool} {i : Nat} (hi : i < listed.size) (h : listed.getD i false = false) : ∀ n, undone (listed.setIfInBounds i true) n + (if i < n then 1 else 0) = undone listed n
  | 0 => by simp [undone]
  | n + 1 => by
    have ih := undone_set hi h n
    rw [undone_succ, undone_succ]
    by_cases e : i = n
    · subst e
      have h1 : (listed.setIfInBounds i true).getD i false = true := by simp [hi]
      rw [h1, h]
      simp at ih ⊢
      omega
    · rw [getD_set_ne false e]
      by_cases h2 : i < n
      · rw [if_pos h2] at ih; rw [if_pos (show i < n + 1 by omega)]; omega
      · rw [if_neg h2] at ih; rw [if_neg (show ¬ i < n + 1 by omega)]; omega
theorem undone_zero {listed : Array Bool} : ∀ {n : Nat}, undone listed n = 0 → ∀ j, j < n → listed.getD j false = true
  | 0, _, j, hj => by omega
  | n + 1, h, j, hj => by
    rw [undone_succ] at h
    by_cases e : listed.getD n false = true
    · rw [if_pos e] at h
      rcases Nat.lt_or_ge j n with h1 | h1
      · exact undone_zero (by omega) j h1
      · obtain rfl : j = n := by omega
        exact e
    · rw [if_neg e] at h; omega
theorem undone_some {listed : Array Bool} : ∀ {n : Nat}, 0 < undone listed n → ∃ j, j < n ∧ listed.getD j false = false ∧ ∀ k, k < j → listed.getD k false = true
  | 0, h => by unfold undone at h; omega
  | n + 1, h => by
    rcases Nat.eq_zero_or_pos (undone listed n) with h0 | h0
    · unfold undone at h
      rw [h0] at h
      refine ⟨n, by omega, ?_, undone_zero h0⟩
      cases e : listed.getD n false with
      | true => rw [e] at h; simp at h
      | false => rfl
    · obtain ⟨j, hj, h1, h2⟩ := undone_some h0
      exact ⟨j, by omega, h1, h2⟩

def headDone (n m : Nat) : Array Bool := Array.replicate n true ++ Array.replicate (m - n) false

theorem wpAny_of_inv {n : Nat} {Inv : (Nat → Bool) → Act → World → Prop} {l : List Oper} (hl : ops = l.toArray) (hn : n < ops.size)
    (hs : Region.sinkB md ops n = true) (hc : Region.chainB md ops n = true) (hb : backB md ops n = true) (hq : Region.seqB md ops (ops.size - n) n (headDone n ops.size) = true)
    (step : ∀ (got : Nat → Bool) b u i, i < n → got i = false → readyB md ops got i = true → Inv got b u → wpOp P ops Q i (Inv (fun j => j == i || got j)) b u)
    (tail : ∀ got b u, (∀ j, j < n → got j = true) → Inv got b u → wpList P ops Q (l.drop n) b u) :
    ∀ (m : Nat) (listed : Array Bool) (b : Act) (u : World), HeadInv md ops n listed → undone listed n = m → Inv (fun j => listed.getD j false) b u → wpAny P md ops Q (m + (ops.size - n)) listed b u
  | 0, listed, b, u, inv, hm, h => by
    have hall := undone_zero hm
    have he : listed = headDone n ops.size := by
      refine Array.ext (by simp [headDone, inv.size]; omega) fun j h1 h2 => ?_
      rcases Nat.lt_or_ge j n with hj | hj
      · have := hall j hj
        simp [h1] at this
        rw [this]
        simp [headDone, hj]
      · have := inv.tail j hj (by rw [← inv.size]; exact h1)
        simp [h1] at this
        rw [this]
        simp [headDone, hj]
    subst he
    have hlen : (l.drop n).length = ops.size - n := by subst hl; simp
    rw [Nat.zero_add, ← hlen]
    exact wpAny_of_seq (l.drop n) n _ b u (fun j => by subst hl; simp [List.getElem?_drop]) (by rw [hlen]; exact hq) (tail _ b u hall h)
  | m + 1, listed, b, u, inv, hm, h => by
    rw [show m + 1 + (ops.size - n) = m + (ops.size - n) + 1 by omega]
    refine ⟨fun h0 => ?_, fun i hi => ?_⟩
    · obtain ⟨j, hj, h1, h2⟩ := undone_some (n := n) (listed := listed) (by omega)
      have hjr : j ∈ Region.ready md ops listed := by
        have hbj := List.all_eq_true.1 hb j (List.mem_range.2 hj)
        cases ho : ops[j]? with
        | none => rw [ho] at hbj; cases hbj
        | some o =>
          rw [ho] at hbj
          refine mem_ready.2 ⟨getD_in (by rw [inv.size]; omega) h1, o, ho, fun e he hbi => h2 _ ?_⟩
          have := (Array.all_eq_true_iff_forall_mem.1 hbj) e he
          simp [hbi] at this
          exact this
      rw [h0] at hjr; cases hjr
    · obtain ⟨hun, o, ho, hall⟩ := mem_ready.1 hi
      have hin : i < n := by
        rcases Nat.lt_or_ge i n with h' | h'
        · exact h'
        · obtain ⟨j, hj, h1, h2⟩ := undone_some (n := n) (listed := listed) (by omega)
          exact absurd hi (tail_waits hs hc hn inv _ j rfl hj (getD_in (by rw [inv.size]; omega) h1) i h')
      have his : i < listed.size := by rw [inv.size]; omega
      have hun' := getD_both hun
      refine wpOp_mono (fun b' u' h' => ?_) (step _ b u i hin hun' (by
        unfold readyB
        rw [ho]
        refine Array.all_eq_true_iff_forall_mem.2 fun e he => ?_
        cases hbi : Region.binds md e with
        | false => rfl
        | true => simpa [hbi] using hall e he hbi) h)
      refine wpAny_of_inv hl hn hs hc hb hq step tail m _ b' u' (inv.set hi hin) ?_ ?_
      · have := undone_set his hun' n
        rw [if_pos hin] at this; omega
      · have hf : (fun j => (listed.setIfInBounds i true).getD j false) = fun j => j == i || listed.getD j false := by
          funext j
          by_cases e : j = i
          · subst e; simp [his]
          · rw [getD_set_ne false (Ne.symm e)]; simp [e]
        rw [hf]; exact h'

theorem undone_new (k : Nat) : ∀ n, undone (Array.replicate k false) n = n
  | 0 => rfl
  | n + 1 => by rw [undone_succ, undone_new k n, getD_replicate_false]; simp

/-- The law: n operations in whatever order under the condition Inv, then the others in theirs. -/
theorem region_head (n : Nat) (Inv : (Nat → Bool) → Act → World → Prop) {id : Nat} {a : Act} {w : World} {l : List Oper} (hm : P.follows .mixedOrders = true) (hn : n < l.length)
    (hs : Region.sinkB .any l.toArray n = true) (hc : Region.chainB .any l.toArray n = true) (hb : backB .any l.toArray n = true) (hq : Region.seqB .any l.toArray (l.toArray.size - n) n (headDone n l.toArray.size) = true)
    (start : Inv (fun _ => false) a w.drew)
    (step : ∀ (got : Nat → Bool) b u i, i < n → got i = false → readyB .any l.toArray got i = true → Inv got b u → wpOp P l.toArray Q i (Inv (fun j => j == i || got j)) b u)
    (tail : ∀ got b u, (∀ j, j < n → got j = true) → Inv got b u → wpList P l.toArray Q (l.drop n) b u) : (Code.region id l.toArray true).wp P Q a w := by
  have hn' : n < l.toArray.size := by simpa using hn
  have inv0 : HeadInv .any l.toArray n (Array.replicate l.toArray.size false) :=
    ⟨by simp, fun j oj _ hl => (by rw [getD_replicate_false] at hl; cases hl), fun t _ ht => getD_in (by simpa using ht) (getD_replicate_false _ _)⟩
  refine wp_region_any hm ?_
  have hf : (fun j => (Array.replicate l.toArray.size false).getD j false) = fun _ : Nat => false := by funext j; exact getD_replicate_false _ _
  have H := wpAny_of_inv (md := .any) rfl hn' hs hc hb hq step tail n _ a w.drew inv0 (undone_new _ n) (by rw [hf]; exact start)
  rw [show n + (l.toArray.size - n) = l.toArray.size by omega] at H
  exact H
end
end Go.Proofs.Ytebaoemoeckgaaa
namespace Go.Proofs.Ytebaoemoeckgaaa
set_option linter.unusedVariables false
set_option linter.unusedSimpArgs false
open Go.RowKit

structure QW (w wr : World) (A B P : Nat → Nat) : Prop where
  below : Below w.heap.size w wr
  size : w.heap.size + 1 + 1 + 1 < wr.heap.size
  rowA : RowIs wr w.heap.size 4 A
  rowB : RowIs wr (w.heap.size + 1) 4 B
  rowR : RowIs wr (w.heap.size + 1 + 1) 4 (fun _ => 0)
  rowP : RowIs wr (w.heap.size + 1 + 1 + 1) 4 P
theorem QW.set {w wr : World} {A B P : Nat → Nat} (h : QW w wr A B P) {k d : Nat} (hk : k < 4) : QW w (wr.setCell ⟨w.heap.size + 1 + 1 + 1, k, none⟩ (.int .u64 (d : Nat))) A B (upd P k d) :=
  ⟨h.below.setCell (p := ⟨w.heap.size + 1 + 1 + 1, k, none⟩) (by simp; omega) _, by rw [World.size_setCell]; exact h.size, h.rowA.other (by omega) _, h.rowB.other (by omega) _, h.rowR.other (by omega) _, h.rowP.set hk⟩
theorem QW.drewN {w wr : World} {A B P : Nat → Nat} (h : QW w wr A B P) (n : Nat) : QW w (wr.drewN n) A B P := ⟨h.below.trans (below_drewN' _ _ _), h.size, h.rowA, h.rowB, h.rowR, h.rowP⟩
theorem QW.start (w : World) (a0 a1 a2 a3 b0 b1 b2 b3 : Nat) (t : TypeId) : QW w ((((w.alloc (.cells #[.int .u64 a0, .int .u64 a1, .int .u64 a2, .int .u64 a3] t)).alloc (.cells #[.int .u64 b0, .int .u64 b1, .int .u64 b2, .int .u64 b3] t)).alloc (.cells #[.int .u64 0, .int .u64 0, .int .u64 0, .int .u64 0] t)).alloc (.cells #[.int .u64 0, .int .u64 0, .int .u64 0, .int .u64 0] t)) (fnOf [a0, a1, a2, a3]) (fnOf [b0, b1, b2, b3]) (fun _ => 0) := by
  refine ⟨?_, by simp, ?_, ?_, ?_, ?_⟩
  · repeat (first | exact Below.refl _ _ | refine Below.alloc ?_ (by first | (simp; done) | (simp; omega)) _)
  · exact RowIs.mk4 (by simp [go_sem]) (by simp [go_sem]) (by simp [go_sem]) (by simp [go_sem]) (fun k => by simp [go_sem])
  · exact RowIs.mk4 (by simp [go_sem]) (by simp [go_sem]) (by simp [go_sem]) (by simp [go_sem]) (fun k => by simp [go_sem])
  · intro k hk
    match k, hk with
    | 0, _ | 1, _ | 2, _ | 3, _ => exact ⟨by simp [go_sem], by simp [go_sem]⟩
  · intro k hk
    match k, hk with
    | 0, _ | 1, _ | 2, _ | 3, _ => exact ⟨by simp [go_sem], by simp [go_sem]⟩
/-- one word of a sum -/
theorem plus_step {A B P : Nat → Nat} {k c t d : Nat} (h : tot 18446744073709551616 P k + c * 18446744073709551616 ^ k = tot 18446744073709551616 A k + tot 18446744073709551616 B k) (e : t + 18446744073709551616 * d = A k + B k + c) : tot 18446744073709551616 (upd P k t) (k + 1) + d * 18446744073709551616 ^ (k + 1) = tot 18446744073709551616 A (k + 1) + tot 18446744073709551616 B (k + 1) := by
  rw [tot_succ, tot_succ, tot_succ, tot_upd_ge 18446744073709551616 P k t k (Nat.le_refl _), Nat.pow_succ]
  have hu : upd P k t k = t := by unfold upd; rw [if_pos rfl]
  rw [hu]
  have e' : t * 18446744073709551616 ^ k + d * (18446744073709551616 ^ k * 18446744073709551616) = A k * 18446744073709551616 ^ k + B k * 18446744073709551616 ^ k + c * 18446744073709551616 ^ k := by
    rw [← Nat.add_mul, ← Nat.add_mul, ← e, Nat.add_mul]
    congr 1
    rw [Nat.mul_comm (18446744073709551616 ^ k) 18446744073709551616, ← Nat.mul_assoc, Nat.mul_comm d 18446744073709551616]
  omega
/-- one word of a difference -/
theorem minus_step {A B P : Nat → Nat} {k c t d : Nat} (h : tot 18446744073709551616 P k + tot 18446744073709551616 B k = tot 18446744073709551616 A k + c * 18446744073709551616 ^ k) (e : t + B k + c = A k + 18446744073709551616 * d) : tot 18446744073709551616 (upd P k t) (k + 1) + tot 18446744073709551616 B (k + 1) = tot 18446744073709551616 A (k + 1) + d * 18446744073709551616 ^ (k + 1) := by
  rw [tot_succ, tot_succ, tot_succ, tot_upd_ge 18446744073709551616 P k t k (Nat.le_refl _), Nat.pow_succ]
  have hu : upd P k t k = t := by unfold upd; rw [if_pos rfl]
  rw [hu]
  have e' : t * 18446744073709551616 ^ k + B k * 18446744073709551616 ^ k + c * 18446744073709551616 ^ k = A k * 18446744073709551616 ^ k + d * (18446744073709551616 ^ k * 18446744073709551616) := by
    rw [← Nat.add_mul, ← Nat.add_mul, e, Nat.add_mul]
    congr 1
    rw [Nat.mul_comm (18446744073709551616 ^ k) 18446744073709551616, ← Nat.mul_assoc, Nat.mul_comm d 18446744073709551616]
  omega
theorem tot4 (l : List Nat) (a0 a1 a2 a3 : Nat) (h : l = [a0, a1, a2, a3]) : tot 18446744073709551616 (fnOf l) 4 = val4 a0 a1 a2 a3 := by subst h; rw [← val4_tot]; rfl
theorem below_set4' {B : Nat} {w w' : World} {b : Nat} (h : Below B w w') (hb : B ≤ b) (d0 d1 d2 d3 : Value) : Below B w ((((w'.setCell ⟨b, 0, none⟩ d0).setCell ⟨b, 1, none⟩ d1).setCell ⟨b, 2, none⟩ d2).setCell ⟨b, 3, none⟩ d3) :=
  (((h.setCell (p := ⟨b, 0, none⟩) hb _).setCell (p := ⟨b, 1, none⟩) hb _).setCell (p := ⟨b, 2, none⟩) hb _).setCell (p := ⟨b, 3, none⟩) hb _

set_option maxRecDepth 100000 in
set_option maxHeartbeats 2000000 in
theorem refPlus_calls (a0 a1 a2 a3 b0 b1 b2 b3 : Nat) (ha : ok4 a0 a1 a2 a3) (hb : ok4 b0 b1 b2 b3) (w : World) :
    Calls Try.prog 69 #[.agg #[.int .u64 a0, .int .u64 a1, .int .u64 a2, .int .u64 a3], .agg #[.int .u64 b0, .int .u64 b1, .int .u64 b2, .int .u64 b3]] w (AddPost (val4 a0 a1 a2 a3) (val4 b0 b1 b2 b3) w) := by
  have hAl := fnOf4_lt ha
  have hBl := fnOf4_lt hb
  have HTA := Lib.hid (tot4 [a0, a1, a2, a3] a0 a1 a2 a3 rfl)
  have HTB := Lib.hid (tot4 [b0, b1, b2, b3] b0 b1 b2 b3 rfl)
  have HQ := Lib.hid (QW.start w a0 a1 a2 a3 b0 b1 b2 b3 45)
  generalize fnOf [a0, a1, a2, a3] = A at *
  generalize fnOf [b0, b1, b2, b3] = B at *
  have HAl := Lib.hid hAl; have HBl := Lib.hid hBl
  clear hAl hBl
  go_enter Try.func69, Try.ntmps69
  go_wp2_with fail
  go_loopw [7, 8] (fun cv i wr => ∃ (k c : Nat) (P : Nat → Nat), k ≤ 4 ∧ c ≤ 1 ∧ i = .int .i64 k ∧ cv = .int .u64 c ∧ QW w wr A B P ∧ Hid ((∀ j, P j < 18446744073709551616) ∧ tot 18446744073709551616 P k + c * 18446744073709551616 ^ k = tot 18446744073709551616 A k + tot 18446744073709551616 B k)) (fun _ i _ => 4 - (intOf i).toNat)
  case atStart => exact ⟨0, 0, fun _ => 0, by omega, by omega, rfl, rfl, HQ.out, Lib.hid ⟨fun _ => by show 0 < _; omega, by simp [tot]⟩⟩
  case round =>
    obtain ⟨k, c, P, hk, hc, rfl, rfl, m, mo⟩ := hrel
    by_cases hlt : k < 4
    · have ca := m.rowA.cell hlt
      have cb := m.rowB.cell hlt
      have cp := m.rowP.cell hlt
      have fp := m.rowP.free hlt
      have bA := HAl.out k
      have bB := HBl.out k
      have M := Lib.hid m
      clear m
      obtain ⟨s, es, bs, hs⟩ : ∃ s : Nat, IntKind.u64.wrap ((A k : Int) + (B k : Int)) = (s : Int) ∧ s < 18446744073709551616 ∧ Hid (s = (A k + B k) % 18446744073709551616) := ⟨(A k + B k) % 18446744073709551616, by rw [← Int.natCast_add]; exact wrap_mod64 _, by omega, Lib.hid rfl⟩
      obtain ⟨t, et, bt, ht⟩ : ∃ t : Nat, IntKind.u64.wrap ((s : Int) + (c : Int)) = (t : Int) ∧ t < 18446744073709551616 ∧ Hid (t = (s + c) % 18446744073709551616) := ⟨(s + c) % 18446744073709551616, by rw [← Int.natCast_add]; exact wrap_mod64 _, by omega, Lib.hid rfl⟩
      by_cases h1 : s < A k
      · have t1 : decide (s < A k) = true := decide_eq_true (by omega)
        have hn : ¬ t < s := by have := hs.out; have := ht.out; omega
        have t2 : decide (t < s) = false := decide_eq_false (by omega)
        have HE := Lib.hid (show t + 18446744073709551616 * 1 = A k + B k + c by have := hs.out; have := ht.out; omega)
        clear h1 hn hs ht
        go_wp2_with fail
        go_quiet (fail)
        go_wp2_with fail
        go_roundw
        case rel => exact ⟨k + 1, 1, upd P k t, by omega, by omega, by go_num, rfl, (M.out.drewN _).set hlt, Lib.hid ⟨fun j => by unfold upd; split; exact bt; exact mo.out.1 j, plus_step mo.out.2 HE.out⟩⟩
        case measure => simp [intOf]; omega
      · have t1 : decide (s < A k) = false := decide_eq_false (by omega)
        by_cases h2 : t < s
        · have t2 : decide (t < s) = true := decide_eq_true (by omega)
          have HE := Lib.hid (show t + 18446744073709551616 * 1 = A k + B k + c by have := hs.out; have := ht.out; omega)
          clear h1 h2 hs ht
          go_wp2_with fail
          go_quiet (fail)
          go_wp2_with fail
          go_roundw
          case rel => exact ⟨k + 1, 1, upd P k t, by omega, by omega, by go_num, rfl, (M.out.drewN _).set hlt, Lib.hid ⟨fun j => by unfold upd; split; exact bt; exact mo.out.1 j, plus_step mo.out.2 HE.out⟩⟩
          case measure => simp [intOf]; omega
        · have t2 : decide (t < s) = false := decide_eq_false (by omega)
          have HE := Lib.hid (show t + 18446744073709551616 * 0 = A k + B k + c by have := hs.out; have := ht.out; omega)
          clear h1 h2 hs ht
          go_wp2_with fail
          go_quiet (fail)
          go_wp2_with fail
          go_roundw
          case rel => exact ⟨k + 1, 0, upd P k t, by omega, by omega, by go_num, rfl, (M.out.drewN _).set hlt, Lib.hid ⟨fun j => by unfold upd; split; exact bt; exact mo.out.1 j, plus_step mo.out.2 HE.out⟩⟩
          case measure => simp [intOf]; omega
    · obtain rfl : k = 4 := by omega
      have c0 := m.rowP.cell (show 0 < 4 by omega); have c1 := m.rowP.cell (show 1 < 4 by omega); have c2 := m.rowP.cell (show 2 < 4 by omega); have c3 := m.rowP.cell (show 3 < 4 by omega)
      have r0 := m.rowR.cell (show 0 < 4 by omega); have r1 := m.rowR.cell (show 1 < 4 by omega); have r2 := m.rowR.cell (show 2 < 4 by omega); have r3 := m.rowR.cell (show 3 < 4 by omega)
      have s0 := m.rowR.free (show 0 < 4 by omega); have s1 := m.rowR.free (show 1 < 4 by omega); have s2 := m.rowR.free (show 2 < 4 by omega); have s3 := m.rowR.free (show 3 < 4 by omega)
      have hz := m.size
      have HB := Lib.hid m.below
      clear m
      go_wp2_with fail
      refine bodyPost_ret (v := .tuple #[.agg #[.int .u64 (P 0 : Nat), .int .u64 (P 1 : Nat), .int .u64 (P 2 : Nat), .int .u64 (P 3 : Nat)], .int .u64 (c : Nat)]) (by simp [results, Try.results69, go_sem, *]) rfl ?_
      refine ⟨P 0, P 1, P 2, P 3, c, rfl, ⟨mo.out.1 0, mo.out.1 1, mo.out.1 2, mo.out.1 3⟩, hc, ?_, below_set4' HB.out (by omega) _ _ _ _⟩
      have h := mo.out.2
      rw [HTA.out, HTB.out, ← val4_tot P, show (18446744073709551616 : Nat) ^ 4 = 115792089237316195423570985008687907853269984665640564039457584007913129639936 by rfl] at h
      omega
set_option maxRecDepth 100000 in
set_option maxHeartbeats 2000000 in
theorem refMinus_calls (a0 a1 a2 a3 b0 b1 b2 b3 : Nat) (ha : ok4 a0 a1 a2 a3) (hb : ok4 b0 b1 b2 b3) (w : World) :
    Calls Try.prog 93 #[.agg #[.int .u64 a0, .int .u64 a1, .int .u64 a2, .int .u64 a3], .agg #[.int .u64 b0, .int .u64 b1, .int .u64 b2, .int .u64 b3]] w (SubPost (val4 a0 a1 a2 a3) (val4 b0 b1 b2 b3) w) := by
  have hAl := fnOf4_lt ha
  have hBl := fnOf4_lt hb
  have HTA := Lib.hid (tot4 [a0, a1, a2, a3] a0 a1 a2 a3 rfl)
  have HTB := Lib.hid (tot4 [b0, b1, b2, b3] b0 b1 b2 b3 rfl)
  have HQ := Lib.hid (QW.start w a0 a1 a2 a3 b0 b1 b2 b3 45)
  generalize fnOf [a0, a1, a2, a3] = A at *
  generalize fnOf [b0, b1, b2, b3] = B at *
  have HAl := Lib.hid hAl; have HBl := Lib.hid hBl
  clear hAl hBl
  go_enter Try.func93, Try.ntmps93
  go_wp2_with fail
  go_loopw [7, 8] (fun cv i wr => ∃ (k c : Nat) (P : Nat → Nat), k ≤ 4 ∧ c ≤ 1 ∧ i = .int .i64 k ∧ cv = .int .u64 c ∧ QW w wr A B P ∧ Hid ((∀ j, P j < 18446744073709551616) ∧ tot 18446744073709551616 P k + tot 18446744073709551616 B k = tot 18446744073709551616 A k + c * 18446744073709551616 ^ k)) (fun _ i _ => 4 - (intOf i).toNat)
  case atStart => exact ⟨0, 0, fun _ => 0, by omega, by omega, rfl, rfl, HQ.out, Lib.hid ⟨fun _ => by show 0 < _; omega, by simp [tot]⟩⟩
  case round =>
    obtain ⟨k, c, P, hk, hc, rfl, rfl, m, mo⟩ := hrel
    by_cases hlt : k < 4
    · have ca := m.rowA.cell hlt
      have cb := m.rowB.cell hlt
      have cp := m.rowP.cell hlt
      have fp := m.rowP.free hlt
      have bA := HAl.out k
      have bB := HBl.out k
      have M := Lib.hid m
      clear m
      obtain ⟨s, es, bs, hs⟩ : ∃ s : Nat, IntKind.u64.wrap ((A k : Int) - (B k : Int)) = (s : Int) ∧ s < 18446744073709551616 ∧ Hid (s = (A k + 18446744073709551616 - B k) % 18446744073709551616) := ⟨(A k + 18446744073709551616 - B k) % 18446744073709551616, by rw [IntKind.wrap_u64]; omega, by omega, Lib.hid rfl⟩
      obtain ⟨t, et, bt, ht⟩ : ∃ t : Nat, IntKind.u64.wrap ((s : Int) - (c : Int)) = (t : Int) ∧ t < 18446744073709551616 ∧ Hid (t = (s + 18446744073709551616 - c) % 18446744073709551616) := ⟨(s + 18446744073709551616 - c) % 18446744073709551616, by rw [IntKind.wrap_u64]; omega, by omega, Lib.hid rfl⟩
      have hs' := hs.out
      have ht' := ht.out
      clear hs ht
      by_cases h1 : A k < B k
      · have t1 : decide (A k < B k) = true := decide_eq_true h1
        have HE := Lib.hid (show t + B k + c = A k + 18446744073709551616 * 1 by omega)
        clear h1 hs' ht'
        go_wp2_with fail
        go_quiet (fail)
        go_wp2_with fail
        go_region
        go_wp2_with fail
        go_roundw
        case rel => exact ⟨k + 1, 1, upd P k t, by omega, by omega, by go_num, rfl, (M.out.drewN _).set hlt, Lib.hid ⟨fun j => by unfold upd; split; exact bt; exact mo.out.1 j, minus_step mo.out.2 HE.out⟩⟩
        case measure => simp [intOf]; omega
      · have t1 : decide (A k < B k) = false := decide_eq_false h1
        by_cases h2 : A k = B k
        · have t2 : ((A k : Int) == (B k : Int)) = true := by simp; omega
          rcases (show c = 0 ∨ c = 1 by omega) with rfl | rfl
          · obtain rfl : s = t := by omega
            clear et
            have HE := Lib.hid (show s + B k + 0 = A k + 18446744073709551616 * 0 by omega)
            clear h1 h2 hs' ht'
            go_wp2_with fail
            go_quiet (fail)
            go_wp2_with fail
            go_region
            go_wp2_with fail
            go_roundw
            case rel => exact ⟨k + 1, 0, upd P k s, by omega, by omega, by go_num, rfl, (M.out.drewN _).set hlt, Lib.hid ⟨fun j => by unfold upd; split; exact bs; exact mo.out.1 j, minus_step mo.out.2 HE.out⟩⟩
            case measure => simp [intOf]; omega
          · have et2 : IntKind.u64.wrap ((s : Int) - 1) = (t : Int) := et
            clear et
            have HE := Lib.hid (show t + B k + 1 = A k + 18446744073709551616 * 1 by omega)
            clear h1 h2 hs' ht'
            go_wp2_with fail
            go_quiet (fail)
            go_wp2_with fail
            go_region
            go_wp2_with fail
            go_roundw
            case rel => exact ⟨k + 1, 1, upd P k t, by omega, by omega, by go_num, rfl, (M.out.drewN _).set hlt, Lib.hid ⟨fun j => by unfold upd; split; exact bt; exact mo.out.1 j, minus_step mo.out.2 HE.out⟩⟩
            case measure => simp [intOf]; omega
        · have t2 : ((A k : Int) == (B k : Int)) = false := by simp; omega
          have HE := Lib.hid (show t + B k + c = A k + 18446744073709551616 * 0 by omega)
          clear h1 h2 hs' ht'
          go_wp2_with fail
          go_quiet (fail)
          go_wp2_with fail
          go_region
          go_wp2_with fail
          go_roundw
          case rel => exact ⟨k + 1, 0, upd P k t, by omega, by omega, by go_num, rfl, (M.out.drewN _).set hlt, Lib.hid ⟨fun j => by unfold upd; split; exact bt; exact mo.out.1 j, minus_step mo.out.2 HE.out⟩⟩
          case measure => simp [intOf]; omega
    · obtain rfl : k = 4 := by omega
      have c0 := m.rowP.cell (show 0 < 4 by omega); have c1 := m.rowP.cell (show 1 < 4 by omega); have c2 := m.rowP.cell (show 2 < 4 by omega); have c3 := m.rowP.cell (show 3 < 4 by omega)
      have r0 := m.rowR.cell (show 0 < 4 by omega); have r1 := m.rowR.cell (show 1 < 4 by omega); have r2 := m.rowR.cell (show 2 < 4 by omega); have r3 := m.rowR.cell (show 3 < 4 by omega)
      have s0 := m.rowR.free (show 0 < 4 by omega); have s1 := m.rowR.free (show 1 < 4 by omega); have s2 := m.rowR.free (show 2 < 4 by omega); have s3 := m.rowR.free (show 3 < 4 by omega)
      have hz := m.size
      have HB := Lib.hid m.below
      clear m
      go_wp2_with fail
      refine bodyPost_ret (v := .tuple #[.agg #[.int .u64 (P 0 : Nat), .int .u64 (P 1 : Nat), .int .u64 (P 2 : Nat), .int .u64 (P 3 : Nat)], .int .u64 (c : Nat)]) (by simp [results, Try.results93, go_sem, *]) rfl ?_
      refine ⟨P 0, P 1, P 2, P 3, c, rfl, ⟨mo.out.1 0, mo.out.1 1, mo.out.1 2, mo.out.1 3⟩, hc, ?_, below_set4' HB.out (by omega) _ _ _ _⟩
      have h := mo.out.2
      rw [HTA.out, HTB.out, ← val4_tot P, show (18446744073709551616 : Nat) ^ 4 = 115792089237316195423570985008687907853269984665640564039457584007913129639936 by rfl] at h
      omega
end Go.Proofs.Ytebaoemoeckgaaa
