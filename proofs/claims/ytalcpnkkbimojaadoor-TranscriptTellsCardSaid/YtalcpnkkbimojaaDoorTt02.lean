/-
  The reckoner: a region, its operations in whatever order they may come. Of whatever program. Conditions: the table of calls is right.
  The reckoner: regions, code, functions. Of whatever program. Conditions: the table of calls is right.
  The reckoner: code and whole functions; tables of calls. Of whatever program. Conditions: the table of calls is right.
  The reckoner: loops of unknown length, a round at a time; code taken apart. Of whatever program. Conditions: the table of calls is right.
  Flat values of words held against each other, of whatever type of arrays and structs of words. Of whatever program. Conditions: none.
  The reckoner: what lies in memory from before; answers that are slices of a call's own. Of whatever program. Conditions: the tables of calls are right.
  The reckoner: steps that are so, one after another; loops by rounds; tables that hold from a world on. Of whatever program. Conditions: none.
  The reckoner: a region by parts; lists of blocks; made slices of zeros. Of whatever program. Conditions: none.
  The reckoner: what is written to an old block; a function's end with more told; loops by invariants. Of whatever program. Conditions: none.
-/
import Derived.KernelRfl
import Derived.Laws.StructEq
import Derived.Laws.MakeOwn
import Derived.Test.YtalcpnkkbimojaaDoorTt01
namespace Go.Proofs.YtalcpnkkbimojaaDoor.Ex
set_option linter.unusedVariables false
set_option linter.unusedSimpArgs false
open Go.RowKit

/-- does the operation turn the fact? -/
def clob (dst kill : Option Nat) : Fact → Bool
  | .slot s v => optIs dst s || (match v.key with | some k => optIs dst k | none => false)
  | .row k _ _ => optIs dst k || optIs kill k
  | .at k _ => optIs dst k
  | .app k _ _ _ => optIs dst k
structure Rec where
  M : List (Option Nat × Fact)
  dst : Option Nat
  kill : Option Nat
/-- operation i waits for operation j -/
def dep (draw : Bool) (ops : Array Oper) (i j : Nat) : Bool :=
  bif draw then (match ops[i]? with | some o => o.after.toList.any (fun e => Region.binds .any e && Nat.beq e.on j) | none => false) else Nat.blt j i
def alive (φ : Fact) : List Rec → Nat → Option Nat → Bool
  | [], _, _ => true
  | r :: rs, j, b => (bif (match b with | none => true | some b' => Nat.blt b' j) then !(clob r.dst r.kill φ) else true) && alive φ rs (j + 1) b
def usable (draw : Bool) (ops : Array Oper) (i : Nat) (rs : List Rec) (x : Option Nat × Fact) : Bool :=
  (match x.1 with | none => true | some b => dep draw ops i b) && alive x.2 rs 0 x.1
def tmps : List Operand → List Nat
  | [] => []
  | .tmp s :: r => s :: tmps r
  | _ :: r => tmps r
def slotsOf (ops : Array Oper) (o : Oper) : List Nat :=
  match o.guard with
  | some (g, _) => (match (ops[g]?).bind (·.dst) with | some s => s :: tmps o.op.operands.toList | none => tmps o.op.operands.toList)
  | none => tmps o.op.operands.toList
def reads : Op → Bool
  | .load _ _ => true
  | .store _ _ _ => true
  | .call _ => true
  | _ => false
def keysOf (l : List Nat) : List (Option Nat × Fact) → List Nat
  | [] => []
  | (_, .slot s v) :: r => bif l.any (Nat.beq s) then (match v.key with | some k => k :: keysOf l r | none => keysOf l r) else keysOf l r
  | _ :: r => keysOf l r
def relv (l ks : List Nat) (x : Option Nat × Fact) : Bool :=
  match x.2 with
  | .slot s _ => l.any (Nat.beq s)
  | .row k _ _ => ks.any (Nat.beq k)
  | .at _ _ => true
  | .app k _ _ _ => ks.any (Nat.beq k)
/-- a call of a function value: the block with key 0 may be its own to write -/
def isClo : Op → Bool
  | .call c => (match c.callee with | .value (.tmp _) => true | _ => false)
  | _ => false
/-- the facts that an operation is held against -/
def sel (ops : Array Oper) (o : Oper) (M : List (Option Nat × Fact)) : List (Option Nat × Fact) :=
  match slotsOf ops o with
  | l => match (bif reads o.op then (bif isClo o.op then 0 :: keysOf l M else keysOf l M) else []) with
    | ks => M.filter (relv l ks)
theorem sel_mem {ops : Array Oper} {o : Oper} {M : List (Option Nat × Fact)} {x : Option Nat × Fact} (h : x ∈ sel ops o M) : x ∈ M := (List.mem_filter.1 h).1
def runR (E : Env) (draw : Bool) (ops : Array Oper) : List Oper → Nat → List (Option Nat × Fact) → List Rec → List Prop → Option (List Prop × List (Option Nat × Fact) × List Rec)
  | [], _, TF, rs, ps => some (ps, TF, rs)
  | o :: rest, i, TF, rs, ps =>
    match sel ops o (TF.filter (usable draw ops i rs)) with
    | M => match opA E ops (M.map (·.2)) o with
      | some (pre, out, kill) => runR E draw ops rest (i + 1) (out.map (fun φ => (some i, φ)) ++ TF) (rs ++ [⟨M, o.dst, kill⟩]) (ps ++ pre)
      | none => none
def allIdx {α : Type} (p : Nat → α → Bool) : Nat → List α → Bool
  | _, [] => true
  | k, x :: r => p k x && allIdx p (k + 1) r
theorem allIdx_spec {α : Type} {p : Nat → α → Bool} : ∀ {l : List α} {k : Nat}, allIdx p k l = true → ∀ i x, l[i]? = some x → p (k + i) x = true
  | [], k, _, i, x, hx => by simp at hx
  | y :: r, k, h, i, x, hx => by
    unfold allIdx at h
    rw [Bool.and_eq_true] at h
    cases i with
    | zero => cases hx; exact h.1
    | succ i =>
      have := allIdx_spec h.2 i x (by simpa using hx)
      rwa [show k + 1 + i = k + (i + 1) by omega] at this
/-- may fact x hold when operation j is done? -/
def bears (draw : Bool) (ops : Array Oper) (x : Option Nat × Fact) (j : Nat) (r : Rec) : Bool :=
  optIs x.1 j || (!(clob r.dst r.kill x.2) || (match x.1 with | some b => dep draw ops b j | none => false))
def chk (draw : Bool) (ops : Array Oper) (rs : List Rec) : Bool :=
  allIdx (fun i r => r.M.all fun x => allIdx (fun j r' => Nat.beq j i || (dep draw ops j i || bears draw ops x j r')) 0 rs) 0 rs
def low (draw : Bool) (ops : Array Oper) : Bool :=
  bif draw then allIdx (fun i (o : Oper) => o.after.toList.all fun e => !(Region.binds .any e) || Nat.blt e.on i) 0 ops.toList else true
def lasts (draw : Bool) (ops : Array Oper) (rs : List Rec) (x : Option Nat × Fact) : Bool := allIdx (fun j r => bears draw ops x j r) 0 rs
def regA (E : Env) (draw : Bool) (ops : Array Oper) (A : List Fact) : Option (List Prop × List Fact) :=
  match runR E draw ops ops.toList 0 (A.map fun φ => (none, φ)) [] [] with
  | some (ps, TF, rs) => bif chk draw ops rs && low draw ops then some (ps, (TF.filter (lasts draw ops rs)).map (·.2)) else none
  | none => none

section
variable {E : Env} {draw : Bool} {ops : Array Oper}
theorem runR_spec : ∀ {rem : List Oper} {i : Nat} {TF TF' : List (Option Nat × Fact)} {rs rs' : List Rec} {ps ps' : List Prop}, runR E draw ops rem i TF rs ps = some (ps', TF', rs') → rs.length = i →
    (∀ x ∈ TF, x ∈ TF') ∧ (∀ x ∈ TF', x ∈ TF ∨ ∃ b, x.1 = some b ∧ i ≤ b ∧ b < i + rem.length) ∧ (allP ps' → allP ps) ∧ (∀ j, j < i → rs'[j]? = rs[j]?) ∧ rs'.length = i + rem.length ∧
    ∀ j o, rem[j]? = some o → ∃ r pre out, rs'[i + j]? = some r ∧ r.dst = o.dst ∧ opA E ops (r.M.map (·.2)) o = some (pre, out, r.kill) ∧ (allP ps' → allP pre) ∧
      (∀ x ∈ r.M, x ∈ TF' ∧ ∀ b, x.1 = some b → dep draw ops (i + j) b = true) ∧ ∀ φ, (some (i + j), φ) ∈ TF' → (some (i + j), φ) ∈ TF ∨ φ ∈ out
  | [], i, TF, TF', rs, rs', ps, ps', h, hl => by
    cases h
    exact ⟨fun _ h => h, fun _ h => Or.inl h, fun h => h, fun _ _ => rfl, by simp [hl], fun j o ho => by simp at ho⟩
  | o :: rest, i, TF, TF', rs, rs', ps, ps', h, hl => by
    unfold runR at h
    simp only at h
    split at h
    · rename_i pre out kill ho
      obtain ⟨h1, h2, h3, h4, h5, h6⟩ := runR_spec h (by simp [hl])
      have hps : allP ps' → allP ps ∧ allP pre := fun h => allP_append.1 (h3 h)
      refine ⟨fun x hx => h1 x (List.mem_append_right _ hx), fun x hx => ?_, fun h => (hps h).1, fun j hj => ?_, by rw [h5]; simp; omega, ?_⟩
      · rcases h2 x hx with hx | ⟨b, hb, hi, hlt⟩
        · rcases List.mem_append.1 hx with hx | hx
          · obtain ⟨φ, _, rfl⟩ := List.mem_map.1 hx
            exact Or.inr ⟨i, rfl, Nat.le_refl _, by simp⟩
          · exact Or.inl hx
        · exact Or.inr ⟨b, hb, by omega, by simp; omega⟩
      · rw [h4 j (by omega), List.getElem?_append_left (by omega)]
      · intro j o' hj
        cases j with
        | zero =>
          cases hj
          refine ⟨_, pre, out, by rw [Nat.add_zero, h4 i (by omega), List.getElem?_append_right (by omega), hl, Nat.sub_self]; rfl, rfl, ho, fun h => (hps h).2, fun x hx => ?_, fun φ hφ => ?_⟩
          · obtain ⟨hx1, hx2⟩ := List.mem_filter.1 (sel_mem hx)
            refine ⟨h1 x (List.mem_append_right _ hx1), fun b hb => ?_⟩
            unfold usable at hx2
            rw [hb] at hx2
            simp only [Bool.and_eq_true] at hx2
            exact hx2.1
          · rcases h2 _ hφ with hx | ⟨b, hb, hi, hlt⟩
            · rcases List.mem_append.1 hx with hx | hx
              · obtain ⟨ψ, hψ, e⟩ := List.mem_map.1 hx
                cases e
                exact Or.inr hψ
              · exact Or.inl hx
            · simp only [Nat.add_zero, Option.some.injEq] at hb
              omega
        | succ j =>
          obtain ⟨r, pre', out', e1, e2, e3, e4, e5, e6⟩ := h6 j o' (by simpa using hj)
          rw [show i + 1 + j = i + (j + 1) by omega] at e1 e5 e6
          refine ⟨r, pre', out', e1, e2, e3, e4, e5, fun φ hφ => ?_⟩
          rcases e6 φ hφ with hx | hx
          · rcases List.mem_append.1 hx with hx | hx
            · obtain ⟨ψ, hψ, e⟩ := List.mem_map.1 hx
              simp only [Prod.mk.injEq, Option.some.injEq] at e
              omega
            · exact Or.inl hx
          · exact Or.inr hx
    · cases h
/-- is the fact there, these operations done? -/
def valid (draw : Bool) (ops : Array Oper) (rs : List Rec) (G : Nat → Prop) (x : Option Nat × Fact) : Prop :=
  (∀ b, x.1 = some b → G b) ∧ ∀ j r, rs[j]? = some r → G j → x.1 ≠ some j → clob r.dst r.kill x.2 = true → ∃ b, x.1 = some b ∧ dep draw ops b j = true
/-- what was there at the beginning, but for the block 'base', is as it was; the key nt has the heap's size then -/
structure Tail (nt base : Nat) (w0 : World) (β : Nat → Bk) (w : World) : Prop where
  size : (β nt).1 ≤ w.heap.size
  mem : ∀ p : Addr, base < p.block → p.block < (β nt).1 → w.cell? p = w0.cell? p ∧ w.frozen? p = w0.frozen? p
  shape : Shape w0 w
structure Inv (E : Env) (draw : Bool) (ops : Array Oper) (base : Nat) (w0 : World) (TF : List (Option Nat × Fact)) (rs : List Rec) (G : Nat → Prop) (a : Act) (w : World) : Prop where
  defers : a.defers = []
  size : a.tmps.size = E.nt
  below : Below base w0 w
  heap : base ≤ w.heap.size
  closed : ∀ i j, G i → dep draw ops i j = true → G j
  facts : ∃ β : Nat → Bk, (∀ x ∈ TF, valid draw ops rs G x → x.2.ok base β a w) ∧
    (∀ x ∈ TF, ∀ y ∈ TF, valid draw ops rs G x → valid draw ops rs G y → ∀ k k' o' l l', x.2 = .row k true l → y.2 = .row k' o' l' → k ≠ k' → (β k).1 ≠ (β k').1) ∧
    (∀ x ∈ TF, valid draw ops rs G x → ∀ k l, x.2 = .row k true l → (β k).1 = base ∨ (β E.nt).1 ≤ (β k).1) ∧ Tail E.nt base w0 β w
theorem keep {base : Nat} {β β' : Nat → Bk} {a a' : Act} {w w' : World} {dst kill : Option Nat} {M out : List Fact} (hP : PostB base β β' a w dst M out kill a' w') {φ : Fact} (h : φ.ok base β a w) (hc : clob dst kill φ = false)
    (hk : ∀ kk k own l, kill = some kk → φ = .row k own l → (β kk).1 ≠ (β k).1) : φ.ok base β' a' w' := by
  cases φ with
  | slot s v =>
    simp only [clob, Bool.or_eq_false_iff] at hc
    have h1 : dst ≠ some s := fun e => by have := optIs_iff.2 e; rw [hc.1] at this; cases this
    have h2 : ∀ k, v.key = some k → β' k = β k := fun k hv => hP.beta k fun e => by
      have h3 := hc.2
      rw [hv] at h3
      have := optIs_iff.2 e
      simp only at h3
      rw [h3] at this; cases this
    show a'.tmps[s]? = _
    rw [hP.tmps s h1, AV.den_eq v h2]
    exact h
  | row k own l =>
    simp only [clob, Bool.or_eq_false_iff] at hc
    have h1 : dst ≠ some k := fun e => by have := optIs_iff.2 e; rw [hc.1] at this; cases this
    obtain ⟨g1, g2, g3, g4⟩ := h
    have hm : ∀ j, w'.cell? ⟨(β k).1, j, none⟩ = w.cell? ⟨(β k).1, j, none⟩ ∧ w'.frozen? ⟨(β k).1, j, none⟩ = w.frozen? ⟨(β k).1, j, none⟩ := fun j => hP.mem ⟨(β k).1, j, none⟩ g1 fun kk hkk e => hk kk k own l hkk rfl e.symm
    refine ⟨?_, ?_, ?_, g4⟩ <;> rw [hP.beta k h1]
    · exact Nat.lt_of_lt_of_le g1 hP.heap
    · intro j v hj
      rw [(hm _).1]
      exact g2 j v hj
    · exact fun ho => ⟨(g3 ho).1, (g3 ho).2.1, fun j => by rw [(hm _).2]; exact (g3 ho).2.2 j⟩
  | «at» k b =>
    have h1 : dst ≠ some k := fun e => by have := optIs_iff.2 e; rw [show optIs dst k = false from hc] at this; cases this
    show (β' k).1 = b ∧ (β' k).2.1 = 0
    rw [hP.beta k h1]
    exact h
  | app k e sz n =>
    have h1 : dst ≠ some k := fun e => by have := optIs_iff.2 e; rw [show optIs dst k = false from hc] at this; cases this
    show AppAt w' (β' k).1 e sz n (β' k).2.2
    rw [hP.beta k h1]
    exact AppAt.shape hP.shape h
theorem step_inv {base : Nat} {w0 : World} {A : List Fact} {TF : List (Option Nat × Fact)} {rs : List Rec} {ps : List Prop} (hT : ∀ d, TabOkW E.P (E.T d) base w0) (hq : EqOkW E.P E.q base w0)
    (hrun : runR E draw ops ops.toList 0 (A.map fun φ => (none, φ)) [] [] = some (ps, TF, rs)) (hps : allP ps) (hchk : chk draw ops rs = true) {Q : Exit → Act → World → Prop}
    {G : Nat → Prop} {a : Act} {w : World} (hI : Inv E draw ops base w0 TF rs G a w) {i : Nat} {o : Oper} (ho : ops[i]? = some o) (hi : ¬ G i) (hdeps : ∀ j, dep draw ops i j = true → G j) :
    if Region.wanted o (yielded ops a.tmps) = true then o.wp E.P a w (Inv E draw ops base w0 TF rs (fun j => j = i ∨ G j)) Q else Inv E draw ops base w0 TF rs (fun j => j = i ∨ G j) (a.put o.dst undef) w := by
  obtain ⟨_, _, _, _, _, hops⟩ := runR_spec hrun rfl
  obtain ⟨r, pre, out, hr, hdst, hop, hpre, hM, hborn⟩ := hops i o (by simpa using ho)
  rw [Nat.zero_add] at hr hM hborn
  obtain ⟨β, hok, hinj, hown, htl⟩ := hI.facts
  have hMv : ∀ x ∈ r.M, valid draw ops rs G x := fun x hx => by
    refine ⟨fun b hb => hdeps b ((hM x hx).2 b hb), fun j r' hj hG hne hcl => ?_⟩
    have h1 := allIdx_spec hchk i r hr
    rw [List.all_eq_true] at h1
    have h2 := allIdx_spec (h1 x hx) j r' hj
    rw [Nat.zero_add, Nat.zero_add] at h2
    rw [Bool.or_eq_true, Bool.or_eq_true] at h2
    rcases h2 with h2 | h2 | h2
    · exact absurd (Nat.eq_of_beq_eq_true h2 ▸ hG) hi
    · exact absurd (hI.closed j i hG h2) hi
    · unfold bears at h2
      rw [Bool.or_eq_true, Bool.or_eq_true, hcl] at h2
      rcases h2 with h2 | h2 | h2
      · exact absurd (optIs_iff.1 h2) hne
      · cases h2
      · split at h2
        · rename_i b hb; exact ⟨b, hb, h2⟩
        · cases h2
  refine op_sound (ops := ops) (fun d => hT d w hI.below) (hq.2 w hI.below) hq.1 (M := r.M.map (·.2)) (out := out) (kill := r.kill) (β := β) (base := base) (fun φ hφ => ?_) hI.heap hI.size (fun β' a' w' hP => ?_) hop (hpre hps)
  · obtain ⟨x, hx, rfl⟩ := List.mem_map.1 hφ
    exact hok x (hM x hx).1 (hMv x hx)
  have hnt : β' E.nt = β E.nt := hP.beta E.nt fun e => Nat.lt_irrefl _ (opA_lt hop e)
  -- what was valid and is not born now is kept
  have hrowM : ∀ k l0, Fact.row k true l0 ∈ r.M.map (·.2) → ∃ x ∈ TF, valid draw ops rs G x ∧ x.2 = .row k true l0 := fun k l0 h => by
    obtain ⟨x, hx, e⟩ := List.mem_map.1 h
    exact ⟨x, (hM x hx).1, hMv x hx, e⟩
  have hkill : ∀ x ∈ TF, valid draw ops rs G x → clob o.dst r.kill x.2 = false → ∀ kk k own l, r.kill = some kk → x.2 = .row k own l → (β kk).1 ≠ (β k).1 := fun x hx hv hc kk k own l hkk hφ => by
    obtain ⟨l0, hl0⟩ := hP.kills kk hkk
    obtain ⟨y, hy, hyv, hye⟩ := hrowM kk l0 hl0
    have hne : kk ≠ k := fun e => by
      rw [hφ] at hc
      simp only [clob, Bool.or_eq_false_iff] at hc
      have := optIs_iff.2 (e ▸ hkk : r.kill = some k)
      rw [hc.2] at this; cases this
    exact hinj y hy x hx hyv hv kk k own l0 l hye hφ hne
  have hold : ∀ x ∈ TF, valid draw ops rs (fun j => j = i ∨ G j) x → x.1 ≠ some i → valid draw ops rs G x ∧ clob o.dst r.kill x.2 = false := fun x hx hv hne => by
    refine ⟨⟨fun b hb => (hv.1 b hb).resolve_left fun e => hne (by rw [hb, e]), fun j r' hj hG => hv.2 j r' hj (Or.inr hG)⟩, ?_⟩
    cases hc : clob o.dst r.kill x.2 with
    | false => rfl
    | true =>
      obtain ⟨b, hb, hd⟩ := hv.2 i r hr (Or.inl rfl) hne (by rw [hdst]; exact hc)
      exact absurd (hI.closed b i ((hv.1 b hb).resolve_left fun e => hne (by rw [hb, e])) hd) hi
  have hnew : ∀ x ∈ TF, x.1 = some i → x.2 ∈ out := fun x hx e => by
    obtain ⟨b, φ⟩ := x
    simp only at e
    subst e
    rcases hborn φ hx with h | h
    · obtain ⟨ψ, _, e⟩ := List.mem_map.1 h
      cases e
    · exact h
  have hβ : ∀ x ∈ TF, valid draw ops rs (fun j => j = i ∨ G j) x → x.1 ≠ some i → ∀ k own l, x.2 = .row k own l → β' k = β k := fun x hx hv hne k own l hφ => by
    obtain ⟨_, hc⟩ := hold x hx hv hne
    rw [hφ] at hc
    simp only [clob, Bool.or_eq_false_iff] at hc
    exact hP.beta k fun e => by have := optIs_iff.2 e; rw [hc.1] at this; cases this
  -- a new row against an old one
  have hno : ∀ x ∈ TF, ∀ y ∈ TF, x.1 = some i → valid draw ops rs (fun j => j = i ∨ G j) y → y.1 ≠ some i → ∀ k k' o' l l', x.2 = .row k true l → y.2 = .row k' o' l' → k ≠ k' → (β' k).1 ≠ (β' k').1 := fun x hx y hy hxi hyv hyi k k' o' l l' hxe hye hkk => by
    obtain ⟨hyo, _⟩ := hold y hy hyv hyi
    rw [hβ y hy hyv hyi k' o' l' hye]
    have h1 := hnew x hx hxi
    rw [hxe] at h1
    rcases hP.rows k l h1 with ⟨h2, _⟩ | ⟨h2, l0, h3⟩ | ⟨h2, k0, l0, hk0, he, h3⟩
    · have h4 := hok y hy hyo
      rw [hye] at h4
      have := h4.1
      omega
    · obtain ⟨z, hz, hzv, hze⟩ := hrowM k l0 h3
      rw [hP.beta k h2]
      exact hinj z hz y hy hzv hyo k k' o' l0 l' hze hye hkk
    · obtain ⟨z, hz, hzv, hze⟩ := hrowM k0 l0 h3
      rw [he]
      refine hinj z hz y hy hzv hyo k0 k' o' l0 l' hze hye fun e => ?_
      subst e
      have hc := (hold y hy hyv hyi).2
      rw [hye] at hc
      simp only [clob, Bool.or_eq_false_iff] at hc
      have := optIs_iff.2 hk0
      rw [hc.2] at this; cases this
  refine ⟨by rw [hP.defers]; exact hI.defers, by rw [hP.size]; exact hI.size, hP.below w0 hI.below, Nat.le_trans hI.heap hP.heap, ?_, β', ?_, ?_, ?_, ?_⟩
  · intro p q hp hpq
    rcases hp with rfl | hp
    · exact Or.inr (hdeps q hpq)
    · exact Or.inr (hI.closed p q hp hpq)
  · intro x hx hv
    by_cases e : x.1 = some i
    · exact hP.ok _ (hnew x hx e)
    · obtain ⟨h1, h2⟩ := hold x hx hv e
      exact keep hP (hok x hx h1) h2 (hkill x hx h1 h2)
  · intro x hx y hy hxv hyv k k' o' l l' hxe hye hkk
    by_cases e1 : x.1 = some i
    · by_cases e2 : y.1 = some i
      · have h1 := hnew x hx e1
        have h2 := hnew y hy e2
        rw [hxe] at h1
        rw [hye] at h2
        cases o' with
        | true => exact absurd (hP.one k k' l l' h1 h2) hkk
        | false => exact (hP.onlyOwn k' l' h2).elim
      · exact hno x hx y hy e1 hyv e2 k k' o' l l' hxe hye hkk
    · by_cases e2 : y.1 = some i
      · cases o' with
        | true => exact fun e => hno y hy x hx e2 hxv e1 k' k true l' l hye hxe (Ne.symm hkk) e.symm
        | false => exact (hP.onlyOwn k' l' (hye ▸ hnew y hy e2)).elim
      · rw [hβ x hx hxv e1 k true l hxe, hβ y hy hyv e2 k' o' l' hye]
        exact hinj x hx y hy (hold x hx hxv e1).1 (hold y hy hyv e2).1 k k' o' l l' hxe hye hkk
  · intro x hx hv k l hxe
    rw [hnt]
    by_cases e : x.1 = some i
    · have h1 := hnew x hx e
      rw [hxe] at h1
      rcases hP.rows k l h1 with ⟨h2, _⟩ | ⟨h2, l0, h3⟩ | ⟨h2, k0, l0, hk0, he, h3⟩
      · exact Or.inr (Nat.le_trans htl.size h2)
      · obtain ⟨z, hz, hzv, hze⟩ := hrowM k l0 h3
        rw [hP.beta k h2]
        exact hown z hz hzv k l0 hze
      · obtain ⟨z, hz, hzv, hze⟩ := hrowM k0 l0 h3
        rw [he]
        exact hown z hz hzv k0 l0 hze
    · rw [hβ x hx hv e k true l hxe]
      exact hown x hx (hold x hx hv e).1 k l hxe
  · refine ⟨by rw [hnt]; exact Nat.le_trans htl.size hP.heap, fun p h1 h2 => ?_, htl.shape.trans hP.shape⟩
    rw [hnt] at h2
    have h3 := hP.mem p (Nat.lt_of_lt_of_le h2 htl.size) fun kk hkk e => by
      obtain ⟨l0, hl0⟩ := hP.kills kk hkk
      obtain ⟨z, hz, hzv, hze⟩ := hrowM kk l0 hl0
      rcases hown z hz hzv kk l0 hze with h4 | h4 <;> omega
    have h4 := htl.mem p h1 h2
    exact ⟨h3.1.trans h4.1, h3.2.trans h4.2⟩
end
end Go.Proofs.YtalcpnkkbimojaaDoor.Ex
namespace Go.Proofs.YtalcpnkkbimojaaDoor.Ex
set_option linter.unusedVariables false
set_option linter.unusedSimpArgs false
open Go.RowKit

/-- the facts hold; nothing below base has turned since w0 -/
structure Holds (nt base : Nat) (w0 : World) (A : List Fact) (a : Act) (w : World) : Prop where
  defers : a.defers = []
  size : a.tmps.size = nt
  below : Below base w0 w
  heap : base ≤ w.heap.size
  facts : ∃ β : Nat → Bk, (∀ φ ∈ A, φ.ok base β a w) ∧ (∀ k k' o' l l', Fact.row k true l ∈ A → Fact.row k' o' l' ∈ A → k ≠ k' → (β k).1 ≠ (β k').1) ∧ (∀ k l, Fact.row k true l ∈ A → (β k).1 = base ∨ (β nt).1 ≤ (β k).1) ∧ Tail nt base w0 β w
theorem Holds.drew {nt base : Nat} {w0 : World} {A : List Fact} {a : Act} {w : World} (h : Holds nt base w0 A a w) : Holds nt base w0 A a w.drew :=
  h.facts.elim fun β hβ => ⟨h.defers, h.size, h.below.drew, h.heap, β, hβ.1, hβ.2.1, hβ.2.2.1, hβ.2.2.2.size, hβ.2.2.2.mem, hβ.2.2.2.shape.trans (Shape.drew _)⟩
section
variable {E : Env} {draw : Bool} {ops : Array Oper} {base : Nat} {w0 : World} {A A' : List Fact} {TF : List (Option Nat × Fact)} {rs : List Rec} {ps : List Prop} {a : Act} {w : World} {Q : Exit → Act → World → Prop}
theorem start_inv (hrun : runR E draw ops ops.toList 0 (A.map fun φ => (none, φ)) [] [] = some (ps, TF, rs)) (h : Holds E.nt base w0 A a w) : Inv E draw ops base w0 TF rs (fun _ => False) a w := by
  obtain ⟨_, h2, _⟩ := runR_spec hrun rfl
  obtain ⟨β, hok, hinj, hown, htl⟩ := h.facts
  have hA : ∀ x ∈ TF, valid draw ops rs (fun _ => False) x → x.2 ∈ A := fun x hx hv => by
    rcases h2 x hx with hx | ⟨b, hb, _⟩
    · obtain ⟨φ, hφ, rfl⟩ := List.mem_map.1 hx
      exact hφ
    · exact (hv.1 b hb).elim
  exact ⟨h.defers, h.size, h.below, h.heap, fun _ _ h => h.elim, β, fun x hx hv => hok _ (hA x hx hv), fun x hx y hy hxv hyv k k' o' l l' hxe hye hkk => hinj k k' o' l l' (hxe ▸ hA x hx hxv) (hye ▸ hA y hy hyv) hkk, fun x hx hv k l hxe => hown k l (hxe ▸ hA x hx hv), htl⟩
theorem end_inv (hrun : runR E draw ops ops.toList 0 (A.map fun φ => (none, φ)) [] [] = some (ps, TF, rs)) {G : Nat → Prop} (hG : ∀ i, i < ops.size → G i) (h : Inv E draw ops base w0 TF rs G a w) :
    Holds E.nt base w0 ((TF.filter (lasts draw ops rs)).map (·.2)) a w := by
  obtain ⟨_, h2, _⟩ := runR_spec hrun rfl
  obtain ⟨β, hok, hinj, hown, htl⟩ := h.facts
  have hv : ∀ φ ∈ (TF.filter (lasts draw ops rs)).map (·.2), ∃ x ∈ TF, valid draw ops rs G x ∧ x.2 = φ := fun φ hφ => by
    obtain ⟨x, hx, rfl⟩ := List.mem_map.1 hφ
    obtain ⟨h3, h4⟩ := List.mem_filter.1 hx
    refine ⟨x, h3, ⟨fun b hb => ?_, fun j r hj _ hne hc => ?_⟩, rfl⟩
    · rcases h2 x h3 with h5 | ⟨b', hb', _, hlt⟩
      · obtain ⟨ψ, _, rfl⟩ := List.mem_map.1 h5
        cases hb
      · rw [hb'] at hb
        cases hb
        exact hG b (by simpa using hlt)
    · have h5 := allIdx_spec h4 j r hj
      rw [Nat.zero_add] at h5
      unfold bears at h5
      rw [Bool.or_eq_true, Bool.or_eq_true, hc] at h5
      rcases h5 with h5 | h5 | h5
      · exact absurd (optIs_iff.1 h5) hne
      · cases h5
      · split at h5
        · rename_i b hb; exact ⟨b, hb, h5⟩
        · cases h5
  refine ⟨h.defers, h.size, h.below, h.heap, β, fun φ hφ => ?_, fun k k' o' l l' hk hk' hne => ?_, fun k l hk => ?_, htl⟩
  · obtain ⟨x, h1, h2, rfl⟩ := hv φ hφ
    exact hok x h1 h2
  · obtain ⟨x, h1, h2, e1⟩ := hv _ hk
    obtain ⟨y, h3, h4, e2⟩ := hv _ hk'
    exact hinj x h1 y h3 h2 h4 k k' o' l l' e1 e2 hne
  · obtain ⟨x, h1, h2, e1⟩ := hv _ hk
    exact hown x h1 h2 k l e1
def fr : Nat → Array Bool → Nat
  | 0, _ => 0
  | n + 1, g => fr n g + (bif g.getD n false then 0 else 1)
theorem fr_zero : ∀ {n : Nat} {g : Array Bool}, fr n g = 0 → ∀ i, i < n → g.getD i false = true
  | 0, g, _, i, hi => by omega
  | n + 1, g, h, i, hi => by
    unfold fr at h
    by_cases e : i = n
    · subst e
      cases hb : g.getD i false
      · rw [hb] at h; simp at h
      · rfl
    · exact fr_zero (n := n) (by omega) i (by omega)
theorem getD_set {g : Array Bool} {i j : Nat} (hi : i < g.size) : (g.setIfInBounds i true).getD j false = true ↔ j = i ∨ g.getD j false = true := by
  by_cases e : j = i
  · subst e; simp [Array.getD, hi]
  · have : ¬ i = j := fun h => e h.symm
    simp [Array.getD_eq_getD_getElem?, Array.getElem?_setIfInBounds_ne this, e]
theorem fr_old : ∀ {n : Nat} {g : Array Bool} {i : Nat}, n ≤ i → fr n (g.setIfInBounds i true) = fr n g
  | 0, _, _, _ => rfl
  | n + 1, g, i, h => by
    have : ¬ i = n := by omega
    unfold fr
    rw [fr_old (by omega)]
    simp [Array.getD_eq_getD_getElem?, Array.getElem?_setIfInBounds_ne this]
theorem fr_set : ∀ {n : Nat} {g : Array Bool} {i : Nat}, i < n → i < g.size → g.getD i false = false → fr n (g.setIfInBounds i true) + 1 = fr n g
  | 0, _, _, h, _, _ => by omega
  | n + 1, g, i, h, hs, hg => by
    unfold fr
    by_cases e : i = n
    · subst e
      rw [fr_old (Nat.le_refl _), (getD_set hs).2 (Or.inl rfl), hg]
      simp
    · have h1 := fr_set (n := n) (g := g) (by omega) hs hg
      have h2 : (g.setIfInBounds i true).getD n false = g.getD n false := by
        have : ¬ i = n := e
        simp [Array.getD_eq_getD_getElem?, Array.getElem?_setIfInBounds_ne this]
      rw [h2]; omega
theorem dep_true {i j : Nat} : dep true ops i j = true ↔ ∃ o, ops[i]? = some o ∧ ∃ e ∈ o.after, Region.binds .any e = true ∧ e.on = j := by
  unfold dep
  simp only [cond_true]
  cases ho : ops[i]? with
  | none => simp
  | some o =>
    simp only [List.any_eq_true]
    constructor
    · rintro ⟨e, he, h⟩
      rw [Bool.and_eq_true] at h
      exact ⟨o, rfl, e, by simpa using he, h.1, Nat.eq_of_beq_eq_true h.2⟩
    · rintro ⟨o', e1, e, he, hb, rfl⟩
      cases e1
      exact ⟨e, by simpa using he, by rw [hb]; simp⟩
theorem any_inv (hT : ∀ d, TabOkW E.P (E.T d) base w0) (hq : EqOkW E.P E.q base w0) (hrun : runR E true ops ops.toList 0 (A.map fun φ => (none, φ)) [] [] = some (ps, TF, rs)) (hps : allP ps) (hchk : chk true ops rs = true) (hlow : low true ops = true)
    (hQ : ∀ a w, Inv E true ops base w0 TF rs (fun i => i < ops.size) a w → Q .normal a w) :
    ∀ (m : Nat) (g : Array Bool) (a : Act) (w : World), g.size = ops.size → fr ops.size g = m → Inv E true ops base w0 TF rs (fun i => g.getD i false = true) a w → wpAny E.P .any ops Q m g a w := by
  have hfin : ∀ (g : Array Bool) (a : Act) (w : World), g.size = ops.size → (∀ i, i < ops.size → g.getD i false = true) → Inv E true ops base w0 TF rs (fun i => g.getD i false = true) a w → Q .normal a w := fun g a w hs hall hI => by
    refine hQ a w ?_
    have : (fun i => g.getD i false = true) = fun i => i < ops.size := funext fun i => propext ⟨fun h => by
      rw [← hs]
      by_cases hi : i < g.size
      · exact hi
      · simp [Array.getD, hi] at h, hall i⟩
    rwa [this] at hI
  have hready : ∀ (g : Array Bool), g.size = ops.size → Region.ready .any ops g = [] → ∀ i, i < ops.size → g.getD i false = true := fun g hs hr i => by
    induction i using Nat.strongRecOn with
    | _ i ih =>
      intro hi
      cases hb : g.getD i false with
      | true => rfl
      | false =>
        exfalso
        have : i ∈ Region.ready .any ops g := by
          refine mem_ready.2 ⟨?_, ops[i], Array.getElem?_eq_getElem hi, fun e he hbi => ?_⟩
          · have : i < g.size := by omega
            simp [Array.getD, this] at hb ⊢
            exact hb
          · unfold low at hlow
            simp only [cond_true] at hlow
            have := allIdx_spec hlow i ops[i] (by simp [hi])
            rw [List.all_eq_true] at this
            have := this e (by simpa using he)
            rw [hbi] at this
            have hlt : e.on < i := by simpa using this
            exact ih e.on hlt (by omega)
        rw [hr] at this
        cases this
  intro m
  induction m with
  | zero =>
    intro g a w hs hf hI
    have hall := fr_zero hf
    refine ⟨?_, hfin g a w hs hall hI⟩
    apply List.eq_nil_iff_forall_not_mem.2
    intro i hi
    obtain ⟨h1, o, ho, _⟩ := mem_ready.1 hi
    have hlt : i < ops.size := (Array.getElem?_eq_some_iff.1 ho).1
    have h2 := hall i hlt
    have : i < g.size := by omega
    simp [Array.getD, this] at h1 h2
    rw [h1] at h2; cases h2
  | succ m ih =>
    intro g a w hs hf hI
    refine ⟨fun hr => hfin g a w hs (hready g hs hr) hI, fun i hi => ?_⟩
    obtain ⟨h1, o, ho, h2⟩ := mem_ready.1 hi
    have hlt : i < ops.size := (Array.getElem?_eq_some_iff.1 ho).1
    have hg : i < g.size := by omega
    have hgi : g.getD i false = false := by
      simp [Array.getD, hg] at h1 ⊢
      exact h1
    have hst := step_inv hT hq hrun hps hchk (Q := Q) hI ho (by rw [hgi]; simp) (fun j hj => by
      obtain ⟨o', ho', e, he, hb, rfl⟩ := dep_true.1 hj
      rw [ho] at ho'
      cases ho'
      exact h2 e he hb)
    unfold wpOp
    rw [ho]
    simp only
    have hnext : ∀ a' w', Inv E true ops base w0 TF rs (fun j => j = i ∨ g.getD j false = true) a' w' → wpAny E.P .any ops Q m (g.setIfInBounds i true) a' w' := fun a' w' h => by
      refine ih _ a' w' (by simp [hs]) (by have := fr_set hlt hg hgi; omega) ?_
      have : (fun j => (g.setIfInBounds i true).getD j false = true) = fun j => j = i ∨ g.getD j false = true := funext fun j => propext (getD_set hg)
      rwa [this]
    by_cases hw : Region.wanted o (yielded ops a.tmps) = true
    · rw [if_pos hw] at hst ⊢
      exact Or.inl (Oper.wp_mono hnext hst)
    · rw [if_neg hw] at hst ⊢
      exact hnext _ _ hst
theorem seq_inv (hT : ∀ d, TabOkW E.P (E.T d) base w0) (hq : EqOkW E.P E.q base w0) (hrun : runR E false ops ops.toList 0 (A.map fun φ => (none, φ)) [] [] = some (ps, TF, rs)) (hps : allP ps) (hchk : chk false ops rs = true)
    (hQ : ∀ a w, Inv E false ops base w0 TF rs (fun i => i < ops.size) a w → Q .normal a w) :
    ∀ (m k : Nat) (a : Act) (w : World), k + m = ops.size → Inv E false ops base w0 TF rs (fun i => i < k) a w → wpOps E.P ops Q (List.range' k m) a w
  | 0, k, a, w, hk, hI => by
    have : k = ops.size := by omega
    subst this
    exact hQ a w hI
  | m + 1, k, a, w, hk, hI => by
    have hlt : k < ops.size := by omega
    have ho : ops[k]? = some ops[k] := Array.getElem?_eq_getElem hlt
    have hst := step_inv hT hq hrun hps hchk (Q := Q) hI ho (Nat.lt_irrefl k) (fun j hj => by unfold dep at hj; simpa using hj)
    simp only [List.range'_succ, wpOps]
    rw [ho]
    simp only
    have hnext : ∀ a' w', Inv E false ops base w0 TF rs (fun j => j = k ∨ j < k) a' w' → wpOps E.P ops Q (List.range' (k + 1) m) a' w' := fun a' w' h => by
      refine seq_inv hT hq hrun hps hchk hQ m (k + 1) a' w' (by omega) ?_
      have : (fun j => j < k + 1) = fun j => j = k ∨ j < k := funext fun j => propext (by omega)
      rwa [this]
    by_cases hw : Region.wanted ops[k] (yielded ops a.tmps) = true
    · rw [if_pos hw] at hst ⊢
      exact Or.inl (Oper.wp_mono hnext hst)
    · rw [if_neg hw] at hst ⊢
      exact hnext _ _ hst
theorem reg_sound {id : Nat} (hm : E.P.follows .mixedOrders = true) (hT : ∀ d, TabOkW E.P (E.T d) base w0) (hq : EqOkW E.P E.q base w0) (h : regA E draw ops A = some (ps, A')) (hps : allP ps) (hA : Holds E.nt base w0 A a w)
    (hQ : ∀ a w, Holds E.nt base w0 A' a w → Q .normal a w) : (Code.region id ops draw).wp E.P Q a w := by
  unfold regA at h
  split at h
  · rename_i ps' TF rs hrun
    cases hc : (chk draw ops rs && low draw ops) <;> rw [hc] at h
    · cases h
    · cases h
      rw [Bool.and_eq_true] at hc
      cases draw with
      | false =>
        refine wp_region ?_
        rw [List.range_eq_range']
        exact seq_inv hT hq hrun hps hc.1 (fun a w hI => hQ a w (end_inv hrun (fun _ h => h) hI)) ops.size 0 a w (by omega) (by
          have : (fun i => i < 0) = fun _ : Nat => False := funext fun i => propext ⟨fun h => by omega, fun h => h.elim⟩
          rw [this]
          exact start_inv hrun hA)
      | true =>
        refine wp_region_any hm ?_
        have hsz : ∀ n, fr n (Array.replicate ops.size false) = n := fun n => by
          induction n with
          | zero => rfl
          | succ n ih => unfold fr; rw [ih]; by_cases hn : n < ops.size <;> simp [Array.getD, hn]
        refine any_inv hT hq hrun hps hc.1 hc.2 (fun a w hI => hQ a w (end_inv hrun (fun _ h => h) hI)) ops.size _ a _ (by simp) (hsz _) ?_
        have : (fun i => (Array.replicate ops.size false).getD i false = true) = fun _ : Nat => False := funext fun i => propext (by by_cases hi : i < ops.size <;> simp [Array.getD, hi])
        rw [this]
        exact start_inv hrun hA.drew
  · cases h
end
end Go.Proofs.YtalcpnkkbimojaaDoor.Ex
namespace Go.Proofs.YtalcpnkkbimojaaDoor.Ex
set_option linter.unusedVariables false
set_option linter.unusedSimpArgs false
open Go.RowKit

inductive EA | nrm | ex (id : Nat) | rt
def EA.out : EA → Exit
  | .nrm => .normal
  | .ex id => .exit id
  | .rt => .ret
structure Cfg where
  T : Nat → Tab
  hint : Nat → Bool
  num : Nat → Option Value
def mkE (P : Program) (q : EqT) (nt : Nat) (c : Cfg) : Env := ⟨P, c.T, q, c.hint, c.num, nt⟩
/-- code, so much fuel; what the operations are told may hang on what is left of it -/
def run (P : Program) (q : EqT) (nt : Nat) (C : Nat → Cfg) : Nat → Code → List Fact → Option (List Prop × EA × List Fact)
  | 0, _, _ => none
  | n + 1, c, A => match c with
    | .skip => some ([], .nrm, A)
    | .ret => some ([], .rt, A)
    | .exit id => some ([], .ex id, A)
    | .region id ops draw => match regA (mkE P q nt (C n)) draw ops A with | some (p, A') => some (p, .nrm, A') | none => none
    | .seq x y => match run P q nt C n x A with
      | some (p, .nrm, A1) => match run P q nt C n y A1 with | some (p2, e, A2) => some (p ++ p2, e, A2) | none => none
      | r => r
    | .cond c x y => match ev A c with | some (.im (.bool b)) => run P q nt C n (bif b then x else y) A | _ => none
    | .block id x => match run P q nt C n x A with
      | some (p, .ex j, A1) => some (p, bif Nat.beq j id then .nrm else .ex j, A1)
      | r => r
    | .loop x => match run P q nt C n x A with
      | some (p, .nrm, A1) => match run P q nt C n (.loop x) A1 with | some (p2, e, A2) => some (p ++ p2, e, A2) | none => none
      | r => r
    | _ => none
/-- the loop's body, so often at most -/
def Un (P : Program) (c : Code) (Q : Exit → Act → World → Prop) : Nat → Act → World → Prop
  | 0, _, _ => False
  | n + 1, a, w => c.wp P (Exit.then (Un P c Q n) Q) a w
theorem least {p : Nat → Prop} : ∀ n, p n → ∃ m, p m ∧ ∀ k, p k → m ≤ k := fun n h => by
  induction n using Nat.strongRecOn with
  | _ n ih =>
    by_cases hk : ∃ k, k < n ∧ p k
    · obtain ⟨k, h1, h2⟩ := hk
      exact ih k h1 h2
    · exact ⟨n, h, fun k hp => Nat.le_of_not_lt fun hlt => hk ⟨k, hlt, hp⟩⟩
theorem wp_loop_un {P : Program} {c : Code} {Q : Exit → Act → World → Prop} {n : Nat} {a : Act} {w : World} (h : Un P c Q n a w) : (Code.loop c).wp P Q a w := by
  classical
  have hmin : ∀ a w, (∃ n, Un P c Q n a w) → ∃ m, Un P c Q m a w ∧ ∀ k, Un P c Q k a w → m ≤ k := fun a w ⟨n, h⟩ => least n h
  refine wp_loop (fun a w => ∃ n, Un P c Q n a w) (fun a w => if h : ∃ n, Un P c Q n a w then (hmin a w h).choose else 0) ⟨n, h⟩ ?_
  intro a w hI
  have hs := (hmin a w hI).choose_spec
  rw [dif_pos hI]
  generalize (hmin a w hI).choose = m at hs
  cases m with
  | zero => exact hs.1.elim
  | succ m =>
    refine Code.wp_mono (fun e a' w' he => ?_) hs.1
    cases e with
    | normal =>
      have hI' : ∃ n, Un P c Q n a' w' := ⟨m, he⟩
      refine ⟨hI', ?_⟩
      rw [dif_pos hI']
      exact Nat.lt_succ_of_le ((hmin a' w' hI').choose_spec.2 m he)
    | _ => exact he
section
variable {P : Program} {q : EqT} {nt : Nat} {C : Nat → Cfg} {base : Nat} {w0 : World}
theorem run_sound (hm : P.follows .mixedOrders = true) (hT : ∀ n d, TabOkW P ((C n).T d) base w0) (hq : EqOkW P q base w0) : ∀ (n : Nat) (c : Code) (A A' : List Fact) (ps : List Prop) (e : EA) (a : Act) (w : World) (Q : Exit → Act → World → Prop),
    run P q nt C n c A = some (ps, e, A') → allP ps → Holds nt base w0 A a w → (∀ a w, Holds nt base w0 A' a w → Q e.out a w) → c.wp P Q a w ∧ ∀ x, c = .loop x → Un P x Q n a w
  | 0, c, A, A', ps, e, a, w, Q, h, hps, hA, hQ => by cases h
  | n + 1, c, A, A', ps, e, a, w, Q, h, hps, hA, hQ => by
    cases c with
    | skip => cases h; exact ⟨wp_skip (hQ a w hA), fun x e => by cases e⟩
    | ret => cases h; exact ⟨wp_ret (hQ a w hA), fun x e => by cases e⟩
    | exit id => cases h; exact ⟨wp_exit (hQ a w hA), fun x e => by cases e⟩
    | region id ops draw =>
      refine ⟨?_, fun x e => by cases e⟩
      simp only [run] at h
      split at h
      · rename_i p A1 h1
        cases h
        exact reg_sound (E := mkE P q nt (C n)) hm (hT n) hq h1 hps hA hQ
      · cases h
    | seq x y =>
      refine ⟨?_, fun x e => by cases e⟩
      simp only [run] at h
      split at h
      · rename_i p A1 h1
        split at h
        · rename_i ps2 e2 A2 h2
          cases h
          obtain ⟨p1, p2⟩ := allP_append.1 hps
          refine wp_seq (run_sound hm hT hq n x A A1 p .nrm a w _ h1 p1 hA fun a w hA1 => ?_).1
          exact (run_sound hm hT hq n y A1 A' ps2 e a w Q h2 p2 hA1 hQ).1
        · cases h
      · rename_i r hr
        refine wp_seq (run_sound hm hT hq n x A A' ps e a w _ h hps hA fun a w hA1 => ?_).1
        cases e with
        | nrm => exact (hr _ _ h).elim
        | ex id => exact hQ a w hA1
        | rt => exact hQ a w hA1
    | cond c x y =>
      refine ⟨?_, fun x e => by cases e⟩
      simp only [run] at h
      split at h
      · rename_i b hb
        obtain ⟨β, hok, _⟩ := hA.facts
        have hc : a.eval c = .bool b := ev_spec hok hb
        refine wp_cond hc ?_
        have := (run_sound hm hT hq n _ A A' ps e a w Q h hps hA hQ).1
        cases b <;> exact this
      · cases h
    | block id x =>
      refine ⟨?_, fun x e => by cases e⟩
      simp only [run] at h
      split at h
      · rename_i p j A1 h1
        cases h
        refine wp_block (run_sound hm hT hq n x A A' ps (.ex j) a w _ h1 hps hA fun a w hA1 => ?_).1
        show if j = id then Q .normal a w else Q (.exit j) a w
        cases hj : Nat.beq j id
        · rw [if_neg (fun e => by rw [e] at hj; simp at hj)]
          have := hQ a w hA1
          rw [hj] at this
          exact this
        · rw [if_pos (Nat.eq_of_beq_eq_true hj)]
          have := hQ a w hA1
          rw [hj] at this
          exact this
      · rename_i r hr
        refine wp_block (run_sound hm hT hq n x A A' ps e a w _ h hps hA fun a w hA1 => ?_).1
        cases e with
        | ex id => exact (hr _ _ _ h).elim
        | nrm => exact hQ a w hA1
        | rt => exact hQ a w hA1
    | loop x =>
      have hun : Un P x Q (n + 1) a w := by
        simp only [run] at h
        unfold Un
        split at h
        · rename_i p A1 h1
          split at h
          · rename_i ps2 e2 A2 h2
            cases h
            obtain ⟨p1, p2⟩ := allP_append.1 hps
            refine (run_sound hm hT hq n x A A1 p .nrm a w _ h1 p1 hA fun a w hA1 => ?_).1
            exact (run_sound hm hT hq n (.loop x) A1 A' ps2 e a w Q h2 p2 hA1 hQ).2 x rfl
          · cases h
        · rename_i r hr
          refine (run_sound hm hT hq n x A A' ps e a w _ h hps hA fun a w hA1 => ?_).1
          cases e with
          | nrm => exact (hr _ _ h).elim
          | ex id => exact hQ a w hA1
          | rt => exact hQ a w hA1
      exact ⟨wp_loop_un hun, fun y e => by cases e; exact hun⟩
    | _ => simp only [run] at h; cases h
end
/-- an argument's facts: it lies in slot i -/
def argF : Nat → List CA → List Fact
  | _, [] => []
  | i, .v x :: r => .slot i x.av :: argF (i + 1) r
  | i, .s l n m :: r => .slot i (.sl i 0 n m) :: .row i false l :: argF (i + 1) r
  | i, .so l n :: r => .slot i (.so i n) :: .row i false l :: argF (i + 1) r
  | i, .p l o :: r => .slot i (.pt i o) :: .row i false l :: argF (i + 1) r
def resT (P : Program) (A : List Fact) : ResultVar → Option TV
  | .tmp t => match look A t with | some (.im v) => some (.im v) | some (.fl l) => some (.fl l) | _ => none
  | .cell t ty => match look A t with
    | some (.pt k o) => match rowOf A k, sizeT P ty, isRowT P ty with
      | some (_, l), some n, true => match seg l o n with | some s => some (.fl s) | none => none
      | _, _, _ => none
    | _ => none
def resTs (P : Program) (A : List Fact) : List ResultVar → Option (List TV)
  | [] => some []
  | x :: r => match resT P A x, resTs P A r with | some t, some l => some (t :: l) | _, _ => none
def rv : List TV → Option RV
  | [] => none
  | [t] => some (.one t)
  | l => some (.many l)
/-- a whole function -/
def funB (P : Program) (q : EqT) (C : Nat → Cfg) (fn : Func) (n : Nat) (cs : List CA) : Option (List Prop × RV) :=
  match fn.body with
  | some c => bif Nat.ble cs.length fn.ntmps then
      (match run P q fn.ntmps C n c (argF 0 cs) with
      | some (ps, .ex _, _) => none
      | some (ps, _, A) => match resTs P A fn.results.toList with
        | some l => match rv l with | some r => some (ps, r) | none => none
        | none => none
      | none => none) else none
  | none => none
theorem argF_key : ∀ (cs : List CA) (i : Nat) (φ : Fact), φ ∈ argF i cs → (∀ s v, φ = .slot s v → ∀ k, v.key = some k → i ≤ k) ∧ (∀ k o l, φ = .row k o l → i ≤ k) ∧ (∀ k b, φ ≠ .at k b) ∧ ∀ k e s n, φ ≠ .app k e s n
  | [], i, φ, h => by cases h
  | .v x :: r, i, φ, h => by
    rcases List.mem_cons.1 h with rfl | h
    · refine ⟨fun s v e k hk => ?_, (fun k o l e => by cases e), (fun k b e => by cases e), fun k e s n q => by cases q⟩
      cases e
      cases x <;> cases hk
    · obtain ⟨h1, h2, h3⟩ := argF_key r (i + 1) φ h
      exact ⟨fun s v e k hk => Nat.le_of_succ_le (h1 s v e k hk), fun k o l e => Nat.le_of_succ_le (h2 k o l e), h3⟩
  | .s l n m :: r, i, φ, h => by
    rcases List.mem_cons.1 h with rfl | h
    · refine ⟨fun s v e k hk => ?_, (fun k o l e => by cases e), (fun k b e => by cases e), fun k e s n q => by cases q⟩
      cases e
      cases hk
      exact Nat.le_refl _
    · rcases List.mem_cons.1 h with rfl | h
      · exact ⟨fun s v e => by (cases e), (fun k o l e => by cases e; exact Nat.le_refl _), (fun k b e => by cases e), fun k e s n q => by cases q⟩
      · obtain ⟨h1, h2, h3⟩ := argF_key r (i + 1) φ h
        exact ⟨fun s v e k hk => Nat.le_of_succ_le (h1 s v e k hk), fun k o l e => Nat.le_of_succ_le (h2 k o l e), h3⟩
  | .so l n :: r, i, φ, h => by
    rcases List.mem_cons.1 h with rfl | h
    · refine ⟨fun s v e k hk => ?_, (fun k o l e => by cases e), (fun k b e => by cases e), fun k e s n q => by cases q⟩
      cases e
      cases hk
      exact Nat.le_refl _
    · rcases List.mem_cons.1 h with rfl | h
      · exact ⟨fun s v e => by (cases e), (fun k o l e => by cases e; exact Nat.le_refl _), (fun k b e => by cases e), fun k e s n q => by cases q⟩
      · obtain ⟨h1, h2, h3⟩ := argF_key r (i + 1) φ h
        exact ⟨fun s v e k hk => Nat.le_of_succ_le (h1 s v e k hk), fun k o l e => Nat.le_of_succ_le (h2 k o l e), h3⟩
  | .p l o0 :: r, i, φ, h => by
    rcases List.mem_cons.1 h with rfl | h
    · refine ⟨fun s v e k hk => ?_, (fun k o l e => by cases e), (fun k b e => by cases e), fun k e s n q => by cases q⟩
      cases e
      cases hk
      exact Nat.le_refl _
    · rcases List.mem_cons.1 h with rfl | h
      · exact ⟨fun s v e => by (cases e), (fun k o l e => by cases e; exact Nat.le_refl _), (fun k b e => by cases e), fun k e s n q => by cases q⟩
      · obtain ⟨h1, h2, h3⟩ := argF_key r (i + 1) φ h
        exact ⟨fun s v e k hk => Nat.le_of_succ_le (h1 s v e k hk), fun k o l e => Nat.le_of_succ_le (h2 k o l e), h3⟩
theorem argF_ok (a : Act) (w : World) (B : Bk) (K : Nat) : ∀ (cs : List CA) (vs : List Value) (i : Nat), i + cs.length ≤ K → CAs w cs vs → (∀ j v, vs[j]? = some v → a.tmps[i + j]? = some v) → ∃ β : Nat → Bk, β K = B ∧ ∀ φ ∈ argF i cs, φ.ok w.heap.size β a w
  | [], vs, i, _, _, _ => ⟨fun _ => B, rfl, fun φ h => by cases h⟩
  | c :: cs, [], i, _, h, _ => by cases c <;> exact h.elim
  | c :: cs, v :: vs, i, hK, h, ha => by
    have hKi : Nat.beq K i = false := by
      cases hb : Nat.beq K i
      · rfl
      · have := Nat.eq_of_beq_eq_true hb
        simp only [List.length_cons] at hK
        omega
    obtain ⟨h1, h2⟩ : c.ok w v ∧ CAs w cs vs := by cases c <;> exact h
    obtain ⟨β, hB, hβ⟩ := argF_ok a w B K cs vs (i + 1) (by simp only [List.length_cons] at hK; omega) h2 (fun j u hj => by have := ha (j + 1) u (by simpa using hj); rwa [show i + (j + 1) = i + 1 + j by omega] at this)
    have h0 := ha 0 v rfl
    rw [Nat.add_zero] at h0
    cases c with
    | v x =>
      refine ⟨β, hB, fun φ hφ => ?_⟩
      rcases List.mem_cons.1 hφ with rfl | hφ
      · show a.tmps[i]? = _
        rw [h0, TV.av_den]
        exact congrArg some h1
      · exact hβ φ hφ
    | s l n m =>
      obtain ⟨b, o, rfl, hb, hr⟩ := h1
      refine ⟨fun k => bif Nat.beq k i then (b, o, 0) else β k, by simp only [hKi]; exact hB, fun φ hφ => ?_⟩
      have hbi : (bif Nat.beq i i then (b, o, 0) else β i) = (b, o, 0) := by simp
      rcases List.mem_cons.1 hφ with rfl | hφ
      · show a.tmps[i]? = _
        rw [h0]
        show _ = some (Value.slice (some ⟨(bif Nat.beq i i then (b, o, 0) else β i).1, (bif Nat.beq i i then (b, o, 0) else β i).2.1 + 0, none⟩) n m)
        rw [hbi]
        rfl
      · rcases List.mem_cons.1 hφ with rfl | hφ
        · refine ⟨?_, ?_, (fun h => by cases h), fun _ => trivial⟩ <;> simp only [hbi]
          · exact hb
          · exact hr
        · obtain ⟨k1, k2, k3, k4⟩ := argF_key cs (i + 1) φ hφ
          have hne : ∀ k, i + 1 ≤ k → (bif Nat.beq k i then (b, o, 0) else β k) = β k := fun k hk => by
            cases hq : Nat.beq k i
            · rfl
            · have := Nat.eq_of_beq_eq_true hq; omega
          have hold := hβ φ hφ
          cases φ with
          | slot s u =>
            show a.tmps[s]? = _
            rw [AV.den_eq (β := β) u (fun k hk => hne k (k1 s u rfl k hk))]
            exact hold
          | row k ow l' =>
            have e := hne k (k2 k ow l' rfl)
            simp only [Fact.ok] at hold ⊢
            simp only [e]
            exact hold
          | «at» k b => exact (k3 k b rfl).elim
          | app k e s n => exact (k4 k e s n rfl).elim
    | so l n =>
      obtain ⟨b, o, m, rfl, hb, hr⟩ := h1
      refine ⟨fun k => bif Nat.beq k i then (b, o, m) else β k, by simp only [hKi]; exact hB, fun φ hφ => ?_⟩
      have hbi : (bif Nat.beq i i then (b, o, m) else β i) = (b, o, m) := by simp
      rcases List.mem_cons.1 hφ with rfl | hφ
      · show a.tmps[i]? = _
        rw [h0]
        show _ = some (Value.slice (some ⟨(bif Nat.beq i i then (b, o, m) else β i).1, (bif Nat.beq i i then (b, o, m) else β i).2.1, none⟩) n (bif Nat.beq i i then (b, o, m) else β i).2.2)
        rw [hbi]
      · rcases List.mem_cons.1 hφ with rfl | hφ
        · refine ⟨?_, ?_, (fun h => by cases h), fun _ => trivial⟩ <;> simp only [hbi]
          · exact hb
          · exact hr
        · obtain ⟨k1, k2, k3, k4⟩ := argF_key cs (i + 1) φ hφ
          have hne : ∀ k, i + 1 ≤ k → (bif Nat.beq k i then (b, o, m) else β k) = β k := fun k hk => by
            cases hq : Nat.beq k i
            · rfl
            · have := Nat.eq_of_beq_eq_true hq; omega
          have hold := hβ φ hφ
          cases φ with
          | slot s u =>
            show a.tmps[s]? = _
            rw [AV.den_eq (β := β) u (fun k hk => hne k (k1 s u rfl k hk))]
            exact hold
          | row k ow l' =>
            have e := hne k (k2 k ow l' rfl)
            simp only [Fact.ok] at hold ⊢
            simp only [e]
            exact hold
          | «at» k b => exact (k3 k b rfl).elim
          | app k e s n => exact (k4 k e s n rfl).elim
    | p l o0 =>
      obtain ⟨b, rfl, hb, hr⟩ := h1
      refine ⟨fun k => bif Nat.beq k i then (b, 0, 0) else β k, by simp only [hKi]; exact hB, fun φ hφ => ?_⟩
      have hbi : (bif Nat.beq i i then (b, 0, 0) else β i) = (b, 0, 0) := by simp
      rcases List.mem_cons.1 hφ with rfl | hφ
      · show a.tmps[i]? = _
        rw [h0]
        show _ = some (Value.pointer (some ⟨(bif Nat.beq i i then (b, 0, 0) else β i).1, (bif Nat.beq i i then (b, 0, 0) else β i).2.1 + o0, none⟩))
        rw [hbi]
        simp
      · rcases List.mem_cons.1 hφ with rfl | hφ
        · refine ⟨?_, ?_, (fun h => by cases h), fun _ => trivial⟩ <;> simp only [hbi]
          · exact hb
          · exact hr
        · obtain ⟨k1, k2, k3, k4⟩ := argF_key cs (i + 1) φ hφ
          have hne : ∀ k, i + 1 ≤ k → (bif Nat.beq k i then (b, 0, 0) else β k) = β k := fun k hk => by
            cases hq : Nat.beq k i
            · rfl
            · have := Nat.eq_of_beq_eq_true hq; omega
          have hold := hβ φ hφ
          cases φ with
          | slot s u =>
            show a.tmps[s]? = _
            rw [AV.den_eq (β := β) u (fun k hk => hne k (k1 s u rfl k hk))]
            exact hold
          | row k ow l' =>
            have e := hne k (k2 k ow l' rfl)
            simp only [Fact.ok] at hold ⊢
            simp only [e]
            exact hold
          | «at» k b => exact (k3 k b rfl).elim
          | app k e s n => exact (k4 k e s n rfl).elim
def resF (tmps : Array Value) : ResultVar → Sem Value
  | .tmp t => pure (tmps.getD t undef)
  | .cell p t => do loadVar t (← asAddr (tmps.getD p undef))
theorem resT_spec {P : Program} {A : List Fact} {base : Nat} {β : Nat → Bk} {a : Act} {w : World} (hA : ∀ φ ∈ A, φ.ok base β a w) {x : ResultVar} {t : TV} (h1 : resT P A x = some t) : (resF a.tmps x).run P w = .ok t.den w := by
  cases x with
  | tmp s =>
    have : a.tmps.getD s undef = t.den := by
      simp only [resT] at h1
      split at h1
      · rename_i v hl; cases h1; have := hA _ (look_mem hl); simp only [Fact.ok] at this; simp [this]; rfl
      · rename_i v hl; cases h1; have := hA _ (look_mem hl); simp only [Fact.ok] at this; simp [this]; rfl
      · cases h1
    show (pure (a.tmps.getD s undef) : Sem Value).run P w = _
    rw [this]
    rfl
  | cell s ty =>
    simp only [resT] at h1
    split at h1
    · rename_i k o hl
      split at h1
      · rename_i ow row n hr hs ht
        split at h1
        · rename_i sg hg
          cases h1
          obtain ⟨i', hi, hn⟩ := sizeT_spec hs
          obtain ⟨ds, hu, hd'⟩ := isRowT_spec ht
          obtain ⟨g1, g2, _⟩ := hA _ (rowOf_mem hr)
          have hl' := hA _ (look_mem hl)
          simp only [Fact.ok, AV.den] at hl'
          have hv : a.tmps.getD s undef = .pointer (some ⟨(β k).1, (β k).2.1 + o, none⟩) := by simp [hl']
          have := run_loadVar_mid (P := P) w _ _ ty (flat sg) ds (range_seg g2 hg) hu hd' (by rw [hi]; simp [flat_len, seg_size hg, hn])
          show (do loadVar ty (← asAddr (a.tmps.getD s undef)) : Sem Value).run P w = _
          rw [hv]
          simp [asAddr, this, TV.den]
        · cases h1
      · cases h1
    · cases h1
theorem resTs_spec {P : Program} {A : List Fact} {base : Nat} {β : Nat → Bk} {a : Act} {w : World} (hA : ∀ φ ∈ A, φ.ok base β a w) : ∀ {xs : List ResultVar} {l : List TV}, resTs P A xs = some l → (xs.mapM (resF a.tmps)).run P w = .ok (l.map TV.den) w
  | [], l, h => by cases h; simp
  | x :: r, l, h => by
    unfold resTs at h
    split at h
    · rename_i t l' h1 h2
      cases h
      have ih := resTs_spec hA h2
      have hx := resT_spec hA h1
      simp [List.mapM_cons, ih, hx]
    · cases h
theorem rv_spec {l : List TV} {r : RV} (h : rv l = some r) : (if h : (l.map TV.den).toArray.size = 1 then (l.map TV.den).toArray[0] else Value.tuple (l.map TV.den).toArray) = r.den := by
  cases l with
  | nil => cases h
  | cons t l =>
    cases l with
    | nil => cases h; rfl
    | cons u l => cases h; rw [dif_neg (by simp)]; rfl
theorem cas_len {w : World} : ∀ (cs : List CA) (vs : List Value), CAs w cs vs → cs.length = vs.length := fun cs => by
  induction cs with
  | nil => intro vs h; cases vs with | nil => rfl | cons _ _ => exact h.elim
  | cons c cs ih => intro vs h; cases vs with | nil => cases c <;> exact h.elim | cons v vs => cases c <;> exact congrArg (· + 1) (ih vs h.2)
theorem argF_own : ∀ (cs : List CA) (i : Nat) (k : Nat) (l : List At), Fact.row k true l ∈ argF i cs → False := fun cs => by
  induction cs with
  | nil => intro i k l h; cases h
  | cons c cs ih =>
    intro i k l h
    cases c with
    | v x => rcases List.mem_cons.1 h with h | h; cases h; exact ih _ _ _ h
    | _ =>
      rcases List.mem_cons.1 h with h | h
      · cases h
      · rcases List.mem_cons.1 h with h | h
        · cases h
        · exact ih _ _ _ h
theorem start_holds {nt : Nat} {cs : List CA} {args : List Value} {w : World} (ha : CAs w cs args) (hn : cs.length ≤ nt) : Holds nt w.heap.size w (argF 0 cs) { tmps := args.toArray ++ Array.replicate (nt - args.toArray.size) undef, defers := [] } w := by
  have hle' : args.length ≤ nt := by rw [← cas_len cs args ha]; exact hn
  obtain ⟨β, hB, hβ⟩ := argF_ok { tmps := args.toArray ++ Array.replicate (nt - args.toArray.size) undef, defers := [] } w (w.heap.size, 0, 0) nt cs args 0 (by omega) ha (fun j v hj => by
    have hlt : j < args.length := (List.getElem?_eq_some_iff.1 hj).1
    simp only [Nat.zero_add]
    rw [Array.getElem?_append_left (by simpa using hlt)]
    simpa using hj)
  exact ⟨rfl, by simp; omega, Below.refl _ _, Nat.le_refl _, β, hβ, fun k k' o' l l' hk => (argF_own cs 0 k l hk).elim, fun k l hk => (argF_own cs 0 k l hk).elim, by rw [hB]; exact Nat.le_refl _, fun p h1 h2 => by (rw [hB] at h2; exact absurd h1 (by show ¬ w.heap.size < p.block; have h2 : p.block < w.heap.size := h2; omega)), Shape.refl _⟩
theorem funB_soundW {P : Program} {q : EqT} {C : Nat → Cfg} {w : World} (hm : P.follows .mixedOrders = true) (hT : ∀ n d, TabOkW P ((C n).T d) w.heap.size w) (hq : EqOkW P q w.heap.size w) {f : FuncId} {fn : Func} (hf : P.funcs[f]? = some fn) {n : Nat} {cs : List CA} {ps : List Prop} {r : RV}
    (h : funB P q C fn n cs = some (ps, r)) (hps : allP ps) {args : List Value} (ha : CAs w cs args) : Calls P f args.toArray w (fun e w' => e = .returned r.den ∧ Below w.heap.size w w') := by
  unfold funB at h
  cases hb : fn.body with
  | none => rw [hb] at h; cases h
  | some c =>
    rw [hb] at h
    simp only at h
    cases hle : Nat.ble cs.length fn.ntmps <;> rw [hle] at h
    · cases h
    · simp only [cond_true] at h
      refine calls_of_wp hf hb ?_
      have hH := start_holds (nt := fn.ntmps) ha (Nat.le_of_ble_eq_true hle)
      have hfin : ∀ (e : EA) (A : List Fact), (∀ j, e ≠ .ex j) → (∃ l, resTs P A fn.results.toList = some l ∧ rv l = some r) → ∀ a w', Holds fn.ntmps w.heap.size w A a w' → bodyPost P fn (fun e w' => e = .returned r.den ∧ Below w.heap.size w w') e.out a w' := fun e A he ⟨l, h1, h2⟩ a w' hA => by
        obtain ⟨β', hok, _⟩ := hA.facts
        have hres : (results fn a.tmps).run P w' = .ok r.den w' := by
          have := resTs_spec hok h1
          show ((fn.results.mapM (resF a.tmps)) >>= fun vs => pure (if h : vs.size = 1 then vs[0] else .tuple vs) : Sem Value).run P w' = _
          have hm : (List.toArray <$> fn.results.toList.mapM (resF a.tmps)).run P w' = .ok (l.map TV.den).toArray w' := by simp [this]
          rw [Array.mapM_eq_mapM_toList, Sem.run_bind, hm, Result.andThen_ok, Sem.run_pure]
          exact congrArg (fun x => Result.ok x w') (rv_spec h2)
        cases e with
        | nrm => exact ⟨hA.defers, _, hres, rfl, hA.below⟩
        | rt => exact ⟨hA.defers, _, hres, rfl, hA.below⟩
        | ex j => exact (he j rfl).elim
      split at h
      · cases h
      · rename_i ps' e A hne hrun
        split at h
        · rename_i l hl
          split at h
          · rename_i r' hr'
            cases h
            exact (run_sound (P := P) (q := q) (nt := fn.ntmps) (C := C) hm hT hq n c _ A ps e _ w _ hrun hps hH (hfin e A (fun j e' => hne j e') ⟨l, hl, hr'⟩)).1
          · cases h
        · cases h
      · cases h
theorem funB_sound {P : Program} {q : EqT} {C : Nat → Cfg} (hm : P.follows .mixedOrders = true) (hT : ∀ n d, TabOk P ((C n).T d)) (hq : EqOk P q) {f : FuncId} {fn : Func} (hf : P.funcs[f]? = some fn) {n : Nat} {cs : List CA} {ps : List Prop} {r : RV}
    (h : funB P q C fn n cs = some (ps, r)) (hps : allP ps) {args : List Value} {w : World} (ha : CAs w cs args) : Calls P f args.toArray w (fun e w' => e = .returned r.den ∧ Below w.heap.size w w') :=
  funB_soundW hm (fun n d => (hT n d).w _ _) (hq.w _ _) hf h hps ha
theorem callable {P : Program} {f : FuncId} {fn : Func} (hf : P.funcs[f]? = some fn) (hn : (fn.name == "runtime.NumGoroutine") = false) (hb : fn.body.isNone = false) (args : Array Value) (w : World) : (callFunc f args).run P w = .ok (.enter f args) w := by
  have hn' : ¬ fn.name = "runtime.NumGoroutine" := by simpa using hn
  have hb' : ¬ fn.body = none := fun e => by rw [e] at hb; cases hb
  simp [callFunc, hf, hn', hb']
def T0 : Tab := fun _ _ => none
theorem T0_ok (P : Program) : TabOk P T0 := fun _ _ _ _ h => by cases h
/-- a table with one function more -/
def Tab.add (T : Tab) (f : Nat) (g : List CA → Option (List Prop × RV)) : Tab := fun f' cs => bif Nat.beq f' f then g cs else T f' cs
theorem TabOk.add {P : Program} {T : Tab} (hT : TabOk P T) {f : Nat} {fn : Func} (hf : P.funcs[f]? = some fn) (hn : (fn.name == "runtime.NumGoroutine") = false) (hb : fn.body.isNone = false) {g : List CA → Option (List Prop × RV)}
    (h : ∀ cs pre r, g cs = some (pre, r) → allP pre → ∀ (args : List Value) (w : World), CAs w cs args → Calls P f args.toArray w (fun e w' => e = .returned r.den ∧ Below w.heap.size w w')) : TabOk P (T.add f g) := by
  intro f' cs pre r hg hp
  unfold Tab.add at hg
  cases hb' : Nat.beq f' f <;> rw [hb'] at hg
  · exact hT f' cs pre r hg hp
  · cases Nat.eq_of_beq_eq_true hb'
    exact ⟨callable hf hn hb, h cs pre r hg hp⟩
end Go.Proofs.YtalcpnkkbimojaaDoor.Ex
namespace Go.Proofs.YtalcpnkkbimojaaDoor.Ex
set_option linter.unusedVariables false
set_option linter.unusedSimpArgs false
open Go.RowKit

/-- fewer facts hold too -/
theorem Holds.sub {nt base : Nat} {w0 : World} {A A' : List Fact} {a : Act} {w : World} (h : Holds nt base w0 A a w) (hs : ∀ φ ∈ A', φ ∈ A) : Holds nt base w0 A' a w := by
  obtain ⟨β, h1, h2⟩ := h.facts
  exact ⟨h.defers, h.size, h.below, h.heap, β, fun φ hφ => h1 φ (hs φ hφ), fun k k' o' l l' hk hk' => h2.1 k k' o' l l' (hs _ hk) (hs _ hk'), fun k l hk => h2.2.1 k l (hs _ hk), h2.2.2⟩
/-- the facts of A at the places that K names -/
def pick (A : List Fact) : List Fact → Option (List Fact)
  | [] => some []
  | .slot s _ :: r => match look A s, pick A r with | some v, some l => some (.slot s v :: l) | _, _ => none
  | .row k _ _ :: r => match rowOf A k, pick A r with | some (o, l), some m => some (.row k o l :: m) | _, _ => none
  | .at k _ :: r => match atOf A k, pick A r with | some b, some m => some (.at k b :: m) | _, _ => none
  | .app k _ _ _ :: r => match appOf A k, pick A r with | some (e, sz, n), some m => some (.app k e sz n :: m) | _, _ => none
theorem pick_mem {A : List Fact} : ∀ {K L : List Fact}, pick A K = some L → ∀ φ ∈ L, φ ∈ A
  | [], L, h, φ, hφ => by cases h; cases hφ
  | .slot s v :: r, L, h, φ, hφ => by
    unfold pick at h
    split at h
    · rename_i u l h1 h2
      cases h
      rcases List.mem_cons.1 hφ with rfl | hφ
      · exact look_mem h1
      · exact pick_mem h2 φ hφ
    · cases h
  | .row k o m :: r, L, h, φ, hφ => by
    unfold pick at h
    split at h
    · rename_i o' l' m' h1 h2
      cases h
      rcases List.mem_cons.1 hφ with rfl | hφ
      · exact rowOf_mem h1
      · exact pick_mem h2 φ hφ
    · cases h
  | .at k b :: r, L, h, φ, hφ => by
    unfold pick at h
    split at h
    · rename_i b' m' h1 h2
      cases h
      rcases List.mem_cons.1 hφ with rfl | hφ
      · exact atOf_mem h1
      · exact pick_mem h2 φ hφ
    · cases h
  | .app k e' sz' n' :: r, L, h, φ, hφ => by
    unfold pick at h
    split at h
    · rename_i e sz n m' h1 h2
      cases h
      rcases List.mem_cons.1 hφ with rfl | hφ
      · exact appOf_mem h1
      · exact pick_mem h2 φ hφ
    · cases h
/-- code, and the facts at the places that K names -/
def runK (P : Program) (q : EqT) (nt : Nat) (C : Nat → Cfg) (n : Nat) (c : Code) (A K : List Fact) : Option (List Prop × EA × List Fact) :=
  match run P q nt C n c A with
  | some (ps, e, A1) => match pick A1 K with | some L => some (ps, e, L) | none => none
  | none => none
section
variable {P : Program} {q : EqT} {nt base : Nat} {w0 : World} {Q : Exit → Act → World → Prop}
theorem runKW_sound (hm : P.follows .mixedOrders = true) {C : Nat → Cfg} (hT : ∀ n d, TabOkW P ((C n).T d) base w0) (hq : EqOkW P q base w0) {n : Nat} {c : Code} {A K L : List Fact} {ps : List Prop} {e : EA} {a : Act} {w : World}
    (h : runK P q nt C n c A K = some (ps, e, L)) (hps : allP ps) (hA : Holds nt base w0 A a w) (hQ : ∀ a w, Holds nt base w0 L a w → Q e.out a w) : c.wp P Q a w := by
  unfold runK at h
  split at h
  · rename_i ps' e' A1 h1
    split at h
    · rename_i L' h2
      cases h
      exact (run_sound hm hT hq n c A A1 ps e a w Q h1 hps hA fun a w hA1 => hQ a w (hA1.sub (pick_mem h2))).1
    · cases h
  · cases h
/-- a function taken apart: its body's facts at the start; what it answers -/
theorem fn_enter {f : FuncId} {fn : Func} (hf : P.funcs[f]? = some fn) {c : Code} (hb : fn.body = some c) {cs : List CA} {args : List Value} {w : World} (ha : CAs w cs args) (hn : cs.length ≤ fn.ntmps) {R : Ending → World → Prop}
    (h : ∀ a w', Holds fn.ntmps w.heap.size w (argF 0 cs) a w' → c.wp P (bodyPost P fn R) a w') : Calls P f args.toArray w R := by
  exact calls_of_wp hf hb (h _ _ (start_holds ha hn))
theorem fn_leave {fn : Func} {A : List Fact} {l : List TV} {r : RV} {w : World} (h1 : resTs P A fn.results.toList = some l) (h2 : rv l = some r) {a : Act} {w' : World} (hA : Holds nt w.heap.size w A a w') : bodyPost P fn (fun e w' => e = .returned r.den ∧ Below w.heap.size w w') .ret a w' := by
  obtain ⟨β', hok, _⟩ := hA.facts
  have hres : (results fn a.tmps).run P w' = .ok r.den w' := by
    have := resTs_spec hok h1
    show ((fn.results.mapM (resF a.tmps)) >>= fun vs => pure (if h : vs.size = 1 then vs[0] else .tuple vs) : Sem Value).run P w' = _
    have hm : (List.toArray <$> fn.results.toList.mapM (resF a.tmps)).run P w' = .ok (l.map TV.den).toArray w' := by simp [this]
    rw [Array.mapM_eq_mapM_toList, Sem.run_bind, hm, Result.andThen_ok, Sem.run_pure]
    exact congrArg (fun x => Result.ok x w') (rv_spec h2)
  exact ⟨hA.defers, _, hres, rfl, hA.below⟩
end
/-- a sequence's parts, a block's, a loop's -/
def cA : Code → Code
  | .seq a _ => a
  | c => c
def cB : Code → Code
  | .seq _ b => b
  | c => c
def cIn : Code → Code
  | .block _ c => c
  | .loop c => c
  | c => c
end Go.Proofs.YtalcpnkkbimojaaDoor.Ex
namespace Go.Proofs.YtalcpnkkbimojaaDoor.Ex
set_option linter.unusedVariables false
set_option linter.unusedSimpArgs false
open Go.RowKit

def aggT (P : Program) (t : Nat) : Bool := match P.underlying t with
  | some (.struct _) => true
  | some (.array _ _) => true
  | _ => false
def pvl : Bool → List Value → Value
  | true, xs => .agg xs.toArray
  | false, x :: _ => x
  | false, [] => undef
def is1 (P : Program) (t k : Nat) : Bool := match sizeT P t with | some m => Nat.beq m k | none => false
def cmpFs (P : Program) (g : Nat → Option Nat) : Nat → List Field → Option Nat
  | o, [] => some o
  | o, f :: r => match g f.type with
    | some k => bif (f.name != "_") && (Nat.beq f.offset o && is1 P f.type k) then cmpFs P g (o + k) r else none
    | none => none
/-- what a cell is: a word (false), a bool (true) -/
def kOf : Value → Option Bool
  | .int .u64 _ => some false
  | .bool _ => some true
  | _ => none
def kEq : List (Option Bool) → Option Bool → Bool
  | [some a], some b => a == b
  | _, _ => false
/-- so many words, if the type is one of words, bools, arrays, structs -/
def cmpN (P : Program) : Nat → Nat → Option Nat
  | 0, _ => none
  | d + 1, t => match P.underlying t with
    | some (.int .u64) => bif is1 P t 1 then some 1 else none
    | some .bool => bif is1 P t 1 then some 1 else none
    | some (.array n e) => match cmpN P d e with
      | some k => bif is1 P e k && is1 P t (n * k) then some (n * k) else none
      | none => none
    | some (.struct fs) => match cmpFs P (cmpN P d) 0 fs.toList with
      | some m => bif is1 P t m && !(P.stoodInHeld t) then some m else none
      | none => none
    | _ => none
def allN (f : Nat → Bool) : Nat → Bool
  | 0 => true
  | n + 1 => f n && allN f n
theorem allN_spec {f : Nat → Bool} : ∀ {n : Nat}, allN f n = true → ∀ i, i < n → f i = true
  | 0, _, i, hi => by omega
  | n + 1, h, i, hi => by
    unfold allN at h
    rw [Bool.and_eq_true] at h
    by_cases e : i = n
    · rw [e]; exact h.1
    · exact allN_spec h.2 i (by omega)
def fitFs (P : Program) (g : Nat → Option Nat) (h : Nat → List (Option Bool) → Bool) (ks : List (Option Bool)) : Nat → List Field → Bool
  | _, [] => true
  | o, f :: r => match g f.type with
    | some k => h f.type ((ks.drop o).take k) && fitFs P g h ks (o + k) r
    | none => false
/-- do cells of these kinds fit the type? -/
def fitK (P : Program) : Nat → Nat → List (Option Bool) → Bool
  | 0, _, _ => false
  | d + 1, t, ks => match P.underlying t with
    | some (.int .u64) => kEq ks (some false)
    | some .bool => kEq ks (some true)
    | some (.array n e) => match cmpN P d e with
      | some k => allN (fun i => fitK P d e ((ks.drop (i * k)).take k)) n
      | none => false
    | some (.struct fs) => fitFs P (cmpN P d) (fitK P d) ks 0 fs.toList
    | _ => false
def kA : At → List (Option Bool)
  | .c v => [kOf v]
  | _ => [some false, some false, some false, some false]
def kAs : List At → List (Option Bool)
  | [] => []
  | a :: r => kA a ++ kAs r
theorem kAs_spec : ∀ l : List At, (flat l).map kOf = kAs l
  | [] => rfl
  | a :: r => by
    show (a.cells ++ flat r).map kOf = kA a ++ kAs r
    rw [List.map_append, kAs_spec r]
    cases a <;> rfl
theorem is1_spec {P : Program} {t k : Nat} (h : is1 P t k = true) : sizeT P t = some k := by
  unfold is1 at h
  split at h
  · rename_i m hm; rw [hm, Nat.eq_of_beq_eq_true h]
  · cases h
theorem part_any {P : Program} {t n : Nat} (hs : sizeT P t = some n) (ht : (P.underlying t).isSome = true) (hn : aggT P t = false → n = 1) (cs : List Value) (off : Nat) (hl : off + n ≤ cs.length) (w : World) :
    (part t cs.toArray off).run P w = .ok (pvl (aggT P t) ((cs.drop off).take n)) w := by
  obtain ⟨ds, hu⟩ := Option.isSome_iff_exists.1 ht
  have hagg : (isAgg t).run P w = .ok (aggT P t) w := by
    unfold isAgg aggT
    rw [Sem.run_bind, run_underlying hu w, hu]
    cases ds <;> simp_all
  cases ha : aggT P t
  · have h1 := hn ha
    subst h1
    rw [ha] at hagg
    have hc : cs.toArray[off]? = some cs[off] := by simp
    have hd : (cs.drop off).take 1 = [cs[off]] := by
      rw [List.drop_eq_getElem_cons (by omega)]
      rfl
    unfold part
    rw [Sem.run_bind, hagg]
    simp only [Result.andThen_ok, Bool.false_eq_true, if_false]
    rw [hc, hd]
    rfl
  · rw [ha] at hagg
    simp [part, hagg, run_sizeOf hs, List.extract_eq_take_drop, pvl]
def eqElems (d e n : Nat) (xs ys : Array Value) : Nat → Nat → Sem Bool
  | _, 0 => pure true
  | i, c + 1 => do
    let a ← part e xs (i * n)
    let b ← part e ys (i * n)
    let r ← Op.equalIn d e a b
    if (!r) = true then pure false else eqElems d e n xs ys (i + 1) c
theorem run_equalIn_array {P : Program} (w : World) (d t len e n : Nat) (xs ys : Array Value) (ht : P.underlying t = some (.array len e)) (hs : sizeT P e = some n) :
    (Op.equalIn (d + 1) t (.agg xs) (.agg ys)).run P w = (eqElems d e n xs ys 0 len).run P w := by
  simp only [Op.equalIn, Sem.run_bind, run_underlying ht, Result.andThen_ok, run_sizeOf hs]
  rw [Std.Legacy.Range.forIn_eq_forIn_range']
  simp only [Std.Legacy.Range.size, Nat.sub_zero, Nat.add_sub_cancel, Nat.div_one]
  clear ht
  generalize (0 : Nat) = i
  induction len generalizing i w with
  | zero => simp [eqElems]
  | succ len ih =>
    simp only [List.range'_succ, List.forIn_cons, eqElems, Sem.run_bind, Sem.run_ite]
    generalize (part e xs (i * n)).run P w = r1
    cases r1 with
    | ok a w1 =>
      simp only [Result.andThen_ok]
      generalize (part e ys (i * n)).run P w1 = r2
      cases r2 with
      | ok b w2 =>
        simp only [Result.andThen_ok]
        generalize (Op.equalIn d e a b).run P w2 = r3
        cases r3 with
        | ok r w3 =>
          cases r
          · simp only [Result.andThen_ok, Bool.not_false, if_true, Sem.run_pure]
          · simp only [Result.andThen_ok, Bool.not_true, Bool.false_eq_true, if_false, Sem.run_pure]
            exact ih w3 (i + 1)
        | halt x w3 => simp [Result.andThen]
      | halt x w2 => simp [Result.andThen]
    | halt x w1 => simp [Result.andThen]
theorem cmpN_pos : ∀ {P : Program} {d t n : Nat}, cmpN P d t = some n → sizeT P t = some n ∧ (P.underlying t).isSome = true ∧ (aggT P t = false → n = 1)
  | P, 0, t, n, h => by cases h
  | P, d + 1, t, n, h => by
    unfold cmpN at h
    unfold aggT
    split at h
    · rename_i hu
      cases hb : is1 P t 1 <;> rw [hb] at h
      · cases h
      · cases h
        exact ⟨is1_spec hb, by rw [hu]; rfl, fun _ => rfl⟩
    · rename_i hu
      cases hb : is1 P t 1 <;> rw [hb] at h
      · cases h
      · cases h
        exact ⟨is1_spec hb, by rw [hu]; rfl, fun _ => rfl⟩
    · rename_i len e hu
      split at h
      · rename_i k hk
        cases hb : (is1 P e k && is1 P t (len * k)) <;> rw [hb] at h
        · cases h
        · cases h
          rw [Bool.and_eq_true] at hb
          exact ⟨is1_spec hb.2, by rw [hu]; rfl, fun h => by rw [hu] at h; cases h⟩
      · cases h
    · rename_i fs hu
      split at h
      · rename_i m hm
        cases hb : (is1 P t m && !(P.stoodInHeld t)) <;> rw [hb] at h
        · cases h
        · cases h
          rw [Bool.and_eq_true] at hb
          exact ⟨is1_spec hb.1, by rw [hu]; rfl, fun h => by rw [hu] at h; cases h⟩
      · cases h
    · cases h
theorem take_drop_eq {α : Type} {xs ys : List α} {o k : Nat} : (xs.drop o = ys.drop o) ↔ ((xs.drop o).take k = (ys.drop o).take k ∧ xs.drop (o + k) = ys.drop (o + k)) := by
  constructor
  · intro h
    refine ⟨by rw [h], ?_⟩
    rw [← List.drop_drop, ← List.drop_drop, h]
  · rintro ⟨h1, h2⟩
    rw [← List.take_append_drop k (xs.drop o), ← List.take_append_drop k (ys.drop o), h1, List.drop_drop, List.drop_drop, h2]
theorem kinds_sub (xs : List Value) (o k : Nat) : ((xs.drop o).take k).map kOf = ((xs.map kOf).drop o).take k := by rw [List.map_take, List.map_drop]
theorem kEq_word {x : Value} (h : kEq [kOf x] (some false) = true) : ∃ n : Int, x = .int .u64 n := by
  cases x with
  | int k n => cases k <;> first | exact ⟨n, rfl⟩ | cases h
  | bool b => cases h
  | _ => cases h
theorem kEq_bool {x : Value} (h : kEq [kOf x] (some true) = true) : ∃ b : Bool, x = .bool b := by
  cases x with
  | int k n => cases k <;> cases h
  | bool b => exact ⟨b, rfl⟩
  | _ => cases h
open Classical in
/-- equal just if the words are -/
theorem cmp_run {P : Program} : ∀ {d t n : Nat}, cmpN P d t = some n → ∀ (D : Nat), d ≤ D → ∀ (xs ys : List Value) (w : World), xs.length = n → ys.length = n → fitK P d t (xs.map kOf) = true → fitK P d t (ys.map kOf) = true →
    (Op.equalIn D t (pvl (aggT P t) xs) (pvl (aggT P t) ys)).run P w = .ok (decide (xs = ys)) w
  | 0, t, n, h => by cases h
  | d + 1, t, n, h => by
    intro D hD xs ys w hx hy wx wy
    match D, hD with
    | D + 1, hD =>
    have hd : d ≤ D := by omega
    unfold cmpN at h
    unfold fitK at wx wy
    split at h
    · rename_i hu
      rw [hu] at wx wy
      cases hb : is1 P t 1 <;> rw [hb] at h
      · cases h
      · cases h
        have ha : aggT P t = false := by unfold aggT; rw [hu]
        rw [ha]
        match xs, ys, hx, hy with
        | [x], [y], _, _ =>
          obtain ⟨a, rfl⟩ := kEq_word wx
          obtain ⟨b, rfl⟩ := kEq_word wy
          refine (run_equalIn_int w D t .u64 .u64 a b hu).trans ?_
          congr 1
          by_cases e : a = b <;> simp [e]
    · rename_i hu
      rw [hu] at wx wy
      cases hb : is1 P t 1 <;> rw [hb] at h
      · cases h
      · cases h
        have ha : aggT P t = false := by unfold aggT; rw [hu]
        rw [ha]
        match xs, ys, hx, hy with
        | [x], [y], _, _ =>
          obtain ⟨a, rfl⟩ := kEq_bool wx
          obtain ⟨b, rfl⟩ := kEq_bool wy
          refine (run_equalIn_bool w D t a b hu).trans ?_
          congr 1
          by_cases e : a = b <;> simp [e]
    · rename_i len e hu
      split at h
      · rename_i k hk
        cases hb : (is1 P e k && is1 P t (len * k)) <;> rw [hb] at h
        · cases h
        · cases h
          rw [Bool.and_eq_true] at hb
          have ha : aggT P t = true := by unfold aggT; rw [hu]
          rw [ha]
          refine (run_equalIn_array w D t len e k _ _ hu (is1_spec hb.1)).trans ?_
          obtain ⟨p1, p2, p3⟩ := cmpN_pos hk
          rw [hu] at wx wy
          simp only [hk] at wx wy
          have key : ∀ (c i : Nat) (w : World), i + c = len → (eqElems D e k xs.toArray ys.toArray i c).run P w = .ok (decide (xs.drop (i * k) = ys.drop (i * k))) w := by
            intro c
            induction c with
            | zero =>
              intro i w hi
              have hi' : i = len := by omega
              subst hi'
              have h1 : xs.length ≤ i * k := by omega
              have h2 : ys.length ≤ i * k := by omega
              simp [eqElems, List.drop_of_length_le h1, List.drop_of_length_le h2]
            | succ c ih =>
              intro i w hi
              have hle : i * k + k ≤ len * k := by
                have := Nat.mul_le_mul_right k (show i + 1 ≤ len by omega)
                rw [Nat.add_mul, Nat.one_mul] at this
                exact this
              unfold eqElems
              simp only [Sem.run_bind, part_any p1 p2 p3 xs (i * k) (by omega), part_any p1 p2 p3 ys (i * k) (by omega), Result.andThen_ok]
              rw [cmp_run hk D hd ((xs.drop (i * k)).take k) ((ys.drop (i * k)).take k) w (by simp; omega) (by simp; omega) (by rw [kinds_sub]; exact allN_spec wx i (by omega)) (by rw [kinds_sub]; exact allN_spec wy i (by omega))]
              simp only [Result.andThen_ok]
              have hs := take_drop_eq (xs := xs) (ys := ys) (o := i * k) (k := k)
              rw [show i * k + k = (i + 1) * k by rw [Nat.add_mul, Nat.one_mul]] at hs
              by_cases q : (xs.drop (i * k)).take k = (ys.drop (i * k)).take k
              · rw [decide_eq_true q]
                simp only [Bool.not_true, Bool.false_eq_true, if_false]
                rw [ih (i + 1) w (by omega)]
                congr 1
                rw [decide_eq_decide]
                exact ⟨fun h => hs.2 ⟨q, h⟩, fun h => (hs.1 h).2⟩
              · rw [decide_eq_false q, decide_eq_false (fun h => q (hs.1 h).1)]
                simp
          have := key len 0 w (by omega)
          rw [Nat.zero_mul, List.drop_zero, List.drop_zero] at this
          exact this
      · cases h
    · rename_i fs hu
      split at h
      · rename_i m hm
        cases hb : (is1 P t m && !(P.stoodInHeld t)) <;> rw [hb] at h
        · cases h
        · cases h
          rw [Bool.and_eq_true, Bool.not_eq_true'] at hb
          have ha : aggT P t = true := by unfold aggT; rw [hu]
          rw [ha]
          have hf : P.fieldsOf t = fs := by simp [Program.fieldsOf, hu]
          refine (run_equalIn_struct w D t xs.toArray ys.toArray (by rw [hf]; exact hu) hb.2).trans ?_
          rw [hf]
          rw [hu] at wx wy
          have key : ∀ (l : List Field) (o m : Nat) (w : World), fitFs P (cmpN P d) (fitK P d) (xs.map kOf) o l = true → fitFs P (cmpN P d) (fitK P d) (ys.map kOf) o l = true → cmpFs P (cmpN P d) o l = some m → m ≤ xs.length → xs.length = ys.length → o ≤ m ∧ (Op.eqFields D xs.toArray ys.toArray l).run P w = .ok (decide ((xs.drop o).take (m - o) = (ys.drop o).take (m - o))) w := by
            intro l
            induction l with
            | nil =>
              intro o m w _ _ h1 h2 h3
              cases h1
              simp [Op.eqFields]
            | cons f r ih =>
              intro o m w vx vy h1 h2 h3
              unfold cmpFs at h1
              unfold fitFs at vx vy
              split at h1
              · rename_i k hk
                simp only [hk] at vx vy
                rw [Bool.and_eq_true] at vx vy
                cases hc : ((f.name != "_") && (Nat.beq f.offset o && is1 P f.type k)) <;> rw [hc] at h1
                · cases h1
                · simp only [cond_true] at h1
                  rw [Bool.and_eq_true, Bool.and_eq_true] at hc
                  obtain ⟨c1, c2, c3⟩ := hc
                  have ho := Nat.eq_of_beq_eq_true c2
                  obtain ⟨g1, g2⟩ := ih (o + k) m w vx.2 vy.2 h1 h2 h3
                  refine ⟨by omega, ?_⟩
                  obtain ⟨p1, p2, p3⟩ := cmpN_pos hk
                  unfold Op.eqFields
                  rw [if_pos (by simpa using c1), ho]
                  simp only [Sem.run_bind, part_any p1 p2 p3 xs o (by omega), part_any p1 p2 p3 ys o (by omega), Result.andThen_ok]
                  rw [cmp_run hk D hd ((xs.drop o).take k) ((ys.drop o).take k) w (by simp; omega) (by simp; omega) (by rw [kinds_sub]; exact vx.1) (by rw [kinds_sub]; exact vy.1)]
                  simp only [Result.andThen_ok]
                  have hs : ((xs.drop o).take (m - o) = (ys.drop o).take (m - o)) ↔ ((xs.drop o).take k = (ys.drop o).take k ∧ (xs.drop (o + k)).take (m - (o + k)) = (ys.drop (o + k)).take (m - (o + k))) := by
                    have e : m - o = k + (m - (o + k)) := by omega
                    rw [e, List.take_add, List.take_add, List.drop_drop, List.drop_drop]
                    constructor
                    · intro h
                      exact List.append_inj h (by simp; omega)
                    · rintro ⟨a, b⟩
                      rw [a, b]
                  by_cases q : (xs.drop o).take k = (ys.drop o).take k
                  · rw [decide_eq_true q]
                    simp only [Bool.not_true, Bool.false_eq_true, if_false]
                    rw [g2]
                    congr 1
                    rw [decide_eq_decide]
                    exact ⟨fun h => hs.2 ⟨q, h⟩, fun h => (hs.1 h).2⟩
                  · rw [decide_eq_false q, decide_eq_false (fun h => q (hs.1 h).1)]
                    simp
              · cases h1
          have := (key fs.toList 0 _ w wx wy hm (by omega) (by omega)).2
          rw [Nat.sub_zero, List.drop_zero, List.drop_zero, List.take_of_length_le (by omega), List.take_of_length_le (by omega)] at this
          exact this
      · cases h
    · cases h
def gq (P : Program) (t : Nat) : Option Nat := match cmpN P 9 t with
  | some n => bif aggT P t && !(P.eqGuardType P.depth t) then some n else none
  | none => none
/-- all types of words may be held against each other -/
def qG (P : Program) : EqT := { q := gq P, n := gq P, fit := fun t l => fitK P 9 t (kAs l) }
open Classical in
theorem qG_ok (P : Program) : EqOk P (qG P) := by
  have h0 : ∀ t n, gq P t = some n → P.eqGuardType P.depth t = false ∧ ∀ (l m : List At) (w : World), fsz l = n → fsz m = n → fitK P 9 t (kAs l) = true → fitK P 9 t (kAs m) = true → (Op.equalIn 10000 t (.agg (flat l).toArray) (.agg (flat m).toArray)).run P w = .ok (decide (flat l = flat m)) w := by
    intro t n h
    unfold gq at h
    split at h
    · rename_i k hk
      cases hb : (aggT P t && !(P.eqGuardType P.depth t)) <;> rw [hb] at h
      · cases h
      · cases h
        rw [Bool.and_eq_true, Bool.not_eq_true'] at hb
        refine ⟨hb.2, fun l m w h1 h2 h3 h4 => ?_⟩
        have := cmp_run hk 10000 (by omega) (flat l) (flat m) w (by rw [flat_len, h1]) (by rw [flat_len, h2]) (by rw [kAs_spec]; exact h3) (by rw [kAs_spec]; exact h4)
        rw [hb.1] at this
        exact this
    · cases h
  refine ⟨⟨fun t n h => ?_, fun t n h => ?_⟩, rfl⟩
  · obtain ⟨h1, h2⟩ := h0 t n h
    exact ⟨h1, fun l w hl hn => by rw [h2 l l w hl hl hn hn, decide_eq_true rfl]⟩
  · obtain ⟨h1, h2⟩ := h0 t n h
    exact ⟨h1, fun l m w hl hm hn hn' hne => by rw [h2 l m w hl hm hn hn', decide_eq_false hne]⟩
end Go.Proofs.YtalcpnkkbimojaaDoor.Ex
namespace Go.Proofs.YtalcpnkkbimojaaDoor.Ex
set_option linter.unusedVariables false
set_option linter.unusedSimpArgs false
open Go.RowKit

/-- what lay in memory at the start -/
def oldOf (w : World) (b o : Nat) (l : List At) : Prop := b < w.heap.size ∧ w.rangeAt b o (flat l)
theorem below_range {base : Nat} {w w' : World} (h : Below base w w') {b o : Nat} {l : List Value} (hb : b < base) (hr : w.rangeAt b o l) : w'.rangeAt b o l := fun j v hj => by
  rw [h.cell hb]
  exact hr j v hj
abbrev Tab2 := Nat → List CA → Option (List Prop × FR)
def Fr0 : Tab2 := fun _ _ => none
def FrOk (P : Program) (T : Tab2) : Prop := ∀ f cs pre r, T f cs = some (pre, r) → allP pre →
  (∀ args w, (callFunc f args).run P w = .ok (.enter f args) w) ∧ ∀ (args : List Value) (w : World), CAs w cs args → Calls P f args.toArray w (fun e w' => r.ok w e w')
def Tab2.add (T : Tab2) (f : Nat) (g : List CA → Option (List Prop × FR)) : Tab2 := fun f' cs => bif Nat.beq f' f then g cs else T f' cs
theorem FrOk.add {P : Program} {T : Tab2} (hT : FrOk P T) {f : Nat} {fn : Func} (hf : P.funcs[f]? = some fn) (hn : (fn.name == "runtime.NumGoroutine") = false) (hb : fn.body.isNone = false) {g : List CA → Option (List Prop × FR)}
    (h : ∀ cs pre r, g cs = some (pre, r) → allP pre → ∀ (args : List Value) (w : World), CAs w cs args → Calls P f args.toArray w (fun e w' => r.ok w e w')) : FrOk P (T.add f g) := by
  intro f' cs pre r hg hp
  unfold Tab2.add at hg
  cases hb' : Nat.beq f' f <;> rw [hb'] at hg
  · exact hT f' cs pre r hg hp
  · cases Nat.eq_of_beq_eq_true hb'
    exact ⟨callable hf hn hb, h cs pre r hg hp⟩
abbrev Tab3 := Nat → List CA → Option (List Prop × FS)
abbrev Tab4 := Nat → List CA → Option (List Prop × Nat × List At)
def FsOk (P : Program) (T : Tab3) : Prop := ∀ f cs pre r, T f cs = some (pre, r) → allP pre →
  (∀ args w, (callFunc f args).run P w = .ok (.enter f args) w) ∧ ∀ (args : List Value) (w : World), CAs w cs args → Calls P f args.toArray w (fun e w' => r.ok w e w')
def WrOk (P : Program) (T : Tab4) : Prop := ∀ f cs pre j l, T f cs = some (pre, j, l) → allP pre →
  (∀ args w, (callFunc f args).run P w = .ok (.enter f args) w) ∧ ∀ (args : List Value) (w : World), CAs w cs args → ∀ b o n m, args[j]? = some (.slice (some ⟨b, o, none⟩) n m) → (∀ q, w.frozen? ⟨b, q, none⟩ = false) →
    Calls P f args.toArray w (fun e w' => e = .returned (.slice (some ⟨b, o, none⟩) n m) ∧ WrAt w w' b l ∧ w'.rangeAt b o (flat l))
abbrev Tab5 := Nat → List CA → Option (List Prop × Nat × RV × List At)
def PtOk (P : Program) (T : Tab5) : Prop := ∀ f cs pre j r l, T f cs = some (pre, j, r, l) → allP pre →
  (∀ args w, (callFunc f args).run P w = .ok (.enter f args) w) ∧ ∀ (args : List Value) (w : World), CAs w cs args → ∀ b o, args[j]? = some (.pointer (some ⟨b, o, none⟩)) → (∀ q, w.frozen? ⟨b, q, none⟩ = false) →
    Calls P f args.toArray w (fun e w' => e = .returned r.den ∧ WrC w w' b ∧ w'.rangeAt b 0 (flat l))
def Pt0 : Tab5 := fun _ _ => none
theorem Pt0_ok (P : Program) : PtOk P Pt0 := fun _ _ _ _ _ _ h => by cases h
def Tab5.add (T : Tab5) (f : Nat) (g : List CA → Option (List Prop × Nat × RV × List At)) : Tab5 := fun f' cs => bif Nat.beq f' f then g cs else T f' cs
theorem PtOk.add {P : Program} {T : Tab5} (hT : PtOk P T) {f : Nat} {fn : Func} (hf : P.funcs[f]? = some fn) (hn : (fn.name == "runtime.NumGoroutine") = false) (hb : fn.body.isNone = false) {g : List CA → Option (List Prop × Nat × RV × List At)}
    (h : ∀ cs pre j r l, g cs = some (pre, j, r, l) → allP pre → ∀ (args : List Value) (w : World), CAs w cs args → ∀ b o, args[j]? = some (.pointer (some ⟨b, o, none⟩)) → (∀ q, w.frozen? ⟨b, q, none⟩ = false) →
      Calls P f args.toArray w (fun e w' => e = .returned r.den ∧ WrC w w' b ∧ w'.rangeAt b 0 (flat l))) : PtOk P (T.add f g) := by
  intro f' cs pre j r l hg hp
  unfold Tab5.add at hg
  cases hb' : Nat.beq f' f <;> rw [hb'] at hg
  · exact hT f' cs pre j r l hg hp
  · cases Nat.eq_of_beq_eq_true hb'
    exact ⟨callable hf hn hb, h cs pre j r l hg hp⟩
/-- calls that write one block: the table is right -/
abbrev Tab6 := Nat → Nat → List At → List CB → Option (List Prop × RV × List At)
def Wrote (b : Nat) (w : World) (r : RV) (l : List At) (e : Ending) (w' : World) : Prop := e = .returned r.den ∧ WrC w w' b ∧ w'.rangeAt b 0 (flat l)
def PbOk (P : Program) (T : Tab6) : Prop := ∀ f b row cs pre r l, T f b row cs = some (pre, r, l) → allP pre → (∀ args w, (callFunc f args).run P w = .ok (.enter f args) w) ∧
  ∀ (args : List Value) (w : World), b < w.heap.size → w.rangeAt b 0 (flat row) → (∀ q, w.frozen? ⟨b, q, none⟩ = false) → CBs w b cs args → Calls P f args.toArray w (Wrote b w r l)
def Pb0 : Tab6 := fun _ _ _ _ => none
theorem Pb0_ok (P : Program) : PbOk P Pb0 := fun _ _ _ _ _ _ _ h => by cases h
def Tab6.add (T : Tab6) (f : Nat) (g : Nat → List At → List CB → Option (List Prop × RV × List At)) : Tab6 := fun f' b row cs => bif Nat.beq f' f then g b row cs else T f' b row cs
theorem PbOk.add {P : Program} {T : Tab6} (hT : PbOk P T) {f : Nat} {fn : Func} (hf : P.funcs[f]? = some fn) (hn : (fn.name == "runtime.NumGoroutine") = false) (hb : fn.body.isNone = false) {g : Nat → List At → List CB → Option (List Prop × RV × List At)}
    (h : ∀ b row cs pre r l, g b row cs = some (pre, r, l) → allP pre → ∀ (args : List Value) (w : World), b < w.heap.size → w.rangeAt b 0 (flat row) → (∀ q, w.frozen? ⟨b, q, none⟩ = false) → CBs w b cs args → Calls P f args.toArray w (Wrote b w r l)) : PbOk P (T.add f g) := by
  intro f' b row cs pre r l hg hp
  unfold Tab6.add at hg
  cases hb' : Nat.beq f' f <;> rw [hb'] at hg
  · exact hT f' b row cs pre r l hg hp
  · cases Nat.eq_of_beq_eq_true hb'
    exact ⟨callable hf hn hb, h b row cs pre r l hg hp⟩
def Fs0 : Tab3 := fun _ _ => none
def Wr0 : Tab4 := fun _ _ => none
theorem Wr0_ok (P : Program) : WrOk P Wr0 := fun _ _ _ _ _ h => by cases h
def Tab3.add (T : Tab3) (f : Nat) (g : List CA → Option (List Prop × FS)) : Tab3 := fun f' cs => bif Nat.beq f' f then g cs else T f' cs
def Tab4.add (T : Tab4) (f : Nat) (g : List CA → Option (List Prop × Nat × List At)) : Tab4 := fun f' cs => bif Nat.beq f' f then g cs else T f' cs
theorem FsOk.add {P : Program} {T : Tab3} (hT : FsOk P T) {f : Nat} {fn : Func} (hf : P.funcs[f]? = some fn) (hn : (fn.name == "runtime.NumGoroutine") = false) (hb : fn.body.isNone = false) {g : List CA → Option (List Prop × FS)}
    (h : ∀ cs pre r, g cs = some (pre, r) → allP pre → ∀ (args : List Value) (w : World), CAs w cs args → Calls P f args.toArray w (fun e w' => r.ok w e w')) : FsOk P (T.add f g) := by
  intro f' cs pre r hg hp
  unfold Tab3.add at hg
  cases hb' : Nat.beq f' f <;> rw [hb'] at hg
  · exact hT f' cs pre r hg hp
  · cases Nat.eq_of_beq_eq_true hb'
    exact ⟨callable hf hn hb, h cs pre r hg hp⟩
theorem WrOk.add {P : Program} {T : Tab4} (hT : WrOk P T) {f : Nat} {fn : Func} (hf : P.funcs[f]? = some fn) (hn : (fn.name == "runtime.NumGoroutine") = false) (hb : fn.body.isNone = false) {g : List CA → Option (List Prop × Nat × List At)}
    (h : ∀ cs pre j l, g cs = some (pre, j, l) → allP pre → ∀ (args : List Value) (w : World), CAs w cs args → ∀ b o n m, args[j]? = some (.slice (some ⟨b, o, none⟩) n m) → (∀ q, w.frozen? ⟨b, q, none⟩ = false) →
      Calls P f args.toArray w (fun e w' => e = .returned (.slice (some ⟨b, o, none⟩) n m) ∧ WrAt w w' b l ∧ w'.rangeAt b o (flat l))) : WrOk P (T.add f g) := by
  intro f' cs pre j l hg hp
  unfold Tab4.add at hg
  cases hb' : Nat.beq f' f <;> rw [hb'] at hg
  · exact hT f' cs pre j l hg hp
  · cases Nat.eq_of_beq_eq_true hb'
    exact ⟨callable hf hn hb, h cs pre j l hg hp⟩
/-- answers of fresh slices: right in a world -/
def FrAt (P : Program) (T : Tab2) (w : World) : Prop := ∀ f cs pre r, T f cs = some (pre, r) → allP pre → (∀ args w, (callFunc f args).run P w = .ok (.enter f args) w) ∧ ∀ (args : List Value), CAs w cs args → Calls P f args.toArray w (fun e w' => r.ok w e w')
def FsAt (P : Program) (T : Tab3) (w : World) : Prop := ∀ f cs pre r, T f cs = some (pre, r) → allP pre → (∀ args w, (callFunc f args).run P w = .ok (.enter f args) w) ∧ ∀ (args : List Value), CAs w cs args → Calls P f args.toArray w (fun e w' => r.ok w e w')
theorem FrAt.none (P : Program) (w : World) : FrAt P Fr0 w := fun _ _ _ _ h => by cases h
theorem FsAt.none (P : Program) (w : World) : FsAt P Fs0 w := fun _ _ _ _ h => by cases h
theorem FrAt.add {P : Program} {T : Tab2} {w : World} (hT : FrAt P T w) {f : Nat} {fn : Func} (hf : P.funcs[f]? = some fn) (hn : (fn.name == "runtime.NumGoroutine") = false) (hb : fn.body.isNone = false) {g : List CA → Option (List Prop × FR)}
    (h : ∀ cs pre r, g cs = some (pre, r) → allP pre → ∀ (args : List Value), CAs w cs args → Calls P f args.toArray w (fun e w' => r.ok w e w')) : FrAt P (T.add f g) w := by
  intro f' cs pre r hg hp
  unfold Tab2.add at hg
  cases hb' : Nat.beq f' f <;> rw [hb'] at hg
  · exact hT f' cs pre r hg hp
  · cases Nat.eq_of_beq_eq_true hb'
    exact ⟨callable hf hn hb, h cs pre r hg hp⟩
theorem FsAt.add {P : Program} {T : Tab3} {w : World} (hT : FsAt P T w) {f : Nat} {fn : Func} (hf : P.funcs[f]? = some fn) (hn : (fn.name == "runtime.NumGoroutine") = false) (hb : fn.body.isNone = false) {g : List CA → Option (List Prop × FS)}
    (h : ∀ cs pre r, g cs = some (pre, r) → allP pre → ∀ (args : List Value), CAs w cs args → Calls P f args.toArray w (fun e w' => r.ok w e w')) : FsAt P (T.add f g) w := by
  intro f' cs pre r hg hp
  unfold Tab3.add at hg
  cases hb' : Nat.beq f' f <;> rw [hb'] at hg
  · exact hT f' cs pre r hg hp
  · cases Nat.eq_of_beq_eq_true hb'
    exact ⟨callable hf hn hb, h cs pre r hg hp⟩
/-- what else is told, right from a world on -/
theorem extW_ok {P : Program} {x : Ext} {base : Nat} {w : World} (ho : ∀ b o l, x.old b o l → b < base ∧ w.rangeAt b o (flat l)) (h2 : ∀ w', Below base w w' → FrAt P x.T2 w') (h3 : ∀ w', Below base w w' → FsAt P x.T3 w') (h4 : WrOk P x.T4 := by exact Wr0_ok _) (h5 : PtOk P x.T5 := by exact Pt0_ok _) (h6 : PbOk P x.T6 := by exact Pb0_ok _) : ExtOk P x base w := fun w' hb =>
  ⟨fun b o l h => below_range hb (ho b o l h).1 (ho b o l h).2, h2 w' hb, h3 w' hb, fun f cs pre j l hg hp => ⟨(h4 f cs pre j l hg hp).1, fun args ha => (h4 f cs pre j l hg hp).2 args w' ha⟩, fun f cs pre j r l hg hp => ⟨(h5 f cs pre j r l hg hp).1, fun args ha => (h5 f cs pre j r l hg hp).2 args w' ha⟩, fun f b row cs pre r l hg hp => ⟨(h6 f b row cs pre r l hg hp).1, fun args => (h6 f b row cs pre r l hg hp).2 args w'⟩⟩
/-- a block of the call's own has a number -/
theorem Holds.at {nt base : Nat} {w0 : World} {A : List Fact} {a : Act} {w : World} (h : Holds nt base w0 A a w) {k : Nat} {l : List At} (hk : Fact.row k true l ∈ A) : ∃ b, Holds nt base w0 (.at k b :: A) a w := by
  obtain ⟨β, h1, h2, h3⟩ := h.facts
  obtain ⟨_, _, g3, _⟩ := h1 _ hk
  have up : ∀ k1 o1 l1, Fact.row k1 o1 l1 ∈ (Fact.at k (β k).1 :: A) → Fact.row k1 o1 l1 ∈ A := fun k1 o1 l1 e => by
    rcases List.mem_cons.1 e with e | e
    · cases e
    · exact e
  refine ⟨(β k).1, h.defers, h.size, h.below, h.heap, β, fun φ hφ => ?_, fun k1 k2 o2 l1 l2 e1 e2 => h2 k1 k2 o2 l1 l2 (up _ _ _ e1) (up _ _ _ e2), fun k1 l1 e => h3.1 k1 l1 (up _ _ _ e), h3.2⟩
  rcases List.mem_cons.1 hφ with rfl | hφ
  · exact ⟨rfl, (g3 rfl).2.1⟩
  · exact h1 φ hφ
end Go.Proofs.YtalcpnkkbimojaaDoor.Ex
namespace Go.Proofs.YtalcpnkkbimojaaDoor.Ex
set_option linter.unusedVariables false
set_option linter.unusedSimpArgs false
open Go.RowKit

/-- code leads from the facts A to the facts L -/
def Ok (P : Program) (base : Nat) (w0 : World) (nt : Nat) (c : Code) (A : List Fact) (e : EA) (L : List Fact) : Prop :=
  ∃ q C f ps, EqOkW P q base w0 ∧ (∀ n d, TabOkW P ((C n).T d) base w0) ∧ runK P q nt C f c A L = some (ps, e, L) ∧ allP ps
section
variable {P : Program} {nt base : Nat} {w0 : World} {Q : Exit → Act → World → Prop}
theorem Ok.wp (hm : P.follows .mixedOrders = true) {c : Code} {A L : List Fact} {e : EA} (h : Ok P base w0 nt c A e L) {a : Act} {w : World} (hA : Holds nt base w0 A a w) (hQ : ∀ a w, Holds nt base w0 L a w → Q e.out a w) : c.wp P Q a w := by
  obtain ⟨q, C, f, ps, h1, h2, h3, h4⟩ := h
  exact runKW_sound hm h2 h1 h3 h4 hA hQ
end
theorem TabOkW.add {P : Program} {T : Tab} {base : Nat} {w0 : World} (hT : TabOkW P T base w0) {f : Nat} {fn : Func} (hf : P.funcs[f]? = some fn) (hn : (fn.name == "runtime.NumGoroutine") = false) (hb : fn.body.isNone = false) {g : List CA → Option (List Prop × RV)}
    (h : ∀ w, Below base w0 w → ∀ cs pre r, g cs = some (pre, r) → allP pre → ∀ (args : List Value), CAs w cs args → Calls P f args.toArray w (fun e w' => e = .returned r.den ∧ Below w.heap.size w w')) : TabOkW P (T.add f g) base w0 := by
  intro w hw f' cs pre r hg hp
  unfold Tab.add at hg
  cases hb' : Nat.beq f' f <;> rw [hb'] at hg
  · exact hT w hw f' cs pre r hg hp
  · cases Nat.eq_of_beq_eq_true hb'
    exact ⟨callable hf hn hb, h w hw cs pre r hg hp⟩
theorem oldOf.go {base : Nat} {w0 w : World} (hb : Below base w0 w) (hbase : base ≤ w0.heap.size) {b o : Nat} {l : List At} (h : b < base ∧ w0.rangeAt b o (flat l)) : oldOf w b o l :=
  ⟨Nat.lt_of_lt_of_le h.1 (Nat.le_trans hbase hb.size), below_range hb h.1 h.2⟩
def assoc {α : Type} : List (Nat × α) → Nat → Option α
  | [], _ => none
  | (k, v) :: r, s => bif Nat.beq k s then some v else assoc r s
def iI (n : Nat) : Value := .int .i64 (Int.ofNat n)
def slV (b o n m : Nat) : Value := .slice (some ⟨b, o, none⟩) n m
def ptV (b o : Nat) : Value := .pointer (some ⟨b, o, none⟩)
theorem i64_in' {n : Nat} (h : n < 9223372036854775808) : IntKind.i64.wrap (n : Int) = n := by rw [IntKind.wrap_i64]; omega
theorem o_lss {i n : Nat} : intOp .lss .i64 (Int.ofNat i) (Int.ofNat n) = some (.bool (decide (i < n))) := by
  show some (Value.bool (decide ((i : Int) < (n : Int)))) = _
  by_cases h : i < n
  · rw [decide_eq_true h, decide_eq_true (by omega)]
  · rw [decide_eq_false h, decide_eq_false (by omega)]
theorem o_lss_t {i n : Nat} (h : i < n) : intOp .lss .i64 (Int.ofNat i) (Int.ofNat n) = some (.bool true) := by rw [o_lss, decide_eq_true h]
theorem o_lss_f {i n : Nat} (h : n ≤ i) : intOp .lss .i64 (Int.ofNat i) (Int.ofNat n) = some (.bool false) := by rw [o_lss, decide_eq_false (by omega)]
theorem o_add {i k : Nat} (h : i + k < 9223372036854775808) : intOp .add .i64 (Int.ofNat i) (Int.ofNat k) = some (iI (i + k)) := by
  show some (Value.int .i64 (IntKind.i64.wrap ((i : Int) + (k : Int)))) = _
  rw [show (i : Int) + (k : Int) = ((i + k : Nat) : Int) by omega, i64_in' h]
  rfl
theorem o_sub {i k : Nat} (h : k ≤ i) (hi : i < 9223372036854775808) : intOp .sub .i64 (Int.ofNat i) (Int.ofNat k) = some (iI (i - k)) := by
  show some (Value.int .i64 (IntKind.i64.wrap ((i : Int) - (k : Int)))) = _
  rw [show (i : Int) - (k : Int) = ((i - k : Nat) : Int) by omega, i64_in' (by omega)]
  rfl
theorem o_quo {i k : Nat} (hk : 0 < k) (h : i < 9223372036854775808) : intOp .quo .i64 (Int.ofNat i) (Int.ofNat k) = some (iI (i / k)) := by
  show (if (k : Int) = 0 then none else some (Value.int .i64 (IntKind.i64.wrap ((i : Int).tdiv (k : Int))))) = _
  rw [if_neg (by omega), show (i : Int).tdiv (k : Int) = ((i / k : Nat) : Int) from rfl, i64_in' (Nat.lt_of_le_of_lt (Nat.div_le_self _ _) h)]
  rfl
end Go.Proofs.YtalcpnkkbimojaaDoor.Ex
namespace Go.Proofs.YtalcpnkkbimojaaDoor.Ex
set_option linter.unusedVariables false
set_option linter.unusedSimpArgs false
open Go.RowKit

section
variable {E : Env} {ops big : Array Oper} {base : Nat} {w0 : World} {A A' : List Fact} {TF : List (Option Nat × Fact)} {rs : List Rec} {ps : List Prop} {Q : Exit → Act → World → Prop}
theorem seq_part {off : Nat} {R : List Nat} (hT : ∀ d, TabOkW E.P (E.T d) base w0) (hq : EqOkW E.P E.q base w0) (hrun : runR E false ops ops.toList 0 (A.map fun φ => (none, φ)) [] [] = some (ps, TF, rs)) (hps : allP ps) (hchk : chk false ops rs = true)
    (hsub : ∀ i, i < ops.size → big[off + i]? = ops[i]?) (hg : ∀ (i : Nat) (o : Oper), ops[i]? = some o → o.guard = none)
    (hQ : ∀ a w, Inv E false ops base w0 TF rs (fun i => i < ops.size) a w → wpOps E.P big Q R a w) :
    ∀ (m k : Nat) (a : Act) (w : World), k + m = ops.size → Inv E false ops base w0 TF rs (fun i => i < k) a w → wpOps E.P big Q (List.range' (off + k) m ++ R) a w
  | 0, k, a, w, hk, hI => by
    have : k = ops.size := by omega
    subst this
    exact hQ a w hI
  | m + 1, k, a, w, hk, hI => by
    have hlt : k < ops.size := by omega
    have ho : ops[k]? = some ops[k] := Array.getElem?_eq_getElem hlt
    have hst := step_inv hT hq hrun hps hchk (Q := Q) hI ho (Nat.lt_irrefl k) (fun j hj => by unfold dep at hj; simpa using hj)
    have hgk := hg k _ ho
    have hw1 : ∀ y, Region.wanted ops[k] y = true := fun y => by unfold Region.wanted; rw [hgk]
    rw [if_pos (hw1 _)] at hst
    simp only [List.range'_succ, List.cons_append, wpOps]
    rw [hsub k hlt, ho]
    simp only
    have hnext : ∀ a' w', Inv E false ops base w0 TF rs (fun j => j = k ∨ j < k) a' w' → wpOps E.P big Q (List.range' (off + k + 1) m ++ R) a' w' := fun a' w' h => by
      have := seq_part hT hq hrun hps hchk hsub hg hQ m (k + 1) a' w' (by omega) (by
        have : (fun j => j < k + 1) = fun j => j = k ∨ j < k := funext fun j => propext (by omega)
        rwa [this])
      rwa [← Nat.add_assoc] at this
    rw [if_pos (hw1 _)]
    exact Or.inl (Oper.wp_mono hnext hst)
/-- a part of a region's operations -/
theorem part_sound {off : Nat} {R : List Nat} (hT : ∀ d, TabOkW E.P (E.T d) base w0) (hq : EqOkW E.P E.q base w0) (h : regA E false ops A = some (ps, A')) (hps : allP ps)
    (hsub : ∀ i, i < ops.size → big[off + i]? = ops[i]?) (hg : ops.toList.all (fun o => o.guard.isNone) = true) {a : Act} {w : World} (hA : Holds E.nt base w0 A a w)
    (hQ : ∀ a w, Holds E.nt base w0 A' a w → wpOps E.P big Q R a w) : wpOps E.P big Q (List.range' off ops.size ++ R) a w := by
  unfold regA at h
  split at h
  · rename_i ps' TF rs hrun
    cases hc : (chk false ops rs && low false ops) <;> rw [hc] at h
    · cases h
    · cases h
      rw [Bool.and_eq_true] at hc
      have hg' : ∀ (i : Nat) (o : Oper), ops[i]? = some o → o.guard = none := fun i o ho => by
        rw [List.all_eq_true] at hg
        have := hg o (Array.mem_toList_iff.2 (Array.mem_of_getElem? ho))
        simpa using this
      have := seq_part (off := off) (R := R) (Q := Q) hT hq hrun hps hc.1 hsub hg' (fun a w hI => hQ a w (end_inv hrun (fun _ h => h) hI)) ops.size 0 a w (by omega) (by
        have : (fun i => i < 0) = fun _ : Nat => False := funext fun i => propext ⟨fun h => by omega, fun h => h.elim⟩
        rw [this]
        exact start_inv hrun hA)
      rwa [Nat.add_zero] at this
  · cases h
end
/-- a region's operations, and the facts at the places that K names -/
def regK (P : Program) (q : EqT) (nt : Nat) (c : Cfg) (ops : Array Oper) (A K : List Fact) : Option (List Prop × List Fact) :=
  match regA (mkE P q nt c) false ops A with
  | some (ps, A1) => match pick A1 K with | some L => some (ps, L) | none => none
  | none => none
theorem partK_sound {P : Program} {q : EqT} {nt base off : Nat} {c : Cfg} {w0 : World} {ops big : Array Oper} {A K L : List Fact} {ps : List Prop} {Q : Exit → Act → World → Prop} {R : List Nat} (hT : ∀ d, TabOkW P (c.T d) base w0) (hq : EqOkW P q base w0) (h : regK P q nt c ops A K = some (ps, L)) (hps : allP ps)
    (hsub : ∀ i, i < ops.size → big[off + i]? = ops[i]?) (hg : ops.toList.all (fun o => o.guard.isNone) = true) {a : Act} {w : World} (hA : Holds nt base w0 A a w)
    (hQ : ∀ a w, Holds nt base w0 L a w → wpOps P big Q R a w) : wpOps P big Q (List.range' off ops.size ++ R) a w := by
  unfold regK at h
  split at h
  · rename_i ps' A1 h1
    split at h
    · rename_i L' h2
      cases h
      exact part_sound (E := mkE P q nt c) hT hq h1 hps hsub hg hA fun a w hA1 => hQ a w (hA1.sub (pick_mem h2))
    · cases h
  · cases h
theorem partE_sound {P : Program} {q : EqT} {nt base s e : Nat} {c : Cfg} {w0 : World} {big : Array Oper} {A K L : List Fact} {ps : List Prop} {Q : Exit → Act → World → Prop} {R : List Nat} (hT : ∀ d, TabOkW P (c.T d) base w0) (hq : EqOkW P q base w0) (h : regK P q nt c (big.extract s e) A K = some (ps, L)) (hps : allP ps)
    (hg : (big.extract s e).toList.all (fun o => o.guard.isNone) = true) {a : Act} {w : World} (hA : Holds nt base w0 A a w)
    (hQ : ∀ a w, Holds nt base w0 L a w → wpOps P big Q R a w) : wpOps P big Q (List.range' s (big.extract s e).size ++ R) a w :=
  partK_sound hT hq h hps (fun i hi => by
    have hi' : i < min e big.size - s := by simpa using hi
    rw [Array.getElem?_extract, if_pos hi']) hg hA hQ
theorem wpOps_one {P : Program} {big : Array Oper} {Q : Exit → Act → World → Prop} {R : List Nat} {i : Nat} {o : Oper} (ho : big[i]? = some o) (hg : o.guard = none) {a : Act} {w : World} (h : o.wp P a w (fun a w => wpOps P big Q R a w) Q) : wpOps P big Q (i :: R) a w := by
  simp only [wpOps]
  rw [ho]
  simp only
  have hw : ∀ y, Region.wanted o y = true := fun y => by unfold Region.wanted; rw [hg]
  rw [if_pos (hw _)]
  exact Or.inl h
def opsOf : Code → Array Oper
  | .region _ ops _ => ops
  | _ => #[]
section
variable {P : Program} {nt base : Nat} {w0 : World} {A : List Fact} {a : Act} {w : World}
/-- a slice by its block's number -/
theorem Holds.im (h : Holds nt base w0 A a w) {s k o n m b : Nat} (h1 : Fact.slot s (.sl k o n m) ∈ A) (h2 : Fact.at k b ∈ A) : Holds nt base w0 (.slot s (.im (slV b o n m)) :: A) a w := by
  obtain ⟨β, g1, g2, g3⟩ := h.facts
  have e1 := g1 _ h1
  have e2 := g1 _ h2
  simp only [Fact.ok] at e1 e2
  have up : ∀ k1 o1 l1, Fact.row k1 o1 l1 ∈ (Fact.slot s (.im (slV b o n m)) :: A) → Fact.row k1 o1 l1 ∈ A := fun k1 o1 l1 e => by
    rcases List.mem_cons.1 e with e | e
    · cases e
    · exact e
  refine ⟨h.defers, h.size, h.below, h.heap, β, fun φ hφ => ?_, fun k1 k2 o2 l1 l2 q1 q2 => g2 k1 k2 o2 l1 l2 (up _ _ _ q1) (up _ _ _ q2), fun k1 l1 e => g3.1 k1 l1 (up _ _ _ e), g3.2⟩
  rcases List.mem_cons.1 hφ with rfl | hφ
  · show a.tmps[s]? = _
    rw [e1]
    simp [AV.den, e2, slV]
  · exact g1 φ hφ
theorem Holds.old (h : Holds nt base w0 A a w) {k b : Nat} {l : List At} (h1 : Fact.row k true l ∈ A) (h2 : Fact.at k b ∈ A) : oldOf w b 0 l := by
  obtain ⟨β, g1, g2⟩ := h.facts
  obtain ⟨e1, e2, _⟩ := g1 _ h1
  have e3 := g1 _ h2
  simp only [Fact.ok] at e3
  rw [e3.1] at e1 e2
  rw [e3.2] at e2
  exact ⟨e1, e2⟩
theorem Holds.slot (h : Holds nt base w0 A a w) {s : Nat} {v : Value} (h1 : Fact.slot s (.im v) ∈ A) : a.tmps[s]? = some v := by
  obtain ⟨β, g1, g2⟩ := h.facts
  exact g1 _ h1
theorem Holds.slotF (h : Holds nt base w0 A a w) {s : Nat} {l : List At} (h1 : Fact.slot s (.fl l) ∈ A) : a.tmps[s]? = some (.agg (flat l).toArray) := by
  obtain ⟨β, g1, g2⟩ := h.facts
  exact g1 _ h1
/-- behind a call that leaves what was there -/
theorem Holds.put (h : Holds nt base w0 A a w) {w' : World} (hb : Below w.heap.size w w') {d : Nat} (hd : d < nt) (v : TV) (hA : ∀ φ ∈ A, clob (some d) none φ = false) : Holds nt base w0 (.slot d v.av :: A) (a.put (some d) v.den) w' := by
  obtain ⟨β, g1, g2, g3, gt⟩ := h.facts
  have hP := post_call (base := base) (β := β) (a := a) (w := w) (w' := w') (M := A) v.av (d := d) (by rw [h.size]; exact hd) h.heap hb
  rw [TV.av_den] at hP
  have up : ∀ k1 o1 l1, Fact.row k1 o1 l1 ∈ (Fact.slot d v.av :: A) → Fact.row k1 o1 l1 ∈ A := fun k1 o1 l1 e => by
    rcases List.mem_cons.1 e with e | e
    · cases e
    · exact e
  refine ⟨by rw [put_defers]; exact h.defers, by rw [put_size]; exact h.size, h.below.trans (hb.mono h.heap), Nat.le_trans h.heap hb.size, β, fun φ hφ => ?_, fun k1 k2 o2 l1 l2 q1 q2 => g2 k1 k2 o2 l1 l2 (up _ _ _ q1) (up _ _ _ q2), fun k1 l1 e => g3 k1 l1 (up _ _ _ e), Nat.le_trans gt.size hb.size, fun p h1 h2 => ?_, gt.shape.trans (Shape.below hb)⟩
  · rcases List.mem_cons.1 hφ with rfl | hφ
    · exact hP.ok _ (List.mem_singleton.2 rfl)
    · exact keep hP (g1 φ hφ) (hA φ hφ) fun kk k own l q => by cases q
  · have hlt := Nat.lt_of_lt_of_le h2 gt.size
    have := gt.mem p h1 h2
    exact ⟨(hb.cell hlt).trans this.1, (hb.frozen hlt).trans this.2⟩
theorem wp_call_at {o : Oper} {K : Act → World → Prop} {Q : Exit → Act → World → Prop} {id : Nat} {xs : Array Operand} {ts : Array TypeId} {vs : List Value} {v : Value} (ho : o.op = .call ⟨.value (.func id), xs, ts⟩) (hv : xs.toList.map a.eval = vs)
    (he : ∀ xs, (callFunc id xs).run P w = .ok (.enter id xs) w) (hc : Calls P id vs.toArray w (fun e w' => e = .returned v ∧ Below w.heap.size w w')) (hK : ∀ w', Below w.heap.size w w' → K (a.put o.dst v) w') : o.wp P a w K Q := by
  have ea : xs.map a.eval = vs.toArray := by rw [← Array.toArray_toList (xs := xs.map a.eval), Array.toList_map, hv]
  have hrun : (execOp a.eval o).run P w = .ok (.enter id vs.toArray) w := by
    have hf : a.eval (.func id) = .func (.func id) #[] #[] := rfl
    simp [execOp, ho, resolve, Deferred.ofValue, hf, invoke, ea, he]
  unfold Oper.wp
  rw [hrun]
  refine Calls.mono hc ?_
  rintro e w' ⟨rfl, hb⟩
  exact hK w' hb
end
/-- blocks, one after another -/
def cat (f : Nat → List At) : Nat → Nat → List At
  | _, 0 => []
  | s, n + 1 => f s ++ cat f (s + 1) n
theorem cat_snoc (f : Nat → List At) : ∀ n s, cat f s (n + 1) = cat f s n ++ f (s + n)
  | 0, s => by simp [cat]
  | n + 1, s => by
    have := cat_snoc f n (s + 1)
    show f s ++ cat f (s + 1) (n + 1) = (f s ++ cat f (s + 1) n) ++ f (s + (n + 1))
    rw [this, List.append_assoc, show s + 1 + n = s + (n + 1) by omega]
theorem cat_size {f : Nat → List At} {c : Nat} (h : ∀ j, fsz (f j) = c) : ∀ n s, fsz (cat f s n) = n * c
  | 0, s => by simp [cat, fsz]
  | n + 1, s => by
    show fsz (f s ++ cat f (s + 1) n) = _
    rw [fsz_append, h, cat_size h n, Nat.add_mul, Nat.one_mul, Nat.add_comm]
theorem cat_split (f : Nat → List At) : ∀ (i n s : Nat), i < n → cat f s n = cat f s i ++ (f (s + i) ++ cat f (s + i + 1) (n - i - 1))
  | 0, n + 1, s, _ => rfl
  | i + 1, n + 1, s, h => by
    have := cat_split f i n (s + 1) (by omega)
    show f s ++ cat f (s + 1) n = (f s ++ cat f (s + 1) i) ++ _
    rw [this, List.append_assoc, show s + 1 + i = s + (i + 1) by omega, show n + 1 - (i + 1) - 1 = n - i - 1 by omega]
theorem sz_pos (a : At) : 0 < a.sz := by cases a <;> exact Nat.succ_pos _
theorem tk_app : ∀ (A X : List At), tk (A ++ X) (fsz A) = some A
  | [], X => by cases X <;> rfl
  | a :: r, X => by
    have h := sz_pos a
    show tk (a :: (r ++ X)) (a.sz + fsz r) = _
    unfold tk
    rw [show Nat.beq (a.sz + fsz r) 0 = false by cases hq : Nat.beq (a.sz + fsz r) 0; rfl; exact absurd (Nat.eq_of_beq_eq_true hq) (by omega), show Nat.ble a.sz (a.sz + fsz r) = true by simp, Nat.add_sub_cancel_left, tk_app r X]
    rfl
theorem dp_app : ∀ (A X : List At), dp (A ++ X) (fsz A) = some X
  | [], X => by cases X <;> rfl
  | a :: r, X => by
    have h := sz_pos a
    show dp (a :: (r ++ X)) (a.sz + fsz r) = _
    unfold dp
    rw [show Nat.beq (a.sz + fsz r) 0 = false by cases hq : Nat.beq (a.sz + fsz r) 0; rfl; exact absurd (Nat.eq_of_beq_eq_true hq) (by omega), show Nat.ble a.sz (a.sz + fsz r) = true by simp, Nat.add_sub_cancel_left]
    exact dp_app r X
theorem seg_mid (A m s : List At) {o n : Nat} (ho : o = fsz A) (hn : n = fsz m) : seg (A ++ (m ++ s)) o n = some m := by
  subst ho; subst hn
  unfold seg
  rw [dp_app]
  exact tk_app m s
/-- one block read -/
theorem seg_cat {f : Nat → List At} {c N i o : Nat} (h : ∀ j, fsz (f j) = c) (hi : i < N) (ho : o = i * c) : seg (cat f 0 N) o c = some (f i) := by
  rw [cat_split f i N 0 hi, Nat.zero_add]
  exact seg_mid _ _ _ (by rw [cat_size h, ho]) (h i).symm
/-- the first i blocks are laid -/
def laid (f : Nat → List At) (z : List At) (N i : Nat) : List At := cat f 0 i ++ cat (fun _ => z) i (N - i)
/-- a part of what lies -/
theorem range_cat {w : World} {b o : Nat} {f : Nat → List At} {c N i : Nat} (h : ∀ j, fsz (f j) = c) (hi : i < N) (hr : w.rangeAt b o (flat (cat f 0 N))) : w.rangeAt b (o + i * c) (flat (f i)) :=
  range_seg hr (seg_cat h hi rfl)
/-- cells of one value -/
def Same (l : List Value) (v : Value) : Prop := l = List.replicate l.length v
theorem same_app {l m : List Value} {v : Value} (h : Same l v) (k : Same m v) : Same (l ++ m) v := by
  unfold Same at *
  rw [h, k]
  simp [List.replicate_append_replicate]
theorem cat_same {z : List At} {v : Value} (h : Same (flat z) v) : ∀ n s, Same (flat (cat (fun _ => z) s n)) v
  | 0, s => rfl
  | n + 1, s => by
    show Same (flat (z ++ cat (fun _ => z) (s + 1) n)) v
    rw [flat_append]
    exact same_app h (cat_same h n (s + 1))
/-- a slice of zeros is made -/
theorem made {P : Program} {t e : TypeId} {i : TypeInfo} {zv : Value} {z : List At} {v : Value} {N : Nat} (ht : P.underlying t = some (.slice e)) (hi : P.info? e = some i) (hz : i.zero = some zv) (hs : i.size = fsz z) (hv : zv.cells.toList = List.replicate i.size v) (hsame : Same (flat z) v) (h0 : 0 < fsz z)
    (hb : i.bytes * N ≤ 281474976710656) (hN : N < 4611686018427387904) :
    ∃ e, ∀ w : World, (Instr.makeSlice t (iI N) (iI N)).run P w = .ok (.slice (some ⟨w.heap.size, 0, none⟩) N N) (w.alloc (.cells (flat (cat (fun _ => z) 0 N)).toArray e)) := by
  refine ⟨e, fun w => ?_⟩
  have hr := Go.run_make (P := P) w t e i zv ht hi hz .i64 .i64 (N : Int) (N : Int) (by omega) (Int.le_refl _) (by rw [← Int.natCast_mul]; omega) (by omega)
  refine Eq.trans hr ?_
  have hsz : zv.cells.size = i.size := by rw [← Array.length_toList, hv, List.length_replicate]
  have hc : madeCells zv.cells (N * i.size) = (flat (cat (fun _ => z) 0 N)).toArray := by
    have hl := cat_size (f := fun _ => z) (c := fsz z) (fun _ => rfl) N 0
    have h2 := cat_same hsame N 0
    rw [h2, flat_len, hl, ← hs]
    unfold madeCells
    apply Array.ext
    · simp
    · intro j h1 h3
      simp only [Array.getElem_map, Array.getElem_range, List.getElem_toArray, List.getElem_replicate]
      have hj : j % zv.cells.size < zv.cells.size := Nat.mod_lt _ (by rw [hsz, hs]; exact h0)
      have e1 : zv.cells.toList[j % zv.cells.size]? = some v := by
        rw [hv, List.getElem?_replicate, if_pos (by omega)]
      rw [Array.getElem?_toList] at e1
      rw [getElem!_def, e1]
  simp only [Int.toNat_natCast, hc]
end Go.Proofs.YtalcpnkkbimojaaDoor.Ex
namespace Go.Proofs.YtalcpnkkbimojaaDoor.Ex
set_option linter.unusedVariables false
set_option linter.unusedSimpArgs false
open Go.RowKit

theorem wp_rangeP {P : Program} {id : Nat} {ops : Array Oper} {l : List Nat} (hl : List.range ops.size = l) {Q : Exit → Act → World → Prop} {a : Act} {w : World} (h : wpOps P ops Q l a w) : (Code.region id ops false).wp P Q a w := wp_region (by rw [hl]; exact h)
/-- a function's end, and more that is told of the world -/
theorem fn_leaveR {P : Program} {fn : Func} {A : List Fact} {l : List TV} {r : RV} {nt base : Nat} {w0 : World} (h1 : resTs P A fn.results.toList = some l) (h2 : rv l = some r) {a : Act} {w' : World} (hA : Holds nt base w0 A a w') {R : Ending → World → Prop} (hR : R (.returned r.den) w') : bodyPost P fn R .ret a w' := by
  obtain ⟨β', hok, _⟩ := hA.facts
  have hres : (results fn a.tmps).run P w' = .ok r.den w' := by
    have := resTs_spec hok h1
    show ((fn.results.mapM (resF a.tmps)) >>= fun vs => pure (if h : vs.size = 1 then vs[0] else .tuple vs) : Sem Value).run P w' = _
    have hm : (List.toArray <$> fn.results.toList.mapM (resF a.tmps)).run P w' = .ok (l.map TV.den).toArray w' := by simp [this]
    rw [Array.mapM_eq_mapM_toList, Sem.run_bind, hm, Result.andThen_ok, Sem.run_pure]
    exact congrArg (fun x => Result.ok x w') (rv_spec h2)
  exact ⟨hA.defers, _, hres, hR⟩
/-- the same facts, told from here on -/
theorem Holds.now {nt base : Nat} {w0 : World} {A : List Fact} {a : Act} {w : World} (h : Holds nt base w0 A a w) : Holds nt base w A a w := by
  obtain ⟨β, h1, h2, h3, h4⟩ := h.facts
  exact ⟨h.defers, h.size, Below.refl _ _, h.heap, β, h1, h2, h3, h4.size, fun _ _ _ => ⟨rfl, rfl⟩, Shape.refl _⟩
/-- all but one block stay -/
theorem WrAt.refl (w : World) (b : Nat) : WrAt w w b [] := ⟨rfl, rfl, rfl, Nat.le_refl _, fun _ _ _ => rfl, Shape.refl _, fun _ => rfl⟩
theorem WrAt.below {w w1 w2 : World} {b : Nat} (hb : b < w.heap.size) (h : WrAt w w1 b []) (h2 : Below w.heap.size w1 w2) : WrAt w w2 b [] :=
  ⟨h2.os.trans h.os, h2.tape.trans h.tape, h2.output.trans h.output, Nat.le_trans h.size h2.size, fun k hk hne => (h2.block k hk).trans (h.block k hk hne),
    ⟨fun q cur e hq => by
      obtain ⟨c, h3, h4⟩ := h.shape.1 q cur e hq
      exact ⟨c, (h2.block q (Array.getElem?_eq_some_iff.1 hq).1).trans h3, h4⟩, Nat.le_trans h.size h2.size, fun q o hq ho => (h2.block q (Array.getElem?_eq_some_iff.1 hq).1).trans (h.shape.2.same q o hq ho)⟩, fun j => (World.frozen?_of_block (h2.block b hb)).trans (h.frozen j)⟩
theorem setCells_block (b : Nat) : ∀ (vs : List Value) (o : Nat) (w : World) (k : Nat), k ≠ b → (w.setCells b o vs).heap[k]? = w.heap[k]?
  | [], _, _, _, _ => rfl
  | v :: r, o, w, k, h => by
    rw [World.setCells, setCells_block b r (o + 1) _ k h]
    exact Below.heap_setCell w _ v k h
theorem setCells_os (b : Nat) : ∀ (vs : List Value) (o : Nat) (w : World), (w.setCells b o vs).os = w.os ∧ (w.setCells b o vs).tape = w.tape ∧ (w.setCells b o vs).output = w.output
  | [], _, _ => ⟨rfl, rfl, rfl⟩
  | v :: r, o, w => by rw [World.setCells]; exact setCells_os b r (o + 1) _
theorem WrAt.set {w w1 : World} {b : Nat} (h : WrAt w w1 b []) (o : Nat) (vs : List Value) : WrAt w (w1.setCells b o vs) b [] :=
  ⟨(setCells_os b vs o w1).1.trans h.os, (setCells_os b vs o w1).2.1.trans h.tape, (setCells_os b vs o w1).2.2.trans h.output, by rw [setCells_size]; exact h.size, fun k hk hne => (setCells_block b vs o w1 k hne).trans (h.block k hk hne),
    h.shape.trans (setCells_shape b vs o w1), fun j => by rw [World.frozen?_setCells]; exact h.frozen j⟩
end Go.Proofs.YtalcpnkkbimojaaDoor.Ex
