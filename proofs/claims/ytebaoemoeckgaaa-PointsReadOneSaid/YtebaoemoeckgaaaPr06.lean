/-
  The reckoner's step, stores among them; a region in whatever order. Of whatever program. Conditions: the table of calls is right.
  The reckoner: a region, its operations in whatever order they may come. Of whatever program. Conditions: the table of calls is right.
-/
import Derived.Orders
import Derived.Test.YtebaoemoeckgaaaPr05
namespace Go.Proofs.Ytebaoemoeckgaaa.Ex
set_option linter.unusedVariables false
set_option linter.unusedSimpArgs false
open Go.RowKit

section
variable {E : Env} {base : Nat} {β : Nat → Bk} {a : Act} {w : World} {M : List Fact} {d : Nat} {o : Oper} {pre : List Prop} {out : List Fact} {kill : Option Nat} {K : Act → World → Prop} {Q : Exit → Act → World → Prop}

theorem step_sound (hT : ∀ d, TabAt E.P (E.T d) w) (hX : ExtAt E.P E.q.x w) (hq : EqOk1 E.P E.q) (hM : ∀ φ ∈ M, φ.ok base β a w) (hB : base ≤ w.heap.size) (hd : d < a.tmps.size) (hdst : o.dst = some d)
    (hK : ∀ β' a' w', PostB base β β' a w (some d) M out kill a' w' → K a' w') (h : stepA E M d o.op = some (pre, out, kill)) (hp : allP pre) : o.wp E.P a w K Q := by
  generalize ho : o.op = op at h
  cases op with
  | move x => exact st_move ⟨hM, hB, hd, hdst⟩ hK ho h
  | assign x => exact st_assign ⟨hM, hB, hd, hdst⟩ hK ho h
  | pick c x y => exact st_pick ⟨hM, hB, hd, hdst⟩ hK ho h
  | alloc t => exact st_alloc ⟨hM, hB, hd, hdst⟩ hK ho h
  | box t x => exact st_box ⟨hM, hB, hd, hdst⟩ hK ho h
  | build t ps => exact st_build ⟨hM, hB, hd, hdst⟩ hK ho h
  | buildSlice t n ps => exact st_buildSlice ⟨hM, hB, hd, hdst⟩ hK ho h
  | makeInterface t x => exact st_iface ⟨hM, hB, hd, hdst⟩ hK ho h
  | nilCheck x => exact st_nilCheck ⟨hM, hB, hd, hdst⟩ hK ho h
  | load t x => exact st_load ⟨hM, hB, hd, hdst⟩ hK hX ho h hp
  | convert src dst x => exact st_convert ⟨hM, hB, hd, hdst⟩ hK ho h hp
  | makeFunc fn f c => exact st_makeFunc ⟨hM, hB, hd, hdst⟩ hK ho h
  | makeSlice t x y => exact st_makeSlice ⟨hM, hB, hd, hdst⟩ hK ho h hp
  | fieldAddr s x i => exact st_field ⟨hM, hB, hd, hdst⟩ hK ho h
  | indexAddr t x y => exact st_indexAddr ⟨hM, hB, hd, hdst⟩ hK ho h hp
  | index t x y => exact st_index ⟨hM, hB, hd, hdst⟩ hK ho h hp
  | extract x i => exact st_extract ⟨hM, hB, hd, hdst⟩ hK ho h
  | field t x i => exact st_fieldOf ⟨hM, hB, hd, hdst⟩ hK ho h
  | slice t x lo hi mx => exact st_slice ⟨hM, hB, hd, hdst⟩ hK ho h hp
  | binOp op t x y t2 => exact st_binOp ⟨hM, hB, hd, hdst⟩ hK hq ho h hp
  | unOp op t x => exact st_unOp ⟨hM, hB, hd, hdst⟩ hK ho h hp
  | call c => exact st_call ⟨hM, hB, hd, hdst⟩ hK hT hX ho h hp
  | _ => simp only [stepA] at h; cases h
theorem flat_one : ∀ {p : List At}, p.all cOk = true → ∀ v ∈ flat p, v.oneCell' = true
  | [], _, v, hv => by cases hv
  | x :: r, h, v, hv => by
    rw [List.all_cons, Bool.and_eq_true] at h
    rcases List.mem_append.1 hv with hv | hv
    · cases x with
      | f x => simp only [At.cells, w4, List.mem_cons, List.not_mem_nil, or_false] at hv; rcases hv with rfl | rfl | rfl | rfl <;> rfl
      | q x => simp only [At.cells, w4, List.mem_cons, List.not_mem_nil, or_false] at hv; rcases hv with rfl | rfl | rfl | rfl <;> rfl
      | c u => cases List.mem_singleton.1 hv; exact scal_one h.1
    · exact flat_one h.2 v hv
theorem setCells_size (b : Nat) : ∀ (vs : List Value) (o : Nat) (w : World), (w.setCells b o vs).heap.size = w.heap.size
  | [], _, _ => rfl
  | v :: r, o, w => by rw [World.setCells, setCells_size b r]; simp [World.setCell]
theorem setCells_below {B b : Nat} (hb : B ≤ b) : ∀ (vs : List Value) (o : Nat) (w0 w : World), Below B w0 w → Below B w0 (w.setCells b o vs)
  | [], _, _, _, h => h
  | v :: r, o, w0, w, h => setCells_below hb r (o + 1) w0 _ (h.setCell hb v)
theorem store_sound (hM : ∀ φ ∈ M, φ.ok base β a w) (hB : base ≤ w.heap.size) (hdst : o.dst = none)
    (hK : ∀ β' a' w', PostB base β β' a w none M out kill a' w' → K a' w') (h : storeA E M o.op = some (pre, out, kill)) (hp : allP pre) : o.wp E.P a w K Q := by
  generalize ho : o.op = op at h
  cases op with
  | store t x y =>
    simp only [storeA] at h
    split at h
    · rename_i k i v hx hy
      split at h
      · rename_i p l n hv hr hs
        cases hb : (Nat.beq n (fsz p) && p.all cOk) <;> rw [hb] at h
        · cases h
        · simp only [cond_true] at h
          simp only [Bool.and_eq_true] at hb
          have hl' : ∃ l', put l i p = some l' ∧ out = [.row k true l'] ∧ kill = some k := by
            split at h
            · rename_i l' hs'
              cases h
              exact ⟨l', hp.1, rfl, rfl⟩
            · split at h
              · rename_i l' hl; cases h; exact ⟨l', hl, rfl, rfl⟩
              · cases h
          obtain ⟨l', hl, rfl, rfl⟩ := hl'
          · have hn := Nat.eq_of_beq_eq_true hb.1
            obtain ⟨ii, hi, hin⟩ := sizeT_spec hs
            obtain ⟨h1, h2, h3, _⟩ := hM _ (rowOf_mem hr)
            obtain ⟨h4, h5, h6⟩ := h3 rfl
            obtain ⟨A, m, s, e1, e2, e3, e4⟩ := put_spec hl
            have hx' : a.eval x = .pointer (some ⟨(β k).1, (β k).2.1 + i, none⟩) := ev_spec hM hx
            rw [h5, Nat.zero_add] at hx'
            rw [h5] at h2
            have hsz : (flat p).length = n := by rw [flat_len, hn]
            have hth : w.there (β k).1 i (flat p).toArray.size := fun j hj => by
              have hj' : j < fsz m := by rw [e4, ← flat_len]; simpa using hj
              refine ⟨?_, h6 _⟩
              have := h2 (i + j) ((flat m)[j]'(by rw [flat_len]; exact hj')) (by
                rw [e1, flat_append, flat_append, List.getElem?_append_right (by rw [flat_len, e3]; omega), flat_len, e3, show i + j - i = j by omega, List.getElem?_append_left (by rw [flat_len]; exact hj')]
                exact List.getElem?_eq_getElem _)
              rw [Nat.zero_add] at this
              rw [this]; rfl
            have hst := run_storeVar_mid (P := E.P) w (β k).1 i t (flat p).toArray hth (by rw [hi]; simp [hin, hsz]) (all_oneCell_toArray (flat_one hb.2))
            have hst2 : (storeVar t ⟨(β k).1, i, none⟩ (v.den β)).run E.P w = .ok () (w.setCells (β k).1 i (flat p)) := by
              have hc := part?_spec hv β
              unfold storeVar at hst ⊢
              rw [hc]
              exact hst
            have hrun : (execOp a.eval o).run E.P w = .ok .skip (w.setCells (β k).1 i (flat p)) := by
              simp [execOp, ho, Instr.storeAt, hx', Instr.sureAddr, ev_spec hM hy, hst2]
            unfold Oper.wp
            rw [hrun]
            show K (a.put o.dst undef) _
            rw [hdst]
            refine hK β a _ ⟨rfl, rfl, fun _ _ => rfl, fun _ _ => rfl, by rw [setCells_size]; exact Nat.le_refl _, fun q hq hk => ⟨?_, World.frozen?_setCells _ _ _ _ _⟩, setCells_shape _ _ _ _, fun w0 h => setCells_below h4 _ _ _ _ h, fun φ hφ => ?_, fun k' l1 hk => ?_, fun k1 k2 l1 l2 hk hk' => ?_, fun k' hk => ?_⟩
            · exact World.cell?_setCells_out _ _ _ _ _ fun e _ => absurd e (hk k rfl)
            · cases List.mem_singleton.1 hφ
              refine ⟨by rw [setCells_size]; exact h1, ?_, fun _ => ⟨h4, h5, fun j => by rw [World.frozen?_setCells]; exact h6 j⟩, fun h => by cases h⟩
              rw [h5, e2]
              intro j u hj
              rw [Nat.zero_add]
              by_cases c1 : j < i
              · rw [World.cell?_setCells_out _ _ _ _ _ (fun _ _ => Or.inl c1)]
                have := h2 j u (by
                  rw [e1, flat_append, flat_append]
                  rw [List.getElem?_append_left (by rw [flat_len, e3]; exact c1)] at hj ⊢
                  exact hj)
                rwa [Nat.zero_add] at this
              · rw [List.getElem?_append_right (by rw [flat_len, e3]; omega), flat_len, e3] at hj
                by_cases c2 : j < i + n
                · rw [List.getElem?_append_left (by omega)] at hj
                  have := World.cell?_setCells_in (β k).1 (flat p) i w (fun q hq => (hth q (by simpa using hq)).1) (j - i) (by omega)
                  rw [show i + (j - i) = j by omega] at this
                  rw [this, ← hj, List.getElem?_eq_getElem]
                · rw [List.getElem?_append_right (by omega), hsz] at hj
                  rw [World.cell?_setCells_out _ _ _ _ _ (fun _ _ => Or.inr (by simp only []; omega))]
                  have := h2 j u (by
                    rw [e1, flat_append, flat_append, List.getElem?_append_right (by rw [flat_len, e3]; omega), flat_len, e3, List.getElem?_append_right (by rw [flat_len, e4]; omega), flat_len, e4, ← hn]
                    exact hj)
                  rwa [Nat.zero_add] at this
            · cases List.mem_singleton.1 hk
              exact Or.inr (Or.inl ⟨by simp, l, rowOf_mem hr⟩)
            · cases List.mem_singleton.1 hk; cases List.mem_singleton.1 hk'; rfl
            · cases hk
              exact ⟨l, rowOf_mem hr⟩
      · cases h
    · cases h
  | _ => simp only [storeA] at h; cases h
theorem op_sound {ops : Array Oper} (hT : ∀ d, TabAt E.P (E.T d) w) (hX : ExtAt E.P E.q.x w) (hq : EqOk1 E.P E.q) (hM : ∀ φ ∈ M, φ.ok base β a w) (hB : base ≤ w.heap.size) (hn : a.tmps.size = E.nt)
    (hK : ∀ β' a' w', PostB base β β' a w o.dst M out kill a' w' → K a' w') (h : opA E ops M o = some (pre, out, kill)) (hp : allP pre) :
    if Region.wanted o (yielded ops a.tmps) = true then o.wp E.P a w K Q else K (a.put o.dst undef) w := by
  unfold opA at h
  split at h
  · rename_i hg
    rw [if_pos (guardIs_spec hM hg)]
    cases hd : o.dst with
    | none =>
      rw [hd] at h
      rw [hd] at hK
      exact store_sound hM hB hd hK h hp
    | some d =>
      rw [hd] at h
      rw [hd] at hK
      simp only at h
      cases hb : Nat.blt d E.nt <;> rw [hb] at h
      · cases h
      · exact step_sound hT hX hq hM hB (by rw [hn]; simpa using hb) hd hK h hp
  · rename_i hg
    rw [if_neg (by rw [guardIs_spec hM hg]; simp)]
    cases hd : o.dst with
    | none => rw [hd] at h; cases h
    | some d =>
      rw [hd] at h
      rw [hd] at hK
      simp only at h
      cases hb : Nat.blt d E.nt <;> rw [hb] at h
      · cases h
      · cases h
        exact hK _ _ _ (post_pure (.im undef) (by rw [hn]; simpa using hb))
  · cases h
end
end Go.Proofs.Ytebaoemoeckgaaa.Ex
namespace Go.Proofs.Ytebaoemoeckgaaa.Ex
set_option linter.unusedVariables false
set_option linter.unusedSimpArgs false
open Go.RowKit

def optIs : Option Nat → Nat → Bool
  | some d, s => Nat.beq d s
  | none, _ => false
theorem optIs_iff {d : Option Nat} {s : Nat} : optIs d s = true ↔ d = some s := by
  cases d with
  | none => simp [optIs]
  | some x => simp [optIs]
/-- does the operation turn the fact? -/
def clob (dst kill : Option Nat) : Fact → Bool
  | .slot s v => optIs dst s || (match v.key with | some k => optIs dst k | none => false)
  | .row k _ _ => optIs dst k || optIs kill k
  | .at k _ => optIs dst k
  | .app k _ _ _ => optIs dst k
structure Rec where
  M : List (Option Nat × Fact)
  dst : Option Nat
  kill : Option Nat
/-- operation i waits for operation j -/
def dep (draw : Bool) (ops : Array Oper) (i j : Nat) : Bool :=
  bif draw then (match ops[i]? with | some o => o.after.toList.any (fun e => Region.binds .any e && Nat.beq e.on j) | none => false) else Nat.blt j i
def alive (φ : Fact) : List Rec → Nat → Option Nat → Bool
  | [], _, _ => true
  | r :: rs, j, b => (bif (match b with | none => true | some b' => Nat.blt b' j) then !(clob r.dst r.kill φ) else true) && alive φ rs (j + 1) b
def usable (draw : Bool) (ops : Array Oper) (i : Nat) (rs : List Rec) (x : Option Nat × Fact) : Bool :=
  (match x.1 with | none => true | some b => dep draw ops i b) && alive x.2 rs 0 x.1
def tmps : List Operand → List Nat
  | [] => []
  | .tmp s :: r => s :: tmps r
  | _ :: r => tmps r
def slotsOf (ops : Array Oper) (o : Oper) : List Nat :=
  match o.guard with
  | some (g, _) => (match (ops[g]?).bind (·.dst) with | some s => s :: tmps o.op.operands.toList | none => tmps o.op.operands.toList)
  | none => tmps o.op.operands.toList
def reads : Op → Bool
  | .load _ _ => true
  | .store _ _ _ => true
  | .call _ => true
  | _ => false
def keysOf (l : List Nat) : List (Option Nat × Fact) → List Nat
  | [] => []
  | (_, .slot s v) :: r => bif l.any (Nat.beq s) then (match v.key with | some k => k :: keysOf l r | none => keysOf l r) else keysOf l r
  | _ :: r => keysOf l r
def relv (l ks : List Nat) (x : Option Nat × Fact) : Bool :=
  match x.2 with
  | .slot s _ => l.any (Nat.beq s)
  | .row k _ _ => ks.any (Nat.beq k)
  | .at _ _ => true
  | .app k _ _ _ => ks.any (Nat.beq k)
/-- the facts that an operation is held against -/
def sel (ops : Array Oper) (o : Oper) (M : List (Option Nat × Fact)) : List (Option Nat × Fact) :=
  match slotsOf ops o with
  | l => match (bif reads o.op then keysOf l M else []) with
    | ks => M.filter (relv l ks)
theorem sel_mem {ops : Array Oper} {o : Oper} {M : List (Option Nat × Fact)} {x : Option Nat × Fact} (h : x ∈ sel ops o M) : x ∈ M := (List.mem_filter.1 h).1
def runR (E : Env) (draw : Bool) (ops : Array Oper) : List Oper → Nat → List (Option Nat × Fact) → List Rec → List Prop → Option (List Prop × List (Option Nat × Fact) × List Rec)
  | [], _, TF, rs, ps => some (ps, TF, rs)
  | o :: rest, i, TF, rs, ps =>
    match sel ops o (TF.filter (usable draw ops i rs)) with
    | M => match opA E ops (M.map (·.2)) o with
      | some (pre, out, kill) => runR E draw ops rest (i + 1) (out.map (fun φ => (some i, φ)) ++ TF) (rs ++ [⟨M, o.dst, kill⟩]) (ps ++ pre)
      | none => none
def allIdx {α : Type} (p : Nat → α → Bool) : Nat → List α → Bool
  | _, [] => true
  | k, x :: r => p k x && allIdx p (k + 1) r
theorem allIdx_spec {α : Type} {p : Nat → α → Bool} : ∀ {l : List α} {k : Nat}, allIdx p k l = true → ∀ i x, l[i]? = some x → p (k + i) x = true
  | [], k, _, i, x, hx => by simp at hx
  | y :: r, k, h, i, x, hx => by
    unfold allIdx at h
    rw [Bool.and_eq_true] at h
    cases i with
    | zero => cases hx; exact h.1
    | succ i =>
      have := allIdx_spec h.2 i x (by simpa using hx)
      rwa [show k + 1 + i = k + (i + 1) by omega] at this
/-- may fact x hold when operation j is done? -/
def bears (draw : Bool) (ops : Array Oper) (x : Option Nat × Fact) (j : Nat) (r : Rec) : Bool :=
  optIs x.1 j || (!(clob r.dst r.kill x.2) || (match x.1 with | some b => dep draw ops b j | none => false))
def chk (draw : Bool) (ops : Array Oper) (rs : List Rec) : Bool :=
  allIdx (fun i r => r.M.all fun x => allIdx (fun j r' => Nat.beq j i || (dep draw ops j i || bears draw ops x j r')) 0 rs) 0 rs
def low (draw : Bool) (ops : Array Oper) : Bool :=
  bif draw then allIdx (fun i (o : Oper) => o.after.toList.all fun e => !(Region.binds .any e) || Nat.blt e.on i) 0 ops.toList else true
def lasts (draw : Bool) (ops : Array Oper) (rs : List Rec) (x : Option Nat × Fact) : Bool := allIdx (fun j r => bears draw ops x j r) 0 rs
def regA (E : Env) (draw : Bool) (ops : Array Oper) (A : List Fact) : Option (List Prop × List Fact) :=
  match runR E draw ops ops.toList 0 (A.map fun φ => (none, φ)) [] [] with
  | some (ps, TF, rs) => bif chk draw ops rs && low draw ops then some (ps, (TF.filter (lasts draw ops rs)).map (·.2)) else none
  | none => none

section
variable {E : Env} {draw : Bool} {ops : Array Oper}
theorem runR_spec : ∀ {rem : List Oper} {i : Nat} {TF TF' : List (Option Nat × Fact)} {rs rs' : List Rec} {ps ps' : List Prop}, runR E draw ops rem i TF rs ps = some (ps', TF', rs') → rs.length = i →
    (∀ x ∈ TF, x ∈ TF') ∧ (∀ x ∈ TF', x ∈ TF ∨ ∃ b, x.1 = some b ∧ i ≤ b ∧ b < i + rem.length) ∧ (allP ps' → allP ps) ∧ (∀ j, j < i → rs'[j]? = rs[j]?) ∧ rs'.length = i + rem.length ∧
    ∀ j o, rem[j]? = some o → ∃ r pre out, rs'[i + j]? = some r ∧ r.dst = o.dst ∧ opA E ops (r.M.map (·.2)) o = some (pre, out, r.kill) ∧ (allP ps' → allP pre) ∧
      (∀ x ∈ r.M, x ∈ TF' ∧ ∀ b, x.1 = some b → dep draw ops (i + j) b = true) ∧ ∀ φ, (some (i + j), φ) ∈ TF' → (some (i + j), φ) ∈ TF ∨ φ ∈ out
  | [], i, TF, TF', rs, rs', ps, ps', h, hl => by
    cases h
    exact ⟨fun _ h => h, fun _ h => Or.inl h, fun h => h, fun _ _ => rfl, by simp [hl], fun j o ho => by simp at ho⟩
  | o :: rest, i, TF, TF', rs, rs', ps, ps', h, hl => by
    unfold runR at h
    simp only at h
    split at h
    · rename_i pre out kill ho
      obtain ⟨h1, h2, h3, h4, h5, h6⟩ := runR_spec h (by simp [hl])
      have hps : allP ps' → allP ps ∧ allP pre := fun h => allP_append.1 (h3 h)
      refine ⟨fun x hx => h1 x (List.mem_append_right _ hx), fun x hx => ?_, fun h => (hps h).1, fun j hj => ?_, by rw [h5]; simp; omega, ?_⟩
      · rcases h2 x hx with hx | ⟨b, hb, hi, hlt⟩
        · rcases List.mem_append.1 hx with hx | hx
          · obtain ⟨φ, _, rfl⟩ := List.mem_map.1 hx
            exact Or.inr ⟨i, rfl, Nat.le_refl _, by simp⟩
          · exact Or.inl hx
        · exact Or.inr ⟨b, hb, by omega, by simp; omega⟩
      · rw [h4 j (by omega), List.getElem?_append_left (by omega)]
      · intro j o' hj
        cases j with
        | zero =>
          cases hj
          refine ⟨_, pre, out, by rw [Nat.add_zero, h4 i (by omega), List.getElem?_append_right (by omega), hl, Nat.sub_self]; rfl, rfl, ho, fun h => (hps h).2, fun x hx => ?_, fun φ hφ => ?_⟩
          · obtain ⟨hx1, hx2⟩ := List.mem_filter.1 (sel_mem hx)
            refine ⟨h1 x (List.mem_append_right _ hx1), fun b hb => ?_⟩
            unfold usable at hx2
            rw [hb] at hx2
            simp only [Bool.and_eq_true] at hx2
            exact hx2.1
          · rcases h2 _ hφ with hx | ⟨b, hb, hi, hlt⟩
            · rcases List.mem_append.1 hx with hx | hx
              · obtain ⟨ψ, hψ, e⟩ := List.mem_map.1 hx
                cases e
                exact Or.inr hψ
              · exact Or.inl hx
            · simp only [Nat.add_zero, Option.some.injEq] at hb
              omega
        | succ j =>
          obtain ⟨r, pre', out', e1, e2, e3, e4, e5, e6⟩ := h6 j o' (by simpa using hj)
          rw [show i + 1 + j = i + (j + 1) by omega] at e1 e5 e6
          refine ⟨r, pre', out', e1, e2, e3, e4, e5, fun φ hφ => ?_⟩
          rcases e6 φ hφ with hx | hx
          · rcases List.mem_append.1 hx with hx | hx
            · obtain ⟨ψ, hψ, e⟩ := List.mem_map.1 hx
              simp only [Prod.mk.injEq, Option.some.injEq] at e
              omega
            · exact Or.inl hx
          · exact Or.inr hx
    · cases h
/-- is the fact there, these operations done? -/
def valid (draw : Bool) (ops : Array Oper) (rs : List Rec) (G : Nat → Prop) (x : Option Nat × Fact) : Prop :=
  (∀ b, x.1 = some b → G b) ∧ ∀ j r, rs[j]? = some r → G j → x.1 ≠ some j → clob r.dst r.kill x.2 = true → ∃ b, x.1 = some b ∧ dep draw ops b j = true
structure Inv (E : Env) (draw : Bool) (ops : Array Oper) (base : Nat) (w0 : World) (TF : List (Option Nat × Fact)) (rs : List Rec) (G : Nat → Prop) (a : Act) (w : World) : Prop where
  defers : a.defers = []
  size : a.tmps.size = E.nt
  below : Below base w0 w
  heap : base ≤ w.heap.size
  closed : ∀ i j, G i → dep draw ops i j = true → G j
  facts : ∃ β : Nat → Bk, (∀ x ∈ TF, valid draw ops rs G x → x.2.ok base β a w) ∧
    ∀ x ∈ TF, ∀ y ∈ TF, valid draw ops rs G x → valid draw ops rs G y → ∀ k k' l l', x.2 = .row k true l → y.2 = .row k' true l' → k ≠ k' → (β k).1 ≠ (β k').1
theorem keep {base : Nat} {β β' : Nat → Bk} {a a' : Act} {w w' : World} {dst kill : Option Nat} {M out : List Fact} (hP : PostB base β β' a w dst M out kill a' w') {φ : Fact} (h : φ.ok base β a w) (hc : clob dst kill φ = false)
    (hk : ∀ kk k own l, kill = some kk → φ = .row k own l → (β kk).1 ≠ (β k).1) : φ.ok base β' a' w' := by
  cases φ with
  | slot s v =>
    simp only [clob, Bool.or_eq_false_iff] at hc
    have h1 : dst ≠ some s := fun e => by have := optIs_iff.2 e; rw [hc.1] at this; cases this
    have h2 : ∀ k, v.key = some k → β' k = β k := fun k hv => hP.beta k fun e => by
      have h3 := hc.2
      rw [hv] at h3
      have := optIs_iff.2 e
      simp only at h3
      rw [h3] at this; cases this
    show a'.tmps[s]? = _
    rw [hP.tmps s h1, AV.den_eq v h2]
    exact h
  | row k own l =>
    simp only [clob, Bool.or_eq_false_iff] at hc
    have h1 : dst ≠ some k := fun e => by have := optIs_iff.2 e; rw [hc.1] at this; cases this
    obtain ⟨g1, g2, g3, g4⟩ := h
    have hm : ∀ j, w'.cell? ⟨(β k).1, j, none⟩ = w.cell? ⟨(β k).1, j, none⟩ ∧ w'.frozen? ⟨(β k).1, j, none⟩ = w.frozen? ⟨(β k).1, j, none⟩ := fun j => hP.mem ⟨(β k).1, j, none⟩ g1 fun kk hkk e => hk kk k own l hkk rfl e.symm
    refine ⟨?_, ?_, ?_, ?_⟩ <;> rw [hP.beta k h1]
    · exact Nat.lt_of_lt_of_le g1 hP.heap
    · intro j v hj
      rw [(hm _).1]
      exact g2 j v hj
    · exact fun ho => ⟨(g3 ho).1, (g3 ho).2.1, fun j => by rw [(hm _).2]; exact (g3 ho).2.2 j⟩
    · exact g4
  | «at» k b =>
    have h1 : dst ≠ some k := fun e => by have := optIs_iff.2 e; rw [show optIs dst k = false from hc] at this; cases this
    show (β' k).1 = b ∧ (β' k).2.1 = 0
    rw [hP.beta k h1]
    exact h
  | app k e sz n =>
    have h1 : dst ≠ some k := fun e => by have := optIs_iff.2 e; rw [show optIs dst k = false from hc] at this; cases this
    show AppAt w' (β' k).1 e sz n (β' k).2.2
    rw [hP.beta k h1]
    exact AppAt.shape hP.shape h
theorem step_inv {base : Nat} {w0 : World} {A : List Fact} {TF : List (Option Nat × Fact)} {rs : List Rec} {ps : List Prop} (hT : ∀ d, TabOkW E.P (E.T d) base w0) (hq : EqOkW E.P E.q base w0)
    (hrun : runR E draw ops ops.toList 0 (A.map fun φ => (none, φ)) [] [] = some (ps, TF, rs)) (hps : allP ps) (hchk : chk draw ops rs = true) {Q : Exit → Act → World → Prop}
    {G : Nat → Prop} {a : Act} {w : World} (hI : Inv E draw ops base w0 TF rs G a w) {i : Nat} {o : Oper} (ho : ops[i]? = some o) (hi : ¬ G i) (hdeps : ∀ j, dep draw ops i j = true → G j) :
    if Region.wanted o (yielded ops a.tmps) = true then o.wp E.P a w (Inv E draw ops base w0 TF rs (fun j => j = i ∨ G j)) Q else Inv E draw ops base w0 TF rs (fun j => j = i ∨ G j) (a.put o.dst undef) w := by
  obtain ⟨_, _, _, _, _, hops⟩ := runR_spec hrun rfl
  obtain ⟨r, pre, out, hr, hdst, hop, hpre, hM, hborn⟩ := hops i o (by simpa using ho)
  rw [Nat.zero_add] at hr hM hborn
  obtain ⟨β, hok, hinj⟩ := hI.facts
  have hMv : ∀ x ∈ r.M, valid draw ops rs G x := fun x hx => by
    refine ⟨fun b hb => hdeps b ((hM x hx).2 b hb), fun j r' hj hG hne hcl => ?_⟩
    have h1 := allIdx_spec hchk i r hr
    rw [List.all_eq_true] at h1
    have h2 := allIdx_spec (h1 x hx) j r' hj
    rw [Nat.zero_add, Nat.zero_add] at h2
    rw [Bool.or_eq_true, Bool.or_eq_true] at h2
    rcases h2 with h2 | h2 | h2
    · exact absurd (Nat.eq_of_beq_eq_true h2 ▸ hG) hi
    · exact absurd (hI.closed j i hG h2) hi
    · unfold bears at h2
      rw [Bool.or_eq_true, Bool.or_eq_true, hcl] at h2
      rcases h2 with h2 | h2 | h2
      · exact absurd (optIs_iff.1 h2) hne
      · cases h2
      · split at h2
        · rename_i b hb; exact ⟨b, hb, h2⟩
        · cases h2
  refine op_sound (ops := ops) (fun d => hT d w hI.below) (hq.2 w hI.below) hq.1 (M := r.M.map (·.2)) (out := out) (kill := r.kill) (β := β) (base := base) (fun φ hφ => ?_) hI.heap hI.size (fun β' a' w' hP => ?_) hop (hpre hps)
  · obtain ⟨x, hx, rfl⟩ := List.mem_map.1 hφ
    exact hok x (hM x hx).1 (hMv x hx)
  -- what was valid and is not born now is kept
  have hrowM : ∀ k l0, Fact.row k true l0 ∈ r.M.map (·.2) → ∃ x ∈ TF, valid draw ops rs G x ∧ x.2 = .row k true l0 := fun k l0 h => by
    obtain ⟨x, hx, e⟩ := List.mem_map.1 h
    exact ⟨x, (hM x hx).1, hMv x hx, e⟩
  have hkill : ∀ x ∈ TF, valid draw ops rs G x → clob o.dst r.kill x.2 = false → ∀ kk k own l, r.kill = some kk → x.2 = .row k own l → (β kk).1 ≠ (β k).1 := fun x hx hv hc kk k own l hkk hφ => by
    obtain ⟨l0, hl0⟩ := hP.kills kk hkk
    obtain ⟨y, hy, hyv, hye⟩ := hrowM kk l0 hl0
    have hne : kk ≠ k := fun e => by
      rw [hφ] at hc
      simp only [clob, Bool.or_eq_false_iff] at hc
      have := optIs_iff.2 (e ▸ hkk : r.kill = some k)
      rw [hc.2] at this; cases this
    cases own with
    | true => exact hinj y hy x hx hyv hv kk k l0 l hye hφ hne
    | false =>
      have h1 := hok y hy hyv
      rw [hye] at h1
      have h2 := hok x hx hv
      rw [hφ] at h2
      have := (h1.2.2.1 rfl).1
      have := h2.2.2.2 rfl
      omega
  have hold : ∀ x ∈ TF, valid draw ops rs (fun j => j = i ∨ G j) x → x.1 ≠ some i → valid draw ops rs G x ∧ clob o.dst r.kill x.2 = false := fun x hx hv hne => by
    refine ⟨⟨fun b hb => (hv.1 b hb).resolve_left fun e => hne (by rw [hb, e]), fun j r' hj hG => hv.2 j r' hj (Or.inr hG)⟩, ?_⟩
    cases hc : clob o.dst r.kill x.2 with
    | false => rfl
    | true =>
      obtain ⟨b, hb, hd⟩ := hv.2 i r hr (Or.inl rfl) hne (by rw [hdst]; exact hc)
      exact absurd (hI.closed b i ((hv.1 b hb).resolve_left fun e => hne (by rw [hb, e])) hd) hi
  have hnew : ∀ x ∈ TF, x.1 = some i → x.2 ∈ out := fun x hx e => by
    obtain ⟨b, φ⟩ := x
    simp only at e
    subst e
    rcases hborn φ hx with h | h
    · obtain ⟨ψ, _, e⟩ := List.mem_map.1 h
      cases e
    · exact h
  have hβ : ∀ x ∈ TF, valid draw ops rs (fun j => j = i ∨ G j) x → x.1 ≠ some i → ∀ k own l, x.2 = .row k own l → β' k = β k := fun x hx hv hne k own l hφ => by
    obtain ⟨_, hc⟩ := hold x hx hv hne
    rw [hφ] at hc
    simp only [clob, Bool.or_eq_false_iff] at hc
    exact hP.beta k fun e => by have := optIs_iff.2 e; rw [hc.1] at this; cases this
  -- a new row against an old one
  have hno : ∀ x ∈ TF, ∀ y ∈ TF, x.1 = some i → valid draw ops rs (fun j => j = i ∨ G j) y → y.1 ≠ some i → ∀ k k' l l', x.2 = .row k true l → y.2 = .row k' true l' → k ≠ k' → (β' k).1 ≠ (β' k').1 := fun x hx y hy hxi hyv hyi k k' l l' hxe hye hkk => by
    obtain ⟨hyo, _⟩ := hold y hy hyv hyi
    rw [hβ y hy hyv hyi k' true l' hye]
    have h1 := hnew x hx hxi
    rw [hxe] at h1
    rcases hP.rows k l h1 with ⟨h2, _⟩ | ⟨h2, l0, h3⟩ | ⟨h2, k0, l0, hk0, he, h3⟩
    · have h4 := hok y hy hyo
      rw [hye] at h4
      have := h4.1
      omega
    · obtain ⟨z, hz, hzv, hze⟩ := hrowM k l0 h3
      rw [hP.beta k h2]
      exact hinj z hz y hy hzv hyo k k' l0 l' hze hye hkk
    · obtain ⟨z, hz, hzv, hze⟩ := hrowM k0 l0 h3
      rw [he]
      refine hinj z hz y hy hzv hyo k0 k' l0 l' hze hye fun e => ?_
      subst e
      have hc := (hold y hy hyv hyi).2
      rw [hye] at hc
      simp only [clob, Bool.or_eq_false_iff] at hc
      have := optIs_iff.2 hk0
      rw [hc.2] at this; cases this
  refine ⟨by rw [hP.defers]; exact hI.defers, by rw [hP.size]; exact hI.size, hP.below w0 hI.below, Nat.le_trans hI.heap hP.heap, ?_, β', ?_, ?_⟩
  · intro p q hp hpq
    rcases hp with rfl | hp
    · exact Or.inr (hdeps q hpq)
    · exact Or.inr (hI.closed p q hp hpq)
  · intro x hx hv
    by_cases e : x.1 = some i
    · exact hP.ok _ (hnew x hx e)
    · obtain ⟨h1, h2⟩ := hold x hx hv e
      exact keep hP (hok x hx h1) h2 (hkill x hx h1 h2)
  · intro x hx y hy hxv hyv k k' l l' hxe hye hkk
    by_cases e1 : x.1 = some i
    · by_cases e2 : y.1 = some i
      · have h1 := hnew x hx e1
        have h2 := hnew y hy e2
        rw [hxe] at h1
        rw [hye] at h2
        exact absurd (hP.one k k' l l' h1 h2) hkk
      · exact hno x hx y hy e1 hyv e2 k k' l l' hxe hye hkk
    · by_cases e2 : y.1 = some i
      · exact fun e => hno y hy x hx e2 hxv e1 k' k l' l hye hxe (Ne.symm hkk) e.symm
      · rw [hβ x hx hxv e1 k true l hxe, hβ y hy hyv e2 k' true l' hye]
        exact hinj x hx y hy (hold x hx hxv e1).1 (hold y hy hyv e2).1 k k' l l' hxe hye hkk
end
end Go.Proofs.Ytebaoemoeckgaaa.Ex
