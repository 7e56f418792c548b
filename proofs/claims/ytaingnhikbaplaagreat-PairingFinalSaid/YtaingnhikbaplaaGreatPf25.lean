/-
  The reckoner: a region by parts; lists of blocks; made slices of zeros. Of whatever program. Conditions: none.
  The reckoner: what is written to an old block; a function's end with more told; loops by invariants. Of whatever program. Conditions: none.
  The closure that squares what it holds: its making, its calls. Conditions: what it holds lies in the cyclotomic subgroup.
  The reckoner: a step by hand among its facts: a call that makes a block, a call of a closure that writes its block. Of whatever program. Conditions: none.
-/
import Derived.Laws.MakeOwn
import Derived.Test.YtaingnhikbaplaaGreatPf24
namespace Go.Proofs.YtaingnhikbaplaaGreat.Ex
set_option linter.unusedVariables false
set_option linter.unusedSimpArgs false
open Go.RowKit

section
variable {E : Env} {ops big : Array Oper} {base : Nat} {w0 : World} {A A' : List Fact} {TF : List (Option Nat × Fact)} {rs : List Rec} {ps : List Prop} {Q : Exit → Act → World → Prop}
theorem seq_part {off : Nat} {R : List Nat} (hT : ∀ d, TabOkW E.P (E.T d) base w0) (hq : EqOkW E.P E.q base w0) (hrun : runR E false ops ops.toList 0 (A.map fun φ => (none, φ)) [] [] = some (ps, TF, rs)) (hps : allP ps) (hchk : chk false ops rs = true)
    (hsub : ∀ i, i < ops.size → big[off + i]? = ops[i]?) (hg : ∀ (i : Nat) (o : Oper), ops[i]? = some o → o.guard = none)
    (hQ : ∀ a w, Inv E false ops base w0 TF rs (fun i => i < ops.size) a w → wpOps E.P big Q R a w) :
    ∀ (m k : Nat) (a : Act) (w : World), k + m = ops.size → Inv E false ops base w0 TF rs (fun i => i < k) a w → wpOps E.P big Q (List.range' (off + k) m ++ R) a w
  | 0, k, a, w, hk, hI => by
    have : k = ops.size := by omega
    subst this
    exact hQ a w hI
  | m + 1, k, a, w, hk, hI => by
    have hlt : k < ops.size := by omega
    have ho : ops[k]? = some ops[k] := Array.getElem?_eq_getElem hlt
    have hst := step_inv hT hq hrun hps hchk (Q := Q) hI ho (Nat.lt_irrefl k) (fun j hj => by unfold dep at hj; simpa using hj)
    have hgk := hg k _ ho
    have hw1 : ∀ y, Region.wanted ops[k] y = true := fun y => by unfold Region.wanted; rw [hgk]
    rw [if_pos (hw1 _)] at hst
    simp only [List.range'_succ, List.cons_append, wpOps]
    rw [hsub k hlt, ho]
    simp only
    have hnext : ∀ a' w', Inv E false ops base w0 TF rs (fun j => j = k ∨ j < k) a' w' → wpOps E.P big Q (List.range' (off + k + 1) m ++ R) a' w' := fun a' w' h => by
      have := seq_part hT hq hrun hps hchk hsub hg hQ m (k + 1) a' w' (by omega) (by
        have : (fun j => j < k + 1) = fun j => j = k ∨ j < k := funext fun j => propext (by omega)
        rwa [this])
      rwa [← Nat.add_assoc] at this
    rw [if_pos (hw1 _)]
    exact Or.inl (Oper.wp_mono hnext hst)
/-- a part of a region's operations -/
theorem part_sound {off : Nat} {R : List Nat} (hT : ∀ d, TabOkW E.P (E.T d) base w0) (hq : EqOkW E.P E.q base w0) (h : regA E false ops A = some (ps, A')) (hps : allP ps)
    (hsub : ∀ i, i < ops.size → big[off + i]? = ops[i]?) (hg : ops.toList.all (fun o => o.guard.isNone) = true) {a : Act} {w : World} (hA : Holds E.nt base w0 A a w)
    (hQ : ∀ a w, Holds E.nt base w0 A' a w → wpOps E.P big Q R a w) : wpOps E.P big Q (List.range' off ops.size ++ R) a w := by
  unfold regA at h
  split at h
  · rename_i ps' TF rs hrun
    cases hc : (chk false ops rs && low false ops) <;> rw [hc] at h
    · cases h
    · cases h
      rw [Bool.and_eq_true] at hc
      have hg' : ∀ (i : Nat) (o : Oper), ops[i]? = some o → o.guard = none := fun i o ho => by
        rw [List.all_eq_true] at hg
        have := hg o (Array.mem_toList_iff.2 (Array.mem_of_getElem? ho))
        simpa using this
      have := seq_part (off := off) (R := R) (Q := Q) hT hq hrun hps hc.1 hsub hg' (fun a w hI => hQ a w (end_inv hrun (fun _ h => h) hI)) ops.size 0 a w (by omega) (by
        have : (fun i => i < 0) = fun _ : Nat => False := funext fun i => propext ⟨fun h => by omega, fun h => h.elim⟩
        rw [this]
        exact start_inv hrun hA)
      rwa [Nat.add_zero] at this
  · cases h
end
/-- a region's operations, and the facts at the places that K names -/
def regK (P : Program) (q : EqT) (nt : Nat) (c : Cfg) (ops : Array Oper) (A K : List Fact) : Option (List Prop × List Fact) :=
  match regA (mkE P q nt c) false ops A with
  | some (ps, A1) => match pick A1 K with | some L => some (ps, L) | none => none
  | none => none
theorem partK_sound {P : Program} {q : EqT} {nt base off : Nat} {c : Cfg} {w0 : World} {ops big : Array Oper} {A K L : List Fact} {ps : List Prop} {Q : Exit → Act → World → Prop} {R : List Nat} (hT : ∀ d, TabOkW P (c.T d) base w0) (hq : EqOkW P q base w0) (h : regK P q nt c ops A K = some (ps, L)) (hps : allP ps)
    (hsub : ∀ i, i < ops.size → big[off + i]? = ops[i]?) (hg : ops.toList.all (fun o => o.guard.isNone) = true) {a : Act} {w : World} (hA : Holds nt base w0 A a w)
    (hQ : ∀ a w, Holds nt base w0 L a w → wpOps P big Q R a w) : wpOps P big Q (List.range' off ops.size ++ R) a w := by
  unfold regK at h
  split at h
  · rename_i ps' A1 h1
    split at h
    · rename_i L' h2
      cases h
      exact part_sound (E := mkE P q nt c) hT hq h1 hps hsub hg hA fun a w hA1 => hQ a w (hA1.sub (pick_mem h2))
    · cases h
  · cases h
theorem partE_sound {P : Program} {q : EqT} {nt base s e : Nat} {c : Cfg} {w0 : World} {big : Array Oper} {A K L : List Fact} {ps : List Prop} {Q : Exit → Act → World → Prop} {R : List Nat} (hT : ∀ d, TabOkW P (c.T d) base w0) (hq : EqOkW P q base w0) (h : regK P q nt c (big.extract s e) A K = some (ps, L)) (hps : allP ps)
    (hg : (big.extract s e).toList.all (fun o => o.guard.isNone) = true) {a : Act} {w : World} (hA : Holds nt base w0 A a w)
    (hQ : ∀ a w, Holds nt base w0 L a w → wpOps P big Q R a w) : wpOps P big Q (List.range' s (big.extract s e).size ++ R) a w :=
  partK_sound hT hq h hps (fun i hi => by
    have hi' : i < min e big.size - s := by simpa using hi
    rw [Array.getElem?_extract, if_pos hi']) hg hA hQ
theorem wpOps_one {P : Program} {big : Array Oper} {Q : Exit → Act → World → Prop} {R : List Nat} {i : Nat} {o : Oper} (ho : big[i]? = some o) (hg : o.guard = none) {a : Act} {w : World} (h : o.wp P a w (fun a w => wpOps P big Q R a w) Q) : wpOps P big Q (i :: R) a w := by
  simp only [wpOps]
  rw [ho]
  simp only
  have hw : ∀ y, Region.wanted o y = true := fun y => by unfold Region.wanted; rw [hg]
  rw [if_pos (hw _)]
  exact Or.inl h
def opsOf : Code → Array Oper
  | .region _ ops _ => ops
  | _ => #[]
section
variable {P : Program} {nt base : Nat} {w0 : World} {A : List Fact} {a : Act} {w : World}
/-- a slice by its block's number -/
theorem Holds.im (h : Holds nt base w0 A a w) {s k o n m b : Nat} (h1 : Fact.slot s (.sl k o n m) ∈ A) (h2 : Fact.at k b ∈ A) : Holds nt base w0 (.slot s (.im (slV b o n m)) :: A) a w := by
  obtain ⟨β, g1, g2⟩ := h.facts
  have e1 := g1 _ h1
  have e2 := g1 _ h2
  simp only [Fact.ok] at e1 e2
  refine ⟨h.defers, h.size, h.below, h.heap, β, fun φ hφ => ?_, fun k1 k2 l1 l2 q1 q2 => ?_⟩
  · rcases List.mem_cons.1 hφ with rfl | hφ
    · show a.tmps[s]? = _
      rw [e1]
      simp [AV.den, e2, slV]
    · exact g1 φ hφ
  · rcases List.mem_cons.1 q1 with q1 | q1
    · cases q1
    · rcases List.mem_cons.1 q2 with q2 | q2
      · cases q2
      · exact g2 k1 k2 l1 l2 q1 q2
theorem Holds.old (h : Holds nt base w0 A a w) {k b : Nat} {l : List At} (h1 : Fact.row k true l ∈ A) (h2 : Fact.at k b ∈ A) : oldOf w b 0 l := by
  obtain ⟨β, g1, g2⟩ := h.facts
  obtain ⟨e1, e2, _⟩ := g1 _ h1
  have e3 := g1 _ h2
  simp only [Fact.ok] at e3
  rw [e3.1] at e1 e2
  rw [e3.2] at e2
  exact ⟨e1, e2⟩
theorem Holds.slot (h : Holds nt base w0 A a w) {s : Nat} {v : Value} (h1 : Fact.slot s (.im v) ∈ A) : a.tmps[s]? = some v := by
  obtain ⟨β, g1, g2⟩ := h.facts
  exact g1 _ h1
theorem Holds.slotF (h : Holds nt base w0 A a w) {s : Nat} {l : List At} (h1 : Fact.slot s (.fl l) ∈ A) : a.tmps[s]? = some (.agg (flat l).toArray) := by
  obtain ⟨β, g1, g2⟩ := h.facts
  exact g1 _ h1
/-- behind a call that leaves what was there -/
theorem Holds.put (h : Holds nt base w0 A a w) {w' : World} (hb : Below w.heap.size w w') {d : Nat} (hd : d < nt) (v : TV) (hA : ∀ φ ∈ A, clob (some d) none φ = false) : Holds nt base w0 (.slot d v.av :: A) (a.put (some d) v.den) w' := by
  obtain ⟨β, g1, g2⟩ := h.facts
  have hP := post_call (base := base) (β := β) (a := a) (w := w) (w' := w') (M := A) v.av (d := d) (by rw [h.size]; exact hd) h.heap hb
  rw [TV.av_den] at hP
  refine ⟨by rw [put_defers]; exact h.defers, by rw [put_size]; exact h.size, h.below.trans (hb.mono h.heap), Nat.le_trans h.heap hb.size, β, fun φ hφ => ?_, fun k1 k2 l1 l2 q1 q2 => ?_⟩
  · rcases List.mem_cons.1 hφ with rfl | hφ
    · exact hP.ok _ (List.mem_singleton.2 rfl)
    · exact keep hP (g1 φ hφ) (hA φ hφ) fun kk k own l q => by cases q
  · rcases List.mem_cons.1 q1 with q1 | q1
    · cases q1
    · rcases List.mem_cons.1 q2 with q2 | q2
      · cases q2
      · exact g2 k1 k2 l1 l2 q1 q2
end
/-- blocks, one after another -/
def cat (f : Nat → List At) : Nat → Nat → List At
  | _, 0 => []
  | s, n + 1 => f s ++ cat f (s + 1) n
theorem cat_size {f : Nat → List At} {c : Nat} (h : ∀ j, fsz (f j) = c) : ∀ n s, fsz (cat f s n) = n * c
  | 0, s => by simp [cat, fsz]
  | n + 1, s => by
    show fsz (f s ++ cat f (s + 1) n) = _
    rw [fsz_append, h, cat_size h n, Nat.add_mul, Nat.one_mul, Nat.add_comm]
/-- the first i blocks are laid -/
def laid (f : Nat → List At) (z : List At) (N i : Nat) : List At := cat f 0 i ++ cat (fun _ => z) i (N - i)
/-- cells of one value -/
def Same (l : List Value) (v : Value) : Prop := l = List.replicate l.length v
theorem same_app {l m : List Value} {v : Value} (h : Same l v) (k : Same m v) : Same (l ++ m) v := by
  unfold Same at *
  rw [h, k]
  simp [List.replicate_append_replicate]
theorem cat_same {z : List At} {v : Value} (h : Same (flat z) v) : ∀ n s, Same (flat (cat (fun _ => z) s n)) v
  | 0, s => rfl
  | n + 1, s => by
    show Same (flat (z ++ cat (fun _ => z) (s + 1) n)) v
    rw [flat_append]
    exact same_app h (cat_same h n (s + 1))
/-- a slice of zeros is made -/
theorem made {P : Program} {t e : TypeId} {i : TypeInfo} {zv : Value} {z : List At} {v : Value} {N : Nat} (ht : P.underlying t = some (.slice e)) (hi : P.info? e = some i) (hz : i.zero = some zv) (hs : i.size = fsz z) (hv : zv.cells.toList = List.replicate i.size v) (hsame : Same (flat z) v) (h0 : 0 < fsz z)
    (hb : i.bytes * N ≤ 281474976710656) (hN : N < 4611686018427387904) :
    ∃ e, ∀ w : World, (Instr.makeSlice t (iI N) (iI N)).run P w = .ok (.slice (some ⟨w.heap.size, 0, none⟩) N N) (w.alloc (.cells (flat (cat (fun _ => z) 0 N)).toArray e)) := by
  refine ⟨e, fun w => ?_⟩
  have hr := Go.run_make (P := P) w t e i zv ht hi hz .i64 .i64 (N : Int) (N : Int) (by omega) (Int.le_refl _) (by rw [← Int.natCast_mul]; omega) (by omega)
  refine Eq.trans hr ?_
  have hsz : zv.cells.size = i.size := by rw [← Array.length_toList, hv, List.length_replicate]
  have hc : madeCells zv.cells (N * i.size) = (flat (cat (fun _ => z) 0 N)).toArray := by
    have hl := cat_size (f := fun _ => z) (c := fsz z) (fun _ => rfl) N 0
    have h2 := cat_same hsame N 0
    rw [h2, flat_len, hl, ← hs]
    unfold madeCells
    apply Array.ext
    · simp
    · intro j h1 h3
      simp only [Array.getElem_map, Array.getElem_range, List.getElem_toArray, List.getElem_replicate]
      have hj : j % zv.cells.size < zv.cells.size := Nat.mod_lt _ (by rw [hsz, hs]; exact h0)
      have e1 : zv.cells.toList[j % zv.cells.size]? = some v := by
        rw [hv, List.getElem?_replicate, if_pos (by omega)]
      rw [Array.getElem?_toList] at e1
      rw [getElem!_def, e1]
  simp only [Int.toNat_natCast, hc]
end Go.Proofs.YtaingnhikbaplaaGreat.Ex
namespace Go.Proofs.YtaingnhikbaplaaGreat.Ex
set_option linter.unusedVariables false
set_option linter.unusedSimpArgs false
open Go.RowKit

theorem wp_rangeP {P : Program} {id : Nat} {ops : Array Oper} {l : List Nat} (hl : List.range ops.size = l) {Q : Exit → Act → World → Prop} {a : Act} {w : World} (h : wpOps P ops Q l a w) : (Code.region id ops false).wp P Q a w := wp_region (by rw [hl]; exact h)
/-- a function's end, and more that is told of the world -/
theorem fn_leaveR {P : Program} {fn : Func} {A : List Fact} {l : List TV} {r : RV} {nt base : Nat} {w0 : World} (h1 : resTs P A fn.results.toList = some l) (h2 : rv l = some r) {a : Act} {w' : World} (hA : Holds nt base w0 A a w') {R : Ending → World → Prop} (hR : R (.returned r.den) w') : bodyPost P fn R .ret a w' := by
  obtain ⟨β', hok, _⟩ := hA.facts
  have hres : (results fn a.tmps).run P w' = .ok r.den w' := by
    have := resTs_spec hok h1
    show ((fn.results.mapM (resF a.tmps)) >>= fun vs => pure (if h : vs.size = 1 then vs[0] else .tuple vs) : Sem Value).run P w' = _
    have hm : (List.toArray <$> fn.results.toList.mapM (resF a.tmps)).run P w' = .ok (l.map TV.den).toArray w' := by simp [this]
    rw [Array.mapM_eq_mapM_toList, Sem.run_bind, hm, Result.andThen_ok, Sem.run_pure]
    exact congrArg (fun x => Result.ok x w') (rv_spec h2)
  exact ⟨hA.defers, _, hres, hR⟩
/-- the same facts, told from here on -/
theorem Holds.now {nt base : Nat} {w0 : World} {A : List Fact} {a : Act} {w : World} (h : Holds nt base w0 A a w) : Holds nt base w A a w := ⟨h.defers, h.size, Below.refl _ _, h.heap, h.facts⟩
/-- an old block is written -/
theorem Holds.setOld {nt base : Nat} {w0 : World} {A : List Fact} {a : Act} {w : World} (h : Holds nt base w0 A a w) (hA : A.all (fun φ => match φ with | .slot _ _ => true | .row _ o _ => o | .at _ _ => true | .app _ _ _ _ => false) = true) {b : Nat} (hb : b < base) (o : Nat) (vs : List Value) : Holds nt base (w.setCells b o vs) A a (w.setCells b o vs) := by
  obtain ⟨β, g1, g2⟩ := h.facts
  rw [List.all_eq_true] at hA
  refine ⟨h.defers, h.size, Below.refl _ _, by rw [setCells_size]; exact h.heap, β, fun φ hφ => ?_, g2⟩
  have e := g1 φ hφ
  have e2 := hA φ hφ
  cases φ with
  | slot s v => exact e
  | row k ow l =>
    have hown : ow = true := e2
    subst hown
    obtain ⟨e1, e2, e3, e4⟩ := e
    obtain ⟨e5, e6, e7⟩ := e3 rfl
    refine ⟨by rw [setCells_size]; exact e1, fun j v hj => ?_, fun _ => ⟨e5, e6, fun j => by rw [World.frozen?_setCells]; exact e7 j⟩, fun h => by cases h⟩
    rw [World.cell?_setCells_out _ _ _ _ _ (fun q _ => absurd q (by show (β k).1 ≠ b; omega))]
    exact e2 j v hj
  | «at» k b => exact e
  | app k e sz n => cases e2
/-- all but one block stay -/
theorem WrAt.refl (w : World) (b : Nat) : WrAt w w b [] := ⟨rfl, rfl, rfl, Nat.le_refl _, fun _ _ _ => rfl, Shape.refl _, fun _ => rfl⟩
theorem WrAt.below {w w1 w2 : World} {b : Nat} (hb : b < w.heap.size) (h : WrAt w w1 b []) (h2 : Below w.heap.size w1 w2) : WrAt w w2 b [] :=
  ⟨h2.os.trans h.os, h2.tape.trans h.tape, h2.output.trans h.output, Nat.le_trans h.size h2.size, fun k hk hne => (h2.block k hk).trans (h.block k hk hne),
    fun q cur e hq => by
      obtain ⟨c, h3, h4⟩ := h.shape q cur e hq
      exact ⟨c, (h2.block q (Array.getElem?_eq_some_iff.1 hq).1).trans h3, h4⟩, fun j => (World.frozen?_of_block (h2.block b hb)).trans (h.frozen j)⟩
theorem setCells_block (b : Nat) : ∀ (vs : List Value) (o : Nat) (w : World) (k : Nat), k ≠ b → (w.setCells b o vs).heap[k]? = w.heap[k]?
  | [], _, _, _, _ => rfl
  | v :: r, o, w, k, h => by
    rw [World.setCells, setCells_block b r (o + 1) _ k h]
    exact Below.heap_setCell w _ v k h
theorem setCells_os (b : Nat) : ∀ (vs : List Value) (o : Nat) (w : World), (w.setCells b o vs).os = w.os ∧ (w.setCells b o vs).tape = w.tape ∧ (w.setCells b o vs).output = w.output
  | [], _, _ => ⟨rfl, rfl, rfl⟩
  | v :: r, o, w => by rw [World.setCells]; exact setCells_os b r (o + 1) _
theorem WrAt.set {w w1 : World} {b : Nat} (h : WrAt w w1 b []) (o : Nat) (vs : List Value) : WrAt w (w1.setCells b o vs) b [] :=
  ⟨(setCells_os b vs o w1).1.trans h.os, (setCells_os b vs o w1).2.1.trans h.tape, (setCells_os b vs o w1).2.2.trans h.output, by rw [setCells_size]; exact h.size, fun k hk hne => (setCells_block b vs o w1 k hne).trans (h.block k hk hne),
    fun q cur e hq => by
      obtain ⟨c, h3, h4⟩ := h.shape q cur e hq
      obtain ⟨c2, h5, h6⟩ := setCells_shape b vs o w1 q c e h3
      exact ⟨c2, h5, h6.trans h4⟩, fun j => by rw [World.frozen?_setCells]; exact h.frozen j⟩
theorem range_set {w : World} {b : Nat} {l m : List Value} (hr : w.rangeAt b 0 l) (hl : m.length = l.length) : (w.setCells b 0 m).rangeAt b 0 m := fun j v hj => by
  have hlt : j < m.length := (List.getElem?_eq_some_iff.1 hj).1
  have hth : ∀ q, q < m.length → (w.cell? ⟨b, 0 + q, none⟩).isSome = true := fun q hq => by
    have := hr q (l[q]'(by omega)) (List.getElem?_eq_getElem _)
    rw [this]; rfl
  have h2 := World.cell?_setCells_in b m 0 w hth j hlt
  rw [h2, ← hj, List.getElem?_eq_getElem]
/-- what is told of old memory, of a world behind the call's beginning -/
theorem extN_ok {P : Program} {x : Ext} {N : Nat} {w : World} (h2 : x.T2 = Fr0) (h3 : x.T3 = Fs0) (h4 : x.T4 = Wr0) (ho : ∀ b o l, x.old b o l → b < N ∧ w.rangeAt b o (flat l)) : EqOkW P { qG P with x := x } N w :=
  ⟨(qG_ok P).1, fun w' hb => ⟨fun b o l h => below_range hb (ho b o l h).1 (ho b o l h).2, fun f cs pre r hg => by (rw [h2] at hg; cases hg), fun f cs pre r hg => by (rw [h3] at hg; cases hg), fun f cs pre j l hg => by (rw [h4] at hg; cases hg)⟩⟩
/-- the store of a flat value into an old block -/
theorem store_old {P : Program} {o : Oper} {t : Nat} {x y : Operand} {b n : Nat} {p : List At} {l : List Value} {a : Act} {w : World} {K : Act → World → Prop} {Q : Exit → Act → World → Prop} (ho : o.op = .store t x y) (hd : o.dst = none)
    (hx : a.eval x = .pointer (some ⟨b, 0, none⟩)) (hy : a.eval y = .agg (flat p).toArray) (hs : sizeT P t = some n) (hn : fsz p = n) (hc : p.all cOk = true) (hr : w.rangeAt b 0 l) (hl : l.length = n) (hf : ∀ j, w.frozen? ⟨b, j, none⟩ = false)
    (hK : K a (w.setCells b 0 (flat p))) : o.wp P a w K Q := by
  obtain ⟨ii, hi, hin⟩ := sizeT_spec hs
  have hsz : (flat p).length = n := by rw [flat_len, hn]
  have hth : w.there b 0 (flat p).toArray.size := fun j hj => by
    have hj' : j < l.length := by rw [hl, ← hsz]; simpa using hj
    refine ⟨?_, hf _⟩
    have := hr j (l[j]'hj') (List.getElem?_eq_getElem _)
    rw [this]; rfl
  have hst := run_storeVar_mid (P := P) w b 0 t (flat p).toArray hth (by rw [hi]; simp [hin, hsz]) (all_oneCell_toArray (flat_oneC hc))
  have hrun : (execOp a.eval o).run P w = .ok .skip (w.setCells b 0 (flat p)) := by
    simp [execOp, ho, Instr.storeAt, hx, Instr.sureAddr, hy, hst]
  unfold Oper.wp
  rw [hrun]
  show K (a.put o.dst undef) _
  rw [hd]
  exact hK

/-- a loop by an invariant: so many rounds, then out -/
theorem loop_inv {P : Program} {c : Code} {Q : Exit → Act → World → Prop} (I : Nat → Act → World → Prop) (N : Nat)
    (hstep : ∀ i, i < N → ∀ a w, I i a w → ∀ R : Act → World → Prop, (∀ a w, I (i + 1) a w → R a w) → c.wp P (Exit.then R Q) a w) (hend : ∀ a w, I N a w → ∀ R : Act → World → Prop, c.wp P (Exit.then R Q) a w)
    {a : Act} {w : World} (h : I 0 a w) : (Code.loop c).wp P Q a w := by
  have key : ∀ m i a w, i + m = N → I i a w → Un P c Q (m + 1) a w := by
    intro m
    induction m with
    | zero =>
      intro i a w hi hA
      have : i = N := by omega
      subst this
      exact hend a w hA _
    | succ m ih =>
      intro i a w hi hA
      exact hstep i (by omega) a w hA _ fun a w hA1 => ih (i + 1) a w (by omega) hA1
  exact wp_loop_un (key N 0 a w (by omega) h)
end Go.Proofs.YtaingnhikbaplaaGreat.Ex
namespace Go.Proofs.YtaingnhikbaplaaGreat.Ex
set_option linter.unusedVariables false
set_option linter.unusedSimpArgs false
open Go.RowKit

def clV (b : Nat) : Value := .func (.func 212) #[] #[.pointer (some ⟨b, 0, none⟩)]
noncomputable def sqCode : Code := (Tryz.f136.body).getD .skip
noncomputable def c0 : Nat → Cfg := fun _ => ⟨fun _ => T_rExp12 true, fun _ => true, fun _ => none⟩
set_option maxRecDepth 100000 in
theorem sq_s0 (x : Q12) : runK Tryz.prog qN Tryz.f136.ntmps c0 40 (cA sqCode) (argF 0 [.v (.fl (e12 x))]) [.slot 1 (.pt 1 0), .row 1 true (e12 x)] = some ([], .nrm, [.slot 1 (.pt 1 0), .row 1 true (e12 x)]) := by kernel_rfl
set_option maxRecDepth 100000 in
theorem sq_s1 (x : Q12) (b : Nat) : runK Tryz.prog qN Tryz.f136.ntmps c0 40 (cB sqCode) [.at 1 b, .slot 1 (.pt 1 0), .row 1 true (e12 x)] [.slot 2 (.im (clV b)), .row 1 true (e12 x), .at 1 b] = some ([], .rt, [.slot 2 (.im (clV b)), .row 1 true (e12 x), .at 1 b]) := by kernel_rfl
theorem sq_code : sqCode = .seq (cA sqCode) (cB sqCode) := by kernel_rfl
theorem squares_calls (x : Q12) (args : List Value) (w : World) (ha : CAs w [.v (.fl (e12 x))] args) : Calls Tryz.prog 136 args.toArray w (fun e w' => ∃ b, e = .returned (clV b) ∧ Below w.heap.size w w' ∧ w.heap.size ≤ b ∧ b < w'.heap.size ∧ w'.rangeAt b 0 (flat (e12 x)) ∧ ∀ j, w'.frozen? ⟨b, j, none⟩ = false) := by
  refine fn_enter Tryz.func136 (c := sqCode) rfl ha (Nat.le_of_ble_eq_true (by kernel_rfl)) fun a w' hA => ?_
  rw [sq_code]
  refine wp_seq (runK_sound hmix (fun _ _ => ok_rExp12 true) qN_ok (sq_s0 x) trivial hA fun a w' hA => ?_)
  obtain ⟨b, hA⟩ := hA.at (k := 1) (l := e12 x) (by simp)
  refine runK_sound hmix (fun _ _ => ok_rExp12 true) qN_ok (sq_s1 x b) trivial hA fun a w' hA => ?_
  refine fn_leaveR (l := [.im (clV b)]) (r := .one (.im (clV b))) (by kernel_rfl) (by kernel_rfl) hA ?_
  obtain ⟨β, g1, g2⟩ := hA.facts
  obtain ⟨e1, e2, e3, _⟩ := g1 (.row 1 true (e12 x)) (by simp)
  obtain ⟨e4, e5, e6⟩ := e3 rfl
  obtain ⟨e7, e8⟩ := g1 (.at 1 b) (by simp)
  rw [e7] at e1 e2 e4 e6
  rw [e8] at e2
  exact ⟨b, rfl, hA.below, e4, e1, e2, e6⟩

noncomputable def qcCode : Code := (Tryz.f212.body).getD .skip
noncomputable def qcLoop : Code := cIn (cIn (cB (cA (cB qcCode))))
def qF0 (k : Nat) (b : Nat) : List Fact := [.slot 0 (.im (iI k)), .slot 1 (.im (ptV b 0)), .slot 3 (.pt 3 0), .row 3 true (e12 F12.zero)]
def qF (k i : Nat) (b : Nat) : List Fact := [.slot 1 (.im (ptV b 0)), .slot 3 (.pt 3 0), .row 3 true (e12 F12.zero), .slot 4 (.im (iI k)), .slot 5 (.im (iI i))]
noncomputable def c1 (n : Nat → Option Value) : Nat → Cfg := fun _ => ⟨fun _ => T_rExp12 true, fun _ => true, n⟩
set_option maxRecDepth 100000 in
theorem qc_s0 (k b : Nat) : runK Tryz.prog qN Tryz.f212.ntmps c0 40 (cA qcCode) (argF 0 [.v (.im (iI k)), .v (.im (ptV b 0))]) (qF0 k b) = some ([], .nrm, qF0 k b) := by kernel_rfl
set_option maxRecDepth 100000 in
theorem qc_s1 (k b : Nat) : runK Tryz.prog qN Tryz.f212.ntmps c0 40 (cA (cA (cB qcCode))) (qF0 k b) (qF k 0 b) = some ([], .nrm, qF k 0 b) := by kernel_rfl
set_option maxRecDepth 100000 in
theorem qc_h (k i b : Nat) (c : Bool) : runK Tryz.prog qN Tryz.f212.ntmps (c1 (fun s => bif Nat.beq s 6 then some (.bool c) else none)) 40 (cA qcLoop) (qF k i b) (.slot 6 (.im (.bool c)) :: qF k i b) = some ([intOp .lss .i64 (Int.ofNat i) (Int.ofNat k) = some (.bool c)], .nrm, .slot 6 (.im (.bool c)) :: qF k i b) := by kernel_rfl
set_option maxRecDepth 100000 in
theorem qc_c1 (k i b : Nat) : runK Tryz.prog qN Tryz.f212.ntmps c0 40 (cA (cB qcLoop)) (.slot 6 (.im (.bool true)) :: qF k i b) (qF k i b) = some ([], .nrm, qF k i b) := by kernel_rfl
set_option maxRecDepth 100000 in
theorem qc_c0 (k i b : Nat) : runK Tryz.prog qN Tryz.f212.ntmps c0 40 (cA (cB qcLoop)) (.slot 6 (.im (.bool false)) :: qF k i b) (qF k i b) = some ([], .ex 0, qF k i b) := by kernel_rfl
noncomputable def sqOld (u : Q12) (b : Nat) : Ext := { Ext.none with ld := fun s => bif Nat.beq s 7 then some (e12 u) else bif Nat.beq s 10 then some (e12 u) else none, old := fun b' o l => b' = b ∧ o = 0 ∧ l = e12 u }
noncomputable def oSq (x : Q12) : List Prop × RV := ([inC x], .one (.fl (e12 (F12.mul x x))))
set_option maxRecDepth 100000 in
theorem run_psquare (x : N12) : funA Tryz.prog (T_rExp12 true) qN (fun _ => true) Tryz.f201 40 [.v (.fl (q12 x))] = some ([inC (m12 x)], .one (.fl (e12 (F12.mul (m12 x) (m12 x))))) := by kernel_rfl
noncomputable def T_sq : Tab := (T_rExp12 true).add 201 (g1 rd12 oSq)
theorem ok_sq : TabOk Tryz.prog T_sq := (ok_rExp12 true).add Tryz.func201 (by kernel_rfl) (by kernel_rfl) (g1_ok rd12_ok fun x hp args w ha => by
  have h := fun_sound hmix (ok_rExp12 true) qN_ok Tryz.func201 (run_psquare (nv12 x)) (by rw [m12_nv]; exact hp) (args := args) (w := w) (by
    match args, ha with
    | [v], ha => exact ⟨ha.1, trivial⟩
    | [], ha => exact ha.elim
    | _ :: _ :: _, ha => exact ha.2.elim)
  rw [m12_nv] at h
  exact h)
noncomputable def cq : Nat → Cfg := fun _ => ⟨fun _ => T_sq, fun _ => true, fun _ => none⟩
set_option maxRecDepth 100000 in
theorem qc_r (k i b : Nat) (u : Q12) : regK Tryz.prog { qG Tryz.prog with x := sqOld u b } Tryz.f212.ntmps (cq 0) ((opsOf (cIn (cA (cB (cB qcLoop))))).extract 0 2) (qF k i b) (.slot 8 (.fl (e12 (F12.mul u u))) :: qF k i b) = some ([b = b ∧ 0 = 0 ∧ e12 u = e12 u, fsz (e12 u) = 48, inC u], .slot 8 (.fl (e12 (F12.mul u u))) :: qF k i b) := by kernel_rfl
set_option maxRecDepth 100000 in
theorem qc_i (k i b : Nat) : runK Tryz.prog qN Tryz.f212.ntmps (c1 (fun s => bif Nat.beq s 9 then some (iI (i + 1)) else none)) 40 (cB (cB (cB qcLoop))) (qF k i b) (qF k (i + 1) b) = some ([intOp .add .i64 (Int.ofNat i) 1 = some (iI (i + 1))], .nrm, qF k (i + 1) b) := by kernel_rfl
set_option maxRecDepth 100000 in
theorem qc_e (k b : Nat) (u : Q12) : runK Tryz.prog { qG Tryz.prog with x := sqOld u b } Tryz.f212.ntmps c0 40 (cB (cB qcCode)) (qF k k b) [.slot 3 (.pt 3 0), .row 3 true (e12 u)] = some ([b = b ∧ 0 = 0 ∧ e12 u = e12 u, fsz (e12 u) = 48], .rt, [.slot 3 (.pt 3 0), .row 3 true (e12 u)]) := by kernel_rfl
theorem qc_code : qcCode = .seq (cA qcCode) (.seq (.seq (cA (cA (cB qcCode))) (.block 0 (.loop qcLoop))) (cB (cB qcCode))) := by kernel_rfl
theorem qc_lcode : qcLoop = .seq (cA qcLoop) (.seq (cA (cB qcLoop)) (.seq (.block 1 (.region 3 (opsOf (cIn (cA (cB (cB qcLoop))))) false)) (cB (cB (cB qcLoop))))) := by kernel_rfl
structure St (w : World) (b : Nat) (A : List Fact) (u : Q12) (a : Act) (wi : World) : Prop where
  hold : Holds Tryz.f212.ntmps w.heap.size wi A a wi
  wr : WrAt w wi b []
  rng : wi.rangeAt b 0 (flat (e12 u))
theorem St.step {w : World} {b : Nat} (hb : b < w.heap.size) {A L : List Fact} {u : Q12} {a a2 : Act} {wi w2 : World} (h : St w b A u a wi) (h2 : Holds Tryz.f212.ntmps w.heap.size wi L a2 w2) : St w b L u a2 w2 :=
  ⟨h2.now, h.wr.below hb h2.below, below_range h2.below hb h.rng⟩
theorem e12_cOk (x : Q12) : (e12 x).all cOk = true := by kernel_rfl
theorem e12_sz (x : Q12) : fsz (e12 x) = 48 := by kernel_rfl
theorem pw_dbl (x : Q12) (i : Nat) : F12.mul (pwK F12 x (2 ^ i)) (pwK F12 x (2 ^ i)) = pwK F12 x (2 ^ (i + 1)) := by
  rw [← pwK_add]
  congr 1
  rw [Nat.pow_succ]; omega
theorem qc_calls (k : Nat) (hk : k < 4611686018427387904) (x : Q12) (hx : inC x) (b : Nat) (w : World) (hb : b < w.heap.size) (hr : w.rangeAt b 0 (flat (e12 x))) (hf : ∀ j, w.frozen? ⟨b, j, none⟩ = false) :
    Calls Tryz.prog 212 #[iI k, ptV b 0] w (fun e w' => e = .returned (.agg (flat (e12 (pwK F12 x (2 ^ k)))).toArray) ∧ WrAt w w' b [] ∧ w'.rangeAt b 0 (flat (e12 (pwK F12 x (2 ^ k))))) := by
  have hT : ∀ (n d : Nat) (wi : World), TabOkW Tryz.prog (T_rExp12 true) w.heap.size wi := fun _ _ wi => (ok_rExp12 true).w _ _
  have hTq : ∀ (d : Nat) (wi : World), TabOkW Tryz.prog T_sq w.heap.size wi := fun _ wi => ok_sq.w _ _
  have hq : ∀ wi : World, EqOkW Tryz.prog qN w.heap.size wi := fun wi => qN_ok.w _ _
  have hqo : ∀ (u : Q12) (wi : World), wi.rangeAt b 0 (flat (e12 u)) → EqOkW Tryz.prog { qG Tryz.prog with x := sqOld u b } w.heap.size wi := fun u wi h => extN_ok rfl rfl rfl fun b' o l e => by
    obtain ⟨rfl, rfl, rfl⟩ := e
    exact ⟨hb, h⟩
  refine fn_enter Tryz.func212 (c := qcCode) rfl (args := [iI k, ptV b 0]) (cs := [.v (.im (iI k)), .v (.im (ptV b 0))]) ⟨rfl, rfl, trivial⟩ (Nat.le_of_ble_eq_true (by kernel_rfl)) fun a w' hA => ?_
  have S : St w b _ x a w' := ⟨hA.now, (WrAt.refl w b).below hb hA.below, below_range hA.below hb hr⟩
  clear hA
  rw [qc_code]
  refine wp_seq (runKW_sound hmix (fun n d => hT n d _) (hq _) (qc_s0 k b) trivial S.hold fun a w2 hA => ?_)
  replace S := S.step hb hA
  clear hA
  refine wp_seq (wp_seq (runKW_sound hmix (fun n d => hT n d _) (hq _) (qc_s1 k b) trivial S.hold fun a w3 hA => ?_))
  replace S := S.step hb hA
  clear hA
  refine wp_block ?_
  refine loop_inv (fun i a wi => St w b (qF k i b) (pwK F12 x (2 ^ i)) a wi) k (fun i hi a wi S R hR => ?_) (fun a wi S R => ?_) (by rw [Nat.pow_zero, pwK_1]; exact S)
  · rw [qc_lcode]
    refine wp_seq (runKW_sound hmix (fun n d => (ok_rExp12 true).w _ _) (hq _) (qc_h k i b true) ⟨o_lss_t hi, trivial⟩ S.hold fun a w4 hA => ?_)
    replace S := S.step hb hA
    clear hA
    refine wp_seq (runKW_sound hmix (fun n d => hT n d _) (hq _) (qc_c1 k i b) trivial S.hold fun a w5 hA => ?_)
    replace S := S.step hb hA
    clear hA
    refine wp_seq (wp_block (wp_rangeP (l := List.range' 0 ((opsOf (cIn (cA (cB (cB qcLoop))))).extract 0 2).size ++ (2 :: [])) (by kernel_rfl) ?_))
    refine partE_sound (c := cq 0) (fun d => hTq d _) (hqo _ _ S.rng) (qc_r k i b _) ⟨⟨rfl, rfl, rfl⟩, e12_sz _, inC_pw hx _, trivial⟩ (by kernel_rfl) S.hold fun a w6 hA => ?_
    replace S := S.step hb hA
    clear hA
    have h8 := S.hold.slotF (s := 8) (l := e12 (F12.mul (pwK F12 x (2 ^ i)) (pwK F12 x (2 ^ i)))) (by simp)
    have h1 := S.hold.slot (s := 1) (v := ptV b 0) (by simp [qF])
    obtain ⟨o, ho, hoo, hod, hog⟩ : ∃ o, (opsOf (cIn (cA (cB (cB qcLoop)))))[2]? = some o ∧ o.op = .store 59 (.tmp 1) (.tmp 8) ∧ o.dst = none ∧ o.guard = none := ⟨_, rfl, rfl, rfl, rfl⟩
    refine wpOps_one ho hog (store_old (b := b) (n := 48) (p := e12 (F12.mul (pwK F12 x (2 ^ i)) (pwK F12 x (2 ^ i)))) (l := flat (e12 (pwK F12 x (2 ^ i)))) hoo hod (by simp [Act.eval, h1, ptV]) (by simp [Act.eval, h8]) (by kernel_rfl) (e12_sz _) (e12_cOk _) S.rng (by rw [flat_len, e12_sz]) (fun j => by rw [S.wr.frozen]; exact hf j) ?_)
    have S2 : St w b (.slot 8 (.fl (e12 (F12.mul (pwK F12 x (2 ^ i)) (pwK F12 x (2 ^ i))))) :: qF k i b) (pwK F12 x (2 ^ (i + 1))) a (w6.setCells b 0 (flat (e12 (F12.mul (pwK F12 x (2 ^ i)) (pwK F12 x (2 ^ i)))))) :=
      ⟨S.hold.setOld (by kernel_rfl) hb 0 _, S.wr.set 0 _, by rw [← pw_dbl]; exact range_set S.rng (by rw [flat_len, flat_len, e12_sz, e12_sz])⟩
    show (cB (cB (cB qcLoop))).wp _ _ _ _
    refine runKW_sound hmix (fun n d => hT n d _) (hq _) (qc_i k i b) ⟨o_add (k := 1) (by omega), trivial⟩ (S2.hold.sub fun φ h => List.mem_cons_of_mem _ h) fun a w7 hA => ?_
    exact hR _ _ (S2.step hb hA)
  · rw [qc_lcode]
    refine wp_seq (runKW_sound hmix (fun n d => (ok_rExp12 true).w _ _) (hq _) (qc_h k k b false) ⟨o_lss_f (Nat.le_refl _), trivial⟩ S.hold fun a w4 hA => ?_)
    replace S := S.step hb hA
    clear hA
    refine wp_seq (runKW_sound hmix (fun n d => hT n d _) (hq _) (qc_c0 k k b) trivial S.hold fun a w5 hA => ?_)
    replace S := S.step hb hA
    clear hA
    show (cB (cB qcCode)).wp _ _ _ _
    refine runKW_sound hmix (fun n d => hT n d _) (hqo _ _ S.rng) (qc_e k b _) ⟨⟨rfl, rfl, rfl⟩, e12_sz _, trivial⟩ S.hold fun a w6 hA => ?_
    have S2 := S.step hb hA
    exact fn_leaveR (l := [.fl (e12 (pwK F12 x (2 ^ k)))]) (r := .one (.fl (e12 (pwK F12 x (2 ^ k))))) (by kernel_rfl) (by kernel_rfl) hA ⟨rfl, S2.wr, S2.rng⟩
end Go.Proofs.YtaingnhikbaplaaGreat.Ex
namespace Go.Proofs.YtaingnhikbaplaaGreat.Ex
set_option linter.unusedVariables false
set_option linter.unusedSimpArgs false
open Go.RowKit

theorem Holds.post {nt base : Nat} {w0 : World} {A : List Fact} {a : Act} {w : World} (h : Holds nt base w0 A a w) {dst kill : Option Nat} {out : List Fact} {a' : Act} {w' : World}
    (hP : ∀ β, (∀ φ ∈ A, φ.ok base β a w) → ∃ β', PostB base β β' a w dst A out kill a' w') : Holds nt base w0 (out ++ A.filter (fun φ => !(clob dst kill φ))) a' w' := by
  obtain ⟨β, g1, g2⟩ := h.facts
  obtain ⟨β', P⟩ := hP β g1
  have hkill : ∀ φ ∈ A, clob dst kill φ = false → ∀ kk k own l, kill = some kk → φ = .row k own l → (β kk).1 ≠ (β k).1 := fun φ hφ hc kk k own l hkk e => by
    obtain ⟨l0, hl0⟩ := P.kills kk hkk
    have hne : kk ≠ k := fun e2 => by
      rw [e] at hc
      simp only [clob, Bool.or_eq_false_iff] at hc
      have := optIs_iff.2 (e2 ▸ hkk : kill = some k)
      rw [hc.2] at this; cases this
    subst e
    cases own with
    | true => exact g2 kk k l0 l hl0 hφ hne
    | false =>
      have h1 := (g1 _ hl0).2.2.1 rfl
      have h2 := (g1 _ hφ).2.2.2 rfl
      have := h1.1
      omega
  have hmem : ∀ φ ∈ A.filter (fun φ => !(clob dst kill φ)), φ ∈ A ∧ clob dst kill φ = false := fun φ hφ => by
    obtain ⟨h1, h2⟩ := List.mem_filter.1 hφ
    exact ⟨h1, by simpa using h2⟩
  have hβ : ∀ k own l, Fact.row k own l ∈ A.filter (fun φ => !(clob dst kill φ)) → β' k = β k := fun k own l hφ => by
    obtain ⟨_, hc⟩ := hmem _ hφ
    simp only [clob, Bool.or_eq_false_iff] at hc
    exact P.beta k fun e => by have := optIs_iff.2 e; rw [hc.1] at this; cases this
  have hno : ∀ k l k' l', Fact.row k true l ∈ out → Fact.row k' true l' ∈ A.filter (fun φ => !(clob dst kill φ)) → k ≠ k' → (β' k).1 ≠ (β' k').1 := fun k l k' l' hk hk' hne => by
    rw [hβ k' true l' hk']
    obtain ⟨hA', hc⟩ := hmem _ hk'
    rcases P.rows k l hk with ⟨h2, _⟩ | ⟨h2, l0, h3⟩ | ⟨h2, k0, l0, hk0, he, h3⟩
    · have := (g1 _ hA').1
      omega
    · rw [P.beta k h2]
      exact g2 k k' l0 l' h3 hA' hne
    · rw [he]
      refine g2 k0 k' l0 l' h3 hA' fun e => ?_
      subst e
      simp only [clob, Bool.or_eq_false_iff] at hc
      have := optIs_iff.2 hk0
      rw [hc.2] at this; cases this
  refine ⟨by rw [P.defers]; exact h.defers, by rw [P.size]; exact h.size, P.below w0 h.below, Nat.le_trans h.heap P.heap, β', fun φ hφ => ?_, fun k k' l l' hk hk' hne => ?_⟩
  · rcases List.mem_append.1 hφ with hφ | hφ
    · exact P.ok φ hφ
    · obtain ⟨h1, h2⟩ := hmem φ hφ
      exact keep P (g1 φ h1) h2 (hkill φ h1 h2)
  · rcases List.mem_append.1 hk with hk | hk
    · rcases List.mem_append.1 hk' with hk' | hk'
      · exact absurd (P.one k k' l l' hk hk') hne
      · exact hno k l k' l' hk hk' hne
    · rcases List.mem_append.1 hk' with hk' | hk'
      · exact fun e => hno k' l' k l hk' hk (Ne.symm hne) e.symm
      · rw [hβ k true l hk, hβ k' true l' hk']
        exact g2 k k' l l' (hmem _ hk).1 (hmem _ hk').1 hne
/-- a value behind a call, and a new block -/
theorem post_freshV {base : Nat} {β : Nat → Bk} {a : Act} {w w' : World} {d : Nat} {M : List Fact} (v : Value) (l : List At) (b : Nat) (h : d < a.tmps.size) (hB : base ≤ w.heap.size) (hb : Below w.heap.size w w')
    (h1 : w.heap.size ≤ b) (h2 : b < w'.heap.size) (h3 : w'.rangeAt b 0 (flat l)) (h4 : ∀ j, w'.frozen? ⟨b, j, none⟩ = false) :
    PostB base β (β1 β d b) a w (some d) M [.slot d (.im v), .row d true l, .at d b] none (a.put (some d) v) w' where
  defers := rfl
  size := put_size _ _ _
  tmps s hs := put_ne _ _ _ _ hs
  beta k hk := β1_ne _ _ _ _ hk
  heap := hb.size
  mem p hp _ := ⟨hb.cell hp, hb.frozen hp⟩
  shape := Shape.below hb
  below _ h := h.trans (hb.mono hB)
  ok φ hφ := by
    simp only [List.mem_cons, List.not_mem_nil, or_false] at hφ
    rcases hφ with rfl | rfl | rfl
    · exact put_get _ _ _ h
    · exact ⟨by rw [β1_same]; exact h2, by rw [β1_same]; exact h3, fun _ => ⟨by rw [β1_same]; exact Nat.le_trans hB h1, by rw [β1_same], fun j => by rw [β1_same]; exact h4 j⟩, fun h => by cases h⟩
    · exact ⟨by rw [β1_same], by rw [β1_same]⟩
  rows k l' hk := by
    simp only [List.mem_cons, List.not_mem_nil, or_false, reduceCtorEq, false_or] at hk
    cases hk
    exact Or.inl ⟨by rw [β1_same]; exact h1, rfl⟩
  one k k' l1 l2 hk hk' := by
    simp only [List.mem_cons, List.not_mem_nil, or_false, reduceCtorEq, false_or] at hk hk'
    cases hk; cases hk'; rfl
  kills k hk := by cases hk
/-- a value behind a call that writes one of the caller's own blocks -/
theorem post_wr {base : Nat} {β : Nat → Bk} {a : Act} {w w' : World} {d k b : Nat} {M : List Fact} {l0 l' : List At} (v : TV) (h : d < a.tmps.size) (hkd : k ≠ d) (hrow : Fact.row k true l0 ∈ M) (hat : Fact.at k b ∈ M) (hM : ∀ φ ∈ M, φ.ok base β a w) (hB : base ≤ w.heap.size)
    (hwr : WrAt w w' b []) (hrg : w'.rangeAt b 0 (flat l')) : PostB base β β a w (some d) M [.slot d v.av, .row k true l'] (some k) (a.put (some d) v.den) w' := by
  obtain ⟨r1, r2, r3, r4⟩ := hM _ hrow
  obtain ⟨r5, r6, r7⟩ := r3 rfl
  obtain ⟨e1, e2⟩ := hM _ hat
  refine ⟨put_defers _ _ _, put_size _ _ _, fun s hs => put_ne _ _ _ _ hs, fun _ _ => rfl, hwr.size, fun p hp hne => ?_, hwr.shape, fun w0 h0 => ?_, fun φ hφ => ?_, fun k' l1 hk => ?_, fun k1 k2 l1 l2 hk hk' => ?_, fun k' hk => ?_⟩
  · have := hwr.block p.block hp (by rw [← e1]; exact hne k rfl)
    exact ⟨World.cell?_of_block this, World.frozen?_of_block this⟩
  · exact h0.trans ⟨hwr.os, hwr.tape, hwr.output, hwr.size, fun q hq => hwr.block q (by omega) (by omega)⟩
  · simp only [List.mem_cons, List.not_mem_nil, or_false] at hφ
    rcases hφ with rfl | rfl
    · show (a.put (some d) _).tmps[d]? = _
      rw [put_get _ _ _ h, TV.av_den]
    · refine ⟨Nat.lt_of_lt_of_le r1 hwr.size, by rw [e1, e2]; exact hrg, fun _ => ⟨r5, r6, fun q => ?_⟩, fun h => by cases h⟩
      have := hwr.frozen q
      rw [← e1] at this
      rw [this]; exact r7 q
  · simp only [List.mem_cons, List.not_mem_nil, or_false] at hk
    rcases hk with hk | hk
    · cases v <;> cases hk
    · cases hk
      exact Or.inr (Or.inl ⟨fun e => hkd (by injection e with e; exact e.symm), l0, hrow⟩)
  · simp only [List.mem_cons, List.not_mem_nil, or_false] at hk hk'
    rcases hk with hk | hk
    · cases v <;> cases hk
    · rcases hk' with hk' | hk'
      · cases v <;> cases hk'
      · cases hk; cases hk'; rfl
  · cases hk
    exact ⟨l0, hrow⟩
/-- a call by a name, whatever it answers -/
theorem wp_call_ex {P : Program} {o : Oper} {a : Act} {w : World} {K : Act → World → Prop} {Q : Exit → Act → World → Prop} {id : Nat} {xs : Array Operand} {ts : Array TypeId} {vs : List Value} {R : Ending → World → Prop} (ho : o.op = .call ⟨.value (.func id), xs, ts⟩) (hv : xs.toList.map a.eval = vs)
    (he : ∀ xs, (callFunc id xs).run P w = .ok (.enter id xs) w) (hc : Calls P id vs.toArray w R) (hK : ∀ e w', R e w' → ∃ v, e = .returned v ∧ K (a.put o.dst v) w') : o.wp P a w K Q := by
  have ea : xs.map a.eval = vs.toArray := by rw [← Array.toArray_toList (xs := xs.map a.eval), Array.toList_map, hv]
  have hrun : (execOp a.eval o).run P w = .ok (.enter id vs.toArray) w := by
    have hf : a.eval (.func id) = .func (.func id) #[] #[] := rfl
    simp [execOp, ho, resolve, Deferred.ofValue, hf, invoke, ea, he]
  unfold Oper.wp
  rw [hrun]
  refine Calls.mono hc ?_
  intro e w' hr
  obtain ⟨v, rfl, hk⟩ := hK e w' hr
  exact hk
/-- a call of a closure -/
theorem wp_call_cl {P : Program} {o : Oper} {a : Act} {w : World} {K : Act → World → Prop} {Q : Exit → Act → World → Prop} {id s : Nat} {cap : Array Value} {xs : Array Operand} {ts : Array TypeId} {vs : List Value} {R : Ending → World → Prop} (ho : o.op = .call ⟨.value (.tmp s), xs, ts⟩) (hs : a.eval (.tmp s) = .func (.func id) #[] cap) (hv : xs.toList.map a.eval = vs)
    (he : ∀ xs, (callFunc id xs).run P w = .ok (.enter id xs) w) (hc : Calls P id (vs ++ cap.toList).toArray w R) (hK : ∀ e w', R e w' → ∃ v, e = .returned v ∧ K (a.put o.dst v) w') : o.wp P a w K Q := by
  have ea : xs.map a.eval = vs.toArray := by rw [← Array.toArray_toList (xs := xs.map a.eval), Array.toList_map, hv]
  have hrun : (execOp a.eval o).run P w = .ok (.enter id (vs ++ cap.toList).toArray) w := by
    have e3 : vs.toArray ++ cap = (vs ++ cap.toList).toArray := by simp
    simp [execOp, ho, resolve, Deferred.ofValue, hs, invoke, ea, he]
  unfold Oper.wp
  rw [hrun]
  refine Calls.mono hc ?_
  intro e w' hr
  obtain ⟨v, rfl, hk⟩ := hK e w' hr
  exact hk
end Go.Proofs.YtaingnhikbaplaaGreat.Ex
