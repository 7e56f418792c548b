/-
  The reckoner: a region by parts; lists of blocks; made slices of zeros. Of whatever program. Conditions: none.
  The sum of points, each times its number, by tables. Conditions: what is asked of memory from before.
-/
import Derived.Laws.MakeOwn
import Derived.Test.YthlcjdcjnioeoaaGreatCk23
import Derived.Test.YthlcjdcjnioeoaaGreatCk25
namespace Go.Proofs.YthlcjdcjnioeoaaGreat.Ex
set_option linter.unusedVariables false
set_option linter.unusedSimpArgs false
open Go.RowKit

section
variable {E : Env} {ops big : Array Oper} {base : Nat} {w0 : World} {A A' : List Fact} {TF : List (Option Nat × Fact)} {rs : List Rec} {ps : List Prop} {Q : Exit → Act → World → Prop}
theorem seq_part {off : Nat} {R : List Nat} (hT : ∀ d, TabOkW E.P (E.T d) base w0) (hq : EqOkW E.P E.q base w0) (hrun : runR E false ops ops.toList 0 (A.map fun φ => (none, φ)) [] [] = some (ps, TF, rs)) (hps : allP ps) (hchk : chk false ops rs = true)
    (hsub : ∀ i, i < ops.size → big[off + i]? = ops[i]?) (hg : ∀ (i : Nat) (o : Oper), ops[i]? = some o → o.guard = none)
    (hQ : ∀ a w, Inv E false ops base w0 TF rs (fun i => i < ops.size) a w → wpOps E.P big Q R a w) :
    ∀ (m k : Nat) (a : Act) (w : World), k + m = ops.size → Inv E false ops base w0 TF rs (fun i => i < k) a w → wpOps E.P big Q (List.range' (off + k) m ++ R) a w
  | 0, k, a, w, hk, hI => by
    have : k = ops.size := by omega
    subst this
    exact hQ a w hI
  | m + 1, k, a, w, hk, hI => by
    have hlt : k < ops.size := by omega
    have ho : ops[k]? = some ops[k] := Array.getElem?_eq_getElem hlt
    have hst := step_inv hT hq hrun hps hchk (Q := Q) hI ho (Nat.lt_irrefl k) (fun j hj => by unfold dep at hj; simpa using hj)
    have hgk := hg k _ ho
    have hw1 : ∀ y, Region.wanted ops[k] y = true := fun y => by unfold Region.wanted; rw [hgk]
    rw [if_pos (hw1 _)] at hst
    simp only [List.range'_succ, List.cons_append, wpOps]
    rw [hsub k hlt, ho]
    simp only
    have hnext : ∀ a' w', Inv E false ops base w0 TF rs (fun j => j = k ∨ j < k) a' w' → wpOps E.P big Q (List.range' (off + k + 1) m ++ R) a' w' := fun a' w' h => by
      have := seq_part hT hq hrun hps hchk hsub hg hQ m (k + 1) a' w' (by omega) (by
        have : (fun j => j < k + 1) = fun j => j = k ∨ j < k := funext fun j => propext (by omega)
        rwa [this])
      rwa [← Nat.add_assoc] at this
    rw [if_pos (hw1 _)]
    exact Or.inl (Oper.wp_mono hnext hst)
/-- a part of a region's operations -/
theorem part_sound {off : Nat} {R : List Nat} (hT : ∀ d, TabOkW E.P (E.T d) base w0) (hq : EqOkW E.P E.q base w0) (h : regA E false ops A = some (ps, A')) (hps : allP ps)
    (hsub : ∀ i, i < ops.size → big[off + i]? = ops[i]?) (hg : ops.toList.all (fun o => o.guard.isNone) = true) {a : Act} {w : World} (hA : Holds E.nt base w0 A a w)
    (hQ : ∀ a w, Holds E.nt base w0 A' a w → wpOps E.P big Q R a w) : wpOps E.P big Q (List.range' off ops.size ++ R) a w := by
  unfold regA at h
  split at h
  · rename_i ps' TF rs hrun
    cases hc : (chk false ops rs && low false ops) <;> rw [hc] at h
    · cases h
    · cases h
      rw [Bool.and_eq_true] at hc
      have hg' : ∀ (i : Nat) (o : Oper), ops[i]? = some o → o.guard = none := fun i o ho => by
        rw [List.all_eq_true] at hg
        have := hg o (Array.mem_toList_iff.2 (Array.mem_of_getElem? ho))
        simpa using this
      have := seq_part (off := off) (R := R) (Q := Q) hT hq hrun hps hc.1 hsub hg' (fun a w hI => hQ a w (end_inv hrun (fun _ h => h) hI)) ops.size 0 a w (by omega) (by
        have : (fun i => i < 0) = fun _ : Nat => False := funext fun i => propext ⟨fun h => by omega, fun h => h.elim⟩
        rw [this]
        exact start_inv hrun hA)
      rwa [Nat.add_zero] at this
  · cases h
end
/-- a region's operations, and the facts at the places that K names -/
def regK (P : Program) (q : EqT) (nt : Nat) (c : Cfg) (ops : Array Oper) (A K : List Fact) : Option (List Prop × List Fact) :=
  match regA (mkE P q nt c) false ops A with
  | some (ps, A1) => match pick A1 K with | some L => some (ps, L) | none => none
  | none => none
theorem partK_sound {P : Program} {q : EqT} {nt base off : Nat} {c : Cfg} {w0 : World} {ops big : Array Oper} {A K L : List Fact} {ps : List Prop} {Q : Exit → Act → World → Prop} {R : List Nat} (hT : ∀ d, TabOkW P (c.T d) base w0) (hq : EqOkW P q base w0) (h : regK P q nt c ops A K = some (ps, L)) (hps : allP ps)
    (hsub : ∀ i, i < ops.size → big[off + i]? = ops[i]?) (hg : ops.toList.all (fun o => o.guard.isNone) = true) {a : Act} {w : World} (hA : Holds nt base w0 A a w)
    (hQ : ∀ a w, Holds nt base w0 L a w → wpOps P big Q R a w) : wpOps P big Q (List.range' off ops.size ++ R) a w := by
  unfold regK at h
  split at h
  · rename_i ps' A1 h1
    split at h
    · rename_i L' h2
      cases h
      exact part_sound (E := mkE P q nt c) hT hq h1 hps hsub hg hA fun a w hA1 => hQ a w (hA1.sub (pick_mem h2))
    · cases h
  · cases h
theorem partE_sound {P : Program} {q : EqT} {nt base s e : Nat} {c : Cfg} {w0 : World} {big : Array Oper} {A K L : List Fact} {ps : List Prop} {Q : Exit → Act → World → Prop} {R : List Nat} (hT : ∀ d, TabOkW P (c.T d) base w0) (hq : EqOkW P q base w0) (h : regK P q nt c (big.extract s e) A K = some (ps, L)) (hps : allP ps)
    (hg : (big.extract s e).toList.all (fun o => o.guard.isNone) = true) {a : Act} {w : World} (hA : Holds nt base w0 A a w)
    (hQ : ∀ a w, Holds nt base w0 L a w → wpOps P big Q R a w) : wpOps P big Q (List.range' s (big.extract s e).size ++ R) a w :=
  partK_sound hT hq h hps (fun i hi => by
    have hi' : i < min e big.size - s := by simpa using hi
    rw [Array.getElem?_extract, if_pos hi']) hg hA hQ
theorem wpOps_one {P : Program} {big : Array Oper} {Q : Exit → Act → World → Prop} {R : List Nat} {i : Nat} {o : Oper} (ho : big[i]? = some o) (hg : o.guard = none) {a : Act} {w : World} (h : o.wp P a w (fun a w => wpOps P big Q R a w) Q) : wpOps P big Q (i :: R) a w := by
  simp only [wpOps]
  rw [ho]
  simp only
  have hw : ∀ y, Region.wanted o y = true := fun y => by unfold Region.wanted; rw [hg]
  rw [if_pos (hw _)]
  exact Or.inl h
def opsOf : Code → Array Oper
  | .region _ ops _ => ops
  | _ => #[]
section
variable {P : Program} {nt base : Nat} {w0 : World} {A : List Fact} {a : Act} {w : World}
/-- a slice by its block's number -/
theorem Holds.im (h : Holds nt base w0 A a w) {s k o n m b : Nat} (h1 : Fact.slot s (.sl k o n m) ∈ A) (h2 : Fact.at k b ∈ A) : Holds nt base w0 (.slot s (.im (slV b o n m)) :: A) a w := by
  obtain ⟨β, g1, g2⟩ := h.facts
  have e1 := g1 _ h1
  have e2 := g1 _ h2
  simp only [Fact.ok] at e1 e2
  refine ⟨h.defers, h.size, h.below, h.heap, β, fun φ hφ => ?_, fun k1 k2 l1 l2 q1 q2 => ?_⟩
  · rcases List.mem_cons.1 hφ with rfl | hφ
    · show a.tmps[s]? = _
      rw [e1]
      simp [AV.den, e2, slV]
    · exact g1 φ hφ
  · rcases List.mem_cons.1 q1 with q1 | q1
    · cases q1
    · rcases List.mem_cons.1 q2 with q2 | q2
      · cases q2
      · exact g2 k1 k2 l1 l2 q1 q2
theorem Holds.old (h : Holds nt base w0 A a w) {k b : Nat} {l : List At} (h1 : Fact.row k true l ∈ A) (h2 : Fact.at k b ∈ A) : oldOf w b 0 l := by
  obtain ⟨β, g1, g2⟩ := h.facts
  obtain ⟨e1, e2, _⟩ := g1 _ h1
  have e3 := g1 _ h2
  simp only [Fact.ok] at e3
  rw [e3] at e1 e2
  exact ⟨e1, e2⟩
theorem Holds.slot (h : Holds nt base w0 A a w) {s : Nat} {v : Value} (h1 : Fact.slot s (.im v) ∈ A) : a.tmps[s]? = some v := by
  obtain ⟨β, g1, g2⟩ := h.facts
  exact g1 _ h1
theorem Holds.slotF (h : Holds nt base w0 A a w) {s : Nat} {l : List At} (h1 : Fact.slot s (.fl l) ∈ A) : a.tmps[s]? = some (.agg (flat l).toArray) := by
  obtain ⟨β, g1, g2⟩ := h.facts
  exact g1 _ h1
/-- behind a call that leaves what was there -/
theorem Holds.put (h : Holds nt base w0 A a w) {w' : World} (hb : Below w.heap.size w w') {d : Nat} (hd : d < nt) (v : TV) (hA : ∀ φ ∈ A, clob (some d) none φ = false) : Holds nt base w0 (.slot d v.av :: A) (a.put (some d) v.den) w' := by
  obtain ⟨β, g1, g2⟩ := h.facts
  have hP := post_call (base := base) (β := β) (a := a) (w := w) (w' := w') (M := A) v.av (d := d) (by rw [h.size]; exact hd) h.heap hb
  rw [TV.av_den] at hP
  refine ⟨by rw [put_defers]; exact h.defers, by rw [put_size]; exact h.size, h.below.trans (hb.mono h.heap), Nat.le_trans h.heap hb.size, β, fun φ hφ => ?_, fun k1 k2 l1 l2 q1 q2 => ?_⟩
  · rcases List.mem_cons.1 hφ with rfl | hφ
    · exact hP.ok _ (List.mem_singleton.2 rfl)
    · exact keep hP (g1 φ hφ) (hA φ hφ) fun kk k own l q => by cases q
  · rcases List.mem_cons.1 q1 with q1 | q1
    · cases q1
    · rcases List.mem_cons.1 q2 with q2 | q2
      · cases q2
      · exact g2 k1 k2 l1 l2 q1 q2
theorem wp_call_at {o : Oper} {K : Act → World → Prop} {Q : Exit → Act → World → Prop} {id : Nat} {xs : Array Operand} {ts : Array TypeId} {vs : List Value} {v : Value} (ho : o.op = .call ⟨.value (.func id), xs, ts⟩) (hv : xs.toList.map a.eval = vs)
    (he : ∀ xs, (callFunc id xs).run P w = .ok (.enter id xs) w) (hc : Calls P id vs.toArray w (fun e w' => e = .returned v ∧ Below w.heap.size w w')) (hK : ∀ w', Below w.heap.size w w' → K (a.put o.dst v) w') : o.wp P a w K Q := by
  have ea : xs.map a.eval = vs.toArray := by rw [← Array.toArray_toList (xs := xs.map a.eval), Array.toList_map, hv]
  have hrun : (execOp a.eval o).run P w = .ok (.enter id vs.toArray) w := by
    have hf : a.eval (.func id) = .func (.func id) #[] #[] := rfl
    simp [execOp, ho, resolve, Deferred.ofValue, hf, invoke, ea, he]
  unfold Oper.wp
  rw [hrun]
  refine Calls.mono hc ?_
  rintro e w' ⟨rfl, hb⟩
  exact hK w' hb
end
/-- blocks, one after another -/
def cat (f : Nat → List At) : Nat → Nat → List At
  | _, 0 => []
  | s, n + 1 => f s ++ cat f (s + 1) n
theorem cat_snoc (f : Nat → List At) : ∀ n s, cat f s (n + 1) = cat f s n ++ f (s + n)
  | 0, s => by simp [cat]
  | n + 1, s => by
    have := cat_snoc f n (s + 1)
    show f s ++ cat f (s + 1) (n + 1) = (f s ++ cat f (s + 1) n) ++ f (s + (n + 1))
    rw [this, List.append_assoc, show s + 1 + n = s + (n + 1) by omega]
theorem cat_size {f : Nat → List At} {c : Nat} (h : ∀ j, fsz (f j) = c) : ∀ n s, fsz (cat f s n) = n * c
  | 0, s => by simp [cat, fsz]
  | n + 1, s => by
    show fsz (f s ++ cat f (s + 1) n) = _
    rw [fsz_append, h, cat_size h n, Nat.add_mul, Nat.one_mul, Nat.add_comm]
theorem cat_split (f : Nat → List At) : ∀ (i n s : Nat), i < n → cat f s n = cat f s i ++ (f (s + i) ++ cat f (s + i + 1) (n - i - 1))
  | 0, n + 1, s, _ => rfl
  | i + 1, n + 1, s, h => by
    have := cat_split f i n (s + 1) (by omega)
    show f s ++ cat f (s + 1) n = (f s ++ cat f (s + 1) i) ++ _
    rw [this, List.append_assoc, show s + 1 + i = s + (i + 1) by omega, show n + 1 - (i + 1) - 1 = n - i - 1 by omega]
theorem sz_pos (a : At) : 0 < a.sz := by cases a <;> exact Nat.succ_pos _
theorem tk_app : ∀ (A X : List At), tk (A ++ X) (fsz A) = some A
  | [], X => by cases X <;> rfl
  | a :: r, X => by
    have h := sz_pos a
    show tk (a :: (r ++ X)) (a.sz + fsz r) = _
    unfold tk
    rw [show Nat.beq (a.sz + fsz r) 0 = false by cases hq : Nat.beq (a.sz + fsz r) 0; rfl; exact absurd (Nat.eq_of_beq_eq_true hq) (by omega), show Nat.ble a.sz (a.sz + fsz r) = true by simp, Nat.add_sub_cancel_left, tk_app r X]
    rfl
theorem dp_app : ∀ (A X : List At), dp (A ++ X) (fsz A) = some X
  | [], X => by cases X <;> rfl
  | a :: r, X => by
    have h := sz_pos a
    show dp (a :: (r ++ X)) (a.sz + fsz r) = _
    unfold dp
    rw [show Nat.beq (a.sz + fsz r) 0 = false by cases hq : Nat.beq (a.sz + fsz r) 0; rfl; exact absurd (Nat.eq_of_beq_eq_true hq) (by omega), show Nat.ble a.sz (a.sz + fsz r) = true by simp, Nat.add_sub_cancel_left]
    exact dp_app r X
theorem seg_mid (A m s : List At) {o n : Nat} (ho : o = fsz A) (hn : n = fsz m) : seg (A ++ (m ++ s)) o n = some m := by
  subst ho; subst hn
  unfold seg
  rw [dp_app]
  exact tk_app m s
theorem put_mid (A m s v : List At) {o : Nat} (ho : o = fsz A) (hn : fsz v = fsz m) : put (A ++ (m ++ s)) o v = some (A ++ (v ++ s)) := by
  subst ho
  unfold put
  rw [tk_app, dp_app]
  simp only
  rw [hn, dp_app]
/-- one block read -/
theorem seg_cat {f : Nat → List At} {c N i o : Nat} (h : ∀ j, fsz (f j) = c) (hi : i < N) (ho : o = i * c) : seg (cat f 0 N) o c = some (f i) := by
  rw [cat_split f i N 0 hi, Nat.zero_add]
  exact seg_mid _ _ _ (by rw [cat_size h, ho]) (h i).symm
/-- the first i blocks are laid -/
def laid (f : Nat → List At) (z : List At) (N i : Nat) : List At := cat f 0 i ++ cat (fun _ => z) i (N - i)
theorem laid_0 (f : Nat → List At) (z : List At) (N : Nat) : laid f z N 0 = cat (fun _ => z) 0 N := by unfold laid; simp [cat]
theorem laid_N (f : Nat → List At) (z : List At) (N : Nat) : laid f z N N = cat f 0 N := by unfold laid; simp [cat]
theorem put_laid {f : Nat → List At} {z : List At} {c N i o : Nat} (h : ∀ j, fsz (f j) = c) (hz : fsz z = c) (hi : i < N) (ho : o = i * c) : put (laid f z N i) o (f i) = some (laid f z N (i + 1)) := by
  unfold laid
  rw [show N - i = (N - (i + 1)) + 1 by omega]
  show put (cat f 0 i ++ (z ++ cat (fun _ => z) (i + 1) (N - (i + 1)))) o (f i) = _
  rw [put_mid _ _ _ _ (by rw [cat_size h, ho]) (by rw [h, hz]), cat_snoc, Nat.zero_add, List.append_assoc]
/-- a part of what lies -/
theorem range_cat {w : World} {b o : Nat} {f : Nat → List At} {c N i : Nat} (h : ∀ j, fsz (f j) = c) (hi : i < N) (hr : w.rangeAt b o (flat (cat f 0 N))) : w.rangeAt b (o + i * c) (flat (f i)) :=
  range_seg hr (seg_cat h hi rfl)
/-- cells of one value -/
def Same (l : List Value) (v : Value) : Prop := l = List.replicate l.length v
theorem same_app {l m : List Value} {v : Value} (h : Same l v) (k : Same m v) : Same (l ++ m) v := by
  unfold Same at *
  rw [h, k]
  simp [List.replicate_append_replicate]
theorem cat_same {z : List At} {v : Value} (h : Same (flat z) v) : ∀ n s, Same (flat (cat (fun _ => z) s n)) v
  | 0, s => rfl
  | n + 1, s => by
    show Same (flat (z ++ cat (fun _ => z) (s + 1) n)) v
    rw [flat_append]
    exact same_app h (cat_same h n (s + 1))
/-- a slice of zeros is made -/
theorem made {P : Program} {t e : TypeId} {i : TypeInfo} {zv : Value} {z : List At} {v : Value} {N : Nat} (ht : P.underlying t = some (.slice e)) (hi : P.info? e = some i) (hz : i.zero = some zv) (hs : i.size = fsz z) (hv : zv.cells.toList = List.replicate i.size v) (hsame : Same (flat z) v) (h0 : 0 < fsz z)
    (hb : i.bytes * N ≤ 281474976710656) (hN : N < 4611686018427387904) :
    ∃ e, ∀ w : World, (Instr.makeSlice t (iI N) (iI N)).run P w = .ok (.slice (some ⟨w.heap.size, 0, none⟩) N N) (w.alloc (.cells (flat (cat (fun _ => z) 0 N)).toArray e)) := by
  refine ⟨e, fun w => ?_⟩
  have hr := Go.run_make (P := P) w t e i zv ht hi hz .i64 .i64 (N : Int) (N : Int) (by omega) (Int.le_refl _) (by rw [← Int.natCast_mul]; omega) (by omega)
  refine Eq.trans hr ?_
  have hsz : zv.cells.size = i.size := by rw [← Array.length_toList, hv, List.length_replicate]
  have hc : madeCells zv.cells (N * i.size) = (flat (cat (fun _ => z) 0 N)).toArray := by
    have hl := cat_size (f := fun _ => z) (c := fsz z) (fun _ => rfl) N 0
    have h2 := cat_same hsame N 0
    rw [h2, flat_len, hl, ← hs]
    unfold madeCells
    apply Array.ext
    · simp
    · intro j h1 h3
      simp only [Array.getElem_map, Array.getElem_range, List.getElem_toArray, List.getElem_replicate]
      have hj : j % zv.cells.size < zv.cells.size := Nat.mod_lt _ (by rw [hsz, hs]; exact h0)
      have e1 : zv.cells.toList[j % zv.cells.size]? = some v := by
        rw [hv, List.getElem?_replicate, if_pos (by omega)]
      rw [Array.getElem?_toList] at e1
      rw [getElem!_def, e1]
  simp only [Int.toNat_natCast, hc]
/-- what a type's elements are made of -/
theorem made' {P : Program} {t e : TypeId} {z : List At} {v : Value} {N n by8 : Nat} (ht : P.underlying t = some (.slice e)) (hi : (P.info? e).map (fun i => (i.zero.map (fun z => z.cells.toList), i.size, i.bytes)) = some (some (List.replicate n v), n, by8)) (hs : fsz z = n) (hsame : Same (flat z) v) (h0 : 0 < n)
    (hb : by8 * N ≤ 281474976710656) (hN : N < 4611686018427387904) :
    ∃ e, ∀ w : World, (Instr.makeSlice t (iI N) (iI N)).run P w = .ok (.slice (some ⟨w.heap.size, 0, none⟩) N N) (w.alloc (.cells (flat (cat (fun _ => z) 0 N)).toArray e)) := by
  cases hq : P.info? e with
  | none => rw [hq] at hi; cases hi
  | some it =>
    rw [hq] at hi
    cases hz : it.zero with
    | none => rw [Option.map_some, hz] at hi; cases hi
    | some zv =>
      rw [Option.map_some, hz] at hi
      simp only [Option.map_some, Option.some.injEq, Prod.mk.injEq] at hi
      obtain ⟨h1, h2, h3⟩ := hi
      exact made ht hq hz (by rw [h2, hs]) (by rw [h2, h1]) hsame (by rw [hs]; exact h0) (by rw [h3]; exact hb) hN
end Go.Proofs.YthlcjdcjnioeoaaGreat.Ex
namespace Go.Proofs.YthlcjdcjnioeoaaGreat.Ex
set_option linter.unusedVariables false
set_option linter.unusedSimpArgs false
open Go.RowKit
theorem wp_range {P : Program} {id : Nat} {ops : Array Oper} {l : List Nat} (hl : List.range ops.size = l) {Q : Exit → Act → World → Prop} {a : Act} {w : World} (h : wpOps P ops Q l a w) : (Code.region id ops false).wp P Q a w := wp_region (by rw [hl]; exact h)

def zp1 : J1 := (F1.zero, F1.zero, F1.zero)
noncomputable def tab1 (p : J1) : List At := ej1 (jt1 p 1) ++ (ej1 (jt1 p 2) ++ (ej1 (jt1 p 3) ++ (ej1 (jt1 p 4) ++ (ej1 (jt1 p 5) ++ (ej1 (jt1 p 6) ++ (ej1 (jt1 p 7) ++ (ej1 (jt1 p 8))))))))
def zT1 : List At := ej1 zp1 ++ (ej1 zp1 ++ (ej1 zp1 ++ (ej1 zp1 ++ (ej1 zp1 ++ (ej1 zp1 ++ (ej1 zp1 ++ (ej1 zp1)))))))
theorem tab1_sz (p : J1) : fsz (tab1 p) = 96 := by kernel_rfl
theorem zT1_sz : fsz zT1 = 96 := by kernel_rfl
noncomputable def tabF1 (p : J1) (k : Nat) : List At := ej1 (jt1 p (k + 1))
theorem tab1_cat (p : J1) : tab1 p = cat (tabF1 p) 0 8 := by
  show tab1 p = tabF1 p 0 ++ (tabF1 p 1 ++ (tabF1 p 2 ++ (tabF1 p 3 ++ (tabF1 p 4 ++ (tabF1 p 5 ++ (tabF1 p 6 ++ (tabF1 p 7 ++ [])))))))
  rw [List.append_nil]
  rfl
set_option maxRecDepth 100000 in
theorem run_tab1 (p : J1) : funB Tryz.prog (qG Tryz.prog) (fun _ => ⟨fun s => T_dig true, fun s => true, fun _ => none⟩) Tryz.f188 200 [.v (.fl (ej1 p))] = some ([], .one (.fl (tab1 p))) := by kernel_rfl
noncomputable def T_tab1 : Tab := (T_dig true).add 188 (g1 rj1 fun p => ([], .one (.fl (tab1 p))))
theorem ok_tab1 : TabOk Tryz.prog T_tab1 := (ok_dig true).add Tryz.func188 (by kernel_rfl) (by kernel_rfl) (g1_ok rj1_ok fun p hp args w ha => funB_sound hmix (fun _ s => ok_dig _) (qG_ok Tryz.prog) Tryz.func188 (run_tab1 p) trivial ha)
noncomputable def btCode1 : Code := (Tryz.f155.body).getD .skip
noncomputable def btLoop1 : Code := cIn (cIn (cB (cA (cB (cB btCode1)))))
theorem bt1_code : btCode1 = .seq (cA btCode1) (.seq (.region 1 (opsOf (cA (cB btCode1))) false) (.seq (.seq (cA (cA (cB (cB btCode1)))) (.block 0 (.loop btLoop1))) (.seq (cA (cB (cB (cB btCode1)))) (.seq (.region 8 (opsOf (cA (cB (cB (cB (cB btCode1)))))) false) .ret)))) := by kernel_rfl
def btA1 (LP : List At) (N N' : Nat) (vn : Value) : List Fact := [.slot 0 (.sl 0 0 N N'), .row 0 false LP, .slot 1 (.im vn), .slot 4 (.pt 4 0), .row 4 true (ej1 zp1)]
def btB1 (LP Z : List At) (N N' : Nat) (vn : Value) : List Fact := [.slot 0 (.sl 0 0 N N'), .row 0 false LP, .slot 1 (.im vn), .slot 4 (.pt 4 0), .row 4 true (ej1 zp1), .slot 11 (.sl 11 0 N N), .row 11 true Z, .slot 5 (.pt 5 0), .row 5 true [.c (.slice none 0 0)]]
def btC1 (LP Z : List At) (N N' b : Nat) (vn : Value) : List Fact := [.at 11 b, .slot 0 (.sl 0 0 N N'), .row 0 false LP, .slot 1 (.im vn), .slot 4 (.pt 4 0), .row 4 true (ej1 zp1), .row 11 true Z, .slot 5 (.pt 5 0), .row 5 true [.c (slV b 0 N N)]]
def btF1 (LP Z : List At) (N N' b : Nat) (vn : Value) (i : Nat) : List Fact := [.at 11 b, .slot 0 (.sl 0 0 N N'), .row 0 false LP, .slot 1 (.im vn), .slot 4 (.pt 4 0), .row 4 true (ej1 zp1), .row 11 true Z, .slot 5 (.pt 5 0), .row 5 true [.c (slV b 0 N N)], .slot 12 (.sl 0 0 N N'), .slot 13 (.im (iI N)), .slot 14 (.im (iI i))]
def btD1 (Z : List At) (N b bn on n m : Nat) : List Fact := [.at 11 b, .slot 4 (.pt 4 0), .row 4 true (ej1 zp1), .row 11 true Z, .slot 5 (.pt 5 0), .row 5 true [.c (slV b 0 N N)], .slot 8 (.pt 8 0), .row 8 true (digS bn on n m)]
def btE1 (Z : List At) (N b b5 b8 bn on n m : Nat) : List Fact := [.at 5 b5, .at 8 b8, .at 11 b, .slot 4 (.pt 4 0), .row 4 true (ej1 zp1), .row 11 true Z, .row 5 true [.c (slV b 0 N N)], .row 8 true (digS bn on n m), .slot 27 (.fl (digS bn on n m)), .slot 28 (.im (clV1 b5 b8))]
noncomputable def btT1 (num : Nat → Option Value) (_ : Nat) : Cfg := ⟨fun _ => T_tab1, fun _ => true, num⟩
noncomputable def btT01 : Cfg := ⟨fun _ => T_tab1, fun _ => true, fun _ => none⟩
set_option maxRecDepth 100000 in
theorem bt1_s0 (LP : List At) (N N' : Nat) (vn : Value) : runK Tryz.prog (qG Tryz.prog) Tryz.f155.ntmps (btT1 fun _ => none) 40 (cA btCode1) (argF 0 [.s LP N N', .v (.im vn)]) (btA1 LP N N' vn) = some ([], .nrm, btA1 LP N N' vn) := by kernel_rfl
def btXm1 (N : Nat) (Z : List At) : Ext := { xt0 (fun _ _ _ => False) with mks := assoc [(11, (N, Z))] }
set_option maxRecDepth 100000 in
theorem bt1_s1 (LP Z : List At) (N N' : Nat) (vn : Value) : regK Tryz.prog (qX Tryz.prog (btXm1 N Z)) Tryz.f155.ntmps btT01 ((opsOf (cA (cB btCode1))).extract 0 4) (btA1 LP N N' vn) (btB1 LP Z N N' vn) = some ([∃ e, ∀ w : World, (Instr.makeSlice 221 (iI N) (iI N)).run Tryz.prog w = .ok (.slice (some ⟨w.heap.size, 0, none⟩) N N) (w.alloc (.cells (flat Z).toArray e))], btB1 LP Z N N' vn) := by kernel_rfl
set_option maxRecDepth 100000 in
theorem bt1_s2 (LP Z : List At) (N N' b : Nat) (vn : Value) : regK Tryz.prog (qG Tryz.prog) Tryz.f155.ntmps btT01 ((opsOf (cA (cB btCode1))).extract 4 5) (.slot 11 (.im (slV b 0 N N)) :: .at 11 b :: btB1 LP Z N N' vn) (btC1 LP Z N N' b vn) = some ([], btC1 LP Z N N' b vn) := by kernel_rfl
set_option maxRecDepth 100000 in
theorem bt1_s3 (LP Z : List At) (N N' b : Nat) (vn : Value) : runK Tryz.prog (qG Tryz.prog) Tryz.f155.ntmps (btT1 fun _ => none) 40 (cA (cA (cB (cB btCode1)))) (btC1 LP Z N N' b vn) (btF1 LP Z N N' b vn 0) = some ([], .nrm, btF1 LP Z N N' b vn 0) := by kernel_rfl
noncomputable def btX1 (N b i : Nat) (p : J1) (Z' : List At) : Ext := { xt0 (fun _ _ _ => False) with idx := assoc [(17, i), (23, i)], ld := assoc [(18, ej1 p)], st := assoc [(23, Z')], gen := assoc [(19, slV b 0 N N)], ky := assoc [(19, 11)] }
set_option maxRecDepth 100000 in
theorem bt1_rd (LP Z Z' : List At) (N N' b : Nat) (vn : Value) (i : Nat) (p : J1) : runK Tryz.prog (qX Tryz.prog (btX1 N b i p Z')) Tryz.f155.ntmps (btT1 (assoc [(15, .bool true), (24, iI (i + 1))])) 40 btLoop1 (btF1 LP Z N N' b vn i) (btF1 LP Z' N N' b vn (i + 1)) = some ([intOp .lss .i64 (Int.ofNat i) (Int.ofNat N) = some (.bool true), Int.ofNat i = Int.ofNat i, i < N, seg LP (0 + i * 12) 12 = some (ej1 p), cellAt [.c (slV b 0 N N)] 0 = some (slV b 0 N N), b = b, Int.ofNat i = Int.ofNat i, i < N, put Z (0 + i * 96) (tab1 p) = some Z', intOp .add .i64 (Int.ofNat i) 1 = some (iI (i + 1))], .nrm, btF1 LP Z' N N' b vn (i + 1)) := by kernel_rfl
set_option maxRecDepth 100000 in
theorem bt1_end (LP Z : List At) (N N' b : Nat) (vn : Value) (i : Nat) : runK Tryz.prog (qG Tryz.prog) Tryz.f155.ntmps (btT1 (assoc [(15, .bool false)])) 40 btLoop1 (btF1 LP Z N N' b vn i) (btF1 LP Z N N' b vn i) = some ([intOp .lss .i64 (Int.ofNat i) (Int.ofNat N) = some (.bool false)], .ex 0, btF1 LP Z N N' b vn i) := by kernel_rfl
set_option maxRecDepth 100000 in
theorem bt1_s4 (LP Z : List At) (N N' b bn on n m i : Nat) : runK Tryz.prog (qG Tryz.prog) Tryz.f155.ntmps (btT1 fun _ => none) 40 (cA (cB (cB (cB btCode1)))) (btF1 LP Z N N' b (slV bn on n m) i) (btD1 Z N b bn on n m) = some ([], .nrm, btD1 Z N b bn on n m) := by kernel_rfl
set_option maxRecDepth 100000 in
theorem bt1_s5 (Z : List At) (N b b5 b8 bn on n m : Nat) : regK Tryz.prog (qG Tryz.prog) Tryz.f155.ntmps btT01 ((opsOf (cA (cB (cB (cB (cB btCode1)))))).extract 0 2) (.at 8 b8 :: .at 5 b5 :: btD1 Z N b bn on n m) (btE1 Z N b b5 b8 bn on n m) = some ([], btE1 Z N b b5 b8 bn on n m) := by kernel_rfl
set_option maxRecDepth 100000 in
theorem bt1_s6 (Z : List At) (N b b5 b8 bn on n m : Nat) (r : J1) : regK Tryz.prog (qG Tryz.prog) Tryz.f155.ntmps btT01 ((opsOf (cA (cB (cB (cB (cB btCode1)))))).extract 3 4) (.slot 29 (.fl (ej1 r)) :: btE1 Z N b b5 b8 bn on n m) [.slot 4 (.pt 4 0), .row 4 true (ej1 r)] = some ([], [.slot 4 (.pt 4 0), .row 4 true (ej1 r)]) := by kernel_rfl
theorem zT1_same : Same (flat zT1) (.int .u64 0) := by unfold Same; kernel_rfl
theorem bt1_sub {w : World} {b N i k : Nat} {pt : Nat → J1} (h : oldOf w b 0 (cat (fun j => tab1 (pt j)) 0 N)) (hi : i < N) (hk : k < 8) : oldOf w b (i * 96 + k * 12) (ej1 (jt1 (pt i) (k + 1))) := by
  refine ⟨h.1, ?_⟩
  have h1 : w.rangeAt b (0 + i * 96) (flat (tab1 (pt i))) := range_cat (f := fun j => tab1 (pt j)) (c := 96) (fun j => tab1_sz (pt j)) hi h.2
  rw [tab1_cat, Nat.zero_add] at h1
  exact range_cat (f := tabF1 (pt i)) (c := 12) (fun j => rfl) hk h1
theorem bt1_calls {w0 : World} {gb go N N' bn on n m : Nat} {x : Nat → Nat} {pt : Nat → J1} {LP : List At} (hLP : flat LP = flat (cat (fun j => ej1 (pt j)) 0 N)) (hP : oldOf w0 gb go LP) (hx : ∀ i, i < n → oldOf w0 bn (on + i * 4) [.q (x i)]) (hN : N ≤ n) (hN2 : N ≤ 65536) (hn : n < 4611686018427387904) : Calls Tryz.prog 155 #[slV gb go N N', slV bn on n m] w0 (fun e w' => e = .returned (.agg (flat (ej1 (ov1 (fun p => cs1 pt x p N) (mxL x n / 4 + 1) (mxL x n / 4 + 1)))).toArray) ∧ Below w0.heap.size w0 w') := by
  have hG : EqOkW Tryz.prog (qG Tryz.prog) w0.heap.size w0 := (qG_ok _).w _ _
  have hT : ∀ n d : Nat, TabOkW Tryz.prog T_tab1 w0.heap.size w0 := fun _ _ => ok_tab1.w _ _
  have hXF : ∀ x : Ext, x.T2 = Fr0 → (∀ b o l, ¬ x.old b o l) → EqOkW Tryz.prog (qX Tryz.prog x) w0.heap.size w0 := fun x h2 h3 => qX_ok (h2 ▸ Fr0_ok _) fun b o l h => (h3 b o l h).elim
  have hP' : oldOf w0 gb go (cat (fun j => ej1 (pt j)) 0 N) := ⟨hP.1, by rw [← hLP]; exact hP.2⟩
  clear hP hLP
  refine fn_enter Tryz.func155 (c := btCode1) rfl (args := [slV gb go N N', slV bn on n m]) (cs := [.s (cat (fun j => ej1 (pt j)) 0 N) N N', .v (.im (slV bn on n m))]) ⟨⟨gb, go, rfl, hP'.1, hP'.2⟩, rfl, trivial⟩ (Nat.le_of_ble_eq_true (by kernel_rfl)) fun a w' hA => ?_
  rw [bt1_code]
  refine wp_seq (runKW_sound hmix hT hG (bt1_s0 _ N N' _) trivial hA fun a w' hA => ?_)
  refine wp_seq (wp_range (l := List.range' 0 ((opsOf (cA (cB btCode1))).extract 0 4).size ++ (List.range' 4 ((opsOf (cA (cB btCode1))).extract 4 5).size ++ [])) (by kernel_rfl) ?_)
  refine partE_sound (c := btT01) (hT 0) (hXF (btXm1 N (cat (fun _ => zT1) 0 N)) rfl fun _ _ _ h => h) (bt1_s1 _ _ N N' _) ⟨?_, trivial⟩ (by kernel_rfl) hA fun a w' hA => ?_
  · exact made' (t := 221) (e := 223) (z := zT1) (v := .int .u64 0) (n := 96) (by8 := 768) (by kernel_rfl) (by kernel_rfl) zT1_sz zT1_same (by omega) (by omega) (by omega)
  obtain ⟨b, hA⟩ := hA.at (k := 11) (l := cat (fun _ => zT1) 0 N) (by simp [btB1])
  have hA := hA.im (s := 11) (k := 11) (o := 0) (n := N) (m := N) (b := b) (by simp [btB1]) (by simp)
  refine partE_sound (c := btT01) (hT 0) hG (bt1_s2 _ _ N N' b _) trivial (by kernel_rfl) hA fun a w' hA => ?_
  refine wp_seq (wp_seq (runKW_sound hmix hT hG (bt1_s3 _ _ N N' b _) trivial hA fun a w' hA => ?_))
  refine wp_block ?_
  refine loop_r hmix (fun i => btF1 (cat (fun j => ej1 (pt j)) 0 N) (laid (fun j => tab1 (pt j)) zT1 N i) N N' b (slV bn on n m) i) N (fun i hi => ?_) (.ex 0) (by simp) (btF1 (cat (fun j => ej1 (pt j)) 0 N) (cat (fun j => tab1 (pt j)) 0 N) N N' b (slV bn on n m) N) ?_ (by rw [laid_0]; exact hA) fun a w' hA => ?_
  · exact ⟨_, _, _, _, hXF (btX1 N b i (pt i) _) rfl (fun _ _ _ h => h), hT, bt1_rd _ _ (laid (fun j => tab1 (pt j)) zT1 N (i + 1)) N N' b _ i (pt i), o_lss_t hi, rfl, hi, seg_cat (f := fun j => ej1 (pt j)) (c := 12) (fun j => rfl) hi (Nat.zero_add _), rfl, rfl, rfl, hi, put_laid (f := fun j => tab1 (pt j)) (c := 96) (fun j => tab1_sz (pt j)) zT1_sz hi (Nat.zero_add _), o_add (k := 1) (by omega), trivial⟩
  · rw [← laid_N (fun j => tab1 (pt j)) zT1 N]
    exact ⟨_, _, _, _, hG, hT, bt1_end _ _ N N' b _ N, o_lss_f (Nat.le_refl _), trivial⟩
  refine wp_seq (runKW_sound hmix hT hG (bt1_s4 _ _ N N' b bn on n m N) trivial hA fun a w' hA => ?_)
  obtain ⟨b5, hA⟩ := hA.at (k := 5) (l := [.c (slV b 0 N N)]) (by simp [btD1])
  obtain ⟨b8, hA⟩ := hA.at (k := 8) (l := digS bn on n m) (by simp [btD1])
  refine wp_seq (wp_range (l := List.range' 0 ((opsOf (cA (cB (cB (cB (cB btCode1)))))).extract 0 2).size ++ (2 :: (List.range' 3 ((opsOf (cA (cB (cB (cB (cB btCode1)))))).extract 3 4).size ++ []))) (by kernel_rfl) ?_)
  refine partE_sound (c := btT01) (hT 0) hG (bt1_s5 _ N b b5 b8 bn on n m) trivial (by kernel_rfl) hA fun a w' hA => ?_
  have hM : ClMem1 w' b5 b8 b N bn on n m x pt := by
    refine ⟨hA.old (k := 5) (by simp [btE1]) (by simp [btE1]), hA.old (k := 8) (by simp [btE1]) (by simp [btE1]), fun i hi => (hx i hi).on hA.below (base := 0), fun i hi k hk => ?_⟩
    exact bt1_sub (hA.old (k := 11) (by simp [btE1]) (by simp [btE1])) hi hk
  have h27 := hA.slotF (s := 27) (l := digS bn on n m) (by simp [btE1])
  have h28 := hA.slot (s := 28) (v := clV1 b5 b8) (by simp [btE1])
  obtain ⟨o, ho, hoo, hod, hog⟩ : ∃ o, (opsOf (cA (cB (cB (cB (cB btCode1))))))[2]? = some o ∧ (∃ ts, o.op = .call ⟨.value (.func 189), #[.tmp 27, .tmp 28], ts⟩) ∧ o.dst = some 29 ∧ o.guard = none := ⟨_, rfl, ⟨_, rfl⟩, rfl, rfl⟩
  obtain ⟨ts, hoo⟩ := hoo
  refine wpOps_one ho hog (wp_call_at hoo (vs := [.agg (flat (digS bn on n m)).toArray, clV1 b5 b8]) (by simp [Act.eval, h27, h28]) (callable Tryz.func189 (by kernel_rfl) (by kernel_rfl) · _) (ov1_calls hM hN hn) fun w'' hb => ?_)
  rw [hod]
  have hA := hA.put hb (d := 29) (Nat.le_of_ble_eq_true (by kernel_rfl)) (.fl (ej1 (ov1 (fun p => cs1 pt x p N) (mxL x n / 4 + 1) (mxL x n / 4 + 1)))) (by
    have : (btE1 (cat (fun j => tab1 (pt j)) 0 N) N b b5 b8 bn on n m).all (fun φ => !(clob (some 29) none φ)) = true := by kernel_rfl
    intro φ hφ
    rw [List.all_eq_true] at this
    simpa using this φ hφ)
  refine partE_sound (c := btT01) (hT 0) hG (bt1_s6 _ N b b5 b8 bn on n m _) trivial (by kernel_rfl) hA fun a w' hA => ?_
  exact wp_ret (fn_leave (l := [.fl (ej1 (ov1 (fun p => cs1 pt x p N) (mxL x n / 4 + 1) (mxL x n / 4 + 1)))]) (r := .one (.fl (ej1 (ov1 (fun p => cs1 pt x p N) (mxL x n / 4 + 1) (mxL x n / 4 + 1))))) (by kernel_rfl) (by kernel_rfl) hA)

def zp2 : J2 := (F2.zero, F2.zero, F2.zero)
noncomputable def tab2 (p : J2) : List At := ej2 (jt2 p 1) ++ (ej2 (jt2 p 2) ++ (ej2 (jt2 p 3) ++ (ej2 (jt2 p 4) ++ (ej2 (jt2 p 5) ++ (ej2 (jt2 p 6) ++ (ej2 (jt2 p 7) ++ (ej2 (jt2 p 8))))))))
def zT2 : List At := ej2 zp2 ++ (ej2 zp2 ++ (ej2 zp2 ++ (ej2 zp2 ++ (ej2 zp2 ++ (ej2 zp2 ++ (ej2 zp2 ++ (ej2 zp2)))))))
theorem tab2_sz (p : J2) : fsz (tab2 p) = 192 := by kernel_rfl
theorem zT2_sz : fsz zT2 = 192 := by kernel_rfl
noncomputable def tabF2 (p : J2) (k : Nat) : List At := ej2 (jt2 p (k + 1))
theorem tab2_cat (p : J2) : tab2 p = cat (tabF2 p) 0 8 := by
  show tab2 p = tabF2 p 0 ++ (tabF2 p 1 ++ (tabF2 p 2 ++ (tabF2 p 3 ++ (tabF2 p 4 ++ (tabF2 p 5 ++ (tabF2 p 6 ++ (tabF2 p 7 ++ [])))))))
  rw [List.append_nil]
  rfl
set_option maxRecDepth 100000 in
theorem run_tab2 (p : J2) : funB Tryz.prog (qG Tryz.prog) (fun _ => ⟨fun s => T_dig true, fun s => true, fun _ => none⟩) Tryz.f202 200 [.v (.fl (ej2 p))] = some ([], .one (.fl (tab2 p))) := by kernel_rfl
noncomputable def T_tab2 : Tab := (T_dig true).add 202 (g1 rj2 fun p => ([], .one (.fl (tab2 p))))
theorem ok_tab2 : TabOk Tryz.prog T_tab2 := (ok_dig true).add Tryz.func202 (by kernel_rfl) (by kernel_rfl) (g1_ok rj2_ok fun p hp args w ha => funB_sound hmix (fun _ s => ok_dig _) (qG_ok Tryz.prog) Tryz.func202 (run_tab2 p) trivial ha)
noncomputable def btCode2 : Code := (Tryz.f164.body).getD .skip
noncomputable def btLoop2 : Code := cIn (cIn (cB (cA (cB (cB btCode2)))))
theorem bt2_code : btCode2 = .seq (cA btCode2) (.seq (.region 1 (opsOf (cA (cB btCode2))) false) (.seq (.seq (cA (cA (cB (cB btCode2)))) (.block 0 (.loop btLoop2))) (.seq (cA (cB (cB (cB btCode2)))) (.seq (.region 8 (opsOf (cA (cB (cB (cB (cB btCode2)))))) false) .ret)))) := by kernel_rfl
def btA2 (LP : List At) (N N' : Nat) (vn : Value) : List Fact := [.slot 0 (.sl 0 0 N N'), .row 0 false LP, .slot 1 (.im vn), .slot 4 (.pt 4 0), .row 4 true (ej2 zp2)]
def btB2 (LP Z : List At) (N N' : Nat) (vn : Value) : List Fact := [.slot 0 (.sl 0 0 N N'), .row 0 false LP, .slot 1 (.im vn), .slot 4 (.pt 4 0), .row 4 true (ej2 zp2), .slot 11 (.sl 11 0 N N), .row 11 true Z, .slot 5 (.pt 5 0), .row 5 true [.c (.slice none 0 0)]]
def btC2 (LP Z : List At) (N N' b : Nat) (vn : Value) : List Fact := [.at 11 b, .slot 0 (.sl 0 0 N N'), .row 0 false LP, .slot 1 (.im vn), .slot 4 (.pt 4 0), .row 4 true (ej2 zp2), .row 11 true Z, .slot 5 (.pt 5 0), .row 5 true [.c (slV b 0 N N)]]
def btF2 (LP Z : List At) (N N' b : Nat) (vn : Value) (i : Nat) : List Fact := [.at 11 b, .slot 0 (.sl 0 0 N N'), .row 0 false LP, .slot 1 (.im vn), .slot 4 (.pt 4 0), .row 4 true (ej2 zp2), .row 11 true Z, .slot 5 (.pt 5 0), .row 5 true [.c (slV b 0 N N)], .slot 12 (.sl 0 0 N N'), .slot 13 (.im (iI N)), .slot 14 (.im (iI i))]
def btD2 (Z : List At) (N b bn on n m : Nat) : List Fact := [.at 11 b, .slot 4 (.pt 4 0), .row 4 true (ej2 zp2), .row 11 true Z, .slot 5 (.pt 5 0), .row 5 true [.c (slV b 0 N N)], .slot 8 (.pt 8 0), .row 8 true (digS bn on n m)]
def btE2 (Z : List At) (N b b5 b8 bn on n m : Nat) : List Fact := [.at 5 b5, .at 8 b8, .at 11 b, .slot 4 (.pt 4 0), .row 4 true (ej2 zp2), .row 11 true Z, .row 5 true [.c (slV b 0 N N)], .row 8 true (digS bn on n m), .slot 27 (.fl (digS bn on n m)), .slot 28 (.im (clV2 b5 b8))]
noncomputable def btT2 (num : Nat → Option Value) (_ : Nat) : Cfg := ⟨fun _ => T_tab2, fun _ => true, num⟩
noncomputable def btT02 : Cfg := ⟨fun _ => T_tab2, fun _ => true, fun _ => none⟩
set_option maxRecDepth 100000 in
theorem bt2_s0 (LP : List At) (N N' : Nat) (vn : Value) : runK Tryz.prog (qG Tryz.prog) Tryz.f164.ntmps (btT2 fun _ => none) 40 (cA btCode2) (argF 0 [.s LP N N', .v (.im vn)]) (btA2 LP N N' vn) = some ([], .nrm, btA2 LP N N' vn) := by kernel_rfl
def btXm2 (N : Nat) (Z : List At) : Ext := { xt0 (fun _ _ _ => False) with mks := assoc [(11, (N, Z))] }
set_option maxRecDepth 100000 in
theorem bt2_s1 (LP Z : List At) (N N' : Nat) (vn : Value) : regK Tryz.prog (qX Tryz.prog (btXm2 N Z)) Tryz.f164.ntmps btT02 ((opsOf (cA (cB btCode2))).extract 0 4) (btA2 LP N N' vn) (btB2 LP Z N N' vn) = some ([∃ e, ∀ w : World, (Instr.makeSlice 238 (iI N) (iI N)).run Tryz.prog w = .ok (.slice (some ⟨w.heap.size, 0, none⟩) N N) (w.alloc (.cells (flat Z).toArray e))], btB2 LP Z N N' vn) := by kernel_rfl
set_option maxRecDepth 100000 in
theorem bt2_s2 (LP Z : List At) (N N' b : Nat) (vn : Value) : regK Tryz.prog (qG Tryz.prog) Tryz.f164.ntmps btT02 ((opsOf (cA (cB btCode2))).extract 4 5) (.slot 11 (.im (slV b 0 N N)) :: .at 11 b :: btB2 LP Z N N' vn) (btC2 LP Z N N' b vn) = some ([], btC2 LP Z N N' b vn) := by kernel_rfl
set_option maxRecDepth 100000 in
theorem bt2_s3 (LP Z : List At) (N N' b : Nat) (vn : Value) : runK Tryz.prog (qG Tryz.prog) Tryz.f164.ntmps (btT2 fun _ => none) 40 (cA (cA (cB (cB btCode2)))) (btC2 LP Z N N' b vn) (btF2 LP Z N N' b vn 0) = some ([], .nrm, btF2 LP Z N N' b vn 0) := by kernel_rfl
noncomputable def btX2 (N b i : Nat) (p : J2) (Z' : List At) : Ext := { xt0 (fun _ _ _ => False) with idx := assoc [(17, i), (23, i)], ld := assoc [(18, ej2 p)], st := assoc [(23, Z')], gen := assoc [(19, slV b 0 N N)], ky := assoc [(19, 11)] }
set_option maxRecDepth 100000 in
theorem bt2_rd (LP Z Z' : List At) (N N' b : Nat) (vn : Value) (i : Nat) (p : J2) : runK Tryz.prog (qX Tryz.prog (btX2 N b i p Z')) Tryz.f164.ntmps (btT2 (assoc [(15, .bool true), (24, iI (i + 1))])) 40 btLoop2 (btF2 LP Z N N' b vn i) (btF2 LP Z' N N' b vn (i + 1)) = some ([intOp .lss .i64 (Int.ofNat i) (Int.ofNat N) = some (.bool true), Int.ofNat i = Int.ofNat i, i < N, seg LP (0 + i * 24) 24 = some (ej2 p), cellAt [.c (slV b 0 N N)] 0 = some (slV b 0 N N), b = b, Int.ofNat i = Int.ofNat i, i < N, put Z (0 + i * 192) (tab2 p) = some Z', intOp .add .i64 (Int.ofNat i) 1 = some (iI (i + 1))], .nrm, btF2 LP Z' N N' b vn (i + 1)) := by kernel_rfl
set_option maxRecDepth 100000 in
theorem bt2_end (LP Z : List At) (N N' b : Nat) (vn : Value) (i : Nat) : runK Tryz.prog (qG Tryz.prog) Tryz.f164.ntmps (btT2 (assoc [(15, .bool false)])) 40 btLoop2 (btF2 LP Z N N' b vn i) (btF2 LP Z N N' b vn i) = some ([intOp .lss .i64 (Int.ofNat i) (Int.ofNat N) = some (.bool false)], .ex 0, btF2 LP Z N N' b vn i) := by kernel_rfl
set_option maxRecDepth 100000 in
theorem bt2_s4 (LP Z : List At) (N N' b bn on n m i : Nat) : runK Tryz.prog (qG Tryz.prog) Tryz.f164.ntmps (btT2 fun _ => none) 40 (cA (cB (cB (cB btCode2)))) (btF2 LP Z N N' b (slV bn on n m) i) (btD2 Z N b bn on n m) = some ([], .nrm, btD2 Z N b bn on n m) := by kernel_rfl
set_option maxRecDepth 100000 in
theorem bt2_s5 (Z : List At) (N b b5 b8 bn on n m : Nat) : regK Tryz.prog (qG Tryz.prog) Tryz.f164.ntmps btT02 ((opsOf (cA (cB (cB (cB (cB btCode2)))))).extract 0 2) (.at 8 b8 :: .at 5 b5 :: btD2 Z N b bn on n m) (btE2 Z N b b5 b8 bn on n m) = some ([], btE2 Z N b b5 b8 bn on n m) := by kernel_rfl
set_option maxRecDepth 100000 in
theorem bt2_s6 (Z : List At) (N b b5 b8 bn on n m : Nat) (r : J2) : regK Tryz.prog (qG Tryz.prog) Tryz.f164.ntmps btT02 ((opsOf (cA (cB (cB (cB (cB btCode2)))))).extract 3 4) (.slot 29 (.fl (ej2 r)) :: btE2 Z N b b5 b8 bn on n m) [.slot 4 (.pt 4 0), .row 4 true (ej2 r)] = some ([], [.slot 4 (.pt 4 0), .row 4 true (ej2 r)]) := by kernel_rfl
theorem zT2_same : Same (flat zT2) (.int .u64 0) := by unfold Same; kernel_rfl
theorem bt2_sub {w : World} {b N i k : Nat} {pt : Nat → J2} (h : oldOf w b 0 (cat (fun j => tab2 (pt j)) 0 N)) (hi : i < N) (hk : k < 8) : oldOf w b (i * 192 + k * 24) (ej2 (jt2 (pt i) (k + 1))) := by
  refine ⟨h.1, ?_⟩
  have h1 : w.rangeAt b (0 + i * 192) (flat (tab2 (pt i))) := range_cat (f := fun j => tab2 (pt j)) (c := 192) (fun j => tab2_sz (pt j)) hi h.2
  rw [tab2_cat, Nat.zero_add] at h1
  exact range_cat (f := tabF2 (pt i)) (c := 24) (fun j => rfl) hk h1
theorem bt2_calls {w0 : World} {gb go N N' bn on n m : Nat} {x : Nat → Nat} {pt : Nat → J2} {LP : List At} (hLP : flat LP = flat (cat (fun j => ej2 (pt j)) 0 N)) (hP : oldOf w0 gb go LP) (hx : ∀ i, i < n → oldOf w0 bn (on + i * 4) [.q (x i)]) (hN : N ≤ n) (hN2 : N ≤ 65536) (hn : n < 4611686018427387904) : Calls Tryz.prog 164 #[slV gb go N N', slV bn on n m] w0 (fun e w' => e = .returned (.agg (flat (ej2 (ov2 (fun p => cs2 pt x p N) (mxL x n / 4 + 1) (mxL x n / 4 + 1)))).toArray) ∧ Below w0.heap.size w0 w') := by
  have hG : EqOkW Tryz.prog (qG Tryz.prog) w0.heap.size w0 := (qG_ok _).w _ _
  have hT : ∀ n d : Nat, TabOkW Tryz.prog T_tab2 w0.heap.size w0 := fun _ _ => ok_tab2.w _ _
  have hXF : ∀ x : Ext, x.T2 = Fr0 → (∀ b o l, ¬ x.old b o l) → EqOkW Tryz.prog (qX Tryz.prog x) w0.heap.size w0 := fun x h2 h3 => qX_ok (h2 ▸ Fr0_ok _) fun b o l h => (h3 b o l h).elim
  have hP' : oldOf w0 gb go (cat (fun j => ej2 (pt j)) 0 N) := ⟨hP.1, by rw [← hLP]; exact hP.2⟩
  clear hP hLP
  refine fn_enter Tryz.func164 (c := btCode2) rfl (args := [slV gb go N N', slV bn on n m]) (cs := [.s (cat (fun j => ej2 (pt j)) 0 N) N N', .v (.im (slV bn on n m))]) ⟨⟨gb, go, rfl, hP'.1, hP'.2⟩, rfl, trivial⟩ (Nat.le_of_ble_eq_true (by kernel_rfl)) fun a w' hA => ?_
  rw [bt2_code]
  refine wp_seq (runKW_sound hmix hT hG (bt2_s0 _ N N' _) trivial hA fun a w' hA => ?_)
  refine wp_seq (wp_range (l := List.range' 0 ((opsOf (cA (cB btCode2))).extract 0 4).size ++ (List.range' 4 ((opsOf (cA (cB btCode2))).extract 4 5).size ++ [])) (by kernel_rfl) ?_)
  refine partE_sound (c := btT02) (hT 0) (hXF (btXm2 N (cat (fun _ => zT2) 0 N)) rfl fun _ _ _ h => h) (bt2_s1 _ _ N N' _) ⟨?_, trivial⟩ (by kernel_rfl) hA fun a w' hA => ?_
  · exact made' (t := 238) (e := 240) (z := zT2) (v := .int .u64 0) (n := 192) (by8 := 1536) (by kernel_rfl) (by kernel_rfl) zT2_sz zT2_same (by omega) (by omega) (by omega)
  obtain ⟨b, hA⟩ := hA.at (k := 11) (l := cat (fun _ => zT2) 0 N) (by simp [btB2])
  have hA := hA.im (s := 11) (k := 11) (o := 0) (n := N) (m := N) (b := b) (by simp [btB2]) (by simp)
  refine partE_sound (c := btT02) (hT 0) hG (bt2_s2 _ _ N N' b _) trivial (by kernel_rfl) hA fun a w' hA => ?_
  refine wp_seq (wp_seq (runKW_sound hmix hT hG (bt2_s3 _ _ N N' b _) trivial hA fun a w' hA => ?_))
  refine wp_block ?_
  refine loop_r hmix (fun i => btF2 (cat (fun j => ej2 (pt j)) 0 N) (laid (fun j => tab2 (pt j)) zT2 N i) N N' b (slV bn on n m) i) N (fun i hi => ?_) (.ex 0) (by simp) (btF2 (cat (fun j => ej2 (pt j)) 0 N) (cat (fun j => tab2 (pt j)) 0 N) N N' b (slV bn on n m) N) ?_ (by rw [laid_0]; exact hA) fun a w' hA => ?_
  · exact ⟨_, _, _, _, hXF (btX2 N b i (pt i) _) rfl (fun _ _ _ h => h), hT, bt2_rd _ _ (laid (fun j => tab2 (pt j)) zT2 N (i + 1)) N N' b _ i (pt i), o_lss_t hi, rfl, hi, seg_cat (f := fun j => ej2 (pt j)) (c := 24) (fun j => rfl) hi (Nat.zero_add _), rfl, rfl, rfl, hi, put_laid (f := fun j => tab2 (pt j)) (c := 192) (fun j => tab2_sz (pt j)) zT2_sz hi (Nat.zero_add _), o_add (k := 1) (by omega), trivial⟩
  · rw [← laid_N (fun j => tab2 (pt j)) zT2 N]
    exact ⟨_, _, _, _, hG, hT, bt2_end _ _ N N' b _ N, o_lss_f (Nat.le_refl _), trivial⟩
  refine wp_seq (runKW_sound hmix hT hG (bt2_s4 _ _ N N' b bn on n m N) trivial hA fun a w' hA => ?_)
  obtain ⟨b5, hA⟩ := hA.at (k := 5) (l := [.c (slV b 0 N N)]) (by simp [btD2])
  obtain ⟨b8, hA⟩ := hA.at (k := 8) (l := digS bn on n m) (by simp [btD2])
  refine wp_seq (wp_range (l := List.range' 0 ((opsOf (cA (cB (cB (cB (cB btCode2)))))).extract 0 2).size ++ (2 :: (List.range' 3 ((opsOf (cA (cB (cB (cB (cB btCode2)))))).extract 3 4).size ++ []))) (by kernel_rfl) ?_)
  refine partE_sound (c := btT02) (hT 0) hG (bt2_s5 _ N b b5 b8 bn on n m) trivial (by kernel_rfl) hA fun a w' hA => ?_
  have hM : ClMem2 w' b5 b8 b N bn on n m x pt := by
    refine ⟨hA.old (k := 5) (by simp [btE2]) (by simp [btE2]), hA.old (k := 8) (by simp [btE2]) (by simp [btE2]), fun i hi => (hx i hi).on hA.below (base := 0), fun i hi k hk => ?_⟩
    exact bt2_sub (hA.old (k := 11) (by simp [btE2]) (by simp [btE2])) hi hk
  have h27 := hA.slotF (s := 27) (l := digS bn on n m) (by simp [btE2])
  have h28 := hA.slot (s := 28) (v := clV2 b5 b8) (by simp [btE2])
  obtain ⟨o, ho, hoo, hod, hog⟩ : ∃ o, (opsOf (cA (cB (cB (cB (cB btCode2))))))[2]? = some o ∧ (∃ ts, o.op = .call ⟨.value (.func 203), #[.tmp 27, .tmp 28], ts⟩) ∧ o.dst = some 29 ∧ o.guard = none := ⟨_, rfl, ⟨_, rfl⟩, rfl, rfl⟩
  obtain ⟨ts, hoo⟩ := hoo
  refine wpOps_one ho hog (wp_call_at hoo (vs := [.agg (flat (digS bn on n m)).toArray, clV2 b5 b8]) (by simp [Act.eval, h27, h28]) (callable Tryz.func203 (by kernel_rfl) (by kernel_rfl) · _) (ov2_calls hM hN hn) fun w'' hb => ?_)
  rw [hod]
  have hA := hA.put hb (d := 29) (Nat.le_of_ble_eq_true (by kernel_rfl)) (.fl (ej2 (ov2 (fun p => cs2 pt x p N) (mxL x n / 4 + 1) (mxL x n / 4 + 1)))) (by
    have : (btE2 (cat (fun j => tab2 (pt j)) 0 N) N b b5 b8 bn on n m).all (fun φ => !(clob (some 29) none φ)) = true := by kernel_rfl
    intro φ hφ
    rw [List.all_eq_true] at this
    simpa using this φ hφ)
  refine partE_sound (c := btT02) (hT 0) hG (bt2_s6 _ N b b5 b8 bn on n m _) trivial (by kernel_rfl) hA fun a w' hA => ?_
  exact wp_ret (fn_leave (l := [.fl (ej2 (ov2 (fun p => cs2 pt x p N) (mxL x n / 4 + 1) (mxL x n / 4 + 1)))]) (r := .one (.fl (ej2 (ov2 (fun p => cs2 pt x p N) (mxL x n / 4 + 1) (mxL x n / 4 + 1))))) (by kernel_rfl) (by kernel_rfl) hA)

end Go.Proofs.YthlcjdcjnioeoaaGreat.Ex
