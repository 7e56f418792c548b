/-
  The reckoner's step is right. Of whatever program. Conditions: the table of calls is right.
  The reckoner's step, stores among them; a region in whatever order. Of whatever program. Conditions: the table of calls is right.
  The reckoner: a region, its operations in whatever order they may come. Of whatever program. Conditions: the table of calls is right.
  The reckoner: regions, code, functions. Of whatever program. Conditions: the table of calls is right.
-/
import Derived.Laws.StructEq
import Derived.Orders
import Derived.Test.YthlcjdcjnioeoaaGreatCj00
namespace Go.Proofs.YthlcjdcjnioeoaaGreat.Ex
set_option linter.unusedVariables false
set_option linter.unusedSimpArgs false
open Go.RowKit

theorem sizeT_spec {P : Program} {t n : Nat} (h : sizeT P t = some n) : ∃ i, P.info? t = some i ∧ i.size = n := by
  unfold sizeT at h
  split at h
  · rename_i i hi; cases h; exact ⟨i, hi, rfl⟩
  · cases h
theorem isRowT_spec {P : Program} {t : Nat} (h : isRowT P t = true) : ∃ d, P.underlying t = some d ∧ d.isRow = true := by
  unfold isRowT at h
  split at h
  · rename_i d hd; exact ⟨d, hd, h⟩
  · cases h
theorem run_sizeOf {P : Program} {t n : Nat} (h : sizeT P t = some n) (w : World) : (sizeOf t).run P w = .ok n w := by
  obtain ⟨i, hi, rfl⟩ := sizeT_spec h
  simp [sizeOf, typeInfo, hi]
theorem range_seg {w : World} {b o : Nat} {l : List At} {i n : Nat} {s : List At} (h : w.rangeAt b o (flat l)) (hs : seg l i n = some s) : w.rangeAt b (o + i) (flat s) := by
  obtain ⟨p, r, e, hp, ht⟩ := seg_spec hs
  intro j v hj
  have hlt : j < (flat s).length := (List.getElem?_eq_some_iff.1 hj).1
  have := h (i + j) v (by
    rw [e, flat_append, flat_append, List.getElem?_append_right (by rw [flat_len, hp]; omega), flat_len, hp, show i + j - i = j by omega, List.getElem?_append_left hlt]
    exact hj)
  rwa [← Nat.add_assoc] at this
theorem run_isAgg_sc {P : Program} (w : World) {t : Nat} (hs : scalT P t = true) : (isAgg t).run P w = .ok false w := by
  unfold scalT at hs
  unfold isAgg
  split at hs
  · cases hs
  · cases hs
  · rename_i d hu h1 h2
    rw [Sem.run_bind, run_underlying h2 w]
    cases d <;> first | rfl | exact absurd rfl (hu _) | exact absurd rfl (h1 _ _)
  · cases hs
theorem run_loadVar_sc {P : Program} (w : World) (p : Addr) {t : Nat} {v : Value} (hs : scalT P t = true) (hc : w.cell? p = some v) : (loadVar t p).run P w = .ok v w := by
  have hagg : (isAgg t).run P w = .ok false w := by
    unfold scalT at hs
    unfold isAgg
    split at hs
    · cases hs
    · cases hs
    · rename_i d hu h1 h2
      rw [Sem.run_bind, run_underlying h2 w]
      cases d <;> first | rfl | exact absurd rfl (hu _) | exact absurd rfl (h1 _ _)
    · cases hs
  simp [loadVar, Sem.run_bind, hagg, hc]
theorem run_method {P : Program} (w : World) {t f : Nat} {name : String} (h : methOf P t name = some f) (v : Value) (args : Array Value) (he : ∀ xs, (callFunc f xs).run P w = .ok (.enter f xs) w) :
    (callMethod (.iface t v) name args).run P w = .ok (.enter f (#[v] ++ args)) w := by
  have hmeth : ∀ k, (method (k + 1) t v name).run P w = .ok (f, v) w := fun k => by
    unfold methOf at h
    split at h
    · rename_i i d hi hu
      have hfin : (∀ e, d ≠ .pointer e) → (match i.methods.find? (·.name == name) with
          | some m => (match m.path.toList, m.func with
            | [], some (f, false) => some f
            | _, _ => none)
          | none => none) = some f → (method (k + 1) t v name).run P w = .ok (f, v) w := fun hd h => by
        split at h
        · rename_i m hm
          split at h
          · rename_i f' hp hf
            cases h
            unfold method
            have hrec : ∀ o, (receiverAt t (.val v) false o).run P w = .ok v w := fun o => by
              unfold receiverAt
              rw [Sem.run_bind, run_underlying hu w]
              cases d <;> first | exact absurd rfl (hd _) | rfl
            simp [typeInfo, hi, hm, hp, follow, hf, hrec]
          · cases h
        · cases h
      cases d <;> first | (cases h; done) | exact hfin (fun e q => by cases q) h
    · cases h
  unfold callMethod
  have hk : ∃ k, P.types.size + Made.depth = k + 1 := ⟨P.types.size + 99, rfl⟩
  obtain ⟨k, hk⟩ := hk
  simp [Sem.run_bind, run_program, hk, hmeth, he]
theorem seg_size {l : List At} {i n : Nat} {s : List At} (hs : seg l i n = some s) : fsz s = n := by
  obtain ⟨p, r, e, hp, ht⟩ := seg_spec hs
  exact ht
theorem keyed_spec {M : List Fact} {base : Nat} {β : Nat → Nat × Nat} {a : Act} {w : World} (hM : ∀ φ ∈ M, φ.ok base β a w) {ky : Option Nat} {v : Value} {p : List Prop} {u : AV} (h : keyed M ky v = some (p, u)) (hp : allP p) : u.den β = v := by
  unfold keyed at h
  split at h
  · cases h; rfl
  · rename_i k
    split at h
    · rename_i b n m b' hb
      cases h
      have := hM _ (atOf_mem hb)
      simp only [Fact.ok] at this
      obtain ⟨rfl, _⟩ := hp
      simp [AV.den, this]
    · rename_i b b' hb
      cases h
      have := hM _ (atOf_mem hb)
      simp only [Fact.ok] at this
      obtain ⟨rfl, _⟩ := hp
      simp [AV.den, this]
    · cases h
theorem imms_spec {M : List Fact} {base : Nat} {β : Nat → Nat × Nat} {a : Act} {w : World} (hM : ∀ φ ∈ M, φ.ok base β a w) : ∀ {l : List AV} {vs : List Value}, imms M l = some vs → l.map (AV.den β) = vs
  | [], vs, h => by cases h; rfl
  | .im v :: r, vs, h => by
    unfold imms at h
    split at h
    · rename_i l hl
      cases h
      show v :: r.map (AV.den β) = _
      rw [imms_spec hM hl]
    · cases h
  | .pt k o :: r, vs, h => by
    unfold imms at h
    split at h
    · rename_i b l hb hl
      cases h
      have := hM _ (atOf_mem hb)
      simp only [Fact.ok] at this
      show (AV.pt k o).den β :: r.map (AV.den β) = _
      rw [imms_spec hM hl]
      simp [AV.den, this]
    · cases h
  | .fl _ :: _, vs, h => by cases h
  | .sl _ _ _ _ :: _, vs, h => by cases h
  | .tu _ :: _, vs, h => by cases h
  | .ic _ _ :: _, vs, h => by cases h
  | .tf _ _ _ _ :: _, vs, h => by cases h
theorem post_fresh {base : Nat} {β : Nat → Nat × Nat} {a : Act} {w w' : World} {d : Nat} {M : List Fact} (r : FR) (b : Nat) (h : d < a.tmps.size) (hB : base ≤ w.heap.size) (hb : Below w.heap.size w w')
    (h1 : w.heap.size ≤ b) (h2 : b < w'.heap.size) (h3 : w'.rangeAt b 0 (flat r.l)) (h4 : ∀ j, w'.frozen? ⟨b, j, none⟩ = false) :
    PostB base β (β1 β d b) a w (some d) M [.slot d (bif r.post.isEmpty then .sl d 0 r.n r.m else .tf d r.n r.m r.post), .row d true r.l] none (a.put (some d) (r.val b)) w' where
  defers := rfl
  size := put_size _ _ _
  tmps s hs := put_ne _ _ _ _ hs
  beta k hk := β1_ne _ _ _ _ hk
  heap := hb.size
  mem p hp _ := ⟨hb.cell hp, hb.frozen hp⟩
  below _ h := h.trans (hb.mono hB)
  ok φ hφ := by
    rcases List.mem_cons.1 hφ with rfl | hφ
    · show (a.put (some d) (r.val b)).tmps[d]? = _
      rw [put_get _ _ _ h]
      unfold FR.val
      cases r.post.isEmpty <;> simp [AV.den, β1_same]
    · cases List.mem_singleton.1 hφ
      refine ⟨by rw [β1_same]; exact h2, by rw [β1_same]; exact h3, fun _ => ⟨by rw [β1_same]; exact Nat.le_trans hB h1, by rw [β1_same], fun j => by rw [β1_same]; exact h4 j⟩, fun h => by cases h⟩
  rows k l hk := by
    rcases List.mem_cons.1 hk with hk | hk
    · cases hk
    · cases List.mem_singleton.1 hk
      exact Or.inl ⟨by rw [β1_same]; exact h1, rfl⟩
  one k k' l l' hk hk' := by
    rcases List.mem_cons.1 hk with hk | hk
    · cases hk
    · rcases List.mem_cons.1 hk' with hk' | hk'
      · cases hk'
      · cases List.mem_singleton.1 hk; cases List.mem_singleton.1 hk'; rfl
  kills k hk := by cases hk
section
variable {E : Env} {base : Nat} {β : Nat → Nat × Nat} {a : Act} {w : World} {M : List Fact} {d : Nat} {o : Oper} {pre : List Prop} {out : List Fact} {kill : Option Nat} {K : Act → World → Prop} {Q : Exit → Act → World → Prop}

/-- a value by a quiet operation -/
theorem quiet_ok (hd : d < a.tmps.size) (hdst : o.dst = some d) (v : AV) (hr : (execOp a.eval o).run E.P w = .ok (.value (v.den β)) w)
    (hK : ∀ β' a' w', PostB base β β' a w (some d) M [.slot d v] none a' w' → K a' w') : o.wp E.P a w K Q :=
  wp_value hr (by rw [hdst]; exact hK _ _ _ (post_pure v hd))
theorem new_ok (hB : base ≤ w.heap.size) (hd : d < a.tmps.size) (hdst : o.dst = some d) (v : AV) (l : List At) (t : TypeId)
    (hr : (execOp a.eval o).run E.P w = .ok (.value (v.den (β1 β d w.heap.size))) (w.alloc (.cells (flat l).toArray t)))
    (hK : ∀ β' a' w', PostB base β β' a w (some d) M [.slot d v, .row d true l] none a' w' → K a' w') : o.wp E.P a w K Q :=
  wp_value hr (by rw [hdst]; exact hK _ _ _ (post_new v l t hd hB))
variable (hC : (∀ φ ∈ M, φ.ok base β a w) ∧ base ≤ w.heap.size ∧ d < a.tmps.size ∧ o.dst = some d)
variable (hK : ∀ β' a' w', PostB base β β' a w (some d) M out kill a' w' → K a' w')
include hC hK

theorem st_move {x : Operand} (ho : o.op = .move x) (h : stepA E M d (.move x) = some (pre, out, kill)) : o.wp E.P a w K Q := by
  obtain ⟨hM, hB, hd, hdst⟩ := hC
  simp only [stepA] at h
  split at h
  · rename_i v hv
    cases h
    exact quiet_ok hd hdst v (by simp [execOp, ho, ev_spec hM hv]) hK
  · cases h
theorem st_assign {x : Operand} (ho : o.op = .assign x) (h : stepA E M d (.assign x) = some (pre, out, kill)) : o.wp E.P a w K Q := by
  obtain ⟨hM, hB, hd, hdst⟩ := hC
  simp only [stepA] at h
  split at h
  · rename_i v hv
    cases h
    exact quiet_ok hd hdst v (by simp [execOp, ho, ev_spec hM hv]) hK
  · cases h
theorem st_pick {c x y : Operand} (ho : o.op = .pick c x y) (h : stepA E M d (.pick c x y) = some (pre, out, kill)) : o.wp E.P a w K Q := by
  obtain ⟨hM, hB, hd, hdst⟩ := hC
  simp only [stepA] at h
  split at h
  · rename_i b v u hc hx hy
    cases h
    refine quiet_ok hd hdst _ ?_ hK
    have hc' : a.eval c = .bool b := ev_spec hM hc
    cases b
    · simp [execOp, ho, hc', ev_spec hM hy, asBool]
    · simp [execOp, ho, hc', ev_spec hM hx, asBool]
  · cases h
theorem st_alloc {t : TypeId} (ho : o.op = .alloc t) (h : stepA E M d (.alloc t) = some (pre, out, kill)) : o.wp E.P a w K Q := by
  obtain ⟨hM, hB, hd, hdst⟩ := hC
  simp only [stepA] at h
  split at h
  · rename_i l hl
    cases h
    unfold zeroA at hl
    split at hl
    · rename_i i hi
      split at hl
      · rename_i z hz
        cases hl
        refine new_ok hB hd hdst _ _ t ?_ hK
        simp [execOp, ho, Instr.alloc, zeroValue, typeInfo, hi, hz, newVar, newRow, AV.den, β1_same, nz_flat]
      · cases hl
    · cases hl
  · cases h
theorem st_box {t : TypeId} {x : Operand} (ho : o.op = .box t x) (h : stepA E M d (.box t x) = some (pre, out, kill)) : o.wp E.P a w K Q := by
  obtain ⟨hM, hB, hd, hdst⟩ := hC
  simp only [stepA] at h
  split at h
  · rename_i v hv
    split at h
    · rename_i p hp
      cases h
      refine new_ok hB hd hdst _ _ t ?_ hK
      have hc := part?_spec hp β
      have he := ev_spec hM hv
      rw [show AV.den (β1 β d w.heap.size) (.pt d 0) = .pointer (some ⟨w.heap.size, 0, none⟩) by simp [AV.den, β1_same]]
      simp [execOp, ho, Instr.box, newVar, newRow, he, hc]
    · cases h
  · cases h
theorem st_build {t : TypeId} {ps : Array (Nat × Operand)} (ho : o.op = .build t ps) (h : stepA E M d (.build t ps) = some (pre, out, kill)) : o.wp E.P a w K Q := by
  obtain ⟨hM, hB, hd, hdst⟩ := hC
  simp only [stepA] at h
  split at h
  · rename_i qs hq
    split at h
    · rename_i l hl
      cases h
      refine quiet_ok hd hdst _ ?_ hK
      have := buildA_spec hM hq hl
      have hb := run_build w t (ps.map fun (i, x) => (i, a.eval x)) _ (by rw [Array.toList_map]; exact this)
      simp [execOp, ho, hb, AV.den, nq_flat]
    · cases h
  · cases h
theorem st_buildSlice {t : TypeId} {n : Nat} {ps : Array (Nat × Operand)} (ho : o.op = .buildSlice t n ps) (h : stepA E M d (.buildSlice t n ps) = some (pre, out, kill)) : o.wp E.P a w K Q := by
  obtain ⟨hM, hB, hd, hdst⟩ := hC
  simp only [stepA] at h
  split at h
  · rename_i qs hq
    split at h
    · rename_i l hl
      cases h
      unfold buildSA at hl
      split at hl
      · rename_i e hu
        split at hl
        · rename_i ie hie
          split at hl
          · rename_i z hz
            cases hc : (Nat.ble (n * ie.size) 4096 && !(Nat.beq (n * ie.size) 0)) <;> rw [hc] at hl
            · cases hl
            · simp only [cond_true] at hl
              simp only [Bool.and_eq_true, Bool.not_eq_true', Nat.ble_eq] at hc
              have hpos : ¬ n * ie.size = 0 := fun e => by rw [e] at hc; exact absurd hc.2 (by decide)
              have hs := fillA_spec hM _ ps.toList qs _ _ hq hl
              rw [zat_flat, Array.toArray_toList] at hs
              refine new_ok hB hd hdst _ _ e ?_ hK
              have hb := run_buildSlice (P := E.P) w t e n (ps.map fun (i, x) => (i, a.eval x)) _ ie z hu hie hz (by omega) hpos (by rw [Array.toList_map]; exact hs)
              simp [execOp, ho, hb, AV.den, β1_same]
          · cases hl
        · cases hl
      · cases hl
    · cases h
  · cases h
theorem st_load {t : TypeId} {x : Operand} (hX : ExtAt E.P E.q.x w) (ho : o.op = .load t x) (h : stepA E M d (.load t x) = some (pre, out, kill)) (hp : allP pre) : o.wp E.P a w K Q := by
  obtain ⟨hM, hB, hd, hdst⟩ := hC
  simp only [stepA] at h
  split at h
  · rename_i k i hx
    split at h
    · rename_i ow l n hr hs ht
      have hg' : ∃ s, seg l i n = some s ∧ out = [.slot d (.fl s)] ∧ kill = none := by
        split at h
        · rename_i s hs'
          cases h
          exact ⟨s, hp.1, rfl, rfl⟩
        · split at h
          · rename_i s hg; cases h; exact ⟨s, hg, rfl, rfl⟩
          · cases h
      obtain ⟨s, hg, rfl, rfl⟩ := hg'
      · obtain ⟨i', hi, hn⟩ := sizeT_spec hs
        obtain ⟨ds, hu, hd'⟩ := isRowT_spec ht
        obtain ⟨h1, h2, _⟩ := hM _ (rowOf_mem hr)
        refine quiet_ok hd hdst _ ?_ hK
        have := run_loadAt_mid (P := E.P) w _ _ t (flat s) ds (range_seg h2 hg) hu hd' (by rw [hi]; simp [flat_len, seg_size hg, hn])
        have hx' : a.eval x = .pointer (some ⟨(β k).1, (β k).2 + i, none⟩) := ev_spec hM hx
        simp [execOp, ho, hx', this, AV.den]
    · rename_i ow l hr hs ht
      cases hsc : scalT E.P t <;> rw [hsc] at h
      · cases h
      · simp only [cond_true] at h
        have hg' : ∃ v u, cellAt l i = some v ∧ u.den β = v ∧ out = [.slot d u] ∧ kill = none := by
          split at h
          · rename_i s hs'
            split at h
            · rename_i p u hk
              cases h
              exact ⟨s, u, hp.1, keyed_spec hM hk hp.2, rfl, rfl⟩
            · cases h
          · split at h
            · rename_i s hg
              split at h
              · rename_i p u hk
                cases h
                exact ⟨s, u, hg, keyed_spec hM hk hp, rfl, rfl⟩
              · cases h
            · cases h
        obtain ⟨v, u, hg, hu, rfl, rfl⟩ := hg'
        obtain ⟨h1, h2, _⟩ := hM _ (rowOf_mem hr)
        refine quiet_ok hd hdst _ ?_ hK
        have hc : w.cell? ⟨(β k).1, (β k).2 + i, none⟩ = some v := h2 i v (cellAt_spec hg)
        have hx' : a.eval x = .pointer (some ⟨(β k).1, (β k).2 + i, none⟩) := ev_spec hM hx
        have hl := run_loadVar_sc w ⟨(β k).1, (β k).2 + i, none⟩ hsc hc
        simp [execOp, ho, Instr.loadAt, Instr.sureAddr, hx', hl, hu]
    · cases h
  · rename_i b i hx
    have hx' : a.eval x = .pointer (some ⟨b, i, none⟩) := ev_spec hM hx
    split at h
    · rename_i n hs ht
      split at h
      · rename_i s hl
        cases h
        obtain ⟨i', hi, hn⟩ := sizeT_spec hs
        obtain ⟨ds, hu, hd'⟩ := isRowT_spec ht
        have h2 := hX.1 _ _ _ hp.1
        refine quiet_ok hd hdst _ ?_ hK
        have := run_loadAt_mid (P := E.P) w _ _ t (flat s) ds h2 hu hd' (by rw [hi]; simp [flat_len, hp.2.1, hn])
        simp [execOp, ho, hx', this, AV.den]
      · cases h
    · rename_i hs ht
      cases hsc : scalT E.P t <;> rw [hsc] at h
      · cases h
      · simp only [cond_true] at h
        split at h
        · rename_i v hv
          cases h
          have h2 := hX.1 _ _ _ hp.1
          refine quiet_ok hd hdst _ ?_ hK
          have hc : w.cell? ⟨b, i, none⟩ = some v := h2 0 v rfl
          have hl := run_loadVar_sc w ⟨b, i, none⟩ hsc hc
          simp [execOp, ho, Instr.loadAt, Instr.sureAddr, hx', hl, AV.den]
        · cases h
    · cases h
  · cases h
theorem st_iface {t : TypeId} {x : Operand} (ho : o.op = .makeInterface t x) (h : stepA E M d (.makeInterface t x) = some (pre, out, kill)) : o.wp E.P a w K Q := by
  obtain ⟨hM, hB, hd, hdst⟩ := hC
  simp only [stepA] at h
  split at h
  · rename_i l hx
    cases hi : isIfT E.P t <;> rw [hi] at h
    · cases h
      have hx' : a.eval x = .agg (flat l).toArray := ev_spec hM hx
      refine quiet_ok hd hdst _ ?_ hK
      have hm : (Instr.makeInterface t (.agg (flat l).toArray)).run E.P w = .ok (.iface t (.agg (flat l).toArray)) w := by
        unfold isIfT at hi
        unfold Instr.makeInterface
        split at hi
        · cases hi
        · rename_i dd hne hu
          rw [Sem.run_bind, run_underlying hu w]
          cases dd <;> first | rfl | exact absurd rfl (hne _)
        · cases hi
      simp [execOp, ho, hx', hm, AV.den]
    · cases h
  · cases h
theorem st_nilCheck {x : Operand} (ho : o.op = .nilCheck x) (h : stepA E M d (.nilCheck x) = some (pre, out, kill)) : o.wp E.P a w K Q := by
  obtain ⟨hM, hB, hd, hdst⟩ := hC
  simp only [stepA] at h
  split at h
  · rename_i k j hx
    cases h
    have hx' : a.eval x = .pointer (some ⟨(β k).1, (β k).2 + j, none⟩) := ev_spec hM hx
    exact quiet_ok hd hdst _ (by simp [execOp, ho, hx', AV.den]) hK
  · rename_i p hx
    cases h
    have hx' : a.eval x = .pointer (some p) := ev_spec hM hx
    exact quiet_ok hd hdst _ (by simp [execOp, ho, hx', AV.den]) hK
  · cases h
theorem st_convert {src dst : TypeId} {x : Operand} (ho : o.op = .convert src dst x) (h : stepA E M d (.convert src dst x) = some (pre, out, kill)) (hp : allP pre) : o.wp E.P a w K Q := by
  obtain ⟨hM, hB, hd, hdst⟩ := hC
  simp only [stepA] at h
  split at h
  · rename_i r v hr hx
    cases h
    have hx' : a.eval x = v := ev_spec hM hx
    have h1 := hp.1 w
    refine quiet_ok hd hdst (.im r) ?_ hK
    simp [execOp, ho, hx', h1, AV.den]
  · cases h
theorem st_makeFunc {fn : Fn} {first captured : Array Operand} (ho : o.op = .makeFunc fn first captured) (h : stepA E M d (.makeFunc fn first captured) = some (pre, out, kill)) : o.wp E.P a w K Q := by
  obtain ⟨hM, hB, hd, hdst⟩ := hC
  simp only [stepA] at h
  split at h
  · rename_i id
    cases hb : Nat.beq first.size 0 <;> rw [hb] at h
    · cases h
    · simp only [cond_true] at h
      have z1 : first = #[] := Array.size_eq_zero_iff.1 (Nat.eq_of_beq_eq_true hb)
      subst z1
      split at h
      · rename_i l hl
        split at h
        · rename_i vs hv
          cases h
          have hargs := evs_spec hM hl
          rw [imms_spec hM hv] at hargs
          have ea : captured.map a.eval = vs.toArray := by rw [← Array.toArray_toList (xs := captured.map a.eval), Array.toList_map, hargs]
          refine quiet_ok hd hdst (.im (.func (.func id) #[] vs.toArray)) ?_ hK
          simp [execOp, ho, Instr.makeFunc, ea, AV.den]
        · cases h
      · cases h
  · cases h
theorem st_makeSlice {t : TypeId} {x y : Operand} (ho : o.op = .makeSlice t x y) (h : stepA E M d (.makeSlice t x y) = some (pre, out, kill)) (hp : allP pre) : o.wp E.P a w K Q := by
  obtain ⟨hM, hB, hd, hdst⟩ := hC
  simp only [stepA] at h
  split at h
  · rename_i n L v u hm hx hy
    cases h
    have hx' : a.eval x = v := ev_spec hM hx
    have hy' : a.eval y = u := ev_spec hM hy
    obtain ⟨e, he⟩ := hp.1
    have h1 := he w
    refine new_ok hB hd hdst _ _ e ?_ hK
    simp [execOp, ho, hx', hy', h1, AV.den, β1_same]
  · cases h
theorem st_field {s : TypeId} {x : Operand} {i : Nat} (ho : o.op = .fieldAddr s x i) (h : stepA E M d (.fieldAddr s x i) = some (pre, out, kill)) : o.wp E.P a w K Q := by
  obtain ⟨hM, hB, hd, hdst⟩ := hC
  simp only [stepA] at h
  split at h
  · rename_i k j fs hx hu
    split at h
    · rename_i f hf
      split at h
      · rename_i n hn
        cases hb : Nat.beq n 0 <;> rw [hb] at h
        · cases h
          refine quiet_ok hd hdst _ ?_ hK
          have hx' : a.eval x = .pointer (some ⟨(β k).1, (β k).2 + j, none⟩) := ev_spec hM hx
          have hz : n ≠ 0 := fun e => by rw [e] at hb; cases hb
          simp [execOp, ho, hx', Instr.fieldAt, run_underlying hu, hf, Instr.sureAddr, fieldPlace, run_sizeOf hn, hz, AV.den, Addr.add_mid, Nat.add_assoc]
        · cases h
      · cases h
    · cases h
  · rename_i b j fs hx hu
    split at h
    · rename_i f hf
      split at h
      · rename_i n hn
        cases hb : Nat.beq n 0 <;> rw [hb] at h
        · cases h
          refine quiet_ok hd hdst _ ?_ hK
          have hx' : a.eval x = .pointer (some ⟨b, j, none⟩) := ev_spec hM hx
          have hz : n ≠ 0 := fun e => by rw [e] at hb; cases hb
          simp [execOp, ho, hx', Instr.fieldAt, run_underlying hu, hf, Instr.sureAddr, fieldPlace, run_sizeOf hn, hz, AV.den, Addr.add_mid, Nat.add_assoc]
        · cases h
      · cases h
    · cases h
  · cases h
theorem st_indexAddr {t : TypeId} {x y : Operand} (ho : o.op = .indexAddr t x y) (h : stepA E M d (.indexAddr t x y) = some (pre, out, kill)) (hp : allP pre) : o.wp E.P a w K Q := by
  obtain ⟨hM, hB, hd, hdst⟩ := hC
  simp only [stepA] at h
  split at h
  · rename_i i hidx
    split at h
    · rename_i k j kd q n e hx hy hu
      have hx' : a.eval x = .pointer (some ⟨(β k).1, (β k).2 + j, none⟩) := ev_spec hM hx
      have hy' : a.eval y = .int kd q := ev_spec hM hy
      split at h
      · rename_i s hs
        cases h
        obtain ⟨rfl, hi, _⟩ := hp
        refine quiet_ok hd hdst _ ?_ hK
        simp [execOp, ho, hx', hy', Instr.indexAt, asIntOf, run_underlying hu, Instr.sureAddr, run_sizeOf hs, hi, AV.den, Addr.add_mid, Nat.add_assoc]
      · cases h
    · rename_i k j n m kd q e hx hy hu
      have hx' : a.eval x = .slice (some ⟨(β k).1, (β k).2 + j, none⟩) n m := ev_spec hM hx
      have hy' : a.eval y = .int kd q := ev_spec hM hy
      split at h
      · rename_i s hs
        cases h
        obtain ⟨rfl, hi, _⟩ := hp
        refine quiet_ok hd hdst _ ?_ hK
        simp [execOp, ho, hx', hy', Instr.indexAt, asIntOf, run_underlying hu, Instr.sureAddr, run_sizeOf hs, hi, AV.den, Addr.add_mid, Nat.add_assoc]
      · cases h
    · rename_i b j kd q n e hx hy hu
      have hx' : a.eval x = .pointer (some ⟨b, j, none⟩) := ev_spec hM hx
      have hy' : a.eval y = .int kd q := ev_spec hM hy
      split at h
      · rename_i s hs
        cases h
        obtain ⟨rfl, hi, _⟩ := hp
        refine quiet_ok hd hdst _ ?_ hK
        simp [execOp, ho, hx', hy', Instr.indexAt, asIntOf, run_underlying hu, Instr.sureAddr, run_sizeOf hs, hi, AV.den, Addr.add_mid, Nat.add_assoc]
      · cases h
    · rename_i b j n m kd q e hx hy hu
      have hx' : a.eval x = .slice (some ⟨b, j, none⟩) n m := ev_spec hM hx
      have hy' : a.eval y = .int kd q := ev_spec hM hy
      split at h
      · rename_i s hs
        cases h
        obtain ⟨rfl, hi, _⟩ := hp
        refine quiet_ok hd hdst _ ?_ hK
        simp [execOp, ho, hx', hy', Instr.indexAt, asIntOf, run_underlying hu, Instr.sureAddr, run_sizeOf hs, hi, AV.den, Addr.add_mid, Nat.add_assoc]
      · cases h
    · cases h
  split at h
  · rename_i k j kd i hx hy
    have hx' : a.eval x = .pointer (some ⟨(β k).1, (β k).2 + j, none⟩) := ev_spec hM hx
    have hy' : a.eval y = .int kd (Int.ofNat i) := ev_spec hM hy
    split at h
    · rename_i n e hu
      split at h
      · rename_i s hs
        cases hb : Nat.blt i n <;> rw [hb] at h
        · cases h
        · cases h
          have hi : i < n := by simpa using hb
          refine quiet_ok hd hdst _ ?_ hK
          simp [execOp, ho, hx', hy', Instr.indexAt, asIntOf, run_underlying hu, Instr.sureAddr, run_sizeOf hs, hi, AV.den, Addr.add_mid, Nat.add_assoc]
      · cases h
    · cases h
  · rename_i k j n m kd i hx hy
    have hx' : a.eval x = .slice (some ⟨(β k).1, (β k).2 + j, none⟩) n m := ev_spec hM hx
    have hy' : a.eval y = .int kd (Int.ofNat i) := ev_spec hM hy
    split at h
    · rename_i e hu
      split at h
      · rename_i s hs
        cases hb : Nat.blt i n <;> rw [hb] at h
        · cases h
        · cases h
          have hi : i < n := by simpa using hb
          refine quiet_ok hd hdst _ ?_ hK
          simp [execOp, ho, hx', hy', Instr.indexAt, asIntOf, run_underlying hu, Instr.sureAddr, run_sizeOf hs, hi, AV.den, Addr.add_mid, Nat.add_assoc]
      · cases h
    · cases h
  · cases h
theorem st_index {t : TypeId} {x y : Operand} (ho : o.op = .index t x y) (h : stepA E M d (.index t x y) = some (pre, out, kill)) : o.wp E.P a w K Q := by
  obtain ⟨hM, hB, hd, hdst⟩ := hC
  simp only [stepA] at h
  split at h
  · rename_i l kd i hx hy
    have hx' : a.eval x = .agg (flat l).toArray := ev_spec hM hx
    have hy' : a.eval y = .int kd (Int.ofNat i) := ev_spec hM hy
    split at h
    · rename_i n e hu
      split at h
      · rename_i s hs ht
        cases hb : Nat.blt i n <;> rw [hb] at h
        · cases h
        · simp only [cond_true] at h
          split at h
          · rename_i r hr
            cases h
            have hi : i < n := by simpa using hb
            obtain ⟨ds, hu2, hd'⟩ := isRowT_spec ht
            have hagg : (isAgg e).run E.P w = .ok true w := by
              unfold isAgg
              rw [Sem.run_bind, run_underlying hu2 w]
              cases ds <;> simp_all
            obtain ⟨p, r', e1, hp, hr'⟩ := seg_spec hr
            have hex : List.take s (List.drop (i * s) (flat l)) = flat r := by
              rw [e1, flat_append, flat_append]
              rw [List.drop_append, flat_len, hp]
              simp only [Nat.sub_self, List.drop_zero]
              rw [List.drop_of_length_le (by rw [flat_len, hp]; omega), List.nil_append, List.take_append_of_le_length (by rw [flat_len, hr']; omega), List.take_of_length_le (by rw [flat_len, hr']; omega)]
            refine quiet_ok hd hdst _ ?_ hK
            simp [execOp, ho, hx', hy', Instr.index, asIntOf, run_underlying hu, run_sizeOf hs, hi, part, hagg, AV.den, hex]
          · cases h
      · rename_i hs ht
        cases hb : (scalT E.P e && Nat.blt i n) <;> rw [hb] at h
        · cases h
        · simp only [cond_true] at h
          rw [Bool.and_eq_true] at hb
          split at h
          · rename_i v hv
            cases h
            have hi : i < n := by simpa using hb.2
            have hagg : (isAgg e).run E.P w = .ok false w := run_isAgg_sc w hb.1
            have hc := cellAt_spec hv
            refine quiet_ok hd hdst _ ?_ hK
            simp [execOp, ho, hx', hy', Instr.index, asIntOf, run_underlying hu, run_sizeOf hs, hi, part, hagg, AV.den, hc]
          · cases h
      · cases h
    · cases h
  · cases h
theorem st_extract {x : Operand} {i : Nat} (ho : o.op = .extract x i) (h : stepA E M d (.extract x i) = some (pre, out, kill)) : o.wp E.P a w K Q := by
  obtain ⟨hM, hB, hd, hdst⟩ := hC
  simp only [stepA] at h
  split at h
  · rename_i l hx
    split at h
    · rename_i t ht
      cases h
      have hx' : a.eval x = .tuple (l.map TV.den).toArray := ev_spec hM hx
      refine quiet_ok hd hdst _ ?_ hK
      simp [execOp, ho, hx', Instr.extract, ht, TV.av_den]
    · cases h
  · rename_i k n m post hx
    have hx' : a.eval x = .tuple (.slice (some ⟨(β k).1, (β k).2, none⟩) n m :: post.map TV.den).toArray := ev_spec hM hx
    cases i with
    | zero =>
      cases h
      refine quiet_ok hd hdst _ ?_ hK
      simp [execOp, ho, hx', Instr.extract, AV.den]
    | succ i =>
      simp only at h
      split at h
      · rename_i t ht
        cases h
        refine quiet_ok hd hdst _ ?_ hK
        simp [execOp, ho, hx', Instr.extract, ht, TV.av_den]
      · cases h
  · cases h
theorem st_slice {t : TypeId} {x : Operand} {lo hi mx : Option Operand} (ho : o.op = .slice t x lo hi mx) (h : stepA E M d (.slice t x lo hi mx) = some (pre, out, kill)) : o.wp E.P a w K Q := by
  obtain ⟨hM, hB, hd, hdst⟩ := hC
  cases lo with
  | some _ => simp only [stepA] at h; cases h
  | none =>
  cases mx with
  | some _ => simp only [stepA] at h; cases h
  | none =>
  simp only [stepA] at h
  split at h
  · rename_i k j n e hx hu
    have hx' : a.eval x = .pointer (some ⟨(β k).1, (β k).2 + j, none⟩) := ev_spec hM hx
    split at h
    · rename_i s hs
      cases hi with
      | none =>
        cases h
        refine quiet_ok hd hdst _ ?_ hK
        by_cases hn : n = 0 <;> simp [execOp, ho, hx', Instr.sliceAt, Instr.sureAddr, run_underlying hu, Instr.sliceBounds, run_sizeOf hs, AV.den, Addr.add_mid, hn]
      | some y =>
        simp only at h
        split at h
        · rename_i kd i hy
          have hy' : a.eval y = .int kd (Int.ofNat i) := ev_spec hM hy
          cases hb : Nat.ble i n <;> rw [hb] at h
          · cases h
          · cases h
            have hi : i ≤ n := by simpa using hb
            refine quiet_ok hd hdst _ ?_ hK
            by_cases hn : n = 0
            · subst hn
              have hi0 : i = 0 := Nat.le_zero.1 hi
              subst hi0
              simp [execOp, ho, hx', hy', Instr.sliceAt, Instr.sureAddr, run_underlying hu, Instr.sliceBounds, Instr.sliceBound, asIntOf, run_sizeOf hs, AV.den, Addr.add_mid, hi]
            · simp [execOp, ho, hx', hy', Instr.sliceAt, Instr.sureAddr, run_underlying hu, Instr.sliceBounds, Instr.sliceBound, asIntOf, run_sizeOf hs, AV.den, Addr.add_mid, hn, hi]
        · cases h
    · cases h
  · cases h
theorem st_unOp {op : UnOp} {t : TypeId} {x : Operand} (ho : o.op = .unOp op t x) (h : stepA E M d (.unOp op t x) = some (pre, out, kill)) (hp : allP pre) : o.wp E.P a w K Q := by
  obtain ⟨hM, hB, hd, hdst⟩ := hC
  simp only [stepA] at h
  split at h
  · rename_i r hr
    split at h
    · rename_i v hx
      cases h
      have hx' : a.eval x = v := ev_spec hM hx
      have h1 := hp.1 w
      refine quiet_ok hd hdst (.im r) ?_ hK
      simp [execOp, ho, hx', h1, AV.den]
    · cases h
  split at h
  · rename_i b hb
    have hb' : a.eval x = .bool b := ev_spec hM hb
    have hrun : (execOp a.eval o).run E.P w = .ok (.value (.bool (!b))) w := by simp [execOp, ho, hb', Op.unary]
    split at h
    · rename_i v hv
      cases h
      exact quiet_ok hd hdst (.im v) (by rw [show AV.den β (.im v) = v from rfl, ← hp.1]; exact hrun) hK
    · cases h
      exact quiet_ok hd hdst (.im (.bool (!b))) hrun hK
  · cases h
theorem st_binOp {op : BinOp} {t t2 : TypeId} {x y : Operand} (hq : EqOk1 E.P E.q) (ho : o.op = .binOp op t x y t2) (h : stepA E M d (.binOp op t x y t2) = some (pre, out, kill)) (hp : allP pre) : o.wp E.P a w K Q := by
  obtain ⟨hM, hB, hd, hdst⟩ := hC
  replace hq : EqOk1 E.P E.q := hq
  simp only [stepA] at h
  split at h
  · rename_i r hr
    split at h
    · rename_i v u hx hy
      cases h
      have hx' : a.eval x = v := ev_spec hM hx
      have hy' : a.eval y = u := ev_spec hM hy
      have h1 := hp.1 w
      refine quiet_ok hd hdst (.im r) ?_ hK
      simp only [execOp, ho, hx', hy', AV.den]
      rw [Sem.run_bind, h1]
      rfl
    · cases h
  split at h
  · rename_i v u hx hy
    have hx' := ev_spec hM hx
    have hy' := ev_spec hM hy
    unfold binA at h
    split at h
    · rename_i k p k' q
      split at h
      · rename_i hk
        subst hk
        have hfin : ∀ r, intOp op k p q = some r → (execOp a.eval o).run E.P w = .ok (.value r) w := fun r hr => by
          simp only [AV.den] at hx' hy'
          cases op <;> simp only [intOp] at hr <;> first | (cases hr; done) | skip
          all_goals first
            | (cases hr; simp [execOp, ho, hx', hy', eqGuard, binOp, Op.intArith, Op.intCmp]; done)
            | (by_cases hz : q = 0
               · rw [if_pos hz] at hr; cases hr
               · rw [if_neg hz] at hr; cases hr
                 simp [execOp, ho, hx', hy', eqGuard, binOp, Op.intDiv, hz])
        split at h
        · rename_i r hr
          cases h
          exact quiet_ok hd hdst (.im r) (hfin r hp.1) hK
        · split at h
          · rename_i r hr
            cases h
            exact quiet_ok hd hdst (.im r) (hfin r hr) hK
          · cases h
      · cases h
    · rename_i p q
      simp only [AV.den] at hx' hy'
      split at h
      · rename_i hu
        cases op <;> simp only at h <;> first | (cases h; done) | skip
        all_goals cases h
        · refine quiet_ok hd hdst (.im (.bool (p == q))) ?_ hK
          simp [execOp, ho, hx', hy', eqGuard, binOp, run_equal_bool w t p q hu, AV.den]
        · refine quiet_ok hd hdst (.im (.bool (p != q))) ?_ hK
          simp [execOp, ho, hx', hy', eqGuard, binOp, run_equal_bool w t p q hu, AV.den]
          cases p <;> cases q <;> rfl
      · cases h
    · rename_i l m
      simp only [AV.den] at hx' hy'
      cases hN : (E.q.fit t l && E.q.fit t m) <;> rw [hN] at h
      · cases h
      · simp only [cond_true] at h
        rw [Bool.and_eq_true] at hN
        cases hh : E.hint d <;> rw [hh] at h <;> simp only [cond_true, cond_false] at h
        · split at h
          · rename_i n hn
            cases hb : (Nat.beq (fsz l) n && Nat.beq (fsz m) n) <;> rw [hb] at h
            · cases h
            · simp only [cond_true] at h
              rw [Bool.and_eq_true] at hb
              obtain ⟨hg, he⟩ := hq.2 t n hn
              have he' := he l m w (Nat.eq_of_beq_eq_true hb.1) (Nat.eq_of_beq_eq_true hb.2) hN.1 hN.2
              cases op <;> simp only at h <;> first | (cases h; done) | skip
              all_goals cases h
              all_goals refine quiet_ok hd hdst _ ?_ hK
              all_goals simp only [execOp, ho, hx', hy', Sem.run_bind, run_eqGuard_agg w _ t x y _ _ hg, run_eql_struct, run_neq_struct, Result.andThen_ok, Sem.run_pure, AV.den]
              · rw [he' hp.1]; rfl
              · rw [he' hp.1]; rfl
          · cases h
        · split at h
          · rename_i n hn
            cases hb : (Nat.beq (fsz l) n && Nat.beq (fsz m) n) <;> rw [hb] at h
            · cases h
            · simp only [cond_true] at h
              rw [Bool.and_eq_true] at hb
              obtain ⟨hg, he⟩ := hq.1 t n hn
              have he' := he l w (Nat.eq_of_beq_eq_true hb.1) hN.1
              cases op <;> simp only at h <;> first | (cases h; done) | skip
              all_goals cases h
              all_goals refine quiet_ok hd hdst _ ?_ hK
              all_goals have hp1 := hp.1
              all_goals simp only [execOp, ho, hx', hy', ← hp1, Sem.run_bind, run_eqGuard_agg w _ t x y _ _ hg, run_eql_struct, run_neq_struct, Result.andThen_ok, Sem.run_pure, AV.den]
              · rw [he']; rfl
              · rw [he']; rfl
          · cases h
    · cases h
  · cases h
theorem st_call {c : Call} (hT : ∀ d, TabAt E.P (E.T d) w) (hX : ExtAt E.P E.q.x w) (ho : o.op = .call c) (h : stepA E M d (.call c) = some (pre, out, kill)) (hp : allP pre) : o.wp E.P a w K Q := by
  obtain ⟨hM, hB, hd, hdst⟩ := hC
  simp only [stepA] at h
  split at h
  · rename_i hc
    split at h
    · rename_i x t hx ht
      split at h
      · rename_i k j n m e hx1 hu
        cases h
        have hx' : a.eval x = .slice (some ⟨(β k).1, (β k).2 + j, none⟩) n m := ev_spec hM hx1
        have e1 : c.args = #[x] := by rw [← Array.toArray_toList (xs := c.args), hx]
        have e2 : c.argTypes = #[t] := by rw [← Array.toArray_toList (xs := c.argTypes), ht]
        refine quiet_ok hd hdst _ ?_ hK
        simp [execOp, ho, resolve, hc, e1, e2, invoke, builtin, hx', Builtin.len_, run_underlying hu, AV.den]
      · rename_i p n m e hx1 hu
        cases h
        have hx' : a.eval x = .slice p n m := ev_spec hM hx1
        have e1 : c.args = #[x] := by rw [← Array.toArray_toList (xs := c.args), hx]
        have e2 : c.argTypes = #[t] := by rw [← Array.toArray_toList (xs := c.argTypes), ht]
        refine quiet_ok hd hdst _ ?_ hK
        simp [execOp, ho, resolve, hc, e1, e2, invoke, builtin, hx', Builtin.len_, run_underlying hu, AV.den]
      · cases h
    · cases h
  · rename_i hc
    split at h
    · rename_i x y hx
      split at h
      · rename_i k p k' q hx1 hy1
        have hx' : a.eval x = .int k p := ev_spec hM hx1
        have hy' : a.eval y = .int k' q := ev_spec hM hy1
        have e1 : c.args = #[x, y] := by rw [← Array.toArray_toList (xs := c.args), hx]
        have hrun : (execOp a.eval o).run E.P w = .ok (.value (.int k (if q > p then q else p))) w := by
          simp [execOp, ho, resolve, hc, e1, invoke, builtin, hx', hy', Builtin.max_, Builtin.max2]
        split at h
        · rename_i v hv
          cases h
          exact quiet_ok hd hdst (.im v) (by rw [show AV.den β (.im v) = v from rfl, ← hp.1]; exact hrun) hK
        · cases h
          exact quiet_ok hd hdst (.im (.int k (if q > p then q else p))) hrun hK
      · cases h
    · cases h
  · rename_i f hc
    split at h
    · rename_i id first captured hf
      cases hb : Nat.beq first.size 0 <;> rw [hb] at h
      · cases h
      · simp only [cond_true] at h
        have z1 : first = #[] := Array.size_eq_zero_iff.1 (Nat.eq_of_beq_eq_true hb)
        subst z1
        split at h
        · rename_i l hl
          split at h
          · rename_i cs hcs
            have hf' : a.eval f = .func (.func id) #[] captured := ev_spec hM hf
            have hargs := evs_spec hM hl
            have hcas := argsA_spec hM hcs
            have hcap : ∀ (cs : List CA) (vs : List Value) (us : List Value), CAs w cs vs → CAs w (cs ++ us.map fun v => .v (.im v)) (vs ++ us) := fun cs => by
              induction cs with
              | nil =>
                intro vs us h
                cases vs with
                | cons _ _ => exact h.elim
                | nil =>
                  induction us with
                  | nil => trivial
                  | cons u us ih => exact ⟨rfl, ih⟩
              | cons c cs ih =>
                intro vs us h
                cases vs with
                | nil => cases c <;> exact h.elim
                | cons v vs => cases c <;> exact ⟨h.1, ih vs us h.2⟩
            have hcas' := hcap cs _ captured.toList hcas
            have ea : c.args.map a.eval = (l.map (AV.den β)).toArray := by rw [← Array.toArray_toList (xs := c.args.map a.eval), Array.toList_map, hargs]
            have hrun : (∀ args w, (callFunc id args).run E.P w = .ok (.enter id args) w) → (execOp a.eval o).run E.P w = .ok (.enter id (l.map (AV.den β) ++ captured.toList).toArray) w := fun h1 => by
              have e3 : (l.map (AV.den β)).toArray ++ captured = (l.map (AV.den β) ++ captured.toList).toArray := by simp
              simp [execOp, ho, resolve, hc, Deferred.ofValue, hf', invoke, ea, h1]
            split at h
            · rename_i pre' r hr
              cases h
              obtain ⟨h1, h2⟩ := hT _ _ _ _ _ hr hp
              have hcall := h2 _ hcas'
              unfold Oper.wp
              rw [hrun h1]
              refine Calls.mono hcall ?_
              rintro e w' ⟨rfl, hbl⟩
              show K _ _
              rw [hdst, ← RV.av_den β r]
              exact hK _ _ _ (post_call r.av hd hB hbl)
            · split at h
              · rename_i pre' r hr
                cases h
                obtain ⟨h1, h2⟩ := hX.2 _ _ _ _ hr hp
                have hcall := h2 _ hcas'
                unfold Oper.wp
                rw [hrun h1]
                refine Calls.mono hcall ?_
                rintro e w' ⟨b, rfl, hbl, hb1, hb2, hb3, hb4⟩
                show K _ _
                rw [hdst]
                exact hK _ _ _ (post_fresh r b hd hB hbl hb1 hb2 hb3 hb4)
              · cases h
          · cases h
        · cases h
    · cases h
  · rename_i x name hc
    split at h
    · rename_i t l0 hx
      split at h
      · rename_i id hid
        split at h
        · rename_i l hl
          split at h
          · rename_i cs hcs
            split at h
            · rename_i pre' r hr
              cases h
              obtain ⟨h1, h2⟩ := hT _ _ _ _ _ hr hp
              have hx' : a.eval x = .iface t (.agg (flat l0).toArray) := ev_spec hM hx
              have hargs := evs_spec hM hl
              have hcas := argsA_spec hM hcs
              have hcall := h2 (.agg (flat l0).toArray :: l.map (AV.den β)) ⟨rfl, hcas⟩
              have ea : c.args.map a.eval = (l.map (AV.den β)).toArray := by rw [← Array.toArray_toList (xs := c.args.map a.eval), Array.toList_map, hargs]
              unfold Oper.wp
              have hen : ∀ xs, (callFunc id xs).run E.P w = .ok (.enter id xs) w := fun xs => h1 xs w
              have hmt := run_method w hid (.agg (flat l0).toArray) (l.map (AV.den β)).toArray hen
              have hrun : (execOp a.eval o).run E.P w = .ok (.enter id (#[.agg (flat l0).toArray] ++ (l.map (AV.den β)).toArray)) w := by
                have hex : (#[Value.iface t (.agg (flat l0).toArray)] ++ (l.map (AV.den β)).toArray).extract 1 (#[Value.iface t (.agg (flat l0).toArray)] ++ (l.map (AV.den β)).toArray).size = (l.map (AV.den β)).toArray := by simp [List.take_of_length_le]
                have hg0 : (#[Value.iface t (.agg (flat l0).toArray)] ++ (l.map (AV.den β)).toArray)[0]? = some (Value.iface t (.agg (flat l0).toArray)) := by simp
                simp only [execOp, ho, resolve, hc, ea, hx', Sem.run_bind, Sem.run_pure, Result.andThen_ok, invoke, hg0, hex]
                exact hmt
              rw [hrun]
              have e2 : (#[Value.agg (flat l0).toArray] ++ (l.map (AV.den β)).toArray) = (Value.agg (flat l0).toArray :: l.map (AV.den β)).toArray := by simp
              rw [e2]
              refine Calls.mono hcall ?_
              rintro e w' ⟨rfl, hbl⟩
              show K _ _
              rw [hdst, ← RV.av_den β r]
              exact hK _ _ _ (post_call r.av hd hB hbl)
            · cases h
          · cases h
        · cases h
      · cases h
    · cases h
  · cases h
end
end Go.Proofs.YthlcjdcjnioeoaaGreat.Ex
namespace Go.Proofs.YthlcjdcjnioeoaaGreat.Ex
set_option linter.unusedVariables false
set_option linter.unusedSimpArgs false
open Go.RowKit

section
variable {E : Env} {base : Nat} {β : Nat → Nat × Nat} {a : Act} {w : World} {M : List Fact} {d : Nat} {o : Oper} {pre : List Prop} {out : List Fact} {kill : Option Nat} {K : Act → World → Prop} {Q : Exit → Act → World → Prop}

theorem step_sound (hT : ∀ d, TabAt E.P (E.T d) w) (hX : ExtAt E.P E.q.x w) (hq : EqOk1 E.P E.q) (hM : ∀ φ ∈ M, φ.ok base β a w) (hB : base ≤ w.heap.size) (hd : d < a.tmps.size) (hdst : o.dst = some d)
    (hK : ∀ β' a' w', PostB base β β' a w (some d) M out kill a' w' → K a' w') (h : stepA E M d o.op = some (pre, out, kill)) (hp : allP pre) : o.wp E.P a w K Q := by
  generalize ho : o.op = op at h
  cases op with
  | move x => exact st_move ⟨hM, hB, hd, hdst⟩ hK ho h
  | assign x => exact st_assign ⟨hM, hB, hd, hdst⟩ hK ho h
  | pick c x y => exact st_pick ⟨hM, hB, hd, hdst⟩ hK ho h
  | alloc t => exact st_alloc ⟨hM, hB, hd, hdst⟩ hK ho h
  | box t x => exact st_box ⟨hM, hB, hd, hdst⟩ hK ho h
  | build t ps => exact st_build ⟨hM, hB, hd, hdst⟩ hK ho h
  | buildSlice t n ps => exact st_buildSlice ⟨hM, hB, hd, hdst⟩ hK ho h
  | makeInterface t x => exact st_iface ⟨hM, hB, hd, hdst⟩ hK ho h
  | nilCheck x => exact st_nilCheck ⟨hM, hB, hd, hdst⟩ hK ho h
  | load t x => exact st_load ⟨hM, hB, hd, hdst⟩ hK hX ho h hp
  | convert src dst x => exact st_convert ⟨hM, hB, hd, hdst⟩ hK ho h hp
  | makeFunc fn f c => exact st_makeFunc ⟨hM, hB, hd, hdst⟩ hK ho h
  | makeSlice t x y => exact st_makeSlice ⟨hM, hB, hd, hdst⟩ hK ho h hp
  | fieldAddr s x i => exact st_field ⟨hM, hB, hd, hdst⟩ hK ho h
  | indexAddr t x y => exact st_indexAddr ⟨hM, hB, hd, hdst⟩ hK ho h hp
  | index t x y => exact st_index ⟨hM, hB, hd, hdst⟩ hK ho h
  | extract x i => exact st_extract ⟨hM, hB, hd, hdst⟩ hK ho h
  | slice t x lo hi mx => exact st_slice ⟨hM, hB, hd, hdst⟩ hK ho h
  | binOp op t x y t2 => exact st_binOp ⟨hM, hB, hd, hdst⟩ hK hq ho h hp
  | unOp op t x => exact st_unOp ⟨hM, hB, hd, hdst⟩ hK ho h hp
  | call c => exact st_call ⟨hM, hB, hd, hdst⟩ hK hT hX ho h hp
  | _ => simp only [stepA] at h; cases h
theorem scal_one {v : Value} (h : isScal v = true) : v.oneCell' = true := by cases v <;> first | rfl | cases h
theorem flat_one : ∀ {p : List At}, p.all cOk = true → ∀ v ∈ flat p, v.oneCell' = true
  | [], _, v, hv => by cases hv
  | x :: r, h, v, hv => by
    rw [List.all_cons, Bool.and_eq_true] at h
    rcases List.mem_append.1 hv with hv | hv
    · cases x with
      | f x => simp only [At.cells, w4, List.mem_cons, List.not_mem_nil, or_false] at hv; rcases hv with rfl | rfl | rfl | rfl <;> rfl
      | q x => simp only [At.cells, w4, List.mem_cons, List.not_mem_nil, or_false] at hv; rcases hv with rfl | rfl | rfl | rfl <;> rfl
      | c u => cases List.mem_singleton.1 hv; exact scal_one h.1
    · exact flat_one h.2 v hv
theorem setCells_size (b : Nat) : ∀ (vs : List Value) (o : Nat) (w : World), (w.setCells b o vs).heap.size = w.heap.size
  | [], _, _ => rfl
  | v :: r, o, w => by rw [World.setCells, setCells_size b r]; simp [World.setCell]
theorem setCells_below {B b : Nat} (hb : B ≤ b) : ∀ (vs : List Value) (o : Nat) (w0 w : World), Below B w0 w → Below B w0 (w.setCells b o vs)
  | [], _, _, _, h => h
  | v :: r, o, w0, w, h => setCells_below hb r (o + 1) w0 _ (h.setCell hb v)
theorem store_sound (hM : ∀ φ ∈ M, φ.ok base β a w) (hB : base ≤ w.heap.size) (hdst : o.dst = none)
    (hK : ∀ β' a' w', PostB base β β' a w none M out kill a' w' → K a' w') (h : storeA E M o.op = some (pre, out, kill)) (hp : allP pre) : o.wp E.P a w K Q := by
  generalize ho : o.op = op at h
  cases op with
  | store t x y =>
    simp only [storeA] at h
    split at h
    · rename_i k i v hx hy
      split at h
      · rename_i p l n hv hr hs
        cases hb : (Nat.beq n (fsz p) && p.all cOk) <;> rw [hb] at h
        · cases h
        · simp only [cond_true] at h
          simp only [Bool.and_eq_true] at hb
          have hl' : ∃ l', put l i p = some l' ∧ out = [.row k true l'] ∧ kill = some k := by
            split at h
            · rename_i l' hs'
              cases h
              exact ⟨l', hp.1, rfl, rfl⟩
            · split at h
              · rename_i l' hl; cases h; exact ⟨l', hl, rfl, rfl⟩
              · cases h
          obtain ⟨l', hl, rfl, rfl⟩ := hl'
          · have hn := Nat.eq_of_beq_eq_true hb.1
            obtain ⟨ii, hi, hin⟩ := sizeT_spec hs
            obtain ⟨h1, h2, h3, _⟩ := hM _ (rowOf_mem hr)
            obtain ⟨h4, h5, h6⟩ := h3 rfl
            obtain ⟨A, m, s, e1, e2, e3, e4⟩ := put_spec hl
            have hx' : a.eval x = .pointer (some ⟨(β k).1, (β k).2 + i, none⟩) := ev_spec hM hx
            rw [h5, Nat.zero_add] at hx'
            rw [h5] at h2
            have hsz : (flat p).length = n := by rw [flat_len, hn]
            have hth : w.there (β k).1 i (flat p).toArray.size := fun j hj => by
              have hj' : j < fsz m := by rw [e4, ← flat_len]; simpa using hj
              refine ⟨?_, h6 _⟩
              have := h2 (i + j) ((flat m)[j]'(by rw [flat_len]; exact hj')) (by
                rw [e1, flat_append, flat_append, List.getElem?_append_right (by rw [flat_len, e3]; omega), flat_len, e3, show i + j - i = j by omega, List.getElem?_append_left (by rw [flat_len]; exact hj')]
                exact List.getElem?_eq_getElem _)
              rw [Nat.zero_add] at this
              rw [this]; rfl
            have hst := run_storeVar_mid (P := E.P) w (β k).1 i t (flat p).toArray hth (by rw [hi]; simp [hin, hsz]) (all_oneCell_toArray (flat_one hb.2))
            have hst2 : (storeVar t ⟨(β k).1, i, none⟩ (v.den β)).run E.P w = .ok () (w.setCells (β k).1 i (flat p)) := by
              have hc := part?_spec hv β
              unfold storeVar at hst ⊢
              rw [hc]
              exact hst
            have hrun : (execOp a.eval o).run E.P w = .ok .skip (w.setCells (β k).1 i (flat p)) := by
              simp [execOp, ho, Instr.storeAt, hx', Instr.sureAddr, ev_spec hM hy, hst2]
            unfold Oper.wp
            rw [hrun]
            show K (a.put o.dst undef) _
            rw [hdst]
            refine hK β a _ ⟨rfl, rfl, fun _ _ => rfl, fun _ _ => rfl, by rw [setCells_size]; exact Nat.le_refl _, fun q hq hk => ⟨?_, World.frozen?_setCells _ _ _ _ _⟩, fun w0 h => setCells_below h4 _ _ _ _ h, fun φ hφ => ?_, fun k' l1 hk => ?_, fun k1 k2 l1 l2 hk hk' => ?_, fun k' hk => ?_⟩
            · exact World.cell?_setCells_out _ _ _ _ _ fun e _ => absurd e (hk k rfl)
            · cases List.mem_singleton.1 hφ
              refine ⟨by rw [setCells_size]; exact h1, ?_, fun _ => ⟨h4, h5, fun j => by rw [World.frozen?_setCells]; exact h6 j⟩, fun h => by cases h⟩
              rw [h5, e2]
              intro j u hj
              rw [Nat.zero_add]
              by_cases c1 : j < i
              · rw [World.cell?_setCells_out _ _ _ _ _ (fun _ _ => Or.inl c1)]
                have := h2 j u (by
                  rw [e1, flat_append, flat_append]
                  rw [List.getElem?_append_left (by rw [flat_len, e3]; exact c1)] at hj ⊢
                  exact hj)
                rwa [Nat.zero_add] at this
              · rw [List.getElem?_append_right (by rw [flat_len, e3]; omega), flat_len, e3] at hj
                by_cases c2 : j < i + n
                · rw [List.getElem?_append_left (by omega)] at hj
                  have := World.cell?_setCells_in (β k).1 (flat p) i w (fun q hq => (hth q (by simpa using hq)).1) (j - i) (by omega)
                  rw [show i + (j - i) = j by omega] at this
                  rw [this, ← hj, List.getElem?_eq_getElem]
                · rw [List.getElem?_append_right (by omega), hsz] at hj
                  rw [World.cell?_setCells_out _ _ _ _ _ (fun _ _ => Or.inr (by simp only []; omega))]
                  have := h2 j u (by
                    rw [e1, flat_append, flat_append, List.getElem?_append_right (by rw [flat_len, e3]; omega), flat_len, e3, List.getElem?_append_right (by rw [flat_len, e4]; omega), flat_len, e4, ← hn]
                    exact hj)
                  rwa [Nat.zero_add] at this
            · cases List.mem_singleton.1 hk
              exact Or.inr ⟨by simp, l, rowOf_mem hr⟩
            · cases List.mem_singleton.1 hk; cases List.mem_singleton.1 hk'; rfl
            · cases hk
              exact ⟨by simp, l, rowOf_mem hr⟩
      · cases h
    · cases h
  | _ => simp only [storeA] at h; cases h
theorem op_sound {ops : Array Oper} (hT : ∀ d, TabAt E.P (E.T d) w) (hX : ExtAt E.P E.q.x w) (hq : EqOk1 E.P E.q) (hM : ∀ φ ∈ M, φ.ok base β a w) (hB : base ≤ w.heap.size) (hn : a.tmps.size = E.nt)
    (hK : ∀ β' a' w', PostB base β β' a w o.dst M out kill a' w' → K a' w') (h : opA E ops M o = some (pre, out, kill)) (hp : allP pre) :
    if Region.wanted o (yielded ops a.tmps) = true then o.wp E.P a w K Q else K (a.put o.dst undef) w := by
  unfold opA at h
  split at h
  · rename_i hg
    rw [if_pos (guardIs_spec hM hg)]
    cases hd : o.dst with
    | none =>
      rw [hd] at h
      rw [hd] at hK
      exact store_sound hM hB hd hK h hp
    | some d =>
      rw [hd] at h
      rw [hd] at hK
      simp only at h
      cases hb : Nat.blt d E.nt <;> rw [hb] at h
      · cases h
      · exact step_sound hT hX hq hM hB (by rw [hn]; simpa using hb) hd hK h hp
  · rename_i hg
    rw [if_neg (by rw [guardIs_spec hM hg]; simp)]
    cases hd : o.dst with
    | none => rw [hd] at h; cases h
    | some d =>
      rw [hd] at h
      rw [hd] at hK
      simp only at h
      cases hb : Nat.blt d E.nt <;> rw [hb] at h
      · cases h
      · cases h
        exact hK _ _ _ (post_pure (.im undef) (by rw [hn]; simpa using hb))
  · cases h
end
end Go.Proofs.YthlcjdcjnioeoaaGreat.Ex
namespace Go.Proofs.YthlcjdcjnioeoaaGreat.Ex
set_option linter.unusedVariables false
set_option linter.unusedSimpArgs false
open Go.RowKit

def optIs : Option Nat → Nat → Bool
  | some d, s => Nat.beq d s
  | none, _ => false
theorem optIs_iff {d : Option Nat} {s : Nat} : optIs d s = true ↔ d = some s := by
  cases d with
  | none => simp [optIs]
  | some x => simp [optIs]
/-- does the operation turn the fact? -/
def clob (dst kill : Option Nat) : Fact → Bool
  | .slot s v => optIs dst s || (match v.key with | some k => optIs dst k | none => false)
  | .row k _ _ => optIs dst k || optIs kill k
  | .at k _ => optIs dst k
structure Rec where
  M : List (Option Nat × Fact)
  dst : Option Nat
  kill : Option Nat
/-- operation i waits for operation j -/
def dep (draw : Bool) (ops : Array Oper) (i j : Nat) : Bool :=
  bif draw then (match ops[i]? with | some o => o.after.toList.any (fun e => Region.binds .any e && Nat.beq e.on j) | none => false) else Nat.blt j i
def alive (φ : Fact) : List Rec → Nat → Option Nat → Bool
  | [], _, _ => true
  | r :: rs, j, b => (bif (match b with | none => true | some b' => Nat.blt b' j) then !(clob r.dst r.kill φ) else true) && alive φ rs (j + 1) b
def usable (draw : Bool) (ops : Array Oper) (i : Nat) (rs : List Rec) (x : Option Nat × Fact) : Bool :=
  (match x.1 with | none => true | some b => dep draw ops i b) && alive x.2 rs 0 x.1
def tmps : List Operand → List Nat
  | [] => []
  | .tmp s :: r => s :: tmps r
  | _ :: r => tmps r
def slotsOf (ops : Array Oper) (o : Oper) : List Nat :=
  match o.guard with
  | some (g, _) => (match (ops[g]?).bind (·.dst) with | some s => s :: tmps o.op.operands.toList | none => tmps o.op.operands.toList)
  | none => tmps o.op.operands.toList
def reads : Op → Bool
  | .load _ _ => true
  | .store _ _ _ => true
  | .call _ => true
  | _ => false
def keysOf (l : List Nat) : List (Option Nat × Fact) → List Nat
  | [] => []
  | (_, .slot s v) :: r => bif l.any (Nat.beq s) then (match v.key with | some k => k :: keysOf l r | none => keysOf l r) else keysOf l r
  | _ :: r => keysOf l r
def relv (l ks : List Nat) (x : Option Nat × Fact) : Bool :=
  match x.2 with
  | .slot s _ => l.any (Nat.beq s)
  | .row k _ _ => ks.any (Nat.beq k)
  | .at _ _ => true
/-- the facts that an operation is held against -/
def sel (ops : Array Oper) (o : Oper) (M : List (Option Nat × Fact)) : List (Option Nat × Fact) :=
  match slotsOf ops o with
  | l => match (bif reads o.op then keysOf l M else []) with
    | ks => M.filter (relv l ks)
theorem sel_mem {ops : Array Oper} {o : Oper} {M : List (Option Nat × Fact)} {x : Option Nat × Fact} (h : x ∈ sel ops o M) : x ∈ M := (List.mem_filter.1 h).1
def runR (E : Env) (draw : Bool) (ops : Array Oper) : List Oper → Nat → List (Option Nat × Fact) → List Rec → List Prop → Option (List Prop × List (Option Nat × Fact) × List Rec)
  | [], _, TF, rs, ps => some (ps, TF, rs)
  | o :: rest, i, TF, rs, ps =>
    match sel ops o (TF.filter (usable draw ops i rs)) with
    | M => match opA E ops (M.map (·.2)) o with
      | some (pre, out, kill) => runR E draw ops rest (i + 1) (out.map (fun φ => (some i, φ)) ++ TF) (rs ++ [⟨M, o.dst, kill⟩]) (ps ++ pre)
      | none => none
def allIdx {α : Type} (p : Nat → α → Bool) : Nat → List α → Bool
  | _, [] => true
  | k, x :: r => p k x && allIdx p (k + 1) r
theorem allIdx_spec {α : Type} {p : Nat → α → Bool} : ∀ {l : List α} {k : Nat}, allIdx p k l = true → ∀ i x, l[i]? = some x → p (k + i) x = true
  | [], k, _, i, x, hx => by simp at hx
  | y :: r, k, h, i, x, hx => by
    unfold allIdx at h
    rw [Bool.and_eq_true] at h
    cases i with
    | zero => cases hx; exact h.1
    | succ i =>
      have := allIdx_spec h.2 i x (by simpa using hx)
      rwa [show k + 1 + i = k + (i + 1) by omega] at this
/-- may fact x hold when operation j is done? -/
def bears (draw : Bool) (ops : Array Oper) (x : Option Nat × Fact) (j : Nat) (r : Rec) : Bool :=
  optIs x.1 j || (!(clob r.dst r.kill x.2) || (match x.1 with | some b => dep draw ops b j | none => false))
def chk (draw : Bool) (ops : Array Oper) (rs : List Rec) : Bool :=
  allIdx (fun i r => r.M.all fun x => allIdx (fun j r' => Nat.beq j i || (dep draw ops j i || bears draw ops x j r')) 0 rs) 0 rs
def low (draw : Bool) (ops : Array Oper) : Bool :=
  bif draw then allIdx (fun i (o : Oper) => o.after.toList.all fun e => !(Region.binds .any e) || Nat.blt e.on i) 0 ops.toList else true
def lasts (draw : Bool) (ops : Array Oper) (rs : List Rec) (x : Option Nat × Fact) : Bool := allIdx (fun j r => bears draw ops x j r) 0 rs
def regA (E : Env) (draw : Bool) (ops : Array Oper) (A : List Fact) : Option (List Prop × List Fact) :=
  match runR E draw ops ops.toList 0 (A.map fun φ => (none, φ)) [] [] with
  | some (ps, TF, rs) => bif chk draw ops rs && low draw ops then some (ps, (TF.filter (lasts draw ops rs)).map (·.2)) else none
  | none => none

section
variable {E : Env} {draw : Bool} {ops : Array Oper}
theorem runR_spec : ∀ {rem : List Oper} {i : Nat} {TF TF' : List (Option Nat × Fact)} {rs rs' : List Rec} {ps ps' : List Prop}, runR E draw ops rem i TF rs ps = some (ps', TF', rs') → rs.length = i →
    (∀ x ∈ TF, x ∈ TF') ∧ (∀ x ∈ TF', x ∈ TF ∨ ∃ b, x.1 = some b ∧ i ≤ b ∧ b < i + rem.length) ∧ (allP ps' → allP ps) ∧ (∀ j, j < i → rs'[j]? = rs[j]?) ∧ rs'.length = i + rem.length ∧
    ∀ j o, rem[j]? = some o → ∃ r pre out, rs'[i + j]? = some r ∧ r.dst = o.dst ∧ opA E ops (r.M.map (·.2)) o = some (pre, out, r.kill) ∧ (allP ps' → allP pre) ∧
      (∀ x ∈ r.M, x ∈ TF' ∧ ∀ b, x.1 = some b → dep draw ops (i + j) b = true) ∧ ∀ φ, (some (i + j), φ) ∈ TF' → (some (i + j), φ) ∈ TF ∨ φ ∈ out
  | [], i, TF, TF', rs, rs', ps, ps', h, hl => by
    cases h
    exact ⟨fun _ h => h, fun _ h => Or.inl h, fun h => h, fun _ _ => rfl, by simp [hl], fun j o ho => by simp at ho⟩
  | o :: rest, i, TF, TF', rs, rs', ps, ps', h, hl => by
    unfold runR at h
    simp only at h
    split at h
    · rename_i pre out kill ho
      obtain ⟨h1, h2, h3, h4, h5, h6⟩ := runR_spec h (by simp [hl])
      have hps : allP ps' → allP ps ∧ allP pre := fun h => allP_append.1 (h3 h)
      refine ⟨fun x hx => h1 x (List.mem_append_right _ hx), fun x hx => ?_, fun h => (hps h).1, fun j hj => ?_, by rw [h5]; simp; omega, ?_⟩
      · rcases h2 x hx with hx | ⟨b, hb, hi, hlt⟩
        · rcases List.mem_append.1 hx with hx | hx
          · obtain ⟨φ, _, rfl⟩ := List.mem_map.1 hx
            exact Or.inr ⟨i, rfl, Nat.le_refl _, by simp⟩
          · exact Or.inl hx
        · exact Or.inr ⟨b, hb, by omega, by simp; omega⟩
      · rw [h4 j (by omega), List.getElem?_append_left (by omega)]
      · intro j o' hj
        cases j with
        | zero =>
          cases hj
          refine ⟨_, pre, out, by rw [Nat.add_zero, h4 i (by omega), List.getElem?_append_right (by omega), hl, Nat.sub_self]; rfl, rfl, ho, fun h => (hps h).2, fun x hx => ?_, fun φ hφ => ?_⟩
          · obtain ⟨hx1, hx2⟩ := List.mem_filter.1 (sel_mem hx)
            refine ⟨h1 x (List.mem_append_right _ hx1), fun b hb => ?_⟩
            unfold usable at hx2
            rw [hb] at hx2
            simp only [Bool.and_eq_true] at hx2
            exact hx2.1
          · rcases h2 _ hφ with hx | ⟨b, hb, hi, hlt⟩
            · rcases List.mem_append.1 hx with hx | hx
              · obtain ⟨ψ, hψ, e⟩ := List.mem_map.1 hx
                cases e
                exact Or.inr hψ
              · exact Or.inl hx
            · simp only [Nat.add_zero, Option.some.injEq] at hb
              omega
        | succ j =>
          obtain ⟨r, pre', out', e1, e2, e3, e4, e5, e6⟩ := h6 j o' (by simpa using hj)
          rw [show i + 1 + j = i + (j + 1) by omega] at e1 e5 e6
          refine ⟨r, pre', out', e1, e2, e3, e4, e5, fun φ hφ => ?_⟩
          rcases e6 φ hφ with hx | hx
          · rcases List.mem_append.1 hx with hx | hx
            · obtain ⟨ψ, hψ, e⟩ := List.mem_map.1 hx
              simp only [Prod.mk.injEq, Option.some.injEq] at e
              omega
            · exact Or.inl hx
          · exact Or.inr hx
    · cases h
/-- is the fact there, these operations done? -/
def valid (draw : Bool) (ops : Array Oper) (rs : List Rec) (G : Nat → Prop) (x : Option Nat × Fact) : Prop :=
  (∀ b, x.1 = some b → G b) ∧ ∀ j r, rs[j]? = some r → G j → x.1 ≠ some j → clob r.dst r.kill x.2 = true → ∃ b, x.1 = some b ∧ dep draw ops b j = true
structure Inv (E : Env) (draw : Bool) (ops : Array Oper) (base : Nat) (w0 : World) (TF : List (Option Nat × Fact)) (rs : List Rec) (G : Nat → Prop) (a : Act) (w : World) : Prop where
  defers : a.defers = []
  size : a.tmps.size = E.nt
  below : Below base w0 w
  heap : base ≤ w.heap.size
  closed : ∀ i j, G i → dep draw ops i j = true → G j
  facts : ∃ β : Nat → Nat × Nat, (∀ x ∈ TF, valid draw ops rs G x → x.2.ok base β a w) ∧
    ∀ x ∈ TF, ∀ y ∈ TF, valid draw ops rs G x → valid draw ops rs G y → ∀ k k' l l', x.2 = .row k true l → y.2 = .row k' true l' → k ≠ k' → (β k).1 ≠ (β k').1
theorem keep {base : Nat} {β β' : Nat → Nat × Nat} {a a' : Act} {w w' : World} {dst kill : Option Nat} {M out : List Fact} (hP : PostB base β β' a w dst M out kill a' w') {φ : Fact} (h : φ.ok base β a w) (hc : clob dst kill φ = false)
    (hk : ∀ kk k own l, kill = some kk → φ = .row k own l → (β kk).1 ≠ (β k).1) : φ.ok base β' a' w' := by
  cases φ with
  | slot s v =>
    simp only [clob, Bool.or_eq_false_iff] at hc
    have h1 : dst ≠ some s := fun e => by have := optIs_iff.2 e; rw [hc.1] at this; cases this
    have h2 : ∀ k, v.key = some k → β' k = β k := fun k hv => hP.beta k fun e => by
      have h3 := hc.2
      rw [hv] at h3
      have := optIs_iff.2 e
      simp only at h3
      rw [h3] at this; cases this
    show a'.tmps[s]? = _
    rw [hP.tmps s h1, AV.den_eq v h2]
    exact h
  | row k own l =>
    simp only [clob, Bool.or_eq_false_iff] at hc
    have h1 : dst ≠ some k := fun e => by have := optIs_iff.2 e; rw [hc.1] at this; cases this
    obtain ⟨g1, g2, g3, g4⟩ := h
    have hm : ∀ j, w'.cell? ⟨(β k).1, j, none⟩ = w.cell? ⟨(β k).1, j, none⟩ ∧ w'.frozen? ⟨(β k).1, j, none⟩ = w.frozen? ⟨(β k).1, j, none⟩ := fun j => hP.mem ⟨(β k).1, j, none⟩ g1 fun kk hkk e => hk kk k own l hkk rfl e.symm
    refine ⟨?_, ?_, ?_, ?_⟩ <;> rw [hP.beta k h1]
    · exact Nat.lt_of_lt_of_le g1 hP.heap
    · intro j v hj
      rw [(hm _).1]
      exact g2 j v hj
    · exact fun ho => ⟨(g3 ho).1, (g3 ho).2.1, fun j => by rw [(hm _).2]; exact (g3 ho).2.2 j⟩
    · exact g4
  | «at» k b =>
    have h1 : dst ≠ some k := fun e => by have := optIs_iff.2 e; rw [show optIs dst k = false from hc] at this; cases this
    show β' k = (b, 0)
    rw [hP.beta k h1]
    exact h
theorem step_inv {base : Nat} {w0 : World} {A : List Fact} {TF : List (Option Nat × Fact)} {rs : List Rec} {ps : List Prop} (hT : ∀ d, TabOkW E.P (E.T d) base w0) (hq : EqOkW E.P E.q base w0)
    (hrun : runR E draw ops ops.toList 0 (A.map fun φ => (none, φ)) [] [] = some (ps, TF, rs)) (hps : allP ps) (hchk : chk draw ops rs = true) {Q : Exit → Act → World → Prop}
    {G : Nat → Prop} {a : Act} {w : World} (hI : Inv E draw ops base w0 TF rs G a w) {i : Nat} {o : Oper} (ho : ops[i]? = some o) (hi : ¬ G i) (hdeps : ∀ j, dep draw ops i j = true → G j) :
    if Region.wanted o (yielded ops a.tmps) = true then o.wp E.P a w (Inv E draw ops base w0 TF rs (fun j => j = i ∨ G j)) Q else Inv E draw ops base w0 TF rs (fun j => j = i ∨ G j) (a.put o.dst undef) w := by
  obtain ⟨_, _, _, _, _, hops⟩ := runR_spec hrun rfl
  obtain ⟨r, pre, out, hr, hdst, hop, hpre, hM, hborn⟩ := hops i o (by simpa using ho)
  rw [Nat.zero_add] at hr hM hborn
  obtain ⟨β, hok, hinj⟩ := hI.facts
  have hMv : ∀ x ∈ r.M, valid draw ops rs G x := fun x hx => by
    refine ⟨fun b hb => hdeps b ((hM x hx).2 b hb), fun j r' hj hG hne hcl => ?_⟩
    have h1 := allIdx_spec hchk i r hr
    rw [List.all_eq_true] at h1
    have h2 := allIdx_spec (h1 x hx) j r' hj
    rw [Nat.zero_add, Nat.zero_add] at h2
    rw [Bool.or_eq_true, Bool.or_eq_true] at h2
    rcases h2 with h2 | h2 | h2
    · exact absurd (Nat.eq_of_beq_eq_true h2 ▸ hG) hi
    · exact absurd (hI.closed j i hG h2) hi
    · unfold bears at h2
      rw [Bool.or_eq_true, Bool.or_eq_true, hcl] at h2
      rcases h2 with h2 | h2 | h2
      · exact absurd (optIs_iff.1 h2) hne
      · cases h2
      · split at h2
        · rename_i b hb; exact ⟨b, hb, h2⟩
        · cases h2
  refine op_sound (ops := ops) (fun d => hT d w hI.below) (hq.2 w hI.below) hq.1 (M := r.M.map (·.2)) (out := out) (kill := r.kill) (β := β) (base := base) (fun φ hφ => ?_) hI.heap hI.size (fun β' a' w' hP => ?_) hop (hpre hps)
  · obtain ⟨x, hx, rfl⟩ := List.mem_map.1 hφ
    exact hok x (hM x hx).1 (hMv x hx)
  -- what was valid and is not born now is kept
  have hrowM : ∀ k l0, Fact.row k true l0 ∈ r.M.map (·.2) → ∃ x ∈ TF, valid draw ops rs G x ∧ x.2 = .row k true l0 := fun k l0 h => by
    obtain ⟨x, hx, e⟩ := List.mem_map.1 h
    exact ⟨x, (hM x hx).1, hMv x hx, e⟩
  have hkill : ∀ x ∈ TF, valid draw ops rs G x → clob o.dst r.kill x.2 = false → ∀ kk k own l, r.kill = some kk → x.2 = .row k own l → (β kk).1 ≠ (β k).1 := fun x hx hv hc kk k own l hkk hφ => by
    obtain ⟨_, l0, hl0⟩ := hP.kills kk hkk
    obtain ⟨y, hy, hyv, hye⟩ := hrowM kk l0 hl0
    have hne : kk ≠ k := fun e => by
      rw [hφ] at hc
      simp only [clob, Bool.or_eq_false_iff] at hc
      have := optIs_iff.2 (e ▸ hkk : r.kill = some k)
      rw [hc.2] at this; cases this
    cases own with
    | true => exact hinj y hy x hx hyv hv kk k l0 l hye hφ hne
    | false =>
      have h1 := hok y hy hyv
      rw [hye] at h1
      have h2 := hok x hx hv
      rw [hφ] at h2
      have := (h1.2.2.1 rfl).1
      have := h2.2.2.2 rfl
      omega
  have hold : ∀ x ∈ TF, valid draw ops rs (fun j => j = i ∨ G j) x → x.1 ≠ some i → valid draw ops rs G x ∧ clob o.dst r.kill x.2 = false := fun x hx hv hne => by
    refine ⟨⟨fun b hb => (hv.1 b hb).resolve_left fun e => hne (by rw [hb, e]), fun j r' hj hG => hv.2 j r' hj (Or.inr hG)⟩, ?_⟩
    cases hc : clob o.dst r.kill x.2 with
    | false => rfl
    | true =>
      obtain ⟨b, hb, hd⟩ := hv.2 i r hr (Or.inl rfl) hne (by rw [hdst]; exact hc)
      exact absurd (hI.closed b i ((hv.1 b hb).resolve_left fun e => hne (by rw [hb, e])) hd) hi
  have hnew : ∀ x ∈ TF, x.1 = some i → x.2 ∈ out := fun x hx e => by
    obtain ⟨b, φ⟩ := x
    simp only at e
    subst e
    rcases hborn φ hx with h | h
    · obtain ⟨ψ, _, e⟩ := List.mem_map.1 h
      cases e
    · exact h
  have hβ : ∀ x ∈ TF, valid draw ops rs (fun j => j = i ∨ G j) x → x.1 ≠ some i → ∀ k own l, x.2 = .row k own l → β' k = β k := fun x hx hv hne k own l hφ => by
    obtain ⟨_, hc⟩ := hold x hx hv hne
    rw [hφ] at hc
    simp only [clob, Bool.or_eq_false_iff] at hc
    exact hP.beta k fun e => by have := optIs_iff.2 e; rw [hc.1] at this; cases this
  -- a new row against an old one
  have hno : ∀ x ∈ TF, ∀ y ∈ TF, x.1 = some i → valid draw ops rs (fun j => j = i ∨ G j) y → y.1 ≠ some i → ∀ k k' l l', x.2 = .row k true l → y.2 = .row k' true l' → k ≠ k' → (β' k).1 ≠ (β' k').1 := fun x hx y hy hxi hyv hyi k k' l l' hxe hye hkk => by
    obtain ⟨hyo, _⟩ := hold y hy hyv hyi
    rw [hβ y hy hyv hyi k' true l' hye]
    have h1 := hnew x hx hxi
    rw [hxe] at h1
    rcases hP.rows k l h1 with ⟨h2, _⟩ | ⟨h2, l0, h3⟩
    · have h4 := hok y hy hyo
      rw [hye] at h4
      have := h4.1
      omega
    · obtain ⟨z, hz, hzv, hze⟩ := hrowM k l0 h3
      rw [hP.beta k h2]
      exact hinj z hz y hy hzv hyo k k' l0 l' hze hye hkk
  refine ⟨by rw [hP.defers]; exact hI.defers, by rw [hP.size]; exact hI.size, hP.below w0 hI.below, Nat.le_trans hI.heap hP.heap, ?_, β', ?_, ?_⟩
  · intro p q hp hpq
    rcases hp with rfl | hp
    · exact Or.inr (hdeps q hpq)
    · exact Or.inr (hI.closed p q hp hpq)
  · intro x hx hv
    by_cases e : x.1 = some i
    · exact hP.ok _ (hnew x hx e)
    · obtain ⟨h1, h2⟩ := hold x hx hv e
      exact keep hP (hok x hx h1) h2 (hkill x hx h1 h2)
  · intro x hx y hy hxv hyv k k' l l' hxe hye hkk
    by_cases e1 : x.1 = some i
    · by_cases e2 : y.1 = some i
      · have h1 := hnew x hx e1
        have h2 := hnew y hy e2
        rw [hxe] at h1
        rw [hye] at h2
        exact absurd (hP.one k k' l l' h1 h2) hkk
      · exact hno x hx y hy e1 hyv e2 k k' l l' hxe hye hkk
    · by_cases e2 : y.1 = some i
      · exact fun e => hno y hy x hx e2 hxv e1 k' k l' l hye hxe (Ne.symm hkk) e.symm
      · rw [hβ x hx hxv e1 k true l hxe, hβ y hy hyv e2 k' true l' hye]
        exact hinj x hx y hy (hold x hx hxv e1).1 (hold y hy hyv e2).1 k k' l l' hxe hye hkk
end
end Go.Proofs.YthlcjdcjnioeoaaGreat.Ex
namespace Go.Proofs.YthlcjdcjnioeoaaGreat.Ex
set_option linter.unusedVariables false
set_option linter.unusedSimpArgs false
open Go.RowKit

/-- the facts hold; nothing below base has turned since w0 -/
structure Holds (nt base : Nat) (w0 : World) (A : List Fact) (a : Act) (w : World) : Prop where
  defers : a.defers = []
  size : a.tmps.size = nt
  below : Below base w0 w
  heap : base ≤ w.heap.size
  facts : ∃ β : Nat → Nat × Nat, (∀ φ ∈ A, φ.ok base β a w) ∧ ∀ k k' l l', Fact.row k true l ∈ A → Fact.row k' true l' ∈ A → k ≠ k' → (β k).1 ≠ (β k').1
theorem Holds.drew {nt base : Nat} {w0 : World} {A : List Fact} {a : Act} {w : World} (h : Holds nt base w0 A a w) : Holds nt base w0 A a w.drew :=
  ⟨h.defers, h.size, h.below.drew, h.heap, h.facts⟩
section
variable {E : Env} {draw : Bool} {ops : Array Oper} {base : Nat} {w0 : World} {A A' : List Fact} {TF : List (Option Nat × Fact)} {rs : List Rec} {ps : List Prop} {a : Act} {w : World} {Q : Exit → Act → World → Prop}
theorem start_inv (hrun : runR E draw ops ops.toList 0 (A.map fun φ => (none, φ)) [] [] = some (ps, TF, rs)) (h : Holds E.nt base w0 A a w) : Inv E draw ops base w0 TF rs (fun _ => False) a w := by
  obtain ⟨_, h2, _⟩ := runR_spec hrun rfl
  obtain ⟨β, hok, hinj⟩ := h.facts
  have hA : ∀ x ∈ TF, valid draw ops rs (fun _ => False) x → x.2 ∈ A := fun x hx hv => by
    rcases h2 x hx with hx | ⟨b, hb, _⟩
    · obtain ⟨φ, hφ, rfl⟩ := List.mem_map.1 hx
      exact hφ
    · exact (hv.1 b hb).elim
  exact ⟨h.defers, h.size, h.below, h.heap, fun _ _ h => h.elim, β, fun x hx hv => hok _ (hA x hx hv), fun x hx y hy hxv hyv k k' l l' hxe hye hkk => hinj k k' l l' (hxe ▸ hA x hx hxv) (hye ▸ hA y hy hyv) hkk⟩
theorem end_inv (hrun : runR E draw ops ops.toList 0 (A.map fun φ => (none, φ)) [] [] = some (ps, TF, rs)) {G : Nat → Prop} (hG : ∀ i, i < ops.size → G i) (h : Inv E draw ops base w0 TF rs G a w) :
    Holds E.nt base w0 ((TF.filter (lasts draw ops rs)).map (·.2)) a w := by
  obtain ⟨_, h2, _⟩ := runR_spec hrun rfl
  obtain ⟨β, hok, hinj⟩ := h.facts
  have hv : ∀ φ ∈ (TF.filter (lasts draw ops rs)).map (·.2), ∃ x ∈ TF, valid draw ops rs G x ∧ x.2 = φ := fun φ hφ => by
    obtain ⟨x, hx, rfl⟩ := List.mem_map.1 hφ
    obtain ⟨h3, h4⟩ := List.mem_filter.1 hx
    refine ⟨x, h3, ⟨fun b hb => ?_, fun j r hj _ hne hc => ?_⟩, rfl⟩
    · rcases h2 x h3 with h5 | ⟨b', hb', _, hlt⟩
      · obtain ⟨ψ, _, rfl⟩ := List.mem_map.1 h5
        cases hb
      · rw [hb'] at hb
        cases hb
        exact hG b (by simpa using hlt)
    · have h5 := allIdx_spec h4 j r hj
      rw [Nat.zero_add] at h5
      unfold bears at h5
      rw [Bool.or_eq_true, Bool.or_eq_true, hc] at h5
      rcases h5 with h5 | h5 | h5
      · exact absurd (optIs_iff.1 h5) hne
      · cases h5
      · split at h5
        · rename_i b hb; exact ⟨b, hb, h5⟩
        · cases h5
  refine ⟨h.defers, h.size, h.below, h.heap, β, fun φ hφ => ?_, fun k k' l l' hk hk' hne => ?_⟩
  · obtain ⟨x, h1, h2, rfl⟩ := hv φ hφ
    exact hok x h1 h2
  · obtain ⟨x, h1, h2, e1⟩ := hv _ hk
    obtain ⟨y, h3, h4, e2⟩ := hv _ hk'
    exact hinj x h1 y h3 h2 h4 k k' l l' e1 e2 hne
def fr : Nat → Array Bool → Nat
  | 0, _ => 0
  | n + 1, g => fr n g + (bif g.getD n false then 0 else 1)
theorem fr_zero : ∀ {n : Nat} {g : Array Bool}, fr n g = 0 → ∀ i, i < n → g.getD i false = true
  | 0, g, _, i, hi => by omega
  | n + 1, g, h, i, hi => by
    unfold fr at h
    by_cases e : i = n
    · subst e
      cases hb : g.getD i false
      · rw [hb] at h; simp at h
      · rfl
    · exact fr_zero (n := n) (by omega) i (by omega)
theorem getD_set {g : Array Bool} {i j : Nat} (hi : i < g.size) : (g.setIfInBounds i true).getD j false = true ↔ j = i ∨ g.getD j false = true := by
  by_cases e : j = i
  · subst e; simp [Array.getD, hi]
  · have : ¬ i = j := fun h => e h.symm
    simp [Array.getD_eq_getD_getElem?, Array.getElem?_setIfInBounds_ne this, e]
theorem fr_old : ∀ {n : Nat} {g : Array Bool} {i : Nat}, n ≤ i → fr n (g.setIfInBounds i true) = fr n g
  | 0, _, _, _ => rfl
  | n + 1, g, i, h => by
    have : ¬ i = n := by omega
    unfold fr
    rw [fr_old (by omega)]
    simp [Array.getD_eq_getD_getElem?, Array.getElem?_setIfInBounds_ne this]
theorem fr_set : ∀ {n : Nat} {g : Array Bool} {i : Nat}, i < n → i < g.size → g.getD i false = false → fr n (g.setIfInBounds i true) + 1 = fr n g
  | 0, _, _, h, _, _ => by omega
  | n + 1, g, i, h, hs, hg => by
    unfold fr
    by_cases e : i = n
    · subst e
      rw [fr_old (Nat.le_refl _), (getD_set hs).2 (Or.inl rfl), hg]
      simp
    · have h1 := fr_set (n := n) (g := g) (by omega) hs hg
      have h2 : (g.setIfInBounds i true).getD n false = g.getD n false := by
        have : ¬ i = n := e
        simp [Array.getD_eq_getD_getElem?, Array.getElem?_setIfInBounds_ne this]
      rw [h2]; omega
theorem dep_true {i j : Nat} : dep true ops i j = true ↔ ∃ o, ops[i]? = some o ∧ ∃ e ∈ o.after, Region.binds .any e = true ∧ e.on = j := by
  unfold dep
  simp only [cond_true]
  cases ho : ops[i]? with
  | none => simp
  | some o =>
    simp only [List.any_eq_true]
    constructor
    · rintro ⟨e, he, h⟩
      rw [Bool.and_eq_true] at h
      exact ⟨o, rfl, e, by simpa using he, h.1, Nat.eq_of_beq_eq_true h.2⟩
    · rintro ⟨o', e1, e, he, hb, rfl⟩
      cases e1
      exact ⟨e, by simpa using he, by rw [hb]; simp⟩
theorem any_inv (hT : ∀ d, TabOkW E.P (E.T d) base w0) (hq : EqOkW E.P E.q base w0) (hrun : runR E true ops ops.toList 0 (A.map fun φ => (none, φ)) [] [] = some (ps, TF, rs)) (hps : allP ps) (hchk : chk true ops rs = true) (hlow : low true ops = true)
    (hQ : ∀ a w, Inv E true ops base w0 TF rs (fun i => i < ops.size) a w → Q .normal a w) :
    ∀ (m : Nat) (g : Array Bool) (a : Act) (w : World), g.size = ops.size → fr ops.size g = m → Inv E true ops base w0 TF rs (fun i => g.getD i false = true) a w → wpAny E.P .any ops Q m g a w := by
  have hfin : ∀ (g : Array Bool) (a : Act) (w : World), g.size = ops.size → (∀ i, i < ops.size → g.getD i false = true) → Inv E true ops base w0 TF rs (fun i => g.getD i false = true) a w → Q .normal a w := fun g a w hs hall hI => by
    refine hQ a w ?_
    have : (fun i => g.getD i false = true) = fun i => i < ops.size := funext fun i => propext ⟨fun h => by
      rw [← hs]
      by_cases hi : i < g.size
      · exact hi
      · simp [Array.getD, hi] at h, hall i⟩
    rwa [this] at hI
  have hready : ∀ (g : Array Bool), g.size = ops.size → Region.ready .any ops g = [] → ∀ i, i < ops.size → g.getD i false = true := fun g hs hr i => by
    induction i using Nat.strongRecOn with
    | _ i ih =>
      intro hi
      cases hb : g.getD i false with
      | true => rfl
      | false =>
        exfalso
        have : i ∈ Region.ready .any ops g := by
          refine mem_ready.2 ⟨?_, ops[i], Array.getElem?_eq_getElem hi, fun e he hbi => ?_⟩
          · have : i < g.size := by omega
            simp [Array.getD, this] at hb ⊢
            exact hb
          · unfold low at hlow
            simp only [cond_true] at hlow
            have := allIdx_spec hlow i ops[i] (by simp [hi])
            rw [List.all_eq_true] at this
            have := this e (by simpa using he)
            rw [hbi] at this
            have hlt : e.on < i := by simpa using this
            exact ih e.on hlt (by omega)
        rw [hr] at this
        cases this
  intro m
  induction m with
  | zero =>
    intro g a w hs hf hI
    have hall := fr_zero hf
    refine ⟨?_, hfin g a w hs hall hI⟩
    apply List.eq_nil_iff_forall_not_mem.2
    intro i hi
    obtain ⟨h1, o, ho, _⟩ := mem_ready.1 hi
    have hlt : i < ops.size := (Array.getElem?_eq_some_iff.1 ho).1
    have h2 := hall i hlt
    have : i < g.size := by omega
    simp [Array.getD, this] at h1 h2
    rw [h1] at h2; cases h2
  | succ m ih =>
    intro g a w hs hf hI
    refine ⟨fun hr => hfin g a w hs (hready g hs hr) hI, fun i hi => ?_⟩
    obtain ⟨h1, o, ho, h2⟩ := mem_ready.1 hi
    have hlt : i < ops.size := (Array.getElem?_eq_some_iff.1 ho).1
    have hg : i < g.size := by omega
    have hgi : g.getD i false = false := by
      simp [Array.getD, hg] at h1 ⊢
      exact h1
    have hst := step_inv hT hq hrun hps hchk (Q := Q) hI ho (by rw [hgi]; simp) (fun j hj => by
      obtain ⟨o', ho', e, he, hb, rfl⟩ := dep_true.1 hj
      rw [ho] at ho'
      cases ho'
      exact h2 e he hb)
    unfold wpOp
    rw [ho]
    simp only
    have hnext : ∀ a' w', Inv E true ops base w0 TF rs (fun j => j = i ∨ g.getD j false = true) a' w' → wpAny E.P .any ops Q m (g.setIfInBounds i true) a' w' := fun a' w' h => by
      refine ih _ a' w' (by simp [hs]) (by have := fr_set hlt hg hgi; omega) ?_
      have : (fun j => (g.setIfInBounds i true).getD j false = true) = fun j => j = i ∨ g.getD j false = true := funext fun j => propext (getD_set hg)
      rwa [this]
    by_cases hw : Region.wanted o (yielded ops a.tmps) = true
    · rw [if_pos hw] at hst ⊢
      exact Or.inl (Oper.wp_mono hnext hst)
    · rw [if_neg hw] at hst ⊢
      exact hnext _ _ hst
theorem seq_inv (hT : ∀ d, TabOkW E.P (E.T d) base w0) (hq : EqOkW E.P E.q base w0) (hrun : runR E false ops ops.toList 0 (A.map fun φ => (none, φ)) [] [] = some (ps, TF, rs)) (hps : allP ps) (hchk : chk false ops rs = true)
    (hQ : ∀ a w, Inv E false ops base w0 TF rs (fun i => i < ops.size) a w → Q .normal a w) :
    ∀ (m k : Nat) (a : Act) (w : World), k + m = ops.size → Inv E false ops base w0 TF rs (fun i => i < k) a w → wpOps E.P ops Q (List.range' k m) a w
  | 0, k, a, w, hk, hI => by
    have : k = ops.size := by omega
    subst this
    exact hQ a w hI
  | m + 1, k, a, w, hk, hI => by
    have hlt : k < ops.size := by omega
    have ho : ops[k]? = some ops[k] := Array.getElem?_eq_getElem hlt
    have hst := step_inv hT hq hrun hps hchk (Q := Q) hI ho (Nat.lt_irrefl k) (fun j hj => by unfold dep at hj; simpa using hj)
    simp only [List.range'_succ, wpOps]
    rw [ho]
    simp only
    have hnext : ∀ a' w', Inv E false ops base w0 TF rs (fun j => j = k ∨ j < k) a' w' → wpOps E.P ops Q (List.range' (k + 1) m) a' w' := fun a' w' h => by
      refine seq_inv hT hq hrun hps hchk hQ m (k + 1) a' w' (by omega) ?_
      have : (fun j => j < k + 1) = fun j => j = k ∨ j < k := funext fun j => propext (by omega)
      rwa [this]
    by_cases hw : Region.wanted ops[k] (yielded ops a.tmps) = true
    · rw [if_pos hw] at hst ⊢
      exact Or.inl (Oper.wp_mono hnext hst)
    · rw [if_neg hw] at hst ⊢
      exact hnext _ _ hst
theorem reg_sound {id : Nat} (hm : E.P.follows .mixedOrders = true) (hT : ∀ d, TabOkW E.P (E.T d) base w0) (hq : EqOkW E.P E.q base w0) (h : regA E draw ops A = some (ps, A')) (hps : allP ps) (hA : Holds E.nt base w0 A a w)
    (hQ : ∀ a w, Holds E.nt base w0 A' a w → Q .normal a w) : (Code.region id ops draw).wp E.P Q a w := by
  unfold regA at h
  split at h
  · rename_i ps' TF rs hrun
    cases hc : (chk draw ops rs && low draw ops) <;> rw [hc] at h
    · cases h
    · cases h
      rw [Bool.and_eq_true] at hc
      cases draw with
      | false =>
        refine wp_region ?_
        rw [List.range_eq_range']
        exact seq_inv hT hq hrun hps hc.1 (fun a w hI => hQ a w (end_inv hrun (fun _ h => h) hI)) ops.size 0 a w (by omega) (by
          have : (fun i => i < 0) = fun _ : Nat => False := funext fun i => propext ⟨fun h => by omega, fun h => h.elim⟩
          rw [this]
          exact start_inv hrun hA)
      | true =>
        refine wp_region_any hm ?_
        have hsz : ∀ n, fr n (Array.replicate ops.size false) = n := fun n => by
          induction n with
          | zero => rfl
          | succ n ih => unfold fr; rw [ih]; by_cases hn : n < ops.size <;> simp [Array.getD, hn]
        refine any_inv hT hq hrun hps hc.1 hc.2 (fun a w hI => hQ a w (end_inv hrun (fun _ h => h) hI)) ops.size _ a _ (by simp) (hsz _) ?_
        have : (fun i => (Array.replicate ops.size false).getD i false = true) = fun _ : Nat => False := funext fun i => propext (by by_cases hi : i < ops.size <;> simp [Array.getD, hi])
        rw [this]
        exact start_inv hrun hA.drew
  · cases h
end
end Go.Proofs.YthlcjdcjnioeoaaGreat.Ex
