/-
  The reckoner's operations: what each makes of the facts; that it is so. Of whatever program. Conditions: the table of calls is right.
-/
import Derived.Test.YtebaoemoeckgaaaPr02
namespace Go.Proofs.Ytebaoemoeckgaaa.Ex
set_option linter.unusedVariables false
set_option linter.unusedSimpArgs false
open Go.RowKit

/-- what a call is handed: a value, or a slice's cells -/
inductive CA | v (x : TV) | s (l : List At) (n m : Nat) | so (l : List At) (n : Nat)
inductive RV | one (t : TV) | many (l : List TV)
def RV.av : RV → AV
  | .one t => t.av
  | .many l => .tu l
def RV.den : RV → Value
  | .one t => t.den
  | .many l => .tuple (l.map TV.den).toArray
theorem RV.av_den (β : Nat → Bk) (r : RV) : r.av.den β = r.den := by cases r with | one t => exact TV.av_den β t | many l => rfl
def CA.ok (w : World) : CA → Value → Prop
  | .v x, u => u = x.den
  | .s l n m, u => ∃ b o, u = .slice (some ⟨b, o, none⟩) n m ∧ b < w.heap.size ∧ w.rangeAt b o (flat l)
  | .so l n, u => ∃ b o m, u = .slice (some ⟨b, o, none⟩) n m ∧ b < w.heap.size ∧ w.rangeAt b o (flat l)
def CAs (w : World) : List CA → List Value → Prop
  | [], [] => True
  | c :: cs, v :: vs => c.ok w v ∧ CAs w cs vs
  | _, _ => False
abbrev Tab := Nat → List CA → Option (List Prop × RV)
def allP : List Prop → Prop
  | [] => True
  | p :: r => p ∧ allP r
theorem allP_append : ∀ {l m : List Prop}, allP (l ++ m) ↔ allP l ∧ allP m
  | [], m => by simp [allP]
  | p :: r, m => by simp [allP, allP_append (l := r), and_assoc]
/-- the table is right -/
def TabOk (P : Program) (T : Tab) : Prop := ∀ f cs pre r, T f cs = some (pre, r) → allP pre →
  (∀ args w, (callFunc f args).run P w = .ok (.enter f args) w) ∧ ∀ (args : List Value) (w : World), CAs w cs args → Calls P f args.toArray w (fun e w' => e = .returned r.den ∧ Below w.heap.size w w')
def isN : At → Bool
  | .c _ => false
  | _ => true

/-- what a call answers that makes a slice of its own, and more behind it -/
structure FR where
  l : List At
  n : Nat
  m : Nat
  post : List TV
def FR.val (r : FR) (b : Nat) : Value := bif r.post.isEmpty then .slice (some ⟨b, 0, none⟩) r.n r.m else .tuple (.slice (some ⟨b, 0, none⟩) r.n r.m :: r.post.map TV.den).toArray
def FR.ok (r : FR) (w : World) (e : Ending) (w' : World) : Prop := ∃ b, e = .returned (r.val b) ∧ Below w.heap.size w w' ∧ w.heap.size ≤ b ∧ b < w'.heap.size ∧ w'.rangeAt b 0 (flat r.l) ∧ ∀ j, w'.frozen? ⟨b, j, none⟩ = false
/-- likewise, of a capacity that is not known -/
structure FS where
  l : List At
  n : Nat
  e : Nat
  sz : Nat
  ap : Bool
  ante : List TV
  post : List TV
def FS.lone (r : FS) : Bool := r.ante.isEmpty && r.post.isEmpty
def FS.val (r : FS) (b cap : Nat) : Value := bif r.lone then .slice (some ⟨b, 0, none⟩) r.n cap else .tuple (r.ante.map TV.den ++ .slice (some ⟨b, 0, none⟩) r.n cap :: r.post.map TV.den).toArray
def FS.ok (r : FS) (w : World) (e : Ending) (w' : World) : Prop := ∃ b cap, e = .returned (r.val b cap) ∧ Below w.heap.size w w' ∧ w.heap.size ≤ b ∧ b < w'.heap.size ∧ w'.rangeAt b 0 (flat r.l) ∧ (∀ j, w'.frozen? ⟨b, j, none⟩ = false) ∧ (r.ap = true → AppAt w' b r.e r.sz r.n cap)
/-- blocks keep their size -/
def Shape (w w' : World) : Prop := ∀ (b : Nat) (cur : Array Value) (e : Nat), w.heap[b]? = some (Obj.cells cur e (0, 0)) → ∃ cur' : Array Value, w'.heap[b]? = some (Obj.cells cur' e (0, 0)) ∧ cur'.size = cur.size
/-- only block b is written -/
structure WrAt (w w' : World) (b : Nat) (l : List At) : Prop where
  os : w'.os = w.os
  tape : w'.tape = w.tape
  output : w'.output = w.output
  size : w.heap.size ≤ w'.heap.size
  block : ∀ k, k < w.heap.size → k ≠ b → w'.heap[k]? = w.heap[k]?
  shape : Shape w w'
  frozen : ∀ j, w'.frozen? ⟨b, j, none⟩ = w.frozen? ⟨b, j, none⟩
/-- what else may be told of operations, by their slots: idx: an index; ld: what is read; st: what a row is behind a store; gen: what a quiet operation answers; mks: what a made slice holds; ky: which block a slice or pointer that is read points to; old: what lies in memory from before -/
structure Ext where
  idx : Nat → Option Nat
  ld : Nat → Option (List At)
  st : Nat → Option (List At)
  gen : Nat → Option Value
  mks : Nat → Option (Nat × List At)
  ky : Nat → Option Nat
  old : Nat → Nat → List At → Prop
  T2 : Nat → List CA → Option (List Prop × FR)
  T3 : Nat → List CA → Option (List Prop × FS) := fun _ _ => Option.none
  T4 : Nat → List CA → Option (List Prop × Nat × List At) := fun _ _ => Option.none
def Ext.none : Ext := ⟨fun _ => .none, fun _ => .none, fun _ => .none, fun _ => .none, fun _ => .none, fun _ => .none, fun _ _ _ => False, fun _ _ => .none, fun _ _ => .none, fun _ _ => .none⟩
def TabAt (P : Program) (T : Tab) (w : World) : Prop := ∀ f cs pre r, T f cs = some (pre, r) → allP pre →
  (∀ args w, (callFunc f args).run P w = .ok (.enter f args) w) ∧ ∀ (args : List Value), CAs w cs args → Calls P f args.toArray w (fun e w' => e = .returned r.den ∧ Below w.heap.size w w')
/-- the table is right in all worlds that go on from w0 -/
def TabOkW (P : Program) (T : Tab) (base : Nat) (w0 : World) : Prop := ∀ w, Below base w0 w → TabAt P T w
theorem TabOk.w {P : Program} {T : Tab} (h : TabOk P T) (base : Nat) (w0 : World) : TabOkW P T base w0 := fun w _ f cs pre r hg hp => ⟨(h f cs pre r hg hp).1, fun args ha => (h f cs pre r hg hp).2 args w ha⟩
def ExtAt (P : Program) (x : Ext) (w : World) : Prop := (∀ b o l, x.old b o l → w.rangeAt b o (flat l)) ∧ (∀ f cs pre r, x.T2 f cs = some (pre, r) → allP pre →
  (∀ args w, (callFunc f args).run P w = .ok (.enter f args) w) ∧ ∀ (args : List Value), CAs w cs args → Calls P f args.toArray w (fun e w' => r.ok w e w')) ∧
  (∀ f cs pre r, x.T3 f cs = some (pre, r) → allP pre → (∀ args w, (callFunc f args).run P w = .ok (.enter f args) w) ∧ ∀ (args : List Value), CAs w cs args → Calls P f args.toArray w (fun e w' => r.ok w e w')) ∧
  ∀ f cs pre j l, x.T4 f cs = some (pre, j, l) → allP pre → (∀ args w, (callFunc f args).run P w = .ok (.enter f args) w) ∧ ∀ (args : List Value), CAs w cs args → ∀ b o n m, args[j]? = some (.slice (some ⟨b, o, none⟩) n m) → (∀ q, w.frozen? ⟨b, q, none⟩ = false) →
    Calls P f args.toArray w (fun e w' => e = .returned (.slice (some ⟨b, o, none⟩) n m) ∧ WrAt w w' b l ∧ w'.rangeAt b o (flat l))
def ExtOk (P : Program) (x : Ext) (base : Nat) (w0 : World) : Prop := ∀ w, Below base w0 w → ExtAt P x w
structure EqT where
  q : Nat → Option Nat
  n : Nat → Option Nat
  x : Ext := Ext.none
  fit : Nat → List At → Bool := fun _ l => l.all isN
def EqOk1 (P : Program) (q : EqT) : Prop := (∀ t n, q.q t = some n → P.eqGuardType P.depth t = false ∧ ∀ (l : List At) (w : World), fsz l = n → q.fit t l = true → (Op.equalIn 10000 t (.agg (flat l).toArray) (.agg (flat l).toArray)).run P w = .ok true w) ∧
  (∀ t n, q.n t = some n → P.eqGuardType P.depth t = false ∧ ∀ (l m : List At) (w : World), fsz l = n → fsz m = n → q.fit t l = true → q.fit t m = true → flat l ≠ flat m → (Op.equalIn 10000 t (.agg (flat l).toArray) (.agg (flat m).toArray)).run P w = .ok false w)
theorem ExtOk.none (P : Program) (base : Nat) (w0 : World) : ExtOk P Ext.none base w0 := fun w _ => ⟨fun _ _ _ h => h.elim, fun _ _ _ _ h => (by cases h), fun _ _ _ _ h => (by cases h), fun _ _ _ _ _ h => (by cases h)⟩
def EqOk (P : Program) (q : EqT) : Prop := EqOk1 P q ∧ q.x = Ext.none
def EqOkW (P : Program) (q : EqT) (base : Nat) (w0 : World) : Prop := EqOk1 P q ∧ ExtOk P q.x base w0
theorem EqOk.w {P : Program} {q : EqT} (h : EqOk P q) (base : Nat) (w0 : World) : EqOkW P q base w0 := ⟨h.1, h.2 ▸ ExtOk.none P base w0⟩
/-- T: by the slot of the call; hint: how a comparison of flat values comes out; num: what an operation on ints answers -/
structure Env where
  P : Program
  T : Nat → Tab
  q : EqT
  hint : Nat → Bool
  num : Nat → Option Value
  nt : Nat
def dpz (l : List At) (o : Nat) : Option (List At) := bif Nat.beq o 0 then some l else dp l o
theorem dpz_spec {l : List At} {n : Nat} {r : List At} (h : dpz l n = some r) : ∃ t, l = t ++ r ∧ fsz t = n := by
  unfold dpz at h
  cases hb : Nat.beq n 0 <;> rw [hb] at h
  · exact dp_spec l n r h
  · cases h; exact ⟨[], rfl, (Nat.eq_of_beq_eq_true hb).symm⟩
def argA (M : List Fact) : AV → Option CA
  | .im v => some (.v (.im v))
  | .fl l => some (.v (.fl l))
  | .sl k o n m => match rowOf M k with
    | some (_, l) => match dpz l o with | some r => some (.s r n m) | none => none
    | none => none
  | .so k n => match rowOf M k with
    | some (_, l) => some (.so l n)
    | none => none
  | _ => none
def argsA (M : List Fact) : List AV → Option (List CA)
  | [] => some []
  | v :: r => match argA M v, argsA M r with | some c, some l => some (c :: l) | _, _ => none
theorem argA_spec {M : List Fact} {base : Nat} {β : Nat → Bk} {a : Act} {w : World} (hM : ∀ φ ∈ M, φ.ok base β a w) {v : AV} {c : CA} (h : argA M v = some c) : c.ok w (v.den β) := by
  cases v with
  | im v => cases h; rfl
  | fl l => cases h; rfl
  | sl k o n m =>
    unfold argA at h
    cases hr : rowOf M k with
    | none => simp [hr] at h
    | some x =>
      obtain ⟨ow, l⟩ := x
      simp only [hr] at h
      cases hd : dpz l o with
      | none => simp [hd] at h
      | some r =>
        simp only [hd] at h
        cases h
        obtain ⟨h1, h2, _⟩ := hM _ (rowOf_mem hr)
        obtain ⟨p, e, hp⟩ := dpz_spec hd
        refine ⟨_, _, rfl, h1, fun j u hj => ?_⟩
        have := h2 (o + j) u (by rw [e, flat_append, List.getElem?_append_right (by rw [flat_len, hp]; omega), flat_len, hp]; simpa using hj)
        rwa [← Nat.add_assoc] at this
  | so k n =>
    unfold argA at h
    cases hr : rowOf M k with
    | none => simp [hr] at h
    | some x =>
      obtain ⟨ow, l⟩ := x
      simp only [hr] at h
      cases h
      obtain ⟨h1, h2, _⟩ := hM _ (rowOf_mem hr)
      exact ⟨_, _, _, rfl, h1, h2⟩
  | _ => cases h
theorem argsA_spec {M : List Fact} {base : Nat} {β : Nat → Bk} {a : Act} {w : World} (hM : ∀ φ ∈ M, φ.ok base β a w) : ∀ {l : List AV} {cs : List CA}, argsA M l = some cs → CAs w cs (l.map (AV.den β))
  | [], cs, h => by cases h; trivial
  | v :: r, cs, h => by
    unfold argsA at h
    cases hv : argA M v with
    | none => simp [hv] at h
    | some c =>
      cases hr : argsA M r with
      | none => simp [hv, hr] at h
      | some l =>
        simp only [hv, hr] at h
        cases h
        exact ⟨argA_spec hM hv, argsA_spec hM hr⟩
def isRowT (P : Program) (t : Nat) : Bool := match P.underlying t with | some d => d.isRow | none => false
def sizeT (P : Program) (t : Nat) : Option Nat := match P.info? t with | some i => some i.size | none => none
def zeroA (P : Program) (t : Nat) : Option (List At) := match P.info? t with
  | some i => match i.zero with | some z => some (nz z.cells.toList) | none => none
  | none => none
/-- a literal's empty cells: single ones where single cells are laid -/
def zat (z : List Value) : List (Nat × List At) → List At
  | (_, [.c _]) :: _ => z.map .c
  | _ => nz z
theorem flat_map_c : ∀ z : List Value, flat (z.map .c) = z
  | [] => rfl
  | v :: r => by show [v] ++ flat (r.map .c) = _; rw [flat_map_c r]; rfl
theorem zat_flat (z : List Value) (ps : List (Nat × List At)) : flat (zat z ps) = z := by
  unfold zat
  split
  · exact flat_map_c z
  · exact nz_flat z
def buildA (P : Program) (t : Nat) (ps : List (Nat × List At)) : Option (List At) :=
  match P.info? t, P.underlying t with
  | some it, some (.array _ e) => match it.zero, P.info? e with
    | some z, some ie => fillA (fun i => some (i * ie.size, ie.size)) (zat z.cells.toList ps) ps
    | _, _ => none
  | some it, some (.struct fields) => match it.zero, fields.toList.mapM (fun f => (P.info? f.type).map fun i => (f.offset, i.size)) with
    | some z, some places => fillA (places.toArray[·]?) (zat z.cells.toList ps) ps
    | _, _ => none
  | _, _ => none
theorem buildA_spec {P : Program} {M : List Fact} {base : Nat} {β : Nat → Bk} {a : Act} {w : World} (hM : ∀ φ ∈ M, φ.ok base β a w) {t : Nat} {xs : List (Nat × Operand)} {ps : List (Nat × List At)} {l : List At}
    (hp : parts? M xs = some ps) (h : buildA P t ps = some l) : P.built t (xs.map fun (i, x) => (i, a.eval x)) = some (flat l).toArray := by
  unfold buildA at h
  unfold Program.built
  cases hi : P.info? t with
  | none => simp [hi] at h
  | some it =>
    cases hu : P.underlying t with
    | none => simp [hi, hu] at h
    | some d =>
      cases d <;> simp only [hi, hu] at h ⊢ <;> try (cases h; done)
      · rename_i n e
        cases hz : it.zero with
        | none => simp [hz] at h
        | some z =>
          cases he : P.info? e with
          | none => simp [hz, he] at h
          | some ie =>
            simp only [hz, he] at h ⊢
            have := fillA_spec hM _ xs ps _ _ hp h
            rwa [zat_flat, Array.toArray_toList] at this
      · rename_i fs
        cases hz : it.zero with
        | none => simp [hz] at h
        | some z =>
          cases hm : fs.toList.mapM (fun f => (P.info? f.type).map fun i => (f.offset, i.size)) with
          | none => simp [hz, hm] at h
          | some pl =>
            simp only [hz, hm] at h ⊢
            have := fillA_spec hM _ xs ps _ _ hp h
            rwa [zat_flat, Array.toArray_toList] at this
def buildSA (P : Program) (t len : Nat) (ps : List (Nat × List At)) : Option (List At) :=
  match P.underlying t with
  | some (.slice e) => match P.info? e with
    | some ie => match ie.zero with
      | some z => bif Nat.ble (len * ie.size) 4096 && !(Nat.beq (len * ie.size) 0) then
          fillA (fun i => some (i * ie.size, ie.size)) (zat ((Array.range (len * ie.size)).map (z.cells[· % z.cells.size]!)).toList ps) ps else none
      | none => none
    | none => none
  | _ => none
structure PostB (base : Nat) (β β' : Nat → Bk) (a : Act) (w : World) (dst : Option Nat) (M out : List Fact) (kill : Option Nat) (a' : Act) (w' : World) : Prop where
  defers : a'.defers = a.defers
  size : a'.tmps.size = a.tmps.size
  tmps : ∀ s, dst ≠ some s → a'.tmps[s]? = a.tmps[s]?
  beta : ∀ k, dst ≠ some k → β' k = β k
  heap : w.heap.size ≤ w'.heap.size
  mem : ∀ p : Addr, p.block < w.heap.size → (∀ k, kill = some k → p.block ≠ (β k).1) → w'.cell? p = w.cell? p ∧ w'.frozen? p = w.frozen? p
  shape : Shape w w'
  below : ∀ w0, Below base w0 w → Below base w0 w'
  ok : ∀ φ ∈ out, φ.ok base β' a' w'
  rows : ∀ k l, Fact.row k true l ∈ out → (w.heap.size ≤ (β' k).1 ∧ dst = some k) ∨ (dst ≠ some k ∧ ∃ l0, Fact.row k true l0 ∈ M) ∨ (dst = some k ∧ ∃ k0 l0, kill = some k0 ∧ (β' k).1 = (β k0).1 ∧ Fact.row k0 true l0 ∈ M)
  one : ∀ k k' l l', Fact.row k true l ∈ out → Fact.row k' true l' ∈ out → k = k'
  kills : ∀ k, kill = some k → ∃ l0, Fact.row k true l0 ∈ M
theorem Shape.refl (w : World) : Shape w w := fun b cur e h => ⟨cur, h, rfl⟩
theorem Shape.below {w w' : World} (h : Below w.heap.size w w') : Shape w w' := fun b cur e hb => ⟨cur, (h.block b (Array.getElem?_eq_some_iff.1 hb).1).trans hb, rfl⟩
theorem Shape.alloc (w : World) (o : Obj) : Shape w (w.alloc o) := fun b cur e hb => ⟨cur, (Below.heap_alloc w o b (Array.getElem?_eq_some_iff.1 hb).1).trans hb, rfl⟩
theorem Shape.trans {a b c : World} (h : Shape a b) (k : Shape b c) : Shape a c := fun q cur e hq => by
  obtain ⟨c1, h1, s1⟩ := h q cur e hq
  obtain ⟨c2, h2, s2⟩ := k q c1 e h1
  exact ⟨c2, h2, s2.trans s1⟩
theorem AppAt.shape {w w' : World} (h : Shape w w') {b e sz n cap : Nat} (ha : AppAt w b e sz n cap) : AppAt w' b e sz n cap := by
  obtain ⟨cur, h1, h2, h3, h4⟩ := ha
  obtain ⟨c', h5, h6⟩ := h b cur e h1
  exact ⟨c', h5, h2, h3, h6.trans h4⟩
theorem put_get (a : Act) (d : Nat) (v : Value) (h : d < a.tmps.size) : (a.put (some d) v).tmps[d]? = some v := by
  simp [Act.put, h]
theorem put_ne (a : Act) (d s : Nat) (v : Value) (h : some d ≠ some s) : (a.put (some d) v).tmps[s]? = a.tmps[s]? := by
  have : d ≠ s := fun e => h (by rw [e])
  simp [Act.put, Array.getElem?_setIfInBounds_ne this]
theorem put_size (a : Act) (d : Option Nat) (v : Value) : (a.put d v).tmps.size = a.tmps.size := by cases d <;> simp [Act.put]
theorem put_defers (a : Act) (d : Option Nat) (v : Value) : (a.put d v).defers = a.defers := by cases d <;> rfl
theorem post_pure {base : Nat} {β : Nat → Bk} {a : Act} {w : World} {d : Nat} {M : List Fact} (v : AV) (h : d < a.tmps.size) : PostB base β β a w (some d) M [.slot d v] none (a.put (some d) (v.den β)) w where
  defers := rfl
  size := put_size _ _ _
  tmps s hs := put_ne _ _ _ _ hs
  beta k _ := rfl
  heap := Nat.le_refl _
  mem p _ _ := ⟨rfl, rfl⟩
  shape := Shape.refl _
  below _ h := h
  ok φ hφ := by cases List.mem_singleton.1 hφ; exact put_get _ _ _ h
  rows k l hk := by cases List.mem_singleton.1 hk
  one k k' l l' hk := by cases List.mem_singleton.1 hk
  kills k hk := by cases hk
theorem post_call {base : Nat} {β : Nat → Bk} {a : Act} {w w' : World} {d : Nat} {M : List Fact} (v : AV) (h : d < a.tmps.size) (hB : base ≤ w.heap.size) (hb : Below w.heap.size w w') : PostB base β β a w (some d) M [.slot d v] none (a.put (some d) (v.den β)) w' where
  defers := rfl
  size := put_size _ _ _
  tmps s hs := put_ne _ _ _ _ hs
  beta k _ := rfl
  heap := hb.size
  mem p hp _ := ⟨hb.cell hp, hb.frozen hp⟩
  shape := Shape.below hb
  below _ h := h.trans (hb.mono hB)
  ok φ hφ := by cases List.mem_singleton.1 hφ; exact put_get _ _ _ h
  rows k l hk := by cases List.mem_singleton.1 hk
  one k k' l l' hk := by cases List.mem_singleton.1 hk
  kills k hk := by cases hk
def β1 (β : Nat → Bk) (d b : Nat) : Nat → Bk := fun k => bif Nat.beq k d then (b, 0, 0) else β k
def β2 (β : Nat → Bk) (d b cap : Nat) : Nat → Bk := fun k => bif Nat.beq k d then (b, 0, cap) else β k
theorem β2_same (β : Nat → Bk) (d b cap : Nat) : β2 β d b cap d = (b, 0, cap) := by simp [β2]
theorem β2_ne (β : Nat → Bk) (d b cap k : Nat) (h : some d ≠ some k) : β2 β d b cap k = β k := by
  have : k ≠ d := fun e => h (by rw [e])
  unfold β2
  cases h2 : Nat.beq k d
  · rfl
  · exact absurd (Nat.eq_of_beq_eq_true h2) this
theorem β1_same (β : Nat → Bk) (d b : Nat) : β1 β d b d = (b, 0, 0) := by simp [β1]
theorem β1_ne (β : Nat → Bk) (d b k : Nat) (h : some d ≠ some k) : β1 β d b k = β k := by
  have : k ≠ d := fun e => h (by rw [e])
  unfold β1
  cases h2 : Nat.beq k d
  · rfl
  · exact absurd (Nat.eq_of_beq_eq_true h2) this
theorem post_new {base : Nat} {β : Nat → Bk} {a : Act} {w : World} {d : Nat} {M : List Fact} (v : AV) (l : List At) (t : TypeId) (h : d < a.tmps.size) (hB : base ≤ w.heap.size) :
    PostB base β (β1 β d w.heap.size) a w (some d) M [.slot d v, .row d true l] none (a.put (some d) (v.den (β1 β d w.heap.size))) (w.alloc (.cells (flat l).toArray t)) where
  defers := rfl
  size := put_size _ _ _
  tmps s hs := put_ne _ _ _ _ hs
  beta k hk := β1_ne _ _ _ _ hk
  heap := by simp
  mem p hp _ := ⟨World.cell?_alloc_lt _ _ _ hp, World.frozen?_alloc_past _ _ _ hp⟩
  shape := Shape.alloc _ _
  below _ h := h.alloc hB _
  ok φ hφ := by
    rcases List.mem_cons.1 hφ with rfl | hφ
    · exact put_get _ _ _ h
    · cases List.mem_singleton.1 hφ
      refine ⟨by rw [β1_same]; simp, fun j u hj => ?_, fun _ => ⟨by rw [β1_same]; exact hB, by rw [β1_same], fun j => by rw [β1_same]; exact World.frozen?_alloc_new _ _ _ _⟩, fun h => by cases h⟩
      rw [β1_same]
      show World.cell? _ ⟨_, 0 + j, none⟩ = _
      rw [Nat.zero_add, World.cell?_alloc_new]
      simpa using hj
  rows k l' hk := by
    rcases List.mem_cons.1 hk with hk | hk
    · cases hk
    · cases List.mem_singleton.1 hk
      exact Or.inl ⟨by rw [β1_same]; exact Nat.le_refl _, rfl⟩
  one k k' l1 l2 hk hk' := by
    rcases List.mem_cons.1 hk with hk | hk
    · cases hk
    · rcases List.mem_cons.1 hk' with hk' | hk'
      · cases hk'
      · cases List.mem_singleton.1 hk; cases List.mem_singleton.1 hk'; rfl
  kills k hk := by cases hk
end Go.Proofs.Ytebaoemoeckgaaa.Ex
