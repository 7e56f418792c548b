/-
  A reckoner of straight Go code over flat values, on facts about slots and blocks: its operations, each one right. Of whatever program. Conditions: none.
  The reckoner's operations: what each makes of the facts; that it is so. Of whatever program. Conditions: the table of calls is right.
  The reckoner's step: one operation, by its kind; that what it says is so. Of whatever program. Conditions: the table of calls is right.
  The reckoner's step is right. Of whatever program. Conditions: the table of calls is right.
  The reckoner's step, stores among them; a region in whatever order. Of whatever program. Conditions: the table of calls is right.
  The reckoner: a region, its operations in whatever order they may come. Of whatever program. Conditions: the table of calls is right.
  The reckoner: regions, code, functions. Of whatever program. Conditions: the table of calls is right.
  The reckoner: code and whole functions; tables of calls. Of whatever program. Conditions: the table of calls is right.
  The reckoner: loops of unknown length, a round at a time; code taken apart. Of whatever program. Conditions: the table of calls is right.
-/
import Derived.Test.YtgacpjmggdmgdaaGreatFw
import Derived.Below
import Derived.Deep.MidRow
import Derived.Great.BuildSlice
import Derived.Laws.StructEq
import Derived.Orders
import Derived.KernelRfl
namespace Go.Proofs.YtgacpjmggdmgdaaGreat.Ex
set_option linter.unusedVariables false
set_option linter.unusedSimpArgs false
open Go.RowKit

abbrev Fq := Fin FP.M
/-- a part of a flat value: a number below p, any number, a cell -/
inductive At | f (x : Fq) | q (x : Nat) | c (v : Value)
def w4 (x : Nat) : List Value := [.int .u64 (fw x 0 : Nat), .int .u64 (fw x 1 : Nat), .int .u64 (fw x 2 : Nat), .int .u64 (fw x 3 : Nat)]
def At.cells : At → List Value
  | .f x => w4 x.1
  | .q x => w4 x
  | .c v => [v]
def At.sz : At → Nat
  | .f _ => 4
  | .q _ => 4
  | .c _ => 1
theorem At.len (a : At) : a.cells.length = a.sz := by cases a <;> rfl
def flat : List At → List Value
  | [] => []
  | a :: r => a.cells ++ flat r
def fsz : List At → Nat
  | [] => 0
  | a :: r => a.sz + fsz r
theorem flat_len : ∀ l : List At, (flat l).length = fsz l
  | [] => rfl
  | a :: r => by simp [flat, fsz, At.len, flat_len r]
theorem flat_append : ∀ l m : List At, flat (l ++ m) = flat l ++ flat m
  | [], m => rfl
  | a :: r, m => by simp [flat, flat_append r m]
theorem fsz_append (l m : List At) : fsz (l ++ m) = fsz l + fsz m := by rw [← flat_len, flat_append, List.length_append, flat_len, flat_len]
/-- the first n cells -/
def tk : List At → Nat → Option (List At)
  | [], n => bif Nat.beq n 0 then some [] else none
  | a :: r, n => bif Nat.beq n 0 then some [] else bif Nat.ble a.sz n then (tk r (n - a.sz)).map (a :: ·) else none
/-- all but the first n cells -/
def dp : List At → Nat → Option (List At)
  | [], n => bif Nat.beq n 0 then some [] else none
  | a :: r, n => bif Nat.beq n 0 then some (a :: r) else bif Nat.ble a.sz n then dp r (n - a.sz) else none
theorem tk_spec : ∀ (l : List At) (n : Nat) (t : List At), tk l n = some t → ∃ r, l = t ++ r ∧ fsz t = n
  | [], n, t, h => by
    unfold tk at h
    cases hn : Nat.beq n 0 <;> rw [hn] at h
    · cases h
    · cases h; exact ⟨[], rfl, (Nat.eq_of_beq_eq_true hn).symm⟩
  | a :: r, n, t, h => by
    unfold tk at h
    cases hn : Nat.beq n 0 <;> rw [hn] at h
    · cases hs : Nat.ble a.sz n <;> rw [hs] at h
      · cases h
      · cases hr : tk r (n - a.sz) with
        | none => rw [hr] at h; cases h
        | some t' =>
          rw [hr] at h; cases h
          obtain ⟨r', e, s⟩ := tk_spec r _ _ hr
          refine ⟨r', by rw [e]; rfl, ?_⟩
          have := Nat.le_of_ble_eq_true hs
          show a.sz + fsz t' = n
          omega
    · cases h; exact ⟨a :: r, rfl, (Nat.eq_of_beq_eq_true hn).symm⟩
theorem dp_spec : ∀ (l : List At) (n : Nat) (r : List At), dp l n = some r → ∃ t, l = t ++ r ∧ fsz t = n
  | [], n, r, h => by
    unfold dp at h
    cases hn : Nat.beq n 0 <;> rw [hn] at h
    · cases h
    · cases h; exact ⟨[], rfl, (Nat.eq_of_beq_eq_true hn).symm⟩
  | a :: l, n, r, h => by
    unfold dp at h
    cases hn : Nat.beq n 0 <;> rw [hn] at h
    · cases hs : Nat.ble a.sz n <;> rw [hs] at h
      · cases h
      · obtain ⟨t, e, s⟩ := dp_spec l _ _ h
        refine ⟨a :: t, by rw [e]; rfl, ?_⟩
        have := Nat.le_of_ble_eq_true hs
        show a.sz + fsz t = n
        omega
    · cases h; exact ⟨[], rfl, (Nat.eq_of_beq_eq_true hn).symm⟩
/-- n cells from o on -/
def seg (l : List At) (o n : Nat) : Option (List At) := match dp l o with | some r => tk r n | none => none
theorem seg_spec {l : List At} {o n : Nat} {t : List At} (h : seg l o n = some t) : ∃ p s, l = p ++ (t ++ s) ∧ fsz p = o ∧ fsz t = n := by
  unfold seg at h
  cases hd : dp l o with
  | none => rw [hd] at h; cases h
  | some r =>
    rw [hd] at h
    obtain ⟨p, e, hp⟩ := dp_spec _ _ _ hd
    obtain ⟨s, e2, ht⟩ := tk_spec _ _ _ h
    exact ⟨p, s, by rw [e, e2], hp, ht⟩
/-- l with v in the place of the cells from o on -/
def put (l : List At) (o : Nat) (v : List At) : Option (List At) :=
  match tk l o, dp l o with
  | some a, some b => match dp b (fsz v) with | some s => some (a ++ (v ++ s)) | none => none
  | _, _ => none
theorem flat_eq_of_len : ∀ {a b : List At} {r s : List At}, a ++ r = b ++ s → fsz a = fsz b → flat a = flat b ∧ flat r = flat s := by
  intro a b r s h hs
  have := congrArg flat h
  rw [flat_append, flat_append] at this
  exact List.append_inj this (by rw [flat_len, flat_len, hs])
theorem put_spec {l : List At} {o : Nat} {v l' : List At} (h : put l o v = some l') : ∃ a m s, l = a ++ (m ++ s) ∧ flat l' = flat a ++ (flat v ++ flat s) ∧ fsz a = o ∧ fsz m = fsz v := by
  unfold put at h
  cases ht : tk l o with
  | none => rw [ht] at h; cases h
  | some a =>
    cases hd : dp l o with
    | none => rw [ht, hd] at h; cases h
    | some b =>
      rw [ht, hd] at h
      simp only at h
      cases hb : dp b (fsz v) with
      | none => rw [hb] at h; cases h
      | some s =>
        rw [hb] at h; cases h
        obtain ⟨r, e, s1⟩ := tk_spec _ _ _ ht
        obtain ⟨p, e2, s2⟩ := dp_spec _ _ _ hd
        obtain ⟨m, e3, s3⟩ := dp_spec _ _ _ hb
        obtain ⟨h1, h2⟩ := flat_eq_of_len (e.symm.trans e2) (s1.trans s2.symm)
        refine ⟨p, m, s, by rw [e2, e3], ?_, s2, s3⟩
        rw [flat_append, flat_append, h1]
/-- what is no struct and no array -/
def isScal : Value → Bool
  | .bool _ => true
  | .int _ _ => true
  | _ => false
/-- cells as parts, zeros by fours -/
def nz : List Value → List At
  | .int .u64 (.ofNat 0) :: .int .u64 (.ofNat 0) :: .int .u64 (.ofNat 0) :: .int .u64 (.ofNat 0) :: r => .f ⟨0, fp_pos⟩ :: nz r
  | v :: r => .c v :: nz r
  | [] => []
theorem nz_flat (l : List Value) : flat (nz l) = l := by
  fun_induction nz l with
  | case1 r ih => show w4 0 ++ flat (nz r) = _; rw [ih]; rfl
  | case2 v r h ih => show [v] ++ flat (nz r) = _; rw [ih]; rfl
  | case3 => rfl
/-- four words are a number -/
def nq : List At → List At
  | .c (.int .u64 (.ofNat a)) :: .c (.int .u64 (.ofNat b)) :: .c (.int .u64 (.ofNat c)) :: .c (.int .u64 (.ofNat d)) :: r =>
    bif Nat.blt a 18446744073709551616 && (Nat.blt b 18446744073709551616 && (Nat.blt c 18446744073709551616 && Nat.blt d 18446744073709551616)) then (if h : val4 a b c d < FP.M then .f ⟨val4 a b c d, h⟩ else .q (val4 a b c d)) :: nq r
    else .c (.int .u64 (.ofNat a)) :: .c (.int .u64 (.ofNat b)) :: .c (.int .u64 (.ofNat c)) :: .c (.int .u64 (.ofNat d)) :: nq r
  | v :: r => v :: nq r
  | [] => []
theorem nq_flat (l : List At) : flat (nq l) = flat l := by
  fun_induction nq l with
  | case1 a b c d r hb ih =>
    simp only [Bool.and_eq_true, Nat.blt_eq] at hb
    have h4 : ok4 a b c d := ⟨hb.1, hb.2.1, hb.2.2.1, hb.2.2.2⟩
    have hv : val4 a b c d < 115792089237316195423570985008687907853269984665640564039457584007913129639936 := by
      unfold val4; obtain ⟨h1, h2, h3, h5⟩ := hb; omega
    obtain ⟨e0, e1, e2, e3⟩ := fw_of h4 hv rfl
    have hc : (if h : val4 a b c d < FP.M then At.f ⟨val4 a b c d, h⟩ else At.q (val4 a b c d)).cells = w4 (val4 a b c d) := by split <;> rfl
    show (if h : val4 a b c d < FP.M then At.f ⟨val4 a b c d, h⟩ else At.q (val4 a b c d)).cells ++ flat (nq r) = _
    rw [hc, ih]
    unfold w4
    rw [← e0, ← e1, ← e2, ← e3]
    rfl
  | case2 a b c d r hb ih => simp only [flat, ih]
  | case3 v r h ih => show v.cells ++ flat (nq r) = _; rw [ih]; rfl
  | case4 => rfl
/-- what a call answers -/
inductive TV | im (v : Value) | fl (l : List At)
def TV.den : TV → Value
  | .im v => v
  | .fl l => .agg (flat l).toArray
/-- what a slot holds -/
inductive AV | im (v : Value) | fl (l : List At) | pt (k o : Nat) | sl (k o n m : Nat) | tu (l : List TV)
def TV.av : TV → AV
  | .im v => .im v
  | .fl l => .fl l
def AV.den (β : Nat → Nat × Nat) : AV → Value
  | .im v => v
  | .fl l => .agg (flat l).toArray
  | .pt k o => .pointer (some ⟨(β k).1, (β k).2 + o, none⟩)
  | .sl k o n m => .slice (some ⟨(β k).1, (β k).2 + o, none⟩) n m
  | .tu l => .tuple (l.map TV.den).toArray
theorem TV.av_den (β : Nat → Nat × Nat) (t : TV) : t.av.den β = t.den := by cases t <;> rfl
/-- the block that it points into -/
def AV.key : AV → Option Nat
  | .pt k _ => some k
  | .sl k _ _ _ => some k
  | _ => none
theorem AV.den_eq {β β' : Nat → Nat × Nat} (v : AV) (h : ∀ k, v.key = some k → β' k = β k) : v.den β' = v.den β := by
  cases v with
  | pt k o => simp [AV.den, h k rfl]
  | sl k o n m => simp [AV.den, h k rfl]
  | _ => rfl
inductive Fact | slot (s : Nat) (v : AV) | row (k : Nat) (own : Bool) (l : List At)
def Fact.ok (base : Nat) (β : Nat → Nat × Nat) (a : Act) (w : World) : Fact → Prop
  | .slot s v => a.tmps[s]? = some (v.den β)
  | .row k own l => (β k).1 < w.heap.size ∧ w.rangeAt (β k).1 (β k).2 (flat l) ∧ (own = true → base ≤ (β k).1 ∧ (β k).2 = 0 ∧ ∀ j, w.frozen? ⟨(β k).1, j, none⟩ = false) ∧ (own = false → (β k).1 < base)
def look : List Fact → Nat → Option AV
  | [], _ => none
  | .slot t v :: r, s => bif Nat.beq t s then some v else look r s
  | .row _ _ _ :: r, s => look r s
theorem look_mem : ∀ {M : List Fact} {s : Nat} {v : AV}, look M s = some v → Fact.slot s v ∈ M
  | .slot t u :: r, s, v, h => by
    unfold look at h
    cases hb : Nat.beq t s <;> rw [hb] at h
    · exact List.mem_cons_of_mem _ (look_mem h)
    · cases h; cases Nat.eq_of_beq_eq_true hb; exact List.mem_cons_self
  | .row _ _ _ :: r, s, v, h => List.mem_cons_of_mem _ (look_mem (M := r) h)
def rowOf : List Fact → Nat → Option (Bool × List At)
  | [], _ => none
  | .row t o l :: r, s => bif Nat.beq t s then some (o, l) else rowOf r s
  | .slot _ _ :: r, s => rowOf r s
theorem rowOf_mem : ∀ {M : List Fact} {s : Nat} {o : Bool} {l : List At}, rowOf M s = some (o, l) → Fact.row s o l ∈ M
  | .row t u m :: r, s, o, l, h => by
    unfold rowOf at h
    cases hb : Nat.beq t s <;> rw [hb] at h
    · exact List.mem_cons_of_mem _ (rowOf_mem h)
    · cases h; cases Nat.eq_of_beq_eq_true hb; exact List.mem_cons_self
  | .slot _ _ :: r, s, o, l, h => List.mem_cons_of_mem _ (rowOf_mem (M := r) h)
def ev (M : List Fact) : Operand → Option AV
  | .tmp s => look M s
  | .const v => some (.im v)
  | .func f => some (.im (.func (.func f) #[] #[]))
  | .global _ => none
theorem ev_spec {M : List Fact} {base : Nat} {β : Nat → Nat × Nat} {a : Act} {w : World} (hM : ∀ φ ∈ M, φ.ok base β a w) {x : Operand} {v : AV} (h : ev M x = some v) : a.eval x = v.den β := by
  cases x with
  | tmp s =>
    have := hM _ (look_mem h)
    simp only [Fact.ok] at this
    simp [Act.eval, this]
  | const u => cases h; rfl
  | func f => cases h; rfl
  | global g => cases h
def evs (M : List Fact) : List Operand → Option (List AV)
  | [] => some []
  | x :: r => match ev M x, evs M r with | some v, some l => some (v :: l) | _, _ => none
theorem evs_spec {M : List Fact} {base : Nat} {β : Nat → Nat × Nat} {a : Act} {w : World} (hM : ∀ φ ∈ M, φ.ok base β a w) : ∀ {xs : List Operand} {l : List AV}, evs M xs = some l → xs.map a.eval = l.map (AV.den β)
  | [], l, h => by cases h; rfl
  | x :: r, l, h => by
    unfold evs at h
    cases hx : ev M x with
    | none => rw [hx] at h; cases h
    | some v =>
      cases hr : evs M r with
      | none => rw [hx, hr] at h; cases h
      | some l' => rw [hx, hr] at h; cases h; simp [ev_spec hM hx, evs_spec hM hr]
/-- a value as a part of a flat one -/
def part? : AV → Option (List At)
  | .fl l => some l
  | .im v => bif isScal v then some [.c v] else none
  | _ => none
theorem part?_spec {v : AV} {p : List At} (h : part? v = some p) (β : Nat → Nat × Nat) : (v.den β).cells = (flat p).toArray := by
  cases v with
  | fl l => cases h; rfl
  | im u =>
    have h' : (bif isScal u then some [At.c u] else none) = some p := h
    cases hu : isScal u <;> rw [hu] at h'
    · cases h'
    · cases h'
      cases u <;> first | rfl | cases hu
  | _ => cases h
def parts? (M : List Fact) : List (Nat × Operand) → Option (List (Nat × List At))
  | [] => some []
  | (i, x) :: r => match ev M x with
    | some v => match part? v, parts? M r with | some p, some l => some ((i, p) :: l) | _, _ => none
    | none => none
/-- a literal's parts, laid one after another -/
def fillA (place : Nat → Option (Nat × Nat)) : List At → List (Nat × List At) → Option (List At)
  | l, [] => some l
  | l, (i, p) :: r => match place i with
    | none => none
    | some (off, sz) => bif Nat.beq (fsz p) sz then (match put l off p with | some l' => fillA place l' r | none => none) else none
theorem fold_set : ∀ (p B A C : List Value) (k off : Nat), A.length = off + k → B.length = p.length →
    (p.zipIdx k).foldl (fun cs (x : Value × Nat) => cs.setIfInBounds (off + x.2) x.1) (A ++ (B ++ C)).toArray = (A ++ (p ++ C)).toArray
  | [], B, A, C, k, off, hA, hB => by
    have : B = [] := List.length_eq_zero_iff.1 (by simpa using hB)
    subst this; rfl
  | v :: p, B, A, C, k, off, hA, hB => by
    cases B with
    | nil => cases hB
    | cons b B =>
      have e : (A ++ (b :: B ++ C)).toArray.setIfInBounds (off + k) v = ((A ++ [v]) ++ (B ++ C)).toArray := by
        rw [List.setIfInBounds_toArray, ← hA]
        simp
      simp only [List.zipIdx_cons, List.foldl_cons, e]
      rw [fold_set p B (A ++ [v]) C (k + 1) off (by simp [hA]; omega) (by simpa using hB)]
      simp
theorem fillA_spec {M : List Fact} {base : Nat} {β : Nat → Nat × Nat} {a : Act} {w : World} (hM : ∀ φ ∈ M, φ.ok base β a w) (place : Nat → Option (Nat × Nat)) :
    ∀ (xs : List (Nat × Operand)) (ps : List (Nat × List At)) (l l' : List At), parts? M xs = some ps → fillA place l ps = some l' →
      Instr.fill place (flat l).toArray (xs.map fun (i, x) => (i, a.eval x)) = some (flat l').toArray
  | [], ps, l, l', h, h2 => by cases h; cases h2; rfl
  | (i, x) :: r, ps, l, l', h, h2 => by
    unfold parts? at h
    cases hx : ev M x with
    | none => rw [hx] at h; cases h
    | some v =>
      rw [hx] at h
      simp only at h
      cases hp : part? v with
      | none => rw [hp] at h; cases h
      | some p =>
        cases hr : parts? M r with
        | none => rw [hp, hr] at h; cases h
        | some ps' =>
          rw [hp, hr] at h; cases h
          unfold fillA at h2
          simp only [List.map_cons, Instr.fill]
          cases hpl : place i with
          | none => rw [hpl] at h2; cases h2
          | some os =>
            obtain ⟨off, sz⟩ := os
            rw [hpl] at h2
            simp only at h2
            cases hb : Nat.beq (fsz p) sz <;> rw [hb] at h2
            · cases h2
            · have hsz := Nat.eq_of_beq_eq_true hb
              simp only [cond_true] at h2
              cases hq : put l off p with
              | none => rw [hq] at h2; cases h2
              | some l1 =>
                rw [hq] at h2
                obtain ⟨A, m, s, e, f, ha, hm⟩ := put_spec hq
                have hc := part?_spec hp β
                rw [ev_spec hM hx]
                have hsize : (AV.den β v).cells.size = sz := by rw [hc]; simp [flat_len, hsz]
                have hle : ¬ (off + (AV.den β v).cells.size > (flat l).toArray.size) := by
                  rw [hsize, e]
                  simp [flat_append, flat_len]
                  omega
                have hset : (AV.den β v).cells.zipIdx.foldl (fun cs (c, j) => cs.setIfInBounds (off + j) c) (flat l).toArray = (flat l1).toArray := by
                  rw [hc, f, e, flat_append, flat_append]
                  have := fold_set (flat p) (flat m) (flat A) (flat s) 0 off (by rw [flat_len, ha]; rfl) (by rw [flat_len, flat_len, hm])
                  simpa using this
                simp only [hset]
                rw [if_neg (by simp [hsize]; simpa [hsize] using hle)]
                exact fillA_spec hM place r ps' l1 l' hr h2
end Go.Proofs.YtgacpjmggdmgdaaGreat.Ex
namespace Go.Proofs.YtgacpjmggdmgdaaGreat.Ex
set_option linter.unusedVariables false
set_option linter.unusedSimpArgs false
open Go.RowKit

/-- what a call is handed: a value, or a slice's cells -/
inductive CA | v (x : TV) | s (l : List At) (n m : Nat)
inductive RV | one (t : TV) | many (l : List TV)
def RV.av : RV → AV
  | .one t => t.av
  | .many l => .tu l
def RV.den : RV → Value
  | .one t => t.den
  | .many l => .tuple (l.map TV.den).toArray
theorem RV.av_den (β : Nat → Nat × Nat) (r : RV) : r.av.den β = r.den := by cases r with | one t => exact TV.av_den β t | many l => rfl
def CA.ok (w : World) : CA → Value → Prop
  | .v x, u => u = x.den
  | .s l n m, u => ∃ b o, u = .slice (some ⟨b, o, none⟩) n m ∧ b < w.heap.size ∧ w.rangeAt b o (flat l)
def CAs (w : World) : List CA → List Value → Prop
  | [], [] => True
  | c :: cs, v :: vs => c.ok w v ∧ CAs w cs vs
  | _, _ => False
abbrev Tab := Nat → List CA → Option (List Prop × RV)
def allP : List Prop → Prop
  | [] => True
  | p :: r => p ∧ allP r
theorem allP_append : ∀ {l m : List Prop}, allP (l ++ m) ↔ allP l ∧ allP m
  | [], m => by simp [allP]
  | p :: r, m => by simp [allP, allP_append (l := r), and_assoc]
/-- the table is right -/
def TabOk (P : Program) (T : Tab) : Prop := ∀ f cs pre r, T f cs = some (pre, r) → allP pre →
  (∀ args w, (callFunc f args).run P w = .ok (.enter f args) w) ∧ ∀ (args : List Value) (w : World), CAs w cs args → Calls P f args.toArray w (fun e w' => e = .returned r.den ∧ Below w.heap.size w w')
def isN : At → Bool
  | .c _ => false
  | _ => true
/-- types whose flat values of numbers may be held against each other: found equal (q), found unlike (n) -/
structure EqT where
  q : Nat → Option Nat
  n : Nat → Option Nat
def EqOk (P : Program) (q : EqT) : Prop := (∀ t n, q.q t = some n → P.eqGuardType P.depth t = false ∧ ∀ (l : List At) (w : World), fsz l = n → l.all isN = true → (Op.equalIn 10000 t (.agg (flat l).toArray) (.agg (flat l).toArray)).run P w = .ok true w) ∧
  (∀ t n, q.n t = some n → P.eqGuardType P.depth t = false ∧ ∀ (l m : List At) (w : World), fsz l = n → fsz m = n → l.all isN = true → m.all isN = true → flat l ≠ flat m → (Op.equalIn 10000 t (.agg (flat l).toArray) (.agg (flat m).toArray)).run P w = .ok false w)
/-- T: by the slot of the call; hint: how a comparison of flat values comes out; num: what an operation on ints answers -/
structure Env where
  P : Program
  T : Nat → Tab
  q : EqT
  hint : Nat → Bool
  num : Nat → Option Value
  nt : Nat
def argA (M : List Fact) : AV → Option CA
  | .im v => some (.v (.im v))
  | .fl l => some (.v (.fl l))
  | .sl k o n m => match rowOf M k with
    | some (_, l) => match dp l o with | some r => some (.s r n m) | none => none
    | none => none
  | _ => none
def argsA (M : List Fact) : List AV → Option (List CA)
  | [] => some []
  | v :: r => match argA M v, argsA M r with | some c, some l => some (c :: l) | _, _ => none
theorem argA_spec {M : List Fact} {base : Nat} {β : Nat → Nat × Nat} {a : Act} {w : World} (hM : ∀ φ ∈ M, φ.ok base β a w) {v : AV} {c : CA} (h : argA M v = some c) : c.ok w (v.den β) := by
  cases v with
  | im v => cases h; rfl
  | fl l => cases h; rfl
  | sl k o n m =>
    unfold argA at h
    cases hr : rowOf M k with
    | none => simp [hr] at h
    | some x =>
      obtain ⟨ow, l⟩ := x
      simp only [hr] at h
      cases hd : dp l o with
      | none => simp [hd] at h
      | some r =>
        simp only [hd] at h
        cases h
        obtain ⟨h1, h2, _⟩ := hM _ (rowOf_mem hr)
        obtain ⟨p, e, hp⟩ := dp_spec _ _ _ hd
        refine ⟨_, _, rfl, h1, fun j u hj => ?_⟩
        have := h2 (o + j) u (by rw [e, flat_append, List.getElem?_append_right (by rw [flat_len, hp]; omega), flat_len, hp]; simpa using hj)
        rwa [← Nat.add_assoc] at this
  | _ => cases h
theorem argsA_spec {M : List Fact} {base : Nat} {β : Nat → Nat × Nat} {a : Act} {w : World} (hM : ∀ φ ∈ M, φ.ok base β a w) : ∀ {l : List AV} {cs : List CA}, argsA M l = some cs → CAs w cs (l.map (AV.den β))
  | [], cs, h => by cases h; trivial
  | v :: r, cs, h => by
    unfold argsA at h
    cases hv : argA M v with
    | none => simp [hv] at h
    | some c =>
      cases hr : argsA M r with
      | none => simp [hv, hr] at h
      | some l =>
        simp only [hv, hr] at h
        cases h
        exact ⟨argA_spec hM hv, argsA_spec hM hr⟩
def isRowT (P : Program) (t : Nat) : Bool := match P.underlying t with | some d => d.isRow | none => false
def sizeT (P : Program) (t : Nat) : Option Nat := match P.info? t with | some i => some i.size | none => none
def zeroA (P : Program) (t : Nat) : Option (List At) := match P.info? t with
  | some i => match i.zero with | some z => some (nz z.cells.toList) | none => none
  | none => none
/-- a literal's empty cells: single ones where single cells are laid -/
def zat (z : List Value) : List (Nat × List At) → List At
  | (_, [.c _]) :: _ => z.map .c
  | _ => nz z
theorem flat_map_c : ∀ z : List Value, flat (z.map .c) = z
  | [] => rfl
  | v :: r => by show [v] ++ flat (r.map .c) = _; rw [flat_map_c r]; rfl
theorem zat_flat (z : List Value) (ps : List (Nat × List At)) : flat (zat z ps) = z := by
  unfold zat
  split
  · exact flat_map_c z
  · exact nz_flat z
def buildA (P : Program) (t : Nat) (ps : List (Nat × List At)) : Option (List At) :=
  match P.info? t, P.underlying t with
  | some it, some (.array _ e) => match it.zero, P.info? e with
    | some z, some ie => fillA (fun i => some (i * ie.size, ie.size)) (zat z.cells.toList ps) ps
    | _, _ => none
  | some it, some (.struct fields) => match it.zero, fields.toList.mapM (fun f => (P.info? f.type).map fun i => (f.offset, i.size)) with
    | some z, some places => fillA (places.toArray[·]?) (zat z.cells.toList ps) ps
    | _, _ => none
  | _, _ => none
theorem buildA_spec {P : Program} {M : List Fact} {base : Nat} {β : Nat → Nat × Nat} {a : Act} {w : World} (hM : ∀ φ ∈ M, φ.ok base β a w) {t : Nat} {xs : List (Nat × Operand)} {ps : List (Nat × List At)} {l : List At}
    (hp : parts? M xs = some ps) (h : buildA P t ps = some l) : P.built t (xs.map fun (i, x) => (i, a.eval x)) = some (flat l).toArray := by
  unfold buildA at h
  unfold Program.built
  cases hi : P.info? t with
  | none => simp [hi] at h
  | some it =>
    cases hu : P.underlying t with
    | none => simp [hi, hu] at h
    | some d =>
      cases d <;> simp only [hi, hu] at h ⊢ <;> try (cases h; done)
      · rename_i n e
        cases hz : it.zero with
        | none => simp [hz] at h
        | some z =>
          cases he : P.info? e with
          | none => simp [hz, he] at h
          | some ie =>
            simp only [hz, he] at h ⊢
            have := fillA_spec hM _ xs ps _ _ hp h
            rwa [zat_flat, Array.toArray_toList] at this
      · rename_i fs
        cases hz : it.zero with
        | none => simp [hz] at h
        | some z =>
          cases hm : fs.toList.mapM (fun f => (P.info? f.type).map fun i => (f.offset, i.size)) with
          | none => simp [hz, hm] at h
          | some pl =>
            simp only [hz, hm] at h ⊢
            have := fillA_spec hM _ xs ps _ _ hp h
            rwa [zat_flat, Array.toArray_toList] at this
def buildSA (P : Program) (t len : Nat) (ps : List (Nat × List At)) : Option (List At) :=
  match P.underlying t with
  | some (.slice e) => match P.info? e with
    | some ie => match ie.zero with
      | some z => bif Nat.ble (len * ie.size) 4096 && !(Nat.beq (len * ie.size) 0) then
          fillA (fun i => some (i * ie.size, ie.size)) (zat ((Array.range (len * ie.size)).map (z.cells[· % z.cells.size]!)).toList ps) ps else none
      | none => none
    | none => none
  | _ => none
structure PostB (base : Nat) (β β' : Nat → Nat × Nat) (a : Act) (w : World) (dst : Option Nat) (M out : List Fact) (kill : Option Nat) (a' : Act) (w' : World) : Prop where
  defers : a'.defers = a.defers
  size : a'.tmps.size = a.tmps.size
  tmps : ∀ s, dst ≠ some s → a'.tmps[s]? = a.tmps[s]?
  beta : ∀ k, dst ≠ some k → β' k = β k
  heap : w.heap.size ≤ w'.heap.size
  mem : ∀ p : Addr, p.block < w.heap.size → (∀ k, kill = some k → p.block ≠ (β k).1) → w'.cell? p = w.cell? p ∧ w'.frozen? p = w.frozen? p
  below : ∀ w0, Below base w0 w → Below base w0 w'
  ok : ∀ φ ∈ out, φ.ok base β' a' w'
  rows : ∀ k l, Fact.row k true l ∈ out → (w.heap.size ≤ (β' k).1 ∧ dst = some k) ∨ (dst ≠ some k ∧ ∃ l0, Fact.row k true l0 ∈ M)
  one : ∀ k k' l l', Fact.row k true l ∈ out → Fact.row k' true l' ∈ out → k = k'
  kills : ∀ k, kill = some k → dst ≠ some k ∧ ∃ l0, Fact.row k true l0 ∈ M
theorem put_get (a : Act) (d : Nat) (v : Value) (h : d < a.tmps.size) : (a.put (some d) v).tmps[d]? = some v := by
  simp [Act.put, h]
theorem put_ne (a : Act) (d s : Nat) (v : Value) (h : some d ≠ some s) : (a.put (some d) v).tmps[s]? = a.tmps[s]? := by
  have : d ≠ s := fun e => h (by rw [e])
  simp [Act.put, Array.getElem?_setIfInBounds_ne this]
theorem put_size (a : Act) (d : Option Nat) (v : Value) : (a.put d v).tmps.size = a.tmps.size := by cases d <;> simp [Act.put]
theorem put_defers (a : Act) (d : Option Nat) (v : Value) : (a.put d v).defers = a.defers := by cases d <;> rfl
theorem post_pure {base : Nat} {β : Nat → Nat × Nat} {a : Act} {w : World} {d : Nat} {M : List Fact} (v : AV) (h : d < a.tmps.size) : PostB base β β a w (some d) M [.slot d v] none (a.put (some d) (v.den β)) w where
  defers := rfl
  size := put_size _ _ _
  tmps s hs := put_ne _ _ _ _ hs
  beta k _ := rfl
  heap := Nat.le_refl _
  mem p _ _ := ⟨rfl, rfl⟩
  below _ h := h
  ok φ hφ := by cases List.mem_singleton.1 hφ; exact put_get _ _ _ h
  rows k l hk := by cases List.mem_singleton.1 hk
  one k k' l l' hk := by cases List.mem_singleton.1 hk
  kills k hk := by cases hk
theorem post_call {base : Nat} {β : Nat → Nat × Nat} {a : Act} {w w' : World} {d : Nat} {M : List Fact} (v : AV) (h : d < a.tmps.size) (hB : base ≤ w.heap.size) (hb : Below w.heap.size w w') : PostB base β β a w (some d) M [.slot d v] none (a.put (some d) (v.den β)) w' where
  defers := rfl
  size := put_size _ _ _
  tmps s hs := put_ne _ _ _ _ hs
  beta k _ := rfl
  heap := hb.size
  mem p hp _ := ⟨hb.cell hp, hb.frozen hp⟩
  below _ h := h.trans (hb.mono hB)
  ok φ hφ := by cases List.mem_singleton.1 hφ; exact put_get _ _ _ h
  rows k l hk := by cases List.mem_singleton.1 hk
  one k k' l l' hk := by cases List.mem_singleton.1 hk
  kills k hk := by cases hk
def β1 (β : Nat → Nat × Nat) (d b : Nat) : Nat → Nat × Nat := fun k => bif Nat.beq k d then (b, 0) else β k
theorem β1_same (β : Nat → Nat × Nat) (d b : Nat) : β1 β d b d = (b, 0) := by simp [β1]
theorem β1_ne (β : Nat → Nat × Nat) (d b k : Nat) (h : some d ≠ some k) : β1 β d b k = β k := by
  have : k ≠ d := fun e => h (by rw [e])
  unfold β1
  cases h2 : Nat.beq k d
  · rfl
  · exact absurd (Nat.eq_of_beq_eq_true h2) this
theorem post_new {base : Nat} {β : Nat → Nat × Nat} {a : Act} {w : World} {d : Nat} {M : List Fact} (v : AV) (l : List At) (t : TypeId) (h : d < a.tmps.size) (hB : base ≤ w.heap.size) :
    PostB base β (β1 β d w.heap.size) a w (some d) M [.slot d v, .row d true l] none (a.put (some d) (v.den (β1 β d w.heap.size))) (w.alloc (.cells (flat l).toArray t)) where
  defers := rfl
  size := put_size _ _ _
  tmps s hs := put_ne _ _ _ _ hs
  beta k hk := β1_ne _ _ _ _ hk
  heap := by simp
  mem p hp _ := ⟨World.cell?_alloc_lt _ _ _ hp, World.frozen?_alloc_past _ _ _ hp⟩
  below _ h := h.alloc hB _
  ok φ hφ := by
    rcases List.mem_cons.1 hφ with rfl | hφ
    · exact put_get _ _ _ h
    · cases List.mem_singleton.1 hφ
      refine ⟨by rw [β1_same]; simp, fun j u hj => ?_, fun _ => ⟨by rw [β1_same]; exact hB, by rw [β1_same], fun j => by rw [β1_same]; exact World.frozen?_alloc_new _ _ _ _⟩, fun h => by cases h⟩
      rw [β1_same]
      show World.cell? _ ⟨_, 0 + j, none⟩ = _
      rw [Nat.zero_add, World.cell?_alloc_new]
      simpa using hj
  rows k l' hk := by
    rcases List.mem_cons.1 hk with hk | hk
    · cases hk
    · cases List.mem_singleton.1 hk
      exact Or.inl ⟨by rw [β1_same]; exact Nat.le_refl _, rfl⟩
  one k k' l1 l2 hk hk' := by
    rcases List.mem_cons.1 hk with hk | hk
    · cases hk
    · rcases List.mem_cons.1 hk' with hk' | hk'
      · cases hk'
      · cases List.mem_singleton.1 hk; cases List.mem_singleton.1 hk'; rfl
  kills k hk := by cases hk
end Go.Proofs.YtgacpjmggdmgdaaGreat.Ex
namespace Go.Proofs.YtgacpjmggdmgdaaGreat.Ex
set_option linter.unusedVariables false
set_option linter.unusedSimpArgs false
open Go.RowKit

/-- what an operation says: what must hold, what is known behind it, the block that it writes -/
abbrev Say := Option (List Prop × List Fact × Option Nat)
def cOk : At → Bool
  | .c v => isScal v
  | _ => true
def intOp (op : BinOp) (k : IntKind) (a b : Int) : Option Value :=
  match op with
  | .add => some (.int k (k.wrap (a + b)))
  | .sub => some (.int k (k.wrap (a - b)))
  | .mul => some (.int k (k.wrap (a * b)))
  | .rem => if b = 0 then none else some (.int k (a.tmod b))
  | .quo => if b = 0 then none else some (.int k (k.wrap (a.tdiv b)))
  | .eql => some (.bool (a == b))
  | .neq => some (.bool (a != b))
  | .lss => some (.bool (decide (a < b)))
  | .leq => some (.bool (decide (a ≤ b)))
  | .gtr => some (.bool (decide (a > b)))
  | .geq => some (.bool (decide (a ≥ b)))
  | _ => none
def binA (E : Env) (d : Nat) (op : BinOp) (t : Nat) (x y : AV) : Say :=
  match x, y with
  | .im (.int k a), .im (.int k' b) => if k = k' then (match E.num d with
    | some v => some ([intOp op k a b = some v], [.slot d (.im v)], none)
    | none => match intOp op k a b with | some v => some ([], [.slot d (.im v)], none) | none => none) else none
  | .im (.bool a), .im (.bool b) => match E.P.underlying t with
    | some .bool => (match op with
      | .eql => some ([], [.slot d (.im (.bool (a == b)))], none)
      | .neq => some ([], [.slot d (.im (.bool (a != b)))], none)
      | _ => none)
    | _ => none
  | .fl l, .fl m => bif l.all isN && m.all isN then
      (bif E.hint d then (match E.q.q t with
        | some n => bif Nat.beq (fsz l) n && Nat.beq (fsz m) n then
            (match op with
            | .eql => some ([flat l = flat m], [.slot d (.im (.bool true))], none)
            | .neq => some ([flat l = flat m], [.slot d (.im (.bool false))], none)
            | _ => none) else none
        | none => none)
      else (match E.q.n t with
        | some n => bif Nat.beq (fsz l) n && Nat.beq (fsz m) n then
            (match op with
            | .eql => some ([flat l ≠ flat m], [.slot d (.im (.bool false))], none)
            | .neq => some ([flat l ≠ flat m], [.slot d (.im (.bool true))], none)
            | _ => none) else none
        | none => none)) else none
  | _, _ => none
def stepA (E : Env) (M : List Fact) (d : Nat) : Op → Say
  | .move x => match ev M x with | some v => some ([], [.slot d v], none) | none => none
  | .assign x => match ev M x with | some v => some ([], [.slot d v], none) | none => none
  | .pick c x y => match ev M c, ev M x, ev M y with
    | some (.im (.bool b)), some v, some u => some ([], [.slot d (bif b then v else u)], none)
    | _, _, _ => none
  | .alloc t => match zeroA E.P t with | some l => some ([], [.slot d (.pt d 0), .row d true l], none) | none => none
  | .box t x => match ev M x with
    | some v => match part? v with | some p => some ([], [.slot d (.pt d 0), .row d true p], none) | none => none
    | none => none
  | .build t ps => match parts? M ps.toList with
    | some qs => match buildA E.P t qs with | some l => some ([], [.slot d (.fl (nq l))], none) | none => none
    | none => none
  | .buildSlice t n ps => match parts? M ps.toList with
    | some qs => match buildSA E.P t n qs with | some l => some ([], [.slot d (.sl d 0 n n), .row d true l], none) | none => none
    | none => none
  | .load t x => match ev M x with
    | some (.pt k o) => match rowOf M k, sizeT E.P t, isRowT E.P t with
      | some (_, l), some n, true => match seg l o n with | some s => some ([], [.slot d (.fl s)], none) | none => none
      | _, _, _ => none
    | _ => none
  | .fieldAddr s x i => match ev M x, E.P.underlying s with
    | some (.pt k o), some (.struct fs) => match fs[i]? with
      | some f => match sizeT E.P f.type with
        | some n => bif Nat.beq n 0 then none else some ([], [.slot d (.pt k (o + f.offset))], none)
        | none => none
      | none => none
    | _, _ => none
  | .indexAddr t x y => match ev M x, ev M y with
    | some (.pt k o), some (.im (.int kd (.ofNat i))) => match E.P.underlying t with
      | some (.array n e) => match sizeT E.P e with
        | some s => bif Nat.blt i n then some ([], [.slot d (.pt k (o + i * s))], none) else none
        | none => none
      | _ => none
    | some (.sl k o n m), some (.im (.int kd (.ofNat i))) => match E.P.underlying t with
      | some (.slice e) => match sizeT E.P e with
        | some s => bif Nat.blt i n then some ([], [.slot d (.pt k (o + i * s))], none) else none
        | none => none
      | _ => none
    | _, _ => none
  | .index t x y => match ev M x, ev M y with
    | some (.fl l), some (.im (.int kd (.ofNat i))) => match E.P.underlying t with
      | some (.array n e) => match sizeT E.P e, isRowT E.P e with
        | some s, true => bif Nat.blt i n then (match seg l (i * s) s with | some r => some ([], [.slot d (.fl r)], none) | none => none) else none
        | _, _ => none
      | _ => none
    | _, _ => none
  | .extract x i => match ev M x with
    | some (.tu l) => match l[i]? with | some t => some ([], [.slot d t.av], none) | none => none
    | _ => none
  | .slice t x none hi none => match ev M x, E.P.underlying t with
    | some (.pt k o), some (.array n e) => match sizeT E.P e with
      | some s => match hi with
        | none => some ([], [.slot d (.sl k o n n)], none)
        | some y => match ev M y with
          | some (.im (.int kd (.ofNat h))) => bif Nat.ble h n then some ([], [.slot d (.sl k o h n)], none) else none
          | _ => none
      | none => none
    | _, _ => none
  | .binOp op t x y _ => match ev M x, ev M y with | some v, some u => binA E d op t v u | _, _ => none
  | .unOp op _ x => match op, ev M x with
    | .not, some (.im (.bool b)) => match E.num d with
      | some v => some ([Value.bool (!b) = v], [.slot d (.im v)], none)
      | none => some ([], [.slot d (.im (.bool (!b)))], none)
    | _, _ => none
  | .call c => match c.callee with
    | .builtin .len => match c.args.toList, c.argTypes.toList with
      | [x], [t] => match ev M x, E.P.underlying t with
        | some (.sl k o n m), some (.slice e) => some ([], [.slot d (.im (goInt n))], none)
        | _, _ => none
      | _, _ => none
    | .value f => match ev M f with
      | some (.im (.func (.func id) first captured)) => bif Nat.beq first.size 0 && Nat.beq captured.size 0 then
          (match evs M c.args.toList with
          | some l => match argsA M l with
            | some cs => match E.T d id cs with
              | some (pre, r) => some (pre, [.slot d r.av], none)
              | none => none
            | none => none
          | none => none) else none
      | _ => none
    | _ => none
  | _ => none
def storeA (E : Env) (M : List Fact) : Op → Say
  | .store t x y => match ev M x, ev M y with
    | some (.pt k o), some v => match part? v, rowOf M k, sizeT E.P t with
      | some p, some (true, l), some n => bif Nat.beq n (fsz p) && p.all cOk then
          (match put l o p with | some l' => some ([], [.row k true l'], some k) | none => none) else none
      | _, _, _ => none
    | _, _ => none
  | _ => none
/-- is the operation wanted? -/
def guardIs (ops : Array Oper) (M : List Fact) : Option (Nat × Bool) → Option Bool
  | none => some true
  | some (g, b) => match (ops[g]?).bind (·.dst) with
    | some s => match look M s with | some (.im (.bool c)) => some (c == b) | some (.im (.tuple _)) => some false | _ => none
    | none => none
def opA (E : Env) (ops : Array Oper) (M : List Fact) (o : Oper) : Say :=
  match guardIs ops M o.guard with
  | some true => (match o.dst with
    | some d => bif Nat.blt d E.nt then stepA E M d o.op else none
    | none => storeA E M o.op)
  | some false => (match o.dst with
    | some d => bif Nat.blt d E.nt then some ([], [.slot d (.im undef)], none) else none
    | none => none)
  | none => none
theorem guardIs_spec {ops : Array Oper} {M : List Fact} {base : Nat} {β : Nat → Nat × Nat} {a : Act} {w : World} (hM : ∀ φ ∈ M, φ.ok base β a w) {o : Oper} {t : Bool} (h : guardIs ops M o.guard = some t) : Region.wanted o (yielded ops a.tmps) = t := by
  unfold Region.wanted
  cases hg : o.guard with
  | none => rw [hg] at h; cases h; rfl
  | some gb =>
    obtain ⟨g, b⟩ := gb
    rw [hg] at h
    unfold guardIs at h
    simp only at h ⊢
    unfold yielded
    cases hs : (ops[g]?).bind (·.dst) with
    | none => rw [hs] at h; cases h
    | some s =>
      rw [hs] at h
      simp only at h
      cases hl : look M s with
      | none => rw [hl] at h; cases h
      | some v =>
        rw [hl] at h
        have := hM _ (look_mem hl)
        simp only [Fact.ok] at this
        cases v with
        | im u =>
          cases u <;> first | (cases h; done) | skip
          all_goals
            cases h
            simp [this, AV.den]
        | _ => cases h
/-- the world and the value behind an operation that answers a value -/
theorem wp_value {P : Program} {o : Oper} {a : Act} {w w' : World} {K : Act → World → Prop} {Q : Exit → Act → World → Prop} {v : Value} (h : (execOp a.eval o).run P w = .ok (.value v) w') (hK : K (a.put o.dst v) w') : o.wp P a w K Q := by
  unfold Oper.wp
  rw [h]
  exact hK
end Go.Proofs.YtgacpjmggdmgdaaGreat.Ex
namespace Go.Proofs.YtgacpjmggdmgdaaGreat.Ex
set_option linter.unusedVariables false
set_option linter.unusedSimpArgs false
open Go.RowKit

theorem sizeT_spec {P : Program} {t n : Nat} (h : sizeT P t = some n) : ∃ i, P.info? t = some i ∧ i.size = n := by
  unfold sizeT at h
  split at h
  · rename_i i hi; cases h; exact ⟨i, hi, rfl⟩
  · cases h
theorem isRowT_spec {P : Program} {t : Nat} (h : isRowT P t = true) : ∃ d, P.underlying t = some d ∧ d.isRow = true := by
  unfold isRowT at h
  split at h
  · rename_i d hd; exact ⟨d, hd, h⟩
  · cases h
theorem run_sizeOf {P : Program} {t n : Nat} (h : sizeT P t = some n) (w : World) : (sizeOf t).run P w = .ok n w := by
  obtain ⟨i, hi, rfl⟩ := sizeT_spec h
  simp [sizeOf, typeInfo, hi]
theorem range_seg {w : World} {b o : Nat} {l : List At} {i n : Nat} {s : List At} (h : w.rangeAt b o (flat l)) (hs : seg l i n = some s) : w.rangeAt b (o + i) (flat s) := by
  obtain ⟨p, r, e, hp, ht⟩ := seg_spec hs
  intro j v hj
  have hlt : j < (flat s).length := (List.getElem?_eq_some_iff.1 hj).1
  have := h (i + j) v (by
    rw [e, flat_append, flat_append, List.getElem?_append_right (by rw [flat_len, hp]; omega), flat_len, hp, show i + j - i = j by omega, List.getElem?_append_left hlt]
    exact hj)
  rwa [← Nat.add_assoc] at this
theorem seg_size {l : List At} {i n : Nat} {s : List At} (hs : seg l i n = some s) : fsz s = n := by
  obtain ⟨p, r, e, hp, ht⟩ := seg_spec hs
  exact ht
section
variable {E : Env} {base : Nat} {β : Nat → Nat × Nat} {a : Act} {w : World} {M : List Fact} {d : Nat} {o : Oper} {pre : List Prop} {out : List Fact} {kill : Option Nat} {K : Act → World → Prop} {Q : Exit → Act → World → Prop}

/-- a value by a quiet operation -/
theorem quiet_ok (hd : d < a.tmps.size) (hdst : o.dst = some d) (v : AV) (hr : (execOp a.eval o).run E.P w = .ok (.value (v.den β)) w)
    (hK : ∀ β' a' w', PostB base β β' a w (some d) M [.slot d v] none a' w' → K a' w') : o.wp E.P a w K Q :=
  wp_value hr (by rw [hdst]; exact hK _ _ _ (post_pure v hd))
theorem new_ok (hB : base ≤ w.heap.size) (hd : d < a.tmps.size) (hdst : o.dst = some d) (v : AV) (l : List At) (t : TypeId)
    (hr : (execOp a.eval o).run E.P w = .ok (.value (v.den (β1 β d w.heap.size))) (w.alloc (.cells (flat l).toArray t)))
    (hK : ∀ β' a' w', PostB base β β' a w (some d) M [.slot d v, .row d true l] none a' w' → K a' w') : o.wp E.P a w K Q :=
  wp_value hr (by rw [hdst]; exact hK _ _ _ (post_new v l t hd hB))
variable (hC : (∀ φ ∈ M, φ.ok base β a w) ∧ base ≤ w.heap.size ∧ d < a.tmps.size ∧ o.dst = some d)
variable (hK : ∀ β' a' w', PostB base β β' a w (some d) M out kill a' w' → K a' w')
include hC hK

theorem st_move {x : Operand} (ho : o.op = .move x) (h : stepA E M d (.move x) = some (pre, out, kill)) : o.wp E.P a w K Q := by
  obtain ⟨hM, hB, hd, hdst⟩ := hC
  simp only [stepA] at h
  split at h
  · rename_i v hv
    cases h
    exact quiet_ok hd hdst v (by simp [execOp, ho, ev_spec hM hv]) hK
  · cases h
theorem st_assign {x : Operand} (ho : o.op = .assign x) (h : stepA E M d (.assign x) = some (pre, out, kill)) : o.wp E.P a w K Q := by
  obtain ⟨hM, hB, hd, hdst⟩ := hC
  simp only [stepA] at h
  split at h
  · rename_i v hv
    cases h
    exact quiet_ok hd hdst v (by simp [execOp, ho, ev_spec hM hv]) hK
  · cases h
theorem st_pick {c x y : Operand} (ho : o.op = .pick c x y) (h : stepA E M d (.pick c x y) = some (pre, out, kill)) : o.wp E.P a w K Q := by
  obtain ⟨hM, hB, hd, hdst⟩ := hC
  simp only [stepA] at h
  split at h
  · rename_i b v u hc hx hy
    cases h
    refine quiet_ok hd hdst _ ?_ hK
    have hc' : a.eval c = .bool b := ev_spec hM hc
    cases b
    · simp [execOp, ho, hc', ev_spec hM hy, asBool]
    · simp [execOp, ho, hc', ev_spec hM hx, asBool]
  · cases h
theorem st_alloc {t : TypeId} (ho : o.op = .alloc t) (h : stepA E M d (.alloc t) = some (pre, out, kill)) : o.wp E.P a w K Q := by
  obtain ⟨hM, hB, hd, hdst⟩ := hC
  simp only [stepA] at h
  split at h
  · rename_i l hl
    cases h
    unfold zeroA at hl
    split at hl
    · rename_i i hi
      split at hl
      · rename_i z hz
        cases hl
        refine new_ok hB hd hdst _ _ t ?_ hK
        simp [execOp, ho, Instr.alloc, zeroValue, typeInfo, hi, hz, newVar, newRow, AV.den, β1_same, nz_flat]
      · cases hl
    · cases hl
  · cases h
theorem st_box {t : TypeId} {x : Operand} (ho : o.op = .box t x) (h : stepA E M d (.box t x) = some (pre, out, kill)) : o.wp E.P a w K Q := by
  obtain ⟨hM, hB, hd, hdst⟩ := hC
  simp only [stepA] at h
  split at h
  · rename_i v hv
    split at h
    · rename_i p hp
      cases h
      refine new_ok hB hd hdst _ _ t ?_ hK
      have hc := part?_spec hp β
      have he := ev_spec hM hv
      rw [show AV.den (β1 β d w.heap.size) (.pt d 0) = .pointer (some ⟨w.heap.size, 0, none⟩) by simp [AV.den, β1_same]]
      simp [execOp, ho, Instr.box, newVar, newRow, he, hc]
    · cases h
  · cases h
theorem st_build {t : TypeId} {ps : Array (Nat × Operand)} (ho : o.op = .build t ps) (h : stepA E M d (.build t ps) = some (pre, out, kill)) : o.wp E.P a w K Q := by
  obtain ⟨hM, hB, hd, hdst⟩ := hC
  simp only [stepA] at h
  split at h
  · rename_i qs hq
    split at h
    · rename_i l hl
      cases h
      refine quiet_ok hd hdst _ ?_ hK
      have := buildA_spec hM hq hl
      have hb := run_build w t (ps.map fun (i, x) => (i, a.eval x)) _ (by rw [Array.toList_map]; exact this)
      simp [execOp, ho, hb, AV.den, nq_flat]
    · cases h
  · cases h
theorem st_buildSlice {t : TypeId} {n : Nat} {ps : Array (Nat × Operand)} (ho : o.op = .buildSlice t n ps) (h : stepA E M d (.buildSlice t n ps) = some (pre, out, kill)) : o.wp E.P a w K Q := by
  obtain ⟨hM, hB, hd, hdst⟩ := hC
  simp only [stepA] at h
  split at h
  · rename_i qs hq
    split at h
    · rename_i l hl
      cases h
      unfold buildSA at hl
      split at hl
      · rename_i e hu
        split at hl
        · rename_i ie hie
          split at hl
          · rename_i z hz
            cases hc : (Nat.ble (n * ie.size) 4096 && !(Nat.beq (n * ie.size) 0)) <;> rw [hc] at hl
            · cases hl
            · simp only [cond_true] at hl
              simp only [Bool.and_eq_true, Bool.not_eq_true', Nat.ble_eq] at hc
              have hpos : ¬ n * ie.size = 0 := fun e => by rw [e] at hc; exact absurd hc.2 (by decide)
              have hs := fillA_spec hM _ ps.toList qs _ _ hq hl
              rw [zat_flat, Array.toArray_toList] at hs
              refine new_ok hB hd hdst _ _ e ?_ hK
              have hb := run_buildSlice (P := E.P) w t e n (ps.map fun (i, x) => (i, a.eval x)) _ ie z hu hie hz (by omega) hpos (by rw [Array.toList_map]; exact hs)
              simp [execOp, ho, hb, AV.den, β1_same]
          · cases hl
        · cases hl
      · cases hl
    · cases h
  · cases h
theorem st_load {t : TypeId} {x : Operand} (ho : o.op = .load t x) (h : stepA E M d (.load t x) = some (pre, out, kill)) : o.wp E.P a w K Q := by
  obtain ⟨hM, hB, hd, hdst⟩ := hC
  simp only [stepA] at h
  split at h
  · rename_i k i hx
    split at h
    · rename_i ow l n hr hs ht
      split at h
      · rename_i s hg
        cases h
        obtain ⟨i', hi, hn⟩ := sizeT_spec hs
        obtain ⟨ds, hu, hd'⟩ := isRowT_spec ht
        obtain ⟨h1, h2, _⟩ := hM _ (rowOf_mem hr)
        refine quiet_ok hd hdst _ ?_ hK
        have := run_loadAt_mid (P := E.P) w _ _ t (flat s) ds (range_seg h2 hg) hu hd' (by rw [hi]; simp [flat_len, seg_size hg, hn])
        have hx' : a.eval x = .pointer (some ⟨(β k).1, (β k).2 + i, none⟩) := ev_spec hM hx
        simp [execOp, ho, hx', this, AV.den]
      · cases h
    · cases h
  · cases h
theorem st_field {s : TypeId} {x : Operand} {i : Nat} (ho : o.op = .fieldAddr s x i) (h : stepA E M d (.fieldAddr s x i) = some (pre, out, kill)) : o.wp E.P a w K Q := by
  obtain ⟨hM, hB, hd, hdst⟩ := hC
  simp only [stepA] at h
  split at h
  · rename_i k j fs hx hu
    split at h
    · rename_i f hf
      split at h
      · rename_i n hn
        cases hb : Nat.beq n 0 <;> rw [hb] at h
        · cases h
          refine quiet_ok hd hdst _ ?_ hK
          have hx' : a.eval x = .pointer (some ⟨(β k).1, (β k).2 + j, none⟩) := ev_spec hM hx
          have hz : n ≠ 0 := fun e => by rw [e] at hb; cases hb
          simp [execOp, ho, hx', Instr.fieldAt, run_underlying hu, hf, Instr.sureAddr, fieldPlace, run_sizeOf hn, hz, AV.den, Addr.add_mid, Nat.add_assoc]
        · cases h
      · cases h
    · cases h
  · cases h
theorem st_indexAddr {t : TypeId} {x y : Operand} (ho : o.op = .indexAddr t x y) (h : stepA E M d (.indexAddr t x y) = some (pre, out, kill)) : o.wp E.P a w K Q := by
  obtain ⟨hM, hB, hd, hdst⟩ := hC
  simp only [stepA] at h
  split at h
  · rename_i k j kd i hx hy
    have hx' : a.eval x = .pointer (some ⟨(β k).1, (β k).2 + j, none⟩) := ev_spec hM hx
    have hy' : a.eval y = .int kd (Int.ofNat i) := ev_spec hM hy
    split at h
    · rename_i n e hu
      split at h
      · rename_i s hs
        cases hb : Nat.blt i n <;> rw [hb] at h
        · cases h
        · cases h
          have hi : i < n := by simpa using hb
          refine quiet_ok hd hdst _ ?_ hK
          simp [execOp, ho, hx', hy', Instr.indexAt, asIntOf, run_underlying hu, Instr.sureAddr, run_sizeOf hs, hi, AV.den, Addr.add_mid, Nat.add_assoc]
      · cases h
    · cases h
  · rename_i k j n m kd i hx hy
    have hx' : a.eval x = .slice (some ⟨(β k).1, (β k).2 + j, none⟩) n m := ev_spec hM hx
    have hy' : a.eval y = .int kd (Int.ofNat i) := ev_spec hM hy
    split at h
    · rename_i e hu
      split at h
      · rename_i s hs
        cases hb : Nat.blt i n <;> rw [hb] at h
        · cases h
        · cases h
          have hi : i < n := by simpa using hb
          refine quiet_ok hd hdst _ ?_ hK
          simp [execOp, ho, hx', hy', Instr.indexAt, asIntOf, run_underlying hu, Instr.sureAddr, run_sizeOf hs, hi, AV.den, Addr.add_mid, Nat.add_assoc]
      · cases h
    · cases h
  · cases h
theorem st_index {t : TypeId} {x y : Operand} (ho : o.op = .index t x y) (h : stepA E M d (.index t x y) = some (pre, out, kill)) : o.wp E.P a w K Q := by
  obtain ⟨hM, hB, hd, hdst⟩ := hC
  simp only [stepA] at h
  split at h
  · rename_i l kd i hx hy
    have hx' : a.eval x = .agg (flat l).toArray := ev_spec hM hx
    have hy' : a.eval y = .int kd (Int.ofNat i) := ev_spec hM hy
    split at h
    · rename_i n e hu
      split at h
      · rename_i s hs ht
        cases hb : Nat.blt i n <;> rw [hb] at h
        · cases h
        · simp only [cond_true] at h
          split at h
          · rename_i r hr
            cases h
            have hi : i < n := by simpa using hb
            obtain ⟨ds, hu2, hd'⟩ := isRowT_spec ht
            have hagg : (isAgg e).run E.P w = .ok true w := by
              unfold isAgg
              rw [Sem.run_bind, run_underlying hu2 w]
              cases ds <;> simp_all
            obtain ⟨p, r', e1, hp, hr'⟩ := seg_spec hr
            have hex : List.take s (List.drop (i * s) (flat l)) = flat r := by
              rw [e1, flat_append, flat_append]
              rw [List.drop_append, flat_len, hp]
              simp only [Nat.sub_self, List.drop_zero]
              rw [List.drop_of_length_le (by rw [flat_len, hp]; omega), List.nil_append, List.take_append_of_le_length (by rw [flat_len, hr']; omega), List.take_of_length_le (by rw [flat_len, hr']; omega)]
            refine quiet_ok hd hdst _ ?_ hK
            simp [execOp, ho, hx', hy', Instr.index, asIntOf, run_underlying hu, run_sizeOf hs, hi, part, hagg, AV.den, hex]
          · cases h
      · cases h
    · cases h
  · cases h
theorem st_extract {x : Operand} {i : Nat} (ho : o.op = .extract x i) (h : stepA E M d (.extract x i) = some (pre, out, kill)) : o.wp E.P a w K Q := by
  obtain ⟨hM, hB, hd, hdst⟩ := hC
  simp only [stepA] at h
  split at h
  · rename_i l hx
    split at h
    · rename_i t ht
      cases h
      have hx' : a.eval x = .tuple (l.map TV.den).toArray := ev_spec hM hx
      refine quiet_ok hd hdst _ ?_ hK
      simp [execOp, ho, hx', Instr.extract, ht, TV.av_den]
    · cases h
  · cases h
theorem st_slice {t : TypeId} {x : Operand} {lo hi mx : Option Operand} (ho : o.op = .slice t x lo hi mx) (h : stepA E M d (.slice t x lo hi mx) = some (pre, out, kill)) : o.wp E.P a w K Q := by
  obtain ⟨hM, hB, hd, hdst⟩ := hC
  cases lo with
  | some _ => simp only [stepA] at h; cases h
  | none =>
  cases mx with
  | some _ => simp only [stepA] at h; cases h
  | none =>
  simp only [stepA] at h
  split at h
  · rename_i k j n e hx hu
    have hx' : a.eval x = .pointer (some ⟨(β k).1, (β k).2 + j, none⟩) := ev_spec hM hx
    split at h
    · rename_i s hs
      cases hi with
      | none =>
        cases h
        refine quiet_ok hd hdst _ ?_ hK
        by_cases hn : n = 0 <;> simp [execOp, ho, hx', Instr.sliceAt, Instr.sureAddr, run_underlying hu, Instr.sliceBounds, run_sizeOf hs, AV.den, Addr.add_mid, hn]
      | some y =>
        simp only at h
        split at h
        · rename_i kd i hy
          have hy' : a.eval y = .int kd (Int.ofNat i) := ev_spec hM hy
          cases hb : Nat.ble i n <;> rw [hb] at h
          · cases h
          · cases h
            have hi : i ≤ n := by simpa using hb
            refine quiet_ok hd hdst _ ?_ hK
            by_cases hn : n = 0
            · subst hn
              have hi0 : i = 0 := Nat.le_zero.1 hi
              subst hi0
              simp [execOp, ho, hx', hy', Instr.sliceAt, Instr.sureAddr, run_underlying hu, Instr.sliceBounds, Instr.sliceBound, asIntOf, run_sizeOf hs, AV.den, Addr.add_mid, hi]
            · simp [execOp, ho, hx', hy', Instr.sliceAt, Instr.sureAddr, run_underlying hu, Instr.sliceBounds, Instr.sliceBound, asIntOf, run_sizeOf hs, AV.den, Addr.add_mid, hn, hi]
        · cases h
    · cases h
  · cases h
theorem st_unOp {op : UnOp} {t : TypeId} {x : Operand} (ho : o.op = .unOp op t x) (h : stepA E M d (.unOp op t x) = some (pre, out, kill)) (hp : allP pre) : o.wp E.P a w K Q := by
  obtain ⟨hM, hB, hd, hdst⟩ := hC
  simp only [stepA] at h
  split at h
  · rename_i b hb
    have hb' : a.eval x = .bool b := ev_spec hM hb
    have hrun : (execOp a.eval o).run E.P w = .ok (.value (.bool (!b))) w := by simp [execOp, ho, hb', Op.unary]
    split at h
    · rename_i v hv
      cases h
      exact quiet_ok hd hdst (.im v) (by rw [show AV.den β (.im v) = v from rfl, ← hp.1]; exact hrun) hK
    · cases h
      exact quiet_ok hd hdst (.im (.bool (!b))) hrun hK
  · cases h
theorem st_binOp {op : BinOp} {t t2 : TypeId} {x y : Operand} (hq : EqOk E.P E.q) (ho : o.op = .binOp op t x y t2) (h : stepA E M d (.binOp op t x y t2) = some (pre, out, kill)) (hp : allP pre) : o.wp E.P a w K Q := by
  obtain ⟨hM, hB, hd, hdst⟩ := hC
  simp only [stepA] at h
  split at h
  · rename_i v u hx hy
    have hx' := ev_spec hM hx
    have hy' := ev_spec hM hy
    unfold binA at h
    split at h
    · rename_i k p k' q
      split at h
      · rename_i hk
        subst hk
        have hfin : ∀ r, intOp op k p q = some r → (execOp a.eval o).run E.P w = .ok (.value r) w := fun r hr => by
          simp only [AV.den] at hx' hy'
          cases op <;> simp only [intOp] at hr <;> first | (cases hr; done) | skip
          all_goals first
            | (cases hr; simp [execOp, ho, hx', hy', eqGuard, binOp, Op.intArith, Op.intCmp]; done)
            | (by_cases hz : q = 0
               · rw [if_pos hz] at hr; cases hr
               · rw [if_neg hz] at hr; cases hr
                 simp [execOp, ho, hx', hy', eqGuard, binOp, Op.intDiv, hz])
        split at h
        · rename_i r hr
          cases h
          exact quiet_ok hd hdst (.im r) (hfin r hp.1) hK
        · split at h
          · rename_i r hr
            cases h
            exact quiet_ok hd hdst (.im r) (hfin r hr) hK
          · cases h
      · cases h
    · rename_i p q
      simp only [AV.den] at hx' hy'
      split at h
      · rename_i hu
        cases op <;> simp only at h <;> first | (cases h; done) | skip
        all_goals cases h
        · refine quiet_ok hd hdst (.im (.bool (p == q))) ?_ hK
          simp [execOp, ho, hx', hy', eqGuard, binOp, run_equal_bool w t p q hu, AV.den]
        · refine quiet_ok hd hdst (.im (.bool (p != q))) ?_ hK
          simp [execOp, ho, hx', hy', eqGuard, binOp, run_equal_bool w t p q hu, AV.den]
          cases p <;> cases q <;> rfl
      · cases h
    · rename_i l m
      simp only [AV.den] at hx' hy'
      cases hN : (l.all isN && m.all isN) <;> rw [hN] at h
      · cases h
      · simp only [cond_true] at h
        rw [Bool.and_eq_true] at hN
        cases hh : E.hint d <;> rw [hh] at h <;> simp only [cond_true, cond_false] at h
        · split at h
          · rename_i n hn
            cases hb : (Nat.beq (fsz l) n && Nat.beq (fsz m) n) <;> rw [hb] at h
            · cases h
            · simp only [cond_true] at h
              rw [Bool.and_eq_true] at hb
              obtain ⟨hg, he⟩ := hq.2 t n hn
              have he' := he l m w (Nat.eq_of_beq_eq_true hb.1) (Nat.eq_of_beq_eq_true hb.2) hN.1 hN.2
              cases op <;> simp only at h <;> first | (cases h; done) | skip
              all_goals cases h
              all_goals refine quiet_ok hd hdst _ ?_ hK
              all_goals simp only [execOp, ho, hx', hy', Sem.run_bind, run_eqGuard_agg w _ t x y _ _ hg, run_eql_struct, run_neq_struct, Result.andThen_ok, Sem.run_pure, AV.den]
              · rw [he' hp.1]; rfl
              · rw [he' hp.1]; rfl
          · cases h
        · split at h
          · rename_i n hn
            cases hb : (Nat.beq (fsz l) n && Nat.beq (fsz m) n) <;> rw [hb] at h
            · cases h
            · simp only [cond_true] at h
              rw [Bool.and_eq_true] at hb
              obtain ⟨hg, he⟩ := hq.1 t n hn
              have he' := he l w (Nat.eq_of_beq_eq_true hb.1) hN.1
              cases op <;> simp only at h <;> first | (cases h; done) | skip
              all_goals cases h
              all_goals refine quiet_ok hd hdst _ ?_ hK
              all_goals have hp1 := hp.1
              all_goals simp only [execOp, ho, hx', hy', ← hp1, Sem.run_bind, run_eqGuard_agg w _ t x y _ _ hg, run_eql_struct, run_neq_struct, Result.andThen_ok, Sem.run_pure, AV.den]
              · rw [he']; rfl
              · rw [he']; rfl
          · cases h
    · cases h
  · cases h
theorem st_call {c : Call} (hT : ∀ d, TabOk E.P (E.T d)) (ho : o.op = .call c) (h : stepA E M d (.call c) = some (pre, out, kill)) (hp : allP pre) : o.wp E.P a w K Q := by
  obtain ⟨hM, hB, hd, hdst⟩ := hC
  simp only [stepA] at h
  split at h
  · rename_i hc
    split at h
    · rename_i x t hx ht
      split at h
      · rename_i k j n m e hx1 hu
        cases h
        have hx' : a.eval x = .slice (some ⟨(β k).1, (β k).2 + j, none⟩) n m := ev_spec hM hx1
        have e1 : c.args = #[x] := by rw [← Array.toArray_toList (xs := c.args), hx]
        have e2 : c.argTypes = #[t] := by rw [← Array.toArray_toList (xs := c.argTypes), ht]
        refine quiet_ok hd hdst _ ?_ hK
        simp [execOp, ho, resolve, hc, e1, e2, invoke, builtin, hx', Builtin.len_, run_underlying hu, AV.den]
      · cases h
    · cases h
  · rename_i f hc
    split at h
    · rename_i id first captured hf
      cases hb : (Nat.beq first.size 0 && Nat.beq captured.size 0) <;> rw [hb] at h
      · cases h
      · simp only [cond_true] at h
        simp only [Bool.and_eq_true] at hb
        have z1 : first = #[] := Array.size_eq_zero_iff.1 (Nat.eq_of_beq_eq_true hb.1)
        have z2 : captured = #[] := Array.size_eq_zero_iff.1 (Nat.eq_of_beq_eq_true hb.2)
        subst z1; subst z2
        split at h
        · rename_i l hl
          split at h
          · rename_i cs hcs
            split at h
            · rename_i pre' r hr
              cases h
              obtain ⟨h1, h2⟩ := hT _ _ _ _ _ hr hp
              have hf' : a.eval f = .func (.func id) #[] #[] := ev_spec hM hf
              have hargs := evs_spec hM hl
              have hcas := argsA_spec hM hcs
              have hcall := h2 _ w hcas
              have ea : c.args.map a.eval = (l.map (AV.den β)).toArray := by rw [← Array.toArray_toList (xs := c.args.map a.eval), Array.toList_map, hargs]
              unfold Oper.wp
              have hrun : (execOp a.eval o).run E.P w = .ok (.enter id (l.map (AV.den β)).toArray) w := by
                simp [execOp, ho, resolve, hc, Deferred.ofValue, hf', invoke, ea, h1]
              rw [hrun]
              refine Calls.mono hcall ?_
              rintro e w' ⟨rfl, hbl⟩
              show K _ _
              rw [hdst, ← RV.av_den β r]
              exact hK _ _ _ (post_call r.av hd hB hbl)
            · cases h
          · cases h
        · cases h
    · cases h
  · cases h
end
end Go.Proofs.YtgacpjmggdmgdaaGreat.Ex
namespace Go.Proofs.YtgacpjmggdmgdaaGreat.Ex
set_option linter.unusedVariables false
set_option linter.unusedSimpArgs false
open Go.RowKit

section
variable {E : Env} {base : Nat} {β : Nat → Nat × Nat} {a : Act} {w : World} {M : List Fact} {d : Nat} {o : Oper} {pre : List Prop} {out : List Fact} {kill : Option Nat} {K : Act → World → Prop} {Q : Exit → Act → World → Prop}

theorem step_sound (hT : ∀ d, TabOk E.P (E.T d)) (hq : EqOk E.P E.q) (hM : ∀ φ ∈ M, φ.ok base β a w) (hB : base ≤ w.heap.size) (hd : d < a.tmps.size) (hdst : o.dst = some d)
    (hK : ∀ β' a' w', PostB base β β' a w (some d) M out kill a' w' → K a' w') (h : stepA E M d o.op = some (pre, out, kill)) (hp : allP pre) : o.wp E.P a w K Q := by
  generalize ho : o.op = op at h
  cases op with
  | move x => exact st_move ⟨hM, hB, hd, hdst⟩ hK ho h
  | assign x => exact st_assign ⟨hM, hB, hd, hdst⟩ hK ho h
  | pick c x y => exact st_pick ⟨hM, hB, hd, hdst⟩ hK ho h
  | alloc t => exact st_alloc ⟨hM, hB, hd, hdst⟩ hK ho h
  | box t x => exact st_box ⟨hM, hB, hd, hdst⟩ hK ho h
  | build t ps => exact st_build ⟨hM, hB, hd, hdst⟩ hK ho h
  | buildSlice t n ps => exact st_buildSlice ⟨hM, hB, hd, hdst⟩ hK ho h
  | load t x => exact st_load ⟨hM, hB, hd, hdst⟩ hK ho h
  | fieldAddr s x i => exact st_field ⟨hM, hB, hd, hdst⟩ hK ho h
  | indexAddr t x y => exact st_indexAddr ⟨hM, hB, hd, hdst⟩ hK ho h
  | index t x y => exact st_index ⟨hM, hB, hd, hdst⟩ hK ho h
  | extract x i => exact st_extract ⟨hM, hB, hd, hdst⟩ hK ho h
  | slice t x lo hi mx => exact st_slice ⟨hM, hB, hd, hdst⟩ hK ho h
  | binOp op t x y t2 => exact st_binOp ⟨hM, hB, hd, hdst⟩ hK hq ho h hp
  | unOp op t x => exact st_unOp ⟨hM, hB, hd, hdst⟩ hK ho h hp
  | call c => exact st_call ⟨hM, hB, hd, hdst⟩ hK hT ho h hp
  | _ => simp only [stepA] at h; cases h
theorem scal_one {v : Value} (h : isScal v = true) : v.oneCell' = true := by cases v <;> first | rfl | cases h
theorem flat_one : ∀ {p : List At}, p.all cOk = true → ∀ v ∈ flat p, v.oneCell' = true
  | [], _, v, hv => by cases hv
  | x :: r, h, v, hv => by
    rw [List.all_cons, Bool.and_eq_true] at h
    rcases List.mem_append.1 hv with hv | hv
    · cases x with
      | f x => simp only [At.cells, w4, List.mem_cons, List.not_mem_nil, or_false] at hv; rcases hv with rfl | rfl | rfl | rfl <;> rfl
      | q x => simp only [At.cells, w4, List.mem_cons, List.not_mem_nil, or_false] at hv; rcases hv with rfl | rfl | rfl | rfl <;> rfl
      | c u => cases List.mem_singleton.1 hv; exact scal_one h.1
    · exact flat_one h.2 v hv
theorem setCells_size (b : Nat) : ∀ (vs : List Value) (o : Nat) (w : World), (w.setCells b o vs).heap.size = w.heap.size
  | [], _, _ => rfl
  | v :: r, o, w => by rw [World.setCells, setCells_size b r]; simp [World.setCell]
theorem setCells_below {B b : Nat} (hb : B ≤ b) : ∀ (vs : List Value) (o : Nat) (w0 w : World), Below B w0 w → Below B w0 (w.setCells b o vs)
  | [], _, _, _, h => h
  | v :: r, o, w0, w, h => setCells_below hb r (o + 1) w0 _ (h.setCell hb v)
theorem store_sound (hM : ∀ φ ∈ M, φ.ok base β a w) (hB : base ≤ w.heap.size) (hdst : o.dst = none)
    (hK : ∀ β' a' w', PostB base β β' a w none M out kill a' w' → K a' w') (h : storeA E M o.op = some (pre, out, kill)) : o.wp E.P a w K Q := by
  generalize ho : o.op = op at h
  cases op with
  | store t x y =>
    simp only [storeA] at h
    split at h
    · rename_i k i v hx hy
      split at h
      · rename_i p l n hv hr hs
        cases hb : (Nat.beq n (fsz p) && p.all cOk) <;> rw [hb] at h
        · cases h
        · simp only [cond_true] at h
          simp only [Bool.and_eq_true] at hb
          split at h
          · rename_i l' hl
            cases h
            have hn := Nat.eq_of_beq_eq_true hb.1
            obtain ⟨ii, hi, hin⟩ := sizeT_spec hs
            obtain ⟨h1, h2, h3, _⟩ := hM _ (rowOf_mem hr)
            obtain ⟨h4, h5, h6⟩ := h3 rfl
            obtain ⟨A, m, s, e1, e2, e3, e4⟩ := put_spec hl
            have hx' : a.eval x = .pointer (some ⟨(β k).1, (β k).2 + i, none⟩) := ev_spec hM hx
            rw [h5, Nat.zero_add] at hx'
            rw [h5] at h2
            have hsz : (flat p).length = n := by rw [flat_len, hn]
            have hth : w.there (β k).1 i (flat p).toArray.size := fun j hj => by
              have hj' : j < fsz m := by rw [e4, ← flat_len]; simpa using hj
              refine ⟨?_, h6 _⟩
              have := h2 (i + j) ((flat m)[j]'(by rw [flat_len]; exact hj')) (by
                rw [e1, flat_append, flat_append, List.getElem?_append_right (by rw [flat_len, e3]; omega), flat_len, e3, show i + j - i = j by omega, List.getElem?_append_left (by rw [flat_len]; exact hj')]
                exact List.getElem?_eq_getElem _)
              rw [Nat.zero_add] at this
              rw [this]; rfl
            have hst := run_storeVar_mid (P := E.P) w (β k).1 i t (flat p).toArray hth (by rw [hi]; simp [hin, hsz]) (all_oneCell_toArray (flat_one hb.2))
            have hst2 : (storeVar t ⟨(β k).1, i, none⟩ (v.den β)).run E.P w = .ok () (w.setCells (β k).1 i (flat p)) := by
              have hc := part?_spec hv β
              unfold storeVar at hst ⊢
              rw [hc]
              exact hst
            have hrun : (execOp a.eval o).run E.P w = .ok .skip (w.setCells (β k).1 i (flat p)) := by
              simp [execOp, ho, Instr.storeAt, hx', Instr.sureAddr, ev_spec hM hy, hst2]
            unfold Oper.wp
            rw [hrun]
            show K (a.put o.dst undef) _
            rw [hdst]
            refine hK β a _ ⟨rfl, rfl, fun _ _ => rfl, fun _ _ => rfl, by rw [setCells_size]; exact Nat.le_refl _, fun q hq hk => ⟨?_, World.frozen?_setCells _ _ _ _ _⟩, fun w0 h => setCells_below h4 _ _ _ _ h, fun φ hφ => ?_, fun k' l1 hk => ?_, fun k1 k2 l1 l2 hk hk' => ?_, fun k' hk => ?_⟩
            · exact World.cell?_setCells_out _ _ _ _ _ fun e _ => absurd e (hk k rfl)
            · cases List.mem_singleton.1 hφ
              refine ⟨by rw [setCells_size]; exact h1, ?_, fun _ => ⟨h4, h5, fun j => by rw [World.frozen?_setCells]; exact h6 j⟩, fun h => by cases h⟩
              rw [h5, e2]
              intro j u hj
              rw [Nat.zero_add]
              by_cases c1 : j < i
              · rw [World.cell?_setCells_out _ _ _ _ _ (fun _ _ => Or.inl c1)]
                have := h2 j u (by
                  rw [e1, flat_append, flat_append]
                  rw [List.getElem?_append_left (by rw [flat_len, e3]; exact c1)] at hj ⊢
                  exact hj)
                rwa [Nat.zero_add] at this
              · rw [List.getElem?_append_right (by rw [flat_len, e3]; omega), flat_len, e3] at hj
                by_cases c2 : j < i + n
                · rw [List.getElem?_append_left (by omega)] at hj
                  have := World.cell?_setCells_in (β k).1 (flat p) i w (fun q hq => (hth q (by simpa using hq)).1) (j - i) (by omega)
                  rw [show i + (j - i) = j by omega] at this
                  rw [this, ← hj, List.getElem?_eq_getElem]
                · rw [List.getElem?_append_right (by omega), hsz] at hj
                  rw [World.cell?_setCells_out _ _ _ _ _ (fun _ _ => Or.inr (by simp only []; omega))]
                  have := h2 j u (by
                    rw [e1, flat_append, flat_append, List.getElem?_append_right (by rw [flat_len, e3]; omega), flat_len, e3, List.getElem?_append_right (by rw [flat_len, e4]; omega), flat_len, e4, ← hn]
                    exact hj)
                  rwa [Nat.zero_add] at this
            · cases List.mem_singleton.1 hk
              exact Or.inr ⟨by simp, l, rowOf_mem hr⟩
            · cases List.mem_singleton.1 hk; cases List.mem_singleton.1 hk'; rfl
            · cases hk
              exact ⟨by simp, l, rowOf_mem hr⟩
          · cases h
      · cases h
    · cases h
  | _ => simp only [storeA] at h; cases h
theorem op_sound {ops : Array Oper} (hT : ∀ d, TabOk E.P (E.T d)) (hq : EqOk E.P E.q) (hM : ∀ φ ∈ M, φ.ok base β a w) (hB : base ≤ w.heap.size) (hn : a.tmps.size = E.nt)
    (hK : ∀ β' a' w', PostB base β β' a w o.dst M out kill a' w' → K a' w') (h : opA E ops M o = some (pre, out, kill)) (hp : allP pre) :
    if Region.wanted o (yielded ops a.tmps) = true then o.wp E.P a w K Q else K (a.put o.dst undef) w := by
  unfold opA at h
  split at h
  · rename_i hg
    rw [if_pos (guardIs_spec hM hg)]
    cases hd : o.dst with
    | none =>
      rw [hd] at h
      rw [hd] at hK
      exact store_sound hM hB hd hK h
    | some d =>
      rw [hd] at h
      rw [hd] at hK
      simp only at h
      cases hb : Nat.blt d E.nt <;> rw [hb] at h
      · cases h
      · exact step_sound hT hq hM hB (by rw [hn]; simpa using hb) hd hK h hp
  · rename_i hg
    rw [if_neg (by rw [guardIs_spec hM hg]; simp)]
    cases hd : o.dst with
    | none => rw [hd] at h; cases h
    | some d =>
      rw [hd] at h
      rw [hd] at hK
      simp only at h
      cases hb : Nat.blt d E.nt <;> rw [hb] at h
      · cases h
      · cases h
        exact hK _ _ _ (post_pure (.im undef) (by rw [hn]; simpa using hb))
  · cases h
end
end Go.Proofs.YtgacpjmggdmgdaaGreat.Ex
namespace Go.Proofs.YtgacpjmggdmgdaaGreat.Ex
set_option linter.unusedVariables false
set_option linter.unusedSimpArgs false
open Go.RowKit

def optIs : Option Nat → Nat → Bool
  | some d, s => Nat.beq d s
  | none, _ => false
theorem optIs_iff {d : Option Nat} {s : Nat} : optIs d s = true ↔ d = some s := by
  cases d with
  | none => simp [optIs]
  | some x => simp [optIs]
/-- does the operation turn the fact? -/
def clob (dst kill : Option Nat) : Fact → Bool
  | .slot s v => optIs dst s || (match v.key with | some k => optIs dst k | none => false)
  | .row k _ _ => optIs dst k || optIs kill k
structure Rec where
  M : List (Option Nat × Fact)
  dst : Option Nat
  kill : Option Nat
/-- operation i waits for operation j -/
def dep (draw : Bool) (ops : Array Oper) (i j : Nat) : Bool :=
  bif draw then (match ops[i]? with | some o => o.after.toList.any (fun e => Region.binds .any e && Nat.beq e.on j) | none => false) else Nat.blt j i
def alive (φ : Fact) : List Rec → Nat → Option Nat → Bool
  | [], _, _ => true
  | r :: rs, j, b => (bif (match b with | none => true | some b' => Nat.blt b' j) then !(clob r.dst r.kill φ) else true) && alive φ rs (j + 1) b
def usable (draw : Bool) (ops : Array Oper) (i : Nat) (rs : List Rec) (x : Option Nat × Fact) : Bool :=
  (match x.1 with | none => true | some b => dep draw ops i b) && alive x.2 rs 0 x.1
def tmps : List Operand → List Nat
  | [] => []
  | .tmp s :: r => s :: tmps r
  | _ :: r => tmps r
def slotsOf (ops : Array Oper) (o : Oper) : List Nat :=
  match o.guard with
  | some (g, _) => (match (ops[g]?).bind (·.dst) with | some s => s :: tmps o.op.operands.toList | none => tmps o.op.operands.toList)
  | none => tmps o.op.operands.toList
def reads : Op → Bool
  | .load _ _ => true
  | .store _ _ _ => true
  | .call _ => true
  | _ => false
def keysOf (l : List Nat) : List (Option Nat × Fact) → List Nat
  | [] => []
  | (_, .slot s v) :: r => bif l.any (Nat.beq s) then (match v.key with | some k => k :: keysOf l r | none => keysOf l r) else keysOf l r
  | _ :: r => keysOf l r
def relv (l ks : List Nat) (x : Option Nat × Fact) : Bool :=
  match x.2 with
  | .slot s _ => l.any (Nat.beq s)
  | .row k _ _ => ks.any (Nat.beq k)
/-- the facts that an operation is held against -/
def sel (ops : Array Oper) (o : Oper) (M : List (Option Nat × Fact)) : List (Option Nat × Fact) :=
  match slotsOf ops o with
  | l => match (bif reads o.op then keysOf l M else []) with
    | ks => M.filter (relv l ks)
theorem sel_mem {ops : Array Oper} {o : Oper} {M : List (Option Nat × Fact)} {x : Option Nat × Fact} (h : x ∈ sel ops o M) : x ∈ M := (List.mem_filter.1 h).1
def runR (E : Env) (draw : Bool) (ops : Array Oper) : List Oper → Nat → List (Option Nat × Fact) → List Rec → List Prop → Option (List Prop × List (Option Nat × Fact) × List Rec)
  | [], _, TF, rs, ps => some (ps, TF, rs)
  | o :: rest, i, TF, rs, ps =>
    match sel ops o (TF.filter (usable draw ops i rs)) with
    | M => match opA E ops (M.map (·.2)) o with
      | some (pre, out, kill) => runR E draw ops rest (i + 1) (out.map (fun φ => (some i, φ)) ++ TF) (rs ++ [⟨M, o.dst, kill⟩]) (ps ++ pre)
      | none => none
def allIdx {α : Type} (p : Nat → α → Bool) : Nat → List α → Bool
  | _, [] => true
  | k, x :: r => p k x && allIdx p (k + 1) r
theorem allIdx_spec {α : Type} {p : Nat → α → Bool} : ∀ {l : List α} {k : Nat}, allIdx p k l = true → ∀ i x, l[i]? = some x → p (k + i) x = true
  | [], k, _, i, x, hx => by simp at hx
  | y :: r, k, h, i, x, hx => by
    unfold allIdx at h
    rw [Bool.and_eq_true] at h
    cases i with
    | zero => cases hx; exact h.1
    | succ i =>
      have := allIdx_spec h.2 i x (by simpa using hx)
      rwa [show k + 1 + i = k + (i + 1) by omega] at this
/-- may fact x hold when operation j is done? -/
def bears (draw : Bool) (ops : Array Oper) (x : Option Nat × Fact) (j : Nat) (r : Rec) : Bool :=
  optIs x.1 j || (!(clob r.dst r.kill x.2) || (match x.1 with | some b => dep draw ops b j | none => false))
def chk (draw : Bool) (ops : Array Oper) (rs : List Rec) : Bool :=
  allIdx (fun i r => r.M.all fun x => allIdx (fun j r' => Nat.beq j i || (dep draw ops j i || bears draw ops x j r')) 0 rs) 0 rs
def low (draw : Bool) (ops : Array Oper) : Bool :=
  bif draw then allIdx (fun i (o : Oper) => o.after.toList.all fun e => !(Region.binds .any e) || Nat.blt e.on i) 0 ops.toList else true
def lasts (draw : Bool) (ops : Array Oper) (rs : List Rec) (x : Option Nat × Fact) : Bool := allIdx (fun j r => bears draw ops x j r) 0 rs
def regA (E : Env) (draw : Bool) (ops : Array Oper) (A : List Fact) : Option (List Prop × List Fact) :=
  match runR E draw ops ops.toList 0 (A.map fun φ => (none, φ)) [] [] with
  | some (ps, TF, rs) => bif chk draw ops rs && low draw ops then some (ps, (TF.filter (lasts draw ops rs)).map (·.2)) else none
  | none => none

section
variable {E : Env} {draw : Bool} {ops : Array Oper}
theorem runR_spec : ∀ {rem : List Oper} {i : Nat} {TF TF' : List (Option Nat × Fact)} {rs rs' : List Rec} {ps ps' : List Prop}, runR E draw ops rem i TF rs ps = some (ps', TF', rs') → rs.length = i →
    (∀ x ∈ TF, x ∈ TF') ∧ (∀ x ∈ TF', x ∈ TF ∨ ∃ b, x.1 = some b ∧ i ≤ b ∧ b < i + rem.length) ∧ (allP ps' → allP ps) ∧ (∀ j, j < i → rs'[j]? = rs[j]?) ∧ rs'.length = i + rem.length ∧
    ∀ j o, rem[j]? = some o → ∃ r pre out, rs'[i + j]? = some r ∧ r.dst = o.dst ∧ opA E ops (r.M.map (·.2)) o = some (pre, out, r.kill) ∧ (allP ps' → allP pre) ∧
      (∀ x ∈ r.M, x ∈ TF' ∧ ∀ b, x.1 = some b → dep draw ops (i + j) b = true) ∧ ∀ φ, (some (i + j), φ) ∈ TF' → (some (i + j), φ) ∈ TF ∨ φ ∈ out
  | [], i, TF, TF', rs, rs', ps, ps', h, hl => by
    cases h
    exact ⟨fun _ h => h, fun _ h => Or.inl h, fun h => h, fun _ _ => rfl, by simp [hl], fun j o ho => by simp at ho⟩
  | o :: rest, i, TF, TF', rs, rs', ps, ps', h, hl => by
    unfold runR at h
    simp only at h
    split at h
    · rename_i pre out kill ho
      obtain ⟨h1, h2, h3, h4, h5, h6⟩ := runR_spec h (by simp [hl])
      have hps : allP ps' → allP ps ∧ allP pre := fun h => allP_append.1 (h3 h)
      refine ⟨fun x hx => h1 x (List.mem_append_right _ hx), fun x hx => ?_, fun h => (hps h).1, fun j hj => ?_, by rw [h5]; simp; omega, ?_⟩
      · rcases h2 x hx with hx | ⟨b, hb, hi, hlt⟩
        · rcases List.mem_append.1 hx with hx | hx
          · obtain ⟨φ, _, rfl⟩ := List.mem_map.1 hx
            exact Or.inr ⟨i, rfl, Nat.le_refl _, by simp⟩
          · exact Or.inl hx
        · exact Or.inr ⟨b, hb, by omega, by simp; omega⟩
      · rw [h4 j (by omega), List.getElem?_append_left (by omega)]
      · intro j o' hj
        cases j with
        | zero =>
          cases hj
          refine ⟨_, pre, out, by rw [Nat.add_zero, h4 i (by omega), List.getElem?_append_right (by omega), hl, Nat.sub_self]; rfl, rfl, ho, fun h => (hps h).2, fun x hx => ?_, fun φ hφ => ?_⟩
          · obtain ⟨hx1, hx2⟩ := List.mem_filter.1 (sel_mem hx)
            refine ⟨h1 x (List.mem_append_right _ hx1), fun b hb => ?_⟩
            unfold usable at hx2
            rw [hb] at hx2
            simp only [Bool.and_eq_true] at hx2
            exact hx2.1
          · rcases h2 _ hφ with hx | ⟨b, hb, hi, hlt⟩
            · rcases List.mem_append.1 hx with hx | hx
              · obtain ⟨ψ, hψ, e⟩ := List.mem_map.1 hx
                cases e
                exact Or.inr hψ
              · exact Or.inl hx
            · simp only [Nat.add_zero, Option.some.injEq] at hb
              omega
        | succ j =>
          obtain ⟨r, pre', out', e1, e2, e3, e4, e5, e6⟩ := h6 j o' (by simpa using hj)
          rw [show i + 1 + j = i + (j + 1) by omega] at e1 e5 e6
          refine ⟨r, pre', out', e1, e2, e3, e4, e5, fun φ hφ => ?_⟩
          rcases e6 φ hφ with hx | hx
          · rcases List.mem_append.1 hx with hx | hx
            · obtain ⟨ψ, hψ, e⟩ := List.mem_map.1 hx
              simp only [Prod.mk.injEq, Option.some.injEq] at e
              omega
            · exact Or.inl hx
          · exact Or.inr hx
    · cases h
/-- is the fact there, these operations done? -/
def valid (draw : Bool) (ops : Array Oper) (rs : List Rec) (G : Nat → Prop) (x : Option Nat × Fact) : Prop :=
  (∀ b, x.1 = some b → G b) ∧ ∀ j r, rs[j]? = some r → G j → x.1 ≠ some j → clob r.dst r.kill x.2 = true → ∃ b, x.1 = some b ∧ dep draw ops b j = true
structure Inv (E : Env) (draw : Bool) (ops : Array Oper) (base : Nat) (w0 : World) (TF : List (Option Nat × Fact)) (rs : List Rec) (G : Nat → Prop) (a : Act) (w : World) : Prop where
  defers : a.defers = []
  size : a.tmps.size = E.nt
  below : Below base w0 w
  heap : base ≤ w.heap.size
  closed : ∀ i j, G i → dep draw ops i j = true → G j
  facts : ∃ β : Nat → Nat × Nat, (∀ x ∈ TF, valid draw ops rs G x → x.2.ok base β a w) ∧
    ∀ x ∈ TF, ∀ y ∈ TF, valid draw ops rs G x → valid draw ops rs G y → ∀ k k' l l', x.2 = .row k true l → y.2 = .row k' true l' → k ≠ k' → (β k).1 ≠ (β k').1
theorem keep {base : Nat} {β β' : Nat → Nat × Nat} {a a' : Act} {w w' : World} {dst kill : Option Nat} {M out : List Fact} (hP : PostB base β β' a w dst M out kill a' w') {φ : Fact} (h : φ.ok base β a w) (hc : clob dst kill φ = false)
    (hk : ∀ kk k own l, kill = some kk → φ = .row k own l → (β kk).1 ≠ (β k).1) : φ.ok base β' a' w' := by
  cases φ with
  | slot s v =>
    simp only [clob, Bool.or_eq_false_iff] at hc
    have h1 : dst ≠ some s := fun e => by have := optIs_iff.2 e; rw [hc.1] at this; cases this
    have h2 : ∀ k, v.key = some k → β' k = β k := fun k hv => hP.beta k fun e => by
      have h3 := hc.2
      rw [hv] at h3
      have := optIs_iff.2 e
      simp only at h3
      rw [h3] at this; cases this
    show a'.tmps[s]? = _
    rw [hP.tmps s h1, AV.den_eq v h2]
    exact h
  | row k own l =>
    simp only [clob, Bool.or_eq_false_iff] at hc
    have h1 : dst ≠ some k := fun e => by have := optIs_iff.2 e; rw [hc.1] at this; cases this
    obtain ⟨g1, g2, g3, g4⟩ := h
    have hm : ∀ j, w'.cell? ⟨(β k).1, j, none⟩ = w.cell? ⟨(β k).1, j, none⟩ ∧ w'.frozen? ⟨(β k).1, j, none⟩ = w.frozen? ⟨(β k).1, j, none⟩ := fun j => hP.mem ⟨(β k).1, j, none⟩ g1 fun kk hkk e => hk kk k own l hkk rfl e.symm
    refine ⟨?_, ?_, ?_, ?_⟩ <;> rw [hP.beta k h1]
    · exact Nat.lt_of_lt_of_le g1 hP.heap
    · intro j v hj
      rw [(hm _).1]
      exact g2 j v hj
    · exact fun ho => ⟨(g3 ho).1, (g3 ho).2.1, fun j => by rw [(hm _).2]; exact (g3 ho).2.2 j⟩
    · exact g4
theorem step_inv {base : Nat} {w0 : World} {A : List Fact} {TF : List (Option Nat × Fact)} {rs : List Rec} {ps : List Prop} (hT : ∀ d, TabOk E.P (E.T d)) (hq : EqOk E.P E.q)
    (hrun : runR E draw ops ops.toList 0 (A.map fun φ => (none, φ)) [] [] = some (ps, TF, rs)) (hps : allP ps) (hchk : chk draw ops rs = true) {Q : Exit → Act → World → Prop}
    {G : Nat → Prop} {a : Act} {w : World} (hI : Inv E draw ops base w0 TF rs G a w) {i : Nat} {o : Oper} (ho : ops[i]? = some o) (hi : ¬ G i) (hdeps : ∀ j, dep draw ops i j = true → G j) :
    if Region.wanted o (yielded ops a.tmps) = true then o.wp E.P a w (Inv E draw ops base w0 TF rs (fun j => j = i ∨ G j)) Q else Inv E draw ops base w0 TF rs (fun j => j = i ∨ G j) (a.put o.dst undef) w := by
  obtain ⟨_, _, _, _, _, hops⟩ := runR_spec hrun rfl
  obtain ⟨r, pre, out, hr, hdst, hop, hpre, hM, hborn⟩ := hops i o (by simpa using ho)
  rw [Nat.zero_add] at hr hM hborn
  obtain ⟨β, hok, hinj⟩ := hI.facts
  have hMv : ∀ x ∈ r.M, valid draw ops rs G x := fun x hx => by
    refine ⟨fun b hb => hdeps b ((hM x hx).2 b hb), fun j r' hj hG hne hcl => ?_⟩
    have h1 := allIdx_spec hchk i r hr
    rw [List.all_eq_true] at h1
    have h2 := allIdx_spec (h1 x hx) j r' hj
    rw [Nat.zero_add, Nat.zero_add] at h2
    rw [Bool.or_eq_true, Bool.or_eq_true] at h2
    rcases h2 with h2 | h2 | h2
    · exact absurd (Nat.eq_of_beq_eq_true h2 ▸ hG) hi
    · exact absurd (hI.closed j i hG h2) hi
    · unfold bears at h2
      rw [Bool.or_eq_true, Bool.or_eq_true, hcl] at h2
      rcases h2 with h2 | h2 | h2
      · exact absurd (optIs_iff.1 h2) hne
      · cases h2
      · split at h2
        · rename_i b hb; exact ⟨b, hb, h2⟩
        · cases h2
  refine op_sound (ops := ops) hT hq (M := r.M.map (·.2)) (out := out) (kill := r.kill) (β := β) (base := base) (fun φ hφ => ?_) hI.heap hI.size (fun β' a' w' hP => ?_) hop (hpre hps)
  · obtain ⟨x, hx, rfl⟩ := List.mem_map.1 hφ
    exact hok x (hM x hx).1 (hMv x hx)
  -- what was valid and is not born now is kept
  have hrowM : ∀ k l0, Fact.row k true l0 ∈ r.M.map (·.2) → ∃ x ∈ TF, valid draw ops rs G x ∧ x.2 = .row k true l0 := fun k l0 h => by
    obtain ⟨x, hx, e⟩ := List.mem_map.1 h
    exact ⟨x, (hM x hx).1, hMv x hx, e⟩
  have hkill : ∀ x ∈ TF, valid draw ops rs G x → clob o.dst r.kill x.2 = false → ∀ kk k own l, r.kill = some kk → x.2 = .row k own l → (β kk).1 ≠ (β k).1 := fun x hx hv hc kk k own l hkk hφ => by
    obtain ⟨_, l0, hl0⟩ := hP.kills kk hkk
    obtain ⟨y, hy, hyv, hye⟩ := hrowM kk l0 hl0
    have hne : kk ≠ k := fun e => by
      rw [hφ] at hc
      simp only [clob, Bool.or_eq_false_iff] at hc
      have := optIs_iff.2 (e ▸ hkk : r.kill = some k)
      rw [hc.2] at this; cases this
    cases own with
    | true => exact hinj y hy x hx hyv hv kk k l0 l hye hφ hne
    | false =>
      have h1 := hok y hy hyv
      rw [hye] at h1
      have h2 := hok x hx hv
      rw [hφ] at h2
      have := (h1.2.2.1 rfl).1
      have := h2.2.2.2 rfl
      omega
  have hold : ∀ x ∈ TF, valid draw ops rs (fun j => j = i ∨ G j) x → x.1 ≠ some i → valid draw ops rs G x ∧ clob o.dst r.kill x.2 = false := fun x hx hv hne => by
    refine ⟨⟨fun b hb => (hv.1 b hb).resolve_left fun e => hne (by rw [hb, e]), fun j r' hj hG => hv.2 j r' hj (Or.inr hG)⟩, ?_⟩
    cases hc : clob o.dst r.kill x.2 with
    | false => rfl
    | true =>
      obtain ⟨b, hb, hd⟩ := hv.2 i r hr (Or.inl rfl) hne (by rw [hdst]; exact hc)
      exact absurd (hI.closed b i ((hv.1 b hb).resolve_left fun e => hne (by rw [hb, e])) hd) hi
  have hnew : ∀ x ∈ TF, x.1 = some i → x.2 ∈ out := fun x hx e => by
    obtain ⟨b, φ⟩ := x
    simp only at e
    subst e
    rcases hborn φ hx with h | h
    · obtain ⟨ψ, _, e⟩ := List.mem_map.1 h
      cases e
    · exact h
  have hβ : ∀ x ∈ TF, valid draw ops rs (fun j => j = i ∨ G j) x → x.1 ≠ some i → ∀ k own l, x.2 = .row k own l → β' k = β k := fun x hx hv hne k own l hφ => by
    obtain ⟨_, hc⟩ := hold x hx hv hne
    rw [hφ] at hc
    simp only [clob, Bool.or_eq_false_iff] at hc
    exact hP.beta k fun e => by have := optIs_iff.2 e; rw [hc.1] at this; cases this
  -- a new row against an old one
  have hno : ∀ x ∈ TF, ∀ y ∈ TF, x.1 = some i → valid draw ops rs (fun j => j = i ∨ G j) y → y.1 ≠ some i → ∀ k k' l l', x.2 = .row k true l → y.2 = .row k' true l' → k ≠ k' → (β' k).1 ≠ (β' k').1 := fun x hx y hy hxi hyv hyi k k' l l' hxe hye hkk => by
    obtain ⟨hyo, _⟩ := hold y hy hyv hyi
    rw [hβ y hy hyv hyi k' true l' hye]
    have h1 := hnew x hx hxi
    rw [hxe] at h1
    rcases hP.rows k l h1 with ⟨h2, _⟩ | ⟨h2, l0, h3⟩
    · have h4 := hok y hy hyo
      rw [hye] at h4
      have := h4.1
      omega
    · obtain ⟨z, hz, hzv, hze⟩ := hrowM k l0 h3
      rw [hP.beta k h2]
      exact hinj z hz y hy hzv hyo k k' l0 l' hze hye hkk
  refine ⟨by rw [hP.defers]; exact hI.defers, by rw [hP.size]; exact hI.size, hP.below w0 hI.below, Nat.le_trans hI.heap hP.heap, ?_, β', ?_, ?_⟩
  · intro p q hp hpq
    rcases hp with rfl | hp
    · exact Or.inr (hdeps q hpq)
    · exact Or.inr (hI.closed p q hp hpq)
  · intro x hx hv
    by_cases e : x.1 = some i
    · exact hP.ok _ (hnew x hx e)
    · obtain ⟨h1, h2⟩ := hold x hx hv e
      exact keep hP (hok x hx h1) h2 (hkill x hx h1 h2)
  · intro x hx y hy hxv hyv k k' l l' hxe hye hkk
    by_cases e1 : x.1 = some i
    · by_cases e2 : y.1 = some i
      · have h1 := hnew x hx e1
        have h2 := hnew y hy e2
        rw [hxe] at h1
        rw [hye] at h2
        exact absurd (hP.one k k' l l' h1 h2) hkk
      · exact hno x hx y hy e1 hyv e2 k k' l l' hxe hye hkk
    · by_cases e2 : y.1 = some i
      · exact fun e => hno y hy x hx e2 hxv e1 k' k l' l hye hxe (Ne.symm hkk) e.symm
      · rw [hβ x hx hxv e1 k true l hxe, hβ y hy hyv e2 k' true l' hye]
        exact hinj x hx y hy (hold x hx hxv e1).1 (hold y hy hyv e2).1 k k' l l' hxe hye hkk
end
end Go.Proofs.YtgacpjmggdmgdaaGreat.Ex
namespace Go.Proofs.YtgacpjmggdmgdaaGreat.Ex
set_option linter.unusedVariables false
set_option linter.unusedSimpArgs false
open Go.RowKit

/-- the facts hold; nothing below base has turned since w0 -/
structure Holds (nt base : Nat) (w0 : World) (A : List Fact) (a : Act) (w : World) : Prop where
  defers : a.defers = []
  size : a.tmps.size = nt
  below : Below base w0 w
  heap : base ≤ w.heap.size
  facts : ∃ β : Nat → Nat × Nat, (∀ φ ∈ A, φ.ok base β a w) ∧ ∀ k k' l l', Fact.row k true l ∈ A → Fact.row k' true l' ∈ A → k ≠ k' → (β k).1 ≠ (β k').1
theorem Fact.ok_drew {base : Nat} {β : Nat → Nat × Nat} {a : Act} {w : World} {φ : Fact} (h : φ.ok base β a w) : φ.ok base β a w.drew := h
theorem Holds.drew {nt base : Nat} {w0 : World} {A : List Fact} {a : Act} {w : World} (h : Holds nt base w0 A a w) : Holds nt base w0 A a w.drew :=
  ⟨h.defers, h.size, h.below.drew, h.heap, h.facts⟩
section
variable {E : Env} {draw : Bool} {ops : Array Oper} {base : Nat} {w0 : World} {A A' : List Fact} {TF : List (Option Nat × Fact)} {rs : List Rec} {ps : List Prop} {a : Act} {w : World} {Q : Exit → Act → World → Prop}
theorem start_inv (hrun : runR E draw ops ops.toList 0 (A.map fun φ => (none, φ)) [] [] = some (ps, TF, rs)) (h : Holds E.nt base w0 A a w) : Inv E draw ops base w0 TF rs (fun _ => False) a w := by
  obtain ⟨_, h2, _⟩ := runR_spec hrun rfl
  obtain ⟨β, hok, hinj⟩ := h.facts
  have hA : ∀ x ∈ TF, valid draw ops rs (fun _ => False) x → x.2 ∈ A := fun x hx hv => by
    rcases h2 x hx with hx | ⟨b, hb, _⟩
    · obtain ⟨φ, hφ, rfl⟩ := List.mem_map.1 hx
      exact hφ
    · exact (hv.1 b hb).elim
  exact ⟨h.defers, h.size, h.below, h.heap, fun _ _ h => h.elim, β, fun x hx hv => hok _ (hA x hx hv), fun x hx y hy hxv hyv k k' l l' hxe hye hkk => hinj k k' l l' (hxe ▸ hA x hx hxv) (hye ▸ hA y hy hyv) hkk⟩
theorem end_inv (hrun : runR E draw ops ops.toList 0 (A.map fun φ => (none, φ)) [] [] = some (ps, TF, rs)) {G : Nat → Prop} (hG : ∀ i, i < ops.size → G i) (h : Inv E draw ops base w0 TF rs G a w) :
    Holds E.nt base w0 ((TF.filter (lasts draw ops rs)).map (·.2)) a w := by
  obtain ⟨_, h2, _⟩ := runR_spec hrun rfl
  obtain ⟨β, hok, hinj⟩ := h.facts
  have hv : ∀ φ ∈ (TF.filter (lasts draw ops rs)).map (·.2), ∃ x ∈ TF, valid draw ops rs G x ∧ x.2 = φ := fun φ hφ => by
    obtain ⟨x, hx, rfl⟩ := List.mem_map.1 hφ
    obtain ⟨h3, h4⟩ := List.mem_filter.1 hx
    refine ⟨x, h3, ⟨fun b hb => ?_, fun j r hj _ hne hc => ?_⟩, rfl⟩
    · rcases h2 x h3 with h5 | ⟨b', hb', _, hlt⟩
      · obtain ⟨ψ, _, rfl⟩ := List.mem_map.1 h5
        cases hb
      · rw [hb'] at hb
        cases hb
        exact hG b (by simpa using hlt)
    · have h5 := allIdx_spec h4 j r hj
      rw [Nat.zero_add] at h5
      unfold bears at h5
      rw [Bool.or_eq_true, Bool.or_eq_true, hc] at h5
      rcases h5 with h5 | h5 | h5
      · exact absurd (optIs_iff.1 h5) hne
      · cases h5
      · split at h5
        · rename_i b hb; exact ⟨b, hb, h5⟩
        · cases h5
  refine ⟨h.defers, h.size, h.below, h.heap, β, fun φ hφ => ?_, fun k k' l l' hk hk' hne => ?_⟩
  · obtain ⟨x, h1, h2, rfl⟩ := hv φ hφ
    exact hok x h1 h2
  · obtain ⟨x, h1, h2, e1⟩ := hv _ hk
    obtain ⟨y, h3, h4, e2⟩ := hv _ hk'
    exact hinj x h1 y h3 h2 h4 k k' l l' e1 e2 hne
def fr : Nat → Array Bool → Nat
  | 0, _ => 0
  | n + 1, g => fr n g + (bif g.getD n false then 0 else 1)
theorem fr_zero : ∀ {n : Nat} {g : Array Bool}, fr n g = 0 → ∀ i, i < n → g.getD i false = true
  | 0, g, _, i, hi => by omega
  | n + 1, g, h, i, hi => by
    unfold fr at h
    by_cases e : i = n
    · subst e
      cases hb : g.getD i false
      · rw [hb] at h; simp at h
      · rfl
    · exact fr_zero (n := n) (by omega) i (by omega)
theorem getD_set {g : Array Bool} {i j : Nat} (hi : i < g.size) : (g.setIfInBounds i true).getD j false = true ↔ j = i ∨ g.getD j false = true := by
  by_cases e : j = i
  · subst e; simp [Array.getD, hi]
  · have : ¬ i = j := fun h => e h.symm
    simp [Array.getD_eq_getD_getElem?, Array.getElem?_setIfInBounds_ne this, e]
theorem fr_old : ∀ {n : Nat} {g : Array Bool} {i : Nat}, n ≤ i → fr n (g.setIfInBounds i true) = fr n g
  | 0, _, _, _ => rfl
  | n + 1, g, i, h => by
    have : ¬ i = n := by omega
    unfold fr
    rw [fr_old (by omega)]
    simp [Array.getD_eq_getD_getElem?, Array.getElem?_setIfInBounds_ne this]
theorem fr_set : ∀ {n : Nat} {g : Array Bool} {i : Nat}, i < n → i < g.size → g.getD i false = false → fr n (g.setIfInBounds i true) + 1 = fr n g
  | 0, _, _, h, _, _ => by omega
  | n + 1, g, i, h, hs, hg => by
    unfold fr
    by_cases e : i = n
    · subst e
      rw [fr_old (Nat.le_refl _), (getD_set hs).2 (Or.inl rfl), hg]
      simp
    · have h1 := fr_set (n := n) (g := g) (by omega) hs hg
      have h2 : (g.setIfInBounds i true).getD n false = g.getD n false := by
        have : ¬ i = n := e
        simp [Array.getD_eq_getD_getElem?, Array.getElem?_setIfInBounds_ne this]
      rw [h2]; omega
theorem dep_true {i j : Nat} : dep true ops i j = true ↔ ∃ o, ops[i]? = some o ∧ ∃ e ∈ o.after, Region.binds .any e = true ∧ e.on = j := by
  unfold dep
  simp only [cond_true]
  cases ho : ops[i]? with
  | none => simp
  | some o =>
    simp only [List.any_eq_true]
    constructor
    · rintro ⟨e, he, h⟩
      rw [Bool.and_eq_true] at h
      exact ⟨o, rfl, e, by simpa using he, h.1, Nat.eq_of_beq_eq_true h.2⟩
    · rintro ⟨o', e1, e, he, hb, rfl⟩
      cases e1
      exact ⟨e, by simpa using he, by rw [hb]; simp⟩
theorem any_inv (hT : ∀ d, TabOk E.P (E.T d)) (hq : EqOk E.P E.q) (hrun : runR E true ops ops.toList 0 (A.map fun φ => (none, φ)) [] [] = some (ps, TF, rs)) (hps : allP ps) (hchk : chk true ops rs = true) (hlow : low true ops = true)
    (hQ : ∀ a w, Inv E true ops base w0 TF rs (fun i => i < ops.size) a w → Q .normal a w) :
    ∀ (m : Nat) (g : Array Bool) (a : Act) (w : World), g.size = ops.size → fr ops.size g = m → Inv E true ops base w0 TF rs (fun i => g.getD i false = true) a w → wpAny E.P .any ops Q m g a w := by
  have hfin : ∀ (g : Array Bool) (a : Act) (w : World), g.size = ops.size → (∀ i, i < ops.size → g.getD i false = true) → Inv E true ops base w0 TF rs (fun i => g.getD i false = true) a w → Q .normal a w := fun g a w hs hall hI => by
    refine hQ a w ?_
    have : (fun i => g.getD i false = true) = fun i => i < ops.size := funext fun i => propext ⟨fun h => by
      rw [← hs]
      by_cases hi : i < g.size
      · exact hi
      · simp [Array.getD, hi] at h, hall i⟩
    rwa [this] at hI
  have hready : ∀ (g : Array Bool), g.size = ops.size → Region.ready .any ops g = [] → ∀ i, i < ops.size → g.getD i false = true := fun g hs hr i => by
    induction i using Nat.strongRecOn with
    | _ i ih =>
      intro hi
      cases hb : g.getD i false with
      | true => rfl
      | false =>
        exfalso
        have : i ∈ Region.ready .any ops g := by
          refine mem_ready.2 ⟨?_, ops[i], Array.getElem?_eq_getElem hi, fun e he hbi => ?_⟩
          · have : i < g.size := by omega
            simp [Array.getD, this] at hb ⊢
            exact hb
          · unfold low at hlow
            simp only [cond_true] at hlow
            have := allIdx_spec hlow i ops[i] (by simp [hi])
            rw [List.all_eq_true] at this
            have := this e (by simpa using he)
            rw [hbi] at this
            have hlt : e.on < i := by simpa using this
            exact ih e.on hlt (by omega)
        rw [hr] at this
        cases this
  intro m
  induction m with
  | zero =>
    intro g a w hs hf hI
    have hall := fr_zero hf
    refine ⟨?_, hfin g a w hs hall hI⟩
    apply List.eq_nil_iff_forall_not_mem.2
    intro i hi
    obtain ⟨h1, o, ho, _⟩ := mem_ready.1 hi
    have hlt : i < ops.size := (Array.getElem?_eq_some_iff.1 ho).1
    have h2 := hall i hlt
    have : i < g.size := by omega
    simp [Array.getD, this] at h1 h2
    rw [h1] at h2; cases h2
  | succ m ih =>
    intro g a w hs hf hI
    refine ⟨fun hr => hfin g a w hs (hready g hs hr) hI, fun i hi => ?_⟩
    obtain ⟨h1, o, ho, h2⟩ := mem_ready.1 hi
    have hlt : i < ops.size := (Array.getElem?_eq_some_iff.1 ho).1
    have hg : i < g.size := by omega
    have hgi : g.getD i false = false := by
      simp [Array.getD, hg] at h1 ⊢
      exact h1
    have hst := step_inv hT hq hrun hps hchk (Q := Q) hI ho (by rw [hgi]; simp) (fun j hj => by
      obtain ⟨o', ho', e, he, hb, rfl⟩ := dep_true.1 hj
      rw [ho] at ho'
      cases ho'
      exact h2 e he hb)
    unfold wpOp
    rw [ho]
    simp only
    have hnext : ∀ a' w', Inv E true ops base w0 TF rs (fun j => j = i ∨ g.getD j false = true) a' w' → wpAny E.P .any ops Q m (g.setIfInBounds i true) a' w' := fun a' w' h => by
      refine ih _ a' w' (by simp [hs]) (by have := fr_set hlt hg hgi; omega) ?_
      have : (fun j => (g.setIfInBounds i true).getD j false = true) = fun j => j = i ∨ g.getD j false = true := funext fun j => propext (getD_set hg)
      rwa [this]
    by_cases hw : Region.wanted o (yielded ops a.tmps) = true
    · rw [if_pos hw] at hst ⊢
      exact Or.inl (Oper.wp_mono hnext hst)
    · rw [if_neg hw] at hst ⊢
      exact hnext _ _ hst
theorem seq_inv (hT : ∀ d, TabOk E.P (E.T d)) (hq : EqOk E.P E.q) (hrun : runR E false ops ops.toList 0 (A.map fun φ => (none, φ)) [] [] = some (ps, TF, rs)) (hps : allP ps) (hchk : chk false ops rs = true)
    (hQ : ∀ a w, Inv E false ops base w0 TF rs (fun i => i < ops.size) a w → Q .normal a w) :
    ∀ (m k : Nat) (a : Act) (w : World), k + m = ops.size → Inv E false ops base w0 TF rs (fun i => i < k) a w → wpOps E.P ops Q (List.range' k m) a w
  | 0, k, a, w, hk, hI => by
    have : k = ops.size := by omega
    subst this
    exact hQ a w hI
  | m + 1, k, a, w, hk, hI => by
    have hlt : k < ops.size := by omega
    have ho : ops[k]? = some ops[k] := Array.getElem?_eq_getElem hlt
    have hst := step_inv hT hq hrun hps hchk (Q := Q) hI ho (Nat.lt_irrefl k) (fun j hj => by unfold dep at hj; simpa using hj)
    simp only [List.range'_succ, wpOps]
    rw [ho]
    simp only
    have hnext : ∀ a' w', Inv E false ops base w0 TF rs (fun j => j = k ∨ j < k) a' w' → wpOps E.P ops Q (List.range' (k + 1) m) a' w' := fun a' w' h => by
      refine seq_inv hT hq hrun hps hchk hQ m (k + 1) a' w' (by omega) ?_
      have : (fun j => j < k + 1) = fun j => j = k ∨ j < k := funext fun j => propext (by omega)
      rwa [this]
    by_cases hw : Region.wanted ops[k] (yielded ops a.tmps) = true
    · rw [if_pos hw] at hst ⊢
      exact Or.inl (Oper.wp_mono hnext hst)
    · rw [if_neg hw] at hst ⊢
      exact hnext _ _ hst
theorem reg_sound {id : Nat} (hm : E.P.follows .mixedOrders = true) (hT : ∀ d, TabOk E.P (E.T d)) (hq : EqOk E.P E.q) (h : regA E draw ops A = some (ps, A')) (hps : allP ps) (hA : Holds E.nt base w0 A a w)
    (hQ : ∀ a w, Holds E.nt base w0 A' a w → Q .normal a w) : (Code.region id ops draw).wp E.P Q a w := by
  unfold regA at h
  split at h
  · rename_i ps' TF rs hrun
    cases hc : (chk draw ops rs && low draw ops) <;> rw [hc] at h
    · cases h
    · cases h
      rw [Bool.and_eq_true] at hc
      cases draw with
      | false =>
        refine wp_region ?_
        rw [List.range_eq_range']
        exact seq_inv hT hq hrun hps hc.1 (fun a w hI => hQ a w (end_inv hrun (fun _ h => h) hI)) ops.size 0 a w (by omega) (by
          have : (fun i => i < 0) = fun _ : Nat => False := funext fun i => propext ⟨fun h => by omega, fun h => h.elim⟩
          rw [this]
          exact start_inv hrun hA)
      | true =>
        refine wp_region_any hm ?_
        have hsz : ∀ n, fr n (Array.replicate ops.size false) = n := fun n => by
          induction n with
          | zero => rfl
          | succ n ih => unfold fr; rw [ih]; by_cases hn : n < ops.size <;> simp [Array.getD, hn]
        refine any_inv hT hq hrun hps hc.1 hc.2 (fun a w hI => hQ a w (end_inv hrun (fun _ h => h) hI)) ops.size _ a _ (by simp) (hsz _) ?_
        have : (fun i => (Array.replicate ops.size false).getD i false = true) = fun _ : Nat => False := funext fun i => propext (by by_cases hi : i < ops.size <;> simp [Array.getD, hi])
        rw [this]
        exact start_inv hrun hA.drew
  · cases h
end
end Go.Proofs.YtgacpjmggdmgdaaGreat.Ex
namespace Go.Proofs.YtgacpjmggdmgdaaGreat.Ex
set_option linter.unusedVariables false
set_option linter.unusedSimpArgs false
open Go.RowKit

inductive EA | nrm | ex (id : Nat) | rt
def EA.out : EA → Exit
  | .nrm => .normal
  | .ex id => .exit id
  | .rt => .ret
structure Cfg where
  T : Nat → Tab
  hint : Nat → Bool
  num : Nat → Option Value
def mkE (P : Program) (q : EqT) (nt : Nat) (c : Cfg) : Env := ⟨P, c.T, q, c.hint, c.num, nt⟩
/-- code, so much fuel; what the operations are told may hang on what is left of it -/
def run (P : Program) (q : EqT) (nt : Nat) (C : Nat → Cfg) : Nat → Code → List Fact → Option (List Prop × EA × List Fact)
  | 0, _, _ => none
  | n + 1, c, A => match c with
    | .skip => some ([], .nrm, A)
    | .ret => some ([], .rt, A)
    | .exit id => some ([], .ex id, A)
    | .region id ops draw => match regA (mkE P q nt (C n)) draw ops A with | some (p, A') => some (p, .nrm, A') | none => none
    | .seq x y => match run P q nt C n x A with
      | some (p, .nrm, A1) => match run P q nt C n y A1 with | some (p2, e, A2) => some (p ++ p2, e, A2) | none => none
      | r => r
    | .cond c x y => match ev A c with | some (.im (.bool b)) => run P q nt C n (bif b then x else y) A | _ => none
    | .block id x => match run P q nt C n x A with
      | some (p, .ex j, A1) => some (p, bif Nat.beq j id then .nrm else .ex j, A1)
      | r => r
    | .loop x => match run P q nt C n x A with
      | some (p, .nrm, A1) => match run P q nt C n (.loop x) A1 with | some (p2, e, A2) => some (p ++ p2, e, A2) | none => none
      | r => r
    | _ => none
/-- the loop's body, so often at most -/
def Un (P : Program) (c : Code) (Q : Exit → Act → World → Prop) : Nat → Act → World → Prop
  | 0, _, _ => False
  | n + 1, a, w => c.wp P (Exit.then (Un P c Q n) Q) a w
theorem least {p : Nat → Prop} : ∀ n, p n → ∃ m, p m ∧ ∀ k, p k → m ≤ k := fun n h => by
  induction n using Nat.strongRecOn with
  | _ n ih =>
    by_cases hk : ∃ k, k < n ∧ p k
    · obtain ⟨k, h1, h2⟩ := hk
      exact ih k h1 h2
    · exact ⟨n, h, fun k hp => Nat.le_of_not_lt fun hlt => hk ⟨k, hlt, hp⟩⟩
theorem wp_loop_un {P : Program} {c : Code} {Q : Exit → Act → World → Prop} {n : Nat} {a : Act} {w : World} (h : Un P c Q n a w) : (Code.loop c).wp P Q a w := by
  classical
  have hmin : ∀ a w, (∃ n, Un P c Q n a w) → ∃ m, Un P c Q m a w ∧ ∀ k, Un P c Q k a w → m ≤ k := fun a w ⟨n, h⟩ => least n h
  refine wp_loop (fun a w => ∃ n, Un P c Q n a w) (fun a w => if h : ∃ n, Un P c Q n a w then (hmin a w h).choose else 0) ⟨n, h⟩ ?_
  intro a w hI
  have hs := (hmin a w hI).choose_spec
  rw [dif_pos hI]
  generalize (hmin a w hI).choose = m at hs
  cases m with
  | zero => exact hs.1.elim
  | succ m =>
    refine Code.wp_mono (fun e a' w' he => ?_) hs.1
    cases e with
    | normal =>
      have hI' : ∃ n, Un P c Q n a' w' := ⟨m, he⟩
      refine ⟨hI', ?_⟩
      rw [dif_pos hI']
      exact Nat.lt_succ_of_le ((hmin a' w' hI').choose_spec.2 m he)
    | _ => exact he
section
variable {P : Program} {q : EqT} {nt : Nat} {C : Nat → Cfg} {base : Nat} {w0 : World}
theorem run_sound (hm : P.follows .mixedOrders = true) (hT : ∀ n d, TabOk P ((C n).T d)) (hq : EqOk P q) : ∀ (n : Nat) (c : Code) (A A' : List Fact) (ps : List Prop) (e : EA) (a : Act) (w : World) (Q : Exit → Act → World → Prop),
    run P q nt C n c A = some (ps, e, A') → allP ps → Holds nt base w0 A a w → (∀ a w, Holds nt base w0 A' a w → Q e.out a w) → c.wp P Q a w ∧ ∀ x, c = .loop x → Un P x Q n a w
  | 0, c, A, A', ps, e, a, w, Q, h, hps, hA, hQ => by cases h
  | n + 1, c, A, A', ps, e, a, w, Q, h, hps, hA, hQ => by
    cases c with
    | skip => cases h; exact ⟨wp_skip (hQ a w hA), fun x e => by cases e⟩
    | ret => cases h; exact ⟨wp_ret (hQ a w hA), fun x e => by cases e⟩
    | exit id => cases h; exact ⟨wp_exit (hQ a w hA), fun x e => by cases e⟩
    | region id ops draw =>
      refine ⟨?_, fun x e => by cases e⟩
      simp only [run] at h
      split at h
      · rename_i p A1 h1
        cases h
        exact reg_sound (E := mkE P q nt (C n)) hm (hT n) hq h1 hps hA hQ
      · cases h
    | seq x y =>
      refine ⟨?_, fun x e => by cases e⟩
      simp only [run] at h
      split at h
      · rename_i p A1 h1
        split at h
        · rename_i ps2 e2 A2 h2
          cases h
          obtain ⟨p1, p2⟩ := allP_append.1 hps
          refine wp_seq (run_sound hm hT hq n x A A1 p .nrm a w _ h1 p1 hA fun a w hA1 => ?_).1
          exact (run_sound hm hT hq n y A1 A' ps2 e a w Q h2 p2 hA1 hQ).1
        · cases h
      · rename_i r hr
        refine wp_seq (run_sound hm hT hq n x A A' ps e a w _ h hps hA fun a w hA1 => ?_).1
        cases e with
        | nrm => exact (hr _ _ h).elim
        | ex id => exact hQ a w hA1
        | rt => exact hQ a w hA1
    | cond c x y =>
      refine ⟨?_, fun x e => by cases e⟩
      simp only [run] at h
      split at h
      · rename_i b hb
        obtain ⟨β, hok, _⟩ := hA.facts
        have hc : a.eval c = .bool b := ev_spec hok hb
        refine wp_cond hc ?_
        have := (run_sound hm hT hq n _ A A' ps e a w Q h hps hA hQ).1
        cases b <;> exact this
      · cases h
    | block id x =>
      refine ⟨?_, fun x e => by cases e⟩
      simp only [run] at h
      split at h
      · rename_i p j A1 h1
        cases h
        refine wp_block (run_sound hm hT hq n x A A' ps (.ex j) a w _ h1 hps hA fun a w hA1 => ?_).1
        show if j = id then Q .normal a w else Q (.exit j) a w
        cases hj : Nat.beq j id
        · rw [if_neg (fun e => by rw [e] at hj; simp at hj)]
          have := hQ a w hA1
          rw [hj] at this
          exact this
        · rw [if_pos (Nat.eq_of_beq_eq_true hj)]
          have := hQ a w hA1
          rw [hj] at this
          exact this
      · rename_i r hr
        refine wp_block (run_sound hm hT hq n x A A' ps e a w _ h hps hA fun a w hA1 => ?_).1
        cases e with
        | ex id => exact (hr _ _ _ h).elim
        | nrm => exact hQ a w hA1
        | rt => exact hQ a w hA1
    | loop x =>
      have hun : Un P x Q (n + 1) a w := by
        simp only [run] at h
        unfold Un
        split at h
        · rename_i p A1 h1
          split at h
          · rename_i ps2 e2 A2 h2
            cases h
            obtain ⟨p1, p2⟩ := allP_append.1 hps
            refine (run_sound hm hT hq n x A A1 p .nrm a w _ h1 p1 hA fun a w hA1 => ?_).1
            exact (run_sound hm hT hq n (.loop x) A1 A' ps2 e a w Q h2 p2 hA1 hQ).2 x rfl
          · cases h
        · rename_i r hr
          refine (run_sound hm hT hq n x A A' ps e a w _ h hps hA fun a w hA1 => ?_).1
          cases e with
          | nrm => exact (hr _ _ h).elim
          | ex id => exact hQ a w hA1
          | rt => exact hQ a w hA1
      exact ⟨wp_loop_un hun, fun y e => by cases e; exact hun⟩
    | _ => simp only [run] at h; cases h
end
/-- an argument's facts: it lies in slot i -/
def argF : Nat → List CA → List Fact
  | _, [] => []
  | i, .v x :: r => .slot i x.av :: argF (i + 1) r
  | i, .s l n m :: r => .slot i (.sl i 0 n m) :: .row i false l :: argF (i + 1) r
def resT (P : Program) (A : List Fact) : ResultVar → Option TV
  | .tmp t => match look A t with | some (.im v) => some (.im v) | some (.fl l) => some (.fl l) | _ => none
  | .cell t ty => match look A t with
    | some (.pt k o) => match rowOf A k, sizeT P ty, isRowT P ty with
      | some (_, l), some n, true => match seg l o n with | some s => some (.fl s) | none => none
      | _, _, _ => none
    | _ => none
def resTs (P : Program) (A : List Fact) : List ResultVar → Option (List TV)
  | [] => some []
  | x :: r => match resT P A x, resTs P A r with | some t, some l => some (t :: l) | _, _ => none
def rv : List TV → Option RV
  | [] => none
  | [t] => some (.one t)
  | l => some (.many l)
/-- a whole function -/
def funB (P : Program) (q : EqT) (C : Nat → Cfg) (fn : Func) (n : Nat) (cs : List CA) : Option (List Prop × RV) :=
  match fn.body with
  | some c => bif Nat.ble cs.length fn.ntmps then
      (match run P q fn.ntmps C n c (argF 0 cs) with
      | some (ps, .ex _, _) => none
      | some (ps, _, A) => match resTs P A fn.results.toList with
        | some l => match rv l with | some r => some (ps, r) | none => none
        | none => none
      | none => none) else none
  | none => none
def funA (P : Program) (T : Tab) (q : EqT) (hint : Nat → Bool) (fn : Func) (n : Nat) (cs : List CA) : Option (List Prop × RV) := funB P q (fun _ => ⟨fun _ => T, hint, fun _ => none⟩) fn n cs
theorem argF_key : ∀ (cs : List CA) (i : Nat) (φ : Fact), φ ∈ argF i cs → (∀ s v, φ = .slot s v → ∀ k, v.key = some k → i ≤ k) ∧ ∀ k o l, φ = .row k o l → i ≤ k
  | [], i, φ, h => by cases h
  | .v x :: r, i, φ, h => by
    rcases List.mem_cons.1 h with rfl | h
    · refine ⟨fun s v e k hk => ?_, fun k o l e => by cases e⟩
      cases e
      cases x <;> cases hk
    · obtain ⟨h1, h2⟩ := argF_key r (i + 1) φ h
      exact ⟨fun s v e k hk => Nat.le_of_succ_le (h1 s v e k hk), fun k o l e => Nat.le_of_succ_le (h2 k o l e)⟩
  | .s l n m :: r, i, φ, h => by
    rcases List.mem_cons.1 h with rfl | h
    · refine ⟨fun s v e k hk => ?_, fun k o l e => by cases e⟩
      cases e
      cases hk
      exact Nat.le_refl _
    · rcases List.mem_cons.1 h with rfl | h
      · exact ⟨fun s v e => by (cases e), fun k o l e => by cases e; exact Nat.le_refl _⟩
      · obtain ⟨h1, h2⟩ := argF_key r (i + 1) φ h
        exact ⟨fun s v e k hk => Nat.le_of_succ_le (h1 s v e k hk), fun k o l e => Nat.le_of_succ_le (h2 k o l e)⟩
theorem argF_ok (a : Act) (w : World) : ∀ (cs : List CA) (vs : List Value) (i : Nat), CAs w cs vs → (∀ j v, vs[j]? = some v → a.tmps[i + j]? = some v) → ∃ β, ∀ φ ∈ argF i cs, φ.ok w.heap.size β a w
  | [], vs, i, _, _ => ⟨fun _ => (0, 0), fun φ h => by cases h⟩
  | c :: cs, [], i, h, _ => by cases c <;> exact h.elim
  | c :: cs, v :: vs, i, h, ha => by
    obtain ⟨h1, h2⟩ : c.ok w v ∧ CAs w cs vs := by cases c <;> exact h
    obtain ⟨β, hβ⟩ := argF_ok a w cs vs (i + 1) h2 (fun j u hj => by have := ha (j + 1) u (by simpa using hj); rwa [show i + (j + 1) = i + 1 + j by omega] at this)
    have h0 := ha 0 v rfl
    rw [Nat.add_zero] at h0
    cases c with
    | v x =>
      refine ⟨β, fun φ hφ => ?_⟩
      rcases List.mem_cons.1 hφ with rfl | hφ
      · show a.tmps[i]? = _
        rw [h0, TV.av_den]
        exact congrArg some h1
      · exact hβ φ hφ
    | s l n m =>
      obtain ⟨b, o, rfl, hb, hr⟩ := h1
      refine ⟨fun k => bif Nat.beq k i then (b, o) else β k, fun φ hφ => ?_⟩
      have hbi : (bif Nat.beq i i then (b, o) else β i) = (b, o) := by simp
      rcases List.mem_cons.1 hφ with rfl | hφ
      · show a.tmps[i]? = _
        rw [h0]
        show _ = some (Value.slice (some ⟨(bif Nat.beq i i then (b, o) else β i).1, (bif Nat.beq i i then (b, o) else β i).2 + 0, none⟩) n m)
        rw [hbi]
        rfl
      · rcases List.mem_cons.1 hφ with rfl | hφ
        · refine ⟨?_, ?_, (fun h => by cases h), fun _ => ?_⟩ <;> simp only [hbi]
          · exact hb
          · exact hr
          · exact hb
        · obtain ⟨k1, k2⟩ := argF_key cs (i + 1) φ hφ
          have hne : ∀ k, i + 1 ≤ k → (bif Nat.beq k i then (b, o) else β k) = β k := fun k hk => by
            cases hq : Nat.beq k i
            · rfl
            · have := Nat.eq_of_beq_eq_true hq; omega
          have hold := hβ φ hφ
          cases φ with
          | slot s u =>
            show a.tmps[s]? = _
            rw [AV.den_eq (β := β) u (fun k hk => hne k (k1 s u rfl k hk))]
            exact hold
          | row k ow l' =>
            have e := hne k (k2 k ow l' rfl)
            simp only [Fact.ok] at hold ⊢
            simp only [e]
            exact hold
def resF (tmps : Array Value) : ResultVar → Sem Value
  | .tmp t => pure (tmps.getD t undef)
  | .cell p t => do loadVar t (← asAddr (tmps.getD p undef))
theorem resT_spec {P : Program} {A : List Fact} {base : Nat} {β : Nat → Nat × Nat} {a : Act} {w : World} (hA : ∀ φ ∈ A, φ.ok base β a w) {x : ResultVar} {t : TV} (h1 : resT P A x = some t) : (resF a.tmps x).run P w = .ok t.den w := by
  cases x with
  | tmp s =>
    have : a.tmps.getD s undef = t.den := by
      simp only [resT] at h1
      split at h1
      · rename_i v hl; cases h1; have := hA _ (look_mem hl); simp only [Fact.ok] at this; simp [this]; rfl
      · rename_i v hl; cases h1; have := hA _ (look_mem hl); simp only [Fact.ok] at this; simp [this]; rfl
      · cases h1
    show (pure (a.tmps.getD s undef) : Sem Value).run P w = _
    rw [this]
    rfl
  | cell s ty =>
    simp only [resT] at h1
    split at h1
    · rename_i k o hl
      split at h1
      · rename_i ow row n hr hs ht
        split at h1
        · rename_i sg hg
          cases h1
          obtain ⟨i', hi, hn⟩ := sizeT_spec hs
          obtain ⟨ds, hu, hd'⟩ := isRowT_spec ht
          obtain ⟨g1, g2, _⟩ := hA _ (rowOf_mem hr)
          have hl' := hA _ (look_mem hl)
          simp only [Fact.ok, AV.den] at hl'
          have hv : a.tmps.getD s undef = .pointer (some ⟨(β k).1, (β k).2 + o, none⟩) := by simp [hl']
          have := run_loadVar_mid (P := P) w _ _ ty (flat sg) ds (range_seg g2 hg) hu hd' (by rw [hi]; simp [flat_len, seg_size hg, hn])
          show (do loadVar ty (← asAddr (a.tmps.getD s undef)) : Sem Value).run P w = _
          rw [hv]
          simp [asAddr, this, TV.den]
        · cases h1
      · cases h1
    · cases h1
theorem resTs_spec {P : Program} {A : List Fact} {base : Nat} {β : Nat → Nat × Nat} {a : Act} {w : World} (hA : ∀ φ ∈ A, φ.ok base β a w) : ∀ {xs : List ResultVar} {l : List TV}, resTs P A xs = some l → (xs.mapM (resF a.tmps)).run P w = .ok (l.map TV.den) w
  | [], l, h => by cases h; simp
  | x :: r, l, h => by
    unfold resTs at h
    split at h
    · rename_i t l' h1 h2
      cases h
      have ih := resTs_spec hA h2
      have hx := resT_spec hA h1
      simp [List.mapM_cons, ih, hx]
    · cases h
theorem rv_spec {l : List TV} {r : RV} (h : rv l = some r) : (if h : (l.map TV.den).toArray.size = 1 then (l.map TV.den).toArray[0] else Value.tuple (l.map TV.den).toArray) = r.den := by
  cases l with
  | nil => cases h
  | cons t l =>
    cases l with
    | nil => cases h; rfl
    | cons u l => cases h; rw [dif_neg (by simp)]; rfl
theorem funB_sound {P : Program} {q : EqT} {C : Nat → Cfg} (hm : P.follows .mixedOrders = true) (hT : ∀ n d, TabOk P ((C n).T d)) (hq : EqOk P q) {f : FuncId} {fn : Func} (hf : P.funcs[f]? = some fn) {n : Nat} {cs : List CA} {ps : List Prop} {r : RV}
    (h : funB P q C fn n cs = some (ps, r)) (hps : allP ps) {args : List Value} {w : World} (ha : CAs w cs args) : Calls P f args.toArray w (fun e w' => e = .returned r.den ∧ Below w.heap.size w w') := by
  have hlen : ∀ (cs : List CA) (vs : List Value), CAs w cs vs → cs.length = vs.length := fun cs => by
    induction cs with
    | nil => intro vs h; cases vs with | nil => rfl | cons _ _ => exact h.elim
    | cons c cs ih => intro vs h; cases vs with | nil => cases c <;> exact h.elim | cons v vs => cases c <;> exact congrArg (· + 1) (ih vs h.2)
  unfold funB at h
  cases hb : fn.body with
  | none => rw [hb] at h; cases h
  | some c =>
    rw [hb] at h
    simp only at h
    cases hle : Nat.ble cs.length fn.ntmps <;> rw [hle] at h
    · cases h
    · simp only [cond_true] at h
      have hle' : args.length ≤ fn.ntmps := by rw [← hlen cs args ha]; exact Nat.le_of_ble_eq_true hle
      refine calls_of_wp hf hb ?_
      obtain ⟨β, hβ⟩ := argF_ok { tmps := args.toArray ++ Array.replicate (fn.ntmps - args.toArray.size) undef, defers := [] } w cs args 0 ha (fun j v hj => by
        have hlt : j < args.length := (List.getElem?_eq_some_iff.1 hj).1
        simp only [Nat.zero_add]
        rw [Array.getElem?_append_left (by simpa using hlt)]
        simpa using hj)
      have hH : Holds fn.ntmps w.heap.size w (argF 0 cs) { tmps := args.toArray ++ Array.replicate (fn.ntmps - args.toArray.size) undef, defers := [] } w :=
        ⟨rfl, by simp; omega, Below.refl _ _, Nat.le_refl _, β, hβ, fun k k' l l' hk => by
          have : ∀ (cs : List CA) (i : Nat) (k : Nat) (l : List At), Fact.row k true l ∈ argF i cs → False := fun cs => by
            induction cs with
            | nil => intro i k l h; cases h
            | cons c cs ih =>
              intro i k l h
              cases c with
              | v x => rcases List.mem_cons.1 h with h | h; · cases h
                       · exact ih _ _ _ h
              | s l1 n1 m1 =>
                rcases List.mem_cons.1 h with h | h
                · cases h
                · rcases List.mem_cons.1 h with h | h
                  · cases h
                  · exact ih _ _ _ h
          exact (this cs 0 k l hk).elim⟩
      have hfin : ∀ (e : EA) (A : List Fact), (∀ j, e ≠ .ex j) → (∃ l, resTs P A fn.results.toList = some l ∧ rv l = some r) → ∀ a w', Holds fn.ntmps w.heap.size w A a w' → bodyPost P fn (fun e w' => e = .returned r.den ∧ Below w.heap.size w w') e.out a w' := fun e A he ⟨l, h1, h2⟩ a w' hA => by
        obtain ⟨β', hok, _⟩ := hA.facts
        have hres : (results fn a.tmps).run P w' = .ok r.den w' := by
          have := resTs_spec hok h1
          show ((fn.results.mapM (resF a.tmps)) >>= fun vs => pure (if h : vs.size = 1 then vs[0] else .tuple vs) : Sem Value).run P w' = _
          have hm : (List.toArray <$> fn.results.toList.mapM (resF a.tmps)).run P w' = .ok (l.map TV.den).toArray w' := by simp [this]
          rw [Array.mapM_eq_mapM_toList, Sem.run_bind, hm, Result.andThen_ok, Sem.run_pure]
          exact congrArg (fun x => Result.ok x w') (rv_spec h2)
        cases e with
        | nrm => exact ⟨hA.defers, _, hres, rfl, hA.below⟩
        | rt => exact ⟨hA.defers, _, hres, rfl, hA.below⟩
        | ex j => exact (he j rfl).elim
      split at h
      · cases h
      · rename_i ps' e A hne hrun
        split at h
        · rename_i l hl
          split at h
          · rename_i r' hr'
            cases h
            exact (run_sound (P := P) (q := q) (nt := fn.ntmps) (C := C) hm hT hq n c _ A ps e _ w _ hrun hps hH (hfin e A (fun j e' => hne j e') ⟨l, hl, hr'⟩)).1
          · cases h
        · cases h
      · cases h
theorem fun_sound {P : Program} {T : Tab} {q : EqT} {hint : Nat → Bool} (hm : P.follows .mixedOrders = true) (hT : TabOk P T) (hq : EqOk P q) {f : FuncId} {fn : Func} (hf : P.funcs[f]? = some fn) {n : Nat} {cs : List CA} {ps : List Prop} {r : RV}
    (h : funA P T q hint fn n cs = some (ps, r)) (hps : allP ps) {args : List Value} {w : World} (ha : CAs w cs args) : Calls P f args.toArray w (fun e w' => e = .returned r.den ∧ Below w.heap.size w w') :=
  funB_sound hm (fun _ _ => hT) hq hf h hps ha
theorem callable {P : Program} {f : FuncId} {fn : Func} (hf : P.funcs[f]? = some fn) (hn : (fn.name == "runtime.NumGoroutine") = false) (hb : fn.body.isNone = false) (args : Array Value) (w : World) : (callFunc f args).run P w = .ok (.enter f args) w := by
  have hn' : ¬ fn.name = "runtime.NumGoroutine" := by simpa using hn
  have hb' : ¬ fn.body = none := fun e => by rw [e] at hb; cases hb
  simp [callFunc, hf, hn', hb']
def T0 : Tab := fun _ _ => none
theorem T0_ok (P : Program) : TabOk P T0 := fun _ _ _ _ h => by cases h
/-- a table with one function more -/
def Tab.add (T : Tab) (f : Nat) (g : List CA → Option (List Prop × RV)) : Tab := fun f' cs => bif Nat.beq f' f then g cs else T f' cs
theorem TabOk.add {P : Program} {T : Tab} (hT : TabOk P T) {f : Nat} {fn : Func} (hf : P.funcs[f]? = some fn) (hn : (fn.name == "runtime.NumGoroutine") = false) (hb : fn.body.isNone = false) {g : List CA → Option (List Prop × RV)}
    (h : ∀ cs pre r, g cs = some (pre, r) → allP pre → ∀ (args : List Value) (w : World), CAs w cs args → Calls P f args.toArray w (fun e w' => e = .returned r.den ∧ Below w.heap.size w w')) : TabOk P (T.add f g) := by
  intro f' cs pre r hg hp
  unfold Tab.add at hg
  cases hb' : Nat.beq f' f <;> rw [hb'] at hg
  · exact hT f' cs pre r hg hp
  · cases Nat.eq_of_beq_eq_true hb'
    exact ⟨callable hf hn hb, h cs pre r hg hp⟩
end Go.Proofs.YtgacpjmggdmgdaaGreat.Ex
namespace Go.Proofs.YtgacpjmggdmgdaaGreat.Ex
set_option linter.unusedVariables false
set_option linter.unusedSimpArgs false
open Go.RowKit

/-- fewer facts hold too -/
theorem Holds.sub {nt base : Nat} {w0 : World} {A A' : List Fact} {a : Act} {w : World} (h : Holds nt base w0 A a w) (hs : ∀ φ ∈ A', φ ∈ A) : Holds nt base w0 A' a w := by
  obtain ⟨β, h1, h2⟩ := h.facts
  exact ⟨h.defers, h.size, h.below, h.heap, β, fun φ hφ => h1 φ (hs φ hφ), fun k k' l l' hk hk' => h2 k k' l l' (hs _ hk) (hs _ hk')⟩
/-- the facts of A at the places that K names -/
def pick (A : List Fact) : List Fact → Option (List Fact)
  | [] => some []
  | .slot s _ :: r => match look A s, pick A r with | some v, some l => some (.slot s v :: l) | _, _ => none
  | .row k _ _ :: r => match rowOf A k, pick A r with | some (o, l), some m => some (.row k o l :: m) | _, _ => none
theorem pick_mem {A : List Fact} : ∀ {K L : List Fact}, pick A K = some L → ∀ φ ∈ L, φ ∈ A
  | [], L, h, φ, hφ => by cases h; cases hφ
  | .slot s v :: r, L, h, φ, hφ => by
    unfold pick at h
    split at h
    · rename_i u l h1 h2
      cases h
      rcases List.mem_cons.1 hφ with rfl | hφ
      · exact look_mem h1
      · exact pick_mem h2 φ hφ
    · cases h
  | .row k o m :: r, L, h, φ, hφ => by
    unfold pick at h
    split at h
    · rename_i o' l' m' h1 h2
      cases h
      rcases List.mem_cons.1 hφ with rfl | hφ
      · exact rowOf_mem h1
      · exact pick_mem h2 φ hφ
    · cases h
/-- code, and the facts at the places that K names -/
def runK (P : Program) (q : EqT) (nt : Nat) (C : Nat → Cfg) (n : Nat) (c : Code) (A K : List Fact) : Option (List Prop × EA × List Fact) :=
  match run P q nt C n c A with
  | some (ps, e, A1) => match pick A1 K with | some L => some (ps, e, L) | none => none
  | none => none
section
variable {P : Program} {q : EqT} {nt base : Nat} {w0 : World} {Q : Exit → Act → World → Prop}
theorem runK_sound (hm : P.follows .mixedOrders = true) {C : Nat → Cfg} (hT : ∀ n d, TabOk P ((C n).T d)) (hq : EqOk P q) {n : Nat} {c : Code} {A K L : List Fact} {ps : List Prop} {e : EA} {a : Act} {w : World}
    (h : runK P q nt C n c A K = some (ps, e, L)) (hps : allP ps) (hA : Holds nt base w0 A a w) (hQ : ∀ a w, Holds nt base w0 L a w → Q e.out a w) : c.wp P Q a w := by
  unfold runK at h
  split at h
  · rename_i ps' e' A1 h1
    split at h
    · rename_i L' h2
      cases h
      exact (run_sound hm hT hq n c A A1 ps e a w Q h1 hps hA fun a w hA1 => hQ a w (hA1.sub (pick_mem h2))).1
    · cases h
  · cases h
/-- a loop: round i leads from the facts A i to A (i + 1); the round behind the last leaves with e -/
theorem loop_rounds (hm : P.follows .mixedOrders = true) (hq : EqOk P q) {c : Code} {f : Nat} (A : Nat → List Fact) (C : Nat → Nat → Cfg) (hT : ∀ i n d, TabOk P ((C i n).T d)) (N : Nat)
    (hstep : ∀ i, i < N → ∃ ps, runK P q nt (C i) f c (A i) (A (i + 1)) = some (ps, .nrm, A (i + 1)) ∧ allP ps)
    (e : EA) (he : e ≠ .nrm) (A' : List Fact) (hend : ∃ ps, runK P q nt (C N) f c (A N) A' = some (ps, e, A') ∧ allP ps)
    {a : Act} {w : World} (hA : Holds nt base w0 (A 0) a w) (hQ : ∀ a w, Holds nt base w0 A' a w → Q e.out a w) : (Code.loop c).wp P Q a w := by
  have key : ∀ m i a w, i + m = N → Holds nt base w0 (A i) a w → Un P c Q (m + 1) a w := by
    intro m
    induction m with
    | zero =>
      intro i a w hi hA
      have : i = N := by omega
      subst this
      obtain ⟨ps, h1, h2⟩ := hend
      unfold Un
      refine runK_sound hm (hT i) hq h1 h2 hA fun a w hA1 => ?_
      have := hQ a w hA1
      cases e with
      | nrm => exact (he rfl).elim
      | ex id => exact this
      | rt => exact this
    | succ m ih =>
      intro i a w hi hA
      obtain ⟨ps, h1, h2⟩ := hstep i (by omega)
      unfold Un
      exact runK_sound hm (hT i) hq h1 h2 hA fun a w hA1 => ih (i + 1) a w (by omega) hA1
  exact wp_loop_un (key N 0 a w (by omega) hA)
/-- a function taken apart: its body's facts at the start; what it answers -/
theorem fn_enter {f : FuncId} {fn : Func} (hf : P.funcs[f]? = some fn) {c : Code} (hb : fn.body = some c) {cs : List CA} {args : List Value} {w : World} (ha : CAs w cs args) (hn : cs.length ≤ fn.ntmps) {R : Ending → World → Prop}
    (h : ∀ a w', Holds fn.ntmps w.heap.size w (argF 0 cs) a w' → c.wp P (bodyPost P fn R) a w') : Calls P f args.toArray w R := by
  have hlen : ∀ (cs : List CA) (vs : List Value), CAs w cs vs → cs.length = vs.length := fun cs => by
    induction cs with
    | nil => intro vs h; cases vs with | nil => rfl | cons _ _ => exact h.elim
    | cons c cs ih => intro vs h; cases vs with | nil => cases c <;> exact h.elim | cons v vs => cases c <;> exact congrArg (· + 1) (ih vs h.2)
  have hle' : args.length ≤ fn.ntmps := by rw [← hlen cs args ha]; exact hn
  refine calls_of_wp hf hb (h _ _ ?_)
  obtain ⟨β, hβ⟩ := argF_ok { tmps := args.toArray ++ Array.replicate (fn.ntmps - args.toArray.size) undef, defers := [] } w cs args 0 ha (fun j v hj => by
    have hlt : j < args.length := (List.getElem?_eq_some_iff.1 hj).1
    simp only [Nat.zero_add]
    rw [Array.getElem?_append_left (by simpa using hlt)]
    simpa using hj)
  exact ⟨rfl, by simp; omega, Below.refl _ _, Nat.le_refl _, β, hβ, fun k k' l l' hk => by
    have : ∀ (cs : List CA) (i : Nat) (k : Nat) (l : List At), Fact.row k true l ∈ argF i cs → False := fun cs => by
      induction cs with
      | nil => intro i k l h; cases h
      | cons c cs ih =>
        intro i k l h
        cases c with
        | v x => rcases List.mem_cons.1 h with h | h; · cases h
                 · exact ih _ _ _ h
        | s l1 n1 m1 =>
          rcases List.mem_cons.1 h with h | h
          · cases h
          · rcases List.mem_cons.1 h with h | h
            · cases h
            · exact ih _ _ _ h
    exact (this cs 0 k l hk).elim⟩
theorem fn_leave {fn : Func} {A : List Fact} {l : List TV} {r : RV} {w : World} (h1 : resTs P A fn.results.toList = some l) (h2 : rv l = some r) {a : Act} {w' : World} (hA : Holds nt w.heap.size w A a w') : bodyPost P fn (fun e w' => e = .returned r.den ∧ Below w.heap.size w w') .ret a w' := by
  obtain ⟨β', hok, _⟩ := hA.facts
  have hres : (results fn a.tmps).run P w' = .ok r.den w' := by
    have := resTs_spec hok h1
    show ((fn.results.mapM (resF a.tmps)) >>= fun vs => pure (if h : vs.size = 1 then vs[0] else .tuple vs) : Sem Value).run P w' = _
    have hm : (List.toArray <$> fn.results.toList.mapM (resF a.tmps)).run P w' = .ok (l.map TV.den).toArray w' := by simp [this]
    rw [Array.mapM_eq_mapM_toList, Sem.run_bind, hm, Result.andThen_ok, Sem.run_pure]
    exact congrArg (fun x => Result.ok x w') (rv_spec h2)
  exact ⟨hA.defers, _, hres, rfl, hA.below⟩
end
/-- a sequence's parts, a block's, a loop's -/
def cA : Code → Code
  | .seq a _ => a
  | c => c
def cB : Code → Code
  | .seq _ b => b
  | c => c
def cIn : Code → Code
  | .block _ c => c
  | .loop c => c
  | c => c
end Go.Proofs.YtgacpjmggdmgdaaGreat.Ex
