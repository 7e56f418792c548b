/-
  A reckoner of straight Go code over flat values, on facts about slots and blocks: its operations, each one right. Of whatever program. Conditions: none.
-/
import Derived.Below
import Derived.Deep.MidRow
import Derived.Great.BuildSlice
import Derived.Test.YtebaoemoeckgaaaPr01
namespace Go.Proofs.Ytebaoemoeckgaaa.Ex
set_option linter.unusedVariables false
set_option linter.unusedSimpArgs false
open Go.RowKit

abbrev Fq := Fin FP.M
/-- a part of a flat value: a number below p, any number, a cell -/
inductive At | f (x : Fq) | q (x : Nat) | c (v : Value)
def w4 (x : Nat) : List Value := [.int .u64 (fw x 0 : Nat), .int .u64 (fw x 1 : Nat), .int .u64 (fw x 2 : Nat), .int .u64 (fw x 3 : Nat)]
def At.cells : At → List Value
  | .f x => w4 x.1
  | .q x => w4 x
  | .c v => [v]
def At.sz : At → Nat
  | .f _ => 4
  | .q _ => 4
  | .c _ => 1
theorem At.len (a : At) : a.cells.length = a.sz := by cases a <;> rfl
def flat : List At → List Value
  | [] => []
  | a :: r => a.cells ++ flat r
def fsz : List At → Nat
  | [] => 0
  | a :: r => a.sz + fsz r
theorem flat_len : ∀ l : List At, (flat l).length = fsz l
  | [] => rfl
  | a :: r => by simp [flat, fsz, At.len, flat_len r]
/-- a cell -/
def cellAt : List At → Nat → Option Value
  | [], _ => none
  | a :: r, o => bif Nat.blt o a.sz then a.cells[o]? else cellAt r (o - a.sz)
theorem cellAt_spec : ∀ {l : List At} {o : Nat} {v : Value}, cellAt l o = some v → (flat l)[o]? = some v
  | [], o, v, h => by cases h
  | a :: r, o, v, h => by
    unfold cellAt at h
    show (a.cells ++ flat r)[o]? = _
    cases hb : Nat.blt o a.sz <;> rw [hb] at h
    · have hle : a.sz ≤ o := by
        rcases Nat.lt_or_ge o a.sz with q | q
        · have : Nat.blt o a.sz = true := by simpa using q
          rw [hb] at this; cases this
        · exact q
      rw [List.getElem?_append_right (by rw [At.len]; exact hle), At.len]
      exact cellAt_spec h
    · have hlt : o < a.sz := by simpa using hb
      rw [List.getElem?_append_left (by rw [At.len]; exact hlt)]
      exact h
theorem flat_append : ∀ l m : List At, flat (l ++ m) = flat l ++ flat m
  | [], m => rfl
  | a :: r, m => by simp [flat, flat_append r m]
theorem fsz_append (l m : List At) : fsz (l ++ m) = fsz l + fsz m := by rw [← flat_len, flat_append, List.length_append, flat_len, flat_len]
/-- the first n cells -/
def tk : List At → Nat → Option (List At)
  | [], n => bif Nat.beq n 0 then some [] else none
  | a :: r, n => bif Nat.beq n 0 then some [] else bif Nat.ble a.sz n then (tk r (n - a.sz)).map (a :: ·) else none
/-- all but the first n cells -/
def dp : List At → Nat → Option (List At)
  | [], n => bif Nat.beq n 0 then some [] else none
  | a :: r, n => bif Nat.beq n 0 then some (a :: r) else bif Nat.ble a.sz n then dp r (n - a.sz) else none
theorem tk_spec : ∀ (l : List At) (n : Nat) (t : List At), tk l n = some t → ∃ r, l = t ++ r ∧ fsz t = n
  | [], n, t, h => by
    unfold tk at h
    cases hn : Nat.beq n 0 <;> rw [hn] at h
    · cases h
    · cases h; exact ⟨[], rfl, (Nat.eq_of_beq_eq_true hn).symm⟩
  | a :: r, n, t, h => by
    unfold tk at h
    cases hn : Nat.beq n 0 <;> rw [hn] at h
    · cases hs : Nat.ble a.sz n <;> rw [hs] at h
      · cases h
      · cases hr : tk r (n - a.sz) with
        | none => rw [hr] at h; cases h
        | some t' =>
          rw [hr] at h; cases h
          obtain ⟨r', e, s⟩ := tk_spec r _ _ hr
          refine ⟨r', by rw [e]; rfl, ?_⟩
          have := Nat.le_of_ble_eq_true hs
          show a.sz + fsz t' = n
          omega
    · cases h; exact ⟨a :: r, rfl, (Nat.eq_of_beq_eq_true hn).symm⟩
theorem dp_spec : ∀ (l : List At) (n : Nat) (r : List At), dp l n = some r → ∃ t, l = t ++ r ∧ fsz t = n
  | [], n, r, h => by
    unfold dp at h
    cases hn : Nat.beq n 0 <;> rw [hn] at h
    · cases h
    · cases h; exact ⟨[], rfl, (Nat.eq_of_beq_eq_true hn).symm⟩
  | a :: l, n, r, h => by
    unfold dp at h
    cases hn : Nat.beq n 0 <;> rw [hn] at h
    · cases hs : Nat.ble a.sz n <;> rw [hs] at h
      · cases h
      · obtain ⟨t, e, s⟩ := dp_spec l _ _ h
        refine ⟨a :: t, by rw [e]; rfl, ?_⟩
        have := Nat.le_of_ble_eq_true hs
        show a.sz + fsz t = n
        omega
    · cases h; exact ⟨[], rfl, (Nat.eq_of_beq_eq_true hn).symm⟩
/-- n cells from o on -/
def seg (l : List At) (o n : Nat) : Option (List At) := match dp l o with | some r => tk r n | none => none
theorem seg_spec {l : List At} {o n : Nat} {t : List At} (h : seg l o n = some t) : ∃ p s, l = p ++ (t ++ s) ∧ fsz p = o ∧ fsz t = n := by
  unfold seg at h
  cases hd : dp l o with
  | none => rw [hd] at h; cases h
  | some r =>
    rw [hd] at h
    obtain ⟨p, e, hp⟩ := dp_spec _ _ _ hd
    obtain ⟨s, e2, ht⟩ := tk_spec _ _ _ h
    exact ⟨p, s, by rw [e, e2], hp, ht⟩
/-- l with v in the place of the cells from o on -/
def put (l : List At) (o : Nat) (v : List At) : Option (List At) :=
  match tk l o, dp l o with
  | some a, some b => match dp b (fsz v) with | some s => some (a ++ (v ++ s)) | none => none
  | _, _ => none
theorem flat_eq_of_len : ∀ {a b : List At} {r s : List At}, a ++ r = b ++ s → fsz a = fsz b → flat a = flat b ∧ flat r = flat s := by
  intro a b r s h hs
  have := congrArg flat h
  rw [flat_append, flat_append] at this
  exact List.append_inj this (by rw [flat_len, flat_len, hs])
theorem put_spec {l : List At} {o : Nat} {v l' : List At} (h : put l o v = some l') : ∃ a m s, l = a ++ (m ++ s) ∧ flat l' = flat a ++ (flat v ++ flat s) ∧ fsz a = o ∧ fsz m = fsz v := by
  unfold put at h
  cases ht : tk l o with
  | none => rw [ht] at h; cases h
  | some a =>
    cases hd : dp l o with
    | none => rw [ht, hd] at h; cases h
    | some b =>
      rw [ht, hd] at h
      simp only at h
      cases hb : dp b (fsz v) with
      | none => rw [hb] at h; cases h
      | some s =>
        rw [hb] at h; cases h
        obtain ⟨r, e, s1⟩ := tk_spec _ _ _ ht
        obtain ⟨p, e2, s2⟩ := dp_spec _ _ _ hd
        obtain ⟨m, e3, s3⟩ := dp_spec _ _ _ hb
        obtain ⟨h1, h2⟩ := flat_eq_of_len (e.symm.trans e2) (s1.trans s2.symm)
        refine ⟨p, m, s, by rw [e2, e3], ?_, s2, s3⟩
        rw [flat_append, flat_append, h1]
/-- what is no struct and no array -/
def isScal : Value → Bool
  | .bool _ => true
  | .int _ _ => true
  | .func _ _ _ => true
  | .slice _ _ _ => true
  | .pointer _ => true
  | _ => false
/-- cells as parts, zeros by fours -/
def nz : List Value → List At
  | .int .u64 (.ofNat 0) :: .int .u64 (.ofNat 0) :: .int .u64 (.ofNat 0) :: .int .u64 (.ofNat 0) :: r => .f ⟨0, fp_pos⟩ :: nz r
  | v :: r => .c v :: nz r
  | [] => []
theorem nz_flat (l : List Value) : flat (nz l) = l := by
  fun_induction nz l with
  | case1 r ih => show w4 0 ++ flat (nz r) = _; rw [ih]; rfl
  | case2 v r h ih => show [v] ++ flat (nz r) = _; rw [ih]; rfl
  | case3 => rfl
/-- four words are a number -/
def nq : List At → List At
  | .c (.int .u64 (.ofNat a)) :: .c (.int .u64 (.ofNat b)) :: .c (.int .u64 (.ofNat c)) :: .c (.int .u64 (.ofNat d)) :: r =>
    bif Nat.blt a 18446744073709551616 && (Nat.blt b 18446744073709551616 && (Nat.blt c 18446744073709551616 && Nat.blt d 18446744073709551616)) then (if h : val4 a b c d < FP.M then .f ⟨val4 a b c d, h⟩ else .q (val4 a b c d)) :: nq r
    else .c (.int .u64 (.ofNat a)) :: .c (.int .u64 (.ofNat b)) :: .c (.int .u64 (.ofNat c)) :: .c (.int .u64 (.ofNat d)) :: nq r
  | v :: r => v :: nq r
  | [] => []
theorem nq_flat (l : List At) : flat (nq l) = flat l := by
  fun_induction nq l with
  | case1 a b c d r hb ih =>
    simp only [Bool.and_eq_true, Nat.blt_eq] at hb
    have h4 : ok4 a b c d := ⟨hb.1, hb.2.1, hb.2.2.1, hb.2.2.2⟩
    have hv : val4 a b c d < 115792089237316195423570985008687907853269984665640564039457584007913129639936 := by
      unfold val4; obtain ⟨h1, h2, h3, h5⟩ := hb; omega
    obtain ⟨e0, e1, e2, e3⟩ := fw_of h4 hv rfl
    have hc : (if h : val4 a b c d < FP.M then At.f ⟨val4 a b c d, h⟩ else At.q (val4 a b c d)).cells = w4 (val4 a b c d) := by split <;> rfl
    show (if h : val4 a b c d < FP.M then At.f ⟨val4 a b c d, h⟩ else At.q (val4 a b c d)).cells ++ flat (nq r) = _
    rw [hc, ih]
    unfold w4
    rw [← e0, ← e1, ← e2, ← e3]
    rfl
  | case2 a b c d r hb ih => simp only [flat, ih]
  | case3 v r h ih => show v.cells ++ flat (nq r) = _; rw [ih]; rfl
  | case4 => rfl
/-- what a call answers -/
inductive TV | im (v : Value) | fl (l : List At)
def TV.den : TV → Value
  | .im v => v
  | .fl l => .agg (flat l).toArray
/-- where a block lies: its number, the place in it, the capacity -/
abbrev Bk := Nat × Nat × Nat
/-- what a slot holds -/
inductive AV | im (v : Value) | fl (l : List At) | pt (k o : Nat) | sl (k o n m : Nat) | tu (l : List TV) | ic (t : Nat) (l : List At) | tf (k n m : Nat) (post : List TV) | so (k n : Nat) | tg (k n : Nat) (ante post : List TV)
def TV.av : TV → AV
  | .im v => .im v
  | .fl l => .fl l
def AV.den (β : Nat → Bk) : AV → Value
  | .im v => v
  | .fl l => .agg (flat l).toArray
  | .pt k o => .pointer (some ⟨(β k).1, (β k).2.1 + o, none⟩)
  | .sl k o n m => .slice (some ⟨(β k).1, (β k).2.1 + o, none⟩) n m
  | .tu l => .tuple (l.map TV.den).toArray
  | .ic t l => .iface t (.agg (flat l).toArray)
  | .tf k n m post => .tuple (.slice (some ⟨(β k).1, (β k).2.1, none⟩) n m :: post.map TV.den).toArray
  | .so k n => .slice (some ⟨(β k).1, (β k).2.1, none⟩) n (β k).2.2
  | .tg k n ante post => .tuple (ante.map TV.den ++ .slice (some ⟨(β k).1, (β k).2.1, none⟩) n (β k).2.2 :: post.map TV.den).toArray
theorem TV.av_den (β : Nat → Bk) (t : TV) : t.av.den β = t.den := by cases t <;> rfl
/-- the block that it points into -/
def AV.key : AV → Option Nat
  | .pt k _ => some k
  | .sl k _ _ _ => some k
  | .tf k _ _ _ => some k
  | .so k _ => some k
  | .tg k _ _ _ => some k
  | _ => none
theorem AV.den_eq {β β' : Nat → Bk} (v : AV) (h : ∀ k, v.key = some k → β' k = β k) : v.den β' = v.den β := by
  cases v with
  | pt k o => simp [AV.den, h k rfl]
  | sl k o n m => simp [AV.den, h k rfl]
  | tf k n m post => simp [AV.den, h k rfl]
  | so k n => simp [AV.den, h k rfl]
  | tg k n ante post => simp [AV.den, h k rfl]
  | _ => rfl
/-- a block that may be appended to -/
def AppAt (w : World) (b e sz n cap : Nat) : Prop := ∃ cur, w.heap[b]? = some (.cells cur e (0, 0)) ∧ n ≤ cap ∧ cap ≤ maxLen ∧ cur.size = cap * sz
inductive Fact | slot (s : Nat) (v : AV) | row (k : Nat) (own : Bool) (l : List At) | at (k b : Nat) | app (k e sz n : Nat)
def Fact.ok (base : Nat) (β : Nat → Bk) (a : Act) (w : World) : Fact → Prop
  | .slot s v => a.tmps[s]? = some (v.den β)
  | .row k own l => (β k).1 < w.heap.size ∧ w.rangeAt (β k).1 (β k).2.1 (flat l) ∧ (own = true → base ≤ (β k).1 ∧ (β k).2.1 = 0 ∧ ∀ j, w.frozen? ⟨(β k).1, j, none⟩ = false) ∧ (own = false → (β k).1 < base)
  | .at k b => (β k).1 = b ∧ (β k).2.1 = 0
  | .app k e sz n => AppAt w (β k).1 e sz n (β k).2.2
def look : List Fact → Nat → Option AV
  | [], _ => none
  | .slot t v :: r, s => bif Nat.beq t s then some v else look r s
  | .row _ _ _ :: r, s => look r s
  | .at _ _ :: r, s => look r s
  | .app _ _ _ _ :: r, s => look r s
theorem look_mem : ∀ {M : List Fact} {s : Nat} {v : AV}, look M s = some v → Fact.slot s v ∈ M
  | .slot t u :: r, s, v, h => by
    unfold look at h
    cases hb : Nat.beq t s <;> rw [hb] at h
    · exact List.mem_cons_of_mem _ (look_mem h)
    · cases h; cases Nat.eq_of_beq_eq_true hb; exact List.mem_cons_self
  | .row _ _ _ :: r, s, v, h => List.mem_cons_of_mem _ (look_mem (M := r) h)
  | .at _ _ :: r, s, v, h => List.mem_cons_of_mem _ (look_mem (M := r) h)
  | .app _ _ _ _ :: r, s, v, h => List.mem_cons_of_mem _ (look_mem (M := r) h)
def rowOf : List Fact → Nat → Option (Bool × List At)
  | [], _ => none
  | .row t o l :: r, s => bif Nat.beq t s then some (o, l) else rowOf r s
  | .slot _ _ :: r, s => rowOf r s
  | .at _ _ :: r, s => rowOf r s
  | .app _ _ _ _ :: r, s => rowOf r s
theorem rowOf_mem : ∀ {M : List Fact} {s : Nat} {o : Bool} {l : List At}, rowOf M s = some (o, l) → Fact.row s o l ∈ M
  | .row t u m :: r, s, o, l, h => by
    unfold rowOf at h
    cases hb : Nat.beq t s <;> rw [hb] at h
    · exact List.mem_cons_of_mem _ (rowOf_mem h)
    · cases h; cases Nat.eq_of_beq_eq_true hb; exact List.mem_cons_self
  | .slot _ _ :: r, s, o, l, h => List.mem_cons_of_mem _ (rowOf_mem (M := r) h)
  | .at _ _ :: r, s, o, l, h => List.mem_cons_of_mem _ (rowOf_mem (M := r) h)
  | .app _ _ _ _ :: r, s, o, l, h => List.mem_cons_of_mem _ (rowOf_mem (M := r) h)
/-- a block's own number, where it is known -/
def atOf : List Fact → Nat → Option Nat
  | [], _ => none
  | .at t b :: r, s => bif Nat.beq t s then some b else atOf r s
  | .slot _ _ :: r, s => atOf r s
  | .row _ _ _ :: r, s => atOf r s
  | .app _ _ _ _ :: r, s => atOf r s
theorem atOf_mem : ∀ {M : List Fact} {s b : Nat}, atOf M s = some b → Fact.at s b ∈ M
  | .at t c :: r, s, b, h => by
    unfold atOf at h
    cases hb : Nat.beq t s <;> rw [hb] at h
    · exact List.mem_cons_of_mem _ (atOf_mem h)
    · cases h; cases Nat.eq_of_beq_eq_true hb; exact List.mem_cons_self
  | .slot _ _ :: r, s, b, h => List.mem_cons_of_mem _ (atOf_mem (M := r) h)
  | .row _ _ _ :: r, s, b, h => List.mem_cons_of_mem _ (atOf_mem (M := r) h)
  | .app _ _ _ _ :: r, s, b, h => List.mem_cons_of_mem _ (atOf_mem (M := r) h)
/-- what is known of a block that may be appended to -/
def appOf : List Fact → Nat → Option (Nat × Nat × Nat)
  | [], _ => none
  | .app t e sz n :: r, s => bif Nat.beq t s then some (e, sz, n) else appOf r s
  | .slot _ _ :: r, s => appOf r s
  | .row _ _ _ :: r, s => appOf r s
  | .at _ _ :: r, s => appOf r s
theorem appOf_mem : ∀ {M : List Fact} {s e sz n : Nat}, appOf M s = some (e, sz, n) → Fact.app s e sz n ∈ M
  | .app t e' sz' n' :: r, s, e, sz, n, h => by
    unfold appOf at h
    cases hb : Nat.beq t s <;> rw [hb] at h
    · exact List.mem_cons_of_mem _ (appOf_mem h)
    · cases h; cases Nat.eq_of_beq_eq_true hb; exact List.mem_cons_self
  | .slot _ _ :: r, s, e, sz, n, h => List.mem_cons_of_mem _ (appOf_mem (M := r) h)
  | .row _ _ _ :: r, s, e, sz, n, h => List.mem_cons_of_mem _ (appOf_mem (M := r) h)
  | .at _ _ :: r, s, e, sz, n, h => List.mem_cons_of_mem _ (appOf_mem (M := r) h)
def ev (M : List Fact) : Operand → Option AV
  | .tmp s => look M s
  | .const v => some (.im v)
  | .func f => some (.im (.func (.func f) #[] #[]))
  | .global _ => none
theorem ev_spec {M : List Fact} {base : Nat} {β : Nat → Bk} {a : Act} {w : World} (hM : ∀ φ ∈ M, φ.ok base β a w) {x : Operand} {v : AV} (h : ev M x = some v) : a.eval x = v.den β := by
  cases x with
  | tmp s =>
    have := hM _ (look_mem h)
    simp only [Fact.ok] at this
    simp [Act.eval, this]
  | const u => cases h; rfl
  | func f => cases h; rfl
  | global g => cases h
def evs (M : List Fact) : List Operand → Option (List AV)
  | [] => some []
  | x :: r => match ev M x, evs M r with | some v, some l => some (v :: l) | _, _ => none
theorem evs_spec {M : List Fact} {base : Nat} {β : Nat → Bk} {a : Act} {w : World} (hM : ∀ φ ∈ M, φ.ok base β a w) : ∀ {xs : List Operand} {l : List AV}, evs M xs = some l → xs.map a.eval = l.map (AV.den β)
  | [], l, h => by cases h; rfl
  | x :: r, l, h => by
    unfold evs at h
    cases hx : ev M x with
    | none => rw [hx] at h; cases h
    | some v =>
      cases hr : evs M r with
      | none => rw [hx, hr] at h; cases h
      | some l' => rw [hx, hr] at h; cases h; simp [ev_spec hM hx, evs_spec hM hr]
/-- a value as a part of a flat one -/
def part? : AV → Option (List At)
  | .fl l => some l
  | .im v => bif isScal v then some [.c v] else none
  | _ => none
theorem part?_spec {v : AV} {p : List At} (h : part? v = some p) (β : Nat → Bk) : (v.den β).cells = (flat p).toArray := by
  cases v with
  | fl l => cases h; rfl
  | im u =>
    have h' : (bif isScal u then some [At.c u] else none) = some p := h
    cases hu : isScal u <;> rw [hu] at h'
    · cases h'
    · cases h'
      cases u <;> first | rfl | cases hu
  | _ => cases h
def parts? (M : List Fact) : List (Nat × Operand) → Option (List (Nat × List At))
  | [] => some []
  | (i, x) :: r => match ev M x with
    | some v => match part? v, parts? M r with | some p, some l => some ((i, p) :: l) | _, _ => none
    | none => none
/-- a literal's parts, laid one after another -/
def fillA (place : Nat → Option (Nat × Nat)) : List At → List (Nat × List At) → Option (List At)
  | l, [] => some l
  | l, (i, p) :: r => match place i with
    | none => none
    | some (off, sz) => bif Nat.beq (fsz p) sz then (match put l off p with | some l' => fillA place l' r | none => none) else none
theorem fold_set : ∀ (p B A C : List Value) (k off : Nat), A.length = off + k → B.length = p.length →
    (p.zipIdx k).foldl (fun cs (x : Value × Nat) => cs.setIfInBounds (off + x.2) x.1) (A ++ (B ++ C)).toArray = (A ++ (p ++ C)).toArray
  | [], B, A, C, k, off, hA, hB => by
    have : B = [] := List.length_eq_zero_iff.1 (by simpa using hB)
    subst this; rfl
  | v :: p, B, A, C, k, off, hA, hB => by
    cases B with
    | nil => cases hB
    | cons b B =>
      have e : (A ++ (b :: B ++ C)).toArray.setIfInBounds (off + k) v = ((A ++ [v]) ++ (B ++ C)).toArray := by
        rw [List.setIfInBounds_toArray, ← hA]
        simp
      simp only [List.zipIdx_cons, List.foldl_cons, e]
      rw [fold_set p B (A ++ [v]) C (k + 1) off (by simp [hA]; omega) (by simpa using hB)]
      simp
theorem fillA_spec {M : List Fact} {base : Nat} {β : Nat → Bk} {a : Act} {w : World} (hM : ∀ φ ∈ M, φ.ok base β a w) (place : Nat → Option (Nat × Nat)) :
    ∀ (xs : List (Nat × Operand)) (ps : List (Nat × List At)) (l l' : List At), parts? M xs = some ps → fillA place l ps = some l' →
      Instr.fill place (flat l).toArray (xs.map fun (i, x) => (i, a.eval x)) = some (flat l').toArray
  | [], ps, l, l', h, h2 => by cases h; cases h2; rfl
  | (i, x) :: r, ps, l, l', h, h2 => by
    unfold parts? at h
    cases hx : ev M x with
    | none => rw [hx] at h; cases h
    | some v =>
      rw [hx] at h
      simp only at h
      cases hp : part? v with
      | none => rw [hp] at h; cases h
      | some p =>
        cases hr : parts? M r with
        | none => rw [hp, hr] at h; cases h
        | some ps' =>
          rw [hp, hr] at h; cases h
          unfold fillA at h2
          simp only [List.map_cons, Instr.fill]
          cases hpl : place i with
          | none => rw [hpl] at h2; cases h2
          | some os =>
            obtain ⟨off, sz⟩ := os
            rw [hpl] at h2
            simp only at h2
            cases hb : Nat.beq (fsz p) sz <;> rw [hb] at h2
            · cases h2
            · have hsz := Nat.eq_of_beq_eq_true hb
              simp only [cond_true] at h2
              cases hq : put l off p with
              | none => rw [hq] at h2; cases h2
              | some l1 =>
                rw [hq] at h2
                obtain ⟨A, m, s, e, f, ha, hm⟩ := put_spec hq
                have hc := part?_spec hp β
                rw [ev_spec hM hx]
                have hsize : (AV.den β v).cells.size = sz := by rw [hc]; simp [flat_len, hsz]
                have hle : ¬ (off + (AV.den β v).cells.size > (flat l).toArray.size) := by
                  rw [hsize, e]
                  simp [flat_append, flat_len]
                  omega
                have hset : (AV.den β v).cells.zipIdx.foldl (fun cs (c, j) => cs.setIfInBounds (off + j) c) (flat l).toArray = (flat l1).toArray := by
                  rw [hc, f, e, flat_append, flat_append]
                  have := fold_set (flat p) (flat m) (flat A) (flat s) 0 off (by rw [flat_len, ha]; rfl) (by rw [flat_len, flat_len, hm])
                  simpa using this
                simp only [hset]
                rw [if_neg (by simp [hsize]; simpa [hsize] using hle)]
                exact fillA_spec hM place r ps' l1 l' hr h2
end Go.Proofs.Ytebaoemoeckgaaa.Ex
