/-
  The reckoner: loops of unknown length, a round at a time; code taken apart. Of whatever program. Conditions: the table of calls is right.
  Powers in Fp12, by any number. Conditions: none.
  The calls of the reference's Len, Shl and Shr, bit by bit: for any number of four words and any number of bits, in any world. Conditions: each word below 2^64; the number of bits an int.
  Two numbers' halves at once, as the reference's Add, Sub and Mul take them: two calls and two new blocks in one region that draws its order. Conditions: each word below 2^64.
  The calls of the reference's Add, Sub and Mul: for any two numbers of four words, in any world, the sum with its carry, the difference with its borrow, the product. Conditions: each word below 2^64.
-/
import Derived.LoopTactic
import Derived.Deep.LoopGhost
import Derived.RegionTactic
import Derived.Deep.RegionWith
import Derived.Test.YtaingnhikbaplaaGreatPf04
import Derived.Test.YtaingnhikbaplaaGreatPf20
import Derived.Test.YtaingnhikbaplaaGreatPf09
import Derived.Test.YtaingnhikbaplaaGreatPf15
import Derived.Test.YtaingnhikbaplaaGreatPf17
namespace Go.Proofs.YtaingnhikbaplaaGreat.Ex
set_option linter.unusedVariables false
set_option linter.unusedSimpArgs false
open Go.RowKit

/-- fewer facts hold too -/
theorem Holds.sub {nt base : Nat} {w0 : World} {A A' : List Fact} {a : Act} {w : World} (h : Holds nt base w0 A a w) (hs : ∀ φ ∈ A', φ ∈ A) : Holds nt base w0 A' a w := by
  obtain ⟨β, h1, h2⟩ := h.facts
  exact ⟨h.defers, h.size, h.below, h.heap, β, fun φ hφ => h1 φ (hs φ hφ), fun k k' l l' hk hk' => h2 k k' l l' (hs _ hk) (hs _ hk')⟩
/-- the facts of A at the places that K names -/
def pick (A : List Fact) : List Fact → Option (List Fact)
  | [] => some []
  | .slot s _ :: r => match look A s, pick A r with | some v, some l => some (.slot s v :: l) | _, _ => none
  | .row k _ _ :: r => match rowOf A k, pick A r with | some (o, l), some m => some (.row k o l :: m) | _, _ => none
  | .at k _ :: r => match atOf A k, pick A r with | some b, some m => some (.at k b :: m) | _, _ => none
  | .app k _ _ _ :: r => match appOf A k, pick A r with | some (e, sz, n), some m => some (.app k e sz n :: m) | _, _ => none
theorem pick_mem {A : List Fact} : ∀ {K L : List Fact}, pick A K = some L → ∀ φ ∈ L, φ ∈ A
  | [], L, h, φ, hφ => by cases h; cases hφ
  | .slot s v :: r, L, h, φ, hφ => by
    unfold pick at h
    split at h
    · rename_i u l h1 h2
      cases h
      rcases List.mem_cons.1 hφ with rfl | hφ
      · exact look_mem h1
      · exact pick_mem h2 φ hφ
    · cases h
  | .row k o m :: r, L, h, φ, hφ => by
    unfold pick at h
    split at h
    · rename_i o' l' m' h1 h2
      cases h
      rcases List.mem_cons.1 hφ with rfl | hφ
      · exact rowOf_mem h1
      · exact pick_mem h2 φ hφ
    · cases h
  | .at k b :: r, L, h, φ, hφ => by
    unfold pick at h
    split at h
    · rename_i b' m' h1 h2
      cases h
      rcases List.mem_cons.1 hφ with rfl | hφ
      · exact atOf_mem h1
      · exact pick_mem h2 φ hφ
    · cases h
  | .app k e' sz' n' :: r, L, h, φ, hφ => by
    unfold pick at h
    split at h
    · rename_i e sz n m' h1 h2
      cases h
      rcases List.mem_cons.1 hφ with rfl | hφ
      · exact appOf_mem h1
      · exact pick_mem h2 φ hφ
    · cases h
/-- code, and the facts at the places that K names -/
def runK (P : Program) (q : EqT) (nt : Nat) (C : Nat → Cfg) (n : Nat) (c : Code) (A K : List Fact) : Option (List Prop × EA × List Fact) :=
  match run P q nt C n c A with
  | some (ps, e, A1) => match pick A1 K with | some L => some (ps, e, L) | none => none
  | none => none
section
variable {P : Program} {q : EqT} {nt base : Nat} {w0 : World} {Q : Exit → Act → World → Prop}
theorem runKW_sound (hm : P.follows .mixedOrders = true) {C : Nat → Cfg} (hT : ∀ n d, TabOkW P ((C n).T d) base w0) (hq : EqOkW P q base w0) {n : Nat} {c : Code} {A K L : List Fact} {ps : List Prop} {e : EA} {a : Act} {w : World}
    (h : runK P q nt C n c A K = some (ps, e, L)) (hps : allP ps) (hA : Holds nt base w0 A a w) (hQ : ∀ a w, Holds nt base w0 L a w → Q e.out a w) : c.wp P Q a w := by
  unfold runK at h
  split at h
  · rename_i ps' e' A1 h1
    split at h
    · rename_i L' h2
      cases h
      exact (run_sound hm hT hq n c A A1 ps e a w Q h1 hps hA fun a w hA1 => hQ a w (hA1.sub (pick_mem h2))).1
    · cases h
  · cases h
/-- a loop: round i leads from the facts A i to A (i + 1); the round behind the last leaves with e -/
theorem loop_roundsQ (hm : P.follows .mixedOrders = true) (q : Nat → EqT) (hq : ∀ i, EqOkW P (q i) base w0) {c : Code} {f : Nat} (A : Nat → List Fact) (C : Nat → Nat → Cfg) (hT : ∀ i n d, TabOkW P ((C i n).T d) base w0) (N : Nat)
    (hstep : ∀ i, i < N → ∃ ps, runK P (q i) nt (C i) f c (A i) (A (i + 1)) = some (ps, .nrm, A (i + 1)) ∧ allP ps)
    (e : EA) (he : e ≠ .nrm) (A' : List Fact) (hend : ∃ ps, runK P (q N) nt (C N) f c (A N) A' = some (ps, e, A') ∧ allP ps)
    {a : Act} {w : World} (hA : Holds nt base w0 (A 0) a w) (hQ : ∀ a w, Holds nt base w0 A' a w → Q e.out a w) : (Code.loop c).wp P Q a w := by
  have key : ∀ m i a w, i + m = N → Holds nt base w0 (A i) a w → Un P c Q (m + 1) a w := by
    intro m
    induction m with
    | zero =>
      intro i a w hi hA
      have : i = N := by omega
      subst this
      obtain ⟨ps, h1, h2⟩ := hend
      unfold Un
      refine runKW_sound hm (hT i) (hq i) h1 h2 hA fun a w hA1 => ?_
      have := hQ a w hA1
      cases e with
      | nrm => exact (he rfl).elim
      | ex id => exact this
      | rt => exact this
    | succ m ih =>
      intro i a w hi hA
      obtain ⟨ps, h1, h2⟩ := hstep i (by omega)
      unfold Un
      exact runKW_sound hm (hT i) (hq i) h1 h2 hA fun a w hA1 => ih (i + 1) a w (by omega) hA1
  exact wp_loop_un (key N 0 a w (by omega) hA)
theorem runK_sound (hm : P.follows .mixedOrders = true) {C : Nat → Cfg} (hT : ∀ n d, TabOk P ((C n).T d)) (hq : EqOk P q) {n : Nat} {c : Code} {A K L : List Fact} {ps : List Prop} {e : EA} {a : Act} {w : World}
    (h : runK P q nt C n c A K = some (ps, e, L)) (hps : allP ps) (hA : Holds nt base w0 A a w) (hQ : ∀ a w, Holds nt base w0 L a w → Q e.out a w) : c.wp P Q a w :=
  runKW_sound hm (fun n d => (hT n d).w _ _) (hq.w _ _) h hps hA hQ
theorem loop_rounds (hm : P.follows .mixedOrders = true) (hq : EqOk P q) {c : Code} {f : Nat} (A : Nat → List Fact) (C : Nat → Nat → Cfg) (hT : ∀ i n d, TabOk P ((C i n).T d)) (N : Nat)
    (hstep : ∀ i, i < N → ∃ ps, runK P q nt (C i) f c (A i) (A (i + 1)) = some (ps, .nrm, A (i + 1)) ∧ allP ps)
    (e : EA) (he : e ≠ .nrm) (A' : List Fact) (hend : ∃ ps, runK P q nt (C N) f c (A N) A' = some (ps, e, A') ∧ allP ps)
    {a : Act} {w : World} (hA : Holds nt base w0 (A 0) a w) (hQ : ∀ a w, Holds nt base w0 A' a w → Q e.out a w) : (Code.loop c).wp P Q a w :=
  loop_roundsQ hm (fun _ => q) (fun _ => hq.w _ _) A C (fun i n d => (hT i n d).w _ _) N hstep e he A' hend hA hQ
/-- a function taken apart: its body's facts at the start; what it answers -/
theorem fn_enter {f : FuncId} {fn : Func} (hf : P.funcs[f]? = some fn) {c : Code} (hb : fn.body = some c) {cs : List CA} {args : List Value} {w : World} (ha : CAs w cs args) (hn : cs.length ≤ fn.ntmps) {R : Ending → World → Prop}
    (h : ∀ a w', Holds fn.ntmps w.heap.size w (argF 0 cs) a w' → c.wp P (bodyPost P fn R) a w') : Calls P f args.toArray w R := by
  have hlen : ∀ (cs : List CA) (vs : List Value), CAs w cs vs → cs.length = vs.length := fun cs => by
    induction cs with
    | nil => intro vs h; cases vs with | nil => rfl | cons _ _ => exact h.elim
    | cons c cs ih => intro vs h; cases vs with | nil => cases c <;> exact h.elim | cons v vs => cases c <;> exact congrArg (· + 1) (ih vs h.2)
  have hle' : args.length ≤ fn.ntmps := by rw [← hlen cs args ha]; exact hn
  refine calls_of_wp hf hb (h _ _ ?_)
  obtain ⟨β, hβ⟩ := argF_ok { tmps := args.toArray ++ Array.replicate (fn.ntmps - args.toArray.size) undef, defers := [] } w cs args 0 ha (fun j v hj => by
    have hlt : j < args.length := (List.getElem?_eq_some_iff.1 hj).1
    simp only [Nat.zero_add]
    rw [Array.getElem?_append_left (by simpa using hlt)]
    simpa using hj)
  exact ⟨rfl, by simp; omega, Below.refl _ _, Nat.le_refl _, β, hβ, fun k k' l l' hk => by
    have : ∀ (cs : List CA) (i : Nat) (k : Nat) (l : List At), Fact.row k true l ∈ argF i cs → False := fun cs => by
      induction cs with
      | nil => intro i k l h; cases h
      | cons c cs ih =>
        intro i k l h
        cases c with
        | v x => rcases List.mem_cons.1 h with h | h; · cases h
                 · exact ih _ _ _ h
        | s l1 n1 m1 =>
          rcases List.mem_cons.1 h with h | h
          · cases h
          · rcases List.mem_cons.1 h with h | h
            · cases h
            · exact ih _ _ _ h
        | so l1 n1 =>
          rcases List.mem_cons.1 h with h | h
          · cases h
          · rcases List.mem_cons.1 h with h | h
            · cases h
            · exact ih _ _ _ h
    exact (this cs 0 k l hk).elim⟩
theorem fn_leave {fn : Func} {A : List Fact} {l : List TV} {r : RV} {w : World} (h1 : resTs P A fn.results.toList = some l) (h2 : rv l = some r) {a : Act} {w' : World} (hA : Holds nt w.heap.size w A a w') : bodyPost P fn (fun e w' => e = .returned r.den ∧ Below w.heap.size w w') .ret a w' := by
  obtain ⟨β', hok, _⟩ := hA.facts
  have hres : (results fn a.tmps).run P w' = .ok r.den w' := by
    have := resTs_spec hok h1
    show ((fn.results.mapM (resF a.tmps)) >>= fun vs => pure (if h : vs.size = 1 then vs[0] else .tuple vs) : Sem Value).run P w' = _
    have hm : (List.toArray <$> fn.results.toList.mapM (resF a.tmps)).run P w' = .ok (l.map TV.den).toArray w' := by simp [this]
    rw [Array.mapM_eq_mapM_toList, Sem.run_bind, hm, Result.andThen_ok, Sem.run_pure]
    exact congrArg (fun x => Result.ok x w') (rv_spec h2)
  exact ⟨hA.defers, _, hres, rfl, hA.below⟩
end
/-- a sequence's parts, a block's, a loop's -/
def cA : Code → Code
  | .seq a _ => a
  | c => c
def cB : Code → Code
  | .seq _ b => b
  | c => c
def cIn : Code → Code
  | .block _ c => c
  | .loop c => c
  | c => c
end Go.Proofs.YtaingnhikbaplaaGreat.Ex
namespace Go.Proofs.YtaingnhikbaplaaGreat.Ex
set_option linter.unusedVariables false
set_option linter.unusedSimpArgs false
open Go.RowKit

/-- a number's length -/
def lenF (n : Nat) : Nat := if wv n = 0 then 0 else Nat.log2 (wv n) + 1
theorem lenF_is (n : Nat) : LenIs (wv n) (lenF n) := by
  unfold lenF
  by_cases h : wv n = 0
  · rw [if_pos h, h]; exact ⟨by decide, fun h => by cases h⟩
  · rw [if_neg h]
    exact ⟨Nat.lt_log2_self, fun _ => by rw [Nat.add_sub_cancel]; exact Nat.log2_self_le h⟩
theorem wv_lt (n : Nat) : wv n < 2 ^ 256 := by
  obtain ⟨h0, h1, h2, h3⟩ := fw_ok n
  unfold wv val4
  have : (2 : Nat) ^ 256 = 115792089237316195423570985008687907853269984665640564039457584007913129639936 := by decide
  omega
theorem lenF_le (n : Nat) : lenF n ≤ 256 := by
  rcases Nat.lt_or_ge 256 (lenF n) with h | h
  · have h1 := (lenF_is n).2 (by omega)
    have h2 := Nat.pow_le_pow_right (show 0 < 2 by omega) (show 256 ≤ lenF n - 1 by omega)
    have := wv_lt n
    omega
  · exact h
def gLen : Ent
  | [.v (.fl l)] => match rq1 l with
    | some n => some ([], .one (.im (.int .i64 (lenF n : Nat))))
    | none => none
  | _ => none
theorem len_ok : ∀ cs pre r, gLen cs = some (pre, r) → allP pre → ∀ (args : List Value) (w : World), CAs w cs args → Good Tryz.prog 247 r args w := by
  intro cs pre r hg hp args w ha
  unfold gLen at hg
  split at hg
  · rename_i l
    split at hg
    · rename_i n hn
      cases hg
      rw [args1 ha, rq1_ok l _ hn]
      refine (len_calls _ _ _ _ (fw_ok n) w).mono ?_
      rintro e w' ⟨L, rfl, _, h, hbl⟩
      cases h.uniq (lenF_is n)
      exact ⟨rfl, hbl⟩
    · cases hg
  · cases hg
def gBit : Ent
  | [.v (.fl l), .v (.im (.int .i64 (.ofNat i)))] => match rq1 l with
    | some n => some ([i < 256], .one (.im (.int .i64 (bitOf (wv n) i : Nat))))
    | none => none
  | _ => none
theorem bit_ok : ∀ cs pre r, gBit cs = some (pre, r) → allP pre → ∀ (args : List Value) (w : World), CAs w cs args → Good Tryz.prog 204 r args w := by
  intro cs pre r hg hp args w ha
  unfold gBit at hg
  split at hg
  · rename_i l i
    split at hg
    · rename_i n hn
      cases hg
      match args, ha with
      | [v, u], ha =>
        have h1 : v = .agg (flat l).toArray := ha.1
        have h2 : u = .int .i64 (Int.ofNat i) := ha.2.1
        rw [rq1_ok l _ hn] at h1
        subst h1; subst h2
        exact bit_in _ _ _ _ i (fw_ok n) hp.1 w
      | [], ha => exact ha.elim
      | [_], ha => exact ha.2.elim
      | _ :: _ :: _ :: _, ha => exact ha.2.2.elim
    · cases hg
  · cases hg

noncomputable def T_Len (c : Bool) : Tab := (T_Conj12 c).add 247 gLen
theorem ok_Len (c : Bool) : TabOk Tryz.prog (T_Len c) := (ok_Conj12 c).add Tryz.func247 (by kernel_rfl) (by kernel_rfl) len_ok
noncomputable def T_Bit (c : Bool) : Tab := (T_Len c).add 204 gBit
theorem ok_Bit (c : Bool) : TabOk Tryz.prog (T_Bit c) := (ok_Len c).add Tryz.func204 (by kernel_rfl) (by kernel_rfl) bit_ok
theorem i64_small (k : Int) (h0 : -1000 < k) (h1 : k < 1000) : IntKind.i64.wrap k = k := IntWalk.i64_in _ (by omega)
theorem eql_b (v : Nat) (b : Bool) (h : v = if b then 1 else 0) : intOp .eql .i64 (v : Nat) 1 = some (.bool b) := by
  subst h
  cases b <;> rfl
/-- what the highest i bits make -/
theorem top_step (n i : Nat) (h : i < lenF n) : wv n / 2 ^ (lenF n - (i + 1)) = 2 * (wv n / 2 ^ (lenF n - i)) + bitOf (wv n) (lenF n - 1 - i) := by
  have e : lenF n - i = (lenF n - (i + 1)) + 1 := by omega
  have e2 : lenF n - 1 - i = lenF n - (i + 1) := by omega
  unfold bitOf
  rw [e, e2, Nat.pow_succ, ← Nat.div_div_eq_div_mul]
  omega
theorem rq1_v : Rdv rq1 q1 (fun n => n) := fun l n h => ⟨n, rq1_ok l n h, rfl⟩
end Go.Proofs.YtaingnhikbaplaaGreat.Ex
namespace Go.Proofs.YtaingnhikbaplaaGreat.R1
set_option linter.unusedVariables false
set_option linter.unusedSimpArgs false
open Go.RowKit

theorem len_down {A m : Nat} (h : A < 2 ^ (m + 1)) (hb : bitOf A m = 0) : A < 2 ^ m := by
  unfold bitOf at hb
  have h1 : A / 2 ^ m < 2 := by rw [Nat.div_lt_iff_lt_mul (Nat.pow_pos (by omega)), Nat.mul_comm, ← Nat.pow_succ]; exact h
  have h2 : A / 2 ^ m = 0 := by generalize A / 2 ^ m = q at h1 hb; omega
  have h3 := Nat.div_add_mod A (2 ^ m)
  have h4 := Nat.mod_lt A (show 0 < 2 ^ m from Nat.pow_pos (by omega))
  rw [h2] at h3; omega
theorem len_is {A m : Nat} (h : A < 2 ^ (m + 1)) (hb : bitOf A m = 1) : LenIs A (m + 1) := by
  refine ⟨h, fun _ => ?_⟩
  unfold bitOf at hb
  have h1 : 1 ≤ A / 2 ^ m := by
    rcases Nat.eq_zero_or_pos (A / 2 ^ m) with e | e
    · rw [e] at hb; omega
    · exact e
  exact (Nat.one_le_div_iff (Nat.pow_pos (by omega))).1 h1

def LenP (A : Nat) (w : World) (e : Ending) (w' : World) : Prop :=
  ∃ L : Nat, e = .returned (.int .i64 L) ∧ L ≤ 256 ∧ LenIs A L ∧ Below w.heap.size w w'

theorem refLen_calls (a0 a1 a2 a3 : Nat) (ha : ok4 a0 a1 a2 a3) (w : World) :
    Calls Tryz.prog 140 #[.agg #[.int .u64 a0, .int .u64 a1, .int .u64 a2, .int .u64 a3]] w (LenP (val4 a0 a1 a2 a3) w) := by
  have h256 : val4 a0 a1 a2 a3 < 2 ^ 256 := by have := val4_lt ha; simpa using this
  have HB := Lib.hid (fun i h (w : World) => refBit_in a0 a1 a2 a3 i ha h w)
  generalize hA : val4 a0 a1 a2 a3 = A at *
  have H256 := Lib.hid h256
  clear h256 hA
  go_enter Tryz.func140, Tryz.ntmps140
  go_wp2_with fail
  go_loopw [3] (fun i wr => ∃ n : Int, -1 ≤ n ∧ n ≤ 255 ∧ i = .int .i64 n ∧ Hid (A < 2 ^ (n + 1).toNat) ∧ Mem w wr [(w.heap.size, a0, a1, a2, a3)]) (fun i _ => (intOf i + 1).toNat)
  case atStart => exact ⟨255, by omega, by omega, rfl, H256, (Mem.nil w).new w.heap.size a0 a1 a2 a3 70 rfl⟩
  case round =>
    obtain ⟨n, h1, h2, rfl, hA, m⟩ := hrel
    have M := Lib.hid m
    obtain ⟨lt_a, c0, c1, c2, c3, cf⟩ := m.get (b := w.heap.size) (c0 := a0) (c1 := a1) (c2 := a2) (c3 := a3) (by simp)
    clear m
    by_cases h0 : 0 ≤ n
    · obtain ⟨i, rfl⟩ := Int.eq_ofNat_of_zero_le h0
      have hA' := Lib.hid (show A < 2 ^ (i + 1) from hA.out)
      clear hA
      rcases bitOf_01 A i with hb | hb
      · have hB := HB.out i (by omega)
        rw [hb] at hB
        have HN := Lib.hid (len_down hA'.out hb)
        clear hb hA'
        go_wp2_with fail
        refine (hB _).mono ?_
        rintro e w1 ⟨rfl, hbl⟩
        have M' := M.out.on hbl
        clear hbl
        go_wp2_with fail
        go_roundw
        case rel => exact ⟨(i : Int) - 1, by omega, by omega, by first | rfl | go_num, Lib.hid (by rw [show ((i : Int) - 1 + 1).toNat = i by omega]; exact HN.out), M'⟩
        case measure => first | (simp [intOf]; done) | (simp [intOf]; omega)
      · have hB := HB.out i (by omega)
        rw [hb] at hB
        have HN := Lib.hid (len_is hA'.out hb)
        clear hb hA'
        go_wp2_with fail
        refine (hB _).mono ?_
        rintro e w1 ⟨rfl, hbl⟩
        have M' := M.out.on hbl
        clear hbl
        go_wp2_with fail
        go_ret
        exact ⟨i + 1, rfl, by omega, HN.out, M'.1⟩
    · obtain rfl : n = -1 := by omega
      go_wp2_with fail
      go_ret
      exact ⟨0, rfl, by omega, ⟨hA.out, fun h => absurd h (by omega)⟩, M.out.1⟩

end Go.Proofs.YtaingnhikbaplaaGreat.R1
namespace Go.Proofs.YtaingnhikbaplaaGreat.R1
set_option linter.unusedVariables false
set_option linter.unusedSimpArgs false
open Go.RowKit

theorem readyB_at {ops : Array Oper} {got : Nat → Bool} {i : Nat} {o : Oper} {e : Edge} (h : readyB .any ops got i = true) (ho : ops[i]? = some o) (he : e ∈ o.after) (hb : Region.binds .any e = true) : got e.on = true := by
  unfold readyB at h
  rw [ho] at h
  have := (Array.all_eq_true_iff_forall_mem.1 h) e he
  simpa [hb] using this

def HalfV (A : Nat) (t : Value) : Prop := ∃ x0 x1 x2 x3 x4 x5 x6 x7 : Nat, t = .agg #[.int .u64 x0, .int .u64 x1, .int .u64 x2, .int .u64 x3, .int .u64 x4, .int .u64 x5, .int .u64 x6, .int .u64 x7] ∧ ok8 x0 x1 x2 x3 x4 x5 x6 x7 ∧ Hid (val8 x0 x1 x2 x3 x4 x5 x6 x7 = A)
def FreshZ (wr u : World) (t : Value) : Prop := ∃ p, t = .pointer (some ⟨p, 0, none⟩) ∧ wr.heap.size ≤ p ∧ p < u.heap.size ∧ RowIs u p 8 (fun _ => 0)
theorem FreshZ.grow {wr u u' : World} {t : Value} (h : FreshZ wr u t) (hb : Below u.heap.size u u') : FreshZ wr u' t := by
  obtain ⟨p, e, h1, h2, r⟩ := h
  exact ⟨p, e, h1, Nat.lt_of_lt_of_le h2 hb.size, r.below hb h2⟩

structure RI (got : Nat → Bool) (wr : World) (a0 a1 a2 a3 b0 b1 b2 b3 : Nat) (t6 t7 s0 s1 s2 s3 : Value) (u : World) : Prop where
  below : Below wr.heap.size wr u
  g0 : got 0 = true → s0 = .agg #[.int .u64 a0, .int .u64 a1, .int .u64 a2, .int .u64 a3]
  g1 : got 1 = true → HalfV (val4 a0 a1 a2 a3) s1
  g2 : got 2 = true → s2 = .agg #[.int .u64 b0, .int .u64 b1, .int .u64 b2, .int .u64 b3]
  g3 : got 3 = true → HalfV (val4 b0 b1 b2 b3) s3
  g4 : got 4 = true → FreshZ wr u t6
  g5 : got 5 = true → FreshZ wr u t7
  g45 : got 4 = true → got 5 = true → t6 ≠ t7
section
variable {got : Nat → Bool} {wr u u' : World} {a0 a1 a2 a3 b0 b1 b2 b3 : Nat} {t6 t7 s0 s1 s2 s3 : Value}
theorem RI.start (wr : World) (a0 a1 a2 a3 b0 b1 b2 b3 : Nat) : RI (fun _ => false) wr a0 a1 a2 a3 b0 b1 b2 b3 undef undef undef undef undef undef wr.drew :=
  ⟨(Below.refl _ _).drew, fun h => Bool.noConfusion h, fun h => Bool.noConfusion h, fun h => Bool.noConfusion h, fun h => Bool.noConfusion h, fun h => Bool.noConfusion h, fun h => Bool.noConfusion h, fun h => Bool.noConfusion h⟩
theorem RI.op0 (h : RI got wr a0 a1 a2 a3 b0 b1 b2 b3 t6 t7 s0 s1 s2 s3 u) : RI (fun j => j == 0 || got j) wr a0 a1 a2 a3 b0 b1 b2 b3 t6 t7 (.agg #[.int .u64 a0, .int .u64 a1, .int .u64 a2, .int .u64 a3]) s1 s2 s3 u :=
  ⟨h.below, fun _ => rfl, fun e => h.g1 (by simpa using e), fun e => h.g2 (by simpa using e), fun e => h.g3 (by simpa using e), fun e => h.g4 (by simpa using e), fun e => h.g5 (by simpa using e), fun e f => h.g45 (by simpa using e) (by simpa using f)⟩
theorem RI.op2 (h : RI got wr a0 a1 a2 a3 b0 b1 b2 b3 t6 t7 s0 s1 s2 s3 u) : RI (fun j => j == 2 || got j) wr a0 a1 a2 a3 b0 b1 b2 b3 t6 t7 s0 s1 (.agg #[.int .u64 b0, .int .u64 b1, .int .u64 b2, .int .u64 b3]) s3 u :=
  ⟨h.below, fun e => h.g0 (by simpa using e), fun e => h.g1 (by simpa using e), fun _ => rfl, fun e => h.g3 (by simpa using e), fun e => h.g4 (by simpa using e), fun e => h.g5 (by simpa using e), fun e f => h.g45 (by simpa using e) (by simpa using f)⟩
theorem RI.op1 (h : RI got wr a0 a1 a2 a3 b0 b1 b2 b3 t6 t7 s0 s1 s2 s3 u) {x : Value} (hx : HalfV (val4 a0 a1 a2 a3) x) : RI (fun j => j == 1 || got j) wr a0 a1 a2 a3 b0 b1 b2 b3 t6 t7 s0 x s2 s3 u :=
  ⟨h.below, fun e => h.g0 (by simpa using e), fun _ => hx, fun e => h.g2 (by simpa using e), fun e => h.g3 (by simpa using e), fun e => h.g4 (by simpa using e), fun e => h.g5 (by simpa using e), fun e f => h.g45 (by simpa using e) (by simpa using f)⟩
theorem RI.op3 (h : RI got wr a0 a1 a2 a3 b0 b1 b2 b3 t6 t7 s0 s1 s2 s3 u) {x : Value} (hx : HalfV (val4 b0 b1 b2 b3) x) : RI (fun j => j == 3 || got j) wr a0 a1 a2 a3 b0 b1 b2 b3 t6 t7 s0 s1 s2 x u :=
  ⟨h.below, fun e => h.g0 (by simpa using e), fun e => h.g1 (by simpa using e), fun e => h.g2 (by simpa using e), fun _ => hx, fun e => h.g4 (by simpa using e), fun e => h.g5 (by simpa using e), fun e f => h.g45 (by simpa using e) (by simpa using f)⟩
theorem RI.grow (h : RI got wr a0 a1 a2 a3 b0 b1 b2 b3 t6 t7 s0 s1 s2 s3 u) (hb : Below u.heap.size u u') : RI got wr a0 a1 a2 a3 b0 b1 b2 b3 t6 t7 s0 s1 s2 s3 u' :=
  ⟨h.below.trans (hb.mono h.below.size), h.g0, h.g1, h.g2, h.g3, fun e => (h.g4 e).grow hb, fun e => (h.g5 e).grow hb, h.g45⟩
theorem fresh_new (wr u : World) (hs : wr.heap.size ≤ u.heap.size) (t : TypeId) : FreshZ wr (u.alloc (.cells #[.int .u64 0, .int .u64 0, .int .u64 0, .int .u64 0, .int .u64 0, .int .u64 0, .int .u64 0, .int .u64 0] t)) (.pointer (some ⟨u.heap.size, 0, none⟩)) :=
  ⟨_, rfl, hs, by simp, by
    intro k hk
    refine ⟨?_, World.frozen?_alloc_new _ _ _ _⟩
    rw [World.cell?_alloc_new]
    match k, hk with
    | 0, _ | 1, _ | 2, _ | 3, _ | 4, _ | 5, _ | 6, _ | 7, _ => rfl⟩
theorem below_alloc (u : World) (o : Obj) : Below u.heap.size u (u.alloc o) := (Below.refl _ _).alloc (Nat.le_refl _) o
theorem fresh_ne {wr u : World} {t : Value} (h : FreshZ wr u t) : t ≠ .pointer (some ⟨u.heap.size, 0, none⟩) := by
  obtain ⟨p, rfl, _, h2, _⟩ := h
  intro e
  injection e with e
  injection e with e
  injection e with e
  omega
theorem RI.op4 (h : RI got wr a0 a1 a2 a3 b0 b1 b2 b3 t6 t7 s0 s1 s2 s3 u) (t : TypeId) : RI (fun j => j == 4 || got j) wr a0 a1 a2 a3 b0 b1 b2 b3 (.pointer (some ⟨u.heap.size, 0, none⟩)) t7 s0 s1 s2 s3 (u.alloc (.cells #[.int .u64 0, .int .u64 0, .int .u64 0, .int .u64 0, .int .u64 0, .int .u64 0, .int .u64 0, .int .u64 0] t)) :=
  ⟨h.below.alloc h.below.size _, fun e => h.g0 (by simpa using e), fun e => h.g1 (by simpa using e), fun e => h.g2 (by simpa using e), fun e => h.g3 (by simpa using e),
    fun _ => fresh_new wr u h.below.size t, fun e => (h.g5 (by simpa using e)).grow (below_alloc _ _), fun _ f => (fresh_ne (h.g5 (by simpa using f))).symm⟩
theorem RI.op5 (h : RI got wr a0 a1 a2 a3 b0 b1 b2 b3 t6 t7 s0 s1 s2 s3 u) (t : TypeId) : RI (fun j => j == 5 || got j) wr a0 a1 a2 a3 b0 b1 b2 b3 t6 (.pointer (some ⟨u.heap.size, 0, none⟩)) s0 s1 s2 s3 (u.alloc (.cells #[.int .u64 0, .int .u64 0, .int .u64 0, .int .u64 0, .int .u64 0, .int .u64 0, .int .u64 0, .int .u64 0] t)) :=
  ⟨h.below.alloc h.below.size _, fun e => h.g0 (by simpa using e), fun e => h.g1 (by simpa using e), fun e => h.g2 (by simpa using e), fun e => h.g3 (by simpa using e),
    fun e => (h.g4 (by simpa using e)).grow (below_alloc _ _), fun _ => fresh_new wr u h.below.size t, fun e _ => fresh_ne (h.g4 (by simpa using e))⟩
theorem RI.all (h : RI got wr a0 a1 a2 a3 b0 b1 b2 b3 t6 t7 s0 s1 s2 s3 u) (hg : ∀ j, j < 6 → got j = true) :
    ∃ p q x0 x1 x2 x3 x4 x5 x6 x7 y0 y1 y2 y3 y4 y5 y6 y7 : Nat, t6 = .pointer (some ⟨p, 0, none⟩) ∧ t7 = .pointer (some ⟨q, 0, none⟩) ∧
      s1 = .agg #[.int .u64 x0, .int .u64 x1, .int .u64 x2, .int .u64 x3, .int .u64 x4, .int .u64 x5, .int .u64 x6, .int .u64 x7] ∧ s3 = .agg #[.int .u64 y0, .int .u64 y1, .int .u64 y2, .int .u64 y3, .int .u64 y4, .int .u64 y5, .int .u64 y6, .int .u64 y7] ∧
      ok8 x0 x1 x2 x3 x4 x5 x6 x7 ∧ ok8 y0 y1 y2 y3 y4 y5 y6 y7 ∧ Hid (val8 x0 x1 x2 x3 x4 x5 x6 x7 = val4 a0 a1 a2 a3) ∧ Hid (val8 y0 y1 y2 y3 y4 y5 y6 y7 = val4 b0 b1 b2 b3) ∧
      wr.heap.size ≤ p ∧ wr.heap.size ≤ q ∧ p < u.heap.size ∧ q < u.heap.size ∧ ¬ p = q ∧ RowIs u p 8 (fun _ => 0) ∧ RowIs u q 8 (fun _ => 0) ∧ Below wr.heap.size wr u := by
  obtain ⟨x0, x1, x2, x3, x4, x5, x6, x7, e1, hx, ex⟩ := h.g1 (hg 1 (by omega))
  obtain ⟨y0, y1, y2, y3, y4, y5, y6, y7, e2, hy, ey⟩ := h.g3 (hg 3 (by omega))
  obtain ⟨p, e3, lp, up, rp⟩ := h.g4 (hg 4 (by omega))
  obtain ⟨q, e4, lq, uq, rq⟩ := h.g5 (hg 5 (by omega))
  refine ⟨p, q, x0, x1, x2, x3, x4, x5, x6, x7, y0, y1, y2, y3, y4, y5, y6, y7, e3, e4, e1, e2, hx, hy, ex, ey, lp, lq, up, uq, fun e => ?_, rp, rq, h.below⟩
  subst e
  exact h.g45 (hg 4 (by omega)) (hg 5 (by omega)) (e3.trans e4.symm)
end

/-- What stands behind the region: the two blocks hold the halves. -/
structure TwoH (wr u : World) (p q : Nat) (X Y : Nat → Nat) (A B : Nat) : Prop where
  below : Below wr.heap.size wr u
  lp : wr.heap.size ≤ p
  lq : wr.heap.size ≤ q
  up : p < u.heap.size
  uq : q < u.heap.size
  ne : ¬ p = q
  rowX : RowIs u p 8 X
  rowY : RowIs u q 8 Y
  ltX : ∀ k, X k < 4294967296
  ltY : ∀ k, Y k < 4294967296
  eX : tot 4294967296 X 8 = A
  eY : tot 4294967296 Y 8 = B
def set8 (w : World) (b : Nat) (d0 d1 d2 d3 d4 d5 d6 d7 : Nat) : World :=
  (((((((w.setCell ⟨b, 0, none⟩ (.int .u64 d0)).setCell ⟨b, 1, none⟩ (.int .u64 d1)).setCell ⟨b, 2, none⟩ (.int .u64 d2)).setCell ⟨b, 3, none⟩ (.int .u64 d3)).setCell ⟨b, 4, none⟩ (.int .u64 d4)).setCell ⟨b, 5, none⟩ (.int .u64 d5)).setCell ⟨b, 6, none⟩ (.int .u64 d6)).setCell ⟨b, 7, none⟩ (.int .u64 d7)
theorem RowIs.ext {w : World} {b n : Nat} {P R : Nat → Nat} (h : RowIs w b n P) (e : ∀ k, k < n → P k = R k) : RowIs w b n R := fun k hk => ⟨by rw [← e k hk]; exact h.cell hk, h.free hk⟩
theorem RowIs.set8 {w : World} {b : Nat} {P : Nat → Nat} (h : RowIs w b 8 P) (d0 d1 d2 d3 d4 d5 d6 d7 : Nat) : RowIs (Go.Proofs.YtaingnhikbaplaaGreat.set8 w b d0 d1 d2 d3 d4 d5 d6 d7) b 8 (fnOf [d0, d1, d2, d3, d4, d5, d6, d7]) := by
  have r := (((((((h.set (show 0 < 8 by omega) (v := d0)).set (show 1 < 8 by omega) (v := d1)).set (show 2 < 8 by omega) (v := d2)).set (show 3 < 8 by omega) (v := d3)).set (show 4 < 8 by omega) (v := d4)).set (show 5 < 8 by omega) (v := d5)).set (show 6 < 8 by omega) (v := d6)).set (show 7 < 8 by omega) (v := d7)
  unfold Go.Proofs.YtaingnhikbaplaaGreat.set8
  refine r.ext fun k hk => ?_
  match k, hk with
  | 0, _ | 1, _ | 2, _ | 3, _ | 4, _ | 5, _ | 6, _ | 7, _ => rfl
theorem RowIs.set8_other {w : World} {b c n : Nat} {P : Nat → Nat} (h : RowIs w b n P) (hc : c ≠ b) (d0 d1 d2 d3 d4 d5 d6 d7 : Nat) : RowIs (Go.Proofs.YtaingnhikbaplaaGreat.set8 w c d0 d1 d2 d3 d4 d5 d6 d7) b n P :=
  (((((((h.other hc _).other hc _).other hc _).other hc _).other hc _).other hc _).other hc _).other hc _
theorem below_set8 {B : Nat} {w w' : World} {b : Nat} (h : Below B w w') (hb : B ≤ b) (d0 d1 d2 d3 d4 d5 d6 d7 : Nat) : Below B w (set8 w' b d0 d1 d2 d3 d4 d5 d6 d7) :=
  (((((((h.setCell (p := ⟨b, 0, none⟩) hb _).setCell (p := ⟨b, 1, none⟩) hb _).setCell (p := ⟨b, 2, none⟩) hb _).setCell (p := ⟨b, 3, none⟩) hb _).setCell (p := ⟨b, 4, none⟩) hb _).setCell (p := ⟨b, 5, none⟩) hb _).setCell (p := ⟨b, 6, none⟩) hb _).setCell (p := ⟨b, 7, none⟩) hb _
theorem size_set8 (w : World) (b d0 d1 d2 d3 d4 d5 d6 d7 : Nat) : (set8 w b d0 d1 d2 d3 d4 d5 d6 d7).heap.size = w.heap.size := by
  unfold set8; simp only [World.size_setCell]
theorem fnOf8_lt {x0 x1 x2 x3 x4 x5 x6 x7 : Nat} (h : ok8 x0 x1 x2 x3 x4 x5 x6 x7) (k : Nat) : fnOf [x0, x1, x2, x3, x4, x5, x6, x7] k < 4294967296 := by
  obtain ⟨h0, h1, h2, h3, h4, h5, h6, h7⟩ := h
  unfold fnOf
  match k with
  | 0 => exact h0
  | 1 => exact h1
  | 2 => exact h2
  | 3 => exact h3
  | 4 => exact h4
  | 5 => exact h5
  | 6 => exact h6
  | 7 => exact h7
  | k + 8 => simp
theorem val8_tot (P : Nat → Nat) : val8 (P 0) (P 1) (P 2) (P 3) (P 4) (P 5) (P 6) (P 7) = tot 4294967296 P 8 := by
  unfold val8
  simp only [tot]
  omega
theorem TwoH.store {wr u : World} {p q A B x0 x1 x2 x3 x4 x5 x6 x7 y0 y1 y2 y3 y4 y5 y6 y7 : Nat} (hx : ok8 x0 x1 x2 x3 x4 x5 x6 x7) (hy : ok8 y0 y1 y2 y3 y4 y5 y6 y7) (ex : Hid (val8 x0 x1 x2 x3 x4 x5 x6 x7 = A)) (ey : Hid (val8 y0 y1 y2 y3 y4 y5 y6 y7 = B))
    (lp : wr.heap.size ≤ p) (lq : wr.heap.size ≤ q) (up : p < u.heap.size) (uq : q < u.heap.size) (hpq : ¬ p = q) (rp : RowIs u p 8 (fun _ => 0)) (rq : RowIs u q 8 (fun _ => 0)) (hbl : Below wr.heap.size wr u) :
    TwoH wr (set8 (set8 u p x0 x1 x2 x3 x4 x5 x6 x7) q y0 y1 y2 y3 y4 y5 y6 y7) p q (fnOf [x0, x1, x2, x3, x4, x5, x6, x7]) (fnOf [y0, y1, y2, y3, y4, y5, y6, y7]) A B :=
  ⟨below_set8 (below_set8 hbl lp _ _ _ _ _ _ _ _) lq _ _ _ _ _ _ _ _, lp, lq, by rw [size_set8, size_set8]; exact up, by rw [size_set8, size_set8]; exact uq, hpq,
    (rp.set8 _ _ _ _ _ _ _ _).set8_other (fun e => hpq e.symm) _ _ _ _ _ _ _ _, (rq.set8_other hpq _ _ _ _ _ _ _ _).set8 _ _ _ _ _ _ _ _, fnOf8_lt hx, fnOf8_lt hy,
    (val8_tot (fnOf [x0, x1, x2, x3, x4, x5, x6, x7])).symm.trans ex.out, (val8_tot (fnOf [y0, y1, y2, y3, y4, y5, y6, y7])).symm.trans ey.out⟩

end Go.Proofs.YtaingnhikbaplaaGreat.R1
namespace Go.Proofs.YtaingnhikbaplaaGreat.R1
set_option linter.unusedVariables false
set_option linter.unusedSimpArgs false
open Go.RowKit

/-- the world in the rounds -/
structure RW (w wr : World) (p q o r n : Nat) (X Y P : Nat → Nat) : Prop where
  below : Below w.heap.size w wr
  lo : w.heap.size ≤ o
  uo : o < wr.heap.size
  op : ¬ o = p
  oq : ¬ o = q
  or : ¬ o = r
  rowX : RowIs wr p 8 X
  rowY : RowIs wr q 8 Y
  rowH : ∃ H, RowIs wr r 4 H
  ur : r < wr.heap.size
  rowP : RowIs wr o n P
  lt : ∀ k, P k < 4294967296
theorem RW.set {w wr : World} {p q o r n : Nat} {X Y P : Nat → Nat} (h : RW w wr p q o r n X Y P) {k d : Nat} (hk : k < n) (hd : d < 4294967296) :
    RW w (wr.setCell ⟨o, k, none⟩ (.int .u64 (d : Nat))) p q o r n X Y (upd P k d) :=
  ⟨h.below.setCell (p := ⟨o, k, none⟩) h.lo _, h.lo, by rw [World.size_setCell]; exact h.uo, h.op, h.oq, h.or, h.rowX.other h.op _, h.rowY.other h.oq _,
    h.rowH.elim fun H x => ⟨H, x.other h.or _⟩, by rw [World.size_setCell]; exact h.ur, h.rowP.set hk, fun x => by unfold upd; split; exact hd; exact h.lt x⟩
theorem RW.drewN {w wr : World} {p q o r n : Nat} {X Y P : Nat → Nat} (h : RW w wr p q o r n X Y P) (m : Nat) : RW w (wr.drewN m) p q o r n X Y P :=
  ⟨h.below.trans (below_drewN' _ _ _), h.lo, h.uo, h.op, h.oq, h.or, h.rowX, h.rowY, h.rowH, h.ur, h.rowP, h.lt⟩


end Go.Proofs.YtaingnhikbaplaaGreat.R1
