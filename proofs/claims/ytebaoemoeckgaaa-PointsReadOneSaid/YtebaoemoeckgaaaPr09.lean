/-
  The calls of limbs.Bytes and of the reference's Bytes once more: the block that they answer may be written, the reference's appended to. Conditions: each word below 2^64.
  The reckoner: steps that are so, one after another; loops by rounds; tables that hold from a world on. Of whatever program. Conditions: none.
  The reckoner: a region by parts; lists of blocks; made slices of zeros. Of whatever program. Conditions: none.
  Commutative rings, their square and cubic extensions, by plain words.
  Towers of pairs and triples over Fp: how their elements lie flat; what a table of calls says of functions over them. Of whatever program. Conditions: none.
-/
import Derived.Laws.MakeOwn
import Derived.Test.YtebaoemoeckgaaaPr01
import Derived.Test.YtebaoemoeckgaaaPr08
import Derived.Test.YtebaoemoeckgaaaPr07
namespace Go.Proofs.Ytebaoemoeckgaaa
set_option linter.unusedVariables false
set_option linter.unusedSimpArgs false
open Go.RowKit

theorem make32F : ∃ o : Obj, (∀ w, (Instr.makeSlice 27 (.int .i64 32) (.int .i64 32)).run Try.prog w = .ok (.slice (some ⟨w.heap.size, 0, none⟩) 32 32) (w.alloc o)) ∧ (∀ (w : World) (b : Nat), b = w.heap.size → RowB (w.alloc o) b 32 (fun _ => 0)) ∧ (∀ (w : World) (b : Nat), b = w.heap.size → ∀ j, (w.alloc o).frozen? ⟨b, j, none⟩ = false) := by
  refine ⟨.cells (Array.replicate 32 (.int .u8 0)) 5, fun _ => by kernel_rfl, fun w b hb k hk => ?_, fun w b hb j => ?_⟩
  · subst hb
    refine ⟨?_, World.frozen?_alloc_new _ _ _ _⟩
    rw [World.cell?_alloc_new]
    simp [hk]
  · subst hb
    exact World.frozen?_alloc_new _ _ _ _

set_option maxRecDepth 100000 in
set_option maxHeartbeats 1000000 in
theorem bytesF_calls (a0 a1 a2 a3 : Nat) (ha : ok4 a0 a1 a2 a3) (w : World) :
    Calls Try.prog 48 #[.agg #[.int .u64 a0, .int .u64 a1, .int .u64 a2, .int .u64 a3]] w (fun e w' => ∃ b : Nat, e = .returned (.slice (some ⟨b, 0, none⟩) 32 32) ∧ w.heap.size ≤ b ∧ b < w'.heap.size ∧ RowB w' b 32 (byteAt (val4 a0 a1 a2 a3)) ∧ Below w.heap.size w w' ∧ ∀ j, w'.frozen? ⟨b, j, none⟩ = false) := by
  obtain ⟨o, hmk, ho, hof⟩ := make32F
  have Hof := Lib.hid hof
  have hix : ∀ W, Row4 W w.heap.size a0 a1 a2 a3 → RowIs W w.heap.size 4 (fnOf [a0, a1, a2, a3]) := fun W h => h.rows
  have hP := fn4_lt ha
  have HA := Lib.hid (val4_fn a0 a1 a2 a3)
  have Ho := Lib.hid ho
  have R0 := Lib.hid ((RowIs.mk w 45 [a0, a1, a2, a3] w.heap.size rfl).alloc (by simp) o)
  have HP := Lib.hid hP
  clear ho hix hP hof
  generalize fnOf [a0, a1, a2, a3] = P at *
  rw [HA.out]
  clear HA
  generalize hv : tot 18446744073709551616 P 4 = A
  have Hv := Lib.hid hv
  clear hv
  go_enter Try.func48, Try.ntmps48
  go_wp2_with fail
  go_loopw [6] (fun x wr => ∃ i : Nat, i ≤ 32 ∧ x = .int .i64 i ∧ RowIs wr w.heap.size 4 P ∧ RowB wr (w.heap.size + 1) 32 (fun p => if 32 ≤ p + i then byteAt A p else 0) ∧ Below w.heap.size w wr ∧ w.heap.size + 1 < wr.heap.size ∧ Hid (∀ j, wr.frozen? ⟨w.heap.size + 1, j, none⟩ = false)) (fun x _ => 32 - (intOf x).toNat)
  case atStart =>
    refine ⟨0, by omega, rfl, R0.out, (Ho.out _ _ (by simp)).ext (fun k hk => by rw [if_neg (by omega)]), ?_, by simp, Lib.hid (fun j => Hof.out _ _ (by simp) j)⟩
    exact ((Below.refl _ _).alloc (Nat.le_refl _) _).alloc (by simp) _
  case round =>
    obtain ⟨i, hi, rfl, rP, rB, hb, hz, HF⟩ := hrel
    have HB := Lib.hid hb
    by_cases hlt : i < 32
    · obtain ⟨j, m, s, p, q1, q2, q3, q4, hj, hm, hs, hp, e⟩ := ex_ib hlt
      have cx := rP.cell hj
      have cb := (rB p hp).1
      have fb := (rB p hp).2
      have lx := HP.out j
      obtain ⟨t, e1, e2, lt⟩ := ex_byte (b := byteAt A p) (s := s) lx (by
        obtain ⟨k1, k2, k3⟩ := e.out
        rw [k2, word_byte P HP.out 4 j m hj hm, Hv.out, ← k1]
        unfold byteAt
        rw [k3, show 31 - (31 - i) = i by omega])
      have HrP := Lib.hid rP
      have HrB := Lib.hid ((rB.set (v := byteAt A p) hp).ext (R := fun k => if 32 ≤ k + (i + 1) then byteAt A k else 0) (fun k hk => by
        obtain ⟨k1, k2, k3⟩ := e.out
        unfold upd
        by_cases h : k = p
        · rw [if_pos h, if_pos (by omega), h]
        · rw [if_neg h]
          show (if 32 ≤ k + i then byteAt A k else 0) = _
          by_cases h' : 32 ≤ k + i
          · rw [if_pos h', if_pos (by omega)]
          · rw [if_neg h', if_neg (by omega)]))
      have lb := byteAt_lt A p
      generalize P j = x at *
      generalize byteAt A p = b at *
      clear rP rB hb e
      go_wp2_with fail
      go_roundw
      case rel => exact ⟨i + 1, by omega, by go_num, HrP.out.other (by omega) _, HrB.out, HB.out.setCell (p := ⟨w.heap.size + 1, p, none⟩) (by simp) _, by rw [World.size_setCell]; exact hz, Lib.hid (fun j => by rw [World.frozen?_setCell]; exact HF.out j)⟩
      case measure => first | (simp [intOf]; done) | (simp [intOf]; omega)
    · obtain rfl : i = 32 := by omega
      have HrB := Lib.hid (rB.ext (R := byteAt A) (fun k hk => by rw [if_pos (by omega)]))
      clear rB rP hb
      go_wp2_with fail
      go_ret
      exact ⟨w.heap.size + 1, rfl, by omega, hz, HrB.out, HB.out, HF.out⟩

set_option maxRecDepth 100000 in
set_option maxHeartbeats 4000000 in
theorem refBytesF_calls (a0 a1 a2 a3 : Nat) (ha : ok4 a0 a1 a2 a3) (w : World) :
    Calls Try.prog 50 #[.agg #[.int .u64 a0, .int .u64 a1, .int .u64 a2, .int .u64 a3]] w fun e w' => ∃ b cap : Nat, e = .returned (.slice (some ⟨b, 0, none⟩) 32 cap) ∧ w.heap.size ≤ b ∧ b < w'.heap.size ∧ (∀ k, k < 32 → w'.cell? ⟨b, k, none⟩ = some (.int .u8 (byteAt (val4 a0 a1 a2 a3) k : Nat))) ∧ Below w.heap.size w w' ∧ (∀ j, w'.frozen? ⟨b, j, none⟩ = false) ∧ Ex.AppAt w' b 5 1 32 cap := by
  have hP := fn4_lt ha
  have HA := Lib.hid (val4_fn a0 a1 a2 a3)
  have HRow := Lib.hid (RowIs.mk w 45 [a0, a1, a2, a3] w.heap.size rfl)
  have HP := Lib.hid hP
  clear hP
  generalize fnOf [a0, a1, a2, a3] = P at *
  rw [HA.out]
  clear HA
  generalize hv : tot 18446744073709551616 P 4 = A
  have Hv := Lib.hid hv
  clear hv
  obtain ⟨i0, hi, hz0, hz1, hz2⟩ := info_parts u8_info
  go_enter Try.func50, Try.ntmps50
  go_wp2_with fail
  have HW0 := Lib.hid (show Below w.heap.size w (w.alloc (.cells #[.int .u64 a0, .int .u64 a1, .int .u64 a2, .int .u64 a3] 45)) ∧ RowIs (w.alloc (.cells #[.int .u64 a0, .int .u64 a1, .int .u64 a2, .int .u64 a3] 45)) w.heap.size 4 P ∧ (w.alloc (.cells #[.int .u64 a0, .int .u64 a1, .int .u64 a2, .int .u64 a3] 45)).heap.size = w.heap.size + 1 from ⟨(Below.refl _ _).alloc (Nat.le_refl _) _, HRow.out, by simp⟩)
  clear HRow
  generalize w.alloc (.cells #[.int .u64 a0, .int .u64 a1, .int .u64 a2, .int .u64 a3] 45) = W0 at HW0 ⊢
  go_loopw [3, 4] (fun v x wr => ∃ (q : Nat) (m : Int), q ≤ 4 ∧ Hid (m = 3 - (q : Int)) ∧ x = .int .i64 m ∧ wr.ownsRow (w.heap.size + 1) 5 1 v (8 * q) (bcells A (8 * q)) ∧ Below (w.heap.size + 1) W0 wr) (fun _ x _ => (intOf x + 1).toNat)
  case atStart => exact ⟨0, 3, by omega, Lib.hid (by omega), rfl, ⟨rfl, Or.inl ⟨rfl, rfl⟩⟩, Below.refl _ _⟩
  case round =>
    obtain ⟨q, m, hq, hm, rfl, hown, hb⟩ := hrel
    by_cases hlt : q < 4
    · have Hown := Lib.hid hown
      have HB := Lib.hid hb
      obtain ⟨j, rfl, hj⟩ : ∃ j : Nat, m = (j : Int) ∧ j = 3 - q := ⟨3 - q, by have := hm.out; omega, rfl⟩
      have lj : j < 4 := by omega
      have Hj := Lib.hid hj
      have t1 : decide ((0 : Int) ≤ (j : Int)) = true := decide_eq_true (by omega)
      clear hown hb hj hm
      obtain ⟨wo, rfl⟩ : ∃ wo : World, wo = wr := ⟨_, rfl⟩
      go_wp2_with fail
      go_loopw [3, 5] (fun v x wi => ∃ (n : Nat) (m : Int), n ≤ 8 ∧ Hid (m = 7 - (n : Int)) ∧ x = .int .i64 m ∧ wi.ownsRow (w.heap.size + 1) 5 1 v (8 * q + n) (bcells A (8 * q + n)) ∧ Below (w.heap.size + 1) W0 wi) (fun _ x _ => (intOf x + 1).toNat)
      case atStart => exact ⟨0, 7, by omega, Lib.hid (by omega), rfl, Hown.out, HB.out⟩
      case round =>
        clear Hown HB
        obtain ⟨n, m, hn, hm, rfl, hown, hb⟩ := hrel
        by_cases hn8 : n < 8
        · obtain ⟨kk, hkk⟩ : ∃ kk : Nat, m = (kk : Int) := ⟨7 - n, by have := hm.out; omega⟩
          subst hkk
          have hk' : kk = 7 - n := by have := hm.out; omega
          have lk : kk ≤ 7 := by omega
          have t2 : decide ((0 : Int) ≤ (kk : Int)) = true := decide_eq_true (by omega)
          obtain ⟨sh, hsh, lsh, esh⟩ : ∃ sh : Nat, (8 : Int) * (kk : Int) = (sh : Int) ∧ sh ≤ 56 ∧ sh = 8 * kk := ⟨8 * kk, by omega, by omega, rfl⟩
          have cx := (HW0.out.2.1.below hb (by omega)).cell lj
          have lx := HP.out j
          have hby : P j / 2 ^ sh % 256 = byteAt A (8 * q + n) := by
            rw [esh, word_byte P HP.out 4 j kk lj (by omega), Hv.out]
            unfold byteAt
            have := Hj.out
            rw [show 8 * j + kk = 31 - (8 * q + n) by omega]
          obtain ⟨t, e1, e2, lt⟩ := ex_byte lx hby
          have hbl := byteAt_lt A (8 * q + n)
          have HS := Lib.hid (bcells_succ A (8 * q + n))
          generalize byteAt A (8 * q + n) = b at *
          generalize P j = x at cx lx e1
          have HO := Lib.hid hown
          have HB := Lib.hid hb
          have Hk := Lib.hid hk'
          have hz : w.heap.size + 1 ≤ wr.heap.size := by have := hb.size; have := HW0.out.2.2; omega
          clear hown hb hk' hm hby esh
          go_wp2_with (at_builtin; refine wpList_append_own _ rfl _ _ 27 rfl (w.heap.size + 1) 5 i0 (.int .u8 0) 1 1 Try.underlying27 hi hz0 hz1 hz2 rfl (by decide) _ _ _ rfl (HO.out.alloc _) ⟨wr.heap.size, 0, none⟩ 1 1 [.int .u8 (b : Nat)] rfl rfl ?c1 ?c2 ?c3 ?c4 ?c5 ?_)
          case c1 =>
            intro j u hj
            match j, hj with
            | 0, hj => simp at hj; subst hj; simp [go_sem, Addr.add]
            | j + 1, hj => simp at hj
          case c2 => intro u hu; simp at hu; subst hu; rfl
          case c3 => unfold maxLen; omega
          case c4 => omega
          case c5 => simp; omega
          intro v' w1 hown1 hgrow hne
          have HO1 := Lib.hid (show w1.ownsRow (w.heap.size + 1) 5 1 v' (8 * q + (n + 1)) (bcells A (8 * q + (n + 1))) by
            rw [show 8 * q + (n + 1) = 8 * q + n + 1 by omega, HS.out]; exact hown1)
          have HB1 := Lib.hid ((HB.out.alloc (by have := HW0.out.2.2; have := HB.out.size; omega) _).grown hgrow (by simp; omega) (fun k hk => own_ge HO.out hk))
          clear hown1 hgrow hne
          go_wp2_with fail
          go_roundw
          case rel => exact ⟨n + 1, (kk : Int) - 1, by omega, Lib.hid (by have := Hk.out; omega), by first | rfl | go_num, HO1.out, HB1.out⟩
          case measure => first | (simp [intOf]; done) | (simp [intOf]; omega)
        · obtain rfl : n = 8 := by omega
          obtain rfl : m = -1 := by have := hm.out; omega
          have HO := Lib.hid hown
          have HB := Lib.hid hb
          clear hown hb hm
          go_wp2_with fail
          go_roundw
          case rel => exact ⟨q + 1, (j : Int) - 1, by omega, Lib.hid (by have := Hj.out; omega), by first | rfl | go_num, HO.out, HB.out⟩
          case measure => first | (simp [intOf]; done) | (simp [intOf]; omega)
    · obtain rfl : q = 4 := by omega
      obtain rfl : m = -1 := by have := hm.out; omega
      obtain ⟨g, cap, hu, hg, lg⟩ := own_form hown (by omega)
      subst hu
      have HF := Lib.hid (fun k (hk : k < 32) => own_cell hown k hk)
      have HO := Lib.hid (Ex.own_app hown)
      have HB := Lib.hid (HW0.out.1.trans (hb.mono (Nat.le_succ _)))
      clear hown hb hm
      go_wp2_with fail
      go_ret
      exact ⟨g, cap, rfl, by have := HO.out.2.1; omega, lg, HF.out, HB.out, HO.out.2.2.2.2, HO.out.1⟩
end Go.Proofs.Ytebaoemoeckgaaa
namespace Go.Proofs.Ytebaoemoeckgaaa.Ex
set_option linter.unusedVariables false
set_option linter.unusedSimpArgs false
open Go.RowKit

/-- code leads from the facts A to the facts L -/
def Ok (P : Program) (base : Nat) (w0 : World) (nt : Nat) (c : Code) (A : List Fact) (e : EA) (L : List Fact) : Prop :=
  ∃ q C f ps, EqOkW P q base w0 ∧ (∀ n d, TabOkW P ((C n).T d) base w0) ∧ runK P q nt C f c A L = some (ps, e, L) ∧ allP ps
section
variable {P : Program} {nt base : Nat} {w0 : World} {Q : Exit → Act → World → Prop}
theorem Ok.wp (hm : P.follows .mixedOrders = true) {c : Code} {A L : List Fact} {e : EA} (h : Ok P base w0 nt c A e L) {a : Act} {w : World} (hA : Holds nt base w0 A a w) (hQ : ∀ a w, Holds nt base w0 L a w → Q e.out a w) : c.wp P Q a w := by
  obtain ⟨q, C, f, ps, h1, h2, h3, h4⟩ := h
  exact runKW_sound hm h2 h1 h3 h4 hA hQ
/-- a loop: round i leads from the facts A i to A (i + 1); the round behind the last leaves with e -/
theorem loop_r (hm : P.follows .mixedOrders = true) {c : Code} (A : Nat → List Fact) (N : Nat) (hstep : ∀ i, i < N → Ok P base w0 nt c (A i) .nrm (A (i + 1)))
    (e : EA) (he : e ≠ .nrm) (A' : List Fact) (hend : Ok P base w0 nt c (A N) e A')
    {a : Act} {w : World} (hA : Holds nt base w0 (A 0) a w) (hQ : ∀ a w, Holds nt base w0 A' a w → Q e.out a w) : (Code.loop c).wp P Q a w := by
  have key : ∀ m i a w, i + m = N → Holds nt base w0 (A i) a w → Un P c Q (m + 1) a w := by
    intro m
    induction m with
    | zero =>
      intro i a w hi hA
      have : i = N := by omega
      subst this
      unfold Un
      refine hend.wp hm hA fun a w hA1 => ?_
      have := hQ a w hA1
      cases e with
      | nrm => exact (he rfl).elim
      | ex id => exact this
      | rt => exact this
    | succ m ih =>
      intro i a w hi hA
      unfold Un
      exact (hstep i (by omega)).wp hm hA fun a w hA1 => ih (i + 1) a w (by omega) hA1
  exact wp_loop_un (key N 0 a w (by omega) hA)
end
theorem TabOkW.add {P : Program} {T : Tab} {base : Nat} {w0 : World} (hT : TabOkW P T base w0) {f : Nat} {fn : Func} (hf : P.funcs[f]? = some fn) (hn : (fn.name == "runtime.NumGoroutine") = false) (hb : fn.body.isNone = false) {g : List CA → Option (List Prop × RV)}
    (h : ∀ w, Below base w0 w → ∀ cs pre r, g cs = some (pre, r) → allP pre → ∀ (args : List Value), CAs w cs args → Calls P f args.toArray w (fun e w' => e = .returned r.den ∧ Below w.heap.size w w')) : TabOkW P (T.add f g) base w0 := by
  intro w hw f' cs pre r hg hp
  unfold Tab.add at hg
  cases hb' : Nat.beq f' f <;> rw [hb'] at hg
  · exact hT w hw f' cs pre r hg hp
  · cases Nat.eq_of_beq_eq_true hb'
    exact ⟨callable hf hn hb, h w hw cs pre r hg hp⟩
theorem oldOf.go {base : Nat} {w0 w : World} (hb : Below base w0 w) (hbase : base ≤ w0.heap.size) {b o : Nat} {l : List At} (h : b < base ∧ w0.rangeAt b o (flat l)) : oldOf w b o l :=
  ⟨Nat.lt_of_lt_of_le h.1 (Nat.le_trans hbase hb.size), below_range hb h.1 h.2⟩
def assoc {α : Type} : List (Nat × α) → Nat → Option α
  | [], _ => none
  | (k, v) :: r, s => bif Nat.beq k s then some v else assoc r s
def iI (n : Nat) : Value := .int .i64 (Int.ofNat n)
def slV (b o n m : Nat) : Value := .slice (some ⟨b, o, none⟩) n m
theorem i64_in' {n : Nat} (h : n < 9223372036854775808) : IntKind.i64.wrap (n : Int) = n := by rw [IntKind.wrap_i64]; omega
theorem o_gtr {i n : Nat} : intOp .gtr .i64 (Int.ofNat i) (Int.ofNat n) = some (.bool (decide (n < i))) := by
  show some (Value.bool (decide ((i : Int) > (n : Int)))) = _
  by_cases h : n < i
  · rw [decide_eq_true h, decide_eq_true (by omega)]
  · rw [decide_eq_false h, decide_eq_false (by omega)]
theorem o_sub {i k : Nat} (h : k ≤ i) (hi : i < 9223372036854775808) : intOp .sub .i64 (Int.ofNat i) (Int.ofNat k) = some (iI (i - k)) := by
  show some (Value.int .i64 (IntKind.i64.wrap ((i : Int) - (k : Int)))) = _
  rw [show (i : Int) - (k : Int) = ((i - k : Nat) : Int) by omega, i64_in' (by omega)]
  rfl
end Go.Proofs.Ytebaoemoeckgaaa.Ex
namespace Go.Proofs.Ytebaoemoeckgaaa.Ex
set_option linter.unusedVariables false
set_option linter.unusedSimpArgs false
open Go.RowKit

section
variable {E : Env} {ops big : Array Oper} {base : Nat} {w0 : World} {A A' : List Fact} {TF : List (Option Nat × Fact)} {rs : List Rec} {ps : List Prop} {Q : Exit → Act → World → Prop}
end
section
variable {P : Program} {nt base : Nat} {w0 : World} {A : List Fact} {a : Act} {w : World}
/-- a slice by its block's number -/
theorem Holds.im (h : Holds nt base w0 A a w) {s k o n m b : Nat} (h1 : Fact.slot s (.sl k o n m) ∈ A) (h2 : Fact.at k b ∈ A) : Holds nt base w0 (.slot s (.im (slV b o n m)) :: A) a w := by
  obtain ⟨β, g1, g2⟩ := h.facts
  have e1 := g1 _ h1
  have e2 := g1 _ h2
  simp only [Fact.ok] at e1 e2
  refine ⟨h.defers, h.size, h.below, h.heap, β, fun φ hφ => ?_, fun k1 k2 l1 l2 q1 q2 => ?_⟩
  · rcases List.mem_cons.1 hφ with rfl | hφ
    · show a.tmps[s]? = _
      rw [e1]
      simp [AV.den, e2, slV]
    · exact g1 φ hφ
  · rcases List.mem_cons.1 q1 with q1 | q1
    · cases q1
    · rcases List.mem_cons.1 q2 with q2 | q2
      · cases q2
      · exact g2 k1 k2 l1 l2 q1 q2
theorem Holds.old (h : Holds nt base w0 A a w) {k b : Nat} {l : List At} (h1 : Fact.row k true l ∈ A) (h2 : Fact.at k b ∈ A) : oldOf w b 0 l := by
  obtain ⟨β, g1, g2⟩ := h.facts
  obtain ⟨e1, e2, _⟩ := g1 _ h1
  have e3 := g1 _ h2
  simp only [Fact.ok] at e3
  rw [e3.1] at e1 e2
  rw [e3.2] at e2
  exact ⟨e1, e2⟩
theorem Holds.slot (h : Holds nt base w0 A a w) {s : Nat} {v : Value} (h1 : Fact.slot s (.im v) ∈ A) : a.tmps[s]? = some v := by
  obtain ⟨β, g1, g2⟩ := h.facts
  exact g1 _ h1
/-- behind a call that leaves what was there -/
theorem Holds.put (h : Holds nt base w0 A a w) {w' : World} (hb : Below w.heap.size w w') {d : Nat} (hd : d < nt) (v : TV) (hA : ∀ φ ∈ A, clob (some d) none φ = false) : Holds nt base w0 (.slot d v.av :: A) (a.put (some d) v.den) w' := by
  obtain ⟨β, g1, g2⟩ := h.facts
  have hP := post_call (base := base) (β := β) (a := a) (w := w) (w' := w') (M := A) v.av (d := d) (by rw [h.size]; exact hd) h.heap hb
  rw [TV.av_den] at hP
  refine ⟨by rw [put_defers]; exact h.defers, by rw [put_size]; exact h.size, h.below.trans (hb.mono h.heap), Nat.le_trans h.heap hb.size, β, fun φ hφ => ?_, fun k1 k2 l1 l2 q1 q2 => ?_⟩
  · rcases List.mem_cons.1 hφ with rfl | hφ
    · exact hP.ok _ (List.mem_singleton.2 rfl)
    · exact keep hP (g1 φ hφ) (hA φ hφ) fun kk k own l q => by cases q
  · rcases List.mem_cons.1 q1 with q1 | q1
    · cases q1
    · rcases List.mem_cons.1 q2 with q2 | q2
      · cases q2
      · exact g2 k1 k2 l1 l2 q1 q2
end
/-- blocks, one after another -/
def cat (f : Nat → List At) : Nat → Nat → List At
  | _, 0 => []
  | s, n + 1 => f s ++ cat f (s + 1) n
theorem cat_size {f : Nat → List At} {c : Nat} (h : ∀ j, fsz (f j) = c) : ∀ n s, fsz (cat f s n) = n * c
  | 0, s => by simp [cat, fsz]
  | n + 1, s => by
    show fsz (f s ++ cat f (s + 1) n) = _
    rw [fsz_append, h, cat_size h n, Nat.add_mul, Nat.one_mul, Nat.add_comm]
/-- the first i blocks are laid -/
def laid (f : Nat → List At) (z : List At) (N i : Nat) : List At := cat f 0 i ++ cat (fun _ => z) i (N - i)
/-- cells of one value -/
def Same (l : List Value) (v : Value) : Prop := l = List.replicate l.length v
theorem same_app {l m : List Value} {v : Value} (h : Same l v) (k : Same m v) : Same (l ++ m) v := by
  unfold Same at *
  rw [h, k]
  simp [List.replicate_append_replicate]
theorem cat_same {z : List At} {v : Value} (h : Same (flat z) v) : ∀ n s, Same (flat (cat (fun _ => z) s n)) v
  | 0, s => rfl
  | n + 1, s => by
    show Same (flat (z ++ cat (fun _ => z) (s + 1) n)) v
    rw [flat_append]
    exact same_app h (cat_same h n (s + 1))
/-- a slice of zeros is made -/
theorem made {P : Program} {t e : TypeId} {i : TypeInfo} {zv : Value} {z : List At} {v : Value} {N : Nat} (ht : P.underlying t = some (.slice e)) (hi : P.info? e = some i) (hz : i.zero = some zv) (hs : i.size = fsz z) (hv : zv.cells.toList = List.replicate i.size v) (hsame : Same (flat z) v) (h0 : 0 < fsz z)
    (hb : i.bytes * N ≤ 281474976710656) (hN : N < 4611686018427387904) :
    ∃ e, ∀ w : World, (Instr.makeSlice t (iI N) (iI N)).run P w = .ok (.slice (some ⟨w.heap.size, 0, none⟩) N N) (w.alloc (.cells (flat (cat (fun _ => z) 0 N)).toArray e)) := by
  refine ⟨e, fun w => ?_⟩
  have hr := Go.run_make (P := P) w t e i zv ht hi hz .i64 .i64 (N : Int) (N : Int) (by omega) (Int.le_refl _) (by rw [← Int.natCast_mul]; omega) (by omega)
  refine Eq.trans hr ?_
  have hsz : zv.cells.size = i.size := by rw [← Array.length_toList, hv, List.length_replicate]
  have hc : madeCells zv.cells (N * i.size) = (flat (cat (fun _ => z) 0 N)).toArray := by
    have hl := cat_size (f := fun _ => z) (c := fsz z) (fun _ => rfl) N 0
    have h2 := cat_same hsame N 0
    rw [h2, flat_len, hl, ← hs]
    unfold madeCells
    apply Array.ext
    · simp
    · intro j h1 h3
      simp only [Array.getElem_map, Array.getElem_range, List.getElem_toArray, List.getElem_replicate]
      have hj : j % zv.cells.size < zv.cells.size := Nat.mod_lt _ (by rw [hsz, hs]; exact h0)
      have e1 : zv.cells.toList[j % zv.cells.size]? = some v := by
        rw [hv, List.getElem?_replicate, if_pos (by omega)]
      rw [Array.getElem?_toList] at e1
      rw [getElem!_def, e1]
  simp only [Int.toNat_natCast, hc]
/-- what a type's elements are made of -/
theorem made' {P : Program} {t e : TypeId} {z : List At} {v : Value} {N n by8 : Nat} (ht : P.underlying t = some (.slice e)) (hi : (P.info? e).map (fun i => (i.zero.map (fun z => z.cells.toList), i.size, i.bytes)) = some (some (List.replicate n v), n, by8)) (hs : fsz z = n) (hsame : Same (flat z) v) (h0 : 0 < n)
    (hb : by8 * N ≤ 281474976710656) (hN : N < 4611686018427387904) :
    ∃ e, ∀ w : World, (Instr.makeSlice t (iI N) (iI N)).run P w = .ok (.slice (some ⟨w.heap.size, 0, none⟩) N N) (w.alloc (.cells (flat (cat (fun _ => z) 0 N)).toArray e)) := by
  cases hq : P.info? e with
  | none => rw [hq] at hi; cases hi
  | some it =>
    rw [hq] at hi
    cases hz : it.zero with
    | none => rw [Option.map_some, hz] at hi; cases hi
    | some zv =>
      rw [Option.map_some, hz] at hi
      simp only [Option.map_some, Option.some.injEq, Prod.mk.injEq] at hi
      obtain ⟨h1, h2, h3⟩ := hi
      exact made ht hq hz (by rw [h2, hs]) (by rw [h2, h1]) hsame (by rw [hs]; exact h0) (by rw [h3]; exact hb) hN
end Go.Proofs.Ytebaoemoeckgaaa.Ex
namespace Go.Proofs.Ytebaoemoeckgaaa
set_option linter.unusedVariables false
set_option linter.unusedSimpArgs false
/-- a commutative ring with one -/
structure CR (R : Type) where
  add : R → R → R
  mul : R → R → R
  neg : R → R
  zero : R
  one : R
  add_assoc : ∀ a b c, add (add a b) c = add a (add b c)
  add_comm : ∀ a b, add a b = add b a
  zero_add : ∀ a, add zero a = a
  neg_add : ∀ a, add (neg a) a = zero
  mul_assoc : ∀ a b c, mul (mul a b) c = mul a (mul b c)
  mul_comm : ∀ a b, mul a b = mul b a
  one_mul : ∀ a, mul one a = a
  mul_add : ∀ a b c, mul a (add b c) = add (mul a b) (mul a c)

namespace CR
variable {R : Type} (K : CR R)
theorem add_left_comm (a b c : R) : K.add a (K.add b c) = K.add b (K.add a c) := by rw [← K.add_assoc, K.add_comm a b, K.add_assoc]
theorem mul_left_comm (a b c : R) : K.mul a (K.mul b c) = K.mul b (K.mul a c) := by rw [← K.mul_assoc, K.mul_comm a b, K.mul_assoc]
theorem add_mul (a b c : R) : K.mul (K.add a b) c = K.add (K.mul a c) (K.mul b c) := by rw [K.mul_comm, K.mul_add, K.mul_comm c a, K.mul_comm c b]
theorem add_zero (a : R) : K.add a K.zero = a := by rw [K.add_comm, K.zero_add]
theorem add_neg (a : R) : K.add a (K.neg a) = K.zero := by rw [K.add_comm, K.neg_add]
theorem add_cancel {a b c : R} (h : K.add a b = K.add a c) : b = c := by
  have := congrArg (K.add (K.neg a)) h
  rwa [← K.add_assoc, ← K.add_assoc, K.neg_add, K.zero_add, K.zero_add] at this
theorem mul_zero (a : R) : K.mul a K.zero = K.zero := by
  apply K.add_cancel (a := K.mul a K.zero)
  rw [← K.mul_add, K.add_zero, K.add_zero]
theorem zero_mul (a : R) : K.mul K.zero a = K.zero := by rw [K.mul_comm, K.mul_zero]
theorem mul_one (a : R) : K.mul a K.one = a := by rw [K.mul_comm, K.one_mul]
theorem neg_mul (a b : R) : K.mul (K.neg a) b = K.neg (K.mul a b) := by
  apply K.add_cancel (a := K.mul a b)
  rw [← K.add_mul, K.add_neg, K.zero_mul, K.add_neg]
theorem neg_neg (a : R) : K.neg (K.neg a) = a := by
  apply K.add_cancel (a := K.neg a)
  rw [K.add_neg, K.neg_add]
theorem neg_add' (a b : R) : K.neg (K.add a b) = K.add (K.neg a) (K.neg b) := by
  apply K.add_cancel (a := K.add a b)
  rw [K.add_neg, K.add_assoc, K.add_left_comm b, K.add_neg, K.add_zero, K.add_neg]
theorem mul_neg (a b : R) : K.mul a (K.neg b) = K.neg (K.mul a b) := by rw [K.mul_comm, K.neg_mul, K.mul_comm]
def sub (a b : R) : R := K.add a (K.neg b)

/-- R[t] / (t^2 - q): pairs -/
def sq (q : R) : CR (R × R) where
  add x y := (K.add x.1 y.1, K.add x.2 y.2)
  mul x y := (K.add (K.mul x.1 y.1) (K.mul q (K.mul x.2 y.2)), K.add (K.mul x.1 y.2) (K.mul x.2 y.1))
  neg x := (K.neg x.1, K.neg x.2)
  zero := (K.zero, K.zero)
  one := (K.one, K.zero)
  add_assoc a b c := by simp only [K.add_assoc]
  add_comm a b := by rw [K.add_comm a.1, K.add_comm a.2]
  zero_add a := by simp only [K.zero_add]
  neg_add a := by simp only [K.neg_add]
  mul_assoc a b c := by
    simp only [K.mul_add, K.add_mul, K.mul_assoc, K.mul_left_comm, K.add_assoc, K.add_left_comm, K.add_comm]
  mul_comm a b := by
    simp only [K.mul_comm, K.add_comm]
  one_mul a := by simp only [K.one_mul, K.zero_mul, K.mul_zero, K.add_zero]
  mul_add a b c := by
    simp only [K.mul_add, K.add_assoc, Prod.mk.injEq]
    constructor <;> (simp only [K.add_left_comm])

end CR
/-- numbers modulo M -/
def fpCR (M : Nat) (h : 1 < M) : CR (Fin M) where
  add a b := ⟨(a.1 + b.1) % M, Nat.mod_lt _ (by omega)⟩
  mul a b := ⟨a.1 * b.1 % M, Nat.mod_lt _ (by omega)⟩
  neg a := ⟨(0 + M - a.1) % M, Nat.mod_lt _ (by omega)⟩
  zero := ⟨0, by omega⟩
  one := ⟨1, h⟩
  add_assoc a b c := Fin.ext (by show ((a.1 + b.1) % M + c.1) % M = (a.1 + (b.1 + c.1) % M) % M; rw [Nat.mod_add_mod, Nat.add_mod_mod, Nat.add_assoc])
  add_comm a b := Fin.ext (by show (a.1 + b.1) % M = (b.1 + a.1) % M; rw [Nat.add_comm])
  zero_add a := Fin.ext (by show (0 + a.1) % M = a.1; rw [Nat.zero_add, Nat.mod_eq_of_lt a.2])
  neg_add a := Fin.ext (by
    show ((0 + M - a.1) % M + a.1) % M = 0
    have := a.2
    rw [Nat.mod_add_mod, show 0 + M - a.1 + a.1 = M by omega, Nat.mod_self])
  mul_assoc a b c := Fin.ext (by show a.1 * b.1 % M * c.1 % M = a.1 * (b.1 * c.1 % M) % M; rw [Nat.mod_mul_mod, Nat.mul_mod_mod, Nat.mul_assoc])
  mul_comm a b := Fin.ext (by show a.1 * b.1 % M = b.1 * a.1 % M; rw [Nat.mul_comm])
  one_mul a := Fin.ext (by show 1 * a.1 % M = a.1; rw [Nat.one_mul, Nat.mod_eq_of_lt a.2])
  mul_add a b c := Fin.ext (by show a.1 * ((b.1 + c.1) % M) % M = (a.1 * b.1 % M + a.1 * c.1 % M) % M; rw [Nat.mul_mod_mod, Nat.mul_add, Nat.add_mod])
end Go.Proofs.Ytebaoemoeckgaaa
namespace Go.Proofs.Ytebaoemoeckgaaa.Ex
set_option linter.unusedVariables false
set_option linter.unusedSimpArgs false
open Go.RowKit

theorem fp_one : 1 < FP.M := by decide
def F1 : CR Fq := fpCR FP.M fp_one
def fm (n : Nat) : Fq := ⟨n % FP.M, Nat.mod_lt _ fp_pos⟩
abbrev Q2 := Fq × Fq
abbrev Q6 := Q2 × Q2 × Q2
def F2 : CR Q2 := F1.sq (F1.neg F1.one)
def e1 (x : Fq) : List At := [.f x]
def e2 (x : Q2) : List At := [.f x.1, .f x.2]
def e6 (x : Q6) : List At := [.f x.1.1, .f x.1.2, .f x.2.1.1, .f x.2.1.2, .f x.2.2.1, .f x.2.2.2]
def rd1 : List At → Option Fq | [.f a] => some a | _ => none
/-- elements as they come in -/
abbrev N2 := Nat × Nat
def q1 (x : Nat) : List At := [.q x]
def q2 (x : N2) : List At := [.q x.1, .q x.2]
def nat? : At → Option Nat
  | .f x => some x.1
  | .q x => some x
  | .c _ => none
def nats : List At → Option (List Nat)
  | [] => some []
  | a :: r => match nat? a, nats r with | some x, some l => some (x :: l) | _, _ => none
def rq1 (l : List At) : Option Nat := match nats l with | some [a] => some a | _ => none
def rq2 (l : List At) : Option N2 := match nats l with | some [a, b] => some (a, b) | _ => none
/-- a number's words, as an element -/
def wv (x : Nat) : Nat := val4 (fw x 0) (fw x 1) (fw x 2) (fw x 3)
def m1 (x : Nat) : Fq := fm (wv x)
def m2 (x : N2) : Q2 := (m1 x.1, m1 x.2)
/-- a reader gives back what was laid -/
def Rd {α : Type} (rd : List At → Option α) (en : α → List At) : Prop := ∀ l x, rd l = some x → flat l = flat (en x)
theorem rd1_ok : Rd rd1 e1 := fun l x h => by unfold rd1 at h; split at h <;> cases h; rfl
theorem nats_ok : ∀ {l : List At} {m : List Nat}, nats l = some m → flat l = flat (m.map .q)
  | [], m, h => by cases h; rfl
  | a :: r, m, h => by
    unfold nats at h
    split at h
    · rename_i x l' h1 h2
      cases h
      show a.cells ++ flat r = w4 x ++ flat (l'.map .q)
      rw [nats_ok h2]
      cases a <;> cases h1 <;> rfl
    · cases h
theorem rq1_ok : Rd rq1 q1 := fun l x h => by
  unfold rq1 at h
  split at h
  · rename_i hn; cases h; rw [nats_ok hn]; rfl
  · cases h
/-- entries: functions of no, one, two flat values; what must hold and what is answered hang on them -/
abbrev Ent := List CA → Option (List Prop × RV)
def g0 (r : RV) : Ent
  | [] => some ([], r)
  | _ => none
def g1 {α : Type} (rd : List At → Option α) (op : α → List Prop × RV) : Ent
  | [.v (.fl l)] => match rd l with | some x => some (op x) | none => none
  | _ => none
def g2 {α γ : Type} (rd : List At → Option α) (rd' : List At → Option γ) (op : α → γ → List Prop × RV) : Ent
  | [.v (.fl l), .v (.fl m)] => match rd l, rd' m with | some x, some y => some (op x y) | _, _ => none
  | _ => none
/-- what is said of a call -/
def Good (P : Program) (f : FuncId) (r : RV) (args : List Value) (w : World) : Prop := Calls P f args.toArray w (fun e w' => e = .returned r.den ∧ Below w.heap.size w w')
theorem g1_ok {P : Program} {f : FuncId} {α : Type} {rd : List At → Option α} {en : α → List At} (hr : Rd rd en) {op : α → List Prop × RV} (h : ∀ x, allP (op x).1 → ∀ args w, CAs w [.v (.fl (en x))] args → Good P f (op x).2 args w) :
    ∀ cs pre r, g1 rd op cs = some (pre, r) → allP pre → ∀ (args : List Value) (w : World), CAs w cs args → Good P f r args w := by
  intro cs pre r hg hp args w ha
  unfold g1 at hg
  split at hg
  · rename_i l
    split at hg
    · rename_i x hx
      have e : op x = (pre, r) := by simpa using hg
      have := h x (by rw [e]; exact hp) args w (by
        cases args with
        | nil => exact ha.elim
        | cons v vs =>
          refine ⟨?_, ha.2⟩
          show v = .agg (flat (en x)).toArray
          rw [← hr l x hx]
          exact ha.1)
      rw [e] at this
      exact this
    · cases hg
  · cases hg
theorem g2_ok {P : Program} {f : FuncId} {α γ : Type} {rd : List At → Option α} {en : α → List At} {rd' : List At → Option γ} {en' : γ → List At} (hr : Rd rd en) (hr' : Rd rd' en') {op : α → γ → List Prop × RV}
    (h : ∀ x y, allP (op x y).1 → ∀ args w, CAs w [.v (.fl (en x)), .v (.fl (en' y))] args → Good P f (op x y).2 args w) :
    ∀ cs pre r, g2 rd rd' op cs = some (pre, r) → allP pre → ∀ (args : List Value) (w : World), CAs w cs args → Good P f r args w := by
  intro cs pre r hg hp args w ha
  unfold g2 at hg
  split at hg
  · rename_i l m
    split at hg
    · rename_i x y hx hy
      have e : op x y = (pre, r) := by simpa using hg
      have := h x y (by rw [e]; exact hp) args w (by
        cases args with
        | nil => exact ha.elim
        | cons v vs =>
          cases vs with
          | nil => exact ha.2.elim
          | cons u us =>
            refine ⟨?_, ?_, ha.2.2⟩
            · show v = .agg (flat (en x)).toArray
              rw [← hr l x hx]
              exact ha.1
            · show u = .agg (flat (en' y)).toArray
              rw [← hr' m y hy]
              exact ha.2.1)
      rw [e] at this
      exact this
    · cases hg
  · cases hg
end Go.Proofs.Ytebaoemoeckgaaa.Ex
