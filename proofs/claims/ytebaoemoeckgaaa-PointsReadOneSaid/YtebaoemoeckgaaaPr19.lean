/-
  The page's examples: the helper of every statement of layer 2 answers true, in any world. Conditions: none.
  THE STATEMENT FieldRing: for either field and any three elements, or none: sums and products commute and associate, products go over sums, negatives and inverses undo: the law answers true. Conditions: words below 2^64.
  The inverses of a list.
  The call Invs.
  The call Invs of a list of no element, wherever it lies.
  The call Dot: the sum of the products of two lists, in each of its cases. Conditions: the lists as they lie.
  The call of limbs.Mod: the rest of a number of eight words by one of four; an error where that is 0. Conditions: each word below 2^64.
  The tower's parts over the first field: rest, plus, minus, times, negative, products: each answers the words of one number. Conditions: words below 2^64; parts below p but for rest.
  The parts' table is right: by the contracts of the first field's calls. Conditions: none.
  Bytes in tables of calls: limbs.Bytes and the reference's, slices of bytes held equal, a byte's bits. Conditions: none.
  The reckoner: what is written to an old block; a function's end with more told; loops by invariants. Of whatever program. Conditions: none.
  The calls of laid, and of the reference's flagged: the bytes of elements, a mark in the first one. Conditions: the mark is less than 4.
  Elements of Fp2 in a table of calls. Conditions: the parts' table is right.
  Elements of Fp6 in a table of calls. Conditions: the parts' table is right.
-/
import Derived.Laws.MakeOwn
import Derived.Deep.RegionHeld3
import Derived.Deep.DeepCutAuto
import Derived.Laws.BitsAllLaws
import Derived.Test.YtebaoemoeckgaaaPr18
import Derived.Test.YtebaoemoeckgaaaPr16
import Derived.Test.YtebaoemoeckgaaaPr11
import Derived.Test.YtebaoemoeckgaaaPr12
import Derived.Test.YtebaoemoeckgaaaPr13
import Derived.Test.YtebaoemoeckgaaaPr10
import Derived.Test.YtebaoemoeckgaaaPr00
import Derived.Test.YtebaoemoeckgaaaPr01
import Derived.Test.YtebaoemoeckgaaaPr09
namespace Go.Proofs.Ytebaoemoeckgaaa
set_option linter.unusedVariables false
set_option linter.unusedSimpArgs false
open Go.RowKit

set_option maxRecDepth 100000 in
set_option maxHeartbeats 2000000 in
theorem rmod_some (f : Int) (F : FC) (hf : FieldIs f F) (w : World) : Calls Try.prog 47 #[.int .i64 f] w fun e w' => e = .returned (.agg #[.int .u64 F.m0, .int .u64 F.m1, .int .u64 F.m2, .int .u64 F.m3]) ∧ Below w.heap.size w w' := by
  rcases hf with ⟨rfl, rfl⟩ | ⟨rfl, rfl⟩
  · go_enter Try.func47, Try.ntmps47
    go_wp2_with fail
    refine bodyPost_ret (v := .agg #[.int .u64 FP.m0, .int .u64 FP.m1, .int .u64 FP.m2, .int .u64 FP.m3]) (by simp [results, Try.results47, go_sem, FP]) rfl ?_
    refine ⟨rfl, ?_⟩
    repeat (first | exact Below.refl _ _ | refine Below.drew ?_ | refine Below.alloc ?_ (by first | (simp; done) | (simp; omega)) _ | refine Below.setCell ?_ (by simp) _)
  · go_enter Try.func47, Try.ntmps47
    go_wp2_with fail
    refine bodyPost_ret (v := .agg #[.int .u64 FR.m0, .int .u64 FR.m1, .int .u64 FR.m2, .int .u64 FR.m3]) (by simp [results, Try.results47, go_sem, FR]) rfl ?_
    refine ⟨rfl, ?_⟩
    repeat (first | exact Below.refl _ _ | refine Below.drew ?_ | refine Below.alloc ?_ (by first | (simp; done) | (simp; omega)) _ | refine Below.setCell ?_ (by simp) _)
end Go.Proofs.Ytebaoemoeckgaaa
namespace Go.Proofs.Ytebaoemoeckgaaa
set_option linter.unusedVariables false
set_option linter.unusedSimpArgs false
open Go.RowKit

section
variable {M g : Nat}
end
theorem eqF_lit {s0 s1 s2 s3 t0 t1 t2 t3 : Nat} (hs : ok4 s0 s1 s2 s3) (ht : ok4 t0 t1 t2 t3) (h : val4 s0 s1 s2 s3 = val4 t0 t1 t2 t3) (w : World) : (Op.equalIn 10000 24 (.agg #[.int .u64 s0, .int .u64 s1, .int .u64 s2, .int .u64 s3]) (.agg #[.int .u64 t0, .int .u64 t1, .int .u64 t2, .int .u64 t3])).run Try.prog w = .ok true w := by
  have h' := equalInF 9998 s0 s1 s2 s3 t0 t1 t2 t3 w
  rw [(eqW_iff hs ht).2 h] at h'
  exact h'
theorem eqF_no {s0 s1 s2 s3 t0 t1 t2 t3 : Nat} (hs : ok4 s0 s1 s2 s3) (ht : ok4 t0 t1 t2 t3) (h : val4 s0 s1 s2 s3 ≠ val4 t0 t1 t2 t3) (w : World) : (Op.equalIn 10000 24 (.agg #[.int .u64 s0, .int .u64 s1, .int .u64 s2, .int .u64 s3]) (.agg #[.int .u64 t0, .int .u64 t1, .int .u64 t2, .int .u64 t3])).run Try.prog w = .ok false w := by
  have h' := equalInF 9998 s0 s1 s2 s3 t0 t1 t2 t3 w
  rw [eqW_false (fun q => h ((eqW_iff hs ht).1 q))] at h'
  exact h'
theorem eqF_zero {s0 s1 s2 s3 : Nat} (hs : ok4 s0 s1 s2 s3) (h : val4 s0 s1 s2 s3 = 0) (w : World) : (Op.equalIn 10000 24 (.agg #[.int .u64 s0, .int .u64 s1, .int .u64 s2, .int .u64 s3]) (.agg #[.int .u64 0, .int .u64 0, .int .u64 0, .int .u64 0])).run Try.prog w = .ok true w := eqF_lit hs zok (h.trans rfl) w
theorem eqF_nz {s0 s1 s2 s3 : Nat} (hs : ok4 s0 s1 s2 s3) (h : val4 s0 s1 s2 s3 ≠ 0) (w : World) : (Op.equalIn 10000 24 (.agg #[.int .u64 s0, .int .u64 s1, .int .u64 s2, .int .u64 s3]) (.agg #[.int .u64 0, .int .u64 0, .int .u64 0, .int .u64 0])).run Try.prog w = .ok false w := eqF_no hs zok (fun q => h (q.trans rfl)) w
theorem eqF_one {s0 s1 s2 s3 : Nat} (hs : ok4 s0 s1 s2 s3) (h : val4 s0 s1 s2 s3 = 1) (w : World) : (Op.equalIn 10000 24 (.agg #[.int .u64 s0, .int .u64 s1, .int .u64 s2, .int .u64 s3]) (.agg #[.int .u64 1, .int .u64 0, .int .u64 0, .int .u64 0])).run Try.prog w = .ok true w := eqF_lit hs (show ok4 1 0 0 0 by unfold ok4; decide) (h.trans rfl) w
theorem Bad1.ne {f c : Int} {A : Nat} (h : Bad1 f A c) : c ≠ 0 := by rcases h with ⟨_, _, h⟩ | ⟨_, _, _, h⟩ <;> omega
theorem Bad2.ne {f c : Int} {A B : Nat} (h : Bad2 f A B c) : c ≠ 0 := by
  rcases h with h | ⟨_, _, _, _, h⟩
  · exact h.ne
  · omega
theorem FieldIs.uniq {f : Int} {F G : FC} (h : FieldIs f F) (k : FieldIs f G) : F = G := by
  rcases h with ⟨h, rfl⟩ | ⟨h, rfl⟩ <;> rcases k with ⟨k, rfl⟩ | ⟨k, rfl⟩ <;> first | rfl | omega
end Go.Proofs.Ytebaoemoeckgaaa
namespace Go.Proofs.Ytebaoemoeckgaaa
set_option linter.unusedVariables false
set_option linter.unusedSimpArgs false
open Go.ChangeShapes Go.WideShapes Go.ChangeAt Go.RowKit

def okP (P : Nat → Nat) (j : Nat) : Prop := ok4 (P (j * 4)) (P (j * 4 + 1)) (P (j * 4 + 2)) (P (j * 4 + 3))
end Go.Proofs.Ytebaoemoeckgaaa
namespace Go.Proofs.Ytebaoemoeckgaaa
set_option linter.unusedVariables false
set_option linter.unusedSimpArgs false
open Go.ChangeShapes Go.WideShapes Go.ChangeAt Go.RowKit

end Go.Proofs.Ytebaoemoeckgaaa
namespace Go.Proofs.Ytebaoemoeckgaaa
set_option linter.unusedVariables false
set_option linter.unusedSimpArgs false
open Go.ChangeShapes Go.WideShapes Go.ChangeAt Go.RowKit

end Go.Proofs.Ytebaoemoeckgaaa
namespace Go.Proofs.Ytebaoemoeckgaaa
set_option linter.unusedVariables false
set_option linter.unusedSimpArgs false
open Go.RowKit

/-- a list of elements in hand, wherever it lies -/
def FIs (W : World) (o : Option Addr) (len : Nat) (A : Nat → Nat → Nat) : Prop := len * 32 ≤ 140737488351232 ∧ LOk len A ∧ (0 < len → ∃ g off, o = some ⟨g, off, none⟩ ∧ g < W.heap.size ∧ LAt W g off len A)
theorem FIs.on {W w : World} {o : Option Addr} {len : Nat} {A : Nat → Nat → Nat} (h : FIs W o len A) (hb : Below W.heap.size W w) : FIs w o len A := by
  refine ⟨h.1, h.2.1, fun hl => ?_⟩
  obtain ⟨g, off, e, hg, hc⟩ := h.2.2 hl
  exact ⟨g, off, e, Nat.lt_of_lt_of_le hg hb.size, hc.same (fun _ => hg) hb⟩
end Go.Proofs.Ytebaoemoeckgaaa
namespace Go.Proofs.Ytebaoemoeckgaaa
set_option linter.unusedVariables false
set_option linter.unusedSimpArgs false
open Go.RowKit

/-- the world in Mod, once the divisor and the first rest are laid -/
structure MR (w wr : World) (g9 g10 : Nat) (h0 h1 h2 h3 l0 l1 l2 l3 b0 b1 b2 b3 r0 r1 r2 r3 : Nat) : Prop where
  below : Below w.heap.size w wr
  lo : w.heap.size + 1 + 1 + 1 < g9
  mid : g9 < g10
  size : g10 < wr.heap.size
  rowH : Row4 wr w.heap.size h0 h1 h2 h3
  rowL : Row4 wr (w.heap.size + 1) l0 l1 l2 l3
  rowB : Row4 wr g9 b0 b1 b2 b3
  rowR : Row4 wr g10 r0 r1 r2 r3
  rowO : Row4 wr (w.heap.size + 1 + 1 + 1) 0 0 0 0
theorem MR.on {w wr w' : World} {g9 g10 : Nat} {h0 h1 h2 h3 l0 l1 l2 l3 b0 b1 b2 b3 r0 r1 r2 r3 : Nat} (m : MR w wr g9 g10 h0 h1 h2 h3 l0 l1 l2 l3 b0 b1 b2 b3 r0 r1 r2 r3) (hb : Below wr.heap.size wr w') : MR w w' g9 g10 h0 h1 h2 h3 l0 l1 l2 l3 b0 b1 b2 b3 r0 r1 r2 r3 :=
  ⟨m.below.trans (hb.mono m.below.size), m.lo, m.mid, Nat.lt_of_lt_of_le m.size hb.size, m.rowH.below hb (by have := m.lo; have := m.mid; have := m.size; omega), m.rowL.below hb (by have := m.lo; have := m.mid; have := m.size; omega),
    m.rowB.below hb (by have := m.mid; have := m.size; omega), m.rowR.below hb m.size, m.rowO.below hb (by have := m.lo; have := m.mid; have := m.size; omega)⟩
theorem MR.drewN {w wr : World} {g9 g10 : Nat} {h0 h1 h2 h3 l0 l1 l2 l3 b0 b1 b2 b3 r0 r1 r2 r3 : Nat} (m : MR w wr g9 g10 h0 h1 h2 h3 l0 l1 l2 l3 b0 b1 b2 b3 r0 r1 r2 r3) (n : Nat) : MR w (wr.drewN n) g9 g10 h0 h1 h2 h3 l0 l1 l2 l3 b0 b1 b2 b3 r0 r1 r2 r3 := m.on (below_drewN' _ _ n)
theorem MR.put {w wr : World} {g9 g10 : Nat} {h0 h1 h2 h3 l0 l1 l2 l3 b0 b1 b2 b3 r0 r1 r2 r3 : Nat} (m : MR w wr g9 g10 h0 h1 h2 h3 l0 l1 l2 l3 b0 b1 b2 b3 r0 r1 r2 r3) (s0 s1 s2 s3 : Nat) : MR w (set4 wr g10 s0 s1 s2 s3) g9 g10 h0 h1 h2 h3 l0 l1 l2 l3 b0 b1 b2 b3 s0 s1 s2 s3 :=
  ⟨below_set4 m.below (by have := m.lo; have := m.mid; omega) _ _ _ _, m.lo, m.mid, by unfold set4; simp only [World.size_setCell]; exact m.size, m.rowH.set4_other (by have := m.lo; have := m.mid; omega) _ _ _ _, m.rowL.set4_other (by have := m.lo; have := m.mid; omega) _ _ _ _,
    m.rowB.set4_other (by have := m.mid; omega) _ _ _ _, m.rowR.set4 _ _ _ _, m.rowO.set4_other (by have := m.lo; have := m.mid; omega) _ _ _ _⟩

end Go.Proofs.Ytebaoemoeckgaaa
namespace Go.Proofs.Ytebaoemoeckgaaa
set_option linter.unusedVariables false
set_option linter.unusedSimpArgs false
open Go.RowKit

theorem fld1 : FieldIs 1 FP := Or.inl ⟨rfl, rfl⟩
/-- what a call answers that answers an element of Fp -/
def FwPost (x : Nat) (w : World) (e : Ending) (w' : World) : Prop := e = .returned (.agg #[.int .u64 (fw x 0 : Nat), .int .u64 (fw x 1 : Nat), .int .u64 (fw x 2 : Nat), .int .u64 (fw x 3 : Nat)]) ∧ Below w.heap.size w w'
theorem FwPost.of {x : Nat} {w : World} {e : Ending} {w' : World} (hx : x < FP.M) (h : FePost x w e w') : FwPost x w e w' := by
  obtain ⟨s0, s1, s2, s3, rfl, hs, hv, hb⟩ := h
  obtain ⟨rfl, rfl, rfl, rfl⟩ := fw_of hs (fp_lt hx) hv
  exact ⟨rfl, hb⟩
end Go.Proofs.Ytebaoemoeckgaaa
namespace Go.Proofs.Ytebaoemoeckgaaa.Ex
set_option linter.unusedVariables false
set_option linter.unusedSimpArgs false
open Go.RowKit

theorem args1 {l : List At} {args : List Value} {w : World} (h : CAs w [.v (.fl l)] args) : args = [.agg (flat l).toArray] := by
  match args, h with
  | [v], h => rw [show v = _ from h.1]; rfl
  | [], h => exact h.elim
  | _ :: _ :: _, h => exact h.2.elim
theorem args2 {l m : List At} {args : List Value} {w : World} (h : CAs w [.v (.fl l), .v (.fl m)] args) : args = [.agg (flat l).toArray, .agg (flat m).toArray] := by
  match args, h with
  | [v, u], h => rw [show v = _ from h.1, show u = _ from h.2.1]; rfl
  | [], h => exact h.elim
  | [_], h => exact h.2.elim
  | _ :: _ :: _ :: _, h => exact h.2.2.elim
theorem b_of : ∀ cs pre r, gOf cs = some (pre, r) → allP pre → ∀ (args : List Value) (w : World), CAs w cs args → Good Try.prog 58 r args w := by
  intro cs pre r hg hp args w ha
  unfold gOf at hg
  split at hg
  · rename_i n
    cases hb : Nat.blt n 18446744073709551616 <;> rw [hb] at hg
    · cases hg
    · cases hg
      have hn : n < 18446744073709551616 := by simpa using hb
      match args, ha with
      | [v], ha =>
        rw [show v = _ from ha.1]
        refine (of_calls n hn w).mono ?_
        rintro e w' ⟨rfl, hbl⟩
        refine ⟨?_, hbl⟩
        have hM : n < FP.M := Nat.lt_trans hn (by decide)
        obtain ⟨e0, e1', e2', e3'⟩ := fw_of (s0 := n) (s1 := 0) (s2 := 0) (s3 := 0) ⟨hn, by omega, by omega, by omega⟩ (fp_lt hM) (show val4 n 0 0 0 = n by unfold val4; omega)
        show _ = Ending.returned (.agg (w4 (n % FP.M)).toArray)
        rw [Nat.mod_eq_of_lt hM]
        unfold w4
        rw [← e0, ← e1', ← e2', ← e3']
        rfl
      | [], ha => exact ha.elim
      | _ :: _ :: _, ha => exact ha.2.elim
  · cases hg
theorem ok_base (c : Bool) : TabOk Try.prog (T_B c) := (T0_ok _).add Try.func58 (by kernel_rfl) (by kernel_rfl) b_of
end Go.Proofs.Ytebaoemoeckgaaa.Ex
namespace Go.Proofs.Ytebaoemoeckgaaa.Ex
set_option linter.unusedVariables false
set_option linter.unusedSimpArgs false
open Go.RowKit

/-- byte k of a number -/
def b8 (n k : Nat) : At := .c (.int .u8 (Int.ofNat (byteAt n k)))
def bl (n : Nat) : List At := [b8 n 0, b8 n 1, b8 n 2, b8 n 3, b8 n 4, b8 n 5, b8 n 6, b8 n 7, b8 n 8, b8 n 9, b8 n 10, b8 n 11, b8 n 12, b8 n 13, b8 n 14, b8 n 15, b8 n 16, b8 n 17, b8 n 18, b8 n 19, b8 n 20, b8 n 21, b8 n 22, b8 n 23, b8 n 24, b8 n 25, b8 n 26, b8 n 27, b8 n 28, b8 n 29, b8 n 30, b8 n 31]
theorem bl_cell (n : Nat) : ∀ k, k < 32 → (flat (bl n))[k]? = some (.int .u8 (Int.ofNat (byteAt n k)))
  | 0, _ => by kernel_rfl
  | 1, _ => by kernel_rfl
  | 2, _ => by kernel_rfl
  | 3, _ => by kernel_rfl
  | 4, _ => by kernel_rfl
  | 5, _ => by kernel_rfl
  | 6, _ => by kernel_rfl
  | 7, _ => by kernel_rfl
  | 8, _ => by kernel_rfl
  | 9, _ => by kernel_rfl
  | 10, _ => by kernel_rfl
  | 11, _ => by kernel_rfl
  | 12, _ => by kernel_rfl
  | 13, _ => by kernel_rfl
  | 14, _ => by kernel_rfl
  | 15, _ => by kernel_rfl
  | 16, _ => by kernel_rfl
  | 17, _ => by kernel_rfl
  | 18, _ => by kernel_rfl
  | 19, _ => by kernel_rfl
  | 20, _ => by kernel_rfl
  | 21, _ => by kernel_rfl
  | 22, _ => by kernel_rfl
  | 23, _ => by kernel_rfl
  | 24, _ => by kernel_rfl
  | 25, _ => by kernel_rfl
  | 26, _ => by kernel_rfl
  | 27, _ => by kernel_rfl
  | 28, _ => by kernel_rfl
  | 29, _ => by kernel_rfl
  | 30, _ => by kernel_rfl
  | 31, _ => by kernel_rfl
  | k + 32, h => absurd h (by omega)
theorem bl_sz (n : Nat) : fsz (bl n) = 32 := by kernel_rfl
theorem bl_range {w : World} {b n : Nat} (h : ∀ k, k < 32 → w.cell? ⟨b, k, none⟩ = some (.int .u8 (byteAt n k : Nat))) : w.rangeAt b 0 (flat (bl n)) := fun j v hj => by
  have hlt : j < 32 := by have := (List.getElem?_eq_some_iff.1 hj).1; rwa [flat_len, bl_sz] at this
  rw [Nat.zero_add, h j hlt, ← hj, bl_cell n j hlt]
  rfl
def gBy : List CA → Option (List Prop × FS)
  | [.v (.fl l)] => match rq1 l with
    | some n => some ([], ⟨bl (wv n), 32, 0, 0, false, [], []⟩)
    | none => none
  | _ => none
def gRBy : List CA → Option (List Prop × FS)
  | [.v (.fl l)] => match rq1 l with
    | some n => some ([], ⟨bl (wv n), 32, 5, 1, true, [], []⟩)
    | none => none
  | _ => none
theorem gBy_ok : ∀ cs pre r, gBy cs = some (pre, r) → allP pre → ∀ (args : List Value) (w : World), CAs w cs args → Calls Try.prog 48 args.toArray w (fun e w' => r.ok w e w') := by
  intro cs pre r hg hp args w ha
  unfold gBy at hg
  split at hg
  · rename_i l
    split at hg
    · rename_i n hn
      cases hg
      rw [args1 ha, rq1_ok l _ hn]
      refine (bytesF_calls _ _ _ _ (fw_ok n) w).mono ?_
      rintro e w' ⟨b, rfl, h1, h2, h3, h4, h5⟩
      exact ⟨b, 32, rfl, h4, h1, h2, bl_range fun k hk => (h3 k hk).1, h5, fun h => by cases h⟩
    · cases hg
  · cases hg
theorem gRBy_ok : ∀ cs pre r, gRBy cs = some (pre, r) → allP pre → ∀ (args : List Value) (w : World), CAs w cs args → Calls Try.prog 50 args.toArray w (fun e w' => r.ok w e w') := by
  intro cs pre r hg hp args w ha
  unfold gRBy at hg
  split at hg
  · rename_i l
    split at hg
    · rename_i n hn
      cases hg
      rw [args1 ha, rq1_ok l _ hn]
      refine (refBytesF_calls _ _ _ _ (fw_ok n) w).mono ?_
      rintro e w' ⟨b, cap, rfl, h1, h2, h3, h4, h5, h6⟩
      exact ⟨b, cap, rfl, h4, h1, h2, bl_range h3, h5, fun _ => h6⟩
    · cases hg
  · cases hg
def B3 : Tab3 := (Fs0.add 48 gBy).add 50 gRBy
theorem B3_ok : FsOk Try.prog B3 := ((Fs0_ok _).add Try.func48 (by kernel_rfl) (by kernel_rfl) gBy_ok).add Try.func50 (by kernel_rfl) (by kernel_rfl) gRBy_ok
def x3 (T : Tab3) (T4 : Tab4) (gen : Nat → Option Value) (mks : Nat → Option (Nat × List At)) : Ext := { Ext.none with T3 := T, T4 := T4, gen := gen, mks := mks }
theorem x3_ok {T : Tab3} {T4 : Tab4} {gen : Nat → Option Value} {mks : Nat → Option (Nat × List At)} (h : FsOk Try.prog T) (h4 : WrOk Try.prog T4) (w : World) : EqOkW Try.prog (qY Try.prog (x3 T T4 gen mks)) w.heap.size w := qY_ok (Fr0_ok _) (fun _ _ _ h => h.elim) h h4

/-- an operation on two values, whatever the world -/
def Bin (op : BinOp) (t : Nat) (x y : Operand) (v u r : Value) : Prop := ∀ w : World, (do eqGuard op t x y v u; binOp op t v u : Sem Value).run Try.prog w = .ok r w
theorem bin_or {t : Nat} {x y : Operand} {a b : Nat} (ha : a < 256) (hb : b < 256) : Bin .or t x y (.int .u8 (Int.ofNat a)) (.int .u8 (Int.ofNat b)) (.int .u8 (Int.ofNat (a ||| b))) := fun w => by
  have h := u8_or_nat a b ha hb
  simp only [Int.ofNat_eq_natCast]
  exact congrArg (fun z => Result.ok (Value.int .u8 z) w) h
theorem bin_and {t : Nat} {x y : Operand} {a b : Nat} (ha : a < 256) (hb : b < 256) : Bin .and t x y (.int .u8 (Int.ofNat a)) (.int .u8 (Int.ofNat b)) (.int .u8 (Int.ofNat (a &&& b))) := fun w => by
  have h := u8_and_nat a b ha hb
  simp only [Int.ofNat_eq_natCast]
  exact congrArg (fun z => Result.ok (Value.int .u8 z) w) h
theorem bin_shr6 {t : Nat} {x y : Operand} {a : Nat} (ha : a < 256) : Bin .shr t x y (.int .u8 (Int.ofNat a)) (.int .u64 6) (.int .u8 (Int.ofNat (a / 64))) := fun w => by
  simp only [Int.ofNat_eq_natCast]
  simp [eqGuard, binOp, go_sem]
theorem bin_shl6 {t : Nat} {x y : Operand} {a : Nat} (ha : a < 4) : Bin .shl t x y (.int .u8 (Int.ofNat a)) (.int .u64 6) (.int .u8 (Int.ofNat (64 * a))) := fun w => by
  match a, ha with
  | 0, _ => rfl
  | 1, _ => rfl
  | 2, _ => rfl
  | 3, _ => rfl
  | a + 4, h => exact absurd h (by omega)

set_option maxHeartbeats 1000000 in
theorem same_gen (b1 o1 c1 b2 o2 c2 n : Nat) (hn : n < 4611686018427387904) (P : Nat → Int) (w : World) (h1 : ∀ k, k < n → w.cell? ⟨b1, o1 + k, none⟩ = some (.int .u8 (P k))) (h2 : ∀ k, k < n → w.cell? ⟨b2, o2 + k, none⟩ = some (.int .u8 (P k))) :
    Calls Try.prog 13 #[.slice (some ⟨b1, o1, none⟩) n c1, .slice (some ⟨b2, o2, none⟩) n c2] w fun e w' => e = .returned (.bool true) ∧ Below w.heap.size w w' := by
  have H1 := Lib.hid h1
  have H2 := Lib.hid h2
  clear h1 h2
  have tn : ((n : Int) != (n : Int)) = false := by simp
  go_enter Try.func13, Try.ntmps13
  go_wp2_with fail
  go_loopw [5] (fun x wr => ∃ k m : Nat, k ≤ n ∧ x = .int .i64 k ∧ wr = w.drewN m) (fun x _ => n - (intOf x).toNat)
  case atStart => exact ⟨0, 0, by omega, rfl, rfl⟩
  case round =>
    obtain ⟨k, m, hk, rfl, rfl⟩ := hrel
    by_cases hlt : k < n
    · have e1 : (w.drewN m).cell? ⟨b1, o1 + k, none⟩ = _ := H1.out k hlt
      have e2 : (w.drewN m).cell? ⟨b2, o2 + k, none⟩ = _ := H2.out k hlt
      have e3 := H1.out k hlt
      have e4 := H2.out k hlt
      have t1 : decide ((k : Int) < (n : Int)) = true := decide_eq_true (by omega)
      generalize P k = p at *
      go_wp2_with fail
      go_quiet (fail)
      go_wp2_with fail
      go_roundw
      case rel => exact ⟨k + 1, _, by omega, by go_num, rfl⟩
      case measure => first | (simp [intOf]; done) | (simp [intOf]; omega)
    · obtain rfl : k = n := by omega
      have t1 : decide ((k : Int) < (k : Int)) = false := decide_eq_false (by omega)
      go_wp2_with fail
      go_ret
      exact ⟨rfl, below_drewN' _ _ _⟩
/-- cells that are bytes -/
def U8s (l : List At) (n : Nat) (P : Nat → Int) : Prop := ∀ k, k < n → (flat l)[k]? = some (.int .u8 (P k))
def lenC : CA → Option (List At × Nat)
  | .s l n _ => some (l, n)
  | .so l n => some (l, n)
  | _ => none
theorem lenC_ok {c : CA} {l : List At} {n : Nat} (h : lenC c = some (l, n)) {w : World} {v : Value} (hc : c.ok w v) : ∃ b o m, v = .slice (some ⟨b, o, none⟩) n m ∧ w.rangeAt b o (flat l) := by
  cases c with
  | v x => cases h
  | s l' n' m =>
    cases h
    obtain ⟨b, o, e, _, hr⟩ := hc
    exact ⟨b, o, m, e, hr⟩
  | so l' n' =>
    cases h
    obtain ⟨b, o, m, e, _, hr⟩ := hc
    exact ⟨b, o, m, e, hr⟩
def gSame : Ent
  | [c, d] => match lenC c, lenC d with
    | some (l, n), some (l', n') => some ([n' = n, n < 4611686018427387904, ∃ P, U8s l n P ∧ U8s l' n P], .one (.im (.bool true)))
    | _, _ => none
  | _ => none
theorem gSame_ok : ∀ cs pre r, gSame cs = some (pre, r) → allP pre → ∀ (args : List Value) (w : World), CAs w cs args → Good Try.prog 13 r args w := by
  intro cs pre r hg hp args w ha
  unfold gSame at hg
  split at hg
  · rename_i c d
    split at hg
    · rename_i l n l' n' h1 h2
      cases hg
      obtain ⟨rfl, hn, ⟨P, hl, hl'⟩, _⟩ := hp
      match args, ha with
      | [u, v], ha =>
        obtain ⟨b1, o1, m1, rfl, r1⟩ := lenC_ok h1 (by have := ha; cases c <;> exact this.1)
        obtain ⟨b2, o2, m2, rfl, r2⟩ := lenC_ok h2 (by have := ha; cases c <;> cases d <;> exact this.2.1)
        exact same_gen b1 o1 m1 b2 o2 m2 _ hn P w (fun k hk => r1 k _ (hl k hk)) (fun k hk => r2 k _ (hl' k hk))
      | [], ha => cases c <;> exact ha.elim
      | [_], ha => cases c <;> cases d <;> exact ha.2.elim
      | _ :: _ :: _ :: _, ha => cases c <;> cases d <;> exact ha.2.2.elim
    · cases hg
  · cases hg
end Go.Proofs.Ytebaoemoeckgaaa.Ex
namespace Go.Proofs.Ytebaoemoeckgaaa.Ex
set_option linter.unusedVariables false
set_option linter.unusedSimpArgs false
open Go.RowKit

/-- the same facts, told from here on -/
theorem Holds.now {nt base : Nat} {w0 : World} {A : List Fact} {a : Act} {w : World} (h : Holds nt base w0 A a w) : Holds nt base w A a w := ⟨h.defers, h.size, Below.refl _ _, h.heap, h.facts⟩
/-- all but one block stay -/
theorem WrAt.refl (w : World) (b : Nat) : WrAt w w b [] := ⟨rfl, rfl, rfl, Nat.le_refl _, fun _ _ _ => rfl, Shape.refl _, fun _ => rfl⟩
theorem WrAt.below {w w1 w2 : World} {b : Nat} (hb : b < w.heap.size) (h : WrAt w w1 b []) (h2 : Below w.heap.size w1 w2) : WrAt w w2 b [] :=
  ⟨h2.os.trans h.os, h2.tape.trans h.tape, h2.output.trans h.output, Nat.le_trans h.size h2.size, fun k hk hne => (h2.block k hk).trans (h.block k hk hne),
    fun q cur e hq => by
      obtain ⟨c, h3, h4⟩ := h.shape q cur e hq
      exact ⟨c, (h2.block q (Array.getElem?_eq_some_iff.1 hq).1).trans h3, h4⟩, fun j => (World.frozen?_of_block (h2.block b hb)).trans (h.frozen j)⟩
theorem setCells_block (b : Nat) : ∀ (vs : List Value) (o : Nat) (w : World) (k : Nat), k ≠ b → (w.setCells b o vs).heap[k]? = w.heap[k]?
  | [], _, _, _, _ => rfl
  | v :: r, o, w, k, h => by
    rw [World.setCells, setCells_block b r (o + 1) _ k h]
    exact Below.heap_setCell w _ v k h
theorem setCells_os (b : Nat) : ∀ (vs : List Value) (o : Nat) (w : World), (w.setCells b o vs).os = w.os ∧ (w.setCells b o vs).tape = w.tape ∧ (w.setCells b o vs).output = w.output
  | [], _, _ => ⟨rfl, rfl, rfl⟩
  | v :: r, o, w => by rw [World.setCells]; exact setCells_os b r (o + 1) _
theorem WrAt.set {w w1 : World} {b : Nat} (h : WrAt w w1 b []) (o : Nat) (vs : List Value) : WrAt w (w1.setCells b o vs) b [] :=
  ⟨(setCells_os b vs o w1).1.trans h.os, (setCells_os b vs o w1).2.1.trans h.tape, (setCells_os b vs o w1).2.2.trans h.output, by rw [setCells_size]; exact h.size, fun k hk hne => (setCells_block b vs o w1 k hne).trans (h.block k hk hne),
    fun q cur e hq => by
      obtain ⟨c, h3, h4⟩ := h.shape q cur e hq
      obtain ⟨c2, h5, h6⟩ := setCells_shape b vs o w1 q c e h3
      exact ⟨c2, h5, h6.trans h4⟩, fun j => by rw [World.frozen?_setCells]; exact h.frozen j⟩
end Go.Proofs.Ytebaoemoeckgaaa.Ex
namespace Go.Proofs.Ytebaoemoeckgaaa.Ex
set_option linter.unusedVariables false
set_option linter.unusedSimpArgs false
open Go.RowKit

/-- a number's bytes, the mark in the first one -/
def hb (n m : Nat) : At := .c (.int .u8 (Int.ofNat (byteAt n 0 ||| 64 * m)))
def bm (n m : Nat) : List At := [hb n m, b8 n 1, b8 n 2, b8 n 3, b8 n 4, b8 n 5, b8 n 6, b8 n 7, b8 n 8, b8 n 9, b8 n 10, b8 n 11, b8 n 12, b8 n 13, b8 n 14, b8 n 15, b8 n 16, b8 n 17, b8 n 18, b8 n 19, b8 n 20, b8 n 21, b8 n 22, b8 n 23, b8 n 24, b8 n 25, b8 n 26, b8 n 27, b8 n 28, b8 n 29, b8 n 30, b8 n 31]
noncomputable def cT0 : Nat → Cfg := fun _ => ⟨fun _ => T0, fun _ => true, fun _ => none⟩
set_option maxRecDepth 100000 in
theorem run_laid1 (x m c : Nat) : funS Try.prog (qY Try.prog (x3 B3 Wr0 (assoc [(23, .int .u8 (Int.ofNat (64 * m))), (24, .int .u8 (Int.ofNat (byteAt (wv x) 0 ||| 64 * m)))]) (fun _ => none))) cT0 Try.f22 60 [.v (.im (.int .u8 (Int.ofNat m))), .s [.q x] 1 c] = some ([Bin .shl 5 (.tmp 22) (.const (.int .u64 6)) (.int .u8 (Int.ofNat m)) (.int .u64 6) (.int .u8 (Int.ofNat (64 * m))), Bin .or 5 (.tmp 21) (.tmp 23) (.int .u8 (Int.ofNat (byteAt (wv x) 0))) (.int .u8 (Int.ofNat (64 * m))) (.int .u8 (Int.ofNat (byteAt (wv x) 0 ||| 64 * m)))], ⟨bm (wv x) m, 32, 5, 1, true, [], []⟩) := by kernel_rfl
set_option maxRecDepth 100000 in
theorem run_laid2 (x y m c : Nat) : funS Try.prog (qY Try.prog (x3 B3 Wr0 (assoc [(23, .int .u8 (Int.ofNat (64 * m))), (24, .int .u8 (Int.ofNat (byteAt (wv x) 0 ||| 64 * m)))]) (fun _ => none))) cT0 Try.f22 60 [.v (.im (.int .u8 (Int.ofNat m))), .s [.q x, .q y] 2 c] = some ([Bin .shl 5 (.tmp 22) (.const (.int .u64 6)) (.int .u8 (Int.ofNat m)) (.int .u64 6) (.int .u8 (Int.ofNat (64 * m))), Bin .or 5 (.tmp 21) (.tmp 23) (.int .u8 (Int.ofNat (byteAt (wv x) 0))) (.int .u8 (Int.ofNat (64 * m))) (.int .u8 (Int.ofNat (byteAt (wv x) 0 ||| 64 * m)))], ⟨bm (wv x) m ++ bl (wv y), 64, 5, 1, true, [], []⟩) := by kernel_rfl
set_option maxRecDepth 100000 in
theorem run_laid4 (x y z t m c : Nat) : funS Try.prog (qY Try.prog (x3 B3 Wr0 (assoc [(23, .int .u8 (Int.ofNat (64 * m))), (24, .int .u8 (Int.ofNat (byteAt (wv x) 0 ||| 64 * m)))]) (fun _ => none))) cT0 Try.f22 80 [.v (.im (.int .u8 (Int.ofNat m))), .s [.q x, .q y, .q z, .q t] 4 c] = some ([Bin .shl 5 (.tmp 22) (.const (.int .u64 6)) (.int .u8 (Int.ofNat m)) (.int .u64 6) (.int .u8 (Int.ofNat (64 * m))), Bin .or 5 (.tmp 21) (.tmp 23) (.int .u8 (Int.ofNat (byteAt (wv x) 0))) (.int .u8 (Int.ofNat (64 * m))) (.int .u8 (Int.ofNat (byteAt (wv x) 0 ||| 64 * m)))], ⟨((bm (wv x) m ++ bl (wv y)) ++ bl (wv z)) ++ bl (wv t), 128, 5, 1, true, [], []⟩) := by kernel_rfl
def gLaid : List CA → Option (List Prop × FS)
  | [.v (.im (.int .u8 (.ofNat m))), .s [a] 1 c] => match nat? a with
    | some x => some ([m < 4], ⟨bm (wv x) m, 32, 5, 1, true, [], []⟩)
    | none => none
  | [.v (.im (.int .u8 (.ofNat m))), .s [a, b] 2 c] => match nat? a, nat? b with
    | some x, some y => some ([m < 4], ⟨bm (wv x) m ++ bl (wv y), 64, 5, 1, true, [], []⟩)
    | _, _ => none
  | [.v (.im (.int .u8 (.ofNat m))), .s [a, b, d, e] 4 c] => match nat? a, nat? b, nat? d, nat? e with
    | some x, some y, some z, some t => some ([m < 4], ⟨((bm (wv x) m ++ bl (wv y)) ++ bl (wv z)) ++ bl (wv t), 128, 5, 1, true, [], []⟩)
    | _, _, _, _ => none
  | _ => none
theorem casS {w : World} {v : TV} {l l' : List At} {n c : Nat} (h : flat l = flat l') {args : List Value} (ha : CAs w [.v v, .s l n c] args) : CAs w [.v v, .s l' n c] args := by
  match args, ha with
  | [u, s], ha => exact ⟨ha.1, by obtain ⟨b, o, e, hb, hr⟩ := ha.2.1; exact ⟨b, o, e, hb, by rw [← h]; exact hr⟩, trivial⟩
  | [], ha => exact ha.elim
  | [_], ha => exact ha.2.elim
  | _ :: _ :: _ :: _, ha => exact ha.2.2.elim
theorem nat?_cells {a : At} {x : Nat} (h : nat? a = some x) : a.cells = (At.q x).cells := by cases a <;> cases h <;> rfl
theorem byte_lt (n k : Nat) : byteAt n k < 256 := byteAt_lt _ _
theorem gLaid_ok : ∀ cs pre r, gLaid cs = some (pre, r) → allP pre → ∀ (args : List Value) (w : World), CAs w cs args → Calls Try.prog 22 args.toArray w (fun e w' => r.ok w e w') := by
  intro cs pre r hg hp args w ha
  have hq := fun (g : Nat → Option Value) => x3_ok (gen := g) (mks := fun _ => none) B3_ok (Wr0_ok _) w
  have hT : ∀ n d : Nat, TabOkW Try.prog ((cT0 n).T d) w.heap.size w := fun _ _ => (T0_ok _).w _ _
  unfold gLaid at hg
  split at hg
  · rename_i m a c
    split at hg
    · rename_i x hx
      cases hg
      exact funS_sound hmix hT (hq _) Try.func22 (run_laid1 x m c) ⟨bin_shl6 hp.1, bin_or (byte_lt _ _) (by have := hp.1; omega), trivial⟩ (casS (by simp [flat, nat?_cells hx]) ha)
    · cases hg
  · rename_i m a b c
    split at hg
    · rename_i x y hx hy
      cases hg
      exact funS_sound hmix hT (hq _) Try.func22 (run_laid2 x y m c) ⟨bin_shl6 hp.1, bin_or (byte_lt _ _) (by have := hp.1; omega), trivial⟩ (casS (by simp [flat, nat?_cells hx, nat?_cells hy]) ha)
    · cases hg
  · rename_i m a b d e c
    split at hg
    · rename_i x y z t hx hy hz ht
      cases hg
      exact funS_sound hmix hT (hq _) Try.func22 (run_laid4 x y z t m c) ⟨bin_shl6 hp.1, bin_or (byte_lt _ _) (by have := hp.1; omega), trivial⟩ (casS (by simp [flat, nat?_cells hx, nat?_cells hy, nat?_cells hz, nat?_cells ht]) ha)
    · cases hg
  · cases hg
def L3 : Tab3 := B3.add 22 gLaid
theorem L3_ok : FsOk Try.prog L3 := B3_ok.add Try.func22 (by kernel_rfl) (by kernel_rfl) gLaid_ok

theorem flag_or {a b : Nat} (ha : a < 256) (hb : b < 256) : bits .or .u8 (a : Int) (b : Int) = ((a ||| b : Nat) : Int) := u8_or_nat a b ha hb
set_option maxHeartbeats 1000000 in
theorem flagged_calls (b o n c a m : Nat) (hn : 0 < n) (ha : a < 256) (hm : m < 4) (w : World) (h : w.cell? ⟨b, o, none⟩ = some (.int .u8 (Int.ofNat a))) (hf : w.frozen? ⟨b, o, none⟩ = false) :
    Calls Try.prog 25 #[.slice (some ⟨b, o, none⟩) n c, .int .u8 (Int.ofNat m)] w fun e w' => e = .returned (.slice (some ⟨b, o, none⟩) n c) ∧ w' = w.setCell ⟨b, o, none⟩ (.int .u8 (Int.ofNat (a ||| 64 * m))) := by
  have h' : w.cell? ⟨b, o, none⟩ = some (.int .u8 (a : Int)) := h
  clear h
  have e0 : bits .or .u8 (a : Int) 0 = ((a ||| 64 * 0 : Nat) : Int) := flag_or (b := 0) ha (by omega)
  have e1 : bits .or .u8 (a : Int) 64 = ((a ||| 64 * 1 : Nat) : Int) := flag_or (b := 64) ha (by omega)
  have e2 : bits .or .u8 (a : Int) 128 = ((a ||| 64 * 2 : Nat) : Int) := flag_or (b := 128) ha (by omega)
  have e3 : bits .or .u8 (a : Int) 192 = ((a ||| 64 * 3 : Nat) : Int) := flag_or (b := 192) ha (by omega)
  obtain ⟨r, hr⟩ : ∃ r : Nat, r = a ||| 64 * m := ⟨_, rfl⟩
  rw [← hr]
  have key : m = 0 ∨ m = 1 ∨ m = 2 ∨ m = 3 := by omega
  rcases key with rfl | rfl | rfl | rfl
  · rw [← hr] at e0
    clear e1 e2 e3 hr
    go_enter Try.func25, Try.ntmps25
    go_wp2_with fail
    go_ret
    exact ⟨rfl, rfl⟩
  · rw [← hr] at e1
    clear e0 e2 e3 hr
    go_enter Try.func25, Try.ntmps25
    go_wp2_with fail
    go_ret
    exact ⟨rfl, rfl⟩
  · rw [← hr] at e2
    clear e0 e1 e3 hr
    go_enter Try.func25, Try.ntmps25
    go_wp2_with fail
    go_ret
    exact ⟨rfl, rfl⟩
  · rw [← hr] at e3
    clear e0 e1 e2 hr
    go_enter Try.func25, Try.ntmps25
    go_wp2_with fail
    go_ret
    exact ⟨rfl, rfl⟩
def flagL (m : Nat) : List At → Option (List Prop × List At)
  | .c (.int .u8 (.ofNat a)) :: r => some ([a < 256, m < 4], .c (.int .u8 (Int.ofNat (a ||| 64 * m))) :: r)
  | _ => none
def gFlag : List CA → Option (List Prop × Nat × List At)
  | [c, .v (.im (.int .u8 (.ofNat m)))] => match lenC c with
    | some (l, n + 1) => (match flagL m l with | some (pre, l') => some (pre, 0, l') | none => none)
    | _ => none
  | _ => none
theorem gFlag_ok : ∀ cs pre j l, gFlag cs = some (pre, j, l) → allP pre → ∀ (args : List Value) (w : World), CAs w cs args → ∀ b o n m, args[j]? = some (.slice (some ⟨b, o, none⟩) n m) → (∀ q, w.frozen? ⟨b, q, none⟩ = false) →
    Calls Try.prog 25 args.toArray w (fun e w' => e = .returned (.slice (some ⟨b, o, none⟩) n m) ∧ WrAt w w' b l ∧ w'.rangeAt b o (flat l)) := by
  intro cs pre j l hg hp args w ha b o n m hj hf
  unfold gFlag at hg
  split at hg
  · rename_i c k
    split at hg
    · rename_i l0 n0 h1
      split at hg
      · rename_i pre' l' h2
        cases hg
        unfold flagL at h2
        split at h2
        · rename_i a r
          cases h2
          match args, ha with
          | [u, v], ha =>
            obtain ⟨b1, o1, m1, rfl, r1⟩ := lenC_ok h1 (by have := ha; cases c <;> exact this.1)
            have hv : v = .int .u8 (Int.ofNat k) := by have := ha; cases c <;> exact this.2.1
            subst hv
            cases hj
            have hc : w.cell? ⟨b, o, none⟩ = some (.int .u8 (Int.ofNat a)) := r1 0 _ rfl
            refine (flagged_calls b o _ m a k (Nat.succ_pos _) hp.1 hp.2.1 w hc (hf o)).mono ?_
            rintro e w' ⟨rfl, rfl⟩
            refine ⟨rfl, ?_, fun q v hq => ?_⟩
            · have h3 := (WrAt.refl w b).set o [.int .u8 (Int.ofNat (a ||| 64 * k))]
              exact ⟨h3.os, h3.tape, h3.output, h3.size, h3.block, h3.shape, h3.frozen⟩
            · cases q with
              | zero =>
                cases hq
                exact World.cell?_setCell_same (h := hc) ..
              | succ q =>
                rw [World.cell?_setCell_other (h := fun he => by have := congrArg Addr.off he; simp only [] at this; omega) ..]
                exact r1 (q + 1) v hq
          | [], ha => cases c <;> exact ha.elim
          | [_], ha => cases c <;> exact ha.2.elim
          | _ :: _ :: _ :: _, ha => cases c <;> exact ha.2.2.elim
        · cases h2
      · cases hg
    · cases hg
  · cases hg
def W4 : Tab4 := Wr0.add 25 gFlag
theorem W4_ok : WrOk Try.prog W4 := (Wr0_ok _).add Try.func25 (by kernel_rfl) (by kernel_rfl) gFlag_ok
end Go.Proofs.Ytebaoemoeckgaaa.Ex
namespace Go.Proofs.Ytebaoemoeckgaaa.Ex
set_option linter.unusedVariables false
set_option linter.unusedSimpArgs false
open Go.RowKit

def conj2' (x : Q2) : Q2 := (x.1, F1.neg x.2)
def sc2 (x : Q2) (k : Fq) : Q2 := (F1.mul x.1 k, F1.mul x.2 k)
def nm2 (x : Q2) : Fq := F1.add (F1.mul x.1 x.1) (F1.mul x.2 x.2)
noncomputable def iv2 (x : Q2) : Q2 := sc2 (conj2' x) (finv (nm2 x))
def cr2 : List Q2 → List Fq
  | [] => []
  | x :: r => x.2 :: x.1 :: cr2 r
end Go.Proofs.Ytebaoemoeckgaaa.Ex
namespace Go.Proofs.Ytebaoemoeckgaaa.Ex
set_option linter.unusedVariables false
set_option linter.unusedSimpArgs false
open Go.RowKit

def s6 (x : Q6) (k : Q2) : Q6 := (F2.mul x.1 k, F2.mul x.2.1 k, F2.mul x.2.2 k)
end Go.Proofs.Ytebaoemoeckgaaa.Ex
