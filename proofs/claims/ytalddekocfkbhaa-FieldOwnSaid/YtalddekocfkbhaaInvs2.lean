/-
  The call Invs.
-/
import Derived.Test.YtalddekocfkbhaaInvs
namespace Go.Proofs.Ytalddekocfkbhaa
set_option linter.unusedVariables false
set_option linter.unusedSimpArgs false
open Go.ChangeShapes Go.WideShapes Go.ChangeAt Go.RowKit

/-- a list in hand: nothing, or a slice of elements laid in memory -/
def LIs (w : World) (v : Value) (len : Nat) (A : Nat → Nat → Nat) : Prop :=
  LOk len A ∧ len ≤ 9223372036854775807 ∧ ((v = .slice none 0 0 ∧ len = 0) ∨ ∃ g off cap, v = .slice (some ⟨g, off, none⟩) len cap ∧ g < w.heap.size ∧ LAt w g off len A)

set_option maxRecDepth 20000 in
set_option maxHeartbeats 4000000 in
theorem finvs_ok (f : Int) (F : FC) (hf : FieldIs f F) (g off len cap : Nat) (A : Nat → Nat → Nat) (hA : LOk len A) (hm : len ≤ 9223372036854775807) (w : World) (hg : 0 < len → g < w.heap.size) (hl : LAt w g off len A) (h1 : len ≤ 65536) (h2 : ∀ k, k < len → elA A k < F.M) :
    Calls Try.prog 34 #[.int .i64 f, .slice (some ⟨g, off, none⟩) len cap] w fun e w' => ∃ (bo : Nat) (O : Nat → Nat), e = .returned (.tuple #[.slice (some ⟨bo, 0, none⟩) len len, .int .i64 0]) ∧ w.heap.size ≤ bo ∧ bo < w'.heap.size ∧ RowIs w' bo (len * 4) O ∧ (∀ j, j < len → okP O j ∧ elP O j = elA A j ^ (F.M - 2) % F.M) ∧ Below w.heap.size w w' := by
  obtain ⟨gr, hroot⟩ := hf.root
  have HRt := Lib.hid hroot
  have HL := Lib.hid hl
  have HG := Lib.hid hg
  clear hg
  have HA := Lib.hid hA
  have HLA := Lib.hid h2
  clear hroot hl hA h2
  go_enter Try.func34, Try.ntmps34
  go_wp2_with fail
  refine (cons_some f F hf _).mono ?_
  rintro e w1 ⟨rfl, hbl⟩
  have HB := Lib.hid hbl
  clear hbl
  have KK := Lib.hid (KIs.new w1 F 85)
  have B2 := Lib.hid (HB.out.alloc HB.out.size (.cells #[.int .u64 F.m0, .int .u64 F.m1, .int .u64 F.m2, .int .u64 F.m3, .int .u64 F.inv, .int .u64 F.s0, .int .u64 F.s1, .int .u64 F.s2, .int .u64 F.s3] 85))
  have sz1 := HB.out.size
  have bc : ¬ (65536 : Int) < (len : Int) := by omega
  go_wp2_with fail
  refine (hasAll_calls F hf.ok w1.heap.size g off len cap A HA.out hm _ KK.out (fun h => by have := HG.out h; simp; omega) (HL.out.same HG.out B2.out)).mono ?_
  rintro e w2 ⟨⟨t, rfl, ht⟩, hb2⟩
  obtain rfl : t = true := ht.2 (fun k hk => HLA.out k hk)
  have K2 := Lib.hid (KK.out.same hb2)
  have B3 := Lib.hid (B2.out.trans (hb2.mono B2.out.size))
  have sz2 := B3.out.size
  clear ht hb2 KK B2
  go_wp2_with fail
  refine (inverses_calls F hf.ok gr HRt.out w1.heap.size g off len cap A HA.out HLA.out h1 _ K2.out (fun h => by have := HG.out h; omega) (HL.out.same HG.out B3.out)).mono ?_
  rintro e w3 ⟨bo, O, rfl, h3, h4, h5, h6, h7⟩
  have H5 := Lib.hid h5
  have H6 := Lib.hid h6
  have H7 := Lib.hid h7
  clear h5 h6 h7 K2
  go_wp2_with fail
  go_ret2
  exact ⟨bo, O, rfl, by omega, h4, H5.out, H6.out, B3.out.trans (H7.out.mono B3.out.size)⟩
set_option maxRecDepth 20000 in
set_option maxHeartbeats 4000000 in
theorem finvs_none (f : Int) (h1 : f ≠ 1) (h2 : f ≠ 2) (p : Option Addr) (len cap : Nat) (w : World) :
    Calls Try.prog 34 #[.int .i64 f, .slice p len cap] w fun e w' => e = .returned (.tuple #[.slice none 0 0, .int .i64 1]) ∧ Below w.heap.size w w' := by
  go_enter Try.func34, Try.ntmps34
  go_wp2_with fail
  refine (cons_none f h1 h2 _).mono ?_
  rintro e w1 ⟨rfl, hbl⟩
  have HB := Lib.hid hbl
  clear hbl
  go_wp2_with fail
  go_ret2
  exact ⟨rfl, HB.out.alloc HB.out.size _⟩

set_option maxRecDepth 20000 in
set_option maxHeartbeats 4000000 in
theorem finvs_count (f : Int) (F : FC) (hf : FieldIs f F) (p : Option Addr) (len cap : Nat) (h : 65536 < len) (w : World) :
    Calls Try.prog 34 #[.int .i64 f, .slice p len cap] w fun e w' => e = .returned (.tuple #[.slice none 0 0, .int .i64 3]) ∧ Below w.heap.size w w' := by
  go_enter Try.func34, Try.ntmps34
  go_wp2_with fail
  refine (cons_some f F hf _).mono ?_
  rintro e w1 ⟨rfl, hbl⟩
  have HB := Lib.hid hbl
  have bc : (65536 : Int) < (len : Int) := by omega
  clear hbl
  go_wp2_with fail
  go_ret2
  exact ⟨rfl, HB.out.alloc HB.out.size _⟩

set_option maxRecDepth 20000 in
set_option maxHeartbeats 4000000 in
theorem finvs_elem (f : Int) (F : FC) (hf : FieldIs f F) (g off len cap : Nat) (A : Nat → Nat → Nat) (hA : LOk len A) (w : World) (hg : 0 < len → g < w.heap.size) (hl : LAt w g off len A) (h1 : len ≤ 65536) (h2 : ¬ ∀ k, k < len → elA A k < F.M) :
    Calls Try.prog 34 #[.int .i64 f, .slice (some ⟨g, off, none⟩) len cap] w fun e w' => e = .returned (.tuple #[.slice none 0 0, .int .i64 21]) ∧ Below w.heap.size w w' := by
  have HL := Lib.hid hl
  have HG := Lib.hid hg
  clear hg
  have HA := Lib.hid hA
  have HLA := Lib.hid h2
  clear hl hA h2
  go_enter Try.func34, Try.ntmps34
  go_wp2_with fail
  refine (cons_some f F hf _).mono ?_
  rintro e w1 ⟨rfl, hbl⟩
  have HB := Lib.hid hbl
  clear hbl
  have KK := Lib.hid (KIs.new w1 F 85)
  have B2 := Lib.hid (HB.out.alloc HB.out.size (.cells #[.int .u64 F.m0, .int .u64 F.m1, .int .u64 F.m2, .int .u64 F.m3, .int .u64 F.inv, .int .u64 F.s0, .int .u64 F.s1, .int .u64 F.s2, .int .u64 F.s3] 85))
  have sz1 := HB.out.size
  have bc : ¬ (65536 : Int) < (len : Int) := by omega
  go_wp2_with fail
  refine (hasAll_calls F hf.ok w1.heap.size g off len cap A HA.out (by omega) _ KK.out (fun h => by have := HG.out h; simp; omega) (HL.out.same HG.out B2.out)).mono ?_
  rintro e w2 ⟨⟨t, rfl, ht⟩, hb2⟩
  obtain rfl : t = false := by
    cases t with
    | false => rfl
    | true => exact absurd (fun k hk => ht.1 rfl k hk) HLA.out
  have B3 := Lib.hid (B2.out.trans (hb2.mono B2.out.size))
  clear ht hb2 KK B2
  go_wp2_with fail
  go_ret2
  exact ⟨rfl, B3.out⟩
end Go.Proofs.Ytalddekocfkbhaa
