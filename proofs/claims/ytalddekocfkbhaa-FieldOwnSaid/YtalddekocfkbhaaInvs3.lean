/-
  The call Invs of a list of no element, wherever it lies.
-/
import Derived.Test.YtalddekocfkbhaaInvs2
namespace Go.Proofs.Ytalddekocfkbhaa
set_option linter.unusedVariables false
set_option linter.unusedSimpArgs false
open Go.ChangeShapes Go.WideShapes Go.ChangeAt Go.RowKit

set_option maxRecDepth 20000 in
set_option maxHeartbeats 4000000 in
theorem hasAll_nil (p : Option Addr) (cap b : Nat) (w : World) :
    Calls Try.prog 79 #[.pointer (some ⟨b, 0, none⟩), .slice p 0 cap] w fun e w' => e = .returned (.bool true) ∧ w' = w := by
  go_enter Try.func79, Try.ntmps79
  go_wp2_with fail
  refine wp_loop_rounds 2 ?_
  rw [rounds_succ]
  go_wp2_with fail
  go_ret
  exact ⟨rfl, rfl⟩

set_option maxRecDepth 20000 in
set_option maxHeartbeats 4000000 in
theorem inverses_nil (F : FC) (hF : F.Ok) (p : Option Addr) (cap b : Nat) (w : World) (hk : KIs w b F) :
    Calls Try.prog 80 #[.pointer (some ⟨b, 0, none⟩), .slice p 0 cap] w (InvsPost F 0 (fun _ _ => 0) w) := by
  obtain ⟨o, hmk, ho⟩ := makeK 0 (by omega)
  obtain ⟨o2, hmk2, ho2⟩ := makeF 0 (by omega)
  have HF := Lib.hid hF
  have B0 := Lib.hid ((Below.refl w.heap.size w).alloc (Nat.le_refl _) o)
  have HK := Lib.hid hk
  clear hF hk ho ho2
  have hmk' : ∀ w, (Instr.makeSlice 152 (.int .i64 0) (.int .i64 0)).run Try.prog w = .ok (.slice (some ⟨w.heap.size, 0, none⟩) 0 0) (w.alloc o) := hmk
  have hmk2' : ∀ w, (Instr.makeSlice 57 (.int .i64 0) (.int .i64 0)).run Try.prog w = .ok (.slice (some ⟨w.heap.size, 0, none⟩) 0 0) (w.alloc o2) := hmk2
  clear hmk hmk2
  go_enter Try.func80, Try.ntmps80
  go_wp2_with fail
  refine (one_calls F HF.out b _ (HK.out.same B0.out)).mono ?_
  rintro e w1 ⟨p0, p1, p2, p3, rfl, hp, hv, hbl⟩
  have M1 := Lib.hid (((Mem.nil w).on (B0.out.trans (hbl.mono (by simp)))).new w1.heap.size p0 p1 p2 p3 83 rfl)
  have HV := Lib.hid hv
  clear hv hbl B0
  go_wp2_with fail
  have kr := M1.out.row (b := w1.heap.size) (c0 := p0) (c1 := p1) (c2 := p2) (c3 := p3) (by simp)
  have y0 := kr.c0; have y1 := kr.c1; have y2 := kr.c2; have y3 := kr.c3
  clear kr
  obtain ⟨W8, hW8⟩ : ∃ W8, W8 = w1.alloc (.cells #[.int .u64 p0, .int .u64 p1, .int .u64 p2, .int .u64 p3] 83) := ⟨_, rfl⟩
  rw [← hW8] at M1 y0 y1 y2 y3 ⊢
  have lt8 : w1.heap.size < W8.heap.size := M1.out.lt (b := w1.heap.size) (c0 := p0) (c1 := p1) (c2 := p2) (c3 := p3) (by simp)
  have sz8 := M1.out.1.size
  have M2 := Lib.hid (M1.out.on ((Below.refl _ _).alloc (Nat.le_refl _) o2))
  clear hW8
  refine wp_loop_rounds 2 ?_
  rw [rounds_succ]
  go_wp2_with fail
  refine (inverted_calls F HF.out 1 b p0 p1 p2 p3 hp HV.out _ (HK.out.same M2.out.1)).mono ?_
  rintro e w2 ⟨s0, s1, s2, s3, rfl, hs, hv, hbl⟩
  have sz2 : W8.heap.size < w2.heap.size := by have := hbl.size; simp at this; omega
  have M3 := Lib.hid (M2.out.on hbl)
  clear hv hbl M2 y0 y1 y2 y3
  go_wp2_with fail
  refine wp_loop_rounds 2 ?_
  rw [rounds_succ]
  go_wp2_with fail
  go_ret
  refine ⟨W8.heap.size, fun _ => 0, rfl, sz8, by simp; omega, fun k hk => absurd hk (by omega), fun j hj => absurd hj (by omega), ?_⟩
  exact (M3.out.new w2.heap.size s0 s1 s2 s3 83 rfl).1

/-- what Invs answers where all is well -/
def FInvs (F : FC) (len : Nat) (A : Nat → Nat → Nat) (w : World) (e : Ending) (w' : World) : Prop :=
  ∃ (bo : Nat) (O : Nat → Nat), e = .returned (.tuple #[.slice (some ⟨bo, 0, none⟩) len len, .int .i64 0]) ∧ w.heap.size ≤ bo ∧ bo < w'.heap.size ∧ RowIs w' bo (len * 4) O ∧ (∀ j, j < len → okP O j ∧ elP O j = elA A j ^ (F.M - 2) % F.M) ∧ Below w.heap.size w w'
set_option maxRecDepth 20000 in
set_option maxHeartbeats 4000000 in
theorem finvs_nil (f : Int) (F : FC) (hf : FieldIs f F) (p : Option Addr) (cap : Nat) (w : World) :
    Calls Try.prog 34 #[.int .i64 f, .slice p 0 cap] w (FInvs F 0 (fun _ _ => 0) w) := by
  go_enter Try.func34, Try.ntmps34
  go_wp2_with fail
  refine (cons_some f F hf _).mono ?_
  rintro e w1 ⟨rfl, hbl⟩
  have HB := Lib.hid hbl
  clear hbl
  have KK := Lib.hid (KIs.new w1 F 85)
  have B2 := Lib.hid (HB.out.alloc HB.out.size (.cells #[.int .u64 F.m0, .int .u64 F.m1, .int .u64 F.m2, .int .u64 F.m3, .int .u64 F.inv, .int .u64 F.s0, .int .u64 F.s1, .int .u64 F.s2, .int .u64 F.s3] 85))
  have sz1 := HB.out.size
  go_wp2_with fail
  refine (hasAll_nil p cap w1.heap.size _).mono ?_
  rintro e w2 ⟨rfl, rfl⟩
  go_wp2_with fail
  refine (inverses_nil F hf.ok p cap w1.heap.size _ KK.out).mono ?_
  rintro e w3 ⟨bo, O, rfl, h3, h4, h5, h6, h7⟩
  have H5 := Lib.hid h5
  have H6 := Lib.hid h6
  have B3 := Lib.hid (B2.out.trans (h7.mono B2.out.size))
  have h3' : w.heap.size ≤ bo := Nat.le_trans B2.out.size h3
  clear h3 h5 h6 h7 KK
  go_wp2_with fail
  go_ret2
  exact ⟨bo, O, rfl, h3', h4, H5.out, H6.out, B3.out⟩
end Go.Proofs.Ytalddekocfkbhaa
