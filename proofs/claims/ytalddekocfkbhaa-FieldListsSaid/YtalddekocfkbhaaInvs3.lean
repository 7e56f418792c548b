/-
  The call Invs.
  The call Invs of a list of no element, wherever it lies.
  The call Dot: the sum of the products of two lists, in each of its cases. Conditions: the lists as they lie.
-/
import Derived.Test.YtalddekocfkbhaaInvs
namespace Go.Proofs.Ytalddekocfkbhaa
set_option linter.unusedVariables false
set_option linter.unusedSimpArgs false
open Go.ChangeShapes Go.WideShapes Go.ChangeAt Go.RowKit

/-- a list in hand: nothing, or a slice of elements laid in memory -/
def LIs (w : World) (v : Value) (len : Nat) (A : Nat → Nat → Nat) : Prop :=
  LOk len A ∧ len ≤ 9223372036854775807 ∧ ((v = .slice none 0 0 ∧ len = 0) ∨ ∃ g off cap, v = .slice (some ⟨g, off, none⟩) len cap ∧ g < w.heap.size ∧ LAt w g off len A)

set_option maxRecDepth 20000 in
set_option maxHeartbeats 4000000 in
theorem finvs_ok (f : Int) (F : FC) (hf : FieldIs f F) (g off len cap : Nat) (A : Nat → Nat → Nat) (hA : LOk len A) (hm : len ≤ 9223372036854775807) (w : World) (hg : 0 < len → g < w.heap.size) (hl : LAt w g off len A) (h1 : len ≤ 65536) (h2 : ∀ k, k < len → elA A k < F.M) :
    Calls Try.prog 34 #[.int .i64 f, .slice (some ⟨g, off, none⟩) len cap] w fun e w' => ∃ (bo : Nat) (O : Nat → Nat), e = .returned (.tuple #[.slice (some ⟨bo, 0, none⟩) len len, .int .i64 0]) ∧ w.heap.size ≤ bo ∧ bo < w'.heap.size ∧ RowIs w' bo (len * 4) O ∧ (∀ j, j < len → okP O j ∧ elP O j = elA A j ^ (F.M - 2) % F.M) ∧ Below w.heap.size w w' := by
  obtain ⟨gr, hroot⟩ := hf.root
  have HRt := Lib.hid hroot
  have HL := Lib.hid hl
  have HG := Lib.hid hg
  clear hg
  have HA := Lib.hid hA
  have HLA := Lib.hid h2
  clear hroot hl hA h2
  go_enter Try.func34, Try.ntmps34
  go_wp2_with fail
  refine (cons_some f F hf _).mono ?_
  rintro e w1 ⟨rfl, hbl⟩
  have HB := Lib.hid hbl
  clear hbl
  have KK := Lib.hid (KIs.new w1 F 85)
  have B2 := Lib.hid (HB.out.alloc HB.out.size (.cells #[.int .u64 F.m0, .int .u64 F.m1, .int .u64 F.m2, .int .u64 F.m3, .int .u64 F.inv, .int .u64 F.s0, .int .u64 F.s1, .int .u64 F.s2, .int .u64 F.s3] 85))
  have sz1 := HB.out.size
  have bc : ¬ (65536 : Int) < (len : Int) := by omega
  go_wp2_with fail
  refine (hasAll_calls F hf.ok w1.heap.size g off len cap A HA.out hm _ KK.out (fun h => by have := HG.out h; simp; omega) (HL.out.same HG.out B2.out)).mono ?_
  rintro e w2 ⟨⟨t, rfl, ht⟩, hb2⟩
  obtain rfl : t = true := ht.2 (fun k hk => HLA.out k hk)
  have K2 := Lib.hid (KK.out.same hb2)
  have B3 := Lib.hid (B2.out.trans (hb2.mono B2.out.size))
  have sz2 := B3.out.size
  clear ht hb2 KK B2
  go_wp2_with fail
  refine (inverses_calls F hf.ok gr HRt.out w1.heap.size g off len cap A HA.out HLA.out h1 _ K2.out (fun h => by have := HG.out h; omega) (HL.out.same HG.out B3.out)).mono ?_
  rintro e w3 ⟨bo, O, rfl, h3, h4, h5, h6, h7⟩
  have H5 := Lib.hid h5
  have H6 := Lib.hid h6
  have H7 := Lib.hid h7
  clear h5 h6 h7 K2
  go_wp2_with fail
  go_ret2
  exact ⟨bo, O, rfl, by omega, h4, H5.out, H6.out, B3.out.trans (H7.out.mono B3.out.size)⟩
set_option maxRecDepth 20000 in
set_option maxHeartbeats 4000000 in
theorem finvs_none (f : Int) (h1 : f ≠ 1) (h2 : f ≠ 2) (p : Option Addr) (len cap : Nat) (w : World) :
    Calls Try.prog 34 #[.int .i64 f, .slice p len cap] w fun e w' => e = .returned (.tuple #[.slice none 0 0, .int .i64 1]) ∧ Below w.heap.size w w' := by
  go_enter Try.func34, Try.ntmps34
  go_wp2_with fail
  refine (cons_none f h1 h2 _).mono ?_
  rintro e w1 ⟨rfl, hbl⟩
  have HB := Lib.hid hbl
  clear hbl
  go_wp2_with fail
  go_ret2
  exact ⟨rfl, HB.out.alloc HB.out.size _⟩

set_option maxRecDepth 20000 in
set_option maxHeartbeats 4000000 in
theorem finvs_count (f : Int) (F : FC) (hf : FieldIs f F) (p : Option Addr) (len cap : Nat) (h : 65536 < len) (w : World) :
    Calls Try.prog 34 #[.int .i64 f, .slice p len cap] w fun e w' => e = .returned (.tuple #[.slice none 0 0, .int .i64 3]) ∧ Below w.heap.size w w' := by
  go_enter Try.func34, Try.ntmps34
  go_wp2_with fail
  refine (cons_some f F hf _).mono ?_
  rintro e w1 ⟨rfl, hbl⟩
  have HB := Lib.hid hbl
  have bc : (65536 : Int) < (len : Int) := by omega
  clear hbl
  go_wp2_with fail
  go_ret2
  exact ⟨rfl, HB.out.alloc HB.out.size _⟩

set_option maxRecDepth 20000 in
set_option maxHeartbeats 4000000 in
theorem finvs_elem (f : Int) (F : FC) (hf : FieldIs f F) (g off len cap : Nat) (A : Nat → Nat → Nat) (hA : LOk len A) (w : World) (hg : 0 < len → g < w.heap.size) (hl : LAt w g off len A) (h1 : len ≤ 65536) (h2 : ¬ ∀ k, k < len → elA A k < F.M) :
    Calls Try.prog 34 #[.int .i64 f, .slice (some ⟨g, off, none⟩) len cap] w fun e w' => e = .returned (.tuple #[.slice none 0 0, .int .i64 21]) ∧ Below w.heap.size w w' := by
  have HL := Lib.hid hl
  have HG := Lib.hid hg
  clear hg
  have HA := Lib.hid hA
  have HLA := Lib.hid h2
  clear hl hA h2
  go_enter Try.func34, Try.ntmps34
  go_wp2_with fail
  refine (cons_some f F hf _).mono ?_
  rintro e w1 ⟨rfl, hbl⟩
  have HB := Lib.hid hbl
  clear hbl
  have KK := Lib.hid (KIs.new w1 F 85)
  have B2 := Lib.hid (HB.out.alloc HB.out.size (.cells #[.int .u64 F.m0, .int .u64 F.m1, .int .u64 F.m2, .int .u64 F.m3, .int .u64 F.inv, .int .u64 F.s0, .int .u64 F.s1, .int .u64 F.s2, .int .u64 F.s3] 85))
  have sz1 := HB.out.size
  have bc : ¬ (65536 : Int) < (len : Int) := by omega
  go_wp2_with fail
  refine (hasAll_calls F hf.ok w1.heap.size g off len cap A HA.out (by omega) _ KK.out (fun h => by have := HG.out h; simp; omega) (HL.out.same HG.out B2.out)).mono ?_
  rintro e w2 ⟨⟨t, rfl, ht⟩, hb2⟩
  obtain rfl : t = false := by
    cases t with
    | false => rfl
    | true => exact absurd (fun k hk => ht.1 rfl k hk) HLA.out
  have B3 := Lib.hid (B2.out.trans (hb2.mono B2.out.size))
  clear ht hb2 KK B2
  go_wp2_with fail
  go_ret2
  exact ⟨rfl, B3.out⟩
end Go.Proofs.Ytalddekocfkbhaa
namespace Go.Proofs.Ytalddekocfkbhaa
set_option linter.unusedVariables false
set_option linter.unusedSimpArgs false
open Go.ChangeShapes Go.WideShapes Go.ChangeAt Go.RowKit

set_option maxRecDepth 20000 in
set_option maxHeartbeats 4000000 in
theorem hasAll_nil (p : Option Addr) (cap b : Nat) (w : World) :
    Calls Try.prog 79 #[.pointer (some ⟨b, 0, none⟩), .slice p 0 cap] w fun e w' => e = .returned (.bool true) ∧ w' = w := by
  go_enter Try.func79, Try.ntmps79
  go_wp2_with fail
  refine wp_loop_rounds 2 ?_
  rw [rounds_succ]
  go_wp2_with fail
  go_ret
  exact ⟨rfl, rfl⟩

set_option maxRecDepth 20000 in
set_option maxHeartbeats 4000000 in
theorem inverses_nil (F : FC) (hF : F.Ok) (p : Option Addr) (cap b : Nat) (w : World) (hk : KIs w b F) :
    Calls Try.prog 80 #[.pointer (some ⟨b, 0, none⟩), .slice p 0 cap] w (InvsPost F 0 (fun _ _ => 0) w) := by
  obtain ⟨o, hmk, ho⟩ := makeK 0 (by omega)
  obtain ⟨o2, hmk2, ho2⟩ := makeF 0 (by omega)
  have HF := Lib.hid hF
  have B0 := Lib.hid ((Below.refl w.heap.size w).alloc (Nat.le_refl _) o)
  have HK := Lib.hid hk
  clear hF hk ho ho2
  have hmk' : ∀ w, (Instr.makeSlice 152 (.int .i64 0) (.int .i64 0)).run Try.prog w = .ok (.slice (some ⟨w.heap.size, 0, none⟩) 0 0) (w.alloc o) := hmk
  have hmk2' : ∀ w, (Instr.makeSlice 57 (.int .i64 0) (.int .i64 0)).run Try.prog w = .ok (.slice (some ⟨w.heap.size, 0, none⟩) 0 0) (w.alloc o2) := hmk2
  clear hmk hmk2
  go_enter Try.func80, Try.ntmps80
  go_wp2_with fail
  refine (one_calls F HF.out b _ (HK.out.same B0.out)).mono ?_
  rintro e w1 ⟨p0, p1, p2, p3, rfl, hp, hv, hbl⟩
  have M1 := Lib.hid (((Mem.nil w).on (B0.out.trans (hbl.mono (by simp)))).new w1.heap.size p0 p1 p2 p3 83 rfl)
  have HV := Lib.hid hv
  clear hv hbl B0
  go_wp2_with fail
  have kr := M1.out.row (b := w1.heap.size) (c0 := p0) (c1 := p1) (c2 := p2) (c3 := p3) (by simp)
  have y0 := kr.c0; have y1 := kr.c1; have y2 := kr.c2; have y3 := kr.c3
  clear kr
  obtain ⟨W8, hW8⟩ : ∃ W8, W8 = w1.alloc (.cells #[.int .u64 p0, .int .u64 p1, .int .u64 p2, .int .u64 p3] 83) := ⟨_, rfl⟩
  rw [← hW8] at M1 y0 y1 y2 y3 ⊢
  have lt8 : w1.heap.size < W8.heap.size := M1.out.lt (b := w1.heap.size) (c0 := p0) (c1 := p1) (c2 := p2) (c3 := p3) (by simp)
  have sz8 := M1.out.1.size
  have M2 := Lib.hid (M1.out.on ((Below.refl _ _).alloc (Nat.le_refl _) o2))
  clear hW8
  refine wp_loop_rounds 2 ?_
  rw [rounds_succ]
  go_wp2_with fail
  refine (inverted_calls F HF.out 1 b p0 p1 p2 p3 hp HV.out _ (HK.out.same M2.out.1)).mono ?_
  rintro e w2 ⟨s0, s1, s2, s3, rfl, hs, hv, hbl⟩
  have sz2 : W8.heap.size < w2.heap.size := by have := hbl.size; simp at this; omega
  have M3 := Lib.hid (M2.out.on hbl)
  clear hv hbl M2 y0 y1 y2 y3
  go_wp2_with fail
  refine wp_loop_rounds 2 ?_
  rw [rounds_succ]
  go_wp2_with fail
  go_ret
  refine ⟨W8.heap.size, fun _ => 0, rfl, sz8, by simp; omega, fun k hk => absurd hk (by omega), fun j hj => absurd hj (by omega), ?_⟩
  exact (M3.out.new w2.heap.size s0 s1 s2 s3 83 rfl).1

/-- what Invs answers where all is well -/
def FInvs (F : FC) (len : Nat) (A : Nat → Nat → Nat) (w : World) (e : Ending) (w' : World) : Prop :=
  ∃ (bo : Nat) (O : Nat → Nat), e = .returned (.tuple #[.slice (some ⟨bo, 0, none⟩) len len, .int .i64 0]) ∧ w.heap.size ≤ bo ∧ bo < w'.heap.size ∧ RowIs w' bo (len * 4) O ∧ (∀ j, j < len → okP O j ∧ elP O j = elA A j ^ (F.M - 2) % F.M) ∧ Below w.heap.size w w'
set_option maxRecDepth 20000 in
set_option maxHeartbeats 4000000 in
theorem finvs_nil (f : Int) (F : FC) (hf : FieldIs f F) (p : Option Addr) (cap : Nat) (w : World) :
    Calls Try.prog 34 #[.int .i64 f, .slice p 0 cap] w (FInvs F 0 (fun _ _ => 0) w) := by
  go_enter Try.func34, Try.ntmps34
  go_wp2_with fail
  refine (cons_some f F hf _).mono ?_
  rintro e w1 ⟨rfl, hbl⟩
  have HB := Lib.hid hbl
  clear hbl
  have KK := Lib.hid (KIs.new w1 F 85)
  have B2 := Lib.hid (HB.out.alloc HB.out.size (.cells #[.int .u64 F.m0, .int .u64 F.m1, .int .u64 F.m2, .int .u64 F.m3, .int .u64 F.inv, .int .u64 F.s0, .int .u64 F.s1, .int .u64 F.s2, .int .u64 F.s3] 85))
  have sz1 := HB.out.size
  go_wp2_with fail
  refine (hasAll_nil p cap w1.heap.size _).mono ?_
  rintro e w2 ⟨rfl, rfl⟩
  go_wp2_with fail
  refine (inverses_nil F hf.ok p cap w1.heap.size _ KK.out).mono ?_
  rintro e w3 ⟨bo, O, rfl, h3, h4, h5, h6, h7⟩
  have H5 := Lib.hid h5
  have H6 := Lib.hid h6
  have B3 := Lib.hid (B2.out.trans (h7.mono B2.out.size))
  have h3' : w.heap.size ≤ bo := Nat.le_trans B2.out.size h3
  clear h3 h5 h6 h7 KK
  go_wp2_with fail
  go_ret2
  exact ⟨bo, O, rfl, h3', h4, H5.out, H6.out, B3.out⟩
end Go.Proofs.Ytalddekocfkbhaa
namespace Go.Proofs.Ytalddekocfkbhaa
set_option linter.unusedVariables false
set_option linter.unusedSimpArgs false
open Go.RowKit

/-- a list of elements in hand, wherever it lies -/
def FIs (W : World) (o : Option Addr) (len : Nat) (A : Nat → Nat → Nat) : Prop := len * 32 ≤ 140737488351232 ∧ LOk len A ∧ (0 < len → ∃ g off, o = some ⟨g, off, none⟩ ∧ g < W.heap.size ∧ LAt W g off len A)
theorem FIs.on {W w : World} {o : Option Addr} {len : Nat} {A : Nat → Nat → Nat} (h : FIs W o len A) (hb : Below W.heap.size W w) : FIs w o len A := by
  refine ⟨h.1, h.2.1, fun hl => ?_⟩
  obtain ⟨g, off, e, hg, hc⟩ := h.2.2 hl
  exact ⟨g, off, e, Nat.lt_of_lt_of_le hg hb.size, hc.same (fun _ => hg) hb⟩
def allIn (M : Nat) (len : Nat) (A : Nat → Nat → Nat) : Prop := ∀ k, k < len → elA A k < M
theorem hasAll_any (F : FC) (hF : F.Ok) (b : Nat) (o : Option Addr) (len cap : Nat) (A : Nat → Nat → Nat) (w : World) (hk : KIs w b F) (h : FIs w o len A) :
    Calls Try.prog 79 #[.pointer (some ⟨b, 0, none⟩), .slice o len cap] w fun e w' => (∃ t : Bool, e = .returned (.bool t) ∧ (t = true ↔ allIn F.M len A)) ∧ Below w.heap.size w w' := by
  by_cases h0 : 0 < len
  · obtain ⟨g, off, rfl, hg, hc⟩ := h.2.2 h0
    exact hasAll_calls F hF b g off len cap A h.2.1 (by have := h.1; omega) w hk (fun _ => hg) hc
  · obtain rfl : len = 0 := by omega
    refine (hasAll_nil o cap b w).mono ?_
    rintro e w' ⟨he, rfl⟩
    exact ⟨⟨true, he, fun _ k hk => absurd hk (by omega), fun _ => rfl⟩, Below.refl _ _⟩
def dotN (M : Nat) (X Y : Nat → Nat) : Nat → Nat
  | 0 => 0
  | n + 1 => (dotN M X Y n + X n * Y n) % M
theorem dotN_lt {M : Nat} (h : 0 < M) (X Y : Nat → Nat) : ∀ n, dotN M X Y n < M
  | 0 => h
  | n + 1 => Nat.mod_lt _ h
theorem dot_step {F : FC} (hF : F.Ok) {s x y d : Nat} (h : s * F.R % F.M = d) : (s + x * y * F.Ri % F.M) % F.M * F.R % F.M = (d + x * y) % F.M := by
  have e1 : (s + x * y * F.Ri % F.M) % F.M * F.R % F.M = (s * F.R + x * y * F.Ri * F.R) % F.M := by
    rw [Nat.mod_mul_mod, Nat.add_mul, Nat.add_mod, Nat.mod_mul_mod, ← Nat.add_mod]
  have e2 : x * y * F.Ri * F.R % F.M = x * y % F.M := by rw [Nat.mul_right_comm]; exact ri_cancel hF _
  rw [e1, Nat.add_mod, h, e2, Nat.add_mod_mod]
set_option maxRecDepth 100000 in
set_option maxHeartbeats 4000000 in
theorem fdot_none (f : Int) (h1 : f ≠ 1) (h2 : f ≠ 2) (p q : Option Addr) (la ca lb cb : Nat)  (w : World) :
    Calls Try.prog 36 #[.int .i64 f, .slice p la ca, .slice q lb cb] w (FeE 1 0 w) := by
  go_enter Try.func36, Try.ntmps36
  go_wp2_with fail
  have HM := Lib.hid ((Mem.nil w).new (w.heap.size) 0 0 0 0 25 (by simp))
  refine (cons_none f h1 h2 _).mono ?_
  rintro e w1 ⟨rfl, hbl⟩
  have HM' := Lib.hid (HM.out.on hbl)
  clear hbl
  clear HM
  have HM := HM'
  clear HM'
  have kr := HM.out.row (b := w.heap.size) (c0 := 0) (c1 := 0) (c2 := 0) (c3 := 0) (by simp)
  have y0 := kr.c0; have y1 := kr.c1; have y2 := kr.c2; have y3 := kr.c3; have yf := kr.fr
  clear kr
  have yl := HM.out.lt (b := w.heap.size) (c0 := 0) (c1 := 0) (c2 := 0) (c3 := 0) (by simp)
  go_wp2_with fail
  refine bodyPost_ret (v := .tuple #[.agg #[.int .u64 (0 : Nat), .int .u64 (0 : Nat), .int .u64 (0 : Nat), .int .u64 (0 : Nat)], .int .i64 1]) (by simp [results, Try.results36, go_sem, *]) rfl ?_
  refine ⟨_, _, _, _, rfl, zok, rfl, ?_⟩
  have hb := HM.out.1
  repeat (first | exact hb | refine Below.drew ?_ | refine Below.alloc ?_ (by first | exact hb.size | (simp; done) | (simp; omega)) _ | refine Below.setCell ?_ (by simp) _)
set_option maxRecDepth 100000 in
set_option maxHeartbeats 4000000 in
theorem fdot_count (f : Int) (F : FC) (hf : FieldIs f F) (p q : Option Addr) (la ca lb cb : Nat) (hne : la ≠ lb ∨ 65536 < la) (hm : la ≤ 9223372036854775807) (hm2 : lb ≤ 9223372036854775807) (w : World) :
    Calls Try.prog 36 #[.int .i64 f, .slice p la ca, .slice q lb cb] w (FeE 3 0 w) := by
  go_enter Try.func36, Try.ntmps36
  go_wp2_with fail
  have HM := Lib.hid ((Mem.nil w).new (w.heap.size) 0 0 0 0 25 (by simp))
  refine (cons_some f F hf _).mono ?_
  rintro e w1 ⟨rfl, hbl⟩
  have KK := Lib.hid (KIs.new w1 F 85)
  have B1 := Lib.hid (HM.out.on hbl)
  clear HM hbl
  have HM := Lib.hid (show Mem w (w1.alloc (.cells #[.int .u64 F.m0, .int .u64 F.m1, .int .u64 F.m2, .int .u64 F.m3, .int .u64 F.inv, .int .u64 F.s0, .int .u64 F.s1, .int .u64 F.s2, .int .u64 F.s3] 85)) [(w.heap.size, 0, 0, 0, 0)] from B1.out.on ((Below.refl _ _).alloc (Nat.le_refl _) _))
  clear B1
  have kr := HM.out.row (b := w.heap.size) (c0 := 0) (c1 := 0) (c2 := 0) (c3 := 0) (by simp)
  have y0 := kr.c0; have y1 := kr.c1; have y2 := kr.c2; have y3 := kr.c3; have yf := kr.fr
  clear kr
  have yl := HM.out.lt (b := w.heap.size) (c0 := 0) (c1 := 0) (c2 := 0) (c3 := 0) (by simp)
  by_cases h : la = lb
  · subst h
    have t1 : decide ((65536 : Int) < (la : Int)) = true := decide_eq_true (by omega)
    go_wp2_with fail
    refine bodyPost_ret (v := .tuple #[.agg #[.int .u64 (0 : Nat), .int .u64 (0 : Nat), .int .u64 (0 : Nat), .int .u64 (0 : Nat)], .int .i64 3]) (by simp [results, Try.results36, go_sem, *]) rfl ?_
    refine ⟨_, _, _, _, rfl, zok, rfl, ?_⟩
    exact below_set4 HM.out.1 (Nat.le_refl _) 0 0 0 0
  · have t1 : ((la : Int) != (lb : Int)) = true := by simp; omega
    go_wp2_with fail
    refine bodyPost_ret (v := .tuple #[.agg #[.int .u64 (0 : Nat), .int .u64 (0 : Nat), .int .u64 (0 : Nat), .int .u64 (0 : Nat)], .int .i64 3]) (by simp [results, Try.results36, go_sem, *]) rfl ?_
    refine ⟨_, _, _, _, rfl, zok, rfl, ?_⟩
    exact below_set4 HM.out.1 (Nat.le_refl _) 0 0 0 0
set_option maxRecDepth 100000 in
set_option maxHeartbeats 4000000 in
theorem fdot_elem (f : Int) (F : FC) (hf : FieldIs f F) (p q : Option Addr) (la ca lb cb : Nat) (A B : Nat → Nat → Nat) (h1 : la = lb) (h2 : la ≤ 65536) (hbad : ¬ (allIn F.M la A ∧ allIn F.M lb B)) (w : World) (hA : FIs w p la A) (hB : FIs w q lb B) :
    Calls Try.prog 36 #[.int .i64 f, .slice p la ca, .slice q lb cb] w (FeE 21 0 w) := by
  subst h1
  have HA := Lib.hid hA
  have HB := Lib.hid hB
  clear hA hB
  go_enter Try.func36, Try.ntmps36
  go_wp2_with fail
  have HM := Lib.hid ((Mem.nil w).new (w.heap.size) 0 0 0 0 25 (by simp))
  refine (cons_some f F hf _).mono ?_
  rintro e w1 ⟨rfl, hbl⟩
  have KK := Lib.hid (KIs.new w1 F 85)
  have B1 := Lib.hid (HM.out.on hbl)
  clear HM hbl
  have HM := Lib.hid (show Mem w (w1.alloc (.cells #[.int .u64 F.m0, .int .u64 F.m1, .int .u64 F.m2, .int .u64 F.m3, .int .u64 F.inv, .int .u64 F.s0, .int .u64 F.s1, .int .u64 F.s2, .int .u64 F.s3] 85)) [(w.heap.size, 0, 0, 0, 0)] from B1.out.on ((Below.refl _ _).alloc (Nat.le_refl _) _))
  clear B1
  have t1 : decide ((65536 : Int) < (la : Int)) = false := decide_eq_false (by omega)
  go_wp2_with fail
  refine (hasAll_any F hf.ok w1.heap.size p la ca A _ KK.out (HA.out.on HM.out.1)).mono ?_
  rintro e w2 ⟨⟨t, rfl, ht⟩, hbl⟩
  by_cases ha : allIn F.M la A
  · obtain rfl : t = true := ht.2 ha
    have KK' := Lib.hid (KK.out.same hbl)
    have HM' := Lib.hid (HM.out.on hbl)
    clear hbl KK ht
    have KK := KK'
    clear KK'
    clear HM
    have HM := HM'
    clear HM'
    go_wp2_with fail
    refine (hasAll_any F hf.ok w1.heap.size q la cb B _ KK.out (HB.out.on HM.out.1)).mono ?_
    rintro e w3 ⟨⟨t, rfl, ht⟩, hbl⟩
    obtain rfl : t = false := by
      cases t with
      | false => rfl
      | true => exact absurd (ht.1 rfl) (fun h => hbad ⟨ha, h⟩)
    have KK' := Lib.hid (KK.out.same hbl)
    have HM' := Lib.hid (HM.out.on hbl)
    clear hbl KK ht
    have KK := KK'
    clear KK'
    clear HM
    have HM := HM'
    clear HM'
    have kr := HM.out.row (b := w.heap.size) (c0 := 0) (c1 := 0) (c2 := 0) (c3 := 0) (by simp)
    have y0 := kr.c0; have y1 := kr.c1; have y2 := kr.c2; have y3 := kr.c3; have yf := kr.fr
    clear kr
    have yl := HM.out.lt (b := w.heap.size) (c0 := 0) (c1 := 0) (c2 := 0) (c3 := 0) (by simp)
    go_wp2_with fail
    refine bodyPost_ret (v := .tuple #[.agg #[.int .u64 (0 : Nat), .int .u64 (0 : Nat), .int .u64 (0 : Nat), .int .u64 (0 : Nat)], .int .i64 21]) (by simp [results, Try.results36, go_sem, *]) rfl ?_
    refine ⟨_, _, _, _, rfl, zok, rfl, ?_⟩
    exact below_set4 HM.out.1 (Nat.le_refl _) 0 0 0 0
  · obtain rfl : t = false := by
      cases t with
      | false => rfl
      | true => exact absurd (ht.1 rfl) ha
    have KK' := Lib.hid (KK.out.same hbl)
    have HM' := Lib.hid (HM.out.on hbl)
    clear hbl KK ht
    have KK := KK'
    clear KK'
    clear HM
    have HM := HM'
    clear HM'
    have kr := HM.out.row (b := w.heap.size) (c0 := 0) (c1 := 0) (c2 := 0) (c3 := 0) (by simp)
    have y0 := kr.c0; have y1 := kr.c1; have y2 := kr.c2; have y3 := kr.c3; have yf := kr.fr
    clear kr
    have yl := HM.out.lt (b := w.heap.size) (c0 := 0) (c1 := 0) (c2 := 0) (c3 := 0) (by simp)
    go_wp2_with fail
    refine bodyPost_ret (v := .tuple #[.agg #[.int .u64 (0 : Nat), .int .u64 (0 : Nat), .int .u64 (0 : Nat), .int .u64 (0 : Nat)], .int .i64 21]) (by simp [results, Try.results36, go_sem, *]) rfl ?_
    refine ⟨_, _, _, _, rfl, zok, rfl, ?_⟩
    exact below_set4 HM.out.1 (Nat.le_refl _) 0 0 0 0
set_option maxRecDepth 100000 in
set_option maxHeartbeats 4000000 in
theorem fdot_ok (f : Int) (F : FC) (hf : FieldIs f F) (p q : Option Addr) (la ca lb cb : Nat) (A B : Nat → Nat → Nat) (h1 : la = lb) (h2 : la ≤ 65536) (ia : allIn F.M la A) (ib : allIn F.M lb B) (w : World) (hA : FIs w p la A) (hB : FIs w q lb B) :
    Calls Try.prog 36 #[.int .i64 f, .slice p la ca, .slice q lb cb] w (FeE 0 (dotN F.M (elA A) (elA B) la) w) := by
  subst h1
  have hok := hf.ok
  have hpos := hf.ok.pos
  have IA := Lib.hid ia
  have IB := Lib.hid ib
  clear ia ib
  have HA := Lib.hid hA
  have HB := Lib.hid hB
  clear hA hB
  go_enter Try.func36, Try.ntmps36
  go_wp2_with fail
  have HM := Lib.hid ((Mem.nil w).new (w.heap.size) 0 0 0 0 25 (by simp))
  refine (cons_some f F hf _).mono ?_
  rintro e w1 ⟨rfl, hbl⟩
  have KK := Lib.hid (KIs.new w1 F 85)
  have B1 := Lib.hid (HM.out.on hbl)
  clear HM hbl
  have HM := Lib.hid (show Mem w (w1.alloc (.cells #[.int .u64 F.m0, .int .u64 F.m1, .int .u64 F.m2, .int .u64 F.m3, .int .u64 F.inv, .int .u64 F.s0, .int .u64 F.s1, .int .u64 F.s2, .int .u64 F.s3] 85)) [(w.heap.size, 0, 0, 0, 0)] from B1.out.on ((Below.refl _ _).alloc (Nat.le_refl _) _))
  clear B1
  have t1 : decide ((65536 : Int) < (la : Int)) = false := decide_eq_false (by omega)
  go_wp2_with fail
  refine (hasAll_any F hf.ok w1.heap.size p la ca A _ KK.out (HA.out.on HM.out.1)).mono ?_
  rintro e w2 ⟨⟨t, rfl, ht⟩, hbl⟩
  obtain rfl : t = true := ht.2 IA.out
  have KK' := Lib.hid (KK.out.same hbl)
  have HM' := Lib.hid (HM.out.on hbl)
  clear hbl KK ht
  have KK := KK'
  clear KK'
  clear HM
  have HM := HM'
  clear HM'
  go_wp2_with fail
  refine (hasAll_any F hf.ok w1.heap.size q la cb B _ KK.out (HB.out.on HM.out.1)).mono ?_
  rintro e w3 ⟨⟨t, rfl, ht⟩, hbl⟩
  obtain rfl : t = true := ht.2 IB.out
  have KK' := Lib.hid (KK.out.same hbl)
  have HM' := Lib.hid (HM.out.on hbl)
  clear hbl KK ht
  have KK := KK'
  clear KK'
  clear HM
  have HM := HM'
  clear HM'
  go_wp2_with fail
  have kl : w1.heap.size < w3.heap.size := KK.out.lt
  have ls : w.heap.size < w3.heap.size := HM.out.lt (b := w.heap.size) (c0 := 0) (c1 := 0) (c2 := 0) (c3 := 0) (by simp)
  have HM' := Lib.hid (HM.out.new w3.heap.size 0 0 0 0 25 rfl)
  have KK' := Lib.hid (KK.out.same ((Below.refl _ w3).alloc (Nat.le_refl _) (.cells #[.int .u64 (0 : Nat), .int .u64 (0 : Nat), .int .u64 (0 : Nat), .int .u64 (0 : Nat)] 25)))
  clear KK
  have KK := KK'
  clear KK'
  clear HM
  have HM := HM'
  clear HM'
  obtain ⟨W5, hW5⟩ : ∃ W5, W5 = (w3.alloc (.cells #[.int .u64 (0 : Nat), .int .u64 (0 : Nat), .int .u64 (0 : Nat), .int .u64 (0 : Nat)] 25)) := ⟨_, rfl⟩
  obtain ⟨gs, hgs⟩ : ∃ gs, gs = w3.heap.size := ⟨_, rfl⟩
  rw [← hgs] at HM kl ls ⊢
  clear hgs hW5 W5
  go_loopw [43] (fun t wr => ∃ (k s0 s1 s2 s3 : Nat), k ≤ la ∧ t = .int .i64 k ∧ ok4 s0 s1 s2 s3 ∧ Hid (val4 s0 s1 s2 s3 < F.M ∧ val4 s0 s1 s2 s3 * F.R % F.M = dotN F.M (elA A) (elA B) k) ∧ Hid (Mem w wr [(gs, s0, s1, s2, s3), (w.heap.size, 0, 0, 0, 0)]) ∧ Hid (KIs wr w1.heap.size F)) (fun t _ => la - (intOf t).toNat)
  case atStart => exact ⟨0, 0, 0, 0, 0, Nat.zero_le _, rfl, zok, Lib.hid ⟨hpos, by rw [show val4 0 0 0 0 = 0 from rfl, Nat.zero_mul, Nat.zero_mod]; rfl⟩, HM, KK⟩
  case round =>
    clear HM KK
    obtain ⟨k, s0, s1, s2, s3, hk, rfl, hs, HV, HM, KK⟩ := hrel
    by_cases hlt : k < la
    · obtain ⟨g, off, rfl, hg, hla⟩ := HA.out.2.2 (by omega)
      obtain ⟨g2, off2, rfl, hg2, hlb⟩ := HB.out.2.2 (by omega)
      obtain ⟨a0, a1, a2, a3, e0, e1, e2, e3⟩ : ∃ a0 a1 a2 a3 : Nat, a0 = A k 0 ∧ a1 = A k 1 ∧ a2 = A k 2 ∧ a3 = A k 3 := ⟨_, _, _, _, rfl, rfl, rfl, rfl⟩
      obtain ⟨b0, b1, b2, b3, d0, d1, d2, d3⟩ : ∃ b0 b1 b2 b3 : Nat, b0 = B k 0 ∧ b1 = B k 1 ∧ b2 = B k 2 ∧ b3 = B k 3 := ⟨_, _, _, _, rfl, rfl, rfl, rfl⟩
      have hoka := HA.out.2.1 k hlt
      have hokb := HB.out.2.1 k hlt
      have hva : elA A k = val4 a0 a1 a2 a3 := by unfold elA; rw [← e0, ← e1, ← e2, ← e3]
      have hvb : elA B k = val4 b0 b1 b2 b3 := by unfold elA; rw [← d0, ← d1, ← d2, ← d3]
      have hlb' : val4 b0 b1 b2 b3 < F.M := by rw [← hvb]; exact IB.out k hlt
      rw [← e0, ← e1, ← e2, ← e3] at hoka
      rw [← d0, ← d1, ← d2, ← d3] at hokb
      have HCA := Lib.hid (show ∀ wx, Below w.heap.size w wx → wx.cell? ⟨g, off + k * 4, none⟩ = some (.int .u64 (a0 : Nat)) ∧ wx.cell? ⟨g, off + k * 4 + 1, none⟩ = some (.int .u64 (a1 : Nat)) ∧ wx.cell? ⟨g, off + k * 4 + 2, none⟩ = some (.int .u64 (a2 : Nat)) ∧ wx.cell? ⟨g, off + k * 4 + 3, none⟩ = some (.int .u64 (a3 : Nat)) from fun wx hx => by
        have q := (hla.same (fun _ => hg) hx) k hlt
        rw [← e0, ← e1, ← e2, ← e3] at q
        exact q)
      have HCB := Lib.hid (show ∀ wx, Below w.heap.size w wx → wx.cell? ⟨g2, off2 + k * 4, none⟩ = some (.int .u64 (b0 : Nat)) ∧ wx.cell? ⟨g2, off2 + k * 4 + 1, none⟩ = some (.int .u64 (b1 : Nat)) ∧ wx.cell? ⟨g2, off2 + k * 4 + 2, none⟩ = some (.int .u64 (b2 : Nat)) ∧ wx.cell? ⟨g2, off2 + k * 4 + 3, none⟩ = some (.int .u64 (b3 : Nat)) from fun wx hx => by
        have q := (hlb.same (fun _ => hg2) hx) k hlt
        rw [← d0, ← d1, ← d2, ← d3] at q
        exact q)
      have HO := Lib.hid (And.intro hoka hokb)
      have HE := Lib.hid (And.intro hva (And.intro hvb hlb'))
      clear e0 e1 e2 e3 d0 d1 d2 d3 hla hlb hoka hokb hva hvb hlb'
      go_wp2_with fail
      refine region_till (fun wx => Below wr.heap.size wr wx) 11 (by kernel_rfl) ?_
      have HS := below_drewN' wr.heap.size wr 1
      have H8 := Lib.hid HS
      refine till_take (i := 0) (v := .agg #[.int .u64 s0, .int .u64 s1, .int .u64 s2, .int .u64 s3]) rfl (by kernel_rfl) (by kernel_rfl) (by kernel_rfl) (by kernel_rfl) (fun _ _ _ h => h) HS (Or.inl ⟨by kernel_rfl, fun wx hx => ?_⟩) ?_
      · have kr := (HM.out.on hx).row (b := gs) (c0 := s0) (c1 := s1) (c2 := s2) (c3 := s3) (by simp)
        have x0 := kr.c0; have x1 := kr.c1; have x2 := kr.c2; have x3 := kr.c3
        clear kr
        clear HS hx
        go_simp
      simp only [Act.put, List.setIfInBounds_toArray, List.set_cons_zero, List.set_cons_succ]
      refine till_take (i := 1) (v := .slice (some ⟨g, off, none⟩) la ca) rfl (by kernel_rfl) (by kernel_rfl) (by kernel_rfl) (by kernel_rfl) (fun _ _ _ h => h) HS (Or.inl ⟨by kernel_rfl, fun wx hx => ?_⟩) ?_
      · clear HS hx
        go_simp
      simp only [Act.put, List.setIfInBounds_toArray, List.set_cons_zero, List.set_cons_succ]
      refine till_take (i := 2) (v := .int .i64 k) rfl (by kernel_rfl) (by kernel_rfl) (by kernel_rfl) (by kernel_rfl) (fun _ _ _ h => h) HS (Or.inl ⟨by kernel_rfl, fun wx hx => ?_⟩) ?_
      · clear HS hx
        go_simp
      simp only [Act.put, List.setIfInBounds_toArray, List.set_cons_zero, List.set_cons_succ]
      refine till_take (i := 3) (v := .pointer (some ⟨g, off + k * 4, none⟩)) rfl (by kernel_rfl) (by kernel_rfl) (by kernel_rfl) (by kernel_rfl) (fun _ _ _ h => h) HS (Or.inl ⟨by kernel_rfl, fun wx hx => ?_⟩) ?_
      · clear HS hx
        go_simp
      simp only [Act.put, List.setIfInBounds_toArray, List.set_cons_zero, List.set_cons_succ]
      refine till_take (i := 4) (v := .agg #[.int .u64 a0, .int .u64 a1, .int .u64 a2, .int .u64 a3]) rfl (by kernel_rfl) (by kernel_rfl) (by kernel_rfl) (by kernel_rfl) (fun _ _ _ h => h) HS (Or.inl ⟨by kernel_rfl, fun wx hx => ?_⟩) ?_
      · have q := HCA.out wx (HM.out.on hx).1
        have x0 := q.1; have x1 := q.2.1; have x2 := q.2.2.1; have x3 := q.2.2.2
        clear q
        clear HS hx
        go_simp
      simp only [Act.put, List.setIfInBounds_toArray, List.set_cons_zero, List.set_cons_succ]
      refine till_take (i := 5) (v := .slice (some ⟨g2, off2, none⟩) la cb) rfl (by kernel_rfl) (by kernel_rfl) (by kernel_rfl) (by kernel_rfl) (fun _ _ _ h => h) HS (Or.inl ⟨by kernel_rfl, fun wx hx => ?_⟩) ?_
      · clear HS hx
        go_simp
      simp only [Act.put, List.setIfInBounds_toArray, List.set_cons_zero, List.set_cons_succ]
      refine till_take (i := 6) (v := .int .i64 k) rfl (by kernel_rfl) (by kernel_rfl) (by kernel_rfl) (by kernel_rfl) (fun _ _ _ h => h) HS (Or.inl ⟨by kernel_rfl, fun wx hx => ?_⟩) ?_
      · clear HS hx
        go_simp
      simp only [Act.put, List.setIfInBounds_toArray, List.set_cons_zero, List.set_cons_succ]
      refine till_take (i := 7) (v := .pointer (some ⟨g2, off2 + k * 4, none⟩)) rfl (by kernel_rfl) (by kernel_rfl) (by kernel_rfl) (by kernel_rfl) (fun _ _ _ h => h) HS (Or.inl ⟨by kernel_rfl, fun wx hx => ?_⟩) ?_
      · clear HS hx
        go_simp
      simp only [Act.put, List.setIfInBounds_toArray, List.set_cons_zero, List.set_cons_succ]
      refine till_take (i := 8) (v := .agg #[.int .u64 b0, .int .u64 b1, .int .u64 b2, .int .u64 b3]) rfl (by kernel_rfl) (by kernel_rfl) (by kernel_rfl) (by kernel_rfl) (fun _ _ _ h => h) HS (Or.inl ⟨by kernel_rfl, fun wx hx => ?_⟩) ?_
      · have q := HCB.out wx (HM.out.on hx).1
        have x0 := q.1; have x1 := q.2.1; have x2 := q.2.2.1; have x3 := q.2.2.2
        clear q
        clear HS hx
        go_simp
      simp only [Act.put, List.setIfInBounds_toArray, List.set_cons_zero, List.set_cons_succ]
      clear HS
      refine till_step (i := 9) (by kernel_rfl) rfl (fun K hK => ?_)
      go_simp
      refine (times_calls F hok w1.heap.size a0 a1 a2 a3 b0 b1 b2 b3 HO.out.1 HO.out.2 HE.out.2.2 _ (KK.out.same H8.out)).mono ?_
      rintro e v1 ⟨p0, p1, p2, p3, rfl, hp, hv, hbl⟩
      have HVp := Lib.hid hv
      clear hv
      have HS := H8.out.trans (hbl.mono H8.out.size)
      clear H8 hbl
      have H8 := Lib.hid HS
      refine hK.out _ _ (Or.inr HS) (fun _ => ?_)
      clear hK K
      clear HS
      refine till_step (i := 10) (by kernel_rfl) rfl (fun K hK => ?_)
      go_simp
      refine (plus_calls F hok w1.heap.size s0 s1 s2 s3 p0 p1 p2 p3 hs hp HV.out.1 (by rw [HVp.out]; exact Nat.mod_lt _ hpos) _ (KK.out.same H8.out)).mono ?_
      rintro e v2 ⟨u0, u1, u2, u3, rfl, hu, hv, hbl⟩
      have HVu := Lib.hid (show val4 u0 u1 u2 u3 < F.M ∧ val4 u0 u1 u2 u3 * F.R % F.M = dotN F.M (elA A) (elA B) (k + 1) by
        rw [hv, HVp.out]
        refine ⟨Nat.mod_lt _ hpos, ?_⟩
        rw [dot_step hok HV.out.2, ← HE.out.1, ← HE.out.2.1]
        rfl)
      clear hv
      have HS := H8.out.trans (hbl.mono H8.out.size)
      clear H8 hbl
      have H8 := Lib.hid HS
      refine hK.out _ _ (Or.inr HS) (fun _ => ?_)
      clear hK K
      clear HS
      have HM' := Lib.hid (HM.out.on H8.out)
      have KK' := Lib.hid (KK.out.same H8.out)
      clear HM KK H8
      have HM := HM'
      have KK := KK'
      clear HM' KK'
      have kr := HM.out.row (b := gs) (c0 := s0) (c1 := s1) (c2 := s2) (c3 := s3) (by simp)
      have y0 := kr.c0; have y1 := kr.c1; have y2 := kr.c2; have y3 := kr.c3; have yf := kr.fr
      clear kr
      have yl := HM.out.lt (b := gs) (c0 := s0) (c1 := s1) (c2 := s2) (c3 := s3) (by simp)
      refine till_step (i := 11) (by kernel_rfl) rfl (fun K hK => ?_)
      go_simp
      have HM' := Lib.hid (HM.out.put u0 u1 u2 u3 (by omega) (by intro r hr; simp at hr; subst hr; show w.heap.size ≠ gs; omega))
      have KK' := Lib.hid (KK.out.set4 (d := gs) (by omega) u0 u1 u2 u3)
      clear HM KK
      have HM := HM'
      have KK := KK'
      clear HM' KK'
      refine hK.out _ _ (Or.inl rfl) (fun _ => ?_)
      clear hK K
      refine till_done (by kernel_rfl) ?_
      go_wp2_with fail
      go_roundw
      case rel => exact ⟨k + 1, u0, u1, u2, u3, by omega, by go_num, hu, HVu, HM, KK⟩
      case measure => simp [intOf]; omega
    · obtain rfl : la = k := by omega
      obtain ⟨wo, rfl⟩ : ∃ wo, wo = wr := ⟨_, rfl⟩
      have kr := HM.out.row (b := gs) (c0 := s0) (c1 := s1) (c2 := s2) (c3 := s3) (by simp)
      have x0 := kr.c0; have x1 := kr.c1; have x2 := kr.c2; have x3 := kr.c3
      clear kr
      have xl := HM.out.lt (b := gs) (c0 := s0) (c1 := s1) (c2 := s2) (c3 := s3) (by simp)
      clear hk hlt
      go_wp2_with fail
      refine (into_calls F hok w1.heap.size s0 s1 s2 s3 hs _ KK.out).mono ?_
      rintro e w4 ⟨u0, u1, u2, u3, rfl, hu, hv, hbl⟩
      have HVu := Lib.hid (show val4 u0 u1 u2 u3 = dotN F.M (elA A) (elA B) la by rw [hv]; exact HV.out.2)
      have HM' := Lib.hid (HM.out.on hbl)
      clear hv hbl x0 x1 x2 x3 xl
      clear HM
      have HM := HM'
      clear HM'
      have kr := HM.out.row (b := w.heap.size) (c0 := 0) (c1 := 0) (c2 := 0) (c3 := 0) (by simp)
      have y0 := kr.c0; have y1 := kr.c1; have y2 := kr.c2; have y3 := kr.c3; have yf := kr.fr
      clear kr
      have yl := HM.out.lt (b := w.heap.size) (c0 := 0) (c1 := 0) (c2 := 0) (c3 := 0) (by simp)
      go_wp2_with fail
      refine bodyPost_ret (v := .tuple #[.agg #[.int .u64 u0, .int .u64 u1, .int .u64 u2, .int .u64 u3], .int .i64 0]) (by simp [results, Try.results36, go_sem, *]) rfl ?_
      refine ⟨_, _, _, _, rfl, hu, HVu.out, ?_⟩
      exact below_set4 HM.out.1 (Nat.le_refl _) _ _ _ _
end Go.Proofs.Ytalddekocfkbhaa
