/-
  THE STATEMENT FieldBack: for either field, any element, any bytes, or none: an element is read back from its bytes, and bytes that are read are those that are told: the law answers true. Conditions: words below 2^64; bytes as they lie.
-/
import Derived.Test.YtkklbhgneidbbaaFRingA
import Derived.Test.YtkklbhgneidbbaaApi5
import Derived.Laws.BytesArg
namespace Go.Proofs.Ytkklbhgneidbbaa
set_option linter.unusedVariables false
set_option linter.unusedSimpArgs false
open Go.RowKit

theorem hor_inj {B C : Nat → Nat} (hB : ∀ k, B k < 256) (hC : ∀ k, C k < 256) : ∀ n, hor B 0 n = hor C 0 n → ∀ k, k < n → B k = C k
  | 0, _, k, hk => absurd hk (by omega)
  | n + 1, h, k, hk => by
    have e : hor B 0 n * 256 + B (0 + n) = hor C 0 n * 256 + C (0 + n) := h
    rw [Nat.zero_add] at e
    have h1 := hB n
    have h2 := hC n
    by_cases q : k = n
    · subst q; omega
    · exact hor_inj hB hC n (by omega) k (by omega)
theorem hor_256 {B : Nat → Nat} (hB : ∀ k, B k < 256) : hor B 0 32 < 115792089237316195423570985008687907853269984665640564039457584007913129639936 := by
  have := hor_lt hB 0 32
  simpa using this
theorem byteAt_hor {B : Nat → Nat} (hB : ∀ k, B k < 256) (k : Nat) (hk : k < 32) : byteAt (hor B 0 32) k = B k :=
  hor_inj (byteAt_lt _) hB 32 (hor_back (hor_256 hB)) k hk
theorem ReadsF.on {W W' : World} {v : Value} {n c : Nat} (h : ReadsF W v n c) (hb : Below W.heap.size W W') : ReadsF W' v n c := fun w hw => h w (hb.trans (hw.mono hb.size))
/-- what a slice of bytes is for the read: too short or too long, or 32 bytes -/
inductive BytesAre (W : World) : Value → Prop
  | short (o : Option Addr) (len cap : Nat) (h : len ≠ 32) (hm : len ≤ 9223372036854775807) : BytesAre W (.slice o len cap)
  | full (g off cap : Nat) (B : Nat → Nat) (hB : ∀ k, B k < 256) (hg : g < W.heap.size) (hc : ∀ k, k < 32 → W.cell? ⟨g, off + k, none⟩ = some (.int .u8 (B k : Nat))) : BytesAre W (.slice (some ⟨g, off, none⟩) 32 cap)
theorem conv_row {w : World} {b off cap : Nat} {B : Nat → Nat} (h : ∀ k, k < 32 → w.cell? ⟨b, off + k, none⟩ = some (.int .u8 (B k : Nat))) :
    (convert 52 9 (.slice (some ⟨b, off, none⟩) 32 cap)).run Try.prog w = .ok (.string (strOfNums ((List.range 32).map fun k => (B k : Int)))) w :=
  run_convert_bytes_arg (P := Try.prog) w 52 5 Try.underlying52 Try.underlying5 b off 32 cap _ (by simp) (fun i hi => by
    rw [h i hi]
    simp [List.getD, hi]) 9 Try.underlying9
set_option maxRecDepth 100000 in
set_option maxHeartbeats 8000000 in
theorem back_bad_none (f : Int) (a0 a1 a2 a3 : Nat) (ha : ok4 a0 a1 a2 a3) (v : Value) (w : World) (h1 : f ≠ 1) (h2 : f ≠ 2) (ca : Int) (hbad : Bad1 f (val4 a0 a1 a2 a3) ca) :
    Calls Try.prog 10 #[.int .i64 f, .agg #[.int .u64 a0, .int .u64 a1, .int .u64 a2, .int .u64 a3], v] w fun e w' => e = .returned (.bool true) ∧ Below w.heap.size w w' := by
  have hG := eqGuardF
  have hS := equalSelfF
  have t0 : (ca == 0) = false := by have := hbad.ne; simp [this]
  have HBAD := Lib.hid hbad
  clear hbad
  go_enter Try.func10, Try.ntmps10
  go_wp2_with fail
  have HM := Lib.hid ((Mem.nil w).new (w.heap.size) a0 a1 a2 a3 25 (by simp))
  refine (works_calls _).mono ?_
  rintro e w1 ⟨rfl, hbl⟩
  have MP' := Lib.hid (HM.out.on hbl)
  clear hbl HM
  have MP := MP'
  clear MP'
  have HM := MP
  have kr := MP.out.row (b := w.heap.size) (c0 := a0) (c1 := a1) (c2 := a2) (c3 := a3) (by simp)
  have Fa0 := kr.c0; have Fa1 := kr.c1; have Fa2 := kr.c2; have Fa3 := kr.c3
  clear kr
  have Fal := MP.out.lt (b := w.heap.size) (c0 := a0) (c1 := a1) (c2 := a2) (c3 := a3) (by simp)
  go_wp2_with fail
  refine (fbytes_err f ca a0 a1 a2 a3 ha HBAD.out _).mono ?_
  rintro e w2 ⟨rfl, hbl⟩
  have MP' := Lib.hid (HM.out.on hbl)
  clear hbl HM MP Fa0 Fa1 Fa2 Fa3 Fal
  have MP := MP'
  clear MP'
  have HM := MP
  go_wp2_with fail
  refine (fread_none f v h1 h2 _).mono ?_
  rintro e w3 ⟨x0, x1, x2, x3, rfl, hx, hv, hbl⟩
  have hZ := eqF_zero hx hv
  clear hv
  have MP' := Lib.hid (HM.out.on hbl)
  clear hbl HM MP
  have MP := MP'
  clear MP'
  have HM := Lib.hid (MP.out.new w3.heap.size x0 x1 x2 x3 25 rfl)
  go_wp2_with fail
  go_ret
  exact ⟨rfl, HM.out.1⟩
set_option maxRecDepth 100000 in
set_option maxHeartbeats 8000000 in
theorem back_ok_short (f : Int) (a0 a1 a2 a3 : Nat) (ha : ok4 a0 a1 a2 a3) (v : Value) (w : World) (F : FC) (hf : FieldIs f F) (la : val4 a0 a1 a2 a3 < F.M) (hrd : ReadsF w v 0 3) :
    Calls Try.prog 10 #[.int .i64 f, .agg #[.int .u64 a0, .int .u64 a1, .int .u64 a2, .int .u64 a3], v] w fun e w' => e = .returned (.bool true) ∧ Below w.heap.size w w' := by
  have hG := eqGuardF
  have hS := equalSelfF
  have HRD := Lib.hid hrd
  clear hrd
  go_enter Try.func10, Try.ntmps10
  go_wp2_with fail
  have HM := Lib.hid ((Mem.nil w).new (w.heap.size) a0 a1 a2 a3 25 (by simp))
  refine (works_calls _).mono ?_
  rintro e w1 ⟨rfl, hbl⟩
  have MP' := Lib.hid (HM.out.on hbl)
  clear hbl HM
  have MP := MP'
  clear MP'
  have HM := MP
  have kr := MP.out.row (b := w.heap.size) (c0 := a0) (c1 := a1) (c2 := a2) (c3 := a3) (by simp)
  have Fa0 := kr.c0; have Fa1 := kr.c1; have Fa2 := kr.c2; have Fa3 := kr.c3
  clear kr
  have Fal := MP.out.lt (b := w.heap.size) (c0 := a0) (c1 := a1) (c2 := a2) (c3 := a3) (by simp)
  go_wp2_with fail
  refine (fbytes_ok f F hf a0 a1 a2 a3 ha la _).mono ?_
  rintro e w2 ⟨bb, rfl, hb1, hb2, hb3, hbl⟩
  have HR := Lib.hid (readsF_32 w2 bb 0 32 (byteAt (val4 a0 a1 a2 a3)) (byteAt_lt _) hb2 (fun k hk => by rw [Nat.zero_add]; exact (hb3 k hk).1))
  clear hb1 hb2 hb3
  have MP' := Lib.hid (HM.out.on hbl)
  clear hbl HM MP Fa0 Fa1 Fa2 Fa3 Fal
  have MP := MP'
  clear MP'
  have HM := MP
  go_wp2_with fail
  refine (fread_ok f F hf _ _ (by rw [hor_back (val4_lt ha)]; exact la) _ HR.out).mono ?_
  rintro e w3 ⟨x0, x1, x2, x3, rfl, hx, hv, hbl⟩
  obtain ⟨rfl, rfl, rfl, rfl⟩ := val4_inj ha hx (show val4 a0 a1 a2 a3 = val4 x0 x1 x2 x3 by rw [hv, hor_back (val4_lt ha)])
  clear hv hx HR
  have MP' := Lib.hid (HM.out.on hbl)
  clear hbl HM MP
  have MP := MP'
  clear MP'
  have HM := Lib.hid (MP.out.new w3.heap.size a0 a1 a2 a3 25 rfl)
  have kr := MP.out.row (b := w.heap.size) (c0 := a0) (c1 := a1) (c2 := a2) (c3 := a3) (by simp)
  have Fa0 := kr.c0; have Fa1 := kr.c1; have Fa2 := kr.c2; have Fa3 := kr.c3
  clear kr
  have Fal := MP.out.lt (b := w.heap.size) (c0 := a0) (c1 := a1) (c2 := a2) (c3 := a3) (by simp)
  go_wp2_with fail
  refine (fread_short f F hf v 0 3 (by omega) _ (HRD.out.on HM.out.1)).mono ?_
  rintro e w4 ⟨y0, y1, y2, y3, rfl, hy, hv, hbl⟩
  have hZ := eqF_zero hy hv
  clear hv
  have MP' := Lib.hid (HM.out.on hbl)
  clear hbl HM MP Fa0 Fa1 Fa2 Fa3 Fal
  have MP := MP'
  clear MP'
  have HM := Lib.hid (MP.out.new w4.heap.size y0 y1 y2 y3 25 rfl)
  go_wp2_with fail
  go_ret
  exact ⟨rfl, HM.out.1⟩
set_option maxRecDepth 100000 in
set_option maxHeartbeats 8000000 in
theorem back_ok_big (f : Int) (a0 a1 a2 a3 : Nat) (ha : ok4 a0 a1 a2 a3) (g off cap : Nat) (B : Nat → Nat) (hB : ∀ k, B k < 256) (w : World) (F : FC) (hf : FieldIs f F) (la : val4 a0 a1 a2 a3 < F.M) (hg : g < w.heap.size) (hcc : ∀ k, k < 32 → w.cell? ⟨g, off + k, none⟩ = some (.int .u8 (B k : Nat))) (hlt : ¬ hor B 0 32 < F.M) :
    Calls Try.prog 10 #[.int .i64 f, .agg #[.int .u64 a0, .int .u64 a1, .int .u64 a2, .int .u64 a3], .slice (some ⟨g, off, none⟩) 32 cap] w fun e w' => e = .returned (.bool true) ∧ Below w.heap.size w w' := by
  have hG := eqGuardF
  have hS := equalSelfF
  have HRD := Lib.hid (readsF_32 w g off cap B hB hg hcc)
  have HCC := Lib.hid hcc
  have HB := Lib.hid hB
  clear hcc hB
  go_enter Try.func10, Try.ntmps10
  go_wp2_with fail
  have HM := Lib.hid ((Mem.nil w).new (w.heap.size) a0 a1 a2 a3 25 (by simp))
  refine (works_calls _).mono ?_
  rintro e w1 ⟨rfl, hbl⟩
  have MP' := Lib.hid (HM.out.on hbl)
  clear hbl HM
  have MP := MP'
  clear MP'
  have HM := MP
  have kr := MP.out.row (b := w.heap.size) (c0 := a0) (c1 := a1) (c2 := a2) (c3 := a3) (by simp)
  have Fa0 := kr.c0; have Fa1 := kr.c1; have Fa2 := kr.c2; have Fa3 := kr.c3
  clear kr
  have Fal := MP.out.lt (b := w.heap.size) (c0 := a0) (c1 := a1) (c2 := a2) (c3 := a3) (by simp)
  go_wp2_with fail
  refine (fbytes_ok f F hf a0 a1 a2 a3 ha la _).mono ?_
  rintro e w2 ⟨bb, rfl, hb1, hb2, hb3, hbl⟩
  have HR := Lib.hid (readsF_32 w2 bb 0 32 (byteAt (val4 a0 a1 a2 a3)) (byteAt_lt _) hb2 (fun k hk => by rw [Nat.zero_add]; exact (hb3 k hk).1))
  clear hb1 hb2 hb3
  have MP' := Lib.hid (HM.out.on hbl)
  clear hbl HM MP Fa0 Fa1 Fa2 Fa3 Fal
  have MP := MP'
  clear MP'
  have HM := MP
  go_wp2_with fail
  refine (fread_ok f F hf _ _ (by rw [hor_back (val4_lt ha)]; exact la) _ HR.out).mono ?_
  rintro e w3 ⟨x0, x1, x2, x3, rfl, hx, hv, hbl⟩
  obtain ⟨rfl, rfl, rfl, rfl⟩ := val4_inj ha hx (show val4 a0 a1 a2 a3 = val4 x0 x1 x2 x3 by rw [hv, hor_back (val4_lt ha)])
  clear hv hx HR
  have MP' := Lib.hid (HM.out.on hbl)
  clear hbl HM MP
  have MP := MP'
  clear MP'
  have HM := Lib.hid (MP.out.new w3.heap.size a0 a1 a2 a3 25 rfl)
  have kr := MP.out.row (b := w.heap.size) (c0 := a0) (c1 := a1) (c2 := a2) (c3 := a3) (by simp)
  have Fa0 := kr.c0; have Fa1 := kr.c1; have Fa2 := kr.c2; have Fa3 := kr.c3
  clear kr
  have Fal := MP.out.lt (b := w.heap.size) (c0 := a0) (c1 := a1) (c2 := a2) (c3 := a3) (by simp)
  go_wp2_with fail
  refine (fread_big f F hf _ _ hlt _ (HRD.out.on HM.out.1)).mono ?_
  rintro e w4 ⟨y0, y1, y2, y3, rfl, hy, hv, hbl⟩
  have hZ := eqF_zero hy hv
  clear hv
  have MP' := Lib.hid (HM.out.on hbl)
  clear hbl HM MP Fa0 Fa1 Fa2 Fa3 Fal
  have MP := MP'
  clear MP'
  have HM := Lib.hid (MP.out.new w4.heap.size y0 y1 y2 y3 25 rfl)
  go_wp2_with fail
  go_ret
  exact ⟨rfl, HM.out.1⟩
set_option maxRecDepth 100000 in
set_option maxHeartbeats 8000000 in
theorem back_ok_ok (f : Int) (a0 a1 a2 a3 : Nat) (ha : ok4 a0 a1 a2 a3) (g off cap : Nat) (B : Nat → Nat) (hB : ∀ k, B k < 256) (w : World) (F : FC) (hf : FieldIs f F) (la : val4 a0 a1 a2 a3 < F.M) (hg : g < w.heap.size) (hcc : ∀ k, k < 32 → w.cell? ⟨g, off + k, none⟩ = some (.int .u8 (B k : Nat))) (hlt : hor B 0 32 < F.M) :
    Calls Try.prog 10 #[.int .i64 f, .agg #[.int .u64 a0, .int .u64 a1, .int .u64 a2, .int .u64 a3], .slice (some ⟨g, off, none⟩) 32 cap] w fun e w' => e = .returned (.bool true) ∧ Below w.heap.size w w' := by
  have hG := eqGuardF
  have hS := equalSelfF
  have HRD := Lib.hid (readsF_32 w g off cap B hB hg hcc)
  have HCC := Lib.hid hcc
  have HB := Lib.hid hB
  clear hcc hB
  go_enter Try.func10, Try.ntmps10
  go_wp2_with fail
  have HM := Lib.hid ((Mem.nil w).new (w.heap.size) a0 a1 a2 a3 25 (by simp))
  refine (works_calls _).mono ?_
  rintro e w1 ⟨rfl, hbl⟩
  have MP' := Lib.hid (HM.out.on hbl)
  clear hbl HM
  have MP := MP'
  clear MP'
  have HM := MP
  have kr := MP.out.row (b := w.heap.size) (c0 := a0) (c1 := a1) (c2 := a2) (c3 := a3) (by simp)
  have Fa0 := kr.c0; have Fa1 := kr.c1; have Fa2 := kr.c2; have Fa3 := kr.c3
  clear kr
  have Fal := MP.out.lt (b := w.heap.size) (c0 := a0) (c1 := a1) (c2 := a2) (c3 := a3) (by simp)
  go_wp2_with fail
  refine (fbytes_ok f F hf a0 a1 a2 a3 ha la _).mono ?_
  rintro e w2 ⟨bb, rfl, hb1, hb2, hb3, hbl⟩
  have HR := Lib.hid (readsF_32 w2 bb 0 32 (byteAt (val4 a0 a1 a2 a3)) (byteAt_lt _) hb2 (fun k hk => by rw [Nat.zero_add]; exact (hb3 k hk).1))
  clear hb1 hb2 hb3
  have MP' := Lib.hid (HM.out.on hbl)
  clear hbl HM MP Fa0 Fa1 Fa2 Fa3 Fal
  have MP := MP'
  clear MP'
  have HM := MP
  go_wp2_with fail
  refine (fread_ok f F hf _ _ (by rw [hor_back (val4_lt ha)]; exact la) _ HR.out).mono ?_
  rintro e w3 ⟨x0, x1, x2, x3, rfl, hx, hv, hbl⟩
  obtain ⟨rfl, rfl, rfl, rfl⟩ := val4_inj ha hx (show val4 a0 a1 a2 a3 = val4 x0 x1 x2 x3 by rw [hv, hor_back (val4_lt ha)])
  clear hv hx HR
  have MP' := Lib.hid (HM.out.on hbl)
  clear hbl HM MP
  have MP := MP'
  clear MP'
  have HM := Lib.hid (MP.out.new w3.heap.size a0 a1 a2 a3 25 rfl)
  have kr := MP.out.row (b := w.heap.size) (c0 := a0) (c1 := a1) (c2 := a2) (c3 := a3) (by simp)
  have Fa0 := kr.c0; have Fa1 := kr.c1; have Fa2 := kr.c2; have Fa3 := kr.c3
  clear kr
  have Fal := MP.out.lt (b := w.heap.size) (c0 := a0) (c1 := a1) (c2 := a2) (c3 := a3) (by simp)
  go_wp2_with fail
  refine (fread_ok f F hf _ _ hlt _ (HRD.out.on HM.out.1)).mono ?_
  rintro e w4 ⟨y0, y1, y2, y3, rfl, hy, hv, hbl⟩
  have Vy := Lib.hid hv
  have ly : val4 y0 y1 y2 y3 < F.M := by rw [hv]; exact hlt
  clear hv
  have MP' := Lib.hid (HM.out.on hbl)
  clear hbl HM MP Fa0 Fa1 Fa2 Fa3 Fal
  have MP := MP'
  clear MP'
  have HM := Lib.hid (MP.out.new w4.heap.size y0 y1 y2 y3 25 rfl)
  go_wp2_with fail
  refine (fbytes_ok f F hf y0 y1 y2 y3 hy ly _).mono ?_
  rintro e w5 ⟨bu, rfl, hu1, hu2, hu3, hbl⟩
  have HU := Lib.hid hu3
  have HUl := Lib.hid hu2
  have HUs := Lib.hid hu1
  clear hu1 hu2 hu3
  have MP' := Lib.hid (HM.out.on hbl)
  clear hbl HM MP
  have MP := MP'
  clear MP'
  have HM := MP
  have kr := MP.out.row (b := w4.heap.size) (c0 := y0) (c1 := y1) (c2 := y2) (c3 := y3) (by simp)
  have Fy0 := kr.c0; have Fy1 := kr.c1; have Fy2 := kr.c2; have Fy3 := kr.c3
  clear kr
  have Fyl := MP.out.lt (b := w4.heap.size) (c0 := y0) (c1 := y1) (c2 := y2) (c3 := y3) (by simp)
  go_wp2_with fail
  refine (freduce_ok f F hf 0 0 0 0 y0 y1 y2 y3 zok hy _).mono ?_
  rintro e w6 ⟨z0, z1, z2, z3, rfl, hz, hv, hbl⟩
  have HU' := Lib.hid (HU.out.below hbl HUl.out)
  have HUl' := Lib.hid (Nat.lt_of_lt_of_le HUl.out hbl.size)
  obtain ⟨rfl, rfl, rfl, rfl⟩ := val4_inj hy hz (show val4 y0 y1 y2 y3 = val4 z0 z1 z2 z3 by rw [hv, show val4 0 0 0 0 = 0 from rfl, Nat.zero_mul, Nat.zero_add, Nat.mod_eq_of_lt ly])
  clear hv hz
  have MP' := Lib.hid (HM.out.on hbl)
  clear hbl HM MP Fy0 Fy1 Fy2 Fy3 Fyl
  have MP := MP'
  clear MP'
  have HM := Lib.hid (MP.out.new w6.heap.size y0 y1 y2 y3 25 rfl)
  obtain ⟨s, hs⟩ : ∃ s, s = strOfNums ((List.range 32).map fun k => (B k : Int)) := ⟨_, rfl⟩
  have hc1 : (convert 52 9 (.slice (some ⟨bu, 0, none⟩) 32 32)).run Try.prog (w6.alloc (.cells #[.int .u64 y0, .int .u64 y1, .int .u64 y2, .int .u64 y3] 25)) = .ok (.string s) (w6.alloc (.cells #[.int .u64 y0, .int .u64 y1, .int .u64 y2, .int .u64 y3] 25)) := by
    rw [hs]
    refine conv_row (fun k hk => ?_)
    have h := (((HU'.out.below ((Below.refl w6.heap.size w6).alloc (Nat.le_refl _) (.cells #[.int .u64 y0, .int .u64 y1, .int .u64 y2, .int .u64 y3] 25)) HUl'.out)) k hk).1
    rw [Nat.zero_add, h, Vy.out, byteAt_hor HB.out k hk]
  have hc2 : (convert 52 9 (.slice (some ⟨g, off, none⟩) 32 cap)).run Try.prog (w6.alloc (.cells #[.int .u64 y0, .int .u64 y1, .int .u64 y2, .int .u64 y3] 25)) = .ok (.string s) (w6.alloc (.cells #[.int .u64 y0, .int .u64 y1, .int .u64 y2, .int .u64 y3] 25)) := by
    rw [hs]
    refine conv_row (fun k hk => ?_)
    rw [HM.out.1.cell (p := ⟨g, off + k, none⟩) hg]
    exact HCC.out k hk
  clear hs
  have kr := MP.out.row (b := w4.heap.size) (c0 := y0) (c1 := y1) (c2 := y2) (c3 := y3) (by simp)
  have Fy0 := kr.c0; have Fy1 := kr.c1; have Fy2 := kr.c2; have Fy3 := kr.c3
  clear kr
  have Fyl := MP.out.lt (b := w4.heap.size) (c0 := y0) (c1 := y1) (c2 := y2) (c3 := y3) (by simp)
  go_wp2_with fail
  go_ret
  exact ⟨rfl, HM.out.1⟩
set_option maxRecDepth 100000 in
set_option maxHeartbeats 8000000 in
theorem back_bad_short (f : Int) (a0 a1 a2 a3 : Nat) (ha : ok4 a0 a1 a2 a3) (v : Value) (w : World) (F : FC) (hf : FieldIs f F) (ca : Int) (hbad : Bad1 f (val4 a0 a1 a2 a3) ca) (hrd : ReadsF w v 0 3) :
    Calls Try.prog 10 #[.int .i64 f, .agg #[.int .u64 a0, .int .u64 a1, .int .u64 a2, .int .u64 a3], v] w fun e w' => e = .returned (.bool true) ∧ Below w.heap.size w w' := by
  have hG := eqGuardF
  have hS := equalSelfF
  have t0 : (ca == 0) = false := by have := hbad.ne; simp [this]
  have HBAD := Lib.hid hbad
  clear hbad
  have HRD := Lib.hid hrd
  clear hrd
  go_enter Try.func10, Try.ntmps10
  go_wp2_with fail
  have HM := Lib.hid ((Mem.nil w).new (w.heap.size) a0 a1 a2 a3 25 (by simp))
  refine (works_calls _).mono ?_
  rintro e w1 ⟨rfl, hbl⟩
  have MP' := Lib.hid (HM.out.on hbl)
  clear hbl HM
  have MP := MP'
  clear MP'
  have HM := MP
  have kr := MP.out.row (b := w.heap.size) (c0 := a0) (c1 := a1) (c2 := a2) (c3 := a3) (by simp)
  have Fa0 := kr.c0; have Fa1 := kr.c1; have Fa2 := kr.c2; have Fa3 := kr.c3
  clear kr
  have Fal := MP.out.lt (b := w.heap.size) (c0 := a0) (c1 := a1) (c2 := a2) (c3 := a3) (by simp)
  go_wp2_with fail
  refine (fbytes_err f ca a0 a1 a2 a3 ha HBAD.out _).mono ?_
  rintro e w2 ⟨rfl, hbl⟩
  have MP' := Lib.hid (HM.out.on hbl)
  clear hbl HM MP Fa0 Fa1 Fa2 Fa3 Fal
  have MP := MP'
  clear MP'
  have HM := MP
  go_wp2_with fail
  refine (fread_short f F hf v 0 3 (by omega) _ (HRD.out.on HM.out.1)).mono ?_
  rintro e w3 ⟨y0, y1, y2, y3, rfl, hy, hv, hbl⟩
  have hZ := eqF_zero hy hv
  clear hv
  have MP' := Lib.hid (HM.out.on hbl)
  clear hbl HM MP
  have MP := MP'
  clear MP'
  have HM := Lib.hid (MP.out.new w3.heap.size y0 y1 y2 y3 25 rfl)
  go_wp2_with fail
  go_ret
  exact ⟨rfl, HM.out.1⟩
set_option maxRecDepth 100000 in
set_option maxHeartbeats 8000000 in
theorem back_bad_big (f : Int) (a0 a1 a2 a3 : Nat) (ha : ok4 a0 a1 a2 a3) (g off cap : Nat) (B : Nat → Nat) (hB : ∀ k, B k < 256) (w : World) (F : FC) (hf : FieldIs f F) (ca : Int) (hbad : Bad1 f (val4 a0 a1 a2 a3) ca) (hg : g < w.heap.size) (hcc : ∀ k, k < 32 → w.cell? ⟨g, off + k, none⟩ = some (.int .u8 (B k : Nat))) (hlt : ¬ hor B 0 32 < F.M) :
    Calls Try.prog 10 #[.int .i64 f, .agg #[.int .u64 a0, .int .u64 a1, .int .u64 a2, .int .u64 a3], .slice (some ⟨g, off, none⟩) 32 cap] w fun e w' => e = .returned (.bool true) ∧ Below w.heap.size w w' := by
  have hG := eqGuardF
  have hS := equalSelfF
  have t0 : (ca == 0) = false := by have := hbad.ne; simp [this]
  have HBAD := Lib.hid hbad
  clear hbad
  have HRD := Lib.hid (readsF_32 w g off cap B hB hg hcc)
  have HCC := Lib.hid hcc
  have HB := Lib.hid hB
  clear hcc hB
  go_enter Try.func10, Try.ntmps10
  go_wp2_with fail
  have HM := Lib.hid ((Mem.nil w).new (w.heap.size) a0 a1 a2 a3 25 (by simp))
  refine (works_calls _).mono ?_
  rintro e w1 ⟨rfl, hbl⟩
  have MP' := Lib.hid (HM.out.on hbl)
  clear hbl HM
  have MP := MP'
  clear MP'
  have HM := MP
  have kr := MP.out.row (b := w.heap.size) (c0 := a0) (c1 := a1) (c2 := a2) (c3 := a3) (by simp)
  have Fa0 := kr.c0; have Fa1 := kr.c1; have Fa2 := kr.c2; have Fa3 := kr.c3
  clear kr
  have Fal := MP.out.lt (b := w.heap.size) (c0 := a0) (c1 := a1) (c2 := a2) (c3 := a3) (by simp)
  go_wp2_with fail
  refine (fbytes_err f ca a0 a1 a2 a3 ha HBAD.out _).mono ?_
  rintro e w2 ⟨rfl, hbl⟩
  have MP' := Lib.hid (HM.out.on hbl)
  clear hbl HM MP Fa0 Fa1 Fa2 Fa3 Fal
  have MP := MP'
  clear MP'
  have HM := MP
  go_wp2_with fail
  refine (fread_big f F hf _ _ hlt _ (HRD.out.on HM.out.1)).mono ?_
  rintro e w3 ⟨y0, y1, y2, y3, rfl, hy, hv, hbl⟩
  have hZ := eqF_zero hy hv
  clear hv
  have MP' := Lib.hid (HM.out.on hbl)
  clear hbl HM MP
  have MP := MP'
  clear MP'
  have HM := Lib.hid (MP.out.new w3.heap.size y0 y1 y2 y3 25 rfl)
  go_wp2_with fail
  go_ret
  exact ⟨rfl, HM.out.1⟩
set_option maxRecDepth 100000 in
set_option maxHeartbeats 8000000 in
theorem back_bad_ok (f : Int) (a0 a1 a2 a3 : Nat) (ha : ok4 a0 a1 a2 a3) (g off cap : Nat) (B : Nat → Nat) (hB : ∀ k, B k < 256) (w : World) (F : FC) (hf : FieldIs f F) (ca : Int) (hbad : Bad1 f (val4 a0 a1 a2 a3) ca) (hg : g < w.heap.size) (hcc : ∀ k, k < 32 → w.cell? ⟨g, off + k, none⟩ = some (.int .u8 (B k : Nat))) (hlt : hor B 0 32 < F.M) :
    Calls Try.prog 10 #[.int .i64 f, .agg #[.int .u64 a0, .int .u64 a1, .int .u64 a2, .int .u64 a3], .slice (some ⟨g, off, none⟩) 32 cap] w fun e w' => e = .returned (.bool true) ∧ Below w.heap.size w w' := by
  have hG := eqGuardF
  have hS := equalSelfF
  have t0 : (ca == 0) = false := by have := hbad.ne; simp [this]
  have HBAD := Lib.hid hbad
  clear hbad
  have HRD := Lib.hid (readsF_32 w g off cap B hB hg hcc)
  have HCC := Lib.hid hcc
  have HB := Lib.hid hB
  clear hcc hB
  go_enter Try.func10, Try.ntmps10
  go_wp2_with fail
  have HM := Lib.hid ((Mem.nil w).new (w.heap.size) a0 a1 a2 a3 25 (by simp))
  refine (works_calls _).mono ?_
  rintro e w1 ⟨rfl, hbl⟩
  have MP' := Lib.hid (HM.out.on hbl)
  clear hbl HM
  have MP := MP'
  clear MP'
  have HM := MP
  have kr := MP.out.row (b := w.heap.size) (c0 := a0) (c1 := a1) (c2 := a2) (c3 := a3) (by simp)
  have Fa0 := kr.c0; have Fa1 := kr.c1; have Fa2 := kr.c2; have Fa3 := kr.c3
  clear kr
  have Fal := MP.out.lt (b := w.heap.size) (c0 := a0) (c1 := a1) (c2 := a2) (c3 := a3) (by simp)
  go_wp2_with fail
  refine (fbytes_err f ca a0 a1 a2 a3 ha HBAD.out _).mono ?_
  rintro e w2 ⟨rfl, hbl⟩
  have MP' := Lib.hid (HM.out.on hbl)
  clear hbl HM MP Fa0 Fa1 Fa2 Fa3 Fal
  have MP := MP'
  clear MP'
  have HM := MP
  go_wp2_with fail
  refine (fread_ok f F hf _ _ hlt _ (HRD.out.on HM.out.1)).mono ?_
  rintro e w3 ⟨y0, y1, y2, y3, rfl, hy, hv, hbl⟩
  have Vy := Lib.hid hv
  have ly : val4 y0 y1 y2 y3 < F.M := by rw [hv]; exact hlt
  clear hv
  have MP' := Lib.hid (HM.out.on hbl)
  clear hbl HM MP
  have MP := MP'
  clear MP'
  have HM := Lib.hid (MP.out.new w3.heap.size y0 y1 y2 y3 25 rfl)
  go_wp2_with fail
  refine (fbytes_ok f F hf y0 y1 y2 y3 hy ly _).mono ?_
  rintro e w4 ⟨bu, rfl, hu1, hu2, hu3, hbl⟩
  have HU := Lib.hid hu3
  have HUl := Lib.hid hu2
  have HUs := Lib.hid hu1
  clear hu1 hu2 hu3
  have MP' := Lib.hid (HM.out.on hbl)
  clear hbl HM MP
  have MP := MP'
  clear MP'
  have HM := MP
  have kr := MP.out.row (b := w3.heap.size) (c0 := y0) (c1 := y1) (c2 := y2) (c3 := y3) (by simp)
  have Fy0 := kr.c0; have Fy1 := kr.c1; have Fy2 := kr.c2; have Fy3 := kr.c3
  clear kr
  have Fyl := MP.out.lt (b := w3.heap.size) (c0 := y0) (c1 := y1) (c2 := y2) (c3 := y3) (by simp)
  go_wp2_with fail
  refine (freduce_ok f F hf 0 0 0 0 y0 y1 y2 y3 zok hy _).mono ?_
  rintro e w5 ⟨z0, z1, z2, z3, rfl, hz, hv, hbl⟩
  have HU' := Lib.hid (HU.out.below hbl HUl.out)
  have HUl' := Lib.hid (Nat.lt_of_lt_of_le HUl.out hbl.size)
  obtain ⟨rfl, rfl, rfl, rfl⟩ := val4_inj hy hz (show val4 y0 y1 y2 y3 = val4 z0 z1 z2 z3 by rw [hv, show val4 0 0 0 0 = 0 from rfl, Nat.zero_mul, Nat.zero_add, Nat.mod_eq_of_lt ly])
  clear hv hz
  have MP' := Lib.hid (HM.out.on hbl)
  clear hbl HM MP Fy0 Fy1 Fy2 Fy3 Fyl
  have MP := MP'
  clear MP'
  have HM := Lib.hid (MP.out.new w5.heap.size y0 y1 y2 y3 25 rfl)
  obtain ⟨s, hs⟩ : ∃ s, s = strOfNums ((List.range 32).map fun k => (B k : Int)) := ⟨_, rfl⟩
  have hc1 : (convert 52 9 (.slice (some ⟨bu, 0, none⟩) 32 32)).run Try.prog (w5.alloc (.cells #[.int .u64 y0, .int .u64 y1, .int .u64 y2, .int .u64 y3] 25)) = .ok (.string s) (w5.alloc (.cells #[.int .u64 y0, .int .u64 y1, .int .u64 y2, .int .u64 y3] 25)) := by
    rw [hs]
    refine conv_row (fun k hk => ?_)
    have h := (((HU'.out.below ((Below.refl w5.heap.size w5).alloc (Nat.le_refl _) (.cells #[.int .u64 y0, .int .u64 y1, .int .u64 y2, .int .u64 y3] 25)) HUl'.out)) k hk).1
    rw [Nat.zero_add, h, Vy.out, byteAt_hor HB.out k hk]
  have hc2 : (convert 52 9 (.slice (some ⟨g, off, none⟩) 32 cap)).run Try.prog (w5.alloc (.cells #[.int .u64 y0, .int .u64 y1, .int .u64 y2, .int .u64 y3] 25)) = .ok (.string s) (w5.alloc (.cells #[.int .u64 y0, .int .u64 y1, .int .u64 y2, .int .u64 y3] 25)) := by
    rw [hs]
    refine conv_row (fun k hk => ?_)
    rw [HM.out.1.cell (p := ⟨g, off + k, none⟩) hg]
    exact HCC.out k hk
  clear hs
  have kr := MP.out.row (b := w3.heap.size) (c0 := y0) (c1 := y1) (c2 := y2) (c3 := y3) (by simp)
  have Fy0 := kr.c0; have Fy1 := kr.c1; have Fy2 := kr.c2; have Fy3 := kr.c3
  clear kr
  have Fyl := MP.out.lt (b := w3.heap.size) (c0 := y0) (c1 := y1) (c2 := y2) (c3 := y3) (by simp)
  go_wp2_with fail
  go_ret
  exact ⟨rfl, HM.out.1⟩
theorem back_calls (f : Int) (a0 a1 a2 a3 : Nat) (ha : ok4 a0 a1 a2 a3) (v : Value) (w : World) (hv : BytesAre w v) :
    Calls Try.prog 10 #[.int .i64 f, .agg #[.int .u64 a0, .int .u64 a1, .int .u64 a2, .int .u64 a3], v] w fun e w' => e = .returned (.bool true) ∧ Below w.heap.size w w' := by
  rcases all1 f (val4 a0 a1 a2 a3) with ⟨F, hf, la⟩ | ⟨c, h⟩
  · cases hv with
    | short o len cap hl hm => exact back_ok_short f a0 a1 a2 a3 ha _ w F hf la (readsF_short w o len cap hl hm)
    | full g off cap B hB hg hc =>
      by_cases hlt : hor B 0 32 < F.M
      · exact back_ok_ok f a0 a1 a2 a3 ha g off cap B hB w F hf la hg hc hlt
      · exact back_ok_big f a0 a1 a2 a3 ha g off cap B hB w F hf la hg hc hlt
  · by_cases h1 : f = 1 ∨ f = 2
    · obtain ⟨F, hf⟩ : ∃ F, FieldIs f F := by rcases h1 with h1 | h1; exact ⟨FP, Or.inl ⟨h1, rfl⟩⟩; exact ⟨FR, Or.inr ⟨h1, rfl⟩⟩
      cases hv with
      | short o len cap hl hm => exact back_bad_short f a0 a1 a2 a3 ha _ w F hf c h (readsF_short w o len cap hl hm)
      | full g off cap B hB hg hc =>
        by_cases hlt : hor B 0 32 < F.M
        · exact back_bad_ok f a0 a1 a2 a3 ha g off cap B hB w F hf c h hg hc hlt
        · exact back_bad_big f a0 a1 a2 a3 ha g off cap B hB w F hf c h hg hc hlt
    · exact back_bad_none f a0 a1 a2 a3 ha v w (fun q => h1 (Or.inl q)) (fun q => h1 (Or.inr q)) c h
end Go.Proofs.Ytkklbhgneidbbaa
