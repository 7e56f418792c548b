/-
  The tower's parts over the first field: rest, plus, minus, times, negative, products: each answers the words of one number. Conditions: words below 2^64; parts below p but for rest.
  The parts' table is right: by the contracts of the first field's calls. Conditions: none.
  p has the root 3. Conditions: none.
  The tower is a tower of fields: what is not 0 has its inverse. Conditions: none.
-/
import Derived.Test.YtaingnhikbaplaaGreatPf12
import Derived.Test.YtaingnhikbaplaaGreatPf13
import Derived.Test.YtaingnhikbaplaaGreatPf00
import Derived.Test.YtaingnhikbaplaaGreatPf05
import Derived.Test.YtaingnhikbaplaaGreatPf09
import Derived.Test.YtaingnhikbaplaaGreatPf06
namespace Go.Proofs.YtaingnhikbaplaaGreat
set_option linter.unusedVariables false
set_option linter.unusedSimpArgs false
open Go.RowKit

theorem fld1 : FieldIs 1 FP := Or.inl ⟨rfl, rfl⟩
/-- what a call answers that answers an element of Fp -/
def FwPost (x : Nat) (w : World) (e : Ending) (w' : World) : Prop := e = .returned (.agg #[.int .u64 (fw x 0 : Nat), .int .u64 (fw x 1 : Nat), .int .u64 (fw x 2 : Nat), .int .u64 (fw x 3 : Nat)]) ∧ Below w.heap.size w w'
theorem FwPost.of {x : Nat} {w : World} {e : Ending} {w' : World} (hx : x < FP.M) (h : FePost x w e w') : FwPost x w e w' := by
  obtain ⟨s0, s1, s2, s3, rfl, hs, hv, hb⟩ := h
  obtain ⟨rfl, rfl, rfl, rfl⟩ := fw_of hs (fp_lt hx) hv
  exact ⟨rfl, hb⟩
set_option maxRecDepth 100000 in
set_option maxHeartbeats 4000000 in
theorem tplus0_calls (a0 a1 a2 a3 b0 b1 b2 b3 : Nat) (ha : ok4 a0 a1 a2 a3) (hb : ok4 b0 b1 b2 b3) (la : val4 a0 a1 a2 a3 < FP.M) (lb : val4 b0 b1 b2 b3 < FP.M) (w : World) :
    Calls Tryz.prog 234 #[.agg #[.int .u64 a0, .int .u64 a1, .int .u64 a2, .int .u64 a3], .agg #[.int .u64 b0, .int .u64 b1, .int .u64 b2, .int .u64 b3]] w (FePost ((val4 a0 a1 a2 a3 + val4 b0 b1 b2 b3) % FP.M) w) := by
  go_enter Tryz.func234, Tryz.ntmps234
  go_wp2_with fail
  have HM := Lib.hid ((((Mem.nil w).new (w.heap.size) a0 a1 a2 a3 24 (by simp)).new (w.heap.size + 1) b0 b1 b2 b3 24 (by simp)).new (w.heap.size + 1 + 1) 0 0 0 0 24 (by simp))
  refine (fadd_ok 1 FP fld1 a0 a1 a2 a3 b0 b1 b2 b3 ha hb la lb _).mono ?_
  rintro e w1 ⟨s0, s1, s2, s3, rfl, hs, hv, hbl⟩
  have HV := Lib.hid hv
  have HM' := Lib.hid (HM.out.on hbl)
  clear hv hbl
  clear HM
  have HM := HM'
  clear HM'
  have kr := HM.out.row (b := w.heap.size + 1 + 1) (c0 := 0) (c1 := 0) (c2 := 0) (c3 := 0) (by simp)
  have y0 := kr.c0; have y1 := kr.c1; have y2 := kr.c2; have y3 := kr.c3; have yf := kr.fr
  clear kr
  have yl := HM.out.lt (b := w.heap.size + 1 + 1) (c0 := 0) (c1 := 0) (c2 := 0) (c3 := 0) (by simp)
  have HB1 := Lib.hid HM.out.1
  clear HM
  go_wp2_with fail
  refine bodyPost_ret (v := .agg #[.int .u64 s0, .int .u64 s1, .int .u64 s2, .int .u64 s3]) (by simp [results, Tryz.results234, go_sem, *]) rfl ?_
  refine ⟨_, _, _, _, rfl, hs, HV.out, ?_⟩
  have hbx := HB1.out
  have hsz := hbx.size
  repeat (first | exact hbx | refine Below.drew ?_ | refine Below.alloc ?_ (by first | exact hsz | (simp; done) | (simp; omega)) _ | refine Below.setCell ?_ (by first | (simp; done) | (simp; omega)) _)
theorem tplus_calls (x y : Nat) (hx : x < FP.M) (hy : y < FP.M) (w : World) : Calls Tryz.prog 234 #[.agg #[.int .u64 (fw x 0 : Nat), .int .u64 (fw x 1 : Nat), .int .u64 (fw x 2 : Nat), .int .u64 (fw x 3 : Nat)], .agg #[.int .u64 (fw y 0 : Nat), .int .u64 (fw y 1 : Nat), .int .u64 (fw y 2 : Nat), .int .u64 (fw y 3 : Nat)]] w (FwPost ((x + y) % FP.M) w) := by
  refine (tplus0_calls _ _ _ _ _ _ _ _ (fw_ok x) (fw_ok y) (by rw [fw_valp hx]; exact hx) (by rw [fw_valp hy]; exact hy) w).mono ?_
  rw [fw_valp hx, fw_valp hy]
  exact fun e w' h => FwPost.of (Nat.mod_lt _ fp_pos) h
set_option maxRecDepth 100000 in
set_option maxHeartbeats 4000000 in
theorem tminus0_calls (a0 a1 a2 a3 b0 b1 b2 b3 : Nat) (ha : ok4 a0 a1 a2 a3) (hb : ok4 b0 b1 b2 b3) (la : val4 a0 a1 a2 a3 < FP.M) (lb : val4 b0 b1 b2 b3 < FP.M) (w : World) :
    Calls Tryz.prog 235 #[.agg #[.int .u64 a0, .int .u64 a1, .int .u64 a2, .int .u64 a3], .agg #[.int .u64 b0, .int .u64 b1, .int .u64 b2, .int .u64 b3]] w (FePost ((val4 a0 a1 a2 a3 + FP.M - val4 b0 b1 b2 b3) % FP.M) w) := by
  go_enter Tryz.func235, Tryz.ntmps235
  go_wp2_with fail
  have HM := Lib.hid ((((Mem.nil w).new (w.heap.size) a0 a1 a2 a3 24 (by simp)).new (w.heap.size + 1) b0 b1 b2 b3 24 (by simp)).new (w.heap.size + 1 + 1) 0 0 0 0 24 (by simp))
  refine (fsub_ok 1 FP fld1 a0 a1 a2 a3 b0 b1 b2 b3 ha hb la lb _).mono ?_
  rintro e w1 ⟨s0, s1, s2, s3, rfl, hs, hv, hbl⟩
  have HV := Lib.hid hv
  have HM' := Lib.hid (HM.out.on hbl)
  clear hv hbl
  clear HM
  have HM := HM'
  clear HM'
  have kr := HM.out.row (b := w.heap.size + 1 + 1) (c0 := 0) (c1 := 0) (c2 := 0) (c3 := 0) (by simp)
  have y0 := kr.c0; have y1 := kr.c1; have y2 := kr.c2; have y3 := kr.c3; have yf := kr.fr
  clear kr
  have yl := HM.out.lt (b := w.heap.size + 1 + 1) (c0 := 0) (c1 := 0) (c2 := 0) (c3 := 0) (by simp)
  have HB1 := Lib.hid HM.out.1
  clear HM
  go_wp2_with fail
  refine bodyPost_ret (v := .agg #[.int .u64 s0, .int .u64 s1, .int .u64 s2, .int .u64 s3]) (by simp [results, Tryz.results235, go_sem, *]) rfl ?_
  refine ⟨_, _, _, _, rfl, hs, HV.out, ?_⟩
  have hbx := HB1.out
  have hsz := hbx.size
  repeat (first | exact hbx | refine Below.drew ?_ | refine Below.alloc ?_ (by first | exact hsz | (simp; done) | (simp; omega)) _ | refine Below.setCell ?_ (by first | (simp; done) | (simp; omega)) _)
theorem tminus_calls (x y : Nat) (hx : x < FP.M) (hy : y < FP.M) (w : World) : Calls Tryz.prog 235 #[.agg #[.int .u64 (fw x 0 : Nat), .int .u64 (fw x 1 : Nat), .int .u64 (fw x 2 : Nat), .int .u64 (fw x 3 : Nat)], .agg #[.int .u64 (fw y 0 : Nat), .int .u64 (fw y 1 : Nat), .int .u64 (fw y 2 : Nat), .int .u64 (fw y 3 : Nat)]] w (FwPost ((x + FP.M - y) % FP.M) w) := by
  refine (tminus0_calls _ _ _ _ _ _ _ _ (fw_ok x) (fw_ok y) (by rw [fw_valp hx]; exact hx) (by rw [fw_valp hy]; exact hy) w).mono ?_
  rw [fw_valp hx, fw_valp hy]
  exact fun e w' h => FwPost.of (Nat.mod_lt _ fp_pos) h
set_option maxRecDepth 100000 in
set_option maxHeartbeats 4000000 in
theorem ttimes0_calls (a0 a1 a2 a3 b0 b1 b2 b3 : Nat) (ha : ok4 a0 a1 a2 a3) (hb : ok4 b0 b1 b2 b3) (la : val4 a0 a1 a2 a3 < FP.M) (lb : val4 b0 b1 b2 b3 < FP.M) (w : World) :
    Calls Tryz.prog 233 #[.agg #[.int .u64 a0, .int .u64 a1, .int .u64 a2, .int .u64 a3], .agg #[.int .u64 b0, .int .u64 b1, .int .u64 b2, .int .u64 b3]] w (FePost (val4 a0 a1 a2 a3 * val4 b0 b1 b2 b3 % FP.M) w) := by
  go_enter Tryz.func233, Tryz.ntmps233
  go_wp2_with fail
  have HM := Lib.hid ((((Mem.nil w).new (w.heap.size) a0 a1 a2 a3 24 (by simp)).new (w.heap.size + 1) b0 b1 b2 b3 24 (by simp)).new (w.heap.size + 1 + 1) 0 0 0 0 24 (by simp))
  refine (fmul_ok 1 FP fld1 a0 a1 a2 a3 b0 b1 b2 b3 ha hb la lb _).mono ?_
  rintro e w1 ⟨s0, s1, s2, s3, rfl, hs, hv, hbl⟩
  have HV := Lib.hid hv
  have HM' := Lib.hid (HM.out.on hbl)
  clear hv hbl
  clear HM
  have HM := HM'
  clear HM'
  have kr := HM.out.row (b := w.heap.size + 1 + 1) (c0 := 0) (c1 := 0) (c2 := 0) (c3 := 0) (by simp)
  have y0 := kr.c0; have y1 := kr.c1; have y2 := kr.c2; have y3 := kr.c3; have yf := kr.fr
  clear kr
  have yl := HM.out.lt (b := w.heap.size + 1 + 1) (c0 := 0) (c1 := 0) (c2 := 0) (c3 := 0) (by simp)
  have HB1 := Lib.hid HM.out.1
  clear HM
  go_wp2_with fail
  refine bodyPost_ret (v := .agg #[.int .u64 s0, .int .u64 s1, .int .u64 s2, .int .u64 s3]) (by simp [results, Tryz.results233, go_sem, *]) rfl ?_
  refine ⟨_, _, _, _, rfl, hs, HV.out, ?_⟩
  have hbx := HB1.out
  have hsz := hbx.size
  repeat (first | exact hbx | refine Below.drew ?_ | refine Below.alloc ?_ (by first | exact hsz | (simp; done) | (simp; omega)) _ | refine Below.setCell ?_ (by first | (simp; done) | (simp; omega)) _)
theorem ttimes_calls (x y : Nat) (hx : x < FP.M) (hy : y < FP.M) (w : World) : Calls Tryz.prog 233 #[.agg #[.int .u64 (fw x 0 : Nat), .int .u64 (fw x 1 : Nat), .int .u64 (fw x 2 : Nat), .int .u64 (fw x 3 : Nat)], .agg #[.int .u64 (fw y 0 : Nat), .int .u64 (fw y 1 : Nat), .int .u64 (fw y 2 : Nat), .int .u64 (fw y 3 : Nat)]] w (FwPost (x * y % FP.M) w) := by
  refine (ttimes0_calls _ _ _ _ _ _ _ _ (fw_ok x) (fw_ok y) (by rw [fw_valp hx]; exact hx) (by rw [fw_valp hy]; exact hy) w).mono ?_
  rw [fw_valp hx, fw_valp hy]
  exact fun e w' h => FwPost.of (Nat.mod_lt _ fp_pos) h
set_option maxRecDepth 100000 in
set_option maxHeartbeats 4000000 in
theorem tneg0_calls (a0 a1 a2 a3 : Nat) (ha : ok4 a0 a1 a2 a3) (la : val4 a0 a1 a2 a3 < FP.M) (w : World) :
    Calls Tryz.prog 230 #[.agg #[.int .u64 a0, .int .u64 a1, .int .u64 a2, .int .u64 a3]] w (FePost ((0 + FP.M - val4 a0 a1 a2 a3) % FP.M) w) := by
  go_enter Tryz.func230, Tryz.ntmps230
  go_wp2_with fail
  have HM := Lib.hid (((Mem.nil w).new (w.heap.size) a0 a1 a2 a3 24 (by simp)).new (w.heap.size + 1) 0 0 0 0 24 (by simp))
  refine (fneg_ok 1 FP fld1 a0 a1 a2 a3 ha la _).mono ?_
  rintro e w1 ⟨s0, s1, s2, s3, rfl, hs, hv, hbl⟩
  have HV := Lib.hid hv
  have HM' := Lib.hid (HM.out.on hbl)
  clear hv hbl
  clear HM
  have HM := HM'
  clear HM'
  have kr := HM.out.row (b := w.heap.size + 1) (c0 := 0) (c1 := 0) (c2 := 0) (c3 := 0) (by simp)
  have y0 := kr.c0; have y1 := kr.c1; have y2 := kr.c2; have y3 := kr.c3; have yf := kr.fr
  clear kr
  have yl := HM.out.lt (b := w.heap.size + 1) (c0 := 0) (c1 := 0) (c2 := 0) (c3 := 0) (by simp)
  have kr := HM.out.row (b := w.heap.size) (c0 := a0) (c1 := a1) (c2 := a2) (c3 := a3) (by simp)
  have x0 := kr.c0; have x1 := kr.c1; have x2 := kr.c2; have x3 := kr.c3; have xf := kr.fr
  clear kr
  have xl := HM.out.lt (b := w.heap.size) (c0 := a0) (c1 := a1) (c2 := a2) (c3 := a3) (by simp)
  go_wp2_with fail
  refine bodyPost_ret (v := .agg #[.int .u64 s0, .int .u64 s1, .int .u64 s2, .int .u64 s3]) (by simp [results, Tryz.results230, go_sem, *]) rfl ?_
  refine ⟨_, _, _, _, rfl, hs, HV.out, ?_⟩
  exact below_set4 (below_set4 HM.out.1 (Nat.le_refl _) _ _ _ _) (by omega) _ _ _ _
theorem tneg_calls (x : Nat) (hx : x < FP.M) (w : World) : Calls Tryz.prog 230 #[.agg #[.int .u64 (fw x 0 : Nat), .int .u64 (fw x 1 : Nat), .int .u64 (fw x 2 : Nat), .int .u64 (fw x 3 : Nat)]] w (FwPost ((0 + FP.M - x) % FP.M) w) := by
  refine (tneg0_calls _ _ _ _ (fw_ok x) (by rw [fw_valp hx]; exact hx) w).mono ?_
  rw [fw_valp hx]
  exact fun e w' h => FwPost.of (Nat.mod_lt _ fp_pos) h
set_option maxRecDepth 100000 in
set_option maxHeartbeats 4000000 in
theorem trest0_calls (a0 a1 a2 a3 : Nat) (ha : ok4 a0 a1 a2 a3) (w : World) :
    Calls Tryz.prog 229 #[.agg #[.int .u64 a0, .int .u64 a1, .int .u64 a2, .int .u64 a3]] w (FePost (val4 a0 a1 a2 a3 % FP.M) w) := by
  go_enter Tryz.func229, Tryz.ntmps229
  go_wp2_with fail
  have HM := Lib.hid (((Mem.nil w).new (w.heap.size) a0 a1 a2 a3 24 (by simp)).new (w.heap.size + 1) 0 0 0 0 24 (by simp))
  by_cases la : val4 a0 a1 a2 a3 < FP.M
  · refine (fcheck_ok 1 FP fld1 a0 a1 a2 a3 ha la _).mono ?_
    rintro e w1 ⟨rfl, hbl⟩
    have HL := Lib.hid la
    have HM' := Lib.hid (HM.out.on hbl)
    clear hbl la
    clear HM
    have HM := HM'
    clear HM'
    have kr := HM.out.row (b := w.heap.size + 1) (c0 := 0) (c1 := 0) (c2 := 0) (c3 := 0) (by simp)
    have y0 := kr.c0; have y1 := kr.c1; have y2 := kr.c2; have y3 := kr.c3; have yf := kr.fr
    clear kr
    have yl := HM.out.lt (b := w.heap.size + 1) (c0 := 0) (c1 := 0) (c2 := 0) (c3 := 0) (by simp)
    have kr := HM.out.row (b := w.heap.size) (c0 := a0) (c1 := a1) (c2 := a2) (c3 := a3) (by simp)
    have x0 := kr.c0; have x1 := kr.c1; have x2 := kr.c2; have x3 := kr.c3
    clear kr
    have xl := HM.out.lt (b := w.heap.size) (c0 := a0) (c1 := a1) (c2 := a2) (c3 := a3) (by simp)
    go_wp2_with fail
    refine bodyPost_ret (v := .agg #[.int .u64 a0, .int .u64 a1, .int .u64 a2, .int .u64 a3]) (by simp [results, Tryz.results229, go_sem, *]) rfl ?_
    refine ⟨_, _, _, _, rfl, ha, by rw [Nat.mod_eq_of_lt HL.out], ?_⟩
    exact below_set4 HM.out.1 (by omega) _ _ _ _
  · refine (fcheck_err 1 21 a0 a1 a2 a3 ha (Or.inr ⟨FP, fld1, la, rfl⟩) _).mono ?_
    rintro e w1 ⟨rfl, hbl⟩
    have HM' := Lib.hid (HM.out.on hbl)
    clear hbl la
    clear HM
    have HM := HM'
    clear HM'
    have kr := HM.out.row (b := w.heap.size) (c0 := a0) (c1 := a1) (c2 := a2) (c3 := a3) (by simp)
    have x0 := kr.c0; have x1 := kr.c1; have x2 := kr.c2; have x3 := kr.c3
    clear kr
    have xl := HM.out.lt (b := w.heap.size) (c0 := a0) (c1 := a1) (c2 := a2) (c3 := a3) (by simp)
    go_wp2_with fail
    refine (freduce_ok 1 FP fld1 0 0 0 0 a0 a1 a2 a3 zok ha _).mono ?_
    rintro e w2 ⟨s0, s1, s2, s3, rfl, hs, hv, hbl⟩
    have HV := Lib.hid (show val4 s0 s1 s2 s3 = val4 a0 a1 a2 a3 % FP.M by rw [hv, show val4 0 0 0 0 = 0 from rfl, Nat.zero_mul, Nat.zero_add])
    have HM' := Lib.hid (HM.out.on hbl)
    clear hv hbl x0 x1 x2 x3 xl
    clear HM
    have HM := HM'
    clear HM'
    have kr := HM.out.row (b := w.heap.size + 1) (c0 := 0) (c1 := 0) (c2 := 0) (c3 := 0) (by simp)
    have y0 := kr.c0; have y1 := kr.c1; have y2 := kr.c2; have y3 := kr.c3; have yf := kr.fr
    clear kr
    have yl := HM.out.lt (b := w.heap.size + 1) (c0 := 0) (c1 := 0) (c2 := 0) (c3 := 0) (by simp)
    have kr := HM.out.row (b := w.heap.size) (c0 := a0) (c1 := a1) (c2 := a2) (c3 := a3) (by simp)
    have x0 := kr.c0; have x1 := kr.c1; have x2 := kr.c2; have x3 := kr.c3; have xf := kr.fr
    clear kr
    have xl := HM.out.lt (b := w.heap.size) (c0 := a0) (c1 := a1) (c2 := a2) (c3 := a3) (by simp)
    go_wp2_with fail
    refine bodyPost_ret (v := .agg #[.int .u64 s0, .int .u64 s1, .int .u64 s2, .int .u64 s3]) (by simp [results, Tryz.results229, go_sem, *]) rfl ?_
    refine ⟨_, _, _, _, rfl, hs, HV.out, ?_⟩
    exact below_set4 (below_set4 HM.out.1 (Nat.le_refl _) _ _ _ _) (by omega) _ _ _ _
theorem trest_calls (a0 a1 a2 a3 : Nat) (ha : ok4 a0 a1 a2 a3) (w : World) : Calls Tryz.prog 229 #[.agg #[.int .u64 a0, .int .u64 a1, .int .u64 a2, .int .u64 a3]] w (FwPost (val4 a0 a1 a2 a3 % FP.M) w) :=
  (trest0_calls a0 a1 a2 a3 ha w).mono fun e w' h => FwPost.of (Nat.mod_lt _ fp_pos) h
set_option maxRecDepth 100000 in
set_option maxHeartbeats 4000000 in
theorem tproducts_calls (A B : Nat → Nat → Nat) (p q : Option Addr) (la ca cb : Nat) (h2 : la ≤ 65536) (ia : allIn FP.M la A) (ib : allIn FP.M la B) (w : World) (hA : FIs w p la A) (hB : FIs w q la B) :
    Calls Tryz.prog 264 #[.slice p la ca, .slice q la cb] w (FwPost (dotN FP.M (elA A) (elA B) la) w) := by
  have HA := Lib.hid hA
  have HB := Lib.hid hB
  have IA := Lib.hid ia
  have IB := Lib.hid ib
  clear hA hB ia ib
  suffices h : Calls Tryz.prog 264 #[.slice p la ca, .slice q la cb] w (FePost (dotN FP.M (elA A) (elA B) la) w) from h.mono fun e w' h => FwPost.of (dotN_lt fp_pos _ _ _) h
  go_enter Tryz.func264, Tryz.ntmps264
  go_wp2_with fail
  have HM := Lib.hid ((Mem.nil w).new (w.heap.size) 0 0 0 0 24 (by simp))
  refine (fdot_ok 1 FP fld1 p q la ca la cb A B rfl h2 IA.out IB.out _ (HA.out.on HM.out.1) (HB.out.on HM.out.1)).mono ?_
  rintro e w1 ⟨s0, s1, s2, s3, rfl, hs, hv, hbl⟩
  have HV := Lib.hid hv
  have HM' := Lib.hid (HM.out.on hbl)
  clear hv hbl
  clear HM
  have HM := HM'
  clear HM'
  have kr := HM.out.row (b := w.heap.size) (c0 := 0) (c1 := 0) (c2 := 0) (c3 := 0) (by simp)
  have y0 := kr.c0; have y1 := kr.c1; have y2 := kr.c2; have y3 := kr.c3; have yf := kr.fr
  clear kr
  have yl := HM.out.lt (b := w.heap.size) (c0 := 0) (c1 := 0) (c2 := 0) (c3 := 0) (by simp)
  have HB1 := Lib.hid HM.out.1
  clear HM
  go_wp2_with fail
  refine bodyPost_ret (v := .agg #[.int .u64 s0, .int .u64 s1, .int .u64 s2, .int .u64 s3]) (by simp [results, Tryz.results264, go_sem, *]) rfl ?_
  refine ⟨_, _, _, _, rfl, hs, HV.out, ?_⟩
  have hbx := HB1.out
  have hsz := hbx.size
  repeat (first | exact hbx | refine Below.drew ?_ | refine Below.alloc ?_ (by first | exact hsz | (simp; done) | (simp; omega)) _ | refine Below.setCell ?_ (by first | (simp; done) | (simp; omega)) _)
end Go.Proofs.YtaingnhikbaplaaGreat
namespace Go.Proofs.YtaingnhikbaplaaGreat.Ex
set_option linter.unusedVariables false
set_option linter.unusedSimpArgs false
open Go.RowKit

theorem of_fw {x : Nat} {f : FuncId} {args : List Value} {w : World} {y : Fq} (h : Calls Tryz.prog f args.toArray w (FwPost x w)) (e : x = y.1) : Good Tryz.prog f (.one (.fl (e1 y))) args w := by
  subst e
  exact h.mono fun e w' h => h
theorem args1 {l : List At} {args : List Value} {w : World} (h : CAs w [.v (.fl l)] args) : args = [.agg (flat l).toArray] := by
  match args, h with
  | [v], h => rw [show v = _ from h.1]; rfl
  | [], h => exact h.elim
  | _ :: _ :: _, h => exact h.2.elim
theorem args2 {l m : List At} {args : List Value} {w : World} (h : CAs w [.v (.fl l), .v (.fl m)] args) : args = [.agg (flat l).toArray, .agg (flat m).toArray] := by
  match args, h with
  | [v, u], h => rw [show v = _ from h.1, show u = _ from h.2.1]; rfl
  | [], h => exact h.elim
  | [_], h => exact h.2.elim
  | _ :: _ :: _ :: _, h => exact h.2.2.elim
theorem b_plus (x y : Fq) (args : List Value) (w : World) (ha : CAs w [.v (.fl (e1 x)), .v (.fl (e1 y))] args) : Good Tryz.prog 234 (.one (.fl (e1 (F1.add x y)))) args w := by
  rw [args2 ha]
  exact of_fw (tplus_calls x.1 y.1 x.2 y.2 w) rfl
theorem sub_val (x y : Fq) : (x.1 + FP.M - y.1) % FP.M = (F1.sub x y).1 := by
  show _ = (x.1 + (0 + FP.M - y.1) % FP.M) % FP.M
  have := y.2
  rw [Nat.add_mod_mod]
  congr 1
  omega
theorem b_minus (x y : Fq) (args : List Value) (w : World) (ha : CAs w [.v (.fl (e1 x)), .v (.fl (e1 y))] args) : Good Tryz.prog 235 (.one (.fl (e1 (F1.sub x y)))) args w := by
  rw [args2 ha]
  exact of_fw (tminus_calls x.1 y.1 x.2 y.2 w) (sub_val x y)
theorem b_times (x y : Fq) (args : List Value) (w : World) (ha : CAs w [.v (.fl (e1 x)), .v (.fl (e1 y))] args) : Good Tryz.prog 233 (.one (.fl (e1 (F1.mul x y)))) args w := by
  rw [args2 ha]
  exact of_fw (ttimes_calls x.1 y.1 x.2 y.2 w) rfl
theorem b_neg (x : Fq) (args : List Value) (w : World) (ha : CAs w [.v (.fl (e1 x))] args) : Good Tryz.prog 230 (.one (.fl (e1 (F1.neg x)))) args w := by
  rw [args1 ha]
  exact of_fw (tneg_calls x.1 x.2 w) rfl
theorem b_rest (x : Nat) (args : List Value) (w : World) (ha : CAs w [.v (.fl (q1 x))] args) : Good Tryz.prog 229 (.one (.fl (e1 (m1 x)))) args w := by
  rw [args1 ha]
  exact of_fw (trest_calls _ _ _ _ (fw_ok x) w) rfl
theorem ones_ok : ∀ {n : Nat} {l : List At} {x : List Fq}, ones n l = some x → x.length = n ∧ ∃ r, l = x.map .f ++ r
  | 0, l, x, h => by cases h; exact ⟨rfl, l, rfl⟩
  | n + 1, .f a :: r, x, h => by
    unfold ones at h
    split at h
    · rename_i l hl
      cases h
      obtain ⟨h1, s, h2⟩ := ones_ok hl
      exact ⟨by rw [List.length_cons, h1], s, by rw [h2]; rfl⟩
    · cases h
  | n + 1, [], x, h => by cases h
  | n + 1, .q _ :: _, x, h => by cases h
  | n + 1, .c _ :: _, x, h => by cases h
def lw (x : List Fq) (k i : Nat) : Nat := fw ((x[k]?).getD F1.zero).1 i
theorem flat_f : ∀ (x : List Fq) (k : Nat), k < x.length → ∀ i, i < 4 → (flat (x.map .f))[k * 4 + i]? = some (.int .u64 (lw x k i : Nat))
  | a :: r, 0, _, i, hi => by
    show (w4 a.1 ++ flat (r.map .f))[0 * 4 + i]? = _
    rw [List.getElem?_append_left (by show _ < 4; omega)]
    match i, hi with
    | 0, _ => rfl
    | 1, _ => rfl
    | 2, _ => rfl
    | 3, _ => rfl
  | a :: r, k + 1, h, i, hi => by
    show (w4 a.1 ++ flat (r.map .f))[(k + 1) * 4 + i]? = _
    rw [List.getElem?_append_right (by show 4 ≤ _; omega), show (k + 1) * 4 + i - (w4 a.1).length = k * 4 + i by show _ - 4 = _; omega, flat_f r k (by simpa using h) i hi]
    simp [lw]
theorem lw_fis {n : Nat} {l : List At} {x : List Fq} (h : ones n l = some x) (h6 : n ≤ 6) {b o : Nat} {w : World} (hb : b < w.heap.size) (hr : w.rangeAt b o (flat l)) : FIs w (some ⟨b, o, none⟩) n (lw x) := by
  obtain ⟨h1, r, h2⟩ := ones_ok h
  refine ⟨by omega, fun k hk => fw_ok _, fun _ => ⟨b, o, rfl, hb, fun k hk => ?_⟩⟩
  have hc : ∀ i, i < 4 → w.cell? ⟨b, o + k * 4 + i, none⟩ = some (.int .u64 (lw x k i : Nat)) := fun i hi => by
    rw [Nat.add_assoc]
    refine hr (k * 4 + i) _ ?_
    rw [h2, flat_append, List.getElem?_append_left (by
      rw [flat_len]
      have : ∀ x : List Fq, fsz (x.map .f) = 4 * x.length := fun x => by
        induction x with
        | nil => rfl
        | cons a r ih => show 4 + fsz (r.map .f) = 4 * (r.length + 1); omega
      rw [this, h1]; omega)]
    exact flat_f x k (by omega) i hi
  exact ⟨hc 0 (by omega), hc 1 (by omega), hc 2 (by omega), hc 3 (by omega)⟩
theorem lw_el (x : List Fq) (k : Nat) : elA (lw x) k = ((x[k]?).getD F1.zero).1 := fw_valp (Fin.isLt _)
theorem dotG_val : ∀ (x y : List Fq) (a : Fq) (X Y : Nat → Nat) (k : Nat), x.length = y.length → (∀ j, j < x.length → X (k + j) = ((x[j]?).getD F1.zero).1) → (∀ j, j < y.length → Y (k + j) = ((y[j]?).getD F1.zero).1) → a.1 = dotN FP.M X Y k → (dotG a x y).1 = dotN FP.M X Y (k + x.length)
  | [], [], a, X, Y, k, _, _, _, h => h
  | p :: x, q :: y, a, X, Y, k, hl, hX, hY, h => by
    have e : (F1.add a (F1.mul p q)).1 = dotN FP.M X Y (k + 1) := by
      show (a.1 + p.1 * q.1 % FP.M) % FP.M = (dotN FP.M X Y k + X k * Y k) % FP.M
      rw [Nat.add_mod_mod, h]
      have h1 := hX 0 (by simp)
      have h2 := hY 0 (by simp)
      rw [Nat.add_zero] at h1 h2
      rw [h1, h2]
      rfl
    have := dotG_val x y (F1.add a (F1.mul p q)) X Y (k + 1) (by simpa using hl) (fun j hj => by have := hX (j + 1) (by simpa using hj); rw [show k + 1 + j = k + (j + 1) by omega, this]; simp)
      (fun j hj => by have := hY (j + 1) (by simpa using hj); rw [show k + 1 + j = k + (j + 1) by omega, this]; simp) e
    rw [show k + (p :: x).length = k + 1 + x.length by simp; omega]
    exact this
  | [], _ :: _, _, _, _, _, h, _, _, _ => by cases h
  | _ :: _, [], _, _, _, _, h, _, _, _ => by cases h
theorem dotF_val (x y : List Fq) (hl : x.length = y.length) : (dotF x y).1 = dotN FP.M (elA (lw x)) (elA (lw y)) x.length := by
  have h0 : (dotG F1.zero x y).1 = dotN FP.M (elA (lw x)) (elA (lw y)) (0 + x.length) := dotG_val x y F1.zero _ _ 0 hl (fun j _ => by rw [Nat.zero_add]; exact lw_el x j) (fun j _ => by rw [Nat.zero_add]; exact lw_el y j) rfl
  rw [Nat.zero_add] at h0
  rw [← h0]
  cases x with
  | nil => cases y <;> rfl
  | cons a r =>
    cases y with
    | nil => cases hl
    | cons b s =>
      show (dotG (F1.mul a b) r s).1 = (dotG (F1.add F1.zero (F1.mul a b)) r s).1
      rw [F1.zero_add]
theorem b_prod : ∀ cs pre r, gProd cs = some (pre, r) → allP pre → ∀ (args : List Value) (w : World), CAs w cs args → Good Tryz.prog 264 r args w := by
  intro cs pre r hg hp args w ha
  unfold gProd at hg
  split at hg
  · rename_i l n m l' n' m'
    cases hb : (Nat.beq n n' && Nat.ble n 6) <;> rw [hb] at hg
    · cases hg
    · simp only [cond_true] at hg
      split at hg
      · rename_i x y hx hy
        cases hg
        rw [Bool.and_eq_true] at hb
        cases Nat.eq_of_beq_eq_true hb.1
        have h6 := Nat.le_of_ble_eq_true hb.2
        match args, ha with
        | [v, u], ha =>
          obtain ⟨⟨b, o, rfl, h1, h2⟩, ⟨b', o', rfl, h3, h4⟩, _⟩ := ha
          have l1 := (ones_ok hx).1
          have l2 := (ones_ok hy).1
          refine of_fw (tproducts_calls (lw x) (lw y) _ _ n m m' (by omega) (fun k hk => by rw [lw_el]; exact Fin.isLt _) (fun k hk => by rw [lw_el]; exact Fin.isLt _) w (lw_fis hx h6 h1 h2) (lw_fis hy h6 h3 h4)) ?_
          rw [dotF_val x y (by omega), l1]
        | [], ha => exact ha.elim
        | [_], ha => exact ha.2.elim
        | _ :: _ :: _ :: _, ha => exact ha.2.2.elim
      · cases hg
  · cases hg
theorem b_of : ∀ cs pre r, gOf cs = some (pre, r) → allP pre → ∀ (args : List Value) (w : World), CAs w cs args → Good Tryz.prog 119 r args w := by
  intro cs pre r hg hp args w ha
  unfold gOf at hg
  split at hg
  · rename_i n
    cases hb : Nat.blt n 18446744073709551616 <;> rw [hb] at hg
    · cases hg
    · cases hg
      have hn : n < 18446744073709551616 := by simpa using hb
      match args, ha with
      | [v], ha =>
        rw [show v = _ from ha.1]
        refine (of_calls n hn w).mono ?_
        rintro e w' ⟨rfl, hbl⟩
        refine ⟨?_, hbl⟩
        have hM : n < FP.M := Nat.lt_trans hn (by decide)
        obtain ⟨e0, e1', e2', e3'⟩ := fw_of (s0 := n) (s1 := 0) (s2 := 0) (s3 := 0) ⟨hn, by omega, by omega, by omega⟩ (fp_lt hM) (show val4 n 0 0 0 = n by unfold val4; omega)
        show _ = Ending.returned (.agg (w4 (n % FP.M)).toArray)
        rw [Nat.mod_eq_of_lt hM]
        unfold w4
        rw [← e0, ← e1', ← e2', ← e3']
        rfl
      | [], ha => exact ha.elim
      | _ :: _ :: _, ha => exact ha.2.elim
  · cases hg
theorem b_inv1 (x : Fq) (h : x ≠ F1.zero) (w : World) : Calls Tryz.prog 232 #[.int .i64 1, .agg (flat (e1 x)).toArray] w (fun e w' => e = .returned (RV.many [.fl (e1 (finv x)), .im (.int .i64 0)]).den ∧ Below w.heap.size w w') := by
  have hz : x.1 ≠ 0 := fun e => h (Fin.ext e)
  refine (finv_of 1 0 _ _ _ _ _ (fun W => fdiv_ok 1 FP fld1 1 0 0 0 _ _ _ _ (by unfold ok4; decide) (fw_ok x.1) (by decide) (by rw [fw_valp x.2]; exact x.2) (by rw [fw_valp x.2]; exact hz) W) w).mono ?_
  rintro e w' ⟨s0, s1, s2, s3, rfl, hs, hv, hb⟩
  have hf := finv_val x
  rw [Nat.one_mul] at hf
  rw [fw_valp x.2, show val4 1 0 0 0 = 1 from rfl, Nat.one_mul, ← hf] at hv
  obtain ⟨rfl, rfl, rfl, rfl⟩ := fw_of hs (fp_lt (finv x).2) hv
  exact ⟨rfl, hb⟩
theorem b_inv0 (w : World) : Calls Tryz.prog 232 #[.int .i64 1, .agg (flat (e1 F1.zero)).toArray] w (fun e w' => e = .returned (RV.many [.fl (e1 F1.zero), .im (.int .i64 22)]).den ∧ Below w.heap.size w w') := by
  refine (finv_of 1 22 0 _ _ _ _ (fun W => fdiv0_ok 1 FP fld1 1 0 0 0 _ _ _ _ (by unfold ok4; decide) (fw_ok 0) (by decide) (by rw [fw_valp fp_pos]; exact fp_pos) (by rw [fw_valp fp_pos]) W) w).mono ?_
  rintro e w' ⟨s0, s1, s2, s3, rfl, hs, hv, hb⟩
  obtain ⟨rfl, rfl, rfl, rfl⟩ := fw_of hs (fp_lt fp_pos) hv
  exact ⟨rfl, hb⟩
theorem b_inv (c : Bool) : ∀ cs pre r, gInv c cs = some (pre, r) → allP pre → ∀ (args : List Value) (w : World), CAs w cs args → Good Tryz.prog 232 r args w := by
  intro cs pre r hg hp args w ha
  unfold gInv at hg
  split at hg
  · rename_i l
    split at hg
    · rename_i x hx
      match args, ha with
      | [v, u], ha =>
        have h1 : v = .int .i64 1 := ha.1
        have h2 : u = .agg (flat l).toArray := ha.2.1
        rw [rd1_ok l x hx] at h2
        subst h1; subst h2
        cases c
        · cases hg
          have hz : x = F1.zero := hp.1
          subst hz
          exact b_inv0 w
        · cases hg
          exact b_inv1 x hp.1 w
      | [], ha => exact ha.elim
      | [_], ha => exact ha.2.elim
      | _ :: _ :: _ :: _, ha => exact ha.2.2.elim
    · cases hg
  · cases hg
theorem ok_base (c : Bool) : TabOk Tryz.prog (T_B c) :=
  ((((((((T0_ok Tryz.prog).add Tryz.func234 (by kernel_rfl) (by kernel_rfl) (g2_ok rd1_ok rd1_ok fun x y _ args w ha => b_plus x y args w ha)).add Tryz.func235 (by kernel_rfl) (by kernel_rfl) (g2_ok rd1_ok rd1_ok fun x y _ args w ha => b_minus x y args w ha)).add
    Tryz.func233 (by kernel_rfl) (by kernel_rfl) (g2_ok rd1_ok rd1_ok fun x y _ args w ha => b_times x y args w ha)).add Tryz.func230 (by kernel_rfl) (by kernel_rfl) (g1_ok rd1_ok fun x _ args w ha => b_neg x args w ha)).add
    Tryz.func229 (by kernel_rfl) (by kernel_rfl) (g1_ok rq1_ok fun x _ args w ha => b_rest x args w ha)).add Tryz.func264 (by kernel_rfl) (by kernel_rfl) b_prod).add Tryz.func119 (by kernel_rfl) (by kernel_rfl) b_of).add Tryz.func232 (by kernel_rfl) (by kernel_rfl) (b_inv c)
end Go.Proofs.YtaingnhikbaplaaGreat.Ex
namespace Go.Proofs.YtaingnhikbaplaaGreat
theorem fpRoot : Root FP.M 3 := by
  rw [show FP.M = 21888242871839275222246405745257275088696311157297823662689037894645226208583 from by decide]
  exact root_P
end Go.Proofs.YtaingnhikbaplaaGreat
namespace Go.Proofs.YtaingnhikbaplaaGreat.Ex
set_option linter.unusedVariables false
set_option linter.unusedSimpArgs false

/-- what is not 0 has an inverse -/
def Fld {R : Type} (K : CR R) : Prop := K.one ≠ K.zero ∧ ∀ x, x ≠ K.zero → ∃ y, K.mul x y = K.one
theorem Fld.zd {R : Type} {K : CR R} (h : Fld K) {a b : R} (e : K.mul a b = K.zero) (ha : a ≠ K.zero) : b = K.zero := by
  obtain ⟨y, hy⟩ := h.2 a ha
  have := congrArg (K.mul y) e
  rwa [← K.mul_assoc, K.mul_comm y, hy, K.one_mul, K.mul_zero] at this
theorem sq_zero {R : Type} {K : CR R} (h : Fld K) {a : R} (e : K.mul a a = K.zero) : a = K.zero := by
  by_cases ha : a = K.zero
  · exact ha
  · exact h.zd e ha
theorem F1_ne : F1.one ≠ F1.zero := fun h => by have := congrArg Fin.val h; exact absurd this (by decide)
theorem fq_ne {x : Fq} (h : x ≠ F1.zero) : 0 < x.1 := by
  rcases Nat.eq_zero_or_pos x.1 with h0 | h0
  · exact absurd (Fin.ext h0 : x = F1.zero) h
  · exact h0
theorem finv_mul {x : Fq} (h : x ≠ F1.zero) : F1.mul x (finv x) = F1.one := by
  apply Fin.ext
  show x.1 * (finv x).1 % FP.M = 1
  rw [finv_val, Nat.one_mul]
  exact inv_mul fpRoot (by decide) (fq_ne h) x.2
theorem fld1' : Fld F1 := ⟨F1_ne, fun x h => ⟨_, finv_mul h⟩⟩
theorem ferm {n : Nat} (h0 : 0 < n) (h : n < FP.M) : n ^ (FP.M - 1) % FP.M = 1 := fermat fpRoot h0 h
def pThird : Nat := (FP.M - 1) / 3
def pHalf : Nat := (FP.M - 1) / 2
theorem third_eq : 3 * pThird = FP.M - 1 := by decide
theorem half_eq : 2 * pHalf = FP.M - 1 := by decide
theorem cube_val : 82 ^ pThird % FP.M ≠ 1 := by
  rw [← pm_eq FP.M 256 82 pThird (by decide)]
  exact of_decide_eq_true (by kernel_rfl)
theorem half_val : 82 ^ pHalf % FP.M ≠ 1 := by
  rw [← pm_eq FP.M 256 82 pHalf (by decide)]
  exact of_decide_eq_true (by kernel_rfl)
theorem neg_val : (FP.M - 1) ^ pHalf % FP.M ≠ 1 := by
  rw [← pm_eq FP.M 256 (FP.M - 1) pHalf (by decide)]
  exact of_decide_eq_true (by kernel_rfl)
theorem no_cube (n : Fq) : F1.mul n (F1.mul n n) ≠ fm 82 := fun h => by
  have hv : n.1 ^ 3 % FP.M = 82 := by
    have := congrArg Fin.val h
    have e : n.1 * (n.1 * n.1 % FP.M) % FP.M = 82 % FP.M := this
    rw [Nat.mul_mod_mod, ← Nat.mul_assoc, show n.1 * n.1 * n.1 = n.1 ^ 3 by rw [Nat.pow_succ, Nat.pow_two]] at e
    rw [e]; decide
  have h0 : 0 < n.1 := by
    rcases Nat.eq_zero_or_pos n.1 with h0 | h0
    · rw [h0] at hv; exact absurd hv (by decide)
    · exact h0
  have := ferm h0 n.2
  rw [← third_eq, Nat.pow_mul, Nat.pow_mod, hv] at this
  exact cube_val this
theorem no_sq (n : Fq) : F1.mul n n ≠ fm 82 := fun h => by
  have hv : n.1 ^ 2 % FP.M = 82 := by
    have := congrArg Fin.val h
    have e : n.1 * n.1 % FP.M = 82 % FP.M := this
    rw [Nat.pow_two, e]; decide
  have h0 : 0 < n.1 := by
    rcases Nat.eq_zero_or_pos n.1 with h0 | h0
    · rw [h0] at hv; exact absurd hv (by decide)
    · exact h0
  have := ferm h0 n.2
  rw [← half_eq, Nat.pow_mul, Nat.pow_mod, hv] at this
  exact half_val this
theorem no_neg (n : Fq) : F1.mul n n ≠ F1.neg F1.one := fun h => by
  have hv : n.1 ^ 2 % FP.M = FP.M - 1 := by
    have := congrArg Fin.val h
    have e : n.1 * n.1 % FP.M = (0 + FP.M - 1) % FP.M := this
    rw [Nat.pow_two, e]; decide
  have h0 : 0 < n.1 := by
    rcases Nat.eq_zero_or_pos n.1 with h0 | h0
    · rw [h0] at hv; exact absurd hv (by decide)
    · exact h0
  have := ferm h0 n.2
  rw [← half_eq, Nat.pow_mul, Nat.pow_mod, hv] at this
  exact neg_val this
/-- a quotient's square, its cube -/
theorem div_sq {R : Type} {K : CR R} (h : Fld K) {a b q : R} (hb : b ≠ K.zero) (e : K.mul a a = K.mul q (K.mul b b)) : ∃ t, K.mul t t = q := by
  obtain ⟨y, hy⟩ := h.2 b hb
  refine ⟨K.mul a y, ?_⟩
  have h1 : K.mul (K.mul a y) (K.mul a y) = K.mul (K.mul a a) (K.mul y y) := ring_id K (envL K [a, y]) (.mul (.mul (.v 0) (.v 1)) (.mul (.v 0) (.v 1))) (.mul (.mul (.v 0) (.v 0)) (.mul (.v 1) (.v 1))) (by decide)
  have h2 : K.mul (K.mul q (K.mul b b)) (K.mul y y) = K.mul q (K.mul (K.mul b y) (K.mul b y)) := ring_id K (envL K [q, b, y]) (.mul (.mul (.v 0) (.mul (.v 1) (.v 1))) (.mul (.v 2) (.v 2))) (.mul (.v 0) (.mul (.mul (.v 1) (.v 2)) (.mul (.v 1) (.v 2)))) (by decide)
  rw [h1, e, h2, hy, K.mul_one, K.mul_one]
theorem div_cu {R : Type} {K : CR R} (h : Fld K) {a b q : R} (hb : b ≠ K.zero) (e : K.mul a (K.mul a a) = K.mul q (K.mul b (K.mul b b))) : ∃ t, K.mul t (K.mul t t) = q := by
  obtain ⟨y, hy⟩ := h.2 b hb
  refine ⟨K.mul a y, ?_⟩
  have h1 : K.mul (K.mul a y) (K.mul (K.mul a y) (K.mul a y)) = K.mul (K.mul a (K.mul a a)) (K.mul y (K.mul y y)) := ring_id K (envL K [a, y]) (.mul (.mul (.v 0) (.v 1)) (.mul (.mul (.v 0) (.v 1)) (.mul (.v 0) (.v 1)))) (.mul (.mul (.v 0) (.mul (.v 0) (.v 0))) (.mul (.v 1) (.mul (.v 1) (.v 1)))) (by decide)
  have h2 : K.mul (K.mul q (K.mul b (K.mul b b))) (K.mul y (K.mul y y)) = K.mul q (K.mul (K.mul b y) (K.mul (K.mul b y) (K.mul b y))) := ring_id K (envL K [q, b, y]) (.mul (.mul (.v 0) (.mul (.v 1) (.mul (.v 1) (.v 1)))) (.mul (.v 2) (.mul (.v 2) (.v 2)))) (.mul (.v 0) (.mul (.mul (.v 1) (.v 2)) (.mul (.mul (.v 1) (.v 2)) (.mul (.v 1) (.v 2))))) (by decide)
  rw [h1, e, h2, hy, K.mul_one, K.mul_one, K.mul_one]
theorem nm2_zero {x : Q2} (h : nm2 x = F1.zero) : x = F2.zero := by
  have h1 : F1.mul x.1 x.1 = F1.mul (F1.neg F1.one) (F1.mul x.2 x.2) := by
    rw [F1.neg_mul, F1.one_mul]
    apply F1.add_cancel (a := F1.mul x.2 x.2)
    rw [F1.add_neg, F1.add_comm]
    exact h
  by_cases hb : x.2 = F1.zero
  · rw [hb, F1.mul_zero, F1.mul_zero] at h1
    exact Prod.ext (sq_zero fld1' h1) hb
  · obtain ⟨t, ht⟩ := div_sq fld1' hb h1
    exact absurd ht (no_neg t)
theorem F2_inv {x : Q2} (h : nm2 x ≠ F1.zero) : F2.mul x (iv2 x) = F2.one := by
  have hi := finv_mul h
  refine Prod.ext ?_ ?_
  · show F1.add (F1.mul x.1 (F1.mul x.1 (finv (nm2 x)))) (F1.mul (F1.neg F1.one) (F1.mul x.2 (F1.mul (F1.neg x.2) (finv (nm2 x))))) = F1.one
    refine Eq.trans ?_ hi
    exact ring_id F1 (envL F1 [x.1, x.2, finv (nm2 x)]) (.add (.mul (.v 0) (.mul (.v 0) (.v 2))) (.mul (.neg .one) (.mul (.v 1) (.mul (.neg (.v 1)) (.v 2))))) (.mul (.add (.mul (.v 0) (.v 0)) (.mul (.v 1) (.v 1))) (.v 2)) (by decide)
  · show F1.add (F1.mul x.1 (F1.mul (F1.neg x.2) (finv (nm2 x)))) (F1.mul x.2 (F1.mul x.1 (finv (nm2 x)))) = F1.zero
    exact ring_id F1 (envL F1 [x.1, x.2, finv (nm2 x)]) (.add (.mul (.v 0) (.mul (.neg (.v 1)) (.v 2))) (.mul (.v 1) (.mul (.v 0) (.v 2)))) .zero (by decide)
theorem fld2 : Fld F2 := ⟨fun h => F1_ne (congrArg Prod.fst h), fun x h => ⟨_, F2_inv fun e => h (nm2_zero e)⟩⟩
theorem nm2_mul (x y : Q2) : nm2 (F2.mul x y) = F1.mul (nm2 x) (nm2 y) :=
  ring_id F1 (envL F1 [x.1, x.2, y.1, y.2]) (.add (.mul (.add (.mul (.v 0) (.v 2)) (.mul (.neg .one) (.mul (.v 1) (.v 3)))) (.add (.mul (.v 0) (.v 2)) (.mul (.neg .one) (.mul (.v 1) (.v 3))))) (.mul (.add (.mul (.v 0) (.v 3)) (.mul (.v 1) (.v 2))) (.add (.mul (.v 0) (.v 3)) (.mul (.v 1) (.v 2)))))
    (.mul (.add (.mul (.v 0) (.v 0)) (.mul (.v 1) (.v 1))) (.add (.mul (.v 2) (.v 2)) (.mul (.v 3) (.v 3)))) (by decide)
theorem nm_xi : nm2 xiE = fm 82 := by decide
theorem xi_cube (t : Q2) : F2.mul t (F2.mul t t) ≠ xiE := fun h => by
  have := congrArg nm2 h
  rw [nm2_mul, nm2_mul, nm_xi] at this
  exact no_cube _ this
theorem xi_sq (t : Q2) : F2.mul t t ≠ xiE := fun h => by
  have := congrArg nm2 h
  rw [nm2_mul, nm_xi] at this
  exact no_sq _ this
/-- the product with the conjugates: in Fp2 -/
theorem adj_mul (x : Q6) (k : Q2) : F6.mul x (s6 (adj6 x) k) = (F2.mul (n6 x) k, F2.zero, F2.zero) := by
  refine Prod.ext ?_ (Prod.ext ?_ ?_)
  · exact ring_id F2 (envL F2 [x.1, x.2.1, x.2.2, xiE, k])
      (.add (.mul (.v 0) (.mul (.add (.mul (.v 0) (.v 0)) (.neg (.mul (.mul (.v 1) (.v 2)) (.v 3)))) (.v 4))) (.mul (.v 3) (.add (.mul (.v 1) (.mul (.add (.mul (.v 1) (.v 1)) (.neg (.mul (.v 0) (.v 2)))) (.v 4))) (.mul (.v 2) (.mul (.add (.mul (.mul (.v 2) (.v 2)) (.v 3)) (.neg (.mul (.v 0) (.v 1)))) (.v 4))))))
      (.mul (.add (.mul (.v 0) (.add (.mul (.v 0) (.v 0)) (.neg (.mul (.mul (.v 1) (.v 2)) (.v 3))))) (.mul (.v 3) (.add (.mul (.v 1) (.add (.mul (.v 1) (.v 1)) (.neg (.mul (.v 0) (.v 2))))) (.mul (.v 2) (.add (.mul (.mul (.v 2) (.v 2)) (.v 3)) (.neg (.mul (.v 0) (.v 1)))))))) (.v 4)) (by decide)
  · exact ring_id F2 (envL F2 [x.1, x.2.1, x.2.2, xiE, k])
      (.add (.add (.mul (.v 0) (.mul (.add (.mul (.mul (.v 2) (.v 2)) (.v 3)) (.neg (.mul (.v 0) (.v 1)))) (.v 4))) (.mul (.v 1) (.mul (.add (.mul (.v 0) (.v 0)) (.neg (.mul (.mul (.v 1) (.v 2)) (.v 3)))) (.v 4)))) (.mul (.v 3) (.mul (.v 2) (.mul (.add (.mul (.v 1) (.v 1)) (.neg (.mul (.v 0) (.v 2)))) (.v 4))))) .zero (by decide)
  · exact ring_id F2 (envL F2 [x.1, x.2.1, x.2.2, xiE, k])
      (.add (.add (.mul (.v 0) (.mul (.add (.mul (.v 1) (.v 1)) (.neg (.mul (.v 0) (.v 2)))) (.v 4))) (.mul (.v 1) (.mul (.add (.mul (.mul (.v 2) (.v 2)) (.v 3)) (.neg (.mul (.v 0) (.v 1)))) (.v 4)))) (.mul (.v 2) (.mul (.add (.mul (.v 0) (.v 0)) (.neg (.mul (.mul (.v 1) (.v 2)) (.v 3)))) (.v 4)))) .zero (by decide)
theorem neg_eq {R : Type} {K : CR R} {a b : R} (h : K.add a (K.neg b) = K.zero) : a = b := by
  have h2 : K.add (K.add a (K.neg b)) b = K.add K.zero b := congrArg (fun x => K.add x b) h
  rwa [K.add_assoc, K.neg_add, K.add_zero, K.zero_add] at h2
theorem n6_zero {x : Q6} (h : n6 x = F2.zero) : x = F6.zero := by
  -- A1^3 - xi A2^3 is a multiple of the norm
  have hA : F2.mul (adj6 x).2.1 (F2.mul (adj6 x).2.1 (adj6 x).2.1) = F2.mul xiE (F2.mul (adj6 x).2.2 (F2.mul (adj6 x).2.2 (adj6 x).2.2)) := by
    apply neg_eq
    have e : F2.add (F2.mul (adj6 x).2.1 (F2.mul (adj6 x).2.1 (adj6 x).2.1)) (F2.neg (F2.mul xiE (F2.mul (adj6 x).2.2 (F2.mul (adj6 x).2.2 (adj6 x).2.2)))) = F2.mul (n6 x) (F2.add (F2.mul xiE (F2.mul x.2.2 (F2.mul x.2.2 x.2.2))) (F2.neg (F2.mul x.2.1 (F2.mul x.2.1 x.2.1)))) :=
      ring_id F2 (envL F2 [x.1, x.2.1, x.2.2, xiE])
        (.add (.mul (.add (.mul (.mul (.v 2) (.v 2)) (.v 3)) (.neg (.mul (.v 0) (.v 1)))) (.mul (.add (.mul (.mul (.v 2) (.v 2)) (.v 3)) (.neg (.mul (.v 0) (.v 1)))) (.add (.mul (.mul (.v 2) (.v 2)) (.v 3)) (.neg (.mul (.v 0) (.v 1)))))) (.neg (.mul (.v 3) (.mul (.add (.mul (.v 1) (.v 1)) (.neg (.mul (.v 0) (.v 2)))) (.mul (.add (.mul (.v 1) (.v 1)) (.neg (.mul (.v 0) (.v 2)))) (.add (.mul (.v 1) (.v 1)) (.neg (.mul (.v 0) (.v 2)))))))))
        (.mul (.add (.mul (.v 0) (.add (.mul (.v 0) (.v 0)) (.neg (.mul (.mul (.v 1) (.v 2)) (.v 3))))) (.mul (.v 3) (.add (.mul (.v 1) (.add (.mul (.v 1) (.v 1)) (.neg (.mul (.v 0) (.v 2))))) (.mul (.v 2) (.add (.mul (.mul (.v 2) (.v 2)) (.v 3)) (.neg (.mul (.v 0) (.v 1)))))))) (.add (.mul (.v 3) (.mul (.v 2) (.mul (.v 2) (.v 2)))) (.neg (.mul (.v 1) (.mul (.v 1) (.v 1)))))) (by decide)
    rw [e, h, F2.zero_mul]
  have h2 : (adj6 x).2.2 = F2.zero := by
    by_cases hb : (adj6 x).2.2 = F2.zero
    · exact hb
    · obtain ⟨t, ht⟩ := div_cu fld2 hb hA
      exact absurd ht (xi_cube t)
  have h1 : (adj6 x).2.1 = F2.zero := by
    rw [h2, F2.mul_zero, F2.mul_zero, F2.mul_zero] at hA
    by_cases ha : (adj6 x).2.1 = F2.zero
    · exact ha
    · exact sq_zero fld2 (fld2.zd hA ha)
  have g2 : F2.mul x.2.1 x.2.1 = F2.mul x.1 x.2.2 := neg_eq (K := F2) h2
  have g1 : F2.mul (F2.mul x.2.2 x.2.2) xiE = F2.mul x.1 x.2.1 := neg_eq (K := F2) h1
  have h3 : x.2.2 = F2.zero := by
    by_cases hc : x.2.2 = F2.zero
    · exact hc
    · -- a1^3 = xi a2^3
      have e : F2.mul x.2.1 (F2.mul x.2.1 x.2.1) = F2.mul xiE (F2.mul x.2.2 (F2.mul x.2.2 x.2.2)) := by
        rw [g2]
        have e1 : F2.mul x.2.1 (F2.mul x.1 x.2.2) = F2.mul (F2.mul x.1 x.2.1) x.2.2 := ring_id F2 (envL F2 [x.1, x.2.1, x.2.2]) (.mul (.v 1) (.mul (.v 0) (.v 2))) (.mul (.mul (.v 0) (.v 1)) (.v 2)) (by decide)
        rw [e1, ← g1]
        exact ring_id F2 (envL F2 [x.2.2, xiE]) (.mul (.mul (.mul (.v 0) (.v 0)) (.v 1)) (.v 0)) (.mul (.v 1) (.mul (.v 0) (.mul (.v 0) (.v 0)))) (by decide)
      obtain ⟨t, ht⟩ := div_cu fld2 hc e
      exact absurd ht (xi_cube t)
  have h4 : x.2.1 = F2.zero := by
    rw [h3, F2.mul_zero] at g2
    exact sq_zero fld2 g2
  have h5 : x.1 = F2.zero := by
    have e : F2.mul x.1 (F2.mul x.1 x.1) = F2.zero := by
      rw [← h]
      show F2.mul x.1 (F2.mul x.1 x.1) = F2.add (F2.mul x.1 (F2.sub (F2.mul x.1 x.1) (F2.mul (F2.mul x.2.1 x.2.2) xiE))) (F2.mul xiE (F2.add (F2.mul x.2.1 (adj6 x).2.2) (F2.mul x.2.2 (adj6 x).2.1)))
      rw [h1, h2, h3, F2.mul_zero x.2.1, F2.mul_zero F2.zero, F2.add_zero, F2.mul_zero xiE, F2.add_zero, F2.zero_mul]
      show F2.mul x.1 (F2.mul x.1 x.1) = F2.mul x.1 (F2.add (F2.mul x.1 x.1) (F2.neg F2.zero))
      rw [neg_zero, F2.add_zero]
    by_cases ha : x.1 = F2.zero
    · exact ha
    · exact sq_zero fld2 (fld2.zd e ha)
  exact Prod.ext h5 (Prod.ext h4 h3)
theorem F6_inv {x : Q6} (h : nm2 (n6 x) ≠ F1.zero) : F6.mul x (iv6 x) = F6.one := by
  show F6.mul x (s6 (adj6 x) (iv2 (n6 x))) = _
  rw [adj_mul, F2_inv h]
  rfl
theorem fld6 : Fld F6 := ⟨fun h => fld2.1 (congrArg Prod.fst h), fun x h => ⟨_, F6_inv fun e => h (n6_zero (nm2_zero e))⟩⟩
theorem xi_inv {z : Q2} (h : F2.mul xiE (F2.mul z z) = F2.one) : False := by
  have hz : z ≠ F2.zero := fun e => by rw [e, F2.mul_zero, F2.mul_zero] at h; exact fld2.1 h.symm
  obtain ⟨y, hy⟩ := fld2.2 z hz
  refine xi_sq y ?_
  have e : F2.mul (F2.mul y y) (F2.mul xiE (F2.mul z z)) = F2.mul xiE (F2.mul (F2.mul z y) (F2.mul z y)) := ring_id F2 (envL F2 [y, z, xiE]) (.mul (.mul (.v 0) (.v 0)) (.mul (.v 2) (.mul (.v 1) (.v 1)))) (.mul (.v 2) (.mul (.mul (.v 1) (.v 0)) (.mul (.v 1) (.v 0)))) (by decide)
  rwa [h, hy, F2.mul_one, F2.mul_one, F2.mul_one] at e
/-- v is no square -/
theorem v_sq (s : Q6) : F6.mul s s ≠ vE := fun h => by
  have c0 : F2.add (F2.mul s.1 s.1) (F2.mul xiE (F2.add (F2.mul s.2.1 s.2.2) (F2.mul s.2.2 s.2.1))) = F2.zero := congrArg Prod.fst h
  have c1 : F2.add (F2.add (F2.mul s.1 s.2.1) (F2.mul s.2.1 s.1)) (F2.mul xiE (F2.mul s.2.2 s.2.2)) = F2.one := congrArg (fun x => x.2.1) h
  have c2 : F2.add (F2.add (F2.mul s.1 s.2.2) (F2.mul s.2.1 s.2.1)) (F2.mul s.2.2 s.1) = F2.zero := congrArg (fun x => x.2.2) h
  -- s0 (s0 s1 - 4 xi s2^2) = 0
  have e : F2.mul s.1 (F2.add (F2.mul s.1 s.2.1) (F2.neg (F2.mul (F2.add (F2.add F2.one F2.one) (F2.add F2.one F2.one)) (F2.mul xiE (F2.mul s.2.2 s.2.2))))) = F2.zero := by
    have e1 : F2.mul s.1 (F2.add (F2.mul s.1 s.2.1) (F2.neg (F2.mul (F2.add (F2.add F2.one F2.one) (F2.add F2.one F2.one)) (F2.mul xiE (F2.mul s.2.2 s.2.2))))) = F2.add (F2.mul s.2.1 (F2.add (F2.mul s.1 s.1) (F2.mul xiE (F2.add (F2.mul s.2.1 s.2.2) (F2.mul s.2.2 s.2.1))))) (F2.neg (F2.mul (F2.mul (F2.add F2.one F2.one) (F2.mul xiE s.2.2)) (F2.add (F2.add (F2.mul s.1 s.2.2) (F2.mul s.2.1 s.2.1)) (F2.mul s.2.2 s.1)))) :=
      ring_id F2 (envL F2 [s.1, s.2.1, s.2.2, xiE])
        (.mul (.v 0) (.add (.mul (.v 0) (.v 1)) (.neg (.mul (.add (.add .one .one) (.add .one .one)) (.mul (.v 3) (.mul (.v 2) (.v 2)))))))
        (.add (.mul (.v 1) (.add (.mul (.v 0) (.v 0)) (.mul (.v 3) (.add (.mul (.v 1) (.v 2)) (.mul (.v 2) (.v 1)))))) (.neg (.mul (.mul (.add .one .one) (.mul (.v 3) (.v 2))) (.add (.add (.mul (.v 0) (.v 2)) (.mul (.v 1) (.v 1))) (.mul (.v 2) (.v 0)))))) (by decide)
    rw [e1, c0, c2, F2.mul_zero, F2.mul_zero, neg_zero, F2.add_zero]
  by_cases h0 : s.1 = F2.zero
  · rw [h0, F2.zero_mul, F2.mul_zero, F2.zero_add, F2.zero_add] at c1
    exact xi_inv c1
  · have g := neg_eq (fld2.zd e h0)
    rw [F2.mul_comm s.2.1 s.1, g] at c1
    refine xi_inv (z := F2.mul (F2.add (F2.add F2.one F2.one) F2.one) s.2.2) ?_
    refine Eq.trans ?_ c1
    exact ring_id F2 (envL F2 [s.2.2, xiE]) (.mul (.v 1) (.mul (.mul (.add (.add .one .one) .one) (.v 0)) (.mul (.add (.add .one .one) .one) (.v 0))))
      (.add (.add (.mul (.add (.add .one .one) (.add .one .one)) (.mul (.v 1) (.mul (.v 0) (.v 0)))) (.mul (.add (.add .one .one) (.add .one .one)) (.mul (.v 1) (.mul (.v 0) (.v 0))))) (.mul (.v 1) (.mul (.v 0) (.v 0)))) (by decide)
theorem n12_zero {x : Q12} (h : n12 x = F6.zero) : x = F12.zero := by
  have e : F6.mul x.1 x.1 = F6.mul vE (F6.mul x.2 x.2) := neg_eq (K := F6) h
  have hb : x.2 = F6.zero := by
    by_cases hb : x.2 = F6.zero
    · exact hb
    · obtain ⟨t, ht⟩ := div_sq fld6 hb e
      exact absurd ht (v_sq t)
  rw [hb, F6.mul_zero, F6.mul_zero] at e
  exact Prod.ext (sq_zero fld6 e) hb
theorem nu12_zero {x : Q12} (h : nu12 x = F1.zero) : x = F12.zero := n12_zero (n6_zero (nm2_zero h))
theorem inv_id1 {R : Type} (K : CR R) (a b v k : R) : K.add (K.mul a (K.mul a k)) (K.mul v (K.mul b (K.mul (K.sub K.zero b) k))) = K.mul (K.sub (K.mul a a) (K.mul v (K.mul b b))) k :=
  ring_id K (envL K [a, b, v, k]) (.add (.mul (.v 0) (.mul (.v 0) (.v 3))) (.mul (.v 2) (.mul (.v 1) (.mul (.add .zero (.neg (.v 1))) (.v 3))))) (.mul (.add (.mul (.v 0) (.v 0)) (.neg (.mul (.v 2) (.mul (.v 1) (.v 1))))) (.v 3)) (by decide)
theorem inv_id2 {R : Type} (K : CR R) (a b k : R) : K.add (K.mul a (K.mul (K.sub K.zero b) k)) (K.mul b (K.mul a k)) = K.zero :=
  ring_id K (envL K [a, b, k]) (.add (.mul (.v 0) (.mul (.add .zero (.neg (.v 1))) (.v 2))) (.mul (.v 1) (.mul (.v 0) (.v 2)))) .zero (by decide)
theorem F12_inv {x : Q12} (h : nu12 x ≠ F1.zero) : F12.mul x (iv12 x) = F12.one := by
  have hi : F6.mul (n12 x) (iv6 (n12 x)) = F6.one := F6_inv h
  exact Prod.ext ((inv_id1 F6 x.1 x.2 vE (iv6 (n12 x))).trans hi) (inv_id2 F6 x.1 x.2 (iv6 (n12 x)))
theorem fld12 : Fld F12 := ⟨fun h => fld6.1 (congrArg Prod.fst h), fun x h => ⟨_, F12_inv fun e => h (nu12_zero e)⟩⟩
end Go.Proofs.YtaingnhikbaplaaGreat.Ex
