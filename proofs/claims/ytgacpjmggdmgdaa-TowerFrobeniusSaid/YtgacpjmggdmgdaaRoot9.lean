/-
  The field's inverses, the test which of an element and its negative is lower, how often an element is squared till it is one. Conditions: elements below the modulus, words below 2^64, the constants in a block of memory.
  How often an element is squared till it is one. Conditions: an element that is kept, words below 2^64, the constants in a block of memory, a count that is not below 0.
  The field's root, by Tonelli and Shanks. Conditions: an element that is kept and is not 0, words below 2^64, the constants in a block of memory.
  The field's root, by Tonelli and Shanks, of what is no square. Conditions: an element that is kept and is not 0, words below 2^64, the constants in a block of memory.
-/
import Derived.Test.YtgacpjmggdmgdaaPower
import Derived.Test.YtgacpjmggdmgdaaFldTon
import Derived.Test.YtgacpjmggdmgdaaShiftR
import Derived.Test.YtgacpjmggdmgdaaTill
import Derived.Deep.DeepCutAuto
namespace Go.Proofs.Ytgacpjmggdmgdaa
set_option linter.unusedVariables false
set_option linter.unusedSimpArgs false
open Go.RowKit

theorem equalInK (d : Nat) (a0 a1 a2 a3 b0 b1 b2 b3 : Nat) (w : World) : (Op.equalIn (d + 1 + 1) 95 (.agg #[.int .u64 a0, .int .u64 a1, .int .u64 a2, .int .u64 a3]) (.agg #[.int .u64 b0, .int .u64 b1, .int .u64 b2, .int .u64 b3])).run Try.prog w = .ok (eqW a0 a1 a2 a3 b0 b1 b2 b3) w := by
  have h0 : ∀ (x y : Int) (w : World), (Op.equalIn (d + 1) 22 (.int .u64 x) (.int .u64 y)).run Try.prog w = .ok (x == y) w := fun x y w => run_equalIn_int w d 22 .u64 .u64 x y Try.underlying22
  rw [Op.equalIn]
  simp only [Sem.run_bind, run_underlying Try.underlying95, Result.andThen_ok, Try.sizeOf22]
  simp [Std.Legacy.Range.forIn_eq_forIn_range', Std.Legacy.Range.size, List.range', part, h0, Sem.run_bind, Result.andThen_ok]
  unfold eqW
  by_cases q0 : a0 = b0 <;> by_cases q1 : a1 = b1 <;> by_cases q2 : a2 = b2 <;> by_cases q3 : a3 = b3 <;> simp [q0, q1, q2, q3] <;> omega
theorem equalInF (d : Nat) (a0 a1 a2 a3 b0 b1 b2 b3 : Nat) (w : World) : (Op.equalIn (d + 1 + 1) 24 (.agg #[.int .u64 a0, .int .u64 a1, .int .u64 a2, .int .u64 a3]) (.agg #[.int .u64 b0, .int .u64 b1, .int .u64 b2, .int .u64 b3])).run Try.prog w = .ok (eqW a0 a1 a2 a3 b0 b1 b2 b3) w := by
  have h0 : ∀ (x y : Int) (w : World), (Op.equalIn (d + 1) 22 (.int .u64 x) (.int .u64 y)).run Try.prog w = .ok (x == y) w := fun x y w => run_equalIn_int w d 22 .u64 .u64 x y Try.underlying22
  rw [Op.equalIn]
  simp only [Sem.run_bind, run_underlying Try.underlying24, Result.andThen_ok, Try.sizeOf22]
  simp [Std.Legacy.Range.forIn_eq_forIn_range', Std.Legacy.Range.size, List.range', part, h0, Sem.run_bind, Result.andThen_ok]
  unfold eqW
  by_cases q0 : a0 = b0 <;> by_cases q1 : a1 = b1 <;> by_cases q2 : a2 = b2 <;> by_cases q3 : a3 = b3 <;> simp [q0, q1, q2, q3] <;> omega
theorem Mem.drew {w wr : World} {rs : List (Nat × Nat × Nat × Nat × Nat)} (h : Mem w wr rs) : Mem w wr.drew rs :=
  ⟨h.1.drew, fun r hr => ⟨(h.2 r hr).1, ⟨(h.2 r hr).2.c0, (h.2 r hr).2.c1, (h.2 r hr).2.c2, (h.2 r hr).2.c3, (h.2 r hr).2.fr⟩⟩⟩
theorem eqGuardK : Try.prog.eqGuardType Try.prog.depth 95 = false := by kernel_rfl
theorem eqGuardF : Try.prog.eqGuardType Try.prog.depth 24 = false := by kernel_rfl

set_option maxRecDepth 100000 in
set_option maxHeartbeats 1000000 in
theorem inverted_calls (F : FC) (hF : F.Ok) (A b a0 a1 a2 a3 : Nat) (ha : ok4 a0 a1 a2 a3) (hA : val4 a0 a1 a2 a3 = kp F A) (w : World) (hk : KIs w b F) :
    Calls Try.prog 72 #[.pointer (some ⟨b, 0, none⟩), .agg #[.int .u64 a0, .int .u64 a1, .int .u64 a2, .int .u64 a3]] w (FePost (kp F (A ^ (F.M - 2))) w) := by
  have HK := Lib.hid hk
  have HF := Lib.hid hF
  have HA := Lib.hid hA
  have hL := hk.lt
  have hL1 : b < w.heap.size + 1 := by omega
  have k0 := hk.k0; have k1 := hk.k1; have k2 := hk.k2; have k3 := hk.k3
  clear hk hF hA
  go_enter Try.func72, Try.ntmps72
  go_wp2_with fail
  have M0 := (((Mem.nil w).new w.heap.size a0 a1 a2 a3 95 rfl).new (w.heap.size + 1) 0 0 0 0 95 (by simp))
  refine (sub_calls F.m0 F.m1 F.m2 F.m3 2 0 0 0 HF.out.okm ⟨by omega, by omega, by omega, by omega⟩ _).mono ?_
  rintro e w1 ⟨n0, n1, n2, n3, c, rfl, hn, hc, hv, hbl⟩
  have hv' : val4 n0 n1 n2 n3 = F.M - 2 := by
    have e2 : val4 2 0 0 0 = 2 := rfl
    have := val4_lt hn; have := HF.out.gt; have := HF.out.two
    rw [e2, show val4 F.m0 F.m1 F.m2 F.m3 = F.M from rfl] at hv
    omega
  have HV := Lib.hid hv'
  have M1 := M0.on hbl
  have hz1 : w.heap.size + 1 < w1.heap.size := M1.lt (c0 := 0) (c1 := 0) (c2 := 0) (c3 := 0) (by simp)
  have R1 := M1.row (b := w.heap.size) (c0 := a0) (c1 := a1) (c2 := a2) (c3 := a3) (by simp)
  have x0 := R1.c0; have x1 := R1.c1; have x2 := R1.c2; have x3 := R1.c3
  have lt1 : w.heap.size < w1.heap.size := by omega
  have M2 := Lib.hid (M1.new w1.heap.size n0 n1 n2 n3 33 rfl)
  clear hbl hv hv' R1 M0 M1 k0 k1 k2 k3
  go_wp2_with fail
  refine (power_calls F HF.out A b a0 a1 a2 a3 n0 n1 n2 n3 ha hn HA.out _ (HK.out.same M2.out.1)).mono ?_
  rintro e w2 ⟨s0, s1, s2, s3, rfl, hs, hv, hbl⟩
  have HVs := Lib.hid hv
  have M3 := Lib.hid (M2.out.on hbl)
  have Ro := M3.out.row (b := w.heap.size + 1) (c0 := 0) (c1 := 0) (c2 := 0) (c3 := 0) (by simp)
  have o0 := Ro.c0; have o1 := Ro.c1; have o2 := Ro.c2; have o3 := Ro.c3; have of := Ro.fr
  have lto := M3.out.lt (b := w.heap.size + 1) (c0 := 0) (c1 := 0) (c2 := 0) (c3 := 0) (by simp)
  clear hbl hv Ro x0 x1 x2 x3
  go_wp2_with fail
  refine bodyPost_ret (v := .agg #[.int .u64 s0, .int .u64 s1, .int .u64 s2, .int .u64 s3]) (by simp [results, Try.results72, go_sem, *]) rfl ?_
  refine ⟨_, _, _, _, rfl, hs, by rw [HVs.out, HV.out], ?_⟩
  exact below_set4 M3.out.1 (by omega) _ _ _ _

/-- an element is lower than its negative, or 0 -/
def lowB (M A : Nat) : Bool := decide (A ≤ (0 + M - A) % M)
theorem lowB_of (M A : Nat) : decide (cmpN A ((0 + M - A) % M) ≤ 0) = lowB M A := by
  unfold lowB cmpN
  by_cases h : A = (0 + M - A) % M
  · rw [if_pos h, decide_eq_true (by omega), decide_eq_true (by omega)]
  · rw [if_neg h]
    by_cases h2 : A < (0 + M - A) % M
    · rw [if_pos h2, decide_eq_true (by omega), decide_eq_true (by omega)]
    · rw [if_neg h2, decide_eq_false (by omega), decide_eq_false (by omega)]

end Go.Proofs.Ytgacpjmggdmgdaa
namespace Go.Proofs.Ytgacpjmggdmgdaa
set_option linter.unusedVariables false
set_option linter.unusedSimpArgs false
open Go.RowKit

def OrdPost (M A T : Nat) (w : World) (e : Ending) (w' : World) : Prop :=
  ∃ o : Nat, e = .returned (.int .i64 o) ∧ o ≤ T ∧ (∀ j, j < o → A ^ 2 ^ j % M ≠ 1) ∧ (o < T → A ^ 2 ^ o % M = 1) ∧ Below w.heap.size w w'
theorem eq_one {F : FC} (hF : F.Ok) {a0 a1 a2 a3 s0 s1 s2 s3 A : Nat} (ha : ok4 a0 a1 a2 a3) (hs : ok4 s0 s1 s2 s3) (hA : val4 a0 a1 a2 a3 = kp F A) (hS : val4 s0 s1 s2 s3 = kp F 1) : eqW a0 a1 a2 a3 s0 s1 s2 s3 = true ↔ A % F.M = 1 := by
  have h1 : 1 < F.M := by have := hF.gt; omega
  rw [eqW_iff ha hs, hA, hS, ← kp_mod F A]
  exact ⟨fun h => kp_inj hF (Nat.mod_lt _ (by omega)) h1 h, fun h => by rw [h]⟩

end Go.Proofs.Ytgacpjmggdmgdaa
namespace Go.Proofs.Ytgacpjmggdmgdaa
set_option linter.unusedVariables false
set_option linter.unusedSimpArgs false
open Go.RowKit

end Go.Proofs.Ytgacpjmggdmgdaa
namespace Go.Proofs.Ytgacpjmggdmgdaa
set_option linter.unusedVariables false
set_option linter.unusedSimpArgs false
open Go.RowKit

end Go.Proofs.Ytgacpjmggdmgdaa
