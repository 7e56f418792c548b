/-
  How often an element is squared till it is one. Conditions: an element that is kept, words below 2^64, the constants in a block of memory, a count that is not below 0.
-/
import Derived.Test.YtalddekocfkbhaaRoot
namespace Go.Proofs.Ytalddekocfkbhaa
set_option linter.unusedVariables false
set_option linter.unusedSimpArgs false
open Go.RowKit

def OrdPost (M A T : Nat) (w : World) (e : Ending) (w' : World) : Prop :=
  ∃ o : Nat, e = .returned (.int .i64 o) ∧ o ≤ T ∧ (∀ j, j < o → A ^ 2 ^ j % M ≠ 1) ∧ (o < T → A ^ 2 ^ o % M = 1) ∧ Below w.heap.size w w'
theorem eq_one {F : FC} (hF : F.Ok) {a0 a1 a2 a3 s0 s1 s2 s3 A : Nat} (ha : ok4 a0 a1 a2 a3) (hs : ok4 s0 s1 s2 s3) (hA : val4 a0 a1 a2 a3 = kp F A) (hS : val4 s0 s1 s2 s3 = kp F 1) : eqW a0 a1 a2 a3 s0 s1 s2 s3 = true ↔ A % F.M = 1 := by
  have h1 : 1 < F.M := by have := hF.gt; omega
  rw [eqW_iff ha hs, hA, hS, ← kp_mod F A]
  exact ⟨fun h => kp_inj hF (Nat.mod_lt _ (by omega)) h1 h, fun h => by rw [h]⟩

set_option maxRecDepth 100000 in
set_option maxHeartbeats 4000000 in
theorem logOrder_calls (F : FC) (hF : F.Ok) (A b a0 a1 a2 a3 T : Nat) (ha : ok4 a0 a1 a2 a3) (hA : val4 a0 a1 a2 a3 = kp F A) (hT : T ≤ 256) (w : World) (hk : KIs w b F) :
    Calls Try.prog 100 #[.pointer (some ⟨b, 0, none⟩), .agg #[.int .u64 a0, .int .u64 a1, .int .u64 a2, .int .u64 a3], .int .i64 T] w (OrdPost F.M A T w) := by
  have HK := Lib.hid hk
  have HF := Lib.hid hF
  have HA := Lib.hid hA
  have hL := hk.lt
  have hG := eqGuardK
  clear hk hF hA
  go_enter Try.func100, Try.ntmps100
  go_wp2_with fail
  have M0 := (Mem.nil w).new w.heap.size a0 a1 a2 a3 83 rfl
  refine (one_calls F HF.out b _ (HK.out.same M0.1)).mono ?_
  rintro e w1 ⟨s0, s1, s2, s3, rfl, hs, hv, hbl⟩
  have M1 := M0.on hbl
  have HV1 := Lib.hid hv
  have hz1 : w.heap.size < w1.heap.size := M1.lt (c0 := a0) (c1 := a1) (c2 := a2) (c3 := a3) (by simp)
  have M2 := Lib.hid ((M1.new w1.heap.size s0 s1 s2 s3 83 rfl).sub (rs' := [(w.heap.size, a0, a1, a2, a3), (w1.heap.size, s0, s1, s2, s3)]) (by simp))
  clear hbl hv M0 M1
  go_wp2_with fail
  go_loopw [12] (fun i wr => ∃ k r0 r1 r2 r3 : Nat, k ≤ T ∧ i = .int .i64 k ∧ ok4 r0 r1 r2 r3 ∧ Hid (val4 r0 r1 r2 r3 = kp F (A ^ 2 ^ k)) ∧ Hid (∀ j, j < k → A ^ 2 ^ j % F.M ≠ 1) ∧ Hid (Mem w wr [(w.heap.size, r0, r1, r2, r3), (w1.heap.size, s0, s1, s2, s3)])) (fun i _ => T - (intOf i).toNat)
  case atStart =>
    exact ⟨0, a0, a1, a2, a3, Nat.zero_le _, rfl, ha, Lib.hid (by rw [HA.out, Nat.pow_zero, Nat.pow_one]), Lib.hid (fun j hj => absurd hj (by omega)), M2⟩
  case round =>
    obtain ⟨k, r0, r1, r2, r3, hkT, rfl, hr, HV, HN, HM⟩ := hrel
    by_cases hlt : k < T
    · have Rr := HM.out.row (b := w.heap.size) (c0 := r0) (c1 := r1) (c2 := r2) (c3 := r3) (by simp)
      have x0 := Rr.c0; have x1 := Rr.c1; have x2 := Rr.c2; have x3 := Rr.c3
      have Ro := HM.out.row (b := w1.heap.size) (c0 := s0) (c1 := s1) (c2 := s2) (c3 := s3) (by simp)
      have o0 := Ro.c0; have o1 := Ro.c1; have o2 := Ro.c2; have o3 := Ro.c3
      have ltr := HM.out.lt (b := w.heap.size) (c0 := r0) (c1 := r1) (c2 := r2) (c3 := r3) (by simp)
      have lto := HM.out.lt (b := w1.heap.size) (c0 := s0) (c1 := s1) (c2 := s2) (c3 := s3) (by simp)
      have hE := fun w => equalInK 9998 r0 r1 r2 r3 s0 s1 s2 s3 w
      have hq := eq_one HF.out hr hs HV.out HV1.out
      clear Rr Ro
      cases q : eqW r0 r1 r2 r3 s0 s1 s2 s3
      · rw [q] at hE hq
        have HN1 := Lib.hid (show ¬ A ^ 2 ^ k % F.M = 1 from fun h => by simpa using hq.2 h)
        have hrl := Lib.hid (show val4 r0 r1 r2 r3 < F.M by rw [HV.out]; exact kp_lt HF.out _)
        clear q hq
        go_wp2_with fail
        refine (times_calls F HF.out b r0 r1 r2 r3 r0 r1 r2 r3 hr hr hrl.out _ (HK.out.same HM.out.1)).mono ?_
        rintro e w3 ⟨p0, p1, p2, p3, rfl, hp, hv, hbl⟩
        have HP := Lib.hid (show val4 p0 p1 p2 p3 = kp F (A ^ 2 ^ (k + 1)) by rw [hv, HV.out, kp_times HF.out, kp_mod, pow_two_succ])
        have M4 := HM.out.on hbl
        have lt4 := M4.lt (b := w.heap.size) (c0 := r0) (c1 := r1) (c2 := r2) (c3 := r3) (by simp)
        have Rr := M4.row (b := w.heap.size) (c0 := r0) (c1 := r1) (c2 := r2) (c3 := r3) (by simp)
        have M5 := Lib.hid (M4.put p0 p1 p2 p3 (by omega) (by intro r hr; simp at hr; rcases hr with rfl; simp; omega))
        clear x0 x1 x2 x3 o0 o1 o2 o3 hv hbl M4 hE
        have x0 := Rr.c0; have x1 := Rr.c1; have x2 := Rr.c2; have x3 := Rr.c3; have xf := Rr.fr
        clear Rr
        go_wp2_with fail
        go_roundw
        case rel =>
          exact ⟨k + 1, p0, p1, p2, p3, by omega, by go_num, hp, HP, Lib.hid (fun j hj => by
            by_cases h : j = k
            · subst h; exact HN1.out
            · exact HN.out j (by omega)), M5⟩
        case measure => simp [intOf]; omega
      · rw [q] at hE hq
        have HN1 := Lib.hid (hq.1 rfl)
        clear q hq
        go_wp2_with fail
        go_ret
        exact ⟨k, rfl, by omega, HN.out, fun _ => HN1.out, HM.out.1⟩
    · obtain rfl : k = T := by omega
      go_wp2_with fail
      go_ret
      exact ⟨k, rfl, Nat.le_refl _, HN.out, fun h => absurd h (by omega), HM.out.1⟩
end Go.Proofs.Ytalddekocfkbhaa
