/-
  The calls of the field's words: a product of two words with two more, a number below two moduli made one below the modulus, sums and differences modulo it, the test whether a number is below it. Conditions: words below 2^64, the constants in a block of memory.
-/
import Derived.Test.YtgacpjmggdmgdaaGreatMul
import Derived.Test.YtgacpjmggdmgdaaGreatTake
import Derived.Test.YtgacpjmggdmgdaaGreatMem
import Derived.Test.YtgacpjmggdmgdaaGreatFldAll
namespace Go.Proofs.YtgacpjmggdmgdaaGreat
set_option linter.unusedVariables false
set_option linter.unusedSimpArgs false
open Go.RowKit

theorem ex_Add64m {x c : Nat} (hx : x < 18446744073709551616) (hc : c ≤ 1) : ∃ d b : Nat, (∀ w, (callFunc 167 #[.int .u64 (x : Int), .int .u64 0, .int .u64 (c : Int)]).run Tryz.prog w =
      .ok (.value (.tuple #[.int .u64 (d : Int), .int .u64 (b : Int)])) w) ∧ d < 18446744073709551616 ∧ b ≤ 1 ∧ Hid (d + 18446744073709551616 * b = x + c) :=
  ⟨_, _, run_Add64 x 0 c hc, addS_lt _ _ _, addC_le hx (by omega) hc, Lib.hid (by have := addSC x 0 c; omega)⟩

set_option maxHeartbeats 1000000 in
theorem ex_tp {a b c d : Nat} (ha : a < 18446744073709551616) (hb : b < 18446744073709551616) (hc : c < 18446744073709551616) (hd : d < 18446744073709551616) : ∃ h l : Nat,
    (∀ w, Calls Tryz.prog 170 #[.int .u64 a, .int .u64 b, .int .u64 c, .int .u64 d] w fun e w' => e = .returned (.tuple #[.int .u64 (h : Nat), .int .u64 (l : Nat)]) ∧ w' = w) ∧
    h < 18446744073709551616 ∧ l < 18446744073709551616 ∧ Hid (l + 18446744073709551616 * h = a * b + c + d) := by
  obtain ⟨h, l, r, hh, hl, e⟩ := ex_Mul64 ha hb
  obtain ⟨l1, c1, r1, hl1, hc1, e1⟩ := ex_Add64z hl hc
  obtain ⟨h1, z1, r2, hh1, hz1, e2⟩ := ex_Add64m (show h < 18446744073709551616 by omega) hc1
  obtain ⟨l2, c2, r3, hl2, hc2, e3⟩ := ex_Add64z hl1 hd
  obtain ⟨h2, z2, r4, hh2, hz2, e4⟩ := ex_Add64m hh1 hc2
  have hab := mul_le (show a ≤ 18446744073709551615 by omega) (show b ≤ 18446744073709551615 by omega)
  refine ⟨h2, l2, fun w => ?_, hh2, hl2, Lib.hid (by have := e.out; have := e1.out; have := e2.out; have := e3.out; have := e4.out; omega)⟩
  clear e e1 e2 e3 e4 hab
  go_enter Tryz.func170, Tryz.ntmps170
  go_wp2_with fail
  refine (r _).mono ?_
  rintro e w' ⟨rfl, rfl⟩
  go_wp2_with fail
  go_ret2
  exact ⟨rfl, rfl⟩

/-- the constants of a field, cell by cell -/
structure KIs (w : World) (b : Nat) (F : FC) : Prop where
  k0 : w.cell? ⟨b, 0, none⟩ = some (.int .u64 F.m0)
  k1 : w.cell? ⟨b, 1, none⟩ = some (.int .u64 F.m1)
  k2 : w.cell? ⟨b, 2, none⟩ = some (.int .u64 F.m2)
  k3 : w.cell? ⟨b, 3, none⟩ = some (.int .u64 F.m3)
  k4 : w.cell? ⟨b, 4, none⟩ = some (.int .u64 F.inv)
  k5 : w.cell? ⟨b, 5, none⟩ = some (.int .u64 F.s0)
  k6 : w.cell? ⟨b, 6, none⟩ = some (.int .u64 F.s1)
  k7 : w.cell? ⟨b, 7, none⟩ = some (.int .u64 F.s2)
  k8 : w.cell? ⟨b, 8, none⟩ = some (.int .u64 F.s3)
  lt : b < w.heap.size
theorem KIs.below {w w' : World} {b : Nat} {F : FC} (h : KIs w b F) {B : Nat} (hb : Below B w w') (hB : b < B) : KIs w' b F :=
  ⟨by rw [hb.cell (p := ⟨b, 0, none⟩) hB]; exact h.k0, by rw [hb.cell (p := ⟨b, 1, none⟩) hB]; exact h.k1, by rw [hb.cell (p := ⟨b, 2, none⟩) hB]; exact h.k2, by rw [hb.cell (p := ⟨b, 3, none⟩) hB]; exact h.k3,
    by rw [hb.cell (p := ⟨b, 4, none⟩) hB]; exact h.k4, by rw [hb.cell (p := ⟨b, 5, none⟩) hB]; exact h.k5, by rw [hb.cell (p := ⟨b, 6, none⟩) hB]; exact h.k6, by rw [hb.cell (p := ⟨b, 7, none⟩) hB]; exact h.k7, by rw [hb.cell (p := ⟨b, 8, none⟩) hB]; exact h.k8, Nat.lt_of_lt_of_le h.lt hb.size⟩
theorem KIs.same {w w' : World} {b : Nat} {F : FC} (h : KIs w b F) (hb : Below w.heap.size w w') : KIs w' b F := h.below hb h.lt
theorem KIs.drewN {w : World} {b : Nat} {F : FC} (h : KIs w b F) (n : Nat) : KIs (w.drewN n) b F := ⟨h.k0, h.k1, h.k2, h.k3, h.k4, h.k5, h.k6, h.k7, h.k8, h.lt⟩
theorem KIs.other {w : World} {b d i : Nat} {F : FC} (h : KIs w b F) (hd : d ≠ b) (v : Value) : KIs (w.setCell ⟨d, i, none⟩ v) b F :=
  ⟨by rw [World.cell?_setCell_other (h := fun he => hd (by simpa using congrArg Addr.block he)) ..]; exact h.k0, by rw [World.cell?_setCell_other (h := fun he => hd (by simpa using congrArg Addr.block he)) ..]; exact h.k1,
    by rw [World.cell?_setCell_other (h := fun he => hd (by simpa using congrArg Addr.block he)) ..]; exact h.k2, by rw [World.cell?_setCell_other (h := fun he => hd (by simpa using congrArg Addr.block he)) ..]; exact h.k3,
    by rw [World.cell?_setCell_other (h := fun he => hd (by simpa using congrArg Addr.block he)) ..]; exact h.k4, by rw [World.cell?_setCell_other (h := fun he => hd (by simpa using congrArg Addr.block he)) ..]; exact h.k5,
    by rw [World.cell?_setCell_other (h := fun he => hd (by simpa using congrArg Addr.block he)) ..]; exact h.k6, by rw [World.cell?_setCell_other (h := fun he => hd (by simpa using congrArg Addr.block he)) ..]; exact h.k7,
    by rw [World.cell?_setCell_other (h := fun he => hd (by simpa using congrArg Addr.block he)) ..]; exact h.k8, by rw [World.size_setCell]; exact h.lt⟩

/-- four subtractions with a borrow, as facts -/
theorem ex_sub4 {a0 a1 a2 a3 b0 b1 b2 b3 : Nat} (ha : ok4 a0 a1 a2 a3) (hb : ok4 b0 b1 b2 b3) : ∃ d0 c0 d1 c1 d2 c2 d3 c3 : Nat,
    (∀ w, (callFunc 162 #[.int .u64 (a0 : Int), .int .u64 (b0 : Int), .int .u64 0]).run Tryz.prog w = .ok (.value (.tuple #[.int .u64 (d0 : Int), .int .u64 (c0 : Int)])) w) ∧
    (∀ w, (callFunc 162 #[.int .u64 (a1 : Int), .int .u64 (b1 : Int), .int .u64 (c0 : Int)]).run Tryz.prog w = .ok (.value (.tuple #[.int .u64 (d1 : Int), .int .u64 (c1 : Int)])) w) ∧
    (∀ w, (callFunc 162 #[.int .u64 (a2 : Int), .int .u64 (b2 : Int), .int .u64 (c1 : Int)]).run Tryz.prog w = .ok (.value (.tuple #[.int .u64 (d2 : Int), .int .u64 (c2 : Int)])) w) ∧
    (∀ w, (callFunc 162 #[.int .u64 (a3 : Int), .int .u64 (b3 : Int), .int .u64 (c2 : Int)]).run Tryz.prog w = .ok (.value (.tuple #[.int .u64 (d3 : Int), .int .u64 (c3 : Int)])) w) ∧
    ok4 d0 d1 d2 d3 ∧ c3 ≤ 1 ∧ Hid (val4 d0 d1 d2 d3 + val4 b0 b1 b2 b3 = val4 a0 a1 a2 a3 + 115792089237316195423570985008687907853269984665640564039457584007913129639936 * c3) := by
  obtain ⟨d0, c0, r0, h0, k0, e0⟩ := ex_Sub64z ha.1 hb.1
  obtain ⟨d1, c1, r1, h1, k1, e1⟩ := ex_Sub64 ha.2.1 hb.2.1 k0
  obtain ⟨d2, c2, r2, h2, k2, e2⟩ := ex_Sub64 ha.2.2.1 hb.2.2.1 k1
  obtain ⟨d3, c3, r3, h3, k3, e3⟩ := ex_Sub64 ha.2.2.2 hb.2.2.2 k2
  exact ⟨d0, c0, d1, c1, d2, c2, d3, c3, r0, r1, r2, r3, ⟨h0, h1, h2, h3⟩, k3, Lib.hid (by have := e0.out; have := e1.out; have := e2.out; have := e3.out; unfold val4; omega)⟩
/-- four sums with a carry, as facts -/
theorem ex_add4 {a0 a1 a2 a3 b0 b1 b2 b3 : Nat} (ha : ok4 a0 a1 a2 a3) (hb : ok4 b0 b1 b2 b3) : ∃ d0 c0 d1 c1 d2 c2 d3 c3 : Nat,
    (∀ w, (callFunc 167 #[.int .u64 (a0 : Int), .int .u64 (b0 : Int), .int .u64 0]).run Tryz.prog w = .ok (.value (.tuple #[.int .u64 (d0 : Int), .int .u64 (c0 : Int)])) w) ∧
    (∀ w, (callFunc 167 #[.int .u64 (a1 : Int), .int .u64 (b1 : Int), .int .u64 (c0 : Int)]).run Tryz.prog w = .ok (.value (.tuple #[.int .u64 (d1 : Int), .int .u64 (c1 : Int)])) w) ∧
    (∀ w, (callFunc 167 #[.int .u64 (a2 : Int), .int .u64 (b2 : Int), .int .u64 (c1 : Int)]).run Tryz.prog w = .ok (.value (.tuple #[.int .u64 (d2 : Int), .int .u64 (c2 : Int)])) w) ∧
    (∀ w, (callFunc 167 #[.int .u64 (a3 : Int), .int .u64 (b3 : Int), .int .u64 (c2 : Int)]).run Tryz.prog w = .ok (.value (.tuple #[.int .u64 (d3 : Int), .int .u64 (c3 : Int)])) w) ∧
    ok4 d0 d1 d2 d3 ∧ c3 ≤ 1 ∧ Hid (val4 d0 d1 d2 d3 + 115792089237316195423570985008687907853269984665640564039457584007913129639936 * c3 = val4 a0 a1 a2 a3 + val4 b0 b1 b2 b3) := by
  obtain ⟨d0, c0, r0, h0, k0, e0⟩ := ex_Add64z ha.1 hb.1
  obtain ⟨d1, c1, r1, h1, k1, e1⟩ := ex_Add64 ha.2.1 hb.2.1 k0
  obtain ⟨d2, c2, r2, h2, k2, e2⟩ := ex_Add64 ha.2.2.1 hb.2.2.1 k1
  obtain ⟨d3, c3, r3, h3, k3, e3⟩ := ex_Add64 ha.2.2.2 hb.2.2.2 k2
  exact ⟨d0, c0, d1, c1, d2, c2, d3, c3, r0, r1, r2, r3, ⟨h0, h1, h2, h3⟩, k3, Lib.hid (by have := e0.out; have := e1.out; have := e2.out; have := e3.out; unfold val4; omega)⟩

/-- An answer of four words with one value. -/
def FePost (V : Nat) (w : World) (e : Ending) (w' : World) : Prop :=
  ∃ s0 s1 s2 s3 : Nat, e = .returned (.agg #[.int .u64 s0, .int .u64 s1, .int .u64 s2, .int .u64 s3]) ∧ ok4 s0 s1 s2 s3 ∧ val4 s0 s1 s2 s3 = V ∧ Below w.heap.size w w'

set_option maxHeartbeats 1000000 in
theorem once_calls (F : FC) (hF : F.Ok) (b t0 t1 t2 t3 : Nat) (ht : ok4 t0 t1 t2 t3) (hlt : val4 t0 t1 t2 t3 < 2 * F.M) (w : World) (hk : KIs w b F) :
    Calls Tryz.prog 171 #[.pointer (some ⟨b, 0, none⟩), .int .u64 t0, .int .u64 t1, .int .u64 t2, .int .u64 t3] w (FePost (val4 t0 t1 t2 t3 % F.M) w) := by
  obtain ⟨d0, c0, d1, c1, d2, c2, d3, c3, r0, r1, r2, r3, hd, hc, e⟩ := ex_sub4 ht hF.okm
  have vd := val4_lt hd
  have vt := val4_lt ht
  have HV := Lib.hid (once_mod hlt)
  have HM := Lib.hid (show F.M = val4 F.m0 F.m1 F.m2 F.m3 from rfl)
  have hL := hk.lt
  have k0 := hk.k0; have k1 := hk.k1; have k2 := hk.k2; have k3 := hk.k3
  clear hk hF hlt
  have hc' : c3 = 0 ∨ c3 = 1 := by omega
  rcases hc' with rfl | rfl
  · go_enter Tryz.func171, Tryz.ntmps171
    go_wp2_with fail
    refine bodyPost_ret (v := .agg #[.int .u64 d0, .int .u64 d1, .int .u64 d2, .int .u64 d3]) (by simp [results, Tryz.results171, go_sem]) rfl ?_
    refine ⟨_, _, _, _, rfl, hd, ?_, ?_⟩
    · rw [HV.out, if_neg (by have := e.out; have := HM.out; omega)]; have := e.out; have := HM.out; omega
    · repeat (first | exact Below.refl _ _ | refine Below.drew ?_ | refine Below.alloc ?_ (by first | (simp; done) | (simp; omega)) _ | refine Below.setCell ?_ (by simp) _)
  · go_enter Tryz.func171, Tryz.ntmps171
    go_wp2_with fail
    refine bodyPost_ret (v := .agg #[.int .u64 t0, .int .u64 t1, .int .u64 t2, .int .u64 t3]) (by simp [results, Tryz.results171, go_sem]) rfl ?_
    refine ⟨_, _, _, _, rfl, ht, ?_, ?_⟩
    · rw [HV.out, if_pos (by have := e.out; have := HM.out; omega)]
    · repeat (first | exact Below.refl _ _ | refine Below.drew ?_ | refine Below.alloc ?_ (by first | (simp; done) | (simp; omega)) _ | refine Below.setCell ?_ (by simp) _)
end Go.Proofs.YtgacpjmggdmgdaaGreat
