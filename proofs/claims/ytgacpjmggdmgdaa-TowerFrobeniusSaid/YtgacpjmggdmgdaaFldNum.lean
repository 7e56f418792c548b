/-
  Plain numbers behind the field's calls: one step of a product by words over a modulus, sums and differences modulo it. No program in sight. Conditions: none.
-/
import Derived.Test.YtgacpjmggdmgdaaNum
import Derived.KernelRfl
namespace Go.Proofs.Ytgacpjmggdmgdaa
set_option linter.unusedVariables false

/-- what a field reckons with: the modulus, the inverse of its lowest word negated, the square of 2^256, and what times 2^256 is one -/
structure FC where
  m0 : Nat
  m1 : Nat
  m2 : Nat
  m3 : Nat
  inv : Nat
  s0 : Nat
  s1 : Nat
  s2 : Nat
  s3 : Nat
  Ri : Nat
def FC.M (F : FC) : Nat := val4 F.m0 F.m1 F.m2 F.m3
def FC.R (_ : FC) : Nat := 115792089237316195423570985008687907853269984665640564039457584007913129639936
structure FC.Ok (F : FC) : Prop where
  okm : ok4 F.m0 F.m1 F.m2 F.m3
  oks : ok4 F.s0 F.s1 F.s2 F.s3
  inv : F.inv < 18446744073709551616
  turn : (F.inv * F.m0 + 1) % 18446744073709551616 = 0
  two : 2 * F.M < 115792089237316195423570985008687907853269984665640564039457584007913129639936
  ri : F.R * F.Ri % F.M = 1
  sq : val4 F.s0 F.s1 F.s2 F.s3 = F.R * F.R % F.M
  gt : 2 < F.M
  odd : F.M % 2 = 1
def FP : FC := ⟨0x3c208c16d87cfd47, 0x97816a916871ca8d, 0xb85045b68181585d, 0x30644e72e131a029, 0x87d20782e4866389, 0xf32cfc5b538afa89, 0xb5e71911d44501fb, 0x47ab1eff0a417ff6, 0x06d89f71cab8351f, 20988524275117001072002809824448087578619730785600314334253784976379291040311⟩
def FR : FC := ⟨0x43e1f593f0000001, 0x2833e84879b97091, 0xb85045b68181585d, 0x30644e72e131a029, 0xc2e1f593efffffff, 0x1bb8e645ae216da7, 0x53fe3ab1e35c59e3, 0x8c49833d53bb8085, 0x0216d0b17f4e44a5, 9915499612839321149637521777990102151350674507940716049588462388200839649614⟩
theorem FP_M : FP.M = 21888242871839275222246405745257275088696311157297823662689037894645226208583 := by kernel_rfl
theorem FR_M : FR.M = 21888242871839275222246405745257275088548364400416034343698204186575808495617 := by kernel_rfl
theorem FP_ok : FP.Ok := ⟨by unfold ok4; decide, by unfold ok4; decide, by decide, by kernel_rfl, by decide, by kernel_rfl, by kernel_rfl, by decide, by kernel_rfl⟩
theorem FR_ok : FR.Ok := ⟨by unfold ok4; decide, by unfold ok4; decide, by decide, by kernel_rfl, by decide, by kernel_rfl, by kernel_rfl, by decide, by kernel_rfl⟩

theorem round_arith {t0 t1 t2 t3 x y0 y1 y2 y3 m0 m1 m2 m3 o0 l0 cl c0 o1 l1 c1 n0 o2 l2 c2 n1 o3 l3 c3 n2 : Nat}
    (e0 : l0 + 18446744073709551616 * o0 = x * y0 + t0) (f0 : 0 + 18446744073709551616 * c0 = cl * m0 + l0)
    (e1 : l1 + 18446744073709551616 * o1 = x * y1 + t1 + o0) (f1 : n0 + 18446744073709551616 * c1 = cl * m1 + l1 + c0)
    (e2 : l2 + 18446744073709551616 * o2 = x * y2 + t2 + o1) (f2 : n1 + 18446744073709551616 * c2 = cl * m2 + l2 + c1)
    (e3 : l3 + 18446744073709551616 * o3 = x * y3 + t3 + o2) (f3 : n2 + 18446744073709551616 * c3 = cl * m3 + l3 + c2) :
    18446744073709551616 * val4 n0 n1 n2 (o3 + c3) = val4 t0 t1 t2 t3 + x * val4 y0 y1 y2 y3 + cl * val4 m0 m1 m2 m3 := by
  unfold val4
  have ex : x * (y0 + 18446744073709551616 * (y1 + 18446744073709551616 * (y2 + 18446744073709551616 * y3))) = x * y0 + 18446744073709551616 * (x * y1 + 18446744073709551616 * (x * y2 + 18446744073709551616 * (x * y3))) := by
    simp only [Nat.mul_add, Nat.mul_left_comm x 18446744073709551616]
  have ec : cl * (m0 + 18446744073709551616 * (m1 + 18446744073709551616 * (m2 + 18446744073709551616 * m3))) = cl * m0 + 18446744073709551616 * (cl * m1 + 18446744073709551616 * (cl * m2 + 18446744073709551616 * (cl * m3))) := by
    simp only [Nat.mul_add, Nat.mul_left_comm cl 18446744073709551616]
  rw [ex, ec]
  generalize x * y0 = p0 at *
  generalize x * y1 = p1 at *
  generalize x * y2 = p2 at *
  generalize x * y3 = p3 at *
  generalize cl * m0 = q0 at *
  generalize cl * m1 = q1 at *
  generalize cl * m2 = q2 at *
  generalize cl * m3 = q3 at *
  omega
theorem clear_zero {l inv m : Nat} (h : (inv * m + 1) % 18446744073709551616 = 0) : (l * inv % 18446744073709551616 * m + l) % 18446744073709551616 = 0 := by
  have e : l * inv * m + l = l * (inv * m + 1) := by rw [Nat.mul_add, Nat.mul_one, Nat.mul_assoc]
  rw [Nat.add_mod, Nat.mul_mod, Nat.mod_mod, ← Nat.mul_mod, ← Nat.add_mod, e, Nat.mul_mod, h, Nat.mul_zero, Nat.zero_mod]
theorem round_bound {N T x Y cl M : Nat} (e : 18446744073709551616 * N = T + x * Y + cl * M) (ht : T < 2 * M) (hx : x < 18446744073709551616) (hy : Y < M) (hc : cl < 18446744073709551616) : N < 2 * M := by
  have h1 := mul_le (show x ≤ 18446744073709551615 by omega) (show Y ≤ M by omega)
  have h2 := Nat.mul_le_mul_right M (show cl ≤ 18446744073709551615 by omega)
  generalize x * Y = p at *
  generalize cl * M = q at *
  omega
theorem val4_top {n0 n1 n2 s B : Nat} (h : val4 n0 n1 n2 s < 115792089237316195423570985008687907853269984665640564039457584007913129639936) : s < 18446744073709551616 := by
  unfold val4 at h; omega

/-- the first k words' product, divided k times by 2^64: what is gathered -/
def Gath (M : Nat) (X : Nat → Nat) (Y k T : Nat) : Prop := T < 2 * M ∧ ∃ q, T * 18446744073709551616 ^ k = (X 0 * (if 0 < k then 1 else 0) + 18446744073709551616 * (X 1 * (if 1 < k then 1 else 0) + 18446744073709551616 * (X 2 * (if 2 < k then 1 else 0) + 18446744073709551616 * (X 3 * (if 3 < k then 1 else 0))))) * Y + q * M
theorem gath_zero {M Y : Nat} (X : Nat → Nat) (hM : 0 < M) : Gath M X Y 0 0 := ⟨by omega, 0, by simp⟩
theorem gath_step {M Y T N cl : Nat} {X : Nat → Nat} {k : Nat} (hk : k < 4) (g : Gath M X Y k T) (hx : X k < 18446744073709551616) (hy : Y < M) (hc : cl < 18446744073709551616) (e : 18446744073709551616 * N = T + X k * Y + cl * M) : Gath M X Y (k + 1) N := by
  obtain ⟨ht, q, h⟩ := g
  refine ⟨round_bound e ht hx hy hc, q + cl * 18446744073709551616 ^ k, ?_⟩
  have e' : N * 18446744073709551616 ^ (k + 1) = T * 18446744073709551616 ^ k + X k * Y * 18446744073709551616 ^ k + cl * M * 18446744073709551616 ^ k := by
    rw [Nat.pow_succ', ← Nat.mul_assoc, Nat.mul_comm N, e, Nat.add_mul, Nat.add_mul]
  rw [e', h]
  have : k = 0 ∨ k = 1 ∨ k = 2 ∨ k = 3 := by omega
  have hxa : ∀ b : Nat, X k * Y * b = b * (X k * Y) := fun b => Nat.mul_comm _ _
  have hca : ∀ b : Nat, cl * M * b = b * (cl * M) := fun b => Nat.mul_comm _ _
  have hqa : ∀ b : Nat, (q + cl * b) * M = q * M + b * (cl * M) := fun b => by rw [Nat.add_mul, Nat.mul_right_comm, Nat.mul_comm (cl * M)]
  rw [hxa, hca, hqa]
  rcases this with rfl | rfl | rfl | rfl <;> simp [Nat.add_mul, Nat.mul_assoc] <;> omega
/-- the end of a product: what is gathered is it, divided by 2^256, but for multiples -/
theorem gath_end {F : FC} (hF : F.Ok) {Y T x0 x1 x2 x3 : Nat} {X : Nat → Nat} (h0 : X 0 = x0) (h1 : X 1 = x1) (h2 : X 2 = x2) (h3 : X 3 = x3) (g : Gath F.M X Y 4 T) : T < 2 * F.M ∧ T % F.M = val4 x0 x1 x2 x3 * Y * F.Ri % F.M := by
  obtain ⟨ht, q, h⟩ := g
  refine ⟨ht, ?_⟩
  simp only [h0, h1, h2, h3, show (0 : Nat) < 4 by omega, show (1 : Nat) < 4 by omega, show (2 : Nat) < 4 by omega, show (3 : Nat) < 4 by omega, if_true, Nat.mul_one] at h
  have hr := hF.ri
  have hR : F.R = 18446744073709551616 ^ 4 := by simp [FC.R]
  have e : T * (F.R * F.Ri) = val4 x0 x1 x2 x3 * Y * F.Ri + F.M * (q * F.Ri) := by
    rw [← Nat.mul_assoc, hR, h, Nat.add_mul, show q * F.M * F.Ri = F.M * (q * F.Ri) by rw [Nat.mul_comm q, Nat.mul_assoc]]
    rfl
  have e2 : T * (F.R * F.Ri) % F.M = T % F.M := by rw [Nat.mul_mod, hr, Nat.mul_one, Nat.mod_mod]
  rw [← e2, e, Nat.add_mul_mod_self_left]
theorem once_mod {t M : Nat} (h : t < 2 * M) : t % M = if t < M then t else t - M := by
  split
  · exact Nat.mod_eq_of_lt ‹_›
  · rw [Nat.mod_eq_sub_mod (by omega), Nat.mod_eq_of_lt (by omega)]
end Go.Proofs.Ytgacpjmggdmgdaa
