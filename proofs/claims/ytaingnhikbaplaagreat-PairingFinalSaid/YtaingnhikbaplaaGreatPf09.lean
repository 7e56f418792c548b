/-
  The two moduli are primes, with a root each: certificates, checked by the kernel. Conditions: none.
  Plain numbers: what follows where whatever is not 0 is a power of one root: Fermat, opposites, squares and roots. No program in sight. Conditions: none.
  Plain numbers: elements that are kept times 2^256, their products and what they stand for. No program in sight. Conditions: none.
  Elements are kept and told back: the calls into, out, one, product. Conditions: words below 2^64, elements below the modulus, the constants in a block of memory.
  Plain numbers behind shifts of four words, their joining and their length. No program in sight. Conditions: as each lemma says.
  The call of limbs.Len: how many bits a number of four words has. Conditions: each word below 2^64.
  Plain numbers behind the reference's bit by bit: the bit of a number of four words is a bit of one of its words; a bit more; shifts, quotients and rests bit by bit. No program in sight. Conditions: none.
  The calls of the reference's Bit and put, and of limbs.Bit: for any number of four words and any place, in any world. Conditions: each word below 2^64; a bit that is put was not there.
-/
import Derived.KernelRfl
import Derived.Deep.RegionWith
import Derived.Lib.Hide
import Derived.Below
import Derived.LoopTactic
import Derived.Outline
import Derived.Test.YtaingnhikbaplaaGreatPf05
import Derived.Test.YtaingnhikbaplaaGreatPf00
import Derived.Test.YtaingnhikbaplaaGreatPf08
import Derived.Test.YtaingnhikbaplaaGreatPf07
import Derived.Test.YtaingnhikbaplaaGreatPf06
namespace Go.Proofs.YtaingnhikbaplaaGreat
set_option linter.unusedVariables false
set_option maxRecDepth 100000

theorem prm_2 : Prm 2 := prm_small 2 1 (by decide) (by decide) (by kernel_rfl)
theorem prm_3 : Prm 3 := prm_small 3 1 (by decide) (by decide) (by kernel_rfl)
theorem prm_13 : Prm 13 := prm_small 13 3 (by decide) (by decide) (by kernel_rfl)
theorem prm_29 : Prm 29 := prm_small 29 5 (by decide) (by decide) (by kernel_rfl)
theorem prm_67 : Prm 67 := prm_small 67 8 (by decide) (by decide) (by kernel_rfl)
theorem prm_229 : Prm 229 := prm_small 229 15 (by decide) (by decide) (by kernel_rfl)
theorem prm_311 : Prm 311 := prm_small 311 17 (by decide) (by decide) (by kernel_rfl)
theorem prm_983 : Prm 983 := prm_small 983 31 (by decide) (by decide) (by kernel_rfl)
theorem prm_11003 : Prm 11003 := prm_small 11003 104 (by decide) (by decide) (by kernel_rfl)
theorem prm_11 : Prm 11 := prm_small 11 3 (by decide) (by decide) (by kernel_rfl)
theorem prm_3691 : Prm 3691 := prm_small 3691 60 (by decide) (by decide) (by kernel_rfl)
theorem prm_4999 : Prm 4999 := prm_small 4999 70 (by decide) (by decide) (by kernel_rfl)
theorem root_405928799 : Root 405928799 22 := by
  refine root_cert (l := [2, 11, 3691, 4999]) (by kernel_rfl) fun q hq => ?_
  simp only [List.mem_cons, List.not_mem_nil, or_false] at hq
  rcases hq with rfl | rfl | rfl | rfl
  · exact prm_2
  · exact prm_11
  · exact prm_3691
  · exact prm_4999
theorem prm_405928799 : Prm 405928799 := root_405928799.prm
theorem prm_5 : Prm 5 := prm_small 5 2 (by decide) (by decide) (by kernel_rfl)
theorem prm_7 : Prm 7 := prm_small 7 2 (by decide) (by decide) (by kernel_rfl)
theorem prm_19 : Prm 19 := prm_small 19 4 (by decide) (by decide) (by kernel_rfl)
theorem prm_37 : Prm 37 := prm_small 37 6 (by decide) (by decide) (by kernel_rfl)
theorem prm_233 : Prm 233 := prm_small 233 15 (by decide) (by decide) (by kernel_rfl)
theorem root_327599 : Root 327599 19 := by
  refine root_cert (l := [2, 19, 37, 233]) (by kernel_rfl) fun q hq => ?_
  simp only [List.mem_cons, List.not_mem_nil, or_false] at hq
  rcases hq with rfl | rfl | rfl | rfl
  · exact prm_2
  · exact prm_19
  · exact prm_37
  · exact prm_233
theorem prm_327599 : Prm 327599 := root_327599.prm
theorem root_11465965001 : Root 11465965001 3 := by
  refine root_cert (l := [2, 2, 2, 5, 5, 5, 5, 7, 327599]) (by kernel_rfl) fun q hq => ?_
  simp only [List.mem_cons, List.not_mem_nil, or_false] at hq
  rcases hq with rfl | rfl | rfl | rfl | rfl | rfl | rfl | rfl | rfl
  · exact prm_2
  · exact prm_2
  · exact prm_2
  · exact prm_5
  · exact prm_5
  · exact prm_5
  · exact prm_5
  · exact prm_7
  · exact prm_327599
theorem prm_11465965001 : Prm 11465965001 := root_11465965001.prm
theorem prm_271 : Prm 271 := prm_small 271 16 (by decide) (by decide) (by kernel_rfl)
theorem root_1853641 : Root 1853641 17 := by
  refine root_cert (l := [2, 2, 2, 3, 3, 5, 19, 271]) (by kernel_rfl) fun q hq => ?_
  simp only [List.mem_cons, List.not_mem_nil, or_false] at hq
  rcases hq with rfl | rfl | rfl | rfl | rfl | rfl | rfl | rfl
  · exact prm_2
  · exact prm_2
  · exact prm_2
  · exact prm_3
  · exact prm_3
  · exact prm_5
  · exact prm_19
  · exact prm_271
theorem prm_1853641 : Prm 1853641 := root_1853641.prm
theorem prm_17 : Prm 17 := prm_small 17 4 (by decide) (by decide) (by kernel_rfl)
theorem prm_109 : Prm 109 := prm_small 109 10 (by decide) (by decide) (by kernel_rfl)
theorem prm_1231 : Prm 1231 := prm_small 1231 35 (by decide) (by decide) (by kernel_rfl)
theorem root_4562087 : Root 4562087 5 := by
  refine root_cert (l := [2, 17, 109, 1231]) (by kernel_rfl) fun q hq => ?_
  simp only [List.mem_cons, List.not_mem_nil, or_false] at hq
  rcases hq with rfl | rfl | rfl | rfl
  · exact prm_2
  · exact prm_17
  · exact prm_109
  · exact prm_1231
theorem prm_4562087 : Prm 4562087 := root_4562087.prm
theorem prm_73 : Prm 73 := prm_small 73 8 (by decide) (by decide) (by kernel_rfl)
theorem prm_89 : Prm 89 := prm_small 89 9 (by decide) (by decide) (by kernel_rfl)
theorem prm_13327 : Prm 13327 := prm_small 13327 115 (by decide) (by decide) (by kernel_rfl)
theorem root_173171039 : Root 173171039 13 := by
  refine root_cert (l := [2, 73, 89, 13327]) (by kernel_rfl) fun q hq => ?_
  simp only [List.mem_cons, List.not_mem_nil, or_false] at hq
  rcases hq with rfl | rfl | rfl | rfl
  · exact prm_2
  · exact prm_73
  · exact prm_89
  · exact prm_13327
theorem prm_173171039 : Prm 173171039 := root_173171039.prm
theorem prm_41 : Prm 41 := prm_small 41 6 (by decide) (by decide) (by kernel_rfl)
theorem prm_911 : Prm 911 := prm_small 911 30 (by decide) (by decide) (by kernel_rfl)
theorem prm_3557 : Prm 3557 := prm_small 3557 59 (by decide) (by decide) (by kernel_rfl)
theorem root_1263766531 : Root 1263766531 10 := by
  refine root_cert (l := [2, 3, 5, 13, 911, 3557]) (by kernel_rfl) fun q hq => ?_
  simp only [List.mem_cons, List.not_mem_nil, or_false] at hq
  rcases hq with rfl | rfl | rfl | rfl | rfl | rfl
  · exact prm_2
  · exact prm_3
  · exact prm_5
  · exact prm_13
  · exact prm_911
  · exact prm_3557
theorem prm_1263766531 : Prm 1263766531 := root_1263766531.prm
theorem root_35385462869 : Root 35385462869 2 := by
  refine root_cert (l := [2, 2, 7, 1263766531]) (by kernel_rfl) fun q hq => ?_
  simp only [List.mem_cons, List.not_mem_nil, or_false] at hq
  rcases hq with rfl | rfl | rfl | rfl
  · exact prm_2
  · exact prm_2
  · exact prm_7
  · exact prm_1263766531
theorem prm_35385462869 : Prm 35385462869 := root_35385462869.prm
theorem root_2480874801745591 : Root 2480874801745591 6 := by
  refine root_cert (l := [2, 3, 3, 5, 19, 41, 35385462869]) (by kernel_rfl) fun q hq => ?_
  simp only [List.mem_cons, List.not_mem_nil, or_false] at hq
  rcases hq with rfl | rfl | rfl | rfl | rfl | rfl | rfl
  · exact prm_2
  · exact prm_3
  · exact prm_3
  · exact prm_5
  · exact prm_19
  · exact prm_41
  · exact prm_35385462869
theorem prm_2480874801745591 : Prm 2480874801745591 := root_2480874801745591.prm
theorem root_13427688667394608761327070753331941386769 : Root 13427688667394608761327070753331941386769 17 := by
  refine root_cert (l := [2, 2, 2, 2, 3, 7, 11, 1853641, 4562087, 173171039, 2480874801745591]) (by kernel_rfl) fun q hq => ?_
  simp only [List.mem_cons, List.not_mem_nil, or_false] at hq
  rcases hq with rfl | rfl | rfl | rfl | rfl | rfl | rfl | rfl | rfl | rfl | rfl
  · exact prm_2
  · exact prm_2
  · exact prm_2
  · exact prm_2
  · exact prm_3
  · exact prm_7
  · exact prm_11
  · exact prm_1853641
  · exact prm_4562087
  · exact prm_173171039
  · exact prm_2480874801745591
theorem prm_13427688667394608761327070753331941386769 : Prm 13427688667394608761327070753331941386769 := root_13427688667394608761327070753331941386769.prm
theorem root_P : Root 21888242871839275222246405745257275088696311157297823662689037894645226208583 3 := by
  refine root_cert (l := [2, 3, 3, 13, 29, 67, 229, 311, 983, 11003, 405928799, 11465965001, 13427688667394608761327070753331941386769]) (by kernel_rfl) fun q hq => ?_
  simp only [List.mem_cons, List.not_mem_nil, or_false] at hq
  rcases hq with rfl | rfl | rfl | rfl | rfl | rfl | rfl | rfl | rfl | rfl | rfl | rfl | rfl
  · exact prm_2
  · exact prm_3
  · exact prm_3
  · exact prm_13
  · exact prm_29
  · exact prm_67
  · exact prm_229
  · exact prm_311
  · exact prm_983
  · exact prm_11003
  · exact prm_405928799
  · exact prm_11465965001
  · exact prm_13427688667394608761327070753331941386769
theorem prm_449 : Prm 449 := prm_small 449 21 (by decide) (by decide) (by kernel_rfl)
theorem root_237073 : Root 237073 15 := by
  refine root_cert (l := [2, 2, 2, 2, 3, 11, 449]) (by kernel_rfl) fun q hq => ?_
  simp only [List.mem_cons, List.not_mem_nil, or_false] at hq
  rcases hq with rfl | rfl | rfl | rfl | rfl | rfl | rfl
  · exact prm_2
  · exact prm_2
  · exact prm_2
  · exact prm_2
  · exact prm_3
  · exact prm_11
  · exact prm_449
theorem prm_237073 : Prm 237073 := root_237073.prm
theorem prm_107 : Prm 107 := prm_small 107 10 (by decide) (by decide) (by kernel_rfl)
theorem prm_661 : Prm 661 := prm_small 661 25 (by decide) (by decide) (by kernel_rfl)
theorem prm_93001 : Prm 93001 := prm_small 93001 304 (by decide) (by decide) (by kernel_rfl)
theorem root_12048837557 : Root 12048837557 2 := by
  refine root_cert (l := [2, 2, 7, 7, 661, 93001]) (by kernel_rfl) fun q hq => ?_
  simp only [List.mem_cons, List.not_mem_nil, or_false] at hq
  rcases hq with rfl | rfl | rfl | rfl | rfl | rfl
  · exact prm_2
  · exact prm_2
  · exact prm_7
  · exact prm_7
  · exact prm_661
  · exact prm_93001
theorem prm_12048837557 : Prm 12048837557 := root_12048837557.prm
theorem root_5156902474397 : Root 5156902474397 2 := by
  refine root_cert (l := [2, 2, 107, 12048837557]) (by kernel_rfl) fun q hq => ?_
  simp only [List.mem_cons, List.not_mem_nil, or_false] at hq
  rcases hq with rfl | rfl | rfl | rfl
  · exact prm_2
  · exact prm_2
  · exact prm_107
  · exact prm_12048837557
theorem prm_5156902474397 : Prm 5156902474397 := root_5156902474397.prm
theorem root_1670836401704629 : Root 1670836401704629 2 := by
  refine root_cert (l := [2, 2, 3, 3, 3, 3, 5156902474397]) (by kernel_rfl) fun q hq => ?_
  simp only [List.mem_cons, List.not_mem_nil, or_false] at hq
  rcases hq with rfl | rfl | rfl | rfl | rfl | rfl | rfl
  · exact prm_2
  · exact prm_2
  · exact prm_3
  · exact prm_3
  · exact prm_3
  · exact prm_3
  · exact prm_5156902474397
theorem prm_1670836401704629 : Prm 1670836401704629 := root_1670836401704629.prm
theorem prm_823 : Prm 823 := prm_small 823 28 (by decide) (by decide) (by kernel_rfl)
theorem prm_41927 : Prm 41927 := prm_small 41927 204 (by decide) (by decide) (by kernel_rfl)
theorem root_1593227 : Root 1593227 2 := by
  refine root_cert (l := [2, 19, 41927]) (by kernel_rfl) fun q hq => ?_
  simp only [List.mem_cons, List.not_mem_nil, or_false] at hq
  rcases hq with rfl | rfl | rfl
  · exact prm_2
  · exact prm_19
  · exact prm_41927
theorem prm_1593227 : Prm 1593227 := root_1593227.prm
theorem prm_83 : Prm 83 := prm_small 83 9 (by decide) (by decide) (by kernel_rfl)
theorem prm_379 : Prm 379 := prm_small 379 19 (by decide) (by decide) (by kernel_rfl)
theorem prm_1637 : Prm 1637 := prm_small 1637 40 (by decide) (by decide) (by kernel_rfl)
theorem prm_853 : Prm 853 := prm_small 853 29 (by decide) (by decide) (by kernel_rfl)
theorem root_639533339 : Root 639533339 2 := by
  refine root_cert (l := [2, 229, 853, 1637]) (by kernel_rfl) fun q hq => ?_
  simp only [List.mem_cons, List.not_mem_nil, or_false] at hq
  rcases hq with rfl | rfl | rfl | rfl
  · exact prm_2
  · exact prm_229
  · exact prm_853
  · exact prm_1637
theorem prm_639533339 : Prm 639533339 := root_639533339.prm
theorem root_65865678001877903 : Root 65865678001877903 5 := by
  refine root_cert (l := [2, 83, 379, 1637, 639533339]) (by kernel_rfl) fun q hq => ?_
  simp only [List.mem_cons, List.not_mem_nil, or_false] at hq
  rcases hq with rfl | rfl | rfl | rfl | rfl
  · exact prm_2
  · exact prm_83
  · exact prm_379
  · exact prm_1637
  · exact prm_639533339
theorem prm_65865678001877903 : Prm 65865678001877903 := root_65865678001877903.prm
theorem root_13818364434197438864469338081 : Root 13818364434197438864469338081 3 := by
  refine root_cert (l := [2, 2, 2, 2, 2, 5, 823, 1593227, 65865678001877903]) (by kernel_rfl) fun q hq => ?_
  simp only [List.mem_cons, List.not_mem_nil, or_false] at hq
  rcases hq with rfl | rfl | rfl | rfl | rfl | rfl | rfl | rfl | rfl
  · exact prm_2
  · exact prm_2
  · exact prm_2
  · exact prm_2
  · exact prm_2
  · exact prm_5
  · exact prm_823
  · exact prm_1593227
  · exact prm_65865678001877903
theorem prm_13818364434197438864469338081 : Prm 13818364434197438864469338081 := root_13818364434197438864469338081.prm
theorem root_R : Root 21888242871839275222246405745257275088548364400416034343698204186575808495617 5 := by
  refine root_cert (l := [2, 2, 2, 2, 2, 2, 2, 2, 2, 2, 2, 2, 2, 2, 2, 2, 2, 2, 2, 2, 2, 2, 2, 2, 2, 2, 2, 2, 3, 3, 13, 29, 983, 11003, 237073, 405928799, 1670836401704629, 13818364434197438864469338081]) (by kernel_rfl) fun q hq => ?_
  simp only [List.mem_cons, List.not_mem_nil, or_false] at hq
  rcases hq with rfl | rfl | rfl | rfl | rfl | rfl | rfl | rfl | rfl | rfl | rfl | rfl | rfl | rfl | rfl | rfl | rfl | rfl | rfl | rfl | rfl | rfl | rfl | rfl | rfl | rfl | rfl | rfl | rfl | rfl | rfl | rfl | rfl | rfl | rfl | rfl | rfl | rfl
  · exact prm_2
  · exact prm_2
  · exact prm_2
  · exact prm_2
  · exact prm_2
  · exact prm_2
  · exact prm_2
  · exact prm_2
  · exact prm_2
  · exact prm_2
  · exact prm_2
  · exact prm_2
  · exact prm_2
  · exact prm_2
  · exact prm_2
  · exact prm_2
  · exact prm_2
  · exact prm_2
  · exact prm_2
  · exact prm_2
  · exact prm_2
  · exact prm_2
  · exact prm_2
  · exact prm_2
  · exact prm_2
  · exact prm_2
  · exact prm_2
  · exact prm_2
  · exact prm_3
  · exact prm_3
  · exact prm_13
  · exact prm_29
  · exact prm_983
  · exact prm_11003
  · exact prm_237073
  · exact prm_405928799
  · exact prm_1670836401704629
  · exact prm_13818364434197438864469338081
end Go.Proofs.YtaingnhikbaplaaGreat
namespace Go.Proofs.YtaingnhikbaplaaGreat
set_option linter.unusedVariables false

section
variable {M g : Nat}
theorem pmod_mod (a n : Nat) : (a % M) ^ n % M = a ^ n % M := (Nat.pow_mod a n M).symm
theorem mul_mod_l (a b : Nat) : a % M * b % M = a * b % M := by rw [Nat.mul_mod, Nat.mod_mod, ← Nat.mul_mod]
theorem mul_mod_r (a b : Nat) : a * (b % M) % M = a * b % M := by rw [Nat.mul_mod, Nat.mod_mod, ← Nat.mul_mod]
theorem fermat (hr : Root M g) {a : Nat} (h0 : 0 < a) (h : a < M) : a ^ (M - 1) % M = 1 := by
  obtain ⟨h1, hg, _, hs⟩ := hr
  obtain ⟨k, hk, rfl⟩ := hs a h0 h
  rw [pmod_mod, ← Nat.pow_mul, Nat.mul_comm, pow_mul_one h1 hg]
theorem inv_mul (hr : Root M g) {a : Nat} (h2 : 2 ≤ M) (h0 : 0 < a) (h : a < M) : a * (a ^ (M - 2) % M) % M = 1 := by
  rw [mul_mod_r, ← Nat.pow_succ', show (M - 2).succ = M - 1 by omega, fermat hr h0 h]
theorem cancel_l (hr : Root M g) {a b c : Nat} (h2 : 2 ≤ M) (h0 : 0 < a) (h : a < M) (e : a * b % M = a * c % M) : b % M = c % M := by
  have hi := inv_mul hr h2 h0 h
  have key : ∀ x, a ^ (M - 2) % M * (a * x % M) % M = x % M := fun x => by
    rw [mul_mod_r, ← Nat.mul_assoc, Nat.mul_mod, Nat.mul_comm _ a, hi, Nat.one_mul, Nat.mod_mod]
  rw [← key b, e, key c]
theorem zero_div (hr : Root M g) {a b : Nat} (h2 : 2 ≤ M) (h0 : 0 < a) (h : a < M) (e : a * b % M = 0) : b % M = 0 := by
  have := cancel_l hr (c := 0) h2 h0 h (by rw [e, Nat.mul_zero, Nat.zero_mod])
  rw [this, Nat.zero_mod]
theorem mul_ne (hr : Root M g) {a b : Nat} (h2 : 2 ≤ M) (ha0 : 0 < a) (ha : a < M) (hb0 : 0 < b) (hb : b < M) : 0 < a * b % M := by
  rcases Nat.eq_zero_or_pos (a * b % M) with h | h
  · have := zero_div hr h2 ha0 ha h
    rw [Nat.mod_eq_of_lt hb] at this; omega
  · exact h
end
end Go.Proofs.YtaingnhikbaplaaGreat
namespace Go.Proofs.YtaingnhikbaplaaGreat
set_option linter.unusedVariables false

/-- an element as it is kept -/
def kp (F : FC) (a : Nat) : Nat := a * F.R % F.M
section
variable {F : FC}
theorem kp_lt (hF : F.Ok) (a : Nat) : kp F a < F.M := Nat.mod_lt _ (by have := hF.gt; omega)
theorem ri_cancel (hF : F.Ok) (x : Nat) : x * F.R * F.Ri % F.M = x % F.M := by
  rw [Nat.mul_assoc, Nat.mul_mod, hF.ri, Nat.mul_one, Nat.mod_mod]
theorem cg_mul {M a b c d : Nat} (h : a % M = b % M) (h' : c % M = d % M) : a * c % M = b * d % M := by rw [Nat.mul_mod, h, h', ← Nat.mul_mod]
theorem cg_mod (M a : Nat) : a % M % M = a % M := Nat.mod_mod _ _
theorem kp_times (hF : F.Ok) (a b : Nat) : kp F a * kp F b * F.Ri % F.M = kp F (a * b % F.M) := by
  have h : kp F a * kp F b * F.Ri % F.M = a * F.R * (b * F.R) * F.Ri % F.M := cg_mul (cg_mul (cg_mod _ _) (cg_mod _ _)) rfl
  have e : a * F.R * (b * F.R) = a * b * F.R * F.R := by rw [Nat.mul_mul_mul_comm, Nat.mul_assoc (a * b)]
  rw [h, e, ri_cancel hF]
  unfold kp
  rw [mul_mod_l]
theorem kp_into (hF : F.Ok) (a : Nat) : a * val4 F.s0 F.s1 F.s2 F.s3 * F.Ri % F.M = kp F a := by
  have h : a * val4 F.s0 F.s1 F.s2 F.s3 * F.Ri % F.M = a * (F.R * F.R) * F.Ri % F.M := by rw [hF.sq]; exact cg_mul (cg_mul rfl (cg_mod _ _)) rfl
  rw [h, ← Nat.mul_assoc, ri_cancel hF]
  rfl
theorem kp_product (hF : F.Ok) (a b : Nat) : kp F a * b * F.Ri % F.M = a * b % F.M := by
  have h : kp F a * b * F.Ri % F.M = a * F.R * b * F.Ri % F.M := cg_mul (cg_mul (cg_mod _ _) rfl) rfl
  rw [h, Nat.mul_right_comm a, ri_cancel hF]
theorem kp_mod (F : FC) (a : Nat) : kp F (a % F.M) = kp F a := by unfold kp; rw [mul_mod_l]
/-- a power, by the bits ahead: one more bit -/
theorem kp_pow_step (F : FC) (a n b : Nat) (h : b = 0 ∨ b = 1) : (b = 0 → kp F (a ^ (2 * n + b)) = kp F (a ^ n * a ^ n % F.M)) ∧ (b = 1 → kp F (a ^ (2 * n + b)) = kp F (a ^ n * a ^ n % F.M * a % F.M)) := by
  have e : a ^ (2 * n) = a ^ n * a ^ n := by rw [Nat.two_mul, Nat.pow_add]
  refine ⟨fun h => ?_, fun h => ?_⟩
  · subst h; rw [Nat.add_zero, kp_mod, e]
  · subst h; rw [kp_mod, Nat.pow_succ, e, ← kp_mod F (_ % _ * a), mul_mod_l, kp_mod]
end
end Go.Proofs.YtaingnhikbaplaaGreat
namespace Go.Proofs.YtaingnhikbaplaaGreat
set_option linter.unusedVariables false
set_option linter.unusedSimpArgs false
open Go.RowKit

theorem FC.Ok.sqlt {F : FC} (hF : F.Ok) : val4 F.s0 F.s1 F.s2 F.s3 < F.M := by rw [hF.sq]; exact Nat.mod_lt _ (by have := hF.gt; omega)
theorem FC.Ok.pos {F : FC} (hF : F.Ok) : 0 < F.M := by have := hF.gt; omega

set_option maxRecDepth 100000 in
set_option maxHeartbeats 1000000 in
theorem into_calls (F : FC) (hF : F.Ok) (b a0 a1 a2 a3 : Nat) (ha : ok4 a0 a1 a2 a3) (w : World) (hk : KIs w b F) :
    Calls Tryz.prog 193 #[.pointer (some ⟨b, 0, none⟩), .agg #[.int .u64 a0, .int .u64 a1, .int .u64 a2, .int .u64 a3]] w (FePost (kp F (val4 a0 a1 a2 a3)) w) := by
  have HK := Lib.hid hk
  have HF := Lib.hid hF
  have hL := hk.lt
  have hL1 : b < w.heap.size + 1 := by omega
  have hL2 : b < w.heap.size + 1 + 1 := by omega
  have k5 := hk.k5; have k6 := hk.k6; have k7 := hk.k7; have k8 := hk.k8
  clear hk hF
  go_enter Tryz.func193, Tryz.ntmps193
  go_wp2_with fail
  go_region_with (go_at_call 245; refine (times_calls F HF.out b a0 a1 a2 a3 F.s0 F.s1 F.s2 F.s3 ha HF.out.oks HF.out.sqlt _ (HK.out.same (by repeat (first | exact Below.refl _ _ | refine Below.drew ?_ | refine Below.trans ?_ (below_drewN' _ _ _) | refine Below.alloc ?_ (by first | (simp; done) | (simp; omega)) _)))).mono ?_; rintro e ws ⟨s0, s1, s2, s3, rfl, hs, hv, hbl⟩; have HVs := Lib.hid hv; obtain ⟨hcs, hfs⟩ := bcell hbl; have hzs : w.heap.size + 1 < ws.heap.size := by { have := hbl.size; simp at this; omega }; have HBLs := Lib.hid hbl; clear hv hbl)
  all_goals (
    go_wp2_with fail
    refine bodyPost_ret (v := .agg #[.int .u64 s0, .int .u64 s1, .int .u64 s2, .int .u64 s3]) (by simp [results, Tryz.results193, go_sem, *]) rfl ?_
    refine ⟨_, _, _, _, rfl, hs, HVs.out.trans (kp_into HF.out _), ?_⟩
    refine below_set4 (Below.trans ?_ (HBLs.out.mono (by first | (simp; done) | (simp; omega)))) (by omega) _ _ _ _
    repeat (first | exact Below.refl _ _ | refine Below.drew ?_ | refine Below.trans ?_ (below_drewN' _ _ _) | refine Below.alloc ?_ (by first | (simp; done) | (simp; omega)) _)
  )
theorem of_calls (n : Nat) (hn : n < 18446744073709551616) (w : World) : Calls Tryz.prog 119 #[.int .u64 n] w fun e w' => e = .returned (.agg #[.int .u64 n, .int .u64 0, .int .u64 0, .int .u64 0]) ∧ Below w.heap.size w w' := by
  go_enter Tryz.func119, Tryz.ntmps119
  go_wp2_with fail
  refine bodyPost_ret (v := .agg #[.int .u64 n, .int .u64 0, .int .u64 0, .int .u64 0]) (by simp [results, Tryz.results119, go_sem]) rfl ?_
  exact ⟨rfl, by repeat (first | exact Below.refl _ _ | refine Below.drew ?_ | refine Below.alloc ?_ (by first | (simp; done) | (simp; omega)) _ | refine Below.setCell ?_ (by simp) _)⟩
set_option maxRecDepth 100000 in
set_option maxHeartbeats 1000000 in
theorem one_calls (F : FC) (hF : F.Ok) (b : Nat)  (w : World) (hk : KIs w b F) :
    Calls Tryz.prog 246 #[.pointer (some ⟨b, 0, none⟩)] w (FePost (kp F 1) w) := by
  have HK := Lib.hid hk
  have HF := Lib.hid hF
  have hL := hk.lt
  have hL1 : b < w.heap.size + 1 := by omega
  have hL2 : b < w.heap.size + 1 + 1 := by omega
  clear hk hF
  go_enter Tryz.func246, Tryz.ntmps246
  go_wp2_with fail
  refine (of_calls 1 (by omega) _).mono ?_
  rintro e w1 ⟨rfl, hb1⟩
  have hz1 : w.heap.size < w1.heap.size := by have := hb1.size; simp at this; omega
  obtain ⟨hc1, hf1⟩ := bcell hb1
  have HB1 := Lib.hid hb1
  have HK1 := Lib.hid ((HK.out.same (by repeat (first | exact Below.refl _ _ | refine Below.drew ?_ | refine Below.trans ?_ (below_drewN' _ _ _) | refine Below.alloc ?_ (by first | (simp; done) | (simp; omega)) _)) : KIs (w.alloc _) b F).same hb1)
  clear hb1
  go_wp2_with fail
  refine (into_calls F HF.out b 1 0 0 0 ⟨by omega, by omega, by omega, by omega⟩ _ HK1.out).mono ?_
  rintro e ws ⟨s0, s1, s2, s3, rfl, hs, hv, hbl⟩
  have HVs := Lib.hid hv
  obtain ⟨hcs, hfs⟩ := bcell hbl
  have hzs : w.heap.size < ws.heap.size := by have := hbl.size; omega
  have HBLs := Lib.hid (HB1.out.trans (hbl.mono HB1.out.size))
  clear hv hbl
  go_wp2_with fail
  refine bodyPost_ret (v := .agg #[.int .u64 s0, .int .u64 s1, .int .u64 s2, .int .u64 s3]) (by simp [results, Tryz.results246, go_sem, *]) rfl ?_
  refine ⟨_, _, _, _, rfl, hs, HVs.out, ?_⟩
  refine below_set4 (Below.trans ?_ (HBLs.out.mono (by first | (simp; done) | (simp; omega)))) (by omega) _ _ _ _
  repeat (first | exact Below.refl _ _ | refine Below.drew ?_ | refine Below.trans ?_ (below_drewN' _ _ _) | refine Below.alloc ?_ (by first | (simp; done) | (simp; omega)) _)

set_option maxRecDepth 100000 in
set_option maxHeartbeats 1000000 in
theorem product_calls (F : FC) (hF : F.Ok) (b a0 a1 a2 a3 b0 b1 b2 b3 : Nat) (ha : ok4 a0 a1 a2 a3) (hb : ok4 b0 b1 b2 b3) (lb : val4 b0 b1 b2 b3 < F.M) (w : World) (hk : KIs w b F) :
    Calls Tryz.prog 304 #[.pointer (some ⟨b, 0, none⟩), .agg #[.int .u64 a0, .int .u64 a1, .int .u64 a2, .int .u64 a3], .agg #[.int .u64 b0, .int .u64 b1, .int .u64 b2, .int .u64 b3]] w (FePost (val4 a0 a1 a2 a3 * val4 b0 b1 b2 b3 % F.M) w) := by
  have HK := Lib.hid hk
  have HF := Lib.hid hF
  have hL := hk.lt
  have hL1 : b < w.heap.size + 1 := by omega
  have hL2 : b < w.heap.size + 1 + 1 := by omega
  have HLB := Lib.hid lb
  clear lb
  clear hk hF
  go_enter Tryz.func304, Tryz.ntmps304
  go_wp2_with fail
  go_region_with (first | (go_at_call 193; refine (into_calls F HF.out b a0 a1 a2 a3 ha _ (HK.out.same (by repeat (first | exact Below.refl _ _ | refine Below.drew ?_ | refine Below.trans ?_ (below_drewN' _ _ _) | refine Below.alloc ?_ (by first | (simp; done) | (simp; omega)) _)))).mono ?_; rintro e ws ⟨s0, s1, s2, s3, rfl, hs, hv, hbl⟩; have HVs := Lib.hid hv; obtain ⟨hcs, hfs⟩ := bcell hbl; have hzs : w.heap.size + 1 + 1 < ws.heap.size := by { have := hbl.size; simp at this; omega }; have HBLs := Lib.hid hbl; clear hv hbl; have HKs := Lib.hid (KIs.same (F := F) (b := b) (HK.out.same (by repeat (first | exact Below.refl _ _ | refine Below.drew ?_ | refine Below.trans ?_ (below_drewN' _ _ _) | refine Below.alloc ?_ (by first | (simp; done) | (simp; omega)) _))) HBLs.out)) | (go_at_call 245; refine (times_calls F HF.out b s0 s1 s2 s3 b0 b1 b2 b3 hs hb HLB.out _ HKs.out).mono ?_; rintro e wp ⟨p0, p1, p2, p3, rfl, hp, hv, hbl⟩; have HVp := Lib.hid hv; obtain ⟨hcp, hfp⟩ := bcell hbl; have hzp : w.heap.size + 1 + 1 < wp.heap.size := by { have := hbl.size; omega }; have HBLp := Lib.hid (HBLs.out.trans (hbl.mono HBLs.out.size)); clear hv hbl))
  all_goals (
    go_wp2_with fail
    refine bodyPost_ret (v := .agg #[.int .u64 p0, .int .u64 p1, .int .u64 p2, .int .u64 p3]) (by simp [results, Tryz.results304, go_sem, *]) rfl ?_
    refine ⟨_, _, _, _, rfl, hp, HVp.out.trans (by rw [HVs.out]; exact kp_product HF.out _ _), ?_⟩
    refine below_set4 (Below.trans ?_ (HBLp.out.mono (by first | (simp; done) | (simp; omega)))) (by omega) _ _ _ _
    repeat (first | exact Below.refl _ _ | refine Below.drew ?_ | refine Below.trans ?_ (below_drewN' _ _ _) | refine Below.alloc ?_ (by first | (simp; done) | (simp; omega)) _)
  )
end Go.Proofs.YtaingnhikbaplaaGreat
namespace Go.Proofs.YtaingnhikbaplaaGreat
set_option linter.unusedVariables false
open Go.RowKit

/-- a word shifted up by p, as the words are laid: the lower part, and what leaves it -/
theorem ex_up {a p : Nat} (ha : a < 18446744073709551616) (hp : p ≤ 63) : ∃ lo hi : Nat, IntKind.u64.wrap ((a : Int) * 2 ^ p) = (lo : Int) ∧ (a : Int) / 2 ^ (64 - p) = (hi : Int) ∧
    lo < 18446744073709551616 ∧ hi < 18446744073709551616 ∧ Hid (lo + 18446744073709551616 * hi = a * 2 ^ p) ∧ Hid (hi < 2 ^ p) ∧ Hid (∃ t, lo = 2 ^ p * t) := by
  have hps := pow_split p hp
  have hpos : 0 < 2 ^ p := Nat.two_pow_pos p
  have hd : a * 2 ^ p / 18446744073709551616 = a / 2 ^ (64 - p) := by rw [← hps]; exact Nat.mul_div_mul_right _ _ hpos
  have hh : a / 2 ^ (64 - p) < 2 ^ p := by rw [Nat.div_lt_iff_lt_mul (Nat.two_pow_pos _), Nat.mul_comm, hps]; exact ha
  refine ⟨a * 2 ^ p % 18446744073709551616, a / 2 ^ (64 - p), ?_, ?_, by omega, ?_, Lib.hid ?_, Lib.hid hh, Lib.hid ?_⟩
  · rw [cast_mul_pow, wrap_mod64]
  · rw [Int.natCast_ediv, Int.natCast_pow]; rfl
  · exact Nat.lt_of_le_of_lt (Nat.div_le_self _ _) ha
  · rw [← hd]; omega
  · refine ⟨a % 2 ^ (64 - p), ?_⟩
    rw [← hps, Nat.mul_mod_mul_right, Nat.mul_comm]
theorem ex_or {lo hi p : Nat} (hl : lo < 18446744073709551616) (hh : hi < 18446744073709551616) (h1 : Hid (hi < 2 ^ p)) (h2 : Hid (∃ t, lo = 2 ^ p * t)) : ∃ s : Nat, bits .or .u64 (lo : Int) (hi : Int) = (s : Int) ∧ s < 18446744073709551616 ∧ Hid (s = lo + hi) := by
  obtain ⟨t, ht⟩ := h2.out
  have e : lo ||| hi = lo + hi := by rw [ht, ← Nat.two_pow_add_eq_or_of_lt h1.out]
  refine ⟨lo + hi, by rw [bits_or_u64_nat _ _ hl hh, e], ?_, Lib.hid rfl⟩
  rw [← e]; exact Nat.or_lt_two_pow (n := 64) hl hh
/-- a word shifted down by p: the upper part, and what leaves it, laid above -/
theorem ex_down {a p : Nat} (ha : a < 18446744073709551616) (hp : p ≤ 63) : ∃ lo up : Nat, (a : Int) / 2 ^ p = (lo : Int) ∧ IntKind.u64.wrap ((a : Int) * 2 ^ (64 - p)) = (up : Int) ∧
    lo < 18446744073709551616 ∧ up < 18446744073709551616 ∧ Hid (∃ m, a = lo * 2 ^ p + m ∧ m < 2 ^ p ∧ up * 2 ^ p = m * 18446744073709551616) ∧ Hid (lo < 2 ^ (64 - p)) ∧ Hid (∃ t, up = 2 ^ (64 - p) * t) := by
  have hps := pow_split p hp
  have hpos : 0 < 2 ^ p := Nat.two_pow_pos p
  refine ⟨a / 2 ^ p, a % 2 ^ p * 2 ^ (64 - p), ?_, ?_, Nat.lt_of_le_of_lt (Nat.div_le_self _ _) ha, ?_, Lib.hid ⟨a % 2 ^ p, ?_, Nat.mod_lt _ hpos, ?_⟩, Lib.hid ?_, Lib.hid ⟨a % 2 ^ p, Nat.mul_comm _ _⟩⟩
  · rw [Int.natCast_ediv, Int.natCast_pow]; rfl
  · rw [cast_mul_pow, wrap_mod64]
    congr 1
    rw [show 18446744073709551616 = 2 ^ p * 2 ^ (64 - p) by rw [Nat.mul_comm, hps], Nat.mul_mod_mul_right]
  · have := Nat.mul_lt_mul_of_pos_right (Nat.mod_lt a hpos) (Nat.two_pow_pos (64 - p))
    rw [Nat.mul_comm (2 ^ p), hps] at this
    exact this
  · rw [Nat.mul_comm]; exact (Nat.div_add_mod a (2 ^ p)).symm
  · rw [Nat.mul_assoc, hps]
  · rw [Nat.div_lt_iff_lt_mul hpos, hps]; exact ha
theorem ex_or' {lo up k : Nat} (hl : lo < 18446744073709551616) (hu : up < 18446744073709551616) (h1 : Hid (lo < 2 ^ k)) (h2 : Hid (∃ t, up = 2 ^ k * t)) : ∃ s : Nat, bits .or .u64 (lo : Int) (up : Int) = (s : Int) ∧ s < 18446744073709551616 ∧ Hid (s = lo + up) := by
  obtain ⟨t, ht⟩ := h2.out
  have e : lo ||| up = lo + up := by rw [Nat.or_comm, ht, ← Nat.two_pow_add_eq_or_of_lt h1.out, Nat.add_comm]
  refine ⟨lo + up, by rw [bits_or_u64_nat _ _ hl hu, e], ?_, Lib.hid rfl⟩
  rw [← e]; exact Nat.or_lt_two_pow (n := 64) hl hu

theorem ex_n {n : Int} (h0 : 0 ≤ n) (q : Int) (h : n / 64 = q) (h1 : 0 ≤ q) : ∃ p : Nat, n % 64 = (p : Int) ∧ p ≤ 63 ∧ n.toNat = 64 * q.toNat + p :=
  ⟨(n % 64).toNat, by omega, by omega, by omega⟩
theorem pow_n (q p : Nat) : 2 ^ (64 * q + p) = 18446744073709551616 ^ q * 2 ^ p := by rw [Nat.pow_add, Nat.pow_mul]
theorem div_fin {r x T m : Nat} (h : r * T + m = x) (hm : m < T) : r = x / T := by
  subst h
  rw [Nat.mul_comm, Nat.mul_add_div (by omega), Nat.div_eq_of_lt hm, Nat.add_zero]

theorem or2 {a b A B : Nat} (ha : a < 18446744073709551616) (hb : b < 18446744073709551616) : (a ||| b) + 18446744073709551616 * (A ||| B) = (a + 18446744073709551616 * A) ||| (b + 18446744073709551616 * B) := by
  have h1 : a + 18446744073709551616 * A = 2 ^ 64 * A ||| a := by rw [← Nat.two_pow_add_eq_or_of_lt (show a < 2 ^ 64 from ha)]; omega
  have h2 : b + 18446744073709551616 * B = 2 ^ 64 * B ||| b := by rw [← Nat.two_pow_add_eq_or_of_lt (show b < 2 ^ 64 from hb)]; omega
  have h3 : (a ||| b) + 18446744073709551616 * (A ||| B) = 2 ^ 64 * (A ||| B) ||| (a ||| b) := by rw [← Nat.two_pow_add_eq_or_of_lt (Nat.or_lt_two_pow (n := 64) ha hb)]; omega
  have h4 : 2 ^ 64 * (A ||| B) = 2 ^ 64 * A ||| 2 ^ 64 * B := by
    rw [Nat.mul_comm _ (A ||| B), Nat.mul_comm _ A, Nat.mul_comm _ B, ← Nat.shiftLeft_eq, ← Nat.shiftLeft_eq, ← Nat.shiftLeft_eq, Nat.shiftLeft_or_distrib]
  rw [h1, h2, h3, h4]
  simp only [Nat.or_assoc]
  congr 1
  rw [← Nat.or_assoc, ← Nat.or_assoc, Nat.or_comm a]
theorem or4 {a0 a1 a2 a3 b0 b1 b2 b3 : Nat} (ha : ok4 a0 a1 a2 a3) (hb : ok4 b0 b1 b2 b3) : val4 (a0 ||| b0) (a1 ||| b1) (a2 ||| b2) (a3 ||| b3) = val4 a0 a1 a2 a3 ||| val4 b0 b1 b2 b3 := by
  unfold val4
  rw [or2 ha.2.2.1 hb.2.2.1, or2 ha.2.1 hb.2.1, or2 ha.1 hb.1]

/-- the length of a number: L bits and no fewer -/
def LenIs (n L : Nat) : Prop := n < 2 ^ L ∧ (0 < L → 2 ^ (L - 1) ≤ n)
theorem LenIs.uniq {n L M : Nat} (h : LenIs n L) (k : LenIs n M) : L = M := by
  rcases Nat.lt_trichotomy L M with c | c | c
  · have h1 := k.2 (by omega)
    have h2 := Nat.pow_le_pow_right (show 0 < 2 by omega) (show L ≤ M - 1 by omega)
    have := h.1; omega
  · exact c
  · have h1 := h.2 (by omega)
    have h2 := Nat.pow_le_pow_right (show 0 < 2 by omega) (show M ≤ L - 1 by omega)
    have := k.1; omega
theorem LenIs.zero : LenIs 0 0 := ⟨by simp, fun h => absurd h (by omega)⟩
theorem LenIs.up {n x L k : Nat} (hn : n < 2 ^ k) (hx : 0 < x) (h : LenIs x L) : LenIs (n + x * 2 ^ k) (k + L) := by
  have hL : 0 < L := by
    rcases Nat.eq_zero_or_pos L with e | e
    · subst e; have := h.1; simp at this; omega
    · exact e
  constructor
  · have := Nat.mul_le_mul_right (2 ^ k) (show x + 1 ≤ 2 ^ L from h.1)
    rw [Nat.add_mul, Nat.one_mul] at this
    rw [Nat.pow_add, Nat.mul_comm (2 ^ k)]; omega
  · intro _
    have := Nat.mul_le_mul_right (2 ^ k) (h.2 hL)
    rw [show k + L - 1 = k + (L - 1) by omega, Nat.pow_add, Nat.mul_comm (2 ^ k)]; omega
end Go.Proofs.YtaingnhikbaplaaGreat
namespace Go.Proofs.YtaingnhikbaplaaGreat
set_option linter.unusedVariables false
set_option linter.unusedSimpArgs false
open Go.RowKit

theorem ex_len64 {y : Nat} (h0 : 0 < y) (hy : y < 18446744073709551616) : ∃ S : Nat, (∀ w, Calls Tryz.prog 278 #[.int .u64 y] w fun e w' => e = .returned (.int .i64 S) ∧ w' = w) ∧ S ≤ 64 ∧ Hid (LenIs y S) := by
  obtain ⟨hl, ha, hb, hk⟩ := lenLog h0 hy
  refine ⟨y.log2 + 1, fun w => ?_, by omega, Lib.hid ⟨hb, fun _ => ha⟩⟩
  have := Tryz.bits_Len64 (y : Int) w (by omega) (by omega)
  rw [Int.toNat_natCast, hl] at this
  exact this

theorem run_indexW0 (a0 a1 a2 a3 : Nat) (w : World) : (Instr.index 70 (.agg #[.int .u64 a0, .int .u64 a1, .int .u64 a2, .int .u64 a3]) (.int .i64 (0 : Nat))).run Tryz.prog w = .ok (.int .u64 (a0 : Nat)) w := by kernel_rfl
theorem run_indexW1 (a0 a1 a2 a3 : Nat) (w : World) : (Instr.index 70 (.agg #[.int .u64 a0, .int .u64 a1, .int .u64 a2, .int .u64 a3]) (.int .i64 (1 : Nat))).run Tryz.prog w = .ok (.int .u64 (a1 : Nat)) w := by kernel_rfl
theorem run_indexW2 (a0 a1 a2 a3 : Nat) (w : World) : (Instr.index 70 (.agg #[.int .u64 a0, .int .u64 a1, .int .u64 a2, .int .u64 a3]) (.int .i64 (2 : Nat))).run Tryz.prog w = .ok (.int .u64 (a2 : Nat)) w := by kernel_rfl
theorem run_indexW3 (a0 a1 a2 a3 : Nat) (w : World) : (Instr.index 70 (.agg #[.int .u64 a0, .int .u64 a1, .int .u64 a2, .int .u64 a3]) (.int .i64 (3 : Nat))).run Tryz.prog w = .ok (.int .u64 (a3 : Nat)) w := by kernel_rfl
theorem run_indexW (a0 a1 a2 a3 k : Nat) (hk : k < 4) (w : World) : (Instr.index 70 (.agg #[.int .u64 a0, .int .u64 a1, .int .u64 a2, .int .u64 a3]) (.int .i64 (k : Nat))).run Tryz.prog w = .ok (.int .u64 (fnOf [a0, a1, a2, a3] k : Nat)) w := by
  match k, hk with
  | 0, _ => exact run_indexW0 a0 a1 a2 a3 w
  | 1, _ => exact run_indexW1 a0 a1 a2 a3 w
  | 2, _ => exact run_indexW2 a0 a1 a2 a3 w
  | 3, _ => exact run_indexW3 a0 a1 a2 a3 w

def LenPost (A : Nat) (w : World) (e : Ending) (w' : World) : Prop :=
  ∃ L : Nat, e = .returned (.int .i64 L) ∧ L ≤ 256 ∧ LenIs A L ∧ Below w.heap.size w w'

theorem len_step {A : Nat → Nat} {k L S : Nat} (hA : ∀ j, j < k → A j < 18446744073709551616) (h0 : 0 < A k) (hS : LenIs (A k) S) : LenIs (tot 18446744073709551616 A (k + 1)) (64 * k + S) := by
  have h1 := tot_lt 18446744073709551616 A (by omega) k hA
  rw [show 18446744073709551616 ^ k = 2 ^ (64 * k) by rw [Nat.pow_mul]] at h1
  rw [tot_succ, show 18446744073709551616 ^ k = 2 ^ (64 * k) by rw [Nat.pow_mul]]
  exact LenIs.up h1 h0 hS

theorem len_calls (a0 a1 a2 a3 : Nat) (ha : ok4 a0 a1 a2 a3) (w : World) :
    Calls Tryz.prog 247 #[.agg #[.int .u64 a0, .int .u64 a1, .int .u64 a2, .int .u64 a3]] w (LenPost (val4 a0 a1 a2 a3) w) := by
  have lA : ∀ k, fnOf [a0, a1, a2, a3] k < 18446744073709551616 := fun k => by
    obtain ⟨h0, h1, h2, h3⟩ := ha
    unfold fnOf
    match k with
    | 0 => exact h0
    | 1 => exact h1
    | 2 => exact h2
    | 3 => exact h3
    | k + 4 => simp
  obtain ⟨A, eA⟩ : ∃ A, A = fnOf [a0, a1, a2, a3] := ⟨_, rfl⟩
  have hix := fun k hk w => run_indexW a0 a1 a2 a3 k hk w
  rw [← eA] at lA
  simp only [← eA] at hix
  have hv : val4 a0 a1 a2 a3 = tot 18446744073709551616 A 4 := by rw [← val4_tot, eA]; rfl
  have HV := Lib.hid hv; have HlA := Lib.hid lA; have Hix := Lib.hid hix
  clear eA lA hv hix
  go_enter Tryz.func247, Tryz.ntmps247
  go_wp2_with fail
  go_loop [3, 7] (fun l i => ∃ k L : Nat, k ≤ 4 ∧ i = .int .i64 k ∧ l = .int .i64 L ∧ L ≤ 64 * k ∧ Hid (LenIs (tot 18446744073709551616 A k) L)) (fun _ i => 4 - (intOf i).toNat)
  case atStart => exact ⟨0, 0, by omega, rfl, rfl, by omega, Lib.hid LenIs.zero⟩
  case round =>
    obtain ⟨k, L, hk, rfl, rfl, hL, hl⟩ := hrel
    by_cases hlt : k < 4
    · obtain ⟨x, ex⟩ : ∃ x, x = A k := ⟨_, rfl⟩
      have hx := Hix.out k hlt
      rw [← ex] at hx
      have bx : x < 18446744073709551616 := by rw [ex]; exact HlA.out k
      rcases Nat.eq_zero_or_pos x with h0 | h0
      · have t0 : ((x : Int) != 0) = false := by simp [h0]
        have HN : Hid (LenIs (tot 18446744073709551616 A (k + 1)) L) := Lib.hid (by rw [tot_succ, ← ex, h0, Nat.zero_mul, Nat.add_zero]; exact hl.out)
        clear h0 ex
        go_wp2_with fail
        go_round
        case rel => exact ⟨k + 1, L, by omega, by go_num, rfl, by omega, HN⟩
        case measure => simp [intOf]; omega
      · have t0 : ((x : Int) != 0) = true := by simp; omega
        obtain ⟨S, rS, bS, hS⟩ := ex_len64 h0 bx
        have HN : Hid (LenIs (tot 18446744073709551616 A (k + 1)) (64 * k + S)) := Lib.hid (len_step (L := L) (fun j _ => HlA.out j) (by omega) (by rw [← ex]; exact hS.out))
        clear h0 ex
        go_wp2_with fail
        refine (rS _).mono ?_
        rintro e w' ⟨rfl, rfl⟩
        go_wp2_with fail
        go_round
        case rel => exact ⟨k + 1, 64 * k + S, by omega, by go_num, by go_num, by omega, HN⟩
        case measure => simp [intOf]; omega
    · obtain rfl : k = 4 := by omega
      go_wp2_with fail
      go_ret
      exact ⟨L, rfl, by omega, by rw [HV.out]; exact hl.out, (Below.refl _ _).alloc (Nat.le_refl _) _⟩
end Go.Proofs.YtaingnhikbaplaaGreat
namespace Go.Proofs.YtaingnhikbaplaaGreat
set_option linter.unusedVariables false
open Go.RowKit

def bitOf (A i : Nat) : Nat := A / 2 ^ i % 2
theorem bitOf_01 (A i : Nat) : bitOf A i = 0 ∨ bitOf A i = 1 := by unfold bitOf; omega
theorem tot_shift (R : Nat) (P : Nat → Nat) (n : Nat) : tot R P (n + 1) = P 0 + R * tot R (fun k => P (1 + k)) n := by
  have := tot_split R P 1 n
  rw [Nat.add_comm n 1, this]
  simp [tot]
theorem word_bit (P : Nat → Nat) (hP : ∀ k, P k < 18446744073709551616) (n j k : Nat) (hj : j < n) (hk : k < 64) : bitOf (tot 18446744073709551616 P n) (64 * j + k) = P j / 2 ^ k % 2 := by
  obtain ⟨m, rfl⟩ : ∃ m, n = j + (m + 1) := ⟨n - j - 1, by omega⟩
  have h1 := tot_split 18446744073709551616 P j (m + 1)
  have h2 := tot_shift 18446744073709551616 (fun k => P (j + k)) m
  have h3 := tot_lt 18446744073709551616 P (by omega) j (fun k _ => hP k)
  unfold bitOf
  rw [h1, h2, pow_n, ← Nat.div_div_eq_div_mul, Nat.add_mul_div_left _ _ (by exact Nat.pow_pos (by omega)), Nat.div_eq_of_lt h3, Nat.zero_add]
  have e : 18446744073709551616 = 2 ^ k * (2 * 2 ^ (63 - k)) := by
    rw [← Nat.pow_succ', ← Nat.pow_add, show k + (63 - k).succ = 64 by omega]
  show (P j + 18446744073709551616 * _) / 2 ^ k % 2 = _
  generalize tot 18446744073709551616 (fun k => P (j + (1 + k))) m = H
  rw [show 18446744073709551616 * H = 2 ^ k * (2 * 2 ^ (63 - k)) * H by rw [← e], Nat.mul_assoc, Nat.add_mul_div_left _ _ (by exact Nat.pow_pos (by omega)), Nat.mul_assoc, Nat.add_mul_mod_self_left]

theorem ex_ix {i : Nat} (h : i < 256) : ∃ j k : Nat, (i : Int) / 64 = (j : Int) ∧ (i : Int) % 64 = (k : Int) ∧ j < 4 ∧ k < 64 ∧ Hid (i = 64 * j + k) :=
  ⟨i / 64, i % 64, by omega, by omega, by omega, by omega, Lib.hid (by omega)⟩
theorem and_one64 (x : Nat) (hx : x < 18446744073709551616) : bits .and .u64 (x : Int) 1 = ((x % 2 : Nat) : Int) := by
  rw [show (1 : Int) = ((1 : Nat) : Int) from rfl, bits_and_u64_nat _ _ hx (by omega), Nat.and_one_is_mod]
theorem ex_bit {x k b : Nat} (hx : x < 18446744073709551616) (hb : x / 2 ^ k % 2 = b) : ∃ s : Nat, (x : Int) / 2 ^ k = (s : Int) ∧ bits .and .u64 (s : Int) 1 = (b : Int) ∧ s < 18446744073709551616 := by
  have hs : x / 2 ^ k < 18446744073709551616 := Nat.lt_of_le_of_lt (Nat.div_le_self _ _) hx
  exact ⟨x / 2 ^ k, by rw [Int.natCast_ediv, Int.natCast_pow]; rfl, by rw [and_one64 _ hs, hb], hs⟩
theorem bit_step (A i : Nat) : A / 2 ^ i = 2 * (A / 2 ^ (i + 1)) + bitOf A i := by
  unfold bitOf
  rw [Nat.pow_succ, ← Nat.div_div_eq_div_mul]
  omega
end Go.Proofs.YtaingnhikbaplaaGreat
namespace Go.Proofs.YtaingnhikbaplaaGreat
set_option linter.unusedVariables false
set_option linter.unusedSimpArgs false
open Go.RowKit

def BitPost (b : Nat) (w : World) (e : Ending) (w' : World) : Prop := e = .returned (.int .i64 b) ∧ Below w.heap.size w w'
theorem fn4_lt {a0 a1 a2 a3 : Nat} (ha : ok4 a0 a1 a2 a3) (k : Nat) : fnOf [a0, a1, a2, a3] k < 18446744073709551616 := by
  obtain ⟨h0, h1, h2, h3⟩ := ha
  unfold fnOf
  match k with
  | 0 => exact h0
  | 1 => exact h1
  | 2 => exact h2
  | 3 => exact h3
  | k + 4 => simp
theorem val4_fn (a0 a1 a2 a3 : Nat) : val4 a0 a1 a2 a3 = tot 18446744073709551616 (fnOf [a0, a1, a2, a3]) 4 := by rw [← val4_tot]; rfl
theorem bit_fn {a0 a1 a2 a3 i j k : Nat} (ha : ok4 a0 a1 a2 a3) (hj : j < 4) (hk : k < 64) (e : i = 64 * j + k) : fnOf [a0, a1, a2, a3] j / 2 ^ k % 2 = bitOf (val4 a0 a1 a2 a3) i := by
  rw [val4_fn, e, word_bit _ (fn4_lt ha) 4 j k hj hk]
theorem new_cell (w : World) (t : TypeId) (a0 a1 a2 a3 j : Nat) (hj : j < 4) : (w.alloc (.cells #[.int .u64 a0, .int .u64 a1, .int .u64 a2, .int .u64 a3] t)).cell? ⟨w.heap.size, j, none⟩ = some (.int .u64 (fnOf [a0, a1, a2, a3] j : Nat)) :=
  (RowIs.mk w t [a0, a1, a2, a3] w.heap.size rfl).cell hj

theorem refBit_in (a0 a1 a2 a3 i : Nat) (ha : ok4 a0 a1 a2 a3) (hi : i < 256) (w : World) :
    Calls Tryz.prog 142 #[.agg #[.int .u64 a0, .int .u64 a1, .int .u64 a2, .int .u64 a3], .int .i64 i] w (BitPost (bitOf (val4 a0 a1 a2 a3) i) w) := by
  obtain ⟨j, k, q, r, hj, hk, e⟩ := ex_ix hi
  have hc := new_cell w 70 a0 a1 a2 a3 j hj
  have hx := fn4_lt ha j
  obtain ⟨s, e1, e2, hs⟩ := ex_bit hx (bit_fn ha hj hk e.out)
  have hb := bitOf_01 (val4 a0 a1 a2 a3) i
  generalize bitOf (val4 a0 a1 a2 a3) i = b at *
  generalize fnOf [a0, a1, a2, a3] j = x at *
  have hb' : b ≤ 1 := by omega
  clear hb e
  have t0 : decide ((i : Int) < 0) = false := decide_eq_false (by omega)
  have t1 : decide ((255 : Int) < (i : Int)) = false := decide_eq_false (by omega)
  go_enter Tryz.func142, Tryz.ntmps142
  go_wp2_with fail
  go_ret
  exact ⟨rfl, (Below.refl _ _).alloc (Nat.le_refl _) _⟩
theorem bit_in (a0 a1 a2 a3 i : Nat) (ha : ok4 a0 a1 a2 a3) (hi : i < 256) (w : World) :
    Calls Tryz.prog 204 #[.agg #[.int .u64 a0, .int .u64 a1, .int .u64 a2, .int .u64 a3], .int .i64 i] w (BitPost (bitOf (val4 a0 a1 a2 a3) i) w) := by
  obtain ⟨j, k, q, r, hj, hk, e⟩ := ex_ix hi
  have hc := new_cell w 70 a0 a1 a2 a3 j hj
  have hx := fn4_lt ha j
  obtain ⟨s, e1, e2, hs⟩ := ex_bit hx (bit_fn ha hj hk e.out)
  have hb := bitOf_01 (val4 a0 a1 a2 a3) i
  generalize bitOf (val4 a0 a1 a2 a3) i = b at *
  generalize fnOf [a0, a1, a2, a3] j = x at *
  have hb' : b ≤ 1 := by omega
  clear hb e
  have t0 : decide ((i : Int) < 0) = false := decide_eq_false (by omega)
  have t1 : decide ((256 : Int) ≤ (i : Int)) = false := decide_eq_false (by omega)
  go_enter Tryz.func204, Tryz.ntmps204
  go_wp2_with fail
  go_ret
  exact ⟨rfl, (Below.refl _ _).alloc (Nat.le_refl _) _⟩
end Go.Proofs.YtaingnhikbaplaaGreat
