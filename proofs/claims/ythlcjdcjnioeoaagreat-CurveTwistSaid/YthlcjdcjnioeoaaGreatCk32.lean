/-
  Orders of points; a point whose multiples are more than a third of a curve's makes all points. Conditions: none.
  The primes of the twist's order: certificates, checked by the kernel. Conditions: none.
  All points of the twist are multiples of one; so the two ways to tell the group agree. Conditions: none.
  The reference's p-power map and its way to tell the group; CurveTwist answers true. Conditions: none.
  From a row's premises to a walk's: an argument of four words is opened. Conditions: none of its own.
-/
import Derived.ProofKit
import Derived.LaidMore
import Derived.OpenShut
import Derived.Stop.Joined
import Derived.Carry
import Derived.RowKit
import Derived.ChangeSame
import Derived.JoinedOf
import Derived.JoinedAt
import Derived.Laws.IdiomArrays
import Derived.Test.YthlcjdcjnioeoaaGreatCk30
import Derived.Test.YthlcjdcjnioeoaaGreatCk04
import Derived.Test.YthlcjdcjnioeoaaGreatCk08
import Derived.Test.YthlcjdcjnioeoaaGreatCk31
import Derived.Test.YthlcjdcjnioeoaaGreatRows
import Derived.Test.YthlcjdcjnioeoaaGreatCk06
namespace Go.Proofs.YthlcjdcjnioeoaaGreat.Ex
set_option linter.unusedVariables false
set_option linter.unusedSimpArgs false
namespace AG
variable {G : Type} (A : AG G)
theorem ns_modz {g : G} {n : Nat} (h : A.ns n g = A.zero) (m : Nat) : A.ns (m % n) g = A.ns m g := by
  conv => rhs; rw [← Nat.div_add_mod m n, A.ns_add, A.ns_mul, h, A.ns_zero, A.zadd]
theorem ns_gcd {g : G} (a b : Nat) : A.ns a g = A.zero → A.ns b g = A.zero → A.ns (Nat.gcd a b) g = A.zero := by
  induction a, b using Nat.gcd.induction with
  | H0 n => intro _ h; rw [Nat.gcd_zero_left]; exact h
  | H1 m n hm ih =>
    intro h1 h2
    rw [Nat.gcd_rec]
    exact ih (by rw [A.ns_modz h1]; exact h2) h1
/-- its order is just N -/
theorem exact {g : G} {N : Nat} {l : List Nat} (hl : l.foldr (· * ·) 1 = N) (hp : ∀ q, q ∈ l → Prm q) (h0 : A.ns N g = A.zero) (hq : ∀ q, q ∈ l → A.ns (N / q) g ≠ A.zero) (k : Nat) (hk : 0 < k) (hN : k < N) : A.ns k g ≠ A.zero := fun h => by
  have hd := A.ns_gcd k N h h0
  obtain ⟨e, he⟩ := Nat.gcd_dvd_right k N
  have hdk : Nat.gcd k N ≤ k := Nat.le_of_dvd hk (Nat.gcd_dvd_left k N)
  have hd0 : 0 < Nat.gcd k N := Nat.gcd_pos_of_pos_left N hk
  have he1 : 1 < e := by
    rcases Nat.lt_or_ge 1 e with q | q
    · exact q
    · have : Nat.gcd k N * e ≤ Nat.gcd k N * 1 := Nat.mul_le_mul_left _ q
      omega
  obtain ⟨q, hql, f, hf⟩ := prm_dvd_prod l e (by rw [hl]; exact ⟨Nat.gcd k N, by rw [Nat.mul_comm]; exact he⟩) he1 hp
  refine hq q hql ?_
  have hq0 : 0 < q := Nat.lt_trans Nat.zero_lt_one (hp q hql).1
  have e1 : N / q = Nat.gcd k N * f := by
    rw [Nat.div_eq_of_eq_mul_left hq0]
    rw [Nat.mul_assoc, Nat.mul_comm f q, ← hf]
    exact he
  rw [e1, A.ns_mul, hd, A.ns_zero]
theorem ns_inj {g : G} {N : Nat} (h : ∀ k, 0 < k → k < N → A.ns k g ≠ A.zero) {i j : Nat} (hi : i < N) (hj : j < N) (e : A.ns i g = A.ns j g) : i = j := by
  have key : ∀ i j, i < j → j < N → A.ns i g = A.ns j g → False := fun i j hij hj e => by
    refine h (j - i) (by omega) (by omega) ?_
    have : A.ns j g = A.add (A.ns i g) (A.ns (j - i) g) := by rw [← A.ns_add, Nat.add_sub_cancel' (Nat.le_of_lt hij)]
    rw [this] at e
    refine A.cancel (a := A.ns i g) ?_
    rw [← e, A.addz]
  rcases Nat.lt_trichotomy i j with q | q | q
  · exact (key i j q hj e).elim
  · exact q
  · exact (key j i q hi e.symm).elim
theorem ns_dvd {g : G} {N : Nat} (hN : 0 < N) (h0 : A.ns N g = A.zero) (h : ∀ k, 0 < k → k < N → A.ns k g ≠ A.zero) (a : Nat) : A.ns a g = A.zero ↔ N ∣ a := by
  constructor
  · intro e
    refine Nat.dvd_of_mod_eq_zero ?_
    rcases Nat.eq_zero_or_pos (a % N) with q | q
    · exact q
    · exact (h (a % N) q (Nat.mod_lt _ hN) (by rw [A.ns_modz h0]; exact e)).elim
  · rintro ⟨f, rfl⟩
    rw [A.ns_mul, h0, A.ns_zero]
/-- the inverse of a multiple is one -/
theorem ns_back {g : G} {N : Nat} (h0 : A.ns N g = A.zero) {j : Nat} (hj : j ≤ N) : A.add (A.ns j g) (A.ns (N - j) g) = A.zero := by
  rw [← A.ns_add, Nat.add_sub_cancel' hj, h0]
/-- a point of great order makes all, where there is none of order two and the points are told by few numbers -/
theorem cyclic {g : G} {N M : Nat} (hN : N % 2 = 1) (h0 : A.ns N g = A.zero) (h : ∀ k, 0 < k → k < N → A.ns k g ≠ A.zero) (two : ∀ P, A.add P P = A.zero → P = A.zero)
    (code : G → Nat) (hc : ∀ P, code P < M) (hi : ∀ P Q, code P = code Q → P = Q) (hM : M < 3 * N) (P : G) : ∃ k, P = A.ns k g := by
  apply Classical.byContradiction
  intro hP
  have hsub : ∀ i j, j < N → ∀ Q, A.ns i g = A.add Q (A.ns j g) → ∃ k, Q = A.ns k g := fun i j hj Q e => by
    refine ⟨i + (N - j), ?_⟩
    rw [A.ns_add, e, A.assoc, A.ns_back h0 (Nat.le_of_lt hj), A.addz]
  by_cases hD : ∃ k, A.add P P = A.ns k g
  · obtain ⟨k, hk⟩ := hD
    obtain ⟨j, hj⟩ : ∃ j, A.ns (j + j) g = A.add P P := by
      rcases Nat.mod_two_eq_zero_or_one k with q | q
      · exact ⟨k / 2, by rw [hk, show k / 2 + k / 2 = k by omega]⟩
      · refine ⟨(k + N) / 2, ?_⟩
        rw [hk, show (k + N) / 2 + (k + N) / 2 = k + N by omega, A.ns_add, h0, A.addz]
    have hz := two (A.add P (A.neg (A.ns j g))) (by
      rw [A.add4, ← hj, ← A.neg_add, ← A.ns_add, A.addn])
    refine hP ⟨j, ?_⟩
    refine A.cancel (a := A.neg (A.ns j g)) ?_
    rw [A.nadd, A.comm, hz]
  · have pg := pigeon (3 * N) (fun i => if i < N then code (A.ns i g) else if i < 2 * N then code (A.add P (A.ns (i - N) g)) else code (A.add (A.add P P) (A.ns (i - 2 * N) g)))
      (fun i _ => by
        show (if i < N then _ else if i < 2 * N then _ else _) < 3 * N
        split
        · exact Nat.lt_trans (hc _) hM
        · split
          · exact Nat.lt_trans (hc _) hM
          · exact Nat.lt_trans (hc _) hM)
      (fun i j hi3 hj3 e => by
        have e' : (if i < N then code (A.ns i g) else if i < 2 * N then code (A.add P (A.ns (i - N) g)) else code (A.add (A.add P P) (A.ns (i - 2 * N) g))) = (if j < N then code (A.ns j g) else if j < 2 * N then code (A.add P (A.ns (j - N) g)) else code (A.add (A.add P P) (A.ns (j - 2 * N) g))) := e
        by_cases i1 : i < N
        · rw [if_pos i1] at e'
          by_cases j1 : j < N
          · rw [if_pos j1] at e'
            exact A.ns_inj h i1 j1 (hi _ _ e')
          · rw [if_neg j1] at e'
            by_cases j2 : j < 2 * N
            · rw [if_pos j2] at e'
              exact (hP (hsub _ _ (by omega) _ (hi _ _ e'))).elim
            · rw [if_neg j2] at e'
              exact (hD (hsub _ _ (by omega) _ (hi _ _ e'))).elim
        · rw [if_neg i1] at e'
          by_cases i2 : i < 2 * N
          · rw [if_pos i2] at e'
            by_cases j1 : j < N
            · rw [if_pos j1] at e'
              exact (hP (hsub _ _ (by omega) _ (hi _ _ e'.symm))).elim
            · rw [if_neg j1] at e'
              by_cases j2 : j < 2 * N
              · rw [if_pos j2] at e'
                have := A.ns_inj h (i := i - N) (j := j - N) (by omega) (by omega) (A.cancel (hi _ _ e'))
                omega
              · rw [if_neg j2] at e'
                have e2 := hi _ _ e'
                rw [A.assoc] at e2
                exact (hP (hsub _ _ (by omega) _ (A.cancel e2))).elim
          · rw [if_neg i2] at e'
            by_cases j1 : j < N
            · rw [if_pos j1] at e'
              exact (hD (hsub _ _ (by omega) _ (hi _ _ e'.symm))).elim
            · rw [if_neg j1] at e'
              by_cases j2 : j < 2 * N
              · rw [if_pos j2] at e'
                have e2 := (hi _ _ e').symm
                rw [A.assoc] at e2
                exact (hP (hsub _ _ (by omega) _ (A.cancel e2))).elim
              · rw [if_neg j2] at e'
                have := A.ns_inj h (i := i - 2 * N) (j := j - 2 * N) (by omega) (by omega) (A.cancel (hi _ _ e'))
                omega) M hM
    obtain ⟨i, _, hiM⟩ := pg
    have : (if i < N then code (A.ns i g) else if i < 2 * N then code (A.add P (A.ns (i - N) g)) else code (A.add (A.add P P) (A.ns (i - 2 * N) g))) = M := hiM
    have hlt : (if i < N then code (A.ns i g) else if i < 2 * N then code (A.add P (A.ns (i - N) g)) else code (A.add (A.add P P) (A.ns (i - 2 * N) g))) < M := by
      split
      · exact hc _
      · split
        · exact hc _
        · exact hc _
    omega
end AG
end Go.Proofs.YthlcjdcjnioeoaaGreat.Ex
namespace Go.Proofs.YthlcjdcjnioeoaaGreat
set_option linter.unusedVariables false
set_option maxRecDepth 100000
theorem prm_10069 : Prm 10069 := prm_small 10069 100 (by decide) (by decide) (by kernel_rfl)
theorem prm_181 : Prm 181 := prm_small 181 13 (by decide) (by decide) (by kernel_rfl)
theorem root_5864401 : Root 5864401 38 := by
  refine root_cert (l := [2, 2, 2, 2, 3, 3, 3, 3, 5, 5, 181]) (by kernel_rfl) fun q hq => ?_
  simp only [List.mem_cons, List.not_mem_nil, or_false] at hq
  rcases hq with rfl | rfl | rfl | rfl | rfl | rfl | rfl | rfl | rfl | rfl | rfl
  · exact prm_2
  · exact prm_2
  · exact prm_2
  · exact prm_2
  · exact prm_3
  · exact prm_3
  · exact prm_3
  · exact prm_3
  · exact prm_5
  · exact prm_5
  · exact prm_181
theorem prm_5864401 : Prm 5864401 := root_5864401.prm
theorem prm_199 : Prm 199 := prm_small 199 14 (by decide) (by decide) (by kernel_rfl)
theorem prm_1511 : Prm 1511 := prm_small 1511 38 (by decide) (by decide) (by kernel_rfl)
theorem root_601379 : Root 601379 2 := by
  refine root_cert (l := [2, 199, 1511]) (by kernel_rfl) fun q hq => ?_
  simp only [List.mem_cons, List.not_mem_nil, or_false] at hq
  rcases hq with rfl | rfl | rfl
  · exact prm_2
  · exact prm_199
  · exact prm_1511
theorem prm_601379 : Prm 601379 := root_601379.prm
theorem root_17367825521 : Root 17367825521 3 := by
  refine root_cert (l := [2, 2, 2, 2, 5, 19, 19, 601379]) (by kernel_rfl) fun q hq => ?_
  simp only [List.mem_cons, List.not_mem_nil, or_false] at hq
  rcases hq with rfl | rfl | rfl | rfl | rfl | rfl | rfl | rfl
  · exact prm_2
  · exact prm_2
  · exact prm_2
  · exact prm_2
  · exact prm_5
  · exact prm_19
  · exact prm_19
  · exact prm_601379
theorem prm_17367825521 : Prm 17367825521 := root_17367825521.prm
theorem root_1875725156269 : Root 1875725156269 2 := by
  refine root_cert (l := [2, 2, 3, 3, 3, 17367825521]) (by kernel_rfl) fun q hq => ?_
  simp only [List.mem_cons, List.not_mem_nil, or_false] at hq
  rcases hq with rfl | rfl | rfl | rfl | rfl | rfl
  · exact prm_2
  · exact prm_2
  · exact prm_3
  · exact prm_3
  · exact prm_3
  · exact prm_17367825521
theorem prm_1875725156269 : Prm 1875725156269 := root_1875725156269.prm
theorem prm_59 : Prm 59 := prm_small 59 7 (by decide) (by decide) (by kernel_rfl)
theorem prm_43 : Prm 43 := prm_small 43 6 (by decide) (by decide) (by kernel_rfl)
theorem prm_23 : Prm 23 := prm_small 23 4 (by decide) (by decide) (by kernel_rfl)
theorem prm_727 : Prm 727 := prm_small 727 26 (by decide) (by decide) (by kernel_rfl)
theorem root_133769 : Root 133769 3 := by
  refine root_cert (l := [2, 2, 2, 23, 727]) (by kernel_rfl) fun q hq => ?_
  simp only [List.mem_cons, List.not_mem_nil, or_false] at hq
  rcases hq with rfl | rfl | rfl | rfl | rfl
  · exact prm_2
  · exact prm_2
  · exact prm_2
  · exact prm_23
  · exact prm_727
theorem prm_133769 : Prm 133769 := root_133769.prm
theorem prm_61 : Prm 61 := prm_small 61 7 (by decide) (by decide) (by kernel_rfl)
theorem prm_149 : Prm 149 := prm_small 149 12 (by decide) (by decide) (by kernel_rfl)
theorem root_5835139 : Root 5835139 3 := by
  refine root_cert (l := [2, 3, 61, 107, 149]) (by kernel_rfl) fun q hq => ?_
  simp only [List.mem_cons, List.not_mem_nil, or_false] at hq
  rcases hq with rfl | rfl | rfl | rfl | rfl
  · exact prm_2
  · exact prm_3
  · exact prm_61
  · exact prm_107
  · exact prm_149
theorem prm_5835139 : Prm 5835139 := root_5835139.prm
theorem root_758568071 : Root 758568071 14 := by
  refine root_cert (l := [2, 5, 13, 5835139]) (by kernel_rfl) fun q hq => ?_
  simp only [List.mem_cons, List.not_mem_nil, or_false] at hq
  rcases hq with rfl | rfl | rfl | rfl
  · exact prm_2
  · exact prm_5
  · exact prm_13
  · exact prm_5835139
theorem prm_758568071 : Prm 758568071 := root_758568071.prm
theorem root_1309000310535827101 : Root 1309000310535827101 2 := by
  refine root_cert (l := [2, 2, 3, 5, 5, 43, 133769, 758568071]) (by kernel_rfl) fun q hq => ?_
  simp only [List.mem_cons, List.not_mem_nil, or_false] at hq
  rcases hq with rfl | rfl | rfl | rfl | rfl | rfl | rfl | rfl
  · exact prm_2
  · exact prm_2
  · exact prm_3
  · exact prm_5
  · exact prm_5
  · exact prm_43
  · exact prm_133769
  · exact prm_758568071
theorem prm_1309000310535827101 : Prm 1309000310535827101 := root_1309000310535827101.prm
theorem prm_157 : Prm 157 := prm_small 157 12 (by decide) (by decide) (by kernel_rfl)
theorem root_1233079 : Root 1233079 11 := by
  refine root_cert (l := [2, 3, 7, 11, 17, 157]) (by kernel_rfl) fun q hq => ?_
  simp only [List.mem_cons, List.not_mem_nil, or_false] at hq
  rcases hq with rfl | rfl | rfl | rfl | rfl | rfl
  · exact prm_2
  · exact prm_3
  · exact prm_7
  · exact prm_11
  · exact prm_17
  · exact prm_157
theorem prm_1233079 : Prm 1233079 := root_1233079.prm
theorem prm_1031 : Prm 1031 := prm_small 1031 32 (by decide) (by decide) (by kernel_rfl)
theorem prm_77339 : Prm 77339 := prm_small 77339 278 (by decide) (by decide) (by kernel_rfl)
theorem prm_3359 : Prm 3359 := prm_small 3359 57 (by decide) (by decide) (by kernel_rfl)
theorem root_268721 : Root 268721 3 := by
  refine root_cert (l := [2, 2, 2, 2, 5, 3359]) (by kernel_rfl) fun q hq => ?_
  simp only [List.mem_cons, List.not_mem_nil, or_false] at hq
  rcases hq with rfl | rfl | rfl | rfl | rfl | rfl
  · exact prm_2
  · exact prm_2
  · exact prm_2
  · exact prm_2
  · exact prm_5
  · exact prm_3359
theorem prm_268721 : Prm 268721 := root_268721.prm
theorem root_1612327 : Root 1612327 5 := by
  refine root_cert (l := [2, 3, 268721]) (by kernel_rfl) fun q hq => ?_
  simp only [List.mem_cons, List.not_mem_nil, or_false] at hq
  rcases hq with rfl | rfl | rfl
  · exact prm_2
  · exact prm_3
  · exact prm_268721
theorem prm_1612327 : Prm 1612327 := root_1612327.prm
theorem root_677736056450657 : Root 677736056450657 3 := by
  refine root_cert (l := [2, 2, 2, 2, 2, 7, 23, 83, 983, 1612327]) (by kernel_rfl) fun q hq => ?_
  simp only [List.mem_cons, List.not_mem_nil, or_false] at hq
  rcases hq with rfl | rfl | rfl | rfl | rfl | rfl | rfl | rfl | rfl | rfl
  · exact prm_2
  · exact prm_2
  · exact prm_2
  · exact prm_2
  · exact prm_2
  · exact prm_7
  · exact prm_23
  · exact prm_83
  · exact prm_983
  · exact prm_1612327
theorem prm_677736056450657 : Prm 677736056450657 := root_677736056450657.prm
theorem root_209661715479349446893 : Root 209661715479349446893 2 := by
  refine root_cert (l := [2, 2, 77339, 677736056450657]) (by kernel_rfl) fun q hq => ?_
  simp only [List.mem_cons, List.not_mem_nil, or_false] at hq
  rcases hq with rfl | rfl | rfl | rfl
  · exact prm_2
  · exact prm_2
  · exact prm_77339
  · exact prm_677736056450657
theorem prm_209661715479349446893 : Prm 209661715479349446893 := root_209661715479349446893.prm
theorem root_3458579658547348475946929 : Root 3458579658547348475946929 3 := by
  refine root_cert (l := [2, 2, 2, 2, 1031, 209661715479349446893]) (by kernel_rfl) fun q hq => ?_
  simp only [List.mem_cons, List.not_mem_nil, or_false] at hq
  rcases hq with rfl | rfl | rfl | rfl | rfl | rfl
  · exact prm_2
  · exact prm_2
  · exact prm_2
  · exact prm_2
  · exact prm_1031
  · exact prm_209661715479349446893
theorem prm_3458579658547348475946929 : Prm 3458579658547348475946929 := root_3458579658547348475946929.prm
theorem root_213235097339095295568608163219551 : Root 213235097339095295568608163219551 31 := by
  refine root_cert (l := [2, 5, 5, 1233079, 3458579658547348475946929]) (by kernel_rfl) fun q hq => ?_
  simp only [List.mem_cons, List.not_mem_nil, or_false] at hq
  rcases hq with rfl | rfl | rfl | rfl | rfl
  · exact prm_2
  · exact prm_5
  · exact prm_5
  · exact prm_1233079
  · exact prm_3458579658547348475946929
theorem prm_213235097339095295568608163219551 : Prm 213235097339095295568608163219551 := root_213235097339095295568608163219551.prm
theorem root_197620364512881247228717050342013327560683201906968909 : Root 197620364512881247228717050342013327560683201906968909 2 := by
  refine root_cert (l := [2, 2, 3, 59, 1309000310535827101, 213235097339095295568608163219551]) (by kernel_rfl) fun q hq => ?_
  simp only [List.mem_cons, List.not_mem_nil, or_false] at hq
  rcases hq with rfl | rfl | rfl | rfl | rfl | rfl
  · exact prm_2
  · exact prm_2
  · exact prm_3
  · exact prm_59
  · exact prm_1309000310535827101
  · exact prm_213235097339095295568608163219551
theorem prm_197620364512881247228717050342013327560683201906968909 : Prm 197620364512881247228717050342013327560683201906968909 := root_197620364512881247228717050342013327560683201906968909.prm
end Go.Proofs.YthlcjdcjnioeoaaGreat
namespace Go.Proofs.YthlcjdcjnioeoaaGreat.Ex
set_option linter.unusedVariables false
set_option linter.unusedSimpArgs false
open Go.RowKit
def twX : Q2 := (⟨2, by decide⟩, ⟨1, by decide⟩)
def twY : Q2 := (⟨7292567877523311580221095596750716176434782432868683424513645834767876293070, by decide⟩, ⟨19659275751359636165940301690575149581329631496732780143538578556285923319774, by decide⟩)
def twN : Nat := 479095176016622842441988045216678740799252316531100822436447802254070093686356349204969212544220033486413271283566945264650845755880805213916963058350733
def twM : Nat := 287457105609973705413735949925891179998572849537316190965553840838426151215824331271088064391342496698406609565003789524066463657087527623491112425449299
theorem tw_curve : On F2 b2E (some (twX, twY)) := by
  show F2.mul twY twY = F2.add (F2.mul twX (F2.mul twX twX)) b2E
  exact of_decide_eq_true (by kernel_rfl)
def twG : C2 := ⟨some (twX, twY), tw_curve⟩
theorem tw_rep : Rp ec2 (twX, twY, F2.one) twG := ec2.jto_one _ _
theorem tw_z : (crm F2 (twX, twY, F2.one) twN 508 508).2.2 = F2.zero := of_decide_eq_true (by kernel_rfl)
theorem tw_nz0 : (crm F2 (twX, twY, F2.one) 21888242871839275222246405745257275088844257914179612981679871602714643921549 508 508).2.2 ≠ F2.zero := of_decide_eq_true (by kernel_rfl)
theorem tw_nz1 : (crm F2 (twX, twY, F2.one) 47581207271489010074683488451353534690560365133687637544587129035065060451520145913692443394996527310200940637954806362563397135354136976255533127257 508 508).2.2 ≠ F2.zero := of_decide_eq_true (by kernel_rfl)
theorem tw_nz2 : (crm F2 (twX, twY, F2.one) 81695500702735512534355690413510048306596413944254634435204516583035521221409714172848891565263022342164744751180375500353888786916311693882625533 508 508).2.2 ≠ F2.zero := of_decide_eq_true (by kernel_rfl)
theorem tw_nz3 : (crm F2 (twX, twY, F2.one) 255418644045692602095536823547820102522999221828645151339294751423486163211343406059815000057572293107810899582329754326227174532880069378657 508 508).2.2 ≠ F2.zero := of_decide_eq_true (by kernel_rfl)
theorem tw_nz4 : (crm F2 (twX, twY, F2.one) 2424320880075062131686333725919013315836351602446602932909956992302697742401182419325566481532687937 508 508).2.2 ≠ F2.zero := of_decide_eq_true (by kernel_rfl)
theorem twN_lt : twN < 2 ^ 508 := of_decide_eq_true (by kernel_rfl)
theorem twM_lt : twM < 2 ^ 508 := of_decide_eq_true (by kernel_rfl)
theorem tw_ord : ec2.grp.ns twN twG = ec2.grp.zero := Subtype.ext ((crm_all tw_rep twN 508 twN_lt).symm.trans (jto_zero tw_z))
theorem tw_ne {n : Nat} (hn : n < 2 ^ 508) (h : (crm F2 (twX, twY, F2.one) n 508 508).2.2 ≠ F2.zero) : ec2.grp.ns n twG ≠ ec2.grp.zero := fun e => by
  have h1 : jto F2 iv2 (crm F2 (twX, twY, F2.one) n 508 508) = (ec2.grp.ns n twG).1 := crm_all tw_rep n 508 hn
  rw [e, jto_some h] at h1
  cases h1
def twL : List Nat := [21888242871839275222246405745257275088548364400416034343698204186575808495617, 10069, 5864401, 1875725156269, 197620364512881247228717050342013327560683201906968909]
theorem twL_prod : twL.foldr (· * ·) 1 = twN := by kernel_rfl
theorem twL_prm : ∀ q, q ∈ twL → Prm q := fun q hq => by
  simp only [twL, List.mem_cons, List.not_mem_nil, or_false] at hq
  rcases hq with rfl | rfl | rfl | rfl | rfl
  · exact prm_R
  · exact prm_10069
  · exact prm_5864401
  · exact prm_1875725156269
  · exact prm_197620364512881247228717050342013327560683201906968909
theorem twL_ne : ∀ q, q ∈ twL → ec2.grp.ns (twN / q) twG ≠ ec2.grp.zero := fun q hq => by
  simp only [twL, List.mem_cons, List.not_mem_nil, or_false] at hq
  rcases hq with rfl | rfl | rfl | rfl | rfl
  · rw [show twN / 21888242871839275222246405745257275088548364400416034343698204186575808495617 = 21888242871839275222246405745257275088844257914179612981679871602714643921549 by kernel_rfl]; exact tw_ne (of_decide_eq_true (by kernel_rfl)) tw_nz0
  · rw [show twN / 10069 = 47581207271489010074683488451353534690560365133687637544587129035065060451520145913692443394996527310200940637954806362563397135354136976255533127257 by kernel_rfl]; exact tw_ne (of_decide_eq_true (by kernel_rfl)) tw_nz1
  · rw [show twN / 5864401 = 81695500702735512534355690413510048306596413944254634435204516583035521221409714172848891565263022342164744751180375500353888786916311693882625533 by kernel_rfl]; exact tw_ne (of_decide_eq_true (by kernel_rfl)) tw_nz2
  · rw [show twN / 1875725156269 = 255418644045692602095536823547820102522999221828645151339294751423486163211343406059815000057572293107810899582329754326227174532880069378657 by kernel_rfl]; exact tw_ne (of_decide_eq_true (by kernel_rfl)) tw_nz3
  · rw [show twN / 197620364512881247228717050342013327560683201906968909 = 2424320880075062131686333725919013315836351602446602932909956992302697742401182419325566481532687937 by kernel_rfl]; exact tw_ne (of_decide_eq_true (by kernel_rfl)) tw_nz4
theorem tw_exact : ∀ k, 0 < k → k < twN → ec2.grp.ns k twG ≠ ec2.grp.zero := ec2.grp.exact twL_prod twL_prm tw_ord twL_ne
theorem tw_two (P : C2) (h : ec2.grp.add P P = ec2.grp.zero) : P = ec2.grp.zero := by
  have h1 : ec2.grp.neg P = P := by
    refine ec2.grp.cancel (a := P) ?_
    rw [ec2.grp.addn, h]
  obtain ⟨P, hP⟩ := P
  cases P with
  | none => rfl
  | some p =>
    have h2 : some (p.1, F2.neg p.2) = some p := congrArg Subtype.val h1
    have h3 : F2.neg p.2 = p.2 := by injection h2 with h2; exact congrArg Prod.snd h2
    have h4 : F2.add p.2 p.2 = F2.zero := by
      conv => lhs; lhs; rw [← h3]
      exact F2.neg_add _
    exact (ec2.dbl_ne (ec2.y_ne (x := p.1) hP) h4).elim
open Classical in
noncomputable def twY0 (x : Q2) : Q2 := if h : ∃ y, On F2 b2E (some (x, y)) then h.choose else F2.zero
open Classical in
noncomputable def twCode (P : C2) : Nat := match P.1 with
  | none => 2 * (FP.M * FP.M)
  | some p => 2 * (p.1.1.1 + FP.M * p.1.2.1) + (if p.2 = twY0 p.1 then 0 else 1)
theorem idx_lt {a b M : Nat} (ha : a < M) (hb : b < M) : a + M * b < M * M := by
  have : M * (b + 1) ≤ M * M := Nat.mul_le_mul_left _ hb
  rw [Nat.mul_add, Nat.mul_one] at this
  omega
theorem twCode_lt (P : C2) : twCode P < 2 * (FP.M * FP.M) + 1 := by
  obtain ⟨P, hP⟩ := P
  unfold twCode
  cases P with
  | none => exact Nat.lt_succ_self _
  | some p =>
    have := idx_lt p.1.1.2 p.1.2.2
    show 2 * (p.1.1.1 + FP.M * p.1.2.1) + (if p.2 = twY0 p.1 then 0 else 1) < _
    split <;> omega
theorem idx_inj {a b c d M : Nat} (ha : a < M) (hc : c < M) (h : a + M * b = c + M * d) : a = c ∧ b = d := by
  have h1 := congrArg (· % M) h
  simp only [Nat.add_mul_mod_self_left, Nat.mod_eq_of_lt ha, Nat.mod_eq_of_lt hc] at h1
  refine ⟨h1, ?_⟩
  rw [h1] at h
  have hM : 0 < M := by omega
  exact Nat.eq_of_mul_eq_mul_left hM (by omega)
theorem twCode_inj (P Q : C2) (h : twCode P = twCode Q) : P = Q := by
  obtain ⟨P, hP⟩ := P
  obtain ⟨Q, hQ⟩ := Q
  refine Subtype.ext ?_
  show P = Q
  unfold twCode at h
  cases P with
  | none =>
    cases Q with
    | none => rfl
    | some q =>
      have := idx_lt q.1.1.2 q.1.2.2
      have h' : 2 * (FP.M * FP.M) = 2 * (q.1.1.1 + FP.M * q.1.2.1) + (if q.2 = twY0 q.1 then 0 else 1) := h
      split at h' <;> omega
  | some p =>
    cases Q with
    | none =>
      have := idx_lt p.1.1.2 p.1.2.2
      have h' : 2 * (p.1.1.1 + FP.M * p.1.2.1) + (if p.2 = twY0 p.1 then 0 else 1) = 2 * (FP.M * FP.M) := h
      split at h' <;> omega
    | some q =>
      have h' : 2 * (p.1.1.1 + FP.M * p.1.2.1) + (if p.2 = twY0 p.1 then 0 else 1) = 2 * (q.1.1.1 + FP.M * q.1.2.1) + (if q.2 = twY0 q.1 then 0 else 1) := h
      have hx : p.1.1.1 + FP.M * p.1.2.1 = q.1.1.1 + FP.M * q.1.2.1 ∧ ((p.2 = twY0 p.1) ↔ (q.2 = twY0 q.1)) := by
        by_cases a : p.2 = twY0 p.1
        · rw [if_pos a] at h'
          by_cases b : q.2 = twY0 q.1
          · rw [if_pos b] at h'; exact ⟨by omega, fun _ => b, fun _ => a⟩
          · rw [if_neg b] at h'; omega
        · rw [if_neg a] at h'
          by_cases b : q.2 = twY0 q.1
          · rw [if_pos b] at h'; omega
          · rw [if_neg b] at h'; exact ⟨by omega, fun h => (a h).elim, fun h => (b h).elim⟩
      obtain ⟨e1, e2⟩ := idx_inj p.1.1.2 q.1.1.2 hx.1
      have ex : p.1 = q.1 := Prod.ext (Fin.ext e1) (Fin.ext e2)
      obtain ⟨px, py⟩ := p
      obtain ⟨qx, qy⟩ := q
      have ex' : px = qx := ex
      subst ex'
      have hb : (py = twY0 px) ↔ (qy = twY0 px) := hx.2
      refine congrArg (fun y => some (px, y)) ?_
      by_cases a : py = twY0 px
      · rw [a, ← hb.1 a]
      · have b : qy ≠ twY0 px := fun h => a (hb.2 h)
        have hy0 : On F2 b2E (some (px, twY0 px)) := by
          have hex : ∃ y, On F2 b2E (some (px, y)) := ⟨py, hP⟩
          unfold twY0
          rw [dif_pos hex]
          exact hex.choose_spec
        have s1 : F2.add py (twY0 px) = F2.zero := sq_opp ec2 ((show F2.mul py py = _ from hP).trans (show F2.mul (twY0 px) (twY0 px) = _ from hy0).symm) a
        have s2 : F2.add qy (twY0 px) = F2.zero := sq_opp ec2 ((show F2.mul qy qy = _ from hQ).trans (show F2.mul (twY0 px) (twY0 px) = _ from hy0).symm) b
        refine F2.add_cancel (a := twY0 px) ?_
        rw [F2.add_comm, s1, F2.add_comm, s2]
theorem tw_few : 2 * (FP.M * FP.M) + 1 < 3 * twN := of_decide_eq_true (by kernel_rfl)
theorem tw_odd : twN % 2 = 1 := by kernel_rfl
theorem tw_all (P : C2) : ∃ k, P = ec2.grp.ns k twG := ec2.grp.cyclic tw_odd tw_ord tw_exact tw_two twCode twCode_lt twCode_inj tw_few P
/-- the p-power map's number -/
def twPX : Q2 := F2.mul (conj2' twX) thirdE
def twPY : Q2 := F2.mul (conj2' twY) halfE
def twJ : J2 := crm F2 (twX, twY, F2.one) twM 508 508
theorem tj_z : twJ.2.2 ≠ F2.zero := of_decide_eq_true (by kernel_rfl)
theorem tj_x : twJ.1 = F2.mul twPX (F2.mul twJ.2.2 twJ.2.2) := of_decide_eq_true (by kernel_rfl)
theorem tj_y : twJ.2.1 = F2.mul twPY (F2.mul (F2.mul twJ.2.2 twJ.2.2) twJ.2.2) := of_decide_eq_true (by kernel_rfl)
theorem tj_rep : Rp ec2 twJ (ec2.grp.ns twM twG) := crm_all tw_rep twM 508 twM_lt
theorem tw_psi : psi twG = ec2.grp.ns twM twG := by
  refine Subtype.ext ?_
  rw [← show jto F2 iv2 twJ = (ec2.grp.ns twM twG).1 from tj_rep, jto_proj ec2 tj_z tj_x tj_y]
  show psP (some (twX, twY)) = _
  kernel_rfl
def twC : Nat := 287457105609973705413735949925891179998572849537316190965553840838426151215824331271088064391342496698406609565003641577309581867768536789783043007736333
def twU : Nat := 4377648574367855045624726741130453375770005524880588749457117171343633558474
def twW : Nat := 2626589144620713026904657807846672682105704487528335372401875091607964744325
theorem twC_eq : twM = lessN + twC := by kernel_rfl
theorem twC_ord : twC = ord * 13132945723103565130996952262996368337156300107536646163745009583754801998349 := by kernel_rfl
theorem twC_u : twC * twU = ord + twN * twW := by kernel_rfl
theorem tw_pos : 0 < twN := of_decide_eq_true (by kernel_rfl)
/-- the two ways to tell which points are in the group -/
theorem in_iff (P : C2) : ec2.grp.ns lessN P = psi P ↔ ec2.grp.ns ord P = ec2.grp.zero := by
  obtain ⟨k, rfl⟩ := tw_all P
  have e1 : psi (ec2.grp.ns k twG) = ec2.grp.add (ec2.grp.ns lessN (ec2.grp.ns k twG)) (ec2.grp.ns (k * twC) twG) := by
    rw [psi_ns, tw_psi, ← ec2.grp.ns_mul, ← ec2.grp.ns_mul, ← ec2.grp.ns_add, twC_eq, Nat.add_mul, Nat.mul_comm lessN, Nat.mul_comm twC]
  have e2 : ec2.grp.ns lessN (ec2.grp.ns k twG) = psi (ec2.grp.ns k twG) ↔ ec2.grp.ns (k * twC) twG = ec2.grp.zero := by
    rw [e1]
    constructor
    · intro h
      refine ec2.grp.cancel (a := ec2.grp.ns lessN (ec2.grp.ns k twG)) ?_
      rw [← h, ec2.grp.addz]
    · intro h
      rw [h, ec2.grp.addz]
  rw [e2, ← ec2.grp.ns_mul, ec2.grp.ns_dvd tw_pos tw_ord tw_exact, ec2.grp.ns_dvd tw_pos tw_ord tw_exact]
  constructor
  · rintro ⟨f, hf⟩
    have h1 : k * ord + twN * (k * twW) = twN * (f * twU) := by
      have h2 : k * (twC * twU) = twN * (f * twU) := by rw [← Nat.mul_assoc, hf, Nat.mul_assoc]
      rw [twC_u, Nat.mul_add, Nat.mul_left_comm k twN] at h2
      exact h2
    have h3 : twN ∣ k * ord + twN * (k * twW) := ⟨_, h1⟩
    exact (Nat.dvd_add_left ⟨_, rfl⟩).1 h3
  · rintro ⟨f, hf⟩
    rw [twC_ord, ← Nat.mul_assoc, hf]
    exact ⟨f * 13132945723103565130996952262996368337156300107536646163745009583754801998349, Nat.mul_assoc _ _ _⟩
end Go.Proofs.YthlcjdcjnioeoaaGreat.Ex
namespace Go.Proofs.YthlcjdcjnioeoaaGreat.Ex
set_option linter.unusedVariables false
set_option linter.unusedSimpArgs false
open Go.RowKit
theorem rconj_eq (x : Q2) : F2.sub (x.1, F1.zero) (F1.zero, x.2) = conj2' x := by
  refine Prod.ext ?_ ?_
  · exact ring_id F1 (envL F1 [x.1]) (.add (.v 0) (.neg .zero)) (.v 0) (by decide)
  · exact F1.zero_add _

set_option maxRecDepth 100000 in
theorem run_rpsi_atrue (x y : N2) : funB Tryz.prog (qG Tryz.prog) (fun _ => ⟨fun s => T_works, fun s => true, fun s => bif Nat.beq s 10 then some (.bool true) else bif Nat.beq s 16 then some (.bool false) else none⟩) Tryz.f27 60 [.v (.fl (gq2 (x, y, true)))] = some ([intOp .neq .i64 (ck2 x y true).1 0 = some (.bool true), intOp .eql .i64 (ck2 x y true).1 0 = some (.bool false)], .many [.fl (gf2 (some (F2.zero, F2.zero))), .im (.int .i64 (ck2 x y true).1)]) := by kernel_rfl
set_option maxRecDepth 100000 in
theorem run_rpsi_afalse (x y : N2) : funB Tryz.prog (qG Tryz.prog) (fun _ => ⟨fun s => T_works, fun s => true, fun s => bif Nat.beq s 10 then some (.bool true) else bif Nat.beq s 16 then some (.bool false) else none⟩) Tryz.f27 60 [.v (.fl (gq2 (x, y, false)))] = some ([intOp .neq .i64 (ck2 x y false).1 0 = some (.bool true), intOp .eql .i64 (ck2 x y false).1 0 = some (.bool false)], .many [.fl (gf2 (some (F2.zero, F2.zero))), .im (.int .i64 (ck2 x y false).1)]) := by kernel_rfl
set_option maxRecDepth 100000 in
theorem run_rpsi_b (x y : N2) : funB Tryz.prog (qG Tryz.prog) (fun _ => ⟨fun s => T_works, fun s => true, fun s => bif Nat.beq s 10 then some (.bool false) else bif Nat.beq s 16 then some (.bool true) else none⟩) Tryz.f27 60 [.v (.fl (gq2 (x, y, true)))] = some ([intOp .neq .i64 (ck2 x y true).1 0 = some (.bool false), intOp .eql .i64 (ck2 x y true).1 0 = some (.bool true)], .many [.fl (gf2 none), .im (.int .i64 (ck2 x y true).1)]) := by kernel_rfl
set_option maxRecDepth 100000 in
theorem run_rpsi_c (x y : N2) : funB Tryz.prog (qG Tryz.prog) (fun _ => ⟨fun s => T_works, fun s => true, fun s => bif Nat.beq s 10 then some (.bool false) else none⟩) Tryz.f27 80 [.v (.fl (gq2 (x, y, false)))] = some ([intOp .neq .i64 (ck2 x y false).1 0 = some (.bool false)], .many [.fl (gf2 (some (F2.mul (F2.sub ((m2 x).1, F1.zero) (F1.zero, (m2 x).2)) thirdE, F2.mul (F2.sub ((m2 y).1, F1.zero) (F1.zero, (m2 y).2)) halfE))), .im (.int .i64 0)]) := by kernel_rfl
theorem rpsi_ok (p : G2N) (args : List Value) (w : World) (ha : CAs w [.v (.fl (gq2 p))] args) : Good Tryz.prog 27 (.many [.fl (gf2 (resPsi p).1), .im (.int .i64 (resPsi p).2)]) args w := by
  obtain ⟨x, y, b⟩ := p
  by_cases h : (ck2 x y b).1 = 0
  · rw [show resPsi (x, y, b) = (psP (af2 (x, y, b)), 0) from if_neg (fun q => q h)]
    cases b with
    | true =>
      have e : Good Tryz.prog 27 (.many [.fl (gf2 none), .im (.int .i64 (ck2 x y true).1)]) args w := funB_sound hmix (fun _ s => ok_works) (qG_ok Tryz.prog) Tryz.func27 (run_rpsi_b x y) ⟨neq_f h, eql_t h, trivial⟩ ha
      rw [h] at e
      exact e
    | false =>
      have e : Good Tryz.prog 27 (.many [.fl (gf2 (some (F2.mul (F2.sub ((m2 x).1, F1.zero) (F1.zero, (m2 x).2)) thirdE, F2.mul (F2.sub ((m2 y).1, F1.zero) (F1.zero, (m2 y).2)) halfE))), .im (.int .i64 0)]) args w := funB_sound hmix (fun _ s => ok_works) (qG_ok Tryz.prog) Tryz.func27 (run_rpsi_c x y) ⟨neq_f h, trivial⟩ ha
      rw [rconj_eq, rconj_eq] at e
      exact e
  · rw [show resPsi (x, y, b) = ((some (F2.zero, F2.zero)), (ck2 x y b).1) from if_pos h]
    cases b with
    | true => exact funB_sound hmix (fun _ s => ok_works) (qG_ok Tryz.prog) Tryz.func27 (run_rpsi_atrue x y) ⟨neq_t h, eql_f h, trivial⟩ ha
    | false => exact funB_sound hmix (fun _ s => ok_works) (qG_ok Tryz.prog) Tryz.func27 (run_rpsi_afalse x y) ⟨neq_t h, eql_f h, trivial⟩ ha
set_option maxRecDepth 100000 in
theorem run_rin2_a (p : G2N) : funB Tryz.prog (qG Tryz.prog) (fun _ => ⟨fun s => T_works, fun s => true, fun s => bif Nat.beq s 5 then some (.bool false) else none⟩) Tryz.f31 60 [.v (.fl (gq2 p))] = some ([intOp .eql .i64 (ck2 p.1 p.2.1 p.2.2).1 0 = some (.bool false)], .one (.im (.bool false))) := by kernel_rfl
set_option maxRecDepth 100000 in
theorem run_rin2_b (p : G2N) : funB Tryz.prog (qG Tryz.prog) (fun _ => ⟨fun s => T_works, fun s => true, fun s => bif Nat.beq s 5 then some (.bool true) else none⟩) Tryz.f31 60 [.v (.fl (gq2 p))] = some ([intOp .eql .i64 (ck2 p.1 p.2.1 p.2.2).1 0 = some (.bool true), (p.2.2 = false → bl2 p.1 ∧ bl2 p.2.1), flat (e2 (rtm2 (wd2 p) Go.Proofs.YthlcjdcjnioeoaaGreat.FR.M (lenF Go.Proofs.YthlcjdcjnioeoaaGreat.FR.M) (lenF Go.Proofs.YthlcjdcjnioeoaaGreat.FR.M)).2.2) = flat (e2 F2.zero)], .one (.im (.bool true))) := by kernel_rfl
set_option maxRecDepth 100000 in
theorem run_rin2_c (p : G2N) : funB Tryz.prog (qG Tryz.prog) (fun _ => ⟨fun s => T_works, fun s => false, fun s => bif Nat.beq s 5 then some (.bool true) else none⟩) Tryz.f31 60 [.v (.fl (gq2 p))] = some ([intOp .eql .i64 (ck2 p.1 p.2.1 p.2.2).1 0 = some (.bool true), (p.2.2 = false → bl2 p.1 ∧ bl2 p.2.1), flat (e2 (rtm2 (wd2 p) Go.Proofs.YthlcjdcjnioeoaaGreat.FR.M (lenF Go.Proofs.YthlcjdcjnioeoaaGreat.FR.M) (lenF Go.Proofs.YthlcjdcjnioeoaaGreat.FR.M)).2.2) ≠ flat (e2 F2.zero)], .one (.im (.bool false))) := by kernel_rfl
theorem in2P_is (p : G2N) : in2P p = true ↔ ((ckN2 p).1 = 0 ∧ (rtm2 (wd2 p) Go.Proofs.YthlcjdcjnioeoaaGreat.FR.M (lenF Go.Proofs.YthlcjdcjnioeoaaGreat.FR.M) (lenF Go.Proofs.YthlcjdcjnioeoaaGreat.FR.M)).2.2 = F2.zero) := by
  unfold in2P
  rw [decide_eq_true_iff]
  by_cases h : (ckN2 p).1 = 0
  · have hr : Rp ec2 (rtm2 (wd2 p) Go.Proofs.YthlcjdcjnioeoaaGreat.FR.M (lenF Go.Proofs.YthlcjdcjnioeoaaGreat.FR.M) (lenF Go.Proofs.YthlcjdcjnioeoaaGreat.FR.M)) (ec2.grp.ns ord (cp2 p)) := by
      have := rtm2_rep (cp2_wd h) Go.Proofs.YthlcjdcjnioeoaaGreat.FR.M (lenF Go.Proofs.YthlcjdcjnioeoaaGreat.FR.M) (Nat.le_refl _)
      rwa [Nat.sub_self, Nat.pow_zero, Nat.div_one, wv_ord] at this
    have h1 : resPsi p = ((psi (cp2 p)).1, 0) := by
      unfold resPsi
      rw [if_neg (fun q => q h), ← cp2_eq h]
      rfl
    have h2 : resM2 (fun _ => p) (fun _ => lessN) 1 = ((ec2.grp.ns lessN (cp2 p)).1, 0) := by
      rw [resM2_1, if_neg (fun q => q h), wv_less]
    have a1 : (resPsi p).2 = 0 := by rw [h1]
    have a2 : (resPsi p).1 = (psi (cp2 p)).1 := by rw [h1]
    have a3 : (resM2 (fun _ => p) (fun _ => lessN) 1).1 = (ec2.grp.ns lessN (cp2 p)).1 := by rw [h2]
    rw [a1, a2, a3]
    constructor
    · rintro ⟨_, e⟩
      refine ⟨h, ?_⟩
      have e2 := (in_iff (cp2 p)).1 (Subtype.ext e)
      rw [e2] at hr
      apply Classical.byContradiction
      intro hn
      have h3 := jto_some (K := F2) (inv := iv2) hn
      rw [show jto F2 iv2 _ = _ from hr] at h3
      cases h3
    · rintro ⟨_, e⟩
      refine ⟨rfl, ?_⟩
      have e2 : ec2.grp.ns ord (cp2 p) = ec2.grp.zero := Subtype.ext ((show jto F2 iv2 _ = _ from hr).symm.trans (jto_zero e))
      exact congrArg Subtype.val ((in_iff (cp2 p)).2 e2)
  · constructor
    · rintro ⟨e, _⟩
      have h1 : resPsi p = (some (F2.zero, F2.zero), (ckN2 p).1) := if_pos h
      rw [h1] at e
      exact (h e).elim
    · rintro ⟨e, _⟩
      exact (h e).elim
theorem rin2_ok (p : G2N) (args : List Value) (w : World) (ha : CAs w [.v (.fl (gq2 p))] args) : Good Tryz.prog 31 (.one (.im (.bool (in2P p)))) args w := by
  have hi := in2P_is p
  by_cases h1 : (ckN2 p).1 = 0
  · by_cases h2 : (rtm2 (wd2 p) Go.Proofs.YthlcjdcjnioeoaaGreat.FR.M (lenF Go.Proofs.YthlcjdcjnioeoaaGreat.FR.M) (lenF Go.Proofs.YthlcjdcjnioeoaaGreat.FR.M)).2.2 = F2.zero
    · rw [hi.2 ⟨h1, h2⟩]
      exact funB_sound hmix (fun _ s => ok_works) (qG_ok Tryz.prog) Tryz.func31 (run_rin2_b p) ⟨eql_t h1, ck2_bl h1, by rw [h2], trivial⟩ ha
    · rw [Bool.eq_false_iff.2 (fun e => h2 (hi.1 e).2)]
      exact funB_sound hmix (fun _ s => ok_works) (qG_ok Tryz.prog) Tryz.func31 (run_rin2_c p) ⟨eql_t h1, ck2_bl h1, flat_ne2 h2, trivial⟩ ha
  · rw [Bool.eq_false_iff.2 (fun e => h1 (hi.1 e).1)]
    exact funB_sound hmix (fun _ s => ok_works) (qG_ok Tryz.prog) Tryz.func31 (run_rin2_a p) ⟨eql_f h1, trivial⟩ ha
noncomputable def gIc (c : Bool) : Ent := g1 rg2 fun p => ([in2P p = c], .one (.im (.bool c)))
theorem gIc_ok (c : Bool) : ∀ cs pre r, gIc c cs = some (pre, r) → allP pre → ∀ (args : List Value) (w : World), CAs w cs args → Good Tryz.prog 30 r args w :=
  g1_ok (op := fun p => ([in2P p = c], .one (.im (.bool c)))) rg2_ok fun p hp args w ha => by
    have h := in2_ok p args w ha
    rw [show in2P p = c from hp.1] at h
    exact h
theorem gIr_ok (c : Bool) : ∀ cs pre r, gIc c cs = some (pre, r) → allP pre → ∀ (args : List Value) (w : World), CAs w cs args → Good Tryz.prog 31 r args w :=
  g1_ok (op := fun p => ([in2P p = c], .one (.im (.bool c)))) rg2_ok fun p hp args w ha => by
    have h := rin2_ok p args w ha
    rw [show in2P p = c from hp.1] at h
    exact h
noncomputable def T_tw (c : Bool) : Tab := ((T_works.add 27 (g1 rg2 fun p => ([], .many [.fl (gf2 (resPsi p).1), .im (.int .i64 (resPsi p).2)]))).add 30 (gIc c)).add 31 (gIc c)
theorem ok_tw (c : Bool) : TabOk Tryz.prog (T_tw c) := ((ok_works.add Tryz.func27 (by kernel_rfl) (by kernel_rfl) (g1_ok rg2_ok fun p hp args w ha => rpsi_ok p args w ha)).add Tryz.func30 (by kernel_rfl) (by kernel_rfl) (gIc_ok c)).add Tryz.func31 (by kernel_rfl) (by kernel_rfl) (gIr_ok c)
set_option maxRecDepth 100000 in
theorem run_twist_true (p q : G2N) (n : Nat) : funB Tryz.prog (qG Tryz.prog) (fun _ => ⟨fun s => T_tw true, fun s => true, assoc [(72, .bool true), (82, .bool true), (93, .bool true), (104, .bool true), (115, .bool true)]⟩) Tryz.f4 120 [.v (.fl (gq2 p)), .v (.fl (gq2 q)), .v (.fl [.q n])] = some ([intOp .eql .i64 (ck2 p.1 p.2.1 p.2.2).1 (ck2 p.1 p.2.1 p.2.2).1 = some (.bool true), flat (gf2 (resS2 (p2 p q) 2).1) = flat (gf2 (rresA2 p q).1), intOp .eql .i64 (resS2 (p2 p q) 2).2 (rresA2 p q).2 = some (.bool true), flat (gf2 (resM2 (fun _ => p) (fun _ => n) 1).1) = flat (gf2 (rresM2 p n).1), intOp .eql .i64 (resM2 (fun _ => p) (fun _ => n) 1).2 (rresM2 p n).2 = some (.bool true), flat (gf2 (resN2 p).1) = flat (gf2 (rresN2 p).1), intOp .eql .i64 (resN2 p).2 (rresN2 p).2 = some (.bool true), flat (gf2 (resPsi p).1) = flat (gf2 (resPsi p).1), intOp .eql .i64 (resPsi p).2 (resPsi p).2 = some (.bool true), in2P p = true, in2P p = true], .one (.im (.bool true))) := by kernel_rfl
set_option maxRecDepth 100000 in
theorem run_twist_false (p q : G2N) (n : Nat) : funB Tryz.prog (qG Tryz.prog) (fun _ => ⟨fun s => T_tw false, fun s => true, assoc [(72, .bool true), (82, .bool true), (93, .bool true), (104, .bool true), (115, .bool true)]⟩) Tryz.f4 120 [.v (.fl (gq2 p)), .v (.fl (gq2 q)), .v (.fl [.q n])] = some ([intOp .eql .i64 (ck2 p.1 p.2.1 p.2.2).1 (ck2 p.1 p.2.1 p.2.2).1 = some (.bool true), flat (gf2 (resS2 (p2 p q) 2).1) = flat (gf2 (rresA2 p q).1), intOp .eql .i64 (resS2 (p2 p q) 2).2 (rresA2 p q).2 = some (.bool true), flat (gf2 (resM2 (fun _ => p) (fun _ => n) 1).1) = flat (gf2 (rresM2 p n).1), intOp .eql .i64 (resM2 (fun _ => p) (fun _ => n) 1).2 (rresM2 p n).2 = some (.bool true), flat (gf2 (resN2 p).1) = flat (gf2 (rresN2 p).1), intOp .eql .i64 (resN2 p).2 (rresN2 p).2 = some (.bool true), flat (gf2 (resPsi p).1) = flat (gf2 (resPsi p).1), intOp .eql .i64 (resPsi p).2 (resPsi p).2 = some (.bool true), in2P p = false, in2P p = false], .one (.im (.bool true))) := by kernel_rfl
theorem twist_calls (p q : G2N) (n : Nat) (w : World) : Calls Tryz.prog 4 #[.agg (flat (gq2 p)).toArray, .agg (flat (gq2 q)).toArray, .agg (flat (q1 n)).toArray] w (fun e w' => e = .returned (.bool true) ∧ Below w.heap.size w w') := by
  cases h : in2P p with
  | true => exact funB_sound (r := .one (.im (.bool true))) hmix (fun _ s => ok_tw true) (qG_ok Tryz.prog) Tryz.func4 (run_twist_true p q n) ⟨eqi _, by rw [add2_same], by rw [add2_same]; exact eqi _, by rw [mul2_same], by rw [mul2_same]; exact eqi _, by rw [neg2_same], by rw [neg2_same]; exact eqi _, rfl, eqi _, h, h, trivial⟩ (args := [.agg (flat (gq2 p)).toArray, .agg (flat (gq2 q)).toArray, .agg (flat (q1 n)).toArray]) ⟨rfl, rfl, rfl, trivial⟩
  | false => exact funB_sound (r := .one (.im (.bool true))) hmix (fun _ s => ok_tw false) (qG_ok Tryz.prog) Tryz.func4 (run_twist_false p q n) ⟨eqi _, by rw [add2_same], by rw [add2_same]; exact eqi _, by rw [mul2_same], by rw [mul2_same]; exact eqi _, by rw [neg2_same], by rw [neg2_same]; exact eqi _, rfl, eqi _, h, h, trivial⟩ (args := [.agg (flat (gq2 p)).toArray, .agg (flat (gq2 q)).toArray, .agg (flat (q1 n)).toArray]) ⟨rfl, rfl, rfl, trivial⟩
end Go.Proofs.YthlcjdcjnioeoaaGreat.Ex
namespace Go.Proofs.YthlcjdcjnioeoaaGreat
set_option linter.unusedVariables false
open Go.ChangeShapes Go.WideShapes Go.ChangeAt Go.RowKit

theorem own : ownKnob Tryz.prog.godebug = none := by kernel_rfl
theorem laidOut : laidOutB Tryz.prog = true := by kernel_rfl

theorem u64_cells : Tryz.prog.cellsOf 22 = 1 := by kernel_rfl
theorem list4 {α : Type} (l : List α) (h : (⟨l⟩ : Array α).size = 4) : ∃ a b c d, l = [a, b, c, d] := by
  match l, h with
  | [a, b, c, d], _ => exact ⟨a, b, c, d, rfl⟩

theorem nat_of_wf {n : Int} (h : (Lit.int .u64 n).wf = true) : ∃ k : Nat, n = (k : Int) ∧ k < 18446744073709551616 := by
  obtain ⟨h1, h2⟩ := bounds_u64 h
  obtain ⟨k, rfl⟩ := Int.eq_ofNat_of_zero_le h1
  exact ⟨k, rfl, by omega⟩

end Go.Proofs.YthlcjdcjnioeoaaGreat
