/-
  The calls of limbs.Bytes and limbs.Read, and of the reference's Read: for any number of four words, any bytes, in any world. Conditions: each word below 2^64.
  The call of the reference's Bytes, which appends: for any number of four words, in any world. Conditions: each word below 2^64.
  Plain numbers behind the field's calls: one step of a product by words over a modulus, sums and differences modulo it. No program in sight. Conditions: none.
  Words of a number. Conditions: as each law says.
  A reckoner of straight Go code over flat values, on facts about slots and blocks: its operations, each one right. Of whatever program. Conditions: none.
-/
import Derived.Deep.LoopGhost
import Derived.RegionTactic
import Derived.Laws.AppendOwn
import Derived.Laws.OwnMore
import Derived.KernelRfl
import GoSem.Claim
import Derived.Below
import Derived.Deep.MidRow
import Derived.Great.BuildSlice
import Derived.Test.YtebaoemoeckgaaaPo00
namespace Go.Proofs.Ytebaoemoeckgaaa
set_option linter.unusedVariables false
set_option linter.unusedSimpArgs false
open Go.RowKit

/-- a block of bytes -/
def RowB (w : World) (b n : Nat) (P : Nat → Nat) : Prop := ∀ k, k < n → w.cell? ⟨b, k, none⟩ = some (.int .u8 (P k : Nat)) ∧ w.frozen? ⟨b, k, none⟩ = false
theorem RowB.below {w w' : World} {b n : Nat} {P : Nat → Nat} (h : RowB w b n P) {B : Nat} (hb : Below B w w') (hB : b < B) : RowB w' b n P := fun k hk =>
  ⟨(hb.cell (p := ⟨b, k, none⟩) hB).trans (h k hk).1, (hb.frozen (p := ⟨b, k, none⟩) hB).trans (h k hk).2⟩
theorem RowB.set {w : World} {b n i v : Nat} {P : Nat → Nat} (h : RowB w b n P) (hi : i < n) : RowB (w.setCell ⟨b, i, none⟩ (.int .u8 (v : Nat))) b n (upd P i v) := by
  intro k hk
  refine ⟨?_, by rw [World.frozen?_setCell]; exact (h k hk).2⟩
  unfold upd
  by_cases e : k = i
  · subst e; rw [if_pos rfl]; exact World.cell?_setCell_same (h := (h k hk).1) ..
  · rw [if_neg e, World.cell?_setCell_other (h := fun he => e (by simpa using (congrArg Addr.off he).symm)) ..]; exact (h k hk).1
theorem RowB.other {w : World} {b n i : Nat} {P : Nat → Nat} (h : RowB w b n P) {c : Nat} (hc : c ≠ b) (x : Value) : RowB (w.setCell ⟨c, i, none⟩ x) b n P := by
  intro k hk
  exact ⟨by rw [World.cell?_setCell_other (h := fun he => hc (by simpa using congrArg Addr.block he)) ..]; exact (h k hk).1, by rw [World.frozen?_setCell]; exact (h k hk).2⟩
theorem RowB.drewN {w : World} {b n : Nat} {P : Nat → Nat} (h : RowB w b n P) (m : Nat) : RowB (w.drewN m) b n P := h
theorem RowB.ext {w : World} {b n : Nat} {P R : Nat → Nat} (h : RowB w b n P) (e : ∀ k, k < n → P k = R k) : RowB w b n R := fun k hk => ⟨by rw [← e k hk]; exact (h k hk).1, (h k hk).2⟩

/-- the number of a list of bytes -/
def ReadPost (P : Nat → Nat → Prop) (w : World) (e : Ending) (w' : World) : Prop :=
  ∃ s0 s1 s2 s3 c : Nat, e = .returned (.tuple #[.agg #[.int .u64 s0, .int .u64 s1, .int .u64 s2, .int .u64 s3], .int .i64 c]) ∧ ok4 s0 s1 s2 s3 ∧ P (val4 s0 s1 s2 s3) c ∧ Below w.heap.size w w'

set_option maxRecDepth 100000 in
set_option maxHeartbeats 1000000 in
theorem read_32 (g off cap : Nat) (B : Nat → Nat) (hB : ∀ k, B k < 256) (w : World) (hg : g < w.heap.size) (hc : ∀ k, k < 32 → w.cell? ⟨g, off + k, none⟩ = some (.int .u8 (B k : Nat))) :
    Calls Try.prog 55 #[.slice (some ⟨g, off, none⟩) 32 cap] w (ReadPost (fun n c => n = hor B 0 32 ∧ c = 0) w) := by
  have HC := Lib.hid hc
  have HB := Lib.hid hB
  have HE := Lib.hid (tot_hor B 0 32)
  have HT := Lib.hid (fun i => tot_lt 256 (fun k => B (0 + 32 - 1 - k)) (by omega) i (fun k _ => hB _))
  clear hc hB
  generalize eD : (fun k => B (0 + 32 - 1 - k)) = D at *
  have hD : ∀ i p, i < 32 → p = 31 - i → B p = D i := fun i p hi hp => by
    rw [← eD, hp]
  have HD := Lib.hid hD
  clear hD eD
  go_enter Try.func55, Try.ntmps55
  go_wp2_with fail
  have R0 := Lib.hid (Row4.new (w.alloc (.cells #[.int .u64 0, .int .u64 0, .int .u64 0, .int .u64 0] 45)) 0 0 0 0 45).rows
  have Z0 := Lib.hid ((Row4.new w 0 0 0 0 45).alloc (by simp) (.cells #[.int .u64 0, .int .u64 0, .int .u64 0, .int .u64 0] 45))
  go_loopw [10] (fun x wr => ∃ (i : Nat) (P : Nat → Nat), i ≤ 32 ∧ x = .int .i64 i ∧ (∀ k, P k < 18446744073709551616) ∧ Hid (tot 18446744073709551616 P 4 = tot 256 D i) ∧ RowIs wr (w.heap.size + 1) 4 P ∧ Row4 wr w.heap.size 0 0 0 0 ∧ Below w.heap.size w wr ∧ w.heap.size + 1 < wr.heap.size) (fun x _ => 32 - (intOf x).toNat)
  case atStart =>
    refine ⟨0, fnOf [0, 0, 0, 0], by omega, rfl, fun k => fn4_lt ⟨by omega, by omega, by omega, by omega⟩ k, Lib.hid rfl, by simpa using R0.out, Z0.out, ?_, by simp⟩
    exact ((Below.refl _ _).alloc (Nat.le_refl _) _).alloc (by simp) _
  case round =>
    obtain ⟨i, P, hi, rfl, lP, tP, rP, z0, hb, hz⟩ := hrel
    have HBl := Lib.hid hb
    have HZ := Lib.hid z0
    have HlP := Lib.hid lP
    have HR := Lib.hid rP
    by_cases hlt : i < 32
    · obtain ⟨j, m, s, p, q1, q2, q3, q4, hj, hm, hs, hp, e⟩ := ex_ib hlt
      have cx := rP.cell hj
      have fx := rP.free hj
      have cb : wr.cell? ⟨g, off + p, none⟩ = some (.int .u8 (B p : Nat)) := (hb.cell (p := ⟨g, off + p, none⟩) hg).trans (HC.out p hp)
      have lb := HB.out p
      have hbD := HD.out i p hlt e.out.2.2
      have st := read_step (d := D i) hj hm e.out.1 e.out.2.1 tP.out (HT.out i)
      obtain ⟨u, z, e1, e2, lu, lz, ez⟩ := ex_up8 lb hs st.1
      have HN := Lib.hid (show tot 18446744073709551616 (upd P j z) 4 = tot 256 D (i + 1) by
        rw [ez.out, hbD, st.2, tot_succ])
      have lx := lP j
      generalize P j = x at *
      generalize B p = b at *
      clear z0 hb rP lP tP st hbD e ez
      go_wp2_with fail
      go_region
      go_wp2_with fail
      go_roundw
      case rel => exact ⟨i + 1, upd P j z, by omega, by go_num, fun k => by unfold upd; split; exact lz; exact HlP.out k, HN, (HR.out.drewN 1).set hj, (HZ.out.drewN 1).other (by omega) _, (HBl.out.drew).setCell (p := ⟨w.heap.size + 1, j, none⟩) (by simp) _, by show _ < (wr.setCell _ _).heap.size; rw [World.size_setCell]; exact hz⟩
      case measure => first | (simp [intOf]; done) | (simp [intOf]; omega)
    · obtain rfl : i = 32 := by omega
      have HF := Lib.hid ((val4_tot P).trans (tP.out.trans HE.out))
      have c0 := rP.cell (show 0 < 4 by omega); have c1 := rP.cell (show 1 < 4 by omega); have c2 := rP.cell (show 2 < 4 by omega); have c3 := rP.cell (show 3 < 4 by omega)
      have k0 := z0.c0; have k1 := z0.c1; have k2 := z0.c2; have k3 := z0.c3; have kf := z0.fr
      have l0 := lP 0; have l1 := lP 1; have l2 := lP 2; have l3 := lP 3
      clear rP z0 hb lP tP
      go_wp2_with fail
      refine bodyPost_ret (v := .tuple #[.agg #[.int .u64 (P 0), .int .u64 (P 1), .int .u64 (P 2), .int .u64 (P 3)], .int .i64 0]) (by simp [results, Try.results55, go_sem, *]) rfl ?_
      exact ⟨P 0, P 1, P 2, P 3, 0, rfl, ⟨l0, l1, l2, l3⟩, ⟨HF.out, rfl⟩, below_set4 HBl.out (by omega) _ _ _ _⟩

end Go.Proofs.Ytebaoemoeckgaaa
namespace Go.Proofs.Ytebaoemoeckgaaa
set_option linter.unusedVariables false
set_option linter.unusedSimpArgs false
open Go.RowKit

theorem u8_info : (Try.prog.info? 5).map (fun i => (i.zero, i.size, i.bytes)) = some (some (.int .u8 0), 1, 1) := by kernel_rfl
def bcells (A n : Nat) : List Value := (List.range n).map fun p => .int .u8 (byteAt A p : Nat)
theorem bcells_succ (A n : Nat) : bcells A (n + 1) = bcells A n ++ [.int .u8 (byteAt A n : Nat)] := by
  unfold bcells; rw [List.range_succ, List.map_append]; rfl
theorem own_ge {w : World} {base : Nat} {e : TypeId} {size : Nat} {v : Value} {n : Nat} {xs : List Value} (h : w.ownsRow base e size v n xs) {k : Nat} (hk : v.ownBlock = some k) : base ≤ k := by
  obtain ⟨_, ⟨rfl, _⟩ | ⟨g, cap, cur, rfl, hg, _⟩⟩ := h
  · cases hk
  · cases hk; exact hg
theorem own_form {w : World} {base : Nat} {e : TypeId} {size : Nat} {v : Value} {n : Nat} {xs : List Value} (h : w.ownsRow base e size v n xs) (hn : 0 < n) : ∃ g cap, v = .slice (some ⟨g, 0, none⟩) n cap ∧ base ≤ g ∧ g < w.heap.size := by
  obtain ⟨_, ⟨_, h0⟩ | ⟨g, cap, cur, rfl, hg, hh, _⟩⟩ := h
  · omega
  · refine ⟨g, cap, rfl, hg, ?_⟩
    rcases Nat.lt_or_ge g w.heap.size with k | k
    · exact k
    · rw [Array.getElem?_eq_none k] at hh; cases hh
theorem own_cell {w : World} {base A g cap n : Nat} {e : TypeId} (h : w.ownsRow base e 1 (.slice (some ⟨g, 0, none⟩) n cap) n (bcells A n)) (k : Nat) (hk : k < n) : w.cell? ⟨g, k, none⟩ = some (.int .u8 (byteAt A k : Nat)) := by
  rw [h.cellAt k (by omega)]
  unfold bcells
  simp [hk]

end Go.Proofs.Ytebaoemoeckgaaa
namespace Go.Proofs.Ytebaoemoeckgaaa
set_option linter.unusedVariables false

/-- what a field reckons with: the modulus, the inverse of its lowest word negated, the square of 2^256, and what times 2^256 is one -/
structure FC where
  m0 : Nat
  m1 : Nat
  m2 : Nat
  m3 : Nat
  inv : Nat
  s0 : Nat
  s1 : Nat
  s2 : Nat
  s3 : Nat
  Ri : Nat
def FC.M (F : FC) : Nat := val4 F.m0 F.m1 F.m2 F.m3
def FC.R (_ : FC) : Nat := 115792089237316195423570985008687907853269984665640564039457584007913129639936
structure FC.Ok (F : FC) : Prop where
  okm : ok4 F.m0 F.m1 F.m2 F.m3
  oks : ok4 F.s0 F.s1 F.s2 F.s3
  inv : F.inv < 18446744073709551616
  turn : (F.inv * F.m0 + 1) % 18446744073709551616 = 0
  two : 2 * F.M < 115792089237316195423570985008687907853269984665640564039457584007913129639936
  ri : F.R * F.Ri % F.M = 1
  sq : val4 F.s0 F.s1 F.s2 F.s3 = F.R * F.R % F.M
  gt : 2 < F.M
  odd : F.M % 2 = 1
def FP : FC := ⟨0x3c208c16d87cfd47, 0x97816a916871ca8d, 0xb85045b68181585d, 0x30644e72e131a029, 0x87d20782e4866389, 0xf32cfc5b538afa89, 0xb5e71911d44501fb, 0x47ab1eff0a417ff6, 0x06d89f71cab8351f, 20988524275117001072002809824448087578619730785600314334253784976379291040311⟩
def FR : FC := ⟨0x43e1f593f0000001, 0x2833e84879b97091, 0xb85045b68181585d, 0x30644e72e131a029, 0xc2e1f593efffffff, 0x1bb8e645ae216da7, 0x53fe3ab1e35c59e3, 0x8c49833d53bb8085, 0x0216d0b17f4e44a5, 9915499612839321149637521777990102151350674507940716049588462388200839649614⟩
theorem FP_M : FP.M = 21888242871839275222246405745257275088696311157297823662689037894645226208583 := by kernel_rfl
theorem FR_M : FR.M = 21888242871839275222246405745257275088548364400416034343698204186575808495617 := by kernel_rfl
theorem FP_ok : FP.Ok := ⟨by unfold ok4; decide, by unfold ok4; decide, by decide, by kernel_rfl, by decide, by kernel_rfl, by kernel_rfl, by decide, by kernel_rfl⟩
theorem FR_ok : FR.Ok := ⟨by unfold ok4; decide, by unfold ok4; decide, by decide, by kernel_rfl, by decide, by kernel_rfl, by kernel_rfl, by decide, by kernel_rfl⟩

theorem round_arith {t0 t1 t2 t3 x y0 y1 y2 y3 m0 m1 m2 m3 o0 l0 cl c0 o1 l1 c1 n0 o2 l2 c2 n1 o3 l3 c3 n2 : Nat}
    (e0 : l0 + 18446744073709551616 * o0 = x * y0 + t0) (f0 : 0 + 18446744073709551616 * c0 = cl * m0 + l0)
    (e1 : l1 + 18446744073709551616 * o1 = x * y1 + t1 + o0) (f1 : n0 + 18446744073709551616 * c1 = cl * m1 + l1 + c0)
    (e2 : l2 + 18446744073709551616 * o2 = x * y2 + t2 + o1) (f2 : n1 + 18446744073709551616 * c2 = cl * m2 + l2 + c1)
    (e3 : l3 + 18446744073709551616 * o3 = x * y3 + t3 + o2) (f3 : n2 + 18446744073709551616 * c3 = cl * m3 + l3 + c2) :
    18446744073709551616 * val4 n0 n1 n2 (o3 + c3) = val4 t0 t1 t2 t3 + x * val4 y0 y1 y2 y3 + cl * val4 m0 m1 m2 m3 := by
  unfold val4
  have ex : x * (y0 + 18446744073709551616 * (y1 + 18446744073709551616 * (y2 + 18446744073709551616 * y3))) = x * y0 + 18446744073709551616 * (x * y1 + 18446744073709551616 * (x * y2 + 18446744073709551616 * (x * y3))) := by
    simp only [Nat.mul_add, Nat.mul_left_comm x 18446744073709551616]
  have ec : cl * (m0 + 18446744073709551616 * (m1 + 18446744073709551616 * (m2 + 18446744073709551616 * m3))) = cl * m0 + 18446744073709551616 * (cl * m1 + 18446744073709551616 * (cl * m2 + 18446744073709551616 * (cl * m3))) := by
    simp only [Nat.mul_add, Nat.mul_left_comm cl 18446744073709551616]
  rw [ex, ec]
  generalize x * y0 = p0 at *
  generalize x * y1 = p1 at *
  generalize x * y2 = p2 at *
  generalize x * y3 = p3 at *
  generalize cl * m0 = q0 at *
  generalize cl * m1 = q1 at *
  generalize cl * m2 = q2 at *
  generalize cl * m3 = q3 at *
  omega
theorem clear_zero {l inv m : Nat} (h : (inv * m + 1) % 18446744073709551616 = 0) : (l * inv % 18446744073709551616 * m + l) % 18446744073709551616 = 0 := by
  have e : l * inv * m + l = l * (inv * m + 1) := by rw [Nat.mul_add, Nat.mul_one, Nat.mul_assoc]
  rw [Nat.add_mod, Nat.mul_mod, Nat.mod_mod, ← Nat.mul_mod, ← Nat.add_mod, e, Nat.mul_mod, h, Nat.mul_zero, Nat.zero_mod]
theorem round_bound {N T x Y cl M : Nat} (e : 18446744073709551616 * N = T + x * Y + cl * M) (ht : T < 2 * M) (hx : x < 18446744073709551616) (hy : Y < M) (hc : cl < 18446744073709551616) : N < 2 * M := by
  have h1 := mul_le (show x ≤ 18446744073709551615 by omega) (show Y ≤ M by omega)
  have h2 := Nat.mul_le_mul_right M (show cl ≤ 18446744073709551615 by omega)
  generalize x * Y = p at *
  generalize cl * M = q at *
  omega
theorem val4_top {n0 n1 n2 s B : Nat} (h : val4 n0 n1 n2 s < 115792089237316195423570985008687907853269984665640564039457584007913129639936) : s < 18446744073709551616 := by
  unfold val4 at h; omega

/-- the first k words' product, divided k times by 2^64: what is gathered -/
def Gath (M : Nat) (X : Nat → Nat) (Y k T : Nat) : Prop := T < 2 * M ∧ ∃ q, T * 18446744073709551616 ^ k = (X 0 * (if 0 < k then 1 else 0) + 18446744073709551616 * (X 1 * (if 1 < k then 1 else 0) + 18446744073709551616 * (X 2 * (if 2 < k then 1 else 0) + 18446744073709551616 * (X 3 * (if 3 < k then 1 else 0))))) * Y + q * M
theorem gath_zero {M Y : Nat} (X : Nat → Nat) (hM : 0 < M) : Gath M X Y 0 0 := ⟨by omega, 0, by simp⟩
theorem gath_step {M Y T N cl : Nat} {X : Nat → Nat} {k : Nat} (hk : k < 4) (g : Gath M X Y k T) (hx : X k < 18446744073709551616) (hy : Y < M) (hc : cl < 18446744073709551616) (e : 18446744073709551616 * N = T + X k * Y + cl * M) : Gath M X Y (k + 1) N := by
  obtain ⟨ht, q, h⟩ := g
  refine ⟨round_bound e ht hx hy hc, q + cl * 18446744073709551616 ^ k, ?_⟩
  have e' : N * 18446744073709551616 ^ (k + 1) = T * 18446744073709551616 ^ k + X k * Y * 18446744073709551616 ^ k + cl * M * 18446744073709551616 ^ k := by
    rw [Nat.pow_succ', ← Nat.mul_assoc, Nat.mul_comm N, e, Nat.add_mul, Nat.add_mul]
  rw [e', h]
  have : k = 0 ∨ k = 1 ∨ k = 2 ∨ k = 3 := by omega
  have hxa : ∀ b : Nat, X k * Y * b = b * (X k * Y) := fun b => Nat.mul_comm _ _
  have hca : ∀ b : Nat, cl * M * b = b * (cl * M) := fun b => Nat.mul_comm _ _
  have hqa : ∀ b : Nat, (q + cl * b) * M = q * M + b * (cl * M) := fun b => by rw [Nat.add_mul, Nat.mul_right_comm, Nat.mul_comm (cl * M)]
  rw [hxa, hca, hqa]
  rcases this with rfl | rfl | rfl | rfl <;> simp [Nat.add_mul, Nat.mul_assoc] <;> omega
/-- the end of a product: what is gathered is it, divided by 2^256, but for multiples -/
theorem gath_end {F : FC} (hF : F.Ok) {Y T x0 x1 x2 x3 : Nat} {X : Nat → Nat} (h0 : X 0 = x0) (h1 : X 1 = x1) (h2 : X 2 = x2) (h3 : X 3 = x3) (g : Gath F.M X Y 4 T) : T < 2 * F.M ∧ T % F.M = val4 x0 x1 x2 x3 * Y * F.Ri % F.M := by
  obtain ⟨ht, q, h⟩ := g
  refine ⟨ht, ?_⟩
  simp only [h0, h1, h2, h3, show (0 : Nat) < 4 by omega, show (1 : Nat) < 4 by omega, show (2 : Nat) < 4 by omega, show (3 : Nat) < 4 by omega, if_true, Nat.mul_one] at h
  have hr := hF.ri
  have hR : F.R = 18446744073709551616 ^ 4 := by simp [FC.R]
  have e : T * (F.R * F.Ri) = val4 x0 x1 x2 x3 * Y * F.Ri + F.M * (q * F.Ri) := by
    rw [← Nat.mul_assoc, hR, h, Nat.add_mul, show q * F.M * F.Ri = F.M * (q * F.Ri) by rw [Nat.mul_comm q, Nat.mul_assoc]]
    rfl
  have e2 : T * (F.R * F.Ri) % F.M = T % F.M := by rw [Nat.mul_mod, hr, Nat.mul_one, Nat.mod_mod]
  rw [← e2, e, Nat.add_mul_mod_self_left]
theorem once_mod {t M : Nat} (h : t < 2 * M) : t % M = if t < M then t else t - M := by
  split
  · exact Nat.mod_eq_of_lt ‹_›
  · rw [Nat.mod_eq_sub_mod (by omega), Nat.mod_eq_of_lt (by omega)]
end Go.Proofs.Ytebaoemoeckgaaa
namespace Go.Proofs.Ytebaoemoeckgaaa
set_option linter.unusedVariables false
/-- word i of a number -/
def fw (x i : Nat) : Nat := x / 18446744073709551616 ^ i % 18446744073709551616
theorem fw_ok (x : Nat) : ok4 (fw x 0) (fw x 1) (fw x 2) (fw x 3) := ⟨Nat.mod_lt _ (by omega), Nat.mod_lt _ (by omega), Nat.mod_lt _ (by omega), Nat.mod_lt _ (by omega)⟩
theorem fw_val {x : Nat} (h : x < 115792089237316195423570985008687907853269984665640564039457584007913129639936) : val4 (fw x 0) (fw x 1) (fw x 2) (fw x 3) = x := by
  unfold fw val4
  have e1 : (18446744073709551616 : Nat) ^ 1 = 18446744073709551616 := by simp
  have e2 : (18446744073709551616 : Nat) ^ 2 = 18446744073709551616 * 18446744073709551616 := by simp
  have e3 : (18446744073709551616 : Nat) ^ 3 = 18446744073709551616 * 18446744073709551616 * 18446744073709551616 := by simp
  rw [Nat.pow_zero, Nat.div_one, e1, e2, e3, ← Nat.div_div_eq_div_mul, ← Nat.div_div_eq_div_mul, ← Nat.div_div_eq_div_mul]
  omega
theorem fw_of {s0 s1 s2 s3 x : Nat} (hs : ok4 s0 s1 s2 s3) (hx : x < 115792089237316195423570985008687907853269984665640564039457584007913129639936) (h : val4 s0 s1 s2 s3 = x) : s0 = fw x 0 ∧ s1 = fw x 1 ∧ s2 = fw x 2 ∧ s3 = fw x 3 :=
  val4_inj hs (fw_ok x) (h.trans (fw_val hx).symm)
theorem fp_lt {x : Nat} (h : x < FP.M) : x < 115792089237316195423570985008687907853269984665640564039457584007913129639936 := Nat.lt_trans h (by decide)
theorem fp_pos : 0 < FP.M := by decide
theorem fw_valp {x : Nat} (h : x < FP.M) : val4 (fw x 0) (fw x 1) (fw x 2) (fw x 3) = x := fw_val (fp_lt h)
end Go.Proofs.Ytebaoemoeckgaaa
namespace Go.Proofs.Ytebaoemoeckgaaa.Ex
set_option linter.unusedVariables false
set_option linter.unusedSimpArgs false
open Go.RowKit

abbrev Fq := Fin FP.M
/-- a part of a flat value: a number below p, any number, a cell -/
inductive At | f (x : Fq) | q (x : Nat) | c (v : Value)
def w4 (x : Nat) : List Value := [.int .u64 (fw x 0 : Nat), .int .u64 (fw x 1 : Nat), .int .u64 (fw x 2 : Nat), .int .u64 (fw x 3 : Nat)]
def At.cells : At → List Value
  | .f x => w4 x.1
  | .q x => w4 x
  | .c v => [v]
def At.sz : At → Nat
  | .f _ => 4
  | .q _ => 4
  | .c _ => 1
theorem At.len (a : At) : a.cells.length = a.sz := by cases a <;> rfl
def flat : List At → List Value
  | [] => []
  | a :: r => a.cells ++ flat r
def fsz : List At → Nat
  | [] => 0
  | a :: r => a.sz + fsz r
theorem flat_len : ∀ l : List At, (flat l).length = fsz l
  | [] => rfl
  | a :: r => by simp [flat, fsz, At.len, flat_len r]
/-- a cell -/
def cellAt : List At → Nat → Option Value
  | [], _ => none
  | a :: r, o => bif Nat.blt o a.sz then a.cells[o]? else cellAt r (o - a.sz)
theorem cellAt_spec : ∀ {l : List At} {o : Nat} {v : Value}, cellAt l o = some v → (flat l)[o]? = some v
  | [], o, v, h => by cases h
  | a :: r, o, v, h => by
    unfold cellAt at h
    show (a.cells ++ flat r)[o]? = _
    cases hb : Nat.blt o a.sz <;> rw [hb] at h
    · have hle : a.sz ≤ o := by
        rcases Nat.lt_or_ge o a.sz with q | q
        · have : Nat.blt o a.sz = true := by simpa using q
          rw [hb] at this; cases this
        · exact q
      rw [List.getElem?_append_right (by rw [At.len]; exact hle), At.len]
      exact cellAt_spec h
    · have hlt : o < a.sz := by simpa using hb
      rw [List.getElem?_append_left (by rw [At.len]; exact hlt)]
      exact h
theorem flat_append : ∀ l m : List At, flat (l ++ m) = flat l ++ flat m
  | [], m => rfl
  | a :: r, m => by simp [flat, flat_append r m]
theorem fsz_append (l m : List At) : fsz (l ++ m) = fsz l + fsz m := by rw [← flat_len, flat_append, List.length_append, flat_len, flat_len]
/-- the first n cells -/
def tk : List At → Nat → Option (List At)
  | [], n => bif Nat.beq n 0 then some [] else none
  | a :: r, n => bif Nat.beq n 0 then some [] else bif Nat.ble a.sz n then (tk r (n - a.sz)).map (a :: ·) else none
/-- all but the first n cells -/
def dp : List At → Nat → Option (List At)
  | [], n => bif Nat.beq n 0 then some [] else none
  | a :: r, n => bif Nat.beq n 0 then some (a :: r) else bif Nat.ble a.sz n then dp r (n - a.sz) else none
theorem tk_spec : ∀ (l : List At) (n : Nat) (t : List At), tk l n = some t → ∃ r, l = t ++ r ∧ fsz t = n
  | [], n, t, h => by
    unfold tk at h
    cases hn : Nat.beq n 0 <;> rw [hn] at h
    · cases h
    · cases h; exact ⟨[], rfl, (Nat.eq_of_beq_eq_true hn).symm⟩
  | a :: r, n, t, h => by
    unfold tk at h
    cases hn : Nat.beq n 0 <;> rw [hn] at h
    · cases hs : Nat.ble a.sz n <;> rw [hs] at h
      · cases h
      · cases hr : tk r (n - a.sz) with
        | none => rw [hr] at h; cases h
        | some t' =>
          rw [hr] at h; cases h
          obtain ⟨r', e, s⟩ := tk_spec r _ _ hr
          refine ⟨r', by rw [e]; rfl, ?_⟩
          have := Nat.le_of_ble_eq_true hs
          show a.sz + fsz t' = n
          omega
    · cases h; exact ⟨a :: r, rfl, (Nat.eq_of_beq_eq_true hn).symm⟩
theorem dp_spec : ∀ (l : List At) (n : Nat) (r : List At), dp l n = some r → ∃ t, l = t ++ r ∧ fsz t = n
  | [], n, r, h => by
    unfold dp at h
    cases hn : Nat.beq n 0 <;> rw [hn] at h
    · cases h
    · cases h; exact ⟨[], rfl, (Nat.eq_of_beq_eq_true hn).symm⟩
  | a :: l, n, r, h => by
    unfold dp at h
    cases hn : Nat.beq n 0 <;> rw [hn] at h
    · cases hs : Nat.ble a.sz n <;> rw [hs] at h
      · cases h
      · obtain ⟨t, e, s⟩ := dp_spec l _ _ h
        refine ⟨a :: t, by rw [e]; rfl, ?_⟩
        have := Nat.le_of_ble_eq_true hs
        show a.sz + fsz t = n
        omega
    · cases h; exact ⟨[], rfl, (Nat.eq_of_beq_eq_true hn).symm⟩
/-- n cells from o on -/
def seg (l : List At) (o n : Nat) : Option (List At) := match dp l o with | some r => tk r n | none => none
theorem seg_spec {l : List At} {o n : Nat} {t : List At} (h : seg l o n = some t) : ∃ p s, l = p ++ (t ++ s) ∧ fsz p = o ∧ fsz t = n := by
  unfold seg at h
  cases hd : dp l o with
  | none => rw [hd] at h; cases h
  | some r =>
    rw [hd] at h
    obtain ⟨p, e, hp⟩ := dp_spec _ _ _ hd
    obtain ⟨s, e2, ht⟩ := tk_spec _ _ _ h
    exact ⟨p, s, by rw [e, e2], hp, ht⟩
/-- l with v in the place of the cells from o on -/
def put (l : List At) (o : Nat) (v : List At) : Option (List At) :=
  match tk l o, dp l o with
  | some a, some b => match dp b (fsz v) with | some s => some (a ++ (v ++ s)) | none => none
  | _, _ => none
theorem flat_eq_of_len : ∀ {a b : List At} {r s : List At}, a ++ r = b ++ s → fsz a = fsz b → flat a = flat b ∧ flat r = flat s := by
  intro a b r s h hs
  have := congrArg flat h
  rw [flat_append, flat_append] at this
  exact List.append_inj this (by rw [flat_len, flat_len, hs])
theorem put_spec {l : List At} {o : Nat} {v l' : List At} (h : put l o v = some l') : ∃ a m s, l = a ++ (m ++ s) ∧ flat l' = flat a ++ (flat v ++ flat s) ∧ fsz a = o ∧ fsz m = fsz v := by
  unfold put at h
  cases ht : tk l o with
  | none => rw [ht] at h; cases h
  | some a =>
    cases hd : dp l o with
    | none => rw [ht, hd] at h; cases h
    | some b =>
      rw [ht, hd] at h
      simp only at h
      cases hb : dp b (fsz v) with
      | none => rw [hb] at h; cases h
      | some s =>
        rw [hb] at h; cases h
        obtain ⟨r, e, s1⟩ := tk_spec _ _ _ ht
        obtain ⟨p, e2, s2⟩ := dp_spec _ _ _ hd
        obtain ⟨m, e3, s3⟩ := dp_spec _ _ _ hb
        obtain ⟨h1, h2⟩ := flat_eq_of_len (e.symm.trans e2) (s1.trans s2.symm)
        refine ⟨p, m, s, by rw [e2, e3], ?_, s2, s3⟩
        rw [flat_append, flat_append, h1]
/-- what is no struct and no array -/
def isScal : Value → Bool
  | .bool _ => true
  | .int _ _ => true
  | .func _ _ _ => true
  | .slice _ _ _ => true
  | .pointer _ => true
  | _ => false
/-- cells as parts, zeros by fours -/
def nz : List Value → List At
  | .int .u64 (.ofNat 0) :: .int .u64 (.ofNat 0) :: .int .u64 (.ofNat 0) :: .int .u64 (.ofNat 0) :: r => .f ⟨0, fp_pos⟩ :: nz r
  | v :: r => .c v :: nz r
  | [] => []
theorem nz_flat (l : List Value) : flat (nz l) = l := by
  fun_induction nz l with
  | case1 r ih => show w4 0 ++ flat (nz r) = _; rw [ih]; rfl
  | case2 v r h ih => show [v] ++ flat (nz r) = _; rw [ih]; rfl
  | case3 => rfl
/-- four words are a number -/
def nq : List At → List At
  | .c (.int .u64 (.ofNat a)) :: .c (.int .u64 (.ofNat b)) :: .c (.int .u64 (.ofNat c)) :: .c (.int .u64 (.ofNat d)) :: r =>
    bif Nat.blt a 18446744073709551616 && (Nat.blt b 18446744073709551616 && (Nat.blt c 18446744073709551616 && Nat.blt d 18446744073709551616)) then (if h : val4 a b c d < FP.M then .f ⟨val4 a b c d, h⟩ else .q (val4 a b c d)) :: nq r
    else .c (.int .u64 (.ofNat a)) :: .c (.int .u64 (.ofNat b)) :: .c (.int .u64 (.ofNat c)) :: .c (.int .u64 (.ofNat d)) :: nq r
  | v :: r => v :: nq r
  | [] => []
theorem nq_flat (l : List At) : flat (nq l) = flat l := by
  fun_induction nq l with
  | case1 a b c d r hb ih =>
    simp only [Bool.and_eq_true, Nat.blt_eq] at hb
    have h4 : ok4 a b c d := ⟨hb.1, hb.2.1, hb.2.2.1, hb.2.2.2⟩
    have hv : val4 a b c d < 115792089237316195423570985008687907853269984665640564039457584007913129639936 := by
      unfold val4; obtain ⟨h1, h2, h3, h5⟩ := hb; omega
    obtain ⟨e0, e1, e2, e3⟩ := fw_of h4 hv rfl
    have hc : (if h : val4 a b c d < FP.M then At.f ⟨val4 a b c d, h⟩ else At.q (val4 a b c d)).cells = w4 (val4 a b c d) := by split <;> rfl
    show (if h : val4 a b c d < FP.M then At.f ⟨val4 a b c d, h⟩ else At.q (val4 a b c d)).cells ++ flat (nq r) = _
    rw [hc, ih]
    unfold w4
    rw [← e0, ← e1, ← e2, ← e3]
    rfl
  | case2 a b c d r hb ih => simp only [flat, ih]
  | case3 v r h ih => show v.cells ++ flat (nq r) = _; rw [ih]; rfl
  | case4 => rfl
/-- what a call answers -/
inductive TV | im (v : Value) | fl (l : List At)
def TV.den : TV → Value
  | .im v => v
  | .fl l => .agg (flat l).toArray
/-- where a block lies: its number, the place in it, the capacity -/
abbrev Bk := Nat × Nat × Nat
/-- what a slot holds -/
inductive AV | im (v : Value) | fl (l : List At) | pt (k o : Nat) | sl (k o n m : Nat) | tu (l : List TV) | ic (t : Nat) (l : List At) | tf (k n m : Nat) (post : List TV) | so (k n : Nat) | tg (k n : Nat) (ante post : List TV)
def TV.av : TV → AV
  | .im v => .im v
  | .fl l => .fl l
def AV.den (β : Nat → Bk) : AV → Value
  | .im v => v
  | .fl l => .agg (flat l).toArray
  | .pt k o => .pointer (some ⟨(β k).1, (β k).2.1 + o, none⟩)
  | .sl k o n m => .slice (some ⟨(β k).1, (β k).2.1 + o, none⟩) n m
  | .tu l => .tuple (l.map TV.den).toArray
  | .ic t l => .iface t (.agg (flat l).toArray)
  | .tf k n m post => .tuple (.slice (some ⟨(β k).1, (β k).2.1, none⟩) n m :: post.map TV.den).toArray
  | .so k n => .slice (some ⟨(β k).1, (β k).2.1, none⟩) n (β k).2.2
  | .tg k n ante post => .tuple (ante.map TV.den ++ .slice (some ⟨(β k).1, (β k).2.1, none⟩) n (β k).2.2 :: post.map TV.den).toArray
theorem TV.av_den (β : Nat → Bk) (t : TV) : t.av.den β = t.den := by cases t <;> rfl
/-- the block that it points into -/
def AV.key : AV → Option Nat
  | .pt k _ => some k
  | .sl k _ _ _ => some k
  | .tf k _ _ _ => some k
  | .so k _ => some k
  | .tg k _ _ _ => some k
  | _ => none
theorem AV.den_eq {β β' : Nat → Bk} (v : AV) (h : ∀ k, v.key = some k → β' k = β k) : v.den β' = v.den β := by
  cases v with
  | pt k o => simp [AV.den, h k rfl]
  | sl k o n m => simp [AV.den, h k rfl]
  | tf k n m post => simp [AV.den, h k rfl]
  | so k n => simp [AV.den, h k rfl]
  | tg k n ante post => simp [AV.den, h k rfl]
  | _ => rfl
/-- a block that may be appended to -/
def AppAt (w : World) (b e sz n cap : Nat) : Prop := ∃ cur, w.heap[b]? = some (.cells cur e (0, 0)) ∧ n ≤ cap ∧ cap ≤ maxLen ∧ cur.size = cap * sz
inductive Fact | slot (s : Nat) (v : AV) | row (k : Nat) (own : Bool) (l : List At) | at (k b : Nat) | app (k e sz n : Nat)
def Fact.ok (base : Nat) (β : Nat → Bk) (a : Act) (w : World) : Fact → Prop
  | .slot s v => a.tmps[s]? = some (v.den β)
  | .row k own l => (β k).1 < w.heap.size ∧ w.rangeAt (β k).1 (β k).2.1 (flat l) ∧ (own = true → base ≤ (β k).1 ∧ (β k).2.1 = 0 ∧ ∀ j, w.frozen? ⟨(β k).1, j, none⟩ = false) ∧ (own = false → (β k).1 < base)
  | .at k b => (β k).1 = b ∧ (β k).2.1 = 0
  | .app k e sz n => AppAt w (β k).1 e sz n (β k).2.2
def look : List Fact → Nat → Option AV
  | [], _ => none
  | .slot t v :: r, s => bif Nat.beq t s then some v else look r s
  | .row _ _ _ :: r, s => look r s
  | .at _ _ :: r, s => look r s
  | .app _ _ _ _ :: r, s => look r s
theorem look_mem : ∀ {M : List Fact} {s : Nat} {v : AV}, look M s = some v → Fact.slot s v ∈ M
  | .slot t u :: r, s, v, h => by
    unfold look at h
    cases hb : Nat.beq t s <;> rw [hb] at h
    · exact List.mem_cons_of_mem _ (look_mem h)
    · cases h; cases Nat.eq_of_beq_eq_true hb; exact List.mem_cons_self
  | .row _ _ _ :: r, s, v, h => List.mem_cons_of_mem _ (look_mem (M := r) h)
  | .at _ _ :: r, s, v, h => List.mem_cons_of_mem _ (look_mem (M := r) h)
  | .app _ _ _ _ :: r, s, v, h => List.mem_cons_of_mem _ (look_mem (M := r) h)
def rowOf : List Fact → Nat → Option (Bool × List At)
  | [], _ => none
  | .row t o l :: r, s => bif Nat.beq t s then some (o, l) else rowOf r s
  | .slot _ _ :: r, s => rowOf r s
  | .at _ _ :: r, s => rowOf r s
  | .app _ _ _ _ :: r, s => rowOf r s
theorem rowOf_mem : ∀ {M : List Fact} {s : Nat} {o : Bool} {l : List At}, rowOf M s = some (o, l) → Fact.row s o l ∈ M
  | .row t u m :: r, s, o, l, h => by
    unfold rowOf at h
    cases hb : Nat.beq t s <;> rw [hb] at h
    · exact List.mem_cons_of_mem _ (rowOf_mem h)
    · cases h; cases Nat.eq_of_beq_eq_true hb; exact List.mem_cons_self
  | .slot _ _ :: r, s, o, l, h => List.mem_cons_of_mem _ (rowOf_mem (M := r) h)
  | .at _ _ :: r, s, o, l, h => List.mem_cons_of_mem _ (rowOf_mem (M := r) h)
  | .app _ _ _ _ :: r, s, o, l, h => List.mem_cons_of_mem _ (rowOf_mem (M := r) h)
/-- a block's own number, where it is known -/
def atOf : List Fact → Nat → Option Nat
  | [], _ => none
  | .at t b :: r, s => bif Nat.beq t s then some b else atOf r s
  | .slot _ _ :: r, s => atOf r s
  | .row _ _ _ :: r, s => atOf r s
  | .app _ _ _ _ :: r, s => atOf r s
theorem atOf_mem : ∀ {M : List Fact} {s b : Nat}, atOf M s = some b → Fact.at s b ∈ M
  | .at t c :: r, s, b, h => by
    unfold atOf at h
    cases hb : Nat.beq t s <;> rw [hb] at h
    · exact List.mem_cons_of_mem _ (atOf_mem h)
    · cases h; cases Nat.eq_of_beq_eq_true hb; exact List.mem_cons_self
  | .slot _ _ :: r, s, b, h => List.mem_cons_of_mem _ (atOf_mem (M := r) h)
  | .row _ _ _ :: r, s, b, h => List.mem_cons_of_mem _ (atOf_mem (M := r) h)
  | .app _ _ _ _ :: r, s, b, h => List.mem_cons_of_mem _ (atOf_mem (M := r) h)
/-- what is known of a block that may be appended to -/
def appOf : List Fact → Nat → Option (Nat × Nat × Nat)
  | [], _ => none
  | .app t e sz n :: r, s => bif Nat.beq t s then some (e, sz, n) else appOf r s
  | .slot _ _ :: r, s => appOf r s
  | .row _ _ _ :: r, s => appOf r s
  | .at _ _ :: r, s => appOf r s
theorem appOf_mem : ∀ {M : List Fact} {s e sz n : Nat}, appOf M s = some (e, sz, n) → Fact.app s e sz n ∈ M
  | .app t e' sz' n' :: r, s, e, sz, n, h => by
    unfold appOf at h
    cases hb : Nat.beq t s <;> rw [hb] at h
    · exact List.mem_cons_of_mem _ (appOf_mem h)
    · cases h; cases Nat.eq_of_beq_eq_true hb; exact List.mem_cons_self
  | .slot _ _ :: r, s, e, sz, n, h => List.mem_cons_of_mem _ (appOf_mem (M := r) h)
  | .row _ _ _ :: r, s, e, sz, n, h => List.mem_cons_of_mem _ (appOf_mem (M := r) h)
  | .at _ _ :: r, s, e, sz, n, h => List.mem_cons_of_mem _ (appOf_mem (M := r) h)
def ev (M : List Fact) : Operand → Option AV
  | .tmp s => look M s
  | .const v => some (.im v)
  | .func f => some (.im (.func (.func f) #[] #[]))
  | .global _ => none
theorem ev_spec {M : List Fact} {base : Nat} {β : Nat → Bk} {a : Act} {w : World} (hM : ∀ φ ∈ M, φ.ok base β a w) {x : Operand} {v : AV} (h : ev M x = some v) : a.eval x = v.den β := by
  cases x with
  | tmp s =>
    have := hM _ (look_mem h)
    simp only [Fact.ok] at this
    simp [Act.eval, this]
  | const u => cases h; rfl
  | func f => cases h; rfl
  | global g => cases h
def evs (M : List Fact) : List Operand → Option (List AV)
  | [] => some []
  | x :: r => match ev M x, evs M r with | some v, some l => some (v :: l) | _, _ => none
theorem evs_spec {M : List Fact} {base : Nat} {β : Nat → Bk} {a : Act} {w : World} (hM : ∀ φ ∈ M, φ.ok base β a w) : ∀ {xs : List Operand} {l : List AV}, evs M xs = some l → xs.map a.eval = l.map (AV.den β)
  | [], l, h => by cases h; rfl
  | x :: r, l, h => by
    unfold evs at h
    cases hx : ev M x with
    | none => rw [hx] at h; cases h
    | some v =>
      cases hr : evs M r with
      | none => rw [hx, hr] at h; cases h
      | some l' => rw [hx, hr] at h; cases h; simp [ev_spec hM hx, evs_spec hM hr]
/-- a value as a part of a flat one -/
def part? : AV → Option (List At)
  | .fl l => some l
  | .im v => bif isScal v then some [.c v] else none
  | _ => none
theorem part?_spec {v : AV} {p : List At} (h : part? v = some p) (β : Nat → Bk) : (v.den β).cells = (flat p).toArray := by
  cases v with
  | fl l => cases h; rfl
  | im u =>
    have h' : (bif isScal u then some [At.c u] else none) = some p := h
    cases hu : isScal u <;> rw [hu] at h'
    · cases h'
    · cases h'
      cases u <;> first | rfl | cases hu
  | _ => cases h
def parts? (M : List Fact) : List (Nat × Operand) → Option (List (Nat × List At))
  | [] => some []
  | (i, x) :: r => match ev M x with
    | some v => match part? v, parts? M r with | some p, some l => some ((i, p) :: l) | _, _ => none
    | none => none
/-- a literal's parts, laid one after another -/
def fillA (place : Nat → Option (Nat × Nat)) : List At → List (Nat × List At) → Option (List At)
  | l, [] => some l
  | l, (i, p) :: r => match place i with
    | none => none
    | some (off, sz) => bif Nat.beq (fsz p) sz then (match put l off p with | some l' => fillA place l' r | none => none) else none
theorem fold_set : ∀ (p B A C : List Value) (k off : Nat), A.length = off + k → B.length = p.length →
    (p.zipIdx k).foldl (fun cs (x : Value × Nat) => cs.setIfInBounds (off + x.2) x.1) (A ++ (B ++ C)).toArray = (A ++ (p ++ C)).toArray
  | [], B, A, C, k, off, hA, hB => by
    have : B = [] := List.length_eq_zero_iff.1 (by simpa using hB)
    subst this; rfl
  | v :: p, B, A, C, k, off, hA, hB => by
    cases B with
    | nil => cases hB
    | cons b B =>
      have e : (A ++ (b :: B ++ C)).toArray.setIfInBounds (off + k) v = ((A ++ [v]) ++ (B ++ C)).toArray := by
        rw [List.setIfInBounds_toArray, ← hA]
        simp
      simp only [List.zipIdx_cons, List.foldl_cons, e]
      rw [fold_set p B (A ++ [v]) C (k + 1) off (by simp [hA]; omega) (by simpa using hB)]
      simp
theorem fillA_spec {M : List Fact} {base : Nat} {β : Nat → Bk} {a : Act} {w : World} (hM : ∀ φ ∈ M, φ.ok base β a w) (place : Nat → Option (Nat × Nat)) :
    ∀ (xs : List (Nat × Operand)) (ps : List (Nat × List At)) (l l' : List At), parts? M xs = some ps → fillA place l ps = some l' →
      Instr.fill place (flat l).toArray (xs.map fun (i, x) => (i, a.eval x)) = some (flat l').toArray
  | [], ps, l, l', h, h2 => by cases h; cases h2; rfl
  | (i, x) :: r, ps, l, l', h, h2 => by
    unfold parts? at h
    cases hx : ev M x with
    | none => rw [hx] at h; cases h
    | some v =>
      rw [hx] at h
      simp only at h
      cases hp : part? v with
      | none => rw [hp] at h; cases h
      | some p =>
        cases hr : parts? M r with
        | none => rw [hp, hr] at h; cases h
        | some ps' =>
          rw [hp, hr] at h; cases h
          unfold fillA at h2
          simp only [List.map_cons, Instr.fill]
          cases hpl : place i with
          | none => rw [hpl] at h2; cases h2
          | some os =>
            obtain ⟨off, sz⟩ := os
            rw [hpl] at h2
            simp only at h2
            cases hb : Nat.beq (fsz p) sz <;> rw [hb] at h2
            · cases h2
            · have hsz := Nat.eq_of_beq_eq_true hb
              simp only [cond_true] at h2
              cases hq : put l off p with
              | none => rw [hq] at h2; cases h2
              | some l1 =>
                rw [hq] at h2
                obtain ⟨A, m, s, e, f, ha, hm⟩ := put_spec hq
                have hc := part?_spec hp β
                rw [ev_spec hM hx]
                have hsize : (AV.den β v).cells.size = sz := by rw [hc]; simp [flat_len, hsz]
                have hle : ¬ (off + (AV.den β v).cells.size > (flat l).toArray.size) := by
                  rw [hsize, e]
                  simp [flat_append, flat_len]
                  omega
                have hset : (AV.den β v).cells.zipIdx.foldl (fun cs (c, j) => cs.setIfInBounds (off + j) c) (flat l).toArray = (flat l1).toArray := by
                  rw [hc, f, e, flat_append, flat_append]
                  have := fold_set (flat p) (flat m) (flat A) (flat s) 0 off (by rw [flat_len, ha]; rfl) (by rw [flat_len, flat_len, hm])
                  simpa using this
                simp only [hset]
                rw [if_neg (by simp [hsize]; simpa [hsize] using hle)]
                exact fillA_spec hM place r ps' l1 l' hr h2
end Go.Proofs.Ytebaoemoeckgaaa.Ex
