/-
  The calls of the reference's Bit and put, and of limbs.Bit: for any number of four words and any place, in any world. Conditions: each word below 2^64; a bit that is put was not there.
  Plain numbers behind bytes: the bytes of a number of four words, the highest first, and the number of 32 bytes. No program in sight. Conditions: none.
  The calls of limbs.Bytes and limbs.Read, and of the reference's Read: for any number of four words, any bytes, in any world. Conditions: each word below 2^64.
  The call of the reference's Bytes, which appends: for any number of four words, in any world. Conditions: each word below 2^64.
  Plain numbers behind the field's calls: one step of a product by words over a modulus, sums and differences modulo it. No program in sight. Conditions: none.
  Words of a number. Conditions: as each law says.
-/
import Derived.Outline
import Derived.LoopTactic
import Derived.Deep.LoopGhost
import Derived.RegionTactic
import Derived.Laws.AppendOwn
import Derived.Laws.OwnMore
import Derived.KernelRfl
import GoSem.Claim
import Derived.Test.YtebaoemoeckgaaaPr00
namespace Go.Proofs.Ytebaoemoeckgaaa
set_option linter.unusedVariables false
set_option linter.unusedSimpArgs false
open Go.RowKit

def BitPost (b : Nat) (w : World) (e : Ending) (w' : World) : Prop := e = .returned (.int .i64 b) ∧ Below w.heap.size w w'
theorem fn4_lt {a0 a1 a2 a3 : Nat} (ha : ok4 a0 a1 a2 a3) (k : Nat) : fnOf [a0, a1, a2, a3] k < 18446744073709551616 := by
  obtain ⟨h0, h1, h2, h3⟩ := ha
  unfold fnOf
  match k with
  | 0 => exact h0
  | 1 => exact h1
  | 2 => exact h2
  | 3 => exact h3
  | k + 4 => simp
theorem val4_fn (a0 a1 a2 a3 : Nat) : val4 a0 a1 a2 a3 = tot 18446744073709551616 (fnOf [a0, a1, a2, a3]) 4 := by rw [← val4_tot]; rfl
theorem bit_fn {a0 a1 a2 a3 i j k : Nat} (ha : ok4 a0 a1 a2 a3) (hj : j < 4) (hk : k < 64) (e : i = 64 * j + k) : fnOf [a0, a1, a2, a3] j / 2 ^ k % 2 = bitOf (val4 a0 a1 a2 a3) i := by
  rw [val4_fn, e, word_bit _ (fn4_lt ha) 4 j k hj hk]
theorem new_cell (w : World) (t : TypeId) (a0 a1 a2 a3 j : Nat) (hj : j < 4) : (w.alloc (.cells #[.int .u64 a0, .int .u64 a1, .int .u64 a2, .int .u64 a3] t)).cell? ⟨w.heap.size, j, none⟩ = some (.int .u64 (fnOf [a0, a1, a2, a3] j : Nat)) :=
  (RowIs.mk w t [a0, a1, a2, a3] w.heap.size rfl).cell hj

theorem refBit_in (a0 a1 a2 a3 i : Nat) (ha : ok4 a0 a1 a2 a3) (hi : i < 256) (w : World) :
    Calls Try.prog 75 #[.agg #[.int .u64 a0, .int .u64 a1, .int .u64 a2, .int .u64 a3], .int .i64 i] w (BitPost (bitOf (val4 a0 a1 a2 a3) i) w) := by
  obtain ⟨j, k, q, r, hj, hk, e⟩ := ex_ix hi
  have hc := new_cell w 45 a0 a1 a2 a3 j hj
  have hx := fn4_lt ha j
  obtain ⟨s, e1, e2, hs⟩ := ex_bit hx (bit_fn ha hj hk e.out)
  have hb := bitOf_01 (val4 a0 a1 a2 a3) i
  generalize bitOf (val4 a0 a1 a2 a3) i = b at *
  generalize fnOf [a0, a1, a2, a3] j = x at *
  have hb' : b ≤ 1 := by omega
  clear hb e
  have t0 : decide ((i : Int) < 0) = false := decide_eq_false (by omega)
  have t1 : decide ((255 : Int) < (i : Int)) = false := decide_eq_false (by omega)
  go_enter Try.func75, Try.ntmps75
  go_wp2_with fail
  go_ret
  exact ⟨rfl, (Below.refl _ _).alloc (Nat.le_refl _) _⟩
theorem bit_in (a0 a1 a2 a3 i : Nat) (ha : ok4 a0 a1 a2 a3) (hi : i < 256) (w : World) :
    Calls Try.prog 103 #[.agg #[.int .u64 a0, .int .u64 a1, .int .u64 a2, .int .u64 a3], .int .i64 i] w (BitPost (bitOf (val4 a0 a1 a2 a3) i) w) := by
  obtain ⟨j, k, q, r, hj, hk, e⟩ := ex_ix hi
  have hc := new_cell w 45 a0 a1 a2 a3 j hj
  have hx := fn4_lt ha j
  obtain ⟨s, e1, e2, hs⟩ := ex_bit hx (bit_fn ha hj hk e.out)
  have hb := bitOf_01 (val4 a0 a1 a2 a3) i
  generalize bitOf (val4 a0 a1 a2 a3) i = b at *
  generalize fnOf [a0, a1, a2, a3] j = x at *
  have hb' : b ≤ 1 := by omega
  clear hb e
  have t0 : decide ((i : Int) < 0) = false := decide_eq_false (by omega)
  have t1 : decide ((256 : Int) ≤ (i : Int)) = false := decide_eq_false (by omega)
  go_enter Try.func103, Try.ntmps103
  go_wp2_with fail
  go_ret
  exact ⟨rfl, (Below.refl _ _).alloc (Nat.le_refl _) _⟩
end Go.Proofs.Ytebaoemoeckgaaa
namespace Go.Proofs.Ytebaoemoeckgaaa
set_option linter.unusedVariables false
open Go.RowKit

/-- the number of n bytes from s on, the highest first -/
def hor (B : Nat → Nat) (s : Nat) : Nat → Nat
  | 0 => 0
  | n + 1 => hor B s n * 256 + B (s + n)
theorem hor_lt {B : Nat → Nat} (hB : ∀ k, B k < 256) (s : Nat) : ∀ n, hor B s n < 256 ^ n
  | 0 => by simp [hor]
  | n + 1 => by
    have h1 := hor_lt hB s n
    have h2 := hB (s + n)
    show hor B s n * 256 + B (s + n) < 256 ^ n * 256
    omega
theorem hor_split (B : Nat → Nat) (s n : Nat) : ∀ m, hor B s (n + m) = hor B s n * 256 ^ m + hor B (s + n) m
  | 0 => by simp [hor]
  | m + 1 => by
    show hor B s (n + m) * 256 + B (s + (n + m)) = hor B s n * (256 ^ m * 256) + (hor B (s + n) m * 256 + B (s + n + m))
    rw [hor_split B s n m, Nat.add_mul, Nat.mul_assoc, Nat.add_assoc s n m, Nat.add_assoc]
theorem hor_ext {B C : Nat → Nat} (s : Nat) : ∀ n, (∀ k, k < n → B (s + k) = C (s + k)) → hor B s n = hor C s n
  | 0, _ => rfl
  | n + 1, h => by
    show hor B s n * 256 + B (s + n) = hor C s n * 256 + C (s + n)
    rw [hor_ext s n (fun k hk => h k (by omega)), h n (by omega)]
/-- the bytes taken from the lowest on -/
theorem tot_hor (B : Nat → Nat) (s : Nat) : ∀ n, tot 256 (fun k => B (s + n - 1 - k)) n = hor B s n
  | 0 => rfl
  | n + 1 => by
    rw [tot_shift]
    show B (s + (n + 1) - 1 - 0) + 256 * tot 256 (fun k => B (s + (n + 1) - 1 - (1 + k))) n = hor B s n * 256 + B (s + n)
    have e : (fun k => B (s + (n + 1) - 1 - (1 + k))) = fun k => B (s + n - 1 - k) := by
      funext k; congr 1; omega
    rw [e, tot_hor B s n, Nat.mul_comm, show s + (n + 1) - 1 - 0 = s + n by omega]
    omega
/-- byte number p of a number, the highest first -/
def byteAt (A p : Nat) : Nat := A / 256 ^ (31 - p) % 256
theorem byteAt_lt (A p : Nat) : byteAt A p < 256 := Nat.mod_lt _ (by omega)
/-- a byte of a word is a byte of the number -/
theorem word_byte (P : Nat → Nat) (hP : ∀ k, P k < 18446744073709551616) (n j m : Nat) (hj : j < n) (hm : m < 8) : P j / 2 ^ (8 * m) % 256 = tot 18446744073709551616 P n / 256 ^ (8 * j + m) % 256 := by
  obtain ⟨q, rfl⟩ : ∃ q, n = j + (q + 1) := ⟨n - j - 1, by omega⟩
  have h1 := tot_split 18446744073709551616 P j (q + 1)
  have h2 := tot_shift 18446744073709551616 (fun k => P (j + k)) q
  have h3 := tot_lt 18446744073709551616 P (by omega) j (fun k _ => hP k)
  have e1 : 256 ^ (8 * j + m) = 18446744073709551616 ^ j * 2 ^ (8 * m) := by
    rw [Nat.pow_add, Nat.pow_mul, Nat.pow_mul]
  rw [h1, h2, e1, ← Nat.div_div_eq_div_mul, Nat.add_mul_div_left _ _ (by exact Nat.pow_pos (by omega)), Nat.div_eq_of_lt h3, Nat.zero_add]
  have e : 18446744073709551616 = 2 ^ (8 * m) * (256 * 2 ^ (56 - 8 * m)) := by
    rw [show (256 : Nat) = 2 ^ 8 from rfl, ← Nat.pow_add, ← Nat.pow_add, show 8 * m + (8 + (56 - 8 * m)) = 64 by omega]
  show _ = (P j + 18446744073709551616 * _) / 2 ^ (8 * m) % 256
  generalize tot 18446744073709551616 (fun k => P (j + (1 + k))) q = H
  rw [show 18446744073709551616 * H = 2 ^ (8 * m) * (256 * 2 ^ (56 - 8 * m)) * H by rw [← e], Nat.mul_assoc, Nat.add_mul_div_left _ _ (by exact Nat.pow_pos (by omega)), Nat.mul_assoc, Nat.add_mul_mod_self_left]
theorem ex_ib {i : Nat} (h : i < 32) : ∃ j m s p : Nat, (i : Int) / 8 = (j : Int) ∧ (i : Int) % 8 = (m : Int) ∧ (m : Int) * 8 = (s : Int) ∧ (31 : Int) - (i : Int) = (p : Int) ∧ j < 4 ∧ m < 8 ∧ s ≤ 56 ∧ p < 32 ∧ Hid (i = 8 * j + m ∧ s = 8 * m ∧ p = 31 - i) :=
  ⟨i / 8, i % 8, i % 8 * 8, 31 - i, by omega, by omega, by omega, by omega, by omega, by omega, by omega, by omega, Lib.hid (by omega)⟩
theorem ex_byte {x s b : Nat} (hx : x < 18446744073709551616) (hb : x / 2 ^ s % 256 = b) : ∃ t : Nat, (x : Int) / 2 ^ s = (t : Int) ∧ IntKind.u8.wrap (t : Int) = (b : Int) ∧ t < 18446744073709551616 := by
  have hs : x / 2 ^ s < 18446744073709551616 := Nat.lt_of_le_of_lt (Nat.div_le_self _ _) hx
  refine ⟨x / 2 ^ s, by rw [Int.natCast_ediv, Int.natCast_pow]; rfl, ?_, hs⟩
  generalize x / 2 ^ s = q at *
  simp only [IntKind.wrap, IntKind.bits, IntKind.signed]
  simp
  omega
theorem tot_ge (R : Nat) (P : Nat → Nat) (j : Nat) : ∀ n, j < n → P j * R ^ j ≤ tot R P n
  | 0, h => absurd h (by omega)
  | n + 1, h => by
    rw [tot_succ]
    rcases Nat.lt_or_ge j n with hj | hj
    · have := tot_ge R P j n hj; omega
    · obtain rfl : j = n := by omega
      omega
/-- one byte more into a word, the lowest first -/
theorem read_step {P : Nat → Nat} {V i j m s d : Nat} (hj : j < 4) (hm : m < 8) (e : i = 8 * j + m) (es : s = 8 * m) (hV : tot 18446744073709551616 P 4 = V) (hlt : V < 256 ^ i) : P j < 2 ^ s ∧ tot 18446744073709551616 (upd P j (P j + d * 2 ^ s)) 4 = V + d * 256 ^ i := by
  have e1 : 256 ^ i = 18446744073709551616 ^ j * 2 ^ s := by
    rw [e, es, Nat.pow_add, Nat.pow_mul, Nat.pow_mul]
  refine ⟨?_, ?_⟩
  · have h1 := tot_ge 18446744073709551616 P j 4 hj
    rw [hV] at h1
    have h2 := Nat.lt_of_le_of_lt h1 hlt
    rw [e1, Nat.mul_comm] at h2
    exact Nat.lt_of_mul_lt_mul_left h2
  · have h := tot_upd 18446744073709551616 P j (P j + d * 2 ^ s) 4 hj
    rw [Nat.add_mul] at h
    rw [e1, Nat.mul_comm (18446744073709551616 ^ j), ← Nat.mul_assoc, ← hV]
    omega
theorem ex_up8 {x d s : Nat} (hd : d < 256) (hs : s ≤ 56) (hx : x < 2 ^ s) : ∃ u z : Nat, IntKind.u64.wrap ((d : Int) * 2 ^ s) = (u : Int) ∧ bits .or .u64 (x : Int) (u : Int) = (z : Int) ∧ u < 18446744073709551616 ∧ z < 18446744073709551616 ∧ Hid (z = x + d * 2 ^ s) := by
  have h1 : d * 2 ^ s < 18446744073709551616 := by
    have a := Nat.mul_lt_mul_of_pos_right hd (Nat.two_pow_pos s)
    have b : 256 * 2 ^ s ≤ 18446744073709551616 := by
      rw [show (256 : Nat) = 2 ^ 8 from rfl, ← Nat.pow_add, show 18446744073709551616 = 2 ^ 64 by simp]
      exact Nat.pow_le_pow_right (by omega) (by omega)
    omega
  have h2 : x < 18446744073709551616 := Nat.lt_of_lt_of_le hx (by
    rw [show 18446744073709551616 = 2 ^ 64 by simp]; exact Nat.pow_le_pow_right (by omega) (by omega))
  obtain ⟨z, e1, e2, e3⟩ := ex_or' (k := s) h2 h1 (Lib.hid hx) (Lib.hid ⟨d, Nat.mul_comm _ _⟩)
  exact ⟨d * 2 ^ s, z, by rw [cast_mul_pow, wrap_in64 _ h1], e1, h1, e2, e3⟩
end Go.Proofs.Ytebaoemoeckgaaa
namespace Go.Proofs.Ytebaoemoeckgaaa
set_option linter.unusedVariables false
set_option linter.unusedSimpArgs false
open Go.RowKit

/-- a block of bytes -/
def RowB (w : World) (b n : Nat) (P : Nat → Nat) : Prop := ∀ k, k < n → w.cell? ⟨b, k, none⟩ = some (.int .u8 (P k : Nat)) ∧ w.frozen? ⟨b, k, none⟩ = false
theorem RowB.below {w w' : World} {b n : Nat} {P : Nat → Nat} (h : RowB w b n P) {B : Nat} (hb : Below B w w') (hB : b < B) : RowB w' b n P := fun k hk =>
  ⟨(hb.cell (p := ⟨b, k, none⟩) hB).trans (h k hk).1, (hb.frozen (p := ⟨b, k, none⟩) hB).trans (h k hk).2⟩
theorem RowB.set {w : World} {b n i v : Nat} {P : Nat → Nat} (h : RowB w b n P) (hi : i < n) : RowB (w.setCell ⟨b, i, none⟩ (.int .u8 (v : Nat))) b n (upd P i v) := by
  intro k hk
  refine ⟨?_, by rw [World.frozen?_setCell]; exact (h k hk).2⟩
  unfold upd
  by_cases e : k = i
  · subst e; rw [if_pos rfl]; exact World.cell?_setCell_same (h := (h k hk).1) ..
  · rw [if_neg e, World.cell?_setCell_other (h := fun he => e (by simpa using (congrArg Addr.off he).symm)) ..]; exact (h k hk).1
theorem RowB.other {w : World} {b n i : Nat} {P : Nat → Nat} (h : RowB w b n P) {c : Nat} (hc : c ≠ b) (x : Value) : RowB (w.setCell ⟨c, i, none⟩ x) b n P := by
  intro k hk
  exact ⟨by rw [World.cell?_setCell_other (h := fun he => hc (by simpa using congrArg Addr.block he)) ..]; exact (h k hk).1, by rw [World.frozen?_setCell]; exact (h k hk).2⟩
theorem RowB.drewN {w : World} {b n : Nat} {P : Nat → Nat} (h : RowB w b n P) (m : Nat) : RowB (w.drewN m) b n P := h
theorem RowB.ext {w : World} {b n : Nat} {P R : Nat → Nat} (h : RowB w b n P) (e : ∀ k, k < n → P k = R k) : RowB w b n R := fun k hk => ⟨by rw [← e k hk]; exact (h k hk).1, (h k hk).2⟩

/-- the number of a list of bytes -/
def ReadPost (P : Nat → Nat → Prop) (w : World) (e : Ending) (w' : World) : Prop :=
  ∃ s0 s1 s2 s3 c : Nat, e = .returned (.tuple #[.agg #[.int .u64 s0, .int .u64 s1, .int .u64 s2, .int .u64 s3], .int .i64 c]) ∧ ok4 s0 s1 s2 s3 ∧ P (val4 s0 s1 s2 s3) c ∧ Below w.heap.size w w'

set_option maxRecDepth 100000 in
set_option maxHeartbeats 1000000 in
theorem read_32 (g off cap : Nat) (B : Nat → Nat) (hB : ∀ k, B k < 256) (w : World) (hg : g < w.heap.size) (hc : ∀ k, k < 32 → w.cell? ⟨g, off + k, none⟩ = some (.int .u8 (B k : Nat))) :
    Calls Try.prog 55 #[.slice (some ⟨g, off, none⟩) 32 cap] w (ReadPost (fun n c => n = hor B 0 32 ∧ c = 0) w) := by
  have HC := Lib.hid hc
  have HB := Lib.hid hB
  have HE := Lib.hid (tot_hor B 0 32)
  have HT := Lib.hid (fun i => tot_lt 256 (fun k => B (0 + 32 - 1 - k)) (by omega) i (fun k _ => hB _))
  clear hc hB
  generalize eD : (fun k => B (0 + 32 - 1 - k)) = D at *
  have hD : ∀ i p, i < 32 → p = 31 - i → B p = D i := fun i p hi hp => by
    rw [← eD, hp]
  have HD := Lib.hid hD
  clear hD eD
  go_enter Try.func55, Try.ntmps55
  go_wp2_with fail
  have R0 := Lib.hid (Row4.new (w.alloc (.cells #[.int .u64 0, .int .u64 0, .int .u64 0, .int .u64 0] 45)) 0 0 0 0 45).rows
  have Z0 := Lib.hid ((Row4.new w 0 0 0 0 45).alloc (by simp) (.cells #[.int .u64 0, .int .u64 0, .int .u64 0, .int .u64 0] 45))
  go_loopw [10] (fun x wr => ∃ (i : Nat) (P : Nat → Nat), i ≤ 32 ∧ x = .int .i64 i ∧ (∀ k, P k < 18446744073709551616) ∧ Hid (tot 18446744073709551616 P 4 = tot 256 D i) ∧ RowIs wr (w.heap.size + 1) 4 P ∧ Row4 wr w.heap.size 0 0 0 0 ∧ Below w.heap.size w wr ∧ w.heap.size + 1 < wr.heap.size) (fun x _ => 32 - (intOf x).toNat)
  case atStart =>
    refine ⟨0, fnOf [0, 0, 0, 0], by omega, rfl, fun k => fn4_lt ⟨by omega, by omega, by omega, by omega⟩ k, Lib.hid rfl, by simpa using R0.out, Z0.out, ?_, by simp⟩
    exact ((Below.refl _ _).alloc (Nat.le_refl _) _).alloc (by simp) _
  case round =>
    obtain ⟨i, P, hi, rfl, lP, tP, rP, z0, hb, hz⟩ := hrel
    have HBl := Lib.hid hb
    have HZ := Lib.hid z0
    have HlP := Lib.hid lP
    have HR := Lib.hid rP
    by_cases hlt : i < 32
    · obtain ⟨j, m, s, p, q1, q2, q3, q4, hj, hm, hs, hp, e⟩ := ex_ib hlt
      have cx := rP.cell hj
      have fx := rP.free hj
      have cb : wr.cell? ⟨g, off + p, none⟩ = some (.int .u8 (B p : Nat)) := (hb.cell (p := ⟨g, off + p, none⟩) hg).trans (HC.out p hp)
      have lb := HB.out p
      have hbD := HD.out i p hlt e.out.2.2
      have st := read_step (d := D i) hj hm e.out.1 e.out.2.1 tP.out (HT.out i)
      obtain ⟨u, z, e1, e2, lu, lz, ez⟩ := ex_up8 lb hs st.1
      have HN := Lib.hid (show tot 18446744073709551616 (upd P j z) 4 = tot 256 D (i + 1) by
        rw [ez.out, hbD, st.2, tot_succ])
      have lx := lP j
      generalize P j = x at *
      generalize B p = b at *
      clear z0 hb rP lP tP st hbD e ez
      go_wp2_with fail
      go_region
      go_wp2_with fail
      go_roundw
      case rel => exact ⟨i + 1, upd P j z, by omega, by go_num, fun k => by unfold upd; split; exact lz; exact HlP.out k, HN, (HR.out.drewN 1).set hj, (HZ.out.drewN 1).other (by omega) _, (HBl.out.drew).setCell (p := ⟨w.heap.size + 1, j, none⟩) (by simp) _, by show _ < (wr.setCell _ _).heap.size; rw [World.size_setCell]; exact hz⟩
      case measure => first | (simp [intOf]; done) | (simp [intOf]; omega)
    · obtain rfl : i = 32 := by omega
      have HF := Lib.hid ((val4_tot P).trans (tP.out.trans HE.out))
      have c0 := rP.cell (show 0 < 4 by omega); have c1 := rP.cell (show 1 < 4 by omega); have c2 := rP.cell (show 2 < 4 by omega); have c3 := rP.cell (show 3 < 4 by omega)
      have k0 := z0.c0; have k1 := z0.c1; have k2 := z0.c2; have k3 := z0.c3; have kf := z0.fr
      have l0 := lP 0; have l1 := lP 1; have l2 := lP 2; have l3 := lP 3
      clear rP z0 hb lP tP
      go_wp2_with fail
      refine bodyPost_ret (v := .tuple #[.agg #[.int .u64 (P 0), .int .u64 (P 1), .int .u64 (P 2), .int .u64 (P 3)], .int .i64 0]) (by simp [results, Try.results55, go_sem, *]) rfl ?_
      exact ⟨P 0, P 1, P 2, P 3, 0, rfl, ⟨l0, l1, l2, l3⟩, ⟨HF.out, rfl⟩, below_set4 HBl.out (by omega) _ _ _ _⟩

theorem ex_ir {i : Nat} (h : i < 32) : ∃ k m q : Nat, (i : Int) / 8 = (k : Int) ∧ (3 : Int) - (k : Int) = (q : Int) ∧ k < 4 ∧ m < 8 ∧ q < 4 ∧ Hid (i = 8 * k + m ∧ q = 3 - k) :=
  ⟨i / 8, i % 8, 3 - i / 8, by omega, by omega, by omega, by omega, by omega, Lib.hid (by omega)⟩
theorem ex_sh8 {x d : Nat} (hx : x < 72057594037927936) (hd : d < 256) : ∃ u z : Nat, IntKind.u64.wrap ((x : Int) * 256) = (u : Int) ∧ (x : Int) * 256 = (u : Int) ∧ bits .or .u64 (u : Int) (d : Int) = (z : Int) ∧ u < 18446744073709551616 ∧ z < 18446744073709551616 ∧ Hid (z = x * 256 + d) := by
  have h1 : x * 256 < 18446744073709551616 := by omega
  obtain ⟨z, e1, e2, e3⟩ := ex_or (p := 8) h1 (show d < 18446744073709551616 by omega) (Lib.hid (by simpa using hd)) (Lib.hid ⟨x, by rw [Nat.mul_comm]⟩)
  exact ⟨x * 256, z, by rw [show (x : Int) * 256 = ((x * 256 : Nat) : Int) by omega, wrap_in64 _ h1], by omega, e1, h1, e2, e3⟩
theorem hor_words (B : Nat → Nat) : val4 (hor B 24 8) (hor B 16 8) (hor B 8 8) (hor B 0 8) = hor B 0 32 := by
  have h1 := hor_split B 0 24 8
  have h2 := hor_split B 0 16 8
  have h3 := hor_split B 0 8 8
  unfold val4
  simp only [Nat.zero_add] at h1 h2 h3
  have e : 256 ^ 8 = 18446744073709551616 := by simp
  rw [e] at h1 h2 h3
  show _ = hor B 0 (24 + 8)
  rw [h1, show hor B 0 24 = hor B 0 (16 + 8) from rfl, h2, show hor B 0 16 = hor B 0 (8 + 8) from rfl, h3]
  omega

set_option maxRecDepth 100000 in
set_option maxHeartbeats 1000000 in
theorem refRead_32 (g off cap : Nat) (B : Nat → Nat) (hB : ∀ k, B k < 256) (w : World) (hg : g < w.heap.size) (hc : ∀ k, k < 32 → w.cell? ⟨g, off + k, none⟩ = some (.int .u8 (B k : Nat))) :
    Calls Try.prog 63 #[.slice (some ⟨g, off, none⟩) 32 cap] w (ReadPost (fun n c => n = hor B 0 32 ∧ c = 0) w) := by
  have HC := Lib.hid hc
  have HB := Lib.hid hB
  have HH := Lib.hid (fun s n => hor_lt hB s n)
  clear hc hB
  go_enter Try.func63, Try.ntmps63
  go_wp2_with fail
  have R0 := Lib.hid (Row4.new (w.alloc (.cells #[.int .u64 0, .int .u64 0, .int .u64 0, .int .u64 0] 45)) 0 0 0 0 45).rows
  have Z0 := Lib.hid ((Row4.new w 0 0 0 0 45).alloc (by simp) (.cells #[.int .u64 0, .int .u64 0, .int .u64 0, .int .u64 0] 45))
  go_loopw [5] (fun x wr => ∃ (i : Nat) (P : Nat → Nat), i ≤ 32 ∧ x = .int .i64 i ∧ (∀ k, P k < 18446744073709551616) ∧ Hid (∀ k, k < 4 → P (3 - k) = hor B (8 * k) (min 8 (i - 8 * k))) ∧ RowIs wr (w.heap.size + 1) 4 P ∧ Row4 wr w.heap.size 0 0 0 0 ∧ Below w.heap.size w wr ∧ w.heap.size + 1 < wr.heap.size) (fun x _ => 32 - (intOf x).toNat)
  case atStart =>
    refine ⟨0, fnOf [0, 0, 0, 0], by omega, rfl, fun k => fn4_lt ⟨by omega, by omega, by omega, by omega⟩ k, Lib.hid (fun k hk => ?_), by simpa using R0.out, Z0.out, ?_, by simp⟩
    · rw [Nat.zero_sub, Nat.min_zero]
      match k, hk with
      | 0, _ | 1, _ | 2, _ | 3, _ => rfl
    · exact ((Below.refl _ _).alloc (Nat.le_refl _) _).alloc (by simp) _
  case round =>
    obtain ⟨i, P, hi, rfl, lP, tP, rP, z0, hb, hz⟩ := hrel
    have HBl := Lib.hid hb
    have HZ := Lib.hid z0
    have HlP := Lib.hid lP
    have HR := Lib.hid rP
    by_cases hlt : i < 32
    · obtain ⟨k, m, q, q1, q2, hk, hm, hq, e⟩ := ex_ir hlt
      have cx := rP.cell hq
      have fx := rP.free hq
      have cb : wr.cell? ⟨g, off + i, none⟩ = some (.int .u8 (B i : Nat)) := (hb.cell (p := ⟨g, off + i, none⟩) hg).trans (HC.out i hlt)
      have lb := HB.out i
      have ex : P q = hor B (8 * k) m := by
        have := tP.out k hk
        rw [show min 8 (i - 8 * k) = m by have := e.out.1; omega, ← e.out.2] at this
        exact this
      have lx : P q < 72057594037927936 := by
        rw [ex]
        exact Nat.lt_of_lt_of_le (HH.out _ _) (Nat.le_trans (Nat.pow_le_pow_right (show 0 < 256 by omega) (show m ≤ 7 by omega)) (by simp))
      obtain ⟨u, z, e1, e0, e2, lu, lz, ez⟩ := ex_sh8 lx lb
      have HN := Lib.hid (show ∀ k, k < 4 → upd P q z (3 - k) = hor B (8 * k) (min 8 (i + 1 - 8 * k)) from fun k' hk' => by
        have k1 := e.out.1; have k2 := e.out.2
        unfold upd
        by_cases h : k' = k
        · subst h
          rw [if_pos k2.symm, show min 8 (i + 1 - 8 * k') = m + 1 by omega, ez.out, ex]
          show _ = hor B (8 * k') m * 256 + B (8 * k' + m)
          rw [← k1]
        · rw [if_neg (by omega), tP.out k' hk']
          congr 1
          omega)
      generalize P q = x at *
      generalize B i = b at *
      clear z0 hb rP lP tP e ez ex
      go_wp2_with fail
      go_region
      go_wp2_with fail
      go_roundw
      case rel => exact ⟨i + 1, upd P q z, by omega, by go_num, fun k => by unfold upd; split; exact lz; exact HlP.out k, HN, (HR.out.drewN 1).set hq, (HZ.out.drewN 1).other (by omega) _, (HBl.out.drew).setCell (p := ⟨w.heap.size + 1, q, none⟩) (by simp) _, by show _ < (wr.setCell _ _).heap.size; rw [World.size_setCell]; exact hz⟩
      case measure => first | (simp [intOf]; done) | (simp [intOf]; omega)
    · obtain rfl : i = 32 := by omega
      have HF := Lib.hid (show val4 (P 0) (P 1) (P 2) (P 3) = hor B 0 32 by
        have h0 := tP.out 0 (by omega); have h1 := tP.out 1 (by omega); have h2 := tP.out 2 (by omega); have h3 := tP.out 3 (by omega)
        simp at h0 h1 h2 h3
        rw [h0, h1, h2, h3, hor_words])
      have c0 := rP.cell (show 0 < 4 by omega); have c1 := rP.cell (show 1 < 4 by omega); have c2 := rP.cell (show 2 < 4 by omega); have c3 := rP.cell (show 3 < 4 by omega)
      have k0 := z0.c0; have k1 := z0.c1; have k2 := z0.c2; have k3 := z0.c3; have kf := z0.fr
      have l0 := lP 0; have l1 := lP 1; have l2 := lP 2; have l3 := lP 3
      clear rP z0 hb lP tP
      go_wp2_with fail
      refine bodyPost_ret (v := .tuple #[.agg #[.int .u64 (P 0), .int .u64 (P 1), .int .u64 (P 2), .int .u64 (P 3)], .int .i64 0]) (by simp [results, Try.results63, go_sem, *]) rfl ?_
      exact ⟨P 0, P 1, P 2, P 3, 0, rfl, ⟨l0, l1, l2, l3⟩, ⟨HF.out, rfl⟩, below_set4 HBl.out (by omega) _ _ _ _⟩
end Go.Proofs.Ytebaoemoeckgaaa
namespace Go.Proofs.Ytebaoemoeckgaaa
set_option linter.unusedVariables false
set_option linter.unusedSimpArgs false
open Go.RowKit

theorem u8_info : (Try.prog.info? 5).map (fun i => (i.zero, i.size, i.bytes)) = some (some (.int .u8 0), 1, 1) := by kernel_rfl
def bcells (A n : Nat) : List Value := (List.range n).map fun p => .int .u8 (byteAt A p : Nat)
theorem bcells_succ (A n : Nat) : bcells A (n + 1) = bcells A n ++ [.int .u8 (byteAt A n : Nat)] := by
  unfold bcells; rw [List.range_succ, List.map_append]; rfl
theorem own_ge {w : World} {base : Nat} {e : TypeId} {size : Nat} {v : Value} {n : Nat} {xs : List Value} (h : w.ownsRow base e size v n xs) {k : Nat} (hk : v.ownBlock = some k) : base ≤ k := by
  obtain ⟨_, ⟨rfl, _⟩ | ⟨g, cap, cur, rfl, hg, _⟩⟩ := h
  · cases hk
  · cases hk; exact hg
theorem own_form {w : World} {base : Nat} {e : TypeId} {size : Nat} {v : Value} {n : Nat} {xs : List Value} (h : w.ownsRow base e size v n xs) (hn : 0 < n) : ∃ g cap, v = .slice (some ⟨g, 0, none⟩) n cap ∧ base ≤ g ∧ g < w.heap.size := by
  obtain ⟨_, ⟨_, h0⟩ | ⟨g, cap, cur, rfl, hg, hh, _⟩⟩ := h
  · omega
  · refine ⟨g, cap, rfl, hg, ?_⟩
    rcases Nat.lt_or_ge g w.heap.size with k | k
    · exact k
    · rw [Array.getElem?_eq_none k] at hh; cases hh
theorem own_cell {w : World} {base A g cap n : Nat} {e : TypeId} (h : w.ownsRow base e 1 (.slice (some ⟨g, 0, none⟩) n cap) n (bcells A n)) (k : Nat) (hk : k < n) : w.cell? ⟨g, k, none⟩ = some (.int .u8 (byteAt A k : Nat)) := by
  rw [h.cellAt k (by omega)]
  unfold bcells
  simp [hk]

end Go.Proofs.Ytebaoemoeckgaaa
namespace Go.Proofs.Ytebaoemoeckgaaa
set_option linter.unusedVariables false

/-- what a field reckons with: the modulus, the inverse of its lowest word negated, the square of 2^256, and what times 2^256 is one -/
structure FC where
  m0 : Nat
  m1 : Nat
  m2 : Nat
  m3 : Nat
  inv : Nat
  s0 : Nat
  s1 : Nat
  s2 : Nat
  s3 : Nat
  Ri : Nat
def FC.M (F : FC) : Nat := val4 F.m0 F.m1 F.m2 F.m3
def FC.R (_ : FC) : Nat := 115792089237316195423570985008687907853269984665640564039457584007913129639936
structure FC.Ok (F : FC) : Prop where
  okm : ok4 F.m0 F.m1 F.m2 F.m3
  oks : ok4 F.s0 F.s1 F.s2 F.s3
  inv : F.inv < 18446744073709551616
  turn : (F.inv * F.m0 + 1) % 18446744073709551616 = 0
  two : 2 * F.M < 115792089237316195423570985008687907853269984665640564039457584007913129639936
  ri : F.R * F.Ri % F.M = 1
  sq : val4 F.s0 F.s1 F.s2 F.s3 = F.R * F.R % F.M
  gt : 2 < F.M
  odd : F.M % 2 = 1
def FP : FC := ⟨0x3c208c16d87cfd47, 0x97816a916871ca8d, 0xb85045b68181585d, 0x30644e72e131a029, 0x87d20782e4866389, 0xf32cfc5b538afa89, 0xb5e71911d44501fb, 0x47ab1eff0a417ff6, 0x06d89f71cab8351f, 20988524275117001072002809824448087578619730785600314334253784976379291040311⟩
def FR : FC := ⟨0x43e1f593f0000001, 0x2833e84879b97091, 0xb85045b68181585d, 0x30644e72e131a029, 0xc2e1f593efffffff, 0x1bb8e645ae216da7, 0x53fe3ab1e35c59e3, 0x8c49833d53bb8085, 0x0216d0b17f4e44a5, 9915499612839321149637521777990102151350674507940716049588462388200839649614⟩
theorem FP_M : FP.M = 21888242871839275222246405745257275088696311157297823662689037894645226208583 := by kernel_rfl
theorem FR_M : FR.M = 21888242871839275222246405745257275088548364400416034343698204186575808495617 := by kernel_rfl
theorem FP_ok : FP.Ok := ⟨by unfold ok4; decide, by unfold ok4; decide, by decide, by kernel_rfl, by decide, by kernel_rfl, by kernel_rfl, by decide, by kernel_rfl⟩
theorem FR_ok : FR.Ok := ⟨by unfold ok4; decide, by unfold ok4; decide, by decide, by kernel_rfl, by decide, by kernel_rfl, by kernel_rfl, by decide, by kernel_rfl⟩

theorem round_arith {t0 t1 t2 t3 x y0 y1 y2 y3 m0 m1 m2 m3 o0 l0 cl c0 o1 l1 c1 n0 o2 l2 c2 n1 o3 l3 c3 n2 : Nat}
    (e0 : l0 + 18446744073709551616 * o0 = x * y0 + t0) (f0 : 0 + 18446744073709551616 * c0 = cl * m0 + l0)
    (e1 : l1 + 18446744073709551616 * o1 = x * y1 + t1 + o0) (f1 : n0 + 18446744073709551616 * c1 = cl * m1 + l1 + c0)
    (e2 : l2 + 18446744073709551616 * o2 = x * y2 + t2 + o1) (f2 : n1 + 18446744073709551616 * c2 = cl * m2 + l2 + c1)
    (e3 : l3 + 18446744073709551616 * o3 = x * y3 + t3 + o2) (f3 : n2 + 18446744073709551616 * c3 = cl * m3 + l3 + c2) :
    18446744073709551616 * val4 n0 n1 n2 (o3 + c3) = val4 t0 t1 t2 t3 + x * val4 y0 y1 y2 y3 + cl * val4 m0 m1 m2 m3 := by
  unfold val4
  have ex : x * (y0 + 18446744073709551616 * (y1 + 18446744073709551616 * (y2 + 18446744073709551616 * y3))) = x * y0 + 18446744073709551616 * (x * y1 + 18446744073709551616 * (x * y2 + 18446744073709551616 * (x * y3))) := by
    simp only [Nat.mul_add, Nat.mul_left_comm x 18446744073709551616]
  have ec : cl * (m0 + 18446744073709551616 * (m1 + 18446744073709551616 * (m2 + 18446744073709551616 * m3))) = cl * m0 + 18446744073709551616 * (cl * m1 + 18446744073709551616 * (cl * m2 + 18446744073709551616 * (cl * m3))) := by
    simp only [Nat.mul_add, Nat.mul_left_comm cl 18446744073709551616]
  rw [ex, ec]
  generalize x * y0 = p0 at *
  generalize x * y1 = p1 at *
  generalize x * y2 = p2 at *
  generalize x * y3 = p3 at *
  generalize cl * m0 = q0 at *
  generalize cl * m1 = q1 at *
  generalize cl * m2 = q2 at *
  generalize cl * m3 = q3 at *
  omega
theorem clear_zero {l inv m : Nat} (h : (inv * m + 1) % 18446744073709551616 = 0) : (l * inv % 18446744073709551616 * m + l) % 18446744073709551616 = 0 := by
  have e : l * inv * m + l = l * (inv * m + 1) := by rw [Nat.mul_add, Nat.mul_one, Nat.mul_assoc]
  rw [Nat.add_mod, Nat.mul_mod, Nat.mod_mod, ← Nat.mul_mod, ← Nat.add_mod, e, Nat.mul_mod, h, Nat.mul_zero, Nat.zero_mod]
theorem round_bound {N T x Y cl M : Nat} (e : 18446744073709551616 * N = T + x * Y + cl * M) (ht : T < 2 * M) (hx : x < 18446744073709551616) (hy : Y < M) (hc : cl < 18446744073709551616) : N < 2 * M := by
  have h1 := mul_le (show x ≤ 18446744073709551615 by omega) (show Y ≤ M by omega)
  have h2 := Nat.mul_le_mul_right M (show cl ≤ 18446744073709551615 by omega)
  generalize x * Y = p at *
  generalize cl * M = q at *
  omega
theorem val4_top {n0 n1 n2 s B : Nat} (h : val4 n0 n1 n2 s < 115792089237316195423570985008687907853269984665640564039457584007913129639936) : s < 18446744073709551616 := by
  unfold val4 at h; omega

/-- the first k words' product, divided k times by 2^64: what is gathered -/
def Gath (M : Nat) (X : Nat → Nat) (Y k T : Nat) : Prop := T < 2 * M ∧ ∃ q, T * 18446744073709551616 ^ k = (X 0 * (if 0 < k then 1 else 0) + 18446744073709551616 * (X 1 * (if 1 < k then 1 else 0) + 18446744073709551616 * (X 2 * (if 2 < k then 1 else 0) + 18446744073709551616 * (X 3 * (if 3 < k then 1 else 0))))) * Y + q * M
theorem gath_zero {M Y : Nat} (X : Nat → Nat) (hM : 0 < M) : Gath M X Y 0 0 := ⟨by omega, 0, by simp⟩
theorem gath_step {M Y T N cl : Nat} {X : Nat → Nat} {k : Nat} (hk : k < 4) (g : Gath M X Y k T) (hx : X k < 18446744073709551616) (hy : Y < M) (hc : cl < 18446744073709551616) (e : 18446744073709551616 * N = T + X k * Y + cl * M) : Gath M X Y (k + 1) N := by
  obtain ⟨ht, q, h⟩ := g
  refine ⟨round_bound e ht hx hy hc, q + cl * 18446744073709551616 ^ k, ?_⟩
  have e' : N * 18446744073709551616 ^ (k + 1) = T * 18446744073709551616 ^ k + X k * Y * 18446744073709551616 ^ k + cl * M * 18446744073709551616 ^ k := by
    rw [Nat.pow_succ', ← Nat.mul_assoc, Nat.mul_comm N, e, Nat.add_mul, Nat.add_mul]
  rw [e', h]
  have : k = 0 ∨ k = 1 ∨ k = 2 ∨ k = 3 := by omega
  have hxa : ∀ b : Nat, X k * Y * b = b * (X k * Y) := fun b => Nat.mul_comm _ _
  have hca : ∀ b : Nat, cl * M * b = b * (cl * M) := fun b => Nat.mul_comm _ _
  have hqa : ∀ b : Nat, (q + cl * b) * M = q * M + b * (cl * M) := fun b => by rw [Nat.add_mul, Nat.mul_right_comm, Nat.mul_comm (cl * M)]
  rw [hxa, hca, hqa]
  rcases this with rfl | rfl | rfl | rfl <;> simp [Nat.add_mul, Nat.mul_assoc] <;> omega
/-- the end of a product: what is gathered is it, divided by 2^256, but for multiples -/
theorem gath_end {F : FC} (hF : F.Ok) {Y T x0 x1 x2 x3 : Nat} {X : Nat → Nat} (h0 : X 0 = x0) (h1 : X 1 = x1) (h2 : X 2 = x2) (h3 : X 3 = x3) (g : Gath F.M X Y 4 T) : T < 2 * F.M ∧ T % F.M = val4 x0 x1 x2 x3 * Y * F.Ri % F.M := by
  obtain ⟨ht, q, h⟩ := g
  refine ⟨ht, ?_⟩
  simp only [h0, h1, h2, h3, show (0 : Nat) < 4 by omega, show (1 : Nat) < 4 by omega, show (2 : Nat) < 4 by omega, show (3 : Nat) < 4 by omega, if_true, Nat.mul_one] at h
  have hr := hF.ri
  have hR : F.R = 18446744073709551616 ^ 4 := by simp [FC.R]
  have e : T * (F.R * F.Ri) = val4 x0 x1 x2 x3 * Y * F.Ri + F.M * (q * F.Ri) := by
    rw [← Nat.mul_assoc, hR, h, Nat.add_mul, show q * F.M * F.Ri = F.M * (q * F.Ri) by rw [Nat.mul_comm q, Nat.mul_assoc]]
    rfl
  have e2 : T * (F.R * F.Ri) % F.M = T % F.M := by rw [Nat.mul_mod, hr, Nat.mul_one, Nat.mod_mod]
  rw [← e2, e, Nat.add_mul_mod_self_left]
theorem once_mod {t M : Nat} (h : t < 2 * M) : t % M = if t < M then t else t - M := by
  split
  · exact Nat.mod_eq_of_lt ‹_›
  · rw [Nat.mod_eq_sub_mod (by omega), Nat.mod_eq_of_lt (by omega)]
end Go.Proofs.Ytebaoemoeckgaaa
namespace Go.Proofs.Ytebaoemoeckgaaa
set_option linter.unusedVariables false
/-- word i of a number -/
def fw (x i : Nat) : Nat := x / 18446744073709551616 ^ i % 18446744073709551616
theorem fw_ok (x : Nat) : ok4 (fw x 0) (fw x 1) (fw x 2) (fw x 3) := ⟨Nat.mod_lt _ (by omega), Nat.mod_lt _ (by omega), Nat.mod_lt _ (by omega), Nat.mod_lt _ (by omega)⟩
theorem fw_val {x : Nat} (h : x < 115792089237316195423570985008687907853269984665640564039457584007913129639936) : val4 (fw x 0) (fw x 1) (fw x 2) (fw x 3) = x := by
  unfold fw val4
  have e1 : (18446744073709551616 : Nat) ^ 1 = 18446744073709551616 := by simp
  have e2 : (18446744073709551616 : Nat) ^ 2 = 18446744073709551616 * 18446744073709551616 := by simp
  have e3 : (18446744073709551616 : Nat) ^ 3 = 18446744073709551616 * 18446744073709551616 * 18446744073709551616 := by simp
  rw [Nat.pow_zero, Nat.div_one, e1, e2, e3, ← Nat.div_div_eq_div_mul, ← Nat.div_div_eq_div_mul, ← Nat.div_div_eq_div_mul]
  omega
theorem fw_of {s0 s1 s2 s3 x : Nat} (hs : ok4 s0 s1 s2 s3) (hx : x < 115792089237316195423570985008687907853269984665640564039457584007913129639936) (h : val4 s0 s1 s2 s3 = x) : s0 = fw x 0 ∧ s1 = fw x 1 ∧ s2 = fw x 2 ∧ s3 = fw x 3 :=
  val4_inj hs (fw_ok x) (h.trans (fw_val hx).symm)
theorem fp_lt {x : Nat} (h : x < FP.M) : x < 115792089237316195423570985008687907853269984665640564039457584007913129639936 := Nat.lt_trans h (by decide)
theorem fp_pos : 0 < FP.M := by decide
theorem fw_valp {x : Nat} (h : x < FP.M) : val4 (fw x 0) (fw x 1) (fw x 2) (fw x 3) = x := fw_val (fp_lt h)
end Go.Proofs.Ytebaoemoeckgaaa
