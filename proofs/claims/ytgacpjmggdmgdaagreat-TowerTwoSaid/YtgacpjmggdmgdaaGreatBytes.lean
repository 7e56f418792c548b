/-
  The calls of limbs.Bytes and limbs.Read, and of the reference's Read: for any number of four words, any bytes, in any world. Conditions: each word below 2^64.
-/
import Derived.Test.YtgacpjmggdmgdaaGreatPut
import Derived.Test.YtgacpjmggdmgdaaGreatBitByte
import Derived.Deep.LoopGhost
namespace Go.Proofs.YtgacpjmggdmgdaaGreat
set_option linter.unusedVariables false
set_option linter.unusedSimpArgs false
open Go.RowKit

/-- a block of bytes -/
def RowB (w : World) (b n : Nat) (P : Nat → Nat) : Prop := ∀ k, k < n → w.cell? ⟨b, k, none⟩ = some (.int .u8 (P k : Nat)) ∧ w.frozen? ⟨b, k, none⟩ = false
theorem RowB.below {w w' : World} {b n : Nat} {P : Nat → Nat} (h : RowB w b n P) {B : Nat} (hb : Below B w w') (hB : b < B) : RowB w' b n P := fun k hk =>
  ⟨(hb.cell (p := ⟨b, k, none⟩) hB).trans (h k hk).1, (hb.frozen (p := ⟨b, k, none⟩) hB).trans (h k hk).2⟩
theorem RowB.set {w : World} {b n i v : Nat} {P : Nat → Nat} (h : RowB w b n P) (hi : i < n) : RowB (w.setCell ⟨b, i, none⟩ (.int .u8 (v : Nat))) b n (upd P i v) := by
  intro k hk
  refine ⟨?_, by rw [World.frozen?_setCell]; exact (h k hk).2⟩
  unfold upd
  by_cases e : k = i
  · subst e; rw [if_pos rfl]; exact World.cell?_setCell_same (h := (h k hk).1) ..
  · rw [if_neg e, World.cell?_setCell_other (h := fun he => e (by simpa using (congrArg Addr.off he).symm)) ..]; exact (h k hk).1
theorem RowB.other {w : World} {b n i : Nat} {P : Nat → Nat} (h : RowB w b n P) {c : Nat} (hc : c ≠ b) (x : Value) : RowB (w.setCell ⟨c, i, none⟩ x) b n P := by
  intro k hk
  exact ⟨by rw [World.cell?_setCell_other (h := fun he => hc (by simpa using congrArg Addr.block he)) ..]; exact (h k hk).1, by rw [World.frozen?_setCell]; exact (h k hk).2⟩
theorem RowB.drewN {w : World} {b n : Nat} {P : Nat → Nat} (h : RowB w b n P) (m : Nat) : RowB (w.drewN m) b n P := h
theorem RowB.ext {w : World} {b n : Nat} {P R : Nat → Nat} (h : RowB w b n P) (e : ∀ k, k < n → P k = R k) : RowB w b n R := fun k hk => ⟨by rw [← e k hk]; exact (h k hk).1, (h k hk).2⟩

def BytesPost (A : Nat) (w : World) (e : Ending) (w' : World) : Prop :=
  ∃ b : Nat, e = .returned (.slice (some ⟨b, 0, none⟩) 32 32) ∧ w.heap.size ≤ b ∧ b < w'.heap.size ∧ RowB w' b 32 (byteAt A) ∧ Below w.heap.size w w'

/-- the number of a list of bytes -/
def ReadPost (P : Nat → Nat → Prop) (w : World) (e : Ending) (w' : World) : Prop :=
  ∃ s0 s1 s2 s3 c : Nat, e = .returned (.tuple #[.agg #[.int .u64 s0, .int .u64 s1, .int .u64 s2, .int .u64 s3], .int .i64 c]) ∧ ok4 s0 s1 s2 s3 ∧ P (val4 s0 s1 s2 s3) c ∧ Below w.heap.size w w'


theorem ex_ir {i : Nat} (h : i < 32) : ∃ k m q : Nat, (i : Int) / 8 = (k : Int) ∧ (3 : Int) - (k : Int) = (q : Int) ∧ k < 4 ∧ m < 8 ∧ q < 4 ∧ Hid (i = 8 * k + m ∧ q = 3 - k) :=
  ⟨i / 8, i % 8, 3 - i / 8, by omega, by omega, by omega, by omega, by omega, Lib.hid (by omega)⟩
theorem ex_sh8 {x d : Nat} (hx : x < 72057594037927936) (hd : d < 256) : ∃ u z : Nat, IntKind.u64.wrap ((x : Int) * 256) = (u : Int) ∧ (x : Int) * 256 = (u : Int) ∧ bits .or .u64 (u : Int) (d : Int) = (z : Int) ∧ u < 18446744073709551616 ∧ z < 18446744073709551616 ∧ Hid (z = x * 256 + d) := by
  have h1 : x * 256 < 18446744073709551616 := by omega
  obtain ⟨z, e1, e2, e3⟩ := ex_or (p := 8) h1 (show d < 18446744073709551616 by omega) (Lib.hid (by simpa using hd)) (Lib.hid ⟨x, by rw [Nat.mul_comm]⟩)
  exact ⟨x * 256, z, by rw [show (x : Int) * 256 = ((x * 256 : Nat) : Int) by omega, wrap_in64 _ h1], by omega, e1, h1, e2, e3⟩
theorem hor_words (B : Nat → Nat) : val4 (hor B 24 8) (hor B 16 8) (hor B 8 8) (hor B 0 8) = hor B 0 32 := by
  have h1 := hor_split B 0 24 8
  have h2 := hor_split B 0 16 8
  have h3 := hor_split B 0 8 8
  unfold val4
  simp only [Nat.zero_add] at h1 h2 h3
  have e : 256 ^ 8 = 18446744073709551616 := by simp
  rw [e] at h1 h2 h3
  show _ = hor B 0 (24 + 8)
  rw [h1, show hor B 0 24 = hor B 0 (16 + 8) from rfl, h2, show hor B 0 16 = hor B 0 (8 + 8) from rfl, h3]
  omega

end Go.Proofs.YtgacpjmggdmgdaaGreat
