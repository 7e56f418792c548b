/-
  Rows of words in memory, said cell by cell by a function on places; sums of digits; a store of one digit. Of whatever program. Conditions: none.
-/
import Derived.Test.YtgacpjmggdmgdaaGreatNum
import Derived.WalkKit
import Derived.Below
import Derived.Deep.Draws
namespace Go.Proofs.YtgacpjmggdmgdaaGreat
set_option linter.unusedVariables false
open Go.RowKit

/-- n cells of block b hold the words P 0, P 1, .., and may be written. -/
def RowIs (w : World) (b n : Nat) (P : Nat → Nat) : Prop := ∀ k, k < n → w.cell? ⟨b, k, none⟩ = some (.int .u64 (P k : Nat)) ∧ w.frozen? ⟨b, k, none⟩ = false
def upd (P : Nat → Nat) (i v : Nat) : Nat → Nat := fun k => if k = i then v else P k
/-- a list as a function on places -/
def fnOf (l : List Nat) : Nat → Nat := fun k => l.getD k 0

section
variable {w w' : World} {b n i v : Nat} {P : Nat → Nat}
theorem RowIs.cell (h : RowIs w b n P) (hi : i < n) : w.cell? ⟨b, i, none⟩ = some (.int .u64 (P i : Nat)) := (h i hi).1
theorem RowIs.free (h : RowIs w b n P) (hi : i < n) : w.frozen? ⟨b, i, none⟩ = false := (h i hi).2
theorem RowIs.set (h : RowIs w b n P) (hi : i < n) : RowIs (w.setCell ⟨b, i, none⟩ (.int .u64 (v : Nat))) b n (upd P i v) := by
  intro k hk
  refine ⟨?_, by rw [World.frozen?_setCell]; exact h.free hk⟩
  unfold upd
  by_cases e : k = i
  · subst e; rw [if_pos rfl]; exact World.cell?_setCell_same (h := h.cell hk) ..
  · rw [if_neg e, World.cell?_setCell_other (h := fun he => e (by simpa using (congrArg Addr.off he).symm)) ..]; exact h.cell hk
theorem RowIs.other (h : RowIs w b n P) {c : Nat} (hc : c ≠ b) (x : Value) : RowIs (w.setCell ⟨c, i, none⟩ x) b n P := by
  intro k hk
  exact ⟨by rw [World.cell?_setCell_other (h := fun he => hc (by simpa using congrArg Addr.block he)) ..]; exact h.cell hk, by rw [World.frozen?_setCell]; exact h.free hk⟩
theorem RowIs.drew (h : RowIs w b n P) : RowIs w.drew b n P := h
theorem RowIs.drewN (h : RowIs w b n P) (m : Nat) : RowIs (w.drewN m) b n P := h
theorem RowIs.below (h : RowIs w b n P) {B : Nat} (hb : Below B w w') (hB : b < B) : RowIs w' b n P := by
  intro k hk
  exact ⟨by rw [hb.cell (p := ⟨b, k, none⟩) hB]; exact h.cell hk, by rw [hb.frozen (p := ⟨b, k, none⟩) hB]; exact h.free hk⟩
theorem RowIs.alloc (h : RowIs w b n P) (hb : b < w.heap.size) (o : Obj) : RowIs (w.alloc o) b n P :=
  h.below ((Below.refl w.heap.size w).alloc (Nat.le_refl _) o) hb
/-- a new block of words -/
theorem RowIs.mk (w : World) (t : TypeId) (l : List Nat) (b : Nat) (hb : b = w.heap.size) : RowIs (w.alloc (.cells (l.map fun x => Value.int .u64 (x : Nat)).toArray t)) b l.length (fnOf l) := by
  subst hb
  intro k hk
  refine ⟨?_, World.frozen?_alloc_new _ _ _ _⟩
  rw [World.cell?_alloc_new]
  simp [fnOf, hk]
end

/-- four words in a block, told one by one -/
structure Row4 (w : World) (b : Nat) (c0 c1 c2 c3 : Nat) : Prop where
  c0 : w.cell? ⟨b, 0, none⟩ = some (.int .u64 c0)
  c1 : w.cell? ⟨b, 1, none⟩ = some (.int .u64 c1)
  c2 : w.cell? ⟨b, 2, none⟩ = some (.int .u64 c2)
  c3 : w.cell? ⟨b, 3, none⟩ = some (.int .u64 c3)
  fr : ∀ k, w.frozen? ⟨b, k, none⟩ = false
theorem Row4.below {w w' : World} {b : Nat} {c0 c1 c2 c3 : Nat} (h : Row4 w b c0 c1 c2 c3) {B : Nat} (hb : Below B w w') (hB : b < B) : Row4 w' b c0 c1 c2 c3 :=
  ⟨by rw [hb.cell (p := ⟨b, 0, none⟩) hB]; exact h.c0, by rw [hb.cell (p := ⟨b, 1, none⟩) hB]; exact h.c1, by rw [hb.cell (p := ⟨b, 2, none⟩) hB]; exact h.c2, by rw [hb.cell (p := ⟨b, 3, none⟩) hB]; exact h.c3,
    fun k => by rw [hb.frozen (p := ⟨b, k, none⟩) hB]; exact h.fr k⟩
theorem Row4.alloc {w : World} {b : Nat} {c0 c1 c2 c3 : Nat} (h : Row4 w b c0 c1 c2 c3) (hb : b < w.heap.size) (o : Obj) : Row4 (w.alloc o) b c0 c1 c2 c3 :=
  h.below ((Below.refl w.heap.size w).alloc (Nat.le_refl _) o) hb
theorem Row4.drewN {w : World} {b : Nat} {c0 c1 c2 c3 : Nat} (h : Row4 w b c0 c1 c2 c3) (n : Nat) : Row4 (w.drewN n) b c0 c1 c2 c3 := ⟨h.c0, h.c1, h.c2, h.c3, h.fr⟩
theorem Row4.new (w : World) (c0 c1 c2 c3 : Nat) (t : TypeId) : Row4 (w.alloc (.cells #[.int .u64 c0, .int .u64 c1, .int .u64 c2, .int .u64 c3] t)) w.heap.size c0 c1 c2 c3 :=
  ⟨by rw [World.cell?_alloc_new]; rfl, by rw [World.cell?_alloc_new]; rfl, by rw [World.cell?_alloc_new]; rfl, by rw [World.cell?_alloc_new]; rfl, fun k => World.frozen?_alloc_new _ _ _ _⟩
theorem Row4.other {w : World} {b d i : Nat} {c0 c1 c2 c3 : Nat} (h : Row4 w b c0 c1 c2 c3) (hd : d ≠ b) (v : Value) : Row4 (w.setCell ⟨d, i, none⟩ v) b c0 c1 c2 c3 :=
  ⟨by rw [World.cell?_setCell_other (h := fun he => hd (by simpa using congrArg Addr.block he)) ..]; exact h.c0, by rw [World.cell?_setCell_other (h := fun he => hd (by simpa using congrArg Addr.block he)) ..]; exact h.c1,
    by rw [World.cell?_setCell_other (h := fun he => hd (by simpa using congrArg Addr.block he)) ..]; exact h.c2, by rw [World.cell?_setCell_other (h := fun he => hd (by simpa using congrArg Addr.block he)) ..]; exact h.c3,
    fun k => by rw [World.frozen?_setCell]; exact h.fr k⟩
/-- four stores, in the walk's order -/
def set4 (w : World) (b : Nat) (d0 d1 d2 d3 : Nat) : World := (((w.setCell ⟨b, 0, none⟩ (.int .u64 d0)).setCell ⟨b, 1, none⟩ (.int .u64 d1)).setCell ⟨b, 2, none⟩ (.int .u64 d2)).setCell ⟨b, 3, none⟩ (.int .u64 d3)
theorem Row4.rows {w : World} {b : Nat} {c0 c1 c2 c3 : Nat} (h : Row4 w b c0 c1 c2 c3) : RowIs w b 4 (fnOf [c0, c1, c2, c3]) := by
  intro k hk
  refine ⟨?_, h.fr k⟩
  match k, hk with
  | 0, _ => exact h.c0
  | 1, _ => exact h.c1
  | 2, _ => exact h.c2
  | 3, _ => exact h.c3
theorem Row4.set4 {w : World} {b : Nat} {c0 c1 c2 c3 : Nat} (h : Row4 w b c0 c1 c2 c3) (d0 d1 d2 d3 : Nat) : Row4 (set4 w b d0 d1 d2 d3) b d0 d1 d2 d3 := by
  have r := (((h.rows.set (show 0 < 4 by omega) (v := d0)).set (show 1 < 4 by omega) (v := d1)).set (show 2 < 4 by omega) (v := d2)).set (show 3 < 4 by omega) (v := d3)
  exact ⟨r.cell (by omega), r.cell (show 1 < 4 by omega), r.cell (show 2 < 4 by omega), r.cell (show 3 < 4 by omega), fun k => by
    show World.frozen? (((_ : World).setCell _ _)) _ = _
    rw [World.frozen?_setCell, World.frozen?_setCell, World.frozen?_setCell, World.frozen?_setCell]; exact h.fr k⟩
theorem Row4.set4_other {w : World} {b d : Nat} {c0 c1 c2 c3 : Nat} (h : Row4 w b c0 c1 c2 c3) (hd : d ≠ b) (e0 e1 e2 e3 : Nat) : Row4 (Go.Proofs.YtgacpjmggdmgdaaGreat.set4 w d e0 e1 e2 e3) b c0 c1 c2 c3 :=
  (((h.other hd _).other hd _).other hd _).other hd _
theorem below_set4 {B : Nat} {w w' : World} {b : Nat} (h : Below B w w') (hb : B ≤ b) (d0 d1 d2 d3 : Nat) : Below B w (set4 w' b d0 d1 d2 d3) :=
  (((h.setCell (p := ⟨b, 0, none⟩) hb _).setCell (p := ⟨b, 1, none⟩) hb _).setCell (p := ⟨b, 2, none⟩) hb _).setCell (p := ⟨b, 3, none⟩) hb _
theorem below_drewN' (B : Nat) (w : World) (n : Nat) : Below B w (w.drewN n) := ⟨rfl, rfl, rfl, Nat.le_refl _, fun _ _ => rfl⟩

def tot (B : Nat) (P : Nat → Nat) : Nat → Nat
  | 0 => 0
  | n + 1 => tot B P n + P n * B ^ n
theorem tot_succ (B : Nat) (P : Nat → Nat) (n : Nat) : tot B P (n + 1) = tot B P n + P n * B ^ n := rfl
theorem tot_upd_ge (B : Nat) (P : Nat → Nat) (k v : Nat) : ∀ n, n ≤ k → tot B (upd P k v) n = tot B P n
  | 0, _ => rfl
  | n + 1, h => by
    rw [tot_succ, tot_succ, tot_upd_ge B P k v n (by omega)]
    unfold upd
    rw [if_neg (by omega)]
theorem tot_upd (B : Nat) (P : Nat → Nat) (k v : Nat) : ∀ n, k < n → tot B (upd P k v) n + P k * B ^ k = tot B P n + v * B ^ k
  | n + 1, h => by
    rw [tot_succ, tot_succ]
    by_cases e : k = n
    · subst e
      rw [tot_upd_ge B P k v k (Nat.le_refl _)]
      unfold upd
      rw [if_pos rfl]; omega
    · have := tot_upd B P k v n (by omega)
      have e' : upd P k v n = P n := by unfold upd; rw [if_neg (by omega)]
      rw [e']; omega
theorem tot_zero (B : Nat) (P : Nat → Nat) (h : ∀ k, P k = 0) : ∀ n, tot B P n = 0
  | 0 => rfl
  | n + 1 => by rw [tot_succ, tot_zero B P h n, h n, Nat.zero_mul]
theorem tot_lt (B : Nat) (P : Nat → Nat) (hB : 0 < B) : ∀ n, (∀ k, k < n → P k < B) → tot B P n < B ^ n
  | 0, _ => by simp [tot]
  | n + 1, h => by
    have h1 := tot_lt B P hB n (fun k hk => h k (by omega))
    have h2 := Nat.mul_le_mul_right (B ^ n) (show P n + 1 ≤ B by have := h n (by omega); omega)
    rw [tot_succ, Nat.pow_succ, Nat.mul_comm (B ^ n) B]
    rw [Nat.add_mul, Nat.one_mul] at h2
    omega

/-- One step of the school's product: the digit at place k takes in a product and what was carried over. -/
theorem step_arith {B : Nat} {P : Nat → Nat} {n k x o d o' T : Nat} (hk : k < n) (he : d + B * o' = x + P k + o) (hT : tot B P n + o * B ^ k = T) :
    tot B (upd P k d) n + o' * B ^ (k + 1) = T + x * B ^ k := by
  have h1 := tot_upd B P k d n hk
  have h2 : d * B ^ k + o' * B ^ (k + 1) = x * B ^ k + P k * B ^ k + o * B ^ k := by
    rw [Nat.pow_succ, ← Nat.add_mul, ← Nat.add_mul, ← he, Nat.add_mul]
    congr 1
    rw [Nat.mul_comm (B ^ k) B, ← Nat.mul_assoc, Nat.mul_comm o' B]
  omega
/-! ### The school's product over a base R: n digits by n digits into 2n -/
section
variable {R n : Nat} {A B P : Nat → Nat} {i j o d o' : Nat}
/-- in row i, before column j: what is carried over is o -/
def MI (R n : Nat) (A B : Nat → Nat) (i j o : Nat) (P : Nat → Nat) : Prop :=
  (∀ k, i + n ≤ k → P k = 0) ∧ tot R P (n + n) + o * R ^ (i + j) = tot R A i * tot R B n + A i * R ^ i * tot R B j
def MO (R n : Nat) (A B : Nat → Nat) (i : Nat) (P : Nat → Nat) : Prop :=
  (∀ k, i + n ≤ k → P k = 0) ∧ tot R P (n + n) = tot R A i * tot R B n
theorem mi_step (hi : i < n) (hj : j < n) (h : MI R n A B i j o P) (he : d + R * o' = A i * B j + P (i + j) + o) : MI R n A B i (j + 1) o' (upd P (i + j) d) := by
  refine ⟨fun k hk => by unfold upd; rw [if_neg (by omega)]; exact h.1 k hk, ?_⟩
  have e : A i * B j * R ^ (i + j) = A i * R ^ i * (B j * R ^ j) := by
    rw [Nat.pow_add, Nat.mul_assoc, Nat.mul_assoc, Nat.mul_left_comm (B j)]
  have := step_arith (P := P) (k := i + j) (by omega) he h.2
  rw [show i + (j + 1) = i + j + 1 by omega, this, tot_succ, e, Nat.mul_add, Nat.add_assoc]
theorem mi_end (hi : i < n) (h : MI R n A B i n o P) : MO R n A B (i + 1) (upd P (i + n) o) := by
  refine ⟨fun k hk => by unfold upd; rw [if_neg (by omega)]; exact h.1 k (by omega), ?_⟩
  have h1 := tot_upd R P (i + n) o (n + n) (by omega)
  rw [h.1 (i + n) (Nat.le_refl _), Nat.zero_mul, Nat.add_zero] at h1
  rw [h1, h.2, tot_succ, ← Nat.add_mul]
theorem mi_begin (h : MO R n A B i P) : MI R n A B i 0 0 P := ⟨h.1, by rw [h.2, Nat.zero_mul]; rfl⟩
theorem mo_begin (h : ∀ k, P k = 0) : MO R n A B 0 P := ⟨fun k _ => h k, by rw [tot_zero R P h]; show _ = 0 * _; rw [Nat.zero_mul]⟩
theorem tot_split (R : Nat) (P : Nat → Nat) (n : Nat) : ∀ m, tot R P (n + m) = tot R P n + R ^ n * tot R (fun k => P (n + k)) m
  | 0 => by rw [Nat.add_zero]; show _ = _ + R ^ n * 0; rw [Nat.mul_zero, Nat.add_zero]
  | m + 1 => by
    rw [show n + (m + 1) = n + m + 1 by omega, tot_succ, tot_split R P n m, tot_succ, Nat.mul_add, Nat.pow_add, ← Nat.mul_assoc (R ^ n), Nat.add_assoc]
    rw [Nat.mul_comm (P (n + m)) (R ^ n * R ^ m), Nat.mul_right_comm]
end
theorem val4_tot (P : Nat → Nat) : val4 (P 0) (P 1) (P 2) (P 3) = tot 18446744073709551616 P 4 := by
  unfold val4
  simp only [tot]
  omega
end Go.Proofs.YtgacpjmggdmgdaaGreat
