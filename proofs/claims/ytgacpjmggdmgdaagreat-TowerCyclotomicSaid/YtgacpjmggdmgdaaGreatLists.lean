/-
  The lists of package field: hasAll.
-/
import Derived.Test.YtgacpjmggdmgdaaGreatApi1
namespace Go.Proofs.YtgacpjmggdmgdaaGreat
set_option linter.unusedVariables false
set_option linter.unusedSimpArgs false
open Go.ChangeShapes Go.WideShapes Go.ChangeAt Go.RowKit

/-- the list's elements, cell by cell: four cells an element -/
def LAt (w : World) (g off len : Nat) (A : Nat → Nat → Nat) : Prop := ∀ k, k < len →
  w.cell? ⟨g, off + k * 4, none⟩ = some (.int .u64 (A k 0)) ∧ w.cell? ⟨g, off + k * 4 + 1, none⟩ = some (.int .u64 (A k 1)) ∧
  w.cell? ⟨g, off + k * 4 + 2, none⟩ = some (.int .u64 (A k 2)) ∧ w.cell? ⟨g, off + k * 4 + 3, none⟩ = some (.int .u64 (A k 3))
def LOk (len : Nat) (A : Nat → Nat → Nat) : Prop := ∀ k, k < len → ok4 (A k 0) (A k 1) (A k 2) (A k 3)
theorem LAt.same {w w' : World} {g off len : Nat} {A : Nat → Nat → Nat} {B : Nat} (h : LAt w g off len A) (hg : 0 < len → g < B) (hb : Below B w w') : LAt w' g off len A :=
  fun k hk => have hg := hg (Nat.lt_of_le_of_lt (Nat.zero_le _) hk); ⟨(hb.cell (p := ⟨g, off + k * 4, none⟩) hg).trans (h k hk).1, (hb.cell (p := ⟨g, off + k * 4 + 1, none⟩) hg).trans (h k hk).2.1,
    (hb.cell (p := ⟨g, off + k * 4 + 2, none⟩) hg).trans (h k hk).2.2.1, (hb.cell (p := ⟨g, off + k * 4 + 3, none⟩) hg).trans (h k hk).2.2.2⟩

set_option maxHeartbeats 1000000 in
theorem hasAll_calls (F : FC) (hF : F.Ok) (b g off len cap : Nat) (A : Nat → Nat → Nat) (hA : LOk len A) (hm : len ≤ 9223372036854775807) (w : World) (hk : KIs w b F) (hg : 0 < len → g < w.heap.size) (hl : LAt w g off len A) :
    Calls Tryz.prog 176 #[.pointer (some ⟨b, 0, none⟩), .slice (some ⟨g, off, none⟩) len cap] w fun e w' => (∃ t : Bool, e = .returned (.bool t) ∧ (t = true ↔ ∀ k, k < len → val4 (A k 0) (A k 1) (A k 2) (A k 3) < F.M)) ∧ Below w.heap.size w w' := by
  have HK := Lib.hid hk
  have HL := Lib.hid hl
  have HG := Lib.hid hg
  clear hg
  have HA := Lib.hid hA
  have HF := Lib.hid hF
  clear hk hl hA hF
  go_enter Tryz.func176, Tryz.ntmps176
  go_wp2_with fail
  go_loopw [9] (fun t wr => ∃ k : Nat, k ≤ len ∧ t = .int .i64 k ∧ Hid (∀ j, j < k → val4 (A j 0) (A j 1) (A j 2) (A j 3) < F.M) ∧ Below w.heap.size w wr) (fun t _ => len - (intOf t).toNat)
  case atStart => exact ⟨0, Nat.zero_le _, rfl, Lib.hid (fun j h => absurd h (by omega)), Below.refl _ _⟩
  case round =>
    obtain ⟨k, hk, rfl, ha, hbl⟩ := hrel
    by_cases hlt : k < len
    · obtain ⟨a0, a1, a2, a3, e0, e1, e2, e3⟩ : ∃ a0 a1 a2 a3 : Nat, a0 = A k 0 ∧ a1 = A k 1 ∧ a2 = A k 2 ∧ a3 = A k 3 := ⟨_, _, _, _, rfl, rfl, rfl, rfl⟩
      have hc := (HL.out.same HG.out hbl) k hlt
      have hok := HA.out k hlt
      rw [← e0, ← e1, ← e2, ← e3] at hc hok
      have c0 := hc.1; have c1 := hc.2.1; have c2 := hc.2.2.1; have c3 := hc.2.2.2
      clear hc
      have HB := Lib.hid hbl
      have HR := Lib.hid (HK.out.same hbl)
      clear hbl
      have HE := Lib.hid (And.intro e0 (And.intro e1 (And.intro e2 e3)))
      have HO := Lib.hid hok
      clear e0 e1 e2 e3 hok
      have hsz : w.heap.size ≤ wr.heap.size := HB.out.size
      go_wp2_with fail
      refine (has_calls F HF.out b a0 a1 a2 a3 HO.out _ (HR.out.same ((Below.refl _ _).alloc (Nat.le_refl _) _))).mono ?_
      rintro e w2 ⟨rfl, hb2⟩
      have HW := Lib.hid ((HB.out.alloc hsz (.cells #[.int .u64 a0, .int .u64 a1, .int .u64 a2, .int .u64 a3] 24)).trans (hb2.mono (by simp; omega)))
      clear hb2 c0 c1 c2 c3
      by_cases hv : val4 a0 a1 a2 a3 < F.M
      · rw [show isB (val4 a0 a1 a2 a3) F.M = true from decide_eq_true hv]
        have HN := Lib.hid (show ∀ j, j < k + 1 → val4 (A j 0) (A j 1) (A j 2) (A j 3) < F.M from fun j h => by
          by_cases e : j = k
          · subst e; rw [← HE.out.1, ← HE.out.2.1, ← HE.out.2.2.1, ← HE.out.2.2.2]; exact hv
          · exact ha.out j (by omega))
        clear hv
        go_wp2_with fail
        go_round
        case rel => exact ⟨k + 1, by omega, by go_num, HN, HW.out⟩
        case measure => simp [intOf]; omega
      · rw [show isB (val4 a0 a1 a2 a3) F.M = false from decide_eq_false hv]
        have HN := Lib.hid (show ¬ ∀ j, j < len → val4 (A j 0) (A j 1) (A j 2) (A j 3) < F.M from fun h => hv (by
          have := h k hlt
          rwa [← HE.out.1, ← HE.out.2.1, ← HE.out.2.2.1, ← HE.out.2.2.2] at this))
        clear hv
        go_wp2_with fail
        go_ret
        exact ⟨⟨false, rfl, ⟨fun h => (by cases h), fun h => absurd h HN.out⟩⟩, HW.out⟩
    · obtain rfl : k = len := by omega
      have HB := Lib.hid hbl
      clear hbl
      go_wp2_with fail
      go_ret
      exact ⟨⟨true, rfl, ⟨fun _ => ha.out, fun _ => rfl⟩⟩, HB.out⟩
end Go.Proofs.YtgacpjmggdmgdaaGreat
