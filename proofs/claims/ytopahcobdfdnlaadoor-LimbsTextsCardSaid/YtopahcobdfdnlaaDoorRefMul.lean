/-
  The call of the reference's Mul: for any two numbers of four words, in any world, the product's upper and lower four words. Conditions: each word below 2^64.
-/
import Derived.Test.YtopahcobdfdnlaaDoorRefAdd
import Derived.Test.YtopahcobdfdnlaaDoorRegion
namespace Go.Proofs.YtopahcobdfdnlaaDoor
set_option linter.unusedVariables false
set_option linter.unusedSimpArgs false
open Go.RowKit

structure RM (w wr : World) (p q o r n : Nat) (X Y P : Nat → Nat) : Prop where
  rw : RW w wr p q o r n X Y P
  rowL : ∃ L, RowIs wr (r + 1) 4 L
  ul : r + 1 < wr.heap.size
  ol : ¬ o = r + 1
theorem RM.set {w wr : World} {p q o r n : Nat} {X Y P : Nat → Nat} (h : RM w wr p q o r n X Y P) {k d : Nat} (hk : k < n) (hd : d < 4294967296) :
    RM w (wr.setCell ⟨o, k, none⟩ (.int .u64 (d : Nat))) p q o r n X Y (upd P k d) :=
  ⟨h.rw.set hk hd, h.rowL.elim fun H x => ⟨H, x.other h.ol _⟩, by rw [World.size_setCell]; exact h.ul, h.ol⟩
theorem RM.drewN {w wr : World} {p q o r n : Nat} {X Y P : Nat → Nat} (h : RM w wr p q o r n X Y P) (m : Nat) : RM w (wr.drewN m) p q o r n X Y P :=
  ⟨h.rw.drewN m, h.rowL, h.ul, h.ol⟩
theorem RowIs.mk16z {w : World} {b : Nat} (h : ∀ k, k < 16 → w.cell? ⟨b, k, none⟩ = some (.int .u64 0)) (hf : ∀ k, w.frozen? ⟨b, k, none⟩ = false) : RowIs w b 16 (fun _ => 0) :=
  fun k hk => ⟨h k hk, hf k⟩
theorem sixteen {k : Nat} (h : k < 16) : k = 0 ∨ k = 1 ∨ k = 2 ∨ k = 3 ∨ k = 4 ∨ k = 5 ∨ k = 6 ∨ k = 7 ∨ k = 8 ∨ k = 9 ∨ k = 10 ∨ k = 11 ∨ k = 12 ∨ k = 13 ∨ k = 14 ∨ k = 15 := by omega
theorem refmul_fin {X Y P : Nat → Nat} {A B h l : Nat} (eX : tot 4294967296 X 8 = A) (eY : tot 4294967296 Y 8 = B) (m : MO 4294967296 8 X Y 8 P) (eh : h = val8 (P 8) (P 9) (P 10) (P 11) (P 12) (P 13) (P 14) (P 15)) (el : l = val8 (P 0) (P 1) (P 2) (P 3) (P 4) (P 5) (P 6) (P 7)) :
    l + 115792089237316195423570985008687907853269984665640564039457584007913129639936 * h = A * B := by
  have h1 := m.2
  have e8 : 4294967296 ^ 8 = 115792089237316195423570985008687907853269984665640564039457584007913129639936 := by simp
  rw [tot_split, eX, eY, e8, ← val8_tot P, ← val8_tot (fun k => P (8 + k))] at h1
  rw [eh, el]
  exact h1

set_option maxRecDepth 100000 in
set_option maxHeartbeats 4000000 in
theorem refMul_calls (a0 a1 a2 a3 b0 b1 b2 b3 : Nat) (ha : ok4 a0 a1 a2 a3) (hb : ok4 b0 b1 b2 b3) (w : World) :
    Calls Tryd.prog 14 #[.agg #[.int .u64 a0, .int .u64 a1, .int .u64 a2, .int .u64 a3], .agg #[.int .u64 b0, .int .u64 b1, .int .u64 b2, .int .u64 b3]] w (MulPost (val4 a0 a1 a2 a3) (val4 b0 b1 b2 b3) w) := by
  go_enter Tryd.func14, Tryd.ntmps14
  go_wp2_with fail
  refine two_halves13 (pos := "ref.go:63") a0 a1 a2 a3 b0 b1 b2 b3 ha hb w.heap.size (w.heap.size + 1) _ _ _ _ _ _ _ _ _ _ _ _ ?_ ?_ (by first | (simp; done) | (simp; omega)) (by first | (simp; done) | (simp; omega)) (fun p q X Y s0 s1 s2 s3 u T => ?_)
  · exact ⟨by simp [go_sem], by simp [go_sem], by simp [go_sem], by simp [go_sem], fun k => by simp [go_sem]⟩
  · exact ⟨by simp [go_sem], by simp [go_sem], by simp [go_sem], by simp [go_sem], fun k => by simp [go_sem]⟩
  have r0 : ∃ H, RowIs u (w.heap.size + 1 + 1) 4 H := ⟨fnOf [0, 0, 0, 0], RowIs.below (RowIs.mk4 (by simp [go_sem]) (by simp [go_sem]) (by simp [go_sem]) (by simp [go_sem]) (fun k => by simp [go_sem])) T.below (by first | (simp; done) | (simp; omega))⟩
  have r1 : ∃ H, RowIs u (w.heap.size + 1 + 1 + 1) 4 H := ⟨fnOf [0, 0, 0, 0], RowIs.below (RowIs.mk4 (by simp [go_sem]) (by simp [go_sem]) (by simp [go_sem]) (by simp [go_sem]) (fun k => by simp [go_sem])) T.below (by simp)⟩
  have h0 : Below w.heap.size w u := by
    refine Below.trans ?_ (T.below.mono (by simp; omega))
    repeat (first | exact Below.refl _ _ | refine Below.alloc ?_ (by first | (simp; done) | (simp; omega)) _)
  have lp := T.lp; have lq := T.lq; have hs := T.below.size
  simp at lp lq hs
  have up := T.up; have uq := T.uq; have hpq := T.ne; have rX := T.rowX; have rY := T.rowY
  have HlX := Lib.hid T.ltX; have HlY := Lib.hid T.ltY; have HeX := Lib.hid T.eX; have HeY := Lib.hid T.eY
  have Hr0 := Lib.hid r0; have Hr1 := Lib.hid r1; have Hh0 := Lib.hid h0; have HX := Lib.hid rX; have HY := Lib.hid rY
  clear T r0 r1 h0 rX rY
  go_wp2_with fail
  go_loopw [9] (fun i wr => ∃ (k : Nat) (P : Nat → Nat), k ≤ 8 ∧ i = .int .i64 k ∧ RM w wr p q u.heap.size (w.heap.size + 1 + 1) 16 X Y P ∧ Hid (MO 4294967296 8 X Y k P)) (fun i _ => 8 - (intOf i).toNat)
  case atStart =>
    refine ⟨0, fun _ => 0, by omega, rfl, ⟨⟨Hh0.out.alloc (by omega) _, by omega, by simp, by omega, by omega, by omega, HX.out.alloc up _, HY.out.alloc uq _, Hr0.out.elim fun H x => ⟨H, x.alloc (by omega) _⟩, by simp; omega, ?_, fun _ => by omega⟩, Hr1.out.elim fun H x => ⟨H, x.alloc (by omega) _⟩, by simp; omega, by omega⟩, Lib.hid (mo_begin fun _ => rfl)⟩
    refine RowIs.mk16z (fun k hk => ?_) (fun k => by simp [go_sem])
    rcases sixteen hk with rfl | rfl | rfl | rfl | rfl | rfl | rfl | rfl | rfl | rfl | rfl | rfl | rfl | rfl | rfl | rfl <;> simp [go_sem]
  case round =>
    obtain ⟨i, P, hi, rfl, m, mo⟩ := hrel
    by_cases hlt : i < 8
    · go_wp2_with fail
      go_loopw [10, 11] (fun cc jj wr => ∃ (j o : Nat) (P : Nat → Nat), j ≤ 8 ∧ o < 4294967296 ∧ jj = .int .i64 j ∧ cc = .int .u64 o ∧ RM w wr p q u.heap.size (w.heap.size + 1 + 1) 16 X Y P ∧ Hid (MI 4294967296 8 X Y i j o P)) (fun _ j _ => 8 - (intOf j).toNat)
      case atStart => exact ⟨0, 0, P, by omega, by omega, rfl, rfl, m, Lib.hid (mi_begin mo.out)⟩
      case round =>
        obtain ⟨j, o, P, hj, ho, rfl, rfl, m, mi⟩ := hrel
        by_cases hlt' : j < 8
        · have cx := m.rw.rowX.cell hlt
          have cy := m.rw.rowY.cell hlt'
          have cp := m.rw.rowP.cell (show i + j < 16 by omega)
          have fp := m.rw.rowP.free (show i + j < 16 by omega)
          have bx := HlX.out i
          have by' := HlY.out j
          have bp := m.rw.lt (i + j)
          obtain ⟨m1, e1, t1, d1, c1, q1, q2, q3, q4, q5, l0, l1, l2, l3, l4, e⟩ := ex_rm bx by' bp ho
          have M := Lib.hid m
          clear m bx by' bp
          go_wp2_with fail
          go_quiet (fail)
          go_wp2_with fail
          go_roundw
          case rel => exact ⟨j + 1, c1, upd P (i + j) d1, by omega, l4, by go_num, rfl, (M.out.drewN _).set (by omega) l3, Lib.hid (mi_step hlt hlt' mi.out e.out)⟩
          case measure => simp [intOf]; omega
        · obtain rfl : j = 8 := by omega
          have cp := m.rw.rowP.cell (show i + 8 < 16 by omega)
          have fp := m.rw.rowP.free (show i + 8 < 16 by omega)
          have M := Lib.hid m
          clear m
          go_wp2_with fail
          go_roundw
          case rel => exact ⟨i + 1, upd P (i + 8) o, by omega, by go_num, M.out.set (by omega) ho, Lib.hid (mi_end hlt mi.out)⟩
          case measure => simp [intOf]; omega
    · obtain rfl : i = 8 := by omega
      have M := Lib.hid m
      have c0 := m.rw.rowP.cell (show 0 < 16 by omega)
      clear m
      go_wp2_with fail
      refine region_till (fun _ => True) 5 (by kernel_rfl) ?_
      refine till_take (i := 0) (v := .slice (some ⟨u.heap.size, 8, none⟩) 8 8) rfl (by kernel_rfl) (by kernel_rfl) (by kernel_rfl) (by kernel_rfl) (fun _ _ _ h => h) trivial (Or.inl ⟨by rfl, fun wx hx => ?_⟩) ?_
      · go_simp
      simp only [Act.put, List.setIfInBounds_toArray, List.set_cons_zero, List.set_cons_succ]
      refine till_take (i := 2) (v := .slice (some ⟨u.heap.size, 0, none⟩) 8 16) rfl (by kernel_rfl) (by kernel_rfl) (by kernel_rfl) (by kernel_rfl) (fun _ _ _ h => h) trivial (Or.inl ⟨by rfl, fun wx hx => ?_⟩) ?_
      · go_simp
      simp only [Act.put, List.setIfInBounds_toArray, List.set_cons_zero, List.set_cons_succ]
      obtain ⟨H, rH⟩ := M.out.rw.rowH
      obtain ⟨L, rL⟩ := M.out.rowL
      have HH := Lib.hid rH; have HL := Lib.hid rL
      clear rH rL
      have rP : RowIs wr.drew u.heap.size 16 P := M.out.rw.rowP
      have hlt := M.out.rw.lt
      have hul := M.out.ul
      have hur := M.out.rw.ur
      have huo := M.out.rw.uo
      have HP := Lib.hid rP; have Hlt := Lib.hid hlt
      have HB := Lib.hid M.out.rw.below
      clear rP hlt M c0
      refine till_step (i := 1) (by kernel_rfl) rfl (fun K hK => ?_)
      go_simp
      refine (join_calls (P 8) (P 9) (P 10) (P 11) (P 12) (P 13) (P 14) (P 15) ⟨Hlt.out _, Hlt.out _, Hlt.out _, Hlt.out _, Hlt.out _, Hlt.out _, Hlt.out _, Hlt.out _⟩ u.heap.size 8 8 _ (HP.out.cell (by omega)) (HP.out.cell (by omega)) (HP.out.cell (by omega)) (HP.out.cell (by omega)) (HP.out.cell (by omega)) (HP.out.cell (by omega)) (HP.out.cell (by omega)) (HP.out.cell (by omega)) huo).mono ?_
      rintro e w1 ⟨h0, h1, h2, h3, rfl, hh, eh, hbl⟩
      have Heh := Lib.hid eh
      have HP1 := Lib.hid (HP.out.below hbl huo)
      have HH1 := Lib.hid ((show RowIs wr.drew _ 4 H from HH.out).below hbl hur)
      have HL1 := Lib.hid ((show RowIs wr.drew _ 4 L from HL.out).below hbl hul)
      have hsz := hbl.size
      have HB1 := Lib.hid (HB.out.drew.trans (hbl.mono HB.out.size))
      clear hbl eh HP HH HL HB
      refine hK.out _ _ (Or.inr trivial) (fun _ => ?_)
      clear hK K
      refine till_step (i := 3) (by kernel_rfl) rfl (fun K hK => ?_)
      go_simp
      refine (join_calls (P 0) (P 1) (P 2) (P 3) (P 4) (P 5) (P 6) (P 7) ⟨Hlt.out _, Hlt.out _, Hlt.out _, Hlt.out _, Hlt.out _, Hlt.out _, Hlt.out _, Hlt.out _⟩ u.heap.size 0 16 _ (HP1.out.cell (by omega)) (HP1.out.cell (by omega)) (HP1.out.cell (by omega)) (HP1.out.cell (by omega)) (HP1.out.cell (by omega)) (HP1.out.cell (by omega)) (HP1.out.cell (by omega)) (HP1.out.cell (by omega)) (Nat.lt_of_lt_of_le huo hsz)).mono ?_
      rintro e w2 ⟨l0, l1, l2, l3, rfl, hl, el, hbl⟩
      have Hel := Lib.hid el
      have rH := HH1.out.below hbl (Nat.lt_of_lt_of_le hur hsz)
      have rL := HL1.out.below hbl (Nat.lt_of_lt_of_le hul hsz)
      have HB2 := Lib.hid (HB1.out.trans (hbl.mono HB1.out.size))
      clear hbl el HP1 HH1 HL1 HB1
      refine hK.out _ _ (Or.inr trivial) (fun _ => ?_)
      clear hK K
      have p0 := rH.cell (show 0 < 4 by omega); have q0 := rH.free (show 0 < 4 by omega)
      have p1 := rH.cell (show 1 < 4 by omega); have q1 := rH.free (show 1 < 4 by omega)
      have p2 := rH.cell (show 2 < 4 by omega); have q2 := rH.free (show 2 < 4 by omega)
      have p3 := rH.cell (show 3 < 4 by omega); have q3 := rH.free (show 3 < 4 by omega)
      have g0 := rL.cell (show 0 < 4 by omega); have f0 := rL.free (show 0 < 4 by omega)
      have g1 := rL.cell (show 1 < 4 by omega); have f1 := rL.free (show 1 < 4 by omega)
      have g2 := rL.cell (show 2 < 4 by omega); have f2 := rL.free (show 2 < 4 by omega)
      have g3 := rL.cell (show 3 < 4 by omega); have f3 := rL.free (show 3 < 4 by omega)
      clear rH rL
      refine till_step (i := 4) (by kernel_rfl) rfl (fun K hK => ?_)
      go_simp
      refine hK.out _ _ (Or.inr trivial) (fun _ => ?_)
      clear hK K
      refine till_step (i := 5) (by kernel_rfl) rfl (fun K hK => ?_)
      go_simp
      refine hK.out _ _ (Or.inr trivial) (fun _ => ?_)
      clear hK K
      refine till_done (by kernel_rfl) ?_
      go_wp2_with fail
      refine bodyPost_ret (v := .tuple #[.agg #[.int .u64 h0, .int .u64 h1, .int .u64 h2, .int .u64 h3], .agg #[.int .u64 l0, .int .u64 l1, .int .u64 l2, .int .u64 l3]]) (by simp [results, Tryd.results14, go_sem, *]) rfl ?_
      refine ⟨h0, h1, h2, h3, l0, l1, l2, l3, rfl, hh, hl, refmul_fin HeX.out HeY.out mo.out Heh.out Hel.out, ?_⟩
      iterate 8 refine Below.setCell ?_ (by simp; omega) _
      exact HB2.out
end Go.Proofs.YtopahcobdfdnlaaDoor
