/-
  The reference's product, divided by 2^256, modulo the modulus. Conditions: words below 2^64, the first number below the modulus.
-/
import Derived.Test.YtalddekocfkbhaaMont2
import Derived.Test.YtalddekocfkbhaaMontNum
import Derived.Test.YtalddekocfkbhaaLen
namespace Go.Proofs.Ytalddekocfkbhaa
set_option linter.unusedVariables false
set_option linter.unusedSimpArgs false
open Go.RowKit

/-- the reference's constant: what times the modulus is -1 modulo 2^32 -/
def turnN (F : FC) : Nat := if F.m0 = 0x3c208c16d87cfd47 then 3834012553 else 4026531839
theorem turn_ok {f : Int} {F : FC} (hf : FieldIs f F) : turnN F < 4294967296 ∧ (turnN F * (F.M % 4294967296) + 1) % 4294967296 = 0 := by
  rcases hf with ⟨_, rfl⟩ | ⟨_, rfl⟩
  · exact ⟨by decide, by decide⟩
  · exact ⟨by decide, by decide⟩
theorem turn_calls (f : Int) (F : FC) (hf : FieldIs f F) (w : World) : Calls Try.prog 107 #[.int .i64 f] w fun e w' => e = .returned (.int .u64 (turnN F)) ∧ w = w' := by
  rcases hf with ⟨rfl, rfl⟩ | ⟨rfl, rfl⟩
  · go_enter Try.func107, Try.ntmps107
    go_wp2_with fail
    go_ret
    exact ⟨rfl, rfl⟩
  · go_enter Try.func107, Try.ntmps107
    go_wp2_with fail
    go_ret
    exact ⟨rfl, rfl⟩
/-- the world in the product's rounds -/
structure MT (w wr : World) (p q r t : Nat) (X Y Z P : Nat → Nat) : Prop where
  below : Below w.heap.size w wr
  res : Row4 wr (w.heap.size + 1 + 1) 0 0 0 0
  rowX : RowIs wr p 8 X
  rowY : RowIs wr q 8 Y
  rowZ : RowIs wr r 8 Z
  rowP : RowIs wr t 10 P
  lt : ∀ k, P k < 4294967296
section
variable {w wr : World} {p q r t : Nat} {X Y Z P : Nat → Nat}
theorem MT.set (h : MT w wr p q r t X Y Z P) (h2 : w.heap.size + 1 + 1 < t) (pt : p < t) (qt : q < t) (rt : r < t) {k d : Nat} (hk : k < 10) (hd : d < 4294967296) :
    MT w (wr.setCell ⟨t, k, none⟩ (.int .u64 (d : Nat))) p q r t X Y Z (upd P k d) :=
  ⟨h.below.setCell (p := ⟨t, k, none⟩) (by show w.heap.size ≤ t; omega) _, h.res.other (by omega) _, h.rowX.other (by omega) _, h.rowY.other (by omega) _, h.rowZ.other (by omega) _, h.rowP.set hk,
    fun j => by unfold upd; split; exact hd; exact h.lt j⟩
theorem MT.drewN (h : MT w wr p q r t X Y Z P) (n : Nat) : MT w (wr.drewN n) p q r t X Y Z P := ⟨h.below.trans (below_drewN' _ _ _), h.res.drewN n, h.rowX, h.rowY, h.rowZ, h.rowP, h.lt⟩
end
/-- one digit's numbers -/
theorem ex_mac {a x y c : Nat} (ha : a < 4294967296) (hx : x < 4294967296) (hy : y < 4294967296) (hc : c < 4294967296) : ∃ m n1 n l h : Nat, (x : Int) * (y : Int) = (m : Int) ∧ (a : Int) + (m : Int) = (n1 : Int) ∧ (n1 : Int) + (c : Int) = (n : Int) ∧ m < 18446744073709551616 ∧ n1 < 18446744073709551616 ∧ n < 18446744073709551616 ∧
    bits .and .u64 (n : Int) 4294967295 = (l : Int) ∧ (n : Int) / 4294967296 = (h : Int) ∧ l < 4294967296 ∧ h < 4294967296 ∧ Hid (l + 4294967296 * h = a + x * y + c) := by
  have hm := Nat.mul_le_mul (show x ≤ 4294967295 by omega) (show y ≤ 4294967295 by omega)
  obtain ⟨l, h, e1, e2, hl, hh, e⟩ := ex_half (a := a + x * y + c) (by omega)
  exact ⟨x * y, a + x * y, a + x * y + c, l, h, (Int.natCast_mul _ _).symm, by omega, by omega, by omega, by omega, by omega, e1, e2, hl, hh, e⟩
theorem ex_two {a c : Nat} (ha : a < 4294967296) (hc : c < 4294967296) : ∃ n l h : Nat, (a : Int) + (c : Int) = (n : Int) ∧ n < 18446744073709551616 ∧ bits .and .u64 (n : Int) 4294967295 = (l : Int) ∧ (n : Int) / 4294967296 = (h : Int) ∧ l < 4294967296 ∧ h ≤ 1 ∧ Hid (l + 4294967296 * h = a + c) := by
  obtain ⟨l, h, e1, e2, hl, hh, e⟩ := ex_half (a := a + c) (by omega)
  have := e.out
  exact ⟨a + c, l, h, by omega, by omega, e1, e2, hl, by omega, e⟩
/-- the digit that clears the lowest one -/
theorem ex_clear {u0 n z : Nat} (hu : u0 < 4294967296) (hn : n < 4294967296) (hz : z < 4294967296) (ht : (n * z + 1) % 4294967296 = 0) : ∃ m0 q m1 n1 c : Nat, (u0 : Int) * (n : Int) = (m0 : Int) ∧ m0 < 18446744073709551616 ∧ bits .and .u64 (m0 : Int) 4294967295 = (q : Int) ∧ q < 4294967296 ∧
    (q : Int) * (z : Int) = (m1 : Int) ∧ (u0 : Int) + (m1 : Int) = (n1 : Int) ∧ m1 < 18446744073709551616 ∧ n1 < 18446744073709551616 ∧ (n1 : Int) / 4294967296 = (c : Int) ∧ c < 4294967296 ∧ Hid (4294967296 * c = u0 + q * z) := by
  have hm := Nat.mul_le_mul (show u0 ≤ 4294967295 by omega) (show n ≤ 4294967295 by omega)
  obtain ⟨q, h, e1, _, hq, hh, e⟩ := ex_half (a := u0 * n) (by omega)
  have hm1 := Nat.mul_le_mul (show q ≤ 4294967295 by omega) (show z ≤ 4294967295 by omega)
  obtain ⟨l, c, e3, e4, hl, hc, e'⟩ := ex_half (a := u0 + q * z) (by omega)
  have hz0 : (u0 + q * z) % 4294967296 = 0 := by
    have hq' : q = u0 * n % 4294967296 := by have := e.out; omega
    rw [hq', Nat.add_mod, Nat.mul_mod, Nat.mod_mod, ← Nat.mul_mod, ← Nat.add_mod, show u0 + u0 * n * z = u0 * (n * z + 1) by rw [Nat.mul_add, Nat.mul_one, Nat.mul_assoc, Nat.add_comm], Nat.mul_mod, ht, Nat.mul_zero, Nat.zero_mod]
  have := e'.out
  exact ⟨u0 * n, q, q * z, u0 + q * z, c, (Int.natCast_mul _ _).symm, by omega, e1, hq, (Int.natCast_mul _ _).symm, by omega, by omega, by omega, e4, hc, Lib.hid (by omega)⟩
theorem one_start (X P : Nat → Nat) (y : Nat) : tot 4294967296 P 9 + 0 * 4294967296 ^ 0 = tot 4294967296 P 9 + tot 4294967296 X 0 * y := by rw [Nat.zero_mul, show tot 4294967296 X 0 = 0 from rfl, Nat.zero_mul]
theorem digit0 {Z : Nat → Nat} {M : Nat} (h : tot 4294967296 Z 8 = M) (hz : ∀ k, Z k < 4294967296) : Z 0 = M % 4294967296 := by
  have := hz 0
  rw [← h]
  simp only [tot]
  omega
theorem below_set4v {B : Nat} {w w' : World} {b : Nat} (h : Below B w w') (hb : B ≤ b) (d0 d1 d2 d3 : Value) : Below B w ((((w'.setCell ⟨b, 0, none⟩ d0).setCell ⟨b, 1, none⟩ d1).setCell ⟨b, 2, none⟩ d2).setCell ⟨b, 3, none⟩ d3) :=
  (((h.setCell (p := ⟨b, 0, none⟩) hb _).setCell (p := ⟨b, 1, none⟩) hb _).setCell (p := ⟨b, 2, none⟩) hb _).setCell (p := ⟨b, 3, none⟩) hb _

theorem lt_of_row {w : World} {b k : Nat} {v : Value} (h : w.cell? ⟨b, k, none⟩ = some v) : b < w.heap.size := by
  rcases Nat.lt_or_ge b w.heap.size with q | q
  · exact q
  · unfold World.cell? at h
    simp [Array.getElem?_eq_none q] at h
theorem RowIs.ext0 {w : World} {b : Nat} (h : RowIs w b 4 (fnOf [0, 0, 0, 0])) : RowIs w b 4 (fun _ => 0) := fun k hk => by
  have := h k hk
  match k, hk with
  | 0, _ | 1, _ | 2, _ | 3, _ => exact this
/-- the world in the rounds that put the digits together -/
structure OW (w wr : World) (t o : Nat) (P O : Nat → Nat) : Prop where
  below : Below w.heap.size w wr
  res : Row4 wr (w.heap.size + 1 + 1) 0 0 0 0
  rowP : RowIs wr t 10 P
  rowO : RowIs wr o 4 O
  lo : o < wr.heap.size
theorem OW.drewN {w wr : World} {t o : Nat} {P O : Nat → Nat} (h : OW w wr t o P O) (n : Nat) : OW w (wr.drewN n) t o P O := ⟨h.below.trans (below_drewN' _ _ _), h.res.drewN n, h.rowP, h.rowO, h.lo⟩
theorem OW.set {w wr : World} {t o : Nat} {P O : Nat → Nat} (h : OW w wr t o P O) (h2 : w.heap.size + 1 + 1 < t) (ht : t < o) {k d : Nat} (hk : k < 4) : OW w (wr.setCell ⟨o, k, none⟩ (.int .u64 (d : Nat))) t o P (upd O k d) :=
  ⟨h.below.setCell (p := ⟨o, k, none⟩) (by show w.heap.size ≤ o; omega) _, h.res.other (by omega) _, h.rowP.other (by omega) _, h.rowO.set hk, by rw [World.size_setCell]; exact h.lo⟩
set_option maxRecDepth 100000 in
set_option maxHeartbeats 16000000 in
theorem mont_calls (f : Int) (F : FC) (hf : FieldIs f F) (a0 a1 a2 a3 b0 b1 b2 b3 : Nat) (ha : ok4 a0 a1 a2 a3) (hb : ok4 b0 b1 b2 b3) (la : val4 a0 a1 a2 a3 < F.M) (w : World) :
    Calls Try.prog 72 #[.int .i64 f, .agg #[.int .u64 a0, .int .u64 a1, .int .u64 a2, .int .u64 a3], .agg #[.int .u64 b0, .int .u64 b1, .int .u64 b2, .int .u64 b3]] w (FePost (val4 a0 a1 a2 a3 * val4 b0 b1 b2 b3 * F.Ri % F.M) w) := by
  go_enter Try.func72, Try.ntmps72
  go_wp2_with fail
  refine three_halves f F hf a0 a1 a2 a3 b0 b1 b2 b3 ha hb w.heap.size (w.heap.size + 1) _ _ ?_ ?_ (by first | (simp; done) | (simp; omega)) (by first | (simp; done) | (simp; omega)) (fun p q r X Y Z s21 s22 s23 s24 s25 s26 s27 u H => ?_)
  · exact ⟨by simp [go_sem], by simp [go_sem], by simp [go_sem], by simp [go_sem], fun k => by simp [go_sem]⟩
  · exact ⟨by simp [go_sem], by simp [go_sem], by simp [go_sem], by simp [go_sem], fun k => by simp [go_sem]⟩
  have hres : Row4 u (w.heap.size + 1 + 1) 0 0 0 0 := Row4.below ⟨by simp [go_sem], by simp [go_sem], by simp [go_sem], by simp [go_sem], fun k => by simp [go_sem]⟩ H.below (by simp)
  have h0 : Below w.heap.size w u := by
    refine Below.trans ?_ (H.below.mono (by simp; omega))
    repeat (first | exact Below.refl _ _ | refine Below.alloc ?_ (by first | (simp; done) | (simp; omega)) _)
  have lp := H.lp; have lq := H.lq; have lr := H.lr; have hs := H.below.size
  simp at lp lq lr hs
  have up := H.up; have uq := H.uq; have ur := H.ur
  have ht2 : w.heap.size + 1 + 1 < u.heap.size := by omega
  have HX := Lib.hid H.ltX; have HY := Lib.hid H.ltY; have HZ := Lib.hid H.ltZ
  have HeX := Lib.hid H.eX; have HeY := Lib.hid H.eY; have HeZ := Lib.hid H.eZ
  have bN := (turn_ok hf).1
  have HTn := Lib.hid (show (turnN F * Z 0 + 1) % 4294967296 = 0 by rw [digit0 H.eZ H.ltZ]; exact (turn_ok hf).2)
  have HM0 := Lib.hid (show MT w (u.alloc (.cells #[.int .u64 0, .int .u64 0, .int .u64 0, .int .u64 0, .int .u64 0, .int .u64 0, .int .u64 0, .int .u64 0, .int .u64 0, .int .u64 0] 149)) p q r u.heap.size X Y Z (fun _ => 0) from by
    refine ⟨h0.alloc (by omega) _, hres.alloc (by omega) _, H.rowX.alloc up _, H.rowY.alloc uq _, H.rowZ.alloc ur _, ?_, fun _ => by show 0 < _; omega⟩
    intro k hk
    refine ⟨?_, World.frozen?_alloc_new _ _ _ _⟩
    rw [World.cell?_alloc_new]
    match k, hk with
    | 0, _ | 1, _ | 2, _ | 3, _ | 4, _ | 5, _ | 6, _ | 7, _ | 8, _ | 9, _ => rfl)
  have HO := Lib.hid (mout_zero F.M (val4 a0 a1 a2 a3) Y (fun _ => 0) hf.ok.pos (fun _ => rfl))
  have Hf := Lib.hid hf
  have HLA := Lib.hid la
  clear H hres h0 la
  unfold mfr
  go_wp2_with fail
  refine (turn_calls f F hf _).mono ?_
  rintro e w' ⟨rfl, rfl⟩
  generalize turnN F = tn at *
  go_wp2_with fail
  go_loopw [12] (fun i wr => ∃ (k : Nat) (P : Nat → Nat), k ≤ 8 ∧ i = .int .i64 k ∧ Hid (MT w wr p q r u.heap.size X Y Z P) ∧ Hid (MOut F.M (val4 a0 a1 a2 a3) Y P k)) (fun i _ => 8 - (intOf i).toNat)
  case atStart => exact ⟨0, fun _ => 0, by omega, rfl, HM0, HO⟩
  case round =>
    clear HM0 HO
    obtain ⟨k, P, hk, rfl, HM, HO⟩ := hrel
    by_cases hlt : k < 8
    · obtain ⟨wo, rfl⟩ : ∃ wo : World, wo = wr := ⟨_, rfl⟩
      go_wp2_with fail
      go_loopw [13, 14] (fun cv jv wr => ∃ (j c : Nat) (N : Nat → Nat), j ≤ 8 ∧ c < 4294967296 ∧ jv = .int .i64 j ∧ cv = .int .u64 c ∧ Hid (MT w wr p q r u.heap.size X Y Z N) ∧ Hid (tot 4294967296 N 9 + c * 4294967296 ^ j = tot 4294967296 P 9 + tot 4294967296 X j * Y k)) (fun _ jv _ => 8 - (intOf jv).toNat)
      case atStart => exact ⟨0, 0, P, by omega, by omega, rfl, rfl, HM, Lib.hid (one_start X P (Y k))⟩
      case round =>
        clear HM
        obtain ⟨j, c, N, hj, hc, rfl, rfl, HM, HI⟩ := hrel
        by_cases hlt2 : j < 8
        · have cx := HM.out.rowX.cell hlt2
          have cy := HM.out.rowY.cell hlt
          have cp := HM.out.rowP.cell (show j < 10 by omega)
          have fp := HM.out.rowP.free (show j < 10 by omega)
          have hj10 : (j : Int) < 10 := by omega
          obtain ⟨m, n1, n, l, h, e1, e2, e3, b1, b2, b3, e4, e5, bl, bh, e⟩ := ex_mac (HM.out.lt j) (HX.out j) (HY.out k) hc
          go_wp2_with fail
          go_quiet (fail)
          go_wp2_with fail
          go_roundw
          case rel => exact ⟨j + 1, h, upd N j l, by omega, bh, by go_num, rfl, Lib.hid ((HM.out.drewN _).set ht2 up uq ur (by omega) bl), Lib.hid (one_step hlt2 HI.out e.out)⟩
          case measure => simp [intOf]; omega
        · obtain rfl : j = 8 := by omega
          have c8 := HM.out.rowP.cell (show 8 < 10 by omega)
          have f8 := HM.out.rowP.free (show 8 < 10 by omega)
          have c9 := HM.out.rowP.cell (show 9 < 10 by omega)
          have f9 := HM.out.rowP.free (show 9 < 10 by omega)
          have c0 := HM.out.rowP.cell (show 0 < 10 by omega)
          have z0 := HM.out.rowZ.cell (show 0 < 8 by omega)
          obtain ⟨n, l, h, e1, b1, e2, e3, bl, bh, e⟩ := ex_two (HM.out.lt 8) hc
          have HU := Lib.hid ((HM.out.set ht2 up uq ur (k := 8) (by omega) bl).set ht2 up uq ur (k := 9) (d := h) (by omega) (by omega))
          have HS := Lib.hid (one_end HI.out e.out)
          have HU9 := Lib.hid (show upd (upd N 8 l) 9 h 9 ≤ 1 by unfold upd; rw [if_pos rfl]; exact bh)
          have HU0 := Lib.hid (show upd (upd N 8 l) 9 h 0 = N 0 by unfold upd; rw [if_neg (by omega), if_neg (by omega)])
          obtain ⟨m0, g, m1, n1, d, g1, g2, g3, g4, g5, g6, g7, g8, g9, g10, gg⟩ := ex_clear (HM.out.lt 0) bN (HZ.out 0) HTn.out
          have HT2 := Lib.hid (two2_start (U := upd (upd N 8 l) 9 h) (Z := Z) (q := g) (c := d) (by rw [HU0.out]; exact gg.out))
          have ub := HM.out
          clear HM HI e ub gg
          generalize upd (upd N 8 l) 9 h = U at *
          go_wp2_with fail
          go_loopw [13, 18] (fun cv jv wr => ∃ (j c : Nat) (V : Nat → Nat), 1 ≤ j ∧ j ≤ 8 ∧ c < 4294967296 ∧ jv = .int .i64 j ∧ cv = .int .u64 c ∧ Hid (MT w wr p q r u.heap.size X Y Z V) ∧ Hid (Two2 U Z V g j c)) (fun _ jv _ => 8 - (intOf jv).toNat)
          case atStart => exact ⟨1, d, U, by omega, by omega, g10, rfl, rfl, HU, HT2⟩
          case round =>
            clear HU HT2 c8 f8 c9 f9 c0 z0
            obtain ⟨j, c', V, hj1, hj, hc', rfl, rfl, HM, HT2⟩ := hrel
            by_cases hlt3 : j < 8
            · obtain ⟨j1, e6, hj1'⟩ : ∃ j1 : Nat, (j : Int) - 1 = (j1 : Int) ∧ j1 + 1 = j := ⟨j - 1, by omega, by omega⟩
              have cz := HM.out.rowZ.cell hlt3
              have cp := HM.out.rowP.cell (show j < 10 by omega)
              have cp1 := HM.out.rowP.cell (show j1 < 10 by omega)
              have fp1 := HM.out.rowP.free (show j1 < 10 by omega)
              have hj10 : (j1 : Int) < 10 := by omega
              have hj11 : (j : Int) < 10 := by omega
              obtain ⟨m, n1, n', l', h', d1, d2, d3, b1', b2', b3', d4, d5, bl', bh', e⟩ := ex_mac (HM.out.lt j) g4 (HZ.out j) hc'
              have HN := Lib.hid (two2_step hj1 HT2.out (by rw [← HT2.out.1 j (Nat.le_refl _)]; exact e.out))
              rw [show j - 1 = j1 by omega] at HN
              have HJ := Lib.hid hj1'
              clear hj1' HT2 e
              go_wp2_with fail
              go_quiet (fail)
              go_wp2_with fail
              go_roundw
              case rel => exact ⟨j + 1, h', upd V j1 l', by omega, by omega, bh', by go_num, rfl, Lib.hid ((HM.out.drewN _).set ht2 up uq ur (by omega) bl'), HN⟩
              case measure => simp [intOf]; omega
            · obtain rfl : j = 8 := by omega
              have c7 := HM.out.rowP.cell (show 7 < 10 by omega); have f7 := HM.out.rowP.free (show 7 < 10 by omega)
              have c8 := HM.out.rowP.cell (show 8 < 10 by omega); have f8 := HM.out.rowP.free (show 8 < 10 by omega)
              have c9 := HM.out.rowP.cell (show 9 < 10 by omega)
              obtain ⟨n', l', h', d1, b1', d2, d3, bl', bh', e⟩ := ex_two (HM.out.lt 8) hc'
              have h9 := HU9.out
              have e9' : V 9 = U 9 := HT2.out.1 9 (by omega)
              obtain ⟨s9, e9, hs9⟩ : ∃ s9 : Nat, (V 9 : Int) + (h' : Int) = (s9 : Int) ∧ s9 = U 9 + h' := ⟨V 9 + h', by omega, by omega⟩
              have bs9 : s9 < 4294967296 := by omega
              have HN := Lib.hid ((HM.out.set ht2 up uq ur (k := 7) (by omega) bl').set ht2 up uq ur (k := 8) (d := s9) (by omega) bs9)
              have HO' := Lib.hid (mout_next HO.out HLA.out (HY.out k) g4 (N := upd (upd V 7 l') 8 s9) (by
                have h2 := two2_end HT2.out (l := l') (h := h') (by rw [← HT2.out.1 8 (Nat.le_refl _)]; exact e.out)
                rw [hs9, h2, HS.out, HeX.out, HeZ.out]))
              clear HM HT2 e hs9 h9 e9' HU9 HS HO
              go_wp2_with fail
              go_roundw
              case rel => exact ⟨k + 1, upd (upd V 7 l') 8 s9, by omega, by go_num, HN, HO'⟩
              case measure => simp [intOf]; omega
    · obtain rfl : k = 8 := by omega
      obtain ⟨hP8, hP9⟩ := mout_top hf.ok HO.out
      have HV := Lib.hid (show tot 4294967296 P 8 % F.M = val4 a0 a1 a2 a3 * val4 b0 b1 b2 b3 * F.Ri % F.M by rw [← hP9, mout_end hf.ok HO.out, HeY.out])
      have HP8 := Lib.hid hP8
      have hwr : u.heap.size < wr.heap.size := lt_of_row (HM.out.rowP.cell (show 0 < 10 by omega))
      have HW := Lib.hid (show OW w (wr.alloc (.cells #[.int .u64 0, .int .u64 0, .int .u64 0, .int .u64 0] 26)) u.heap.size wr.heap.size P (fun _ => 0) from
        ⟨HM.out.below.alloc (by omega) _, HM.out.res.alloc (by omega) _, HM.out.rowP.alloc hwr _, (Row4.new wr 0 0 0 0 26).rows.ext0, by simp⟩)
      have HPl := Lib.hid HM.out.lt
      clear HO hP8 hP9 HM HLA
      go_wp2_with fail
      go_loopw [20] (fun iv wx => ∃ (i : Nat) (O : Nat → Nat), i ≤ 4 ∧ iv = .int .i64 i ∧ Hid (OW w wx u.heap.size wr.heap.size P O) ∧ Hid (∀ j, j < i → O j = P (2 * j) + 4294967296 * P (2 * j + 1))) (fun iv _ => 4 - (intOf iv).toNat)
      case atStart => exact ⟨0, fun _ => 0, by omega, rfl, HW, Lib.hid (fun j hj => absurd hj (by omega))⟩
      case round =>
        clear HW
        obtain ⟨i, O, hi, rfl, HW, HO⟩ := hrel
        by_cases hlt4 : i < 4
        · obtain ⟨e0, q0, q0'⟩ : ∃ e0 : Nat, (2 : Int) * (i : Int) = (e0 : Int) ∧ e0 = 2 * i := ⟨2 * i, by omega, rfl⟩
          obtain ⟨o0, q1, q1'⟩ : ∃ o0 : Nat, (e0 : Int) + 1 = (o0 : Int) ∧ o0 = 2 * i + 1 := ⟨2 * i + 1, by omega, rfl⟩
          have ca := HW.out.rowP.cell (show e0 < 10 by omega)
          have cb := HW.out.rowP.cell (show o0 < 10 by omega)
          have co := HW.out.rowO.cell hlt4
          have fo := HW.out.rowO.free hlt4
          have be : (e0 : Int) < 10 := by omega
          have bo : (o0 : Int) < 10 := by omega
          obtain ⟨uu, s, j1, j2, j3, j4, j5⟩ := ex_join (HPl.out e0) (HPl.out o0)
          have HN := Lib.hid (show ∀ j, j < i + 1 → upd O i s j = P (2 * j) + 4294967296 * P (2 * j + 1) from fun j hj => by
            unfold upd
            by_cases e : j = i
            · subst e; rw [if_pos rfl, j5.out, q0', q1']
            · rw [if_neg e]; exact HO.out j (by omega))
          have HQ1 := Lib.hid q0'
          have HQ2 := Lib.hid q1'
          clear q0' q1' j5 HO
          go_wp2_with fail
          go_region
          go_wp2_with fail
          go_roundw
          case rel => exact ⟨i + 1, upd O i s, by omega, by go_num, Lib.hid ((HW.out.drewN 1).set ht2 hwr hlt4), HN⟩
          case measure => simp [intOf]; omega
        · obtain rfl : i = 4 := by omega
          have c8 := HW.out.rowP.cell (show 8 < 10 by omega)
          rw [HP8.out] at c8
          have o0 := HW.out.rowO.cell (show 0 < 4 by omega); have o1 := HW.out.rowO.cell (show 1 < 4 by omega); have o2 := HW.out.rowO.cell (show 2 < 4 by omega); have o3 := HW.out.rowO.cell (show 3 < 4 by omega)
          have v0 : O 0 = P 0 + 4294967296 * P 1 := HO.out 0 (by omega)
          have v1 : O 1 = P 2 + 4294967296 * P 3 := HO.out 1 (by omega)
          have v2 : O 2 = P 4 + 4294967296 * P 5 := HO.out 2 (by omega)
          have v3 : O 3 = P 6 + 4294967296 * P 7 := HO.out 3 (by omega)
          have l0 := HPl.out 0; have l1 := HPl.out 1; have l2 := HPl.out 2; have l3 := HPl.out 3; have l4 := HPl.out 4; have l5 := HPl.out 5; have l6 := HPl.out 6; have l7 := HPl.out 7
          have hok : ok4 (O 0) (O 1) (O 2) (O 3) := ⟨by rw [v0]; omega, by rw [v1]; omega, by rw [v2]; omega, by rw [v3]; omega⟩
          have HE := Lib.hid (show val4 (O 0) (O 1) (O 2) (O 3) = tot 4294967296 P 8 by rw [v0, v1, v2, v3, ← join_val])
          clear v0 v1 v2 v3 l0 l1 l2 l3 l4 l5 l6 l7 HO
          go_wp2_with fail
          refine (down_calls f F Hf.out (O 0) (O 1) (O 2) (O 3) hok _).mono ?_
          rintro e w9 ⟨s0, s1, s2, s3, rfl, hs9, hv, hbl⟩
          have HVs := Lib.hid (show val4 s0 s1 s2 s3 = val4 a0 a1 a2 a3 * val4 b0 b1 b2 b3 * F.Ri % F.M by rw [hv, HE.out, HV.out])
          have hsz := HW.out.below.size
          have lres := lt_of_row HW.out.res.c0
          have Rr := HW.out.res.below hbl lres
          have y0 := Rr.c0; have y1 := Rr.c1; have y2 := Rr.c2; have y3 := Rr.c3; have yf := Rr.fr
          have HB := Lib.hid (HW.out.below.trans (hbl.mono hsz))
          have hz9 : w.heap.size + 1 + 1 < w9.heap.size := Nat.lt_of_lt_of_le lres hbl.size
          clear Rr hv hbl HW o0 o1 o2 o3 c8
          go_wp2_with fail
          refine bodyPost_ret (v := .agg #[.int .u64 s0, .int .u64 s1, .int .u64 s2, .int .u64 s3]) (by simp [results, Try.results72, go_sem, *]) rfl ?_
          refine ⟨_, _, _, _, rfl, hs9, HVs.out, ?_⟩
          exact below_set4 HB.out (by omega) _ _ _ _
end Go.Proofs.Ytalddekocfkbhaa
