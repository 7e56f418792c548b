/-
  The call of the reference's Bytes, which appends: for any number of four words, in any world. Conditions: each word below 2^64.
-/
import Derived.Test.YtopahcobdfdnlaaDoorBytes
import Derived.Laws.AppendOwn
import Derived.Laws.OwnMore
import Derived.Deep.LoopGhost
namespace Go.Proofs.YtopahcobdfdnlaaDoor
set_option linter.unusedVariables false
set_option linter.unusedSimpArgs false
open Go.RowKit

theorem u8_info : (Tryd.prog.info? 5).map (fun i => (i.zero, i.size, i.bytes)) = some (some (.int .u8 0), 1, 1) := by kernel_rfl
def bcells (A n : Nat) : List Value := (List.range n).map fun p => .int .u8 (byteAt A p : Nat)
theorem bcells_succ (A n : Nat) : bcells A (n + 1) = bcells A n ++ [.int .u8 (byteAt A n : Nat)] := by
  unfold bcells; rw [List.range_succ, List.map_append]; rfl
theorem bcells_len (A n : Nat) : (bcells A n).length = n := by unfold bcells; simp

theorem own_ge {w : World} {base : Nat} {e : TypeId} {size : Nat} {v : Value} {n : Nat} {xs : List Value} (h : w.ownsRow base e size v n xs) {k : Nat} (hk : v.ownBlock = some k) : base ≤ k := by
  obtain ⟨_, ⟨rfl, _⟩ | ⟨g, cap, cur, rfl, hg, _⟩⟩ := h
  · cases hk
  · cases hk; exact hg
theorem own_form {w : World} {base : Nat} {e : TypeId} {size : Nat} {v : Value} {n : Nat} {xs : List Value} (h : w.ownsRow base e size v n xs) (hn : 0 < n) : ∃ g cap, v = .slice (some ⟨g, 0, none⟩) n cap ∧ base ≤ g ∧ g < w.heap.size := by
  obtain ⟨_, ⟨_, h0⟩ | ⟨g, cap, cur, rfl, hg, hh, _⟩⟩ := h
  · omega
  · refine ⟨g, cap, rfl, hg, ?_⟩
    rcases Nat.lt_or_ge g w.heap.size with k | k
    · exact k
    · rw [Array.getElem?_eq_none k] at hh; cases hh
theorem own_cell {w : World} {base A g cap n : Nat} {e : TypeId} (h : w.ownsRow base e 1 (.slice (some ⟨g, 0, none⟩) n cap) n (bcells A n)) (k : Nat) (hk : k < n) : w.cell? ⟨g, k, none⟩ = some (.int .u8 (byteAt A k : Nat)) := by
  rw [h.cellAt k (by omega)]
  unfold bcells
  simp [hk]

set_option maxRecDepth 100000 in
set_option maxHeartbeats 4000000 in
theorem refBytes_calls (a0 a1 a2 a3 : Nat) (ha : ok4 a0 a1 a2 a3) (w : World) :
    Calls Tryd.prog 37 #[.agg #[.int .u64 a0, .int .u64 a1, .int .u64 a2, .int .u64 a3]] w fun e w' => ∃ b cap : Nat, e = .returned (.slice (some ⟨b, 0, none⟩) 32 cap) ∧ b < w'.heap.size ∧ (∀ k, k < 32 → w'.cell? ⟨b, k, none⟩ = some (.int .u8 (byteAt (val4 a0 a1 a2 a3) k : Nat))) ∧ Below w.heap.size w w' := by
  have hP := fn4_lt ha
  have HA := Lib.hid (val4_fn a0 a1 a2 a3)
  have HRow := Lib.hid (RowIs.mk w 24 [a0, a1, a2, a3] w.heap.size rfl)
  have HP := Lib.hid hP
  clear hP
  generalize fnOf [a0, a1, a2, a3] = P at *
  rw [HA.out]
  clear HA
  generalize hv : tot 18446744073709551616 P 4 = A
  have Hv := Lib.hid hv
  clear hv
  obtain ⟨i0, hi, hz0, hz1, hz2⟩ := info_parts u8_info
  go_enter Tryd.func37, Tryd.ntmps37
  go_wp2_with fail
  have HW0 := Lib.hid (show Below w.heap.size w (w.alloc (.cells #[.int .u64 a0, .int .u64 a1, .int .u64 a2, .int .u64 a3] 24)) ∧ RowIs (w.alloc (.cells #[.int .u64 a0, .int .u64 a1, .int .u64 a2, .int .u64 a3] 24)) w.heap.size 4 P ∧ (w.alloc (.cells #[.int .u64 a0, .int .u64 a1, .int .u64 a2, .int .u64 a3] 24)).heap.size = w.heap.size + 1 from ⟨(Below.refl _ _).alloc (Nat.le_refl _) _, HRow.out, by simp⟩)
  clear HRow
  generalize w.alloc (.cells #[.int .u64 a0, .int .u64 a1, .int .u64 a2, .int .u64 a3] 24) = W0 at HW0 ⊢
  go_loopw [3, 4] (fun v x wr => ∃ (q : Nat) (m : Int), q ≤ 4 ∧ Hid (m = 3 - (q : Int)) ∧ x = .int .i64 m ∧ wr.ownsRow (w.heap.size + 1) 5 1 v (8 * q) (bcells A (8 * q)) ∧ Below (w.heap.size + 1) W0 wr) (fun _ x _ => (intOf x + 1).toNat)
  case atStart => exact ⟨0, 3, by omega, Lib.hid (by omega), rfl, ⟨rfl, Or.inl ⟨rfl, rfl⟩⟩, Below.refl _ _⟩
  case round =>
    obtain ⟨q, m, hq, hm, rfl, hown, hb⟩ := hrel
    by_cases hlt : q < 4
    · have Hown := Lib.hid hown
      have HB := Lib.hid hb
      obtain ⟨j, rfl, hj⟩ : ∃ j : Nat, m = (j : Int) ∧ j = 3 - q := ⟨3 - q, by have := hm.out; omega, rfl⟩
      have lj : j < 4 := by omega
      have Hj := Lib.hid hj
      have t1 : decide ((0 : Int) ≤ (j : Int)) = true := decide_eq_true (by omega)
      clear hown hb hj hm
      obtain ⟨wo, rfl⟩ : ∃ wo : World, wo = wr := ⟨_, rfl⟩
      go_wp2_with fail
      go_loopw [3, 5] (fun v x wi => ∃ (n : Nat) (m : Int), n ≤ 8 ∧ Hid (m = 7 - (n : Int)) ∧ x = .int .i64 m ∧ wi.ownsRow (w.heap.size + 1) 5 1 v (8 * q + n) (bcells A (8 * q + n)) ∧ Below (w.heap.size + 1) W0 wi) (fun _ x _ => (intOf x + 1).toNat)
      case atStart => exact ⟨0, 7, by omega, Lib.hid (by omega), rfl, Hown.out, HB.out⟩
      case round =>
        clear Hown HB
        obtain ⟨n, m, hn, hm, rfl, hown, hb⟩ := hrel
        by_cases hn8 : n < 8
        · obtain ⟨kk, hkk⟩ : ∃ kk : Nat, m = (kk : Int) := ⟨7 - n, by have := hm.out; omega⟩
          subst hkk
          have hk' : kk = 7 - n := by have := hm.out; omega
          have lk : kk ≤ 7 := by omega
          have t2 : decide ((0 : Int) ≤ (kk : Int)) = true := decide_eq_true (by omega)
          obtain ⟨sh, hsh, lsh, esh⟩ : ∃ sh : Nat, (8 : Int) * (kk : Int) = (sh : Int) ∧ sh ≤ 56 ∧ sh = 8 * kk := ⟨8 * kk, by omega, by omega, rfl⟩
          have cx := (HW0.out.2.1.below hb (by omega)).cell lj
          have lx := HP.out j
          have hby : P j / 2 ^ sh % 256 = byteAt A (8 * q + n) := by
            rw [esh, word_byte P HP.out 4 j kk lj (by omega), Hv.out]
            unfold byteAt
            have := Hj.out
            rw [show 8 * j + kk = 31 - (8 * q + n) by omega]
          obtain ⟨t, e1, e2, lt⟩ := ex_byte lx hby
          have hbl := byteAt_lt A (8 * q + n)
          have HS := Lib.hid (bcells_succ A (8 * q + n))
          generalize byteAt A (8 * q + n) = b at *
          generalize P j = x at cx lx e1
          have HO := Lib.hid hown
          have HB := Lib.hid hb
          have Hk := Lib.hid hk'
          have hz : w.heap.size + 1 ≤ wr.heap.size := by have := hb.size; have := HW0.out.2.2; omega
          clear hown hb hk' hm hby esh
          go_wp2_with (at_builtin; refine wpList_append_own _ rfl _ _ 47 rfl (w.heap.size + 1) 5 i0 (.int .u8 0) 1 1 Tryd.underlying47 hi hz0 hz1 hz2 rfl (by decide) _ _ _ rfl (HO.out.alloc _) ⟨wr.heap.size, 0, none⟩ 1 1 [.int .u8 (b : Nat)] rfl rfl ?c1 ?c2 ?c3 ?c4 ?c5 ?_)
          case c1 =>
            intro j u hj
            match j, hj with
            | 0, hj => simp at hj; subst hj; simp [go_sem, Addr.add]
            | j + 1, hj => simp at hj
          case c2 => intro u hu; simp at hu; subst hu; rfl
          case c3 => unfold maxLen; omega
          case c4 => omega
          case c5 => simp; omega
          intro v' w1 hown1 hgrow hne
          have HO1 := Lib.hid (show w1.ownsRow (w.heap.size + 1) 5 1 v' (8 * q + (n + 1)) (bcells A (8 * q + (n + 1))) by
            rw [show 8 * q + (n + 1) = 8 * q + n + 1 by omega, HS.out]; exact hown1)
          have HB1 := Lib.hid ((HB.out.alloc (by have := HW0.out.2.2; have := HB.out.size; omega) _).grown hgrow (by simp; omega) (fun k hk => own_ge HO.out hk))
          clear hown1 hgrow hne
          go_wp2_with fail
          go_roundw
          case rel => exact ⟨n + 1, (kk : Int) - 1, by omega, Lib.hid (by have := Hk.out; omega), by first | rfl | go_num, HO1.out, HB1.out⟩
          case measure => first | (simp [intOf]; done) | (simp [intOf]; omega)
        · obtain rfl : n = 8 := by omega
          obtain rfl : m = -1 := by have := hm.out; omega
          have HO := Lib.hid hown
          have HB := Lib.hid hb
          clear hown hb hm
          go_wp2_with fail
          go_roundw
          case rel => exact ⟨q + 1, (j : Int) - 1, by omega, Lib.hid (by have := Hj.out; omega), by first | rfl | go_num, HO.out, HB.out⟩
          case measure => first | (simp [intOf]; done) | (simp [intOf]; omega)
    · obtain rfl : q = 4 := by omega
      obtain rfl : m = -1 := by have := hm.out; omega
      obtain ⟨g, cap, hu, hg, lg⟩ := own_form hown (by omega)
      subst hu
      have HF := Lib.hid (fun k (hk : k < 32) => own_cell hown k hk)
      have HB := Lib.hid (HW0.out.1.trans (hb.mono (Nat.le_succ _)))
      clear hown hb hm
      go_wp2_with fail
      go_ret
      exact ⟨g, cap, rfl, lg, HF.out, HB.out⟩
end Go.Proofs.YtopahcobdfdnlaaDoor
