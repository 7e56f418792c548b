/-
  THE STATEMENT LimbsBack: a number is read back from its bytes and its digits; numbers stand in the order of their bytes: the law answers true. Conditions: the row's own.
-/
import Derived.Test.YtopahcobdfdnlaaDoorSame
import Derived.Test.YtopahcobdfdnlaaDoorPrint
import Derived.Test.YtopahcobdfdnlaaDoorAlive
import Derived.Test.YtopahcobdfdnlaaDoorRing
import Derived.Test.YtopahcobdfdnlaaDoorTill
namespace Go.Proofs.YtopahcobdfdnlaaDoor
set_option linter.unusedVariables false
set_option linter.unusedSimpArgs false
open Go.RowKit

/-- the world once the bytes are laid -/
structure BK (w wx : World) (x y : Nat) (A C : Nat) (a0 a1 a2 a3 b0 b1 b2 b3 : Nat) : Prop where
  mem : Mem w wx [(w.heap.size + 1, b0, b1, b2, b3), (w.heap.size, a0, a1, a2, a3)]
  rx : RowB wx x 32 (byteAt A)
  ry : RowB wx y 32 (byteAt C)
  lx : x < wx.heap.size
  ly : y < wx.heap.size
  xy : x < y
  lo : w.heap.size + 1 < x
theorem BK.on {w wx wy : World} {x y A C a0 a1 a2 a3 b0 b1 b2 b3 : Nat} (h : BK w wx x y A C a0 a1 a2 a3 b0 b1 b2 b3) (hb : Below wx.heap.size wx wy) : BK w wy x y A C a0 a1 a2 a3 b0 b1 b2 b3 :=
  ⟨h.mem.on hb, h.rx.below hb h.lx, h.ry.below hb h.ly, Nat.lt_of_lt_of_le h.lx hb.size, Nat.lt_of_lt_of_le h.ly hb.size, h.xy, h.lo⟩

theorem cmp_lt {A C : Nat} (h : A < C) : cmpN A C = -1 := by unfold cmpN; rw [if_neg (by omega), if_pos h]
theorem cmp_gt {A C : Nat} (h : C < A) : cmpN A C = 1 := by unfold cmpN; rw [if_neg (by omega), if_neg (by omega)]
theorem cmp_eq {A C : Nat} (h : A = C) : cmpN A C = 0 := by unfold cmpN; rw [if_pos h]

set_option maxRecDepth 100000 in
set_option maxHeartbeats 8000000 in
theorem back_calls (a0 a1 a2 a3 b0 b1 b2 b3 : Nat) (ha : ok4 a0 a1 a2 a3) (hb : ok4 b0 b1 b2 b3) (w : World) (htab : Lib.TabIs Tryd.prog w "internal/strconv.uint64pow10" .u64 Lib.pow10Tab) :
    Calls Tryd.prog 8 #[.agg #[.int .u64 a0, .int .u64 a1, .int .u64 a2, .int .u64 a3], .agg #[.int .u64 b0, .int .u64 b1, .int .u64 b2, .int .u64 b3]] w fun e w' => e = .returned (.bool true) ∧ Below w.heap.size w w' := by
  have hG := eqGuardW
  have hS := equalSelf
  have HT := Lib.hid htab
  have HA := Lib.hid (val4_lt ha)
  have HC := Lib.hid (val4_lt hb)
  have RA := Lib.hid (fun w => bytes_calls a0 a1 a2 a3 ha w)
  have RC := Lib.hid (fun w => bytes_calls b0 b1 b2 b3 hb w)
  have RP := Lib.hid (fun w h => print_calls a0 a1 a2 a3 ha w h)
  have HCmp := Lib.hid (fun w => cmp_calls a0 a1 a2 a3 b0 b1 b2 b3 ha hb w)
  have Hi := Lib.hid (fun s0 s1 s2 s3 (hs : ok4 s0 s1 s2 s3) h => val4_inj (b0 := a0) (b1 := a1) (b2 := a2) (b3 := a3) hs ha h)
  clear htab
  generalize val4 a0 a1 a2 a3 = A at *
  generalize val4 b0 b1 b2 b3 = C at *
  go_enter Tryd.func8, Tryd.ntmps8
  go_wp2_with fail
  have M0 := Lib.hid (((Mem.nil w).new (w.heap.size) a0 a1 a2 a3 24 rfl).new (w.heap.size + 1) b0 b1 b2 b3 24 (by simp))
  refine (alive_calls _ (tab_below HT.out M0.out.1 (Nat.le_refl _))).mono ?_
  rintro e w1 ⟨rfl, hbl⟩
  have M := Lib.hid (M0.out.on hbl)
  clear M0 hbl
  go_wp2_with fail
  refine region_till (fun wx => Mem w wx [(w.heap.size + 1, b0, b1, b2, b3), (w.heap.size, a0, a1, a2, a3)]) 5 (by kernel_rfl) ?_
  have HS := M.out.drewN 1
  clear M
  have HM := Lib.hid HS
  refine till_take (i := 0) (v := .agg #[.int .u64 a0, .int .u64 a1, .int .u64 a2, .int .u64 a3]) rfl (by kernel_rfl) (by kernel_rfl) (by kernel_rfl) (by kernel_rfl) (fun _ _ _ h => h) HS (Or.inl ⟨by kernel_rfl, fun wx hx => ?_⟩) ?_
  · have kr := (hx.2 (w.heap.size, a0, a1, a2, a3) (List.Mem.tail _ (List.Mem.head _))).2
    have k0 := kr.c0; have k1 := kr.c1; have k2 := kr.c2; have k3 := kr.c3; have kf := kr.fr
    clear kr
    clear hx HS
    go_simp
  simp only [Act.put, List.setIfInBounds_toArray, List.set_cons_zero, List.set_cons_succ]
  refine till_take (i := 2) (v := .agg #[.int .u64 b0, .int .u64 b1, .int .u64 b2, .int .u64 b3]) rfl (by kernel_rfl) (by kernel_rfl) (by kernel_rfl) (by kernel_rfl) (fun _ _ _ h => h) HS (Or.inl ⟨by kernel_rfl, fun wx hx => ?_⟩) ?_
  · have kr := (hx.2 (w.heap.size + 1, b0, b1, b2, b3) (List.Mem.head _)).2
    have k0 := kr.c0; have k1 := kr.c1; have k2 := kr.c2; have k3 := kr.c3; have kf := kr.fr
    clear kr
    clear hx HS
    go_simp
  simp only [Act.put, List.setIfInBounds_toArray, List.set_cons_zero, List.set_cons_succ]
  clear HS
  refine till_step (i := 1) (by kernel_rfl) rfl (fun K hK => ?_)
  go_simp
  refine (RA.out _).mono ?_
  rintro e w2 ⟨x, rfl, lox, ltx, rx, hbl⟩
  have HS := HM.out.on hbl
  have Hlo := Lib.hid (show w.heap.size + 1 < x from Nat.lt_of_lt_of_le (HM.out.2 (w.heap.size + 1, b0, b1, b2, b3) (by simp)).1 lox)
  have Hx := Lib.hid rx
  clear HM hbl rx lox
  have HM := Lib.hid HS
  refine hK.out _ _ (Or.inr HS) (fun _ => ?_)
  clear hK K HS
  refine till_step (i := 3) (by kernel_rfl) rfl (fun K hK => ?_)
  go_simp
  refine (RC.out _).mono ?_
  rintro e w3 ⟨y, rfl, loy, lty, ry, hbl⟩
  have HS := HM.out.on hbl
  have HK := Lib.hid (show BK w w3 x y A C a0 a1 a2 a3 b0 b1 b2 b3 from ⟨HS, Hx.out.below hbl ltx, ry, Nat.lt_of_lt_of_le ltx hbl.size, lty, Nat.lt_of_lt_of_le ltx loy, Hlo.out⟩)
  clear HM hbl ry loy lty ltx Hx Hlo
  refine hK.out _ _ (Or.inr HS) (fun _ => ?_)
  clear hK K
  refine till_step (i := 4) (by kernel_rfl) rfl (fun K hK => ?_)
  go_simp
  refine hK.out _ _ (Or.inr HS) (fun _ => ?_)
  clear hK K
  refine till_step (i := 5) (by kernel_rfl) rfl (fun K hK => ?_)
  go_simp
  refine hK.out _ _ (Or.inl rfl) (fun _ => ?_)
  clear hK K HS
  refine till_done (by kernel_rfl) ?_
  go_wp2_with fail
  refine (read_32 x 0 32 (byteAt A) (byteAt_lt A) _ HK.out.lx (fun k hk => by rw [Nat.zero_add]; exact (HK.out.rx k hk).1)).mono ?_
  rintro e w4 ⟨u0, u1, u2, u3, c, rfl, hu, ⟨eu, rfl⟩, hbl⟩
  obtain ⟨rfl, rfl, rfl, rfl⟩ := Hi.out u0 u1 u2 u3 hu (eu.trans (hor_back HA.out))
  have K4 := Lib.hid (HK.out.on hbl)
  clear HK hbl eu hu
  have U4 := Lib.hid ((Row4.new w4 u0 u1 u2 u3 24))
  have K5 := Lib.hid (K4.out.on ((Below.refl _ _).alloc (Nat.le_refl _) (.cells #[.int .u64 u0, .int .u64 u1, .int .u64 u2, .int .u64 u3] 24)))
  have kr := (K4.out.mem.2 (w.heap.size, u0, u1, u2, u3) (by simp)).2
  have la := (K4.out.mem.2 (w.heap.size, u0, u1, u2, u3) (by simp)).1
  have k0 := kr.c0; have k1 := kr.c1; have k2 := kr.c2; have k3 := kr.c3
  clear kr K4
  go_wp2_with fail
  refine (RP.out _ (tab_below HT.out K5.out.mem.1 (Nat.le_refl _))).mono ?_
  rintro e w5 ⟨rfl, hbl⟩
  have K6 := Lib.hid (K5.out.on hbl)
  have U5 := Lib.hid (U4.out.below hbl (by simp))
  have l5 : w4.heap.size < w5.heap.size := by have := hbl.size; simp at this; omega
  have hlen : (ByteArray.mk (Lib.decDigits A).toArray).size ≤ maxLen := by
    have := dec_len78 HA.out
    have e : (ByteArray.mk (Lib.decDigits A).toArray).size = (Lib.decDigits A).length := rfl
    unfold maxLen; omega
  have HP := Lib.hid (fun w => parse_calls (ByteArray.mk (Lib.decDigits A).toArray) hlen w)
  have HD := Lib.hid (show parseV (ByteArray.mk (Lib.decDigits A).toArray).data.toList = (A, 0) from dec_parse HA.out)
  clear K5 U4 hbl k0 k1 k2 k3 la hlen
  go_wp2_with fail
  refine (HP.out _).mono ?_
  rintro e w6 ⟨v0, v1, v2, v3, c, rfl, hv, ev, hbl⟩
  have ev' := ev.trans HD.out
  obtain rfl : c = 0 := by simpa using congrArg Prod.snd ev'
  obtain ⟨rfl, rfl, rfl, rfl⟩ := Hi.out v0 v1 v2 v3 hv (by simpa using congrArg Prod.fst ev')
  have K7 := Lib.hid (K6.out.on hbl)
  have U6 := U5.out.below hbl l5
  have l6 : w4.heap.size < w6.heap.size := by have := hbl.size; omega
  have kr := (K7.out.mem.2 (w.heap.size, v0, v1, v2, v3) (by simp)).2
  have la := (K7.out.mem.2 (w.heap.size, v0, v1, v2, v3) (by simp)).1
  have k0 := kr.c0; have k1 := kr.c1; have k2 := kr.c2; have k3 := kr.c3
  have j0 := U6.c0; have j1 := U6.c1; have j2 := U6.c2; have j3 := U6.c3
  have K8 := Lib.hid (K7.out.on ((Below.refl _ _).alloc (Nat.le_refl _) (.cells #[.int .u64 v0, .int .u64 v1, .int .u64 v2, .int .u64 v3] 24)))
  clear hbl K6 K7 kr U5 U6 ev ev' hv HP HD
  go_wp2_with fail
  refine (num_calls 0 _).mono ?_
  rintro e w7 ⟨rfl, rfl⟩
  go_wp2_with fail
  refine (num_calls 0 _).mono ?_
  rintro e w7 ⟨rfl, rfl⟩
  go_wp2_with fail
  clear k0 k1 k2 k3 j0 j1 j2 j3 la l5 l6
  go_loopw [11] (fun t wr => ∃ k : Nat, k ≤ 32 ∧ t = .int .i64 k ∧ Hid (∀ j, j < k → byteAt A j = byteAt C j) ∧ BK w wr x y A C v0 v1 v2 v3 b0 b1 b2 b3) (fun t _ => 32 - (intOf t).toNat)
  case atStart => exact ⟨0, by omega, rfl, Lib.hid (fun j h => absurd h (by omega)), K8.out⟩
  case round =>
    clear K8
    obtain ⟨k, hk, rfl, he, K⟩ := hrel
    have HK := Lib.hid K
    by_cases hlt : k < 32
    · have cx := (K.rx k hlt).1
      have cy := (K.ry k hlt).1
      obtain ⟨p, hp⟩ : ∃ p, p = byteAt A k := ⟨_, rfl⟩
      obtain ⟨q, hq⟩ : ∃ q, q = byteAt C k := ⟨_, rfl⟩
      rw [← hp] at cx
      rw [← hq] at cy
      clear K
      rcases Nat.lt_trichotomy p q with h | h | h
      · have HZ := Lib.hid (fun w => (show Calls Tryd.prog 15 #[.agg #[.int .u64 v0, .int .u64 v1, .int .u64 v2, .int .u64 v3], .agg #[.int .u64 b0, .int .u64 b1, .int .u64 b2, .int .u64 b3]] w fun e w' => e = .returned (.int .i64 (-1)) ∧ Below w.heap.size w w' by
          have := HCmp.out w
          rw [cmp_lt (byte_order hlt HA.out HC.out he.out (by rw [← hp, ← hq]; exact h))] at this
          exact this))
        have t1 : ((p : Int) != (q : Int)) = true := by simp; omega
        have t2 : decide ((p : Int) < (q : Int)) = true := decide_eq_true (by omega)
        have t3 : decide (p < q) = true := decide_eq_true h
        have Hp := Lib.hid hp
        have Hq := Lib.hid hq
        clear hp hq h
        go_wp2_with fail
        go_quiet (fail)
        go_wp2_with fail
        refine region_till (fun wx => BK w wx x y A C v0 v1 v2 v3 b0 b1 b2 b3) 14 (by kernel_rfl) ?_
        refine till_have ((HK.out.on (below_drewN' _ _ _)).on (below_drewN' _ _ 1)) (fun HS => ?_)
        have HM := Lib.hid HS
        clear HK cx cy
        refine till_take (i := 0) (v := .slice (some ⟨x, 0, none⟩) 32 32) rfl (by kernel_rfl) (by kernel_rfl) (by kernel_rfl) (by kernel_rfl) (fun _ _ _ h => h) HS (Or.inl ⟨by kernel_rfl, fun wx hx => ?_⟩) ?_
        · skip
          clear hx HS
          go_simp
        simp only [Act.put, List.setIfInBounds_toArray, List.set_cons_zero, List.set_cons_succ]
        refine till_take (i := 1) (v := .int .i64 k) rfl (by kernel_rfl) (by kernel_rfl) (by kernel_rfl) (by kernel_rfl) (fun _ _ _ h => h) HS (Or.inl ⟨by kernel_rfl, fun wx hx => ?_⟩) ?_
        · skip
          clear hx HS
          go_simp
        simp only [Act.put, List.setIfInBounds_toArray, List.set_cons_zero, List.set_cons_succ]
        refine till_take (i := 2) (v := .pointer (some ⟨x, k, none⟩)) rfl (by kernel_rfl) (by kernel_rfl) (by kernel_rfl) (by kernel_rfl) (fun _ _ _ h => h) HS (Or.inl ⟨by kernel_rfl, fun wx hx => ?_⟩) ?_
        · skip
          clear hx HS
          go_simp
        simp only [Act.put, List.setIfInBounds_toArray, List.set_cons_zero, List.set_cons_succ]
        refine till_take (i := 3) (v := .int .u8 p) rfl (by kernel_rfl) (by kernel_rfl) (by kernel_rfl) (by kernel_rfl) (fun _ _ _ h => h) HS (Or.inl ⟨by kernel_rfl, fun wx hx => ?_⟩) ?_
        · have k0 := (hx.rx k hlt).1
          rw [← Hp.out] at k0
          clear hx HS
          go_simp
        simp only [Act.put, List.setIfInBounds_toArray, List.set_cons_zero, List.set_cons_succ]
        refine till_take (i := 4) (v := .slice (some ⟨y, 0, none⟩) 32 32) rfl (by kernel_rfl) (by kernel_rfl) (by kernel_rfl) (by kernel_rfl) (fun _ _ _ h => h) HS (Or.inl ⟨by kernel_rfl, fun wx hx => ?_⟩) ?_
        · skip
          clear hx HS
          go_simp
        simp only [Act.put, List.setIfInBounds_toArray, List.set_cons_zero, List.set_cons_succ]
        refine till_take (i := 5) (v := .int .i64 k) rfl (by kernel_rfl) (by kernel_rfl) (by kernel_rfl) (by kernel_rfl) (fun _ _ _ h => h) HS (Or.inl ⟨by kernel_rfl, fun wx hx => ?_⟩) ?_
        · skip
          clear hx HS
          go_simp
        simp only [Act.put, List.setIfInBounds_toArray, List.set_cons_zero, List.set_cons_succ]
        refine till_take (i := 6) (v := .pointer (some ⟨y, k, none⟩)) rfl (by kernel_rfl) (by kernel_rfl) (by kernel_rfl) (by kernel_rfl) (fun _ _ _ h => h) HS (Or.inl ⟨by kernel_rfl, fun wx hx => ?_⟩) ?_
        · skip
          clear hx HS
          go_simp
        simp only [Act.put, List.setIfInBounds_toArray, List.set_cons_zero, List.set_cons_succ]
        refine till_take (i := 7) (v := .int .u8 q) rfl (by kernel_rfl) (by kernel_rfl) (by kernel_rfl) (by kernel_rfl) (fun _ _ _ h => h) HS (Or.inl ⟨by kernel_rfl, fun wx hx => ?_⟩) ?_
        · have k0 := (hx.ry k hlt).1
          rw [← Hq.out] at k0
          clear hx HS
          go_simp
        simp only [Act.put, List.setIfInBounds_toArray, List.set_cons_zero, List.set_cons_succ]
        refine till_take (i := 8) (v := .bool true) rfl (by kernel_rfl) (by kernel_rfl) (by kernel_rfl) (by kernel_rfl) (fun _ _ _ h => h) HS (Or.inl ⟨by kernel_rfl, fun wx hx => ?_⟩) ?_
        · skip
          clear hx HS
          go_simp
        simp only [Act.put, List.setIfInBounds_toArray, List.set_cons_zero, List.set_cons_succ]
        refine till_take (i := 9) (v := .agg #[.int .u64 v0, .int .u64 v1, .int .u64 v2, .int .u64 v3]) rfl (by kernel_rfl) (by kernel_rfl) (by kernel_rfl) (by kernel_rfl) (fun _ _ _ h => h) HS (Or.inl ⟨by kernel_rfl, fun wx hx => ?_⟩) ?_
        · have kr := (hx.mem.2 (w.heap.size, v0, v1, v2, v3) (List.Mem.tail _ (List.Mem.head _))).2
          have k0 := kr.c0; have k1 := kr.c1; have k2 := kr.c2; have k3 := kr.c3
          clear kr
          clear hx HS
          go_simp
        simp only [Act.put, List.setIfInBounds_toArray, List.set_cons_zero, List.set_cons_succ]
        refine till_take (i := 10) (v := .agg #[.int .u64 b0, .int .u64 b1, .int .u64 b2, .int .u64 b3]) rfl (by kernel_rfl) (by kernel_rfl) (by kernel_rfl) (by kernel_rfl) (fun _ _ _ h => h) HS (Or.inl ⟨by kernel_rfl, fun wx hx => ?_⟩) ?_
        · have kr := (hx.mem.2 (w.heap.size + 1, b0, b1, b2, b3) (List.Mem.head _)).2
          have k0 := kr.c0; have k1 := kr.c1; have k2 := kr.c2; have k3 := kr.c3
          clear kr
          clear hx HS
          go_simp
        simp only [Act.put, List.setIfInBounds_toArray, List.set_cons_zero, List.set_cons_succ]
        clear HS
        refine till_step (i := 11) (by kernel_rfl) rfl (fun K hK => ?_)
        go_simp
        refine (HZ.out _).mono ?_
        rintro e w9 ⟨rfl, hbl⟩
        have HS := HM.out.on hbl
        clear HM hbl
        have HM := Lib.hid HS
        refine hK.out _ _ (Or.inr HS) (fun _ => ?_)
        clear hK K
        refine till_take (i := 12) (v := .bool true) rfl (by kernel_rfl) (by kernel_rfl) (by kernel_rfl) (by kernel_rfl) (fun _ _ _ h => h) HS (Or.inl ⟨by kernel_rfl, fun wx hx => ?_⟩) ?_
        · skip
          clear hx HS
          go_simp
        simp only [Act.put, List.setIfInBounds_toArray, List.set_cons_zero, List.set_cons_succ]
        refine till_take (i := 13) (v := .bool true) rfl (by kernel_rfl) (by kernel_rfl) (by kernel_rfl) (by kernel_rfl) (fun _ _ _ h => h) HS (Or.inl ⟨by kernel_rfl, fun wx hx => ?_⟩) ?_
        · skip
          clear hx HS
          go_simp
        simp only [Act.put, List.setIfInBounds_toArray, List.set_cons_zero, List.set_cons_succ]
        clear HS
        refine till_step (i := 14) (by kernel_rfl) rfl (fun K hK => ?_)
        go_simp
        refine hK.out _ _ (Or.inl rfl) (fun _ => ?_)
        clear hK K
        refine till_done (by kernel_rfl) ?_
        go_wp2_with fail
        go_ret
        exact ⟨rfl, HM.out.mem.1⟩
      · have HN := Lib.hid (show ∀ j, j < k + 1 → byteAt A j = byteAt C j from fun j hj => by
          by_cases e : j = k
          · subst e; rw [← hp, ← hq, h]
          · exact he.out j (by omega))
        clear hp hq
        subst h
        go_wp2_with fail
        go_quiet (fail)
        go_wp2_with fail
        go_roundw
        case rel => exact ⟨k + 1, by omega, by go_num, HN, HK.out.on (below_drewN' _ _ _)⟩
        case measure => first | (simp [intOf]; done) | (simp [intOf]; omega)
      · have HZ := Lib.hid (fun w => (show Calls Tryd.prog 15 #[.agg #[.int .u64 v0, .int .u64 v1, .int .u64 v2, .int .u64 v3], .agg #[.int .u64 b0, .int .u64 b1, .int .u64 b2, .int .u64 b3]] w fun e w' => e = .returned (.int .i64 1) ∧ Below w.heap.size w w' by
          have := HCmp.out w
          rw [cmp_gt (byte_order hlt HC.out HA.out (fun j hj => (he.out j hj).symm) (by rw [← hp, ← hq]; exact h))] at this
          exact this))
        have t1 : ((p : Int) != (q : Int)) = true := by simp; omega
        have t2 : decide ((p : Int) < (q : Int)) = false := decide_eq_false (by omega)
        have t3 : decide (p < q) = false := decide_eq_false (by omega)
        have Hp := Lib.hid hp
        have Hq := Lib.hid hq
        clear hp hq h
        go_wp2_with fail
        go_quiet (fail)
        go_wp2_with fail
        refine region_till (fun wx => BK w wx x y A C v0 v1 v2 v3 b0 b1 b2 b3) 14 (by kernel_rfl) ?_
        refine till_have ((HK.out.on (below_drewN' _ _ _)).on (below_drewN' _ _ 1)) (fun HS => ?_)
        have HM := Lib.hid HS
        clear HK cx cy
        refine till_take (i := 0) (v := .slice (some ⟨x, 0, none⟩) 32 32) rfl (by kernel_rfl) (by kernel_rfl) (by kernel_rfl) (by kernel_rfl) (fun _ _ _ h => h) HS (Or.inl ⟨by kernel_rfl, fun wx hx => ?_⟩) ?_
        · skip
          clear hx HS
          go_simp
        simp only [Act.put, List.setIfInBounds_toArray, List.set_cons_zero, List.set_cons_succ]
        refine till_take (i := 1) (v := .int .i64 k) rfl (by kernel_rfl) (by kernel_rfl) (by kernel_rfl) (by kernel_rfl) (fun _ _ _ h => h) HS (Or.inl ⟨by kernel_rfl, fun wx hx => ?_⟩) ?_
        · skip
          clear hx HS
          go_simp
        simp only [Act.put, List.setIfInBounds_toArray, List.set_cons_zero, List.set_cons_succ]
        refine till_take (i := 2) (v := .pointer (some ⟨x, k, none⟩)) rfl (by kernel_rfl) (by kernel_rfl) (by kernel_rfl) (by kernel_rfl) (fun _ _ _ h => h) HS (Or.inl ⟨by kernel_rfl, fun wx hx => ?_⟩) ?_
        · skip
          clear hx HS
          go_simp
        simp only [Act.put, List.setIfInBounds_toArray, List.set_cons_zero, List.set_cons_succ]
        refine till_take (i := 3) (v := .int .u8 p) rfl (by kernel_rfl) (by kernel_rfl) (by kernel_rfl) (by kernel_rfl) (fun _ _ _ h => h) HS (Or.inl ⟨by kernel_rfl, fun wx hx => ?_⟩) ?_
        · have k0 := (hx.rx k hlt).1
          rw [← Hp.out] at k0
          clear hx HS
          go_simp
        simp only [Act.put, List.setIfInBounds_toArray, List.set_cons_zero, List.set_cons_succ]
        refine till_take (i := 4) (v := .slice (some ⟨y, 0, none⟩) 32 32) rfl (by kernel_rfl) (by kernel_rfl) (by kernel_rfl) (by kernel_rfl) (fun _ _ _ h => h) HS (Or.inl ⟨by kernel_rfl, fun wx hx => ?_⟩) ?_
        · skip
          clear hx HS
          go_simp
        simp only [Act.put, List.setIfInBounds_toArray, List.set_cons_zero, List.set_cons_succ]
        refine till_take (i := 5) (v := .int .i64 k) rfl (by kernel_rfl) (by kernel_rfl) (by kernel_rfl) (by kernel_rfl) (fun _ _ _ h => h) HS (Or.inl ⟨by kernel_rfl, fun wx hx => ?_⟩) ?_
        · skip
          clear hx HS
          go_simp
        simp only [Act.put, List.setIfInBounds_toArray, List.set_cons_zero, List.set_cons_succ]
        refine till_take (i := 6) (v := .pointer (some ⟨y, k, none⟩)) rfl (by kernel_rfl) (by kernel_rfl) (by kernel_rfl) (by kernel_rfl) (fun _ _ _ h => h) HS (Or.inl ⟨by kernel_rfl, fun wx hx => ?_⟩) ?_
        · skip
          clear hx HS
          go_simp
        simp only [Act.put, List.setIfInBounds_toArray, List.set_cons_zero, List.set_cons_succ]
        refine till_take (i := 7) (v := .int .u8 q) rfl (by kernel_rfl) (by kernel_rfl) (by kernel_rfl) (by kernel_rfl) (fun _ _ _ h => h) HS (Or.inl ⟨by kernel_rfl, fun wx hx => ?_⟩) ?_
        · have k0 := (hx.ry k hlt).1
          rw [← Hq.out] at k0
          clear hx HS
          go_simp
        simp only [Act.put, List.setIfInBounds_toArray, List.set_cons_zero, List.set_cons_succ]
        refine till_take (i := 8) (v := .bool false) rfl (by kernel_rfl) (by kernel_rfl) (by kernel_rfl) (by kernel_rfl) (fun _ _ _ h => h) HS (Or.inl ⟨by kernel_rfl, fun wx hx => ?_⟩) ?_
        · skip
          clear hx HS
          go_simp
        simp only [Act.put, List.setIfInBounds_toArray, List.set_cons_zero, List.set_cons_succ]
        refine till_take (i := 9) (v := .agg #[.int .u64 v0, .int .u64 v1, .int .u64 v2, .int .u64 v3]) rfl (by kernel_rfl) (by kernel_rfl) (by kernel_rfl) (by kernel_rfl) (fun _ _ _ h => h) HS (Or.inl ⟨by kernel_rfl, fun wx hx => ?_⟩) ?_
        · have kr := (hx.mem.2 (w.heap.size, v0, v1, v2, v3) (List.Mem.tail _ (List.Mem.head _))).2
          have k0 := kr.c0; have k1 := kr.c1; have k2 := kr.c2; have k3 := kr.c3
          clear kr
          clear hx HS
          go_simp
        simp only [Act.put, List.setIfInBounds_toArray, List.set_cons_zero, List.set_cons_succ]
        refine till_take (i := 10) (v := .agg #[.int .u64 b0, .int .u64 b1, .int .u64 b2, .int .u64 b3]) rfl (by kernel_rfl) (by kernel_rfl) (by kernel_rfl) (by kernel_rfl) (fun _ _ _ h => h) HS (Or.inl ⟨by kernel_rfl, fun wx hx => ?_⟩) ?_
        · have kr := (hx.mem.2 (w.heap.size + 1, b0, b1, b2, b3) (List.Mem.head _)).2
          have k0 := kr.c0; have k1 := kr.c1; have k2 := kr.c2; have k3 := kr.c3
          clear kr
          clear hx HS
          go_simp
        simp only [Act.put, List.setIfInBounds_toArray, List.set_cons_zero, List.set_cons_succ]
        clear HS
        refine till_step (i := 11) (by kernel_rfl) rfl (fun K hK => ?_)
        go_simp
        refine (HZ.out _).mono ?_
        rintro e w9 ⟨rfl, hbl⟩
        have HS := HM.out.on hbl
        clear HM hbl
        have HM := Lib.hid HS
        refine hK.out _ _ (Or.inr HS) (fun _ => ?_)
        clear hK K
        refine till_take (i := 12) (v := .bool false) rfl (by kernel_rfl) (by kernel_rfl) (by kernel_rfl) (by kernel_rfl) (fun _ _ _ h => h) HS (Or.inl ⟨by kernel_rfl, fun wx hx => ?_⟩) ?_
        · skip
          clear hx HS
          go_simp
        simp only [Act.put, List.setIfInBounds_toArray, List.set_cons_zero, List.set_cons_succ]
        refine till_take (i := 13) (v := .bool true) rfl (by kernel_rfl) (by kernel_rfl) (by kernel_rfl) (by kernel_rfl) (fun _ _ _ h => h) HS (Or.inl ⟨by kernel_rfl, fun wx hx => ?_⟩) ?_
        · skip
          clear hx HS
          go_simp
        simp only [Act.put, List.setIfInBounds_toArray, List.set_cons_zero, List.set_cons_succ]
        clear HS
        refine till_step (i := 14) (by kernel_rfl) rfl (fun K hK => ?_)
        go_simp
        refine hK.out _ _ (Or.inl rfl) (fun _ => ?_)
        clear hK K
        refine till_done (by kernel_rfl) ?_
        go_wp2_with fail
        go_ret
        exact ⟨rfl, HM.out.mem.1⟩
    · obtain rfl : k = 32 := by omega
      have eAC : A = C := bytes_same HA.out HC.out he.out
      have HZ := Lib.hid (fun w => (show Calls Tryd.prog 15 #[.agg #[.int .u64 v0, .int .u64 v1, .int .u64 v2, .int .u64 v3], .agg #[.int .u64 b0, .int .u64 b1, .int .u64 b2, .int .u64 b3]] w fun e w' => e = .returned (.int .i64 0) ∧ Below w.heap.size w w' by
        have := HCmp.out w
        rw [cmp_eq eAC] at this
        exact this))
      have cx := (K.rx 0 (by omega)).1
      have fx := (K.rx 0 (by omega)).2
      have xlo := K.lo
      have xy := K.xy
      have lx := K.lx
      have ly := K.ly
      obtain ⟨W9, eW⟩ : ∃ W9, W9 = wr.setCell ⟨x, 0, none⟩ (.int .u8 7) := ⟨_, rfl⟩
      have ra : Row4 W9 w.heap.size v0 v1 v2 v3 := by rw [eW]; exact (K.mem.2 (w.heap.size, v0, v1, v2, v3) (by simp)).2.other (by omega) _
      have rb : Row4 W9 (w.heap.size + 1) b0 b1 b2 b3 := by rw [eW]; exact (K.mem.2 (w.heap.size + 1, b0, b1, b2, b3) (by simp)).2.other (by omega) _
      have ry : RowB W9 y 32 (byteAt C) := by rw [eW]; exact K.ry.other (by omega) _
      have hB : Below w.heap.size w W9 := by rw [eW]; exact K.mem.1.setCell (p := ⟨x, 0, none⟩) (by simp; omega) _
      have l9 : W9.heap.size = wr.heap.size := by rw [eW, World.size_setCell]
      have Ra := Lib.hid ra
      have Rb := Lib.hid rb
      have Ry := Lib.hid ry
      have HB := Lib.hid hB
      have L9 := Lib.hid l9
      have EW := Lib.hid eW
      have kra := (K.mem.2 (w.heap.size, v0, v1, v2, v3) (by simp)).2
      have krb := (K.mem.2 (w.heap.size + 1, b0, b1, b2, b3) (by simp)).2
      have k0 := kra.c0; have k1 := kra.c1; have k2 := kra.c2; have k3 := kra.c3
      have j0 := krb.c0; have j1 := krb.c1; have j2 := krb.c2; have j3 := krb.c3
      have n1 : ¬ x = w.heap.size := by omega
      have n2 : ¬ x = w.heap.size + 1 := by omega
      have n3 : ¬ w.heap.size = x := by omega
      have n4 : ¬ w.heap.size + 1 = x := by omega
      clear K ra rb ry hB l9 eW eAC he kra krb
      go_wp2_with fail
      refine (HZ.out _).mono ?_
      rintro e w10 ⟨rfl, hbl⟩
      rw [← EW.out] at hbl
      clear k0 k1 k2 k3 j0 j1 j2 j3
      have la : w.heap.size + 1 < W9.heap.size := by have := L9.out; omega
      have ra := Ra.out.below hbl (show w.heap.size < W9.heap.size by omega)
      have rb := Rb.out.below hbl la
      have Ry2 := Lib.hid (Ry.out.below hbl (by have := L9.out; omega))
      have HB2 := Lib.hid (HB.out.trans (hbl.mono HB.out.size))
      have ly2 : y < w10.heap.size := by have := L9.out; have := hbl.size; omega
      have k0 := rb.c0; have k1 := rb.c1; have k2 := rb.c2; have k3 := rb.c3
      clear hbl ra rb cx fx
      go_wp2_with fail
      refine (RC.out _).mono ?_
      rintro e w11 ⟨z, rfl, loz, ltz, rz, hbl⟩
      have Rz := Lib.hid rz
      have Ry3 := Lib.hid (Ry2.out.below hbl ly2)
      have HB3 := Lib.hid (HB2.out.trans (hbl.mono HB2.out.size))
      clear hbl rz k0 k1 k2 k3
      go_wp2_with fail
      refine (same_calls z 0 32 y 0 32 (byteAt C) _ (fun k hk => by rw [Nat.zero_add]; exact (Rz.out k hk).1) (fun k hk => by rw [Nat.zero_add]; exact (Ry3.out k hk).1)).mono ?_
      rintro e w12 ⟨rfl, hbl⟩
      have HB4 := Lib.hid (HB3.out.trans (hbl.mono HB3.out.size))
      clear hbl
      go_wp2_with fail
      go_ret
      exact ⟨rfl, HB4.out⟩
end Go.Proofs.YtopahcobdfdnlaaDoor
