/-
  The call of the reference's Parse: of any string. Conditions: the string's length an int.
-/
import Derived.Test.YtopahcobdfdnlaaDoorParse
import Derived.Test.YtopahcobdfdnlaaDoorRefMul
namespace Go.Proofs.YtopahcobdfdnlaaDoor
set_option linter.unusedVariables false
set_option linter.unusedSimpArgs false
open Go.RowKit

theorem refParse_empty (s : ByteArray) (h : s.size = 0) (w : World) :
    Calls Tryd.prog 34 #[.string s] w (ReadPost (fun n c => (n, c) = parseV s.data.toList) w) := by
  have e0 : s.toList = [] := by rw [ByteArray.toList_eq]; exact List.eq_nil_of_length_eq_zero (by simpa using h)
  have HV := Lib.hid (parseV_bad (l := s.data.toList) (by rw [← ByteArray.toList_eq, e0]; rfl))
  go_enter Tryd.func34, Tryd.ntmps34
  go_wp2_with fail
  refine bodyPost_ret (v := .tuple #[.agg #[.int .u64 0, .int .u64 0, .int .u64 0, .int .u64 0], .int .i64 11]) (by simp [results, Tryd.results34, go_sem]) rfl ?_
  refine ⟨0, 0, 0, 0, 11, rfl, ⟨by omega, by omega, by omega, by omega⟩, HV.out.symm, ?_⟩
  repeat (first | exact Below.refl _ _ | refine Below.drew ?_ | refine Below.alloc ?_ (by first | (simp; done) | (simp; omega)) _)
theorem numB_lead {l : List UInt8} (h1 : 1 < l.length) (h : l[0].toNat = 48) : numB l = false := by
  unfold numB
  have e1 : headB l = false := by rw [headB_get l (by omega)]; exact decide_eq_false (by simpa using h)
  have e2 : decide (l = [48]) = false := decide_eq_false (fun e => by rw [e] at h1; simp at h1)
  rw [e1, e2]
  simp
theorem refParse_lead (s : ByteArray) (hs : s.size ≤ maxLen) (h1 : 1 < s.size) (h0 : (s[0]'(by omega)).toNat = 48) (w : World) :
    Calls Tryd.prog 34 #[.string s] w (ReadPost (fun n c => (n, c) = parseV s.data.toList) w) := by
  unfold maxLen at hs
  have hp : 0 < s.size := by omega
  have e0 : (s.toList == []) = false := by
    have : ¬ s.toList = [] := by
      intro e
      have h5 : s.toList.length = s.size := by rw [ByteArray.toList_eq]; simp
      rw [e] at h5
      have h6 : 0 = s.size := h5
      omega
    simpa using this
  have e1 : ¬ s.toList = [] := by simpa using e0
  have t1 : decide ((1 : Int) < (s.size : Int)) = true := decide_eq_true (by omega)
  have HV := Lib.hid (parseV_bad (l := s.data.toList) (numB_lead (by simpa using h1) h0))
  go_enter Tryd.func34, Tryd.ntmps34
  go_wp2_with fail
  refine bodyPost_ret (v := .tuple #[.agg #[.int .u64 0, .int .u64 0, .int .u64 0, .int .u64 0], .int .i64 11]) (by simp [results, Tryd.results34, go_sem]) rfl ?_
  refine ⟨0, 0, 0, 0, 11, rfl, ⟨by omega, by omega, by omega, by omega⟩, HV.out.symm, ?_⟩
  repeat (first | exact Below.refl _ _ | refine Below.drew ?_ | refine Below.alloc ?_ (by first | (simp; done) | (simp; omega)) _)
theorem numB_rest {l : List UInt8} (h0 : 0 < l.length) (h1 : 1 < l.length → l[0].toNat ≠ 48) (h : ∀ k (hk : k < l.length), digB l[k] = true) : numB l = true := by
  rw [numB_all h, headB_get l h0]
  by_cases e : 1 < l.length
  · rw [decide_eq_true (h1 e), Bool.or_true]
  · match l, h0, e with
    | [c], _, _ =>
      by_cases hc : c.toNat = 48
      · have : c = 48 := UInt8.toNat_inj.1 hc
        subst this; rfl
      · simp [hc]
    | a :: b :: t, _, e => exact absurd (by simp) e

set_option maxRecDepth 100000 in
set_option maxHeartbeats 8000000 in
theorem refParse_one (s : ByteArray) (hs : s.size ≤ maxLen) (h1 : s.size = 1) (w : World) :
    Calls Tryd.prog 34 #[.string s] w (ReadPost (fun n c => (n, c) = parseV s.data.toList) w) := by
  unfold maxLen at hs
  have hp : 0 < s.size := by omega
  have t1 : decide ((1 : Int) < (s.size : Int)) = false := decide_eq_false (by omega)
  have e0 : (s.toList == []) = false := by
    have : ¬ s.toList = [] := by
      intro e
      have h5 : s.toList.length = s.size := by rw [ByteArray.toList_eq]; simp
      rw [e] at h5
      have h6 : 0 = s.size := h5
      omega
    simpa using this
  have e1 : ¬ s.toList = [] := by simpa using e0
  obtain ⟨l, el⟩ : ∃ l, l = s.data.toList := ⟨_, rfl⟩
  have hll : l.length = s.size := by rw [el]; simp
  have HG := Lib.hid (fun (k : Nat) (hk : k < s.size) (hk' : k < l.length) => show s[k] = l[k] from by subst el; rfl)
  rw [← el]
  have HR := Lib.hid (numB_rest (l := l) (by omega) (fun e => by rw [← HG.out 0 (by omega) (by omega)]; omega))
  have Hll := Lib.hid hll
  have HBad := Lib.hid (fun (h : numB l = false) => parseV_bad h)
  have HLong := Lib.hid (fun h => parseV_long (l := l) h)
  clear el hll
  have hle : s.size ≤ 1 := by omega
  clear h1
  have hz : ok4 0 0 0 0 := ⟨by omega, by omega, by omega, by omega⟩
  go_enter Tryd.func34, Tryd.ntmps34
  go_wp2_with fail
  go_loop [5] (fun x => ∃ k : Nat, k ≤ s.size ∧ x = .int .i64 k ∧ Hid (∀ j (hj : j < l.length), j < k → digB l[j] = true)) (fun x => s.size - (intOf x).toNat)
  case atStart => exact ⟨0, Nat.zero_le _, rfl, Lib.hid (fun j _ h => absurd h (by omega))⟩
  case round =>
    obtain ⟨k, hk, rfl, ha⟩ := hrel
    by_cases hlt : k < s.size
    · have hl : k < l.length := by rw [Hll.out]; exact hlt
      obtain ⟨c, ec, eq⟩ : ∃ c : UInt8, s[k]'hlt = c ∧ l[k] = c := ⟨s[k]'hlt, rfl, (HG.out k hlt hl).symm⟩
      by_cases h1 : (c.toNat : Int) < 48
      · have HV := Lib.hid (HBad.out (numB_bad hl (by rw [eq]; unfold digB; exact decide_eq_false (by omega))))
        clear eq ha
        go_wp2_with fail
        refine bodyPost_ret (v := .tuple #[.agg #[.int .u64 0, .int .u64 0, .int .u64 0, .int .u64 0], .int .i64 11]) (by simp [results, Tryd.results34, go_sem]) rfl ?_
        refine ⟨0, 0, 0, 0, 11, rfl, hz, HV.out.symm, ?_⟩
        repeat (first | exact Below.refl _ _ | refine Below.drew ?_ | refine Below.alloc ?_ (by first | (simp; done) | (simp; omega)) _)
      · by_cases h2 : (57 : Int) < (c.toNat : Int)
        · have HV := Lib.hid (HBad.out (numB_bad hl (by rw [eq]; unfold digB; exact decide_eq_false (by omega))))
          clear eq ha
          go_wp2_with fail
          refine bodyPost_ret (v := .tuple #[.agg #[.int .u64 0, .int .u64 0, .int .u64 0, .int .u64 0], .int .i64 11]) (by simp [results, Tryd.results34, go_sem]) rfl ?_
          refine ⟨0, 0, 0, 0, 11, rfl, hz, HV.out.symm, ?_⟩
          repeat (first | exact Below.refl _ _ | refine Below.drew ?_ | refine Below.alloc ?_ (by first | (simp; done) | (simp; omega)) _)
        · have HN := Lib.hid (show ∀ j (hj : j < l.length), j < k + 1 → digB l[j] = true from fun j hj h => by
            by_cases e : j = k
            · subst e; rw [eq]; unfold digB; exact decide_eq_true (by omega)
            · exact ha.out j hj (by omega))
          clear eq ha
          go_wp2_with fail
          go_round
          case rel => exact ⟨k + 1, by omega, by go_num, HN⟩
          case measure => simp [intOf]; omega
    · obtain rfl : k = s.size := by omega
      have hnum := HR.out (fun j hj => ha.out j hj (by rw [← Hll.out]; exact hj))
      clear ha
      by_cases h78 : 78 < s.size
      · have HV := Lib.hid (HLong.out hnum (by rw [Hll.out]; exact h78))
        exact absurd h78 (by omega)
      · have HBig := Lib.hid (parseV_big hnum (show ¬ 78 < l.length by rw [Hll.out]; exact h78))
        have HOk := Lib.hid (parseV_ok hnum (show ¬ 78 < l.length by rw [Hll.out]; exact h78))
        have HDig := Lib.hid (fun k hk => numB_dig hnum (k := k) hk)
        have hd : decide ((78 : Int) < (s.size : Int)) = false := decide_eq_false (by omega)
        have hs78 : s.size ≤ 78 := by omega
        clear hnum
        go_wp2_with fail
        go_loopw [6] (fun x wr => ∃ k a0 a1 a2 a3 : Nat, k ≤ s.size ∧ x = .int .i64 k ∧ ok4 a0 a1 a2 a3 ∧ Hid (val4 a0 a1 a2 a3 = numVal (l.take k)) ∧ Mem w wr [(w.heap.size + 1, a0, a1, a2, a3), (w.heap.size, 0, 0, 0, 0)]) (fun x _ => s.size - (intOf x).toNat)
        case atStart => exact ⟨0, 0, 0, 0, 0, Nat.zero_le _, rfl, hz, Lib.hid rfl, ((Mem.nil w).new w.heap.size 0 0 0 0 24 rfl).new (w.heap.size + 1) 0 0 0 0 24 (by simp)⟩
        case round =>
            obtain ⟨k, a0, a1, a2, a3, hk, rfl, ha, ev, mm⟩ := hrel
            have M := Lib.hid mm
            have r0 := (mm.2 (w.heap.size + 1, a0, a1, a2, a3) (by simp)).2
            have z0 := (mm.2 (w.heap.size, 0, 0, 0, 0) (by simp)).2
            have la := (mm.2 (w.heap.size + 1, a0, a1, a2, a3) (by simp)).1
            clear mm
            obtain ⟨c0, c1, c2, c3, cf⟩ := r0
            obtain ⟨y0, y1, y2, y3, yf⟩ := z0
            by_cases hlt : k < s.size
            · have hl : k < l.length := by rw [Hll.out]; exact hlt
              have hdg := HDig.out k hl
              obtain ⟨d, hdd, ld, ed⟩ : ∃ d : Nat, ((s[k]'hlt).toNat : Int) - 48 = (d : Int) ∧ d ≤ 9 ∧ Hid (numVal (l.take (k + 1)) = numVal (l.take k) * 10 + d) := by
                refine ⟨l[k].toNat - 48, ?_, by omega, Lib.hid (numVal_snoc hl)⟩
                rw [HG.out k hlt hl]; omega
              have b1 : 48 ≤ (s[k]'hlt).toNat := by rw [HG.out k hlt hl]; exact hdg.1
              have b2 : (s[k]'hlt).toNat ≤ 57 := by rw [HG.out k hlt hl]; exact hdg.2
              have okd : ok4 d 0 0 0 := ⟨by omega, by omega, by omega, by omega⟩
              have w8 : IntKind.u8.wrap (d : Int) = (d : Int) := by simp only [IntKind.wrap, IntKind.bits, IntKind.signed]; simp; omega
              have w64 : IntKind.u64.wrap (d : Int) = (d : Int) := wrap_in64 _ (by omega)
              clear hdg
              go_wp2_with fail
              refine (refMul_calls a0 a1 a2 a3 10 0 0 0 ha ⟨by omega, by omega, by omega, by omega⟩ _).mono ?_
              rintro e w2 ⟨o, g1, g2, g3, p0, p1, p2, p3, rfl, hgo, hp, ep, hbl⟩
              have ep' := ep
              rw [show val4 10 0 0 0 = 10 from rfl] at ep'
              obtain ⟨rfl, rfl, rfl, lo⟩ : g1 = 0 ∧ g2 = 0 ∧ g3 = 0 ∧ o < 10 := by
                have h1 := val4_lt ha
                unfold val4 at ep' h1
                omega
              have Hep := Lib.hid (show val4 p0 p1 p2 p3 + 115792089237316195423570985008687907853269984665640564039457584007913129639936 * o = val4 a0 a1 a2 a3 * 10 by
                rw [← ep']; unfold val4; omega)
              have M2 := Lib.hid (((M.out.on hbl).new w2.heap.size o 0 0 0 24 rfl).new (w2.heap.size + 1) p0 p1 p2 p3 24 (by simp))
              clear hbl M c0 c1 c2 c3 cf la y0 y1 y2 y3 yf ep ep' hgo
              go_wp2_with fail
              generalize (w2.alloc (.cells #[.int .u64 o, .int .u64 0, .int .u64 0, .int .u64 0] 24)).alloc (.cells #[.int .u64 p0, .int .u64 p1, .int .u64 p2, .int .u64 p3] 24) = W2 at M2 ⊢
              have HM := Lib.hid (M2.out.drewN 1)
              have HS := M2.out.drewN 1
              clear M2
              refine region_till (fun wx => Mem w wx [(w2.heap.size + 1, p0, p1, p2, p3), (w2.heap.size, o, 0, 0, 0), (w.heap.size + 1, a0, a1, a2, a3), (w.heap.size, 0, 0, 0, 0)]) 13 (by kernel_rfl) ?_
              refine till_take (i := 0) (v := .agg #[.int .u64 p0, .int .u64 p1, .int .u64 p2, .int .u64 p3]) rfl (by kernel_rfl) (by kernel_rfl) (by kernel_rfl) (by kernel_rfl) (fun _ _ _ h => h) HS (Or.inl ⟨by kernel_rfl, fun wx hx => ?_⟩) ?_
              · have kr := (hx.2 (w2.heap.size + 1, p0, p1, p2, p3) (List.Mem.head _)).2
                have k0 := kr.c0; have k1 := kr.c1; have k2 := kr.c2; have k3 := kr.c3; have kf := kr.fr
                clear kr HS hx
                go_simp
              simp only [Act.put, List.setIfInBounds_toArray, List.set_cons_zero, List.set_cons_succ]
              refine till_take (i := 1) (v := .string s) rfl (by kernel_rfl) (by kernel_rfl) (by kernel_rfl) (by kernel_rfl) (fun _ _ _ h => h) HS (Or.inl ⟨by kernel_rfl, fun wx hx => ?_⟩) ?_
              · clear hx HS
                go_simp
              simp only [Act.put, List.setIfInBounds_toArray, List.set_cons_zero, List.set_cons_succ]
              refine till_take (i := 2) (v := .int .i64 k) rfl (by kernel_rfl) (by kernel_rfl) (by kernel_rfl) (by kernel_rfl) (fun _ _ _ h => h) HS (Or.inl ⟨by kernel_rfl, fun wx hx => ?_⟩) ?_
              · clear hx HS
                go_simp
              simp only [Act.put, List.setIfInBounds_toArray, List.set_cons_zero, List.set_cons_succ]
              refine till_take (i := 3) (v := .int .u8 ((s[k]'hlt).toNat : Nat)) rfl (by kernel_rfl) (by kernel_rfl) (by kernel_rfl) (by kernel_rfl) (fun _ _ _ h => h) HS (Or.inl ⟨by kernel_rfl, fun wx hx => ?_⟩) ?_
              · clear hx HS
                go_simp
              simp only [Act.put, List.setIfInBounds_toArray, List.set_cons_zero, List.set_cons_succ]
              refine till_take (i := 4) (v := .int .u8 d) rfl (by kernel_rfl) (by kernel_rfl) (by kernel_rfl) (by kernel_rfl) (fun _ _ _ h => h) HS (Or.inl ⟨by kernel_rfl, fun wx hx => ?_⟩) ?_
              · clear hx HS
                go_simp
              simp only [Act.put, List.setIfInBounds_toArray, List.set_cons_zero, List.set_cons_succ]
              refine till_take (i := 5) (v := .int .u64 d) rfl (by kernel_rfl) (by kernel_rfl) (by kernel_rfl) (by kernel_rfl) (fun _ _ _ h => h) HS (Or.inl ⟨by kernel_rfl, fun wx hx => ?_⟩) ?_
              · clear hx HS
                go_simp
              simp only [Act.put, List.setIfInBounds_toArray, List.set_cons_zero, List.set_cons_succ]
              refine till_take (i := 6) (v := .agg #[.int .u64 d, .int .u64 0, .int .u64 0, .int .u64 0]) rfl (by kernel_rfl) (by kernel_rfl) (by kernel_rfl) (by kernel_rfl) (fun _ _ _ h => h) HS (Or.inl ⟨by kernel_rfl, fun wx hx => ?_⟩) ?_
              · clear hx HS
                go_simp
              simp only [Act.put, List.setIfInBounds_toArray, List.set_cons_zero, List.set_cons_succ]
              clear HS
              refine till_two (i := 7) (j := 11) (by kernel_rfl) rfl rfl (fun K hK => ?_) (fun K hK => ?_)
              · go_simp
                refine (refAdd_calls p0 p1 p2 p3 d 0 0 0 hp okd _).mono ?_
                rintro e w3 ⟨s0, s1, s2, s3, c, rfl, hs', hc, es, hbl⟩
                have HV := Lib.hid (show val4 s0 s1 s2 s3 + 115792089237316195423570985008687907853269984665640564039457584007913129639936 * (c + o) = numVal (l.take (k + 1)) by
                  have h1 := Hep.out; have h2 := ev.out; have h3 := ed.out
                  have h4 : val4 d 0 0 0 = d := by unfold val4; omega
                  rw [h3, ← h2, Nat.mul_add]; omega)
                have HT := Lib.hid (numVal_take l (k + 1))
                have M3 := Lib.hid (HM.out.on hbl)
                have HS := HM.out.on hbl
                clear HM hbl es
                refine hK.out _ _ (Or.inr HS) (fun _ => ?_)
                clear hK K
                refine till_take (i := 8) (v := .tuple #[.agg #[.int .u64 s0, .int .u64 s1, .int .u64 s2, .int .u64 s3], .int .u64 c]) rfl (by kernel_rfl) (by kernel_rfl) (by kernel_rfl) (by kernel_rfl) (fun _ _ _ h => h) HS (Or.inl ⟨by kernel_rfl, fun wx hx => ?_⟩) ?_
                · clear hx HS
                  go_simp
                simp only [Act.put, List.setIfInBounds_toArray, List.set_cons_zero, List.set_cons_succ]
                refine till_take (i := 9) (v := .agg #[.int .u64 s0, .int .u64 s1, .int .u64 s2, .int .u64 s3]) rfl (by kernel_rfl) (by kernel_rfl) (by kernel_rfl) (by kernel_rfl) (fun _ _ _ h => h) HS (Or.inl ⟨by kernel_rfl, fun wx hx => ?_⟩) ?_
                · clear hx HS
                  go_simp
                simp only [Act.put, List.setIfInBounds_toArray, List.set_cons_zero, List.set_cons_succ]
                refine till_take (i := 10) (v := .int .u64 c) rfl (by kernel_rfl) (by kernel_rfl) (by kernel_rfl) (by kernel_rfl) (fun _ _ _ h => h) HS (Or.inl ⟨by kernel_rfl, fun wx hx => ?_⟩) ?_
                · clear hx HS
                  go_simp
                simp only [Act.put, List.setIfInBounds_toArray, List.set_cons_zero, List.set_cons_succ]
                clear HS
                refine till_step (i := 11) (by kernel_rfl) rfl (fun K hK => ?_)
                go_simp
                have M4 := Lib.hid (M3.out.new w3.heap.size 0 0 0 0 24 rfl)
                refine hK.out _ _ (Or.inr (M4.out.sub (fun r h => List.mem_cons_of_mem _ h))) (fun _ => ?_)
                clear hK K
                refine till_step (i := 12) (by kernel_rfl) rfl (fun K hK => ?_)
                go_simp
                have M5 := Lib.hid (M3.out.new w3.heap.size s0 s1 s2 s3 24 rfl)
                refine hK.out _ _ (Or.inr (M5.out.sub (fun r h => List.mem_cons_of_mem _ h))) (fun _ => ?_)
                clear hK K M4
                refine till_step (i := 13) (by kernel_rfl) rfl (fun K hK => ?_)
                go_simp
                refine hK.out _ _ (Or.inl rfl) (fun _ => ?_)
                clear hK K
                refine till_done (by kernel_rfl) ?_
                have r3 := M3.out.2 (w.heap.size, 0, 0, 0, 0) (by simp)
                have r4 := M3.out.2 (w.heap.size + 1, a0, a1, a2, a3) (by simp)
                have r6 := (M3.out.2 (w2.heap.size, o, 0, 0, 0) (by simp)).2.c0
                have l6 := (M3.out.2 (w2.heap.size, o, 0, 0, 0) (by simp)).1
                obtain ⟨lz, y0, y1, y2, y3, yf⟩ := r3
                obtain ⟨la, c0, c1, c2, c3, cf⟩ := r4
                rcases Nat.eq_zero_or_pos o with rfl | h0
                · rcases (show c = 0 ∨ c = 1 by omega) with rfl | rfl
                  · have HN := Lib.hid (show val4 s0 s1 s2 s3 = numVal (l.take (k + 1)) by have := HV.out; omega)
                    have M6 := Lib.hid (((M3.out.sub (rs' := [(w.heap.size + 1, a0, a1, a2, a3), (w.heap.size, 0, 0, 0, 0)]) (fun r h => List.mem_cons_of_mem _ (List.mem_cons_of_mem _ h))).put s0 s1 s2 s3 (by omega) (by simp)).on ((Below.refl _ _).alloc (Nat.le_refl _) (.cells #[.int .u64 s0, .int .u64 s1, .int .u64 s2, .int .u64 s3] 24)))
                    go_wp2_with fail
                    go_roundw
                    case rel => exact ⟨k + 1, s0, s1, s2, s3, by omega, by go_num, hs', HN, M6.out⟩
                    case measure => first | (simp [intOf]; done) | (simp [intOf]; omega)
                  · have HF := Lib.hid (HBig.out (by have h1 := HV.out; have h2 := HT.out; omega))
                    go_wp2_with fail
                    refine bodyPost_ret (v := .tuple #[.agg #[.int .u64 0, .int .u64 0, .int .u64 0, .int .u64 0], .int .i64 4]) (by simp [results, Tryd.results34, go_sem, *]) rfl ?_
                    exact ⟨0, 0, 0, 0, 4, rfl, hz, HF.out.symm, (below_set4 M3.out.1 (by omega) _ _ _ _).alloc (by simp only [World.size_setCell, set4]; omega) _⟩
                · have t1 : ((o : Int) != 0) = true := by simp; omega
                  have HF := Lib.hid (HBig.out (by have h1 := HV.out; have h2 := HT.out; omega))
                  clear h0
                  go_wp2_with fail
                  refine bodyPost_ret (v := .tuple #[.agg #[.int .u64 0, .int .u64 0, .int .u64 0, .int .u64 0], .int .i64 4]) (by simp [results, Tryd.results34, go_sem, *]) rfl ?_
                  exact ⟨0, 0, 0, 0, 4, rfl, hz, HF.out.symm, (below_set4 M3.out.1 (by omega) _ _ _ _).alloc (by simp only [World.size_setCell, set4]; omega) _⟩
              · go_simp
                have M3 := Lib.hid (HM.out.new W2.heap.size 0 0 0 0 24 rfl)
                have lW := (HM.out.2 (w.heap.size + 1, a0, a1, a2, a3) (by simp)).1
                have lW2 := (HM.out.2 (w2.heap.size + 1, p0, p1, p2, p3) (by simp)).1
                have gW : w.heap.size + 1 < W2.heap.size := lW
                have gW2 : w2.heap.size + 1 < W2.heap.size := lW2
                clear HM lW lW2
                refine hK.out _ _ (Or.inr (M3.out.sub (fun r h => List.mem_cons_of_mem _ h))) (fun _ => ?_)
                clear hK K
                refine till_step (i := 7) (by kernel_rfl) rfl (fun K hK => ?_)
                go_simp
                refine (refAdd_calls p0 p1 p2 p3 d 0 0 0 hp okd _).mono ?_
                rintro e w3 ⟨s0, s1, s2, s3, c, rfl, hs', hc, es, hbl⟩
                have HV := Lib.hid (show val4 s0 s1 s2 s3 + 115792089237316195423570985008687907853269984665640564039457584007913129639936 * (c + o) = numVal (l.take (k + 1)) by
                  have h1 := Hep.out; have h2 := ev.out; have h3 := ed.out
                  have h4 : val4 d 0 0 0 = d := by unfold val4; omega
                  rw [h3, ← h2, Nat.mul_add]; omega)
                have HT := Lib.hid (numVal_take l (k + 1))
                have M4 := Lib.hid (M3.out.on hbl)
                have HS := (M3.out.on hbl).sub (rs' := [(w2.heap.size + 1, p0, p1, p2, p3), (w2.heap.size, o, 0, 0, 0), (w.heap.size + 1, a0, a1, a2, a3), (w.heap.size, 0, 0, 0, 0)]) (fun r h => List.mem_cons_of_mem _ h)
                clear M3 hbl es
                refine hK.out _ _ (Or.inr HS) (fun _ => ?_)
                clear hK K
                refine till_take (i := 8) (v := .tuple #[.agg #[.int .u64 s0, .int .u64 s1, .int .u64 s2, .int .u64 s3], .int .u64 c]) rfl (by kernel_rfl) (by kernel_rfl) (by kernel_rfl) (by kernel_rfl) (fun _ _ _ h => h) HS (Or.inl ⟨by kernel_rfl, fun wx hx => ?_⟩) ?_
                · clear hx HS
                  go_simp
                simp only [Act.put, List.setIfInBounds_toArray, List.set_cons_zero, List.set_cons_succ]
                refine till_take (i := 9) (v := .agg #[.int .u64 s0, .int .u64 s1, .int .u64 s2, .int .u64 s3]) rfl (by kernel_rfl) (by kernel_rfl) (by kernel_rfl) (by kernel_rfl) (fun _ _ _ h => h) HS (Or.inl ⟨by kernel_rfl, fun wx hx => ?_⟩) ?_
                · clear hx HS
                  go_simp
                simp only [Act.put, List.setIfInBounds_toArray, List.set_cons_zero, List.set_cons_succ]
                refine till_take (i := 10) (v := .int .u64 c) rfl (by kernel_rfl) (by kernel_rfl) (by kernel_rfl) (by kernel_rfl) (fun _ _ _ h => h) HS (Or.inl ⟨by kernel_rfl, fun wx hx => ?_⟩) ?_
                · clear hx HS
                  go_simp
                simp only [Act.put, List.setIfInBounds_toArray, List.set_cons_zero, List.set_cons_succ]
                clear HS
                have r5 := M4.out.2 (W2.heap.size, 0, 0, 0, 0) (by simp)
                obtain ⟨lb, z0, z1, z2, z3, zf⟩ := r5
                refine till_step (i := 12) (by kernel_rfl) rfl (fun K hK => ?_)
                go_simp
                have M5 := Lib.hid (M4.out.put s0 s1 s2 s3 (by omega) (by simp; omega))
                refine hK.out _ _ (Or.inr (M5.out.sub (fun r h => List.mem_cons_of_mem _ h))) (fun _ => ?_)
                clear hK K z0 z1 z2 z3 zf lb
                refine till_step (i := 13) (by kernel_rfl) rfl (fun K hK => ?_)
                go_simp
                refine hK.out _ _ (Or.inl rfl) (fun _ => ?_)
                clear hK K
                refine till_done (by kernel_rfl) ?_
                have r3 := M4.out.2 (w.heap.size, 0, 0, 0, 0) (by simp)
                have r4 := M4.out.2 (w.heap.size + 1, a0, a1, a2, a3) (by simp)
                have r5 := M4.out.2 (W2.heap.size, 0, 0, 0, 0) (by simp)
                obtain ⟨lz, y0, y1, y2, y3, yf⟩ := r3
                obtain ⟨la, c0, c1, c2, c3, cf⟩ := r4
                obtain ⟨lb, z0, z1, z2, z3, zf⟩ := r5
                have r6 := (M4.out.2 (w2.heap.size, o, 0, 0, 0) (by simp)).2.c0
                rcases Nat.eq_zero_or_pos o with rfl | h0
                · rcases (show c = 0 ∨ c = 1 by omega) with rfl | rfl
                  · have HN := Lib.hid (show val4 s0 s1 s2 s3 = numVal (l.take (k + 1)) by have := HV.out; omega)
                    have M6 := Lib.hid ((M5.out.sub (rs' := [(w.heap.size + 1, a0, a1, a2, a3), (w.heap.size, 0, 0, 0, 0)]) (fun r h => List.mem_cons_of_mem _ (List.mem_cons_of_mem _ (List.mem_cons_of_mem _ h)))).put s0 s1 s2 s3 (by omega) (by simp))
                    go_wp2_with fail
                    go_roundw
                    case rel => exact ⟨k + 1, s0, s1, s2, s3, by omega, by go_num, hs', HN, M6.out⟩
                    case measure => first | (simp [intOf]; done) | (simp [intOf]; omega)
                  · have HF := Lib.hid (HBig.out (by have h1 := HV.out; have h2 := HT.out; omega))
                    go_wp2_with fail
                    refine bodyPost_ret (v := .tuple #[.agg #[.int .u64 0, .int .u64 0, .int .u64 0, .int .u64 0], .int .i64 4]) (by simp [results, Tryd.results34, go_sem, *]) rfl ?_
                    exact ⟨0, 0, 0, 0, 4, rfl, hz, HF.out.symm, below_set4 M5.out.1 (by omega) _ _ _ _⟩
                · have t1 : ((o : Int) != 0) = true := by simp; omega
                  have HF := Lib.hid (HBig.out (by have h1 := HV.out; have h2 := HT.out; omega))
                  clear h0
                  go_wp2_with fail
                  refine bodyPost_ret (v := .tuple #[.agg #[.int .u64 0, .int .u64 0, .int .u64 0, .int .u64 0], .int .i64 4]) (by simp [results, Tryd.results34, go_sem, *]) rfl ?_
                  exact ⟨0, 0, 0, 0, 4, rfl, hz, HF.out.symm, below_set4 M5.out.1 (by omega) _ _ _ _⟩
            · obtain rfl : k = s.size := by omega
              have HF := Lib.hid (show (val4 a0 a1 a2 a3, 0) = parseV l by
                have e1 : numVal (l.take s.size) = numVal l := by rw [List.take_of_length_le (by rw [Hll.out]; exact Nat.le_refl _)]
                have e2 := ev.out.trans e1
                rw [HOk.out (by rw [← e2]; exact val4_lt ha), e2])
              clear ev
              go_wp2_with fail
              refine bodyPost_ret (v := .tuple #[.agg #[.int .u64 a0, .int .u64 a1, .int .u64 a2, .int .u64 a3], .int .i64 0]) (by simp [results, Tryd.results34, go_sem, *]) rfl ?_
              exact ⟨a0, a1, a2, a3, 0, rfl, ha, HF.out, below_set4 M.out.1 (by omega) _ _ _ _⟩

set_option maxRecDepth 100000 in
set_option maxHeartbeats 8000000 in
theorem refParse_more (s : ByteArray) (hs : s.size ≤ maxLen) (h1 : 1 < s.size) (h0 : (s[0]'(by omega)).toNat ≠ 48) (w : World) :
    Calls Tryd.prog 34 #[.string s] w (ReadPost (fun n c => (n, c) = parseV s.data.toList) w) := by
  unfold maxLen at hs
  have hp : 0 < s.size := by omega
  have H0 := Lib.hid h0
  obtain ⟨c0, ec0, hc0⟩ : ∃ c : Nat, (s[0]'hp).toNat = c ∧ ((c : Int) == 48) = false := ⟨_, rfl, by simp; omega⟩
  clear h0
  have t1 : decide ((1 : Int) < (s.size : Int)) = true := decide_eq_true (by omega)
  have e0 : (s.toList == []) = false := by
    have : ¬ s.toList = [] := by
      intro e
      have h5 : s.toList.length = s.size := by rw [ByteArray.toList_eq]; simp
      rw [e] at h5
      have h6 : 0 = s.size := h5
      omega
    simpa using this
  have e1 : ¬ s.toList = [] := by simpa using e0
  obtain ⟨l, el⟩ : ∃ l, l = s.data.toList := ⟨_, rfl⟩
  have hll : l.length = s.size := by rw [el]; simp
  have HG := Lib.hid (fun (k : Nat) (hk : k < s.size) (hk' : k < l.length) => show s[k] = l[k] from by subst el; rfl)
  rw [← el]
  have HR := Lib.hid (numB_rest (l := l) (by omega) (fun e => by rw [← HG.out 0 (by omega) (by omega)]; exact H0.out))
  have Hll := Lib.hid hll
  have HBad := Lib.hid (fun (h : numB l = false) => parseV_bad h)
  have HLong := Lib.hid (fun h => parseV_long (l := l) h)
  clear el hll
  have hz : ok4 0 0 0 0 := ⟨by omega, by omega, by omega, by omega⟩
  go_enter Tryd.func34, Tryd.ntmps34
  go_wp2_with fail
  go_loop [5] (fun x => ∃ k : Nat, k ≤ s.size ∧ x = .int .i64 k ∧ Hid (∀ j (hj : j < l.length), j < k → digB l[j] = true)) (fun x => s.size - (intOf x).toNat)
  case atStart => exact ⟨0, Nat.zero_le _, rfl, Lib.hid (fun j _ h => absurd h (by omega))⟩
  case round =>
    obtain ⟨k, hk, rfl, ha⟩ := hrel
    by_cases hlt : k < s.size
    · have hl : k < l.length := by rw [Hll.out]; exact hlt
      obtain ⟨c, ec, eq⟩ : ∃ c : UInt8, s[k]'hlt = c ∧ l[k] = c := ⟨s[k]'hlt, rfl, (HG.out k hlt hl).symm⟩
      by_cases h1 : (c.toNat : Int) < 48
      · have HV := Lib.hid (HBad.out (numB_bad hl (by rw [eq]; unfold digB; exact decide_eq_false (by omega))))
        clear eq ha
        go_wp2_with fail
        refine bodyPost_ret (v := .tuple #[.agg #[.int .u64 0, .int .u64 0, .int .u64 0, .int .u64 0], .int .i64 11]) (by simp [results, Tryd.results34, go_sem]) rfl ?_
        refine ⟨0, 0, 0, 0, 11, rfl, hz, HV.out.symm, ?_⟩
        repeat (first | exact Below.refl _ _ | refine Below.drew ?_ | refine Below.alloc ?_ (by first | (simp; done) | (simp; omega)) _)
      · by_cases h2 : (57 : Int) < (c.toNat : Int)
        · have HV := Lib.hid (HBad.out (numB_bad hl (by rw [eq]; unfold digB; exact decide_eq_false (by omega))))
          clear eq ha
          go_wp2_with fail
          refine bodyPost_ret (v := .tuple #[.agg #[.int .u64 0, .int .u64 0, .int .u64 0, .int .u64 0], .int .i64 11]) (by simp [results, Tryd.results34, go_sem]) rfl ?_
          refine ⟨0, 0, 0, 0, 11, rfl, hz, HV.out.symm, ?_⟩
          repeat (first | exact Below.refl _ _ | refine Below.drew ?_ | refine Below.alloc ?_ (by first | (simp; done) | (simp; omega)) _)
        · have HN := Lib.hid (show ∀ j (hj : j < l.length), j < k + 1 → digB l[j] = true from fun j hj h => by
            by_cases e : j = k
            · subst e; rw [eq]; unfold digB; exact decide_eq_true (by omega)
            · exact ha.out j hj (by omega))
          clear eq ha
          go_wp2_with fail
          go_round
          case rel => exact ⟨k + 1, by omega, by go_num, HN⟩
          case measure => simp [intOf]; omega
    · obtain rfl : k = s.size := by omega
      have hnum := HR.out (fun j hj => ha.out j hj (by rw [← Hll.out]; exact hj))
      clear ha
      by_cases h78 : 78 < s.size
      · have HV := Lib.hid (HLong.out hnum (by rw [Hll.out]; exact h78))
        clear hnum
        go_wp2_with fail
        refine bodyPost_ret (v := .tuple #[.agg #[.int .u64 0, .int .u64 0, .int .u64 0, .int .u64 0], .int .i64 4]) (by simp [results, Tryd.results34, go_sem]) rfl ?_
        refine ⟨0, 0, 0, 0, 4, rfl, hz, HV.out.symm, ?_⟩
        repeat (first | exact Below.refl _ _ | refine Below.drew ?_ | refine Below.alloc ?_ (by first | (simp; done) | (simp; omega)) _)
      · have HBig := Lib.hid (parseV_big hnum (show ¬ 78 < l.length by rw [Hll.out]; exact h78))
        have HOk := Lib.hid (parseV_ok hnum (show ¬ 78 < l.length by rw [Hll.out]; exact h78))
        have HDig := Lib.hid (fun k hk => numB_dig hnum (k := k) hk)
        have hd : decide ((78 : Int) < (s.size : Int)) = false := decide_eq_false (by omega)
        have hs78 : s.size ≤ 78 := by omega
        clear hnum
        go_wp2_with fail
        go_loopw [6] (fun x wr => ∃ k a0 a1 a2 a3 : Nat, k ≤ s.size ∧ x = .int .i64 k ∧ ok4 a0 a1 a2 a3 ∧ Hid (val4 a0 a1 a2 a3 = numVal (l.take k)) ∧ Mem w wr [(w.heap.size + 1, a0, a1, a2, a3), (w.heap.size, 0, 0, 0, 0)]) (fun x _ => s.size - (intOf x).toNat)
        case atStart => exact ⟨0, 0, 0, 0, 0, Nat.zero_le _, rfl, hz, Lib.hid rfl, ((Mem.nil w).new w.heap.size 0 0 0 0 24 rfl).new (w.heap.size + 1) 0 0 0 0 24 (by simp)⟩
        case round =>
            obtain ⟨k, a0, a1, a2, a3, hk, rfl, ha, ev, mm⟩ := hrel
            have M := Lib.hid mm
            have r0 := (mm.2 (w.heap.size + 1, a0, a1, a2, a3) (by simp)).2
            have z0 := (mm.2 (w.heap.size, 0, 0, 0, 0) (by simp)).2
            have la := (mm.2 (w.heap.size + 1, a0, a1, a2, a3) (by simp)).1
            clear mm
            obtain ⟨c0, c1, c2, c3, cf⟩ := r0
            obtain ⟨y0, y1, y2, y3, yf⟩ := z0
            by_cases hlt : k < s.size
            · have hl : k < l.length := by rw [Hll.out]; exact hlt
              have hdg := HDig.out k hl
              obtain ⟨d, hdd, ld, ed⟩ : ∃ d : Nat, ((s[k]'hlt).toNat : Int) - 48 = (d : Int) ∧ d ≤ 9 ∧ Hid (numVal (l.take (k + 1)) = numVal (l.take k) * 10 + d) := by
                refine ⟨l[k].toNat - 48, ?_, by omega, Lib.hid (numVal_snoc hl)⟩
                rw [HG.out k hlt hl]; omega
              have b1 : 48 ≤ (s[k]'hlt).toNat := by rw [HG.out k hlt hl]; exact hdg.1
              have b2 : (s[k]'hlt).toNat ≤ 57 := by rw [HG.out k hlt hl]; exact hdg.2
              have okd : ok4 d 0 0 0 := ⟨by omega, by omega, by omega, by omega⟩
              have w8 : IntKind.u8.wrap (d : Int) = (d : Int) := by simp only [IntKind.wrap, IntKind.bits, IntKind.signed]; simp; omega
              have w64 : IntKind.u64.wrap (d : Int) = (d : Int) := wrap_in64 _ (by omega)
              clear hdg
              go_wp2_with fail
              refine (refMul_calls a0 a1 a2 a3 10 0 0 0 ha ⟨by omega, by omega, by omega, by omega⟩ _).mono ?_
              rintro e w2 ⟨o, g1, g2, g3, p0, p1, p2, p3, rfl, hgo, hp, ep, hbl⟩
              have ep' := ep
              rw [show val4 10 0 0 0 = 10 from rfl] at ep'
              obtain ⟨rfl, rfl, rfl, lo⟩ : g1 = 0 ∧ g2 = 0 ∧ g3 = 0 ∧ o < 10 := by
                have h1 := val4_lt ha
                unfold val4 at ep' h1
                omega
              have Hep := Lib.hid (show val4 p0 p1 p2 p3 + 115792089237316195423570985008687907853269984665640564039457584007913129639936 * o = val4 a0 a1 a2 a3 * 10 by
                rw [← ep']; unfold val4; omega)
              have M2 := Lib.hid (((M.out.on hbl).new w2.heap.size o 0 0 0 24 rfl).new (w2.heap.size + 1) p0 p1 p2 p3 24 (by simp))
              clear hbl M c0 c1 c2 c3 cf la y0 y1 y2 y3 yf ep ep' hgo
              go_wp2_with fail
              generalize (w2.alloc (.cells #[.int .u64 o, .int .u64 0, .int .u64 0, .int .u64 0] 24)).alloc (.cells #[.int .u64 p0, .int .u64 p1, .int .u64 p2, .int .u64 p3] 24) = W2 at M2 ⊢
              have HM := Lib.hid (M2.out.drewN 1)
              have HS := M2.out.drewN 1
              clear M2
              refine region_till (fun wx => Mem w wx [(w2.heap.size + 1, p0, p1, p2, p3), (w2.heap.size, o, 0, 0, 0), (w.heap.size + 1, a0, a1, a2, a3), (w.heap.size, 0, 0, 0, 0)]) 13 (by kernel_rfl) ?_
              refine till_take (i := 0) (v := .agg #[.int .u64 p0, .int .u64 p1, .int .u64 p2, .int .u64 p3]) rfl (by kernel_rfl) (by kernel_rfl) (by kernel_rfl) (by kernel_rfl) (fun _ _ _ h => h) HS (Or.inl ⟨by kernel_rfl, fun wx hx => ?_⟩) ?_
              · have kr := (hx.2 (w2.heap.size + 1, p0, p1, p2, p3) (List.Mem.head _)).2
                have k0 := kr.c0; have k1 := kr.c1; have k2 := kr.c2; have k3 := kr.c3; have kf := kr.fr
                clear kr HS hx
                go_simp
              simp only [Act.put, List.setIfInBounds_toArray, List.set_cons_zero, List.set_cons_succ]
              refine till_take (i := 1) (v := .string s) rfl (by kernel_rfl) (by kernel_rfl) (by kernel_rfl) (by kernel_rfl) (fun _ _ _ h => h) HS (Or.inl ⟨by kernel_rfl, fun wx hx => ?_⟩) ?_
              · clear hx HS
                go_simp
              simp only [Act.put, List.setIfInBounds_toArray, List.set_cons_zero, List.set_cons_succ]
              refine till_take (i := 2) (v := .int .i64 k) rfl (by kernel_rfl) (by kernel_rfl) (by kernel_rfl) (by kernel_rfl) (fun _ _ _ h => h) HS (Or.inl ⟨by kernel_rfl, fun wx hx => ?_⟩) ?_
              · clear hx HS
                go_simp
              simp only [Act.put, List.setIfInBounds_toArray, List.set_cons_zero, List.set_cons_succ]
              refine till_take (i := 3) (v := .int .u8 ((s[k]'hlt).toNat : Nat)) rfl (by kernel_rfl) (by kernel_rfl) (by kernel_rfl) (by kernel_rfl) (fun _ _ _ h => h) HS (Or.inl ⟨by kernel_rfl, fun wx hx => ?_⟩) ?_
              · clear hx HS
                go_simp
              simp only [Act.put, List.setIfInBounds_toArray, List.set_cons_zero, List.set_cons_succ]
              refine till_take (i := 4) (v := .int .u8 d) rfl (by kernel_rfl) (by kernel_rfl) (by kernel_rfl) (by kernel_rfl) (fun _ _ _ h => h) HS (Or.inl ⟨by kernel_rfl, fun wx hx => ?_⟩) ?_
              · clear hx HS
                go_simp
              simp only [Act.put, List.setIfInBounds_toArray, List.set_cons_zero, List.set_cons_succ]
              refine till_take (i := 5) (v := .int .u64 d) rfl (by kernel_rfl) (by kernel_rfl) (by kernel_rfl) (by kernel_rfl) (fun _ _ _ h => h) HS (Or.inl ⟨by kernel_rfl, fun wx hx => ?_⟩) ?_
              · clear hx HS
                go_simp
              simp only [Act.put, List.setIfInBounds_toArray, List.set_cons_zero, List.set_cons_succ]
              refine till_take (i := 6) (v := .agg #[.int .u64 d, .int .u64 0, .int .u64 0, .int .u64 0]) rfl (by kernel_rfl) (by kernel_rfl) (by kernel_rfl) (by kernel_rfl) (fun _ _ _ h => h) HS (Or.inl ⟨by kernel_rfl, fun wx hx => ?_⟩) ?_
              · clear hx HS
                go_simp
              simp only [Act.put, List.setIfInBounds_toArray, List.set_cons_zero, List.set_cons_succ]
              clear HS
              refine till_two (i := 7) (j := 11) (by kernel_rfl) rfl rfl (fun K hK => ?_) (fun K hK => ?_)
              · go_simp
                refine (refAdd_calls p0 p1 p2 p3 d 0 0 0 hp okd _).mono ?_
                rintro e w3 ⟨s0, s1, s2, s3, c, rfl, hs', hc, es, hbl⟩
                have HV := Lib.hid (show val4 s0 s1 s2 s3 + 115792089237316195423570985008687907853269984665640564039457584007913129639936 * (c + o) = numVal (l.take (k + 1)) by
                  have h1 := Hep.out; have h2 := ev.out; have h3 := ed.out
                  have h4 : val4 d 0 0 0 = d := by unfold val4; omega
                  rw [h3, ← h2, Nat.mul_add]; omega)
                have HT := Lib.hid (numVal_take l (k + 1))
                have M3 := Lib.hid (HM.out.on hbl)
                have HS := HM.out.on hbl
                clear HM hbl es
                refine hK.out _ _ (Or.inr HS) (fun _ => ?_)
                clear hK K
                refine till_take (i := 8) (v := .tuple #[.agg #[.int .u64 s0, .int .u64 s1, .int .u64 s2, .int .u64 s3], .int .u64 c]) rfl (by kernel_rfl) (by kernel_rfl) (by kernel_rfl) (by kernel_rfl) (fun _ _ _ h => h) HS (Or.inl ⟨by kernel_rfl, fun wx hx => ?_⟩) ?_
                · clear hx HS
                  go_simp
                simp only [Act.put, List.setIfInBounds_toArray, List.set_cons_zero, List.set_cons_succ]
                refine till_take (i := 9) (v := .agg #[.int .u64 s0, .int .u64 s1, .int .u64 s2, .int .u64 s3]) rfl (by kernel_rfl) (by kernel_rfl) (by kernel_rfl) (by kernel_rfl) (fun _ _ _ h => h) HS (Or.inl ⟨by kernel_rfl, fun wx hx => ?_⟩) ?_
                · clear hx HS
                  go_simp
                simp only [Act.put, List.setIfInBounds_toArray, List.set_cons_zero, List.set_cons_succ]
                refine till_take (i := 10) (v := .int .u64 c) rfl (by kernel_rfl) (by kernel_rfl) (by kernel_rfl) (by kernel_rfl) (fun _ _ _ h => h) HS (Or.inl ⟨by kernel_rfl, fun wx hx => ?_⟩) ?_
                · clear hx HS
                  go_simp
                simp only [Act.put, List.setIfInBounds_toArray, List.set_cons_zero, List.set_cons_succ]
                clear HS
                refine till_step (i := 11) (by kernel_rfl) rfl (fun K hK => ?_)
                go_simp
                have M4 := Lib.hid (M3.out.new w3.heap.size 0 0 0 0 24 rfl)
                refine hK.out _ _ (Or.inr (M4.out.sub (fun r h => List.mem_cons_of_mem _ h))) (fun _ => ?_)
                clear hK K
                refine till_step (i := 12) (by kernel_rfl) rfl (fun K hK => ?_)
                go_simp
                have M5 := Lib.hid (M3.out.new w3.heap.size s0 s1 s2 s3 24 rfl)
                refine hK.out _ _ (Or.inr (M5.out.sub (fun r h => List.mem_cons_of_mem _ h))) (fun _ => ?_)
                clear hK K M4
                refine till_step (i := 13) (by kernel_rfl) rfl (fun K hK => ?_)
                go_simp
                refine hK.out _ _ (Or.inl rfl) (fun _ => ?_)
                clear hK K
                refine till_done (by kernel_rfl) ?_
                have r3 := M3.out.2 (w.heap.size, 0, 0, 0, 0) (by simp)
                have r4 := M3.out.2 (w.heap.size + 1, a0, a1, a2, a3) (by simp)
                have r6 := (M3.out.2 (w2.heap.size, o, 0, 0, 0) (by simp)).2.c0
                have l6 := (M3.out.2 (w2.heap.size, o, 0, 0, 0) (by simp)).1
                obtain ⟨lz, y0, y1, y2, y3, yf⟩ := r3
                obtain ⟨la, c0, c1, c2, c3, cf⟩ := r4
                rcases Nat.eq_zero_or_pos o with rfl | h0
                · rcases (show c = 0 ∨ c = 1 by omega) with rfl | rfl
                  · have HN := Lib.hid (show val4 s0 s1 s2 s3 = numVal (l.take (k + 1)) by have := HV.out; omega)
                    have M6 := Lib.hid (((M3.out.sub (rs' := [(w.heap.size + 1, a0, a1, a2, a3), (w.heap.size, 0, 0, 0, 0)]) (fun r h => List.mem_cons_of_mem _ (List.mem_cons_of_mem _ h))).put s0 s1 s2 s3 (by omega) (by simp)).on ((Below.refl _ _).alloc (Nat.le_refl _) (.cells #[.int .u64 s0, .int .u64 s1, .int .u64 s2, .int .u64 s3] 24)))
                    go_wp2_with fail
                    go_roundw
                    case rel => exact ⟨k + 1, s0, s1, s2, s3, by omega, by go_num, hs', HN, M6.out⟩
                    case measure => first | (simp [intOf]; done) | (simp [intOf]; omega)
                  · have HF := Lib.hid (HBig.out (by have h1 := HV.out; have h2 := HT.out; omega))
                    go_wp2_with fail
                    refine bodyPost_ret (v := .tuple #[.agg #[.int .u64 0, .int .u64 0, .int .u64 0, .int .u64 0], .int .i64 4]) (by simp [results, Tryd.results34, go_sem, *]) rfl ?_
                    exact ⟨0, 0, 0, 0, 4, rfl, hz, HF.out.symm, (below_set4 M3.out.1 (by omega) _ _ _ _).alloc (by simp only [World.size_setCell, set4]; omega) _⟩
                · have t1 : ((o : Int) != 0) = true := by simp; omega
                  have HF := Lib.hid (HBig.out (by have h1 := HV.out; have h2 := HT.out; omega))
                  clear h0
                  go_wp2_with fail
                  refine bodyPost_ret (v := .tuple #[.agg #[.int .u64 0, .int .u64 0, .int .u64 0, .int .u64 0], .int .i64 4]) (by simp [results, Tryd.results34, go_sem, *]) rfl ?_
                  exact ⟨0, 0, 0, 0, 4, rfl, hz, HF.out.symm, (below_set4 M3.out.1 (by omega) _ _ _ _).alloc (by simp only [World.size_setCell, set4]; omega) _⟩
              · go_simp
                have M3 := Lib.hid (HM.out.new W2.heap.size 0 0 0 0 24 rfl)
                have lW := (HM.out.2 (w.heap.size + 1, a0, a1, a2, a3) (by simp)).1
                have lW2 := (HM.out.2 (w2.heap.size + 1, p0, p1, p2, p3) (by simp)).1
                have gW : w.heap.size + 1 < W2.heap.size := lW
                have gW2 : w2.heap.size + 1 < W2.heap.size := lW2
                clear HM lW lW2
                refine hK.out _ _ (Or.inr (M3.out.sub (fun r h => List.mem_cons_of_mem _ h))) (fun _ => ?_)
                clear hK K
                refine till_step (i := 7) (by kernel_rfl) rfl (fun K hK => ?_)
                go_simp
                refine (refAdd_calls p0 p1 p2 p3 d 0 0 0 hp okd _).mono ?_
                rintro e w3 ⟨s0, s1, s2, s3, c, rfl, hs', hc, es, hbl⟩
                have HV := Lib.hid (show val4 s0 s1 s2 s3 + 115792089237316195423570985008687907853269984665640564039457584007913129639936 * (c + o) = numVal (l.take (k + 1)) by
                  have h1 := Hep.out; have h2 := ev.out; have h3 := ed.out
                  have h4 : val4 d 0 0 0 = d := by unfold val4; omega
                  rw [h3, ← h2, Nat.mul_add]; omega)
                have HT := Lib.hid (numVal_take l (k + 1))
                have M4 := Lib.hid (M3.out.on hbl)
                have HS := (M3.out.on hbl).sub (rs' := [(w2.heap.size + 1, p0, p1, p2, p3), (w2.heap.size, o, 0, 0, 0), (w.heap.size + 1, a0, a1, a2, a3), (w.heap.size, 0, 0, 0, 0)]) (fun r h => List.mem_cons_of_mem _ h)
                clear M3 hbl es
                refine hK.out _ _ (Or.inr HS) (fun _ => ?_)
                clear hK K
                refine till_take (i := 8) (v := .tuple #[.agg #[.int .u64 s0, .int .u64 s1, .int .u64 s2, .int .u64 s3], .int .u64 c]) rfl (by kernel_rfl) (by kernel_rfl) (by kernel_rfl) (by kernel_rfl) (fun _ _ _ h => h) HS (Or.inl ⟨by kernel_rfl, fun wx hx => ?_⟩) ?_
                · clear hx HS
                  go_simp
                simp only [Act.put, List.setIfInBounds_toArray, List.set_cons_zero, List.set_cons_succ]
                refine till_take (i := 9) (v := .agg #[.int .u64 s0, .int .u64 s1, .int .u64 s2, .int .u64 s3]) rfl (by kernel_rfl) (by kernel_rfl) (by kernel_rfl) (by kernel_rfl) (fun _ _ _ h => h) HS (Or.inl ⟨by kernel_rfl, fun wx hx => ?_⟩) ?_
                · clear hx HS
                  go_simp
                simp only [Act.put, List.setIfInBounds_toArray, List.set_cons_zero, List.set_cons_succ]
                refine till_take (i := 10) (v := .int .u64 c) rfl (by kernel_rfl) (by kernel_rfl) (by kernel_rfl) (by kernel_rfl) (fun _ _ _ h => h) HS (Or.inl ⟨by kernel_rfl, fun wx hx => ?_⟩) ?_
                · clear hx HS
                  go_simp
                simp only [Act.put, List.setIfInBounds_toArray, List.set_cons_zero, List.set_cons_succ]
                clear HS
                have r5 := M4.out.2 (W2.heap.size, 0, 0, 0, 0) (by simp)
                obtain ⟨lb, z0, z1, z2, z3, zf⟩ := r5
                refine till_step (i := 12) (by kernel_rfl) rfl (fun K hK => ?_)
                go_simp
                have M5 := Lib.hid (M4.out.put s0 s1 s2 s3 (by omega) (by simp; omega))
                refine hK.out _ _ (Or.inr (M5.out.sub (fun r h => List.mem_cons_of_mem _ h))) (fun _ => ?_)
                clear hK K z0 z1 z2 z3 zf lb
                refine till_step (i := 13) (by kernel_rfl) rfl (fun K hK => ?_)
                go_simp
                refine hK.out _ _ (Or.inl rfl) (fun _ => ?_)
                clear hK K
                refine till_done (by kernel_rfl) ?_
                have r3 := M4.out.2 (w.heap.size, 0, 0, 0, 0) (by simp)
                have r4 := M4.out.2 (w.heap.size + 1, a0, a1, a2, a3) (by simp)
                have r5 := M4.out.2 (W2.heap.size, 0, 0, 0, 0) (by simp)
                obtain ⟨lz, y0, y1, y2, y3, yf⟩ := r3
                obtain ⟨la, c0, c1, c2, c3, cf⟩ := r4
                obtain ⟨lb, z0, z1, z2, z3, zf⟩ := r5
                have r6 := (M4.out.2 (w2.heap.size, o, 0, 0, 0) (by simp)).2.c0
                rcases Nat.eq_zero_or_pos o with rfl | h0
                · rcases (show c = 0 ∨ c = 1 by omega) with rfl | rfl
                  · have HN := Lib.hid (show val4 s0 s1 s2 s3 = numVal (l.take (k + 1)) by have := HV.out; omega)
                    have M6 := Lib.hid ((M5.out.sub (rs' := [(w.heap.size + 1, a0, a1, a2, a3), (w.heap.size, 0, 0, 0, 0)]) (fun r h => List.mem_cons_of_mem _ (List.mem_cons_of_mem _ (List.mem_cons_of_mem _ h)))).put s0 s1 s2 s3 (by omega) (by simp))
                    go_wp2_with fail
                    go_roundw
                    case rel => exact ⟨k + 1, s0, s1, s2, s3, by omega, by go_num, hs', HN, M6.out⟩
                    case measure => first | (simp [intOf]; done) | (simp [intOf]; omega)
                  · have HF := Lib.hid (HBig.out (by have h1 := HV.out; have h2 := HT.out; omega))
                    go_wp2_with fail
                    refine bodyPost_ret (v := .tuple #[.agg #[.int .u64 0, .int .u64 0, .int .u64 0, .int .u64 0], .int .i64 4]) (by simp [results, Tryd.results34, go_sem, *]) rfl ?_
                    exact ⟨0, 0, 0, 0, 4, rfl, hz, HF.out.symm, below_set4 M5.out.1 (by omega) _ _ _ _⟩
                · have t1 : ((o : Int) != 0) = true := by simp; omega
                  have HF := Lib.hid (HBig.out (by have h1 := HV.out; have h2 := HT.out; omega))
                  clear h0
                  go_wp2_with fail
                  refine bodyPost_ret (v := .tuple #[.agg #[.int .u64 0, .int .u64 0, .int .u64 0, .int .u64 0], .int .i64 4]) (by simp [results, Tryd.results34, go_sem, *]) rfl ?_
                  exact ⟨0, 0, 0, 0, 4, rfl, hz, HF.out.symm, below_set4 M5.out.1 (by omega) _ _ _ _⟩
            · obtain rfl : k = s.size := by omega
              have HF := Lib.hid (show (val4 a0 a1 a2 a3, 0) = parseV l by
                have e1 : numVal (l.take s.size) = numVal l := by rw [List.take_of_length_le (by rw [Hll.out]; exact Nat.le_refl _)]
                have e2 := ev.out.trans e1
                rw [HOk.out (by rw [← e2]; exact val4_lt ha), e2])
              clear ev
              go_wp2_with fail
              refine bodyPost_ret (v := .tuple #[.agg #[.int .u64 a0, .int .u64 a1, .int .u64 a2, .int .u64 a3], .int .i64 0]) (by simp [results, Tryd.results34, go_sem, *]) rfl ?_
              exact ⟨a0, a1, a2, a3, 0, rfl, ha, HF.out, below_set4 M.out.1 (by omega) _ _ _ _⟩

/-- the reference's Parse, for any string -/
theorem refParse_calls (s : ByteArray) (hs : s.size ≤ maxLen) (w : World) :
    Calls Tryd.prog 34 #[.string s] w (ReadPost (fun n c => (n, c) = parseV s.data.toList) w) := by
  rcases Nat.eq_zero_or_pos s.size with h | h
  · exact refParse_empty s h w
  · by_cases h1 : 1 < s.size
    · by_cases h0 : (s[0]'(by omega)).toNat = 48
      · exact refParse_lead s hs h1 h0 w
      · exact refParse_more s hs h1 h0 w
    · exact refParse_one s hs (by omega) w
end Go.Proofs.YtopahcobdfdnlaaDoor
