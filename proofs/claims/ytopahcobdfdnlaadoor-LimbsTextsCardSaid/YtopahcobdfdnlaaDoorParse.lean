/-
  The call of limbs.Parse: of any string. Conditions: the string's length an int.
-/
import Derived.Test.YtopahcobdfdnlaaDoorNumber
import Derived.Test.YtopahcobdfdnlaaDoorBytes
import Derived.Test.YtopahcobdfdnlaaDoorMul
import Derived.Test.YtopahcobdfdnlaaDoorTake
import Derived.Test.YtopahcobdfdnlaaDoorTill
import Derived.Test.YtopahcobdfdnlaaDoorMem
import Derived.Deep.LoopGhost
namespace Go.Proofs.YtopahcobdfdnlaaDoor
set_option linter.unusedVariables false
set_option linter.unusedSimpArgs false
open Go.RowKit

def numStep (v : Nat) (c : UInt8) : Nat := v * 10 + (c.toNat - 48)
def numVal (l : List UInt8) : Nat := l.foldl numStep 0
theorem fold_ge (l : List UInt8) : ∀ v, v ≤ l.foldl numStep v := by
  induction l with
  | nil => intro v; exact Nat.le_refl _
  | cons c t ih => intro v; exact Nat.le_trans (by unfold numStep; omega) (ih (numStep v c))
theorem numVal_take (l : List UInt8) (k : Nat) : numVal (l.take k) ≤ numVal l := by
  have h : numVal l = (l.drop k).foldl numStep (numVal (l.take k)) := by
    unfold numVal
    rw [← List.foldl_append, List.take_append_drop]
  rw [h]; exact fold_ge _ _
theorem numVal_snoc {l : List UInt8} {k : Nat} (h : k < l.length) : numVal (l.take (k + 1)) = numVal (l.take k) * 10 + (l[k].toNat - 48) := by
  rw [List.take_succ_eq_append_getElem h]
  unfold numVal
  rw [List.foldl_append]
  rfl
def parseV (l : List UInt8) : Nat × Nat :=
  if numB l = false then (0, 11) else if 78 < l.length then (0, 4) else if 115792089237316195423570985008687907853269984665640564039457584007913129639936 ≤ numVal l then (0, 4) else (numVal l, 0)
theorem parseV_bad {l : List UInt8} (h : numB l = false) : parseV l = (0, 11) := by unfold parseV; rw [if_pos h]
theorem parseV_long {l : List UInt8} (h : numB l = true) (h2 : 78 < l.length) : parseV l = (0, 4) := by unfold parseV; rw [if_neg (by simp [h]), if_pos h2]
theorem parseV_big {l : List UInt8} (h : numB l = true) (h2 : ¬ 78 < l.length) (h3 : 115792089237316195423570985008687907853269984665640564039457584007913129639936 ≤ numVal l) : parseV l = (0, 4) := by unfold parseV; rw [if_neg (by simp [h]), if_neg h2, if_pos h3]
theorem parseV_ok {l : List UInt8} (h : numB l = true) (h2 : ¬ 78 < l.length) (h3 : numVal l < 115792089237316195423570985008687907853269984665640564039457584007913129639936) : parseV l = (numVal l, 0) := by unfold parseV; rw [if_neg (by simp [h]), if_neg h2, if_neg (by omega)]
theorem numB_dig {l : List UInt8} (h : numB l = true) {k : Nat} (hk : k < l.length) : 48 ≤ l[k].toNat ∧ l[k].toNat ≤ 57 := by
  unfold numB at h
  rw [Bool.and_eq_true] at h
  have := List.all_eq_true.1 h.1 _ (List.getElem_mem hk)
  unfold digB at this
  exact of_decide_eq_true this

theorem parse_bad (s : ByteArray) (hs : s.size ≤ maxLen) (h : numB s.data.toList = false) (w : World) :
    Calls Tryd.prog 33 #[.string s] w (ReadPost (fun n c => (n, c) = parseV s.data.toList) w) := by
  have hN := fun w => isNumber_calls s hs w
  rw [h] at hN
  have HV := Lib.hid (parseV_bad h)
  clear h
  unfold maxLen at hs
  go_enter Tryd.func33, Tryd.ntmps33
  go_wp2_with fail
  refine (hN _).mono ?_
  rintro e w1 ⟨rfl, rfl⟩
  go_wp2_with fail
  refine bodyPost_ret (v := .tuple #[.agg #[.int .u64 0, .int .u64 0, .int .u64 0, .int .u64 0], .int .i64 11]) (by simp [results, Tryd.results33, go_sem]) rfl ?_
  refine ⟨0, 0, 0, 0, 11, rfl, ⟨by omega, by omega, by omega, by omega⟩, HV.out.symm, ?_⟩
  repeat (first | exact Below.refl _ _ | refine Below.drew ?_ | refine Below.alloc ?_ (by first | (simp; done) | (simp; omega)) _)
theorem parse_long (s : ByteArray) (hs : s.size ≤ maxLen) (h : numB s.data.toList = true) (h2 : 78 < s.size) (w : World) :
    Calls Tryd.prog 33 #[.string s] w (ReadPost (fun n c => (n, c) = parseV s.data.toList) w) := by
  have hN := fun w => isNumber_calls s hs w
  rw [h] at hN
  have HV := Lib.hid (parseV_long h (by simpa using h2))
  clear h
  unfold maxLen at hs
  go_enter Tryd.func33, Tryd.ntmps33
  go_wp2_with fail
  refine (hN _).mono ?_
  rintro e w1 ⟨rfl, rfl⟩
  go_wp2_with fail
  refine bodyPost_ret (v := .tuple #[.agg #[.int .u64 0, .int .u64 0, .int .u64 0, .int .u64 0], .int .i64 4]) (by simp [results, Tryd.results33, go_sem]) rfl ?_
  refine ⟨0, 0, 0, 0, 4, rfl, ⟨by omega, by omega, by omega, by omega⟩, HV.out.symm, ?_⟩
  repeat (first | exact Below.refl _ _ | refine Below.drew ?_ | refine Below.alloc ?_ (by first | (simp; done) | (simp; omega)) _)

set_option maxRecDepth 100000 in
set_option maxHeartbeats 2000000 in
theorem parse_some (s : ByteArray) (h : numB s.data.toList = true) (h2 : ¬ 78 < s.size) (w : World) :
    Calls Tryd.prog 33 #[.string s] w (ReadPost (fun n c => (n, c) = parseV s.data.toList) w) := by
  have hN := fun w => isNumber_calls s (by unfold maxLen; omega) w
  rw [h] at hN
  have hs : s.size ≤ 78 := by omega
  obtain ⟨l, el⟩ : ∃ l, l = s.data.toList := ⟨_, rfl⟩
  have hll : l.length = s.size := by rw [el]; simp
  rw [← el] at h ⊢
  have HBig := Lib.hid (parseV_big h (show ¬ 78 < l.length by omega))
  have HOk := Lib.hid (parseV_ok h (show ¬ 78 < l.length by omega))
  have HDig := Lib.hid (fun k hk => numB_dig h (k := k) hk)
  have HG := Lib.hid (fun (k : Nat) (hk : k < s.size) (hk' : k < l.length) => show s[k] = l[k] from by subst el; rfl)
  have Hll := Lib.hid hll
  clear el hll h
  have hd : decide ((78 : Int) < (s.size : Int)) = false := decide_eq_false (by omega)
  have hz : ok4 0 0 0 0 := ⟨by omega, by omega, by omega, by omega⟩
  go_enter Tryd.func33, Tryd.ntmps33
  go_wp2_with fail
  refine (hN _).mono ?_
  rintro e w1 ⟨rfl, rfl⟩
  clear hN
  go_wp2_with fail
  go_loopw [20] (fun x wr => ∃ k a0 a1 a2 a3 : Nat, k ≤ s.size ∧ x = .int .i64 k ∧ ok4 a0 a1 a2 a3 ∧ Hid (val4 a0 a1 a2 a3 = numVal (l.take k)) ∧ Mem w wr [(w.heap.size + 1, a0, a1, a2, a3), (w.heap.size, 0, 0, 0, 0)]) (fun x _ => s.size - (intOf x).toNat)
  case atStart => exact ⟨0, 0, 0, 0, 0, Nat.zero_le _, rfl, hz, Lib.hid rfl, ((Mem.nil w).new w.heap.size 0 0 0 0 24 rfl).new (w.heap.size + 1) 0 0 0 0 24 (by simp)⟩
  case round =>
    obtain ⟨k, a0, a1, a2, a3, hk, rfl, ha, ev, mm⟩ := hrel
    have M := Lib.hid mm
    have r0 := (mm.2 (w.heap.size + 1, a0, a1, a2, a3) (by simp)).2
    have z0 := (mm.2 (w.heap.size, 0, 0, 0, 0) (by simp)).2
    have la := (mm.2 (w.heap.size + 1, a0, a1, a2, a3) (by simp)).1
    clear mm
    obtain ⟨c0, c1, c2, c3, cf⟩ := r0
    obtain ⟨y0, y1, y2, y3, yf⟩ := z0
    by_cases hlt : k < s.size
    · have hl : k < l.length := by rw [Hll.out]; exact hlt
      have hdg := HDig.out k hl
      obtain ⟨d, hdd, ld, ed⟩ : ∃ d : Nat, ((s[k]'hlt).toNat : Int) - 48 = (d : Int) ∧ d ≤ 9 ∧ Hid (numVal (l.take (k + 1)) = numVal (l.take k) * 10 + d) := by
        refine ⟨l[k].toNat - 48, ?_, by omega, Lib.hid (numVal_snoc hl)⟩
        rw [HG.out k hlt hl]; omega
      have b1 : 48 ≤ (s[k]'hlt).toNat := by rw [HG.out k hlt hl]; exact hdg.1
      have b2 : (s[k]'hlt).toNat ≤ 57 := by rw [HG.out k hlt hl]; exact hdg.2
      have okd : ok4 d 0 0 0 := ⟨by omega, by omega, by omega, by omega⟩
      have w8 : IntKind.u8.wrap (d : Int) = (d : Int) := by simp only [IntKind.wrap, IntKind.bits, IntKind.signed]; simp; omega
      have w64 : IntKind.u64.wrap (d : Int) = (d : Int) := wrap_in64 _ (by omega)
      clear hdg
      go_wp2_with fail
      refine (tw_calls a0 a1 a2 a3 10 ha (by omega) _).mono ?_
      rintro e w2 ⟨p0, p1, p2, p3, o, rfl, hp, ho, ep, hbl⟩
      have M2 := Lib.hid ((M.out.on hbl).new w2.heap.size p0 p1 p2 p3 24 rfl)
      have Hep := Lib.hid ep
      clear hbl M c0 c1 c2 c3 cf la y0 y1 y2 y3 yf ep
      go_wp2_with fail
      generalize w2.alloc (.cells #[.int .u64 p0, .int .u64 p1, .int .u64 p2, .int .u64 p3] 24) = W2 at M2 ⊢
      have HM := Lib.hid (M2.out.drewN 1)
      have HS := M2.out.drewN 1
      clear M2
      refine region_till (fun wx => Mem w wx [(w2.heap.size, p0, p1, p2, p3), (w.heap.size + 1, a0, a1, a2, a3), (w.heap.size, 0, 0, 0, 0)]) 13 (by kernel_rfl) ?_
      refine till_take (i := 0) (v := .agg #[.int .u64 p0, .int .u64 p1, .int .u64 p2, .int .u64 p3]) rfl (by kernel_rfl) (by kernel_rfl) (by kernel_rfl) (by kernel_rfl) (fun _ _ _ h => h) HS (Or.inl ⟨by kernel_rfl, fun wx hx => ?_⟩) ?_
      · have kr := (hx.2 (w2.heap.size, p0, p1, p2, p3) (List.Mem.head _)).2
        have k0 := kr.c0; have k1 := kr.c1; have k2 := kr.c2; have k3 := kr.c3; have kf := kr.fr
        clear kr HS hx
        go_simp
      simp only [Act.put, List.setIfInBounds_toArray, List.set_cons_zero, List.set_cons_succ]
      refine till_take (i := 1) (v := .string s) rfl (by kernel_rfl) (by kernel_rfl) (by kernel_rfl) (by kernel_rfl) (fun _ _ _ h => h) HS (Or.inl ⟨by kernel_rfl, fun wx hx => ?_⟩) ?_
      · clear hx HS
        go_simp
      simp only [Act.put, List.setIfInBounds_toArray, List.set_cons_zero, List.set_cons_succ]
      refine till_take (i := 2) (v := .int .i64 k) rfl (by kernel_rfl) (by kernel_rfl) (by kernel_rfl) (by kernel_rfl) (fun _ _ _ h => h) HS (Or.inl ⟨by kernel_rfl, fun wx hx => ?_⟩) ?_
      · clear hx HS
        go_simp
      simp only [Act.put, List.setIfInBounds_toArray, List.set_cons_zero, List.set_cons_succ]
      refine till_take (i := 3) (v := .int .u8 ((s[k]'hlt).toNat : Nat)) rfl (by kernel_rfl) (by kernel_rfl) (by kernel_rfl) (by kernel_rfl) (fun _ _ _ h => h) HS (Or.inl ⟨by kernel_rfl, fun wx hx => ?_⟩) ?_
      · clear hx HS
        go_simp
      simp only [Act.put, List.setIfInBounds_toArray, List.set_cons_zero, List.set_cons_succ]
      refine till_take (i := 4) (v := .int .u8 d) rfl (by kernel_rfl) (by kernel_rfl) (by kernel_rfl) (by kernel_rfl) (fun _ _ _ h => h) HS (Or.inl ⟨by kernel_rfl, fun wx hx => ?_⟩) ?_
      · clear hx HS
        go_simp
      simp only [Act.put, List.setIfInBounds_toArray, List.set_cons_zero, List.set_cons_succ]
      refine till_take (i := 5) (v := .int .u64 d) rfl (by kernel_rfl) (by kernel_rfl) (by kernel_rfl) (by kernel_rfl) (fun _ _ _ h => h) HS (Or.inl ⟨by kernel_rfl, fun wx hx => ?_⟩) ?_
      · clear hx HS
        go_simp
      simp only [Act.put, List.setIfInBounds_toArray, List.set_cons_zero, List.set_cons_succ]
      refine till_take (i := 6) (v := .agg #[.int .u64 d, .int .u64 0, .int .u64 0, .int .u64 0]) rfl (by kernel_rfl) (by kernel_rfl) (by kernel_rfl) (by kernel_rfl) (fun _ _ _ h => h) HS (Or.inl ⟨by kernel_rfl, fun wx hx => ?_⟩) ?_
      · clear hx HS
        go_simp
      simp only [Act.put, List.setIfInBounds_toArray, List.set_cons_zero, List.set_cons_succ]
      clear HS
      refine till_two (i := 7) (j := 11) (by kernel_rfl) rfl rfl (fun K hK => ?_) (fun K hK => ?_)
      · go_simp
        refine (add_calls p0 p1 p2 p3 d 0 0 0 hp okd _).mono ?_
        rintro e w3 ⟨s0, s1, s2, s3, c, rfl, hs', hc, es, hbl⟩
        have HV := Lib.hid (show val4 s0 s1 s2 s3 + 115792089237316195423570985008687907853269984665640564039457584007913129639936 * (c + o) = numVal (l.take (k + 1)) by
          have h1 := Hep.out; have h2 := ev.out; have h3 := ed.out
          have h4 : val4 d 0 0 0 = d := by unfold val4; omega
          rw [h3, ← h2, Nat.mul_add]; omega)
        have HT := Lib.hid (numVal_take l (k + 1))
        have M3 := Lib.hid (HM.out.on hbl)
        have HS := HM.out.on hbl
        clear HM hbl es
        refine hK.out _ _ (Or.inr HS) (fun _ => ?_)
        clear hK K
        refine till_take (i := 8) (v := .tuple #[.agg #[.int .u64 s0, .int .u64 s1, .int .u64 s2, .int .u64 s3], .int .u64 c]) rfl (by kernel_rfl) (by kernel_rfl) (by kernel_rfl) (by kernel_rfl) (fun _ _ _ h => h) HS (Or.inl ⟨by kernel_rfl, fun wx hx => ?_⟩) ?_
        · clear hx HS
          go_simp
        simp only [Act.put, List.setIfInBounds_toArray, List.set_cons_zero, List.set_cons_succ]
        refine till_take (i := 9) (v := .agg #[.int .u64 s0, .int .u64 s1, .int .u64 s2, .int .u64 s3]) rfl (by kernel_rfl) (by kernel_rfl) (by kernel_rfl) (by kernel_rfl) (fun _ _ _ h => h) HS (Or.inl ⟨by kernel_rfl, fun wx hx => ?_⟩) ?_
        · clear hx HS
          go_simp
        simp only [Act.put, List.setIfInBounds_toArray, List.set_cons_zero, List.set_cons_succ]
        refine till_take (i := 10) (v := .int .u64 c) rfl (by kernel_rfl) (by kernel_rfl) (by kernel_rfl) (by kernel_rfl) (fun _ _ _ h => h) HS (Or.inl ⟨by kernel_rfl, fun wx hx => ?_⟩) ?_
        · clear hx HS
          go_simp
        simp only [Act.put, List.setIfInBounds_toArray, List.set_cons_zero, List.set_cons_succ]
        clear HS
        refine till_step (i := 11) (by kernel_rfl) rfl (fun K hK => ?_)
        go_simp
        have M4 := Lib.hid (M3.out.new w3.heap.size 0 0 0 0 24 rfl)
        refine hK.out _ _ (Or.inr (M4.out.sub (fun r h => List.mem_cons_of_mem _ h))) (fun _ => ?_)
        clear hK K
        refine till_step (i := 12) (by kernel_rfl) rfl (fun K hK => ?_)
        go_simp
        have M5 := Lib.hid (M3.out.new w3.heap.size s0 s1 s2 s3 24 rfl)
        refine hK.out _ _ (Or.inr (M5.out.sub (fun r h => List.mem_cons_of_mem _ h))) (fun _ => ?_)
        clear hK K M4
        refine till_step (i := 13) (by kernel_rfl) rfl (fun K hK => ?_)
        go_simp
        refine hK.out _ _ (Or.inl rfl) (fun _ => ?_)
        clear hK K
        refine till_done (by kernel_rfl) ?_
        have r3 := M3.out.2 (w.heap.size, 0, 0, 0, 0) (by simp)
        have r4 := M3.out.2 (w.heap.size + 1, a0, a1, a2, a3) (by simp)
        obtain ⟨lz, y0, y1, y2, y3, yf⟩ := r3
        obtain ⟨la, c0, c1, c2, c3, cf⟩ := r4
        rcases Nat.eq_zero_or_pos o with rfl | h0
        · rcases (show c = 0 ∨ c = 1 by omega) with rfl | rfl
          · have HN := Lib.hid (show val4 s0 s1 s2 s3 = numVal (l.take (k + 1)) by have := HV.out; omega)
            have M6 := Lib.hid (((M3.out.sub (rs' := [(w.heap.size + 1, a0, a1, a2, a3), (w.heap.size, 0, 0, 0, 0)]) (fun r h => List.mem_cons_of_mem _ h)).put s0 s1 s2 s3 (by omega) (by simp)).on ((Below.refl _ _).alloc (Nat.le_refl _) (.cells #[.int .u64 s0, .int .u64 s1, .int .u64 s2, .int .u64 s3] 24)))
            go_wp2_with fail
            go_roundw
            case rel => exact ⟨k + 1, s0, s1, s2, s3, by omega, by go_num, hs', HN, M6.out⟩
            case measure => first | (simp [intOf]; done) | (simp [intOf]; omega)
          · have HF := Lib.hid (HBig.out (by have h1 := HV.out; have h2 := HT.out; omega))
            go_wp2_with fail
            refine bodyPost_ret (v := .tuple #[.agg #[.int .u64 0, .int .u64 0, .int .u64 0, .int .u64 0], .int .i64 4]) (by simp [results, Tryd.results33, go_sem, *]) rfl ?_
            exact ⟨0, 0, 0, 0, 4, rfl, hz, HF.out.symm, (below_set4 M3.out.1 (by omega) _ _ _ _).alloc (by simp only [World.size_setCell, set4]; omega) _⟩
        · have t1 : ((o : Int) != 0) = true := by simp; omega
          have HF := Lib.hid (HBig.out (by have h1 := HV.out; have h2 := HT.out; omega))
          clear h0
          go_wp2_with fail
          refine bodyPost_ret (v := .tuple #[.agg #[.int .u64 0, .int .u64 0, .int .u64 0, .int .u64 0], .int .i64 4]) (by simp [results, Tryd.results33, go_sem, *]) rfl ?_
          exact ⟨0, 0, 0, 0, 4, rfl, hz, HF.out.symm, (below_set4 M3.out.1 (by omega) _ _ _ _).alloc (by simp only [World.size_setCell, set4]; omega) _⟩
      · go_simp
        have M3 := Lib.hid (HM.out.new W2.heap.size 0 0 0 0 24 rfl)
        have lW := (HM.out.2 (w.heap.size + 1, a0, a1, a2, a3) (by simp)).1
        have lW2 := (HM.out.2 (w2.heap.size, p0, p1, p2, p3) (by simp)).1
        have gW : w.heap.size + 1 < W2.heap.size := lW
        have gW2 : w2.heap.size < W2.heap.size := lW2
        clear HM lW lW2
        refine hK.out _ _ (Or.inr (M3.out.sub (fun r h => List.mem_cons_of_mem _ h))) (fun _ => ?_)
        clear hK K
        refine till_step (i := 7) (by kernel_rfl) rfl (fun K hK => ?_)
        go_simp
        refine (add_calls p0 p1 p2 p3 d 0 0 0 hp okd _).mono ?_
        rintro e w3 ⟨s0, s1, s2, s3, c, rfl, hs', hc, es, hbl⟩
        have HV := Lib.hid (show val4 s0 s1 s2 s3 + 115792089237316195423570985008687907853269984665640564039457584007913129639936 * (c + o) = numVal (l.take (k + 1)) by
          have h1 := Hep.out; have h2 := ev.out; have h3 := ed.out
          have h4 : val4 d 0 0 0 = d := by unfold val4; omega
          rw [h3, ← h2, Nat.mul_add]; omega)
        have HT := Lib.hid (numVal_take l (k + 1))
        have M4 := Lib.hid (M3.out.on hbl)
        have HS := (M3.out.on hbl).sub (rs' := [(w2.heap.size, p0, p1, p2, p3), (w.heap.size + 1, a0, a1, a2, a3), (w.heap.size, 0, 0, 0, 0)]) (fun r h => List.mem_cons_of_mem _ h)
        clear M3 hbl es
        refine hK.out _ _ (Or.inr HS) (fun _ => ?_)
        clear hK K
        refine till_take (i := 8) (v := .tuple #[.agg #[.int .u64 s0, .int .u64 s1, .int .u64 s2, .int .u64 s3], .int .u64 c]) rfl (by kernel_rfl) (by kernel_rfl) (by kernel_rfl) (by kernel_rfl) (fun _ _ _ h => h) HS (Or.inl ⟨by kernel_rfl, fun wx hx => ?_⟩) ?_
        · clear hx HS
          go_simp
        simp only [Act.put, List.setIfInBounds_toArray, List.set_cons_zero, List.set_cons_succ]
        refine till_take (i := 9) (v := .agg #[.int .u64 s0, .int .u64 s1, .int .u64 s2, .int .u64 s3]) rfl (by kernel_rfl) (by kernel_rfl) (by kernel_rfl) (by kernel_rfl) (fun _ _ _ h => h) HS (Or.inl ⟨by kernel_rfl, fun wx hx => ?_⟩) ?_
        · clear hx HS
          go_simp
        simp only [Act.put, List.setIfInBounds_toArray, List.set_cons_zero, List.set_cons_succ]
        refine till_take (i := 10) (v := .int .u64 c) rfl (by kernel_rfl) (by kernel_rfl) (by kernel_rfl) (by kernel_rfl) (fun _ _ _ h => h) HS (Or.inl ⟨by kernel_rfl, fun wx hx => ?_⟩) ?_
        · clear hx HS
          go_simp
        simp only [Act.put, List.setIfInBounds_toArray, List.set_cons_zero, List.set_cons_succ]
        clear HS
        have r5 := M4.out.2 (W2.heap.size, 0, 0, 0, 0) (by simp)
        obtain ⟨lb, z0, z1, z2, z3, zf⟩ := r5
        refine till_step (i := 12) (by kernel_rfl) rfl (fun K hK => ?_)
        go_simp
        have M5 := Lib.hid (M4.out.put s0 s1 s2 s3 (by omega) (by simp; omega))
        refine hK.out _ _ (Or.inr (M5.out.sub (fun r h => List.mem_cons_of_mem _ h))) (fun _ => ?_)
        clear hK K z0 z1 z2 z3 zf lb
        refine till_step (i := 13) (by kernel_rfl) rfl (fun K hK => ?_)
        go_simp
        refine hK.out _ _ (Or.inl rfl) (fun _ => ?_)
        clear hK K
        refine till_done (by kernel_rfl) ?_
        have r3 := M4.out.2 (w.heap.size, 0, 0, 0, 0) (by simp)
        have r4 := M4.out.2 (w.heap.size + 1, a0, a1, a2, a3) (by simp)
        have r5 := M4.out.2 (W2.heap.size, 0, 0, 0, 0) (by simp)
        obtain ⟨lz, y0, y1, y2, y3, yf⟩ := r3
        obtain ⟨la, c0, c1, c2, c3, cf⟩ := r4
        obtain ⟨lb, z0, z1, z2, z3, zf⟩ := r5
        rcases Nat.eq_zero_or_pos o with rfl | h0
        · rcases (show c = 0 ∨ c = 1 by omega) with rfl | rfl
          · have HN := Lib.hid (show val4 s0 s1 s2 s3 = numVal (l.take (k + 1)) by have := HV.out; omega)
            have M6 := Lib.hid ((M5.out.sub (rs' := [(w.heap.size + 1, a0, a1, a2, a3), (w.heap.size, 0, 0, 0, 0)]) (fun r h => List.mem_cons_of_mem _ (List.mem_cons_of_mem _ h))).put s0 s1 s2 s3 (by omega) (by simp))
            go_wp2_with fail
            go_roundw
            case rel => exact ⟨k + 1, s0, s1, s2, s3, by omega, by go_num, hs', HN, M6.out⟩
            case measure => first | (simp [intOf]; done) | (simp [intOf]; omega)
          · have HF := Lib.hid (HBig.out (by have h1 := HV.out; have h2 := HT.out; omega))
            go_wp2_with fail
            refine bodyPost_ret (v := .tuple #[.agg #[.int .u64 0, .int .u64 0, .int .u64 0, .int .u64 0], .int .i64 4]) (by simp [results, Tryd.results33, go_sem, *]) rfl ?_
            exact ⟨0, 0, 0, 0, 4, rfl, hz, HF.out.symm, below_set4 M5.out.1 (by omega) _ _ _ _⟩
        · have t1 : ((o : Int) != 0) = true := by simp; omega
          have HF := Lib.hid (HBig.out (by have h1 := HV.out; have h2 := HT.out; omega))
          clear h0
          go_wp2_with fail
          refine bodyPost_ret (v := .tuple #[.agg #[.int .u64 0, .int .u64 0, .int .u64 0, .int .u64 0], .int .i64 4]) (by simp [results, Tryd.results33, go_sem, *]) rfl ?_
          exact ⟨0, 0, 0, 0, 4, rfl, hz, HF.out.symm, below_set4 M5.out.1 (by omega) _ _ _ _⟩
    · obtain rfl : k = s.size := by omega
      have HF := Lib.hid (show (val4 a0 a1 a2 a3, 0) = parseV l by
        have e1 : numVal (l.take s.size) = numVal l := by rw [List.take_of_length_le (by rw [Hll.out]; exact Nat.le_refl _)]
        have e2 := ev.out.trans e1
        rw [HOk.out (by rw [← e2]; exact val4_lt ha), e2])
      clear ev
      go_wp2_with fail
      refine bodyPost_ret (v := .tuple #[.agg #[.int .u64 a0, .int .u64 a1, .int .u64 a2, .int .u64 a3], .int .i64 0]) (by simp [results, Tryd.results33, go_sem, *]) rfl ?_
      exact ⟨a0, a1, a2, a3, 0, rfl, ha, HF.out, below_set4 M.out.1 (by omega) _ _ _ _⟩
end Go.Proofs.YtopahcobdfdnlaaDoor
