/-
  The inverses of a list.
-/
import Derived.Test.YtalddekocfkbhaaInv0
import Derived.Test.YtalddekocfkbhaaInvNum
import Derived.Test.YtalddekocfkbhaaRoot
import Derived.Test.YtalddekocfkbhaaFRingA
import Derived.Test.YtalddekocfkbhaaTill
namespace Go.Proofs.Ytalddekocfkbhaa
set_option linter.unusedVariables false
set_option linter.unusedSimpArgs false
open Go.ChangeShapes Go.WideShapes Go.ChangeAt Go.RowKit

/-- element j of the list, as a number -/
def elA (A : Nat → Nat → Nat) (j : Nat) : Nat := val4 (A j 0) (A j 1) (A j 2) (A j 3)
/-- element j of a row of words -/
def elP (P : Nat → Nat) (j : Nat) : Nat := val4 (P (j * 4)) (P (j * 4 + 1)) (P (j * 4 + 2)) (P (j * 4 + 3))
def okP (P : Nat → Nat) (j : Nat) : Prop := ok4 (P (j * 4)) (P (j * 4 + 1)) (P (j * 4 + 2)) (P (j * 4 + 3))
def putP (P : Nat → Nat) (k q0 q1 q2 q3 : Nat) : Nat → Nat := upd (upd (upd (upd P (k * 4) q0) (k * 4 + 1) q1) (k * 4 + 2) q2) (k * 4 + 3) q3
theorem putP_same (P : Nat → Nat) (k q0 q1 q2 q3 : Nat) : elP (putP P k q0 q1 q2 q3) k = val4 q0 q1 q2 q3 ∧ (ok4 q0 q1 q2 q3 → okP (putP P k q0 q1 q2 q3) k) := by
  have e0 : putP P k q0 q1 q2 q3 (k * 4) = q0 := by unfold putP upd; rw [if_neg (by omega), if_neg (by omega), if_neg (by omega), if_pos rfl]
  have e1 : putP P k q0 q1 q2 q3 (k * 4 + 1) = q1 := by unfold putP upd; rw [if_neg (by omega), if_neg (by omega), if_pos rfl]
  have e2 : putP P k q0 q1 q2 q3 (k * 4 + 2) = q2 := by unfold putP upd; rw [if_neg (by omega), if_pos rfl]
  have e3 : putP P k q0 q1 q2 q3 (k * 4 + 3) = q3 := by unfold putP upd; rw [if_pos rfl]
  unfold elP okP
  rw [e0, e1, e2, e3]
  exact ⟨rfl, id⟩
theorem putP_other (P : Nat → Nat) (k q0 q1 q2 q3 j : Nat) (h : j ≠ k) : elP (putP P k q0 q1 q2 q3) j = elP P j ∧ (okP P j → okP (putP P k q0 q1 q2 q3) j) := by
  have e : ∀ i, i < 4 → putP P k q0 q1 q2 q3 (j * 4 + i) = P (j * 4 + i) := fun i hi => by
    unfold putP upd; rw [if_neg (by omega), if_neg (by omega), if_neg (by omega), if_neg (by omega)]
  have e0 : putP P k q0 q1 q2 q3 (j * 4) = P (j * 4) := e 0 (by omega)
  unfold elP okP
  rw [e0, e 1 (by omega), e 2 (by omega), e 3 (by omega)]
  exact ⟨rfl, id⟩
theorem RowIs.putP {w : World} {b n : Nat} {P : Nat → Nat} (h : RowIs w b (n * 4) P) {k : Nat} (hk : k < n) (q0 q1 q2 q3 : Nat) :
    RowIs ((((w.setCell ⟨b, k * 4, none⟩ (.int .u64 (q0 : Nat))).setCell ⟨b, k * 4 + 1, none⟩ (.int .u64 (q1 : Nat))).setCell ⟨b, k * 4 + 2, none⟩ (.int .u64 (q2 : Nat))).setCell ⟨b, k * 4 + 3, none⟩ (.int .u64 (q3 : Nat))) b (n * 4) (putP P k q0 q1 q2 q3) :=
  (((h.set (i := k * 4) (by omega) (v := q0)).set (i := k * 4 + 1) (by omega) (v := q1)).set (i := k * 4 + 2) (by omega) (v := q2)).set (i := k * 4 + 3) (by omega) (v := q3)

theorem Mem.poke {w wr : World} {rs : List (Nat × Nat × Nat × Nat × Nat)} (h : Mem w wr rs) {c i : Nat} (hw : w.heap.size ≤ c) (hne : ∀ r, r ∈ rs → r.1 ≠ c) (v : Value) : Mem w (wr.setCell ⟨c, i, none⟩ v) rs :=
  ⟨h.1.setCell (p := ⟨c, i, none⟩) hw v, fun r hr => ⟨by rw [World.size_setCell]; exact (h.2 r hr).1, (h.2 r hr).2.other (fun e => hne r hr e.symm) v⟩⟩
theorem ahead_next {F : FC} {E : Nat → Nat} {P : Nat → Nat} {k q0 q1 q2 q3 : Nat} (hq : ok4 q0 q1 q2 q3) (hv : val4 q0 q1 q2 q3 = kp F (prA F.M E k)) (h : ∀ j, j < k → okP P j ∧ elP P j = kp F (prA F.M E j)) :
    ∀ j, j < k + 1 → okP (putP P k q0 q1 q2 q3) j ∧ elP (putP P k q0 q1 q2 q3) j = kp F (prA F.M E j) := fun j hj => by
  by_cases e : j = k
  · subst e
    exact ⟨(putP_same P j q0 q1 q2 q3).2 hq, by rw [(putP_same P j q0 q1 q2 q3).1, hv]⟩
  · have := h j (by omega)
    exact ⟨(putP_other P k q0 q1 q2 q3 j e).2 this.1, by rw [(putP_other P k q0 q1 q2 q3 j e).1, this.2]⟩

theorem inv_step {F : FC} (hF : F.Ok) {gr : Nat} (hr : Root F.M gr) {E : Nat → Nat} {j : Nat} (hE : ∀ k, k ≤ j → E k < F.M) (hz : E j ≠ 0) : kp F (prA F.M E (j + 1) ^ (F.M - 2) * E j % F.M) = kp F (prA F.M E j ^ (F.M - 2)) := by
  have h2 : 2 ≤ F.M := by have := hF.gt; omega
  have hp := prA_ok hr h2 (E := E) (j := j) (fun k h => hE k (by omega))
  have e : prA F.M E (j + 1) = prA F.M E j * E j % F.M := by show (if E j = 0 then _ else _) = _; rw [if_neg hz]
  rw [e, inv_part hr h2 hp.1 hp.2 (by omega) (hE j (Nat.le_refl _)), kp_mod]
theorem inv_out {F : FC} (hF : F.Ok) {gr : Nat} (hr : Root F.M gr) {E : Nat → Nat} {j : Nat} (hE : ∀ k, k ≤ j → E k < F.M) (hz : E j ≠ 0) : prA F.M E (j + 1) ^ (F.M - 2) * prA F.M E j % F.M = E j ^ (F.M - 2) % F.M := by
  have h2 : 2 ≤ F.M := by have := hF.gt; omega
  have hp := prA_ok hr h2 (E := E) (j := j) (fun k h => hE k (by omega))
  have e : prA F.M E (j + 1) = E j * prA F.M E j % F.M := by show (if E j = 0 then _ else _) = _; rw [if_neg hz, Nat.mul_comm]
  rw [e, inv_part hr h2 (by omega) (hE j (Nat.le_refl _)) hp.1 hp.2]
theorem inv_zero {F : FC} (hF : F.Ok) {a : Nat} (hz : a = 0) : a ^ (F.M - 2) % F.M = 0 := by
  have := hF.gt
  subst hz
  rw [Nat.zero_pow (by omega), Nat.zero_mod]
/-- what a list's inverses are -/
def InvsPost (F : FC) (len : Nat) (A : Nat → Nat → Nat) (w : World) (e : Ending) (w' : World) : Prop :=
  ∃ (bo : Nat) (O : Nat → Nat), e = .returned (.slice (some ⟨bo, 0, none⟩) len len) ∧ w.heap.size ≤ bo ∧ bo < w'.heap.size ∧ RowIs w' bo (len * 4) O ∧ (∀ j, j < len → okP O j ∧ elP O j = elA A j ^ (F.M - 2) % F.M) ∧ Below w.heap.size w w'

set_option maxRecDepth 20000 in
set_option maxHeartbeats 4000000 in
theorem inverses_calls (F : FC) (hF : F.Ok) (gr : Nat) (hroot : Root F.M gr) (b g off len cap : Nat) (A : Nat → Nat → Nat) (hA : LOk len A) (hlA : ∀ j, j < len → elA A j < F.M) (hm : len ≤ 65536) (w : World) (hk : KIs w b F) (hg : 0 < len → g < w.heap.size) (hl : LAt w g off len A) :
    Calls Try.prog 80 #[.pointer (some ⟨b, 0, none⟩), .slice (some ⟨g, off, none⟩) len cap] w (InvsPost F len A w) := by
  obtain ⟨o, hmk, ho⟩ := makeK len hm
  obtain ⟨o2, hmk2, ho2⟩ := makeF len hm
  have HO2 := Lib.hid ho2
  clear ho2
  have R0 := Lib.hid (ho w _ rfl)
  have KW := Lib.hid hk
  have HRt := Lib.hid hroot
  clear hroot
  have HLA := Lib.hid hlA
  clear hlA
  have HK := Lib.hid (hk.same ((Below.refl _ _).alloc (Nat.le_refl _) o))
  have HL := Lib.hid hl
  have HG := Lib.hid hg
  clear hg
  have HA := Lib.hid hA
  have HF := Lib.hid hF
  clear hk hl hA hF ho
  go_enter Try.func80, Try.ntmps80
  go_wp2_with fail
  refine (one_calls F HF.out b _ HK.out).mono ?_
  rintro e w1 ⟨p0, p1, p2, p3, rfl, hp, hv, hbl⟩
  have R1 := Lib.hid (R0.out.below hbl (by simp))
  have K1 := Lib.hid (HK.out.same hbl)
  have B1 := Lib.hid ((Below.refl _ w).alloc (Nat.le_refl _) o |>.trans (hbl.mono (by simp)))
  have S1 : w.heap.size < w1.heap.size := by have := hbl.size; simp at this; omega
  have HV := Lib.hid hv
  clear hv hbl R0 HK
  go_wp2_with fail
  have M0 := Lib.hid (((Mem.nil w).on B1.out).new w1.heap.size p0 p1 p2 p3 83 rfl)
  have RA := Lib.hid (R1.out.alloc S1 (.cells #[.int .u64 p0, .int .u64 p1, .int .u64 p2, .int .u64 p3] 83))
  go_loopw [19] (fun t wr => ∃ (k q0 q1 q2 q3 : Nat) (P : Nat → Nat), k ≤ len ∧ t = .int .i64 k ∧ ok4 q0 q1 q2 q3 ∧ Hid (val4 q0 q1 q2 q3 = kp F (prA F.M (elA A) k)) ∧ Hid (RowIs wr w.heap.size (len * 4) P) ∧ Hid (∀ j, j < k → okP P j ∧ elP P j = kp F (prA F.M (elA A) j)) ∧ Hid (Mem w wr [(w1.heap.size, q0, q1, q2, q3)])) (fun t _ => len - (intOf t).toNat)
  case atStart => exact ⟨0, p0, p1, p2, p3, _, Nat.zero_le _, rfl, hp, HV, RA, Lib.hid (fun j h => absurd h (by omega)), M0⟩
  case round =>
    obtain ⟨k, q0, q1, q2, q3, P, hk, rfl, hq, HQ, RP, HP, HM⟩ := hrel
    clear RA M0 R1 K1 B1 HV
    by_cases hlt : k < len
    · obtain ⟨a0, a1, a2, a3, e0, e1, e2, e3⟩ : ∃ a0 a1 a2 a3 : Nat, a0 = A k 0 ∧ a1 = A k 1 ∧ a2 = A k 2 ∧ a3 = A k 3 := ⟨_, _, _, _, rfl, rfl, rfl, rfl⟩
      have hc := (HL.out.same HG.out HM.out.1) k hlt
      have hok := HA.out k hlt
      rw [← e0, ← e1, ← e2, ← e3] at hc hok
      have c0 := hc.1; have c1 := hc.2.1; have c2 := hc.2.2.1; have c3 := hc.2.2.2
      have HE := Lib.hid (show elA A k = val4 a0 a1 a2 a3 by unfold elA; rw [← e0, ← e1, ← e2, ← e3])
      have HO := Lib.hid hok
      clear e0 e1 e2 e3 hok hc
      have Rr := HM.out.row (b := w1.heap.size) (c0 := q0) (c1 := q1) (c2 := q2) (c3 := q3) (by simp)
      have x0 := Rr.c0; have x1 := Rr.c1; have x2 := Rr.c2; have x3 := Rr.c3
      have ltr := HM.out.lt (b := w1.heap.size) (c0 := q0) (c1 := q1) (c2 := q2) (c3 := q3) (by simp)
      have lta : w.heap.size < wr.heap.size := by omega
      have ltg : g < wr.heap.size := by have := HG.out (by omega); omega
      have i0 := RP.out.cell (i := k * 4) (by omega); have i1 := RP.out.cell (i := k * 4 + 1) (by omega); have i2 := RP.out.cell (i := k * 4 + 2) (by omega); have i3 := RP.out.cell (i := k * 4 + 3) (by omega)
      have f0 := RP.out.free (i := k * 4) (by omega); have f1 := RP.out.free (i := k * 4 + 1) (by omega); have f2 := RP.out.free (i := k * 4 + 2) (by omega); have f3 := RP.out.free (i := k * 4 + 3) (by omega)
      have ne1 : ¬ w.heap.size = w1.heap.size := by omega
      have ne1' : ¬ w1.heap.size = w.heap.size := by omega
      clear Rr
      have HN := Lib.hid (ahead_next hq HQ.out HP.out)
      have RPs := RP.out.putP hlt q0 q1 q2 q3
      have szs : ((((wr.setCell ⟨w.heap.size, k * 4, none⟩ (.int .u64 (q0 : Nat))).setCell ⟨w.heap.size, k * 4 + 1, none⟩ (.int .u64 (q1 : Nat))).setCell ⟨w.heap.size, k * 4 + 2, none⟩ (.int .u64 (q2 : Nat))).setCell ⟨w.heap.size, k * 4 + 3, none⟩ (.int .u64 (q3 : Nat))).heap.size = wr.heap.size := by simp only [World.size_setCell]
      have hne : ∀ r, r ∈ [(w1.heap.size, q0, q1, q2, q3)] → r.1 ≠ w.heap.size := by intro r hr; simp at hr; subst hr; exact ne1'
      have HMs := (((HM.out.poke (i := k * 4) (Nat.le_refl _) hne (.int .u64 (q0 : Nat))).poke (i := k * 4 + 1) (Nat.le_refl _) hne (.int .u64 (q1 : Nat))).poke (i := k * 4 + 2) (Nat.le_refl _) hne (.int .u64 (q2 : Nat))).poke (i := k * 4 + 3) (Nat.le_refl _) hne (.int .u64 (q3 : Nat))
      have RN := Lib.hid (RPs.alloc (by rw [szs]; exact lta) (.cells #[.int .u64 a0, .int .u64 a1, .int .u64 a2, .int .u64 a3] 25))
      have HMN := Lib.hid (HMs.new wr.heap.size a0 a1 a2 a3 25 szs.symm)
      clear RPs szs hne HMs
      by_cases hz : val4 a0 a1 a2 a3 = 0
      · have EQ := eqF_zero HO.out hz
        have HS := Lib.hid (show val4 q0 q1 q2 q3 = kp F (prA F.M (elA A) (k + 1)) by rw [HQ.out]; unfold prA; rw [if_pos (HE.out.trans hz)]; cases k <;> rfl)
        clear hz
        go_wp2_with fail
        go_roundw
        case rel => exact ⟨k + 1, q0, q1, q2, q3, _, by omega, by go_num, hq, HS, RN, HN, Lib.hid (HMN.out.sub (fun r hr => List.mem_cons_of_mem _ hr))⟩
        case measure => simp [intOf]; omega
      · have EQ := eqF_nz HO.out hz
        have HZ := Lib.hid hz
        clear hz
        go_wp2_with fail
        clear EQ c0 c1 c2 c3 x0 x1 x2 x3 i0 i1 i2 i3 f0 f1 f2 f3
        obtain ⟨W8, hW8⟩ : ∃ W8, W8 = (((((wr.setCell ⟨w.heap.size, k * 4, none⟩ (.int .u64 (q0 : Nat))).setCell ⟨w.heap.size, k * 4 + 1, none⟩ (.int .u64 (q1 : Nat))).setCell ⟨w.heap.size, k * 4 + 2, none⟩ (.int .u64 (q2 : Nat))).setCell ⟨w.heap.size, k * 4 + 3, none⟩ (.int .u64 (q3 : Nat))).alloc (.cells #[.int .u64 a0, .int .u64 a1, .int .u64 a2, .int .u64 a3] 25)) := ⟨_, rfl⟩
        rw [← hW8] at RN HMN ⊢
        have z8 : wr.heap.size < W8.heap.size := HMN.out.lt (b := wr.heap.size) (c0 := a0) (c1 := a1) (c2 := a2) (c3 := a3) (by simp)
        clear hW8
        refine region_till (fun wx => Below W8.heap.size W8 wx) 6 (by kernel_rfl) ?_
        have HS := below_drewN' W8.heap.size W8 1
        have HM8 := Lib.hid HS
        refine till_take (i := 0) (v := .pointer (some ⟨b, 0, none⟩)) rfl (by kernel_rfl) (by kernel_rfl) (by kernel_rfl) (by kernel_rfl) (fun _ _ _ h => h) HS (Or.inl ⟨by kernel_rfl, fun wx hx => ?_⟩) ?_
        · clear HS hx
          go_simp
        simp only [Act.put, List.setIfInBounds_toArray, List.set_cons_zero, List.set_cons_succ]
        refine till_take (i := 1) (v := .agg #[.int .u64 q0, .int .u64 q1, .int .u64 q2, .int .u64 q3]) rfl (by kernel_rfl) (by kernel_rfl) (by kernel_rfl) (by kernel_rfl) (fun _ _ _ h => h) HS (Or.inl ⟨by kernel_rfl, fun wx hx => ?_⟩) ?_
        · have hm := HMN.out.on hx
          have kr := hm.row (b := w1.heap.size) (c0 := q0) (c1 := q1) (c2 := q2) (c3 := q3) (by simp)
          have y0 := kr.c0; have y1 := kr.c1; have y2 := kr.c2; have y3 := kr.c3
          clear kr
          clear hm
          clear HS hx
          go_simp
        simp only [Act.put, List.setIfInBounds_toArray, List.set_cons_zero, List.set_cons_succ]
        refine till_take (i := 2) (v := .pointer (some ⟨b, 0, none⟩)) rfl (by kernel_rfl) (by kernel_rfl) (by kernel_rfl) (by kernel_rfl) (fun _ _ _ h => h) HS (Or.inl ⟨by kernel_rfl, fun wx hx => ?_⟩) ?_
        · clear HS hx
          go_simp
        simp only [Act.put, List.setIfInBounds_toArray, List.set_cons_zero, List.set_cons_succ]
        refine till_take (i := 3) (v := .agg #[.int .u64 a0, .int .u64 a1, .int .u64 a2, .int .u64 a3]) rfl (by kernel_rfl) (by kernel_rfl) (by kernel_rfl) (by kernel_rfl) (fun _ _ _ h => h) HS (Or.inl ⟨by kernel_rfl, fun wx hx => ?_⟩) ?_
        · have hm := HMN.out.on hx
          have kr := hm.row (b := wr.heap.size) (c0 := a0) (c1 := a1) (c2 := a2) (c3 := a3) (by simp)
          have y0 := kr.c0; have y1 := kr.c1; have y2 := kr.c2; have y3 := kr.c3
          clear kr
          clear hm
          clear HS hx
          go_simp
        simp only [Act.put, List.setIfInBounds_toArray, List.set_cons_zero, List.set_cons_succ]
        clear HS
        refine till_step (i := 4) (by kernel_rfl) rfl (fun K hK => ?_)
        go_simp
        refine (into_calls F HF.out b a0 a1 a2 a3 HO.out _ (KW.out.same (HMN.out.on HM8.out).1)).mono ?_
        rintro e w2 ⟨s0, s1, s2, s3, rfl, hs, hv, hbl⟩
        have HS := HM8.out.trans (hbl.mono HM8.out.size)
        clear HM8
        have HM8 := Lib.hid HS
        have HV := Lib.hid hv
        clear hv hbl
        refine hK.out _ _ (Or.inr HS) (fun _ => ?_)
        clear hK K
        clear HS
        refine till_step (i := 5) (by kernel_rfl) rfl (fun K hK => ?_)
        go_simp
        refine (times_calls F HF.out b q0 q1 q2 q3 s0 s1 s2 s3 hq hs (by rw [HV.out]; exact kp_lt HF.out _) _ (KW.out.same (HMN.out.on HM8.out).1)).mono ?_
        rintro e w3 ⟨t0, t1, t2, t3, rfl, ht, hv, hbl⟩
        have HS := HM8.out.trans (hbl.mono HM8.out.size)
        clear HM8
        have HM8 := Lib.hid HS
        have HT := Lib.hid (show val4 t0 t1 t2 t3 = kp F (prA F.M (elA A) (k + 1)) by
          rw [hv, HV.out, HQ.out, kp_times HF.out, ← HE.out]; show _ = kp F (if elA A k = 0 then _ else _); rw [if_neg (fun h => HZ.out (HE.out.symm.trans h))])
        clear hv hbl HV
        refine hK.out _ _ (Or.inr HS) (fun _ => ?_)
        clear hK K
        clear HS
        have M9 := Lib.hid ((HMN.out.on HM8.out).sub (rs' := [(w1.heap.size, q0, q1, q2, q3)]) (fun r hr => List.mem_cons_of_mem _ hr))
        have R9 := Lib.hid (RN.out.below HM8.out (by omega))
        have kr := M9.out.row (b := w1.heap.size) (c0 := q0) (c1 := q1) (c2 := q2) (c3 := q3) (by simp)
        have y0 := kr.c0; have y1 := kr.c1; have y2 := kr.c2; have y3 := kr.c3; have yf := kr.fr
        clear kr
        have lr : w1.heap.size < w3.heap.size := M9.out.lt (b := w1.heap.size) (c0 := q0) (c1 := q1) (c2 := q2) (c3 := q3) (by simp)
        clear RN HMN HM8
        refine till_step (i := 6) (by kernel_rfl) rfl (fun K hK => ?_)
        go_simp
        refine hK.out _ _ (Or.inl rfl) (fun _ => ?_)
        clear hK K
        refine till_done (by kernel_rfl) ?_
        go_wp2_with fail
        go_roundw
        case rel => exact ⟨k + 1, t0, t1, t2, t3, _, by omega, by go_num, ht, HT, Lib.hid ((((R9.out.other ne1' _).other ne1' _).other ne1' _).other ne1' _), HN, Lib.hid (M9.out.put t0 t1 t2 t3 (by omega) (fun r hr => by cases hr))⟩
        case measure => simp [intOf]; omega
    · obtain rfl : len = k := by omega
      obtain ⟨wo, rfl⟩ : ∃ wo, wo = wr := ⟨_, rfl⟩
      have Rr := HM.out.row (b := w1.heap.size) (c0 := q0) (c1 := q1) (c2 := q2) (c3 := q3) (by simp)
      have x0 := Rr.c0; have x1 := Rr.c1; have x2 := Rr.c2; have x3 := Rr.c3
      have ltr := HM.out.lt (b := w1.heap.size) (c0 := q0) (c1 := q1) (c2 := q2) (c3 := q3) (by simp)
      have lta : w.heap.size < wo.heap.size := by omega
      have M2 := Lib.hid (HM.out.on ((Below.refl _ _).alloc (Nat.le_refl _) o2))
      have R2 := Lib.hid (RP.out.alloc lta o2)
      have O2 := Lib.hid (HO2.out wo _ rfl)
      clear Rr hk hlt HO2
      go_wp2_with fail
      refine (inverted_calls F HF.out (prA F.M (elA A) len) b q0 q1 q2 q3 hq HQ.out _ (KW.out.same M2.out.1)).mono ?_
      rintro e w2 ⟨s0, s1, s2, s3, rfl, hs, hv, hbl⟩
      have sz2 : wo.heap.size < w2.heap.size := by have := hbl.size; simp at this; omega
      have HV := Lib.hid hv
      have M3 := Lib.hid (M2.out.on hbl)
      have R3 := Lib.hid (R2.out.below hbl (by simp; omega))
      have O3 := Lib.hid (O2.out.below hbl (by simp))
      clear hv hbl M2 R2 O2 x0 x1 x2 x3
      go_wp2_with fail
      have M4 := Lib.hid ((M3.out.new w2.heap.size s0 s1 s2 s3 83 rfl).sub (rs' := [(w2.heap.size, s0, s1, s2, s3)]) (fun r hr => by simp at hr; subst hr; simp))
      have R4 := Lib.hid (R3.out.alloc (by omega) (.cells #[.int .u64 s0, .int .u64 s1, .int .u64 s2, .int .u64 s3] 83))
      have O4 := Lib.hid (O3.out.alloc sz2 (.cells #[.int .u64 s0, .int .u64 s1, .int .u64 s2, .int .u64 s3] 83))
      clear M3 R3 O3 HM RP HQ
      go_loopw [11] (fun t wx => ∃ (m r0 r1 r2 r3 : Nat) (x : Int) (O : Nat → Nat), m ≤ len ∧ t = .int .i64 x ∧ Hid (x = (m : Int) - 1) ∧ ok4 r0 r1 r2 r3 ∧ Hid (val4 r0 r1 r2 r3 = kp F (prA F.M (elA A) m ^ (F.M - 2))) ∧ Hid (RowIs wx w.heap.size (len * 4) P) ∧ Hid (RowIs wx wo.heap.size (len * 4) O) ∧ Hid (∀ j, j < m → okP O j ∧ elP O j = 0) ∧ Hid (∀ j, m ≤ j → j < len → okP O j ∧ elP O j = elA A j ^ (F.M - 2) % F.M) ∧ Hid (Mem w wx [(w2.heap.size, r0, r1, r2, r3)])) (fun t _ => (intOf t + 1).toNat)
      case atStart => exact ⟨len, s0, s1, s2, s3, _, _, Nat.le_refl _, rfl, Lib.hid rfl, hs, HV, R4, O4, Lib.hid (fun j h => ⟨zok, rfl⟩), Lib.hid (fun j h1 h2 => absurd h2 (by omega)), M4⟩
      case round =>
        obtain ⟨m, r0, r1, r2, r3, x, O, hml, rfl, hx, hr, HR, RP, RO, HZ, HD, HM⟩ := hrel
        clear M4 R4 O4 HV
        have ltx := HM.out.lt (b := w2.heap.size) (c0 := r0) (c1 := r1) (c2 := r2) (c3 := r3) (by simp)
        have lto : wo.heap.size < wr.heap.size := by omega
        have lta' : w.heap.size < wr.heap.size := by omega
        rcases Nat.eq_zero_or_pos m with rfl | hmp
        · obtain rfl : x = -1 := by rw [hx.out]; rfl
          go_wp2_with fail
          go_ret
          exact ⟨wo.heap.size, O, rfl, by omega, lto, RO.out, fun j h => HD.out j (by omega) h, HM.out.1⟩
        · obtain ⟨j, rfl⟩ : ∃ j, m = j + 1 := ⟨m - 1, by omega⟩
          obtain rfl : x = (j : Int) := by rw [hx.out]; omega
          have hjl : j < len := by omega
          obtain ⟨a0, a1, a2, a3, e0, e1, e2, e3⟩ : ∃ a0 a1 a2 a3 : Nat, a0 = A j 0 ∧ a1 = A j 1 ∧ a2 = A j 2 ∧ a3 = A j 3 := ⟨_, _, _, _, rfl, rfl, rfl, rfl⟩
          have hc := (HL.out.same HG.out HM.out.1) j hjl
          have hok := HA.out j hjl
          rw [← e0, ← e1, ← e2, ← e3] at hc hok
          have c0 := hc.1; have c1 := hc.2.1; have c2 := hc.2.2.1; have c3 := hc.2.2.2
          have HE := Lib.hid (show elA A j = val4 a0 a1 a2 a3 by unfold elA; rw [← e0, ← e1, ← e2, ← e3])
          have HO := Lib.hid hok
          have HA4 := Lib.hid (And.intro e0 (And.intro e1 (And.intro e2 e3)))
          clear e0 e1 e2 e3 hok hc
          have ltg : g < wr.heap.size := by have := HG.out (by omega); omega
          have bjl : (j : Int) < (len : Int) := by omega
          by_cases hz : val4 a0 a1 a2 a3 = 0
          · have EQ := eqF_zero HO.out hz
            have HS := Lib.hid (show val4 r0 r1 r2 r3 = kp F (prA F.M (elA A) j ^ (F.M - 2)) by rw [HR.out]; show kp F ((if elA A j = 0 then _ else _) ^ _) = _; rw [if_pos (HE.out.trans hz)])
            have HZn := Lib.hid (fun i (h : i < j) => HZ.out i (Nat.lt_succ_of_lt h))
            have HDn := Lib.hid (show ∀ i, j ≤ i → i < len → okP O i ∧ elP O i = elA A i ^ (F.M - 2) % F.M from fun i h1 h2 => by
              by_cases e : i = j
              · subst e; exact ⟨(HZ.out i (by omega)).1, by rw [(HZ.out i (by omega)).2, inv_zero HF.out (HE.out.trans hz)]⟩
              · exact HD.out i (by omega) h2)
            clear hz
            go_wp2_with fail
            go_roundw
            case rel => exact ⟨j, r0, r1, r2, r3, _, O, by omega, rfl, Lib.hid (by omega), hr, HS, RP, RO, HZn, HDn, HM⟩
            case measure => simp [intOf] <;> omega
          · have EQ := eqF_nz HO.out hz
            have HZ' := Lib.hid hz
            clear hz
            go_wp2_with fail
            clear EQ c0 c1 c2 c3
            obtain ⟨h0, h1, h2, h3, g0, g1, g2, g3⟩ : ∃ h0 h1 h2 h3 : Nat, h0 = P (j * 4) ∧ h1 = P (j * 4 + 1) ∧ h2 = P (j * 4 + 2) ∧ h3 = P (j * 4 + 3) := ⟨_, _, _, _, rfl, rfl, rfl, rfl⟩
            have hh := (HP.out j hjl).1
            have eh := (HP.out j hjl).2
            unfold okP at hh
            unfold elP at eh
            rw [← g0, ← g1, ← g2, ← g3] at hh eh
            have HC := Lib.hid (show ∀ wx, Below wr.heap.size wr wx → wx.cell? ⟨w.heap.size, j * 4, none⟩ = some (.int .u64 (h0 : Nat)) ∧ wx.cell? ⟨w.heap.size, j * 4 + 1, none⟩ = some (.int .u64 (h1 : Nat)) ∧ wx.cell? ⟨w.heap.size, j * 4 + 2, none⟩ = some (.int .u64 (h2 : Nat)) ∧ wx.cell? ⟨w.heap.size, j * 4 + 3, none⟩ = some (.int .u64 (h3 : Nat)) from fun wx hx => by
              have q := RP.out.below hx lta'
              rw [g0, g1, g2, g3]
              exact ⟨q.cell (by omega), q.cell (by omega), q.cell (by omega), q.cell (by omega)⟩)
            have EH := Lib.hid eh
            have lh : Hid (val4 h0 h1 h2 h3 < F.M) := Lib.hid (by rw [eh]; exact kp_lt HF.out _)
            clear eh g0 g1 g2 g3
            refine region_till (fun wx => Below wr.heap.size wr wx) 12 (by kernel_rfl) ?_
            have HS := below_drewN' wr.heap.size wr 1
            have HB := Lib.hid HS
            refine till_take (i := 0) (v := .slice (some ⟨wo.heap.size, 0, none⟩) len len) rfl (by kernel_rfl) (by kernel_rfl) (by kernel_rfl) (by kernel_rfl) (fun _ _ _ h => h) HS (Or.inl ⟨by kernel_rfl, fun wx hx => ?_⟩) ?_
            · clear HS hx
              go_simp
            simp only [Act.put, List.setIfInBounds_toArray, List.set_cons_zero, List.set_cons_succ]
            refine till_take (i := 1) (v := .int .i64 (j : Nat)) rfl (by kernel_rfl) (by kernel_rfl) (by kernel_rfl) (by kernel_rfl) (fun _ _ _ h => h) HS (Or.inl ⟨by kernel_rfl, fun wx hx => ?_⟩) ?_
            · clear HS hx
              go_simp
            simp only [Act.put, List.setIfInBounds_toArray, List.set_cons_zero, List.set_cons_succ]
            refine till_take (i := 2) (v := .pointer (some ⟨b, 0, none⟩)) rfl (by kernel_rfl) (by kernel_rfl) (by kernel_rfl) (by kernel_rfl) (fun _ _ _ h => h) HS (Or.inl ⟨by kernel_rfl, fun wx hx => ?_⟩) ?_
            · clear HS hx
              go_simp
            simp only [Act.put, List.setIfInBounds_toArray, List.set_cons_zero, List.set_cons_succ]
            refine till_take (i := 3) (v := .pointer (some ⟨b, 0, none⟩)) rfl (by kernel_rfl) (by kernel_rfl) (by kernel_rfl) (by kernel_rfl) (fun _ _ _ h => h) HS (Or.inl ⟨by kernel_rfl, fun wx hx => ?_⟩) ?_
            · clear HS hx
              go_simp
            simp only [Act.put, List.setIfInBounds_toArray, List.set_cons_zero, List.set_cons_succ]
            refine till_take (i := 4) (v := .agg #[.int .u64 r0, .int .u64 r1, .int .u64 r2, .int .u64 r3]) rfl (by kernel_rfl) (by kernel_rfl) (by kernel_rfl) (by kernel_rfl) (fun _ _ _ h => h) HS (Or.inl ⟨by kernel_rfl, fun wx hx => ?_⟩) ?_
            · have hm := HM.out.on hx
              have kr := hm.row (b := w2.heap.size) (c0 := r0) (c1 := r1) (c2 := r2) (c3 := r3) (by simp)
              have y0 := kr.c0; have y1 := kr.c1; have y2 := kr.c2; have y3 := kr.c3
              clear kr
              clear hm
              clear HS hx
              go_simp
            simp only [Act.put, List.setIfInBounds_toArray, List.set_cons_zero, List.set_cons_succ]
            refine till_take (i := 5) (v := .slice (some ⟨w.heap.size, 0, none⟩) len len) rfl (by kernel_rfl) (by kernel_rfl) (by kernel_rfl) (by kernel_rfl) (fun _ _ _ h => h) HS (Or.inl ⟨by kernel_rfl, fun wx hx => ?_⟩) ?_
            · clear HS hx
              go_simp
            simp only [Act.put, List.setIfInBounds_toArray, List.set_cons_zero, List.set_cons_succ]
            refine till_take (i := 6) (v := .int .i64 (j : Nat)) rfl (by kernel_rfl) (by kernel_rfl) (by kernel_rfl) (by kernel_rfl) (fun _ _ _ h => h) HS (Or.inl ⟨by kernel_rfl, fun wx hx => ?_⟩) ?_
            · clear HS hx
              go_simp
            simp only [Act.put, List.setIfInBounds_toArray, List.set_cons_zero, List.set_cons_succ]
            refine till_take (i := 7) (v := .pointer (some ⟨w.heap.size, j * 4, none⟩)) rfl (by kernel_rfl) (by kernel_rfl) (by kernel_rfl) (by kernel_rfl) (fun _ _ _ h => h) HS (Or.inl ⟨by kernel_rfl, fun wx hx => ?_⟩) ?_
            · clear HS hx
              go_simp
            simp only [Act.put, List.setIfInBounds_toArray, List.set_cons_zero, List.set_cons_succ]
            refine till_take (i := 8) (v := .agg #[.int .u64 h0, .int .u64 h1, .int .u64 h2, .int .u64 h3]) rfl (by kernel_rfl) (by kernel_rfl) (by kernel_rfl) (by kernel_rfl) (fun _ _ _ h => h) HS (Or.inl ⟨by kernel_rfl, fun wx hx => ?_⟩) ?_
            · have hc := HC.out wx hx
              have y0 := hc.1; have y1 := hc.2.1; have y2 := hc.2.2.1; have y3 := hc.2.2.2
              clear hc
              clear HS hx
              go_simp
            simp only [Act.put, List.setIfInBounds_toArray, List.set_cons_zero, List.set_cons_succ]
            clear HS
            refine till_step (i := 9) (by kernel_rfl) rfl (fun K hK => ?_)
            go_simp
            refine (times_calls F HF.out b r0 r1 r2 r3 h0 h1 h2 h3 hr hh lh.out _ (KW.out.same (HM.out.on HB.out).1)).mono ?_
            rintro e w3 ⟨v0, v1, v2, v3, rfl, hvv, hv, hbl⟩
            have HS := HB.out.trans (hbl.mono HB.out.size)
            clear HB
            have HB := Lib.hid HS
            have HV := Lib.hid (show val4 v0 v1 v2 v3 = kp F (prA F.M (elA A) (j + 1) ^ (F.M - 2) * prA F.M (elA A) j % F.M) by rw [hv, HR.out, EH.out, kp_times HF.out])
            clear hv hbl
            refine hK.out _ _ (Or.inr HS) (fun _ => ?_)
            clear hK K
            clear HS
            refine till_step (i := 10) (by kernel_rfl) rfl (fun K hK => ?_)
            go_simp
            refine (out_calls F HF.out b v0 v1 v2 v3 hvv _ (KW.out.same (HM.out.on HB.out).1)).mono ?_
            rintro e w4 ⟨t0, t1, t2, t3, rfl, ht, hv, hbl⟩
            have HS := HB.out.trans (hbl.mono HB.out.size)
            clear HB
            have HB := Lib.hid HS
            have HT := Lib.hid (show val4 t0 t1 t2 t3 = elA A j ^ (F.M - 2) % F.M by
              rw [hv, HV.out, kp_out HF.out _ (Nat.mod_lt _ HF.out.pos)]
              exact inv_out HF.out HRt.out (fun i h => HLA.out i (by omega)) (fun h => HZ'.out (HE.out.symm.trans h)))
            clear hv hbl HV
            refine hK.out _ _ (Or.inr HS) (fun _ => ?_)
            clear hK K
            clear HS
            refine till_step (i := 11) (by kernel_rfl) rfl (fun K hK => ?_)
            go_simp
            refine hK.out _ _ (Or.inr HB.out) (fun _ => ?_)
            clear hK K
            have RO4 := Lib.hid (RO.out.below HB.out lto)
            have RP4 := Lib.hid (RP.out.below HB.out lta')
            have HM4 := Lib.hid (HM.out.on HB.out)
            have sz4 := HB.out.size
            have i0 := RO4.out.cell (i := j * 4) (by omega); have i1 := RO4.out.cell (i := j * 4 + 1) (by omega); have i2 := RO4.out.cell (i := j * 4 + 2) (by omega); have i3 := RO4.out.cell (i := j * 4 + 3) (by omega)
            have f0 := RO4.out.free (i := j * 4) (by omega); have f1 := RO4.out.free (i := j * 4 + 1) (by omega); have f2 := RO4.out.free (i := j * 4 + 2) (by omega); have f3 := RO4.out.free (i := j * 4 + 3) (by omega)
            have lo4 : wo.heap.size < w4.heap.size := by omega
            clear HC RO RP HM HB
            refine till_step (i := 12) (by kernel_rfl) rfl (fun K hK => ?_)
            go_simp
            refine hK.out _ _ (Or.inl rfl) (fun _ => ?_)
            clear hK K
            refine till_done (by kernel_rfl) ?_
            go_wp2_with fail
            clear i0 i1 i2 i3 f0 f1 f2 f3
            have HDn := Lib.hid (show ∀ i, j ≤ i → i < len → okP (putP O j t0 t1 t2 t3) i ∧ elP (putP O j t0 t1 t2 t3) i = elA A i ^ (F.M - 2) % F.M from fun i h1 h2 => by
              by_cases e : i = j
              · subst e; exact ⟨(putP_same O i t0 t1 t2 t3).2 ht, by rw [(putP_same O i t0 t1 t2 t3).1, HT.out]⟩
              · have q := HD.out i (by omega) h2
                exact ⟨(putP_other O j t0 t1 t2 t3 i e).2 q.1, by rw [(putP_other O j t0 t1 t2 t3 i e).1, q.2]⟩)
            have HZn := Lib.hid (show ∀ i, i < j → okP (putP O j t0 t1 t2 t3) i ∧ elP (putP O j t0 t1 t2 t3) i = 0 from fun i h1 => by
              have q := HZ.out i (by omega)
              exact ⟨(putP_other O j t0 t1 t2 t3 i (by omega)).2 q.1, by rw [(putP_other O j t0 t1 t2 t3 i (by omega)).1, q.2]⟩)
            have ne5 : wo.heap.size ≠ w.heap.size := by omega
            have ne6 : ∀ r, r ∈ [(w2.heap.size, r0, r1, r2, r3)] → r.1 ≠ wo.heap.size := by intro r hr; simp at hr; subst hr; show w2.heap.size ≠ _; omega
            have RO5 := Lib.hid (RO4.out.putP hjl t0 t1 t2 t3)
            have RP5 := Lib.hid ((((RP4.out.other (i := j * 4) ne5 (.int .u64 (t0 : Nat))).other (i := j * 4 + 1) ne5 (.int .u64 (t1 : Nat))).other (i := j * 4 + 2) ne5 (.int .u64 (t2 : Nat))).other (i := j * 4 + 3) ne5 (.int .u64 (t3 : Nat)))
            have HM5 := Lib.hid ((((HM4.out.poke (i := j * 4) (by omega) ne6 (.int .u64 (t0 : Nat))).poke (i := j * 4 + 1) (by omega) ne6 (.int .u64 (t1 : Nat))).poke (i := j * 4 + 2) (by omega) ne6 (.int .u64 (t2 : Nat))).poke (i := j * 4 + 3) (by omega) ne6 (.int .u64 (t3 : Nat)))
            obtain ⟨W5, hW5⟩ : ∃ W5, W5 = ((((w4.setCell ⟨wo.heap.size, j * 4, none⟩ (.int .u64 (t0 : Nat))).setCell ⟨wo.heap.size, j * 4 + 1, none⟩ (.int .u64 (t1 : Nat))).setCell ⟨wo.heap.size, j * 4 + 2, none⟩ (.int .u64 (t2 : Nat))).setCell ⟨wo.heap.size, j * 4 + 3, none⟩ (.int .u64 (t3 : Nat))) := ⟨_, rfl⟩
            rw [← hW5] at RO5 RP5 HM5 ⊢
            have lt5 : w2.heap.size < W5.heap.size := HM5.out.lt (b := w2.heap.size) (c0 := r0) (c1 := r1) (c2 := r2) (c3 := r3) (by simp)
            have lo5 : wo.heap.size < W5.heap.size := by omega
            have la5 : w.heap.size < W5.heap.size := by omega
            clear hW5 RO4 RP4 HM4 ne6 HT HZ HD HP lh EH
            have HC := Lib.hid (show ∀ wx, Below W5.heap.size W5 wx → wx.cell? ⟨g, off + j * 4, none⟩ = some (.int .u64 (a0 : Nat)) ∧ wx.cell? ⟨g, off + j * 4 + 1, none⟩ = some (.int .u64 (a1 : Nat)) ∧ wx.cell? ⟨g, off + j * 4 + 2, none⟩ = some (.int .u64 (a2 : Nat)) ∧ wx.cell? ⟨g, off + j * 4 + 3, none⟩ = some (.int .u64 (a3 : Nat)) from fun wx hx => by
              have q := (HL.out.same HG.out (HM5.out.on hx).1) j hjl
              rw [← HA4.out.1, ← HA4.out.2.1, ← HA4.out.2.2.1, ← HA4.out.2.2.2] at q
              exact q)
            refine region_till (fun wx => Below W5.heap.size W5 wx) 9 (by kernel_rfl) ?_
            have HS := below_drewN' W5.heap.size W5 1
            have HB := Lib.hid HS
            refine till_take (i := 0) (v := .pointer (some ⟨b, 0, none⟩)) rfl (by kernel_rfl) (by kernel_rfl) (by kernel_rfl) (by kernel_rfl) (fun _ _ _ h => h) HS (Or.inl ⟨by kernel_rfl, fun wx hx => ?_⟩) ?_
            · clear HS hx
              go_simp
            simp only [Act.put, List.setIfInBounds_toArray, List.set_cons_zero, List.set_cons_succ]
            refine till_take (i := 1) (v := .agg #[.int .u64 r0, .int .u64 r1, .int .u64 r2, .int .u64 r3]) rfl (by kernel_rfl) (by kernel_rfl) (by kernel_rfl) (by kernel_rfl) (fun _ _ _ h => h) HS (Or.inl ⟨by kernel_rfl, fun wx hx => ?_⟩) ?_
            · have hm := HM5.out.on hx
              have kr := hm.row (b := w2.heap.size) (c0 := r0) (c1 := r1) (c2 := r2) (c3 := r3) (by simp)
              have y0 := kr.c0; have y1 := kr.c1; have y2 := kr.c2; have y3 := kr.c3
              clear kr
              clear hm
              clear HS hx
              go_simp
            simp only [Act.put, List.setIfInBounds_toArray, List.set_cons_zero, List.set_cons_succ]
            refine till_take (i := 2) (v := .pointer (some ⟨b, 0, none⟩)) rfl (by kernel_rfl) (by kernel_rfl) (by kernel_rfl) (by kernel_rfl) (fun _ _ _ h => h) HS (Or.inl ⟨by kernel_rfl, fun wx hx => ?_⟩) ?_
            · clear HS hx
              go_simp
            simp only [Act.put, List.setIfInBounds_toArray, List.set_cons_zero, List.set_cons_succ]
            refine till_take (i := 3) (v := .slice (some ⟨g, off, none⟩) len cap) rfl (by kernel_rfl) (by kernel_rfl) (by kernel_rfl) (by kernel_rfl) (fun _ _ _ h => h) HS (Or.inl ⟨by kernel_rfl, fun wx hx => ?_⟩) ?_
            · clear HS hx
              go_simp
            simp only [Act.put, List.setIfInBounds_toArray, List.set_cons_zero, List.set_cons_succ]
            refine till_take (i := 4) (v := .int .i64 (j : Nat)) rfl (by kernel_rfl) (by kernel_rfl) (by kernel_rfl) (by kernel_rfl) (fun _ _ _ h => h) HS (Or.inl ⟨by kernel_rfl, fun wx hx => ?_⟩) ?_
            · clear HS hx
              go_simp
            simp only [Act.put, List.setIfInBounds_toArray, List.set_cons_zero, List.set_cons_succ]
            refine till_take (i := 5) (v := .pointer (some ⟨g, off + j * 4, none⟩)) rfl (by kernel_rfl) (by kernel_rfl) (by kernel_rfl) (by kernel_rfl) (fun _ _ _ h => h) HS (Or.inl ⟨by kernel_rfl, fun wx hx => ?_⟩) ?_
            · clear HS hx
              go_simp
            simp only [Act.put, List.setIfInBounds_toArray, List.set_cons_zero, List.set_cons_succ]
            refine till_take (i := 6) (v := .agg #[.int .u64 a0, .int .u64 a1, .int .u64 a2, .int .u64 a3]) rfl (by kernel_rfl) (by kernel_rfl) (by kernel_rfl) (by kernel_rfl) (fun _ _ _ h => h) HS (Or.inl ⟨by kernel_rfl, fun wx hx => ?_⟩) ?_
            · have hc := HC.out wx hx
              have y0 := hc.1; have y1 := hc.2.1; have y2 := hc.2.2.1; have y3 := hc.2.2.2
              clear hc
              clear HS hx
              go_simp
            simp only [Act.put, List.setIfInBounds_toArray, List.set_cons_zero, List.set_cons_succ]
            clear HS
            refine till_step (i := 7) (by kernel_rfl) rfl (fun K hK => ?_)
            go_simp
            refine (into_calls F HF.out b a0 a1 a2 a3 HO.out _ (KW.out.same (HM5.out.on HB.out).1)).mono ?_
            rintro e w6 ⟨s0, s1, s2, s3, rfl, hs, hv, hbl⟩
            have HS := HB.out.trans (hbl.mono HB.out.size)
            clear HB
            have HB := Lib.hid HS
            have HV := Lib.hid hv
            clear hv hbl
            refine hK.out _ _ (Or.inr HS) (fun _ => ?_)
            clear hK K
            clear HS
            refine till_step (i := 8) (by kernel_rfl) rfl (fun K hK => ?_)
            go_simp
            refine (times_calls F HF.out b r0 r1 r2 r3 s0 s1 s2 s3 hr hs (by rw [HV.out]; exact kp_lt HF.out _) _ (KW.out.same (HM5.out.on HB.out).1)).mono ?_
            rintro e w7 ⟨v0, v1, v2, v3, rfl, hvv, hv, hbl⟩
            have HS := HB.out.trans (hbl.mono HB.out.size)
            clear HB
            have HB := Lib.hid HS
            have HT := Lib.hid (show val4 v0 v1 v2 v3 = kp F (prA F.M (elA A) j ^ (F.M - 2)) by
              rw [hv, HV.out, HR.out, kp_times HF.out, ← HE.out]
              exact inv_step HF.out HRt.out (fun i h => HLA.out i (by omega)) (fun h => HZ'.out (HE.out.symm.trans h)))
            clear hv hbl HV
            refine hK.out _ _ (Or.inr HS) (fun _ => ?_)
            clear hK K
            clear HS
            have M9 := Lib.hid (HM5.out.on HB.out)
            have R9 := Lib.hid (RP5.out.below HB.out la5)
            have O9 := Lib.hid (RO5.out.below HB.out lo5)
            have kr := M9.out.row (b := w2.heap.size) (c0 := r0) (c1 := r1) (c2 := r2) (c3 := r3) (by simp)
            have y0 := kr.c0; have y1 := kr.c1; have y2 := kr.c2; have y3 := kr.c3; have yf := kr.fr
            clear kr
            have lr : w2.heap.size < w7.heap.size := M9.out.lt (b := w2.heap.size) (c0 := r0) (c1 := r1) (c2 := r2) (c3 := r3) (by simp)
            have nea : w2.heap.size ≠ w.heap.size := by omega
            have neo : w2.heap.size ≠ wo.heap.size := by omega
            clear HM5 RP5 RO5 HB HC
            refine till_step (i := 9) (by kernel_rfl) rfl (fun K hK => ?_)
            go_simp
            refine hK.out _ _ (Or.inl rfl) (fun _ => ?_)
            clear hK K
            refine till_done (by kernel_rfl) ?_
            go_wp2_with fail
            go_roundw
            case rel => exact ⟨j, v0, v1, v2, v3, _, _, by omega, rfl, Lib.hid (by omega), hvv, HT, Lib.hid ((((R9.out.other nea _).other nea _).other nea _).other nea _), Lib.hid ((((O9.out.other neo _).other neo _).other neo _).other neo _), HZn, HDn, Lib.hid (M9.out.put v0 v1 v2 v3 (by omega) (fun r hr => by cases hr))⟩
            case measure => simp [intOf] <;> omega
end Go.Proofs.Ytalddekocfkbhaa
