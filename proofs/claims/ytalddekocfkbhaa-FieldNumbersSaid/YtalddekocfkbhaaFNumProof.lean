/-
  As till_take of the region's laws, where the condition stands behind every operation: no last one. Of whatever program. Conditions: as the law says.
  The call of the reference's Bytes, which appends: for any number of four words, in any world. Conditions: each word below 2^64.
  The reference's Reduce, Bytes, Number and Read. Conditions: words below 2^64; bytes as they lie.
  THE STATEMENT FieldNumbers: for either field or none, any element, any two numbers, any bytes, any number: numbers are reduced as the page says, elements are 32 bytes, read strictly: the law answers true. Conditions: words below 2^64; the bytes as they lie, at most 2^47 of them.
  THE STATEMENT FieldNumbers, lifted: for any arguments the law answers true and its arguments read as they did. Conditions: the row's own.
-/
import Derived.Test.YtalddekocfkbhaaTill
import Derived.Test.YtalddekocfkbhaaBytes
import Derived.Laws.AppendOwn
import Derived.Laws.OwnMore
import Derived.Deep.LoopGhost
import Derived.Test.YtalddekocfkbhaaRef3
import Derived.Test.YtalddekocfkbhaaApi5
import Derived.Test.YtalddekocfkbhaaFRingA
import Derived.Laws.BytesArg
import Derived.Test.YtalddekocfkbhaaProofF
import Derived.SizedLaws
namespace Go.Proofs.Ytalddekocfkbhaa
set_option linter.unusedVariables false

section
variable {P : Program} {ops : Array Oper} {Q : Exit → Act → World → Prop} {md : Region.Mode} {S : World → Prop} {L : Nat}
theorem keep_first {i : Nat} {oi : Oper} {v : Value} (hi : ops[i]? = some oi) (hsel : ∀ (j : Nat) (o : Oper) cs b, ops[j]? = some o → o.op ≠ .select cs b)
    (hL : ops.size ≤ L) (hQ : ∀ c a w, Q (.panic c) (a.put oi.dst v) w → Q (.panic c) a w) :
    ∀ (m : Nat) (got : Array Bool) (a : Act) (w : World),
      (∀ j oj, ops[j]? = some oj → j ≠ i → got.getD j true = false → (∀ e ∈ oj.after, Region.binds md e = true → e.on ≠ i) → oi.apart ops oj = true) →
      i ∈ Region.ready md ops got → YieldsIf P ops S oi v a → S w →
      anyTill P md ops Q S L m (got.setIfInBounds i true) (a.put oi.dst v) w → anyTill P md ops Q S L (m + 1) got a w := by
  intro m
  induction m with
  | zero =>
    intro got a w _ hr hy hS H
    refine ⟨fun h => (by rw [h] at hr; cases hr), fun j hj => ?_⟩
    by_cases hji : j = i
    · subst hji; exact hy.wpOp hi hS ⟨.inr hS, H⟩
    · have := ready_mono hj hji
      rw [H.1] at this
      cases this
  | succ m ih =>
    intro got a w hfree hr hy hS H
    refine ⟨fun h => (by rw [h] at hr; cases hr), fun j hj => ?_⟩
    by_cases hji : j = i
    · subst hji; exact hy.wpOp hi hS ⟨.inr hS, H⟩
    · obtain ⟨hun, oj, hoj, hall⟩ := mem_ready.1 hj
      have hno : ∀ e ∈ oj.after, Region.binds md e = true → e.on ≠ i := fun e he hb heq => by
        have h1 := hall e he hb
        have h0 := (mem_ready.1 hr).1
        rw [heq] at h1
        rcases Nat.lt_or_ge i got.size with h' | h'
        · simp [h'] at h0 h1; rw [h0] at h1; cases h1
        · simp [Array.getElem?_eq_none h'] at h1
      have hjL : j ≠ L := fun e => by
        have := (Array.getElem?_eq_some_iff.1 hoj).1
        omega
      have h2 := wpOp_putIf hoj (hfree j oj hoj hji hun hno) (fun cs b => hsel i oi cs b hi) (fun cs b => hsel j oj cs b hoj) hQ hy (H.2 j (ready_mono hj hji))
      have hfree' : ∀ k ok, ops[k]? = some ok → k ≠ i → (got.setIfInBounds j true).getD k true = false →
          (∀ e ∈ ok.after, Region.binds md e = true → e.on ≠ i) → oi.apart ops ok = true := fun k ok hk hki hu hn => by
        refine hfree k ok hk hki ?_ hn
        by_cases hjk : j = k
        · subst hjk; exact hun
        · rw [getD_set_ne true hjk] at hu; exact hu
      refine wpOp_mono (fun b u h3 => ⟨h3.2.1, ih (got.setIfInBounds j true) b u hfree' (ready_mono hr (Ne.symm hji)) h3.1 (h3.2.1.resolve_left hjL) ?_⟩) h2
      rw [Array.setIfInBounds_comm _ _ hji]
      exact h3.2.2

theorem till_keep {i : Nat} {oi : Oper} {v : Value} {m : Nat} {got : Array Bool} {a : Act} {w : World} (hi : ops[i]? = some oi)
    (hs : Region.noSelect ops = true) (hf : Region.free md ops got i = true) (hr : (Region.ready md ops got).contains i = true) (hL : ops.size ≤ L)
    (hQ : ∀ c a w, Q (.panic c) (a.put oi.dst v) w → Q (.panic c) a w) (hS : S w) (hy : YieldsIf P ops S oi v a)
    (h : anyTill P md ops Q S L m (got.setIfInBounds i true) (a.put oi.dst v) w) : anyTill P md ops Q S L (m + 1) got a w :=
  keep_first hi (Region.noSelect_spec hs) hL hQ m got a w (Region.free_spec hi hf) (by simpa using hr) hy hS h
end
end Go.Proofs.Ytalddekocfkbhaa
namespace Go.Proofs.Ytalddekocfkbhaa
set_option linter.unusedVariables false
set_option linter.unusedSimpArgs false
open Go.RowKit

theorem u8_info : (Try.prog.info? 5).map (fun i => (i.zero, i.size, i.bytes)) = some (some (.int .u8 0), 1, 1) := by kernel_rfl
def bcells (A n : Nat) : List Value := (List.range n).map fun p => .int .u8 (byteAt A p : Nat)
theorem bcells_succ (A n : Nat) : bcells A (n + 1) = bcells A n ++ [.int .u8 (byteAt A n : Nat)] := by
  unfold bcells; rw [List.range_succ, List.map_append]; rfl
theorem bcells_len (A n : Nat) : (bcells A n).length = n := by unfold bcells; simp

theorem own_ge {w : World} {base : Nat} {e : TypeId} {size : Nat} {v : Value} {n : Nat} {xs : List Value} (h : w.ownsRow base e size v n xs) {k : Nat} (hk : v.ownBlock = some k) : base ≤ k := by
  obtain ⟨_, ⟨rfl, _⟩ | ⟨g, cap, cur, rfl, hg, _⟩⟩ := h
  · cases hk
  · cases hk; exact hg
theorem own_form {w : World} {base : Nat} {e : TypeId} {size : Nat} {v : Value} {n : Nat} {xs : List Value} (h : w.ownsRow base e size v n xs) (hn : 0 < n) : ∃ g cap, v = .slice (some ⟨g, 0, none⟩) n cap ∧ base ≤ g ∧ g < w.heap.size := by
  obtain ⟨_, ⟨_, h0⟩ | ⟨g, cap, cur, rfl, hg, hh, _⟩⟩ := h
  · omega
  · refine ⟨g, cap, rfl, hg, ?_⟩
    rcases Nat.lt_or_ge g w.heap.size with k | k
    · exact k
    · rw [Array.getElem?_eq_none k] at hh; cases hh
theorem own_cell {w : World} {base A g cap n : Nat} {e : TypeId} (h : w.ownsRow base e 1 (.slice (some ⟨g, 0, none⟩) n cap) n (bcells A n)) (k : Nat) (hk : k < n) : w.cell? ⟨g, k, none⟩ = some (.int .u8 (byteAt A k : Nat)) := by
  rw [h.cellAt k (by omega)]
  unfold bcells
  simp [hk]

end Go.Proofs.Ytalddekocfkbhaa
namespace Go.Proofs.Ytalddekocfkbhaa
set_option linter.unusedVariables false
set_option linter.unusedSimpArgs false
open Go.RowKit

theorem red_val {F : FC} (hF : F.Ok) (G : Nat) : G % F.M * val4 F.s0 F.s1 F.s2 F.s3 * F.Ri % F.M = G * 115792089237316195423570985008687907853269984665640564039457584007913129639936 % F.M := by
  rw [kp_into hF]
  unfold kp
  exact Nat.mod_mul_mod _ _ _
set_option maxRecDepth 100000 in
set_option maxHeartbeats 4000000 in
theorem rreduce_calls (f : Int) (F : FC) (hf : FieldIs f F) (g0 g1 g2 g3 l0 l1 l2 l3 : Nat) (hg : ok4 g0 g1 g2 g3) (hl : ok4 l0 l1 l2 l3) (w : World) :
    Calls Try.prog 33 #[.int .i64 f, .agg #[.int .u64 g0, .int .u64 g1, .int .u64 g2, .int .u64 g3], .agg #[.int .u64 l0, .int .u64 l1, .int .u64 l2, .int .u64 l3]] w (FePost ((val4 g0 g1 g2 g3 * 115792089237316195423570985008687907853269984665640564039457584007913129639936 + val4 l0 l1 l2 l3) % F.M) w) := by
  have hpos := hf.ok.pos
  go_enter Try.func33, Try.ntmps33
  go_wp2_with fail
  have HM := Lib.hid ((((Mem.nil w).new (w.heap.size) g0 g1 g2 g3 26 (by simp)).new (w.heap.size + 1) l0 l1 l2 l3 26 (by simp)).new (w.heap.size + 1 + 1) 0 0 0 0 25 (by simp))
  refine (down_calls f F hf g0 g1 g2 g3 hg _).mono ?_
  rintro e w1 ⟨x0, x1, x2, x3, rfl, hx, hv, hbl⟩
  have HVx := Lib.hid hv
  have HM' := Lib.hid (HM.out.on hbl)
  clear hv hbl
  clear HM
  have HM := HM'
  clear HM'
  go_wp2_with fail
  refine (rsquare_some f F hf _).mono ?_
  rintro e w2 ⟨rfl, hbl⟩
  have HM' := Lib.hid (HM.out.on hbl)
  clear hbl
  clear HM
  have HM := HM'
  clear HM'
  go_wp2_with fail
  refine (mont_calls f F hf x0 x1 x2 x3 F.s0 F.s1 F.s2 F.s3 hx hf.ok.oks (by rw [HVx.out]; exact Nat.mod_lt _ hpos) _).mono ?_
  rintro e w3 ⟨m0, m1, m2, m3, rfl, hm, hv, hbl⟩
  have HVm := Lib.hid (show val4 m0 m1 m2 m3 = val4 g0 g1 g2 g3 * 115792089237316195423570985008687907853269984665640564039457584007913129639936 % F.M by rw [hv, HVx.out]; exact red_val hf.ok _)
  have HM' := Lib.hid ((HM.out.on hbl).new w3.heap.size m0 m1 m2 m3 26 rfl)
  have ll : w.heap.size + 1 + 1 < w3.heap.size := (HM.out.on hbl).lt (b := w.heap.size + 1 + 1) (c0 := 0) (c1 := 0) (c2 := 0) (c3 := 0) (by simp)
  clear hv hbl
  clear HM
  have HM := HM'
  clear HM'
  have kr := HM.out.row (b := w.heap.size + 1) (c0 := l0) (c1 := l1) (c2 := l2) (c3 := l3) (by simp)
  have x0 := kr.c0; have x1 := kr.c1; have x2 := kr.c2; have x3 := kr.c3
  clear kr
  have xl := HM.out.lt (b := w.heap.size + 1) (c0 := l0) (c1 := l1) (c2 := l2) (c3 := l3) (by simp)
  go_wp2_with fail
  refine (radd_calls f F hf m0 m1 m2 m3 l0 l1 l2 l3 hm hl _).mono ?_
  rintro e w4 ⟨s0, s1, s2, s3, rfl, hs, hv, hbl⟩
  have HVs := Lib.hid (show val4 s0 s1 s2 s3 = (val4 g0 g1 g2 g3 * 115792089237316195423570985008687907853269984665640564039457584007913129639936 + val4 l0 l1 l2 l3) % F.M by rw [hv, HVm.out, Nat.mod_add_mod])
  have HM' := Lib.hid (HM.out.on hbl)
  clear hv hbl ll
  clear HM
  have HM := HM'
  clear HM'
  have kr := HM.out.row (b := w.heap.size + 1 + 1) (c0 := 0) (c1 := 0) (c2 := 0) (c3 := 0) (by simp)
  have y0 := kr.c0; have y1 := kr.c1; have y2 := kr.c2; have y3 := kr.c3; have yf := kr.fr
  clear kr
  have yl := HM.out.lt (b := w.heap.size + 1 + 1) (c0 := 0) (c1 := 0) (c2 := 0) (c3 := 0) (by simp)
  go_wp2_with fail
  refine bodyPost_ret (v := .agg #[.int .u64 s0, .int .u64 s1, .int .u64 s2, .int .u64 s3]) (by simp [results, Try.results33, go_sem, *]) rfl ?_
  refine ⟨_, _, _, _, rfl, hs, HVs.out, ?_⟩
  exact below_set4 HM.out.1 (by omega) _ _ _ _
set_option maxRecDepth 100000 in
set_option maxHeartbeats 4000000 in
theorem rbytes_calls (a0 a1 a2 a3 : Nat) (ha : ok4 a0 a1 a2 a3) (w : World) :
    Calls Try.prog 31 #[.agg #[.int .u64 a0, .int .u64 a1, .int .u64 a2, .int .u64 a3]] w fun e w' => ∃ b cap : Nat, e = .returned (.slice (some ⟨b, 0, none⟩) 32 cap) ∧ b < w'.heap.size ∧ (∀ k, k < 32 → w'.cell? ⟨b, k, none⟩ = some (.int .u8 (byteAt (val4 a0 a1 a2 a3) k : Nat))) ∧ Below w.heap.size w w' := by
  have hP := fn4_lt ha
  have HA := Lib.hid (val4_fn a0 a1 a2 a3)
  have HRow := Lib.hid (RowIs.mk w 25 [a0, a1, a2, a3] w.heap.size rfl)
  have HP := Lib.hid hP
  clear hP
  generalize fnOf [a0, a1, a2, a3] = P at *
  rw [HA.out]
  clear HA
  generalize hv : tot 18446744073709551616 P 4 = A
  have Hv := Lib.hid hv
  clear hv
  obtain ⟨i0, hi, hz0, hz1, hz2⟩ := info_parts u8_info
  go_enter Try.func31, Try.ntmps31
  go_wp2_with fail
  have HW0 := Lib.hid (show Below w.heap.size w (w.alloc (.cells #[.int .u64 a0, .int .u64 a1, .int .u64 a2, .int .u64 a3] 25)) ∧ RowIs (w.alloc (.cells #[.int .u64 a0, .int .u64 a1, .int .u64 a2, .int .u64 a3] 25)) w.heap.size 4 P ∧ (w.alloc (.cells #[.int .u64 a0, .int .u64 a1, .int .u64 a2, .int .u64 a3] 25)).heap.size = w.heap.size + 1 from ⟨(Below.refl _ _).alloc (Nat.le_refl _) _, HRow.out, by simp⟩)
  clear HRow
  generalize w.alloc (.cells #[.int .u64 a0, .int .u64 a1, .int .u64 a2, .int .u64 a3] 25) = W0 at HW0 ⊢
  go_loopw [3, 4] (fun v x wr => ∃ (q : Nat) (m : Int), q ≤ 32 ∧ Hid (m = 31 - (q : Int)) ∧ x = .int .i64 m ∧ wr.ownsRow (w.heap.size + 1) 5 1 v q (bcells A q) ∧ Below (w.heap.size + 1) W0 wr) (fun _ x _ => (intOf x + 1).toNat)
  case atStart => exact ⟨0, 31, by omega, Lib.hid (by omega), rfl, ⟨rfl, Or.inl ⟨rfl, rfl⟩⟩, Below.refl _ _⟩
  case round =>
    obtain ⟨q, m, hq, hm, rfl, hown, hb⟩ := hrel
    by_cases hlt : q < 32
    · obtain ⟨i, hi'⟩ : ∃ i : Nat, m = (i : Int) := ⟨31 - q, by have := hm.out; omega⟩
      subst hi'
      have hiq : i = 31 - q := by have := hm.out; omega
      have li : i < 32 := by omega
      obtain ⟨j, kk, sh, ej, ek, esh, lj, lk, lsh, eh⟩ : ∃ j kk sh : Nat, (i : Int) / 8 = (j : Int) ∧ (i : Int) % 8 = (kk : Int) ∧ (8 : Int) * (kk : Int) = (sh : Int) ∧ j < 4 ∧ kk < 8 ∧ sh ≤ 56 ∧ Hid (i = 8 * j + kk ∧ sh = 8 * kk) :=
        ⟨i / 8, i % 8, 8 * (i % 8), by omega, by omega, by omega, by omega, by omega, by omega, Lib.hid (by omega)⟩
      have cx := (HW0.out.2.1.below hb (by omega)).cell lj
      have lx := HP.out j
      have hby : P j / 2 ^ sh % 256 = byteAt A q := by
        rw [eh.out.2, word_byte P HP.out 4 j kk lj (by omega), Hv.out]
        unfold byteAt
        have := eh.out.1
        rw [show 8 * j + kk = 31 - q by omega]
      obtain ⟨t, e1, e2, lt⟩ := ex_byte lx hby
      have hbl := byteAt_lt A q
      have HS := Lib.hid (bcells_succ A q)
      generalize byteAt A q = b at *
      generalize P j = x at cx lx e1
      have HO := Lib.hid hown
      have HB := Lib.hid hb
      have hz : w.heap.size + 1 ≤ wr.heap.size := by have := hb.size; have := HW0.out.2.2; omega
      have t2 : decide ((0 : Int) ≤ (i : Int)) = true := decide_eq_true (by omega)
      have HI := Lib.hid hiq
      clear hown hb hm hby eh hiq
      go_wp2_with (at_builtin; refine wpList_append_own _ rfl _ _ 46 rfl (w.heap.size + 1) 5 i0 (.int .u8 0) 1 1 Try.underlying46 hi hz0 hz1 hz2 rfl (by decide) _ _ _ rfl (HO.out.alloc _) ⟨wr.heap.size, 0, none⟩ 1 1 [.int .u8 (b : Nat)] rfl rfl ?c1 ?c2 ?c3 ?c4 ?c5 ?_)
      case c1 =>
        intro j u hj
        match j, hj with
        | 0, hj => simp at hj; subst hj; simp [go_sem, Addr.add]
        | j + 1, hj => simp at hj
      case c2 => intro u hu; simp at hu; subst hu; rfl
      case c3 => unfold maxLen; omega
      case c4 => omega
      case c5 => simp; omega
      intro v' w1 hown1 hgrow hne
      have HO1 := Lib.hid (show w1.ownsRow (w.heap.size + 1) 5 1 v' (q + 1) (bcells A (q + 1)) by
        rw [HS.out]; exact hown1)
      have HB1 := Lib.hid ((HB.out.alloc (by have := HW0.out.2.2; have := HB.out.size; omega) _).grown hgrow (by simp; omega) (fun k hk => own_ge HO.out hk))
      clear hown1 hgrow hne
      go_wp2_with fail
      go_roundw
      case rel => exact ⟨q + 1, (i : Int) - 1, by omega, Lib.hid (by have := HI.out; omega), by first | rfl | go_num, HO1.out, HB1.out⟩
      case measure => first | (simp [intOf]; done) | (simp [intOf]; omega)
    · obtain rfl : q = 32 := by omega
      obtain rfl : m = -1 := by have := hm.out; omega
      obtain ⟨g, cap, hu, hg, lg⟩ := own_form hown (by omega)
      subst hu
      have HF := Lib.hid (fun k (hk : k < 32) => own_cell hown k hk)
      have HB := Lib.hid (HW0.out.1.trans (hb.mono (Nat.le_succ _)))
      clear hown hb hm
      go_wp2_with fail
      go_ret
      exact ⟨g, cap, rfl, lg, HF.out, HB.out⟩
theorem ex_or8 {x c d s : Nat} (hd : d < 256) (hs : s ≤ 56) (hx : x < 18446744073709551616) (e : Hid (x = c * 2 ^ (s + 8))) : ∃ u z : Nat, IntKind.u64.wrap ((d : Int) * 2 ^ s) = (u : Int) ∧ bits .or .u64 (x : Int) (u : Int) = (z : Int) ∧ u < 18446744073709551616 ∧ z < 18446744073709551616 ∧ Hid (z = x + d * 2 ^ s) := by
  have h0 : d * 2 ^ s < 2 ^ (s + 8) := by
    rw [Nat.pow_add, Nat.mul_comm (2 ^ s)]
    exact Nat.mul_lt_mul_of_pos_right hd (Nat.two_pow_pos s)
  have h1 : d * 2 ^ s < 18446744073709551616 := Nat.lt_of_lt_of_le h0 (by
    rw [show 18446744073709551616 = 2 ^ 64 by simp]
    exact Nat.pow_le_pow_right (by omega) (by omega))
  obtain ⟨z, e1, e2, e3⟩ := ex_or (p := s + 8) hx h1 (Lib.hid h0) (Lib.hid ⟨c, by rw [e.out, Nat.mul_comm]⟩)
  exact ⟨d * 2 ^ s, z, by rw [cast_mul_pow, wrap_in64 _ h1], e1, h1, e2, e3⟩
theorem hor_part {B : Nat → Nat} (k m s : Nat) (hm : m < 8) (hs : s = 8 * (7 - m)) : hor B (8 * k) m * 256 ^ (8 - m) = hor B (8 * k) m * 2 ^ (s + 8) ∧ hor B (8 * k) m * 256 ^ (8 - m) + B (8 * k + m) * 2 ^ s = hor B (8 * k) (m + 1) * 256 ^ (8 - (m + 1)) := by
  have e : (256 : Nat) = 2 ^ 8 := rfl
  have e1 : 256 ^ (8 - m) = 2 ^ (s + 8) := by rw [e, ← Nat.pow_mul]; congr 1; omega
  have e2 : 256 ^ (8 - (m + 1)) = 2 ^ s := by rw [e, ← Nat.pow_mul]; congr 1; omega
  refine ⟨by rw [e1], ?_⟩
  rw [e1, e2]
  show _ = (hor B (8 * k) m * 256 + B (8 * k + m)) * 2 ^ s
  rw [Nat.add_mul, Nat.pow_add, Nat.mul_assoc, Nat.mul_comm (2 ^ s)]
set_option maxRecDepth 100000 in
set_option maxHeartbeats 4000000 in
theorem rnumber_calls (g off cap : Nat) (B : Nat → Nat) (hB : ∀ k, B k < 256) (w : World) (hg : g < w.heap.size) (hc : ∀ k, k < 32 → w.cell? ⟨g, off + k, none⟩ = some (.int .u8 (B k : Nat))) :
    Calls Try.prog 76 #[.slice (some ⟨g, off, none⟩) 32 cap] w (FePost (hor B 0 32) w) := by
  have HC := Lib.hid hc
  have HB := Lib.hid hB
  have HH := Lib.hid (fun s n => hor_lt hB s n)
  clear hc hB
  go_enter Try.func76, Try.ntmps76
  go_wp2_with fail
  have R0 := Lib.hid (Row4.new (w.alloc (.cells #[.int .u64 0, .int .u64 0, .int .u64 0, .int .u64 0] 26)) 0 0 0 0 26).rows
  have Z0 := Lib.hid ((Row4.new w 0 0 0 0 26).alloc (by simp) (.cells #[.int .u64 0, .int .u64 0, .int .u64 0, .int .u64 0] 26))
  go_loopw [4] (fun x wr => ∃ (i : Nat) (P : Nat → Nat), i ≤ 32 ∧ x = .int .i64 i ∧ (∀ k, P k < 18446744073709551616) ∧ Hid (∀ k, k < 4 → P (3 - k) = hor B (8 * k) (min 8 (i - 8 * k)) * 256 ^ (8 - min 8 (i - 8 * k))) ∧ RowIs wr (w.heap.size + 1) 4 P ∧ Row4 wr w.heap.size 0 0 0 0 ∧ Below w.heap.size w wr ∧ w.heap.size + 1 < wr.heap.size) (fun x _ => 32 - (intOf x).toNat)
  case atStart =>
    refine ⟨0, fnOf [0, 0, 0, 0], by omega, rfl, fun k => fn4_lt ⟨by omega, by omega, by omega, by omega⟩ k, Lib.hid (fun k hk => ?_), by simpa using R0.out, Z0.out, ?_, by simp⟩
    · rw [Nat.zero_sub, Nat.min_zero, show hor B (8 * k) 0 = 0 from rfl, Nat.zero_mul]
      match k, hk with
      | 0, _ | 1, _ | 2, _ | 3, _ => rfl
    · exact ((Below.refl _ _).alloc (Nat.le_refl _) _).alloc (by simp) _
  case round =>
    obtain ⟨i, P, hi, rfl, lP, tP, rP, z0, hb, hz⟩ := hrel
    have HBl := Lib.hid hb
    have HZ := Lib.hid z0
    have HlP := Lib.hid lP
    have HR := Lib.hid rP
    by_cases hlt : i < 32
    · obtain ⟨r, q, mm, s, n1, n2, n3, n4, n5, lr, hq, lm, lsh, e⟩ : ∃ r q mm s : Nat, (32 : Int) - 1 = 31 ∧ (31 : Int) - (i : Int) = (r : Int) ∧ (r : Int) / 8 = (q : Int) ∧ (r : Int) % 8 = (mm : Int) ∧ (8 : Int) * (mm : Int) = (s : Int) ∧ r < 32 ∧ q < 4 ∧ mm < 8 ∧ s ≤ 56 ∧ Hid (r = 31 - i ∧ q = 3 - i / 8 ∧ mm = 7 - i % 8 ∧ s = 8 * (7 - i % 8)) :=
        ⟨31 - i, (31 - i) / 8, (31 - i) % 8, 8 * ((31 - i) % 8), by omega, by omega, by omega, by omega, by omega, by omega, by omega, by omega, by omega, Lib.hid ⟨rfl, by omega, by omega, by omega⟩⟩
      have cx := rP.cell hq
      have fx := rP.free hq
      have cb : wr.cell? ⟨g, off + i, none⟩ = some (.int .u8 (B i : Nat)) := (hb.cell (p := ⟨g, off + i, none⟩) hg).trans (HC.out i hlt)
      have lb := HB.out i
      have hpt := hor_part (B := B) (i / 8) (i % 8) s (by omega) e.out.2.2.2
      have ex : P q = hor B (8 * (i / 8)) (i % 8) * 256 ^ (8 - i % 8) := by
        have := tP.out (i / 8) (by omega)
        rw [show min 8 (i - 8 * (i / 8)) = i % 8 by omega, ← e.out.2.1] at this
        exact this
      have lx := lP q
      obtain ⟨u, z, e1, e2, lu, lz, ez⟩ := ex_or8 (x := P q) (d := B i) (s := s) (c := hor B (8 * (i / 8)) (i % 8)) lb lsh lx (Lib.hid (ex.trans hpt.1))
      have HN := Lib.hid (show ∀ k, k < 4 → upd P q z (3 - k) = hor B (8 * k) (min 8 (i + 1 - 8 * k)) * 256 ^ (8 - min 8 (i + 1 - 8 * k)) from fun k' hk' => by
        have k2 := e.out.2.1
        unfold upd
        by_cases h : k' = i / 8
        · subst h
          rw [if_pos k2.symm, show min 8 (i + 1 - 8 * (i / 8)) = i % 8 + 1 by omega, ez.out, ex, ← hpt.2, show 8 * (i / 8) + i % 8 = i by omega]
        · rw [if_neg (by omega), tP.out k' hk']
          rw [show min 8 (i + 1 - 8 * k') = min 8 (i - 8 * k') by omega])
      generalize P q = x at *
      generalize B i = b at *
      clear z0 hb rP lP tP e ez ex hpt
      go_wp2_with fail
      go_region
      go_wp2_with fail
      go_roundw
      case rel => exact ⟨i + 1, upd P q z, by omega, by go_num, fun k => by unfold upd; split; exact lz; exact HlP.out k, HN, (HR.out.drewN 1).set hq, (HZ.out.drewN 1).other (by omega) _, (HBl.out.drew).setCell (p := ⟨w.heap.size + 1, q, none⟩) (by simp) _, by show _ < (wr.setCell _ _).heap.size; rw [World.size_setCell]; exact hz⟩
      case measure => first | (simp [intOf]; done) | (simp [intOf]; omega)
    · obtain rfl : i = 32 := by omega
      have HF := Lib.hid (show val4 (P 0) (P 1) (P 2) (P 3) = hor B 0 32 by
        have h0 := tP.out 0 (by omega); have h1 := tP.out 1 (by omega); have h2 := tP.out 2 (by omega); have h3 := tP.out 3 (by omega)
        simp at h0 h1 h2 h3
        rw [h0, h1, h2, h3, hor_words])
      have c0 := rP.cell (show 0 < 4 by omega); have c1 := rP.cell (show 1 < 4 by omega); have c2 := rP.cell (show 2 < 4 by omega); have c3 := rP.cell (show 3 < 4 by omega)
      have k0 := z0.c0; have k1 := z0.c1; have k2 := z0.c2; have k3 := z0.c3; have kf := z0.fr
      have l0 := lP 0; have l1 := lP 1; have l2 := lP 2; have l3 := lP 3
      clear rP z0 hb lP tP
      go_wp2_with fail
      refine bodyPost_ret (v := .agg #[.int .u64 (P 0), .int .u64 (P 1), .int .u64 (P 2), .int .u64 (P 3)]) (by simp [results, Try.results76, go_sem, *]) rfl ?_
      exact ⟨P 0, P 1, P 2, P 3, rfl, ⟨l0, l1, l2, l3⟩, HF.out, below_set4 HBl.out (by omega) _ _ _ _⟩
set_option maxRecDepth 100000 in
set_option maxHeartbeats 4000000 in
theorem rofN_calls (n : Nat) (w : World) : Calls Try.prog 30 #[.int .u64 n] w fun e w' => e = .returned (.agg #[.int .u64 n, .int .u64 0, .int .u64 0, .int .u64 0]) ∧ Below w.heap.size w w' := by
  go_enter Try.func30, Try.ntmps30
  go_wp2_with fail
  refine bodyPost_ret (v := .agg #[.int .u64 n, .int .u64 0, .int .u64 0, .int .u64 0]) (by simp [results, Try.results30, go_sem]) rfl ?_
  refine ⟨rfl, ?_⟩
  repeat (first | exact Below.refl _ _ | refine Below.drew ?_ | refine Below.alloc ?_ (by first | (simp; done) | (simp; omega)) _ | refine Below.setCell ?_ (by simp) _)
set_option maxRecDepth 100000 in
set_option maxHeartbeats 4000000 in
theorem rread_none (f : Int) (h1 : f ≠ 1) (h2 : f ≠ 2) (o : Option Addr) (len cap : Nat) (w : World) :
    Calls Try.prog 27 #[.int .i64 f, .slice o len cap] w (FeE 1 0 w) := by
  go_enter Try.func27, Try.ntmps27
  go_wp2_with fail
  have HM := Lib.hid ((Mem.nil w).new (w.heap.size) 0 0 0 0 25 (by simp))
  refine (rfield_none f h1 h2 _).mono ?_
  rintro e w1 ⟨rfl, rfl⟩
  go_wp2_with fail
  refine bodyPost_ret (v := .tuple #[.agg #[.int .u64 (0 : Nat), .int .u64 (0 : Nat), .int .u64 (0 : Nat), .int .u64 (0 : Nat)], .int .i64 1]) (by simp [results, Try.results27, go_sem, *]) rfl ?_
  refine ⟨_, _, _, _, rfl, zok, rfl, ?_⟩
  exact HM.out.1
set_option maxRecDepth 100000 in
set_option maxHeartbeats 4000000 in
theorem rread_short (f : Int) (F : FC) (hf : FieldIs f F) (o : Option Addr) (len cap : Nat) (hl : len ≠ 32) (w : World) :
    Calls Try.prog 27 #[.int .i64 f, .slice o len cap] w (FeE 3 0 w) := by
  go_enter Try.func27, Try.ntmps27
  go_wp2_with fail
  have HM := Lib.hid ((Mem.nil w).new (w.heap.size) 0 0 0 0 25 (by simp))
  have t0 : ((len : Int) != 32) = true := by simp; omega
  refine (rfield_some f F hf _).mono ?_
  rintro e w1 ⟨rfl, rfl⟩
  go_wp2_with fail
  refine bodyPost_ret (v := .tuple #[.agg #[.int .u64 (0 : Nat), .int .u64 (0 : Nat), .int .u64 (0 : Nat), .int .u64 (0 : Nat)], .int .i64 3]) (by simp [results, Try.results27, go_sem, *]) rfl ?_
  refine ⟨_, _, _, _, rfl, zok, rfl, ?_⟩
  exact HM.out.1
set_option maxRecDepth 100000 in
set_option maxHeartbeats 4000000 in
theorem rread_big (f : Int) (F : FC) (hf : FieldIs f F) (g off cap : Nat) (B : Nat → Nat) (hB : ∀ k, B k < 256) (hlt : ¬ hor B 0 32 < F.M) (w : World) (hg : g < w.heap.size) (hc : ∀ k, k < 32 → w.cell? ⟨g, off + k, none⟩ = some (.int .u8 (B k : Nat))) :
    Calls Try.prog 27 #[.int .i64 f, .slice (some ⟨g, off, none⟩) 32 cap] w (FeE 21 0 w) := by
  have HC := Lib.hid hc
  have HLT := Lib.hid hlt
  have HBb := Lib.hid hB
  clear hc hlt hB
  go_enter Try.func27, Try.ntmps27
  go_wp2_with fail
  have HM := Lib.hid ((Mem.nil w).new (w.heap.size) 0 0 0 0 25 (by simp))
  refine (rfield_some f F hf _).mono ?_
  rintro e w1 ⟨rfl, rfl⟩
  go_wp2_with fail
  refine (rnumber_calls g off cap B HBb.out _ (by simp; omega) (fun k hk => (HM.out.1.cell (p := ⟨g, off + k, none⟩) hg).trans (HC.out k hk))).mono ?_
  rintro e w2 ⟨n0, n1, n2, n3, rfl, hn, hv, hbl⟩
  have HVn := Lib.hid hv
  have ll : w.heap.size < w2.heap.size := (HM.out.on hbl).lt (b := w.heap.size) (c0 := 0) (c1 := 0) (c2 := 0) (c3 := 0) (by simp)
  have HM' := Lib.hid ((HM.out.on hbl).new w2.heap.size n0 n1 n2 n3 25 rfl)
  clear hv hbl
  clear HM
  have HM := HM'
  clear HM'
  go_wp2_with fail
  refine (rbelow_calls f F hf n0 n1 n2 n3 hn _).mono ?_
  rintro e w3 ⟨rfl, hbl⟩
  have HI := (show isB (val4 n0 n1 n2 n3) F.M = false from decide_eq_false (by rw [HVn.out]; exact HLT.out))
  rw [HI]
  have HM' := Lib.hid (HM.out.on hbl)
  clear hbl HI
  clear HM
  have HM := HM'
  clear HM'
  have kr := HM.out.row (b := w.heap.size) (c0 := 0) (c1 := 0) (c2 := 0) (c3 := 0) (by simp)
  have y0 := kr.c0; have y1 := kr.c1; have y2 := kr.c2; have y3 := kr.c3; have yf := kr.fr
  clear kr
  have yl := HM.out.lt (b := w.heap.size) (c0 := 0) (c1 := 0) (c2 := 0) (c3 := 0) (by simp)
  clear ll
  go_wp2_with fail
  refine bodyPost_ret (v := .tuple #[.agg #[.int .u64 (0 : Nat), .int .u64 (0 : Nat), .int .u64 (0 : Nat), .int .u64 (0 : Nat)], .int .i64 21]) (by simp [results, Try.results27, go_sem, *]) rfl ?_
  refine ⟨_, _, _, _, rfl, zok, rfl, ?_⟩
  exact below_set4 HM.out.1 (Nat.le_refl _) 0 0 0 0
set_option maxRecDepth 100000 in
set_option maxHeartbeats 4000000 in
theorem rread_ok (f : Int) (F : FC) (hf : FieldIs f F) (g off cap : Nat) (B : Nat → Nat) (hB : ∀ k, B k < 256) (hlt : hor B 0 32 < F.M) (w : World) (hg : g < w.heap.size) (hc : ∀ k, k < 32 → w.cell? ⟨g, off + k, none⟩ = some (.int .u8 (B k : Nat))) :
    Calls Try.prog 27 #[.int .i64 f, .slice (some ⟨g, off, none⟩) 32 cap] w (FeE 0 (hor B 0 32) w) := by
  have HC := Lib.hid hc
  have HLT := Lib.hid hlt
  have HBb := Lib.hid hB
  clear hc hlt hB
  go_enter Try.func27, Try.ntmps27
  go_wp2_with fail
  have HM := Lib.hid ((Mem.nil w).new (w.heap.size) 0 0 0 0 25 (by simp))
  refine (rfield_some f F hf _).mono ?_
  rintro e w1 ⟨rfl, rfl⟩
  go_wp2_with fail
  refine (rnumber_calls g off cap B HBb.out _ (by simp; omega) (fun k hk => (HM.out.1.cell (p := ⟨g, off + k, none⟩) hg).trans (HC.out k hk))).mono ?_
  rintro e w2 ⟨n0, n1, n2, n3, rfl, hn, hv, hbl⟩
  have HVn := Lib.hid hv
  have ll : w.heap.size < w2.heap.size := (HM.out.on hbl).lt (b := w.heap.size) (c0 := 0) (c1 := 0) (c2 := 0) (c3 := 0) (by simp)
  have HM' := Lib.hid ((HM.out.on hbl).new w2.heap.size n0 n1 n2 n3 25 rfl)
  clear hv hbl
  clear HM
  have HM := HM'
  clear HM'
  go_wp2_with fail
  refine (rbelow_calls f F hf n0 n1 n2 n3 hn _).mono ?_
  rintro e w3 ⟨rfl, hbl⟩
  have HI := (show isB (val4 n0 n1 n2 n3) F.M = true from decide_eq_true (by rw [HVn.out]; exact HLT.out))
  rw [HI]
  have HM' := Lib.hid (HM.out.on hbl)
  clear hbl HI
  clear HM
  have HM := HM'
  clear HM'
  have kr := HM.out.row (b := w.heap.size) (c0 := 0) (c1 := 0) (c2 := 0) (c3 := 0) (by simp)
  have y0 := kr.c0; have y1 := kr.c1; have y2 := kr.c2; have y3 := kr.c3; have yf := kr.fr
  clear kr
  have yl := HM.out.lt (b := w.heap.size) (c0 := 0) (c1 := 0) (c2 := 0) (c3 := 0) (by simp)
  have kr := HM.out.row (b := w2.heap.size) (c0 := n0) (c1 := n1) (c2 := n2) (c3 := n3) (by simp)
  have x0 := kr.c0; have x1 := kr.c1; have x2 := kr.c2; have x3 := kr.c3
  clear kr
  have xl := HM.out.lt (b := w2.heap.size) (c0 := n0) (c1 := n1) (c2 := n2) (c3 := n3) (by simp)
  clear ll
  go_wp2_with fail
  refine bodyPost_ret (v := .tuple #[.agg #[.int .u64 n0, .int .u64 n1, .int .u64 n2, .int .u64 n3], .int .i64 0]) (by simp [results, Try.results27, go_sem, *]) rfl ?_
  refine ⟨_, _, _, _, rfl, hn, HVn.out, ?_⟩
  exact below_set4 HM.out.1 (Nat.le_refl _) _ _ _ _
end Go.Proofs.Ytalddekocfkbhaa
namespace Go.Proofs.Ytalddekocfkbhaa
set_option linter.unusedVariables false
set_option linter.unusedSimpArgs false
open Go.RowKit Go.WideShapes

/-- a slice of bytes in hand -/
def BIs (W : World) (o : Option Addr) (len : Nat) (B : Nat → Nat) : Prop := len ≤ 140737488351232 ∧ (∀ k, B k < 256) ∧ (0 < len → ∃ g off, o = some ⟨g, off, none⟩ ∧ g < W.heap.size ∧ ∀ k, k < len → W.cell? ⟨g, off + k, none⟩ = some (.int .u8 (B k : Nat)))
theorem BIs.on {W w : World} {o : Option Addr} {len : Nat} {B : Nat → Nat} (h : BIs W o len B) (hb : Below W.heap.size W w) : BIs w o len B := by
  refine ⟨h.1, h.2.1, fun hl => ?_⟩
  obtain ⟨g, off, e, hg, hc⟩ := h.2.2 hl
  exact ⟨g, off, e, Nat.lt_of_lt_of_le hg hb.size, fun k hk => (hb.cell (p := ⟨g, off + k, none⟩) hg).trans (hc k hk)⟩
theorem own_anyN {w : World} {base : Nat} {e : TypeId} {size : Nat} {v : Value} {n : Nat} {xs : List Value} (h : w.ownsRow base e size v n xs) :
    ∃ ao cap, v = .slice ao n cap ∧ (0 < n → ∃ g, ao = some ⟨g, 0, none⟩ ∧ base ≤ g ∧ g < w.heap.size ∧ ∀ k, k < n * size → w.cell? ⟨g, k, none⟩ = xs[k]?) := by
  obtain ⟨h1, h2⟩ := h
  rcases h2 with ⟨rfl, rfl⟩ | ⟨g, cap, cur, rfl, hg, hb, hr⟩
  · exact ⟨none, 0, rfl, fun h => absurd h (by omega)⟩
  · refine ⟨some ⟨g, 0, none⟩, cap, rfl, fun _ => ⟨g, rfl, hg, ?_, fun k hk => ?_⟩⟩
    · exact (World.ownsRow.lt ⟨h1, .inr ⟨g, cap, cur, rfl, hg, hb, hr⟩⟩ g rfl).2
    · exact World.ownsRow.cellAt (base := base) (e := e) (size := size) (cap := cap) ⟨h1, .inr ⟨g, cap, cur, rfl, hg, hb, hr⟩⟩ k hk
theorem conv_rowN {w : World} {b off cap : Nat} {B : Nat → Nat} (h : ∀ k, k < 32 → w.cell? ⟨b, off + k, none⟩ = some (.int .u8 (B k : Nat))) :
    (convert 46 9 (.slice (some ⟨b, off, none⟩) 32 cap)).run Try.prog w = .ok (.string (strOfNums ((List.range 32).map fun k => (B k : Int)))) w :=
  run_convert_bytes_arg (P := Try.prog) w 46 5 Try.underlying46 Try.underlying5 b off 32 cap _ (by simp) (fun i hi => by
    rw [h i hi]
    simp [List.getD, hi]) 9 Try.underlying9
theorem rd_both (f : Int) (F : FC) (hf : FieldIs f F) (W : World) (o ao : Option Addr) (len cap cap1 : Nat) (B : Nat → Nat) (h : BIs W o len B) (h1 : BIs W ao len B) :
    ∃ (c : Int) (V : Nat), (∀ w, Below W.heap.size W w → Calls Try.prog 26 #[.int .i64 f, .slice ao len cap1] w (FeE c V w)) ∧ (∀ w, Below W.heap.size W w → Calls Try.prog 27 #[.int .i64 f, .slice o len cap] w (FeE c V w)) := by
  by_cases hl : len = 32
  · subst hl
    obtain ⟨g, off, rfl, hg, hc⟩ := h.2.2 (by omega)
    obtain ⟨p, off1, rfl, hp, hc1⟩ := h1.2.2 (by omega)
    by_cases hlt : hor B 0 32 < F.M
    · exact ⟨0, hor B 0 32, fun w hb => fread_ok f F hf _ _ hlt w (readsF_32 w p off1 cap1 B h.2.1 (Nat.lt_of_lt_of_le hp hb.size) (fun k hk => (hb.cell (p := ⟨p, off1 + k, none⟩) hp).trans (hc1 k hk))), fun w hb => rread_ok f F hf g off cap B h.2.1 hlt w (Nat.lt_of_lt_of_le hg hb.size) (fun k hk => (hb.cell (p := ⟨g, off + k, none⟩) hg).trans (hc k hk))⟩
    · exact ⟨21, 0, fun w hb => fread_big f F hf _ _ hlt w (readsF_32 w p off1 cap1 B h.2.1 (Nat.lt_of_lt_of_le hp hb.size) (fun k hk => (hb.cell (p := ⟨p, off1 + k, none⟩) hp).trans (hc1 k hk))), fun w hb => rread_big f F hf g off cap B h.2.1 hlt w (Nat.lt_of_lt_of_le hg hb.size) (fun k hk => (hb.cell (p := ⟨g, off + k, none⟩) hg).trans (hc k hk))⟩
  · exact ⟨3, 0, fun w hb => fread_short f F hf _ 0 3 (by omega) w (readsF_short w ao len cap1 hl (by have := h.1; omega)), fun w hb => rread_short f F hf o len cap hl w⟩
theorem rd_none (f : Int) (h1 : f ≠ 1) (h2 : f ≠ 2) (W : World) (o ao : Option Addr) (len cap cap1 : Nat) :
    ∃ (c : Int) (V : Nat), (∀ w, Below W.heap.size W w → Calls Try.prog 26 #[.int .i64 f, .slice ao len cap1] w (FeE c V w)) ∧ (∀ w, Below W.heap.size W w → Calls Try.prog 27 #[.int .i64 f, .slice o len cap] w (FeE c V w)) :=
  ⟨1, 0, fun w _ => fread_none f _ h1 h2 w, fun w _ => rread_none f h1 h2 o len cap w⟩
theorem own_geN {w : World} {base : Nat} {e : TypeId} {size : Nat} {v : Value} {n : Nat} {xs : List Value} (h : w.ownsRow base e size v n xs) (k : Nat) (hk : v.ownBlock = some k) : base ≤ k := (World.ownsRow.lt h k hk).1
set_option maxRecDepth 100000 in
set_option maxHeartbeats 16000000 in
theorem numbers_ok (f : Int) (a0 a1 a2 a3 g0 g1 g2 g3 l0 l1 l2 l3 : Nat) (ha : ok4 a0 a1 a2 a3) (hg4 : ok4 g0 g1 g2 g3) (hl4 : ok4 l0 l1 l2 l3) (o : Option Addr) (len cap n : Nat) (hn64 : n < 18446744073709551616) (B : Nat → Nat) (F : FC) (hf : FieldIs f F) (la : val4 a0 a1 a2 a3 < F.M) (w : World) (hb : BIs w o len B) (ho : o = none → cap = 0) :
    Calls Try.prog 4 #[.int .i64 f, .agg #[.int .u64 a0, .int .u64 a1, .int .u64 a2, .int .u64 a3], .agg #[.int .u64 g0, .int .u64 g1, .int .u64 g2, .int .u64 g3], .agg #[.int .u64 l0, .int .u64 l1, .int .u64 l2, .int .u64 l3], .slice o len cap, .int .u64 n] w fun e w' => e = .returned (.bool true) ∧ Below w.heap.size w w' := by
  have hG := eqGuardF
  have hS := equalSelfF
  have hZ := eqF_zz
  have HB := Lib.hid hb
  clear hb
  obtain ⟨i8, hi8, h80, h81, h82⟩ := info_parts u8_info
  go_enter Try.func4, Try.ntmps4
  go_upto_region 2 with fail
  have HM := Lib.hid ((((Mem.nil w).new (w.heap.size) a0 a1 a2 a3 25 (by simp)).new (w.heap.size + 1) g0 g1 g2 g3 26 (by simp)).new (w.heap.size + 1 + 1) l0 l1 l2 l3 26 (by simp))
  go_cut [14] (fun s14 wx => ∃ ao cap1, s14 = .slice ao len cap1 ∧ Hid (BIs wx ao len B) ∧ Hid (Mem w wx [(w.heap.size + 1 + 1, l0, l1, l2, l3), (w.heap.size + 1, g0, g1, g2, g3), (w.heap.size, a0, a1, a2, a3)]))
  case first =>
    obtain ⟨hl47, hB, hcc⟩ := HB.out
    by_cases h0 : 0 < len
    · obtain ⟨g, off, rfl, hg, hc⟩ := hcc h0
      obtain ⟨Wa, hWa⟩ : ∃ Wa, Wa = ((((w.alloc (.cells #[.int .u64 a0, .int .u64 a1, .int .u64 a2, .int .u64 a3] 25)).alloc (.cells #[.int .u64 g0, .int .u64 g1, .int .u64 g2, .int .u64 g3] 26)).alloc (.cells #[.int .u64 l0, .int .u64 l1, .int .u64 l2, .int .u64 l3] 26))) := ⟨_, rfl⟩
      rw [← hWa] at HM ⊢
      clear hWa
      obtain ⟨nb, hnb⟩ : ∃ nb, nb = (List.range len).map fun k => Value.int .u8 (B k : Nat) := ⟨_, rfl⟩
      have NL := Lib.hid (show nb.length = len * 1 by rw [hnb]; simp)
      have NG := Lib.hid (show ∀ j, j < len → nb[j]? = some (Value.int .u8 (B j : Nat)) from fun j hj => by
        rw [hnb, List.getElem?_map, List.getElem?_range hj]
        rfl)
      have N1 := Lib.hid (show ∀ u ∈ nb, u.oneCell' = true from fun u hu => by
        rw [hnb] at hu
        obtain ⟨_, _, rfl⟩ := List.mem_map.1 hu
        rfl)
      have HC := Lib.hid hc
      clear hnb hc hcc
      go_wp2_with (at_builtin; refine wpList_append_own _ rfl _ _ 46 rfl (Wa.heap.size) 5 i8 (.int .u8 0) 1 1 Try.underlying46 hi8 h80 h81 h82 rfl (by decide) _ 0 [] rfl (World.ownsRow_lit Wa #[] 0 (Nat.le_refl _) (by decide) rfl) ⟨g, off, none⟩ len cap nb rfl NL.out ?c1 N1.out ?c3 ?c4 ?c5 ?_)
      case c1 =>
        intro j u hj
        have hj2 : j < len := by have h := (List.getElem?_eq_some_iff.1 hj).1; have := NL.out; omega
        have e : some u = some (Value.int .u8 (B j : Nat)) := hj.symm.trans (NG.out j hj2)
        obtain rfl := Option.some.inj e
        rw [add_plain]
        exact (((HM.out.1.alloc HM.out.1.size (.cells #[] 5)).cell (p := ⟨g, off + j, none⟩) hg).trans (HC.out j hj2))
      case c3 => unfold maxLen; omega
      case c4 => omega
      case c5 => simp
      intro v1 w1 hown hgrow hne
      have B1 := Lib.hid (((Below.refl Wa.heap.size Wa).alloc (Nat.le_refl _) (.cells #[] 5)).grown hgrow (by simp) (fun k hk => own_geN (World.ownsRow_lit (base := Wa.heap.size) (e := 5) (size := 1) Wa #[] 0 (Nat.le_refl _) (by decide) rfl) k hk))
      first | rw [Nat.zero_add] at hown | skip
      obtain ⟨ao, cap1, rfl, hp⟩ := own_anyN hown
      have HP := Lib.hid (show BIs w1 ao len B from ⟨hl47, hB, fun h => by
        obtain ⟨gp, e, _, lp, hpc⟩ := hp h
        refine ⟨gp, 0, e, lp, fun k hk => ?_⟩
        rw [Nat.zero_add, hpc k (by omega)]
        exact NG.out k hk⟩)
      have HM' := Lib.hid (HM.out.on B1.out)
      clear hown hgrow hne hp HM
      go_wp2_with fail
      go_meet
      exact ⟨ao, cap1, rfl, HP, HM'⟩
    · obtain rfl : len = 0 := by omega
      cases o with
      | none =>
        obtain rfl := ho rfl
        go_wp2_with fail
        go_meet
        exact ⟨_, _, rfl, Lib.hid ⟨by omega, hB, fun h => absurd h (by omega)⟩, Lib.hid (show Mem w _ [(w.heap.size + 1 + 1, l0, l1, l2, l3), (w.heap.size + 1, g0, g1, g2, g3), (w.heap.size, a0, a1, a2, a3)] from HM.out.on ((Below.refl _ _).alloc (Nat.le_refl _) (.cells #[] 5)))⟩
      | some ad =>
        obtain ⟨Wa, hWa⟩ : ∃ Wa, Wa = ((((w.alloc (.cells #[.int .u64 a0, .int .u64 a1, .int .u64 a2, .int .u64 a3] 25)).alloc (.cells #[.int .u64 g0, .int .u64 g1, .int .u64 g2, .int .u64 g3] 26)).alloc (.cells #[.int .u64 l0, .int .u64 l1, .int .u64 l2, .int .u64 l3] 26))) := ⟨_, rfl⟩
        rw [← hWa] at HM ⊢
        clear hWa
        go_wp2_with (at_builtin; refine wpList_append_own _ rfl _ _ 46 rfl (Wa.heap.size) 5 i8 (.int .u8 0) 1 1 Try.underlying46 hi8 h80 h81 h82 rfl (by decide) _ 0 [] rfl (World.ownsRow_lit Wa #[] 0 (Nat.le_refl _) (by decide) rfl) ad 0 cap [] rfl rfl (fun j u hj => by simp at hj) (fun u hu => by cases hu) (by decide) (by decide) ?c5 ?_)
        case c5 => simp
        intro v1 w1 hown hgrow hne
        have B1 := Lib.hid (((Below.refl Wa.heap.size Wa).alloc (Nat.le_refl _) (.cells #[] 5)).grown hgrow (by simp) (fun k hk => own_geN (World.ownsRow_lit (base := Wa.heap.size) (e := 5) (size := 1) Wa #[] 0 (Nat.le_refl _) (by decide) rfl) k hk))
        obtain ⟨ao, cap1, rfl, hp⟩ := own_anyN hown
        have HM' := Lib.hid (HM.out.on B1.out)
        clear hown hgrow hne hp HM
        go_wp2_with fail
        go_meet
        exact ⟨ao, cap1, rfl, Lib.hid ⟨by omega, hB, fun h => absurd h (by omega)⟩, HM'⟩
  case rest =>
    obtain ⟨ao, cap1, rfl, HP, HM⟩ := hcut
    obtain ⟨cr, Vr, rr1, rr2⟩ := rd_both f F hf wc o ao len cap cap1 B (HB.out.on HM.out.1) HP.out
    have RR1 := Lib.hid rr1
    have RR2 := Lib.hid rr2
    clear rr1 rr2
    have NC := Lib.hid (Mem.nil wc)
    have kr := HM.out.row (b := w.heap.size + 1) (c0 := g0) (c1 := g1) (c2 := g2) (c3 := g3) (by simp)
    have p0 := kr.c0; have p1 := kr.c1; have p2 := kr.c2; have p3 := kr.c3
    clear kr
    have pl := HM.out.lt (b := w.heap.size + 1) (c0 := g0) (c1 := g1) (c2 := g2) (c3 := g3) (by simp)
    have kr := HM.out.row (b := w.heap.size + 1 + 1) (c0 := l0) (c1 := l1) (c2 := l2) (c3 := l3) (by simp)
    have q0 := kr.c0; have q1 := kr.c1; have q2 := kr.c2; have q3 := kr.c3
    clear kr
    have ql := HM.out.lt (b := w.heap.size + 1 + 1) (c0 := l0) (c1 := l1) (c2 := l2) (c3 := l3) (by simp)
    go_wp2_with fail
    refine (freduce_ok f F hf g0 g1 g2 g3 l0 l1 l2 l3 hg4 hl4 _).mono ?_
    rintro e w1 ⟨x0, x1, x2, x3, rfl, hx, hv, hbl⟩
    have Vx := Lib.hid hv
    have NC' := Lib.hid (NC.out.on hbl)
    clear NC
    have NC := NC'
    clear NC'
    have NC' := Lib.hid ((NC.out.new w1.heap.size x0 x1 x2 x3 25 rfl).sub (rs' := []) (by simp))
    clear NC
    have NC := NC'
    clear NC'
    have HM' := Lib.hid ((HM.out.on hbl).new w1.heap.size x0 x1 x2 x3 25 rfl)
    clear hv hbl p0 p1 p2 p3 pl q0 q1 q2 q3 ql
    clear HM
    have HM := HM'
    clear HM'
    go_wp2_with fail
    refine (RR1.out _ NC.out.1).mono ?_
    rintro e w2 ⟨y0, y1, y2, y3, rfl, hy, hv, hbl⟩
    have Vy := Lib.hid hv
    have NC' := Lib.hid (NC.out.on hbl)
    clear NC
    have NC := NC'
    clear NC'
    have NC' := Lib.hid ((NC.out.new w2.heap.size y0 y1 y2 y3 25 rfl).sub (rs' := []) (by simp))
    clear NC
    have NC := NC'
    clear NC'
    have HM' := Lib.hid ((HM.out.on hbl).new w2.heap.size y0 y1 y2 y3 25 rfl)
    clear hv hbl
    clear HM
    have HM := HM'
    clear HM'
    go_wp2_with fail
    refine (RR2.out _ NC.out.1).mono ?_
    rintro e w3 ⟨z0, z1, z2, z3, rfl, hz, hv, hbl⟩
    obtain ⟨rfl, rfl, rfl, rfl⟩ := val4_inj hy hz (Vy.out.trans hv.symm)
    have NC' := Lib.hid (NC.out.on hbl)
    clear NC
    have NC := NC'
    clear NC'
    have NC' := Lib.hid ((NC.out.new w3.heap.size y0 y1 y2 y3 25 rfl).sub (rs' := []) (by simp))
    clear NC
    have NC := NC'
    clear NC'
    have HM' := Lib.hid ((HM.out.on hbl).new w3.heap.size y0 y1 y2 y3 25 rfl)
    clear hv hbl hz
    clear HM
    have HM := HM'
    clear HM'
    have kr := HM.out.row (b := w.heap.size) (c0 := a0) (c1 := a1) (c2 := a2) (c3 := a3) (by simp)
    have p0 := kr.c0; have p1 := kr.c1; have p2 := kr.c2; have p3 := kr.c3
    clear kr
    have pl := HM.out.lt (b := w.heap.size) (c0 := a0) (c1 := a1) (c2 := a2) (c3 := a3) (by simp)
    go_wp2_with fail
    refine (fbytes_ok f F hf a0 a1 a2 a3 ha la _).mono ?_
    rintro e w4 ⟨bt, rfl, ht1, ht2, ht3, hbl⟩
    have RT := Lib.hid ht3
    clear ht3
    have NC' := Lib.hid (NC.out.on hbl)
    clear NC
    have NC := NC'
    clear NC'
    have HM' := Lib.hid (HM.out.on hbl)
    clear hbl p0 p1 p2 p3 pl
    clear HM
    have HM := HM'
    clear HM'
    have kr := HM.out.row (b := w.heap.size) (c0 := a0) (c1 := a1) (c2 := a2) (c3 := a3) (by simp)
    have p0 := kr.c0; have p1 := kr.c1; have p2 := kr.c2; have p3 := kr.c3
    clear kr
    have pl := HM.out.lt (b := w.heap.size) (c0 := a0) (c1 := a1) (c2 := a2) (c3 := a3) (by simp)
    go_wp2_with fail
    refine (rcheck_ok f F hf a0 a1 a2 a3 ha la _).mono ?_
    rintro e w5 ⟨rfl, hbl⟩
    have RT' := Lib.hid (RT.out.below hbl ht2)
    have lt5 : bt < w5.heap.size := Nat.lt_of_lt_of_le ht2 hbl.size
    clear RT ht1 ht2
    have NC' := Lib.hid (NC.out.on hbl)
    clear NC
    have NC := NC'
    clear NC'
    have HM' := Lib.hid (HM.out.on hbl)
    clear hbl p0 p1 p2 p3 pl
    clear HM
    have HM := HM'
    clear HM'
    have HB5 := Lib.hid (HB.out.on HM.out.1)
    have HP5 := Lib.hid (HP.out.on NC.out.1)
    have hl47 := HB.out.1
    have N5 := Lib.hid (Mem.nil w5)
    go_wp2_with fail
    go_loopw [24] (fun t wr => ∃ (k : Nat), k ≤ len ∧ t = .int .i64 k ∧ Hid (Mem w5 wr [])) (fun t _ => len - (intOf t).toNat)
    case atStart => exact ⟨0, Nat.zero_le _, rfl, N5⟩
    case round =>
      obtain ⟨k, hk, rfl, N⟩ := hrel
      by_cases hlt : k < len
      · obtain ⟨gp, op, rfl, lp, hpc⟩ := HP5.out.2.2 (by omega)
        obtain ⟨gb, ob, rfl, lb, hbc⟩ := HB5.out.2.2 (by omega)
        have c0 := (N.out.1.cell (p := ⟨gp, op + k, none⟩) lp).trans (hpc k hlt)
        have c1 := (N.out.1.cell (p := ⟨gb, ob + k, none⟩) lb).trans (hbc k hlt)
        clear hpc hbc
        go_wp2_with fail
        go_region
        go_wp2_with fail
        go_roundw
        case rel => exact ⟨k + 1, by omega, by go_num, Lib.hid (show Mem w5 wr.drew [] from N.out.drewN 1)⟩
        case measure => simp [intOf]; omega
      · obtain rfl : len = k := by omega
        obtain ⟨wv, rfl⟩ : ∃ wv, wv = wr := ⟨_, rfl⟩
        have HM' := Lib.hid (HM.out.on N.out.1)
        clear HM
        have HM := HM'
        clear HM'
        have RTv := Lib.hid (RT'.out.below N.out.1 lt5)
        have ltv : bt < wv.heap.size := Nat.lt_of_lt_of_le lt5 N.out.1.size
        clear RT' lt5
        clear N N5 hk hlt HB5 HP5 NC
        have kr := HM.out.row (b := w2.heap.size) (c0 := y0) (c1 := y1) (c2 := y2) (c3 := y3) (by simp)
        have p0 := kr.c0; have p1 := kr.c1; have p2 := kr.c2; have p3 := kr.c3
        clear kr
        have pl := HM.out.lt (b := w2.heap.size) (c0 := y0) (c1 := y1) (c2 := y2) (c3 := y3) (by simp)
        have kr := HM.out.row (b := w3.heap.size) (c0 := y0) (c1 := y1) (c2 := y2) (c3 := y3) (by simp)
        have q0 := kr.c0; have q1 := kr.c1; have q2 := kr.c2; have q3 := kr.c3
        clear kr
        have ql := HM.out.lt (b := w3.heap.size) (c0 := y0) (c1 := y1) (c2 := y2) (c3 := y3) (by simp)
        go_wp2_with fail
        refine (num_calls _ _).mono ?_
        rintro e wn ⟨rfl, rfl⟩
        go_wp2_with fail
        refine (num_calls _ _).mono ?_
        rintro e wn ⟨rfl, rfl⟩
        go_wp2_with fail
        refine (of_calls n hn64 _).mono ?_
        rintro e w6 ⟨rfl, hbl⟩
        have HM' := Lib.hid (HM.out.on hbl)
        have RT' := Lib.hid (RTv.out.below hbl ltv)
        have lt6 : bt < w6.heap.size := Nat.lt_of_lt_of_le ltv hbl.size
        clear RTv ltv
        clear hbl p0 p1 p2 p3 pl q0 q1 q2 q3 ql
        clear HM
        have HM := HM'
        clear HM'
        go_wp2_with fail
        refine (rofN_calls n _).mono ?_
        rintro e w7 ⟨rfl, hbl⟩
        have HM' := Lib.hid (HM.out.on hbl)
        have RT7 := Lib.hid (RT'.out.below hbl lt6)
        have lt7 : bt < w7.heap.size := Nat.lt_of_lt_of_le lt6 hbl.size
        clear RT' lt6
        clear hbl
        clear HM
        have HM := HM'
        clear HM'
        have hSn : ∀ w, (Op.equalIn 10000 25 (.agg #[.int .u64 (n : Nat), .int .u64 0, .int .u64 0, .int .u64 0]) (.agg #[.int .u64 (n : Nat), .int .u64 0, .int .u64 0, .int .u64 0])).run Try.prog w = .ok true w := fun w => equalSelfF n 0 0 0 w
        go_wp2_with fail
        refine region_till (fun wx => Below w7.heap.size w7 wx) 99 (by kernel_rfl) ?_
        have HS := below_drewN' w7.heap.size w7 1
        obtain ⟨s, hs⟩ : ∃ s, s = strOfNums ((List.range 32).map fun k => (byteAt (val4 a0 a1 a2 a3) k : Int)) := ⟨_, rfl⟩
        have HSt := Lib.hid hs
        clear hs
        refine till_keep (i := 0) (v := .int .i64 0) rfl (by kernel_rfl) (by kernel_rfl) (by kernel_rfl) (Nat.le_of_ble_eq_true (by kernel_rfl)) (fun _ _ _ h => h) HS (Or.inl ⟨by kernel_rfl, fun wx hx => ?_⟩) ?_
        · clear HS hx
          go_simp
        simp only [Act.put, List.setIfInBounds_toArray, List.set_cons_zero, List.set_cons_succ]
        refine till_keep (i := 1) (v := .bool true) rfl (by kernel_rfl) (by kernel_rfl) (by kernel_rfl) (Nat.le_of_ble_eq_true (by kernel_rfl)) (fun _ _ _ h => h) HS (Or.inl ⟨by kernel_rfl, fun wx hx => ?_⟩) ?_
        · clear HS hx
          go_simp
        simp only [Act.put, List.setIfInBounds_toArray, List.set_cons_zero, List.set_cons_succ]
        refine till_keep (i := 2) (v := .bool true) rfl (by kernel_rfl) (by kernel_rfl) (by kernel_rfl) (Nat.le_of_ble_eq_true (by kernel_rfl)) (fun _ _ _ h => h) HS (Or.inl ⟨by kernel_rfl, fun wx hx => ?_⟩) ?_
        · clear HS hx
          go_simp
        simp only [Act.put, List.setIfInBounds_toArray, List.set_cons_zero, List.set_cons_succ]
        refine till_keep (i := 3) (v := .slice (some ⟨bt, 0, none⟩) 32 32) rfl (by kernel_rfl) (by kernel_rfl) (by kernel_rfl) (Nat.le_of_ble_eq_true (by kernel_rfl)) (fun _ _ _ h => h) HS (Or.inl ⟨by kernel_rfl, fun wx hx => ?_⟩) ?_
        · clear HS hx
          go_simp
        simp only [Act.put, List.setIfInBounds_toArray, List.set_cons_zero, List.set_cons_succ]
        refine till_keep (i := 4) (v := .string s) rfl (by kernel_rfl) (by kernel_rfl) (by kernel_rfl) (Nat.le_of_ble_eq_true (by kernel_rfl)) (fun _ _ _ h => h) HS (Or.inl ⟨by kernel_rfl, fun wx hx => ?_⟩) ?_
        · have hc1 : (convert 46 9 (.slice (some ⟨bt, 0, none⟩) 32 32)).run Try.prog wx = .ok (.string s) wx := by
            rw [HSt.out]
            refine conv_rowN (fun k hk => ?_)
            rw [Nat.zero_add]
            exact ((RT7.out.below hx lt7) k hk).1
          clear HS hx
          go_simp
        simp only [Act.put, List.setIfInBounds_toArray, List.set_cons_zero, List.set_cons_succ]
        refine till_keep (i := 5) (v := .agg #[.int .u64 a0, .int .u64 a1, .int .u64 a2, .int .u64 a3]) rfl (by kernel_rfl) (by kernel_rfl) (by kernel_rfl) (Nat.le_of_ble_eq_true (by kernel_rfl)) (fun _ _ _ h => h) HS (Or.inl ⟨by kernel_rfl, fun wx hx => ?_⟩) ?_
        · have kr := (HM.out.on hx).row (b := w.heap.size) (c0 := a0) (c1 := a1) (c2 := a2) (c3 := a3) (by simp)
          have x0' := kr.c0; have x1' := kr.c1; have x2' := kr.c2; have x3' := kr.c3
          clear kr
          clear HS hx
          go_simp
        simp only [Act.put, List.setIfInBounds_toArray, List.set_cons_zero, List.set_cons_succ]
        have H8 := Lib.hid HS
        clear HS
        refine till_step (i := 6) (by kernel_rfl) rfl (fun K hK => ?_)
        go_simp
        refine (rbytes_calls a0 a1 a2 a3 ha _).mono ?_
        rintro e w8 ⟨bq, capq, rfl, hq1, hq2, hbl⟩
        have HS := H8.out.trans (hbl.mono H8.out.size)
        have HQ := Lib.hid hq2
        clear H8 hbl hq2
        refine hK.out _ _ (Or.inr HS) (fun _ => ?_)
        clear hK K
        have HS' := Lib.hid HS
        clear HS
        have hc2 : (convert 46 9 (.slice (some ⟨bq, 0, none⟩) 32 capq)).run Try.prog w8 = .ok (.string s) w8 := by
          rw [HSt.out]
          refine conv_rowN (fun k hk => ?_)
          rw [Nat.zero_add]
          exact HQ.out k hk
        refine till_step (i := 7) (by kernel_rfl) rfl (fun K hK => ?_)
        go_simp
        have HS := HS'.out
        clear HS' hc2
        refine hK.out _ _ (Or.inr HS) (fun _ => ?_)
        clear hK K
        refine till_keep (i := 8) (v := .bool false) rfl (by kernel_rfl) (by kernel_rfl) (by kernel_rfl) (Nat.le_of_ble_eq_true (by kernel_rfl)) (fun _ _ _ h => h) HS (Or.inl ⟨by kernel_rfl, fun wx hx => ?_⟩) ?_
        · clear HS hx
          go_simp
        simp only [Act.put, List.setIfInBounds_toArray, List.set_cons_zero, List.set_cons_succ]
        refine till_keep (i := 9) (v := .bool false) rfl (by kernel_rfl) (by kernel_rfl) (by kernel_rfl) (Nat.le_of_ble_eq_true (by kernel_rfl)) (fun _ _ _ h => h) HS (Or.inl ⟨by kernel_rfl, fun wx hx => ?_⟩) ?_
        · clear HS hx
          go_simp
        simp only [Act.put, List.setIfInBounds_toArray, List.set_cons_zero, List.set_cons_succ]
        refine till_keep (i := 10) (v := .bool false) rfl (by kernel_rfl) (by kernel_rfl) (by kernel_rfl) (Nat.le_of_ble_eq_true (by kernel_rfl)) (fun _ _ _ h => h) HS (Or.inl ⟨by kernel_rfl, fun wx hx => ?_⟩) ?_
        · clear HS hx
          go_simp
        simp only [Act.put, List.setIfInBounds_toArray, List.set_cons_zero, List.set_cons_succ]
        refine till_keep (i := 11) (v := .int .i64 0) rfl (by kernel_rfl) (by kernel_rfl) (by kernel_rfl) (Nat.le_of_ble_eq_true (by kernel_rfl)) (fun _ _ _ h => h) HS (Or.inl ⟨by kernel_rfl, fun wx hx => ?_⟩) ?_
        · clear HS hx
          go_simp
        simp only [Act.put, List.setIfInBounds_toArray, List.set_cons_zero, List.set_cons_succ]
        refine till_keep (i := 12) (v := .bool false) rfl (by kernel_rfl) (by kernel_rfl) (by kernel_rfl) (Nat.le_of_ble_eq_true (by kernel_rfl)) (fun _ _ _ h => h) HS (Or.inl ⟨by kernel_rfl, fun wx hx => ?_⟩) ?_
        · clear HS hx
          go_simp
        simp only [Act.put, List.setIfInBounds_toArray, List.set_cons_zero, List.set_cons_succ]
        refine till_keep (i := 13) (v := .bool false) rfl (by kernel_rfl) (by kernel_rfl) (by kernel_rfl) (Nat.le_of_ble_eq_true (by kernel_rfl)) (fun _ _ _ h => h) HS (Or.inl ⟨by kernel_rfl, fun wx hx => ?_⟩) ?_
        · clear HS hx
          go_simp
        simp only [Act.put, List.setIfInBounds_toArray, List.set_cons_zero, List.set_cons_succ]
        refine till_keep (i := 14) (v := undef) rfl (by kernel_rfl) (by kernel_rfl) (by kernel_rfl) (Nat.le_of_ble_eq_true (by kernel_rfl)) (fun _ _ _ h => h) HS (Or.inr ⟨by kernel_rfl, rfl⟩) ?_
        simp only [Act.put, List.setIfInBounds_toArray, List.set_cons_zero, List.set_cons_succ]
        refine till_keep (i := 15) (v := undef) rfl (by kernel_rfl) (by kernel_rfl) (by kernel_rfl) (Nat.le_of_ble_eq_true (by kernel_rfl)) (fun _ _ _ h => h) HS (Or.inr ⟨by kernel_rfl, rfl⟩) ?_
        simp only [Act.put, List.setIfInBounds_toArray, List.set_cons_zero, List.set_cons_succ]
        refine till_keep (i := 16) (v := undef) rfl (by kernel_rfl) (by kernel_rfl) (by kernel_rfl) (Nat.le_of_ble_eq_true (by kernel_rfl)) (fun _ _ _ h => h) HS (Or.inr ⟨by kernel_rfl, rfl⟩) ?_
        simp only [Act.put, List.setIfInBounds_toArray, List.set_cons_zero, List.set_cons_succ]
        refine till_keep (i := 17) (v := .bool false) rfl (by kernel_rfl) (by kernel_rfl) (by kernel_rfl) (Nat.le_of_ble_eq_true (by kernel_rfl)) (fun _ _ _ h => h) HS (Or.inl ⟨by kernel_rfl, fun wx hx => ?_⟩) ?_
        · clear HS hx
          go_simp
        simp only [Act.put, List.setIfInBounds_toArray, List.set_cons_zero, List.set_cons_succ]
        have HS' := HS
        clear HS
        refine till_step (i := 18) (by kernel_rfl) rfl (fun K hK => ?_)
        go_simp
        refine hK.out _ _ (Or.inr HS') (fun _ => ?_)
        clear hK K
        refine till_done (by kernel_rfl) ?_
        have HM' := Lib.hid (HM.out.on HS')
        clear HS'
        clear HM
        have HM := HM'
        clear HM'
        go_wp2_with fail
        refine (rfield_some f F hf _).mono ?_
        rintro e wf ⟨rfl, rfl⟩
        go_wp2_with fail
        refine region_till (fun wx => Mem w wx [(w3.heap.size, y0, y1, y2, y3), (w2.heap.size, y0, y1, y2, y3), (w1.heap.size, x0, x1, x2, x3), (w.heap.size + 1 + 1, l0, l1, l2, l3), (w.heap.size + 1, g0, g1, g2, g3), (w.heap.size, a0, a1, a2, a3)]) 99 (by kernel_rfl) ?_
        have HM' := Lib.hid (HM.out.drewN 1)
        clear HM
        have HM := HM'
        clear HM'
        have HS := HM.out.sub (rs' := [(w3.heap.size, y0, y1, y2, y3), (w2.heap.size, y0, y1, y2, y3), (w1.heap.size, x0, x1, x2, x3), (w.heap.size + 1 + 1, l0, l1, l2, l3), (w.heap.size + 1, g0, g1, g2, g3), (w.heap.size, a0, a1, a2, a3)]) (by simp)
        refine till_keep (i := 0) (v := .agg #[.int .u64 x0, .int .u64 x1, .int .u64 x2, .int .u64 x3]) rfl (by kernel_rfl) (by kernel_rfl) (by kernel_rfl) (Nat.le_of_ble_eq_true (by kernel_rfl)) (fun _ _ _ h => h) HS (Or.inl ⟨by kernel_rfl, fun wx hx => ?_⟩) ?_
        · have kr := hx.row (b := w1.heap.size) (c0 := x0) (c1 := x1) (c2 := x2) (c3 := x3) (by simp)
          have x0' := kr.c0; have x1' := kr.c1; have x2' := kr.c2; have x3' := kr.c3
          clear kr HS hx
          go_simp
        simp only [Act.put, List.setIfInBounds_toArray, List.set_cons_zero, List.set_cons_succ]
        refine till_keep (i := 1) (v := .int .i64 f) rfl (by kernel_rfl) (by kernel_rfl) (by kernel_rfl) (Nat.le_of_ble_eq_true (by kernel_rfl)) (fun _ _ _ h => h) HS (Or.inl ⟨by kernel_rfl, fun wx hx => ?_⟩) ?_
        · clear HS hx
          go_simp
        simp only [Act.put, List.setIfInBounds_toArray, List.set_cons_zero, List.set_cons_succ]
        refine till_keep (i := 2) (v := .agg #[.int .u64 g0, .int .u64 g1, .int .u64 g2, .int .u64 g3]) rfl (by kernel_rfl) (by kernel_rfl) (by kernel_rfl) (Nat.le_of_ble_eq_true (by kernel_rfl)) (fun _ _ _ h => h) HS (Or.inl ⟨by kernel_rfl, fun wx hx => ?_⟩) ?_
        · have kr := hx.row (b := w.heap.size + 1) (c0 := g0) (c1 := g1) (c2 := g2) (c3 := g3) (by simp)
          have x0' := kr.c0; have x1' := kr.c1; have x2' := kr.c2; have x3' := kr.c3
          clear kr HS hx
          go_simp
        simp only [Act.put, List.setIfInBounds_toArray, List.set_cons_zero, List.set_cons_succ]
        refine till_keep (i := 3) (v := .agg #[.int .u64 l0, .int .u64 l1, .int .u64 l2, .int .u64 l3]) rfl (by kernel_rfl) (by kernel_rfl) (by kernel_rfl) (Nat.le_of_ble_eq_true (by kernel_rfl)) (fun _ _ _ h => h) HS (Or.inl ⟨by kernel_rfl, fun wx hx => ?_⟩) ?_
        · have kr := hx.row (b := w.heap.size + 1 + 1) (c0 := l0) (c1 := l1) (c2 := l2) (c3 := l3) (by simp)
          have x0' := kr.c0; have x1' := kr.c1; have x2' := kr.c2; have x3' := kr.c3
          clear kr HS hx
          go_simp
        simp only [Act.put, List.setIfInBounds_toArray, List.set_cons_zero, List.set_cons_succ]
        clear HS
        refine till_step (i := 4) (by kernel_rfl) rfl (fun K hK => ?_)
        go_simp
        refine (rreduce_calls f F hf g0 g1 g2 g3 l0 l1 l2 l3 hg4 hl4 _).mono ?_
        rintro e wq ⟨q0, q1, q2, q3, rfl, hq, hv, hbl⟩
        obtain ⟨rfl, rfl, rfl, rfl⟩ := val4_inj hx hq (Vx.out.trans hv.symm)
        clear hv hq
        have HM' := Lib.hid (HM.out.on hbl)
        clear HM hbl
        have HM := HM'
        clear HM'
        have HS := HM.out.sub (rs' := [(w3.heap.size, y0, y1, y2, y3), (w2.heap.size, y0, y1, y2, y3), (w1.heap.size, x0, x1, x2, x3), (w.heap.size + 1 + 1, l0, l1, l2, l3), (w.heap.size + 1, g0, g1, g2, g3), (w.heap.size, a0, a1, a2, a3)]) (by simp)
        refine hK.out _ _ (Or.inr HS) (fun _ => ?_)
        clear hK K
        refine till_keep (i := 5) (v := .bool true) rfl (by kernel_rfl) (by kernel_rfl) (by kernel_rfl) (Nat.le_of_ble_eq_true (by kernel_rfl)) (fun _ _ _ h => h) HS (Or.inl ⟨by kernel_rfl, fun wx hx => ?_⟩) ?_
        · clear HS hx
          go_simp
        simp only [Act.put, List.setIfInBounds_toArray, List.set_cons_zero, List.set_cons_succ]
        refine till_keep (i := 6) (v := .bool true) rfl (by kernel_rfl) (by kernel_rfl) (by kernel_rfl) (Nat.le_of_ble_eq_true (by kernel_rfl)) (fun _ _ _ h => h) HS (Or.inl ⟨by kernel_rfl, fun wx hx => ?_⟩) ?_
        · clear HS hx
          go_simp
        simp only [Act.put, List.setIfInBounds_toArray, List.set_cons_zero, List.set_cons_succ]
        refine till_keep (i := 7) (v := .int .i64 0) rfl (by kernel_rfl) (by kernel_rfl) (by kernel_rfl) (Nat.le_of_ble_eq_true (by kernel_rfl)) (fun _ _ _ h => h) HS (Or.inl ⟨by kernel_rfl, fun wx hx => ?_⟩) ?_
        · clear HS hx
          go_simp
        simp only [Act.put, List.setIfInBounds_toArray, List.set_cons_zero, List.set_cons_succ]
        clear HS
        refine till_step (i := 8) (by kernel_rfl) rfl (fun K hK => ?_)
        go_simp
        refine (num_calls _ _).mono ?_
        rintro e wq ⟨rfl, rfl⟩
        have HS := HM.out.sub (rs' := [(w3.heap.size, y0, y1, y2, y3), (w2.heap.size, y0, y1, y2, y3), (w1.heap.size, x0, x1, x2, x3), (w.heap.size + 1 + 1, l0, l1, l2, l3), (w.heap.size + 1, g0, g1, g2, g3), (w.heap.size, a0, a1, a2, a3)]) (by simp)
        refine hK.out _ _ (Or.inr HS) (fun _ => ?_)
        clear hK K
        refine till_keep (i := 9) (v := .bool true) rfl (by kernel_rfl) (by kernel_rfl) (by kernel_rfl) (Nat.le_of_ble_eq_true (by kernel_rfl)) (fun _ _ _ h => h) HS (Or.inl ⟨by kernel_rfl, fun wx hx => ?_⟩) ?_
        · clear HS hx
          go_simp
        simp only [Act.put, List.setIfInBounds_toArray, List.set_cons_zero, List.set_cons_succ]
        refine till_keep (i := 10) (v := .bool true) rfl (by kernel_rfl) (by kernel_rfl) (by kernel_rfl) (Nat.le_of_ble_eq_true (by kernel_rfl)) (fun _ _ _ h => h) HS (Or.inl ⟨by kernel_rfl, fun wx hx => ?_⟩) ?_
        · clear HS hx
          go_simp
        simp only [Act.put, List.setIfInBounds_toArray, List.set_cons_zero, List.set_cons_succ]
        refine till_keep (i := 11) (v := .bool true) rfl (by kernel_rfl) (by kernel_rfl) (by kernel_rfl) (Nat.le_of_ble_eq_true (by kernel_rfl)) (fun _ _ _ h => h) HS (Or.inl ⟨by kernel_rfl, fun wx hx => ?_⟩) ?_
        · clear HS hx
          go_simp
        simp only [Act.put, List.setIfInBounds_toArray, List.set_cons_zero, List.set_cons_succ]
        clear HS
        refine till_step (i := 12) (by kernel_rfl) rfl (fun K hK => ?_)
        go_simp
        refine (works_calls _).mono ?_
        rintro e wq ⟨rfl, hbl⟩
        have HM' := Lib.hid (HM.out.on hbl)
        clear HM hbl
        have HM := HM'
        clear HM'
        have HS := HM.out.sub (rs' := [(w3.heap.size, y0, y1, y2, y3), (w2.heap.size, y0, y1, y2, y3), (w1.heap.size, x0, x1, x2, x3), (w.heap.size + 1 + 1, l0, l1, l2, l3), (w.heap.size + 1, g0, g1, g2, g3), (w.heap.size, a0, a1, a2, a3)]) (by simp)
        refine hK.out _ _ (Or.inr HS) (fun _ => ?_)
        clear hK K
        refine till_keep (i := 13) (v := .bool true) rfl (by kernel_rfl) (by kernel_rfl) (by kernel_rfl) (Nat.le_of_ble_eq_true (by kernel_rfl)) (fun _ _ _ h => h) HS (Or.inl ⟨by kernel_rfl, fun wx hx => ?_⟩) ?_
        · clear HS hx
          go_simp
        simp only [Act.put, List.setIfInBounds_toArray, List.set_cons_zero, List.set_cons_succ]
        have HS' := HS
        clear HS
        refine till_step (i := 14) (by kernel_rfl) rfl (fun K hK => ?_)
        go_simp
        refine hK.out _ _ (Or.inr HS') (fun _ => ?_)
        clear hK K HS'
        refine till_done (by kernel_rfl) ?_
        go_wp2_with fail
        go_ret
        exact ⟨rfl, HM.out.1⟩
set_option maxRecDepth 100000 in
set_option maxHeartbeats 16000000 in
theorem numbers_bad (f : Int) (a0 a1 a2 a3 g0 g1 g2 g3 l0 l1 l2 l3 : Nat) (ha : ok4 a0 a1 a2 a3) (hg4 : ok4 g0 g1 g2 g3) (hl4 : ok4 l0 l1 l2 l3) (o : Option Addr) (len cap n : Nat) (hn64 : n < 18446744073709551616) (B : Nat → Nat) (F : FC) (hf : FieldIs f F) (la : ¬ val4 a0 a1 a2 a3 < F.M) (w : World) (hb : BIs w o len B) (ho : o = none → cap = 0) :
    Calls Try.prog 4 #[.int .i64 f, .agg #[.int .u64 a0, .int .u64 a1, .int .u64 a2, .int .u64 a3], .agg #[.int .u64 g0, .int .u64 g1, .int .u64 g2, .int .u64 g3], .agg #[.int .u64 l0, .int .u64 l1, .int .u64 l2, .int .u64 l3], .slice o len cap, .int .u64 n] w fun e w' => e = .returned (.bool true) ∧ Below w.heap.size w w' := by
  have hG := eqGuardF
  have hS := equalSelfF
  have hZ := eqF_zz
  have HB := Lib.hid hb
  clear hb
  obtain ⟨i8, hi8, h80, h81, h82⟩ := info_parts u8_info
  go_enter Try.func4, Try.ntmps4
  go_upto_region 2 with fail
  have HM := Lib.hid ((((Mem.nil w).new (w.heap.size) a0 a1 a2 a3 25 (by simp)).new (w.heap.size + 1) g0 g1 g2 g3 26 (by simp)).new (w.heap.size + 1 + 1) l0 l1 l2 l3 26 (by simp))
  go_cut [14] (fun s14 wx => ∃ ao cap1, s14 = .slice ao len cap1 ∧ Hid (BIs wx ao len B) ∧ Hid (Mem w wx [(w.heap.size + 1 + 1, l0, l1, l2, l3), (w.heap.size + 1, g0, g1, g2, g3), (w.heap.size, a0, a1, a2, a3)]))
  case first =>
    obtain ⟨hl47, hB, hcc⟩ := HB.out
    by_cases h0 : 0 < len
    · obtain ⟨g, off, rfl, hg, hc⟩ := hcc h0
      obtain ⟨Wa, hWa⟩ : ∃ Wa, Wa = ((((w.alloc (.cells #[.int .u64 a0, .int .u64 a1, .int .u64 a2, .int .u64 a3] 25)).alloc (.cells #[.int .u64 g0, .int .u64 g1, .int .u64 g2, .int .u64 g3] 26)).alloc (.cells #[.int .u64 l0, .int .u64 l1, .int .u64 l2, .int .u64 l3] 26))) := ⟨_, rfl⟩
      rw [← hWa] at HM ⊢
      clear hWa
      obtain ⟨nb, hnb⟩ : ∃ nb, nb = (List.range len).map fun k => Value.int .u8 (B k : Nat) := ⟨_, rfl⟩
      have NL := Lib.hid (show nb.length = len * 1 by rw [hnb]; simp)
      have NG := Lib.hid (show ∀ j, j < len → nb[j]? = some (Value.int .u8 (B j : Nat)) from fun j hj => by
        rw [hnb, List.getElem?_map, List.getElem?_range hj]
        rfl)
      have N1 := Lib.hid (show ∀ u ∈ nb, u.oneCell' = true from fun u hu => by
        rw [hnb] at hu
        obtain ⟨_, _, rfl⟩ := List.mem_map.1 hu
        rfl)
      have HC := Lib.hid hc
      clear hnb hc hcc
      go_wp2_with (at_builtin; refine wpList_append_own _ rfl _ _ 46 rfl (Wa.heap.size) 5 i8 (.int .u8 0) 1 1 Try.underlying46 hi8 h80 h81 h82 rfl (by decide) _ 0 [] rfl (World.ownsRow_lit Wa #[] 0 (Nat.le_refl _) (by decide) rfl) ⟨g, off, none⟩ len cap nb rfl NL.out ?c1 N1.out ?c3 ?c4 ?c5 ?_)
      case c1 =>
        intro j u hj
        have hj2 : j < len := by have h := (List.getElem?_eq_some_iff.1 hj).1; have := NL.out; omega
        have e : some u = some (Value.int .u8 (B j : Nat)) := hj.symm.trans (NG.out j hj2)
        obtain rfl := Option.some.inj e
        rw [add_plain]
        exact (((HM.out.1.alloc HM.out.1.size (.cells #[] 5)).cell (p := ⟨g, off + j, none⟩) hg).trans (HC.out j hj2))
      case c3 => unfold maxLen; omega
      case c4 => omega
      case c5 => simp
      intro v1 w1 hown hgrow hne
      have B1 := Lib.hid (((Below.refl Wa.heap.size Wa).alloc (Nat.le_refl _) (.cells #[] 5)).grown hgrow (by simp) (fun k hk => own_geN (World.ownsRow_lit (base := Wa.heap.size) (e := 5) (size := 1) Wa #[] 0 (Nat.le_refl _) (by decide) rfl) k hk))
      first | rw [Nat.zero_add] at hown | skip
      obtain ⟨ao, cap1, rfl, hp⟩ := own_anyN hown
      have HP := Lib.hid (show BIs w1 ao len B from ⟨hl47, hB, fun h => by
        obtain ⟨gp, e, _, lp, hpc⟩ := hp h
        refine ⟨gp, 0, e, lp, fun k hk => ?_⟩
        rw [Nat.zero_add, hpc k (by omega)]
        exact NG.out k hk⟩)
      have HM' := Lib.hid (HM.out.on B1.out)
      clear hown hgrow hne hp HM
      go_wp2_with fail
      go_meet
      exact ⟨ao, cap1, rfl, HP, HM'⟩
    · obtain rfl : len = 0 := by omega
      cases o with
      | none =>
        obtain rfl := ho rfl
        go_wp2_with fail
        go_meet
        exact ⟨_, _, rfl, Lib.hid ⟨by omega, hB, fun h => absurd h (by omega)⟩, Lib.hid (show Mem w _ [(w.heap.size + 1 + 1, l0, l1, l2, l3), (w.heap.size + 1, g0, g1, g2, g3), (w.heap.size, a0, a1, a2, a3)] from HM.out.on ((Below.refl _ _).alloc (Nat.le_refl _) (.cells #[] 5)))⟩
      | some ad =>
        obtain ⟨Wa, hWa⟩ : ∃ Wa, Wa = ((((w.alloc (.cells #[.int .u64 a0, .int .u64 a1, .int .u64 a2, .int .u64 a3] 25)).alloc (.cells #[.int .u64 g0, .int .u64 g1, .int .u64 g2, .int .u64 g3] 26)).alloc (.cells #[.int .u64 l0, .int .u64 l1, .int .u64 l2, .int .u64 l3] 26))) := ⟨_, rfl⟩
        rw [← hWa] at HM ⊢
        clear hWa
        go_wp2_with (at_builtin; refine wpList_append_own _ rfl _ _ 46 rfl (Wa.heap.size) 5 i8 (.int .u8 0) 1 1 Try.underlying46 hi8 h80 h81 h82 rfl (by decide) _ 0 [] rfl (World.ownsRow_lit Wa #[] 0 (Nat.le_refl _) (by decide) rfl) ad 0 cap [] rfl rfl (fun j u hj => by simp at hj) (fun u hu => by cases hu) (by decide) (by decide) ?c5 ?_)
        case c5 => simp
        intro v1 w1 hown hgrow hne
        have B1 := Lib.hid (((Below.refl Wa.heap.size Wa).alloc (Nat.le_refl _) (.cells #[] 5)).grown hgrow (by simp) (fun k hk => own_geN (World.ownsRow_lit (base := Wa.heap.size) (e := 5) (size := 1) Wa #[] 0 (Nat.le_refl _) (by decide) rfl) k hk))
        obtain ⟨ao, cap1, rfl, hp⟩ := own_anyN hown
        have HM' := Lib.hid (HM.out.on B1.out)
        clear hown hgrow hne hp HM
        go_wp2_with fail
        go_meet
        exact ⟨ao, cap1, rfl, Lib.hid ⟨by omega, hB, fun h => absurd h (by omega)⟩, HM'⟩
  case rest =>
    obtain ⟨ao, cap1, rfl, HP, HM⟩ := hcut
    obtain ⟨cr, Vr, rr1, rr2⟩ := rd_both f F hf wc o ao len cap cap1 B (HB.out.on HM.out.1) HP.out
    have RR1 := Lib.hid rr1
    have RR2 := Lib.hid rr2
    clear rr1 rr2
    have NC := Lib.hid (Mem.nil wc)
    have kr := HM.out.row (b := w.heap.size + 1) (c0 := g0) (c1 := g1) (c2 := g2) (c3 := g3) (by simp)
    have p0 := kr.c0; have p1 := kr.c1; have p2 := kr.c2; have p3 := kr.c3
    clear kr
    have pl := HM.out.lt (b := w.heap.size + 1) (c0 := g0) (c1 := g1) (c2 := g2) (c3 := g3) (by simp)
    have kr := HM.out.row (b := w.heap.size + 1 + 1) (c0 := l0) (c1 := l1) (c2 := l2) (c3 := l3) (by simp)
    have q0 := kr.c0; have q1 := kr.c1; have q2 := kr.c2; have q3 := kr.c3
    clear kr
    have ql := HM.out.lt (b := w.heap.size + 1 + 1) (c0 := l0) (c1 := l1) (c2 := l2) (c3 := l3) (by simp)
    go_wp2_with fail
    refine (freduce_ok f F hf g0 g1 g2 g3 l0 l1 l2 l3 hg4 hl4 _).mono ?_
    rintro e w1 ⟨x0, x1, x2, x3, rfl, hx, hv, hbl⟩
    have Vx := Lib.hid hv
    have NC' := Lib.hid (NC.out.on hbl)
    clear NC
    have NC := NC'
    clear NC'
    have NC' := Lib.hid ((NC.out.new w1.heap.size x0 x1 x2 x3 25 rfl).sub (rs' := []) (by simp))
    clear NC
    have NC := NC'
    clear NC'
    have HM' := Lib.hid ((HM.out.on hbl).new w1.heap.size x0 x1 x2 x3 25 rfl)
    clear hv hbl p0 p1 p2 p3 pl q0 q1 q2 q3 ql
    clear HM
    have HM := HM'
    clear HM'
    go_wp2_with fail
    refine (RR1.out _ NC.out.1).mono ?_
    rintro e w2 ⟨y0, y1, y2, y3, rfl, hy, hv, hbl⟩
    have Vy := Lib.hid hv
    have NC' := Lib.hid (NC.out.on hbl)
    clear NC
    have NC := NC'
    clear NC'
    have NC' := Lib.hid ((NC.out.new w2.heap.size y0 y1 y2 y3 25 rfl).sub (rs' := []) (by simp))
    clear NC
    have NC := NC'
    clear NC'
    have HM' := Lib.hid ((HM.out.on hbl).new w2.heap.size y0 y1 y2 y3 25 rfl)
    clear hv hbl
    clear HM
    have HM := HM'
    clear HM'
    go_wp2_with fail
    refine (RR2.out _ NC.out.1).mono ?_
    rintro e w3 ⟨z0, z1, z2, z3, rfl, hz, hv, hbl⟩
    obtain ⟨rfl, rfl, rfl, rfl⟩ := val4_inj hy hz (Vy.out.trans hv.symm)
    have NC' := Lib.hid (NC.out.on hbl)
    clear NC
    have NC := NC'
    clear NC'
    have NC' := Lib.hid ((NC.out.new w3.heap.size y0 y1 y2 y3 25 rfl).sub (rs' := []) (by simp))
    clear NC
    have NC := NC'
    clear NC'
    have HM' := Lib.hid ((HM.out.on hbl).new w3.heap.size y0 y1 y2 y3 25 rfl)
    clear hv hbl hz
    clear HM
    have HM := HM'
    clear HM'
    have kr := HM.out.row (b := w.heap.size) (c0 := a0) (c1 := a1) (c2 := a2) (c3 := a3) (by simp)
    have p0 := kr.c0; have p1 := kr.c1; have p2 := kr.c2; have p3 := kr.c3
    clear kr
    have pl := HM.out.lt (b := w.heap.size) (c0 := a0) (c1 := a1) (c2 := a2) (c3 := a3) (by simp)
    go_wp2_with fail
    refine (fbytes_err f 21 a0 a1 a2 a3 ha (Or.inr ⟨F, hf, la, rfl⟩) _).mono ?_
    rintro e w4 ⟨rfl, hbl⟩
    have NC' := Lib.hid (NC.out.on hbl)
    clear NC
    have NC := NC'
    clear NC'
    have HM' := Lib.hid (HM.out.on hbl)
    clear hbl p0 p1 p2 p3 pl
    clear HM
    have HM := HM'
    clear HM'
    have kr := HM.out.row (b := w.heap.size) (c0 := a0) (c1 := a1) (c2 := a2) (c3 := a3) (by simp)
    have p0 := kr.c0; have p1 := kr.c1; have p2 := kr.c2; have p3 := kr.c3
    clear kr
    have pl := HM.out.lt (b := w.heap.size) (c0 := a0) (c1 := a1) (c2 := a2) (c3 := a3) (by simp)
    go_wp2_with fail
    refine (rcheck_err f 21 a0 a1 a2 a3 ha (Or.inr ⟨F, hf, la, rfl⟩) _).mono ?_
    rintro e w5 ⟨rfl, hbl⟩
    have NC' := Lib.hid (NC.out.on hbl)
    clear NC
    have NC := NC'
    clear NC'
    have HM' := Lib.hid (HM.out.on hbl)
    clear hbl p0 p1 p2 p3 pl
    clear HM
    have HM := HM'
    clear HM'
    have HB5 := Lib.hid (HB.out.on HM.out.1)
    have HP5 := Lib.hid (HP.out.on NC.out.1)
    have hl47 := HB.out.1
    have N5 := Lib.hid (Mem.nil w5)
    go_wp2_with fail
    go_loopw [24] (fun t wr => ∃ (k : Nat), k ≤ len ∧ t = .int .i64 k ∧ Hid (Mem w5 wr [])) (fun t _ => len - (intOf t).toNat)
    case atStart => exact ⟨0, Nat.zero_le _, rfl, N5⟩
    case round =>
      obtain ⟨k, hk, rfl, N⟩ := hrel
      by_cases hlt : k < len
      · obtain ⟨gp, op, rfl, lp, hpc⟩ := HP5.out.2.2 (by omega)
        obtain ⟨gb, ob, rfl, lb, hbc⟩ := HB5.out.2.2 (by omega)
        have c0 := (N.out.1.cell (p := ⟨gp, op + k, none⟩) lp).trans (hpc k hlt)
        have c1 := (N.out.1.cell (p := ⟨gb, ob + k, none⟩) lb).trans (hbc k hlt)
        clear hpc hbc
        go_wp2_with fail
        go_region
        go_wp2_with fail
        go_roundw
        case rel => exact ⟨k + 1, by omega, by go_num, Lib.hid (show Mem w5 wr.drew [] from N.out.drewN 1)⟩
        case measure => simp [intOf]; omega
      · obtain rfl : len = k := by omega
        obtain ⟨wv, rfl⟩ : ∃ wv, wv = wr := ⟨_, rfl⟩
        have HM' := Lib.hid (HM.out.on N.out.1)
        clear HM
        have HM := HM'
        clear HM'
        clear N N5 hk hlt HB5 HP5 NC
        have kr := HM.out.row (b := w2.heap.size) (c0 := y0) (c1 := y1) (c2 := y2) (c3 := y3) (by simp)
        have p0 := kr.c0; have p1 := kr.c1; have p2 := kr.c2; have p3 := kr.c3
        clear kr
        have pl := HM.out.lt (b := w2.heap.size) (c0 := y0) (c1 := y1) (c2 := y2) (c3 := y3) (by simp)
        have kr := HM.out.row (b := w3.heap.size) (c0 := y0) (c1 := y1) (c2 := y2) (c3 := y3) (by simp)
        have q0 := kr.c0; have q1 := kr.c1; have q2 := kr.c2; have q3 := kr.c3
        clear kr
        have ql := HM.out.lt (b := w3.heap.size) (c0 := y0) (c1 := y1) (c2 := y2) (c3 := y3) (by simp)
        go_wp2_with fail
        refine (num_calls _ _).mono ?_
        rintro e wn ⟨rfl, rfl⟩
        go_wp2_with fail
        refine (num_calls _ _).mono ?_
        rintro e wn ⟨rfl, rfl⟩
        go_wp2_with fail
        refine (of_calls n hn64 _).mono ?_
        rintro e w6 ⟨rfl, hbl⟩
        have HM' := Lib.hid (HM.out.on hbl)
        clear hbl p0 p1 p2 p3 pl q0 q1 q2 q3 ql
        clear HM
        have HM := HM'
        clear HM'
        go_wp2_with fail
        refine (rofN_calls n _).mono ?_
        rintro e w7 ⟨rfl, hbl⟩
        have HM' := Lib.hid (HM.out.on hbl)
        clear hbl
        clear HM
        have HM := HM'
        clear HM'
        have hSn : ∀ w, (Op.equalIn 10000 25 (.agg #[.int .u64 (n : Nat), .int .u64 0, .int .u64 0, .int .u64 0]) (.agg #[.int .u64 (n : Nat), .int .u64 0, .int .u64 0, .int .u64 0])).run Try.prog w = .ok true w := fun w => equalSelfF n 0 0 0 w
        go_wp2_with fail
        refine region_till (fun wx => Below w7.heap.size w7 wx) 99 (by kernel_rfl) ?_
        have HS := below_drewN' w7.heap.size w7 1
        refine till_keep (i := 0) (v := .int .i64 21) rfl (by kernel_rfl) (by kernel_rfl) (by kernel_rfl) (Nat.le_of_ble_eq_true (by kernel_rfl)) (fun _ _ _ h => h) HS (Or.inl ⟨by kernel_rfl, fun wx hx => ?_⟩) ?_
        · clear HS hx
          go_simp
        simp only [Act.put, List.setIfInBounds_toArray, List.set_cons_zero, List.set_cons_succ]
        refine till_keep (i := 1) (v := .bool false) rfl (by kernel_rfl) (by kernel_rfl) (by kernel_rfl) (Nat.le_of_ble_eq_true (by kernel_rfl)) (fun _ _ _ h => h) HS (Or.inl ⟨by kernel_rfl, fun wx hx => ?_⟩) ?_
        · clear HS hx
          go_simp
        simp only [Act.put, List.setIfInBounds_toArray, List.set_cons_zero, List.set_cons_succ]
        refine till_keep (i := 2) (v := .bool false) rfl (by kernel_rfl) (by kernel_rfl) (by kernel_rfl) (Nat.le_of_ble_eq_true (by kernel_rfl)) (fun _ _ _ h => h) HS (Or.inl ⟨by kernel_rfl, fun wx hx => ?_⟩) ?_
        · clear HS hx
          go_simp
        simp only [Act.put, List.setIfInBounds_toArray, List.set_cons_zero, List.set_cons_succ]
        refine till_keep (i := 3) (v := undef) rfl (by kernel_rfl) (by kernel_rfl) (by kernel_rfl) (Nat.le_of_ble_eq_true (by kernel_rfl)) (fun _ _ _ h => h) HS (Or.inr ⟨by kernel_rfl, rfl⟩) ?_
        simp only [Act.put, List.setIfInBounds_toArray, List.set_cons_zero, List.set_cons_succ]
        refine till_keep (i := 4) (v := undef) rfl (by kernel_rfl) (by kernel_rfl) (by kernel_rfl) (Nat.le_of_ble_eq_true (by kernel_rfl)) (fun _ _ _ h => h) HS (Or.inr ⟨by kernel_rfl, rfl⟩) ?_
        simp only [Act.put, List.setIfInBounds_toArray, List.set_cons_zero, List.set_cons_succ]
        refine till_keep (i := 5) (v := undef) rfl (by kernel_rfl) (by kernel_rfl) (by kernel_rfl) (Nat.le_of_ble_eq_true (by kernel_rfl)) (fun _ _ _ h => h) HS (Or.inr ⟨by kernel_rfl, rfl⟩) ?_
        simp only [Act.put, List.setIfInBounds_toArray, List.set_cons_zero, List.set_cons_succ]
        refine till_keep (i := 6) (v := undef) rfl (by kernel_rfl) (by kernel_rfl) (by kernel_rfl) (Nat.le_of_ble_eq_true (by kernel_rfl)) (fun _ _ _ h => h) HS (Or.inr ⟨by kernel_rfl, rfl⟩) ?_
        simp only [Act.put, List.setIfInBounds_toArray, List.set_cons_zero, List.set_cons_succ]
        refine till_keep (i := 7) (v := undef) rfl (by kernel_rfl) (by kernel_rfl) (by kernel_rfl) (Nat.le_of_ble_eq_true (by kernel_rfl)) (fun _ _ _ h => h) HS (Or.inr ⟨by kernel_rfl, rfl⟩) ?_
        simp only [Act.put, List.setIfInBounds_toArray, List.set_cons_zero, List.set_cons_succ]
        refine till_keep (i := 8) (v := undef) rfl (by kernel_rfl) (by kernel_rfl) (by kernel_rfl) (Nat.le_of_ble_eq_true (by kernel_rfl)) (fun _ _ _ h => h) HS (Or.inr ⟨by kernel_rfl, rfl⟩) ?_
        simp only [Act.put, List.setIfInBounds_toArray, List.set_cons_zero, List.set_cons_succ]
        refine till_keep (i := 9) (v := .bool false) rfl (by kernel_rfl) (by kernel_rfl) (by kernel_rfl) (Nat.le_of_ble_eq_true (by kernel_rfl)) (fun _ _ _ h => h) HS (Or.inl ⟨by kernel_rfl, fun wx hx => ?_⟩) ?_
        · clear HS hx
          go_simp
        simp only [Act.put, List.setIfInBounds_toArray, List.set_cons_zero, List.set_cons_succ]
        refine till_keep (i := 10) (v := .bool false) rfl (by kernel_rfl) (by kernel_rfl) (by kernel_rfl) (Nat.le_of_ble_eq_true (by kernel_rfl)) (fun _ _ _ h => h) HS (Or.inl ⟨by kernel_rfl, fun wx hx => ?_⟩) ?_
        · clear HS hx
          go_simp
        simp only [Act.put, List.setIfInBounds_toArray, List.set_cons_zero, List.set_cons_succ]
        refine till_keep (i := 11) (v := .int .i64 21) rfl (by kernel_rfl) (by kernel_rfl) (by kernel_rfl) (Nat.le_of_ble_eq_true (by kernel_rfl)) (fun _ _ _ h => h) HS (Or.inl ⟨by kernel_rfl, fun wx hx => ?_⟩) ?_
        · clear HS hx
          go_simp
        simp only [Act.put, List.setIfInBounds_toArray, List.set_cons_zero, List.set_cons_succ]
        refine till_keep (i := 12) (v := .bool true) rfl (by kernel_rfl) (by kernel_rfl) (by kernel_rfl) (Nat.le_of_ble_eq_true (by kernel_rfl)) (fun _ _ _ h => h) HS (Or.inl ⟨by kernel_rfl, fun wx hx => ?_⟩) ?_
        · clear HS hx
          go_simp
        simp only [Act.put, List.setIfInBounds_toArray, List.set_cons_zero, List.set_cons_succ]
        refine till_keep (i := 13) (v := .bool true) rfl (by kernel_rfl) (by kernel_rfl) (by kernel_rfl) (Nat.le_of_ble_eq_true (by kernel_rfl)) (fun _ _ _ h => h) HS (Or.inl ⟨by kernel_rfl, fun wx hx => ?_⟩) ?_
        · clear HS hx
          go_simp
        simp only [Act.put, List.setIfInBounds_toArray, List.set_cons_zero, List.set_cons_succ]
        refine till_keep (i := 14) (v := .slice none 0 0) rfl (by kernel_rfl) (by kernel_rfl) (by kernel_rfl) (Nat.le_of_ble_eq_true (by kernel_rfl)) (fun _ _ _ h => h) HS (Or.inl ⟨by kernel_rfl, fun wx hx => ?_⟩) ?_
        · clear HS hx
          go_simp
        simp only [Act.put, List.setIfInBounds_toArray, List.set_cons_zero, List.set_cons_succ]
        refine till_keep (i := 15) (v := .int .i64 0) rfl (by kernel_rfl) (by kernel_rfl) (by kernel_rfl) (Nat.le_of_ble_eq_true (by kernel_rfl)) (fun _ _ _ h => h) HS (Or.inl ⟨by kernel_rfl, fun wx hx => ?_⟩) ?_
        · clear HS hx
          go_simp
        simp only [Act.put, List.setIfInBounds_toArray, List.set_cons_zero, List.set_cons_succ]
        refine till_keep (i := 16) (v := .bool false) rfl (by kernel_rfl) (by kernel_rfl) (by kernel_rfl) (Nat.le_of_ble_eq_true (by kernel_rfl)) (fun _ _ _ h => h) HS (Or.inl ⟨by kernel_rfl, fun wx hx => ?_⟩) ?_
        · clear HS hx
          go_simp
        simp only [Act.put, List.setIfInBounds_toArray, List.set_cons_zero, List.set_cons_succ]
        refine till_keep (i := 17) (v := .bool false) rfl (by kernel_rfl) (by kernel_rfl) (by kernel_rfl) (Nat.le_of_ble_eq_true (by kernel_rfl)) (fun _ _ _ h => h) HS (Or.inl ⟨by kernel_rfl, fun wx hx => ?_⟩) ?_
        · clear HS hx
          go_simp
        simp only [Act.put, List.setIfInBounds_toArray, List.set_cons_zero, List.set_cons_succ]
        have HS' := HS
        clear HS
        refine till_step (i := 18) (by kernel_rfl) rfl (fun K hK => ?_)
        go_simp
        refine hK.out _ _ (Or.inr HS') (fun _ => ?_)
        clear hK K
        refine till_done (by kernel_rfl) ?_
        have HM' := Lib.hid (HM.out.on HS')
        clear HS'
        clear HM
        have HM := HM'
        clear HM'
        go_wp2_with fail
        refine (rfield_some f F hf _).mono ?_
        rintro e wf ⟨rfl, rfl⟩
        go_wp2_with fail
        refine region_till (fun wx => Mem w wx [(w3.heap.size, y0, y1, y2, y3), (w2.heap.size, y0, y1, y2, y3), (w1.heap.size, x0, x1, x2, x3), (w.heap.size + 1 + 1, l0, l1, l2, l3), (w.heap.size + 1, g0, g1, g2, g3), (w.heap.size, a0, a1, a2, a3)]) 99 (by kernel_rfl) ?_
        have HM' := Lib.hid (HM.out.drewN 1)
        clear HM
        have HM := HM'
        clear HM'
        have HS := HM.out.sub (rs' := [(w3.heap.size, y0, y1, y2, y3), (w2.heap.size, y0, y1, y2, y3), (w1.heap.size, x0, x1, x2, x3), (w.heap.size + 1 + 1, l0, l1, l2, l3), (w.heap.size + 1, g0, g1, g2, g3), (w.heap.size, a0, a1, a2, a3)]) (by simp)
        refine till_keep (i := 0) (v := .agg #[.int .u64 x0, .int .u64 x1, .int .u64 x2, .int .u64 x3]) rfl (by kernel_rfl) (by kernel_rfl) (by kernel_rfl) (Nat.le_of_ble_eq_true (by kernel_rfl)) (fun _ _ _ h => h) HS (Or.inl ⟨by kernel_rfl, fun wx hx => ?_⟩) ?_
        · have kr := hx.row (b := w1.heap.size) (c0 := x0) (c1 := x1) (c2 := x2) (c3 := x3) (by simp)
          have x0' := kr.c0; have x1' := kr.c1; have x2' := kr.c2; have x3' := kr.c3
          clear kr HS hx
          go_simp
        simp only [Act.put, List.setIfInBounds_toArray, List.set_cons_zero, List.set_cons_succ]
        refine till_keep (i := 1) (v := .int .i64 f) rfl (by kernel_rfl) (by kernel_rfl) (by kernel_rfl) (Nat.le_of_ble_eq_true (by kernel_rfl)) (fun _ _ _ h => h) HS (Or.inl ⟨by kernel_rfl, fun wx hx => ?_⟩) ?_
        · clear HS hx
          go_simp
        simp only [Act.put, List.setIfInBounds_toArray, List.set_cons_zero, List.set_cons_succ]
        refine till_keep (i := 2) (v := .agg #[.int .u64 g0, .int .u64 g1, .int .u64 g2, .int .u64 g3]) rfl (by kernel_rfl) (by kernel_rfl) (by kernel_rfl) (Nat.le_of_ble_eq_true (by kernel_rfl)) (fun _ _ _ h => h) HS (Or.inl ⟨by kernel_rfl, fun wx hx => ?_⟩) ?_
        · have kr := hx.row (b := w.heap.size + 1) (c0 := g0) (c1 := g1) (c2 := g2) (c3 := g3) (by simp)
          have x0' := kr.c0; have x1' := kr.c1; have x2' := kr.c2; have x3' := kr.c3
          clear kr HS hx
          go_simp
        simp only [Act.put, List.setIfInBounds_toArray, List.set_cons_zero, List.set_cons_succ]
        refine till_keep (i := 3) (v := .agg #[.int .u64 l0, .int .u64 l1, .int .u64 l2, .int .u64 l3]) rfl (by kernel_rfl) (by kernel_rfl) (by kernel_rfl) (Nat.le_of_ble_eq_true (by kernel_rfl)) (fun _ _ _ h => h) HS (Or.inl ⟨by kernel_rfl, fun wx hx => ?_⟩) ?_
        · have kr := hx.row (b := w.heap.size + 1 + 1) (c0 := l0) (c1 := l1) (c2 := l2) (c3 := l3) (by simp)
          have x0' := kr.c0; have x1' := kr.c1; have x2' := kr.c2; have x3' := kr.c3
          clear kr HS hx
          go_simp
        simp only [Act.put, List.setIfInBounds_toArray, List.set_cons_zero, List.set_cons_succ]
        clear HS
        refine till_step (i := 4) (by kernel_rfl) rfl (fun K hK => ?_)
        go_simp
        refine (rreduce_calls f F hf g0 g1 g2 g3 l0 l1 l2 l3 hg4 hl4 _).mono ?_
        rintro e wq ⟨q0, q1, q2, q3, rfl, hq, hv, hbl⟩
        obtain ⟨rfl, rfl, rfl, rfl⟩ := val4_inj hx hq (Vx.out.trans hv.symm)
        clear hv hq
        have HM' := Lib.hid (HM.out.on hbl)
        clear HM hbl
        have HM := HM'
        clear HM'
        have HS := HM.out.sub (rs' := [(w3.heap.size, y0, y1, y2, y3), (w2.heap.size, y0, y1, y2, y3), (w1.heap.size, x0, x1, x2, x3), (w.heap.size + 1 + 1, l0, l1, l2, l3), (w.heap.size + 1, g0, g1, g2, g3), (w.heap.size, a0, a1, a2, a3)]) (by simp)
        refine hK.out _ _ (Or.inr HS) (fun _ => ?_)
        clear hK K
        refine till_keep (i := 5) (v := .bool true) rfl (by kernel_rfl) (by kernel_rfl) (by kernel_rfl) (Nat.le_of_ble_eq_true (by kernel_rfl)) (fun _ _ _ h => h) HS (Or.inl ⟨by kernel_rfl, fun wx hx => ?_⟩) ?_
        · clear HS hx
          go_simp
        simp only [Act.put, List.setIfInBounds_toArray, List.set_cons_zero, List.set_cons_succ]
        refine till_keep (i := 6) (v := .bool true) rfl (by kernel_rfl) (by kernel_rfl) (by kernel_rfl) (Nat.le_of_ble_eq_true (by kernel_rfl)) (fun _ _ _ h => h) HS (Or.inl ⟨by kernel_rfl, fun wx hx => ?_⟩) ?_
        · clear HS hx
          go_simp
        simp only [Act.put, List.setIfInBounds_toArray, List.set_cons_zero, List.set_cons_succ]
        refine till_keep (i := 7) (v := .int .i64 0) rfl (by kernel_rfl) (by kernel_rfl) (by kernel_rfl) (Nat.le_of_ble_eq_true (by kernel_rfl)) (fun _ _ _ h => h) HS (Or.inl ⟨by kernel_rfl, fun wx hx => ?_⟩) ?_
        · clear HS hx
          go_simp
        simp only [Act.put, List.setIfInBounds_toArray, List.set_cons_zero, List.set_cons_succ]
        clear HS
        refine till_step (i := 8) (by kernel_rfl) rfl (fun K hK => ?_)
        go_simp
        refine (num_calls _ _).mono ?_
        rintro e wq ⟨rfl, rfl⟩
        have HS := HM.out.sub (rs' := [(w3.heap.size, y0, y1, y2, y3), (w2.heap.size, y0, y1, y2, y3), (w1.heap.size, x0, x1, x2, x3), (w.heap.size + 1 + 1, l0, l1, l2, l3), (w.heap.size + 1, g0, g1, g2, g3), (w.heap.size, a0, a1, a2, a3)]) (by simp)
        refine hK.out _ _ (Or.inr HS) (fun _ => ?_)
        clear hK K
        refine till_keep (i := 9) (v := .bool true) rfl (by kernel_rfl) (by kernel_rfl) (by kernel_rfl) (Nat.le_of_ble_eq_true (by kernel_rfl)) (fun _ _ _ h => h) HS (Or.inl ⟨by kernel_rfl, fun wx hx => ?_⟩) ?_
        · clear HS hx
          go_simp
        simp only [Act.put, List.setIfInBounds_toArray, List.set_cons_zero, List.set_cons_succ]
        refine till_keep (i := 10) (v := .bool true) rfl (by kernel_rfl) (by kernel_rfl) (by kernel_rfl) (Nat.le_of_ble_eq_true (by kernel_rfl)) (fun _ _ _ h => h) HS (Or.inl ⟨by kernel_rfl, fun wx hx => ?_⟩) ?_
        · clear HS hx
          go_simp
        simp only [Act.put, List.setIfInBounds_toArray, List.set_cons_zero, List.set_cons_succ]
        refine till_keep (i := 11) (v := .bool true) rfl (by kernel_rfl) (by kernel_rfl) (by kernel_rfl) (Nat.le_of_ble_eq_true (by kernel_rfl)) (fun _ _ _ h => h) HS (Or.inl ⟨by kernel_rfl, fun wx hx => ?_⟩) ?_
        · clear HS hx
          go_simp
        simp only [Act.put, List.setIfInBounds_toArray, List.set_cons_zero, List.set_cons_succ]
        clear HS
        refine till_step (i := 12) (by kernel_rfl) rfl (fun K hK => ?_)
        go_simp
        refine (works_calls _).mono ?_
        rintro e wq ⟨rfl, hbl⟩
        have HM' := Lib.hid (HM.out.on hbl)
        clear HM hbl
        have HM := HM'
        clear HM'
        have HS := HM.out.sub (rs' := [(w3.heap.size, y0, y1, y2, y3), (w2.heap.size, y0, y1, y2, y3), (w1.heap.size, x0, x1, x2, x3), (w.heap.size + 1 + 1, l0, l1, l2, l3), (w.heap.size + 1, g0, g1, g2, g3), (w.heap.size, a0, a1, a2, a3)]) (by simp)
        refine hK.out _ _ (Or.inr HS) (fun _ => ?_)
        clear hK K
        refine till_keep (i := 13) (v := .bool true) rfl (by kernel_rfl) (by kernel_rfl) (by kernel_rfl) (Nat.le_of_ble_eq_true (by kernel_rfl)) (fun _ _ _ h => h) HS (Or.inl ⟨by kernel_rfl, fun wx hx => ?_⟩) ?_
        · clear HS hx
          go_simp
        simp only [Act.put, List.setIfInBounds_toArray, List.set_cons_zero, List.set_cons_succ]
        have HS' := HS
        clear HS
        refine till_step (i := 14) (by kernel_rfl) rfl (fun K hK => ?_)
        go_simp
        refine hK.out _ _ (Or.inr HS') (fun _ => ?_)
        clear hK K HS'
        refine till_done (by kernel_rfl) ?_
        go_wp2_with fail
        go_ret
        exact ⟨rfl, HM.out.1⟩
set_option maxRecDepth 100000 in
set_option maxHeartbeats 16000000 in
theorem numbers_none (f : Int) (a0 a1 a2 a3 g0 g1 g2 g3 l0 l1 l2 l3 : Nat) (ha : ok4 a0 a1 a2 a3) (hg4 : ok4 g0 g1 g2 g3) (hl4 : ok4 l0 l1 l2 l3) (o : Option Addr) (len cap n : Nat) (hn64 : n < 18446744073709551616) (B : Nat → Nat) (h1 : f ≠ 1) (h2 : f ≠ 2) (w : World) (hb : BIs w o len B) (ho : o = none → cap = 0) :
    Calls Try.prog 4 #[.int .i64 f, .agg #[.int .u64 a0, .int .u64 a1, .int .u64 a2, .int .u64 a3], .agg #[.int .u64 g0, .int .u64 g1, .int .u64 g2, .int .u64 g3], .agg #[.int .u64 l0, .int .u64 l1, .int .u64 l2, .int .u64 l3], .slice o len cap, .int .u64 n] w fun e w' => e = .returned (.bool true) ∧ Below w.heap.size w w' := by
  have hG := eqGuardF
  have hS := equalSelfF
  have hZ := eqF_zz
  have HB := Lib.hid hb
  clear hb
  obtain ⟨i8, hi8, h80, h81, h82⟩ := info_parts u8_info
  go_enter Try.func4, Try.ntmps4
  go_upto_region 2 with fail
  have HM := Lib.hid ((((Mem.nil w).new (w.heap.size) a0 a1 a2 a3 25 (by simp)).new (w.heap.size + 1) g0 g1 g2 g3 26 (by simp)).new (w.heap.size + 1 + 1) l0 l1 l2 l3 26 (by simp))
  go_cut [14] (fun s14 wx => ∃ ao cap1, s14 = .slice ao len cap1 ∧ Hid (BIs wx ao len B) ∧ Hid (Mem w wx [(w.heap.size + 1 + 1, l0, l1, l2, l3), (w.heap.size + 1, g0, g1, g2, g3), (w.heap.size, a0, a1, a2, a3)]))
  case first =>
    obtain ⟨hl47, hB, hcc⟩ := HB.out
    by_cases h0 : 0 < len
    · obtain ⟨g, off, rfl, hg, hc⟩ := hcc h0
      obtain ⟨Wa, hWa⟩ : ∃ Wa, Wa = ((((w.alloc (.cells #[.int .u64 a0, .int .u64 a1, .int .u64 a2, .int .u64 a3] 25)).alloc (.cells #[.int .u64 g0, .int .u64 g1, .int .u64 g2, .int .u64 g3] 26)).alloc (.cells #[.int .u64 l0, .int .u64 l1, .int .u64 l2, .int .u64 l3] 26))) := ⟨_, rfl⟩
      rw [← hWa] at HM ⊢
      clear hWa
      obtain ⟨nb, hnb⟩ : ∃ nb, nb = (List.range len).map fun k => Value.int .u8 (B k : Nat) := ⟨_, rfl⟩
      have NL := Lib.hid (show nb.length = len * 1 by rw [hnb]; simp)
      have NG := Lib.hid (show ∀ j, j < len → nb[j]? = some (Value.int .u8 (B j : Nat)) from fun j hj => by
        rw [hnb, List.getElem?_map, List.getElem?_range hj]
        rfl)
      have N1 := Lib.hid (show ∀ u ∈ nb, u.oneCell' = true from fun u hu => by
        rw [hnb] at hu
        obtain ⟨_, _, rfl⟩ := List.mem_map.1 hu
        rfl)
      have HC := Lib.hid hc
      clear hnb hc hcc
      go_wp2_with (at_builtin; refine wpList_append_own _ rfl _ _ 46 rfl (Wa.heap.size) 5 i8 (.int .u8 0) 1 1 Try.underlying46 hi8 h80 h81 h82 rfl (by decide) _ 0 [] rfl (World.ownsRow_lit Wa #[] 0 (Nat.le_refl _) (by decide) rfl) ⟨g, off, none⟩ len cap nb rfl NL.out ?c1 N1.out ?c3 ?c4 ?c5 ?_)
      case c1 =>
        intro j u hj
        have hj2 : j < len := by have h := (List.getElem?_eq_some_iff.1 hj).1; have := NL.out; omega
        have e : some u = some (Value.int .u8 (B j : Nat)) := hj.symm.trans (NG.out j hj2)
        obtain rfl := Option.some.inj e
        rw [add_plain]
        exact (((HM.out.1.alloc HM.out.1.size (.cells #[] 5)).cell (p := ⟨g, off + j, none⟩) hg).trans (HC.out j hj2))
      case c3 => unfold maxLen; omega
      case c4 => omega
      case c5 => simp
      intro v1 w1 hown hgrow hne
      have B1 := Lib.hid (((Below.refl Wa.heap.size Wa).alloc (Nat.le_refl _) (.cells #[] 5)).grown hgrow (by simp) (fun k hk => own_geN (World.ownsRow_lit (base := Wa.heap.size) (e := 5) (size := 1) Wa #[] 0 (Nat.le_refl _) (by decide) rfl) k hk))
      first | rw [Nat.zero_add] at hown | skip
      obtain ⟨ao, cap1, rfl, hp⟩ := own_anyN hown
      have HP := Lib.hid (show BIs w1 ao len B from ⟨hl47, hB, fun h => by
        obtain ⟨gp, e, _, lp, hpc⟩ := hp h
        refine ⟨gp, 0, e, lp, fun k hk => ?_⟩
        rw [Nat.zero_add, hpc k (by omega)]
        exact NG.out k hk⟩)
      have HM' := Lib.hid (HM.out.on B1.out)
      clear hown hgrow hne hp HM
      go_wp2_with fail
      go_meet
      exact ⟨ao, cap1, rfl, HP, HM'⟩
    · obtain rfl : len = 0 := by omega
      cases o with
      | none =>
        obtain rfl := ho rfl
        go_wp2_with fail
        go_meet
        exact ⟨_, _, rfl, Lib.hid ⟨by omega, hB, fun h => absurd h (by omega)⟩, Lib.hid (show Mem w _ [(w.heap.size + 1 + 1, l0, l1, l2, l3), (w.heap.size + 1, g0, g1, g2, g3), (w.heap.size, a0, a1, a2, a3)] from HM.out.on ((Below.refl _ _).alloc (Nat.le_refl _) (.cells #[] 5)))⟩
      | some ad =>
        obtain ⟨Wa, hWa⟩ : ∃ Wa, Wa = ((((w.alloc (.cells #[.int .u64 a0, .int .u64 a1, .int .u64 a2, .int .u64 a3] 25)).alloc (.cells #[.int .u64 g0, .int .u64 g1, .int .u64 g2, .int .u64 g3] 26)).alloc (.cells #[.int .u64 l0, .int .u64 l1, .int .u64 l2, .int .u64 l3] 26))) := ⟨_, rfl⟩
        rw [← hWa] at HM ⊢
        clear hWa
        go_wp2_with (at_builtin; refine wpList_append_own _ rfl _ _ 46 rfl (Wa.heap.size) 5 i8 (.int .u8 0) 1 1 Try.underlying46 hi8 h80 h81 h82 rfl (by decide) _ 0 [] rfl (World.ownsRow_lit Wa #[] 0 (Nat.le_refl _) (by decide) rfl) ad 0 cap [] rfl rfl (fun j u hj => by simp at hj) (fun u hu => by cases hu) (by decide) (by decide) ?c5 ?_)
        case c5 => simp
        intro v1 w1 hown hgrow hne
        have B1 := Lib.hid (((Below.refl Wa.heap.size Wa).alloc (Nat.le_refl _) (.cells #[] 5)).grown hgrow (by simp) (fun k hk => own_geN (World.ownsRow_lit (base := Wa.heap.size) (e := 5) (size := 1) Wa #[] 0 (Nat.le_refl _) (by decide) rfl) k hk))
        obtain ⟨ao, cap1, rfl, hp⟩ := own_anyN hown
        have HM' := Lib.hid (HM.out.on B1.out)
        clear hown hgrow hne hp HM
        go_wp2_with fail
        go_meet
        exact ⟨ao, cap1, rfl, Lib.hid ⟨by omega, hB, fun h => absurd h (by omega)⟩, HM'⟩
  case rest =>
    obtain ⟨ao, cap1, rfl, HP, HM⟩ := hcut
    obtain ⟨cr, Vr, rr1, rr2⟩ := rd_none f h1 h2 wc o ao len cap cap1
    have RR1 := Lib.hid rr1
    have RR2 := Lib.hid rr2
    clear rr1 rr2
    have NC := Lib.hid (Mem.nil wc)
    have kr := HM.out.row (b := w.heap.size + 1) (c0 := g0) (c1 := g1) (c2 := g2) (c3 := g3) (by simp)
    have p0 := kr.c0; have p1 := kr.c1; have p2 := kr.c2; have p3 := kr.c3
    clear kr
    have pl := HM.out.lt (b := w.heap.size + 1) (c0 := g0) (c1 := g1) (c2 := g2) (c3 := g3) (by simp)
    have kr := HM.out.row (b := w.heap.size + 1 + 1) (c0 := l0) (c1 := l1) (c2 := l2) (c3 := l3) (by simp)
    have q0 := kr.c0; have q1 := kr.c1; have q2 := kr.c2; have q3 := kr.c3
    clear kr
    have ql := HM.out.lt (b := w.heap.size + 1 + 1) (c0 := l0) (c1 := l1) (c2 := l2) (c3 := l3) (by simp)
    go_wp2_with fail
    refine (freduce_none f g0 g1 g2 g3 l0 l1 l2 l3 hg4 hl4 h1 h2 _).mono ?_
    rintro e w1 ⟨x0, x1, x2, x3, rfl, hx, hv, hbl⟩
    have Vx := Lib.hid hv
    have NC' := Lib.hid (NC.out.on hbl)
    clear NC
    have NC := NC'
    clear NC'
    have NC' := Lib.hid ((NC.out.new w1.heap.size x0 x1 x2 x3 25 rfl).sub (rs' := []) (by simp))
    clear NC
    have NC := NC'
    clear NC'
    have HM' := Lib.hid ((HM.out.on hbl).new w1.heap.size x0 x1 x2 x3 25 rfl)
    clear hv hbl p0 p1 p2 p3 pl q0 q1 q2 q3 ql
    clear HM
    have HM := HM'
    clear HM'
    go_wp2_with fail
    refine (RR1.out _ NC.out.1).mono ?_
    rintro e w2 ⟨y0, y1, y2, y3, rfl, hy, hv, hbl⟩
    have Vy := Lib.hid hv
    have NC' := Lib.hid (NC.out.on hbl)
    clear NC
    have NC := NC'
    clear NC'
    have NC' := Lib.hid ((NC.out.new w2.heap.size y0 y1 y2 y3 25 rfl).sub (rs' := []) (by simp))
    clear NC
    have NC := NC'
    clear NC'
    have HM' := Lib.hid ((HM.out.on hbl).new w2.heap.size y0 y1 y2 y3 25 rfl)
    clear hv hbl
    clear HM
    have HM := HM'
    clear HM'
    go_wp2_with fail
    refine (RR2.out _ NC.out.1).mono ?_
    rintro e w3 ⟨z0, z1, z2, z3, rfl, hz, hv, hbl⟩
    obtain ⟨rfl, rfl, rfl, rfl⟩ := val4_inj hy hz (Vy.out.trans hv.symm)
    have NC' := Lib.hid (NC.out.on hbl)
    clear NC
    have NC := NC'
    clear NC'
    have NC' := Lib.hid ((NC.out.new w3.heap.size y0 y1 y2 y3 25 rfl).sub (rs' := []) (by simp))
    clear NC
    have NC := NC'
    clear NC'
    have HM' := Lib.hid ((HM.out.on hbl).new w3.heap.size y0 y1 y2 y3 25 rfl)
    clear hv hbl hz
    clear HM
    have HM := HM'
    clear HM'
    have kr := HM.out.row (b := w.heap.size) (c0 := a0) (c1 := a1) (c2 := a2) (c3 := a3) (by simp)
    have p0 := kr.c0; have p1 := kr.c1; have p2 := kr.c2; have p3 := kr.c3
    clear kr
    have pl := HM.out.lt (b := w.heap.size) (c0 := a0) (c1 := a1) (c2 := a2) (c3 := a3) (by simp)
    go_wp2_with fail
    refine (fbytes_err f 1 a0 a1 a2 a3 ha (Or.inl ⟨h1, h2, rfl⟩) _).mono ?_
    rintro e w4 ⟨rfl, hbl⟩
    have NC' := Lib.hid (NC.out.on hbl)
    clear NC
    have NC := NC'
    clear NC'
    have HM' := Lib.hid (HM.out.on hbl)
    clear hbl p0 p1 p2 p3 pl
    clear HM
    have HM := HM'
    clear HM'
    have kr := HM.out.row (b := w.heap.size) (c0 := a0) (c1 := a1) (c2 := a2) (c3 := a3) (by simp)
    have p0 := kr.c0; have p1 := kr.c1; have p2 := kr.c2; have p3 := kr.c3
    clear kr
    have pl := HM.out.lt (b := w.heap.size) (c0 := a0) (c1 := a1) (c2 := a2) (c3 := a3) (by simp)
    go_wp2_with fail
    refine (rcheck_err f 1 a0 a1 a2 a3 ha (Or.inl ⟨h1, h2, rfl⟩) _).mono ?_
    rintro e w5 ⟨rfl, hbl⟩
    have NC' := Lib.hid (NC.out.on hbl)
    clear NC
    have NC := NC'
    clear NC'
    have HM' := Lib.hid (HM.out.on hbl)
    clear hbl p0 p1 p2 p3 pl
    clear HM
    have HM := HM'
    clear HM'
    have HB5 := Lib.hid (HB.out.on HM.out.1)
    have HP5 := Lib.hid (HP.out.on NC.out.1)
    have hl47 := HB.out.1
    have N5 := Lib.hid (Mem.nil w5)
    go_wp2_with fail
    go_loopw [24] (fun t wr => ∃ (k : Nat), k ≤ len ∧ t = .int .i64 k ∧ Hid (Mem w5 wr [])) (fun t _ => len - (intOf t).toNat)
    case atStart => exact ⟨0, Nat.zero_le _, rfl, N5⟩
    case round =>
      obtain ⟨k, hk, rfl, N⟩ := hrel
      by_cases hlt : k < len
      · obtain ⟨gp, op, rfl, lp, hpc⟩ := HP5.out.2.2 (by omega)
        obtain ⟨gb, ob, rfl, lb, hbc⟩ := HB5.out.2.2 (by omega)
        have c0 := (N.out.1.cell (p := ⟨gp, op + k, none⟩) lp).trans (hpc k hlt)
        have c1 := (N.out.1.cell (p := ⟨gb, ob + k, none⟩) lb).trans (hbc k hlt)
        clear hpc hbc
        go_wp2_with fail
        go_region
        go_wp2_with fail
        go_roundw
        case rel => exact ⟨k + 1, by omega, by go_num, Lib.hid (show Mem w5 wr.drew [] from N.out.drewN 1)⟩
        case measure => simp [intOf]; omega
      · obtain rfl : len = k := by omega
        obtain ⟨wv, rfl⟩ : ∃ wv, wv = wr := ⟨_, rfl⟩
        have HM' := Lib.hid (HM.out.on N.out.1)
        clear HM
        have HM := HM'
        clear HM'
        clear N N5 hk hlt HB5 HP5 NC
        have kr := HM.out.row (b := w2.heap.size) (c0 := y0) (c1 := y1) (c2 := y2) (c3 := y3) (by simp)
        have p0 := kr.c0; have p1 := kr.c1; have p2 := kr.c2; have p3 := kr.c3
        clear kr
        have pl := HM.out.lt (b := w2.heap.size) (c0 := y0) (c1 := y1) (c2 := y2) (c3 := y3) (by simp)
        have kr := HM.out.row (b := w3.heap.size) (c0 := y0) (c1 := y1) (c2 := y2) (c3 := y3) (by simp)
        have q0 := kr.c0; have q1 := kr.c1; have q2 := kr.c2; have q3 := kr.c3
        clear kr
        have ql := HM.out.lt (b := w3.heap.size) (c0 := y0) (c1 := y1) (c2 := y2) (c3 := y3) (by simp)
        go_wp2_with fail
        refine (num_calls _ _).mono ?_
        rintro e wn ⟨rfl, rfl⟩
        go_wp2_with fail
        refine (num_calls _ _).mono ?_
        rintro e wn ⟨rfl, rfl⟩
        go_wp2_with fail
        refine (of_calls n hn64 _).mono ?_
        rintro e w6 ⟨rfl, hbl⟩
        have HM' := Lib.hid (HM.out.on hbl)
        clear hbl p0 p1 p2 p3 pl q0 q1 q2 q3 ql
        clear HM
        have HM := HM'
        clear HM'
        go_wp2_with fail
        refine (rofN_calls n _).mono ?_
        rintro e w7 ⟨rfl, hbl⟩
        have HM' := Lib.hid (HM.out.on hbl)
        clear hbl
        clear HM
        have HM := HM'
        clear HM'
        have hSn : ∀ w, (Op.equalIn 10000 25 (.agg #[.int .u64 (n : Nat), .int .u64 0, .int .u64 0, .int .u64 0]) (.agg #[.int .u64 (n : Nat), .int .u64 0, .int .u64 0, .int .u64 0])).run Try.prog w = .ok true w := fun w => equalSelfF n 0 0 0 w
        go_wp2_with fail
        refine region_till (fun wx => Below w7.heap.size w7 wx) 99 (by kernel_rfl) ?_
        have HS := below_drewN' w7.heap.size w7 1
        refine till_keep (i := 0) (v := .int .i64 1) rfl (by kernel_rfl) (by kernel_rfl) (by kernel_rfl) (Nat.le_of_ble_eq_true (by kernel_rfl)) (fun _ _ _ h => h) HS (Or.inl ⟨by kernel_rfl, fun wx hx => ?_⟩) ?_
        · clear HS hx
          go_simp
        simp only [Act.put, List.setIfInBounds_toArray, List.set_cons_zero, List.set_cons_succ]
        refine till_keep (i := 1) (v := .bool false) rfl (by kernel_rfl) (by kernel_rfl) (by kernel_rfl) (Nat.le_of_ble_eq_true (by kernel_rfl)) (fun _ _ _ h => h) HS (Or.inl ⟨by kernel_rfl, fun wx hx => ?_⟩) ?_
        · clear HS hx
          go_simp
        simp only [Act.put, List.setIfInBounds_toArray, List.set_cons_zero, List.set_cons_succ]
        refine till_keep (i := 2) (v := .bool false) rfl (by kernel_rfl) (by kernel_rfl) (by kernel_rfl) (Nat.le_of_ble_eq_true (by kernel_rfl)) (fun _ _ _ h => h) HS (Or.inl ⟨by kernel_rfl, fun wx hx => ?_⟩) ?_
        · clear HS hx
          go_simp
        simp only [Act.put, List.setIfInBounds_toArray, List.set_cons_zero, List.set_cons_succ]
        refine till_keep (i := 3) (v := undef) rfl (by kernel_rfl) (by kernel_rfl) (by kernel_rfl) (Nat.le_of_ble_eq_true (by kernel_rfl)) (fun _ _ _ h => h) HS (Or.inr ⟨by kernel_rfl, rfl⟩) ?_
        simp only [Act.put, List.setIfInBounds_toArray, List.set_cons_zero, List.set_cons_succ]
        refine till_keep (i := 4) (v := undef) rfl (by kernel_rfl) (by kernel_rfl) (by kernel_rfl) (Nat.le_of_ble_eq_true (by kernel_rfl)) (fun _ _ _ h => h) HS (Or.inr ⟨by kernel_rfl, rfl⟩) ?_
        simp only [Act.put, List.setIfInBounds_toArray, List.set_cons_zero, List.set_cons_succ]
        refine till_keep (i := 5) (v := undef) rfl (by kernel_rfl) (by kernel_rfl) (by kernel_rfl) (Nat.le_of_ble_eq_true (by kernel_rfl)) (fun _ _ _ h => h) HS (Or.inr ⟨by kernel_rfl, rfl⟩) ?_
        simp only [Act.put, List.setIfInBounds_toArray, List.set_cons_zero, List.set_cons_succ]
        refine till_keep (i := 6) (v := undef) rfl (by kernel_rfl) (by kernel_rfl) (by kernel_rfl) (Nat.le_of_ble_eq_true (by kernel_rfl)) (fun _ _ _ h => h) HS (Or.inr ⟨by kernel_rfl, rfl⟩) ?_
        simp only [Act.put, List.setIfInBounds_toArray, List.set_cons_zero, List.set_cons_succ]
        refine till_keep (i := 7) (v := undef) rfl (by kernel_rfl) (by kernel_rfl) (by kernel_rfl) (Nat.le_of_ble_eq_true (by kernel_rfl)) (fun _ _ _ h => h) HS (Or.inr ⟨by kernel_rfl, rfl⟩) ?_
        simp only [Act.put, List.setIfInBounds_toArray, List.set_cons_zero, List.set_cons_succ]
        refine till_keep (i := 8) (v := undef) rfl (by kernel_rfl) (by kernel_rfl) (by kernel_rfl) (Nat.le_of_ble_eq_true (by kernel_rfl)) (fun _ _ _ h => h) HS (Or.inr ⟨by kernel_rfl, rfl⟩) ?_
        simp only [Act.put, List.setIfInBounds_toArray, List.set_cons_zero, List.set_cons_succ]
        refine till_keep (i := 9) (v := .bool false) rfl (by kernel_rfl) (by kernel_rfl) (by kernel_rfl) (Nat.le_of_ble_eq_true (by kernel_rfl)) (fun _ _ _ h => h) HS (Or.inl ⟨by kernel_rfl, fun wx hx => ?_⟩) ?_
        · clear HS hx
          go_simp
        simp only [Act.put, List.setIfInBounds_toArray, List.set_cons_zero, List.set_cons_succ]
        refine till_keep (i := 10) (v := .bool false) rfl (by kernel_rfl) (by kernel_rfl) (by kernel_rfl) (Nat.le_of_ble_eq_true (by kernel_rfl)) (fun _ _ _ h => h) HS (Or.inl ⟨by kernel_rfl, fun wx hx => ?_⟩) ?_
        · clear HS hx
          go_simp
        simp only [Act.put, List.setIfInBounds_toArray, List.set_cons_zero, List.set_cons_succ]
        refine till_keep (i := 11) (v := .int .i64 1) rfl (by kernel_rfl) (by kernel_rfl) (by kernel_rfl) (Nat.le_of_ble_eq_true (by kernel_rfl)) (fun _ _ _ h => h) HS (Or.inl ⟨by kernel_rfl, fun wx hx => ?_⟩) ?_
        · clear HS hx
          go_simp
        simp only [Act.put, List.setIfInBounds_toArray, List.set_cons_zero, List.set_cons_succ]
        refine till_keep (i := 12) (v := .bool true) rfl (by kernel_rfl) (by kernel_rfl) (by kernel_rfl) (Nat.le_of_ble_eq_true (by kernel_rfl)) (fun _ _ _ h => h) HS (Or.inl ⟨by kernel_rfl, fun wx hx => ?_⟩) ?_
        · clear HS hx
          go_simp
        simp only [Act.put, List.setIfInBounds_toArray, List.set_cons_zero, List.set_cons_succ]
        refine till_keep (i := 13) (v := .bool true) rfl (by kernel_rfl) (by kernel_rfl) (by kernel_rfl) (Nat.le_of_ble_eq_true (by kernel_rfl)) (fun _ _ _ h => h) HS (Or.inl ⟨by kernel_rfl, fun wx hx => ?_⟩) ?_
        · clear HS hx
          go_simp
        simp only [Act.put, List.setIfInBounds_toArray, List.set_cons_zero, List.set_cons_succ]
        refine till_keep (i := 14) (v := .slice none 0 0) rfl (by kernel_rfl) (by kernel_rfl) (by kernel_rfl) (Nat.le_of_ble_eq_true (by kernel_rfl)) (fun _ _ _ h => h) HS (Or.inl ⟨by kernel_rfl, fun wx hx => ?_⟩) ?_
        · clear HS hx
          go_simp
        simp only [Act.put, List.setIfInBounds_toArray, List.set_cons_zero, List.set_cons_succ]
        refine till_keep (i := 15) (v := .int .i64 0) rfl (by kernel_rfl) (by kernel_rfl) (by kernel_rfl) (Nat.le_of_ble_eq_true (by kernel_rfl)) (fun _ _ _ h => h) HS (Or.inl ⟨by kernel_rfl, fun wx hx => ?_⟩) ?_
        · clear HS hx
          go_simp
        simp only [Act.put, List.setIfInBounds_toArray, List.set_cons_zero, List.set_cons_succ]
        refine till_keep (i := 16) (v := .bool false) rfl (by kernel_rfl) (by kernel_rfl) (by kernel_rfl) (Nat.le_of_ble_eq_true (by kernel_rfl)) (fun _ _ _ h => h) HS (Or.inl ⟨by kernel_rfl, fun wx hx => ?_⟩) ?_
        · clear HS hx
          go_simp
        simp only [Act.put, List.setIfInBounds_toArray, List.set_cons_zero, List.set_cons_succ]
        refine till_keep (i := 17) (v := .bool false) rfl (by kernel_rfl) (by kernel_rfl) (by kernel_rfl) (Nat.le_of_ble_eq_true (by kernel_rfl)) (fun _ _ _ h => h) HS (Or.inl ⟨by kernel_rfl, fun wx hx => ?_⟩) ?_
        · clear HS hx
          go_simp
        simp only [Act.put, List.setIfInBounds_toArray, List.set_cons_zero, List.set_cons_succ]
        have HS' := HS
        clear HS
        refine till_step (i := 18) (by kernel_rfl) rfl (fun K hK => ?_)
        go_simp
        refine hK.out _ _ (Or.inr HS') (fun _ => ?_)
        clear hK K
        refine till_done (by kernel_rfl) ?_
        have HM' := Lib.hid (HM.out.on HS')
        clear HS'
        clear HM
        have HM := HM'
        clear HM'
        go_wp2_with fail
        refine (rfield_none f h1 h2 _).mono ?_
        rintro e wf ⟨rfl, rfl⟩
        have HM' := Lib.hid (show Mem w w7.drew [(w3.heap.size, y0, y1, y2, y3), (w2.heap.size, y0, y1, y2, y3), (w1.heap.size, x0, x1, x2, x3), (w.heap.size + 1 + 1, l0, l1, l2, l3), (w.heap.size + 1, g0, g1, g2, g3), (w.heap.size, a0, a1, a2, a3)] from HM.out)
        clear HM
        have HM := HM'
        clear HM'
        have hZx := eqF_zero hx Vx.out
        have kr := HM.out.row (b := w1.heap.size) (c0 := x0) (c1 := x1) (c2 := x2) (c3 := x3) (by simp)
        have p0 := kr.c0; have p1 := kr.c1; have p2 := kr.c2; have p3 := kr.c3
        clear kr
        have pl := HM.out.lt (b := w1.heap.size) (c0 := x0) (c1 := x1) (c2 := x2) (c3 := x3) (by simp)
        go_wp2_with fail
        refine (num_calls _ _).mono ?_
        rintro e wn ⟨rfl, rfl⟩
        go_wp2_with fail
        refine (works_calls _).mono ?_
        rintro e wl ⟨rfl, hbl⟩
        have ML := Lib.hid (HM.out.on hbl)
        clear hbl
        go_wp2_with fail
        go_ret
        exact ⟨rfl, ML.out.1⟩
theorem numbers_calls (f : Int) (a0 a1 a2 a3 g0 g1 g2 g3 l0 l1 l2 l3 : Nat) (ha : ok4 a0 a1 a2 a3) (hg4 : ok4 g0 g1 g2 g3) (hl4 : ok4 l0 l1 l2 l3) (o : Option Addr) (len cap n : Nat) (hn64 : n < 18446744073709551616) (B : Nat → Nat) (w : World) (hb : BIs w o len B) (ho : o = none → cap = 0) :
    Calls Try.prog 4 #[.int .i64 f, .agg #[.int .u64 a0, .int .u64 a1, .int .u64 a2, .int .u64 a3], .agg #[.int .u64 g0, .int .u64 g1, .int .u64 g2, .int .u64 g3], .agg #[.int .u64 l0, .int .u64 l1, .int .u64 l2, .int .u64 l3], .slice o len cap, .int .u64 n] w fun e w' => e = .returned (.bool true) ∧ Below w.heap.size w w' := by
  by_cases h0 : f = 1 ∨ f = 2
  · obtain ⟨F, hf⟩ : ∃ F, FieldIs f F := by rcases h0 with h1 | h1; exact ⟨FP, Or.inl ⟨h1, rfl⟩⟩; exact ⟨FR, Or.inr ⟨h1, rfl⟩⟩
    by_cases la : val4 a0 a1 a2 a3 < F.M
    · exact numbers_ok f _ _ _ _ _ _ _ _ _ _ _ _ ha hg4 hl4 o len cap n hn64 B F hf la w hb ho
    · exact numbers_bad f _ _ _ _ _ _ _ _ _ _ _ _ ha hg4 hl4 o len cap n hn64 B F hf la w hb ho
  · exact numbers_none f _ _ _ _ _ _ _ _ _ _ _ _ ha hg4 hl4 o len cap n hn64 B (fun q => h0 (Or.inl q)) (fun q => h0 (Or.inr q)) w hb ho
end Go.Proofs.Ytalddekocfkbhaa
namespace Go.Proofs.Ytalddekocfkbhaa
set_option linter.unusedVariables false
open Go.ChangeShapes Go.WideShapes Go.ChangeAt Go.RowKit

theorem u8_bytesN : Try.prog.bytesOf 5 = 1 := by kernel_rfl
theorem u8_cellsN : Try.prog.cellsOf 5 = 1 := by kernel_rfl
section
variable {H : Type} {enc : TypeId × Value → H} {P : Program} {w : World} {base : Nat} {spare : Nat → Bool} {held : Bool}
theorem trodAll_six {t t' t'' t3 t4 t5 : TypeId} {args : Array Value} {ds : List (DataW H)} {ps : List MemPlace} (h : DataW.TrodAll enc P w base spare held [t, t', t'', t3, t4, t5] args.toList ds ps) :
    ∃ v v' v'' v3 v4 v5 d d' d'' d3 d4 d5 p p' p'' p3 p4 p5, args = #[v, v', v'', v3, v4, v5] ∧ ds = [d, d', d'', d3, d4, d5] ∧ ps = p ++ p' ++ p'' ++ p3 ++ p4 ++ p5 ∧ DataW.Trod enc P w base spare held t v d p ∧ DataW.Trod enc P w base spare held t' v' d' p' ∧ DataW.Trod enc P w base spare held t'' v'' d'' p'' ∧ DataW.Trod enc P w base spare held t3 v3 d3 p3 ∧ DataW.Trod enc P w base spare held t4 v4 d4 p4 ∧ DataW.Trod enc P w base spare held t5 v5 d5 p5 := by
  obtain ⟨v, vs, d, ds', p, q, hargs, rfl, rfl, hd, hrest⟩ := trodAll_cons h
  obtain ⟨v', vs', d', ds'', p', q', rfl, rfl, rfl, hd', hrest'⟩ := trodAll_cons hrest
  obtain ⟨v'', vs'', d'', ds''', p'', q'', rfl, rfl, rfl, hd'', hrest''⟩ := trodAll_cons hrest'
  obtain ⟨v3, vs3, d3, ds3, p3, q3, rfl, rfl, rfl, hd3, hrest3⟩ := trodAll_cons hrest''
  obtain ⟨v4, vs4, d4, ds4, p4, q4, rfl, rfl, rfl, hd4, hrest4⟩ := trodAll_cons hrest3
  obtain ⟨v5, vs5, d5, ds5, p5, q5, rfl, rfl, rfl, hd5, hrest5⟩ := trodAll_cons hrest4
  obtain ⟨rfl, rfl, rfl⟩ := trodAll_nil hrest5
  exact ⟨v, v', v'', v3, v4, v5, d, d', d'', d3, d4, d5, p, p', p'', p3, p4, p5, by cases args; simp_all, rfl, by simp, hd, hd', hd'', hd3, hd4, hd5⟩
theorem trodAll_mk6 {t t' t'' t3 t4 t5 : TypeId} {v v' v'' v3 v4 v5 : Value} {d d' d'' d3 d4 d5 : DataW H} {p p' p'' p3 p4 p5 : List MemPlace} (h : DataW.Trod enc P w base spare held t v d p) (h' : DataW.Trod enc P w base spare held t' v' d' p')
    (h'' : DataW.Trod enc P w base spare held t'' v'' d'' p'') (h3 : DataW.Trod enc P w base spare held t3 v3 d3 p3) (h4 : DataW.Trod enc P w base spare held t4 v4 d4 p4) (h5 : DataW.Trod enc P w base spare held t5 v5 d5 p5) :
    DataW.TrodAll enc P w base spare held [t, t', t'', t3, t4, t5] [v, v', v'', v3, v4, v5] [d, d', d'', d3, d4, d5] (p ++ (p' ++ (p'' ++ (p3 ++ (p4 ++ p5))))) :=
  ⟨p, p' ++ (p'' ++ (p3 ++ (p4 ++ p5))), h, ⟨p', p'' ++ (p3 ++ (p4 ++ p5)), h', trodAll_mk4 h'' h3 h4 h5, rfl⟩, rfl⟩
end
theorem open_bytesN {H : Type} {enc : TypeId × Value → H} {W : World} {o : Option Addr} {len cap : Nat} {d : DataW H} {ps : List MemPlace} (h : DataW.Trod enc Try.prog W 0 (fun _ => true) true 46 (.slice o len cap) d ps) (hl : ∀ x ∈ ps, x.block < W.heap.size)
    (hsz : ∀ elems spare, d = .slice elems spare → (elems.length + spare.length) * Try.prog.bytesOf 5 ≤ reachBytes) :
    ∃ B, BIs W o len B ∧ (o = none → cap = 0) := by
  obtain ⟨fuel, hf⟩ := h
  rcases open_ints Try.underlying46 Try.underlying5 u8_cellsN hf with ⟨hcs, hx⟩ | ⟨a, len', cap', zs, hcs, _, hl', hm, hz, hx, hcell, hwz⟩
  · simp [Value.cells] at hcs
    obtain ⟨rfl, rfl, rfl⟩ := hcs
    exact ⟨fun _ => 0, ⟨by omega, fun _ => Nat.zero_lt_succ _, fun h => absurd h (by omega)⟩, fun _ => rfl⟩
  · simp [Value.cells] at hcs
    obtain ⟨rfl, rfl, rfl⟩ := hcs
    simp only [Prod.mk.injEq] at hx
    obtain ⟨hd, rfl⟩ := hx
    simp only [if_true] at hz
    have hs := hsz _ _ hd
    rw [u8_bytesN] at hs
    simp only [lits, List.length_map, List.length_take, List.length_drop, reachBytes] at hs
    have hlen : len ≤ 140737488351232 := by omega
    have hB : ∀ k, ∃ n : Nat, n < 256 ∧ zs.getD k 0 = (n : Int) := fun k => by
      by_cases hk : k < zs.length
      · have h1 := bounds_u8 (hwz (zs[k]) (List.getElem_mem hk))
        refine ⟨(zs[k]).toNat, by omega, ?_⟩
        rw [List.getD_eq_getElem?_getD, List.getElem?_eq_getElem hk]
        show zs[k] = _
        omega
      · exact ⟨0, by omega, by rw [List.getD_eq_getElem?_getD, List.getElem?_eq_none (by omega)]; rfl⟩
    refine ⟨fun k => Classical.choose (hB k), ⟨hlen, fun k => (Classical.choose_spec (hB k)).1, fun h0 => ?_⟩, fun h => by cases h⟩
    obtain ⟨b, off, spot⟩ := a
    have hspot : spot = none := by simpa [Addr.add] using World.cell?_spot (hcell 0 (by omega))
    subst hspot
    have hb : b < W.heap.size := hl (.cell b off) (MemPlace.mem_row.2 ⟨0, by omega, by simp⟩)
    refine ⟨b, off, rfl, hb, fun k hk => ?_⟩
    rw [← (Classical.choose_spec (hB k)).2, ← add_plain]
    exact hcell k (by omega)

set_option maxRecDepth 100000 in
theorem numbers_lifted (os : Os) (started : os.Started) (H : Type) (enc : TypeId × Value → H) :
    ReturnsInHanded {} Try.checked os 4 .any (Rows.fieldNumbersSpec.pre6 enc Try.prog Try.f4 Rows.fieldNumbersRow.domain false) (Rows.fieldNumbersSpec.post enc Try.prog Try.f4 false true false false) := by
  refine returnsInHanded_of_change_sized (C := Try.checked) own started (by kernel_rfl) Try.func4
    (ChangeSpec.witness6 (enc := enc) (C := Try.checked) false ⟨#[], #[.int .i64 0, .agg #[.int .u64 0, .int .u64 0, .int .u64 0, .int .u64 0], .agg #[.int .u64 0, .int .u64 0, .int .u64 0, .int .u64 0], .agg #[.int .u64 0, .int .u64 0, .int .u64 0, .int .u64 0], .slice none 0 0, .int .u64 0], []⟩ 8 (by kernel_rfl) (by kernel_rfl) (by kernel_rfl) (by kernel_rfl)) ?_
  intro W base args ds gs before hval0 hW hcnd hsz0 _
  have hval : ∀ (j : Nat) t v, Try.f4.params[j]? = some t → args[j]? = some v → Value.okWide Try.prog W .any base t v := hval0
  have hW' := hW
  obtain ⟨p, q, hA0, hV, rfl, hfz, hnd⟩ := hW
  have hA : DataW.TrodAll enc Try.prog W 0 (fun _ => true) true Try.f4.params.toList args.toList ds p := hA0
  have hsz : (DataW.weightsEach Try.prog (Try.f4.params.toList ++ Rows.fieldNumbersSpec.plain.varTypes Try.prog) (ds ++ gs)).all (· ≤ reachBytes) = true := hsz0
  rw [Try.params4] at hA hval hsz
  obtain ⟨v0, v1, v2, v3, v4, v5, d0, d1, d2, d3, d4, d5, p0, p1, p2, p3, p4, p5, rfl, rfl, rfl, h0, h1, h2, h3, h4, h5⟩ := trodAll_six hA
  obtain ⟨rfl, rfl⟩ := trodVars_none hV
  obtain ⟨a, rfl, rfl, rfl, ga⟩ := open_int Try.underlying22 (hval 0 _ _ rfl rfl) h0
  obtain ⟨b0, b1, b2, b3, rfl, gb⟩ := open_word' (P := Try.prog) (t := 25) (e := 23) Try.underlying25 Try.underlying23 fe_cells u64_cells hval 1 rfl rfl h1
  obtain ⟨c0, c1, c2, c3, rfl, gc⟩ := open_word' (P := Try.prog) (t := 26) (e := 23) Try.underlying26 Try.underlying23 word_cells u64_cells hval 2 rfl rfl h2
  obtain ⟨d0, d1, d2, d3, rfl, gd⟩ := open_word' (P := Try.prog) (t := 26) (e := 23) Try.underlying26 Try.underlying23 word_cells u64_cells hval 3 rfl rfl h3
  obtain ⟨eo, en, ec, rfl⟩ := okWide_slice Try.underlying46 (hval 4 _ _ rfl rfl)
  obtain ⟨f, rfl, rfl, rfl, gf⟩ := open_int Try.underlying23 (hval 5 _ _ rfl rfl) h5
  obtain ⟨f, rfl, lf⟩ := nat_of_wf gf
  clear hA0 hval0
  simp only [List.append_nil] at hW'
  have l0 : ∀ x ∈ ([] : List MemPlace), x.block < W.heap.size := fun x hx => by cases hx
  have l1 : ∀ x ∈ p1, x.block < W.heap.size := fun x hx => hW'.lt x (by simp [hx])
  have l2 : ∀ x ∈ p2, x.block < W.heap.size := fun x hx => hW'.lt x (by simp [hx])
  have l3 : ∀ x ∈ p3, x.block < W.heap.size := fun x hx => hW'.lt x (by simp [hx])
  have l4 : ∀ x ∈ p4, x.block < W.heap.size := fun x hx => hW'.lt x (by simp [hx])
  have l5 : ∀ x ∈ ([] : List MemPlace), x.block < W.heap.size := fun x hx => by cases hx
  obtain ⟨Bf, hbs, hnil⟩ := open_bytesN h4 l4 (fun elems spare e => sized_slice hsz (j := 4) (t := 46) (e := 5) rfl (by rw [e]; rfl) Try.underlying46)
  refine (numbers_calls a b0 b1 b2 b3 c0 c1 c2 c3 d0 d1 d2 d3 gb gc gd eo en ec f lf Bf W hbs hnil).mono fun e W' ⟨he, hbl⟩ => ?_
  subst he
  have kF : ∀ {v d ps}, DataW.Trod enc Try.prog W 0 (fun _ => true) true 25 v d ps → (∀ x ∈ ps, x.block < W.heap.size) → DataW.Trod enc Try.prog W' 0 (fun b => decide (b < W.heap.size)) true 25 v d ps :=
    fun h l => Below.trod laidOut (by kernel_rfl) (of_decide_eq_true (by kernel_rfl)) h hbl l
  have kW : ∀ {v d ps}, DataW.Trod enc Try.prog W 0 (fun _ => true) true 26 v d ps → (∀ x ∈ ps, x.block < W.heap.size) → DataW.Trod enc Try.prog W' 0 (fun b => decide (b < W.heap.size)) true 26 v d ps :=
    fun h l => Below.trod laidOut (by kernel_rfl) (of_decide_eq_true (by kernel_rfl)) h hbl l
  have kb : ∀ {v d ps}, DataW.Trod enc Try.prog W 0 (fun _ => true) true 46 v d ps → (∀ x ∈ ps, x.block < W.heap.size) → DataW.Trod enc Try.prog W' 0 (fun b => decide (b < W.heap.size)) true 46 v d ps :=
    fun h l => Below.trod laidOut (by kernel_rfl) (of_decide_eq_true (by kernel_rfl)) h hbl l
  have kf : ∀ {v d ps}, DataW.Trod enc Try.prog W 0 (fun _ => true) true 22 v d ps → (∀ x ∈ ps, x.block < W.heap.size) → DataW.Trod enc Try.prog W' 0 (fun b => decide (b < W.heap.size)) true 22 v d ps :=
    fun h l => Below.trod laidOut (by kernel_rfl) (of_decide_eq_true (by kernel_rfl)) h hbl l
  have ku : ∀ {v d ps}, DataW.Trod enc Try.prog W 0 (fun _ => true) true 23 v d ps → (∀ x ∈ ps, x.block < W.heap.size) → DataW.Trod enc Try.prog W' 0 (fun b => decide (b < W.heap.size)) true 23 v d ps :=
    fun h l => Below.trod laidOut (by kernel_rfl) (of_decide_eq_true (by kernel_rfl)) h hbl l
  exact ⟨_, rfl, ⟨_, _, _, [], _, [], hW', trodAll_mk1 (shut_bool Try.underlying4 _), trodAll_mk6 (kf h0 l0) (kF h1 l1) (kW h2 l2) (kW h3 l3) (kb h4 l4) (ku h5 l5), rfl, hbl.frame _, fun h => by cases h⟩⟩

theorem numbers_holds : Rows.FieldNumbersSaid :=
  OpenClaim.holds_of_wide 4 Try.f4 rfl rfl rfl rfl rfl rfl rfl ⟨rfl, rfl, rfl, rfl, rfl⟩ rfl rfl rfl rfl rfl (by kernel_rfl) Try.func4 (by kernel_rfl)
    (of_decide_eq_true (by kernel_rfl)) (by unfold Func.isWrapper; first | (rw [if_pos (by decide +kernel)]; kernel_rfl) | (rw [if_neg (by decide +kernel)]; exact ⟨rfl, rfl⟩))
    (fun os started H enc _ => numbers_lifted os started H enc)
#print axioms numbers_holds
end Go.Proofs.Ytalddekocfkbhaa
