/-
  The inverses of a list.
  The call Invs.
  The call Invs of a list of no element, wherever it lies.
  The call Dot: the sum of the products of two lists, in each of its cases. Conditions: the lists as they lie.
-/
import Derived.Test.YtgacpjmggdmgdaaGreatInv0
import Derived.Test.YtgacpjmggdmgdaaGreatInvNum
import Derived.Test.YtgacpjmggdmgdaaGreatRoot9
import Derived.Test.YtgacpjmggdmgdaaGreatFRing9
import Derived.Test.YtgacpjmggdmgdaaGreatTill
namespace Go.Proofs.YtgacpjmggdmgdaaGreat
set_option linter.unusedVariables false
set_option linter.unusedSimpArgs false
open Go.ChangeShapes Go.WideShapes Go.ChangeAt Go.RowKit

/-- element j of the list, as a number -/
def elA (A : Nat → Nat → Nat) (j : Nat) : Nat := val4 (A j 0) (A j 1) (A j 2) (A j 3)
/-- element j of a row of words -/
def elP (P : Nat → Nat) (j : Nat) : Nat := val4 (P (j * 4)) (P (j * 4 + 1)) (P (j * 4 + 2)) (P (j * 4 + 3))
def okP (P : Nat → Nat) (j : Nat) : Prop := ok4 (P (j * 4)) (P (j * 4 + 1)) (P (j * 4 + 2)) (P (j * 4 + 3))
def putP (P : Nat → Nat) (k q0 q1 q2 q3 : Nat) : Nat → Nat := upd (upd (upd (upd P (k * 4) q0) (k * 4 + 1) q1) (k * 4 + 2) q2) (k * 4 + 3) q3
theorem putP_same (P : Nat → Nat) (k q0 q1 q2 q3 : Nat) : elP (putP P k q0 q1 q2 q3) k = val4 q0 q1 q2 q3 ∧ (ok4 q0 q1 q2 q3 → okP (putP P k q0 q1 q2 q3) k) := by
  have e0 : putP P k q0 q1 q2 q3 (k * 4) = q0 := by unfold putP upd; rw [if_neg (by omega), if_neg (by omega), if_neg (by omega), if_pos rfl]
  have e1 : putP P k q0 q1 q2 q3 (k * 4 + 1) = q1 := by unfold putP upd; rw [if_neg (by omega), if_neg (by omega), if_pos rfl]
  have e2 : putP P k q0 q1 q2 q3 (k * 4 + 2) = q2 := by unfold putP upd; rw [if_neg (by omega), if_pos rfl]
  have e3 : putP P k q0 q1 q2 q3 (k * 4 + 3) = q3 := by unfold putP upd; rw [if_pos rfl]
  unfold elP okP
  rw [e0, e1, e2, e3]
  exact ⟨rfl, id⟩
theorem putP_other (P : Nat → Nat) (k q0 q1 q2 q3 j : Nat) (h : j ≠ k) : elP (putP P k q0 q1 q2 q3) j = elP P j ∧ (okP P j → okP (putP P k q0 q1 q2 q3) j) := by
  have e : ∀ i, i < 4 → putP P k q0 q1 q2 q3 (j * 4 + i) = P (j * 4 + i) := fun i hi => by
    unfold putP upd; rw [if_neg (by omega), if_neg (by omega), if_neg (by omega), if_neg (by omega)]
  have e0 : putP P k q0 q1 q2 q3 (j * 4) = P (j * 4) := e 0 (by omega)
  unfold elP okP
  rw [e0, e 1 (by omega), e 2 (by omega), e 3 (by omega)]
  exact ⟨rfl, id⟩
theorem RowIs.putP {w : World} {b n : Nat} {P : Nat → Nat} (h : RowIs w b (n * 4) P) {k : Nat} (hk : k < n) (q0 q1 q2 q3 : Nat) :
    RowIs ((((w.setCell ⟨b, k * 4, none⟩ (.int .u64 (q0 : Nat))).setCell ⟨b, k * 4 + 1, none⟩ (.int .u64 (q1 : Nat))).setCell ⟨b, k * 4 + 2, none⟩ (.int .u64 (q2 : Nat))).setCell ⟨b, k * 4 + 3, none⟩ (.int .u64 (q3 : Nat))) b (n * 4) (putP P k q0 q1 q2 q3) :=
  (((h.set (i := k * 4) (by omega) (v := q0)).set (i := k * 4 + 1) (by omega) (v := q1)).set (i := k * 4 + 2) (by omega) (v := q2)).set (i := k * 4 + 3) (by omega) (v := q3)

theorem Mem.poke {w wr : World} {rs : List (Nat × Nat × Nat × Nat × Nat)} (h : Mem w wr rs) {c i : Nat} (hw : w.heap.size ≤ c) (hne : ∀ r, r ∈ rs → r.1 ≠ c) (v : Value) : Mem w (wr.setCell ⟨c, i, none⟩ v) rs :=
  ⟨h.1.setCell (p := ⟨c, i, none⟩) hw v, fun r hr => ⟨by rw [World.size_setCell]; exact (h.2 r hr).1, (h.2 r hr).2.other (fun e => hne r hr e.symm) v⟩⟩
theorem ahead_next {F : FC} {E : Nat → Nat} {P : Nat → Nat} {k q0 q1 q2 q3 : Nat} (hq : ok4 q0 q1 q2 q3) (hv : val4 q0 q1 q2 q3 = kp F (prA F.M E k)) (h : ∀ j, j < k → okP P j ∧ elP P j = kp F (prA F.M E j)) :
    ∀ j, j < k + 1 → okP (putP P k q0 q1 q2 q3) j ∧ elP (putP P k q0 q1 q2 q3) j = kp F (prA F.M E j) := fun j hj => by
  by_cases e : j = k
  · subst e
    exact ⟨(putP_same P j q0 q1 q2 q3).2 hq, by rw [(putP_same P j q0 q1 q2 q3).1, hv]⟩
  · have := h j (by omega)
    exact ⟨(putP_other P k q0 q1 q2 q3 j e).2 this.1, by rw [(putP_other P k q0 q1 q2 q3 j e).1, this.2]⟩

theorem inv_step {F : FC} (hF : F.Ok) {gr : Nat} (hr : Root F.M gr) {E : Nat → Nat} {j : Nat} (hE : ∀ k, k ≤ j → E k < F.M) (hz : E j ≠ 0) : kp F (prA F.M E (j + 1) ^ (F.M - 2) * E j % F.M) = kp F (prA F.M E j ^ (F.M - 2)) := by
  have h2 : 2 ≤ F.M := by have := hF.gt; omega
  have hp := prA_ok hr h2 (E := E) (j := j) (fun k h => hE k (by omega))
  have e : prA F.M E (j + 1) = prA F.M E j * E j % F.M := by show (if E j = 0 then _ else _) = _; rw [if_neg hz]
  rw [e, inv_part hr h2 hp.1 hp.2 (by omega) (hE j (Nat.le_refl _)), kp_mod]
theorem inv_out {F : FC} (hF : F.Ok) {gr : Nat} (hr : Root F.M gr) {E : Nat → Nat} {j : Nat} (hE : ∀ k, k ≤ j → E k < F.M) (hz : E j ≠ 0) : prA F.M E (j + 1) ^ (F.M - 2) * prA F.M E j % F.M = E j ^ (F.M - 2) % F.M := by
  have h2 : 2 ≤ F.M := by have := hF.gt; omega
  have hp := prA_ok hr h2 (E := E) (j := j) (fun k h => hE k (by omega))
  have e : prA F.M E (j + 1) = E j * prA F.M E j % F.M := by show (if E j = 0 then _ else _) = _; rw [if_neg hz, Nat.mul_comm]
  rw [e, inv_part hr h2 (by omega) (hE j (Nat.le_refl _)) hp.1 hp.2]
theorem inv_zero {F : FC} (hF : F.Ok) {a : Nat} (hz : a = 0) : a ^ (F.M - 2) % F.M = 0 := by
  have := hF.gt
  subst hz
  rw [Nat.zero_pow (by omega), Nat.zero_mod]
/-- what a list's inverses are -/
def InvsPost (F : FC) (len : Nat) (A : Nat → Nat → Nat) (w : World) (e : Ending) (w' : World) : Prop :=
  ∃ (bo : Nat) (O : Nat → Nat), e = .returned (.slice (some ⟨bo, 0, none⟩) len len) ∧ w.heap.size ≤ bo ∧ bo < w'.heap.size ∧ RowIs w' bo (len * 4) O ∧ (∀ j, j < len → okP O j ∧ elP O j = elA A j ^ (F.M - 2) % F.M) ∧ Below w.heap.size w w'

end Go.Proofs.YtgacpjmggdmgdaaGreat
namespace Go.Proofs.YtgacpjmggdmgdaaGreat
set_option linter.unusedVariables false
set_option linter.unusedSimpArgs false
open Go.ChangeShapes Go.WideShapes Go.ChangeAt Go.RowKit

/-- a list in hand: nothing, or a slice of elements laid in memory -/
def LIs (w : World) (v : Value) (len : Nat) (A : Nat → Nat → Nat) : Prop :=
  LOk len A ∧ len ≤ 9223372036854775807 ∧ ((v = .slice none 0 0 ∧ len = 0) ∨ ∃ g off cap, v = .slice (some ⟨g, off, none⟩) len cap ∧ g < w.heap.size ∧ LAt w g off len A)

end Go.Proofs.YtgacpjmggdmgdaaGreat
namespace Go.Proofs.YtgacpjmggdmgdaaGreat
set_option linter.unusedVariables false
set_option linter.unusedSimpArgs false
open Go.ChangeShapes Go.WideShapes Go.ChangeAt Go.RowKit

set_option maxRecDepth 20000 in
set_option maxHeartbeats 4000000 in
theorem hasAll_nil (p : Option Addr) (cap b : Nat) (w : World) :
    Calls Tryz.prog 176 #[.pointer (some ⟨b, 0, none⟩), .slice p 0 cap] w fun e w' => e = .returned (.bool true) ∧ w' = w := by
  go_enter Tryz.func176, Tryz.ntmps176
  go_wp2_with fail
  refine wp_loop_rounds 2 ?_
  rw [rounds_succ]
  go_wp2_with fail
  go_ret
  exact ⟨rfl, rfl⟩

/-- what Invs answers where all is well -/
def FInvs (F : FC) (len : Nat) (A : Nat → Nat → Nat) (w : World) (e : Ending) (w' : World) : Prop :=
  ∃ (bo : Nat) (O : Nat → Nat), e = .returned (.tuple #[.slice (some ⟨bo, 0, none⟩) len len, .int .i64 0]) ∧ w.heap.size ≤ bo ∧ bo < w'.heap.size ∧ RowIs w' bo (len * 4) O ∧ (∀ j, j < len → okP O j ∧ elP O j = elA A j ^ (F.M - 2) % F.M) ∧ Below w.heap.size w w'
end Go.Proofs.YtgacpjmggdmgdaaGreat
namespace Go.Proofs.YtgacpjmggdmgdaaGreat
set_option linter.unusedVariables false
set_option linter.unusedSimpArgs false
open Go.RowKit

/-- a list of elements in hand, wherever it lies -/
def FIs (W : World) (o : Option Addr) (len : Nat) (A : Nat → Nat → Nat) : Prop := len * 32 ≤ 140737488351232 ∧ LOk len A ∧ (0 < len → ∃ g off, o = some ⟨g, off, none⟩ ∧ g < W.heap.size ∧ LAt W g off len A)
theorem FIs.on {W w : World} {o : Option Addr} {len : Nat} {A : Nat → Nat → Nat} (h : FIs W o len A) (hb : Below W.heap.size W w) : FIs w o len A := by
  refine ⟨h.1, h.2.1, fun hl => ?_⟩
  obtain ⟨g, off, e, hg, hc⟩ := h.2.2 hl
  exact ⟨g, off, e, Nat.lt_of_lt_of_le hg hb.size, hc.same (fun _ => hg) hb⟩
def allIn (M : Nat) (len : Nat) (A : Nat → Nat → Nat) : Prop := ∀ k, k < len → elA A k < M
theorem hasAll_any (F : FC) (hF : F.Ok) (b : Nat) (o : Option Addr) (len cap : Nat) (A : Nat → Nat → Nat) (w : World) (hk : KIs w b F) (h : FIs w o len A) :
    Calls Tryz.prog 176 #[.pointer (some ⟨b, 0, none⟩), .slice o len cap] w fun e w' => (∃ t : Bool, e = .returned (.bool t) ∧ (t = true ↔ allIn F.M len A)) ∧ Below w.heap.size w w' := by
  by_cases h0 : 0 < len
  · obtain ⟨g, off, rfl, hg, hc⟩ := h.2.2 h0
    exact hasAll_calls F hF b g off len cap A h.2.1 (by have := h.1; omega) w hk (fun _ => hg) hc
  · obtain rfl : len = 0 := by omega
    refine (hasAll_nil o cap b w).mono ?_
    rintro e w' ⟨he, rfl⟩
    exact ⟨⟨true, he, fun _ k hk => absurd hk (by omega), fun _ => rfl⟩, Below.refl _ _⟩
def dotN (M : Nat) (X Y : Nat → Nat) : Nat → Nat
  | 0 => 0
  | n + 1 => (dotN M X Y n + X n * Y n) % M
theorem dotN_lt {M : Nat} (h : 0 < M) (X Y : Nat → Nat) : ∀ n, dotN M X Y n < M
  | 0 => h
  | n + 1 => Nat.mod_lt _ h
theorem dot_step {F : FC} (hF : F.Ok) {s x y d : Nat} (h : s * F.R % F.M = d) : (s + x * y * F.Ri % F.M) % F.M * F.R % F.M = (d + x * y) % F.M := by
  have e1 : (s + x * y * F.Ri % F.M) % F.M * F.R % F.M = (s * F.R + x * y * F.Ri * F.R) % F.M := by
    rw [Nat.mod_mul_mod, Nat.add_mul, Nat.add_mod, Nat.mod_mul_mod, ← Nat.add_mod]
  have e2 : x * y * F.Ri * F.R % F.M = x * y % F.M := by rw [Nat.mul_right_comm]; exact ri_cancel hF _
  rw [e1, Nat.add_mod, h, e2, Nat.add_mod_mod]
set_option maxRecDepth 100000 in
set_option maxHeartbeats 4000000 in
theorem fdot_none (f : Int) (h1 : f ≠ 1) (h2 : f ≠ 2) (p q : Option Addr) (la ca lb cb : Nat)  (w : World) :
    Calls Tryz.prog 159 #[.int .i64 f, .slice p la ca, .slice q lb cb] w (FeE 1 0 w) := by
  go_enter Tryz.func159, Tryz.ntmps159
  go_wp2_with fail
  have HM := Lib.hid ((Mem.nil w).new (w.heap.size) 0 0 0 0 24 (by simp))
  refine (cons_none f h1 h2 _).mono ?_
  rintro e w1 ⟨rfl, hbl⟩
  have HM' := Lib.hid (HM.out.on hbl)
  clear hbl
  clear HM
  have HM := HM'
  clear HM'
  have kr := HM.out.row (b := w.heap.size) (c0 := 0) (c1 := 0) (c2 := 0) (c3 := 0) (by simp)
  have y0 := kr.c0; have y1 := kr.c1; have y2 := kr.c2; have y3 := kr.c3; have yf := kr.fr
  clear kr
  have yl := HM.out.lt (b := w.heap.size) (c0 := 0) (c1 := 0) (c2 := 0) (c3 := 0) (by simp)
  go_wp2_with fail
  refine bodyPost_ret (v := .tuple #[.agg #[.int .u64 (0 : Nat), .int .u64 (0 : Nat), .int .u64 (0 : Nat), .int .u64 (0 : Nat)], .int .i64 1]) (by simp [results, Tryz.results159, go_sem, *]) rfl ?_
  refine ⟨_, _, _, _, rfl, zok, rfl, ?_⟩
  have hb := HM.out.1
  repeat (first | exact hb | refine Below.drew ?_ | refine Below.alloc ?_ (by first | exact hb.size | (simp; done) | (simp; omega)) _ | refine Below.setCell ?_ (by simp) _)
set_option maxRecDepth 100000 in
set_option maxHeartbeats 4000000 in
theorem fdot_count (f : Int) (F : FC) (hf : FieldIs f F) (p q : Option Addr) (la ca lb cb : Nat) (hne : la ≠ lb ∨ 65536 < la) (hm : la ≤ 9223372036854775807) (hm2 : lb ≤ 9223372036854775807) (w : World) :
    Calls Tryz.prog 159 #[.int .i64 f, .slice p la ca, .slice q lb cb] w (FeE 3 0 w) := by
  go_enter Tryz.func159, Tryz.ntmps159
  go_wp2_with fail
  have HM := Lib.hid ((Mem.nil w).new (w.heap.size) 0 0 0 0 24 (by simp))
  refine (cons_some f F hf _).mono ?_
  rintro e w1 ⟨rfl, hbl⟩
  have KK := Lib.hid (KIs.new w1 F 137)
  have B1 := Lib.hid (HM.out.on hbl)
  clear HM hbl
  have HM := Lib.hid (show Mem w (w1.alloc (.cells #[.int .u64 F.m0, .int .u64 F.m1, .int .u64 F.m2, .int .u64 F.m3, .int .u64 F.inv, .int .u64 F.s0, .int .u64 F.s1, .int .u64 F.s2, .int .u64 F.s3] 137)) [(w.heap.size, 0, 0, 0, 0)] from B1.out.on ((Below.refl _ _).alloc (Nat.le_refl _) _))
  clear B1
  have kr := HM.out.row (b := w.heap.size) (c0 := 0) (c1 := 0) (c2 := 0) (c3 := 0) (by simp)
  have y0 := kr.c0; have y1 := kr.c1; have y2 := kr.c2; have y3 := kr.c3; have yf := kr.fr
  clear kr
  have yl := HM.out.lt (b := w.heap.size) (c0 := 0) (c1 := 0) (c2 := 0) (c3 := 0) (by simp)
  by_cases h : la = lb
  · subst h
    have t1 : decide ((65536 : Int) < (la : Int)) = true := decide_eq_true (by omega)
    go_wp2_with fail
    refine bodyPost_ret (v := .tuple #[.agg #[.int .u64 (0 : Nat), .int .u64 (0 : Nat), .int .u64 (0 : Nat), .int .u64 (0 : Nat)], .int .i64 3]) (by simp [results, Tryz.results159, go_sem, *]) rfl ?_
    refine ⟨_, _, _, _, rfl, zok, rfl, ?_⟩
    exact below_set4 HM.out.1 (Nat.le_refl _) 0 0 0 0
  · have t1 : ((la : Int) != (lb : Int)) = true := by simp; omega
    go_wp2_with fail
    refine bodyPost_ret (v := .tuple #[.agg #[.int .u64 (0 : Nat), .int .u64 (0 : Nat), .int .u64 (0 : Nat), .int .u64 (0 : Nat)], .int .i64 3]) (by simp [results, Tryz.results159, go_sem, *]) rfl ?_
    refine ⟨_, _, _, _, rfl, zok, rfl, ?_⟩
    exact below_set4 HM.out.1 (Nat.le_refl _) 0 0 0 0
set_option maxRecDepth 100000 in
set_option maxHeartbeats 4000000 in
theorem fdot_elem (f : Int) (F : FC) (hf : FieldIs f F) (p q : Option Addr) (la ca lb cb : Nat) (A B : Nat → Nat → Nat) (h1 : la = lb) (h2 : la ≤ 65536) (hbad : ¬ (allIn F.M la A ∧ allIn F.M lb B)) (w : World) (hA : FIs w p la A) (hB : FIs w q lb B) :
    Calls Tryz.prog 159 #[.int .i64 f, .slice p la ca, .slice q lb cb] w (FeE 21 0 w) := by
  subst h1
  have HA := Lib.hid hA
  have HB := Lib.hid hB
  clear hA hB
  go_enter Tryz.func159, Tryz.ntmps159
  go_wp2_with fail
  have HM := Lib.hid ((Mem.nil w).new (w.heap.size) 0 0 0 0 24 (by simp))
  refine (cons_some f F hf _).mono ?_
  rintro e w1 ⟨rfl, hbl⟩
  have KK := Lib.hid (KIs.new w1 F 137)
  have B1 := Lib.hid (HM.out.on hbl)
  clear HM hbl
  have HM := Lib.hid (show Mem w (w1.alloc (.cells #[.int .u64 F.m0, .int .u64 F.m1, .int .u64 F.m2, .int .u64 F.m3, .int .u64 F.inv, .int .u64 F.s0, .int .u64 F.s1, .int .u64 F.s2, .int .u64 F.s3] 137)) [(w.heap.size, 0, 0, 0, 0)] from B1.out.on ((Below.refl _ _).alloc (Nat.le_refl _) _))
  clear B1
  have t1 : decide ((65536 : Int) < (la : Int)) = false := decide_eq_false (by omega)
  go_wp2_with fail
  refine (hasAll_any F hf.ok w1.heap.size p la ca A _ KK.out (HA.out.on HM.out.1)).mono ?_
  rintro e w2 ⟨⟨t, rfl, ht⟩, hbl⟩
  by_cases ha : allIn F.M la A
  · obtain rfl : t = true := ht.2 ha
    have KK' := Lib.hid (KK.out.same hbl)
    have HM' := Lib.hid (HM.out.on hbl)
    clear hbl KK ht
    have KK := KK'
    clear KK'
    clear HM
    have HM := HM'
    clear HM'
    go_wp2_with fail
    refine (hasAll_any F hf.ok w1.heap.size q la cb B _ KK.out (HB.out.on HM.out.1)).mono ?_
    rintro e w3 ⟨⟨t, rfl, ht⟩, hbl⟩
    obtain rfl : t = false := by
      cases t with
      | false => rfl
      | true => exact absurd (ht.1 rfl) (fun h => hbad ⟨ha, h⟩)
    have KK' := Lib.hid (KK.out.same hbl)
    have HM' := Lib.hid (HM.out.on hbl)
    clear hbl KK ht
    have KK := KK'
    clear KK'
    clear HM
    have HM := HM'
    clear HM'
    have kr := HM.out.row (b := w.heap.size) (c0 := 0) (c1 := 0) (c2 := 0) (c3 := 0) (by simp)
    have y0 := kr.c0; have y1 := kr.c1; have y2 := kr.c2; have y3 := kr.c3; have yf := kr.fr
    clear kr
    have yl := HM.out.lt (b := w.heap.size) (c0 := 0) (c1 := 0) (c2 := 0) (c3 := 0) (by simp)
    go_wp2_with fail
    refine bodyPost_ret (v := .tuple #[.agg #[.int .u64 (0 : Nat), .int .u64 (0 : Nat), .int .u64 (0 : Nat), .int .u64 (0 : Nat)], .int .i64 21]) (by simp [results, Tryz.results159, go_sem, *]) rfl ?_
    refine ⟨_, _, _, _, rfl, zok, rfl, ?_⟩
    exact below_set4 HM.out.1 (Nat.le_refl _) 0 0 0 0
  · obtain rfl : t = false := by
      cases t with
      | false => rfl
      | true => exact absurd (ht.1 rfl) ha
    have KK' := Lib.hid (KK.out.same hbl)
    have HM' := Lib.hid (HM.out.on hbl)
    clear hbl KK ht
    have KK := KK'
    clear KK'
    clear HM
    have HM := HM'
    clear HM'
    have kr := HM.out.row (b := w.heap.size) (c0 := 0) (c1 := 0) (c2 := 0) (c3 := 0) (by simp)
    have y0 := kr.c0; have y1 := kr.c1; have y2 := kr.c2; have y3 := kr.c3; have yf := kr.fr
    clear kr
    have yl := HM.out.lt (b := w.heap.size) (c0 := 0) (c1 := 0) (c2 := 0) (c3 := 0) (by simp)
    go_wp2_with fail
    refine bodyPost_ret (v := .tuple #[.agg #[.int .u64 (0 : Nat), .int .u64 (0 : Nat), .int .u64 (0 : Nat), .int .u64 (0 : Nat)], .int .i64 21]) (by simp [results, Tryz.results159, go_sem, *]) rfl ?_
    refine ⟨_, _, _, _, rfl, zok, rfl, ?_⟩
    exact below_set4 HM.out.1 (Nat.le_refl _) 0 0 0 0
set_option maxRecDepth 100000 in
set_option maxHeartbeats 4000000 in
theorem fdot_ok (f : Int) (F : FC) (hf : FieldIs f F) (p q : Option Addr) (la ca lb cb : Nat) (A B : Nat → Nat → Nat) (h1 : la = lb) (h2 : la ≤ 65536) (ia : allIn F.M la A) (ib : allIn F.M lb B) (w : World) (hA : FIs w p la A) (hB : FIs w q lb B) :
    Calls Tryz.prog 159 #[.int .i64 f, .slice p la ca, .slice q lb cb] w (FeE 0 (dotN F.M (elA A) (elA B) la) w) := by
  subst h1
  have hok := hf.ok
  have hpos := hf.ok.pos
  have IA := Lib.hid ia
  have IB := Lib.hid ib
  clear ia ib
  have HA := Lib.hid hA
  have HB := Lib.hid hB
  clear hA hB
  go_enter Tryz.func159, Tryz.ntmps159
  go_wp2_with fail
  have HM := Lib.hid ((Mem.nil w).new (w.heap.size) 0 0 0 0 24 (by simp))
  refine (cons_some f F hf _).mono ?_
  rintro e w1 ⟨rfl, hbl⟩
  have KK := Lib.hid (KIs.new w1 F 137)
  have B1 := Lib.hid (HM.out.on hbl)
  clear HM hbl
  have HM := Lib.hid (show Mem w (w1.alloc (.cells #[.int .u64 F.m0, .int .u64 F.m1, .int .u64 F.m2, .int .u64 F.m3, .int .u64 F.inv, .int .u64 F.s0, .int .u64 F.s1, .int .u64 F.s2, .int .u64 F.s3] 137)) [(w.heap.size, 0, 0, 0, 0)] from B1.out.on ((Below.refl _ _).alloc (Nat.le_refl _) _))
  clear B1
  have t1 : decide ((65536 : Int) < (la : Int)) = false := decide_eq_false (by omega)
  go_wp2_with fail
  refine (hasAll_any F hf.ok w1.heap.size p la ca A _ KK.out (HA.out.on HM.out.1)).mono ?_
  rintro e w2 ⟨⟨t, rfl, ht⟩, hbl⟩
  obtain rfl : t = true := ht.2 IA.out
  have KK' := Lib.hid (KK.out.same hbl)
  have HM' := Lib.hid (HM.out.on hbl)
  clear hbl KK ht
  have KK := KK'
  clear KK'
  clear HM
  have HM := HM'
  clear HM'
  go_wp2_with fail
  refine (hasAll_any F hf.ok w1.heap.size q la cb B _ KK.out (HB.out.on HM.out.1)).mono ?_
  rintro e w3 ⟨⟨t, rfl, ht⟩, hbl⟩
  obtain rfl : t = true := ht.2 IB.out
  have KK' := Lib.hid (KK.out.same hbl)
  have HM' := Lib.hid (HM.out.on hbl)
  clear hbl KK ht
  have KK := KK'
  clear KK'
  clear HM
  have HM := HM'
  clear HM'
  go_wp2_with fail
  have kl : w1.heap.size < w3.heap.size := KK.out.lt
  have ls : w.heap.size < w3.heap.size := HM.out.lt (b := w.heap.size) (c0 := 0) (c1 := 0) (c2 := 0) (c3 := 0) (by simp)
  have HM' := Lib.hid (HM.out.new w3.heap.size 0 0 0 0 24 rfl)
  have KK' := Lib.hid (KK.out.same ((Below.refl _ w3).alloc (Nat.le_refl _) (.cells #[.int .u64 (0 : Nat), .int .u64 (0 : Nat), .int .u64 (0 : Nat), .int .u64 (0 : Nat)] 24)))
  clear KK
  have KK := KK'
  clear KK'
  clear HM
  have HM := HM'
  clear HM'
  obtain ⟨W5, hW5⟩ : ∃ W5, W5 = (w3.alloc (.cells #[.int .u64 (0 : Nat), .int .u64 (0 : Nat), .int .u64 (0 : Nat), .int .u64 (0 : Nat)] 24)) := ⟨_, rfl⟩
  obtain ⟨gs, hgs⟩ : ∃ gs, gs = w3.heap.size := ⟨_, rfl⟩
  rw [← hgs] at HM kl ls ⊢
  clear hgs hW5 W5
  go_loopw [43] (fun t wr => ∃ (k s0 s1 s2 s3 : Nat), k ≤ la ∧ t = .int .i64 k ∧ ok4 s0 s1 s2 s3 ∧ Hid (val4 s0 s1 s2 s3 < F.M ∧ val4 s0 s1 s2 s3 * F.R % F.M = dotN F.M (elA A) (elA B) k) ∧ Hid (Mem w wr [(gs, s0, s1, s2, s3), (w.heap.size, 0, 0, 0, 0)]) ∧ Hid (KIs wr w1.heap.size F)) (fun t _ => la - (intOf t).toNat)
  case atStart => exact ⟨0, 0, 0, 0, 0, Nat.zero_le _, rfl, zok, Lib.hid ⟨hpos, by rw [show val4 0 0 0 0 = 0 from rfl, Nat.zero_mul, Nat.zero_mod]; rfl⟩, HM, KK⟩
  case round =>
    clear HM KK
    obtain ⟨k, s0, s1, s2, s3, hk, rfl, hs, HV, HM, KK⟩ := hrel
    by_cases hlt : k < la
    · obtain ⟨g, off, rfl, hg, hla⟩ := HA.out.2.2 (by omega)
      obtain ⟨g2, off2, rfl, hg2, hlb⟩ := HB.out.2.2 (by omega)
      obtain ⟨a0, a1, a2, a3, e0, e1, e2, e3⟩ : ∃ a0 a1 a2 a3 : Nat, a0 = A k 0 ∧ a1 = A k 1 ∧ a2 = A k 2 ∧ a3 = A k 3 := ⟨_, _, _, _, rfl, rfl, rfl, rfl⟩
      obtain ⟨b0, b1, b2, b3, d0, d1, d2, d3⟩ : ∃ b0 b1 b2 b3 : Nat, b0 = B k 0 ∧ b1 = B k 1 ∧ b2 = B k 2 ∧ b3 = B k 3 := ⟨_, _, _, _, rfl, rfl, rfl, rfl⟩
      have hoka := HA.out.2.1 k hlt
      have hokb := HB.out.2.1 k hlt
      have hva : elA A k = val4 a0 a1 a2 a3 := by unfold elA; rw [← e0, ← e1, ← e2, ← e3]
      have hvb : elA B k = val4 b0 b1 b2 b3 := by unfold elA; rw [← d0, ← d1, ← d2, ← d3]
      have hlb' : val4 b0 b1 b2 b3 < F.M := by rw [← hvb]; exact IB.out k hlt
      rw [← e0, ← e1, ← e2, ← e3] at hoka
      rw [← d0, ← d1, ← d2, ← d3] at hokb
      have HCA := Lib.hid (show ∀ wx, Below w.heap.size w wx → wx.cell? ⟨g, off + k * 4, none⟩ = some (.int .u64 (a0 : Nat)) ∧ wx.cell? ⟨g, off + k * 4 + 1, none⟩ = some (.int .u64 (a1 : Nat)) ∧ wx.cell? ⟨g, off + k * 4 + 2, none⟩ = some (.int .u64 (a2 : Nat)) ∧ wx.cell? ⟨g, off + k * 4 + 3, none⟩ = some (.int .u64 (a3 : Nat)) from fun wx hx => by
        have q := (hla.same (fun _ => hg) hx) k hlt
        rw [← e0, ← e1, ← e2, ← e3] at q
        exact q)
      have HCB := Lib.hid (show ∀ wx, Below w.heap.size w wx → wx.cell? ⟨g2, off2 + k * 4, none⟩ = some (.int .u64 (b0 : Nat)) ∧ wx.cell? ⟨g2, off2 + k * 4 + 1, none⟩ = some (.int .u64 (b1 : Nat)) ∧ wx.cell? ⟨g2, off2 + k * 4 + 2, none⟩ = some (.int .u64 (b2 : Nat)) ∧ wx.cell? ⟨g2, off2 + k * 4 + 3, none⟩ = some (.int .u64 (b3 : Nat)) from fun wx hx => by
        have q := (hlb.same (fun _ => hg2) hx) k hlt
        rw [← d0, ← d1, ← d2, ← d3] at q
        exact q)
      have HO := Lib.hid (And.intro hoka hokb)
      have HE := Lib.hid (And.intro hva (And.intro hvb hlb'))
      clear e0 e1 e2 e3 d0 d1 d2 d3 hla hlb hoka hokb hva hvb hlb'
      go_wp2_with fail
      refine region_till (fun wx => Below wr.heap.size wr wx) 11 (by kernel_rfl) ?_
      have HS := below_drewN' wr.heap.size wr 1
      have H8 := Lib.hid HS
      refine till_take (i := 0) (v := .agg #[.int .u64 s0, .int .u64 s1, .int .u64 s2, .int .u64 s3]) rfl (by kernel_rfl) (by kernel_rfl) (by kernel_rfl) (by kernel_rfl) (fun _ _ _ h => h) HS (Or.inl ⟨by kernel_rfl, fun wx hx => ?_⟩) ?_
      · have kr := (HM.out.on hx).row (b := gs) (c0 := s0) (c1 := s1) (c2 := s2) (c3 := s3) (by simp)
        have x0 := kr.c0; have x1 := kr.c1; have x2 := kr.c2; have x3 := kr.c3
        clear kr
        clear HS hx
        go_simp
      simp only [Act.put, List.setIfInBounds_toArray, List.set_cons_zero, List.set_cons_succ]
      refine till_take (i := 1) (v := .slice (some ⟨g, off, none⟩) la ca) rfl (by kernel_rfl) (by kernel_rfl) (by kernel_rfl) (by kernel_rfl) (fun _ _ _ h => h) HS (Or.inl ⟨by kernel_rfl, fun wx hx => ?_⟩) ?_
      · clear HS hx
        go_simp
      simp only [Act.put, List.setIfInBounds_toArray, List.set_cons_zero, List.set_cons_succ]
      refine till_take (i := 2) (v := .int .i64 k) rfl (by kernel_rfl) (by kernel_rfl) (by kernel_rfl) (by kernel_rfl) (fun _ _ _ h => h) HS (Or.inl ⟨by kernel_rfl, fun wx hx => ?_⟩) ?_
      · clear HS hx
        go_simp
      simp only [Act.put, List.setIfInBounds_toArray, List.set_cons_zero, List.set_cons_succ]
      refine till_take (i := 3) (v := .pointer (some ⟨g, off + k * 4, none⟩)) rfl (by kernel_rfl) (by kernel_rfl) (by kernel_rfl) (by kernel_rfl) (fun _ _ _ h => h) HS (Or.inl ⟨by kernel_rfl, fun wx hx => ?_⟩) ?_
      · clear HS hx
        go_simp
      simp only [Act.put, List.setIfInBounds_toArray, List.set_cons_zero, List.set_cons_succ]
      refine till_take (i := 4) (v := .agg #[.int .u64 a0, .int .u64 a1, .int .u64 a2, .int .u64 a3]) rfl (by kernel_rfl) (by kernel_rfl) (by kernel_rfl) (by kernel_rfl) (fun _ _ _ h => h) HS (Or.inl ⟨by kernel_rfl, fun wx hx => ?_⟩) ?_
      · have q := HCA.out wx (HM.out.on hx).1
        have x0 := q.1; have x1 := q.2.1; have x2 := q.2.2.1; have x3 := q.2.2.2
        clear q
        clear HS hx
        go_simp
      simp only [Act.put, List.setIfInBounds_toArray, List.set_cons_zero, List.set_cons_succ]
      refine till_take (i := 5) (v := .slice (some ⟨g2, off2, none⟩) la cb) rfl (by kernel_rfl) (by kernel_rfl) (by kernel_rfl) (by kernel_rfl) (fun _ _ _ h => h) HS (Or.inl ⟨by kernel_rfl, fun wx hx => ?_⟩) ?_
      · clear HS hx
        go_simp
      simp only [Act.put, List.setIfInBounds_toArray, List.set_cons_zero, List.set_cons_succ]
      refine till_take (i := 6) (v := .int .i64 k) rfl (by kernel_rfl) (by kernel_rfl) (by kernel_rfl) (by kernel_rfl) (fun _ _ _ h => h) HS (Or.inl ⟨by kernel_rfl, fun wx hx => ?_⟩) ?_
      · clear HS hx
        go_simp
      simp only [Act.put, List.setIfInBounds_toArray, List.set_cons_zero, List.set_cons_succ]
      refine till_take (i := 7) (v := .pointer (some ⟨g2, off2 + k * 4, none⟩)) rfl (by kernel_rfl) (by kernel_rfl) (by kernel_rfl) (by kernel_rfl) (fun _ _ _ h => h) HS (Or.inl ⟨by kernel_rfl, fun wx hx => ?_⟩) ?_
      · clear HS hx
        go_simp
      simp only [Act.put, List.setIfInBounds_toArray, List.set_cons_zero, List.set_cons_succ]
      refine till_take (i := 8) (v := .agg #[.int .u64 b0, .int .u64 b1, .int .u64 b2, .int .u64 b3]) rfl (by kernel_rfl) (by kernel_rfl) (by kernel_rfl) (by kernel_rfl) (fun _ _ _ h => h) HS (Or.inl ⟨by kernel_rfl, fun wx hx => ?_⟩) ?_
      · have q := HCB.out wx (HM.out.on hx).1
        have x0 := q.1; have x1 := q.2.1; have x2 := q.2.2.1; have x3 := q.2.2.2
        clear q
        clear HS hx
        go_simp
      simp only [Act.put, List.setIfInBounds_toArray, List.set_cons_zero, List.set_cons_succ]
      clear HS
      refine till_step (i := 9) (by kernel_rfl) rfl (fun K hK => ?_)
      go_simp
      refine (times_calls F hok w1.heap.size a0 a1 a2 a3 b0 b1 b2 b3 HO.out.1 HO.out.2 HE.out.2.2 _ (KK.out.same H8.out)).mono ?_
      rintro e v1 ⟨p0, p1, p2, p3, rfl, hp, hv, hbl⟩
      have HVp := Lib.hid hv
      clear hv
      have HS := H8.out.trans (hbl.mono H8.out.size)
      clear H8 hbl
      have H8 := Lib.hid HS
      refine hK.out _ _ (Or.inr HS) (fun _ => ?_)
      clear hK K
      clear HS
      refine till_step (i := 10) (by kernel_rfl) rfl (fun K hK => ?_)
      go_simp
      refine (plus_calls F hok w1.heap.size s0 s1 s2 s3 p0 p1 p2 p3 hs hp HV.out.1 (by rw [HVp.out]; exact Nat.mod_lt _ hpos) _ (KK.out.same H8.out)).mono ?_
      rintro e v2 ⟨u0, u1, u2, u3, rfl, hu, hv, hbl⟩
      have HVu := Lib.hid (show val4 u0 u1 u2 u3 < F.M ∧ val4 u0 u1 u2 u3 * F.R % F.M = dotN F.M (elA A) (elA B) (k + 1) by
        rw [hv, HVp.out]
        refine ⟨Nat.mod_lt _ hpos, ?_⟩
        rw [dot_step hok HV.out.2, ← HE.out.1, ← HE.out.2.1]
        rfl)
      clear hv
      have HS := H8.out.trans (hbl.mono H8.out.size)
      clear H8 hbl
      have H8 := Lib.hid HS
      refine hK.out _ _ (Or.inr HS) (fun _ => ?_)
      clear hK K
      clear HS
      have HM' := Lib.hid (HM.out.on H8.out)
      have KK' := Lib.hid (KK.out.same H8.out)
      clear HM KK H8
      have HM := HM'
      have KK := KK'
      clear HM' KK'
      have kr := HM.out.row (b := gs) (c0 := s0) (c1 := s1) (c2 := s2) (c3 := s3) (by simp)
      have y0 := kr.c0; have y1 := kr.c1; have y2 := kr.c2; have y3 := kr.c3; have yf := kr.fr
      clear kr
      have yl := HM.out.lt (b := gs) (c0 := s0) (c1 := s1) (c2 := s2) (c3 := s3) (by simp)
      refine till_step (i := 11) (by kernel_rfl) rfl (fun K hK => ?_)
      go_simp
      have HM' := Lib.hid (HM.out.put u0 u1 u2 u3 (by omega) (by intro r hr; simp at hr; subst hr; show w.heap.size ≠ gs; omega))
      have KK' := Lib.hid (KK.out.set4 (d := gs) (by omega) u0 u1 u2 u3)
      clear HM KK
      have HM := HM'
      have KK := KK'
      clear HM' KK'
      refine hK.out _ _ (Or.inl rfl) (fun _ => ?_)
      clear hK K
      refine till_done (by kernel_rfl) ?_
      go_wp2_with fail
      go_roundw
      case rel => exact ⟨k + 1, u0, u1, u2, u3, by omega, by go_num, hu, HVu, HM, KK⟩
      case measure => simp [intOf]; omega
    · obtain rfl : la = k := by omega
      obtain ⟨wo, rfl⟩ : ∃ wo, wo = wr := ⟨_, rfl⟩
      have kr := HM.out.row (b := gs) (c0 := s0) (c1 := s1) (c2 := s2) (c3 := s3) (by simp)
      have x0 := kr.c0; have x1 := kr.c1; have x2 := kr.c2; have x3 := kr.c3
      clear kr
      have xl := HM.out.lt (b := gs) (c0 := s0) (c1 := s1) (c2 := s2) (c3 := s3) (by simp)
      clear hk hlt
      go_wp2_with fail
      refine (into_calls F hok w1.heap.size s0 s1 s2 s3 hs _ KK.out).mono ?_
      rintro e w4 ⟨u0, u1, u2, u3, rfl, hu, hv, hbl⟩
      have HVu := Lib.hid (show val4 u0 u1 u2 u3 = dotN F.M (elA A) (elA B) la by rw [hv]; exact HV.out.2)
      have HM' := Lib.hid (HM.out.on hbl)
      clear hv hbl x0 x1 x2 x3 xl
      clear HM
      have HM := HM'
      clear HM'
      have kr := HM.out.row (b := w.heap.size) (c0 := 0) (c1 := 0) (c2 := 0) (c3 := 0) (by simp)
      have y0 := kr.c0; have y1 := kr.c1; have y2 := kr.c2; have y3 := kr.c3; have yf := kr.fr
      clear kr
      have yl := HM.out.lt (b := w.heap.size) (c0 := 0) (c1 := 0) (c2 := 0) (c3 := 0) (by simp)
      go_wp2_with fail
      refine bodyPost_ret (v := .tuple #[.agg #[.int .u64 u0, .int .u64 u1, .int .u64 u2, .int .u64 u3], .int .i64 0]) (by simp [results, Tryz.results159, go_sem, *]) rfl ?_
      refine ⟨_, _, _, _, rfl, hu, HVu.out, ?_⟩
      exact below_set4 HM.out.1 (Nat.le_refl _) _ _ _ _
end Go.Proofs.YtgacpjmggdmgdaaGreat
