/-
  The calls Reduce, Bytes and Read. Conditions: words below 2^64; bytes as limbs.Read reads them.
-/
import Derived.Test.YtalddekocfkbhaaApi1
import Derived.Test.YtalddekocfkbhaaMod
import Derived.Test.YtalddekocfkbhaaBytes
namespace Go.Proofs.Ytalddekocfkbhaa
set_option linter.unusedVariables false
set_option linter.unusedSimpArgs false
open Go.RowKit

theorem refusal_c (c : Int) (h : c ≠ 0) (w : World) : Calls Try.prog 51 #[.int .i64 c] w fun e w' => e = .returned (.int .i64 c) ∧ w' = w := by
  have t0 : (c != 0) = true := by simp [h]
  go_enter Try.func51, Try.ntmps51
  go_wp2_with fail
  go_ret
  exact ⟨rfl, rfl⟩
/-- a slice of bytes is read as the number n with the error c, wherever nothing older has changed -/
def ReadsF (W : World) (v : Value) (n c : Nat) : Prop := ∀ w, Below W.heap.size W w → Calls Try.prog 75 #[v] w (ReadPost (fun m d => m = n ∧ d = c) w)
theorem readsF_short (W : World) (v : Option Addr) (len cap : Nat) (hl : len ≠ 32) (hm : len ≤ 9223372036854775807) : ReadsF W (.slice v len cap) 0 3 := fun w _ => read_short v len cap hl hm w
theorem readsF_32 (W : World) (g off cap : Nat) (B : Nat → Nat) (hB : ∀ k, B k < 256) (hg : g < W.heap.size) (hc : ∀ k, k < 32 → W.cell? ⟨g, off + k, none⟩ = some (.int .u8 (B k : Nat))) : ReadsF W (.slice (some ⟨g, off, none⟩) 32 cap) (hor B 0 32) 0 := fun w hb =>
  read_32 g off cap B hB w (Nat.lt_of_lt_of_le hg hb.size) fun k hk => (hb.cell (p := ⟨g, off + k, none⟩) hg).trans (hc k hk)
set_option maxRecDepth 100000 in
set_option maxHeartbeats 2000000 in
theorem freduce_none (f : Int) (g0 g1 g2 g3 l0 l1 l2 l3 : Nat) (hh : ok4 g0 g1 g2 g3) (hl : ok4 l0 l1 l2 l3) (h1 : f ≠ 1) (h2 : f ≠ 2) (w : World) :
    Calls Try.prog 25 #[.int .i64 f, .agg #[.int .u64 g0, .int .u64 g1, .int .u64 g2, .int .u64 g3], .agg #[.int .u64 l0, .int .u64 l1, .int .u64 l2, .int .u64 l3]] w (FeE 1 0 w) := by
  go_enter Try.func25, Try.ntmps25
  go_wp2_with fail
  refine (cons_none f h1 h2 _).mono ?_
  rintro e w1 ⟨rfl, hbl⟩
  have M1 := ((((Mem.nil w).new (w.heap.size) g0 g1 g2 g3 26 (by simp)).new (w.heap.size + 1) l0 l1 l2 l3 26 (by simp)).new (w.heap.size + 1 + 1) 0 0 0 0 25 (by simp)).on hbl
  clear hbl
  have z0 : w.heap.size < w1.heap.size := M1.lt (c0 := g0) (c1 := g1) (c2 := g2) (c3 := g3) (by simp)
  have z1 : w.heap.size + 1 < w1.heap.size := M1.lt (c0 := l0) (c1 := l1) (c2 := l2) (c3 := l3) (by simp)
  have z2 : w.heap.size + 1 + 1 < w1.heap.size := M1.lt (c0 := 0) (c1 := 0) (c2 := 0) (c3 := 0) (by simp)
  have HM := Lib.hid (M1.on ((Below.refl _ _).alloc (Nat.le_refl _) (.cells #[.int .u64 0, .int .u64 0, .int .u64 0, .int .u64 0, .int .u64 0, .int .u64 0, .int .u64 0, .int .u64 0, .int .u64 0] 85)))
  have kr := M1.row (b := w.heap.size + 1 + 1) (c0 := 0) (c1 := 0) (c2 := 0) (c3 := 0) (by simp)
  have y0 := kr.c0; have y1 := kr.c1; have y2 := kr.c2; have y3 := kr.c3; have yf := kr.fr
  clear kr
  have yl := M1.lt (b := w.heap.size + 1 + 1) (c0 := 0) (c1 := 0) (c2 := 0) (c3 := 0) (by simp)
  go_wp2_with fail
  refine bodyPost_ret (v := .tuple #[.agg #[.int .u64 0, .int .u64 0, .int .u64 0, .int .u64 0], .int .i64 1]) (by simp [results, Try.results25, go_sem, *]) rfl ?_
  refine ⟨_, _, _, _, rfl, zok, rfl, ?_⟩
  repeat (first | exact M1.1 | exact HM.out.1 | refine Below.alloc ?_ (by first | (simp; done) | (simp; omega)) _ | refine Below.setCell ?_ (by first | (simp; done) | (simp; omega)) _)
set_option maxRecDepth 100000 in
set_option maxHeartbeats 2000000 in
theorem freduce_ok (f : Int) (F : FC) (hf : FieldIs f F) (g0 g1 g2 g3 l0 l1 l2 l3 : Nat) (hg : ok4 g0 g1 g2 g3) (hl : ok4 l0 l1 l2 l3) (w : World) :
    Calls Try.prog 25 #[.int .i64 f, .agg #[.int .u64 g0, .int .u64 g1, .int .u64 g2, .int .u64 g3], .agg #[.int .u64 l0, .int .u64 l1, .int .u64 l2, .int .u64 l3]] w (FeE 0 ((val4 g0 g1 g2 g3 * 115792089237316195423570985008687907853269984665640564039457584007913129639936 + val4 l0 l1 l2 l3) % F.M) w) := by
  go_enter Try.func25, Try.ntmps25
  go_wp2_with fail
  refine (cons_some f F hf _).mono ?_
  rintro e w1 ⟨rfl, hbl⟩
  have M1 := ((((Mem.nil w).new (w.heap.size) g0 g1 g2 g3 26 (by simp)).new (w.heap.size + 1) l0 l1 l2 l3 26 (by simp)).new (w.heap.size + 1 + 1) 0 0 0 0 25 (by simp)).on hbl
  clear hbl
  have z0 : w.heap.size < w1.heap.size := M1.lt (c0 := g0) (c1 := g1) (c2 := g2) (c3 := g3) (by simp)
  have z1 : w.heap.size + 1 < w1.heap.size := M1.lt (c0 := l0) (c1 := l1) (c2 := l2) (c3 := l3) (by simp)
  have z2 : w.heap.size + 1 + 1 < w1.heap.size := M1.lt (c0 := 0) (c1 := 0) (c2 := 0) (c3 := 0) (by simp)
  have HM := Lib.hid (M1.on ((Below.refl _ _).alloc (Nat.le_refl _) (.cells #[.int .u64 F.m0, .int .u64 F.m1, .int .u64 F.m2, .int .u64 F.m3, .int .u64 F.inv, .int .u64 F.s0, .int .u64 F.s1, .int .u64 F.s2, .int .u64 F.s3] 85)))
  have KK := Lib.hid (KIs.new w1 F 85)
  have kr := M1.row (b := w.heap.size) (c0 := g0) (c1 := g1) (c2 := g2) (c3 := g3) (by simp)
  have x0 := kr.c0; have x1 := kr.c1; have x2 := kr.c2; have x3 := kr.c3
  clear kr
  have xl := M1.lt (b := w.heap.size) (c0 := g0) (c1 := g1) (c2 := g2) (c3 := g3) (by simp)
  have kr := M1.row (b := w.heap.size + 1) (c0 := l0) (c1 := l1) (c2 := l2) (c3 := l3) (by simp)
  have u0 := kr.c0; have u1 := kr.c1; have u2 := kr.c2; have u3 := kr.c3
  clear kr
  have ul := M1.lt (b := w.heap.size + 1) (c0 := l0) (c1 := l1) (c2 := l2) (c3 := l3) (by simp)
  have k0 := KK.out.k0; have k1 := KK.out.k1; have k2 := KK.out.k2; have k3 := KK.out.k3
  go_wp2_with fail
  refine (mod_some g0 g1 g2 g3 l0 l1 l2 l3 F.m0 F.m1 F.m2 F.m3 hg hl hf.ok.okm hf.ok.pos _).mono ?_
  rintro e w2 ⟨s0, s1, s2, s3, er, rfl, hs, ⟨hv, rfl⟩, hbl⟩
  have HV := Lib.hid hv
  clear hv
  have HM' := Lib.hid (HM.out.on hbl)
  have KK' := Lib.hid (KK.out.same hbl)
  have zk := KK'.out.lt
  clear HM KK hbl M1
  have HM := HM'
  have KK := KK'
  clear HM' KK'
  clear zk k0 k1 k2 k3 x0 x1 x2 x3 xl u0 u1 u2 u3 ul
  have wz : w.heap.size + 1 + 1 < w2.heap.size := HM.out.lt (b := w.heap.size + 1 + 1) (c0 := 0) (c1 := 0) (c2 := 0) (c3 := 0) (by simp)
  have kr := HM.out.row (b := w.heap.size + 1 + 1) (c0 := 0) (c1 := 0) (c2 := 0) (c3 := 0) (by simp)
  have y0 := kr.c0; have y1 := kr.c1; have y2 := kr.c2; have y3 := kr.c3; have yf := kr.fr
  clear kr
  have yl := HM.out.lt (b := w.heap.size + 1 + 1) (c0 := 0) (c1 := 0) (c2 := 0) (c3 := 0) (by simp)
  go_wp2_with fail
  refine bodyPost_ret (v := .tuple #[.agg #[.int .u64 s0, .int .u64 s1, .int .u64 s2, .int .u64 s3], .int .i64 0]) (by simp [results, Try.results25, go_sem, *]) rfl ?_
  refine ⟨_, _, _, _, rfl, hs, HV.out, ?_⟩
  repeat (first | exact HM.out.1 | refine Below.alloc ?_ (by first | (simp; done) | (simp; omega)) _ | refine Below.setCell ?_ (by first | (simp; done) | (simp; omega)) _)
set_option maxRecDepth 100000 in
set_option maxHeartbeats 2000000 in
theorem fbytes_err (f c : Int) (a0 a1 a2 a3 : Nat) (ha : ok4 a0 a1 a2 a3) (h : Bad1 f (val4 a0 a1 a2 a3) c) (w : World) :
    Calls Try.prog 28 #[.int .i64 f, .agg #[.int .u64 a0, .int .u64 a1, .int .u64 a2, .int .u64 a3]] w fun e w' => e = .returned (.tuple #[.slice none 0 0, .int .i64 c]) ∧ Below w.heap.size w w' := by
  rcases h with ⟨h1, h2, rfl⟩ | ⟨F, hf, la, rfl⟩
  · go_enter Try.func28, Try.ntmps28
    go_wp2_with fail
    refine (cons_none f h1 h2 _).mono ?_
    rintro e w1 ⟨rfl, hbl⟩
    have M1 := ((Mem.nil w).new (w.heap.size) a0 a1 a2 a3 25 (by simp)).on hbl
    clear hbl
    have z0 : w.heap.size < w1.heap.size := M1.lt (c0 := a0) (c1 := a1) (c2 := a2) (c3 := a3) (by simp)
    have HM := Lib.hid (M1.on ((Below.refl _ _).alloc (Nat.le_refl _) (.cells #[.int .u64 0, .int .u64 0, .int .u64 0, .int .u64 0, .int .u64 0, .int .u64 0, .int .u64 0, .int .u64 0, .int .u64 0] 85)))
    go_wp2_with fail
    refine (refusal_one _).mono ?_
    rintro e w2 ⟨rfl, rfl⟩
    go_wp2_with fail
    refine bodyPost_ret (v := .tuple #[.slice none 0 0, .int .i64 1]) (by simp [results, Try.results28, go_sem, *]) rfl ?_
    exact ⟨rfl, HM.out.1⟩
  · go_enter Try.func28, Try.ntmps28
    go_wp2_with fail
    refine (cons_some f F hf _).mono ?_
    rintro e w1 ⟨rfl, hbl⟩
    have M1 := ((Mem.nil w).new (w.heap.size) a0 a1 a2 a3 25 (by simp)).on hbl
    clear hbl
    have z0 : w.heap.size < w1.heap.size := M1.lt (c0 := a0) (c1 := a1) (c2 := a2) (c3 := a3) (by simp)
    have HM := Lib.hid (M1.on ((Below.refl _ _).alloc (Nat.le_refl _) (.cells #[.int .u64 F.m0, .int .u64 F.m1, .int .u64 F.m2, .int .u64 F.m3, .int .u64 F.inv, .int .u64 F.s0, .int .u64 F.s1, .int .u64 F.s2, .int .u64 F.s3] 85)))
    have KK := Lib.hid (KIs.new w1 F 85)
    have kr := M1.row (b := w.heap.size) (c0 := a0) (c1 := a1) (c2 := a2) (c3 := a3) (by simp)
    have x0 := kr.c0; have x1 := kr.c1; have x2 := kr.c2; have x3 := kr.c3
    clear kr
    have xl := M1.lt (b := w.heap.size) (c0 := a0) (c1 := a1) (c2 := a2) (c3 := a3) (by simp)
    go_wp2_with fail
    refine (has_calls F hf.ok w1.heap.size a0 a1 a2 a3 ha _ KK.out).mono ?_
    rintro e w2 ⟨he, hbl⟩
    rw [show isB (val4 a0 a1 a2 a3) F.M = false from decide_eq_false la] at he
    subst he
    have HM' := Lib.hid (HM.out.on hbl)
    have KK' := Lib.hid (KK.out.same hbl)
    have zk := KK'.out.lt
    clear HM KK hbl M1
    have HM := HM'
    have KK := KK'
    clear HM' KK'
    clear x0 x1 x2 x3 xl zk
    go_wp2_with fail
    refine (refusal_two _).mono ?_
    rintro e w3 ⟨rfl, rfl⟩
    go_wp2_with fail
    refine bodyPost_ret (v := .tuple #[.slice none 0 0, .int .i64 21]) (by simp [results, Try.results28, go_sem, *]) rfl ?_
    exact ⟨rfl, HM.out.1⟩
/-- an element's bytes -/
def FBytes (A : Nat) (w : World) (e : Ending) (w' : World) : Prop :=
  ∃ b : Nat, e = .returned (.tuple #[.slice (some ⟨b, 0, none⟩) 32 32, .int .i64 0]) ∧ w.heap.size ≤ b ∧ b < w'.heap.size ∧ RowB w' b 32 (byteAt A) ∧ Below w.heap.size w w'
set_option maxRecDepth 100000 in
set_option maxHeartbeats 2000000 in
theorem fbytes_ok (f : Int) (F : FC) (hf : FieldIs f F) (a0 a1 a2 a3 : Nat) (ha : ok4 a0 a1 a2 a3) (la : val4 a0 a1 a2 a3 < F.M) (w : World) :
    Calls Try.prog 28 #[.int .i64 f, .agg #[.int .u64 a0, .int .u64 a1, .int .u64 a2, .int .u64 a3]] w (FBytes (val4 a0 a1 a2 a3) w) := by
  go_enter Try.func28, Try.ntmps28
  go_wp2_with fail
  refine (cons_some f F hf _).mono ?_
  rintro e w1 ⟨rfl, hbl⟩
  have M1 := ((Mem.nil w).new (w.heap.size) a0 a1 a2 a3 25 (by simp)).on hbl
  clear hbl
  have z0 : w.heap.size < w1.heap.size := M1.lt (c0 := a0) (c1 := a1) (c2 := a2) (c3 := a3) (by simp)
  have HM := Lib.hid (M1.on ((Below.refl _ _).alloc (Nat.le_refl _) (.cells #[.int .u64 F.m0, .int .u64 F.m1, .int .u64 F.m2, .int .u64 F.m3, .int .u64 F.inv, .int .u64 F.s0, .int .u64 F.s1, .int .u64 F.s2, .int .u64 F.s3] 85)))
  have KK := Lib.hid (KIs.new w1 F 85)
  have kr := M1.row (b := w.heap.size) (c0 := a0) (c1 := a1) (c2 := a2) (c3 := a3) (by simp)
  have x0 := kr.c0; have x1 := kr.c1; have x2 := kr.c2; have x3 := kr.c3
  clear kr
  have xl := M1.lt (b := w.heap.size) (c0 := a0) (c1 := a1) (c2 := a2) (c3 := a3) (by simp)
  go_wp2_with fail
  refine (has_calls F hf.ok w1.heap.size a0 a1 a2 a3 ha _ KK.out).mono ?_
  rintro e w2 ⟨he, hbl⟩
  rw [show isB (val4 a0 a1 a2 a3) F.M = true from decide_eq_true la] at he
  subst he
  have HM' := Lib.hid (HM.out.on hbl)
  have KK' := Lib.hid (KK.out.same hbl)
  have zk := KK'.out.lt
  clear HM KK hbl M1
  have HM := HM'
  have KK := KK'
  clear HM' KK'
  clear x0 x1 x2 x3 xl zk
  have kr := HM.out.row (b := w.heap.size) (c0 := a0) (c1 := a1) (c2 := a2) (c3 := a3) (by simp)
  have x0 := kr.c0; have x1 := kr.c1; have x2 := kr.c2; have x3 := kr.c3
  clear kr
  have xl := HM.out.lt (b := w.heap.size) (c0 := a0) (c1 := a1) (c2 := a2) (c3 := a3) (by simp)
  go_wp2_with fail
  have hsz : w.heap.size ≤ w2.heap.size := HM.out.1.size
  refine (bytes_calls a0 a1 a2 a3 ha _).mono ?_
  rintro e w4 ⟨bb, rfl, h1, h2, h3, hbl⟩
  have H3 := Lib.hid h3
  clear h3
  have HM' := Lib.hid (HM.out.on hbl)
  have KK' := Lib.hid (KK.out.same hbl)
  have zk := KK'.out.lt
  clear HM KK hbl
  have HM := HM'
  have KK := KK'
  clear HM' KK'
  clear x0 x1 x2 x3 xl zk
  go_wp2_with fail
  go_ret2
  exact ⟨bb, rfl, by omega, h2, H3.out, HM.out.1⟩
set_option maxRecDepth 100000 in
set_option maxHeartbeats 2000000 in
theorem fread_none (f : Int) (v : Value) (h1 : f ≠ 1) (h2 : f ≠ 2) (w : World) :
    Calls Try.prog 26 #[.int .i64 f, v] w (FeE 1 0 w) := by
  go_enter Try.func26, Try.ntmps26
  go_wp2_with fail
  refine (cons_none f h1 h2 _).mono ?_
  rintro e w1 ⟨rfl, hbl⟩
  have M1 := ((Mem.nil w).new (w.heap.size) 0 0 0 0 25 (by simp)).on hbl
  clear hbl
  have z0 : w.heap.size < w1.heap.size := M1.lt (c0 := 0) (c1 := 0) (c2 := 0) (c3 := 0) (by simp)
  have HM := Lib.hid (M1.on ((Below.refl _ _).alloc (Nat.le_refl _) (.cells #[.int .u64 0, .int .u64 0, .int .u64 0, .int .u64 0, .int .u64 0, .int .u64 0, .int .u64 0, .int .u64 0, .int .u64 0] 85)))
  have kr := M1.row (b := w.heap.size) (c0 := 0) (c1 := 0) (c2 := 0) (c3 := 0) (by simp)
  have y0 := kr.c0; have y1 := kr.c1; have y2 := kr.c2; have y3 := kr.c3; have yf := kr.fr
  clear kr
  have yl := M1.lt (b := w.heap.size) (c0 := 0) (c1 := 0) (c2 := 0) (c3 := 0) (by simp)
  go_wp2_with fail
  refine bodyPost_ret (v := .tuple #[.agg #[.int .u64 0, .int .u64 0, .int .u64 0, .int .u64 0], .int .i64 1]) (by simp [results, Try.results26, go_sem, *]) rfl ?_
  refine ⟨_, _, _, _, rfl, zok, rfl, ?_⟩
  repeat (first | exact M1.1 | exact HM.out.1 | refine Below.alloc ?_ (by first | (simp; done) | (simp; omega)) _ | refine Below.setCell ?_ (by first | (simp; done) | (simp; omega)) _)
set_option maxRecDepth 100000 in
set_option maxHeartbeats 2000000 in
theorem fread_short (f : Int) (F : FC) (hf : FieldIs f F) (v : Value) (n c : Nat) (hn : c ≠ 0) (w : World) (hR : ReadsF w v n c) :
    Calls Try.prog 26 #[.int .i64 f, v] w (FeE c 0 w) := by
  have HR := Lib.hid hR
  clear hR
  go_enter Try.func26, Try.ntmps26
  go_wp2_with fail
  refine (cons_some f F hf _).mono ?_
  rintro e w1 ⟨rfl, hbl⟩
  have M1 := ((Mem.nil w).new (w.heap.size) 0 0 0 0 25 (by simp)).on hbl
  clear hbl
  have z0 : w.heap.size < w1.heap.size := M1.lt (c0 := 0) (c1 := 0) (c2 := 0) (c3 := 0) (by simp)
  have HM := Lib.hid (M1.on ((Below.refl _ _).alloc (Nat.le_refl _) (.cells #[.int .u64 F.m0, .int .u64 F.m1, .int .u64 F.m2, .int .u64 F.m3, .int .u64 F.inv, .int .u64 F.s0, .int .u64 F.s1, .int .u64 F.s2, .int .u64 F.s3] 85)))
  have KK := Lib.hid (KIs.new w1 F 85)
  have hn' := hn
  go_wp2_with fail
  refine (HR.out _ HM.out.1).mono ?_
  rintro e w2 ⟨s0, s1, s2, s3, er, rfl, hs, ⟨hv, hc⟩, hbl⟩
  subst hc
  have HV := Lib.hid hv
  clear hv
  have HM' := Lib.hid (HM.out.on hbl)
  have KK' := Lib.hid (KK.out.same hbl)
  have zk := KK'.out.lt
  clear HM KK hbl M1
  have HM := HM'
  have KK := KK'
  clear HM' KK'
  clear zk
  have wz : w.heap.size < w2.heap.size := HM.out.lt (b := w.heap.size) (c0 := 0) (c1 := 0) (c2 := 0) (c3 := 0) (by simp)
  have HM' := Lib.hid (HM.out.new w2.heap.size s0 s1 s2 s3 26 rfl)
  have KK' := Lib.hid (KK.out.same ((Below.refl _ _).alloc (Nat.le_refl _) (.cells #[.int .u64 s0, .int .u64 s1, .int .u64 s2, .int .u64 s3] 26)))
  have kr := HM.out.row (b := w.heap.size) (c0 := 0) (c1 := 0) (c2 := 0) (c3 := 0) (by simp)
  have y0 := kr.c0; have y1 := kr.c1; have y2 := kr.c2; have y3 := kr.c3; have yf := kr.fr
  clear kr
  have yl := HM.out.lt (b := w.heap.size) (c0 := 0) (c1 := 0) (c2 := 0) (c3 := 0) (by simp)
  have t0 : ((er : Int) != 0) = true := by simp; omega
  go_wp2_with fail
  refine (refusal_c er (by omega) _).mono ?_
  rintro e w3 ⟨rfl, rfl⟩
  go_wp2_with fail
  refine bodyPost_ret (v := .tuple #[.agg #[.int .u64 0, .int .u64 0, .int .u64 0, .int .u64 0], .int .i64 (er : Nat)]) (by simp [results, Try.results26, go_sem, *]) rfl ?_
  refine ⟨_, _, _, _, rfl, zok, rfl, ?_⟩
  repeat (first | exact HM.out.1 | refine Below.alloc ?_ (by first | (simp; done) | (simp; omega)) _ | refine Below.setCell ?_ (by first | (simp; done) | (simp; omega)) _)
set_option maxRecDepth 100000 in
set_option maxHeartbeats 2000000 in
theorem fread_ok (f : Int) (F : FC) (hf : FieldIs f F) (v : Value) (n : Nat) (hlt : n < F.M) (w : World) (hR : ReadsF w v n 0) :
    Calls Try.prog 26 #[.int .i64 f, v] w (FeE 0 n w) := by
  have HR := Lib.hid hR
  clear hR
  go_enter Try.func26, Try.ntmps26
  go_wp2_with fail
  refine (cons_some f F hf _).mono ?_
  rintro e w1 ⟨rfl, hbl⟩
  have M1 := ((Mem.nil w).new (w.heap.size) 0 0 0 0 25 (by simp)).on hbl
  clear hbl
  have z0 : w.heap.size < w1.heap.size := M1.lt (c0 := 0) (c1 := 0) (c2 := 0) (c3 := 0) (by simp)
  have HM := Lib.hid (M1.on ((Below.refl _ _).alloc (Nat.le_refl _) (.cells #[.int .u64 F.m0, .int .u64 F.m1, .int .u64 F.m2, .int .u64 F.m3, .int .u64 F.inv, .int .u64 F.s0, .int .u64 F.s1, .int .u64 F.s2, .int .u64 F.s3] 85)))
  have KK := Lib.hid (KIs.new w1 F 85)
  go_wp2_with fail
  refine (HR.out _ HM.out.1).mono ?_
  rintro e w2 ⟨s0, s1, s2, s3, er, rfl, hs, ⟨hv, rfl⟩, hbl⟩
  have HV := Lib.hid hv
  clear hv
  have HM' := Lib.hid (HM.out.on hbl)
  have KK' := Lib.hid (KK.out.same hbl)
  have zk := KK'.out.lt
  clear HM KK hbl M1
  have HM := HM'
  have KK := KK'
  clear HM' KK'
  clear zk
  have wz : w.heap.size < w2.heap.size := HM.out.lt (b := w.heap.size) (c0 := 0) (c1 := 0) (c2 := 0) (c3 := 0) (by simp)
  have HM' := Lib.hid (HM.out.new w2.heap.size s0 s1 s2 s3 26 rfl)
  have KK' := Lib.hid (KK.out.same ((Below.refl _ _).alloc (Nat.le_refl _) (.cells #[.int .u64 s0, .int .u64 s1, .int .u64 s2, .int .u64 s3] 26)))
  clear HM KK
  have HM := HM'
  have KK := KK'
  clear HM' KK'
  go_wp2_with fail
  refine (has_calls F hf.ok w1.heap.size s0 s1 s2 s3 hs _ KK.out).mono ?_
  rintro e w3 ⟨he, hbl⟩
  rw [show isB (val4 s0 s1 s2 s3) F.M = true from by rw [HV.out]; exact decide_eq_true hlt] at he
  subst he
  have HM' := Lib.hid (HM.out.on hbl)
  have KK' := Lib.hid (KK.out.same hbl)
  have zk := KK'.out.lt
  clear HM KK hbl
  have HM := HM'
  have KK := KK'
  clear HM' KK'
  clear zk
  have kr := HM.out.row (b := w2.heap.size) (c0 := s0) (c1 := s1) (c2 := s2) (c3 := s3) (by simp)
  have x0 := kr.c0; have x1 := kr.c1; have x2 := kr.c2; have x3 := kr.c3
  clear kr
  have xl := HM.out.lt (b := w2.heap.size) (c0 := s0) (c1 := s1) (c2 := s2) (c3 := s3) (by simp)
  have kr := HM.out.row (b := w.heap.size) (c0 := 0) (c1 := 0) (c2 := 0) (c3 := 0) (by simp)
  have y0 := kr.c0; have y1 := kr.c1; have y2 := kr.c2; have y3 := kr.c3; have yf := kr.fr
  clear kr
  have yl := HM.out.lt (b := w.heap.size) (c0 := 0) (c1 := 0) (c2 := 0) (c3 := 0) (by simp)
  go_wp2_with fail
  refine bodyPost_ret (v := .tuple #[.agg #[.int .u64 s0, .int .u64 s1, .int .u64 s2, .int .u64 s3], .int .i64 0]) (by simp [results, Try.results26, go_sem, *]) rfl ?_
  refine ⟨_, _, _, _, rfl, hs, HV.out, ?_⟩
  exact below_set4 HM.out.1 (by omega) _ _ _ _
set_option maxRecDepth 100000 in
set_option maxHeartbeats 2000000 in
theorem fread_big (f : Int) (F : FC) (hf : FieldIs f F) (v : Value) (n : Nat) (hlt : ¬ n < F.M) (w : World) (hR : ReadsF w v n 0) :
    Calls Try.prog 26 #[.int .i64 f, v] w (FeE 21 0 w) := by
  have HR := Lib.hid hR
  clear hR
  go_enter Try.func26, Try.ntmps26
  go_wp2_with fail
  refine (cons_some f F hf _).mono ?_
  rintro e w1 ⟨rfl, hbl⟩
  have M1 := ((Mem.nil w).new (w.heap.size) 0 0 0 0 25 (by simp)).on hbl
  clear hbl
  have z0 : w.heap.size < w1.heap.size := M1.lt (c0 := 0) (c1 := 0) (c2 := 0) (c3 := 0) (by simp)
  have HM := Lib.hid (M1.on ((Below.refl _ _).alloc (Nat.le_refl _) (.cells #[.int .u64 F.m0, .int .u64 F.m1, .int .u64 F.m2, .int .u64 F.m3, .int .u64 F.inv, .int .u64 F.s0, .int .u64 F.s1, .int .u64 F.s2, .int .u64 F.s3] 85)))
  have KK := Lib.hid (KIs.new w1 F 85)
  go_wp2_with fail
  refine (HR.out _ HM.out.1).mono ?_
  rintro e w2 ⟨s0, s1, s2, s3, er, rfl, hs, ⟨hv, rfl⟩, hbl⟩
  have HV := Lib.hid hv
  clear hv
  have HM' := Lib.hid (HM.out.on hbl)
  have KK' := Lib.hid (KK.out.same hbl)
  have zk := KK'.out.lt
  clear HM KK hbl M1
  have HM := HM'
  have KK := KK'
  clear HM' KK'
  clear zk
  have wz : w.heap.size < w2.heap.size := HM.out.lt (b := w.heap.size) (c0 := 0) (c1 := 0) (c2 := 0) (c3 := 0) (by simp)
  have HM' := Lib.hid (HM.out.new w2.heap.size s0 s1 s2 s3 26 rfl)
  have KK' := Lib.hid (KK.out.same ((Below.refl _ _).alloc (Nat.le_refl _) (.cells #[.int .u64 s0, .int .u64 s1, .int .u64 s2, .int .u64 s3] 26)))
  clear HM KK
  have HM := HM'
  have KK := KK'
  clear HM' KK'
  go_wp2_with fail
  refine (has_calls F hf.ok w1.heap.size s0 s1 s2 s3 hs _ KK.out).mono ?_
  rintro e w3 ⟨he, hbl⟩
  rw [show isB (val4 s0 s1 s2 s3) F.M = false from by rw [HV.out]; exact decide_eq_false hlt] at he
  subst he
  have HM' := Lib.hid (HM.out.on hbl)
  have KK' := Lib.hid (KK.out.same hbl)
  have zk := KK'.out.lt
  clear HM KK hbl
  have HM := HM'
  have KK := KK'
  clear HM' KK'
  clear zk
  have kr := HM.out.row (b := w.heap.size) (c0 := 0) (c1 := 0) (c2 := 0) (c3 := 0) (by simp)
  have y0 := kr.c0; have y1 := kr.c1; have y2 := kr.c2; have y3 := kr.c3; have yf := kr.fr
  clear kr
  have yl := HM.out.lt (b := w.heap.size) (c0 := 0) (c1 := 0) (c2 := 0) (c3 := 0) (by simp)
  go_wp2_with fail
  refine (refusal_two _).mono ?_
  rintro e w4 ⟨rfl, rfl⟩
  go_wp2_with fail
  refine bodyPost_ret (v := .tuple #[.agg #[.int .u64 0, .int .u64 0, .int .u64 0, .int .u64 0], .int .i64 21]) (by simp [results, Try.results26, go_sem, *]) rfl ?_
  refine ⟨_, _, _, _, rfl, zok, rfl, ?_⟩
  exact below_set4 HM.out.1 (by omega) 0 0 0 0
end Go.Proofs.Ytalddekocfkbhaa
