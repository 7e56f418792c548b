/-
  The calls Reduce, Bytes and Read. Conditions: words below 2^64; bytes as limbs.Read reads them.
-/
import Derived.Test.YtgacpjmggdmgdaaGreatApi1
import Derived.Test.YtgacpjmggdmgdaaGreatMod
import Derived.Test.YtgacpjmggdmgdaaGreatBytes
namespace Go.Proofs.YtgacpjmggdmgdaaGreat
set_option linter.unusedVariables false
set_option linter.unusedSimpArgs false
open Go.RowKit

theorem refusal_c (c : Int) (h : c ≠ 0) (w : World) : Calls Tryz.prog 139 #[.int .i64 c] w fun e w' => e = .returned (.int .i64 c) ∧ w' = w := by
  have t0 : (c != 0) = true := by simp [h]
  go_enter Tryz.func139, Tryz.ntmps139
  go_wp2_with fail
  go_ret
  exact ⟨rfl, rfl⟩
set_option maxRecDepth 100000 in
set_option maxHeartbeats 2000000 in
theorem freduce_none (f : Int) (g0 g1 g2 g3 l0 l1 l2 l3 : Nat) (hh : ok4 g0 g1 g2 g3) (hl : ok4 l0 l1 l2 l3) (h1 : f ≠ 1) (h2 : f ≠ 2) (w : World) :
    Calls Tryz.prog 129 #[.int .i64 f, .agg #[.int .u64 g0, .int .u64 g1, .int .u64 g2, .int .u64 g3], .agg #[.int .u64 l0, .int .u64 l1, .int .u64 l2, .int .u64 l3]] w (FeE 1 0 w) := by
  go_enter Tryz.func129, Tryz.ntmps129
  go_wp2_with fail
  refine (cons_none f h1 h2 _).mono ?_
  rintro e w1 ⟨rfl, hbl⟩
  have M1 := ((((Mem.nil w).new (w.heap.size) g0 g1 g2 g3 50 (by simp)).new (w.heap.size + 1) l0 l1 l2 l3 50 (by simp)).new (w.heap.size + 1 + 1) 0 0 0 0 24 (by simp)).on hbl
  clear hbl
  have z0 : w.heap.size < w1.heap.size := M1.lt (c0 := g0) (c1 := g1) (c2 := g2) (c3 := g3) (by simp)
  have z1 : w.heap.size + 1 < w1.heap.size := M1.lt (c0 := l0) (c1 := l1) (c2 := l2) (c3 := l3) (by simp)
  have z2 : w.heap.size + 1 + 1 < w1.heap.size := M1.lt (c0 := 0) (c1 := 0) (c2 := 0) (c3 := 0) (by simp)
  have HM := Lib.hid (M1.on ((Below.refl _ _).alloc (Nat.le_refl _) (.cells #[.int .u64 0, .int .u64 0, .int .u64 0, .int .u64 0, .int .u64 0, .int .u64 0, .int .u64 0, .int .u64 0, .int .u64 0] 137)))
  have kr := M1.row (b := w.heap.size + 1 + 1) (c0 := 0) (c1 := 0) (c2 := 0) (c3 := 0) (by simp)
  have y0 := kr.c0; have y1 := kr.c1; have y2 := kr.c2; have y3 := kr.c3; have yf := kr.fr
  clear kr
  have yl := M1.lt (b := w.heap.size + 1 + 1) (c0 := 0) (c1 := 0) (c2 := 0) (c3 := 0) (by simp)
  go_wp2_with fail
  refine bodyPost_ret (v := .tuple #[.agg #[.int .u64 0, .int .u64 0, .int .u64 0, .int .u64 0], .int .i64 1]) (by simp [results, Tryz.results129, go_sem, *]) rfl ?_
  refine ⟨_, _, _, _, rfl, zok, rfl, ?_⟩
  repeat (first | exact M1.1 | exact HM.out.1 | refine Below.alloc ?_ (by first | (simp; done) | (simp; omega)) _ | refine Below.setCell ?_ (by first | (simp; done) | (simp; omega)) _)
set_option maxRecDepth 100000 in
set_option maxHeartbeats 2000000 in
theorem freduce_ok (f : Int) (F : FC) (hf : FieldIs f F) (g0 g1 g2 g3 l0 l1 l2 l3 : Nat) (hg : ok4 g0 g1 g2 g3) (hl : ok4 l0 l1 l2 l3) (w : World) :
    Calls Tryz.prog 129 #[.int .i64 f, .agg #[.int .u64 g0, .int .u64 g1, .int .u64 g2, .int .u64 g3], .agg #[.int .u64 l0, .int .u64 l1, .int .u64 l2, .int .u64 l3]] w (FeE 0 ((val4 g0 g1 g2 g3 * 115792089237316195423570985008687907853269984665640564039457584007913129639936 + val4 l0 l1 l2 l3) % F.M) w) := by
  go_enter Tryz.func129, Tryz.ntmps129
  go_wp2_with fail
  refine (cons_some f F hf _).mono ?_
  rintro e w1 ⟨rfl, hbl⟩
  have M1 := ((((Mem.nil w).new (w.heap.size) g0 g1 g2 g3 50 (by simp)).new (w.heap.size + 1) l0 l1 l2 l3 50 (by simp)).new (w.heap.size + 1 + 1) 0 0 0 0 24 (by simp)).on hbl
  clear hbl
  have z0 : w.heap.size < w1.heap.size := M1.lt (c0 := g0) (c1 := g1) (c2 := g2) (c3 := g3) (by simp)
  have z1 : w.heap.size + 1 < w1.heap.size := M1.lt (c0 := l0) (c1 := l1) (c2 := l2) (c3 := l3) (by simp)
  have z2 : w.heap.size + 1 + 1 < w1.heap.size := M1.lt (c0 := 0) (c1 := 0) (c2 := 0) (c3 := 0) (by simp)
  have HM := Lib.hid (M1.on ((Below.refl _ _).alloc (Nat.le_refl _) (.cells #[.int .u64 F.m0, .int .u64 F.m1, .int .u64 F.m2, .int .u64 F.m3, .int .u64 F.inv, .int .u64 F.s0, .int .u64 F.s1, .int .u64 F.s2, .int .u64 F.s3] 137)))
  have KK := Lib.hid (KIs.new w1 F 137)
  have kr := M1.row (b := w.heap.size) (c0 := g0) (c1 := g1) (c2 := g2) (c3 := g3) (by simp)
  have x0 := kr.c0; have x1 := kr.c1; have x2 := kr.c2; have x3 := kr.c3
  clear kr
  have xl := M1.lt (b := w.heap.size) (c0 := g0) (c1 := g1) (c2 := g2) (c3 := g3) (by simp)
  have kr := M1.row (b := w.heap.size + 1) (c0 := l0) (c1 := l1) (c2 := l2) (c3 := l3) (by simp)
  have u0 := kr.c0; have u1 := kr.c1; have u2 := kr.c2; have u3 := kr.c3
  clear kr
  have ul := M1.lt (b := w.heap.size + 1) (c0 := l0) (c1 := l1) (c2 := l2) (c3 := l3) (by simp)
  have k0 := KK.out.k0; have k1 := KK.out.k1; have k2 := KK.out.k2; have k3 := KK.out.k3
  go_wp2_with fail
  refine (mod_some g0 g1 g2 g3 l0 l1 l2 l3 F.m0 F.m1 F.m2 F.m3 hg hl hf.ok.okm hf.ok.pos _).mono ?_
  rintro e w2 ⟨s0, s1, s2, s3, er, rfl, hs, ⟨hv, rfl⟩, hbl⟩
  have HV := Lib.hid hv
  clear hv
  have HM' := Lib.hid (HM.out.on hbl)
  have KK' := Lib.hid (KK.out.same hbl)
  have zk := KK'.out.lt
  clear HM KK hbl M1
  have HM := HM'
  have KK := KK'
  clear HM' KK'
  clear zk k0 k1 k2 k3 x0 x1 x2 x3 xl u0 u1 u2 u3 ul
  have wz : w.heap.size + 1 + 1 < w2.heap.size := HM.out.lt (b := w.heap.size + 1 + 1) (c0 := 0) (c1 := 0) (c2 := 0) (c3 := 0) (by simp)
  have kr := HM.out.row (b := w.heap.size + 1 + 1) (c0 := 0) (c1 := 0) (c2 := 0) (c3 := 0) (by simp)
  have y0 := kr.c0; have y1 := kr.c1; have y2 := kr.c2; have y3 := kr.c3; have yf := kr.fr
  clear kr
  have yl := HM.out.lt (b := w.heap.size + 1 + 1) (c0 := 0) (c1 := 0) (c2 := 0) (c3 := 0) (by simp)
  go_wp2_with fail
  refine bodyPost_ret (v := .tuple #[.agg #[.int .u64 s0, .int .u64 s1, .int .u64 s2, .int .u64 s3], .int .i64 0]) (by simp [results, Tryz.results129, go_sem, *]) rfl ?_
  refine ⟨_, _, _, _, rfl, hs, HV.out, ?_⟩
  repeat (first | exact HM.out.1 | refine Below.alloc ?_ (by first | (simp; done) | (simp; omega)) _ | refine Below.setCell ?_ (by first | (simp; done) | (simp; omega)) _)
/-- an element's bytes -/
def FBytes (A : Nat) (w : World) (e : Ending) (w' : World) : Prop :=
  ∃ b : Nat, e = .returned (.tuple #[.slice (some ⟨b, 0, none⟩) 32 32, .int .i64 0]) ∧ w.heap.size ≤ b ∧ b < w'.heap.size ∧ RowB w' b 32 (byteAt A) ∧ Below w.heap.size w w'
end Go.Proofs.YtgacpjmggdmgdaaGreat
