/-
  Plain numbers behind the rest of a number of eight words: number and modulus are lifted alike. No program in sight. Conditions: as each lemma says.
  The call of limbs.Mod: the rest of a number of eight words by one of four; an error where that is 0. Conditions: each word below 2^64.
  Plain numbers behind bytes: the bytes of a number of four words, the highest first, and the number of 32 bytes. No program in sight. Conditions: none.
  The calls of limbs.Bytes and limbs.Read, and of the reference's Read: for any number of four words, any bytes, in any world. Conditions: each word below 2^64.
  The calls Reduce, Bytes and Read. Conditions: words below 2^64; bytes as limbs.Read reads them.
  The tower's parts over the first field: rest, plus, minus, times, negative, products: each answers the words of one number. Conditions: words below 2^64; parts below p but for rest.
  The parts' table is right: by the contracts of the first field's calls. Conditions: none.
  p has the root 3. Conditions: none.
  The tower is a tower of fields: what is not 0 has its inverse. Conditions: none.
  The tower's examples hold: alive answers true. Conditions: none.
  Numbers as they come in, by value: entries. Conditions: none.
  The calls of the reference's halves and join: for any number of four words, in any world, eight halves of words; and back. Conditions: each word below 2^64.
  A region that draws its order: operations in whatever order that make memory and call, held by one condition on what has come up, the frame and the world; behind them a tail in one forced order. Of whatever program. Conditions: as the law says.
-/
import Derived.Deep.RegionHeld3
import Derived.Deep.DeepCutAuto
import Derived.Deep.LoopGhost
import Derived.RegionTactic
import Derived.Laws.StructEq
import Derived.StillTail
import Derived.KernelRfl
import Derived.Test.YthlcjdcjnioeoaaGreatCj04
import Derived.Test.YthlcjdcjnioeoaaGreatCj03
import Derived.Test.YthlcjdcjnioeoaaGreatCj05
import Derived.Test.YthlcjdcjnioeoaaGreatCj00
import Derived.Test.YthlcjdcjnioeoaaGreatCj02
namespace Go.Proofs.YthlcjdcjnioeoaaGreat
set_option linter.unusedVariables false
set_option linter.unusedSimpArgs false
open Go.RowKit

theorem lift_by {m L : Nat} (hL : L ≤ 256) (h : LenIs m L) (hm : 0 < m) : 0 < L ∧ m * 2 ^ (256 - L) < 115792089237316195423570985008687907853269984665640564039457584007913129639936 ∧ 57896044618658097711785492504343953926634992332820282019728792003956564819968 ≤ m * 2 ^ (256 - L) := by
  have hpos : 0 < L := by
    rcases Nat.eq_zero_or_pos L with e | e
    · subst e; have := h.1; simp at this; omega
    · exact e
  have e : 2 ^ L * 2 ^ (256 - L) = 115792089237316195423570985008687907853269984665640564039457584007913129639936 := by rw [← Nat.pow_add, show L + (256 - L) = 256 by omega]
  have e' : 2 ^ (L - 1) * 2 ^ (256 - L) = 57896044618658097711785492504343953926634992332820282019728792003956564819968 := by rw [← Nat.pow_add, show L - 1 + (256 - L) = 255 by omega]
  refine ⟨hpos, ?_, ?_⟩
  · have := Nat.mul_lt_mul_of_pos_right h.1 (Nat.two_pow_pos (256 - L))
    rw [e] at this; exact this
  · have := Nat.mul_le_mul_right (2 ^ (256 - L)) (h.2 hpos)
    rw [e'] at this; exact this
theorem top_bit {b0 b1 b2 b3 : Nat} (h : ok4 b0 b1 b2 b3) (hb : 57896044618658097711785492504343953926634992332820282019728792003956564819968 ≤ val4 b0 b1 b2 b3) : 9223372036854775808 ≤ b3 := by
  obtain ⟨h0, h1, h2, h3⟩ := h
  unfold val4 at hb; omega
theorem rest_lt {x m L : Nat} (hL : L ≤ 256) (hm : 0 < m) (hx : x < 115792089237316195423570985008687907853269984665640564039457584007913129639936) : x / 2 ^ L < m * 2 ^ (256 - L) := by
  have e : 2 ^ (256 - L) * 2 ^ L = 115792089237316195423570985008687907853269984665640564039457584007913129639936 := by rw [← Nat.pow_add, show 256 - L + L = 256 by omega]
  have h1 : x / 2 ^ L < 2 ^ (256 - L) := by rw [Nat.div_lt_iff_lt_mul (Nat.two_pow_pos _), e]; exact hx
  have h2 := Nat.mul_le_mul_right (2 ^ (256 - L)) (show 1 ≤ m from hm)
  omega
/-- what is shifted up, and what left it -/
theorem up_parts {x L : Nat} (hL : L ≤ 256) : x / 2 ^ L * 115792089237316195423570985008687907853269984665640564039457584007913129639936 + x * 2 ^ (256 - L) % 115792089237316195423570985008687907853269984665640564039457584007913129639936 = x * 2 ^ (256 - L) := by
  have e : 2 ^ L * 2 ^ (256 - L) = 115792089237316195423570985008687907853269984665640564039457584007913129639936 := by rw [← Nat.pow_add, show L + (256 - L) = 256 by omega]
  have hd : x * 2 ^ (256 - L) / 115792089237316195423570985008687907853269984665640564039457584007913129639936 = x / 2 ^ L := by rw [← e]; exact Nat.mul_div_mul_right _ _ (Nat.two_pow_pos _)
  rw [← hd]; omega
theorem join_sum {x y L : Nat} (hL : L ≤ 256) (hy : y < 115792089237316195423570985008687907853269984665640564039457584007913129639936) : (x * 2 ^ (256 - L) % 115792089237316195423570985008687907853269984665640564039457584007913129639936) ||| (y / 2 ^ L) = x * 2 ^ (256 - L) % 115792089237316195423570985008687907853269984665640564039457584007913129639936 + y / 2 ^ L := by
  have e : 2 ^ L * 2 ^ (256 - L) = 115792089237316195423570985008687907853269984665640564039457584007913129639936 := by rw [← Nat.pow_add, show L + (256 - L) = 256 by omega]
  have hlt : y / 2 ^ L < 2 ^ (256 - L) := by rw [Nat.div_lt_iff_lt_mul (Nat.two_pow_pos _), Nat.mul_comm, e]; exact hy
  have hm : x * 2 ^ (256 - L) % 115792089237316195423570985008687907853269984665640564039457584007913129639936 = 2 ^ (256 - L) * (x % 2 ^ L) := by
    rw [← e, Nat.mul_mod_mul_right, Nat.mul_comm]
  rw [hm, ← Nat.two_pow_add_eq_or_of_lt hlt]
theorem mod_step' (n m x b : Nat) : ((n % b) * m + x) % b = (n * m + x) % b := by
  rw [Nat.add_mod, Nat.mul_mod, Nat.mod_mod, ← Nat.mul_mod, ← Nat.add_mod]
theorem mod_fin {h l m L r1 r2 : Nat} (hL : L ≤ 256)
    (e1 : r1 = (h / 2 ^ L * 115792089237316195423570985008687907853269984665640564039457584007913129639936 + (h * 2 ^ (256 - L) % 115792089237316195423570985008687907853269984665640564039457584007913129639936 + l / 2 ^ L)) % (m * 2 ^ (256 - L)))
    (e2 : r2 = (r1 * 115792089237316195423570985008687907853269984665640564039457584007913129639936 + l * 2 ^ (256 - L) % 115792089237316195423570985008687907853269984665640564039457584007913129639936) % (m * 2 ^ (256 - L))) : r2 / 2 ^ (256 - L) = (h * 115792089237316195423570985008687907853269984665640564039457584007913129639936 + l) % m := by
  have k1 := up_parts (x := h) hL
  have k2 := up_parts (x := l) hL
  rw [e1, mod_step'] at e2
  have e3 : (h / 2 ^ L * 115792089237316195423570985008687907853269984665640564039457584007913129639936 + (h * 2 ^ (256 - L) % 115792089237316195423570985008687907853269984665640564039457584007913129639936 + l / 2 ^ L)) * 115792089237316195423570985008687907853269984665640564039457584007913129639936 + l * 2 ^ (256 - L) % 115792089237316195423570985008687907853269984665640564039457584007913129639936 = (h * 115792089237316195423570985008687907853269984665640564039457584007913129639936 + l) * 2 ^ (256 - L) := by
    have : (h * 115792089237316195423570985008687907853269984665640564039457584007913129639936 + l) * 2 ^ (256 - L) = h * 2 ^ (256 - L) * 115792089237316195423570985008687907853269984665640564039457584007913129639936 + l * 2 ^ (256 - L) := by rw [Nat.add_mul, Nat.mul_right_comm]
    rw [this]
    generalize h * 2 ^ (256 - L) % 115792089237316195423570985008687907853269984665640564039457584007913129639936 = Q at *
    generalize l * 2 ^ (256 - L) % 115792089237316195423570985008687907853269984665640564039457584007913129639936 = U at *
    rw [← k1, ← k2]
    simp only [Nat.add_mul, Nat.add_assoc]
  rw [e3, Nat.mul_mod_mul_right] at e2
  rw [e2, Nat.mul_div_cancel _ (Nat.two_pow_pos _)]
end Go.Proofs.YthlcjdcjnioeoaaGreat
namespace Go.Proofs.YthlcjdcjnioeoaaGreat
set_option linter.unusedVariables false
set_option linter.unusedSimpArgs false
open Go.RowKit

def ModPost (P : Nat → Nat → Prop) (w : World) (e : Ending) (w' : World) : Prop :=
  ∃ s0 s1 s2 s3 c : Nat, e = .returned (.tuple #[.agg #[.int .u64 s0, .int .u64 s1, .int .u64 s2, .int .u64 s3], .int .i64 c]) ∧ ok4 s0 s1 s2 s3 ∧ P (val4 s0 s1 s2 s3) c ∧ Below w.heap.size w w'

theorem equalInW0 (a0 a1 a2 a3 : Nat) (w : World) : (Op.equalIn 10000 27 (.agg #[.int .u64 a0, .int .u64 a1, .int .u64 a2, .int .u64 a3]) (.agg #[.int .u64 0, .int .u64 0, .int .u64 0, .int .u64 0])).run Tryz.prog w = .ok (eqW a0 a1 a2 a3 0 0 0 0) w :=
  equalInW 9998 a0 a1 a2 a3 0 0 0 0 w

/-- the world in Mod, once the divisor and the first rest are laid -/
structure MR (w wr : World) (g9 g10 : Nat) (h0 h1 h2 h3 l0 l1 l2 l3 b0 b1 b2 b3 r0 r1 r2 r3 : Nat) : Prop where
  below : Below w.heap.size w wr
  lo : w.heap.size + 1 + 1 + 1 < g9
  mid : g9 < g10
  size : g10 < wr.heap.size
  rowH : Row4 wr w.heap.size h0 h1 h2 h3
  rowL : Row4 wr (w.heap.size + 1) l0 l1 l2 l3
  rowB : Row4 wr g9 b0 b1 b2 b3
  rowR : Row4 wr g10 r0 r1 r2 r3
  rowO : Row4 wr (w.heap.size + 1 + 1 + 1) 0 0 0 0
theorem MR.on {w wr w' : World} {g9 g10 : Nat} {h0 h1 h2 h3 l0 l1 l2 l3 b0 b1 b2 b3 r0 r1 r2 r3 : Nat} (m : MR w wr g9 g10 h0 h1 h2 h3 l0 l1 l2 l3 b0 b1 b2 b3 r0 r1 r2 r3) (hb : Below wr.heap.size wr w') : MR w w' g9 g10 h0 h1 h2 h3 l0 l1 l2 l3 b0 b1 b2 b3 r0 r1 r2 r3 :=
  ⟨m.below.trans (hb.mono m.below.size), m.lo, m.mid, Nat.lt_of_lt_of_le m.size hb.size, m.rowH.below hb (by have := m.lo; have := m.mid; have := m.size; omega), m.rowL.below hb (by have := m.lo; have := m.mid; have := m.size; omega),
    m.rowB.below hb (by have := m.mid; have := m.size; omega), m.rowR.below hb m.size, m.rowO.below hb (by have := m.lo; have := m.mid; have := m.size; omega)⟩
theorem MR.drewN {w wr : World} {g9 g10 : Nat} {h0 h1 h2 h3 l0 l1 l2 l3 b0 b1 b2 b3 r0 r1 r2 r3 : Nat} (m : MR w wr g9 g10 h0 h1 h2 h3 l0 l1 l2 l3 b0 b1 b2 b3 r0 r1 r2 r3) (n : Nat) : MR w (wr.drewN n) g9 g10 h0 h1 h2 h3 l0 l1 l2 l3 b0 b1 b2 b3 r0 r1 r2 r3 := m.on (below_drewN' _ _ n)
theorem MR.onDrew {w wr w' : World} {g9 g10 : Nat} {h0 h1 h2 h3 l0 l1 l2 l3 b0 b1 b2 b3 r0 r1 r2 r3 : Nat} (m : MR w wr g9 g10 h0 h1 h2 h3 l0 l1 l2 l3 b0 b1 b2 b3 r0 r1 r2 r3) (hb : Below wr.drew.heap.size wr.drew w') : MR w w' g9 g10 h0 h1 h2 h3 l0 l1 l2 l3 b0 b1 b2 b3 r0 r1 r2 r3 := (m.drewN 1).on hb
theorem MR.put {w wr : World} {g9 g10 : Nat} {h0 h1 h2 h3 l0 l1 l2 l3 b0 b1 b2 b3 r0 r1 r2 r3 : Nat} (m : MR w wr g9 g10 h0 h1 h2 h3 l0 l1 l2 l3 b0 b1 b2 b3 r0 r1 r2 r3) (s0 s1 s2 s3 : Nat) : MR w (set4 wr g10 s0 s1 s2 s3) g9 g10 h0 h1 h2 h3 l0 l1 l2 l3 b0 b1 b2 b3 s0 s1 s2 s3 :=
  ⟨below_set4 m.below (by have := m.lo; have := m.mid; omega) _ _ _ _, m.lo, m.mid, by unfold set4; simp only [World.size_setCell]; exact m.size, m.rowH.set4_other (by have := m.lo; have := m.mid; omega) _ _ _ _, m.rowL.set4_other (by have := m.lo; have := m.mid; omega) _ _ _ _,
    m.rowB.set4_other (by have := m.mid; omega) _ _ _ _, m.rowR.set4 _ _ _ _, m.rowO.set4_other (by have := m.lo; have := m.mid; omega) _ _ _ _⟩

set_option maxRecDepth 100000 in
set_option maxHeartbeats 4000000 in
theorem mod_some (h0 h1 h2 h3 l0 l1 l2 l3 m0 m1 m2 m3 : Nat) (hh : ok4 h0 h1 h2 h3) (hl : ok4 l0 l1 l2 l3) (hm : ok4 m0 m1 m2 m3) (hpz : 0 < val4 m0 m1 m2 m3) (w : World) :
    Calls Tryz.prog 229 #[.agg #[.int .u64 h0, .int .u64 h1, .int .u64 h2, .int .u64 h3], .agg #[.int .u64 l0, .int .u64 l1, .int .u64 l2, .int .u64 l3], .agg #[.int .u64 m0, .int .u64 m1, .int .u64 m2, .int .u64 m3]] w (ModPost (fun v c => v = (val4 h0 h1 h2 h3 * 115792089237316195423570985008687907853269984665640564039457584007913129639936 + val4 l0 l1 l2 l3) % val4 m0 m1 m2 m3 ∧ c = 0) w) := by
  have hE := fun w => equalInW0 m0 m1 m2 m3 w
  have hG := eqGuardW
  have q : eqW m0 m1 m2 m3 0 0 0 0 = false := by
    have := eqW_iff hm (show ok4 0 0 0 0 from ⟨by omega, by omega, by omega, by omega⟩)
    rcases h : eqW m0 m1 m2 m3 0 0 0 0 with _ | _
    · rfl
    · exact absurd (this.1 h) (by unfold val4 at hpz ⊢; omega)
  rw [q] at hE
  clear q
  go_enter Tryz.func229, Tryz.ntmps229
  go_wp2_with fail
  refine (len_calls m0 m1 m2 m3 hm _).mono ?_
  rintro e w1 ⟨L, rfl, bL, lenL, hbl⟩
  obtain ⟨hpos, hb1, hb2⟩ := lift_by bL lenL hpz
  obtain ⟨S, eS⟩ : ∃ S, S = 256 - L := ⟨_, rfl⟩
  have wS : (256 : Int) - (L : Int) = (S : Int) := by omega
  have wL : (256 : Int) - (S : Int) = (L : Int) := by omega
  have bS : S ≤ 256 := by omega
  have H1 := (((Row4.new w h0 h1 h2 h3 27).alloc (by simp) _).alloc (by simp; omega) _).alloc (by simp; omega) _ |>.below hbl (by simp; omega)
  have L1 := (((Row4.new (w.alloc _) l0 l1 l2 l3 27).alloc (by simp) _).alloc (by simp) _).below hbl (by simp)
  have M1 := ((Row4.new ((w.alloc _).alloc _) m0 m1 m2 m3 27).alloc (by simp) _).below hbl (by simp)
  have O1 := (Row4.new (((w.alloc _).alloc _).alloc _) 0 0 0 0 27).below hbl (by simp)
  simp only [World.size_alloc] at L1 M1 O1
  have hz1 : w.heap.size + 1 + 1 + 1 < w1.heap.size := by have := hbl.size; simp at this; omega
  have B1 := (below4 w _ _ _ _).trans (hbl.mono (by simp; omega))
  have HeS := Lib.hid eS; have Hb1 := Lib.hid hb1; have Hb2 := Lib.hid hb2; have HL := Lib.hid lenL; have HB1 := Lib.hid B1
  have HH1 := Lib.hid H1; have HL1 := Lib.hid L1; have HM1 := Lib.hid M1; have HO1 := Lib.hid O1
  have y0 : w.heap.size < w1.heap.size := by omega
  have y1 : w.heap.size + 1 < w1.heap.size := by omega
  have y2 : w.heap.size + 1 + 1 < w1.heap.size := by omega
  obtain ⟨m0', m1', m2', m3', mf⟩ := M1
  clear hE hG eS hb1 hb2 lenL B1 H1 L1 O1 hbl
  go_wp2_with fail
  refine (shl_calls m0 m1 m2 m3 S hm (by omega) (by omega) _).mono ?_
  rintro e w2 ⟨b0, b1, b2, b3, rfl, hb, vb, hbl⟩
  rw [Int.toNat_natCast] at vb
  have H2 := HH1.out.below hbl y0
  have L2 := HL1.out.below hbl y1
  have O2 := HO1.out.below hbl hz1
  have hz2 : w1.heap.size ≤ w2.heap.size := hbl.size
  have B2 := HB1.out.trans (hbl.mono HB1.out.size)
  have HH2 := Lib.hid H2; have HL2 := Lib.hid L2; have HO2 := Lib.hid O2; have HB2 := Lib.hid B2; have Hvb := Lib.hid vb
  have z0 : w.heap.size < w2.heap.size := by omega
  have z1 : w.heap.size + 1 < w2.heap.size := by omega
  have z3 : w.heap.size + 1 + 1 + 1 < w2.heap.size := by omega
  obtain ⟨h0', h1', h2', h3', hf⟩ := H2
  clear L2 O2 B2 vb hbl m0' m1' m2' m3' mf
  go_wp2_with fail
  refine (shr_calls h0 h1 h2 h3 L hh (by omega) (by omega) _).mono ?_
  rintro e w3 ⟨r0, r1, r2, r3, rfl, hr, vr, hbl⟩
  rw [Int.toNat_natCast] at vr
  clear h0' h1' h2' h3' hf
  have MR1 : MR w (w3.alloc (.cells #[.int .u64 r0, .int .u64 r1, .int .u64 r2, .int .u64 r3] 27)) w2.heap.size w3.heap.size h0 h1 h2 h3 l0 l1 l2 l3 b0 b1 b2 b3 r0 r1 r2 r3 := by
    have hb' := hbl
    have hz3 := hb'.size
    rw [World.size_alloc] at hz3
    have hall : ∀ {x : Nat} {c0 c1 c2 c3 : Nat}, Row4 w2 x c0 c1 c2 c3 → x < w2.heap.size → Row4 (w3.alloc (.cells #[.int .u64 r0, .int .u64 r1, .int .u64 r2, .int .u64 r3] 27)) x c0 c1 c2 c3 := fun q hx =>
      ((q.alloc hx _).below hb' (by rw [World.size_alloc]; omega)).alloc (by omega) _
    refine ⟨((HB2.out.alloc (by omega) _).trans (hb'.mono (by rw [World.size_alloc]; omega))).alloc (by omega) _, z3, by omega, by simp, hall HH2.out z0, hall HL2.out z1, ?_, Row4.new _ _ _ _ _ _, hall HO2.out z3⟩
    exact ((Row4.new w2 b0 b1 b2 b3 27).below hb' (by simp)).alloc (by omega) _
  go_wp2_with fail
  clear hbl
  have Hvr := Lib.hid vr
  clear vr
  generalize w3.alloc (.cells #[.int .u64 r0, .int .u64 r1, .int .u64 r2, .int .u64 r3] 27) = W at *
  generalize w2.heap.size = g9 at *
  generalize w3.heap.size = g10 at *
  have M := MR1
  clear MR1
  have wLL : IntKind.i64.wrap (L : Int) = (L : Int) := by simp [IntKind.wrap, IntKind.bits, IntKind.signed]; omega
  have HM := Lib.hid M
  have evb : val4 b0 b1 b2 b3 = val4 m0 m1 m2 m3 * 2 ^ S := by rw [Hvb.out, HeS.out, Nat.mod_eq_of_lt Hb1.out]
  have hb3 : 9223372036854775808 ≤ b3 := top_bit hb (by rw [evb, HeS.out]; exact Hb2.out)
  have hrb : val4 r0 r1 r2 r3 < val4 b0 b1 b2 b3 := by rw [evb, Hvr.out, HeS.out]; exact rest_lt bL hpz (val4_lt hh)
  have Hevb := Lib.hid evb
  clear evb
  clear M y0 y1 y2 z0 z1 z3 hz1 hz2 HH1 HL1 HM1 HO1 HB1 HH2 HL2 HO2 HB2
  have g0 : ∀ k, W.cell? ⟨w.heap.size, k, none⟩ = W.cell? ⟨w.heap.size, k, none⟩ := fun _ => rfl
  clear g0
  clear wS wL
  have wL' : IntKind.i64.wrap (256 - (S : Int)) = (L : Int) := by have := HeS.out; simp [IntKind.wrap, IntKind.bits, IntKind.signed]; omega
  go_wp2_with fail
  refine region_till (fun wx => MR w wx g9 g10 h0 h1 h2 h3 l0 l1 l2 l3 b0 b1 b2 b3 r0 r1 r2 r3) 11 (by kernel_rfl) ?_
  have HS : (fun wx => MR w wx g9 g10 h0 h1 h2 h3 l0 l1 l2 l3 b0 b1 b2 b3 r0 r1 r2 r3) W.drew := HM.out.drewN 1
  refine till_take (i := 0) (v := .agg #[.int .u64 r0, .int .u64 r1, .int .u64 r2, .int .u64 r3]) rfl (by kernel_rfl) (by kernel_rfl) (by kernel_rfl) (by kernel_rfl) (fun _ _ _ h => h) HS (Or.inl ⟨by rfl, fun wx hx => ?_⟩) ?_
  · obtain ⟨k0, k1, k2, k3, kf⟩ := MR.rowR hx
    clear HS
    go_simp
  simp only [Act.put, List.setIfInBounds_toArray, List.set_cons_zero, List.set_cons_succ]
  refine till_take (i := 1) (v := .agg #[.int .u64 h0, .int .u64 h1, .int .u64 h2, .int .u64 h3]) rfl (by kernel_rfl) (by kernel_rfl) (by kernel_rfl) (by kernel_rfl) (fun _ _ _ h => h) HS (Or.inl ⟨by rfl, fun wx hx => ?_⟩) ?_
  · obtain ⟨k0, k1, k2, k3, kf⟩ := MR.rowH hx
    clear HS
    go_simp
  simp only [Act.put, List.setIfInBounds_toArray, List.set_cons_zero, List.set_cons_succ]
  refine till_take (i := 2) (v := .int .i64 (S : Nat)) rfl (by kernel_rfl) (by kernel_rfl) (by kernel_rfl) (by kernel_rfl) (fun _ _ _ h => h) HS (Or.inl ⟨by rfl, fun wx hx => ?_⟩) ?_
  · clear hx HS
    go_simp
  simp only [Act.put, List.setIfInBounds_toArray, List.set_cons_zero, List.set_cons_succ]
  refine till_take (i := 4) (v := .agg #[.int .u64 l0, .int .u64 l1, .int .u64 l2, .int .u64 l3]) rfl (by kernel_rfl) (by kernel_rfl) (by kernel_rfl) (by kernel_rfl) (fun _ _ _ h => h) HS (Or.inl ⟨by rfl, fun wx hx => ?_⟩) ?_
  · obtain ⟨k0, k1, k2, k3, kf⟩ := MR.rowL hx
    clear HS
    go_simp
  simp only [Act.put, List.setIfInBounds_toArray, List.set_cons_zero, List.set_cons_succ]
  refine till_take (i := 5) (v := .int .i64 (S : Nat)) rfl (by kernel_rfl) (by kernel_rfl) (by kernel_rfl) (by kernel_rfl) (fun _ _ _ h => h) HS (Or.inl ⟨by rfl, fun wx hx => ?_⟩) ?_
  · clear hx HS
    go_simp
  simp only [Act.put, List.setIfInBounds_toArray, List.set_cons_zero, List.set_cons_succ]
  refine till_take (i := 6) (v := .int .i64 (L : Nat)) rfl (by kernel_rfl) (by kernel_rfl) (by kernel_rfl) (by kernel_rfl) (fun _ _ _ h => h) HS (Or.inl ⟨by rfl, fun wx hx => ?_⟩) ?_
  · clear hx HS
    go_simp
  simp only [Act.put, List.setIfInBounds_toArray, List.set_cons_zero, List.set_cons_succ]
  refine till_take (i := 9) (v := .agg #[.int .u64 b0, .int .u64 b1, .int .u64 b2, .int .u64 b3]) rfl (by kernel_rfl) (by kernel_rfl) (by kernel_rfl) (by kernel_rfl) (fun _ _ _ h => h) HS (Or.inl ⟨by rfl, fun wx hx => ?_⟩) ?_
  · obtain ⟨k0, k1, k2, k3, kf⟩ := MR.rowB hx
    clear HS
    go_simp
  simp only [Act.put, List.setIfInBounds_toArray, List.set_cons_zero, List.set_cons_succ]
  clear HS
  refine till_step (i := 3) (by kernel_rfl) rfl (fun K hK => ?_)
  go_simp
  refine (shl_calls h0 h1 h2 h3 S hh (by omega) (by omega) _).mono ?_
  rintro e w4 ⟨x0, x1, x2, x3, rfl, hx, vx, hbl⟩
  rw [Int.toNat_natCast] at vx
  have Hvx := Lib.hid vx
  clear vx
  have M4 := HM.out.onDrew hbl
  clear hbl
  go_wp2_with fail
  refine hK.out _ _ (Or.inr M4) (fun hHeld => ?_)
  clear hK K hHeld
  try simp only [Act.put, List.setIfInBounds_toArray, List.set_cons_zero, List.set_cons_succ]
  refine till_step (i := 7) (by kernel_rfl) rfl (fun K hK => ?_)
  go_simp
  refine (shr_calls l0 l1 l2 l3 L hl (by omega) (by omega) _).mono ?_
  rintro e w5 ⟨y0, y1, y2, y3, rfl, hy, vy, hbl⟩
  rw [Int.toNat_natCast] at vy
  have Hvy := Lib.hid vy
  clear vy
  have M5 := M4.on hbl
  clear hbl
  go_wp2_with fail
  refine hK.out _ _ (Or.inr M5) (fun hHeld => ?_)
  clear hK K hHeld
  try simp only [Act.put, List.setIfInBounds_toArray, List.set_cons_zero, List.set_cons_succ]
  refine till_step (i := 8) (by kernel_rfl) rfl (fun K hK => ?_)
  go_simp
  refine (joined_calls x0 x1 x2 x3 y0 y1 y2 y3 hx hy _).mono ?_
  rintro e w6 ⟨z0, z1, z2, z3, rfl, hz, vz, hbl⟩
  have Hvz := Lib.hid vz
  clear vz
  have M6 := M5.on hbl
  clear hbl
  go_wp2_with fail
  refine hK.out _ _ (Or.inr M6) (fun hHeld => ?_)
  clear hK K hHeld
  try simp only [Act.put, List.setIfInBounds_toArray, List.set_cons_zero, List.set_cons_succ]
  refine till_step (i := 10) (by kernel_rfl) rfl (fun K hK => ?_)
  go_simp
  refine (takeIn_calls r0 r1 r2 r3 z0 z1 z2 z3 b0 b1 b2 b3 hr hz hb hb3 hrb _).mono ?_
  rintro e w7 ⟨n0, n1, n2, n3, rfl, hn, vn, hbl⟩
  have Hvn := Lib.hid vn
  clear vn
  have M7 := M6.on hbl
  clear hbl
  go_wp2_with fail
  refine hK.out _ _ (Or.inr M7) (fun hHeld => ?_)
  clear hK K hHeld
  try simp only [Act.put, List.setIfInBounds_toArray, List.set_cons_zero, List.set_cons_succ]
  obtain ⟨q0, q1, q2, q3, qf⟩ := M7.rowR
  have M8 := M7.put n0 n1 n2 n3
  refine till_step (i := 11) (by kernel_rfl) rfl (fun K hK => ?_)
  have hsz := M7.size
  clear M4 M5 M6 M7
  have HM8 := Lib.hid M8
  clear M8
  go_simp
  refine hK.out _ _ (Or.inl rfl) (fun hHeld => ?_)
  clear hK K hHeld q0 q1 q2 q3 qf
  refine till_done (by kernel_rfl) ?_
  have hnb : val4 n0 n1 n2 n3 < val4 b0 b1 b2 b3 := by rw [Hvn.out]; exact Nat.mod_lt _ (by omega)
  have HG := HM8.out
  unfold set4 at HG
  generalize (((w7.setCell ⟨g10, 0, none⟩ (.int .u64 (n0 : Nat))).setCell ⟨g10, 1, none⟩ (.int .u64 (n1 : Nat))).setCell ⟨g10, 2, none⟩ (.int .u64 (n2 : Nat))).setCell ⟨g10, 3, none⟩ (.int .u64 (n3 : Nat)) = W2 at HG ⊢
  have HM9 := Lib.hid HG
  clear HG HM8 hrb
  go_wp2_with fail
  refine region_till (fun wx => MR w wx g9 g10 h0 h1 h2 h3 l0 l1 l2 l3 b0 b1 b2 b3 n0 n1 n2 n3) 6 (by kernel_rfl) ?_
  have HS : (fun wx => MR w wx g9 g10 h0 h1 h2 h3 l0 l1 l2 l3 b0 b1 b2 b3 n0 n1 n2 n3) W2.drew := HM9.out.drewN 1
  refine till_take (i := 0) (v := .agg #[.int .u64 n0, .int .u64 n1, .int .u64 n2, .int .u64 n3]) rfl (by kernel_rfl) (by kernel_rfl) (by kernel_rfl) (by kernel_rfl) (fun _ _ _ h => h) HS (Or.inl ⟨by rfl, fun wx hx => ?_⟩) ?_
  · obtain ⟨k0, k1, k2, k3, kf⟩ := MR.rowR hx
    clear HS
    go_simp
  simp only [Act.put, List.setIfInBounds_toArray, List.set_cons_zero, List.set_cons_succ]
  refine till_take (i := 1) (v := .agg #[.int .u64 l0, .int .u64 l1, .int .u64 l2, .int .u64 l3]) rfl (by kernel_rfl) (by kernel_rfl) (by kernel_rfl) (by kernel_rfl) (fun _ _ _ h => h) HS (Or.inl ⟨by rfl, fun wx hx => ?_⟩) ?_
  · obtain ⟨k0, k1, k2, k3, kf⟩ := MR.rowL hx
    clear HS
    go_simp
  simp only [Act.put, List.setIfInBounds_toArray, List.set_cons_zero, List.set_cons_succ]
  refine till_take (i := 2) (v := .int .i64 (S : Nat)) rfl (by kernel_rfl) (by kernel_rfl) (by kernel_rfl) (by kernel_rfl) (fun _ _ _ h => h) HS (Or.inl ⟨by rfl, fun wx hx => ?_⟩) ?_
  · clear hx HS
    go_simp
  simp only [Act.put, List.setIfInBounds_toArray, List.set_cons_zero, List.set_cons_succ]
  refine till_take (i := 4) (v := .agg #[.int .u64 b0, .int .u64 b1, .int .u64 b2, .int .u64 b3]) rfl (by kernel_rfl) (by kernel_rfl) (by kernel_rfl) (by kernel_rfl) (fun _ _ _ h => h) HS (Or.inl ⟨by rfl, fun wx hx => ?_⟩) ?_
  · obtain ⟨k0, k1, k2, k3, kf⟩ := MR.rowB hx
    clear HS
    go_simp
  simp only [Act.put, List.setIfInBounds_toArray, List.set_cons_zero, List.set_cons_succ]
  clear HS
  refine till_step (i := 3) (by kernel_rfl) rfl (fun K hK => ?_)
  go_simp
  refine (shl_calls l0 l1 l2 l3 S hl (by omega) (by omega) _).mono ?_
  rintro e w8 ⟨u0, u1, u2, u3, rfl, hu, vu, hbl⟩
  rw [Int.toNat_natCast] at vu
  have Hvu := Lib.hid vu
  clear vu
  have M4 := HM9.out.onDrew hbl
  clear hbl
  go_wp2_with fail
  refine hK.out _ _ (Or.inr M4) (fun hHeld => ?_)
  clear hK K hHeld
  try simp only [Act.put, List.setIfInBounds_toArray, List.set_cons_zero, List.set_cons_succ]
  refine till_step (i := 5) (by kernel_rfl) rfl (fun K hK => ?_)
  go_simp
  refine (takeIn_calls n0 n1 n2 n3 u0 u1 u2 u3 b0 b1 b2 b3 hn hu hb hb3 hnb _).mono ?_
  rintro e w9 ⟨p0, p1, p2, p3, rfl, hp, vp, hbl⟩
  have Hvp := Lib.hid vp
  clear vp
  have M7 := M4.on hbl
  clear hbl
  go_wp2_with fail
  refine hK.out _ _ (Or.inr M7) (fun hHeld => ?_)
  clear hK K hHeld
  try simp only [Act.put, List.setIfInBounds_toArray, List.set_cons_zero, List.set_cons_succ]
  obtain ⟨q0, q1, q2, q3, qf⟩ := M7.rowR
  have M8 := M7.put p0 p1 p2 p3
  refine till_step (i := 6) (by kernel_rfl) rfl (fun K hK => ?_)
  have hsz := M7.size
  clear M4 M7
  have HM8 := Lib.hid M8
  clear M8
  go_simp
  refine hK.out _ _ (Or.inl rfl) (fun hHeld => ?_)
  clear hK K hHeld q0 q1 q2 q3 qf
  refine till_done (by kernel_rfl) ?_
  have HG := HM8.out
  unfold set4 at HG
  generalize (((w9.setCell ⟨g10, 0, none⟩ (.int .u64 (p0 : Nat))).setCell ⟨g10, 1, none⟩ (.int .u64 (p1 : Nat))).setCell ⟨g10, 2, none⟩ (.int .u64 (p2 : Nat))).setCell ⟨g10, 3, none⟩ (.int .u64 (p3 : Nat)) = W3 at HG ⊢
  have HM10 := Lib.hid HG
  obtain ⟨q0, q1, q2, q3, qf⟩ := HG.rowR
  clear HG HM8
  go_wp2_with fail
  refine (shr_calls p0 p1 p2 p3 S hp (by omega) (by omega) _).mono ?_
  rintro e wz ⟨s0, s1, s2, s3, rfl, hs, vs, hbl⟩
  rw [Int.toNat_natCast] at vs
  have HF : Hid (val4 s0 s1 s2 s3 = (val4 h0 h1 h2 h3 * 115792089237316195423570985008687907853269984665640564039457584007913129639936 + val4 l0 l1 l2 l3) % val4 m0 m1 m2 m3) := Lib.hid (by
    rw [vs, HeS.out]
    refine mod_fin (L := L) (r1 := val4 n0 n1 n2 n3) bL ?_ ?_
    · rw [Hvn.out, Hvz.out, Hvx.out, Hvy.out, Hevb.out, Hvr.out, HeS.out, join_sum bL (val4_lt hl)]
    · rw [Hvp.out, Hvu.out, Hevb.out, HeS.out])
  have M11 := HM10.out.on hbl
  obtain ⟨o0, o1, o2, o3, of⟩ := M11.rowO
  have HB := Lib.hid M11.below
  clear vs hbl M11 q0 q1 q2 q3 qf
  go_wp2_with fail
  refine bodyPost_ret (v := .tuple #[.agg #[.int .u64 s0, .int .u64 s1, .int .u64 s2, .int .u64 s3], .int .i64 0]) (by simp [results, Tryz.results229, go_sem, *]) rfl ?_
  exact ⟨s0, s1, s2, s3, 0, rfl, hs, ⟨HF.out, rfl⟩, below_set4 HB.out (by omega) _ _ _ _⟩

end Go.Proofs.YthlcjdcjnioeoaaGreat
namespace Go.Proofs.YthlcjdcjnioeoaaGreat
set_option linter.unusedVariables false
open Go.RowKit

/-- the number of n bytes from s on, the highest first -/
def hor (B : Nat → Nat) (s : Nat) : Nat → Nat
  | 0 => 0
  | n + 1 => hor B s n * 256 + B (s + n)
end Go.Proofs.YthlcjdcjnioeoaaGreat
namespace Go.Proofs.YthlcjdcjnioeoaaGreat
set_option linter.unusedVariables false
set_option linter.unusedSimpArgs false
open Go.RowKit

/-- a block of bytes -/
def RowB (w : World) (b n : Nat) (P : Nat → Nat) : Prop := ∀ k, k < n → w.cell? ⟨b, k, none⟩ = some (.int .u8 (P k : Nat)) ∧ w.frozen? ⟨b, k, none⟩ = false
theorem RowB.below {w w' : World} {b n : Nat} {P : Nat → Nat} (h : RowB w b n P) {B : Nat} (hb : Below B w w') (hB : b < B) : RowB w' b n P := fun k hk =>
  ⟨(hb.cell (p := ⟨b, k, none⟩) hB).trans (h k hk).1, (hb.frozen (p := ⟨b, k, none⟩) hB).trans (h k hk).2⟩
theorem RowB.set {w : World} {b n i v : Nat} {P : Nat → Nat} (h : RowB w b n P) (hi : i < n) : RowB (w.setCell ⟨b, i, none⟩ (.int .u8 (v : Nat))) b n (upd P i v) := by
  intro k hk
  refine ⟨?_, by rw [World.frozen?_setCell]; exact (h k hk).2⟩
  unfold upd
  by_cases e : k = i
  · subst e; rw [if_pos rfl]; exact World.cell?_setCell_same (h := (h k hk).1) ..
  · rw [if_neg e, World.cell?_setCell_other (h := fun he => e (by simpa using (congrArg Addr.off he).symm)) ..]; exact (h k hk).1
theorem RowB.other {w : World} {b n i : Nat} {P : Nat → Nat} (h : RowB w b n P) {c : Nat} (hc : c ≠ b) (x : Value) : RowB (w.setCell ⟨c, i, none⟩ x) b n P := by
  intro k hk
  exact ⟨by rw [World.cell?_setCell_other (h := fun he => hc (by simpa using congrArg Addr.block he)) ..]; exact (h k hk).1, by rw [World.frozen?_setCell]; exact (h k hk).2⟩
theorem RowB.drewN {w : World} {b n : Nat} {P : Nat → Nat} (h : RowB w b n P) (m : Nat) : RowB (w.drewN m) b n P := h
theorem RowB.ext {w : World} {b n : Nat} {P R : Nat → Nat} (h : RowB w b n P) (e : ∀ k, k < n → P k = R k) : RowB w b n R := fun k hk => ⟨by rw [← e k hk]; exact (h k hk).1, (h k hk).2⟩

end Go.Proofs.YthlcjdcjnioeoaaGreat
namespace Go.Proofs.YthlcjdcjnioeoaaGreat
set_option linter.unusedVariables false
set_option linter.unusedSimpArgs false
open Go.RowKit

set_option maxRecDepth 100000 in
set_option maxHeartbeats 2000000 in
theorem freduce_ok (f : Int) (F : FC) (hf : FieldIs f F) (g0 g1 g2 g3 l0 l1 l2 l3 : Nat) (hg : ok4 g0 g1 g2 g3) (hl : ok4 l0 l1 l2 l3) (w : World) :
    Calls Tryz.prog 209 #[.int .i64 f, .agg #[.int .u64 g0, .int .u64 g1, .int .u64 g2, .int .u64 g3], .agg #[.int .u64 l0, .int .u64 l1, .int .u64 l2, .int .u64 l3]] w (FeE 0 ((val4 g0 g1 g2 g3 * 115792089237316195423570985008687907853269984665640564039457584007913129639936 + val4 l0 l1 l2 l3) % F.M) w) := by
  go_enter Tryz.func209, Tryz.ntmps209
  go_wp2_with fail
  refine (cons_some f F hf _).mono ?_
  rintro e w1 ⟨rfl, hbl⟩
  have M1 := ((((Mem.nil w).new (w.heap.size) g0 g1 g2 g3 27 (by simp)).new (w.heap.size + 1) l0 l1 l2 l3 27 (by simp)).new (w.heap.size + 1 + 1) 0 0 0 0 24 (by simp)).on hbl
  clear hbl
  have z0 : w.heap.size < w1.heap.size := M1.lt (c0 := g0) (c1 := g1) (c2 := g2) (c3 := g3) (by simp)
  have z1 : w.heap.size + 1 < w1.heap.size := M1.lt (c0 := l0) (c1 := l1) (c2 := l2) (c3 := l3) (by simp)
  have z2 : w.heap.size + 1 + 1 < w1.heap.size := M1.lt (c0 := 0) (c1 := 0) (c2 := 0) (c3 := 0) (by simp)
  have HM := Lib.hid (M1.on ((Below.refl _ _).alloc (Nat.le_refl _) (.cells #[.int .u64 F.m0, .int .u64 F.m1, .int .u64 F.m2, .int .u64 F.m3, .int .u64 F.inv, .int .u64 F.s0, .int .u64 F.s1, .int .u64 F.s2, .int .u64 F.s3] 129)))
  have KK := Lib.hid (KIs.new w1 F 129)
  have kr := M1.row (b := w.heap.size) (c0 := g0) (c1 := g1) (c2 := g2) (c3 := g3) (by simp)
  have x0 := kr.c0; have x1 := kr.c1; have x2 := kr.c2; have x3 := kr.c3
  clear kr
  have xl := M1.lt (b := w.heap.size) (c0 := g0) (c1 := g1) (c2 := g2) (c3 := g3) (by simp)
  have kr := M1.row (b := w.heap.size + 1) (c0 := l0) (c1 := l1) (c2 := l2) (c3 := l3) (by simp)
  have u0 := kr.c0; have u1 := kr.c1; have u2 := kr.c2; have u3 := kr.c3
  clear kr
  have ul := M1.lt (b := w.heap.size + 1) (c0 := l0) (c1 := l1) (c2 := l2) (c3 := l3) (by simp)
  have k0 := KK.out.k0; have k1 := KK.out.k1; have k2 := KK.out.k2; have k3 := KK.out.k3
  go_wp2_with fail
  refine (mod_some g0 g1 g2 g3 l0 l1 l2 l3 F.m0 F.m1 F.m2 F.m3 hg hl hf.ok.okm hf.ok.pos _).mono ?_
  rintro e w2 ⟨s0, s1, s2, s3, er, rfl, hs, ⟨hv, rfl⟩, hbl⟩
  have HV := Lib.hid hv
  clear hv
  have HM' := Lib.hid (HM.out.on hbl)
  have KK' := Lib.hid (KK.out.same hbl)
  have zk := KK'.out.lt
  clear HM KK hbl M1
  have HM := HM'
  have KK := KK'
  clear HM' KK'
  clear zk k0 k1 k2 k3 x0 x1 x2 x3 xl u0 u1 u2 u3 ul
  have wz : w.heap.size + 1 + 1 < w2.heap.size := HM.out.lt (b := w.heap.size + 1 + 1) (c0 := 0) (c1 := 0) (c2 := 0) (c3 := 0) (by simp)
  have kr := HM.out.row (b := w.heap.size + 1 + 1) (c0 := 0) (c1 := 0) (c2 := 0) (c3 := 0) (by simp)
  have y0 := kr.c0; have y1 := kr.c1; have y2 := kr.c2; have y3 := kr.c3; have yf := kr.fr
  clear kr
  have yl := HM.out.lt (b := w.heap.size + 1 + 1) (c0 := 0) (c1 := 0) (c2 := 0) (c3 := 0) (by simp)
  go_wp2_with fail
  refine bodyPost_ret (v := .tuple #[.agg #[.int .u64 s0, .int .u64 s1, .int .u64 s2, .int .u64 s3], .int .i64 0]) (by simp [results, Tryz.results209, go_sem, *]) rfl ?_
  refine ⟨_, _, _, _, rfl, hs, HV.out, ?_⟩
  repeat (first | exact HM.out.1 | refine Below.alloc ?_ (by first | (simp; done) | (simp; omega)) _ | refine Below.setCell ?_ (by first | (simp; done) | (simp; omega)) _)
end Go.Proofs.YthlcjdcjnioeoaaGreat
namespace Go.Proofs.YthlcjdcjnioeoaaGreat
set_option linter.unusedVariables false
set_option linter.unusedSimpArgs false
open Go.RowKit

theorem fld1 : FieldIs 1 FP := Or.inl ⟨rfl, rfl⟩
/-- what a call answers that answers an element of Fp -/
def FwPost (x : Nat) (w : World) (e : Ending) (w' : World) : Prop := e = .returned (.agg #[.int .u64 (fw x 0 : Nat), .int .u64 (fw x 1 : Nat), .int .u64 (fw x 2 : Nat), .int .u64 (fw x 3 : Nat)]) ∧ Below w.heap.size w w'
theorem FwPost.of {x : Nat} {w : World} {e : Ending} {w' : World} (hx : x < FP.M) (h : FePost x w e w') : FwPost x w e w' := by
  obtain ⟨s0, s1, s2, s3, rfl, hs, hv, hb⟩ := h
  obtain ⟨rfl, rfl, rfl, rfl⟩ := fw_of hs (fp_lt hx) hv
  exact ⟨rfl, hb⟩
set_option maxRecDepth 100000 in
set_option maxHeartbeats 4000000 in
theorem tplus0_calls (a0 a1 a2 a3 b0 b1 b2 b3 : Nat) (ha : ok4 a0 a1 a2 a3) (hb : ok4 b0 b1 b2 b3) (la : val4 a0 a1 a2 a3 < FP.M) (lb : val4 b0 b1 b2 b3 < FP.M) (w : World) :
    Calls Tryz.prog 222 #[.agg #[.int .u64 a0, .int .u64 a1, .int .u64 a2, .int .u64 a3], .agg #[.int .u64 b0, .int .u64 b1, .int .u64 b2, .int .u64 b3]] w (FePost ((val4 a0 a1 a2 a3 + val4 b0 b1 b2 b3) % FP.M) w) := by
  go_enter Tryz.func222, Tryz.ntmps222
  go_wp2_with fail
  have HM := Lib.hid ((((Mem.nil w).new (w.heap.size) a0 a1 a2 a3 24 (by simp)).new (w.heap.size + 1) b0 b1 b2 b3 24 (by simp)).new (w.heap.size + 1 + 1) 0 0 0 0 24 (by simp))
  refine (fadd_ok 1 FP fld1 a0 a1 a2 a3 b0 b1 b2 b3 ha hb la lb _).mono ?_
  rintro e w1 ⟨s0, s1, s2, s3, rfl, hs, hv, hbl⟩
  have HV := Lib.hid hv
  have HM' := Lib.hid (HM.out.on hbl)
  clear hv hbl
  clear HM
  have HM := HM'
  clear HM'
  have kr := HM.out.row (b := w.heap.size + 1 + 1) (c0 := 0) (c1 := 0) (c2 := 0) (c3 := 0) (by simp)
  have y0 := kr.c0; have y1 := kr.c1; have y2 := kr.c2; have y3 := kr.c3; have yf := kr.fr
  clear kr
  have yl := HM.out.lt (b := w.heap.size + 1 + 1) (c0 := 0) (c1 := 0) (c2 := 0) (c3 := 0) (by simp)
  have HB1 := Lib.hid HM.out.1
  clear HM
  go_wp2_with fail
  refine bodyPost_ret (v := .agg #[.int .u64 s0, .int .u64 s1, .int .u64 s2, .int .u64 s3]) (by simp [results, Tryz.results222, go_sem, *]) rfl ?_
  refine ⟨_, _, _, _, rfl, hs, HV.out, ?_⟩
  have hbx := HB1.out
  have hsz := hbx.size
  repeat (first | exact hbx | refine Below.drew ?_ | refine Below.alloc ?_ (by first | exact hsz | (simp; done) | (simp; omega)) _ | refine Below.setCell ?_ (by first | (simp; done) | (simp; omega)) _)
theorem tplus_calls (x y : Nat) (hx : x < FP.M) (hy : y < FP.M) (w : World) : Calls Tryz.prog 222 #[.agg #[.int .u64 (fw x 0 : Nat), .int .u64 (fw x 1 : Nat), .int .u64 (fw x 2 : Nat), .int .u64 (fw x 3 : Nat)], .agg #[.int .u64 (fw y 0 : Nat), .int .u64 (fw y 1 : Nat), .int .u64 (fw y 2 : Nat), .int .u64 (fw y 3 : Nat)]] w (FwPost ((x + y) % FP.M) w) := by
  refine (tplus0_calls _ _ _ _ _ _ _ _ (fw_ok x) (fw_ok y) (by rw [fw_valp hx]; exact hx) (by rw [fw_valp hy]; exact hy) w).mono ?_
  rw [fw_valp hx, fw_valp hy]
  exact fun e w' h => FwPost.of (Nat.mod_lt _ fp_pos) h
set_option maxRecDepth 100000 in
set_option maxHeartbeats 4000000 in
theorem tminus0_calls (a0 a1 a2 a3 b0 b1 b2 b3 : Nat) (ha : ok4 a0 a1 a2 a3) (hb : ok4 b0 b1 b2 b3) (la : val4 a0 a1 a2 a3 < FP.M) (lb : val4 b0 b1 b2 b3 < FP.M) (w : World) :
    Calls Tryz.prog 223 #[.agg #[.int .u64 a0, .int .u64 a1, .int .u64 a2, .int .u64 a3], .agg #[.int .u64 b0, .int .u64 b1, .int .u64 b2, .int .u64 b3]] w (FePost ((val4 a0 a1 a2 a3 + FP.M - val4 b0 b1 b2 b3) % FP.M) w) := by
  go_enter Tryz.func223, Tryz.ntmps223
  go_wp2_with fail
  have HM := Lib.hid ((((Mem.nil w).new (w.heap.size) a0 a1 a2 a3 24 (by simp)).new (w.heap.size + 1) b0 b1 b2 b3 24 (by simp)).new (w.heap.size + 1 + 1) 0 0 0 0 24 (by simp))
  refine (fsub_ok 1 FP fld1 a0 a1 a2 a3 b0 b1 b2 b3 ha hb la lb _).mono ?_
  rintro e w1 ⟨s0, s1, s2, s3, rfl, hs, hv, hbl⟩
  have HV := Lib.hid hv
  have HM' := Lib.hid (HM.out.on hbl)
  clear hv hbl
  clear HM
  have HM := HM'
  clear HM'
  have kr := HM.out.row (b := w.heap.size + 1 + 1) (c0 := 0) (c1 := 0) (c2 := 0) (c3 := 0) (by simp)
  have y0 := kr.c0; have y1 := kr.c1; have y2 := kr.c2; have y3 := kr.c3; have yf := kr.fr
  clear kr
  have yl := HM.out.lt (b := w.heap.size + 1 + 1) (c0 := 0) (c1 := 0) (c2 := 0) (c3 := 0) (by simp)
  have HB1 := Lib.hid HM.out.1
  clear HM
  go_wp2_with fail
  refine bodyPost_ret (v := .agg #[.int .u64 s0, .int .u64 s1, .int .u64 s2, .int .u64 s3]) (by simp [results, Tryz.results223, go_sem, *]) rfl ?_
  refine ⟨_, _, _, _, rfl, hs, HV.out, ?_⟩
  have hbx := HB1.out
  have hsz := hbx.size
  repeat (first | exact hbx | refine Below.drew ?_ | refine Below.alloc ?_ (by first | exact hsz | (simp; done) | (simp; omega)) _ | refine Below.setCell ?_ (by first | (simp; done) | (simp; omega)) _)
theorem tminus_calls (x y : Nat) (hx : x < FP.M) (hy : y < FP.M) (w : World) : Calls Tryz.prog 223 #[.agg #[.int .u64 (fw x 0 : Nat), .int .u64 (fw x 1 : Nat), .int .u64 (fw x 2 : Nat), .int .u64 (fw x 3 : Nat)], .agg #[.int .u64 (fw y 0 : Nat), .int .u64 (fw y 1 : Nat), .int .u64 (fw y 2 : Nat), .int .u64 (fw y 3 : Nat)]] w (FwPost ((x + FP.M - y) % FP.M) w) := by
  refine (tminus0_calls _ _ _ _ _ _ _ _ (fw_ok x) (fw_ok y) (by rw [fw_valp hx]; exact hx) (by rw [fw_valp hy]; exact hy) w).mono ?_
  rw [fw_valp hx, fw_valp hy]
  exact fun e w' h => FwPost.of (Nat.mod_lt _ fp_pos) h
set_option maxRecDepth 100000 in
set_option maxHeartbeats 4000000 in
theorem ttimes0_calls (a0 a1 a2 a3 b0 b1 b2 b3 : Nat) (ha : ok4 a0 a1 a2 a3) (hb : ok4 b0 b1 b2 b3) (la : val4 a0 a1 a2 a3 < FP.M) (lb : val4 b0 b1 b2 b3 < FP.M) (w : World) :
    Calls Tryz.prog 221 #[.agg #[.int .u64 a0, .int .u64 a1, .int .u64 a2, .int .u64 a3], .agg #[.int .u64 b0, .int .u64 b1, .int .u64 b2, .int .u64 b3]] w (FePost (val4 a0 a1 a2 a3 * val4 b0 b1 b2 b3 % FP.M) w) := by
  go_enter Tryz.func221, Tryz.ntmps221
  go_wp2_with fail
  have HM := Lib.hid ((((Mem.nil w).new (w.heap.size) a0 a1 a2 a3 24 (by simp)).new (w.heap.size + 1) b0 b1 b2 b3 24 (by simp)).new (w.heap.size + 1 + 1) 0 0 0 0 24 (by simp))
  refine (fmul_ok 1 FP fld1 a0 a1 a2 a3 b0 b1 b2 b3 ha hb la lb _).mono ?_
  rintro e w1 ⟨s0, s1, s2, s3, rfl, hs, hv, hbl⟩
  have HV := Lib.hid hv
  have HM' := Lib.hid (HM.out.on hbl)
  clear hv hbl
  clear HM
  have HM := HM'
  clear HM'
  have kr := HM.out.row (b := w.heap.size + 1 + 1) (c0 := 0) (c1 := 0) (c2 := 0) (c3 := 0) (by simp)
  have y0 := kr.c0; have y1 := kr.c1; have y2 := kr.c2; have y3 := kr.c3; have yf := kr.fr
  clear kr
  have yl := HM.out.lt (b := w.heap.size + 1 + 1) (c0 := 0) (c1 := 0) (c2 := 0) (c3 := 0) (by simp)
  have HB1 := Lib.hid HM.out.1
  clear HM
  go_wp2_with fail
  refine bodyPost_ret (v := .agg #[.int .u64 s0, .int .u64 s1, .int .u64 s2, .int .u64 s3]) (by simp [results, Tryz.results221, go_sem, *]) rfl ?_
  refine ⟨_, _, _, _, rfl, hs, HV.out, ?_⟩
  have hbx := HB1.out
  have hsz := hbx.size
  repeat (first | exact hbx | refine Below.drew ?_ | refine Below.alloc ?_ (by first | exact hsz | (simp; done) | (simp; omega)) _ | refine Below.setCell ?_ (by first | (simp; done) | (simp; omega)) _)
theorem ttimes_calls (x y : Nat) (hx : x < FP.M) (hy : y < FP.M) (w : World) : Calls Tryz.prog 221 #[.agg #[.int .u64 (fw x 0 : Nat), .int .u64 (fw x 1 : Nat), .int .u64 (fw x 2 : Nat), .int .u64 (fw x 3 : Nat)], .agg #[.int .u64 (fw y 0 : Nat), .int .u64 (fw y 1 : Nat), .int .u64 (fw y 2 : Nat), .int .u64 (fw y 3 : Nat)]] w (FwPost (x * y % FP.M) w) := by
  refine (ttimes0_calls _ _ _ _ _ _ _ _ (fw_ok x) (fw_ok y) (by rw [fw_valp hx]; exact hx) (by rw [fw_valp hy]; exact hy) w).mono ?_
  rw [fw_valp hx, fw_valp hy]
  exact fun e w' h => FwPost.of (Nat.mod_lt _ fp_pos) h
set_option maxRecDepth 100000 in
set_option maxHeartbeats 4000000 in
theorem tneg0_calls (a0 a1 a2 a3 : Nat) (ha : ok4 a0 a1 a2 a3) (la : val4 a0 a1 a2 a3 < FP.M) (w : World) :
    Calls Tryz.prog 168 #[.agg #[.int .u64 a0, .int .u64 a1, .int .u64 a2, .int .u64 a3]] w (FePost ((0 + FP.M - val4 a0 a1 a2 a3) % FP.M) w) := by
  go_enter Tryz.func168, Tryz.ntmps168
  go_wp2_with fail
  have HM := Lib.hid (((Mem.nil w).new (w.heap.size) a0 a1 a2 a3 24 (by simp)).new (w.heap.size + 1) 0 0 0 0 24 (by simp))
  refine (fneg_ok 1 FP fld1 a0 a1 a2 a3 ha la _).mono ?_
  rintro e w1 ⟨s0, s1, s2, s3, rfl, hs, hv, hbl⟩
  have HV := Lib.hid hv
  have HM' := Lib.hid (HM.out.on hbl)
  clear hv hbl
  clear HM
  have HM := HM'
  clear HM'
  have kr := HM.out.row (b := w.heap.size + 1) (c0 := 0) (c1 := 0) (c2 := 0) (c3 := 0) (by simp)
  have y0 := kr.c0; have y1 := kr.c1; have y2 := kr.c2; have y3 := kr.c3; have yf := kr.fr
  clear kr
  have yl := HM.out.lt (b := w.heap.size + 1) (c0 := 0) (c1 := 0) (c2 := 0) (c3 := 0) (by simp)
  have kr := HM.out.row (b := w.heap.size) (c0 := a0) (c1 := a1) (c2 := a2) (c3 := a3) (by simp)
  have x0 := kr.c0; have x1 := kr.c1; have x2 := kr.c2; have x3 := kr.c3; have xf := kr.fr
  clear kr
  have xl := HM.out.lt (b := w.heap.size) (c0 := a0) (c1 := a1) (c2 := a2) (c3 := a3) (by simp)
  go_wp2_with fail
  refine bodyPost_ret (v := .agg #[.int .u64 s0, .int .u64 s1, .int .u64 s2, .int .u64 s3]) (by simp [results, Tryz.results168, go_sem, *]) rfl ?_
  refine ⟨_, _, _, _, rfl, hs, HV.out, ?_⟩
  exact below_set4 (below_set4 HM.out.1 (Nat.le_refl _) _ _ _ _) (by omega) _ _ _ _
theorem tneg_calls (x : Nat) (hx : x < FP.M) (w : World) : Calls Tryz.prog 168 #[.agg #[.int .u64 (fw x 0 : Nat), .int .u64 (fw x 1 : Nat), .int .u64 (fw x 2 : Nat), .int .u64 (fw x 3 : Nat)]] w (FwPost ((0 + FP.M - x) % FP.M) w) := by
  refine (tneg0_calls _ _ _ _ (fw_ok x) (by rw [fw_valp hx]; exact hx) w).mono ?_
  rw [fw_valp hx]
  exact fun e w' h => FwPost.of (Nat.mod_lt _ fp_pos) h
set_option maxRecDepth 100000 in
set_option maxHeartbeats 4000000 in
theorem trest0_calls (a0 a1 a2 a3 : Nat) (ha : ok4 a0 a1 a2 a3) (w : World) :
    Calls Tryz.prog 166 #[.agg #[.int .u64 a0, .int .u64 a1, .int .u64 a2, .int .u64 a3]] w (FePost (val4 a0 a1 a2 a3 % FP.M) w) := by
  go_enter Tryz.func166, Tryz.ntmps166
  go_wp2_with fail
  have HM := Lib.hid (((Mem.nil w).new (w.heap.size) a0 a1 a2 a3 24 (by simp)).new (w.heap.size + 1) 0 0 0 0 24 (by simp))
  by_cases la : val4 a0 a1 a2 a3 < FP.M
  · refine (fcheck_ok 1 FP fld1 a0 a1 a2 a3 ha la _).mono ?_
    rintro e w1 ⟨rfl, hbl⟩
    have HL := Lib.hid la
    have HM' := Lib.hid (HM.out.on hbl)
    clear hbl la
    clear HM
    have HM := HM'
    clear HM'
    have kr := HM.out.row (b := w.heap.size + 1) (c0 := 0) (c1 := 0) (c2 := 0) (c3 := 0) (by simp)
    have y0 := kr.c0; have y1 := kr.c1; have y2 := kr.c2; have y3 := kr.c3; have yf := kr.fr
    clear kr
    have yl := HM.out.lt (b := w.heap.size + 1) (c0 := 0) (c1 := 0) (c2 := 0) (c3 := 0) (by simp)
    have kr := HM.out.row (b := w.heap.size) (c0 := a0) (c1 := a1) (c2 := a2) (c3 := a3) (by simp)
    have x0 := kr.c0; have x1 := kr.c1; have x2 := kr.c2; have x3 := kr.c3
    clear kr
    have xl := HM.out.lt (b := w.heap.size) (c0 := a0) (c1 := a1) (c2 := a2) (c3 := a3) (by simp)
    go_wp2_with fail
    refine bodyPost_ret (v := .agg #[.int .u64 a0, .int .u64 a1, .int .u64 a2, .int .u64 a3]) (by simp [results, Tryz.results166, go_sem, *]) rfl ?_
    refine ⟨_, _, _, _, rfl, ha, by rw [Nat.mod_eq_of_lt HL.out], ?_⟩
    exact below_set4 HM.out.1 (by omega) _ _ _ _
  · refine (fcheck_err 1 21 a0 a1 a2 a3 ha (Or.inr ⟨FP, fld1, la, rfl⟩) _).mono ?_
    rintro e w1 ⟨rfl, hbl⟩
    have HM' := Lib.hid (HM.out.on hbl)
    clear hbl la
    clear HM
    have HM := HM'
    clear HM'
    have kr := HM.out.row (b := w.heap.size) (c0 := a0) (c1 := a1) (c2 := a2) (c3 := a3) (by simp)
    have x0 := kr.c0; have x1 := kr.c1; have x2 := kr.c2; have x3 := kr.c3
    clear kr
    have xl := HM.out.lt (b := w.heap.size) (c0 := a0) (c1 := a1) (c2 := a2) (c3 := a3) (by simp)
    go_wp2_with fail
    refine (freduce_ok 1 FP fld1 0 0 0 0 a0 a1 a2 a3 zok ha _).mono ?_
    rintro e w2 ⟨s0, s1, s2, s3, rfl, hs, hv, hbl⟩
    have HV := Lib.hid (show val4 s0 s1 s2 s3 = val4 a0 a1 a2 a3 % FP.M by rw [hv, show val4 0 0 0 0 = 0 from rfl, Nat.zero_mul, Nat.zero_add])
    have HM' := Lib.hid (HM.out.on hbl)
    clear hv hbl x0 x1 x2 x3 xl
    clear HM
    have HM := HM'
    clear HM'
    have kr := HM.out.row (b := w.heap.size + 1) (c0 := 0) (c1 := 0) (c2 := 0) (c3 := 0) (by simp)
    have y0 := kr.c0; have y1 := kr.c1; have y2 := kr.c2; have y3 := kr.c3; have yf := kr.fr
    clear kr
    have yl := HM.out.lt (b := w.heap.size + 1) (c0 := 0) (c1 := 0) (c2 := 0) (c3 := 0) (by simp)
    have kr := HM.out.row (b := w.heap.size) (c0 := a0) (c1 := a1) (c2 := a2) (c3 := a3) (by simp)
    have x0 := kr.c0; have x1 := kr.c1; have x2 := kr.c2; have x3 := kr.c3; have xf := kr.fr
    clear kr
    have xl := HM.out.lt (b := w.heap.size) (c0 := a0) (c1 := a1) (c2 := a2) (c3 := a3) (by simp)
    go_wp2_with fail
    refine bodyPost_ret (v := .agg #[.int .u64 s0, .int .u64 s1, .int .u64 s2, .int .u64 s3]) (by simp [results, Tryz.results166, go_sem, *]) rfl ?_
    refine ⟨_, _, _, _, rfl, hs, HV.out, ?_⟩
    exact below_set4 (below_set4 HM.out.1 (Nat.le_refl _) _ _ _ _) (by omega) _ _ _ _
theorem trest_calls (a0 a1 a2 a3 : Nat) (ha : ok4 a0 a1 a2 a3) (w : World) : Calls Tryz.prog 166 #[.agg #[.int .u64 a0, .int .u64 a1, .int .u64 a2, .int .u64 a3]] w (FwPost (val4 a0 a1 a2 a3 % FP.M) w) :=
  (trest0_calls a0 a1 a2 a3 ha w).mono fun e w' h => FwPost.of (Nat.mod_lt _ fp_pos) h
set_option maxRecDepth 100000 in
set_option maxHeartbeats 4000000 in
theorem tproducts_calls (A B : Nat → Nat → Nat) (p q : Option Addr) (la ca cb : Nat) (h2 : la ≤ 65536) (ia : allIn FP.M la A) (ib : allIn FP.M la B) (w : World) (hA : FIs w p la A) (hB : FIs w q la B) :
    Calls Tryz.prog 210 #[.slice p la ca, .slice q la cb] w (FwPost (dotN FP.M (elA A) (elA B) la) w) := by
  have HA := Lib.hid hA
  have HB := Lib.hid hB
  have IA := Lib.hid ia
  have IB := Lib.hid ib
  clear hA hB ia ib
  suffices h : Calls Tryz.prog 210 #[.slice p la ca, .slice q la cb] w (FePost (dotN FP.M (elA A) (elA B) la) w) from h.mono fun e w' h => FwPost.of (dotN_lt fp_pos _ _ _) h
  go_enter Tryz.func210, Tryz.ntmps210
  go_wp2_with fail
  have HM := Lib.hid ((Mem.nil w).new (w.heap.size) 0 0 0 0 24 (by simp))
  refine (fdot_ok 1 FP fld1 p q la ca la cb A B rfl h2 IA.out IB.out _ (HA.out.on HM.out.1) (HB.out.on HM.out.1)).mono ?_
  rintro e w1 ⟨s0, s1, s2, s3, rfl, hs, hv, hbl⟩
  have HV := Lib.hid hv
  have HM' := Lib.hid (HM.out.on hbl)
  clear hv hbl
  clear HM
  have HM := HM'
  clear HM'
  have kr := HM.out.row (b := w.heap.size) (c0 := 0) (c1 := 0) (c2 := 0) (c3 := 0) (by simp)
  have y0 := kr.c0; have y1 := kr.c1; have y2 := kr.c2; have y3 := kr.c3; have yf := kr.fr
  clear kr
  have yl := HM.out.lt (b := w.heap.size) (c0 := 0) (c1 := 0) (c2 := 0) (c3 := 0) (by simp)
  have HB1 := Lib.hid HM.out.1
  clear HM
  go_wp2_with fail
  refine bodyPost_ret (v := .agg #[.int .u64 s0, .int .u64 s1, .int .u64 s2, .int .u64 s3]) (by simp [results, Tryz.results210, go_sem, *]) rfl ?_
  refine ⟨_, _, _, _, rfl, hs, HV.out, ?_⟩
  have hbx := HB1.out
  have hsz := hbx.size
  repeat (first | exact hbx | refine Below.drew ?_ | refine Below.alloc ?_ (by first | exact hsz | (simp; done) | (simp; omega)) _ | refine Below.setCell ?_ (by first | (simp; done) | (simp; omega)) _)
end Go.Proofs.YthlcjdcjnioeoaaGreat
namespace Go.Proofs.YthlcjdcjnioeoaaGreat.Ex
set_option linter.unusedVariables false
set_option linter.unusedSimpArgs false
open Go.RowKit

theorem of_fw {x : Nat} {f : FuncId} {args : List Value} {w : World} {y : Fq} (h : Calls Tryz.prog f args.toArray w (FwPost x w)) (e : x = y.1) : Good Tryz.prog f (.one (.fl (e1 y))) args w := by
  subst e
  exact h.mono fun e w' h => h
theorem args1 {l : List At} {args : List Value} {w : World} (h : CAs w [.v (.fl l)] args) : args = [.agg (flat l).toArray] := by
  match args, h with
  | [v], h => rw [show v = _ from h.1]; rfl
  | [], h => exact h.elim
  | _ :: _ :: _, h => exact h.2.elim
theorem args2 {l m : List At} {args : List Value} {w : World} (h : CAs w [.v (.fl l), .v (.fl m)] args) : args = [.agg (flat l).toArray, .agg (flat m).toArray] := by
  match args, h with
  | [v, u], h => rw [show v = _ from h.1, show u = _ from h.2.1]; rfl
  | [], h => exact h.elim
  | [_], h => exact h.2.elim
  | _ :: _ :: _ :: _, h => exact h.2.2.elim
theorem b_plus (x y : Fq) (args : List Value) (w : World) (ha : CAs w [.v (.fl (e1 x)), .v (.fl (e1 y))] args) : Good Tryz.prog 222 (.one (.fl (e1 (F1.add x y)))) args w := by
  rw [args2 ha]
  exact of_fw (tplus_calls x.1 y.1 x.2 y.2 w) rfl
theorem sub_val (x y : Fq) : (x.1 + FP.M - y.1) % FP.M = (F1.sub x y).1 := by
  show _ = (x.1 + (0 + FP.M - y.1) % FP.M) % FP.M
  have := y.2
  rw [Nat.add_mod_mod]
  congr 1
  omega
theorem b_minus (x y : Fq) (args : List Value) (w : World) (ha : CAs w [.v (.fl (e1 x)), .v (.fl (e1 y))] args) : Good Tryz.prog 223 (.one (.fl (e1 (F1.sub x y)))) args w := by
  rw [args2 ha]
  exact of_fw (tminus_calls x.1 y.1 x.2 y.2 w) (sub_val x y)
theorem b_times (x y : Fq) (args : List Value) (w : World) (ha : CAs w [.v (.fl (e1 x)), .v (.fl (e1 y))] args) : Good Tryz.prog 221 (.one (.fl (e1 (F1.mul x y)))) args w := by
  rw [args2 ha]
  exact of_fw (ttimes_calls x.1 y.1 x.2 y.2 w) rfl
theorem b_neg (x : Fq) (args : List Value) (w : World) (ha : CAs w [.v (.fl (e1 x))] args) : Good Tryz.prog 168 (.one (.fl (e1 (F1.neg x)))) args w := by
  rw [args1 ha]
  exact of_fw (tneg_calls x.1 x.2 w) rfl
theorem b_rest (x : Nat) (args : List Value) (w : World) (ha : CAs w [.v (.fl (q1 x))] args) : Good Tryz.prog 166 (.one (.fl (e1 (m1 x)))) args w := by
  rw [args1 ha]
  exact of_fw (trest_calls _ _ _ _ (fw_ok x) w) rfl
theorem ones_ok : ∀ {n : Nat} {l : List At} {x : List Fq}, ones n l = some x → x.length = n ∧ ∃ r, l = x.map .f ++ r
  | 0, l, x, h => by cases h; exact ⟨rfl, l, rfl⟩
  | n + 1, .f a :: r, x, h => by
    unfold ones at h
    split at h
    · rename_i l hl
      cases h
      obtain ⟨h1, s, h2⟩ := ones_ok hl
      exact ⟨by rw [List.length_cons, h1], s, by rw [h2]; rfl⟩
    · cases h
  | n + 1, [], x, h => by cases h
  | n + 1, .q _ :: _, x, h => by cases h
  | n + 1, .c _ :: _, x, h => by cases h
def lw (x : List Fq) (k i : Nat) : Nat := fw ((x[k]?).getD F1.zero).1 i
theorem flat_f : ∀ (x : List Fq) (k : Nat), k < x.length → ∀ i, i < 4 → (flat (x.map .f))[k * 4 + i]? = some (.int .u64 (lw x k i : Nat))
  | a :: r, 0, _, i, hi => by
    show (w4 a.1 ++ flat (r.map .f))[0 * 4 + i]? = _
    rw [List.getElem?_append_left (by show _ < 4; omega)]
    match i, hi with
    | 0, _ => rfl
    | 1, _ => rfl
    | 2, _ => rfl
    | 3, _ => rfl
  | a :: r, k + 1, h, i, hi => by
    show (w4 a.1 ++ flat (r.map .f))[(k + 1) * 4 + i]? = _
    rw [List.getElem?_append_right (by show 4 ≤ _; omega), show (k + 1) * 4 + i - (w4 a.1).length = k * 4 + i by show _ - 4 = _; omega, flat_f r k (by simpa using h) i hi]
    simp [lw]
theorem lw_fis {n : Nat} {l : List At} {x : List Fq} (h : ones n l = some x) (h6 : n ≤ 6) {b o : Nat} {w : World} (hb : b < w.heap.size) (hr : w.rangeAt b o (flat l)) : FIs w (some ⟨b, o, none⟩) n (lw x) := by
  obtain ⟨h1, r, h2⟩ := ones_ok h
  refine ⟨by omega, fun k hk => fw_ok _, fun _ => ⟨b, o, rfl, hb, fun k hk => ?_⟩⟩
  have hc : ∀ i, i < 4 → w.cell? ⟨b, o + k * 4 + i, none⟩ = some (.int .u64 (lw x k i : Nat)) := fun i hi => by
    rw [Nat.add_assoc]
    refine hr (k * 4 + i) _ ?_
    rw [h2, flat_append, List.getElem?_append_left (by
      rw [flat_len]
      have : ∀ x : List Fq, fsz (x.map .f) = 4 * x.length := fun x => by
        induction x with
        | nil => rfl
        | cons a r ih => show 4 + fsz (r.map .f) = 4 * (r.length + 1); omega
      rw [this, h1]; omega)]
    exact flat_f x k (by omega) i hi
  exact ⟨hc 0 (by omega), hc 1 (by omega), hc 2 (by omega), hc 3 (by omega)⟩
theorem lw_el (x : List Fq) (k : Nat) : elA (lw x) k = ((x[k]?).getD F1.zero).1 := fw_valp (Fin.isLt _)
theorem dotG_val : ∀ (x y : List Fq) (a : Fq) (X Y : Nat → Nat) (k : Nat), x.length = y.length → (∀ j, j < x.length → X (k + j) = ((x[j]?).getD F1.zero).1) → (∀ j, j < y.length → Y (k + j) = ((y[j]?).getD F1.zero).1) → a.1 = dotN FP.M X Y k → (dotG a x y).1 = dotN FP.M X Y (k + x.length)
  | [], [], a, X, Y, k, _, _, _, h => h
  | p :: x, q :: y, a, X, Y, k, hl, hX, hY, h => by
    have e : (F1.add a (F1.mul p q)).1 = dotN FP.M X Y (k + 1) := by
      show (a.1 + p.1 * q.1 % FP.M) % FP.M = (dotN FP.M X Y k + X k * Y k) % FP.M
      rw [Nat.add_mod_mod, h]
      have h1 := hX 0 (by simp)
      have h2 := hY 0 (by simp)
      rw [Nat.add_zero] at h1 h2
      rw [h1, h2]
      rfl
    have := dotG_val x y (F1.add a (F1.mul p q)) X Y (k + 1) (by simpa using hl) (fun j hj => by have := hX (j + 1) (by simpa using hj); rw [show k + 1 + j = k + (j + 1) by omega, this]; simp)
      (fun j hj => by have := hY (j + 1) (by simpa using hj); rw [show k + 1 + j = k + (j + 1) by omega, this]; simp) e
    rw [show k + (p :: x).length = k + 1 + x.length by simp; omega]
    exact this
  | [], _ :: _, _, _, _, _, h, _, _, _ => by cases h
  | _ :: _, [], _, _, _, _, h, _, _, _ => by cases h
theorem dotF_val (x y : List Fq) (hl : x.length = y.length) : (dotF x y).1 = dotN FP.M (elA (lw x)) (elA (lw y)) x.length := by
  have h0 : (dotG F1.zero x y).1 = dotN FP.M (elA (lw x)) (elA (lw y)) (0 + x.length) := dotG_val x y F1.zero _ _ 0 hl (fun j _ => by rw [Nat.zero_add]; exact lw_el x j) (fun j _ => by rw [Nat.zero_add]; exact lw_el y j) rfl
  rw [Nat.zero_add] at h0
  rw [← h0]
  cases x with
  | nil => cases y <;> rfl
  | cons a r =>
    cases y with
    | nil => cases hl
    | cons b s =>
      show (dotG (F1.mul a b) r s).1 = (dotG (F1.add F1.zero (F1.mul a b)) r s).1
      rw [F1.zero_add]
theorem b_prod : ∀ cs pre r, gProd cs = some (pre, r) → allP pre → ∀ (args : List Value) (w : World), CAs w cs args → Good Tryz.prog 210 r args w := by
  intro cs pre r hg hp args w ha
  unfold gProd at hg
  split at hg
  · rename_i l n m l' n' m'
    cases hb : (Nat.beq n n' && Nat.ble n 6) <;> rw [hb] at hg
    · cases hg
    · simp only [cond_true] at hg
      split at hg
      · rename_i x y hx hy
        cases hg
        rw [Bool.and_eq_true] at hb
        cases Nat.eq_of_beq_eq_true hb.1
        have h6 := Nat.le_of_ble_eq_true hb.2
        match args, ha with
        | [v, u], ha =>
          obtain ⟨⟨b, o, rfl, h1, h2⟩, ⟨b', o', rfl, h3, h4⟩, _⟩ := ha
          have l1 := (ones_ok hx).1
          have l2 := (ones_ok hy).1
          refine of_fw (tproducts_calls (lw x) (lw y) _ _ n m m' (by omega) (fun k hk => by rw [lw_el]; exact Fin.isLt _) (fun k hk => by rw [lw_el]; exact Fin.isLt _) w (lw_fis hx h6 h1 h2) (lw_fis hy h6 h3 h4)) ?_
          rw [dotF_val x y (by omega), l1]
        | [], ha => exact ha.elim
        | [_], ha => exact ha.2.elim
        | _ :: _ :: _ :: _, ha => exact ha.2.2.elim
      · cases hg
  · cases hg
theorem b_of : ∀ cs pre r, gOf cs = some (pre, r) → allP pre → ∀ (args : List Value) (w : World), CAs w cs args → Good Tryz.prog 87 r args w := by
  intro cs pre r hg hp args w ha
  unfold gOf at hg
  split at hg
  · rename_i n
    cases hb : Nat.blt n 18446744073709551616 <;> rw [hb] at hg
    · cases hg
    · cases hg
      have hn : n < 18446744073709551616 := by simpa using hb
      match args, ha with
      | [v], ha =>
        rw [show v = _ from ha.1]
        refine (of_calls n hn w).mono ?_
        rintro e w' ⟨rfl, hbl⟩
        refine ⟨?_, hbl⟩
        have hM : n < FP.M := Nat.lt_trans hn (by decide)
        obtain ⟨e0, e1', e2', e3'⟩ := fw_of (s0 := n) (s1 := 0) (s2 := 0) (s3 := 0) ⟨hn, by omega, by omega, by omega⟩ (fp_lt hM) (show val4 n 0 0 0 = n by unfold val4; omega)
        show _ = Ending.returned (.agg (w4 (n % FP.M)).toArray)
        rw [Nat.mod_eq_of_lt hM]
        unfold w4
        rw [← e0, ← e1', ← e2', ← e3']
        rfl
      | [], ha => exact ha.elim
      | _ :: _ :: _, ha => exact ha.2.elim
  · cases hg
theorem b_inv1 (x : Fq) (h : x ≠ F1.zero) (w : World) : Calls Tryz.prog 220 #[.int .i64 1, .agg (flat (e1 x)).toArray] w (fun e w' => e = .returned (RV.many [.fl (e1 (finv x)), .im (.int .i64 0)]).den ∧ Below w.heap.size w w') := by
  have hz : x.1 ≠ 0 := fun e => h (Fin.ext e)
  refine (finv_of 1 0 _ _ _ _ _ (fun W => fdiv_ok 1 FP fld1 1 0 0 0 _ _ _ _ (by unfold ok4; decide) (fw_ok x.1) (by decide) (by rw [fw_valp x.2]; exact x.2) (by rw [fw_valp x.2]; exact hz) W) w).mono ?_
  rintro e w' ⟨s0, s1, s2, s3, rfl, hs, hv, hb⟩
  have hf := finv_val x
  rw [Nat.one_mul] at hf
  rw [fw_valp x.2, show val4 1 0 0 0 = 1 from rfl, Nat.one_mul, ← hf] at hv
  obtain ⟨rfl, rfl, rfl, rfl⟩ := fw_of hs (fp_lt (finv x).2) hv
  exact ⟨rfl, hb⟩
theorem b_inv0 (w : World) : Calls Tryz.prog 220 #[.int .i64 1, .agg (flat (e1 F1.zero)).toArray] w (fun e w' => e = .returned (RV.many [.fl (e1 F1.zero), .im (.int .i64 22)]).den ∧ Below w.heap.size w w') := by
  refine (finv_of 1 22 0 _ _ _ _ (fun W => fdiv0_ok 1 FP fld1 1 0 0 0 _ _ _ _ (by unfold ok4; decide) (fw_ok 0) (by decide) (by rw [fw_valp fp_pos]; exact fp_pos) (by rw [fw_valp fp_pos]) W) w).mono ?_
  rintro e w' ⟨s0, s1, s2, s3, rfl, hs, hv, hb⟩
  obtain ⟨rfl, rfl, rfl, rfl⟩ := fw_of hs (fp_lt fp_pos) hv
  exact ⟨rfl, hb⟩
theorem b_inv (c : Bool) : ∀ cs pre r, gInv c cs = some (pre, r) → allP pre → ∀ (args : List Value) (w : World), CAs w cs args → Good Tryz.prog 220 r args w := by
  intro cs pre r hg hp args w ha
  unfold gInv at hg
  split at hg
  · rename_i l
    split at hg
    · rename_i x hx
      match args, ha with
      | [v, u], ha =>
        have h1 : v = .int .i64 1 := ha.1
        have h2 : u = .agg (flat l).toArray := ha.2.1
        rw [rd1_ok l x hx] at h2
        subst h1; subst h2
        cases c
        · cases hg
          have hz : x = F1.zero := hp.1
          subst hz
          exact b_inv0 w
        · cases hg
          exact b_inv1 x hp.1 w
      | [], ha => exact ha.elim
      | [_], ha => exact ha.2.elim
      | _ :: _ :: _ :: _, ha => exact ha.2.2.elim
    · cases hg
  · cases hg
theorem ok_base (c : Bool) : TabOk Tryz.prog (T_B c) :=
  ((((((((T0_ok Tryz.prog).add Tryz.func222 (by kernel_rfl) (by kernel_rfl) (g2_ok rd1_ok rd1_ok fun x y _ args w ha => b_plus x y args w ha)).add Tryz.func223 (by kernel_rfl) (by kernel_rfl) (g2_ok rd1_ok rd1_ok fun x y _ args w ha => b_minus x y args w ha)).add
    Tryz.func221 (by kernel_rfl) (by kernel_rfl) (g2_ok rd1_ok rd1_ok fun x y _ args w ha => b_times x y args w ha)).add Tryz.func168 (by kernel_rfl) (by kernel_rfl) (g1_ok rd1_ok fun x _ args w ha => b_neg x args w ha)).add
    Tryz.func166 (by kernel_rfl) (by kernel_rfl) (g1_ok rq1_ok fun x _ args w ha => b_rest x args w ha)).add Tryz.func210 (by kernel_rfl) (by kernel_rfl) b_prod).add Tryz.func87 (by kernel_rfl) (by kernel_rfl) b_of).add Tryz.func220 (by kernel_rfl) (by kernel_rfl) (b_inv c)
end Go.Proofs.YthlcjdcjnioeoaaGreat.Ex
namespace Go.Proofs.YthlcjdcjnioeoaaGreat
theorem fpRoot : Root FP.M 3 := by
  rw [show FP.M = 21888242871839275222246405745257275088696311157297823662689037894645226208583 from by decide]
  exact root_P
end Go.Proofs.YthlcjdcjnioeoaaGreat
namespace Go.Proofs.YthlcjdcjnioeoaaGreat.Ex
set_option linter.unusedVariables false
set_option linter.unusedSimpArgs false

/-- what is not 0 has an inverse -/
def Fld {R : Type} (K : CR R) : Prop := K.one ≠ K.zero ∧ ∀ x, x ≠ K.zero → ∃ y, K.mul x y = K.one
theorem Fld.zd {R : Type} {K : CR R} (h : Fld K) {a b : R} (e : K.mul a b = K.zero) (ha : a ≠ K.zero) : b = K.zero := by
  obtain ⟨y, hy⟩ := h.2 a ha
  have := congrArg (K.mul y) e
  rwa [← K.mul_assoc, K.mul_comm y, hy, K.one_mul, K.mul_zero] at this
theorem sq_zero {R : Type} {K : CR R} (h : Fld K) {a : R} (e : K.mul a a = K.zero) : a = K.zero := by
  by_cases ha : a = K.zero
  · exact ha
  · exact h.zd e ha
theorem F1_ne : F1.one ≠ F1.zero := fun h => by have := congrArg Fin.val h; exact absurd this (by decide)
theorem fq_ne {x : Fq} (h : x ≠ F1.zero) : 0 < x.1 := by
  rcases Nat.eq_zero_or_pos x.1 with h0 | h0
  · exact absurd (Fin.ext h0 : x = F1.zero) h
  · exact h0
theorem finv_mul {x : Fq} (h : x ≠ F1.zero) : F1.mul x (finv x) = F1.one := by
  apply Fin.ext
  show x.1 * (finv x).1 % FP.M = 1
  rw [finv_val, Nat.one_mul]
  exact inv_mul fpRoot (by decide) (fq_ne h) x.2
theorem fld1' : Fld F1 := ⟨F1_ne, fun x h => ⟨_, finv_mul h⟩⟩
theorem ferm {n : Nat} (h0 : 0 < n) (h : n < FP.M) : n ^ (FP.M - 1) % FP.M = 1 := fermat fpRoot h0 h
def pThird : Nat := (FP.M - 1) / 3
def pHalf : Nat := (FP.M - 1) / 2
theorem third_eq : 3 * pThird = FP.M - 1 := by decide
theorem half_eq : 2 * pHalf = FP.M - 1 := by decide
theorem neg_val : (FP.M - 1) ^ pHalf % FP.M ≠ 1 := by
  rw [← pm_eq FP.M 256 (FP.M - 1) pHalf (by decide)]
  exact of_decide_eq_true (by kernel_rfl)
theorem no_neg (n : Fq) : F1.mul n n ≠ F1.neg F1.one := fun h => by
  have hv : n.1 ^ 2 % FP.M = FP.M - 1 := by
    have := congrArg Fin.val h
    have e : n.1 * n.1 % FP.M = (0 + FP.M - 1) % FP.M := this
    rw [Nat.pow_two, e]; decide
  have h0 : 0 < n.1 := by
    rcases Nat.eq_zero_or_pos n.1 with h0 | h0
    · rw [h0] at hv; exact absurd hv (by decide)
    · exact h0
  have := ferm h0 n.2
  rw [← half_eq, Nat.pow_mul, Nat.pow_mod, hv] at this
  exact neg_val this
/-- a quotient's square, its cube -/
theorem div_sq {R : Type} {K : CR R} (h : Fld K) {a b q : R} (hb : b ≠ K.zero) (e : K.mul a a = K.mul q (K.mul b b)) : ∃ t, K.mul t t = q := by
  obtain ⟨y, hy⟩ := h.2 b hb
  refine ⟨K.mul a y, ?_⟩
  have h1 : K.mul (K.mul a y) (K.mul a y) = K.mul (K.mul a a) (K.mul y y) := ring_id K (envL K [a, y]) (.mul (.mul (.v 0) (.v 1)) (.mul (.v 0) (.v 1))) (.mul (.mul (.v 0) (.v 0)) (.mul (.v 1) (.v 1))) (by decide)
  have h2 : K.mul (K.mul q (K.mul b b)) (K.mul y y) = K.mul q (K.mul (K.mul b y) (K.mul b y)) := ring_id K (envL K [q, b, y]) (.mul (.mul (.v 0) (.mul (.v 1) (.v 1))) (.mul (.v 2) (.v 2))) (.mul (.v 0) (.mul (.mul (.v 1) (.v 2)) (.mul (.v 1) (.v 2)))) (by decide)
  rw [h1, e, h2, hy, K.mul_one, K.mul_one]
theorem nm2_zero {x : Q2} (h : nm2 x = F1.zero) : x = F2.zero := by
  have h1 : F1.mul x.1 x.1 = F1.mul (F1.neg F1.one) (F1.mul x.2 x.2) := by
    rw [F1.neg_mul, F1.one_mul]
    apply F1.add_cancel (a := F1.mul x.2 x.2)
    rw [F1.add_neg, F1.add_comm]
    exact h
  by_cases hb : x.2 = F1.zero
  · rw [hb, F1.mul_zero, F1.mul_zero] at h1
    exact Prod.ext (sq_zero fld1' h1) hb
  · obtain ⟨t, ht⟩ := div_sq fld1' hb h1
    exact absurd ht (no_neg t)
theorem F2_inv {x : Q2} (h : nm2 x ≠ F1.zero) : F2.mul x (iv2 x) = F2.one := by
  have hi := finv_mul h
  refine Prod.ext ?_ ?_
  · show F1.add (F1.mul x.1 (F1.mul x.1 (finv (nm2 x)))) (F1.mul (F1.neg F1.one) (F1.mul x.2 (F1.mul (F1.neg x.2) (finv (nm2 x))))) = F1.one
    refine Eq.trans ?_ hi
    exact ring_id F1 (envL F1 [x.1, x.2, finv (nm2 x)]) (.add (.mul (.v 0) (.mul (.v 0) (.v 2))) (.mul (.neg .one) (.mul (.v 1) (.mul (.neg (.v 1)) (.v 2))))) (.mul (.add (.mul (.v 0) (.v 0)) (.mul (.v 1) (.v 1))) (.v 2)) (by decide)
  · show F1.add (F1.mul x.1 (F1.mul (F1.neg x.2) (finv (nm2 x)))) (F1.mul x.2 (F1.mul x.1 (finv (nm2 x)))) = F1.zero
    exact ring_id F1 (envL F1 [x.1, x.2, finv (nm2 x)]) (.add (.mul (.v 0) (.mul (.neg (.v 1)) (.v 2))) (.mul (.v 1) (.mul (.v 0) (.v 2)))) .zero (by decide)
theorem fld2 : Fld F2 := ⟨fun h => F1_ne (congrArg Prod.fst h), fun x h => ⟨_, F2_inv fun e => h (nm2_zero e)⟩⟩
theorem nm2_mul (x y : Q2) : nm2 (F2.mul x y) = F1.mul (nm2 x) (nm2 y) :=
  ring_id F1 (envL F1 [x.1, x.2, y.1, y.2]) (.add (.mul (.add (.mul (.v 0) (.v 2)) (.mul (.neg .one) (.mul (.v 1) (.v 3)))) (.add (.mul (.v 0) (.v 2)) (.mul (.neg .one) (.mul (.v 1) (.v 3))))) (.mul (.add (.mul (.v 0) (.v 3)) (.mul (.v 1) (.v 2))) (.add (.mul (.v 0) (.v 3)) (.mul (.v 1) (.v 2)))))
    (.mul (.add (.mul (.v 0) (.v 0)) (.mul (.v 1) (.v 1))) (.add (.mul (.v 2) (.v 2)) (.mul (.v 3) (.v 3)))) (by decide)
end Go.Proofs.YthlcjdcjnioeoaaGreat.Ex
namespace Go.Proofs.YthlcjdcjnioeoaaGreat.Ex
set_option linter.unusedVariables false
set_option linter.unusedSimpArgs false
open Go.RowKit

theorem m1_nv (x : Fq) : m1 x.1 = x := Fin.ext (by show wv x.1 % FP.M = x.1; unfold wv; rw [fw_valp x.2, Nat.mod_eq_of_lt x.2])
def z0 : At := .f F1.zero
end Go.Proofs.YthlcjdcjnioeoaaGreat.Ex
namespace Go.Proofs.YthlcjdcjnioeoaaGreat.Ex
set_option linter.unusedVariables false
set_option linter.unusedSimpArgs false
open Go.RowKit

/-- numbers as they come in, by value -/
def vl : At → Option Fq
  | .f x => some x
  | .q x => some (m1 x)
  | .c _ => none
def vls : List At → Option (List Fq)
  | [] => some []
  | a :: r => match vl a, vls r with | some x, some l => some (x :: l) | _, _ => none
def rv1 (l : List At) : Option Fq := match vls l with | some [a] => some a | _ => none
def rv2 (l : List At) : Option Q2 := match vls l with | some [a, b] => some (a, b) | _ => none
def Rdv {α γ : Type} (rd : List At → Option α) (qn : γ → List At) (mm : γ → α) : Prop := ∀ l x, rd l = some x → ∃ n, flat l = flat (qn n) ∧ mm n = x
theorem vls_ok : ∀ {l : List At} {m : List Fq}, vls l = some m → ∃ ns : List Nat, flat l = flat (ns.map At.q) ∧ ns.map m1 = m
  | [], m, h => by cases h; exact ⟨[], rfl, rfl⟩
  | a :: r, m, h => by
    unfold vls at h
    split at h
    · rename_i x l' h1 h2
      cases h
      obtain ⟨ns, e1, e2⟩ := vls_ok h2
      cases a with
      | f y => cases h1; exact ⟨x.1 :: ns, by show w4 x.1 ++ flat r = w4 x.1 ++ flat (ns.map At.q); rw [e1], by rw [List.map_cons, e2, m1_nv]⟩
      | q y => cases h1; exact ⟨y :: ns, by show w4 y ++ flat r = w4 y ++ flat (ns.map At.q); rw [e1], by rw [List.map_cons, e2]⟩
      | c v => cases h1
    · cases h
theorem rv1_ok : Rdv rv1 q1 m1 := fun l x h => by
  unfold rv1 at h
  split at h
  · rename_i a hn
    cases h
    obtain ⟨ns, e1, e2⟩ := vls_ok hn
    match ns, e2 with
    | [n], e2 => cases e2; exact ⟨n, e1, rfl⟩
  · cases h
theorem rv2_ok : Rdv rv2 q2 m2 := fun l x h => by
  unfold rv2 at h
  split at h
  · rename_i a b hn
    cases h
    obtain ⟨ns, e1, e2⟩ := vls_ok hn
    match ns, e2 with
    | [n, m], e2 => cases e2; exact ⟨(n, m), e1, rfl⟩
  · cases h
theorem g1v_ok {P : Program} {f : FuncId} {α γ : Type} {rd : List At → Option α} {qn : γ → List At} {mm : γ → α} (hr : Rdv rd qn mm) {op : α → List Prop × RV} (h : ∀ x, allP (op (mm x)).1 → ∀ args w, CAs w [.v (.fl (qn x))] args → Good P f (op (mm x)).2 args w) :
    ∀ cs pre r, g1 rd op cs = some (pre, r) → allP pre → ∀ (args : List Value) (w : World), CAs w cs args → Good P f r args w := by
  intro cs pre r hg hp args w ha
  unfold g1 at hg
  split at hg
  · rename_i l
    split at hg
    · rename_i x hx
      obtain ⟨n, e1, rfl⟩ := hr l x hx
      have e : op (mm n) = (pre, r) := by simpa using hg
      have := h n (by rw [e]; exact hp) args w (by
        rw [args1 ha, e1]
        exact ⟨rfl, trivial⟩)
      rw [e] at this
      exact this
    · cases hg
  · cases hg
theorem g2v_ok {P : Program} {f : FuncId} {α γ α' γ' : Type} {rd : List At → Option α} {qn : γ → List At} {mm : γ → α} {rd' : List At → Option α'} {qn' : γ' → List At} {mm' : γ' → α'} (hr : Rdv rd qn mm) (hr' : Rdv rd' qn' mm') {op : α → α' → List Prop × RV}
    (h : ∀ x y, allP (op (mm x) (mm' y)).1 → ∀ args w, CAs w [.v (.fl (qn x)), .v (.fl (qn' y))] args → Good P f (op (mm x) (mm' y)).2 args w) :
    ∀ cs pre r, g2 rd rd' op cs = some (pre, r) → allP pre → ∀ (args : List Value) (w : World), CAs w cs args → Good P f r args w := by
  intro cs pre r hg hp args w ha
  unfold g2 at hg
  split at hg
  · rename_i l m
    split at hg
    · rename_i x y hx hy
      obtain ⟨n, e1, rfl⟩ := hr l x hx
      obtain ⟨n', e2, rfl⟩ := hr' m y hy
      have e : op (mm n) (mm' n') = (pre, r) := by simpa using hg
      have := h n n' (by rw [e]; exact hp) args w (by
        rw [args2 ha, e1, e2]
        exact ⟨rfl, rfl, trivial⟩)
      rw [e] at this
      exact this
    · cases hg
  · cases hg

end Go.Proofs.YthlcjdcjnioeoaaGreat.Ex
namespace Go.Proofs.YthlcjdcjnioeoaaGreat
set_option linter.unusedVariables false
set_option linter.unusedSimpArgs false
open Go.RowKit

def val8 (a0 a1 a2 a3 a4 a5 a6 a7 : Nat) : Nat := a0 + 4294967296 * (a1 + 4294967296 * (a2 + 4294967296 * (a3 + 4294967296 * (a4 + 4294967296 * (a5 + 4294967296 * (a6 + 4294967296 * a7))))))
def ok8 (a0 a1 a2 a3 a4 a5 a6 a7 : Nat) : Prop := a0 < 4294967296 ∧ a1 < 4294967296 ∧ a2 < 4294967296 ∧ a3 < 4294967296 ∧ a4 < 4294967296 ∧ a5 < 4294967296 ∧ a6 < 4294967296 ∧ a7 < 4294967296
theorem ex_half {a : Nat} (ha : a < 18446744073709551616) : ∃ l h : Nat, bits .and .u64 (a : Int) 4294967295 = (l : Int) ∧ (a : Int) / 4294967296 = (h : Int) ∧ l < 4294967296 ∧ h < 4294967296 ∧ Hid (l + 4294967296 * h = a) := by
  obtain ⟨h, l, e1, e2, h1, h2, e⟩ := dv_half ha
  exact ⟨l, h, e2, e1, h2, h1, Lib.hid (by omega)⟩
def HalvesPost (A : Nat) (w : World) (e : Ending) (w' : World) : Prop :=
  ∃ h0 h1 h2 h3 h4 h5 h6 h7 : Nat, e = .returned (.agg #[.int .u64 h0, .int .u64 h1, .int .u64 h2, .int .u64 h3, .int .u64 h4, .int .u64 h5, .int .u64 h6, .int .u64 h7]) ∧ ok8 h0 h1 h2 h3 h4 h5 h6 h7 ∧ Hid (val8 h0 h1 h2 h3 h4 h5 h6 h7 = A) ∧ Below w.heap.size w w'

set_option maxHeartbeats 1000000 in
theorem halves_calls (a0 a1 a2 a3 : Nat) (ha : ok4 a0 a1 a2 a3) (w : World) :
    Calls Tryz.prog 196 #[.agg #[.int .u64 a0, .int .u64 a1, .int .u64 a2, .int .u64 a3]] w (HalvesPost (val4 a0 a1 a2 a3) w) := by
  obtain ⟨h0, h1, d0, d1, b0, b1, e0⟩ := ex_half ha.1
  obtain ⟨h2, h3, d2, d3, b2, b3, e1⟩ := ex_half ha.2.1
  obtain ⟨h4, h5, d4, d5, b4, b5, e2⟩ := ex_half ha.2.2.1
  obtain ⟨h6, h7, d6, d7, b6, b7, e3⟩ := ex_half ha.2.2.2
  go_enter Tryz.func196, Tryz.ntmps196
  go_wp2_with fail
  refine wp_loop_rounds 5 ?_
  rw [rounds_succ]
  go_wp2_with fail
  rw [rounds_succ]
  go_wp2_with fail
  rw [rounds_succ]
  go_wp2_with fail
  rw [rounds_succ]
  go_wp2_with fail
  rw [rounds_succ]
  go_wp2_with fail
  refine bodyPost_ret (v := .agg #[.int .u64 h0, .int .u64 h1, .int .u64 h2, .int .u64 h3, .int .u64 h4, .int .u64 h5, .int .u64 h6, .int .u64 h7]) (by simp [results, Tryz.results196, go_sem]) rfl ?_
  refine ⟨h0, h1, h2, h3, h4, h5, h6, h7, rfl, ⟨b0, b1, b2, b3, b4, b5, b6, b7⟩, ?_, ?_⟩
  · have := e0.out; have := e1.out; have := e2.out; have := e3.out
    exact Lib.hid (by unfold val4 val8; omega)
  repeat (first | exact Below.refl _ _ | refine Below.drew ?_ | refine Below.alloc ?_ (by first | (simp; done) | (simp; omega)) _)

theorem ex_join {l h : Nat} (hl : l < 4294967296) (hh : h < 4294967296) : ∃ u s : Nat, (h : Int) * 4294967296 = (u : Int) ∧ bits .or .u64 (l : Int) (u : Int) = (s : Int) ∧ u < 18446744073709551616 ∧ s < 18446744073709551616 ∧ Hid (s = l + 4294967296 * h) := by
  obtain ⟨s, e, hs, f⟩ := ex_or' (k := 32) (lo := l) (up := h * 4294967296) (by omega) (by omega) (Lib.hid (by omega)) (Lib.hid ⟨h, by omega⟩)
  have := f.out
  exact ⟨h * 4294967296, s, by omega, e, by omega, hs, Lib.hid (by omega)⟩

end Go.Proofs.YthlcjdcjnioeoaaGreat
namespace Go.Proofs.YthlcjdcjnioeoaaGreat
set_option linter.unusedVariables false

section
variable {P : Program} {ops : Array Oper} {Q : Exit → Act → World → Prop} {md : Region.Mode}

/-- each operation below n waits only for lower ones -/
def backB (md : Region.Mode) (ops : Array Oper) (n : Nat) : Bool :=
  (List.range n).all fun i => match ops[i]? with
    | some o => o.after.all fun e => !Region.binds md e || decide (e.on < i)
    | none => false
/-- all that number i waits for has come up -/
def readyB (md : Region.Mode) (ops : Array Oper) (got : Nat → Bool) (i : Nat) : Bool :=
  match ops[i]? with
    | some o => o.after.all fun e => !Region.binds md e || got e.on
    | none => false
/-- how many of those below n have not come up -/
def undone (listed : Array Bool) : Nat → Nat
  | 0 => 0
  | n + 1 => undone listed n + if listed.getD n false = true then 0 else 1
theorem undone_succ (listed : Array Bool) (n : Nat) : undone listed (n + 1) = undone listed n + if listed.getD n false = true then 0 else 1 := rfl
theorem undone_set {listed : Array Bool} {i : Nat} (hi : i < listed.size) (h : listed.getD i false = false) : ∀ n, undone (listed.setIfInBounds i true) n + (if i < n then 1 else 0) = undone listed n
  | 0 => by simp [undone]
  | n + 1 => by
    have ih := undone_set hi h n
    rw [undone_succ, undone_succ]
    by_cases e : i = n
    · subst e
      have h1 : (listed.setIfInBounds i true).getD i false = true := by simp [hi]
      rw [h1, h]
      simp at ih ⊢
      omega
    · rw [getD_set_ne false e]
      by_cases h2 : i < n
      · rw [if_pos h2] at ih; rw [if_pos (show i < n + 1 by omega)]; omega
      · rw [if_neg h2] at ih; rw [if_neg (show ¬ i < n + 1 by omega)]; omega
theorem undone_zero {listed : Array Bool} : ∀ {n : Nat}, undone listed n = 0 → ∀ j, j < n → listed.getD j false = true
  | 0, _, j, hj => by omega
  | n + 1, h, j, hj => by
    rw [undone_succ] at h
    by_cases e : listed.getD n false = true
    · rw [if_pos e] at h
      rcases Nat.lt_or_ge j n with h1 | h1
      · exact undone_zero (by omega) j h1
      · obtain rfl : j = n := by omega
        exact e
    · rw [if_neg e] at h; omega
theorem undone_some {listed : Array Bool} : ∀ {n : Nat}, 0 < undone listed n → ∃ j, j < n ∧ listed.getD j false = false ∧ ∀ k, k < j → listed.getD k false = true
  | 0, h => by unfold undone at h; omega
  | n + 1, h => by
    rcases Nat.eq_zero_or_pos (undone listed n) with h0 | h0
    · unfold undone at h
      rw [h0] at h
      refine ⟨n, by omega, ?_, undone_zero h0⟩
      cases e : listed.getD n false with
      | true => rw [e] at h; simp at h
      | false => rfl
    · obtain ⟨j, hj, h1, h2⟩ := undone_some h0
      exact ⟨j, by omega, h1, h2⟩

def headDone (n m : Nat) : Array Bool := Array.replicate n true ++ Array.replicate (m - n) false

theorem wpAny_of_inv {n : Nat} {Inv : (Nat → Bool) → Act → World → Prop} {l : List Oper} (hl : ops = l.toArray) (hn : n < ops.size)
    (hs : Region.sinkB md ops n = true) (hc : Region.chainB md ops n = true) (hb : backB md ops n = true) (hq : Region.seqB md ops (ops.size - n) n (headDone n ops.size) = true)
    (step : ∀ (got : Nat → Bool) b u i, i < n → got i = false → readyB md ops got i = true → Inv got b u → wpOp P ops Q i (Inv (fun j => j == i || got j)) b u)
    (tail : ∀ got b u, (∀ j, j < n → got j = true) → Inv got b u → wpList P ops Q (l.drop n) b u) :
    ∀ (m : Nat) (listed : Array Bool) (b : Act) (u : World), HeadInv md ops n listed → undone listed n = m → Inv (fun j => listed.getD j false) b u → wpAny P md ops Q (m + (ops.size - n)) listed b u
  | 0, listed, b, u, inv, hm, h => by
    have hall := undone_zero hm
    have he : listed = headDone n ops.size := by
      refine Array.ext (by simp [headDone, inv.size]; omega) fun j h1 h2 => ?_
      rcases Nat.lt_or_ge j n with hj | hj
      · have := hall j hj
        simp [h1] at this
        rw [this]
        simp [headDone, hj]
      · have := inv.tail j hj (by rw [← inv.size]; exact h1)
        simp [h1] at this
        rw [this]
        simp [headDone, hj]
    subst he
    have hlen : (l.drop n).length = ops.size - n := by subst hl; simp
    rw [Nat.zero_add, ← hlen]
    exact wpAny_of_seq (l.drop n) n _ b u (fun j => by subst hl; simp [List.getElem?_drop]) (by rw [hlen]; exact hq) (tail _ b u hall h)
  | m + 1, listed, b, u, inv, hm, h => by
    rw [show m + 1 + (ops.size - n) = m + (ops.size - n) + 1 by omega]
    refine ⟨fun h0 => ?_, fun i hi => ?_⟩
    · obtain ⟨j, hj, h1, h2⟩ := undone_some (n := n) (listed := listed) (by omega)
      have hjr : j ∈ Region.ready md ops listed := by
        have hbj := List.all_eq_true.1 hb j (List.mem_range.2 hj)
        cases ho : ops[j]? with
        | none => rw [ho] at hbj; cases hbj
        | some o =>
          rw [ho] at hbj
          refine mem_ready.2 ⟨getD_in (by rw [inv.size]; omega) h1, o, ho, fun e he hbi => h2 _ ?_⟩
          have := (Array.all_eq_true_iff_forall_mem.1 hbj) e he
          simp [hbi] at this
          exact this
      rw [h0] at hjr; cases hjr
    · obtain ⟨hun, o, ho, hall⟩ := mem_ready.1 hi
      have hin : i < n := by
        rcases Nat.lt_or_ge i n with h' | h'
        · exact h'
        · obtain ⟨j, hj, h1, h2⟩ := undone_some (n := n) (listed := listed) (by omega)
          exact absurd hi (tail_waits hs hc hn inv _ j rfl hj (getD_in (by rw [inv.size]; omega) h1) i h')
      have his : i < listed.size := by rw [inv.size]; omega
      have hun' := getD_both hun
      refine wpOp_mono (fun b' u' h' => ?_) (step _ b u i hin hun' (by
        unfold readyB
        rw [ho]
        refine Array.all_eq_true_iff_forall_mem.2 fun e he => ?_
        cases hbi : Region.binds md e with
        | false => rfl
        | true => simpa [hbi] using hall e he hbi) h)
      refine wpAny_of_inv hl hn hs hc hb hq step tail m _ b' u' (inv.set hi hin) ?_ ?_
      · have := undone_set his hun' n
        rw [if_pos hin] at this; omega
      · have hf : (fun j => (listed.setIfInBounds i true).getD j false) = fun j => j == i || listed.getD j false := by
          funext j
          by_cases e : j = i
          · subst e; simp [his]
          · rw [getD_set_ne false (Ne.symm e)]; simp [e]
        rw [hf]; exact h'

theorem undone_new (k : Nat) : ∀ n, undone (Array.replicate k false) n = n
  | 0 => rfl
  | n + 1 => by rw [undone_succ, undone_new k n, getD_replicate_false]; simp

/-- The law: n operations in whatever order under the condition Inv, then the others in theirs. -/
theorem region_head (n : Nat) (Inv : (Nat → Bool) → Act → World → Prop) {id : Nat} {a : Act} {w : World} {l : List Oper} (hm : P.follows .mixedOrders = true) (hn : n < l.length)
    (hs : Region.sinkB .any l.toArray n = true) (hc : Region.chainB .any l.toArray n = true) (hb : backB .any l.toArray n = true) (hq : Region.seqB .any l.toArray (l.toArray.size - n) n (headDone n l.toArray.size) = true)
    (start : Inv (fun _ => false) a w.drew)
    (step : ∀ (got : Nat → Bool) b u i, i < n → got i = false → readyB .any l.toArray got i = true → Inv got b u → wpOp P l.toArray Q i (Inv (fun j => j == i || got j)) b u)
    (tail : ∀ got b u, (∀ j, j < n → got j = true) → Inv got b u → wpList P l.toArray Q (l.drop n) b u) : (Code.region id l.toArray true).wp P Q a w := by
  have hn' : n < l.toArray.size := by simpa using hn
  have inv0 : HeadInv .any l.toArray n (Array.replicate l.toArray.size false) :=
    ⟨by simp, fun j oj _ hl => (by rw [getD_replicate_false] at hl; cases hl), fun t _ ht => getD_in (by simpa using ht) (getD_replicate_false _ _)⟩
  refine wp_region_any hm ?_
  have hf : (fun j => (Array.replicate l.toArray.size false).getD j false) = fun _ : Nat => false := by funext j; exact getD_replicate_false _ _
  have H := wpAny_of_inv (md := .any) rfl hn' hs hc hb hq step tail n _ a w.drew inv0 (undone_new _ n) (by rw [hf]; exact start)
  rw [show n + (l.toArray.size - n) = l.toArray.size by omega] at H
  exact H
end
end Go.Proofs.YthlcjdcjnioeoaaGreat
