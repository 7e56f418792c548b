/-
  The calls of limbs.Bytes and limbs.Read, and of the reference's Read: for any number of four words, any bytes, in any world. Conditions: each word below 2^64.
-/
import Derived.Test.YtalddekocfkbhaaPut
import Derived.Test.YtalddekocfkbhaaByteNum
import Derived.Deep.LoopGhost
namespace Go.Proofs.Ytalddekocfkbhaa
set_option linter.unusedVariables false
set_option linter.unusedSimpArgs false
open Go.RowKit

/-- a block of bytes -/
def RowB (w : World) (b n : Nat) (P : Nat → Nat) : Prop := ∀ k, k < n → w.cell? ⟨b, k, none⟩ = some (.int .u8 (P k : Nat)) ∧ w.frozen? ⟨b, k, none⟩ = false
theorem RowB.below {w w' : World} {b n : Nat} {P : Nat → Nat} (h : RowB w b n P) {B : Nat} (hb : Below B w w') (hB : b < B) : RowB w' b n P := fun k hk =>
  ⟨(hb.cell (p := ⟨b, k, none⟩) hB).trans (h k hk).1, (hb.frozen (p := ⟨b, k, none⟩) hB).trans (h k hk).2⟩
theorem RowB.set {w : World} {b n i v : Nat} {P : Nat → Nat} (h : RowB w b n P) (hi : i < n) : RowB (w.setCell ⟨b, i, none⟩ (.int .u8 (v : Nat))) b n (upd P i v) := by
  intro k hk
  refine ⟨?_, by rw [World.frozen?_setCell]; exact (h k hk).2⟩
  unfold upd
  by_cases e : k = i
  · subst e; rw [if_pos rfl]; exact World.cell?_setCell_same (h := (h k hk).1) ..
  · rw [if_neg e, World.cell?_setCell_other (h := fun he => e (by simpa using (congrArg Addr.off he).symm)) ..]; exact (h k hk).1
theorem RowB.other {w : World} {b n i : Nat} {P : Nat → Nat} (h : RowB w b n P) {c : Nat} (hc : c ≠ b) (x : Value) : RowB (w.setCell ⟨c, i, none⟩ x) b n P := by
  intro k hk
  exact ⟨by rw [World.cell?_setCell_other (h := fun he => hc (by simpa using congrArg Addr.block he)) ..]; exact (h k hk).1, by rw [World.frozen?_setCell]; exact (h k hk).2⟩
theorem RowB.drewN {w : World} {b n : Nat} {P : Nat → Nat} (h : RowB w b n P) (m : Nat) : RowB (w.drewN m) b n P := h
theorem RowB.ext {w : World} {b n : Nat} {P R : Nat → Nat} (h : RowB w b n P) (e : ∀ k, k < n → P k = R k) : RowB w b n R := fun k hk => ⟨by rw [← e k hk]; exact (h k hk).1, (h k hk).2⟩

def BytesPost (A : Nat) (w : World) (e : Ending) (w' : World) : Prop :=
  ∃ b : Nat, e = .returned (.slice (some ⟨b, 0, none⟩) 32 32) ∧ w.heap.size ≤ b ∧ b < w'.heap.size ∧ RowB w' b 32 (byteAt A) ∧ Below w.heap.size w w'

theorem make32 : ∃ o : Obj, (∀ w, (Instr.makeSlice 46 (.int .i64 32) (.int .i64 32)).run Try.prog w = .ok (.slice (some ⟨w.heap.size, 0, none⟩) 32 32) (w.alloc o)) ∧ (∀ (w : World) (b : Nat), b = w.heap.size → RowB (w.alloc o) b 32 (fun _ => 0)) := by
  refine ⟨.cells (Array.replicate 32 (.int .u8 0)) 5, fun _ => by kernel_rfl, fun w b hb k hk => ?_⟩
  subst hb
  refine ⟨?_, World.frozen?_alloc_new _ _ _ _⟩
  rw [World.cell?_alloc_new]
  simp [hk]

set_option maxRecDepth 100000 in
set_option maxHeartbeats 1000000 in
theorem bytes_calls (a0 a1 a2 a3 : Nat) (ha : ok4 a0 a1 a2 a3) (w : World) :
    Calls Try.prog 77 #[.agg #[.int .u64 a0, .int .u64 a1, .int .u64 a2, .int .u64 a3]] w (BytesPost (val4 a0 a1 a2 a3) w) := by
  obtain ⟨o, hmk, ho⟩ := make32
  have hix : ∀ W, Row4 W w.heap.size a0 a1 a2 a3 → RowIs W w.heap.size 4 (fnOf [a0, a1, a2, a3]) := fun W h => h.rows
  have hP := fn4_lt ha
  have HA := Lib.hid (val4_fn a0 a1 a2 a3)
  have Ho := Lib.hid ho
  have R0 := Lib.hid ((RowIs.mk w 26 [a0, a1, a2, a3] w.heap.size rfl).alloc (by simp) o)
  have HP := Lib.hid hP
  clear ho hix hP
  generalize fnOf [a0, a1, a2, a3] = P at *
  rw [HA.out]
  clear HA
  generalize hv : tot 18446744073709551616 P 4 = A
  have Hv := Lib.hid hv
  clear hv
  go_enter Try.func77, Try.ntmps77
  go_wp2_with fail
  go_loopw [6] (fun x wr => ∃ i : Nat, i ≤ 32 ∧ x = .int .i64 i ∧ RowIs wr w.heap.size 4 P ∧ RowB wr (w.heap.size + 1) 32 (fun p => if 32 ≤ p + i then byteAt A p else 0) ∧ Below w.heap.size w wr ∧ w.heap.size + 1 < wr.heap.size) (fun x _ => 32 - (intOf x).toNat)
  case atStart =>
    refine ⟨0, by omega, rfl, R0.out, (Ho.out _ _ (by simp)).ext (fun k hk => by rw [if_neg (by omega)]), ?_, by simp⟩
    exact ((Below.refl _ _).alloc (Nat.le_refl _) _).alloc (by simp) _
  case round =>
    obtain ⟨i, hi, rfl, rP, rB, hb, hz⟩ := hrel
    have HB := Lib.hid hb
    by_cases hlt : i < 32
    · obtain ⟨j, m, s, p, q1, q2, q3, q4, hj, hm, hs, hp, e⟩ := ex_ib hlt
      have cx := rP.cell hj
      have cb := (rB p hp).1
      have fb := (rB p hp).2
      have lx := HP.out j
      obtain ⟨t, e1, e2, lt⟩ := ex_byte (b := byteAt A p) (s := s) lx (by
        obtain ⟨k1, k2, k3⟩ := e.out
        rw [k2, word_byte P HP.out 4 j m hj hm, Hv.out, ← k1]
        unfold byteAt
        rw [k3, show 31 - (31 - i) = i by omega])
      have HrP := Lib.hid rP
      have HrB := Lib.hid ((rB.set (v := byteAt A p) hp).ext (R := fun k => if 32 ≤ k + (i + 1) then byteAt A k else 0) (fun k hk => by
        obtain ⟨k1, k2, k3⟩ := e.out
        unfold upd
        by_cases h : k = p
        · rw [if_pos h, if_pos (by omega), h]
        · rw [if_neg h]
          show (if 32 ≤ k + i then byteAt A k else 0) = _
          by_cases h' : 32 ≤ k + i
          · rw [if_pos h', if_pos (by omega)]
          · rw [if_neg h', if_neg (by omega)]))
      have lb := byteAt_lt A p
      generalize P j = x at *
      generalize byteAt A p = b at *
      clear rP rB hb e
      go_wp2_with fail
      go_roundw
      case rel => exact ⟨i + 1, by omega, by go_num, HrP.out.other (by omega) _, HrB.out, HB.out.setCell (p := ⟨w.heap.size + 1, p, none⟩) (by simp) _, by rw [World.size_setCell]; exact hz⟩
      case measure => first | (simp [intOf]; done) | (simp [intOf]; omega)
    · obtain rfl : i = 32 := by omega
      have HrB := Lib.hid (rB.ext (R := byteAt A) (fun k hk => by rw [if_pos (by omega)]))
      clear rB rP hb
      go_wp2_with fail
      go_ret
      exact ⟨w.heap.size + 1, rfl, by omega, hz, HrB.out, HB.out⟩

/-- the number of a list of bytes -/
def ReadPost (P : Nat → Nat → Prop) (w : World) (e : Ending) (w' : World) : Prop :=
  ∃ s0 s1 s2 s3 c : Nat, e = .returned (.tuple #[.agg #[.int .u64 s0, .int .u64 s1, .int .u64 s2, .int .u64 s3], .int .i64 c]) ∧ ok4 s0 s1 s2 s3 ∧ P (val4 s0 s1 s2 s3) c ∧ Below w.heap.size w w'

theorem read_short (v : Option Addr) (len cap : Nat) (hl : len ≠ 32) (hm : len ≤ 9223372036854775807) (w : World) :
    Calls Try.prog 75 #[.slice v len cap] w (ReadPost (fun n c => n = 0 ∧ c = 3) w) := by
  have t0 : ((len : Int) != 32) = true := by simp; omega
  go_enter Try.func75, Try.ntmps75
  go_wp2_with fail
  refine bodyPost_ret (v := .tuple #[.agg #[.int .u64 0, .int .u64 0, .int .u64 0, .int .u64 0], .int .i64 3]) (by simp [results, Try.results75, go_sem]) rfl ?_
  refine ⟨0, 0, 0, 0, 3, rfl, ⟨by omega, by omega, by omega, by omega⟩, ⟨rfl, rfl⟩, ?_⟩
  repeat (first | exact Below.refl _ _ | refine Below.drew ?_ | refine Below.alloc ?_ (by first | (simp; done) | (simp; omega)) _)

set_option maxRecDepth 100000 in
set_option maxHeartbeats 1000000 in
theorem read_32 (g off cap : Nat) (B : Nat → Nat) (hB : ∀ k, B k < 256) (w : World) (hg : g < w.heap.size) (hc : ∀ k, k < 32 → w.cell? ⟨g, off + k, none⟩ = some (.int .u8 (B k : Nat))) :
    Calls Try.prog 75 #[.slice (some ⟨g, off, none⟩) 32 cap] w (ReadPost (fun n c => n = hor B 0 32 ∧ c = 0) w) := by
  have HC := Lib.hid hc
  have HB := Lib.hid hB
  have HE := Lib.hid (tot_hor B 0 32)
  have HT := Lib.hid (fun i => tot_lt 256 (fun k => B (0 + 32 - 1 - k)) (by omega) i (fun k _ => hB _))
  clear hc hB
  generalize eD : (fun k => B (0 + 32 - 1 - k)) = D at *
  have hD : ∀ i p, i < 32 → p = 31 - i → B p = D i := fun i p hi hp => by
    rw [← eD, hp]
  have HD := Lib.hid hD
  clear hD eD
  go_enter Try.func75, Try.ntmps75
  go_wp2_with fail
  have R0 := Lib.hid (Row4.new (w.alloc (.cells #[.int .u64 0, .int .u64 0, .int .u64 0, .int .u64 0] 26)) 0 0 0 0 26).rows
  have Z0 := Lib.hid ((Row4.new w 0 0 0 0 26).alloc (by simp) (.cells #[.int .u64 0, .int .u64 0, .int .u64 0, .int .u64 0] 26))
  go_loopw [10] (fun x wr => ∃ (i : Nat) (P : Nat → Nat), i ≤ 32 ∧ x = .int .i64 i ∧ (∀ k, P k < 18446744073709551616) ∧ Hid (tot 18446744073709551616 P 4 = tot 256 D i) ∧ RowIs wr (w.heap.size + 1) 4 P ∧ Row4 wr w.heap.size 0 0 0 0 ∧ Below w.heap.size w wr ∧ w.heap.size + 1 < wr.heap.size) (fun x _ => 32 - (intOf x).toNat)
  case atStart =>
    refine ⟨0, fnOf [0, 0, 0, 0], by omega, rfl, fun k => fn4_lt ⟨by omega, by omega, by omega, by omega⟩ k, Lib.hid rfl, by simpa using R0.out, Z0.out, ?_, by simp⟩
    exact ((Below.refl _ _).alloc (Nat.le_refl _) _).alloc (by simp) _
  case round =>
    obtain ⟨i, P, hi, rfl, lP, tP, rP, z0, hb, hz⟩ := hrel
    have HBl := Lib.hid hb
    have HZ := Lib.hid z0
    have HlP := Lib.hid lP
    have HR := Lib.hid rP
    by_cases hlt : i < 32
    · obtain ⟨j, m, s, p, q1, q2, q3, q4, hj, hm, hs, hp, e⟩ := ex_ib hlt
      have cx := rP.cell hj
      have fx := rP.free hj
      have cb : wr.cell? ⟨g, off + p, none⟩ = some (.int .u8 (B p : Nat)) := (hb.cell (p := ⟨g, off + p, none⟩) hg).trans (HC.out p hp)
      have lb := HB.out p
      have hbD := HD.out i p hlt e.out.2.2
      have st := read_step (d := D i) hj hm e.out.1 e.out.2.1 tP.out (HT.out i)
      obtain ⟨u, z, e1, e2, lu, lz, ez⟩ := ex_up8 lb hs st.1
      have HN := Lib.hid (show tot 18446744073709551616 (upd P j z) 4 = tot 256 D (i + 1) by
        rw [ez.out, hbD, st.2, tot_succ])
      have lx := lP j
      generalize P j = x at *
      generalize B p = b at *
      clear z0 hb rP lP tP st hbD e ez
      go_wp2_with fail
      go_region
      go_wp2_with fail
      go_roundw
      case rel => exact ⟨i + 1, upd P j z, by omega, by go_num, fun k => by unfold upd; split; exact lz; exact HlP.out k, HN, (HR.out.drewN 1).set hj, (HZ.out.drewN 1).other (by omega) _, (HBl.out.drew).setCell (p := ⟨w.heap.size + 1, j, none⟩) (by simp) _, by show _ < (wr.setCell _ _).heap.size; rw [World.size_setCell]; exact hz⟩
      case measure => first | (simp [intOf]; done) | (simp [intOf]; omega)
    · obtain rfl : i = 32 := by omega
      have HF := Lib.hid ((val4_tot P).trans (tP.out.trans HE.out))
      have c0 := rP.cell (show 0 < 4 by omega); have c1 := rP.cell (show 1 < 4 by omega); have c2 := rP.cell (show 2 < 4 by omega); have c3 := rP.cell (show 3 < 4 by omega)
      have k0 := z0.c0; have k1 := z0.c1; have k2 := z0.c2; have k3 := z0.c3; have kf := z0.fr
      have l0 := lP 0; have l1 := lP 1; have l2 := lP 2; have l3 := lP 3
      clear rP z0 hb lP tP
      go_wp2_with fail
      refine bodyPost_ret (v := .tuple #[.agg #[.int .u64 (P 0), .int .u64 (P 1), .int .u64 (P 2), .int .u64 (P 3)], .int .i64 0]) (by simp [results, Try.results75, go_sem, *]) rfl ?_
      exact ⟨P 0, P 1, P 2, P 3, 0, rfl, ⟨l0, l1, l2, l3⟩, ⟨HF.out, rfl⟩, below_set4 HBl.out (by omega) _ _ _ _⟩


theorem ex_ir {i : Nat} (h : i < 32) : ∃ k m q : Nat, (i : Int) / 8 = (k : Int) ∧ (3 : Int) - (k : Int) = (q : Int) ∧ k < 4 ∧ m < 8 ∧ q < 4 ∧ Hid (i = 8 * k + m ∧ q = 3 - k) :=
  ⟨i / 8, i % 8, 3 - i / 8, by omega, by omega, by omega, by omega, by omega, Lib.hid (by omega)⟩
theorem ex_sh8 {x d : Nat} (hx : x < 72057594037927936) (hd : d < 256) : ∃ u z : Nat, IntKind.u64.wrap ((x : Int) * 256) = (u : Int) ∧ (x : Int) * 256 = (u : Int) ∧ bits .or .u64 (u : Int) (d : Int) = (z : Int) ∧ u < 18446744073709551616 ∧ z < 18446744073709551616 ∧ Hid (z = x * 256 + d) := by
  have h1 : x * 256 < 18446744073709551616 := by omega
  obtain ⟨z, e1, e2, e3⟩ := ex_or (p := 8) h1 (show d < 18446744073709551616 by omega) (Lib.hid (by simpa using hd)) (Lib.hid ⟨x, by rw [Nat.mul_comm]⟩)
  exact ⟨x * 256, z, by rw [show (x : Int) * 256 = ((x * 256 : Nat) : Int) by omega, wrap_in64 _ h1], by omega, e1, h1, e2, e3⟩
theorem hor_words (B : Nat → Nat) : val4 (hor B 24 8) (hor B 16 8) (hor B 8 8) (hor B 0 8) = hor B 0 32 := by
  have h1 := hor_split B 0 24 8
  have h2 := hor_split B 0 16 8
  have h3 := hor_split B 0 8 8
  unfold val4
  simp only [Nat.zero_add] at h1 h2 h3
  have e : 256 ^ 8 = 18446744073709551616 := by simp
  rw [e] at h1 h2 h3
  show _ = hor B 0 (24 + 8)
  rw [h1, show hor B 0 24 = hor B 0 (16 + 8) from rfl, h2, show hor B 0 16 = hor B 0 (8 + 8) from rfl, h3]
  omega

end Go.Proofs.Ytalddekocfkbhaa
