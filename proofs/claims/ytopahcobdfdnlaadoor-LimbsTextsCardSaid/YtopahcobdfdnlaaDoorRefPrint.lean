/-
  The call of the reference's Print, which appends ahead: for any number of four words, its decimal digits. Conditions: each word below 2^64.
-/
import Derived.Test.YtopahcobdfdnlaaDoorRefBytes
import Derived.Test.YtopahcobdfdnlaaDoorRefMod
import Derived.Test.YtopahcobdfdnlaaDoorDecNum
import Derived.Test.YtopahcobdfdnlaaDoorSame
import Derived.Laws.AppendOwnNone
import Derived.Laws.IdiomStrings
import Derived.Deep.DeepFit
namespace Go.Proofs.YtopahcobdfdnlaaDoor
set_option linter.unusedVariables false
set_option linter.unusedSimpArgs false
open Go.RowKit

def GrownFrom (w w' : World) (base : Nat) : Prop := ∃ row, w.grownBy w' row ∧ ∀ k, row = some k → base ≤ k
theorem wpList_append_front {P : Program} {w : World} {ops : Array Oper} {rest : List Oper} {o : Oper} {a : Act} {Q : Exit → Act → World → Prop} (hgd : o.guard = none) (s x : Operand) (t : TypeId)
    (ho : o.op = .call { callee := .builtin .append, args := #[s, x], argTypes := #[t, t] })
    (base : Nat) (e : TypeId) (i : TypeInfo) (z : Value) (bytes : Nat) (ht : P.underlying t = some (.slice e)) (hi : P.info? e = some i) (hz : i.zero = some z)
    (hsize : i.size = 1) (hby : i.bytes = bytes) (hzs : z.cells.size = 1)
    (v : Value) (n : Nat) (xs : List Value) (hs : a.eval s = v) (hown : w.ownsRow base e 1 v n xs)
    (u : Value) (l : List Value) (hx : a.eval x = u) (hu : (u = .slice none 0 0 ∧ l = []) ∨ ∃ ad c, u = .slice (some ad) l.length c ∧ ∀ j y, l[j]? = some y → w.cell? (ad.add j) = some y) (h1 : ∀ y ∈ l, y.oneCell' = true)
    (h63 : n + l.length ≤ maxLen) (hbytes : (n + l.length) * bytes ≤ 140737488355328) (hbase : base ≤ w.heap.size)
    (h : ∀ v' w', w'.ownsRow base e 1 v' (n + l.length) (xs ++ l) → GrownFrom w w' base → wpList P ops Q rest (a.put o.dst v') w') : wpList P ops Q (o :: rest) a w := by
  rcases hu with ⟨rfl, rfl⟩ | ⟨ad, c, rfl, hc⟩
  · exact wpList_append_own_none hgd s x t ho base e i 1 ht hi v n xs hs hown hx (h v w (by simpa using hown) ⟨none, ⟨rfl, rfl, rfl, Nat.le_refl _, fun _ _ _ => rfl⟩, fun k hk => by cases hk⟩)
  · exact wpList_append_own _ hgd s x t ho base e i z 1 bytes ht hi hz hsize hby hzs (by omega) v n xs hs hown ad l.length c l hx (by omega) hc h1 h63 hbytes hbase (fun v' w' h2 h3 _ => h v' w' h2 ⟨_, h3, fun k hk => own_ge hown hk⟩)

def byteV (l : List UInt8) : List Value := l.map fun c => .int .u8 (c.toNat : Nat)
/-- what the slice out holds -/
def OutIs (w : World) (u : Value) (l : List UInt8) : Prop :=
  (u = .slice none 0 0 ∧ l = []) ∨ ∃ g c, u = .slice (some ⟨g, 0, none⟩) l.length c ∧ g < w.heap.size ∧ ∀ j y, (byteV l)[j]? = some y → w.cell? ⟨g, j, none⟩ = some y
theorem OutIs.on {w w' : World} {u : Value} {l : List UInt8} (h : OutIs w u l) (hb : Below w.heap.size w w') : OutIs w' u l := by
  rcases h with h | ⟨g, c, e, lg, hc⟩
  · exact Or.inl h
  · exact Or.inr ⟨g, c, e, Nat.lt_of_lt_of_le lg hb.size, fun j y hj => (hb.cell (p := ⟨g, j, none⟩) lg).trans (hc j y hj)⟩
theorem byteV_len (l : List UInt8) : (byteV l).length = l.length := by unfold byteV; simp
theorem OutIs.src {w : World} {u : Value} {l : List UInt8} (h : OutIs w u l) : (u = .slice none 0 0 ∧ byteV l = []) ∨ ∃ ad c, u = .slice (some ad) (byteV l).length c ∧ ∀ j y, (byteV l)[j]? = some y → w.cell? (ad.add j) = some y := by
  rcases h with ⟨e, rfl⟩ | ⟨g, c, e, lg, hc⟩
  · exact Or.inl ⟨e, rfl⟩
  · exact Or.inr ⟨⟨g, 0, none⟩, c, by rw [byteV_len]; exact e, fun j y hj => by
      have := hc j y hj
      match j, this with
      | 0, this => simpa [Addr.add] using this
      | j + 1, this => simpa [Addr.add] using this⟩
theorem OutIs.of {w : World} {base : Nat} {e : TypeId} {v : Value} {l : List UInt8} (hl : 0 < l.length) (h : w.ownsRow base e 1 v l.length (byteV l)) : OutIs w v l ∧ ∃ g c, v = .slice (some ⟨g, 0, none⟩) l.length c ∧ base ≤ g := by
  obtain ⟨g, c, rfl, hg, lg⟩ := own_form h hl
  refine ⟨Or.inr ⟨g, c, rfl, lg, fun j y hj => ?_⟩, g, c, rfl, hg⟩
  have hj' : j < l.length := by
    rw [← byteV_len]; exact (List.getElem?_eq_some_iff.1 hj).1
  rw [h.cellAt j (by omega), hj]
theorem OutIs.other {w : World} {u : Value} {l : List UInt8} {g c b : Nat} (h : OutIs w u l) (e : u = .slice (some ⟨g, 0, none⟩) l.length c) (hb : b ≠ g) (d0 d1 d2 d3 : Nat) : OutIs (set4 w b d0 d1 d2 d3) u l := by
  rcases h with h | ⟨g', c', e', lg, hc⟩
  · exact Or.inl h
  · rw [e] at e'
    injection e' with h1 h2 h3
    injection h1 with h1
    injection h1 with h1
    subst h1
    refine Or.inr ⟨g, c', by rw [e, h3], by unfold set4; simp only [World.size_setCell]; exact lg, fun j y hj => ?_⟩
    unfold set4
    iterate 4 rw [World.cell?_setCell_other (h := fun he => hb (by simpa using congrArg Addr.block he)) ..]
    exact hc j y hj
theorem refCmp_z (q0 q1 q2 q3 : Nat) (hq : ok4 q0 q1 q2 q3) (z : Int) (h : cmpN (val4 q0 q1 q2 q3) 0 = z) (w : World) :
    Calls Tryd.prog 16 #[.agg #[.int .u64 q0, .int .u64 q1, .int .u64 q2, .int .u64 q3], .agg #[.int .u64 0, .int .u64 0, .int .u64 0, .int .u64 0]] w fun e w' => e = .returned (.int .i64 z) ∧ Below w.heap.size w w' := by
  have := refCmp_calls q0 q1 q2 q3 0 0 0 0 hq ⟨by omega, by omega, by omega, by omega⟩ w
  rw [show val4 0 0 0 0 = 0 from rfl, h] at this
  exact this

theorem own_new (w : World) (o : Obj) (d : Nat) (t : TypeId) : ((w.alloc o).alloc (.cells #[.int .u8 (d : Nat)] t)).ownsRow (w.heap.size + 1) t 1 (.slice (some ⟨w.heap.size + 1, 0, none⟩) 1 1) 1 [.int .u8 (d : Nat)] := by
  have := World.ownsRow_lit (base := (w.alloc o).heap.size) (e := t) (size := 1) (w.alloc o) #[.int .u8 (d : Nat)] 1 (Nat.le_refl _) (by unfold maxLen; omega) rfl
  simpa using this
theorem cmp_eq' {q : Nat} (h : q = 0) : cmpN q 0 = 0 := by unfold cmpN; rw [if_pos h]
theorem cmp_gt' {q : Nat} (h : 0 < q) : cmpN q 0 = 1 := by unfold cmpN; rw [if_neg (by omega), if_neg (by omega)]
theorem out_cell {w : World} {g c : Nat} {l : List UInt8} (h : OutIs w (.slice (some ⟨g, 0, none⟩) l.length c) l) (j : Nat) (hj : j < l.length) : w.cell? (Addr.add ⟨g, 0, none⟩ j) = some (.int .u8 (l[j].toNat : Int)) := by
  rcases h.src with ⟨e, _⟩ | ⟨ad, c', e, hc⟩
  · cases e
  · injection e with h1 _ _
    injection h1 with h1
    subst h1
    exact hc j _ (by unfold byteV; simp [hj])

set_option maxRecDepth 100000 in
set_option maxHeartbeats 4000000 in
theorem refPrint_calls (a0 a1 a2 a3 : Nat) (ha : ok4 a0 a1 a2 a3) (w : World) :
    Calls Tryd.prog 39 #[.agg #[.int .u64 a0, .int .u64 a1, .int .u64 a2, .int .u64 a3]] w fun e w' => e = .returned (.string ⟨(Lib.decDigits (val4 a0 a1 a2 a3)).toArray⟩) ∧ Below w.heap.size w w' := by
  obtain ⟨A, hA⟩ : ∃ A, A = val4 a0 a1 a2 a3 := ⟨_, rfl⟩
  rw [← hA]
  have HL := Lib.hid (dec_len78 (u := A) (by rw [hA]; exact val4_lt ha))
  have HA := Lib.hid hA
  clear hA
  obtain ⟨i0, hi, hz0, hz1, hz2⟩ := info_parts u8_info
  go_enter Tryd.func39, Tryd.ntmps39
  go_wp2_with fail
  go_loopg [4] A (fun k u wr => ∃ (v0 v1 v2 v3 : Nat) (l : List UInt8), ok4 v0 v1 v2 v3 ∧ Hid (val4 v0 v1 v2 v3 = k) ∧ Hid (Lib.decDigits A = Lib.decDigits k ++ l) ∧ OutIs wr u l ∧ Mem w wr [(w.heap.size + 1, 0, 0, 0, 0), (w.heap.size, v0, v1, v2, v3)])
  case atStart => exact ⟨a0, a1, a2, a3, [], ha, Lib.hid HA.out.symm, Lib.hid (by simp), Or.inl ⟨rfl, rfl⟩, ((Mem.nil w).new w.heap.size a0 a1 a2 a3 24 rfl).new (w.heap.size + 1) 0 0 0 0 24 (by simp)⟩
  case round =>
    obtain ⟨v0, v1, v2, v3, l, hv, ek, eL, out, mm⟩ := hrel
    have lT : l.length ≤ 78 := by
      have h1 := HL.out
      rw [eL.out, List.length_append] at h1
      omega
    have M := Lib.hid mm
    have O := Lib.hid out
    have kr := (mm.2 (w.heap.size, v0, v1, v2, v3) (by simp)).2
    have k0 := kr.c0; have k1 := kr.c1; have k2 := kr.c2; have k3 := kr.c3
    clear mm out kr
    go_wp2_with fail
    refine (refDiv_some v0 v1 v2 v3 10 hv (by omega) (by omega) _).mono ?_
    rintro e w1 ⟨q0, q1, q2, q3, r, c, rfl, hq, ⟨hq1, hr1, rfl⟩, hbl⟩
    rw [ek.out] at hq1 hr1
    have lr : r < 10 := by omega
    have M1 := Lib.hid ((M.out.on hbl).new w1.heap.size q0 q1 q2 q3 24 rfl)
    have O1 := Lib.hid ((O.out.on hbl).on ((Below.refl _ _).alloc (Nat.le_refl _) (.cells #[.int .u64 q0, .int .u64 q1, .int .u64 q2, .int .u64 q3] 24)))
    clear hbl M O k0 k1 k2 k3
    obtain ⟨d, hd, ld, hw, ed⟩ : ∃ d : Nat, (48 : Int) + (r : Int) = (d : Int) ∧ d < 58 ∧ IntKind.u8.wrap (d : Int) = (d : Int) ∧ (UInt8.ofNat (48 + r)).toNat = d :=
      ⟨48 + r, by omega, by omega, by simp only [IntKind.wrap, IntKind.bits, IntKind.signed]; simp; omega, dig_of lr⟩
    have HQ := Lib.hid hq1
    have HR := Lib.hid hr1
    have HD := Lib.hid ed
    have gz := (M1.out.2 (w.heap.size, v0, v1, v2, v3) (by simp)).1
    clear hq1 hr1 ed
    have gw : w.heap.size < w1.heap.size := by simp at gz; have h2 := (M1.out.2 (w.heap.size + 1, 0, 0, 0, 0) (by simp)).1; simp at h2; omega
    go_wp2_with (at_builtin; go_must (refine wpList_append_front rfl _ _ 47 rfl (w1.heap.size + 1) 5 i0 (.int .u8 0) 1 Tryd.underlying47 hi hz0 hz1 hz2 rfl _ 1 [.int .u8 (d : Nat)] rfl (own_new w1 _ d 5) _ (byteV l) rfl (O1.out.on ((Below.refl _ _).alloc (Nat.le_refl _) (.cells #[.int .u8 (d : Nat)] 5))).src ?c1 ?c2 ?c3 ?c4 ?_))
    case c1 =>
      intro y hy
      unfold byteV at hy
      obtain ⟨c, _, rfl⟩ := List.mem_map.1 hy
      rfl
    case c2 => rw [byteV_len]; unfold maxLen; omega
    case c3 => rw [byteV_len]; omega
    case c4 => simp
    intro u' w2 hown hgf
    obtain ⟨row, hgrow, hrow⟩ := hgf
    have hown' : w2.ownsRow (w1.heap.size + 1) 5 1 u' (UInt8.ofNat (48 + r) :: l).length (byteV (UInt8.ofNat (48 + r) :: l)) := by
      have e1 : (UInt8.ofNat (48 + r) :: l).length = 1 + (byteV l).length := by rw [byteV_len]; simp; omega
      have e2 : byteV (UInt8.ofNat (48 + r) :: l) = [.int .u8 (d : Nat)] ++ byteV l := by
        unfold byteV; rw [List.map_cons, HD.out]; rfl
      rw [e1, e2]; exact hown
    obtain ⟨out, g, cap, rfl, hg⟩ := OutIs.of (by simp) hown'
    have hB := ((Below.refl (w1.heap.size + 1) (w1.alloc (.cells #[.int .u64 q0, .int .u64 q1, .int .u64 q2, .int .u64 q3] 24))).alloc (by simp) (.cells #[.int .u8 (d : Nat)] 5)).grown hgrow (by simp) hrow
    have M2 := Lib.hid (M1.out.on (show Below (w1.alloc (.cells #[.int .u64 q0, .int .u64 q1, .int .u64 q2, .int .u64 q3] 24)).heap.size _ w2 by simpa using hB))
    have O2 := Lib.hid out
    clear hown hown' hgrow hrow hB M1 O1 out
    have kq := (M2.out.2 (w1.heap.size, q0, q1, q2, q3) (by simp)).2
    have ka := (M2.out.2 (w.heap.size, v0, v1, v2, v3) (by simp)).2
    have kz := (M2.out.2 (w.heap.size + 1, 0, 0, 0, 0) (by simp)).2
    have y0 := kq.c0; have y1 := kq.c1; have y2 := kq.c2; have y3 := kq.c3
    have x0 := ka.c0; have x1 := ka.c1; have x2 := ka.c2; have x3 := ka.c3; have xf := ka.fr
    have z0 := kz.c0; have z1 := kz.c1; have z2 := kz.c2; have z3 := kz.c3
    have M3 := Lib.hid (((M2.out.sub (rs' := [(w.heap.size, v0, v1, v2, v3), (w.heap.size + 1, 0, 0, 0, 0)]) (fun r h => by
      simp at h ⊢; rcases h with h | h <;> simp [h])).put q0 q1 q2 q3 (Nat.le_refl _) (by simp)).sub (rs' := [(w.heap.size + 1, 0, 0, 0, 0), (w.heap.size, q0, q1, q2, q3)]) (fun r h => by
      simp at h ⊢; rcases h with h | h <;> simp [h]))
    have O3 := Lib.hid (O2.out.other rfl (show w.heap.size ≠ g by omega) q0 q1 q2 q3)
    clear kq ka kz O2 M2
    have hE := HQ.out
    rcases Nat.eq_zero_or_pos (val4 q0 q1 q2 q3) with hz | hz
    · have HC := Lib.hid (fun w => refCmp_z q0 q1 q2 q3 hq 0 (cmp_eq' hz) w)
      have HF := Lib.hid (show Lib.decDigits A = UInt8.ofNat (48 + r) :: l by
        have h1 := HR.out
        rw [eL.out, Lib.decDigits_one (show gk < 10 by omega), show gk = r by omega]; rfl)
      clear hE hz
      go_wp2_with fail
      refine (HC.out _).mono ?_
      rintro e w4 ⟨rfl, hbl⟩
      have O4 := Lib.hid (O3.out.on hbl)
      have B4 := Lib.hid (M3.out.1.trans (hbl.mono M3.out.1.size))
      clear hbl M3 O3 x0 x1 x2 x3 xf y0 y1 y2 y3 z0 z1 z2 z3
      have hcv : (convert 47 9 (.slice (some ⟨g, 0, none⟩) (l.length + 1) cap)).run Tryd.prog w4 = .ok (.string ⟨(UInt8.ofNat (48 + r) :: l).toArray⟩) w4 := run_convert_bytes_back (P := Tryd.prog) w4 47 9 5 ⟨g, 0, none⟩ cap _ Tryd.underlying47 Tryd.underlying5 Tryd.underlying9 (out_cell O4.out)
      rw [← HF.out] at hcv
      go_wp2_with fail
      go_ret
      exact ⟨rfl, B4.out⟩
    · have HC := Lib.hid (fun w => refCmp_z q0 q1 q2 q3 hq 1 (cmp_gt' hz) w)
      have HN := Lib.hid (show Lib.decDigits A = Lib.decDigits (val4 q0 q1 q2 q3) ++ (UInt8.ofNat (48 + r) :: l) by
        have h1 := HR.out
        rw [eL.out, dec_step (show ¬ gk < 10 by omega), ← hE, ← h1, List.append_assoc]; rfl)
      have Hlt := Lib.hid (show val4 q0 q1 q2 q3 < gk by omega)
      clear hE hz
      go_wp2_with fail
      refine (HC.out _).mono ?_
      rintro e w4 ⟨rfl, hbl⟩
      have O4 := Lib.hid (O3.out.on hbl)
      have M4 := Lib.hid (M3.out.on hbl)
      clear hbl M3 O3 x0 x1 x2 x3 xf y0 y1 y2 y3 z0 z1 z2 z3
      go_wp2_with fail
      go_roundg (val4 q0 q1 q2 q3)
      case rel => exact ⟨q0, q1, q2, q3, UInt8.ofNat (48 + r) :: l, hq, Lib.hid rfl, HN, O4.out, M4.out⟩
      case measure => exact Hlt.out
end Go.Proofs.YtopahcobdfdnlaaDoor
