/-
  THE STATEMENT FieldOwn: for either field or none, any element, any list: what is answered is its holder's: written over, it changes no other answer: the law answers true. Conditions: words below 2^64; the list as it lies.
  THE STATEMENT FieldOwn, all its cases joined. Conditions: words below 2^64; the list as it lies.
  THE STATEMENT FieldOwn, lifted: for any arguments the law answers true and its arguments read as they did. Conditions: the row's own.
-/
import Derived.Test.YtalddekocfkbhaaInvs3
import Derived.Test.YtalddekocfkbhaaApi5
import Derived.Test.YtalddekocfkbhaaWorks
import Derived.Laws.BytesArg
import Derived.Laws.AppendOwn
import Derived.Laws.AppendOwnNone
import Derived.Laws.OwnMore
import Derived.Test.YtalddekocfkbhaaFRingA
import Derived.Test.YtalddekocfkbhaaProofF
import Derived.Test.YtalddekocfkbhaaProofL
namespace Go.Proofs.Ytalddekocfkbhaa
set_option linter.unusedVariables false
set_option linter.unusedSimpArgs false
open Go.RowKit Go.WideShapes

theorem u8_info' : (Try.prog.info? 5).map (fun i => (i.zero, i.size, i.bytes)) = some (some (.int .u8 0), 1, 1) := by kernel_rfl
def InvsSome (f : Int) (v : Value) (n : Nat) (W : World) : Prop :=
  ∀ w, Below W.heap.size W w → Calls Try.prog 34 #[.int .i64 f, v] w fun e w' => ∃ (bo : Nat) (O : Nat → Nat), e = .returned (.tuple #[.slice (some ⟨bo, 0, none⟩) n n, .int .i64 0]) ∧ w.heap.size ≤ bo ∧ bo < w'.heap.size ∧ RowIs w' bo (n * 4) O ∧ Below w.heap.size w w'
def InvsNone (f : Int) (v : Value) (c : Int) (W : World) : Prop :=
  ∀ w, Below W.heap.size W w → Calls Try.prog 34 #[.int .i64 f, v] w fun e w' => e = .returned (.tuple #[.slice none 0 0, .int .i64 c]) ∧ Below w.heap.size w w'
def BytesSome (f : Int) (a0 a1 a2 a3 : Nat) (A : Nat) : Prop :=
  ∀ w, Calls Try.prog 28 #[.int .i64 f, .agg #[.int .u64 a0, .int .u64 a1, .int .u64 a2, .int .u64 a3]] w (FBytes A w)
def BytesNone (f : Int) (a0 a1 a2 a3 : Nat) (c : Int) : Prop :=
  ∀ w, Calls Try.prog 28 #[.int .i64 f, .agg #[.int .u64 a0, .int .u64 a1, .int .u64 a2, .int .u64 a3]] w fun e w' => e = .returned (.tuple #[.slice none 0 0, .int .i64 c]) ∧ Below w.heap.size w w'

theorem conv_rowO {w : World} {b off cap : Nat} {B : Nat → Nat} (h : ∀ k, k < 32 → w.cell? ⟨b, off + k, none⟩ = some (.int .u8 (B k : Nat))) :
    (convert 46 9 (.slice (some ⟨b, off, none⟩) 32 cap)).run Try.prog w = .ok (.string (strOfNums ((List.range 32).map fun k => (B k : Int)))) w :=
  run_convert_bytes_arg (P := Try.prog) w 46 5 Try.underlying46 Try.underlying5 b off 32 cap _ (by simp) (fun i hi => by
    rw [h i hi]
    simp [List.getD, hi]) 9 Try.underlying9
theorem convN (w : World) : (convert 46 9 (.slice none 0 0)).run Try.prog w = .ok (.string ByteArray.empty) w :=
  run_convert_bytes_nil (P := Try.prog) w 46 5 Try.underlying46 Try.underlying5 0 0 9 Try.underlying9
theorem convE (b : Nat) (w : World) : (convert 46 9 (.slice (some ⟨b, 0, none⟩) 0 0)).run Try.prog w = .ok (.string ByteArray.empty) w :=
  run_convert_bytes_arg (P := Try.prog) w 46 5 Try.underlying46 Try.underlying5 b 0 0 0 [] rfl (fun i hi => absurd hi (by omega)) 9 Try.underlying9
/-- what a row owns: its head, and its cells -/
theorem own_any {w : World} {base : Nat} {e : TypeId} {size : Nat} {v : Value} {n : Nat} {xs : List Value} (h : w.ownsRow base e size v n xs) :
    ∃ ao cap, v = .slice ao n cap ∧ (0 < n → ∃ g, ao = some ⟨g, 0, none⟩ ∧ base ≤ g ∧ g < w.heap.size ∧ ∀ k, k < n * size → w.cell? ⟨g, k, none⟩ = xs[k]?) := by
  obtain ⟨h1, h2⟩ := h
  rcases h2 with ⟨rfl, rfl⟩ | ⟨g, cap, cur, rfl, hg, hb, hr⟩
  · exact ⟨none, 0, rfl, fun h => absurd h (by omega)⟩
  · refine ⟨some ⟨g, 0, none⟩, cap, rfl, fun _ => ⟨g, rfl, hg, ?_, fun k hk => ?_⟩⟩
    · exact (World.ownsRow.lt ⟨h1, .inr ⟨g, cap, cur, rfl, hg, hb, hr⟩⟩ g rfl).2
    · exact World.ownsRow.cellAt (base := base) (e := e) (size := size) (cap := cap) ⟨h1, .inr ⟨g, cap, cur, rfl, hg, hb, hr⟩⟩ k hk
theorem own_geO {w : World} {base : Nat} {e : TypeId} {size : Nat} {v : Value} {n : Nat} {xs : List Value} (h : w.ownsRow base e size v n xs) (k : Nat) (hk : v.ownBlock = some k) : base ≤ k := (World.ownsRow.lt h k hk).1

set_option maxRecDepth 100000 in
set_option maxHeartbeats 8000000 in
theorem own_11 (f : Int) (a0 a1 a2 a3 A : Nat) (v : Value) (w : World) (n : Nat) (hn : n ≤ 65536) (hI : InvsSome f v n w) (hB : BytesSome f a0 a1 a2 a3 A) :
    Calls Try.prog 6 #[.int .i64 f, .agg #[.int .u64 a0, .int .u64 a1, .int .u64 a2, .int .u64 a3], v] w fun e w' => e = .returned (.bool true) ∧ Below w.heap.size w w' := by
  have hG := eqGuardF
  have hS := equalSelfF
  have HI := Lib.hid hI
  have HBy := Lib.hid hB
  clear hI hB
  obtain ⟨iF, hiF, hF0, hF1, hF2⟩ := fe_info
  obtain ⟨i8, hi8, h80, h81, h82⟩ := info_parts u8_info'
  obtain ⟨nb, hnb⟩ : ∃ nb, nb = (List.range 32).map fun k => Value.int .u8 (byteAt A k : Nat) := ⟨_, rfl⟩
  have NL := Lib.hid (show nb.length = 32 * 1 by rw [hnb]; simp)
  have NG := Lib.hid (show ∀ j, j < 32 → nb[j]? = some (Value.int .u8 (byteAt A j : Nat)) from fun j hj => by
    rw [hnb, List.getElem?_map, List.getElem?_range hj]
    rfl)
  have N1 := Lib.hid (show ∀ u ∈ nb, u.oneCell' = true from fun u hu => by
    rw [hnb] at hu
    obtain ⟨_, _, rfl⟩ := List.mem_map.1 hu
    rfl)
  clear hnb
  go_enter Try.func6, Try.ntmps6
  go_wp2_with fail
  have M0 := Lib.hid ((Mem.nil w).new (w.heap.size) a0 a1 a2 a3 25 (by simp))
  refine (works_calls _).mono ?_
  rintro e w1 ⟨rfl, hbl⟩
  have M1 := Lib.hid (M0.out.on hbl)
  clear hbl M0
  go_wp2_with fail
  refine (HI.out _ M1.out.1).mono ?_
  rintro e w2 ⟨bx, O, rfl, hx1, hx2, hx3, hbl⟩
  have RX2 := Lib.hid hx3
  have M2 := Lib.hid (M1.out.on hbl)
  clear hx3 hbl M1
  have kr := M2.out.row (b := w.heap.size) (c0 := a0) (c1 := a1) (c2 := a2) (c3 := a3) (by simp)
  have Fa0 := kr.c0; have Fa1 := kr.c1; have Fa2 := kr.c2; have Fa3 := kr.c3
  clear kr
  have Fal := M2.out.lt (b := w.heap.size) (c0 := a0) (c1 := a1) (c2 := a2) (c3 := a3) (by simp)
  go_wp2_with fail
  refine (HBy.out _).mono ?_
  rintro e w3 ⟨bb, rfl, hb1, hb2, hb3, hbl⟩
  have RX3 := Lib.hid (RX2.out.below hbl hx2)
  have lx3 : bx < w3.heap.size := Nat.lt_of_lt_of_le hx2 hbl.size
  have RB3 := Lib.hid hb3
  have M3 := Lib.hid (M2.out.on hbl)
  clear hb3 hbl M2 RX2 Fa0 Fa1 Fa2 Fa3 Fal hx2
  go_wp2_with (at_builtin; refine wpList_append_own _ rfl _ _ 57 rfl (w3.heap.size) 25 iF (.agg #[.int .u64 0, .int .u64 0, .int .u64 0, .int .u64 0]) 4 32 Try.underlying57 hiF hF0 hF1 hF2 rfl (by decide) _ 0 [] rfl (World.ownsRow_lit w3 #[] 0 (Nat.le_refl _) (by decide) rfl) ⟨bx, 0, none⟩ n n ((List.range (n * 4)).map fun k => Value.int .u64 (O k : Nat)) rfl (by simp) ?c1 ?c2 ?c3 ?c4 ?c5 ?_)
  case c1 =>
    intro j u hj
    have hj2 : j < n * 4 := by have := (List.getElem?_eq_some_iff.1 hj).1; simpa using this
    have e : u = Value.int .u64 (O j : Nat) := by simpa [hj2] using hj.symm
    subst e
    have := ((RX3.out.alloc lx3 (.cells #[] 25)).cell hj2)
    rw [add_plain, Nat.zero_add]
    exact this
  case c2 =>
    intro u hu
    simp at hu
    obtain ⟨_, _, rfl⟩ := hu
    rfl
  case c3 => unfold maxLen; omega
  case c4 => omega
  case c5 => simp
  intro v1 w4 hown hgrow hne
  have B4 := Lib.hid (((Below.refl w3.heap.size w3).alloc (Nat.le_refl _) (.cells #[] 25)).grown hgrow (by simp) (fun k hk => own_geO (World.ownsRow_lit (base := w3.heap.size) (e := 25) (size := 4) w3 #[] 0 (Nat.le_refl _) (by decide) rfl) k hk))
  obtain ⟨ao, cap1, rfl, hp⟩ := own_any hown
  have HP4 := Lib.hid hp
  have M4 := Lib.hid (M3.out.on B4.out)
  have RX4 := Lib.hid (RX3.out.below B4.out lx3)
  have lx4 : bx < w4.heap.size := Nat.lt_of_lt_of_le lx3 B4.out.size
  have RB4 := Lib.hid (RB3.out.below B4.out hb2)
  have lb4 : bb < w4.heap.size := Nat.lt_of_lt_of_le hb2 B4.out.size
  clear hown hgrow hne hp M3 RX3 lx3 RB3 B4 hb1 hb2
  go_wp2_with (at_builtin; refine wpList_append_own _ rfl _ _ 46 rfl (w4.heap.size) 5 i8 (.int .u8 0) 1 1 Try.underlying46 hi8 h80 h81 h82 rfl (by decide) _ 0 [] rfl (World.ownsRow_lit w4 #[] 0 (Nat.le_refl _) (by decide) rfl) ⟨bb, 0, none⟩ 32 32 nb rfl NL.out ?c1 N1.out ?c3 ?c4 ?c5 ?_)
  case c1 =>
    intro j u hj
    have hj2 : j < 32 := by have h := (List.getElem?_eq_some_iff.1 hj).1; have := NL.out; omega
    have e : some u = some (Value.int .u8 (byteAt A j : Nat)) := hj.symm.trans (NG.out j hj2)
    obtain rfl := Option.some.inj e
    have := ((RB4.out.below ((Below.refl w4.heap.size w4).alloc (Nat.le_refl _) (.cells #[] 5)) lb4) j hj2).1
    rw [add_plain, Nat.zero_add]
    exact this
  case c3 => unfold maxLen; omega
  case c4 => omega
  case c5 => simp
  intro v2 w5 hown hgrow hne
  have B5 := Lib.hid (((Below.refl w4.heap.size w4).alloc (Nat.le_refl _) (.cells #[] 5)).grown hgrow (by simp) (fun k hk => own_geO (World.ownsRow_lit (base := w4.heap.size) (e := 5) (size := 1) w4 #[] 0 (Nat.le_refl _) (by decide) rfl) k hk))
  obtain ⟨ao2, cap2, rfl, hp⟩ := own_any hown
  obtain ⟨gq, rfl, hq1, hq2, hq3⟩ := hp (by omega)
  have HQ5 := Lib.hid (show ∀ k, k < 32 → w5.cell? ⟨gq, 0 + k, none⟩ = some (.int .u8 (byteAt A k : Nat)) from fun k hk => by
    rw [Nat.zero_add, hq3 k (by omega), NG.out k hk])
  have M5 := Lib.hid (M4.out.on B5.out)
  have RX5 := Lib.hid (RX4.out.below B5.out lx4)
  have lx5 : bx < w5.heap.size := Nat.lt_of_lt_of_le lx4 B5.out.size
  have RB5 := Lib.hid (RB4.out.below B5.out lb4)
  have lb5 : bb < w5.heap.size := Nat.lt_of_lt_of_le lb4 B5.out.size
  have HP5 := Lib.hid (show 0 < n → ∃ g, ao = some ⟨g, 0, none⟩ ∧ g < w5.heap.size ∧ ∀ k, k < n * 4 → w5.cell? ⟨g, k, none⟩ = some (.int .u64 (O k : Nat)) from fun h => by
    obtain ⟨g, e, _, l, hc⟩ := HP4.out h
    refine ⟨g, e, Nat.lt_of_lt_of_le l B5.out.size, fun k hk => ?_⟩
    rw [B5.out.cell (p := ⟨g, k, none⟩) l, hc k hk]
    simp [hk])
  clear hown hgrow hne hp M4 RX4 lx4 RB4 lb4 B5 hq1 hq3 HP4
  go_wp2_with fail
  refine (HI.out _ M5.out.1).mono ?_
  rintro e w6 ⟨bz, Oz, rfl, hz1, hz2, hz3, hbl⟩
  have M6 := Lib.hid (M5.out.on hbl)
  have N6 := Lib.hid ((Mem.nil w5).on hbl)
  have WB := Lib.hid M5.out.1
  have RZ6 := Lib.hid hz3
  clear hz3 hbl M5
  have kr := M6.out.row (b := w.heap.size) (c0 := a0) (c1 := a1) (c2 := a2) (c3 := a3) (by simp)
  have Fa0 := kr.c0; have Fa1 := kr.c1; have Fa2 := kr.c2; have Fa3 := kr.c3
  clear kr
  have Fal := M6.out.lt (b := w.heap.size) (c0 := a0) (c1 := a1) (c2 := a2) (c3 := a3) (by simp)
  go_wp2_with fail
  refine (HBy.out _).mono ?_
  rintro e w7 ⟨bt, rfl, ht1, ht2, ht3, hbl⟩
  have N7 := Lib.hid (N6.out.on hbl)
  have RZ7 := Lib.hid (RZ6.out.below hbl hz2)
  have lz7 : bz < w7.heap.size := Nat.lt_of_lt_of_le hz2 hbl.size
  have nzt : bz ≠ bt := by omega
  have z5 : w5.heap.size ≤ bt := by have := N6.out.1.size; omega
  have RT7 := Lib.hid ht3
  clear ht3 hbl M6 N6 RZ6 Fa0 Fa1 Fa2 Fa3 Fal
  go_wp2_with fail
  go_loopw [17] (fun t wr => ∃ (k : Nat) (P : Nat → Nat), k ≤ n ∧ t = .int .i64 k ∧ bz < wr.heap.size ∧ bt < wr.heap.size ∧ Hid (RowIs wr bz (n * 4) P) ∧ Hid (RowB wr bt 32 (byteAt A)) ∧ Hid (Mem w5 wr [])) (fun t _ => n - (intOf t).toNat)
  case atStart => exact ⟨0, _, Nat.zero_le _, rfl, lz7, ht2, RZ7, RT7, N7⟩
  case round =>
    obtain ⟨k, P, hk, rfl, lz, lt, RZ, RT, N⟩ := hrel
    clear RZ7 RT7 N7
    by_cases hlt : k < n
    · have i0 := RZ.out.cell (i := k * 4) (by omega); have i1 := RZ.out.cell (i := k * 4 + 1) (by omega); have i2 := RZ.out.cell (i := k * 4 + 2) (by omega); have i3 := RZ.out.cell (i := k * 4 + 3) (by omega)
      have f0 := RZ.out.free (i := k * 4) (by omega); have f1 := RZ.out.free (i := k * 4 + 1) (by omega); have f2 := RZ.out.free (i := k * 4 + 2) (by omega); have f3 := RZ.out.free (i := k * 4 + 3) (by omega)
      have RN := Lib.hid (RZ.out.putP hlt 1 2 3 4)
      have TN := Lib.hid ((((RT.out.other (i := k * 4) nzt (.int .u64 ((1 : Nat) : Int))).other (i := k * 4 + 1) nzt (.int .u64 ((2 : Nat) : Int))).other (i := k * 4 + 2) nzt (.int .u64 ((3 : Nat) : Int))).other (i := k * 4 + 3) nzt (.int .u64 ((4 : Nat) : Int)))
      have NN := Lib.hid ((((N.out.poke (i := k * 4) hz1 (fun r hr => by cases hr) (.int .u64 ((1 : Nat) : Int))).poke (i := k * 4 + 1) hz1 (fun r hr => by cases hr) (.int .u64 ((2 : Nat) : Int))).poke (i := k * 4 + 2) hz1 (fun r hr => by cases hr) (.int .u64 ((3 : Nat) : Int))).poke (i := k * 4 + 3) hz1 (fun r hr => by cases hr) (.int .u64 ((4 : Nat) : Int)))
      go_wp2_with fail
      go_roundw
      case rel => exact ⟨k + 1, _, by omega, by go_num, by simp only [World.size_setCell]; exact lz, by simp only [World.size_setCell]; exact lt, RN, TN, NN⟩
      case measure => simp [intOf]; omega
    · obtain rfl : n = k := by omega
      obtain ⟨wo, rfl⟩ : ∃ wo, wo = wr := ⟨_, rfl⟩
      clear RZ lz hk hlt
      go_wp2_with fail
      go_loopw [18] (fun t wr => ∃ (k : Nat) (P : Nat → Nat), k ≤ 32 ∧ t = .int .i64 k ∧ bt < wr.heap.size ∧ Hid (RowB wr bt 32 P) ∧ Hid (Mem w5 wr [])) (fun t _ => 32 - (intOf t).toNat)
      case atStart => exact ⟨0, _, Nat.zero_le _, rfl, lt, RT, N⟩
      case round =>
        obtain ⟨k, P, hk, rfl, lt, RT, N⟩ := hrel
        by_cases hlt : k < 32
        · have i0 := (RT.out k hlt).1
          have f0 := (RT.out k hlt).2
          have TN := Lib.hid (RT.out.set (v := 85) hlt)
          have NN := Lib.hid (N.out.poke (i := k) z5 (fun r hr => by cases hr) (.int .u8 ((85 : Nat) : Int)))
          go_wp2_with fail
          go_roundw
          case rel => exact ⟨k + 1, _, by omega, by go_num, by simp only [World.size_setCell]; exact lt, TN, NN⟩
          case measure => simp [intOf]; omega
        · obtain rfl : k = 32 := by omega
          obtain ⟨wq, rfl⟩ : ∃ wq, wq = wr := ⟨_, rfl⟩
          clear RT lt hk hlt
          go_wp2_with fail
          go_loopw [19] (fun t wr => ∃ (k : Nat), k ≤ n ∧ t = .int .i64 k ∧ Hid (Mem w5 wr [])) (fun t _ => n - (intOf t).toNat)
          case atStart => exact ⟨0, Nat.zero_le _, rfl, N⟩
          case round =>
            obtain ⟨k, hk, rfl, N⟩ := hrel
            by_cases hlt : k < n
            · obtain ⟨gp, rfl, lp, hpc⟩ := HP5.out (by omega)
              obtain ⟨o0, e0⟩ : ∃ o0, o0 = O (k * 4) := ⟨_, rfl⟩
              obtain ⟨o1, e1⟩ : ∃ o1, o1 = O (k * 4 + 1) := ⟨_, rfl⟩
              obtain ⟨o2, e2⟩ : ∃ o2, o2 = O (k * 4 + 2) := ⟨_, rfl⟩
              obtain ⟨o3, e3⟩ : ∃ o3, o3 = O (k * 4 + 3) := ⟨_, rfl⟩
              have RX := RX5.out.below N.out.1 lx5
              have c0 := RX.cell (i := k * 4) (by omega); have c1 := RX.cell (i := k * 4 + 1) (by omega); have c2 := RX.cell (i := k * 4 + 2) (by omega); have c3 := RX.cell (i := k * 4 + 3) (by omega)
              have d0 := (N.out.1.cell (p := ⟨gp, k * 4, none⟩) lp).trans (hpc (k * 4) (by omega)); have d1 := (N.out.1.cell (p := ⟨gp, k * 4 + 1, none⟩) lp).trans (hpc (k * 4 + 1) (by omega)); have d2 := (N.out.1.cell (p := ⟨gp, k * 4 + 2, none⟩) lp).trans (hpc (k * 4 + 2) (by omega)); have d3 := (N.out.1.cell (p := ⟨gp, k * 4 + 3, none⟩) lp).trans (hpc (k * 4 + 3) (by omega))
              rw [← e0] at c0 d0
              rw [← e1] at c1 d1
              rw [← e2] at c2 d2
              rw [← e3] at c3 d3
              clear e0 e1 e2 e3 hpc RX
              go_wp2_with fail
              go_region
              all_goals (go_wp2_with fail)
              all_goals (go_roundw)
              case rel => exact ⟨k + 1, by omega, by go_num, Lib.hid (show Mem w5 wr.drew [] from N.out.drewN 1)⟩
              case measure => simp [intOf]; omega
            · obtain rfl : n = k := by omega
              obtain ⟨wv, rfl⟩ : ∃ wv, wv = wr := ⟨_, rfl⟩
              obtain ⟨s, hs⟩ : ∃ s, s = strOfNums ((List.range 32).map fun k => (byteAt A k : Int)) := ⟨_, rfl⟩
              have hc1 : (convert 46 9 (.slice (some ⟨bb, 0, none⟩) 32 32)).run Try.prog wv = .ok (.string s) wv := by
                rw [hs]
                refine conv_rowO (fun k hk => ?_)
                rw [Nat.zero_add]
                exact ((RB5.out.below N.out.1 lb5) k hk).1
              have hc2 : (convert 46 9 (.slice (some ⟨gq, 0, none⟩) 32 cap2)).run Try.prog wv = .ok (.string s) wv := by
                rw [hs]
                refine conv_rowO (fun k hk => ?_)
                rw [N.out.1.cell (p := ⟨gq, 0 + k, none⟩) hq2]
                exact HQ5.out k hk
              clear hs
              go_wp2_with fail
              go_ret
              exact ⟨rfl, WB.out.trans (N.out.1.mono WB.out.size)⟩
set_option maxRecDepth 100000 in
set_option maxHeartbeats 8000000 in
theorem own_10 (f : Int) (a0 a1 a2 a3 : Nat) (v : Value) (w : World) (n : Nat) (hn : n ≤ 65536) (hI : InvsSome f v n w) (cb : Int) (hB : BytesNone f a0 a1 a2 a3 cb) :
    Calls Try.prog 6 #[.int .i64 f, .agg #[.int .u64 a0, .int .u64 a1, .int .u64 a2, .int .u64 a3], v] w fun e w' => e = .returned (.bool true) ∧ Below w.heap.size w w' := by
  have hG := eqGuardF
  have hS := equalSelfF
  have HI := Lib.hid hI
  have HBy := Lib.hid hB
  clear hI hB
  obtain ⟨iF, hiF, hF0, hF1, hF2⟩ := fe_info
  obtain ⟨i8, hi8, h80, h81, h82⟩ := info_parts u8_info'
  have hcN := convN
  have hcE := convE
  go_enter Try.func6, Try.ntmps6
  go_wp2_with fail
  have M0 := Lib.hid ((Mem.nil w).new (w.heap.size) a0 a1 a2 a3 25 (by simp))
  refine (works_calls _).mono ?_
  rintro e w1 ⟨rfl, hbl⟩
  have M1 := Lib.hid (M0.out.on hbl)
  clear hbl M0
  go_wp2_with fail
  refine (HI.out _ M1.out.1).mono ?_
  rintro e w2 ⟨bx, O, rfl, hx1, hx2, hx3, hbl⟩
  have RX2 := Lib.hid hx3
  have M2 := Lib.hid (M1.out.on hbl)
  clear hx3 hbl M1
  have kr := M2.out.row (b := w.heap.size) (c0 := a0) (c1 := a1) (c2 := a2) (c3 := a3) (by simp)
  have Fa0 := kr.c0; have Fa1 := kr.c1; have Fa2 := kr.c2; have Fa3 := kr.c3
  clear kr
  have Fal := M2.out.lt (b := w.heap.size) (c0 := a0) (c1 := a1) (c2 := a2) (c3 := a3) (by simp)
  go_wp2_with fail
  refine (HBy.out _).mono ?_
  rintro e w3 ⟨rfl, hbl⟩
  have RX3 := Lib.hid (RX2.out.below hbl hx2)
  have lx3 : bx < w3.heap.size := Nat.lt_of_lt_of_le hx2 hbl.size
  have M3 := Lib.hid (M2.out.on hbl)
  clear hbl M2 RX2 Fa0 Fa1 Fa2 Fa3 Fal hx2
  go_wp2_with (at_builtin; refine wpList_append_own _ rfl _ _ 57 rfl (w3.heap.size) 25 iF (.agg #[.int .u64 0, .int .u64 0, .int .u64 0, .int .u64 0]) 4 32 Try.underlying57 hiF hF0 hF1 hF2 rfl (by decide) _ 0 [] rfl (World.ownsRow_lit w3 #[] 0 (Nat.le_refl _) (by decide) rfl) ⟨bx, 0, none⟩ n n ((List.range (n * 4)).map fun k => Value.int .u64 (O k : Nat)) rfl (by simp) ?c1 ?c2 ?c3 ?c4 ?c5 ?_)
  case c1 =>
    intro j u hj
    have hj2 : j < n * 4 := by have := (List.getElem?_eq_some_iff.1 hj).1; simpa using this
    have e : u = Value.int .u64 (O j : Nat) := by simpa [hj2] using hj.symm
    subst e
    have := ((RX3.out.alloc lx3 (.cells #[] 25)).cell hj2)
    rw [add_plain, Nat.zero_add]
    exact this
  case c2 =>
    intro u hu
    simp at hu
    obtain ⟨_, _, rfl⟩ := hu
    rfl
  case c3 => unfold maxLen; omega
  case c4 => omega
  case c5 => simp
  intro v1 w4 hown hgrow hne
  have B4 := Lib.hid (((Below.refl w3.heap.size w3).alloc (Nat.le_refl _) (.cells #[] 25)).grown hgrow (by simp) (fun k hk => own_geO (World.ownsRow_lit (base := w3.heap.size) (e := 25) (size := 4) w3 #[] 0 (Nat.le_refl _) (by decide) rfl) k hk))
  obtain ⟨ao, cap1, rfl, hp⟩ := own_any hown
  have HP4 := Lib.hid hp
  have M4 := Lib.hid (M3.out.on B4.out)
  have RX4 := Lib.hid (RX3.out.below B4.out lx3)
  have lx4 : bx < w4.heap.size := Nat.lt_of_lt_of_le lx3 B4.out.size
  clear hown hgrow hne hp M3 RX3 lx3 B4
  go_wp2_with fail
  obtain ⟨w5, hw5⟩ : ∃ w5, w5 = w4.alloc (.cells #[] 5) := ⟨_, rfl⟩
  have B5 := Lib.hid (show Below w4.heap.size w4 w5 by rw [hw5]; exact (Below.refl w4.heap.size w4).alloc (Nat.le_refl _) _)
  have M5 := Lib.hid (M4.out.on B5.out)
  have RX5 := Lib.hid (RX4.out.below B5.out lx4)
  have lx5 : bx < w5.heap.size := Nat.lt_of_lt_of_le lx4 B5.out.size
  have HP5 := Lib.hid (show 0 < n → ∃ g, ao = some ⟨g, 0, none⟩ ∧ g < w5.heap.size ∧ ∀ k, k < n * 4 → w5.cell? ⟨g, k, none⟩ = some (.int .u64 (O k : Nat)) from fun h => by
    obtain ⟨g, e, _, l, hc⟩ := HP4.out h
    refine ⟨g, e, Nat.lt_of_lt_of_le l B5.out.size, fun k hk => ?_⟩
    rw [B5.out.cell (p := ⟨g, k, none⟩) l, hc k hk]
    simp [hk])
  clear RX4 lx4 HP4
  rw [← hw5]
  clear hw5 B5 M4
  refine (HI.out _ M5.out.1).mono ?_
  rintro e w6 ⟨bz, Oz, rfl, hz1, hz2, hz3, hbl⟩
  have M6 := Lib.hid (M5.out.on hbl)
  have N6 := Lib.hid ((Mem.nil w5).on hbl)
  have WB := Lib.hid M5.out.1
  have RZ6 := Lib.hid hz3
  clear hz3 hbl M5
  have kr := M6.out.row (b := w.heap.size) (c0 := a0) (c1 := a1) (c2 := a2) (c3 := a3) (by simp)
  have Fa0 := kr.c0; have Fa1 := kr.c1; have Fa2 := kr.c2; have Fa3 := kr.c3
  clear kr
  have Fal := M6.out.lt (b := w.heap.size) (c0 := a0) (c1 := a1) (c2 := a2) (c3 := a3) (by simp)
  go_wp2_with fail
  refine (HBy.out _).mono ?_
  rintro e w7 ⟨rfl, hbl⟩
  have N7 := Lib.hid (N6.out.on hbl)
  have RZ7 := Lib.hid (RZ6.out.below hbl hz2)
  have lz7 : bz < w7.heap.size := Nat.lt_of_lt_of_le hz2 hbl.size
  clear hbl M6 N6 RZ6 Fa0 Fa1 Fa2 Fa3 Fal
  go_wp2_with fail
  go_loopw [17] (fun t wr => ∃ (k : Nat) (P : Nat → Nat), k ≤ n ∧ t = .int .i64 k ∧ bz < wr.heap.size ∧ Hid (RowIs wr bz (n * 4) P) ∧ Hid (Mem w5 wr [])) (fun t _ => n - (intOf t).toNat)
  case atStart => exact ⟨0, _, Nat.zero_le _, rfl, lz7, RZ7, N7⟩
  case round =>
    obtain ⟨k, P, hk, rfl, lz, RZ, N⟩ := hrel
    clear RZ7 N7
    by_cases hlt : k < n
    · have i0 := RZ.out.cell (i := k * 4) (by omega); have i1 := RZ.out.cell (i := k * 4 + 1) (by omega); have i2 := RZ.out.cell (i := k * 4 + 2) (by omega); have i3 := RZ.out.cell (i := k * 4 + 3) (by omega)
      have f0 := RZ.out.free (i := k * 4) (by omega); have f1 := RZ.out.free (i := k * 4 + 1) (by omega); have f2 := RZ.out.free (i := k * 4 + 2) (by omega); have f3 := RZ.out.free (i := k * 4 + 3) (by omega)
      have RN := Lib.hid (RZ.out.putP hlt 1 2 3 4)
      have NN := Lib.hid ((((N.out.poke (i := k * 4) hz1 (fun r hr => by cases hr) (.int .u64 ((1 : Nat) : Int))).poke (i := k * 4 + 1) hz1 (fun r hr => by cases hr) (.int .u64 ((2 : Nat) : Int))).poke (i := k * 4 + 2) hz1 (fun r hr => by cases hr) (.int .u64 ((3 : Nat) : Int))).poke (i := k * 4 + 3) hz1 (fun r hr => by cases hr) (.int .u64 ((4 : Nat) : Int)))
      go_wp2_with fail
      go_roundw
      case rel => exact ⟨k + 1, _, by omega, by go_num, by simp only [World.size_setCell]; exact lz, RN, NN⟩
      case measure => simp [intOf]; omega
    · obtain rfl : n = k := by omega
      obtain ⟨wo, rfl⟩ : ∃ wo, wo = wr := ⟨_, rfl⟩
      clear RZ lz hk hlt
      go_wp2_with fail
      refine wp_loop_rounds 2 ?_
      rw [rounds_succ]
      go_wp2_with fail
      go_loopw [19] (fun t wr => ∃ (k : Nat), k ≤ n ∧ t = .int .i64 k ∧ Hid (Mem w5 wr [])) (fun t _ => n - (intOf t).toNat)
      case atStart => exact ⟨0, Nat.zero_le _, rfl, N⟩
      case round =>
        obtain ⟨k, hk, rfl, N⟩ := hrel
        by_cases hlt : k < n
        · obtain ⟨gp, rfl, lp, hpc⟩ := HP5.out (by omega)
          obtain ⟨o0, e0⟩ : ∃ o0, o0 = O (k * 4) := ⟨_, rfl⟩
          obtain ⟨o1, e1⟩ : ∃ o1, o1 = O (k * 4 + 1) := ⟨_, rfl⟩
          obtain ⟨o2, e2⟩ : ∃ o2, o2 = O (k * 4 + 2) := ⟨_, rfl⟩
          obtain ⟨o3, e3⟩ : ∃ o3, o3 = O (k * 4 + 3) := ⟨_, rfl⟩
          have RX := RX5.out.below N.out.1 lx5
          have c0 := RX.cell (i := k * 4) (by omega); have c1 := RX.cell (i := k * 4 + 1) (by omega); have c2 := RX.cell (i := k * 4 + 2) (by omega); have c3 := RX.cell (i := k * 4 + 3) (by omega)
          have d0 := (N.out.1.cell (p := ⟨gp, k * 4, none⟩) lp).trans (hpc (k * 4) (by omega)); have d1 := (N.out.1.cell (p := ⟨gp, k * 4 + 1, none⟩) lp).trans (hpc (k * 4 + 1) (by omega)); have d2 := (N.out.1.cell (p := ⟨gp, k * 4 + 2, none⟩) lp).trans (hpc (k * 4 + 2) (by omega)); have d3 := (N.out.1.cell (p := ⟨gp, k * 4 + 3, none⟩) lp).trans (hpc (k * 4 + 3) (by omega))
          rw [← e0] at c0 d0
          rw [← e1] at c1 d1
          rw [← e2] at c2 d2
          rw [← e3] at c3 d3
          clear e0 e1 e2 e3 hpc RX
          go_wp2_with fail
          go_region
          all_goals (go_wp2_with fail)
          all_goals (go_roundw)
          case rel => exact ⟨k + 1, by omega, by go_num, Lib.hid (show Mem w5 wr.drew [] from N.out.drewN 1)⟩
          case measure => simp [intOf]; omega
        · obtain rfl : n = k := by omega
          obtain ⟨wv, rfl⟩ : ∃ wv, wv = wr := ⟨_, rfl⟩
          go_wp2_with fail
          go_ret
          exact ⟨rfl, WB.out.trans (N.out.1.mono WB.out.size)⟩
set_option maxRecDepth 100000 in
set_option maxHeartbeats 8000000 in
theorem own_01 (f : Int) (a0 a1 a2 a3 A : Nat) (v : Value) (w : World) (cl : Int) (hI : InvsNone f v cl w) (hB : BytesSome f a0 a1 a2 a3 A) :
    Calls Try.prog 6 #[.int .i64 f, .agg #[.int .u64 a0, .int .u64 a1, .int .u64 a2, .int .u64 a3], v] w fun e w' => e = .returned (.bool true) ∧ Below w.heap.size w w' := by
  have hG := eqGuardF
  have hS := equalSelfF
  have HI := Lib.hid hI
  have HBy := Lib.hid hB
  clear hI hB
  obtain ⟨iF, hiF, hF0, hF1, hF2⟩ := fe_info
  obtain ⟨i8, hi8, h80, h81, h82⟩ := info_parts u8_info'
  obtain ⟨nb, hnb⟩ : ∃ nb, nb = (List.range 32).map fun k => Value.int .u8 (byteAt A k : Nat) := ⟨_, rfl⟩
  have NL := Lib.hid (show nb.length = 32 * 1 by rw [hnb]; simp)
  have NG := Lib.hid (show ∀ j, j < 32 → nb[j]? = some (Value.int .u8 (byteAt A j : Nat)) from fun j hj => by
    rw [hnb, List.getElem?_map, List.getElem?_range hj]
    rfl)
  have N1 := Lib.hid (show ∀ u ∈ nb, u.oneCell' = true from fun u hu => by
    rw [hnb] at hu
    obtain ⟨_, _, rfl⟩ := List.mem_map.1 hu
    rfl)
  clear hnb
  go_enter Try.func6, Try.ntmps6
  go_wp2_with fail
  have M0 := Lib.hid ((Mem.nil w).new (w.heap.size) a0 a1 a2 a3 25 (by simp))
  refine (works_calls _).mono ?_
  rintro e w1 ⟨rfl, hbl⟩
  have M1 := Lib.hid (M0.out.on hbl)
  clear hbl M0
  go_wp2_with fail
  refine (HI.out _ M1.out.1).mono ?_
  rintro e w2 ⟨rfl, hbl⟩
  have M2 := Lib.hid (M1.out.on hbl)
  clear hbl M1
  have kr := M2.out.row (b := w.heap.size) (c0 := a0) (c1 := a1) (c2 := a2) (c3 := a3) (by simp)
  have Fa0 := kr.c0; have Fa1 := kr.c1; have Fa2 := kr.c2; have Fa3 := kr.c3
  clear kr
  have Fal := M2.out.lt (b := w.heap.size) (c0 := a0) (c1 := a1) (c2 := a2) (c3 := a3) (by simp)
  go_wp2_with fail
  refine (HBy.out _).mono ?_
  rintro e w3 ⟨bb, rfl, hb1, hb2, hb3, hbl⟩
  have RB3 := Lib.hid hb3
  have M3 := Lib.hid (M2.out.on hbl)
  clear hb3 hbl M2 Fa0 Fa1 Fa2 Fa3 Fal
  have HLIT := Lib.hid (show ((w3.alloc (.cells #[] 25)).alloc (.cells #[] 5)).ownsRow (w3.heap.size + 1) 5 1 (.slice (some ⟨w3.heap.size + 1, 0, none⟩) 0 0) 0 [] from by
    have h := World.ownsRow_lit (base := w3.heap.size + 1) (e := 5) (size := 1) (w3.alloc (.cells #[] 25)) #[] 0 (by simp) (by decide) rfl
    simpa using h)
  have B4 := Lib.hid (show Below w3.heap.size w3 (w3.alloc (.cells #[] 25)) from (Below.refl w3.heap.size w3).alloc (Nat.le_refl _) _)
  have M4 := Lib.hid (M3.out.on B4.out)
  have RB4 := Lib.hid (RB3.out.below B4.out hb2)
  have lb4 : bb < (w3.alloc (.cells #[] 25)).heap.size := Nat.lt_of_lt_of_le hb2 B4.out.size
  clear RB3 hb2 B4 M3
  go_wp2_with (at_builtin; refine wpList_append_own _ rfl _ _ 46 rfl (w3.heap.size + 1) 5 i8 (.int .u8 0) 1 1 Try.underlying46 hi8 h80 h81 h82 rfl (by decide) _ 0 [] rfl HLIT.out ⟨bb, 0, none⟩ 32 32 nb rfl NL.out ?c1 N1.out ?c3 ?c4 ?c5 ?_)
  case c1 =>
    intro j u hj
    have hj2 : j < 32 := by have h := (List.getElem?_eq_some_iff.1 hj).1; have := NL.out; omega
    have e : some u = some (Value.int .u8 (byteAt A j : Nat)) := hj.symm.trans (NG.out j hj2)
    obtain rfl := Option.some.inj e
    have := ((RB4.out.below ((Below.refl (w3.alloc (.cells #[] 25)).heap.size (w3.alloc (.cells #[] 25))).alloc (Nat.le_refl _) (.cells #[] 5)) lb4) j hj2).1
    rw [add_plain, Nat.zero_add]
    exact this
  case c3 => unfold maxLen; omega
  case c4 => omega
  case c5 => simp
  intro v2 w5 hown hgrow hne
  have B5 := Lib.hid (((Below.refl (w3.alloc (.cells #[] 25)).heap.size (w3.alloc (.cells #[] 25))).alloc (Nat.le_refl _) (.cells #[] 5)).grown hgrow (by simp) (fun k hk => by have := own_geO HLIT.out k hk; simpa using this))
  obtain ⟨ao2, cap2, rfl, hp⟩ := own_any hown
  obtain ⟨gq, rfl, hq1, hq2, hq3⟩ := hp (by omega)
  have HQ5 := Lib.hid (show ∀ k, k < 32 → w5.cell? ⟨gq, 0 + k, none⟩ = some (.int .u8 (byteAt A k : Nat)) from fun k hk => by
    rw [Nat.zero_add, hq3 k (by omega), NG.out k hk])
  have M5 := Lib.hid (M4.out.on B5.out)
  have RB5 := Lib.hid (RB4.out.below B5.out lb4)
  have lb5 : bb < w5.heap.size := Nat.lt_of_lt_of_le lb4 B5.out.size
  clear hown hgrow hne hp M4 RB4 lb4 B5 hq1 hq3
  go_wp2_with fail
  refine (HI.out _ M5.out.1).mono ?_
  rintro e w6 ⟨rfl, hbl⟩
  have M6 := Lib.hid (M5.out.on hbl)
  have N6 := Lib.hid ((Mem.nil w5).on hbl)
  have WB := Lib.hid M5.out.1
  clear hbl M5
  have kr := M6.out.row (b := w.heap.size) (c0 := a0) (c1 := a1) (c2 := a2) (c3 := a3) (by simp)
  have Fa0 := kr.c0; have Fa1 := kr.c1; have Fa2 := kr.c2; have Fa3 := kr.c3
  clear kr
  have Fal := M6.out.lt (b := w.heap.size) (c0 := a0) (c1 := a1) (c2 := a2) (c3 := a3) (by simp)
  go_wp2_with fail
  refine (HBy.out _).mono ?_
  rintro e w7 ⟨bt, rfl, ht1, ht2, ht3, hbl⟩
  have N7 := Lib.hid (N6.out.on hbl)
  have z5 : w5.heap.size ≤ bt := by have := N6.out.1.size; omega
  have RT7 := Lib.hid ht3
  clear ht3 hbl M6 N6 Fa0 Fa1 Fa2 Fa3 Fal
  go_wp2_with fail
  refine wp_loop_rounds 2 ?_
  rw [rounds_succ]
  go_wp2_with fail
  go_loopw [18] (fun t wr => ∃ (k : Nat) (P : Nat → Nat), k ≤ 32 ∧ t = .int .i64 k ∧ bt < wr.heap.size ∧ Hid (RowB wr bt 32 P) ∧ Hid (Mem w5 wr [])) (fun t _ => 32 - (intOf t).toNat)
  case atStart => exact ⟨0, _, Nat.zero_le _, rfl, ht2, RT7, N7⟩
  case round =>
    obtain ⟨k, P, hk, rfl, lt, RT, N⟩ := hrel
    by_cases hlt : k < 32
    · have i0 := (RT.out k hlt).1
      have f0 := (RT.out k hlt).2
      have TN := Lib.hid (RT.out.set (v := 85) hlt)
      have NN := Lib.hid (N.out.poke (i := k) z5 (fun r hr => by cases hr) (.int .u8 ((85 : Nat) : Int)))
      go_wp2_with fail
      go_roundw
      case rel => exact ⟨k + 1, _, by omega, by go_num, by simp only [World.size_setCell]; exact lt, TN, NN⟩
      case measure => simp [intOf]; omega
    · obtain rfl : k = 32 := by omega
      obtain ⟨wq, rfl⟩ : ∃ wq, wq = wr := ⟨_, rfl⟩
      clear RT lt hk hlt
      go_wp2_with fail
      refine wp_loop_rounds 2 ?_
      rw [rounds_succ]
      obtain ⟨s, hs⟩ : ∃ s, s = strOfNums ((List.range 32).map fun k => (byteAt A k : Int)) := ⟨_, rfl⟩
      have hc1 : (convert 46 9 (.slice (some ⟨bb, 0, none⟩) 32 32)).run Try.prog wq = .ok (.string s) wq := by
        rw [hs]
        refine conv_rowO (fun k hk => ?_)
        rw [Nat.zero_add]
        exact ((RB5.out.below N.out.1 lb5) k hk).1
      have hc2 : (convert 46 9 (.slice (some ⟨gq, 0, none⟩) 32 cap2)).run Try.prog wq = .ok (.string s) wq := by
        rw [hs]
        refine conv_rowO (fun k hk => ?_)
        rw [N.out.1.cell (p := ⟨gq, 0 + k, none⟩) hq2]
        exact HQ5.out k hk
      clear hs
      go_wp2_with fail
      go_ret
      exact ⟨rfl, WB.out.trans (N.out.1.mono WB.out.size)⟩
set_option maxRecDepth 100000 in
set_option maxHeartbeats 8000000 in
theorem own_00 (f : Int) (a0 a1 a2 a3 : Nat) (v : Value) (w : World) (cl : Int) (hI : InvsNone f v cl w) (cb : Int) (hB : BytesNone f a0 a1 a2 a3 cb) :
    Calls Try.prog 6 #[.int .i64 f, .agg #[.int .u64 a0, .int .u64 a1, .int .u64 a2, .int .u64 a3], v] w fun e w' => e = .returned (.bool true) ∧ Below w.heap.size w w' := by
  have hG := eqGuardF
  have hS := equalSelfF
  have HI := Lib.hid hI
  have HBy := Lib.hid hB
  clear hI hB
  obtain ⟨iF, hiF, hF0, hF1, hF2⟩ := fe_info
  obtain ⟨i8, hi8, h80, h81, h82⟩ := info_parts u8_info'
  have hcN := convN
  have hcE := convE
  go_enter Try.func6, Try.ntmps6
  go_wp2_with fail
  have M0 := Lib.hid ((Mem.nil w).new (w.heap.size) a0 a1 a2 a3 25 (by simp))
  refine (works_calls _).mono ?_
  rintro e w1 ⟨rfl, hbl⟩
  have M1 := Lib.hid (M0.out.on hbl)
  clear hbl M0
  go_wp2_with fail
  refine (HI.out _ M1.out.1).mono ?_
  rintro e w2 ⟨rfl, hbl⟩
  have M2 := Lib.hid (M1.out.on hbl)
  clear hbl M1
  have kr := M2.out.row (b := w.heap.size) (c0 := a0) (c1 := a1) (c2 := a2) (c3 := a3) (by simp)
  have Fa0 := kr.c0; have Fa1 := kr.c1; have Fa2 := kr.c2; have Fa3 := kr.c3
  clear kr
  have Fal := M2.out.lt (b := w.heap.size) (c0 := a0) (c1 := a1) (c2 := a2) (c3 := a3) (by simp)
  go_wp2_with fail
  refine (HBy.out _).mono ?_
  rintro e w3 ⟨rfl, hbl⟩
  have M3 := Lib.hid (M2.out.on hbl)
  clear hbl M2 Fa0 Fa1 Fa2 Fa3 Fal
  go_wp2_with fail
  obtain ⟨w5, hw5⟩ : ∃ w5, w5 = (w3.alloc (.cells #[] 25)).alloc (.cells #[] 5) := ⟨_, rfl⟩
  have B5 := Lib.hid (show Below w3.heap.size w3 w5 by rw [hw5]; exact ((Below.refl w3.heap.size w3).alloc (Nat.le_refl _) _).alloc (by simp) _)
  have M5 := Lib.hid (M3.out.on B5.out)
  rw [← hw5]
  clear hw5 B5 M3
  refine (HI.out _ M5.out.1).mono ?_
  rintro e w6 ⟨rfl, hbl⟩
  have M6 := Lib.hid (M5.out.on hbl)
  have N6 := Lib.hid ((Mem.nil w5).on hbl)
  have WB := Lib.hid M5.out.1
  clear hbl M5
  have kr := M6.out.row (b := w.heap.size) (c0 := a0) (c1 := a1) (c2 := a2) (c3 := a3) (by simp)
  have Fa0 := kr.c0; have Fa1 := kr.c1; have Fa2 := kr.c2; have Fa3 := kr.c3
  clear kr
  have Fal := M6.out.lt (b := w.heap.size) (c0 := a0) (c1 := a1) (c2 := a2) (c3 := a3) (by simp)
  go_wp2_with fail
  refine (HBy.out _).mono ?_
  rintro e w7 ⟨rfl, hbl⟩
  have N7 := Lib.hid (N6.out.on hbl)
  clear hbl M6 N6 Fa0 Fa1 Fa2 Fa3 Fal
  go_wp2_with fail
  refine wp_loop_rounds 2 ?_
  rw [rounds_succ]
  go_wp2_with fail
  refine wp_loop_rounds 2 ?_
  rw [rounds_succ]
  go_wp2_with fail
  refine wp_loop_rounds 2 ?_
  rw [rounds_succ]
  go_wp2_with fail
  go_ret
  exact ⟨rfl, WB.out.trans (N7.out.1.mono WB.out.size)⟩
end Go.Proofs.Ytalddekocfkbhaa
namespace Go.Proofs.Ytalddekocfkbhaa
set_option linter.unusedVariables false
open Go.RowKit

/-- what a list in hand is -/
def ListIs (W : World) (o : Option Addr) (len : Nat) : Prop := len ≤ 9223372036854775807 ∧ (len = 0 ∨ (0 < len ∧ ∃ g off A, o = some ⟨g, off, none⟩ ∧ g < W.heap.size ∧ LOk len A ∧ LAt W g off len A))
theorem invs_cases (f : Int) (o : Option Addr) (len cap : Nat) (W : World) (h : ListIs W o len) : (∃ n, n ≤ 65536 ∧ InvsSome f (.slice o len cap) n W) ∨ ∃ c, InvsNone f (.slice o len cap) c W := by
  by_cases h1 : f = 1 ∨ f = 2
  · obtain ⟨F, hf⟩ : ∃ F, FieldIs f F := by rcases h1 with h1 | h1; exact ⟨FP, Or.inl ⟨h1, rfl⟩⟩; exact ⟨FR, Or.inr ⟨h1, rfl⟩⟩
    obtain ⟨hm, h⟩ := h
    by_cases hc : 65536 < len
    · exact Or.inr ⟨3, fun w _ => finvs_count f F hf o len cap hc w⟩
    rcases h with rfl | ⟨hp, g, off, A, rfl, hg, hA, hl⟩
    · refine Or.inl ⟨0, by omega, fun w _ => (finvs_nil f F hf o cap w).mono ?_⟩
      rintro e w' ⟨bo, O, he, h3, h4, h5, _, h7⟩
      exact ⟨bo, O, he, h3, h4, h5, h7⟩
    · by_cases he : ∀ k, k < len → elA A k < F.M
      · refine Or.inl ⟨len, by omega, fun w hb => (finvs_ok f F hf g off len cap A hA hm w (fun _ => Nat.lt_of_lt_of_le hg hb.size) (hl.same (fun _ => hg) hb) (by omega) he).mono ?_⟩
        rintro e w' ⟨bo, O, he, h3, h4, h5, _, h7⟩
        exact ⟨bo, O, he, h3, h4, h5, h7⟩
      · exact Or.inr ⟨21, fun w hb => finvs_elem f F hf g off len cap A hA w (fun _ => Nat.lt_of_lt_of_le hg hb.size) (hl.same (fun _ => hg) hb) (by omega) he⟩
  · exact Or.inr ⟨1, fun w _ => finvs_none f (fun q => h1 (Or.inl q)) (fun q => h1 (Or.inr q)) o len cap w⟩
theorem own_calls (f : Int) (a0 a1 a2 a3 : Nat) (ha : ok4 a0 a1 a2 a3) (o : Option Addr) (len cap : Nat) (w : World) (hv : ListIs w o len) :
    Calls Try.prog 6 #[.int .i64 f, .agg #[.int .u64 a0, .int .u64 a1, .int .u64 a2, .int .u64 a3], .slice o len cap] w fun e w' => e = .returned (.bool true) ∧ Below w.heap.size w w' := by
  rcases invs_cases f o len cap w hv with ⟨n, hn, hI⟩ | ⟨c, hI⟩ <;> rcases all1 f (val4 a0 a1 a2 a3) with ⟨F, hf, la⟩ | ⟨cb, h⟩
  · exact own_11 f a0 a1 a2 a3 _ _ w n hn hI (fun w => fbytes_ok f F hf a0 a1 a2 a3 ha la w)
  · exact own_10 f a0 a1 a2 a3 _ w n hn hI cb (fun w => fbytes_err f cb a0 a1 a2 a3 ha h w)
  · exact own_01 f a0 a1 a2 a3 _ _ w c hI (fun w => fbytes_ok f F hf a0 a1 a2 a3 ha la w)
  · exact own_00 f a0 a1 a2 a3 _ w c hI cb (fun w => fbytes_err f cb a0 a1 a2 a3 ha h w)
end Go.Proofs.Ytalddekocfkbhaa
namespace Go.Proofs.Ytalddekocfkbhaa
set_option linter.unusedVariables false
open Go.ChangeShapes Go.WideShapes Go.ChangeAt Go.RowKit

set_option maxRecDepth 100000 in
theorem own_lifted (os : Os) (started : os.Started) (H : Type) (enc : TypeId × Value → H) :
    ReturnsInHanded {} Try.checked os 6 .any (Rows.fieldOwnSpec.pre6 enc Try.prog Try.f6 Rows.fieldOwnRow.domain false) (Rows.fieldOwnSpec.post enc Try.prog Try.f6 false true false false) := by
  refine returnsInHanded_of_change (C := Try.checked) own started (by kernel_rfl) Try.func6
    (ChangeSpec.witness6 (enc := enc) (C := Try.checked) false ⟨#[], #[.int .i64 0, .agg #[.int .u64 0, .int .u64 0, .int .u64 0, .int .u64 0], .slice none 0 0], []⟩ 8 (by kernel_rfl) (by kernel_rfl) (by kernel_rfl) (by kernel_rfl)) ?_
  intro W base args ds gs before hval0 hW hcnd _
  have hval : ∀ (j : Nat) t v, Try.f6.params[j]? = some t → args[j]? = some v → Value.okWide Try.prog W .any base t v := hval0
  have hW' := hW
  obtain ⟨p, q, hA0, hV, rfl, hfz, hnd⟩ := hW
  have hA : DataW.TrodAll enc Try.prog W 0 (fun _ => true) true Try.f6.params.toList args.toList ds p := hA0
  rw [Try.params6] at hA hval
  obtain ⟨v0, v1, v2, d0, d1, d2, p0, p1, p2, rfl, rfl, rfl, h0, h1, h2⟩ := trodAll_three hA
  obtain ⟨rfl, rfl⟩ := trodVars_none hV
  obtain ⟨a, rfl, rfl, rfl, ga⟩ := open_int Try.underlying22 (hval 0 _ _ rfl rfl) h0
  obtain ⟨b0, b1, b2, b3, rfl, gb⟩ := open_word' (P := Try.prog) (t := 25) (e := 23) Try.underlying25 Try.underlying23 fe_cells u64_cells hval 1 rfl rfl h1
  obtain ⟨co, cn, cc, rfl⟩ := okWide_slice Try.underlying57 (hval 2 _ _ rfl rfl)
  clear hA0 hval0
  simp only [List.append_nil] at hW'
  have l0 : ∀ x ∈ ([] : List MemPlace), x.block < W.heap.size := fun x hx => by cases hx
  have l1 : ∀ x ∈ p1, x.block < W.heap.size := fun x hx => hW'.lt x (by simp [hx])
  have l2 : ∀ x ∈ p2, x.block < W.heap.size := fun x hx => hW'.lt x (by simp [hx])
  refine (own_calls a b0 b1 b2 b3 gb co cn cc W (open_fes h2 l2)).mono fun e W' ⟨he, hbl⟩ => ?_
  subst he
  have kF : ∀ {v d ps}, DataW.Trod enc Try.prog W 0 (fun _ => true) true 25 v d ps → (∀ x ∈ ps, x.block < W.heap.size) → DataW.Trod enc Try.prog W' 0 (fun b => decide (b < W.heap.size)) true 25 v d ps :=
    fun h l => Below.trod laidOut (by kernel_rfl) (of_decide_eq_true (by kernel_rfl)) h hbl l
  have kb : ∀ {v d ps}, DataW.Trod enc Try.prog W 0 (fun _ => true) true 57 v d ps → (∀ x ∈ ps, x.block < W.heap.size) → DataW.Trod enc Try.prog W' 0 (fun b => decide (b < W.heap.size)) true 57 v d ps :=
    fun h l => Below.trod laidOut (by kernel_rfl) (of_decide_eq_true (by kernel_rfl)) h hbl l
  have kf : ∀ {v d ps}, DataW.Trod enc Try.prog W 0 (fun _ => true) true 22 v d ps → (∀ x ∈ ps, x.block < W.heap.size) → DataW.Trod enc Try.prog W' 0 (fun b => decide (b < W.heap.size)) true 22 v d ps :=
    fun h l => Below.trod laidOut (by kernel_rfl) (of_decide_eq_true (by kernel_rfl)) h hbl l
  exact ⟨_, rfl, ⟨_, _, _, [], _, [], hW', trodAll_mk1 (shut_bool Try.underlying4 _), trodAll_mk3 (kf h0 l0) (kF h1 l1) (kb h2 l2), rfl, hbl.frame _, fun h => by cases h⟩⟩

theorem own_holds : Rows.FieldOwnSaid :=
  OpenClaim.holds_of_wide 6 Try.f6 rfl rfl rfl rfl rfl rfl rfl ⟨rfl, rfl, rfl, rfl, rfl⟩ rfl rfl rfl rfl rfl (by kernel_rfl) Try.func6 (by kernel_rfl)
    (of_decide_eq_true (by kernel_rfl)) (by unfold Func.isWrapper; first | (rw [if_pos (by decide +kernel)]; kernel_rfl) | (rw [if_neg (by decide +kernel)]; exact ⟨rfl, rfl⟩))
    (fun os started H enc _ => own_lifted os started H enc)
#print axioms own_holds
end Go.Proofs.Ytalddekocfkbhaa
