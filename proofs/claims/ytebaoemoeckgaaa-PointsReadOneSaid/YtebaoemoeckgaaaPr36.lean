/-
  Read1 of 64 bytes, and of so many as are neither 32 nor 64. Conditions: the bytes are below 256 and the slice's capacity is no less than 64.
  The reference's bare, flag, begin on 32 and 64 bytes. Conditions: the bytes are below 256.
  The reference's flag and begin, on 32 and 64 bytes. Conditions: the bytes are below 256.
  The reference's parts, of 32 and 64 bytes. Conditions: the bytes are below 256, the slice's room is no less than they are.
-/
import Derived.Test.YtebaoemoeckgaaaPr35
namespace Go.Proofs.Ytebaoemoeckgaaa.Ex
set_option linter.unusedVariables false
set_option linter.unusedSimpArgs false
open Go.RowKit

set_option maxRecDepth 100000 in
theorem run_tl0 (B C : Nat → Nat) (c : Nat) : funS Try.prog (qY Try.prog (xT (fw (hv (bN B)) 3) 0)) (cfB T_tk) Try.f32 120 [.s (bL B ++ bL C) 64 c, .v (.im (.int .i64 1))] = some ([Bin .shr 5 (.tmp 32) (.const (.int .u64 6)) (.int .u8 (Int.ofNat (B 0))) (.int .u64 6) (.int .u8 (Int.ofNat 0)), MkE2, 0 ≤ 32, 32 ≤ c, 0 < c, L8 (bN B), 32 ≤ 64, 64 ≤ c, 32 < c, L8 (bN C), Bin .shl 22 (.tmp 83) (.const (.int .u64 2)) (.int .u64 (Int.ofNat (fw (hv (bN B)) 3))) (.int .u64 2) (.int .u64 (Int.ofNat (4 * fw (hv (bN B)) 3 % 18446744073709551616))), Bin .shr 22 (.tmp 84) (.const (.int .u64 2)) (.int .u64 (Int.ofNat (4 * fw (hv (bN B)) 3 % 18446744073709551616))) (.int .u64 2) (.int .u64 (Int.ofNat (fw (hv (bN B)) 3 % 4611686018427387904)))], ⟨[.c (.int .u64 (Int.ofNat (fw (hv (bN B)) 0))), .c (.int .u64 (Int.ofNat (fw (hv (bN B)) 1))), .c (.int .u64 (Int.ofNat (fw (hv (bN B)) 2))), .c (.int .u64 (Int.ofNat (fw (hv (bN B)) 3 % 4611686018427387904)))] ++ wl (hv (bN C)), 2, 0, 0, false, [.im (.int .u8 (Int.ofNat 0))], [.im (.int .i64 0)]⟩) := by kernel_rfl
set_option maxRecDepth 100000 in
theorem run_tl1 (B C : Nat → Nat) (c : Nat) : funS Try.prog (qY Try.prog (xT (fw (hv (bN B)) 3) 1)) (cfB T_tk) Try.f32 120 [.s (bL B ++ bL C) 64 c, .v (.im (.int .i64 1))] = some ([Bin .shr 5 (.tmp 32) (.const (.int .u64 6)) (.int .u8 (Int.ofNat (B 0))) (.int .u64 6) (.int .u8 (Int.ofNat 1)), MkE2, 0 ≤ 32, 32 ≤ c, 0 < c, L8 (bN B), 32 ≤ 64, 64 ≤ c, 32 < c, L8 (bN C), Bin .shl 22 (.tmp 83) (.const (.int .u64 2)) (.int .u64 (Int.ofNat (fw (hv (bN B)) 3))) (.int .u64 2) (.int .u64 (Int.ofNat (4 * fw (hv (bN B)) 3 % 18446744073709551616))), Bin .shr 22 (.tmp 84) (.const (.int .u64 2)) (.int .u64 (Int.ofNat (4 * fw (hv (bN B)) 3 % 18446744073709551616))) (.int .u64 2) (.int .u64 (Int.ofNat (fw (hv (bN B)) 3 % 4611686018427387904)))], ⟨[.c (.int .u64 (Int.ofNat (fw (hv (bN B)) 0))), .c (.int .u64 (Int.ofNat (fw (hv (bN B)) 1))), .c (.int .u64 (Int.ofNat (fw (hv (bN B)) 2))), .c (.int .u64 (Int.ofNat (fw (hv (bN B)) 3 % 4611686018427387904)))] ++ wl (hv (bN C)), 2, 0, 0, false, [.im (.int .u8 (Int.ofNat 1))], [.im (.int .i64 0)]⟩) := by kernel_rfl
set_option maxRecDepth 100000 in
theorem run_tl2 (B C : Nat → Nat) (c : Nat) : funB Try.prog (qY Try.prog (xT (fw (hv (bN B)) 3) 2)) (cfB T_tk) Try.f32 120 [.s (bL B ++ bL C) 64 c, .v (.im (.int .i64 1))] = some ([Bin .shr 5 (.tmp 32) (.const (.int .u64 6)) (.int .u8 (Int.ofNat (B 0))) (.int .u64 6) (.int .u8 (Int.ofNat 2))], .many [.im (.int .u8 0), .im (.slice none 0 0), .im (.int .i64 44)]) := by kernel_rfl
set_option maxRecDepth 100000 in
theorem run_tl3 (B C : Nat → Nat) (c : Nat) : funB Try.prog (qY Try.prog (xT (fw (hv (bN B)) 3) 3)) (cfB T_tk) Try.f32 120 [.s (bL B ++ bL C) 64 c, .v (.im (.int .i64 1))] = some ([Bin .shr 5 (.tmp 32) (.const (.int .u64 6)) (.int .u8 (Int.ofNat (B 0))) (.int .u64 6) (.int .u8 (Int.ofNat 3))], .many [.im (.int .u8 0), .im (.slice none 0 0), .im (.int .i64 44)]) := by kernel_rfl

theorem wl_flat (N : Nat) : flat (wl N) = flat [.q N] := rfl
theorem tl_flat (N M : Nat) : flat ([.c (.int .u64 (Int.ofNat (fw N 0))), .c (.int .u64 (Int.ofNat (fw N 1))), .c (.int .u64 (Int.ofNat (fw N 2))), .c (.int .u64 (Int.ofNat (fw N 3 % 4611686018427387904)))] ++ wl M) = flat [.q (xv N), .q M] := by
  have h := tk_flat N
  have e : ∀ l : List At, flat (l ++ [.q 0]) = flat l ++ flat [.q 0] := fun l => flat_append _ _
  have h1 : flat [.c (.int .u64 (Int.ofNat (fw N 0))), .c (.int .u64 (Int.ofNat (fw N 1))), .c (.int .u64 (Int.ofNat (fw N 2))), .c (.int .u64 (Int.ofNat (fw N 3 % 4611686018427387904)))] = flat [.q (xv N)] := by
    apply List.append_cancel_right (bs := flat [.q 0])
    rw [← flat_append, ← flat_append]
    exact h
  rw [flat_append, h1, wl_flat, ← flat_append]
  rfl
/-- 64 bytes -/
def L6 (L : List Nat) : Prop := L8 (L.take 32) ∧ L8 (L.drop 32)
def hi (L : List Nat) : Nat := xv (hv (L.take 32))
def lo (L : List Nat) : Nat := hv (L.drop 32)
def gTl (m : Nat) : List CA → Option (List Prop × FS)
  | [.s l 64 c, .v (.im (.int .i64 (.ofNat 1)))] => match bys l with
    | some L => some ([L6 L, (L.take 32).getD 0 0 / 64 = m, 64 ≤ c], ⟨[.q (hi L), .q (lo L)], 2, 0, 0, false, [.im (.int .u8 (Int.ofNat m))], [.im (.int .i64 0)]⟩)
    | none => none
  | _ => none
def gTl0 (m : Nat) : Ent
  | [.s l 64 c, .v (.im (.int .i64 (.ofNat 1)))] => match bys l with
    | some L => some ([L6 L, (L.take 32).getD 0 0 / 64 = m, 64 ≤ c], .many [.im (.int .u8 0), .im (.slice none 0 0), .im (.int .i64 44)])
    | none => none
  | _ => none
theorem bL6_of {l : List At} {L : List Nat} (h : bys l = some L) (h6 : L6 L) : flat l = flat (bL (fun k => (L.take 32).getD k 0) ++ bL fun k => (L.drop 32).getD k 0) := by
  rw [bys_map h, flat_append, bL_map, bL_map, bN_of h6.1.1, bN_of h6.2.1, ← List.map_append, List.take_append_drop]
theorem shr_m {L : List Nat} (h8 : L8 L) {m : Nat} (hb : L.getD 0 0 / 64 = m) : Bin .shr 5 (.tmp 32) (.const (.int .u64 6)) (.int .u8 (Int.ofNat (L.getD 0 0))) (.int .u64 6) (.int .u8 (Int.ofNat m)) := by
  have := bin_shr6 (t := 5) (x := .tmp 32) (y := .const (.int .u64 6)) (h8.2 0)
  rw [hb] at this
  exact this
theorem gTl_ok (m : Nat) (hm : m = 0 ∨ m = 1) : ∀ cs pre r, gTl m cs = some (pre, r) → allP pre → ∀ (args : List Value) (w : World), CAs w cs args → Calls Try.prog 32 args.toArray w (fun e w' => r.ok w e w') := by
  intro cs pre r hg hp args w ha
  unfold gTl at hg
  split at hg
  · rename_i l c
    split at hg
    · rename_i L hL
      cases hg
      obtain ⟨h6, hb, hc, _⟩ := hp
      have ha' := casT (bL6_of hL h6) ha
      have hN := bN_of h6.1.1
      have hM := bN_of h6.2.1
      have h64 := shr_m h6.1 hb
      rcases hm with rfl | rfl
      · have h := funS_sound hmix (fun _ _ => ok_tk.w _ _) (xT_ok _ _ w) Try.func32 (run_tl0 (fun k => (L.take 32).getD k 0) (fun k => (L.drop 32).getD k 0) c) (by rw [hN, hM]; exact ⟨h64, mkE2_ok, by omega, by omega, by omega, h6.1, by omega, hc, by omega, h6.2, bin_shl2 (fw_lt3 _ _), bin_shr2 (fw_lt3 _ _), trivial⟩) ha'
        rw [hN, hM] at h
        exact h.mono fun e w' h => h.weak (tl_flat _ _).symm
      · have h := funS_sound hmix (fun _ _ => ok_tk.w _ _) (xT_ok _ _ w) Try.func32 (run_tl1 (fun k => (L.take 32).getD k 0) (fun k => (L.drop 32).getD k 0) c) (by rw [hN, hM]; exact ⟨h64, mkE2_ok, by omega, by omega, by omega, h6.1, by omega, hc, by omega, h6.2, bin_shl2 (fw_lt3 _ _), bin_shr2 (fw_lt3 _ _), trivial⟩) ha'
        rw [hN, hM] at h
        exact h.mono fun e w' h => h.weak (tl_flat _ _).symm
    · cases hg
  · cases hg
theorem gTl0_ok (m : Nat) (hm : m = 2 ∨ m = 3) : ∀ cs pre r, gTl0 m cs = some (pre, r) → allP pre → ∀ (args : List Value) (w : World), CAs w cs args → Good Try.prog 32 r args w := by
  intro cs pre r hg hp args w ha
  unfold gTl0 at hg
  split at hg
  · rename_i l c
    split at hg
    · rename_i L hL
      cases hg
      obtain ⟨h6, hb, hc, _⟩ := hp
      have ha' := casT (bL6_of hL h6) ha
      have h64 := shr_m h6.1 hb
      rcases hm with rfl | rfl
      · exact funB_soundW hmix (fun _ _ => ok_tk.w _ _) (xT_ok _ _ w) Try.func32 (run_tl2 (fun k => (L.take 32).getD k 0) (fun k => (L.drop 32).getD k 0) c) ⟨h64, trivial⟩ ha'
      · exact funB_soundW hmix (fun _ _ => ok_tk.w _ _) (xT_ok _ _ w) Try.func32 (run_tl3 (fun k => (L.take 32).getD k 0) (fun k => (L.drop 32).getD k 0) c) ⟨h64, trivial⟩ ha'
    · cases hg
  · cases hg
def xL (m : Nat) : Ext := x3 (Fs0.add 32 (gTl m)) Wr0 (fun _ => none) (fun _ => none)
theorem xL_ok (m : Nat) (hm : m = 0 ∨ m = 1) (w : World) : EqOkW Try.prog (qY Try.prog (xL m)) w.heap.size w := x3_ok ((Fs0_ok _).add Try.func32 (by kernel_rfl) (by kernel_rfl) (gTl_ok m hm)) (Wr0_ok _) w
def pTl (m : Nat) (B C : Nat → Nat) (c : Nat) : List Prop := [L6 (bN B ++ bN C), B 0 / 64 = m, 64 ≤ c]
noncomputable def T_rl0 (m : Nat) : Tab := T0.add 32 (gTl0 m)
theorem ok_rl0 (m : Nat) (hm : m = 2 ∨ m = 3) : TabOk Try.prog (T_rl0 m) := (T0_ok _).add Try.func32 (by kernel_rfl) (by kernel_rfl) (gTl0_ok m hm)
set_option maxRecDepth 100000 in
theorem run_rl0 (m : Nat) (B C : Nat → Nat) (c : Nat) : funB Try.prog (qG Try.prog) (cfB (T_rl0 m)) Try.f16 80 [.s (bL B ++ bL C) 64 c] = some (pTl m B C c, .many [.fl zG, .im (.int .i64 44)]) := by kernel_rfl
set_option maxRecDepth 100000 in
theorem run_rlo0 (a : Bool) (B C : Nat → Nat) (c : Nat) : funB Try.prog (qY Try.prog (xL 0)) (cfB (T_rd 2 true true a)) Try.f16 80 [.s (bL B ++ bL C) 64 c] = some (pTl 0 B C c ++ (oAl a (hi (bN B ++ bN C), lo (bN B ++ bN C), false)).1, (oAl a (hi (bN B ++ bN C), lo (bN B ++ bN C), false)).2) := by cases a <;> kernel_rfl
set_option maxRecDepth 100000 in
theorem run_rl1 (a : Bool) (B C : Nat → Nat) (c : Nat) : funB Try.prog (qY Try.prog (xL 1)) (cfB (T_rd 2 true true a)) Try.f16 80 [.s (bL B ++ bL C) 64 c] = some (pTl 1 B C c ++ (oAl a (hi (bN B ++ bN C), lo (bN B ++ bN C), true)).1, (oAl a (hi (bN B ++ bN C), lo (bN B ++ bN C), true)).2) := by cases a <;> kernel_rfl
/-- neither 32 nor 64 bytes -/
noncomputable def cfO : Nat → Cfg := fun _ => ⟨fun _ => T0, fun _ => true, fun n => bif Nat.beq n 23 then some (.bool true) else bif Nat.beq n 28 then some (.bool true) else none⟩
set_option maxRecDepth 100000 in
theorem run_to (p : Option Addr) (n c : Nat) : funB Try.prog (qG Try.prog) cfO Try.f32 120 [.v (.im (.slice p n c)), .v (.im (.int .i64 1))] = some ([intOp .neq .i64 (n : Int) 32 = some (.bool true), intOp .neq .i64 (n : Int) 64 = some (.bool true)], .many [.im (.int .u8 0), .im (.slice none 0 0), .im (.int .i64 3)]) := by kernel_rfl
def gTo : Ent
  | [.v (.im (.slice p n c)), .v (.im (.int .i64 (.ofNat 1)))] => some ([n ≠ 32, n ≠ 64], .many [.im (.int .u8 0), .im (.slice none 0 0), .im (.int .i64 3)])
  | _ => none
theorem neq_n {n k : Nat} (h : n ≠ k) : intOp .neq .i64 (n : Int) (k : Int) = some (.bool true) := by
  show some (Value.bool ((n : Int) != (k : Int))) = _
  rw [bne_iff_ne.2 (by omega)]
theorem gTo_ok : ∀ cs pre r, gTo cs = some (pre, r) → allP pre → ∀ (args : List Value) (w : World), CAs w cs args → Good Try.prog 32 r args w := by
  intro cs pre r hg hp args w ha
  unfold gTo at hg
  split at hg
  · rename_i p n c
    cases hg
    exact funB_sound hmix (fun _ _ => T0_ok _) (qG_ok Try.prog) Try.func32 (run_to p n c) ⟨neq_n hp.1, neq_n hp.2.1, trivial⟩ ha
  · cases hg
set_option maxRecDepth 100000 in
theorem run_ro (p : Option Addr) (n c : Nat) : funB Try.prog (qG Try.prog) (cfB (T0.add 32 gTo)) Try.f16 80 [.v (.im (.slice p n c))] = some ([n ≠ 32, n ≠ 64], .many [.fl zG, .im (.int .i64 3)]) := by kernel_rfl
theorem rd_count (p : Option Addr) (n c : Nat) (h1 : n ≠ 32) (h2 : n ≠ 64) (w : World) : Good Try.prog 16 (.many [.fl zG, .im (.int .i64 3)]) [.slice p n c] w :=
  funB_sound hmix (fun _ _ => (T0_ok _).add Try.func32 (by kernel_rfl) (by kernel_rfl) gTo_ok) (qG_ok Try.prog) Try.func16 (run_ro p n c) ⟨h1, h2, trivial⟩ ⟨rfl, trivial⟩


theorem rl_flag {l : List At} {L : List Nat} {c m : Nat} (hm : m = 2 ∨ m = 3) (hL : bys l = some L) (h6 : L6 L) (hb : (L.take 32).getD 0 0 / 64 = m) (hc : 64 ≤ c) (args : List Value) (w : World) (ha : CAs w [.s l 64 c] args) : Good Try.prog 16 (.many [.fl zG, .im (.int .i64 44)]) args w :=
  funB_sound hmix (fun _ _ => ok_rl0 m hm) (qG_ok Try.prog) Try.func16 (run_rl0 m (fun k => (L.take 32).getD k 0) (fun k => (L.drop 32).getD k 0) c) ⟨by rw [bN_of h6.1.1, bN_of h6.2.1, List.take_append_drop]; exact h6, hb, hc, trivial⟩ (casR (bL6_of hL h6) ha)
theorem rl_both {l : List At} {L : List Nat} {c : Nat} (a : Bool) (hL : bys l = some L) (h6 : L6 L) (hb : (L.take 32).getD 0 0 / 64 = 0) (hc : 64 ≤ c) (hp : allP (oAl a (hi L, lo L, false)).1) (args : List Value) (w : World) (ha : CAs w [.s l 64 c] args) : Good Try.prog 16 (oAl a (hi L, lo L, false)).2 args w := by
  have hN : bN (fun k => (L.take 32).getD k 0) ++ bN (fun k => (L.drop 32).getD k 0) = L := by rw [bN_of h6.1.1, bN_of h6.2.1, List.take_append_drop]
  have h := funB_soundW hmix (fun _ _ => (ok_rd 2 (Or.inl rfl) true true a).w _ _) (xL_ok 0 (Or.inl rfl) w) Try.func16 (run_rlo0 a (fun k => (L.take 32).getD k 0) (fun k => (L.drop 32).getD k 0) c) (allP_append.2 ⟨⟨by rw [hN]; exact h6, hb, hc, trivial⟩, by rw [hN]; exact hp⟩) (casR (bL6_of hL h6) ha)
  rw [hN] at h
  exact h
theorem rl_inf {l : List At} {L : List Nat} {c : Nat} (a : Bool) (hL : bys l = some L) (h6 : L6 L) (hb : (L.take 32).getD 0 0 / 64 = 1) (hc : 64 ≤ c) (hp : allP (oAl a (hi L, lo L, true)).1) (args : List Value) (w : World) (ha : CAs w [.s l 64 c] args) : Good Try.prog 16 (oAl a (hi L, lo L, true)).2 args w := by
  have hN : bN (fun k => (L.take 32).getD k 0) ++ bN (fun k => (L.drop 32).getD k 0) = L := by rw [bN_of h6.1.1, bN_of h6.2.1, List.take_append_drop]
  have h := funB_soundW hmix (fun _ _ => (ok_rd 2 (Or.inl rfl) true true a).w _ _) (xL_ok 1 (Or.inr rfl) w) Try.func16 (run_rl1 a (fun k => (L.take 32).getD k 0) (fun k => (L.drop 32).getD k 0) c) (allP_append.2 ⟨⟨by rw [hN]; exact h6, hb, hc, trivial⟩, by rw [hN]; exact hp⟩) (casR (bL6_of hL h6) ha)
  rw [hN] at h
  exact h
end Go.Proofs.Ytebaoemoeckgaaa.Ex
namespace Go.Proofs.Ytebaoemoeckgaaa.Ex
set_option linter.unusedVariables false
set_option linter.unusedSimpArgs false
open Go.RowKit

set_option maxHeartbeats 1000000 in
theorem bare_t (b o n c : Nat) (hn : n < 4611686018427387904) (w : World) (h : ∀ k, k < n → w.cell? ⟨b, o + k, none⟩ = some (.int .u8 0)) :
    Calls Try.prog 62 #[.slice (some ⟨b, o, none⟩) n c] w fun e w' => e = .returned (.bool true) ∧ Below w.heap.size w w' := by
  have H1 := Lib.hid h
  clear h
  go_enter Try.func62, Try.ntmps62
  go_wp2_with fail
  go_loopw [3] (fun x wr => ∃ k m : Nat, k ≤ n ∧ x = .int .i64 k ∧ wr = w.drewN m) (fun x _ => n - (intOf x).toNat)
  case atStart => exact ⟨0, 0, by omega, rfl, rfl⟩
  case round =>
    obtain ⟨k, m, hk, rfl, rfl⟩ := hrel
    by_cases hlt : k < n
    · have e1 : (w.drewN m).cell? ⟨b, o + k, none⟩ = _ := H1.out k hlt
      have e3 := H1.out k hlt
      have t1 : decide ((k : Int) < (n : Int)) = true := decide_eq_true (by omega)
      go_wp2_with fail
      go_roundw
      case rel => exact ⟨k + 1, _, by omega, by go_num, rfl⟩
      case measure => first | (simp [intOf]; done) | (simp [intOf]; omega)
    · obtain rfl : k = n := by omega
      have t1 : decide ((k : Int) < (k : Int)) = false := decide_eq_false (by omega)
      go_wp2_with fail
      go_ret
      exact ⟨rfl, below_drewN' _ _ _⟩
set_option maxHeartbeats 1000000 in
theorem bare_f (b o n c j : Nat) (p : Int) (hn : n < 4611686018427387904) (hj : j < n) (hp : p ≠ 0) (w : World) (h : ∀ k, k < j → w.cell? ⟨b, o + k, none⟩ = some (.int .u8 0)) (hb : w.cell? ⟨b, o + j, none⟩ = some (.int .u8 p)) :
    Calls Try.prog 62 #[.slice (some ⟨b, o, none⟩) n c] w fun e w' => e = .returned (.bool false) ∧ Below w.heap.size w w' := by
  have H1 := Lib.hid h
  have H2 := Lib.hid hb
  have t0 : (p != 0) = true := bne_iff_ne.2 hp
  clear h hb
  go_enter Try.func62, Try.ntmps62
  go_wp2_with fail
  go_loopw [3] (fun x wr => ∃ k m : Nat, k ≤ j ∧ x = .int .i64 k ∧ wr = w.drewN m) (fun x _ => n - (intOf x).toNat)
  case atStart => exact ⟨0, 0, by omega, rfl, rfl⟩
  case round =>
    obtain ⟨k, m, hk, rfl, rfl⟩ := hrel
    have t1 : decide ((k : Int) < (n : Int)) = true := decide_eq_true (by omega)
    have hkn : k < n := by omega
    by_cases hlt : k < j
    · have e1 : (w.drewN m).cell? ⟨b, o + k, none⟩ = _ := H1.out k hlt
      have e3 := H1.out k hlt
      go_wp2_with fail
      go_roundw
      case rel => exact ⟨k + 1, _, by omega, by go_num, rfl⟩
      case measure => first | (simp [intOf]; done) | (simp [intOf]; omega)
    · obtain rfl : k = j := by omega
      have e1 : (w.drewN m).cell? ⟨b, o + k, none⟩ = _ := H2.out
      have e3 := H2.out
      go_wp2_with fail
      go_ret
      exact ⟨rfl, below_drewN' _ _ _⟩
/-- z: all of them are 0 -/
def gBare (z : Bool) : Ent
  | [c] => match lenC c with
    | some (l, n) => (match bys l with
      | some L => some ([L.length = n, n < 4611686018427387904, (bif z then ∀ k, k < n → L.getD k 0 = 0 else ¬ ∀ k, k < n → L.getD k 0 = 0)], .one (.im (.bool z)))
      | none => none)
    | _ => none
  | _ => none
theorem least_of {p : Nat → Prop} {n : Nat} (h : ¬ ∀ k, k < n → p k) : ∃ j, j < n ∧ ¬ p j ∧ ∀ k, k < j → p k := by
  induction n with
  | zero => exact absurd (fun k hk => absurd hk (by omega)) h
  | succ n ih =>
    by_cases hn : ∀ k, k < n → p k
    · refine ⟨n, by omega, fun hp => h fun k hk => ?_, hn⟩
      by_cases e : k = n
      · rw [e]; exact hp
      · exact hn k (by omega)
    · obtain ⟨j, h1, h2, h3⟩ := ih hn
      exact ⟨j, by omega, h2, h3⟩
theorem gBare_ok (z : Bool) : ∀ cs pre r, gBare z cs = some (pre, r) → allP pre → ∀ (args : List Value) (w : World), CAs w cs args → Good Try.prog 62 r args w := by
  intro cs pre r hg hp args w ha
  unfold gBare at hg
  split at hg
  · rename_i c
    split at hg
    · rename_i l n hl
      split at hg
      · rename_i L hL
        cases hg
        obtain ⟨h1, h2, h3, _⟩ := hp
        match args, ha with
        | [v], ha =>
          obtain ⟨b, o, m, rfl, hb, hr⟩ := lenC_at hl (by have := ha; cases c <;> exact this.1)
          have hc : ∀ k, k < n → w.cell? ⟨b, o + k, none⟩ = some (.int .u8 (Int.ofNat (L.getD k 0))) := fun k hk => hr k _ (bys_cell hL k (by omega))
          cases z
          · obtain ⟨j, hj, h4, h5⟩ := least_of h3
            exact bare_f b o n m j _ h2 hj (by intro e; exact h4 (by have := Int.ofNat.inj e; exact this)) w (fun k hk => by have := hc k (by omega); rw [h5 k hk] at this; exact this) (hc j hj)
          · exact bare_t b o n m h2 w fun k hk => by have := hc k hk; rw [h3 k hk] at this; exact this
        | [], ha => cases c <;> exact ha.elim
        | _ :: _ :: _, ha => cases c <;> exact ha.2.elim
      · cases hg
    · cases hg
  · cases hg
end Go.Proofs.Ytebaoemoeckgaaa.Ex
namespace Go.Proofs.Ytebaoemoeckgaaa.Ex
set_option linter.unusedVariables false
set_option linter.unusedSimpArgs false
open Go.RowKit

/-- bytes, the mark out of the first one -/
def bz (B : Nat → Nat) : Nat → Nat := fun k => if k = 0 then B 0 &&& 63 else B k
def xF (B : Nat → Nat) (m : Nat) : Ext := x3 Fs0 Wr0 (assoc [(12, .int .u8 (Int.ofNat m)), (17, .int .u8 (Int.ofNat (B 0 &&& 63)))]) (fun _ => none)
theorem xF_ok (B : Nat → Nat) (m : Nat) (w : World) : EqOkW Try.prog (qY Try.prog (xF B m)) w.heap.size w := x3_ok (Fs0_ok _) (Wr0_ok _) w
def pF (B : Nat → Nat) (m : Nat) : List Prop := [Bin .shr 5 (.tmp 11) (.const (.int .u64 6)) (.int .u8 (Int.ofNat (B 0))) (.int .u64 6) (.int .u8 (Int.ofNat m)), Bin .and 5 (.tmp 16) (.const (.int .u8 63)) (.int .u8 (Int.ofNat (B 0))) (.int .u8 63) (.int .u8 (Int.ofNat (B 0 &&& 63)))]
def zL (B : Nat → Nat) : List At := .c (.int .u8 (Int.ofNat (B 0 &&& 63))) :: (bL B).tail
set_option maxRecDepth 100000 in
theorem run_fl32 (B : Nat → Nat) (m c : Nat) : funS Try.prog (qY Try.prog (xF B m)) cT0 Try.f61 120 [.s (bL B) 32 c] = some (pF B m, ⟨zL B, 32, 5, 1, true, [.im (.int .u8 (Int.ofNat m))], []⟩) := by kernel_rfl
set_option maxRecDepth 100000 in
theorem run_fl64 (B C : Nat → Nat) (m c : Nat) : funS Try.prog (qY Try.prog (xF B m)) cT0 Try.f61 120 [.s (bL B ++ bL C) 64 c] = some (pF B m, ⟨zL B ++ bL C, 64, 5, 1, true, [.im (.int .u8 (Int.ofNat m))], []⟩) := by kernel_rfl
/-- a list of bytes as a function's 32 -/
def lB (L : List Nat) (k : Nat) : Nat := L.getD k 0
/-- flag's: m: the mark -/
def gFl (m : Nat) : List CA → Option (List Prop × FS)
  | [.s l 32 c] => match bys l with
    | some L => some ([L8 L, L.getD 0 0 / 64 = m], ⟨zL (lB L), 32, 5, 1, true, [.im (.int .u8 (Int.ofNat m))], []⟩)
    | none => none
  | [.s l 64 c] => match bys l with
    | some L => some ([L6 L, (L.take 32).getD 0 0 / 64 = m], ⟨zL (lB (L.take 32)) ++ bL (lB (L.drop 32)), 64, 5, 1, true, [.im (.int .u8 (Int.ofNat m))], []⟩)
    | none => none
  | _ => none
theorem pF_ok {L : List Nat} (h8 : L8 L) {m : Nat} (hb : L.getD 0 0 / 64 = m) : allP (pF (lB L) m) := by
  have h1 := bin_shr6 (t := 5) (x := .tmp 11) (y := .const (.int .u64 6)) (h8.2 0)
  rw [hb] at h1
  exact ⟨h1, bin_and (a := L.getD 0 0) (b := 63) (h8.2 0) (by decide), trivial⟩
theorem gFl_ok (m : Nat) : ∀ cs pre r, gFl m cs = some (pre, r) → allP pre → ∀ (args : List Value) (w : World), CAs w cs args → Calls Try.prog 61 args.toArray w (fun e w' => r.ok w e w') := by
  intro cs pre r hg hp args w ha
  have hT : ∀ n d : Nat, TabOkW Try.prog ((cT0 n).T d) w.heap.size w := fun _ _ => (T0_ok _).w _ _
  unfold gFl at hg
  split at hg
  · rename_i l c
    split at hg
    · rename_i L hL
      cases hg
      obtain ⟨h8, hb, _⟩ := hp
      exact funS_sound hmix hT (xF_ok _ _ w) Try.func61 (run_fl32 (lB L) m c) (pF_ok h8 hb) (casR (bL_of hL h8.1) ha)
    · cases hg
  · rename_i l c
    split at hg
    · rename_i L hL
      cases hg
      obtain ⟨h6, hb, _⟩ := hp
      exact funS_sound hmix hT (xF_ok _ _ w) Try.func61 (run_fl64 (lB (L.take 32)) (lB (L.drop 32)) m c) (pF_ok h6.1 hb) (casR (bL6_of hL h6) ha)
    · cases hg
  · cases hg
def xB (m : Nat) : Ext := x3 (Fs0.add 61 (gFl m)) Wr0 (fun _ => none) (fun _ => none)
theorem xB_ok (m : Nat) (w : World) : EqOkW Try.prog (qY Try.prog (xB m)) w.heap.size w := x3_ok ((Fs0_ok _).add Try.func61 (by kernel_rfl) (by kernel_rfl) (gFl_ok m)) (Wr0_ok _) w
def T_ba (z : Bool) : Tab := T0.add 62 (gBare z)
theorem ok_ba (z : Bool) : TabOk Try.prog (T_ba z) := (T0_ok _).add Try.func62 (by kernel_rfl) (by kernel_rfl) (gBare_ok z)
def cfZ (z : Bool) : Nat → Cfg := fun _ => ⟨fun _ => T_ba z, fun _ => true, fun _ => none⟩
/-- all are 0 -/
def pZ (z : Bool) (L : List Nat) (n : Nat) : Prop := bif z then ∀ k, k < n → L.getD k 0 = 0 else ¬ ∀ k, k < n → L.getD k 0 = 0
def zN (B : Nat → Nat) : List Nat := (B 0 &&& 63) :: (bN B).tail
def p32 (m : Nat) (B : Nat → Nat) : List Prop := [L8 (bN B), B 0 / 64 = m]
def p64 (m : Nat) (B C : Nat → Nat) : List Prop := [L6 (bN B ++ bN C), B 0 / 64 = m]
def rNo (e : Int) : RV := .many [.im (.int .u8 0), .im (.slice none 0 0), .im (.bool false), .im (.int .i64 e)]
set_option maxRecDepth 100000 in
theorem run_bg32_1t (B : Nat → Nat) (c : Nat) : funS Try.prog (qY Try.prog (xB 1)) (cfZ true) Try.f36 120 [.s (bL B) 32 c, .v (.im (.int .i64 32))] = some (p32 1 B ++ [(zN B).length = 32, 32 < 4611686018427387904, pZ true (zN B) 32], ⟨zL B, 32, 5, 1, true, [.im (.int .u8 1)], [.im (.bool true), .im (.int .i64 0)]⟩) := by kernel_rfl
set_option maxRecDepth 100000 in
theorem run_bg32_1f (B : Nat → Nat) (c : Nat) : funB Try.prog (qY Try.prog (xB 1)) (cfZ false) Try.f36 120 [.s (bL B) 32 c, .v (.im (.int .i64 32))] = some (p32 1 B ++ [(zN B).length = 32, 32 < 4611686018427387904, pZ false (zN B) 32], rNo 44) := by kernel_rfl
set_option maxRecDepth 100000 in
theorem run_bg64_1t (B C : Nat → Nat) (c : Nat) : funS Try.prog (qY Try.prog (xB 1)) (cfZ true) Try.f36 120 [.s (bL B ++ bL C) 64 c, .v (.im (.int .i64 32))] = some (p64 1 B C ++ [(zN B ++ bN C).length = 64, 64 < 4611686018427387904, pZ true (zN B ++ bN C) 64], ⟨zL B ++ bL C, 64, 5, 1, true, [.im (.int .u8 1)], [.im (.bool true), .im (.int .i64 0)]⟩) := by kernel_rfl
set_option maxRecDepth 100000 in
theorem run_bg64_1f (B C : Nat → Nat) (c : Nat) : funB Try.prog (qY Try.prog (xB 1)) (cfZ false) Try.f36 120 [.s (bL B ++ bL C) 64 c, .v (.im (.int .i64 32))] = some (p64 1 B C ++ [(zN B ++ bN C).length = 64, 64 < 4611686018427387904, pZ false (zN B ++ bN C) 64], rNo 44) := by kernel_rfl
set_option maxRecDepth 100000 in
theorem run_bg32_0 (B : Nat → Nat) (c : Nat) : funB Try.prog (qY Try.prog (xB 0)) (cfZ true) Try.f36 120 [.s (bL B) 32 c, .v (.im (.int .i64 32))] = some (p32 0 B, rNo 44) := by kernel_rfl
set_option maxRecDepth 100000 in
theorem run_bg32_2 (B : Nat → Nat) (c : Nat) : funS Try.prog (qY Try.prog (xB 2)) (cfZ true) Try.f36 120 [.s (bL B) 32 c, .v (.im (.int .i64 32))] = some (p32 2 B, ⟨zL B, 32, 5, 1, true, [.im (.int .u8 2)], [.im (.bool false), .im (.int .i64 0)]⟩) := by kernel_rfl
set_option maxRecDepth 100000 in
theorem run_bg64_2 (B C : Nat → Nat) (c : Nat) : funB Try.prog (qY Try.prog (xB 2)) (cfZ true) Try.f36 120 [.s (bL B ++ bL C) 64 c, .v (.im (.int .i64 32))] = some (p64 2 B C, rNo 44) := by kernel_rfl
set_option maxRecDepth 100000 in
theorem run_bg32_3 (B : Nat → Nat) (c : Nat) : funS Try.prog (qY Try.prog (xB 3)) (cfZ true) Try.f36 120 [.s (bL B) 32 c, .v (.im (.int .i64 32))] = some (p32 3 B, ⟨zL B, 32, 5, 1, true, [.im (.int .u8 3)], [.im (.bool false), .im (.int .i64 0)]⟩) := by kernel_rfl
set_option maxRecDepth 100000 in
theorem run_bg64_3 (B C : Nat → Nat) (c : Nat) : funB Try.prog (qY Try.prog (xB 3)) (cfZ true) Try.f36 120 [.s (bL B ++ bL C) 64 c, .v (.im (.int .i64 32))] = some (p64 3 B C, rNo 44) := by kernel_rfl
set_option maxRecDepth 100000 in
theorem run_bg64_0 (B C : Nat → Nat) (c : Nat) : funS Try.prog (qY Try.prog (xB 0)) (cfZ true) Try.f36 120 [.s (bL B ++ bL C) 64 c, .v (.im (.int .i64 32))] = some (p64 0 B C, ⟨zL B ++ bL C, 64, 5, 1, true, [.im (.int .u8 0)], [.im (.bool false), .im (.int .i64 0)]⟩) := by kernel_rfl
def cfOb : Nat → Cfg := fun _ => ⟨fun _ => T0, fun _ => true, fun n => bif Nat.beq n 13 then some (.bool true) else bif Nat.beq n 19 then some (.bool true) else none⟩
set_option maxRecDepth 100000 in
theorem run_bgo (p : Option Addr) (n c : Nat) : funB Try.prog (qG Try.prog) cfOb Try.f36 120 [.v (.im (.slice p n c)), .v (.im (.int .i64 32))] = some ([intOp .neq .i64 (n : Int) 32 = some (.bool true), intOp .neq .i64 (n : Int) 64 = some (.bool true)], rNo 3) := by kernel_rfl
end Go.Proofs.Ytebaoemoeckgaaa.Ex
namespace Go.Proofs.Ytebaoemoeckgaaa.Ex
set_option linter.unusedVariables false
set_option linter.unusedSimpArgs false
open Go.RowKit

def gRr : Ent
  | [c] => match lenC c with
    | some (l, 32) => (match bys l with | some L => some ([L8 (L.take 32)], .many [.fl (q1 (hv (L.take 32))), .im (.int .i64 0)]) | none => none)
    | _ => none
  | _ => none
theorem gRr_ok : ∀ cs pre r, gRr cs = some (pre, r) → allP pre → ∀ (args : List Value) (w : World), CAs w cs args → Good Try.prog 63 r args w := by
  intro cs pre r hg hp args w ha
  unfold gRr at hg
  split at hg
  · rename_i c
    split at hg
    · rename_i l hl
      split at hg
      · rename_i L hL
        cases hg
        have h8 : L8 (L.take 32) := hp.1
        have hle : 32 ≤ L.length := by have := h8.1; rw [List.length_take] at this; omega
        have htk : ∀ k, k < 32 → (L.take 32).getD k 0 = L.getD k 0 := fun k hk => by rw [List.getD_eq_getElem?_getD, List.getElem?_take, if_pos hk, ← List.getD_eq_getElem?_getD]
        match args, ha with
        | [v], ha =>
          obtain ⟨b, o, m, rfl, hb, hr⟩ := lenC_at hl (by have := ha; cases c <;> exact this.1)
          have h := refRead_32 b o m (fun k => (L.take 32).getD k 0) h8.2 w hb fun k hk => hr k _ (by have h := bys_cell hL k (by omega); rw [← htk k hk] at h; exact h)
          refine h.mono ?_
          rintro e w' ⟨s0, s1, s2, s3, c', rfl, hs, ⟨h1, rfl⟩, hbl⟩
          obtain ⟨rfl, rfl, rfl, rfl⟩ := fw_of hs (hv_lt h8) h1
          exact ⟨rfl, hbl⟩
        | [], ha => cases c <;> exact ha.elim
        | _ :: _ :: _, ha => cases c <;> exact ha.2.elim
      · cases hg
    · cases hg
  · cases hg
def T_pa (k : Bool) : Tab := (T0.add 63 gRr).add 21 (gBelc k)
theorem ok_pa (k : Bool) : TabOk Try.prog (T_pa k) := ((T0_ok _).add Try.func63 (by kernel_rfl) (by kernel_rfl) gRr_ok).add Try.func21 (by kernel_rfl) (by kernel_rfl) (belc_ok k)
/-- the two rounds' tests: j, k -/
def cfP (j k : Bool) : Nat → Cfg := fun n => ⟨fun _ => T_pa (bif Nat.beq n 87 then j else k), fun _ => true, fun _ => none⟩
def x0 : Ext := x3 Fs0 Wr0 (fun _ => none) (fun _ => none)
theorem x0_ok (w : World) : EqOkW Try.prog (qY Try.prog x0) w.heap.size w := x3_ok (Fs0_ok _) (Wr0_ok _) w
def pNo : RV := .many [.im (.slice none 0 0), .im (.bool false)]
set_option maxRecDepth 100000 in
theorem run_pa32_t (B : Nat → Nat) (c : Nat) : funS Try.prog (qY Try.prog x0) (cfP true true) Try.f37 100 [.s (bL B) 32 c] = some ([0 ≤ 32, 32 ≤ c, 0 < c, L8 (bN B), blw (hv (bN B)) = true], ⟨[.q (hv (bN B))], 1, 24, 4, true, [], [.im (.bool true)]⟩) := by kernel_rfl
set_option maxRecDepth 100000 in
theorem run_pa32_f (B : Nat → Nat) (c : Nat) : funB Try.prog (qY Try.prog x0) (cfP false false) Try.f37 100 [.s (bL B) 32 c] = some ([0 ≤ 32, 32 ≤ c, 0 < c, L8 (bN B), blw (hv (bN B)) = false], pNo) := by kernel_rfl
set_option maxRecDepth 100000 in
theorem run_pa64_t (B C : Nat → Nat) (c : Nat) : funS Try.prog (qY Try.prog x0) (cfP true true) Try.f37 100 [.s (bL B ++ bL C) 64 c] = some ([0 ≤ 32, 32 ≤ c, 0 < c, L8 (bN B), blw (hv (bN B)) = true, 32 ≤ 64, 64 ≤ c, 32 < c, L8 (bN C), blw (hv (bN C)) = true], ⟨[.q (hv (bN B)), .q (hv (bN C))], 2, 24, 4, true, [], [.im (.bool true)]⟩) := by kernel_rfl
set_option maxRecDepth 100000 in
theorem run_pa64_f (B C : Nat → Nat) (c : Nat) : funB Try.prog (qY Try.prog x0) (cfP false false) Try.f37 100 [.s (bL B ++ bL C) 64 c] = some ([0 ≤ 32, 32 ≤ c, 0 < c, L8 (bN B), blw (hv (bN B)) = false], pNo) := by kernel_rfl
set_option maxRecDepth 100000 in
theorem run_pa64_g (B C : Nat → Nat) (c : Nat) : funB Try.prog (qY Try.prog x0) (cfP true false) Try.f37 100 [.s (bL B ++ bL C) 64 c] = some ([0 ≤ 32, 32 ≤ c, 0 < c, L8 (bN B), blw (hv (bN B)) = true, 32 ≤ 64, 64 ≤ c, 32 < c, L8 (bN C), blw (hv (bN C)) = false], pNo) := by kernel_rfl
/-- parts that are all elements -/
def gPa : List CA → Option (List Prop × FS)
  | [.s l 32 c] => match bys l with
    | some L => some ([L8 L, 32 ≤ c, blw (hv L) = true], ⟨[.q (hv L)], 1, 24, 4, true, [], [.im (.bool true)]⟩)
    | none => none
  | [.s l 64 c] => match bys l with
    | some L => some ([L6 L, 64 ≤ c, blw (hv (L.take 32)) = true, blw (hv (L.drop 32)) = true], ⟨[.q (hv (L.take 32)), .q (hv (L.drop 32))], 2, 24, 4, true, [], [.im (.bool true)]⟩)
    | none => none
  | _ => none
/-- parts that are not -/
def gPn : Ent
  | [.s l 32 c] => match bys l with
    | some L => some ([L8 L, 32 ≤ c, blw (hv L) = false], pNo)
    | none => none
  | [.s l 64 c] => match bys l with
    | some L => some ([L6 L, 64 ≤ c, ¬ (blw (hv (L.take 32)) = true ∧ blw (hv (L.drop 32)) = true)], pNo)
    | none => none
  | _ => none
theorem cfP_ok (j k : Bool) (n d : Nat) : TabOk Try.prog ((cfP j k n).T d) := ok_pa _
theorem gPa_ok : ∀ cs pre r, gPa cs = some (pre, r) → allP pre → ∀ (args : List Value) (w : World), CAs w cs args → Calls Try.prog 37 args.toArray w (fun e w' => r.ok w e w') := by
  intro cs pre r hg hp args w ha
  have hT : ∀ n d : Nat, TabOkW Try.prog ((cfP true true n).T d) w.heap.size w := fun n d => (cfP_ok true true n d).w _ _
  unfold gPa at hg
  split at hg
  · rename_i l c
    split at hg
    · rename_i L hL
      cases hg
      obtain ⟨h8, hc, hb, _⟩ := hp
      have hN := bN_of h8.1
      have h := funS_sound hmix hT (x0_ok w) Try.func37 (run_pa32_t (fun k => L.getD k 0) c) (by rw [hN]; exact ⟨by omega, hc, by omega, h8, hb, trivial⟩) (casR (bL_of hL h8.1) ha)
      rw [hN] at h
      exact h
    · cases hg
  · rename_i l c
    split at hg
    · rename_i L hL
      cases hg
      obtain ⟨h6, hc, hb, hb2, _⟩ := hp
      have hN := bN_of h6.1.1
      have hM := bN_of h6.2.1
      have h := funS_sound hmix hT (x0_ok w) Try.func37 (run_pa64_t (fun k => (L.take 32).getD k 0) (fun k => (L.drop 32).getD k 0) c) (by rw [hN, hM]; exact ⟨by omega, by omega, by omega, h6.1, hb, by omega, hc, by omega, h6.2, hb2, trivial⟩) (casR (bL6_of hL h6) ha)
      rw [hN, hM] at h
      exact h
    · cases hg
  · cases hg
theorem gPn_ok : ∀ cs pre r, gPn cs = some (pre, r) → allP pre → ∀ (args : List Value) (w : World), CAs w cs args → Good Try.prog 37 r args w := by
  intro cs pre r hg hp args w ha
  have hT : ∀ (j k : Bool) (n d : Nat), TabOkW Try.prog ((cfP j k n).T d) w.heap.size w := fun j k n d => (cfP_ok j k n d).w _ _
  unfold gPn at hg
  split at hg
  · rename_i l c
    split at hg
    · rename_i L hL
      cases hg
      obtain ⟨h8, hc, hb, _⟩ := hp
      have hN := bN_of h8.1
      exact funB_soundW hmix (hT _ _) (x0_ok w) Try.func37 (run_pa32_f (fun k => L.getD k 0) c) (by rw [hN]; exact ⟨by omega, hc, by omega, h8, hb, trivial⟩) (casR (bL_of hL h8.1) ha)
    · cases hg
  · rename_i l c
    split at hg
    · rename_i L hL
      cases hg
      obtain ⟨h6, hc, hb, _⟩ := hp
      have hN := bN_of h6.1.1
      have hM := bN_of h6.2.1
      cases hb1 : blw (hv (L.take 32)) with
      | false => exact funB_soundW hmix (hT _ _) (x0_ok w) Try.func37 (run_pa64_f (fun k => (L.take 32).getD k 0) (fun k => (L.drop 32).getD k 0) c) (by rw [hN]; exact ⟨by omega, by omega, by omega, h6.1, hb1, trivial⟩) (casR (bL6_of hL h6) ha)
      | true =>
        have hb2 : blw (hv (L.drop 32)) = false := by
          cases hb2 : blw (hv (L.drop 32)) with
          | false => rfl
          | true => exact absurd ⟨hb1, hb2⟩ hb
        exact funB_soundW hmix (hT _ _) (x0_ok w) Try.func37 (run_pa64_g (fun k => (L.take 32).getD k 0) (fun k => (L.drop 32).getD k 0) c) (by rw [hN, hM]; exact ⟨by omega, by omega, by omega, h6.1, hb1, by omega, hc, by omega, h6.2, hb2, trivial⟩) (casR (bL6_of hL h6) ha)
    · cases hg
  · cases hg
end Go.Proofs.Ytebaoemoeckgaaa.Ex
