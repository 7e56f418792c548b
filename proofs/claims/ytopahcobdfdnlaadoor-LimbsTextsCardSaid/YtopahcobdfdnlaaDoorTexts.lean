/-
  THE STATEMENT LimbsTexts: bytes and decimal texts, any of them, are the reference's: the law answers true. Conditions: the row's own.
-/
import Derived.Test.YtopahcobdfdnlaaDoorSame
import Derived.Test.YtopahcobdfdnlaaDoorPrint
import Derived.Test.YtopahcobdfdnlaaDoorRefPrint
import Derived.Test.YtopahcobdfdnlaaDoorRefParse
import Derived.Test.YtopahcobdfdnlaaDoorAlive
import Derived.Test.YtopahcobdfdnlaaDoorRing
import Derived.Test.YtopahcobdfdnlaaDoorTill
namespace Go.Proofs.YtopahcobdfdnlaaDoor
set_option linter.unusedVariables false
set_option linter.unusedSimpArgs false
open Go.RowKit

theorem num_below' (n : Int) (w : World) : Calls Tryd.prog 30 #[.int .i64 n] w fun e w' => e = .returned (.int .i64 n) ∧ Below w.heap.size w w' :=
  (num_calls n w).mono fun e w' ⟨he, hw⟩ => ⟨he, hw ▸ Below.refl _ _⟩

/-- a slice of bytes is read as the number n with the error c, by both, wherever nothing older has changed -/
def ReadsAs (W : World) (v : Value) (n c : Nat) : Prop :=
  ∀ w, Below W.heap.size W w → Calls Tryd.prog 31 #[v] w (ReadPost (fun m d => m = n ∧ d = c) w) ∧ Calls Tryd.prog 32 #[v] w (ReadPost (fun m d => m = n ∧ d = c) w)
theorem readsAs_short (W : World) (v : Option Addr) (len cap : Nat) (hl : len ≠ 32) (hm : len ≤ 9223372036854775807) : ReadsAs W (.slice v len cap) 0 3 :=
  fun w _ => ⟨read_short v len cap hl hm w, refRead_short v len cap hl hm w⟩
theorem readsAs_32 (W : World) (g off cap : Nat) (B : Nat → Nat) (hB : ∀ k, B k < 256) (hg : g < W.heap.size) (hc : ∀ k, k < 32 → W.cell? ⟨g, off + k, none⟩ = some (.int .u8 (B k : Nat))) : ReadsAs W (.slice (some ⟨g, off, none⟩) 32 cap) (hor B 0 32) 0 := fun w hb =>
  have h1 : ∀ k, k < 32 → w.cell? ⟨g, off + k, none⟩ = some (.int .u8 (B k : Nat)) := fun k hk => (hb.cell (p := ⟨g, off + k, none⟩) hg).trans (hc k hk)
  ⟨read_32 g off cap B hB w (Nat.lt_of_lt_of_le hg hb.size) h1, refRead_32 g off cap B hB w (Nat.lt_of_lt_of_le hg hb.size) h1⟩

set_option maxRecDepth 100000 in
set_option maxHeartbeats 8000000 in
theorem texts_calls (a0 a1 a2 a3 : Nat) (ha : ok4 a0 a1 a2 a3) (o : Option Addr) (len cap : Nat) (s : ByteArray) (w : World) (n c : Nat) (hR : ReadsAs w (.slice o len cap) n c) (hs : s.size ≤ maxLen) (htab : Lib.TabIs Tryd.prog w "internal/strconv.uint64pow10" .u64 Lib.pow10Tab) :
    Calls Tryd.prog 6 #[.agg #[.int .u64 a0, .int .u64 a1, .int .u64 a2, .int .u64 a3], .slice o len cap, .string s] w fun e w' => e = .returned (.bool true) ∧ Below w.heap.size w w' := by
  have hG := eqGuardW
  have hS := equalSelf
  have HT := Lib.hid htab
  have HR := Lib.hid hR
  have RB1 := Lib.hid (fun w => bytes_calls a0 a1 a2 a3 ha w)
  have RB2 := Lib.hid (fun w => refBytes_calls a0 a1 a2 a3 ha w)
  have RP1 := Lib.hid (fun w h => print_calls a0 a1 a2 a3 ha w h)
  have RP2 := Lib.hid (fun w => refPrint_calls a0 a1 a2 a3 ha w)
  have RS1 := Lib.hid (fun w => parse_calls s hs w)
  have RS2 := Lib.hid (fun w => refParse_calls s hs w)
  clear htab hR hs
  generalize val4 a0 a1 a2 a3 = A at *
  go_enter Tryd.func6, Tryd.ntmps6
  go_wp2_with fail
  have M := Lib.hid ((Mem.nil w).new (w.heap.size) a0 a1 a2 a3 24 rfl)
  refine (HR.out _ M.out.1).1.mono ?_
  rintro e w1 ⟨u0, u1, u2, u3, c, rfl, hu, ⟨eu, rfl⟩, hbl⟩
  have M1 := Lib.hid ((M.out.on hbl).new (w1.heap.size) u0 u1 u2 u3 24 rfl)
  have Heu := Lib.hid eu
  clear M hbl eu
  go_wp2_with fail
  refine (HR.out _ M1.out.1).2.mono ?_
  rintro e w2 ⟨t0, t1, t2, t3, c', rfl, ht, ⟨et, ec⟩, hbl⟩
  obtain ⟨rfl, rfl, rfl, rfl⟩ := val4_inj ht hu (et.trans Heu.out.symm)
  subst ec
  have M2 := Lib.hid ((M1.out.on hbl).new (w2.heap.size) t0 t1 t2 t3 24 rfl)
  clear M1 hbl et ht Heu
  go_wp2_with fail
  refine (RS1.out _).mono ?_
  rintro e w3 ⟨v0, v1, v2, v3, f, rfl, hv, ev, hbl⟩
  have M3 := Lib.hid ((M2.out.on hbl).new (w3.heap.size) v0 v1 v2 v3 24 rfl)
  have Hev := Lib.hid ev
  clear M2 hbl ev
  go_wp2_with fail
  refine (RS2.out _).mono ?_
  rintro e w4 ⟨x0, x1, x2, x3, g, rfl, hx, ex, hbl⟩
  have eq2 := ex.trans Hev.out.symm
  obtain ⟨rfl, rfl, rfl, rfl⟩ := val4_inj hx hv (congrArg Prod.fst eq2)
  obtain rfl : g = f := congrArg Prod.snd eq2
  have M := Lib.hid ((M3.out.on hbl).new (w4.heap.size) x0 x1 x2 x3 24 rfl)
  clear M3 hbl ex eq2 Hev hx
  go_wp2_with fail
  refine region_till (fun wx => Mem w wx [(w4.heap.size, x0, x1, x2, x3), (w3.heap.size, x0, x1, x2, x3), (w2.heap.size, t0, t1, t2, t3), (w1.heap.size, t0, t1, t2, t3), (w.heap.size, a0, a1, a2, a3)]) 37 (by kernel_rfl) ?_
  have HS := M.out.drewN 1
  clear M
  have HM := Lib.hid HS
  refine till_take (i := 0) (v := .agg #[.int .u64 a0, .int .u64 a1, .int .u64 a2, .int .u64 a3]) rfl (by kernel_rfl) (by kernel_rfl) (by kernel_rfl) (by kernel_rfl) (fun _ _ _ h => h) HS (Or.inl ⟨by kernel_rfl, fun wx hx => ?_⟩) ?_
  · have kr := (hx.2 (w.heap.size, a0, a1, a2, a3) (List.Mem.tail _ (List.Mem.tail _ (List.Mem.tail _ (List.Mem.tail _ (List.Mem.head _)))))).2
    have k0 := kr.c0; have k1 := kr.c1; have k2 := kr.c2; have k3 := kr.c3; have kf := kr.fr
    clear kr HS hx
    go_simp
  simp only [Act.put, List.setIfInBounds_toArray, List.set_cons_zero, List.set_cons_succ]
  refine till_take (i := 2) (v := .agg #[.int .u64 a0, .int .u64 a1, .int .u64 a2, .int .u64 a3]) rfl (by kernel_rfl) (by kernel_rfl) (by kernel_rfl) (by kernel_rfl) (fun _ _ _ h => h) HS (Or.inl ⟨by kernel_rfl, fun wx hx => ?_⟩) ?_
  · have kr := (hx.2 (w.heap.size, a0, a1, a2, a3) (List.Mem.tail _ (List.Mem.tail _ (List.Mem.tail _ (List.Mem.tail _ (List.Mem.head _)))))).2
    have k0 := kr.c0; have k1 := kr.c1; have k2 := kr.c2; have k3 := kr.c3; have kf := kr.fr
    clear kr HS hx
    go_simp
  simp only [Act.put, List.setIfInBounds_toArray, List.set_cons_zero, List.set_cons_succ]
  clear HS
  refine till_step (i := 1) (by kernel_rfl) rfl (fun K hK => ?_)
  go_simp
  refine (RB1.out _).mono ?_
  rintro e w5 ⟨x, rfl, lox, ltx, rx, hbl⟩
  have Hx := Lib.hid rx
  have Ltx := Lib.hid ltx
  clear rx ltx lox
  have HS := HM.out.on hbl
  clear HM hbl
  have HM := Lib.hid HS
  refine hK.out _ _ (Or.inr HS) (fun _ => ?_)
  clear hK K
  clear HS
  refine till_step (i := 3) (by kernel_rfl) rfl (fun K hK => ?_)
  go_simp
  refine (RB2.out _).mono ?_
  rintro e w6 ⟨y, cap', rfl, lty, ry, hbl⟩
  have Hx6 := Lib.hid (Hx.out.below hbl Ltx.out)
  have Hy6 := Lib.hid ry
  clear ry lty Hx Ltx
  have HS := HM.out.on hbl
  clear HM hbl
  have HM := Lib.hid HS
  refine hK.out _ _ (Or.inr HS) (fun _ => ?_)
  clear hK K
  clear HS
  refine till_step (i := 4) (by kernel_rfl) rfl (fun K hK => ?_)
  go_simp
  refine (same_calls x 0 32 y 0 cap' (byteAt A) _ (fun k hk => by rw [Nat.zero_add]; exact (Hx6.out k hk).1) (fun k hk => by rw [Nat.zero_add]; exact Hy6.out k hk)).mono ?_
  rintro e w7 ⟨rfl, hbl⟩
  clear Hx6 Hy6
  have HS := HM.out.on hbl
  clear HM hbl
  have HM := Lib.hid HS
  refine hK.out _ _ (Or.inr HS) (fun _ => ?_)
  clear hK K
  refine till_take (i := 5) (v := .bool true) rfl (by kernel_rfl) (by kernel_rfl) (by kernel_rfl) (by kernel_rfl) (fun _ _ _ h => h) HS (Or.inl ⟨by kernel_rfl, fun wx hx => ?_⟩) ?_
  · clear hx HS
    go_simp
  simp only [Act.put, List.setIfInBounds_toArray, List.set_cons_zero, List.set_cons_succ]
  refine till_take (i := 6) (v := .agg #[.int .u64 a0, .int .u64 a1, .int .u64 a2, .int .u64 a3]) rfl (by kernel_rfl) (by kernel_rfl) (by kernel_rfl) (by kernel_rfl) (fun _ _ _ h => h) HS (Or.inl ⟨by kernel_rfl, fun wx hx => ?_⟩) ?_
  · have kr := (hx.2 (w.heap.size, a0, a1, a2, a3) (List.Mem.tail _ (List.Mem.tail _ (List.Mem.tail _ (List.Mem.tail _ (List.Mem.head _)))))).2
    have k0 := kr.c0; have k1 := kr.c1; have k2 := kr.c2; have k3 := kr.c3; have kf := kr.fr
    clear kr HS hx
    go_simp
  simp only [Act.put, List.setIfInBounds_toArray, List.set_cons_zero, List.set_cons_succ]
  refine till_take (i := 8) (v := .agg #[.int .u64 a0, .int .u64 a1, .int .u64 a2, .int .u64 a3]) rfl (by kernel_rfl) (by kernel_rfl) (by kernel_rfl) (by kernel_rfl) (fun _ _ _ h => h) HS (Or.inl ⟨by kernel_rfl, fun wx hx => ?_⟩) ?_
  · have kr := (hx.2 (w.heap.size, a0, a1, a2, a3) (List.Mem.tail _ (List.Mem.tail _ (List.Mem.tail _ (List.Mem.tail _ (List.Mem.head _)))))).2
    have k0 := kr.c0; have k1 := kr.c1; have k2 := kr.c2; have k3 := kr.c3; have kf := kr.fr
    clear kr HS hx
    go_simp
  simp only [Act.put, List.setIfInBounds_toArray, List.set_cons_zero, List.set_cons_succ]
  clear HS
  refine till_step (i := 7) (by kernel_rfl) rfl (fun K hK => ?_)
  go_simp
  refine (RP1.out _ (tab_below HT.out HM.out.1 (Nat.le_refl _))).mono ?_
  rintro e w8 ⟨rfl, hbl⟩
  have HS := HM.out.on hbl
  clear HM hbl
  have HM := Lib.hid HS
  refine hK.out _ _ (Or.inr HS) (fun _ => ?_)
  clear hK K
  clear HS
  refine till_step (i := 9) (by kernel_rfl) rfl (fun K hK => ?_)
  go_simp
  refine (RP2.out _).mono ?_
  rintro e w9 ⟨rfl, hbl⟩
  have HS := HM.out.on hbl
  clear HM hbl
  have HM := Lib.hid HS
  refine hK.out _ _ (Or.inr HS) (fun _ => ?_)
  clear hK K
  refine till_take (i := 10) (v := .bool true) rfl (by kernel_rfl) (by kernel_rfl) (by kernel_rfl) (by kernel_rfl) (fun _ _ _ h => h) HS (Or.inl ⟨by kernel_rfl, fun wx hx => ?_⟩) ?_
  · clear hx HS
    go_simp
  simp only [Act.put, List.setIfInBounds_toArray, List.set_cons_zero, List.set_cons_succ]
  refine till_take (i := 11) (v := .bool true) rfl (by kernel_rfl) (by kernel_rfl) (by kernel_rfl) (by kernel_rfl) (fun _ _ _ h => h) HS (Or.inl ⟨by kernel_rfl, fun wx hx => ?_⟩) ?_
  · clear hx HS
    go_simp
  simp only [Act.put, List.setIfInBounds_toArray, List.set_cons_zero, List.set_cons_succ]
  refine till_take (i := 12) (v := .bool true) rfl (by kernel_rfl) (by kernel_rfl) (by kernel_rfl) (by kernel_rfl) (fun _ _ _ h => h) HS (Or.inl ⟨by kernel_rfl, fun wx hx => ?_⟩) ?_
  · clear hx HS
    go_simp
  simp only [Act.put, List.setIfInBounds_toArray, List.set_cons_zero, List.set_cons_succ]
  refine till_take (i := 13) (v := .agg #[.int .u64 t0, .int .u64 t1, .int .u64 t2, .int .u64 t3]) rfl (by kernel_rfl) (by kernel_rfl) (by kernel_rfl) (by kernel_rfl) (fun _ _ _ h => h) HS (Or.inl ⟨by kernel_rfl, fun wx hx => ?_⟩) ?_
  · have kr := (hx.2 (w1.heap.size, t0, t1, t2, t3) (List.Mem.tail _ (List.Mem.tail _ (List.Mem.tail _ (List.Mem.head _))))).2
    have k0 := kr.c0; have k1 := kr.c1; have k2 := kr.c2; have k3 := kr.c3; have kf := kr.fr
    clear kr HS hx
    go_simp
  simp only [Act.put, List.setIfInBounds_toArray, List.set_cons_zero, List.set_cons_succ]
  refine till_take (i := 14) (v := .agg #[.int .u64 t0, .int .u64 t1, .int .u64 t2, .int .u64 t3]) rfl (by kernel_rfl) (by kernel_rfl) (by kernel_rfl) (by kernel_rfl) (fun _ _ _ h => h) HS (Or.inl ⟨by kernel_rfl, fun wx hx => ?_⟩) ?_
  · have kr := (hx.2 (w2.heap.size, t0, t1, t2, t3) (List.Mem.tail _ (List.Mem.tail _ (List.Mem.head _)))).2
    have k0 := kr.c0; have k1 := kr.c1; have k2 := kr.c2; have k3 := kr.c3; have kf := kr.fr
    clear kr HS hx
    go_simp
  simp only [Act.put, List.setIfInBounds_toArray, List.set_cons_zero, List.set_cons_succ]
  refine till_take (i := 15) (v := .bool true) rfl (by kernel_rfl) (by kernel_rfl) (by kernel_rfl) (by kernel_rfl) (fun _ _ _ h => h) HS (Or.inl ⟨by kernel_rfl, fun wx hx => ?_⟩) ?_
  · clear hx HS
    go_simp
  simp only [Act.put, List.setIfInBounds_toArray, List.set_cons_zero, List.set_cons_succ]
  refine till_take (i := 16) (v := .bool true) rfl (by kernel_rfl) (by kernel_rfl) (by kernel_rfl) (by kernel_rfl) (fun _ _ _ h => h) HS (Or.inl ⟨by kernel_rfl, fun wx hx => ?_⟩) ?_
  · clear hx HS
    go_simp
  simp only [Act.put, List.setIfInBounds_toArray, List.set_cons_zero, List.set_cons_succ]
  refine till_take (i := 17) (v := .bool true) rfl (by kernel_rfl) (by kernel_rfl) (by kernel_rfl) (by kernel_rfl) (fun _ _ _ h => h) HS (Or.inl ⟨by kernel_rfl, fun wx hx => ?_⟩) ?_
  · clear hx HS
    go_simp
  simp only [Act.put, List.setIfInBounds_toArray, List.set_cons_zero, List.set_cons_succ]
  refine till_take (i := 18) (v := .int .i64 c') rfl (by kernel_rfl) (by kernel_rfl) (by kernel_rfl) (by kernel_rfl) (fun _ _ _ h => h) HS (Or.inl ⟨by kernel_rfl, fun wx hx => ?_⟩) ?_
  · clear hx HS
    go_simp
  simp only [Act.put, List.setIfInBounds_toArray, List.set_cons_zero, List.set_cons_succ]
  refine till_take (i := 20) (v := .int .i64 c') rfl (by kernel_rfl) (by kernel_rfl) (by kernel_rfl) (by kernel_rfl) (fun _ _ _ h => h) HS (Or.inl ⟨by kernel_rfl, fun wx hx => ?_⟩) ?_
  · clear hx HS
    go_simp
  simp only [Act.put, List.setIfInBounds_toArray, List.set_cons_zero, List.set_cons_succ]
  clear HS
  refine till_step (i := 19) (by kernel_rfl) rfl (fun K hK => ?_)
  go_simp
  refine (num_below' c' _).mono ?_
  rintro e w10 ⟨rfl, hbl⟩
  have HS := HM.out.on hbl
  clear HM hbl
  have HM := Lib.hid HS
  refine hK.out _ _ (Or.inr HS) (fun _ => ?_)
  clear hK K
  refine till_take (i := 21) (v := .bool true) rfl (by kernel_rfl) (by kernel_rfl) (by kernel_rfl) (by kernel_rfl) (fun _ _ _ h => h) HS (Or.inl ⟨by kernel_rfl, fun wx hx => ?_⟩) ?_
  · clear hx HS
    go_simp
  simp only [Act.put, List.setIfInBounds_toArray, List.set_cons_zero, List.set_cons_succ]
  refine till_take (i := 22) (v := .bool true) rfl (by kernel_rfl) (by kernel_rfl) (by kernel_rfl) (by kernel_rfl) (fun _ _ _ h => h) HS (Or.inl ⟨by kernel_rfl, fun wx hx => ?_⟩) ?_
  · clear hx HS
    go_simp
  simp only [Act.put, List.setIfInBounds_toArray, List.set_cons_zero, List.set_cons_succ]
  refine till_take (i := 23) (v := .bool true) rfl (by kernel_rfl) (by kernel_rfl) (by kernel_rfl) (by kernel_rfl) (fun _ _ _ h => h) HS (Or.inl ⟨by kernel_rfl, fun wx hx => ?_⟩) ?_
  · clear hx HS
    go_simp
  simp only [Act.put, List.setIfInBounds_toArray, List.set_cons_zero, List.set_cons_succ]
  refine till_take (i := 24) (v := .agg #[.int .u64 x0, .int .u64 x1, .int .u64 x2, .int .u64 x3]) rfl (by kernel_rfl) (by kernel_rfl) (by kernel_rfl) (by kernel_rfl) (fun _ _ _ h => h) HS (Or.inl ⟨by kernel_rfl, fun wx hx => ?_⟩) ?_
  · have kr := (hx.2 (w3.heap.size, x0, x1, x2, x3) (List.Mem.tail _ (List.Mem.head _))).2
    have k0 := kr.c0; have k1 := kr.c1; have k2 := kr.c2; have k3 := kr.c3; have kf := kr.fr
    clear kr HS hx
    go_simp
  simp only [Act.put, List.setIfInBounds_toArray, List.set_cons_zero, List.set_cons_succ]
  refine till_take (i := 25) (v := .agg #[.int .u64 x0, .int .u64 x1, .int .u64 x2, .int .u64 x3]) rfl (by kernel_rfl) (by kernel_rfl) (by kernel_rfl) (by kernel_rfl) (fun _ _ _ h => h) HS (Or.inl ⟨by kernel_rfl, fun wx hx => ?_⟩) ?_
  · have kr := (hx.2 (w4.heap.size, x0, x1, x2, x3) (List.Mem.head _)).2
    have k0 := kr.c0; have k1 := kr.c1; have k2 := kr.c2; have k3 := kr.c3; have kf := kr.fr
    clear kr HS hx
    go_simp
  simp only [Act.put, List.setIfInBounds_toArray, List.set_cons_zero, List.set_cons_succ]
  refine till_take (i := 26) (v := .bool true) rfl (by kernel_rfl) (by kernel_rfl) (by kernel_rfl) (by kernel_rfl) (fun _ _ _ h => h) HS (Or.inl ⟨by kernel_rfl, fun wx hx => ?_⟩) ?_
  · clear hx HS
    go_simp
  simp only [Act.put, List.setIfInBounds_toArray, List.set_cons_zero, List.set_cons_succ]
  refine till_take (i := 27) (v := .bool true) rfl (by kernel_rfl) (by kernel_rfl) (by kernel_rfl) (by kernel_rfl) (fun _ _ _ h => h) HS (Or.inl ⟨by kernel_rfl, fun wx hx => ?_⟩) ?_
  · clear hx HS
    go_simp
  simp only [Act.put, List.setIfInBounds_toArray, List.set_cons_zero, List.set_cons_succ]
  refine till_take (i := 28) (v := .bool true) rfl (by kernel_rfl) (by kernel_rfl) (by kernel_rfl) (by kernel_rfl) (fun _ _ _ h => h) HS (Or.inl ⟨by kernel_rfl, fun wx hx => ?_⟩) ?_
  · clear hx HS
    go_simp
  simp only [Act.put, List.setIfInBounds_toArray, List.set_cons_zero, List.set_cons_succ]
  refine till_take (i := 29) (v := .int .i64 g) rfl (by kernel_rfl) (by kernel_rfl) (by kernel_rfl) (by kernel_rfl) (fun _ _ _ h => h) HS (Or.inl ⟨by kernel_rfl, fun wx hx => ?_⟩) ?_
  · clear hx HS
    go_simp
  simp only [Act.put, List.setIfInBounds_toArray, List.set_cons_zero, List.set_cons_succ]
  refine till_take (i := 31) (v := .int .i64 g) rfl (by kernel_rfl) (by kernel_rfl) (by kernel_rfl) (by kernel_rfl) (fun _ _ _ h => h) HS (Or.inl ⟨by kernel_rfl, fun wx hx => ?_⟩) ?_
  · clear hx HS
    go_simp
  simp only [Act.put, List.setIfInBounds_toArray, List.set_cons_zero, List.set_cons_succ]
  clear HS
  refine till_step (i := 30) (by kernel_rfl) rfl (fun K hK => ?_)
  go_simp
  refine (num_below' g _).mono ?_
  rintro e w11 ⟨rfl, hbl⟩
  have HS := HM.out.on hbl
  clear HM hbl
  have HM := Lib.hid HS
  refine hK.out _ _ (Or.inr HS) (fun _ => ?_)
  clear hK K
  refine till_take (i := 32) (v := .bool true) rfl (by kernel_rfl) (by kernel_rfl) (by kernel_rfl) (by kernel_rfl) (fun _ _ _ h => h) HS (Or.inl ⟨by kernel_rfl, fun wx hx => ?_⟩) ?_
  · clear hx HS
    go_simp
  simp only [Act.put, List.setIfInBounds_toArray, List.set_cons_zero, List.set_cons_succ]
  refine till_take (i := 33) (v := .bool true) rfl (by kernel_rfl) (by kernel_rfl) (by kernel_rfl) (by kernel_rfl) (fun _ _ _ h => h) HS (Or.inl ⟨by kernel_rfl, fun wx hx => ?_⟩) ?_
  · clear hx HS
    go_simp
  simp only [Act.put, List.setIfInBounds_toArray, List.set_cons_zero, List.set_cons_succ]
  refine till_take (i := 34) (v := .bool true) rfl (by kernel_rfl) (by kernel_rfl) (by kernel_rfl) (by kernel_rfl) (fun _ _ _ h => h) HS (Or.inl ⟨by kernel_rfl, fun wx hx => ?_⟩) ?_
  · clear hx HS
    go_simp
  simp only [Act.put, List.setIfInBounds_toArray, List.set_cons_zero, List.set_cons_succ]
  clear HS
  refine till_step (i := 35) (by kernel_rfl) rfl (fun K hK => ?_)
  go_simp
  refine (alive_calls _ (tab_below HT.out HM.out.1 (Nat.le_refl _))).mono ?_
  rintro e w12 ⟨rfl, hbl⟩
  have HS := HM.out.on hbl
  clear HM hbl
  have HM := Lib.hid HS
  refine hK.out _ _ (Or.inr HS) (fun _ => ?_)
  clear hK K
  refine till_take (i := 36) (v := .bool true) rfl (by kernel_rfl) (by kernel_rfl) (by kernel_rfl) (by kernel_rfl) (fun _ _ _ h => h) HS (Or.inl ⟨by kernel_rfl, fun wx hx => ?_⟩) ?_
  · clear hx HS
    go_simp
  simp only [Act.put, List.setIfInBounds_toArray, List.set_cons_zero, List.set_cons_succ]
  clear HS
  refine till_step (i := 37) (by kernel_rfl) rfl (fun K hK => ?_)
  go_simp
  refine hK.out _ _ (Or.inl rfl) (fun _ => ?_)
  clear hK K
  refine till_done (by kernel_rfl) ?_
  go_wp2_with fail
  go_ret
  exact ⟨rfl, HM.out.1⟩
end Go.Proofs.YtopahcobdfdnlaaDoor
