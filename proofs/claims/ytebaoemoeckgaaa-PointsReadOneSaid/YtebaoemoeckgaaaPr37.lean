/-
  The reference's Read1, out of what its begin and parts answer. Conditions: their contracts.
  Read1 and the reference's answer alike, whatever the bytes. Conditions: they are below 256.
-/
import Derived.Test.YtebaoemoeckgaaaPr36
namespace Go.Proofs.Ytebaoemoeckgaaa.Ex
set_option linter.unusedVariables false
set_option linter.unusedSimpArgs false
open Go.RowKit

/-- an entry whose condition is its contract -/
def HasR (f : FuncId) (cs : List CA) (r : RV) : Prop := ∀ (args : List Value) (w : World), CAs w cs args → Good Try.prog f r args w
def HasS (f : FuncId) (cs : List CA) (r : FS) : Prop := ∀ (args : List Value) (w : World), CAs w cs args → Calls Try.prog f args.toArray w (fun e w' => r.ok w e w')
def gHasR (f : FuncId) (r : RV) : Ent := fun cs => some ([HasR f cs r], r)
def gHasS (f : FuncId) (r : FS) : List CA → Option (List Prop × FS) := fun cs => some ([HasS f cs r], r)
theorem gHasR_ok (f : FuncId) (r0 : RV) : ∀ cs pre r, gHasR f r0 cs = some (pre, r) → allP pre → ∀ (args : List Value) (w : World), CAs w cs args → Good Try.prog f r args w := by
  intro cs pre r hg hp args w ha
  cases hg
  exact hp.1 args w ha
theorem gHasS_ok (f : FuncId) (r0 : FS) : ∀ cs pre r, gHasS f r0 cs = some (pre, r) → allP pre → ∀ (args : List Value) (w : World), CAs w cs args → Calls Try.prog f args.toArray w (fun e w' => r.ok w e w') := by
  intro cs pre r hg hp args w ha
  cases hg
  exact hp.1 args w ha
noncomputable def gSqR (d : Bool) : Ent
  | [.v (.im (.int .i64 (.ofNat 1))), .v (.fl l)] => match rd1 l with
    | some s => some ([(bif d then isq s else ¬ isq s)], .many [.fl (e1 (rtX d s)), .im (.int .i64 (bif d then 0 else 23))])
    | none => none
  | _ => none
set_option maxRecDepth 100000 in
theorem gSqR_ok (d : Bool) : ∀ cs pre r, gSqR d cs = some (pre, r) → allP pre → ∀ (args : List Value) (w : World), CAs w cs args → Good Try.prog 38 r args w := by
  intro cs pre r hg hp args w ha
  unfold gSqR at hg
  split at hg
  · rename_i l
    split at hg
    · rename_i x hx
      cases hg
      obtain ⟨h, _⟩ := hp
      match args, ha with
      | [v, u], ha =>
        have e1' : v = .int .i64 1 := ha.1
        have e2' : u = .agg (flat l).toArray := ha.2.1
        rw [rd1_ok l _ hx] at e2'
        subst e1'; subst e2'
        have hx : val4 (fw x.1 0) (fw x.1 1) (fw x.1 2) (fw x.1 3) = x.1 := fw_valp x.2
        cases d
        · obtain ⟨h0, h1⟩ := nsqF_pow h
          have hz : x.1 ^ (FP.M / 2) % FP.M ≠ 0 := fun e => by
            have := half_pow fpRoot (by decide) (by decide) (show 0 < x.1 by omega) x.2
            have := hM
            omega
          refine (rsqrt_no 1 FP fld1 _ _ _ _ (fw_ok x.1) (by rw [hx]; unfold legV; rw [if_neg hz, if_neg h1]) w).mono ?_
          rintro e w' ⟨s0, s1, s2, s3, rfl, hs, hv, hb⟩
          obtain ⟨rfl, rfl, rfl, rfl⟩ := fw_of hs (fp_lt fp_pos) hv
          exact ⟨rfl, hb⟩
        · refine (rsqrtP_yes _ _ _ _ (fw_ok x.1) (by rw [hx]; exact x.2) (by rw [hx]; exact isqF_pow h) w).mono ?_
          rintro e w' ⟨s0, s1, s2, s3, rfl, hs, h1, h2, h3, hb⟩
          rw [hx] at h1
          have e3 : rtX true x = ⟨val4 s0 s1 s2 s3, h2⟩ := (rtX_t x).trans (fsq_uniq (Fin.ext h1) h3)
          rw [e3]
          obtain ⟨e0, e1, e2, e3⟩ := fw_of hs (fp_lt h2) rfl
          refine ⟨?_, hb⟩
          show Ending.returned (.tuple #[.agg #[.int .u64 s0, .int .u64 s1, .int .u64 s2, .int .u64 s3], .int .i64 0]) = .returned (.tuple #[.agg (w4 (val4 s0 s1 s2 s3)).toArray, .int .i64 0])
          unfold w4
          rw [← e0, ← e1, ← e2, ← e3]
      | [], ha => exact ha.elim
      | [_], ha => exact ha.2.elim
      | _ :: _ :: _ :: _, ha => exact ha.2.2.elim
    · cases hg
  · cases hg
/-- begin refuses -/
noncomputable def T_bn (e : Int) : Tab := T0.add 36 (gHasR 36 (rNo e))
theorem ok_bn (e : Int) : TabOk Try.prog (T_bn e) := (T0_ok _).add Try.func36 (by kernel_rfl) (by kernel_rfl) (gHasR_ok _ _)
set_option maxRecDepth 100000 in
theorem run_rr_s44 (l : List At) (n c : Nat) : funB Try.prog (qG Try.prog) (cfB (T_bn 44)) Try.f17 120 [.s l n c] = some ([HasR 36 [.s l n c, .v (.im (.int .i64 32))] (rNo 44)], .many [.fl zG, .im (.int .i64 44)]) := by kernel_rfl
set_option maxRecDepth 100000 in
theorem run_rr_v3 (p : Option Addr) (n c : Nat) : funB Try.prog (qG Try.prog) (cfB (T_bn 3)) Try.f17 120 [.v (.im (.slice p n c))] = some ([HasR 36 [.v (.im (.slice p n c)), .v (.im (.int .i64 32))] (rNo 3)], .many [.fl zG, .im (.int .i64 3)]) := by kernel_rfl
def rBg (rest : List At) (n m : Nat) (i : Bool) : FS := ⟨rest, n, 5, 1, true, [.im (.int .u8 (Int.ofNat m))], [.im (.bool i), .im (.int .i64 0)]⟩
def xBg (rest : List At) (n m : Nat) (i : Bool) : Ext := x3 (Fs0.add 36 (gHasS 36 (rBg rest n m i))) Wr0 (fun _ => none) (fun _ => none)
theorem xBg_ok (rest : List At) (n m : Nat) (i : Bool) (w : World) : EqOkW Try.prog (qY Try.prog (xBg rest n m i)) w.heap.size w := x3_ok ((Fs0_ok _).add Try.func36 (by kernel_rfl) (by kernel_rfl) (gHasS_ok _ _)) (Wr0_ok _) w
def HBg (l : List At) (n c : Nat) (r : FS) : Prop := HasS 36 [.s l n c, .v (.im (.int .i64 32))] r
/-- infinity -/
def iG : List At := [.f F1.zero, .f F1.zero, .c (.bool true)]
set_option maxRecDepth 100000 in
theorem run_rr_inf (l rest : List At) (n c : Nat) : funB Try.prog (qY Try.prog (xBg rest n 1 true)) cT0 Try.f17 120 [.s l n c] = some ([HBg l n c (rBg rest n 1 true)], .many [.fl iG, .im (.int .i64 0)]) := by kernel_rfl
noncomputable def rrCode : Code := (Try.f17.body).getD .skip
theorem rr_code : rrCode = .seq (cA rrCode) (.seq (cA (cB rrCode)) (cB (cB rrCode))) := by kernel_rfl
def rrA0 : List Fact := [.slot 2 (.pt 2 0), .row 2 true zG]
def rrA1 (rest : List At) (n m : Nat) : List Fact := [.slot 5 (.so 15 n), .app 15 5 1 n, .slot 2 (.pt 2 0), .row 2 true zG, .slot 4 (.im (.int .u8 (Int.ofNat m))), .row 15 true rest, .slot 6 (.im (.bool false)), .slot 7 (.im (.int .i64 0))]
def rrA2 (rest : List At) (n m cap : Nat) : List Fact := [.slot 5 (.sl 15 0 n cap), .slot 2 (.pt 2 0), .row 2 true zG, .slot 4 (.im (.int .u8 (Int.ofNat m))), .row 15 true rest, .slot 6 (.im (.bool false)), .slot 7 (.im (.int .i64 0))]
set_option maxRecDepth 100000 in
theorem rr_s0 (l : List At) (n c : Nat) : runK Try.prog (qG Try.prog) Try.f17.ntmps cT0 60 (cA rrCode) (argF 0 [.s l n c]) (.slot 0 (.sl 0 0 n c) :: .row 0 false l :: rrA0) = some ([], .nrm, .slot 0 (.sl 0 0 n c) :: .row 0 false l :: rrA0) := by kernel_rfl
set_option maxRecDepth 100000 in
theorem rr_s1 (l rest : List At) (n m c : Nat) : runK Try.prog (qY Try.prog (xBg rest n m false)) Try.f17.ntmps cT0 60 (cA (cB rrCode)) (.slot 0 (.sl 0 0 n c) :: .row 0 false l :: rrA0) (rrA1 rest n m) = some ([HBg l n c (rBg rest n m false)], .nrm, rrA1 rest n m) := by kernel_rfl
noncomputable def T_rq (d a : Bool) : Tab := ((T_ro true true).add 38 (gSqR d)).add 31 (gCk a)
theorem ok_rq (d a : Bool) : TabOk Try.prog (T_rq d a) := ((ok_ro true true).add Try.func38 (by kernel_rfl) (by kernel_rfl) (gSqR_ok d)).add Try.func31 (by kernel_rfl) (by kernel_rfl) (gCk_ok ron1_ok a)
noncomputable def T_rn : Tab := T0.add 37 (gHasR 37 pNo)
theorem ok_rn : TabOk Try.prog T_rn := (T0_ok _).add Try.func37 (by kernel_rfl) (by kernel_rfl) (gHasR_ok _ _)
def rPa (l : List At) (n : Nat) : FS := ⟨l, n, 24, 4, true, [], [.im (.bool true)]⟩
def xPa (l : List At) (n : Nat) : Ext := x3 (Fs0.add 37 (gHasS 37 (rPa l n))) Wr0 (fun _ => none) (fun _ => none)
theorem xPa_ok (l : List At) (n : Nat) (w : World) : EqOkW Try.prog (qY Try.prog (xPa l n)) w.heap.size w := x3_ok ((Fs0_ok _).add Try.func37 (by kernel_rfl) (by kernel_rfl) (gHasS_ok _ _)) (Wr0_ok _) w
def rrE (l : List At) (e : Int) : List Fact := [.slot 2 (.pt 2 0), .row 2 true l, .slot 3 (.im (.int .i64 e))]
set_option maxRecDepth 100000 in
theorem rr_no (rest : List At) (n m cap : Nat) : runK Try.prog (qG Try.prog) Try.f17.ntmps (cfB T_rn) 60 (cB (cB rrCode)) (rrA2 rest n m cap) (rrE zG 21) = some ([HasR 37 [.s rest n cap] pNo], .rt, rrE zG 21) := by kernel_rfl

def sR (x : Nat) : Fq := F1.add (F1.mul (m1 x) (F1.mul (m1 x) (m1 x))) (fm 3)
def HPa (rest : List At) (n cap : Nat) (r : FS) : Prop := HasS 37 [.s rest n cap] r
set_option maxRecDepth 100000 in
theorem rr_32_b (rest : List At) (n m cap x : Nat) : runK Try.prog (qY Try.prog (xPa [.q x] 1)) Try.f17.ntmps (cfB (T_rq false true)) 60 (cB (cB rrCode)) (rrA2 rest n m cap) (rrE zG 41) = some ([HPa rest n cap (rPa [.q x] 1), ¬ isq (sR x)], .rt, rrE zG 41) := by kernel_rfl
/-- the root told beforehand -/
noncomputable def gSqY (y : Fq) : Ent
  | [.v (.im (.int .i64 (.ofNat 1))), .v (.fl l)] => match rd1 l with
    | some s => some ([isq s, rtX true s = y], .many [.fl (e1 y), .im (.int .i64 0)])
    | none => none
  | _ => none
theorem gSqY_ok (y : Fq) : ∀ cs pre r, gSqY y cs = some (pre, r) → allP pre → ∀ (args : List Value) (w : World), CAs w cs args → Good Try.prog 38 r args w := by
  intro cs pre r hg hp args w ha
  unfold gSqY at hg
  split at hg
  · rename_i l
    split at hg
    · rename_i s hs
      cases hg
      obtain ⟨h1, h2, _⟩ := hp
      subst h2
      refine gSqR_ok true [.v (.im (.int .i64 (.ofNat 1))), .v (.fl l)] [isq s] _ ?_ ⟨h1, trivial⟩ args w ha
      show (match rd1 l with | some s => some ([(bif true then isq s else ¬ isq s)], RV.many [.fl (e1 (rtX true s)), .im (.int .i64 (bif true then 0 else 23))]) | none => none) = _
      rw [hs]
      rfl
    · cases hg
  · cases hg
noncomputable def T_ry (y : Fq) (a : Bool) : Tab := ((T_ro true true).add 38 (gSqY y)).add 31 (gCk a)
theorem ok_ry (y : Fq) (a : Bool) : TabOk Try.prog (T_ry y a) := ((ok_ro true true).add Try.func38 (by kernel_rfl) (by kernel_rfl) (gSqY_ok y)).add Try.func31 (by kernel_rfl) (by kernel_rfl) (gCk_ok ron1_ok a)
set_option maxRecDepth 100000 in
theorem rr_32_2 (rest : List At) (n cap x : Nat) (y : Fq) : runK Try.prog (qY Try.prog (xPa [.q x] 1)) Try.f17.ntmps (cfB (T_ry y true)) 60 (cB (cB rrCode)) (rrA2 rest n 2 cap) (rrE [.q x, .f y, .c (.bool false)] 0) = some ([HPa rest n cap (rPa [.q x] 1), isq (sR x), rtX true (sR x) = y, wv y.1 < FP.M, lowB FP.M (wv y.1) = true, (ck1 x y.1 false).1 = 0], .rt, rrE [.q x, .f y, .c (.bool false)] 0) := by kernel_rfl
set_option maxRecDepth 100000 in
theorem rr_32_3 (rest : List At) (n cap x : Nat) (y : Fq) : runK Try.prog (qY Try.prog (xPa [.q x] 1)) Try.f17.ntmps (cfB (T_ry y true)) 60 (cB (cB rrCode)) (rrA2 rest n 3 cap) (rrE [.q x, .f (F1.sub F1.zero y), .c (.bool false)] 0) = some ([HPa rest n cap (rPa [.q x] 1), isq (sR x), rtX true (sR x) = y, wv y.1 < FP.M, lowB FP.M (wv y.1) = true, (ck1 x (F1.sub F1.zero y).1 false).1 = 0], .rt, rrE [.q x, .f (F1.sub F1.zero y), .c (.bool false)] 0) := by kernel_rfl
set_option maxRecDepth 100000 in
theorem rr_64_t (rest : List At) (n m cap x y : Nat) : runK Try.prog (qY Try.prog (xPa [.q x, .q y] 2)) Try.f17.ntmps (cfB (T_rq true true)) 60 (cB (cB rrCode)) (rrA2 rest n m cap) (rrE [.q x, .q y, .c (.bool false)] 0) = some ([HPa rest n cap (rPa [.q x, .q y] 2), (ck1 x y false).1 = 0], .rt, rrE [.q x, .q y, .c (.bool false)] 0) := by kernel_rfl
set_option maxRecDepth 100000 in
theorem rr_64_f (rest : List At) (n m cap x y : Nat) : runK Try.prog (qY Try.prog (xPa [.q x, .q y] 2)) Try.f17.ntmps (cfN (T_rq true false) 75) 60 (cB (cB rrCode)) (rrA2 rest n m cap) (rrE zG 41) = some ([HPa rest n cap (rPa [.q x, .q y] 2), intOp .neq .i64 (ck1 x y false).1 0 = some (.bool true)], .rt, rrE zG 41) := by kernel_rfl
/-- Read1, once begin has answered so -/
theorem rr_calls {l rest : List At} {n m c : Nat} {r : List At} {e : Int} (hb : HBg l n c (rBg rest n m false))
    (hrun : ∀ cap, n ≤ cap → ∃ (q : EqT) (C : Nat → Cfg) (ps : List Prop), (∀ w : World, EqOkW Try.prog q w.heap.size w) ∧ (∀ k d, TabOk Try.prog ((C k).T d)) ∧ runK Try.prog q Try.f17.ntmps C 60 (cB (cB rrCode)) (rrA2 rest n m cap) (rrE r e) = some (ps, .rt, rrE r e) ∧ allP ps)
    (hres : resTs Try.prog (rrE r e) Try.f17.results.toList = some [.fl r, .im (.int .i64 e)]) (args : List Value) (w : World) (ha : CAs w [.s l n c] args) : Good Try.prog 17 (.many [.fl r, .im (.int .i64 e)]) args w := by
  have hT0 : ∀ k d : Nat, TabOkW Try.prog ((cT0 k).T d) w.heap.size w := fun _ _ => (T0_ok _).w _ _
  refine fn_enter Try.func17 (c := rrCode) rfl ha (Nat.le_of_ble_eq_true (by kernel_rfl)) fun a w' hA => ?_
  rw [rr_code]
  refine wp_seq (runKW_sound hmix hT0 ((qG_ok _).w _ _) (rr_s0 l n c) trivial hA fun a w' hA => ?_)
  refine wp_seq (runKW_sound hmix hT0 (xBg_ok rest n m false w) (rr_s1 l rest n m c) ⟨hb, trivial⟩ hA fun a w' hA => ?_)
  obtain ⟨cap, hc, hA⟩ := hA.cap (s := 5) (k := 15) (n := n) (e := 5) (sz := 1) (List.mem_cons_self ..) (List.mem_cons_of_mem _ (List.mem_cons_self ..))
  have hA2 : Holds Try.f17.ntmps w.heap.size w (rrA2 rest n m cap) a w' := hA.sub fun φ hφ => by
    rcases List.mem_cons.1 hφ with rfl | hφ
    · exact List.mem_cons_self ..
    · exact List.mem_cons_of_mem _ (List.mem_cons_of_mem _ (List.mem_cons_of_mem _ hφ))
  obtain ⟨q, C, ps, h1, h2, h3, h4⟩ := hrun cap hc
  refine runKW_sound hmix (fun k d => (h2 k d).w _ _) (h1 w) h3 h4 hA2 fun a w' hA => ?_
  exact fn_leave (l := [.fl r, .im (.int .i64 e)]) (r := .many [.fl r, .im (.int .i64 e)]) hres rfl hA
end Go.Proofs.Ytebaoemoeckgaaa.Ex
namespace Go.Proofs.Ytebaoemoeckgaaa.Ex
set_option linter.unusedVariables false
set_option linter.unusedSimpArgs false
open Go.RowKit

def rOut (p : G1N) (e : Int) : RV := .many [.fl (gq1 p), .im (.int .i64 e)]
theorem good_fl {f : FuncId} {l l' : List At} {e : Int} {args : List Value} {w : World} (hl : flat l = flat l') (h : Good Try.prog f (.many [.fl l, .im (.int .i64 e)]) args w) : Good Try.prog f (.many [.fl l', .im (.int .i64 e)]) args w := by
  have hd : (RV.many [.fl l, .im (.int .i64 e)]).den = (RV.many [.fl l', .im (.int .i64 e)]).den := by
    show Value.tuple (#[.agg (flat l).toArray, .int .i64 e]) = Value.tuple (#[.agg (flat l').toArray, .int .i64 e])
    rw [hl]
  unfold Good at h ⊢
  rw [← hd]
  exact h
theorem zG_flat : flat zG = flat (gq1 (0, 0, false)) := by kernel_rfl
theorem iG_flat : flat iG = flat (gq1 (0, 0, true)) := by kernel_rfl
def R1 (l : List At) (n cap : Nat) (p : G1N) (e : Int) : Prop := HasR 16 [.s l n cap] (rOut p e)
def R2 (l : List At) (n cap : Nat) (p : G1N) (e : Int) : Prop := HasR 17 [.s l n cap] (rOut p e)
/-- both answer so -/
def Both (l : List At) (n : Nat) : Prop := ∃ p e, (∀ cap, n ≤ cap → R1 l n cap p e) ∧ ∀ cap, R2 l n cap p e
theorem hor_zero {B : Nat → Nat} (s : Nat) : ∀ n, Go.Proofs.Ytebaoemoeckgaaa.hor B s n = 0 ↔ ∀ k, k < n → B (s + k) = 0
  | 0 => ⟨fun _ k hk => absurd hk (by omega), fun _ => rfl⟩
  | n + 1 => by
    have ih := hor_zero (B := B) s n
    show Go.Proofs.Ytebaoemoeckgaaa.hor B s n * 256 + B (s + n) = 0 ↔ _
    constructor
    · intro h k hk
      by_cases e : k = n
      · subst e; omega
      · exact ih.1 (by omega) k (by omega)
    · intro h
      have h1 := ih.2 fun k hk => h k (by omega)
      have h2 := h n (by omega)
      omega
theorem hv_zero (L : List Nat) : hv L = 0 ↔ ∀ k, k < 32 → L.getD k 0 = 0 := by
  have h := hor_zero (B := fun k => L.getD k 0) 0 32
  simp only [Nat.zero_add] at h
  exact h
theorem and63 {a : Nat} : a &&& 63 = a % 64 := Nat.and_two_pow_sub_one_eq_mod a 6
theorem zN_get (L : List Nat) (h : L.length = 32) : zN (lB L) = (L.getD 0 0 &&& 63) :: L.tail := by
  match L, h with
  | [a0, a1, a2, a3, a4, a5, a6, a7, a8, a9, a10, a11, a12, a13, a14, a15, a16, a17, a18, a19, a20, a21, a22, a23, a24, a25, a26, a27, a28, a29, a30, a31], _ => rfl
theorem zN_k {L : List Nat} (h : L.length = 32) {k : Nat} (hk : k ≠ 0) : (zN (lB L)).getD k 0 = L.getD k 0 := by
  rw [zN_get L h]
  match L, h with
  | a :: r, _ =>
    cases k with
    | zero => exact absurd rfl hk
    | succ k => rfl
theorem zN_len {L : List Nat} (h : L.length = 32) : (zN (lB L)).length = 32 := rfl
theorem zN_l8 {L : List Nat} (h : L8 L) : L8 (zN (lB L)) := ⟨rfl, fun k => by
  by_cases hk : k = 0
  · subst hk
    show L.getD 0 0 &&& 63 < 256
    rw [and63]; omega
  · rw [zN_k h.1 hk]; exact h.2 k⟩
theorem zN_hv {L : List Nat} (h : L8 L) : hv (zN (lB L)) = xv (hv L) := by
  have h1 : hv L = L.getD 0 0 * 256 ^ 31 + Go.Proofs.Ytebaoemoeckgaaa.hor (fun k => L.getD k 0) 1 31 := by
    have := hor_split (fun k => L.getD k 0) 0 1 31
    show Go.Proofs.Ytebaoemoeckgaaa.hor _ 0 32 = _
    rw [this]
    show (0 * 256 + L.getD (0 + 0) 0) * 256 ^ 31 + _ = _
    rw [Nat.zero_mul, Nat.zero_add]
  have h2 : hv (zN (lB L)) = (L.getD 0 0 % 64) * 256 ^ 31 + Go.Proofs.Ytebaoemoeckgaaa.hor (fun k => L.getD k 0) 1 31 := by
    have := hor_split (fun k => (zN (lB L)).getD k 0) 0 1 31
    show Go.Proofs.Ytebaoemoeckgaaa.hor _ 0 32 = _
    rw [this, hor_ext (C := fun k => L.getD k 0) 1 31 fun k hk => zN_k h.1 (by omega)]
    show (0 * 256 + (L.getD 0 0 &&& 63)) * 256 ^ 31 + _ = _
    rw [Nat.zero_mul, Nat.zero_add, and63]
  have h3 := hor_lt (B := fun k => L.getD k 0) h.2 1 31
  have h4 := h.2 0
  generalize Go.Proofs.Ytebaoemoeckgaaa.hor (fun k => L.getD k 0) 1 31 = t at *
  generalize L.getD 0 0 = a at *
  rw [h1, h2]
  unfold xv
  have e : 256 ^ 31 = 452312848583266388373324160190187140051835877600158453279131187530910662656 := by decide
  rw [e] at h3 ⊢
  omega
theorem wv_xv (N : Nat) : wv (xv N) = xv N := by
  have h : xv N < 115792089237316195423570985008687907853269984665640564039457584007913129639936 := Nat.lt_of_lt_of_le (Nat.mod_lt _ (by decide)) (by decide)
  exact fw_val h
theorem wv_hv {L : List Nat} (h : L8 L) : wv (hv L) = hv L := fw_val (hv_lt h)
theorem mark_lt {L : List Nat} (h : L8 L) : L.getD 0 0 / 64 = 0 ∨ L.getD 0 0 / 64 = 1 ∨ L.getD 0 0 / 64 = 2 ∨ L.getD 0 0 / 64 = 3 := by have := h.2 0; omega
/-- what the check answers, by the point's parts -/
theorem ck_inf_f {x y : Nat} (h : ¬ (wv x = 0 ∧ wv y = 0)) : (ck1 x y true).1 = 44 := by
  rw [ck1_eq, if_pos rfl, if_neg (fun q : zr1 x ∧ zr1 y => h q)]
theorem ck_inf_t {x y : Nat} (h1 : wv x = 0) (h2 : wv y = 0) : (ck1 x y true).1 = 0 := by
  rw [ck1_eq, if_pos rfl, if_pos (show zr1 x ∧ zr1 y from ⟨h1, h2⟩)]
theorem ck_not {x y : Nat} (h : ¬ (wv x < FP.M ∧ wv y < FP.M)) : (ck1 x y false).1 = 21 := by
  rw [ck1_eq, if_neg (by simp), if_pos (show ¬ (bl1 x ∧ bl1 y) from h)]
theorem ys_eq (x : Nat) : ysX true x = F1.add (F1.mul (F1.mul (m1 x) (m1 x)) (m1 x)) (fm 3) := by unfold ysX cubX; rw [cond_true]
theorem ck_yes {x y : Nat} (h1 : wv x < FP.M) (h2 : wv y < FP.M) (h : F1.mul (m1 y) (m1 y) = ysX true x) : (ck1 x y false).1 = 0 := by
  rw [ck1_eq, if_neg (by simp), if_neg (fun q : ¬ (bl1 x ∧ bl1 y) => q ⟨h1, h2⟩), if_pos (h.trans (ys_eq x))]
theorem ck_off {x y : Nat} (h1 : wv x < FP.M) (h2 : wv y < FP.M) (h : F1.mul (m1 y) (m1 y) ≠ ysX true x) : (ck1 x y false).1 = 41 := by
  rw [ck1_eq, if_neg (by simp), if_neg (fun q : ¬ (bl1 x ∧ bl1 y) => q ⟨h1, h2⟩), if_neg (fun q => h (q.trans (ys_eq x).symm))]
theorem sR_ys (x : Nat) : sR x = ysX true x := by
  show F1.add (F1.mul (m1 x) (F1.mul (m1 x) (m1 x))) (fm 3) = F1.add (cubX true x) (fm 3)
  have : cubX true x = F1.mul (F1.mul (m1 x) (m1 x)) (m1 x) := by unfold cubX; rw [cond_true]
  rw [this, F1.mul_comm (m1 x)]
theorem bl1_v' (x : Fq) : wv x.1 < FP.M := by rw [show wv x.1 = x.1 from fw_valp x.2]; exact x.2

theorem begin_32 {l : List At} {L : List Nat} (hL : bys l = some L) (h8 : L8 L) {m : Nat} (hm : m = 2 ∨ m = 3) (hb : L.getD 0 0 / 64 = m) (c : Nat) : HBg l 32 c (rBg (zL (lB L)) 32 m false) := fun args w ha => by
  have hT : ∀ n d : Nat, TabOkW Try.prog ((cfZ true n).T d) w.heap.size w := fun _ _ => (ok_ba true).w _ _
  have hN := bN_of h8.1
  have hq : allP (p32 m (lB L)) := ⟨by rw [show bN (lB L) = L from hN]; exact h8, hb, trivial⟩
  rcases hm with rfl | rfl
  · exact funS_sound hmix hT (xB_ok 2 w) Try.func36 (run_bg32_2 (lB L) c) hq (casT (bL_of hL h8.1) ha)
  · exact funS_sound hmix hT (xB_ok 3 w) Try.func36 (run_bg32_3 (lB L) c) hq (casT (bL_of hL h8.1) ha)
theorem begin_32i {l : List At} {L : List Nat} (hL : bys l = some L) (h8 : L8 L) (hb : L.getD 0 0 / 64 = 1) (hz : ∀ k, k < 32 → (zN (lB L)).getD k 0 = 0) (c : Nat) : HBg l 32 c (rBg (zL (lB L)) 32 1 true) := fun args w ha =>
  funS_sound hmix (fun _ _ => (ok_ba true).w _ _) (xB_ok 1 w) Try.func36 (run_bg32_1t (lB L) c) (allP_append.2 ⟨⟨by rw [show bN (lB L) = L from bN_of h8.1]; exact h8, hb, trivial⟩, rfl, by decide, hz, trivial⟩) (casT (bL_of hL h8.1) ha)
theorem begin_32n {l : List At} {L : List Nat} (hL : bys l = some L) (h8 : L8 L) (h : L.getD 0 0 / 64 = 0 ∨ L.getD 0 0 / 64 = 1 ∧ ¬ ∀ k, k < 32 → (zN (lB L)).getD k 0 = 0) (c : Nat) : HasR 36 [.s l 32 c, .v (.im (.int .i64 32))] (rNo 44) := fun args w ha => by
  have h8' : L8 (bN (lB L)) := by rw [show bN (lB L) = L from bN_of h8.1]; exact h8
  rcases h with hb | ⟨hb, hz⟩
  · exact funB_soundW hmix (fun _ _ => (ok_ba true).w _ _) (xB_ok 0 w) Try.func36 (run_bg32_0 (lB L) c) ⟨h8', hb, trivial⟩ (casT (bL_of hL h8.1) ha)
  · exact funB_soundW hmix (fun _ _ => (ok_ba false).w _ _) (xB_ok 1 w) Try.func36 (run_bg32_1f (lB L) c) (allP_append.2 ⟨⟨h8', hb, trivial⟩, rfl, by decide, hz, trivial⟩) (casT (bL_of hL h8.1) ha)
theorem ref_no32 {l : List At} {c : Nat} (h : HasR 36 [.s l 32 c, .v (.im (.int .i64 32))] (rNo 44)) : R2 l 32 c (0, 0, false) 44 := fun args w ha =>
  good_fl zG_flat (funB_sound hmix (fun _ _ => ok_bn 44) (qG_ok Try.prog) Try.func17 (run_rr_s44 l 32 c) ⟨h, trivial⟩ ha)
theorem ref_inf {l rest : List At} {n c : Nat} (h : HBg l n c (rBg rest n 1 true)) : R2 l n c (0, 0, true) 0 := fun args w ha =>
  good_fl iG_flat (funB_soundW hmix (fun _ _ => (T0_ok _).w _ _) (xBg_ok rest n 1 true w) Try.func17 (run_rr_inf l rest n c) ⟨h, trivial⟩ ha)
theorem ref_parts_no {l rest : List At} {n m c : Nat} (h : HBg l n c (rBg rest n m false)) (hp : ∀ cap, n ≤ cap → HasR 37 [.s rest n cap] pNo) : R2 l n c (0, 0, false) 21 := fun args w ha =>
  good_fl zG_flat (rr_calls h (fun cap hc => ⟨qG Try.prog, cfB T_rn, _, fun w => (qG_ok _).w _ _, fun _ _ => ok_rn, rr_no rest n m cap, hp cap hc, trivial⟩) (by kernel_rfl) args w ha)
theorem ref_noroot {l rest : List At} {n m c x : Nat} (h : HBg l n c (rBg rest n m false)) (hp : ∀ cap, n ≤ cap → HPa rest n cap (rPa [.q x] 1)) (hs : ¬ isq (sR x)) : R2 l n c (0, 0, false) 41 := fun args w ha =>
  good_fl zG_flat (rr_calls h (fun cap hc => ⟨_, cfB (T_rq false true), _, xPa_ok [.q x] 1, fun _ _ => ok_rq false true, rr_32_b rest n m cap x, hp cap hc, hs, trivial⟩) (by kernel_rfl) args w ha)
theorem flat_qf (x : Nat) (y : Fq) (i : Bool) : flat [.q x, .f y, .c (.bool i)] = flat (gq1 (x, y.1, i)) := rfl
theorem sub_zero (y : Fq) : F1.sub F1.zero y = F1.neg y := F1.zero_add _
theorem ref_two {l rest : List At} {n c x : Nat} {y : Fq} (h : HBg l n c (rBg rest n 2 false)) (hp : ∀ cap, n ≤ cap → HPa rest n cap (rPa [.q x] 1)) (hs : isq (sR x)) (hy : rtX true (sR x) = y) (hl : lowB FP.M (wv y.1) = true) (hc : (ck1 x y.1 false).1 = 0) : R2 l n c (x, y.1, false) 0 := fun args w ha =>
  good_fl (flat_qf x y false) (rr_calls h (fun cap hcap => ⟨_, cfB (T_ry y true), _, xPa_ok [.q x] 1, fun _ _ => ok_ry y true, rr_32_2 rest n cap x y, hp cap hcap, hs, hy, bl1_v' y, hl, hc, trivial⟩) (by kernel_rfl) args w ha)
theorem ref_three {l rest : List At} {n c x : Nat} {y : Fq} (h : HBg l n c (rBg rest n 3 false)) (hp : ∀ cap, n ≤ cap → HPa rest n cap (rPa [.q x] 1)) (hs : isq (sR x)) (hy : rtX true (sR x) = y) (hl : lowB FP.M (wv y.1) = true) (hc : (ck1 x (F1.neg y).1 false).1 = 0) : R2 l n c (x, (F1.neg y).1, false) 0 := fun args w ha => by
  have hc' : (ck1 x (F1.sub F1.zero y).1 false).1 = 0 := by rw [sub_zero]; exact hc
  have hh := rr_calls h (fun cap hcap => ⟨_, cfB (T_ry y true), _, xPa_ok [.q x] 1, fun _ _ => ok_ry y true, rr_32_3 rest n cap x y, hp cap hcap, hs, hy, bl1_v' y, hl, hc', trivial⟩) (by kernel_rfl) args w ha
  rw [sub_zero] at hh
  exact good_fl (flat_qf x (F1.neg y) false) hh

theorem m1_w (x : Fq) : m1 x.1 = x := Fin.ext (show wv x.1 % FP.M = x.1 by rw [show wv x.1 = x.1 from fw_valp x.2]; exact Nat.mod_eq_of_lt x.2)
theorem rtX_f (s : Fq) : rtX false s = F1.zero := by unfold rtX; rw [cond_false]
theorem yX_2 (k d : Bool) (x : Nat) : yX 2 k d x = rtX d (ysX k x) := by unfold yX; rw [show Nat.beq 2 3 = false from rfl, cond_false]
theorem yX_3 (k d : Bool) (x : Nat) : yX 3 k d x = F1.neg (rtX d (ysX k x)) := by unfold yX; rw [show Nat.beq 3 3 = true from rfl, cond_true]
theorem yX_f (m : Nat) (hm : m = 2 ∨ m = 3) (k : Bool) (x : Nat) : yX m k false x = F1.zero := by
  rcases hm with rfl | rfl
  · rw [yX_2, rtX_f]
  · rw [yX_3, rtX_f, neg_zero]
theorem oAl_t (p : G1N) : (oAl true p).2 = rOut p 0 := rfl
theorem oAl_f (p : G1N) : (oAl false p).2 = .many [.fl zG, .im (.int .i64 (ck1 p.1 p.2.1 p.2.2).1)] := rfl
theorem oAl_tp (p : G1N) : (oAl true p).1 = [(ck1 p.1 p.2.1 p.2.2).1 = 0] := rfl
theorem oAl_fp (p : G1N) : (oAl false p).1 = [(ck1 p.1 p.2.1 p.2.2).1 ≠ 0] := rfl
/-- the answer of a point that may not be -/
theorem our_bad {p : G1N} {l : List At} {n cap : Nat} {e : Int} (he : (ck1 p.1 p.2.1 p.2.2).1 = e) (h0 : e ≠ 0) (h : allP (oAl false p).1 → HasR 16 [.s l n cap] (oAl false p).2) : R1 l n cap (0, 0, false) e := fun args w ha => by
  have hh := h (by rw [oAl_fp]; exact ⟨by rw [he]; exact h0, trivial⟩) args w ha
  rw [oAl_f, he] at hh
  exact good_fl zG_flat hh
theorem our_ok {p : G1N} {l : List At} {n cap : Nat} (he : (ck1 p.1 p.2.1 p.2.2).1 = 0) (h : allP (oAl true p).1 → HasR 16 [.s l n cap] (oAl true p).2) : R1 l n cap p 0 := fun args w ha => by
  have hh := h (by rw [oAl_tp]; exact ⟨he, trivial⟩) args w ha
  rw [oAl_t] at hh
  exact hh
theorem our_ok3 {X Y : Nat} {i : Bool} {l : List At} {n cap : Nat} (he : (ck1 X Y i).1 = 0) (h : allP (oAl true (X, Y, i)).1 → HasR 16 [.s l n cap] (oAl true (X, Y, i)).2) : R1 l n cap (X, Y, i) 0 := our_ok (p := (X, Y, i)) he h
theorem our_bad3 {X Y : Nat} {i : Bool} {l : List At} {n cap : Nat} {e : Int} (he : (ck1 X Y i).1 = e) (h0 : e ≠ 0) (h : allP (oAl false (X, Y, i)).1 → HasR 16 [.s l n cap] (oAl false (X, Y, i)).2) : R1 l n cap (0, 0, false) e := our_bad (p := (X, Y, i)) he h0 h
theorem both_root {l rest : List At} {X m : Nat} (hm : m = 2 ∨ m = 3)
    (hours : ∀ (k d a : Bool), allP (gRt m k d X) → ∀ cap, 32 ≤ cap → allP (oAl a (X, (yX m k d X).1, false)).1 → HasR 16 [.s l 32 cap] (oAl a (X, (yX m k d X).1, false)).2)
    (href : ∀ c, HBg l 32 c (rBg rest 32 m false)) (hpa : blw X = true → ∀ cap, 32 ≤ cap → HPa rest 32 cap (rPa [.q X] 1)) (hpn : blw X = false → ∀ cap, 32 ≤ cap → HasR 37 [.s rest 32 cap] pNo) : Both l 32 := by
  by_cases hk : wv X < FP.M
  · have hpa := hpa (blw_t.2 hk)
    by_cases hs : isq (ysX true X)
    · have hsp := fsq_spec hs
      have hrt : rtX true (ysX true X) = fsq (ysX true X) := rtX_t _
      have hg : allP (gRt m true true X) := ⟨hk, hs, trivial⟩
      have hsR : isq (sR X) := by rw [sR_ys]; exact hs
      have hyR : rtX true (sR X) = fsq (ysX true X) := by rw [sR_ys]; exact hrt
      generalize hy : fsq (ysX true X) = y at *
      have hl : lowB FP.M (wv y.1) = true := by rw [show wv y.1 = y.1 from fw_valp y.2]; exact hsp.2
      have hc2 : (ck1 X y.1 false).1 = 0 := ck_yes hk (bl1_v' y) (by rw [m1_w]; exact hsp.1)
      have hc3 : (ck1 X (F1.neg y).1 false).1 = 0 := ck_yes hk (bl1_v' _) (by rw [m1_w, F1.neg_mul, F1.mul_neg, F1.neg_neg]; exact hsp.1)
      rcases hm with rfl | rfl
      · have hyx : yX 2 true true X = y := by rw [yX_2, hrt]
        exact ⟨(X, y.1, false), 0, fun cap hc => our_ok3 hc2 (by have := hours true true true hg cap hc; rw [hyx] at this; exact this), fun c => ref_two (href c) hpa hsR hyR hl hc2⟩
      · have hyx : yX 3 true true X = F1.neg y := by rw [yX_3, hrt]
        exact ⟨(X, (F1.neg y).1, false), 0, fun cap hc => our_ok3 hc3 (by have := hours true true true hg cap hc; rw [hyx] at this; exact this), fun c => ref_three (href c) hpa hsR hyR hl hc3⟩
    · have hg : allP (gRt m true false X) := ⟨hk, hs, trivial⟩
      obtain ⟨z, hz⟩ : ∃ z, z = F1.zero := ⟨_, rfl⟩
      have hyx : yX m true false X = z := (yX_f m hm true X).trans hz.symm
      have hz2 : F1.mul z z = F1.zero := by rw [hz, F1.mul_zero]
      have hne : F1.mul (m1 z.1) (m1 z.1) ≠ ysX true X := fun e => hs (by rw [← e, m1_w, hz2]; exact isq_zero)
      have hc4 : (ck1 X z.1 false).1 = 41 := ck_off hk (bl1_v' z) hne
      have hs' : ¬ isq (sR X) := by rw [sR_ys]; exact hs
      have ho : ∀ cap, 32 ≤ cap → allP (oAl false (X, z.1, false)).1 → HasR 16 [.s l 32 cap] (oAl false (X, z.1, false)).2 := fun cap hc => by
        have := hours true false false hg cap hc
        rw [hyx] at this
        exact this
      exact ⟨(0, 0, false), 41, fun cap hc => our_bad3 hc4 (by decide) (ho cap hc), fun c => ref_noroot (href c) hpa hs'⟩
  · have hn : blw X = false := blw_f.2 hk
    have hc5 : ∀ y, (ck1 X y false).1 = 21 := fun y => ck_not fun q => hk q.1
    have hr : ∀ c, R2 l 32 c (0, 0, false) 21 := fun c => ref_parts_no (href c) (hpn hn)
    by_cases hs : isq (ysX false X)
    · exact ⟨(0, 0, false), 21, fun cap hc => our_bad3 (hc5 _) (by decide) (hours false true false ⟨hk, hs, trivial⟩ cap hc), hr⟩
    · exact ⟨(0, 0, false), 21, fun cap hc => our_bad3 (hc5 _) (by decide) (hours false false false ⟨hk, hs, trivial⟩ cap hc), hr⟩
theorem pa_32 {L : List Nat} (h8 : L8 L) (h : blw (xv (hv L)) = true) (cap : Nat) (hc : 32 ≤ cap) : HPa (zL (lB L)) 32 cap (rPa [.q (xv (hv L))] 1) := fun args w ha => by
  have hh := gPa_ok [.s (zL (lB L)) 32 cap] [L8 (zN (lB L)), 32 ≤ cap, blw (hv (zN (lB L))) = true] (rPa [.q (hv (zN (lB L)))] 1) rfl ⟨zN_l8 h8, hc, by rw [zN_hv h8]; exact h, trivial⟩ args w ha
  rw [zN_hv h8] at hh
  exact hh
theorem pn_32 {L : List Nat} (h8 : L8 L) (h : blw (xv (hv L)) = false) (cap : Nat) (hc : 32 ≤ cap) : HasR 37 [.s (zL (lB L)) 32 cap] pNo := fun args w ha =>
  gPn_ok [.s (zL (lB L)) 32 cap] [L8 (zN (lB L)), 32 ≤ cap, blw (hv (zN (lB L))) = false] pNo rfl ⟨zN_l8 h8, hc, by rw [zN_hv h8]; exact h, trivial⟩ args w ha
theorem both32 {l : List At} {L : List Nat} (hL : bys l = some L) (h8 : L8 L) : Both l 32 := by
  rcases mark_lt h8 with hb | hb | hb | hb
  · exact ⟨(0, 0, false), 44, fun cap hc args w ha => good_fl zG_flat (rd_flag hL h8 hb hc args w ha), fun cap => ref_no32 (begin_32n hL h8 (Or.inl hb) cap)⟩
  · by_cases hz : ∀ k, k < 32 → (zN (lB L)).getD k 0 = 0
    · have hx : xv (hv L) = 0 := by rw [← zN_hv h8]; exact (hv_zero _).2 hz
      have hck : (ck1 (xv (hv L)) 0 true).1 = 0 := ck_inf_t (by rw [hx]; kernel_rfl) (by kernel_rfl)
      refine ⟨(0, 0, true), 0, fun cap hc => ?_, fun cap => ref_inf (begin_32i hL h8 hb hz cap)⟩
      have := our_ok (l := l) (n := 32) (cap := cap) hck fun hp => fun args w ha => rd_inf true hL h8 hb hc hp args w ha
      rw [hx] at this
      exact this
    · have hx : xv (hv L) ≠ 0 := fun e => hz ((hv_zero _).1 (by rw [zN_hv h8]; exact e))
      have hck : (ck1 (xv (hv L)) 0 true).1 = 44 := ck_inf_f fun q => hx (by rw [← wv_xv]; exact q.1)
      exact ⟨(0, 0, false), 44, fun cap hc => our_bad hck (by decide) fun hp => fun args w ha => rd_inf false hL h8 hb hc hp args w ha, fun cap => ref_no32 (begin_32n hL h8 (Or.inr ⟨hb, hz⟩) cap)⟩
  · exact both_root (Or.inl rfl) (fun k d a hg cap hc hp args w ha => rd_two k d a hL h8 hb hc hg hp args w ha) (begin_32 hL h8 (Or.inl rfl) hb) (fun h cap hc => pa_32 h8 h cap hc) (fun h cap hc => pn_32 h8 h cap hc)
  · exact both_root (Or.inr rfl) (fun k d a hg cap hc hp args w ha => rd_three k d a hL h8 hb hc hg hp args w ha) (begin_32 hL h8 (Or.inr rfl) hb) (fun h cap hc => pa_32 h8 h cap hc) (fun h cap hc => pn_32 h8 h cap hc)
end Go.Proofs.Ytebaoemoeckgaaa.Ex
