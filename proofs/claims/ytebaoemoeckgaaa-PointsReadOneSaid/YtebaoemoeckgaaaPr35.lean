/-
  Read1 of 32 bytes: what it answers, whatever they are. Conditions: the bytes are below 256 and the slice's capacity is no less than 32.
  The law's alive answers true: Short1 and Read1 of the generator, of nothing, of 32 zero bytes. Conditions: none.
-/
import Derived.Test.YtebaoemoeckgaaaPr34
namespace Go.Proofs.Ytebaoemoeckgaaa.Ex
set_option linter.unusedVariables false
set_option linter.unusedSimpArgs false
open Go.RowKit

theorem bys_map : ∀ {l : List At} {L : List Nat}, bys l = some L → flat l = L.map fun b => Value.int .u8 (Int.ofNat b)
  | [], L, h => by cases h; rfl
  | a :: r, L, h => by
    unfold bys at h
    split at h
    · rename_i x l' h1 h2
      cases h
      have ha : a.cells = [.int .u8 (Int.ofNat x)] := by
        unfold u8? at h1
        split at h1
        · cases h1; rfl
        · cases h1
      show a.cells ++ flat r = _
      rw [ha, bys_map h2]
      rfl
    · cases h
theorem bN_of : ∀ {L : List Nat}, L.length = 32 → bN (fun k => L.getD k 0) = L
  | [a0, a1, a2, a3, a4, a5, a6, a7, a8, a9, a10, a11, a12, a13, a14, a15, a16, a17, a18, a19, a20, a21, a22, a23, a24, a25, a26, a27, a28, a29, a30, a31], _ => rfl
theorem bL_map (B : Nat → Nat) : flat (bL B) = (bN B).map fun b => Value.int .u8 (Int.ofNat b) := rfl
theorem bL_of {l : List At} {L : List Nat} (h : bys l = some L) (h8 : L.length = 32) : flat l = flat (bL fun k => L.getD k 0) := by rw [bys_map h, bL_map, bN_of h8]
/-- taken, by the mark -/
def gTk (m : Nat) : List CA → Option (List Prop × FS)
  | [.s l 32 c, .v (.im (.int .i64 (.ofNat 1)))] => match bys l with
    | some L => some ([L8 L, L.getD 0 0 / 64 = m, 32 ≤ c], ⟨[.q (xv (hv L)), .q 0], 2, 0, 0, false, [.im (.int .u8 (Int.ofNat m))], [.im (.int .i64 0)]⟩)
    | none => none
  | _ => none
def gTk0 : Ent
  | [.s l 32 c, .v (.im (.int .i64 (.ofNat 1)))] => match bys l with
    | some L => some ([L8 L, L.getD 0 0 / 64 = 0, 32 ≤ c], .many [.im (.int .u8 0), .im (.slice none 0 0), .im (.int .i64 44)])
    | none => none
  | _ => none
theorem casT {w : World} {v : TV} {l l' : List At} {n c : Nat} (h : flat l = flat l') {args : List Value} (ha : CAs w [.s l n c, .v v] args) : CAs w [.s l' n c, .v v] args := by
  match args, ha with
  | [s, u], ha => exact ⟨by obtain ⟨b, o, e, hb, hr⟩ := ha.1; exact ⟨b, o, e, hb, by rw [← h]; exact hr⟩, ha.2.1, trivial⟩
  | [], ha => exact ha.elim
  | [_], ha => exact ha.2.elim
  | _ :: _ :: _ :: _, ha => exact ha.2.2.elim
theorem fw_lt3 (n k : Nat) : fw n k < 18446744073709551616 := Nat.mod_lt _ (by omega)
theorem gTk_ok (m : Nat) (hm : m = 1 ∨ m = 2 ∨ m = 3) : ∀ cs pre r, gTk m cs = some (pre, r) → allP pre → ∀ (args : List Value) (w : World), CAs w cs args → Calls Try.prog 32 args.toArray w (fun e w' => r.ok w e w') := by
  intro cs pre r hg hp args w ha
  unfold gTk at hg
  split at hg
  · rename_i l c
    split at hg
    · rename_i L hL
      cases hg
      obtain ⟨h8, hb, hc, _⟩ := hp
      have ha' := casT (bL_of hL h8.1) ha
      have hN := bN_of h8.1
      have h64 : Bin .shr 5 (.tmp 32) (.const (.int .u64 6)) (.int .u8 (Int.ofNat (L.getD 0 0))) (.int .u64 6) (.int .u8 (Int.ofNat m)) := by
        have := bin_shr6 (t := 5) (x := .tmp 32) (y := .const (.int .u64 6)) (h8.2 0)
        rw [hb] at this
        exact this
      have fin : ∀ {e : Ending} {w' : World}, (⟨[.c (.int .u64 (Int.ofNat (fw (hv L) 0))), .c (.int .u64 (Int.ofNat (fw (hv L) 1))), .c (.int .u64 (Int.ofNat (fw (hv L) 2))), .c (.int .u64 (Int.ofNat (fw (hv L) 3 % 4611686018427387904))), .q 0], 2, 0, 0, false, [.im (.int .u8 (Int.ofNat m))], [.im (.int .i64 0)]⟩ : FS).ok w e w' → (⟨[.q (xv (hv L)), .q 0], 2, 0, 0, false, [.im (.int .u8 (Int.ofNat m))], [.im (.int .i64 0)]⟩ : FS).ok w e w' := fun h => h.weak (tk_flat (hv L)).symm
      rcases hm with rfl | rfl | rfl
      · have h := funS_sound hmix (fun _ _ => ok_tk.w _ _) (xT_ok _ _ w) Try.func32 (run_tk1 (fun k => L.getD k 0) c) (by rw [hN]; exact ⟨h64, mkE2_ok, by omega, hc, by omega, h8, bin_shl2 (fw_lt3 _ _), bin_shr2 (fw_lt3 _ _), trivial⟩) ha'
        rw [hN] at h
        exact h.mono fun e w' h => fin h
      · have h := funS_sound hmix (fun _ _ => ok_tk.w _ _) (xT_ok _ _ w) Try.func32 (run_tk2 (fun k => L.getD k 0) c) (by rw [hN]; exact ⟨h64, mkE2_ok, by omega, hc, by omega, h8, bin_shl2 (fw_lt3 _ _), bin_shr2 (fw_lt3 _ _), trivial⟩) ha'
        rw [hN] at h
        exact h.mono fun e w' h => fin h
      · have h := funS_sound hmix (fun _ _ => ok_tk.w _ _) (xT_ok _ _ w) Try.func32 (run_tk3 (fun k => L.getD k 0) c) (by rw [hN]; exact ⟨h64, mkE2_ok, by omega, hc, by omega, h8, bin_shl2 (fw_lt3 _ _), bin_shr2 (fw_lt3 _ _), trivial⟩) ha'
        rw [hN] at h
        exact h.mono fun e w' h => fin h
    · cases hg
  · cases hg
theorem gTk0_ok : ∀ cs pre r, gTk0 cs = some (pre, r) → allP pre → ∀ (args : List Value) (w : World), CAs w cs args → Good Try.prog 32 r args w := by
  intro cs pre r hg hp args w ha
  unfold gTk0 at hg
  split at hg
  · rename_i l c
    split at hg
    · rename_i L hL
      cases hg
      obtain ⟨h8, hb, hc, _⟩ := hp
      have ha' := casT (bL_of hL h8.1) ha
      have h64 : Bin .shr 5 (.tmp 32) (.const (.int .u64 6)) (.int .u8 (Int.ofNat (L.getD 0 0))) (.int .u64 6) (.int .u8 (Int.ofNat 0)) := by
        have := bin_shr6 (t := 5) (x := .tmp 32) (y := .const (.int .u64 6)) (h8.2 0)
        rw [hb] at this
        exact this
      exact funB_soundW hmix (fun _ _ => ok_tk.w _ _) (xT_ok _ _ w) Try.func32 (run_tk0 (fun k => L.getD k 0) c) ⟨h64, trivial⟩ ha'
    · cases hg
  · cases hg

/-- the cube; k: that X is an element -/
noncomputable def cubX (k : Bool) (x : Nat) : Fq := bif k then F1.mul (F1.mul (m1 x) (m1 x)) (m1 x) else F1.zero
noncomputable def gE3 (k : Bool) : Ent
  | [.v (.im (.int .i64 (.ofNat 1))), .v (.fl l), .v (.fl m)] => match rq1 l with
    | some x => some ([(bif k then wv x < FP.M else ¬ wv x < FP.M), flat m = flat [.q 3]], .many [.fl (e1 (cubX k x)), .im (.int .i64 (bif k then 0 else 21))])
    | none => none
  | _ => none
set_option maxRecDepth 100000 in
theorem gE3_ok (k : Bool) : ∀ cs pre r, gE3 k cs = some (pre, r) → allP pre → ∀ (args : List Value) (w : World), CAs w cs args → Good Try.prog 56 r args w := by
  intro cs pre r hg hp args w ha
  unfold gE3 at hg
  split at hg
  · rename_i l m
    split at hg
    · rename_i x hx
      cases hg
      obtain ⟨h1, h2, _⟩ := hp
      match args, ha with
      | [v, u, t], ha =>
        have e1 : v = .int .i64 1 := ha.1
        have e2 : u = .agg (flat l).toArray := ha.2.1
        have e3 : t = .agg (flat m).toArray := ha.2.2.1
        rw [rq1_ok l _ hx] at e2
        rw [h2] at e3
        subst e1; subst e2; subst e3
        cases k
        · have h1' : ¬ val4 (fw x 0) (fw x 1) (fw x 2) (fw x 3) < FP.M := h1
          exact (fexp_err 1 21 _ _ _ _ _ _ _ _ (fw_ok x) (fw_ok 3) (Or.inr ⟨FP, fld1, h1', rfl⟩) w).mono fun e w' h => ⟨h.1.trans (show Ending.returned (Value.tuple #[.agg #[.int .u64 0, .int .u64 0, .int .u64 0, .int .u64 0], .int .i64 21]) = Ending.returned (RV.many [TV.fl (e1 F1.zero), TV.im (.int .i64 21)]).den from by kernel_rfl), h.2⟩
        · have h1' : val4 (fw x 0) (fw x 1) (fw x 2) (fw x 3) < FP.M := h1
          refine (fexp_ok 1 FP fld1 _ _ _ _ _ _ _ _ (fw_ok x) (fw_ok 3) h1' w).mono ?_
          rintro e w' ⟨s0, s1, s2, s3, rfl, hs, hv, hb⟩
          have hv' : val4 s0 s1 s2 s3 = (cubX true x).1 := by
            rw [hv, fw_val (x := 3) (by omega)]
            have e4 : (m1 x).1 = wv x := Nat.mod_eq_of_lt h1
            show wv x ^ 3 % FP.M = (m1 x).1 * (m1 x).1 % FP.M * (m1 x).1 % FP.M
            rw [e4, Nat.mod_mul_mod, Nat.pow_succ, Nat.pow_succ, Nat.pow_one]
          obtain ⟨rfl, rfl, rfl, rfl⟩ := fw_of hs (fp_lt (cubX true x).2) hv'
          exact ⟨rfl, hb⟩
      | [], ha => exact ha.elim
      | [_], ha => exact ha.2.elim
      | [_, _], ha => exact ha.2.2.elim
      | _ :: _ :: _ :: _ :: _, ha => exact ha.2.2.2.elim
    · cases hg
  · cases hg
theorem isqF_pow {x : Fq} (h : isq x) : x.1 ^ (FP.M / 2) % FP.M = 1 ∨ x.1 = 0 := by
  rw [isq_leg] at h
  unfold legN at h
  by_cases h0 : x.1 = 0
  · exact Or.inr h0
  · rw [if_neg h0] at h
    by_cases h1 : x.1 ^ (FP.M / 2) % FP.M = 1
    · exact Or.inl h1
    · rw [if_neg h1] at h; exact absurd rfl h
theorem nsqF_pow {x : Fq} (h : ¬ isq x) : x.1 ≠ 0 ∧ x.1 ^ (FP.M / 2) % FP.M ≠ 1 := by
  rw [not_isq] at h
  unfold legN at h
  by_cases h0 : x.1 = 0
  · rw [if_pos h0] at h; exact absurd h (by decide)
  · rw [if_neg h0] at h
    refine ⟨h0, fun e => ?_⟩
    rw [if_pos e] at h
    exact absurd h (by decide)
/-- the root; d: that there is one -/
noncomputable def rtX (d : Bool) (s : Fq) : Fq := bif d then fsq s else F1.zero
theorem rtX_t (s : Fq) : rtX true s = fsq s := by unfold rtX; rw [cond_true]
noncomputable def gSqX (d : Bool) : Ent
  | [.v (.im (.int .i64 (.ofNat 1))), .v (.fl l)] => match rd1 l with
    | some s => some ([(bif d then isq s else ¬ isq s)], .many [.fl (e1 (rtX d s)), .im (.int .i64 (bif d then 0 else 23))])
    | none => none
  | _ => none
set_option maxRecDepth 100000 in
theorem gSqX_ok (d : Bool) : ∀ cs pre r, gSqX d cs = some (pre, r) → allP pre → ∀ (args : List Value) (w : World), CAs w cs args → Good Try.prog 59 r args w := by
  intro cs pre r hg hp args w ha
  unfold gSqX at hg
  split at hg
  · rename_i l
    split at hg
    · rename_i x hx
      cases hg
      obtain ⟨h, _⟩ := hp
      match args, ha with
      | [v, u], ha =>
        have e1' : v = .int .i64 1 := ha.1
        have e2' : u = .agg (flat l).toArray := ha.2.1
        rw [rd1_ok l _ hx] at e2'
        subst e1'; subst e2'
        have hx : val4 (fw x.1 0) (fw x.1 1) (fw x.1 2) (fw x.1 3) = x.1 := fw_valp x.2
        cases d
        · obtain ⟨h0, h1⟩ := nsqF_pow h
          refine (fsqrt_no_ok 1 FP fld1 _ _ _ _ (fw_ok x.1) (by rw [hx]; exact x.2) (by rw [hx]; exact h0) (by rw [hx]; exact h1) w).mono ?_
          rintro e w' ⟨s0, s1, s2, s3, rfl, hs, hv, hb⟩
          obtain ⟨rfl, rfl, rfl, rfl⟩ := fw_of hs (fp_lt fp_pos) hv
          exact ⟨rfl, hb⟩
        · show Calls _ _ _ _ _
          by_cases h0 : x.1 = 0
          · refine (fsqrt0_ok 1 FP fld1 _ _ _ _ (fw_ok x.1) (by rw [hx]; exact x.2) (by rw [hx]; exact h0) w).mono ?_
            rintro e w' ⟨s0, s1, s2, s3, rfl, hs, hv, hb⟩
            have e3 : rtX true x = F1.zero := (rtX_t x).trans ((congrArg fsq (f1_zero h0)).trans fsq_zero)
            rw [e3]
            obtain ⟨rfl, rfl, rfl, rfl⟩ := fw_of hs (fp_lt fp_pos) hv
            exact ⟨rfl, hb⟩
          · refine (fsqrt_yes_ok 1 FP fld1 _ _ _ _ (fw_ok x.1) (by rw [hx]; exact x.2) (by rw [hx]; exact h0) (by rw [hx]; exact (isqF_pow h).resolve_right h0) w).mono ?_
            rintro e w' ⟨V, ⟨s0, s1, s2, s3, rfl, hs, hv, hb⟩, h1, h2, h3⟩
            rw [hx] at h1
            have e3 : rtX true x = ⟨V, h2⟩ := (rtX_t x).trans (fsq_uniq (Fin.ext h1) h3)
            rw [e3]
            obtain ⟨rfl, rfl, rfl, rfl⟩ := fw_of hs (fp_lt h2) hv
            exact ⟨rfl, hb⟩
      | [], ha => exact ha.elim
      | [_], ha => exact ha.2.elim
      | _ :: _ :: _ :: _, ha => exact ha.2.2.elim
    · cases hg
  · cases hg
def gNg : Ent
  | [.v (.im (.int .i64 (.ofNat 1))), .v (.fl l)] => match rd1 l with
    | some s => some ([], .many [.fl (e1 (F1.neg s)), .im (.int .i64 0)])
    | none => none
  | _ => none
theorem gNg_ok : ∀ cs pre r, gNg cs = some (pre, r) → allP pre → ∀ (args : List Value) (w : World), CAs w cs args → Good Try.prog 60 r args w := by
  intro cs pre r hg hp args w ha
  unfold gNg at hg
  split at hg
  · rename_i l
    split at hg
    · rename_i x hx
      cases hg
      match args, ha with
      | [v, u], ha =>
        have e1' : v = .int .i64 1 := ha.1
        have e2' : u = .agg (flat l).toArray := ha.2.1
        rw [rd1_ok l _ hx] at e2'
        subst e1'; subst e2'
        have hx : val4 (fw x.1 0) (fw x.1 1) (fw x.1 2) (fw x.1 3) = x.1 := fw_valp x.2
        refine (fneg_ok 1 FP fld1 _ _ _ _ (fw_ok x.1) (by rw [hx]; exact x.2) w).mono ?_
        rintro e w' ⟨s0, s1, s2, s3, rfl, hs, hv, hb⟩
        have hv' : val4 s0 s1 s2 s3 = (F1.neg x).1 := by rw [hv, hx]; rfl
        obtain ⟨rfl, rfl, rfl, rfl⟩ := fw_of hs (fp_lt (F1.neg x).2) hv'
        exact ⟨rfl, hb⟩
      | [], ha => exact ha.elim
      | [_], ha => exact ha.2.elim
      | _ :: _ :: _ :: _, ha => exact ha.2.2.elim
    · cases hg
  · cases hg
noncomputable def T_rt (k d : Bool) : Tab := ((T_rrNeg1.add 56 (gE3 k)).add 59 (gSqX d)).add 60 gNg
theorem ok_rt (k d : Bool) : TabOk Try.prog (T_rt k d) := ((ok_rrNeg1.add Try.func56 (by kernel_rfl) (by kernel_rfl) (gE3_ok k)).add Try.func59 (by kernel_rfl) (by kernel_rfl) (gSqX_ok d)).add Try.func60 (by kernel_rfl) (by kernel_rfl) gNg_ok
noncomputable def ysX (k : Bool) (x : Nat) : Fq := F1.add (cubX k x) (fm 3)
def gRt (m : Nat) (k d : Bool) (x : Nat) : List Prop := [(bif k then wv x < FP.M else ¬ wv x < FP.M), (bif d then isq (ysX k x) else ¬ isq (ysX k x))]
/-- Y, by the mark -/
noncomputable def yX (m : Nat) (k d : Bool) (x : Nat) : Fq := bif Nat.beq m 3 then F1.neg (rtX d (ysX k x)) else rtX d (ysX k x)
set_option maxRecDepth 100000 in
theorem run_rt2 (k d : Bool) (x : Nat) : funB Try.prog (qG Try.prog) (cfB (T_rt k d)) Try.f34 60 [.v (.fl [.q x]), .v (.im (.int .u8 2))] = some ([(bif k then wv x < FP.M else ¬ wv x < FP.M), flat (nq [.c (.int .u64 3), .c (.int .u64 0), .c (.int .u64 0), .c (.int .u64 0)]) = flat [.q 3], (bif d then isq (ysX k x) else ¬ isq (ysX k x))], .one (.fl (e1 (rtX d (ysX k x))))) := by kernel_rfl
set_option maxRecDepth 100000 in
theorem run_rt3 (k d : Bool) (x : Nat) : funB Try.prog (qG Try.prog) (cfB (T_rt k d)) Try.f34 60 [.v (.fl [.q x]), .v (.im (.int .u8 3))] = some ([(bif k then wv x < FP.M else ¬ wv x < FP.M), flat (nq [.c (.int .u64 3), .c (.int .u64 0), .c (.int .u64 0), .c (.int .u64 0)]) = flat [.q 3], (bif d then isq (ysX k x) else ¬ isq (ysX k x))], .one (.fl (e1 (F1.neg (rtX d (ysX k x)))))) := by kernel_rfl

noncomputable def gRo (m : Nat) (k d : Bool) : Ent
  | [.v (.fl l), .v (.im (.int .u8 (.ofNat m')))] => match rq1 l with
    | some x => bif Nat.beq m' m then some (gRt m k d x, .one (.fl (e1 (yX m k d x)))) else none
    | none => none
  | _ => none
theorem nq3 : flat (nq [.c (.int .u64 3), .c (.int .u64 0), .c (.int .u64 0), .c (.int .u64 0)]) = flat [.q 3] := by kernel_rfl
theorem gRo_ok (m : Nat) (hm : m = 2 ∨ m = 3) (k d : Bool) : ∀ cs pre r, gRo m k d cs = some (pre, r) → allP pre → ∀ (args : List Value) (w : World), CAs w cs args → Good Try.prog 34 r args w := by
  intro cs pre r hg hp args w ha
  unfold gRo at hg
  split at hg
  · rename_i l m'
    split at hg
    · rename_i x hx
      cases hb : Nat.beq m' m <;> rw [hb] at hg
      · cases hg
      · have hmm := Nat.eq_of_beq_eq_true hb
        subst hmm
        cases hg
        have ha' : CAs w [.v (.fl [.q x]), .v (.im (.int .u8 (Int.ofNat m')))] args := by
          match args, ha with
          | [u, v], ha => exact ⟨by have h1 : u = .agg (flat l).toArray := ha.1; rw [rq1_ok l _ hx] at h1; exact h1, ha.2.1, trivial⟩
          | [], ha => exact ha.elim
          | [_], ha => exact ha.2.elim
          | _ :: _ :: _ :: _, ha => exact ha.2.2.elim
        obtain ⟨h1, h2, _⟩ := hp
        rcases hm with rfl | rfl
        · exact funB_sound hmix (fun _ _ => ok_rt k d) (qG_ok Try.prog) Try.func34 (run_rt2 k d x) ⟨h1, nq3, h2, trivial⟩ ha'
        · exact funB_sound hmix (fun _ _ => ok_rt k d) (qG_ok Try.prog) Try.func34 (run_rt3 k d x) ⟨h1, nq3, h2, trivial⟩ ha'
    · cases hg
  · cases hg
/-- nothing -/
def zG : List At := [.f F1.zero, .f F1.zero, .c (.bool false)]
noncomputable def T_ck (k : Bool) : Tab := T_rrNeg1.add 11 (gCk k)
theorem ok_ck (k : Bool) : TabOk Try.prog (T_ck k) := ok_rrNeg1.add Try.func11 (by kernel_rfl) (by kernel_rfl) (gCk_ok pck_ok k)
set_option maxRecDepth 100000 in
theorem run_al_t (x y : Nat) (i : Bool) : funB Try.prog (qG Try.prog) (cfB (T_ck true)) Try.f35 60 [.v (.fl (gq1 (x, y, i))), .v (.im (.func (.func 11) #[] #[]))] = some ([(ck1 x y i).1 = 0], .many [.fl (gq1 (x, y, i)), .im (.int .i64 0)]) := by kernel_rfl
set_option maxRecDepth 100000 in
theorem run_al_f (x y : Nat) (i : Bool) : funB Try.prog (qG Try.prog) (cfN (T_ck false) 12) Try.f35 60 [.v (.fl (gq1 (x, y, i))), .v (.im (.func (.func 11) #[] #[]))] = some ([intOp .neq .i64 (ck1 x y i).1 0 = some (.bool true)], .many [.fl zG, .im (.int .i64 (ck1 x y i).1)]) := by kernel_rfl
/-- a point by its check; a: that it may be -/
noncomputable def oAl (a : Bool) (p : G1N) : List Prop × RV := bif a then ([(ck1 p.1 p.2.1 p.2.2).1 = 0], .many [.fl (gq1 p), .im (.int .i64 0)]) else ([(ck1 p.1 p.2.1 p.2.2).1 ≠ 0], .many [.fl zG, .im (.int .i64 (ck1 p.1 p.2.1 p.2.2).1)])
noncomputable def gAl (a : Bool) : Ent
  | [.v (.fl l), .v (.im (.func (.func f) fi ca))] => match rg1 l with
    | some p => bif Nat.beq f 11 && (Nat.beq fi.size 0 && Nat.beq ca.size 0) then some (oAl a p) else none
    | none => none
  | _ => none
theorem gAl_ok (a : Bool) : ∀ cs pre r, gAl a cs = some (pre, r) → allP pre → ∀ (args : List Value) (w : World), CAs w cs args → Good Try.prog 35 r args w := by
  intro cs pre r hg hp args w ha
  unfold gAl at hg
  split at hg
  · rename_i l f fi ca
    split at hg
    · rename_i p hx
      cases hb : (Nat.beq f 11 && (Nat.beq fi.size 0 && Nat.beq ca.size 0)) <;> rw [hb] at hg
      · cases hg
      · simp only [Bool.and_eq_true] at hb
        have hmm := Nat.eq_of_beq_eq_true hb.1
        subst hmm
        have e5 : fi = #[] := Array.eq_empty_of_size_eq_zero (Nat.eq_of_beq_eq_true hb.2.1)
        have e6 : ca = #[] := Array.eq_empty_of_size_eq_zero (Nat.eq_of_beq_eq_true hb.2.2)
        subst e5; subst e6
        have ha' : CAs w [.v (.fl (gq1 p)), .v (.im (.func (.func 11) #[] #[]))] args := by
          match args, ha with
          | [u, v], ha => exact ⟨by have h1 : u = .agg (flat l).toArray := ha.1; rw [rg1_ok l _ hx] at h1; exact h1, ha.2.1, trivial⟩
          | [], ha => exact ha.elim
          | [_], ha => exact ha.2.elim
          | _ :: _ :: _ :: _, ha => exact ha.2.2.elim
        obtain ⟨x, y, i⟩ := p
        cases a
        · cases hg
          exact funB_sound hmix (fun _ _ => ok_ck false) (qG_ok Try.prog) Try.func35 (run_al_f x y i) ⟨bad_ne hp.1, trivial⟩ ha'
        · cases hg
          exact funB_sound hmix (fun _ _ => ok_ck true) (qG_ok Try.prog) Try.func35 (run_al_t x y i) ⟨hp.1, trivial⟩ ha'
    · cases hg
  · cases hg
/-- Read1's -/
noncomputable def T_rd (m : Nat) (k d a : Bool) : Tab := ((T0.add 33 gTells).add 34 (gRo m k d)).add 35 (gAl a)
theorem ok_rd (m : Nat) (hm : m = 2 ∨ m = 3) (k d a : Bool) : TabOk Try.prog (T_rd m k d a) := (((T0_ok _).add Try.func33 (by kernel_rfl) (by kernel_rfl) gTells_ok).add Try.func34 (by kernel_rfl) (by kernel_rfl) (gRo_ok m hm k d)).add Try.func35 (by kernel_rfl) (by kernel_rfl) (gAl_ok a)
def xK (m : Nat) : Ext := x3 (Fs0.add 32 (gTk m)) Wr0 (fun _ => none) (fun _ => none)
theorem xK_ok (m : Nat) (hm : m = 1 ∨ m = 2 ∨ m = 3) (w : World) : EqOkW Try.prog (qY Try.prog (xK m)) w.heap.size w := x3_ok ((Fs0_ok _).add Try.func32 (by kernel_rfl) (by kernel_rfl) (gTk_ok m hm)) (Wr0_ok _) w
def pTk (m : Nat) (B : Nat → Nat) (c : Nat) : List Prop := [L8 (bN B), B 0 / 64 = m, 32 ≤ c]
noncomputable def T_rd0 : Tab := T0.add 32 gTk0
theorem ok_rd0 : TabOk Try.prog T_rd0 := (T0_ok _).add Try.func32 (by kernel_rfl) (by kernel_rfl) gTk0_ok
set_option maxRecDepth 100000 in
theorem run_rd0 (B : Nat → Nat) (c : Nat) : funB Try.prog (qG Try.prog) (cfB T_rd0) Try.f16 80 [.s (bL B) 32 c] = some (pTk 0 B c, .many [.fl zG, .im (.int .i64 44)]) := by kernel_rfl
set_option maxRecDepth 100000 in
theorem run_rd1 (a : Bool) (B : Nat → Nat) (c : Nat) : funB Try.prog (qY Try.prog (xK 1)) (cfB (T_rd 2 true true a)) Try.f16 80 [.s (bL B) 32 c] = some (pTk 1 B c ++ (oAl a (xv (hv (bN B)), 0, true)).1, (oAl a (xv (hv (bN B)), 0, true)).2) := by cases a <;> kernel_rfl
set_option maxRecDepth 100000 in
theorem run_rd2 (k d a : Bool) (B : Nat → Nat) (c : Nat) : funB Try.prog (qY Try.prog (xK 2)) (cfB (T_rd 2 k d a)) Try.f16 80 [.s (bL B) 32 c] = some (pTk 2 B c ++ gRt 2 k d (xv (hv (bN B))) ++ (oAl a (xv (hv (bN B)), (yX 2 k d (xv (hv (bN B)))).1, false)).1, (oAl a (xv (hv (bN B)), (yX 2 k d (xv (hv (bN B)))).1, false)).2) := by cases a <;> kernel_rfl
set_option maxRecDepth 100000 in
theorem run_rd3 (k d a : Bool) (B : Nat → Nat) (c : Nat) : funB Try.prog (qY Try.prog (xK 3)) (cfB (T_rd 3 k d a)) Try.f16 80 [.s (bL B) 32 c] = some (pTk 3 B c ++ gRt 3 k d (xv (hv (bN B))) ++ (oAl a (xv (hv (bN B)), (yX 3 k d (xv (hv (bN B)))).1, false)).1, (oAl a (xv (hv (bN B)), (yX 3 k d (xv (hv (bN B)))).1, false)).2) := by cases a <;> kernel_rfl
end Go.Proofs.Ytebaoemoeckgaaa.Ex
namespace Go.Proofs.Ytebaoemoeckgaaa.Ex
set_option linter.unusedVariables false
set_option linter.unusedSimpArgs false
open Go.RowKit

theorem casR {w : World} {l l' : List At} {n c : Nat} (h : flat l = flat l') {args : List Value} (ha : CAs w [.s l n c] args) : CAs w [.s l' n c] args := by
  match args, ha with
  | [s], ha => exact ⟨by obtain ⟨b, o, e, hb, hr⟩ := ha.1; exact ⟨b, o, e, hb, by rw [← h]; exact hr⟩, trivial⟩
  | [], ha => exact ha.elim
  | _ :: _ :: _, ha => exact ha.2.elim
/-- no mark that goes with 32 bytes -/
theorem rd_flag {l : List At} {L : List Nat} {c : Nat} (hL : bys l = some L) (h8 : L8 L) (hb : L.getD 0 0 / 64 = 0) (hc : 32 ≤ c) (args : List Value) (w : World) (ha : CAs w [.s l 32 c] args) : Good Try.prog 16 (.many [.fl zG, .im (.int .i64 44)]) args w :=
  funB_sound hmix (fun _ _ => ok_rd0) (qG_ok Try.prog) Try.func16 (run_rd0 (fun k => L.getD k 0) c) ⟨by rw [bN_of h8.1]; exact h8, hb, hc, trivial⟩ (casR (bL_of hL h8.1) ha)
theorem rd_inf {l : List At} {L : List Nat} {c : Nat} (a : Bool) (hL : bys l = some L) (h8 : L8 L) (hb : L.getD 0 0 / 64 = 1) (hc : 32 ≤ c) (hp : allP (oAl a (xv (hv L), 0, true)).1) (args : List Value) (w : World) (ha : CAs w [.s l 32 c] args) : Good Try.prog 16 (oAl a (xv (hv L), 0, true)).2 args w := by
  have hN := bN_of h8.1
  have h := funB_soundW hmix (fun _ _ => (ok_rd 2 (Or.inl rfl) true true a).w _ _) (xK_ok 1 (Or.inl rfl) w) Try.func16 (run_rd1 a (fun k => L.getD k 0) c) (allP_append.2 ⟨⟨by rw [hN]; exact h8, hb, hc, trivial⟩, by rw [hN]; exact hp⟩) (casR (bL_of hL h8.1) ha)
  rw [hN] at h
  exact h
theorem rd_two {l : List At} {L : List Nat} {c : Nat} (k d a : Bool) (hL : bys l = some L) (h8 : L8 L) (hb : L.getD 0 0 / 64 = 2) (hc : 32 ≤ c) (hr : allP (gRt 2 k d (xv (hv L)))) (hp : allP (oAl a (xv (hv L), (yX 2 k d (xv (hv L))).1, false)).1) (args : List Value) (w : World) (ha : CAs w [.s l 32 c] args) : Good Try.prog 16 (oAl a (xv (hv L), (yX 2 k d (xv (hv L))).1, false)).2 args w := by
  have hN := bN_of h8.1
  have h := funB_soundW hmix (fun _ _ => (ok_rd 2 (Or.inl rfl) k d a).w _ _) (xK_ok 2 (Or.inr (Or.inl rfl)) w) Try.func16 (run_rd2 k d a (fun k => L.getD k 0) c) (allP_append.2 ⟨allP_append.2 ⟨⟨by rw [hN]; exact h8, hb, hc, trivial⟩, by rw [hN]; exact hr⟩, by rw [hN]; exact hp⟩) (casR (bL_of hL h8.1) ha)
  rw [hN] at h
  exact h
theorem rd_three {l : List At} {L : List Nat} {c : Nat} (k d a : Bool) (hL : bys l = some L) (h8 : L8 L) (hb : L.getD 0 0 / 64 = 3) (hc : 32 ≤ c) (hr : allP (gRt 3 k d (xv (hv L)))) (hp : allP (oAl a (xv (hv L), (yX 3 k d (xv (hv L))).1, false)).1) (args : List Value) (w : World) (ha : CAs w [.s l 32 c] args) : Good Try.prog 16 (oAl a (xv (hv L), (yX 3 k d (xv (hv L))).1, false)).2 args w := by
  have hN := bN_of h8.1
  have h := funB_soundW hmix (fun _ _ => (ok_rd 3 (Or.inr rfl) k d a).w _ _) (xK_ok 3 (Or.inr (Or.inr rfl)) w) Try.func16 (run_rd3 k d a (fun k => L.getD k 0) c) (allP_append.2 ⟨allP_append.2 ⟨⟨by rw [hN]; exact h8, hb, hc, trivial⟩, by rw [hN]; exact hr⟩, by rw [hN]; exact hp⟩) (casR (bL_of hL h8.1) ha)
  rw [hN] at h
  exact h

/-- the generator's bytes -/
def one32 : List Nat := [128, 0, 0, 0, 0, 0, 0, 0, 0, 0, 0, 0, 0, 0, 0, 0, 0, 0, 0, 0, 0, 0, 0, 0, 0, 0, 0, 0, 0, 0, 0, 1]
theorem one_xv : xv (hv one32) = 1 := by kernel_rfl
theorem wv_1 : wv 1 = 1 := by kernel_rfl
theorem ys_4 : ysX true 1 = fm 4 := by unfold ysX cubX m1; rw [cond_true, wv_1]; decide
theorem sq_4 : F1.mul (fm 2) (fm 2) = fm 4 := by decide
theorem y_2 : yX 2 true true 1 = fm 2 := by
  have h : rtX true (ysX true 1) = fm 2 := by rw [rtX_t, ys_4]; exact fsq_uniq sq_4 (by decide)
  unfold yX
  rw [h]
  rfl
theorem isq_4 : isq (ysX true 1) := by rw [ys_4]; exact ⟨fm 2, sq_4⟩
theorem ck_12 : (ck1 1 2 false).1 = 0 := by
  have hb : bl1 1 ∧ bl1 2 := by unfold bl1; exact ⟨by rw [wv_1]; decide, by rw [show wv 2 = 2 from by kernel_rfl]; decide⟩
  rw [ck1_eq, if_neg (by decide), if_neg (fun h => h hb), if_pos (by unfold m1; rw [wv_1, show wv 2 = 2 from by kernel_rfl]; decide)]
theorem ck_inf : (ck1 0 0 true).1 = 0 := by
  have hz : zr1 0 ∧ zr1 0 := by unfold zr1; exact ⟨by kernel_rfl, by kernel_rfl⟩
  rw [ck1_eq, if_pos rfl, if_pos hz]
theorem l8_of {L : List Nat} (h : L.length = 32) (h2 : L.all (fun b => Nat.blt b 256) = true) : L8 L := ⟨h, fun k => by
  rw [List.all_eq_true] at h2
  by_cases hk : k < L.length
  · rw [List.getD_eq_getElem?_getD, List.getElem?_eq_getElem hk]
    exact Nat.le_of_ble_eq_true (h2 _ (List.getElem_mem hk))
  · rw [List.getD_eq_getElem?_getD, List.getElem?_eq_none (by omega)]
    exact Nat.succ_pos _⟩
theorem l8_one : L8 one32 := l8_of rfl (by decide)
def gRA : Ent
  | [.s l 32 c] => match bys l with
    | some L => bif Nat.beq (L.getD 0 0) 0 then some ([L8 L, L.getD 0 0 = 0, 32 ≤ c], .many [.fl zG, .im (.int .i64 44)]) else some ([L = one32, 32 ≤ c], .many [.fl (gq1 (1, 2, false)), .im (.int .i64 0)])
    | none => none
  | _ => none
theorem gRA_ok : ∀ cs pre r, gRA cs = some (pre, r) → allP pre → ∀ (args : List Value) (w : World), CAs w cs args → Good Try.prog 16 r args w := by
  intro cs pre r hg hp args w ha
  unfold gRA at hg
  split at hg
  · rename_i l c
    split at hg
    · rename_i L hL
      cases hb : Nat.beq (L.getD 0 0) 0 <;> rw [hb] at hg
      · cases hg
        obtain ⟨h1, hc, _⟩ := hp
        subst h1
        have h := rd_two true true true hL l8_one rfl hc (by rw [one_xv]; exact ⟨by show wv 1 < _; rw [wv_1]; decide, isq_4, trivial⟩) (by rw [one_xv, y_2]; exact ⟨ck_12, trivial⟩) args w ha
        rw [one_xv, y_2] at h
        exact h
      · cases hg
        obtain ⟨h8, h0, hc, _⟩ := hp
        exact rd_flag hL h8 (by rw [h0]) hc args w ha
    · cases hg
  · cases hg
def gNum5 : Ent
  | [.v (.im v)] => some ([], .one (.im v))
  | _ => none
set_option maxRecDepth 100000 in
theorem run_num5 (v : Value) : funB Try.prog (qG Try.prog) (fun _ => ⟨fun _ => T0, fun _ => true, fun _ => none⟩) Try.f10 60 [.v (.im v)] = some ([], .one (.im v)) := by kernel_rfl
theorem gNum5_ok : ∀ cs pre r, gNum5 cs = some (pre, r) → allP pre → ∀ (args : List Value) (w : World), CAs w cs args → Good Try.prog 10 r args w := by
  intro cs pre r hg hp args w ha
  unfold gNum5 at hg
  split at hg
  · rename_i v
    cases hg
    exact funB_sound hmix (fun _ _ => T0_ok _) (qG_ok Try.prog) Try.func10 (run_num5 v) trivial ha
  · cases hg
/-- with room behind -/
def oSA (c : Bool) (p : G1N) : FS := ⟨bm (wv p.1) (sMark c p.2.2), 32, 5, 1, true, [], [.im (.int .i64 0)]⟩
theorem psA_ok (c : Bool) (p : G1N) (hp : allP (okP c p)) (args : List Value) (w : World) (ha : CAs w [.v (.fl (gq1 p))] args) : Calls Try.prog 6 args.toArray w (fun e w' => (oSA c p).ok w e w') := by
  obtain ⟨h0, h1, h2, _⟩ := hp
  obtain ⟨x, y, i⟩ := p
  cases i
  · exact funS_sound hmix (fun _ _ => (ok_po true c).w _ _) (rb1_run w) Try.func6 (run_ps_f x y c) ⟨h0, h1, h2, sM_lt c, trivial⟩ ha
  · exact funS_sound hmix (fun _ _ => (ok_po true c).w _ _) (rb1_run w) Try.func6 (run_ps_t x y c) ⟨h0, h1, h2, by decide, trivial⟩ ha
def T_al : Tab := (T0.add 10 gNum5).add 16 gRA
theorem ok_al5 : TabOk Try.prog T_al := ((T0_ok _).add Try.func10 (by kernel_rfl) (by kernel_rfl) gNum5_ok).add Try.func16 (by kernel_rfl) (by kernel_rfl) gRA_ok
noncomputable def xAl : Ext := x3 (Fs0.add 6 (gFS (okP true) (oSA true))) Wr0 (fun _ => none) (fun i => bif Nat.beq i 22 then some (32, z8 32) else none)
theorem xAl_ok (w : World) : EqOkW Try.prog (qY Try.prog xAl) w.heap.size w := x3_ok ((Fs0_ok _).add Try.func6 (by kernel_rfl) (by kernel_rfl) (gFS_ok fun p hp args w ha => psA_ok true p hp args w ha)) (Wr0_ok _) w
noncomputable def alCode : Code := (Try.f14.body).getD .skip
theorem al_code : alCode = .seq (cA alCode) (.seq (cA (cB alCode)) (cB (cB alCode))) := by kernel_rfl
def alA1 : List Fact := [.slot 1 (.so 13 32), .row 13 true (bm (wv 1) 2), .app 13 5 1 32, .slot 2 (.im (.int .i64 0))]
def alA2 (cap : Nat) : List Fact := [.slot 1 (.sl 13 0 32 cap), .row 13 true (bm (wv 1) 2), .slot 2 (.im (.int .i64 0))]
/-- a slice whose room is told -/
theorem Holds.cap {nt base : Nat} {w0 : World} {A : List Fact} {a : Act} {w : World} (h : Holds nt base w0 A a w) {s k n e sz : Nat} (h1 : Fact.slot s (.so k n) ∈ A) (h2 : Fact.app k e sz n ∈ A) : ∃ cap, n ≤ cap ∧ Holds nt base w0 (.slot s (.sl k 0 n cap) :: A) a w := by
  obtain ⟨β, g1, g2⟩ := h.facts
  have e1 := g1 _ h1
  have e2 := g1 _ h2
  simp only [Fact.ok] at e1 e2
  obtain ⟨cur, q1, q2, q3, q4⟩ := e2
  refine ⟨(β k).2.2, q2, h.defers, h.size, h.below, h.heap, β, fun φ hφ => ?_, fun k1 k2 l1 l2 q1 q2 => ?_⟩
  · rcases List.mem_cons.1 hφ with rfl | hφ
    · show a.tmps[s]? = _
      rw [e1]
      simp [AV.den]
    · exact g1 φ hφ
  · rcases List.mem_cons.1 q1 with q1 | q1
    · cases q1
    · rcases List.mem_cons.1 q2 with q2 | q2
      · cases q2
      · exact g2 k1 k2 l1 l2 q1 q2
set_option maxRecDepth 100000 in
theorem al_s0 : runK Try.prog (qY Try.prog xAl) Try.f14.ntmps (cfB T_al) 60 (cA alCode) [] [] = some ([], .nrm, []) := by kernel_rfl
set_option maxRecDepth 100000 in
theorem al_s1 : runK Try.prog (qY Try.prog xAl) Try.f14.ntmps (cfB T_al) 60 (cA (cB alCode)) [] alA1 = some (okP true (1, 2, false), .nrm, alA1) := by kernel_rfl
def z32 : List Nat := [0, 0, 0, 0, 0, 0, 0, 0, 0, 0, 0, 0, 0, 0, 0, 0, 0, 0, 0, 0, 0, 0, 0, 0, 0, 0, 0, 0, 0, 0, 0, 0]
set_option maxRecDepth 100000 in
theorem al_s2 (cap : Nat) : runK Try.prog (qY Try.prog xAl) Try.f14.ntmps (cfB T_al) 60 (cB (cB alCode)) (alA2 cap) [.slot 0 (.im (.bool true))] = some ([[byteAt (wv 1) 0 ||| 64 * 2, byteAt (wv 1) 1, byteAt (wv 1) 2, byteAt (wv 1) 3, byteAt (wv 1) 4, byteAt (wv 1) 5, byteAt (wv 1) 6, byteAt (wv 1) 7, byteAt (wv 1) 8, byteAt (wv 1) 9, byteAt (wv 1) 10, byteAt (wv 1) 11, byteAt (wv 1) 12, byteAt (wv 1) 13, byteAt (wv 1) 14, byteAt (wv 1) 15, byteAt (wv 1) 16, byteAt (wv 1) 17, byteAt (wv 1) 18, byteAt (wv 1) 19, byteAt (wv 1) 20, byteAt (wv 1) 21, byteAt (wv 1) 22, byteAt (wv 1) 23, byteAt (wv 1) 24, byteAt (wv 1) 25, byteAt (wv 1) 26, byteAt (wv 1) 27, byteAt (wv 1) 28, byteAt (wv 1) 29, byteAt (wv 1) 30, byteAt (wv 1) 31] = one32, 32 ≤ cap, Mk 32, L8 z32, z32.getD 0 0 = 0, 32 ≤ 32] ++ okP true (0, 0, true) ++ [flat (gq1 (1, 2, false)) = flat [.f (fm 1), .f (fm 2), .c (.bool false)]], .rt, [.slot 0 (.im (.bool true))]) := by kernel_rfl
theorem okP_12 : allP (okP true (1, 2, false)) := ⟨ck_12, by show wv 2 < _; rw [show wv 2 = 2 from by kernel_rfl]; decide, by show lowB _ (wv 2) = _; rw [show wv 2 = 2 from by kernel_rfl]; decide, trivial⟩
theorem okP_inf : allP (okP true (0, 0, true)) := ⟨ck_inf, by show wv 0 < _; rw [show wv 0 = 0 from by kernel_rfl]; decide, by show lowB _ (wv 0) = _; rw [show wv 0 = 0 from by kernel_rfl]; decide, trivial⟩
theorem alive_ok (args : List Value) (w : World) (ha : CAs w [] args) : Good Try.prog 14 (.one (.im (.bool true))) args w := by
  have hT : ∀ n d : Nat, TabOkW Try.prog ((cfB T_al n).T d) w.heap.size w := fun _ _ => ok_al5.w _ _
  refine fn_enter Try.func14 (c := alCode) rfl ha (Nat.le_of_ble_eq_true (by kernel_rfl)) fun a w' hA => ?_
  rw [al_code]
  refine wp_seq (runKW_sound hmix hT (xAl_ok w) al_s0 trivial hA fun a w' hA => ?_)
  refine wp_seq (runKW_sound hmix hT (xAl_ok w) al_s1 okP_12 hA fun a w' hA => ?_)
  obtain ⟨cap, hc, hA⟩ := hA.cap (s := 1) (k := 13) (n := 32) (e := 5) (sz := 1) (List.mem_cons_self ..) (List.mem_cons_of_mem _ (List.mem_cons_of_mem _ (List.mem_cons_self ..)))
  have hA2 : Holds Try.f14.ntmps w.heap.size w (alA2 cap) a w' := hA.sub fun φ hφ => by
    rcases List.mem_cons.1 hφ with rfl | hφ
    · exact List.mem_cons_self ..
    · rcases List.mem_cons.1 hφ with rfl | hφ
      · exact List.mem_cons_of_mem _ (List.mem_cons_of_mem _ (List.mem_cons_self ..))
      · rcases List.mem_cons.1 hφ with rfl | hφ
        · exact List.mem_cons_of_mem _ (List.mem_cons_of_mem _ (List.mem_cons_of_mem _ (List.mem_cons_of_mem _ (List.mem_cons_self ..))))
        · cases hφ
  refine runKW_sound hmix hT (xAl_ok w) (al_s2 cap) (allP_append.2 ⟨allP_append.2 ⟨⟨by kernel_rfl, hc, mk_ok 32 (by decide), l8_of rfl (by decide), rfl, Nat.le_refl _, trivial⟩, okP_inf⟩, by kernel_rfl, trivial⟩) hA2 fun a w' hA => ?_
  exact fn_leave (l := [.im (.bool true)]) (r := .one (.im (.bool true))) (by kernel_rfl) (by kernel_rfl) hA
end Go.Proofs.Ytebaoemoeckgaaa.Ex
