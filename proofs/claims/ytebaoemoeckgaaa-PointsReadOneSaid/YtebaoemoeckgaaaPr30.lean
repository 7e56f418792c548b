/-
  Lists of points: they come in, their sums, the sums of their multiples. Conditions: none but for lists of 32 points and more, whose multiples are not told.
  What the exported functions of the curves answer: sums, negatives, multiples, checks, generators. Conditions: lists of less than 32 points for multiples.
  The reference's curve: points by Jacobian coordinates, their sums and doubles, in a table of calls. Conditions: none.
  The calls of the reference's Len, Shl and Shr, bit by bit: for any number of four words and any number of bits, in any world. Conditions: each word below 2^64; the number of bits an int.
  The reference's lengths and bits of numbers in tables of calls. Conditions: none.
-/
import Derived.LoopTactic
import Derived.Deep.LoopGhost
import Derived.RegionTactic
import Derived.Test.YtebaoemoeckgaaaPr29
import Derived.Test.YtebaoemoeckgaaaPr19
import Derived.Test.YtebaoemoeckgaaaPr01
namespace Go.Proofs.Ytebaoemoeckgaaa.Ex
set_option linter.unusedVariables false
set_option linter.unusedSimpArgs false
open Go.RowKit
theorem s_gt {N k : Nat} : intOp .gtr .i64 (Int.ofNat N) (Int.ofNat k) = some (.bool (decide (k < N))) := o_gtr

noncomputable def ckN1 (p : G1N) : Int × J1 := ck1 p.1 p.2.1 p.2.2
/-- the first error -/
noncomputable def err1 (ps : Nat → G1N) : Nat → Int
  | 0 => 0
  | i + 1 => if err1 ps i ≠ 0 then err1 ps i else (ckN1 (ps i)).1
theorem err1_ok {ps : Nat → G1N} : ∀ {N : Nat}, err1 ps N = 0 → ∀ j, j < N → (ckN1 (ps j)).1 = 0
  | N + 1, h, j, hj => by
    unfold err1 at h
    by_cases h0 : err1 ps N = 0
    · rw [if_neg (fun q => q h0)] at h
      by_cases e : j = N
      · rw [e]; exact h
      · exact err1_ok h0 j (by omega)
    · rw [if_pos h0] at h; exact (h0 h).elim
theorem err1_bad {ps : Nat → G1N} : ∀ {N : Nat}, err1 ps N ≠ 0 → ∃ j, j < N ∧ (∀ k, k < j → (ckN1 (ps k)).1 = 0) ∧ (ckN1 (ps j)).1 ≠ 0 ∧ err1 ps N = (ckN1 (ps j)).1
  | 0, h => (h rfl).elim
  | N + 1, h => by
    unfold err1 at h ⊢
    by_cases h0 : err1 ps N = 0
    · rw [if_neg (fun q => q h0)] at h ⊢
      exact ⟨N, by omega, fun k hk => err1_ok h0 k hk, h, rfl⟩
    · rw [if_pos h0]
      obtain ⟨j, h1, h2, h3, h4⟩ := err1_bad h0
      exact ⟨j, by omega, h2, h3, h4⟩
noncomputable def pj1 (ps : Nat → G1N) (j : Nat) : J1 := (ckN1 (ps j)).2
noncomputable def aiC1 (num : Nat → Option Value) (_ : Nat) : Cfg := ⟨fun _ => (T_dig true), fun _ => true, num⟩
def aiXm1 (N : Nat) (Z : List At) : Ext := { xt0 (fun _ _ _ => False) with mks := assoc [(12, (N, Z))] }
def aiX1 (i : Nat) (p : G1N) (Z' : List At) : Ext := { xt0 (fun _ _ _ => False) with idx := assoc [(23, i), (34, i)], ld := assoc [(24, gq1 p)], st := assoc [(34, Z')] }
theorem ej1_same : Same (flat (ej1 zp1)) (.int .u64 0) := by unfold Same; kernel_rfl
/-- the sum of so many -/
noncomputable def tot1 (pt : Nat → J1) : Nat → J1
  | 0 => zp1
  | i + 1 => jplus F1 (tot1 pt i) (pt i)
def toF1 (L : List At) (N N' i : Nat) (s : J1) : List Fact := [.row 0 false L, .slot 2 (.pt 2 0), .row 2 true (ej1 zp1), .slot 3 (.pt 3 0), .row 3 true (ej1 s), .slot 6 (.sl 0 0 N N'), .slot 7 (.im (iI N)), .slot 8 (.im (iI i))]
def toA1 (L : List At) (N N' : Nat) : List Fact := [.slot 0 (.sl 0 0 N N'), .row 0 false L, .slot 2 (.pt 2 0), .row 2 true (ej1 zp1)]
def toB1 (L : List At) (N N' : Nat) : List Fact := [.slot 0 (.sl 0 0 N N'), .row 0 false L, .slot 2 (.pt 2 0), .row 2 true (ej1 zp1), .slot 3 (.pt 3 0), .row 3 true (ej1 zp1)]
noncomputable def toX1 (i : Nat) (p : J1) : Ext := { xt0 (fun _ _ _ => False) with idx := assoc [(10, i)], ld := assoc [(11, ej1 p)] }
/-- the entries of the list functions, for given lists -/
noncomputable def sumM1 (pt : Nat → J1) (x : Nat → Nat) (N : Nat) : J1 := ov1 (fun p => cs1 pt x p N) (mxL x N / 4 + 1) (mxL x N / 4 + 1)
noncomputable def gBt1 (pt : Nat → J1) (x : Nat → Nat) (N : Nat) : Ent
  | [.s LP n1 n2, .s LX n3 n4] => some ([flat LP = flat (cat (fun j => ej1 (pt j)) 0 N), flat LX = flat (cat (fun j => [.q (x j)]) 0 N), n1 = N, n3 = N, N ≤ 65536], .one (.fl (ej1 (sumM1 pt x N))))
  | _ => none
noncomputable def gMu1 (pt : Nat → J1) (x : Nat → Nat) (N : Nat) : Ent
  | [.s LP n1 n2, .s LX n3 n4] => some ([flat LP = flat (cat (fun j => ej1 (pt j)) 0 N), flat LX = flat (cat (fun j => [.q (x j)]) 0 N), n1 = N, n3 = N, N < 32], .one (.fl (ej1 (sumM1 pt x N))))
  | _ => none
noncomputable def gTo1 (pt : Nat → J1) (N : Nat) : Ent
  | [.s L n1 n2] => some ([flat L = flat (cat (fun j => ej1 (pt j)) 0 N), n1 = N, N ≤ 65536], .one (.fl (ej1 (tot1 pt N))))
  | _ => none
/-- what a sum of multiples answers, of less than 32 points -/
noncomputable def resM1 (ps : Nat → G1N) (x : Nat → Nat) (N : Nat) : Pt Fq × Int := if err1 ps N ≠ 0 then (some (F1.zero, F1.zero), err1 ps N) else (jto F1 finv (sumM1 (pj1 ps) x N), 0)
noncomputable def resS1 (ps : Nat → G1N) (N : Nat) : Pt Fq × Int := if err1 ps N ≠ 0 then (some (F1.zero, F1.zero), err1 ps N) else (jto F1 finv (tot1 (pj1 ps) N), 0)
noncomputable def ckN2 (p : G2N) : Int × J2 := ck2 p.1 p.2.1 p.2.2
/-- the first error -/
noncomputable def err2 (ps : Nat → G2N) : Nat → Int
  | 0 => 0
  | i + 1 => if err2 ps i ≠ 0 then err2 ps i else (ckN2 (ps i)).1
theorem err2_ok {ps : Nat → G2N} : ∀ {N : Nat}, err2 ps N = 0 → ∀ j, j < N → (ckN2 (ps j)).1 = 0
  | N + 1, h, j, hj => by
    unfold err2 at h
    by_cases h0 : err2 ps N = 0
    · rw [if_neg (fun q => q h0)] at h
      by_cases e : j = N
      · rw [e]; exact h
      · exact err2_ok h0 j (by omega)
    · rw [if_pos h0] at h; exact (h0 h).elim
theorem err2_bad {ps : Nat → G2N} : ∀ {N : Nat}, err2 ps N ≠ 0 → ∃ j, j < N ∧ (∀ k, k < j → (ckN2 (ps k)).1 = 0) ∧ (ckN2 (ps j)).1 ≠ 0 ∧ err2 ps N = (ckN2 (ps j)).1
  | 0, h => (h rfl).elim
  | N + 1, h => by
    unfold err2 at h ⊢
    by_cases h0 : err2 ps N = 0
    · rw [if_neg (fun q => q h0)] at h ⊢
      exact ⟨N, by omega, fun k hk => err2_ok h0 k hk, h, rfl⟩
    · rw [if_pos h0]
      obtain ⟨j, h1, h2, h3, h4⟩ := err2_bad h0
      exact ⟨j, by omega, h2, h3, h4⟩
noncomputable def pj2 (ps : Nat → G2N) (j : Nat) : J2 := (ckN2 (ps j)).2
noncomputable def aiC2 (num : Nat → Option Value) (_ : Nat) : Cfg := ⟨fun _ => (T_dig true), fun _ => true, num⟩
def aiXm2 (N : Nat) (Z : List At) : Ext := { xt0 (fun _ _ _ => False) with mks := assoc [(12, (N, Z))] }
def aiX2 (i : Nat) (p : G2N) (Z' : List At) : Ext := { xt0 (fun _ _ _ => False) with idx := assoc [(23, i), (34, i)], ld := assoc [(24, gq2 p)], st := assoc [(34, Z')] }
theorem ej2_same : Same (flat (ej2 zp2)) (.int .u64 0) := by unfold Same; kernel_rfl
/-- the sum of so many -/
noncomputable def tot2 (pt : Nat → J2) : Nat → J2
  | 0 => zp2
  | i + 1 => jplus F2 (tot2 pt i) (pt i)
def toF2 (L : List At) (N N' i : Nat) (s : J2) : List Fact := [.row 0 false L, .slot 2 (.pt 2 0), .row 2 true (ej2 zp2), .slot 3 (.pt 3 0), .row 3 true (ej2 s), .slot 6 (.sl 0 0 N N'), .slot 7 (.im (iI N)), .slot 8 (.im (iI i))]
def toA2 (L : List At) (N N' : Nat) : List Fact := [.slot 0 (.sl 0 0 N N'), .row 0 false L, .slot 2 (.pt 2 0), .row 2 true (ej2 zp2)]
def toB2 (L : List At) (N N' : Nat) : List Fact := [.slot 0 (.sl 0 0 N N'), .row 0 false L, .slot 2 (.pt 2 0), .row 2 true (ej2 zp2), .slot 3 (.pt 3 0), .row 3 true (ej2 zp2)]
noncomputable def toX2 (i : Nat) (p : J2) : Ext := { xt0 (fun _ _ _ => False) with idx := assoc [(10, i)], ld := assoc [(11, ej2 p)] }
/-- the entries of the list functions, for given lists -/
noncomputable def sumM2 (pt : Nat → J2) (x : Nat → Nat) (N : Nat) : J2 := ov2 (fun p => cs2 pt x p N) (mxL x N / 4 + 1) (mxL x N / 4 + 1)
noncomputable def gBt2 (pt : Nat → J2) (x : Nat → Nat) (N : Nat) : Ent
  | [.s LP n1 n2, .s LX n3 n4] => some ([flat LP = flat (cat (fun j => ej2 (pt j)) 0 N), flat LX = flat (cat (fun j => [.q (x j)]) 0 N), n1 = N, n3 = N, N ≤ 65536], .one (.fl (ej2 (sumM2 pt x N))))
  | _ => none
noncomputable def gMu2 (pt : Nat → J2) (x : Nat → Nat) (N : Nat) : Ent
  | [.s LP n1 n2, .s LX n3 n4] => some ([flat LP = flat (cat (fun j => ej2 (pt j)) 0 N), flat LX = flat (cat (fun j => [.q (x j)]) 0 N), n1 = N, n3 = N, N < 32], .one (.fl (ej2 (sumM2 pt x N))))
  | _ => none
noncomputable def gTo2 (pt : Nat → J2) (N : Nat) : Ent
  | [.s L n1 n2] => some ([flat L = flat (cat (fun j => ej2 (pt j)) 0 N), n1 = N, N ≤ 65536], .one (.fl (ej2 (tot2 pt N))))
  | _ => none
/-- what a sum of multiples answers, of less than 32 points -/
noncomputable def resM2 (ps : Nat → G2N) (x : Nat → Nat) (N : Nat) : Pt Q2 × Int := if err2 ps N ≠ 0 then (some (F2.zero, F2.zero), err2 ps N) else (jto F2 iv2 (sumM2 (pj2 ps) x N), 0)
noncomputable def resS2 (ps : Nat → G2N) (N : Nat) : Pt Q2 × Int := if err2 ps N ≠ 0 then (some (F2.zero, F2.zero), err2 ps N) else (jto F2 iv2 (tot2 (pj2 ps) N), 0)
end Go.Proofs.Ytebaoemoeckgaaa.Ex
namespace Go.Proofs.Ytebaoemoeckgaaa.Ex
set_option linter.unusedVariables false
set_option linter.unusedSimpArgs false
open Go.RowKit
/-- a list of two -/
def p2 {A : Type} (p q : A) : Nat → A | 0 => p | _ + 1 => q
def p3 {A : Type} (p q r : A) : Nat → A | 0 => p | 1 => q | _ + 2 => r

noncomputable def resN1 (p : G1N) : Pt Fq × Int := if (ck1 p.1 p.2.1 p.2.2).1 ≠ 0 then ((some (F1.zero, F1.zero)), (ck1 p.1 p.2.1 p.2.2).1) else (jto F1 finv (jneg F1 (ck1 p.1 p.2.1 p.2.2).2), 0)
noncomputable def resN2 (p : G2N) : Pt Q2 × Int := if (ck2 p.1 p.2.1 p.2.2).1 ≠ 0 then ((some (F2.zero, F2.zero)), (ck2 p.1 p.2.1 p.2.2).1) else (jto F2 iv2 (jneg F2 (ck2 p.1 p.2.1 p.2.2).2), 0)
end Go.Proofs.Ytebaoemoeckgaaa.Ex
namespace Go.Proofs.Ytebaoemoeckgaaa.Ex
set_option linter.unusedVariables false
set_option linter.unusedSimpArgs false
open Go.RowKit
def gMod : Ent
  | [.v (.im (.int .i64 (.ofNat 1)))] => some ([], .one (.fl (q1 FP.M)))
  | [.v (.im (.int .i64 (.ofNat 2)))] => some ([], .one (.fl (q1 Go.Proofs.Ytebaoemoeckgaaa.FR.M)))
  | _ => none
theorem rmod_ok : ∀ cs pre r, gMod cs = some (pre, r) → allP pre → ∀ (args : List Value) (w : World), CAs w cs args → Good Try.prog 47 r args w := by
  intro cs pre r hg hp args w ha
  unfold gMod at hg
  split at hg
  · cases hg
    match args, ha with
    | [v], ha =>
      have h1 : v = .int .i64 1 := ha.1
      subst h1
      exact (rmod_some 1 FP (Or.inl ⟨rfl, rfl⟩) w).mono fun e w' h => h
    | [], ha => exact ha.elim
    | _ :: _ :: _, ha => exact ha.2.elim
  · cases hg
    match args, ha with
    | [v], ha =>
      have h1 : v = .int .i64 2 := ha.1
      subst h1
      exact (rmod_some 2 Go.Proofs.Ytebaoemoeckgaaa.FR (Or.inr ⟨rfl, rfl⟩) w).mono fun e w' h => h
    | [], ha => exact ha.elim
    | _ :: _ :: _, ha => exact ha.2.elim
  · cases hg
/-- is the number below p? -/
def blw (n : Nat) : Bool := isB (wv n) FP.M
def gBel : Ent
  | [.v (.im (.int .i64 (.ofNat 1))), .v (.fl l)] => match rq1 l with
    | some n => some ([], .one (.im (.bool (blw n))))
    | none => none
  | _ => none
theorem bel_ok : ∀ cs pre r, gBel cs = some (pre, r) → allP pre → ∀ (args : List Value) (w : World), CAs w cs args → Good Try.prog 21 r args w := by
  intro cs pre r hg hp args w ha
  unfold gBel at hg
  split at hg
  · rename_i l
    split at hg
    · rename_i n hn
      cases hg
      match args, ha with
      | [v, u], ha =>
        have h1 : v = .int .i64 1 := ha.1
        have h2 : u = .agg (flat l).toArray := ha.2.1
        rw [rq1_ok l _ hn] at h2
        subst h1; subst h2
        exact rbelow_calls 1 FP (Or.inl ⟨rfl, rfl⟩) _ _ _ _ (fw_ok n) w
      | [], ha => exact ha.elim
      | [_], ha => exact ha.2.elim
      | _ :: _ :: _ :: _, ha => exact ha.2.2.elim
    · cases hg
  · cases hg
def gRN : Ent
  | [.v (.im (.int .i64 (.ofNat 1))), .v (.fl l)] => match rv1 l with
    | some x => some ([], .one (.fl (e1 (F1.neg x))))
    | none => none
  | _ => none
theorem gRN_ok : ∀ cs pre r, gRN cs = some (pre, r) → allP pre → ∀ (args : List Value) (w : World), CAs w cs args → Good Try.prog 68 r args w := by
  intro cs pre r hg hp args w ha
  unfold gRN at hg
  split at hg
  · rename_i l
    split at hg
    · rename_i x hx
      obtain ⟨a, e1, rfl⟩ := rv1_ok l x hx
      cases hg
      match args, ha with
      | [v, u], ha =>
        have h1 : v = .int .i64 1 := ha.1
        have h2 : u = .agg (flat l).toArray := ha.2.1
        rw [e1] at h2
        subst h1; subst h2
        refine (rneg_calls 1 FP (Or.inl ⟨rfl, rfl⟩) _ _ _ _ (fw_ok a) w).mono fun e w' h => ?_
        exact FwPost.of (Nat.mod_lt _ fp_pos) h
      | [], ha => exact ha.elim
      | [_], ha => exact ha.2.elim
      | _ :: _ :: _ :: _, ha => exact ha.2.2.elim
    · cases hg
  · cases hg

noncomputable def T_R2Mod : Tab := ((T_On1 true)).add 47 gMod
theorem ok_R2Mod : TabOk Try.prog T_R2Mod := ((ok_On1 true)).add Try.func47 (by kernel_rfl) (by kernel_rfl) rmod_ok
noncomputable def T_R2Bel : Tab := (T_R2Mod).add 21 gBel
theorem ok_R2Bel : TabOk Try.prog T_R2Bel := (ok_R2Mod).add Try.func21 (by kernel_rfl) (by kernel_rfl) bel_ok
noncomputable def T_R2Neg : Tab := (T_R2Bel).add 68 gRN
theorem ok_R2Neg : TabOk Try.prog T_R2Neg := (ok_R2Bel).add Try.func68 (by kernel_rfl) (by kernel_rfl) gRN_ok
set_option maxRecDepth 100000 in
theorem run_r4add1 (x y : Nat) : funB Try.prog (qG Try.prog) (fun _ => ⟨fun s => T_R2Neg, fun s => true, fun _ => none⟩) Try.f54 60 [.v (.fl (q1 x)), .v (.fl (q1 y))] = some ([], .one (.fl (e1 (F1.add (m1 x) (m1 y))))) := by kernel_rfl
noncomputable def T_r4add1 : Tab := (T_R2Neg).add 54 (g2 rv1 rv1 (fun x y => ([], .one (.fl (e1 (F1.add x y))))))
theorem ok_r4add1 : TabOk Try.prog T_r4add1 := (ok_R2Neg).add Try.func54 (by kernel_rfl) (by kernel_rfl) (g2v_ok rv1_ok rv1_ok fun x y hp args w ha => funB_sound hmix (fun _ s => ok_R2Neg) (qG_ok Try.prog) Try.func54 (run_r4add1 x y) trivial ha)
set_option maxRecDepth 100000 in
theorem run_r4sub1 (x y : Nat) : funB Try.prog (qG Try.prog) (fun _ => ⟨fun s => T_r4add1, fun s => true, fun _ => none⟩) Try.f96 60 [.v (.fl (q1 x)), .v (.fl (q1 y))] = some ([], .one (.fl (e1 (F1.sub (m1 x) (m1 y))))) := by kernel_rfl
noncomputable def T_r4sub1 : Tab := (T_r4add1).add 96 (g2 rv1 rv1 (fun x y => ([], .one (.fl (e1 (F1.sub x y))))))
theorem ok_r4sub1 : TabOk Try.prog T_r4sub1 := (ok_r4add1).add Try.func96 (by kernel_rfl) (by kernel_rfl) (g2v_ok rv1_ok rv1_ok fun x y hp args w ha => funB_sound hmix (fun _ s => ok_r4add1) (qG_ok Try.prog) Try.func96 (run_r4sub1 x y) trivial ha)
set_option maxRecDepth 100000 in
theorem run_r4mul1 (x y : Nat) : funB Try.prog (qG Try.prog) (fun _ => ⟨fun s => T_r4sub1, fun s => true, fun _ => none⟩) Try.f53 60 [.v (.fl (q1 x)), .v (.fl (q1 y))] = some ([], .one (.fl (e1 (F1.mul (m1 x) (m1 y))))) := by kernel_rfl
noncomputable def T_r4mul1 : Tab := (T_r4sub1).add 53 (g2 rv1 rv1 (fun x y => ([], .one (.fl (e1 (F1.mul x y))))))
theorem ok_r4mul1 : TabOk Try.prog T_r4mul1 := (ok_r4sub1).add Try.func53 (by kernel_rfl) (by kernel_rfl) (g2v_ok rv1_ok rv1_ok fun x y hp args w ha => funB_sound hmix (fun _ s => ok_r4sub1) (qG_ok Try.prog) Try.func53 (run_r4mul1 x y) trivial ha)
set_option maxRecDepth 100000 in
theorem run_r4neg1 (x : Nat) : funB Try.prog (qG Try.prog) (fun _ => ⟨fun s => T_r4mul1, fun s => true, fun _ => none⟩) Try.f45 60 [.v (.fl (q1 x))] = some ([], .one (.fl (e1 (F1.neg (m1 x))))) := by kernel_rfl
noncomputable def T_r4neg1 : Tab := (T_r4mul1).add 45 (g1 rv1 (fun x => ([], .one (.fl (e1 (F1.neg x))))))
theorem ok_r4neg1 : TabOk Try.prog T_r4neg1 := (ok_r4mul1).add Try.func45 (by kernel_rfl) (by kernel_rfl) (g1v_ok rv1_ok fun x hp args w ha => funB_sound hmix (fun _ s => ok_r4mul1) (qG_ok Try.prog) Try.func45 (run_r4neg1 x) trivial ha)
set_option maxRecDepth 100000 in
theorem run_r4inv1 (x : Nat) : funB Try.prog (qG Try.prog) (fun _ => ⟨fun s => T_r4neg1, fun s => true, fun _ => none⟩) Try.f77 60 [.v (.fl (q1 x))] = some ([m1 x ≠ F1.zero], .many [.fl (e1 (finv (m1 x))), .im (.int .i64 0)]) := by kernel_rfl
noncomputable def T_r4inv1 : Tab := (T_r4neg1).add 77 (g1 rv1 (fun x => ([x ≠ F1.zero], .many [.fl (e1 (finv x)), .im (.int .i64 0)])))
theorem ok_r4inv1 : TabOk Try.prog T_r4inv1 := (ok_r4neg1).add Try.func77 (by kernel_rfl) (by kernel_rfl) (g1v_ok rv1_ok fun x hp args w ha => funB_sound hmix (fun _ s => ok_r4neg1) (qG_ok Try.prog) Try.func77 (run_r4inv1 x) hp ha)
set_option maxRecDepth 100000 in
theorem run_wd1_t (x y : Nat) : funB Try.prog (qG Try.prog) (fun _ => ⟨fun s => T_r4inv1, fun s => true, fun _ => none⟩) Try.f42 60 [.v (.fl (gq1 (x, y, true)))] = some ([], .one (.fl (ej1 (F1.one, F1.one, F1.zero)))) := by kernel_rfl
set_option maxRecDepth 100000 in
theorem run_wd1_f (x y : Nat) : funB Try.prog (qG Try.prog) (fun _ => ⟨fun s => T_r4inv1, fun s => true, fun _ => none⟩) Try.f42 60 [.v (.fl (gq1 (x, y, false)))] = some ([], .one (.fl (q1 x ++ (q1 y ++ e1 F1.one)))) := by kernel_rfl
noncomputable def wd1 (p : G1N) : J1 := bif p.2.2 then (F1.one, F1.one, F1.zero) else (m1 p.1, m1 p.2.1, F1.one)
theorem wd1_ok (p : G1N) (hp : p.2.2 = false → bl1 p.1 ∧ bl1 p.2.1) (args : List Value) (w : World) (ha : CAs w [.v (.fl (gq1 p))] args) : Good Try.prog 42 (.one (.fl (ej1 (wd1 p)))) args w := by
  obtain ⟨x, y, b⟩ := p
  cases b with
  | true => exact funB_sound hmix (fun _ s => ok_r4inv1) (qG_ok Try.prog) Try.func42 (run_wd1_t x y) trivial ha
  | false =>
    obtain ⟨hx, hy⟩ := hp rfl
    refine Good.congr (r := .one (.fl (q1 x ++ (q1 y ++ e1 F1.one)))) (funB_sound hmix (fun _ s => ok_r4inv1) (qG_ok Try.prog) Try.func42 (run_wd1_f x y) trivial ha) ?_
    have e : flat (q1 x ++ (q1 y ++ e1 F1.one)) = flat (ej1 (m1 x, m1 y, F1.one)) := by
      rw [flat_append, flat_append, bl_f1 hx, bl_f1 hy]
      rfl
    show Value.agg (flat _).toArray = .agg (flat _).toArray
    rw [e]
    rfl
noncomputable def T_wd1 : Tab := (T_r4inv1).add 42 (g1 rg1 fun p => ([p.2.2 = false → bl1 p.1 ∧ bl1 p.2.1], .one (.fl (ej1 (wd1 p)))))
theorem ok_wd1 : TabOk Try.prog T_wd1 := (ok_r4inv1).add Try.func42 (by kernel_rfl) (by kernel_rfl) (g1_ok rg1_ok fun p hp args w ha => wd1_ok p hp.1 args w ha)
set_option maxRecDepth 100000 in
theorem run_rpt1_t (p : J1) : funB Try.prog (qG Try.prog) (fun _ => ⟨fun s => T_wd1, fun s => true, fun _ => none⟩) Try.f44 60 [.v (.fl (ej1 p))] = some ([flat (e1 p.2.2) = flat (e1 F1.zero)], .one (.fl (gf1 none))) := by kernel_rfl
set_option maxRecDepth 100000 in
theorem run_rpt1_f (p : J1) : funB Try.prog (qG Try.prog) (fun _ => ⟨fun s => T_wd1, fun s => false, fun _ => none⟩) Try.f44 60 [.v (.fl (ej1 p))] = some ([flat (e1 p.2.2) ≠ flat (e1 F1.zero), p.2.2 ≠ F1.zero], .one (.fl (gf1 (some (F1.mul p.1 (F1.mul (finv p.2.2) (finv p.2.2)), F1.mul p.2.1 (F1.mul (F1.mul (finv p.2.2) (finv p.2.2)) (finv p.2.2))))))) := by kernel_rfl
theorem rpt1_ok (p : J1) (args : List Value) (w : World) (ha : CAs w [.v (.fl (ej1 p))] args) : Good Try.prog 44 (.one (.fl (gf1 (jto F1 finv p)))) args w := by
  by_cases h : p.2.2 = F1.zero
  · rw [jto_zero h]
    exact funB_sound hmix (fun _ s => ok_wd1) (qG_ok Try.prog) Try.func44 (run_rpt1_t p) ⟨by rw [h], trivial⟩ ha
  · rw [jto_some h]
    exact funB_sound hmix (fun _ s => ok_wd1) (qG_ok Try.prog) Try.func44 (run_rpt1_f p) ⟨flat_ne h, h, trivial⟩ ha
noncomputable def T_rpt1 : Tab := (T_wd1).add 44 (g1 rj1 fun p => ([], .one (.fl (gf1 (jto F1 finv p)))))
theorem ok_rpt1 : TabOk Try.prog T_rpt1 := (ok_wd1).add Try.func44 (by kernel_rfl) (by kernel_rfl) (g1_ok rj1_ok fun p hp args w ha => rpt1_ok p args w ha)
section
variable {R : Type} (K : CR R)
def rdS (p : Jc R) : R := K.add (K.add (K.mul p.1 (K.mul p.2.1 p.2.1)) (K.mul p.1 (K.mul p.2.1 p.2.1))) (K.add (K.mul p.1 (K.mul p.2.1 p.2.1)) (K.mul p.1 (K.mul p.2.1 p.2.1)))
def rdM (p : Jc R) : R := K.add (K.mul p.1 p.1) (K.add (K.mul p.1 p.1) (K.mul p.1 p.1))
def rdX (p : Jc R) : R := K.sub (K.mul (rdM K p) (rdM K p)) (K.add (rdS K p) (rdS K p))
def rdF (p : Jc R) : R := K.mul (K.mul p.2.1 p.2.1) (K.mul p.2.1 p.2.1)
def rdF2 (p : Jc R) : R := K.add (rdF K p) (rdF K p)
def rdF4 (p : Jc R) : R := K.add (rdF2 K p) (rdF2 K p)
def rdF8 (p : Jc R) : R := K.add (rdF4 K p) (rdF4 K p)
def rdbl (p : Jc R) : Jc R := (rdX K p, K.sub (K.mul (rdM K p) (K.sub (rdS K p) (rdX K p))) (rdF8 K p), K.mul (K.add p.2.1 p.2.1) p.2.2)
theorem rdM_eq (p : Jc R) : rdM K p = dSl K p := (K.add_assoc _ _ _).symm
theorem rdS_eq (p : Jc R) : rdS K p = dBa K p :=
  ring_id K (envL K [p.1, p.2.1]) (.add (.add (.mul (.v 0) (.mul (.v 1) (.v 1))) (.mul (.v 0) (.mul (.v 1) (.v 1)))) (.add (.mul (.v 0) (.mul (.v 1) (.v 1))) (.mul (.v 0) (.mul (.v 1) (.v 1))))) (.mul (.v 0) (.add (.add (.mul (.v 1) (.v 1)) (.mul (.v 1) (.v 1))) (.add (.mul (.v 1) (.v 1)) (.mul (.v 1) (.v 1))))) (by decide)
theorem rdF_eq (p : Jc R) : rdF8 K p = K.mul (dFo K p) (dTw K p) :=
  ring_id K (envL K [p.2.1]) (.add (.add (.add (.mul (.mul (.v 0) (.v 0)) (.mul (.v 0) (.v 0))) (.mul (.mul (.v 0) (.v 0)) (.mul (.v 0) (.v 0)))) (.add (.mul (.mul (.v 0) (.v 0)) (.mul (.v 0) (.v 0))) (.mul (.mul (.v 0) (.v 0)) (.mul (.v 0) (.v 0))))) (.add (.add (.mul (.mul (.v 0) (.v 0)) (.mul (.v 0) (.v 0))) (.mul (.mul (.v 0) (.v 0)) (.mul (.v 0) (.v 0)))) (.add (.mul (.mul (.v 0) (.v 0)) (.mul (.v 0) (.v 0))) (.mul (.mul (.v 0) (.v 0)) (.mul (.v 0) (.v 0)))))) (.mul (.add (.add (.mul (.v 0) (.v 0)) (.mul (.v 0) (.v 0))) (.add (.mul (.v 0) (.v 0)) (.mul (.v 0) (.v 0)))) (.add (.mul (.v 0) (.v 0)) (.mul (.v 0) (.v 0)))) (by decide)
theorem rdbl_eq (p : Jc R) : rdbl K p = jdbl K p := by
  unfold rdbl jdbl dX dY rdX
  rw [rdM_eq, rdS_eq, rdF_eq]
  rfl
end
set_option maxRecDepth 100000 in
theorem run_rdb1 (p : J1) : funB Try.prog (qG Try.prog) (fun _ => ⟨fun s => T_rpt1, fun s => true, fun _ => none⟩) Try.f74 80 [.v (.fl (ej1 p))] = some ([], .one (.fl (ej1 (rdbl F1 p)))) := by kernel_rfl
noncomputable def T_rdb1 : Tab := (T_rpt1).add 74 (g1 rj1 fun p => ([], .one (.fl (ej1 (jdbl F1 p)))))
theorem ok_rdb1 : TabOk Try.prog T_rdb1 := (ok_rpt1).add Try.func74 (by kernel_rfl) (by kernel_rfl) (g1_ok rj1_ok fun p hp args w ha => by rw [← rdbl_eq]; exact funB_sound hmix (fun _ s => ok_rpt1) (qG_ok Try.prog) Try.func74 (run_rdb1 p) trivial ha)
set_option maxRecDepth 100000 in
theorem run_rpl1_a (p q : J1) : funB Try.prog (qG Try.prog) (fun _ => ⟨fun s => T_rdb1, fun s => true, fun _ => none⟩) Try.f76 100 [.v (.fl (ej1 p)), .v (.fl (ej1 q))] = some ([flat (e1 (p.2.2)) = flat (e1 F1.zero)], .one (.fl (ej1 q))) := by kernel_rfl
set_option maxRecDepth 100000 in
theorem run_rpl1_b (p q : J1) : funB Try.prog (qG Try.prog) (fun _ => ⟨fun s => T_rdb1, fun s => !(Nat.beq s 20), fun _ => none⟩) Try.f76 100 [.v (.fl (ej1 p)), .v (.fl (ej1 q))] = some ([flat (e1 (p.2.2)) ≠ flat (e1 F1.zero), flat (e1 (q.2.2)) = flat (e1 F1.zero)], .one (.fl (ej1 p))) := by kernel_rfl
set_option maxRecDepth 100000 in
theorem run_rpl1_c (p q : J1) : funB Try.prog (qG Try.prog) (fun _ => ⟨fun s => T_rdb1, fun s => !(Nat.beq s 20 || Nat.beq s 25), fun _ => none⟩) Try.f76 100 [.v (.fl (ej1 p)), .v (.fl (ej1 q))] = some ([flat (e1 (p.2.2)) ≠ flat (e1 F1.zero), flat (e1 (q.2.2)) ≠ flat (e1 F1.zero), flat (e1 (jac F1 p q)) = flat (e1 F1.zero), flat (e1 (jup F1 p q)) = flat (e1 F1.zero)], .one (.fl (ej1 (jdbl F1 p)))) := by kernel_rfl
set_option maxRecDepth 100000 in
theorem run_rpl1_d (p q : J1) : funB Try.prog (qG Try.prog) (fun _ => ⟨fun s => T_rdb1, fun s => !(Nat.beq s 20 || Nat.beq s 25 || Nat.beq s 71), fun _ => none⟩) Try.f76 100 [.v (.fl (ej1 p)), .v (.fl (ej1 q))] = some ([flat (e1 (p.2.2)) ≠ flat (e1 F1.zero), flat (e1 (q.2.2)) ≠ flat (e1 F1.zero), flat (e1 (jac F1 p q)) = flat (e1 F1.zero), flat (e1 (jup F1 p q)) ≠ flat (e1 F1.zero), flat (e1 (jac F1 p q)) = flat (e1 F1.zero)], .one (.fl (ej1 (F1.one, F1.one, F1.zero)))) := by kernel_rfl
set_option maxRecDepth 100000 in
theorem run_rpl1_e (p q : J1) : funB Try.prog (qG Try.prog) (fun _ => ⟨fun s => T_rdb1, fun s => false, fun _ => none⟩) Try.f76 100 [.v (.fl (ej1 p)), .v (.fl (ej1 q))] = some ([flat (e1 (p.2.2)) ≠ flat (e1 F1.zero), flat (e1 (q.2.2)) ≠ flat (e1 F1.zero), flat (e1 (jac F1 p q)) ≠ flat (e1 F1.zero), flat (e1 (jac F1 p q)) ≠ flat (e1 F1.zero)], .one (.fl (ej1 (jsum F1 p q)))) := by kernel_rfl
theorem rpl1_ok (p q : J1) (args : List Value) (w : World) (ha : CAs w [.v (.fl (ej1 p)), .v (.fl (ej1 q))] args) : Good Try.prog 76 (.one (.fl (ej1 (rplus F1 p q)))) args w := by
  unfold rplus
  by_cases h1 : p.2.2 = F1.zero
  · rw [if_pos h1]
    exact funB_sound hmix (fun _ s => ok_rdb1) (qG_ok Try.prog) Try.func76 (run_rpl1_a p q) ⟨by rw [h1], trivial⟩ ha
  · rw [if_neg h1]
    by_cases h2 : q.2.2 = F1.zero
    · rw [if_pos h2]
      exact funB_sound hmix (fun _ s => ok_rdb1) (qG_ok Try.prog) Try.func76 (run_rpl1_b p q) ⟨flat_ne h1, by rw [h2], trivial⟩ ha
    · rw [if_neg h2]
      by_cases h3 : jac F1 p q = F1.zero
      · by_cases h4 : jup F1 p q = F1.zero
        · rw [if_pos ⟨h3, h4⟩]
          exact funB_sound hmix (fun _ s => ok_rdb1) (qG_ok Try.prog) Try.func76 (run_rpl1_c p q) ⟨flat_ne h1, flat_ne h2, by rw [h3], by rw [h4], trivial⟩ ha
        · rw [if_neg (fun h => h4 h.2), if_pos h3]
          exact funB_sound hmix (fun _ s => ok_rdb1) (qG_ok Try.prog) Try.func76 (run_rpl1_d p q) ⟨flat_ne h1, flat_ne h2, by rw [h3], flat_ne h4, by rw [h3], trivial⟩ ha
      · rw [if_neg (fun h => h3 h.1), if_neg h3]
        exact funB_sound hmix (fun _ s => ok_rdb1) (qG_ok Try.prog) Try.func76 (run_rpl1_e p q) ⟨flat_ne h1, flat_ne h2, flat_ne h3, flat_ne h3, trivial⟩ ha
noncomputable def T_rpl1 : Tab := (T_rdb1).add 76 (g2 rj1 rj1 fun p q => ([], .one (.fl (ej1 (rplus F1 p q)))))
theorem ok_rpl1 : TabOk Try.prog T_rpl1 := (ok_rdb1).add Try.func76 (by kernel_rfl) (by kernel_rfl) (g2_ok rj1_ok rj1_ok fun p q hp args w ha => rpl1_ok p q args w ha)
noncomputable def wd2 (p : G2N) : J2 := bif p.2.2 then (F2.one, F2.one, F2.zero) else (m2 p.1, m2 p.2.1, F2.one)
end Go.Proofs.Ytebaoemoeckgaaa.Ex
namespace Go.Proofs.Ytebaoemoeckgaaa.R1
set_option linter.unusedVariables false
set_option linter.unusedSimpArgs false
open Go.RowKit

theorem len_down {A m : Nat} (h : A < 2 ^ (m + 1)) (hb : bitOf A m = 0) : A < 2 ^ m := by
  unfold bitOf at hb
  have h1 : A / 2 ^ m < 2 := by rw [Nat.div_lt_iff_lt_mul (Nat.pow_pos (by omega)), Nat.mul_comm, ← Nat.pow_succ]; exact h
  have h2 : A / 2 ^ m = 0 := by generalize A / 2 ^ m = q at h1 hb; omega
  have h3 := Nat.div_add_mod A (2 ^ m)
  have h4 := Nat.mod_lt A (show 0 < 2 ^ m from Nat.pow_pos (by omega))
  rw [h2] at h3; omega
theorem len_is {A m : Nat} (h : A < 2 ^ (m + 1)) (hb : bitOf A m = 1) : LenIs A (m + 1) := by
  refine ⟨h, fun _ => ?_⟩
  unfold bitOf at hb
  have h1 : 1 ≤ A / 2 ^ m := by
    rcases Nat.eq_zero_or_pos (A / 2 ^ m) with e | e
    · rw [e] at hb; omega
    · exact e
  exact (Nat.one_le_div_iff (Nat.pow_pos (by omega))).1 h1

def LenP (A : Nat) (w : World) (e : Ending) (w' : World) : Prop :=
  ∃ L : Nat, e = .returned (.int .i64 L) ∧ L ≤ 256 ∧ LenIs A L ∧ Below w.heap.size w w'

theorem refLen_calls (a0 a1 a2 a3 : Nat) (ha : ok4 a0 a1 a2 a3) (w : World) :
    Calls Try.prog 73 #[.agg #[.int .u64 a0, .int .u64 a1, .int .u64 a2, .int .u64 a3]] w (LenP (val4 a0 a1 a2 a3) w) := by
  have h256 : val4 a0 a1 a2 a3 < 2 ^ 256 := by have := val4_lt ha; simpa using this
  have HB := Lib.hid (fun i h (w : World) => refBit_in a0 a1 a2 a3 i ha h w)
  generalize hA : val4 a0 a1 a2 a3 = A at *
  have H256 := Lib.hid h256
  clear h256 hA
  go_enter Try.func73, Try.ntmps73
  go_wp2_with fail
  go_loopw [3] (fun i wr => ∃ n : Int, -1 ≤ n ∧ n ≤ 255 ∧ i = .int .i64 n ∧ Hid (A < 2 ^ (n + 1).toNat) ∧ Mem w wr [(w.heap.size, a0, a1, a2, a3)]) (fun i _ => (intOf i + 1).toNat)
  case atStart => exact ⟨255, by omega, by omega, rfl, H256, (Mem.nil w).new w.heap.size a0 a1 a2 a3 45 rfl⟩
  case round =>
    obtain ⟨n, h1, h2, rfl, hA, m⟩ := hrel
    have M := Lib.hid m
    obtain ⟨lt_a, c0, c1, c2, c3, cf⟩ := m.get (b := w.heap.size) (c0 := a0) (c1 := a1) (c2 := a2) (c3 := a3) (by simp)
    clear m
    by_cases h0 : 0 ≤ n
    · obtain ⟨i, rfl⟩ := Int.eq_ofNat_of_zero_le h0
      have hA' := Lib.hid (show A < 2 ^ (i + 1) from hA.out)
      clear hA
      rcases bitOf_01 A i with hb | hb
      · have hB := HB.out i (by omega)
        rw [hb] at hB
        have HN := Lib.hid (len_down hA'.out hb)
        clear hb hA'
        go_wp2_with fail
        refine (hB _).mono ?_
        rintro e w1 ⟨rfl, hbl⟩
        have M' := M.out.on hbl
        clear hbl
        go_wp2_with fail
        go_roundw
        case rel => exact ⟨(i : Int) - 1, by omega, by omega, by first | rfl | go_num, Lib.hid (by rw [show ((i : Int) - 1 + 1).toNat = i by omega]; exact HN.out), M'⟩
        case measure => first | (simp [intOf]; done) | (simp [intOf]; omega)
      · have hB := HB.out i (by omega)
        rw [hb] at hB
        have HN := Lib.hid (len_is hA'.out hb)
        clear hb hA'
        go_wp2_with fail
        refine (hB _).mono ?_
        rintro e w1 ⟨rfl, hbl⟩
        have M' := M.out.on hbl
        clear hbl
        go_wp2_with fail
        go_ret
        exact ⟨i + 1, rfl, by omega, HN.out, M'.1⟩
    · obtain rfl : n = -1 := by omega
      go_wp2_with fail
      go_ret
      exact ⟨0, rfl, by omega, ⟨hA.out, fun h => absurd h (by omega)⟩, M.out.1⟩

end Go.Proofs.Ytebaoemoeckgaaa.R1
namespace Go.Proofs.Ytebaoemoeckgaaa.Ex
set_option linter.unusedVariables false
set_option linter.unusedSimpArgs false
open Go.RowKit
theorem rlen_ok : ∀ cs pre r, gLen cs = some (pre, r) → allP pre → ∀ (args : List Value) (w : World), CAs w cs args → Good Try.prog 73 r args w := by
  intro cs pre r hg hp args w ha
  unfold gLen at hg
  split at hg
  · rename_i l
    split at hg
    · rename_i n hn
      cases hg
      rw [args1 ha, rq1_ok l _ hn]
      refine (R1.refLen_calls _ _ _ _ (fw_ok n) w).mono ?_
      rintro e w' ⟨L, rfl, _, h, hbl⟩
      cases h.uniq (lenF_is n)
      exact ⟨rfl, hbl⟩
    · cases hg
  · cases hg
theorem rbit_ok : ∀ cs pre r, gBit cs = some (pre, r) → allP pre → ∀ (args : List Value) (w : World), CAs w cs args → Good Try.prog 75 r args w := by
  intro cs pre r hg hp args w ha
  unfold gBit at hg
  split at hg
  · rename_i l i
    split at hg
    · rename_i n hn
      cases hg
      match args, ha with
      | [v, u], ha =>
        have h1 : v = .agg (flat l).toArray := ha.1
        have h2 : u = .int .i64 (Int.ofNat i) := ha.2.1
        rw [rq1_ok l _ hn] at h1
        subst h1; subst h2
        exact refBit_in _ _ _ _ i (fw_ok n) hp.1 w
      | [], ha => exact ha.elim
      | [_], ha => exact ha.2.elim
      | _ :: _ :: _ :: _, ha => exact ha.2.2.elim
    · cases hg
  · cases hg

end Go.Proofs.Ytebaoemoeckgaaa.Ex
