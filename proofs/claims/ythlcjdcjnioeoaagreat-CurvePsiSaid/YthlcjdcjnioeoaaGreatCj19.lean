/-
  The group's points come in again; sums of lists of them, of their multiples. Conditions: lists of less than 32 points for multiples.
  CurveGroup answers true. Conditions: none.
-/
import Derived.Test.YthlcjdcjnioeoaaGreatCj17
namespace Go.Proofs.YthlcjdcjnioeoaaGreat.Ex
set_option linter.unusedVariables false
set_option linter.unusedSimpArgs false
open Go.RowKit
def tn1 (P : Pt Fq) : G1N := ((ptX F1 P).1, (ptY F1 P).1, ptI P)
def tn2 (P : Pt Q2) : G2N := (((ptX F2 P).1.1, (ptX F2 P).2.1), ((ptY F2 P).1.1, (ptY F2 P).2.1), ptI P)
theorem tn1_ck : ∀ {P : Pt Fq}, On F1 (fm 3) P → (ckN1 (tn1 P)).1 = 0
  | none, _ => by
    have e := ck1_eq 0 0 true
    rw [if_pos rfl, if_pos ⟨by show wv 0 = 0; rfl, by show wv 0 = 0; rfl⟩] at e
    show (ck1 0 0 true).1 = 0
    rw [e]
  | some p, h => ck1_pt h
theorem tn2_ck : ∀ {P : Pt Q2}, On F2 b2E P → (ckN2 (tn2 P)).1 = 0
  | none, _ => by
    have e := ck2_eq (0, 0) (0, 0) true
    rw [if_pos rfl, if_pos ⟨⟨by show wv 0 = 0; rfl, by show wv 0 = 0; rfl⟩, by show wv 0 = 0; rfl, by show wv 0 = 0; rfl⟩] at e
    show (ck2 (0, 0) (0, 0) true).1 = 0
    rw [e]
  | some p, h => ck2_pt h
theorem af1_tn : ∀ P : Pt Fq, af1 (tn1 P) = P
  | none => rfl
  | some p => af1_pt p.1 p.2
theorem af2_tn : ∀ P : Pt Q2, af2 (tn2 P) = P
  | none => rfl
  | some p => af2_pt p.1 p.2
theorem g1_tn : tn1 (cp1 g1n).1 = g1n := by
  rw [cp1_eq g1_ck, show af1 g1n = some (fm 1, fm 2) from af1_pt (fm 1) (fm 2)]
  rfl
theorem g2_tn : tn2 (cp2 g2n).1 = g2n := by
  rw [cp2_eq g2_ck, show af2 g2n = some (g2X, g2Y) from af2_pt g2X g2Y]
  rfl

theorem cp1_tn (P : C1) : cp1 (tn1 P.1) = P := Subtype.ext ((cp1_eq (tn1_ck P.2)).trans (af1_tn P.1))
theorem err1_zero {ps : Nat → G1N} : ∀ {N : Nat}, (∀ j, j < N → (ckN1 (ps j)).1 = 0) → err1 ps N = 0
  | 0, _ => rfl
  | N + 1, h => by
    unfold err1
    rw [if_neg (fun q => q (err1_zero fun j hj => h j (by omega)))]
    exact h N (by omega)
theorem resS1_all {ps : Nat → G1N} {g : Nat → C1} {N : Nat} (h : ∀ j, j < N → ps j = tn1 (g j).1) : resS1 ps N = ((ec1.grp.tt g N).1, 0) := by
  have hc : ∀ j, j < N → (ckN1 (ps j)).1 = 0 := fun j hj => by rw [h j hj]; exact tn1_ck (g j).2
  unfold resS1
  rw [if_neg (fun q => q (err1_zero hc))]
  rw [show jto F1 finv (tot1 (pj1 ps) N) = _ from tot1_rep (g := g) fun j hj => by
    have := cp1_rep (hc j hj)
    rw [show cp1 (ps j) = g j by rw [h j hj, cp1_tn]] at this
    exact this]
theorem resM1_all {ps : Nat → G1N} {g : Nat → C1} {N : Nat} (x : Nat → Nat) (h : ∀ j, j < N → ps j = tn1 (g j).1) : resM1 ps x N = ((ec1.grp.sm g (fun j => (wv (x j) : Int)) N).1, 0) := by
  have hc : ∀ j, j < N → (ckN1 (ps j)).1 = 0 := fun j hj => by rw [h j hj]; exact tn1_ck (g j).2
  unfold resM1
  rw [if_neg (fun q => q (err1_zero hc))]
  rw [show jto F1 finv (sumM1 (pj1 ps) x N) = _ from sumM1_rep (g := g) (fun j hj => by
    have := cp1_rep (hc j hj)
    rw [show cp1 (ps j) = g j by rw [h j hj, cp1_tn]] at this
    exact this) x]
theorem tS1 (P Q : C1) : resS1 (p2 (tn1 P.1) (tn1 Q.1)) 2 = ((ec1.grp.add P Q).1, 0) := by
  rw [resS1_all (g := p2 P Q) (fun j hj => by
    match j, hj with
    | 0, _ => rfl
    | 1, _ => rfl)]
  show ((ec1.grp.add (ec1.grp.add ec1.grp.zero P) Q).1, (0 : Int)) = _
  rw [ec1.grp.zadd]
theorem tM1 (P : C1) (n : Nat) : resM1 (fun _ => tn1 P.1) (fun _ => n) 1 = ((ec1.grp.ns (wv n) P).1, 0) := by
  rw [resM1_1, if_neg (fun q => q (tn1_ck P.2)), cp1_tn]
theorem tN1 (P : C1) : resN1 (tn1 P.1) = ((ec1.grp.neg P).1, 0) := by
  rw [resN1_1, if_neg (fun q => q (tn1_ck P.2)), cp1_tn]
theorem cp2_tn (P : C2) : cp2 (tn2 P.1) = P := Subtype.ext ((cp2_eq (tn2_ck P.2)).trans (af2_tn P.1))
theorem err2_zero {ps : Nat → G2N} : ∀ {N : Nat}, (∀ j, j < N → (ckN2 (ps j)).1 = 0) → err2 ps N = 0
  | 0, _ => rfl
  | N + 1, h => by
    unfold err2
    rw [if_neg (fun q => q (err2_zero fun j hj => h j (by omega)))]
    exact h N (by omega)
theorem resS2_all {ps : Nat → G2N} {g : Nat → C2} {N : Nat} (h : ∀ j, j < N → ps j = tn2 (g j).1) : resS2 ps N = ((ec2.grp.tt g N).1, 0) := by
  have hc : ∀ j, j < N → (ckN2 (ps j)).1 = 0 := fun j hj => by rw [h j hj]; exact tn2_ck (g j).2
  unfold resS2
  rw [if_neg (fun q => q (err2_zero hc))]
  rw [show jto F2 iv2 (tot2 (pj2 ps) N) = _ from tot2_rep (g := g) fun j hj => by
    have := cp2_rep (hc j hj)
    rw [show cp2 (ps j) = g j by rw [h j hj, cp2_tn]] at this
    exact this]
theorem tS2 (P Q : C2) : resS2 (p2 (tn2 P.1) (tn2 Q.1)) 2 = ((ec2.grp.add P Q).1, 0) := by
  rw [resS2_all (g := p2 P Q) (fun j hj => by
    match j, hj with
    | 0, _ => rfl
    | 1, _ => rfl)]
  show ((ec2.grp.add (ec2.grp.add ec2.grp.zero P) Q).1, (0 : Int)) = _
  rw [ec2.grp.zadd]
theorem tM2 (P : C2) (n : Nat) : resM2 (fun _ => tn2 P.1) (fun _ => n) 1 = ((ec2.grp.ns (wv n) P).1, 0) := by
  rw [resM2_1, if_neg (fun q => q (tn2_ck P.2)), cp2_tn]
theorem tN2 (P : C2) : resN2 (tn2 P.1) = ((ec2.grp.neg P).1, 0) := by
  rw [resN2_1, if_neg (fun q => q (tn2_ck P.2)), cp2_tn]
theorem tS3 (P Q R : C1) : resS1 (p3 (tn1 P.1) (tn1 Q.1) (tn1 R.1)) 3 = ((ec1.grp.add (ec1.grp.add P Q) R).1, 0) := by
  rw [resS1_all (g := p3 P Q R) (fun j hj => by
    match j, hj with
    | 0, _ => rfl
    | 1, _ => rfl
    | 2, _ => rfl)]
  show ((ec1.grp.add (ec1.grp.add (ec1.grp.add ec1.grp.zero P) Q) R).1, (0 : Int)) = _
  rw [ec1.grp.zadd]
theorem tC1 (P : C1) : (ckN1 (tn1 P.1)).1 = 0 := tn1_ck P.2
theorem tC2 (P : C2) : (ckN2 (tn2 P.1)).1 = 0 := tn2_ck P.2
set_option maxRecDepth 100000 in
theorem run_cSum1 (ps : Nat → G1N) (N n1 n2 : Nat) (L : List At) : funB Tryz.prog (qG Tryz.prog) (fun _ => ⟨fun s => (T_grp2 true).add 53 (gSu1 ps N), fun s => true, fun _ => none⟩) Tryz.f32 60 [.s L n1 n2] = some ([flat grp1 = flat grp1, flat L = flat (cat (fun j => gq1 (ps j)) 0 N), n1 = N, N ≤ 65536], .many [.fl (gf1 (resS1 ps N).1), .im (.int .i64 (resS1 ps N).2)]) := by kernel_rfl
noncomputable def gSum1 (ps : Nat → G1N) (N : Nat) : Ent
  | [.s L n1 n2] => some ([flat L = flat (cat (fun j => gq1 (ps j)) 0 N), n1 = N, N ≤ 65536], .many [.fl (gf1 (resS1 ps N).1), .im (.int .i64 (resS1 ps N).2)])
  | _ => none
theorem gSum1_ok {ps : Nat → G1N} {N : Nat} : ∀ cs pre r, gSum1 ps N cs = some (pre, r) → allP pre → ∀ (args : List Value) (w : World), CAs w cs args → Good Tryz.prog 32 r args w := by
  intro cs pre r hg hp args w ha
  unfold gSum1 at hg
  split at hg
  · rename_i L n1 n2
    cases hg
    exact funB_sound hmix (fun _ s => (ok_grp2 true).add Tryz.func53 (by kernel_rfl) (by kernel_rfl) gSu1_ok) (qG_ok Tryz.prog) Tryz.func32 (run_cSum1 ps N n1 n2 L) ⟨rfl, hp⟩ ha
  · cases hg
set_option maxRecDepth 100000 in
theorem run_cMulti1 (ps : Nat → G1N) (x : Nat → Nat) (N n1 n2 n3 n4 : Nat) (L X : List At) : funB Tryz.prog (qG Tryz.prog) (fun _ => ⟨fun s => (T_grp2 true).add 57 (gMm1 ps x N), fun s => true, fun _ => none⟩) Tryz.f34 60 [.s L n1 n2, .s X n3 n4] = some ([flat grp1 = flat grp1, flat L = flat (cat (fun j => gq1 (ps j)) 0 N), flat X = flat (cat (fun j => [.q (x j)]) 0 N), n1 = N, n3 = N, N < 32], .many [.fl (gf1 (resM1 ps x N).1), .im (.int .i64 (resM1 ps x N).2)]) := by kernel_rfl
noncomputable def gMulti1 (ps : Nat → G1N) (x : Nat → Nat) (N : Nat) : Ent
  | [.s L n1 n2, .s X n3 n4] => some ([flat L = flat (cat (fun j => gq1 (ps j)) 0 N), flat X = flat (cat (fun j => [.q (x j)]) 0 N), n1 = N, n3 = N, N < 32], .many [.fl (gf1 (resM1 ps x N).1), .im (.int .i64 (resM1 ps x N).2)])
  | _ => none
theorem gMulti1_ok {ps : Nat → G1N} {x : Nat → Nat} {N : Nat} : ∀ cs pre r, gMulti1 ps x N cs = some (pre, r) → allP pre → ∀ (args : List Value) (w : World), CAs w cs args → Good Tryz.prog 34 r args w := by
  intro cs pre r hg hp args w ha
  unfold gMulti1 at hg
  split at hg
  · rename_i L n1 n2 X n3 n4
    cases hg
    exact funB_sound hmix (fun _ s => (ok_grp2 true).add Tryz.func57 (by kernel_rfl) (by kernel_rfl) gMm1_ok) (qG_ok Tryz.prog) Tryz.func34 (run_cMulti1 ps x N n1 n2 n3 n4 L X) ⟨rfl, hp⟩ ha
  · cases hg
end Go.Proofs.YthlcjdcjnioeoaaGreat.Ex
namespace Go.Proofs.YthlcjdcjnioeoaaGreat.Ex
set_option linter.unusedVariables false
set_option linter.unusedSimpArgs false
open Go.RowKit
set_option maxRecDepth 100000 in
theorem run_group (a b c : Nat) : funB Tryz.prog (qG Tryz.prog) (fun _ => ⟨fun s => (T_works.add 32 (gSum1 (p3 (tn1 (resM1 (fun _ => g1n) (fun _ => c) 1).1) (tn1 (resM1 (fun _ => g1n) (fun _ => a) 1).1) (tn1 (resM1 (fun _ => g1n) (fun _ => b) 1).1)) 3)).add 34 (gMulti1 (fun _ => g1n) (p3 a b c) 3), fun s => true, assoc [(58, .bool false), (61, .bool false), (65, .bool false), (70, .bool false), (187, .bool true)]⟩) Tryz.f6 100 [.v (.fl [.q a]), .v (.fl [.q b]), .v (.fl [.q c])] = some ([intOp .neq .i64 (resM1 (fun _ => g1n) (fun _ => a) 1).2 0 = some (.bool false), intOp .neq .i64 (resM1 (fun _ => g1n) (fun _ => b) 1).2 0 = some (.bool false), intOp .neq .i64 (resM1 (fun _ => g1n) (fun _ => c) 1).2 0 = some (.bool false), intOp .neq .i64 (ckN1 (tn1 (resM1 (fun _ => g1n) (fun _ => a) 1).1)).1 0 = some (.bool false), flat (gf1 (resM1 (fun _ => g1n) (fun _ => c) 1).1 ++ (gf1 (resM1 (fun _ => g1n) (fun _ => a) 1).1 ++ gf1 (resM1 (fun _ => g1n) (fun _ => b) 1).1)) = flat (cat (fun j => gq1 (p3 (tn1 (resM1 (fun _ => g1n) (fun _ => c) 1).1) (tn1 (resM1 (fun _ => g1n) (fun _ => a) 1).1) (tn1 (resM1 (fun _ => g1n) (fun _ => b) 1).1) j)) 0 3), 3 = 3, 3 ≤ 65536, flat (gf1 (some (fm 1, fm 2)) ++ (gf1 (some (fm 1, fm 2)) ++ gf1 (some (fm 1, fm 2)))) = flat (cat (fun j => gq1 g1n) 0 3), flat [.q a, .q b, .q c] = flat (cat (fun j => [At.q (p3 a b c j)]) 0 3), 3 = 3, 3 = 3, 3 < 32, flat (gf1 (resS1 (p2 (tn1 (resM1 (fun _ => g1n) (fun _ => a) 1).1) (tn1 (resM1 (fun _ => g1n) (fun _ => b) 1).1)) 2).1) = flat (gf1 (resS1 (p2 (tn1 (resM1 (fun _ => g1n) (fun _ => b) 1).1) (tn1 (resM1 (fun _ => g1n) (fun _ => a) 1).1)) 2).1), flat (gf1 (resS1 (p2 (tn1 (resS1 (p2 (tn1 (resM1 (fun _ => g1n) (fun _ => a) 1).1) (tn1 (resM1 (fun _ => g1n) (fun _ => b) 1).1)) 2).1) (tn1 (resM1 (fun _ => g1n) (fun _ => c) 1).1)) 2).1) = flat (gf1 (resS1 (p2 (tn1 (resM1 (fun _ => g1n) (fun _ => a) 1).1) (tn1 (resS1 (p2 (tn1 (resM1 (fun _ => g1n) (fun _ => b) 1).1) (tn1 (resM1 (fun _ => g1n) (fun _ => c) 1).1)) 2).1)) 2).1), flat (gf1 (resS1 (p2 (tn1 (resM1 (fun _ => g1n) (fun _ => a) 1).1) (tn1 (resN1 (tn1 (resM1 (fun _ => g1n) (fun _ => a) 1).1)).1)) 2).1) = flat (gf1 none), flat (gf1 (resS1 (p2 (tn1 (resM1 (fun _ => g1n) (fun _ => a) 1).1) (tn1 (resM1 (fun _ => g1n) (fun _ => a) 1).1)) 2).1) = flat (gf1 (resM1 (fun _ => (tn1 (resM1 (fun _ => g1n) (fun _ => a) 1).1)) (fun _ => 2) 1).1), flat (gf1 (resS1 (p3 (tn1 (resM1 (fun _ => g1n) (fun _ => c) 1).1) (tn1 (resM1 (fun _ => g1n) (fun _ => a) 1).1) (tn1 (resM1 (fun _ => g1n) (fun _ => b) 1).1)) 3).1) = flat (gf1 (resS1 (p2 (tn1 (resS1 (p2 (tn1 (resM1 (fun _ => g1n) (fun _ => a) 1).1) (tn1 (resM1 (fun _ => g1n) (fun _ => b) 1).1)) 2).1) (tn1 (resM1 (fun _ => g1n) (fun _ => c) 1).1)) 2).1), flat (gf1 (resM1 (fun _ => g1n) (p3 a b c) 3).1) = flat (gf1 (resS1 (p2 (tn1 (resS1 (p2 (tn1 (resM1 (fun _ => g1n) (fun _ => a) 1).1) (tn1 (resM1 (fun _ => g1n) (fun _ => b) 1).1)) 2).1) (tn1 (resM1 (fun _ => g1n) (fun _ => c) 1).1)) 2).1), flat (gf1 (resM1 (fun _ => (tn1 (resM1 (fun _ => g1n) (fun _ => a) 1).1)) (fun _ => Go.Proofs.YthlcjdcjnioeoaaGreat.FR.M) 1).1) = flat (gf1 none), intOp .eql .i64 (ckN1 (tn1 (resS1 (p2 (tn1 (resS1 (p2 (tn1 (resM1 (fun _ => g1n) (fun _ => a) 1).1) (tn1 (resM1 (fun _ => g1n) (fun _ => b) 1).1)) 2).1) (tn1 (resM1 (fun _ => g1n) (fun _ => c) 1).1)) 2).1)).1 0 = some (.bool true)], .one (.im (.bool true))) := by kernel_rfl
theorem group_calls (a b c : Nat) (w : World) : Calls Tryz.prog 6 #[.agg (flat (q1 a)).toArray, .agg (flat (q1 b)).toArray, .agg (flat (q1 c)).toArray] w (fun e w' => e = .returned (.bool true) ∧ Below w.heap.size w w') := by
  have hM : ∀ n, resM1 (fun _ => g1n) (fun _ => n) 1 = ((ec1.grp.ns (wv n) (cp1 g1n)).1, 0) := fun n => by
    have := tM1 (cp1 g1n) n
    rwa [g1_tn] at this
  have e2 : wv 2 = 2 := by kernel_rfl
  have hL : resM1 (fun _ => g1n) (p3 a b c) 3 = ((ec1.grp.add (ec1.grp.add (ec1.grp.ns (wv a) (cp1 g1n)) (ec1.grp.ns (wv b) (cp1 g1n))) (ec1.grp.ns (wv c) (cp1 g1n))).1, 0) := by
    rw [resM1_all (g := fun _ => cp1 g1n) (p3 a b c) (fun j hj => g1_tn.symm)]
    show ((ec1.grp.add (ec1.grp.add (ec1.grp.add ec1.grp.zero (ec1.grp.ns (wv a) (cp1 g1n))) (ec1.grp.ns (wv b) (cp1 g1n))) (ec1.grp.ns (wv c) (cp1 g1n))).1, (0 : Int)) = _
    rw [ec1.grp.zadd]
  have hO1 : ec1.grp.ns ord (ec1.grp.ns (wv a) (cp1 g1n)) = ec1.grp.zero := by
    rw [← ec1.grp.ns_mul, Nat.mul_comm, ec1.grp.ns_mul, g1_ord, ec1.grp.ns_zero]
  refine funB_sound (r := .one (.im (.bool true))) hmix (fun _ s => (ok_works.add Tryz.func32 (by kernel_rfl) (by kernel_rfl) gSum1_ok).add Tryz.func34 (by kernel_rfl) (by kernel_rfl) gMulti1_ok) (qG_ok Tryz.prog) Tryz.func6 (run_group a b c) ?_ (args := [.agg (flat (q1 a)).toArray, .agg (flat (q1 b)).toArray, .agg (flat (q1 c)).toArray]) ⟨rfl, rfl, rfl, trivial⟩
  rw [hL]
  simp only [hM]
  generalize ec1.grp.ns (wv a) (cp1 g1n) = P at hO1
  generalize ec1.grp.ns (wv b) (cp1 g1n) = Q
  generalize ec1.grp.ns (wv c) (cp1 g1n) = R
  simp only [tS1, tM1, tN1, tS3, tC1, wv_ord, hO1, e2]
  refine ⟨(by first | exact True.intro | rfl | omega), (by first | exact True.intro | rfl | omega), (by first | exact True.intro | rfl | omega), (by first | exact True.intro | rfl | omega), (by first | exact True.intro | rfl | omega), (by first | exact True.intro | rfl | omega), (by first | exact True.intro | rfl | omega), (by first | exact True.intro | rfl | omega), (by first | exact True.intro | rfl | omega), (by first | exact True.intro | rfl | omega), (by first | exact True.intro | rfl | omega), (by first | exact True.intro | rfl | omega), ?_, ?_, ?_, ?_, ?_, (by first | exact True.intro | rfl | omega), (by first | exact True.intro | rfl | omega), (by first | exact True.intro | rfl | omega), trivial⟩
  · rw [ec1.grp.comm P Q]
  · rw [ec1.grp.assoc]
  · rw [ec1.grp.addn]; rfl
  · rw [show (2 : Nat) = 1 + 1 from rfl, ec1.grp.ns_add, ec1.grp.ns_one]
  · rw [ec1.grp.assoc R, ec1.grp.comm R]
end Go.Proofs.YthlcjdcjnioeoaaGreat.Ex
