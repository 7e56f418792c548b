/-
  The curves' generators and order, the p-power map, which points of the twist are in the group. Conditions: none.
  Multiples of the generators, reckoned. Conditions: none.
  works answers true. Conditions: none.
  An automorphism of the field, scaled, goes over the curve's sums. Conditions: none.
  CurvePsi answers true. Conditions: none.
-/
import Derived.Test.YthlcjdcjnioeoaaGreatCk30
namespace Go.Proofs.YthlcjdcjnioeoaaGreat.Ex
set_option linter.unusedVariables false
set_option linter.unusedSimpArgs false
open Go.RowKit
def thirdE : Q2 := (⟨21575463638280843010398324269430826099269044274347216827212613867836435027261, by decide⟩, ⟨10307601595873709700152284273816112264069230130616436755625194854815875713954, by decide⟩)
def halfE : Q2 := (⟨2821565182194536844548159561693502659359617185244120367078079554186484126554, by decide⟩, ⟨3505843767911556378687030309984248845540243509899259641013678093033130930403, by decide⟩)
def g2X : Q2 := (⟨10857046999023057135944570762232829481370756359578518086990519993285655852781, by decide⟩, ⟨11559732032986387107991004021392285783925812861821192530917403151452391805634, by decide⟩)
def g2Y : Q2 := (⟨8495653923123431417604973247489272438418190587263600148770280649306958101930, by decide⟩, ⟨4082367875863433681332203403145435568316851327593401208105741076214120093531, by decide⟩)
def lessN : Nat := 147946756881789318990833708069417712966
def gFMod : Ent
  | [.v (.im (.int .i64 (.ofNat 1)))] => some ([], .one (.fl (q1 FP.M)))
  | [.v (.im (.int .i64 (.ofNat 2)))] => some ([], .one (.fl (q1 Go.Proofs.YthlcjdcjnioeoaaGreat.FR.M)))
  | _ => none
theorem fmod_ok : ∀ cs pre r, gFMod cs = some (pre, r) → allP pre → ∀ (args : List Value) (w : World), CAs w cs args → Good Tryz.prog 41 r args w := by
  intro cs pre r hg hp args w ha
  unfold gFMod at hg
  split at hg
  · cases hg
    match args, ha with
    | [v], ha =>
      have h1 : v = .int .i64 1 := ha.1
      subst h1
      exact (fmodulus_some 1 FP (Or.inl ⟨rfl, rfl⟩) w).mono fun e w' h => h
    | [], ha => exact ha.elim
    | _ :: _ :: _, ha => exact ha.2.elim
  · cases hg
    match args, ha with
    | [v], ha =>
      have h1 : v = .int .i64 2 := ha.1
      subst h1
      exact (fmodulus_some 2 Go.Proofs.YthlcjdcjnioeoaaGreat.FR (Or.inr ⟨rfl, rfl⟩) w).mono fun e w' h => h
    | [], ha => exact ha.elim
    | _ :: _ :: _, ha => exact ha.2.elim
  · cases hg
/-- p less r -/
def gLess : Ent
  | [.v (.fl l), .v (.fl m)] => some ([flat l = flat (q1 FP.M), flat m = flat (q1 Go.Proofs.YthlcjdcjnioeoaaGreat.FR.M)], .many [.fl (q1 lessN), .im (.int .u64 0)])
  | _ => none
theorem less_ok : ∀ cs pre r, gLess cs = some (pre, r) → allP pre → ∀ (args : List Value) (w : World), CAs w cs args → Good Tryz.prog 86 r args w := by
  intro cs pre r hg hp args w ha
  unfold gLess at hg
  split at hg
  · rename_i l m
    cases hg
    obtain ⟨e1, e2, _⟩ := hp
    match args, ha with
    | [v, u], ha =>
      have h1 : v = .agg (flat l).toArray := ha.1
      have h2 : u = .agg (flat m).toArray := ha.2.1
      rw [e1] at h1
      rw [e2] at h2
      subst h1; subst h2
      refine (sub_calls _ _ _ _ _ _ _ _ (fw_ok FP.M) (fw_ok Go.Proofs.YthlcjdcjnioeoaaGreat.FR.M) w).mono ?_
      rintro e w' ⟨s0, s1, s2, s3, c, rfl, hs, hc, hv, hb⟩
      have v1 : val4 (fw FP.M 0) (fw FP.M 1) (fw FP.M 2) (fw FP.M 3) = 21888242871839275222246405745257275088696311157297823662689037894645226208583 := by kernel_rfl
      have v2 : val4 (fw Go.Proofs.YthlcjdcjnioeoaaGreat.FR.M 0) (fw Go.Proofs.YthlcjdcjnioeoaaGreat.FR.M 1) (fw Go.Proofs.YthlcjdcjnioeoaaGreat.FR.M 2) (fw Go.Proofs.YthlcjdcjnioeoaaGreat.FR.M 3) = 21888242871839275222246405745257275088548364400416034343698204186575808495617 := by kernel_rfl
      rw [v1, v2] at hv
      obtain ⟨h0, h1, h2, h3⟩ := hs
      have hlt : val4 s0 s1 s2 s3 < 115792089237316195423570985008687907853269984665640564039457584007913129639936 := by unfold val4; omega
      have hc0 : c = 0 := by omega
      subst hc0
      have hv2 : val4 s0 s1 s2 s3 = lessN := by unfold lessN; omega
      obtain ⟨rfl, rfl, rfl, rfl⟩ := fw_of ⟨h0, h1, h2, h3⟩ (by unfold lessN; omega) hv2
      exact ⟨rfl, hb⟩
    | [], ha => exact ha.elim
    | [_], ha => exact ha.2.elim
    | _ :: _ :: _ :: _, ha => exact ha.2.2.elim
  · cases hg

noncomputable def T_fMod : Tab := (T_rrNeg2).add 41 gFMod
theorem ok_fMod : TabOk Tryz.prog T_fMod := (ok_rrNeg2).add Tryz.func41 (by kernel_rfl) (by kernel_rfl) fmod_ok
noncomputable def T_less : Tab := (T_fMod).add 86 gLess
theorem ok_less : TabOk Tryz.prog T_less := (ok_fMod).add Tryz.func86 (by kernel_rfl) (by kernel_rfl) less_ok
set_option maxRecDepth 100000 in
theorem run_Gen1  : funB Tryz.prog (qG Tryz.prog) (fun _ => ⟨fun s => T_less, fun s => true, fun _ => none⟩) Tryz.f38 60 [] = some ([], .one (.fl (gf1 (some (fm 1, fm 2))))) := by kernel_rfl
noncomputable def T_Gen1 : Tab := (T_less).add 38 (g0 (.one (.fl (gf1 (some (fm 1, fm 2))))))
theorem ok_Gen1 : TabOk Tryz.prog T_Gen1 := (ok_less).add Tryz.func38 (by kernel_rfl) (by kernel_rfl) (g0_ok fun w => funB_sound hmix (fun _ s => ok_less) (qG_ok Tryz.prog) Tryz.func38 run_Gen1 trivial (args := []) trivial)
set_option maxRecDepth 100000 in
theorem run_rGen1  : funB Tryz.prog (qG Tryz.prog) (fun _ => ⟨fun s => T_Gen1, fun s => true, fun _ => none⟩) Tryz.f65 60 [] = some ([], .one (.fl (gf1 (some (fm 1, fm 2))))) := by kernel_rfl
noncomputable def T_rGen1 : Tab := (T_Gen1).add 65 (g0 (.one (.fl (gf1 (some (fm 1, fm 2))))))
theorem ok_rGen1 : TabOk Tryz.prog T_rGen1 := (ok_Gen1).add Tryz.func65 (by kernel_rfl) (by kernel_rfl) (g0_ok fun w => funB_sound hmix (fun _ s => ok_Gen1) (qG_ok Tryz.prog) Tryz.func65 run_rGen1 trivial (args := []) trivial)
set_option maxRecDepth 100000 in
theorem run_Gen2  : funB Tryz.prog (qG Tryz.prog) (fun _ => ⟨fun s => T_rGen1, fun s => true, fun _ => none⟩) Tryz.f40 60 [] = some ([], .one (.fl (gf2 (some (g2X, g2Y))))) := by kernel_rfl
noncomputable def T_Gen2 : Tab := (T_rGen1).add 40 (g0 (.one (.fl (gf2 (some (g2X, g2Y))))))
theorem ok_Gen2 : TabOk Tryz.prog T_Gen2 := (ok_rGen1).add Tryz.func40 (by kernel_rfl) (by kernel_rfl) (g0_ok fun w => funB_sound hmix (fun _ s => ok_rGen1) (qG_ok Tryz.prog) Tryz.func40 run_Gen2 trivial (args := []) trivial)
set_option maxRecDepth 100000 in
theorem run_rGen2  : funB Tryz.prog (qG Tryz.prog) (fun _ => ⟨fun s => T_Gen2, fun s => true, fun _ => none⟩) Tryz.f66 60 [] = some ([], .one (.fl (gf2 (some (g2X, g2Y))))) := by kernel_rfl
noncomputable def T_rGen2 : Tab := (T_Gen2).add 66 (g0 (.one (.fl (gf2 (some (g2X, g2Y))))))
theorem ok_rGen2 : TabOk Tryz.prog T_rGen2 := (ok_Gen2).add Tryz.func66 (by kernel_rfl) (by kernel_rfl) (g0_ok fun w => funB_sound hmix (fun _ s => ok_Gen2) (qG_ok Tryz.prog) Tryz.func66 run_rGen2 trivial (args := []) trivial)
set_option maxRecDepth 100000 in
theorem run_Order  : funB Tryz.prog (qG Tryz.prog) (fun _ => ⟨fun s => T_rGen2, fun s => true, fun _ => none⟩) Tryz.f39 60 [] = some ([], .one (.fl (q1 Go.Proofs.YthlcjdcjnioeoaaGreat.FR.M))) := by kernel_rfl
noncomputable def T_Order : Tab := (T_rGen2).add 39 (g0 (.one (.fl (q1 Go.Proofs.YthlcjdcjnioeoaaGreat.FR.M))))
theorem ok_Order : TabOk Tryz.prog T_Order := (ok_rGen2).add Tryz.func39 (by kernel_rfl) (by kernel_rfl) (g0_ok fun w => funB_sound hmix (fun _ s => ok_rGen2) (qG_ok Tryz.prog) Tryz.func39 run_Order trivial (args := []) trivial)
set_option maxRecDepth 100000 in
theorem run_rOrder  : funB Tryz.prog (qG Tryz.prog) (fun _ => ⟨fun s => T_Order, fun s => true, fun _ => none⟩) Tryz.f67 60 [] = some ([], .one (.fl (q1 Go.Proofs.YthlcjdcjnioeoaaGreat.FR.M))) := by kernel_rfl
noncomputable def T_rOrder : Tab := (T_Order).add 67 (g0 (.one (.fl (q1 Go.Proofs.YthlcjdcjnioeoaaGreat.FR.M))))
theorem ok_rOrder : TabOk Tryz.prog T_rOrder := (ok_Order).add Tryz.func67 (by kernel_rfl) (by kernel_rfl) (g0_ok fun w => funB_sound hmix (fun _ s => ok_Order) (qG_ok Tryz.prog) Tryz.func67 run_rOrder trivial (args := []) trivial)
set_option maxRecDepth 100000 in
theorem run_turns  : funB Tryz.prog (qG Tryz.prog) (fun _ => ⟨fun s => T_rOrder, fun s => true, fun _ => none⟩) Tryz.f77 60 [] = some ([], .many [.fl (e2 thirdE), .fl (e2 halfE)]) := by kernel_rfl
noncomputable def T_turns : Tab := (T_rOrder).add 77 (g0 (.many [.fl (e2 thirdE), .fl (e2 halfE)]))
theorem ok_turns : TabOk Tryz.prog T_turns := (ok_rOrder).add Tryz.func77 (by kernel_rfl) (by kernel_rfl) (g0_ok fun w => funB_sound hmix (fun _ s => ok_rOrder) (qG_ok Tryz.prog) Tryz.func77 run_turns trivial (args := []) trivial)
set_option maxRecDepth 100000 in
theorem mul2v (x y : N2) : T_turns 78 [.v (.fl (q2 x)), .v (.fl (q2 y))] = some ([], .one (.fl (e2 (F2.mul (m2 x) (m2 y))))) := by kernel_rfl
noncomputable def T_Mul2v : Tab := (T_turns).add 78 (g2 rv2 rv2 (fun x y => ([], .one (.fl (e2 (F2.mul x y))))))
theorem ok_Mul2v : TabOk Tryz.prog T_Mul2v := (ok_turns).add Tryz.func78 (by kernel_rfl) (by kernel_rfl) (g2v_ok rv2_ok rv2_ok fun x y hp args w ha => (ok_turns _ _ _ _ (mul2v x y) trivial).2 args w ha)
set_option maxRecDepth 100000 in
theorem run_psi_atrue (x y : N2) : funB Tryz.prog (qG Tryz.prog) (fun _ => ⟨fun s => T_Mul2v, fun s => true, fun s => bif Nat.beq s 10 then some (.bool true) else none⟩) Tryz.f26 60 [.v (.fl (gq2 (x, y, true)))] = some ([intOp .neq .i64 (ck2 x y true).1 0 = some (.bool true)], .many [.fl (gf2 (some (F2.zero, F2.zero))), .im (.int .i64 (ck2 x y true).1)]) := by kernel_rfl
set_option maxRecDepth 100000 in
theorem run_psi_btrue (x y : N2) : funB Tryz.prog (qG Tryz.prog) (fun _ => ⟨fun s => T_Mul2v, fun s => true, fun s => bif Nat.beq s 10 then some (.bool false) else none⟩) Tryz.f26 60 [.v (.fl (gq2 (x, y, true)))] = some ([intOp .neq .i64 (ck2 x y true).1 0 = some (.bool false)], .many [.fl (e2 (F2.mul (conj2' (m2 x)) thirdE) ++ (e2 (F2.mul (conj2' (m2 y)) halfE) ++ [.c (.bool true)])), .im (.int .i64 0)]) := by kernel_rfl
set_option maxRecDepth 100000 in
theorem run_psi_afalse (x y : N2) : funB Tryz.prog (qG Tryz.prog) (fun _ => ⟨fun s => T_Mul2v, fun s => true, fun s => bif Nat.beq s 10 then some (.bool true) else none⟩) Tryz.f26 60 [.v (.fl (gq2 (x, y, false)))] = some ([intOp .neq .i64 (ck2 x y false).1 0 = some (.bool true)], .many [.fl (gf2 (some (F2.zero, F2.zero))), .im (.int .i64 (ck2 x y false).1)]) := by kernel_rfl
set_option maxRecDepth 100000 in
theorem run_psi_bfalse (x y : N2) : funB Tryz.prog (qG Tryz.prog) (fun _ => ⟨fun s => T_Mul2v, fun s => true, fun s => bif Nat.beq s 10 then some (.bool false) else none⟩) Tryz.f26 60 [.v (.fl (gq2 (x, y, false)))] = some ([intOp .neq .i64 (ck2 x y false).1 0 = some (.bool false)], .many [.fl (e2 (F2.mul (conj2' (m2 x)) thirdE) ++ (e2 (F2.mul (conj2' (m2 y)) halfE) ++ [.c (.bool false)])), .im (.int .i64 0)]) := by kernel_rfl
def psP : Pt Q2 → Pt Q2
  | none => none
  | some p => some (F2.mul (conj2' p.1) thirdE, F2.mul (conj2' p.2) halfE)
noncomputable def resPsi (p : G2N) : Pt Q2 × Int := if (ckN2 p).1 ≠ 0 then (some (F2.zero, F2.zero), (ckN2 p).1) else (psP (af2 p), 0)
theorem m2_zr {x : N2} (h : zr2 x) : m2 x = F2.zero := by
  refine Prod.ext (Fin.ext ?_) (Fin.ext ?_)
  · show wv x.1 % FP.M = 0
    rw [h.1]; rfl
  · show wv x.2 % FP.M = 0
    rw [h.2]; rfl
theorem cj_zero : conj2' F2.zero = F2.zero := by decide
theorem ck2_zr {x y : N2} (h : (ck2 x y true).1 = 0) : zr2 x ∧ zr2 y := by
  rw [ck2_eq, if_pos rfl] at h
  by_cases hz : zr2 x ∧ zr2 y
  · exact hz
  · rw [if_neg hz] at h; cases h
theorem psi_ok (p : G2N) (args : List Value) (w : World) (ha : CAs w [.v (.fl (gq2 p))] args) : Good Tryz.prog 26 (.many [.fl (gf2 (resPsi p).1), .im (.int .i64 (resPsi p).2)]) args w := by
  obtain ⟨x, y, b⟩ := p
  by_cases h : (ck2 x y b).1 = 0
  · rw [show resPsi (x, y, b) = (psP (af2 (x, y, b)), 0) from if_neg (fun q => q h)]
    cases b with
    | false => exact funB_sound hmix (fun _ s => ok_Mul2v) (qG_ok Tryz.prog) Tryz.func26 (run_psi_bfalse x y) ⟨neq_f h, trivial⟩ ha
    | true =>
      refine Good.congr (funB_sound hmix (fun _ s => ok_Mul2v) (qG_ok Tryz.prog) Tryz.func26 (run_psi_btrue x y) ⟨neq_f h, trivial⟩ ha) ?_
      obtain ⟨hx, hy⟩ := ck2_zr h
      rw [m2_zr hx, m2_zr hy, cj_zero, F2.zero_mul, F2.zero_mul]
      rfl
  · rw [show resPsi (x, y, b) = (some (F2.zero, F2.zero), (ck2 x y b).1) from if_pos h]
    cases b with
    | true => exact funB_sound hmix (fun _ s => ok_Mul2v) (qG_ok Tryz.prog) Tryz.func26 (run_psi_atrue x y) ⟨neq_t h, trivial⟩ ha
    | false => exact funB_sound hmix (fun _ s => ok_Mul2v) (qG_ok Tryz.prog) Tryz.func26 (run_psi_afalse x y) ⟨neq_t h, trivial⟩ ha
noncomputable def T_Psi2 : Tab := (T_Mul2v).add 26 (g1 rg2 fun p => ([], .many [.fl (gf2 (resPsi p).1), .im (.int .i64 (resPsi p).2)]))
theorem ok_Psi2 : TabOk Tryz.prog T_Psi2 := (ok_Mul2v).add Tryz.func26 (by kernel_rfl) (by kernel_rfl) (g1_ok rg2_ok fun p hp args w ha => psi_ok p args w ha)
set_option maxRecDepth 100000 in
theorem run_in2_a (p : G2N) : funB Tryz.prog (qG Tryz.prog) (fun _ => ⟨fun s => T_Psi2, fun s => true, fun s => bif Nat.beq s 15 then some (.bool true) else none⟩) Tryz.f30 60 [.v (.fl (gq2 p))] = some ([intOp .neq .i64 (resPsi p).2 0 = some (.bool true)], .one (.im (.bool false))) := by kernel_rfl
set_option maxRecDepth 100000 in
theorem run_in2_b (p : G2N) : funB Tryz.prog (qG Tryz.prog) (fun _ => ⟨fun s => T_Psi2, fun s => true, fun s => bif Nat.beq s 15 then some (.bool false) else none⟩) Tryz.f30 60 [.v (.fl (gq2 p))] = some ([intOp .neq .i64 (resPsi p).2 0 = some (.bool false), flat (q1 FP.M) = flat (q1 FP.M), flat (q1 Go.Proofs.YthlcjdcjnioeoaaGreat.FR.M) = flat (q1 Go.Proofs.YthlcjdcjnioeoaaGreat.FR.M), flat (gf2 (resM2 (fun _ => p) (fun _ => lessN) 1).1) = flat (gf2 (resPsi p).1)], .one (.im (.bool true))) := by kernel_rfl
set_option maxRecDepth 100000 in
theorem run_in2_c (p : G2N) : funB Tryz.prog (qG Tryz.prog) (fun _ => ⟨fun s => T_Psi2, fun s => false, fun s => bif Nat.beq s 15 then some (.bool false) else none⟩) Tryz.f30 60 [.v (.fl (gq2 p))] = some ([intOp .neq .i64 (resPsi p).2 0 = some (.bool false), flat (q1 FP.M) = flat (q1 FP.M), flat (q1 Go.Proofs.YthlcjdcjnioeoaaGreat.FR.M) = flat (q1 Go.Proofs.YthlcjdcjnioeoaaGreat.FR.M), flat (gf2 (resM2 (fun _ => p) (fun _ => lessN) 1).1) ≠ flat (gf2 (resPsi p).1)], .one (.im (.bool false))) := by kernel_rfl
theorem gf2_inj {P Q : Pt Q2} (h : flat (gf2 P) = flat (gf2 Q)) : P = Q := by
  have h' : w4 (ptX F2 P).1.1 ++ (w4 (ptX F2 P).2.1 ++ (w4 (ptY F2 P).1.1 ++ (w4 (ptY F2 P).2.1 ++ [Value.bool (ptI P)]))) = w4 (ptX F2 Q).1.1 ++ (w4 (ptX F2 Q).2.1 ++ (w4 (ptY F2 Q).1.1 ++ (w4 (ptY F2 Q).2.1 ++ [Value.bool (ptI Q)]))) := h
  obtain ⟨h1, h'⟩ := List.append_inj h' rfl
  obtain ⟨h2, h'⟩ := List.append_inj h' rfl
  obtain ⟨h3, h'⟩ := List.append_inj h' rfl
  obtain ⟨h4, h'⟩ := List.append_inj h' rfl
  have h5 : ptI P = ptI Q := by injection h' with h' _; injection h'
  have e : ∀ {a b : Fq}, w4 a.1 = w4 b.1 → a = b := fun {a b} hw => by
    have := w4_inj' hw
    refine Fin.ext ?_
    have ha : wv a.1 = a.1 := fw_valp a.2
    have hb : wv b.1 = b.1 := fw_valp b.2
    rw [← ha, ← hb, this]
  cases P with
  | none =>
    cases Q with
    | none => rfl
    | some q => cases h5
  | some p =>
    cases Q with
    | none => cases h5
    | some q => exact congrArg some (Prod.ext (Prod.ext (e h1) (e h2)) (Prod.ext (e h3) (e h4)))
open Classical in
noncomputable def in2P (p : G2N) : Bool := decide ((resPsi p).2 = 0 ∧ (resM2 (fun _ => p) (fun _ => lessN) 1).1 = (resPsi p).1)
theorem in2_ok (p : G2N) (args : List Value) (w : World) (ha : CAs w [.v (.fl (gq2 p))] args) : Good Tryz.prog 30 (.one (.im (.bool (in2P p)))) args w := by
  unfold in2P
  by_cases h1 : (resPsi p).2 = 0
  · by_cases h2 : (resM2 (fun _ => p) (fun _ => lessN) 1).1 = (resPsi p).1
    · rw [decide_eq_true (And.intro h1 h2)]
      exact funB_sound hmix (fun _ s => ok_Psi2) (qG_ok Tryz.prog) Tryz.func30 (run_in2_b p) ⟨neq_f h1, rfl, rfl, by rw [h2], trivial⟩ ha
    · rw [decide_eq_false (fun h => h2 h.2)]
      exact funB_sound hmix (fun _ s => ok_Psi2) (qG_ok Tryz.prog) Tryz.func30 (run_in2_c p) ⟨neq_f h1, rfl, rfl, fun h => h2 (gf2_inj h), trivial⟩ ha
  · rw [decide_eq_false (fun h => h1 h.1)]
    exact funB_sound hmix (fun _ s => ok_Psi2) (qG_ok Tryz.prog) Tryz.func30 (run_in2_a p) ⟨neq_t h1, trivial⟩ ha
noncomputable def T_In2 : Tab := (T_Psi2).add 30 (g1 rg2 fun p => ([], .one (.im (.bool (in2P p)))))
theorem ok_In2 : TabOk Tryz.prog T_In2 := (ok_Psi2).add Tryz.func30 (by kernel_rfl) (by kernel_rfl) (g1_ok rg2_ok fun p hp args w ha => in2_ok p args w ha)
end Go.Proofs.YthlcjdcjnioeoaaGreat.Ex
namespace Go.Proofs.YthlcjdcjnioeoaaGreat.Ex
set_option linter.unusedVariables false
set_option linter.unusedSimpArgs false
open Go.RowKit
section
variable {R : Type} [DecidableEq R] (K : CR R)
/-- rplus, to be reckoned -/
def cplus (p q : Jc R) : Jc R :=
  if p.2.2 = K.zero then q else if q.2.2 = K.zero then p else if jac K p q = K.zero then (if jup K p q = K.zero then jdbl K p else (K.one, K.one, K.zero)) else jsum K p q
theorem cplus_eq (p q : Jc R) : cplus K p q = rplus K p q := by
  unfold cplus rplus
  by_cases h1 : p.2.2 = K.zero
  · rw [if_pos h1, if_pos h1]
  · rw [if_neg h1, if_neg h1]
    by_cases h2 : q.2.2 = K.zero
    · rw [if_pos h2, if_pos h2]
    · rw [if_neg h2, if_neg h2]
      by_cases h3 : jac K p q = K.zero
      · rw [if_pos h3]
        by_cases h4 : jup K p q = K.zero
        · rw [if_pos h4, if_pos ⟨h3, h4⟩]
        · rw [if_neg h4, if_neg (fun h => h4 h.2), if_pos h3]
      · rw [if_neg h3, if_neg (fun h => h3 h.1), if_neg h3]
/-- the n-th multiple, behind its highest k bits of L -/
def crm (a : Jc R) (n L : Nat) : Nat → Jc R
  | 0 => (K.one, K.one, K.zero)
  | k + 1 => if Nat.beq (n / 2 ^ (L - (k + 1)) % 2) 1 = true then cplus K (jdbl K (crm a n L k)) a else jdbl K (crm a n L k)
variable {K} {inv : R → R} {b : R}
theorem crm_rep {E : EC K inv b} {a : Jc R} {g : {p : Pt R // On K b p}} (h : Rp E a g) (n L : Nat) (hn : n < 2 ^ L) : ∀ k, k ≤ L → Rp E (crm K a n L k) (E.grp.ns (n / 2 ^ (L - k)) g)
  | 0, _ => by
    rw [Nat.sub_zero, Nat.div_eq_of_lt hn]
    exact Rp.zero rfl
  | k + 1, hk => by
    have ih := crm_rep h n L hn k (by omega)
    have e : n / 2 ^ (L - k) = n / 2 ^ (L - (k + 1)) / 2 := by
      rw [show L - k = (L - (k + 1)) + 1 by omega, Nat.pow_add, ← Nat.div_div_eq_div_mul]
    rw [e] at ih
    have h2 := ih.dbl
    rw [← E.grp.ns_add] at h2
    by_cases hb : n / 2 ^ (L - (k + 1)) % 2 = 1
    · rw [show crm K a n L (k + 1) = cplus K (jdbl K (crm K a n L k)) a from if_pos (by rw [hb]; rfl), cplus_eq]
      have h3 := h2.rplus h
      rw [show n / 2 ^ (L - (k + 1)) = n / 2 ^ (L - (k + 1)) / 2 + n / 2 ^ (L - (k + 1)) / 2 + 1 by omega]
      exact h3
    · rw [show crm K a n L (k + 1) = jdbl K (crm K a n L k) from if_neg (fun hq => hb (Nat.eq_of_beq_eq_true hq))]
      rw [show n / 2 ^ (L - (k + 1)) = n / 2 ^ (L - (k + 1)) / 2 + n / 2 ^ (L - (k + 1)) / 2 by omega]
      exact h2
theorem crm_all {E : EC K inv b} {a : Jc R} {g : {p : Pt R // On K b p}} (h : Rp E a g) (n L : Nat) (hn : n < 2 ^ L) : Rp E (crm K a n L L) (E.grp.ns n g) := by
  have := crm_rep h n L hn L (Nat.le_refl _)
  rwa [Nat.sub_self, Nat.pow_zero, Nat.div_one] at this
end
def ord : Nat := 21888242871839275222246405745257275088548364400416034343698204186575808495617
def psX : Q2 := F2.mul (conj2' g2X) thirdE
def psY : Q2 := F2.mul (conj2' g2Y) halfE
def lesJ : J2 := crm F2 (g2X, g2Y, F2.one) lessN 127 127
theorem les_z : lesJ.2.2 ≠ F2.zero := of_decide_eq_true (by kernel_rfl)
theorem les_x : lesJ.1 = F2.mul psX (F2.mul lesJ.2.2 lesJ.2.2) := of_decide_eq_true (by kernel_rfl)
theorem les_y : lesJ.2.1 = F2.mul psY (F2.mul (F2.mul lesJ.2.2 lesJ.2.2) lesJ.2.2) := of_decide_eq_true (by kernel_rfl)
theorem r1_zero : (crm F1 (fm 1, fm 2, F1.one) ord 254 254).2.2 = F1.zero := of_decide_eq_true (by kernel_rfl)
section
variable {R : Type} {K : CR R} {inv : R → R} {b : R}
theorem jto_proj (E : EC K inv b) {p : Jc R} {x y : R} (hz : p.2.2 ≠ K.zero) (hx : p.1 = K.mul x (K.mul p.2.2 p.2.2)) (hy : p.2.1 = K.mul y (K.mul (K.mul p.2.2 p.2.2) p.2.2)) : jto K inv p = some (x, y) := by
  have h1 := E.F.inv _ hz
  rw [jto_some hz, hx, hy]
  generalize inv p.2.2 = i at h1 ⊢
  generalize p.2.2 = z at h1 ⊢
  refine congrArg some (Prod.ext ?_ ?_)
  · show K.mul (K.mul x (K.mul z z)) (K.mul i i) = x
    have e : K.mul (K.mul x (K.mul z z)) (K.mul i i) = K.mul x (K.mul (K.mul z i) (K.mul z i)) := ring_id K (envL K [x, z, i]) (.mul (.mul (.v 0) (.mul (.v 1) (.v 1))) (.mul (.v 2) (.v 2))) (.mul (.v 0) (.mul (.mul (.v 1) (.v 2)) (.mul (.v 1) (.v 2)))) (by decide)
    rw [e, h1, K.one_mul, K.mul_one]
  · show K.mul (K.mul y (K.mul (K.mul z z) z)) (K.mul (K.mul i i) i) = y
    have e : K.mul (K.mul y (K.mul (K.mul z z) z)) (K.mul (K.mul i i) i) = K.mul y (K.mul (K.mul (K.mul z i) (K.mul z i)) (K.mul z i)) := ring_id K (envL K [y, z, i]) (.mul (.mul (.v 0) (.mul (.mul (.v 1) (.v 1)) (.v 1))) (.mul (.mul (.v 2) (.v 2)) (.v 2))) (.mul (.v 0) (.mul (.mul (.mul (.v 1) (.v 2)) (.mul (.v 1) (.v 2))) (.mul (.v 1) (.v 2)))) (by decide)
    rw [e, h1, K.one_mul, K.one_mul, K.mul_one]
end
/-- the generators, as they come -/
def g1n : G1N := ((fm 1).1, (fm 2).1, false)
def g2n : G2N := ((g2X.1.1, g2X.2.1), (g2Y.1.1, g2Y.2.1), false)
theorem m1_val (x : Fq) : m1 x.1 = x := Fin.ext (show wv x.1 % FP.M = x.1 by rw [show wv x.1 = x.1 from fw_valp x.2]; exact Nat.mod_eq_of_lt x.2)
theorem bl1_val (x : Fq) : bl1 x.1 := by show wv x.1 < FP.M; rw [show wv x.1 = x.1 from fw_valp x.2]; exact x.2
theorem m2_val (x : Q2) : m2 (x.1.1, x.2.1) = x := Prod.ext (m1_val x.1) (m1_val x.2)
theorem bl2_val (x : Q2) : bl2 (x.1.1, x.2.1) := ⟨bl1_val x.1, bl1_val x.2⟩
/-- a point that is told by a point of the curve is taken -/
theorem ck1_pt {x y : Fq} (h : On F1 (fm 3) (some (x, y))) : (ckN1 (x.1, y.1, false)).1 = 0 := by
  have e := ck1_eq x.1 y.1 false
  rw [if_neg (by simp), if_neg (fun q => q ⟨bl1_val x, bl1_val y⟩), m1_val, m1_val] at e
  have h' : F1.mul y y = F1.add (F1.mul (F1.mul x x) x) (fm 3) := by
    rw [F1.mul_comm (F1.mul x x) x]; exact h
  rw [if_pos h'] at e
  show (ck1 x.1 y.1 false).1 = 0
  rw [e]
theorem ck2_pt {x y : Q2} (h : On F2 b2E (some (x, y))) : (ckN2 ((x.1.1, x.2.1), (y.1.1, y.2.1), false)).1 = 0 := by
  have e := ck2_eq (x.1.1, x.2.1) (y.1.1, y.2.1) false
  rw [if_neg (by simp), if_neg (fun q => q ⟨bl2_val x, bl2_val y⟩), m2_val, m2_val] at e
  have h' : F2.mul y y = F2.add (F2.mul (F2.mul x x) x) b2E := by
    rw [F2.mul_comm (F2.mul x x) x]; exact h
  rw [if_pos h'] at e
  show (ck2 (x.1.1, x.2.1) (y.1.1, y.2.1) false).1 = 0
  rw [e]
theorem g1_on : On F1 (fm 3) (some (fm 1, fm 2)) := by
  show F1.mul (fm 2) (fm 2) = F1.add (F1.mul (fm 1) (F1.mul (fm 1) (fm 1))) (fm 3)
  exact of_decide_eq_true (by kernel_rfl)
theorem g2_on : On F2 b2E (some (g2X, g2Y)) := by
  show F2.mul g2Y g2Y = F2.add (F2.mul g2X (F2.mul g2X g2X)) b2E
  exact of_decide_eq_true (by kernel_rfl)
theorem g1_ck : (ckN1 g1n).1 = 0 := ck1_pt g1_on
theorem g2_ck : (ckN2 g2n).1 = 0 := ck2_pt g2_on
theorem af1_pt (x y : Fq) : af1 (x.1, y.1, false) = some (x, y) := congrArg some (Prod.ext (m1_val x) (m1_val y))
theorem af2_pt (x y : Q2) : af2 ((x.1.1, x.2.1), (y.1.1, y.2.1), false) = some (x, y) := congrArg some (Prod.ext (m2_val x) (m2_val y))
theorem g1_rep : Rp ec1 (fm 1, fm 2, F1.one) (cp1 g1n) := (ec1.jto_one _ _).trans ((cp1_eq g1_ck).trans (af1_pt (fm 1) (fm 2))).symm
theorem g2_rep : Rp ec2 (g2X, g2Y, F2.one) (cp2 g2n) := (ec2.jto_one _ _).trans ((cp2_eq g2_ck).trans (af2_pt g2X g2Y)).symm
theorem g1_ord : ec1.grp.ns ord (cp1 g1n) = ec1.grp.zero := Subtype.ext ((crm_all g1_rep ord 254 (by decide)).symm.trans (jto_zero r1_zero))
theorem less_lt : lessN < 2 ^ 127 := of_decide_eq_true (by kernel_rfl)
theorem les_rep : Rp ec2 lesJ (ec2.grp.ns lessN (cp2 g2n)) := crm_all g2_rep lessN 127 less_lt
theorem g2_less : (ec2.grp.ns lessN (cp2 g2n)).1 = some (psX, psY) := by
  rw [← show jto F2 iv2 lesJ = (ec2.grp.ns lessN (cp2 g2n)).1 from les_rep]
  exact jto_proj ec2 les_z les_x les_y
theorem wv_ord : wv Go.Proofs.YthlcjdcjnioeoaaGreat.FR.M = ord := by kernel_rfl
theorem wv_less : wv lessN = lessN := by kernel_rfl
theorem g2_psi : resPsi g2n = (some (psX, psY), 0) := by
  unfold resPsi
  rw [if_neg (fun h => h g2_ck), show af2 g2n = some (g2X, g2Y) from af2_pt g2X g2Y]
  have e : psP (some (g2X, g2Y)) = some (psX, psY) := by kernel_rfl
  rw [e]
theorem g2_in : in2P g2n = true := by
  unfold in2P
  have e : resM2 (fun _ => g2n) (fun _ => lessN) 1 = (some (psX, psY), 0) := by
    rw [resM2_1, if_neg (fun h => h g2_ck), wv_less, g2_less]
  rw [g2_psi, e]
  exact decide_eq_true ⟨rfl, rfl⟩
theorem g1_mul : resM1 (fun _ => g1n) (fun _ => Go.Proofs.YthlcjdcjnioeoaaGreat.FR.M) 1 = (none, 0) := by
  rw [resM1_1, if_neg (fun h => h g1_ck), wv_ord, g1_ord]
  rfl
theorem ck_13 : (ck1 1 3 false).1 = 41 := by
  have e := ck1_eq 1 3 false
  rw [if_neg (by simp), if_neg (fun q => q ⟨by show wv 1 < FP.M; decide, by show wv 3 < FP.M; decide⟩), if_neg (of_decide_eq_true (by kernel_rfl))] at e
  rw [e]
end Go.Proofs.YthlcjdcjnioeoaaGreat.Ex
namespace Go.Proofs.YthlcjdcjnioeoaaGreat.Ex
set_option linter.unusedVariables false
set_option linter.unusedSimpArgs false
open Go.RowKit
def gLnum : Ent
  | [.v (.im (.int .i64 n))] => some ([], .one (.im (.int .i64 n)))
  | _ => none
set_option maxRecDepth 100000 in
theorem run_lnum (n : Int) : funB Tryz.prog (qG Tryz.prog) (fun _ => ⟨fun s => T_In2, fun s => true, fun _ => none⟩) Tryz.f16 60 [.v (.im (.int .i64 n))] = some ([], .one (.im (.int .i64 n))) := by kernel_rfl
theorem lnum_ok : ∀ cs pre r, gLnum cs = some (pre, r) → allP pre → ∀ (args : List Value) (w : World), CAs w cs args → Good Tryz.prog 16 r args w := by
  intro cs pre r hg hp args w ha
  unfold gLnum at hg
  split at hg
  · rename_i n
    cases hg
    exact funB_sound hmix (fun _ s => ok_In2) (qG_ok Tryz.prog) Tryz.func16 (run_lnum n) trivial ha
  · cases hg
/-- a point that is in the group -/
noncomputable def gIn2t : Ent := g1 rg2 fun p => ([in2P p = true], .one (.im (.bool true)))
theorem in2t_ok : ∀ cs pre r, gIn2t cs = some (pre, r) → allP pre → ∀ (args : List Value) (w : World), CAs w cs args → Good Tryz.prog 30 r args w :=
  g1_ok (op := fun p => ([in2P p = true], .one (.im (.bool true)))) rg2_ok fun p hp args w ha => by
    have h := in2_ok p args w ha
    rw [show in2P p = true from hp.1] at h
    exact h
noncomputable def T_lnum : Tab := (T_In2.add 16 gLnum).add 30 gIn2t
theorem ok_lnum : TabOk Tryz.prog T_lnum := (ok_In2.add Tryz.func16 (by kernel_rfl) (by kernel_rfl) lnum_ok).add Tryz.func30 (by kernel_rfl) (by kernel_rfl) in2t_ok
set_option maxRecDepth 100000 in
theorem run_works : funB Tryz.prog (qG Tryz.prog) (fun _ => ⟨fun s => T_lnum, fun s => true, assoc [(31, .bool true), (41, .bool true), (63, .bool true)]⟩) Tryz.f19 100 [] = some ([
  flat (gf1 (resS1 (p2 g1n g1n) 2).1) = flat (gf1 (rresA1 g1n g1n).1),
  intOp .eql .i64 (resS1 (p2 g1n g1n) 2).2 0 = some (.bool true),
  flat (gf1 (resM1 (fun _ => g1n) (fun _ => Go.Proofs.YthlcjdcjnioeoaaGreat.FR.M) 1).1) = flat (gf1 none),
  intOp .eql .i64 (resM1 (fun _ => g1n) (fun _ => Go.Proofs.YthlcjdcjnioeoaaGreat.FR.M) 1).2 0 = some (.bool true),
  flat (gf2 (some (g2X, g2Y))) = flat (gf2 (some (g2X, g2Y))),
  flat (q1 Go.Proofs.YthlcjdcjnioeoaaGreat.FR.M) = flat (q1 Go.Proofs.YthlcjdcjnioeoaaGreat.FR.M),
  in2P g2n = true,
  intOp .eql .i64 (ck1 1 3 false).1 41 = some (.bool true)], .one (.im (.bool true))) := by kernel_rfl
theorem works_pre : (resS1 (p2 g1n g1n) 2).2 = 0 := by
  rw [resS1_2, if_neg (fun h => h g1_ck), if_neg (fun h => h g1_ck)]
theorem works_ok (w : World) : Good Tryz.prog 19 (.one (.im (.bool true))) [] w :=
  funB_sound hmix (fun _ s => ok_lnum) (qG_ok Tryz.prog) Tryz.func19 run_works ⟨by rw [add1_same], by rw [works_pre]; rfl, by rw [g1_mul], by rw [g1_mul]; rfl, rfl, rfl, g2_in, by rw [ck_13]; rfl, trivial⟩ (args := []) trivial
noncomputable def T_works : Tab := T_lnum.add 19 (g0 (.one (.im (.bool true))))
theorem ok_works : TabOk Tryz.prog T_works := ok_lnum.add Tryz.func19 (by kernel_rfl) (by kernel_rfl) (g0_ok works_ok)
theorem eqi (c : Int) : intOp .eql .i64 c c = some (.bool true) := by
  show some (Value.bool (c == c)) = _
  rw [beq_self_eq_true]
end Go.Proofs.YthlcjdcjnioeoaaGreat.Ex
namespace Go.Proofs.YthlcjdcjnioeoaaGreat.Ex
set_option linter.unusedVariables false
set_option linter.unusedSimpArgs false
open Classical
section
variable {R : Type} {K : CR R} {inv : R → R} {b : R}
/-- s is an automorphism, k scales -/
structure Tw (K : CR R) (b : R) (s : R → R) (k : R) : Prop where
  add : ∀ x y, s (K.add x y) = K.add (s x) (s y)
  mul : ∀ x y, s (K.mul x y) = K.mul (s x) (s y)
  neg : ∀ x, s (K.neg x) = K.neg (s x)
  zero : s K.zero = K.zero
  ss : ∀ x, s (s x) = x
  k0 : k ≠ K.zero
  hb : K.mul (K.mul (K.mul (K.mul k k) k) (K.mul (K.mul k k) k)) (s b) = b
def tw (K : CR R) (s : R → R) (k : R) : Pt R → Pt R
  | none => none
  | some p => some (K.mul (s p.1) (K.mul k k), K.mul (s p.2) (K.mul (K.mul k k) k))
variable {s : R → R} {k : R}
theorem Tw.inj (t : Tw K b s k) {x y : R} (h : s x = s y) : x = y := by rw [← t.ss x, h, t.ss]
theorem Tw.sub (t : Tw K b s k) (x y : R) : s (K.sub x y) = K.sub (s x) (s y) := by
  show s (K.add x (K.neg y)) = K.add (s x) (K.neg (s y))
  rw [t.add, t.neg]
theorem mul_can (E : EC K inv b) {x y c : R} (hc : c ≠ K.zero) (h : K.mul x c = K.mul y c) : x = y := by
  have h1 := congrArg (fun z => K.mul z (inv c)) h
  have h2 := E.F.inv c hc
  simp only [K.mul_assoc, h2, K.mul_one] at h1
  exact h1
theorem Tw.k2 (t : Tw K b s k) (E : EC K inv b) : K.mul k k ≠ K.zero := E.F.mul_ne t.k0 t.k0
theorem Tw.k3 (t : Tw K b s k) (E : EC K inv b) : K.mul (K.mul k k) k ≠ K.zero := E.F.mul_ne (t.k2 E) t.k0
theorem tw_on (t : Tw K b s k) (E : EC K inv b) : ∀ {P : Pt R}, On K b P → On K b (tw K s k P)
  | none, _ => trivial
  | some p, h => by
    have h' : K.mul p.2 p.2 = K.add (K.mul p.1 (K.mul p.1 p.1)) b := h
    have h1 := congrArg s h'
    rw [t.mul, t.add, t.mul, t.mul] at h1
    show K.mul (K.mul (s p.2) (K.mul (K.mul k k) k)) (K.mul (s p.2) (K.mul (K.mul k k) k)) = K.add (K.mul (K.mul (s p.1) (K.mul k k)) (K.mul (K.mul (s p.1) (K.mul k k)) (K.mul (s p.1) (K.mul k k)))) b
    have e1 : K.mul (K.mul (s p.2) (K.mul (K.mul k k) k)) (K.mul (s p.2) (K.mul (K.mul k k) k)) = K.mul (K.mul (K.mul (K.mul k k) k) (K.mul (K.mul k k) k)) (K.mul (s p.2) (s p.2)) := ring_id K (envL K [s p.2, k]) (.mul (.mul (.v 0) (.mul (.mul (.v 1) (.v 1)) (.v 1))) (.mul (.v 0) (.mul (.mul (.v 1) (.v 1)) (.v 1)))) (.mul (.mul (.mul (.mul (.v 1) (.v 1)) (.v 1)) (.mul (.mul (.v 1) (.v 1)) (.v 1))) (.mul (.v 0) (.v 0))) (by decide)
    have e2 : K.mul (K.mul (s p.1) (K.mul k k)) (K.mul (K.mul (s p.1) (K.mul k k)) (K.mul (s p.1) (K.mul k k))) = K.mul (K.mul (K.mul (K.mul k k) k) (K.mul (K.mul k k) k)) (K.mul (s p.1) (K.mul (s p.1) (s p.1))) := ring_id K (envL K [s p.1, k]) (.mul (.mul (.v 0) (.mul (.v 1) (.v 1))) (.mul (.mul (.v 0) (.mul (.v 1) (.v 1))) (.mul (.v 0) (.mul (.v 1) (.v 1))))) (.mul (.mul (.mul (.mul (.v 1) (.v 1)) (.v 1)) (.mul (.mul (.v 1) (.v 1)) (.v 1))) (.mul (.v 0) (.mul (.v 0) (.v 0)))) (by decide)
    rw [e1, e2, h1, K.mul_add, t.hb]
theorem tw_slope (t : Tw K b s k) (E : EC K inv b) {x1 y1 x2 y2 : R} (hp : On K b (some (x1, y1))) (hq : On K b (some (x2, y2))) (h : ¬ (x1 = x2 ∧ K.add y1 y2 = K.zero)) :
    slope K inv (K.mul (s x1) (K.mul k k)) (K.mul (s y1) (K.mul (K.mul k k) k)) (K.mul (s x2) (K.mul k k)) (K.mul (s y2) (K.mul (K.mul k k) k)) = K.mul (s (slope K inv x1 y1 x2 y2)) k := by
  by_cases hx : x1 = x2
  · subst hx
    have hy : K.add y1 y2 ≠ K.zero := fun e => h ⟨rfl, e⟩
    have hyy : y1 = y2 := by
      apply Classical.byContradiction
      intro hn
      exact hy (sq_opp E (show K.mul y1 y1 = K.mul y2 y2 from (show K.mul y1 y1 = _ from hp).trans (show K.mul y2 y2 = _ from hq).symm) hn)
    subst hyy
    have hl : K.mul (slope K inv x1 y1 x1 y1) (K.add y1 y1) = K.add (K.add (K.mul x1 x1) (K.mul x1 x1)) (K.mul x1 x1) := by
      unfold slope
      rw [if_pos rfl, K.mul_assoc, K.mul_comm (inv _), E.F.inv _ hy, K.mul_one]
    generalize slope K inv x1 y1 x1 y1 = l at hl ⊢
    have h1 := congrArg s hl
    rw [t.mul, t.add, t.add, t.add, t.mul] at h1
    have hys : K.add (s y1) (s y1) ≠ K.zero := fun e => hy (t.inj (by rw [t.add, t.zero]; exact e))
    refine slope_dbl E ?_ ?_
    · intro e
      refine hys ?_
      apply mul_can E (t.k3 E)
      rw [K.add_mul, e, K.mul_comm K.zero, K.mul_zero]
    · have e1 : K.mul (K.mul (s l) k) (K.add (K.mul (s y1) (K.mul (K.mul k k) k)) (K.mul (s y1) (K.mul (K.mul k k) k))) = K.mul (K.mul (s l) (K.add (s y1) (s y1))) (K.mul (K.mul k k) (K.mul k k)) := ring_id K (envL K [s l, k, s y1]) (.mul (.mul (.v 0) (.v 1)) (.add (.mul (.v 2) (.mul (.mul (.v 1) (.v 1)) (.v 1))) (.mul (.v 2) (.mul (.mul (.v 1) (.v 1)) (.v 1))))) (.mul (.mul (.v 0) (.add (.v 2) (.v 2))) (.mul (.mul (.v 1) (.v 1)) (.mul (.v 1) (.v 1)))) (by decide)
      rw [e1, h1]
      exact ring_id K (envL K [s x1, k]) (.mul (.add (.add (.mul (.v 0) (.v 0)) (.mul (.v 0) (.v 0))) (.mul (.v 0) (.v 0))) (.mul (.mul (.v 1) (.v 1)) (.mul (.v 1) (.v 1)))) (.add (.add (.mul (.mul (.v 0) (.mul (.v 1) (.v 1))) (.mul (.v 0) (.mul (.v 1) (.v 1)))) (.mul (.mul (.v 0) (.mul (.v 1) (.v 1))) (.mul (.v 0) (.mul (.v 1) (.v 1))))) (.mul (.mul (.v 0) (.mul (.v 1) (.v 1))) (.mul (.v 0) (.mul (.v 1) (.v 1))))) (by decide)
  · have hl : K.mul (slope K inv x1 y1 x2 y2) (K.sub x2 x1) = K.sub y2 y1 := by
      unfold slope
      rw [if_neg hx, K.mul_assoc, K.mul_comm (inv _), E.F.inv _ (sub_ne fun e => hx e.symm), K.mul_one]
    generalize slope K inv x1 y1 x2 y2 = l at hl ⊢
    have h1 := congrArg s hl
    rw [t.mul, t.sub, t.sub] at h1
    refine slope_chord E (fun e => hx (t.inj (mul_can E (t.k2 E) e))) ?_
    have e1 : K.mul (K.mul (s l) k) (K.sub (K.mul (s x2) (K.mul k k)) (K.mul (s x1) (K.mul k k))) = K.mul (K.mul (s l) (K.sub (s x2) (s x1))) (K.mul (K.mul k k) k) := ring_id K (envL K [s l, k, s x1, s x2]) (.mul (.mul (.v 0) (.v 1)) (.add (.mul (.v 3) (.mul (.v 1) (.v 1))) (.neg (.mul (.v 2) (.mul (.v 1) (.v 1)))))) (.mul (.mul (.v 0) (.add (.v 3) (.neg (.v 2)))) (.mul (.mul (.v 1) (.v 1)) (.v 1))) (by decide)
    rw [e1, h1]
    exact ring_id K (envL K [s y1, k, s y2]) (.mul (.add (.v 2) (.neg (.v 0))) (.mul (.mul (.v 1) (.v 1)) (.v 1))) (.add (.mul (.v 2) (.mul (.mul (.v 1) (.v 1)) (.v 1))) (.neg (.mul (.v 0) (.mul (.mul (.v 1) (.v 1)) (.v 1))))) (by decide)
theorem tw_add (t : Tw K b s k) (E : EC K inv b) : ∀ {P Q : Pt R}, On K b P → On K b Q → tw K s k (ptA K inv P Q) = ptA K inv (tw K s k P) (tw K s k Q)
  | none, _, _, _ => rfl
  | some p, none, _, _ => rfl
  | some p, some q, hp, hq => by
    by_cases h : p.1 = q.1 ∧ K.add p.2 q.2 = K.zero
    · rw [ptA_opp h]
      refine (ptA_opp ⟨?_, ?_⟩).symm
      · show K.mul (s p.1) _ = K.mul (s q.1) _
        rw [h.1]
      · show K.add (K.mul (s p.2) _) (K.mul (s q.2) _) = K.zero
        rw [← K.add_mul, ← t.add, h.2, t.zero, K.mul_comm, K.mul_zero]
    · rw [ptA_sum h]
      have h' : ¬ (K.mul (s p.1) (K.mul k k) = K.mul (s q.1) (K.mul k k) ∧ K.add (K.mul (s p.2) (K.mul (K.mul k k) k)) (K.mul (s q.2) (K.mul (K.mul k k) k)) = K.zero) := fun e => h ⟨t.inj (mul_can E (t.k2 E) e.1), by
        have e2 := e.2
        rw [← K.add_mul, ← t.add] at e2
        exact t.inj (by rw [t.zero]; exact mul_can E (t.k3 E) (by rw [e2, K.mul_comm K.zero, K.mul_zero]))⟩
      have hS := ptA_sum (K := K) (inv := inv) (p := (K.mul (s p.1) (K.mul k k), K.mul (s p.2) (K.mul (K.mul k k) k))) (q := (K.mul (s q.1) (K.mul k k), K.mul (s q.2) (K.mul (K.mul k k) k))) h'
      refine Eq.trans ?_ hS.symm
      rw [tw_slope t E (x1 := p.1) (y1 := p.2) (x2 := q.1) (y2 := q.2) hp hq h]
      generalize slope K inv p.1 p.2 q.1 q.2 = l
      have ex : s (sx K l p.1 q.1) = K.sub (K.sub (K.mul (s l) (s l)) (s p.1)) (s q.1) := by
        unfold sx
        rw [t.sub, t.sub, t.mul]
      have ey : s (sy K l p.1 p.2 q.1) = K.sub (K.mul (s l) (K.sub (s p.1) (s (sx K l p.1 q.1)))) (s p.2) := by
        unfold sy
        rw [t.sub, t.mul, t.sub]
      have fx : K.mul (s (sx K l p.1 q.1)) (K.mul k k) = sx K (K.mul (s l) k) (K.mul (s p.1) (K.mul k k)) (K.mul (s q.1) (K.mul k k)) := by
        rw [ex]
        exact ring_id K (envL K [s l, k, s p.1, s q.1]) (.mul (.add (.add (.mul (.v 0) (.v 0)) (.neg (.v 2))) (.neg (.v 3))) (.mul (.v 1) (.v 1))) (.add (.add (.mul (.mul (.v 0) (.v 1)) (.mul (.v 0) (.v 1))) (.neg (.mul (.v 2) (.mul (.v 1) (.v 1))))) (.neg (.mul (.v 3) (.mul (.v 1) (.v 1))))) (by decide)
      refine congrArg some (Prod.ext fx ?_)
      show K.mul (s (sy K l p.1 p.2 q.1)) (K.mul (K.mul k k) k) = sy K (K.mul (s l) k) (K.mul (s p.1) (K.mul k k)) (K.mul (s p.2) (K.mul (K.mul k k) k)) (K.mul (s q.1) (K.mul k k))
      rw [ey]
      unfold sy
      rw [← fx]
      generalize s (sx K l p.1 q.1) = S
      exact ring_id K (envL K [s l, k, s p.1, S, s p.2]) (.mul (.add (.mul (.v 0) (.add (.v 2) (.neg (.v 3)))) (.neg (.v 4))) (.mul (.mul (.v 1) (.v 1)) (.v 1))) (.add (.mul (.mul (.v 0) (.v 1)) (.add (.mul (.v 2) (.mul (.v 1) (.v 1))) (.neg (.mul (.v 3) (.mul (.v 1) (.v 1)))))) (.neg (.mul (.v 4) (.mul (.mul (.v 1) (.v 1)) (.v 1))))) (by decide)
end
end Go.Proofs.YthlcjdcjnioeoaaGreat.Ex
namespace Go.Proofs.YthlcjdcjnioeoaaGreat.Ex
set_option linter.unusedVariables false
set_option linter.unusedSimpArgs false
open Go.RowKit
def kE : Q2 := (⟨8376118865763821496583973867626364092589906065868298776909617916018768340080, by decide⟩, ⟨16469823323077808223889137241176536799009286646108169935659301613961712198316, by decide⟩)
theorem k_third : F2.mul kE kE = thirdE := of_decide_eq_true (by kernel_rfl)
theorem k_half : F2.mul (F2.mul kE kE) kE = halfE := of_decide_eq_true (by kernel_rfl)
theorem cj_add (x y : Q2) : conj2' (F2.add x y) = F2.add (conj2' x) (conj2' y) := Prod.ext rfl (ring_id F1 (envL F1 [x.2, y.2]) (.neg (.add (.v 0) (.v 1))) (.add (.neg (.v 0)) (.neg (.v 1))) (by decide))
theorem cj_mul (x y : Q2) : conj2' (F2.mul x y) = F2.mul (conj2' x) (conj2' y) := by
  refine Prod.ext ?_ ?_
  · exact ring_id F1 (envL F1 [x.1, x.2, y.1, y.2]) (.add (.mul (.v 0) (.v 2)) (.mul (.neg .one) (.mul (.v 1) (.v 3)))) (.add (.mul (.v 0) (.v 2)) (.mul (.neg .one) (.mul (.neg (.v 1)) (.neg (.v 3))))) (by decide)
  · exact ring_id F1 (envL F1 [x.1, x.2, y.1, y.2]) (.neg (.add (.mul (.v 0) (.v 3)) (.mul (.v 1) (.v 2)))) (.add (.mul (.v 0) (.neg (.v 3))) (.mul (.neg (.v 1)) (.v 2))) (by decide)
theorem twPsi : Tw F2 b2E conj2' kE where
  add := cj_add
  mul := cj_mul
  neg := fun x => rfl
  zero := cj_zero
  ss := fun x => Prod.ext rfl (ring_id F1 (envL F1 [x.2]) (.neg (.neg (.v 0))) (.v 0) (by decide))
  k0 := of_decide_eq_true (by kernel_rfl)
  hb := of_decide_eq_true (by kernel_rfl)
theorem psP_tw : ∀ P : Pt Q2, psP P = tw F2 conj2' kE P
  | none => rfl
  | some p => by
    show some (F2.mul (conj2' p.1) thirdE, F2.mul (conj2' p.2) halfE) = some (F2.mul (conj2' p.1) (F2.mul kE kE), F2.mul (conj2' p.2) (F2.mul (F2.mul kE kE) kE))
    rw [k_third, ← k_half, k_third]
/-- the p-power map over the group -/
def psi (P : C2) : C2 := ⟨psP P.1, by rw [psP_tw]; exact tw_on twPsi ec2 P.2⟩
theorem psi_add (P Q : C2) : psi (ec2.grp.add P Q) = ec2.grp.add (psi P) (psi Q) := Subtype.ext (by
  show psP (ptA F2 iv2 P.1 Q.1) = ptA F2 iv2 (psP P.1) (psP Q.1)
  rw [psP_tw, psP_tw, psP_tw]
  exact tw_add twPsi ec2 P.2 Q.2)
theorem psi_ns (P : C2) : ∀ n, psi (ec2.grp.ns n P) = ec2.grp.ns n (psi P)
  | 0 => rfl
  | n + 1 => by
    show psi (ec2.grp.add (ec2.grp.ns n P) P) = ec2.grp.add (ec2.grp.ns n (psi P)) (psi P)
    rw [psi_add, psi_ns P n]
end Go.Proofs.YthlcjdcjnioeoaaGreat.Ex
