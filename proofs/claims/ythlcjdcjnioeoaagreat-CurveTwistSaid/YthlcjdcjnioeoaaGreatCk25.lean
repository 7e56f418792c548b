/-
  Multiples by tables: the sum at a place, the sum over the places. Conditions: what is asked of memory from before.
-/
import Derived.Test.YthlcjdcjnioeoaaGreatCk24
namespace Go.Proofs.YthlcjdcjnioeoaaGreat.Ex
set_option linter.unusedVariables false
set_option linter.unusedSimpArgs false
open Go.RowKit
def xt0 (old : Nat → Nat → List At → Prop) : Ext := { idx := fun _ => none, ld := fun _ => none, st := fun _ => none, gen := fun _ => none, mks := fun _ => none, ky := fun _ => none, old := old, T2 := Fr0 }
theorem xt_ok {x : Ext} {w : World} (h : x.old = oldOf w) (h2 : x.T2 = Fr0) : EqOkW Tryz.prog (qX Tryz.prog x) w.heap.size w := qX_ok (h2 ▸ Fr0_ok _) fun _ _ _ q => h ▸ q
/-- the longest of numbers -/
def mxL (x : Nat → Nat) : Nat → Nat
  | 0 => 0
  | i + 1 => if lenF (x i) > mxL x i then lenF (x i) else mxL x i
theorem mxL_le (x : Nat → Nat) : ∀ i, mxL x i ≤ 256
  | 0 => Nat.zero_le _
  | i + 1 => by
    have := mxL_le x i
    have := lenF_le (x i)
    unfold mxL
    split <;> omega
theorem mxL_ge (x : Nat → Nat) : ∀ n i, i < n → lenF (x i) ≤ mxL x n
  | n + 1, i, h => by
    unfold mxL
    by_cases e : i = n
    · subst e; split <;> omega
    · have := mxL_ge x n i (by omega)
      split <;> omega

def plX (old : Nat → Nat → List At → Prop) (x i : Nat) : Ext := { xt0 old with idx := assoc [(11, i)], ld := assoc [(12, [At.q x])] }
def plF (b o n m i mx : Nat) : List Fact := [.slot 1 (.pt 1 0), .row 1 true (digS b o n m), .slot 3 (.im (iI mx)), .slot 7 (.im (slV b o n m)), .slot 8 (.im (iI n)), .slot 9 (.im (iI i))]
noncomputable def plC (num : Nat → Option Value) (_ : Nat) : Cfg := ⟨fun _ => T_dig true, fun _ => true, num⟩
noncomputable def plCode : Code := (Tryz.f227.body).getD .skip
noncomputable def plLoop : Code := cIn (cIn (cB (cA (cB (cB plCode)))))
theorem pl_code : plCode = .seq (cA plCode) (.seq (cA (cB plCode)) (.seq (.seq (cA (cA (cB (cB plCode)))) (.block 0 (.loop plLoop))) (cB (cB (cB plCode))))) := by kernel_rfl
def plA (b o n m : Nat) : List Fact := [.slot 1 (.pt 1 0), .row 1 true (digS b o n m)]
def plB (b o n m : Nat) : List Fact := [.slot 1 (.pt 1 0), .row 1 true (digS b o n m), .slot 3 (.im (iI 0))]
set_option maxRecDepth 100000 in
theorem pl_s0 (b o n m : Nat) : runK Tryz.prog (qG Tryz.prog) Tryz.f227.ntmps (plC fun _ => none) 40 (cA plCode) (argF 0 [.v (.fl (digS b o n m))]) (plA b o n m) = some ([], .nrm, plA b o n m) := by kernel_rfl
set_option maxRecDepth 100000 in
theorem pl_s1 (b o n m : Nat) : runK Tryz.prog (qG Tryz.prog) Tryz.f227.ntmps (plC fun _ => none) 40 (cA (cB plCode)) (plA b o n m) (plB b o n m) = some ([], .nrm, plB b o n m) := by kernel_rfl
set_option maxRecDepth 100000 in
theorem pl_s2 (b o n m : Nat) : runK Tryz.prog (qG Tryz.prog) Tryz.f227.ntmps (plC fun _ => none) 40 (cA (cA (cB (cB plCode)))) (plB b o n m) (plF b o n m 0 0) = some ([], .nrm, plF b o n m 0 0) := by kernel_rfl
set_option maxRecDepth 100000 in
theorem pl_rd (old : Nat → Nat → List At → Prop) (b o n m i mx mx' x : Nat) : runK Tryz.prog (qX Tryz.prog (plX old x i)) Tryz.f227.ntmps (plC (assoc [(10, .bool true), (16, iI mx'), (17, iI (i + 1))])) 40 plLoop (plF b o n m i mx) (plF b o n m (i + 1) mx') = some ([intOp .lss .i64 (Int.ofNat i) (Int.ofNat n) = some (.bool true), Int.ofNat i = Int.ofNat i, i < n, old b (o + i * 4) [.q x], fsz [At.q x] = 4, Value.int .i64 (if (Int.ofNat (lenF x)) > (Int.ofNat mx) then Int.ofNat (lenF x) else Int.ofNat mx) = iI mx', intOp .add .i64 (Int.ofNat i) 1 = some (iI (i + 1))], .nrm, plF b o n m (i + 1) mx') := by kernel_rfl
set_option maxRecDepth 100000 in
theorem pl_end (b o n m i mx : Nat) : runK Tryz.prog (qG Tryz.prog) Tryz.f227.ntmps (plC (assoc [(10, .bool false)])) 40 plLoop (plF b o n m i mx) (plF b o n m i mx) = some ([intOp .lss .i64 (Int.ofNat i) (Int.ofNat n) = some (.bool false)], .ex 0, plF b o n m i mx) := by kernel_rfl
set_option maxRecDepth 100000 in
theorem pl_last (b o n m i mx : Nat) : runK Tryz.prog (qG Tryz.prog) Tryz.f227.ntmps (plC (assoc [(21, iI (mx / 4)), (22, iI (mx / 4 + 1))])) 40 (cB (cB (cB plCode))) (plF b o n m i mx) [.slot 2 (.im (iI (mx / 4 + 1)))] = some ([intOp .quo .i64 (Int.ofNat mx) (Int.ofNat 4) = some (iI (mx / 4)), intOp .add .i64 (Int.ofNat (mx / 4)) 1 = some (iI (mx / 4 + 1))], .rt, [.slot 2 (.im (iI (mx / 4 + 1)))]) := by kernel_rfl
theorem places_calls {w0 : World} (b o n m : Nat) (x : Nat → Nat) (hx : ∀ i, i < n → oldOf w0 b (o + i * 4) [.q (x i)]) (hn : n < 4611686018427387904) : Calls Tryz.prog 227 #[.agg (flat (digS b o n m)).toArray] w0 (fun e w' => e = .returned (iI (mxL x n / 4 + 1)) ∧ Below w0.heap.size w0 w') := by
  have hG : EqOkW Tryz.prog (qG Tryz.prog) w0.heap.size w0 := (qG_ok _).w _ _
  have hT : ∀ n d : Nat, TabOkW Tryz.prog (T_dig true) w0.heap.size w0 := fun _ _ => (ok_dig true).w _ _
  refine fn_enter Tryz.func227 (c := plCode) rfl (args := [.agg (flat (digS b o n m)).toArray]) (cs := [.v (.fl (digS b o n m))]) ⟨rfl, trivial⟩ (Nat.le_of_ble_eq_true (by kernel_rfl)) fun a w' hA => ?_
  rw [pl_code]
  refine wp_seq (runKW_sound hmix hT hG (pl_s0 b o n m) trivial hA fun a w' hA => ?_)
  refine wp_seq (runKW_sound hmix hT hG (pl_s1 b o n m) trivial hA fun a w' hA => ?_)
  refine wp_seq (wp_seq (runKW_sound hmix hT hG (pl_s2 b o n m) trivial hA fun a w' hA => ?_))
  refine wp_block ?_
  refine loop_r hmix (fun i => plF b o n m i (mxL x i)) n (fun i hi => ?_) (.ex 0) (by simp) (plF b o n m n (mxL x n)) ?_ hA fun a w' hA => ?_
  · refine ⟨_, _, _, _, xt_ok (x := plX (oldOf w0) (x i) i) rfl rfl, hT, pl_rd (oldOf w0) b o n m i (mxL x i) (mxL x (i + 1)) (x i), o_lss_t hi, rfl, hi, hx i hi, rfl, ?_, o_add (k := 1) (by omega), trivial⟩
    show Value.int .i64 (if ((lenF (x i) : Nat) : Int) > ((mxL x i : Nat) : Int) then ((lenF (x i) : Nat) : Int) else ((mxL x i : Nat) : Int)) = .int .i64 ((mxL x (i + 1) : Nat) : Int)
    rw [mxL]
    by_cases h : lenF (x i) > mxL x i
    · rw [if_pos h, if_pos (by omega)]
    · rw [if_neg h, if_neg (by omega)]
  · exact ⟨_, _, _, _, hG, hT, pl_end b o n m n _, o_lss_f (Nat.le_refl _), trivial⟩
  · have := mxL_le x n
    show (cB (cB (cB plCode))).wp _ _ _ _
    exact runKW_sound hmix hT hG (pl_last b o n m n _) ⟨o_quo (by omega) (by omega), o_add (k := 1) (by omega), trivial⟩ hA fun a w' hA => fn_leave (l := [.im (iI (mxL x n / 4 + 1))]) (r := .one (.im (iI (mxL x n / 4 + 1)))) (by kernel_rfl) (by kernel_rfl) hA

/-- a point's multiples by 0 and on -/
noncomputable def jt1 (p : J1) : Nat → J1
  | 0 => (F1.zero, F1.zero, F1.zero)
  | k + 1 => jplus F1 (jt1 p k) p
noncomputable def tms1 (p : J1) : Int → J1
  | .ofNat 0 => (F1.zero, F1.zero, F1.zero)
  | .ofNat (k + 1) => jt1 p (k + 1)
  | .negSucc k => jneg F1 (jt1 p (k + 1))
def tmX1 (old : Nat → Nat → List At → Prop) (k : Nat) (h : Int) (q : J1) : Ext := { xt0 old with idx := assoc [(12, k), (22, k)], ld := assoc [(13, ej1 q), (23, ej1 q)], gen := assoc [(19, .int .i64 h)] }
set_option maxRecDepth 100000 in
theorem run_tm1_p (old : Nat → Nat → List At → Prop) (b off k : Nat) (g h : Int) (q : J1) : funB Tryz.prog (qX Tryz.prog (tmX1 old k h q)) (fun _ => ⟨fun s => T_dig true, fun s => true, assoc [(7, .bool true), (10, iI k)]⟩) Tryz.f191 80 [.v (.im (ptV b off)), .v (.im (.int .i64 g))] = some ([intOp .gtr .i64 g 0 = some (.bool true), intOp .sub .i64 g 1 = some (iI k), Int.ofNat k = Int.ofNat k, k < 8, old b (off + k * 12) (ej1 q), fsz (ej1 q) = 12], .one (.fl (ej1 q))) := by kernel_rfl
set_option maxRecDepth 100000 in
theorem run_tm1_n (old : Nat → Nat → List At → Prop) (b off k : Nat) (g h : Int) (q : J1) : funB Tryz.prog (qX Tryz.prog (tmX1 old k h q)) (fun _ => ⟨fun s => T_dig true, fun s => true, assoc [(7, .bool false), (16, .bool true), (20, iI k)]⟩) Tryz.f191 80 [.v (.im (ptV b off)), .v (.im (.int .i64 g))] = some ([intOp .gtr .i64 g 0 = some (.bool false), intOp .lss .i64 g 0 = some (.bool true), (∀ W : World, (Op.unary .neg (.int .i64 g)).run Tryz.prog W = .ok (.int .i64 h) W), intOp .sub .i64 h 1 = some (iI k), Int.ofNat k = Int.ofNat k, k < 8, old b (off + k * 12) (ej1 q), fsz (ej1 q) = 12], .one (.fl (ej1 (jneg F1 q)))) := by kernel_rfl
set_option maxRecDepth 100000 in
theorem run_tm1_z (old : Nat → Nat → List At → Prop) (b off k : Nat) (g h : Int) (q : J1) : funB Tryz.prog (qX Tryz.prog (tmX1 old k h q)) (fun _ => ⟨fun s => T_dig true, fun s => true, assoc [(7, .bool false), (16, .bool false)]⟩) Tryz.f191 80 [.v (.im (ptV b off)), .v (.im (.int .i64 g))] = some ([intOp .gtr .i64 g 0 = some (.bool false), intOp .lss .i64 g 0 = some (.bool false)], .one (.fl (ej1 (F1.zero, F1.zero, F1.zero)))) := by kernel_rfl
theorem tms1_calls {w0 : World} (b off : Nat) (g : Int) (p : J1) (hp : ∀ k, k < 8 → oldOf w0 b (off + k * 12) (ej1 (jt1 p (k + 1)))) (h1 : -8 ≤ g) (h2 : g ≤ 8) : Calls Tryz.prog 191 #[ptV b off, .int .i64 g] w0 (fun e w' => e = .returned (.agg (flat (ej1 (tms1 p g))).toArray) ∧ Below w0.heap.size w0 w') := by
  have hT : ∀ n d : Nat, TabOkW Tryz.prog (T_dig true) w0.heap.size w0 := fun _ _ => (ok_dig true).w _ _
  have ha : CAs w0 [.v (.im (ptV b off)), .v (.im (.int .i64 g))] [ptV b off, .int .i64 g] := ⟨rfl, rfl, trivial⟩
  match g, h1, h2, ha with
  | .ofNat 0, _, _, ha => exact funB_soundW hmix hT (xt_ok (x := tmX1 (oldOf w0) 0 0 (F1.zero, F1.zero, F1.zero)) rfl rfl) Tryz.func191 (run_tm1_z (oldOf w0) b off 0 _ 0 (F1.zero, F1.zero, F1.zero)) ⟨rfl, rfl, trivial⟩ ha
  | .ofNat (k + 1), _, h2, ha =>
    have hk : k < 8 := by have h2' : ((k + 1 : Nat) : Int) ≤ 8 := h2; omega
    exact funB_soundW hmix hT (xt_ok (x := tmX1 (oldOf w0) k 0 (jt1 p (k + 1))) rfl rfl) Tryz.func191 (run_tm1_p (oldOf w0) b off k _ 0 (jt1 p (k + 1))) ⟨by rw [show (0 : Int) = Int.ofNat 0 from rfl, o_gtr, decide_eq_true (by omega)], o_sub (k := 1) (by omega) (by omega), rfl, hk, hp k hk, rfl, trivial⟩ ha
  | .negSucc k, h1, _, ha =>
    have hk : k < 8 := by have h1' : -8 ≤ -((k : Int) + 1) := h1; omega
    refine funB_soundW hmix hT (xt_ok (x := tmX1 (oldOf w0) k (Int.ofNat (k + 1)) (jt1 p (k + 1))) rfl rfl) Tryz.func191 (run_tm1_n (oldOf w0) b off k _ (Int.ofNat (k + 1)) (jt1 p (k + 1))) ⟨?_, ?_, ?_, o_sub (k := 1) (by omega) (by omega), rfl, hk, hp k hk, rfl, trivial⟩ ha
    · show some (Value.bool (decide (Int.negSucc k > 0))) = _
      rw [decide_eq_false (by omega)]
    · show some (Value.bool (decide (Int.negSucc k < 0))) = _
      rw [decide_eq_true (by omega)]
    · intro W
      have e : IntKind.i64.wrap (0 - Int.negSucc k) = Int.ofNat (k + 1) := by rw [IntKind.wrap_i64]; show _ = ((k + 1 : Nat) : Int); omega
      show (Op.intArith .sub .i64 0 (Int.negSucc k)).run Tryz.prog W = _
      simp only [Op.intArith, Sem.run_pure, e]
/-- the table of point number i among tables at bT -/
noncomputable def gTms1 (bT i : Nat) (p : J1) : Ent
  | [.v (.im (.pointer (some ⟨b', off, .none⟩))), .v (.im (.int .i64 g))] => some ([b' = bT, off = i * 96, -8 ≤ g, g ≤ 8], .one (.fl (ej1 (tms1 p g))))
  | _ => none
theorem gTms1_ok {w : World} {bT i : Nat} {p : J1} (hp : ∀ k, k < 8 → oldOf w bT (i * 96 + k * 12) (ej1 (jt1 p (k + 1)))) : ∀ cs pre r, gTms1 bT i p cs = some (pre, r) → allP pre → ∀ (args : List Value), CAs w cs args → Good Tryz.prog 191 r args w := by
  intro cs pre r hg hq args ha
  unfold gTms1 at hg
  split at hg
  · rename_i b' off g
    cases hg
    obtain ⟨rfl, rfl, h1, h2, _⟩ := hq
    match args, ha with
    | [u, v], ha =>
      have e1 : u = ptV b' (i * 96) := ha.1
      have e2 : v = .int .i64 g := ha.2.1
      subst e1; subst e2
      exact tms1_calls b' _ g p hp h1 h2
    | [], ha => exact ha.elim
    | [_], ha => exact ha.2.elim
    | _ :: _ :: _ :: _, ha => exact ha.2.2.elim
  · cases hg
/-- the sum at a place, of so many points -/
noncomputable def cs1 (pt : Nat → J1) (x : Nat → Nat) (p : Nat) : Nat → J1
  | 0 => (F1.zero, F1.zero, F1.zero)
  | i + 1 => jplus F1 (cs1 pt x p i) (tms1 (pt i) (digI (x i) p))
def clX1 (old : Nat → Nat → List At → Prop) (bT N b o n m i : Nat) : Ext := { xt0 old with idx := assoc [(15, i)], ld := assoc [(16, digS b o n m)], gen := assoc [(7, slV bT 0 N N), (13, slV bT 0 N N)] }
def clF1 (pl bt bd N i : Nat) (c : J1) : List Fact := [.slot 0 (.im (iI pl)), .slot 1 (.im (ptV bt 0)), .slot 2 (.im (ptV bd 0)), .slot 4 (.pt 4 0), .row 4 true (ej1 (F1.zero, F1.zero, F1.zero)), .slot 5 (.pt 5 0), .row 5 true (ej1 c), .slot 8 (.im (iI N)), .slot 9 (.im (iI i))]
noncomputable def clT1 (bT b o n m : Nat) (x : Nat → Nat) (i : Nat) (p : J1) : Tab := ((T_dig true).add 192 (gAt b o n m x)).add 191 (gTms1 bT i p)
noncomputable def clCode1 : Code := (Tryz.f190.body).getD .skip
noncomputable def clLoop1 : Code := cIn (cIn (cB (cA (cB (cB clCode1)))))
theorem cl1_code : clCode1 = .seq (cA clCode1) (.seq (cA (cB clCode1)) (.seq (.seq (cA (cA (cB (cB clCode1)))) (.block 0 (.loop clLoop1))) (cB (cB (cB clCode1))))) := by kernel_rfl
def clA1 (pl bt bd : Nat) : List Fact := [.slot 0 (.im (iI pl)), .slot 1 (.im (ptV bt 0)), .slot 2 (.im (ptV bd 0)), .slot 4 (.pt 4 0), .row 4 true (ej1 (F1.zero, F1.zero, F1.zero))]
def clB1 (pl bt bd : Nat) : List Fact := [.slot 0 (.im (iI pl)), .slot 1 (.im (ptV bt 0)), .slot 2 (.im (ptV bd 0)), .slot 4 (.pt 4 0), .row 4 true (ej1 (F1.zero, F1.zero, F1.zero)), .slot 5 (.pt 5 0), .row 5 true (ej1 (F1.zero, F1.zero, F1.zero))]
set_option maxRecDepth 100000 in
theorem cl1_s0 (pl bt bd : Nat) : runK Tryz.prog (qG Tryz.prog) Tryz.f190.ntmps (plC fun _ => none) 40 (cA clCode1) (argF 0 [.v (.im (iI pl)), .v (.im (ptV bt 0)), .v (.im (ptV bd 0))]) (clA1 pl bt bd) = some ([], .nrm, clA1 pl bt bd) := by kernel_rfl
set_option maxRecDepth 100000 in
theorem cl1_s1 (pl bt bd : Nat) : runK Tryz.prog (qG Tryz.prog) Tryz.f190.ntmps (plC fun _ => none) 40 (cA (cB clCode1)) (clA1 pl bt bd) (clB1 pl bt bd) = some ([], .nrm, clB1 pl bt bd) := by kernel_rfl
set_option maxRecDepth 100000 in
theorem cl1_s2 (old : Nat → Nat → List At → Prop) (pl bt bd bT N b o n m : Nat) : runK Tryz.prog (qX Tryz.prog (clX1 old bT N b o n m 0)) Tryz.f190.ntmps (plC fun _ => none) 40 (cA (cA (cB (cB clCode1)))) (clB1 pl bt bd) (clF1 pl bt bd N 0 (F1.zero, F1.zero, F1.zero)) = some ([old bt 0 [.c (slV bT 0 N N)]], .nrm, clF1 pl bt bd N 0 (F1.zero, F1.zero, F1.zero)) := by kernel_rfl
set_option maxRecDepth 100000 in
theorem cl1_rd (old : Nat → Nat → List At → Prop) (pl bt bd bT N b o n m i : Nat) (x : Nat → Nat) (p c : J1) : runK Tryz.prog (qX Tryz.prog (clX1 old bT N b o n m i)) Tryz.f190.ntmps (fun _ => ⟨fun _ => clT1 bT b o n m x i p, fun _ => true, assoc [(10, .bool true), (22, iI (i + 1))]⟩) 40 clLoop1 (clF1 pl bt bd N i c) (clF1 pl bt bd N (i + 1) (jplus F1 c (tms1 p (digI (x i) pl)))) = some ([intOp .lss .i64 (Int.ofNat i) (Int.ofNat N) = some (.bool true), old bt 0 [.c (slV bT 0 N N)], Int.ofNat i = Int.ofNat i, i < N, old bd 0 (digS b o n m), fsz (digS b o n m) = 2, b = b, o = o, n = n, m = m, i < n, pl < 1152921504606846976, bT = bT, 0 + i * 96 = i * 96, -8 ≤ digI (x i) pl, digI (x i) pl ≤ 8, intOp .add .i64 (Int.ofNat i) 1 = some (iI (i + 1))], .nrm, clF1 pl bt bd N (i + 1) (jplus F1 c (tms1 p (digI (x i) pl)))) := by kernel_rfl
set_option maxRecDepth 100000 in
theorem cl1_end (pl bt bd N i : Nat) (c : J1) : runK Tryz.prog (qG Tryz.prog) Tryz.f190.ntmps (plC (assoc [(10, .bool false)])) 40 clLoop1 (clF1 pl bt bd N i c) (clF1 pl bt bd N i c) = some ([intOp .lss .i64 (Int.ofNat i) (Int.ofNat N) = some (.bool false)], .ex 0, clF1 pl bt bd N i c) := by kernel_rfl
set_option maxRecDepth 100000 in
theorem cl1_last (pl bt bd N i : Nat) (c : J1) : runK Tryz.prog (qG Tryz.prog) Tryz.f190.ntmps (plC fun _ => none) 40 (cB (cB (cB clCode1))) (clF1 pl bt bd N i c) [.slot 4 (.pt 4 0), .row 4 true (ej1 c)] = some ([], .rt, [.slot 4 (.pt 4 0), .row 4 true (ej1 c)]) := by kernel_rfl
theorem digI_le (x p : Nat) : -8 ≤ digI x p ∧ digI x p ≤ 8 := by
  have := dwin_lt x p
  unfold digI
  split <;> omega
/-- what the closure finds in memory -/
structure ClMem1 (w : World) (bt bd bT N b o n m : Nat) (x : Nat → Nat) (pt : Nat → J1) : Prop where
  t : oldOf w bt 0 [.c (slV bT 0 N N)]
  d : oldOf w bd 0 (digS b o n m)
  x : ∀ i, i < n → oldOf w b (o + i * 4) [.q (x i)]
  p : ∀ i, i < N → ∀ k, k < 8 → oldOf w bT (i * 96 + k * 12) (ej1 (jt1 (pt i) (k + 1)))
theorem oldOf.on {base : Nat} {w w' : World} (hb : Below w.heap.size w w') {b o : Nat} {l : List At} (h : oldOf w b o l) : oldOf w' b o l := ⟨Nat.lt_of_lt_of_le h.1 hb.size, below_range hb h.1 h.2⟩
theorem ClMem1.on {w w' : World} (hb : Below w.heap.size w w') {bt bd bT N b o n m : Nat} {x : Nat → Nat} {pt : Nat → J1} (h : ClMem1 w bt bd bT N b o n m x pt) : ClMem1 w' bt bd bT N b o n m x pt :=
  ⟨h.t.on hb (base := 0), h.d.on hb (base := 0), fun i hi => (h.x i hi).on hb (base := 0), fun i hi k hk => (h.p i hi k hk).on hb (base := 0)⟩
theorem cl1_calls {w0 : World} {bt bd bT N b o n m : Nat} {x : Nat → Nat} {pt : Nat → J1} (h : ClMem1 w0 bt bd bT N b o n m x pt) (hN : N ≤ n) (hn : n < 4611686018427387904) {pl : Nat} (hpl : pl < 1152921504606846976) : Calls Tryz.prog 190 #[iI pl, ptV bt 0, ptV bd 0] w0 (fun e w' => e = .returned (.agg (flat (ej1 (cs1 pt x pl N))).toArray) ∧ Below w0.heap.size w0 w') := by
  have hG : EqOkW Tryz.prog (qG Tryz.prog) w0.heap.size w0 := (qG_ok _).w _ _
  have hT : ∀ n d : Nat, TabOkW Tryz.prog (T_dig true) w0.heap.size w0 := fun _ _ => (ok_dig true).w _ _
  refine fn_enter Tryz.func190 (c := clCode1) rfl (args := [iI pl, ptV bt 0, ptV bd 0]) (cs := [.v (.im (iI pl)), .v (.im (ptV bt 0)), .v (.im (ptV bd 0))]) ⟨rfl, rfl, rfl, trivial⟩ (Nat.le_of_ble_eq_true (by kernel_rfl)) fun a w' hA => ?_
  rw [cl1_code]
  refine wp_seq (runKW_sound hmix hT hG (cl1_s0 pl bt bd) trivial hA fun a w' hA => ?_)
  refine wp_seq (runKW_sound hmix hT hG (cl1_s1 pl bt bd) trivial hA fun a w' hA => ?_)
  refine wp_seq (wp_seq (runKW_sound hmix hT (xt_ok (x := clX1 (oldOf w0) bT N b o n m 0) rfl rfl) (cl1_s2 (oldOf w0) pl bt bd bT N b o n m) ⟨h.t, trivial⟩ hA fun a w' hA => ?_))
  refine wp_block ?_
  refine loop_r hmix (fun i => clF1 pl bt bd N i (cs1 pt x pl i)) N (fun i hi => ?_) (.ex 0) (by simp) (clF1 pl bt bd N N (cs1 pt x pl N)) ?_ hA fun a w' hA => ?_
  · refine ⟨_, _, _, _, xt_ok (x := clX1 (oldOf w0) bT N b o n m i) rfl rfl, fun _ _ => ?_, cl1_rd (oldOf w0) pl bt bd bT N b o n m i x (pt i) (cs1 pt x pl i), o_lss_t hi, h.t, rfl, hi, h.d, rfl, rfl, rfl, rfl, rfl, by omega, hpl, rfl, by omega, (digI_le _ _).1, (digI_le _ _).2, o_add (k := 1) (by omega), trivial⟩
    refine TabOkW.add (TabOkW.add ((ok_dig true).w _ _) Tryz.func192 (by kernel_rfl) (by kernel_rfl) fun w hw => ?_) Tryz.func191 (by kernel_rfl) (by kernel_rfl) fun w hw => ?_
    · exact gAt_ok fun j hj => (h.x j hj).on hw (base := 0)
    · exact gTms1_ok fun k hk => (h.p i hi k hk).on hw (base := 0)
  · exact ⟨_, _, _, _, hG, hT, cl1_end pl bt bd N N _, o_lss_f (Nat.le_refl _), trivial⟩
  · show (cB (cB (cB clCode1))).wp _ _ _ _
    exact runKW_sound hmix hT hG (cl1_last pl bt bd N N _) trivial hA fun a w' hA => fn_leave (l := [.fl (ej1 (cs1 pt x pl N))]) (r := .one (.fl (ej1 (cs1 pt x pl N)))) (by kernel_rfl) (by kernel_rfl) hA
/-- the sum over the places, the highest first -/
noncomputable def ov1 (D : Nat → J1) (PL : Nat) : Nat → J1
  | 0 => (F1.zero, F1.zero, F1.zero)
  | i + 1 => jplus F1 (jdbl F1 (jdbl F1 (jdbl F1 (jdbl F1 (ov1 D PL i))))) (D (PL - 1 - i))
def clV1 (bt bd : Nat) : Value := .func (.func 190) #[] #[ptV bt 0, ptV bd 0]
def ovF1 (bt bd b o n m PL i : Nat) (c : J1) : List Fact := [.slot 1 (.im (clV1 bt bd)), .slot 2 (.pt 2 0), .row 2 true (digS b o n m), .slot 4 (.pt 4 0), .row 4 true (ej1 (F1.zero, F1.zero, F1.zero)), .slot 5 (.pt 5 0), .row 5 true (ej1 c), .slot 6 (.im (iI PL)), .slot 10 (.im (iI PL)), .slot 11 (.im (iI i))]
noncomputable def gCl1 (bt bd : Nat) (D : Nat → J1) : Ent
  | [.v (.im (.int .i64 (.ofNat p))), .v (.im (.pointer (some ⟨b1, 0, .none⟩))), .v (.im (.pointer (some ⟨b2, 0, .none⟩)))] => some ([b1 = bt, b2 = bd, p < 1152921504606846976], .one (.fl (ej1 (D p))))
  | _ => none
noncomputable def gPl (b o n m PL : Nat) : Ent
  | [.v (.fl [.c (.slice (some ⟨b', o', .none⟩) n' m'), .c (.int .i64 (.ofNat 4))])] => some ([b' = b, o' = o, n' = n, m' = m], .one (.im (iI PL)))
  | _ => none
noncomputable def ovT1 (bt bd b o n m PL : Nat) (D : Nat → J1) : Tab := ((T_dig true).add 227 (gPl b o n m PL)).add 190 (gCl1 bt bd D)
noncomputable def ovCode1 : Code := (Tryz.f189.body).getD .skip
noncomputable def ovLoop1 : Code := cIn (cIn (cB (cA (cB (cB (cB ovCode1))))))
theorem ov1_code : ovCode1 = .seq (cA ovCode1) (.seq (cA (cB ovCode1)) (.seq (cA (cB (cB ovCode1))) (.seq (.seq (cA (cA (cB (cB (cB ovCode1))))) (.block 0 (.loop ovLoop1))) (cB (cB (cB (cB ovCode1))))))) := by kernel_rfl
noncomputable def ovC1 (bt bd b o n m PL : Nat) (D : Nat → J1) (num : Nat → Option Value) (_ : Nat) : Cfg := ⟨fun _ => ovT1 bt bd b o n m PL D, fun _ => true, num⟩
def ovA1 (bt bd b o n m : Nat) : List Fact := [.slot 1 (.im (clV1 bt bd)), .slot 2 (.pt 2 0), .row 2 true (digS b o n m), .slot 4 (.pt 4 0), .row 4 true (ej1 (F1.zero, F1.zero, F1.zero))]
def ovB1 (bt bd b o n m : Nat) : List Fact := [.slot 1 (.im (clV1 bt bd)), .slot 2 (.pt 2 0), .row 2 true (digS b o n m), .slot 4 (.pt 4 0), .row 4 true (ej1 (F1.zero, F1.zero, F1.zero)), .slot 5 (.pt 5 0), .row 5 true (ej1 (F1.zero, F1.zero, F1.zero))]
def ovB21 (bt bd b o n m PL : Nat) : List Fact := [.slot 1 (.im (clV1 bt bd)), .slot 2 (.pt 2 0), .row 2 true (digS b o n m), .slot 4 (.pt 4 0), .row 4 true (ej1 (F1.zero, F1.zero, F1.zero)), .slot 5 (.pt 5 0), .row 5 true (ej1 (F1.zero, F1.zero, F1.zero)), .slot 6 (.im (iI PL))]
set_option maxRecDepth 100000 in
theorem ov1_s0 (bt bd b o n m PL : Nat) (D : Nat → J1) : runK Tryz.prog (qG Tryz.prog) Tryz.f189.ntmps (ovC1 bt bd b o n m PL D fun _ => none) 40 (cA ovCode1) (argF 0 [.v (.fl (digS b o n m)), .v (.im (clV1 bt bd))]) (ovA1 bt bd b o n m) = some ([], .nrm, ovA1 bt bd b o n m) := by kernel_rfl
set_option maxRecDepth 100000 in
theorem ov1_s1 (bt bd b o n m PL : Nat) (D : Nat → J1) : runK Tryz.prog (qG Tryz.prog) Tryz.f189.ntmps (ovC1 bt bd b o n m PL D fun _ => none) 40 (cA (cB ovCode1)) (ovA1 bt bd b o n m) (ovB1 bt bd b o n m) = some ([], .nrm, ovB1 bt bd b o n m) := by kernel_rfl
set_option maxRecDepth 100000 in
theorem ov1_s2 (bt bd b o n m PL : Nat) (D : Nat → J1) : runK Tryz.prog (qG Tryz.prog) Tryz.f189.ntmps (ovC1 bt bd b o n m PL D fun _ => none) 40 (cA (cB (cB ovCode1))) (ovB1 bt bd b o n m) (ovB21 bt bd b o n m PL) = some ([b = b, o = o, n = n, m = m], .nrm, ovB21 bt bd b o n m PL) := by kernel_rfl
set_option maxRecDepth 100000 in
theorem ov1_s3 (bt bd b o n m PL : Nat) (D : Nat → J1) : runK Tryz.prog (qG Tryz.prog) Tryz.f189.ntmps (ovC1 bt bd b o n m PL D fun _ => none) 40 (cA (cA (cB (cB (cB ovCode1))))) (ovB21 bt bd b o n m PL) (ovF1 bt bd b o n m PL 0 (F1.zero, F1.zero, F1.zero)) = some ([], .nrm, ovF1 bt bd b o n m PL 0 (F1.zero, F1.zero, F1.zero)) := by kernel_rfl
set_option maxRecDepth 100000 in
theorem ov1_rd (bt bd b o n m PL i : Nat) (D : Nat → J1) (c : J1) : runK Tryz.prog (qG Tryz.prog) Tryz.f189.ntmps (ovC1 bt bd b o n m PL D (assoc [(12, .bool true), (24, iI (PL - 1)), (26, iI (PL - 1 - i)), (29, iI (i + 1))])) 60 ovLoop1 (ovF1 bt bd b o n m PL i c) (ovF1 bt bd b o n m PL (i + 1) (jplus F1 (jdbl F1 (jdbl F1 (jdbl F1 (jdbl F1 c)))) (D (PL - 1 - i)))) = some ([intOp .lss .i64 (Int.ofNat i) (Int.ofNat PL) = some (.bool true), intOp .sub .i64 (Int.ofNat PL) 1 = some (iI (PL - 1)), intOp .sub .i64 (Int.ofNat (PL - 1)) (Int.ofNat i) = some (iI (PL - 1 - i)), bt = bt, bd = bd, PL - 1 - i < 1152921504606846976, intOp .add .i64 (Int.ofNat i) 1 = some (iI (i + 1))], .nrm, ovF1 bt bd b o n m PL (i + 1) (jplus F1 (jdbl F1 (jdbl F1 (jdbl F1 (jdbl F1 c)))) (D (PL - 1 - i)))) := by kernel_rfl
set_option maxRecDepth 100000 in
theorem ov1_end (bt bd b o n m PL i : Nat) (D : Nat → J1) (c : J1) : runK Tryz.prog (qG Tryz.prog) Tryz.f189.ntmps (ovC1 bt bd b o n m PL D (assoc [(12, .bool false)])) 40 ovLoop1 (ovF1 bt bd b o n m PL i c) (ovF1 bt bd b o n m PL i c) = some ([intOp .lss .i64 (Int.ofNat i) (Int.ofNat PL) = some (.bool false)], .ex 0, ovF1 bt bd b o n m PL i c) := by kernel_rfl
set_option maxRecDepth 100000 in
theorem ov1_last (bt bd b o n m PL i : Nat) (D : Nat → J1) (c : J1) : runK Tryz.prog (qG Tryz.prog) Tryz.f189.ntmps (ovC1 bt bd b o n m PL D fun _ => none) 40 (cB (cB (cB (cB ovCode1)))) (ovF1 bt bd b o n m PL i c) [.slot 4 (.pt 4 0), .row 4 true (ej1 c)] = some ([], .rt, [.slot 4 (.pt 4 0), .row 4 true (ej1 c)]) := by kernel_rfl
theorem ov1_calls {w0 : World} {bt bd bT N b o n m : Nat} {x : Nat → Nat} {pt : Nat → J1} (h : ClMem1 w0 bt bd bT N b o n m x pt) (hN : N ≤ n) (hn : n < 4611686018427387904) : Calls Tryz.prog 189 #[.agg (flat (digS b o n m)).toArray, clV1 bt bd] w0 (fun e w' => e = .returned (.agg (flat (ej1 (ov1 (fun p => cs1 pt x p N) (mxL x n / 4 + 1) (mxL x n / 4 + 1)))).toArray) ∧ Below w0.heap.size w0 w') := by
  have hG : EqOkW Tryz.prog (qG Tryz.prog) w0.heap.size w0 := (qG_ok _).w _ _
  have hL := mxL_le x n
  generalize hPL : mxL x n / 4 + 1 = PL
  have hPL' : PL < 1000 := by omega
  have hT : ∀ num, ∀ n' d : Nat, TabOkW Tryz.prog ((ovC1 bt bd b o n m PL (fun p => cs1 pt x p N) num n').T d) w0.heap.size w0 := fun num _ _ => by
    refine TabOkW.add (TabOkW.add ((ok_dig true).w _ _) Tryz.func227 (by kernel_rfl) (by kernel_rfl) fun w hw cs pre r hg hq args ha => ?_) Tryz.func190 (by kernel_rfl) (by kernel_rfl) fun w hw cs pre r hg hq args ha => ?_
    · unfold gPl at hg
      split at hg
      · cases hg
        obtain ⟨rfl, rfl, rfl, rfl, _⟩ := hq
        rw [args1 ha, ← hPL]
        exact places_calls _ _ _ _ x (fun j hj => (h.x j hj).on hw (base := 0)) hn
      · cases hg
    · unfold gCl1 at hg
      split at hg
      · rename_i p b1 b2
        cases hg
        obtain ⟨rfl, rfl, hp, _⟩ := hq
        match args, ha with
        | [u, v, t], ha =>
          have e1 : u = iI p := ha.1
          have e2 : v = ptV b1 0 := ha.2.1
          have e3 : t = ptV b2 0 := ha.2.2.1
          subst e1; subst e2; subst e3
          exact cl1_calls (h.on hw) hN hn hp
        | [], ha => exact ha.elim
        | [_], ha => exact ha.2.elim
        | [_, _], ha => exact ha.2.2.elim
        | _ :: _ :: _ :: _ :: _, ha => exact ha.2.2.2.elim
      · cases hg
  refine fn_enter Tryz.func189 (c := ovCode1) rfl (args := [.agg (flat (digS b o n m)).toArray, clV1 bt bd]) (cs := [.v (.fl (digS b o n m)), .v (.im (clV1 bt bd))]) ⟨rfl, rfl, trivial⟩ (Nat.le_of_ble_eq_true (by kernel_rfl)) fun a w' hA => ?_
  rw [ov1_code]
  refine wp_seq (runKW_sound hmix (hT _) hG (ov1_s0 bt bd b o n m PL _) trivial hA fun a w' hA => ?_)
  refine wp_seq (runKW_sound hmix (hT _) hG (ov1_s1 bt bd b o n m PL _) trivial hA fun a w' hA => ?_)
  refine wp_seq (runKW_sound hmix (hT _) hG (ov1_s2 bt bd b o n m PL _) ⟨rfl, rfl, rfl, rfl, trivial⟩ hA fun a w' hA => ?_)
  refine wp_seq (wp_seq (runKW_sound hmix (hT _) hG (ov1_s3 bt bd b o n m PL _) trivial hA fun a w' hA => ?_))
  refine wp_block ?_
  refine loop_r hmix (fun i => ovF1 bt bd b o n m PL i (ov1 (fun p => cs1 pt x p N) PL i)) PL (fun i hi => ?_) (.ex 0) (by simp) (ovF1 bt bd b o n m PL PL (ov1 (fun p => cs1 pt x p N) PL PL)) ?_ hA fun a w' hA => ?_
  · exact ⟨_, _, _, _, hG, hT _, ov1_rd bt bd b o n m PL i _ (ov1 (fun p => cs1 pt x p N) PL i), o_lss_t hi, o_sub (k := 1) (by omega) (by omega), o_sub (by omega) (by omega), rfl, rfl, by omega, o_add (k := 1) (by omega), trivial⟩
  · exact ⟨_, _, _, _, hG, hT _, ov1_end bt bd b o n m PL PL _ _, o_lss_f (Nat.le_refl _), trivial⟩
  · show (cB (cB (cB (cB ovCode1)))).wp _ _ _ _
    exact runKW_sound hmix (hT _) hG (ov1_last bt bd b o n m PL PL _ _) trivial hA fun a w' hA => fn_leave (l := [.fl (ej1 (ov1 (fun p => cs1 pt x p N) PL PL))]) (r := .one (.fl (ej1 (ov1 (fun p => cs1 pt x p N) PL PL)))) (by kernel_rfl) (by kernel_rfl) hA
/-- a point's multiples by 0 and on -/
noncomputable def jt2 (p : J2) : Nat → J2
  | 0 => (F2.zero, F2.zero, F2.zero)
  | k + 1 => jplus F2 (jt2 p k) p
noncomputable def tms2 (p : J2) : Int → J2
  | .ofNat 0 => (F2.zero, F2.zero, F2.zero)
  | .ofNat (k + 1) => jt2 p (k + 1)
  | .negSucc k => jneg F2 (jt2 p (k + 1))
def tmX2 (old : Nat → Nat → List At → Prop) (k : Nat) (h : Int) (q : J2) : Ext := { xt0 old with idx := assoc [(12, k), (22, k)], ld := assoc [(13, ej2 q), (23, ej2 q)], gen := assoc [(19, .int .i64 h)] }
set_option maxRecDepth 100000 in
theorem run_tm2_p (old : Nat → Nat → List At → Prop) (b off k : Nat) (g h : Int) (q : J2) : funB Tryz.prog (qX Tryz.prog (tmX2 old k h q)) (fun _ => ⟨fun s => T_dig true, fun s => true, assoc [(7, .bool true), (10, iI k)]⟩) Tryz.f205 80 [.v (.im (ptV b off)), .v (.im (.int .i64 g))] = some ([intOp .gtr .i64 g 0 = some (.bool true), intOp .sub .i64 g 1 = some (iI k), Int.ofNat k = Int.ofNat k, k < 8, old b (off + k * 24) (ej2 q), fsz (ej2 q) = 24], .one (.fl (ej2 q))) := by kernel_rfl
set_option maxRecDepth 100000 in
theorem run_tm2_n (old : Nat → Nat → List At → Prop) (b off k : Nat) (g h : Int) (q : J2) : funB Tryz.prog (qX Tryz.prog (tmX2 old k h q)) (fun _ => ⟨fun s => T_dig true, fun s => true, assoc [(7, .bool false), (16, .bool true), (20, iI k)]⟩) Tryz.f205 80 [.v (.im (ptV b off)), .v (.im (.int .i64 g))] = some ([intOp .gtr .i64 g 0 = some (.bool false), intOp .lss .i64 g 0 = some (.bool true), (∀ W : World, (Op.unary .neg (.int .i64 g)).run Tryz.prog W = .ok (.int .i64 h) W), intOp .sub .i64 h 1 = some (iI k), Int.ofNat k = Int.ofNat k, k < 8, old b (off + k * 24) (ej2 q), fsz (ej2 q) = 24], .one (.fl (ej2 (jneg F2 q)))) := by kernel_rfl
set_option maxRecDepth 100000 in
theorem run_tm2_z (old : Nat → Nat → List At → Prop) (b off k : Nat) (g h : Int) (q : J2) : funB Tryz.prog (qX Tryz.prog (tmX2 old k h q)) (fun _ => ⟨fun s => T_dig true, fun s => true, assoc [(7, .bool false), (16, .bool false)]⟩) Tryz.f205 80 [.v (.im (ptV b off)), .v (.im (.int .i64 g))] = some ([intOp .gtr .i64 g 0 = some (.bool false), intOp .lss .i64 g 0 = some (.bool false)], .one (.fl (ej2 (F2.zero, F2.zero, F2.zero)))) := by kernel_rfl
theorem tms2_calls {w0 : World} (b off : Nat) (g : Int) (p : J2) (hp : ∀ k, k < 8 → oldOf w0 b (off + k * 24) (ej2 (jt2 p (k + 1)))) (h1 : -8 ≤ g) (h2 : g ≤ 8) : Calls Tryz.prog 205 #[ptV b off, .int .i64 g] w0 (fun e w' => e = .returned (.agg (flat (ej2 (tms2 p g))).toArray) ∧ Below w0.heap.size w0 w') := by
  have hT : ∀ n d : Nat, TabOkW Tryz.prog (T_dig true) w0.heap.size w0 := fun _ _ => (ok_dig true).w _ _
  have ha : CAs w0 [.v (.im (ptV b off)), .v (.im (.int .i64 g))] [ptV b off, .int .i64 g] := ⟨rfl, rfl, trivial⟩
  match g, h1, h2, ha with
  | .ofNat 0, _, _, ha => exact funB_soundW hmix hT (xt_ok (x := tmX2 (oldOf w0) 0 0 (F2.zero, F2.zero, F2.zero)) rfl rfl) Tryz.func205 (run_tm2_z (oldOf w0) b off 0 _ 0 (F2.zero, F2.zero, F2.zero)) ⟨rfl, rfl, trivial⟩ ha
  | .ofNat (k + 1), _, h2, ha =>
    have hk : k < 8 := by have h2' : ((k + 1 : Nat) : Int) ≤ 8 := h2; omega
    exact funB_soundW hmix hT (xt_ok (x := tmX2 (oldOf w0) k 0 (jt2 p (k + 1))) rfl rfl) Tryz.func205 (run_tm2_p (oldOf w0) b off k _ 0 (jt2 p (k + 1))) ⟨by rw [show (0 : Int) = Int.ofNat 0 from rfl, o_gtr, decide_eq_true (by omega)], o_sub (k := 1) (by omega) (by omega), rfl, hk, hp k hk, rfl, trivial⟩ ha
  | .negSucc k, h1, _, ha =>
    have hk : k < 8 := by have h1' : -8 ≤ -((k : Int) + 1) := h1; omega
    refine funB_soundW hmix hT (xt_ok (x := tmX2 (oldOf w0) k (Int.ofNat (k + 1)) (jt2 p (k + 1))) rfl rfl) Tryz.func205 (run_tm2_n (oldOf w0) b off k _ (Int.ofNat (k + 1)) (jt2 p (k + 1))) ⟨?_, ?_, ?_, o_sub (k := 1) (by omega) (by omega), rfl, hk, hp k hk, rfl, trivial⟩ ha
    · show some (Value.bool (decide (Int.negSucc k > 0))) = _
      rw [decide_eq_false (by omega)]
    · show some (Value.bool (decide (Int.negSucc k < 0))) = _
      rw [decide_eq_true (by omega)]
    · intro W
      have e : IntKind.i64.wrap (0 - Int.negSucc k) = Int.ofNat (k + 1) := by rw [IntKind.wrap_i64]; show _ = ((k + 1 : Nat) : Int); omega
      show (Op.intArith .sub .i64 0 (Int.negSucc k)).run Tryz.prog W = _
      simp only [Op.intArith, Sem.run_pure, e]
/-- the table of point number i among tables at bT -/
noncomputable def gTms2 (bT i : Nat) (p : J2) : Ent
  | [.v (.im (.pointer (some ⟨b', off, .none⟩))), .v (.im (.int .i64 g))] => some ([b' = bT, off = i * 192, -8 ≤ g, g ≤ 8], .one (.fl (ej2 (tms2 p g))))
  | _ => none
theorem gTms2_ok {w : World} {bT i : Nat} {p : J2} (hp : ∀ k, k < 8 → oldOf w bT (i * 192 + k * 24) (ej2 (jt2 p (k + 1)))) : ∀ cs pre r, gTms2 bT i p cs = some (pre, r) → allP pre → ∀ (args : List Value), CAs w cs args → Good Tryz.prog 205 r args w := by
  intro cs pre r hg hq args ha
  unfold gTms2 at hg
  split at hg
  · rename_i b' off g
    cases hg
    obtain ⟨rfl, rfl, h1, h2, _⟩ := hq
    match args, ha with
    | [u, v], ha =>
      have e1 : u = ptV b' (i * 192) := ha.1
      have e2 : v = .int .i64 g := ha.2.1
      subst e1; subst e2
      exact tms2_calls b' _ g p hp h1 h2
    | [], ha => exact ha.elim
    | [_], ha => exact ha.2.elim
    | _ :: _ :: _ :: _, ha => exact ha.2.2.elim
  · cases hg
/-- the sum at a place, of so many points -/
noncomputable def cs2 (pt : Nat → J2) (x : Nat → Nat) (p : Nat) : Nat → J2
  | 0 => (F2.zero, F2.zero, F2.zero)
  | i + 1 => jplus F2 (cs2 pt x p i) (tms2 (pt i) (digI (x i) p))
def clX2 (old : Nat → Nat → List At → Prop) (bT N b o n m i : Nat) : Ext := { xt0 old with idx := assoc [(15, i)], ld := assoc [(16, digS b o n m)], gen := assoc [(7, slV bT 0 N N), (13, slV bT 0 N N)] }
def clF2 (pl bt bd N i : Nat) (c : J2) : List Fact := [.slot 0 (.im (iI pl)), .slot 1 (.im (ptV bt 0)), .slot 2 (.im (ptV bd 0)), .slot 4 (.pt 4 0), .row 4 true (ej2 (F2.zero, F2.zero, F2.zero)), .slot 5 (.pt 5 0), .row 5 true (ej2 c), .slot 8 (.im (iI N)), .slot 9 (.im (iI i))]
noncomputable def clT2 (bT b o n m : Nat) (x : Nat → Nat) (i : Nat) (p : J2) : Tab := ((T_dig true).add 192 (gAt b o n m x)).add 205 (gTms2 bT i p)
noncomputable def clCode2 : Code := (Tryz.f204.body).getD .skip
noncomputable def clLoop2 : Code := cIn (cIn (cB (cA (cB (cB clCode2)))))
theorem cl2_code : clCode2 = .seq (cA clCode2) (.seq (cA (cB clCode2)) (.seq (.seq (cA (cA (cB (cB clCode2)))) (.block 0 (.loop clLoop2))) (cB (cB (cB clCode2))))) := by kernel_rfl
def clA2 (pl bt bd : Nat) : List Fact := [.slot 0 (.im (iI pl)), .slot 1 (.im (ptV bt 0)), .slot 2 (.im (ptV bd 0)), .slot 4 (.pt 4 0), .row 4 true (ej2 (F2.zero, F2.zero, F2.zero))]
def clB2 (pl bt bd : Nat) : List Fact := [.slot 0 (.im (iI pl)), .slot 1 (.im (ptV bt 0)), .slot 2 (.im (ptV bd 0)), .slot 4 (.pt 4 0), .row 4 true (ej2 (F2.zero, F2.zero, F2.zero)), .slot 5 (.pt 5 0), .row 5 true (ej2 (F2.zero, F2.zero, F2.zero))]
set_option maxRecDepth 100000 in
theorem cl2_s0 (pl bt bd : Nat) : runK Tryz.prog (qG Tryz.prog) Tryz.f204.ntmps (plC fun _ => none) 40 (cA clCode2) (argF 0 [.v (.im (iI pl)), .v (.im (ptV bt 0)), .v (.im (ptV bd 0))]) (clA2 pl bt bd) = some ([], .nrm, clA2 pl bt bd) := by kernel_rfl
set_option maxRecDepth 100000 in
theorem cl2_s1 (pl bt bd : Nat) : runK Tryz.prog (qG Tryz.prog) Tryz.f204.ntmps (plC fun _ => none) 40 (cA (cB clCode2)) (clA2 pl bt bd) (clB2 pl bt bd) = some ([], .nrm, clB2 pl bt bd) := by kernel_rfl
set_option maxRecDepth 100000 in
theorem cl2_s2 (old : Nat → Nat → List At → Prop) (pl bt bd bT N b o n m : Nat) : runK Tryz.prog (qX Tryz.prog (clX2 old bT N b o n m 0)) Tryz.f204.ntmps (plC fun _ => none) 40 (cA (cA (cB (cB clCode2)))) (clB2 pl bt bd) (clF2 pl bt bd N 0 (F2.zero, F2.zero, F2.zero)) = some ([old bt 0 [.c (slV bT 0 N N)]], .nrm, clF2 pl bt bd N 0 (F2.zero, F2.zero, F2.zero)) := by kernel_rfl
set_option maxRecDepth 100000 in
theorem cl2_rd (old : Nat → Nat → List At → Prop) (pl bt bd bT N b o n m i : Nat) (x : Nat → Nat) (p c : J2) : runK Tryz.prog (qX Tryz.prog (clX2 old bT N b o n m i)) Tryz.f204.ntmps (fun _ => ⟨fun _ => clT2 bT b o n m x i p, fun _ => true, assoc [(10, .bool true), (22, iI (i + 1))]⟩) 40 clLoop2 (clF2 pl bt bd N i c) (clF2 pl bt bd N (i + 1) (jplus F2 c (tms2 p (digI (x i) pl)))) = some ([intOp .lss .i64 (Int.ofNat i) (Int.ofNat N) = some (.bool true), old bt 0 [.c (slV bT 0 N N)], Int.ofNat i = Int.ofNat i, i < N, old bd 0 (digS b o n m), fsz (digS b o n m) = 2, b = b, o = o, n = n, m = m, i < n, pl < 1152921504606846976, bT = bT, 0 + i * 192 = i * 192, -8 ≤ digI (x i) pl, digI (x i) pl ≤ 8, intOp .add .i64 (Int.ofNat i) 1 = some (iI (i + 1))], .nrm, clF2 pl bt bd N (i + 1) (jplus F2 c (tms2 p (digI (x i) pl)))) := by kernel_rfl
set_option maxRecDepth 100000 in
theorem cl2_end (pl bt bd N i : Nat) (c : J2) : runK Tryz.prog (qG Tryz.prog) Tryz.f204.ntmps (plC (assoc [(10, .bool false)])) 40 clLoop2 (clF2 pl bt bd N i c) (clF2 pl bt bd N i c) = some ([intOp .lss .i64 (Int.ofNat i) (Int.ofNat N) = some (.bool false)], .ex 0, clF2 pl bt bd N i c) := by kernel_rfl
set_option maxRecDepth 100000 in
theorem cl2_last (pl bt bd N i : Nat) (c : J2) : runK Tryz.prog (qG Tryz.prog) Tryz.f204.ntmps (plC fun _ => none) 40 (cB (cB (cB clCode2))) (clF2 pl bt bd N i c) [.slot 4 (.pt 4 0), .row 4 true (ej2 c)] = some ([], .rt, [.slot 4 (.pt 4 0), .row 4 true (ej2 c)]) := by kernel_rfl
/-- what the closure finds in memory -/
structure ClMem2 (w : World) (bt bd bT N b o n m : Nat) (x : Nat → Nat) (pt : Nat → J2) : Prop where
  t : oldOf w bt 0 [.c (slV bT 0 N N)]
  d : oldOf w bd 0 (digS b o n m)
  x : ∀ i, i < n → oldOf w b (o + i * 4) [.q (x i)]
  p : ∀ i, i < N → ∀ k, k < 8 → oldOf w bT (i * 192 + k * 24) (ej2 (jt2 (pt i) (k + 1)))
theorem ClMem2.on {w w' : World} (hb : Below w.heap.size w w') {bt bd bT N b o n m : Nat} {x : Nat → Nat} {pt : Nat → J2} (h : ClMem2 w bt bd bT N b o n m x pt) : ClMem2 w' bt bd bT N b o n m x pt :=
  ⟨h.t.on hb (base := 0), h.d.on hb (base := 0), fun i hi => (h.x i hi).on hb (base := 0), fun i hi k hk => (h.p i hi k hk).on hb (base := 0)⟩
theorem cl2_calls {w0 : World} {bt bd bT N b o n m : Nat} {x : Nat → Nat} {pt : Nat → J2} (h : ClMem2 w0 bt bd bT N b o n m x pt) (hN : N ≤ n) (hn : n < 4611686018427387904) {pl : Nat} (hpl : pl < 1152921504606846976) : Calls Tryz.prog 204 #[iI pl, ptV bt 0, ptV bd 0] w0 (fun e w' => e = .returned (.agg (flat (ej2 (cs2 pt x pl N))).toArray) ∧ Below w0.heap.size w0 w') := by
  have hG : EqOkW Tryz.prog (qG Tryz.prog) w0.heap.size w0 := (qG_ok _).w _ _
  have hT : ∀ n d : Nat, TabOkW Tryz.prog (T_dig true) w0.heap.size w0 := fun _ _ => (ok_dig true).w _ _
  refine fn_enter Tryz.func204 (c := clCode2) rfl (args := [iI pl, ptV bt 0, ptV bd 0]) (cs := [.v (.im (iI pl)), .v (.im (ptV bt 0)), .v (.im (ptV bd 0))]) ⟨rfl, rfl, rfl, trivial⟩ (Nat.le_of_ble_eq_true (by kernel_rfl)) fun a w' hA => ?_
  rw [cl2_code]
  refine wp_seq (runKW_sound hmix hT hG (cl2_s0 pl bt bd) trivial hA fun a w' hA => ?_)
  refine wp_seq (runKW_sound hmix hT hG (cl2_s1 pl bt bd) trivial hA fun a w' hA => ?_)
  refine wp_seq (wp_seq (runKW_sound hmix hT (xt_ok (x := clX2 (oldOf w0) bT N b o n m 0) rfl rfl) (cl2_s2 (oldOf w0) pl bt bd bT N b o n m) ⟨h.t, trivial⟩ hA fun a w' hA => ?_))
  refine wp_block ?_
  refine loop_r hmix (fun i => clF2 pl bt bd N i (cs2 pt x pl i)) N (fun i hi => ?_) (.ex 0) (by simp) (clF2 pl bt bd N N (cs2 pt x pl N)) ?_ hA fun a w' hA => ?_
  · refine ⟨_, _, _, _, xt_ok (x := clX2 (oldOf w0) bT N b o n m i) rfl rfl, fun _ _ => ?_, cl2_rd (oldOf w0) pl bt bd bT N b o n m i x (pt i) (cs2 pt x pl i), o_lss_t hi, h.t, rfl, hi, h.d, rfl, rfl, rfl, rfl, rfl, by omega, hpl, rfl, by omega, (digI_le _ _).1, (digI_le _ _).2, o_add (k := 1) (by omega), trivial⟩
    refine TabOkW.add (TabOkW.add ((ok_dig true).w _ _) Tryz.func192 (by kernel_rfl) (by kernel_rfl) fun w hw => ?_) Tryz.func205 (by kernel_rfl) (by kernel_rfl) fun w hw => ?_
    · exact gAt_ok fun j hj => (h.x j hj).on hw (base := 0)
    · exact gTms2_ok fun k hk => (h.p i hi k hk).on hw (base := 0)
  · exact ⟨_, _, _, _, hG, hT, cl2_end pl bt bd N N _, o_lss_f (Nat.le_refl _), trivial⟩
  · show (cB (cB (cB clCode2))).wp _ _ _ _
    exact runKW_sound hmix hT hG (cl2_last pl bt bd N N _) trivial hA fun a w' hA => fn_leave (l := [.fl (ej2 (cs2 pt x pl N))]) (r := .one (.fl (ej2 (cs2 pt x pl N)))) (by kernel_rfl) (by kernel_rfl) hA
/-- the sum over the places, the highest first -/
noncomputable def ov2 (D : Nat → J2) (PL : Nat) : Nat → J2
  | 0 => (F2.zero, F2.zero, F2.zero)
  | i + 1 => jplus F2 (jdbl F2 (jdbl F2 (jdbl F2 (jdbl F2 (ov2 D PL i))))) (D (PL - 1 - i))
def clV2 (bt bd : Nat) : Value := .func (.func 204) #[] #[ptV bt 0, ptV bd 0]
def ovF2 (bt bd b o n m PL i : Nat) (c : J2) : List Fact := [.slot 1 (.im (clV2 bt bd)), .slot 2 (.pt 2 0), .row 2 true (digS b o n m), .slot 4 (.pt 4 0), .row 4 true (ej2 (F2.zero, F2.zero, F2.zero)), .slot 5 (.pt 5 0), .row 5 true (ej2 c), .slot 6 (.im (iI PL)), .slot 10 (.im (iI PL)), .slot 11 (.im (iI i))]
noncomputable def gCl2 (bt bd : Nat) (D : Nat → J2) : Ent
  | [.v (.im (.int .i64 (.ofNat p))), .v (.im (.pointer (some ⟨b1, 0, .none⟩))), .v (.im (.pointer (some ⟨b2, 0, .none⟩)))] => some ([b1 = bt, b2 = bd, p < 1152921504606846976], .one (.fl (ej2 (D p))))
  | _ => none
noncomputable def ovT2 (bt bd b o n m PL : Nat) (D : Nat → J2) : Tab := ((T_dig true).add 227 (gPl b o n m PL)).add 204 (gCl2 bt bd D)
noncomputable def ovCode2 : Code := (Tryz.f203.body).getD .skip
noncomputable def ovLoop2 : Code := cIn (cIn (cB (cA (cB (cB (cB ovCode2))))))
theorem ov2_code : ovCode2 = .seq (cA ovCode2) (.seq (cA (cB ovCode2)) (.seq (cA (cB (cB ovCode2))) (.seq (.seq (cA (cA (cB (cB (cB ovCode2))))) (.block 0 (.loop ovLoop2))) (cB (cB (cB (cB ovCode2))))))) := by kernel_rfl
noncomputable def ovC2 (bt bd b o n m PL : Nat) (D : Nat → J2) (num : Nat → Option Value) (_ : Nat) : Cfg := ⟨fun _ => ovT2 bt bd b o n m PL D, fun _ => true, num⟩
def ovA2 (bt bd b o n m : Nat) : List Fact := [.slot 1 (.im (clV2 bt bd)), .slot 2 (.pt 2 0), .row 2 true (digS b o n m), .slot 4 (.pt 4 0), .row 4 true (ej2 (F2.zero, F2.zero, F2.zero))]
def ovB2 (bt bd b o n m : Nat) : List Fact := [.slot 1 (.im (clV2 bt bd)), .slot 2 (.pt 2 0), .row 2 true (digS b o n m), .slot 4 (.pt 4 0), .row 4 true (ej2 (F2.zero, F2.zero, F2.zero)), .slot 5 (.pt 5 0), .row 5 true (ej2 (F2.zero, F2.zero, F2.zero))]
def ovB22 (bt bd b o n m PL : Nat) : List Fact := [.slot 1 (.im (clV2 bt bd)), .slot 2 (.pt 2 0), .row 2 true (digS b o n m), .slot 4 (.pt 4 0), .row 4 true (ej2 (F2.zero, F2.zero, F2.zero)), .slot 5 (.pt 5 0), .row 5 true (ej2 (F2.zero, F2.zero, F2.zero)), .slot 6 (.im (iI PL))]
set_option maxRecDepth 100000 in
theorem ov2_s0 (bt bd b o n m PL : Nat) (D : Nat → J2) : runK Tryz.prog (qG Tryz.prog) Tryz.f203.ntmps (ovC2 bt bd b o n m PL D fun _ => none) 40 (cA ovCode2) (argF 0 [.v (.fl (digS b o n m)), .v (.im (clV2 bt bd))]) (ovA2 bt bd b o n m) = some ([], .nrm, ovA2 bt bd b o n m) := by kernel_rfl
set_option maxRecDepth 100000 in
theorem ov2_s1 (bt bd b o n m PL : Nat) (D : Nat → J2) : runK Tryz.prog (qG Tryz.prog) Tryz.f203.ntmps (ovC2 bt bd b o n m PL D fun _ => none) 40 (cA (cB ovCode2)) (ovA2 bt bd b o n m) (ovB2 bt bd b o n m) = some ([], .nrm, ovB2 bt bd b o n m) := by kernel_rfl
set_option maxRecDepth 100000 in
theorem ov2_s2 (bt bd b o n m PL : Nat) (D : Nat → J2) : runK Tryz.prog (qG Tryz.prog) Tryz.f203.ntmps (ovC2 bt bd b o n m PL D fun _ => none) 40 (cA (cB (cB ovCode2))) (ovB2 bt bd b o n m) (ovB22 bt bd b o n m PL) = some ([b = b, o = o, n = n, m = m], .nrm, ovB22 bt bd b o n m PL) := by kernel_rfl
set_option maxRecDepth 100000 in
theorem ov2_s3 (bt bd b o n m PL : Nat) (D : Nat → J2) : runK Tryz.prog (qG Tryz.prog) Tryz.f203.ntmps (ovC2 bt bd b o n m PL D fun _ => none) 40 (cA (cA (cB (cB (cB ovCode2))))) (ovB22 bt bd b o n m PL) (ovF2 bt bd b o n m PL 0 (F2.zero, F2.zero, F2.zero)) = some ([], .nrm, ovF2 bt bd b o n m PL 0 (F2.zero, F2.zero, F2.zero)) := by kernel_rfl
set_option maxRecDepth 100000 in
theorem ov2_rd (bt bd b o n m PL i : Nat) (D : Nat → J2) (c : J2) : runK Tryz.prog (qG Tryz.prog) Tryz.f203.ntmps (ovC2 bt bd b o n m PL D (assoc [(12, .bool true), (24, iI (PL - 1)), (26, iI (PL - 1 - i)), (29, iI (i + 1))])) 60 ovLoop2 (ovF2 bt bd b o n m PL i c) (ovF2 bt bd b o n m PL (i + 1) (jplus F2 (jdbl F2 (jdbl F2 (jdbl F2 (jdbl F2 c)))) (D (PL - 1 - i)))) = some ([intOp .lss .i64 (Int.ofNat i) (Int.ofNat PL) = some (.bool true), intOp .sub .i64 (Int.ofNat PL) 1 = some (iI (PL - 1)), intOp .sub .i64 (Int.ofNat (PL - 1)) (Int.ofNat i) = some (iI (PL - 1 - i)), bt = bt, bd = bd, PL - 1 - i < 1152921504606846976, intOp .add .i64 (Int.ofNat i) 1 = some (iI (i + 1))], .nrm, ovF2 bt bd b o n m PL (i + 1) (jplus F2 (jdbl F2 (jdbl F2 (jdbl F2 (jdbl F2 c)))) (D (PL - 1 - i)))) := by kernel_rfl
set_option maxRecDepth 100000 in
theorem ov2_end (bt bd b o n m PL i : Nat) (D : Nat → J2) (c : J2) : runK Tryz.prog (qG Tryz.prog) Tryz.f203.ntmps (ovC2 bt bd b o n m PL D (assoc [(12, .bool false)])) 40 ovLoop2 (ovF2 bt bd b o n m PL i c) (ovF2 bt bd b o n m PL i c) = some ([intOp .lss .i64 (Int.ofNat i) (Int.ofNat PL) = some (.bool false)], .ex 0, ovF2 bt bd b o n m PL i c) := by kernel_rfl
set_option maxRecDepth 100000 in
theorem ov2_last (bt bd b o n m PL i : Nat) (D : Nat → J2) (c : J2) : runK Tryz.prog (qG Tryz.prog) Tryz.f203.ntmps (ovC2 bt bd b o n m PL D fun _ => none) 40 (cB (cB (cB (cB ovCode2)))) (ovF2 bt bd b o n m PL i c) [.slot 4 (.pt 4 0), .row 4 true (ej2 c)] = some ([], .rt, [.slot 4 (.pt 4 0), .row 4 true (ej2 c)]) := by kernel_rfl
theorem ov2_calls {w0 : World} {bt bd bT N b o n m : Nat} {x : Nat → Nat} {pt : Nat → J2} (h : ClMem2 w0 bt bd bT N b o n m x pt) (hN : N ≤ n) (hn : n < 4611686018427387904) : Calls Tryz.prog 203 #[.agg (flat (digS b o n m)).toArray, clV2 bt bd] w0 (fun e w' => e = .returned (.agg (flat (ej2 (ov2 (fun p => cs2 pt x p N) (mxL x n / 4 + 1) (mxL x n / 4 + 1)))).toArray) ∧ Below w0.heap.size w0 w') := by
  have hG : EqOkW Tryz.prog (qG Tryz.prog) w0.heap.size w0 := (qG_ok _).w _ _
  have hL := mxL_le x n
  generalize hPL : mxL x n / 4 + 1 = PL
  have hPL' : PL < 1000 := by omega
  have hT : ∀ num, ∀ n' d : Nat, TabOkW Tryz.prog ((ovC2 bt bd b o n m PL (fun p => cs2 pt x p N) num n').T d) w0.heap.size w0 := fun num _ _ => by
    refine TabOkW.add (TabOkW.add ((ok_dig true).w _ _) Tryz.func227 (by kernel_rfl) (by kernel_rfl) fun w hw cs pre r hg hq args ha => ?_) Tryz.func204 (by kernel_rfl) (by kernel_rfl) fun w hw cs pre r hg hq args ha => ?_
    · unfold gPl at hg
      split at hg
      · cases hg
        obtain ⟨rfl, rfl, rfl, rfl, _⟩ := hq
        rw [args1 ha, ← hPL]
        exact places_calls _ _ _ _ x (fun j hj => (h.x j hj).on hw (base := 0)) hn
      · cases hg
    · unfold gCl2 at hg
      split at hg
      · rename_i p b1 b2
        cases hg
        obtain ⟨rfl, rfl, hp, _⟩ := hq
        match args, ha with
        | [u, v, t], ha =>
          have e1 : u = iI p := ha.1
          have e2 : v = ptV b1 0 := ha.2.1
          have e3 : t = ptV b2 0 := ha.2.2.1
          subst e1; subst e2; subst e3
          exact cl2_calls (h.on hw) hN hn hp
        | [], ha => exact ha.elim
        | [_], ha => exact ha.2.elim
        | [_, _], ha => exact ha.2.2.elim
        | _ :: _ :: _ :: _ :: _, ha => exact ha.2.2.2.elim
      · cases hg
  refine fn_enter Tryz.func203 (c := ovCode2) rfl (args := [.agg (flat (digS b o n m)).toArray, clV2 bt bd]) (cs := [.v (.fl (digS b o n m)), .v (.im (clV2 bt bd))]) ⟨rfl, rfl, trivial⟩ (Nat.le_of_ble_eq_true (by kernel_rfl)) fun a w' hA => ?_
  rw [ov2_code]
  refine wp_seq (runKW_sound hmix (hT _) hG (ov2_s0 bt bd b o n m PL _) trivial hA fun a w' hA => ?_)
  refine wp_seq (runKW_sound hmix (hT _) hG (ov2_s1 bt bd b o n m PL _) trivial hA fun a w' hA => ?_)
  refine wp_seq (runKW_sound hmix (hT _) hG (ov2_s2 bt bd b o n m PL _) ⟨rfl, rfl, rfl, rfl, trivial⟩ hA fun a w' hA => ?_)
  refine wp_seq (wp_seq (runKW_sound hmix (hT _) hG (ov2_s3 bt bd b o n m PL _) trivial hA fun a w' hA => ?_))
  refine wp_block ?_
  refine loop_r hmix (fun i => ovF2 bt bd b o n m PL i (ov2 (fun p => cs2 pt x p N) PL i)) PL (fun i hi => ?_) (.ex 0) (by simp) (ovF2 bt bd b o n m PL PL (ov2 (fun p => cs2 pt x p N) PL PL)) ?_ hA fun a w' hA => ?_
  · exact ⟨_, _, _, _, hG, hT _, ov2_rd bt bd b o n m PL i _ (ov2 (fun p => cs2 pt x p N) PL i), o_lss_t hi, o_sub (k := 1) (by omega) (by omega), o_sub (by omega) (by omega), rfl, rfl, by omega, o_add (k := 1) (by omega), trivial⟩
  · exact ⟨_, _, _, _, hG, hT _, ov2_end bt bd b o n m PL PL _ _, o_lss_f (Nat.le_refl _), trivial⟩
  · show (cB (cB (cB (cB ovCode2)))).wp _ _ _ _
    exact runKW_sound hmix (hT _) hG (ov2_last bt bd b o n m PL PL _ _) trivial hA fun a w' hA => fn_leave (l := [.fl (ej2 (ov2 (fun p => cs2 pt x p N) PL PL))]) (r := .one (.fl (ej2 (ov2 (fun p => cs2 pt x p N) PL PL)))) (by kernel_rfl) (by kernel_rfl) hA
end Go.Proofs.YthlcjdcjnioeoaaGreat.Ex
