/-
  Powers by signed digits, by the closure of squares: of an element of the cyclotomic subgroup. Conditions: none.
  The call of raised: a power by x or by 6 x, of an element of the cyclotomic subgroup. Conditions: none.
  The last power: products, the hard part, all of it. Conditions: none.
  The last power's hard part. Conditions: the element lies in the cyclotomic subgroup.
-/
import Derived.Test.YtaingnhikbaplaaGreatPf25
namespace Go.Proofs.YtaingnhikbaplaaGreat.Ex
set_option linter.unusedVariables false
set_option linter.unusedSimpArgs false
open Go.RowKit

def dA (l : List Int) : List At := l.map fun d => .c (.int .i64 d)
def dgx : List Int := [1, 0, 0, 0, -1, 0, 0, 0, 0, 1, 0, 1, 0, 0, 0, 0, 1, 0, 0, 1, 0, -1, 0, 1, 0, 1, 0, 1, 0, 0, 1, 0, 0, 0, 1, 0, -1, 0, -1, 0, -1, 0, 1, 0, 1, 0, 0, -1, 0, 1, 0, 1, 0, -1, 0, 0, 1, 0, 1, 0, 0, 0, 1, 0, 0, 0]
def dg6 : List Int := [0, -1, 0, 1, 0, 1, 0, -1, 0, 0, -1, 0, 0, 0, 1, 0, 0, -1, 0, -1, 0, 0, 0, 1, 0, -1, 0, 0, 0, 0, -1, 0, 0, 1, 0, -1, 0, 0, 1, 0, 0, 0, 0, 0, -1, 0, 0, -1, 0, 1, 0, -1, 0, 0, 0, -1, 0, -1, 0, 0, 0, 1, 0, -1, 0, 1]
def gAddS : Ent
  | [.v (.fl l), .v (.fl m)] => match rq1 l, rq1 m with
    | some a, some b => some ([wv a + wv b < 115792089237316195423570985008687907853269984665640564039457584007913129639936], .many [.fl (q1 (wv a + wv b)), .im (.int .u64 0)])
    | _, _ => none
  | _ => none
theorem gAddS_ok : ∀ cs pre r, gAddS cs = some (pre, r) → allP pre → ∀ (args : List Value) (w : World), CAs w cs args → Good Tryz.prog 203 r args w := by
  intro cs pre r hg hp args w ha
  unfold gAddS at hg
  split at hg
  · rename_i l m
    split at hg
    · rename_i a b h1 h2
      cases hg
      rw [args2 ha, rq1_ok l _ h1, rq1_ok m _ h2]
      refine (add_calls _ _ _ _ _ _ _ _ (fw_ok a) (fw_ok b) w).mono ?_
      rintro e w' ⟨s0, s1, s2, s3, c, rfl, hs, hc, hv, hb⟩
      have hp1 := hp.1
      have hv' : val4 s0 s1 s2 s3 + 115792089237316195423570985008687907853269984665640564039457584007913129639936 * c = wv a + wv b := hv
      have hc0 : c = 0 := by omega
      subst hc0
      obtain ⟨rfl, rfl, rfl, rfl⟩ := fw_of hs hp1 (by omega)
      exact ⟨rfl, hb⟩
    · cases hg
  · cases hg
def gBitL : Ent
  | [.v (.fl l), .v (.im (.int .i64 (.ofNat i)))] => match rq1 l with
    | some n => bif Nat.blt i 256 then some ([], .one (.im (.int .i64 (bitOf (wv n) i : Nat)))) else none
    | none => none
  | _ => none
theorem gBitL_ok : ∀ cs pre r, gBitL cs = some (pre, r) → allP pre → ∀ (args : List Value) (w : World), CAs w cs args → Good Tryz.prog 204 r args w := by
  intro cs pre r hg hp args w ha
  unfold gBitL at hg
  split at hg
  · rename_i l i
    split at hg
    · rename_i n hn
      cases hb : Nat.blt i 256 <;> rw [hb] at hg
      · cases hg
      · cases hg
        exact bit_ok _ [i < 256] _ (by show gBit _ = _; unfold gBit; simp only [hn]) ⟨by simpa using hb, trivial⟩ args w ha
    · cases hg
  · cases hg
noncomputable def T_sg : Tab := (T0.add 203 gAddS).add 204 gBitL
theorem ok_sg : TabOk Tryz.prog T_sg := ((T0_ok _).add Tryz.func203 (by kernel_rfl) (by kernel_rfl) gAddS_ok).add Tryz.func204 (by kernel_rfl) (by kernel_rfl) gBitL_ok
noncomputable def cSg : Nat → Cfg := fun _ => ⟨fun _ => T_sg, fun _ => true, fun _ => none⟩
set_option maxRecDepth 100000 in
theorem run_sgx : funB Tryz.prog (qG Tryz.prog) cSg Tryz.f126 300 [.v (.fl (q1 sdN))] = some ([wv sdN + wv sdN < 115792089237316195423570985008687907853269984665640564039457584007913129639936, wv (wv sdN + wv sdN) + wv sdN < 115792089237316195423570985008687907853269984665640564039457584007913129639936], .one (.fl (dA dgx))) := by kernel_rfl
set_option maxRecDepth 100000 in
theorem run_sg6 : funB Tryz.prog (qG Tryz.prog) cSg Tryz.f126 300 [.v (.fl (q1 s6N))] = some ([wv s6N + wv s6N < 115792089237316195423570985008687907853269984665640564039457584007913129639936, wv (wv s6N + wv s6N) + wv s6N < 115792089237316195423570985008687907853269984665640564039457584007913129639936], .one (.fl (dA dg6))) := by kernel_rfl
def SgOk (N : Nat) (D : List Int) : Prop := ∀ (args : List Value) (w : World), CAs w [.v (.fl (q1 N))] args → Good Tryz.prog 126 (.one (.fl (dA D))) args w
theorem sgx_ok : SgOk sdN dgx := fun args w ha => funB_sound hmix (fun _ _ => ok_sg) (qG_ok _) Tryz.func126 run_sgx ⟨by decide +kernel, by decide +kernel, trivial⟩ ha
theorem sg6_ok : SgOk s6N dg6 := fun args w ha => funB_sound hmix (fun _ _ => ok_sg) (qG_ok _) Tryz.func126 run_sg6 ⟨by decide +kernel, by decide +kernel, trivial⟩ ha
def gSg (N : Nat) (D : List Int) : Ent
  | [.v (.fl l)] => match rq1 l with
    | some n => some ([n = N], .one (.fl (dA D)))
    | none => none
  | _ => none
noncomputable def T_rs (N : Nat) (D : List Int) : Tab := (T_rExp12 true).add 126 (gSg N D)
theorem ok_rs {N : Nat} {D : List Int} (h : SgOk N D) : TabOk Tryz.prog (T_rs N D) := (ok_rExp12 true).add Tryz.func126 (by kernel_rfl) (by kernel_rfl) (by
  intro cs pre r hg hp args w ha
  unfold gSg at hg
  split at hg
  · rename_i l
    split at hg
    · rename_i n hn
      cases hg
      refine h args w ?_
      match args, ha with
      | [v], ha => exact ⟨by show v = .agg (flat (q1 N)).toArray; rw [← hp.1, ← rq1_ok l _ hn]; exact ha.1, trivial⟩
      | [], ha => exact ha.elim
      | _ :: _ :: _, ha => exact ha.2.elim
    · cases hg
  · cases hg)
noncomputable def raCode : Code := (Tryz.f74.body).getD .skip
noncomputable def raLoop : Code := cIn (cIn (cB (cA (cB (cB (cB (cB raCode)))))))
noncomputable def raBody : Code := cIn (cA (cB (cB raLoop)))
theorem ra_code : raCode = .seq (cA raCode) (.seq (.region 1 (opsOf (cA (cB raCode))) false) (.seq (cA (cB (cB raCode))) (.seq (cA (cB (cB (cB raCode)))) (.seq (.seq (cA (cA (cB (cB (cB (cB raCode)))))) (.block 0 (.loop raLoop))) (cB (cB (cB (cB (cB raCode))))))))) := by kernel_rfl
theorem ra_loop : raLoop = .seq (cA raLoop) (.seq (cA (cB raLoop)) (.seq (.block 1 raBody) (cB (cB (cB raLoop))))) := by kernel_rfl
theorem ra_body : raBody = .seq (cA raBody) (.seq (cA (cB raBody)) (.seq (.region 8 (opsOf (cA (cB (cB raBody)))) false) (cB (cB (cB raBody))))) := by kernel_rfl
noncomputable def cR (N : Nat) (D : List Int) (n : Nat → Option Value) : Nat → Cfg := fun _ => ⟨fun _ => T_rs N D, fun _ => true, n⟩
def gX (g : Nat → Option Value) : Ext := { Ext.none with gen := g }
def rA (y : Q12) (N : Nat) : List Fact := [.slot 2 (.pt 2 0), .row 2 true (e12 y), .slot 3 (.pt 3 0), .row 3 true (q1 N), .slot 4 (.pt 4 0), .row 4 true (e12 F12.zero)]
def rB (y : Q12) (N b : Nat) : List Fact := [.slot 3 (.pt 3 0), .row 3 true (q1 N), .slot 4 (.pt 4 0), .row 4 true (e12 F12.zero), .slot 5 (.im (clV b)), .row 12 true (e12 y), .at 12 b]
def rF (D : List Int) (b i t : Nat) (u r : Q12) : List Fact := [.slot 4 (.pt 4 0), .row 4 true (e12 F12.zero), .slot 5 (.im (clV b)), .row 12 true (e12 u), .at 12 b, .slot 6 (.pt 6 0), .row 6 true (e12 r), .slot 7 (.im (iI t)), .slot 15 (.fl (dA D)), .slot 16 (.im (iI i))]
def rG (D : List Int) (b i t : Nat) (d : Int) (u r : Q12) : List Fact := .slot 8 (.im (iI i)) :: .slot 9 (.im (.int .i64 d)) :: rF D b i t u r
set_option maxRecDepth 100000 in
theorem ra_s0 (N : Nat) (D : List Int) (y : Q12) : runK Tryz.prog qN Tryz.f74.ntmps (cR N D fun _ => none) 40 (cA raCode) (argF 0 [.v (.fl (e12 y)), .v (.fl (q1 N))]) (rA y N) = some ([], .nrm, rA y N) := by kernel_rfl
set_option maxRecDepth 100000 in
theorem ra_s1 (N : Nat) (D : List Int) (y : Q12) : regK Tryz.prog qN Tryz.f74.ntmps (cR N D (fun _ => none) 0) ((opsOf (cA (cB raCode))).extract 0 1) (rA y N) (.slot 11 (.fl (e12 y)) :: rA y N) = some ([], .slot 11 (.fl (e12 y)) :: rA y N) := by kernel_rfl
set_option maxRecDepth 100000 in
theorem ra_s2 (N : Nat) (D : List Int) (y : Q12) (b : Nat) : regK Tryz.prog qN Tryz.f74.ntmps (cR N D (fun _ => none) 0) ((opsOf (cA (cB raCode))).extract 2 3) (.slot 12 (.im (clV b)) :: .row 12 true (e12 y) :: .at 12 b :: .slot 11 (.fl (e12 y)) :: rA y N) (rB y N b) = some ([], rB y N b) := by kernel_rfl
set_option maxRecDepth 100000 in
theorem ra_s3 (N : Nat) (D : List Int) (y : Q12) (b : Nat) : runK Tryz.prog qN Tryz.f74.ntmps (cR N D fun _ => none) 40 (cA (cB (cB raCode))) (rB y N b) (.slot 6 (.pt 6 0) :: .row 6 true (e12 F12.one) :: rB y N b) = some ([], .nrm, .slot 6 (.pt 6 0) :: .row 6 true (e12 F12.one) :: rB y N b) := by kernel_rfl
set_option maxRecDepth 100000 in
theorem ra_s4 (N : Nat) (D : List Int) (y : Q12) (b : Nat) : runK Tryz.prog qN Tryz.f74.ntmps (cR N D fun _ => none) 40 (cA (cB (cB (cB raCode)))) (.slot 6 (.pt 6 0) :: .row 6 true (e12 F12.one) :: rB y N b) (.slot 7 (.im (iI 0)) :: .slot 6 (.pt 6 0) :: .row 6 true (e12 F12.one) :: rB y N b) = some ([], .nrm, .slot 7 (.im (iI 0)) :: .slot 6 (.pt 6 0) :: .row 6 true (e12 F12.one) :: rB y N b) := by kernel_rfl
set_option maxRecDepth 100000 in
theorem ra_s5 (N : Nat) (D : List Int) (y : Q12) (b : Nat) : runK Tryz.prog qN Tryz.f74.ntmps (cR N D fun _ => none) 40 (cA (cA (cB (cB (cB (cB raCode)))))) (.slot 7 (.im (iI 0)) :: .slot 6 (.pt 6 0) :: .row 6 true (e12 F12.one) :: rB y N b) (rF D b 0 0 y F12.one) = some ([N = N], .nrm, rF D b 0 0 y F12.one) := by kernel_rfl
set_option maxRecDepth 100000 in
theorem ra_h (N : Nat) (D : List Int) (b i t : Nat) (u r : Q12) (c : Bool) : runK Tryz.prog qN Tryz.f74.ntmps (cR N D (fun s => bif Nat.beq s 17 then some (.bool c) else none)) 40 (cA raLoop) (rF D b i t u r) (.slot 17 (.im (.bool c)) :: rF D b i t u r) = some ([intOp .lss .i64 (Int.ofNat i) 66 = some (.bool c)], .nrm, .slot 17 (.im (.bool c)) :: rF D b i t u r) := by kernel_rfl
set_option maxRecDepth 100000 in
theorem ra_c1 (N : Nat) (D : List Int) (b i t : Nat) (u r : Q12) : runK Tryz.prog qN Tryz.f74.ntmps (cR N D fun _ => none) 40 (cA (cB raLoop)) (.slot 17 (.im (.bool true)) :: rF D b i t u r) (rF D b i t u r) = some ([], .nrm, rF D b i t u r) := by kernel_rfl
set_option maxRecDepth 100000 in
theorem ra_c0 (N : Nat) (D : List Int) (b i t : Nat) (u r : Q12) : runK Tryz.prog qN Tryz.f74.ntmps (cR N D fun _ => none) 40 (cA (cB raLoop)) (.slot 17 (.im (.bool false)) :: rF D b i t u r) (rF D b i t u r) = some ([], .ex 0, rF D b i t u r) := by kernel_rfl
set_option maxRecDepth 100000 in
theorem ra_b6 (N : Nat) (D : List Int) (b i t : Nat) (d : Int) (u r : Q12) : runK Tryz.prog { qG Tryz.prog with x := gX (fun s => bif Nat.beq s 19 then some (.int .i64 d) else none) } Tryz.f74.ntmps (cR N D fun _ => none) 40 (cA raBody) (rF D b i t u r) (rG D b i t d u r) = some ([i < 66, cellAt (dA D) i = some (.int .i64 d)], .nrm, rG D b i t d u r) := by kernel_rfl
set_option maxRecDepth 100000 in
theorem ra_b7 (N : Nat) (D : List Int) (b i t : Nat) (d : Int) (u r : Q12) : runK Tryz.prog qN Tryz.f74.ntmps (cR N D (fun s => bif Nat.beq s 21 then some (.bool false) else none)) 40 (cA (cB raBody)) (rG D b i t d u r) (rG D b i t d u r) = some ([intOp .eql .i64 d 0 = some (.bool false)], .nrm, rG D b i t d u r) := by kernel_rfl
set_option maxRecDepth 100000 in
theorem ra_b7z (N : Nat) (D : List Int) (b i t : Nat) (d : Int) (u r : Q12) : runK Tryz.prog qN Tryz.f74.ntmps (cR N D (fun s => bif Nat.beq s 21 then some (.bool true) else none)) 40 (cA (cB raBody)) (rG D b i t d u r) (rF D b i t u r) = some ([intOp .eql .i64 d 0 = some (.bool true)], .ex 1, rF D b i t u r) := by kernel_rfl
set_option maxRecDepth 100000 in
theorem ra_b8 (N : Nat) (D : List Int) (b i t k : Nat) (d : Int) (u r : Q12) : regK Tryz.prog qN Tryz.f74.ntmps (cR N D (fun s => bif Nat.beq s 25 then some (iI k) else none) 0) ((opsOf (cA (cB (cB raBody)))).extract 0 4) (rG D b i t d u r) (.slot 22 (.im (clV b)) :: .slot 25 (.im (iI k)) :: rG D b i t d u r) = some ([intOp .sub .i64 (Int.ofNat i) (Int.ofNat t) = some (iI k)], .slot 22 (.im (clV b)) :: .slot 25 (.im (iI k)) :: rG D b i t d u r) := by kernel_rfl
theorem ra_f (D : List Int) (b i t k : Nat) (d : Int) (u v r : Q12) : ([Fact.slot 26 (TV.av (.fl (e12 v))), .row 12 true (e12 v)] ++ (.slot 22 (.im (clV b)) :: .slot 25 (.im (iI k)) :: rG D b i t d u r).filter (fun φ => !(clob (some 26) (some 12) φ))) = [.slot 26 (.fl (e12 v)), .row 12 true (e12 v), .slot 22 (.im (clV b)), .slot 25 (.im (iI k)), .slot 8 (.im (iI i)), .slot 9 (.im (.int .i64 d)), .slot 4 (.pt 4 0), .row 4 true (e12 F12.zero), .slot 5 (.im (clV b)), .at 12 b, .slot 6 (.pt 6 0), .row 6 true (e12 r), .slot 7 (.im (iI t)), .slot 15 (.fl (dA D)), .slot 16 (.im (iI i))] := by kernel_rfl
set_option maxRecDepth 100000 in
theorem ra_b9 (N : Nat) (D : List Int) (b i t k : Nat) (d : Int) (v r : Q12) : regK Tryz.prog qN Tryz.f74.ntmps (cR N D (fun _ => none) 0) ((opsOf (cA (cB (cB raBody)))).extract 5 7) [.slot 26 (.fl (e12 v)), .row 12 true (e12 v), .slot 22 (.im (clV b)), .slot 25 (.im (iI k)), .slot 8 (.im (iI i)), .slot 9 (.im (.int .i64 d)), .slot 4 (.pt 4 0), .row 4 true (e12 F12.zero), .slot 5 (.im (clV b)), .at 12 b, .slot 6 (.pt 6 0), .row 6 true (e12 r), .slot 7 (.im (iI t)), .slot 15 (.fl (dA D)), .slot 16 (.im (iI i))] (.slot 10 (.pt 10 0) :: .row 10 true (e12 v) :: rG D b i t d v r) = some ([], .slot 10 (.pt 10 0) :: .row 10 true (e12 v) :: rG D b i t d v r) := by kernel_rfl
set_option maxRecDepth 100000 in
theorem ra_bp (N : Nat) (D : List Int) (b i t : Nat) (d : Int) (v r : Q12) : runK Tryz.prog qN Tryz.f74.ntmps (cR N D (fun s => bif Nat.beq s 29 then some (.bool false) else none)) 40 (cB (cB (cB raBody))) (.slot 10 (.pt 10 0) :: .row 10 true (e12 v) :: rG D b i t d v r) (rF D b i i v (F12.mul (m12 (nv12 r)) (m12 (nv12 v)))) = some ([intOp .lss .i64 d 0 = some (.bool false)], .nrm, rF D b i i v (F12.mul (m12 (nv12 r)) (m12 (nv12 v)))) := by kernel_rfl
set_option maxRecDepth 100000 in
theorem ra_bm (N : Nat) (D : List Int) (b i t : Nat) (d : Int) (v r : Q12) : runK Tryz.prog qN Tryz.f74.ntmps (cR N D (fun s => bif Nat.beq s 29 then some (.bool true) else none)) 40 (cB (cB (cB raBody))) (.slot 10 (.pt 10 0) :: .row 10 true (e12 v) :: rG D b i t d v r) (rF D b i i v (F12.mul (m12 (nv12 r)) (m12 (nv12 (cj12 v))))) = some ([intOp .lss .i64 d 0 = some (.bool true)], .nrm, rF D b i i v (F12.mul (m12 (nv12 r)) (m12 (nv12 (cj12 v))))) := by kernel_rfl
set_option maxRecDepth 100000 in
theorem ra_i (N : Nat) (D : List Int) (b i t : Nat) (u r : Q12) : runK Tryz.prog qN Tryz.f74.ntmps (cR N D (fun s => bif Nat.beq s 35 then some (iI (i + 1)) else none)) 40 (cB (cB (cB raLoop))) (rF D b i t u r) (rF D b (i + 1) t u r) = some ([intOp .add .i64 (Int.ofNat i) 1 = some (iI (i + 1))], .nrm, rF D b (i + 1) t u r) := by kernel_rfl
set_option maxRecDepth 100000 in
theorem ra_e (N : Nat) (D : List Int) (b i t : Nat) (u r : Q12) : runK Tryz.prog qN Tryz.f74.ntmps (cR N D fun _ => none) 40 (cB (cB (cB (cB (cB raCode))))) (rF D b i t u r) [.slot 4 (.pt 4 0), .row 4 true (e12 r)] = some ([], .rt, [.slot 4 (.pt 4 0), .row 4 true (e12 r)]) := by kernel_rfl
end Go.Proofs.YtaingnhikbaplaaGreat.Ex
namespace Go.Proofs.YtaingnhikbaplaaGreat.Ex
set_option linter.unusedVariables false
set_option linter.unusedSimpArgs false
open Go.RowKit

def dI (D : List Int) (i : Nat) : Int := D.getD i 0
def tN (D : List Int) : Nat → Nat
  | 0 => 0
  | i + 1 => if dI D i = 0 then tN D i else i
def eN (D : List Int) : Nat → Nat
  | 0 => 0
  | i + 1 => if dI D i = 0 then eN D i else if dI D i < 0 then eN D i + 2 ^ i * p6N else eN D i + 2 ^ i
theorem tN_le (D : List Int) : ∀ i, tN D i ≤ i
  | 0 => Nat.le_refl _
  | i + 1 => by
    unfold tN
    split
    · exact Nat.le_succ_of_le (tN_le D i)
    · exact Nat.le_succ _
theorem dA_cell : ∀ (D : List Int) (i : Nat), i < D.length → cellAt (dA D) i = some (.int .i64 (dI D i))
  | [], i, h => absurd h (by simp)
  | d :: r, 0, h => rfl
  | d :: r, i + 1, h => by
    show (bif Nat.blt (i + 1) 1 then _ else cellAt (dA r) (i + 1 - 1)) = _
    rw [show Nat.blt (i + 1) 1 = false from Bool.eq_false_iff.2 fun h => by simp at h, cond_false, Nat.add_sub_cancel, dA_cell r i (by simpa using h)]
    simp [dI]
theorem Holds.free {nt base : Nat} {w0 : World} {A : List Fact} {a : Act} {w : World} (h : Holds nt base w0 A a w) {k b : Nat} {l : List At} (h1 : Fact.row k true l ∈ A) (h2 : Fact.at k b ∈ A) : ∀ j, w.frozen? ⟨b, j, none⟩ = false := by
  obtain ⟨β, g1, g2⟩ := h.facts
  obtain ⟨_, _, e3, _⟩ := g1 _ h1
  obtain ⟨e4, e5⟩ := g1 _ h2
  have := (e3 rfl).2.2
  rw [e4] at this
  exact this
theorem pw_at (y : Q12) {t i : Nat} (h : t ≤ i) : pwK F12 (pwK F12 y (2 ^ t)) (2 ^ (i - t)) = pwK F12 y (2 ^ i) := by
  rw [← pwK_pw, ← Nat.pow_add, Nat.add_sub_cancel' h]
theorem o_eq0 (d : Int) : intOp .eql .i64 d 0 = some (.bool (decide (d = 0))) := by
  show some (Value.bool (d == 0)) = _
  by_cases h : d = 0
  · subst h; rfl
  · rw [decide_eq_false h]
    simp [h]
theorem o_ls0 (d : Int) : intOp .lss .i64 d 0 = some (.bool (decide (d < 0))) := rfl
set_option maxRecDepth 100000 in
theorem raised_calls {N : Nat} {D : List Int} (hsg : SgOk N D) (hlen : D.length = 66) (y : Q12) (hy : inC y) (args : List Value) (w : World) (ha : CAs w [.v (.fl (e12 y)), .v (.fl (q1 N))] args) : Good Tryz.prog 74 (.one (.fl (e12 (pwK F12 y (eN D 66))))) args w := by
  have hT : ∀ (n d : Nat) (wi : World), TabOkW Tryz.prog (T_rs N D) w.heap.size wi := fun _ _ wi => (ok_rs hsg).w _ _
  refine fn_enter Tryz.func74 (c := raCode) rfl ha (Nat.le_of_ble_eq_true (by kernel_rfl)) fun a w' hA => ?_
  rw [ra_code]
  refine wp_seq (runK_sound hmix (fun _ _ => ok_rs hsg) qN_ok (ra_s0 N D y) trivial hA fun a w1 hA => ?_)
  refine wp_seq (wp_rangeP (l := List.range' 0 ((opsOf (cA (cB raCode))).extract 0 1).size ++ (1 :: (List.range' 2 ((opsOf (cA (cB raCode))).extract 2 3).size ++ []))) (by kernel_rfl) ?_)
  refine partE_sound (c := cR N D (fun _ => none) 0) (fun d => (ok_rs hsg).w _ _) (qN_ok.w _ _) (ra_s1 N D y) trivial (by kernel_rfl) hA fun a w2 hA => ?_
  have h11 := hA.slotF (s := 11) (l := e12 y) (by simp)
  obtain ⟨o, ho, hoo, hod, hog⟩ : ∃ o, (opsOf (cA (cB raCode)))[1]? = some o ∧ (∃ ts, o.op = .call ⟨.value (.func 136), #[.tmp 11], ts⟩) ∧ o.dst = some 12 ∧ o.guard = none := ⟨_, rfl, ⟨_, rfl⟩, rfl, rfl⟩
  obtain ⟨ts, hoo⟩ := hoo
  refine wpOps_one ho hog (wp_call_ex hoo (vs := [.agg (flat (e12 y)).toArray]) (by simp [Act.eval, h11]) (callable Tryz.func136 (by kernel_rfl) (by kernel_rfl) · _) (squares_calls y [.agg (flat (e12 y)).toArray] _ ⟨rfl, trivial⟩) fun e w3 hR => ?_)
  obtain ⟨b, rfl, hb, h1, h2, h3, h4⟩ := hR
  refine ⟨_, rfl, ?_⟩
  rw [hod]
  have hA := hA.post (dst := some 12) (kill := none) fun β hβ => ⟨_, post_freshV (clV b) (e12 y) b (by rw [hA.size]; exact Nat.le_of_ble_eq_true (by kernel_rfl)) hA.heap hb h1 h2 h3 h4⟩
  have ef : ([Fact.slot 12 (.im (clV b)), .row 12 true (e12 y), .at 12 b] ++ (.slot 11 (.fl (e12 y)) :: rA y N).filter (fun φ => !(clob (some 12) none φ))) = .slot 12 (.im (clV b)) :: .row 12 true (e12 y) :: .at 12 b :: .slot 11 (.fl (e12 y)) :: rA y N := by kernel_rfl
  rw [ef] at hA
  refine partE_sound (c := cR N D (fun _ => none) 0) (fun d => (ok_rs hsg).w _ _) (qN_ok.w _ _) (ra_s2 N D y b) trivial (by kernel_rfl) hA fun a w4 hA => ?_
  show (Code.seq (cA (cB (cB raCode))) _).wp _ _ _ _
  refine wp_seq (runK_sound hmix (fun _ _ => ok_rs hsg) qN_ok (ra_s3 N D y b) trivial hA fun a w5 hA => ?_)
  refine wp_seq (runK_sound hmix (fun _ _ => ok_rs hsg) qN_ok (ra_s4 N D y b) trivial hA fun a w6 hA => ?_)
  refine wp_seq (wp_seq (runK_sound hmix (fun _ _ => ok_rs hsg) qN_ok (ra_s5 N D y b) ⟨rfl, trivial⟩ hA fun a w7 hA => ?_))
  refine wp_block ?_
  refine loop_inv (fun i a wi => Holds Tryz.f74.ntmps w.heap.size w (rF D b i (tN D i) (pwK F12 y (2 ^ tN D i)) (pwK F12 y (eN D i))) a wi) 66 (fun i hi a wi hA R hR => ?_) (fun a wi hA R => ?_) (by
    show Holds _ _ _ (rF D b 0 0 (pwK F12 y (2 ^ 0)) (pwK F12 y 0)) _ _
    rw [Nat.pow_zero, pwK_1]; exact hA)
  · rw [ra_loop]
    refine wp_seq (runK_sound hmix (fun _ _ => ok_rs hsg) qN_ok (ra_h N D b i _ _ _ true) ⟨o_lss_t hi, trivial⟩ hA fun a w8 hA => ?_)
    refine wp_seq (runK_sound hmix (fun _ _ => ok_rs hsg) qN_ok (ra_c1 N D b i _ _ _) trivial hA fun a w9 hA => ?_)
    refine wp_seq (wp_block ?_)
    have hfin : ∀ (Q : Exit → Act → World → Prop) a w', Holds Tryz.f74.ntmps w.heap.size w (rF D b i (tN D (i + 1)) (pwK F12 y (2 ^ tN D (i + 1))) (pwK F12 y (eN D (i + 1)))) a w' → (cB (cB (cB raLoop))).wp Tryz.prog (Exit.then R Q) a w' := fun Q a w' hA =>
      runK_sound hmix (fun _ _ => ok_rs hsg) qN_ok (ra_i N D b i _ _ _) ⟨o_add (k := 1) (by omega), trivial⟩ hA fun a w'' hA => hR a w'' hA
    rw [ra_body]
    refine wp_seq (runKW_sound hmix (fun n d => hT n d _) (extN_ok (x := gX (fun s => bif Nat.beq s 19 then some (.int .i64 (dI D i)) else none)) (N := w.heap.size) (w := w) rfl rfl rfl fun _ _ _ h => h.elim) (ra_b6 N D b i _ (dI D i) _ _) ⟨hi, dA_cell D i (by omega), trivial⟩ hA fun a w10 hA => ?_)
    by_cases hd : dI D i = 0
    · refine wp_seq (runK_sound hmix (fun _ _ => ok_rs hsg) qN_ok (ra_b7z N D b i _ (dI D i) _ _) ⟨by rw [o_eq0, decide_eq_true hd], trivial⟩ hA fun a w11 hA => ?_)
      refine hfin _ a w11 ?_
      rw [show tN D (i + 1) = tN D i from if_pos hd, show eN D (i + 1) = eN D i from if_pos hd]
      exact hA
    · refine wp_seq (runK_sound hmix (fun _ _ => ok_rs hsg) qN_ok (ra_b7 N D b i _ (dI D i) _ _) ⟨by rw [o_eq0, decide_eq_false hd], trivial⟩ hA fun a w11 hA => ?_)
      refine wp_seq (wp_rangeP (l := List.range' 0 ((opsOf (cA (cB (cB raBody)))).extract 0 4).size ++ (4 :: (List.range' 5 ((opsOf (cA (cB (cB raBody)))).extract 5 7).size ++ []))) (by kernel_rfl) ?_)
      have ht := tN_le D i
      refine partE_sound (c := cR N D (fun s => bif Nat.beq s 25 then some (iI (i - tN D i)) else none) 0) (fun d => (ok_rs hsg).w _ _) (qN_ok.w _ _) (ra_b8 N D b i (tN D i) (i - tN D i) (dI D i) _ _) ⟨o_sub ht (by omega), trivial⟩ (by kernel_rfl) hA fun a w12 hA => ?_
      have h22 := hA.slot (s := 22) (v := clV b) (by simp)
      have h25 := hA.slot (s := 25) (v := iI (i - tN D i)) (by simp)
      obtain ⟨o2, ho2, hoo2, hod2, hog2⟩ : ∃ o, (opsOf (cA (cB (cB raBody))))[4]? = some o ∧ (∃ ts, o.op = .call ⟨.value (.tmp 22), #[.tmp 25], ts⟩) ∧ o.dst = some 26 ∧ o.guard = none := ⟨_, rfl, ⟨_, rfl⟩, rfl, rfl⟩
      obtain ⟨ts2, hoo2⟩ := hoo2
      have hold := hA.old (k := 12) (b := b) (l := e12 (pwK F12 y (2 ^ tN D i))) (by simp [rG, rF]) (by simp [rG, rF])
      have hfree := hA.free (k := 12) (b := b) (l := e12 (pwK F12 y (2 ^ tN D i))) (by simp [rG, rF]) (by simp [rG, rF])
      refine wpOps_one ho2 hog2 (wp_call_cl hoo2 (id := 212) (cap := #[.pointer (some ⟨b, 0, none⟩)]) (vs := [iI (i - tN D i)]) (by simp [Act.eval, h22, clV]) (by simp [Act.eval, h25]) (callable Tryz.func212 (by kernel_rfl) (by kernel_rfl) · _) (qc_calls (i - tN D i) (by omega) _ (inC_pw hy _) b w12 hold.1 hold.2 hfree) fun e w13 hR2 => ?_)
      obtain ⟨rfl, hwr, hrg⟩ := hR2
      refine ⟨_, rfl, ?_⟩
      rw [hod2]
      have hA := hA.post (dst := some 26) (kill := some 12) fun β hβ => ⟨_, post_wr (.fl (e12 (pwK F12 (pwK F12 y (2 ^ tN D i)) (2 ^ (i - tN D i))))) (by rw [hA.size]; exact Nat.le_of_ble_eq_true (by kernel_rfl)) (by decide) (l0 := e12 (pwK F12 y (2 ^ tN D i))) (b := b) (by simp [rG, rF]) (by simp [rG, rF]) hβ hA.heap hwr hrg⟩
      rw [ra_f] at hA
      rw [pw_at y ht] at hA
      refine partE_sound (c := cR N D (fun _ => none) 0) (fun d => (ok_rs hsg).w _ _) (qN_ok.w _ _) (ra_b9 N D b i (tN D i) (i - tN D i) (dI D i) _ _) trivial (by kernel_rfl) (by rw [pw_at y ht]; exact hA) fun a w14 hA => ?_
      show (cB (cB (cB raBody))).wp _ _ _ _
      by_cases hn : dI D i < 0
      · refine runK_sound hmix (fun _ _ => ok_rs hsg) qN_ok (ra_bm N D b i (tN D i) (dI D i) _ _) ⟨by rw [o_ls0, decide_eq_true hn], trivial⟩ hA fun a w15 hA => ?_
        refine hfin _ a w15 ?_
        rw [show tN D (i + 1) = i from if_neg hd, show eN D (i + 1) = eN D i + 2 ^ i * p6N from (if_neg hd).trans (if_pos hn), pwK_add, pwK_pw, ← cj_pw6]
        rw [m12_nv, m12_nv] at hA
        exact hA
      · refine runK_sound hmix (fun _ _ => ok_rs hsg) qN_ok (ra_bp N D b i (tN D i) (dI D i) _ _) ⟨by rw [o_ls0, decide_eq_false hn], trivial⟩ hA fun a w15 hA => ?_
        refine hfin _ a w15 ?_
        rw [show tN D (i + 1) = i from if_neg hd, show eN D (i + 1) = eN D i + 2 ^ i from (if_neg hd).trans (if_neg hn), pwK_add]
        rw [m12_nv, m12_nv] at hA
        exact hA
  · rw [ra_loop]
    refine wp_seq (runK_sound hmix (fun _ _ => ok_rs hsg) qN_ok (ra_h N D b 66 _ _ _ false) ⟨o_lss_f (Nat.le_refl _), trivial⟩ hA fun a w8 hA => ?_)
    refine wp_seq (runK_sound hmix (fun _ _ => ok_rs hsg) qN_ok (ra_c0 N D b 66 _ _ _) trivial hA fun a w9 hA => ?_)
    show (cB (cB (cB (cB (cB raCode))))).wp _ _ _ _
    exact runK_sound hmix (fun _ _ => ok_rs hsg) qN_ok (ra_e N D b 66 _ _ _) trivial hA fun a w10 hA => fn_leave (l := [.fl (e12 (pwK F12 y (eN D 66)))]) (by kernel_rfl) (by kernel_rfl) hA
def kxN : Nat := (eN dgx 66 - sdN) / q4N
def k6N : Nat := (eN dg6 66 - s6N) / q4N
theorem eN_x : eN dgx 66 = sdN + q4N * kxN := by kernel_rfl
theorem eN_6 : eN dg6 66 = s6N + q4N * k6N := by kernel_rfl
theorem pw_x {y : Q12} (h : inC y) : pwK F12 y (eN dgx 66) = pwK F12 y sdN := by rw [eN_x, pwK_add, pwK_pw, q4_one h, pwK_one, F12.mul_one]
theorem pw_6 {y : Q12} (h : inC y) : pwK F12 y (eN dg6 66) = pwK F12 y s6N := by rw [eN_6, pwK_add, pwK_pw, q4_one h, pwK_one, F12.mul_one]
end Go.Proofs.YtaingnhikbaplaaGreat.Ex
namespace Go.Proofs.YtaingnhikbaplaaGreat.Ex
set_option linter.unusedVariables false
set_option linter.unusedSimpArgs false
open Go.RowKit

def s6F : Fq := ⟨s6N, by decide +kernel⟩
def sdF : Fq := ⟨sdN, by decide +kernel⟩
set_option maxRecDepth 100000 in
theorem run_six : funA Tryz.prog T_sq qN (fun _ => true) Tryz.f75 40 [] = some ([], .one (.fl [.f s6F])) := by kernel_rfl
set_option maxRecDepth 100000 in
theorem run_seed : funA Tryz.prog T_sq qN (fun _ => true) Tryz.f76 40 [] = some ([], .one (.fl [.f sdF])) := by kernel_rfl
theorem o6_ex : ∃ f : Q12 → Q12, ∀ y, f y = pwK F12 y s6N := ⟨fun y => pwK F12 y s6N, fun _ => rfl⟩
theorem ox_ex : ∃ f : Q12 → Q12, ∀ y, f y = pwK F12 y sdN := ⟨fun y => pwK F12 y sdN, fun _ => rfl⟩
noncomputable def o6 : Q12 → Q12 := Classical.choose o6_ex
noncomputable def ox : Q12 → Q12 := Classical.choose ox_ex
theorem o6_eq (y : Q12) : o6 y = pwK F12 y s6N := Classical.choose_spec o6_ex y
theorem ox_eq (y : Q12) : ox y = pwK F12 y sdN := Classical.choose_spec ox_ex y
noncomputable def gRai : Ent
  | [.v (.fl l), .v (.fl m)] => match rd12 l, rq1 m with
    | some y, some n => bif Nat.beq n s6N then some ([inC y], .one (.fl (e12 (o6 y)))) else bif Nat.beq n sdN then some ([inC y], .one (.fl (e12 (ox y)))) else none
    | _, _ => none
  | _ => none
theorem gRai_ok : ∀ cs pre r, gRai cs = some (pre, r) → allP pre → ∀ (args : List Value) (w : World), CAs w cs args → Good Tryz.prog 74 r args w := by
  intro cs pre r hg hp args w ha
  unfold gRai at hg
  split at hg
  · rename_i l m
    split at hg
    · rename_i y n hy hn
      have hca : ∀ N, n = N → CAs w [.v (.fl (e12 y)), .v (.fl (q1 N))] args := fun N e => by
        subst e
        match args, ha with
        | [u, v], ha => exact ⟨by show u = .agg (flat (e12 y)).toArray; rw [← rd12_ok l _ hy]; exact ha.1, by show v = .agg (flat (q1 n)).toArray; rw [← rq1_ok m _ hn]; exact ha.2.1, trivial⟩
        | [], ha => exact ha.elim
        | [_], ha => exact ha.2.elim
        | _ :: _ :: _ :: _, ha => exact ha.2.2.elim
      cases h6 : Nat.beq n s6N <;> rw [h6] at hg
      · simp only [cond_false] at hg
        cases hx : Nat.beq n sdN <;> rw [hx] at hg
        · cases hg
        · cases hg
          have := raised_calls sgx_ok (by decide) y hp.1 args w (hca _ (Nat.eq_of_beq_eq_true hx))
          rw [pw_x hp.1, ← ox_eq] at this
          exact this
      · cases hg
        have := raised_calls sg6_ok (by decide) y hp.1 args w (hca _ (Nat.eq_of_beq_eq_true h6))
        rw [pw_6 hp.1, ← o6_eq] at this
        exact this
    · cases hg
  · cases hg
noncomputable def T_rai : Tab := ((T_sq.add 75 (g0 (.one (.fl [.f s6F])))).add 76 (g0 (.one (.fl [.f sdF])))).add 74 gRai
theorem ok_rai : TabOk Tryz.prog T_rai := ((ok_sq.add Tryz.func75 (by kernel_rfl) (by kernel_rfl) (g0_ok fun w => fun_sound hmix ok_sq qN_ok Tryz.func75 run_six trivial (args := []) trivial)).add Tryz.func76 (by kernel_rfl) (by kernel_rfl) (g0_ok fun w => fun_sound hmix ok_sq qN_ok Tryz.func76 run_seed trivial (args := []) trivial)).add Tryz.func74 (by kernel_rfl) (by kernel_rfl) gRai_ok
set_option maxRecDepth 100000 in
theorem run_prod1 (x a : Q12) (k : Nat) : funA Tryz.prog T_rai qN (fun _ => true) Tryz.f202 60 [.v (.fl (e12 x)), .s (e12 a) 1 k] = some ([], .one (.fl (e12 (F12.mul (m12 (nv12 x)) (m12 (nv12 a)))))) := by kernel_rfl
set_option maxRecDepth 100000 in
theorem run_prod3 (x a b c : Q12) (k : Nat) : funA Tryz.prog T_rai qN (fun _ => true) Tryz.f202 60 [.v (.fl (e12 x)), .s (e12 a ++ (e12 b ++ e12 c)) 3 k] = some ([], .one (.fl (e12 (F12.mul (m12 (nv12 (F12.mul (m12 (nv12 (F12.mul (m12 (nv12 x)) (m12 (nv12 a))))) (m12 (nv12 b))))) (m12 (nv12 c)))))) := by kernel_rfl
/-- so many elements -/
def rd12s : Nat → List At → Option (List Q12)
  | 0, _ => some []
  | n + 1, l => match tk l 48, dp l 48 with
    | some a, some r => (match rd12 a, rd12s n r with | some x, some xs => some (x :: xs) | _, _ => none)
    | _, _ => none
noncomputable def gProd12 : Ent
  | [.v (.fl l), .s m n k] => match rd12 l, rd12s n m with
    | some x, some [a] => some ([], .one (.fl (e12 (F12.mul x a))))
    | some x, some [a, b, c] => some ([], .one (.fl (e12 (F12.mul (F12.mul (F12.mul x a) b) c))))
    | _, _ => none
  | _ => none
theorem rd12s_flat : ∀ {n : Nat} {l : List At} {xs : List Q12}, rd12s n l = some xs → xs.length = n ∧ ∃ r, flat l = flat (xs.flatMap e12) ++ r
  | 0, l, xs, h => by cases h; exact ⟨rfl, flat l, rfl⟩
  | n + 1, l, xs, h => by
    unfold rd12s at h
    split at h
    · rename_i a r ht hd
      split at h
      · rename_i x xs' hx hr
        cases h
        obtain ⟨h1, r', h2⟩ := rd12s_flat hr
        obtain ⟨r2, e1, s1⟩ := tk_spec _ _ _ ht
        obtain ⟨p, e2, s2⟩ := dp_spec _ _ _ hd
        obtain ⟨h3, h4⟩ := flat_eq_of_len (e1.symm.trans e2) (s1.trans s2.symm)
        refine ⟨by rw [List.length_cons, h1], r', ?_⟩
        rw [e1, flat_append, h4, h2, rd12_ok a _ hx, List.flatMap_cons, flat_append, List.append_assoc]
      · cases h
    · cases h
theorem casP {w : World} {l m m' : List At} {x : Q12} {n k : Nat} {r : List Value} (hl : flat l = flat (e12 x)) (hm : flat m = flat m' ++ r) {args : List Value} (ha : CAs w [.v (.fl l), .s m n k] args) : CAs w [.v (.fl (e12 x)), .s m' n k] args := by
  match args, ha with
  | [u, s], ha =>
    refine ⟨by show u = .agg (flat (e12 x)).toArray; rw [← hl]; exact ha.1, ?_, trivial⟩
    obtain ⟨b, o, e, hb, hr⟩ := ha.2.1
    refine ⟨b, o, e, hb, fun j v hj => hr j v ?_⟩
    rw [hm, List.getElem?_append_left (List.getElem?_eq_some_iff.1 hj).1]
    exact hj
  | [], ha => exact ha.elim
  | [_], ha => exact ha.2.elim
  | _ :: _ :: _ :: _, ha => exact ha.2.2.elim
theorem gProd12_ok : ∀ cs pre r, gProd12 cs = some (pre, r) → allP pre → ∀ (args : List Value) (w : World), CAs w cs args → Good Tryz.prog 202 r args w := by
  intro cs pre r hg hp args w ha
  unfold gProd12 at hg
  split at hg
  · rename_i l m n k
    split at hg
    · rename_i x a hx hm
      cases hg
      obtain ⟨h1, r', h2⟩ := rd12s_flat hm
      have hn : n = 1 := h1.symm
      subst hn
      have h := fun_sound hmix ok_rai qN_ok Tryz.func202 (run_prod1 x a k) trivial (args := args) (w := w) (casP (r := r') (rd12_ok l _ hx) (by rw [h2]; simp [List.flatMap]) ha)
      rw [m12_nv, m12_nv] at h
      exact h
    · rename_i x a b c hx hm
      cases hg
      obtain ⟨h1, r', h2⟩ := rd12s_flat hm
      have hn : n = 3 := h1.symm
      subst hn
      have h := fun_sound hmix ok_rai qN_ok Tryz.func202 (run_prod3 x a b c k) trivial (args := args) (w := w) (casP (r := r') (rd12_ok l _ hx) (by rw [h2]; simp [List.flatMap]) ha)
      rw [m12_nv x, m12_nv a, m12_nv b, m12_nv c, m12_nv, m12_nv] at h
      exact h
    · cases hg
  · cases hg
noncomputable def T_pd : Tab := T_rai.add 202 gProd12
theorem ok_pd : TabOk Tryz.prog T_pd := ok_rai.add Tryz.func202 (by kernel_rfl) (by kernel_rfl) gProd12_ok
end Go.Proofs.YtaingnhikbaplaaGreat.Ex
namespace Go.Proofs.YtaingnhikbaplaaGreat.Ex
set_option linter.unusedVariables false
set_option linter.unusedSimpArgs false
open Go.RowKit

def hXr (y : Q12) : Q12 := F12.mul (F12.mul (F12.mul (it12 (rest12N 3).toNat y) (it12 (rest12N 2).toNat (F12.mul y (hS2 y)))) (it12 (rest12N 1).toNat (F12.mul y (cj12 (hG y))))) (cj12 (hR y))
theorem hXr_eq (y : Q12) : hXr y = hX y := by
  unfold hXr hX
  rw [show (rest12N 3).toNat = 3 by decide, show (rest12N 2).toNat = 2 by decide, show (rest12N 1).toNat = 1 by decide]
noncomputable def cPd : Nat → Cfg := fun _ => ⟨fun _ => T_pd, fun _ => true, fun _ => none⟩
noncomputable def hdCode : Code := (Tryz.f125.body).getD .skip
set_option maxRecDepth 100000 in
theorem hd_s0 (y : Q12) : runK Tryz.prog qN Tryz.f125.ntmps cPd 40 (cA hdCode) (argF 0 [.v (.fl (e12 y))]) [.slot 1 (.pt 1 0), .row 1 true (e12 y), .slot 2 (.pt 2 0), .row 2 true (e12 F12.zero)] = some ([], .nrm, [.slot 1 (.pt 1 0), .row 1 true (e12 y), .slot 2 (.pt 2 0), .row 2 true (e12 F12.zero)]) := by kernel_rfl
set_option maxRecDepth 100000 in
theorem hd_s1 (y : Q12) : runK Tryz.prog qN Tryz.f125.ntmps cPd 40 (cA (cB hdCode)) [.slot 1 (.pt 1 0), .row 1 true (e12 y), .slot 2 (.pt 2 0), .row 2 true (e12 F12.zero)] [.slot 3 (.pt 3 0), .row 3 true (e12 (o6 y)), .slot 1 (.pt 1 0), .row 1 true (e12 y), .slot 2 (.pt 2 0), .row 2 true (e12 F12.zero)] = some ([inC y], .nrm, [.slot 3 (.pt 3 0), .row 3 true (e12 (o6 y)), .slot 1 (.pt 1 0), .row 1 true (e12 y), .slot 2 (.pt 2 0), .row 2 true (e12 F12.zero)]) := by kernel_rfl
set_option maxRecDepth 100000 in
theorem hd_s2 (y s : Q12) : runK Tryz.prog qN Tryz.f125.ntmps cPd 40 (cA (cB (cB hdCode))) [.slot 3 (.pt 3 0), .row 3 true (e12 s), .slot 1 (.pt 1 0), .row 1 true (e12 y), .slot 2 (.pt 2 0), .row 2 true (e12 F12.zero)] [.slot 4 (.pt 4 0), .row 4 true (e12 (ox s)), .slot 3 (.pt 3 0), .row 3 true (e12 s), .slot 1 (.pt 1 0), .row 1 true (e12 y), .slot 2 (.pt 2 0), .row 2 true (e12 F12.zero)] = some ([inC s], .nrm, [.slot 4 (.pt 4 0), .row 4 true (e12 (ox s)), .slot 3 (.pt 3 0), .row 3 true (e12 s), .slot 1 (.pt 1 0), .row 1 true (e12 y), .slot 2 (.pt 2 0), .row 2 true (e12 F12.zero)]) := by kernel_rfl
set_option maxRecDepth 100000 in
theorem hd_s3 (y s q : Q12) : runK Tryz.prog qN Tryz.f125.ntmps cPd 40 (cA (cB (cB (cB hdCode)))) [.slot 4 (.pt 4 0), .row 4 true (e12 q), .slot 3 (.pt 3 0), .row 3 true (e12 s), .slot 1 (.pt 1 0), .row 1 true (e12 y), .slot 2 (.pt 2 0), .row 2 true (e12 F12.zero)] [.slot 5 (.pt 5 0), .row 5 true (e12 (o6 q)), .slot 4 (.pt 4 0), .row 4 true (e12 q), .slot 3 (.pt 3 0), .row 3 true (e12 s), .slot 1 (.pt 1 0), .row 1 true (e12 y), .slot 2 (.pt 2 0), .row 2 true (e12 F12.zero)] = some ([inC q], .nrm, [.slot 5 (.pt 5 0), .row 5 true (e12 (o6 q)), .slot 4 (.pt 4 0), .row 4 true (e12 q), .slot 3 (.pt 3 0), .row 3 true (e12 s), .slot 1 (.pt 1 0), .row 1 true (e12 y), .slot 2 (.pt 2 0), .row 2 true (e12 F12.zero)]) := by kernel_rfl
set_option maxRecDepth 100000 in
theorem hd_s4 (y s q c : Q12) : runK Tryz.prog qN Tryz.f125.ntmps cPd 40 (cA (cB (cB (cB (cB hdCode))))) [.slot 5 (.pt 5 0), .row 5 true (e12 c), .slot 4 (.pt 4 0), .row 4 true (e12 q), .slot 3 (.pt 3 0), .row 3 true (e12 s), .slot 1 (.pt 1 0), .row 1 true (e12 y), .slot 2 (.pt 2 0), .row 2 true (e12 F12.zero)] [.slot 6 (.pt 6 0), .row 6 true (e12 (F12.mul q q)), .slot 5 (.pt 5 0), .row 5 true (e12 c), .slot 4 (.pt 4 0), .row 4 true (e12 q), .slot 3 (.pt 3 0), .row 3 true (e12 s), .slot 1 (.pt 1 0), .row 1 true (e12 y), .slot 2 (.pt 2 0), .row 2 true (e12 F12.zero)] = some ([inC q], .nrm, [.slot 6 (.pt 6 0), .row 6 true (e12 (F12.mul q q)), .slot 5 (.pt 5 0), .row 5 true (e12 c), .slot 4 (.pt 4 0), .row 4 true (e12 q), .slot 3 (.pt 3 0), .row 3 true (e12 s), .slot 1 (.pt 1 0), .row 1 true (e12 y), .slot 2 (.pt 2 0), .row 2 true (e12 F12.zero)]) := by kernel_rfl
set_option maxRecDepth 100000 in
theorem hd_s5 (y s q c t : Q12) : runK Tryz.prog qN Tryz.f125.ntmps cPd 40 (cA (cB (cB (cB (cB (cB hdCode)))))) [.slot 6 (.pt 6 0), .row 6 true (e12 t), .slot 5 (.pt 5 0), .row 5 true (e12 c), .slot 4 (.pt 4 0), .row 4 true (e12 q), .slot 3 (.pt 3 0), .row 3 true (e12 s), .slot 1 (.pt 1 0), .row 1 true (e12 y), .slot 2 (.pt 2 0), .row 2 true (e12 F12.zero)] [.slot 7 (.pt 7 0), .row 7 true (e12 (F12.mul (F12.mul (F12.mul c q) t) (F12.mul s s))), .slot 6 (.pt 6 0), .row 6 true (e12 t), .slot 5 (.pt 5 0), .row 5 true (e12 c), .slot 4 (.pt 4 0), .row 4 true (e12 q), .slot 3 (.pt 3 0), .row 3 true (e12 s), .slot 1 (.pt 1 0), .row 1 true (e12 y), .slot 2 (.pt 2 0), .row 2 true (e12 F12.zero)] = some ([inC s], .nrm, [.slot 7 (.pt 7 0), .row 7 true (e12 (F12.mul (F12.mul (F12.mul c q) t) (F12.mul s s))), .slot 6 (.pt 6 0), .row 6 true (e12 t), .slot 5 (.pt 5 0), .row 5 true (e12 c), .slot 4 (.pt 4 0), .row 4 true (e12 q), .slot 3 (.pt 3 0), .row 3 true (e12 s), .slot 1 (.pt 1 0), .row 1 true (e12 y), .slot 2 (.pt 2 0), .row 2 true (e12 F12.zero)]) := by kernel_rfl
set_option maxRecDepth 100000 in
theorem hd_s6 (y s q c t g : Q12) : runK Tryz.prog qN Tryz.f125.ntmps cPd 40 (cA (cB (cB (cB (cB (cB (cB hdCode))))))) [.slot 7 (.pt 7 0), .row 7 true (e12 g), .slot 6 (.pt 6 0), .row 6 true (e12 t), .slot 5 (.pt 5 0), .row 5 true (e12 c), .slot 4 (.pt 4 0), .row 4 true (e12 q), .slot 3 (.pt 3 0), .row 3 true (e12 s), .slot 1 (.pt 1 0), .row 1 true (e12 y), .slot 2 (.pt 2 0), .row 2 true (e12 F12.zero)] [.slot 8 (.pt 8 0), .row 8 true (e12 (F12.mul (F12.mul (F12.mul g t) s) (F12.mul y y))), .slot 7 (.pt 7 0), .row 7 true (e12 g), .slot 6 (.pt 6 0), .row 6 true (e12 t), .slot 5 (.pt 5 0), .row 5 true (e12 c), .slot 4 (.pt 4 0), .row 4 true (e12 q), .slot 3 (.pt 3 0), .row 3 true (e12 s), .slot 1 (.pt 1 0), .row 1 true (e12 y), .slot 2 (.pt 2 0), .row 2 true (e12 F12.zero)] = some ([inC y], .nrm, [.slot 8 (.pt 8 0), .row 8 true (e12 (F12.mul (F12.mul (F12.mul g t) s) (F12.mul y y))), .slot 7 (.pt 7 0), .row 7 true (e12 g), .slot 6 (.pt 6 0), .row 6 true (e12 t), .slot 5 (.pt 5 0), .row 5 true (e12 c), .slot 4 (.pt 4 0), .row 4 true (e12 q), .slot 3 (.pt 3 0), .row 3 true (e12 s), .slot 1 (.pt 1 0), .row 1 true (e12 y), .slot 2 (.pt 2 0), .row 2 true (e12 F12.zero)]) := by kernel_rfl
set_option maxRecDepth 100000 in
theorem hd_s7 (y s q c t g h : Q12) : runK Tryz.prog qN Tryz.f125.ntmps cPd 40 (cB (cB (cB (cB (cB (cB (cB hdCode))))))) [.slot 8 (.pt 8 0), .row 8 true (e12 h), .slot 7 (.pt 7 0), .row 7 true (e12 g), .slot 6 (.pt 6 0), .row 6 true (e12 t), .slot 5 (.pt 5 0), .row 5 true (e12 c), .slot 4 (.pt 4 0), .row 4 true (e12 q), .slot 3 (.pt 3 0), .row 3 true (e12 s), .slot 1 (.pt 1 0), .row 1 true (e12 y), .slot 2 (.pt 2 0), .row 2 true (e12 F12.zero)] [.slot 2 (.pt 2 0), .row 2 true (e12 (F12.mul (F12.mul (F12.mul (it12 (rest12N 3).toNat y) (it12 (rest12N 2).toNat (F12.mul y q))) (it12 (rest12N 1).toNat (F12.mul y (cj12 g)))) (cj12 h)))] = some ([], .rt, [.slot 2 (.pt 2 0), .row 2 true (e12 (F12.mul (F12.mul (F12.mul (it12 (rest12N 3).toNat y) (it12 (rest12N 2).toNat (F12.mul y q))) (it12 (rest12N 1).toNat (F12.mul y (cj12 g)))) (cj12 h)))]) := by kernel_rfl
theorem hd_code : hdCode = .seq (cA hdCode) (.seq (cA (cB hdCode)) (.seq (cA (cB (cB hdCode))) (.seq (cA (cB (cB (cB hdCode)))) (.seq (cA (cB (cB (cB (cB hdCode))))) (.seq (cA (cB (cB (cB (cB (cB hdCode)))))) (.seq (cA (cB (cB (cB (cB (cB (cB hdCode))))))) ((cB (cB (cB (cB (cB (cB (cB hdCode)))))))))))))) := by kernel_rfl
theorem hard_calls (y : Q12) (hy : inC y) (args : List Value) (w : World) (ha : CAs w [.v (.fl (e12 y))] args) : Good Tryz.prog 125 (.one (.fl (e12 (hX y)))) args w := by
  have h6 : inC (hSix y) := inC_pw hy _
  have h2 : inC (hS2 y) := inC_pw h6 _
  refine fn_enter Tryz.func125 (c := hdCode) rfl ha (Nat.le_of_ble_eq_true (by kernel_rfl)) fun a w' hA => ?_
  rw [hd_code]
  refine wp_seq (runK_sound hmix (fun _ _ => ok_pd) qN_ok (hd_s0 y) trivial hA fun a w' hA => ?_)
  refine wp_seq (runK_sound hmix (fun _ _ => ok_pd) qN_ok (hd_s1 y) ⟨hy, trivial⟩ hA fun a w' hA => ?_)
  rw [show o6 y = hSix y from o6_eq y] at hA
  refine wp_seq (runK_sound hmix (fun _ _ => ok_pd) qN_ok (hd_s2 y (hSix y)) ⟨h6, trivial⟩ hA fun a w' hA => ?_)
  rw [show ox (hSix y) = hS2 y from ox_eq _] at hA
  refine wp_seq (runK_sound hmix (fun _ _ => ok_pd) qN_ok (hd_s3 y (hSix y) (hS2 y)) ⟨h2, trivial⟩ hA fun a w' hA => ?_)
  rw [show o6 (hS2 y) = hCu y from o6_eq _] at hA
  refine wp_seq (runK_sound hmix (fun _ _ => ok_pd) qN_ok (hd_s4 y (hSix y) (hS2 y) (hCu y)) ⟨h2, trivial⟩ hA fun a w' hA => ?_)
  refine wp_seq (runK_sound hmix (fun _ _ => ok_pd) qN_ok (hd_s5 y (hSix y) (hS2 y) (hCu y) (hT y)) ⟨h6, trivial⟩ hA fun a w' hA => ?_)
  refine wp_seq (runK_sound hmix (fun _ _ => ok_pd) qN_ok (hd_s6 y (hSix y) (hS2 y) (hCu y) (hT y) (hG y)) ⟨hy, trivial⟩ hA fun a w' hA => ?_)
  have h := hd_s7 y (hSix y) (hS2 y) (hCu y) (hT y) (hG y) (hR y)
  refine runK_sound hmix (fun _ _ => ok_pd) qN_ok h trivial hA fun a w' hA => ?_
  rw [← hXr_eq]
  exact fn_leave (l := [.fl (e12 (hXr y))]) (by kernel_rfl) (by kernel_rfl) hA
end Go.Proofs.YtaingnhikbaplaaGreat.Ex
