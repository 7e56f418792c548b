/-
  The reference's product's first region: three numbers' halves. Conditions: words below 2^64.
-/
import Derived.Test.YtalddekocfkbhaaMont1
import Derived.Deep.DeepCutAuto
namespace Go.Proofs.Ytalddekocfkbhaa
set_option linter.unusedVariables false
set_option linter.unusedSimpArgs false
open Go.RowKit

/-- the frame in the region, by the slots that it writes -/
def mfr (f : Int) (a0 a1 a2 a3 b0 b1 b2 b3 g4 g5 : Nat) (v6 t7 t8 t9 s21 s22 s23 s24 s25 s26 s27 : Value) : Act := { tmps := #[.int .i64 f, .agg #[.int .u64 a0, .int .u64 a1, .int .u64 a2, .int .u64 a3], .agg #[.int .u64 b0, .int .u64 b1, .int .u64 b2, .int .u64 b3], undef, .pointer (some ⟨g4, 0, none⟩), .pointer (some ⟨g5, 0, none⟩), v6, t7, t8, t9, undef, undef, undef, undef, undef, undef, undef, undef, undef, undef, undef, s21, s22, s23, s24, s25, s26, s27, undef, undef, undef, undef, undef, undef, undef, undef, undef, undef, undef, undef, undef, undef, undef, undef, undef, undef, undef, undef, undef, undef, undef, undef, undef, undef, undef, undef, undef, undef, undef, undef, undef, undef, undef, undef, undef, undef, undef, undef, undef, undef, undef, undef, undef, undef, undef, undef, undef, undef, undef, undef, undef, undef, undef, undef, undef, undef, undef, undef, undef, undef, undef, undef, undef, undef, undef, undef, undef, undef, undef, undef, undef, undef, undef, undef, undef, undef, undef, undef, undef, undef, undef, undef, undef, undef, undef, undef, undef, undef, undef, undef, undef, undef, undef, undef, undef, undef, undef, undef, undef, undef, undef, undef, undef, undef, undef, undef, undef, undef, undef, undef, undef, undef, undef, undef, undef, undef, undef], defers := [] }
def montOps (pos : String) : List Oper := [
    { dst := some 21, op := Op.load 26 (Operand.tmp 4), type := 26, pos := pos, after := #[], guard := none },
    { dst := some 22, op := Op.call { callee := Callee.value (Operand.func 106), args := #[Operand.tmp 21], argTypes := #[26] }, type := 146, pos := pos, after := #[{ on := 0, ground := Ground.data }], guard := none },
    { dst := some 23, op := Op.load 26 (Operand.tmp 5), type := 26, pos := pos, after := #[], guard := none },
    { dst := some 24, op := Op.call { callee := Callee.value (Operand.func 106), args := #[Operand.tmp 23], argTypes := #[26] }, type := 146, pos := pos, after := #[{ on := 2, ground := Ground.data }, { on := 1, ground := Ground.chain }], guard := none },
    { dst := some 25, op := Op.move (Operand.tmp 0), type := 3, pos := pos, after := #[], guard := none },
    { dst := some 26, op := Op.call { callee := Callee.value (Operand.func 44), args := #[Operand.tmp 25], argTypes := #[3] }, type := 26, pos := pos, after := #[{ on := 4, ground := Ground.data }, { on := 3, ground := Ground.chain }], guard := none },
    { dst := some 27, op := Op.call { callee := Callee.value (Operand.func 106), args := #[Operand.tmp 26], argTypes := #[26] }, type := 146, pos := pos, after := #[{ on := 5, ground := Ground.data }, { on := 5, ground := Ground.chain }], guard := none },
    { dst := some 7, op := Op.alloc 146, type := 0, pos := pos, after := #[], guard := none },
    { dst := some 8, op := Op.alloc 146, type := 0, pos := pos, after := #[], guard := none },
    { dst := some 9, op := Op.alloc 146, type := 0, pos := pos, after := #[], guard := none },
    { dst := none, op := Op.store 146 (Operand.tmp 7) (Operand.tmp 22), type := 0, pos := pos, after := #[{ on := 7, ground := Ground.data }, { on := 1, ground := Ground.data }, { on := 6, ground := Ground.chain }, { on := 0, ground := Ground.phase }, { on := 1, ground := Ground.phase }, { on := 2, ground := Ground.textOnly Departure.lateStores }, { on := 3, ground := Ground.textOnly Departure.lateStoresUnsure }, { on := 4, ground := Ground.textOnly Departure.lateStores }, { on := 5, ground := Ground.textOnly Departure.lateStoresUnsure }, { on := 6, ground := Ground.textOnly Departure.lateStoresUnsure }, { on := 7, ground := Ground.phase }, { on := 8, ground := Ground.phase }, { on := 9, ground := Ground.phase }], guard := none },
    { dst := none, op := Op.store 146 (Operand.tmp 8) (Operand.tmp 24), type := 0, pos := pos, after := #[{ on := 8, ground := Ground.data }, { on := 3, ground := Ground.data }, { on := 10, ground := Ground.chain }, { on := 0, ground := Ground.phase }, { on := 1, ground := Ground.phase }, { on := 2, ground := Ground.phase }, { on := 3, ground := Ground.phase }, { on := 4, ground := Ground.textOnly Departure.lateStores }, { on := 5, ground := Ground.textOnly Departure.lateStoresUnsure }, { on := 6, ground := Ground.textOnly Departure.lateStoresUnsure }, { on := 7, ground := Ground.phase }, { on := 8, ground := Ground.phase }, { on := 9, ground := Ground.phase }, { on := 10, ground := Ground.phase }], guard := none },
    { dst := none, op := Op.store 146 (Operand.tmp 9) (Operand.tmp 27), type := 0, pos := pos, after := #[{ on := 9, ground := Ground.data }, { on := 6, ground := Ground.data }, { on := 11, ground := Ground.chain }, { on := 0, ground := Ground.phase }, { on := 1, ground := Ground.phase }, { on := 2, ground := Ground.phase }, { on := 3, ground := Ground.phase }, { on := 4, ground := Ground.phase }, { on := 5, ground := Ground.phase }, { on := 6, ground := Ground.phase }, { on := 7, ground := Ground.phase }, { on := 8, ground := Ground.phase }, { on := 9, ground := Ground.phase }, { on := 10, ground := Ground.phase }, { on := 11, ground := Ground.phase }], guard := none }]

set_option maxRecDepth 100000 in
set_option maxHeartbeats 4000000 in
theorem three_halves (f : Int) (F : FC) (hf : FieldIs f F) (a0 a1 a2 a3 b0 b1 b2 b3 : Nat) (ha : ok4 a0 a1 a2 a3) (hb : ok4 b0 b1 b2 b3) (g4 g5 : Nat) (v6 : Value) (wr : World) (rA : Row4 wr g4 a0 a1 a2 a3) (rB : Row4 wr g5 b0 b1 b2 b3) (lA : g4 < wr.heap.size) (lB : g5 < wr.heap.size) {Q : Exit → Act → World → Prop} {pos : String} {id : Nat}
    (next : ∀ (p q r : Nat) (X Y Z : Nat → Nat) (s21 s22 s23 s24 s25 s26 s27 : Value) (u : World), ThreeH wr u p q r X Y Z (val4 a0 a1 a2 a3) (val4 b0 b1 b2 b3) F.M → Q .normal (mfr f a0 a1 a2 a3 b0 b1 b2 b3 g4 g5 v6 (.pointer (some ⟨p, 0, none⟩)) (.pointer (some ⟨q, 0, none⟩)) (.pointer (some ⟨r, 0, none⟩)) s21 s22 s23 s24 s25 s26 s27) u) :
    (Code.region id (montOps pos).toArray true).wp Try.prog Q (mfr f a0 a1 a2 a3 b0 b1 b2 b3 g4 g5 v6 undef undef undef undef undef undef undef undef undef undef) wr := by
  unfold montOps
  refine region_head 10 (fun got b u => ∃ t7 t8 t9 s21 s22 s23 s24 s25 s26 s27 : Value, b = mfr f a0 a1 a2 a3 b0 b1 b2 b3 g4 g5 v6 t7 t8 t9 s21 s22 s23 s24 s25 s26 s27 ∧ R3 got wr f F a0 a1 a2 a3 b0 b1 b2 b3 t7 t8 t9 s21 s22 s23 s24 s25 s26 s27 u) (by kernel_rfl) (by simp) (by kernel_rfl) (by kernel_rfl) (by kernel_rfl) (by kernel_rfl) ?_ ?_ ?_
  · exact ⟨undef, undef, undef, undef, undef, undef, undef, undef, undef, undef, rfl, R3.start wr f F a0 a1 a2 a3 b0 b1 b2 b3⟩
  · rintro got b u i hi h0 hr ⟨t7, t8, t9, s21, s22, s23, s24, s25, s26, s27, rfl, H⟩
    match i, hi with
    | 0, _ =>
      obtain ⟨k0, k1, k2, k3, kf⟩ := rA.below H.below lA
      have HH := Lib.hid H
      clear H hr
      refine wpOp_step rfl fun K hK => ?_
      unfold mfr
      go_simp
      exact hK _ _ ⟨_, _, _, _, _, _, _, _, _, _, rfl, HH.out.op0⟩
    | 1, _ =>
      have e0 : got 0 = true := readyB_at (e := { on := 0, ground := Ground.data }) hr rfl (by simp) rfl
      obtain rfl := H.g0 e0
      have HH := Lib.hid H
      clear H hr
      refine wpOp_step rfl fun K hK => ?_
      unfold mfr
      go_simp
      refine (halves_calls a0 a1 a2 a3 ha _).mono ?_
      rintro e u' ⟨x0, x1, x2, x3, x4, x5, x6, x7, rfl, hx, ex, hbl⟩
      exact hK _ _ ⟨_, _, _, _, _, _, _, _, _, _, rfl, (HH.out.grow hbl).op1 ⟨x0, x1, x2, x3, x4, x5, x6, x7, rfl, hx, ex⟩⟩
    | 2, _ =>
      obtain ⟨k0, k1, k2, k3, kf⟩ := rB.below H.below lB
      have HH := Lib.hid H
      clear H hr
      refine wpOp_step rfl fun K hK => ?_
      unfold mfr
      go_simp
      exact hK _ _ ⟨_, _, _, _, _, _, _, _, _, _, rfl, HH.out.op2⟩
    | 3, _ =>
      have e2 : got 2 = true := readyB_at (e := { on := 2, ground := Ground.data }) hr rfl (by simp) rfl
      obtain rfl := H.g2 e2
      have HH := Lib.hid H
      clear H hr
      refine wpOp_step rfl fun K hK => ?_
      unfold mfr
      go_simp
      refine (halves_calls b0 b1 b2 b3 hb _).mono ?_
      rintro e u' ⟨x0, x1, x2, x3, x4, x5, x6, x7, rfl, hx, ex, hbl⟩
      exact hK _ _ ⟨_, _, _, _, _, _, _, _, _, _, rfl, (HH.out.grow hbl).op3 ⟨x0, x1, x2, x3, x4, x5, x6, x7, rfl, hx, ex⟩⟩
    | 4, _ =>
      have HH := Lib.hid H
      clear H hr
      refine wpOp_step rfl fun K hK => ?_
      unfold mfr
      go_simp
      exact hK _ _ ⟨_, _, _, _, _, _, _, _, _, _, rfl, HH.out.op4⟩
    | 5, _ =>
      have e4 : got 4 = true := readyB_at (e := { on := 4, ground := Ground.data }) hr rfl (by simp) rfl
      obtain rfl := H.g4 e4
      have HH := Lib.hid H
      clear H hr
      refine wpOp_step rfl fun K hK => ?_
      unfold mfr
      go_simp
      refine (rmod_some f F hf _).mono ?_
      rintro e u' ⟨rfl, hbl⟩
      exact hK _ _ ⟨_, _, _, _, _, _, _, _, _, _, rfl, (HH.out.grow hbl).op5⟩
    | 6, _ =>
      have e5 : got 5 = true := readyB_at (e := { on := 5, ground := Ground.data }) hr rfl (by simp) rfl
      obtain rfl := H.g5 e5
      have HH := Lib.hid H
      clear H hr
      refine wpOp_step rfl fun K hK => ?_
      unfold mfr
      go_simp
      refine (halves_calls F.m0 F.m1 F.m2 F.m3 hf.ok.okm _).mono ?_
      rintro e u' ⟨x0, x1, x2, x3, x4, x5, x6, x7, rfl, hx, ex, hbl⟩
      exact hK _ _ ⟨_, _, _, _, _, _, _, _, _, _, rfl, (HH.out.grow hbl).op6 ⟨x0, x1, x2, x3, x4, x5, x6, x7, rfl, hx, ex⟩⟩
    | 7, _ =>
      have HH := Lib.hid H
      clear H hr
      refine wpOp_step rfl fun K hK => ?_
      unfold mfr
      go_simp
      exact hK _ _ ⟨_, _, _, _, _, _, _, _, _, _, rfl, HH.out.op7 _⟩
    | 8, _ =>
      have HH := Lib.hid H
      clear H hr
      refine wpOp_step rfl fun K hK => ?_
      unfold mfr
      go_simp
      exact hK _ _ ⟨_, _, _, _, _, _, _, _, _, _, rfl, HH.out.op8 _⟩
    | 9, _ =>
      have HH := Lib.hid H
      clear H hr
      refine wpOp_step rfl fun K hK => ?_
      unfold mfr
      go_simp
      exact hK _ _ ⟨_, _, _, _, _, _, _, _, _, _, rfl, HH.out.op9 _⟩
  · rintro got b u hall ⟨t7, t8, t9, s21, s22, s23, s24, s25, s26, s27, rfl, H⟩
    obtain ⟨x0, x1, x2, x3, x4, x5, x6, x7, rfl, hx, ex⟩ := H.g1 (hall 1 (by omega))
    obtain ⟨y0, y1, y2, y3, y4, y5, y6, y7, rfl, hy, ey⟩ := H.g3 (hall 3 (by omega))
    obtain ⟨z0, z1, z2, z3, z4, z5, z6, z7, rfl, hz, ez⟩ := H.g6 (hall 6 (by omega))
    obtain ⟨p, rfl, lp, up, rp⟩ := H.g7 (hall 7 (by omega))
    obtain ⟨q, rfl, lq, uq, rq⟩ := H.g8 (hall 8 (by omega))
    obtain ⟨r, rfl, lr, ur, rr⟩ := H.g9 (hall 9 (by omega))
    have pq := ptr_ne (H.n78 (hall 7 (by omega)) (hall 8 (by omega)))
    have pr := ptr_ne (H.n79 (hall 7 (by omega)) (hall 9 (by omega)))
    have qr := ptr_ne (H.n89 (hall 8 (by omega)) (hall 9 (by omega)))
    have HF := Lib.hid (ThreeH.store hx hy hz ex ey ez lp lq lr up uq ur pq pr qr rp rq rr H.below)
    have cp0 := rp.cell (show 0 < 8 by omega); have fp0 := rp.free (show 0 < 8 by omega); have cp1 := rp.cell (show 1 < 8 by omega); have fp1 := rp.free (show 1 < 8 by omega); have cp2 := rp.cell (show 2 < 8 by omega); have fp2 := rp.free (show 2 < 8 by omega); have cp3 := rp.cell (show 3 < 8 by omega); have fp3 := rp.free (show 3 < 8 by omega); have cp4 := rp.cell (show 4 < 8 by omega); have fp4 := rp.free (show 4 < 8 by omega); have cp5 := rp.cell (show 5 < 8 by omega); have fp5 := rp.free (show 5 < 8 by omega); have cp6 := rp.cell (show 6 < 8 by omega); have fp6 := rp.free (show 6 < 8 by omega); have cp7 := rp.cell (show 7 < 8 by omega); have fp7 := rp.free (show 7 < 8 by omega)
    have cq0 := rq.cell (show 0 < 8 by omega); have fq0 := rq.free (show 0 < 8 by omega); have cq1 := rq.cell (show 1 < 8 by omega); have fq1 := rq.free (show 1 < 8 by omega); have cq2 := rq.cell (show 2 < 8 by omega); have fq2 := rq.free (show 2 < 8 by omega); have cq3 := rq.cell (show 3 < 8 by omega); have fq3 := rq.free (show 3 < 8 by omega); have cq4 := rq.cell (show 4 < 8 by omega); have fq4 := rq.free (show 4 < 8 by omega); have cq5 := rq.cell (show 5 < 8 by omega); have fq5 := rq.free (show 5 < 8 by omega); have cq6 := rq.cell (show 6 < 8 by omega); have fq6 := rq.free (show 6 < 8 by omega); have cq7 := rq.cell (show 7 < 8 by omega); have fq7 := rq.free (show 7 < 8 by omega)
    have cr0 := rr.cell (show 0 < 8 by omega); have fr0 := rr.free (show 0 < 8 by omega); have cr1 := rr.cell (show 1 < 8 by omega); have fr1 := rr.free (show 1 < 8 by omega); have cr2 := rr.cell (show 2 < 8 by omega); have fr2 := rr.free (show 2 < 8 by omega); have cr3 := rr.cell (show 3 < 8 by omega); have fr3 := rr.free (show 3 < 8 by omega); have cr4 := rr.cell (show 4 < 8 by omega); have fr4 := rr.free (show 4 < 8 by omega); have cr5 := rr.cell (show 5 < 8 by omega); have fr5 := rr.free (show 5 < 8 by omega); have cr6 := rr.cell (show 6 < 8 by omega); have fr6 := rr.free (show 6 < 8 by omega); have cr7 := rr.cell (show 7 < 8 by omega); have fr7 := rr.free (show 7 < 8 by omega)
    have qp : ¬ q = p := fun e => pq e.symm
    have rp' : ¬ r = p := fun e => pr e.symm
    have rq' : ¬ r = q := fun e => qr e.symm
    have pq' : ¬ p = q := pq
    have pr' : ¬ p = r := pr
    have qr' : ¬ q = r := qr
    clear H hx hy hz ex ey ez lp lq lr up uq ur rp rq rr hall rA rB pq pr qr
    unfold mfr
    refine wpList_step fun K hK => ?_
    go_simp
    refine hK _ _ ?_
    refine wpList_step fun K2 hK2 => ?_
    go_simp
    refine hK2 _ _ ?_
    refine wpList_step fun K3 hK3 => ?_
    go_simp
    refine hK3 _ _ ?_
    refine wpList_nil ?_
    exact next _ _ _ _ _ _ _ _ _ _ _ _ _ _ HF.out
end Go.Proofs.Ytalddekocfkbhaa
