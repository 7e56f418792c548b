/-
  The pieces of bytes, handed out one after another: transcript.pieces. Conditions: as each law says.
  A list that grows in its own room, told by a box: what stays, and one element more. Of the program's lists of elements. Conditions: as each law says.
  A region that draws its order, held under a condition on the world until one last operation, which waits for all that is taken first: the condition need not stand behind that one. Of whatever program. Conditions: as each law says.
  Regions that draw their order, by hand: quiet operations, one element more in a boxed list. Conditions: as each law says.
  The elements of bytes: transcript.Elements. Conditions: at most 2^47 bytes.
  The elements of bytes, the whole call: transcript.Elements. Conditions: at most 2^47 bytes.
  The field's powers, by the bits of the exponent. Conditions: the base is an element that is kept, words below 2^64, the constants in a block of memory.
  The field's inverses, the test which of an element and its negative is lower, how often an element is squared till it is one. Conditions: elements below the modulus, words below 2^64, the constants in a block of memory.
  The field's constants by its name, the errors, and the calls Add, Sub, Mul, Neg, Check, Modulus, Lower. Conditions: words below 2^64.
  The call of limbs.Mod: the rest of a number of eight words by one of four; an error where that is 0. Conditions: each word below 2^64.
  The calls Reduce, Bytes and Read. Conditions: words below 2^64; bytes as limbs.Read reads them.
  The law TranscriptTells: its loop. Conditions: at most 2^47 bytes.
-/
import Derived.Laws.OwnMore
import Derived.Laws.MakeOwn
import Derived.OrdersHeld
import Derived.Deep.RegionHeld
import Derived.KernelRfl
import Derived.LoopTactic
import Derived.StillTailTactics
import Derived.Shelf.Strconv.Itoa0
import Derived.Shelf.Bits.Mul64
import Derived.Deep.DeepCutAuto
import Derived.Deep.LoopGhost
import Derived.Deep.RegionHeld3
import Derived.Test.YtalcpnkkbimojaaDoorTt03
import Derived.Test.YtalcpnkkbimojaaDoorProg
import Derived.Test.YtalcpnkkbimojaaDoorTt00
namespace Go.Proofs.YtalcpnkkbimojaaDoor.Ex
set_option linter.unusedVariables false
set_option linter.unusedSimpArgs false
set_option maxRecDepth 100000
open Go.RowKit

def T5n : Tab5 := fun _ _ => none
theorem T5n_ok (P : Program) : PtOk P T5n := fun _ _ _ _ _ _ h => by cases h
theorem run_cut (b N n m c n' m' : Nat) (p p' : Option Addr) : funP Tryd.prog (qPx Tryd.prog (fun _ => none) (fun _ => none) (fun _ => none) (assoc [(12, .slice p' n' m')]) T5n) (fun _ => tC T0 (assoc [(6, iI c)])) Tryd.f20 60 b N 0 [.c (.slice p n m)] [] = some ([Value.int .i64 (if Int.ofNat n < 31 then Int.ofNat n else 31) = iI c, c ≤ m, ∀ w : World, (Instr.sliceAt 22 (.slice p n m) (some (iI c)) none none).run Tryd.prog w = .ok (.slice p' n' m') w], .one (.im (.slice p c m)), [.c (.slice p' n' m')], b, N) := by kernel_rfl
theorem sl_from8 {g o n m c : Nat} (h : c ≤ n) (hm : n ≤ m) (w : World) : (Instr.sliceAt 22 (slV g o n m) (some (iI c)) none none).run Tryd.prog w = .ok (slV g (if m = c then o else o + c) (n - c) (m - c)) w := by
  by_cases e : m = c
  · rw [if_pos e]
    simp [Instr.sliceAt, Instr.slice, slV, iI, run_underlying under8, Instr.sliceBounds, Instr.sliceBound, asIntOf, runsz8, h, e]
  · rw [if_neg e]
    simp [Instr.sliceAt, Instr.slice, slV, iI, run_underlying under8, Instr.sliceBounds, Instr.sliceBound, asIntOf, runsz8, h, e, Addr.add_mid]
/-- what is left behind i pieces -/
def Rest (g o N i : Nat) (v : Value) : Prop := ∃ p m, v = .slice p (N - 31 * i) m ∧ N - 31 * i ≤ m ∧ (0 < N - 31 * i → p = some ⟨g, o + 31 * i, none⟩)
def pcN (N i : Nat) : Nat := min (N - 31 * i) 31
theorem cut_calls {w : World} {r g o N i : Nat} {v : Value} (hr : Rest g o N i v) (h0 : 0 < N - 31 * i) (hO : Own w r [.c v]) : ∃ m v', Rest g o N (i + 1) v' ∧ (∃ p' n' m', v' = .slice p' n' m') ∧ pcN N i ≤ m ∧ Calls Tryd.prog 20 #[ptV r 0] w (Wr r w (.one (.im (slV g (o + 31 * i) (pcN N i) m))) [.c v']) := by
  obtain ⟨p, m, rfl, hm, hp⟩ := hr
  obtain rfl := hp h0
  have hc : pcN N i ≤ N - 31 * i := Nat.min_le_left _ _
  have e : N - 31 * i - pcN N i = N - 31 * (i + 1) := by unfold pcN; omega
  refine ⟨m, slV g (if m = pcN N i then o + 31 * i else o + 31 * i + pcN N i) (N - 31 * i - pcN N i) (m - pcN N i), ⟨_, _, by rw [e]; rfl, by omega, fun h => ?_⟩, ⟨_, _, _, rfl⟩, by omega, ?_⟩
  · have : pcN N i = 31 := by unfold pcN; omega
    rw [if_neg (by omega), this, show o + 31 * i + 31 = o + 31 * (i + 1) by omega]
  · have h1 : Value.int .i64 (if Int.ofNat (N - 31 * i) < 31 then Int.ofNat (N - 31 * i) else 31) = iI (pcN N i) := by
      unfold pcN
      by_cases h : N - 31 * i < 31
      · rw [if_pos (by show ((N - 31 * i : Nat) : Int) < 31; omega), Nat.min_eq_left (by omega)]; rfl
      · rw [if_neg (by show ¬ ((N - 31 * i : Nat) : Int) < 31; omega), Nat.min_eq_right (by omega)]; rfl
    exact funP_sound (ts := []) hmix (fun _ _ => (T0_ok _).w _ _) (qPx_ok (T5n_ok _) _ _) Tryd.func20 (run_cut r w.heap.size (N - 31 * i) m (pcN N i) _ _ _ _) ⟨h1, by omega, fun w => sl_from8 hc hm w, trivial⟩ hO
theorem wp_callv {P : Program} {o : Oper} {a : Act} {w : World} {K : Act → World → Prop} {Q : Exit → Act → World → Prop} {x : Operand} {xs : Array Operand} {ts : Array TypeId} {id : Nat} {cap vs : Array Value} {R : Ending → World → Prop} (ho : o.op = .call ⟨.value x, xs, ts⟩) (hx : a.eval x = .func (.func id) #[] cap) (hv : xs.map a.eval = vs)
    (he : ∀ xs, (callFunc id xs).run P w = .ok (.enter id xs) w) (hc : Calls P id (vs ++ cap) w R) (hK : ∀ e w', R e w' → ∃ v, e = .returned v ∧ K (a.put o.dst v) w') : o.wp P a w K Q := by
  have hrun : (execOp a.eval o).run P w = .ok (.enter id (vs ++ cap)) w := by
    simp [execOp, ho, resolve, Deferred.ofValue, hx, hv, invoke, he]
  unfold Oper.wp
  rw [hrun]
  refine Calls.mono hc fun e w' hR => ?_
  obtain ⟨v, rfl, h⟩ := hK e w' hR
  exact h
/-- a writer of block r leaves this -/
theorem WrC.own {w w' : World} {r : Nat} {l : List At} (h : WrC w w' r) (hlt : r < w.heap.size) (hr : w'.rangeAt r 0 (flat l)) : Own w' r l := ⟨Nat.lt_of_lt_of_le hlt h.below.size, hr, h.free⟩
theorem WrC.trans {a b c : World} {r : Nat} (h : WrC a b r) (k : WrC b c r) : WrC a c r :=
  ⟨h.below.trans k.below, fun p hp hne => by
    have h1 := h.mem p hp hne
    have h2 := k.mem p (Nat.lt_of_lt_of_le hp h.below.size) hne
    exact ⟨h2.1.trans h1.1, h2.2.trans h1.2⟩, h.shape.trans k.shape, k.free⟩
theorem Holds.wrcK {nt b k : Nat} {w w' : World} {A : List Fact} {a : Act} (h : Holds nt b w A a w') {l : List At} (h1 : Fact.row k true l ∈ A) (h2 : Fact.at k b ∈ A) (h3 : Fact.at nt w.heap.size ∈ A) : WrC w w' b ∧ w'.rangeAt b 0 (flat l) := by
  obtain ⟨β, g1, g2, g3, gt⟩ := h.facts
  obtain ⟨e1, e2, e4, _⟩ := g1 _ h1
  obtain ⟨e5, e6, e7⟩ := e4 rfl
  have e3 := g1 _ h2
  have e8 := g1 _ h3
  simp only [Fact.ok] at e3 e8
  rw [e6] at e2
  rw [e3.1] at e2
  refine ⟨⟨h.below, fun p hp hne => ?_, gt.shape, fun j => ?_⟩, e2⟩
  · rcases Nat.lt_or_ge p.block b with q | q
    · exact ⟨h.below.cell q, h.below.frozen q⟩
    · exact gt.mem p (by omega) (by rw [e8.1]; exact hp)
  · have := e7 j
    rwa [e3.1] at this
/-- slots that hold these values, and one block that may be written -/
theorem Own.holds {nt k r : Nat} {w : World} {l : List At} {a : Act} {ts : List (Nat × Value)} (h : Own w r l) (hd : a.defers = []) (hs : a.tmps.size = nt) (hk : Nat.beq k nt = false) (hp : a.tmps[k]? = some (ptV r 0)) (ht : ∀ x ∈ ts, a.tmps[x.1]? = some x.2) :
    Holds nt r w (.slot k (.pt k 0) :: .row k true l :: .at k r :: .at nt w.heap.size :: ts.map fun x => .slot x.1 (.im x.2)) a w := by
  refine ⟨hd, hs, Below.refl _ _, Nat.le_of_lt h.lt, fun q => bif Nat.beq q nt then (w.heap.size, 0, 0) else (r, 0, 0), fun φ hφ => ?_, fun k1 k2 o' l1 l2 h1 h2 hne => ?_, fun k1 l1 h1 => Or.inl ?_, ?_, fun p q1 q2 => ⟨rfl, rfl⟩, Shape.refl _⟩
  · simp only [List.mem_cons, List.mem_map] at hφ
    rcases hφ with rfl | rfl | rfl | rfl | ⟨x, hx, rfl⟩
    · show a.tmps[k]? = _
      rw [hp]
      simp [AV.den, hk, Go.Proofs.YtalcpnkkbimojaaDoor.Ex.ptV]
    · refine ⟨?_, ?_, fun _ => ⟨?_, ?_, ?_⟩, fun h => by cases h⟩ <;> simp only [hk, cond_false]
      · exact h.lt
      · exact h.row
      · exact Nat.le_refl _
      · exact h.free
    · simp only [Fact.ok, hk, cond_false, and_self]
    · simp [Fact.ok]
    · exact ht x hx
  · have e : ∀ k3 o3 l3, Fact.row k3 o3 l3 ∈ (Fact.slot k (.pt k 0) :: .row k true l :: .at k r :: .at nt w.heap.size :: ts.map fun x => Fact.slot x.1 (.im x.2)) → k3 = k := fun k3 o3 l3 h3 => by
      simp only [List.mem_cons, reduceCtorEq, false_or, List.mem_map, and_false, exists_const, or_false] at h3
      cases h3; rfl
    exact (hne ((e _ _ _ h1).trans (e _ _ _ h2).symm)).elim
  · have e : k1 = k := by
      simp only [List.mem_cons, reduceCtorEq, false_or, List.mem_map, and_false, exists_const, or_false] at h1
      cases h1; rfl
    subst e
    simp only [hk, cond_false]
  · simp
noncomputable abbrev itF : Func := Tryd.f19
noncomputable def itCode : Code := (Tryd.f19.body).getD .skip
noncomputable def itLoop : Code := cIn (cIn (cB (cB itCode)))
noncomputable def itB : Code := cIn (cB itLoop)
theorem it_code : itCode = .seq (cA itCode) (.seq (cA (cB itCode)) (.block 0 (.loop itLoop))) := by kernel_rfl
theorem it_loop : itLoop = .seq (cA itLoop) (.block 1 (.seq (.region 3 (opsOf (cA itB)) false) (.cond (.tmp 14) .ret .skip))) := by kernel_rfl
def yV (l : Nat) : Value := .func (.yield l) #[] #[]
def cutV (r : Nat) : Value := .func (.func 20) #[] #[ptV r 0]
theorem it_nt : itF.ntmps = 15 := by kernel_rfl
def iA (l r N : Nat) (v : Value) : List Fact := [.slot 3 (.pt 3 0), .row 3 true [.c v], .at 3 r, .at 15 N, .slot 0 (.im (yV l)), .slot 4 (.im (cutV r))]
theorem it_s0 (w : World) (l bb n m : Nat) (p : Option Addr) : runK Tryd.prog { qG Tryd.prog with x := xO w (fun _ => none) (fun _ => none) (assoc [(5, .slice p n m)]) } itF.ntmps (fun _ => tC T0 fun _ => none) 40 (cA itCode) (argF 0 [.v (.im (yV l)), .v (.im (ptV bb 0))]) [.slot 3 (.pt 3 0), .row 3 true [.c (.slice p n m)], .slot 0 (.im (yV l))] = some ([oldOf w bb 0 [.c (.slice p n m)]], .nrm, [.slot 3 (.pt 3 0), .row 3 true [.c (.slice p n m)], .slot 0 (.im (yV l))]) := by kernel_rfl
theorem it_s1 (l r : Nat) (v : Value) : runK Tryd.prog (qG Tryd.prog) itF.ntmps (fun _ => tC T0 fun _ => none) 40 (cA (cB itCode)) [.at 3 r, .slot 3 (.pt 3 0), .row 3 true [.c v], .slot 0 (.im (yV l))] [.slot 4 (.im (cutV r)), .at 3 r, .slot 3 (.pt 3 0), .row 3 true [.c v], .slot 0 (.im (yV l))] = some ([], .nrm, [.slot 4 (.im (cutV r)), .at 3 r, .slot 3 (.pt 3 0), .row 3 true [.c v], .slot 0 (.im (yV l))]) := by kernel_rfl
theorem it_go (l r N n m : Nat) (p : Option Addr) : runK Tryd.prog (qG Tryd.prog) 15 (fun _ => tC T0 (assoc [(9, .bool true)])) 40 (cA itLoop) (iA l r N (.slice p n m)) (iA l r N (.slice p n m)) = some ([intOp .gtr .i64 (Int.ofNat n) 0 = some (.bool true)], .nrm, iA l r N (.slice p n m)) := by kernel_rfl
theorem it_end (l r N n m : Nat) (p : Option Addr) : runK Tryd.prog (qG Tryd.prog) 15 (fun _ => tC T0 (assoc [(9, .bool false)])) 40 (cA itLoop) (iA l r N (.slice p n m)) (iA l r N (.slice p n m)) = some ([intOp .gtr .i64 (Int.ofNat n) 0 = some (.bool false)], .ex 0, iA l r N (.slice p n m)) := by kernel_rfl
theorem it_mv (l r N : Nat) (v : Value) : regK Tryd.prog (qG Tryd.prog) 15 (tC T0 fun _ => none) ((opsOf (cA itB)).extract 0 2) (iA l r N v) (.slot 11 (.im (cutV r)) :: .slot 10 (.im (yV l)) :: iA l r N v) = some ([], .slot 11 (.im (cutV r)) :: .slot 10 (.im (yV l)) :: iA l r N v) := by kernel_rfl
theorem it_not (l r N : Nat) (v : Value) : regK Tryd.prog (qG Tryd.prog) 15 (tC T0 fun _ => none) ((opsOf (cA itB)).extract 4 5) [.slot 3 (.pt 3 0), .row 3 true [.c v], .at 3 r, .at 15 N, .slot 0 (.im (yV l)), .slot 4 (.im (cutV r)), .slot 13 (.im (.bool true))] (.slot 14 (.im (.bool false)) :: iA l r N v) = some ([], .slot 14 (.im (.bool false)) :: iA l r N v) := by kernel_rfl
theorem gtr0t {a : Nat} (h : 0 < a) : intOp .gtr .i64 (Int.ofNat a) 0 = some (.bool true) := by
  show some (Value.bool (decide (Int.ofNat a > 0))) = _
  rw [decide_eq_true (by show (0 : Int) < (a : Int); omega)]
theorem gtr0f {a : Nat} (h : a = 0) : intOp .gtr .i64 (Int.ofNat a) 0 = some (.bool false) := by rw [h]; rfl
theorem put_s {a : Act} {d s : Nat} {u v : Value} (h : a.tmps[s]? = some v) (hd : d ≠ s) : (a.put (some d) u).tmps[s]? = some v := by
  rw [put_ne _ _ _ _ (fun e => hd (by injection e))]; exact h
/-- what the walk's slots hold between two rounds -/
structure ItS (l r : Nat) (v : Value) (a : Act) (w : World) : Prop where
  defers : a.defers = []
  size : a.tmps.size = 15
  t0 : a.tmps[0]? = some (yV l)
  t3 : a.tmps[3]? = some (ptV r 0)
  t4 : a.tmps[4]? = some (cutV r)
  own : Own w r [.c v]
theorem ItS.holds {l r : Nat} {v : Value} {a : Act} {w : World} (h : ItS l r v a w) : Holds 15 r w (iA l r w.heap.size v) a w :=
  h.own.holds (k := 3) (ts := [(0, yV l), (4, cutV r)]) h.defers h.size rfl h.t3 (fun x hx => by
    simp only [List.mem_cons, List.not_mem_nil, or_false] at hx
    rcases hx with rfl | rfl
    · exact h.t0
    · exact h.t4)
theorem Holds.its {l r : Nat} {v : Value} {A : List Fact} {a : Act} {w w' : World} (h : Holds 15 r w A a w') (hA : ∀ φ ∈ iA l r w.heap.size v, φ ∈ A) (hlt : r < w.heap.size) : ItS l r v a w' ∧ WrC w w' r := by
  have hW := h.wrcK (k := 3) (l := [.c v]) (hA _ (by simp [iA])) (hA _ (by simp [iA])) (hA _ (by simp [iA]))
  refine ⟨⟨h.defers, h.size, h.slot (hA _ (by simp [iA])), ?_, h.slot (hA _ (by simp [iA])), hW.1.own hlt hW.2⟩, hW.1⟩
  obtain ⟨β, g1, _⟩ := h.facts
  have e1 := g1 _ (hA (.slot 3 (.pt 3 0)) (by simp [iA]))
  have e2 := g1 _ (hA (.at 3 r) (by simp [iA]))
  simp only [Fact.ok] at e1 e2
  rw [e1]
  simp [AV.den, e2, Go.Proofs.YtalcpnkkbimojaaDoor.Ex.ptV]
theorem it_calls {W1 : World} {l g o N bb : Nat} {v : Value} (hv : Rest g o N 0 v) (hbox : oldOf W1 bb 0 [.c v]) (J : Nat → Nat → World → Prop)
    (hJ0 : ∀ r W, W1.heap.size ≤ r → Below W1.heap.size W1 W → r < W.heap.size → Shape W1 W → J r 0 W) (hJw : ∀ r i W W', W1.heap.size ≤ r → J r i W → WrC W W' r → J r i W')
    (hR : ∀ r i W v' m, W1.heap.size ≤ r → 31 * i < N → J r i W → Own W r [.c v'] → pcN N i ≤ m → ∃ rec, W.heap[l]? = some (.loop rec) ∧ rec.params.size = 1 ∧
      RoundIn Fence.wide 0 Tryd.prog l rec.fn ((rec.params.zip #[slV g (o + 31 * i) (pcN N i) m]).foldl (fun t (p, v) => t.setIfInBounds p v) rec.tmps) rec.assign rec.body W fun e W' => e = .returned (.bool true) ∧ J r (i + 1) W' ∧ Own W' r [.c v']) :
    Calls Tryd.prog 19 #[yV l, ptV bb 0] W1 fun e W' => (∃ v, e = .returned v) ∧ ∃ r, J r ((N + 30) / 31) W' := by
  obtain ⟨p, m, rfl, hm, hp⟩ := hv
  have hG : ∀ base w, EqOkW Tryd.prog (qG Tryd.prog) base w := fun _ _ => (qG_ok _).w _ _
  have hT : ∀ base w, ∀ n d : Nat, TabOkW Tryd.prog T0 base w := fun _ _ _ _ => (T0_ok _).w _ _
  refine fn_enter Tryd.func19 (cs := [.v (.im (yV l)), .v (.im (ptV bb 0))]) (args := [yV l, ptV bb 0]) (c := itCode) rfl ⟨rfl, rfl, trivial⟩ (Nat.le_of_ble_eq_true (by kernel_rfl)) fun a w hA => ?_
  rw [it_code]
  refine wp_seq (runKW_sound hmix (hT _ _) (xO_ok W1 _ _ _) (it_s0 W1 l bb (N - 31 * 0) m p) ⟨hbox, trivial⟩ hA fun a w hA => ?_)
  obtain ⟨r, hA⟩ := hA.at (k := 3) (l := [.c (.slice p (N - 31 * 0) m)]) (by simp)
  refine wp_seq (runKW_sound hmix (hT _ _) (hG _ _) (it_s1 l r _) trivial hA fun a w hA => ?_)
  have hnt : Tryd.f19.ntmps = 15 := it_nt
  have hge : W1.heap.size ≤ r ∧ r < w.heap.size ∧ (∀ j, w.frozen? ⟨r, j, none⟩ = false) ∧ Shape W1 w := by
    obtain ⟨β, g1, _, _, gt⟩ := hA.facts
    obtain ⟨q1, _, q2, _⟩ := g1 (.row 3 true [.c (.slice p (N - 31 * 0) m)]) (by simp)
    have e := g1 (.at 3 r) (by simp)
    simp only [Fact.ok] at e
    obtain ⟨rfl, _⟩ := e
    exact ⟨(q2 rfl).1, q1, (q2 rfl).2.2, gt.shape⟩
  have hS : ItS l r (.slice p (N - 31 * 0) m) a w := ⟨hA.defers, hA.size.trans hnt, hA.slot (s := 0) (by simp), by
    have := hA.ptV (s := 3) (k := 3) (o := 0) (b := r) (by simp) (by simp)
    obtain ⟨β, g1, _⟩ := hA.facts
    have e1 := g1 (.slot 3 (.pt 3 0)) (by simp)
    have e2 := g1 (.at 3 r) (by simp)
    simp only [Fact.ok] at e1 e2
    rw [e1]
    simp [AV.den, e2, Go.Proofs.YtalcpnkkbimojaaDoor.Ex.ptV], hA.slot (s := 4) (by simp), hge.2.1, by
    have := hA.old (k := 3) (l := [.c (.slice p (N - 31 * 0) m)]) (b := r) (by simp) (by simp)
    exact this.2, hge.2.2.1⟩
  have hJ := hJ0 r w hge.1 hA.below hge.2.1 hge.2.2.2
  have hv : Rest g o N 0 (.slice p (N - 31 * 0) m) := ⟨p, m, rfl, hm, hp⟩
  have hB1 := hge.1
  clear hge hA hm hp hbox
  refine wp_block ?_
  refine wp_loop_un (n := (N + 30) / 31 + 1) ?_
  have wl : ∀ Q a w, (Code.seq (cA itLoop) (.block 1 (.seq (.region 3 (opsOf (cA itB)) false) (.cond (.tmp 14) .ret .skip)))).wp Tryd.prog Q a w → itLoop.wp Tryd.prog Q a w := fun Q a w h => by rw [it_loop]; exact h
  have key : ∀ k i a w v, i + k = (N + 30) / 31 → Rest g o N i v → ItS l r v a w → J r i w → Un Tryd.prog itLoop (Exit.inBlock 0 (bodyPost Tryd.prog Tryd.f19 fun e W' => (∃ v, e = .returned v) ∧ ∃ r, J r ((N + 30) / 31) W')) (k + 1) a w := by
    intro k
    induction k with
    | zero =>
      intro i a w v hi hv hS hJ
      unfold Un
      refine wl _ _ _ ?_
      obtain ⟨p, m, rfl, hm, hp⟩ := hv
      refine wp_seq (runKW_sound hmix (hT _ _) (hG _ _) (it_end l r w.heap.size (N - 31 * i) m p) ⟨gtr0f (by omega), trivial⟩ hS.holds fun a w' hA => ?_)
      obtain ⟨hS', hW⟩ := hA.its (fun φ h => h) hS.own.lt
      have hJ' := hJw r i w w' hB1 hJ hW
      have hi' : i = (N + 30) / 31 := by omega
      subst hi'
      simp only [EA.out, Exit.then, Exit.inBlock, if_true]
      refine ⟨hS'.defers, .tuple #[], ?_, ⟨_, rfl⟩, r, hJ'⟩
      simp [results, show Tryd.f19.results = #[] by kernel_rfl]
    | succ k ih =>
      intro i a w v hi hv hS hJ
      have hlt : 31 * i < N := by omega
      unfold Un
      refine wl _ _ _ ?_
      have hv0 := hv
      obtain ⟨p, m, rfl, hm, hp⟩ := hv
      refine wp_seq (runKW_sound hmix (hT _ _) (hG _ _) (it_go l r w.heap.size (N - 31 * i) m p) ⟨gtr0t (by omega), trivial⟩ hS.holds fun a1 w1 h1 => ?_)
      refine wp_block ?_
      refine wp_seq ?_
      refine (wpIn_wide (n := 1)).1 ?_
      show Code.wpIn (rF none) 1 _ _ _ _ _
      refine wpIn_region ?_
      rw [show List.range (opsOf (cA itB)).size = List.range' 0 ((opsOf (cA itB)).extract 0 2).size ++ (2 :: 3 :: (List.range' 4 ((opsOf (cA itB)).extract 4 5).size ++ [])) by kernel_rfl]
      refine part_in (c := tC T0 _) (hT _ _ 0) (hG _ _) (it_mv l r w.heap.size _) trivial (by kernel_rfl) (by kernel_rfl) h1 fun a2 w2 h2 => ?_
      obtain ⟨hS2, hW2⟩ := h2.its (fun φ h => List.mem_cons_of_mem _ (List.mem_cons_of_mem _ h)) hS.own.lt
      have t10 := h2.slot (s := 10) (v := yV l) (by simp)
      have t11 := h2.slot (s := 11) (v := cutV r) (by simp)
      obtain ⟨o2, ho2, ⟨ts2, hop2⟩, hd2, hg2⟩ : ∃ x, (opsOf (cA itB))[2]? = some x ∧ (∃ ts, x.op = .call ⟨.value (.tmp 11), #[], ts⟩) ∧ x.dst = some 12 ∧ x.guard = none := ⟨_, rfl, ⟨_, rfl⟩, rfl, rfl⟩
      obtain ⟨o3, ho3, ⟨ts3, hop3⟩, hd3, hg3⟩ : ∃ x, (opsOf (cA itB))[3]? = some x ∧ (∃ ts, x.op = .call ⟨.value (.tmp 10), #[.tmp 12], ts⟩) ∧ x.dst = some 13 ∧ x.guard = none := ⟨_, rfl, ⟨_, rfl⟩, rfl, rfl⟩
      obtain ⟨mm, v', hv', _, hmm, hcut⟩ := cut_calls hv0 (by omega) hS2.own
      refine one_in ho2 hg2 (operIn (Q := fun _ _ _ => False) (K := fun a w => wpOpsIn (rF none) 1 Tryd.prog (opsOf (cA itB)) _ (3 :: (List.range' 4 ((opsOf (cA itB)).extract 4 5).size ++ [])) a w) (fun c e => by rw [hop2] at e; cases e) (fun _ _ h => h) (fun ⟨_, _, h⟩ => h) (fun _ _ _ _ h => h.elim) (wp_callv hop2 (cap := #[ptV r 0]) (vs := #[]) (by simp [Act.eval, t11, cutV]) (by simp) (fun args => callable Tryd.func20 (by kernel_rfl) (by kernel_rfl) args _) hcut ?_))
      rintro e w3 ⟨rfl, hW3, hr3⟩
      refine ⟨_, rfl, ?_⟩
      rw [hd2]
      have hO3 : Own w3 r [.c v'] := hW3.own hS2.own.lt hr3
      have hJ3 := hJw r i w w3 hB1 hJ (hW2.trans hW3)
      obtain ⟨rec, hrec, hsz, hround⟩ := hR r i w3 v' mm hB1 hlt hJ3 hO3 hmm
      refine one_in ho3 hg3 (yield_in (l := l) (vs := #[slV g (o + 31 * i) (pcN N i) mm]) hop3 (by
        have := put_s (d := 12) (u := slV g (o + 31 * i) (pcN N i) mm) t10 (by decide)
        simp only [Act.eval]
        show (a2.put (some 12) (slV g (o + 31 * i) (pcN N i) mm)).tmps.getD 10 undef = _
        simp [this, yV]) (by
        have := put_get a2 12 (slV g (o + 31 * i) (pcN N i) mm) (by rw [hS2.size]; decide)
        show Array.map (a2.put (some 12) (slV g (o + 31 * i) (pcN N i) mm)).eval #[.tmp 12] = _
        simp [Act.eval, this]) hrec (by rw [hsz]; rfl) (hround.mono ?_))
      rintro e W' ⟨rfl, hJ', hO'⟩
      refine ⟨_, rfl, ?_⟩
      rw [hd3]
      change wpOpsIn (rF none) 1 Tryd.prog (opsOf (cA itB)) _ _ ((a2.put (some 12) (slV g (o + 31 * i) (pcN N i) mm)).put (some 13) (.bool true)) W'
      generalize ha4 : (a2.put (some 12) (slV g (o + 31 * i) (pcN N i) mm)).put (some 13) (.bool true) = a4
      have hH : Holds 15 r W' [.slot 3 (.pt 3 0), .row 3 true [.c v'], .at 3 r, .at 15 W'.heap.size, .slot 0 (.im (yV l)), .slot 4 (.im (cutV r)), .slot 13 (.im (.bool true))] a4 W' :=
        hO'.holds (k := 3) (ts := [(0, yV l), (4, cutV r), (13, .bool true)]) (by rw [← ha4]; exact hS2.defers) (by rw [← ha4]; simp only [put_size]; exact hS2.size) rfl (by rw [← ha4]; exact put_s (put_s hS2.t3 (by decide)) (by decide)) (fun x hx => by
          simp only [List.mem_cons, List.not_mem_nil, or_false] at hx
          rw [← ha4]
          rcases hx with rfl | rfl | rfl
          · exact put_s (put_s hS2.t0 (by simp)) (by simp)
          · exact put_s (put_s hS2.t4 (by simp)) (by simp)
          · exact put_get _ _ _ (by rw [put_size, hS2.size]; decide))
      refine part_in (c := tC T0 _) (hT _ _ 0) (hG _ _) (it_not l r W'.heap.size v') trivial (by kernel_rfl) (by kernel_rfl) hH fun a5 w5 h5 => ?_
      obtain ⟨hS5, hW5⟩ := h5.its (fun φ h => List.mem_cons_of_mem _ h) hO'.lt
      have hc := h5.imV (s := 14) (v := .bool false) (by simp)
      show (Code.cond (.tmp 14) .ret .skip).wp _ _ _ _
      exact wp_cond_false hc (wp_skip (ih (i + 1) a5 w5 v' (by omega) hv' hS5 (hJw r (i + 1) W' w5 hB1 hJ' hW5)))
  exact key _ 0 a w _ (by omega) hv hS hJ
end Go.Proofs.YtalcpnkkbimojaaDoor.Ex
namespace Go.Proofs.YtalcpnkkbimojaaDoor.Ex
set_option linter.unusedVariables false
set_option linter.unusedSimpArgs false
set_option maxRecDepth 100000
open Go.RowKit

/-- only blocks a and b are written, and what is younger -/
structure Only2 (a b : Nat) (w w' : World) : Prop where
  below : ∀ B, B ≤ a → B ≤ b → Below B w w'
  mem : ∀ p : Addr, p.block < w.heap.size → p.block ≠ a → p.block ≠ b → w'.cell? p = w.cell? p ∧ w'.frozen? p = w.frozen? p
  shape : Shape w w'
theorem Only2.refl (a b : Nat) (w : World) : Only2 a b w w := ⟨fun _ _ _ => Below.refl _ _, fun _ _ _ _ => ⟨rfl, rfl⟩, Shape.refl _⟩
theorem Only2.trans {a b : Nat} {u v w : World} (h : Only2 a b u v) (k : Only2 a b v w) : Only2 a b u w :=
  ⟨fun B h1 h2 => (h.below B h1 h2).trans (k.below B h1 h2), fun p hp h1 h2 => by
    have e1 := h.mem p hp h1 h2
    have e2 := k.mem p (Nat.lt_of_lt_of_le hp h.shape.2.size) h1 h2
    exact ⟨e2.1.trans e1.1, e2.2.trans e1.2⟩, h.shape.trans k.shape⟩
theorem Only2.of_below {a b : Nat} {w w' : World} (h : Below w.heap.size w w') (ha : a < w.heap.size) (hb : b < w.heap.size) : Only2 a b w w' :=
  ⟨fun B h1 h2 => h.mono (by omega), fun p hp _ _ => ⟨h.cell hp, h.frozen hp⟩, Shape.below h⟩
theorem Only2.of_grown {a b : Nat} {w w' : World} (h : w.grownBy w' (some b)) (hs : Shape w w') (hb : b < w.heap.size) (ha : a < w.heap.size) : Only2 a b w w' :=
  ⟨fun B h1 h2 => (Below.refl B w).grown h (Nat.le_trans h2 (Nat.le_of_lt hb)) (fun k e => (by cases e; exact h2)), fun p hp _ h2 => by
    have := h.block p.block hp (fun e => h2 (Option.some.inj e))
    exact ⟨World.cell?_of_block this, World.frozen?_of_block this⟩, hs⟩
theorem Only2.of_set {a b o : Nat} {w : World} {vs : List Value} : Only2 a b w (w.setCells a o vs) :=
  ⟨fun B h1 _ => setCells_below h1 _ _ _ _ (Below.refl _ _), fun p _ h1 _ => ⟨World.cell?_setCells_out _ _ _ _ _ (fun q _ => absurd q h1), World.frozen?_setCells _ _ _ _ _⟩, setCells_shape _ _ _ _⟩
theorem Only2.own {a b : Nat} {w w' : World} (h : Only2 a b w w') {r : Nat} {l : List At} (hO : Own w r l) (h1 : r ≠ a) (h2 : r ≠ b) : Own w' r l :=
  ⟨Nat.lt_of_lt_of_le hO.lt h.shape.2.size, fun j v hj => (h.mem ⟨r, 0 + j, none⟩ hO.lt h1 h2).1.trans (hO.row j v hj), fun j => (h.mem ⟨r, j, none⟩ hO.lt h1 h2).2.trans (hO.free j)⟩
theorem Only2.range {a b : Nat} {w w' : World} (h : Only2 a b w w') {r o : Nat} {l : List Value} (hlt : r < w.heap.size) (hO : w.rangeAt r o l) (h1 : r ≠ a) (h2 : r ≠ b) : w'.rangeAt r o l :=
  fun j v hj => (h.mem ⟨r, o + j, none⟩ hlt h1 h2).1.trans (hO j v hj)
/-- a box that tells a list of n elements, in room for C -/
structure ElM (w : World) (a b n C : Nat) (g : Nat → Nat) : Prop where
  box : Own w a [.c (slV b 0 n C)]
  app : AppAt w b 28 4 n C
  lt : b < w.heap.size
  row : w.rangeAt b 0 (flat (cat (el g) 0 n))
  ne : a ≠ b
theorem AppAt.free {w : World} {b e sz n C : Nat} (h : AppAt w b e sz n C) (j : Nat) : w.frozen? ⟨b, j, none⟩ = false := by
  obtain ⟨cur, h1, _⟩ := h
  simp [World.frozen?, h1]
theorem ElM.wrc {w w' : World} {a b n C r : Nat} {g : Nat → Nat} (h : ElM w a b n C g) (hW : WrC w w' r) (ha : a ≠ r) (hb : b ≠ r) : ElM w' a b n C g :=
  ⟨⟨Nat.lt_of_lt_of_le h.box.lt hW.below.size, fun j v hj => (hW.mem ⟨a, 0 + j, none⟩ h.box.lt ha).1.trans (h.box.row j v hj), fun j => (hW.mem ⟨a, j, none⟩ h.box.lt ha).2.trans (h.box.free j)⟩, h.app.shape hW.shape, Nat.lt_of_lt_of_le h.lt hW.below.size,
    fun j v hj => (hW.mem ⟨b, 0 + j, none⟩ h.lt hb).1.trans (h.row j v hj), h.ne⟩
theorem ElM.on {w w' : World} {a b n C : Nat} {g : Nat → Nat} (h : ElM w a b n C g) (hW : Below w.heap.size w w') : ElM w' a b n C g :=
  ⟨⟨Nat.lt_of_lt_of_le h.box.lt hW.size, below_range hW h.box.lt h.box.row, fun j => (hW.frozen (p := ⟨a, j, none⟩) h.box.lt).trans (h.box.free j)⟩, h.app.shape (Shape.below hW), Nat.lt_of_lt_of_le h.lt hW.size, below_range hW h.lt h.row, h.ne⟩
theorem ElM.putL {w : World} {a b n C l : Nat} {g : Nat → Nat} {r : Loop} {o : Obj} (h : ElM w a b n C g) (hl : w.heap[l]? = some (.loop r)) : ElM (w.putObj l o) a b n C g := by
  have hb : b ≠ l := fun e => by
    obtain ⟨cur, h1, _⟩ := h.app
    rw [e, hl] at h1; cases h1
  have ha : a ≠ l := fun e => by
    have := h.box.row 0 _ rfl
    rw [Nat.zero_add, e] at this
    simp [World.cell?, hl] at this
  refine ⟨⟨by rw [World.putObj_size]; exact h.box.lt, put_range hl ha h.box.row, fun j => (put_cell hl (p := ⟨a, j, none⟩) ha).2.trans (h.box.free j)⟩, ?_, by rw [World.putObj_size]; exact h.lt, put_range hl hb h.row, h.ne⟩
  obtain ⟨cur, h1, h2, h3, h4⟩ := h.app
  exact ⟨cur, (World.putObj_heap_other hb).trans h1, h2, h3, h4⟩
theorem Own.putL {w : World} {r l : Nat} {c : Value} {rec : Loop} {o : Obj} (h : Own w r [.c c]) (hl : w.heap[l]? = some (.loop rec)) : Own (w.putObj l o) r [.c c] := by
  have ha : r ≠ l := fun e => by
    have := h.row 0 _ rfl
    rw [Nat.zero_add, e] at this
    simp [World.cell?, hl] at this
  exact ⟨by rw [World.putObj_size]; exact h.lt, put_range hl ha h.row, fun j => (put_cell hl (p := ⟨r, j, none⟩) ha).2.trans (h.free j)⟩
/-- one element's cells -/
theorem q_one (x : Nat) : ∀ v ∈ flat [At.q x], v.oneCell' = true := fun v hv => by
  have e : flat [At.q x] = w4 x := by simp [flat, At.cells]
  rw [e] at hv
  simp only [w4, List.mem_cons, List.not_mem_nil, or_false] at hv
  rcases hv with rfl | rfl | rfl | rfl <;> rfl
theorem catq_len (f : Nat → Nat) : ∀ n s, (flat (cat (el f) s n)).length = n * 4
  | 0, s => rfl
  | n + 1, s => by
    show (flat (el f s ++ cat (el f) (s + 1) n)).length = _
    rw [flat_append, List.length_append, catq_len f n (s + 1)]
    show 4 + n * 4 = _
    omega
theorem catq_ext {f g : Nat → Nat} : ∀ (n s : Nat), (∀ j, j < n → f (s + j) = g (s + j)) → cat (el f) s n = cat (el g) s n
  | 0, s, h => rfl
  | n + 1, s, h => by
    have h0 : f s = g s := h 0 (by omega)
    have h1 : cat (el f) (s + 1) n = cat (el g) (s + 1) n := catq_ext n (s + 1) fun j hj => by
      have e : s + 1 + j = s + (j + 1) := by omega
      rw [e]
      exact h (j + 1) (by omega)
    show [At.q (f s)] ++ cat (el f) (s + 1) n = [At.q (g s)] ++ cat (el g) (s + 1) n
    rw [h0, h1]
theorem feT' : apT Tryd.prog 24 = some (28, 4, 32) := by kernel_rfl
/-- an element is appended in its room -/
theorem app_fits {w : World} {b n C c m x : Nat} {g : Nat → Nat} (ha : AppAt w b 28 4 n C) (hr : w.rangeAt b 0 (flat (cat (el g) 0 n))) (hx : w.rangeAt c 0 (flat [At.q x])) (hC : n + 1 ≤ C) (ty : TypeId) :
    ∃ w', (Builtin.append_ #[24, 24] ty #[slV b 0 n C, slV c 0 1 m]).run Tryd.prog w = .ok (slV b 0 (n + 1) C) w' ∧ AppAt w' b 28 4 (n + 1) C ∧
      w'.rangeAt b 0 (flat (cat (el fun j => if j < n then g j else x) 0 (n + 1))) ∧ w.grownBy w' (some b) ∧ Shape w w' := by
  obtain ⟨ht, i, z, hi, hz, hsize, hby, hzs, hsz⟩ := apT_spec feT'
  have hown := own_of ha hr (catq_len g n 0)
  have hnews : ∀ j v, (flat [At.q x])[j]? = some v → w.cell? ((⟨c, 0, none⟩ : Addr).add j) = some v := fun j v hj => by
    have := hx j v hj
    rwa [show (⟨c, 0, none⟩ : Addr).add j = ⟨c, 0 + j, none⟩ by simp [Addr.add] <;> omega]
  obtain ⟨w', hr', hown', hg⟩ := run_append_fits (P := Tryd.prog) w 0 24 ty 28 i 4 ht hi hsize b n C _ hown ⟨c, 0, none⟩ 1 m (flat [At.q x]) (by kernel_rfl) hnews (q_one x) hC
  obtain ⟨a1, a2, a3, a4, a5⟩ := own_app hown'
  refine ⟨w', hr', a1, ?_, hg, ⟨fun q cur e' hq => ?_, KeepsOthers.of_grownBy hg fun j o e ho => ?_⟩⟩
  · have e : flat (cat (el fun j => if j < n then g j else x) 0 (n + 1)) = flat (cat (el g) 0 n) ++ flat [At.q x] := by
      rw [cat_snoc, flat_append]
      congr 1
      · exact congrArg flat (catq_ext n 0 fun j hj => by rw [Nat.zero_add, if_pos hj])
      · show flat [At.q (if 0 + n < n then g (0 + n) else x)] = _
        rw [if_neg (by omega)]
    rw [e]; exact a4
  · by_cases hqb : q = b
    · subst hqb
      obtain ⟨c0, k1, k2, k3, k4⟩ := ha
      rw [k1] at hq
      cases hq
      obtain ⟨c1, m1, m2, m3, m4⟩ := a1
      exact ⟨c1, m1, by rw [m4, k4]⟩
    · exact ⟨cur, (hg.block q (Array.getElem?_eq_some_iff.1 hq).1 (by simpa using hqb)).trans hq, rfl⟩
  · obtain ⟨c0, k1, _⟩ := ha
    cases e
    rw [k1] at ho
    cases ho
    rfl
/-- a slice of one element is built -/
theorem bs_run (w : World) (x : Nat) : ∃ e, (Instr.buildSlice 24 1 #[(0, .agg (flat [At.q x]).toArray)]).run Tryd.prog w = .ok (slV w.heap.size 0 1 1) (w.alloc (.cells (flat [At.q x]).toArray e)) := by
  obtain ⟨ht, i, z, hi, hz, hsize, hby, hzs, hsz⟩ := apT_spec feT'
  refine ⟨28, run_buildSlice w 24 28 1 #[(0, .agg (flat [At.q x]).toArray)] (flat [At.q x]).toArray i z ht hi hz (by rw [hsize]; decide) (by rw [hsize]; decide) ?_⟩
  rw [hsize]
  have hl : ((Array.range (1 * 4)).map (z.cells[· % z.cells.size]!)).size = 4 := by simp
  generalize (Array.range (1 * 4)).map (z.cells[· % z.cells.size]!) = Z at hl
  obtain ⟨Z⟩ := Z
  match Z, hl with
  | [z0, z1, z2, z3], _ =>
    show Instr.fill _ _ _ = some _
    kernel_rfl
end Go.Proofs.YtalcpnkkbimojaaDoor.Ex
namespace Go.Proofs.YtalcpnkkbimojaaDoor
set_option linter.unusedVariables false

section
variable {P : Program} {ops : Array Oper} {Q : Exit → Act → World → Prop} {md : Region.Mode} {S : World → Prop} {L : Nat}

/-- Whatever order is picked: behind each operation but number L the condition stands. -/
def anyTill (P : Program) (md : Region.Mode) (ops : Array Oper) (Q : Exit → Act → World → Prop) (S : World → Prop) (L : Nat) : Nat → Array Bool → Act → World → Prop
  | 0, got, a, w => Region.ready md ops got = [] ∧ Q .normal a w
  | m + 1, got, a, w =>
    (Region.ready md ops got = [] → Q .normal a w) ∧
    ∀ i ∈ Region.ready md ops got, wpOp P ops Q i (fun b u => (i = L ∨ S u) ∧ anyTill P md ops Q S L m (got.setIfInBounds i true) b u) a w

theorem any_of_till : ∀ (m : Nat) (got : Array Bool) (a : Act) (w : World), anyTill P md ops Q S L m got a w → wpAny P md ops Q m got a w
  | 0, _, _, _, h => h
  | m + 1, _, _, _, h => ⟨h.1, fun i hi => wpOp_mono (fun b u k => any_of_till m _ b u k.2) (h.2 i hi)⟩

/-- number L waits for number i -/
def waits (md : Region.Mode) (ops : Array Oper) (L i : Nat) : Bool :=
  match ops[L]? with
  | some o => o.after.any fun e => Region.binds md e && e.on == i
  | none => false

theorem till_first {i : Nat} {oi : Oper} {v : Value} (hi : ops[i]? = some oi) (hsel : ∀ (j : Nat) (o : Oper) cs b, ops[j]? = some o → o.op ≠ .select cs b)
    (hL : waits md ops L i = true) (hQ : ∀ c a w, Q (.panic c) (a.put oi.dst v) w → Q (.panic c) a w) :
    ∀ (m : Nat) (got : Array Bool) (a : Act) (w : World),
      (∀ j oj, ops[j]? = some oj → j ≠ i → got.getD j true = false → (∀ e ∈ oj.after, Region.binds md e = true → e.on ≠ i) → oi.apart ops oj = true) →
      i ∈ Region.ready md ops got → YieldsIf P ops S oi v a → S w →
      anyTill P md ops Q S L m (got.setIfInBounds i true) (a.put oi.dst v) w → anyTill P md ops Q S L (m + 1) got a w := by
  intro m
  induction m with
  | zero =>
    intro got a w _ hr hy hS H
    refine ⟨fun h => (by rw [h] at hr; cases hr), fun j hj => ?_⟩
    by_cases hji : j = i
    · subst hji; exact hy.wpOp hi hS ⟨.inr hS, H⟩
    · have := ready_mono hj hji
      rw [H.1] at this
      cases this
  | succ m ih =>
    intro got a w hfree hr hy hS H
    refine ⟨fun h => (by rw [h] at hr; cases hr), fun j hj => ?_⟩
    by_cases hji : j = i
    · subst hji; exact hy.wpOp hi hS ⟨.inr hS, H⟩
    · obtain ⟨hun, oj, hoj, hall⟩ := mem_ready.1 hj
      have hno : ∀ e ∈ oj.after, Region.binds md e = true → e.on ≠ i := fun e he hb heq => by
        have h1 := hall e he hb
        have h0 := (mem_ready.1 hr).1
        rw [heq] at h1
        rcases Nat.lt_or_ge i got.size with h' | h'
        · simp [h'] at h0 h1; rw [h0] at h1; cases h1
        · simp [Array.getElem?_eq_none h'] at h1
      have hjL : j ≠ L := fun e => by
        subst e
        unfold waits at hL
        rw [hoj] at hL
        obtain ⟨x, hx, hx2⟩ := Array.any_eq_true'.1 hL
        simp only [Bool.and_eq_true, beq_iff_eq] at hx2
        exact hno x hx hx2.1 hx2.2
      have h2 := wpOp_putIf hoj (hfree j oj hoj hji hun hno) (fun cs b => hsel i oi cs b hi) (fun cs b => hsel j oj cs b hoj) hQ hy (H.2 j (ready_mono hj hji))
      have hfree' : ∀ k ok, ops[k]? = some ok → k ≠ i → (got.setIfInBounds j true).getD k true = false →
          (∀ e ∈ ok.after, Region.binds md e = true → e.on ≠ i) → oi.apart ops ok = true := fun k ok hk hki hu hn => by
        refine hfree k ok hk hki ?_ hn
        by_cases hjk : j = k
        · subst hjk; exact hun
        · rw [getD_set_ne true hjk] at hu; exact hu
      refine wpOp_mono (fun b u h3 => ⟨h3.2.1, ih (got.setIfInBounds j true) b u hfree' (ready_mono hr (Ne.symm hji)) h3.1 (h3.2.1.resolve_left hjL) ?_⟩) h2
      rw [Array.setIfInBounds_comm _ _ hji]
      exact h3.2.2

theorem till_take {i : Nat} {oi : Oper} {v : Value} {m : Nat} {got : Array Bool} {a : Act} {w : World} (hi : ops[i]? = some oi)
    (hs : Region.noSelect ops = true) (hf : Region.free md ops got i = true) (hr : (Region.ready md ops got).contains i = true) (hL : waits md ops L i = true)
    (hQ : ∀ c a w, Q (.panic c) (a.put oi.dst v) w → Q (.panic c) a w) (hS : S w) (hy : YieldsIf P ops S oi v a)
    (h : anyTill P md ops Q S L m (got.setIfInBounds i true) (a.put oi.dst v) w) : anyTill P md ops Q S L (m + 1) got a w :=
  till_first hi (Region.noSelect_spec hs) hL hQ m got a w (Region.free_spec hi hf) (by simpa using hr) hy hS h

/-- One operation alone may come up. -/
theorem till_step {i : Nat} {o : Oper} {m : Nat} {got : Array Bool} {a : Act} {w : World} (hr : Region.ready md ops got = [i]) (ho : ops[i]? = some o)
    (h : ∀ K : Act → World → Prop, Shut (∀ b u, (i = L ∨ S u) → ((i = L ∨ S u) → anyTill P md ops Q S L m (got.setIfInBounds i true) b u) → K b u) → if Region.wanted o (yielded ops a.tmps) = true then Oper.wp P o a w K Q else K (a.put o.dst undef) w) :
    anyTill P md ops Q S L (m + 1) got a w :=
  ⟨fun h0 => (by rw [hr] at h0; cases h0), fun j hj => by
    rw [hr] at hj
    obtain rfl : j = i := by simpa using hj
    exact wpOp_step ho (fun K hK => h K (fun b u hS hW => hK b u ⟨hS, hW hS⟩))⟩

theorem till_done {got : Array Bool} {a : Act} {w : World} (hr : Region.ready md ops got = []) (h : Q .normal a w) : anyTill P md ops Q S L 0 got a w := ⟨hr, h⟩

theorem region_till (S : World → Prop) (L : Nat) {id : Nat} {a : Act} {w : World} (hm : P.follows .mixedOrders = true)
    (h : anyTill P .any ops Q S L ops.size (Array.replicate ops.size false) a w.drew) : (Code.region id ops true).wp P Q a w :=
  wp_region_any hm (any_of_till _ _ _ _ h)
end
end Go.Proofs.YtalcpnkkbimojaaDoor
namespace Go.Proofs.YtalcpnkkbimojaaDoor.Ex
set_option linter.unusedVariables false
set_option linter.unusedSimpArgs false
set_option maxRecDepth 100000
open Go.RowKit

theorem ev_t {a : Act} {s : Nat} {v : Value} (h : a.tmps[s]? = some v) : a.eval (.tmp s) = v := by simp [Act.eval, h]
section
variable {ops : Array Oper} {o : Oper} {a : Act} {v : Value} {s : Nat} {S : World → Prop}
theorem yj_move (hop : o.op = .move (.tmp s)) (hg : o.guard = none) (h : a.tmps[s]? = some v) : YieldsIf Tryd.prog ops S o v a :=
  Or.inl ⟨by simp [Region.wanted, hg], fun wx _ => by simp only [execOp, hop, Sem.run_bind, Sem.run_pure, Result.andThen_ok, ev_t h]⟩
theorem yj_load {t b : Nat} (hop : o.op = .load t (.tmp s)) (hg : o.guard = none) (h : a.tmps[s]? = some (ptV b 0)) (ht : scalT Tryd.prog t = true) (hS : ∀ wx, S wx → wx.cell? ⟨b, 0, none⟩ = some v) : YieldsIf Tryd.prog ops S o v a :=
  Or.inl ⟨by simp [Region.wanted, hg], fun wx hw => by
    have := run_loadVar_sc (P := Tryd.prog) wx ⟨b, 0, none⟩ ht (hS wx hw)
    simp [execOp, hop, ev_t h, ptV, Instr.loadAt, Instr.sureAddr, this]⟩
theorem yj_len {t e : Nat} {p : Option Addr} {n m : Nat} (hop : o.op = .call ⟨.builtin .len, #[.tmp s], #[t]⟩) (hg : o.guard = none) (h : a.tmps[s]? = some (.slice p n m)) (hu : Tryd.prog.underlying t = some (.slice e)) : YieldsIf Tryd.prog ops S o (iI n) a :=
  Or.inl ⟨by simp [Region.wanted, hg], fun wx hw => by
    simp [execOp, hop, resolve, invoke, builtin, ev_t h, Builtin.len_, Builtin.lenOf, iI, goInt, run_underlying hu]⟩
theorem yj_conv {src dst : Nat} {u : Value} (hop : o.op = .convert src dst (.tmp s)) (hg : o.guard = none) (h : a.tmps[s]? = some v) (hc : ∀ w : World, (convert src dst v).run Tryd.prog w = .ok u w) : YieldsIf Tryd.prog ops S o u a :=
  Or.inl ⟨by simp [Region.wanted, hg], fun wx hw => by simp [execOp, hop, ev_t h, hc wx]⟩
end
theorem run_storeVar_sc {w : World} {b : Nat} {t : Nat} {v : Value} (hc : (w.cell? ⟨b, 0, none⟩).isSome = true) (hf : w.frozen? ⟨b, 0, none⟩ = false) (hi : (Tryd.prog.info? t).map (·.size) = some 1) (hv : v.cells = #[v]) (h1 : v.oneCell' = true) : (storeVar t ⟨b, 0, none⟩ v).run Tryd.prog w = .ok () (w.setCells b 0 [v]) := by
  have hst := run_storeVar_mid (P := Tryd.prog) w b 0 t #[v] (fun j hj => by
    have : j = 0 := by simp at hj; omega
    subst this
    exact ⟨hc, hf⟩) (by rw [hi]; rfl) (by simp [h1])
  unfold storeVar at hst ⊢
  rw [hv]
  exact hst
/-- the box's own words -/
def boxS (b3 bl n C : Nat) (wx : World) : Prop := wx.cell? ⟨b3, 0, none⟩ = some (slV bl 0 n C)
theorem ElM.boxS {w : World} {b3 bl n C : Nat} {g : Nat → Nat} (h : ElM w b3 bl n C g) : boxS b3 bl n C w := by
  have := h.box.row 0 _ rfl
  rwa [Nat.zero_add] at this
/-- an element is built into a slice, appended and laid into the box -/
theorem ap_tail {ops : Array Oper} {i j k : Nat} {got : Array Bool} {a : Act} {w : World} {b3 bl n C x d1 d2 s sl t3 : Nat} {g : Nat → Nat} {K : Act → World → Prop} {o1 o2 o3 : Oper}
    (hr1 : Region.ready .any ops got = [i]) (hr2 : Region.ready .any ops (got.setIfInBounds i true) = [j]) (hr3 : Region.ready .any ops ((got.setIfInBounds i true).setIfInBounds j true) = [k]) (hr4 : Region.ready .any ops (((got.setIfInBounds i true).setIfInBounds j true).setIfInBounds k true) = [])
    (ho1 : ops[i]? = some o1) (hop1 : o1.op = .buildSlice 24 1 #[(0, .tmp s)]) (hd1 : o1.dst = some d1) (hg1 : o1.guard = none)
    (ho2 : ops[j]? = some o2) (hop2 : o2.op = .call ⟨.builtin .append, #[.tmp sl, .tmp d1], #[24, 24]⟩) (hd2 : o2.dst = some d2) (hg2 : o2.guard = none)
    (ho3 : ops[k]? = some o3) (hop3 : o3.op = .store 24 (.tmp t3) (.tmp d2)) (hd3 : o3.dst = none) (hg3 : o3.guard = none)
    (hE : ElM w b3 bl n C g) (hC : n + 1 ≤ C) (hx : a.tmps[s]? = some (.agg (flat [At.q x]).toArray)) (hsl : a.tmps[sl]? = some (slV bl 0 n C)) (h3 : a.tmps[t3]? = some (ptV b3 0))
    (hne1 : d1 ≠ sl) (hne2 : d1 ≠ t3) (hne3 : d2 ≠ t3) (hlt1 : d1 < a.tmps.size) (hlt2 : d2 < a.tmps.size)
    (hK : ∀ a' w', a'.defers = a.defers → a'.tmps.size = a.tmps.size → (∀ q, d1 ≠ q → d2 ≠ q → a'.tmps[q]? = a.tmps[q]?) → Only2 b3 bl w w' → ElM w' b3 bl (n + 1) C (fun q => if q < n then g q else x) → K a' w') :
    anyTill Tryd.prog .any ops (onlyN K) (Go.Proofs.YtalcpnkkbimojaaDoor.Ex.boxS b3 bl n C) k 3 got a w := by
  refine till_step hr1 ho1 fun K1 hK1 => ?_
  rw [if_pos (by simp [Region.wanted, hg1])]
  obtain ⟨e, hb⟩ := bs_run w x
  have hrun1 : (execOp a.eval o1).run Tryd.prog w = .ok (.value (slV w.heap.size 0 1 1)) (w.alloc (.cells (flat [At.q x]).toArray e)) := by
    simp [execOp, hop1, ev_t hx, hb]
  refine wp_value hrun1 ?_
  rw [hd1]
  have hB1 : Below w.heap.size w (w.alloc (.cells (flat [At.q x]).toArray e)) := (Below.refl _ w).alloc (Nat.le_refl _) _
  have hE1 := hE.on hB1
  have hO1 : Only2 b3 bl w (w.alloc (.cells (flat [At.q x]).toArray e)) := Only2.of_below hB1 hE.box.lt hE.lt
  have hnew : (w.alloc (.cells (flat [At.q x]).toArray e)).rangeAt w.heap.size 0 (flat [At.q x]) := fun q v hq => by
    have h0 : (w.alloc (.cells (flat [At.q x]).toArray e)).heap[w.heap.size]? = some (.cells (flat [At.q x]).toArray e) := World.alloc_heap_new _ _
    rw [cell_of_row _ _ (0 + q) _ e (0, 0) h0, Nat.zero_add]
    simpa using hq
  generalize hw1 : w.alloc (.cells (flat [At.q x]).toArray e) = w1 at *
  refine hK1.out _ _ (Or.inr hE1.boxS) fun _ => ?_
  clear hK1 hrun1
  have hsl1 := put_s (d := d1) (u := slV w.heap.size 0 1 1) hsl hne1
  have hd1' := put_get a d1 (slV w.heap.size 0 1 1) hlt1
  have h31 := put_s (d := d1) (u := slV w.heap.size 0 1 1) h3 hne2
  refine till_step hr2 ho2 fun K2 hK2 => ?_
  rw [if_pos (by simp [Region.wanted, hg2])]
  obtain ⟨w2, hr, ha2, hrow2, hgr, hsh⟩ := app_fits hE1.app hE1.row hnew hC (m := 1) o2.type
  have hrun2 : (execOp (a.put (some d1) (slV w.heap.size 0 1 1)).eval o2).run Tryd.prog w1 = .ok (.value (slV bl 0 (n + 1) C)) w2 := by
    unfold execOp
    simp only [hop2, resolve, invoke, builtin, Sem.run_bind, Sem.run_pure, Result.andThen_ok, List.map_toArray, List.map_cons, List.map_nil, ev_t hsl1, ev_t hd1', hr]
  refine wp_value hrun2 ?_
  rw [hd2]
  have hO2 : Only2 b3 bl w1 w2 := Only2.of_grown hgr hsh hE1.lt hE1.box.lt
  have hbox2 : Own w2 b3 [.c (slV bl 0 n C)] := by
    have hb3 := hgr.block b3 hE1.box.lt (fun e => hE1.ne (Option.some.inj e))
    exact ⟨Nat.lt_of_lt_of_le hE1.box.lt hsh.2.size, fun q v hq => (World.cell?_of_block hb3).trans (hE1.box.row q v hq), fun q => (World.frozen?_of_block hb3).trans (hE1.box.free q)⟩
  have hS2 : Go.Proofs.YtalcpnkkbimojaaDoor.Ex.boxS b3 bl n C w2 := by
    have := hbox2.row 0 _ rfl
    rwa [Nat.zero_add] at this
  refine hK2.out _ _ (Or.inr hS2) fun _ => ?_
  clear hK2 hrun2
  have hd2' := put_get (a.put (some d1) (slV w.heap.size 0 1 1)) d2 (slV bl 0 (n + 1) C) (by rw [put_size]; exact hlt2)
  have h32 := put_s (d := d2) (u := slV bl 0 (n + 1) C) h31 hne3
  refine till_step hr3 ho3 fun K3 hK3 => ?_
  rw [if_pos (by simp [Region.wanted, hg3])]
  have hst := run_storeVar_sc (w := w2) (b := b3) (t := 24) (v := slV bl 0 (n + 1) C) (by rw [hS2]; rfl) (hbox2.free 0) (by kernel_rfl) rfl rfl
  have hrun3 : (execOp ((a.put (some d1) (slV w.heap.size 0 1 1)).put (some d2) (slV bl 0 (n + 1) C)).eval o3).run Tryd.prog w2 = .ok .skip (w2.setCells b3 0 [slV bl 0 (n + 1) C]) := by
    simp [execOp, hop3, Instr.storeAt, ev_t h32, ev_t hd2', ptV, Instr.sureAddr, hst]
  unfold Oper.wp
  rw [hrun3]
  show K3 _ _
  rw [hd3]
  refine hK3.out _ _ (Or.inl rfl) fun _ => till_done hr4 ⟨rfl, ?_⟩
  have hO3 : Only2 b3 bl w2 (w2.setCells b3 0 [slV bl 0 (n + 1) C]) := Only2.of_set
  refine hK _ _ rfl (by show (((a.put (some d1) _).put (some d2) _)).tmps.size = _; rw [put_size, put_size]) (fun q h1 h2 => by
    show (((a.put (some d1) _).put (some d2) _)).tmps[q]? = _
    rw [put_ne _ _ _ _ (fun e => h2 (by injection e)), put_ne _ _ _ _ (fun e => h1 (by injection e))]) (hO1.trans (hO2.trans hO3)) ?_
  have hlt2 : bl < w2.heap.size := Nat.lt_of_lt_of_le hE1.lt hsh.2.size
  refine ⟨⟨by rw [setCells_size]; exact hbox2.lt, fun q v hq => ?_, fun q => by rw [World.frozen?_setCells]; exact hbox2.free q⟩, ha2.shape (setCells_shape _ _ _ _), by rw [setCells_size]; exact hlt2, fun q v hq => ?_, hE.ne⟩
  · have hq0 : q = 0 := by have := (List.getElem?_eq_some_iff.1 hq).1; simpa [flat, At.cells] using this
    subst hq0
    have := World.cell?_setCells_in b3 [slV bl 0 (n + 1) C] 0 w2 (fun q hq => by
      have : q = 0 := by simpa using hq
      subst this
      rw [Nat.zero_add, hS2]; rfl) 0 (by simp)
    rw [this, ← hq]
    rfl
  · rw [World.cell?_setCells_out _ _ _ _ _ (fun e _ => absurd e.symm hE.ne)]
    exact hrow2 q v hq
/-- a region that draws, by hand, within the fence -/
theorem region_tillIn {r : Option Nat} {n : Nat} (S : World → Prop) (L : Nat) {id : Nat} {ops : Array Oper} {K : Act → World → Prop} {Q : Exit → Act → World → Prop} {a : Act} {w : World} (hnd : noDef ops = true) (h : anyTill Tryd.prog .any ops (onlyN K) S L ops.size (Array.replicate ops.size false) a w.drew) (hQ : ∀ a w, K a w → Q .normal a w) :
    (Code.region id ops true).wpIn (rF r) n Tryd.prog Q a w := by
  refine wpIn_region_draw fun t => ?_
  simp only [Region.schedule, hmix, Bool.true_or, if_true]
  have := opsIn (r := r) (n := n) (Q' := Q) (R := []) hnd onlyN_out (fun a w hK => hQ a w hK.2) (fun e a w he hK => (he hK.1).elim) _ a _ (wpAny_sound ops.size t _ a _ (any_of_till _ _ _ _ h))
  rwa [List.append_nil] at this
end Go.Proofs.YtalcpnkkbimojaaDoor.Ex
namespace Go.Proofs.YtalcpnkkbimojaaDoor.Ex
set_option linter.unusedVariables false
set_option linter.unusedSimpArgs false
set_option maxRecDepth 100000
open Go.RowKit

def pcV (bb : Nat) : Value := .func (.func 19) #[] #[ptV bb 0]
noncomputable def pcCode : Code := (Tryd.f10.body).getD .skip
theorem pc_code : pcCode = .seq (cA pcCode) (.seq (cA (cB pcCode)) .ret) := by kernel_rfl
theorem pc_s0 (p : Option Addr) (n m : Nat) : runK Tryd.prog (qG Tryd.prog) Tryd.f10.ntmps (fun _ => tC T0 fun _ => none) 40 (cA pcCode) (argF 0 [.v (.im (.slice p n m))]) [.slot 1 (.pt 1 0), .row 1 true [.c (.slice p n m)]] = some ([], .nrm, [.slot 1 (.pt 1 0), .row 1 true [.c (.slice p n m)]]) := by kernel_rfl
theorem pc_s1 (bb : Nat) (v : Value) : runK Tryd.prog (qG Tryd.prog) Tryd.f10.ntmps (fun _ => tC T0 fun _ => none) 40 (cA (cB pcCode)) [.at 1 bb, .slot 1 (.pt 1 0), .row 1 true [.c v]] [.slot 2 (.im (pcV bb)), .at 1 bb, .row 1 true [.c v]] = some ([], .nrm, [.slot 2 (.im (pcV bb)), .at 1 bb, .row 1 true [.c v]]) := by kernel_rfl
theorem pc_calls (w0 : World) (p : Option Addr) (n m : Nat) : Calls Tryd.prog 10 #[.slice p n m] w0 fun e w' => ∃ bb, e = .returned (pcV bb) ∧ Below w0.heap.size w0 w' ∧ oldOf w' bb 0 [.c (.slice p n m)] := by
  have hG : EqOkW Tryd.prog (qG Tryd.prog) w0.heap.size w0 := (qG_ok _).w _ _
  have hT : ∀ n d : Nat, TabOkW Tryd.prog T0 w0.heap.size w0 := fun _ _ => (T0_ok _).w _ _
  refine fn_enter Tryd.func10 (cs := [.v (.im (.slice p n m))]) (args := [.slice p n m]) (c := pcCode) rfl ⟨rfl, trivial⟩ (Nat.le_of_ble_eq_true (by kernel_rfl)) fun a w hA => ?_
  rw [pc_code]
  refine wp_seq (runKW_sound hmix hT hG (pc_s0 p n m) trivial hA fun a w hA => ?_)
  obtain ⟨bb, hA⟩ := hA.at (k := 1) (l := [.c (.slice p n m)]) (by simp)
  refine wp_seq (runKW_sound hmix hT hG (pc_s1 bb _) trivial hA fun a w hA => wp_ret ?_)
  have ho := hA.old (k := 1) (l := [.c (.slice p n m)]) (b := bb) (by simp) (by simp)
  exact fn_leaveR (l := [.im (pcV bb)]) (r := .one (.im (pcV bb))) (by kernel_rfl) (by kernel_rfl) hA ⟨bb, rfl, hA.below, ho⟩
/-- the elements: how many bytes, and each piece's number -/
def elN (f : Nat → Nat) (N i : Nat) : Nat := if i = 0 then N else hN (fun j => f (31 * (i - 1) + j)) (pcN N (i - 1))
noncomputable abbrev eF : Func := Tryd.f5
noncomputable def eCode : Code := (Tryd.f5.body).getD .skip
noncomputable def e1C : Code := cA (cB eCode)
noncomputable def e2C : Code := cA (cB (cB eCode))
noncomputable def eX : Code := cB (cB (cB eCode))
noncomputable def e3C : Code := cA (cA eX)
noncomputable def eRF : Code := cIn (cB (cA eX))
def rfA : Code → Code
  | .rangeFunc _ _ a _ => a
  | c => c
def rfB : Code → Code
  | .rangeFunc _ _ _ b => b
  | c => c
noncomputable def e5C : Code := cIn (rfB eRF)
theorem e_code : eCode = .seq (cA eCode) (.seq (.region 1 (opsOf e1C) false) (.seq (.region 2 (opsOf e2C) true) (.seq (.seq (.region 3 (opsOf e3C) false) (.block 0 (.rangeFunc (.tmp 18) #[19] (.region 4 (opsOf (rfA eRF)) false) (.block 1 (.region 5 (opsOf e5C) true))))) (.seq (.region 6 (opsOf (cA (cB eX))) false) .ret)))) := by kernel_rfl
theorem e_nt : eF.ntmps = 26 := by kernel_rfl
theorem e_s0 (v : Value) : runK Tryd.prog (qG Tryd.prog) 26 (fun _ => tC T0 fun _ => none) 40 (cA eCode) (argF 0 [.v (.im v)]) [.slot 0 (.im v)] = some ([], .nrm, [.slot 0 (.im v)]) := by kernel_rfl
theorem e_s1 (p : Option Addr) (N m : Nat) : regK Tryd.prog (qG Tryd.prog) 26 (tC T0 (assoc [(7, iI (N / 31)), (8, iI (2 + N / 31))])) ((opsOf e1C).extract 0 4) [.slot 0 (.im (.slice p N m))] [.slot 8 (.im (iI (2 + N / 31))), .slot 0 (.im (.slice p N m))] = some ([intOp .quo .i64 (Int.ofNat N) 31 = some (iI (N / 31)), intOp .add .i64 2 (Int.ofNat (N / 31)) = some (iI (2 + N / 31))], [.slot 8 (.im (iI (2 + N / 31))), .slot 0 (.im (.slice p N m))]) := by kernel_rfl
theorem e_s1b (v : Value) (bl C : Nat) : regK Tryd.prog (qG Tryd.prog) 26 (tC T0 fun _ => none) ((opsOf e1C).extract 5 7) [.slot 9 (.im (slV bl 0 0 C)), .slot 0 (.im v)] [.slot 3 (.pt 3 0), .row 3 true [.c (slV bl 0 0 C)], .slot 0 (.im v)] = some ([], [.slot 3 (.pt 3 0), .row 3 true [.c (slV bl 0 0 C)], .slot 0 (.im v)]) := by kernel_rfl
theorem e_s3 (v : Value) (b3 : Nat) : regK Tryd.prog (qG Tryd.prog) 26 (tC T0 fun _ => none) ((opsOf e3C).extract 0 1) [.slot 0 (.im v), .slot 3 (.im (ptV b3 0))] [.slot 17 (.im v), .slot 0 (.im v), .slot 3 (.im (ptV b3 0))] = some ([], [.slot 17 (.im v), .slot 0 (.im v), .slot 3 (.im (ptV b3 0))]) := by kernel_rfl
theorem e_s4 (v : Value) (b3 : Nat) : runK Tryd.prog (qG Tryd.prog) 26 (fun _ => tC T0 fun _ => none) 1 (.region 4 (opsOf (rfA eRF)) false) [.slot 19 (.im v), .slot 3 (.im (ptV b3 0))] [.slot 4 (.im v), .slot 3 (.im (ptV b3 0))] = some ([], .nrm, [.slot 4 (.im v), .slot 3 (.im (ptV b3 0))]) := by kernel_rfl
/-- slots that hold these values -/
theorem slots_holds {nt : Nat} {w : World} {a : Act} {ts : List (Nat × Value)} (hd : a.defers = []) (hs : a.tmps.size = nt) (ht : ∀ x ∈ ts, a.tmps[x.1]? = some x.2) : Holds nt w.heap.size w (ts.map fun x => .slot x.1 (.im x.2)) a w := by
  refine ⟨hd, hs, Below.refl _ _, Nat.le_refl _, fun _ => (w.heap.size, 0, 0), fun φ hφ => ?_, fun k k' o' l l' h1 => ?_, fun k l h1 => ?_, Nat.le_refl _, fun p h1 h2 => ⟨rfl, rfl⟩, Shape.refl _⟩
  · obtain ⟨x, hx, rfl⟩ := List.mem_map.1 hφ
    exact ht x hx
  · obtain ⟨x, _, e⟩ := List.mem_map.1 h1; cases e
  · obtain ⟨x, _, e⟩ := List.mem_map.1 h1; cases e
theorem conv64 {n : Nat} (h : n < 18446744073709551616) (w : World) : (convert 3 26 (iI n)).run Tryd.prog w = .ok (.int .u64 (Int.ofNat n)) w := by
  have h1 : Tryd.prog.underlying 3 = some (.int .i64) := by kernel_rfl
  have h2 : Tryd.prog.underlying 26 = some (.int .u64) := by kernel_rfl
  have h3 : IntKind.u64.wrap (n : Int) = n := by rw [IntKind.wrap_u64]; omega
  simp [convert, iI, run_underlying h1, run_underlying h2, h3, go_sem]
/-- room for a list -/
theorem mk_room {C : Nat} (h : C ≤ 8796093022208) (w : World) : ∃ w', (Instr.makeSlice 24 (iI 0) (iI C)).run Tryd.prog w = .ok (slV w.heap.size 0 0 C) w' ∧ Below w.heap.size w w' ∧ AppAt w' w.heap.size 28 4 0 C ∧ w'.heap.size = w.heap.size + 1 := by
  obtain ⟨ht, i, z, hi, hz, hsize, hby, hzs, hsz⟩ := apT_spec feT'
  have hr := Go.run_make (P := Tryd.prog) w 24 28 i z ht hi hz .i64 .i64 0 (C : Int) (by omega) (by omega) (by rw [hby]; omega) (by omega)
  refine ⟨_, hr, (Below.refl _ w).alloc (Nat.le_refl _) _, ⟨_, World.alloc_heap_new _ _, Nat.zero_le _, by unfold maxLen; omega, ?_⟩, by simp⟩
  simp [madeCells, hsize]
theorem nopan {K : Act → World → Prop} {c : List PanicEntry} {a a' : Act} {w w' : World} (h : onlyN K (.panic c) a w) : onlyN K (.panic c) a' w' := by cases h.1
theorem e_r5 {w : World} {a : Act} {b3 bl n C k gg oo m : Nat} {g ff : Nat → Nat} (hE : ElM w b3 bl n C g) (hC : n + 1 ≤ C) (h3 : a.tmps[3]? = some (ptV b3 0)) (h4 : a.tmps[4]? = some (slV gg oo k m)) (hB : BM w gg oo k ff) (hk1 : 1 ≤ k) (hk2 : k ≤ 31) (hsz : a.tmps.size = 26)
    {K : Act → World → Prop} (hK : ∀ a' w', Only2 b3 bl w w' → ElM w' b3 bl (n + 1) C (fun q => if q < n then g q else hN ff k) → K a' w') :
    anyTill Tryd.prog .any (opsOf e5C) (onlyN K) (boxS b3 bl n C) 5 (opsOf e5C).size (Array.replicate (opsOf e5C).size false) a w.drew := by
  have hd : Below w.heap.size w w.drew := (Below.refl _ w).drew
  have hE := hE.on hd
  obtain ⟨o0, ho0, hop0, hd0, hg0⟩ : ∃ x, (opsOf e5C)[0]? = some x ∧ x.op = .load 24 (.tmp 3) ∧ x.dst = some 20 ∧ x.guard = none := ⟨_, rfl, rfl, rfl, rfl⟩
  refine till_take (i := 0) (v := slV bl 0 n C) ho0 (by kernel_rfl) (by kernel_rfl) (by kernel_rfl) (by kernel_rfl) (fun _ _ _ h => nopan h) hE.boxS (yj_load hop0 hg0 h3 (by kernel_rfl) fun _ h => h) ?_
  rw [hd0]
  obtain ⟨o1, ho1, hop1, hd1, hg1⟩ : ∃ x, (opsOf e5C)[1]? = some x ∧ x.op = .move (.tmp 4) ∧ x.dst = some 21 ∧ x.guard = none := ⟨_, rfl, rfl, rfl, rfl⟩
  refine till_take (i := 1) (v := slV gg oo k m) ho1 (by kernel_rfl) (by kernel_rfl) (by kernel_rfl) (by kernel_rfl) (fun _ _ _ h => nopan h) hE.boxS (yj_move hop1 hg1 (put_s h4 (by decide))) ?_
  rw [hd1]
  obtain ⟨o2, ho2, ⟨ts2, hop2⟩, hd2, hg2⟩ : ∃ x, (opsOf e5C)[2]? = some x ∧ (∃ ts, x.op = .call ⟨.value (.func 11), #[.tmp 21], ts⟩) ∧ x.dst = some 22 ∧ x.guard = none := ⟨_, rfl, ⟨_, rfl⟩, rfl, rfl⟩
  refine till_step (i := 2) (by kernel_rfl) ho2 fun K2 hK2 => ?_
  rw [if_pos (by simp [Region.wanted, hg2])]
  have h21 : ((a.put (some 20) (slV bl 0 n C)).put (some 21) (slV gg oo k m)).tmps[21]? = some (slV gg oo k m) := put_get _ _ _ (by rw [put_size, hsz]; decide)
  refine wp_call_at hop2 (vs := [slV gg oo k m]) (by simp [ev_t h21]) (fun args => callable Tryd.func11 (by kernel_rfl) (by kernel_rfl) args _) (nm_calls (hB.on hd) hk1 hk2) fun w2 hb2 => ?_
  rw [hd2]
  have hE2 := hE.on hb2
  refine hK2.out _ _ (Or.inr hE2.boxS) fun _ => ?_
  clear hK2
  obtain ⟨o3, ho3, hop3, hd3, hg3⟩ : ∃ x, (opsOf e5C)[3]? = some x ∧ x.op = .buildSlice 24 1 #[(0, .tmp 22)] ∧ x.dst = some 23 ∧ x.guard = none := ⟨_, rfl, rfl, rfl, rfl⟩
  obtain ⟨o4, ho4, hop4, hd4, hg4⟩ : ∃ x, (opsOf e5C)[4]? = some x ∧ x.op = .call ⟨.builtin .append, #[.tmp 20, .tmp 23], #[24, 24]⟩ ∧ x.dst = some 24 ∧ x.guard = none := ⟨_, rfl, rfl, rfl, rfl⟩
  obtain ⟨o5, ho5, hop5, hd5, hg5⟩ : ∃ x, (opsOf e5C)[5]? = some x ∧ x.op = .store 24 (.tmp 3) (.tmp 24) ∧ x.dst = none ∧ x.guard = none := ⟨_, rfl, rfl, rfl, rfl⟩
  exact ap_tail (by kernel_rfl) (by kernel_rfl) (by kernel_rfl) (by kernel_rfl) ho3 hop3 hd3 hg3 ho4 hop4 hd4 hg4 ho5 hop5 hd5 hg5 hE2 hC
    (put_get _ _ _ (by rw [put_size, put_size, hsz]; decide)) (put_s (put_s (put_get _ _ _ (by rw [hsz]; decide)) (by decide)) (by decide)) (put_s (put_s (put_s h3 (by decide)) (by decide)) (by decide)) (by decide) (by decide) (by decide) (by rw [put_size, put_size, put_size, hsz]; decide) (by rw [put_size, put_size, put_size, hsz]; decide)
    fun a' w' _ _ _ hO hE' => hK a' w' ((Only2.of_below hd (by exact hE.box.lt) (by exact hE.lt)).trans ((Only2.of_below hb2 hE.box.lt hE.lt).trans hO)) hE'
theorem e_r2 {w : World} {a : Act} {b3 bl C N m : Nat} {p : Option Addr} {g : Nat → Nat} (hE : ElM w b3 bl 0 C g) (hC : 1 ≤ C) (hN : N < 18446744073709551616) (h0 : a.tmps[0]? = some (.slice p N m)) (h3 : a.tmps[3]? = some (ptV b3 0)) (hsz : a.tmps.size = 26)
    {K : Act → World → Prop} (hK : ∀ a' w', a'.defers = a.defers → a'.tmps.size = 26 → a'.tmps[0]? = some (.slice p N m) → a'.tmps[3]? = some (ptV b3 0) → Only2 b3 bl w w' → ElM w' b3 bl 1 C (fun q => if q < 0 then g q else N) → K a' w') :
    anyTill Tryd.prog .any (opsOf e2C) (onlyN K) (boxS b3 bl 0 C) 7 (opsOf e2C).size (Array.replicate (opsOf e2C).size false) a w.drew := by
  have hd : Below w.heap.size w w.drew := (Below.refl _ w).drew
  have hE := hE.on hd
  obtain ⟨o0, ho0, hop0, hd0, hg0⟩ : ∃ x, (opsOf e2C)[0]? = some x ∧ x.op = .load 24 (.tmp 3) ∧ x.dst = some 10 ∧ x.guard = none := ⟨_, rfl, rfl, rfl, rfl⟩
  refine till_take (i := 0) (v := slV bl 0 0 C) ho0 (by kernel_rfl) (by kernel_rfl) (by kernel_rfl) (by kernel_rfl) (fun _ _ _ h => nopan h) hE.boxS (yj_load hop0 hg0 h3 (by kernel_rfl) fun _ h => h) ?_
  rw [hd0]
  obtain ⟨o1, ho1, hop1, hd1, hg1⟩ : ∃ x, (opsOf e2C)[1]? = some x ∧ x.op = .move (.tmp 0) ∧ x.dst = some 11 ∧ x.guard = none := ⟨_, rfl, rfl, rfl, rfl⟩
  refine till_take (i := 1) (v := .slice p N m) ho1 (by kernel_rfl) (by kernel_rfl) (by kernel_rfl) (by kernel_rfl) (fun _ _ _ h => nopan h) hE.boxS (yj_move hop1 hg1 (put_s h0 (by decide))) ?_
  rw [hd1]
  have hg11 : ((a.put (some 10) (slV bl 0 0 C)).put (some 11) (.slice p N m)).tmps[11]? = some (.slice p N m) := put_get _ _ _ (by rw [put_size, hsz]; decide)
  obtain ⟨o2, ho2, hop2, hd2, hg2⟩ : ∃ x, (opsOf e2C)[2]? = some x ∧ x.op = .call ⟨.builtin .len, #[.tmp 11], #[22]⟩ ∧ x.dst = some 12 ∧ x.guard = none := ⟨_, rfl, rfl, rfl, rfl⟩
  refine till_take (i := 2) (v := iI N) ho2 (by kernel_rfl) (by kernel_rfl) (by kernel_rfl) (by kernel_rfl) (fun _ _ _ h => nopan h) hE.boxS (yj_len hop2 hg2 hg11 under8) ?_
  rw [hd2]
  have hg12 : (((a.put (some 10) (slV bl 0 0 C)).put (some 11) (.slice p N m)).put (some 12) (iI N)).tmps[12]? = some (iI N) := put_get _ _ _ (by rw [put_size, put_size, hsz]; decide)
  obtain ⟨o3, ho3, hop3, hd3, hg3⟩ : ∃ x, (opsOf e2C)[3]? = some x ∧ x.op = .convert 3 26 (.tmp 12) ∧ x.dst = some 13 ∧ x.guard = none := ⟨_, rfl, rfl, rfl, rfl⟩
  refine till_take (i := 3) (v := .int .u64 (Int.ofNat N)) ho3 (by kernel_rfl) (by kernel_rfl) (by kernel_rfl) (by kernel_rfl) (fun _ _ _ h => nopan h) hE.boxS (yj_conv hop3 hg3 hg12 (conv64 hN)) ?_
  rw [hd3]
  have hg13 : ((((a.put (some 10) (slV bl 0 0 C)).put (some 11) (.slice p N m)).put (some 12) (iI N)).put (some 13) (.int .u64 (Int.ofNat N))).tmps[13]? = some (.int .u64 (Int.ofNat N)) := put_get _ _ _ (by rw [put_size, put_size, put_size, hsz]; decide)
  obtain ⟨o4, ho4, ⟨ts4, hop4⟩, hd4, hg4⟩ : ∃ x, (opsOf e2C)[4]? = some x ∧ (∃ ts, x.op = .call ⟨.value (.func 9), #[.tmp 13], ts⟩) ∧ x.dst = some 14 ∧ x.guard = none := ⟨_, rfl, ⟨_, rfl⟩, rfl, rfl⟩
  refine till_step (i := 4) (by kernel_rfl) ho4 fun K4 hK4 => ?_
  rw [if_pos (by simp [Region.wanted, hg4])]
  refine wp_call_at hop4 (vs := [.int .u64 (Int.ofNat N)]) (List.cons_eq_cons.2 ⟨ev_t hg13, rfl⟩) (fun args => callable Tryd.func9 (by kernel_rfl) (by kernel_rfl) args _) (r_of [.v (.im (.int .u64 (Int.ofNat N)))] _ _ rfl ⟨hN, trivial⟩ [.int .u64 (Int.ofNat N)] w.drew ⟨rfl, trivial⟩) fun w2 hb2 => ?_
  rw [hd4]
  have hE2 := hE.on hb2
  refine hK4.out _ _ (Or.inr hE2.boxS) fun _ => ?_
  clear hK4
  obtain ⟨o5, ho5, hop5, hd5, hg5⟩ : ∃ x, (opsOf e2C)[5]? = some x ∧ x.op = .buildSlice 24 1 #[(0, .tmp 14)] ∧ x.dst = some 15 ∧ x.guard = none := ⟨_, rfl, rfl, rfl, rfl⟩
  obtain ⟨o6, ho6, hop6, hd6, hg6⟩ : ∃ x, (opsOf e2C)[6]? = some x ∧ x.op = .call ⟨.builtin .append, #[.tmp 10, .tmp 15], #[24, 24]⟩ ∧ x.dst = some 16 ∧ x.guard = none := ⟨_, rfl, rfl, rfl, rfl⟩
  obtain ⟨o7, ho7, hop7, hd7, hg7⟩ : ∃ x, (opsOf e2C)[7]? = some x ∧ x.op = .store 24 (.tmp 3) (.tmp 16) ∧ x.dst = none ∧ x.guard = none := ⟨_, rfl, rfl, rfl, rfl⟩
  exact ap_tail (n := 0) (x := N) (by kernel_rfl) (by kernel_rfl) (by kernel_rfl) (by kernel_rfl) ho5 hop5 hd5 hg5 ho6 hop6 hd6 hg6 ho7 hop7 hd7 hg7 hE2 hC
    (put_get _ _ _ (by simp only [put_size, hsz]; decide)) (put_s (put_s (put_s (put_s (put_get _ _ _ (by rw [hsz]; decide)) (by decide)) (by decide)) (by decide)) (by decide)) (put_s (put_s (put_s (put_s (put_s h3 (by decide)) (by decide)) (by decide)) (by decide)) (by decide)) (by decide) (by decide) (by decide) (by simp only [put_size, hsz]; decide) (by simp only [put_size, hsz]; decide)
    fun a' w' e1 e2 e3 hO hE' => hK a' w' e1 (by rw [e2]; simp only [put_size, hsz]) ((e3 0 (by decide) (by decide)).trans (put_s (put_s (put_s (put_s (put_s h0 (by decide)) (by decide)) (by decide)) (by decide)) (by decide))) ((e3 3 (by decide) (by decide)).trans (put_s (put_s (put_s (put_s (put_s h3 (by decide)) (by decide)) (by decide)) (by decide)) (by decide))) ((Only2.of_below hd (by exact hE.box.lt) (by exact hE.lt)).trans ((Only2.of_below hb2 hE.box.lt hE.lt).trans hO)) hE'
end Go.Proofs.YtalcpnkkbimojaaDoor.Ex
namespace Go.Proofs.YtalcpnkkbimojaaDoor.Ex
set_option linter.unusedVariables false
set_option linter.unusedSimpArgs false
set_option maxRecDepth 100000
open Go.RowKit

/-- a slice of bytes -/
def BV (w : World) (v : Value) (N : Nat) (f : Nat → Nat) : Prop := ∃ p m, v = .slice p N m ∧ N ≤ m ∧ (∀ j, f j < 256) ∧ (0 < N → ∃ g o, p = some ⟨g, o, none⟩ ∧ BM w g o N f)
theorem BV.on {w w' : World} {v : Value} {N : Nat} {f : Nat → Nat} (h : BV w v N f) (hb : Below w.heap.size w w') : BV w' v N f := by
  obtain ⟨p, m, h1, h2, h3, h4⟩ := h
  exact ⟨p, m, h1, h2, h3, fun h => by
    obtain ⟨g, o, e, h5⟩ := h4 h
    exact ⟨g, o, e, h5.on hb⟩⟩
theorem ElM.congr {w : World} {a b n C : Nat} {g g' : Nat → Nat} (h : ElM w a b n C g) (he : ∀ j, j < n → g j = g' j) : ElM w a b n C g' :=
  by
  have e := catq_ext (f := g) (g := g') n 0 fun j hj => (by rw [Nat.zero_add]; exact he j hj)
  exact ⟨h.box, h.app, h.lt, by rw [← e]; exact h.row, h.ne⟩
theorem e_s6 (W : World) (b3 bl n C : Nat) : runK Tryd.prog { qG Tryd.prog with x := xO W (fun _ => none) (fun _ => none) (assoc [(25, slV bl 0 n C)]) } 26 (fun _ => tC T0 fun _ => none) 1 (.region 6 (opsOf (cA (cB eX))) false) [.slot 3 (.im (ptV b3 0))] [.slot 2 (.im (slV bl 0 n C))] = some ([oldOf W b3 0 [.c (slV bl 0 n C)]], .nrm, [.slot 2 (.im (slV bl 0 n C))]) := by kernel_rfl
/-- the whole's word between two rounds -/
structure EJ (n0 : Nat) (w0 : World) (b3 bl C D : Nat) (f : Nat → Nat) (N : Nat) (rec : Loop) (r i : Nat) (W : World) : Prop where
  below : Below n0 w0 W
  el : ElM W b3 bl (1 + i) C (elN f N)
  n3 : b3 ≠ r
  nb : bl ≠ r
  hD : W.heap[D]? = some (.deferred (some []))
  hl : W.heap[D + 1]? = some (.loop rec)
theorem EJ.wrc {n0 : Nat} {w0 : World} {b3 bl C D : Nat} {f : Nat → Nat} {N : Nat} {rec : Loop} {r i : Nat} {W W' : World} (h : EJ n0 w0 b3 bl C D f N rec r i W) (hn : n0 ≤ r) (hW : WrC W W' r) : EJ n0 w0 b3 bl C D f N rec r i W' :=
  ⟨h.below.trans (hW.below.mono hn), h.el.wrc hW h.n3 h.nb, h.n3, h.nb, hW.shape.2.same _ _ h.hD rfl, hW.shape.2.same _ _ h.hl rfl⟩
theorem EJ.on {n0 : Nat} {w0 : World} {b3 bl C D : Nat} {f : Nat → Nat} {N : Nat} {rec : Loop} {r i : Nat} {W W' : World} (h : EJ n0 w0 b3 bl C D f N rec r i W) (hn : n0 ≤ W.heap.size) (hW : Below W.heap.size W W') : EJ n0 w0 b3 bl C D f N rec r i W' :=
  ⟨h.below.trans (hW.mono hn), h.el.on hW, h.n3, h.nb, (Shape.below hW).2.same _ _ h.hD rfl, (Shape.below hW).2.same _ _ h.hl rfl⟩
/-- a round -/
theorem e_round {n0 : Nat} {w0 : World} {b3 bl C D g o N r i m : Nat} {f : Nat → Nat} {rec : Loop} {W : World} {v' : Value} {a0 : Act} (hn0 : n0 ≤ D) (hn3 : n0 ≤ b3) (hnb : n0 ≤ bl) (hJ : EJ n0 w0 b3 bl C D f N rec r i W) (hO : Own W r [.c v']) (hB : BM W g o N f) (hi : 31 * i < N) (hC : 1 + i + 1 ≤ C)
    (hr : rec.state = .ready) (hp : rec.pending = none) (hps : rec.params = #[19]) (ht : rec.tmps = a0.tmps) (hsz : a0.tmps.size = 26) (h3 : a0.tmps[3]? = some (ptV b3 0)) (has : rec.assign = .region 4 (opsOf (rfA eRF)) false) (hbo : rec.body = .block 1 (.region 5 (opsOf e5C) true)) :
    RoundIn Fence.wide 0 Tryd.prog (D + 1) rec.fn ((rec.params.zip #[slV g (o + 31 * i) (pcN N i) m]).foldl (fun t (p, v) => t.setIfInBounds p v) rec.tmps) rec.assign rec.body W fun e W' => e = .returned (.bool true) ∧ EJ n0 w0 b3 bl C D f N rec r (i + 1) W' ∧ Own W' r [.c v'] := by
  have htm : (rec.params.zip #[slV g (o + 31 * i) (pcN N i) m]).foldl (fun t (p, v) => t.setIfInBounds p v) rec.tmps = (a0.put (some 19) (slV g (o + 31 * i) (pcN N i) m)).tmps := by
    rw [hps, ht]; simp [Act.put]
  rw [htm, has, hbo]
  have hnW : n0 ≤ W.heap.size := Nat.le_trans hnb (Nat.le_of_lt hJ.el.lt)
  have hH : Holds 26 W.heap.size W [.slot 19 (.im (slV g (o + 31 * i) (pcN N i) m)), .slot 3 (.im (ptV b3 0))] { tmps := (a0.put (some 19) (slV g (o + 31 * i) (pcN N i) m)).tmps, defers := [] } W :=
    slots_holds (ts := [(19, slV g (o + 31 * i) (pcN N i) m), (3, ptV b3 0)]) rfl (by show (a0.put (some 19) _).tmps.size = 26; rw [put_size, hsz]) (fun x hx => by
      simp only [List.mem_cons, List.not_mem_nil, or_false] at hx
      rcases hx with rfl | rfl
      · exact put_get _ _ _ (by rw [hsz]; decide)
      · exact put_s h3 (by simp))
  have hT : ∀ base w, ∀ d : Nat, TabOkW Tryd.prog T0 base w := fun _ _ _ => (T0_ok _).w _ _
  refine round_of (K0 := fun a w => Holds 26 W.heap.size W [.slot 4 (.im (slV g (o + 31 * i) (pcN N i) m)), .slot 3 (.im (ptV b3 0))] a w) (reg_in (c := tC T0 _) hmix (hT _ _) ((qG_ok _).w _ _) (e_s4 (slV g (o + 31 * i) (pcN N i) m) b3) trivial (by kernel_rfl) hH fun a w hA => ⟨rfl, hA⟩) fun a1 w1 hA1 => ?_
  have hb1 := hA1.below
  have hJ1 := hJ.on hnW hb1
  have hO1 : Own w1 r [.c v'] := ⟨Nat.lt_of_lt_of_le hO.lt hb1.size, below_range hb1 hO.lt hO.row, fun j => (hb1.frozen (p := ⟨r, j, none⟩) hO.lt).trans (hO.free j)⟩
  refine ⟨rec, hJ1.hl, hr, ?_⟩
  have hl1 := hJ1.hl
  have hlt1 : D + 1 < w1.heap.size := (Array.getElem?_eq_some_iff.1 hl1).1
  generalize hw2 : w1.putObj (D + 1) (.loop { rec with state := .busy }) = w2
  have hl2 : w2.heap[D + 1]? = some (.loop { rec with state := .busy }) := by rw [← hw2]; exact World.putObj_heap_same hlt1
  have hE2 : ElM w2 b3 bl (1 + i) C (elN f N) := by rw [← hw2]; exact hJ1.el.putL hl1
  have hO2 : Own w2 r [.c v'] := by rw [← hw2]; exact hO1.putL hl1
  have hB2 : Below n0 w0 w2 := by rw [← hw2]; exact put_below hJ1.below (by omega) _
  have hD2 : w2.heap[D]? = some (.deferred (some [])) := by rw [← hw2]; exact (World.putObj_heap_other (by omega)).trans hJ1.hD
  have hBM1 := hB.on hb1
  have hgl : g ≠ D + 1 := fun e => by
    have := hBM1.2.2 0 (by omega)
    rw [e] at this
    simp [World.cell?, hl1] at this
  have hBM2 : BM w2 g (o + 31 * i) (pcN N i) (fun j => f (31 * i + j)) := by
    refine ⟨by rw [← hw2, World.putObj_size]; exact hBM1.1, fun j => hBM1.2.1 _, fun j hj => ?_⟩
    have hj2 : 31 * i + j < N := by unfold pcN at hj; omega
    rw [← hw2, (put_cell hl1 (p := ⟨g, o + 31 * i + j, none⟩) hgl).1, Nat.add_assoc]
    exact hBM1.2.2 _ hj2
  refine wpIn_block ?_
  refine region_tillIn (K := fun _ W3 => Only2 b3 bl w2 W3 ∧ ElM W3 b3 bl (1 + i + 1) C (fun q => if q < 1 + i then elN f N q else hN (fun j => f (31 * i + j)) (pcN N i))) (boxS b3 bl (1 + i) C) 5 (by kernel_rfl) (e_r5 hE2 hC (hA1.slot (by simp)) (hA1.slot (s := 4) (v := slV g (o + 31 * i) (pcN N i) m) (by simp)) hBM2 (by unfold pcN; omega) (by unfold pcN; omega) hA1.size fun a' w' h1 h2 => ⟨h1, h2⟩) fun a3 w3 hK => ?_
  obtain ⟨hO3, hE3⟩ := hK
  have hl3 := hO3.shape.2.same _ _ hl2 rfl
  have hlt3 : D + 1 < w3.heap.size := (Array.getElem?_eq_some_iff.1 hl3).1
  have hE3 : ElM w3 b3 bl (1 + (i + 1)) C (elN f N) := by
    rw [show 1 + (i + 1) = 1 + i + 1 by omega]
    refine hE3.congr fun j hj => ?_
    by_cases h : j < 1 + i
    · rw [if_pos h]
    · rw [if_neg h]
      have : j = 1 + i := by omega
      subst this
      unfold elN
      rw [if_neg (by omega), show 1 + i - 1 = i by omega]
  refine ⟨rfl, _, hl3, rfl, ⟨?_, hE3.putL hl3, hJ.n3, hJ.nb, ?_, ?_⟩, (hO3.own hO2 hJ.n3.symm hJ.nb.symm).putL hl3⟩
  · exact put_below (hB2.trans (hO3.below n0 hn3 hnb)) (by omega) _
  · exact (World.putObj_heap_other (by omega)).trans (hO3.shape.2.same _ _ hD2 rfl)
  · rw [World.putObj_heap_same hlt3]
    obtain ⟨s, pe, fn, tm, pa, sg, bo, de⟩ := rec
    cases hr; cases hp
    rfl
theorem results_slot {fn : Func} {a : Act} {w : World} {s : Nat} {v : Value} (h : fn.results = #[.tmp s]) (hs : a.tmps[s]? = some v) : (results fn a.tmps).run Tryd.prog w = .ok v w := by
  simp [results, h, hs]
theorem el_calls {w0 : World} {v : Value} {N : Nat} {f : Nat → Nat} (hv : BV w0 v N f) (hN : N ≤ 140737488355328) : Calls Tryd.prog 5 #[v] w0 (fun e w' => FS.ok ⟨cat (el (elN f N)) 0 (1 + (N + 30) / 31), 1 + (N + 30) / 31, 28, 4, true, [], []⟩ w0 e w') := by
  obtain ⟨p, m, rfl, hm, hf, hmem⟩ := hv
  have hG : ∀ base w, EqOkW Tryd.prog (qG Tryd.prog) base w := fun _ _ => (qG_ok _).w _ _
  have hT : ∀ base w, ∀ n d : Nat, TabOkW Tryd.prog T0 base w := fun _ _ _ _ => (T0_ok _).w _ _
  have hnt := e_nt
  refine (callsIn_wide (n := 0)).1 (callsIn_of_wp_marks (F := Fence.wide) Tryd.func5 (c := eCode) rfl trivial ?_)
  refine wpIn_wide.2 ?_
  have hA : Holds eF.ntmps w0.heap.size w0 (argF 0 [.v (.im (.slice p N m))]) _ w0 := start_holds (nt := eF.ntmps) (cs := [.v (.im (.slice p N m))]) (args := [.slice p N m]) (w := w0) ⟨rfl, trivial⟩ (Nat.le_of_ble_eq_true (by kernel_rfl))
  rw [hnt] at hA
  generalize ha0 : ({ tmps := [Value.slice p N m].toArray ++ Array.replicate (26 - [Value.slice p N m].toArray.size) undef, defers := [] } : Act) = a0 at hA
  show eCode.wp Tryd.prog _ { tmps := [Value.slice p N m].toArray ++ Array.replicate (eF.ntmps - [Value.slice p N m].toArray.size) undef, defers := [] } w0
  rw [hnt, ha0, e_code]
  clear ha0
  refine wp_seq (runKW_sound hmix (hT _ _) (hG _ _) (e_s0 _) trivial hA fun a w hA => ?_)
  -- the room
  refine wp_seq (wp_rangeP (l := List.range' 0 ((opsOf e1C).extract 0 4).size ++ (4 :: (List.range' 5 ((opsOf e1C).extract 5 7).size ++ []))) (by kernel_rfl) ?_)
  refine partE_sound (c := tC T0 _) (hT _ _ 0) (hG _ _) (e_s1 p N m) ⟨o_quo (k := 31) (by omega) (by omega), o_add (i := 2) (by omega), trivial⟩ (by kernel_rfl) hA fun a w hA => ?_
  obtain ⟨o4, ho4, hop4, hd4, hg4⟩ : ∃ x, (opsOf e1C)[4]? = some x ∧ x.op = .makeSlice 24 (.const (iI 0)) (.tmp 8) ∧ x.dst = some 9 ∧ x.guard = none := ⟨_, rfl, rfl, rfl, rfl⟩
  have h8 := hA.slot (s := 8) (v := iI (2 + N / 31)) (by simp)
  have h0 := hA.slot (s := 0) (v := .slice p N m) (by simp)
  obtain ⟨w1, hmk, hb1, happ, hs1⟩ := mk_room (C := 2 + N / 31) (by omega) w
  have hrun : (execOp a.eval o4).run Tryd.prog w = .ok (.value (slV w.heap.size 0 0 (2 + N / 31))) w1 := by
    have e0 : a.eval (.const (iI 0)) = iI 0 := rfl
    simp [execOp, hop4, e0, ev_t h8, hmk]
  refine wpOps_one ho4 hg4 (wp_value hrun ?_)
  rw [hd4]
  have hB1 : Below w0.heap.size w0 w1 := hA.below.trans (hb1.mono hA.below.size)
  have hn0 : w0.heap.size ≤ w.heap.size := hA.below.size
  generalize hbl : w.heap.size = bl at *
  have hA1 : Holds 26 w1.heap.size w1 [.slot 9 (.im (slV bl 0 0 (2 + N / 31))), .slot 0 (.im (.slice p N m))] (a.put (some 9) (slV bl 0 0 (2 + N / 31))) w1 :=
    slots_holds (ts := [(9, slV bl 0 0 (2 + N / 31)), (0, .slice p N m)]) hA.defers (by rw [put_size]; exact hA.size) (fun x hx => by
      simp only [List.mem_cons, List.not_mem_nil, or_false] at hx
      rcases hx with rfl | rfl
      · exact put_get _ _ _ (by rw [hA.size]; decide)
      · exact put_s h0 (by simp))
  clear hA
  refine partE_sound (c := tC T0 _) (hT _ _ 0) (hG _ _) (e_s1b (.slice p N m) bl (2 + N / 31)) trivial (by kernel_rfl) hA1 fun a2 w2 hA2 => ?_
  obtain ⟨b3, hA2⟩ := hA2.at (k := 3) (l := [.c (slV bl 0 0 (2 + N / 31))]) (by simp)
  have hE : ElM w2 b3 bl 0 (2 + N / 31) (fun _ => 0) ∧ w1.heap.size ≤ b3 := by
    obtain ⟨β, g1, _, _, gt⟩ := hA2.facts
    obtain ⟨q1, q3, q2, _⟩ := g1 (.row 3 true [.c (slV bl 0 0 (2 + N / 31))]) (by simp)
    have e := g1 (.at 3 b3) (by simp)
    simp only [Fact.ok] at e
    obtain ⟨rfl, e2⟩ := e
    rw [e2] at q3
    refine ⟨⟨⟨q1, q3, (q2 rfl).2.2⟩, happ.shape gt.shape, ?_, fun j v hj => by simp [cat, flat] at hj, ?_⟩, (q2 rfl).1⟩
    · have := gt.shape.2.size; omega
    · have := (q2 rfl).1; omega
  obtain ⟨hE, hb3⟩ := hE
  have hB2 : Below w0.heap.size w0 w2 := hB1.trans (hA2.below.mono (by omega))
  have h02 := hA2.slot (s := 0) (v := .slice p N m) (by simp)
  have h32 : a2.tmps[3]? = some (ptV b3 0) := by
    obtain ⟨β, g1, _⟩ := hA2.facts
    have e1 := g1 (.slot 3 (.pt 3 0)) (by simp)
    have e2 := g1 (.at 3 b3) (by simp)
    simp only [Fact.ok] at e1 e2
    rw [e1]
    simp [AV.den, e2, Go.Proofs.YtalcpnkkbimojaaDoor.Ex.ptV]
  have hd2 := hA2.defers
  have hsz2 := hA2.size
  clear hA1 hA2
  show (Code.seq _ _).wp _ _ _ _
  -- how many
  refine wp_seq (Code.wp_mono (Q := onlyN fun a' w' => a'.defers = [] ∧ a'.tmps.size = 26 ∧ a'.tmps[0]? = some (.slice p N m) ∧ a'.tmps[3]? = some (ptV b3 0) ∧ Only2 b3 bl w2 w' ∧ ElM w' b3 bl 1 (2 + N / 31) (elN f N)) (fun e a3 w3 h => ?_) (region_till (boxS b3 bl 0 (2 + N / 31)) 7 hmix (e_r2 (p := p) (m := m) (N := N) hE (by omega) (by omega) h02 h32 hsz2 fun a' w' e1 e2 e3 e4 e5 e6 => ⟨e1.trans hd2, e2, e3, e4, e5, e6.congr fun j hj => by
    have : j = 0 := by omega
    subst this; rfl⟩)))
  obtain ⟨rfl, hd3, hsz3, h03, h33, hO3, hE3⟩ := h
  show (Code.seq _ _).wp _ _ _ _
  have hB3 : Below w0.heap.size w0 w3 := hB2.trans (hO3.below _ (by omega) (by omega))
  -- the pieces
  have hA3 : Holds 26 w3.heap.size w3 [.slot 0 (.im (.slice p N m)), .slot 3 (.im (ptV b3 0))] a3 w3 := slots_holds (ts := [(0, .slice p N m), (3, ptV b3 0)]) hd3 hsz3 (fun x hx => by
      simp only [List.mem_cons, List.not_mem_nil, or_false] at hx
      rcases hx with rfl | rfl
      · exact h03
      · exact h33)
  refine wp_seq (wp_seq (wp_rangeP (l := List.range' 0 ((opsOf e3C).extract 0 1).size ++ (1 :: [])) (by kernel_rfl) ?_))
  refine partE_sound (c := tC T0 _) (hT _ _ 0) (hG _ _) (e_s3 (.slice p N m) b3) trivial (by kernel_rfl) hA3 fun a4 w4 hA4 => ?_
  obtain ⟨o1, ho1, ⟨ts1, hop1⟩, hd1, hg1⟩ : ∃ x, (opsOf e3C)[1]? = some x ∧ (∃ ts, x.op = .call ⟨.value (.func 10), #[.tmp 17], ts⟩) ∧ x.dst = some 18 ∧ x.guard = none := ⟨_, rfl, ⟨_, rfl⟩, rfl, rfl⟩
  refine wpOps_one ho1 hg1 (wp_call_ex hop1 (vs := [.slice p N m]) (List.cons_eq_cons.2 ⟨ev_t (hA4.slot (s := 17) (by simp)), rfl⟩) (fun args => callable Tryd.func10 (by kernel_rfl) (by kernel_rfl) args _) (pc_calls w4 p N m) fun e w5 hr => ?_)
  obtain ⟨bb, rfl, hb5, hbox⟩ := hr
  refine ⟨_, rfl, ?_⟩
  rw [hd1]
  have hb4 := hA4.below
  have hE5 := (hE3.on hb4).on hb5
  have hB5 : Below w0.heap.size w0 w5 := (hB3.trans (hb4.mono hB3.size)).trans (hb5.mono (Nat.le_trans hB3.size hb4.size))
  have h35 := put_s (d := 18) (u := pcV bb) (hA4.slot (s := 3) (v := ptV b3 0) (by simp)) (by decide)
  have h18 := put_get a4 18 (pcV bb) (by rw [hA4.size]; decide)
  have hd5 : (a4.put (some 18) (pcV bb)).defers = [] := hA4.defers
  have hsz5 : (a4.put (some 18) (pcV bb)).tmps.size = 26 := by rw [put_size]; exact hA4.size
  generalize a4.put (some 18) (pcV bb) = a5 at *
  clear hA3 hA4
  show (Code.block 0 _).wp _ _ _ _
  refine wp_block ?_
  have hn5 : w0.heap.size ≤ w5.heap.size := hB5.size
  refine wp_rangeF (gf := 19) (lb := #[ptV bb 0]) (ev_t h18) (fun args w => callable Tryd.func19 (by kernel_rfl) (by kernel_rfl) args w) fun fn => ?_
  generalize hrec : ({ state := .ready, pending := none, fn, tmps := a5.tmps, params := #[19], assign := .region 4 (opsOf (rfA eRF)) false, body := .block 1 (.region 5 (opsOf e5C) true), defers := w5.heap.size } : Loop) = rec
  have r1 : rec.state = .ready := by rw [← hrec]
  have r2 : rec.pending = none := by rw [← hrec]
  have r3 : rec.params = #[19] := by rw [← hrec]
  have r4 : rec.tmps = a5.tmps := by rw [← hrec]
  have r5 : rec.assign = .region 4 (opsOf (rfA eRF)) false := by rw [← hrec]
  have r6 : rec.body = .block 1 (.region 5 (opsOf e5C) true) := by rw [← hrec]
  clear hrec
  obtain ⟨W1, hW1⟩ : ∃ W1, (w5.alloc (.deferred (some []))).alloc (.loop rec) = W1 := ⟨_, rfl⟩
  rw [hW1]
  have hb6 : Below w5.heap.size w5 W1 := by rw [← hW1]; exact ((Below.refl _ w5).alloc (Nat.le_refl _) _).alloc (by simp) _
  have hD1 : W1.heap[w5.heap.size]? = some (.deferred (some [])) := by
    rw [← hW1]; exact (Below.heap_alloc _ _ _ (by simp)).trans (World.alloc_heap_new w5 _)
  have hL1 : W1.heap[w5.heap.size + 1]? = some (.loop rec) := by
    rw [← hW1]; have := World.alloc_heap_new (w5.alloc (.deferred (some []))) (.loop rec); rwa [World.size_alloc] at this
  have hz1 : W1.heap.size = w5.heap.size + 2 := by rw [← hW1]; simp
  clear hW1
  have hrest : Rest (match p with | some a => a.block | none => 0) (match p with | some a => a.off | none => 0) N 0 (.slice p (N - 31 * 0) m) := ⟨p, m, rfl, by omega, fun h => by
    obtain ⟨g, o, rfl, _⟩ := hmem (by omega)
    rfl⟩
  have hJ1 : ∀ r, W1.heap.size ≤ r → EJ w0.heap.size w0 b3 bl (2 + N / 31) w5.heap.size f N rec r 0 W1 := fun r hr =>
    ⟨hB5.trans (hb6.mono hn5), hE5.on hb6, by have := (hE5.box.lt); omega, by have := hE5.lt; omega, hD1, hL1⟩
  refine Calls.mono (it_calls (l := w5.heap.size + 1) (bb := bb) (W1 := W1) hrest (oldOf.go hb6 (Nat.le_refl _) hbox) (fun r i W => EJ w0.heap.size w0 b3 bl (2 + N / 31) w5.heap.size f N rec r i W)
    (fun r W h1 h2 _ _ => (hJ1 r h1).on (by omega) h2) (fun r i W W' h1 h2 h3 => h2.wrc (by omega) h3) (fun r i W v' mm h1 h2 h3 h4 h5 => ⟨rec, h3.hl, by rw [r3]; rfl, ?_⟩)) ?_
  · obtain ⟨g, o, rfl, hBM⟩ := hmem (by omega)
    exact e_round (a0 := a5) (by omega) (by omega) (by omega) h3 h4 ⟨Nat.lt_of_lt_of_le hBM.1 (Nat.le_trans hn5 (by have := h3.below.size; have := (Array.getElem?_eq_some_iff.1 h3.hl).1; omega)), hBM.2.1, fun j hj => (h3.below.cell (p := ⟨g, o + j, none⟩) hBM.1).trans (hBM.2.2 j hj)⟩ h2 (by omega) r1 r2 r3 r4 hsz5 h35 r5 r6
  · rintro e W' ⟨⟨u, rfl⟩, r, hJ⟩
    refine ⟨u, rec, rfl, hJ.hl, by rw [r1]; simp, r2, ?_⟩
    generalize hrx : ({ rec with state := .exhausted } : Loop) = rx
    have hlt : w5.heap.size + 1 < W'.heap.size := (Array.getElem?_eq_some_iff.1 hJ.hl).1
    have hB7 := put_below (o := .loop rx) hJ.below (l := w5.heap.size + 1) (by omega)
    have hE7 := hJ.el.putL (o := .loop rx) hJ.hl
    have hD7 : (W'.putObj (w5.heap.size + 1) (.loop rx)).heap[w5.heap.size]? = some (.deferred (some [])) := (World.putObj_heap_other (by omega)).trans hJ.hD
    generalize W'.putObj (w5.heap.size + 1) (.loop rx) = w7 at *
    show (Code.seq _ _).wp _ _ _ _
    rw [hd5]
    have hA7 : Holds 26 w7.heap.size w7 [.slot 3 (.im (ptV b3 0))] a5 w7 := slots_holds (ts := [(3, ptV b3 0)]) hd5 hsz5 (fun x hx => by
      simp only [List.mem_cons, List.not_mem_nil, or_false] at hx
      rcases hx with rfl
      exact h35)
    refine wp_seq (reg_md (c := tC T0 _) hmix (hT _ _ 0) (xO_ok w7 _ _ _) (e_s6 w7 b3 bl _ _) ⟨⟨hE7.box.lt, hE7.box.row⟩, trivial⟩ (by kernel_rfl) hA7 fun a8 w8 hA8 => ?_)
    refine wp_ret ?_
    have hb8 := hA8.below
    have hE8 := hE7.on hb8
    have hD8 := (Shape.below hb8).2.same _ _ hD7 rfl
    have hB8 : Below w0.heap.size w0 w8 := hB7.trans (hb8.mono hB7.size)
    have hDlt : w5.heap.size < w8.heap.size := (Array.getElem?_eq_some_iff.1 hD8).1
    refine ⟨by simp, .inl ⟨w5.heap.size, _, rfl, run_takeDeferred hD8, ?_⟩⟩
    have hbD : bl ≠ w5.heap.size := fun e => by
      obtain ⟨cur, h1, _⟩ := hE8.app
      rw [e, hD8] at h1; cases h1
    refine ⟨_, results_slot (s := 2) (by kernel_rfl) (hA8.slot (s := 2) (v := slV bl 0 (1 + (N + 30) / 31) (2 + N / 31)) (by simp)), bl, 2 + N / 31, rfl, put_below hB8 (by omega) _, hn0, by rw [World.putObj_size]; exact hE8.lt, fun j v hj => ?_, fun j => ?_, fun _ => ?_⟩
    · exact (World.cell?_of_block (World.putObj_heap_other hbD)).trans (hE8.row j v hj)
    · exact (World.frozen?_of_block (World.putObj_heap_other hbD)).trans (hE8.app.free j)
    · obtain ⟨cur, h1, h2, h3, h4⟩ := hE8.app
      exact ⟨cur, (World.putObj_heap_other hbD).trans h1, h2, h3, h4⟩
end Go.Proofs.YtalcpnkkbimojaaDoor.Ex
namespace Go.Proofs.YtalcpnkkbimojaaDoor
set_option linter.unusedVariables false
set_option linter.unusedSimpArgs false
open Go.RowKit

theorem Mem.row {w wr : World} {rs : List (Nat × Nat × Nat × Nat × Nat)} (h : Mem w wr rs) {b c0 c1 c2 c3 : Nat} (hm : (b, c0, c1, c2, c3) ∈ rs) : Row4 wr b c0 c1 c2 c3 := (h.2 _ hm).2
theorem Mem.lt {w wr : World} {rs : List (Nat × Nat × Nat × Nat × Nat)} (h : Mem w wr rs) {b c0 c1 c2 c3 : Nat} (hm : (b, c0, c1, c2, c3) ∈ rs) : b < wr.heap.size := (h.2 _ hm).1
end Go.Proofs.YtalcpnkkbimojaaDoor
namespace Go.Proofs.YtalcpnkkbimojaaDoor
set_option linter.unusedVariables false
set_option linter.unusedSimpArgs false
open Go.RowKit

theorem Mem.drew {w wr : World} {rs : List (Nat × Nat × Nat × Nat × Nat)} (h : Mem w wr rs) : Mem w wr.drew rs :=
  ⟨h.1.drew, fun r hr => ⟨(h.2 r hr).1, ⟨(h.2 r hr).2.c0, (h.2 r hr).2.c1, (h.2 r hr).2.c2, (h.2 r hr).2.c3, (h.2 r hr).2.fr⟩⟩⟩
end Go.Proofs.YtalcpnkkbimojaaDoor
namespace Go.Proofs.YtalcpnkkbimojaaDoor
set_option linter.unusedVariables false
set_option linter.unusedSimpArgs false
open Go.RowKit

/-- which field's constants a name stands for -/
def FieldIs (f : Int) (F : FC) : Prop := f = 1 ∧ F = FP ∨ f = 2 ∧ F = FR
theorem FieldIs.ok {f : Int} {F : FC} (h : FieldIs f F) : F.Ok := by rcases h with ⟨_, rfl⟩ | ⟨_, rfl⟩; exact FP_ok; exact FR_ok
theorem KIs.new (w : World) (F : FC) (t : TypeId) : KIs (w.alloc (.cells #[.int .u64 F.m0, .int .u64 F.m1, .int .u64 F.m2, .int .u64 F.m3, .int .u64 F.inv, .int .u64 F.s0, .int .u64 F.s1, .int .u64 F.s2, .int .u64 F.s3] t)) w.heap.size F :=
  ⟨by rw [World.cell?_alloc_new]; rfl, by rw [World.cell?_alloc_new]; rfl, by rw [World.cell?_alloc_new]; rfl, by rw [World.cell?_alloc_new]; rfl, by rw [World.cell?_alloc_new]; rfl, by rw [World.cell?_alloc_new]; rfl, by rw [World.cell?_alloc_new]; rfl, by rw [World.cell?_alloc_new]; rfl, by rw [World.cell?_alloc_new]; rfl, by simp⟩
set_option maxRecDepth 100000 in
set_option maxHeartbeats 2000000 in
theorem cons_some (f : Int) (F : FC) (hf : FieldIs f F) (w : World) : Calls Tryd.prog 12 #[.int .i64 f] w fun e w' => e = .returned (.tuple #[.agg #[.int .u64 F.m0, .int .u64 F.m1, .int .u64 F.m2, .int .u64 F.m3, .int .u64 F.inv, .int .u64 F.s0, .int .u64 F.s1, .int .u64 F.s2, .int .u64 F.s3], .int .i64 0]) ∧ Below w.heap.size w w' := by
  rcases hf with ⟨rfl, rfl⟩ | ⟨rfl, rfl⟩
  · go_enter Tryd.func12, Tryd.ntmps12
    go_wp2_with fail
    refine bodyPost_ret (v := .tuple #[.agg #[.int .u64 FP.m0, .int .u64 FP.m1, .int .u64 FP.m2, .int .u64 FP.m3, .int .u64 FP.inv, .int .u64 FP.s0, .int .u64 FP.s1, .int .u64 FP.s2, .int .u64 FP.s3], .int .i64 0]) (by simp [results, Tryd.results12, go_sem, FP]) rfl ?_
    refine ⟨rfl, ?_⟩
    repeat (first | exact Below.refl _ _ | refine Below.drew ?_ | refine Below.alloc ?_ (by first | (simp; done) | (simp; omega)) _ | refine Below.setCell ?_ (by simp) _)
  · go_enter Tryd.func12, Tryd.ntmps12
    go_wp2_with fail
    refine bodyPost_ret (v := .tuple #[.agg #[.int .u64 FR.m0, .int .u64 FR.m1, .int .u64 FR.m2, .int .u64 FR.m3, .int .u64 FR.inv, .int .u64 FR.s0, .int .u64 FR.s1, .int .u64 FR.s2, .int .u64 FR.s3], .int .i64 0]) (by simp [results, Tryd.results12, go_sem, FR]) rfl ?_
    refine ⟨rfl, ?_⟩
    repeat (first | exact Below.refl _ _ | refine Below.drew ?_ | refine Below.alloc ?_ (by first | (simp; done) | (simp; omega)) _ | refine Below.setCell ?_ (by simp) _)
end Go.Proofs.YtalcpnkkbimojaaDoor
namespace Go.Proofs.YtalcpnkkbimojaaDoor
set_option linter.unusedVariables false
set_option linter.unusedSimpArgs false
open Go.RowKit

/-- the world in Mod, once the divisor and the first rest are laid -/
structure MR (w wr : World) (g9 g10 : Nat) (h0 h1 h2 h3 l0 l1 l2 l3 b0 b1 b2 b3 r0 r1 r2 r3 : Nat) : Prop where
  below : Below w.heap.size w wr
  lo : w.heap.size + 1 + 1 + 1 < g9
  mid : g9 < g10
  size : g10 < wr.heap.size
  rowH : Row4 wr w.heap.size h0 h1 h2 h3
  rowL : Row4 wr (w.heap.size + 1) l0 l1 l2 l3
  rowB : Row4 wr g9 b0 b1 b2 b3
  rowR : Row4 wr g10 r0 r1 r2 r3
  rowO : Row4 wr (w.heap.size + 1 + 1 + 1) 0 0 0 0
theorem MR.on {w wr w' : World} {g9 g10 : Nat} {h0 h1 h2 h3 l0 l1 l2 l3 b0 b1 b2 b3 r0 r1 r2 r3 : Nat} (m : MR w wr g9 g10 h0 h1 h2 h3 l0 l1 l2 l3 b0 b1 b2 b3 r0 r1 r2 r3) (hb : Below wr.heap.size wr w') : MR w w' g9 g10 h0 h1 h2 h3 l0 l1 l2 l3 b0 b1 b2 b3 r0 r1 r2 r3 :=
  ⟨m.below.trans (hb.mono m.below.size), m.lo, m.mid, Nat.lt_of_lt_of_le m.size hb.size, m.rowH.below hb (by have := m.lo; have := m.mid; have := m.size; omega), m.rowL.below hb (by have := m.lo; have := m.mid; have := m.size; omega),
    m.rowB.below hb (by have := m.mid; have := m.size; omega), m.rowR.below hb m.size, m.rowO.below hb (by have := m.lo; have := m.mid; have := m.size; omega)⟩
theorem MR.drewN {w wr : World} {g9 g10 : Nat} {h0 h1 h2 h3 l0 l1 l2 l3 b0 b1 b2 b3 r0 r1 r2 r3 : Nat} (m : MR w wr g9 g10 h0 h1 h2 h3 l0 l1 l2 l3 b0 b1 b2 b3 r0 r1 r2 r3) (n : Nat) : MR w (wr.drewN n) g9 g10 h0 h1 h2 h3 l0 l1 l2 l3 b0 b1 b2 b3 r0 r1 r2 r3 := m.on (below_drewN' _ _ n)
theorem MR.put {w wr : World} {g9 g10 : Nat} {h0 h1 h2 h3 l0 l1 l2 l3 b0 b1 b2 b3 r0 r1 r2 r3 : Nat} (m : MR w wr g9 g10 h0 h1 h2 h3 l0 l1 l2 l3 b0 b1 b2 b3 r0 r1 r2 r3) (s0 s1 s2 s3 : Nat) : MR w (set4 wr g10 s0 s1 s2 s3) g9 g10 h0 h1 h2 h3 l0 l1 l2 l3 b0 b1 b2 b3 s0 s1 s2 s3 :=
  ⟨below_set4 m.below (by have := m.lo; have := m.mid; omega) _ _ _ _, m.lo, m.mid, by unfold set4; simp only [World.size_setCell]; exact m.size, m.rowH.set4_other (by have := m.lo; have := m.mid; omega) _ _ _ _, m.rowL.set4_other (by have := m.lo; have := m.mid; omega) _ _ _ _,
    m.rowB.set4_other (by have := m.mid; omega) _ _ _ _, m.rowR.set4 _ _ _ _, m.rowO.set4_other (by have := m.lo; have := m.mid; omega) _ _ _ _⟩

end Go.Proofs.YtalcpnkkbimojaaDoor
namespace Go.Proofs.YtalcpnkkbimojaaDoor
set_option linter.unusedVariables false
set_option linter.unusedSimpArgs false
open Go.RowKit

/-- an element's bytes -/
def FBytes (A : Nat) (w : World) (e : Ending) (w' : World) : Prop :=
  ∃ b : Nat, e = .returned (.tuple #[.slice (some ⟨b, 0, none⟩) 32 32, .int .i64 0]) ∧ w.heap.size ≤ b ∧ b < w'.heap.size ∧ RowB w' b 32 (byteAt A) ∧ Below w.heap.size w w'
set_option maxRecDepth 100000 in
set_option maxHeartbeats 2000000 in
theorem fbytes_ok (f : Int) (F : FC) (hf : FieldIs f F) (a0 a1 a2 a3 : Nat) (ha : ok4 a0 a1 a2 a3) (la : val4 a0 a1 a2 a3 < F.M) (w : World) :
    Calls Tryd.prog 6 #[.int .i64 f, .agg #[.int .u64 a0, .int .u64 a1, .int .u64 a2, .int .u64 a3]] w (FBytes (val4 a0 a1 a2 a3) w) := by
  go_enter Tryd.func6, Tryd.ntmps6
  go_wp2_with fail
  refine (cons_some f F hf _).mono ?_
  rintro e w1 ⟨rfl, hbl⟩
  have M1 := ((Mem.nil w).new (w.heap.size) a0 a1 a2 a3 28 (by simp)).on hbl
  clear hbl
  have z0 : w.heap.size < w1.heap.size := M1.lt (c0 := a0) (c1 := a1) (c2 := a2) (c3 := a3) (by simp)
  have HM := Lib.hid (M1.on ((Below.refl _ _).alloc (Nat.le_refl _) (.cells #[.int .u64 F.m0, .int .u64 F.m1, .int .u64 F.m2, .int .u64 F.m3, .int .u64 F.inv, .int .u64 F.s0, .int .u64 F.s1, .int .u64 F.s2, .int .u64 F.s3] 46)))
  have KK := Lib.hid (KIs.new w1 F 46)
  have kr := M1.row (b := w.heap.size) (c0 := a0) (c1 := a1) (c2 := a2) (c3 := a3) (by simp)
  have x0 := kr.c0; have x1 := kr.c1; have x2 := kr.c2; have x3 := kr.c3
  clear kr
  have xl := M1.lt (b := w.heap.size) (c0 := a0) (c1 := a1) (c2 := a2) (c3 := a3) (by simp)
  go_wp2_with fail
  refine (has_calls F hf.ok w1.heap.size a0 a1 a2 a3 ha _ KK.out).mono ?_
  rintro e w2 ⟨he, hbl⟩
  rw [show isB (val4 a0 a1 a2 a3) F.M = true from decide_eq_true la] at he
  subst he
  have HM' := Lib.hid (HM.out.on hbl)
  have KK' := Lib.hid (KK.out.same hbl)
  have zk := KK'.out.lt
  clear HM KK hbl M1
  have HM := HM'
  have KK := KK'
  clear HM' KK'
  clear x0 x1 x2 x3 xl zk
  have kr := HM.out.row (b := w.heap.size) (c0 := a0) (c1 := a1) (c2 := a2) (c3 := a3) (by simp)
  have x0 := kr.c0; have x1 := kr.c1; have x2 := kr.c2; have x3 := kr.c3
  clear kr
  have xl := HM.out.lt (b := w.heap.size) (c0 := a0) (c1 := a1) (c2 := a2) (c3 := a3) (by simp)
  go_wp2_with fail
  have hsz : w.heap.size ≤ w2.heap.size := HM.out.1.size
  refine (bytes_calls a0 a1 a2 a3 ha _).mono ?_
  rintro e w4 ⟨bb, rfl, h1, h2, h3, hbl⟩
  have H3 := Lib.hid h3
  clear h3
  have HM' := Lib.hid (HM.out.on hbl)
  have KK' := Lib.hid (KK.out.same hbl)
  have zk := KK'.out.lt
  clear HM KK hbl
  have HM := HM'
  have KK := KK'
  clear HM' KK'
  clear x0 x1 x2 x3 xl zk
  go_wp2_with fail
  go_ret2
  exact ⟨bb, rfl, by omega, h2, H3.out, HM.out.1⟩
end Go.Proofs.YtalcpnkkbimojaaDoor
namespace Go.Proofs.YtalcpnkkbimojaaDoor.Ex
set_option linter.unusedVariables false
set_option linter.unusedSimpArgs false
set_option maxRecDepth 100000
open Go.RowKit

theorem Holds.toTu {nt base : Nat} {w0 : World} {A : List Fact} {a : Act} {w : World} (h : Holds nt base w0 A a w) {s : Nat} {v : Value} {l : List TV} (h1 : Fact.slot s (.im v) ∈ A) (e : v = .tuple (l.map TV.den).toArray) : Holds nt base w0 (.slot s (.tu l) :: A) a w := by
  obtain ⟨β, g1, g2, g3⟩ := h.facts
  have e1 := g1 _ h1
  have up : ∀ k1 o1 l1, Fact.row k1 o1 l1 ∈ (Fact.slot s (.tu l) :: A) → Fact.row k1 o1 l1 ∈ A := fun k1 o1 l1 e => by
    rcases List.mem_cons.1 e with e | e
    · cases e
    · exact e
  refine ⟨h.defers, h.size, h.below, h.heap, β, fun φ hφ => ?_, fun k1 k2 o2 l1 l2 q1 q2 => g2 k1 k2 o2 l1 l2 (up _ _ _ q1) (up _ _ _ q2), fun k1 l1 e => g3.1 k1 l1 (up _ _ _ e), g3.2⟩
  rcases List.mem_cons.1 hφ with rfl | hφ
  · show a.tmps[s]? = _
    have e2 : a.tmps[s]? = some v := e1
    rw [e2, e]
    rfl
  · exact g1 φ hφ
/-- the loop's four slots: the bytes, the elements, what is out, the counter -/
structure T4 (v0 v3 v4 v5 : Value) (a : Act) : Prop where
  defers : a.defers = []
  size : a.tmps.size = 70
  t0 : a.tmps[0]? = some v0
  t3 : a.tmps[3]? = some v3
  t4 : a.tmps[4]? = some v4
  t5 : a.tmps[5]? = some v5
def f4 (v0 v3 v4 v5 : Value) : List Fact := [.slot 0 (.im v0), .slot 3 (.im v3), .slot 4 (.im v4), .slot 5 (.im v5)]
theorem T4.of {v0 v3 v4 v5 : Value} {base : Nat} {w0 : World} {A : List Fact} {a : Act} {w : World} (h : Holds 70 base w0 A a w) (hA : ∀ φ ∈ f4 v0 v3 v4 v5, φ ∈ A) : T4 v0 v3 v4 v5 a :=
  ⟨h.defers, h.size, h.slot (hA _ (by simp [f4])), h.slot (hA _ (by simp [f4])), h.slot (hA _ (by simp [f4])), h.slot (hA _ (by simp [f4]))⟩
theorem T4.put {v0 v3 v4 v5 v : Value} {a : Act} {d : Nat} (h : T4 v0 v3 v4 v5 a) (hd : d ≠ 0 ∧ d ≠ 3 ∧ d ≠ 4 ∧ d ≠ 5) : T4 v0 v3 v4 v5 (a.put (some d) v) :=
  ⟨h.defers, by rw [put_size]; exact h.size, put_s h.t0 hd.1, put_s h.t3 hd.2.1, put_s h.t4 hd.2.2.1, put_s h.t5 hd.2.2.2⟩
theorem T4.holds {v0 v3 v4 v5 : Value} {a : Act} (h : T4 v0 v3 v4 v5 a) (w : World) : Holds 70 w.heap.size w (f4 v0 v3 v4 v5) a w :=
  slots_holds (ts := [(0, v0), (3, v3), (4, v4), (5, v5)]) h.defers h.size (fun x hx => by
    simp only [List.mem_cons, List.not_mem_nil, or_false] at hx
    rcases hx with rfl | rfl | rfl | rfl
    · exact h.t0
    · exact h.t3
    · exact h.t4
    · exact h.t5)
theorem T4.holds1 {v0 v3 v4 v5 v : Value} {a : Act} {s : Nat} (h : T4 v0 v3 v4 v5 a) (hs : a.tmps[s]? = some v) (w : World) : Holds 70 w.heap.size w (.slot s (.im v) :: f4 v0 v3 v4 v5) a w :=
  slots_holds (ts := [(s, v), (0, v0), (3, v3), (4, v4), (5, v5)]) h.defers h.size (fun x hx => by
    simp only [List.mem_cons, List.not_mem_nil, or_false] at hx
    rcases hx with rfl | rfl | rfl | rfl | rfl
    · exact hs
    · exact h.t0
    · exact h.t3
    · exact h.t4
    · exact h.t5)
theorem T4.holds2 {v0 v3 v4 v5 v v' : Value} {a : Act} {s s' : Nat} (h : T4 v0 v3 v4 v5 a) (hs : a.tmps[s]? = some v) (hs' : a.tmps[s']? = some v') (w : World) : Holds 70 w.heap.size w (.slot s (.im v) :: .slot s' (.im v') :: f4 v0 v3 v4 v5) a w :=
  slots_holds (ts := [(s, v), (s', v'), (0, v0), (3, v3), (4, v4), (5, v5)]) h.defers h.size (fun x hx => by
    simp only [List.mem_cons, List.not_mem_nil, or_false] at hx
    rcases hx with rfl | rfl | rfl | rfl | rfl | rfl
    · exact hs
    · exact hs'
    · exact h.t0
    · exact h.t3
    · exact h.t4
    · exact h.t5)
/-- what is out: the first n bytes -/
def OutM (w : World) (u : Value) (n : Nat) (f : Nat → Nat) (B0 : Nat) : Prop := (u = .slice none 0 0 ∧ n = 0) ∨ ∃ b cap, u = slV b 0 n cap ∧ B0 ≤ b ∧ b < w.heap.size ∧ AppAt w b 5 1 n cap ∧ w.rangeAt b 0 (flat (cat (fun j => gU (f j)) 0 n))
theorem OutM.on {w w' : World} {u : Value} {n B0 : Nat} {f : Nat → Nat} (h : OutM w u n f B0) (hb : Below w.heap.size w w') : OutM w' u n f B0 := by
  rcases h with h | ⟨b, cap, h1, h2, h3, h4, h5⟩
  · exact Or.inl h
  · exact Or.inr ⟨b, cap, h1, h2, Nat.lt_of_lt_of_le h3 hb.size, h4.shape (Shape.below hb), below_range hb h3 h5⟩
theorem OutM.form {w : World} {u : Value} {n B0 : Nat} {f : Nat → Nat} (h : OutM w u n f B0) : ∃ p m, u = .slice p n m := by
  rcases h with ⟨rfl, rfl⟩ | ⟨b, cap, rfl, _⟩
  · exact ⟨_, _, rfl⟩
  · exact ⟨_, _, rfl⟩
theorem u8T : apT Tryd.prog 22 = some (5, 1, 1) := by kernel_rfl
theorem OutM.app {w : World} {u : Value} {n B0 c tb k m : Nat} {f : Nat → Nat} (h : OutM w u n f B0) (hB : B0 ≤ w.heap.size) (hc : 0 < c) (hn : n + c ≤ 140737488355328) (ht : ∀ j, j < c → w.cell? ⟨tb, k + j, none⟩ = some (.int .u8 (Int.ofNat (f (n + j))))) (ty : TypeId) :
    ∃ u' w', (Builtin.append_ #[22, 22] ty #[u, slV tb k c m]).run Tryd.prog w = .ok u' w' ∧ OutM w' u' (n + c) f B0 ∧ Below B0 w w' := by
  have hu : (u = .slice none 0 0 ∧ n = 0 ∧ flat (cat (fun j => gU (f j)) 0 n) = []) ∨ ∃ b cap, u = .slice (some ⟨b, 0, none⟩) n cap ∧ AppAt w b 5 1 n cap ∧ w.rangeAt b 0 (flat (cat (fun j => gU (f j)) 0 n)) ∧ (flat (cat (fun j => gU (f j)) 0 n)).length = n * 1 := by
    rcases h with ⟨rfl, rfl⟩ | ⟨b, cap, rfl, h2, h3, h4, h5⟩
    · exact Or.inl ⟨rfl, rfl, rfl⟩
    · exact Or.inr ⟨b, cap, rfl, h4, h5, by rw [gU_len, Nat.mul_one]⟩
  have hnews : ∀ j v, (flat (cat (fun j => gU (f (n + j))) 0 c))[j]? = some v → w.cell? ((⟨tb, k, none⟩ : Addr).add j) = some v := fun j v hj => by
    have hlt : j < c := by have := (List.getElem?_eq_some_iff.1 hj).1; rwa [gU_len] at this
    rw [gU_cell (f := fun j => f (n + j)) c 0 j hlt, Nat.zero_add] at hj
    rw [← hj, show (⟨tb, k, none⟩ : Addr).add j = ⟨tb, k + j, none⟩ by simp [Addr.add]]
    exact ht j hlt
  have hone : ∀ x ∈ flat (cat (fun j => gU (f (n + j))) 0 c), x.oneCell' = true := fun x hx => by
    obtain ⟨j, hj⟩ := List.mem_iff_getElem?.1 hx
    have hlt : j < c := by have := (List.getElem?_eq_some_iff.1 hj).1; rwa [gU_len] at this
    rw [gU_cell (f := fun j => f (n + j)) c 0 j hlt] at hj
    cases hj; rfl
  obtain ⟨b, cap, w', hr, a1, a2, a3, a4, a5, a6, a7⟩ := run_apnd (P := Tryd.prog) w (ty := ty) u8T hu (ad := ⟨tb, k, none⟩) (m := c) (c := m) (news := flat (cat (fun j => gU (f (n + j))) 0 c)) (by rw [gU_len, Nat.mul_one]) hnews hone hc (by omega) (by unfold maxLen; omega)
  have hrow : flat (cat (fun j => gU (f j)) 0 n) ++ flat (cat (fun j => gU (f (n + j))) 0 c) = flat (cat (fun j => gU (f j)) 0 (n + c)) := by
    apply List.ext_getElem?
    intro j
    by_cases h1 : j < n
    · rw [List.getElem?_append_left (by rw [gU_len]; exact h1), gU_cell n 0 j h1, gU_cell (n + c) 0 j (by omega)]
    · rw [List.getElem?_append_right (by rw [gU_len]; omega), gU_len]
      by_cases h2 : j < n + c
      · rw [gU_cell (f := fun j => f (n + j)) c 0 (j - n) (by omega), gU_cell (n + c) 0 j h2]
        rw [show n + (0 + (j - n)) = 0 + j by omega]
      · rw [List.getElem?_eq_none (by rw [gU_len]; omega), List.getElem?_eq_none (by rw [gU_len]; omega)]
  rw [hrow] at a3
  have hb0 : B0 ≤ b := by
    rcases a7 with h7 | ⟨c0, h7⟩
    · omega
    · rcases h with ⟨rfl, _⟩ | ⟨b', cap', rfl, h2, _⟩
      · cases h7
      · simp only [slV, Value.slice.injEq, Option.some.injEq, Addr.mk.injEq, and_true, true_and] at h7
        omega
  refine ⟨_, w', hr, Or.inr ⟨b, cap, rfl, hb0, a2, a1, a3⟩, (Below.refl B0 w).grown a5 hB fun q hq => ?_⟩
  rcases h with ⟨rfl, _⟩ | ⟨b', cap', rfl, h2, _⟩
  · cases hq
  · have : b' = q := by simpa [slV, Value.ownBlock] using hq
    omega
noncomputable abbrev tlF : Func := Tryd.f3
noncomputable def tlCode : Code := (Tryd.f3.body).getD .skip
noncomputable def tk1 : Code := cB tlCode
noncomputable def tk2 : Code := cB tk1
noncomputable def tk3 : Code := cB tk2
noncomputable def tk4 : Code := cB tk3
noncomputable def tk5 : Code := cB tk4
noncomputable def tlL : Code := cIn (cIn (cB (cA tk5)))
noncomputable def tlB : Code := cIn (cA (cB tlL))
theorem tl_code : tlCode = .seq (cA tlCode) (.seq (cA tk1) (.seq (.region 3 (opsOf (cA tk2)) false) (.seq (cA tk3) (.seq (cA tk4) (.seq (.seq (cA (cA tk5)) (.block 0 (.loop tlL))) (.seq (.region 15 (opsOf (cA (cB tk5))) false) .ret)))))) := by kernel_rfl
theorem tl_L : tlL = .seq (cA tlL) (.seq (.block 1 (.seq (.region 10 (opsOf (cA tlB)) false) (.seq (cA (cB tlB)) (.seq (cA (cB (cB tlB))) (.region 14 (opsOf (cB (cB (cB tlB)))) false))))) (cB (cB tlL))) := by kernel_rfl
theorem tl_go (v0 v4 : Value) (bl n C i : Nat) : runK Tryd.prog (qG Tryd.prog) 70 (fun _ => tC T0 (assoc [(34, .bool true)])) 40 (cA tlL) (f4 v0 (slV bl 0 n C) v4 (iI i)) (f4 v0 (slV bl 0 n C) v4 (iI i)) = some ([intOp .lss .i64 (Int.ofNat i) (Int.ofNat n) = some (.bool true)], .nrm, f4 v0 (slV bl 0 n C) v4 (iI i)) := by kernel_rfl
theorem tl_ex (v0 v4 : Value) (bl n C i : Nat) : runK Tryd.prog (qG Tryd.prog) 70 (fun _ => tC T0 (assoc [(34, .bool false)])) 40 (cA tlL) (f4 v0 (slV bl 0 n C) v4 (iI i)) (f4 v0 (slV bl 0 n C) v4 (iI i)) = some ([intOp .lss .i64 (Int.ofNat i) (Int.ofNat n) = some (.bool false)], .ex 0, f4 v0 (slV bl 0 n C) v4 (iI i)) := by kernel_rfl
theorem tl_10a (W : World) (v0 v4 : Value) (bl n C i x : Nat) : regK Tryd.prog { qG Tryd.prog with x := xO W (assoc [(40, i)]) (assoc [(41, [.q x])]) (fun _ => none) } 70 (tC T0 fun _ => none) ((opsOf (cA tlB)).extract 0 4) (f4 v0 (slV bl 0 n C) v4 (iI i)) (.slot 41 (.fl [.q x]) :: f4 v0 (slV bl 0 n C) v4 (iI i)) = some ([Int.ofNat i = Int.ofNat i, i < n, oldOf W bl (0 + i * 4) [.q x], fsz [.q x] = 4], .slot 41 (.fl [.q x]) :: f4 v0 (slV bl 0 n C) v4 (iI i)) := by kernel_rfl
theorem tl_10b (v0 v3 v4 v5 tv : Value) : regK Tryd.prog (qG Tryd.prog) 70 (tC T0 fun _ => none) ((opsOf (cA tlB)).extract 5 10) (.slot 42 (.tu [.im tv, .im (.int .i64 0)]) :: .slot 42 (.im (.tuple #[tv, .int .i64 0])) :: f4 v0 v3 v4 v5) (.slot 6 (.im tv) :: .slot 7 (.im (.int .i64 0)) :: f4 v0 v3 v4 v5) = some ([], .slot 6 (.im tv) :: .slot 7 (.im (.int .i64 0)) :: f4 v0 v3 v4 v5) := by kernel_rfl
theorem tl_11 (W : World) (v0 v3 v4 v5 : Value) (tb : Nat) : runK Tryd.prog { qG Tryd.prog with x := xO W (assoc [(49, 0)]) (fun _ => none) (assoc [(50, .int .u8 0)]) } 70 (fun _ => tC T0 fun _ => none) 40 (cA (cB tlB)) (.slot 6 (.im (slV tb 0 32 32)) :: .slot 7 (.im (.int .i64 0)) :: f4 v0 v3 v4 v5) (.slot 6 (.im (slV tb 0 32 32)) :: f4 v0 v3 v4 v5) = some ([(0 : Int) = Int.ofNat 0, 0 < 32, oldOf W tb (0 + 0 * 1) [.c (.int .u8 0)]], .nrm, .slot 6 (.im (slV tb 0 32 32)) :: f4 v0 v3 v4 v5) := by kernel_rfl
theorem tl_13 (p pu : Option Addr) (N m nu mu c : Nat) (v3 v5 tv : Value) : runK Tryd.prog (qG Tryd.prog) 70 (fun _ => tC T0 (assoc [(57, iI (N - nu)), (58, iI c)])) 40 (cA (cB (cB tlB))) (.slot 6 (.im tv) :: f4 (.slice p N m) v3 (.slice pu nu mu) v5) (.slot 8 (.im (iI c)) :: .slot 6 (.im tv) :: f4 (.slice p N m) v3 (.slice pu nu mu) v5) = some ([intOp .sub .i64 (Int.ofNat N) (Int.ofNat nu) = some (iI (N - nu)), Value.int .i64 (if Int.ofNat (N - nu) < 31 then Int.ofNat (N - nu) else 31) = iI c], .nrm, .slot 8 (.im (iI c)) :: .slot 6 (.im tv) :: f4 (.slice p N m) v3 (.slice pu nu mu) v5) := by kernel_rfl
theorem tl_14a (v0 v3 v4 v5 : Value) (tb c : Nat) : regK Tryd.prog { qG Tryd.prog with x := { Ext.none with gen := assoc [(63, slV tb (32 - c) c c)] } } 70 (tC T0 (assoc [(62, iI (32 - c))])) ((opsOf (cB (cB (cB tlB)))).extract 0 5) (.slot 8 (.im (iI c)) :: .slot 6 (.im (slV tb 0 32 32)) :: f4 v0 v3 v4 v5) (.slot 63 (.im (slV tb (32 - c) c c)) :: .slot 59 (.im v4) :: f4 v0 v3 v4 v5) = some ([intOp .sub .i64 32 (Int.ofNat c) = some (iI (32 - c)), ∀ w : World, (Instr.sliceAt 22 (slV tb 0 32 32) (some (iI (32 - c))) none none).run Tryd.prog w = .ok (slV tb (32 - c) c c) w], .slot 63 (.im (slV tb (32 - c) c c)) :: .slot 59 (.im v4) :: f4 v0 v3 v4 v5) := by kernel_rfl
theorem tl_14b (v0 v3 v4 v5 u : Value) : regK Tryd.prog (qG Tryd.prog) 70 (tC T0 fun _ => none) ((opsOf (cB (cB (cB tlB)))).extract 6 7) (.slot 64 (.im u) :: f4 v0 v3 v4 v5) (f4 v0 v3 u v5) = some ([], f4 v0 v3 u v5) := by kernel_rfl
theorem tl_9 (v0 v3 v4 : Value) (i : Nat) : runK Tryd.prog (qG Tryd.prog) 70 (fun _ => tC T0 (assoc [(36, iI (i + 1))])) 40 (cB (cB tlL)) (f4 v0 v3 v4 (iI i)) (f4 v0 v3 v4 (iI (i + 1))) = some ([intOp .add .i64 (Int.ofNat i) 1 = some (iI (i + 1))], .nrm, f4 v0 v3 v4 (iI (i + 1))) := by kernel_rfl
theorem xG_ok (gen : Nat → Option Value) (base : Nat) (w : World) : EqOkW Tryd.prog { qG Tryd.prog with x := { Ext.none with gen := gen } } base w :=
  qPx_ok (T5n_ok _) base w
theorem tl_loop {WB : World} {p : Option Addr} {N m bl C : Nat} {f : Nat → Nat} (hN0 : N ≤ 140737488355328) (hf : ∀ j, f j < 256) (hbl : bl < WB.heap.size) (hl : WB.rangeAt bl 0 (flat (cat (el (elN f N)) 0 (1 + (N + 30) / 31)))) {Q : Exit → Act → World → Prop}
    (hfin : ∀ a w u, T4 (.slice p N m) (slV bl 0 (1 + (N + 30) / 31) C) u (iI (1 + (N + 30) / 31)) a → Below WB.heap.size WB w → OutM w u N f WB.heap.size → Q (.exit 0) a w) :
    ∀ k i a w u, i + k = 1 + (N + 30) / 31 → 1 ≤ i → T4 (.slice p N m) (slV bl 0 (1 + (N + 30) / 31) C) u (iI i) a → Below WB.heap.size WB w → OutM w u (min N (31 * (i - 1))) f WB.heap.size → Un Tryd.prog tlL Q (k + 1) a w := by
  have hG : ∀ base w, EqOkW Tryd.prog (qG Tryd.prog) base w := fun _ _ => (qG_ok _).w _ _
  have hT : ∀ base w, ∀ n d : Nat, TabOkW Tryd.prog T0 base w := fun _ _ _ _ => (T0_ok _).w _ _
  have wl : ∀ Q a w, (Code.seq (cA tlL) (.seq (.block 1 (.seq (.region 10 (opsOf (cA tlB)) false) (.seq (cA (cB tlB)) (.seq (cA (cB (cB tlB))) (.region 14 (opsOf (cB (cB (cB tlB)))) false))))) (cB (cB tlL)))).wp Tryd.prog Q a w → tlL.wp Tryd.prog Q a w := fun Q a w h => by rw [tl_L]; exact h
  intro k
  induction k with
  | zero =>
    intro i a w u hi h1 h4 hb hu
    unfold Un
    refine wl _ _ _ ?_
    refine wp_seq (runKW_sound hmix (hT _ _) (hG _ _) (tl_ex _ _ bl _ C i) ⟨o_lss_f (by omega), trivial⟩ (h4.holds w) fun a' w' hA => ?_)
    have hw := hA.below
    refine hfin a' w' u ?_ (hb.trans (hw.mono hb.size)) ?_
    · have : i = 1 + (N + 30) / 31 := by omega
      subst this
      exact T4.of hA fun φ h => h
    · have := hu.on hw
      rwa [show min N (31 * (i - 1)) = N by omega] at this
  | succ k ih =>
    intro i a w u hi h1 h4 hb hu
    have hlt : 31 * (i - 1) < N := by omega
    unfold Un
    refine wl _ _ _ ?_
    refine wp_seq (runKW_sound hmix (hT _ _) (hG _ _) (tl_go _ _ bl _ C i) ⟨o_lss_t (by omega), trivial⟩ (h4.holds w) fun a1 w1 hA => ?_)
    have h41 : T4 (.slice p N m) (slV bl 0 (1 + (N + 30) / 31) C) u (iI i) a1 := T4.of hA fun φ h => h
    have hb1 := hb.trans (hA.below.mono hb.size)
    have hu1 := hu.on hA.below
    clear hA h4 hu hb
    show (Code.seq _ _).wp _ _ _ _
    refine wp_seq (wp_block (wp_seq (wp_rangeP (l := List.range' 0 ((opsOf (cA tlB)).extract 0 4).size ++ (4 :: (List.range' 5 ((opsOf (cA tlB)).extract 5 10).size ++ []))) (by kernel_rfl) ?_)))
    have hold : oldOf w1 bl (0 + i * 4) [.q (elN f N i)] := ⟨Nat.lt_of_lt_of_le hbl hb1.size, range_cat (f := el (elN f N)) (c := 4) (fun _ => rfl) (by omega) (below_range hb1 hbl hl)⟩
    refine partE_sound (c := tC T0 _) (hT _ _ 0) (xO_ok w1 _ _ _) (tl_10a w1 _ _ bl _ C i (elN f N i)) ⟨rfl, by omega, hold, rfl, trivial⟩ (by kernel_rfl) (h41.holds w1) fun a2 w2 hA => ?_
    have h42 : T4 (.slice p N m) (slV bl 0 (1 + (N + 30) / 31) C) u (iI i) a2 := T4.of hA fun φ h => List.mem_cons_of_mem _ h
    have h41f := hA.slotF (s := 41) (l := [.q (elN f N i)]) (by simp)
    have hb2 := hb1.trans (hA.below.mono hb1.size)
    have hu2 := hu1.on hA.below
    clear hA hu1 h41
    have hx : elN f N i = hN (fun j => f (31 * (i - 1) + j)) (pcN N (i - 1)) := by unfold elN; rw [if_neg (by omega)]
    have hc : pcN N (i - 1) ≤ 31 := by unfold pcN; omega
    have hc0 : 0 < pcN N (i - 1) := by unfold pcN; omega
    have hxr : elN f N i < RM := by rw [hx]; exact hN_r (fun j => hf _) hc
    obtain ⟨o4, ho4, ⟨ts4, hop4⟩, hd4, hg4⟩ : ∃ x, (opsOf (cA tlB))[4]? = some x ∧ (∃ ts, x.op = .call ⟨.value (.func 6), #[.const (.int .i64 2), .tmp 41], ts⟩) ∧ x.dst = some 42 ∧ x.guard = none := ⟨_, rfl, ⟨_, rfl⟩, rfl, rfl⟩
    have e41 : (.agg (flat [At.q (elN f N i)]).toArray : Value) = .agg #[.int .u64 (fw (elN f N i) 0 : Nat), .int .u64 (fw (elN f N i) 1 : Nat), .int .u64 (fw (elN f N i) 2 : Nat), .int .u64 (fw (elN f N i) 3 : Nat)] := rfl
    have hval : val4 (fw (elN f N i) 0) (fw (elN f N i) 1) (fw (elN f N i) 2) (fw (elN f N i) 3) = elN f N i := fw_val (rm_lt hxr)
    have hcall := fbytes_ok 2 Go.Proofs.YtalcpnkkbimojaaDoor.FR (Or.inr ⟨rfl, rfl⟩) _ _ _ _ (fw_ok (elN f N i)) (by rw [hval]; exact hxr) w2
    rw [hval] at hcall
    refine wpOps_one ho4 hg4 (wp_call_ex hop4 (vs := [.int .i64 2, .agg (flat [At.q (elN f N i)]).toArray]) (List.cons_eq_cons.2 ⟨rfl, List.cons_eq_cons.2 ⟨ev_t h41f, rfl⟩⟩) (fun args => callable Tryd.func6 (by kernel_rfl) (by kernel_rfl) args _) hcall fun e w3 hr => ?_)
    obtain ⟨tb, rfl, ht1, ht2, htB, hb3⟩ := hr
    refine ⟨_, rfl, ?_⟩
    rw [hd4]
    have h43 := h42.put (d := 42) (v := .tuple #[slV tb 0 32 32, .int .i64 0]) (by decide)
    have h43t := put_get a2 42 (.tuple #[slV tb 0 32 32, .int .i64 0]) (by rw [h42.size]; decide)
    have hbw3 := hb2.trans (hb3.mono hb2.size)
    have hu3 := hu2.on hb3
    have hcell : ∀ q, q < 32 → w3.cell? ⟨tb, q, none⟩ = some (.int .u8 (Int.ofNat (byteAt (elN f N i) q))) := fun q hq => (htB q hq).1
    change wpOps Tryd.prog (opsOf (cA tlB)) _ _ (a2.put (some 42) (.tuple #[slV tb 0 32 32, .int .i64 0])) w3
    generalize a2.put (some 42) (.tuple #[slV tb 0 32 32, .int .i64 0]) = a3 at *
    clear h42 h41f hu2 htB hcall hold
    refine partE_sound (c := tC T0 _) (hT _ _ 0) (hG _ _) (tl_10b _ _ u (iI i) (slV tb 0 32 32)) trivial (by kernel_rfl) ((h43.holds1 h43t w3).toTu (s := 42) (v := .tuple #[slV tb 0 32 32, .int .i64 0]) (l := [.im (slV tb 0 32 32), .im (.int .i64 0)]) List.mem_cons_self rfl) fun a4 w4 hA => ?_
    have h44 : T4 (.slice p N m) (slV bl 0 (1 + (N + 30) / 31) C) u (iI i) a4 := T4.of hA fun φ h => List.mem_cons_of_mem _ (List.mem_cons_of_mem _ h)
    have t6 := hA.slot (s := 6) (v := slV tb 0 32 32) (by simp)
    have t7 := hA.slot (s := 7) (v := .int .i64 0) (by simp)
    have hbw4 := hbw3.trans (hA.below.mono hbw3.size)
    have hu4 := hu3.on hA.below
    have hc4 : ∀ q, q < 32 → w4.cell? ⟨tb, q, none⟩ = some (.int .u8 (Int.ofNat (byteAt (elN f N i) q))) := fun q hq => (hA.below.cell (p := ⟨tb, q, none⟩) ht2).trans (hcell q hq)
    have ht4 : tb < w4.heap.size := Nat.lt_of_lt_of_le ht2 hA.below.size
    clear hA hu3 hcell
    show (Code.seq _ _).wp _ _ _ _
    have h00 : oldOf w4 tb (0 + 0 * 1) [.c (.int .u8 0)] := ⟨ht4, fun j v hj => by
      have hj0 : j = 0 := by have := (List.getElem?_eq_some_iff.1 hj).1; simpa [flat, At.cells] using this
      subst hj0
      have := hc4 0 (by omega)
      rw [hx, hN_byte (fun j => hf _) (by omega) (by omega), if_pos (by omega)] at this
      rw [← hj]
      exact this⟩
    refine wp_seq (runKW_sound hmix (hT _ _) (xO_ok w4 _ _ _) (tl_11 w4 _ _ u (iI i) tb) ⟨rfl, by omega, h00, trivial⟩ (h44.holds2 t6 t7 w4) fun a5 w5 hA => ?_)
    have h45 : T4 (.slice p N m) (slV bl 0 (1 + (N + 30) / 31) C) u (iI i) a5 := T4.of hA fun φ h => List.mem_cons_of_mem _ h
    have t65 := hA.slot (s := 6) (v := slV tb 0 32 32) (by simp)
    have hbw5 := hbw4.trans (hA.below.mono hbw4.size)
    have hu5 := hu4.on hA.below
    have hc5 : ∀ q, q < 32 → w5.cell? ⟨tb, q, none⟩ = some (.int .u8 (Int.ofNat (byteAt (elN f N i) q))) := fun q hq => (hA.below.cell (p := ⟨tb, q, none⟩) ht4).trans (hc4 q hq)
    have ht5 : tb < w5.heap.size := Nat.lt_of_lt_of_le ht4 hA.below.size
    clear hA hu4 hc4 h44 t6 t7
    obtain ⟨pu, mu, rfl⟩ := hu5.form
    show (Code.seq _ _).wp _ _ _ _
    have hnu : min N (31 * (i - 1)) = 31 * (i - 1) := by omega
    rw [hnu] at hu5 h45
    have hmin : Value.int .i64 (if Int.ofNat (N - 31 * (i - 1)) < 31 then Int.ofNat (N - 31 * (i - 1)) else 31) = iI (pcN N (i - 1)) := by
      unfold pcN
      by_cases h : N - 31 * (i - 1) < 31
      · rw [if_pos (by show ((N - 31 * (i - 1) : Nat) : Int) < 31; omega), Nat.min_eq_left (by omega)]; rfl
      · rw [if_neg (by show ¬ ((N - 31 * (i - 1) : Nat) : Int) < 31; omega), Nat.min_eq_right (by omega)]; rfl
    refine wp_seq (runKW_sound hmix (hT _ _) (hG _ _) (tl_13 p pu N m (31 * (i - 1)) mu (pcN N (i - 1)) _ (iI i) (slV tb 0 32 32)) ⟨o_sub (by omega) (by omega), hmin, trivial⟩ (h45.holds1 t65 w5) fun a6 w6 hA => ?_)
    have h46 : T4 (.slice p N m) (slV bl 0 (1 + (N + 30) / 31) C) (.slice pu (31 * (i - 1)) mu) (iI i) a6 := T4.of hA fun φ h => List.mem_cons_of_mem _ (List.mem_cons_of_mem _ h)
    have t66 := hA.slot (s := 6) (v := slV tb 0 32 32) (by simp)
    have t86 := hA.slot (s := 8) (v := iI (pcN N (i - 1))) (by simp)
    have hbw6 := hbw5.trans (hA.below.mono hbw5.size)
    have hu6 := hu5.on hA.below
    have hc6 : ∀ q, q < 32 → w6.cell? ⟨tb, q, none⟩ = some (.int .u8 (Int.ofNat (byteAt (elN f N i) q))) := fun q hq => (hA.below.cell (p := ⟨tb, q, none⟩) ht5).trans (hc5 q hq)
    have ht6 : tb < w6.heap.size := Nat.lt_of_lt_of_le ht5 hA.below.size
    clear hA hu5 hc5 h45 t65
    refine wp_rangeP (l := List.range' 0 ((opsOf (cB (cB (cB tlB)))).extract 0 5).size ++ (5 :: (List.range' 6 ((opsOf (cB (cB (cB tlB)))).extract 6 7).size ++ []))) (by kernel_rfl) ?_
    have hsl : ∀ w : World, (Instr.sliceAt 22 (slV tb 0 32 32) (some (iI (32 - pcN N (i - 1)))) none none).run Tryd.prog w = .ok (slV tb (32 - pcN N (i - 1)) (pcN N (i - 1)) (pcN N (i - 1))) w := fun w => by
      have := sl_from8 (g := tb) (o := 0) (n := 32) (m := 32) (c := 32 - pcN N (i - 1)) (by omega) (by omega) w
      rw [if_neg (by omega), Nat.zero_add, show 32 - (32 - pcN N (i - 1)) = pcN N (i - 1) by omega] at this
      exact this
    refine partE_sound (c := tC T0 _) (hT _ _ 0) (xG_ok _ _ _) (tl_14a _ _ (.slice pu (31 * (i - 1)) mu) (iI i) tb (pcN N (i - 1))) ⟨o_sub32 (by omega), hsl, trivial⟩ (by kernel_rfl) (h46.holds2 t86 t66 w6) fun a7 w7 hA => ?_
    have h47 : T4 (.slice p N m) (slV bl 0 (1 + (N + 30) / 31) C) (.slice pu (31 * (i - 1)) mu) (iI i) a7 := T4.of hA fun φ h => List.mem_cons_of_mem _ (List.mem_cons_of_mem _ h)
    have t63 := hA.slot (s := 63) (v := slV tb (32 - pcN N (i - 1)) (pcN N (i - 1)) (pcN N (i - 1))) (by simp)
    have t59 := hA.slot (s := 59) (v := .slice pu (31 * (i - 1)) mu) (by simp)
    have hbw7 := hbw6.trans (hA.below.mono hbw6.size)
    have hu7 := hu6.on hA.below
    have hc7 : ∀ q, q < 32 → w7.cell? ⟨tb, q, none⟩ = some (.int .u8 (Int.ofNat (byteAt (elN f N i) q))) := fun q hq => (hA.below.cell (p := ⟨tb, q, none⟩) ht6).trans (hc6 q hq)
    clear hA hu6 hc6 h46 t66 t86
    obtain ⟨o5, ho5, hop5, hd5, hg5⟩ : ∃ x, (opsOf (cB (cB (cB tlB))))[5]? = some x ∧ x.op = .call ⟨.builtin .append, #[.tmp 59, .tmp 63], #[22, 22]⟩ ∧ x.dst = some 64 ∧ x.guard = none := ⟨_, rfl, rfl, rfl, rfl⟩
    obtain ⟨u', w8, hap, hu8, hb8⟩ := hu7.app (c := pcN N (i - 1)) (tb := tb) (k := 32 - pcN N (i - 1)) (m := pcN N (i - 1)) hbw7.size hc0 (by unfold pcN; omega) (fun j hj => by
      have := hc7 (32 - pcN N (i - 1) + j) (by omega)
      rw [hx, hN_byte (fun j => hf _) (by omega) (by omega), if_neg (by omega), show 32 - pcN N (i - 1) + j - (32 - pcN N (i - 1)) = j by omega] at this
      exact this) o5.type
    have hrun : (execOp a7.eval o5).run Tryd.prog w7 = .ok (.value u') w8 := by
      unfold execOp
      simp only [hop5, resolve, invoke, builtin, Sem.run_bind, Sem.run_pure, Result.andThen_ok, List.map_toArray, List.map_cons, List.map_nil, ev_t t59, ev_t t63, hap]
    refine wpOps_one ho5 hg5 (wp_value hrun ?_)
    rw [hd5]
    have h48 := h47.put (d := 64) (v := u') (by decide)
    have t64 := put_get a7 64 u' (by rw [h47.size]; decide)
    have hbw8 := hbw7.trans hb8
    generalize a7.put (some 64) u' = a8 at *
    clear h47 t63 t59 hu7 hc7 hap hrun
    refine partE_sound (c := tC T0 _) (hT _ _ 0) (hG _ _) (tl_14b _ _ (.slice pu (31 * (i - 1)) mu) (iI i) u') trivial (by kernel_rfl) (h48.holds1 t64 w8) fun a9 w9 hA => ?_
    have h49 : T4 (.slice p N m) (slV bl 0 (1 + (N + 30) / 31) C) u' (iI i) a9 := T4.of hA fun φ h => h
    have hbw9 := hbw8.trans (hA.below.mono hbw8.size)
    have hu9 := hu8.on hA.below
    clear hA h48 t64 hu8
    show (cB (cB tlL)).wp _ _ _ _
    refine runKW_sound hmix (hT _ _) (hG _ _) (tl_9 _ _ u' i) ⟨o_add (k := 1) (by omega), trivial⟩ (h49.holds w9) fun a10 w10 hA => ?_
    refine ih (i + 1) a10 w10 u' (by omega) (by omega) (T4.of hA fun φ h => h) (hbw9.trans (hA.below.mono hbw9.size)) ?_
    have := hu9.on hA.below
    rwa [show 31 * (i - 1) + pcN N (i - 1) = min N (31 * (i + 1 - 1)) by unfold pcN; omega] at this
end Go.Proofs.YtalcpnkkbimojaaDoor.Ex
