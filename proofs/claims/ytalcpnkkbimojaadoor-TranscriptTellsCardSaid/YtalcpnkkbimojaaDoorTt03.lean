/-
  The reckoner: a step by hand among its facts: a call that makes a block, a call of a closure that writes its block. Of whatever program. Conditions: none.
  The calls of limbs.Add, limbs.Sub and limbs.Cmp: for any two numbers of four words, in any world, the answers are the sum with its carry, the difference with its borrow, the order; nothing that was there is changed. Conditions: each word below 2^64.
  Plain numbers behind the division of two words by one: the normalised divisor, a digit guessed from the upper halves, the correction. No program in sight. Conditions: as each lemma says.
  Rows of words in memory, said cell by cell by a function on places; sums of digits; a store of one digit. Of whatever program. Conditions: none.
  The call of limbs.Mul: for any two numbers of four words, in any world, the answers are the product's upper and lower four words. Conditions: each word below 2^64.
  Memory through a row of calls: the rows of words that were laid, and that nothing older is changed. Of whatever program. Conditions: none.
  The calls of the field's words: a product of two words with two more, a number below two moduli made one below the modulus, sums and differences modulo it, the test whether a number is below it. Conditions: words below 2^64, the constants in a block of memory.
  The field's test whether a number is below the modulus, its sum and its difference. Conditions: words below 2^64, the constants in a block of memory; sums and differences of numbers below the modulus.
  Plain numbers: the two moduli are primes with a known root each, so that whatever is not 0 is a power of it. No program in sight. Conditions: none.
  Elements are kept and told back: the calls into, out, one, product. Conditions: words below 2^64, elements below the modulus, the constants in a block of memory.
  Commutative rings, their square and cubic extensions, by plain words.
  Towers of pairs and triples over Fp: how their elements lie flat; what a table of calls says of functions over them. Of whatever program. Conditions: none.
  The tower's parts in a table of calls. Conditions: none.
  Lists of numbers in old memory; a number as an element. Conditions: none.
  The reckoner within a range over a function: regions in a round, in a fence, with marks. Of whatever program. Conditions: the table of calls is right; no operation defers.
  The reckoner, by hand: an own row written over; a round of a range over a function, the call that asks for it; what leaves all but one block. Of whatever program. Conditions: as each law says.
  Plain numbers behind shifts of four words, their joining and their length. No program in sight. Conditions: as each lemma says.
  Plain numbers behind the reference's bit by bit: the bit of a number of four words is a bit of one of its words; a bit more; shifts, quotients and rests bit by bit. No program in sight. Conditions: none.
  The calls of the reference's Bit and put, and of limbs.Bit: for any number of four words and any place, in any world. Conditions: each word below 2^64; a bit that is put was not there.
  Plain numbers behind bytes: the bytes of a number of four words, the highest first, and the number of 32 bytes. No program in sight. Conditions: none.
  The calls of limbs.Bytes and limbs.Read, and of the reference's Read: for any number of four words, any bytes, in any world. Conditions: each word below 2^64.
  Bytes in memory; a piece of bytes as a number. Conditions: at least one byte, at most 31.
  A piece of bytes as a number: transcript.number. Conditions: at least one byte, at most 31.
  The reckoner: a function whose first argument points into a block that it may write: its facts at the start, what is told at the end. Of whatever program. Conditions: none.
-/
import Derived.WalkKit
import Derived.WalkLawsBesides
import Derived.WalkSpells
import Derived.ProofKit
import Derived.RegionTactic
import Derived.BigRegion
import Derived.BigQuiet
import Derived.Deep.QuietTactic
import Derived.ChangeAlike
import Derived.Laws.Externs
import Derived.LoopN
import Derived.Below
import Derived.Lib.Hide
import Derived.Laws.Bits64b
import Derived.Laws.Bits64
import Derived.Deep.Draws
import Derived.LoopTactic
import Derived.StillTailTactics
import Derived.Shelf.Strconv.Itoa0
import Derived.Shelf.Bits.Mul64
import Derived.Deep.LoopGhost
import Derived.Deep.RegionWith
import Derived.KernelRfl
import Derived.RangeFuncNested
import Derived.RangeFuncLeaves
import Derived.TacticsIn
import Derived.Laws.IdiomCopy
import Derived.Outline
import Derived.Test.YtalcpnkkbimojaaDoorTt02
import Derived.Test.YtalcpnkkbimojaaDoorProg
import Derived.Test.YtalcpnkkbimojaaDoorTt00
namespace Go.Proofs.YtalcpnkkbimojaaDoor.Ex
set_option linter.unusedVariables false
set_option linter.unusedSimpArgs false
open Go.RowKit

theorem Holds.post {nt base : Nat} {w0 : World} {A : List Fact} {a : Act} {w : World} (h : Holds nt base w0 A a w) {dst kill : Option Nat} {out : List Fact} {a' : Act} {w' : World}
    (hP : ∀ β, (∀ φ ∈ A, φ.ok base β a w) → ∃ β', PostB base β β' a w dst A out kill a' w') (hd : optIs dst nt = false := by kernel_rfl) : Holds nt base w0 (out ++ A.filter (fun φ => !(clob dst kill φ))) a' w' := by
  obtain ⟨β, g1, g2, g3, gt⟩ := h.facts
  obtain ⟨β', P⟩ := hP β g1
  have hkill : ∀ φ ∈ A, clob dst kill φ = false → ∀ kk k own l, kill = some kk → φ = .row k own l → (β kk).1 ≠ (β k).1 := fun φ hφ hc kk k own l hkk e => by
    obtain ⟨l0, hl0⟩ := P.kills kk hkk
    have hne : kk ≠ k := fun e2 => by
      rw [e] at hc
      simp only [clob, Bool.or_eq_false_iff] at hc
      have := optIs_iff.2 (e2 ▸ hkk : kill = some k)
      rw [hc.2] at this; cases this
    subst e
    exact g2 kk k own l0 l hl0 hφ hne
  have hmem : ∀ φ ∈ A.filter (fun φ => !(clob dst kill φ)), φ ∈ A ∧ clob dst kill φ = false := fun φ hφ => by
    obtain ⟨h1, h2⟩ := List.mem_filter.1 hφ
    exact ⟨h1, by simpa using h2⟩
  have hβ : ∀ k own l, Fact.row k own l ∈ A.filter (fun φ => !(clob dst kill φ)) → β' k = β k := fun k own l hφ => by
    obtain ⟨_, hc⟩ := hmem _ hφ
    simp only [clob, Bool.or_eq_false_iff] at hc
    exact P.beta k fun e => by have := optIs_iff.2 e; rw [hc.1] at this; cases this
  have hno : ∀ k l k' o' l', Fact.row k true l ∈ out → Fact.row k' o' l' ∈ A.filter (fun φ => !(clob dst kill φ)) → k ≠ k' → (β' k).1 ≠ (β' k').1 := fun k l k' o' l' hk hk' hne => by
    rw [hβ k' o' l' hk']
    obtain ⟨hA', hc⟩ := hmem _ hk'
    rcases P.rows k l hk with ⟨h2, _⟩ | ⟨h2, l0, h3⟩ | ⟨h2, k0, l0, hk0, he, h3⟩
    · have := (g1 _ hA').1
      omega
    · rw [P.beta k h2]
      exact g2 k k' o' l0 l' h3 hA' hne
    · rw [he]
      refine g2 k0 k' o' l0 l' h3 hA' fun e => ?_
      subst e
      simp only [clob, Bool.or_eq_false_iff] at hc
      have := optIs_iff.2 hk0
      rw [hc.2] at this; cases this
  have hnt : β' nt = β nt := P.beta nt fun e => by have := optIs_iff.2 e; rw [hd] at this; cases this
  refine ⟨by rw [P.defers]; exact h.defers, by rw [P.size]; exact h.size, P.below w0 h.below, Nat.le_trans h.heap P.heap, β', fun φ hφ => ?_, fun k k' o' l l' hk hk' hne => ?_, fun k l hk => ?_, by rw [hnt]; exact Nat.le_trans gt.size P.heap, fun p q1 q2 => ?_, gt.shape.trans P.shape⟩
  · rcases List.mem_append.1 hφ with hφ | hφ
    · exact P.ok φ hφ
    · obtain ⟨h1, h2⟩ := hmem φ hφ
      exact keep P (g1 φ h1) h2 (hkill φ h1 h2)
  · rcases List.mem_append.1 hk with hk | hk
    · rcases List.mem_append.1 hk' with hk' | hk'
      · cases o' with
        | true => exact absurd (P.one k k' l l' hk hk') hne
        | false => exact (P.onlyOwn k' l' hk').elim
      · exact hno k l k' o' l' hk hk' hne
    · rcases List.mem_append.1 hk' with hk' | hk'
      · cases o' with
        | true => exact fun e => hno k' l' k true l hk' hk (Ne.symm hne) e.symm
        | false => exact (P.onlyOwn k' l' hk').elim
      · rw [hβ k true l hk, hβ k' o' l' hk']
        exact g2 k k' o' l l' (hmem _ hk).1 (hmem _ hk').1 hne
  · rw [hnt]
    rcases List.mem_append.1 hk with hk | hk
    · rcases P.rows k l hk with ⟨h2, _⟩ | ⟨h2, l0, h3⟩ | ⟨h2, k0, l0, hk0, he, h3⟩
      · exact Or.inr (Nat.le_trans gt.size h2)
      · rw [P.beta k h2]
        exact g3 k l0 h3
      · rw [he]
        exact g3 k0 l0 h3
    · rw [hβ k true l hk]
      exact g3 k l (hmem _ hk).1
  · rw [hnt] at q2
    have h3 := P.mem p (Nat.lt_of_lt_of_le q2 gt.size) fun kk hkk e => by
      obtain ⟨l0, hl0⟩ := P.kills kk hkk
      rcases g3 kk l0 hl0 with h4 | h4 <;> omega
    have h4 := gt.mem p q1 q2
    exact ⟨h3.1.trans h4.1, h3.2.trans h4.2⟩
/-- a call by a name, whatever it answers -/
theorem wp_call_ex {P : Program} {o : Oper} {a : Act} {w : World} {K : Act → World → Prop} {Q : Exit → Act → World → Prop} {id : Nat} {xs : Array Operand} {ts : Array TypeId} {vs : List Value} {R : Ending → World → Prop} (ho : o.op = .call ⟨.value (.func id), xs, ts⟩) (hv : xs.toList.map a.eval = vs)
    (he : ∀ xs, (callFunc id xs).run P w = .ok (.enter id xs) w) (hc : Calls P id vs.toArray w R) (hK : ∀ e w', R e w' → ∃ v, e = .returned v ∧ K (a.put o.dst v) w') : o.wp P a w K Q := by
  have ea : xs.map a.eval = vs.toArray := by rw [← Array.toArray_toList (xs := xs.map a.eval), Array.toList_map, hv]
  have hrun : (execOp a.eval o).run P w = .ok (.enter id vs.toArray) w := by
    have hf : a.eval (.func id) = .func (.func id) #[] #[] := rfl
    simp [execOp, ho, resolve, Deferred.ofValue, hf, invoke, ea, he]
  unfold Oper.wp
  rw [hrun]
  refine Calls.mono hc ?_
  intro e w' hr
  obtain ⟨v, rfl, hk⟩ := hK e w' hr
  exact hk
end Go.Proofs.YtalcpnkkbimojaaDoor.Ex
namespace Go.Proofs.YtalcpnkkbimojaaDoor
set_option linter.unusedVariables false
open Go.RowKit

def sub64E : Array Value → Sem Value := fun args => do
  let (x, y, b) ← Extern.MathBitsCarry.three "Sub64" args
  pure (Extern.MathBitsCarry.pair ((x + Extern.MathBitsCarry.m64 - y - b) % Extern.MathBitsCarry.m64) (if x < y + b then 1 else 0))
theorem run_sub64E {P : Program} (x y b : Nat) (hb : b ≤ 1) (w : World) :
    (sub64E #[.int .u64 x, .int .u64 y, .int .u64 b]).run P w = .ok (.tuple #[.int .u64 (subD x y b : Nat), .int .u64 (subB x y b : Nat)]) w := by
  have : b = 0 ∨ b = 1 := by omega
  rcases this with rfl | rfl <;> rfl
theorem run_Sub64 (x y c : Nat) (hc : c ≤ 1) (w : World) :
    (callFunc 22 #[.int .u64 (x : Int), .int .u64 (y : Int), .int .u64 (c : Int)]).run Tryd.prog w =
      .ok (.value (.tuple #[.int .u64 (subD x y c : Nat), .int .u64 (subB x y c : Nat)])) w := by
  rw [run_callFunc_extern Tryd.func22 (by kernel_rfl) (by kernel_rfl) (by kernel_rfl) (e := sub64E) (by kernel_rfl), run_sub64E x y c hc]
  rfl
theorem run_Sub64z (x y : Nat) (w : World) :
    (callFunc 22 #[.int .u64 (x : Int), .int .u64 (y : Int), .int .u64 0]).run Tryd.prog w =
      .ok (.value (.tuple #[.int .u64 (subD x y 0 : Nat), .int .u64 (subB x y 0 : Nat)])) w := run_Sub64 x y 0 (by omega) w

theorem ex_Sub64 {x y c : Nat} (hx : x < 18446744073709551616) (hy : y < 18446744073709551616) (hc : c ≤ 1) : ∃ d b : Nat, (∀ w, (callFunc 22 #[.int .u64 (x : Int), .int .u64 (y : Int), .int .u64 (c : Int)]).run Tryd.prog w =
      .ok (.value (.tuple #[.int .u64 (d : Int), .int .u64 (b : Int)])) w) ∧ d < 18446744073709551616 ∧ b ≤ 1 ∧ Hid (d + y + c = x + 18446744073709551616 * b) :=
  ⟨_, _, run_Sub64 x y c hc, subD_lt _ _ _, subB_le _ _ _, subDB hx hy hc⟩
theorem ex_Sub64z {x y : Nat} (hx : x < 18446744073709551616) (hy : y < 18446744073709551616) : ∃ d b : Nat, (∀ w, (callFunc 22 #[.int .u64 (x : Int), .int .u64 (y : Int), .int .u64 0]).run Tryd.prog w =
      .ok (.value (.tuple #[.int .u64 (d : Int), .int .u64 (b : Int)])) w) ∧ d < 18446744073709551616 ∧ b ≤ 1 ∧ Hid (d + y = x + 18446744073709551616 * b) :=
  ⟨_, _, run_Sub64z x y, subD_lt _ _ _, subB_le _ _ _, subDB hx hy (Nat.zero_le _)⟩

def cmpN (A B : Nat) : Int := if A = B then 0 else if A < B then -1 else 1

end Go.Proofs.YtalcpnkkbimojaaDoor
namespace Go.Proofs.YtalcpnkkbimojaaDoor
set_option linter.unusedVariables false

theorem wrap_in64 (x : Nat) (h : x < 18446744073709551616) : IntKind.u64.wrap (x : Int) = (x : Int) := by rw [IntKind.wrap_u64]; omega
theorem cast_mul_pow (x S : Nat) : (x : Int) * 2 ^ S = ((x * 2 ^ S : Nat) : Int) := by rw [Int.natCast_mul, Int.natCast_pow]; rfl

section
variable {y1 y0 u u1 q r : Nat}
end

end Go.Proofs.YtalcpnkkbimojaaDoor
namespace Go.Proofs.YtalcpnkkbimojaaDoor
set_option linter.unusedVariables false
open Go.RowKit

/-- n cells of block b hold the words P 0, P 1, .., and may be written. -/
def RowIs (w : World) (b n : Nat) (P : Nat → Nat) : Prop := ∀ k, k < n → w.cell? ⟨b, k, none⟩ = some (.int .u64 (P k : Nat)) ∧ w.frozen? ⟨b, k, none⟩ = false
def upd (P : Nat → Nat) (i v : Nat) : Nat → Nat := fun k => if k = i then v else P k
/-- a list as a function on places -/
def fnOf (l : List Nat) : Nat → Nat := fun k => l.getD k 0

section
variable {w w' : World} {b n i v : Nat} {P : Nat → Nat}
theorem RowIs.cell (h : RowIs w b n P) (hi : i < n) : w.cell? ⟨b, i, none⟩ = some (.int .u64 (P i : Nat)) := (h i hi).1
theorem RowIs.free (h : RowIs w b n P) (hi : i < n) : w.frozen? ⟨b, i, none⟩ = false := (h i hi).2
theorem RowIs.set (h : RowIs w b n P) (hi : i < n) : RowIs (w.setCell ⟨b, i, none⟩ (.int .u64 (v : Nat))) b n (upd P i v) := by
  intro k hk
  refine ⟨?_, by rw [World.frozen?_setCell]; exact h.free hk⟩
  unfold upd
  by_cases e : k = i
  · subst e; rw [if_pos rfl]; exact World.cell?_setCell_same (h := h.cell hk) ..
  · rw [if_neg e, World.cell?_setCell_other (h := fun he => e (by simpa using (congrArg Addr.off he).symm)) ..]; exact h.cell hk
theorem RowIs.other (h : RowIs w b n P) {c : Nat} (hc : c ≠ b) (x : Value) : RowIs (w.setCell ⟨c, i, none⟩ x) b n P := by
  intro k hk
  exact ⟨by rw [World.cell?_setCell_other (h := fun he => hc (by simpa using congrArg Addr.block he)) ..]; exact h.cell hk, by rw [World.frozen?_setCell]; exact h.free hk⟩
theorem RowIs.drew (h : RowIs w b n P) : RowIs w.drew b n P := h
theorem RowIs.drewN (h : RowIs w b n P) (m : Nat) : RowIs (w.drewN m) b n P := h
theorem RowIs.below (h : RowIs w b n P) {B : Nat} (hb : Below B w w') (hB : b < B) : RowIs w' b n P := by
  intro k hk
  exact ⟨by rw [hb.cell (p := ⟨b, k, none⟩) hB]; exact h.cell hk, by rw [hb.frozen (p := ⟨b, k, none⟩) hB]; exact h.free hk⟩
theorem RowIs.alloc (h : RowIs w b n P) (hb : b < w.heap.size) (o : Obj) : RowIs (w.alloc o) b n P :=
  h.below ((Below.refl w.heap.size w).alloc (Nat.le_refl _) o) hb
/-- a new block of words -/
theorem RowIs.mk (w : World) (t : TypeId) (l : List Nat) (b : Nat) (hb : b = w.heap.size) : RowIs (w.alloc (.cells (l.map fun x => Value.int .u64 (x : Nat)).toArray t)) b l.length (fnOf l) := by
  subst hb
  intro k hk
  refine ⟨?_, World.frozen?_alloc_new _ _ _ _⟩
  rw [World.cell?_alloc_new]
  simp [fnOf, hk]
end

/-- four words in a block, told one by one -/
structure Row4 (w : World) (b : Nat) (c0 c1 c2 c3 : Nat) : Prop where
  c0 : w.cell? ⟨b, 0, none⟩ = some (.int .u64 c0)
  c1 : w.cell? ⟨b, 1, none⟩ = some (.int .u64 c1)
  c2 : w.cell? ⟨b, 2, none⟩ = some (.int .u64 c2)
  c3 : w.cell? ⟨b, 3, none⟩ = some (.int .u64 c3)
  fr : ∀ k, w.frozen? ⟨b, k, none⟩ = false
theorem Row4.below {w w' : World} {b : Nat} {c0 c1 c2 c3 : Nat} (h : Row4 w b c0 c1 c2 c3) {B : Nat} (hb : Below B w w') (hB : b < B) : Row4 w' b c0 c1 c2 c3 :=
  ⟨by rw [hb.cell (p := ⟨b, 0, none⟩) hB]; exact h.c0, by rw [hb.cell (p := ⟨b, 1, none⟩) hB]; exact h.c1, by rw [hb.cell (p := ⟨b, 2, none⟩) hB]; exact h.c2, by rw [hb.cell (p := ⟨b, 3, none⟩) hB]; exact h.c3,
    fun k => by rw [hb.frozen (p := ⟨b, k, none⟩) hB]; exact h.fr k⟩
theorem Row4.alloc {w : World} {b : Nat} {c0 c1 c2 c3 : Nat} (h : Row4 w b c0 c1 c2 c3) (hb : b < w.heap.size) (o : Obj) : Row4 (w.alloc o) b c0 c1 c2 c3 :=
  h.below ((Below.refl w.heap.size w).alloc (Nat.le_refl _) o) hb
theorem Row4.drewN {w : World} {b : Nat} {c0 c1 c2 c3 : Nat} (h : Row4 w b c0 c1 c2 c3) (n : Nat) : Row4 (w.drewN n) b c0 c1 c2 c3 := ⟨h.c0, h.c1, h.c2, h.c3, h.fr⟩
theorem Row4.new (w : World) (c0 c1 c2 c3 : Nat) (t : TypeId) : Row4 (w.alloc (.cells #[.int .u64 c0, .int .u64 c1, .int .u64 c2, .int .u64 c3] t)) w.heap.size c0 c1 c2 c3 :=
  ⟨by rw [World.cell?_alloc_new]; rfl, by rw [World.cell?_alloc_new]; rfl, by rw [World.cell?_alloc_new]; rfl, by rw [World.cell?_alloc_new]; rfl, fun k => World.frozen?_alloc_new _ _ _ _⟩
theorem Row4.other {w : World} {b d i : Nat} {c0 c1 c2 c3 : Nat} (h : Row4 w b c0 c1 c2 c3) (hd : d ≠ b) (v : Value) : Row4 (w.setCell ⟨d, i, none⟩ v) b c0 c1 c2 c3 :=
  ⟨by rw [World.cell?_setCell_other (h := fun he => hd (by simpa using congrArg Addr.block he)) ..]; exact h.c0, by rw [World.cell?_setCell_other (h := fun he => hd (by simpa using congrArg Addr.block he)) ..]; exact h.c1,
    by rw [World.cell?_setCell_other (h := fun he => hd (by simpa using congrArg Addr.block he)) ..]; exact h.c2, by rw [World.cell?_setCell_other (h := fun he => hd (by simpa using congrArg Addr.block he)) ..]; exact h.c3,
    fun k => by rw [World.frozen?_setCell]; exact h.fr k⟩
/-- four stores, in the walk's order -/
def set4 (w : World) (b : Nat) (d0 d1 d2 d3 : Nat) : World := (((w.setCell ⟨b, 0, none⟩ (.int .u64 d0)).setCell ⟨b, 1, none⟩ (.int .u64 d1)).setCell ⟨b, 2, none⟩ (.int .u64 d2)).setCell ⟨b, 3, none⟩ (.int .u64 d3)
theorem Row4.rows {w : World} {b : Nat} {c0 c1 c2 c3 : Nat} (h : Row4 w b c0 c1 c2 c3) : RowIs w b 4 (fnOf [c0, c1, c2, c3]) := by
  intro k hk
  refine ⟨?_, h.fr k⟩
  match k, hk with
  | 0, _ => exact h.c0
  | 1, _ => exact h.c1
  | 2, _ => exact h.c2
  | 3, _ => exact h.c3
theorem Row4.set4 {w : World} {b : Nat} {c0 c1 c2 c3 : Nat} (h : Row4 w b c0 c1 c2 c3) (d0 d1 d2 d3 : Nat) : Row4 (set4 w b d0 d1 d2 d3) b d0 d1 d2 d3 := by
  have r := (((h.rows.set (show 0 < 4 by omega) (v := d0)).set (show 1 < 4 by omega) (v := d1)).set (show 2 < 4 by omega) (v := d2)).set (show 3 < 4 by omega) (v := d3)
  exact ⟨r.cell (by omega), r.cell (show 1 < 4 by omega), r.cell (show 2 < 4 by omega), r.cell (show 3 < 4 by omega), fun k => by
    show World.frozen? (((_ : World).setCell _ _)) _ = _
    rw [World.frozen?_setCell, World.frozen?_setCell, World.frozen?_setCell, World.frozen?_setCell]; exact h.fr k⟩
theorem Row4.set4_other {w : World} {b d : Nat} {c0 c1 c2 c3 : Nat} (h : Row4 w b c0 c1 c2 c3) (hd : d ≠ b) (e0 e1 e2 e3 : Nat) : Row4 (Go.Proofs.YtalcpnkkbimojaaDoor.set4 w d e0 e1 e2 e3) b c0 c1 c2 c3 :=
  (((h.other hd _).other hd _).other hd _).other hd _
theorem below_set4 {B : Nat} {w w' : World} {b : Nat} (h : Below B w w') (hb : B ≤ b) (d0 d1 d2 d3 : Nat) : Below B w (set4 w' b d0 d1 d2 d3) :=
  (((h.setCell (p := ⟨b, 0, none⟩) hb _).setCell (p := ⟨b, 1, none⟩) hb _).setCell (p := ⟨b, 2, none⟩) hb _).setCell (p := ⟨b, 3, none⟩) hb _
theorem below_drewN' (B : Nat) (w : World) (n : Nat) : Below B w (w.drewN n) := ⟨rfl, rfl, rfl, Nat.le_refl _, fun _ _ => rfl⟩

def tot (B : Nat) (P : Nat → Nat) : Nat → Nat
  | 0 => 0
  | n + 1 => tot B P n + P n * B ^ n
theorem tot_succ (B : Nat) (P : Nat → Nat) (n : Nat) : tot B P (n + 1) = tot B P n + P n * B ^ n := rfl
theorem tot_upd_ge (B : Nat) (P : Nat → Nat) (k v : Nat) : ∀ n, n ≤ k → tot B (upd P k v) n = tot B P n
  | 0, _ => rfl
  | n + 1, h => by
    rw [tot_succ, tot_succ, tot_upd_ge B P k v n (by omega)]
    unfold upd
    rw [if_neg (by omega)]
theorem tot_upd (B : Nat) (P : Nat → Nat) (k v : Nat) : ∀ n, k < n → tot B (upd P k v) n + P k * B ^ k = tot B P n + v * B ^ k
  | n + 1, h => by
    rw [tot_succ, tot_succ]
    by_cases e : k = n
    · subst e
      rw [tot_upd_ge B P k v k (Nat.le_refl _)]
      unfold upd
      rw [if_pos rfl]; omega
    · have := tot_upd B P k v n (by omega)
      have e' : upd P k v n = P n := by unfold upd; rw [if_neg (by omega)]
      rw [e']; omega
theorem tot_lt (B : Nat) (P : Nat → Nat) (hB : 0 < B) : ∀ n, (∀ k, k < n → P k < B) → tot B P n < B ^ n
  | 0, _ => by simp [tot]
  | n + 1, h => by
    have h1 := tot_lt B P hB n (fun k hk => h k (by omega))
    have h2 := Nat.mul_le_mul_right (B ^ n) (show P n + 1 ≤ B by have := h n (by omega); omega)
    rw [tot_succ, Nat.pow_succ, Nat.mul_comm (B ^ n) B]
    rw [Nat.add_mul, Nat.one_mul] at h2
    omega

/-! ### The school's product over a base R: n digits by n digits into 2n -/
section
variable {R n : Nat} {A B P : Nat → Nat} {i j o d o' : Nat}
theorem tot_split (R : Nat) (P : Nat → Nat) (n : Nat) : ∀ m, tot R P (n + m) = tot R P n + R ^ n * tot R (fun k => P (n + k)) m
  | 0 => by rw [Nat.add_zero]; show _ = _ + R ^ n * 0; rw [Nat.mul_zero, Nat.add_zero]
  | m + 1 => by
    rw [show n + (m + 1) = n + m + 1 by omega, tot_succ, tot_split R P n m, tot_succ, Nat.mul_add, Nat.pow_add, ← Nat.mul_assoc (R ^ n), Nat.add_assoc]
    rw [Nat.mul_comm (P (n + m)) (R ^ n * R ^ m), Nat.mul_right_comm]
end
theorem val4_tot (P : Nat → Nat) : val4 (P 0) (P 1) (P 2) (P 3) = tot 18446744073709551616 P 4 := by
  unfold val4
  simp only [tot]
  omega
end Go.Proofs.YtalcpnkkbimojaaDoor
namespace Go.Proofs.YtalcpnkkbimojaaDoor
set_option linter.unusedVariables false
open Go.RowKit

/-- the world in a product's rounds: a's, b's and the result's blocks, and the product's -/
structure MW (w wr : World) (A B P : Nat → Nat) : Prop where
  below : Below w.heap.size w wr
  size : wr.heap.size = w.heap.size + 1 + 1 + 1 + 1 + 1
  rowA : RowIs wr w.heap.size 4 A
  rowB : RowIs wr (w.heap.size + 1) 4 B
  rowH : ∃ H, RowIs wr (w.heap.size + 1 + 1) 4 H
  rowL : ∃ L, RowIs wr (w.heap.size + 1 + 1 + 1) 4 L
  rowP : RowIs wr (w.heap.size + 1 + 1 + 1 + 1) 8 P
  lt : ∀ k, P k < 18446744073709551616
theorem MW.set {w wr : World} {A B P : Nat → Nat} (h : MW w wr A B P) {k d : Nat} (hk : k < 8) (hd : d < 18446744073709551616) :
    MW w (wr.setCell ⟨w.heap.size + 1 + 1 + 1 + 1, k, none⟩ (.int .u64 (d : Nat))) A B (upd P k d) :=
  ⟨h.below.setCell (p := ⟨w.heap.size + 1 + 1 + 1 + 1, k, none⟩) (by simp; omega) _, by rw [World.size_setCell]; exact h.size, h.rowA.other (by omega) _, h.rowB.other (by omega) _,
    h.rowH.elim fun H x => ⟨H, x.other (by omega) _⟩, h.rowL.elim fun L x => ⟨L, x.other (by omega) _⟩, h.rowP.set hk,
    fun x => by unfold upd; split; exact hd; exact h.lt x⟩
theorem MW.drewN {w wr : World} {A B P : Nat → Nat} (h : MW w wr A B P) (n : Nat) : MW w (wr.drewN n) A B P :=
  ⟨h.below.trans (below_drewN' _ _ _), h.size, h.rowA, h.rowB, h.rowH, h.rowL, h.rowP, h.lt⟩
end Go.Proofs.YtalcpnkkbimojaaDoor
namespace Go.Proofs.YtalcpnkkbimojaaDoor
set_option linter.unusedVariables false
set_option linter.unusedSimpArgs false
open Go.RowKit

/-- what was laid since w, told row by row -/
def Mem (w wr : World) (rs : List (Nat × Nat × Nat × Nat × Nat)) : Prop :=
  Below w.heap.size w wr ∧ ∀ r, r ∈ rs → r.1 < wr.heap.size ∧ Row4 wr r.1 r.2.1 r.2.2.1 r.2.2.2.1 r.2.2.2.2
theorem Mem.nil (w : World) : Mem w w [] := ⟨Below.refl _ _, fun _ h => by cases h⟩
theorem Mem.on {w wr w' : World} {rs : List (Nat × Nat × Nat × Nat × Nat)} (h : Mem w wr rs) (hb : Below wr.heap.size wr w') : Mem w w' rs :=
  ⟨h.1.trans (hb.mono h.1.size), fun r hr => ⟨Nat.lt_of_lt_of_le (h.2 r hr).1 hb.size, (h.2 r hr).2.below hb (h.2 r hr).1⟩⟩
theorem Mem.drewN {w wr : World} {rs : List (Nat × Nat × Nat × Nat × Nat)} (h : Mem w wr rs) (n : Nat) : Mem w (wr.drewN n) rs := h.on (below_drewN' _ _ n)
theorem Mem.new {w wr : World} {rs : List (Nat × Nat × Nat × Nat × Nat)} (h : Mem w wr rs) (b c0 c1 c2 c3 : Nat) (t : TypeId) (hb : b = wr.heap.size) :
    Mem w (wr.alloc (.cells #[.int .u64 c0, .int .u64 c1, .int .u64 c2, .int .u64 c3] t)) ((b, c0, c1, c2, c3) :: rs) := by
  subst hb
  have hB : Below wr.heap.size wr (wr.alloc (.cells #[.int .u64 c0, .int .u64 c1, .int .u64 c2, .int .u64 c3] t)) := (Below.refl _ _).alloc (Nat.le_refl _) _
  refine ⟨(h.on hB).1, fun r hr => ?_⟩
  rcases List.mem_cons.1 hr with e | hr
  · rw [e]
    exact ⟨by simp, Row4.new wr c0 c1 c2 c3 t⟩
  · exact (h.on hB).2 r hr
theorem Mem.sub {w wr : World} {rs rs' : List (Nat × Nat × Nat × Nat × Nat)} (h : Mem w wr rs) (hs : ∀ r, r ∈ rs' → r ∈ rs) : Mem w wr rs' := ⟨h.1, fun r hr => h.2 r (hs r hr)⟩
/-- a row written anew -/
theorem Mem.put {w wr : World} {rs : List (Nat × Nat × Nat × Nat × Nat)} {b c0 c1 c2 c3 : Nat} (h : Mem w wr ((b, c0, c1, c2, c3) :: rs)) (d0 d1 d2 d3 : Nat) (hw : w.heap.size ≤ b) (hne : ∀ r, r ∈ rs → r.1 ≠ b) :
    Mem w (set4 wr b d0 d1 d2 d3) ((b, d0, d1, d2, d3) :: rs) := by
  refine ⟨below_set4 h.1 hw _ _ _ _, fun r hr => ?_⟩
  have hs : (set4 wr b d0 d1 d2 d3).heap.size = wr.heap.size := by unfold set4; simp only [World.size_setCell]
  rcases List.mem_cons.1 hr with e | hr
  · rw [e]
    exact ⟨by rw [hs]; exact (h.2 _ List.mem_cons_self).1, (h.2 _ List.mem_cons_self).2.set4 _ _ _ _⟩
  · exact ⟨by rw [hs]; exact (h.2 r (List.mem_cons_of_mem _ hr)).1, (h.2 r (List.mem_cons_of_mem _ hr)).2.set4_other (fun e => hne r hr e.symm) _ _ _ _⟩
end Go.Proofs.YtalcpnkkbimojaaDoor
namespace Go.Proofs.YtalcpnkkbimojaaDoor
set_option linter.unusedVariables false
set_option linter.unusedSimpArgs false
open Go.RowKit

/-- the constants of a field, cell by cell -/
structure KIs (w : World) (b : Nat) (F : FC) : Prop where
  k0 : w.cell? ⟨b, 0, none⟩ = some (.int .u64 F.m0)
  k1 : w.cell? ⟨b, 1, none⟩ = some (.int .u64 F.m1)
  k2 : w.cell? ⟨b, 2, none⟩ = some (.int .u64 F.m2)
  k3 : w.cell? ⟨b, 3, none⟩ = some (.int .u64 F.m3)
  k4 : w.cell? ⟨b, 4, none⟩ = some (.int .u64 F.inv)
  k5 : w.cell? ⟨b, 5, none⟩ = some (.int .u64 F.s0)
  k6 : w.cell? ⟨b, 6, none⟩ = some (.int .u64 F.s1)
  k7 : w.cell? ⟨b, 7, none⟩ = some (.int .u64 F.s2)
  k8 : w.cell? ⟨b, 8, none⟩ = some (.int .u64 F.s3)
  lt : b < w.heap.size
theorem KIs.below {w w' : World} {b : Nat} {F : FC} (h : KIs w b F) {B : Nat} (hb : Below B w w') (hB : b < B) : KIs w' b F :=
  ⟨by rw [hb.cell (p := ⟨b, 0, none⟩) hB]; exact h.k0, by rw [hb.cell (p := ⟨b, 1, none⟩) hB]; exact h.k1, by rw [hb.cell (p := ⟨b, 2, none⟩) hB]; exact h.k2, by rw [hb.cell (p := ⟨b, 3, none⟩) hB]; exact h.k3,
    by rw [hb.cell (p := ⟨b, 4, none⟩) hB]; exact h.k4, by rw [hb.cell (p := ⟨b, 5, none⟩) hB]; exact h.k5, by rw [hb.cell (p := ⟨b, 6, none⟩) hB]; exact h.k6, by rw [hb.cell (p := ⟨b, 7, none⟩) hB]; exact h.k7, by rw [hb.cell (p := ⟨b, 8, none⟩) hB]; exact h.k8, Nat.lt_of_lt_of_le h.lt hb.size⟩
theorem KIs.same {w w' : World} {b : Nat} {F : FC} (h : KIs w b F) (hb : Below w.heap.size w w') : KIs w' b F := h.below hb h.lt
theorem KIs.drewN {w : World} {b : Nat} {F : FC} (h : KIs w b F) (n : Nat) : KIs (w.drewN n) b F := ⟨h.k0, h.k1, h.k2, h.k3, h.k4, h.k5, h.k6, h.k7, h.k8, h.lt⟩
theorem KIs.other {w : World} {b d i : Nat} {F : FC} (h : KIs w b F) (hd : d ≠ b) (v : Value) : KIs (w.setCell ⟨d, i, none⟩ v) b F :=
  ⟨by rw [World.cell?_setCell_other (h := fun he => hd (by simpa using congrArg Addr.block he)) ..]; exact h.k0, by rw [World.cell?_setCell_other (h := fun he => hd (by simpa using congrArg Addr.block he)) ..]; exact h.k1,
    by rw [World.cell?_setCell_other (h := fun he => hd (by simpa using congrArg Addr.block he)) ..]; exact h.k2, by rw [World.cell?_setCell_other (h := fun he => hd (by simpa using congrArg Addr.block he)) ..]; exact h.k3,
    by rw [World.cell?_setCell_other (h := fun he => hd (by simpa using congrArg Addr.block he)) ..]; exact h.k4, by rw [World.cell?_setCell_other (h := fun he => hd (by simpa using congrArg Addr.block he)) ..]; exact h.k5,
    by rw [World.cell?_setCell_other (h := fun he => hd (by simpa using congrArg Addr.block he)) ..]; exact h.k6, by rw [World.cell?_setCell_other (h := fun he => hd (by simpa using congrArg Addr.block he)) ..]; exact h.k7,
    by rw [World.cell?_setCell_other (h := fun he => hd (by simpa using congrArg Addr.block he)) ..]; exact h.k8, by rw [World.size_setCell]; exact h.lt⟩

/-- four subtractions with a borrow, as facts -/
theorem ex_sub4 {a0 a1 a2 a3 b0 b1 b2 b3 : Nat} (ha : ok4 a0 a1 a2 a3) (hb : ok4 b0 b1 b2 b3) : ∃ d0 c0 d1 c1 d2 c2 d3 c3 : Nat,
    (∀ w, (callFunc 22 #[.int .u64 (a0 : Int), .int .u64 (b0 : Int), .int .u64 0]).run Tryd.prog w = .ok (.value (.tuple #[.int .u64 (d0 : Int), .int .u64 (c0 : Int)])) w) ∧
    (∀ w, (callFunc 22 #[.int .u64 (a1 : Int), .int .u64 (b1 : Int), .int .u64 (c0 : Int)]).run Tryd.prog w = .ok (.value (.tuple #[.int .u64 (d1 : Int), .int .u64 (c1 : Int)])) w) ∧
    (∀ w, (callFunc 22 #[.int .u64 (a2 : Int), .int .u64 (b2 : Int), .int .u64 (c1 : Int)]).run Tryd.prog w = .ok (.value (.tuple #[.int .u64 (d2 : Int), .int .u64 (c2 : Int)])) w) ∧
    (∀ w, (callFunc 22 #[.int .u64 (a3 : Int), .int .u64 (b3 : Int), .int .u64 (c2 : Int)]).run Tryd.prog w = .ok (.value (.tuple #[.int .u64 (d3 : Int), .int .u64 (c3 : Int)])) w) ∧
    ok4 d0 d1 d2 d3 ∧ c3 ≤ 1 ∧ Hid (val4 d0 d1 d2 d3 + val4 b0 b1 b2 b3 = val4 a0 a1 a2 a3 + 115792089237316195423570985008687907853269984665640564039457584007913129639936 * c3) := by
  obtain ⟨d0, c0, r0, h0, k0, e0⟩ := ex_Sub64z ha.1 hb.1
  obtain ⟨d1, c1, r1, h1, k1, e1⟩ := ex_Sub64 ha.2.1 hb.2.1 k0
  obtain ⟨d2, c2, r2, h2, k2, e2⟩ := ex_Sub64 ha.2.2.1 hb.2.2.1 k1
  obtain ⟨d3, c3, r3, h3, k3, e3⟩ := ex_Sub64 ha.2.2.2 hb.2.2.2 k2
  exact ⟨d0, c0, d1, c1, d2, c2, d3, c3, r0, r1, r2, r3, ⟨h0, h1, h2, h3⟩, k3, Lib.hid (by have := e0.out; have := e1.out; have := e2.out; have := e3.out; unfold val4; omega)⟩
end Go.Proofs.YtalcpnkkbimojaaDoor
namespace Go.Proofs.YtalcpnkkbimojaaDoor
set_option linter.unusedVariables false
set_option linter.unusedSimpArgs false
open Go.RowKit

/-- is the number below the modulus? -/
def isB (V M : Nat) : Bool := decide (V < M)
theorem isB_of {V M c D : Nat} (hD : D < 115792089237316195423570985008687907853269984665640564039457584007913129639936) (hc : c ≤ 1) (e : D + M = V + 115792089237316195423570985008687907853269984665640564039457584007913129639936 * c) (hM : M < 115792089237316195423570985008687907853269984665640564039457584007913129639936) (hV : V < 115792089237316195423570985008687907853269984665640564039457584007913129639936) : ((c : Int) == 1) = isB V M := by
  have : c = 0 ∨ c = 1 := by omega
  unfold isB
  rcases this with rfl | rfl
  · rw [decide_eq_false (by omega)]; rfl
  · rw [decide_eq_true (by omega)]; rfl

theorem ret_bool {a b : Bool} (h : a = b) : Ending.returned (.bool a) = .returned (.bool b) := by rw [h]
set_option maxHeartbeats 1000000 in
theorem has_calls (F : FC) (hF : F.Ok) (b a0 a1 a2 a3 : Nat) (ha : ok4 a0 a1 a2 a3) (w : World) (hk : KIs w b F) :
    Calls Tryd.prog 13 #[.pointer (some ⟨b, 0, none⟩), .agg #[.int .u64 a0, .int .u64 a1, .int .u64 a2, .int .u64 a3]] w fun e w' => e = .returned (.bool (isB (val4 a0 a1 a2 a3) F.M)) ∧ Below w.heap.size w w' := by
  obtain ⟨d0, c0, d1, c1, d2, c2, d3, c3, r0, r1, r2, r3, hd, hc, e⟩ := ex_sub4 ha hF.okm
  have HB := Lib.hid (isB_of (val4_lt hd) hc e.out (val4_lt hF.okm) (val4_lt ha))
  have hL := hk.lt
  have hL' : b ≠ w.heap.size := by omega
  have k0 := hk.k0; have k1 := hk.k1; have k2 := hk.k2; have k3 := hk.k3
  clear hk hF e
  go_enter Tryd.func13, Tryd.ntmps13
  go_wp2_with fail
  go_quiet (fail)
  go_wp2_with fail
  go_quiet (fail)
  go_wp2_with fail
  go_quiet (fail)
  go_wp2_with fail
  go_quiet (fail)
  go_wp2_with fail
  go_ret
  exact ⟨ret_bool HB.out, by repeat (first | exact Below.refl _ _ | refine Below.drew ?_ | exact below_drewN' _ _ _ | refine Below.alloc ?_ (by first | (simp; done) | (simp; omega)) _ | refine Below.trans ?_ (below_drewN' _ _ _))⟩

end Go.Proofs.YtalcpnkkbimojaaDoor
namespace Go.Proofs.YtalcpnkkbimojaaDoor
set_option linter.unusedVariables false

theorem least {P : Nat → Prop} : ∀ n, P n → ∃ m, P m ∧ ∀ k, k < m → ¬ P k := by
  intro n
  induction n using Nat.strongRecOn with
  | ind n ih =>
    intro h
    by_cases hk : ∃ k, k < n ∧ P k
    · obtain ⟨k, h1, h2⟩ := hk; exact ih k h1 h2
    · exact ⟨n, h, fun k h1 h2 => hk ⟨k, h1, h2⟩⟩

end Go.Proofs.YtalcpnkkbimojaaDoor
namespace Go.Proofs.YtalcpnkkbimojaaDoor
set_option linter.unusedVariables false
set_option linter.unusedSimpArgs false
open Go.RowKit

theorem of_calls (n : Nat) (hn : n < 18446744073709551616) (w : World) : Calls Tryd.prog 9 #[.int .u64 n] w fun e w' => e = .returned (.agg #[.int .u64 n, .int .u64 0, .int .u64 0, .int .u64 0]) ∧ Below w.heap.size w w' := by
  go_enter Tryd.func9, Tryd.ntmps9
  go_wp2_with fail
  refine bodyPost_ret (v := .agg #[.int .u64 n, .int .u64 0, .int .u64 0, .int .u64 0]) (by simp [results, Tryd.results9, go_sem]) rfl ?_
  exact ⟨rfl, by repeat (first | exact Below.refl _ _ | refine Below.drew ?_ | refine Below.alloc ?_ (by first | (simp; done) | (simp; omega)) _ | refine Below.setCell ?_ (by simp) _)⟩
end Go.Proofs.YtalcpnkkbimojaaDoor
namespace Go.Proofs.YtalcpnkkbimojaaDoor
set_option linter.unusedVariables false
set_option linter.unusedSimpArgs false
/-- a commutative ring with one -/
structure CR (R : Type) where
  add : R → R → R
  mul : R → R → R
  neg : R → R
  zero : R
  one : R
  add_assoc : ∀ a b c, add (add a b) c = add a (add b c)
  add_comm : ∀ a b, add a b = add b a
  zero_add : ∀ a, add zero a = a
  neg_add : ∀ a, add (neg a) a = zero
  mul_assoc : ∀ a b c, mul (mul a b) c = mul a (mul b c)
  mul_comm : ∀ a b, mul a b = mul b a
  one_mul : ∀ a, mul one a = a
  mul_add : ∀ a b c, mul a (add b c) = add (mul a b) (mul a c)

namespace CR
variable {R : Type} (K : CR R)
theorem add_left_comm (a b c : R) : K.add a (K.add b c) = K.add b (K.add a c) := by rw [← K.add_assoc, K.add_comm a b, K.add_assoc]
theorem mul_left_comm (a b c : R) : K.mul a (K.mul b c) = K.mul b (K.mul a c) := by rw [← K.mul_assoc, K.mul_comm a b, K.mul_assoc]
theorem add_mul (a b c : R) : K.mul (K.add a b) c = K.add (K.mul a c) (K.mul b c) := by rw [K.mul_comm, K.mul_add, K.mul_comm c a, K.mul_comm c b]
theorem add_zero (a : R) : K.add a K.zero = a := by rw [K.add_comm, K.zero_add]
theorem add_cancel {a b c : R} (h : K.add a b = K.add a c) : b = c := by
  have := congrArg (K.add (K.neg a)) h
  rwa [← K.add_assoc, ← K.add_assoc, K.neg_add, K.zero_add, K.zero_add] at this
theorem mul_zero (a : R) : K.mul a K.zero = K.zero := by
  apply K.add_cancel (a := K.mul a K.zero)
  rw [← K.mul_add, K.add_zero, K.add_zero]
theorem zero_mul (a : R) : K.mul K.zero a = K.zero := by rw [K.mul_comm, K.mul_zero]
theorem mul_one (a : R) : K.mul a K.one = a := by rw [K.mul_comm, K.one_mul]
def sub (a b : R) : R := K.add a (K.neg b)

/-- R[t] / (t^2 - q): pairs -/
def sq (q : R) : CR (R × R) where
  add x y := (K.add x.1 y.1, K.add x.2 y.2)
  mul x y := (K.add (K.mul x.1 y.1) (K.mul q (K.mul x.2 y.2)), K.add (K.mul x.1 y.2) (K.mul x.2 y.1))
  neg x := (K.neg x.1, K.neg x.2)
  zero := (K.zero, K.zero)
  one := (K.one, K.zero)
  add_assoc a b c := by simp only [K.add_assoc]
  add_comm a b := by rw [K.add_comm a.1, K.add_comm a.2]
  zero_add a := by simp only [K.zero_add]
  neg_add a := by simp only [K.neg_add]
  mul_assoc a b c := by
    simp only [K.mul_add, K.add_mul, K.mul_assoc, K.mul_left_comm, K.add_assoc, K.add_left_comm, K.add_comm]
  mul_comm a b := by
    simp only [K.mul_comm, K.add_comm]
  one_mul a := by simp only [K.one_mul, K.zero_mul, K.mul_zero, K.add_zero]
  mul_add a b c := by
    simp only [K.mul_add, K.add_assoc, Prod.mk.injEq]
    constructor <;> (simp only [K.add_left_comm])

end CR
end Go.Proofs.YtalcpnkkbimojaaDoor
namespace Go.Proofs.YtalcpnkkbimojaaDoor.Ex
set_option linter.unusedVariables false
set_option linter.unusedSimpArgs false
open Go.RowKit

def fm (n : Nat) : Fq := ⟨n % FP.M, Nat.mod_lt _ fp_pos⟩
abbrev Q2 := Fq × Fq
abbrev Q6 := Q2 × Q2 × Q2
def e1 (x : Fq) : List At := [.f x]
def e2 (x : Q2) : List At := [.f x.1, .f x.2]
def e6 (x : Q6) : List At := [.f x.1.1, .f x.1.2, .f x.2.1.1, .f x.2.1.2, .f x.2.2.1, .f x.2.2.2]
/-- elements as they come in -/
abbrev N2 := Nat × Nat
def q1 (x : Nat) : List At := [.q x]
def q2 (x : N2) : List At := [.q x.1, .q x.2]
/-- a number's words, as an element -/
def wv (x : Nat) : Nat := val4 (fw x 0) (fw x 1) (fw x 2) (fw x 3)
def m1 (x : Nat) : Fq := fm (wv x)
def m2 (x : N2) : Q2 := (m1 x.1, m1 x.2)
/-- entries: functions of no, one, two flat values; what must hold and what is answered hang on them -/
abbrev Ent := List CA → Option (List Prop × RV)
def g0 (r : RV) : Ent
  | [] => some ([], r)
  | _ => none
def g1 {α : Type} (rd : List At → Option α) (op : α → List Prop × RV) : Ent
  | [.v (.fl l)] => match rd l with | some x => some (op x) | none => none
  | _ => none
def g2 {α γ : Type} (rd : List At → Option α) (rd' : List At → Option γ) (op : α → γ → List Prop × RV) : Ent
  | [.v (.fl l), .v (.fl m)] => match rd l, rd' m with | some x, some y => some (op x y) | _, _ => none
  | _ => none
/-- what is said of a call -/
def Good (P : Program) (f : FuncId) (r : RV) (args : List Value) (w : World) : Prop := Calls P f args.toArray w (fun e w' => e = .returned r.den ∧ Below w.heap.size w w')
theorem g0_ok {P : Program} {f : FuncId} {r : RV} (h : ∀ w, Good P f r [] w) : ∀ cs pre r', g0 r cs = some (pre, r') → allP pre → ∀ (args : List Value) (w : World), CAs w cs args → Good P f r' args w := by
  intro cs pre r' hg hp args w ha
  unfold g0 at hg
  split at hg
  · cases hg
    cases args with
    | nil => exact h w
    | cons _ _ => exact ha.elim
  · cases hg
end Go.Proofs.YtalcpnkkbimojaaDoor.Ex
namespace Go.Proofs.YtalcpnkkbimojaaDoor.Ex
set_option linter.unusedVariables false
set_option linter.unusedSimpArgs false
open Go.RowKit

theorem hmix : Tryd.prog.follows .mixedOrders = true := by kernel_rfl
def ones : Nat → List At → Option (List Fq)
  | 0, _ => some []
  | n + 1, .f a :: r => match ones n r with | some l => some (a :: l) | none => none
  | _, _ => none
end Go.Proofs.YtalcpnkkbimojaaDoor.Ex
namespace Go.Proofs.YtalcpnkkbimojaaDoor.Ex
set_option linter.unusedVariables false
set_option linter.unusedSimpArgs false
set_option maxRecDepth 100000
open Go.RowKit

abbrev RM : Nat := Go.Proofs.YtalcpnkkbimojaaDoor.FR.M
abbrev W256 : Nat := 115792089237316195423570985008687907853269984665640564039457584007913129639936
theorem rm_lt {x : Nat} (h : x < RM) : x < W256 := Nat.lt_trans h (by decide)
/-- a number as an element -/
def gOfR : Ent
  | [.v (.im (.int .u64 (.ofNat n)))] => some ([n < 18446744073709551616], .one (.fl [.q n]))
  | _ => none
theorem r_of : ∀ cs pre r, gOfR cs = some (pre, r) → allP pre → ∀ (args : List Value) (w : World), CAs w cs args → Good Tryd.prog 9 r args w := by
  intro cs pre r hg hp args w ha
  unfold gOfR at hg
  split at hg
  · rename_i n
    cases hg
    match args, ha with
    | [t], ha =>
      have h1 : t = .int .u64 (Int.ofNat n) := ha.1
      subst h1
      refine (of_calls n hp.1 w).mono ?_
      rintro e w' ⟨rfl, hb⟩
      refine ⟨?_, hb⟩
      obtain ⟨e0, e1, e2, e3⟩ := fw_of (s0 := n) (s1 := 0) (s2 := 0) (s3 := 0) (x := n) ⟨hp.1, by omega, by omega, by omega⟩ (by have := hp.1; omega) (by unfold val4; omega)
      show Ending.returned _ = Ending.returned (.agg #[.int .u64 (fw n 0 : Nat), .int .u64 (fw n 1 : Nat), .int .u64 (fw n 2 : Nat), .int .u64 (fw n 3 : Nat)])
      rw [← e0, ← e1, ← e2, ← e3]
      rfl
    | [], ha => exact ha.elim
    | _ :: _ :: _, ha => exact ha.2.elim
  · cases hg
/-- a list's elements -/
def el (f : Nat → Nat) (j : Nat) : List At := [.q (f j)]
/-- a slice of elements: so many, each any number of four words -/
def LV (w : World) (v : Value) (N : Nat) (f : Nat → Nat) : Prop := ∃ p m, v = .slice p N m ∧ N ≤ m ∧ (∀ j, j < N → f j < W256) ∧ (0 < N → ∃ b o, p = some ⟨b, o, none⟩ ∧ b < w.heap.size ∧ w.rangeAt b o (flat (cat (el f) 0 N)))
theorem LV.on {w w' : World} {v : Value} {N : Nat} {f : Nat → Nat} (h : LV w v N f) (hb : Below w.heap.size w w') : LV w' v N f := by
  obtain ⟨p, m, h1, h2, h3, h4⟩ := h
  exact ⟨p, m, h1, h2, h3, fun h => by
    obtain ⟨b, o, e, h5, h6⟩ := h4 h
    exact ⟨b, o, e, Nat.lt_of_lt_of_le h5 hb.size, below_range hb h5 h6⟩⟩
theorem LV.nil (w : World) (f : Nat → Nat) : LV w (.slice none 0 0) 0 f := ⟨none, 0, rfl, Nat.le_refl _, fun j h => by omega, fun h => by omega⟩
/-- what is told of old memory, by slots -/
def xO (w : World) (idx : Nat → Option Nat) (ld : Nat → Option (List At)) (gen : Nat → Option Value) : Ext := { Ext.none with idx := idx, ld := ld, gen := gen, old := oldOf w, T2 := Fr0, T3 := Fs0, T4 := Wr0, T5 := Pt0, T6 := Pb0 }
theorem xO_ok (w : World) (idx : Nat → Option Nat) (ld : Nat → Option (List At)) (gen : Nat → Option Value) : EqOkW Tryd.prog { qG Tryd.prog with x := xO w idx ld gen } w.heap.size w :=
  ⟨(qG_ok _).1, extW_ok (fun b o l h => h) (fun w' _ => FrAt.none _ _) (fun w' _ => FsAt.none _ _)⟩
end Go.Proofs.YtalcpnkkbimojaaDoor.Ex
namespace Go.Proofs.YtalcpnkkbimojaaDoor.Ex
set_option linter.unusedVariables false
set_option linter.unusedSimpArgs false
open Go.RowKit

def noDef (ops : Array Oper) : Bool := ops.toList.all fun o => match o.op with | .defer _ => false | _ => true
theorem noDef_at {ops : Array Oper} (h : noDef ops = true) {i : Nat} {o : Oper} (ho : ops[i]? = some o) : ∀ c, o.op ≠ .defer c := by
  intro c hc
  have hm : o ∈ ops.toList := by
    have : ops.toList[i]? = some o := by rw [Array.getElem?_toList]; exact ho
    exact List.mem_of_getElem? this
  have := List.all_eq_true.1 h o hm
  rw [hc] at this
  cases this
/-- the wide fence, in round r -/
abbrev rF (r : Option Nat) : Fence := { Fence.wide with round := r }
theorem semAt_any (r : Option Nat) (ρ : Operand → Value) (o : Oper) (h : ∀ c, o.op ≠ .defer c) : Oper.semAt r ρ o = execOp ρ o := by
  cases r with
  | none => rfl
  | some l => exact Oper.semAt_some l ρ o h
section
variable {r : Option Nat} {n : Nat} {P : Program}
theorem operIn {o : Oper} {a : Act} {w : World} {K K' : Act → World → Prop} {Q Q' : Exit → Act → World → Prop} (hd : ∀ c, o.op ≠ .defer c)
    (hK : ∀ a w, K a w → K' a w) (hl : ¬ LetsOut Q) (hQ : ∀ e a w, e ≠ .normal → Q e a w → Q' e a w) (h : o.wp P a w K Q) : o.wpIn (rF r) n P a w K' Q' := by
  refine ⟨fun _ _ => trivial, ?_⟩
  show o.uponIn (rF r) n P a K' Q' ((o.semAt r a.eval).run P w)
  rw [semAt_any r _ o hd]
  unfold Oper.wp at h
  generalize (execOp a.eval o).run P w = res at h
  cases res with
  | ok nx w' =>
    cases nx with
    | value v => exact hK _ _ h
    | skip => exact hK _ _ h
    | defer d => exact hK _ _ h
    | enter f args =>
      refine ⟨fun e => absurd e (by simp [Fence.wide]), ?_⟩
      show CallsIn Fence.wide (n - 1) P f args w' _
      refine callsIn_wide.2 (Calls.mono h fun e w'' he => ?_)
      cases e with
      | returned v => exact hK _ _ he
      | panicked c => exact hQ _ _ _ (by simp) he
      | outgrown => exact (hl he).elim
    | row row args =>
      refine ⟨fun e => absurd e (by simp [Fence.wide]), fun c cs _ => ?_⟩
      obtain ⟨v, w'', r1, s⟩ := h c cs
      exact ⟨v, w'', hK _ _ r1, stepsIn_wide.2 s⟩
    | _ => exact h.elim
  | halt x w' =>
    cases x with
    | panic v => exact hQ _ _ _ (by simp) h
    | _ => exact h.elim
theorem opsIn {ops : Array Oper} {Q Q' : Exit → Act → World → Prop} {R : List Nat} (hnd : noDef ops = true) (hl : ¬ LetsOut Q) (hn : ∀ a w, Q .normal a w → wpOpsIn (rF r) n P ops Q' R a w) (hQ : ∀ e a w, e ≠ .normal → Q e a w → Q' e a w) :
    ∀ (l : List Nat) (a : Act) (w : World), wpOps P ops Q l a w → wpOpsIn (rF r) n P ops Q' (l ++ R) a w
  | [], a, w, h => hn a w h
  | i :: l, a, w, h => by
    simp only [wpOps] at h
    show wpOpsIn (rF r) n P ops Q' (i :: (l ++ R)) a w
    simp only [wpOpsIn]
    cases ho : ops[i]? with
    | none =>
      rw [ho] at h
      exact opsIn hnd hl hn hQ l a w h
    | some o =>
      rw [ho] at h
      simp only at h ⊢
      by_cases hw : Region.wanted o (yielded ops a.tmps) = true
      · rw [if_pos hw] at h ⊢
        rcases h with h | ⟨_, h⟩
        · exact operIn (noDef_at hnd ho) (fun a w => opsIn hnd hl hn hQ l a w) hl hQ h
        · exact (hl h).elim
      · rw [if_neg hw] at h ⊢
        exact ⟨fun _ _ => trivial, opsIn hnd hl hn hQ l _ w h⟩
/-- what the reckoner leaves, as a postcondition that nothing passes by -/
def onlyN (K : Act → World → Prop) : Exit → Act → World → Prop := fun e a w => e = .normal ∧ K a w
theorem onlyN_out {K : Act → World → Prop} : ¬ LetsOut (onlyN K) := by
  rintro ⟨a, w, h, _⟩
  cases h
variable {nt base : Nat} {w0 : World}
/-- a region's operations in any order that the machine takes -/
theorem reg_ops {E : Env} {draw : Bool} {ops : Array Oper} {A A' : List Fact} {ps : List Prop} {a : Act} {w : World} {Q : Exit → Act → World → Prop} (hm : E.P.follows .mixedOrders = true) (hT : ∀ d, TabOkW E.P (E.T d) base w0) (hq : EqOkW E.P E.q base w0) (h : regA E draw ops A = some (ps, A')) (hps : allP ps) (hA : Holds E.nt base w0 A a w)
    (hQ : ∀ a w, Holds E.nt base w0 A' a w → Q .normal a w) : (draw = false → wpOps E.P ops Q (List.range ops.size) a w) ∧ (draw = true → ∀ t, wpOps E.P ops Q (Region.schedule (E.P.follows .mixedOrders) ops t) a { w with drawn := w.drawn + 1 }) := by
  unfold regA at h
  split at h
  · rename_i ps' TF rs hrun
    cases hc : (chk draw ops rs && low draw ops) <;> rw [hc] at h
    · cases h
    · cases h
      rw [Bool.and_eq_true] at hc
      cases draw with
      | false =>
        refine ⟨fun _ => ?_, fun e => by cases e⟩
        rw [List.range_eq_range']
        exact seq_inv hT hq hrun hps hc.1 (fun a w hI => hQ a w (end_inv hrun (fun _ h => h) hI)) ops.size 0 a w (by omega) (by
          have : (fun i => i < 0) = fun _ : Nat => False := funext fun i => propext ⟨fun h => by omega, fun h => h.elim⟩
          rw [this]
          exact start_inv hrun hA)
      | true =>
        refine ⟨fun e => absurd e (by simp [Fence.wide]), fun _ t => ?_⟩
        simp only [Region.schedule, hm, Bool.true_or, if_true]
        refine wpAny_sound ops.size t _ a _ ?_
        have hsz : ∀ n, fr n (Array.replicate ops.size false) = n := fun n => by
          induction n with
          | zero => rfl
          | succ n ih => unfold fr; rw [ih]; by_cases hn : n < ops.size <;> simp [Array.getD, hn]
        refine any_inv hT hq hrun hps hc.1 hc.2 (fun a w hI => hQ a w (end_inv hrun (fun _ h => h) hI)) ops.size _ a _ (by simp) (hsz _) ?_
        have : (fun i => (Array.replicate ops.size false).getD i false = true) = fun _ : Nat => False := funext fun i => propext (by by_cases hi : i < ops.size <;> simp [Array.getD, hi])
        rw [this]
        exact start_inv hrun hA.drew
  · cases h
/-- a region in a round -/
theorem reg_in {id : Nat} {q : EqT} {c : Cfg} {draw : Bool} {ops : Array Oper} {A K L : List Fact} {ps : List Prop} {Q : Exit → Act → World → Prop} (hm : P.follows .mixedOrders = true) (hT : ∀ d, TabOkW P (c.T d) base w0) (hq : EqOkW P q base w0)
    (h : runK P q nt (fun _ => c) 1 (.region id ops draw) A K = some (ps, .nrm, L)) (hps : allP ps) (hnd : noDef ops = true) {a : Act} {w : World} (hA : Holds nt base w0 A a w)
    (hQ : ∀ a w, Holds nt base w0 L a w → Q .normal a w) : (Code.region id ops draw).wpIn (rF r) n P Q a w := by
  unfold runK at h
  simp only [run] at h
  split at h
  · rename_i ps' e' A1 h1
    split at h1
    · rename_i p A2 h2
      cases h1
      split at h
      · rename_i L' h3
        cases h
        have key := reg_ops (E := mkE P q nt c) (Q := onlyN fun a w => Holds nt base w0 L a w) hm hT hq h2 hps hA fun a w hA1 => ⟨rfl, hA1.sub (pick_mem h3)⟩
        have fin : ∀ l a w, wpOps P ops (onlyN fun a w => Holds nt base w0 L a w) l a w → wpOpsIn (rF r) n P ops Q l a w := fun l a w hw => by
          have := opsIn (r := r) (n := n) (Q' := Q) (R := []) hnd onlyN_out (fun a w hK => hQ a w hK.2) (fun e a w he hK => (he hK.1).elim) l a w hw
          rwa [List.append_nil] at this
        cases draw with
        | false => exact wpIn_region (fin _ _ _ (key.1 rfl))
        | true => exact wpIn_region_draw fun t => fin _ _ _ (key.2 rfl t)
      · cases h
    · cases h1
  · cases h
/-- operations one after another, within the fence -/
theorem part_in {s e : Nat} {q : EqT} {c : Cfg} {big : Array Oper} {A K L : List Fact} {ps : List Prop} {Q : Exit → Act → World → Prop} {R : List Nat} (hT : ∀ d, TabOkW P (c.T d) base w0) (hq : EqOkW P q base w0) (h : regK P q nt c (big.extract s e) A K = some (ps, L)) (hps : allP ps)
    (hg : (big.extract s e).toList.all (fun o => o.guard.isNone) = true) (hnd : noDef big = true) {a : Act} {w : World} (hA : Holds nt base w0 A a w)
    (hQ : ∀ a w, Holds nt base w0 L a w → wpOpsIn (rF r) n P big Q R a w) : wpOpsIn (rF r) n P big Q (List.range' s (big.extract s e).size ++ R) a w := by
  have h1 := partE_sound (Q := onlyN fun a w => Holds nt base w0 L a w) (R := []) hT hq h hps hg hA fun a w hA => ⟨rfl, hA⟩
  rw [List.append_nil] at h1
  exact opsIn hnd onlyN_out (fun a w hK => hQ a w hK.2) (fun e a w he hK => (he hK.1).elim) _ _ _ h1
/-- one operation, within the fence -/
theorem one_in {big : Array Oper} {Q : Exit → Act → World → Prop} {R : List Nat} {i : Nat} {o : Oper} (ho : big[i]? = some o) (hg : o.guard = none) {a : Act} {w : World} (h : o.wpIn (rF r) n P a w (fun a w => wpOpsIn (rF r) n P big Q R a w) Q) : wpOpsIn (rF r) n P big Q (i :: R) a w := by
  simp only [wpOpsIn]
  rw [ho]
  simp only
  have hw : ∀ y, Region.wanted o y = true := fun y => by unfold Region.wanted; rw [hg]
  rw [if_pos (hw _)]
  exact h
/-- the same activation with marks -/
def _root_.Go.Act.md (a : Act) (d : List Deferred) : Act := { a with defers := d }
def tailOp (o : Oper) : Bool := match o.op with
  | .move _ => true
  | .assign _ => true
  | .load _ _ => true
  | .extract _ _ => true
  | _ => false
theorem val_run {s : Sem Value} {w w' : World} {nx : Next} (h : (do pure (.value (← s)) : Sem Next).run P w = .ok nx w') : ∃ v, nx = .value v := by
  rw [Sem.run_bind] at h
  cases hs : s.run P w with
  | ok v w1 =>
    rw [hs] at h
    simp only [Result.andThen_ok, Sem.run_pure] at h
    injection h with h1 h2
    exact ⟨v, h1.symm⟩
  | halt x w1 =>
    rw [hs] at h
    cases h
theorem tail_val {ρ : Operand → Value} {o : Oper} {w w' : World} {nx : Next} (ht : tailOp o = true) (h : (execOp ρ o).run P w = .ok nx w') : ∃ v, nx = .value v := by
  unfold execOp at h
  cases ho : o.op <;> simp only [tailOp, ho] at ht <;> first
    | (cases ht; done)
    | (simp only [ho] at h; exact val_run h)
    | (simp only [ho, Sem.run_pure] at h; injection h with h1 h2; exact ⟨_, h1.symm⟩)
def noTail (ops : Array Oper) : Bool := ops.toList.all tailOp
theorem noTail_at {ops : Array Oper} (h : noTail ops = true) {i : Nat} {o : Oper} (ho : ops[i]? = some o) : tailOp o = true := by
  have hm : o ∈ ops.toList := by
    have : ops.toList[i]? = some o := by rw [Array.getElem?_toList]; exact ho
    exact List.mem_of_getElem? this
  exact List.all_eq_true.1 h o hm
theorem ops_md {d : List Deferred} {ops : Array Oper} {K : Act → World → Prop} {Q : Exit → Act → World → Prop} (ht : noTail ops = true) (hn : ∀ a w, K a w → Q .normal (a.md d) w) :
    ∀ (l : List Nat) (a : Act) (w : World), wpOps P ops (onlyN K) l a w → wpOps P ops Q l (a.md d) w
  | [], a, w, h => hn a w h.2
  | i :: l, a, w, h => by
    simp only [wpOps] at h ⊢
    have hp : ∀ (o : Oper) v, (a.md d).put o.dst v = (a.put o.dst v).md d := fun o v => by cases o.dst <;> rfl
    cases ho : ops[i]? with
    | none =>
      rw [ho] at h
      exact ops_md ht hn l a w h
    | some o =>
      rw [ho] at h
      simp only at h ⊢
      have hy : (a.md d).tmps = a.tmps := rfl
      rw [hy]
      by_cases hw : Region.wanted o (yielded ops a.tmps) = true
      · rw [if_pos hw] at h ⊢
        rcases h with h | ⟨_, h⟩
        · refine Or.inl ?_
          unfold Oper.wp at h ⊢
          have he : (a.md d).eval = a.eval := rfl
          rw [he]
          cases hres : (execOp a.eval o).run P w with
          | ok nx w' =>
            obtain ⟨v, rfl⟩ := tail_val (noTail_at ht ho) hres
            rw [hres] at h
            show wpOps P ops Q l ((a.md d).put o.dst v) w'
            rw [hp]
            exact ops_md ht hn l _ _ h
          | halt x w' =>
            rw [hres] at h
            cases x with
            | panic v => cases h.1
            | _ => exact h.elim
        · exact (onlyN_out h).elim
      · rw [if_neg hw] at h ⊢
        rw [hp]
        exact ops_md ht hn l _ _ h
/-- a region behind a range over a function: the activation bears marks -/
theorem reg_md {id : Nat} {d : List Deferred} {q : EqT} {c : Cfg} {ops : Array Oper} {A K L : List Fact} {ps : List Prop} {Q : Exit → Act → World → Prop} (hm : P.follows .mixedOrders = true) (hT : ∀ d, TabOkW P (c.T d) base w0) (hq : EqOkW P q base w0)
    (h : runK P q nt (fun _ => c) 1 (.region id ops false) A K = some (ps, .nrm, L)) (hps : allP ps) (ht : noTail ops = true) {a : Act} {w : World} (hA : Holds nt base w0 A a w)
    (hQ : ∀ a w, Holds nt base w0 L a w → Q .normal (a.md d) w) : (Code.region id ops false).wp P Q (a.md d) w := by
  unfold runK at h
  simp only [run] at h
  split at h
  · rename_i ps' e' A1 h1
    split at h1
    · rename_i p A2 h2
      cases h1
      split at h
      · rename_i L' h3
        cases h
        have key := reg_ops (E := mkE P q nt c) (Q := onlyN fun a w => Holds nt base w0 L a w) hm hT hq h2 hps hA fun a w hA1 => ⟨rfl, hA1.sub (pick_mem h3)⟩
        exact wp_region (ops_md ht hQ _ _ _ (key.1 rfl))
      · cases h
    · cases h1
  · cases h
/-- a range over a function at an outermost loop, of a function that is known -/
theorem wp_rangeF {g : Operand} {ps : Array Tmp} {assign body : Code} {Q : Exit → Act → World → Prop} {a : Act} {w : World} {gf : Nat} {lb : Array Value} (hg : a.eval g = .func (.func gf) #[] lb) (eg : ∀ args w, (callFunc gf args).run P w = .ok (.enter gf args) w)
    (h : ∀ fn, Calls P gf (#[.func (.yield (w.heap.size + 1)) #[] #[]] ++ lb) ((w.alloc (.deferred (some []))).alloc (.loop { state := .ready, pending := none, fn, tmps := a.tmps, params := ps, assign, body, defers := w.heap.size })) fun e W' => ∃ v rec, e = .returned v ∧ W'.heap[w.heap.size + 1]? = some (.loop rec) ∧ rec.state ≠ .busy ∧ rec.pending = none ∧ Q .normal (a.md ({ target := .collected w.heap.size, args := #[] } :: a.defers)) (W'.putObj (w.heap.size + 1) (.loop { rec with state := .exhausted }))) :
    (Code.rangeFunc g ps assign body).wp P Q a w := by
  refine (wpIn_wide (n := 0)).1 (wpIn_rangeFunc fun fn _ => ?_)
  have h0 := h fn
  have he := run_enterLoop_outer (P := P) (w := w) fn a.tmps ps assign body
  generalize hW1 : (w.alloc (.deferred (some []))).alloc (.loop { state := .ready, pending := none, fn, tmps := a.tmps, params := ps, assign, body, defers := w.heap.size }) = W1 at h0 he
  refine ⟨w.heap.size + 1, [{ target := .collected w.heap.size, args := #[] }], W1, { target := .fn (.func gf) lb, args := #[.func (.yield (w.heap.size + 1)) #[] #[]] }, W1, gf, #[.func (.yield (w.heap.size + 1)) #[] #[]] ++ lb, W1, he, ?_, fun _ _ => trivial, ?_, fun e => absurd e (by simp [Fence.wide]), ?_⟩
  · simp only [resolve, hg]
    simp [go_sem]
  · simp [invoke, go_sem, eg]
  · refine callsIn_wide.2 (Calls.mono h0 ?_)
    rintro e W' ⟨v, rec, rfl, h1, h2, h3, h4⟩
    refine ⟨none, _, ?_, h4⟩
    rw [run_endLoop (P := P) h1 h2]
    exact congrArg (fun p => Result.ok p _) h3
end
end Go.Proofs.YtalcpnkkbimojaaDoor.Ex
namespace Go.Proofs.YtalcpnkkbimojaaDoor.Ex
set_option linter.unusedVariables false
set_option linter.unusedSimpArgs false
open Go.RowKit

def noRow (k : Nat) : Fact → Bool
  | .row k' _ _ => !(Nat.beq k' k)
  | _ => true
theorem noRow_ne {k : Nat} {o : Bool} {l : List At} (h : noRow k (.row k o l) = true) : False := by
  have h : (!(Nat.beq k k)) = true := h
  rw [Nat.beq_refl] at h
  cases h
/-- an own row is written over -/
theorem Holds.wr {nt base : Nat} {w0 : World} {A : List Fact} {a : Act} {w : World} (h : Holds nt base w0 A a w) {k b o : Nat} {l l' : List At} {vs : List Value} (h1 : Fact.row k true l ∈ A) (h2 : Fact.at k b ∈ A) (hlen : o + vs.length ≤ fsz l)
    (hl : ∀ j v, (flat l')[j]? = some v → (o ≤ j ∧ vs[j - o]? = some v) ∨ ((j < o ∨ o + vs.length ≤ j) ∧ (flat l)[j]? = some v)) :
    Holds nt base w0 (.row k true l' :: A.filter (noRow k)) a (w.setCells b o vs) := by
  obtain ⟨β, g1, g2, g3, gt⟩ := h.facts
  obtain ⟨e1, e2, e3, _⟩ := g1 _ h1
  obtain ⟨e4, e5, e6⟩ := e3 rfl
  have e7 := g1 _ h2
  simp only [Fact.ok] at e7
  obtain ⟨rfl, _⟩ := e7
  rw [e5] at e2
  have old : ∀ φ, φ ∈ A.filter (noRow k) → φ ∈ A ∧ noRow k φ = true := fun φ hφ => List.mem_filter.1 hφ
  have hth : ∀ q, q < vs.length → (w.cell? ⟨(β k).1, o + q, none⟩).isSome = true := fun q hq => by
    have hlt : o + q < (flat l).length := by rw [flat_len]; omega
    have := e2 (o + q) ((flat l)[o + q]'hlt) (List.getElem?_eq_getElem _)
    rw [Nat.zero_add] at this
    rw [this]; rfl
  have up : ∀ k1 o1 l1, Fact.row k1 o1 l1 ∈ (Fact.row k true l' :: A.filter (noRow k)) → ∃ l2, Fact.row k1 o1 l2 ∈ A := fun k1 o1 l1 e => by
    rcases List.mem_cons.1 e with e | e
    · cases e; exact ⟨_, h1⟩
    · exact ⟨_, (old _ e).1⟩
  refine ⟨h.defers, h.size, setCells_below e4 _ _ _ _ h.below, by rw [setCells_size]; exact h.heap, β, fun φ hφ => ?_, fun k1 k2 o2 l1 l2 q1 q2 hne => ?_, fun k1 l1 e => ?_, ?_⟩
  · rcases List.mem_cons.1 hφ with rfl | hφ
    · refine ⟨by rw [setCells_size]; exact e1, fun j v hj => ?_, fun _ => ⟨e4, e5, fun j => by rw [World.frozen?_setCells]; exact e6 j⟩, fun h => by cases h⟩
      rw [e5, Nat.zero_add]
      rcases hl j v hj with ⟨q1, q2⟩ | ⟨q1, q2⟩
      · have hlt : j - o < vs.length := (List.getElem?_eq_some_iff.1 q2).1
        have := World.cell?_setCells_in (β k).1 vs o w hth (j - o) hlt
        rw [show o + (j - o) = j by omega] at this
        rw [this, ← q2, List.getElem?_eq_getElem hlt]
      · rw [World.cell?_setCells_out _ _ _ _ _ (fun _ _ => q1)]
        have := e2 j v q2
        rwa [Nat.zero_add] at this
    · obtain ⟨hin, hno⟩ := old _ hφ
      have e := g1 φ hin
      cases φ with
      | slot s v => exact e
      | row k1 ow l1 =>
        obtain ⟨q1, q2, q3, q4⟩ := e
        have hk : k ≠ k1 := fun hk => by subst hk; exact noRow_ne hno
        have hb := g2 k k1 ow l l1 h1 hin hk
        refine ⟨by rw [setCells_size]; exact q1, fun j v hj => ?_, fun ho => ?_, fun _ => trivial⟩
        · rw [World.cell?_setCells_out _ _ _ _ _ (fun q _ => absurd q.symm hb)]
          exact q2 j v hj
        · obtain ⟨r1, r2, r3⟩ := q3 ho
          exact ⟨r1, r2, fun j => by rw [World.frozen?_setCells]; exact r3 j⟩
      | «at» k1 b1 => exact e
      | app k1 e' sz n => exact AppAt.shape (setCells_shape _ _ _ _) e
  · obtain ⟨m1, r1⟩ := up _ _ _ q1
    obtain ⟨m2, r2⟩ := up _ _ _ q2
    exact g2 k1 k2 o2 m1 m2 r1 r2 hne
  · obtain ⟨m1, r1⟩ := up _ _ _ e
    exact g3 k1 m1 r1
  · refine ⟨by rw [setCells_size]; exact gt.size, fun p p1 p2 => ?_, gt.shape.trans (setCells_shape _ _ _ _)⟩
    have hne : p.block ≠ (β k).1 := by
      rcases g3 k l h1 with q | q <;> omega
    rw [World.cell?_setCells_out _ _ _ _ _ (fun q _ => absurd q hne), World.frozen?_setCells]
    exact gt.mem p p1 p2
section
variable {P : Program} {n : Nat}
/-- a call of yield -/
theorem yield_in {o : Oper} {a : Act} {w : World} {K : Act → World → Prop} {Q : Exit → Act → World → Prop} {x : Operand} {xs : Array Operand} {ts : Array TypeId} {l : Nat} {vs : Array Value} {rec : Loop} (ho : o.op = .call ⟨.value x, xs, ts⟩) (hx : a.eval x = .func (.yield l) #[] #[]) (hv : xs.map a.eval = vs)
    (hl : w.heap[l]? = some (.loop rec)) (hs : vs.size = rec.params.size)
    (hR : RoundIn Fence.wide (n - 1) P l rec.fn ((rec.params.zip vs).foldl (fun t (p, v) => t.setIfInBounds p v) rec.tmps) rec.assign rec.body w fun e W' => ∃ v, e = .returned v ∧ K (a.put o.dst v) W') : o.wpIn (rF none) n P a w K Q := by
  refine ⟨fun _ _ => trivial, ?_⟩
  show o.uponIn (rF none) n P a K Q ((o.semAt none a.eval).run P w)
  rw [semAt_any none _ o (fun c h => by rw [ho] at h; cases h)]
  have hy := run_yield (P := P) (args := vs) hl hs
  have hrun : (execOp a.eval o).run P w = .ok (.round l rec.fn ((rec.params.zip vs).foldl (fun t (p, v) => t.setIfInBounds p v) rec.tmps) rec.assign rec.body) w := by
    simp [execOp, ho, resolve, Deferred.ofValue, hx, hv, invoke, hy]
  rw [hrun]
  refine ⟨fun e => absurd e (by simp [Fence.wide]), hR.mono ?_⟩
  rintro e W' ⟨v, rfl, hK⟩
  exact hK
/-- a round that goes on -/
theorem round_of {l : Nat} {fn : FuncId} {tmps : Array Value} {assign body : Code} {w : World} {R : Ending → World → Prop} {K0 : Act → World → Prop} (ha : assign.wpIn (rF (some l)) n P (onlyN K0) { tmps := tmps, defers := [] } w)
    (h : ∀ a1 w1, K0 a1 w1 → ∃ rec, w1.heap[l]? = some (.loop rec) ∧ rec.state = .ready ∧ body.wpIn (rF (some l)) n P (onlyN fun _ W3 => ∃ rec3, W3.heap[l]? = some (.loop rec3) ∧ R (.returned (.bool true)) (W3.putObj l (.loop { rec3 with state := .ready, pending := none }))) a1 (w1.putObj l (.loop { rec with state := .busy }))) :
    RoundIn Fence.wide n P l fn tmps assign body w R := by
  refine roundIn_of_wpIn (F := Fence.wide) trivial (wpIn_mono ha ?_)
  rintro e a1 w1 ⟨rfl, hK⟩
  obtain ⟨rec, h1, h2, h3⟩ := h a1 w1 hK
  refine ⟨_, run_beginRound h1 h2, wpIn_mono h3 ?_⟩
  rintro e a3 W3 ⟨rfl, rec3, h4, h5⟩
  exact ⟨_, _, run_endRound none h4, h5⟩
end
/-- what a record's turn leaves -/
theorem put_cell {w : World} {l : Nat} {r : Loop} {o : Obj} (h : w.heap[l]? = some (.loop r)) {p : Addr} (hp : p.block ≠ l) : (w.putObj l o).cell? p = w.cell? p ∧ (w.putObj l o).frozen? p = w.frozen? p :=
  ⟨World.cell?_of_block (World.putObj_heap_other hp), World.frozen?_of_block (World.putObj_heap_other hp)⟩
theorem put_range {w : World} {l : Nat} {r : Loop} {o : Obj} (h : w.heap[l]? = some (.loop r)) {b s : Nat} {vs : List Value} (hb : b ≠ l) (hr : w.rangeAt b s vs) : (w.putObj l o).rangeAt b s vs := fun j v hj => by
  rw [(put_cell h (p := ⟨b, s + j, none⟩) hb).1]; exact hr j v hj
theorem put_below {B l : Nat} {w0 w : World} (h : Below B w0 w) (hB : B ≤ l) (o : Obj) : Below B w0 (w.putObj l o) :=
  ⟨h.os, h.tape, h.output, by rw [World.putObj_size]; exact h.size, fun k hk => (World.putObj_heap_other (by omega)).trans (h.block k hk)⟩
end Go.Proofs.YtalcpnkkbimojaaDoor.Ex
namespace Go.Proofs.YtalcpnkkbimojaaDoor
set_option linter.unusedVariables false
open Go.RowKit

theorem ex_or' {lo up k : Nat} (hl : lo < 18446744073709551616) (hu : up < 18446744073709551616) (h1 : Hid (lo < 2 ^ k)) (h2 : Hid (∃ t, up = 2 ^ k * t)) : ∃ s : Nat, bits .or .u64 (lo : Int) (up : Int) = (s : Int) ∧ s < 18446744073709551616 ∧ Hid (s = lo + up) := by
  obtain ⟨t, ht⟩ := h2.out
  have e : lo ||| up = lo + up := by rw [Nat.or_comm, ht, ← Nat.two_pow_add_eq_or_of_lt h1.out, Nat.add_comm]
  refine ⟨lo + up, by rw [bits_or_u64_nat _ _ hl hu, e], ?_, Lib.hid rfl⟩
  rw [← e]; exact Nat.or_lt_two_pow (n := 64) hl hu

/-- the length of a number: L bits and no fewer -/
def LenIs (n L : Nat) : Prop := n < 2 ^ L ∧ (0 < L → 2 ^ (L - 1) ≤ n)
theorem LenIs.zero : LenIs 0 0 := ⟨by simp, fun h => absurd h (by omega)⟩
theorem LenIs.up {n x L k : Nat} (hn : n < 2 ^ k) (hx : 0 < x) (h : LenIs x L) : LenIs (n + x * 2 ^ k) (k + L) := by
  have hL : 0 < L := by
    rcases Nat.eq_zero_or_pos L with e | e
    · subst e; have := h.1; simp at this; omega
    · exact e
  constructor
  · have := Nat.mul_le_mul_right (2 ^ k) (show x + 1 ≤ 2 ^ L from h.1)
    rw [Nat.add_mul, Nat.one_mul] at this
    rw [Nat.pow_add, Nat.mul_comm (2 ^ k)]; omega
  · intro _
    have := Nat.mul_le_mul_right (2 ^ k) (h.2 hL)
    rw [show k + L - 1 = k + (L - 1) by omega, Nat.pow_add, Nat.mul_comm (2 ^ k)]; omega
end Go.Proofs.YtalcpnkkbimojaaDoor
namespace Go.Proofs.YtalcpnkkbimojaaDoor
set_option linter.unusedVariables false
open Go.RowKit

theorem tot_shift (R : Nat) (P : Nat → Nat) (n : Nat) : tot R P (n + 1) = P 0 + R * tot R (fun k => P (1 + k)) n := by
  have := tot_split R P 1 n
  rw [Nat.add_comm n 1, this]
  simp [tot]
end Go.Proofs.YtalcpnkkbimojaaDoor
namespace Go.Proofs.YtalcpnkkbimojaaDoor
set_option linter.unusedVariables false
set_option linter.unusedSimpArgs false
open Go.RowKit

theorem fn4_lt {a0 a1 a2 a3 : Nat} (ha : ok4 a0 a1 a2 a3) (k : Nat) : fnOf [a0, a1, a2, a3] k < 18446744073709551616 := by
  obtain ⟨h0, h1, h2, h3⟩ := ha
  unfold fnOf
  match k with
  | 0 => exact h0
  | 1 => exact h1
  | 2 => exact h2
  | 3 => exact h3
  | k + 4 => simp
theorem val4_fn (a0 a1 a2 a3 : Nat) : val4 a0 a1 a2 a3 = tot 18446744073709551616 (fnOf [a0, a1, a2, a3]) 4 := by rw [← val4_tot]; rfl
end Go.Proofs.YtalcpnkkbimojaaDoor
namespace Go.Proofs.YtalcpnkkbimojaaDoor
set_option linter.unusedVariables false
open Go.RowKit

/-- the number of n bytes from s on, the highest first -/
def hor (B : Nat → Nat) (s : Nat) : Nat → Nat
  | 0 => 0
  | n + 1 => hor B s n * 256 + B (s + n)
theorem hor_lt {B : Nat → Nat} (hB : ∀ k, B k < 256) (s : Nat) : ∀ n, hor B s n < 256 ^ n
  | 0 => by simp [hor]
  | n + 1 => by
    have h1 := hor_lt hB s n
    have h2 := hB (s + n)
    show hor B s n * 256 + B (s + n) < 256 ^ n * 256
    omega
theorem hor_split (B : Nat → Nat) (s n : Nat) : ∀ m, hor B s (n + m) = hor B s n * 256 ^ m + hor B (s + n) m
  | 0 => by simp [hor]
  | m + 1 => by
    show hor B s (n + m) * 256 + B (s + (n + m)) = hor B s n * (256 ^ m * 256) + (hor B (s + n) m * 256 + B (s + n + m))
    rw [hor_split B s n m, Nat.add_mul, Nat.mul_assoc, Nat.add_assoc s n m, Nat.add_assoc]
/-- the bytes taken from the lowest on -/
theorem tot_hor (B : Nat → Nat) (s : Nat) : ∀ n, tot 256 (fun k => B (s + n - 1 - k)) n = hor B s n
  | 0 => rfl
  | n + 1 => by
    rw [tot_shift]
    show B (s + (n + 1) - 1 - 0) + 256 * tot 256 (fun k => B (s + (n + 1) - 1 - (1 + k))) n = hor B s n * 256 + B (s + n)
    have e : (fun k => B (s + (n + 1) - 1 - (1 + k))) = fun k => B (s + n - 1 - k) := by
      funext k; congr 1; omega
    rw [e, tot_hor B s n, Nat.mul_comm, show s + (n + 1) - 1 - 0 = s + n by omega]
    omega
/-- byte number p of a number, the highest first -/
def byteAt (A p : Nat) : Nat := A / 256 ^ (31 - p) % 256
theorem byteAt_lt (A p : Nat) : byteAt A p < 256 := Nat.mod_lt _ (by omega)
theorem hor_bytes (A : Nat) (h : A < 256 ^ 32) : ∀ n, n ≤ 32 → hor (byteAt A) 0 n = A / 256 ^ (32 - n)
  | 0, _ => by
    show 0 = _
    rw [Nat.div_eq_of_lt (by simpa using h)]
  | n + 1, hn => by
    show hor (byteAt A) 0 n * 256 + byteAt A (0 + n) = _
    rw [hor_bytes A h n (by omega), Nat.zero_add]
    unfold byteAt
    rw [show 32 - n = (32 - (n + 1)) + 1 by omega, show 31 - n = 32 - (n + 1) by omega, Nat.pow_succ, ← Nat.div_div_eq_div_mul]
    generalize A / 256 ^ (32 - (n + 1)) = X
    omega
theorem hor_back {A : Nat} (h : A < 115792089237316195423570985008687907853269984665640564039457584007913129639936) : hor (byteAt A) 0 32 = A := by
  have := hor_bytes A (by simpa using h) 32 (by omega)
  simpa using this
/-- a byte of a word is a byte of the number -/
theorem word_byte (P : Nat → Nat) (hP : ∀ k, P k < 18446744073709551616) (n j m : Nat) (hj : j < n) (hm : m < 8) : P j / 2 ^ (8 * m) % 256 = tot 18446744073709551616 P n / 256 ^ (8 * j + m) % 256 := by
  obtain ⟨q, rfl⟩ : ∃ q, n = j + (q + 1) := ⟨n - j - 1, by omega⟩
  have h1 := tot_split 18446744073709551616 P j (q + 1)
  have h2 := tot_shift 18446744073709551616 (fun k => P (j + k)) q
  have h3 := tot_lt 18446744073709551616 P (by omega) j (fun k _ => hP k)
  have e1 : 256 ^ (8 * j + m) = 18446744073709551616 ^ j * 2 ^ (8 * m) := by
    rw [Nat.pow_add, Nat.pow_mul, Nat.pow_mul]
  rw [h1, h2, e1, ← Nat.div_div_eq_div_mul, Nat.add_mul_div_left _ _ (by exact Nat.pow_pos (by omega)), Nat.div_eq_of_lt h3, Nat.zero_add]
  have e : 18446744073709551616 = 2 ^ (8 * m) * (256 * 2 ^ (56 - 8 * m)) := by
    rw [show (256 : Nat) = 2 ^ 8 from rfl, ← Nat.pow_add, ← Nat.pow_add, show 8 * m + (8 + (56 - 8 * m)) = 64 by omega]
  show _ = (P j + 18446744073709551616 * _) / 2 ^ (8 * m) % 256
  generalize tot 18446744073709551616 (fun k => P (j + (1 + k))) q = H
  rw [show 18446744073709551616 * H = 2 ^ (8 * m) * (256 * 2 ^ (56 - 8 * m)) * H by rw [← e], Nat.mul_assoc, Nat.add_mul_div_left _ _ (by exact Nat.pow_pos (by omega)), Nat.mul_assoc, Nat.add_mul_mod_self_left]
theorem ex_ib {i : Nat} (h : i < 32) : ∃ j m s p : Nat, (i : Int) / 8 = (j : Int) ∧ (i : Int) % 8 = (m : Int) ∧ (m : Int) * 8 = (s : Int) ∧ (31 : Int) - (i : Int) = (p : Int) ∧ j < 4 ∧ m < 8 ∧ s ≤ 56 ∧ p < 32 ∧ Hid (i = 8 * j + m ∧ s = 8 * m ∧ p = 31 - i) :=
  ⟨i / 8, i % 8, i % 8 * 8, 31 - i, by omega, by omega, by omega, by omega, by omega, by omega, by omega, by omega, Lib.hid (by omega)⟩
theorem ex_byte {x s b : Nat} (hx : x < 18446744073709551616) (hb : x / 2 ^ s % 256 = b) : ∃ t : Nat, (x : Int) / 2 ^ s = (t : Int) ∧ IntKind.u8.wrap (t : Int) = (b : Int) ∧ t < 18446744073709551616 := by
  have hs : x / 2 ^ s < 18446744073709551616 := Nat.lt_of_le_of_lt (Nat.div_le_self _ _) hx
  refine ⟨x / 2 ^ s, by rw [Int.natCast_ediv, Int.natCast_pow]; rfl, ?_, hs⟩
  generalize x / 2 ^ s = q at *
  simp only [IntKind.wrap, IntKind.bits, IntKind.signed]
  simp
  omega
theorem tot_ge (R : Nat) (P : Nat → Nat) (j : Nat) : ∀ n, j < n → P j * R ^ j ≤ tot R P n
  | 0, h => absurd h (by omega)
  | n + 1, h => by
    rw [tot_succ]
    rcases Nat.lt_or_ge j n with hj | hj
    · have := tot_ge R P j n hj; omega
    · obtain rfl : j = n := by omega
      omega
/-- one byte more into a word, the lowest first -/
theorem read_step {P : Nat → Nat} {V i j m s d : Nat} (hj : j < 4) (hm : m < 8) (e : i = 8 * j + m) (es : s = 8 * m) (hV : tot 18446744073709551616 P 4 = V) (hlt : V < 256 ^ i) : P j < 2 ^ s ∧ tot 18446744073709551616 (upd P j (P j + d * 2 ^ s)) 4 = V + d * 256 ^ i := by
  have e1 : 256 ^ i = 18446744073709551616 ^ j * 2 ^ s := by
    rw [e, es, Nat.pow_add, Nat.pow_mul, Nat.pow_mul]
  refine ⟨?_, ?_⟩
  · have h1 := tot_ge 18446744073709551616 P j 4 hj
    rw [hV] at h1
    have h2 := Nat.lt_of_le_of_lt h1 hlt
    rw [e1, Nat.mul_comm] at h2
    exact Nat.lt_of_mul_lt_mul_left h2
  · have h := tot_upd 18446744073709551616 P j (P j + d * 2 ^ s) 4 hj
    rw [Nat.add_mul] at h
    rw [e1, Nat.mul_comm (18446744073709551616 ^ j), ← Nat.mul_assoc, ← hV]
    omega
theorem ex_up8 {x d s : Nat} (hd : d < 256) (hs : s ≤ 56) (hx : x < 2 ^ s) : ∃ u z : Nat, IntKind.u64.wrap ((d : Int) * 2 ^ s) = (u : Int) ∧ bits .or .u64 (x : Int) (u : Int) = (z : Int) ∧ u < 18446744073709551616 ∧ z < 18446744073709551616 ∧ Hid (z = x + d * 2 ^ s) := by
  have h1 : d * 2 ^ s < 18446744073709551616 := by
    have a := Nat.mul_lt_mul_of_pos_right hd (Nat.two_pow_pos s)
    have b : 256 * 2 ^ s ≤ 18446744073709551616 := by
      rw [show (256 : Nat) = 2 ^ 8 from rfl, ← Nat.pow_add, show 18446744073709551616 = 2 ^ 64 by simp]
      exact Nat.pow_le_pow_right (by omega) (by omega)
    omega
  have h2 : x < 18446744073709551616 := Nat.lt_of_lt_of_le hx (by
    rw [show 18446744073709551616 = 2 ^ 64 by simp]; exact Nat.pow_le_pow_right (by omega) (by omega))
  obtain ⟨z, e1, e2, e3⟩ := ex_or' (k := s) h2 h1 (Lib.hid hx) (Lib.hid ⟨d, Nat.mul_comm _ _⟩)
  exact ⟨d * 2 ^ s, z, by rw [cast_mul_pow, wrap_in64 _ h1], e1, h1, e2, e3⟩
end Go.Proofs.YtalcpnkkbimojaaDoor
namespace Go.Proofs.YtalcpnkkbimojaaDoor
set_option linter.unusedVariables false
set_option linter.unusedSimpArgs false
open Go.RowKit

/-- a block of bytes -/
def RowB (w : World) (b n : Nat) (P : Nat → Nat) : Prop := ∀ k, k < n → w.cell? ⟨b, k, none⟩ = some (.int .u8 (P k : Nat)) ∧ w.frozen? ⟨b, k, none⟩ = false
theorem RowB.below {w w' : World} {b n : Nat} {P : Nat → Nat} (h : RowB w b n P) {B : Nat} (hb : Below B w w') (hB : b < B) : RowB w' b n P := fun k hk =>
  ⟨(hb.cell (p := ⟨b, k, none⟩) hB).trans (h k hk).1, (hb.frozen (p := ⟨b, k, none⟩) hB).trans (h k hk).2⟩
theorem RowB.set {w : World} {b n i v : Nat} {P : Nat → Nat} (h : RowB w b n P) (hi : i < n) : RowB (w.setCell ⟨b, i, none⟩ (.int .u8 (v : Nat))) b n (upd P i v) := by
  intro k hk
  refine ⟨?_, by rw [World.frozen?_setCell]; exact (h k hk).2⟩
  unfold upd
  by_cases e : k = i
  · subst e; rw [if_pos rfl]; exact World.cell?_setCell_same (h := (h k hk).1) ..
  · rw [if_neg e, World.cell?_setCell_other (h := fun he => e (by simpa using (congrArg Addr.off he).symm)) ..]; exact (h k hk).1
theorem RowB.other {w : World} {b n i : Nat} {P : Nat → Nat} (h : RowB w b n P) {c : Nat} (hc : c ≠ b) (x : Value) : RowB (w.setCell ⟨c, i, none⟩ x) b n P := by
  intro k hk
  exact ⟨by rw [World.cell?_setCell_other (h := fun he => hc (by simpa using congrArg Addr.block he)) ..]; exact (h k hk).1, by rw [World.frozen?_setCell]; exact (h k hk).2⟩
theorem RowB.drewN {w : World} {b n : Nat} {P : Nat → Nat} (h : RowB w b n P) (m : Nat) : RowB (w.drewN m) b n P := h
theorem RowB.ext {w : World} {b n : Nat} {P R : Nat → Nat} (h : RowB w b n P) (e : ∀ k, k < n → P k = R k) : RowB w b n R := fun k hk => ⟨by rw [← e k hk]; exact (h k hk).1, (h k hk).2⟩

def BytesPost (A : Nat) (w : World) (e : Ending) (w' : World) : Prop :=
  ∃ b : Nat, e = .returned (.slice (some ⟨b, 0, none⟩) 32 32) ∧ w.heap.size ≤ b ∧ b < w'.heap.size ∧ RowB w' b 32 (byteAt A) ∧ Below w.heap.size w w'

theorem make32 : ∃ o : Obj, (∀ w, (Instr.makeSlice 22 (.int .i64 32) (.int .i64 32)).run Tryd.prog w = .ok (.slice (some ⟨w.heap.size, 0, none⟩) 32 32) (w.alloc o)) ∧ (∀ (w : World) (b : Nat), b = w.heap.size → RowB (w.alloc o) b 32 (fun _ => 0)) := by
  refine ⟨.cells (Array.replicate 32 (.int .u8 0)) 5, fun _ => by kernel_rfl, fun w b hb k hk => ?_⟩
  subst hb
  refine ⟨?_, World.frozen?_alloc_new _ _ _ _⟩
  rw [World.cell?_alloc_new]
  simp [hk]

set_option maxRecDepth 100000 in
set_option maxHeartbeats 1000000 in
theorem bytes_calls (a0 a1 a2 a3 : Nat) (ha : ok4 a0 a1 a2 a3) (w : World) :
    Calls Tryd.prog 15 #[.agg #[.int .u64 a0, .int .u64 a1, .int .u64 a2, .int .u64 a3]] w (BytesPost (val4 a0 a1 a2 a3) w) := by
  obtain ⟨o, hmk, ho⟩ := make32
  have hix : ∀ W, Row4 W w.heap.size a0 a1 a2 a3 → RowIs W w.heap.size 4 (fnOf [a0, a1, a2, a3]) := fun W h => h.rows
  have hP := fn4_lt ha
  have HA := Lib.hid (val4_fn a0 a1 a2 a3)
  have Ho := Lib.hid ho
  have R0 := Lib.hid ((RowIs.mk w 43 [a0, a1, a2, a3] w.heap.size rfl).alloc (by simp) o)
  have HP := Lib.hid hP
  clear ho hix hP
  generalize fnOf [a0, a1, a2, a3] = P at *
  rw [HA.out]
  clear HA
  generalize hv : tot 18446744073709551616 P 4 = A
  have Hv := Lib.hid hv
  clear hv
  go_enter Tryd.func15, Tryd.ntmps15
  go_wp2_with fail
  go_loopw [6] (fun x wr => ∃ i : Nat, i ≤ 32 ∧ x = .int .i64 i ∧ RowIs wr w.heap.size 4 P ∧ RowB wr (w.heap.size + 1) 32 (fun p => if 32 ≤ p + i then byteAt A p else 0) ∧ Below w.heap.size w wr ∧ w.heap.size + 1 < wr.heap.size) (fun x _ => 32 - (intOf x).toNat)
  case atStart =>
    refine ⟨0, by omega, rfl, R0.out, (Ho.out _ _ (by simp)).ext (fun k hk => by rw [if_neg (by omega)]), ?_, by simp⟩
    exact ((Below.refl _ _).alloc (Nat.le_refl _) _).alloc (by simp) _
  case round =>
    obtain ⟨i, hi, rfl, rP, rB, hb, hz⟩ := hrel
    have HB := Lib.hid hb
    by_cases hlt : i < 32
    · obtain ⟨j, m, s, p, q1, q2, q3, q4, hj, hm, hs, hp, e⟩ := ex_ib hlt
      have cx := rP.cell hj
      have cb := (rB p hp).1
      have fb := (rB p hp).2
      have lx := HP.out j
      obtain ⟨t, e1, e2, lt⟩ := ex_byte (b := byteAt A p) (s := s) lx (by
        obtain ⟨k1, k2, k3⟩ := e.out
        rw [k2, word_byte P HP.out 4 j m hj hm, Hv.out, ← k1]
        unfold byteAt
        rw [k3, show 31 - (31 - i) = i by omega])
      have HrP := Lib.hid rP
      have HrB := Lib.hid ((rB.set (v := byteAt A p) hp).ext (R := fun k => if 32 ≤ k + (i + 1) then byteAt A k else 0) (fun k hk => by
        obtain ⟨k1, k2, k3⟩ := e.out
        unfold upd
        by_cases h : k = p
        · rw [if_pos h, if_pos (by omega), h]
        · rw [if_neg h]
          show (if 32 ≤ k + i then byteAt A k else 0) = _
          by_cases h' : 32 ≤ k + i
          · rw [if_pos h', if_pos (by omega)]
          · rw [if_neg h', if_neg (by omega)]))
      have lb := byteAt_lt A p
      generalize P j = x at *
      generalize byteAt A p = b at *
      clear rP rB hb e
      go_wp2_with fail
      go_roundw
      case rel => exact ⟨i + 1, by omega, by go_num, HrP.out.other (by omega) _, HrB.out, HB.out.setCell (p := ⟨w.heap.size + 1, p, none⟩) (by simp) _, by rw [World.size_setCell]; exact hz⟩
      case measure => first | (simp [intOf]; done) | (simp [intOf]; omega)
    · obtain rfl : i = 32 := by omega
      have HrB := Lib.hid (rB.ext (R := byteAt A) (fun k hk => by rw [if_pos (by omega)]))
      clear rB rP hb
      go_wp2_with fail
      go_ret
      exact ⟨w.heap.size + 1, rfl, by omega, hz, HrB.out, HB.out⟩

/-- the number of a list of bytes -/
def ReadPost (P : Nat → Nat → Prop) (w : World) (e : Ending) (w' : World) : Prop :=
  ∃ s0 s1 s2 s3 c : Nat, e = .returned (.tuple #[.agg #[.int .u64 s0, .int .u64 s1, .int .u64 s2, .int .u64 s3], .int .i64 c]) ∧ ok4 s0 s1 s2 s3 ∧ P (val4 s0 s1 s2 s3) c ∧ Below w.heap.size w w'

set_option maxRecDepth 100000 in
set_option maxHeartbeats 1000000 in
theorem read_32 (g off cap : Nat) (B : Nat → Nat) (hB : ∀ k, B k < 256) (w : World) (hg : g < w.heap.size) (hc : ∀ k, k < 32 → w.cell? ⟨g, off + k, none⟩ = some (.int .u8 (B k : Nat))) :
    Calls Tryd.prog 21 #[.slice (some ⟨g, off, none⟩) 32 cap] w (ReadPost (fun n c => n = hor B 0 32 ∧ c = 0) w) := by
  have HC := Lib.hid hc
  have HB := Lib.hid hB
  have HE := Lib.hid (tot_hor B 0 32)
  have HT := Lib.hid (fun i => tot_lt 256 (fun k => B (0 + 32 - 1 - k)) (by omega) i (fun k _ => hB _))
  clear hc hB
  generalize eD : (fun k => B (0 + 32 - 1 - k)) = D at *
  have hD : ∀ i p, i < 32 → p = 31 - i → B p = D i := fun i p hi hp => by
    rw [← eD, hp]
  have HD := Lib.hid hD
  clear hD eD
  go_enter Tryd.func21, Tryd.ntmps21
  go_wp2_with fail
  have R0 := Lib.hid (Row4.new (w.alloc (.cells #[.int .u64 0, .int .u64 0, .int .u64 0, .int .u64 0] 43)) 0 0 0 0 43).rows
  have Z0 := Lib.hid ((Row4.new w 0 0 0 0 43).alloc (by simp) (.cells #[.int .u64 0, .int .u64 0, .int .u64 0, .int .u64 0] 43))
  go_loopw [10] (fun x wr => ∃ (i : Nat) (P : Nat → Nat), i ≤ 32 ∧ x = .int .i64 i ∧ (∀ k, P k < 18446744073709551616) ∧ Hid (tot 18446744073709551616 P 4 = tot 256 D i) ∧ RowIs wr (w.heap.size + 1) 4 P ∧ Row4 wr w.heap.size 0 0 0 0 ∧ Below w.heap.size w wr ∧ w.heap.size + 1 < wr.heap.size) (fun x _ => 32 - (intOf x).toNat)
  case atStart =>
    refine ⟨0, fnOf [0, 0, 0, 0], by omega, rfl, fun k => fn4_lt ⟨by omega, by omega, by omega, by omega⟩ k, Lib.hid rfl, by simpa using R0.out, Z0.out, ?_, by simp⟩
    exact ((Below.refl _ _).alloc (Nat.le_refl _) _).alloc (by simp) _
  case round =>
    obtain ⟨i, P, hi, rfl, lP, tP, rP, z0, hb, hz⟩ := hrel
    have HBl := Lib.hid hb
    have HZ := Lib.hid z0
    have HlP := Lib.hid lP
    have HR := Lib.hid rP
    by_cases hlt : i < 32
    · obtain ⟨j, m, s, p, q1, q2, q3, q4, hj, hm, hs, hp, e⟩ := ex_ib hlt
      have cx := rP.cell hj
      have fx := rP.free hj
      have cb : wr.cell? ⟨g, off + p, none⟩ = some (.int .u8 (B p : Nat)) := (hb.cell (p := ⟨g, off + p, none⟩) hg).trans (HC.out p hp)
      have lb := HB.out p
      have hbD := HD.out i p hlt e.out.2.2
      have st := read_step (d := D i) hj hm e.out.1 e.out.2.1 tP.out (HT.out i)
      obtain ⟨u, z, e1, e2, lu, lz, ez⟩ := ex_up8 lb hs st.1
      have HN := Lib.hid (show tot 18446744073709551616 (upd P j z) 4 = tot 256 D (i + 1) by
        rw [ez.out, hbD, st.2, tot_succ])
      have lx := lP j
      generalize P j = x at *
      generalize B p = b at *
      clear z0 hb rP lP tP st hbD e ez
      go_wp2_with fail
      go_region
      go_wp2_with fail
      go_roundw
      case rel => exact ⟨i + 1, upd P j z, by omega, by go_num, fun k => by unfold upd; split; exact lz; exact HlP.out k, HN, (HR.out.drewN 1).set hj, (HZ.out.drewN 1).other (by omega) _, (HBl.out.drew).setCell (p := ⟨w.heap.size + 1, j, none⟩) (by simp) _, by show _ < (wr.setCell _ _).heap.size; rw [World.size_setCell]; exact hz⟩
      case measure => first | (simp [intOf]; done) | (simp [intOf]; omega)
    · obtain rfl : i = 32 := by omega
      have HF := Lib.hid ((val4_tot P).trans (tP.out.trans HE.out))
      have c0 := rP.cell (show 0 < 4 by omega); have c1 := rP.cell (show 1 < 4 by omega); have c2 := rP.cell (show 2 < 4 by omega); have c3 := rP.cell (show 3 < 4 by omega)
      have k0 := z0.c0; have k1 := z0.c1; have k2 := z0.c2; have k3 := z0.c3; have kf := z0.fr
      have l0 := lP 0; have l1 := lP 1; have l2 := lP 2; have l3 := lP 3
      clear rP z0 hb lP tP
      go_wp2_with fail
      refine bodyPost_ret (v := .tuple #[.agg #[.int .u64 (P 0), .int .u64 (P 1), .int .u64 (P 2), .int .u64 (P 3)], .int .i64 0]) (by simp [results, Tryd.results21, go_sem, *]) rfl ?_
      exact ⟨P 0, P 1, P 2, P 3, 0, rfl, ⟨l0, l1, l2, l3⟩, ⟨HF.out, rfl⟩, below_set4 HBl.out (by omega) _ _ _ _⟩


end Go.Proofs.YtalcpnkkbimojaaDoor
namespace Go.Proofs.YtalcpnkkbimojaaDoor.Ex
set_option linter.unusedVariables false
set_option linter.unusedSimpArgs false
set_option maxRecDepth 100000
open Go.RowKit

def gU (x : Nat) : List At := [.c (.int .u8 (Int.ofNat x))]
/-- a number's bytes, the highest first -/
def byL (N : Nat) : List At := cat (fun k => gU (byteAt N k)) 0 32
theorem gU_cell {f : Nat → Nat} : ∀ (n s j : Nat), j < n → (flat (cat (fun k => gU (f k)) s n))[j]? = some (.int .u8 (Int.ofNat (f (s + j))))
  | n + 1, s, 0, _ => rfl
  | n + 1, s, j + 1, h => by
    show (flat (gU (f s) ++ cat (fun k => gU (f k)) (s + 1) n))[j + 1]? = _
    rw [flat_append]
    show ([Value.int .u8 (Int.ofNat (f s))] ++ flat (cat (fun k => gU (f k)) (s + 1) n))[j + 1]? = _
    rw [show s + (j + 1) = s + 1 + j by omega]
    exact gU_cell n (s + 1) j (by omega)
theorem gU_len {f : Nat → Nat} (n s : Nat) : (flat (cat (fun k => gU (f k)) s n)).length = n := by
  rw [flat_len, cat_size (c := 1) (fun _ => rfl)]; omega
/-- bytes in memory -/
def BM (w : World) (g o n : Nat) (f : Nat → Nat) : Prop := g < w.heap.size ∧ (∀ j, f j < 256) ∧ ∀ j, j < n → w.cell? ⟨g, o + j, none⟩ = some (.int .u8 (Int.ofNat (f j)))
theorem BM.on {w w' : World} {g o n : Nat} {f : Nat → Nat} (h : BM w g o n f) (hb : Below w.heap.size w w') : BM w' g o n f :=
  ⟨Nat.lt_of_lt_of_le h.1 hb.size, h.2.1, fun j hj => (hb.cell (p := ⟨g, o + j, none⟩) h.1).trans (h.2.2 j hj)⟩
/-- the number of n bytes, and its bytes -/
abbrev hN (f : Nat → Nat) (n : Nat) : Nat := Go.Proofs.YtalcpnkkbimojaaDoor.hor f 0 n
theorem hN_lt {f : Nat → Nat} (hf : ∀ j, f j < 256) {n : Nat} (hn : n ≤ 32) : hN f n < W256 := by
  have h1 := hor_lt hf 0 n
  have h2 : 256 ^ n ≤ 256 ^ 32 := Nat.pow_le_pow_right (by omega) hn
  exact Nat.lt_of_lt_of_le h1 (Nat.le_trans h2 (by decide))
theorem hN_r {f : Nat → Nat} (hf : ∀ j, f j < 256) {n : Nat} (hn : n ≤ 31) : hN f n < RM := by
  have h1 := hor_lt hf 0 n
  have h2 : 256 ^ n ≤ 256 ^ 31 := Nat.pow_le_pow_right (by omega) hn
  exact Nat.lt_of_lt_of_le h1 (Nat.le_trans h2 (by decide))
theorem hN_byte {f : Nat → Nat} (hf : ∀ j, f j < 256) {n k : Nat} (hn : n ≤ 32) (hk : k < 32) : byteAt (hN f n) k = if k < 32 - n then 0 else f (k - (32 - n)) := by
  unfold byteAt hN
  by_cases h : k < 32 - n
  · rw [if_pos h]
    have h1 := hor_lt hf 0 n
    have h2 : 256 ^ n ≤ 256 ^ (31 - k) := Nat.pow_le_pow_right (by omega) (by omega)
    rw [Nat.div_eq_of_lt (Nat.lt_of_lt_of_le h1 h2)]
  · rw [if_neg h]
    obtain ⟨a, ha⟩ : ∃ a, n = (a + 1) + (31 - k) := ⟨k - (32 - n), by omega⟩
    have hsp := hor_split f 0 (a + 1) (31 - k)
    rw [← ha] at hsp
    have hlt := hor_lt hf (0 + (a + 1)) (31 - k)
    rw [hsp, Nat.mul_comm, Nat.mul_add_div (Nat.pow_pos (by omega)), Nat.div_eq_of_lt hlt, Nat.add_zero]
    show (Go.Proofs.YtalcpnkkbimojaaDoor.hor f 0 a * 256 + f (0 + a)) % 256 = _
    rw [Nat.mul_comm, Nat.mul_add_mod, Nat.mod_eq_of_lt (hf _), show k - (32 - n) = 0 + a by omega]
/-- a call of limbs.Read over a number's bytes -/
def gRdN (N : Nat) : Ent
  | [.s l 32 m] => some ([flat l = flat (byL N), N < W256], .many [.fl [.q N], .im (.int .i64 0)])
  | _ => none
theorem gRdN_ok (N : Nat) : ∀ cs pre r, gRdN N cs = some (pre, r) → allP pre → ∀ (args : List Value) (w : World), CAs w cs args → Good Tryd.prog 21 r args w := by
  intro cs pre r hg hp args w ha
  unfold gRdN at hg
  split at hg
  · rename_i l m
    cases hg
    obtain ⟨h1, h2, _⟩ := hp
    match args, ha with
    | [v], ha =>
      obtain ⟨b, o, rfl, hb, hr⟩ := ha.1
      have h := read_32 b o m (byteAt N) (byteAt_lt N) w hb fun k hk => hr k _ (by rw [h1]; have := gU_cell (f := byteAt N) 32 0 k hk; rwa [Nat.zero_add] at this)
      refine h.mono ?_
      rintro e w' ⟨s0, s1, s2, s3, c', rfl, hs, ⟨h3, rfl⟩, hbl⟩
      rw [hor_back h2] at h3
      obtain ⟨rfl, rfl, rfl, rfl⟩ := fw_of hs h2 h3
      exact ⟨rfl, hbl⟩
    | [], ha => exact ha.elim
    | _ :: _ :: _, ha => exact ha.2.elim
  · cases hg
theorem Holds.ptV {nt base : Nat} {w0 : World} {A : List Fact} {a : Act} {w : World} (h : Holds nt base w0 A a w) {s k o b : Nat} (h1 : Fact.slot s (.pt k o) ∈ A) (h2 : Fact.at k b ∈ A) : a.eval (.tmp s) = ptV b o := by
  obtain ⟨β, g1, _⟩ := h.facts
  have e1 := g1 _ h1
  have e2 := g1 _ h2
  simp only [Fact.ok] at e1 e2
  simp [Act.eval, e1, AV.den, e2, Go.Proofs.YtalcpnkkbimojaaDoor.Ex.ptV]
theorem Holds.imV {nt base : Nat} {w0 : World} {A : List Fact} {a : Act} {w : World} (h : Holds nt base w0 A a w) {s : Nat} {v : Value} (h1 : Fact.slot s (.im v) ∈ A) : a.eval (.tmp s) = v := by
  have e1 := h.slot h1
  simp [Act.eval, e1]
theorem put_allT {A : List Fact} {d : Nat} (h : A.all (fun φ => !(clob (some d) none φ)) = true) : ∀ φ ∈ A, clob (some d) none φ = false := fun φ hφ => by
  have := List.all_eq_true.1 h φ hφ
  simpa using this
def tC (T : Tab) (num : Nat → Option Value) : Cfg := ⟨fun _ => T, fun _ => true, num⟩
theorem size8 : (Tryd.prog.info? 5).map (·.size) = some 1 := by kernel_rfl
theorem under8 : Tryd.prog.underlying 22 = some (.slice 5) := by kernel_rfl
theorem under32 : Tryd.prog.underlying 59 = some (.array 32 5) := by kernel_rfl
theorem runsz8 (w : World) : (sizeOf 5).run Tryd.prog w = .ok 1 w := by
  have h := size8
  cases hq : Tryd.prog.info? 5 with
  | none => rw [hq] at h; cases h
  | some i =>
    rw [hq] at h
    have : i.size = 1 := by simpa using h
    simp [sizeOf, typeInfo, hq, this]
end Go.Proofs.YtalcpnkkbimojaaDoor.Ex
namespace Go.Proofs.YtalcpnkkbimojaaDoor.Ex
set_option linter.unusedVariables false
set_option linter.unusedSimpArgs false
set_option maxRecDepth 100000
open Go.RowKit

noncomputable def nmCode : Code := (Tryd.f11.body).getD .skip
noncomputable def nm2 : Code := cB (cB nmCode)
noncomputable abbrev nmT : Nat := Tryd.f11.ntmps
theorem nm_code : nmCode = .seq (cA nmCode) (.seq (cA (cB nmCode)) (.seq (.region 2 (opsOf (cA nm2)) false) (.seq (cA (cB nm2)) (.seq (cA (cB (cB nm2))) .ret)))) := by kernel_rfl
def zl : List At := List.replicate 32 (.c (.int .u8 0))
def nA (v : Value) : List Fact := [.slot 0 (.im v), .slot 2 (.pt 2 0), .row 2 true [.f ⟨0, fp_pos⟩]]
def nB (v : Value) (L : List At) : List Fact := [.slot 3 (.pt 3 0), .row 3 true L, .slot 0 (.im v), .slot 2 (.pt 2 0), .row 2 true [.f ⟨0, fp_pos⟩]]
theorem nm_s0 (v : Value) : runK Tryd.prog (qG Tryd.prog) nmT (fun _ => tC T0 fun _ => none) 40 (cA nmCode) (argF 0 [.v (.im v)]) (nA v) = some ([], .nrm, nA v) := by kernel_rfl
theorem nm_s1 (v : Value) : runK Tryd.prog (qG Tryd.prog) nmT (fun _ => tC T0 fun _ => none) 40 (cA (cB nmCode)) (nA v) (nB v zl) = some ([], .nrm, nB v zl) := by kernel_rfl
theorem nm_s2 (g o k m b : Nat) : regK Tryd.prog (qG Tryd.prog) nmT (tC T0 (assoc [(8, iI (32 - k))])) ((opsOf (cA nm2)).extract 0 3) (.at 3 b :: nB (slV g o k m) zl) (.slot 8 (.im (iI (32 - k))) :: .at 3 b :: nB (slV g o k m) zl) = some ([intOp .sub .i64 32 (Int.ofNat k) = some (iI (32 - k))], .slot 8 (.im (iI (32 - k))) :: .at 3 b :: nB (slV g o k m) zl) := by kernel_rfl
theorem nm_s4 (v s : Value) (b : Nat) : regK Tryd.prog (qG Tryd.prog) nmT (tC T0 fun _ => none) ((opsOf (cA nm2)).extract 4 5) (.slot 9 (.im s) :: .at 3 b :: nB v zl) (.slot 10 (.im v) :: .slot 9 (.im s) :: .at 3 b :: nB v zl) = some ([], .slot 10 (.im v) :: .slot 9 (.im s) :: .at 3 b :: nB v zl) := by kernel_rfl
theorem nm_s6 (v : Value) (N : Nat) : runK Tryd.prog (qG Tryd.prog) nmT (fun _ => tC (T0.add 21 (gRdN N)) fun _ => none) 40 (cA (cB nm2)) (nB v (byL N)) [.slot 4 (.pt 4 0), .row 4 true [.q N], .slot 2 (.pt 2 0), .row 2 true [.f ⟨0, fp_pos⟩]] = some ([flat (byL N) = flat (byL N), N < W256], .nrm, [.slot 4 (.pt 4 0), .row 4 true [.q N], .slot 2 (.pt 2 0), .row 2 true [.f ⟨0, fp_pos⟩]]) := by kernel_rfl
theorem nm_s7 (N : Nat) : runK Tryd.prog (qG Tryd.prog) nmT (fun _ => tC T0 fun _ => none) 40 (cA (cB (cB nm2))) [.slot 4 (.pt 4 0), .row 4 true [.q N], .slot 2 (.pt 2 0), .row 2 true [.f ⟨0, fp_pos⟩]] [.slot 2 (.pt 2 0), .row 2 true [.q N]] = some ([], .nrm, [.slot 2 (.pt 2 0), .row 2 true [.q N]]) := by kernel_rfl
theorem o_sub32 {k : Nat} (h : k ≤ 32) : intOp .sub .i64 32 (Int.ofNat k) = some (iI (32 - k)) := o_sub (i := 32) h (by decide)
theorem sl_arr {b lo : Nat} (h : lo < 32) (w : World) : (Instr.sliceAt 59 (ptV b 0) (some (iI lo)) none none).run Tryd.prog w = .ok (slV b lo (32 - lo) (32 - lo)) w := by
  simp [Instr.sliceAt, Instr.sureAddr, ptV, slV, iI, run_underlying under32, Instr.sliceBounds, Instr.sliceBound, asIntOf, runsz8, Nat.le_of_lt h, Addr.add_mid]
  omega
theorem nm_calls {w0 : World} {g o k m : Nat} {f : Nat → Nat} (hv : BM w0 g o k f) (h1 : 1 ≤ k) (h2 : k ≤ 31) : Good Tryd.prog 11 (.one (.fl [.q (hN f k)])) [slV g o k m] w0 := by
  have hG : EqOkW Tryd.prog (qG Tryd.prog) w0.heap.size w0 := (qG_ok _).w _ _
  have hT : ∀ n d : Nat, TabOkW Tryd.prog T0 w0.heap.size w0 := fun _ _ => (T0_ok _).w _ _
  refine fn_enter Tryd.func11 (cs := [.v (.im (slV g o k m))]) (args := [slV g o k m]) (c := nmCode) rfl ⟨rfl, trivial⟩ (Nat.le_of_ble_eq_true (by kernel_rfl)) fun a w hA => ?_
  rw [nm_code]
  refine wp_seq (runKW_sound hmix hT hG (nm_s0 _) trivial hA fun a w hA => ?_)
  refine wp_seq (runKW_sound hmix hT hG (nm_s1 _) trivial hA fun a w hA => ?_)
  obtain ⟨b, hA⟩ := hA.at (k := 3) (l := zl) (by simp [nB])
  refine wp_seq (wp_rangeP (l := List.range' 0 ((opsOf (cA nm2)).extract 0 3).size ++ (3 :: (List.range' 4 ((opsOf (cA nm2)).extract 4 5).size ++ (5 :: [])))) (by kernel_rfl) ?_)
  refine partE_sound (c := tC T0 _) (hT 0) hG (nm_s2 g o k m b) ⟨o_sub32 (by omega), trivial⟩ (by kernel_rfl) hA fun a w hA => ?_
  obtain ⟨o3, ho3, hop3, hd3, hg3⟩ : ∃ x, (opsOf (cA nm2))[3]? = some x ∧ x.op = .slice 59 (.tmp 3) (some (.tmp 8)) none none ∧ x.dst = some 9 ∧ x.guard = none := ⟨_, rfl, rfl, rfl, rfl⟩
  have e3 := hA.ptV (s := 3) (k := 3) (o := 0) (b := b) (by simp [nB]) (by simp)
  have e8 := hA.imV (s := 8) (v := iI (32 - k)) (by simp)
  have hrun : (execOp a.eval o3).run Tryd.prog w = .ok (.value (slV b (32 - k) k k)) w := by
    have := sl_arr (b := b) (lo := 32 - k) (by omega) w
    rw [show 32 - (32 - k) = k by omega] at this
    unfold execOp
    simp only [hop3, Option.map_some, Option.map_none, e3, e8, Sem.run_bind, this, Result.andThen_ok, Sem.run_pure]
  refine wpOps_one ho3 hg3 (wp_value hrun ?_)
  rw [hd3]
  have hA := (hA.put (Below.refl _ _) (d := 9) (Nat.le_of_ble_eq_true (by kernel_rfl)) (.im (slV b (32 - k) k k)) (put_allT (by kernel_rfl))).sub (A' := .slot 9 (.im (slV b (32 - k) k k)) :: .at 3 b :: nB (slV g o k m) zl) (fun φ h => by
    rcases List.mem_cons.1 h with rfl | h
    · exact List.mem_cons_self
    · exact List.mem_cons_of_mem _ (List.mem_cons_of_mem _ h))
  refine partE_sound (c := tC T0 _) (hT 0) hG (nm_s4 (slV g o k m) (slV b (32 - k) k k) b) trivial (by kernel_rfl) hA fun a w hA => ?_
  obtain ⟨o5, ho5, hop5, hd5, hg5⟩ : ∃ x, (opsOf (cA nm2))[5]? = some x ∧ x.op = .call ⟨.builtin .copy, #[.tmp 9, .tmp 10], #[22, 22]⟩ ∧ x.dst = some 11 ∧ x.guard = none := ⟨_, rfl, rfl, rfl, rfl⟩
  have e9 := hA.imV (s := 9) (v := slV b (32 - k) k k) (by simp)
  have e10 := hA.imV (s := 10) (v := slV g o k m) (by simp)
  have hB := hv.on hA.below
  have hrow := hA.old (k := 3) (l := zl) (b := b) (by simp [nB]) (by simp)
  have hfz : ∀ j, w.frozen? ⟨b, j, none⟩ = false := by
    obtain ⟨β, g1, _⟩ := hA.facts
    obtain ⟨_, _, q, _⟩ := g1 (.row 3 true zl) (by simp [nB])
    have e := g1 (.at 3 b) (by simp)
    simp only [Fact.ok] at e
    obtain ⟨rfl, _⟩ := e
    exact (q rfl).2.2
  have hcs : ∀ j v, (flat (cat (fun j => gU (f j)) 0 k))[j]? = some v → w.cell? ((⟨g, o, none⟩ : Addr).add j) = some v := fun j v hj => by
    have hlt : j < k := by have := (List.getElem?_eq_some_iff.1 hj).1; rwa [gU_len] at this
    rw [gU_cell k 0 j hlt] at hj
    rw [← hj, show (⟨g, o, none⟩ : Addr).add j = ⟨g, o + j, none⟩ by simp [Addr.add], hB.2.2 j hlt, Nat.zero_add]
  have hz32 : fsz zl = 32 := by kernel_rfl
  have hcell : ∀ j, j < (flat (cat (fun j => gU (f j)) 0 k)).length → (w.cell? ⟨b, 32 - k + j, none⟩).isSome = true := fun j hj => by
    rw [gU_len] at hj
    have hlt : 32 - k + j < (flat zl).length := by rw [flat_len, hz32]; omega
    have := hrow.2 (32 - k + j) _ (List.getElem?_eq_getElem hlt)
    rw [Nat.zero_add] at this
    rw [this]; rfl
  have hone : ∀ x ∈ flat (cat (fun j => gU (f j)) 0 k), x.oneCell' = true := fun x hx => by
    obtain ⟨j, hj⟩ := List.mem_iff_getElem?.1 hx
    have hlt : j < k := by have := (List.getElem?_eq_some_iff.1 hj).1; rwa [gU_len] at this
    rw [gU_cell k 0 j hlt] at hj
    cases hj; rfl
  have hcp := run_copy_cells (P := Tryd.prog) w 22 22 o5.type 5 b (32 - k) k k ⟨g, o, none⟩ k m (flat (cat (fun j => gU (f j)) 0 k)) under8 size8 (by rw [gU_len]; exact (Nat.min_self k).symm) hcs hcell (fun j _ => hfz _) hone
  have hrun : (execOp a.eval o5).run Tryd.prog w = .ok (.value (goInt (flat (cat (fun j => gU (f j)) 0 k)).length)) (w.setCells b (32 - k) (flat (cat (fun j => gU (f j)) 0 k))) := by
    unfold execOp
    simp only [hop5, resolve, invoke, builtin, Sem.run_bind, Sem.run_pure, Result.andThen_ok, List.map_toArray, List.map_cons, List.map_nil, e9, e10, slV, hcp]
  refine wpOps_one ho5 hg5 (wp_value hrun ?_)
  rw [hd5]
  have hA := hA.wr (k := 3) (b := b) (o := 32 - k) (l := zl) (l' := byL (hN f k)) (vs := flat (cat (fun j => gU (f j)) 0 k)) (by simp [nB]) (by simp) (by rw [gU_len, hz32]; omega) (fun j v hj => by
    have hlt : j < 32 := by have := (List.getElem?_eq_some_iff.1 hj).1; unfold byL at this; rwa [gU_len] at this
    have hc := gU_cell (f := byteAt (hN f k)) 32 0 j hlt
    unfold byL at hj
    rw [hc, Nat.zero_add, hN_byte hB.2.1 (by omega) hlt] at hj
    by_cases h : j < 32 - k
    · right
      rw [if_pos h] at hj
      refine ⟨Or.inl h, ?_⟩
      rw [← hj]
      have e : ∀ q, q < 32 → (flat zl)[q]? = some (.int .u8 0) := by
        have : flat zl = List.replicate 32 (.int .u8 0) := by kernel_rfl
        intro q hq
        rw [this, List.getElem?_replicate, if_pos hq]
      exact e j hlt
    · left
      rw [if_neg h] at hj
      refine ⟨by omega, ?_⟩
      rw [gU_cell k 0 (j - (32 - k)) (by omega), Nat.zero_add]
      exact hj)
  have hA := hA.put (Below.refl _ _) (d := 11) (Nat.le_of_ble_eq_true (by kernel_rfl)) (.im (goInt (flat (cat (fun j => gU (f j)) 0 k)).length)) (put_allT (by kernel_rfl))
  have hA := hA.sub (A' := nB (slV g o k m) (byL (hN f k))) (fun φ h => by
    simp only [nB, List.mem_cons, List.not_mem_nil, or_false] at h
    rcases h with rfl | rfl | rfl | rfl | rfl <;> simp [nB, noRow, TV.av, show Nat.beq 2 3 = false from rfl])
  have hT2 : ∀ n d : Nat, TabOkW Tryd.prog (T0.add 21 (gRdN (hN f k))) w0.heap.size w0 := fun _ _ => ((T0_ok _).add Tryd.func21 (by kernel_rfl) (by kernel_rfl) (gRdN_ok _)).w _ _
  show (Code.seq _ _).wp _ _ _ _
  refine wp_seq (runKW_sound hmix hT2 hG (nm_s6 (slV g o k m) (hN f k)) ⟨rfl, hN_lt hv.2.1 (by omega), trivial⟩ hA fun a w hA => ?_)
  refine wp_seq (runKW_sound hmix hT hG (nm_s7 (hN f k)) trivial hA fun a w hA => ?_)
  exact wp_ret (fn_leave (l := [.fl [.q (hN f k)]]) (r := .one (.fl [.q (hN f k)])) (by kernel_rfl) (by kernel_rfl) hA)
end Go.Proofs.YtalcpnkkbimojaaDoor.Ex
namespace Go.Proofs.YtalcpnkkbimojaaDoor.Ex
set_option linter.unusedVariables false
set_option linter.unusedSimpArgs false
open Go.RowKit

/-- values as facts, the first in slot i -/
def argV : Nat → List TV → List Fact
  | _, [] => []
  | i, t :: r => .slot i t.av :: argV (i + 1) r
theorem argV_ok {base : Nat} {β : Nat → Bk} (a : Act) (w : World) : ∀ (ts : List TV) (i : Nat), (∀ j t, ts[j]? = some t → a.tmps[i + j]? = some t.den) → ∀ φ ∈ argV i ts, φ.ok base β a w
  | [], i, _, φ, h => by cases h
  | t :: r, i, ha, φ, h => by
    rcases List.mem_cons.1 h with rfl | h
    · show a.tmps[i]? = _
      rw [TV.av_den]
      exact ha 0 t rfl
    · exact argV_ok a w r (i + 1) (fun j u hj => by have := ha (j + 1) u (by simpa using hj); rwa [show i + (j + 1) = i + 1 + j by omega] at this) φ h
theorem argV_row : ∀ (ts : List TV) (i : Nat) (k : Nat) (o : Bool) (l : List At), Fact.row k o l ∈ argV i ts → False
  | [], i, k, o, l, h => by cases h
  | t :: r, i, k, o, l, h => by
    rcases List.mem_cons.1 h with h | h
    · cases h
    · exact argV_row r (i + 1) k o l h
/-- block b holds l from its beginning on, and may be written -/
structure Own (w : World) (b : Nat) (l : List At) : Prop where
  lt : b < w.heap.size
  row : w.rangeAt b 0 (flat l)
  free : ∀ j, w.frozen? ⟨b, j, none⟩ = false
/-- how a call ends that may write block b -/
def Wr (b : Nat) (w : World) (r : RV) (l : List At) (e : Ending) (w' : World) : Prop := e = .returned r.den ∧ WrC w w' b ∧ w'.rangeAt b 0 (flat l)
/-- its facts: the block has key 0, and x points there; key nt has the heap's size -/
def argX (nt b N : Nat) (x : AV) (l : List At) (ts : List TV) : List Fact := .slot 0 x :: .row 0 true l :: .at 0 b :: .at nt N :: argV 1 ts
def argP (nt b N o : Nat) (l : List At) (ts : List TV) : List Fact := argX nt b N (.pt 0 o) l ts
theorem Holds.wrc {nt b : Nat} {w w' : World} {A : List Fact} {a : Act} (h : Holds nt b w A a w') {l : List At} (h1 : Fact.row 0 true l ∈ A) (h2 : Fact.at 0 b ∈ A) (h3 : Fact.at nt w.heap.size ∈ A) : WrC w w' b ∧ w'.rangeAt b 0 (flat l) := by
  obtain ⟨β, g1, g2, g3, gt⟩ := h.facts
  obtain ⟨e1, e2, e4, _⟩ := g1 _ h1
  obtain ⟨e5, e6, e7⟩ := e4 rfl
  have e3 := g1 _ h2
  have e8 := g1 _ h3
  simp only [Fact.ok] at e3 e8
  rw [e6] at e2
  rw [e3.1] at e2
  refine ⟨⟨h.below, fun p hp hne => ?_, gt.shape, fun j => ?_⟩, e2⟩
  · rcases Nat.lt_or_ge p.block b with q | q
    · exact ⟨h.below.cell q, h.below.frozen q⟩
    · exact gt.mem p (by omega) (by rw [e8.1]; exact hp)
  · have := e7 j
    rwa [e3.1] at this
section
variable {P : Program} {w : World} {R : Ending → World → Prop}
theorem fn_enterX {f : FuncId} {fn : Func} (hf : P.funcs[f]? = some fn) {c : Code} (hb : fn.body = some c) {b : Nat} {x : AV} {v : Value} (hx : ∀ β : Nat → Bk, β 0 = (b, 0, 0) → x.den β = v) {l : List At} {ts : List TV} (hO : Own w b l) (hn : ts.length + 1 ≤ fn.ntmps)
    (h : ∀ a w', Holds fn.ntmps b w (argX fn.ntmps b w.heap.size x l ts) a w' → c.wp P (bodyPost P fn R) a w') : Calls P f (v :: ts.map TV.den).toArray w R := by
  refine calls_of_wp hf hb (h _ _ ?_)
  have hg : ∀ j u, (v :: ts.map TV.den)[j]? = some u → ((v :: ts.map TV.den).toArray ++ Array.replicate (fn.ntmps - (v :: ts.map TV.den).toArray.size) undef)[j]? = some u := fun j u hj => by
    have hlt := (List.getElem?_eq_some_iff.1 hj).1
    rw [Array.getElem?_append_left (by simpa using hlt)]
    simpa using hj
  have hz : Nat.beq 0 fn.ntmps = false := by
    cases hb : Nat.beq 0 fn.ntmps
    · rfl
    · have := Nat.eq_of_beq_eq_true hb; omega
  have h0 : ∀ k l0, Fact.row k true l0 ∈ argX fn.ntmps b w.heap.size x l ts → k = 0 := fun k l0 hk => by
    simp only [argX, List.mem_cons, reduceCtorEq, false_or] at hk
    rcases hk with hk | hk
    · cases hk; rfl
    · exact (argV_row ts 1 k true l0 hk).elim
  refine ⟨rfl, by simp; omega, Below.refl _ _, Nat.le_of_lt hO.lt, fun k => bif Nat.beq k fn.ntmps then (w.heap.size, 0, 0) else (b, 0, 0), fun φ hφ => ?_, fun k k' o' l1 l2 h1 h2 hne => ?_, fun k l1 h1 => Or.inl ?_, ?_, fun p q1 q2 => ⟨rfl, rfl⟩, Shape.refl _⟩
  · simp only [argX, List.mem_cons] at hφ
    rcases hφ with rfl | rfl | rfl | rfl | hφ
    · exact (hg 0 _ rfl).trans (congrArg some (hx _ (by simp only [hz, cond_false])).symm)
    · refine ⟨?_, ?_, fun _ => ⟨?_, ?_, ?_⟩, fun h => by cases h⟩ <;> simp only [hz, cond_false]
      · exact hO.lt
      · exact hO.row
      · exact Nat.le_refl _
      · exact hO.free
    · simp only [Fact.ok, hz, cond_false, and_self]
    · simp [Fact.ok]
    · exact argV_ok _ _ ts 1 (fun j t hj => hg (1 + j) _ (by rw [Nat.add_comm]; simp [hj])) φ hφ
  · cases o' with
    | true => exact (hne ((h0 k l1 h1).trans (h0 k' l2 h2).symm)).elim
    | false =>
      simp only [argX, List.mem_cons, reduceCtorEq, false_or, Fact.row.injEq, Bool.false_eq_true, false_and, and_false] at h2
      exact (argV_row ts 1 k' false l2 h2).elim
  · rw [h0 k l1 h1]
    simp only [hz, cond_false]
  · simp
theorem fn_enterP {f : FuncId} {fn : Func} (hf : P.funcs[f]? = some fn) {c : Code} (hb : fn.body = some c) {b o : Nat} {l : List At} {ts : List TV} (hO : Own w b l) (hn : ts.length + 1 ≤ fn.ntmps)
    (h : ∀ a w', Holds fn.ntmps b w (argP fn.ntmps b w.heap.size o l ts) a w' → c.wp P (bodyPost P fn R) a w') : Calls P f (ptV b o :: ts.map TV.den).toArray w R :=
  fn_enterX hf hb (x := .pt 0 o) (fun β h => by simp [AV.den, ptV, h]) hO hn h
end
/-- a whole function -/
def funP (P : Program) (q : EqT) (C : Nat → Cfg) (fn : Func) (n b N o : Nat) (l : List At) (ts : List TV) : Option (List Prop × RV × List At × Nat × Nat) :=
  match fn.body with
  | some c => bif Nat.ble (ts.length + 1) fn.ntmps then (match run P q fn.ntmps C n c (argP fn.ntmps b N o l ts) with
      | some (ps, .rt, A) => match resTs P A fn.results.toList, rowOf A 0, atOf A 0, atOf A fn.ntmps with
        | some x, some (true, L), some b', some N' => match rv x with | some r => some (ps, r, L, b', N') | none => none
        | _, _, _, _ => none
      | _ => none) else none
  | none => none
theorem funP_sound {P : Program} {q : EqT} {C : Nat → Cfg} {w : World} {b o : Nat} (hm : P.follows .mixedOrders = true) (hT : ∀ n d, TabOkW P ((C n).T d) b w) (hq : EqOkW P q b w) {f : FuncId} {fn : Func} (hf : P.funcs[f]? = some fn) {n : Nat} {l L : List At} {ts : List TV} {ps : List Prop} {r : RV}
    (h : funP P q C fn n b w.heap.size o l ts = some (ps, r, L, b, w.heap.size)) (hps : allP ps) (hO : Own w b l) : Calls P f (ptV b o :: ts.map TV.den).toArray w (Wr b w r L) := by
  unfold funP at h
  split at h
  · rename_i c hb
    cases hle : Nat.ble (ts.length + 1) fn.ntmps <;> rw [hle] at h
    · cases h
    · simp only [cond_true] at h
      split at h
      · rename_i ps' A hrun
        split at h
        · rename_i x L' b' N' hx hrow hb' hN'
          split at h
          · rename_i r' hr
            cases h
            refine fn_enterP hf hb hO (Nat.le_of_ble_eq_true hle) fun a w' hH => (run_sound (P := P) (q := q) (nt := fn.ntmps) (C := C) hm hT hq n c _ A ps .rt a w' _ hrun hps hH fun a w' hA => ?_).1
            exact fn_leaveR hx hr hA ⟨rfl, hA.wrc (rowOf_mem hrow) (atOf_mem hb') (atOf_mem hN')⟩
          · cases h
        · cases h
      · cases h
  · cases h
/-- what loads and stores of the block are told, indices, quiet operations; calls that write through a pointer -/
def qPx (P : Program) (ld st : Nat → Option (List At)) (idx : Nat → Option Nat) (gen : Nat → Option Value) (T5 : Tab5) : EqT := { qG P with x := { Ext.none with ld := ld, st := st, idx := idx, gen := gen, T5 := T5 } }
theorem qPx_ok {P : Program} {ld st : Nat → Option (List At)} {idx : Nat → Option Nat} {gen : Nat → Option Value} {T5 : Tab5} (h5 : PtOk P T5) (base : Nat) (w0 : World) : EqOkW P (qPx P ld st idx gen T5) base w0 :=
  ⟨(qG_ok P).1, fun w' _ => ⟨fun _ _ _ h => h.elim, fun _ _ _ _ h => (by cases h), fun _ _ _ _ h => (by cases h), fun _ _ _ _ _ h => (by cases h), fun f cs pre j r l hg hp => ⟨(h5 f cs pre j r l hg hp).1, fun args ha => (h5 f cs pre j r l hg hp).2 args w' ha⟩, fun _ _ _ _ _ _ _ h => (by cases h)⟩⟩
end Go.Proofs.YtalcpnkkbimojaaDoor.Ex
