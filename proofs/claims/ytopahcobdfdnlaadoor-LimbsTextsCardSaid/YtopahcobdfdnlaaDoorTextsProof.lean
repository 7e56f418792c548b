/-
  THE STATEMENT LimbsTexts, lifted: for any arguments the law answers true and its arguments read as they did. Conditions: the row's own (the listed tables as the program's text lays them).
-/
import Derived.Test.YtopahcobdfdnlaaDoorTexts
import Derived.Test.YtopahcobdfdnlaaDoorProof
import Derived.ChangeSlices
import Derived.ChangeMaps5
import Derived.WideShapes
namespace Go.Proofs.YtopahcobdfdnlaaDoor
set_option linter.unusedVariables false
open Go.ChangeShapes Go.WideShapes Go.ChangeAt Go.RowKit

theorem u8_cells : Tryd.prog.cellsOf 5 = 1 := by kernel_rfl
theorem open_bytes {H : Type} {enc : TypeId × Value → H} {W : World} {o : Option Addr} {len cap : Nat} {d : DataW H} {ps : List MemPlace} (h : DataW.Trod enc Tryd.prog W 0 (fun _ => true) true 47 (.slice o len cap) d ps) (hl : ∀ x ∈ ps, x.block < W.heap.size) : ∃ n c, ReadsAs W (.slice o len cap) n c := by
  obtain ⟨fuel, hf⟩ := h
  rcases open_ints Tryd.underlying47 Tryd.underlying5 u8_cells hf with ⟨hcs, hx⟩ | ⟨a, len', cap', zs, hcs, _, hl', hm, hz, hx, hcell, hwz⟩
  · simp [Value.cells] at hcs
    obtain ⟨rfl, rfl, rfl⟩ := hcs
    exact ⟨0, 3, readsAs_short W none 0 0 (by omega) (by omega)⟩
  · simp [Value.cells] at hcs
    obtain ⟨rfl, rfl, rfl⟩ := hcs
    simp only [Prod.mk.injEq] at hx
    obtain ⟨rfl, rfl⟩ := hx
    simp only [if_true] at hz
    by_cases h32 : len = 32
    · subst h32
      obtain ⟨b, off, spot⟩ := a
      have hspot : spot = none := by simpa [Addr.add] using World.cell?_spot (hcell 0 (by omega))
      subst hspot
      have hb : b < W.heap.size := hl (.cell b off) (MemPlace.mem_row.2 ⟨0, by omega, by simp⟩)
      have hB : ∀ k, ∃ n : Nat, n < 256 ∧ zs.getD k 0 = (n : Int) := fun k => by
        by_cases hk : k < zs.length
        · have h1 := bounds_u8 (hwz (zs[k]) (List.getElem_mem hk))
          refine ⟨(zs[k]).toNat, by omega, ?_⟩
          rw [List.getD_eq_getElem?_getD, List.getElem?_eq_getElem hk]
          show zs[k] = _
          omega
        · exact ⟨0, by omega, by rw [List.getD_eq_getElem?_getD, List.getElem?_eq_none (by omega)]; rfl⟩
      refine ⟨_, _, readsAs_32 W b off cap (fun k => Classical.choose (hB k)) (fun k => (Classical.choose_spec (hB k)).1) hb (fun k hk => ?_)⟩
      rw [← (Classical.choose_spec (hB k)).2, ← Lib.add_plain]
      exact hcell k (by omega)
    · exact ⟨0, 3, readsAs_short W (some a) len cap h32 (by unfold maxLen at hm; omega)⟩

set_option maxRecDepth 100000 in
theorem texts_lifted (os : Os) (started : os.Started) (H : Type) (enc : TypeId × Value → H) :
    ReturnsInHanded {} Tryd.checked os 6 .any (fun w args => (Rows.limbsTextsSpec.pre enc Tryd.prog Tryd.f6 [] false w args ∧ laidMetH Tryd.prog theLaid w) ∧ sizedMet enc Tryd.prog Tryd.f6 (OpenSpec.ofChange Rows.limbsTextsSpec) false w args)
      (Rows.limbsTextsSpec.post enc Tryd.prog Tryd.f6 false true false false) := by
  refine returnsInHanded_of_change_and (C := Tryd.checked) (X := fun w _ => laidMetH Tryd.prog theLaid w) (fun _ _ _ hh h => h.of_heap hh) own started (by kernel_rfl) Tryd.func6
    (ChangeSpec.witness_shaped (enc := enc) (C := Tryd.checked) (os := os) (X := fun w _ => laidMetH Tryd.prog theLaid w) false (World.doorLaid Tryd.prog 400 os) #[.agg #[.int .u64 0, .int .u64 0, .int .u64 0, .int .u64 0], .slice none 0 0, .string ⟨#[]⟩] 8 rfl (World.shaped_of_RefB (by kernel_rfl) (by kernel_rfl)) (by kernel_rfl) (by kernel_rfl) (by kernel_rfl) (door_met os _)) ?_
  intro W base args ds gs before hval0 hW _ _ hL _
  have hval : ∀ (j : Nat) t v, Tryd.f6.params[j]? = some t → args[j]? = some v → Value.okWide Tryd.prog W .any base t v := hval0
  have hW' := hW
  obtain ⟨p, q, hA0, hV, rfl, _, _⟩ := hW
  have hA : DataW.TrodAll enc Tryd.prog W 0 (fun _ => true) true Tryd.f6.params.toList args.toList ds p := hA0
  rw [Tryd.params6] at hA hval
  obtain ⟨v0, v1, v2, d0, d1, d2, p0, p1, p2, rfl, rfl, rfl, h0, h1, h2⟩ := trodAll_three hA
  obtain ⟨rfl, rfl⟩ := trodVars_none hV
  obtain ⟨a0, a1, a2, a3, rfl, ha⟩ := open_word' (P := Tryd.prog) (t := 24) (e := 22) Tryd.underlying24 Tryd.underlying22 word_cells u64_cells hval 0 rfl rfl h0
  obtain ⟨o, len, cap, rfl⟩ := okWide_slice Tryd.underlying47 (hval 1 _ _ rfl rfl)
  obtain ⟨s, rfl, rfl, rfl, hs⟩ := Go.ChangeMaps.open_string Tryd.underlying9 (hval 2 _ _ rfl rfl) h2
  clear hA0 hval0
  simp only [List.append_nil] at hW'
  have l0 : ∀ x ∈ p0, x.block < W.heap.size := fun x hx => hW'.lt x (by simp [hx])
  have l1 : ∀ x ∈ p1, x.block < W.heap.size := fun x hx => hW'.lt x (by simp [hx])
  have l2 : ∀ x ∈ ([] : List MemPlace), x.block < W.heap.size := fun x hx => by cases hx
  obtain ⟨nn, cc, hR⟩ := open_bytes h1 l1
  refine (texts_calls a0 a1 a2 a3 ha o len cap s W nn cc hR hs (tab_of_laid hL)).mono fun e W' ⟨he, hbl⟩ => ?_
  subst he
  have kW : ∀ {v d ps}, DataW.Trod enc Tryd.prog W 0 (fun _ => true) true 24 v d ps → (∀ x ∈ ps, x.block < W.heap.size) → DataW.Trod enc Tryd.prog W' 0 (fun b => decide (b < W.heap.size)) true 24 v d ps :=
    fun h l => Below.trod laidOut (by kernel_rfl) (of_decide_eq_true (by kernel_rfl)) h hbl l
  have kb : ∀ {v d ps}, DataW.Trod enc Tryd.prog W 0 (fun _ => true) true 47 v d ps → (∀ x ∈ ps, x.block < W.heap.size) → DataW.Trod enc Tryd.prog W' 0 (fun b => decide (b < W.heap.size)) true 47 v d ps :=
    fun h l => Below.trod laidOut (by kernel_rfl) (of_decide_eq_true (by kernel_rfl)) h hbl l
  have ks : ∀ {v d ps}, DataW.Trod enc Tryd.prog W 0 (fun _ => true) true 9 v d ps → (∀ x ∈ ps, x.block < W.heap.size) → DataW.Trod enc Tryd.prog W' 0 (fun b => decide (b < W.heap.size)) true 9 v d ps :=
    fun h l => Below.trod laidOut (by kernel_rfl) (of_decide_eq_true (by kernel_rfl)) h hbl l
  exact ⟨_, rfl, ⟨_, _, _, [], _, [], hW', trodAll_mk1 (shut_bool Tryd.underlying4 _), trodAll_mk3 (kW h0 l0) (kb h1 l1) (ks h2 l2), rfl, hbl.frame _, fun h => by cases h⟩⟩

theorem texts_holds : Rows.LimbsTextsSaid :=
  OpenClaim.holds_of_wide 6 Tryd.f6 rfl rfl rfl rfl rfl rfl rfl ⟨rfl, rfl, rfl, rfl, rfl⟩ rfl rfl rfl rfl rfl (by kernel_rfl) Tryd.func6 (by kernel_rfl)
    (of_decide_eq_true (by kernel_rfl)) (by unfold Func.isWrapper; first | (rw [if_pos (by decide +kernel)]; kernel_rfl) | (rw [if_neg (by decide +kernel)]; exact ⟨rfl, rfl⟩))
    (fun os started H enc _ => texts_lifted os started H enc)
#print axioms texts_holds
end Go.Proofs.YtopahcobdfdnlaaDoor
