/-
  A region that draws its order: where two operations may come up, both ways. Of whatever program. Conditions: as the law says.
-/
import Derived.Test.YtgacpjmggdmgdaaGreatRegion
namespace Go.Proofs.YtgacpjmggdmgdaaGreat
set_option linter.unusedVariables false

theorem till_two {P : Program} {ops : Array Oper} {Q : Exit → Act → World → Prop} {md : Region.Mode} {S : World → Prop} {L : Nat} {i j : Nat} {oi oj : Oper} {m : Nat} {got : Array Bool} {a : Act} {w : World} (hr : Region.ready md ops got = [i, j]) (hoi : ops[i]? = some oi) (hoj : ops[j]? = some oj)
    (h1 : ∀ K : Act → World → Prop, Shut (∀ b u, (i = L ∨ S u) → ((i = L ∨ S u) → anyTill P md ops Q S L m (got.setIfInBounds i true) b u) → K b u) → if Region.wanted oi (yielded ops a.tmps) = true then Oper.wp P oi a w K Q else K (a.put oi.dst undef) w)
    (h2 : ∀ K : Act → World → Prop, Shut (∀ b u, (j = L ∨ S u) → ((j = L ∨ S u) → anyTill P md ops Q S L m (got.setIfInBounds j true) b u) → K b u) → if Region.wanted oj (yielded ops a.tmps) = true then Oper.wp P oj a w K Q else K (a.put oj.dst undef) w) :
    anyTill P md ops Q S L (m + 1) got a w :=
  ⟨fun h0 => (by rw [hr] at h0; cases h0), fun k hk => by
    rw [hr] at hk
    rcases List.mem_cons.1 hk with rfl | hk
    · exact wpOp_step hoi (fun K hK => h1 K (fun b u hS hW => hK b u ⟨hS, hW hS⟩))
    · obtain rfl : k = j := by simpa using hk
      exact wpOp_step hoj (fun K hK => h2 K (fun b u hS hW => hK b u ⟨hS, hW hS⟩))⟩

theorem till_have {P : Program} {ops : Array Oper} {Q : Exit → Act → World → Prop} {md : Region.Mode} {S : World → Prop} {L m : Nat} {got : Array Bool} {a : Act} {w : World} (hS : S w) (h : S w → anyTill P md ops Q S L m got a w) : anyTill P md ops Q S L m got a w := h hS
end Go.Proofs.YtgacpjmggdmgdaaGreat
