/-
  THE STATEMENT TranscriptTellsCardSaid: for any bytes the law answers true and its argument reads as it did; the listed table is tied to the program's text by the given tie. Conditions: the row's own.
-/
import Derived.SevenTiedAt
import Derived.Test.YtalcpnkkbimojaaDoorTt05
import Derived.Test.YtalcpnkkbimojaaDoorTie
import Derived.Test.YtalcpnkkbimojaaDoorCards
namespace Go.Proofs.YtalcpnkkbimojaaDoor
open Go

theorem tellsCard_holds : Rows.TranscriptTellsCardSaid :=
  Claim7.holds_tied_plain_at .later [] [.data] true (true, "6ee2cbc87ac128fa1f02f17c5a24b4a10b85863cb5ad9415f06da084b3a89c78") false
    tells_holds (fun _ h => by cases h) (by kernel_rfl) (fun _ h => by cases h) transcriptTells_row_tie rfl ⟨rfl, rfl⟩ (by kernel_rfl) rfl
    (fun f fn hf hfn => by
      obtain rfl : f = 3 := Option.some.inj ((show Tryd.prog.funcNamed "causeway/causewaylaw10.TranscriptTells" = some 3 by kernel_rfl).symm.trans hf) |>.symm
      obtain rfl : fn = Tryd.f3 := (Option.some.inj (Tryd.func3.symm.trans hfn)).symm
      exact ⟨by kernel_rfl, fun j t ht => by
        rw [Tryd.params3] at ht
        have hm : t ∈ [22] := by simpa using Array.mem_of_getElem? ht
        have hall : ([22].all fun u => !Tryd.prog.wantsStandIn u) = true := by kernel_rfl
        exact (show Tryd.prog.wantsStandIn t = false by simpa using List.all_eq_true.1 hall t hm)⟩)
    (by kernel_rfl)
#print axioms tellsCard_holds
end Go.Proofs.YtalcpnkkbimojaaDoor
