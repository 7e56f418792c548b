/-
  The field's root, by Tonelli and Shanks. Conditions: an element that is kept and is not 0, words below 2^64, the constants in a block of memory.
-/
import Derived.Test.YtkkbjemifmekfaaRoot2
import Derived.Test.YtkkbjemifmekfaaShiftR
import Derived.Test.YtkkbjemifmekfaaTill
import Derived.Deep.DeepCutAuto
namespace Go.Proofs.Ytkkbjemifmekfaa
set_option linter.unusedVariables false
set_option linter.unusedSimpArgs false
open Go.RowKit

end Go.Proofs.Ytkkbjemifmekfaa
