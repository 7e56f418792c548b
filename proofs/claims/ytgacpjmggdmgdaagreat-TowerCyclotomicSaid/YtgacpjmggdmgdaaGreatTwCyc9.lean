/-
  The cyclotomic subgroup of Fp12: three equations over Fp4, and the square there. Conditions: none.
  Elements that lie alike are one. Conditions: none.
  The cyclotomic subgroup in a table of calls. Conditions: none.
-/
import Derived.Test.YtgacpjmggdmgdaaGreatTwFr
import Derived.Test.YtgacpjmggdmgdaaGreatTwTab
import Derived.Test.YtgacpjmggdmgdaaGreatTwAll9
namespace Go.Proofs.YtgacpjmggdmgdaaGreat.Ex
set_option linter.unusedVariables false
set_option linter.unusedSimpArgs false
set_option maxRecDepth 10000
theorem cyc_id0 {R : Type} (K : CR R) (c0 c1 c2 c3 c4 c5 q z : R) : (K.add (K.add (K.mul (K.mul K.one c0) c0) (K.mul q (K.add (K.mul (K.mul (K.neg z) c2) c4) (K.mul (K.mul (K.sub z K.one) c4) c2)))) (K.mul (K.add (K.add (K.mul (K.mul (K.sub z K.one) c1) c5) (K.mul (K.mul K.one c3) c3)) (K.mul (K.mul (K.neg z) c5) c1)) q)) = (K.add (K.mul K.one c0) (K.mul K.one (K.sub (K.sub (K.add (K.mul c0 c0) (K.mul q (K.mul c3 c3))) (K.mul (K.add (K.mul c1 c5) (K.mul c4 c2)) q)) c0))) :=
  ring_id K (envL K [c0, c1, c2, c3, c4, c5, q, z]) (.add (.add (.mul (.mul .one (.v 0)) (.v 0)) (.mul (.v 6) (.add (.mul (.mul (.neg (.v 7)) (.v 2)) (.v 4)) (.mul (.mul (.add (.v 7) (.neg .one)) (.v 4)) (.v 2))))) (.mul (.add (.add (.mul (.mul (.add (.v 7) (.neg .one)) (.v 1)) (.v 5)) (.mul (.mul .one (.v 3)) (.v 3))) (.mul (.mul (.neg (.v 7)) (.v 5)) (.v 1))) (.v 6))) (.add (.mul .one (.v 0)) (.mul .one (.add (.add (.add (.mul (.v 0) (.v 0)) (.mul (.v 6) (.mul (.v 3) (.v 3)))) (.neg (.mul (.add (.mul (.v 1) (.v 5)) (.mul (.v 4) (.v 2))) (.v 6)))) (.neg (.v 0))))) (by decide)
theorem cyc_id1 {R : Type} (K : CR R) (c0 c1 c2 c3 c4 c5 q z : R) : (K.add (K.add (K.mul (K.mul K.one c0) c1) (K.mul q (K.add (K.mul (K.mul (K.neg z) c2) c5) (K.mul (K.mul (K.sub z K.one) c4) c3)))) (K.add (K.mul (K.mul (K.sub z K.one) c1) c0) (K.mul q (K.add (K.mul (K.mul K.one c3) c4) (K.mul (K.mul (K.neg z) c5) c2))))) = (K.add (K.mul z c1) (K.mul z (K.sub (K.sub (K.add (K.mul c0 c1) (K.mul q (K.mul c3 c4))) (K.mul (K.add (K.mul c2 c5) (K.mul c5 c2)) q)) c1))) :=
  ring_id K (envL K [c0, c1, c2, c3, c4, c5, q, z]) (.add (.add (.mul (.mul .one (.v 0)) (.v 1)) (.mul (.v 6) (.add (.mul (.mul (.neg (.v 7)) (.v 2)) (.v 5)) (.mul (.mul (.add (.v 7) (.neg .one)) (.v 4)) (.v 3))))) (.add (.mul (.mul (.add (.v 7) (.neg .one)) (.v 1)) (.v 0)) (.mul (.v 6) (.add (.mul (.mul .one (.v 3)) (.v 4)) (.mul (.mul (.neg (.v 7)) (.v 5)) (.v 2)))))) (.add (.mul (.v 7) (.v 1)) (.mul (.v 7) (.add (.add (.add (.mul (.v 0) (.v 1)) (.mul (.v 6) (.mul (.v 3) (.v 4)))) (.neg (.mul (.add (.mul (.v 2) (.v 5)) (.mul (.v 5) (.v 2))) (.v 6)))) (.neg (.v 1))))) (by decide)
theorem cyc_id2 {R : Type} (K : CR R) (c0 c1 c2 c3 c4 c5 q z : R) : (K.add (K.add (K.add (K.mul (K.mul K.one c0) c2) (K.mul (K.mul (K.neg z) c2) c0)) (K.mul q (K.mul (K.mul (K.sub z K.one) c4) c4))) (K.add (K.mul (K.mul (K.sub z K.one) c1) c1) (K.mul q (K.add (K.mul (K.mul K.one c3) c5) (K.mul (K.mul (K.neg z) c5) c3))))) = (K.add (K.mul (K.sub z K.one) c2) (K.mul (K.sub z K.one) (K.sub (K.sub (K.add (K.mul c1 c1) (K.mul q (K.mul c4 c4))) (K.add (K.mul c0 c2) (K.mul q (K.mul c3 c5)))) c2))) :=
  ring_id K (envL K [c0, c1, c2, c3, c4, c5, q, z]) (.add (.add (.add (.mul (.mul .one (.v 0)) (.v 2)) (.mul (.mul (.neg (.v 7)) (.v 2)) (.v 0))) (.mul (.v 6) (.mul (.mul (.add (.v 7) (.neg .one)) (.v 4)) (.v 4)))) (.add (.mul (.mul (.add (.v 7) (.neg .one)) (.v 1)) (.v 1)) (.mul (.v 6) (.add (.mul (.mul .one (.v 3)) (.v 5)) (.mul (.mul (.neg (.v 7)) (.v 5)) (.v 3)))))) (.add (.mul (.add (.v 7) (.neg .one)) (.v 2)) (.mul (.add (.v 7) (.neg .one)) (.add (.add (.add (.mul (.v 1) (.v 1)) (.mul (.v 6) (.mul (.v 4) (.v 4)))) (.neg (.add (.mul (.v 0) (.v 2)) (.mul (.v 6) (.mul (.v 3) (.v 5)))))) (.neg (.v 2))))) (by decide)
theorem cyc_id3 {R : Type} (K : CR R) (c0 c1 c2 c3 c4 c5 q z : R) : (K.add (K.add (K.add (K.mul (K.mul K.one c0) c3) (K.mul (K.mul (K.neg z) c2) c1)) (K.mul q (K.mul (K.mul (K.sub z K.one) c4) c5))) (K.add (K.add (K.mul (K.mul (K.sub z K.one) c1) c2) (K.mul (K.mul K.one c3) c0)) (K.mul q (K.mul (K.mul (K.neg z) c5) c4)))) = (K.add (K.mul (K.neg K.one) c3) (K.mul K.one (K.sub (K.sub (K.add (K.mul c0 c3) (K.mul c3 c0)) (K.add (K.mul c1 c2) (K.mul q (K.mul c4 c5)))) (K.sub K.zero c3)))) :=
  ring_id K (envL K [c0, c1, c2, c3, c4, c5, q, z]) (.add (.add (.add (.mul (.mul .one (.v 0)) (.v 3)) (.mul (.mul (.neg (.v 7)) (.v 2)) (.v 1))) (.mul (.v 6) (.mul (.mul (.add (.v 7) (.neg .one)) (.v 4)) (.v 5)))) (.add (.add (.mul (.mul (.add (.v 7) (.neg .one)) (.v 1)) (.v 2)) (.mul (.mul .one (.v 3)) (.v 0))) (.mul (.v 6) (.mul (.mul (.neg (.v 7)) (.v 5)) (.v 4))))) (.add (.mul (.neg .one) (.v 3)) (.mul .one (.add (.add (.add (.mul (.v 0) (.v 3)) (.mul (.v 3) (.v 0))) (.neg (.add (.mul (.v 1) (.v 2)) (.mul (.v 6) (.mul (.v 4) (.v 5)))))) (.neg (.add .zero (.neg (.v 3))))))) (by decide)
theorem cyc_id4 {R : Type} (K : CR R) (c0 c1 c2 c3 c4 c5 q z : R) : (K.add (K.add (K.add (K.mul (K.mul K.one c0) c4) (K.mul (K.mul (K.neg z) c2) c2)) (K.mul (K.mul (K.sub z K.one) c4) c0)) (K.add (K.add (K.mul (K.mul (K.sub z K.one) c1) c3) (K.mul (K.mul K.one c3) c1)) (K.mul q (K.mul (K.mul (K.neg z) c5) c5)))) = (K.add (K.mul (K.neg z) c4) (K.mul z (K.sub (K.sub (K.add (K.mul c0 c4) (K.mul c3 c1)) (K.add (K.mul c2 c2) (K.mul q (K.mul c5 c5)))) (K.sub K.zero c4)))) :=
  ring_id K (envL K [c0, c1, c2, c3, c4, c5, q, z]) (.add (.add (.add (.mul (.mul .one (.v 0)) (.v 4)) (.mul (.mul (.neg (.v 7)) (.v 2)) (.v 2))) (.mul (.mul (.add (.v 7) (.neg .one)) (.v 4)) (.v 0))) (.add (.add (.mul (.mul (.add (.v 7) (.neg .one)) (.v 1)) (.v 3)) (.mul (.mul .one (.v 3)) (.v 1))) (.mul (.v 6) (.mul (.mul (.neg (.v 7)) (.v 5)) (.v 5))))) (.add (.mul (.neg (.v 7)) (.v 4)) (.mul (.v 7) (.add (.add (.add (.mul (.v 0) (.v 4)) (.mul (.v 3) (.v 1))) (.neg (.add (.mul (.v 2) (.v 2)) (.mul (.v 6) (.mul (.v 5) (.v 5)))))) (.neg (.add .zero (.neg (.v 4))))))) (by decide)
theorem cyc_id5 {R : Type} (K : CR R) (c0 c1 c2 c3 c4 c5 q z : R) : (K.add (K.add (K.add (K.mul (K.mul K.one c0) c5) (K.mul (K.mul (K.neg z) c2) c3)) (K.mul (K.mul (K.sub z K.one) c4) c1)) (K.add (K.add (K.mul (K.mul (K.sub z K.one) c1) c4) (K.mul (K.mul K.one c3) c2)) (K.mul (K.mul (K.neg z) c5) c0))) = (K.add (K.mul (K.sub K.one z) c5) (K.mul (K.sub z K.one) (K.sub (K.sub (K.add (K.mul c1 c4) (K.mul c4 c1)) (K.add (K.mul c0 c5) (K.mul c3 c2))) (K.sub K.zero c5)))) :=
  ring_id K (envL K [c0, c1, c2, c3, c4, c5, q, z]) (.add (.add (.add (.mul (.mul .one (.v 0)) (.v 5)) (.mul (.mul (.neg (.v 7)) (.v 2)) (.v 3))) (.mul (.mul (.add (.v 7) (.neg .one)) (.v 4)) (.v 1))) (.add (.add (.mul (.mul (.add (.v 7) (.neg .one)) (.v 1)) (.v 4)) (.mul (.mul .one (.v 3)) (.v 2))) (.mul (.mul (.neg (.v 7)) (.v 5)) (.v 0)))) (.add (.mul (.add .one (.neg (.v 7))) (.v 5)) (.mul (.add (.v 7) (.neg .one)) (.add (.add (.add (.mul (.v 1) (.v 4)) (.mul (.v 4) (.v 1))) (.neg (.add (.mul (.v 0) (.v 5)) (.mul (.v 3) (.v 2))))) (.neg (.add .zero (.neg (.v 5))))))) (by decide)
theorem sqr_id0 {R : Type} (K : CR R) (c0 c1 c2 c3 c4 c5 q z : R) : (K.add (K.add (K.sub (K.add (K.mul c0 c0) (K.mul q (K.mul c3 c3))) c0) (K.sub (K.add (K.mul c0 c0) (K.mul q (K.mul c3 c3))) c0)) (K.add (K.mul c0 c0) (K.mul q (K.mul c3 c3)))) = (K.add (K.add (K.add (K.mul c0 c0) (K.mul q (K.add (K.mul c2 c4) (K.mul c4 c2)))) (K.mul (K.add (K.add (K.mul c1 c5) (K.mul c3 c3)) (K.mul c5 c1)) q)) (K.add (K.sub (K.sub (K.add (K.mul c0 c0) (K.mul q (K.mul c3 c3))) (K.mul (K.add (K.mul c1 c5) (K.mul c4 c2)) q)) c0) (K.sub (K.sub (K.add (K.mul c0 c0) (K.mul q (K.mul c3 c3))) (K.mul (K.add (K.mul c1 c5) (K.mul c4 c2)) q)) c0))) :=
  ring_id K (envL K [c0, c1, c2, c3, c4, c5, q, z]) (.add (.add (.add (.add (.mul (.v 0) (.v 0)) (.mul (.v 6) (.mul (.v 3) (.v 3)))) (.neg (.v 0))) (.add (.add (.mul (.v 0) (.v 0)) (.mul (.v 6) (.mul (.v 3) (.v 3)))) (.neg (.v 0)))) (.add (.mul (.v 0) (.v 0)) (.mul (.v 6) (.mul (.v 3) (.v 3))))) (.add (.add (.add (.mul (.v 0) (.v 0)) (.mul (.v 6) (.add (.mul (.v 2) (.v 4)) (.mul (.v 4) (.v 2))))) (.mul (.add (.add (.mul (.v 1) (.v 5)) (.mul (.v 3) (.v 3))) (.mul (.v 5) (.v 1))) (.v 6))) (.add (.add (.add (.add (.mul (.v 0) (.v 0)) (.mul (.v 6) (.mul (.v 3) (.v 3)))) (.neg (.mul (.add (.mul (.v 1) (.v 5)) (.mul (.v 4) (.v 2))) (.v 6)))) (.neg (.v 0))) (.add (.add (.add (.mul (.v 0) (.v 0)) (.mul (.v 6) (.mul (.v 3) (.v 3)))) (.neg (.mul (.add (.mul (.v 1) (.v 5)) (.mul (.v 4) (.v 2))) (.v 6)))) (.neg (.v 0))))) (by decide)
theorem sqr_id1 {R : Type} (K : CR R) (c0 c1 c2 c3 c4 c5 q z : R) : (K.add (K.add (K.sub (K.mul (K.add (K.mul c2 c5) (K.mul c5 c2)) q) (K.sub K.zero c1)) (K.sub (K.mul (K.add (K.mul c2 c5) (K.mul c5 c2)) q) (K.sub K.zero c1))) (K.mul (K.add (K.mul c2 c5) (K.mul c5 c2)) q)) = (K.sub (K.add (K.add (K.mul c0 c1) (K.mul q (K.add (K.mul c2 c5) (K.mul c4 c3)))) (K.add (K.mul c1 c0) (K.mul q (K.add (K.mul c3 c4) (K.mul c5 c2))))) (K.add (K.sub (K.sub (K.add (K.mul c0 c1) (K.mul q (K.mul c3 c4))) (K.mul (K.add (K.mul c2 c5) (K.mul c5 c2)) q)) c1) (K.sub (K.sub (K.add (K.mul c0 c1) (K.mul q (K.mul c3 c4))) (K.mul (K.add (K.mul c2 c5) (K.mul c5 c2)) q)) c1))) :=
  ring_id K (envL K [c0, c1, c2, c3, c4, c5, q, z]) (.add (.add (.add (.mul (.add (.mul (.v 2) (.v 5)) (.mul (.v 5) (.v 2))) (.v 6)) (.neg (.add .zero (.neg (.v 1))))) (.add (.mul (.add (.mul (.v 2) (.v 5)) (.mul (.v 5) (.v 2))) (.v 6)) (.neg (.add .zero (.neg (.v 1)))))) (.mul (.add (.mul (.v 2) (.v 5)) (.mul (.v 5) (.v 2))) (.v 6))) (.add (.add (.add (.mul (.v 0) (.v 1)) (.mul (.v 6) (.add (.mul (.v 2) (.v 5)) (.mul (.v 4) (.v 3))))) (.add (.mul (.v 1) (.v 0)) (.mul (.v 6) (.add (.mul (.v 3) (.v 4)) (.mul (.v 5) (.v 2)))))) (.neg (.add (.add (.add (.add (.mul (.v 0) (.v 1)) (.mul (.v 6) (.mul (.v 3) (.v 4)))) (.neg (.mul (.add (.mul (.v 2) (.v 5)) (.mul (.v 5) (.v 2))) (.v 6)))) (.neg (.v 1))) (.add (.add (.add (.mul (.v 0) (.v 1)) (.mul (.v 6) (.mul (.v 3) (.v 4)))) (.neg (.mul (.add (.mul (.v 2) (.v 5)) (.mul (.v 5) (.v 2))) (.v 6)))) (.neg (.v 1)))))) (by decide)
theorem sqr_id2 {R : Type} (K : CR R) (c0 c1 c2 c3 c4 c5 q z : R) : (K.add (K.add (K.sub (K.add (K.mul c1 c1) (K.mul q (K.mul c4 c4))) c2) (K.sub (K.add (K.mul c1 c1) (K.mul q (K.mul c4 c4))) c2)) (K.add (K.mul c1 c1) (K.mul q (K.mul c4 c4)))) = (K.add (K.add (K.add (K.add (K.mul c0 c2) (K.mul c2 c0)) (K.mul q (K.mul c4 c4))) (K.add (K.mul c1 c1) (K.mul q (K.add (K.mul c3 c5) (K.mul c5 c3))))) (K.add (K.sub (K.sub (K.add (K.mul c1 c1) (K.mul q (K.mul c4 c4))) (K.add (K.mul c0 c2) (K.mul q (K.mul c3 c5)))) c2) (K.sub (K.sub (K.add (K.mul c1 c1) (K.mul q (K.mul c4 c4))) (K.add (K.mul c0 c2) (K.mul q (K.mul c3 c5)))) c2))) :=
  ring_id K (envL K [c0, c1, c2, c3, c4, c5, q, z]) (.add (.add (.add (.add (.mul (.v 1) (.v 1)) (.mul (.v 6) (.mul (.v 4) (.v 4)))) (.neg (.v 2))) (.add (.add (.mul (.v 1) (.v 1)) (.mul (.v 6) (.mul (.v 4) (.v 4)))) (.neg (.v 2)))) (.add (.mul (.v 1) (.v 1)) (.mul (.v 6) (.mul (.v 4) (.v 4))))) (.add (.add (.add (.add (.mul (.v 0) (.v 2)) (.mul (.v 2) (.v 0))) (.mul (.v 6) (.mul (.v 4) (.v 4)))) (.add (.mul (.v 1) (.v 1)) (.mul (.v 6) (.add (.mul (.v 3) (.v 5)) (.mul (.v 5) (.v 3)))))) (.add (.add (.add (.add (.mul (.v 1) (.v 1)) (.mul (.v 6) (.mul (.v 4) (.v 4)))) (.neg (.add (.mul (.v 0) (.v 2)) (.mul (.v 6) (.mul (.v 3) (.v 5)))))) (.neg (.v 2))) (.add (.add (.add (.mul (.v 1) (.v 1)) (.mul (.v 6) (.mul (.v 4) (.v 4)))) (.neg (.add (.mul (.v 0) (.v 2)) (.mul (.v 6) (.mul (.v 3) (.v 5)))))) (.neg (.v 2))))) (by decide)
theorem sqr_id3 {R : Type} (K : CR R) (c0 c1 c2 c3 c4 c5 q z : R) : (K.add (K.add (K.sub (K.add (K.mul c0 c3) (K.mul c3 c0)) (K.sub K.zero c3)) (K.sub (K.add (K.mul c0 c3) (K.mul c3 c0)) (K.sub K.zero c3))) (K.add (K.mul c0 c3) (K.mul c3 c0))) = (K.add (K.add (K.add (K.add (K.mul c0 c3) (K.mul c2 c1)) (K.mul q (K.mul c4 c5))) (K.add (K.add (K.mul c1 c2) (K.mul c3 c0)) (K.mul q (K.mul c5 c4)))) (K.add (K.sub (K.sub (K.add (K.mul c0 c3) (K.mul c3 c0)) (K.add (K.mul c1 c2) (K.mul q (K.mul c4 c5)))) (K.sub K.zero c3)) (K.sub (K.sub (K.add (K.mul c0 c3) (K.mul c3 c0)) (K.add (K.mul c1 c2) (K.mul q (K.mul c4 c5)))) (K.sub K.zero c3)))) :=
  ring_id K (envL K [c0, c1, c2, c3, c4, c5, q, z]) (.add (.add (.add (.add (.mul (.v 0) (.v 3)) (.mul (.v 3) (.v 0))) (.neg (.add .zero (.neg (.v 3))))) (.add (.add (.mul (.v 0) (.v 3)) (.mul (.v 3) (.v 0))) (.neg (.add .zero (.neg (.v 3)))))) (.add (.mul (.v 0) (.v 3)) (.mul (.v 3) (.v 0)))) (.add (.add (.add (.add (.mul (.v 0) (.v 3)) (.mul (.v 2) (.v 1))) (.mul (.v 6) (.mul (.v 4) (.v 5)))) (.add (.add (.mul (.v 1) (.v 2)) (.mul (.v 3) (.v 0))) (.mul (.v 6) (.mul (.v 5) (.v 4))))) (.add (.add (.add (.add (.mul (.v 0) (.v 3)) (.mul (.v 3) (.v 0))) (.neg (.add (.mul (.v 1) (.v 2)) (.mul (.v 6) (.mul (.v 4) (.v 5)))))) (.neg (.add .zero (.neg (.v 3))))) (.add (.add (.add (.mul (.v 0) (.v 3)) (.mul (.v 3) (.v 0))) (.neg (.add (.mul (.v 1) (.v 2)) (.mul (.v 6) (.mul (.v 4) (.v 5)))))) (.neg (.add .zero (.neg (.v 3))))))) (by decide)
theorem sqr_id4 {R : Type} (K : CR R) (c0 c1 c2 c3 c4 c5 q z : R) : (K.add (K.add (K.sub (K.add (K.mul c2 c2) (K.mul q (K.mul c5 c5))) (K.sub K.zero (K.sub K.zero c4))) (K.sub (K.add (K.mul c2 c2) (K.mul q (K.mul c5 c5))) (K.sub K.zero (K.sub K.zero c4)))) (K.add (K.mul c2 c2) (K.mul q (K.mul c5 c5)))) = (K.sub (K.add (K.add (K.add (K.mul c0 c4) (K.mul c2 c2)) (K.mul c4 c0)) (K.add (K.add (K.mul c1 c3) (K.mul c3 c1)) (K.mul q (K.mul c5 c5)))) (K.add (K.sub (K.sub (K.add (K.mul c0 c4) (K.mul c3 c1)) (K.add (K.mul c2 c2) (K.mul q (K.mul c5 c5)))) (K.sub K.zero c4)) (K.sub (K.sub (K.add (K.mul c0 c4) (K.mul c3 c1)) (K.add (K.mul c2 c2) (K.mul q (K.mul c5 c5)))) (K.sub K.zero c4)))) :=
  ring_id K (envL K [c0, c1, c2, c3, c4, c5, q, z]) (.add (.add (.add (.add (.mul (.v 2) (.v 2)) (.mul (.v 6) (.mul (.v 5) (.v 5)))) (.neg (.add .zero (.neg (.add .zero (.neg (.v 4))))))) (.add (.add (.mul (.v 2) (.v 2)) (.mul (.v 6) (.mul (.v 5) (.v 5)))) (.neg (.add .zero (.neg (.add .zero (.neg (.v 4)))))))) (.add (.mul (.v 2) (.v 2)) (.mul (.v 6) (.mul (.v 5) (.v 5))))) (.add (.add (.add (.add (.mul (.v 0) (.v 4)) (.mul (.v 2) (.v 2))) (.mul (.v 4) (.v 0))) (.add (.add (.mul (.v 1) (.v 3)) (.mul (.v 3) (.v 1))) (.mul (.v 6) (.mul (.v 5) (.v 5))))) (.neg (.add (.add (.add (.add (.mul (.v 0) (.v 4)) (.mul (.v 3) (.v 1))) (.neg (.add (.mul (.v 2) (.v 2)) (.mul (.v 6) (.mul (.v 5) (.v 5)))))) (.neg (.add .zero (.neg (.v 4))))) (.add (.add (.add (.mul (.v 0) (.v 4)) (.mul (.v 3) (.v 1))) (.neg (.add (.mul (.v 2) (.v 2)) (.mul (.v 6) (.mul (.v 5) (.v 5)))))) (.neg (.add .zero (.neg (.v 4)))))))) (by decide)
theorem sqr_id5 {R : Type} (K : CR R) (c0 c1 c2 c3 c4 c5 q z : R) : (K.add (K.add (K.sub (K.add (K.mul c1 c4) (K.mul c4 c1)) (K.sub K.zero c5)) (K.sub (K.add (K.mul c1 c4) (K.mul c4 c1)) (K.sub K.zero c5))) (K.add (K.mul c1 c4) (K.mul c4 c1))) = (K.add (K.add (K.add (K.add (K.mul c0 c5) (K.mul c2 c3)) (K.mul c4 c1)) (K.add (K.add (K.mul c1 c4) (K.mul c3 c2)) (K.mul c5 c0))) (K.add (K.sub (K.sub (K.add (K.mul c1 c4) (K.mul c4 c1)) (K.add (K.mul c0 c5) (K.mul c3 c2))) (K.sub K.zero c5)) (K.sub (K.sub (K.add (K.mul c1 c4) (K.mul c4 c1)) (K.add (K.mul c0 c5) (K.mul c3 c2))) (K.sub K.zero c5)))) :=
  ring_id K (envL K [c0, c1, c2, c3, c4, c5, q, z]) (.add (.add (.add (.add (.mul (.v 1) (.v 4)) (.mul (.v 4) (.v 1))) (.neg (.add .zero (.neg (.v 5))))) (.add (.add (.mul (.v 1) (.v 4)) (.mul (.v 4) (.v 1))) (.neg (.add .zero (.neg (.v 5)))))) (.add (.mul (.v 1) (.v 4)) (.mul (.v 4) (.v 1)))) (.add (.add (.add (.add (.mul (.v 0) (.v 5)) (.mul (.v 2) (.v 3))) (.mul (.v 4) (.v 1))) (.add (.add (.mul (.v 1) (.v 4)) (.mul (.v 3) (.v 2))) (.mul (.v 5) (.v 0)))) (.add (.add (.add (.add (.mul (.v 1) (.v 4)) (.mul (.v 4) (.v 1))) (.neg (.add (.mul (.v 0) (.v 5)) (.mul (.v 3) (.v 2))))) (.neg (.add .zero (.neg (.v 5))))) (.add (.add (.add (.mul (.v 1) (.v 4)) (.mul (.v 4) (.v 1))) (.neg (.add (.mul (.v 0) (.v 5)) (.mul (.v 3) (.v 2))))) (.neg (.add .zero (.neg (.v 5))))))) (by decide)
/-- a sixth root of one, in Fp2 -/
def zE : Q2 := (sn1, F1.zero)
theorem tt0 (c : Q2) : sc2 (sc2 c sn0) sn0 = F2.mul F2.one c := by
  rw [sc2_mul, sc2_mul, F2.mul_assoc, F2.mul_comm]
  rw [show F2.mul (sn0, F1.zero) (sn0, F1.zero) = F2.one by decide]
theorem tu0 (c : Q2) : sc2 c sn0 = F2.mul F2.one c := by
  rw [sc2_mul, F2.mul_comm]
  rw [show (sn0, F1.zero) = F2.one by decide]
theorem tt1 (c : Q2) : sc2 (sc2 c sn1) sn1 = F2.mul (F2.sub zE F2.one) c := by
  rw [sc2_mul, sc2_mul, F2.mul_assoc, F2.mul_comm]
  rw [show F2.mul (sn1, F1.zero) (sn1, F1.zero) = (F2.sub zE F2.one) by decide]
theorem tu1 (c : Q2) : sc2 c sn1 = F2.mul zE c := by
  rw [sc2_mul, F2.mul_comm]
  rw [show (sn1, F1.zero) = zE by decide]
theorem tt2 (c : Q2) : sc2 (sc2 c sn2) sn2 = F2.mul (F2.neg zE) c := by
  rw [sc2_mul, sc2_mul, F2.mul_assoc, F2.mul_comm]
  rw [show F2.mul (sn2, F1.zero) (sn2, F1.zero) = (F2.neg zE) by decide]
theorem tu2 (c : Q2) : sc2 c sn2 = F2.mul (F2.sub zE F2.one) c := by
  rw [sc2_mul, F2.mul_comm]
  rw [show (sn2, F1.zero) = (F2.sub zE F2.one) by decide]
theorem tt3 (c : Q2) : sc2 (sc2 c sn3) sn3 = F2.mul F2.one c := by
  rw [sc2_mul, sc2_mul, F2.mul_assoc, F2.mul_comm]
  rw [show F2.mul (sn3, F1.zero) (sn3, F1.zero) = F2.one by decide]
theorem tu3 (c : Q2) : sc2 c sn3 = F2.mul (F2.neg F2.one) c := by
  rw [sc2_mul, F2.mul_comm]
  rw [show (sn3, F1.zero) = (F2.neg F2.one) by decide]
theorem tt4 (c : Q2) : sc2 (sc2 c sn4) sn4 = F2.mul (F2.sub zE F2.one) c := by
  rw [sc2_mul, sc2_mul, F2.mul_assoc, F2.mul_comm]
  rw [show F2.mul (sn4, F1.zero) (sn4, F1.zero) = (F2.sub zE F2.one) by decide]
theorem tu4 (c : Q2) : sc2 c sn4 = F2.mul (F2.neg zE) c := by
  rw [sc2_mul, F2.mul_comm]
  rw [show (sn4, F1.zero) = (F2.neg zE) by decide]
theorem tt5 (c : Q2) : sc2 (sc2 c sn5) sn5 = F2.mul (F2.neg zE) c := by
  rw [sc2_mul, sc2_mul, F2.mul_assoc, F2.mul_comm]
  rw [show F2.mul (sn5, F1.zero) (sn5, F1.zero) = (F2.neg zE) by decide]
theorem tu5 (c : Q2) : sc2 c sn5 = F2.mul (F2.sub F2.one zE) c := by
  rw [sc2_mul, F2.mul_comm]
  rw [show (sn5, F1.zero) = (F2.sub F2.one zE) by decide]
theorem sub_zero_of {R : Type} (K : CR R) {a b : R} (h : K.sub a b = K.zero) : a = b := by
  have h1 : K.add (K.add a (K.neg b)) b = b := by
    rw [show K.add a (K.neg b) = K.zero from h, K.zero_add]
  rw [K.add_assoc, K.neg_add, K.add_zero] at h1
  exact h1
theorem sub_self' {R : Type} (K : CR R) (a : R) : K.sub a a = K.zero := K.add_neg a
theorem iff_id {R : Type} (K : CR R) {L R' Z Zi A B : R} (h : L = K.add R' (K.mul Z (K.sub A B))) (hz : K.mul Zi Z = K.one) : L = R' ↔ A = B := by
  constructor
  · intro e
    rw [e] at h
    have h1 : K.mul Z (K.sub A B) = K.zero := by
      have h2 : K.add R' (K.mul Z (K.sub A B)) = K.add R' K.zero := by rw [← h, K.add_zero]
      exact K.add_cancel h2
    have h3 : K.sub A B = K.zero := by
      rw [← K.one_mul (K.sub A B), ← hz, K.mul_assoc, h1, K.mul_zero]
    exact sub_zero_of K h3
  · intro e
    rw [h, e, sub_self', K.mul_zero, K.add_zero]
/-- elements of Fp4: what stands before 1 and s -/
abbrev Q4 := Q2 × Q2
def F4 : CR Q4 := F2.sq xiE
def s4 (a : Q4) : Q4 := (F2.mul a.2 xiE, a.1)
def cj4 (a : Q4) : Q4 := (a.1, F2.sub F2.zero a.2)
def tri4 (a b : Q4) : Q4 := (F2.add (F2.add (F2.sub a.1 b.1) (F2.sub a.1 b.1)) a.1, F2.add (F2.add (F2.sub a.2 b.2) (F2.sub a.2 b.2)) a.2)
def fX (x : Q12) : Q4 := (x.1.1, x.2.2.1)
def fY (x : Q12) : Q4 := (x.2.1, x.1.2.2)
def fZ (x : Q12) : Q4 := (x.1.2.1, x.2.2.2)
def join4 (x y z : Q4) : Q12 := ((x.1, z.1, y.2), (y.1, x.2, z.2))
/-- the three equations -/
def inE1 (x : Q12) : Prop := F4.sub (F4.mul (fX x) (fX x)) (s4 (F4.mul (fY x) (fZ x))) = cj4 (fX x)
def inE2 (x : Q12) : Prop := F4.sub (F4.mul (fX x) (fY x)) (s4 (F4.mul (fZ x) (fZ x))) = cj4 (fY x)
def inE3 (x : Q12) : Prop := F4.sub (F4.mul (fY x) (fY x)) (F4.mul (fX x) (fZ x)) = cj4 (fZ x)
def sqr4 (x : Q12) : Q12 := join4 (tri4 (F4.mul (fX x) (fX x)) (cj4 (fX x))) (tri4 (s4 (F4.mul (fZ x) (fZ x))) (F4.sub F4.zero (cj4 (fY x)))) (tri4 (F4.mul (fY x) (fY x)) (cj4 (fZ x)))
theorem mul12_c (x y : Q12) : F12.mul x y = (((F2.add (F2.add (F2.mul x.1.1 y.1.1) (F2.mul xiE (F2.add (F2.mul x.1.2.1 y.1.2.2) (F2.mul x.1.2.2 y.1.2.1)))) (F2.mul (F2.add (F2.add (F2.mul x.2.1 y.2.2.2) (F2.mul x.2.2.1 y.2.2.1)) (F2.mul x.2.2.2 y.2.1)) xiE)), (F2.add (F2.add (F2.add (F2.mul x.1.1 y.1.2.1) (F2.mul x.1.2.1 y.1.1)) (F2.mul xiE (F2.mul x.1.2.2 y.1.2.2))) (F2.add (F2.mul x.2.1 y.2.1) (F2.mul xiE (F2.add (F2.mul x.2.2.1 y.2.2.2) (F2.mul x.2.2.2 y.2.2.1))))), (F2.add (F2.add (F2.add (F2.mul x.1.1 y.1.2.2) (F2.mul x.1.2.1 y.1.2.1)) (F2.mul x.1.2.2 y.1.1)) (F2.add (F2.add (F2.mul x.2.1 y.2.2.1) (F2.mul x.2.2.1 y.2.1)) (F2.mul xiE (F2.mul x.2.2.2 y.2.2.2))))), ((F2.add (F2.add (F2.mul x.1.1 y.2.1) (F2.mul xiE (F2.add (F2.mul x.1.2.1 y.2.2.2) (F2.mul x.1.2.2 y.2.2.1)))) (F2.add (F2.mul x.2.1 y.1.1) (F2.mul xiE (F2.add (F2.mul x.2.2.1 y.1.2.2) (F2.mul x.2.2.2 y.1.2.1))))), (F2.add (F2.add (F2.add (F2.mul x.1.1 y.2.2.1) (F2.mul x.1.2.1 y.2.1)) (F2.mul xiE (F2.mul x.1.2.2 y.2.2.2))) (F2.add (F2.add (F2.mul x.2.1 y.1.2.1) (F2.mul x.2.2.1 y.1.1)) (F2.mul xiE (F2.mul x.2.2.2 y.1.2.2)))), (F2.add (F2.add (F2.add (F2.mul x.1.1 y.2.2.2) (F2.mul x.1.2.1 y.2.2.1)) (F2.mul x.1.2.2 y.2.1)) (F2.add (F2.add (F2.mul x.2.1 y.1.2.2) (F2.mul x.2.2.1 y.1.2.1)) (F2.mul x.2.2.2 y.1.1))))) := by
  refine Prod.ext ?_ rfl
  show F6.add (F6.mul x.1 y.1) (F6.mul vE (F6.mul x.2 y.2)) = _
  rw [raw_t6v]
  rfl
theorem tt_c (x : Q12) : F12.mul (tw12 (tw12 x)) x = (((F2.add (F2.add (F2.mul (F2.mul F2.one x.1.1) x.1.1) (F2.mul xiE (F2.add (F2.mul (F2.mul (F2.neg zE) x.1.2.1) x.1.2.2) (F2.mul (F2.mul (F2.sub zE F2.one) x.1.2.2) x.1.2.1)))) (F2.mul (F2.add (F2.add (F2.mul (F2.mul (F2.sub zE F2.one) x.2.1) x.2.2.2) (F2.mul (F2.mul F2.one x.2.2.1) x.2.2.1)) (F2.mul (F2.mul (F2.neg zE) x.2.2.2) x.2.1)) xiE)), (F2.add (F2.add (F2.add (F2.mul (F2.mul F2.one x.1.1) x.1.2.1) (F2.mul (F2.mul (F2.neg zE) x.1.2.1) x.1.1)) (F2.mul xiE (F2.mul (F2.mul (F2.sub zE F2.one) x.1.2.2) x.1.2.2))) (F2.add (F2.mul (F2.mul (F2.sub zE F2.one) x.2.1) x.2.1) (F2.mul xiE (F2.add (F2.mul (F2.mul F2.one x.2.2.1) x.2.2.2) (F2.mul (F2.mul (F2.neg zE) x.2.2.2) x.2.2.1))))), (F2.add (F2.add (F2.add (F2.mul (F2.mul F2.one x.1.1) x.1.2.2) (F2.mul (F2.mul (F2.neg zE) x.1.2.1) x.1.2.1)) (F2.mul (F2.mul (F2.sub zE F2.one) x.1.2.2) x.1.1)) (F2.add (F2.add (F2.mul (F2.mul (F2.sub zE F2.one) x.2.1) x.2.2.1) (F2.mul (F2.mul F2.one x.2.2.1) x.2.1)) (F2.mul xiE (F2.mul (F2.mul (F2.neg zE) x.2.2.2) x.2.2.2))))), ((F2.add (F2.add (F2.mul (F2.mul F2.one x.1.1) x.2.1) (F2.mul xiE (F2.add (F2.mul (F2.mul (F2.neg zE) x.1.2.1) x.2.2.2) (F2.mul (F2.mul (F2.sub zE F2.one) x.1.2.2) x.2.2.1)))) (F2.add (F2.mul (F2.mul (F2.sub zE F2.one) x.2.1) x.1.1) (F2.mul xiE (F2.add (F2.mul (F2.mul F2.one x.2.2.1) x.1.2.2) (F2.mul (F2.mul (F2.neg zE) x.2.2.2) x.1.2.1))))), (F2.add (F2.add (F2.add (F2.mul (F2.mul F2.one x.1.1) x.2.2.1) (F2.mul (F2.mul (F2.neg zE) x.1.2.1) x.2.1)) (F2.mul xiE (F2.mul (F2.mul (F2.sub zE F2.one) x.1.2.2) x.2.2.2))) (F2.add (F2.add (F2.mul (F2.mul (F2.sub zE F2.one) x.2.1) x.1.2.1) (F2.mul (F2.mul F2.one x.2.2.1) x.1.1)) (F2.mul xiE (F2.mul (F2.mul (F2.neg zE) x.2.2.2) x.1.2.2)))), (F2.add (F2.add (F2.add (F2.mul (F2.mul F2.one x.1.1) x.2.2.2) (F2.mul (F2.mul (F2.neg zE) x.1.2.1) x.2.2.1)) (F2.mul (F2.mul (F2.sub zE F2.one) x.1.2.2) x.2.1)) (F2.add (F2.add (F2.mul (F2.mul (F2.sub zE F2.one) x.2.1) x.1.2.2) (F2.mul (F2.mul F2.one x.2.2.1) x.1.2.1)) (F2.mul (F2.mul (F2.neg zE) x.2.2.2) x.1.1))))) := by
  rw [show tw12 (tw12 x) = ((F2.mul F2.one x.1.1, F2.mul (F2.neg zE) x.1.2.1, F2.mul (F2.sub zE F2.one) x.1.2.2), (F2.mul (F2.sub zE F2.one) x.2.1, F2.mul F2.one x.2.2.1, F2.mul (F2.neg zE) x.2.2.2)) from Prod.ext (Prod.ext (tt0 _) (Prod.ext (tt2 _) (tt4 _))) (Prod.ext (tt1 _) (Prod.ext (tt3 _) (tt5 _)))]
  exact mul12_c _ _
theorem tu_c (x : Q12) : tw12 x = (((F2.mul F2.one x.1.1), (F2.mul (F2.sub zE F2.one) x.1.2.1), (F2.mul (F2.neg zE) x.1.2.2)), ((F2.mul zE x.2.1), (F2.mul (F2.neg F2.one) x.2.2.1), (F2.mul (F2.sub F2.one zE) x.2.2.2))) := Prod.ext (Prod.ext (tu0 _) (Prod.ext (tu2 _) (tu4 _))) (Prod.ext (tu1 _) (Prod.ext (tu3 _) (tu5 _)))
theorem q12_iff {a0 a1 a2 a3 a4 a5 b0 b1 b2 b3 b4 b5 : Q2} : (((a0, a2, a4), (a1, a3, a5)) : Q12) = ((b0, b2, b4), (b1, b3, b5)) ↔ ((a0 = b0 ∧ a3 = b3) ∧ (a1 = b1 ∧ a4 = b4) ∧ (a2 = b2 ∧ a5 = b5)) := by
  simp only [Prod.mk.injEq]
  constructor
  · rintro ⟨⟨h0, h2, h4⟩, h1, h3, h5⟩
    exact ⟨⟨h0, h3⟩, ⟨h1, h4⟩, h2, h5⟩
  · rintro ⟨⟨h0, h3⟩, ⟨h1, h4⟩, h2, h5⟩
    exact ⟨⟨h0, h2, h4⟩, h1, h3, h5⟩
theorem q4_iff {a b : Q4} : a = b ↔ (a.1 = b.1 ∧ a.2 = b.2) := ⟨fun h => by rw [h]; exact ⟨rfl, rfl⟩, fun h => Prod.ext h.1 h.2⟩
/-- a^(p^4) a is a^(p^2) just if the three equations hold -/
theorem cyc_iff (x : Q12) : F12.mul (tw12 (tw12 x)) x = tw12 x ↔ (inE1 x ∧ inE2 x ∧ inE3 x) := by
  rw [tt_c, tu_c, q12_iff]
  unfold inE1 inE2 inE3
  rw [q4_iff, q4_iff, q4_iff]
  have e0 := iff_id F2 (cyc_id0 F2 x.1.1 x.2.1 x.1.2.1 x.2.2.1 x.1.2.2 x.2.2.2 xiE zE) (show F2.mul F2.one F2.one = F2.one by decide)
  have e1 := iff_id F2 (cyc_id1 F2 x.1.1 x.2.1 x.1.2.1 x.2.2.1 x.1.2.2 x.2.2.2 xiE zE) (show F2.mul (F2.sub F2.one zE) zE = F2.one by decide)
  have e2 := iff_id F2 (cyc_id2 F2 x.1.1 x.2.1 x.1.2.1 x.2.2.1 x.1.2.2 x.2.2.2 xiE zE) (show F2.mul (F2.neg zE) (F2.sub zE F2.one) = F2.one by decide)
  have e3 := iff_id F2 (cyc_id3 F2 x.1.1 x.2.1 x.1.2.1 x.2.2.1 x.1.2.2 x.2.2.2 xiE zE) (show F2.mul F2.one F2.one = F2.one by decide)
  have e4 := iff_id F2 (cyc_id4 F2 x.1.1 x.2.1 x.1.2.1 x.2.2.1 x.1.2.2 x.2.2.2 xiE zE) (show F2.mul (F2.sub F2.one zE) zE = F2.one by decide)
  have e5 := iff_id F2 (cyc_id5 F2 x.1.1 x.2.1 x.1.2.1 x.2.2.1 x.1.2.2 x.2.2.2 xiE zE) (show F2.mul (F2.neg zE) (F2.sub zE F2.one) = F2.one by decide)
  constructor
  · rintro ⟨⟨h0, h3⟩, ⟨h1, h4⟩, h2, h5⟩
    exact ⟨⟨e0.1 h0, e3.1 h3⟩, ⟨e1.1 h1, e4.1 h4⟩, ⟨e2.1 h2, e5.1 h5⟩⟩
  · rintro ⟨⟨h0, h3⟩, ⟨h1, h4⟩, ⟨h2, h5⟩⟩
    exact ⟨⟨e0.2 h0, e3.2 h3⟩, ⟨e1.2 h1, e4.2 h4⟩, ⟨e2.2 h2, e5.2 h5⟩⟩
theorem add_dd {R : Type} (K : CR R) {t s a b : R} (h : t = K.add s (K.add (K.sub a b) (K.sub a b))) (e : a = b) : t = s := by
  rw [h, e, sub_self', K.add_zero, K.add_zero]
theorem sub_dd {R : Type} (K : CR R) {t s a b : R} (h : t = K.sub s (K.add (K.sub a b) (K.sub a b))) (e : a = b) : t = s := by
  rw [h, e, sub_self', K.add_zero]
  show K.add s (K.neg K.zero) = s
  rw [neg_zero, K.add_zero]
/-- there the square is as Granger and Scott say -/
theorem sqr_eq (x : Q12) (h : inE1 x ∧ inE2 x ∧ inE3 x) : sqr4 x = F12.mul x x := by
  unfold inE1 inE2 inE3 at h
  rw [q4_iff, q4_iff, q4_iff] at h
  obtain ⟨⟨h0, h3⟩, ⟨h1, h4⟩, h2, h5⟩ := h
  rw [mul12_c]
  have hz : F12.zero = F12.zero := rfl
  refine q12_iff.2 ⟨⟨?_, ?_⟩, ⟨?_, ?_⟩, ?_, ?_⟩
  · exact add_dd F2 (sqr_id0 F2 x.1.1 x.2.1 x.1.2.1 x.2.2.1 x.1.2.2 x.2.2.2 xiE zE) h0
  · exact add_dd F2 (sqr_id3 F2 x.1.1 x.2.1 x.1.2.1 x.2.2.1 x.1.2.2 x.2.2.2 xiE zE) h3
  · exact sub_dd F2 (sqr_id1 F2 x.1.1 x.2.1 x.1.2.1 x.2.2.1 x.1.2.2 x.2.2.2 xiE zE) h1
  · exact sub_dd F2 (sqr_id4 F2 x.1.1 x.2.1 x.1.2.1 x.2.2.1 x.1.2.2 x.2.2.2 xiE zE) h4
  · exact add_dd F2 (sqr_id2 F2 x.1.1 x.2.1 x.1.2.1 x.2.2.1 x.1.2.2 x.2.2.2 xiE zE) h2
  · exact add_dd F2 (sqr_id5 F2 x.1.1 x.2.1 x.1.2.1 x.2.2.1 x.1.2.2 x.2.2.2 xiE zE) h5
theorem tw_zero (x : Q12) (h : tw12 x = F12.zero) : x = F12.zero := by
  have h0 : tw12 F12.zero = F12.zero := by decide
  have h6 : tw12 (tw12 (tw12 (tw12 (tw12 (tw12 x))))) = x := by
    rw [tw_three, tw_three]
    refine Prod.ext rfl ?_
    show F6.add F6.zero (F6.neg (F6.add F6.zero (F6.neg x.2))) = x.2
    rw [F6.zero_add, F6.zero_add, F6.neg_neg]
  rw [h, h0, h0, h0, h0, h0] at h6
  exact h6.symm
/-- there the conjugate is the inverse -/
theorem cyc_unit (x : Q12) (hx : x ≠ F12.zero) (h : F12.mul (tw12 (tw12 x)) x = tw12 x) : F12.mul (cj12 x) x = F12.one := by
  have h1 : F12.mul (tw12 (tw12 (tw12 x))) (tw12 x) = tw12 (tw12 x) := by rw [← tw12_mul, h]
  rw [tw_three] at h1
  have h2 : F12.mul (F12.mul (cj12 x) x) (tw12 x) = F12.mul F12.one (tw12 x) := by
    rw [F12.one_mul, F12.mul_assoc, F12.mul_comm x, ← F12.mul_assoc, h1, h]
  obtain ⟨k, hk⟩ := fld12.2 (tw12 x) fun e => hx (tw_zero x e)
  have h3 := congrArg (fun t => F12.mul t k) h2
  simp only [F12.mul_assoc, hk, F12.mul_one] at h3
  exact h3
/-- is it in the cyclotomic subgroup? -/
def inC (x : Q12) : Prop := x ≠ F12.zero ∧ F12.mul (tw12 (tw12 x)) x = tw12 x
end Go.Proofs.YtgacpjmggdmgdaaGreat.Ex
namespace Go.Proofs.YtgacpjmggdmgdaaGreat.Ex
set_option linter.unusedVariables false
set_option linter.unusedSimpArgs false
open Go.RowKit
theorem w4_inj {x y : Fq} (h : w4 x.1 = w4 y.1) : x = y := by
  unfold w4 at h
  simp only [List.cons.injEq, Value.int.injEq, true_and, and_true, Int.ofNat_inj] at h
  apply Fin.ext
  rw [← fw_valp x.2, ← fw_valp y.2, h.1, h.2.1, h.2.2.1, h.2.2.2]
theorem flat_inj : ∀ (l m : List Fq), flat (l.map .f) = flat (m.map .f) → l = m
  | [], [], _ => rfl
  | a :: r, b :: s, h => by
    have h' : w4 a.1 ++ flat (r.map .f) = w4 b.1 ++ flat (s.map .f) := h
    obtain ⟨h1, h2⟩ := List.append_inj h' rfl
    rw [w4_inj h1, flat_inj r s h2]
  | [], b :: s, h => by cases h
  | a :: r, [], h => by cases h
theorem e1_inj {a b : Fq} (h : flat [.f a] = flat [.f b]) : a = b := w4_inj (by
  have h' : w4 a.1 ++ [] = w4 b.1 ++ [] := h
  rwa [List.append_nil, List.append_nil] at h')
theorem e2_inj {a b : Q2} (h : flat (e2 a) = flat (e2 b)) : a = b := by
  have := flat_inj [a.1, a.2] [b.1, b.2] h
  simp only [List.cons.injEq, and_true] at this
  exact Prod.ext this.1 this.2
end Go.Proofs.YtgacpjmggdmgdaaGreat.Ex
namespace Go.Proofs.YtgacpjmggdmgdaaGreat.Ex
set_option linter.unusedVariables false
set_option linter.unusedSimpArgs false
open Go.RowKit

def e4 (x : Q4) : List At := [.f x.1.1, .f x.1.2, .f x.2.1, .f x.2.2]
def rd4 : List At → Option Q4 | [.f a, .f b, .f c, .f d] => some ((a, b), (c, d)) | _ => none
theorem rd4_ok : Rd rd4 e4 := fun l x h => by unfold rd4 at h; split at h <;> cases h; rfl
def g3 {α γ δ : Type} (rd : List At → Option α) (rd' : List At → Option γ) (rd'' : List At → Option δ) (op : α → γ → δ → List Prop × RV) : Ent
  | [.v (.fl l), .v (.fl m), .v (.fl n)] => match rd l, rd' m, rd'' n with | some x, some y, some z => some (op x y z) | _, _, _ => none
  | _ => none
theorem g3_ok {P : Program} {f : FuncId} {α γ δ : Type} {rd : List At → Option α} {en : α → List At} {rd' : List At → Option γ} {en' : γ → List At} {rd'' : List At → Option δ} {en'' : δ → List At} (hr : Rd rd en) (hr' : Rd rd' en') (hr'' : Rd rd'' en'') {op : α → γ → δ → List Prop × RV}
    (h : ∀ x y z, allP (op x y z).1 → ∀ args w, CAs w [.v (.fl (en x)), .v (.fl (en' y)), .v (.fl (en'' z))] args → Good P f (op x y z).2 args w) :
    ∀ cs pre r, g3 rd rd' rd'' op cs = some (pre, r) → allP pre → ∀ (args : List Value) (w : World), CAs w cs args → Good P f r args w := by
  intro cs pre r hg hp args w ha
  unfold g3 at hg
  split at hg
  · rename_i l m n
    split at hg
    · rename_i x y z hx hy hz
      have e : op x y z = (pre, r) := by simpa using hg
      have := h x y z (by rw [e]; exact hp) args w (by
        match args, ha with
        | [v, u, s], ha =>
          refine ⟨?_, ?_, ?_, trivial⟩
          · show v = .agg (flat (en x)).toArray
            rw [← hr l x hx]
            exact ha.1
          · show u = .agg (flat (en' y)).toArray
            rw [← hr' m y hy]
            exact ha.2.1
          · show s = .agg (flat (en'' z)).toArray
            rw [← hr'' n z hz]
            exact ha.2.2.1
        | [], ha => exact ha.elim
        | [_], ha => exact ha.2.elim
        | [_, _], ha => exact ha.2.2.elim
        | _ :: _ :: _ :: _ :: _, ha => exact ha.2.2.2.elim)
      rw [e] at this
      exact this
    · cases hg
  · cases hg
theorem e4_inj {a b : Q4} (h : flat (e4 a) = flat (e4 b)) : a = b := by
  have := flat_inj [a.1.1, a.1.2, a.2.1, a.2.2] [b.1.1, b.1.2, b.2.1, b.2.2] h
  simp only [List.cons.injEq, and_true] at this
  exact Prod.ext (Prod.ext this.1 this.2.1) (Prod.ext this.2.2.1 this.2.2.2)
theorem e12_inj {a b : Q12} (h : flat (e12 a) = flat (e12 b)) : a = b := by
  have := flat_inj [a.1.1.1, a.1.1.2, a.1.2.1.1, a.1.2.1.2, a.1.2.2.1, a.1.2.2.2, a.2.1.1, a.2.1.2, a.2.2.1.1, a.2.2.1.2, a.2.2.2.1, a.2.2.2.2] [b.1.1.1, b.1.1.2, b.1.2.1.1, b.1.2.1.2, b.1.2.2.1, b.1.2.2.2, b.2.1.1, b.2.1.2, b.2.2.1.1, b.2.2.1.2, b.2.2.2.1, b.2.2.2.2] h
  simp only [List.cons.injEq, and_true] at this
  obtain ⟨h0, h1, h2, h3, h4, h5, h6, h7, h8, h9, h10, h11⟩ := this
  exact Prod.ext (Prod.ext (Prod.ext h0 h1) (Prod.ext (Prod.ext h2 h3) (Prod.ext h4 h5))) (Prod.ext (Prod.ext h6 h7) (Prod.ext (Prod.ext h8 h9) (Prod.ext h10 h11)))

set_option maxRecDepth 100000 in
theorem run_fours (c : Bool) (x : Q12) : funA Tryz.prog (T_rFrob12 c) qN (fun _ => true) Tryz.f119 60 [.v (.fl (e12 x))] = some ([], .many [.fl (e4 (fX x)), .fl (e4 (fY x)), .fl (e4 (fZ x))]) := by kernel_rfl
noncomputable def T_fours (c : Bool) : Tab := (T_rFrob12 c).add 119 (g1 rd12 fun x => ([], .many [.fl (e4 (fX x)), .fl (e4 (fY x)), .fl (e4 (fZ x))]))
theorem ok_fours (c : Bool) : TabOk Tryz.prog (T_fours c) := (ok_rFrob12 c).add Tryz.func119 (by kernel_rfl) (by kernel_rfl) (g1_ok rd12_ok fun x hp args w ha => fun_sound hmix (ok_rFrob12 c) qN_ok Tryz.func119 (run_fours c x) hp ha)
set_option maxRecDepth 100000 in
theorem run_f4times (c : Bool) (x : Q4) (y : Q4) : funA Tryz.prog (T_fours c) qN (fun _ => true) Tryz.f120 60 [.v (.fl (e4 x)), .v (.fl (e4 y))] = some ([], .one (.fl (e4 ((F2.add (F2.mul x.1 y.1) (F2.mul x.2 (F2.mul y.2 xiE)), F2.add (F2.mul x.1 y.2) (F2.mul x.2 y.1)))))) := by kernel_rfl
theorem raw_f4times (x : Q4) (y : Q4) : F4.mul x y = (F2.add (F2.mul x.1 y.1) (F2.mul x.2 (F2.mul y.2 xiE)), F2.add (F2.mul x.1 y.2) (F2.mul x.2 y.1)) := by
  refine Prod.ext ?_ rfl
  exact ring_id F2 (envL F2 [x.1, x.2, y.1, y.2, xiE]) (.add (.mul (.v 0) (.v 2)) (.mul (.v 4) (.mul (.v 1) (.v 3)))) (.add (.mul (.v 0) (.v 2)) (.mul (.v 1) (.mul (.v 3) (.v 4)))) (by decide)
noncomputable def T_f4times (c : Bool) : Tab := (T_fours c).add 120 (g2 rd4 rd4 fun x y => ([], .one (.fl (e4 (F4.mul x y)))))
theorem ok_f4times (c : Bool) : TabOk Tryz.prog (T_f4times c) := (ok_fours c).add Tryz.func120 (by kernel_rfl) (by kernel_rfl) (g2_ok rd4_ok rd4_ok fun x y hp args w ha => by show Good _ _ (.one (.fl (e4 (F4.mul x y)))) _ _; rw [raw_f4times]; exact fun_sound hmix (ok_fours c) qN_ok Tryz.func120 (run_f4times c x y) hp ha)
set_option maxRecDepth 100000 in
theorem run_f4s (c : Bool) (x : Q4) : funA Tryz.prog (T_f4times c) qN (fun _ => true) Tryz.f121 60 [.v (.fl (e4 x))] = some ([], .one (.fl (e4 (s4 x)))) := by kernel_rfl
noncomputable def T_f4s (c : Bool) : Tab := (T_f4times c).add 121 (g1 rd4 fun x => ([], .one (.fl (e4 (s4 x)))))
theorem ok_f4s (c : Bool) : TabOk Tryz.prog (T_f4s c) := (ok_f4times c).add Tryz.func121 (by kernel_rfl) (by kernel_rfl) (g1_ok rd4_ok fun x hp args w ha => fun_sound hmix (ok_f4times c) qN_ok Tryz.func121 (run_f4s c x) hp ha)
set_option maxRecDepth 100000 in
theorem run_f4minus (c : Bool) (x : Q4) (y : Q4) : funA Tryz.prog (T_f4s c) qN (fun _ => true) Tryz.f122 60 [.v (.fl (e4 x)), .v (.fl (e4 y))] = some ([], .one (.fl (e4 (F4.sub x y)))) := by kernel_rfl
noncomputable def T_f4minus (c : Bool) : Tab := (T_f4s c).add 122 (g2 rd4 rd4 fun x y => ([], .one (.fl (e4 (F4.sub x y)))))
theorem ok_f4minus (c : Bool) : TabOk Tryz.prog (T_f4minus c) := (ok_f4s c).add Tryz.func122 (by kernel_rfl) (by kernel_rfl) (g2_ok rd4_ok rd4_ok fun x y hp args w ha => fun_sound hmix (ok_f4s c) qN_ok Tryz.func122 (run_f4minus c x y) hp ha)
set_option maxRecDepth 100000 in
theorem run_f4conj (c : Bool) (x : Q4) : funA Tryz.prog (T_f4minus c) qN (fun _ => true) Tryz.f123 60 [.v (.fl (e4 x))] = some ([], .one (.fl (e4 (cj4 x)))) := by kernel_rfl
noncomputable def T_f4conj (c : Bool) : Tab := (T_f4minus c).add 123 (g1 rd4 fun x => ([], .one (.fl (e4 (cj4 x)))))
theorem ok_f4conj (c : Bool) : TabOk Tryz.prog (T_f4conj c) := (ok_f4minus c).add Tryz.func123 (by kernel_rfl) (by kernel_rfl) (g1_ok rd4_ok fun x hp args w ha => fun_sound hmix (ok_f4minus c) qN_ok Tryz.func123 (run_f4conj c x) hp ha)
set_option maxRecDepth 100000 in
theorem run_f4thrice (c : Bool) (x : Q4) (y : Q4) : funA Tryz.prog (T_f4conj c) qN (fun _ => true) Tryz.f125 60 [.v (.fl (e4 x)), .v (.fl (e4 y))] = some ([], .one (.fl (e4 (tri4 x y)))) := by kernel_rfl
noncomputable def T_f4thrice (c : Bool) : Tab := (T_f4conj c).add 125 (g2 rd4 rd4 fun x y => ([], .one (.fl (e4 (tri4 x y)))))
theorem ok_f4thrice (c : Bool) : TabOk Tryz.prog (T_f4thrice c) := (ok_f4conj c).add Tryz.func125 (by kernel_rfl) (by kernel_rfl) (g2_ok rd4_ok rd4_ok fun x y hp args w ha => fun_sound hmix (ok_f4conj c) qN_ok Tryz.func125 (run_f4thrice c x y) hp ha)
set_option maxRecDepth 100000 in
theorem run_joined4 (c : Bool) (x y z : Q4) : funA Tryz.prog (T_f4thrice c) qN (fun _ => true) Tryz.f124 60 [.v (.fl (e4 x)), .v (.fl (e4 y)), .v (.fl (e4 z))] = some ([], .one (.fl (e12 (join4 x y z)))) := by kernel_rfl
noncomputable def T_joined4 (c : Bool) : Tab := (T_f4thrice c).add 124 (g3 rd4 rd4 rd4 fun x y z => ([], .one (.fl (e12 (join4 x y z)))))
theorem ok_joined4 (c : Bool) : TabOk Tryz.prog (T_joined4 c) := (ok_f4thrice c).add Tryz.func124 (by kernel_rfl) (by kernel_rfl) (g3_ok rd4_ok rd4_ok rd4_ok fun x y z hp args w ha => fun_sound hmix (ok_f4thrice c) qN_ok Tryz.func124 (run_joined4 c x y z) hp ha)
set_option maxRecDepth 100000 in
theorem run_cyclo_t (c : Bool) (x : Q12) : funA Tryz.prog (T_joined4 c) (qG Tryz.prog) (fun s => bif Nat.beq s 35 then true else bif Nat.beq s 44 then true else bif Nat.beq s 54 then true else bif Nat.beq s 61 then false else true) Tryz.f77 60 [.v (.fl (e12 x))] = some ([flat (e4 (F4.sub (F4.mul (fX x) (fX x)) (s4 (F4.mul (fY x) (fZ x))))) = flat (e4 (cj4 (fX x))), flat (e4 (F4.sub (F4.mul (fX x) (fY x)) (s4 (F4.mul (fZ x) (fZ x))))) = flat (e4 (cj4 (fY x))), flat (e4 (F4.sub (F4.mul (fY x) (fY x)) (F4.mul (fX x) (fZ x)))) = flat (e4 (cj4 (fZ x))), flat (e12 x) ≠ flat (e12 F12.zero)], .many [.fl (e12 (sqr4 x)), .im (.bool true)]) := by kernel_rfl
set_option maxRecDepth 100000 in
theorem run_cyclo_1 (c : Bool) (x : Q12) : funA Tryz.prog (T_joined4 c) (qG Tryz.prog) (fun s => bif Nat.beq s 35 then false else bif Nat.beq s 44 then true else bif Nat.beq s 54 then true else bif Nat.beq s 61 then false else true) Tryz.f77 60 [.v (.fl (e12 x))] = some ([flat (e4 (F4.sub (F4.mul (fX x) (fX x)) (s4 (F4.mul (fY x) (fZ x))))) ≠ flat (e4 (cj4 (fX x)))], .many [.fl (e12 F12.zero), .im (.bool false)]) := by kernel_rfl
set_option maxRecDepth 100000 in
theorem run_cyclo_2 (c : Bool) (x : Q12) : funA Tryz.prog (T_joined4 c) (qG Tryz.prog) (fun s => bif Nat.beq s 35 then true else bif Nat.beq s 44 then false else bif Nat.beq s 54 then true else bif Nat.beq s 61 then false else true) Tryz.f77 60 [.v (.fl (e12 x))] = some ([flat (e4 (F4.sub (F4.mul (fX x) (fX x)) (s4 (F4.mul (fY x) (fZ x))))) = flat (e4 (cj4 (fX x))), flat (e4 (F4.sub (F4.mul (fX x) (fY x)) (s4 (F4.mul (fZ x) (fZ x))))) ≠ flat (e4 (cj4 (fY x)))], .many [.fl (e12 F12.zero), .im (.bool false)]) := by kernel_rfl
set_option maxRecDepth 100000 in
theorem run_cyclo_3 (c : Bool) (x : Q12) : funA Tryz.prog (T_joined4 c) (qG Tryz.prog) (fun s => bif Nat.beq s 35 then true else bif Nat.beq s 44 then true else bif Nat.beq s 54 then false else bif Nat.beq s 61 then false else true) Tryz.f77 60 [.v (.fl (e12 x))] = some ([flat (e4 (F4.sub (F4.mul (fX x) (fX x)) (s4 (F4.mul (fY x) (fZ x))))) = flat (e4 (cj4 (fX x))), flat (e4 (F4.sub (F4.mul (fX x) (fY x)) (s4 (F4.mul (fZ x) (fZ x))))) = flat (e4 (cj4 (fY x))), flat (e4 (F4.sub (F4.mul (fY x) (fY x)) (F4.mul (fX x) (fZ x)))) ≠ flat (e4 (cj4 (fZ x)))], .many [.fl (e12 F12.zero), .im (.bool false)]) := by kernel_rfl
set_option maxRecDepth 100000 in
theorem run_cyclo_4 (c : Bool) (x : Q12) : funA Tryz.prog (T_joined4 c) (qG Tryz.prog) (fun s => bif Nat.beq s 35 then true else bif Nat.beq s 44 then true else bif Nat.beq s 54 then true else bif Nat.beq s 61 then true else true) Tryz.f77 60 [.v (.fl (e12 x))] = some ([flat (e4 (F4.sub (F4.mul (fX x) (fX x)) (s4 (F4.mul (fY x) (fZ x))))) = flat (e4 (cj4 (fX x))), flat (e4 (F4.sub (F4.mul (fX x) (fY x)) (s4 (F4.mul (fZ x) (fZ x))))) = flat (e4 (cj4 (fY x))), flat (e4 (F4.sub (F4.mul (fY x) (fY x)) (F4.mul (fX x) (fZ x)))) = flat (e4 (cj4 (fZ x))), flat (e12 x) = flat (e12 F12.zero)], .many [.fl (e12 F12.zero), .im (.bool false)]) := by kernel_rfl
noncomputable def oCyc (c : Bool) (x : Q12) : List Prop × RV := bif c then ([inC x], .many [.fl (e12 (F12.mul x x)), .im (.bool true)]) else ([¬ inC x], .many [.fl (e12 F12.zero), .im (.bool false)])
theorem oCyc_ok (c : Bool) (x : Q12) (hp : allP (oCyc c x).1) (args : List Value) (w : World) (ha : CAs w [.v (.fl (e12 x))] args) : Good Tryz.prog 77 (oCyc c x).2 args w := by
  cases c
  · have hn : ¬ inC x := hp.1
    unfold inC at hn
    rw [cyc_iff] at hn
    by_cases h1 : inE1 x
    · by_cases h2 : inE2 x
      · by_cases h3 : inE3 x
        · have hz : x = F12.zero := Classical.byContradiction fun e => hn ⟨e, h1, h2, h3⟩
          exact fun_sound hmix (ok_joined4 false) (qG_ok _) Tryz.func77 (run_cyclo_4 false x) ⟨congrArg (fun t => flat (e4 t)) h1, congrArg (fun t => flat (e4 t)) h2, congrArg (fun t => flat (e4 t)) h3, congrArg (fun t => flat (e12 t)) hz, trivial⟩ ha
        · exact fun_sound hmix (ok_joined4 false) (qG_ok _) Tryz.func77 (run_cyclo_3 false x) ⟨congrArg (fun t => flat (e4 t)) h1, congrArg (fun t => flat (e4 t)) h2, fun e => h3 (e4_inj e), trivial⟩ ha
      · exact fun_sound hmix (ok_joined4 false) (qG_ok _) Tryz.func77 (run_cyclo_2 false x) ⟨congrArg (fun t => flat (e4 t)) h1, fun e => h2 (e4_inj e), trivial⟩ ha
    · exact fun_sound hmix (ok_joined4 false) (qG_ok _) Tryz.func77 (run_cyclo_1 false x) ⟨fun e => h1 (e4_inj e), trivial⟩ ha
  · have hn : inC x := hp.1
    unfold inC at hn
    rw [cyc_iff] at hn
    obtain ⟨hz, h1, h2, h3⟩ := hn
    show Good _ _ (.many [.fl (e12 (F12.mul x x)), .im (.bool true)]) _ _
    rw [← sqr_eq x ⟨h1, h2, h3⟩]
    exact fun_sound hmix (ok_joined4 true) (qG_ok _) Tryz.func77 (run_cyclo_t true x) ⟨congrArg (fun t => flat (e4 t)) h1, congrArg (fun t => flat (e4 t)) h2, congrArg (fun t => flat (e4 t)) h3, fun e => hz (e12_inj e), trivial⟩ ha
noncomputable def T_cyclo (c : Bool) : Tab := (T_joined4 c).add 77 (g1 rd12 (oCyc c))
theorem ok_cyclo (c : Bool) : TabOk Tryz.prog (T_cyclo c) := (ok_joined4 c).add Tryz.func77 (by kernel_rfl) (by kernel_rfl) (g1_ok rd12_ok (oCyc_ok c))
noncomputable def oCyX (c : Bool) (x : Q12) : List Prop × RV := bif c then ([inC x], .many [.fl (e12 (F12.mul x x)), .im (.int .i64 0)]) else ([¬ inC x], .many [.fl (e12 F12.zero), .im (.int .i64 42)])
set_option maxRecDepth 100000 in
theorem run_Cyclo12_true (x : N12) : funA Tryz.prog (T_cyclo true) qN (fun _ => true) Tryz.f36 40 [.v (.fl (q12 x))] = some ([inC (m12 x)], .many [.fl (e12 (F12.mul (m12 x) (m12 x))), .im (.int .i64 0)]) := by kernel_rfl
set_option maxRecDepth 100000 in
theorem run_Cyclo12_false (x : N12) : funA Tryz.prog (T_cyclo false) qN (fun _ => true) Tryz.f36 40 [.v (.fl (q12 x))] = some ([¬ inC (m12 x)], .many [.fl (e12 F12.zero), .im (.int .i64 42)]) := by kernel_rfl
theorem oCyX_ok (c : Bool) (x : N12) (hp : allP (oCyX c (m12 x)).1) (args : List Value) (w : World) (ha : CAs w [.v (.fl (q12 x))] args) : Good Tryz.prog 36 (oCyX c (m12 x)).2 args w := by
  cases c
  · exact fun_sound hmix (ok_cyclo false) qN_ok Tryz.func36 (run_Cyclo12_false x) hp ha
  · exact fun_sound hmix (ok_cyclo true) qN_ok Tryz.func36 (run_Cyclo12_true x) hp ha
noncomputable def T_Cyclo12 (c : Bool) : Tab := (T_cyclo c).add 36 (g1 rv12 (oCyX c))
theorem ok_Cyclo12 (c : Bool) : TabOk Tryz.prog (T_Cyclo12 c) := (ok_cyclo c).add Tryz.func36 (by kernel_rfl) (by kernel_rfl) (g1v_ok rv12_ok (oCyX_ok c))
noncomputable def oCyY (c : Bool) (x : Q12) : List Prop × RV := bif c then ([inC x], .one (.im (.bool true))) else ([¬ inC x], .one (.im (.bool false)))
set_option maxRecDepth 100000 in
theorem run_InCyclo_true (x : N12) : funA Tryz.prog (T_Cyclo12 true) qN (fun _ => true) Tryz.f40 40 [.v (.fl (q12 x))] = some ([inC (m12 x)], .one (.im (.bool true))) := by kernel_rfl
set_option maxRecDepth 100000 in
theorem run_InCyclo_false (x : N12) : funA Tryz.prog (T_Cyclo12 false) qN (fun _ => true) Tryz.f40 40 [.v (.fl (q12 x))] = some ([¬ inC (m12 x)], .one (.im (.bool false))) := by kernel_rfl
theorem oCyY_ok (c : Bool) (x : N12) (hp : allP (oCyY c (m12 x)).1) (args : List Value) (w : World) (ha : CAs w [.v (.fl (q12 x))] args) : Good Tryz.prog 40 (oCyY c (m12 x)).2 args w := by
  cases c
  · exact fun_sound hmix (ok_Cyclo12 false) qN_ok Tryz.func40 (run_InCyclo_false x) hp ha
  · exact fun_sound hmix (ok_Cyclo12 true) qN_ok Tryz.func40 (run_InCyclo_true x) hp ha
noncomputable def T_InCyclo (c : Bool) : Tab := (T_Cyclo12 c).add 40 (g1 rv12 (oCyY c))
theorem ok_InCyclo (c : Bool) : TabOk Tryz.prog (T_InCyclo c) := (ok_Cyclo12 c).add Tryz.func40 (by kernel_rfl) (by kernel_rfl) (g1v_ok rv12_ok (oCyY_ok c))
set_option maxRecDepth 100000 in
theorem run_rInCyclo_t (c : Bool) (x : N12) : funA Tryz.prog (T_InCyclo c) (qG Tryz.prog) (fun s => bif Nat.beq s 8 then false else bif Nat.beq s 14 then true else bif Nat.beq s 22 then true else true) Tryz.f41 60 [.v (.fl (q12 x))] = some ([flat (e12 (cj12 (cj12 (m12 x)))) ≠ flat (e12 F12.zero), flat (e12 (F12.mul (it12 (rest12N 6).toNat (cj12 (cj12 (m12 x)))) (cj12 (cj12 (m12 x))))) = flat (e12 F12.one), flat (e12 (F12.mul (it12 (rest12N 4).toNat (cj12 (cj12 (m12 x)))) (cj12 (cj12 (m12 x))))) = flat (e12 (it12 (rest12N 2).toNat (cj12 (cj12 (m12 x)))))], .one (.im (.bool true))) := by kernel_rfl
set_option maxRecDepth 100000 in
theorem run_rInCyclo_1 (c : Bool) (x : N12) : funA Tryz.prog (T_InCyclo c) (qG Tryz.prog) (fun s => bif Nat.beq s 8 then true else bif Nat.beq s 14 then true else bif Nat.beq s 22 then true else true) Tryz.f41 60 [.v (.fl (q12 x))] = some ([flat (e12 (cj12 (cj12 (m12 x)))) = flat (e12 F12.zero)], .one (.im (.bool false))) := by kernel_rfl
set_option maxRecDepth 100000 in
theorem run_rInCyclo_2 (c : Bool) (x : N12) : funA Tryz.prog (T_InCyclo c) (qG Tryz.prog) (fun s => bif Nat.beq s 8 then false else bif Nat.beq s 14 then false else bif Nat.beq s 22 then true else true) Tryz.f41 60 [.v (.fl (q12 x))] = some ([flat (e12 (cj12 (cj12 (m12 x)))) ≠ flat (e12 F12.zero), flat (e12 (F12.mul (it12 (rest12N 6).toNat (cj12 (cj12 (m12 x)))) (cj12 (cj12 (m12 x))))) ≠ flat (e12 F12.one)], .one (.im (.bool false))) := by kernel_rfl
set_option maxRecDepth 100000 in
theorem run_rInCyclo_3 (c : Bool) (x : N12) : funA Tryz.prog (T_InCyclo c) (qG Tryz.prog) (fun s => bif Nat.beq s 8 then false else bif Nat.beq s 14 then true else bif Nat.beq s 22 then false else true) Tryz.f41 60 [.v (.fl (q12 x))] = some ([flat (e12 (cj12 (cj12 (m12 x)))) ≠ flat (e12 F12.zero), flat (e12 (F12.mul (it12 (rest12N 6).toNat (cj12 (cj12 (m12 x)))) (cj12 (cj12 (m12 x))))) = flat (e12 F12.one), flat (e12 (F12.mul (it12 (rest12N 4).toNat (cj12 (cj12 (m12 x)))) (cj12 (cj12 (m12 x))))) ≠ flat (e12 (it12 (rest12N 2).toNat (cj12 (cj12 (m12 x)))))], .one (.im (.bool false))) := by kernel_rfl
theorem it_r6 (y : Q12) : it12 (rest12N 6).toNat y = cj12 y := by rw [show (rest12N 6).toNat = 6 by decide, it_six]
theorem it_r4 (y : Q12) : it12 (rest12N 4).toNat y = tw12 (tw12 y) := by rw [show (rest12N 4).toNat = 4 by decide, it_is4]
theorem it_r2 (y : Q12) : it12 (rest12N 2).toNat y = tw12 y := by rw [show (rest12N 2).toNat = 2 by decide, it_is2]
noncomputable def oRIn (c : Bool) (x : Q12) : List Prop × RV := bif c then ([inC x], .one (.im (.bool true))) else ([¬ inC x], .one (.im (.bool false)))
theorem oRIn_ok (c : Bool) (x : N12) (hp : allP (oRIn c (m12 x)).1) (args : List Value) (w : World) (ha : CAs w [.v (.fl (q12 x))] args) : Good Tryz.prog 41 (oRIn c (m12 x)).2 args w := by
  have hc : (cj12 (cj12 (m12 x))) = m12 x := cj_cj12 _
  cases c
  · have hn : ¬ inC (m12 x) := hp.1
    by_cases hz : m12 x = F12.zero
    · exact fun_sound hmix (ok_InCyclo false) (qG_ok _) Tryz.func41 (run_rInCyclo_1 false x) ⟨by rw [hc, hz], trivial⟩ ha
    · have hz' : flat (e12 (cj12 (cj12 (m12 x)))) ≠ flat (e12 F12.zero) := fun e => hz (by rw [← hc]; exact e12_inj e)
      by_cases h1 : F12.mul (cj12 (m12 x)) (m12 x) = F12.one
      · refine fun_sound hmix (ok_InCyclo false) (qG_ok _) Tryz.func41 (run_rInCyclo_3 false x) ⟨hz', by rw [it_r6, hc, h1], fun e => hn ⟨hz, ?_⟩, trivial⟩ ha
        rw [it_r4, it_r2, hc] at e
        exact e12_inj e
      · refine fun_sound hmix (ok_InCyclo false) (qG_ok _) Tryz.func41 (run_rInCyclo_2 false x) ⟨hz', fun e => h1 ?_, trivial⟩ ha
        rw [it_r6, hc] at e
        exact e12_inj e
  · obtain ⟨hz, h2⟩ : inC (m12 x) := hp.1
    exact fun_sound hmix (ok_InCyclo true) (qG_ok _) Tryz.func41 (run_rInCyclo_t true x) ⟨fun e => hz (by rw [← hc]; exact e12_inj e), by rw [it_r6, hc, cyc_unit _ hz h2], by rw [it_r4, it_r2, hc, h2], trivial⟩ ha
noncomputable def T_rInCyclo (c : Bool) : Tab := (T_InCyclo c).add 41 (g1 rv12 (oRIn c))
theorem ok_rInCyclo (c : Bool) : TabOk Tryz.prog (T_rInCyclo c) := (ok_InCyclo c).add Tryz.func41 (by kernel_rfl) (by kernel_rfl) (g1v_ok rv12_ok (oRIn_ok c))
noncomputable def oRCy (c : Bool) (x : Q12) : List Prop × RV := bif c then ([inC x], .many [.fl (e12 (F12.mul x x)), .im (.int .i64 0)]) else ([¬ inC x], .many [.fl (e12 F12.zero), .im (.int .i64 42)])
set_option maxRecDepth 100000 in
theorem run_rCyclo12_true (x : N12) : funA Tryz.prog (T_rInCyclo true) qN (fun _ => true) Tryz.f37 40 [.v (.fl (q12 x))] = some ([inC (m12 x)], .many [.fl (e12 (F12.mul (m12 x) (m12 x))), .im (.int .i64 0)]) := by kernel_rfl
set_option maxRecDepth 100000 in
theorem run_rCyclo12_false (x : N12) : funA Tryz.prog (T_rInCyclo false) qN (fun _ => true) Tryz.f37 40 [.v (.fl (q12 x))] = some ([¬ inC (m12 x)], .many [.fl (e12 F12.zero), .im (.int .i64 42)]) := by kernel_rfl
theorem oRCy_ok (c : Bool) (x : N12) (hp : allP (oRCy c (m12 x)).1) (args : List Value) (w : World) (ha : CAs w [.v (.fl (q12 x))] args) : Good Tryz.prog 37 (oRCy c (m12 x)).2 args w := by
  cases c
  · exact fun_sound hmix (ok_rInCyclo false) qN_ok Tryz.func37 (run_rCyclo12_false x) hp ha
  · exact fun_sound hmix (ok_rInCyclo true) qN_ok Tryz.func37 (run_rCyclo12_true x) hp ha
noncomputable def T_rCyclo12 (c : Bool) : Tab := (T_rInCyclo c).add 37 (g1 rv12 (oRCy c))
theorem ok_rCyclo12 (c : Bool) : TabOk Tryz.prog (T_rCyclo12 c) := (ok_rInCyclo c).add Tryz.func37 (by kernel_rfl) (by kernel_rfl) (g1v_ok rv12_ok (oRCy_ok c))
/-- what is known at the head of the loop -/
def x12F (x : N12) (n : Nat) (r : List At) (j : Int) : List Fact := [.slot 2 (.pt 2 0), .row 2 true (q12 x), .slot 3 (.pt 3 0), .row 3 true (q1 n), .slot 4 (.pt 4 0), .row 4 true (e12 F12.zero), .slot 5 (.pt 5 0), .row 5 true r, .slot 6 (.im (.int .i64 j))]
noncomputable def x12C (c : Bool) (j : Int) (b : Bool) (_ : Nat) : Cfg := ⟨fun _ => T_rCyclo12 c, fun _ => true, fun s => bif Nat.beq s 12 then some (.bool true) else bif Nat.beq s 21 then some (.bool b) else bif Nat.beq s 14 then some (.int .i64 j) else none⟩
noncomputable def x12E (c : Bool) (_ : Nat) : Cfg := ⟨fun _ => T_rCyclo12 c, fun _ => true, fun s => bif Nat.beq s 12 then some (.bool false) else none⟩
noncomputable def x12Code : Code := (Tryz.f39.body).getD .skip
noncomputable def x12Loop : Code := cIn (cIn (cB (cA (cB (cB x12Code)))))
set_option maxRecDepth 100000 in
theorem x12_one (c : Bool) (x : N12) (r r2 : Q12) (n j : Nat) (j2 : Int) : runK Tryz.prog qN Tryz.f39.ntmps (x12C c j2 true) 40 x12Loop (x12F x n (e12 r) (Int.ofNat j)) (x12F x n (e12 r2) j2) = some ([intOp .geq .i64 (Int.ofNat j) 0 = some (.bool true), j < 256, intOp .eql .i64 (bitOf (wv n) j : Nat) 1 = some (.bool true), intOp .sub .i64 (Int.ofNat j) 1 = some (.int .i64 j2)], .nrm, x12F x n (e12 (F12.mul (F12.mul r r) (m12 x))) j2) := by kernel_rfl
set_option maxRecDepth 100000 in
theorem x12_zero (c : Bool) (x : N12) (r r2 : Q12) (n j : Nat) (j2 : Int) : runK Tryz.prog qN Tryz.f39.ntmps (x12C c j2 false) 40 x12Loop (x12F x n (e12 r) (Int.ofNat j)) (x12F x n (e12 r2) j2) = some ([intOp .geq .i64 (Int.ofNat j) 0 = some (.bool true), j < 256, intOp .eql .i64 (bitOf (wv n) j : Nat) 1 = some (.bool false), intOp .sub .i64 (Int.ofNat j) 1 = some (.int .i64 j2)], .nrm, x12F x n (e12 (F12.mul r r)) j2) := by kernel_rfl
set_option maxRecDepth 100000 in
theorem x12_end (c : Bool) (x : N12) (r : Q12) (n : Nat) : runK Tryz.prog qN Tryz.f39.ntmps (x12E c) 40 x12Loop (x12F x n (e12 r) (-1)) (x12F x n (e12 r) (-1)) = some ([intOp .geq .i64 (-1) 0 = some (.bool false)], .ex 0, x12F x n (e12 r) (-1)) := by kernel_rfl
def x12R (x : N12) (n i : Nat) : Q12 := pwK F12 (m12 x) (wv n / 2 ^ (lenF n - i))
theorem x12R_0 (x : N12) (n : Nat) : x12R x n 0 = F12.one := by
  unfold x12R
  rw [Nat.sub_zero, Nat.div_eq_of_lt (lenF_is n).1]
  rfl
theorem x12R_end (x : N12) (n : Nat) : x12R x n (lenF n) = pwK F12 (m12 x) (wv n) := by
  unfold x12R
  rw [Nat.sub_self, Nat.pow_zero, Nat.div_one]
theorem x12R_step (x : N12) (n i : Nat) (h : i < lenF n) (b : Bool) (hb : bitOf (wv n) (lenF n - 1 - i) = if b then 1 else 0) : x12R x n (i + 1) = bif b then F12.mul (F12.mul (x12R x n i) (x12R x n i)) (m12 x) else F12.mul (x12R x n i) (x12R x n i) := by
  have h2 : F12.mul (x12R x n i) (x12R x n i) = pwK F12 (m12 x) (2 * (wv n / 2 ^ (lenF n - i))) := by unfold x12R; rw [← pwK_add, Nat.two_mul]
  rw [h2]
  unfold x12R
  rw [top_step n i h, hb]
  cases b <;> rfl
theorem x12_round (c : Bool) (x : N12) (n i : Nat) (h : i < lenF n) : ∃ b, ∃ ps, runK Tryz.prog qN Tryz.f39.ntmps (x12C c (cnt (lenF n) (i + 1)) b) 40 x12Loop (x12F x n (e12 (x12R x n i)) (cnt (lenF n) i)) (x12F x n (e12 (x12R x n (i + 1))) (cnt (lenF n) (i + 1))) = some (ps, .nrm, x12F x n (e12 (x12R x n (i + 1))) (cnt (lenF n) (i + 1))) ∧ allP ps := by
  have hL := lenF_le n
  rw [cnt_lt h]
  rcases bitOf_01 (wv n) (lenF n - 1 - i) with hb | hb
  · have hz := x12_zero c x (x12R x n i) (x12R x n (i + 1)) n (lenF n - 1 - i) (cnt (lenF n) (i + 1))
    rw [show F12.mul (x12R x n i) (x12R x n i) = x12R x n (i + 1) from (x12R_step x n i h false hb).symm] at hz
    exact ⟨false, _, hz, rfl, by omega, eql_b _ false hb, cnt_next h hL, trivial⟩
  · have hz := x12_one c x (x12R x n i) (x12R x n (i + 1)) n (lenF n - 1 - i) (cnt (lenF n) (i + 1))
    rw [show F12.mul (F12.mul (x12R x n i) (x12R x n i)) (m12 x) = x12R x n (i + 1) from (x12R_step x n i h true hb).symm] at hz
    exact ⟨true, _, hz, rfl, by omega, eql_b _ true hb, cnt_next h hL, trivial⟩
def x12A (x : N12) (n : Nat) : List Fact := [.slot 2 (.pt 2 0), .row 2 true (q12 x), .slot 3 (.pt 3 0), .row 3 true (q1 n), .slot 4 (.pt 4 0), .row 4 true (e12 F12.zero)]
def x12B (x : N12) (n : Nat) : List Fact := [.slot 2 (.pt 2 0), .row 2 true (q12 x), .slot 3 (.pt 3 0), .row 3 true (q1 n), .slot 4 (.pt 4 0), .row 4 true (e12 F12.zero), .slot 5 (.pt 5 0), .row 5 true (e12 F12.one)]
noncomputable def x12C0 (c : Bool) (v : Option Value) (_ : Nat) : Cfg := ⟨fun _ => T_rCyclo12 c, fun _ => true, fun s => bif Nat.beq s 10 then v else none⟩
set_option maxRecDepth 100000 in
theorem x12_s0 (c : Bool) (x : N12) (n : Nat) : runK Tryz.prog qN Tryz.f39.ntmps (x12C0 c none) 40 (cA x12Code) (argF 0 [.v (.fl (q12 x)), .v (.fl (q1 n))]) (x12A x n) = some ([], .nrm, x12A x n) := by kernel_rfl
set_option maxRecDepth 100000 in
theorem x12_s1 (c : Bool) (x : N12) (n : Nat) : runK Tryz.prog qN Tryz.f39.ntmps (x12C0 c none) 40 (cA (cB x12Code)) (x12A x n) (x12B x n) = some ([], .nrm, x12B x n) := by kernel_rfl
set_option maxRecDepth 100000 in
theorem x12_s2 (c : Bool) (x : N12) (n : Nat) (j : Int) : runK Tryz.prog qN Tryz.f39.ntmps (x12C0 c (some (.int .i64 j))) 40 (cA (cA (cB (cB x12Code)))) (x12B x n) (x12F x n (e12 F12.one) j) = some ([intOp .sub .i64 (lenF n : Nat) 1 = some (.int .i64 j)], .nrm, x12F x n (e12 F12.one) j) := by kernel_rfl
set_option maxRecDepth 100000 in
theorem x12_s4 (c : Bool) (x : N12) (r : Q12) (n : Nat) : runK Tryz.prog qN Tryz.f39.ntmps (x12C0 c none) 40 (cB (cB (cB x12Code))) (x12F x n (e12 r) (-1)) [.slot 4 (.pt 4 0), .row 4 true (e12 r)] = some ([], .rt, [.slot 4 (.pt 4 0), .row 4 true (e12 r)]) := by kernel_rfl
theorem x12_code : x12Code = .seq (cA x12Code) (.seq (cA (cB x12Code)) (.seq (.seq (cA (cA (cB (cB x12Code)))) (.block 0 (.loop x12Loop))) (cB (cB (cB x12Code))))) := by kernel_rfl
theorem x12_lit : flat (e12 F12.one) = flat (e12 F12.one) := by kernel_rfl
theorem x12_calls (c : Bool) (x : N12) (n : Nat) (args : List Value) (w : World) (ha : CAs w [.v (.fl (q12 x)), .v (.fl (q1 n))] args) : Good Tryz.prog 39 (.one (.fl (e12 (pwK F12 (m12 x) (wv n))))) args w := by
  refine fn_enter Tryz.func39 (c := x12Code) rfl ha (Nat.le_of_ble_eq_true (by kernel_rfl)) fun a w' hA => ?_
  rw [x12_code]
  refine wp_seq (runK_sound hmix (fun _ _ => ok_rCyclo12 c) qN_ok (x12_s0 c x n) trivial hA fun a w' hA => ?_)
  refine wp_seq (runK_sound hmix (fun _ _ => ok_rCyclo12 c) qN_ok (x12_s1 c x n) trivial hA fun a w' hA => ?_)
  refine wp_seq (wp_seq (runK_sound hmix (fun _ _ => ok_rCyclo12 c) qN_ok (x12_s2 c x n (cnt (lenF n) 0)) ⟨cnt_first (lenF_le n), trivial⟩ hA fun a w' hA => ?_))
  refine wp_block ?_
  have hA : Holds Tryz.f39.ntmps w.heap.size w (x12F x n (e12 (x12R x n 0)) (cnt (lenF n) 0)) a w' := by
    refine hA.same fun φ hφ => ?_
    rw [x12R_0] at hφ
    unfold x12F at hφ ⊢
    simp only [List.mem_cons, List.not_mem_nil, or_false] at hφ ⊢
    rcases hφ with h | h | h | h | h | h | h | h | h
    · exact Or.inl (Or.inl h)
    · exact Or.inl (Or.inr (Or.inl h))
    · exact Or.inl (Or.inr (Or.inr (Or.inl h)))
    · exact Or.inl (Or.inr (Or.inr (Or.inr (Or.inl h))))
    · exact Or.inl (Or.inr (Or.inr (Or.inr (Or.inr (Or.inl h)))))
    · exact Or.inl (Or.inr (Or.inr (Or.inr (Or.inr (Or.inr (Or.inl h))))))
    · exact Or.inl (Or.inr (Or.inr (Or.inr (Or.inr (Or.inr (Or.inr (Or.inl h)))))))
    · exact Or.inr ⟨5, true, (e12 F12.one), _, h, Or.inr (Or.inr (Or.inr (Or.inr (Or.inr (Or.inr (Or.inr (Or.inl rfl))))))), x12_lit⟩
    · exact Or.inl (Or.inr (Or.inr (Or.inr (Or.inr (Or.inr (Or.inr (Or.inr (Or.inr h))))))))
  have hb : ∀ i, i < lenF n → ∃ b, ∃ ps, runK Tryz.prog qN Tryz.f39.ntmps (x12C c (cnt (lenF n) (i + 1)) b) 40 x12Loop (x12F x n (e12 (x12R x n i)) (cnt (lenF n) i)) (x12F x n (e12 (x12R x n (i + 1))) (cnt (lenF n) (i + 1))) = some (ps, .nrm, x12F x n (e12 (x12R x n (i + 1))) (cnt (lenF n) (i + 1))) ∧ allP ps := fun i h => x12_round c x n i h
  classical
  refine loop_rounds (f := 40) hmix qN_ok (fun i => x12F x n (e12 (x12R x n i)) (cnt (lenF n) i)) (fun i => if h : i < lenF n then x12C c (cnt (lenF n) (i + 1)) (hb i h).choose else x12E c) (fun i m d => ?_) (lenF n) (fun i hi => ?_) (.ex 0) (by simp) (x12F x n (e12 (x12R x n (lenF n))) (-1)) ?_ hA fun a w' hA => ?_
  · show TabOk _ ((if h : i < lenF n then x12C c (cnt (lenF n) (i + 1)) (hb i h).choose else x12E c) m |>.T d)
    split <;> exact ok_rCyclo12 c
  · rw [dif_pos hi]
    exact (hb i hi).choose_spec
  · rw [dif_neg (Nat.lt_irrefl _), cnt_end]
    exact ⟨_, x12_end c x _ n, rfl, trivial⟩
  · rw [x12R_end] at hA
    show (cB (cB (cB x12Code))).wp _ _ _ _
    exact runK_sound hmix (fun _ _ => ok_rCyclo12 c) qN_ok (x12_s4 c x _ n) trivial hA fun a w' hA => fn_leave (l := [.fl (e12 (pwK F12 (m12 x) (wv n)))]) (by kernel_rfl) (by kernel_rfl) hA
noncomputable def T_rExp12 (c : Bool) : Tab := (T_rCyclo12 c).add 39 (g2 rv12 rq1 fun x n => ([], .one (.fl (e12 (pwK F12 x (wv n))))))
theorem ok_rExp12 (c : Bool) : TabOk Tryz.prog (T_rExp12 c) := (ok_rCyclo12 c).add Tryz.func39 (by kernel_rfl) (by kernel_rfl) (g2v_ok rv12_ok rq1_v fun x n _ args w ha => x12_calls c x n args w ha)
end Go.Proofs.YtgacpjmggdmgdaaGreat.Ex
