/-
  The cyclotomic subgroup of Fp12: three equations over Fp4, and the square there. Conditions: none.
  Elements that lie alike are one. Conditions: none.
-/
import Derived.Test.YtaingnhikbaplaaGreatPf20
import Derived.Test.YtaingnhikbaplaaGreatPf04
namespace Go.Proofs.YtaingnhikbaplaaGreat.Ex
set_option linter.unusedVariables false
set_option linter.unusedSimpArgs false
set_option maxRecDepth 10000
theorem cyc_id0 {R : Type} (K : CR R) (c0 c1 c2 c3 c4 c5 q z : R) : (K.add (K.add (K.mul (K.mul K.one c0) c0) (K.mul q (K.add (K.mul (K.mul (K.neg z) c2) c4) (K.mul (K.mul (K.sub z K.one) c4) c2)))) (K.mul (K.add (K.add (K.mul (K.mul (K.sub z K.one) c1) c5) (K.mul (K.mul K.one c3) c3)) (K.mul (K.mul (K.neg z) c5) c1)) q)) = (K.add (K.mul K.one c0) (K.mul K.one (K.sub (K.sub (K.add (K.mul c0 c0) (K.mul q (K.mul c3 c3))) (K.mul (K.add (K.mul c1 c5) (K.mul c4 c2)) q)) c0))) :=
  ring_id K (envL K [c0, c1, c2, c3, c4, c5, q, z]) (.add (.add (.mul (.mul .one (.v 0)) (.v 0)) (.mul (.v 6) (.add (.mul (.mul (.neg (.v 7)) (.v 2)) (.v 4)) (.mul (.mul (.add (.v 7) (.neg .one)) (.v 4)) (.v 2))))) (.mul (.add (.add (.mul (.mul (.add (.v 7) (.neg .one)) (.v 1)) (.v 5)) (.mul (.mul .one (.v 3)) (.v 3))) (.mul (.mul (.neg (.v 7)) (.v 5)) (.v 1))) (.v 6))) (.add (.mul .one (.v 0)) (.mul .one (.add (.add (.add (.mul (.v 0) (.v 0)) (.mul (.v 6) (.mul (.v 3) (.v 3)))) (.neg (.mul (.add (.mul (.v 1) (.v 5)) (.mul (.v 4) (.v 2))) (.v 6)))) (.neg (.v 0))))) (by decide)
theorem cyc_id1 {R : Type} (K : CR R) (c0 c1 c2 c3 c4 c5 q z : R) : (K.add (K.add (K.mul (K.mul K.one c0) c1) (K.mul q (K.add (K.mul (K.mul (K.neg z) c2) c5) (K.mul (K.mul (K.sub z K.one) c4) c3)))) (K.add (K.mul (K.mul (K.sub z K.one) c1) c0) (K.mul q (K.add (K.mul (K.mul K.one c3) c4) (K.mul (K.mul (K.neg z) c5) c2))))) = (K.add (K.mul z c1) (K.mul z (K.sub (K.sub (K.add (K.mul c0 c1) (K.mul q (K.mul c3 c4))) (K.mul (K.add (K.mul c2 c5) (K.mul c5 c2)) q)) c1))) :=
  ring_id K (envL K [c0, c1, c2, c3, c4, c5, q, z]) (.add (.add (.mul (.mul .one (.v 0)) (.v 1)) (.mul (.v 6) (.add (.mul (.mul (.neg (.v 7)) (.v 2)) (.v 5)) (.mul (.mul (.add (.v 7) (.neg .one)) (.v 4)) (.v 3))))) (.add (.mul (.mul (.add (.v 7) (.neg .one)) (.v 1)) (.v 0)) (.mul (.v 6) (.add (.mul (.mul .one (.v 3)) (.v 4)) (.mul (.mul (.neg (.v 7)) (.v 5)) (.v 2)))))) (.add (.mul (.v 7) (.v 1)) (.mul (.v 7) (.add (.add (.add (.mul (.v 0) (.v 1)) (.mul (.v 6) (.mul (.v 3) (.v 4)))) (.neg (.mul (.add (.mul (.v 2) (.v 5)) (.mul (.v 5) (.v 2))) (.v 6)))) (.neg (.v 1))))) (by decide)
theorem cyc_id2 {R : Type} (K : CR R) (c0 c1 c2 c3 c4 c5 q z : R) : (K.add (K.add (K.add (K.mul (K.mul K.one c0) c2) (K.mul (K.mul (K.neg z) c2) c0)) (K.mul q (K.mul (K.mul (K.sub z K.one) c4) c4))) (K.add (K.mul (K.mul (K.sub z K.one) c1) c1) (K.mul q (K.add (K.mul (K.mul K.one c3) c5) (K.mul (K.mul (K.neg z) c5) c3))))) = (K.add (K.mul (K.sub z K.one) c2) (K.mul (K.sub z K.one) (K.sub (K.sub (K.add (K.mul c1 c1) (K.mul q (K.mul c4 c4))) (K.add (K.mul c0 c2) (K.mul q (K.mul c3 c5)))) c2))) :=
  ring_id K (envL K [c0, c1, c2, c3, c4, c5, q, z]) (.add (.add (.add (.mul (.mul .one (.v 0)) (.v 2)) (.mul (.mul (.neg (.v 7)) (.v 2)) (.v 0))) (.mul (.v 6) (.mul (.mul (.add (.v 7) (.neg .one)) (.v 4)) (.v 4)))) (.add (.mul (.mul (.add (.v 7) (.neg .one)) (.v 1)) (.v 1)) (.mul (.v 6) (.add (.mul (.mul .one (.v 3)) (.v 5)) (.mul (.mul (.neg (.v 7)) (.v 5)) (.v 3)))))) (.add (.mul (.add (.v 7) (.neg .one)) (.v 2)) (.mul (.add (.v 7) (.neg .one)) (.add (.add (.add (.mul (.v 1) (.v 1)) (.mul (.v 6) (.mul (.v 4) (.v 4)))) (.neg (.add (.mul (.v 0) (.v 2)) (.mul (.v 6) (.mul (.v 3) (.v 5)))))) (.neg (.v 2))))) (by decide)
theorem cyc_id3 {R : Type} (K : CR R) (c0 c1 c2 c3 c4 c5 q z : R) : (K.add (K.add (K.add (K.mul (K.mul K.one c0) c3) (K.mul (K.mul (K.neg z) c2) c1)) (K.mul q (K.mul (K.mul (K.sub z K.one) c4) c5))) (K.add (K.add (K.mul (K.mul (K.sub z K.one) c1) c2) (K.mul (K.mul K.one c3) c0)) (K.mul q (K.mul (K.mul (K.neg z) c5) c4)))) = (K.add (K.mul (K.neg K.one) c3) (K.mul K.one (K.sub (K.sub (K.add (K.mul c0 c3) (K.mul c3 c0)) (K.add (K.mul c1 c2) (K.mul q (K.mul c4 c5)))) (K.sub K.zero c3)))) :=
  ring_id K (envL K [c0, c1, c2, c3, c4, c5, q, z]) (.add (.add (.add (.mul (.mul .one (.v 0)) (.v 3)) (.mul (.mul (.neg (.v 7)) (.v 2)) (.v 1))) (.mul (.v 6) (.mul (.mul (.add (.v 7) (.neg .one)) (.v 4)) (.v 5)))) (.add (.add (.mul (.mul (.add (.v 7) (.neg .one)) (.v 1)) (.v 2)) (.mul (.mul .one (.v 3)) (.v 0))) (.mul (.v 6) (.mul (.mul (.neg (.v 7)) (.v 5)) (.v 4))))) (.add (.mul (.neg .one) (.v 3)) (.mul .one (.add (.add (.add (.mul (.v 0) (.v 3)) (.mul (.v 3) (.v 0))) (.neg (.add (.mul (.v 1) (.v 2)) (.mul (.v 6) (.mul (.v 4) (.v 5)))))) (.neg (.add .zero (.neg (.v 3))))))) (by decide)
theorem cyc_id4 {R : Type} (K : CR R) (c0 c1 c2 c3 c4 c5 q z : R) : (K.add (K.add (K.add (K.mul (K.mul K.one c0) c4) (K.mul (K.mul (K.neg z) c2) c2)) (K.mul (K.mul (K.sub z K.one) c4) c0)) (K.add (K.add (K.mul (K.mul (K.sub z K.one) c1) c3) (K.mul (K.mul K.one c3) c1)) (K.mul q (K.mul (K.mul (K.neg z) c5) c5)))) = (K.add (K.mul (K.neg z) c4) (K.mul z (K.sub (K.sub (K.add (K.mul c0 c4) (K.mul c3 c1)) (K.add (K.mul c2 c2) (K.mul q (K.mul c5 c5)))) (K.sub K.zero c4)))) :=
  ring_id K (envL K [c0, c1, c2, c3, c4, c5, q, z]) (.add (.add (.add (.mul (.mul .one (.v 0)) (.v 4)) (.mul (.mul (.neg (.v 7)) (.v 2)) (.v 2))) (.mul (.mul (.add (.v 7) (.neg .one)) (.v 4)) (.v 0))) (.add (.add (.mul (.mul (.add (.v 7) (.neg .one)) (.v 1)) (.v 3)) (.mul (.mul .one (.v 3)) (.v 1))) (.mul (.v 6) (.mul (.mul (.neg (.v 7)) (.v 5)) (.v 5))))) (.add (.mul (.neg (.v 7)) (.v 4)) (.mul (.v 7) (.add (.add (.add (.mul (.v 0) (.v 4)) (.mul (.v 3) (.v 1))) (.neg (.add (.mul (.v 2) (.v 2)) (.mul (.v 6) (.mul (.v 5) (.v 5)))))) (.neg (.add .zero (.neg (.v 4))))))) (by decide)
theorem cyc_id5 {R : Type} (K : CR R) (c0 c1 c2 c3 c4 c5 q z : R) : (K.add (K.add (K.add (K.mul (K.mul K.one c0) c5) (K.mul (K.mul (K.neg z) c2) c3)) (K.mul (K.mul (K.sub z K.one) c4) c1)) (K.add (K.add (K.mul (K.mul (K.sub z K.one) c1) c4) (K.mul (K.mul K.one c3) c2)) (K.mul (K.mul (K.neg z) c5) c0))) = (K.add (K.mul (K.sub K.one z) c5) (K.mul (K.sub z K.one) (K.sub (K.sub (K.add (K.mul c1 c4) (K.mul c4 c1)) (K.add (K.mul c0 c5) (K.mul c3 c2))) (K.sub K.zero c5)))) :=
  ring_id K (envL K [c0, c1, c2, c3, c4, c5, q, z]) (.add (.add (.add (.mul (.mul .one (.v 0)) (.v 5)) (.mul (.mul (.neg (.v 7)) (.v 2)) (.v 3))) (.mul (.mul (.add (.v 7) (.neg .one)) (.v 4)) (.v 1))) (.add (.add (.mul (.mul (.add (.v 7) (.neg .one)) (.v 1)) (.v 4)) (.mul (.mul .one (.v 3)) (.v 2))) (.mul (.mul (.neg (.v 7)) (.v 5)) (.v 0)))) (.add (.mul (.add .one (.neg (.v 7))) (.v 5)) (.mul (.add (.v 7) (.neg .one)) (.add (.add (.add (.mul (.v 1) (.v 4)) (.mul (.v 4) (.v 1))) (.neg (.add (.mul (.v 0) (.v 5)) (.mul (.v 3) (.v 2))))) (.neg (.add .zero (.neg (.v 5))))))) (by decide)
theorem sqr_id0 {R : Type} (K : CR R) (c0 c1 c2 c3 c4 c5 q z : R) : (K.add (K.add (K.sub (K.add (K.mul c0 c0) (K.mul q (K.mul c3 c3))) c0) (K.sub (K.add (K.mul c0 c0) (K.mul q (K.mul c3 c3))) c0)) (K.add (K.mul c0 c0) (K.mul q (K.mul c3 c3)))) = (K.add (K.add (K.add (K.mul c0 c0) (K.mul q (K.add (K.mul c2 c4) (K.mul c4 c2)))) (K.mul (K.add (K.add (K.mul c1 c5) (K.mul c3 c3)) (K.mul c5 c1)) q)) (K.add (K.sub (K.sub (K.add (K.mul c0 c0) (K.mul q (K.mul c3 c3))) (K.mul (K.add (K.mul c1 c5) (K.mul c4 c2)) q)) c0) (K.sub (K.sub (K.add (K.mul c0 c0) (K.mul q (K.mul c3 c3))) (K.mul (K.add (K.mul c1 c5) (K.mul c4 c2)) q)) c0))) :=
  ring_id K (envL K [c0, c1, c2, c3, c4, c5, q, z]) (.add (.add (.add (.add (.mul (.v 0) (.v 0)) (.mul (.v 6) (.mul (.v 3) (.v 3)))) (.neg (.v 0))) (.add (.add (.mul (.v 0) (.v 0)) (.mul (.v 6) (.mul (.v 3) (.v 3)))) (.neg (.v 0)))) (.add (.mul (.v 0) (.v 0)) (.mul (.v 6) (.mul (.v 3) (.v 3))))) (.add (.add (.add (.mul (.v 0) (.v 0)) (.mul (.v 6) (.add (.mul (.v 2) (.v 4)) (.mul (.v 4) (.v 2))))) (.mul (.add (.add (.mul (.v 1) (.v 5)) (.mul (.v 3) (.v 3))) (.mul (.v 5) (.v 1))) (.v 6))) (.add (.add (.add (.add (.mul (.v 0) (.v 0)) (.mul (.v 6) (.mul (.v 3) (.v 3)))) (.neg (.mul (.add (.mul (.v 1) (.v 5)) (.mul (.v 4) (.v 2))) (.v 6)))) (.neg (.v 0))) (.add (.add (.add (.mul (.v 0) (.v 0)) (.mul (.v 6) (.mul (.v 3) (.v 3)))) (.neg (.mul (.add (.mul (.v 1) (.v 5)) (.mul (.v 4) (.v 2))) (.v 6)))) (.neg (.v 0))))) (by decide)
theorem sqr_id1 {R : Type} (K : CR R) (c0 c1 c2 c3 c4 c5 q z : R) : (K.add (K.add (K.sub (K.mul (K.add (K.mul c2 c5) (K.mul c5 c2)) q) (K.sub K.zero c1)) (K.sub (K.mul (K.add (K.mul c2 c5) (K.mul c5 c2)) q) (K.sub K.zero c1))) (K.mul (K.add (K.mul c2 c5) (K.mul c5 c2)) q)) = (K.sub (K.add (K.add (K.mul c0 c1) (K.mul q (K.add (K.mul c2 c5) (K.mul c4 c3)))) (K.add (K.mul c1 c0) (K.mul q (K.add (K.mul c3 c4) (K.mul c5 c2))))) (K.add (K.sub (K.sub (K.add (K.mul c0 c1) (K.mul q (K.mul c3 c4))) (K.mul (K.add (K.mul c2 c5) (K.mul c5 c2)) q)) c1) (K.sub (K.sub (K.add (K.mul c0 c1) (K.mul q (K.mul c3 c4))) (K.mul (K.add (K.mul c2 c5) (K.mul c5 c2)) q)) c1))) :=
  ring_id K (envL K [c0, c1, c2, c3, c4, c5, q, z]) (.add (.add (.add (.mul (.add (.mul (.v 2) (.v 5)) (.mul (.v 5) (.v 2))) (.v 6)) (.neg (.add .zero (.neg (.v 1))))) (.add (.mul (.add (.mul (.v 2) (.v 5)) (.mul (.v 5) (.v 2))) (.v 6)) (.neg (.add .zero (.neg (.v 1)))))) (.mul (.add (.mul (.v 2) (.v 5)) (.mul (.v 5) (.v 2))) (.v 6))) (.add (.add (.add (.mul (.v 0) (.v 1)) (.mul (.v 6) (.add (.mul (.v 2) (.v 5)) (.mul (.v 4) (.v 3))))) (.add (.mul (.v 1) (.v 0)) (.mul (.v 6) (.add (.mul (.v 3) (.v 4)) (.mul (.v 5) (.v 2)))))) (.neg (.add (.add (.add (.add (.mul (.v 0) (.v 1)) (.mul (.v 6) (.mul (.v 3) (.v 4)))) (.neg (.mul (.add (.mul (.v 2) (.v 5)) (.mul (.v 5) (.v 2))) (.v 6)))) (.neg (.v 1))) (.add (.add (.add (.mul (.v 0) (.v 1)) (.mul (.v 6) (.mul (.v 3) (.v 4)))) (.neg (.mul (.add (.mul (.v 2) (.v 5)) (.mul (.v 5) (.v 2))) (.v 6)))) (.neg (.v 1)))))) (by decide)
theorem sqr_id2 {R : Type} (K : CR R) (c0 c1 c2 c3 c4 c5 q z : R) : (K.add (K.add (K.sub (K.add (K.mul c1 c1) (K.mul q (K.mul c4 c4))) c2) (K.sub (K.add (K.mul c1 c1) (K.mul q (K.mul c4 c4))) c2)) (K.add (K.mul c1 c1) (K.mul q (K.mul c4 c4)))) = (K.add (K.add (K.add (K.add (K.mul c0 c2) (K.mul c2 c0)) (K.mul q (K.mul c4 c4))) (K.add (K.mul c1 c1) (K.mul q (K.add (K.mul c3 c5) (K.mul c5 c3))))) (K.add (K.sub (K.sub (K.add (K.mul c1 c1) (K.mul q (K.mul c4 c4))) (K.add (K.mul c0 c2) (K.mul q (K.mul c3 c5)))) c2) (K.sub (K.sub (K.add (K.mul c1 c1) (K.mul q (K.mul c4 c4))) (K.add (K.mul c0 c2) (K.mul q (K.mul c3 c5)))) c2))) :=
  ring_id K (envL K [c0, c1, c2, c3, c4, c5, q, z]) (.add (.add (.add (.add (.mul (.v 1) (.v 1)) (.mul (.v 6) (.mul (.v 4) (.v 4)))) (.neg (.v 2))) (.add (.add (.mul (.v 1) (.v 1)) (.mul (.v 6) (.mul (.v 4) (.v 4)))) (.neg (.v 2)))) (.add (.mul (.v 1) (.v 1)) (.mul (.v 6) (.mul (.v 4) (.v 4))))) (.add (.add (.add (.add (.mul (.v 0) (.v 2)) (.mul (.v 2) (.v 0))) (.mul (.v 6) (.mul (.v 4) (.v 4)))) (.add (.mul (.v 1) (.v 1)) (.mul (.v 6) (.add (.mul (.v 3) (.v 5)) (.mul (.v 5) (.v 3)))))) (.add (.add (.add (.add (.mul (.v 1) (.v 1)) (.mul (.v 6) (.mul (.v 4) (.v 4)))) (.neg (.add (.mul (.v 0) (.v 2)) (.mul (.v 6) (.mul (.v 3) (.v 5)))))) (.neg (.v 2))) (.add (.add (.add (.mul (.v 1) (.v 1)) (.mul (.v 6) (.mul (.v 4) (.v 4)))) (.neg (.add (.mul (.v 0) (.v 2)) (.mul (.v 6) (.mul (.v 3) (.v 5)))))) (.neg (.v 2))))) (by decide)
theorem sqr_id3 {R : Type} (K : CR R) (c0 c1 c2 c3 c4 c5 q z : R) : (K.add (K.add (K.sub (K.add (K.mul c0 c3) (K.mul c3 c0)) (K.sub K.zero c3)) (K.sub (K.add (K.mul c0 c3) (K.mul c3 c0)) (K.sub K.zero c3))) (K.add (K.mul c0 c3) (K.mul c3 c0))) = (K.add (K.add (K.add (K.add (K.mul c0 c3) (K.mul c2 c1)) (K.mul q (K.mul c4 c5))) (K.add (K.add (K.mul c1 c2) (K.mul c3 c0)) (K.mul q (K.mul c5 c4)))) (K.add (K.sub (K.sub (K.add (K.mul c0 c3) (K.mul c3 c0)) (K.add (K.mul c1 c2) (K.mul q (K.mul c4 c5)))) (K.sub K.zero c3)) (K.sub (K.sub (K.add (K.mul c0 c3) (K.mul c3 c0)) (K.add (K.mul c1 c2) (K.mul q (K.mul c4 c5)))) (K.sub K.zero c3)))) :=
  ring_id K (envL K [c0, c1, c2, c3, c4, c5, q, z]) (.add (.add (.add (.add (.mul (.v 0) (.v 3)) (.mul (.v 3) (.v 0))) (.neg (.add .zero (.neg (.v 3))))) (.add (.add (.mul (.v 0) (.v 3)) (.mul (.v 3) (.v 0))) (.neg (.add .zero (.neg (.v 3)))))) (.add (.mul (.v 0) (.v 3)) (.mul (.v 3) (.v 0)))) (.add (.add (.add (.add (.mul (.v 0) (.v 3)) (.mul (.v 2) (.v 1))) (.mul (.v 6) (.mul (.v 4) (.v 5)))) (.add (.add (.mul (.v 1) (.v 2)) (.mul (.v 3) (.v 0))) (.mul (.v 6) (.mul (.v 5) (.v 4))))) (.add (.add (.add (.add (.mul (.v 0) (.v 3)) (.mul (.v 3) (.v 0))) (.neg (.add (.mul (.v 1) (.v 2)) (.mul (.v 6) (.mul (.v 4) (.v 5)))))) (.neg (.add .zero (.neg (.v 3))))) (.add (.add (.add (.mul (.v 0) (.v 3)) (.mul (.v 3) (.v 0))) (.neg (.add (.mul (.v 1) (.v 2)) (.mul (.v 6) (.mul (.v 4) (.v 5)))))) (.neg (.add .zero (.neg (.v 3))))))) (by decide)
theorem sqr_id4 {R : Type} (K : CR R) (c0 c1 c2 c3 c4 c5 q z : R) : (K.add (K.add (K.sub (K.add (K.mul c2 c2) (K.mul q (K.mul c5 c5))) (K.sub K.zero (K.sub K.zero c4))) (K.sub (K.add (K.mul c2 c2) (K.mul q (K.mul c5 c5))) (K.sub K.zero (K.sub K.zero c4)))) (K.add (K.mul c2 c2) (K.mul q (K.mul c5 c5)))) = (K.sub (K.add (K.add (K.add (K.mul c0 c4) (K.mul c2 c2)) (K.mul c4 c0)) (K.add (K.add (K.mul c1 c3) (K.mul c3 c1)) (K.mul q (K.mul c5 c5)))) (K.add (K.sub (K.sub (K.add (K.mul c0 c4) (K.mul c3 c1)) (K.add (K.mul c2 c2) (K.mul q (K.mul c5 c5)))) (K.sub K.zero c4)) (K.sub (K.sub (K.add (K.mul c0 c4) (K.mul c3 c1)) (K.add (K.mul c2 c2) (K.mul q (K.mul c5 c5)))) (K.sub K.zero c4)))) :=
  ring_id K (envL K [c0, c1, c2, c3, c4, c5, q, z]) (.add (.add (.add (.add (.mul (.v 2) (.v 2)) (.mul (.v 6) (.mul (.v 5) (.v 5)))) (.neg (.add .zero (.neg (.add .zero (.neg (.v 4))))))) (.add (.add (.mul (.v 2) (.v 2)) (.mul (.v 6) (.mul (.v 5) (.v 5)))) (.neg (.add .zero (.neg (.add .zero (.neg (.v 4)))))))) (.add (.mul (.v 2) (.v 2)) (.mul (.v 6) (.mul (.v 5) (.v 5))))) (.add (.add (.add (.add (.mul (.v 0) (.v 4)) (.mul (.v 2) (.v 2))) (.mul (.v 4) (.v 0))) (.add (.add (.mul (.v 1) (.v 3)) (.mul (.v 3) (.v 1))) (.mul (.v 6) (.mul (.v 5) (.v 5))))) (.neg (.add (.add (.add (.add (.mul (.v 0) (.v 4)) (.mul (.v 3) (.v 1))) (.neg (.add (.mul (.v 2) (.v 2)) (.mul (.v 6) (.mul (.v 5) (.v 5)))))) (.neg (.add .zero (.neg (.v 4))))) (.add (.add (.add (.mul (.v 0) (.v 4)) (.mul (.v 3) (.v 1))) (.neg (.add (.mul (.v 2) (.v 2)) (.mul (.v 6) (.mul (.v 5) (.v 5)))))) (.neg (.add .zero (.neg (.v 4)))))))) (by decide)
theorem sqr_id5 {R : Type} (K : CR R) (c0 c1 c2 c3 c4 c5 q z : R) : (K.add (K.add (K.sub (K.add (K.mul c1 c4) (K.mul c4 c1)) (K.sub K.zero c5)) (K.sub (K.add (K.mul c1 c4) (K.mul c4 c1)) (K.sub K.zero c5))) (K.add (K.mul c1 c4) (K.mul c4 c1))) = (K.add (K.add (K.add (K.add (K.mul c0 c5) (K.mul c2 c3)) (K.mul c4 c1)) (K.add (K.add (K.mul c1 c4) (K.mul c3 c2)) (K.mul c5 c0))) (K.add (K.sub (K.sub (K.add (K.mul c1 c4) (K.mul c4 c1)) (K.add (K.mul c0 c5) (K.mul c3 c2))) (K.sub K.zero c5)) (K.sub (K.sub (K.add (K.mul c1 c4) (K.mul c4 c1)) (K.add (K.mul c0 c5) (K.mul c3 c2))) (K.sub K.zero c5)))) :=
  ring_id K (envL K [c0, c1, c2, c3, c4, c5, q, z]) (.add (.add (.add (.add (.mul (.v 1) (.v 4)) (.mul (.v 4) (.v 1))) (.neg (.add .zero (.neg (.v 5))))) (.add (.add (.mul (.v 1) (.v 4)) (.mul (.v 4) (.v 1))) (.neg (.add .zero (.neg (.v 5)))))) (.add (.mul (.v 1) (.v 4)) (.mul (.v 4) (.v 1)))) (.add (.add (.add (.add (.mul (.v 0) (.v 5)) (.mul (.v 2) (.v 3))) (.mul (.v 4) (.v 1))) (.add (.add (.mul (.v 1) (.v 4)) (.mul (.v 3) (.v 2))) (.mul (.v 5) (.v 0)))) (.add (.add (.add (.add (.mul (.v 1) (.v 4)) (.mul (.v 4) (.v 1))) (.neg (.add (.mul (.v 0) (.v 5)) (.mul (.v 3) (.v 2))))) (.neg (.add .zero (.neg (.v 5))))) (.add (.add (.add (.mul (.v 1) (.v 4)) (.mul (.v 4) (.v 1))) (.neg (.add (.mul (.v 0) (.v 5)) (.mul (.v 3) (.v 2))))) (.neg (.add .zero (.neg (.v 5))))))) (by decide)
/-- a sixth root of one, in Fp2 -/
def zE : Q2 := (sn1, F1.zero)
theorem tt0 (c : Q2) : sc2 (sc2 c sn0) sn0 = F2.mul F2.one c := by
  rw [sc2_mul, sc2_mul, F2.mul_assoc, F2.mul_comm]
  rw [show F2.mul (sn0, F1.zero) (sn0, F1.zero) = F2.one by decide]
theorem tu0 (c : Q2) : sc2 c sn0 = F2.mul F2.one c := by
  rw [sc2_mul, F2.mul_comm]
  rw [show (sn0, F1.zero) = F2.one by decide]
theorem tt1 (c : Q2) : sc2 (sc2 c sn1) sn1 = F2.mul (F2.sub zE F2.one) c := by
  rw [sc2_mul, sc2_mul, F2.mul_assoc, F2.mul_comm]
  rw [show F2.mul (sn1, F1.zero) (sn1, F1.zero) = (F2.sub zE F2.one) by decide]
theorem tu1 (c : Q2) : sc2 c sn1 = F2.mul zE c := by
  rw [sc2_mul, F2.mul_comm]
  rw [show (sn1, F1.zero) = zE by decide]
theorem tt2 (c : Q2) : sc2 (sc2 c sn2) sn2 = F2.mul (F2.neg zE) c := by
  rw [sc2_mul, sc2_mul, F2.mul_assoc, F2.mul_comm]
  rw [show F2.mul (sn2, F1.zero) (sn2, F1.zero) = (F2.neg zE) by decide]
theorem tu2 (c : Q2) : sc2 c sn2 = F2.mul (F2.sub zE F2.one) c := by
  rw [sc2_mul, F2.mul_comm]
  rw [show (sn2, F1.zero) = (F2.sub zE F2.one) by decide]
theorem tt3 (c : Q2) : sc2 (sc2 c sn3) sn3 = F2.mul F2.one c := by
  rw [sc2_mul, sc2_mul, F2.mul_assoc, F2.mul_comm]
  rw [show F2.mul (sn3, F1.zero) (sn3, F1.zero) = F2.one by decide]
theorem tu3 (c : Q2) : sc2 c sn3 = F2.mul (F2.neg F2.one) c := by
  rw [sc2_mul, F2.mul_comm]
  rw [show (sn3, F1.zero) = (F2.neg F2.one) by decide]
theorem tt4 (c : Q2) : sc2 (sc2 c sn4) sn4 = F2.mul (F2.sub zE F2.one) c := by
  rw [sc2_mul, sc2_mul, F2.mul_assoc, F2.mul_comm]
  rw [show F2.mul (sn4, F1.zero) (sn4, F1.zero) = (F2.sub zE F2.one) by decide]
theorem tu4 (c : Q2) : sc2 c sn4 = F2.mul (F2.neg zE) c := by
  rw [sc2_mul, F2.mul_comm]
  rw [show (sn4, F1.zero) = (F2.neg zE) by decide]
theorem tt5 (c : Q2) : sc2 (sc2 c sn5) sn5 = F2.mul (F2.neg zE) c := by
  rw [sc2_mul, sc2_mul, F2.mul_assoc, F2.mul_comm]
  rw [show F2.mul (sn5, F1.zero) (sn5, F1.zero) = (F2.neg zE) by decide]
theorem tu5 (c : Q2) : sc2 c sn5 = F2.mul (F2.sub F2.one zE) c := by
  rw [sc2_mul, F2.mul_comm]
  rw [show (sn5, F1.zero) = (F2.sub F2.one zE) by decide]
theorem sub_zero_of {R : Type} (K : CR R) {a b : R} (h : K.sub a b = K.zero) : a = b := by
  have h1 : K.add (K.add a (K.neg b)) b = b := by
    rw [show K.add a (K.neg b) = K.zero from h, K.zero_add]
  rw [K.add_assoc, K.neg_add, K.add_zero] at h1
  exact h1
theorem sub_self' {R : Type} (K : CR R) (a : R) : K.sub a a = K.zero := K.add_neg a
theorem iff_id {R : Type} (K : CR R) {L R' Z Zi A B : R} (h : L = K.add R' (K.mul Z (K.sub A B))) (hz : K.mul Zi Z = K.one) : L = R' ↔ A = B := by
  constructor
  · intro e
    rw [e] at h
    have h1 : K.mul Z (K.sub A B) = K.zero := by
      have h2 : K.add R' (K.mul Z (K.sub A B)) = K.add R' K.zero := by rw [← h, K.add_zero]
      exact K.add_cancel h2
    have h3 : K.sub A B = K.zero := by
      rw [← K.one_mul (K.sub A B), ← hz, K.mul_assoc, h1, K.mul_zero]
    exact sub_zero_of K h3
  · intro e
    rw [h, e, sub_self', K.mul_zero, K.add_zero]
/-- elements of Fp4: what stands before 1 and s -/
abbrev Q4 := Q2 × Q2
def F4 : CR Q4 := F2.sq xiE
def s4 (a : Q4) : Q4 := (F2.mul a.2 xiE, a.1)
def cj4 (a : Q4) : Q4 := (a.1, F2.sub F2.zero a.2)
def tri4 (a b : Q4) : Q4 := (F2.add (F2.add (F2.sub a.1 b.1) (F2.sub a.1 b.1)) a.1, F2.add (F2.add (F2.sub a.2 b.2) (F2.sub a.2 b.2)) a.2)
def fX (x : Q12) : Q4 := (x.1.1, x.2.2.1)
def fY (x : Q12) : Q4 := (x.2.1, x.1.2.2)
def fZ (x : Q12) : Q4 := (x.1.2.1, x.2.2.2)
def join4 (x y z : Q4) : Q12 := ((x.1, z.1, y.2), (y.1, x.2, z.2))
/-- the three equations -/
def inE1 (x : Q12) : Prop := F4.sub (F4.mul (fX x) (fX x)) (s4 (F4.mul (fY x) (fZ x))) = cj4 (fX x)
def inE2 (x : Q12) : Prop := F4.sub (F4.mul (fX x) (fY x)) (s4 (F4.mul (fZ x) (fZ x))) = cj4 (fY x)
def inE3 (x : Q12) : Prop := F4.sub (F4.mul (fY x) (fY x)) (F4.mul (fX x) (fZ x)) = cj4 (fZ x)
def sqr4 (x : Q12) : Q12 := join4 (tri4 (F4.mul (fX x) (fX x)) (cj4 (fX x))) (tri4 (s4 (F4.mul (fZ x) (fZ x))) (F4.sub F4.zero (cj4 (fY x)))) (tri4 (F4.mul (fY x) (fY x)) (cj4 (fZ x)))
theorem mul12_c (x y : Q12) : F12.mul x y = (((F2.add (F2.add (F2.mul x.1.1 y.1.1) (F2.mul xiE (F2.add (F2.mul x.1.2.1 y.1.2.2) (F2.mul x.1.2.2 y.1.2.1)))) (F2.mul (F2.add (F2.add (F2.mul x.2.1 y.2.2.2) (F2.mul x.2.2.1 y.2.2.1)) (F2.mul x.2.2.2 y.2.1)) xiE)), (F2.add (F2.add (F2.add (F2.mul x.1.1 y.1.2.1) (F2.mul x.1.2.1 y.1.1)) (F2.mul xiE (F2.mul x.1.2.2 y.1.2.2))) (F2.add (F2.mul x.2.1 y.2.1) (F2.mul xiE (F2.add (F2.mul x.2.2.1 y.2.2.2) (F2.mul x.2.2.2 y.2.2.1))))), (F2.add (F2.add (F2.add (F2.mul x.1.1 y.1.2.2) (F2.mul x.1.2.1 y.1.2.1)) (F2.mul x.1.2.2 y.1.1)) (F2.add (F2.add (F2.mul x.2.1 y.2.2.1) (F2.mul x.2.2.1 y.2.1)) (F2.mul xiE (F2.mul x.2.2.2 y.2.2.2))))), ((F2.add (F2.add (F2.mul x.1.1 y.2.1) (F2.mul xiE (F2.add (F2.mul x.1.2.1 y.2.2.2) (F2.mul x.1.2.2 y.2.2.1)))) (F2.add (F2.mul x.2.1 y.1.1) (F2.mul xiE (F2.add (F2.mul x.2.2.1 y.1.2.2) (F2.mul x.2.2.2 y.1.2.1))))), (F2.add (F2.add (F2.add (F2.mul x.1.1 y.2.2.1) (F2.mul x.1.2.1 y.2.1)) (F2.mul xiE (F2.mul x.1.2.2 y.2.2.2))) (F2.add (F2.add (F2.mul x.2.1 y.1.2.1) (F2.mul x.2.2.1 y.1.1)) (F2.mul xiE (F2.mul x.2.2.2 y.1.2.2)))), (F2.add (F2.add (F2.add (F2.mul x.1.1 y.2.2.2) (F2.mul x.1.2.1 y.2.2.1)) (F2.mul x.1.2.2 y.2.1)) (F2.add (F2.add (F2.mul x.2.1 y.1.2.2) (F2.mul x.2.2.1 y.1.2.1)) (F2.mul x.2.2.2 y.1.1))))) := by
  refine Prod.ext ?_ rfl
  show F6.add (F6.mul x.1 y.1) (F6.mul vE (F6.mul x.2 y.2)) = _
  rw [raw_t6v]
  rfl
theorem tt_c (x : Q12) : F12.mul (tw12 (tw12 x)) x = (((F2.add (F2.add (F2.mul (F2.mul F2.one x.1.1) x.1.1) (F2.mul xiE (F2.add (F2.mul (F2.mul (F2.neg zE) x.1.2.1) x.1.2.2) (F2.mul (F2.mul (F2.sub zE F2.one) x.1.2.2) x.1.2.1)))) (F2.mul (F2.add (F2.add (F2.mul (F2.mul (F2.sub zE F2.one) x.2.1) x.2.2.2) (F2.mul (F2.mul F2.one x.2.2.1) x.2.2.1)) (F2.mul (F2.mul (F2.neg zE) x.2.2.2) x.2.1)) xiE)), (F2.add (F2.add (F2.add (F2.mul (F2.mul F2.one x.1.1) x.1.2.1) (F2.mul (F2.mul (F2.neg zE) x.1.2.1) x.1.1)) (F2.mul xiE (F2.mul (F2.mul (F2.sub zE F2.one) x.1.2.2) x.1.2.2))) (F2.add (F2.mul (F2.mul (F2.sub zE F2.one) x.2.1) x.2.1) (F2.mul xiE (F2.add (F2.mul (F2.mul F2.one x.2.2.1) x.2.2.2) (F2.mul (F2.mul (F2.neg zE) x.2.2.2) x.2.2.1))))), (F2.add (F2.add (F2.add (F2.mul (F2.mul F2.one x.1.1) x.1.2.2) (F2.mul (F2.mul (F2.neg zE) x.1.2.1) x.1.2.1)) (F2.mul (F2.mul (F2.sub zE F2.one) x.1.2.2) x.1.1)) (F2.add (F2.add (F2.mul (F2.mul (F2.sub zE F2.one) x.2.1) x.2.2.1) (F2.mul (F2.mul F2.one x.2.2.1) x.2.1)) (F2.mul xiE (F2.mul (F2.mul (F2.neg zE) x.2.2.2) x.2.2.2))))), ((F2.add (F2.add (F2.mul (F2.mul F2.one x.1.1) x.2.1) (F2.mul xiE (F2.add (F2.mul (F2.mul (F2.neg zE) x.1.2.1) x.2.2.2) (F2.mul (F2.mul (F2.sub zE F2.one) x.1.2.2) x.2.2.1)))) (F2.add (F2.mul (F2.mul (F2.sub zE F2.one) x.2.1) x.1.1) (F2.mul xiE (F2.add (F2.mul (F2.mul F2.one x.2.2.1) x.1.2.2) (F2.mul (F2.mul (F2.neg zE) x.2.2.2) x.1.2.1))))), (F2.add (F2.add (F2.add (F2.mul (F2.mul F2.one x.1.1) x.2.2.1) (F2.mul (F2.mul (F2.neg zE) x.1.2.1) x.2.1)) (F2.mul xiE (F2.mul (F2.mul (F2.sub zE F2.one) x.1.2.2) x.2.2.2))) (F2.add (F2.add (F2.mul (F2.mul (F2.sub zE F2.one) x.2.1) x.1.2.1) (F2.mul (F2.mul F2.one x.2.2.1) x.1.1)) (F2.mul xiE (F2.mul (F2.mul (F2.neg zE) x.2.2.2) x.1.2.2)))), (F2.add (F2.add (F2.add (F2.mul (F2.mul F2.one x.1.1) x.2.2.2) (F2.mul (F2.mul (F2.neg zE) x.1.2.1) x.2.2.1)) (F2.mul (F2.mul (F2.sub zE F2.one) x.1.2.2) x.2.1)) (F2.add (F2.add (F2.mul (F2.mul (F2.sub zE F2.one) x.2.1) x.1.2.2) (F2.mul (F2.mul F2.one x.2.2.1) x.1.2.1)) (F2.mul (F2.mul (F2.neg zE) x.2.2.2) x.1.1))))) := by
  rw [show tw12 (tw12 x) = ((F2.mul F2.one x.1.1, F2.mul (F2.neg zE) x.1.2.1, F2.mul (F2.sub zE F2.one) x.1.2.2), (F2.mul (F2.sub zE F2.one) x.2.1, F2.mul F2.one x.2.2.1, F2.mul (F2.neg zE) x.2.2.2)) from Prod.ext (Prod.ext (tt0 _) (Prod.ext (tt2 _) (tt4 _))) (Prod.ext (tt1 _) (Prod.ext (tt3 _) (tt5 _)))]
  exact mul12_c _ _
theorem tu_c (x : Q12) : tw12 x = (((F2.mul F2.one x.1.1), (F2.mul (F2.sub zE F2.one) x.1.2.1), (F2.mul (F2.neg zE) x.1.2.2)), ((F2.mul zE x.2.1), (F2.mul (F2.neg F2.one) x.2.2.1), (F2.mul (F2.sub F2.one zE) x.2.2.2))) := Prod.ext (Prod.ext (tu0 _) (Prod.ext (tu2 _) (tu4 _))) (Prod.ext (tu1 _) (Prod.ext (tu3 _) (tu5 _)))
theorem q12_iff {a0 a1 a2 a3 a4 a5 b0 b1 b2 b3 b4 b5 : Q2} : (((a0, a2, a4), (a1, a3, a5)) : Q12) = ((b0, b2, b4), (b1, b3, b5)) ↔ ((a0 = b0 ∧ a3 = b3) ∧ (a1 = b1 ∧ a4 = b4) ∧ (a2 = b2 ∧ a5 = b5)) := by
  simp only [Prod.mk.injEq]
  constructor
  · rintro ⟨⟨h0, h2, h4⟩, h1, h3, h5⟩
    exact ⟨⟨h0, h3⟩, ⟨h1, h4⟩, h2, h5⟩
  · rintro ⟨⟨h0, h3⟩, ⟨h1, h4⟩, h2, h5⟩
    exact ⟨⟨h0, h2, h4⟩, h1, h3, h5⟩
theorem q4_iff {a b : Q4} : a = b ↔ (a.1 = b.1 ∧ a.2 = b.2) := ⟨fun h => by rw [h]; exact ⟨rfl, rfl⟩, fun h => Prod.ext h.1 h.2⟩
/-- a^(p^4) a is a^(p^2) just if the three equations hold -/
theorem cyc_iff (x : Q12) : F12.mul (tw12 (tw12 x)) x = tw12 x ↔ (inE1 x ∧ inE2 x ∧ inE3 x) := by
  rw [tt_c, tu_c, q12_iff]
  unfold inE1 inE2 inE3
  rw [q4_iff, q4_iff, q4_iff]
  have e0 := iff_id F2 (cyc_id0 F2 x.1.1 x.2.1 x.1.2.1 x.2.2.1 x.1.2.2 x.2.2.2 xiE zE) (show F2.mul F2.one F2.one = F2.one by decide)
  have e1 := iff_id F2 (cyc_id1 F2 x.1.1 x.2.1 x.1.2.1 x.2.2.1 x.1.2.2 x.2.2.2 xiE zE) (show F2.mul (F2.sub F2.one zE) zE = F2.one by decide)
  have e2 := iff_id F2 (cyc_id2 F2 x.1.1 x.2.1 x.1.2.1 x.2.2.1 x.1.2.2 x.2.2.2 xiE zE) (show F2.mul (F2.neg zE) (F2.sub zE F2.one) = F2.one by decide)
  have e3 := iff_id F2 (cyc_id3 F2 x.1.1 x.2.1 x.1.2.1 x.2.2.1 x.1.2.2 x.2.2.2 xiE zE) (show F2.mul F2.one F2.one = F2.one by decide)
  have e4 := iff_id F2 (cyc_id4 F2 x.1.1 x.2.1 x.1.2.1 x.2.2.1 x.1.2.2 x.2.2.2 xiE zE) (show F2.mul (F2.sub F2.one zE) zE = F2.one by decide)
  have e5 := iff_id F2 (cyc_id5 F2 x.1.1 x.2.1 x.1.2.1 x.2.2.1 x.1.2.2 x.2.2.2 xiE zE) (show F2.mul (F2.neg zE) (F2.sub zE F2.one) = F2.one by decide)
  constructor
  · rintro ⟨⟨h0, h3⟩, ⟨h1, h4⟩, h2, h5⟩
    exact ⟨⟨e0.1 h0, e3.1 h3⟩, ⟨e1.1 h1, e4.1 h4⟩, ⟨e2.1 h2, e5.1 h5⟩⟩
  · rintro ⟨⟨h0, h3⟩, ⟨h1, h4⟩, ⟨h2, h5⟩⟩
    exact ⟨⟨e0.2 h0, e3.2 h3⟩, ⟨e1.2 h1, e4.2 h4⟩, ⟨e2.2 h2, e5.2 h5⟩⟩
theorem add_dd {R : Type} (K : CR R) {t s a b : R} (h : t = K.add s (K.add (K.sub a b) (K.sub a b))) (e : a = b) : t = s := by
  rw [h, e, sub_self', K.add_zero, K.add_zero]
theorem sub_dd {R : Type} (K : CR R) {t s a b : R} (h : t = K.sub s (K.add (K.sub a b) (K.sub a b))) (e : a = b) : t = s := by
  rw [h, e, sub_self', K.add_zero]
  show K.add s (K.neg K.zero) = s
  rw [neg_zero, K.add_zero]
/-- there the square is as Granger and Scott say -/
theorem sqr_eq (x : Q12) (h : inE1 x ∧ inE2 x ∧ inE3 x) : sqr4 x = F12.mul x x := by
  unfold inE1 inE2 inE3 at h
  rw [q4_iff, q4_iff, q4_iff] at h
  obtain ⟨⟨h0, h3⟩, ⟨h1, h4⟩, h2, h5⟩ := h
  rw [mul12_c]
  have hz : F12.zero = F12.zero := rfl
  refine q12_iff.2 ⟨⟨?_, ?_⟩, ⟨?_, ?_⟩, ?_, ?_⟩
  · exact add_dd F2 (sqr_id0 F2 x.1.1 x.2.1 x.1.2.1 x.2.2.1 x.1.2.2 x.2.2.2 xiE zE) h0
  · exact add_dd F2 (sqr_id3 F2 x.1.1 x.2.1 x.1.2.1 x.2.2.1 x.1.2.2 x.2.2.2 xiE zE) h3
  · exact sub_dd F2 (sqr_id1 F2 x.1.1 x.2.1 x.1.2.1 x.2.2.1 x.1.2.2 x.2.2.2 xiE zE) h1
  · exact sub_dd F2 (sqr_id4 F2 x.1.1 x.2.1 x.1.2.1 x.2.2.1 x.1.2.2 x.2.2.2 xiE zE) h4
  · exact add_dd F2 (sqr_id2 F2 x.1.1 x.2.1 x.1.2.1 x.2.2.1 x.1.2.2 x.2.2.2 xiE zE) h2
  · exact add_dd F2 (sqr_id5 F2 x.1.1 x.2.1 x.1.2.1 x.2.2.1 x.1.2.2 x.2.2.2 xiE zE) h5
/-- is it in the cyclotomic subgroup? -/
def inC (x : Q12) : Prop := x ≠ F12.zero ∧ F12.mul (tw12 (tw12 x)) x = tw12 x
end Go.Proofs.YtaingnhikbaplaaGreat.Ex
namespace Go.Proofs.YtaingnhikbaplaaGreat.Ex
set_option linter.unusedVariables false
set_option linter.unusedSimpArgs false
open Go.RowKit
theorem w4_inj {x y : Fq} (h : w4 x.1 = w4 y.1) : x = y := by
  unfold w4 at h
  simp only [List.cons.injEq, Value.int.injEq, true_and, and_true, Int.ofNat_inj] at h
  apply Fin.ext
  rw [← fw_valp x.2, ← fw_valp y.2, h.1, h.2.1, h.2.2.1, h.2.2.2]
theorem flat_inj : ∀ (l m : List Fq), flat (l.map .f) = flat (m.map .f) → l = m
  | [], [], _ => rfl
  | a :: r, b :: s, h => by
    have h' : w4 a.1 ++ flat (r.map .f) = w4 b.1 ++ flat (s.map .f) := h
    obtain ⟨h1, h2⟩ := List.append_inj h' rfl
    rw [w4_inj h1, flat_inj r s h2]
  | [], b :: s, h => by cases h
  | a :: r, [], h => by cases h
end Go.Proofs.YtaingnhikbaplaaGreat.Ex
