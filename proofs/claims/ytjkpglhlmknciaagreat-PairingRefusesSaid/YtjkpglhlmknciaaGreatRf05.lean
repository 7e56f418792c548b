/- Rf05 -/
import Derived.WalkKit
import Derived.WalkLawsBesides
import Derived.WalkSpells
import Derived.ProofKit
import Derived.RegionTactic
import Derived.BigRegion
import Derived.BigQuiet
import Derived.Deep.QuietTactic
import Derived.ChangeAlike
import Derived.Laws.Externs
import Derived.LoopN
import Derived.Below
import Derived.Lib.Hide
import Derived.Shelf.Small.Bits
import Derived.Shelf.Strconv.Itoa0
import Derived.Shelf.Bits.Mul64
import Derived.StillTailTactics
import Derived.Laws.Bits64b
import Derived.Laws.Bits64
import Derived.Deep.Draws
import Derived.LoopTactic
import Derived.Deep.LoopGhost
import Derived.Test.YtjkpglhlmknciaaGreatRf04
import Derived.Test.YtjkpglhlmknciaaGreatProg
import Derived.Test.YtjkpglhlmknciaaGreatRf00
set_option maxRecDepth 100000
set_option linter.unusedVariables false
set_option linter.unusedSimpArgs false
set_option linter.unnecessarySimpa false
namespace Go.Proofs.YtjkpglhlmknciaaGreat.Ex
open Go.Proofs.Tryz
set_option maxRecDepth 10000
theorem aKT {R:Type} (K:CR R) (c0 c1 c2 c3 c4 c5 q z:R):(K.add (K.add (K.mul (K.mul K.one c0) c0) (K.mul q (K.add (K.mul (K.mul (K.neg z) c2) c4) (K.mul (K.mul (K.sub z K.one) c4) c2)))) (K.mul (K.add (K.add (K.mul (K.mul (K.sub z K.one) c1) c5) (K.mul (K.mul K.one c3) c3)) (K.mul (K.mul (K.neg z) c5) c1)) q))=(K.add (K.mul K.one c0) (K.mul K.one (K.sub (K.sub (K.add (K.mul c0 c0) (K.mul q (K.mul c3 c3))) (K.mul (K.add (K.mul c1 c5) (K.mul c4 c2)) q)) c0))) :=
 aE K (aW K [c0,c1,c2,c3,c4,c5,q,z]) (RE.one*Z0*Z0+Z6*((-Z7)*Z2*Z4+(Z7-RE.one)*Z4*Z2)+((Z7-RE.one)*Z1*Z5+RE.one*Z3*Z3+(-Z7)*Z5*Z1)*Z6) (RE.one*Z0+RE.one*(Z0*Z0+Z6*(Z3*Z3)-(Z1*Z5+Z4*Z2)*Z6-Z0)) (by decide)
theorem aKS {R:Type} (K:CR R) (c0 c1 c2 c3 c4 c5 q z:R):(K.add (K.add (K.mul (K.mul K.one c0) c1) (K.mul q (K.add (K.mul (K.mul (K.neg z) c2) c5) (K.mul (K.mul (K.sub z K.one) c4) c3)))) (K.add (K.mul (K.mul (K.sub z K.one) c1) c0) (K.mul q (K.add (K.mul (K.mul K.one c3) c4) (K.mul (K.mul (K.neg z) c5) c2)))))=(K.add (K.mul z c1) (K.mul z (K.sub (K.sub (K.add (K.mul c0 c1) (K.mul q (K.mul c3 c4))) (K.mul (K.add (K.mul c2 c5) (K.mul c5 c2)) q)) c1))) :=
 aE K (aW K [c0,c1,c2,c3,c4,c5,q,z]) (RE.one*Z0*Z1+Z6*((-Z7)*Z2*Z5+(Z7-RE.one)*Z4*Z3)+((Z7-RE.one)*Z1*Z0+Z6*(RE.one*Z3*Z4+(-Z7)*Z5*Z2))) (Z7*Z1+Z7*(Z0*Z1+Z6*(Z3*Z4)-(Z2*Z5+Z5*Z2)*Z6-Z1)) (by decide)
theorem aKR {R:Type} (K:CR R) (c0 c1 c2 c3 c4 c5 q z:R):(K.add (K.add (K.add (K.mul (K.mul K.one c0) c2) (K.mul (K.mul (K.neg z) c2) c0)) (K.mul q (K.mul (K.mul (K.sub z K.one) c4) c4))) (K.add (K.mul (K.mul (K.sub z K.one) c1) c1) (K.mul q (K.add (K.mul (K.mul K.one c3) c5) (K.mul (K.mul (K.neg z) c5) c3)))))=(K.add (K.mul (K.sub z K.one) c2) (K.mul (K.sub z K.one) (K.sub (K.sub (K.add (K.mul c1 c1) (K.mul q (K.mul c4 c4))) (K.add (K.mul c0 c2) (K.mul q (K.mul c3 c5)))) c2))) :=
 aE K (aW K [c0,c1,c2,c3,c4,c5,q,z]) (RE.one*Z0*Z2+(-Z7)*Z2*Z0+Z6*((Z7-RE.one)*Z4*Z4)+((Z7-RE.one)*Z1*Z1+Z6*(RE.one*Z3*Z5+(-Z7)*Z5*Z3))) ((Z7-RE.one)*Z2+(Z7-RE.one)*(Z1*Z1+Z6*(Z4*Z4)-(Z0*Z2+Z6*(Z3*Z5))-Z2)) (by decide)
theorem aKQ {R:Type} (K:CR R) (c0 c1 c2 c3 c4 c5 q z:R):(K.add (K.add (K.add (K.mul (K.mul K.one c0) c3) (K.mul (K.mul (K.neg z) c2) c1)) (K.mul q (K.mul (K.mul (K.sub z K.one) c4) c5))) (K.add (K.add (K.mul (K.mul (K.sub z K.one) c1) c2) (K.mul (K.mul K.one c3) c0)) (K.mul q (K.mul (K.mul (K.neg z) c5) c4))))=(K.add (K.mul (K.neg K.one) c3) (K.mul K.one (K.sub (K.sub (K.add (K.mul c0 c3) (K.mul c3 c0)) (K.add (K.mul c1 c2) (K.mul q (K.mul c4 c5)))) (K.sub K.zero c3)))) :=
 aE K (aW K [c0,c1,c2,c3,c4,c5,q,z]) (RE.one*Z0*Z3+(-Z7)*Z2*Z1+Z6*((Z7-RE.one)*Z4*Z5)+((Z7-RE.one)*Z1*Z2+RE.one*Z3*Z0+Z6*((-Z7)*Z5*Z4))) ((-RE.one)*Z3+RE.one*(Z0*Z3+Z3*Z0-(Z1*Z2+Z6*(Z4*Z5))-(RE.zero-Z3))) (by decide)
theorem aKP {R:Type} (K:CR R) (c0 c1 c2 c3 c4 c5 q z:R):(K.add (K.add (K.add (K.mul (K.mul K.one c0) c4) (K.mul (K.mul (K.neg z) c2) c2)) (K.mul (K.mul (K.sub z K.one) c4) c0)) (K.add (K.add (K.mul (K.mul (K.sub z K.one) c1) c3) (K.mul (K.mul K.one c3) c1)) (K.mul q (K.mul (K.mul (K.neg z) c5) c5))))=(K.add (K.mul (K.neg z) c4) (K.mul z (K.sub (K.sub (K.add (K.mul c0 c4) (K.mul c3 c1)) (K.add (K.mul c2 c2) (K.mul q (K.mul c5 c5)))) (K.sub K.zero c4)))) :=
 aE K (aW K [c0,c1,c2,c3,c4,c5,q,z]) (RE.one*Z0*Z4+(-Z7)*Z2*Z2+(Z7-RE.one)*Z4*Z0+((Z7-RE.one)*Z1*Z3+RE.one*Z3*Z1+Z6*((-Z7)*Z5*Z5))) ((-Z7)*Z4+Z7*(Z0*Z4+Z3*Z1-(Z2*Z2+Z6*(Z5*Z5))-(RE.zero-Z4))) (by decide)
theorem aKO {R:Type} (K:CR R) (c0 c1 c2 c3 c4 c5 q z:R):(K.add (K.add (K.add (K.mul (K.mul K.one c0) c5) (K.mul (K.mul (K.neg z) c2) c3)) (K.mul (K.mul (K.sub z K.one) c4) c1)) (K.add (K.add (K.mul (K.mul (K.sub z K.one) c1) c4) (K.mul (K.mul K.one c3) c2)) (K.mul (K.mul (K.neg z) c5) c0)))=(K.add (K.mul (K.sub K.one z) c5) (K.mul (K.sub z K.one) (K.sub (K.sub (K.add (K.mul c1 c4) (K.mul c4 c1)) (K.add (K.mul c0 c5) (K.mul c3 c2))) (K.sub K.zero c5)))) :=
 aE K (aW K [c0,c1,c2,c3,c4,c5,q,z]) (RE.one*Z0*Z5+(-Z7)*Z2*Z3+(Z7-RE.one)*Z4*Z1+((Z7-RE.one)*Z1*Z4+RE.one*Z3*Z2+(-Z7)*Z5*Z0)) ((RE.one-Z7)*Z5+(Z7-RE.one)*(Z1*Z4+Z4*Z1-(Z0*Z5+Z3*Z2)-(RE.zero-Z5))) (by decide)
theorem aHv {R:Type} (K:CR R) (c0 c1 c2 c3 c4 c5 q z:R):(K.add (K.add (K.sub (K.add (K.mul c0 c0) (K.mul q (K.mul c3 c3))) c0) (K.sub (K.add (K.mul c0 c0) (K.mul q (K.mul c3 c3))) c0)) (K.add (K.mul c0 c0) (K.mul q (K.mul c3 c3))))=(K.add (K.add (K.add (K.mul c0 c0) (K.mul q (K.add (K.mul c2 c4) (K.mul c4 c2)))) (K.mul (K.add (K.add (K.mul c1 c5) (K.mul c3 c3)) (K.mul c5 c1)) q)) (K.add (K.sub (K.sub (K.add (K.mul c0 c0) (K.mul q (K.mul c3 c3))) (K.mul (K.add (K.mul c1 c5) (K.mul c4 c2)) q)) c0) (K.sub (K.sub (K.add (K.mul c0 c0) (K.mul q (K.mul c3 c3))) (K.mul (K.add (K.mul c1 c5) (K.mul c4 c2)) q)) c0))) :=
 aE K (aW K [c0,c1,c2,c3,c4,c5,q,z]) (Z0*Z0+Z6*(Z3*Z3)-Z0+(Z0*Z0+Z6*(Z3*Z3)-Z0)+(Z0*Z0+Z6*(Z3*Z3))) (Z0*Z0+Z6*(Z2*Z4+Z4*Z2)+(Z1*Z5+Z3*Z3+Z5*Z1)*Z6+(Z0*Z0+Z6*(Z3*Z3)-(Z1*Z5+Z4*Z2)*Z6-Z0+(Z0*Z0+Z6*(Z3*Z3)-(Z1*Z5+Z4*Z2)*Z6-Z0))) (by decide)
theorem aHu {R:Type} (K:CR R) (c0 c1 c2 c3 c4 c5 q z:R):(K.add (K.add (K.sub (K.mul (K.add (K.mul c2 c5) (K.mul c5 c2)) q) (K.sub K.zero c1)) (K.sub (K.mul (K.add (K.mul c2 c5) (K.mul c5 c2)) q) (K.sub K.zero c1))) (K.mul (K.add (K.mul c2 c5) (K.mul c5 c2)) q))=(K.sub (K.add (K.add (K.mul c0 c1) (K.mul q (K.add (K.mul c2 c5) (K.mul c4 c3)))) (K.add (K.mul c1 c0) (K.mul q (K.add (K.mul c3 c4) (K.mul c5 c2))))) (K.add (K.sub (K.sub (K.add (K.mul c0 c1) (K.mul q (K.mul c3 c4))) (K.mul (K.add (K.mul c2 c5) (K.mul c5 c2)) q)) c1) (K.sub (K.sub (K.add (K.mul c0 c1) (K.mul q (K.mul c3 c4))) (K.mul (K.add (K.mul c2 c5) (K.mul c5 c2)) q)) c1))) :=
 aE K (aW K [c0,c1,c2,c3,c4,c5,q,z]) ((Z2*Z5+Z5*Z2)*Z6-(RE.zero-Z1)+((Z2*Z5+Z5*Z2)*Z6-(RE.zero-Z1))+(Z2*Z5+Z5*Z2)*Z6) (Z0*Z1+Z6*(Z2*Z5+Z4*Z3)+(Z1*Z0+Z6*(Z3*Z4+Z5*Z2))-(Z0*Z1+Z6*(Z3*Z4)-(Z2*Z5+Z5*Z2)*Z6-Z1+(Z0*Z1+Z6*(Z3*Z4)-(Z2*Z5+Z5*Z2)*Z6-Z1))) (by decide)
theorem aHt {R:Type} (K:CR R) (c0 c1 c2 c3 c4 c5 q z:R):(K.add (K.add (K.sub (K.add (K.mul c1 c1) (K.mul q (K.mul c4 c4))) c2) (K.sub (K.add (K.mul c1 c1) (K.mul q (K.mul c4 c4))) c2)) (K.add (K.mul c1 c1) (K.mul q (K.mul c4 c4))))=(K.add (K.add (K.add (K.add (K.mul c0 c2) (K.mul c2 c0)) (K.mul q (K.mul c4 c4))) (K.add (K.mul c1 c1) (K.mul q (K.add (K.mul c3 c5) (K.mul c5 c3))))) (K.add (K.sub (K.sub (K.add (K.mul c1 c1) (K.mul q (K.mul c4 c4))) (K.add (K.mul c0 c2) (K.mul q (K.mul c3 c5)))) c2) (K.sub (K.sub (K.add (K.mul c1 c1) (K.mul q (K.mul c4 c4))) (K.add (K.mul c0 c2) (K.mul q (K.mul c3 c5)))) c2))) :=
 aE K (aW K [c0,c1,c2,c3,c4,c5,q,z]) (Z1*Z1+Z6*(Z4*Z4)-Z2+(Z1*Z1+Z6*(Z4*Z4)-Z2)+(Z1*Z1+Z6*(Z4*Z4))) (Z0*Z2+Z2*Z0+Z6*(Z4*Z4)+(Z1*Z1+Z6*(Z3*Z5+Z5*Z3))+(Z1*Z1+Z6*(Z4*Z4)-(Z0*Z2+Z6*(Z3*Z5))-Z2+(Z1*Z1+Z6*(Z4*Z4)-(Z0*Z2+Z6*(Z3*Z5))-Z2))) (by decide)
theorem aHs {R:Type} (K:CR R) (c0 c1 c2 c3 c4 c5 q z:R):(K.add (K.add (K.sub (K.add (K.mul c0 c3) (K.mul c3 c0)) (K.sub K.zero c3)) (K.sub (K.add (K.mul c0 c3) (K.mul c3 c0)) (K.sub K.zero c3))) (K.add (K.mul c0 c3) (K.mul c3 c0)))=(K.add (K.add (K.add (K.add (K.mul c0 c3) (K.mul c2 c1)) (K.mul q (K.mul c4 c5))) (K.add (K.add (K.mul c1 c2) (K.mul c3 c0)) (K.mul q (K.mul c5 c4)))) (K.add (K.sub (K.sub (K.add (K.mul c0 c3) (K.mul c3 c0)) (K.add (K.mul c1 c2) (K.mul q (K.mul c4 c5)))) (K.sub K.zero c3)) (K.sub (K.sub (K.add (K.mul c0 c3) (K.mul c3 c0)) (K.add (K.mul c1 c2) (K.mul q (K.mul c4 c5)))) (K.sub K.zero c3)))) :=
 aE K (aW K [c0,c1,c2,c3,c4,c5,q,z]) (Z0*Z3+Z3*Z0-(RE.zero-Z3)+(Z0*Z3+Z3*Z0-(RE.zero-Z3))+(Z0*Z3+Z3*Z0)) (Z0*Z3+Z2*Z1+Z6*(Z4*Z5)+(Z1*Z2+Z3*Z0+Z6*(Z5*Z4))+(Z0*Z3+Z3*Z0-(Z1*Z2+Z6*(Z4*Z5))-(RE.zero-Z3)+(Z0*Z3+Z3*Z0-(Z1*Z2+Z6*(Z4*Z5))-(RE.zero-Z3)))) (by decide)
theorem aHr {R:Type} (K:CR R) (c0 c1 c2 c3 c4 c5 q z:R):(K.add (K.add (K.sub (K.add (K.mul c2 c2) (K.mul q (K.mul c5 c5))) (K.sub K.zero (K.sub K.zero c4))) (K.sub (K.add (K.mul c2 c2) (K.mul q (K.mul c5 c5))) (K.sub K.zero (K.sub K.zero c4)))) (K.add (K.mul c2 c2) (K.mul q (K.mul c5 c5))))=(K.sub (K.add (K.add (K.add (K.mul c0 c4) (K.mul c2 c2)) (K.mul c4 c0)) (K.add (K.add (K.mul c1 c3) (K.mul c3 c1)) (K.mul q (K.mul c5 c5)))) (K.add (K.sub (K.sub (K.add (K.mul c0 c4) (K.mul c3 c1)) (K.add (K.mul c2 c2) (K.mul q (K.mul c5 c5)))) (K.sub K.zero c4)) (K.sub (K.sub (K.add (K.mul c0 c4) (K.mul c3 c1)) (K.add (K.mul c2 c2) (K.mul q (K.mul c5 c5)))) (K.sub K.zero c4)))) :=
 aE K (aW K [c0,c1,c2,c3,c4,c5,q,z]) (Z2*Z2+Z6*(Z5*Z5)-(RE.zero-(RE.zero-Z4))+(Z2*Z2+Z6*(Z5*Z5)-(RE.zero-(RE.zero-Z4)))+(Z2*Z2+Z6*(Z5*Z5))) (Z0*Z4+Z2*Z2+Z4*Z0+(Z1*Z3+Z3*Z1+Z6*(Z5*Z5))-(Z0*Z4+Z3*Z1-(Z2*Z2+Z6*(Z5*Z5))-(RE.zero-Z4)+(Z0*Z4+Z3*Z1-(Z2*Z2+Z6*(Z5*Z5))-(RE.zero-Z4)))) (by decide)
theorem aHq {R:Type} (K:CR R) (c0 c1 c2 c3 c4 c5 q z:R):(K.add (K.add (K.sub (K.add (K.mul c1 c4) (K.mul c4 c1)) (K.sub K.zero c5)) (K.sub (K.add (K.mul c1 c4) (K.mul c4 c1)) (K.sub K.zero c5))) (K.add (K.mul c1 c4) (K.mul c4 c1)))=(K.add (K.add (K.add (K.add (K.mul c0 c5) (K.mul c2 c3)) (K.mul c4 c1)) (K.add (K.add (K.mul c1 c4) (K.mul c3 c2)) (K.mul c5 c0))) (K.add (K.sub (K.sub (K.add (K.mul c1 c4) (K.mul c4 c1)) (K.add (K.mul c0 c5) (K.mul c3 c2))) (K.sub K.zero c5)) (K.sub (K.sub (K.add (K.mul c1 c4) (K.mul c4 c1)) (K.add (K.mul c0 c5) (K.mul c3 c2))) (K.sub K.zero c5)))) :=
 aE K (aW K [c0,c1,c2,c3,c4,c5,q,z]) (Z1*Z4+Z4*Z1-(RE.zero-Z5)+(Z1*Z4+Z4*Z1-(RE.zero-Z5))+(Z1*Z4+Z4*Z1)) (Z0*Z5+Z2*Z3+Z4*Z1+(Z1*Z4+Z3*Z2+Z5*Z0)+(Z1*Z4+Z4*Z1-(Z0*Z5+Z3*Z2)-(RE.zero-Z5)+(Z1*Z4+Z4*Z1-(Z0*Z5+Z3*Z2)-(RE.zero-Z5)))) (by decide)
def zE:Q2:=(Mc,F1.zero)
theorem tt0 (c:Q2):qH (qH c Tp) Tp=F2.mul F2.one c:=by
 rw[eD,eD,F2.mul_assoc,F2.mul_comm];rw[show F2.mul (Tp,F1.zero) (Tp,F1.zero)=F2.one by decide]
theorem tu0 (c:Q2):qH c Tp=F2.mul F2.one c:=by
 rw[eD,F2.mul_comm];rw[show (Tp,F1.zero)=F2.one by decide]
theorem tt1 (c:Q2):qH (qH c Mc) Mc=F2.mul (F2.sub zE F2.one) c:=by
 rw[eD,eD,F2.mul_assoc,F2.mul_comm];rw[show F2.mul (Mc,F1.zero) (Mc,F1.zero)=(F2.sub zE F2.one) by decide]
theorem tu1 (c:Q2):qH c Mc=F2.mul zE c:=by
 rw[eD,F2.mul_comm];rw[show (Mc,F1.zero)=zE by decide]
theorem tt2 (c:Q2):qH (qH c To) To=F2.mul (F2.neg zE) c:=by
 rw[eD,eD,F2.mul_assoc,F2.mul_comm];rw[show F2.mul (To,F1.zero) (To,F1.zero)=(F2.neg zE) by decide]
theorem tu2 (c:Q2):qH c To=F2.mul (F2.sub zE F2.one) c:=by
 rw[eD,F2.mul_comm];rw[show (To,F1.zero)=(F2.sub zE F2.one) by decide]
theorem tt3 (c:Q2):qH (qH c Tn) Tn=F2.mul F2.one c:=by
 rw[eD,eD,F2.mul_assoc,F2.mul_comm];rw[show F2.mul (Tn,F1.zero) (Tn,F1.zero)=F2.one by decide]
theorem tu3 (c:Q2):qH c Tn=F2.mul (F2.neg F2.one) c:=by
 rw[eD,F2.mul_comm];rw[show (Tn,F1.zero)=(F2.neg F2.one) by decide]
theorem tt4 (c:Q2):qH (qH c Tm) Tm=F2.mul (F2.sub zE F2.one) c:=by
 rw[eD,eD,F2.mul_assoc,F2.mul_comm];rw[show F2.mul (Tm,F1.zero) (Tm,F1.zero)=(F2.sub zE F2.one) by decide]
theorem tu4 (c:Q2):qH c Tm=F2.mul (F2.neg zE) c:=by
 rw[eD,F2.mul_comm];rw[show (Tm,F1.zero)=(F2.neg zE) by decide]
theorem tt5 (c:Q2):qH (qH c Tl) Tl=F2.mul (F2.neg zE) c:=by
 rw[eD,eD,F2.mul_assoc,F2.mul_comm];rw[show F2.mul (Tl,F1.zero) (Tl,F1.zero)=(F2.neg zE) by decide]
theorem tu5 (c:Q2):qH c Tl=F2.mul (F2.sub F2.one zE) c:=by
 rw[eD,F2.mul_comm];rw[show (Tl,F1.zero)=(F2.sub F2.one zE) by decide]
theorem BH {R:Type} (K:CR R) {L R' Z Zi A B:R} (h:L=K.add R' (K.mul Z (K.sub A B))) (hz:K.mul Zi Z=K.one):L=R'↔A=B:=by
 constructor
 ·intro e;rw[e]at h;have h1:K.mul Z (K.sub A B)=K.zero:=by
   have h2:K.add R' (K.mul Z (K.sub A B))=K.add R' K.zero:=by rw[←h,K.add_zero]
   exact K.add_cancel h2
  have h3:K.sub A B=K.zero:=by
   rw[←K.one_mul (K.sub A B),←hz,K.mul_assoc,h1,K.mul_zero]
  exact VO K h3
 ·intro e;rw[h,e,zS,K.mul_zero,K.add_zero]
abbrev Q4:=Q2×Q2
def F4:CR Q4:=F2.sq dM
def s4 (a:Q4):Q4:=(F2.mul a.2 dM,a.1)
def OL (a:Q4):Q4:=(a.1,F2.sub F2.zero a.2)
def Zy (a b:Q4):Q4:=(F2.add (F2.add (F2.sub a.1 b.1) (F2.sub a.1 b.1)) a.1,F2.add (F2.add (F2.sub a.2 b.2) (F2.sub a.2 b.2)) a.2)
def fX (x:aV):Q4:=(x.1.1,x.2.2.1)
def fY (x:aV):Q4:=(x.2.1,x.1.2.2)
def fZ (x:aV):Q4:=(x.1.2.1,x.2.2.2)
def aDM (x y z:Q4):aV:=((x.1,z.1,y.2),(y.1,x.2,z.2))
def aDY (x:aV):Prop:=F4.sub (F4.mul (fX x) (fX x)) (s4 (F4.mul (fY x) (fZ x)))=OL (fX x)
def aDX (x:aV):Prop:=F4.sub (F4.mul (fX x) (fY x)) (s4 (F4.mul (fZ x) (fZ x)))=OL (fY x)
def aDW (x:aV):Prop:=F4.sub (F4.mul (fY x) (fY x)) (F4.mul (fX x) (fZ x))=OL (fZ x)
def aTH (x:aV):aV:=aDM (Zy (F4.mul (fX x) (fX x)) (OL (fX x))) (Zy (s4 (F4.mul (fZ x) (fZ x))) (F4.sub F4.zero (OL (fY x)))) (Zy (F4.mul (fY x) (fY x)) (OL (fZ x)))
theorem oJ (x y:aV):aD.mul x y=(((F2.add (F2.add (F2.mul x.1.1 y.1.1) (F2.mul dM (F2.add (F2.mul x.1.2.1 y.1.2.2) (F2.mul x.1.2.2 y.1.2.1)))) (F2.mul (F2.add (F2.add (F2.mul x.2.1 y.2.2.2) (F2.mul x.2.2.1 y.2.2.1)) (F2.mul x.2.2.2 y.2.1)) dM)),(F2.add (F2.add (F2.add (F2.mul x.1.1 y.1.2.1) (F2.mul x.1.2.1 y.1.1)) (F2.mul dM (F2.mul x.1.2.2 y.1.2.2))) (F2.add (F2.mul x.2.1 y.2.1) (F2.mul dM (F2.add (F2.mul x.2.2.1 y.2.2.2) (F2.mul x.2.2.2 y.2.2.1))))),(F2.add (F2.add (F2.add (F2.mul x.1.1 y.1.2.2) (F2.mul x.1.2.1 y.1.2.1)) (F2.mul x.1.2.2 y.1.1)) (F2.add (F2.add (F2.mul x.2.1 y.2.2.1) (F2.mul x.2.2.1 y.2.1)) (F2.mul dM (F2.mul x.2.2.2 y.2.2.2))))),((F2.add (F2.add (F2.mul x.1.1 y.2.1) (F2.mul dM (F2.add (F2.mul x.1.2.1 y.2.2.2) (F2.mul x.1.2.2 y.2.2.1)))) (F2.add (F2.mul x.2.1 y.1.1) (F2.mul dM (F2.add (F2.mul x.2.2.1 y.1.2.2) (F2.mul x.2.2.2 y.1.2.1))))),(F2.add (F2.add (F2.add (F2.mul x.1.1 y.2.2.1) (F2.mul x.1.2.1 y.2.1)) (F2.mul dM (F2.mul x.1.2.2 y.2.2.2))) (F2.add (F2.add (F2.mul x.2.1 y.1.2.1) (F2.mul x.2.2.1 y.1.1)) (F2.mul dM (F2.mul x.2.2.2 y.1.2.2)))),(F2.add (F2.add (F2.add (F2.mul x.1.1 y.2.2.2) (F2.mul x.1.2.1 y.2.2.1)) (F2.mul x.1.2.2 y.2.1)) (F2.add (F2.add (F2.mul x.2.1 y.1.2.2) (F2.mul x.2.2.1 y.1.2.1)) (F2.mul x.2.2.2 y.1.1))))):=by
 refine Prod.ext ?_ rfl;show F6.add (F6.mul x.1 y.1) (F6.mul vE (F6.mul x.2 y.2))=_;rw[DX];rfl
theorem aYb (x:aV):aD.mul (cU (cU x)) x=(((F2.add (F2.add (F2.mul (F2.mul F2.one x.1.1) x.1.1) (F2.mul dM (F2.add (F2.mul (F2.mul (F2.neg zE) x.1.2.1) x.1.2.2) (F2.mul (F2.mul (F2.sub zE F2.one) x.1.2.2) x.1.2.1)))) (F2.mul (F2.add (F2.add (F2.mul (F2.mul (F2.sub zE F2.one) x.2.1) x.2.2.2) (F2.mul (F2.mul F2.one x.2.2.1) x.2.2.1)) (F2.mul (F2.mul (F2.neg zE) x.2.2.2) x.2.1)) dM)),(F2.add (F2.add (F2.add (F2.mul (F2.mul F2.one x.1.1) x.1.2.1) (F2.mul (F2.mul (F2.neg zE) x.1.2.1) x.1.1)) (F2.mul dM (F2.mul (F2.mul (F2.sub zE F2.one) x.1.2.2) x.1.2.2))) (F2.add (F2.mul (F2.mul (F2.sub zE F2.one) x.2.1) x.2.1) (F2.mul dM (F2.add (F2.mul (F2.mul F2.one x.2.2.1) x.2.2.2) (F2.mul (F2.mul (F2.neg zE) x.2.2.2) x.2.2.1))))),(F2.add (F2.add (F2.add (F2.mul (F2.mul F2.one x.1.1) x.1.2.2) (F2.mul (F2.mul (F2.neg zE) x.1.2.1) x.1.2.1)) (F2.mul (F2.mul (F2.sub zE F2.one) x.1.2.2) x.1.1)) (F2.add (F2.add (F2.mul (F2.mul (F2.sub zE F2.one) x.2.1) x.2.2.1) (F2.mul (F2.mul F2.one x.2.2.1) x.2.1)) (F2.mul dM (F2.mul (F2.mul (F2.neg zE) x.2.2.2) x.2.2.2))))),((F2.add (F2.add (F2.mul (F2.mul F2.one x.1.1) x.2.1) (F2.mul dM (F2.add (F2.mul (F2.mul (F2.neg zE) x.1.2.1) x.2.2.2) (F2.mul (F2.mul (F2.sub zE F2.one) x.1.2.2) x.2.2.1)))) (F2.add (F2.mul (F2.mul (F2.sub zE F2.one) x.2.1) x.1.1) (F2.mul dM (F2.add (F2.mul (F2.mul F2.one x.2.2.1) x.1.2.2) (F2.mul (F2.mul (F2.neg zE) x.2.2.2) x.1.2.1))))),(F2.add (F2.add (F2.add (F2.mul (F2.mul F2.one x.1.1) x.2.2.1) (F2.mul (F2.mul (F2.neg zE) x.1.2.1) x.2.1)) (F2.mul dM (F2.mul (F2.mul (F2.sub zE F2.one) x.1.2.2) x.2.2.2))) (F2.add (F2.add (F2.mul (F2.mul (F2.sub zE F2.one) x.2.1) x.1.2.1) (F2.mul (F2.mul F2.one x.2.2.1) x.1.1)) (F2.mul dM (F2.mul (F2.mul (F2.neg zE) x.2.2.2) x.1.2.2)))),(F2.add (F2.add (F2.add (F2.mul (F2.mul F2.one x.1.1) x.2.2.2) (F2.mul (F2.mul (F2.neg zE) x.1.2.1) x.2.2.1)) (F2.mul (F2.mul (F2.sub zE F2.one) x.1.2.2) x.2.1)) (F2.add (F2.add (F2.mul (F2.mul (F2.sub zE F2.one) x.2.1) x.1.2.2) (F2.mul (F2.mul F2.one x.2.2.1) x.1.2.1)) (F2.mul (F2.mul (F2.neg zE) x.2.2.2) x.1.1))))):=by
 rw[show cU (cU x)=((F2.mul F2.one x.1.1,F2.mul (F2.neg zE) x.1.2.1,F2.mul (F2.sub zE F2.one) x.1.2.2),(F2.mul (F2.sub zE F2.one) x.2.1,F2.mul F2.one x.2.2.1,F2.mul (F2.neg zE) x.2.2.2))from Prod.ext (Prod.ext (tt0 _) (Prod.ext (tt2 _) (tt4 _))) (Prod.ext (tt1 _) (Prod.ext (tt3 _) (tt5 _)))];exact oJ _ _
theorem aYa (x:aV):cU x=(((F2.mul F2.one x.1.1),(F2.mul (F2.sub zE F2.one) x.1.2.1),(F2.mul (F2.neg zE) x.1.2.2)),((F2.mul zE x.2.1),(F2.mul (F2.neg F2.one) x.2.2.1),(F2.mul (F2.sub F2.one zE) x.2.2.2))):=Prod.ext (Prod.ext (tu0 _) (Prod.ext (tu2 _) (tu4 _))) (Prod.ext (tu1 _) (Prod.ext (tu3 _) (tu5 _)))
theorem Ms {a0 a1 a2 a3 a4 a5 b0 b1 b2 b3 b4 b5:Q2}:(((a0,a2,a4),(a1,a3,a5)):aV)=((b0,b2,b4),(b1,b3,b5))↔((a0=b0∧a3=b3)∧(a1=b1∧a4=b4)∧(a2=b2∧a5=b5)):=by
 simp only[Prod.mk.injEq];constructor
 ·rintro⟨⟨h0,h2,h4⟩,h1,h3,h5⟩
  exact⟨⟨h0,h3⟩,⟨h1,h4⟩,h2,h5⟩
 ·rintro⟨⟨h0,h3⟩,⟨h1,h4⟩,h2,h5⟩
  exact⟨⟨h0,h2,h4⟩,h1,h3,h5⟩
theorem AI {a b:Q4}:a=b↔(a.1=b.1∧a.2=b.2):=⟨fun h=>by rw[h]; exact⟨rfl,rfl⟩,fun h=>Prod.ext h.1 h.2⟩
theorem Rh (x:aV):aD.mul (cU (cU x)) x=cU x↔(aDY x∧aDX x∧aDW x):=by
 rw[aYb,aYa,Ms];unfold aDY aDX aDW;rw[AI,AI,AI];have e0:=BH F2 (aKT F2 x.1.1 x.2.1 x.1.2.1 x.2.2.1 x.1.2.2 x.2.2.2 dM zE) (show F2.mul F2.one F2.one=F2.one by decide);have e1:=BH F2 (aKS F2 x.1.1 x.2.1 x.1.2.1 x.2.2.1 x.1.2.2 x.2.2.2 dM zE) (show F2.mul (F2.sub F2.one zE) zE=F2.one by decide);have e2:=BH F2 (aKR F2 x.1.1 x.2.1 x.1.2.1 x.2.2.1 x.1.2.2 x.2.2.2 dM zE) (show F2.mul (F2.neg zE) (F2.sub zE F2.one)=F2.one by decide);have e3:=BH F2 (aKQ F2 x.1.1 x.2.1 x.1.2.1 x.2.2.1 x.1.2.2 x.2.2.2 dM zE) (show F2.mul F2.one F2.one=F2.one by decide);have e4:=BH F2 (aKP F2 x.1.1 x.2.1 x.1.2.1 x.2.2.1 x.1.2.2 x.2.2.2 dM zE) (show F2.mul (F2.sub F2.one zE) zE=F2.one by decide);have e5:=BH F2 (aKO F2 x.1.1 x.2.1 x.1.2.1 x.2.2.1 x.1.2.2 x.2.2.2 dM zE) (show F2.mul (F2.neg zE) (F2.sub zE F2.one)=F2.one by decide);constructor
 ·rintro⟨⟨h0,h3⟩,⟨h1,h4⟩,h2,h5⟩
  exact⟨⟨e0.1 h0,e3.1 h3⟩,⟨e1.1 h1,e4.1 h4⟩,⟨e2.1 h2,e5.1 h5⟩⟩
 ·rintro⟨⟨h0,h3⟩,⟨h1,h4⟩,⟨h2,h5⟩⟩
  exact⟨⟨e0.2 h0,e3.2 h3⟩,⟨e1.2 h1,e4.2 h4⟩,⟨e2.2 h2,e5.2 h5⟩⟩
theorem TH {R:Type} (K:CR R) {t s a b:R} (h:t=K.add s (K.add (K.sub a b) (K.sub a b))) (e:a=b):t=s:=by
 rw[h,e,zS,K.add_zero,K.add_zero]
theorem aAj {R:Type} (K:CR R) {t s a b:R} (h:t=K.sub s (K.add (K.sub a b) (K.sub a b))) (e:a=b):t=s:=by
 rw[h,e,zS,K.add_zero];show K.add s (K.neg K.zero)=s;rw[bQ,K.add_zero]
theorem aOe (x:aV) (h:aDY x∧aDX x∧aDW x):aTH x=aD.mul x x:=by
 unfold aDY aDX aDW at h;rw[AI,AI,AI]at h;obtain⟨⟨h0,h3⟩,⟨h1,h4⟩,h2,h5⟩:=h;rw[oJ];have hz:aD.zero=aD.zero:=rfl;refine Ms.2 ⟨⟨?_,?_⟩,⟨?_,?_⟩,?_,?_⟩
 ·exact TH F2 (aHv F2 x.1.1 x.2.1 x.1.2.1 x.2.2.1 x.1.2.2 x.2.2.2 dM zE) h0
 ·exact TH F2 (aHs F2 x.1.1 x.2.1 x.1.2.1 x.2.2.1 x.1.2.2 x.2.2.2 dM zE) h3
 ·exact aAj F2 (aHu F2 x.1.1 x.2.1 x.1.2.1 x.2.2.1 x.1.2.2 x.2.2.2 dM zE) h1
 ·exact aAj F2 (aHr F2 x.1.1 x.2.1 x.1.2.1 x.2.2.1 x.1.2.2 x.2.2.2 dM zE) h4
 ·exact TH F2 (aHt F2 x.1.1 x.2.1 x.1.2.1 x.2.2.1 x.1.2.2 x.2.2.2 dM zE) h2
 ·exact TH F2 (aHq F2 x.1.1 x.2.1 x.1.2.1 x.2.2.1 x.1.2.2 x.2.2.2 dM zE) h5
def tD (x:aV):Prop:=x≠aD.zero∧aD.mul (cU (cU x)) x=cU x
end Go.Proofs.YtjkpglhlmknciaaGreat.Ex
namespace Go.Proofs.YtjkpglhlmknciaaGreat
open Go.Proofs.Tryz
open Go.RowKit
theorem zZ (x y c:Nat) (hc:c≤1) (w:World) :
  (callFunc 102 #[.int .u64 (x:Int),.int .u64 (y:Int),.int .u64 (c:Int)]).run prog w =
   .ok (.value (.tuple #[.int .u64 (Kl x y c:Nat),.int .u64 (Km x y c:Nat)])) w:=by
 rw[run_callFunc_extern func102 (by kernel_rfl) (by kernel_rfl) (by kernel_rfl) (e:=add64Entry) (by kernel_rfl),run_add64 x y c (by omega) (by omega) (by omega) (by omega)];simp only[Result.andThen];unfold Kl Km;congr 5<;>omega
theorem Hi (x y:Nat) (w:World) :
  (callFunc 102 #[.int .u64 (x:Int),.int .u64 (y:Int),.int .u64 0]).run prog w =
   .ok (.value (.tuple #[.int .u64 (Kl x y 0:Nat),.int .u64 (Km x y 0:Nat)])) w:=zZ x y 0 (by omega) w
def aAk:Array Value→Sem Value:=fun args=>do
 let (x,y,b) ←Extern.MathBitsCarry.three "Sub64" args
 pure (Extern.MathBitsCarry.pair ((x+Extern.MathBitsCarry.m64-y-b)%Extern.MathBitsCarry.m64) (if x<y+b then 1 else 0))
theorem Es {P:Program} (x y b:Nat) (hb:b≤1) (w:World) :
  (aAk #[.int .u64 x,.int .u64 y,.int .u64 b]).run P w=.ok (.tuple #[.int .u64 (Dx x y b:Nat),.int .u64 (Dy x y b:Nat)]) w:=by
 have:b=0∨b=1:=by omega
 rcases this with rfl|rfl<;>rfl
theorem MD (x y c:Nat) (hc:c≤1) (w:World) :
  (callFunc 127 #[.int .u64 (x:Int),.int .u64 (y:Int),.int .u64 (c:Int)]).run prog w =
   .ok (.value (.tuple #[.int .u64 (Dx x y c:Nat),.int .u64 (Dy x y c:Nat)])) w:=by
 rw[run_callFunc_extern func127 (by kernel_rfl) (by kernel_rfl) (by kernel_rfl) (e:=aAk) (by kernel_rfl),Es x y c hc];rfl
theorem Hg (x y:Nat) (w:World) :
  (callFunc 127 #[.int .u64 (x:Int),.int .u64 (y:Int),.int .u64 0]).run prog w =
   .ok (.value (.tuple #[.int .u64 (Dx x y 0:Nat),.int .u64 (Dy x y 0:Nat)])) w:=MD x y 0 (by omega) w
theorem qC {x y c:Nat} (hx:x<18446744073709551616) (hy:y<18446744073709551616) (hc:c≤1):∃d b:Nat,(∀w,(callFunc 102 #[.int .u64 (x:Int),.int .u64 (y:Int),.int .u64 (c:Int)]).run prog w =
   .ok (.value (.tuple #[.int .u64 (d:Int),.int .u64 (b:Int)])) w)∧d<18446744073709551616∧b≤1∧Hid (d+18446744073709551616*b=x+y+c) :=
 ⟨_,_,zZ x y c hc,TJ _ _ _,TK hx hy hc,aGa x y c⟩
theorem qB {x y:Nat} (hx:x<18446744073709551616) (hy:y<18446744073709551616):∃d b:Nat,(∀w,(callFunc 102 #[.int .u64 (x:Int),.int .u64 (y:Int),.int .u64 0]).run prog w =
   .ok (.value (.tuple #[.int .u64 (d:Int),.int .u64 (b:Int)])) w)∧d<18446744073709551616∧b≤1∧Hid (d+18446744073709551616*b=x+y) :=
 ⟨_,_,Hi x y,TJ _ _ _,TK hx hy (Nat.zero_le _),aGa x y 0⟩
theorem qA {x y c:Nat} (hx:x<18446744073709551616) (hy:y<18446744073709551616) (hc:c≤1):∃d b:Nat,(∀w,(callFunc 127 #[.int .u64 (x:Int),.int .u64 (y:Int),.int .u64 (c:Int)]).run prog w =
   .ok (.value (.tuple #[.int .u64 (d:Int),.int .u64 (b:Int)])) w)∧d<18446744073709551616∧b≤1∧Hid (d+y+c=x+18446744073709551616*b) :=
 ⟨_,_,MD x y c hc,Ma _ _ _,Mb _ _ _,aLG hx hy hc⟩
theorem OD {x y:Nat} (hx:x<18446744073709551616) (hy:y<18446744073709551616):∃d b:Nat,(∀w,(callFunc 127 #[.int .u64 (x:Int),.int .u64 (y:Int),.int .u64 0]).run prog w =
   .ok (.value (.tuple #[.int .u64 (d:Int),.int .u64 (b:Int)])) w)∧d<18446744073709551616∧b≤1∧Hid (d+y=x+18446744073709551616*b) :=
 ⟨_,_,Hg x y,Ma _ _ _,Mb _ _ _,aLG hx hy (Nat.zero_le _)⟩
def Sw (A B:Nat) (w:World) (e:Ending) (w':World):Prop :=
 ∃s0 s1 s2 s3 c:Nat,e=.returned (.tuple #[.agg #[.int .u64 s0,.int .u64 s1,.int .u64 s2,.int .u64 s3],.int .u64 c])∧bV s0 s1 s2 s3∧c≤1∧aC s0 s1 s2 s3+115792089237316195423570985008687907853269984665640564039457584007913129639936*c=A+B∧Below w.heap.size w w'
def Sr (A B:Nat) (w:World) (e:Ending) (w':World):Prop :=
 ∃s0 s1 s2 s3 c:Nat,e=.returned (.tuple #[.agg #[.int .u64 s0,.int .u64 s1,.int .u64 s2,.int .u64 s3],.int .u64 c])∧bV s0 s1 s2 s3∧c≤1∧aC s0 s1 s2 s3+B=A+115792089237316195423570985008687907853269984665640564039457584007913129639936*c∧Below w.heap.size w w'
theorem BQ (a0 a1 a2 a3 b0 b1 b2 b3:Nat) (ha:bV a0 a1 a2 a3) (hb:bV b0 b1 b2 b3) (w:World) :
  Calls prog 61 #[.agg #[.int .u64 a0,.int .u64 a1,.int .u64 a2,.int .u64 a3],.agg #[.int .u64 b0,.int .u64 b1,.int .u64 b2,.int .u64 b3]] w (Sw (aC a0 a1 a2 a3) (aC b0 b1 b2 b3) w):=by
 obtain⟨s0,c0,r0,bs0,bc0,e0⟩:=qB ha.1 hb.1;obtain⟨s1,c1,r1,bs1,bc1,e1⟩:=qC ha.2.1 hb.2.1 bc0;obtain⟨s2,c2,r2,bs2,bc2,e2⟩:=qC ha.2.2.1 hb.2.2.1 bc1;obtain⟨s3,c3,r3,bs3,bc3,e3⟩:=qC ha.2.2.2 hb.2.2.2 bc2
 go_enter func61,ntmps61
 go_wp2
 refine wp_loop_rounds 5 ?_;rw[rounds_succ]
 go_wp2
 go_region
 go_wp2
 rw[rounds_succ]
 go_wp2
 go_region
 go_wp2
 rw[rounds_succ]
 go_wp2
 go_region
 go_wp2
 rw[rounds_succ]
 go_wp2
 go_region
 go_wp2
 rw[rounds_succ]
 go_wp2
 refine bodyPost_ret (v:=.tuple #[.agg #[.int .u64 s0,.int .u64 s1,.int .u64 s2,.int .u64 s3],.int .u64 c3]) (by simp[results,results61,go_sem]) rfl ?_;refine⟨_,_,_,_,_,rfl,⟨bs0,bs1,bs2,bs3⟩,bc3,by have:=e0.out; have:=e1.out; have:=e2.out; have:=e3.out; unfold aC; omega,?_⟩
 repeat (first|exact Below.refl _ _|refine Below.drew ?_|refine Below.alloc ?_ (by first|(simp; done)|(simp; omega)) _)
theorem tW (a0 a1 a2 a3 b0 b1 b2 b3:Nat) (ha:bV a0 a1 a2 a3) (hb:bV b0 b1 b2 b3) (w:World) :
  Calls prog 85 #[.agg #[.int .u64 a0,.int .u64 a1,.int .u64 a2,.int .u64 a3],.agg #[.int .u64 b0,.int .u64 b1,.int .u64 b2,.int .u64 b3]] w (Sr (aC a0 a1 a2 a3) (aC b0 b1 b2 b3) w):=by
 obtain⟨s0,c0,r0,bs0,bc0,e0⟩:=OD ha.1 hb.1;obtain⟨s1,c1,r1,bs1,bc1,e1⟩:=qA ha.2.1 hb.2.1 bc0;obtain⟨s2,c2,r2,bs2,bc2,e2⟩:=qA ha.2.2.1 hb.2.2.1 bc1;obtain⟨s3,c3,r3,bs3,bc3,e3⟩:=qA ha.2.2.2 hb.2.2.2 bc2
 go_enter func85,ntmps85
 go_wp2
 refine wp_loop_rounds 5 ?_;rw[rounds_succ]
 go_wp2
 go_region
 go_wp2
 rw[rounds_succ]
 go_wp2
 go_region
 go_wp2
 rw[rounds_succ]
 go_wp2
 go_region
 go_wp2
 rw[rounds_succ]
 go_wp2
 go_region
 go_wp2
 rw[rounds_succ]
 go_wp2
 refine bodyPost_ret (v:=.tuple #[.agg #[.int .u64 s0,.int .u64 s1,.int .u64 s2,.int .u64 s3],.int .u64 c3]) (by simp[results,results85,go_sem]) rfl ?_;refine⟨_,_,_,_,_,rfl,⟨bs0,bs1,bs2,bs3⟩,bc3,by have:=e0.out; have:=e1.out; have:=e2.out; have:=e3.out; unfold aC; omega,?_⟩
 repeat (first|exact Below.refl _ _|refine Below.drew ?_|refine Below.alloc ?_ (by first|(simp; done)|(simp; omega)) _)
theorem JU {W w1:World} (hb:Below W.heap.size W w1):(∀b o,b<W.heap.size→w1.cell? ⟨b,o,none⟩=W.cell? ⟨b,o,none⟩)∧(∀b o,b<W.heap.size→w1.frozen? ⟨b,o,none⟩=W.frozen? ⟨b,o,none⟩) :=
 ⟨fun b o h=>hb.cell (p:=⟨b,o,none⟩) h,fun b o h=>hb.frozen (p:=⟨b,o,none⟩) h⟩
def Qz (a0 a1 a2 a3 b0 b1 b2 b3:Nat):Bool:=decide (a0=b0∧a1=b1∧a2=b2∧a3=b3)
theorem JI (d:Nat) (a0 a1 a2 a3 b0 b1 b2 b3:Nat) (w:World):(Op.equalIn (d+1+1) 67 (.agg #[.int .u64 a0,.int .u64 a1,.int .u64 a2,.int .u64 a3]) (.agg #[.int .u64 b0,.int .u64 b1,.int .u64 b2,.int .u64 b3])).run prog w=.ok (Qz a0 a1 a2 a3 b0 b1 b2 b3) w:=by
 have h0:∀(x y:Int) (w:World),(Op.equalIn (d+1) 25 (.int .u64 x) (.int .u64 y)).run prog w=.ok (x==y) w:=fun x y w=>run_equalIn_int w d 25 .u64 .u64 x y underlying25
 rw[Op.equalIn];simp only[Sem.run_bind,run_underlying underlying67,Result.andThen_ok,Tryz.sizeOf25];simp[Std.Legacy.Range.forIn_eq_forIn_range',Std.Legacy.Range.size,List.range',part,h0,Sem.run_bind,Result.andThen_ok];unfold Qz
 by_cases q0:a0=b0<;>by_cases q1:a1=b1<;>by_cases q2:a2=b2<;>by_cases q3:a3=b3<;>simp[q0,q1,q2,q3]<;>omega
theorem Cf:prog.eqGuardType prog.depth 67=false:=by kernel_rfl
theorem yV {a0 a1 a2 a3 b0 b1 b2 b3:Nat} (ha:bV a0 a1 a2 a3) (hb:bV b0 b1 b2 b3):Qz a0 a1 a2 a3 b0 b1 b2 b3=true↔aC a0 a1 a2 a3=aC b0 b1 b2 b3:=by
 unfold Qz; rw[decide_eq_true_iff];exact⟨fun⟨h0,h1,h2,h3⟩=>by rw[h0,h1,h2,h3],UW ha hb⟩
def dV (A B:Nat):Int:=if A=B then 0 else if A<B then -1 else 1
end Go.Proofs.YtjkpglhlmknciaaGreat
namespace Go.Proofs
open Go.Shelf
def Tryz.lays134_ren:Go.Shelf.Ren:=⟨fun|134=>211|129=>205|n=>n,fun|53=>25|3=>3|4=>4|46=>186|5=>5|9=>9|n=>n,fun|n=>n⟩
theorem Tryz.lays134:Go.Proofs.Lays.n134 prog Tryz.lays134_ren:={
 mixed:=by kernel_rfl
 f129:=func205.trans (congrArg some (by kernel_rfl))
 f134:=func211.trans (congrArg some (by kernel_rfl))
 t3:=underlying3
 a3:=Tryz.isAgg3
 z3:=Tryz.sizeOf3
 v3:=Tryz.zeroValue3
 t4:=underlying4
 a4:=Tryz.isAgg4
 z4:=Tryz.sizeOf4
 v4:=Tryz.zeroValue4
 t5:=underlying5
 a5:=Tryz.isAgg5
 z5:=Tryz.sizeOf5
 v5:=Tryz.zeroValue5
 t9:=underlying9
 a9:=Tryz.isAgg9
 z9:=Tryz.sizeOf9
 v9:=Tryz.zeroValue9
 t46:=underlying186
 a46:=Tryz.isAgg186
 z46:=Tryz.sizeOf186
 v46:=Tryz.zeroValue186
 t53:=underlying25
 a53:=Tryz.isAgg25
 z53:=Tryz.sizeOf25
 v53:=Tryz.zeroValue25 }
theorem Tryz.bits_LeadingZeros64 (x:Int) (w:World) (h0:0≤x) (h1:x≤18446744073709551615) :
  Calls prog 211 #[.int .u64 x] w fun e w'=>e=.returned (.int .i64 (64-(Lib.bitLen x.toNat:Int)))∧w'=w:=Any.bits_LeadingZeros64 Tryz.lays134 x w h0 h1
def Tryz.lays129_ren:Go.Shelf.Ren:=⟨fun|129=>205|n=>n,fun|53=>25|3=>3|4=>4|46=>186|5=>5|9=>9|n=>n,fun|n=>n⟩
theorem Tryz.lays129:Go.Proofs.Lays.n129 prog Tryz.lays129_ren:={
 mixed:=by kernel_rfl
 f129:=func205.trans (congrArg some (by kernel_rfl))
 t3:=underlying3
 a3:=Tryz.isAgg3
 z3:=Tryz.sizeOf3
 v3:=Tryz.zeroValue3
 t4:=underlying4
 a4:=Tryz.isAgg4
 z4:=Tryz.sizeOf4
 v4:=Tryz.zeroValue4
 t5:=underlying5
 a5:=Tryz.isAgg5
 z5:=Tryz.sizeOf5
 v5:=Tryz.zeroValue5
 t9:=underlying9
 a9:=Tryz.isAgg9
 z9:=Tryz.sizeOf9
 v9:=Tryz.zeroValue9
 t46:=underlying186
 a46:=Tryz.isAgg186
 z46:=Tryz.sizeOf186
 v46:=Tryz.zeroValue186
 t53:=underlying25
 a53:=Tryz.isAgg25
 z53:=Tryz.sizeOf25
 v53:=Tryz.zeroValue25 }
theorem Tryz.bits_Len64 (x:Int) (w:World) (h0:0≤x) (h1:x≤18446744073709551615) :
  Calls prog 205 #[.int .u64 x] w fun e w'=>e=.returned (.int .i64 (Lib.bitLen x.toNat))∧w'=w:=Any.bits_Len64 Tryz.lays129 x w h0 h1
def Tryz.lays264_ren:Go.Shelf.Ren:=⟨fun|264=>181|n=>n,fun|53=>25|46=>186|n=>n,fun|n=>n⟩
theorem Tryz.lays264:Go.Proofs.Lays.n264 prog Tryz.lays264_ren:={
 mixed:=by kernel_rfl
 f264:=func181.trans (congrArg some (by kernel_rfl))
 t46:=underlying186
 a46:=Tryz.isAgg186
 z46:=Tryz.sizeOf186
 v46:=Tryz.zeroValue186
 t53:=underlying25
 a53:=Tryz.isAgg25
 z53:=Tryz.sizeOf25
 v53:=Tryz.zeroValue25 }
open Go.RowKit Go.Lib in
theorem Tryz.bits_Mul64 (x y:Nat) (hx:x<18446744073709551616) (hy:y<18446744073709551616) (w:World) :
  Calls prog 181 #[.int .u64 x,.int .u64 y] w fun e w'=>e=.returned (.tuple #[.int .u64 ((x*y/18446744073709551616:Nat):Int),.int .u64 ((x*y%18446744073709551616:Nat):Int)])∧w'=w:=Any.bits_Mul64 Tryz.lays264 x y hx hy w
end Go.Proofs
namespace Go.Proofs.YtjkpglhlmknciaaGreat
open Go.Proofs.Tryz
open Go.RowKit
theorem Bb (x y:Nat) (hx:x<18446744073709551616) (hy:y<18446744073709551616) (w:World) :
  Calls prog 181 #[.int .u64 x,.int .u64 y] w fun e w'=>e=.returned (.tuple #[.int .u64 (aDi x y:Nat),.int .u64 (aDh x y:Nat)])∧w'=w :=
 Tryz.bits_Mul64 x y hx hy w
theorem Cc {x y:Nat} (hx:x<18446744073709551616) (hy:y<18446744073709551616):∃h l:Nat,(∀w,Calls prog 181 #[.int .u64 x,.int .u64 y] w fun e w'=>e=.returned (.tuple #[.int .u64 (h:Nat),.int .u64 (l:Nat)])∧w'=w)∧h≤18446744073709551614∧l<18446744073709551616∧Hid (l+18446744073709551616*h=x*y) :=
 ⟨_,_,Bb x y hx hy,aJK hx hy,aJJ _ _,aVj x y⟩
def aSv (A y:Nat) (w:World) (e:Ending) (w':World):Prop :=
 ∃s0 s1 s2 s3 o:Nat,e=.returned (.tuple #[.int .u64 o,.agg #[.int .u64 s0,.int .u64 s1,.int .u64 s2,.int .u64 s3]])∧bV s0 s1 s2 s3∧o<18446744073709551616∧aC s0 s1 s2 s3+115792089237316195423570985008687907853269984665640564039457584007913129639936*o=A*y∧Below w.heap.size w w'
theorem Qx {x y o:Nat} (hx:x<18446744073709551616) (hy:y<18446744073709551616) (ho:o<18446744073709551616):∃h l d b p:Nat,(∀w,Calls prog 181 #[.int .u64 x,.int .u64 y] w fun e w'=>e=.returned (.tuple #[.int .u64 (h:Nat),.int .u64 (l:Nat)])∧w'=w) ∧
  (∀w,(callFunc 102 #[.int .u64 (l:Int),.int .u64 (o:Int),.int .u64 0]).run prog w=.ok (.value (.tuple #[.int .u64 (d:Int),.int .u64 (b:Int)])) w)∧h≤18446744073709551614∧b≤1∧d<18446744073709551616∧p<18446744073709551616∧((h:Int)+(b:Int)=(p:Int))∧Hid (d+18446744073709551616*p=x*y+o):=by
 obtain⟨h,l,r,hh,hl,e⟩:=Cc hx hy;obtain⟨d,b,r',hd,hb,e'⟩:=qB hl ho;exact⟨h,l,d,b,h+b,r,r',hh,hb,hd,by omega,by omega,Lib.hid (by have:=e.out; have:=e'.out; omega)⟩
theorem aRl {x y:Nat} (hx:x<18446744073709551616) (hy:y<18446744073709551616):∃h l d b p:Nat,(∀w,Calls prog 181 #[.int .u64 x,.int .u64 y] w fun e w'=>e=.returned (.tuple #[.int .u64 (h:Nat),.int .u64 (l:Nat)])∧w'=w) ∧
  (∀w,(callFunc 102 #[.int .u64 (l:Int),.int .u64 0,.int .u64 0]).run prog w=.ok (.value (.tuple #[.int .u64 (d:Int),.int .u64 (b:Int)])) w)∧h≤18446744073709551614∧b≤1∧d<18446744073709551616∧p<18446744073709551616∧((h:Int)+(b:Int)=(p:Int))∧Hid (d+18446744073709551616*p=x*y):=by
 obtain⟨h,l,d,b,p,r,r',hh,hb,hd,hp,q,e⟩:=Qx hx hy (by omega:0<18446744073709551616);exact⟨h,l,d,b,p,r,r',hh,hb,hd,hp,q,e⟩
theorem VB (a0 a1 a2 a3 y:Nat) (ha:bV a0 a1 a2 a3) (hy:y<18446744073709551616) (w:World) :
  Calls prog 210 #[.agg #[.int .u64 a0,.int .u64 a1,.int .u64 a2,.int .u64 a3],.int .u64 y] w (aSv (aC a0 a1 a2 a3) y w):=by
 obtain⟨h0,l0,d0,b0,o0,m0,r0,bh0,bb0,bd0,bo0,q0,e0⟩:=aRl ha.1 hy;obtain⟨h1,l1,d1,b1,o1,m1,r1,bh1,bb1,bd1,bo1,q1,e1⟩:=Qx ha.2.1 hy bo0;obtain⟨h2,l2,d2,b2,o2,m2,r2,bh2,bb2,bd2,bo2,q2,e2⟩:=Qx ha.2.2.1 hy bo1;obtain⟨h3,l3,d3,b3,o3,m3,r3,bh3,bb3,bd3,bo3,q3,e3⟩:=Qx ha.2.2.2 hy bo2;have HF:Hid (aC d0 d1 d2 d3+115792089237316195423570985008687907853269984665640564039457584007913129639936*o3=aC a0 a1 a2 a3*y):=Lib.hid (by
  have:=e0.out; have:=e1.out; have:=e2.out; have:=e3.out;unfold aC; simp only[Nat.add_mul,Nat.mul_assoc]; omega)
 clear e0 e1 e2 e3
 go_enter func210,ntmps210
 go_wp2_with fail;refine wp_loop_rounds 5 ?_;rw[rounds_succ];go_wp2_with fail;refine (m0 _).mono ?_
 rintro e w' ⟨rfl,rfl⟩
 go_wp2_with fail;rw[rounds_succ];go_wp2_with fail;refine (m1 _).mono ?_
 rintro e w' ⟨rfl,rfl⟩
 go_wp2_with fail;rw[rounds_succ];go_wp2_with fail;refine (m2 _).mono ?_
 rintro e w' ⟨rfl,rfl⟩
 go_wp2_with fail;rw[rounds_succ];go_wp2_with fail;refine (m3 _).mono ?_
 rintro e w' ⟨rfl,rfl⟩
 go_wp2_with fail;rw[rounds_succ];go_wp2_with fail
 go_region
 all_goals (
  go_wp2
  refine bodyPost_ret (v:=.tuple #[.int .u64 o3,.agg #[.int .u64 d0,.int .u64 d1,.int .u64 d2,.int .u64 d3]]) (by simp[results,results210,go_sem]) rfl ?_;refine⟨_,_,_,_,_,rfl,⟨bd0,bd1,bd2,bd3⟩,bo3,HF.out,?_⟩
  repeat (first|exact Below.refl _ _|refine Below.drew ?_|refine Below.alloc ?_ (by first|(simp; done)|(simp; omega)) _))
theorem LY (x:Nat) (h:x<18446744073709551616):IntKind.u64.wrap (x:Int)=(x:Int):=by rw[IntKind.wrap_u64]; omega
theorem kL (x:Nat):IntKind.u64.wrap (x:Int)=((x%18446744073709551616:Nat):Int):=by rw[IntKind.wrap_u64]; omega
theorem kC (x S:Nat):(x:Int)*2^S=((x*2^S:Nat):Int):=by rw[Int.natCast_mul,Int.natCast_pow]; rfl
theorem AL (S:Nat) (h:S≤63):2^(64-S)*2^S=18446744073709551616:=by
 rw[←Nat.pow_add,show 64-S+S=64 by omega]
theorem aEZ {hi lo y S:Nat} (h2:hi<y) (hl:lo<18446744073709551616) (hS:S≤63) (hY:y*2^S<18446744073709551616) :
  ∃u L:Nat,bits .or .u64 (IntKind.u64.wrap ((hi:Int)*2^S)) ((lo:Int)/2^(64-S))=(u:Int)∧IntKind.u64.wrap ((lo:Int)*2^S)=(L:Int)∧u<y*2^S∧L<18446744073709551616∧u*18446744073709551616+L=(hi*18446744073709551616+lo)*2^S:=by
 have hp:0<2^S:=Nat.two_pow_pos S;have hps:=AL S hS;have hb:lo/2^(64-S)<2^S:=by
  rw[Nat.div_lt_iff_lt_mul (Nat.two_pow_pos _),Nat.mul_comm,hps]; exact hl
 have hhi:hi*2^S+2^S≤y*2^S:=by
  have:=Nat.mul_le_mul_right (2^S) (show hi+1≤y by omega);rw[Nat.add_mul]at this; omega
 have hd:lo*2^S/18446744073709551616=lo/2^(64-S):=by
  rw[←hps]; exact Nat.mul_div_mul_right _ _ hp
 refine⟨hi*2^S+lo/2^(64-S),lo*2^S%18446744073709551616,?_,?_,?_,by omega,?_⟩
 ·rw[kC,LY _ (by omega),show ((lo:Int)/2^(64-S))=((lo/2^(64-S):Nat):Int) by rw[Int.natCast_ediv,Int.natCast_pow]; rfl,
   bits_or_u64_nat _ _ (by omega) (by omega),Nat.mul_comm hi,Nat.two_pow_add_eq_or_of_lt hb]
 ·rw[kC,kL]
 ·omega
 ·rw[Nat.add_mul,←hd];have e:(hi*18446744073709551616+lo)*2^S=hi*2^S*18446744073709551616+lo*2^S:=by
   rw[Nat.add_mul,Nat.mul_right_comm]
  rw[e]; omega
theorem SQ {Y:Nat} (h:Y<18446744073709551616):∃a b:Nat,(Y:Int)/4294967296=(a:Int)∧bits .and .u64 (Y:Int) 4294967295=(b:Int)∧a<4294967296∧b<4294967296∧Y=a*4294967296+b:=by
 refine⟨Y/4294967296,Y%4294967296,by omega,?_,by omega,by omega,by omega⟩;have h':=bits_and_u64_nat Y 4294967295 h (by omega);rw[show Y &&& 4294967295=Y%4294967296 from Nat.and_two_pow_sub_one_eq_mod Y 32]at h';exact h'
theorem aZW (u y1:Nat) (h:0<y1):∃q r:Nat,(u:Int)/(y1:Int)=(q:Int)∧(u:Int)-(q:Int)*(y1:Int)=(r:Int)∧q*y1+r=u∧r<y1:=by
 have e:=Nat.div_add_mod u y1;rw[Nat.mul_comm]at e;refine⟨u/y1,u%y1,(Int.natCast_ediv u y1).symm,?_,e,Nat.mod_lt _ h⟩;rw[←Int.natCast_mul]; omega
def KI (y1 y0 u u1 q r:Nat):Prop:=q*y1+r=u∧(u*4294967296+u1)/(y1*4294967296+y0)≤q∧q≤4294967297∧r<4294967296
structure KS (y1 y0 u u1:Nat):Prop where
 a1:y1<4294967296
 a2:2147483648≤y1
 a3:y0<4294967296
 a4:u<y1*4294967296+y0
 a5:u1<4294967296
section
variable {y1 y0 u u1 q r:Nat}
theorem RT (q y1 y0:Nat):q*(y1*4294967296+y0)=q*y1*4294967296+q*y0:=by rw[Nat.mul_add,Nat.mul_assoc]
theorem aDG (s:KS y1 y0 u u1):0<y1*4294967296+y0:=by have:=s.a2; omega
theorem aDH (s:KS y1 y0 u u1) (e:q*y1+r=u) (h:r<y1):KI y1 y0 u u1 q r:=by
 obtain⟨b1,b2,b3,b4,b5⟩:=s;refine⟨e,?_,?_,by omega⟩
 ·rw[←Nat.lt_succ_iff,Nat.div_lt_iff_lt_mul (by omega),RT];have:(q+1)*y1=q*y1+y1:=by rw[Nat.add_mul,Nat.one_mul]
  rw[Nat.succ_eq_add_one,this]; omega
 ·rcases Nat.lt_or_ge q 4294967298 with h'|h'
  ·omega
  ·have:=Nat.mul_le_mul_right y1 h';omega
theorem aVu (s:KS y1 y0 u u1):(u*4294967296+u1)/(y1*4294967296+y0)<4294967296:=by
 obtain⟨b1,b2,b3,b4,b5⟩:=s;rw[Nat.div_lt_iff_lt_mul (by omega)]; omega
theorem aMx (s:KS y1 y0 u u1) (e:q*y1+r=u) (h:q*y0≤4294967296*r+u1):q≤(u*4294967296+u1)/(y1*4294967296+y0):=by
 rw[Nat.le_div_iff_mul_le (aDG s),RT]; omega
theorem aQc (s:KS y1 y0 u u1) (k:KI y1 y0 u u1 q r) (h:q*y0≤4294967296*r+u1):q=(u*4294967296+u1)/(y1*4294967296+y0) :=
 Nat.le_antisymm (aMx s k.1 h) k.2.1
theorem aVv (s:KS y1 y0 u u1) (k:KI y1 y0 u u1 q r) (h:4294967296*r+u1<q*y0):(u*4294967296+u1)/(y1*4294967296+y0)+1≤q:=by
 rw[Nat.succ_le_iff,Nat.div_lt_iff_lt_mul (aDG s),RT]; have:=k.1; omega
theorem aQd (s:KS y1 y0 u u1) (h:4294967296≤q):(u*4294967296+u1)/(y1*4294967296+y0)+1≤q:=by have:=aVu s; omega
theorem Pn (h:1≤q):(q-1)*y1+(r+y1)=q*y1+r:=by
 obtain⟨p,rfl⟩:∃p,q=p+1:=⟨q-1,by omega⟩
 rw[Nat.add_sub_cancel,Nat.add_mul,Nat.one_mul]; omega
theorem Po (k:KI y1 y0 u u1 q r) (h:(u*4294967296+u1)/(y1*4294967296+y0)+1≤q) (h':r+y1<4294967296):KI y1 y0 u u1 (q-1) (r+y1) :=
 ⟨by rw[Pn (Nat.le_trans (Nat.le_add_left 1 _) h)]; exact k.1,Nat.le_sub_one_of_lt h,by have:=k.2.2.1; omega,h'⟩
theorem Bi (s:KS y1 y0 u u1) (k:KI y1 y0 u u1 q r) (h:(u*4294967296+u1)/(y1*4294967296+y0)+1≤q) (h':4294967296≤r+y1):q-1=(u*4294967296+u1)/(y1*4294967296+y0):=by
 have e:=Pn (y1:=y1) (r:=r) (Nat.le_trans (Nat.le_add_left 1 _) h);refine Nat.le_antisymm (aMx s (e.trans k.1) ?_) (Nat.le_sub_one_of_lt h);have:=AU (show q-1≤4294967296 by have:=k.2.2.1; omega) (show y0≤4294967295 by have:=s.a3; omega);omega
end
theorem aKL {Y u u1:Nat} (hY:Y<18446744073709551616) (hp:0<Y) :
  ∃m:Nat,IntKind.u64.wrap (IntKind.u64.wrap (IntKind.u64.wrap ((u:Int)*4294967296)+(u1:Int))-IntKind.u64.wrap (((u*4294967296+u1)/Y:Nat)*(Y:Int)))=(m:Int)∧m<Y∧(u*4294967296+u1)/Y*Y+m=u*4294967296+u1:=by
 have e:=Nat.div_add_mod (u*4294967296+u1) Y;have hm:=Nat.mod_lt (u*4294967296+u1) hp;rw[Nat.mul_comm]at e;refine⟨(u*4294967296+u1)%Y,?_,hm,e⟩;rw[←Int.natCast_mul];generalize (u*4294967296+u1)/Y*Y=P at *;generalize (u*4294967296+u1)%Y=m at *;simp only[IntKind.wrap_u64];omega
theorem aKM {U Y y S V Q1 Q0 u L m R u1 u0:Nat} (hy:Y=y*2^S) (hU:U=V*2^S) (e:u*18446744073709551616+L=U) (eL:L=u1*4294967296+u0)
  (e1:Q1*Y+m=u*4294967296+u1) (e0:Q0*Y+R=m*4294967296+u0) (hR:R<Y):Q1*4294967296+Q0=V/y∧R/2^S=V%y:=by
 have hp:0<2^S:=Nat.two_pow_pos S;have hYp:0<Y:=by omega
 have hYU:U=(Q1*4294967296+Q0)*Y+R:=by
  have:(Q1*4294967296+Q0)*Y=Q1*Y*4294967296+Q0*Y:=by rw[Nat.add_mul,Nat.mul_right_comm]
  rw[this]; omega
 have hq:U/Y=Q1*4294967296+Q0:=by
  rw[hYU,Nat.mul_comm,Nat.mul_add_div hYp,Nat.div_eq_of_lt hR,Nat.add_zero]
 have hr:U%Y=R:=by
  rw[hYU,Nat.mul_comm,Nat.mul_add_mod,Nat.mod_eq_of_lt hR]
 constructor
 ·rw[←hq,hU,hy,Nat.mul_div_mul_right _ _ hp]
 ·rw[←hr,hU,hy,Nat.mul_mod_mul_right,Nat.mul_div_cancel _ hp]
theorem aDA {y:Nat} (h0:1≤y) (hy:y<18446744073709551616):Lib.bitLen y=y.log2+1∧2^y.log2≤y∧y<2^(y.log2+1)∧y.log2≤63:=by
 have a:=Nat.log2_self_le (show y≠0 by omega);have b:y<2^(y.log2+1):=Nat.lt_log2_self;refine⟨?_,a,b,?_⟩
 ·rw[Lib.bitLen_shift y.log2 y a hy];have:y/2^y.log2=1:=by
   rw[Nat.pow_succ]at b;exact (Nat.div_eq_iff (Nat.two_pow_pos _)).2 ⟨by omega,by omega⟩
  rw[this]; rfl
 ·have:=(Nat.log2_lt (show y≠0 by omega)).2 (show y<2^64 from hy);omega
theorem aWt {y:Nat} (h0:1≤y) (hy:y<18446744073709551616):∃S:Nat,(∀w,Calls prog 211 #[.int .u64 y] w fun e w'=>e=.returned (.int .i64 S)∧w'=w)∧S≤63∧9223372036854775808≤y*2^S∧y*2^S<18446744073709551616:=by
 obtain⟨hl,ha,hb,hk⟩:=aDA h0 hy;refine⟨63-y.log2,fun w => ?_,by omega,?_,?_⟩
 ·have:=Tryz.bits_LeadingZeros64 (y:Int) w (by omega) (by omega);rw[Int.toNat_natCast,hl,show (64-((y.log2+1:Nat):Int))=((63-y.log2:Nat):Int) by omega]at this;exact this
 ·have:=Nat.mul_le_mul_right (2^(63-y.log2)) ha;rw[←Nat.pow_add,show y.log2+(63-y.log2)=63 by omega]at this;exact this
 ·have:=Nat.mul_lt_mul_of_pos_right hb (Nat.two_pow_pos (63-y.log2));rw[←Nat.pow_add,show y.log2+1+(63-y.log2)=64 by omega]at this;exact this
def Su (V y:Nat) (w:World) (e:Ending) (w':World):Prop :=
 ∃n:Nat,e=.returned (.tuple #[.int .u64 (V/y:Nat),.int .u64 (V%y:Nat)])∧w'=w.drewN n
theorem Cb {y1 y0 u u1 Y:Nat} (ks:KS y1 y0 u u1) (hY:Y<18446744073709551616) (eY:Y=y1*4294967296+y0):∃q r p Q m:Nat,
  (u:Int)/(y1:Int)=(q:Int)∧(q:Int)*(y1:Int)=(p:Int)∧(u:Int)-(p:Int)=(r:Int)∧q≤4294967297∧r<4294967296∧p≤u∧Hid (KI y1 y0 u u1 q r) ∧
  IntKind.u64.wrap (IntKind.u64.wrap (IntKind.u64.wrap ((u:Int)*4294967296)+(u1:Int))-IntKind.u64.wrap ((Q:Int)*(Y:Int)))=(m:Int) ∧
  Q<4294967296∧m<Y∧Hid (Q=(u*4294967296+u1)/(y1*4294967296+y0))∧Hid (Q*Y+m=u*4294967296+u1):=by
 have b2:0<y1:=by have:=ks.a2; omega
 obtain⟨q,r,E8,E9,eq,hr⟩:=aZW u y1 b2;have ki:=aDH ks eq hr;obtain⟨m,Em,hm,em⟩:=aKL (u:=u) (u1:=u1) hY (by have:=ks.a2; omega);have hQ:=aVu ks;rw[←eY]at hQ;refine⟨q,r,q*y1,(u*4294967296+u1)/Y,m,E8,(Int.natCast_mul q y1).symm,by rw[Int.natCast_mul]; exact E9,ki.2.2.1,ki.2.2.2,by omega,Lib.hid ki,Em,hQ,hm,Lib.hid (by rw[←eY]),Lib.hid em⟩
def aNo (u1 q r t:Nat):Prop:=decide ((4294967296:Int)≤(q:Int))=true∨decide ((4294967296:Int)≤(q:Int))=false∧decide ((4294967296:Int)*(r:Int)+(u1:Int)<(t:Int))=true∧t<18446744073709551616
theorem aLE {y1 y0 u u1 q r:Nat} (s:KS y1 y0 u u1) (k:KI y1 y0 u u1 q r) {Q:Nat} (hQ:Q=(u*4294967296+u1)/(y1*4294967296+y0)) :
  ∃t v:Nat,(q:Int)*(y0:Int)=(t:Int)∧(r:Int)+(y1:Int)=(v:Int)∧v<18446744073709551616 ∧
  ((∃p:Nat,(q:Int)-1=(p:Int)∧p<q∧decide ((4294967296:Int)≤(v:Int))=false∧aNo u1 q r t∧Hid (KI y1 y0 u u1 p v)) ∨
  ((q:Int)-1=(Q:Int)∧1≤q∧decide ((4294967296:Int)≤(v:Int))=true∧aNo u1 q r t)∨(q=Q∧decide ((4294967296:Int)≤(q:Int))=false∧decide ((4294967296:Int)*(r:Int)+(u1:Int)<(t:Int))=false∧t<18446744073709551616)):=by
 have b1:=s.a1;have b3:=s.a3;have b5:=s.a5;have br:r<4294967296:=k.2.2.2;refine⟨q*y0,r+y1,(Int.natCast_mul q y0).symm,by omega,by omega,?_⟩
 rcases Nat.lt_or_ge q 4294967296 with h|h
 ·have hp:=AU (show q≤4294967295 by omega) (show y0≤4294967295 by omega)
  rcases Nat.lt_or_ge (4294967296*r+u1) (q*y0)with h'|h'
  ·have hn:=aVv s k h';have h1:=Nat.le_trans (Nat.le_add_left 1 _) hn
   rcases Nat.lt_or_ge (r+y1) 4294967296 with g|g
   ·exact Or.inl ⟨q-1,by omega,by omega,decide_eq_false (by omega),Or.inr ⟨decide_eq_false (by omega),decide_eq_true (by omega),by omega⟩,Lib.hid (Po k hn g)⟩
   ·have:=(Bi s k hn g).trans hQ.symm;exact Or.inr (Or.inl ⟨by omega,h1,decide_eq_true (by omega),Or.inr ⟨decide_eq_false (by omega),decide_eq_true (by omega),by omega⟩⟩)
  ·exact Or.inr (Or.inr ⟨(aQc s k h').trans hQ.symm,decide_eq_false (by omega),decide_eq_false (by omega),by omega⟩)
 ·have hn:=aQd s h
  rcases Nat.lt_or_ge (r+y1) 4294967296 with g|g
  ·exact Or.inl ⟨q-1,by omega,by omega,decide_eq_false (by omega),Or.inl (decide_eq_true (by omega)),Lib.hid (Po k hn g)⟩
  ·have:=(Bi s k hn g).trans hQ.symm;exact Or.inr (Or.inl ⟨by omega,by omega,decide_eq_true (by omega),Or.inl (decide_eq_true (by omega))⟩)
set_option maxHeartbeats 4000000 in
theorem Yf (hi lo y:Nat) (h1:1≤hi) (h2:hi<y) (hl:lo<18446744073709551616) (hy:y<18446744073709551616) (w:World) :
  Calls prog 209 #[.int .u64 hi,.int .u64 lo,.int .u64 y] w (Su (hi*18446744073709551616+lo) y w):=by
 obtain⟨S,m,hS,hY1,hY2⟩:=aWt (show 1≤y by omega) hy;obtain⟨u,L,E4,E5,hu,hL,eU⟩:=aEZ h2 hl hS hY2;obtain⟨Y,eY⟩:∃Y,Y=y*2^S:=⟨_,rfl⟩
 rw[←eY]at hY1 hY2 hu;have E1:IntKind.u64.wrap ((y:Int)*2^S)=(Y:Int):=by rw[kC,←eY,LY _ hY2]
 obtain⟨y1,y0,E2,E3,b1,b0,eYh⟩:=SQ hY2;obtain⟨u1,u0,E6,E7,c1,c0,eLh⟩:=SQ hL;have ks:KS y1 y0 u u1:=⟨b1,by omega,b0,by omega,c1⟩;obtain⟨q,r,p,Q1,m1,F1,F2,F3,F4,F5,F6,K1,F7,F8,F9,F10,F11⟩:=Cb ks hY2 eYh;have ks':KS y1 y0 m1 u0:=⟨b1,by omega,b0,by omega,c0⟩;obtain⟨q',r',p',Q0,R,G1,G2,G3,G4,G5,G6,K2,G7,G8,G9,G10,G11⟩:=Cb ks' hY2 eYh;obtain⟨j1,j2⟩:=aKM eY rfl eU eLh F11.out G11.out G9;have b2:0<y1:=by have:=ks.a2; omega
 have b3:0<(y1:Int):=by omega
 have bu:u<18446744073709551616:=by omega
 have bm:m1<18446744073709551616:=by omega
 have J2:(R:Int)/2^S=(((hi*18446744073709551616+lo)%y:Nat):Int):=by rw[←j2,Int.natCast_ediv,Int.natCast_pow]; rfl
 have J1:(Q1:Int)*4294967296+(Q0:Int)=(((hi*18446744073709551616+lo)/y:Nat):Int):=by rw[←j1]; omega
 have HJ2:=Lib.hid J2; have HJ1:=Lib.hid J1;have Hks:=Lib.hid ks; have Hks':=Lib.hid ks';clear eU eYh eLh eY j1 j2 ks ks' J1 J2 hY1 F11 G11 hu;have t1:((y:Int)==0)=false:=by simp; omega
 have t2:((hi:Int)==0)=false:=by simp; omega
 go_enter func209,ntmps209
 go_wp2_with fail;refine (m _).mono ?_
 rintro e w' ⟨rfl,rfl⟩
 go_wp2_with fail;clear t1 t2 E1 E2 E3 E4 E5 E6 E7 F1 F2 F3 h1 h2 m
 go_loop [15,16] (fun a b=>∃q r:Nat,a=.int .u64 q∧b=.int .u64 r∧Hid (KI y1 y0 u u1 q r)) (fun a _=>(intOf a).toNat)
 case atStart=>exact⟨q,r,rfl,rfl,K1⟩
 case round =>
  obtain⟨q2,r2,rfl,rfl,k⟩:=hrel;have d1:q2≤4294967297:=k.out.2.2.1;have d2:r2<4294967296:=k.out.2.2.2;obtain⟨t,v,ht,hv,bv,hc⟩:=aLE Hks.out k.out F10.out
  rcases hc with⟨p2,hp,lp,lv,g2|⟨g2,g3,g5⟩,g4⟩|⟨hp,lp,lv,g2|⟨g2,g3,g5⟩⟩|⟨rfl,g1,g2,g5⟩
  ·go_wp2_with fail
   go_round
   case rel=>exact⟨p2,v,rfl,rfl,g4⟩
   case measure=>simp[intOf]; omega
  ·go_wp2_with fail
   go_round
   case rel=>exact⟨p2,v,rfl,rfl,g4⟩
   case measure=>simp[intOf]; omega
  all_goals (
   go_wp2_with fail;clear ht hv bv d1 d2 k F7 G1 G2 G3
   go_loop [18,16] (fun a b=>∃q r:Nat,a=.int .u64 q∧b=.int .u64 r∧Hid (KI y1 y0 m1 u0 q r)) (fun a _=>(intOf a).toNat)
   case atStart=>exact⟨q',r',rfl,rfl,K2⟩
   case round =>
    obtain⟨q3,r3,rfl,rfl,k⟩:=hrel;have d1:q3≤4294967297:=k.out.2.2.1;have d2:r3<4294967296:=k.out.2.2.2;obtain⟨t,v,ht,hv,bv,hc⟩:=aLE Hks'.out k.out G10.out
    rcases hc with⟨p2,hp,lp,lv,g2|⟨g2,g3,g5⟩,g4⟩|⟨hp,lp,lv,g2|⟨g2,g3,g5⟩⟩|⟨rfl,g1,g2,g5⟩
    ·go_wp2_with fail
     go_round
     case rel=>exact⟨p2,v,rfl,rfl,g4⟩
     case measure=>simp[intOf]; omega
    ·go_wp2_with fail
     go_round
     case rel=>exact⟨p2,v,rfl,rfl,g4⟩
     case measure=>simp[intOf]; omega
    all_goals (
     go_wp2_with fail
     go_ret2
     exact⟨0,by rw[HJ1.out,HJ2.out]; rfl,rfl⟩))
theorem Jy (lo y:Nat) (h2:0<y) (hl:lo<18446744073709551616) (hy:y<18446744073709551616) (w:World) :
  Calls prog 209 #[.int .u64 0,.int .u64 lo,.int .u64 y] w (Su lo y w):=by
 obtain⟨q,E1⟩:∃q:Nat,(lo:Int)/(y:Int)=(q:Int):=⟨lo/y,(Int.natCast_ediv lo y).symm⟩
 obtain⟨r,E2⟩:∃r:Nat,(lo:Int)%(y:Int)=(r:Int):=⟨lo%y,(Int.natCast_emod lo y).symm⟩
 have e1:q=lo/y:=by rw[←Int.natCast_ediv]at E1; exact (Int.ofNat.inj E1).symm
 have e2:r=lo%y:=by rw[←Int.natCast_emod]at E2; exact (Int.ofNat.inj E2).symm
 have b1:q<18446744073709551616:=by rw[e1]; exact Nat.lt_of_le_of_lt (Nat.div_le_self _ _) hl
 have b2:r<18446744073709551616:=by rw[e2]; exact Nat.lt_of_lt_of_le (Nat.mod_lt _ h2) (by omega)
 have H1:=Lib.hid e1; have H2:=Lib.hid e2;clear e1 e2;have t1:((y:Int)==0)=false:=by simp; omega
 go_enter func209,ntmps209
 go_wp2_with fail
 go_quiet (fail)
 go_wp2_with fail
 go_ret2
 exact⟨_,by rw[←H1.out,←H2.out,←E2]; rfl,rfl⟩
theorem aEQ {hi lo y:Nat} (h:hi<y) (hl:lo<18446744073709551616) (hy:y<18446744073709551616):∃q r:Nat,
  (∀w,Calls prog 209 #[.int .u64 hi,.int .u64 lo,.int .u64 y] w fun e w'=>e=.returned (.tuple #[.int .u64 (q:Nat),.int .u64 (r:Nat)])∧∃n,w'=w.drewN n) ∧
  q<18446744073709551616∧r<y∧Hid (q*y+r=hi*18446744073709551616+lo):=by
 refine⟨(hi*18446744073709551616+lo)/y,(hi*18446744073709551616+lo)%y,fun w => ?_,?_,Nat.mod_lt _ (by omega),Lib.hid (by rw[Nat.mul_comm]; exact Nat.div_add_mod _ _)⟩
 ·rcases Nat.eq_zero_or_pos hi with rfl|h1
  ·have:=Jy lo y h hl hy w;rw[Nat.zero_mul,Nat.zero_add];exact this.mono fun e w' ⟨n,he,hw⟩=>⟨he,n,hw⟩
  ·exact (Yf hi lo y h1 h hl hy w).mono fun e w' ⟨n,he,hw⟩=>⟨he,n,hw⟩
 ·rw[Nat.div_lt_iff_lt_mul (by omega)];have:=Nat.mul_le_mul_right 18446744073709551616 (show hi+1≤y by omega);rw[Nat.mul_comm 18446744073709551616 y];omega
def RowIs (w:World) (b n:Nat) (P:Nat→Nat):Prop:=∀k,k<n→w.cell? ⟨b,k,none⟩=some (.int .u64 (P k:Nat))∧w.frozen? ⟨b,k,none⟩=false
def fW (P:Nat→Nat) (i v:Nat):Nat→Nat:=fun k=>if k=i then v else P k
def fG (l:List Nat):Nat→Nat:=fun k=>l.getD k 0
section
variable {w w':World} {b n i v:Nat} {P:Nat→Nat}
theorem RowIs.cell (h:RowIs w b n P) (hi:i<n):w.cell? ⟨b,i,none⟩=some (.int .u64 (P i:Nat)):=(h i hi).1
theorem RowIs.free (h:RowIs w b n P) (hi:i<n):w.frozen? ⟨b,i,none⟩=false:=(h i hi).2
theorem RowIs.set (h:RowIs w b n P) (hi:i<n):RowIs (w.setCell ⟨b,i,none⟩ (.int .u64 (v:Nat))) b n (fW P i v):=by
 intro k hk;refine⟨?_,by rw[World.frozen?_setCell]; exact h.free hk⟩;unfold fW
 by_cases e:k=i
 ·subst e; rw[if_pos rfl]; exact World.cell?_setCell_same (h:=h.cell hk) ..
 ·rw[if_neg e,World.cell?_setCell_other (h:=fun he=>e (by simpa using (congrArg Addr.off he).symm)) ..]; exact h.cell hk
theorem RowIs.other (h:RowIs w b n P) {c:Nat} (hc:c≠b) (x:Value):RowIs (w.setCell ⟨c,i,none⟩ x) b n P:=by
 intro k hk;exact⟨by rw[World.cell?_setCell_other (h:=fun he=>hc (by simpa using congrArg Addr.block he)) ..]; exact h.cell hk,by rw[World.frozen?_setCell]; exact h.free hk⟩
theorem RowIs.drew (h:RowIs w b n P):RowIs w.drew b n P:=h
theorem RowIs.drewN (h:RowIs w b n P) (m:Nat):RowIs (w.drewN m) b n P:=h
theorem RowIs.below (h:RowIs w b n P) {B:Nat} (hb:Below B w w') (hB:b<B):RowIs w' b n P:=by
 intro k hk;exact⟨by rw[hb.cell (p:=⟨b,k,none⟩) hB]; exact h.cell hk,by rw[hb.frozen (p:=⟨b,k,none⟩) hB]; exact h.free hk⟩
theorem RowIs.alloc (h:RowIs w b n P) (hb:b<w.heap.size) (o:Obj):RowIs (w.alloc o) b n P :=
 h.below ((Below.refl w.heap.size w).alloc (Nat.le_refl _) o) hb
theorem RowIs.mk (w:World) (t:TypeId) (l:List Nat) (b:Nat) (hb:b=w.heap.size):RowIs (w.alloc (.cells (l.map fun x=>Value.int .u64 (x:Nat)).toArray t)) b l.length (fG l):=by
 subst hb;intro k hk;refine⟨?_,World.frozen?_alloc_new _ _ _ _⟩;rw[World.cell?_alloc_new];simp[fG,hk]
end
structure Row4 (w:World) (b:Nat) (c0 c1 c2 c3:Nat):Prop where
 c0:w.cell? ⟨b,0,none⟩=some (.int .u64 c0)
 c1:w.cell? ⟨b,1,none⟩=some (.int .u64 c1)
 c2:w.cell? ⟨b,2,none⟩=some (.int .u64 c2)
 c3:w.cell? ⟨b,3,none⟩=some (.int .u64 c3)
 fr:∀k,w.frozen? ⟨b,k,none⟩=false
theorem Row4.below {w w':World} {b:Nat} {c0 c1 c2 c3:Nat} (h:Row4 w b c0 c1 c2 c3) {B:Nat} (hb:Below B w w') (hB:b<B):Row4 w' b c0 c1 c2 c3 :=
 ⟨by rw[hb.cell (p:=⟨b,0,none⟩) hB]; exact h.c0,by rw[hb.cell (p:=⟨b,1,none⟩) hB]; exact h.c1,by rw[hb.cell (p:=⟨b,2,none⟩) hB]; exact h.c2,by rw[hb.cell (p:=⟨b,3,none⟩) hB]; exact h.c3,
  fun k=>by rw[hb.frozen (p:=⟨b,k,none⟩) hB]; exact h.fr k⟩
theorem Row4.alloc {w:World} {b:Nat} {c0 c1 c2 c3:Nat} (h:Row4 w b c0 c1 c2 c3) (hb:b<w.heap.size) (o:Obj):Row4 (w.alloc o) b c0 c1 c2 c3 :=
 h.below ((Below.refl w.heap.size w).alloc (Nat.le_refl _) o) hb
theorem Row4.drewN {w:World} {b:Nat} {c0 c1 c2 c3:Nat} (h:Row4 w b c0 c1 c2 c3) (n:Nat):Row4 (w.drewN n) b c0 c1 c2 c3:=⟨h.c0,h.c1,h.c2,h.c3,h.fr⟩
theorem Row4.new (w:World) (c0 c1 c2 c3:Nat) (t:TypeId):Row4 (w.alloc (.cells #[.int .u64 c0,.int .u64 c1,.int .u64 c2,.int .u64 c3] t)) w.heap.size c0 c1 c2 c3 :=
 ⟨by rw[World.cell?_alloc_new]; rfl,by rw[World.cell?_alloc_new]; rfl,by rw[World.cell?_alloc_new]; rfl,by rw[World.cell?_alloc_new]; rfl,fun k=>World.frozen?_alloc_new _ _ _ _⟩
theorem Row4.other {w:World} {b d i:Nat} {c0 c1 c2 c3:Nat} (h:Row4 w b c0 c1 c2 c3) (hd:d≠b) (v:Value):Row4 (w.setCell ⟨d,i,none⟩ v) b c0 c1 c2 c3 :=
 ⟨by rw[World.cell?_setCell_other (h:=fun he=>hd (by simpa using congrArg Addr.block he)) ..]; exact h.c0,by rw[World.cell?_setCell_other (h:=fun he=>hd (by simpa using congrArg Addr.block he)) ..]; exact h.c1,
  by rw[World.cell?_setCell_other (h:=fun he=>hd (by simpa using congrArg Addr.block he)) ..]; exact h.c2,by rw[World.cell?_setCell_other (h:=fun he=>hd (by simpa using congrArg Addr.block he)) ..]; exact h.c3,
  fun k=>by rw[World.frozen?_setCell]; exact h.fr k⟩
def set4 (w:World) (b:Nat) (d0 d1 d2 d3:Nat):World:=(((w.setCell ⟨b,0,none⟩ (.int .u64 d0)).setCell ⟨b,1,none⟩ (.int .u64 d1)).setCell ⟨b,2,none⟩ (.int .u64 d2)).setCell ⟨b,3,none⟩ (.int .u64 d3)
theorem Row4.rows {w:World} {b:Nat} {c0 c1 c2 c3:Nat} (h:Row4 w b c0 c1 c2 c3):RowIs w b 4 (fG [c0,c1,c2,c3]):=by
 intro k hk;refine⟨?_,h.fr k⟩
 match k,hk with
 | 0,_=>exact h.c0
 | 1,_=>exact h.c1
 | 2,_=>exact h.c2
 | 3,_=>exact h.c3
theorem Row4.set4 {w:World} {b:Nat} {c0 c1 c2 c3:Nat} (h:Row4 w b c0 c1 c2 c3) (d0 d1 d2 d3:Nat):Row4 (set4 w b d0 d1 d2 d3) b d0 d1 d2 d3:=by
 have r:=(((h.rows.set (show 0<4 by omega) (v:=d0)).set (show 1<4 by omega) (v:=d1)).set (show 2<4 by omega) (v:=d2)).set (show 3<4 by omega) (v:=d3);exact⟨r.cell (by omega),r.cell (show 1<4 by omega),r.cell (show 2<4 by omega),r.cell (show 3<4 by omega),fun k=>by
  show World.frozen? (((_:World).setCell _ _)) _=_;rw[World.frozen?_setCell,World.frozen?_setCell,World.frozen?_setCell,World.frozen?_setCell]; exact h.fr k⟩
theorem Row4.set4_other {w:World} {b d:Nat} {c0 c1 c2 c3:Nat} (h:Row4 w b c0 c1 c2 c3) (hd:d≠b) (e0 e1 e2 e3:Nat):Row4 (Go.Proofs.YtjkpglhlmknciaaGreat.set4 w d e0 e1 e2 e3) b c0 c1 c2 c3 :=
 (((h.other hd _).other hd _).other hd _).other hd _
theorem bG {B:Nat} {w w':World} {b:Nat} (h:Below B w w') (hb:B≤b) (d0 d1 d2 d3:Nat):Below B w (set4 w' b d0 d1 d2 d3) :=
 (((h.setCell (p:=⟨b,0,none⟩) hb _).setCell (p:=⟨b,1,none⟩) hb _).setCell (p:=⟨b,2,none⟩) hb _).setCell (p:=⟨b,3,none⟩) hb _
theorem bD (B:Nat) (w:World) (n:Nat):Below B w (w.drewN n):=⟨rfl,rfl,rfl,Nat.le_refl _,fun _ _=>rfl⟩
def tot (B:Nat) (P:Nat→Nat):Nat→Nat
 | 0=>0
 | n+1=>tot B P n+P n*B^n
theorem bR (B:Nat) (P:Nat→Nat) (n:Nat):tot B P (n+1)=tot B P n+P n*B^n:=rfl
theorem gC (B:Nat) (P:Nat→Nat) (k v:Nat):∀n,n≤k→tot B (fW P k v) n=tot B P n
 | 0,_=>rfl
 | n+1,h=>by
  rw[bR,bR,gC B P k v n (by omega)];unfold fW;rw[if_neg (by omega)]
theorem Lw (B:Nat) (P:Nat→Nat) (k v:Nat):∀n,k<n→tot B (fW P k v) n+P k*B^k=tot B P n+v*B^k
 | n+1,h=>by
  rw[bR,bR]
  by_cases e:k=n
  ·subst e;rw[gC B P k v k (Nat.le_refl _)];unfold fW;rw[if_pos rfl]; omega
  ·have:=Lw B P k v n (by omega);have e':fW P k v n=P n:=by unfold fW; rw[if_neg (by omega)]
   rw[e']; omega
theorem VG (B:Nat) (P:Nat→Nat) (h:∀k,P k=0):∀n,tot B P n=0
 | 0=>rfl
 | n+1=>by rw[bR,VG B P h n,h n,Nat.zero_mul]
theorem Dr (B:Nat) (P:Nat→Nat) (hB:0<B):∀n,(∀k,k<n→P k<B)→tot B P n<B^n
 | 0,_=>by simp[tot]
 | n+1,h=>by
  have h1:=Dr B P hB n (fun k hk=>h k (by omega));have h2:=Nat.mul_le_mul_right (B^n) (show P n+1≤B by have:=h n (by omega); omega);rw[bR,Nat.pow_succ,Nat.mul_comm (B^n) B];rw[Nat.add_mul,Nat.one_mul]at h2;omega
theorem Eb {B:Nat} {P:Nat→Nat} {n k x o d o' T:Nat} (hk:k<n) (he:d+B*o'=x+P k+o) (hT:tot B P n+o*B^k=T) :
  tot B (fW P k d) n+o'*B^(k+1)=T+x*B^k:=by
 have h1:=Lw B P k d n hk;have h2:d*B^k+o'*B^(k+1)=x*B^k+P k*B^k+o*B^k:=by
  rw[Nat.pow_succ,←Nat.add_mul,←Nat.add_mul,←he,Nat.add_mul];congr 1;rw[Nat.mul_comm (B^k) B,←Nat.mul_assoc,Nat.mul_comm o' B]
 omega
section
variable {R n:Nat} {A B P:Nat→Nat} {i j o d o':Nat}
theorem zR (R:Nat) (P:Nat→Nat) (n:Nat):∀m,tot R P (n+m)=tot R P n+R^n*tot R (fun k=>P (n+k)) m
 | 0=>by rw[Nat.add_zero]; show _=_+R^n*0; rw[Nat.mul_zero,Nat.add_zero]
 | m+1=>by
  rw[show n+(m+1)=n+m+1 by omega,bR,zR R P n m,bR,Nat.mul_add,Nat.pow_add,←Nat.mul_assoc (R^n),Nat.add_assoc];rw[Nat.mul_comm (P (n+m)) (R^n*R^m),Nat.mul_right_comm]
end
theorem sE (P:Nat→Nat):aC (P 0) (P 1) (P 2) (P 3)=tot 18446744073709551616 P 4:=by
 unfold aC;simp only[tot];omega
structure MW (w wr:World) (A B P:Nat→Nat):Prop where
 below:Below w.heap.size w wr
 size:wr.heap.size=w.heap.size+1+1+1+1+1
 rowA:RowIs wr w.heap.size 4 A
 rowB:RowIs wr (w.heap.size+1) 4 B
 rowH:∃H,RowIs wr (w.heap.size+1+1) 4 H
 rowL:∃L,RowIs wr (w.heap.size+1+1+1) 4 L
 rowP:RowIs wr (w.heap.size+1+1+1+1) 8 P
 lt:∀k,P k<18446744073709551616
theorem MW.set {w wr:World} {A B P:Nat→Nat} (h:MW w wr A B P) {k d:Nat} (hk:k<8) (hd:d<18446744073709551616) :
  MW w (wr.setCell ⟨w.heap.size+1+1+1+1,k,none⟩ (.int .u64 (d:Nat))) A B (fW P k d) :=
 ⟨h.below.setCell (p:=⟨w.heap.size+1+1+1+1,k,none⟩) (by simp; omega) _,by rw[World.size_setCell]; exact h.size,h.rowA.other (by omega) _,h.rowB.other (by omega) _,
  h.rowH.elim fun H x=>⟨H,x.other (by omega) _⟩,h.rowL.elim fun L x=>⟨L,x.other (by omega) _⟩,h.rowP.set hk,
  fun x=>by unfold fW; split; exact hd; exact h.lt x⟩
theorem MW.drewN {w wr:World} {A B P:Nat→Nat} (h:MW w wr A B P) (n:Nat):MW w (wr.drewN n) A B P :=
 ⟨h.below.trans (bD _ _ _),h.size,h.rowA,h.rowB,h.rowH,h.rowL,h.rowP,h.lt⟩
theorem RowIs.mk4 {w:World} {b:Nat} {c0 c1 c2 c3:Nat} (h0:w.cell? ⟨b,0,none⟩=some (.int .u64 c0)) (h1:w.cell? ⟨b,1,none⟩=some (.int .u64 c1)) (h2:w.cell? ⟨b,2,none⟩=some (.int .u64 c2)) (h3:w.cell? ⟨b,3,none⟩=some (.int .u64 c3))
  (hf:∀k,w.frozen? ⟨b,k,none⟩=false):RowIs w b 4 (fG [c0,c1,c2,c3]):=by
 intro k hk;refine⟨?_,hf k⟩
 match k,hk with
 | 0,_=>exact h0
 | 1,_=>exact h1
 | 2,_=>exact h2
 | 3,_=>exact h3
theorem tE {a0 a1 a2 a3:Nat} (ha:bV a0 a1 a2 a3) (k:Nat):fG [a0,a1,a2,a3] k<18446744073709551616:=by
 obtain⟨h0,h1,h2,h3⟩:=ha;unfold fG
 match k with
 | 0=>exact h0
 | 1=>exact h1
 | 2=>exact h2
 | 3=>exact h3
 | k+4=>simp
theorem aGY (r0 r1 r2 r3 x:Nat):aC r0 r1 r2 r3*18446744073709551616+x=r3*115792089237316195423570985008687907853269984665640564039457584007913129639936+aC x r0 r1 r2:=by unfold aC; omega
theorem PA (b0 b1 b2 b3:Nat) (h:bV b0 b1 b2 b3):∃t,aC b0 b1 b2 b3=b3*6277101735386680763835789423207666416102355444464034512896+t∧t<6277101735386680763835789423207666416102355444464034512896:=by
 obtain⟨h0,h1,h2,_⟩:=h;exact⟨b0+18446744073709551616*(b1+18446744073709551616*b2),by unfold aC; omega,by omega⟩
theorem aVo {x r0 r1 r2:Nat} (hx:x<18446744073709551616) (h0:r0<18446744073709551616) (h1:r1<18446744073709551616):∃t,aC x r0 r1 r2=r2*6277101735386680763835789423207666416102355444464034512896+t∧t<6277101735386680763835789423207666416102355444464034512896 :=
 ⟨x+18446744073709551616*(r0+18446744073709551616*r1),by unfold aC; omega,by omega⟩
theorem aEh {N b b3 t r g m:Nat} (hb:b=b3*6277101735386680763835789423207666416102355444464034512896+t) (ht:t<6277101735386680763835789423207666416102355444464034512896) (h3:9223372036854775808≤b3) (hN:N=r*6277101735386680763835789423207666416102355444464034512896+m) (hm:m<6277101735386680763835789423207666416102355444464034512896)
  (hg:g<18446744073709551616) (h1:g*b3≤r) (h2:r<g*b3+b3):N/b≤g∧g≤N/b+2:=by
 have hp:0<b:=by omega
 constructor
 ·rw[←Nat.lt_succ_iff,Nat.div_lt_iff_lt_mul hp,Nat.succ_mul,hb,Nat.mul_add,←Nat.mul_assoc];omega
 ·have e:=Nat.div_add_mod N b;have hl:=Nat.mod_lt N hp;have h4:=AU (show g≤18446744073709551615 by omega) (show t≤6277101735386680763835789423207666416102355444464034512895 by omega);have h5:g*b<N+2*b:=by
   rw[hb,Nat.mul_add,←Nat.mul_assoc]; omega
  rcases Nat.lt_or_ge g (N/b+3)with h|h
  ·omega
  ·have h6:=Nat.mul_le_mul_right b h;rw[Nat.add_mul,Nat.mul_comm (N/b) b]at h6;omega
theorem aEi {N b b3 t r2 m x R:Nat} (hb:b=b3*6277101735386680763835789423207666416102355444464034512896+t) (ht:t<6277101735386680763835789423207666416102355444464034512896) (h3:9223372036854775808≤b3) (hN:N=b3*115792089237316195423570985008687907853269984665640564039457584007913129639936+(r2*6277101735386680763835789423207666416102355444464034512896+m)) (hR:N=R*18446744073709551616+x) (hx:x<18446744073709551616) (hl:R<b) :
  N/b≤18446744073709551615∧18446744073709551615≤N/b+2:=by
 have hp:0<b:=by omega
 constructor
 ·rw[←Nat.lt_succ_iff,Nat.div_lt_iff_lt_mul hp]; omega
 ·have e:=Nat.div_add_mod N b;have hl':=Nat.mod_lt N hp
  rcases Nat.lt_or_ge 18446744073709551615 (N/b+3)with h|h
  ·omega
  ·have h6:=Nat.mul_le_mul_right b h;rw[Nat.add_mul,Nat.mul_comm (N/b) b]at h6;omega
def TI (b R k top s:Nat):Prop:=k≤2∧(k=0→top=0∧s=R)∧(k=1→top*115792089237316195423570985008687907853269984665640564039457584007913129639936+s+b=18446744073709551616*115792089237316195423570985008687907853269984665640564039457584007913129639936+R∧0<top)∧(k=2→top*115792089237316195423570985008687907853269984665640564039457584007913129639936+s+b+b=18446744073709551616*115792089237316195423570985008687907853269984665640564039457584007913129639936+R∧0<top)
theorem VI {N b g r3 xr p o s c:Nat} (hb:b<115792089237316195423570985008687907853269984665640564039457584007913129639936) (hp:0<b) (hN:N=r3*115792089237316195423570985008687907853269984665640564039457584007913129639936+xr) (hxr:xr<115792089237316195423570985008687907853269984665640564039457584007913129639936) (h1:N/b≤g) (h2:g≤N/b+2) (hr:r3<18446744073709551616) (ho:o<18446744073709551616)
  (e1:p+115792089237316195423570985008687907853269984665640564039457584007913129639936*o=b*g) (hpp:p<115792089237316195423570985008687907853269984665640564039457584007913129639936) (e2:s+p=xr+115792089237316195423570985008687907853269984665640564039457584007913129639936*c) (hs:s<115792089237316195423570985008687907853269984665640564039457584007913129639936) :
  ∃top:Nat,IntKind.u64.wrap (IntKind.u64.wrap ((r3:Int)-(o:Int))-(c:Int))=(top:Int)∧top<18446744073709551616∧TI b (N%b) (g-N/b) top s:=by
 have e:=Nat.div_add_mod N b;have hl:=Nat.mod_lt N hp;obtain⟨k,hk⟩:∃k,g=N/b+k:=⟨g-N/b,by omega⟩
 subst hk;rw[Nat.mul_add]at e1;generalize b*(N/b)=P at *;generalize N%b=R at *;generalize N/b=q at *;have hk:k=0∨k=1∨k=2:=by omega
 rw[show q+k-q=k by omega];simp only[IntKind.wrap_u64];unfold TI
 rcases hk with rfl|rfl|rfl
 ·refine⟨0,by omega,by omega,by omega,fun _=>⟨rfl,by omega⟩,by omega,by omega⟩
 ·refine⟨(r3+18446744073709551616+18446744073709551616-o-c)%18446744073709551616,by omega,by omega,by omega,by omega,fun _=>by omega,by omega⟩
 ·refine⟨(r3+18446744073709551616+18446744073709551616-o-c)%18446744073709551616,by omega,by omega,by omega,by omega,by omega,fun _=>by omega⟩
theorem aAg {b R k top s:Nat} (h:TI b R k top s) (hk:0<k):0<top:=by
 obtain⟨h0,_,h2,h3⟩:=h;have:k=1∨k=2:=by omega
 rcases this with rfl|rfl
 ·exact (h2 rfl).2
 ·exact (h3 rfl).2
theorem VJ {b R k top s s' c:Nat} (hb:b<115792089237316195423570985008687907853269984665640564039457584007913129639936) (hR:R<b) (h:TI b R (k+1) top s) (ht:top<18446744073709551616) (hs:s<115792089237316195423570985008687907853269984665640564039457584007913129639936) (hs':s'<115792089237316195423570985008687907853269984665640564039457584007913129639936) (hc:c≤1) (e:s'+115792089237316195423570985008687907853269984665640564039457584007913129639936*c=s+b) :
  ∃top':Nat,IntKind.u64.wrap ((top:Int)+(c:Int))=(top':Int)∧top'<18446744073709551616∧TI b R k top' s':=by
 obtain⟨h0,_,h2,h3⟩:=h;have hk:k=0∨k=1:=by omega
 simp only[IntKind.wrap_u64];unfold TI
 rcases hk with rfl|rfl
 ·have h2:=h2 rfl;exact⟨0,by omega,by omega,by omega,fun _=>⟨rfl,by omega⟩,by omega,by omega⟩
 ·obtain⟨h3,h4⟩:=h3 rfl;have hv:top+c<18446744073709551616:=by omega
  refine⟨top+c,by omega,hv,by omega,(fun h=>absurd h (by omega)),(fun _=>⟨?_,by omega⟩),(fun h=>absurd h (by omega))⟩;rw[Nat.add_mul];omega
def dB (P:Nat→Prop) (w:World) (e:Ending) (w':World):Prop :=
 ∃s0 s1 s2 s3:Nat,e=.returned (.agg #[.int .u64 s0,.int .u64 s1,.int .u64 s2,.int .u64 s3])∧bV s0 s1 s2 s3∧P (aC s0 s1 s2 s3)∧Below w.heap.size w w'
structure TW (w wr:World) (lb:Nat) (b0 b1 b2 b3 s0 s1 s2 s3:Nat):Prop where
 below:Below w.heap.size w wr
 size:lb<wr.heap.size
 lo:w.heap.size+1+1<lb
 rowB:Row4 wr (w.heap.size+1) b0 b1 b2 b3
 rowO:Row4 wr (w.heap.size+1+1) 0 0 0 0
 rowS:Row4 wr lb s0 s1 s2 s3
theorem Kh (w:World) (o1 o2 o3:Obj):Below w.heap.size w (((w.alloc o1).alloc o2).alloc o3) :=
 (((Below.refl _ _).alloc (Nat.le_refl _) o1).alloc (by simp) o2).alloc (by simp; omega) o3
set_option maxHeartbeats 1000000 in
theorem VL (r0 r1 r2 r3 x b0 b1 b2 b3:Nat) (hr:bV r0 r1 r2 r3) (hx:x<18446744073709551616) (hb:bV b0 b1 b2 b3) (h3:9223372036854775808≤b3) (hlt:aC r0 r1 r2 r3<aC b0 b1 b2 b3) (hg:r3<b3) (w:World) :
  Calls prog 206 #[.agg #[.int .u64 r0,.int .u64 r1,.int .u64 r2,.int .u64 r3],.int .u64 x,.agg #[.int .u64 b0,.int .u64 b1,.int .u64 b2,.int .u64 b3]] w (dB (fun n=>n=(aC r0 r1 r2 r3*18446744073709551616+x)%aC b0 b1 b2 b3) w):=by
 obtain⟨g,ρ,dg,bg,bρ,eg⟩:=aEQ hg hr.2.2.1 hb.2.2.2;have cg:g<18446744073709551616:=bg;have HF:=Lib.hid (show (aC r0 r1 r2 r3*18446744073709551616+x)/aC b0 b1 b2 b3≤g∧g≤(aC r0 r1 r2 r3*18446744073709551616+x)/aC b0 b1 b2 b3+2 by
  obtain⟨t,e1,ht⟩:=PA b0 b1 b2 b3 hb;obtain⟨m,e2,hm⟩:=aVo (r2:=r2) hx hr.1 hr.2.1;have eg:=eg.out;exact aEh e1 ht h3 (r:=r3*18446744073709551616+r2) (m:=m) (by rw[aGY,e2]; omega) hm bg (by omega) (by omega))
 clear eg bρ
 go_enter func206,ntmps206
 go_wp2_with fail;refine (dg _).mono ?_
 rintro e w' ⟨rfl,n,rfl⟩
 go_wp2_with fail;refine (VB b0 b1 b2 b3 g hb cg _).mono ?_
 rintro e w1 ⟨p0,p1,p2,p3,o,rfl,hp,ho,ep,hbl⟩
 have R1:=(((Row4.new w r0 r1 r2 r3 67).alloc (by simp) _).alloc (by simp; omega) _).drewN n |>.below hbl (by simp; omega)
 have B1:=(((Row4.new (w.alloc _) b0 b1 b2 b3 67).alloc (by simp) _).drewN n).below hbl (by simp);have O1:=((Row4.new ((w.alloc _).alloc _) 0 0 0 0 67).drewN n).below hbl (by simp);simp only[World.size_alloc]at B1 O1;have hz1:w.heap.size+1+1<w1.heap.size:=by have:=hbl.size; simp at this; omega
 have hy1:w.heap.size+1<w1.heap.size:=by omega
 have hx1:w.heap.size<w1.heap.size:=by omega
 have Hbl:=Lib.hid hbl; have Hep:=Lib.hid ep;clear hbl ep;have R1':=R1;obtain⟨x0,x1,x2,x3,xf⟩:=R1;go_wp2_with fail;refine (tW x r0 r1 r2 p0 p1 p2 p3 ⟨hx,hr.1,hr.2.1,hr.2.2.1⟩ hp _).mono ?_
 rintro e w2 ⟨s0,s1,s2,s3,c,rfl,hs,hc,es,hbl⟩
 have R2:=(R1'.alloc hx1 _).below hbl (by rw[World.size_alloc]; omega);have B2:=(B1.alloc hy1 _).below hbl (by rw[World.size_alloc]; omega);have O2:=(O1.alloc hz1 _).below hbl (by rw[World.size_alloc]; omega);have hz2:w1.heap.size<w2.heap.size:=by have:=hbl.size; simp at this; omega
 have hw2:w.heap.size+1+1<w2.heap.size:=by omega
 have hy2:w.heap.size+1<w2.heap.size:=by omega
 have hx2:w.heap.size<w2.heap.size:=by omega
 have Hbl2:=Lib.hid hbl; have Hes:=Lib.hid es;clear hbl es x0 x1 x2 x3 xf;obtain⟨x0,x1,x2,x3,xf⟩:=R2;have vb:=bK hb;obtain⟨top,etop,btop,ti⟩:=VI (N:=aC r0 r1 r2 r3*18446744073709551616+x) (r3:=r3) vb (by omega) (aGY r0 r1 r2 r3 x) (bK ⟨hx,hr.1,hr.2.1,hr.2.2.1⟩) HF.out.1 HF.out.2 hr.2.2.2 ho Hep.out (bK hp) Hes.out (bK hs);have Hti:=Lib.hid ti;have HB2:Below w.heap.size w (w2.alloc (.cells #[.int .u64 s0,.int .u64 s1,.int .u64 s2,.int .u64 s3] 67)) :=
  (((Kh w _ _ _).trans (bD _ _ n)).trans (Hbl.out.mono (by simp; omega)) |>.alloc (by omega) _ |>.trans (Hbl2.out.mono (by rw[World.size_alloc]; omega))).alloc (by omega) _
 have HH:=Lib.hid HB2;clear ti vb HB2 Hbl Hbl2 Hep Hes HF;go_wp2_with fail;clear etop x0 x1 x2 x3 xf
 go_loopg [12] (g-(aC r0 r1 r2 r3*18446744073709551616+x)/aC b0 b1 b2 b3) (fun k t wr=>∃top s0 s1 s2 s3,t=.int .u64 (top:Nat)∧top<18446744073709551616∧bV s0 s1 s2 s3∧Hid (TI (aC b0 b1 b2 b3) ((aC r0 r1 r2 r3*18446744073709551616+x)%aC b0 b1 b2 b3) k top (aC s0 s1 s2 s3))∧TW w wr w2.heap.size b0 b1 b2 b3 s0 s1 s2 s3)
 case atStart=>exact⟨top,s0,s1,s2,s3,rfl,btop,hs,Hti,⟨HH.out,by simp,by omega,B2.alloc hy2 _,O2.alloc hw2 _,Row4.new _ _ _ _ _ _⟩⟩
 case round =>
  obtain⟨top,s0,s1,s2,s3,rfl,btop,hs,ti,tw⟩:=hrel;obtain⟨y0,y1,y2,y3,yf⟩:=tw.rowB;obtain⟨z0,z1,z2,z3,zf⟩:=tw.rowS;obtain⟨o0,o1,o2,o3,of⟩:=tw.rowO;have hsz:=tw.size;have hlo:=tw.lo
  rcases Nat.eq_zero_or_pos gk with rfl|hk
  ·have ht:=ti.out.2.1 rfl;have t0:((top:Int) != 0)=false:=by simp[ht.1]
   have HR:=Lib.hid ht.2;have HB:=Lib.hid tw.below;have HW:=Lib.hid tw;clear ti ht tw;go_wp2_with fail;refine bodyPost_ret (v:=.agg #[.int .u64 s0,.int .u64 s1,.int .u64 s2,.int .u64 s3]) (by simp[results,results206,go_sem, *]) rfl ?_;exact⟨s0,s1,s2,s3,rfl,hs,HR.out,bG HB.out (by omega) _ _ _ _⟩
  ·obtain⟨k,rfl⟩:∃k,gk=k+1:=⟨gk-1,by omega⟩
   have hp:=aAg ti.out hk;have t0:((top:Int) != 0)=true:=by simp; omega
   have HW:=Lib.hid tw;clear tw;go_wp2_with fail;refine (BQ s0 s1 s2 s3 b0 b1 b2 b3 hs hb _).mono ?_
   rintro e w3 ⟨n0,n1,n2,n3,c,rfl,hn,hc,en,hbl⟩
   have hz3:wr.heap.size≤w3.heap.size:=hbl.size;obtain⟨top',et,bt,ti'⟩:=VJ (bK hb) (Nat.mod_lt _ (by have:=bK hb; omega)) ti.out btop (bK hs) (bK hn) hc en;have S3:=HW.out.rowS.below hbl hsz;have T3:TW w (set4 w3 w2.heap.size n0 n1 n2 n3) w2.heap.size b0 b1 b2 b3 n0 n1 n2 n3 :=
    ⟨bG (HW.out.below.trans (hbl.mono HW.out.below.size)) (by omega) _ _ _ _,by unfold set4; simp only[World.size_setCell]; omega,hlo,
     (HW.out.rowB.below hbl (by omega)).set4_other (by omega) _ _ _ _,(HW.out.rowO.below hbl (by omega)).set4_other (by omega) _ _ _ _,S3.set4 _ _ _ _⟩
   have HT:=Lib.hid T3;have Hti:=Lib.hid ti';obtain⟨v0,v1,v2,v3,vf⟩:=S3;clear hbl en T3 ti' ti;go_wp2_with fail
   go_roundg k
   case rel=>exact⟨top',n0,n1,n2,n3,rfl,bt,hn,Hti,HT.out⟩
   case measure=>omega
set_option maxHeartbeats 1000000 in
theorem VM (r0 r1 r2 r3 x b0 b1 b2 b3:Nat) (hr:bV r0 r1 r2 r3) (hx:x<18446744073709551616) (hb:bV b0 b1 b2 b3) (h3:9223372036854775808≤b3) (hlt:aC r0 r1 r2 r3<aC b0 b1 b2 b3) (hg:¬r3<b3) (w:World) :
  Calls prog 206 #[.agg #[.int .u64 r0,.int .u64 r1,.int .u64 r2,.int .u64 r3],.int .u64 x,.agg #[.int .u64 b0,.int .u64 b1,.int .u64 b2,.int .u64 b3]] w (dB (fun n=>n=(aC r0 r1 r2 r3*18446744073709551616+x)%aC b0 b1 b2 b3) w):=by
 have HF:=Lib.hid (show (aC r0 r1 r2 r3*18446744073709551616+x)/aC b0 b1 b2 b3≤18446744073709551615∧18446744073709551615≤(aC r0 r1 r2 r3*18446744073709551616+x)/aC b0 b1 b2 b3+2 by
  obtain⟨t,e1,ht⟩:=PA b0 b1 b2 b3 hb;obtain⟨t',e1',ht'⟩:=PA r0 r1 r2 r3 hr;obtain⟨m,e2,hm⟩:=aVo (r2:=r2) hx hr.1 hr.2.1;exact aEi e1 ht h3 (r2:=r2) (m:=m) (by rw[aGY,e2]; omega) rfl hx hlt)
 go_enter func206,ntmps206
 go_wp2_with fail;refine (VB b0 b1 b2 b3 18446744073709551615 hb (by omega) _).mono ?_
 rintro e w1 ⟨p0,p1,p2,p3,o,rfl,hp,ho,ep,hbl⟩
 have R1:=(((Row4.new w r0 r1 r2 r3 67).alloc (by simp) _).alloc (by simp; omega) _) |>.below hbl (by simp; omega)
 have B1:=(((Row4.new (w.alloc _) b0 b1 b2 b3 67).alloc (by simp) _)).below hbl (by simp);have O1:=((Row4.new ((w.alloc _).alloc _) 0 0 0 0 67)).below hbl (by simp);simp only[World.size_alloc]at B1 O1;have hz1:w.heap.size+1+1<w1.heap.size:=by have:=hbl.size; simp at this; omega
 have hy1:w.heap.size+1<w1.heap.size:=by omega
 have hx1:w.heap.size<w1.heap.size:=by omega
 have Hbl:=Lib.hid hbl; have Hep:=Lib.hid ep;clear hbl ep;have R1':=R1;obtain⟨x0,x1,x2,x3,xf⟩:=R1;go_wp2_with fail;refine (tW x r0 r1 r2 p0 p1 p2 p3 ⟨hx,hr.1,hr.2.1,hr.2.2.1⟩ hp _).mono ?_
 rintro e w2 ⟨s0,s1,s2,s3,c,rfl,hs,hc,es,hbl⟩
 have R2:=(R1'.alloc hx1 _).below hbl (by rw[World.size_alloc]; omega);have B2:=(B1.alloc hy1 _).below hbl (by rw[World.size_alloc]; omega);have O2:=(O1.alloc hz1 _).below hbl (by rw[World.size_alloc]; omega);have hz2:w1.heap.size<w2.heap.size:=by have:=hbl.size; simp at this; omega
 have hw2:w.heap.size+1+1<w2.heap.size:=by omega
 have hy2:w.heap.size+1<w2.heap.size:=by omega
 have hx2:w.heap.size<w2.heap.size:=by omega
 have Hbl2:=Lib.hid hbl; have Hes:=Lib.hid es;clear hbl es x0 x1 x2 x3 xf;obtain⟨x0,x1,x2,x3,xf⟩:=R2;have vb:=bK hb;obtain⟨top,etop,btop,ti⟩:=VI (N:=aC r0 r1 r2 r3*18446744073709551616+x) (r3:=r3) vb (by omega) (aGY r0 r1 r2 r3 x) (bK ⟨hx,hr.1,hr.2.1,hr.2.2.1⟩) HF.out.1 HF.out.2 hr.2.2.2 ho Hep.out (bK hp) Hes.out (bK hs);have Hti:=Lib.hid ti;have HB2:Below w.heap.size w (w2.alloc (.cells #[.int .u64 s0,.int .u64 s1,.int .u64 s2,.int .u64 s3] 67)) :=
  ((Kh w _ _ _).trans (Hbl.out.mono (by simp; omega)) |>.alloc (by omega) _ |>.trans (Hbl2.out.mono (by rw[World.size_alloc]; omega))).alloc (by omega) _
 have HH:=Lib.hid HB2;clear ti vb HB2 Hbl Hbl2 Hep Hes HF;go_wp2_with fail;clear etop x0 x1 x2 x3 xf
 go_loopg [12] (18446744073709551615-(aC r0 r1 r2 r3*18446744073709551616+x)/aC b0 b1 b2 b3) (fun k t wr=>∃top s0 s1 s2 s3,t=.int .u64 (top:Nat)∧top<18446744073709551616∧bV s0 s1 s2 s3∧Hid (TI (aC b0 b1 b2 b3) ((aC r0 r1 r2 r3*18446744073709551616+x)%aC b0 b1 b2 b3) k top (aC s0 s1 s2 s3))∧TW w wr w2.heap.size b0 b1 b2 b3 s0 s1 s2 s3)
 case atStart=>exact⟨top,s0,s1,s2,s3,rfl,btop,hs,Hti,⟨HH.out,by simp,by omega,B2.alloc hy2 _,O2.alloc hw2 _,Row4.new _ _ _ _ _ _⟩⟩
 case round =>
  obtain⟨top,s0,s1,s2,s3,rfl,btop,hs,ti,tw⟩:=hrel;obtain⟨y0,y1,y2,y3,yf⟩:=tw.rowB;obtain⟨z0,z1,z2,z3,zf⟩:=tw.rowS;obtain⟨o0,o1,o2,o3,of⟩:=tw.rowO;have hsz:=tw.size;have hlo:=tw.lo
  rcases Nat.eq_zero_or_pos gk with rfl|hk
  ·have ht:=ti.out.2.1 rfl;have t0:((top:Int) != 0)=false:=by simp[ht.1]
   have HR:=Lib.hid ht.2;have HB:=Lib.hid tw.below;have HW:=Lib.hid tw;clear ti ht tw;go_wp2_with fail;refine bodyPost_ret (v:=.agg #[.int .u64 s0,.int .u64 s1,.int .u64 s2,.int .u64 s3]) (by simp[results,results206,go_sem, *]) rfl ?_;exact⟨s0,s1,s2,s3,rfl,hs,HR.out,bG HB.out (by omega) _ _ _ _⟩
  ·obtain⟨k,rfl⟩:∃k,gk=k+1:=⟨gk-1,by omega⟩
   have hp:=aAg ti.out hk;have t0:((top:Int) != 0)=true:=by simp; omega
   have HW:=Lib.hid tw;clear tw;go_wp2_with fail;refine (BQ s0 s1 s2 s3 b0 b1 b2 b3 hs hb _).mono ?_
   rintro e w3 ⟨n0,n1,n2,n3,c,rfl,hn,hc,en,hbl⟩
   have hz3:wr.heap.size≤w3.heap.size:=hbl.size;obtain⟨top',et,bt,ti'⟩:=VJ (bK hb) (Nat.mod_lt _ (by have:=bK hb; omega)) ti.out btop (bK hs) (bK hn) hc en;have S3:=HW.out.rowS.below hbl hsz;have T3:TW w (set4 w3 w2.heap.size n0 n1 n2 n3) w2.heap.size b0 b1 b2 b3 n0 n1 n2 n3 :=
    ⟨bG (HW.out.below.trans (hbl.mono HW.out.below.size)) (by omega) _ _ _ _,by unfold set4; simp only[World.size_setCell]; omega,hlo,
     (HW.out.rowB.below hbl (by omega)).set4_other (by omega) _ _ _ _,(HW.out.rowO.below hbl (by omega)).set4_other (by omega) _ _ _ _,S3.set4 _ _ _ _⟩
   have HT:=Lib.hid T3;have Hti:=Lib.hid ti';obtain⟨v0,v1,v2,v3,vf⟩:=S3;clear hbl en T3 ti' ti;go_wp2_with fail
   go_roundg k
   case rel=>exact⟨top',n0,n1,n2,n3,rfl,bt,hn,Hti,HT.out⟩
   case measure=>omega
theorem FJ (r0 r1 r2 r3 x b0 b1 b2 b3:Nat) (hr:bV r0 r1 r2 r3) (hx:x<18446744073709551616) (hb:bV b0 b1 b2 b3) (h3:9223372036854775808≤b3) (hlt:aC r0 r1 r2 r3<aC b0 b1 b2 b3) (w:World) :
  Calls prog 206 #[.agg #[.int .u64 r0,.int .u64 r1,.int .u64 r2,.int .u64 r3],.int .u64 x,.agg #[.int .u64 b0,.int .u64 b1,.int .u64 b2,.int .u64 b3]] w (dB (fun n=>n=(aC r0 r1 r2 r3*18446744073709551616+x)%aC b0 b1 b2 b3) w):=by
 by_cases hg:r3<b3
 ·exact VL r0 r1 r2 r3 x b0 b1 b2 b3 hr hx hb h3 hlt hg w
 ·exact VM r0 r1 r2 r3 x b0 b1 b2 b3 hr hx hb h3 hlt hg w
def Mem (w wr:World) (rs:List (Nat×Nat×Nat×Nat×Nat)):Prop :=
 Below w.heap.size w wr∧∀r,r∈rs→r.1<wr.heap.size∧Row4 wr r.1 r.2.1 r.2.2.1 r.2.2.2.1 r.2.2.2.2
theorem Mem.nil (w:World):Mem w w []:=⟨Below.refl _ _,fun _ h=>by cases h⟩
theorem Mem.on {w wr w':World} {rs:List (Nat×Nat×Nat×Nat×Nat)} (h:Mem w wr rs) (hb:Below wr.heap.size wr w'):Mem w w' rs :=
 ⟨h.1.trans (hb.mono h.1.size),fun r hr=>⟨Nat.lt_of_lt_of_le (h.2 r hr).1 hb.size,(h.2 r hr).2.below hb (h.2 r hr).1⟩⟩
theorem Mem.drewN {w wr:World} {rs:List (Nat×Nat×Nat×Nat×Nat)} (h:Mem w wr rs) (n:Nat):Mem w (wr.drewN n) rs:=h.on (bD _ _ n)
theorem Mem.new {w wr:World} {rs:List (Nat×Nat×Nat×Nat×Nat)} (h:Mem w wr rs) (b c0 c1 c2 c3:Nat) (t:TypeId) (hb:b=wr.heap.size) :
  Mem w (wr.alloc (.cells #[.int .u64 c0,.int .u64 c1,.int .u64 c2,.int .u64 c3] t)) ((b,c0,c1,c2,c3)::rs):=by
 subst hb;have hB:Below wr.heap.size wr (wr.alloc (.cells #[.int .u64 c0,.int .u64 c1,.int .u64 c2,.int .u64 c3] t)):=(Below.refl _ _).alloc (Nat.le_refl _) _;refine⟨(h.on hB).1,fun r hr => ?_⟩
 rcases List.mem_cons.1 hr with e|hr
 ·rw[e];exact⟨by simp,Row4.new wr c0 c1 c2 c3 t⟩
 ·exact (h.on hB).2 r hr
theorem Mem.get {w wr:World} {rs:List (Nat×Nat×Nat×Nat×Nat)} (h:Mem w wr rs) {b c0 c1 c2 c3:Nat} (hm:(b,c0,c1,c2,c3)∈rs):b<wr.heap.size∧Row4 wr b c0 c1 c2 c3:=h.2 _ hm
theorem Mem.sub {w wr:World} {rs rs':List (Nat×Nat×Nat×Nat×Nat)} (h:Mem w wr rs) (hs:∀r,r∈rs'→r∈rs):Mem w wr rs':=⟨h.1,fun r hr=>h.2 r (hs r hr)⟩
theorem Mem.put {w wr:World} {rs:List (Nat×Nat×Nat×Nat×Nat)} {b c0 c1 c2 c3:Nat} (h:Mem w wr ((b,c0,c1,c2,c3)::rs)) (d0 d1 d2 d3:Nat) (hw:w.heap.size≤b) (hne:∀r,r∈rs→r.1≠b) :
  Mem w (set4 wr b d0 d1 d2 d3) ((b,d0,d1,d2,d3)::rs):=by
 refine⟨bG h.1 hw _ _ _ _,fun r hr => ?_⟩;have hs:(set4 wr b d0 d1 d2 d3).heap.size=wr.heap.size:=by unfold set4; simp only[World.size_setCell]
 rcases List.mem_cons.1 hr with e|hr
 ·rw[e];exact⟨by rw[hs]; exact (h.2 _ List.mem_cons_self).1,(h.2 _ List.mem_cons_self).2.set4 _ _ _ _⟩
 ·exact⟨by rw[hs]; exact (h.2 r (List.mem_cons_of_mem _ hr)).1,(h.2 r (List.mem_cons_of_mem _ hr)).2.set4_other (fun e=>hne r hr e.symm) _ _ _ _⟩
theorem OE {x c:Nat} (hx:x<18446744073709551616) (hc:c≤1):∃d b:Nat,(∀w,(callFunc 102 #[.int .u64 (x:Int),.int .u64 0,.int .u64 (c:Int)]).run prog w =
   .ok (.value (.tuple #[.int .u64 (d:Int),.int .u64 (b:Int)])) w)∧d<18446744073709551616∧b≤1∧Hid (d+18446744073709551616*b=x+c) :=
 ⟨_,_,zZ x 0 c hc,TJ _ _ _,TK hx (by omega) hc,Lib.hid (by have:=aGa x 0 c; omega)⟩
set_option maxHeartbeats 1000000 in
theorem CW {a b c d:Nat} (ha:a<18446744073709551616) (hb:b<18446744073709551616) (hc:c<18446744073709551616) (hd:d<18446744073709551616):∃h l:Nat,
  (∀w,Calls prog 171 #[.int .u64 a,.int .u64 b,.int .u64 c,.int .u64 d] w fun e w'=>e=.returned (.tuple #[.int .u64 (h:Nat),.int .u64 (l:Nat)])∧w'=w) ∧
  h<18446744073709551616∧l<18446744073709551616∧Hid (l+18446744073709551616*h=a*b+c+d):=by
 obtain⟨h,l,r,hh,hl,e⟩:=Cc ha hb;obtain⟨l1,c1,r1,hl1,hc1,e1⟩:=qB hl hc;obtain⟨h1,z1,r2,hh1,hz1,e2⟩:=OE (show h<18446744073709551616 by omega) hc1;obtain⟨l2,c2,r3,hl2,hc2,e3⟩:=qB hl1 hd;obtain⟨h2,z2,r4,hh2,hz2,e4⟩:=OE hh1 hc2;have hab:=AU (show a≤18446744073709551615 by omega) (show b≤18446744073709551615 by omega);refine⟨h2,l2,fun w => ?_,hh2,hl2,Lib.hid (by have:=e.out; have:=e1.out; have:=e2.out; have:=e3.out; have:=e4.out; omega)⟩;clear e e1 e2 e3 e4 hab
 go_enter func171,ntmps171
 go_wp2_with fail;refine (r _).mono ?_
 rintro e w' ⟨rfl,rfl⟩
 go_wp2_with fail
 go_ret2
 exact⟨rfl,rfl⟩
structure KIs (w:World) (b:Nat) (F:FC):Prop where
 k0:w.cell? ⟨b,0,none⟩=some (.int .u64 F.m0)
 k1:w.cell? ⟨b,1,none⟩=some (.int .u64 F.m1)
 k2:w.cell? ⟨b,2,none⟩=some (.int .u64 F.m2)
 k3:w.cell? ⟨b,3,none⟩=some (.int .u64 F.m3)
 k4:w.cell? ⟨b,4,none⟩=some (.int .u64 F.inv)
 k5:w.cell? ⟨b,5,none⟩=some (.int .u64 F.s0)
 k6:w.cell? ⟨b,6,none⟩=some (.int .u64 F.s1)
 k7:w.cell? ⟨b,7,none⟩=some (.int .u64 F.s2)
 k8:w.cell? ⟨b,8,none⟩=some (.int .u64 F.s3)
 lt:b<w.heap.size
theorem KIs.below {w w':World} {b:Nat} {F:FC} (h:KIs w b F) {B:Nat} (hb:Below B w w') (hB:b<B):KIs w' b F :=
 ⟨by rw[hb.cell (p:=⟨b,0,none⟩) hB]; exact h.k0,by rw[hb.cell (p:=⟨b,1,none⟩) hB]; exact h.k1,by rw[hb.cell (p:=⟨b,2,none⟩) hB]; exact h.k2,by rw[hb.cell (p:=⟨b,3,none⟩) hB]; exact h.k3,
  by rw[hb.cell (p:=⟨b,4,none⟩) hB]; exact h.k4,by rw[hb.cell (p:=⟨b,5,none⟩) hB]; exact h.k5,by rw[hb.cell (p:=⟨b,6,none⟩) hB]; exact h.k6,by rw[hb.cell (p:=⟨b,7,none⟩) hB]; exact h.k7,by rw[hb.cell (p:=⟨b,8,none⟩) hB]; exact h.k8,Nat.lt_of_lt_of_le h.lt hb.size⟩
theorem KIs.same {w w':World} {b:Nat} {F:FC} (h:KIs w b F) (hb:Below w.heap.size w w'):KIs w' b F:=h.below hb h.lt
theorem KIs.drewN {w:World} {b:Nat} {F:FC} (h:KIs w b F) (n:Nat):KIs (w.drewN n) b F:=⟨h.k0,h.k1,h.k2,h.k3,h.k4,h.k5,h.k6,h.k7,h.k8,h.lt⟩
theorem KIs.other {w:World} {b d i:Nat} {F:FC} (h:KIs w b F) (hd:d≠b) (v:Value):KIs (w.setCell ⟨d,i,none⟩ v) b F :=
 ⟨by rw[World.cell?_setCell_other (h:=fun he=>hd (by simpa using congrArg Addr.block he)) ..]; exact h.k0,by rw[World.cell?_setCell_other (h:=fun he=>hd (by simpa using congrArg Addr.block he)) ..]; exact h.k1,
  by rw[World.cell?_setCell_other (h:=fun he=>hd (by simpa using congrArg Addr.block he)) ..]; exact h.k2,by rw[World.cell?_setCell_other (h:=fun he=>hd (by simpa using congrArg Addr.block he)) ..]; exact h.k3,
  by rw[World.cell?_setCell_other (h:=fun he=>hd (by simpa using congrArg Addr.block he)) ..]; exact h.k4,by rw[World.cell?_setCell_other (h:=fun he=>hd (by simpa using congrArg Addr.block he)) ..]; exact h.k5,
  by rw[World.cell?_setCell_other (h:=fun he=>hd (by simpa using congrArg Addr.block he)) ..]; exact h.k6,by rw[World.cell?_setCell_other (h:=fun he=>hd (by simpa using congrArg Addr.block he)) ..]; exact h.k7,
  by rw[World.cell?_setCell_other (h:=fun he=>hd (by simpa using congrArg Addr.block he)) ..]; exact h.k8,by rw[World.size_setCell]; exact h.lt⟩
theorem SL {a0 a1 a2 a3 b0 b1 b2 b3:Nat} (ha:bV a0 a1 a2 a3) (hb:bV b0 b1 b2 b3):∃d0 c0 d1 c1 d2 c2 d3 c3:Nat,
  (∀w,(callFunc 127 #[.int .u64 (a0:Int),.int .u64 (b0:Int),.int .u64 0]).run prog w=.ok (.value (.tuple #[.int .u64 (d0:Int),.int .u64 (c0:Int)])) w) ∧
  (∀w,(callFunc 127 #[.int .u64 (a1:Int),.int .u64 (b1:Int),.int .u64 (c0:Int)]).run prog w=.ok (.value (.tuple #[.int .u64 (d1:Int),.int .u64 (c1:Int)])) w) ∧
  (∀w,(callFunc 127 #[.int .u64 (a2:Int),.int .u64 (b2:Int),.int .u64 (c1:Int)]).run prog w=.ok (.value (.tuple #[.int .u64 (d2:Int),.int .u64 (c2:Int)])) w) ∧
  (∀w,(callFunc 127 #[.int .u64 (a3:Int),.int .u64 (b3:Int),.int .u64 (c2:Int)]).run prog w=.ok (.value (.tuple #[.int .u64 (d3:Int),.int .u64 (c3:Int)])) w) ∧
  bV d0 d1 d2 d3∧c3≤1∧Hid (aC d0 d1 d2 d3+aC b0 b1 b2 b3=aC a0 a1 a2 a3+115792089237316195423570985008687907853269984665640564039457584007913129639936*c3):=by
 obtain⟨d0,c0,r0,h0,k0,e0⟩:=OD ha.1 hb.1;obtain⟨d1,c1,r1,h1,k1,e1⟩:=qA ha.2.1 hb.2.1 k0;obtain⟨d2,c2,r2,h2,k2,e2⟩:=qA ha.2.2.1 hb.2.2.1 k1;obtain⟨d3,c3,r3,h3,k3,e3⟩:=qA ha.2.2.2 hb.2.2.2 k2;exact⟨d0,c0,d1,c1,d2,c2,d3,c3,r0,r1,r2,r3,⟨h0,h1,h2,h3⟩,k3,Lib.hid (by have:=e0.out; have:=e1.out; have:=e2.out; have:=e3.out; unfold aC; omega)⟩
theorem Qy {a0 a1 a2 a3 b0 b1 b2 b3:Nat} (ha:bV a0 a1 a2 a3) (hb:bV b0 b1 b2 b3):∃d0 c0 d1 c1 d2 c2 d3 c3:Nat,
  (∀w,(callFunc 102 #[.int .u64 (a0:Int),.int .u64 (b0:Int),.int .u64 0]).run prog w=.ok (.value (.tuple #[.int .u64 (d0:Int),.int .u64 (c0:Int)])) w) ∧
  (∀w,(callFunc 102 #[.int .u64 (a1:Int),.int .u64 (b1:Int),.int .u64 (c0:Int)]).run prog w=.ok (.value (.tuple #[.int .u64 (d1:Int),.int .u64 (c1:Int)])) w) ∧
  (∀w,(callFunc 102 #[.int .u64 (a2:Int),.int .u64 (b2:Int),.int .u64 (c1:Int)]).run prog w=.ok (.value (.tuple #[.int .u64 (d2:Int),.int .u64 (c2:Int)])) w) ∧
  (∀w,(callFunc 102 #[.int .u64 (a3:Int),.int .u64 (b3:Int),.int .u64 (c2:Int)]).run prog w=.ok (.value (.tuple #[.int .u64 (d3:Int),.int .u64 (c3:Int)])) w) ∧
  bV d0 d1 d2 d3∧c3≤1∧Hid (aC d0 d1 d2 d3+115792089237316195423570985008687907853269984665640564039457584007913129639936*c3=aC a0 a1 a2 a3+aC b0 b1 b2 b3):=by
 obtain⟨d0,c0,r0,h0,k0,e0⟩:=qB ha.1 hb.1;obtain⟨d1,c1,r1,h1,k1,e1⟩:=qC ha.2.1 hb.2.1 k0;obtain⟨d2,c2,r2,h2,k2,e2⟩:=qC ha.2.2.1 hb.2.2.1 k1;obtain⟨d3,c3,r3,h3,k3,e3⟩:=qC ha.2.2.2 hb.2.2.2 k2;exact⟨d0,c0,d1,c1,d2,c2,d3,c3,r0,r1,r2,r3,⟨h0,h1,h2,h3⟩,k3,Lib.hid (by have:=e0.out; have:=e1.out; have:=e2.out; have:=e3.out; unfold aC; omega)⟩
def fC (V:Nat) (w:World) (e:Ending) (w':World):Prop :=
 ∃s0 s1 s2 s3:Nat,e=.returned (.agg #[.int .u64 s0,.int .u64 s1,.int .u64 s2,.int .u64 s3])∧bV s0 s1 s2 s3∧aC s0 s1 s2 s3=V∧Below w.heap.size w w'
set_option maxHeartbeats 1000000 in
theorem GT (F:FC) (hF:F.Ok) (b t0 t1 t2 t3:Nat) (ht:bV t0 t1 t2 t3) (hlt:aC t0 t1 t2 t3<2*F.M) (w:World) (hk:KIs w b F) :
  Calls prog 170 #[.pointer (some ⟨b,0,none⟩),.int .u64 t0,.int .u64 t1,.int .u64 t2,.int .u64 t3] w (fC (aC t0 t1 t2 t3%F.M) w):=by
 obtain⟨d0,c0,d1,c1,d2,c2,d3,c3,r0,r1,r2,r3,hd,hc,e⟩:=SL ht hF.okm;have vd:=bK hd;have vt:=bK ht;have HV:=Lib.hid (aCm hlt);have HM:=Lib.hid (show F.M=aC F.m0 F.m1 F.m2 F.m3 from rfl);have hL:=hk.lt;have k0:=hk.k0; have k1:=hk.k1; have k2:=hk.k2; have k3:=hk.k3;clear hk hF hlt;have hc':c3=0∨c3=1:=by omega
 rcases hc' with rfl|rfl
 ·go_enter func170,ntmps170
  go_wp2_with fail;refine bodyPost_ret (v:=.agg #[.int .u64 d0,.int .u64 d1,.int .u64 d2,.int .u64 d3]) (by simp[results,results170,go_sem]) rfl ?_;refine⟨_,_,_,_,rfl,hd,?_,?_⟩
  ·rw[HV.out,if_neg (by have:=e.out; have:=HM.out; omega)]; have:=e.out; have:=HM.out; omega
  ·repeat (first|exact Below.refl _ _|refine Below.drew ?_|refine Below.alloc ?_ (by first|(simp; done)|(simp; omega)) _|refine Below.setCell ?_ (by simp) _)
 ·go_enter func170,ntmps170
  go_wp2_with fail;refine bodyPost_ret (v:=.agg #[.int .u64 t0,.int .u64 t1,.int .u64 t2,.int .u64 t3]) (by simp[results,results170,go_sem]) rfl ?_;refine⟨_,_,_,_,rfl,ht,?_,?_⟩
  ·rw[HV.out,if_pos (by have:=e.out; have:=HM.out; omega)]
  ·repeat (first|exact Below.refl _ _|refine Below.drew ?_|refine Below.alloc ?_ (by first|(simp; done)|(simp; omega)) _|refine Below.setCell ?_ (by simp) _)
theorem aEL (F:FC) (hF:F.Ok) {x y0 y1 y2 y3 t0 t1 t2 t3:Nat} {X:Nat→Nat} {k:Nat} (hk:k<4) (hx:x<18446744073709551616) (hX:X k=x) (hy:bV y0 y1 y2 y3) (hY:aC y0 y1 y2 y3<F.M) (ht:bV t0 t1 t2 t3) (g:Lo F.M X (aC y0 y1 y2 y3) k (aC t0 t1 t2 t3)) :
  ∃o0 l0 cl c0 z o1 l1 c1 n0 o2 l2 c2 n1 o3 l3 c3 n2 n3:Nat,
  (∀w,Calls prog 171 #[.int .u64 x,.int .u64 y0,.int .u64 t0,.int .u64 0] w fun e w'=>e=.returned (.tuple #[.int .u64 (o0:Nat),.int .u64 (l0:Nat)])∧w'=w) ∧
  IntKind.u64.wrap ((l0:Int)*(F.inv:Int))=(cl:Int) ∧
  (∀w,Calls prog 171 #[.int .u64 cl,.int .u64 F.m0,.int .u64 l0,.int .u64 0] w fun e w'=>e=.returned (.tuple #[.int .u64 (c0:Nat),.int .u64 (z:Nat)])∧w'=w) ∧
  (∀w,Calls prog 171 #[.int .u64 x,.int .u64 y1,.int .u64 t1,.int .u64 o0] w fun e w'=>e=.returned (.tuple #[.int .u64 (o1:Nat),.int .u64 (l1:Nat)])∧w'=w) ∧
  (∀w,Calls prog 171 #[.int .u64 cl,.int .u64 F.m1,.int .u64 l1,.int .u64 c0] w fun e w'=>e=.returned (.tuple #[.int .u64 (c1:Nat),.int .u64 (n0:Nat)])∧w'=w) ∧
  (∀w,Calls prog 171 #[.int .u64 x,.int .u64 y2,.int .u64 t2,.int .u64 o1] w fun e w'=>e=.returned (.tuple #[.int .u64 (o2:Nat),.int .u64 (l2:Nat)])∧w'=w) ∧
  (∀w,Calls prog 171 #[.int .u64 cl,.int .u64 F.m2,.int .u64 l2,.int .u64 c1] w fun e w'=>e=.returned (.tuple #[.int .u64 (c2:Nat),.int .u64 (n1:Nat)])∧w'=w) ∧
  (∀w,Calls prog 171 #[.int .u64 x,.int .u64 y3,.int .u64 t3,.int .u64 o2] w fun e w'=>e=.returned (.tuple #[.int .u64 (o3:Nat),.int .u64 (l3:Nat)])∧w'=w) ∧
  (∀w,Calls prog 171 #[.int .u64 cl,.int .u64 F.m3,.int .u64 l3,.int .u64 c2] w fun e w'=>e=.returned (.tuple #[.int .u64 (c3:Nat),.int .u64 (n2:Nat)])∧w'=w) ∧
  (o3:Int)+(c3:Int)=(n3:Int)∧o3+c3<18446744073709551616∧bV n0 n1 n2 n3∧Hid (Lo F.M X (aC y0 y1 y2 y3) (k+1) (aC n0 n1 n2 n3)):=by
 obtain⟨o0,l0,r0,bo0,bl0,e0⟩:=CW hx hy.1 ht.1 (show 0<18446744073709551616 by omega);obtain⟨cl,hcl⟩:∃cl,cl=l0*F.inv%18446744073709551616:=⟨_,rfl⟩
 have bcl:cl<18446744073709551616:=by omega
 obtain⟨c0,z,s0,bc0,bz,f0⟩:=CW bcl hF.okm.1 bl0 (show 0<18446744073709551616 by omega);obtain⟨o1,l1,r1,bo1,ET,e1⟩:=CW hx hy.2.1 ht.2.1 bo0;obtain⟨c1,n0,s1,bc1,bn0,f1⟩:=CW bcl hF.okm.2.1 ET bc0;obtain⟨o2,l2,r2,bo2,rM,e2⟩:=CW hx hy.2.2.1 ht.2.2.1 bo1;obtain⟨c2,n1,s2,bc2,bn1,f2⟩:=CW bcl hF.okm.2.2.1 rM bc1;obtain⟨o3,l3,r3,bo3,bl3,e3⟩:=CW hx hy.2.2.2 ht.2.2.2 bo2;obtain⟨c3,n2,s3,bc3,bn2,f3⟩:=CW bcl hF.okm.2.2.2 bl3 bc2;have hz:z=0:=by
  have h:=Kd (l:=l0) hF.turn;rw[←hcl]at h;have:=f0.out;omega
 subst hz;have ha:=YK (e0.out) (f0.out) e1.out f1.out e2.out f2.out e3.out f3.out;have hg:=Xr (X:=X) hk g (by rw[hX]; exact hx) hY bcl (N:=aC n0 n1 n2 (o3+c3)) (by rw[hX]; exact ha);have hn3:o3+c3<18446744073709551616:=Zp (B:=0) (Nat.lt_trans hg.1 hF.two);refine⟨o0,l0,cl,c0,0,o1,l1,c1,n0,o2,l2,c2,n1,o3,l3,c3,n2,o3+c3,r0,?_,s0,r1,s1,r2,s2,r3,s3,?_,hn3,⟨bn0,bn1,bn2,hn3⟩,Lib.hid hg⟩
 ·rw[hcl,←Int.natCast_mul]; exact kL _
 ·exact (Int.natCast_add _ _).symm
theorem Jg (x0 x1 x2 x3 k:Nat) (hk:k<4) (w:World):(Instr.index 162 (.agg #[.int .u64 x0,.int .u64 x1,.int .u64 x2,.int .u64 x3]) (.int .i64 k)).run prog w=.ok (.int .u64 (fG [x0,x1,x2,x3] k:Nat)) w:=by
 have h0:∀w,(Instr.index 162 (.agg #[.int .u64 x0,.int .u64 x1,.int .u64 x2,.int .u64 x3]) (.int .i64 0)).run prog w=.ok (.int .u64 x0) w:=fun _=>by kernel_rfl
 have h1:∀w,(Instr.index 162 (.agg #[.int .u64 x0,.int .u64 x1,.int .u64 x2,.int .u64 x3]) (.int .i64 1)).run prog w=.ok (.int .u64 x1) w:=fun _=>by kernel_rfl
 have h2:∀w,(Instr.index 162 (.agg #[.int .u64 x0,.int .u64 x1,.int .u64 x2,.int .u64 x3]) (.int .i64 2)).run prog w=.ok (.int .u64 x2) w:=fun _=>by kernel_rfl
 have h3:∀w,(Instr.index 162 (.agg #[.int .u64 x0,.int .u64 x1,.int .u64 x2,.int .u64 x3]) (.int .i64 3)).run prog w=.ok (.int .u64 x3) w:=fun _=>by kernel_rfl
 have:k=0∨k=1∨k=2∨k=3:=by omega
 rcases this with rfl|rfl|rfl|rfl
 ·exact h0 w
 ·exact h1 w
 ·exact h2 w
 ·exact h3 w
set_option maxHeartbeats 4000000 in
theorem jF (F:FC) (hF:F.Ok) (b x0 x1 x2 x3 y0 y1 y2 y3:Nat) (hx:bV x0 x1 x2 x3) (hy:bV y0 y1 y2 y3) (hY:aC y0 y1 y2 y3<F.M) (w:World) (hk:KIs w b F) :
  Calls prog 141 #[.pointer (some ⟨b,0,none⟩),.agg #[.int .u64 x0,.int .u64 x1,.int .u64 x2,.int .u64 x3],.agg #[.int .u64 y0,.int .u64 y1,.int .u64 y2,.int .u64 y3]] w (fC (aC x0 x1 x2 x3*aC y0 y1 y2 y3*F.Ri%F.M) w):=by
 obtain⟨X,eX⟩:∃X,X=fG [x0,x1,x2,x3]:=⟨_,rfl⟩
 have HX:=Lib.hid eX;have hXlt:=tE hx;have HXlt:=Lib.hid hXlt;have HY:=Lib.hid hY;have HF:=Lib.hid hF;have HK:=Lib.hid hk;have HI:=Lib.hid (Jg x0 x1 x2 x3);have hL:=hk.lt;have hL1:b<w.heap.size+1:=by omega
 have hL2:b<w.heap.size+1+1:=by omega
 have k0:=hk.k0; have k1:=hk.k1; have k2:=hk.k2; have k3:=hk.k3; have k4:=hk.k4;have bi:=hF.inv;have HG:=Lib.hid (Xq (Y:=aC y0 y1 y2 y3) X (show 0<F.M by have:=hF.gt; omega));clear eX hXlt hY hF hk
 go_enter func141,ntmps141
 go_wp2_with fail
 go_loop [8,9,10,11,23] (fun v0 v1 v2 v3 i=>∃k t0 t1 t2 t3:Nat,k≤4∧i=.int .i64 k∧v0=.int .u64 t0∧v1=.int .u64 t1∧v2=.int .u64 t2∧v3=.int .u64 t3∧bV t0 t1 t2 t3∧Hid (Lo F.M X (aC y0 y1 y2 y3) k (aC t0 t1 t2 t3))) (fun _ _ _ _ i=>4-(intOf i).toNat)
 case atStart=>exact⟨0,0,0,0,0,by omega,rfl,rfl,rfl,rfl,rfl,⟨by omega,by omega,by omega,by omega⟩,HG⟩
 case round =>
  obtain⟨k,t0,t1,t2,t3,hk,rfl,rfl,rfl,rfl,rfl,ht,g⟩:=hrel
  by_cases hlt:k<4
  ·obtain⟨x,ex⟩:∃x,x=fG [x0,x1,x2,x3] k:=⟨_,rfl⟩
   have hi:=HI.out k hlt;rw[←ex]at hi;have bx:x<18446744073709551616:=by rw[ex]; exact HXlt.out k
   obtain⟨o0,l0,cl,c0,z,o1,l1,c1,n0,o2,l2,c2,n1,o3,l3,c3,n2,n3,r0,q,s0,r1,s1,r2,s2,r3,s3,p,hp,hn,hg⟩:=aEL F HF.out hlt bx (by rw[ex,HX.out]) hy HY.out ht g.out;clear ex g;go_wp2_with (first|(with_reducible refine (r0 _).mono ?_; rintro e w' ⟨rfl,rfl⟩)|(with_reducible refine (s0 _).mono ?_; rintro e w' ⟨rfl,rfl⟩)|(with_reducible refine (r1 _).mono ?_; rintro e w' ⟨rfl,rfl⟩)|(with_reducible refine (s1 _).mono ?_; rintro e w' ⟨rfl,rfl⟩)|(with_reducible refine (r2 _).mono ?_; rintro e w' ⟨rfl,rfl⟩)|(with_reducible refine (s2 _).mono ?_; rintro e w' ⟨rfl,rfl⟩)|(with_reducible refine (r3 _).mono ?_; rintro e w' ⟨rfl,rfl⟩)|(with_reducible refine (s3 _).mono ?_; rintro e w' ⟨rfl,rfl⟩))
   go_round
   case rel=>exact⟨k+1,n0,n1,n2,n3,by omega,by go_num,rfl,rfl,rfl,rfl,hn,hg⟩
   case measure=>simp[intOf]; omega
  ·obtain rfl:k=4:=by omega
   obtain⟨ge,gv⟩:=aEj HF.out (x0:=x0) (x1:=x1) (x2:=x2) (x3:=x3) (by rw[HX.out]; rfl) (by rw[HX.out]; rfl) (by rw[HX.out]; rfl) (by rw[HX.out]; rfl) g.out;have HGV:=Lib.hid gv;clear gv g;go_wp2_with fail;refine (GT F HF.out b t0 t1 t2 t3 ht ge _ (HK.out.same ?_)).mono ?_
   ·repeat (first|exact Below.refl _ _|refine Below.drew ?_|refine Below.alloc ?_ (by first|(simp; done)|(simp; omega)) _)
   rintro e w1 ⟨s0,s1,s2,s3,rfl,hs,hv,hbl⟩
   have HV:=Lib.hid hv;obtain⟨hc,hf⟩:=JU hbl;have hz:w.heap.size+1+1<w1.heap.size:=by have:=hbl.size; simp at this; omega
   have HBL:=Lib.hid hbl;clear hv hbl;go_wp2_with fail;refine bodyPost_ret (v:=.agg #[.int .u64 s0,.int .u64 s1,.int .u64 s2,.int .u64 s3]) (by simp[results,results141,go_sem, *]) rfl ?_;refine⟨_,_,_,_,rfl,hs,HV.out.trans HGV.out,?_⟩;refine bG (Below.trans ?_ (HBL.out.mono (by simp; omega))) (by omega) _ _ _ _
   repeat (first|exact Below.refl _ _|refine Below.drew ?_|refine Below.alloc ?_ (by first|(simp; done)|(simp; omega)) _)
end Go.Proofs.YtjkpglhlmknciaaGreat
