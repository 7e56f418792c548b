/- Jj01 -/
import Derived.Laws.Externs
import Derived.KernelRfl
import GoSem.Claim
import Derived.Below
import Derived.Deep.MidRow
import Derived.Great.BuildSlice
import Derived.Test.YtjeplinbleofnaaJj00
import Derived.Test.YtjeplinbleofnaaProg
set_option maxRecDepth 100000
set_option linter.unusedVariables false
set_option linter.unusedSimpArgs false
set_option linter.unnecessarySimpa false
namespace Go.Proofs.Ytjeplinbleofnaa.Ex
open Go.Proofs.Try
def Eg:RE:=(Z0*Z0*Z1*Z1*Z2*Z2*Z2*Z2*Z3*Z3*Z3*Z3*Z7*Z7*Z7+Z0*Z0*Z2*Z2*Z2*Z2*Z3*Z3*Z3*Z3*Z6*Z7*Z7-Z0*Z0*Z2*Z2*Z2*Z2*Z3*Z3*Z6*Z6*Z7-Z0*Z0*Z2*Z2*Z3*Z3*Z3*Z3*Z6*Z7+Z1*Z1*Z2*Z2*Z2*Z2*Z3*Z3*Z3*Z3*Z7*Z7-Z1*Z1*Z2*Z2*Z2*Z2*Z3*Z3*Z6*Z7-Z1*Z1*Z2*Z2*Z3*Z3*Z3*Z3*Z7+(RE.one+RE.one)*Z2*Z2*Z2*Z2*Z3*Z3*Z3*Z3*Z6*Z7-Z2*Z2*Z2*Z2*Z3*Z3*Z3*Z3*Z7*Z7-(RE.one+RE.one)*Z2*Z2*Z2*Z2*Z3*Z3*Z6*Z6+Z2*Z2*Z2*Z2*Z6*Z6-(RE.one+RE.one)*Z2*Z2*Z3*Z3*Z3*Z3*Z6+(RE.one+RE.one+RE.one+RE.one)*Z2*Z2*Z3*Z3*Z6-(RE.one+RE.one)*Z2*Z2*Z3*Z3*Z7+Z3*Z3*Z3*Z3)
def Ef:RE:=(Z0*Z0*Z0*Z0*Z2*Z2*Z3*Z3*Z6*Z6*Z7+(RE.one+RE.one)*Z0*Z0*Z2*Z2*Z3*Z3*Z6*Z6-(RE.one+RE.one)*Z0*Z0*Z2*Z2*Z3*Z3*Z6*Z7-Z0*Z0*Z2*Z2*Z6*Z6-Z0*Z0*Z3*Z3*Z6+Z1*Z1*Z1*Z1*Z2*Z2*Z3*Z3*Z7+(RE.one+RE.one)*Z1*Z1*Z2*Z2*Z3*Z3*Z6-(RE.one+RE.one)*Z1*Z1*Z2*Z2*Z3*Z3*Z7-Z1*Z1*Z2*Z2*Z6-Z1*Z1*Z3*Z3-(RE.one+RE.one)*Z2*Z2*Z3*Z3*Z6+Z2*Z2*Z3*Z3*Z7+Z2*Z2*Z6+Z3*Z3+RE.one)
def Ee:RE:=(Z0*Z2*Z2*Z2*Z2*Z3*Z3*Z3*Z4*Z4*Z5*Z6*Z7*Z7-Z0*Z2*Z2*Z2*Z2*Z3*Z4*Z4*Z5*Z6*Z6*Z7-Z0*Z2*Z2*Z2*Z3*Z3*Z3*Z3*Z4*Z5*Z5*Z7*Z7-Z0*Z2*Z2*Z2*Z3*Z3*Z4*Z4*Z4*Z6*Z6*Z7+Z0*Z2*Z2*Z2*Z3*Z3*Z4*Z6*Z7+Z0*Z2*Z2*Z3*Z3*Z3*Z5*Z5*Z5*Z7-Z0*Z2*Z2*Z3*Z3*Z3*Z5*Z7+Z0*Z2*Z3*Z3*Z3*Z3*Z4*Z5*Z5*Z7+Z1*Z2*Z2*Z2*Z2*Z3*Z3*Z3*Z4*Z5*Z5*Z7*Z7-Z1*Z2*Z2*Z2*Z2*Z3*Z4*Z5*Z5*Z6*Z7+Z1*Z2*Z2*Z2*Z3*Z3*Z3*Z3*Z4*Z4*Z5*Z7*Z7+Z1*Z2*Z2*Z2*Z3*Z3*Z5*Z5*Z5*Z7-Z1*Z2*Z2*Z2*Z3*Z3*Z5*Z7+Z1*Z2*Z2*Z3*Z3*Z3*Z4*Z4*Z4*Z6*Z7-Z1*Z2*Z2*Z3*Z3*Z3*Z4*Z7-Z1*Z2*Z3*Z3*Z3*Z3*Z4*Z4*Z5*Z7)
def Ed:RE:=(Z0*Z0*Z0*Z2*Z2*Z3*Z4*Z4*Z5*Z6*Z6*Z7-Z0*Z0*Z0*Z2*Z3*Z3*Z4*Z5*Z5*Z6*Z7+Z0*Z0*Z0*Z2*Z4*Z4*Z4*Z5*Z5*Z6*Z6*Z7-Z0*Z0*Z0*Z2*Z4*Z4*Z4*Z6*Z6*Z6-Z0*Z0*Z0*Z2*Z4*Z5*Z5*Z6*Z6+Z0*Z0*Z0*Z2*Z4*Z6*Z6-Z0*Z0*Z0*Z3*Z4*Z4*Z5*Z5*Z5*Z6*Z7+Z0*Z0*Z0*Z3*Z4*Z4*Z5*Z6*Z6+Z0*Z0*Z0*Z3*Z5*Z5*Z5*Z6-Z0*Z0*Z0*Z3*Z5*Z6-Z0*Z0*Z1*Z2*Z2*Z3*Z4*Z4*Z4*Z5*Z5*Z6*Z7*Z7+Z0*Z0*Z1*Z2*Z2*Z3*Z4*Z5*Z5*Z6*Z7-Z0*Z0*Z1*Z2*Z3*Z3*Z4*Z4*Z5*Z5*Z5*Z7*Z7+Z0*Z0*Z1*Z2*Z3*Z3*Z4*Z4*Z5*Z6*Z7-Z0*Z0*Z1*Z2*Z4*Z4*Z5*Z5*Z5*Z6*Z7+Z0*Z0*Z1*Z2*Z4*Z4*Z5*Z6*Z6+Z0*Z0*Z1*Z2*Z5*Z5*Z5*Z6-Z0*Z0*Z1*Z2*Z5*Z6-Z0*Z0*Z1*Z3*Z4*Z4*Z4*Z5*Z5*Z6*Z7+Z0*Z0*Z1*Z3*Z4*Z4*Z4*Z6*Z6+Z0*Z0*Z1*Z3*Z4*Z5*Z5*Z6-Z0*Z0*Z1*Z3*Z4*Z6-Z0*Z1*Z1*Z2*Z2*Z3*Z4*Z4*Z5*Z5*Z5*Z7*Z7+Z0*Z1*Z1*Z2*Z2*Z3*Z4*Z4*Z5*Z6*Z7+Z0*Z1*Z1*Z2*Z3*Z3*Z4*Z4*Z4*Z5*Z5*Z7*Z7-Z0*Z1*Z1*Z2*Z3*Z3*Z4*Z5*Z5*Z7+Z0*Z1*Z1*Z2*Z4*Z4*Z4*Z5*Z5*Z6*Z7-Z0*Z1*Z1*Z2*Z4*Z4*Z4*Z6*Z6-Z0*Z1*Z1*Z2*Z4*Z5*Z5*Z6+Z0*Z1*Z1*Z2*Z4*Z6-Z0*Z1*Z1*Z3*Z4*Z4*Z5*Z5*Z5*Z7+Z0*Z1*Z1*Z3*Z4*Z4*Z5*Z6+Z0*Z1*Z1*Z3*Z5*Z5*Z5-Z0*Z1*Z1*Z3*Z5-Z0*Z2*Z2*Z3*Z4*Z4*Z5*Z6*Z7+Z0*Z2*Z3*Z3*Z4*Z5*Z5*Z7-Z0*Z2*Z4*Z4*Z4*Z5*Z5*Z6*Z7+Z0*Z2*Z4*Z4*Z4*Z6*Z6+Z0*Z2*Z4*Z5*Z5*Z6-Z0*Z2*Z4*Z6+Z0*Z3*Z4*Z4*Z5*Z5*Z5*Z7-Z0*Z3*Z4*Z4*Z5*Z6-Z0*Z3*Z5*Z5*Z5+Z0*Z3*Z5+Z1*Z1*Z1*Z2*Z2*Z3*Z4*Z5*Z5*Z7+Z1*Z1*Z1*Z2*Z3*Z3*Z4*Z4*Z5*Z7-Z1*Z1*Z1*Z2*Z4*Z4*Z5*Z5*Z5*Z7+Z1*Z1*Z1*Z2*Z4*Z4*Z5*Z6+Z1*Z1*Z1*Z2*Z5*Z5*Z5-Z1*Z1*Z1*Z2*Z5-Z1*Z1*Z1*Z3*Z4*Z4*Z4*Z5*Z5*Z7+Z1*Z1*Z1*Z3*Z4*Z4*Z4*Z6+Z1*Z1*Z1*Z3*Z4*Z5*Z5-Z1*Z1*Z1*Z3*Z4-Z1*Z2*Z2*Z3*Z4*Z5*Z5*Z7-Z1*Z2*Z3*Z3*Z4*Z4*Z5*Z7+Z1*Z2*Z4*Z4*Z5*Z5*Z5*Z7-Z1*Z2*Z4*Z4*Z5*Z6-Z1*Z2*Z5*Z5*Z5+Z1*Z2*Z5+Z1*Z3*Z4*Z4*Z4*Z5*Z5*Z7-Z1*Z3*Z4*Z4*Z4*Z6-Z1*Z3*Z4*Z5*Z5+Z1*Z3*Z4)
def Ec:RE:=(Z0*Z0*Z0*Z2*Z2*Z2*Z4*Z6*Z6*Z6-Z0*Z0*Z0*Z2*Z2*Z3*Z5*Z6*Z6+Z0*Z0*Z0*Z2*Z3*Z3*Z4*Z6*Z6-Z0*Z0*Z0*Z2*Z4*Z6*Z6-Z0*Z0*Z0*Z3*Z3*Z3*Z5*Z6+Z0*Z0*Z0*Z3*Z5*Z6-Z0*Z0*Z1*Z2*Z2*Z2*Z5*Z6*Z6-Z0*Z0*Z1*Z2*Z2*Z3*Z4*Z6*Z6+Z0*Z0*Z1*Z2*Z2*Z3*Z4*Z6*Z7-Z0*Z0*Z1*Z2*Z3*Z3*Z5*Z6+Z0*Z0*Z1*Z2*Z3*Z3*Z5*Z7+Z0*Z0*Z1*Z2*Z5*Z6-Z0*Z0*Z1*Z3*Z3*Z3*Z4*Z6+Z0*Z0*Z1*Z3*Z4*Z6+Z0*Z1*Z1*Z2*Z2*Z2*Z4*Z6*Z6-Z0*Z1*Z1*Z2*Z2*Z3*Z5*Z6+Z0*Z1*Z1*Z2*Z2*Z3*Z5*Z7+Z0*Z1*Z1*Z2*Z3*Z3*Z4*Z6-Z0*Z1*Z1*Z2*Z3*Z3*Z4*Z7-Z0*Z1*Z1*Z2*Z4*Z6-Z0*Z1*Z1*Z3*Z3*Z3*Z5+Z0*Z1*Z1*Z3*Z5-Z0*Z2*Z2*Z2*Z4*Z6*Z6+Z0*Z2*Z2*Z3*Z5*Z6-Z0*Z2*Z3*Z3*Z4*Z6+Z0*Z2*Z4*Z6+Z0*Z3*Z3*Z3*Z5-Z0*Z3*Z5-Z1*Z1*Z1*Z2*Z2*Z2*Z5*Z6-Z1*Z1*Z1*Z2*Z2*Z3*Z4*Z6-Z1*Z1*Z1*Z2*Z3*Z3*Z5+Z1*Z1*Z1*Z2*Z5-Z1*Z1*Z1*Z3*Z3*Z3*Z4+Z1*Z1*Z1*Z3*Z4+Z1*Z2*Z2*Z2*Z5*Z6+Z1*Z2*Z2*Z3*Z4*Z6+Z1*Z2*Z3*Z3*Z5-Z1*Z2*Z5+Z1*Z3*Z3*Z3*Z4-Z1*Z3*Z4)
def Eb:RE:=(-(Z0*Z2*Z2*Z2*Z2*Z3*Z3*Z3*Z4*Z5*Z5*Z6*Z7*Z7)+Z0*Z2*Z2*Z2*Z2*Z3*Z4*Z5*Z5*Z6*Z6*Z7-Z0*Z2*Z2*Z2*Z3*Z3*Z3*Z3*Z4*Z4*Z5*Z6*Z7*Z7-Z0*Z2*Z2*Z2*Z3*Z3*Z5*Z5*Z5*Z6*Z7+Z0*Z2*Z2*Z2*Z3*Z3*Z5*Z6*Z7-Z0*Z2*Z2*Z3*Z3*Z3*Z4*Z4*Z4*Z6*Z6*Z7+Z0*Z2*Z2*Z3*Z3*Z3*Z4*Z6*Z7+Z0*Z2*Z3*Z3*Z3*Z3*Z4*Z4*Z5*Z6*Z7+Z1*Z2*Z2*Z2*Z2*Z3*Z3*Z3*Z4*Z4*Z5*Z6*Z7*Z7-Z1*Z2*Z2*Z2*Z2*Z3*Z4*Z4*Z5*Z6*Z6*Z7-Z1*Z2*Z2*Z2*Z3*Z3*Z3*Z3*Z4*Z5*Z5*Z7*Z7-Z1*Z2*Z2*Z2*Z3*Z3*Z4*Z4*Z4*Z6*Z6*Z7+Z1*Z2*Z2*Z2*Z3*Z3*Z4*Z6*Z7+Z1*Z2*Z2*Z3*Z3*Z3*Z5*Z5*Z5*Z7-Z1*Z2*Z2*Z3*Z3*Z3*Z5*Z7+Z1*Z2*Z3*Z3*Z3*Z3*Z4*Z5*Z5*Z7)
def Ea:RE:=(-(Z0*Z0*Z0*Z2*Z2*Z3*Z4*Z5*Z5*Z6*Z6*Z7)-Z0*Z0*Z0*Z2*Z3*Z3*Z4*Z4*Z5*Z6*Z6*Z7+Z0*Z0*Z0*Z2*Z4*Z4*Z5*Z5*Z5*Z6*Z6*Z7-Z0*Z0*Z0*Z2*Z4*Z4*Z5*Z6*Z6*Z6-Z0*Z0*Z0*Z2*Z5*Z5*Z5*Z6*Z6+Z0*Z0*Z0*Z2*Z5*Z6*Z6+Z0*Z0*Z0*Z3*Z4*Z4*Z4*Z5*Z5*Z6*Z6*Z7-Z0*Z0*Z0*Z3*Z4*Z4*Z4*Z6*Z6*Z6-Z0*Z0*Z0*Z3*Z4*Z5*Z5*Z6*Z6+Z0*Z0*Z0*Z3*Z4*Z6*Z6-Z0*Z0*Z1*Z2*Z2*Z3*Z4*Z4*Z5*Z5*Z5*Z6*Z7*Z7+Z0*Z0*Z1*Z2*Z2*Z3*Z4*Z4*Z5*Z6*Z6*Z7+Z0*Z0*Z1*Z2*Z3*Z3*Z4*Z4*Z4*Z5*Z5*Z6*Z7*Z7-Z0*Z0*Z1*Z2*Z3*Z3*Z4*Z5*Z5*Z6*Z7+Z0*Z0*Z1*Z2*Z4*Z4*Z4*Z5*Z5*Z6*Z6*Z7-Z0*Z0*Z1*Z2*Z4*Z4*Z4*Z6*Z6*Z6-Z0*Z0*Z1*Z2*Z4*Z5*Z5*Z6*Z6+Z0*Z0*Z1*Z2*Z4*Z6*Z6-Z0*Z0*Z1*Z3*Z4*Z4*Z5*Z5*Z5*Z6*Z7+Z0*Z0*Z1*Z3*Z4*Z4*Z5*Z6*Z6+Z0*Z0*Z1*Z3*Z5*Z5*Z5*Z6-Z0*Z0*Z1*Z3*Z5*Z6+Z0*Z1*Z1*Z2*Z2*Z3*Z4*Z4*Z4*Z5*Z5*Z6*Z7*Z7-Z0*Z1*Z1*Z2*Z2*Z3*Z4*Z5*Z5*Z6*Z7+Z0*Z1*Z1*Z2*Z3*Z3*Z4*Z4*Z5*Z5*Z5*Z7*Z7-Z0*Z1*Z1*Z2*Z3*Z3*Z4*Z4*Z5*Z6*Z7+Z0*Z1*Z1*Z2*Z4*Z4*Z5*Z5*Z5*Z6*Z7-Z0*Z1*Z1*Z2*Z4*Z4*Z5*Z6*Z6-Z0*Z1*Z1*Z2*Z5*Z5*Z5*Z6+Z0*Z1*Z1*Z2*Z5*Z6+Z0*Z1*Z1*Z3*Z4*Z4*Z4*Z5*Z5*Z6*Z7-Z0*Z1*Z1*Z3*Z4*Z4*Z4*Z6*Z6-Z0*Z1*Z1*Z3*Z4*Z5*Z5*Z6+Z0*Z1*Z1*Z3*Z4*Z6+Z0*Z2*Z2*Z3*Z4*Z5*Z5*Z6*Z7+Z0*Z2*Z3*Z3*Z4*Z4*Z5*Z6*Z7-Z0*Z2*Z4*Z4*Z5*Z5*Z5*Z6*Z7+Z0*Z2*Z4*Z4*Z5*Z6*Z6+Z0*Z2*Z5*Z5*Z5*Z6-Z0*Z2*Z5*Z6-Z0*Z3*Z4*Z4*Z4*Z5*Z5*Z6*Z7+Z0*Z3*Z4*Z4*Z4*Z6*Z6+Z0*Z3*Z4*Z5*Z5*Z6-Z0*Z3*Z4*Z6+Z1*Z1*Z1*Z2*Z2*Z3*Z4*Z4*Z5*Z6*Z7-Z1*Z1*Z1*Z2*Z3*Z3*Z4*Z5*Z5*Z7+Z1*Z1*Z1*Z2*Z4*Z4*Z4*Z5*Z5*Z6*Z7-Z1*Z1*Z1*Z2*Z4*Z4*Z4*Z6*Z6-Z1*Z1*Z1*Z2*Z4*Z5*Z5*Z6+Z1*Z1*Z1*Z2*Z4*Z6-Z1*Z1*Z1*Z3*Z4*Z4*Z5*Z5*Z5*Z7+Z1*Z1*Z1*Z3*Z4*Z4*Z5*Z6+Z1*Z1*Z1*Z3*Z5*Z5*Z5-Z1*Z1*Z1*Z3*Z5-Z1*Z2*Z2*Z3*Z4*Z4*Z5*Z6*Z7+Z1*Z2*Z3*Z3*Z4*Z5*Z5*Z7-Z1*Z2*Z4*Z4*Z4*Z5*Z5*Z6*Z7+Z1*Z2*Z4*Z4*Z4*Z6*Z6+Z1*Z2*Z4*Z5*Z5*Z6-Z1*Z2*Z4*Z6+Z1*Z3*Z4*Z4*Z5*Z5*Z5*Z7-Z1*Z3*Z4*Z4*Z5*Z6-Z1*Z3*Z5*Z5*Z5+Z1*Z3*Z5)
def Dz:RE:=(Z0*Z0*Z0*Z2*Z2*Z2*Z5*Z6*Z6*Z6+Z0*Z0*Z0*Z2*Z2*Z3*Z4*Z6*Z6*Z6+Z0*Z0*Z0*Z2*Z3*Z3*Z5*Z6*Z6-Z0*Z0*Z0*Z2*Z5*Z6*Z6+Z0*Z0*Z0*Z3*Z3*Z3*Z4*Z6*Z6-Z0*Z0*Z0*Z3*Z4*Z6*Z6+Z0*Z0*Z1*Z2*Z2*Z2*Z4*Z6*Z6*Z6-Z0*Z0*Z1*Z2*Z2*Z3*Z5*Z6*Z6+Z0*Z0*Z1*Z2*Z2*Z3*Z5*Z6*Z7+Z0*Z0*Z1*Z2*Z3*Z3*Z4*Z6*Z6-Z0*Z0*Z1*Z2*Z3*Z3*Z4*Z6*Z7-Z0*Z0*Z1*Z2*Z4*Z6*Z6-Z0*Z0*Z1*Z3*Z3*Z3*Z5*Z6+Z0*Z0*Z1*Z3*Z5*Z6+Z0*Z1*Z1*Z2*Z2*Z2*Z5*Z6*Z6+Z0*Z1*Z1*Z2*Z2*Z3*Z4*Z6*Z6-Z0*Z1*Z1*Z2*Z2*Z3*Z4*Z6*Z7+Z0*Z1*Z1*Z2*Z3*Z3*Z5*Z6-Z0*Z1*Z1*Z2*Z3*Z3*Z5*Z7-Z0*Z1*Z1*Z2*Z5*Z6+Z0*Z1*Z1*Z3*Z3*Z3*Z4*Z6-Z0*Z1*Z1*Z3*Z4*Z6-Z0*Z2*Z2*Z2*Z5*Z6*Z6-Z0*Z2*Z2*Z3*Z4*Z6*Z6-Z0*Z2*Z3*Z3*Z5*Z6+Z0*Z2*Z5*Z6-Z0*Z3*Z3*Z3*Z4*Z6+Z0*Z3*Z4*Z6+Z1*Z1*Z1*Z2*Z2*Z2*Z4*Z6*Z6-Z1*Z1*Z1*Z2*Z2*Z3*Z5*Z6+Z1*Z1*Z1*Z2*Z3*Z3*Z4*Z6-Z1*Z1*Z1*Z2*Z4*Z6-Z1*Z1*Z1*Z3*Z3*Z3*Z5+Z1*Z1*Z1*Z3*Z5-Z1*Z2*Z2*Z2*Z4*Z6*Z6+Z1*Z2*Z2*Z3*Z5*Z6-Z1*Z2*Z3*Z3*Z4*Z6+Z1*Z2*Z4*Z6+Z1*Z3*Z3*Z3*Z5-Z1*Z3*Z5)
section
variable {R:Type} (K:CR R) (inv:R→R) (a d:R)
def dG (x y:R):Prop:=K.add (K.mul a (K.mul x x)) (K.mul y y)=K.add K.one (K.mul d (K.mul (K.mul x x) (K.mul y y)))
def LC (x1 y1 x2 y2:R):R:=K.mul d (K.mul (K.mul x1 x2) (K.mul y1 y2))
def AA (x1 y1 x2 y2:R):R:=K.add (K.mul x1 y2) (K.mul y1 x2)
def AB (x1 y1 x2 y2:R):R:=K.sub (K.mul y1 y2) (K.mul a (K.mul x1 x2))
def tY (x1 y1 x2 y2:R):R:=K.add K.one (LC K d x1 y1 x2 y2)
def sD (x1 y1 x2 y2:R):R:=K.sub K.one (LC K d x1 y1 x2 y2)
variable {K} {a} {d}
theorem ER {x1 y1 x2 y2:R} (h1:dG K a d x1 y1) (h2:dG K a d x2 y2):K.add (K.mul a (K.mul (K.mul (AA K x1 y1 x2 y2) (sD K d x1 y1 x2 y2)) (K.mul (AA K x1 y1 x2 y2) (sD K d x1 y1 x2 y2)))) (K.mul (K.mul (AB K a x1 y1 x2 y2) (tY K d x1 y1 x2 y2)) (K.mul (AB K a x1 y1 x2 y2) (tY K d x1 y1 x2 y2)))=K.add (K.mul (K.mul (tY K d x1 y1 x2 y2) (sD K d x1 y1 x2 y2)) (K.mul (tY K d x1 y1 x2 y2) (sD K d x1 y1 x2 y2))) (K.mul d (K.mul (K.mul (AA K x1 y1 x2 y2) (AB K a x1 y1 x2 y2)) (K.mul (AA K x1 y1 x2 y2) (AB K a x1 y1 x2 y2)))) :=
 iV (K:=K) (c1:=RE.den K (bI K [x1,y1,x2,y2,K.zero,K.zero,a,d]) Eg) (c2:=RE.den K (bI K [x1,y1,x2,y2,K.zero,K.zero,a,d]) Ef) h1 h2 (aL K (bI K [x1,y1,x2,y2,K.zero,K.zero,a,d]) (Z6*((Z0*Z3+Z1*Z2)*(RE.one-Z7*(Z0*Z2*(Z1*Z3)))*((Z0*Z3+Z1*Z2)*(RE.one-Z7*(Z0*Z2*(Z1*Z3)))))+(Z1*Z3-Z6*(Z0*Z2))*(RE.one+Z7*(Z0*Z2*(Z1*Z3)))*((Z1*Z3-Z6*(Z0*Z2))*(RE.one+Z7*(Z0*Z2*(Z1*Z3))))-((RE.one+Z7*(Z0*Z2*(Z1*Z3)))*(RE.one-Z7*(Z0*Z2*(Z1*Z3)))*((RE.one+Z7*(Z0*Z2*(Z1*Z3)))*(RE.one-Z7*(Z0*Z2*(Z1*Z3))))+Z7*((Z0*Z3+Z1*Z2)*(Z1*Z3-Z6*(Z0*Z2))*((Z0*Z3+Z1*Z2)*(Z1*Z3-Z6*(Z0*Z2)))))) (.add (.mul Eg (Z6*(Z0*Z0)+Z1*Z1-(RE.one+Z7*(Z0*Z0*(Z1*Z1))))) (.mul Ef (Z6*(Z2*Z2)+Z3*Z3-(RE.one+Z7*(Z2*Z2*(Z3*Z3)))))) (by kernel_rfl))
theorem PY {x1 y1 x2 y2 x3 y3:R} (h1:dG K a d x1 y1) (h2:dG K a d x2 y2) (h3:dG K a d x3 y3):K.mul (K.add (K.mul (K.mul (AA K x1 y1 x2 y2) (sD K d x1 y1 x2 y2)) y3) (K.mul (K.mul (AB K a x1 y1 x2 y2) (tY K d x1 y1 x2 y2)) x3)) (K.add (K.mul (tY K d x2 y2 x3 y3) (sD K d x2 y2 x3 y3)) (K.mul d (K.mul (K.mul (AA K x2 y2 x3 y3) (AB K a x2 y2 x3 y3)) (K.mul x1 y1))))=K.mul (K.add (K.mul (K.mul (AA K x2 y2 x3 y3) (sD K d x2 y2 x3 y3)) y1) (K.mul (K.mul (AB K a x2 y2 x3 y3) (tY K d x2 y2 x3 y3)) x1)) (K.add (K.mul (tY K d x1 y1 x2 y2) (sD K d x1 y1 x2 y2)) (K.mul d (K.mul (K.mul (AA K x1 y1 x2 y2) (AB K a x1 y1 x2 y2)) (K.mul x3 y3)))) :=
 nT (K:=K) (c1:=RE.den K (bI K [x1,y1,x2,y2,x3,y3,a,d]) Ee) (c2:=RE.den K (bI K [x1,y1,x2,y2,x3,y3,a,d]) Ed) (c3:=RE.den K (bI K [x1,y1,x2,y2,x3,y3,a,d]) Ec) h1 h2 h3 (aL K (bI K [x1,y1,x2,y2,x3,y3,a,d]) (((Z0*Z3+Z1*Z2)*(RE.one-Z7*(Z0*Z2*(Z1*Z3)))*Z5+(Z1*Z3-Z6*(Z0*Z2))*(RE.one+Z7*(Z0*Z2*(Z1*Z3)))*Z4)*((RE.one+Z7*(Z2*Z4*(Z3*Z5)))*(RE.one-Z7*(Z2*Z4*(Z3*Z5)))+Z7*((Z2*Z5+Z3*Z4)*(Z3*Z5-Z6*(Z2*Z4))*(Z0*Z1)))-((Z2*Z5+Z3*Z4)*(RE.one-Z7*(Z2*Z4*(Z3*Z5)))*Z1+(Z3*Z5-Z6*(Z2*Z4))*(RE.one+Z7*(Z2*Z4*(Z3*Z5)))*Z0)*((RE.one+Z7*(Z0*Z2*(Z1*Z3)))*(RE.one-Z7*(Z0*Z2*(Z1*Z3)))+Z7*((Z0*Z3+Z1*Z2)*(Z1*Z3-Z6*(Z0*Z2))*(Z4*Z5)))) (.add (.add (.mul Ee (Z6*(Z0*Z0)+Z1*Z1-(RE.one+Z7*(Z0*Z0*(Z1*Z1))))) (.mul Ed (Z6*(Z2*Z2)+Z3*Z3-(RE.one+Z7*(Z2*Z2*(Z3*Z3)))))) (.mul Ec (Z6*(Z4*Z4)+Z5*Z5-(RE.one+Z7*(Z4*Z4*(Z5*Z5)))))) (by kernel_rfl))
theorem PX {x1 y1 x2 y2 x3 y3:R} (h1:dG K a d x1 y1) (h2:dG K a d x2 y2) (h3:dG K a d x3 y3):K.mul (K.sub (K.mul (K.mul (AB K a x1 y1 x2 y2) (tY K d x1 y1 x2 y2)) y3) (K.mul a (K.mul (K.mul (AA K x1 y1 x2 y2) (sD K d x1 y1 x2 y2)) x3))) (K.sub (K.mul (tY K d x2 y2 x3 y3) (sD K d x2 y2 x3 y3)) (K.mul d (K.mul (K.mul (AA K x2 y2 x3 y3) (AB K a x2 y2 x3 y3)) (K.mul x1 y1))))=K.mul (K.sub (K.mul (K.mul (AB K a x2 y2 x3 y3) (tY K d x2 y2 x3 y3)) y1) (K.mul a (K.mul (K.mul (AA K x2 y2 x3 y3) (sD K d x2 y2 x3 y3)) x1))) (K.sub (K.mul (tY K d x1 y1 x2 y2) (sD K d x1 y1 x2 y2)) (K.mul d (K.mul (K.mul (AA K x1 y1 x2 y2) (AB K a x1 y1 x2 y2)) (K.mul x3 y3)))) :=
 nT (K:=K) (c1:=RE.den K (bI K [x1,y1,x2,y2,x3,y3,a,d]) Eb) (c2:=RE.den K (bI K [x1,y1,x2,y2,x3,y3,a,d]) Ea) (c3:=RE.den K (bI K [x1,y1,x2,y2,x3,y3,a,d]) Dz) h1 h2 h3 (aL K (bI K [x1,y1,x2,y2,x3,y3,a,d]) (((Z1*Z3-Z6*(Z0*Z2))*(RE.one+Z7*(Z0*Z2*(Z1*Z3)))*Z5-Z6*((Z0*Z3+Z1*Z2)*(RE.one-Z7*(Z0*Z2*(Z1*Z3)))*Z4))*((RE.one+Z7*(Z2*Z4*(Z3*Z5)))*(RE.one-Z7*(Z2*Z4*(Z3*Z5)))-Z7*((Z2*Z5+Z3*Z4)*(Z3*Z5-Z6*(Z2*Z4))*(Z0*Z1)))-((Z3*Z5-Z6*(Z2*Z4))*(RE.one+Z7*(Z2*Z4*(Z3*Z5)))*Z1-Z6*((Z2*Z5+Z3*Z4)*(RE.one-Z7*(Z2*Z4*(Z3*Z5)))*Z0))*((RE.one+Z7*(Z0*Z2*(Z1*Z3)))*(RE.one-Z7*(Z0*Z2*(Z1*Z3)))-Z7*((Z0*Z3+Z1*Z2)*(Z1*Z3-Z6*(Z0*Z2))*(Z4*Z5)))) (.add (.add (.mul Eb (Z6*(Z0*Z0)+Z1*Z1-(RE.one+Z7*(Z0*Z0*(Z1*Z1))))) (.mul Ea (Z6*(Z2*Z2)+Z3*Z3-(RE.one+Z7*(Z2*Z2*(Z3*Z3)))))) (.mul Dz (Z6*(Z4*Z4)+Z5*Z5-(RE.one+Z7*(Z4*Z4*(Z5*Z5)))))) (by kernel_rfl))
theorem YZ {n m p q i j:R} (hF:(K.add (K.mul a (K.mul (K.mul n q) (K.mul n q))) (K.mul (K.mul m p) (K.mul m p)))=(K.add (K.mul (K.mul p q) (K.mul p q)) (K.mul d (K.mul (K.mul n m) (K.mul n m))))) (hi:(K.mul p i)=K.one) (hj:(K.mul q j)=K.one):(K.add (K.mul a (K.mul (K.mul n i) (K.mul n i))) (K.mul (K.mul m j) (K.mul m j)))=(K.add K.one (K.mul d (K.mul (K.mul (K.mul n i) (K.mul n i)) (K.mul (K.mul m j) (K.mul m j))))) :=
 nT (K:=K) (c1:=(K.mul (K.mul i j) (K.mul i j))) (c2:=(K.neg (K.mul (K.add (K.mul p i) K.one) (K.sub (K.mul (K.mul m j) (K.mul m j)) K.one)))) (c3:=(K.neg (K.mul (K.add (K.mul q j) K.one) (K.sub (K.mul a (K.mul (K.mul n i) (K.mul n i))) (K.mul (K.mul p i) (K.mul p i)))))) hF hi hj (aL K (bI K [n,m,p,q,i,j,a,d]) (Z6*(Z0*Z4*(Z0*Z4))+Z1*Z5*(Z1*Z5)-(RE.one+Z7*(Z0*Z4*(Z0*Z4)*(Z1*Z5*(Z1*Z5))))) (Z4*Z5*(Z4*Z5)*(Z6*(Z0*Z3*(Z0*Z3))+Z1*Z2*(Z1*Z2)-(Z2*Z3*(Z2*Z3)+Z7*(Z0*Z1*(Z0*Z1))))+(-((Z2*Z4+RE.one)*(Z1*Z5*(Z1*Z5)-RE.one)))*(Z2*Z4-RE.one)+(-((Z3*Z5+RE.one)*(Z6*(Z0*Z4*(Z0*Z4))-Z2*Z4*(Z2*Z4))))*(Z3*Z5-RE.one)) (by kernel_rfl))
theorem LA {n m p q i j x y k:R} (hi:(K.mul p i)=K.one) (hj:(K.mul q j)=K.one) (hk:(K.mul (K.add K.one (K.mul d (K.mul (K.mul (K.mul n i) x) (K.mul (K.mul m j) y)))) k)=K.one):(K.mul (K.mul (K.add (K.mul (K.mul n i) y) (K.mul (K.mul m j) x)) k) (K.add (K.mul p q) (K.mul d (K.mul (K.mul n m) (K.mul x y)))))=(K.add (K.mul (K.mul n q) y) (K.mul (K.mul m p) x)) :=
 nT (K:=K) (c1:=(K.sub (K.mul (K.mul k (K.add (K.mul (K.mul n q) y) (K.mul (K.mul m p) x))) (K.mul q j)) (K.mul (K.mul k (K.add (K.mul p q) (K.mul d (K.mul (K.mul n m) (K.mul x y))))) (K.mul (K.mul m j) x)))) (c2:=(K.sub (K.mul k (K.add (K.mul (K.mul n q) y) (K.mul (K.mul m p) x))) (K.mul (K.mul k (K.add (K.mul p q) (K.mul d (K.mul (K.mul n m) (K.mul x y))))) (K.mul (K.mul n i) y)))) (c3:=(K.add (K.mul (K.mul n q) y) (K.mul (K.mul m p) x))) hi hj hk (aL K (bI K [n,m,p,q,i,j,x,y,k,d]) ((Z0*Z4*Z7+Z1*Z5*Z6)*Z8*(Z2*Z3+Z9*(Z0*Z1*(Z6*Z7)))-(Z0*Z3*Z7+Z1*Z2*Z6)) ((Z8*(Z0*Z3*Z7+Z1*Z2*Z6)*(Z3*Z5)-Z8*(Z2*Z3+Z9*(Z0*Z1*(Z6*Z7)))*(Z1*Z5*Z6))*(Z2*Z4-RE.one)+(Z8*(Z0*Z3*Z7+Z1*Z2*Z6)-Z8*(Z2*Z3+Z9*(Z0*Z1*(Z6*Z7)))*(Z0*Z4*Z7))*(Z3*Z5-RE.one)+(Z0*Z3*Z7+Z1*Z2*Z6)*((RE.one+Z9*(Z0*Z4*Z6*(Z1*Z5*Z7)))*Z8-RE.one)) (by kernel_rfl))
theorem KZ {n m p q i j x y k:R} (hi:(K.mul p i)=K.one) (hj:(K.mul q j)=K.one) (hk:(K.mul (K.sub K.one (K.mul d (K.mul (K.mul (K.mul n i) x) (K.mul (K.mul m j) y)))) k)=K.one):(K.mul (K.mul (K.sub (K.mul (K.mul m j) y) (K.mul a (K.mul (K.mul n i) x))) k) (K.sub (K.mul p q) (K.mul d (K.mul (K.mul n m) (K.mul x y)))))=(K.sub (K.mul (K.mul m p) y) (K.mul a (K.mul (K.mul n q) x))) :=
 nT (K:=K) (c1:=(K.sub (K.mul (K.mul k (K.sub (K.mul (K.mul m p) y) (K.mul a (K.mul (K.mul n q) x)))) (K.mul q j)) (K.mul (K.mul k (K.sub (K.mul p q) (K.mul d (K.mul (K.mul n m) (K.mul x y))))) (K.mul (K.mul m j) y)))) (c2:=(K.add (K.mul k (K.sub (K.mul (K.mul m p) y) (K.mul a (K.mul (K.mul n q) x)))) (K.mul (K.mul k (K.sub (K.mul p q) (K.mul d (K.mul (K.mul n m) (K.mul x y))))) (K.mul a (K.mul (K.mul n i) x))))) (c3:=(K.sub (K.mul (K.mul m p) y) (K.mul a (K.mul (K.mul n q) x)))) hi hj hk (aL K (bI K [n,m,p,q,i,j,x,y,k,a,d]) ((Z1*Z5*Z7-Z9*(Z0*Z4*Z6))*Z8*(Z2*Z3-Z10*(Z0*Z1*(Z6*Z7)))-(Z1*Z2*Z7-Z9*(Z0*Z3*Z6))) ((Z8*(Z1*Z2*Z7-Z9*(Z0*Z3*Z6))*(Z3*Z5)-Z8*(Z2*Z3-Z10*(Z0*Z1*(Z6*Z7)))*(Z1*Z5*Z7))*(Z2*Z4-RE.one)+(Z8*(Z1*Z2*Z7-Z9*(Z0*Z3*Z6))+Z8*(Z2*Z3-Z10*(Z0*Z1*(Z6*Z7)))*(Z9*(Z0*Z4*Z6)))*(Z3*Z5-RE.one)+(Z1*Z2*Z7-Z9*(Z0*Z3*Z6))*((RE.one-Z10*(Z0*Z4*Z6*(Z1*Z5*Z7)))*Z8-RE.one)) (by kernel_rfl))
theorem LB {n m p q i j x y:R} (hi:(K.mul p i)=K.one) (hj:(K.mul q j)=K.one):(K.add K.one (K.mul d (K.mul (K.mul (K.mul n i) x) (K.mul (K.mul m j) y))))=(K.mul (K.mul i j) (K.add (K.mul p q) (K.mul d (K.mul (K.mul n m) (K.mul x y))))) :=
 iV (K:=K) (c1:=(K.neg (K.mul q j))) (c2:=(K.neg K.one)) hi hj (aL K (bI K [n,m,p,q,i,j,x,y,d]) (RE.one+Z8*(Z0*Z4*Z6*(Z1*Z5*Z7))-Z4*Z5*(Z2*Z3+Z8*(Z0*Z1*(Z6*Z7)))) ((-(Z3*Z5))*(Z2*Z4-RE.one)+(-RE.one)*(Z3*Z5-RE.one)) (by kernel_rfl))
theorem BZ {n m p q i j x y:R} (hi:(K.mul p i)=K.one) (hj:(K.mul q j)=K.one):(K.sub K.one (K.mul d (K.mul (K.mul (K.mul n i) x) (K.mul (K.mul m j) y))))=(K.mul (K.mul i j) (K.sub (K.mul p q) (K.mul d (K.mul (K.mul n m) (K.mul x y))))) :=
 iV (K:=K) (c1:=(K.neg (K.mul q j))) (c2:=(K.neg K.one)) hi hj (aL K (bI K [n,m,p,q,i,j,x,y,d]) (RE.one-Z8*(Z0*Z4*Z6*(Z1*Z5*Z7))-Z4*Z5*(Z2*Z3-Z8*(Z0*Z1*(Z6*Z7)))) ((-(Z3*Z5))*(Z2*Z4-RE.one)+(-RE.one)*(Z3*Z5-RE.one)) (by kernel_rfl))
theorem xC {u v D G N M:R} (h1:(K.mul u D)=N) (h2:(K.mul v G)=M) (h3:(K.mul N G)=(K.mul M D)):(K.mul (K.mul D G) u)=(K.mul (K.mul D G) v) :=
 nT (K:=K) (c1:=G) (c2:=(K.neg D)) (c3:=K.one) h1 h2 h3 (aL K (bI K [u,v,D,G,N,M]) (Z2*Z3*Z0-Z2*Z3*Z1) (Z3*(Z0*Z2-Z4)+(-Z2)*(Z1*Z3-Z5)+RE.one*(Z4*Z3-Z5*Z2)) (by kernel_rfl))
theorem YY {s x1 y1 x2 y2 e:R} (h1:(K.add (K.mul (K.mul s s) (K.mul x1 x1)) (K.mul y1 y1))=(K.add K.one (K.mul d (K.mul (K.mul x1 x1) (K.mul y1 y1))))) (h2:(K.add (K.mul (K.mul s s) (K.mul x2 x2)) (K.mul y2 y2))=(K.add K.one (K.mul d (K.mul (K.mul x2 x2) (K.mul y2 y2))))) (ht:(K.mul d (K.mul (K.mul x1 x2) (K.mul y1 y2)))=e) (he:(K.mul e e)=K.one):(K.mul (K.add (K.mul s x1) (K.mul e y1)) (K.add (K.mul s x1) (K.mul e y1)))=(K.mul d (K.mul (K.mul (K.mul x1 y1) (K.add (K.mul s x2) y2)) (K.mul (K.mul x1 y1) (K.add (K.mul s x2) y2)))) :=
 RT (K:=K) (c1:=K.one) (c2:=(K.neg (K.mul d (K.mul (K.mul x1 x1) (K.mul y1 y1))))) (c3:=(K.sub (K.neg (K.add (K.mul d (K.mul (K.mul x1 x2) (K.mul y1 y2))) e)) (K.mul (K.add K.one K.one) (K.mul s (K.mul x1 y1))))) (c4:=(K.sub (K.mul y1 y1) K.one)) h1 h2 ht he (aL K (bI K [s,x1,y1,x2,y2,e,d]) ((Z0*Z1+Z5*Z2)*(Z0*Z1+Z5*Z2)-Z6*(Z1*Z2*(Z0*Z3+Z4)*(Z1*Z2*(Z0*Z3+Z4)))) (RE.one*(Z0*Z0*(Z1*Z1)+Z2*Z2-(RE.one+Z6*(Z1*Z1*(Z2*Z2))))+(-(Z6*(Z1*Z1*(Z2*Z2))))*(Z0*Z0*(Z3*Z3)+Z4*Z4-(RE.one+Z6*(Z3*Z3*(Z4*Z4))))+(-(Z6*(Z1*Z3*(Z2*Z4))+Z5)-(RE.one+RE.one)*(Z0*(Z1*Z2)))*(Z6*(Z1*Z3*(Z2*Z4))-Z5)+(Z2*Z2-RE.one)*(Z5*Z5-RE.one)) (by kernel_rfl))
variable (K) (a) (d)
def zZ (x1 y1 x2 y2:R):R:=K.mul (AA K x1 y1 x2 y2) (inv (tY K d x1 y1 x2 y2))
def zW (x1 y1 x2 y2:R):R:=K.mul (AB K a x1 y1 x2 y2) (inv (sD K d x1 y1 x2 y2))
structure ED:Prop where
 F:FD K inv
 two:K.add K.one K.one≠K.zero
 sq:∃s,K.mul s s=a
 ns:∀x,K.mul x x≠d
variable {K} {inv} {a} {d}
theorem ED.v0 (E:ED K inv a d) {s x1 y1 x2 y2 e:R} (hs:K.mul s s=a) (h1:dG K a d x1 y1) (h2:dG K a d x2 y2) (ht:LC K d x1 y1 x2 y2=e) (he:K.mul e e=K.one) (hw:K.mul x1 y1≠K.zero):K.add (K.mul s x2) y2=K.zero:=by
 subst hs;refine Classical.byContradiction fun hv => ?_
 have h:=YY h1 h2 ht he;have hk:=E.F.inv _ (E.F.mul_ne hw hv);generalize K.mul (K.mul x1 y1) (K.add (K.mul s x2) y2)=z at h hk;generalize K.add (K.mul s x1) (K.mul e y1)=u at h;generalize inv z=k at hk;refine E.ns (K.mul u k) ?_;exact iV (K:=K) (c1:=(K.mul k k)) (c2:=(K.mul d (K.add (K.mul z k) K.one))) h hk (aL K (bI K [u,k,d,z]) (Z0*Z1*(Z0*Z1)-Z2) (Z1*Z1*(Z0*Z0-Z2*(Z3*Z3))+Z2*(Z3*Z1+RE.one)*(Z3*Z1-RE.one)) (by kernel_rfl))
theorem ED.ne (E:ED K inv a d) {x1 y1 x2 y2 e:R} (h1:dG K a d x1 y1) (h2:dG K a d x2 y2) (ht:LC K d x1 y1 x2 y2=e) (he:K.mul e e=K.one):False:=by
 obtain⟨s,hs⟩:=E.sq;have e0:e≠K.zero:=fun q=>by
  rw[q,K.zero_mul]at he;exact E.F.ne he.symm
 have hw:K.mul x1 y1≠K.zero:=fun q=>e0 (by
  rw[←ht];exact fI (K:=K) (c1:=(K.mul d (K.mul x2 y2))) q (aL K (bI K [x1,y1,x2,y2,d]) (Z4*(Z0*Z2*(Z1*Z3))-RE.zero) (Z4*(Z2*Z3)*(Z0*Z1-RE.zero)) (by kernel_rfl)))
 have a1:=E.v0 hs h1 h2 ht he hw;have a2:=E.v0 (s:=K.neg s) (by rw[←hs]; exact aL K (bI K [s]) ((-Z0)*(-Z0)) (Z0*Z0) (by kernel_rfl)) h1 h2 ht he hw;have hy:K.mul (K.add K.one K.one) y2=K.zero:=iV (K:=K) (c1:=K.one) (c2:=K.one) a1 a2 (aL K (bI K [s,x2,y2]) ((RE.one+RE.one)*Z2-RE.zero) (RE.one*(Z0*Z1+Z2-RE.zero)+RE.one*((-Z0)*Z1+Z2-RE.zero)) (by kernel_rfl));have hy:=E.F.zd hy E.two;refine e0 ?_;rw[←ht];unfold LC;rw[hy,K.mul_zero,K.mul_zero,K.mul_zero]
theorem ED.pne (E:ED K inv a d) {x1 y1 x2 y2:R} (h1:dG K a d x1 y1) (h2:dG K a d x2 y2):tY K d x1 y1 x2 y2≠K.zero:=fun q =>
 E.ne (e:=K.neg K.one) h1 h2 (by
  show LC K d x1 y1 x2 y2=_;unfold tY at q;generalize LC K d x1 y1 x2 y2=t at q;exact fI (K:=K) (c1:=K.one) q (aL K (bI K [t]) (Z0-(-RE.one)) (RE.one*(RE.one+Z0-RE.zero)) (by kernel_rfl))) (aL K (bI K []) ((-RE.one)*(-RE.one)) .one (by kernel_rfl))
theorem ED.qne (E:ED K inv a d) {x1 y1 x2 y2:R} (h1:dG K a d x1 y1) (h2:dG K a d x2 y2):sD K d x1 y1 x2 y2≠K.zero:=fun q =>
 E.ne (e:=K.one) h1 h2 (by
  show LC K d x1 y1 x2 y2=_;unfold sD at q;generalize LC K d x1 y1 x2 y2=t at q;exact fI (K:=K) (c1:=(K.neg K.one)) q (aL K (bI K [t]) (Z0-RE.one) ((-RE.one)*(RE.one-Z0-RE.zero)) (by kernel_rfl))) (K.one_mul _)
theorem ED.ip (E:ED K inv a d) {x1 y1 x2 y2:R} (h1:dG K a d x1 y1) (h2:dG K a d x2 y2):K.mul (tY K d x1 y1 x2 y2) (inv (tY K d x1 y1 x2 y2))=K.one:=E.F.inv _ (E.pne h1 h2)
theorem ED.iq (E:ED K inv a d) {x1 y1 x2 y2:R} (h1:dG K a d x1 y1) (h2:dG K a d x2 y2):K.mul (sD K d x1 y1 x2 y2) (inv (sD K d x1 y1 x2 y2))=K.one:=E.F.inv _ (E.qne h1 h2)
theorem ED.on (E:ED K inv a d) {x1 y1 x2 y2:R} (h1:dG K a d x1 y1) (h2:dG K a d x2 y2):dG K a d (zZ K inv d x1 y1 x2 y2) (zW K inv a d x1 y1 x2 y2) :=
 YZ (ER h1 h2) (E.ip h1 h2) (E.iq h1 h2)
theorem ED.assX (E:ED K inv a d) {x1 y1 x2 y2 x3 y3:R} (h1:dG K a d x1 y1) (h2:dG K a d x2 y2) (h3:dG K a d x3 y3):zZ K inv d (zZ K inv d x1 y1 x2 y2) (zW K inv a d x1 y1 x2 y2) x3 y3=zZ K inv d (zZ K inv d x2 y2 x3 y3) (zW K inv a d x2 y2 x3 y3) x1 y1:=by
 have b1:=E.pne (E.on h1 h2) h3;have b2:=E.pne (E.on h2 h3) h1;have c1:=LA (E.ip h1 h2) (E.iq h1 h2) (E.ip (E.on h1 h2) h3);have c2:=LA (E.ip h2 h3) (E.iq h2 h3) (E.ip (E.on h2 h3) h1);refine E.F.cancel (E.F.mul_ne (fun z=>b1 ?_) fun z=>b2 ?_) (xC c1 c2 (PY h1 h2 h3))
 ·refine (LB (E.ip h1 h2) (E.iq h1 h2)).trans ?_;rw[z,K.mul_zero]
 ·refine (LB (E.ip h2 h3) (E.iq h2 h3)).trans ?_;rw[z,K.mul_zero]
theorem ED.assY (E:ED K inv a d) {x1 y1 x2 y2 x3 y3:R} (h1:dG K a d x1 y1) (h2:dG K a d x2 y2) (h3:dG K a d x3 y3):zW K inv a d (zZ K inv d x1 y1 x2 y2) (zW K inv a d x1 y1 x2 y2) x3 y3=zW K inv a d (zZ K inv d x2 y2 x3 y3) (zW K inv a d x2 y2 x3 y3) x1 y1:=by
 have b1:=E.qne (E.on h1 h2) h3;have b2:=E.qne (E.on h2 h3) h1;have c1:=KZ (a:=a) (E.ip h1 h2) (E.iq h1 h2) (E.iq (E.on h1 h2) h3);have c2:=KZ (a:=a) (E.ip h2 h3) (E.iq h2 h3) (E.iq (E.on h2 h3) h1);refine E.F.cancel (E.F.mul_ne (fun z=>b1 ?_) fun z=>b2 ?_) (xC c1 c2 (PX h1 h2 h3))
 ·refine (BZ (E.ip h1 h2) (E.iq h1 h2)).trans ?_;rw[z,K.mul_zero]
 ·refine (BZ (E.ip h2 h3) (E.iq h2 h3)).trans ?_;rw[z,K.mul_zero]
theorem ED.comX (x1 y1 x2 y2:R):zZ K inv d x1 y1 x2 y2=zZ K inv d x2 y2 x1 y1:=by
 unfold zZ AA tY LC;rw[K.mul_comm x1 x2,K.mul_comm y1 y2,K.add_comm (K.mul x1 y2),K.mul_comm y1 x2,K.mul_comm x1 y2]
theorem ED.comY (x1 y1 x2 y2:R):zW K inv a d x1 y1 x2 y2=zW K inv a d x2 y2 x1 y1:=by
 unfold zW AB sD LC;rw[K.mul_comm x1 x2,K.mul_comm y1 y2]
theorem ED.i1 (E:ED K inv a d):inv K.one=K.one:=by
 have:=E.F.inv K.one E.F.ne
 rwa [K.one_mul]at this
theorem VF:dG K a d K.zero K.one:=by
 show K.add (K.mul a (K.mul K.zero K.zero)) (K.mul K.one K.one)=K.add K.one (K.mul d (K.mul (K.mul K.zero K.zero) (K.mul K.one K.one)));exact aL K (bI K [a,d]) (Z0*(RE.zero*RE.zero)+RE.one*RE.one) (RE.one+Z1*(RE.zero*RE.zero*(RE.one*RE.one))) (by kernel_rfl)
theorem KY {x y:R} (h:dG K a d x y):dG K a d (K.neg x) y:=by
 show K.add (K.mul a (K.mul (K.neg x) (K.neg x))) (K.mul y y)=K.add K.one (K.mul d (K.mul (K.mul (K.neg x) (K.neg x)) (K.mul y y)));have e:K.mul (K.neg x) (K.neg x)=K.mul x x:=aL K (bI K [x]) ((-Z0)*(-Z0)) (Z0*Z0) (by kernel_rfl);rw[e];exact h
theorem ED.zX (E:ED K inv a d) (x y:R):zZ K inv d K.zero K.one x y=x:=by
 have e1:tY K d K.zero K.one x y=K.one:=aL K (bI K [x,y,d]) (RE.one+Z2*(RE.zero*Z0*(RE.one*Z1))) .one (by kernel_rfl);unfold zZ;rw[e1,E.i1];exact aL K (bI K [x,y]) ((RE.zero*Z1+RE.one*Z0)*RE.one) (.v 0) (by kernel_rfl)
theorem ED.zY (E:ED K inv a d) (x y:R):zW K inv a d K.zero K.one x y=y:=by
 have e1:sD K d K.zero K.one x y=K.one:=aL K (bI K [x,y,d]) (RE.one-Z2*(RE.zero*Z0*(RE.one*Z1))) .one (by kernel_rfl);unfold zW;rw[e1,E.i1];exact aL K (bI K [x,y,a]) ((RE.one*Z1-Z2*(RE.zero*Z0))*RE.one) (.v 1) (by kernel_rfl)
theorem ED.nX (E:ED K inv a d) (x y:R):zZ K inv d (K.neg x) y x y=K.zero:=by
 have e1:AA K (K.neg x) y x y=K.zero:=aL K (bI K [x,y]) ((-Z0)*Z1+Z1*Z0) .zero (by kernel_rfl);unfold zZ;rw[e1,K.zero_mul]
theorem ED.nY (E:ED K inv a d) {x y:R} (h:dG K a d x y):zW K inv a d (K.neg x) y x y=K.one:=by
 have e1:AB K a (K.neg x) y x y=sD K d (K.neg x) y x y:=fI (K:=K) (c1:=K.one) h (aL K (bI K [x,y,a,d]) (Z1*Z1-Z2*((-Z0)*Z0)-(RE.one-Z3*((-Z0)*Z0*(Z1*Z1)))) (RE.one*(Z2*(Z0*Z0)+Z1*Z1-(RE.one+Z3*(Z0*Z0*(Z1*Z1))))) (by kernel_rfl));unfold zW;rw[e1];exact E.iq (KY h) h
variable (K) (a) (d)
abbrev AQ:={p:R×R // dG K a d p.1 p.2}
variable {K} {a} {d}
def ED.grp (E:ED K inv a d):AG (AQ K a d) where
 add p q:=⟨(zZ K inv d p.1.1 p.1.2 q.1.1 q.1.2,zW K inv a d p.1.1 p.1.2 q.1.1 q.1.2),E.on p.2 q.2⟩
 neg p:=⟨(K.neg p.1.1,p.1.2),KY p.2⟩
 zero:=⟨(K.zero,K.one),VF⟩
 assoc p q r:=Subtype.ext (Prod.ext ((E.assX p.2 q.2 r.2).trans (ED.comX _ _ _ _)) ((E.assY p.2 q.2 r.2).trans (ED.comY _ _ _ _)))
 comm p q:=Subtype.ext (Prod.ext (ED.comX _ _ _ _) (ED.comY _ _ _ _))
 zadd p:=Subtype.ext (Prod.ext (E.zX _ _) (E.zY _ _))
 nadd p:=Subtype.ext (Prod.ext (E.nX _ _) (E.nY p.2))
end
section
variable {R:Type} {K:CR R} {inv:R→R} {a d:R}
theorem Eo (x y z u v w d:R)  : (K.mul (K.sub (K.mul (K.mul z w) (K.mul z w)) (K.mul d (K.mul (K.mul (K.mul x z) (K.mul u w)) (K.mul (K.mul y z) (K.mul v w))))) (K.add (K.mul (K.mul z w) (K.mul z w)) (K.mul d (K.mul (K.mul (K.mul x z) (K.mul u w)) (K.mul (K.mul y z) (K.mul v w))))))=(K.mul (K.mul (K.mul z w) (K.mul z w)) (K.mul (K.mul (K.mul z w) (K.mul z w)) (K.mul (K.sub K.one (K.mul d (K.mul (K.mul x u) (K.mul y v)))) (K.add K.one (K.mul d (K.mul (K.mul x u) (K.mul y v))))))) :=
 aL K (bI K [x,y,z,u,v,w,d]) ((Z2*Z5*(Z2*Z5)-Z6*(Z0*Z2*(Z3*Z5)*(Z1*Z2*(Z4*Z5))))*(Z2*Z5*(Z2*Z5)+Z6*(Z0*Z2*(Z3*Z5)*(Z1*Z2*(Z4*Z5))))) (Z2*Z5*(Z2*Z5)*(Z2*Z5*(Z2*Z5)*((RE.one-Z6*(Z0*Z3*(Z1*Z4)))*(RE.one+Z6*(Z0*Z3*(Z1*Z4)))))) (by kernel_rfl)
theorem Er (x y z u v w d i:R) (hi:(K.mul (K.add K.one (K.mul d (K.mul (K.mul x u) (K.mul y v)))) i)=K.one):(K.mul (K.mul (K.mul z w) (K.sub (K.mul (K.mul z w) (K.mul z w)) (K.mul d (K.mul (K.mul (K.mul x z) (K.mul u w)) (K.mul (K.mul y z) (K.mul v w)))))) (K.sub (K.sub (K.mul (K.add (K.mul x z) (K.mul y z)) (K.add (K.mul u w) (K.mul v w))) (K.mul (K.mul x z) (K.mul u w))) (K.mul (K.mul y z) (K.mul v w))))=(K.mul (K.mul (K.add (K.mul x v) (K.mul y u)) i) (K.mul (K.sub (K.mul (K.mul z w) (K.mul z w)) (K.mul d (K.mul (K.mul (K.mul x z) (K.mul u w)) (K.mul (K.mul y z) (K.mul v w))))) (K.add (K.mul (K.mul z w) (K.mul z w)) (K.mul d (K.mul (K.mul (K.mul x z) (K.mul u w)) (K.mul (K.mul y z) (K.mul v w))))))) :=
 fI (K:=K) (c1:=(K.neg (K.mul (K.add (K.mul x v) (K.mul y u)) (K.mul (K.mul (K.mul z w) (K.mul z w)) (K.mul (K.mul (K.mul z w) (K.mul z w)) (K.sub K.one (K.mul d (K.mul (K.mul x u) (K.mul y v))))))))) hi (aL K (bI K [x,y,z,u,v,w,d,i]) (Z2*Z5*(Z2*Z5*(Z2*Z5)-Z6*(Z0*Z2*(Z3*Z5)*(Z1*Z2*(Z4*Z5))))*((Z0*Z2+Z1*Z2)*(Z3*Z5+Z4*Z5)-Z0*Z2*(Z3*Z5)-Z1*Z2*(Z4*Z5))-(Z0*Z4+Z1*Z3)*Z7*((Z2*Z5*(Z2*Z5)-Z6*(Z0*Z2*(Z3*Z5)*(Z1*Z2*(Z4*Z5))))*(Z2*Z5*(Z2*Z5)+Z6*(Z0*Z2*(Z3*Z5)*(Z1*Z2*(Z4*Z5)))))) ((-((Z0*Z4+Z1*Z3)*(Z2*Z5*(Z2*Z5)*(Z2*Z5*(Z2*Z5)*(RE.one-Z6*(Z0*Z3*(Z1*Z4)))))))*((RE.one+Z6*(Z0*Z3*(Z1*Z4)))*Z7-RE.one)) (by kernel_rfl))
theorem Ep (x y z u v w a d j:R) (hj:(K.mul (K.sub K.one (K.mul d (K.mul (K.mul x u) (K.mul y v)))) j)=K.one):(K.mul (K.mul (K.mul z w) (K.add (K.mul (K.mul z w) (K.mul z w)) (K.mul d (K.mul (K.mul (K.mul x z) (K.mul u w)) (K.mul (K.mul y z) (K.mul v w)))))) (K.sub (K.mul (K.mul y z) (K.mul v w)) (K.mul a (K.mul (K.mul x z) (K.mul u w)))))=(K.mul (K.mul (K.sub (K.mul y v) (K.mul a (K.mul x u))) j) (K.mul (K.sub (K.mul (K.mul z w) (K.mul z w)) (K.mul d (K.mul (K.mul (K.mul x z) (K.mul u w)) (K.mul (K.mul y z) (K.mul v w))))) (K.add (K.mul (K.mul z w) (K.mul z w)) (K.mul d (K.mul (K.mul (K.mul x z) (K.mul u w)) (K.mul (K.mul y z) (K.mul v w))))))) :=
 fI (K:=K) (c1:=(K.neg (K.mul (K.sub (K.mul y v) (K.mul a (K.mul x u))) (K.mul (K.mul (K.mul z w) (K.mul z w)) (K.mul (K.mul (K.mul z w) (K.mul z w)) (K.add K.one (K.mul d (K.mul (K.mul x u) (K.mul y v))))))))) hj (aL K (bI K [x,y,z,u,v,w,a,d,j]) (Z2*Z5*(Z2*Z5*(Z2*Z5)+Z7*(Z0*Z2*(Z3*Z5)*(Z1*Z2*(Z4*Z5))))*(Z1*Z2*(Z4*Z5)-Z6*(Z0*Z2*(Z3*Z5)))-(Z1*Z4-Z6*(Z0*Z3))*Z8*((Z2*Z5*(Z2*Z5)-Z7*(Z0*Z2*(Z3*Z5)*(Z1*Z2*(Z4*Z5))))*(Z2*Z5*(Z2*Z5)+Z7*(Z0*Z2*(Z3*Z5)*(Z1*Z2*(Z4*Z5)))))) ((-((Z1*Z4-Z6*(Z0*Z3))*(Z2*Z5*(Z2*Z5)*(Z2*Z5*(Z2*Z5)*(RE.one+Z7*(Z0*Z3*(Z1*Z4)))))))*((RE.one-Z7*(Z0*Z3*(Z1*Z4)))*Z8-RE.one)) (by kernel_rfl))
theorem Eu (x y z a d:R) (he:(K.add (K.mul a (K.mul x x)) (K.mul y y))=(K.add K.one (K.mul d (K.mul (K.mul x x) (K.mul y y))))):(K.add (K.mul a (K.mul (K.mul x z) (K.mul x z))) (K.mul (K.mul y z) (K.mul y z)))=(K.mul (K.mul z z) (K.add K.one (K.mul d (K.mul (K.mul x x) (K.mul y y))))) :=
 fI (K:=K) (c1:=(K.mul z z)) he (aL K (bI K [x,y,z,a,d]) (Z3*(Z0*Z2*(Z0*Z2))+Z1*Z2*(Z1*Z2)-Z2*Z2*(RE.one+Z4*(Z0*Z0*(Z1*Z1)))) (Z2*Z2*(Z3*(Z0*Z0)+Z1*Z1-(RE.one+Z4*(Z0*Z0*(Z1*Z1))))) (by kernel_rfl))
theorem Ev (x y z a d:R) (he:(K.add (K.mul a (K.mul x x)) (K.mul y y))=(K.add K.one (K.mul d (K.mul (K.mul x x) (K.mul y y))))):(K.sub (K.add (K.mul z z) (K.mul z z)) (K.add (K.mul a (K.mul (K.mul x z) (K.mul x z))) (K.mul (K.mul y z) (K.mul y z))))=(K.mul (K.mul z z) (K.sub K.one (K.mul d (K.mul (K.mul x x) (K.mul y y))))) :=
 fI (K:=K) (c1:=(K.neg (K.mul z z))) he (aL K (bI K [x,y,z,a,d]) (Z2*Z2+Z2*Z2-(Z3*(Z0*Z2*(Z0*Z2))+Z1*Z2*(Z1*Z2))-Z2*Z2*(RE.one-Z4*(Z0*Z0*(Z1*Z1)))) ((-(Z2*Z2))*(Z3*(Z0*Z0)+Z1*Z1-(RE.one+Z4*(Z0*Z0*(Z1*Z1))))) (by kernel_rfl))
theorem Ey (x y z:R)  : (K.sub (K.sub (K.mul (K.add (K.mul x z) (K.mul y z)) (K.add (K.mul x z) (K.mul y z))) (K.mul (K.mul x z) (K.mul x z))) (K.mul (K.mul y z) (K.mul y z)))=(K.mul (K.mul z z) (K.add (K.mul x y) (K.mul y x))) :=
 aL K (bI K [x,y,z]) ((Z0*Z2+Z1*Z2)*(Z0*Z2+Z1*Z2)-Z0*Z2*(Z0*Z2)-Z1*Z2*(Z1*Z2)) (Z2*Z2*(Z0*Z1+Z1*Z0)) (by kernel_rfl)
theorem Ew (x y z a:R)  : (K.sub (K.mul (K.mul y z) (K.mul y z)) (K.mul a (K.mul (K.mul x z) (K.mul x z))))=(K.mul (K.mul z z) (K.sub (K.mul y y) (K.mul a (K.mul x x)))) :=
 aL K (bI K [x,y,z,a]) (Z1*Z2*(Z1*Z2)-Z3*(Z0*Z2*(Z0*Z2))) (Z2*Z2*(Z1*Z1-Z3*(Z0*Z0))) (by kernel_rfl)
theorem Et (n q p i s:R) (hi:(K.mul p i)=K.one):(K.mul (K.mul s n) (K.mul s q))=(K.mul (K.mul n i) (K.mul (K.mul s p) (K.mul s q))) :=
 fI (K:=K) (c1:=(K.neg (K.mul n (K.mul s (K.mul s q))))) hi (aL K (bI K [n,q,p,i,s]) (Z4*Z0*(Z4*Z1)-Z0*Z3*(Z4*Z2*(Z4*Z1))) ((-(Z0*(Z4*(Z4*Z1))))*(Z2*Z3-RE.one)) (by kernel_rfl))
theorem Es (m q p j s:R) (hj:(K.mul q j)=K.one):(K.mul (K.mul s p) (K.mul s m))=(K.mul (K.mul m j) (K.mul (K.mul s p) (K.mul s q))) :=
 fI (K:=K) (c1:=(K.neg (K.mul m (K.mul s (K.mul s p))))) hj (aL K (bI K [m,q,p,j,s]) (Z4*Z2*(Z4*Z0)-Z0*Z3*(Z4*Z2*(Z4*Z1))) ((-(Z0*(Z4*(Z4*Z2))))*(Z1*Z3-RE.one)) (by kernel_rfl))
variable (K) (a) (d)
def xD (p q:R×R×R):R×R×R :=
 let z:=K.mul p.2.2 q.2.2
 let x:=K.mul p.1 q.1
 let y:=K.mul p.2.1 q.2.1
 let both:=K.mul d (K.mul x y)
 let square:=K.mul z z
 let more:=K.add square both
 let less:=K.sub square both
 let across:=K.sub (K.sub (K.mul (K.add p.1 p.2.1) (K.add q.1 q.2.1)) x) y
 (K.mul (K.mul z less) across,K.mul (K.mul z more) (K.sub y (K.mul a x)),K.mul less more)
def xE (p:R×R×R):R×R×R :=
 let x:=K.mul p.1 p.1
 let y:=K.mul p.2.1 p.2.1
 let z:=K.mul p.2.2 p.2.2
 let across:=K.sub (K.sub (K.mul (K.add p.1 p.2.1) (K.add p.1 p.2.1)) x) y
 let ax:=K.mul a x
 let more:=K.add ax y
 let less:=K.sub (K.add z z) more
 (K.mul across less,K.mul more (K.sub y ax),K.mul more less)
def kM (p:R×R×R) (P:AQ K a d):Prop:=p.1=K.mul P.1.1 p.2.2∧p.2.1=K.mul P.1.2 p.2.2∧p.2.2≠K.zero
variable {K} {a} {d}
theorem ED.sum (E:ED K inv a d) {p q:R×R×R} {P Q:AQ K a d} (hp:kM K a d p P) (hq:kM K a d q Q):kM K a d (xD K a d p q) (E.grp.add P Q):=by
 obtain⟨⟨x,y⟩,h1⟩:=P;obtain⟨⟨u,v⟩,h2⟩:=Q;obtain⟨X,Y,z⟩:=p;obtain⟨U,V,w⟩:=q;obtain⟨rfl,rfl,hz⟩:X=K.mul x z∧Y=K.mul y z∧z≠K.zero:=hp;obtain⟨rfl,rfl,hw⟩:U=K.mul u w∧V=K.mul v w∧w≠K.zero:=hq;have hs:=E.F.mul_ne (E.F.mul_ne hz hw) (E.F.mul_ne hz hw);refine⟨Er x y z u v w d _ (E.ip h1 h2),Ep x y z u v w a d _ (E.iq h1 h2),?_⟩;intro e;exact E.F.mul_ne hs (E.F.mul_ne hs (E.F.mul_ne (E.qne h1 h2) (E.pne h1 h2))) ((Eo x y z u v w d).symm.trans e)
theorem ED.dbl (E:ED K inv a d) {p:R×R×R} {P:AQ K a d} (hp:kM K a d p P):kM K a d (xE K a p) (E.grp.add P P):=by
 obtain⟨⟨x,y⟩,h1⟩:=P;obtain⟨X,Y,z⟩:=p;obtain⟨rfl,rfl,hz⟩:X=K.mul x z∧Y=K.mul y z∧z≠K.zero:=hp;have hs:=E.F.mul_ne hz hz;have eM:=Eu x y z a d h1;have eL:=Ev x y z a d h1;have eA:=Ey (K:=K) x y z;have eB:=Ew (K:=K) x y z a;show K.mul _ _=K.mul _ (K.mul _ _)∧K.mul _ _=K.mul _ (K.mul _ _)∧K.mul _ _≠K.zero;simp only[];rw[eL,eM,eA,eB];refine⟨Et _ _ _ _ _ (E.ip h1 h1),Es _ _ _ _ _ (E.iq h1 h1),?_⟩;exact E.F.mul_ne (E.F.mul_ne hs (E.pne h1 h1)) (E.F.mul_ne hs (E.qne h1 h1))
theorem ED.told (E:ED K inv a d) {p:R×R×R} {P:AQ K a d} (hp:kM K a d p P):K.mul p.1 (inv p.2.2)=P.1.1∧K.mul p.2.1 (inv p.2.2)=P.1.2:=by
 obtain⟨h1,h2,h3⟩:=hp;rw[h1,h2,K.mul_assoc,K.mul_assoc,E.F.inv _ h3,K.mul_one,K.mul_one];exact⟨rfl,rfl⟩
theorem ED.rep1 (E:ED K inv a d) (P:AQ K a d):kM K a d (P.1.1,P.1.2,K.one) P:=⟨(K.mul_one _).symm,(K.mul_one _).symm,E.F.ne⟩
end
end Go.Proofs.Ytjeplinbleofnaa.Ex
namespace Go.Proofs.Ytjeplinbleofnaa
open Go.Proofs.Try
def aA (a b c d:Nat):Nat:=a+18446744073709551616*(b+18446744073709551616*(c+18446744073709551616*d))
def bH (a b c d:Nat):Prop:=a<18446744073709551616∧b<18446744073709551616∧c<18446744073709551616∧d<18446744073709551616
theorem bW {a b c d:Nat} (h:bH a b c d):aA a b c d<115792089237316195423570985008687907853269984665640564039457584007913129639936:=by
 obtain⟨h0,h1,h2,h3⟩:=h; unfold aA; omega
theorem uJ {a0 a1 a2 a3 b0 b1 b2 b3:Nat} (ha:bH a0 a1 a2 a3) (hb:bH b0 b1 b2 b3) (h:aA a0 a1 a2 a3=aA b0 b1 b2 b3):a0=b0∧a1=b1∧a2=b2∧a3=b3:=by
 obtain⟨p0,p1,p2,p3⟩:=ha; obtain⟨q0,q1,q2,q3⟩:=hb; unfold aA at h; omega
def AM (x y c:Nat):Nat:=(x+y+c)%18446744073709551616
def qY (x y c:Nat):Nat:=(x+y+c)/18446744073709551616
theorem uF {x y c:Nat} (hx:x<18446744073709551616) (hy:y<18446744073709551616) (hc:c≤1):qY x y c≤1:=by unfold qY; omega
theorem uE (x y c:Nat):AM x y c<18446744073709551616:=by unfold AM; omega
theorem LU (x y c:Nat):AM x y c+18446744073709551616*qY x y c=x+y+c:=by unfold AM qY; omega
def yB (x y c:Nat):Nat:=(x+18446744073709551616-y-c)%18446744073709551616
def yC (x y c:Nat):Nat:=if x<y+c then 1 else 0
theorem AW (x y c:Nat):yC x y c≤1:=by unfold yC; split<;>omega
theorem AU (x y c:Nat):yB x y c<18446744073709551616:=by unfold yB; omega
theorem QU {x y c:Nat} (hx:x<18446744073709551616) (hy:y<18446744073709551616) (hc:c≤1):yB x y c+y+c=x+18446744073709551616*yC x y c:=by
 unfold yB yC; split<;>omega
def JE (x y:Nat):Nat:=x*y/18446744073709551616
def JD (x y:Nat):Nat:=x*y%18446744073709551616
theorem XX (x y:Nat):JD x y+18446744073709551616*JE x y=x*y:=by unfold JD JE; omega
theorem OS (x y:Nat):JD x y<18446744073709551616:=by unfold JD; omega
theorem tM {x y p q:Nat} (hx:x≤p) (hy:y≤q):x*y≤p*q:=Nat.mul_le_mul hx hy
theorem OT {x y:Nat} (hx:x<18446744073709551616) (hy:y<18446744073709551616):JE x y≤18446744073709551614:=by
 have:=tM (show x≤18446744073709551615 by omega) (show y≤18446744073709551615 by omega);unfold JE; omega
structure FC where
 m0:Nat
 m1:Nat
 m2:Nat
 m3:Nat
 inv:Nat
 s0:Nat
 s1:Nat
 s2:Nat
 s3:Nat
 Ri:Nat
def FC.M (F:FC):Nat:=aA F.m0 F.m1 F.m2 F.m3
def FC.R (_:FC):Nat:=115792089237316195423570985008687907853269984665640564039457584007913129639936
structure FC.Ok (F:FC):Prop where
 okm:bH F.m0 F.m1 F.m2 F.m3
 oks:bH F.s0 F.s1 F.s2 F.s3
 inv:F.inv<18446744073709551616
 turn:(F.inv*F.m0+1)%18446744073709551616=0
 two:2*F.M<115792089237316195423570985008687907853269984665640564039457584007913129639936
 ri:F.R*F.Ri%F.M=1
 sq:aA F.s0 F.s1 F.s2 F.s3=F.R*F.R%F.M
 gt:2<F.M
 odd:F.M%2=1
def FP:FC:=⟨0x3c208c16d87cfd47,0x97816a916871ca8d,0xb85045b68181585d,0x30644e72e131a029,0x87d20782e4866389,0xf32cfc5b538afa89,0xb5e71911d44501fb,0x47ab1eff0a417ff6,0x06d89f71cab8351f,20988524275117001072002809824448087578619730785600314334253784976379291040311⟩
def FR:FC:=⟨0x43e1f593f0000001,0x2833e84879b97091,0xb85045b68181585d,0x30644e72e131a029,0xc2e1f593efffffff,0x1bb8e645ae216da7,0x53fe3ab1e35c59e3,0x8c49833d53bb8085,0x0216d0b17f4e44a5,9915499612839321149637521777990102151350674507940716049588462388200839649614⟩
theorem Dn:FP.M=21888242871839275222246405745257275088696311157297823662689037894645226208583:=by kernel_rfl
theorem Av:FR.M=21888242871839275222246405745257275088548364400416034343698204186575808495617:=by kernel_rfl
theorem Aw:FP.Ok:=⟨by unfold bH; decide,by unfold bH; decide,by decide,by kernel_rfl,by decide,by kernel_rfl,by kernel_rfl,by decide,by kernel_rfl⟩
theorem Au:FR.Ok:=⟨by unfold bH; decide,by unfold bH; decide,by decide,by kernel_rfl,by decide,by kernel_rfl,by kernel_rfl,by decide,by kernel_rfl⟩
theorem vB {t0 t1 t2 t3 x y0 y1 y2 y3 m0 m1 m2 m3 o0 l0 cl c0 o1 l1 c1 n0 o2 l2 c2 n1 o3 l3 c3 n2:Nat}
  (e0:l0+18446744073709551616*o0=x*y0+t0) (f0:0+18446744073709551616*c0=cl*m0+l0)
  (e1:l1+18446744073709551616*o1=x*y1+t1+o0) (f1:n0+18446744073709551616*c1=cl*m1+l1+c0)
  (e2:l2+18446744073709551616*o2=x*y2+t2+o1) (f2:n1+18446744073709551616*c2=cl*m2+l2+c1)
  (e3:l3+18446744073709551616*o3=x*y3+t3+o2) (f3:n2+18446744073709551616*c3=cl*m3+l3+c2) :
  18446744073709551616*aA n0 n1 n2 (o3+c3)=aA t0 t1 t2 t3+x*aA y0 y1 y2 y3+cl*aA m0 m1 m2 m3:=by
 unfold aA;have ex:x*(y0+18446744073709551616*(y1+18446744073709551616*(y2+18446744073709551616*y3)))=x*y0+18446744073709551616*(x*y1+18446744073709551616*(x*y2+18446744073709551616*(x*y3))):=by
  simp only[Nat.mul_add,Nat.mul_left_comm x 18446744073709551616]
 have ec:cl*(m0+18446744073709551616*(m1+18446744073709551616*(m2+18446744073709551616*m3)))=cl*m0+18446744073709551616*(cl*m1+18446744073709551616*(cl*m2+18446744073709551616*(cl*m3))):=by
  simp only[Nat.mul_add,Nat.mul_left_comm cl 18446744073709551616]
 rw[ex,ec];generalize x*y0=p0 at *;generalize x*y1=p1 at *;generalize x*y2=p2 at *;generalize x*y3=p3 at *;generalize cl*m0=q0 at *;generalize cl*m1=q1 at *;generalize cl*m2=q2 at *;generalize cl*m3=q3 at *;omega
theorem AI {l inv m:Nat} (h:(inv*m+1)%18446744073709551616=0):(l*inv%18446744073709551616*m+l)%18446744073709551616=0:=by
 have e:l*inv*m+l=l*(inv*m+1):=by rw[Nat.mul_add,Nat.mul_one,Nat.mul_assoc]
 rw[Nat.add_mod,Nat.mul_mod,Nat.mod_mod,←Nat.mul_mod,←Nat.add_mod,e,Nat.mul_mod,h,Nat.mul_zero,Nat.zero_mod]
theorem vA {N T x Y cl M:Nat} (e:18446744073709551616*N=T+x*Y+cl*M) (ht:T<2*M) (hx:x<18446744073709551616) (hy:Y<M) (hc:cl<18446744073709551616):N<2*M:=by
 have h1:=tM (show x≤18446744073709551615 by omega) (show Y≤M by omega);have h2:=Nat.mul_le_mul_right M (show cl≤18446744073709551615 by omega);generalize x*Y=p at *;generalize cl*M=q at *;omega
theorem FZ {n0 n1 n2 s B:Nat} (h:aA n0 n1 n2 s<115792089237316195423570985008687907853269984665640564039457584007913129639936):s<18446744073709551616:=by
 unfold aA at h; omega
def AP (M:Nat) (X:Nat→Nat) (Y k T:Nat):Prop:=T<2*M∧∃q,T*18446744073709551616^k=(X 0*(if 0<k then 1 else 0)+18446744073709551616*(X 1*(if 1<k then 1 else 0)+18446744073709551616*(X 2*(if 2<k then 1 else 0)+18446744073709551616*(X 3*(if 3<k then 1 else 0)))))*Y+q*M
theorem EI {M Y:Nat} (X:Nat→Nat) (hM:0<M):AP M X Y 0 0:=⟨by omega,0,by simp⟩
theorem EJ {M Y T N cl:Nat} {X:Nat→Nat} {k:Nat} (hk:k<4) (g:AP M X Y k T) (hx:X k<18446744073709551616) (hy:Y<M) (hc:cl<18446744073709551616) (e:18446744073709551616*N=T+X k*Y+cl*M):AP M X Y (k+1) N:=by
 obtain⟨ht,q,h⟩:=g;refine⟨vA e ht hx hy hc,q+cl*18446744073709551616^k,?_⟩;have e':N*18446744073709551616^(k+1)=T*18446744073709551616^k+X k*Y*18446744073709551616^k+cl*M*18446744073709551616^k:=by
  rw[Nat.pow_succ',←Nat.mul_assoc,Nat.mul_comm N,e,Nat.add_mul,Nat.add_mul]
 rw[e',h];have:k=0∨k=1∨k=2∨k=3:=by omega
 have hxa:∀b:Nat,X k*Y*b=b*(X k*Y):=fun b=>Nat.mul_comm _ _
 have hca:∀b:Nat,cl*M*b=b*(cl*M):=fun b=>Nat.mul_comm _ _
 have hqa:∀b:Nat,(q+cl*b)*M=q*M+b*(cl*M):=fun b=>by rw[Nat.add_mul,Nat.mul_right_comm,Nat.mul_comm (cl*M)]
 rw[hxa,hca,hqa]
 rcases this with rfl|rfl|rfl|rfl<;>simp[Nat.add_mul,Nat.mul_assoc]<;>omega
theorem JY {F:FC} (hF:F.Ok) {Y T x0 x1 x2 x3:Nat} {X:Nat→Nat} (h0:X 0=x0) (h1:X 1=x1) (h2:X 2=x2) (h3:X 3=x3) (g:AP F.M X Y 4 T):T<2*F.M∧T%F.M=aA x0 x1 x2 x3*Y*F.Ri%F.M:=by
 obtain⟨ht,q,h⟩:=g;refine⟨ht,?_⟩;simp only[h0,h1,h2,h3,show (0:Nat)<4 by omega,show (1:Nat)<4 by omega,show (2:Nat)<4 by omega,show (3:Nat)<4 by omega,if_true,Nat.mul_one]at h;have hr:=hF.ri;have hR:F.R=18446744073709551616^4:=by simp[FC.R]
 have e:T*(F.R*F.Ri)=aA x0 x1 x2 x3*Y*F.Ri+F.M*(q*F.Ri):=by
  rw[←Nat.mul_assoc,hR,h,Nat.add_mul,show q*F.M*F.Ri=F.M*(q*F.Ri) by rw[Nat.mul_comm q,Nat.mul_assoc]];rfl
 have e2:T*(F.R*F.Ri)%F.M=T%F.M:=by rw[Nat.mul_mod,hr,Nat.mul_one,Nat.mod_mod]
 rw[←e2,e,Nat.add_mul_mod_self_left]
theorem IW {t M:Nat} (h:t<2*M):t%M=if t<M then t else t-M:=by
 split
 ·exact Nat.mod_eq_of_lt ‹_›
 ·rw[Nat.mod_eq_sub_mod (by omega),Nat.mod_eq_of_lt (by omega)]
def fw (x i:Nat):Nat:=x/18446744073709551616^i%18446744073709551616
theorem cR (x:Nat):bH (fw x 0) (fw x 1) (fw x 2) (fw x 3):=⟨Nat.mod_lt _ (by omega),Nat.mod_lt _ (by omega),Nat.mod_lt _ (by omega),Nat.mod_lt _ (by omega)⟩
theorem gS {x:Nat} (h:x<115792089237316195423570985008687907853269984665640564039457584007913129639936):aA (fw x 0) (fw x 1) (fw x 2) (fw x 3)=x:=by
 unfold fw aA;have e1:(18446744073709551616:Nat)^1=18446744073709551616:=by simp
 have e2:(18446744073709551616:Nat)^2=18446744073709551616*18446744073709551616:=by simp
 have e3:(18446744073709551616:Nat)^3=18446744073709551616*18446744073709551616*18446744073709551616:=by simp
 rw[Nat.pow_zero,Nat.div_one,e1,e2,e3,←Nat.div_div_eq_div_mul,←Nat.div_div_eq_div_mul,←Nat.div_div_eq_div_mul];omega
theorem gN {s0 s1 s2 s3 x:Nat} (hs:bH s0 s1 s2 s3) (hx:x<115792089237316195423570985008687907853269984665640564039457584007913129639936) (h:aA s0 s1 s2 s3=x):s0=fw x 0∧s1=fw x 1∧s2=fw x 2∧s3=fw x 3 :=
 uJ hs (cR x) (h.trans (gS hx).symm)
theorem YS {x:Nat} (h:x<FP.M):x<115792089237316195423570985008687907853269984665640564039457584007913129639936:=Nat.lt_trans h (by decide)
theorem eI:0<FP.M:=by decide
end Go.Proofs.Ytjeplinbleofnaa
namespace Go.Proofs.Ytjeplinbleofnaa.Ex
open Go.Proofs.Try
open Go.RowKit
abbrev Fq:=Fin FP.M
inductive At|f (x:Fq)|q (x:Nat)|c (v:Value)
def w4 (x:Nat):List Value:=[.int .u64 (fw x 0:Nat),.int .u64 (fw x 1:Nat),.int .u64 (fw x 2:Nat),.int .u64 (fw x 3:Nat)]
def At.cells:At→List Value
 | .f x=>w4 x.1
 | .q x=>w4 x
 | .c v=>[v]
def At.sz:At→Nat
 | .f _=>4
 | .q _=>4
 | .c _=>1
theorem At.len (a:At):a.cells.length=a.sz:=by cases a<;>rfl
def aB:List At→List Value
 | []=>[]
 | a::r=>a.cells++aB r
def fA:List At→Nat
 | []=>0
 | a::r=>a.sz+fA r
theorem aM:∀l:List At,(aB l).length=fA l
 | []=>rfl
 | a::r=>by simp[aB,fA,At.len,aM r]
def cellAt:List At→Nat→Option Value
 | [],_=>none
 | a::r,o=>bif Nat.blt o a.sz then a.cells[o]? else cellAt r (o-a.sz)
theorem fB:∀{l:List At} {o:Nat} {v:Value},cellAt l o=some v→(aB l)[o]?=some v
 | [],o,v,h=>by cases h
 | a::r,o,v,h=>by
  unfold cellAt at h;show (a.cells++aB r)[o]?=_;cases hb:Nat.blt o a.sz<;>rw[hb]at h
  ·have hle:a.sz≤o:=by
    rcases Nat.lt_or_ge o a.sz with q|q
    ·have:Nat.blt o a.sz=true:=by simpa using q
     rw[hb]at this; cases this
    ·exact q
   rw[List.getElem?_append_right (by rw[At.len]; exact hle),At.len];exact fB h
  ·have hlt:o<a.sz:=by simpa using hb
   rw[List.getElem?_append_left (by rw[At.len]; exact hlt)];exact h
theorem aO:∀l m:List At,aB (l++m)=aB l++aB m
 | [],m=>rfl
 | a::r,m=>by simp[aB,aO r m]
theorem zR (l m:List At):fA (l++m)=fA l+fA m:=by rw[←aM,aO,List.length_append,aM,aM]
def tk:List At→Nat→Option (List At)
 | [],n=>bif Nat.beq n 0 then some []else none
 | a::r,n=>bif Nat.beq n 0 then some []else bif Nat.ble a.sz n then (tk r (n-a.sz)).map (a :: ·)else none
def dp:List At→Nat→Option (List At)
 | [],n=>bif Nat.beq n 0 then some []else none
 | a::r,n=>bif Nat.beq n 0 then some (a::r)else bif Nat.ble a.sz n then dp r (n-a.sz)else none
theorem lN:∀(l:List At) (n:Nat) (t:List At),tk l n=some t→∃r,l=t++r∧fA t=n
 | [],n,t,h=>by
  unfold tk at h;cases hn:Nat.beq n 0<;>rw[hn]at h
  ·cases h
  ·cases h; exact⟨[],rfl,(Nat.eq_of_beq_eq_true hn).symm⟩
 | a::r,n,t,h=>by
  unfold tk at h;cases hn:Nat.beq n 0<;>rw[hn]at h
  ·cases hs:Nat.ble a.sz n<;>rw[hs]at h
   ·cases h
   ·cases hr:tk r (n-a.sz)with
    | none=>rw[hr]at h; cases h
    | some t' =>
     rw[hr]at h; cases h;obtain⟨r',e,s⟩:=lN r _ _ hr;refine⟨r',by rw[e]; rfl,?_⟩;have:=Nat.le_of_ble_eq_true hs;show a.sz+fA t'=n;omega
  ·cases h; exact⟨a::r,rfl,(Nat.eq_of_beq_eq_true hn).symm⟩
theorem mG:∀(l:List At) (n:Nat) (r:List At),dp l n=some r→∃t,l=t++r∧fA t=n
 | [],n,r,h=>by
  unfold dp at h;cases hn:Nat.beq n 0<;>rw[hn]at h
  ·cases h
  ·cases h; exact⟨[],rfl,(Nat.eq_of_beq_eq_true hn).symm⟩
 | a::l,n,r,h=>by
  unfold dp at h;cases hn:Nat.beq n 0<;>rw[hn]at h
  ·cases hs:Nat.ble a.sz n<;>rw[hs]at h
   ·cases h
   ·obtain⟨t,e,s⟩:=mG l _ _ h;refine⟨a::t,by rw[e]; rfl,?_⟩;have:=Nat.le_of_ble_eq_true hs;show a.sz+fA t=n;omega
  ·cases h; exact⟨[],rfl,(Nat.eq_of_beq_eq_true hn).symm⟩
def FL (l:List At) (o n:Nat):Option (List At):=match dp l o with|some r=>tk r n|none=>none
theorem gZ {l:List At} {o n:Nat} {t:List At} (h:FL l o n=some t):∃p s,l=p++(t++s)∧fA p=o∧fA t=n:=by
 unfold FL at h;cases hd:dp l o with
 | none=>rw[hd]at h; cases h
 | some r =>
  rw[hd]at h;obtain⟨p,e,hp⟩:=mG _ _ _ hd;obtain⟨s,e2,ht⟩:=lN _ _ _ h;exact⟨p,s,by rw[e,e2],hp,ht⟩
def put (l:List At) (o:Nat) (v:List At):Option (List At) :=
 match tk l o,dp l o with
 | some a,some b=>match dp b (fA v)with|some s=>some (a++(v++s))|none=>none
 | _,_=>none
theorem pY:∀{a b:List At} {r s:List At},a++r=b++s→fA a=fA b→aB a=aB b∧aB r=aB s:=by
 intro a b r s h hs;have:=congrArg aB h;rw[aO,aO]at this;exact List.append_inj this (by rw[aM,aM,hs])
theorem vR {l:List At} {o:Nat} {v l':List At} (h:put l o v=some l'):∃a m s,l=a++(m++s)∧aB l'=aB a++(aB v++aB s)∧fA a=o∧fA m=fA v:=by
 unfold put at h;cases ht:tk l o with
 | none=>rw[ht]at h; cases h
 | some a =>
  cases hd:dp l o with
  | none=>rw[ht,hd]at h; cases h
  | some b =>
   rw[ht,hd]at h;simp only at h;cases hb:dp b (fA v)with
   | none=>rw[hb]at h; cases h
   | some s =>
    rw[hb]at h; cases h;obtain⟨r,e,s1⟩:=lN _ _ _ ht;obtain⟨p,e2,s2⟩:=mG _ _ _ hd;obtain⟨m,e3,s3⟩:=mG _ _ _ hb;obtain⟨h1,h2⟩:=pY (e.symm.trans e2) (s1.trans s2.symm);refine⟨p,m,s,by rw[e2,e3],?_,s2,s3⟩;rw[aO,aO,h1]
def pS:Value→Bool
 | .bool _=>true
 | .int _ _=>true
 | .func _ _ _=>true
 | .complex _ _ _=>true
 | .float _ _=>true
 | .slice _ _ _=>true
 | .pointer _=>true
 | _=>false
def nz:List Value→List At
 | .int .u64 (.ofNat 0) :: .int .u64 (.ofNat 0) :: .int .u64 (.ofNat 0) :: .int .u64 (.ofNat 0)::r=>.f ⟨0,eI⟩::nz r
 | v::r=>.c v::nz r
 | []=>[]
theorem BL (l:List Value):aB (nz l)=l:=by
 fun_induction nz l with
 | case1 r ih=>show w4 0++aB (nz r)=_; rw[ih]; rfl
 | case2 v r h ih=>show [v]++aB (nz r)=_; rw[ih]; rfl
 | case3=>rfl
def nq:List At→List At
 | .c (.int .u64 (.ofNat a)) :: .c (.int .u64 (.ofNat b)) :: .c (.int .u64 (.ofNat c)) :: .c (.int .u64 (.ofNat d))::r =>
  bif Nat.blt a 18446744073709551616&&(Nat.blt b 18446744073709551616&&(Nat.blt c 18446744073709551616&&Nat.blt d 18446744073709551616))then (if h:aA a b c d<FP.M then .f ⟨aA a b c d,h⟩else .q (aA a b c d))::nq r
  else .c (.int .u64 (.ofNat a)) :: .c (.int .u64 (.ofNat b)) :: .c (.int .u64 (.ofNat c)) :: .c (.int .u64 (.ofNat d))::nq r
 | v::r=>v::nq r
 | []=>[]
theorem OQ (l:List At):aB (nq l)=aB l:=by
 fun_induction nq l with
 | case1 a b c d r hb ih =>
  simp only[Bool.and_eq_true,Nat.blt_eq]at hb;have h4:bH a b c d:=⟨hb.1,hb.2.1,hb.2.2.1,hb.2.2.2⟩;have hv:aA a b c d<115792089237316195423570985008687907853269984665640564039457584007913129639936:=by
   unfold aA; obtain⟨h1,h2,h3,h5⟩:=hb; omega
  obtain⟨e0,e1,e2,e3⟩:=gN h4 hv rfl;have hc:(if h:aA a b c d<FP.M then At.f ⟨aA a b c d,h⟩else At.q (aA a b c d)).cells=w4 (aA a b c d):=by split<;>rfl
  show (if h:aA a b c d<FP.M then At.f ⟨aA a b c d,h⟩else At.q (aA a b c d)).cells++aB (nq r)=_;rw[hc,ih];unfold w4;rw[←e0,←e1,←e2,←e3];rfl
 | case2 a b c d r hb ih=>simp only[aB,ih]
 | case3 v r h ih=>show v.cells++aB (nq r)=_; rw[ih]; rfl
 | case4=>rfl
inductive TV|im (v:Value)|fl (l:List At)
def TV.den:TV→Value
 | .im v=>v
 | .fl l=>.agg (aB l).toArray
abbrev Bk:=Nat×Nat×Nat
inductive AV|im (v:Value)|fl (l:List At)|pt (k o:Nat)|sl (k o n m:Nat)|tu (l:List TV)|ic (t:Nat) (l:List At)|tf (k n m:Nat) (post:List TV)|so (k n:Nat)|tg (k n:Nat) (ante post:List TV)
def TV.av:TV→AV
 | .im v=>.im v
 | .fl l=>.fl l
def AV.den (β:Nat→Bk):AV→Value
 | .im v=>v
 | .fl l=>.agg (aB l).toArray
 | .pt k o=>.pointer (some ⟨(β k).1,(β k).2.1+o,none⟩)
 | .sl k o n m=>.slice (some ⟨(β k).1,(β k).2.1+o,none⟩) n m
 | .tu l=>.tuple (l.map TV.den).toArray
 | .ic t l=>.iface t (.agg (aB l).toArray)
 | .tf k n m post=>.tuple (.slice (some ⟨(β k).1,(β k).2.1,none⟩) n m::post.map TV.den).toArray
 | .so k n=>.slice (some ⟨(β k).1,(β k).2.1,none⟩) n (β k).2.2
 | .tg k n ante post=>.tuple (ante.map TV.den ++ .slice (some ⟨(β k).1,(β k).2.1,none⟩) n (β k).2.2::post.map TV.den).toArray
theorem TV.av_den (β:Nat→Bk) (t:TV):t.av.den β=t.den:=by cases t<;>rfl
def AV.key:AV→Option Nat
 | .pt k _=>some k
 | .sl k _ _ _=>some k
 | .tf k _ _ _=>some k
 | .so k _=>some k
 | .tg k _ _ _=>some k
 | _=>none
theorem AV.den_eq {β β':Nat→Bk} (v:AV) (h:∀k,v.key=some k→β' k=β k):v.den β'=v.den β:=by
 cases v with
 | pt k o=>simp[AV.den,h k rfl]
 | sl k o n m=>simp[AV.den,h k rfl]
 | tf k n m post=>simp[AV.den,h k rfl]
 | so k n=>simp[AV.den,h k rfl]
 | tg k n ante post=>simp[AV.den,h k rfl]
 | _=>rfl
def AppAt (w:World) (b e sz n cap:Nat):Prop:=∃cur,w.heap[b]?=some (.cells cur e (0,0))∧n≤cap∧cap≤maxLen∧cur.size=cap*sz
inductive Fact|slot (s:Nat) (v:AV)|row (k:Nat) (nM:Bool) (l:List At)|at (k b:Nat)|app (k e sz n:Nat)
def Fact.ok (base:Nat) (β:Nat→Bk) (a:Act) (w:World):Fact→Prop
 | .slot s v=>a.tmps[s]?=some (v.den β)
 | .row k nM l=>(β k).1<w.heap.size∧w.rangeAt (β k).1 (β k).2.1 (aB l)∧(nM=true→base≤(β k).1∧(β k).2.1=0∧∀j,w.frozen? ⟨(β k).1,j,none⟩=false)∧(nM=false→True)
 | .at k b=>(β k).1=b∧(β k).2.1=0
 | .app k e sz n=>AppAt w (β k).1 e sz n (β k).2.2
def oG:List Fact→Nat→Option AV
 | [],_=>none
 | .slot t v::r,s=>bif Nat.beq t s then some v else oG r s
 | .row _ _ _::r,s=>oG r s
 | .at _ _::r,s=>oG r s
 | .app _ _ _ _::r,s=>oG r s
theorem dU:∀{M:List Fact} {s:Nat} {v:AV},oG M s=some v→Fact.slot s v∈M
 | .slot t u::r,s,v,h=>by
  unfold oG at h;cases hb:Nat.beq t s<;>rw[hb]at h
  ·exact List.mem_cons_of_mem _ (dU h)
  ·cases h; cases Nat.eq_of_beq_eq_true hb; exact List.mem_cons_self
 | .row _ _ _::r,s,v,h=>List.mem_cons_of_mem _ (dU (M:=r) h)
 | .at _ _::r,s,v,h=>List.mem_cons_of_mem _ (dU (M:=r) h)
 | .app _ _ _ _::r,s,v,h=>List.mem_cons_of_mem _ (dU (M:=r) h)
def dA:List Fact→Nat→Option (Bool×List At)
 | [],_=>none
 | .row t o l::r,s=>bif Nat.beq t s then some (o,l)else dA r s
 | .slot _ _::r,s=>dA r s
 | .at _ _::r,s=>dA r s
 | .app _ _ _ _::r,s=>dA r s
theorem aW:∀{M:List Fact} {s:Nat} {o:Bool} {l:List At},dA M s=some (o,l)→Fact.row s o l∈M
 | .row t u m::r,s,o,l,h=>by
  unfold dA at h;cases hb:Nat.beq t s<;>rw[hb]at h
  ·exact List.mem_cons_of_mem _ (aW h)
  ·cases h; cases Nat.eq_of_beq_eq_true hb; exact List.mem_cons_self
 | .slot _ _::r,s,o,l,h=>List.mem_cons_of_mem _ (aW (M:=r) h)
 | .at _ _::r,s,o,l,h=>List.mem_cons_of_mem _ (aW (M:=r) h)
 | .app _ _ _ _::r,s,o,l,h=>List.mem_cons_of_mem _ (aW (M:=r) h)
def qK:List Fact→Nat→Option Nat
 | [],_=>none
 | .at t b::r,s=>bif Nat.beq t s then some b else qK r s
 | .slot _ _::r,s=>qK r s
 | .row _ _ _::r,s=>qK r s
 | .app _ _ _ _::r,s=>qK r s
theorem dV:∀{M:List Fact} {s b:Nat},qK M s=some b→Fact.at s b∈M
 | .at t c::r,s,b,h=>by
  unfold qK at h;cases hb:Nat.beq t s<;>rw[hb]at h
  ·exact List.mem_cons_of_mem _ (dV h)
  ·cases h; cases Nat.eq_of_beq_eq_true hb; exact List.mem_cons_self
 | .slot _ _::r,s,b,h=>List.mem_cons_of_mem _ (dV (M:=r) h)
 | .row _ _ _::r,s,b,h=>List.mem_cons_of_mem _ (dV (M:=r) h)
 | .app _ _ _ _::r,s,b,h=>List.mem_cons_of_mem _ (dV (M:=r) h)
def mK:List Fact→Nat→Option (Nat×Nat×Nat)
 | [],_=>none
 | .app t e sz n::r,s=>bif Nat.beq t s then some (e,sz,n)else mK r s
 | .slot _ _::r,s=>mK r s
 | .row _ _ _::r,s=>mK r s
 | .at _ _::r,s=>mK r s
theorem eQ:∀{M:List Fact} {s e sz n:Nat},mK M s=some (e,sz,n)→Fact.app s e sz n∈M
 | .app t e' sz' n'::r,s,e,sz,n,h=>by
  unfold mK at h;cases hb:Nat.beq t s<;>rw[hb]at h
  ·exact List.mem_cons_of_mem _ (eQ h)
  ·cases h; cases Nat.eq_of_beq_eq_true hb; exact List.mem_cons_self
 | .slot _ _::r,s,e,sz,n,h=>List.mem_cons_of_mem _ (eQ (M:=r) h)
 | .row _ _ _::r,s,e,sz,n,h=>List.mem_cons_of_mem _ (eQ (M:=r) h)
 | .at _ _::r,s,e,sz,n,h=>List.mem_cons_of_mem _ (eQ (M:=r) h)
def ev (M:List Fact):Operand→Option AV
 | .tmp s=>oG M s
 | .const v=>some (.im v)
 | .func f=>some (.im (.func (.func f) #[] #[]))
 | .global _=>none
theorem aG {M:List Fact} {base:Nat} {β:Nat→Bk} {a:Act} {w:World} (hM:∀φ∈M,φ.ok base β a w) {x:Operand} {v:AV} (h:ev M x=some v):a.eval x=v.den β:=by
 cases x with
 | tmp s =>
  have:=hM _ (dU h);simp only[Fact.ok]at this;simp[Act.eval,this]
 | const u=>cases h; rfl
 | func f=>cases h; rfl
 | global g=>cases h
def VD (M:List Fact):List Operand→Option (List AV)
 | []=>some []
 | x::r=>match ev M x,VD M r with|some v,some l=>some (v::l)|_,_=>none
theorem mF {M:List Fact} {base:Nat} {β:Nat→Bk} {a:Act} {w:World} (hM:∀φ∈M,φ.ok base β a w):∀{xs:List Operand} {l:List AV},VD M xs=some l→xs.map a.eval=l.map (AV.den β)
 | [],l,h=>by cases h; rfl
 | x::r,l,h=>by
  unfold VD at h;cases hx:ev M x with
  | none=>rw[hx]at h; cases h
  | some v =>
   cases hr:VD M r with
   | none=>rw[hx,hr]at h; cases h
   | some l'=>rw[hx,hr]at h; cases h; simp[aG hM hx,mF hM hr]
def wE:AV→Option (List At)
 | .fl l=>some l
 | .im v=>bif pS v then some [.c v]else none
 | _=>none
theorem kU {v:AV} {p:List At} (h:wE v=some p) (β:Nat→Bk):(v.den β).cells=(aB p).toArray:=by
 cases v with
 | fl l=>cases h; rfl
 | im u =>
  have h':(bif pS u then some [At.c u]else none)=some p:=h;cases hu:pS u<;>rw[hu]at h'
  ·cases h'
  ·cases h';cases u<;>first|rfl|cases hu
 | _=>cases h
def kT (M:List Fact):List (Nat×Operand)→Option (List (Nat×List At))
 | []=>some []
 | (i,x)::r=>match ev M x with
  | some v=>match wE v,kT M r with|some p,some l=>some ((i,p)::l)|_,_=>none
  | none=>none
def rZ (place:Nat→Option (Nat×Nat)):List At→List (Nat×List At)→Option (List At)
 | l,[]=>some l
 | l,(i,p)::r=>match place i with
  | none=>none
  | some (off,sz)=>bif Nat.beq (fA p) sz then (match put l off p with|some l'=>rZ place l' r|none=>none)else none
theorem wX:∀(p B A C:List Value) (k off:Nat),A.length=off+k→B.length=p.length →
  (p.zipIdx k).foldl (fun cs (x:Value×Nat)=>cs.setIfInBounds (off+x.2) x.1) (A++(B++C)).toArray=(A++(p++C)).toArray
 | [],B,A,C,k,off,hA,hB=>by
  have:B=[]:=List.length_eq_zero_iff.1 (by simpa using hB);subst this; rfl
 | v::p,B,A,C,k,off,hA,hB=>by
  cases B with
  | nil=>cases hB
  | cons b B =>
   have e:(A++(b::B++C)).toArray.setIfInBounds (off+k) v=((A++[v])++(B++C)).toArray:=by
    rw[List.setIfInBounds_toArray,←hA];simp
   simp only[List.zipIdx_cons,List.foldl_cons,e];rw[wX p B (A++[v]) C (k+1) off (by simp[hA]; omega) (by simpa using hB)];simp
theorem iP {M:List Fact} {base:Nat} {β:Nat→Bk} {a:Act} {w:World} (hM:∀φ∈M,φ.ok base β a w) (place:Nat→Option (Nat×Nat)) :
  ∀(xs:List (Nat×Operand)) (ps:List (Nat×List At)) (l l':List At),kT M xs=some ps→rZ place l ps=some l' →
   Instr.fill place (aB l).toArray (xs.map fun (i,x)=>(i,a.eval x))=some (aB l').toArray
 | [],ps,l,l',h,h2=>by cases h; cases h2; rfl
 | (i,x)::r,ps,l,l',h,h2=>by
  unfold kT at h;cases hx:ev M x with
  | none=>rw[hx]at h; cases h
  | some v =>
   rw[hx]at h;simp only at h;cases hp:wE v with
   | none=>rw[hp]at h; cases h
   | some p =>
    cases hr:kT M r with
    | none=>rw[hp,hr]at h; cases h
    | some ps' =>
     rw[hp,hr]at h; cases h;unfold rZ at h2;simp only[List.map_cons,Instr.fill];cases hpl:place i with
     | none=>rw[hpl]at h2; cases h2
     | some os =>
      obtain⟨off,sz⟩:=os;rw[hpl]at h2;simp only at h2;cases hb:Nat.beq (fA p) sz<;>rw[hb]at h2
      ·cases h2
      ·have hsz:=Nat.eq_of_beq_eq_true hb;simp only[cond_true]at h2;cases hq:put l off p with
       | none=>rw[hq]at h2; cases h2
       | some l1 =>
        rw[hq]at h2;obtain⟨A,m,s,e,f,ha,hm⟩:=vR hq;have hc:=kU hp β;rw[aG hM hx];have hsize:(AV.den β v).cells.size=sz:=by rw[hc]; simp[aM,hsz]
        have hle:¬(off+(AV.den β v).cells.size>(aB l).toArray.size):=by
         rw[hsize,e];simp[aO,aM];omega
        have hset:(AV.den β v).cells.zipIdx.foldl (fun cs (c,j)=>cs.setIfInBounds (off+j) c) (aB l).toArray=(aB l1).toArray:=by
         rw[hc,f,e,aO,aO];have:=wX (aB p) (aB m) (aB A) (aB s) 0 off (by rw[aM,ha]; rfl) (by rw[aM,aM,hm]);simpa using this
        simp only[hset];rw[if_neg (by simp[hsize]; simpa[hsize]using hle)];exact iP hM place r ps' l1 l' hr h2
end Go.Proofs.Ytjeplinbleofnaa.Ex
