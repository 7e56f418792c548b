/- Jz07 -/
import Derived.Laws.MakeOwn
import Derived.Test.YtjeplinbleofnaaGreatJz06
import Derived.Test.YtjeplinbleofnaaGreatJz05
import Derived.Test.YtjeplinbleofnaaGreatProg
import Derived.Test.YtjeplinbleofnaaGreatJz00
import Derived.Test.YtjeplinbleofnaaGreatJz02
set_option maxRecDepth 100000
set_option linter.unusedVariables false
set_option linter.unusedSimpArgs false
set_option linter.unnecessarySimpa false
namespace Go.Proofs.YtjeplinbleofnaaGreat.Ex
open Go.Proofs.Tryz
def Rt:RE:=(Z0*Z0*Z1*Z1*Z2*Z2*Z2*Z2*Z3*Z3*Z3*Z3*Z7*Z7*Z7+Z0*Z0*Z2*Z2*Z2*Z2*Z3*Z3*Z3*Z3*Z6*Z7*Z7-Z0*Z0*Z2*Z2*Z2*Z2*Z3*Z3*Z6*Z6*Z7-Z0*Z0*Z2*Z2*Z3*Z3*Z3*Z3*Z6*Z7+Z1*Z1*Z2*Z2*Z2*Z2*Z3*Z3*Z3*Z3*Z7*Z7-Z1*Z1*Z2*Z2*Z2*Z2*Z3*Z3*Z6*Z7-Z1*Z1*Z2*Z2*Z3*Z3*Z3*Z3*Z7+(RE.one+RE.one)*Z2*Z2*Z2*Z2*Z3*Z3*Z3*Z3*Z6*Z7-Z2*Z2*Z2*Z2*Z3*Z3*Z3*Z3*Z7*Z7-(RE.one+RE.one)*Z2*Z2*Z2*Z2*Z3*Z3*Z6*Z6+Z2*Z2*Z2*Z2*Z6*Z6-(RE.one+RE.one)*Z2*Z2*Z3*Z3*Z3*Z3*Z6+(RE.one+RE.one+RE.one+RE.one)*Z2*Z2*Z3*Z3*Z6-(RE.one+RE.one)*Z2*Z2*Z3*Z3*Z7+Z3*Z3*Z3*Z3)
def Rs:RE:=(Z0*Z0*Z0*Z0*Z2*Z2*Z3*Z3*Z6*Z6*Z7+(RE.one+RE.one)*Z0*Z0*Z2*Z2*Z3*Z3*Z6*Z6-(RE.one+RE.one)*Z0*Z0*Z2*Z2*Z3*Z3*Z6*Z7-Z0*Z0*Z2*Z2*Z6*Z6-Z0*Z0*Z3*Z3*Z6+Z1*Z1*Z1*Z1*Z2*Z2*Z3*Z3*Z7+(RE.one+RE.one)*Z1*Z1*Z2*Z2*Z3*Z3*Z6-(RE.one+RE.one)*Z1*Z1*Z2*Z2*Z3*Z3*Z7-Z1*Z1*Z2*Z2*Z6-Z1*Z1*Z3*Z3-(RE.one+RE.one)*Z2*Z2*Z3*Z3*Z6+Z2*Z2*Z3*Z3*Z7+Z2*Z2*Z6+Z3*Z3+RE.one)
def Rq:RE:=(Z0*Z2*Z2*Z2*Z2*Z3*Z3*Z3*Z4*Z4*Z5*Z6*Z7*Z7-Z0*Z2*Z2*Z2*Z2*Z3*Z4*Z4*Z5*Z6*Z6*Z7-Z0*Z2*Z2*Z2*Z3*Z3*Z3*Z3*Z4*Z5*Z5*Z7*Z7-Z0*Z2*Z2*Z2*Z3*Z3*Z4*Z4*Z4*Z6*Z6*Z7+Z0*Z2*Z2*Z2*Z3*Z3*Z4*Z6*Z7+Z0*Z2*Z2*Z3*Z3*Z3*Z5*Z5*Z5*Z7-Z0*Z2*Z2*Z3*Z3*Z3*Z5*Z7+Z0*Z2*Z3*Z3*Z3*Z3*Z4*Z5*Z5*Z7+Z1*Z2*Z2*Z2*Z2*Z3*Z3*Z3*Z4*Z5*Z5*Z7*Z7-Z1*Z2*Z2*Z2*Z2*Z3*Z4*Z5*Z5*Z6*Z7+Z1*Z2*Z2*Z2*Z3*Z3*Z3*Z3*Z4*Z4*Z5*Z7*Z7+Z1*Z2*Z2*Z2*Z3*Z3*Z5*Z5*Z5*Z7-Z1*Z2*Z2*Z2*Z3*Z3*Z5*Z7+Z1*Z2*Z2*Z3*Z3*Z3*Z4*Z4*Z4*Z6*Z7-Z1*Z2*Z2*Z3*Z3*Z3*Z4*Z7-Z1*Z2*Z3*Z3*Z3*Z3*Z4*Z4*Z5*Z7)
def Rm:RE:=(Z0*Z0*Z0*Z2*Z2*Z3*Z4*Z4*Z5*Z6*Z6*Z7-Z0*Z0*Z0*Z2*Z3*Z3*Z4*Z5*Z5*Z6*Z7+Z0*Z0*Z0*Z2*Z4*Z4*Z4*Z5*Z5*Z6*Z6*Z7-Z0*Z0*Z0*Z2*Z4*Z4*Z4*Z6*Z6*Z6-Z0*Z0*Z0*Z2*Z4*Z5*Z5*Z6*Z6+Z0*Z0*Z0*Z2*Z4*Z6*Z6-Z0*Z0*Z0*Z3*Z4*Z4*Z5*Z5*Z5*Z6*Z7+Z0*Z0*Z0*Z3*Z4*Z4*Z5*Z6*Z6+Z0*Z0*Z0*Z3*Z5*Z5*Z5*Z6-Z0*Z0*Z0*Z3*Z5*Z6-Z0*Z0*Z1*Z2*Z2*Z3*Z4*Z4*Z4*Z5*Z5*Z6*Z7*Z7+Z0*Z0*Z1*Z2*Z2*Z3*Z4*Z5*Z5*Z6*Z7-Z0*Z0*Z1*Z2*Z3*Z3*Z4*Z4*Z5*Z5*Z5*Z7*Z7+Z0*Z0*Z1*Z2*Z3*Z3*Z4*Z4*Z5*Z6*Z7-Z0*Z0*Z1*Z2*Z4*Z4*Z5*Z5*Z5*Z6*Z7+Z0*Z0*Z1*Z2*Z4*Z4*Z5*Z6*Z6+Z0*Z0*Z1*Z2*Z5*Z5*Z5*Z6-Z0*Z0*Z1*Z2*Z5*Z6-Z0*Z0*Z1*Z3*Z4*Z4*Z4*Z5*Z5*Z6*Z7+Z0*Z0*Z1*Z3*Z4*Z4*Z4*Z6*Z6+Z0*Z0*Z1*Z3*Z4*Z5*Z5*Z6-Z0*Z0*Z1*Z3*Z4*Z6-Z0*Z1*Z1*Z2*Z2*Z3*Z4*Z4*Z5*Z5*Z5*Z7*Z7+Z0*Z1*Z1*Z2*Z2*Z3*Z4*Z4*Z5*Z6*Z7+Z0*Z1*Z1*Z2*Z3*Z3*Z4*Z4*Z4*Z5*Z5*Z7*Z7-Z0*Z1*Z1*Z2*Z3*Z3*Z4*Z5*Z5*Z7+Z0*Z1*Z1*Z2*Z4*Z4*Z4*Z5*Z5*Z6*Z7-Z0*Z1*Z1*Z2*Z4*Z4*Z4*Z6*Z6-Z0*Z1*Z1*Z2*Z4*Z5*Z5*Z6+Z0*Z1*Z1*Z2*Z4*Z6-Z0*Z1*Z1*Z3*Z4*Z4*Z5*Z5*Z5*Z7+Z0*Z1*Z1*Z3*Z4*Z4*Z5*Z6+Z0*Z1*Z1*Z3*Z5*Z5*Z5-Z0*Z1*Z1*Z3*Z5-Z0*Z2*Z2*Z3*Z4*Z4*Z5*Z6*Z7+Z0*Z2*Z3*Z3*Z4*Z5*Z5*Z7-Z0*Z2*Z4*Z4*Z4*Z5*Z5*Z6*Z7+Z0*Z2*Z4*Z4*Z4*Z6*Z6+Z0*Z2*Z4*Z5*Z5*Z6-Z0*Z2*Z4*Z6+Z0*Z3*Z4*Z4*Z5*Z5*Z5*Z7-Z0*Z3*Z4*Z4*Z5*Z6-Z0*Z3*Z5*Z5*Z5+Z0*Z3*Z5+Z1*Z1*Z1*Z2*Z2*Z3*Z4*Z5*Z5*Z7+Z1*Z1*Z1*Z2*Z3*Z3*Z4*Z4*Z5*Z7-Z1*Z1*Z1*Z2*Z4*Z4*Z5*Z5*Z5*Z7+Z1*Z1*Z1*Z2*Z4*Z4*Z5*Z6+Z1*Z1*Z1*Z2*Z5*Z5*Z5-Z1*Z1*Z1*Z2*Z5-Z1*Z1*Z1*Z3*Z4*Z4*Z4*Z5*Z5*Z7+Z1*Z1*Z1*Z3*Z4*Z4*Z4*Z6+Z1*Z1*Z1*Z3*Z4*Z5*Z5-Z1*Z1*Z1*Z3*Z4-Z1*Z2*Z2*Z3*Z4*Z5*Z5*Z7-Z1*Z2*Z3*Z3*Z4*Z4*Z5*Z7+Z1*Z2*Z4*Z4*Z5*Z5*Z5*Z7-Z1*Z2*Z4*Z4*Z5*Z6-Z1*Z2*Z5*Z5*Z5+Z1*Z2*Z5+Z1*Z3*Z4*Z4*Z4*Z5*Z5*Z7-Z1*Z3*Z4*Z4*Z4*Z6-Z1*Z3*Z4*Z5*Z5+Z1*Z3*Z4)
def Rl:RE:=(Z0*Z0*Z0*Z2*Z2*Z2*Z4*Z6*Z6*Z6-Z0*Z0*Z0*Z2*Z2*Z3*Z5*Z6*Z6+Z0*Z0*Z0*Z2*Z3*Z3*Z4*Z6*Z6-Z0*Z0*Z0*Z2*Z4*Z6*Z6-Z0*Z0*Z0*Z3*Z3*Z3*Z5*Z6+Z0*Z0*Z0*Z3*Z5*Z6-Z0*Z0*Z1*Z2*Z2*Z2*Z5*Z6*Z6-Z0*Z0*Z1*Z2*Z2*Z3*Z4*Z6*Z6+Z0*Z0*Z1*Z2*Z2*Z3*Z4*Z6*Z7-Z0*Z0*Z1*Z2*Z3*Z3*Z5*Z6+Z0*Z0*Z1*Z2*Z3*Z3*Z5*Z7+Z0*Z0*Z1*Z2*Z5*Z6-Z0*Z0*Z1*Z3*Z3*Z3*Z4*Z6+Z0*Z0*Z1*Z3*Z4*Z6+Z0*Z1*Z1*Z2*Z2*Z2*Z4*Z6*Z6-Z0*Z1*Z1*Z2*Z2*Z3*Z5*Z6+Z0*Z1*Z1*Z2*Z2*Z3*Z5*Z7+Z0*Z1*Z1*Z2*Z3*Z3*Z4*Z6-Z0*Z1*Z1*Z2*Z3*Z3*Z4*Z7-Z0*Z1*Z1*Z2*Z4*Z6-Z0*Z1*Z1*Z3*Z3*Z3*Z5+Z0*Z1*Z1*Z3*Z5-Z0*Z2*Z2*Z2*Z4*Z6*Z6+Z0*Z2*Z2*Z3*Z5*Z6-Z0*Z2*Z3*Z3*Z4*Z6+Z0*Z2*Z4*Z6+Z0*Z3*Z3*Z3*Z5-Z0*Z3*Z5-Z1*Z1*Z1*Z2*Z2*Z2*Z5*Z6-Z1*Z1*Z1*Z2*Z2*Z3*Z4*Z6-Z1*Z1*Z1*Z2*Z3*Z3*Z5+Z1*Z1*Z1*Z2*Z5-Z1*Z1*Z1*Z3*Z3*Z3*Z4+Z1*Z1*Z1*Z3*Z4+Z1*Z2*Z2*Z2*Z5*Z6+Z1*Z2*Z2*Z3*Z4*Z6+Z1*Z2*Z3*Z3*Z5-Z1*Z2*Z5+Z1*Z3*Z3*Z3*Z4-Z1*Z3*Z4)
def Rk:RE:=(-(Z0*Z2*Z2*Z2*Z2*Z3*Z3*Z3*Z4*Z5*Z5*Z6*Z7*Z7)+Z0*Z2*Z2*Z2*Z2*Z3*Z4*Z5*Z5*Z6*Z6*Z7-Z0*Z2*Z2*Z2*Z3*Z3*Z3*Z3*Z4*Z4*Z5*Z6*Z7*Z7-Z0*Z2*Z2*Z2*Z3*Z3*Z5*Z5*Z5*Z6*Z7+Z0*Z2*Z2*Z2*Z3*Z3*Z5*Z6*Z7-Z0*Z2*Z2*Z3*Z3*Z3*Z4*Z4*Z4*Z6*Z6*Z7+Z0*Z2*Z2*Z3*Z3*Z3*Z4*Z6*Z7+Z0*Z2*Z3*Z3*Z3*Z3*Z4*Z4*Z5*Z6*Z7+Z1*Z2*Z2*Z2*Z2*Z3*Z3*Z3*Z4*Z4*Z5*Z6*Z7*Z7-Z1*Z2*Z2*Z2*Z2*Z3*Z4*Z4*Z5*Z6*Z6*Z7-Z1*Z2*Z2*Z2*Z3*Z3*Z3*Z3*Z4*Z5*Z5*Z7*Z7-Z1*Z2*Z2*Z2*Z3*Z3*Z4*Z4*Z4*Z6*Z6*Z7+Z1*Z2*Z2*Z2*Z3*Z3*Z4*Z6*Z7+Z1*Z2*Z2*Z3*Z3*Z3*Z5*Z5*Z5*Z7-Z1*Z2*Z2*Z3*Z3*Z3*Z5*Z7+Z1*Z2*Z3*Z3*Z3*Z3*Z4*Z5*Z5*Z7)
def Rj:RE:=(-(Z0*Z0*Z0*Z2*Z2*Z3*Z4*Z5*Z5*Z6*Z6*Z7)-Z0*Z0*Z0*Z2*Z3*Z3*Z4*Z4*Z5*Z6*Z6*Z7+Z0*Z0*Z0*Z2*Z4*Z4*Z5*Z5*Z5*Z6*Z6*Z7-Z0*Z0*Z0*Z2*Z4*Z4*Z5*Z6*Z6*Z6-Z0*Z0*Z0*Z2*Z5*Z5*Z5*Z6*Z6+Z0*Z0*Z0*Z2*Z5*Z6*Z6+Z0*Z0*Z0*Z3*Z4*Z4*Z4*Z5*Z5*Z6*Z6*Z7-Z0*Z0*Z0*Z3*Z4*Z4*Z4*Z6*Z6*Z6-Z0*Z0*Z0*Z3*Z4*Z5*Z5*Z6*Z6+Z0*Z0*Z0*Z3*Z4*Z6*Z6-Z0*Z0*Z1*Z2*Z2*Z3*Z4*Z4*Z5*Z5*Z5*Z6*Z7*Z7+Z0*Z0*Z1*Z2*Z2*Z3*Z4*Z4*Z5*Z6*Z6*Z7+Z0*Z0*Z1*Z2*Z3*Z3*Z4*Z4*Z4*Z5*Z5*Z6*Z7*Z7-Z0*Z0*Z1*Z2*Z3*Z3*Z4*Z5*Z5*Z6*Z7+Z0*Z0*Z1*Z2*Z4*Z4*Z4*Z5*Z5*Z6*Z6*Z7-Z0*Z0*Z1*Z2*Z4*Z4*Z4*Z6*Z6*Z6-Z0*Z0*Z1*Z2*Z4*Z5*Z5*Z6*Z6+Z0*Z0*Z1*Z2*Z4*Z6*Z6-Z0*Z0*Z1*Z3*Z4*Z4*Z5*Z5*Z5*Z6*Z7+Z0*Z0*Z1*Z3*Z4*Z4*Z5*Z6*Z6+Z0*Z0*Z1*Z3*Z5*Z5*Z5*Z6-Z0*Z0*Z1*Z3*Z5*Z6+Z0*Z1*Z1*Z2*Z2*Z3*Z4*Z4*Z4*Z5*Z5*Z6*Z7*Z7-Z0*Z1*Z1*Z2*Z2*Z3*Z4*Z5*Z5*Z6*Z7+Z0*Z1*Z1*Z2*Z3*Z3*Z4*Z4*Z5*Z5*Z5*Z7*Z7-Z0*Z1*Z1*Z2*Z3*Z3*Z4*Z4*Z5*Z6*Z7+Z0*Z1*Z1*Z2*Z4*Z4*Z5*Z5*Z5*Z6*Z7-Z0*Z1*Z1*Z2*Z4*Z4*Z5*Z6*Z6-Z0*Z1*Z1*Z2*Z5*Z5*Z5*Z6+Z0*Z1*Z1*Z2*Z5*Z6+Z0*Z1*Z1*Z3*Z4*Z4*Z4*Z5*Z5*Z6*Z7-Z0*Z1*Z1*Z3*Z4*Z4*Z4*Z6*Z6-Z0*Z1*Z1*Z3*Z4*Z5*Z5*Z6+Z0*Z1*Z1*Z3*Z4*Z6+Z0*Z2*Z2*Z3*Z4*Z5*Z5*Z6*Z7+Z0*Z2*Z3*Z3*Z4*Z4*Z5*Z6*Z7-Z0*Z2*Z4*Z4*Z5*Z5*Z5*Z6*Z7+Z0*Z2*Z4*Z4*Z5*Z6*Z6+Z0*Z2*Z5*Z5*Z5*Z6-Z0*Z2*Z5*Z6-Z0*Z3*Z4*Z4*Z4*Z5*Z5*Z6*Z7+Z0*Z3*Z4*Z4*Z4*Z6*Z6+Z0*Z3*Z4*Z5*Z5*Z6-Z0*Z3*Z4*Z6+Z1*Z1*Z1*Z2*Z2*Z3*Z4*Z4*Z5*Z6*Z7-Z1*Z1*Z1*Z2*Z3*Z3*Z4*Z5*Z5*Z7+Z1*Z1*Z1*Z2*Z4*Z4*Z4*Z5*Z5*Z6*Z7-Z1*Z1*Z1*Z2*Z4*Z4*Z4*Z6*Z6-Z1*Z1*Z1*Z2*Z4*Z5*Z5*Z6+Z1*Z1*Z1*Z2*Z4*Z6-Z1*Z1*Z1*Z3*Z4*Z4*Z5*Z5*Z5*Z7+Z1*Z1*Z1*Z3*Z4*Z4*Z5*Z6+Z1*Z1*Z1*Z3*Z5*Z5*Z5-Z1*Z1*Z1*Z3*Z5-Z1*Z2*Z2*Z3*Z4*Z4*Z5*Z6*Z7+Z1*Z2*Z3*Z3*Z4*Z5*Z5*Z7-Z1*Z2*Z4*Z4*Z4*Z5*Z5*Z6*Z7+Z1*Z2*Z4*Z4*Z4*Z6*Z6+Z1*Z2*Z4*Z5*Z5*Z6-Z1*Z2*Z4*Z6+Z1*Z3*Z4*Z4*Z5*Z5*Z5*Z7-Z1*Z3*Z4*Z4*Z5*Z6-Z1*Z3*Z5*Z5*Z5+Z1*Z3*Z5)
def Rh:RE:=(Z0*Z0*Z0*Z2*Z2*Z2*Z5*Z6*Z6*Z6+Z0*Z0*Z0*Z2*Z2*Z3*Z4*Z6*Z6*Z6+Z0*Z0*Z0*Z2*Z3*Z3*Z5*Z6*Z6-Z0*Z0*Z0*Z2*Z5*Z6*Z6+Z0*Z0*Z0*Z3*Z3*Z3*Z4*Z6*Z6-Z0*Z0*Z0*Z3*Z4*Z6*Z6+Z0*Z0*Z1*Z2*Z2*Z2*Z4*Z6*Z6*Z6-Z0*Z0*Z1*Z2*Z2*Z3*Z5*Z6*Z6+Z0*Z0*Z1*Z2*Z2*Z3*Z5*Z6*Z7+Z0*Z0*Z1*Z2*Z3*Z3*Z4*Z6*Z6-Z0*Z0*Z1*Z2*Z3*Z3*Z4*Z6*Z7-Z0*Z0*Z1*Z2*Z4*Z6*Z6-Z0*Z0*Z1*Z3*Z3*Z3*Z5*Z6+Z0*Z0*Z1*Z3*Z5*Z6+Z0*Z1*Z1*Z2*Z2*Z2*Z5*Z6*Z6+Z0*Z1*Z1*Z2*Z2*Z3*Z4*Z6*Z6-Z0*Z1*Z1*Z2*Z2*Z3*Z4*Z6*Z7+Z0*Z1*Z1*Z2*Z3*Z3*Z5*Z6-Z0*Z1*Z1*Z2*Z3*Z3*Z5*Z7-Z0*Z1*Z1*Z2*Z5*Z6+Z0*Z1*Z1*Z3*Z3*Z3*Z4*Z6-Z0*Z1*Z1*Z3*Z4*Z6-Z0*Z2*Z2*Z2*Z5*Z6*Z6-Z0*Z2*Z2*Z3*Z4*Z6*Z6-Z0*Z2*Z3*Z3*Z5*Z6+Z0*Z2*Z5*Z6-Z0*Z3*Z3*Z3*Z4*Z6+Z0*Z3*Z4*Z6+Z1*Z1*Z1*Z2*Z2*Z2*Z4*Z6*Z6-Z1*Z1*Z1*Z2*Z2*Z3*Z5*Z6+Z1*Z1*Z1*Z2*Z3*Z3*Z4*Z6-Z1*Z1*Z1*Z2*Z4*Z6-Z1*Z1*Z1*Z3*Z3*Z3*Z5+Z1*Z1*Z1*Z3*Z5-Z1*Z2*Z2*Z2*Z4*Z6*Z6+Z1*Z2*Z2*Z3*Z5*Z6-Z1*Z2*Z3*Z3*Z4*Z6+Z1*Z2*Z4*Z6+Z1*Z3*Z3*Z3*Z5-Z1*Z3*Z5)
section
variable {R:Type} (K:CR R) (inv:R→R) (a d:R)
def eC (x y:R):Prop:=K.add (K.mul a (K.mul x x)) (K.mul y y)=K.add K.one (K.mul d (K.mul (K.mul x x) (K.mul y y)))
def RJ (x1 y1 x2 y2:R):R:=K.mul d (K.mul (K.mul x1 x2) (K.mul y1 y2))
def DN (x1 y1 x2 y2:R):R:=K.add (K.mul x1 y2) (K.mul y1 x2)
def DO (x1 y1 x2 y2:R):R:=K.sub (K.mul y1 y2) (K.mul a (K.mul x1 x2))
def wS (x1 y1 x2 y2:R):R:=K.add K.one (RJ K d x1 y1 x2 y2)
def uR (x1 y1 x2 y2:R):R:=K.sub K.one (RJ K d x1 y1 x2 y2)
variable {K} {a} {d}
theorem LA {x1 y1 x2 y2:R} (h1:eC K a d x1 y1) (h2:eC K a d x2 y2):K.add (K.mul a (K.mul (K.mul (DN K x1 y1 x2 y2) (uR K d x1 y1 x2 y2)) (K.mul (DN K x1 y1 x2 y2) (uR K d x1 y1 x2 y2)))) (K.mul (K.mul (DO K a x1 y1 x2 y2) (wS K d x1 y1 x2 y2)) (K.mul (DO K a x1 y1 x2 y2) (wS K d x1 y1 x2 y2)))=K.add (K.mul (K.mul (wS K d x1 y1 x2 y2) (uR K d x1 y1 x2 y2)) (K.mul (wS K d x1 y1 x2 y2) (uR K d x1 y1 x2 y2))) (K.mul d (K.mul (K.mul (DN K x1 y1 x2 y2) (DO K a x1 y1 x2 y2)) (K.mul (DN K x1 y1 x2 y2) (DO K a x1 y1 x2 y2)))) :=
 jT (K:=K) (c1:=RE.den K (bL K [x1,y1,x2,y2,K.zero,K.zero,a,d]) Rt) (c2:=RE.den K (bL K [x1,y1,x2,y2,K.zero,K.zero,a,d]) Rs) h1 h2 (aN K (bL K [x1,y1,x2,y2,K.zero,K.zero,a,d]) (Z6*((Z0*Z3+Z1*Z2)*(RE.one-Z7*(Z0*Z2*(Z1*Z3)))*((Z0*Z3+Z1*Z2)*(RE.one-Z7*(Z0*Z2*(Z1*Z3)))))+(Z1*Z3-Z6*(Z0*Z2))*(RE.one+Z7*(Z0*Z2*(Z1*Z3)))*((Z1*Z3-Z6*(Z0*Z2))*(RE.one+Z7*(Z0*Z2*(Z1*Z3))))-((RE.one+Z7*(Z0*Z2*(Z1*Z3)))*(RE.one-Z7*(Z0*Z2*(Z1*Z3)))*((RE.one+Z7*(Z0*Z2*(Z1*Z3)))*(RE.one-Z7*(Z0*Z2*(Z1*Z3))))+Z7*((Z0*Z3+Z1*Z2)*(Z1*Z3-Z6*(Z0*Z2))*((Z0*Z3+Z1*Z2)*(Z1*Z3-Z6*(Z0*Z2)))))) (.add (.mul Rt (Z6*(Z0*Z0)+Z1*Z1-(RE.one+Z7*(Z0*Z0*(Z1*Z1))))) (.mul Rs (Z6*(Z2*Z2)+Z3*Z3-(RE.one+Z7*(Z2*Z2*(Z3*Z3)))))) (by kernel_rfl))
theorem WX {x1 y1 x2 y2 x3 y3:R} (h1:eC K a d x1 y1) (h2:eC K a d x2 y2) (h3:eC K a d x3 y3):K.mul (K.add (K.mul (K.mul (DN K x1 y1 x2 y2) (uR K d x1 y1 x2 y2)) y3) (K.mul (K.mul (DO K a x1 y1 x2 y2) (wS K d x1 y1 x2 y2)) x3)) (K.add (K.mul (wS K d x2 y2 x3 y3) (uR K d x2 y2 x3 y3)) (K.mul d (K.mul (K.mul (DN K x2 y2 x3 y3) (DO K a x2 y2 x3 y3)) (K.mul x1 y1))))=K.mul (K.add (K.mul (K.mul (DN K x2 y2 x3 y3) (uR K d x2 y2 x3 y3)) y1) (K.mul (K.mul (DO K a x2 y2 x3 y3) (wS K d x2 y2 x3 y3)) x1)) (K.add (K.mul (wS K d x1 y1 x2 y2) (uR K d x1 y1 x2 y2)) (K.mul d (K.mul (K.mul (DN K x1 y1 x2 y2) (DO K a x1 y1 x2 y2)) (K.mul x3 y3)))) :=
 pT (K:=K) (c1:=RE.den K (bL K [x1,y1,x2,y2,x3,y3,a,d]) Rq) (c2:=RE.den K (bL K [x1,y1,x2,y2,x3,y3,a,d]) Rm) (c3:=RE.den K (bL K [x1,y1,x2,y2,x3,y3,a,d]) Rl) h1 h2 h3 (aN K (bL K [x1,y1,x2,y2,x3,y3,a,d]) (((Z0*Z3+Z1*Z2)*(RE.one-Z7*(Z0*Z2*(Z1*Z3)))*Z5+(Z1*Z3-Z6*(Z0*Z2))*(RE.one+Z7*(Z0*Z2*(Z1*Z3)))*Z4)*((RE.one+Z7*(Z2*Z4*(Z3*Z5)))*(RE.one-Z7*(Z2*Z4*(Z3*Z5)))+Z7*((Z2*Z5+Z3*Z4)*(Z3*Z5-Z6*(Z2*Z4))*(Z0*Z1)))-((Z2*Z5+Z3*Z4)*(RE.one-Z7*(Z2*Z4*(Z3*Z5)))*Z1+(Z3*Z5-Z6*(Z2*Z4))*(RE.one+Z7*(Z2*Z4*(Z3*Z5)))*Z0)*((RE.one+Z7*(Z0*Z2*(Z1*Z3)))*(RE.one-Z7*(Z0*Z2*(Z1*Z3)))+Z7*((Z0*Z3+Z1*Z2)*(Z1*Z3-Z6*(Z0*Z2))*(Z4*Z5)))) (.add (.add (.mul Rq (Z6*(Z0*Z0)+Z1*Z1-(RE.one+Z7*(Z0*Z0*(Z1*Z1))))) (.mul Rm (Z6*(Z2*Z2)+Z3*Z3-(RE.one+Z7*(Z2*Z2*(Z3*Z3)))))) (.mul Rl (Z6*(Z4*Z4)+Z5*Z5-(RE.one+Z7*(Z4*Z4*(Z5*Z5)))))) (by kernel_rfl))
theorem WW {x1 y1 x2 y2 x3 y3:R} (h1:eC K a d x1 y1) (h2:eC K a d x2 y2) (h3:eC K a d x3 y3):K.mul (K.sub (K.mul (K.mul (DO K a x1 y1 x2 y2) (wS K d x1 y1 x2 y2)) y3) (K.mul a (K.mul (K.mul (DN K x1 y1 x2 y2) (uR K d x1 y1 x2 y2)) x3))) (K.sub (K.mul (wS K d x2 y2 x3 y3) (uR K d x2 y2 x3 y3)) (K.mul d (K.mul (K.mul (DN K x2 y2 x3 y3) (DO K a x2 y2 x3 y3)) (K.mul x1 y1))))=K.mul (K.sub (K.mul (K.mul (DO K a x2 y2 x3 y3) (wS K d x2 y2 x3 y3)) y1) (K.mul a (K.mul (K.mul (DN K x2 y2 x3 y3) (uR K d x2 y2 x3 y3)) x1))) (K.sub (K.mul (wS K d x1 y1 x2 y2) (uR K d x1 y1 x2 y2)) (K.mul d (K.mul (K.mul (DN K x1 y1 x2 y2) (DO K a x1 y1 x2 y2)) (K.mul x3 y3)))) :=
 pT (K:=K) (c1:=RE.den K (bL K [x1,y1,x2,y2,x3,y3,a,d]) Rk) (c2:=RE.den K (bL K [x1,y1,x2,y2,x3,y3,a,d]) Rj) (c3:=RE.den K (bL K [x1,y1,x2,y2,x3,y3,a,d]) Rh) h1 h2 h3 (aN K (bL K [x1,y1,x2,y2,x3,y3,a,d]) (((Z1*Z3-Z6*(Z0*Z2))*(RE.one+Z7*(Z0*Z2*(Z1*Z3)))*Z5-Z6*((Z0*Z3+Z1*Z2)*(RE.one-Z7*(Z0*Z2*(Z1*Z3)))*Z4))*((RE.one+Z7*(Z2*Z4*(Z3*Z5)))*(RE.one-Z7*(Z2*Z4*(Z3*Z5)))-Z7*((Z2*Z5+Z3*Z4)*(Z3*Z5-Z6*(Z2*Z4))*(Z0*Z1)))-((Z3*Z5-Z6*(Z2*Z4))*(RE.one+Z7*(Z2*Z4*(Z3*Z5)))*Z1-Z6*((Z2*Z5+Z3*Z4)*(RE.one-Z7*(Z2*Z4*(Z3*Z5)))*Z0))*((RE.one+Z7*(Z0*Z2*(Z1*Z3)))*(RE.one-Z7*(Z0*Z2*(Z1*Z3)))-Z7*((Z0*Z3+Z1*Z2)*(Z1*Z3-Z6*(Z0*Z2))*(Z4*Z5)))) (.add (.add (.mul Rk (Z6*(Z0*Z0)+Z1*Z1-(RE.one+Z7*(Z0*Z0*(Z1*Z1))))) (.mul Rj (Z6*(Z2*Z2)+Z3*Z3-(RE.one+Z7*(Z2*Z2*(Z3*Z3)))))) (.mul Rh (Z6*(Z4*Z4)+Z5*Z5-(RE.one+Z7*(Z4*Z4*(Z5*Z5)))))) (by kernel_rfl))
theorem Le {n m p q i j:R} (hF:(K.add (K.mul a (K.mul (K.mul n q) (K.mul n q))) (K.mul (K.mul m p) (K.mul m p)))=(K.add (K.mul (K.mul p q) (K.mul p q)) (K.mul d (K.mul (K.mul n m) (K.mul n m))))) (hi:(K.mul p i)=K.one) (hj:(K.mul q j)=K.one):(K.add (K.mul a (K.mul (K.mul n i) (K.mul n i))) (K.mul (K.mul m j) (K.mul m j)))=(K.add K.one (K.mul d (K.mul (K.mul (K.mul n i) (K.mul n i)) (K.mul (K.mul m j) (K.mul m j))))) :=
 pT (K:=K) (c1:=(K.mul (K.mul i j) (K.mul i j))) (c2:=(K.neg (K.mul (K.add (K.mul p i) K.one) (K.sub (K.mul (K.mul m j) (K.mul m j)) K.one)))) (c3:=(K.neg (K.mul (K.add (K.mul q j) K.one) (K.sub (K.mul a (K.mul (K.mul n i) (K.mul n i))) (K.mul (K.mul p i) (K.mul p i)))))) hF hi hj (aN K (bL K [n,m,p,q,i,j,a,d]) (Z6*(Z0*Z4*(Z0*Z4))+Z1*Z5*(Z1*Z5)-(RE.one+Z7*(Z0*Z4*(Z0*Z4)*(Z1*Z5*(Z1*Z5))))) (Z4*Z5*(Z4*Z5)*(Z6*(Z0*Z3*(Z0*Z3))+Z1*Z2*(Z1*Z2)-(Z2*Z3*(Z2*Z3)+Z7*(Z0*Z1*(Z0*Z1))))+(-((Z2*Z4+RE.one)*(Z1*Z5*(Z1*Z5)-RE.one)))*(Z2*Z4-RE.one)+(-((Z3*Z5+RE.one)*(Z6*(Z0*Z4*(Z0*Z4))-Z2*Z4*(Z2*Z4))))*(Z3*Z5-RE.one)) (by kernel_rfl))
theorem RG {n m p q i j x y k:R} (hi:(K.mul p i)=K.one) (hj:(K.mul q j)=K.one) (hk:(K.mul (K.add K.one (K.mul d (K.mul (K.mul (K.mul n i) x) (K.mul (K.mul m j) y)))) k)=K.one):(K.mul (K.mul (K.add (K.mul (K.mul n i) y) (K.mul (K.mul m j) x)) k) (K.add (K.mul p q) (K.mul d (K.mul (K.mul n m) (K.mul x y)))))=(K.add (K.mul (K.mul n q) y) (K.mul (K.mul m p) x)) :=
 pT (K:=K) (c1:=(K.sub (K.mul (K.mul k (K.add (K.mul (K.mul n q) y) (K.mul (K.mul m p) x))) (K.mul q j)) (K.mul (K.mul k (K.add (K.mul p q) (K.mul d (K.mul (K.mul n m) (K.mul x y))))) (K.mul (K.mul m j) x)))) (c2:=(K.sub (K.mul k (K.add (K.mul (K.mul n q) y) (K.mul (K.mul m p) x))) (K.mul (K.mul k (K.add (K.mul p q) (K.mul d (K.mul (K.mul n m) (K.mul x y))))) (K.mul (K.mul n i) y)))) (c3:=(K.add (K.mul (K.mul n q) y) (K.mul (K.mul m p) x))) hi hj hk (aN K (bL K [n,m,p,q,i,j,x,y,k,d]) ((Z0*Z4*Z7+Z1*Z5*Z6)*Z8*(Z2*Z3+Z9*(Z0*Z1*(Z6*Z7)))-(Z0*Z3*Z7+Z1*Z2*Z6)) ((Z8*(Z0*Z3*Z7+Z1*Z2*Z6)*(Z3*Z5)-Z8*(Z2*Z3+Z9*(Z0*Z1*(Z6*Z7)))*(Z1*Z5*Z6))*(Z2*Z4-RE.one)+(Z8*(Z0*Z3*Z7+Z1*Z2*Z6)-Z8*(Z2*Z3+Z9*(Z0*Z1*(Z6*Z7)))*(Z0*Z4*Z7))*(Z3*Z5-RE.one)+(Z0*Z3*Z7+Z1*Z2*Z6)*((RE.one+Z9*(Z0*Z4*Z6*(Z1*Z5*Z7)))*Z8-RE.one)) (by kernel_rfl))
theorem RF {n m p q i j x y k:R} (hi:(K.mul p i)=K.one) (hj:(K.mul q j)=K.one) (hk:(K.mul (K.sub K.one (K.mul d (K.mul (K.mul (K.mul n i) x) (K.mul (K.mul m j) y)))) k)=K.one):(K.mul (K.mul (K.sub (K.mul (K.mul m j) y) (K.mul a (K.mul (K.mul n i) x))) k) (K.sub (K.mul p q) (K.mul d (K.mul (K.mul n m) (K.mul x y)))))=(K.sub (K.mul (K.mul m p) y) (K.mul a (K.mul (K.mul n q) x))) :=
 pT (K:=K) (c1:=(K.sub (K.mul (K.mul k (K.sub (K.mul (K.mul m p) y) (K.mul a (K.mul (K.mul n q) x)))) (K.mul q j)) (K.mul (K.mul k (K.sub (K.mul p q) (K.mul d (K.mul (K.mul n m) (K.mul x y))))) (K.mul (K.mul m j) y)))) (c2:=(K.add (K.mul k (K.sub (K.mul (K.mul m p) y) (K.mul a (K.mul (K.mul n q) x)))) (K.mul (K.mul k (K.sub (K.mul p q) (K.mul d (K.mul (K.mul n m) (K.mul x y))))) (K.mul a (K.mul (K.mul n i) x))))) (c3:=(K.sub (K.mul (K.mul m p) y) (K.mul a (K.mul (K.mul n q) x)))) hi hj hk (aN K (bL K [n,m,p,q,i,j,x,y,k,a,d]) ((Z1*Z5*Z7-Z9*(Z0*Z4*Z6))*Z8*(Z2*Z3-Z10*(Z0*Z1*(Z6*Z7)))-(Z1*Z2*Z7-Z9*(Z0*Z3*Z6))) ((Z8*(Z1*Z2*Z7-Z9*(Z0*Z3*Z6))*(Z3*Z5)-Z8*(Z2*Z3-Z10*(Z0*Z1*(Z6*Z7)))*(Z1*Z5*Z7))*(Z2*Z4-RE.one)+(Z8*(Z1*Z2*Z7-Z9*(Z0*Z3*Z6))+Z8*(Z2*Z3-Z10*(Z0*Z1*(Z6*Z7)))*(Z9*(Z0*Z4*Z6)))*(Z3*Z5-RE.one)+(Z1*Z2*Z7-Z9*(Z0*Z3*Z6))*((RE.one-Z10*(Z0*Z4*Z6*(Z1*Z5*Z7)))*Z8-RE.one)) (by kernel_rfl))
theorem RH {n m p q i j x y:R} (hi:(K.mul p i)=K.one) (hj:(K.mul q j)=K.one):(K.add K.one (K.mul d (K.mul (K.mul (K.mul n i) x) (K.mul (K.mul m j) y))))=(K.mul (K.mul i j) (K.add (K.mul p q) (K.mul d (K.mul (K.mul n m) (K.mul x y))))) :=
 jT (K:=K) (c1:=(K.neg (K.mul q j))) (c2:=(K.neg K.one)) hi hj (aN K (bL K [n,m,p,q,i,j,x,y,d]) (RE.one+Z8*(Z0*Z4*Z6*(Z1*Z5*Z7))-Z4*Z5*(Z2*Z3+Z8*(Z0*Z1*(Z6*Z7)))) ((-(Z3*Z5))*(Z2*Z4-RE.one)+(-RE.one)*(Z3*Z5-RE.one)) (by kernel_rfl))
theorem GP {n m p q i j x y:R} (hi:(K.mul p i)=K.one) (hj:(K.mul q j)=K.one):(K.sub K.one (K.mul d (K.mul (K.mul (K.mul n i) x) (K.mul (K.mul m j) y))))=(K.mul (K.mul i j) (K.sub (K.mul p q) (K.mul d (K.mul (K.mul n m) (K.mul x y))))) :=
 jT (K:=K) (c1:=(K.neg (K.mul q j))) (c2:=(K.neg K.one)) hi hj (aN K (bL K [n,m,p,q,i,j,x,y,d]) (RE.one-Z8*(Z0*Z4*Z6*(Z1*Z5*Z7))-Z4*Z5*(Z2*Z3-Z8*(Z0*Z1*(Z6*Z7)))) ((-(Z3*Z5))*(Z2*Z4-RE.one)+(-RE.one)*(Z3*Z5-RE.one)) (by kernel_rfl))
theorem zW {u v D G N M:R} (h1:(K.mul u D)=N) (h2:(K.mul v G)=M) (h3:(K.mul N G)=(K.mul M D)):(K.mul (K.mul D G) u)=(K.mul (K.mul D G) v) :=
 pT (K:=K) (c1:=G) (c2:=(K.neg D)) (c3:=K.one) h1 h2 h3 (aN K (bL K [u,v,D,G,N,M]) (Z2*Z3*Z0-Z2*Z3*Z1) (Z3*(Z0*Z2-Z4)+(-Z2)*(Z1*Z3-Z5)+RE.one*(Z4*Z3-Z5*Z2)) (by kernel_rfl))
theorem Ld {s x1 y1 x2 y2 e:R} (h1:(K.add (K.mul (K.mul s s) (K.mul x1 x1)) (K.mul y1 y1))=(K.add K.one (K.mul d (K.mul (K.mul x1 x1) (K.mul y1 y1))))) (h2:(K.add (K.mul (K.mul s s) (K.mul x2 x2)) (K.mul y2 y2))=(K.add K.one (K.mul d (K.mul (K.mul x2 x2) (K.mul y2 y2))))) (ht:(K.mul d (K.mul (K.mul x1 x2) (K.mul y1 y2)))=e) (he:(K.mul e e)=K.one):(K.mul (K.add (K.mul s x1) (K.mul e y1)) (K.add (K.mul s x1) (K.mul e y1)))=(K.mul d (K.mul (K.mul (K.mul x1 y1) (K.add (K.mul s x2) y2)) (K.mul (K.mul x1 y1) (K.add (K.mul s x2) y2)))) :=
 ZB (K:=K) (c1:=K.one) (c2:=(K.neg (K.mul d (K.mul (K.mul x1 x1) (K.mul y1 y1))))) (c3:=(K.sub (K.neg (K.add (K.mul d (K.mul (K.mul x1 x2) (K.mul y1 y2))) e)) (K.mul (K.add K.one K.one) (K.mul s (K.mul x1 y1))))) (c4:=(K.sub (K.mul y1 y1) K.one)) h1 h2 ht he (aN K (bL K [s,x1,y1,x2,y2,e,d]) ((Z0*Z1+Z5*Z2)*(Z0*Z1+Z5*Z2)-Z6*(Z1*Z2*(Z0*Z3+Z4)*(Z1*Z2*(Z0*Z3+Z4)))) (RE.one*(Z0*Z0*(Z1*Z1)+Z2*Z2-(RE.one+Z6*(Z1*Z1*(Z2*Z2))))+(-(Z6*(Z1*Z1*(Z2*Z2))))*(Z0*Z0*(Z3*Z3)+Z4*Z4-(RE.one+Z6*(Z3*Z3*(Z4*Z4))))+(-(Z6*(Z1*Z3*(Z2*Z4))+Z5)-(RE.one+RE.one)*(Z0*(Z1*Z2)))*(Z6*(Z1*Z3*(Z2*Z4))-Z5)+(Z2*Z2-RE.one)*(Z5*Z5-RE.one)) (by kernel_rfl))
variable (K) (a) (d)
def DM (x1 y1 x2 y2:R):R:=K.mul (DN K x1 y1 x2 y2) (inv (wS K d x1 y1 x2 y2))
def DL (x1 y1 x2 y2:R):R:=K.mul (DO K a x1 y1 x2 y2) (inv (uR K d x1 y1 x2 y2))
structure ED:Prop where
 F:FD K inv
 two:K.add K.one K.one≠K.zero
 sq:∃s,K.mul s s=a
 ns:∀x,K.mul x x≠d
variable {K} {inv} {a} {d}
theorem ED.v0 (E:ED K inv a d) {s x1 y1 x2 y2 e:R} (hs:K.mul s s=a) (h1:eC K a d x1 y1) (h2:eC K a d x2 y2) (ht:RJ K d x1 y1 x2 y2=e) (he:K.mul e e=K.one) (hw:K.mul x1 y1≠K.zero):K.add (K.mul s x2) y2=K.zero:=by
 subst hs;refine Classical.byContradiction fun hv => ?_
 have h:=Ld h1 h2 ht he;have hk:=E.F.inv _ (E.F.mul_ne hw hv);generalize K.mul (K.mul x1 y1) (K.add (K.mul s x2) y2)=z at h hk;generalize K.add (K.mul s x1) (K.mul e y1)=u at h;generalize inv z=k at hk;refine E.ns (K.mul u k) ?_;exact jT (K:=K) (c1:=(K.mul k k)) (c2:=(K.mul d (K.add (K.mul z k) K.one))) h hk (aN K (bL K [u,k,d,z]) (Z0*Z1*(Z0*Z1)-Z2) (Z1*Z1*(Z0*Z0-Z2*(Z3*Z3))+Z2*(Z3*Z1+RE.one)*(Z3*Z1-RE.one)) (by kernel_rfl))
theorem ED.ne (E:ED K inv a d) {x1 y1 x2 y2 e:R} (h1:eC K a d x1 y1) (h2:eC K a d x2 y2) (ht:RJ K d x1 y1 x2 y2=e) (he:K.mul e e=K.one):False:=by
 obtain⟨s,hs⟩:=E.sq;have e0:e≠K.zero:=fun q=>by
  rw[q,K.zero_mul]at he;exact E.F.ne he.symm
 have hw:K.mul x1 y1≠K.zero:=fun q=>e0 (by
  rw[←ht];exact gE (K:=K) (c1:=(K.mul d (K.mul x2 y2))) q (aN K (bL K [x1,y1,x2,y2,d]) (Z4*(Z0*Z2*(Z1*Z3))-RE.zero) (Z4*(Z2*Z3)*(Z0*Z1-RE.zero)) (by kernel_rfl)))
 have a1:=E.v0 hs h1 h2 ht he hw;have a2:=E.v0 (s:=K.neg s) (by rw[←hs]; exact aN K (bL K [s]) ((-Z0)*(-Z0)) (Z0*Z0) (by kernel_rfl)) h1 h2 ht he hw;have hy:K.mul (K.add K.one K.one) y2=K.zero:=jT (K:=K) (c1:=K.one) (c2:=K.one) a1 a2 (aN K (bL K [s,x2,y2]) ((RE.one+RE.one)*Z2-RE.zero) (RE.one*(Z0*Z1+Z2-RE.zero)+RE.one*((-Z0)*Z1+Z2-RE.zero)) (by kernel_rfl));have hy:=E.F.zd hy E.two;refine e0 ?_;rw[←ht];unfold RJ;rw[hy,K.mul_zero,K.mul_zero,K.mul_zero]
theorem ED.pne (E:ED K inv a d) {x1 y1 x2 y2:R} (h1:eC K a d x1 y1) (h2:eC K a d x2 y2):wS K d x1 y1 x2 y2≠K.zero:=fun q =>
 E.ne (e:=K.neg K.one) h1 h2 (by
  show RJ K d x1 y1 x2 y2=_;unfold wS at q;generalize RJ K d x1 y1 x2 y2=t at q;exact gE (K:=K) (c1:=K.one) q (aN K (bL K [t]) (Z0-(-RE.one)) (RE.one*(RE.one+Z0-RE.zero)) (by kernel_rfl))) (aN K (bL K []) ((-RE.one)*(-RE.one)) .one (by kernel_rfl))
theorem ED.qne (E:ED K inv a d) {x1 y1 x2 y2:R} (h1:eC K a d x1 y1) (h2:eC K a d x2 y2):uR K d x1 y1 x2 y2≠K.zero:=fun q =>
 E.ne (e:=K.one) h1 h2 (by
  show RJ K d x1 y1 x2 y2=_;unfold uR at q;generalize RJ K d x1 y1 x2 y2=t at q;exact gE (K:=K) (c1:=(K.neg K.one)) q (aN K (bL K [t]) (Z0-RE.one) ((-RE.one)*(RE.one-Z0-RE.zero)) (by kernel_rfl))) (K.one_mul _)
theorem ED.ip (E:ED K inv a d) {x1 y1 x2 y2:R} (h1:eC K a d x1 y1) (h2:eC K a d x2 y2):K.mul (wS K d x1 y1 x2 y2) (inv (wS K d x1 y1 x2 y2))=K.one:=E.F.inv _ (E.pne h1 h2)
theorem ED.iq (E:ED K inv a d) {x1 y1 x2 y2:R} (h1:eC K a d x1 y1) (h2:eC K a d x2 y2):K.mul (uR K d x1 y1 x2 y2) (inv (uR K d x1 y1 x2 y2))=K.one:=E.F.inv _ (E.qne h1 h2)
theorem ED.on (E:ED K inv a d) {x1 y1 x2 y2:R} (h1:eC K a d x1 y1) (h2:eC K a d x2 y2):eC K a d (DM K inv d x1 y1 x2 y2) (DL K inv a d x1 y1 x2 y2) :=
 Le (LA h1 h2) (E.ip h1 h2) (E.iq h1 h2)
theorem ED.assX (E:ED K inv a d) {x1 y1 x2 y2 x3 y3:R} (h1:eC K a d x1 y1) (h2:eC K a d x2 y2) (h3:eC K a d x3 y3):DM K inv d (DM K inv d x1 y1 x2 y2) (DL K inv a d x1 y1 x2 y2) x3 y3=DM K inv d (DM K inv d x2 y2 x3 y3) (DL K inv a d x2 y2 x3 y3) x1 y1:=by
 have b1:=E.pne (E.on h1 h2) h3;have b2:=E.pne (E.on h2 h3) h1;have c1:=RG (E.ip h1 h2) (E.iq h1 h2) (E.ip (E.on h1 h2) h3);have c2:=RG (E.ip h2 h3) (E.iq h2 h3) (E.ip (E.on h2 h3) h1);refine E.F.cancel (E.F.mul_ne (fun z=>b1 ?_) fun z=>b2 ?_) (zW c1 c2 (WX h1 h2 h3))
 ·refine (RH (E.ip h1 h2) (E.iq h1 h2)).trans ?_;rw[z,K.mul_zero]
 ·refine (RH (E.ip h2 h3) (E.iq h2 h3)).trans ?_;rw[z,K.mul_zero]
theorem ED.assY (E:ED K inv a d) {x1 y1 x2 y2 x3 y3:R} (h1:eC K a d x1 y1) (h2:eC K a d x2 y2) (h3:eC K a d x3 y3):DL K inv a d (DM K inv d x1 y1 x2 y2) (DL K inv a d x1 y1 x2 y2) x3 y3=DL K inv a d (DM K inv d x2 y2 x3 y3) (DL K inv a d x2 y2 x3 y3) x1 y1:=by
 have b1:=E.qne (E.on h1 h2) h3;have b2:=E.qne (E.on h2 h3) h1;have c1:=RF (a:=a) (E.ip h1 h2) (E.iq h1 h2) (E.iq (E.on h1 h2) h3);have c2:=RF (a:=a) (E.ip h2 h3) (E.iq h2 h3) (E.iq (E.on h2 h3) h1);refine E.F.cancel (E.F.mul_ne (fun z=>b1 ?_) fun z=>b2 ?_) (zW c1 c2 (WW h1 h2 h3))
 ·refine (GP (E.ip h1 h2) (E.iq h1 h2)).trans ?_;rw[z,K.mul_zero]
 ·refine (GP (E.ip h2 h3) (E.iq h2 h3)).trans ?_;rw[z,K.mul_zero]
theorem ED.comX (x1 y1 x2 y2:R):DM K inv d x1 y1 x2 y2=DM K inv d x2 y2 x1 y1:=by
 unfold DM DN wS RJ;rw[K.mul_comm x1 x2,K.mul_comm y1 y2,K.add_comm (K.mul x1 y2),K.mul_comm y1 x2,K.mul_comm x1 y2]
theorem ED.comY (x1 y1 x2 y2:R):DL K inv a d x1 y1 x2 y2=DL K inv a d x2 y2 x1 y1:=by
 unfold DL DO uR RJ;rw[K.mul_comm x1 x2,K.mul_comm y1 y2]
theorem ED.i1 (E:ED K inv a d):inv K.one=K.one:=by
 have:=E.F.inv K.one E.F.ne
 rwa [K.one_mul]at this
theorem Em:eC K a d K.zero K.one:=by
 show K.add (K.mul a (K.mul K.zero K.zero)) (K.mul K.one K.one)=K.add K.one (K.mul d (K.mul (K.mul K.zero K.zero) (K.mul K.one K.one)));exact aN K (bL K [a,d]) (Z0*(RE.zero*RE.zero)+RE.one*RE.one) (RE.one+Z1*(RE.zero*RE.zero*(RE.one*RE.one))) (by kernel_rfl)
theorem RD {x y:R} (h:eC K a d x y):eC K a d (K.neg x) y:=by
 show K.add (K.mul a (K.mul (K.neg x) (K.neg x))) (K.mul y y)=K.add K.one (K.mul d (K.mul (K.mul (K.neg x) (K.neg x)) (K.mul y y)));have e:K.mul (K.neg x) (K.neg x)=K.mul x x:=aN K (bL K [x]) ((-Z0)*(-Z0)) (Z0*Z0) (by kernel_rfl);rw[e];exact h
theorem ED.zX (E:ED K inv a d) (x y:R):DM K inv d K.zero K.one x y=x:=by
 have e1:wS K d K.zero K.one x y=K.one:=aN K (bL K [x,y,d]) (RE.one+Z2*(RE.zero*Z0*(RE.one*Z1))) .one (by kernel_rfl);unfold DM;rw[e1,E.i1];exact aN K (bL K [x,y]) ((RE.zero*Z1+RE.one*Z0)*RE.one) (.v 0) (by kernel_rfl)
theorem ED.zY (E:ED K inv a d) (x y:R):DL K inv a d K.zero K.one x y=y:=by
 have e1:uR K d K.zero K.one x y=K.one:=aN K (bL K [x,y,d]) (RE.one-Z2*(RE.zero*Z0*(RE.one*Z1))) .one (by kernel_rfl);unfold DL;rw[e1,E.i1];exact aN K (bL K [x,y,a]) ((RE.one*Z1-Z2*(RE.zero*Z0))*RE.one) (.v 1) (by kernel_rfl)
theorem ED.nX (E:ED K inv a d) (x y:R):DM K inv d (K.neg x) y x y=K.zero:=by
 have e1:DN K (K.neg x) y x y=K.zero:=aN K (bL K [x,y]) ((-Z0)*Z1+Z1*Z0) .zero (by kernel_rfl);unfold DM;rw[e1,K.zero_mul]
theorem ED.nY (E:ED K inv a d) {x y:R} (h:eC K a d x y):DL K inv a d (K.neg x) y x y=K.one:=by
 have e1:DO K a (K.neg x) y x y=uR K d (K.neg x) y x y:=gE (K:=K) (c1:=K.one) h (aN K (bL K [x,y,a,d]) (Z1*Z1-Z2*((-Z0)*Z0)-(RE.one-Z3*((-Z0)*Z0*(Z1*Z1)))) (RE.one*(Z2*(Z0*Z0)+Z1*Z1-(RE.one+Z3*(Z0*Z0*(Z1*Z1))))) (by kernel_rfl));unfold DL;rw[e1];exact E.iq (RD h) h
variable (K) (a) (d)
abbrev EM:={p:R×R // eC K a d p.1 p.2}
variable {K} {a} {d}
def ED.grp (E:ED K inv a d):AG (EM K a d) where
 add p q:=⟨(DM K inv d p.1.1 p.1.2 q.1.1 q.1.2,DL K inv a d p.1.1 p.1.2 q.1.1 q.1.2),E.on p.2 q.2⟩
 neg p:=⟨(K.neg p.1.1,p.1.2),RD p.2⟩
 zero:=⟨(K.zero,K.one),Em⟩
 assoc p q r:=Subtype.ext (Prod.ext ((E.assX p.2 q.2 r.2).trans (ED.comX _ _ _ _)) ((E.assY p.2 q.2 r.2).trans (ED.comY _ _ _ _)))
 comm p q:=Subtype.ext (Prod.ext (ED.comX _ _ _ _) (ED.comY _ _ _ _))
 zadd p:=Subtype.ext (Prod.ext (E.zX _ _) (E.zY _ _))
 nadd p:=Subtype.ext (Prod.ext (E.nX _ _) (E.nY p.2))
end
section
variable {R:Type} {K:CR R} {inv:R→R} {a d:R}
theorem Sb (x y z u v w d:R)  : (K.mul (K.sub (K.mul (K.mul z w) (K.mul z w)) (K.mul d (K.mul (K.mul (K.mul x z) (K.mul u w)) (K.mul (K.mul y z) (K.mul v w))))) (K.add (K.mul (K.mul z w) (K.mul z w)) (K.mul d (K.mul (K.mul (K.mul x z) (K.mul u w)) (K.mul (K.mul y z) (K.mul v w))))))=(K.mul (K.mul (K.mul z w) (K.mul z w)) (K.mul (K.mul (K.mul z w) (K.mul z w)) (K.mul (K.sub K.one (K.mul d (K.mul (K.mul x u) (K.mul y v)))) (K.add K.one (K.mul d (K.mul (K.mul x u) (K.mul y v))))))) :=
 aN K (bL K [x,y,z,u,v,w,d]) ((Z2*Z5*(Z2*Z5)-Z6*(Z0*Z2*(Z3*Z5)*(Z1*Z2*(Z4*Z5))))*(Z2*Z5*(Z2*Z5)+Z6*(Z0*Z2*(Z3*Z5)*(Z1*Z2*(Z4*Z5))))) (Z2*Z5*(Z2*Z5)*(Z2*Z5*(Z2*Z5)*((RE.one-Z6*(Z0*Z3*(Z1*Z4)))*(RE.one+Z6*(Z0*Z3*(Z1*Z4)))))) (by kernel_rfl)
theorem Sd (x y z u v w d i:R) (hi:(K.mul (K.add K.one (K.mul d (K.mul (K.mul x u) (K.mul y v)))) i)=K.one):(K.mul (K.mul (K.mul z w) (K.sub (K.mul (K.mul z w) (K.mul z w)) (K.mul d (K.mul (K.mul (K.mul x z) (K.mul u w)) (K.mul (K.mul y z) (K.mul v w)))))) (K.sub (K.sub (K.mul (K.add (K.mul x z) (K.mul y z)) (K.add (K.mul u w) (K.mul v w))) (K.mul (K.mul x z) (K.mul u w))) (K.mul (K.mul y z) (K.mul v w))))=(K.mul (K.mul (K.add (K.mul x v) (K.mul y u)) i) (K.mul (K.sub (K.mul (K.mul z w) (K.mul z w)) (K.mul d (K.mul (K.mul (K.mul x z) (K.mul u w)) (K.mul (K.mul y z) (K.mul v w))))) (K.add (K.mul (K.mul z w) (K.mul z w)) (K.mul d (K.mul (K.mul (K.mul x z) (K.mul u w)) (K.mul (K.mul y z) (K.mul v w))))))) :=
 gE (K:=K) (c1:=(K.neg (K.mul (K.add (K.mul x v) (K.mul y u)) (K.mul (K.mul (K.mul z w) (K.mul z w)) (K.mul (K.mul (K.mul z w) (K.mul z w)) (K.sub K.one (K.mul d (K.mul (K.mul x u) (K.mul y v))))))))) hi (aN K (bL K [x,y,z,u,v,w,d,i]) (Z2*Z5*(Z2*Z5*(Z2*Z5)-Z6*(Z0*Z2*(Z3*Z5)*(Z1*Z2*(Z4*Z5))))*((Z0*Z2+Z1*Z2)*(Z3*Z5+Z4*Z5)-Z0*Z2*(Z3*Z5)-Z1*Z2*(Z4*Z5))-(Z0*Z4+Z1*Z3)*Z7*((Z2*Z5*(Z2*Z5)-Z6*(Z0*Z2*(Z3*Z5)*(Z1*Z2*(Z4*Z5))))*(Z2*Z5*(Z2*Z5)+Z6*(Z0*Z2*(Z3*Z5)*(Z1*Z2*(Z4*Z5)))))) ((-((Z0*Z4+Z1*Z3)*(Z2*Z5*(Z2*Z5)*(Z2*Z5*(Z2*Z5)*(RE.one-Z6*(Z0*Z3*(Z1*Z4)))))))*((RE.one+Z6*(Z0*Z3*(Z1*Z4)))*Z7-RE.one)) (by kernel_rfl))
theorem Sc (x y z u v w a d j:R) (hj:(K.mul (K.sub K.one (K.mul d (K.mul (K.mul x u) (K.mul y v)))) j)=K.one):(K.mul (K.mul (K.mul z w) (K.add (K.mul (K.mul z w) (K.mul z w)) (K.mul d (K.mul (K.mul (K.mul x z) (K.mul u w)) (K.mul (K.mul y z) (K.mul v w)))))) (K.sub (K.mul (K.mul y z) (K.mul v w)) (K.mul a (K.mul (K.mul x z) (K.mul u w)))))=(K.mul (K.mul (K.sub (K.mul y v) (K.mul a (K.mul x u))) j) (K.mul (K.sub (K.mul (K.mul z w) (K.mul z w)) (K.mul d (K.mul (K.mul (K.mul x z) (K.mul u w)) (K.mul (K.mul y z) (K.mul v w))))) (K.add (K.mul (K.mul z w) (K.mul z w)) (K.mul d (K.mul (K.mul (K.mul x z) (K.mul u w)) (K.mul (K.mul y z) (K.mul v w))))))) :=
 gE (K:=K) (c1:=(K.neg (K.mul (K.sub (K.mul y v) (K.mul a (K.mul x u))) (K.mul (K.mul (K.mul z w) (K.mul z w)) (K.mul (K.mul (K.mul z w) (K.mul z w)) (K.add K.one (K.mul d (K.mul (K.mul x u) (K.mul y v))))))))) hj (aN K (bL K [x,y,z,u,v,w,a,d,j]) (Z2*Z5*(Z2*Z5*(Z2*Z5)+Z7*(Z0*Z2*(Z3*Z5)*(Z1*Z2*(Z4*Z5))))*(Z1*Z2*(Z4*Z5)-Z6*(Z0*Z2*(Z3*Z5)))-(Z1*Z4-Z6*(Z0*Z3))*Z8*((Z2*Z5*(Z2*Z5)-Z7*(Z0*Z2*(Z3*Z5)*(Z1*Z2*(Z4*Z5))))*(Z2*Z5*(Z2*Z5)+Z7*(Z0*Z2*(Z3*Z5)*(Z1*Z2*(Z4*Z5)))))) ((-((Z1*Z4-Z6*(Z0*Z3))*(Z2*Z5*(Z2*Z5)*(Z2*Z5*(Z2*Z5)*(RE.one+Z7*(Z0*Z3*(Z1*Z4)))))))*((RE.one-Z7*(Z0*Z3*(Z1*Z4)))*Z8-RE.one)) (by kernel_rfl))
theorem Sg (x y z a d:R) (he:(K.add (K.mul a (K.mul x x)) (K.mul y y))=(K.add K.one (K.mul d (K.mul (K.mul x x) (K.mul y y))))):(K.add (K.mul a (K.mul (K.mul x z) (K.mul x z))) (K.mul (K.mul y z) (K.mul y z)))=(K.mul (K.mul z z) (K.add K.one (K.mul d (K.mul (K.mul x x) (K.mul y y))))) :=
 gE (K:=K) (c1:=(K.mul z z)) he (aN K (bL K [x,y,z,a,d]) (Z3*(Z0*Z2*(Z0*Z2))+Z1*Z2*(Z1*Z2)-Z2*Z2*(RE.one+Z4*(Z0*Z0*(Z1*Z1)))) (Z2*Z2*(Z3*(Z0*Z0)+Z1*Z1-(RE.one+Z4*(Z0*Z0*(Z1*Z1))))) (by kernel_rfl))
theorem Sh (x y z a d:R) (he:(K.add (K.mul a (K.mul x x)) (K.mul y y))=(K.add K.one (K.mul d (K.mul (K.mul x x) (K.mul y y))))):(K.sub (K.add (K.mul z z) (K.mul z z)) (K.add (K.mul a (K.mul (K.mul x z) (K.mul x z))) (K.mul (K.mul y z) (K.mul y z))))=(K.mul (K.mul z z) (K.sub K.one (K.mul d (K.mul (K.mul x x) (K.mul y y))))) :=
 gE (K:=K) (c1:=(K.neg (K.mul z z))) he (aN K (bL K [x,y,z,a,d]) (Z2*Z2+Z2*Z2-(Z3*(Z0*Z2*(Z0*Z2))+Z1*Z2*(Z1*Z2))-Z2*Z2*(RE.one-Z4*(Z0*Z0*(Z1*Z1)))) ((-(Z2*Z2))*(Z3*(Z0*Z0)+Z1*Z1-(RE.one+Z4*(Z0*Z0*(Z1*Z1))))) (by kernel_rfl))
theorem Sj (x y z:R)  : (K.sub (K.sub (K.mul (K.add (K.mul x z) (K.mul y z)) (K.add (K.mul x z) (K.mul y z))) (K.mul (K.mul x z) (K.mul x z))) (K.mul (K.mul y z) (K.mul y z)))=(K.mul (K.mul z z) (K.add (K.mul x y) (K.mul y x))) :=
 aN K (bL K [x,y,z]) ((Z0*Z2+Z1*Z2)*(Z0*Z2+Z1*Z2)-Z0*Z2*(Z0*Z2)-Z1*Z2*(Z1*Z2)) (Z2*Z2*(Z0*Z1+Z1*Z0)) (by kernel_rfl)
theorem Si (x y z a:R)  : (K.sub (K.mul (K.mul y z) (K.mul y z)) (K.mul a (K.mul (K.mul x z) (K.mul x z))))=(K.mul (K.mul z z) (K.sub (K.mul y y) (K.mul a (K.mul x x)))) :=
 aN K (bL K [x,y,z,a]) (Z1*Z2*(Z1*Z2)-Z3*(Z0*Z2*(Z0*Z2))) (Z2*Z2*(Z1*Z1-Z3*(Z0*Z0))) (by kernel_rfl)
theorem Sf (n q p i s:R) (hi:(K.mul p i)=K.one):(K.mul (K.mul s n) (K.mul s q))=(K.mul (K.mul n i) (K.mul (K.mul s p) (K.mul s q))) :=
 gE (K:=K) (c1:=(K.neg (K.mul n (K.mul s (K.mul s q))))) hi (aN K (bL K [n,q,p,i,s]) (Z4*Z0*(Z4*Z1)-Z0*Z3*(Z4*Z2*(Z4*Z1))) ((-(Z0*(Z4*(Z4*Z1))))*(Z2*Z3-RE.one)) (by kernel_rfl))
theorem Se (m q p j s:R) (hj:(K.mul q j)=K.one):(K.mul (K.mul s p) (K.mul s m))=(K.mul (K.mul m j) (K.mul (K.mul s p) (K.mul s q))) :=
 gE (K:=K) (c1:=(K.neg (K.mul m (K.mul s (K.mul s p))))) hj (aN K (bL K [m,q,p,j,s]) (Z4*Z2*(Z4*Z0)-Z0*Z3*(Z4*Z2*(Z4*Z1))) ((-(Z0*(Z4*(Z4*Z2))))*(Z1*Z3-RE.one)) (by kernel_rfl))
variable (K) (a) (d)
def zZ (p q:R×R×R):R×R×R :=
 let z:=K.mul p.2.2 q.2.2
 let x:=K.mul p.1 q.1
 let y:=K.mul p.2.1 q.2.1
 let both:=K.mul d (K.mul x y)
 let square:=K.mul z z
 let more:=K.add square both
 let less:=K.sub square both
 let across:=K.sub (K.sub (K.mul (K.add p.1 p.2.1) (K.add q.1 q.2.1)) x) y
 (K.mul (K.mul z less) across,K.mul (K.mul z more) (K.sub y (K.mul a x)),K.mul less more)
def AA (p:R×R×R):R×R×R :=
 let x:=K.mul p.1 p.1
 let y:=K.mul p.2.1 p.2.1
 let z:=K.mul p.2.2 p.2.2
 let across:=K.sub (K.sub (K.mul (K.add p.1 p.2.1) (K.add p.1 p.2.1)) x) y
 let ax:=K.mul a x
 let more:=K.add ax y
 let less:=K.sub (K.add z z) more
 (K.mul across less,K.mul more (K.sub y ax),K.mul more less)
def mB (p:R×R×R) (P:EM K a d):Prop:=p.1=K.mul P.1.1 p.2.2∧p.2.1=K.mul P.1.2 p.2.2∧p.2.2≠K.zero
variable {K} {a} {d}
theorem ED.sum (E:ED K inv a d) {p q:R×R×R} {P Q:EM K a d} (hp:mB K a d p P) (hq:mB K a d q Q):mB K a d (zZ K a d p q) (E.grp.add P Q):=by
 obtain⟨⟨x,y⟩,h1⟩:=P;obtain⟨⟨u,v⟩,h2⟩:=Q;obtain⟨X,Y,z⟩:=p;obtain⟨U,V,w⟩:=q;obtain⟨rfl,rfl,hz⟩:X=K.mul x z∧Y=K.mul y z∧z≠K.zero:=hp;obtain⟨rfl,rfl,hw⟩:U=K.mul u w∧V=K.mul v w∧w≠K.zero:=hq;have hs:=E.F.mul_ne (E.F.mul_ne hz hw) (E.F.mul_ne hz hw);refine⟨Sd x y z u v w d _ (E.ip h1 h2),Sc x y z u v w a d _ (E.iq h1 h2),?_⟩;intro e;exact E.F.mul_ne hs (E.F.mul_ne hs (E.F.mul_ne (E.qne h1 h2) (E.pne h1 h2))) ((Sb x y z u v w d).symm.trans e)
theorem ED.dbl (E:ED K inv a d) {p:R×R×R} {P:EM K a d} (hp:mB K a d p P):mB K a d (AA K a p) (E.grp.add P P):=by
 obtain⟨⟨x,y⟩,h1⟩:=P;obtain⟨X,Y,z⟩:=p;obtain⟨rfl,rfl,hz⟩:X=K.mul x z∧Y=K.mul y z∧z≠K.zero:=hp;have hs:=E.F.mul_ne hz hz;have eM:=Sg x y z a d h1;have eL:=Sh x y z a d h1;have eA:=Sj (K:=K) x y z;have eB:=Si (K:=K) x y z a;show K.mul _ _=K.mul _ (K.mul _ _)∧K.mul _ _=K.mul _ (K.mul _ _)∧K.mul _ _≠K.zero;simp only[];rw[eL,eM,eA,eB];refine⟨Sf _ _ _ _ _ (E.ip h1 h1),Se _ _ _ _ _ (E.iq h1 h1),?_⟩;exact E.F.mul_ne (E.F.mul_ne hs (E.pne h1 h1)) (E.F.mul_ne hs (E.qne h1 h1))
theorem ED.told (E:ED K inv a d) {p:R×R×R} {P:EM K a d} (hp:mB K a d p P):K.mul p.1 (inv p.2.2)=P.1.1∧K.mul p.2.1 (inv p.2.2)=P.1.2:=by
 obtain⟨h1,h2,h3⟩:=hp;rw[h1,h2,K.mul_assoc,K.mul_assoc,E.F.inv _ h3,K.mul_one,K.mul_one];exact⟨rfl,rfl⟩
theorem ED.rep1 (E:ED K inv a d) (P:EM K a d):mB K a d (P.1.1,P.1.2,K.one) P:=⟨(K.mul_one _).symm,(K.mul_one _).symm,E.F.ne⟩
end
open Go.RowKit
def fm (n:Nat):Fq:=⟨n%FP.M,Nat.mod_lt _ cP⟩
abbrev Q2:=Fq×Fq
abbrev Q6:=Q2×Q2×Q2
abbrev St:=Q6×Q6
def e1 (x:Fq):List At:=[.f x]
def e2 (x:Q2):List At:=[.f x.1,.f x.2]
def e6 (x:Q6):List At:=[.f x.1.1,.f x.1.2,.f x.2.1.1,.f x.2.1.2,.f x.2.2.1,.f x.2.2.2]
def Sr (x:St):List At:=[.f x.1.1.1,.f x.1.1.2,.f x.1.2.1.1,.f x.1.2.1.2,.f x.1.2.2.1,.f x.1.2.2.2,.f x.2.1.1,.f x.2.1.2,.f x.2.2.1.1,.f x.2.2.1.2,.f x.2.2.2.1,.f x.2.2.2.2]
abbrev N2:=Nat×Nat
def q1 (x:Nat):List At:=[.q x]
def q2 (x:N2):List At:=[.q x.1,.q x.2]
def Pi:At→Option Nat
 | .f x=>some x.1
 | .q x=>some x
 | .c _=>none
def CO:List At→Option (List Nat)
 | []=>some []
 | a::r=>match Pi a,CO r with|some x,some l=>some (x::l)|_,_=>none
def lX (l:List At):Option Nat:=match CO l with|some [a]=>some a|_=>none
def IX (l:List At):Option N2:=match CO l with|some [a,b]=>some (a,b)|_=>none
def wv (x:Nat):Nat:=aA (fw x 0) (fw x 1) (fw x 2) (fw x 3)
def m1 (x:Nat):Fq:=fm (wv x)
def m2 (x:N2):Q2:=(m1 x.1,m1 x.2)
def Rd {α:Type} (rd:List At→Option α) (en:α→List At):Prop:=∀l x,rd l=some x→aD l=aD (en x)
theorem nL:∀{l:List At} {m:List Nat},CO l=some m→aD l=aD (m.map .q)
 | [],m,h=>by cases h; rfl
 | a::r,m,h=>by
  unfold CO at h;split at h
  ·rename_i x l' h1 h2;cases h;show a.cells++aD r=w4 x++aD (l'.map .q);rw[nL h2];cases a<;>cases h1<;>rfl
  ·cases h
theorem bZ:Rd lX q1:=fun l x h=>by
 unfold lX at h;split at h
 ·rename_i hn; cases h; rw[nL hn]; rfl
 ·cases h
theorem fX:Rd IX q2:=fun l x h=>by
 unfold IX at h;split at h
 ·rename_i hn; cases h; rw[nL hn]; rfl
 ·cases h
abbrev gH:=List CA→Option (List Prop×RV)
def g0 (r:RV):gH
 | []=>some ([],r)
 | _=>none
def g1 {α:Type} (rd:List At→Option α) (op:α→List Prop×RV):gH
 | [.v (.fl l)]=>match rd l with|some x=>some (op x)|none=>none
 | _=>none
def g2 {α γ:Type} (rd:List At→Option α) (rd':List At→Option γ) (op:α→γ→List Prop×RV):gH
 | [.v (.fl l),.v (.fl m)]=>match rd l,rd' m with|some x,some y=>some (op x y)|_,_=>none
 | _=>none
def bE (P:Program) (f:FuncId) (r:RV) (args:List Value) (w:World):Prop:=Calls P f args.toArray w (fun e w'=>e=.returned r.den∧Below w.heap.size w w')
theorem pO {P:Program} {f:FuncId} {r:RV} (h:∀w,bE P f r [] w):∀cs pre r',g0 r cs=some (pre,r')→aP pre→∀(args:List Value) (w:World),cE w cs args→bE P f r' args w:=by
 intro cs pre r' hg hp args w ha;unfold g0 at hg;split at hg
 ·cases hg;cases args with
  | nil=>exact h w
  | cons _ _=>exact ha.elim
 ·cases hg
theorem gO {P:Program} {f:FuncId} {α:Type} {rd:List At→Option α} {en:α→List At} (hr:Rd rd en) {op:α→List Prop×RV} (h:∀x,aP (op x).1→∀args w,cE w [.v (.fl (en x))] args→bE P f (op x).2 args w) :
  ∀cs pre r,g1 rd op cs=some (pre,r)→aP pre→∀(args:List Value) (w:World),cE w cs args→bE P f r args w:=by
 intro cs pre r hg hp args w ha;unfold g1 at hg;split at hg
 ·rename_i l;split at hg
  ·rename_i x hx;have e:op x=(pre,r):=by simpa using hg
   have:=h x (by rw[e]; exact hp) args w (by
    cases args with
    | nil=>exact ha.elim
    | cons v vs =>
     refine⟨?_,ha.2⟩;show v=.agg (aD (en x)).toArray;rw[←hr l x hx];exact ha.1)
   rw[e]at this;exact this
  ·cases hg
 ·cases hg
theorem zP {P:Program} {f:FuncId} {α γ:Type} {rd:List At→Option α} {en:α→List At} {rd':List At→Option γ} {en':γ→List At} (hr:Rd rd en) (hr':Rd rd' en') {op:α→γ→List Prop×RV}
  (h:∀x y,aP (op x y).1→∀args w,cE w [.v (.fl (en x)),.v (.fl (en' y))] args→bE P f (op x y).2 args w) :
  ∀cs pre r,g2 rd rd' op cs=some (pre,r)→aP pre→∀(args:List Value) (w:World),cE w cs args→bE P f r args w:=by
 intro cs pre r hg hp args w ha;unfold g2 at hg;split at hg
 ·rename_i l m;split at hg
  ·rename_i x y hx hy;have e:op x y=(pre,r):=by simpa using hg
   have:=h x y (by rw[e]; exact hp) args w (by
    cases args with
    | nil=>exact ha.elim
    | cons v vs =>
     cases vs with
     | nil=>exact ha.2.elim
     | cons u us =>
      refine⟨?_,?_,ha.2.2⟩
      ·show v=.agg (aD (en x)).toArray;rw[←hr l x hx];exact ha.1
      ·show u=.agg (aD (en' y)).toArray;rw[←hr' m y hy];exact ha.2.1)
   rw[e]at this;exact this
  ·cases hg
 ·cases hg
theorem aT:prog.follows .mixedOrders=true:=by kernel_rfl
def Ph:Nat→List At→Option (List Fq)
 | 0,_=>some []
 | n+1,.f a::r=>match Ph n r with|some l=>some (a::l)|none=>none
 | _,_=>none
def Ok (P:Program) (base:Nat) (w0:World) (nt:Nat) (c:Code) (A:List Fact) (e:EA) (L:List Fact):Prop :=
 ∃q C f ps,dH P q base w0∧(∀n d,TabOkW P ((C n).T d) base w0)∧bT P q nt C f c A L=some (ps,e,L)∧aP ps
section
variable {P:Program} {nt base:Nat} {w0:World} {Q:Exit→Act→World→Prop}
theorem Ok.wp (hm:P.follows .mixedOrders=true) {c:Code} {A L:List Fact} {e:EA} (h:Ok P base w0 nt c A e L) {a:Act} {w:World} (hA:Holds nt base w0 A a w) (hQ:∀a w,Holds nt base w0 L a w→Q e.out a w):c.wp P Q a w:=by
 obtain⟨q,C,f,ps,h1,h2,h3,h4⟩:=h;exact aF hm h2 h1 h3 h4 hA hQ
theorem PR (hm:P.follows .mixedOrders=true) {c:Code} (A:Nat→List Fact) (N:Nat) (hstep:∀i,i<N→Ok P base w0 nt c (A i) .nrm (A (i+1)))
  (e:EA) (he:e ≠ .nrm) (A':List Fact) (hend:Ok P base w0 nt c (A N) e A')
  {a:Act} {w:World} (hA:Holds nt base w0 (A 0) a w) (hQ:∀a w,Holds nt base w0 A' a w→Q e.out a w):(Code.loop c).wp P Q a w:=by
 have key:∀m i a w,i+m=N→Holds nt base w0 (A i) a w→Un P c Q (m+1) a w:=by
  intro m
  induction m with
  | zero =>
   intro i a w hi hA;have:i=N:=by omega
   subst this;unfold Un;refine hend.wp hm hA fun a w hA1 => ?_
   have:=hQ a w hA1;cases e with
   | nrm=>exact (he rfl).elim
   | ex id=>exact this
   | rt=>exact this
  | succ m ih =>
   intro i a w hi hA;unfold Un;exact (hstep i (by omega)).wp hm hA fun a w hA1=>ih (i+1) a w (by omega) hA1
 exact qU (key N 0 a w (by omega) hA)
end
theorem TabOkW.add {P:Program} {T:Tab} {base:Nat} {w0:World} (hT:TabOkW P T base w0) {f:Nat} {fn:Func} (hf:P.funcs[f]?=some fn) (hn:(fn.name == "runtime.NumGoroutine")=false) (hb:fn.body.isNone=false) {g:List CA→Option (List Prop×RV)}
  (h:∀w,Below base w0 w→∀cs pre r,g cs=some (pre,r)→aP pre→∀(args:List Value),cE w cs args→Calls P f args.toArray w (fun e w'=>e=.returned r.den∧Below w.heap.size w w')):TabOkW P (T.add f g) base w0:=by
 intro w hw f' cs pre r hg hp;unfold Tab.add at hg;cases hb':Nat.beq f' f<;>rw[hb']at hg
 ·exact hT w hw f' cs pre r hg hp
 ·cases Nat.eq_of_beq_eq_true hb';exact⟨fG hf hn hb,h w hw cs pre r hg hp⟩
theorem oldOf.go {base:Nat} {w0 w:World} (hb:Below base w0 w) (hbase:base≤w0.heap.size) {b o:Nat} {l:List At} (h:b<base∧w0.rangeAt b o (aD l)):oldOf w b o l :=
 ⟨Nat.lt_of_lt_of_le h.1 (Nat.le_trans hbase hb.size),fS hb h.1 h.2⟩
def assoc {α:Type}:List (Nat×α)→Nat→Option α
 | [],_=>none
 | (k,v)::r,s=>bif Nat.beq k s then some v else assoc r s
def iI (n:Nat):Value:=.int .i64 (Int.ofNat n)
def jS (b o n m:Nat):Value:=.slice (some ⟨b,o,none⟩) n m
theorem qR {n:Nat} (h:n<9223372036854775808):IntKind.i64.wrap (n:Int)=n:=by rw[IntKind.wrap_i64]; omega
theorem YL {i n:Nat}:bD .lss .i64 (Int.ofNat i) (Int.ofNat n)=some (.bool (decide (i<n))):=by
 show some (Value.bool (decide ((i:Int)<(n:Int))))=_
 by_cases h:i<n
 ·rw[decide_eq_true h,decide_eq_true (by omega)]
 ·rw[decide_eq_false h,decide_eq_false (by omega)]
theorem VH {i n:Nat} (h:i<n):bD .lss .i64 (Int.ofNat i) (Int.ofNat n)=some (.bool true):=by rw[YL,decide_eq_true h]
theorem VI {i n:Nat} (h:n≤i):bD .lss .i64 (Int.ofNat i) (Int.ofNat n)=some (.bool false):=by rw[YL,decide_eq_false (by omega)]
theorem YM {i k:Nat} (h:i+k<9223372036854775808):bD .add .i64 (Int.ofNat i) (Int.ofNat k)=some (iI (i+k)):=by
 show some (Value.int .i64 (IntKind.i64.wrap ((i:Int)+(k:Int))))=_;rw[show (i:Int)+(k:Int)=((i+k:Nat):Int) by omega,qR h];rfl
theorem zA {i k:Nat} (h:k≤i) (hi:i<9223372036854775808):bD .sub .i64 (Int.ofNat i) (Int.ofNat k)=some (iI (i-k)):=by
 show some (Value.int .i64 (IntKind.i64.wrap ((i:Int)-(k:Int))))=_;rw[show (i:Int)-(k:Int)=((i-k:Nat):Int) by omega,qR (by omega)];rfl
theorem Jt {i k:Nat} (h:i*k<9223372036854775808):bD .mul .i64 (Int.ofNat i) (Int.ofNat k)=some (iI (i*k)):=by
 show some (Value.int .i64 (IntKind.i64.wrap ((i:Int)*(k:Int))))=_;rw[show (i:Int)*(k:Int)=((i*k:Nat):Int) by simp,qR h];rfl
theorem Js {i k:Nat} (hk:0<k) (h:i<9223372036854775808):bD .quo .i64 (Int.ofNat i) (Int.ofNat k)=some (iI (i/k)):=by
 show (if (k:Int)=0 then none else some (Value.int .i64 (IntKind.i64.wrap ((i:Int).tdiv (k:Int)))))=_;rw[if_neg (by omega),show (i:Int).tdiv (k:Int)=((i/k:Nat):Int)from rfl,qR (Nat.lt_of_le_of_lt (Nat.div_le_self _ _) h)];rfl
section
variable {E:Env} {ops big:Array Oper} {base:Nat} {w0:World} {A A':List Fact} {TF:List (Option Nat×Fact)} {rs:List Rec} {ps:List Prop} {Q:Exit→Act→World→Prop}
theorem xM {off:Nat} {R:List Nat} (hT:∀d,TabOkW E.P (E.T d) base w0) (hq:dH E.P E.q base w0) (hrun:tG E false ops ops.toList 0 (A.map fun φ=>(none,φ)) [] []=some (ps,TF,rs)) (hps:aP ps) (hchk:Fb false ops rs=true)
  (hsub:∀i,i<ops.size→big[off+i]?=ops[i]?) (hg:∀(i:Nat) (o:Oper),ops[i]?=some o→o.guard=none)
  (hQ:∀a w,Inv E false ops base w0 TF rs (fun i=>i<ops.size) a w→wpOps E.P big Q R a w) :
  ∀(m k:Nat) (a:Act) (w:World),k+m=ops.size→Inv E false ops base w0 TF rs (fun i=>i<k) a w→wpOps E.P big Q (List.range' (off+k) m++R) a w
 | 0,k,a,w,hk,hI=>by
  have:k=ops.size:=by omega
  subst this;exact hQ a w hI
 | m+1,k,a,w,hk,hI=>by
  have hlt:k<ops.size:=by omega
  have ho:ops[k]?=some ops[k]:=Array.getElem?_eq_getElem hlt;have hst:=rC hT hq hrun hps hchk (Q:=Q) hI ho (Nat.lt_irrefl k) (fun j hj=>by unfold RO at hj; simpa using hj);have hgk:=hg k _ ho;have hw1:∀y,Region.wanted ops[k] y=true:=fun y=>by unfold Region.wanted; rw[hgk]
  rw[if_pos (hw1 _)]at hst;simp only[List.range'_succ,List.cons_append,wpOps];rw[hsub k hlt,ho];simp only;have hnext:∀a' w',Inv E false ops base w0 TF rs (fun j=>j=k∨j<k) a' w'→wpOps E.P big Q (List.range' (off+k+1) m++R) a' w':=fun a' w' h=>by
   have:=xM hT hq hrun hps hchk hsub hg hQ m (k+1) a' w' (by omega) (by
    have:(fun j=>j<k+1)=fun j=>j=k∨j<k:=funext fun j=>propext (by omega)
    rwa [this])
   rwa [←Nat.add_assoc]at this
  rw[if_pos (hw1 _)];exact Or.inl (Oper.wp_mono hnext hst)
theorem CH {off:Nat} {R:List Nat} (hT:∀d,TabOkW E.P (E.T d) base w0) (hq:dH E.P E.q base w0) (h:JD E false ops A=some (ps,A')) (hps:aP ps)
  (hsub:∀i,i<ops.size→big[off+i]?=ops[i]?) (hg:ops.toList.all (fun o=>o.guard.isNone)=true) {a:Act} {w:World} (hA:Holds E.nt base w0 A a w)
  (hQ:∀a w,Holds E.nt base w0 A' a w→wpOps E.P big Q R a w):wpOps E.P big Q (List.range' off ops.size++R) a w:=by
 unfold JD at h;split at h
 ·rename_i ps' TF rs hrun;cases hc:(Fb false ops rs&&Ka false ops)<;>rw[hc]at h
  ·cases h
  ·cases h;rw[Bool.and_eq_true]at hc;have hg':∀(i:Nat) (o:Oper),ops[i]?=some o→o.guard=none:=fun i o ho=>by
    rw[List.all_eq_true]at hg;have:=hg o (Array.mem_toList_iff.2 (Array.mem_of_getElem? ho));simpa using this
   have:=xM (off:=off) (R:=R) (Q:=Q) hT hq hrun hps hc.1 hsub hg' (fun a w hI=>hQ a w (wR hrun (fun _ h=>h) hI)) ops.size 0 a w (by omega) (by
    have:(fun i=>i<0)=fun _:Nat=>False:=funext fun i=>propext ⟨fun h=>by omega,fun h=>h.elim⟩
    rw[this];exact oH hrun hA)
   rwa [Nat.add_zero]at this
 ·cases h
end
def OA (P:Program) (q:EqT) (nt:Nat) (c:Cfg) (ops:Array Oper) (A K:List Fact):Option (List Prop×List Fact) :=
 match JD (Nr P q nt c) false ops A with
 | some (ps,A1)=>match pick A1 K with|some L=>some (ps,L)|none=>none
 | none=>none
theorem yS {P:Program} {q:EqT} {nt base off:Nat} {c:Cfg} {w0:World} {ops big:Array Oper} {A K L:List Fact} {ps:List Prop} {Q:Exit→Act→World→Prop} {R:List Nat} (hT:∀d,TabOkW P (c.T d) base w0) (hq:dH P q base w0) (h:OA P q nt c ops A K=some (ps,L)) (hps:aP ps)
  (hsub:∀i,i<ops.size→big[off+i]?=ops[i]?) (hg:ops.toList.all (fun o=>o.guard.isNone)=true) {a:Act} {w:World} (hA:Holds nt base w0 A a w)
  (hQ:∀a w,Holds nt base w0 L a w→wpOps P big Q R a w):wpOps P big Q (List.range' off ops.size++R) a w:=by
 unfold OA at h;split at h
 ·rename_i ps' A1 h1;split at h
  ·rename_i L' h2;cases h;exact CH (E:=Nr P q nt c) hT hq h1 hps hsub hg hA fun a w hA1=>hQ a w (hA1.sub (iR h2))
  ·cases h
 ·cases h
theorem pI {P:Program} {q:EqT} {nt base s e:Nat} {c:Cfg} {w0:World} {big:Array Oper} {A K L:List Fact} {ps:List Prop} {Q:Exit→Act→World→Prop} {R:List Nat} (hT:∀d,TabOkW P (c.T d) base w0) (hq:dH P q base w0) (h:OA P q nt c (big.extract s e) A K=some (ps,L)) (hps:aP ps)
  (hg:(big.extract s e).toList.all (fun o=>o.guard.isNone)=true) {a:Act} {w:World} (hA:Holds nt base w0 A a w)
  (hQ:∀a w,Holds nt base w0 L a w→wpOps P big Q R a w):wpOps P big Q (List.range' s (big.extract s e).size++R) a w :=
 yS hT hq h hps (fun i hi=>by
  have hi':i<min e big.size-s:=by simpa using hi
  rw[Array.getElem?_extract,if_pos hi']) hg hA hQ
theorem tN {P:Program} {big:Array Oper} {Q:Exit→Act→World→Prop} {R:List Nat} {i:Nat} {o:Oper} (ho:big[i]?=some o) (hg:o.guard=none) {a:Act} {w:World} (h:o.wp P a w (fun a w=>wpOps P big Q R a w) Q):wpOps P big Q (i::R) a w:=by
 simp only[wpOps];rw[ho];simp only;have hw:∀y,Region.wanted o y=true:=fun y=>by unfold Region.wanted; rw[hg]
 rw[if_pos (hw _)];exact Or.inl h
def rZ:Code→Array Oper
 | .region _ ops _=>ops
 | _ => #[]
section
variable {P:Program} {nt base:Nat} {w0:World} {A:List Fact} {a:Act} {w:World}
theorem Holds.im (h:Holds nt base w0 A a w) {s k o n m b:Nat} (h1:Fact.slot s (.sl k o n m)∈A) (h2:Fact.at k b∈A):Holds nt base w0 (.slot s (.im (jS b o n m))::A) a w:=by
 obtain⟨β,g1,g2,g3⟩:=h.facts;have e1:=g1 _ h1;have e2:=g1 _ h2;simp only[Fact.ok]at e1 e2;have up:∀k1 o1 l1,Fact.row k1 o1 l1∈(Fact.slot s (.im (jS b o n m))::A)→Fact.row k1 o1 l1∈A:=fun k1 o1 l1 e=>by
  rcases List.mem_cons.1 e with e|e
  ·cases e
  ·exact e
 refine⟨h.defers,h.size,h.below,h.heap,β,fun φ hφ => ?_,fun k1 k2 o2 l1 l2 q1 q2=>g2 k1 k2 o2 l1 l2 (up _ _ _ q1) (up _ _ _ q2),fun k1 l1 e=>g3.1 k1 l1 (up _ _ _ e),g3.2⟩
 rcases List.mem_cons.1 hφ with rfl|hφ
 ·show a.tmps[s]?=_;rw[e1];simp[AV.den,e2,jS]
 ·exact g1 φ hφ
theorem Holds.old (h:Holds nt base w0 A a w) {k b:Nat} {l:List At} (h1:Fact.row k true l∈A) (h2:Fact.at k b∈A):oldOf w b 0 l:=by
 obtain⟨β,g1,g2⟩:=h.facts;obtain⟨e1,e2,_⟩:=g1 _ h1;have e3:=g1 _ h2;simp only[Fact.ok]at e3;rw[e3.1]at e1 e2;rw[e3.2]at e2;exact⟨e1,e2⟩
theorem Holds.slot (h:Holds nt base w0 A a w) {s:Nat} {v:Value} (h1:Fact.slot s (.im v)∈A):a.tmps[s]?=some v:=by
 obtain⟨β,g1,g2⟩:=h.facts;exact g1 _ h1
theorem Holds.put (h:Holds nt base w0 A a w) {w':World} (hb:Below w.heap.size w w') {d:Nat} (hd:d<nt) (v:TV) (hA:∀φ∈A,gV (some d) none φ=false):Holds nt base w0 (.slot d v.av::A) (a.put (some d) v.den) w':=by
 obtain⟨β,g1,g2,g3,gt⟩:=h.facts;have hP:=oP (base:=base) (β:=β) (a:=a) (w:=w) (w':=w') (M:=A) v.av (d:=d) (by rw[h.size]; exact hd) h.heap hb;rw[TV.av_den]at hP;have up:∀k1 o1 l1,Fact.row k1 o1 l1∈(Fact.slot d v.av::A)→Fact.row k1 o1 l1∈A:=fun k1 o1 l1 e=>by
  rcases List.mem_cons.1 e with e|e
  ·cases e
  ·exact e
 refine⟨by rw[gL]; exact h.defers,by rw[dO]; exact h.size,h.below.trans (hb.mono h.heap),Nat.le_trans h.heap hb.size,β,fun φ hφ => ?_,fun k1 k2 o2 l1 l2 q1 q2=>g2 k1 k2 o2 l1 l2 (up _ _ _ q1) (up _ _ _ q2),fun k1 l1 e=>g3 k1 l1 (up _ _ _ e),Nat.le_trans gt.size hb.size,fun p h1 h2 => ?_,gt.shape.trans (Shape.below hb)⟩
 ·rcases List.mem_cons.1 hφ with rfl|hφ
  ·exact hP.ok _ (List.mem_singleton.2 rfl)
  ·exact Dd hP (g1 φ hφ) (hA φ hφ) fun kk k qO l q=>by cases q
 ·have hlt:=Nat.lt_of_lt_of_le h2 gt.size;have:=gt.mem p h1 h2;exact⟨(hb.cell hlt).trans this.1,(hb.frozen hlt).trans this.2⟩
end
def oB (f:Nat→List At):Nat→Nat→List At
 | _,0=>[]
 | s,n+1=>f s++oB f (s+1) n
theorem oA {f:Nat→List At} {c:Nat} (h:∀j,fI (f j)=c):∀n s,fI (oB f s n)=n*c
 | 0,s=>by simp[oB,fI]
 | n+1,s=>by
  show fI (f s++oB f (s+1) n)=_;rw[DE,h,oA h n,Nat.add_mul,Nat.one_mul,Nat.add_comm]
def So (f:Nat→List At) (z:List At) (N i:Nat):List At:=oB f 0 i++oB (fun _=>z) i (N-i)
def AR (l:List Value) (v:Value):Prop:=l=List.replicate l.length v
theorem NM {l m:List Value} {v:Value} (h:AR l v) (k:AR m v):AR (l++m) v:=by
 unfold AR at *;rw[h,k];simp[List.replicate_append_replicate]
theorem AH {z:List At} {v:Value} (h:AR (aD z) v):∀n s,AR (aD (oB (fun _=>z) s n)) v
 | 0,s=>rfl
 | n+1,s=>by
  show AR (aD (z++oB (fun _=>z) (s+1) n)) v;rw[aO];exact NM h (AH h n (s+1))
theorem Sm {P:Program} {t e:TypeId} {i:TypeInfo} {zv:Value} {z:List At} {v:Value} {N:Nat} (ht:P.underlying t=some (.slice e)) (hi:P.info? e=some i) (hz:i.zero=some zv) (hs:i.size=fI z) (hv:zv.cells.toList=List.replicate i.size v) (hsame:AR (aD z) v) (h0:0<fI z)
  (hb:i.bytes*N≤281474976710656) (hN:N<4611686018427387904) :
  ∃e,∀w:World,(Instr.makeSlice t (iI N) (iI N)).run P w=.ok (.slice (some ⟨w.heap.size,0,none⟩) N N) (w.alloc (.cells (aD (oB (fun _=>z) 0 N)).toArray e)):=by
 refine⟨e,fun w => ?_⟩;have hr:=Go.run_make (P:=P) w t e i zv ht hi hz .i64 .i64 (N:Int) (N:Int) (by omega) (Int.le_refl _) (by rw[←Int.natCast_mul]; omega) (by omega);refine Eq.trans hr ?_;have hsz:zv.cells.size=i.size:=by rw[←Array.length_toList,hv,List.length_replicate]
 have hc:madeCells zv.cells (N*i.size)=(aD (oB (fun _=>z) 0 N)).toArray:=by
  have hl:=oA (f:=fun _=>z) (c:=fI z) (fun _=>rfl) N 0;have h2:=AH hsame N 0;rw[h2,aM,hl,←hs];unfold madeCells;apply Array.ext
  ·simp
  ·intro j h1 h3;simp only[Array.getElem_map,Array.getElem_range,List.getElem_toArray,List.getElem_replicate];have hj:j%zv.cells.size<zv.cells.size:=Nat.mod_lt _ (by rw[hsz,hs]; exact h0);have e1:zv.cells.toList[j%zv.cells.size]?=some v:=by
    rw[hv,List.getElem?_replicate,if_pos (by omega)]
   rw[Array.getElem?_toList]at e1;rw[getElem!_def,e1]
 simp only[Int.toNat_natCast,hc]
theorem IM {P:Program} {id:Nat} {ops:Array Oper} {l:List Nat} (hl:List.range ops.size=l) {Q:Exit→Act→World→Prop} {a:Act} {w:World} (h:wpOps P ops Q l a w):(Code.region id ops false).wp P Q a w:=wp_region (by rw[hl]; exact h)
theorem KT {P:Program} {fn:Func} {A:List Fact} {l:List TV} {r:RV} {nt base:Nat} {w0:World} (h1:kK P A fn.results.toList=some l) (h2:rv l=some r) {a:Act} {w':World} (hA:Holds nt base w0 A a w') {R:Ending→World→Prop} (hR:R (.returned r.den) w'):bodyPost P fn R .ret a w':=by
 obtain⟨β',hok,_⟩:=hA.facts;have hres:(results fn a.tmps).run P w'=.ok r.den w':=by
  have:=gK hok h1;show ((fn.results.mapM (qC a.tmps)) >>= fun vs=>pure (if h:vs.size=1 then vs[0]else .tuple vs):Sem Value).run P w'=_;have hm:(List.toArray <$> fn.results.toList.mapM (qC a.tmps)).run P w'=.ok (l.map TV.den).toArray w':=by simp[this]
  rw[Array.mapM_eq_mapM_toList,Sem.run_bind,hm,Result.andThen_ok,Sem.run_pure];exact congrArg (fun x=>Result.ok x w') (vK h2)
 exact⟨hA.defers,_,hres,hR⟩
theorem Holds.now {nt base:Nat} {w0:World} {A:List Fact} {a:Act} {w:World} (h:Holds nt base w0 A a w):Holds nt base w A a w:=by
 obtain⟨β,h1,h2,h3,h4⟩:=h.facts;exact⟨h.defers,h.size,Below.refl _ _,h.heap,β,h1,h2,h3,h4.size,fun _ _ _=>⟨rfl,rfl⟩,Shape.refl _⟩
theorem WrAt.refl (w:World) (b:Nat):WrAt w w b []:=⟨rfl,rfl,rfl,Nat.le_refl _,fun _ _ _=>rfl,Shape.refl _,fun _=>rfl⟩
theorem WrAt.below {w w1 w2:World} {b:Nat} (hb:b<w.heap.size) (h:WrAt w w1 b []) (h2:Below w.heap.size w1 w2):WrAt w w2 b [] :=
 ⟨h2.os.trans h.os,h2.tape.trans h.tape,h2.output.trans h.output,Nat.le_trans h.size h2.size,fun k hk hne=>(h2.block k hk).trans (h.block k hk hne),
  ⟨fun q cur e hq=>by
   obtain⟨c,h3,h4⟩:=h.shape.1 q cur e hq;exact⟨c,(h2.block q (Array.getElem?_eq_some_iff.1 hq).1).trans h3,h4⟩,Nat.le_trans h.size h2.size,fun q o hq ho=>(h2.block q (Array.getElem?_eq_some_iff.1 hq).1).trans (h.shape.2.same q o hq ho)⟩,fun j=>(World.frozen?_of_block (h2.block b hb)).trans (h.frozen j)⟩
theorem kH (b:Nat):∀(vs:List Value) (o:Nat) (w:World) (k:Nat),k≠b→(w.setCells b o vs).heap[k]?=w.heap[k]?
 | [],_,_,_,_=>rfl
 | v::r,o,w,k,h=>by
  rw[World.setCells,kH b r (o+1) _ k h];exact Below.heap_setCell w _ v k h
theorem gY (b:Nat):∀(vs:List Value) (o:Nat) (w:World),(w.setCells b o vs).os=w.os∧(w.setCells b o vs).tape=w.tape∧(w.setCells b o vs).output=w.output
 | [],_,_=>⟨rfl,rfl,rfl⟩
 | v::r,o,w=>by rw[World.setCells]; exact gY b r (o+1) _
theorem WrAt.set {w w1:World} {b:Nat} (h:WrAt w w1 b []) (o:Nat) (vs:List Value):WrAt w (w1.setCells b o vs) b [] :=
 ⟨(gY b vs o w1).1.trans h.os,(gY b vs o w1).2.1.trans h.tape,(gY b vs o w1).2.2.trans h.output,by rw[fL]; exact h.size,fun k hk hne=>(kH b vs o w1 k hne).trans (h.block k hk hne),
  h.shape.trans (gJ b vs o w1),fun j=>by rw[World.frozen?_setCells]; exact h.frozen j⟩
theorem Holds.post {nt base:Nat} {w0:World} {A:List Fact} {a:Act} {w:World} (h:Holds nt base w0 A a w) {dst kill:Option Nat} {out:List Fact} {a':Act} {w':World}
  (hP:∀β,(∀φ∈A,φ.ok base β a w)→∃β',PostB base β β' a w dst A out kill a' w') (hd:gN dst nt=false:=by kernel_rfl):Holds nt base w0 (out++A.filter (fun φ => !(gV dst kill φ))) a' w':=by
 obtain⟨β,g1,g2,g3,gt⟩:=h.facts;obtain⟨β',P⟩:=hP β g1;have hkill:∀φ∈A,gV dst kill φ=false→∀kk k qO l,kill=some kk→φ=.row k qO l→(β kk).1≠(β k).1:=fun φ hφ hc kk k qO l hkk e=>by
  obtain⟨l0,hl0⟩:=P.kills kk hkk;have hne:kk≠k:=fun e2=>by
   rw[e]at hc;simp only[gV,Bool.or_eq_false_iff]at hc;have:=cS.2 (e2▸hkk:kill=some k);rw[hc.2]at this; cases this
  subst e;exact g2 kk k qO l0 l hl0 hφ hne
 have hmem:∀φ∈A.filter (fun φ => !(gV dst kill φ)),φ∈A∧gV dst kill φ=false:=fun φ hφ=>by
  obtain⟨h1,h2⟩:=List.mem_filter.1 hφ;exact⟨h1,by simpa using h2⟩
 have hβ:∀k qO l,Fact.row k qO l∈A.filter (fun φ => !(gV dst kill φ))→β' k=β k:=fun k qO l hφ=>by
  obtain⟨_,hc⟩:=hmem _ hφ;simp only[gV,Bool.or_eq_false_iff]at hc;exact P.beta k fun e=>by have:=cS.2 e; rw[hc.1]at this; cases this
 have hno:∀k l k' o' l',Fact.row k true l∈out→Fact.row k' o' l'∈A.filter (fun φ => !(gV dst kill φ))→k≠k'→(β' k).1≠(β' k').1:=fun k l k' o' l' hk hk' hne=>by
  rw[hβ k' o' l' hk'];obtain⟨hA',hc⟩:=hmem _ hk'
  rcases P.rows k l hk with⟨h2,_⟩|⟨h2,l0,h3⟩|⟨h2,k0,l0,hk0,he,h3⟩
  ·have:=(g1 _ hA').1;omega
  ·rw[P.beta k h2];exact g2 k k' o' l0 l' h3 hA' hne
  ·rw[he];refine g2 k0 k' o' l0 l' h3 hA' fun e => ?_
   subst e;simp only[gV,Bool.or_eq_false_iff]at hc;have:=cS.2 hk0;rw[hc.2]at this; cases this
 have hnt:β' nt=β nt:=P.beta nt fun e=>by have:=cS.2 e; rw[hd]at this; cases this
 refine⟨by rw[P.defers]; exact h.defers,by rw[P.size]; exact h.size,P.below w0 h.below,Nat.le_trans h.heap P.heap,β',fun φ hφ => ?_,fun k k' o' l l' hk hk' hne => ?_,fun k l hk => ?_,by rw[hnt]; exact Nat.le_trans gt.size P.heap,fun p q1 q2 => ?_,gt.shape.trans P.shape⟩
 ·rcases List.mem_append.1 hφ with hφ|hφ
  ·exact P.ok φ hφ
  ·obtain⟨h1,h2⟩:=hmem φ hφ;exact Dd P (g1 φ h1) h2 (hkill φ h1 h2)
 ·rcases List.mem_append.1 hk with hk|hk
  ·rcases List.mem_append.1 hk' with hk'|hk'
   ·cases o' with
    | true=>exact absurd (P.one k k' l l' hk hk') hne
    | false=>exact (P.onlyOwn k' l' hk').elim
   ·exact hno k l k' o' l' hk hk' hne
  ·rcases List.mem_append.1 hk' with hk'|hk'
   ·cases o' with
    | true=>exact fun e=>hno k' l' k true l hk' hk (Ne.symm hne) e.symm
    | false=>exact (P.onlyOwn k' l' hk').elim
   ·rw[hβ k true l hk,hβ k' o' l' hk'];exact g2 k k' o' l l' (hmem _ hk).1 (hmem _ hk').1 hne
 ·rw[hnt]
  rcases List.mem_append.1 hk with hk|hk
  ·rcases P.rows k l hk with⟨h2,_⟩|⟨h2,l0,h3⟩|⟨h2,k0,l0,hk0,he,h3⟩
   ·exact Or.inr (Nat.le_trans gt.size h2)
   ·rw[P.beta k h2];exact g3 k l0 h3
   ·rw[he];exact g3 k0 l0 h3
  ·rw[hβ k true l hk];exact g3 k l (hmem _ hk).1
 ·rw[hnt]at q2;have h3:=P.mem p (Nat.lt_of_lt_of_le q2 gt.size) fun kk hkk e=>by
   obtain⟨l0,hl0⟩:=P.kills kk hkk
   rcases g3 kk l0 hl0 with h4|h4<;>omega
  have h4:=gt.mem p q1 q2;exact⟨h3.1.trans h4.1,h3.2.trans h4.2⟩
end Go.Proofs.YtjeplinbleofnaaGreat.Ex
namespace Go.Proofs.YtjeplinbleofnaaGreat
open Go.Proofs.Tryz
open Go.RowKit
set_option maxHeartbeats 2000000 in
theorem WP (f:Int) (F:FC) (hf:FieldIs f F) (a0 a1 a2 a3 b0 b1 b2 b3:Nat) (ha:aX a0 a1 a2 a3) (hb:aX b0 b1 b2 b3) (la:aA a0 a1 a2 a3<F.M) (lb:aA b0 b1 b2 b3<F.M) (hz:aA b0 b1 b2 b3≠0) (w:World) :
  Calls prog 92 #[.int .i64 f,.agg #[.int .u64 a0,.int .u64 a1,.int .u64 a2,.int .u64 a3],.agg #[.int .u64 b0,.int .u64 b1,.int .u64 b2,.int .u64 b3]] w (TA 0 (aA a0 a1 a2 a3*(aA b0 b1 b2 b3^(F.M-2))%F.M) w):=by
 have HE:=Lib.hid (show ∀w,(Op.equalIn 10000 24 (.agg #[.int .u64 b0,.int .u64 b1,.int .u64 b2,.int .u64 b3]) (.agg #[.int .u64 0,.int .u64 0,.int .u64 0,.int .u64 0])).run prog w=.ok false w from fun w=>by
  have h:=iX 9998 b0 b1 b2 b3 0 0 0 0 w;have q:wO b0 b1 b2 b3 0 0 0 0=false:=by
   cases q:wO b0 b1 b2 b3 0 0 0 0
   ·rfl
   ·exact absurd (((fE hb vB).1 q).trans rfl) hz
  rw[q]at h;exact h)
 have hG:=iZ;clear hz
 go_enter func92,ntmps92
 go_wp2_with fail;refine (dA f F hf _).mono ?_
 rintro e w1 ⟨rfl,hbl⟩
 have M1:=((((Mem.nil w).new (w.heap.size) a0 a1 a2 a3 24 (by simp)).new (w.heap.size+1) b0 b1 b2 b3 24 (by simp)).new (w.heap.size+1+1) 0 0 0 0 24 (by simp)).on hbl;clear hbl;have z0:w.heap.size<w1.heap.size:=M1.lt (c0:=a0) (c1:=a1) (c2:=a2) (c3:=a3) (by simp);have z1:w.heap.size+1<w1.heap.size:=M1.lt (c0:=b0) (c1:=b1) (c2:=b2) (c3:=b3) (by simp);have z2:w.heap.size+1+1<w1.heap.size:=M1.lt (c0:=0) (c1:=0) (c2:=0) (c3:=0) (by simp);have HM:=Lib.hid (M1.on ((Below.refl _ _).alloc (Nat.le_refl _) (.cells #[.int .u64 F.m0,.int .u64 F.m1,.int .u64 F.m2,.int .u64 F.m3,.int .u64 F.inv,.int .u64 F.s0,.int .u64 F.s1,.int .u64 F.s2,.int .u64 F.s3] 70)));have KK:=Lib.hid (KIs.new w1 F 70);have kr:=M1.row (b:=w.heap.size) (c0:=a0) (c1:=a1) (c2:=a2) (c3:=a3) (by simp);have x0:=kr.c0; have x1:=kr.c1; have x2:=kr.c2; have x3:=kr.c3;clear kr;have xl:=M1.lt (b:=w.heap.size) (c0:=a0) (c1:=a1) (c2:=a2) (c3:=a3) (by simp);go_wp2_with fail;refine (cF F hf.ok w1.heap.size a0 a1 a2 a3 ha _ KK.out).mono ?_
 rintro e w2 ⟨he,hbl⟩
 rw[show sI (aA a0 a1 a2 a3) F.M=true from decide_eq_true la]at he;subst he;have HM':=Lib.hid (HM.out.on hbl);have KK':=Lib.hid (KK.out.same hbl);have zk:=KK'.out.lt;clear HM KK hbl M1;have HM:=HM';have KK:=KK';clear HM' KK';clear x0 x1 x2 x3 xl zk;have kr:=HM.out.row (b:=w.heap.size+1) (c0:=b0) (c1:=b1) (c2:=b2) (c3:=b3) (by simp);have x0:=kr.c0; have x1:=kr.c1; have x2:=kr.c2; have x3:=kr.c3;clear kr;have xl:=HM.out.lt (b:=w.heap.size+1) (c0:=b0) (c1:=b1) (c2:=b2) (c3:=b3) (by simp);go_wp2_with fail;refine (cF F hf.ok w1.heap.size b0 b1 b2 b3 hb _ KK.out).mono ?_
 rintro e w3 ⟨he,hbl⟩
 rw[show sI (aA b0 b1 b2 b3) F.M=true from decide_eq_true lb]at he;subst he;have HM':=Lib.hid (HM.out.on hbl);have KK':=Lib.hid (KK.out.same hbl);have zk:=KK'.out.lt;clear HM KK hbl;have HM:=HM';have KK:=KK';clear HM' KK';clear x0 x1 x2 x3 xl zk;have kr:=HM.out.row (b:=w.heap.size+1) (c0:=b0) (c1:=b1) (c2:=b2) (c3:=b3) (by simp);have u0:=kr.c0; have u1:=kr.c1; have u2:=kr.c2; have u3:=kr.c3;clear kr;have ul:=HM.out.lt (b:=w.heap.size+1) (c0:=b0) (c1:=b1) (c2:=b2) (c3:=b3) (by simp);have hE:=HE.out;go_wp2_with fail;clear u0 u1 u2 u3 ul hE;refine bK (fun wx=>Mem w wx [(w.heap.size+1,b0,b1,b2,b3),(w.heap.size,a0,a1,a2,a3)]) 6 (by kernel_rfl) ?_;have HM':=Lib.hid (HM.out.drewN 1);have KK':=Lib.hid (KK.out.drewN 1);clear HM KK;have HM:=HM';have KK:=KK';clear HM' KK';have HS:=HM.out.sub (rs':=[(w.heap.size+1,b0,b1,b2,b3),(w.heap.size,a0,a1,a2,a3)]) (by simp);refine aB (i:=0) (v:=.agg #[.int .u64 b0,.int .u64 b1,.int .u64 b2,.int .u64 b3]) rfl (by kernel_rfl) (by kernel_rfl) (by kernel_rfl) (by kernel_rfl) (fun _ _ _ h=>h) HS (Or.inl ⟨by kernel_rfl,fun wx hx => ?_⟩) ?_
 ·have kr:=hx.row (b:=w.heap.size+1) (c0:=b0) (c1:=b1) (c2:=b2) (c3:=b3) (by simp);have x0:=kr.c0; have x1:=kr.c1; have x2:=kr.c2; have x3:=kr.c3;clear kr HS hx;go_simp
 simp only[Act.put,List.setIfInBounds_toArray,List.set_cons_zero,List.set_cons_succ];refine aB (i:=3) (v:=.agg #[.int .u64 a0,.int .u64 a1,.int .u64 a2,.int .u64 a3]) rfl (by kernel_rfl) (by kernel_rfl) (by kernel_rfl) (by kernel_rfl) (fun _ _ _ h=>h) HS (Or.inl ⟨by kernel_rfl,fun wx hx => ?_⟩) ?_
 ·have kr:=hx.row (b:=w.heap.size) (c0:=a0) (c1:=a1) (c2:=a2) (c3:=a3) (by simp);have x0:=kr.c0; have x1:=kr.c1; have x2:=kr.c2; have x3:=kr.c3;clear kr HS hx;go_simp
 simp only[Act.put,List.setIfInBounds_toArray,List.set_cons_zero,List.set_cons_succ];clear HS;refine aC (i:=1) (by kernel_rfl) rfl (fun K hK => ?_);go_simp;refine (cM F hf.ok w1.heap.size b0 b1 b2 b3 hb _ KK.out).mono ?_
 rintro e w4 ⟨i0,i1,i2,i3,rfl,hi,hv,hbl⟩
 have HVi:=Lib.hid hv;clear hv;have HM':=Lib.hid (HM.out.on hbl);have KK':=Lib.hid (KK.out.same hbl);have zk_w4:=KK'.out.lt;clear HM KK hbl;have HM:=HM';have KK:=KK';clear HM' KK';have HS:=HM.out.sub (rs':=[(w.heap.size+1,b0,b1,b2,b3),(w.heap.size,a0,a1,a2,a3)]) (by simp);refine hK.out _ _ (Or.inr HS) (fun _ => ?_);clear hK K;clear HS;refine aC (i:=2) (by kernel_rfl) rfl (fun K hK => ?_);go_simp;refine (sJ F hf.ok (aA b0 b1 b2 b3) w1.heap.size i0 i1 i2 i3 hi HVi.out _ KK.out).mono ?_
 rintro e w5 ⟨j0,j1,j2,j3,rfl,hj,hv,hbl⟩
 have HVj:=Lib.hid hv;clear hv;have HM':=Lib.hid (HM.out.on hbl);have KK':=Lib.hid (KK.out.same hbl);have zk_w5:=KK'.out.lt;clear HM KK hbl;have HM:=HM';have KK:=KK';clear HM' KK';have HS:=HM.out.sub (rs':=[(w.heap.size+1,b0,b1,b2,b3),(w.heap.size,a0,a1,a2,a3)]) (by simp);refine hK.out _ _ (Or.inr HS) (fun _ => ?_);clear hK K;clear HS;refine aC (i:=4) (by kernel_rfl) rfl (fun K hK => ?_);go_simp;refine (bO F hf.ok w1.heap.size j0 j1 j2 j3 a0 a1 a2 a3 hj ha la _ KK.out).mono ?_
 rintro e w6 ⟨s0,s1,s2,s3,rfl,hs,hv,hbl⟩
 have HVs:=Lib.hid (show aA s0 s1 s2 s3=aA a0 a1 a2 a3*(aA b0 b1 b2 b3^(F.M-2))%F.M by rw[hv,HVj.out,sD hf.ok,Nat.mul_comm]);clear hv;have HM':=Lib.hid (HM.out.on hbl);have KK':=Lib.hid (KK.out.same hbl);have zk_w6:=KK'.out.lt;clear HM KK hbl;have HM:=HM';have KK:=KK';clear HM' KK';have HS:=HM.out.sub (rs':=[(w.heap.size+1,b0,b1,b2,b3),(w.heap.size,a0,a1,a2,a3)]) (by simp);refine hK.out _ _ (Or.inr HS) (fun _ => ?_);clear hK K;clear HS;have kr:=HM.out.row (b:=w.heap.size+1+1) (c0:=0) (c1:=0) (c2:=0) (c3:=0) (by simp);have y0:=kr.c0; have y1:=kr.c1; have y2:=kr.c2; have y3:=kr.c3; have yf:=kr.fr;clear kr;have yl:=HM.out.lt (b:=w.heap.size+1+1) (c0:=0) (c1:=0) (c2:=0) (c3:=0) (by simp);refine aC (i:=5) (by kernel_rfl) rfl (fun K hK => ?_);go_simp;have HM':=Lib.hid ((HM.out.sub (rs':=[(w.heap.size+1+1,0,0,0,0),(w.heap.size+1,b0,b1,b2,b3),(w.heap.size,a0,a1,a2,a3)]) (by simp)).put s0 s1 s2 s3 (by omega) (by intro r hr; simp at hr; rcases hr with rfl|rfl<;>simp<;>omega));clear HM;have HM:=HM';clear HM';have HS:=HM.out.sub (rs':=[(w.heap.size+1,b0,b1,b2,b3),(w.heap.size,a0,a1,a2,a3)]) (by simp);refine hK.out _ _ (Or.inr HS) (fun _ => ?_);clear hK K;clear HS;refine aC (i:=6) (by kernel_rfl) rfl (fun K hK => ?_);go_simp;refine hK.out _ _ (Or.inl rfl) (fun _ => ?_);clear hK K;refine aQ (by kernel_rfl) ?_;go_wp2_with fail;refine bodyPost_ret (v:=.tuple #[.agg #[.int .u64 s0,.int .u64 s1,.int .u64 s2,.int .u64 s3],.int .i64 0]) (by simp[results,results92,go_sem, *]) rfl ?_;exact⟨_,_,_,_,rfl,hs,HVs.out,HM.out.1⟩
end Go.Proofs.YtjeplinbleofnaaGreat
namespace Go.Proofs.YtjeplinbleofnaaGreat.Ex
open Go.Proofs.Tryz
open Go.RowKit
abbrev RM:Nat:=Go.Proofs.YtjeplinbleofnaaGreat.FR.M
abbrev aU:Nat:=115792089237316195423570985008687907853269984665640564039457584007913129639936
theorem fH {x:Nat} (h:x<RM):x<aU:=Nat.lt_trans h (by decide)
theorem cW:0<RM:=by decide
def Dt:gH
 | [.v (.im (.int .u64 (.ofNat n)))]=>some ([n<18446744073709551616],.one (.fl [.q n]))
 | _=>none
theorem Pg:∀cs pre r,Dt cs=some (pre,r)→aP pre→∀(args:List Value) (w:World),cE w cs args→bE prog 54 r args w:=by
 intro cs pre r hg hp args w ha;unfold Dt at hg;split at hg
 ·rename_i n;cases hg
  match args,ha with
  | [t],ha =>
   have h1:t=.int .u64 (Int.ofNat n):=ha.1;subst h1;refine (yZ n hp.1 w).mono ?_
   rintro e w' ⟨rfl,hb⟩
   refine⟨?_,hb⟩;obtain⟨e0,e1,e2,e3⟩:=eW (s0:=n) (s1:=0) (s2:=0) (s3:=0) (x:=n) ⟨hp.1,by omega,by omega,by omega⟩ (by have:=hp.1; omega) (by unfold aA; omega);show Ending.returned _=Ending.returned (.agg #[.int .u64 (fw n 0:Nat),.int .u64 (fw n 1:Nat),.int .u64 (fw n 2:Nat),.int .u64 (fw n 3:Nat)]);rw[←e0,←e1,←e2,←e3];rfl
  | [],ha=>exact ha.elim
  | _::_::_,ha=>exact ha.2.elim
 ·cases hg
def el (f:Nat→Nat) (j:Nat):List At:=[.q (f j)]
def LV (w:World) (v:Value) (N:Nat) (f:Nat→Nat):Prop:=∃p m,v=.slice p N m∧N≤m∧(∀j,j<N→f j<aU)∧(0<N→∃b o,p=some ⟨b,o,none⟩∧b<w.heap.size∧w.rangeAt b o (aD (oB (el f) 0 N)))
theorem LV.on {w w':World} {v:Value} {N:Nat} {f:Nat→Nat} (h:LV w v N f) (hb:Below w.heap.size w w'):LV w' v N f:=by
 obtain⟨p,m,h1,h2,h3,h4⟩:=h;exact⟨p,m,h1,h2,h3,fun h=>by
  obtain⟨b,o,e,h5,h6⟩:=h4 h;exact⟨b,o,e,Nat.lt_of_lt_of_le h5 hb.size,fS hb h5 h6⟩⟩
theorem LV.nil (w:World) (f:Nat→Nat):LV w (.slice none 0 0) 0 f:=⟨none,0,rfl,Nat.le_refl _,fun j h=>by omega,fun h=>by omega⟩
def xO (w:World) (idx:Nat→Option Nat) (ld:Nat→Option (List At)) (gen:Nat→Option Value):Ext:={ Ext.none with idx:=idx,ld:=ld,gen:=gen,old:=oldOf w,T2:=ZO,T3:=ZN,T4:=Fs,T5:=Fx,T6:=Gw }
theorem XW (w:World) (idx:Nat→Option Nat) (ld:Nat→Option (List At)) (gen:Nat→Option Value):dH prog { qG prog with x:=xO w idx ld gen } w.heap.size w :=
 ⟨(aW _).1,WS (fun b o l h=>h) (fun w' _=>FrAt.none _ _) (fun w' _=>FsAt.none _ _)⟩
end Go.Proofs.YtjeplinbleofnaaGreat.Ex
