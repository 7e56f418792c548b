/- Eo11 -/
import Derived.Test.YtpjlhhpjpnacmaaGreatDoorEo10
import Derived.Test.YtpjlhhpjpnacmaaGreatDoorEo05
import Derived.Test.YtpjlhhpjpnacmaaGreatDoorEo02
import Derived.Test.YtpjlhhpjpnacmaaGreatDoorEo04
import Derived.Test.YtpjlhhpjpnacmaaGreatDoorEo08
import Derived.Test.YtpjlhhpjpnacmaaGreatDoorProg
set_option maxRecDepth 100000
set_option linter.unusedVariables false
set_option linter.unusedSimpArgs false
set_option linter.unnecessarySimpa false
noncomputable section
namespace Go.Proofs.YtpjlhhpjpnacmaaGreatDoor.Ex
open Go.Proofs.Tryz
def cC0:RE:=(Z0*Z0*Z1*Z1*Z2*Z2*Z2*Z2*Z3*Z3*Z3*Z3*Z7*Z7*Z7+Z0*Z0*Z2*Z2*Z2*Z2*Z3*Z3*Z3*Z3*Z6*Z7*Z7-Z0*Z0*Z2*Z2*Z2*Z2*Z3*Z3*Z6*Z6*Z7-Z0*Z0*Z2*Z2*Z3*Z3*Z3*Z3*Z6*Z7+Z1*Z1*Z2*Z2*Z2*Z2*Z3*Z3*Z3*Z3*Z7*Z7-Z1*Z1*Z2*Z2*Z2*Z2*Z3*Z3*Z6*Z7-Z1*Z1*Z2*Z2*Z3*Z3*Z3*Z3*Z7+(RE.one+RE.one)*Z2*Z2*Z2*Z2*Z3*Z3*Z3*Z3*Z6*Z7-Z2*Z2*Z2*Z2*Z3*Z3*Z3*Z3*Z7*Z7-(RE.one+RE.one)*Z2*Z2*Z2*Z2*Z3*Z3*Z6*Z6+Z2*Z2*Z2*Z2*Z6*Z6-(RE.one+RE.one)*Z2*Z2*Z3*Z3*Z3*Z3*Z6+(RE.one+RE.one+RE.one+RE.one)*Z2*Z2*Z3*Z3*Z6-(RE.one+RE.one)*Z2*Z2*Z3*Z3*Z7+Z3*Z3*Z3*Z3)
def cC1:RE:=(Z0*Z0*Z0*Z0*Z2*Z2*Z3*Z3*Z6*Z6*Z7+(RE.one+RE.one)*Z0*Z0*Z2*Z2*Z3*Z3*Z6*Z6-(RE.one+RE.one)*Z0*Z0*Z2*Z2*Z3*Z3*Z6*Z7-Z0*Z0*Z2*Z2*Z6*Z6-Z0*Z0*Z3*Z3*Z6+Z1*Z1*Z1*Z1*Z2*Z2*Z3*Z3*Z7+(RE.one+RE.one)*Z1*Z1*Z2*Z2*Z3*Z3*Z6-(RE.one+RE.one)*Z1*Z1*Z2*Z2*Z3*Z3*Z7-Z1*Z1*Z2*Z2*Z6-Z1*Z1*Z3*Z3-(RE.one+RE.one)*Z2*Z2*Z3*Z3*Z6+Z2*Z2*Z3*Z3*Z7+Z2*Z2*Z6+Z3*Z3+RE.one)
def cX0:RE:=(Z0*Z2*Z2*Z2*Z2*Z3*Z3*Z3*Z4*Z4*Z5*Z6*Z7*Z7-Z0*Z2*Z2*Z2*Z2*Z3*Z4*Z4*Z5*Z6*Z6*Z7-Z0*Z2*Z2*Z2*Z3*Z3*Z3*Z3*Z4*Z5*Z5*Z7*Z7-Z0*Z2*Z2*Z2*Z3*Z3*Z4*Z4*Z4*Z6*Z6*Z7+Z0*Z2*Z2*Z2*Z3*Z3*Z4*Z6*Z7+Z0*Z2*Z2*Z3*Z3*Z3*Z5*Z5*Z5*Z7-Z0*Z2*Z2*Z3*Z3*Z3*Z5*Z7+Z0*Z2*Z3*Z3*Z3*Z3*Z4*Z5*Z5*Z7+Z1*Z2*Z2*Z2*Z2*Z3*Z3*Z3*Z4*Z5*Z5*Z7*Z7-Z1*Z2*Z2*Z2*Z2*Z3*Z4*Z5*Z5*Z6*Z7+Z1*Z2*Z2*Z2*Z3*Z3*Z3*Z3*Z4*Z4*Z5*Z7*Z7+Z1*Z2*Z2*Z2*Z3*Z3*Z5*Z5*Z5*Z7-Z1*Z2*Z2*Z2*Z3*Z3*Z5*Z7+Z1*Z2*Z2*Z3*Z3*Z3*Z4*Z4*Z4*Z6*Z7-Z1*Z2*Z2*Z3*Z3*Z3*Z4*Z7-Z1*Z2*Z3*Z3*Z3*Z3*Z4*Z4*Z5*Z7)
def cX1:RE:=(Z0*Z0*Z0*Z2*Z2*Z3*Z4*Z4*Z5*Z6*Z6*Z7-Z0*Z0*Z0*Z2*Z3*Z3*Z4*Z5*Z5*Z6*Z7+Z0*Z0*Z0*Z2*Z4*Z4*Z4*Z5*Z5*Z6*Z6*Z7-Z0*Z0*Z0*Z2*Z4*Z4*Z4*Z6*Z6*Z6-Z0*Z0*Z0*Z2*Z4*Z5*Z5*Z6*Z6+Z0*Z0*Z0*Z2*Z4*Z6*Z6-Z0*Z0*Z0*Z3*Z4*Z4*Z5*Z5*Z5*Z6*Z7+Z0*Z0*Z0*Z3*Z4*Z4*Z5*Z6*Z6+Z0*Z0*Z0*Z3*Z5*Z5*Z5*Z6-Z0*Z0*Z0*Z3*Z5*Z6-Z0*Z0*Z1*Z2*Z2*Z3*Z4*Z4*Z4*Z5*Z5*Z6*Z7*Z7+Z0*Z0*Z1*Z2*Z2*Z3*Z4*Z5*Z5*Z6*Z7-Z0*Z0*Z1*Z2*Z3*Z3*Z4*Z4*Z5*Z5*Z5*Z7*Z7+Z0*Z0*Z1*Z2*Z3*Z3*Z4*Z4*Z5*Z6*Z7-Z0*Z0*Z1*Z2*Z4*Z4*Z5*Z5*Z5*Z6*Z7+Z0*Z0*Z1*Z2*Z4*Z4*Z5*Z6*Z6+Z0*Z0*Z1*Z2*Z5*Z5*Z5*Z6-Z0*Z0*Z1*Z2*Z5*Z6-Z0*Z0*Z1*Z3*Z4*Z4*Z4*Z5*Z5*Z6*Z7+Z0*Z0*Z1*Z3*Z4*Z4*Z4*Z6*Z6+Z0*Z0*Z1*Z3*Z4*Z5*Z5*Z6-Z0*Z0*Z1*Z3*Z4*Z6-Z0*Z1*Z1*Z2*Z2*Z3*Z4*Z4*Z5*Z5*Z5*Z7*Z7+Z0*Z1*Z1*Z2*Z2*Z3*Z4*Z4*Z5*Z6*Z7+Z0*Z1*Z1*Z2*Z3*Z3*Z4*Z4*Z4*Z5*Z5*Z7*Z7-Z0*Z1*Z1*Z2*Z3*Z3*Z4*Z5*Z5*Z7+Z0*Z1*Z1*Z2*Z4*Z4*Z4*Z5*Z5*Z6*Z7-Z0*Z1*Z1*Z2*Z4*Z4*Z4*Z6*Z6-Z0*Z1*Z1*Z2*Z4*Z5*Z5*Z6+Z0*Z1*Z1*Z2*Z4*Z6-Z0*Z1*Z1*Z3*Z4*Z4*Z5*Z5*Z5*Z7+Z0*Z1*Z1*Z3*Z4*Z4*Z5*Z6+Z0*Z1*Z1*Z3*Z5*Z5*Z5-Z0*Z1*Z1*Z3*Z5-Z0*Z2*Z2*Z3*Z4*Z4*Z5*Z6*Z7+Z0*Z2*Z3*Z3*Z4*Z5*Z5*Z7-Z0*Z2*Z4*Z4*Z4*Z5*Z5*Z6*Z7+Z0*Z2*Z4*Z4*Z4*Z6*Z6+Z0*Z2*Z4*Z5*Z5*Z6-Z0*Z2*Z4*Z6+Z0*Z3*Z4*Z4*Z5*Z5*Z5*Z7-Z0*Z3*Z4*Z4*Z5*Z6-Z0*Z3*Z5*Z5*Z5+Z0*Z3*Z5+Z1*Z1*Z1*Z2*Z2*Z3*Z4*Z5*Z5*Z7+Z1*Z1*Z1*Z2*Z3*Z3*Z4*Z4*Z5*Z7-Z1*Z1*Z1*Z2*Z4*Z4*Z5*Z5*Z5*Z7+Z1*Z1*Z1*Z2*Z4*Z4*Z5*Z6+Z1*Z1*Z1*Z2*Z5*Z5*Z5-Z1*Z1*Z1*Z2*Z5-Z1*Z1*Z1*Z3*Z4*Z4*Z4*Z5*Z5*Z7+Z1*Z1*Z1*Z3*Z4*Z4*Z4*Z6+Z1*Z1*Z1*Z3*Z4*Z5*Z5-Z1*Z1*Z1*Z3*Z4-Z1*Z2*Z2*Z3*Z4*Z5*Z5*Z7-Z1*Z2*Z3*Z3*Z4*Z4*Z5*Z7+Z1*Z2*Z4*Z4*Z5*Z5*Z5*Z7-Z1*Z2*Z4*Z4*Z5*Z6-Z1*Z2*Z5*Z5*Z5+Z1*Z2*Z5+Z1*Z3*Z4*Z4*Z4*Z5*Z5*Z7-Z1*Z3*Z4*Z4*Z4*Z6-Z1*Z3*Z4*Z5*Z5+Z1*Z3*Z4)
def cX2:RE:=(Z0*Z0*Z0*Z2*Z2*Z2*Z4*Z6*Z6*Z6-Z0*Z0*Z0*Z2*Z2*Z3*Z5*Z6*Z6+Z0*Z0*Z0*Z2*Z3*Z3*Z4*Z6*Z6-Z0*Z0*Z0*Z2*Z4*Z6*Z6-Z0*Z0*Z0*Z3*Z3*Z3*Z5*Z6+Z0*Z0*Z0*Z3*Z5*Z6-Z0*Z0*Z1*Z2*Z2*Z2*Z5*Z6*Z6-Z0*Z0*Z1*Z2*Z2*Z3*Z4*Z6*Z6+Z0*Z0*Z1*Z2*Z2*Z3*Z4*Z6*Z7-Z0*Z0*Z1*Z2*Z3*Z3*Z5*Z6+Z0*Z0*Z1*Z2*Z3*Z3*Z5*Z7+Z0*Z0*Z1*Z2*Z5*Z6-Z0*Z0*Z1*Z3*Z3*Z3*Z4*Z6+Z0*Z0*Z1*Z3*Z4*Z6+Z0*Z1*Z1*Z2*Z2*Z2*Z4*Z6*Z6-Z0*Z1*Z1*Z2*Z2*Z3*Z5*Z6+Z0*Z1*Z1*Z2*Z2*Z3*Z5*Z7+Z0*Z1*Z1*Z2*Z3*Z3*Z4*Z6-Z0*Z1*Z1*Z2*Z3*Z3*Z4*Z7-Z0*Z1*Z1*Z2*Z4*Z6-Z0*Z1*Z1*Z3*Z3*Z3*Z5+Z0*Z1*Z1*Z3*Z5-Z0*Z2*Z2*Z2*Z4*Z6*Z6+Z0*Z2*Z2*Z3*Z5*Z6-Z0*Z2*Z3*Z3*Z4*Z6+Z0*Z2*Z4*Z6+Z0*Z3*Z3*Z3*Z5-Z0*Z3*Z5-Z1*Z1*Z1*Z2*Z2*Z2*Z5*Z6-Z1*Z1*Z1*Z2*Z2*Z3*Z4*Z6-Z1*Z1*Z1*Z2*Z3*Z3*Z5+Z1*Z1*Z1*Z2*Z5-Z1*Z1*Z1*Z3*Z3*Z3*Z4+Z1*Z1*Z1*Z3*Z4+Z1*Z2*Z2*Z2*Z5*Z6+Z1*Z2*Z2*Z3*Z4*Z6+Z1*Z2*Z3*Z3*Z5-Z1*Z2*Z5+Z1*Z3*Z3*Z3*Z4-Z1*Z3*Z4)
def cY0:RE:=(-(Z0*Z2*Z2*Z2*Z2*Z3*Z3*Z3*Z4*Z5*Z5*Z6*Z7*Z7)+Z0*Z2*Z2*Z2*Z2*Z3*Z4*Z5*Z5*Z6*Z6*Z7-Z0*Z2*Z2*Z2*Z3*Z3*Z3*Z3*Z4*Z4*Z5*Z6*Z7*Z7-Z0*Z2*Z2*Z2*Z3*Z3*Z5*Z5*Z5*Z6*Z7+Z0*Z2*Z2*Z2*Z3*Z3*Z5*Z6*Z7-Z0*Z2*Z2*Z3*Z3*Z3*Z4*Z4*Z4*Z6*Z6*Z7+Z0*Z2*Z2*Z3*Z3*Z3*Z4*Z6*Z7+Z0*Z2*Z3*Z3*Z3*Z3*Z4*Z4*Z5*Z6*Z7+Z1*Z2*Z2*Z2*Z2*Z3*Z3*Z3*Z4*Z4*Z5*Z6*Z7*Z7-Z1*Z2*Z2*Z2*Z2*Z3*Z4*Z4*Z5*Z6*Z6*Z7-Z1*Z2*Z2*Z2*Z3*Z3*Z3*Z3*Z4*Z5*Z5*Z7*Z7-Z1*Z2*Z2*Z2*Z3*Z3*Z4*Z4*Z4*Z6*Z6*Z7+Z1*Z2*Z2*Z2*Z3*Z3*Z4*Z6*Z7+Z1*Z2*Z2*Z3*Z3*Z3*Z5*Z5*Z5*Z7-Z1*Z2*Z2*Z3*Z3*Z3*Z5*Z7+Z1*Z2*Z3*Z3*Z3*Z3*Z4*Z5*Z5*Z7)
def cY1:RE:=(-(Z0*Z0*Z0*Z2*Z2*Z3*Z4*Z5*Z5*Z6*Z6*Z7)-Z0*Z0*Z0*Z2*Z3*Z3*Z4*Z4*Z5*Z6*Z6*Z7+Z0*Z0*Z0*Z2*Z4*Z4*Z5*Z5*Z5*Z6*Z6*Z7-Z0*Z0*Z0*Z2*Z4*Z4*Z5*Z6*Z6*Z6-Z0*Z0*Z0*Z2*Z5*Z5*Z5*Z6*Z6+Z0*Z0*Z0*Z2*Z5*Z6*Z6+Z0*Z0*Z0*Z3*Z4*Z4*Z4*Z5*Z5*Z6*Z6*Z7-Z0*Z0*Z0*Z3*Z4*Z4*Z4*Z6*Z6*Z6-Z0*Z0*Z0*Z3*Z4*Z5*Z5*Z6*Z6+Z0*Z0*Z0*Z3*Z4*Z6*Z6-Z0*Z0*Z1*Z2*Z2*Z3*Z4*Z4*Z5*Z5*Z5*Z6*Z7*Z7+Z0*Z0*Z1*Z2*Z2*Z3*Z4*Z4*Z5*Z6*Z6*Z7+Z0*Z0*Z1*Z2*Z3*Z3*Z4*Z4*Z4*Z5*Z5*Z6*Z7*Z7-Z0*Z0*Z1*Z2*Z3*Z3*Z4*Z5*Z5*Z6*Z7+Z0*Z0*Z1*Z2*Z4*Z4*Z4*Z5*Z5*Z6*Z6*Z7-Z0*Z0*Z1*Z2*Z4*Z4*Z4*Z6*Z6*Z6-Z0*Z0*Z1*Z2*Z4*Z5*Z5*Z6*Z6+Z0*Z0*Z1*Z2*Z4*Z6*Z6-Z0*Z0*Z1*Z3*Z4*Z4*Z5*Z5*Z5*Z6*Z7+Z0*Z0*Z1*Z3*Z4*Z4*Z5*Z6*Z6+Z0*Z0*Z1*Z3*Z5*Z5*Z5*Z6-Z0*Z0*Z1*Z3*Z5*Z6+Z0*Z1*Z1*Z2*Z2*Z3*Z4*Z4*Z4*Z5*Z5*Z6*Z7*Z7-Z0*Z1*Z1*Z2*Z2*Z3*Z4*Z5*Z5*Z6*Z7+Z0*Z1*Z1*Z2*Z3*Z3*Z4*Z4*Z5*Z5*Z5*Z7*Z7-Z0*Z1*Z1*Z2*Z3*Z3*Z4*Z4*Z5*Z6*Z7+Z0*Z1*Z1*Z2*Z4*Z4*Z5*Z5*Z5*Z6*Z7-Z0*Z1*Z1*Z2*Z4*Z4*Z5*Z6*Z6-Z0*Z1*Z1*Z2*Z5*Z5*Z5*Z6+Z0*Z1*Z1*Z2*Z5*Z6+Z0*Z1*Z1*Z3*Z4*Z4*Z4*Z5*Z5*Z6*Z7-Z0*Z1*Z1*Z3*Z4*Z4*Z4*Z6*Z6-Z0*Z1*Z1*Z3*Z4*Z5*Z5*Z6+Z0*Z1*Z1*Z3*Z4*Z6+Z0*Z2*Z2*Z3*Z4*Z5*Z5*Z6*Z7+Z0*Z2*Z3*Z3*Z4*Z4*Z5*Z6*Z7-Z0*Z2*Z4*Z4*Z5*Z5*Z5*Z6*Z7+Z0*Z2*Z4*Z4*Z5*Z6*Z6+Z0*Z2*Z5*Z5*Z5*Z6-Z0*Z2*Z5*Z6-Z0*Z3*Z4*Z4*Z4*Z5*Z5*Z6*Z7+Z0*Z3*Z4*Z4*Z4*Z6*Z6+Z0*Z3*Z4*Z5*Z5*Z6-Z0*Z3*Z4*Z6+Z1*Z1*Z1*Z2*Z2*Z3*Z4*Z4*Z5*Z6*Z7-Z1*Z1*Z1*Z2*Z3*Z3*Z4*Z5*Z5*Z7+Z1*Z1*Z1*Z2*Z4*Z4*Z4*Z5*Z5*Z6*Z7-Z1*Z1*Z1*Z2*Z4*Z4*Z4*Z6*Z6-Z1*Z1*Z1*Z2*Z4*Z5*Z5*Z6+Z1*Z1*Z1*Z2*Z4*Z6-Z1*Z1*Z1*Z3*Z4*Z4*Z5*Z5*Z5*Z7+Z1*Z1*Z1*Z3*Z4*Z4*Z5*Z6+Z1*Z1*Z1*Z3*Z5*Z5*Z5-Z1*Z1*Z1*Z3*Z5-Z1*Z2*Z2*Z3*Z4*Z4*Z5*Z6*Z7+Z1*Z2*Z3*Z3*Z4*Z5*Z5*Z7-Z1*Z2*Z4*Z4*Z4*Z5*Z5*Z6*Z7+Z1*Z2*Z4*Z4*Z4*Z6*Z6+Z1*Z2*Z4*Z5*Z5*Z6-Z1*Z2*Z4*Z6+Z1*Z3*Z4*Z4*Z5*Z5*Z5*Z7-Z1*Z3*Z4*Z4*Z5*Z6-Z1*Z3*Z5*Z5*Z5+Z1*Z3*Z5)
def cY2:RE:=(Z0*Z0*Z0*Z2*Z2*Z2*Z5*Z6*Z6*Z6+Z0*Z0*Z0*Z2*Z2*Z3*Z4*Z6*Z6*Z6+Z0*Z0*Z0*Z2*Z3*Z3*Z5*Z6*Z6-Z0*Z0*Z0*Z2*Z5*Z6*Z6+Z0*Z0*Z0*Z3*Z3*Z3*Z4*Z6*Z6-Z0*Z0*Z0*Z3*Z4*Z6*Z6+Z0*Z0*Z1*Z2*Z2*Z2*Z4*Z6*Z6*Z6-Z0*Z0*Z1*Z2*Z2*Z3*Z5*Z6*Z6+Z0*Z0*Z1*Z2*Z2*Z3*Z5*Z6*Z7+Z0*Z0*Z1*Z2*Z3*Z3*Z4*Z6*Z6-Z0*Z0*Z1*Z2*Z3*Z3*Z4*Z6*Z7-Z0*Z0*Z1*Z2*Z4*Z6*Z6-Z0*Z0*Z1*Z3*Z3*Z3*Z5*Z6+Z0*Z0*Z1*Z3*Z5*Z6+Z0*Z1*Z1*Z2*Z2*Z2*Z5*Z6*Z6+Z0*Z1*Z1*Z2*Z2*Z3*Z4*Z6*Z6-Z0*Z1*Z1*Z2*Z2*Z3*Z4*Z6*Z7+Z0*Z1*Z1*Z2*Z3*Z3*Z5*Z6-Z0*Z1*Z1*Z2*Z3*Z3*Z5*Z7-Z0*Z1*Z1*Z2*Z5*Z6+Z0*Z1*Z1*Z3*Z3*Z3*Z4*Z6-Z0*Z1*Z1*Z3*Z4*Z6-Z0*Z2*Z2*Z2*Z5*Z6*Z6-Z0*Z2*Z2*Z3*Z4*Z6*Z6-Z0*Z2*Z3*Z3*Z5*Z6+Z0*Z2*Z5*Z6-Z0*Z3*Z3*Z3*Z4*Z6+Z0*Z3*Z4*Z6+Z1*Z1*Z1*Z2*Z2*Z2*Z4*Z6*Z6-Z1*Z1*Z1*Z2*Z2*Z3*Z5*Z6+Z1*Z1*Z1*Z2*Z3*Z3*Z4*Z6-Z1*Z1*Z1*Z2*Z4*Z6-Z1*Z1*Z1*Z3*Z3*Z3*Z5+Z1*Z1*Z1*Z3*Z5-Z1*Z2*Z2*Z2*Z4*Z6*Z6+Z1*Z2*Z2*Z3*Z5*Z6-Z1*Z2*Z3*Z3*Z4*Z6+Z1*Z2*Z4*Z6+Z1*Z3*Z3*Z3*Z5-Z1*Z3*Z5)
section
variable {R:Type} (K:CR R) (inv:R→R) (a d:R)
def fF (x y:R):Prop:=K.add (K.mul a (K.mul x x)) (K.mul y y)=K.add K.one (K.mul d (K.mul (K.mul x x) (K.mul y y)))
def Aq (x1 y1 x2 y2:R):R:=K.mul d (K.mul (K.mul x1 x2) (K.mul y1 y2))
def LA (x1 y1 x2 y2:R):R:=K.add (K.mul x1 y2) (K.mul y1 x2)
def LB (x1 y1 x2 y2:R):R:=K.sub (K.mul y1 y2) (K.mul a (K.mul x1 x2))
def AY (x1 y1 x2 y2:R):R:=K.add K.one (Aq K d x1 y1 x2 y2)
def yJ (x1 y1 x2 y2:R):R:=K.sub K.one (Aq K d x1 y1 x2 y2)
variable {K} {a} {d}
theorem SA {x1 y1 x2 y2:R} (h1:fF K a d x1 y1) (h2:fF K a d x2 y2):K.add (K.mul a (K.mul (K.mul (LA K x1 y1 x2 y2) (yJ K d x1 y1 x2 y2)) (K.mul (LA K x1 y1 x2 y2) (yJ K d x1 y1 x2 y2)))) (K.mul (K.mul (LB K a x1 y1 x2 y2) (AY K d x1 y1 x2 y2)) (K.mul (LB K a x1 y1 x2 y2) (AY K d x1 y1 x2 y2)))=K.add (K.mul (K.mul (AY K d x1 y1 x2 y2) (yJ K d x1 y1 x2 y2)) (K.mul (AY K d x1 y1 x2 y2) (yJ K d x1 y1 x2 y2))) (K.mul d (K.mul (K.mul (LA K x1 y1 x2 y2) (LB K a x1 y1 x2 y2)) (K.mul (LA K x1 y1 x2 y2) (LB K a x1 y1 x2 y2)))) :=
 mV (K:=K) (c1:=RE.den K (cI K [x1,y1,x2,y2,K.zero,K.zero,a,d]) cC0) (c2:=RE.den K (cI K [x1,y1,x2,y2,K.zero,K.zero,a,d]) cC1) h1 h2 (aY K (cI K [x1,y1,x2,y2,K.zero,K.zero,a,d]) (Z6*((Z0*Z3+Z1*Z2)*(RE.one-Z7*(Z0*Z2*(Z1*Z3)))*((Z0*Z3+Z1*Z2)*(RE.one-Z7*(Z0*Z2*(Z1*Z3)))))+(Z1*Z3-Z6*(Z0*Z2))*(RE.one+Z7*(Z0*Z2*(Z1*Z3)))*((Z1*Z3-Z6*(Z0*Z2))*(RE.one+Z7*(Z0*Z2*(Z1*Z3))))-((RE.one+Z7*(Z0*Z2*(Z1*Z3)))*(RE.one-Z7*(Z0*Z2*(Z1*Z3)))*((RE.one+Z7*(Z0*Z2*(Z1*Z3)))*(RE.one-Z7*(Z0*Z2*(Z1*Z3))))+Z7*((Z0*Z3+Z1*Z2)*(Z1*Z3-Z6*(Z0*Z2))*((Z0*Z3+Z1*Z2)*(Z1*Z3-Z6*(Z0*Z2)))))) (.add (.mul cC0 (Z6*(Z0*Z0)+Z1*Z1-(RE.one+Z7*(Z0*Z0*(Z1*Z1))))) (.mul cC1 (Z6*(Z2*Z2)+Z3*Z3-(RE.one+Z7*(Z2*Z2*(Z3*Z3)))))) (by kernel_rfl))
theorem Ki {x1 y1 x2 y2 x3 y3:R} (h1:fF K a d x1 y1) (h2:fF K a d x2 y2) (h3:fF K a d x3 y3):K.mul (K.add (K.mul (K.mul (LA K x1 y1 x2 y2) (yJ K d x1 y1 x2 y2)) y3) (K.mul (K.mul (LB K a x1 y1 x2 y2) (AY K d x1 y1 x2 y2)) x3)) (K.add (K.mul (AY K d x2 y2 x3 y3) (yJ K d x2 y2 x3 y3)) (K.mul d (K.mul (K.mul (LA K x2 y2 x3 y3) (LB K a x2 y2 x3 y3)) (K.mul x1 y1))))=K.mul (K.add (K.mul (K.mul (LA K x2 y2 x3 y3) (yJ K d x2 y2 x3 y3)) y1) (K.mul (K.mul (LB K a x2 y2 x3 y3) (AY K d x2 y2 x3 y3)) x1)) (K.add (K.mul (AY K d x1 y1 x2 y2) (yJ K d x1 y1 x2 y2)) (K.mul d (K.mul (K.mul (LA K x1 y1 x2 y2) (LB K a x1 y1 x2 y2)) (K.mul x3 y3)))) :=
 tH (K:=K) (c1:=RE.den K (cI K [x1,y1,x2,y2,x3,y3,a,d]) cX0) (c2:=RE.den K (cI K [x1,y1,x2,y2,x3,y3,a,d]) cX1) (c3:=RE.den K (cI K [x1,y1,x2,y2,x3,y3,a,d]) cX2) h1 h2 h3 (aY K (cI K [x1,y1,x2,y2,x3,y3,a,d]) (((Z0*Z3+Z1*Z2)*(RE.one-Z7*(Z0*Z2*(Z1*Z3)))*Z5+(Z1*Z3-Z6*(Z0*Z2))*(RE.one+Z7*(Z0*Z2*(Z1*Z3)))*Z4)*((RE.one+Z7*(Z2*Z4*(Z3*Z5)))*(RE.one-Z7*(Z2*Z4*(Z3*Z5)))+Z7*((Z2*Z5+Z3*Z4)*(Z3*Z5-Z6*(Z2*Z4))*(Z0*Z1)))-((Z2*Z5+Z3*Z4)*(RE.one-Z7*(Z2*Z4*(Z3*Z5)))*Z1+(Z3*Z5-Z6*(Z2*Z4))*(RE.one+Z7*(Z2*Z4*(Z3*Z5)))*Z0)*((RE.one+Z7*(Z0*Z2*(Z1*Z3)))*(RE.one-Z7*(Z0*Z2*(Z1*Z3)))+Z7*((Z0*Z3+Z1*Z2)*(Z1*Z3-Z6*(Z0*Z2))*(Z4*Z5)))) (.add (.add (.mul cX0 (Z6*(Z0*Z0)+Z1*Z1-(RE.one+Z7*(Z0*Z0*(Z1*Z1))))) (.mul cX1 (Z6*(Z2*Z2)+Z3*Z3-(RE.one+Z7*(Z2*Z2*(Z3*Z3)))))) (.mul cX2 (Z6*(Z4*Z4)+Z5*Z5-(RE.one+Z7*(Z4*Z4*(Z5*Z5)))))) (by kernel_rfl))
theorem Kh {x1 y1 x2 y2 x3 y3:R} (h1:fF K a d x1 y1) (h2:fF K a d x2 y2) (h3:fF K a d x3 y3):K.mul (K.sub (K.mul (K.mul (LB K a x1 y1 x2 y2) (AY K d x1 y1 x2 y2)) y3) (K.mul a (K.mul (K.mul (LA K x1 y1 x2 y2) (yJ K d x1 y1 x2 y2)) x3))) (K.sub (K.mul (AY K d x2 y2 x3 y3) (yJ K d x2 y2 x3 y3)) (K.mul d (K.mul (K.mul (LA K x2 y2 x3 y3) (LB K a x2 y2 x3 y3)) (K.mul x1 y1))))=K.mul (K.sub (K.mul (K.mul (LB K a x2 y2 x3 y3) (AY K d x2 y2 x3 y3)) y1) (K.mul a (K.mul (K.mul (LA K x2 y2 x3 y3) (yJ K d x2 y2 x3 y3)) x1))) (K.sub (K.mul (AY K d x1 y1 x2 y2) (yJ K d x1 y1 x2 y2)) (K.mul d (K.mul (K.mul (LA K x1 y1 x2 y2) (LB K a x1 y1 x2 y2)) (K.mul x3 y3)))) :=
 tH (K:=K) (c1:=RE.den K (cI K [x1,y1,x2,y2,x3,y3,a,d]) cY0) (c2:=RE.den K (cI K [x1,y1,x2,y2,x3,y3,a,d]) cY1) (c3:=RE.den K (cI K [x1,y1,x2,y2,x3,y3,a,d]) cY2) h1 h2 h3 (aY K (cI K [x1,y1,x2,y2,x3,y3,a,d]) (((Z1*Z3-Z6*(Z0*Z2))*(RE.one+Z7*(Z0*Z2*(Z1*Z3)))*Z5-Z6*((Z0*Z3+Z1*Z2)*(RE.one-Z7*(Z0*Z2*(Z1*Z3)))*Z4))*((RE.one+Z7*(Z2*Z4*(Z3*Z5)))*(RE.one-Z7*(Z2*Z4*(Z3*Z5)))-Z7*((Z2*Z5+Z3*Z4)*(Z3*Z5-Z6*(Z2*Z4))*(Z0*Z1)))-((Z3*Z5-Z6*(Z2*Z4))*(RE.one+Z7*(Z2*Z4*(Z3*Z5)))*Z1-Z6*((Z2*Z5+Z3*Z4)*(RE.one-Z7*(Z2*Z4*(Z3*Z5)))*Z0))*((RE.one+Z7*(Z0*Z2*(Z1*Z3)))*(RE.one-Z7*(Z0*Z2*(Z1*Z3)))-Z7*((Z0*Z3+Z1*Z2)*(Z1*Z3-Z6*(Z0*Z2))*(Z4*Z5)))) (.add (.add (.mul cY0 (Z6*(Z0*Z0)+Z1*Z1-(RE.one+Z7*(Z0*Z0*(Z1*Z1))))) (.mul cY1 (Z6*(Z2*Z2)+Z3*Z3-(RE.one+Z7*(Z2*Z2*(Z3*Z3)))))) (.mul cY2 (Z6*(Z4*Z4)+Z5*Z5-(RE.one+Z7*(Z4*Z4*(Z5*Z5)))))) (by kernel_rfl))
theorem aCi {n m p q i j:R} (hF:(K.add (K.mul a (K.mul (K.mul n q) (K.mul n q))) (K.mul (K.mul m p) (K.mul m p)))=(K.add (K.mul (K.mul p q) (K.mul p q)) (K.mul d (K.mul (K.mul n m) (K.mul n m))))) (hi:(K.mul p i)=K.one) (hj:(K.mul q j)=K.one):(K.add (K.mul a (K.mul (K.mul n i) (K.mul n i))) (K.mul (K.mul m j) (K.mul m j)))=(K.add K.one (K.mul d (K.mul (K.mul (K.mul n i) (K.mul n i)) (K.mul (K.mul m j) (K.mul m j))))) :=
 tH (K:=K) (c1:=(K.mul (K.mul i j) (K.mul i j))) (c2:=(K.neg (K.mul (K.add (K.mul p i) K.one) (K.sub (K.mul (K.mul m j) (K.mul m j)) K.one)))) (c3:=(K.neg (K.mul (K.add (K.mul q j) K.one) (K.sub (K.mul a (K.mul (K.mul n i) (K.mul n i))) (K.mul (K.mul p i) (K.mul p i)))))) hF hi hj (aY K (cI K [n,m,p,q,i,j,a,d]) (Z6*(Z0*Z4*(Z0*Z4))+Z1*Z5*(Z1*Z5)-(RE.one+Z7*(Z0*Z4*(Z0*Z4)*(Z1*Z5*(Z1*Z5))))) (Z4*Z5*(Z4*Z5)*(Z6*(Z0*Z3*(Z0*Z3))+Z1*Z2*(Z1*Z2)-(Z2*Z3*(Z2*Z3)+Z7*(Z0*Z1*(Z0*Z1))))+(-((Z2*Z4+RE.one)*(Z1*Z5*(Z1*Z5)-RE.one)))*(Z2*Z4-RE.one)+(-((Z3*Z5+RE.one)*(Z6*(Z0*Z4*(Z0*Z4))-Z2*Z4*(Z2*Z4))))*(Z3*Z5-RE.one)) (by kernel_rfl))
theorem Ao {n m p q i j x y k:R} (hi:(K.mul p i)=K.one) (hj:(K.mul q j)=K.one) (hk:(K.mul (K.add K.one (K.mul d (K.mul (K.mul (K.mul n i) x) (K.mul (K.mul m j) y)))) k)=K.one):(K.mul (K.mul (K.add (K.mul (K.mul n i) y) (K.mul (K.mul m j) x)) k) (K.add (K.mul p q) (K.mul d (K.mul (K.mul n m) (K.mul x y)))))=(K.add (K.mul (K.mul n q) y) (K.mul (K.mul m p) x)) :=
 tH (K:=K) (c1:=(K.sub (K.mul (K.mul k (K.add (K.mul (K.mul n q) y) (K.mul (K.mul m p) x))) (K.mul q j)) (K.mul (K.mul k (K.add (K.mul p q) (K.mul d (K.mul (K.mul n m) (K.mul x y))))) (K.mul (K.mul m j) x)))) (c2:=(K.sub (K.mul k (K.add (K.mul (K.mul n q) y) (K.mul (K.mul m p) x))) (K.mul (K.mul k (K.add (K.mul p q) (K.mul d (K.mul (K.mul n m) (K.mul x y))))) (K.mul (K.mul n i) y)))) (c3:=(K.add (K.mul (K.mul n q) y) (K.mul (K.mul m p) x))) hi hj hk (aY K (cI K [n,m,p,q,i,j,x,y,k,d]) ((Z0*Z4*Z7+Z1*Z5*Z6)*Z8*(Z2*Z3+Z9*(Z0*Z1*(Z6*Z7)))-(Z0*Z3*Z7+Z1*Z2*Z6)) ((Z8*(Z0*Z3*Z7+Z1*Z2*Z6)*(Z3*Z5)-Z8*(Z2*Z3+Z9*(Z0*Z1*(Z6*Z7)))*(Z1*Z5*Z6))*(Z2*Z4-RE.one)+(Z8*(Z0*Z3*Z7+Z1*Z2*Z6)-Z8*(Z2*Z3+Z9*(Z0*Z1*(Z6*Z7)))*(Z0*Z4*Z7))*(Z3*Z5-RE.one)+(Z0*Z3*Z7+Z1*Z2*Z6)*((RE.one+Z9*(Z0*Z4*Z6*(Z1*Z5*Z7)))*Z8-RE.one)) (by kernel_rfl))
theorem An {n m p q i j x y k:R} (hi:(K.mul p i)=K.one) (hj:(K.mul q j)=K.one) (hk:(K.mul (K.sub K.one (K.mul d (K.mul (K.mul (K.mul n i) x) (K.mul (K.mul m j) y)))) k)=K.one):(K.mul (K.mul (K.sub (K.mul (K.mul m j) y) (K.mul a (K.mul (K.mul n i) x))) k) (K.sub (K.mul p q) (K.mul d (K.mul (K.mul n m) (K.mul x y)))))=(K.sub (K.mul (K.mul m p) y) (K.mul a (K.mul (K.mul n q) x))) :=
 tH (K:=K) (c1:=(K.sub (K.mul (K.mul k (K.sub (K.mul (K.mul m p) y) (K.mul a (K.mul (K.mul n q) x)))) (K.mul q j)) (K.mul (K.mul k (K.sub (K.mul p q) (K.mul d (K.mul (K.mul n m) (K.mul x y))))) (K.mul (K.mul m j) y)))) (c2:=(K.add (K.mul k (K.sub (K.mul (K.mul m p) y) (K.mul a (K.mul (K.mul n q) x)))) (K.mul (K.mul k (K.sub (K.mul p q) (K.mul d (K.mul (K.mul n m) (K.mul x y))))) (K.mul a (K.mul (K.mul n i) x))))) (c3:=(K.sub (K.mul (K.mul m p) y) (K.mul a (K.mul (K.mul n q) x)))) hi hj hk (aY K (cI K [n,m,p,q,i,j,x,y,k,a,d]) ((Z1*Z5*Z7-Z9*(Z0*Z4*Z6))*Z8*(Z2*Z3-Z10*(Z0*Z1*(Z6*Z7)))-(Z1*Z2*Z7-Z9*(Z0*Z3*Z6))) ((Z8*(Z1*Z2*Z7-Z9*(Z0*Z3*Z6))*(Z3*Z5)-Z8*(Z2*Z3-Z10*(Z0*Z1*(Z6*Z7)))*(Z1*Z5*Z7))*(Z2*Z4-RE.one)+(Z8*(Z1*Z2*Z7-Z9*(Z0*Z3*Z6))+Z8*(Z2*Z3-Z10*(Z0*Z1*(Z6*Z7)))*(Z9*(Z0*Z4*Z6)))*(Z3*Z5-RE.one)+(Z1*Z2*Z7-Z9*(Z0*Z3*Z6))*((RE.one-Z10*(Z0*Z4*Z6*(Z1*Z5*Z7)))*Z8-RE.one)) (by kernel_rfl))
theorem Ap {n m p q i j x y:R} (hi:(K.mul p i)=K.one) (hj:(K.mul q j)=K.one):(K.add K.one (K.mul d (K.mul (K.mul (K.mul n i) x) (K.mul (K.mul m j) y))))=(K.mul (K.mul i j) (K.add (K.mul p q) (K.mul d (K.mul (K.mul n m) (K.mul x y))))) :=
 mV (K:=K) (c1:=(K.neg (K.mul q j))) (c2:=(K.neg K.one)) hi hj (aY K (cI K [n,m,p,q,i,j,x,y,d]) (RE.one+Z8*(Z0*Z4*Z6*(Z1*Z5*Z7))-Z4*Z5*(Z2*Z3+Z8*(Z0*Z1*(Z6*Z7)))) ((-(Z3*Z5))*(Z2*Z4-RE.one)+(-RE.one)*(Z3*Z5-RE.one)) (by kernel_rfl))
theorem OO {n m p q i j x y:R} (hi:(K.mul p i)=K.one) (hj:(K.mul q j)=K.one):(K.sub K.one (K.mul d (K.mul (K.mul (K.mul n i) x) (K.mul (K.mul m j) y))))=(K.mul (K.mul i j) (K.sub (K.mul p q) (K.mul d (K.mul (K.mul n m) (K.mul x y))))) :=
 mV (K:=K) (c1:=(K.neg (K.mul q j))) (c2:=(K.neg K.one)) hi hj (aY K (cI K [n,m,p,q,i,j,x,y,d]) (RE.one-Z8*(Z0*Z4*Z6*(Z1*Z5*Z7))-Z4*Z5*(Z2*Z3-Z8*(Z0*Z1*(Z6*Z7)))) ((-(Z3*Z5))*(Z2*Z4-RE.one)+(-RE.one)*(Z3*Z5-RE.one)) (by kernel_rfl))
theorem FU {u v D G N M:R} (h1:(K.mul u D)=N) (h2:(K.mul v G)=M) (h3:(K.mul N G)=(K.mul M D)):(K.mul (K.mul D G) u)=(K.mul (K.mul D G) v) :=
 tH (K:=K) (c1:=G) (c2:=(K.neg D)) (c3:=K.one) h1 h2 h3 (aY K (cI K [u,v,D,G,N,M]) (Z2*Z3*Z0-Z2*Z3*Z1) (Z3*(Z0*Z2-Z4)+(-Z2)*(Z1*Z3-Z5)+RE.one*(Z4*Z3-Z5*Z2)) (by kernel_rfl))
theorem aCh {s x1 y1 x2 y2 e:R} (h1:(K.add (K.mul (K.mul s s) (K.mul x1 x1)) (K.mul y1 y1))=(K.add K.one (K.mul d (K.mul (K.mul x1 x1) (K.mul y1 y1))))) (h2:(K.add (K.mul (K.mul s s) (K.mul x2 x2)) (K.mul y2 y2))=(K.add K.one (K.mul d (K.mul (K.mul x2 x2) (K.mul y2 y2))))) (ht:(K.mul d (K.mul (K.mul x1 x2) (K.mul y1 y2)))=e) (he:(K.mul e e)=K.one):(K.mul (K.add (K.mul s x1) (K.mul e y1)) (K.add (K.mul s x1) (K.mul e y1)))=(K.mul d (K.mul (K.mul (K.mul x1 y1) (K.add (K.mul s x2) y2)) (K.mul (K.mul x1 y1) (K.add (K.mul s x2) y2)))) :=
 Oj (K:=K) (c1:=K.one) (c2:=(K.neg (K.mul d (K.mul (K.mul x1 x1) (K.mul y1 y1))))) (c3:=(K.sub (K.neg (K.add (K.mul d (K.mul (K.mul x1 x2) (K.mul y1 y2))) e)) (K.mul (K.add K.one K.one) (K.mul s (K.mul x1 y1))))) (c4:=(K.sub (K.mul y1 y1) K.one)) h1 h2 ht he (aY K (cI K [s,x1,y1,x2,y2,e,d]) ((Z0*Z1+Z5*Z2)*(Z0*Z1+Z5*Z2)-Z6*(Z1*Z2*(Z0*Z3+Z4)*(Z1*Z2*(Z0*Z3+Z4)))) (RE.one*(Z0*Z0*(Z1*Z1)+Z2*Z2-(RE.one+Z6*(Z1*Z1*(Z2*Z2))))+(-(Z6*(Z1*Z1*(Z2*Z2))))*(Z0*Z0*(Z3*Z3)+Z4*Z4-(RE.one+Z6*(Z3*Z3*(Z4*Z4))))+(-(Z6*(Z1*Z3*(Z2*Z4))+Z5)-(RE.one+RE.one)*(Z0*(Z1*Z2)))*(Z6*(Z1*Z3*(Z2*Z4))-Z5)+(Z2*Z2-RE.one)*(Z5*Z5-RE.one)) (by kernel_rfl))
variable (K) (a) (d)
def KZ (x1 y1 x2 y2:R):R:=K.mul (LA K x1 y1 x2 y2) (inv (AY K d x1 y1 x2 y2))
def KY (x1 y1 x2 y2:R):R:=K.mul (LB K a x1 y1 x2 y2) (inv (yJ K d x1 y1 x2 y2))
structure ED:Prop where
 F:FD K inv
 two:K.add K.one K.one≠K.zero
 sq:∃s,K.mul s s=a
 ns:∀x,K.mul x x≠d
variable {K} {inv} {a} {d}
theorem ED.v0 (E:ED K inv a d) {s x1 y1 x2 y2 e:R} (hs:K.mul s s=a) (h1:fF K a d x1 y1) (h2:fF K a d x2 y2) (ht:Aq K d x1 y1 x2 y2=e) (he:K.mul e e=K.one) (hw:K.mul x1 y1≠K.zero):K.add (K.mul s x2) y2=K.zero:=by
 subst hs;refine Classical.byContradiction fun hv => ?_
 have h:=aCh h1 h2 ht he;have hk:=E.F.inv _ (E.F.mul_ne hw hv);generalize K.mul (K.mul x1 y1) (K.add (K.mul s x2) y2)=z at h hk;generalize K.add (K.mul s x1) (K.mul e y1)=u at h;generalize inv z=k at hk;refine E.ns (K.mul u k) ?_;exact mV (K:=K) (c1:=(K.mul k k)) (c2:=(K.mul d (K.add (K.mul z k) K.one))) h hk (aY K (cI K [u,k,d,z]) (Z0*Z1*(Z0*Z1)-Z2) (Z1*Z1*(Z0*Z0-Z2*(Z3*Z3))+Z2*(Z3*Z1+RE.one)*(Z3*Z1-RE.one)) (by kernel_rfl))
theorem ED.ne (E:ED K inv a d) {x1 y1 x2 y2 e:R} (h1:fF K a d x1 y1) (h2:fF K a d x2 y2) (ht:Aq K d x1 y1 x2 y2=e) (he:K.mul e e=K.one):False:=by
 obtain⟨s,hs⟩:=E.sq;have e0:e≠K.zero:=fun q=>by
  rw[q,K.zero_mul]at he;exact E.F.ne he.symm
 have hw:K.mul x1 y1≠K.zero:=fun q=>e0 (by
  rw[←ht];exact iM (K:=K) (c1:=(K.mul d (K.mul x2 y2))) q (aY K (cI K [x1,y1,x2,y2,d]) (Z4*(Z0*Z2*(Z1*Z3))-RE.zero) (Z4*(Z2*Z3)*(Z0*Z1-RE.zero)) (by kernel_rfl)))
 have a1:=E.v0 hs h1 h2 ht he hw;have a2:=E.v0 (s:=K.neg s) (by rw[←hs]; exact aY K (cI K [s]) ((-Z0)*(-Z0)) (Z0*Z0) (by kernel_rfl)) h1 h2 ht he hw;have hy:K.mul (K.add K.one K.one) y2=K.zero:=mV (K:=K) (c1:=K.one) (c2:=K.one) a1 a2 (aY K (cI K [s,x2,y2]) ((RE.one+RE.one)*Z2-RE.zero) (RE.one*(Z0*Z1+Z2-RE.zero)+RE.one*((-Z0)*Z1+Z2-RE.zero)) (by kernel_rfl));have hy:=E.F.zd hy E.two;refine e0 ?_;rw[←ht];unfold Aq;rw[hy,K.mul_zero,K.mul_zero,K.mul_zero]
theorem ED.pne (E:ED K inv a d) {x1 y1 x2 y2:R} (h1:fF K a d x1 y1) (h2:fF K a d x2 y2):AY K d x1 y1 x2 y2≠K.zero:=fun q =>
 E.ne (e:=K.neg K.one) h1 h2 (by
  show Aq K d x1 y1 x2 y2=_;unfold AY at q;generalize Aq K d x1 y1 x2 y2=t at q;exact iM (K:=K) (c1:=K.one) q (aY K (cI K [t]) (Z0-(-RE.one)) (RE.one*(RE.one+Z0-RE.zero)) (by kernel_rfl))) (aY K (cI K []) ((-RE.one)*(-RE.one)) .one (by kernel_rfl))
theorem ED.qne (E:ED K inv a d) {x1 y1 x2 y2:R} (h1:fF K a d x1 y1) (h2:fF K a d x2 y2):yJ K d x1 y1 x2 y2≠K.zero:=fun q =>
 E.ne (e:=K.one) h1 h2 (by
  show Aq K d x1 y1 x2 y2=_;unfold yJ at q;generalize Aq K d x1 y1 x2 y2=t at q;exact iM (K:=K) (c1:=(K.neg K.one)) q (aY K (cI K [t]) (Z0-RE.one) ((-RE.one)*(RE.one-Z0-RE.zero)) (by kernel_rfl))) (K.one_mul _)
theorem ED.ip (E:ED K inv a d) {x1 y1 x2 y2:R} (h1:fF K a d x1 y1) (h2:fF K a d x2 y2):K.mul (AY K d x1 y1 x2 y2) (inv (AY K d x1 y1 x2 y2))=K.one:=E.F.inv _ (E.pne h1 h2)
theorem ED.iq (E:ED K inv a d) {x1 y1 x2 y2:R} (h1:fF K a d x1 y1) (h2:fF K a d x2 y2):K.mul (yJ K d x1 y1 x2 y2) (inv (yJ K d x1 y1 x2 y2))=K.one:=E.F.inv _ (E.qne h1 h2)
theorem ED.on (E:ED K inv a d) {x1 y1 x2 y2:R} (h1:fF K a d x1 y1) (h2:fF K a d x2 y2):fF K a d (KZ K inv d x1 y1 x2 y2) (KY K inv a d x1 y1 x2 y2) :=
 aCi (SA h1 h2) (E.ip h1 h2) (E.iq h1 h2)
theorem ED.assX (E:ED K inv a d) {x1 y1 x2 y2 x3 y3:R} (h1:fF K a d x1 y1) (h2:fF K a d x2 y2) (h3:fF K a d x3 y3):KZ K inv d (KZ K inv d x1 y1 x2 y2) (KY K inv a d x1 y1 x2 y2) x3 y3=KZ K inv d (KZ K inv d x2 y2 x3 y3) (KY K inv a d x2 y2 x3 y3) x1 y1:=by
 have b1:=E.pne (E.on h1 h2) h3;have b2:=E.pne (E.on h2 h3) h1;have c1:=Ao (E.ip h1 h2) (E.iq h1 h2) (E.ip (E.on h1 h2) h3);have c2:=Ao (E.ip h2 h3) (E.iq h2 h3) (E.ip (E.on h2 h3) h1);refine E.F.cancel (E.F.mul_ne (fun z=>b1 ?_) fun z=>b2 ?_) (FU c1 c2 (Ki h1 h2 h3))
 ·refine (Ap (E.ip h1 h2) (E.iq h1 h2)).trans ?_;rw[z,K.mul_zero]
 ·refine (Ap (E.ip h2 h3) (E.iq h2 h3)).trans ?_;rw[z,K.mul_zero]
theorem ED.assY (E:ED K inv a d) {x1 y1 x2 y2 x3 y3:R} (h1:fF K a d x1 y1) (h2:fF K a d x2 y2) (h3:fF K a d x3 y3):KY K inv a d (KZ K inv d x1 y1 x2 y2) (KY K inv a d x1 y1 x2 y2) x3 y3=KY K inv a d (KZ K inv d x2 y2 x3 y3) (KY K inv a d x2 y2 x3 y3) x1 y1:=by
 have b1:=E.qne (E.on h1 h2) h3;have b2:=E.qne (E.on h2 h3) h1;have c1:=An (a:=a) (E.ip h1 h2) (E.iq h1 h2) (E.iq (E.on h1 h2) h3);have c2:=An (a:=a) (E.ip h2 h3) (E.iq h2 h3) (E.iq (E.on h2 h3) h1);refine E.F.cancel (E.F.mul_ne (fun z=>b1 ?_) fun z=>b2 ?_) (FU c1 c2 (Kh h1 h2 h3))
 ·refine (OO (E.ip h1 h2) (E.iq h1 h2)).trans ?_;rw[z,K.mul_zero]
 ·refine (OO (E.ip h2 h3) (E.iq h2 h3)).trans ?_;rw[z,K.mul_zero]
theorem ED.comX (x1 y1 x2 y2:R):KZ K inv d x1 y1 x2 y2=KZ K inv d x2 y2 x1 y1:=by
 unfold KZ LA AY Aq;rw[K.mul_comm x1 x2,K.mul_comm y1 y2,K.add_comm (K.mul x1 y2),K.mul_comm y1 x2,K.mul_comm x1 y2]
theorem ED.comY (x1 y1 x2 y2:R):KY K inv a d x1 y1 x2 y2=KY K inv a d x2 y2 x1 y1:=by
 unfold KY LB yJ Aq;rw[K.mul_comm x1 x2,K.mul_comm y1 y2]
theorem ED.i1 (E:ED K inv a d):inv K.one=K.one:=by
 have:=E.F.inv K.one E.F.ne
 rwa [K.one_mul]at this
theorem Uz:fF K a d K.zero K.one:=by
 show K.add (K.mul a (K.mul K.zero K.zero)) (K.mul K.one K.one)=K.add K.one (K.mul d (K.mul (K.mul K.zero K.zero) (K.mul K.one K.one)));exact aY K (cI K [a,d]) (Z0*(RE.zero*RE.zero)+RE.one*RE.one) (RE.one+Z1*(RE.zero*RE.zero*(RE.one*RE.one))) (by kernel_rfl)
theorem Am {x y:R} (h:fF K a d x y):fF K a d (K.neg x) y:=by
 show K.add (K.mul a (K.mul (K.neg x) (K.neg x))) (K.mul y y)=K.add K.one (K.mul d (K.mul (K.mul (K.neg x) (K.neg x)) (K.mul y y)));have e:K.mul (K.neg x) (K.neg x)=K.mul x x:=aY K (cI K [x]) ((-Z0)*(-Z0)) (Z0*Z0) (by kernel_rfl);rw[e];exact h
theorem ED.zX (E:ED K inv a d) (x y:R):KZ K inv d K.zero K.one x y=x:=by
 have e1:AY K d K.zero K.one x y=K.one:=aY K (cI K [x,y,d]) (RE.one+Z2*(RE.zero*Z0*(RE.one*Z1))) .one (by kernel_rfl);unfold KZ;rw[e1,E.i1];exact aY K (cI K [x,y]) ((RE.zero*Z1+RE.one*Z0)*RE.one) (.v 0) (by kernel_rfl)
theorem ED.zY (E:ED K inv a d) (x y:R):KY K inv a d K.zero K.one x y=y:=by
 have e1:yJ K d K.zero K.one x y=K.one:=aY K (cI K [x,y,d]) (RE.one-Z2*(RE.zero*Z0*(RE.one*Z1))) .one (by kernel_rfl);unfold KY;rw[e1,E.i1];exact aY K (cI K [x,y,a]) ((RE.one*Z1-Z2*(RE.zero*Z0))*RE.one) (.v 1) (by kernel_rfl)
theorem ED.nX (E:ED K inv a d) (x y:R):KZ K inv d (K.neg x) y x y=K.zero:=by
 have e1:LA K (K.neg x) y x y=K.zero:=aY K (cI K [x,y]) ((-Z0)*Z1+Z1*Z0) .zero (by kernel_rfl);unfold KZ;rw[e1,K.zero_mul]
theorem ED.nY (E:ED K inv a d) {x y:R} (h:fF K a d x y):KY K inv a d (K.neg x) y x y=K.one:=by
 have e1:LB K a (K.neg x) y x y=yJ K d (K.neg x) y x y:=iM (K:=K) (c1:=K.one) h (aY K (cI K [x,y,a,d]) (Z1*Z1-Z2*((-Z0)*Z0)-(RE.one-Z3*((-Z0)*Z0*(Z1*Z1)))) (RE.one*(Z2*(Z0*Z0)+Z1*Z1-(RE.one+Z3*(Z0*Z0*(Z1*Z1))))) (by kernel_rfl));unfold KY;rw[e1];exact E.iq (Am h) h
variable (K) (a) (d)
abbrev MQ:={p:R×R // fF K a d p.1 p.2}
variable {K} {a} {d}
def ED.grp (E:ED K inv a d):AG (MQ K a d) where
 add p q:=⟨(KZ K inv d p.1.1 p.1.2 q.1.1 q.1.2,KY K inv a d p.1.1 p.1.2 q.1.1 q.1.2),E.on p.2 q.2⟩
 neg p:=⟨(K.neg p.1.1,p.1.2),Am p.2⟩
 zero:=⟨(K.zero,K.one),Uz⟩
 assoc p q r:=Subtype.ext (Prod.ext ((E.assX p.2 q.2 r.2).trans (ED.comX _ _ _ _)) ((E.assY p.2 q.2 r.2).trans (ED.comY _ _ _ _)))
 comm p q:=Subtype.ext (Prod.ext (ED.comX _ _ _ _) (ED.comY _ _ _ _))
 zadd p:=Subtype.ext (Prod.ext (E.zX _ _) (E.zY _ _))
 nadd p:=Subtype.ext (Prod.ext (E.nX _ _) (E.nY p.2))
end
section
variable {R:Type} {K:CR R} {inv:R→R} {a d:R}
theorem wpZ (x y z u v w d:R)  : (K.mul (K.sub (K.mul (K.mul z w) (K.mul z w)) (K.mul d (K.mul (K.mul (K.mul x z) (K.mul u w)) (K.mul (K.mul y z) (K.mul v w))))) (K.add (K.mul (K.mul z w) (K.mul z w)) (K.mul d (K.mul (K.mul (K.mul x z) (K.mul u w)) (K.mul (K.mul y z) (K.mul v w))))))=(K.mul (K.mul (K.mul z w) (K.mul z w)) (K.mul (K.mul (K.mul z w) (K.mul z w)) (K.mul (K.sub K.one (K.mul d (K.mul (K.mul x u) (K.mul y v)))) (K.add K.one (K.mul d (K.mul (K.mul x u) (K.mul y v))))))) :=
 aY K (cI K [x,y,z,u,v,w,d]) ((Z2*Z5*(Z2*Z5)-Z6*(Z0*Z2*(Z3*Z5)*(Z1*Z2*(Z4*Z5))))*(Z2*Z5*(Z2*Z5)+Z6*(Z0*Z2*(Z3*Z5)*(Z1*Z2*(Z4*Z5))))) (Z2*Z5*(Z2*Z5)*(Z2*Z5*(Z2*Z5)*((RE.one-Z6*(Z0*Z3*(Z1*Z4)))*(RE.one+Z6*(Z0*Z3*(Z1*Z4)))))) (by kernel_rfl)
theorem wpX (x y z u v w d i:R) (hi:(K.mul (K.add K.one (K.mul d (K.mul (K.mul x u) (K.mul y v)))) i)=K.one):(K.mul (K.mul (K.mul z w) (K.sub (K.mul (K.mul z w) (K.mul z w)) (K.mul d (K.mul (K.mul (K.mul x z) (K.mul u w)) (K.mul (K.mul y z) (K.mul v w)))))) (K.sub (K.sub (K.mul (K.add (K.mul x z) (K.mul y z)) (K.add (K.mul u w) (K.mul v w))) (K.mul (K.mul x z) (K.mul u w))) (K.mul (K.mul y z) (K.mul v w))))=(K.mul (K.mul (K.add (K.mul x v) (K.mul y u)) i) (K.mul (K.sub (K.mul (K.mul z w) (K.mul z w)) (K.mul d (K.mul (K.mul (K.mul x z) (K.mul u w)) (K.mul (K.mul y z) (K.mul v w))))) (K.add (K.mul (K.mul z w) (K.mul z w)) (K.mul d (K.mul (K.mul (K.mul x z) (K.mul u w)) (K.mul (K.mul y z) (K.mul v w))))))) :=
 iM (K:=K) (c1:=(K.neg (K.mul (K.add (K.mul x v) (K.mul y u)) (K.mul (K.mul (K.mul z w) (K.mul z w)) (K.mul (K.mul (K.mul z w) (K.mul z w)) (K.sub K.one (K.mul d (K.mul (K.mul x u) (K.mul y v))))))))) hi (aY K (cI K [x,y,z,u,v,w,d,i]) (Z2*Z5*(Z2*Z5*(Z2*Z5)-Z6*(Z0*Z2*(Z3*Z5)*(Z1*Z2*(Z4*Z5))))*((Z0*Z2+Z1*Z2)*(Z3*Z5+Z4*Z5)-Z0*Z2*(Z3*Z5)-Z1*Z2*(Z4*Z5))-(Z0*Z4+Z1*Z3)*Z7*((Z2*Z5*(Z2*Z5)-Z6*(Z0*Z2*(Z3*Z5)*(Z1*Z2*(Z4*Z5))))*(Z2*Z5*(Z2*Z5)+Z6*(Z0*Z2*(Z3*Z5)*(Z1*Z2*(Z4*Z5)))))) ((-((Z0*Z4+Z1*Z3)*(Z2*Z5*(Z2*Z5)*(Z2*Z5*(Z2*Z5)*(RE.one-Z6*(Z0*Z3*(Z1*Z4)))))))*((RE.one+Z6*(Z0*Z3*(Z1*Z4)))*Z7-RE.one)) (by kernel_rfl))
theorem wpY (x y z u v w a d j:R) (hj:(K.mul (K.sub K.one (K.mul d (K.mul (K.mul x u) (K.mul y v)))) j)=K.one):(K.mul (K.mul (K.mul z w) (K.add (K.mul (K.mul z w) (K.mul z w)) (K.mul d (K.mul (K.mul (K.mul x z) (K.mul u w)) (K.mul (K.mul y z) (K.mul v w)))))) (K.sub (K.mul (K.mul y z) (K.mul v w)) (K.mul a (K.mul (K.mul x z) (K.mul u w)))))=(K.mul (K.mul (K.sub (K.mul y v) (K.mul a (K.mul x u))) j) (K.mul (K.sub (K.mul (K.mul z w) (K.mul z w)) (K.mul d (K.mul (K.mul (K.mul x z) (K.mul u w)) (K.mul (K.mul y z) (K.mul v w))))) (K.add (K.mul (K.mul z w) (K.mul z w)) (K.mul d (K.mul (K.mul (K.mul x z) (K.mul u w)) (K.mul (K.mul y z) (K.mul v w))))))) :=
 iM (K:=K) (c1:=(K.neg (K.mul (K.sub (K.mul y v) (K.mul a (K.mul x u))) (K.mul (K.mul (K.mul z w) (K.mul z w)) (K.mul (K.mul (K.mul z w) (K.mul z w)) (K.add K.one (K.mul d (K.mul (K.mul x u) (K.mul y v))))))))) hj (aY K (cI K [x,y,z,u,v,w,a,d,j]) (Z2*Z5*(Z2*Z5*(Z2*Z5)+Z7*(Z0*Z2*(Z3*Z5)*(Z1*Z2*(Z4*Z5))))*(Z1*Z2*(Z4*Z5)-Z6*(Z0*Z2*(Z3*Z5)))-(Z1*Z4-Z6*(Z0*Z3))*Z8*((Z2*Z5*(Z2*Z5)-Z7*(Z0*Z2*(Z3*Z5)*(Z1*Z2*(Z4*Z5))))*(Z2*Z5*(Z2*Z5)+Z7*(Z0*Z2*(Z3*Z5)*(Z1*Z2*(Z4*Z5)))))) ((-((Z1*Z4-Z6*(Z0*Z3))*(Z2*Z5*(Z2*Z5)*(Z2*Z5*(Z2*Z5)*(RE.one+Z7*(Z0*Z3*(Z1*Z4)))))))*((RE.one-Z7*(Z0*Z3*(Z1*Z4)))*Z8-RE.one)) (by kernel_rfl))
theorem wdM (x y z a d:R) (he:(K.add (K.mul a (K.mul x x)) (K.mul y y))=(K.add K.one (K.mul d (K.mul (K.mul x x) (K.mul y y))))):(K.add (K.mul a (K.mul (K.mul x z) (K.mul x z))) (K.mul (K.mul y z) (K.mul y z)))=(K.mul (K.mul z z) (K.add K.one (K.mul d (K.mul (K.mul x x) (K.mul y y))))) :=
 iM (K:=K) (c1:=(K.mul z z)) he (aY K (cI K [x,y,z,a,d]) (Z3*(Z0*Z2*(Z0*Z2))+Z1*Z2*(Z1*Z2)-Z2*Z2*(RE.one+Z4*(Z0*Z0*(Z1*Z1)))) (Z2*Z2*(Z3*(Z0*Z0)+Z1*Z1-(RE.one+Z4*(Z0*Z0*(Z1*Z1))))) (by kernel_rfl))
theorem wdL (x y z a d:R) (he:(K.add (K.mul a (K.mul x x)) (K.mul y y))=(K.add K.one (K.mul d (K.mul (K.mul x x) (K.mul y y))))):(K.sub (K.add (K.mul z z) (K.mul z z)) (K.add (K.mul a (K.mul (K.mul x z) (K.mul x z))) (K.mul (K.mul y z) (K.mul y z))))=(K.mul (K.mul z z) (K.sub K.one (K.mul d (K.mul (K.mul x x) (K.mul y y))))) :=
 iM (K:=K) (c1:=(K.neg (K.mul z z))) he (aY K (cI K [x,y,z,a,d]) (Z2*Z2+Z2*Z2-(Z3*(Z0*Z2*(Z0*Z2))+Z1*Z2*(Z1*Z2))-Z2*Z2*(RE.one-Z4*(Z0*Z0*(Z1*Z1)))) ((-(Z2*Z2))*(Z3*(Z0*Z0)+Z1*Z1-(RE.one+Z4*(Z0*Z0*(Z1*Z1))))) (by kernel_rfl))
theorem wdA (x y z:R)  : (K.sub (K.sub (K.mul (K.add (K.mul x z) (K.mul y z)) (K.add (K.mul x z) (K.mul y z))) (K.mul (K.mul x z) (K.mul x z))) (K.mul (K.mul y z) (K.mul y z)))=(K.mul (K.mul z z) (K.add (K.mul x y) (K.mul y x))) :=
 aY K (cI K [x,y,z]) ((Z0*Z2+Z1*Z2)*(Z0*Z2+Z1*Z2)-Z0*Z2*(Z0*Z2)-Z1*Z2*(Z1*Z2)) (Z2*Z2*(Z0*Z1+Z1*Z0)) (by kernel_rfl)
theorem wdE (x y z a:R)  : (K.sub (K.mul (K.mul y z) (K.mul y z)) (K.mul a (K.mul (K.mul x z) (K.mul x z))))=(K.mul (K.mul z z) (K.sub (K.mul y y) (K.mul a (K.mul x x)))) :=
 aY K (cI K [x,y,z,a]) (Z1*Z2*(Z1*Z2)-Z3*(Z0*Z2*(Z0*Z2))) (Z2*Z2*(Z1*Z1-Z3*(Z0*Z0))) (by kernel_rfl)
theorem wdX (n q p i s:R) (hi:(K.mul p i)=K.one):(K.mul (K.mul s n) (K.mul s q))=(K.mul (K.mul n i) (K.mul (K.mul s p) (K.mul s q))) :=
 iM (K:=K) (c1:=(K.neg (K.mul n (K.mul s (K.mul s q))))) hi (aY K (cI K [n,q,p,i,s]) (Z4*Z0*(Z4*Z1)-Z0*Z3*(Z4*Z2*(Z4*Z1))) ((-(Z0*(Z4*(Z4*Z1))))*(Z2*Z3-RE.one)) (by kernel_rfl))
theorem wdY (m q p j s:R) (hj:(K.mul q j)=K.one):(K.mul (K.mul s p) (K.mul s m))=(K.mul (K.mul m j) (K.mul (K.mul s p) (K.mul s q))) :=
 iM (K:=K) (c1:=(K.neg (K.mul m (K.mul s (K.mul s p))))) hj (aY K (cI K [m,q,p,j,s]) (Z4*Z2*(Z4*Z0)-Z0*Z3*(Z4*Z2*(Z4*Z1))) ((-(Z0*(Z4*(Z4*Z2))))*(Z1*Z3-RE.one)) (by kernel_rfl))
variable (K) (a) (d)
def FV (p q:R×R×R):R×R×R :=
 let z:=K.mul p.2.2 q.2.2
 let x:=K.mul p.1 q.1
 let y:=K.mul p.2.1 q.2.1
 let both:=K.mul d (K.mul x y)
 let square:=K.mul z z
 let more:=K.add square both
 let less:=K.sub square both
 let across:=K.sub (K.sub (K.mul (K.add p.1 p.2.1) (K.add q.1 q.2.1)) x) y
 (K.mul (K.mul z less) across,K.mul (K.mul z more) (K.sub y (K.mul a x)),K.mul less more)
def FW (p:R×R×R):R×R×R :=
 let x:=K.mul p.1 p.1
 let y:=K.mul p.2.1 p.2.1
 let z:=K.mul p.2.2 p.2.2
 let across:=K.sub (K.sub (K.mul (K.add p.1 p.2.1) (K.add p.1 p.2.1)) x) y
 let ax:=K.mul a x
 let more:=K.add ax y
 let less:=K.sub (K.add z z) more
 (K.mul across less,K.mul more (K.sub y ax),K.mul more less)
def oM (p:R×R×R) (P:MQ K a d):Prop:=p.1=K.mul P.1.1 p.2.2∧p.2.1=K.mul P.1.2 p.2.2∧p.2.2≠K.zero
variable {K} {a} {d}
theorem ED.sum (E:ED K inv a d) {p q:R×R×R} {P Q:MQ K a d} (hp:oM K a d p P) (hq:oM K a d q Q):oM K a d (FV K a d p q) (E.grp.add P Q):=by
 obtain⟨⟨x,y⟩,h1⟩:=P;obtain⟨⟨u,v⟩,h2⟩:=Q;obtain⟨X,Y,z⟩:=p;obtain⟨U,V,w⟩:=q;obtain⟨rfl,rfl,hz⟩:X=K.mul x z∧Y=K.mul y z∧z≠K.zero:=hp;obtain⟨rfl,rfl,hw⟩:U=K.mul u w∧V=K.mul v w∧w≠K.zero:=hq;have hs:=E.F.mul_ne (E.F.mul_ne hz hw) (E.F.mul_ne hz hw);refine⟨wpX x y z u v w d _ (E.ip h1 h2),wpY x y z u v w a d _ (E.iq h1 h2),?_⟩;intro e;exact E.F.mul_ne hs (E.F.mul_ne hs (E.F.mul_ne (E.qne h1 h2) (E.pne h1 h2))) ((wpZ x y z u v w d).symm.trans e)
theorem ED.dbl (E:ED K inv a d) {p:R×R×R} {P:MQ K a d} (hp:oM K a d p P):oM K a d (FW K a p) (E.grp.add P P):=by
 obtain⟨⟨x,y⟩,h1⟩:=P;obtain⟨X,Y,z⟩:=p;obtain⟨rfl,rfl,hz⟩:X=K.mul x z∧Y=K.mul y z∧z≠K.zero:=hp;have hs:=E.F.mul_ne hz hz;have eM:=wdM x y z a d h1;have eL:=wdL x y z a d h1;have eA:=wdA (K:=K) x y z;have eB:=wdE (K:=K) x y z a;show K.mul _ _=K.mul _ (K.mul _ _)∧K.mul _ _=K.mul _ (K.mul _ _)∧K.mul _ _≠K.zero;simp only[];rw[eL,eM,eA,eB];refine⟨wdX _ _ _ _ _ (E.ip h1 h1),wdY _ _ _ _ _ (E.iq h1 h1),?_⟩;exact E.F.mul_ne (E.F.mul_ne hs (E.pne h1 h1)) (E.F.mul_ne hs (E.qne h1 h1))
theorem ED.told (E:ED K inv a d) {p:R×R×R} {P:MQ K a d} (hp:oM K a d p P):K.mul p.1 (inv p.2.2)=P.1.1∧K.mul p.2.1 (inv p.2.2)=P.1.2:=by
 obtain⟨h1,h2,h3⟩:=hp;rw[h1,h2,K.mul_assoc,K.mul_assoc,E.F.inv _ h3,K.mul_one,K.mul_one];exact⟨rfl,rfl⟩
theorem ED.rep1 (E:ED K inv a d) (P:MQ K a d):oM K a d (P.1.1,P.1.2,K.one) P:=⟨(K.mul_one _).symm,(K.mul_one _).symm,E.F.ne⟩
end
theorem fI:1<RM:=by decide
def KR:CR (Fin RM):=aCa RM fI
def iS (x:Nat):Fin RM:=⟨x%RM,Nat.mod_lt _ fY⟩
theorem kV (x y:Nat):iS (gR x y)=KR.add (iS x) (iS y):=Fin.ext (by
 show (x+y)%RM%RM=(x%RM+y%RM)%RM;rw[Nat.mod_mod,Nat.add_mod])
theorem iN (x y:Nat):iS (bN x y)=KR.mul (iS x) (iS y):=Fin.ext (by
 show x*y%RM%RM=(x%RM)*(y%RM)%RM;rw[Nat.mod_mod,Nat.mul_mod])
theorem Ec (x:Nat) {y:Nat} (hy:y<RM):iS (oE x y)=KR.add (iS x) (KR.neg (iS y)):=Fin.ext (by
 show (x+RM-y)%RM%RM=(x%RM+(0+RM-y%RM)%RM)%RM;rw[Nat.mod_mod,Nat.mod_eq_of_lt hy,Nat.mod_add_mod,Nat.add_mod_mod,show x+(0+RM-y)=x+RM-y by omega])
theorem nI {x:Nat} (h:x<RM):(iS x).1=x:=Nat.mod_eq_of_lt h
theorem MY {x y:Nat} (hx:x<RM) (hy:y<RM) (h:iS x=iS y):x=y:=by
 have:=congrArg Fin.val h
 rwa [nI hx,nI hy]at this
theorem UX:iS 0=KR.zero:=rfl
theorem UW:iS 1=KR.one:=Fin.ext (Nat.mod_eq_of_lt fI)
open Classical
section
variable {R:Type} (K:CR R) (inv:R→R)
abbrev Jc (R:Type):=R×R×R
def GU (p:Jc R):Pt R:=if p.2.2=K.zero then none else some (K.mul p.1 (K.mul (inv p.2.2) (inv p.2.2)),K.mul p.2.1 (K.mul (K.mul (inv p.2.2) (inv p.2.2)) (inv p.2.2)))
def dSl (p:Jc R):R:=K.add (K.add (K.mul p.1 p.1) (K.mul p.1 p.1)) (K.mul p.1 p.1)
def dTw (p:Jc R):R:=K.add (K.mul p.2.1 p.2.1) (K.mul p.2.1 p.2.1)
def dFo (p:Jc R):R:=K.add (dTw K p) (dTw K p)
def dBa (p:Jc R):R:=K.mul p.1 (dFo K p)
def dX (p:Jc R):R:=K.sub (K.mul (dSl K p) (dSl K p)) (K.add (dBa K p) (dBa K p))
def dY (p:Jc R):R:=K.sub (K.mul (dSl K p) (K.sub (dBa K p) (dX K p))) (K.mul (dFo K p) (dTw K p))
def Ih (p:Jc R):Jc R:=(dX K p,dY K p,K.mul (K.add p.2.1 p.2.1) p.2.2)
variable {K} {inv} {b:R}
theorem mO {p:Jc R} (h:p.2.2=K.zero):GU K inv p=none:=if_pos h
theorem qO {p:Jc R} (h:p.2.2≠K.zero):GU K inv p=some (K.mul p.1 (K.mul (inv p.2.2) (inv p.2.2)),K.mul p.2.1 (K.mul (K.mul (inv p.2.2) (inv p.2.2)) (inv p.2.2))):=if_neg h
theorem PT (E:EC K inv b) {x y l:R} (hy:K.add y y≠K.zero) (h:K.mul l (K.add y y)=K.add (K.add (K.mul x x) (K.mul x x)) (K.mul x x)):pS K inv x y x y=l:=by
 unfold pS;rw[if_pos rfl];refine E.F.cancel hy ?_;have hi:=E.F.inv _ hy;generalize inv (K.add y y)=k at hi;exact mV (K:=K) (c1:=(K.add (K.add (K.mul x x) (K.mul x x)) (K.mul x x))) (c2:=(K.neg K.one)) hi h (aY K (cI K [y,x,k,l]) ((Z0+Z0)*((Z1*Z1+Z1*Z1+Z1*Z1)*Z2)-(Z0+Z0)*Z3) ((Z1*Z1+Z1*Z1+Z1*Z1)*((Z0+Z0)*Z2-RE.one)+(-RE.one)*(Z3*(Z0+Z0)-(Z1*Z1+Z1*Z1+Z1*Z1))) (by kernel_rfl))
theorem Id (E:EC K inv b) {p:Jc R} (hp:On K b (GU K inv p)):GU K inv (Ih K p)=GT K inv (GU K inv p) (GU K inv p):=by
 obtain⟨x,y,z⟩:=p
 by_cases hz:z=K.zero
 ·have h1:GU K inv (x,y,z)=none:=mO hz;rw[h1];refine mO ?_;show K.mul (K.add y y) z=K.zero;rw[hz,K.mul_zero]
 ·have h1:=qO (K:=K) (inv:=inv) (p:=(x,y,z)) hz;rw[h1]at hp ⊢;dsimp only at hp ⊢;have hi:=E.F.inv z hz;generalize inv z=i at hi hp ⊢;have hY:=E.y_ne (show K.mul (K.mul y (K.mul (K.mul i i) i)) (K.mul y (K.mul (K.mul i i) i))=_ from hp);have hy:y≠K.zero:=fun e=>hY (by rw[e,K.zero_mul])
  have hyy:=E.dbl_ne hy;have hz3:K.mul (K.add y y) z≠K.zero:=E.F.mul_ne hyy hz;have h3:=qO (K:=K) (inv:=inv) (p:=Ih K (x,y,z)) hz3;rw[h3];show some (K.mul (dX K (x,y,z)) (K.mul (inv (K.mul (K.add y y) z)) (inv (K.mul (K.add y y) z))),K.mul (dY K (x,y,z)) (K.mul (K.mul (inv (K.mul (K.add y y) z)) (inv (K.mul (K.add y y) z))) (inv (K.mul (K.add y y) z))))=_;have hj:=E.F.inv _ hz3;generalize inv (K.mul (K.add y y) z)=j at hj ⊢;have e:i=K.mul (K.add y y) j:=mV (K:=K) (c1:=(K.neg i)) (c2:=(K.mul (K.add y y) j)) hj hi (aY K (cI K [i,y,j,z]) (Z0-(Z1+Z1)*Z2) ((-Z0)*((Z1+Z1)*Z3*Z2-RE.one)+(Z1+Z1)*Z2*(Z3*Z0-RE.one)) (by kernel_rfl));subst e;have hYY:=E.dbl_ne hY;rw[tV (fun h=>hYY h.2)];dsimp only;have hs:=PT (l:=(K.mul (K.add (K.add (K.mul x x) (K.mul x x)) (K.mul x x)) j)) (x:=(K.mul x (K.mul (K.mul (K.add y y) j) (K.mul (K.add y y) j)))) E hYY (aY K (cI K [x,j,y]) ((Z0*Z0+Z0*Z0+Z0*Z0)*Z1*(Z2*((Z2+Z2)*Z1*((Z2+Z2)*Z1)*((Z2+Z2)*Z1))+Z2*((Z2+Z2)*Z1*((Z2+Z2)*Z1)*((Z2+Z2)*Z1)))) (Z0*((Z2+Z2)*Z1*((Z2+Z2)*Z1))*(Z0*((Z2+Z2)*Z1*((Z2+Z2)*Z1)))+Z0*((Z2+Z2)*Z1*((Z2+Z2)*Z1))*(Z0*((Z2+Z2)*Z1*((Z2+Z2)*Z1)))+Z0*((Z2+Z2)*Z1*((Z2+Z2)*Z1))*(Z0*((Z2+Z2)*Z1*((Z2+Z2)*Z1)))) (by kernel_rfl));rw[hs];refine congrArg some (Prod.ext ?_ ?_)
  ·exact aY K (cI K [x,y,j]) (((Z0*Z0+Z0*Z0+Z0*Z0)*(Z0*Z0+Z0*Z0+Z0*Z0)-(Z0*(Z1*Z1+Z1*Z1+(Z1*Z1+Z1*Z1))+Z0*(Z1*Z1+Z1*Z1+(Z1*Z1+Z1*Z1))))*(Z2*Z2)) ((Z0*Z0+Z0*Z0+Z0*Z0)*Z2*((Z0*Z0+Z0*Z0+Z0*Z0)*Z2)-Z0*((Z1+Z1)*Z2*((Z1+Z1)*Z2))-Z0*((Z1+Z1)*Z2*((Z1+Z1)*Z2))) (by kernel_rfl)
  ·exact aY K (cI K [x,y,j]) (((Z0*Z0+Z0*Z0+Z0*Z0)*(Z0*(Z1*Z1+Z1*Z1+(Z1*Z1+Z1*Z1))-((Z0*Z0+Z0*Z0+Z0*Z0)*(Z0*Z0+Z0*Z0+Z0*Z0)-(Z0*(Z1*Z1+Z1*Z1+(Z1*Z1+Z1*Z1))+Z0*(Z1*Z1+Z1*Z1+(Z1*Z1+Z1*Z1)))))-(Z1*Z1+Z1*Z1+(Z1*Z1+Z1*Z1))*(Z1*Z1+Z1*Z1))*(Z2*Z2*Z2)) ((Z0*Z0+Z0*Z0+Z0*Z0)*Z2*(Z0*((Z1+Z1)*Z2*((Z1+Z1)*Z2))-((Z0*Z0+Z0*Z0+Z0*Z0)*Z2*((Z0*Z0+Z0*Z0+Z0*Z0)*Z2)-Z0*((Z1+Z1)*Z2*((Z1+Z1)*Z2))-Z0*((Z1+Z1)*Z2*((Z1+Z1)*Z2))))-Z1*((Z1+Z1)*Z2*((Z1+Z1)*Z2)*((Z1+Z1)*Z2))) (by kernel_rfl)
def ZE (K:CR R) (p:Jc R):Jc R:=(p.1,K.sub K.zero p.2.1,p.2.2)
theorem Ic (p:Jc R):GU K inv (ZE K p)=Nj K (GU K inv p):=by
 by_cases h:p.2.2=K.zero
 ·rw[mO h,mO (p:=ZE K p) h]; rfl
 ·rw[qO h,qO (p:=ZE K p) h];refine congrArg some (Prod.ext rfl ?_);show K.mul (K.sub K.zero p.2.1) _=K.neg (K.mul p.2.1 _);rw[←K.neg_mul];congr 1;exact K.zero_add _
end
namespace AG
variable {G:Type} (A:AG G)
theorem addz (a:G):A.add a A.zero=a:=by rw[A.comm,A.zadd]
theorem addn (a:G):A.add a (A.neg a)=A.zero:=by rw[A.comm,A.nadd]
theorem left_comm (a b c:G):A.add a (A.add b c)=A.add b (A.add a c):=by rw[←A.assoc,A.comm a b,A.assoc]
theorem cancel {a b c:G} (h:A.add a b=A.add a c):b=c:=by
 have:=congrArg (A.add (A.neg a)) h
 rwa [←A.assoc,←A.assoc,A.nadd,A.zadd,A.zadd]at this
theorem neg_add (a b:G):A.neg (A.add a b)=A.add (A.neg a) (A.neg b):=by
 apply A.cancel (a:=A.add a b);rw[A.addn,A.assoc,A.left_comm b,A.addn,A.addz,A.addn]
def ns:Nat→G→G
 | 0,_=>A.zero
 | n+1,g=>A.add (ns n g) g
theorem ns_add (m:Nat) (g:G):∀n,A.ns (m+n) g=A.add (A.ns m g) (A.ns n g)
 | 0=>(A.addz _).symm
 | n+1=>by show A.add (A.ns (m+n) g) g=A.add _ (A.add _ _); rw[ns_add m g n,A.assoc]
theorem ns_zero:∀n,A.ns n A.zero=A.zero
 | 0=>rfl
 | n+1=>by show A.add (A.ns n _) _=_; rw[ns_zero n,A.zadd]
theorem ns_mul (m:Nat) (g:G):∀n,A.ns (m*n) g=A.ns n (A.ns m g)
 | 0=>rfl
 | n+1=>by rw[Nat.mul_add,Nat.mul_one,ns_add,ns_mul m g n]; rfl
def zs:Int→G→G
 | .ofNat n,g=>A.ns n g
 | .negSucc n,g=>A.neg (A.ns (n+1) g)
end AG
def aDN (w:Nat):Int:=((w+1)/2:Nat)-(if 16≤w then 16 else 0:Int)
def aHe (x p:Nat):Nat:=(if p=0 then x*2 else x/2^(p*4-1))%32
def xC (x PL:Nat):Nat→Int
 | 0=>0
 | i+1=>16*xC x PL i+aDN (aHe x (PL-1-i))
open Classical
section
variable {R:Type} {K:CR R} {inv:R→R} {b:R}
def Rp (E:EC K inv b) (p:Jc R) (P:{p:Pt R // On K b p}):Prop:=GU K inv p=P.1
theorem Rp.on {E:EC K inv b} {p:Jc R} {P:{p:Pt R // On K b p}} (h:Rp E p P):On K b (GU K inv p):=by
 rw[show GU K inv p=P.1 from h]; exact P.2
theorem Rp.dbl {E:EC K inv b} {p:Jc R} {P:{p:Pt R // On K b p}} (h:Rp E p P):Rp E (Ih K p) (E.grp.add P P):=by
 show GU K inv (Ih K p)=GT K inv P.1 P.1;rw[Id E h.on,show GU K inv p=P.1 from h]
theorem Rp.neg {E:EC K inv b} {p:Jc R} {P:{p:Pt R // On K b p}} (h:Rp E p P):Rp E (ZE K p) (E.grp.neg P):=by
 show GU K inv (ZE K p)=Nj K P.1;rw[Ic,show GU K inv p=P.1 from h]
theorem Rp.zero {E:EC K inv b} {p:Jc R} (h:p.2.2=K.zero):Rp E p E.grp.zero:=mO h
end
namespace AG
variable {G:Type} (A:AG G)
theorem ns_one (g:G):A.ns 1 g=g:=A.zadd g
end AG
namespace AG
variable {G:Type} (A:AG G)
theorem ns_modz {g:G} {n:Nat} (h:A.ns n g=A.zero) (m:Nat):A.ns (m%n) g=A.ns m g:=by
 conv=>rhs; rw[←Nat.div_add_mod m n,A.ns_add,A.ns_mul,h,A.ns_zero,A.zadd]
theorem ns_gcd {g:G} (a b:Nat):A.ns a g=A.zero→A.ns b g=A.zero→A.ns (Nat.gcd a b) g=A.zero:=by
 induction a,b using Nat.gcd.induction with
 | H0 n=>intro _ h; rw[Nat.gcd_zero_left]; exact h
 | H1 m n hm ih =>
  intro h1 h2;rw[Nat.gcd_rec];exact ih (by rw[A.ns_modz h1]; exact h2) h1
theorem exact {g:G} {N:Nat} {l:List Nat} (hl:l.foldr (· * ·) 1=N) (hp:∀q,q∈l→gF q) (h0:A.ns N g=A.zero) (hq:∀q,q∈l→A.ns (N/q) g≠A.zero) (k:Nat) (hk:0<k) (hN:k<N):A.ns k g≠A.zero:=fun h=>by
 have hd:=A.ns_gcd k N h h0;obtain⟨e,he⟩:=Nat.gcd_dvd_right k N;have hdk:Nat.gcd k N≤k:=Nat.le_of_dvd hk (Nat.gcd_dvd_left k N);have hd0:0<Nat.gcd k N:=Nat.gcd_pos_of_pos_left N hk;have he1:1<e:=by
  rcases Nat.lt_or_ge 1 e with q|q
  ·exact q
  ·have:Nat.gcd k N*e≤Nat.gcd k N*1:=Nat.mul_le_mul_left _ q;omega
 obtain⟨q,hql,f,hf⟩:=qA l e (by rw[hl]; exact⟨Nat.gcd k N,by rw[Nat.mul_comm]; exact he⟩) he1 hp;refine hq q hql ?_;have hq0:0<q:=Nat.lt_trans Nat.zero_lt_one (hp q hql).1;have e1:N/q=Nat.gcd k N*f:=by
  rw[Nat.div_eq_of_eq_mul_left hq0];rw[Nat.mul_assoc,Nat.mul_comm f q,←hf];exact he
 rw[e1,A.ns_mul,hd,A.ns_zero]
end AG
open Go.RowKit
theorem rrt:Root RM 5:=by
 show Root Go.Proofs.YtpjlhhpjpnacmaaGreatDoor.FR.M 5;rw[aEC];exact WD
theorem Qr:2≤RM:=by decide
def Tc (x:Fin RM):Fin RM:=⟨rnv x.1,Qq _⟩
theorem fdR:FD KR Tc:=⟨fun h=>absurd (congrArg Fin.val h) (by decide),fun x h=>Fin.ext (by
 show x.1*(1*(x.1^(RM-2))%RM)%RM=1;rw[Nat.one_mul];exact tX rrt Qr (Nat.pos_of_ne_zero fun e=>h (Fin.ext e)) x.2)⟩
def aR:Fin RM:=iS 168700
def dR:Fin RM:=iS 168696
theorem Ku:168696^(RM/2)%RM≠1:=by
 rw[←WX RM 256 168696 (RM/2) (by decide)];exact of_decide_eq_true (by kernel_rfl)
theorem dns (x:Fin RM):KR.mul x x≠dR:=fun h=>by
 have h1:x.1*x.1%RM=168696:=(congrArg Fin.val h).trans (Nat.mod_eq_of_lt (by decide))
 by_cases h0:x.1=0
 ·rw[h0]at h1;exact absurd h1 (by decide)
 ·have h2:=Ta rrt (by decide) (Nat.pos_of_ne_zero h0) x.2;rw[h1]at h2;exact Ku h2
def sRJ:Fin RM:=iS 7214280148105020021932206872019688659210616427216992810330019057549499971851
theorem lU:ED KR Tc aR dR where
 F:=fdR
 two:=fun h=>absurd (congrArg Fin.val h) (by decide)
 sq:=⟨sRJ,of_decide_eq_true (by kernel_rfl)⟩
 ns:=dns
abbrev JP:=MQ KR aR dR
abbrev NJ:=Nat×Nat×Nat
def xY (p q:NJ):NJ :=
 let z:=bN p.2.2 q.2.2
 let x:=bN p.1 q.1
 let y:=bN p.2.1 q.2.1
 let both:=bN 168696 (bN x y)
 let square:=bN z z
 let more:=gR square both
 let less:=oE square both
 let across:=oE (oE (bN (gR p.1 p.2.1) (gR q.1 q.2.1)) x) y
 (bN (bN z less) across,bN (bN z more) (oE y (bN 168700 x)),bN less more)
def ZF (p:NJ):NJ :=
 let x:=bN p.1 p.1
 let y:=bN p.2.1 p.2.1
 let z:=bN p.2.2 p.2.2
 let across:=oE (oE (bN (gR p.1 p.2.1) (gR p.1 p.2.1)) x) y
 let ax:=bN 168700 x
 let more:=gR ax y
 let less:=oE (gR z z) more
 (bN across less,bN more (oE y ax),bN more less)
def DE (x y:Nat):Nat:=x*(y^(RM-2))%RM
theorem AA (x y:Nat):DE x y<RM:=Nat.mod_lt _ fY
def tld (p:NJ):Nat×Nat:=(bN p.1 (DE 1 p.2.2),bN p.2.1 (DE 1 p.2.2))
def TN (p:NJ):Fin RM×Fin RM×Fin RM:=(iS p.1,iS p.2.1,iS p.2.2)
theorem gH (x:Nat) {y:Nat} (hy:y<RM):iS (oE x y)=KR.sub (iS x) (iS y):=Ec x hy
theorem Pu (p q:NJ):TN (xY p q)=FV KR aR dR (TN p) (TN q):=by
 refine Prod.ext ?_ (Prod.ext ?_ ?_)
 ·simp only[TN,xY,FV,iN,kV,gH _ (aO _ _)]; rfl
 ·simp only[TN,xY,FV,iN,kV,gH _ (aO _ _)]; rfl
 ·simp only[TN,xY,FV,iN,kV,gH _ (aO _ _)]; rfl
theorem Pv (p:NJ):TN (ZF p)=FW KR aR (TN p):=by
 refine Prod.ext ?_ (Prod.ext ?_ ?_)
 ·simp only[TN,ZF,FW,iN,kV,gH _ (aO _ _),gH _ (dB _ _)]; rfl
 ·simp only[TN,ZF,FW,iN,kV,gH _ (aO _ _),gH _ (dB _ _)]; rfl
 ·simp only[TN,ZF,FW,iN,kV,gH _ (aO _ _),gH _ (dB _ _)]; rfl
structure JRep (p:NJ) (P:JP):Prop where
 x:p.1<RM
 y:p.2.1<RM
 z:p.2.2<RM
 rep:oM KR aR dR (TN p) P
theorem JRep.pl {p q:NJ} {P Q:JP} (hp:JRep p P) (hq:JRep q Q):JRep (xY p q) (lU.grp.add P Q) :=
 ⟨aO _ _,aO _ _,aO _ _,by rw[Pu]; exact lU.sum hp.rep hq.rep⟩
theorem JRep.db {p:NJ} {P:JP} (hp:JRep p P):JRep (ZF p) (lU.grp.add P P) :=
 ⟨aO _ _,aO _ _,aO _ _,by rw[Pv]; exact lU.dbl hp.rep⟩
theorem JRep.nz {p:NJ} {P:JP} (hp:JRep p P):p.2.2≠0:=fun e=>hp.rep.2.2 (by show iS p.2.2=KR.zero; rw[e]; rfl)
theorem UV {z:Nat} (hz:z<RM):iS (DE 1 z)=Tc (iS z):=Fin.ext (by
 show DE 1 z%RM=1*((z%RM)^(RM-2))%RM;rw[Nat.mod_eq_of_lt (AA _ _),Nat.mod_eq_of_lt hz];rfl)
theorem JRep.tld {p:NJ} {P:JP} (hp:JRep p P):tld p=(P.1.1.1,P.1.2.1):=by
 obtain⟨h1,h2⟩:=lU.told hp.rep;have e1:iS (bN p.1 (DE 1 p.2.2))=P.1.1:=by rw[iN,UV hp.z]; exact h1
 have e2:iS (bN p.2.1 (DE 1 p.2.2))=P.1.2:=by rw[iN,UV hp.z]; exact h2
 refine Prod.ext ?_ ?_
 ·show bN p.1 (DE 1 p.2.2)=_;rw[←nI (aO p.1 (DE 1 p.2.2)),e1]
 ·show bN p.2.1 (DE 1 p.2.2)=_;rw[←nI (aO p.2.1 (DE 1 p.2.2)),e2]
def BQ (x y:Nat):Prop:=gR (bN 168700 (bN x x)) (bN y y)=gR 1 (bN 168696 (bN (bN x x) (bN y y)))
instance (x y:Nat):Decidable (BQ x y):=Nat.decEq _ _
def OnJ (x y:Nat):Prop:=(x<RM∧y<RM)∧BQ x y
instance (x y:Nat):Decidable (OnJ x y):=instDecidableAnd
theorem Sl {x y:Nat} (h:BQ x y):fF KR aR dR (iS x) (iS y):=by
 have e:=congrArg iS h;simp only[kV,iN,UW]at e;exact e
def jp {x y:Nat} (h:OnJ x y):JP:=⟨(iS x,iS y),Sl h.2⟩
theorem oZ {x y:Nat} (h:OnJ x y):JRep (x,y,1) (jp h) :=
 ⟨h.1.1,h.1.2,fI,by show oM KR aR dR (iS x,iS y,iS 1) _; rw[UW]; exact lU.rep1 (jp h)⟩
theorem Sk {x y:Fin RM} (h:fF KR aR dR x y):BQ x.1 y.1:=by
 have h:KR.add (KR.mul aR (KR.mul x x)) (KR.mul y y)=KR.add KR.one (KR.mul dR (KR.mul (KR.mul x x) (KR.mul y y))):=h;have e:=congrArg Fin.val h;exact e
theorem JP.on (P:JP):OnJ P.1.1.1 P.1.2.1:=⟨⟨P.1.1.2,P.1.2.2⟩,Sk P.2⟩
theorem aFZ {x y:Nat} (h:OnJ x y):(jp h).1.1.1=x:=nI h.1.1
theorem aFY {x y:Nat} (h:OnJ x y):(jp h).1.2.1=y:=nI h.1.2
theorem aBg (P:JP) (h:OnJ P.1.1.1 P.1.2.1):jp h=P:=Subtype.ext (Prod.ext (Fin.ext (Nat.mod_eq_of_lt P.1.1.2)) (Fin.ext (Nat.mod_eq_of_lt P.1.2.2)))
theorem JY:JRep (0,1,1) lU.grp.zero:=⟨fY,fI,fI,by
 show oM KR aR dR (iS 0,iS 1,iS 1) _;rw[UW,UX];exact lU.rep1 lU.grp.zero⟩
def fjn {α:Type} (n:Nat) (k:Nat→α):α:=Nat.rec (motive:=fun _=>α) (k 0) (fun m _=>k (Nat.succ m)) n
theorem KT {α:Type} (n:Nat) (k:Nat→α):fjn n k=k n:=by cases n<;>rfl
def fj3 {α:Type} (p:NJ) (k:NJ→α):α:=fjn p.1 fun x=>fjn p.2.1 fun y=>fjn p.2.2 fun z=>k (x,y,z)
theorem Aa {α:Type} (p:NJ) (k:NJ→α):fj3 p k=k p:=by unfold fj3; rw[KT,KT,KT]
def cmJ (p:NJ) (n L:Nat):Nat→NJ
 | 0=>(0,1,1)
 | k+1=>fj3 (cmJ p n L k) fun q=>fj3 (ZF q) fun q2=>bif Nat.beq (n/2^(L-(k+1))%2) 1 then xY q2 p else q2
theorem OX {p:NJ} {P:JP} (h:JRep p P) (n L:Nat) (hn:n<2^L):∀k,k≤L→JRep (cmJ p n L k) (lU.grp.ns (n/2^(L-k)) P)
 | 0,_=>by
  rw[Nat.sub_zero,Nat.div_eq_of_lt hn];exact JY
 | k+1,hk=>by
  have ih:=OX h n L hn k (by omega);have e:n/2^(L-k)=n/2^(L-(k+1))/2:=by
   rw[show L-k=(L-(k+1))+1 by omega,Nat.pow_add,←Nat.div_div_eq_div_mul]
  rw[e]at ih;have h2:=ih.db;rw[←lU.grp.ns_add]at h2;show JRep (fj3 (cmJ p n L k) _) _;rw[Aa,Aa];cases hb:Nat.beq (n/2^(L-(k+1))%2) 1
  ·have hb:n/2^(L-(k+1))%2≠1:=fun q=>by rw[q]at hb; cases hb
   rw[show n/2^(L-(k+1))=n/2^(L-(k+1))/2+n/2^(L-(k+1))/2 by omega];exact h2
  ·have hb:=Nat.eq_of_beq_eq_true hb;rw[show n/2^(L-(k+1))=n/2^(L-(k+1))/2+n/2^(L-(k+1))/2+1 by omega];exact h2.pl h
theorem La {p:NJ} {P:JP} (h:JRep p P) (n L:Nat) (hn:n<2^L):JRep (cmJ p n L L) (lU.grp.ns n P):=by
 have:=OX h n L hn L (Nat.le_refl _)
 rwa [Nat.sub_self,Nat.pow_zero,Nat.div_one]at this
def oH (p:NJ):Bool:=Nat.beq p.1 0&&Nat.beq p.2.1 p.2.2
theorem vI {p:NJ} {P:JP} (h:JRep p P):oH p=true↔P=lU.grp.zero:=by
 obtain⟨hx,hy,hz,h1,h2,h3⟩:=h;have h1:iS p.1=KR.mul P.1.1 (iS p.2.2):=h1;have h2:iS p.2.1=KR.mul P.1.2 (iS p.2.2):=h2;have h3:iS p.2.2≠KR.zero:=h3;unfold oH;rw[Bool.and_eq_true];constructor
 ·rintro⟨e1,e2⟩
  have e1:=Nat.eq_of_beq_eq_true e1;have e2:=Nat.eq_of_beq_eq_true e2;rw[e1]at h1;rw[e2]at h2;refine Subtype.ext (Prod.ext ?_ ?_)
  ·refine fdR.zd (a:=iS p.2.2) ?_ h3;rw[KR.mul_comm,←h1];exact UX
  ·refine fdR.cancel h3 ?_;rw[KR.mul_comm,←h2];exact (KR.mul_one _).symm
 ·rintro rfl
  have e1:iS p.1=KR.zero:=h1.trans (KR.zero_mul _);have e2:iS p.2.1=iS p.2.2:=h2.trans (KR.one_mul _);refine⟨?_,?_⟩
  ·rw[MY hx fY (e1.trans UX.symm)]; rfl
  ·rw[MY hy hz e2]; exact Nat.beq_refl _
def lJ:Nat:=2736030358979909402780800718157159386076813972158567259200215660948447373041
def bX:Nat:=5299619240641551281634865583518297030282874472190772894086521144482721001553
def bY:Nat:=16950150798460657717958625567821834550301663161624707787222815936182638968203
theorem xJ:OnJ bX bY:=of_decide_eq_true (by kernel_rfl)
def JB:JP:=jp xJ
theorem aEe:oH (cmJ (bX,bY,1) lJ 251 251)=true:=by kernel_rfl
theorem aEd:lU.grp.ns lJ JB=lU.grp.zero:=(vI (La (oZ xJ) lJ 251 (by decide))).1 aEe
def Uc:gL
 | [.v (.im (.int .i64 2)),.v (.fl l),.v (.fl m)]=>match rW l,rW m with
  | some x,some y=>some ([x<RM,y<RM,y≠0],.many [.fl [.q (DE x y)],.im (.int .i64 0)])
  | _,_=>none
 | _=>none
theorem Zx:∀cs pre r,Uc cs=some (pre,r)→bC pre→∀(args:List Value) (w:World),cT w cs args→bM prog 157 r args w:=by
 intro cs pre r hg hp args w ha;unfold Uc at hg;split at hg
 ·rename_i l m;split at hg
  ·rename_i x y hx hy;cases hg
   match args,ha with
   | [t,v,u],ha =>
    obtain⟨h1,h2,h3,_⟩:=ha;have h1:t=.int .i64 2:=h1;have h2:v=.agg (aA l).toArray:=h2;have h3:u=.agg (aA m).toArray:=h3;rw[dO l x hx]at h2;rw[dO m y hy]at h3;subst h1; subst h2; subst h3;have h:=Kc 2 _ xE _ _ _ _ _ _ _ _ (eR x) (eR y) (by rw[vN hp.1]; exact hp.1) (by rw[vN hp.2.1]; exact hp.2.1) (by rw[vN hp.2.1]; exact hp.2.2.1) w;rw[vN hp.1,vN hp.2.1]at h;refine h.mono ?_
    rintro e w' ⟨s0,s1,s2,s3,rfl,hs,hv,hb⟩
    obtain⟨rfl,rfl,rfl,rfl⟩:=jF hs (kF (AA x y)) hv;exact⟨rfl,hb⟩
   | [],ha=>exact ha.elim
   | [_],ha=>exact ha.2.elim
   | [_,_],ha=>exact ha.2.2.elim
   | _::_::_::_::_,ha=>exact ha.2.2.2.elim
  ·cases hg
 ·cases hg
def TE:Tab:=(((((T0.add 195 (Dm gR)).add 158 (Dm oE)).add 189 (Dm bN)).add 81 Ju).add 106 Jk).add 157 Uc
theorem EB:TabOk prog TE:=((((((bU _).ad func195 Ni).ad func158 Zw).ad func189 Nh).ad func81 NF).ad func106 Qv).ad func157 Zx
theorem If (x y:Nat):mA prog TE (qG prog) (fun _=>true) f159 40 [.v (.fl [.q x]),.v (.fl [.q y])]=some ([x<RM,y<RM],.one (.fl [.q (gR x y)])):=by kernel_rfl
theorem ZC (x y:Nat):mA prog TE (qG prog) (fun _=>true) f105 40 [.v (.fl [.q x]),.v (.fl [.q y])]=some ([x<RM,y<RM],.one (.fl [.q (oE x y)])):=by kernel_rfl
theorem ZB (x y:Nat):mA prog TE (qG prog) (fun _=>true) f146 40 [.v (.fl [.q x]),.v (.fl [.q y])]=some ([x<RM,y<RM],.one (.fl [.q (bN x y)])):=by kernel_rfl
theorem Ig (x y:Nat):mA prog TE (qG prog) (fun _=>true) f104 40 [.v (.fl [.q x]),.v (.fl [.q y])]=some ([x<RM,y<RM,y≠0],.one (.fl [.q (DE x y)])):=by kernel_rfl
def TG:Tab:=((((TE.add 159 (Ob gR Om)).add 105 (Ob oE Om)).add 146 (Ob bN Om)).add 104 (Ob DE fun x y=>[x<RM,y<RM,y≠0]))
theorem EE:TabOk prog TG:=((((EB.ad func159 (sN (op:=gR) (c:=Om) fun x y h args w ha=>cJ aI EB (aW _) func159 (If x y) h ha)).ad func105 (sN (op:=oE) (c:=Om) fun x y h args w ha=>cJ aI EB (aW _) func105 (ZC x y) h ha)).ad func146 (sN (op:=bN) (c:=Om) fun x y h args w ha=>cJ aI EB (aW _) func146 (ZB x y) h ha)).ad func104 (sN (op:=DE) (c:=fun x y=>[x<RM,y<RM,y≠0]) fun x y h args w ha=>cJ aI EB (aW _) func104 (Ig x y) h ha))
theorem JV (x:Nat):mA prog TG (qG prog) (fun _=>true) f102 40 [.v (.fl [.q x])]=some ([x<RM,x<RM],.one (.fl [.q (bN x x)])):=by kernel_rfl
theorem FA (x:Nat):mA prog TG (qG prog) (fun _=>true) f108 40 [.v (.fl [.q x])]=some ([0<RM,x<RM],.one (.fl [.q (oE 0 x)])):=by kernel_rfl
theorem QX (x:Nat):mA prog TG (qG prog) (fun _=>true) f160 40 [.v (.fl [.q x])]=some ([168700<18446744073709551616,168700<RM,x<RM],.one (.fl [.q (bN 168700 x)])):=by kernel_rfl
theorem QV (x:Nat):mA prog TG (qG prog) (fun _=>true) f107 40 [.v (.fl [.q x])]=some ([168696<18446744073709551616,168696<RM,x<RM],.one (.fl [.q (bN 168696 x)])):=by kernel_rfl
def ML:Tab:=((((TG.add 102 (Ub (fun x=>bN x x) fun x=>[x<RM])).add 108 (Ub (oE 0) fun x=>[x<RM])).add 160 (Ub (bN 168700) fun x=>[x<RM])).add 107 (Ub (bN 168696) fun x=>[x<RM]))
theorem sY:TabOk prog ML:=((((EE.ad func102 (vM (op:=fun x=>bN x x) (c:=fun x=>[x<RM]) fun x h args w ha=>cJ aI EE (aW _) func102 (JV x) ⟨h.1,h.1,trivial⟩ ha)).ad func108 (vM (op:=oE 0) (c:=fun x=>[x<RM]) fun x h args w ha=>cJ aI EE (aW _) func108 (FA x) ⟨fY,h.1,trivial⟩ ha)).ad func160 (vM (op:=bN 168700) (c:=fun x=>[x<RM]) fun x h args w ha=>cJ aI EE (aW _) func160 (QX x) ⟨by decide,by decide,h.1,trivial⟩ ha)).ad func107 (vM (op:=bN 168696) (c:=fun x=>[x<RM]) fun x h args w ha=>cJ aI EE (aW _) func107 (QV x) ⟨by decide,by decide,h.1,trivial⟩ ha))
abbrev NP:=Nat×Nat
def q3 (p:NJ):List At:=[.q p.1,.q p.2.1,.q p.2.2]
def Ft (l:List At):Option NJ:=match EP l with|some [a,b,c]=>some (a,b,c)|_=>none
theorem oQ:Rd Ft q3:=fun l x h=>by
 unfold Ft at h;split at h
 ·rename_i hn; cases h; rw[qK hn]; rfl
 ·cases h
def c3 (p:NJ):List Prop:=[p.1<RM,p.2.1<RM,p.2.2<RM]
theorem JW (x y:Nat):mA prog ML (qG prog) (fun _=>true) f74 40 [.v (.fl [.q x,.q y])]=some ([1<18446744073709551616],.one (.fl [.q x,.q y,.q 1])):=by kernel_rfl
theorem JX:mA prog ML (qG prog) (fun _=>true) f113 40 []=some ([1<18446744073709551616],.one (.fl [.f ⟨0,dC⟩,.q 1])):=by kernel_rfl
theorem QY (w:World):bM prog 113 (.one (.fl [.q 0,.q 1])) [] w:=cJ aI sY (aW _) func113 JX ⟨by decide,trivial⟩ (args:=[]) trivial
theorem EZ (p q:NJ):mA prog ML (qG prog) (fun _=>true) f117 60 [.v (.fl (q3 p)),.v (.fl (q3 q))]=some ([p.2.2<RM,q.2.2<RM,p.1<RM,q.1<RM,p.2.1<RM,q.2.1<RM,(bN p.1 q.1)<RM,(bN p.2.1 q.2.1)<RM,(bN (bN p.1 q.1) (bN p.2.1 q.2.1))<RM,(bN p.2.2 q.2.2)<RM,(bN (bN p.2.2 q.2.2) (bN p.2.2 q.2.2))<RM,(bN 168696 (bN (bN p.1 q.1) (bN p.2.1 q.2.1)))<RM,(bN (bN p.2.2 q.2.2) (bN p.2.2 q.2.2))<RM,(bN 168696 (bN (bN p.1 q.1) (bN p.2.1 q.2.1)))<RM,p.1<RM,p.2.1<RM,q.1<RM,q.2.1<RM,(gR p.1 p.2.1)<RM,(gR q.1 q.2.1)<RM,(bN (gR p.1 p.2.1) (gR q.1 q.2.1))<RM,(bN p.1 q.1)<RM,(oE (bN (gR p.1 p.2.1) (gR q.1 q.2.1)) (bN p.1 q.1))<RM,(bN p.2.1 q.2.1)<RM,(bN p.2.2 q.2.2)<RM,(oE (bN (bN p.2.2 q.2.2) (bN p.2.2 q.2.2)) (bN 168696 (bN (bN p.1 q.1) (bN p.2.1 q.2.1))))<RM,(bN (bN p.2.2 q.2.2) (oE (bN (bN p.2.2 q.2.2) (bN p.2.2 q.2.2)) (bN 168696 (bN (bN p.1 q.1) (bN p.2.1 q.2.1)))))<RM,(oE (oE (bN (gR p.1 p.2.1) (gR q.1 q.2.1)) (bN p.1 q.1)) (bN p.2.1 q.2.1))<RM,(bN p.2.2 q.2.2)<RM,(gR (bN (bN p.2.2 q.2.2) (bN p.2.2 q.2.2)) (bN 168696 (bN (bN p.1 q.1) (bN p.2.1 q.2.1))))<RM,(bN p.1 q.1)<RM,(bN p.2.1 q.2.1)<RM,(bN 168700 (bN p.1 q.1))<RM,(bN (bN p.2.2 q.2.2) (gR (bN (bN p.2.2 q.2.2) (bN p.2.2 q.2.2)) (bN 168696 (bN (bN p.1 q.1) (bN p.2.1 q.2.1)))))<RM,(oE (bN p.2.1 q.2.1) (bN 168700 (bN p.1 q.1)))<RM,(oE (bN (bN p.2.2 q.2.2) (bN p.2.2 q.2.2)) (bN 168696 (bN (bN p.1 q.1) (bN p.2.1 q.2.1))))<RM,(gR (bN (bN p.2.2 q.2.2) (bN p.2.2 q.2.2)) (bN 168696 (bN (bN p.1 q.1) (bN p.2.1 q.2.1))))<RM],.one (.fl (q3 (xY p q)))):=by kernel_rfl
theorem vG (p:NJ):mA prog ML (qG prog) (fun _=>true) f115 60 [.v (.fl (q3 p))]=some ([p.1<RM,p.2.1<RM,p.2.2<RM,p.1<RM,p.2.1<RM,(gR p.1 p.2.1)<RM,(bN (gR p.1 p.2.1) (gR p.1 p.2.1))<RM,(bN p.1 p.1)<RM,(oE (bN (gR p.1 p.2.1) (gR p.1 p.2.1)) (bN p.1 p.1))<RM,(bN p.2.1 p.2.1)<RM,(bN p.1 p.1)<RM,(bN 168700 (bN p.1 p.1))<RM,(bN p.2.1 p.2.1)<RM,(bN p.2.2 p.2.2)<RM,(bN p.2.2 p.2.2)<RM,(gR (bN p.2.2 p.2.2) (bN p.2.2 p.2.2))<RM,(gR (bN 168700 (bN p.1 p.1)) (bN p.2.1 p.2.1))<RM,(oE (oE (bN (gR p.1 p.2.1) (gR p.1 p.2.1)) (bN p.1 p.1)) (bN p.2.1 p.2.1))<RM,(oE (gR (bN p.2.2 p.2.2) (bN p.2.2 p.2.2)) (gR (bN 168700 (bN p.1 p.1)) (bN p.2.1 p.2.1)))<RM,(bN p.2.1 p.2.1)<RM,(bN 168700 (bN p.1 p.1))<RM,(gR (bN 168700 (bN p.1 p.1)) (bN p.2.1 p.2.1))<RM,(oE (bN p.2.1 p.2.1) (bN 168700 (bN p.1 p.1)))<RM,(gR (bN 168700 (bN p.1 p.1)) (bN p.2.1 p.2.1))<RM,(oE (gR (bN p.2.2 p.2.2) (bN p.2.2 p.2.2)) (gR (bN 168700 (bN p.1 p.1)) (bN p.2.1 p.2.1)))<RM],.one (.fl (q3 (ZF p)))):=by kernel_rfl
theorem Ie (p:NJ):mA prog ML (qG prog) (fun _=>true) f92 60 [.v (.fl (q3 p))]=some ([1<18446744073709551616,1<RM,p.2.2<RM,p.2.2≠0,p.1<RM,(DE 1 p.2.2)<RM,p.2.1<RM,(DE 1 p.2.2)<RM],.one (.fl [.q (tld p).1,.q (tld p).2])):=by kernel_rfl
def nH:Tab:=(((((ML.add 74 (g1 Nd fun p=>([],.one (.fl (q3 (p.1,p.2,1)))))).add 113 (g0 (.one (.fl [.q 0,.q 1])))).add 117 (g2 Ft Ft fun p q=>(c3 p++c3 q,.one (.fl (q3 (xY p q)))))).add 115 (g1 Ft fun p=>(c3 p,.one (.fl (q3 (ZF p)))))).add 92 (g1 Ft fun p=>(c3 p++[p.2.2≠0],.one (.fl [.q (tld p).1,.q (tld p).2]))))
theorem iL:TabOk prog nH:=(((((sY.ad func74 (kN (op:=fun p=>([],.one (.fl (q3 (p.1,p.2,1))))) rV fun p h args w ha=>cJ aI sY (aW _) func74 (JW p.1 p.2) ⟨by decide,trivial⟩ ha)).ad func113 (tD QY)).ad func117 (FG (op:=fun p q=>(c3 p++c3 q,.one (.fl (q3 (xY p q))))) oQ oQ fun p q h args w ha=>cJ aI sY (aW _) func117 (EZ p q) ⟨h.2.2.1,h.2.2.2.2.2.1,h.1,h.2.2.2.1,h.2.1,h.2.2.2.2.1,(aO _ _),(aO _ _),(aO _ _),(aO _ _),(aO _ _),(aO _ _),(aO _ _),(aO _ _),h.1,h.2.1,h.2.2.2.1,h.2.2.2.2.1,(dB _ _),(dB _ _),(aO _ _),(aO _ _),(eI _ _),(aO _ _),(aO _ _),(eI _ _),(aO _ _),(eI _ _),(aO _ _),(dB _ _),(aO _ _),(aO _ _),(aO _ _),(aO _ _),(eI _ _),(eI _ _),(dB _ _),trivial⟩ ha)).ad func115 (kN (op:=fun p=>(c3 p,.one (.fl (q3 (ZF p))))) oQ fun p h args w ha=>cJ aI sY (aW _) func115 (vG p) ⟨h.1,h.2.1,h.2.2.1,h.1,h.2.1,(dB _ _),(aO _ _),(aO _ _),(eI _ _),(aO _ _),(aO _ _),(aO _ _),(aO _ _),(aO _ _),(aO _ _),(dB _ _),(dB _ _),(eI _ _),(eI _ _),(aO _ _),(aO _ _),(dB _ _),(eI _ _),(dB _ _),(eI _ _),trivial⟩ ha)).ad func92 (kN (op:=fun p=>(c3 p++[p.2.2≠0],.one (.fl [.q (tld p).1,.q (tld p).2]))) oQ fun p h args w ha=>cJ aI sY (aW _) func92 (Ie p) ⟨(by decide),fI,h.2.2.1,h.2.2.2.1,h.1,(AA _ _),h.2.1,(AA _ _),trivial⟩ ha))
theorem aDH {w:World} {l l':List At} {n m:Nat} {args:List Value} (e:aA l=aA l') (h:cT w [.s l n m] args):cT w [.s l' n m] args:=by
 match args,h with
 | [v],h =>
  obtain⟨⟨b,o,rfl,hb,hr⟩,_⟩:=h;exact⟨⟨b,o,rfl,hb,e▸hr⟩,trivial⟩
 | [],h=>exact h.elim
 | _::_::_,h=>exact h.2.elim
def Oa (k:Nat) (c:List Nat→List Prop×RV):gL
 | [.s l n m]=>bif Nat.beq n k then (match EP l with|some x=>some (c x)|none=>none)else none
 | _=>none
theorem KL {f:FuncId} {k:Nat} {c:List Nat→List Prop×RV} (h:∀x m,bC (c x).1→∀args w,cT w [.s (x.map .q) k m] args→bM prog f (c x).2 args w) :
  ∀cs pre r,Oa k c cs=some (pre,r)→bC pre→∀(args:List Value) (w:World),cT w cs args→bM prog f r args w:=by
 intro cs pre r hg hp args w ha;unfold Oa at hg;split at hg
 ·rename_i l n m;cases hb:Nat.beq n k<;>rw[hb]at hg
  ·cases hg
  ·cases Nat.eq_of_beq_eq_true hb;simp only[cond_true]at hg;split at hg
   ·rename_i x hx;have e:c x=(pre,r):=by simpa using hg
    have:=h x m (by rw[e]; exact hp) args w (aDH (qK hx) ha);rw[e]at this;exact this
   ·cases hg
 ·cases hg
def nE (x y:Nat):Bool:=decide (x<RM∧y<RM)
theorem SS (x y m:Nat):cR prog (qG prog) (fun _=>⟨fun _=>nH,fun _=>true,assoc [(13,.bool false)]⟩) f110 60 [.s [.q x,.q y] 2 m]=some ([x<aH,aJ .neq .i64 (SL x) 0=some (.bool false),y<aH,aJ .neq .i64 (SL y) 0=some (.bool false)],.one (.im (.bool true))):=by kernel_rfl
theorem SU (x y m:Nat):cR prog (qG prog) (fun _=>⟨fun _=>nH,fun _=>true,assoc [(13,.bool true)]⟩) f110 60 [.s [.q x,.q y] 2 m]=some ([x<aH,aJ .neq .i64 (SL x) 0=some (.bool true)],.one (.im (.bool false))):=by kernel_rfl
theorem ST (x y m:Nat):cR prog (qG prog) (fun n=>⟨fun _=>nH,fun _=>true,assoc [(13,.bool (Nat.blt n 48))]⟩) f110 60 [.s [.q x,.q y] 2 m]=some ([x<aH,aJ .neq .i64 (SL x) 0=some (.bool false),y<aH,aJ .neq .i64 (SL y) 0=some (.bool true)],.one (.im (.bool false))):=by kernel_rfl
theorem SV (x y m:Nat) (hx:x<aH) (hy:y<aH) (args:List Value) (w:World) (ha:cT w [.s [.q x,.q y] 2 m] args):bM prog 110 (.one (.im (.bool (nE x y)))) args w:=by
 unfold nE
 by_cases h1:x<RM
 ·by_cases h2:y<RM
  ·rw[decide_eq_true ⟨h1,h2⟩];exact aV aI (fun _ _=>iL) (aW _) func110 (SS x y m) ⟨hx,BG h1,hy,BG h2,trivial⟩ ha
  ·rw[decide_eq_false (fun h=>h2 h.2)];exact aV aI (fun _ _=>iL) (aW _) func110 (ST x y m) ⟨hx,BG h1,hy,BH h2,trivial⟩ ha
 ·rw[decide_eq_false (fun h=>h1 h.1)];exact aV aI (fun _ _=>iL) (aW _) func110 (SU x y m) ⟨hx,BH h1,trivial⟩ ha
def aDK (b:Bool):List Nat→List Prop×RV
 | [x,y]=>([x<aH,y<aH,nE x y=b],.one (.im (.bool b)))
 | _=>([False],.one (.im (.bool b)))
theorem aCz (b:Bool):∀cs pre r,Oa 2 (aDK b) cs=some (pre,r)→bC pre→∀(args:List Value) (w:World),cT w cs args→bM prog 110 r args w :=
 KL fun x m hp args w ha=>by
  match x,hp,ha with
  | [x,y],hp,ha =>
   have h:=SV x y m hp.1 hp.2.1 args w ha;rw[hp.2.2.1]at h;exact h
  | [],hp,_=>exact hp.1.elim
  | [_],hp,_=>exact hp.1.elim
  | _::_::_::_,hp,_=>exact hp.1.elim
theorem aAB (x y:Nat):cR prog (qG prog) (fun _=>⟨fun _=>nH,fun _=>true,fun _=>none⟩) f111 60 [.v (.fl [.q x]),.v (.fl [.q y])]=some ([x<RM,y<RM,bN x x<RM,bN 168700 (bN x x)<RM,bN y y<RM,1<18446744073709551616,bN x x<RM,bN y y<RM,bN (bN x x) (bN y y)<RM,1<RM,bN 168696 (bN (bN x x) (bN y y))<RM,aA [At.q (gR (bN 168700 (bN x x)) (bN y y))]=aA [At.q (gR 1 (bN 168696 (bN (bN x x) (bN y y))))]],.one (.im (.bool true))):=by kernel_rfl
theorem aAC (x y:Nat):cR prog (qG prog) (fun _=>⟨fun _=>nH,fun _=>false,fun _=>none⟩) f111 60 [.v (.fl [.q x]),.v (.fl [.q y])]=some ([x<RM,y<RM,bN x x<RM,bN 168700 (bN x x)<RM,bN y y<RM,1<18446744073709551616,bN x x<RM,bN y y<RM,bN (bN x x) (bN y y)<RM,1<RM,bN 168696 (bN (bN x x) (bN y y))<RM,aA [At.q (gR (bN 168700 (bN x x)) (bN y y))]≠aA [At.q (gR 1 (bN 168696 (bN (bN x x) (bN y y))))]],.one (.im (.bool false))):=by kernel_rfl
theorem flq {a b:Nat} (ha:a<RM) (hb:b<RM) (h:aA [At.q a]=aA [At.q b]):a=b:=by
 have h:[Value.int .u64 (fw a 0:Nat),.int .u64 (fw a 1:Nat),.int .u64 (fw a 2:Nat),.int .u64 (fw a 3:Nat)]=[Value.int .u64 (fw b 0:Nat),.int .u64 (fw b 1:Nat),.int .u64 (fw b 2:Nat),.int .u64 (fw b 3:Nat)]:=h;simp only[List.cons.injEq,Value.int.injEq,true_and,and_true,Int.natCast_inj]at h;rw[←vN ha,←vN hb,h.1,h.2.1,h.2.2.1,h.2.2.2]
theorem QN (x y:Nat) (hx:x<RM) (hy:y<RM) (args:List Value) (w:World) (ha:cT w [.v (.fl [.q x]),.v (.fl [.q y])] args):bM prog 111 (.one (.im (.bool (decide (BQ x y))))) args w:=by
 by_cases h:BQ x y
 ·rw[decide_eq_true h];exact aV aI (fun _ _=>iL) (aW _) func111 (aAB x y) ⟨hx,hy,aO _ _,aO _ _,aO _ _,by decide,aO _ _,aO _ _,aO _ _,fI,aO _ _,by rw[h],trivial⟩ ha
 ·rw[decide_eq_false h];exact aV aI (fun _ _=>iL) (aW _) func111 (aAC x y) ⟨hx,hy,aO _ _,aO _ _,aO _ _,by decide,aO _ _,aO _ _,aO _ _,fI,aO _ _,fun e=>h (flq (dB _ _) (dB _ _) e),trivial⟩ ha
def Tt (b:Bool):gL
 | [.v (.fl l),.v (.fl m)]=>match rW l,rW m with|some x,some y=>some ([x<RM,y<RM,decide (BQ x y)=b],.one (.im (.bool b)))|_,_=>none
 | _=>none
theorem aCs (b:Bool):∀cs pre r,Tt b cs=some (pre,r)→bC pre→∀(args:List Value) (w:World),cT w cs args→bM prog 111 r args w:=by
 intro cs pre r hg hp args w ha;unfold Tt at hg;split at hg
 ·rename_i l m;split at hg
  ·rename_i x y hx hy;cases hg;have h:=QN x y hp.1 hp.2.1 args w (by
    match args,ha with
    | [v,u],ha =>
     refine⟨?_,?_,trivial⟩
     ·show v=.agg (aA (q1 x)).toArray;rw[←dO l x hx]; exact ha.1
     ·show u=.agg (aA (q1 y)).toArray;rw[←dO m y hy]; exact ha.2.1
    | [],ha=>exact ha.elim
    | [_],ha=>exact ha.2.elim
    | _::_::_::_,ha=>exact ha.2.2.elim)
   rw[hp.2.2.1]at h;exact h
  ·cases hg
 ·cases hg
def BO (b c:Bool):Tab:=(nH.add 110 (Oa 2 (aDK b))).add 111 (Tt c)
theorem sX (b c:Bool):TabOk prog (BO b c):=(iL.ad func110 (aCz b)).ad func111 (aCs c)
end Go.Proofs.YtpjlhhpjpnacmaaGreatDoor.Ex
