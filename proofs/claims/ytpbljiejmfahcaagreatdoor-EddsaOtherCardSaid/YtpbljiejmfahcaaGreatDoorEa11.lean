/- Ea11 -/
import Derived.Test.YtpbljiejmfahcaaGreatDoorEa10
import Derived.Test.YtpbljiejmfahcaaGreatDoorEa05
import Derived.Test.YtpbljiejmfahcaaGreatDoorEa02
import Derived.Test.YtpbljiejmfahcaaGreatDoorEa04
import Derived.Test.YtpbljiejmfahcaaGreatDoorEa07
import Derived.Test.YtpbljiejmfahcaaGreatDoorProg
set_option maxRecDepth 100000
set_option linter.unusedVariables false
set_option linter.unusedSimpArgs false
set_option linter.unnecessarySimpa false
noncomputable section
namespace Go.Proofs.YtpbljiejmfahcaaGreatDoor.Ex
open Go.Proofs.Tryz
def cC0:RE:=(Z0*Z0*Z1*Z1*Z2*Z2*Z2*Z2*Z3*Z3*Z3*Z3*Z7*Z7*Z7+Z0*Z0*Z2*Z2*Z2*Z2*Z3*Z3*Z3*Z3*Z6*Z7*Z7-Z0*Z0*Z2*Z2*Z2*Z2*Z3*Z3*Z6*Z6*Z7-Z0*Z0*Z2*Z2*Z3*Z3*Z3*Z3*Z6*Z7+Z1*Z1*Z2*Z2*Z2*Z2*Z3*Z3*Z3*Z3*Z7*Z7-Z1*Z1*Z2*Z2*Z2*Z2*Z3*Z3*Z6*Z7-Z1*Z1*Z2*Z2*Z3*Z3*Z3*Z3*Z7+(RE.one+RE.one)*Z2*Z2*Z2*Z2*Z3*Z3*Z3*Z3*Z6*Z7-Z2*Z2*Z2*Z2*Z3*Z3*Z3*Z3*Z7*Z7-(RE.one+RE.one)*Z2*Z2*Z2*Z2*Z3*Z3*Z6*Z6+Z2*Z2*Z2*Z2*Z6*Z6-(RE.one+RE.one)*Z2*Z2*Z3*Z3*Z3*Z3*Z6+(RE.one+RE.one+RE.one+RE.one)*Z2*Z2*Z3*Z3*Z6-(RE.one+RE.one)*Z2*Z2*Z3*Z3*Z7+Z3*Z3*Z3*Z3)
def cC1:RE:=(Z0*Z0*Z0*Z0*Z2*Z2*Z3*Z3*Z6*Z6*Z7+(RE.one+RE.one)*Z0*Z0*Z2*Z2*Z3*Z3*Z6*Z6-(RE.one+RE.one)*Z0*Z0*Z2*Z2*Z3*Z3*Z6*Z7-Z0*Z0*Z2*Z2*Z6*Z6-Z0*Z0*Z3*Z3*Z6+Z1*Z1*Z1*Z1*Z2*Z2*Z3*Z3*Z7+(RE.one+RE.one)*Z1*Z1*Z2*Z2*Z3*Z3*Z6-(RE.one+RE.one)*Z1*Z1*Z2*Z2*Z3*Z3*Z7-Z1*Z1*Z2*Z2*Z6-Z1*Z1*Z3*Z3-(RE.one+RE.one)*Z2*Z2*Z3*Z3*Z6+Z2*Z2*Z3*Z3*Z7+Z2*Z2*Z6+Z3*Z3+RE.one)
def cX0:RE:=(Z0*Z2*Z2*Z2*Z2*Z3*Z3*Z3*Z4*Z4*Z5*Z6*Z7*Z7-Z0*Z2*Z2*Z2*Z2*Z3*Z4*Z4*Z5*Z6*Z6*Z7-Z0*Z2*Z2*Z2*Z3*Z3*Z3*Z3*Z4*Z5*Z5*Z7*Z7-Z0*Z2*Z2*Z2*Z3*Z3*Z4*Z4*Z4*Z6*Z6*Z7+Z0*Z2*Z2*Z2*Z3*Z3*Z4*Z6*Z7+Z0*Z2*Z2*Z3*Z3*Z3*Z5*Z5*Z5*Z7-Z0*Z2*Z2*Z3*Z3*Z3*Z5*Z7+Z0*Z2*Z3*Z3*Z3*Z3*Z4*Z5*Z5*Z7+Z1*Z2*Z2*Z2*Z2*Z3*Z3*Z3*Z4*Z5*Z5*Z7*Z7-Z1*Z2*Z2*Z2*Z2*Z3*Z4*Z5*Z5*Z6*Z7+Z1*Z2*Z2*Z2*Z3*Z3*Z3*Z3*Z4*Z4*Z5*Z7*Z7+Z1*Z2*Z2*Z2*Z3*Z3*Z5*Z5*Z5*Z7-Z1*Z2*Z2*Z2*Z3*Z3*Z5*Z7+Z1*Z2*Z2*Z3*Z3*Z3*Z4*Z4*Z4*Z6*Z7-Z1*Z2*Z2*Z3*Z3*Z3*Z4*Z7-Z1*Z2*Z3*Z3*Z3*Z3*Z4*Z4*Z5*Z7)
def cX1:RE:=(Z0*Z0*Z0*Z2*Z2*Z3*Z4*Z4*Z5*Z6*Z6*Z7-Z0*Z0*Z0*Z2*Z3*Z3*Z4*Z5*Z5*Z6*Z7+Z0*Z0*Z0*Z2*Z4*Z4*Z4*Z5*Z5*Z6*Z6*Z7-Z0*Z0*Z0*Z2*Z4*Z4*Z4*Z6*Z6*Z6-Z0*Z0*Z0*Z2*Z4*Z5*Z5*Z6*Z6+Z0*Z0*Z0*Z2*Z4*Z6*Z6-Z0*Z0*Z0*Z3*Z4*Z4*Z5*Z5*Z5*Z6*Z7+Z0*Z0*Z0*Z3*Z4*Z4*Z5*Z6*Z6+Z0*Z0*Z0*Z3*Z5*Z5*Z5*Z6-Z0*Z0*Z0*Z3*Z5*Z6-Z0*Z0*Z1*Z2*Z2*Z3*Z4*Z4*Z4*Z5*Z5*Z6*Z7*Z7+Z0*Z0*Z1*Z2*Z2*Z3*Z4*Z5*Z5*Z6*Z7-Z0*Z0*Z1*Z2*Z3*Z3*Z4*Z4*Z5*Z5*Z5*Z7*Z7+Z0*Z0*Z1*Z2*Z3*Z3*Z4*Z4*Z5*Z6*Z7-Z0*Z0*Z1*Z2*Z4*Z4*Z5*Z5*Z5*Z6*Z7+Z0*Z0*Z1*Z2*Z4*Z4*Z5*Z6*Z6+Z0*Z0*Z1*Z2*Z5*Z5*Z5*Z6-Z0*Z0*Z1*Z2*Z5*Z6-Z0*Z0*Z1*Z3*Z4*Z4*Z4*Z5*Z5*Z6*Z7+Z0*Z0*Z1*Z3*Z4*Z4*Z4*Z6*Z6+Z0*Z0*Z1*Z3*Z4*Z5*Z5*Z6-Z0*Z0*Z1*Z3*Z4*Z6-Z0*Z1*Z1*Z2*Z2*Z3*Z4*Z4*Z5*Z5*Z5*Z7*Z7+Z0*Z1*Z1*Z2*Z2*Z3*Z4*Z4*Z5*Z6*Z7+Z0*Z1*Z1*Z2*Z3*Z3*Z4*Z4*Z4*Z5*Z5*Z7*Z7-Z0*Z1*Z1*Z2*Z3*Z3*Z4*Z5*Z5*Z7+Z0*Z1*Z1*Z2*Z4*Z4*Z4*Z5*Z5*Z6*Z7-Z0*Z1*Z1*Z2*Z4*Z4*Z4*Z6*Z6-Z0*Z1*Z1*Z2*Z4*Z5*Z5*Z6+Z0*Z1*Z1*Z2*Z4*Z6-Z0*Z1*Z1*Z3*Z4*Z4*Z5*Z5*Z5*Z7+Z0*Z1*Z1*Z3*Z4*Z4*Z5*Z6+Z0*Z1*Z1*Z3*Z5*Z5*Z5-Z0*Z1*Z1*Z3*Z5-Z0*Z2*Z2*Z3*Z4*Z4*Z5*Z6*Z7+Z0*Z2*Z3*Z3*Z4*Z5*Z5*Z7-Z0*Z2*Z4*Z4*Z4*Z5*Z5*Z6*Z7+Z0*Z2*Z4*Z4*Z4*Z6*Z6+Z0*Z2*Z4*Z5*Z5*Z6-Z0*Z2*Z4*Z6+Z0*Z3*Z4*Z4*Z5*Z5*Z5*Z7-Z0*Z3*Z4*Z4*Z5*Z6-Z0*Z3*Z5*Z5*Z5+Z0*Z3*Z5+Z1*Z1*Z1*Z2*Z2*Z3*Z4*Z5*Z5*Z7+Z1*Z1*Z1*Z2*Z3*Z3*Z4*Z4*Z5*Z7-Z1*Z1*Z1*Z2*Z4*Z4*Z5*Z5*Z5*Z7+Z1*Z1*Z1*Z2*Z4*Z4*Z5*Z6+Z1*Z1*Z1*Z2*Z5*Z5*Z5-Z1*Z1*Z1*Z2*Z5-Z1*Z1*Z1*Z3*Z4*Z4*Z4*Z5*Z5*Z7+Z1*Z1*Z1*Z3*Z4*Z4*Z4*Z6+Z1*Z1*Z1*Z3*Z4*Z5*Z5-Z1*Z1*Z1*Z3*Z4-Z1*Z2*Z2*Z3*Z4*Z5*Z5*Z7-Z1*Z2*Z3*Z3*Z4*Z4*Z5*Z7+Z1*Z2*Z4*Z4*Z5*Z5*Z5*Z7-Z1*Z2*Z4*Z4*Z5*Z6-Z1*Z2*Z5*Z5*Z5+Z1*Z2*Z5+Z1*Z3*Z4*Z4*Z4*Z5*Z5*Z7-Z1*Z3*Z4*Z4*Z4*Z6-Z1*Z3*Z4*Z5*Z5+Z1*Z3*Z4)
def cX2:RE:=(Z0*Z0*Z0*Z2*Z2*Z2*Z4*Z6*Z6*Z6-Z0*Z0*Z0*Z2*Z2*Z3*Z5*Z6*Z6+Z0*Z0*Z0*Z2*Z3*Z3*Z4*Z6*Z6-Z0*Z0*Z0*Z2*Z4*Z6*Z6-Z0*Z0*Z0*Z3*Z3*Z3*Z5*Z6+Z0*Z0*Z0*Z3*Z5*Z6-Z0*Z0*Z1*Z2*Z2*Z2*Z5*Z6*Z6-Z0*Z0*Z1*Z2*Z2*Z3*Z4*Z6*Z6+Z0*Z0*Z1*Z2*Z2*Z3*Z4*Z6*Z7-Z0*Z0*Z1*Z2*Z3*Z3*Z5*Z6+Z0*Z0*Z1*Z2*Z3*Z3*Z5*Z7+Z0*Z0*Z1*Z2*Z5*Z6-Z0*Z0*Z1*Z3*Z3*Z3*Z4*Z6+Z0*Z0*Z1*Z3*Z4*Z6+Z0*Z1*Z1*Z2*Z2*Z2*Z4*Z6*Z6-Z0*Z1*Z1*Z2*Z2*Z3*Z5*Z6+Z0*Z1*Z1*Z2*Z2*Z3*Z5*Z7+Z0*Z1*Z1*Z2*Z3*Z3*Z4*Z6-Z0*Z1*Z1*Z2*Z3*Z3*Z4*Z7-Z0*Z1*Z1*Z2*Z4*Z6-Z0*Z1*Z1*Z3*Z3*Z3*Z5+Z0*Z1*Z1*Z3*Z5-Z0*Z2*Z2*Z2*Z4*Z6*Z6+Z0*Z2*Z2*Z3*Z5*Z6-Z0*Z2*Z3*Z3*Z4*Z6+Z0*Z2*Z4*Z6+Z0*Z3*Z3*Z3*Z5-Z0*Z3*Z5-Z1*Z1*Z1*Z2*Z2*Z2*Z5*Z6-Z1*Z1*Z1*Z2*Z2*Z3*Z4*Z6-Z1*Z1*Z1*Z2*Z3*Z3*Z5+Z1*Z1*Z1*Z2*Z5-Z1*Z1*Z1*Z3*Z3*Z3*Z4+Z1*Z1*Z1*Z3*Z4+Z1*Z2*Z2*Z2*Z5*Z6+Z1*Z2*Z2*Z3*Z4*Z6+Z1*Z2*Z3*Z3*Z5-Z1*Z2*Z5+Z1*Z3*Z3*Z3*Z4-Z1*Z3*Z4)
def cY0:RE:=(-(Z0*Z2*Z2*Z2*Z2*Z3*Z3*Z3*Z4*Z5*Z5*Z6*Z7*Z7)+Z0*Z2*Z2*Z2*Z2*Z3*Z4*Z5*Z5*Z6*Z6*Z7-Z0*Z2*Z2*Z2*Z3*Z3*Z3*Z3*Z4*Z4*Z5*Z6*Z7*Z7-Z0*Z2*Z2*Z2*Z3*Z3*Z5*Z5*Z5*Z6*Z7+Z0*Z2*Z2*Z2*Z3*Z3*Z5*Z6*Z7-Z0*Z2*Z2*Z3*Z3*Z3*Z4*Z4*Z4*Z6*Z6*Z7+Z0*Z2*Z2*Z3*Z3*Z3*Z4*Z6*Z7+Z0*Z2*Z3*Z3*Z3*Z3*Z4*Z4*Z5*Z6*Z7+Z1*Z2*Z2*Z2*Z2*Z3*Z3*Z3*Z4*Z4*Z5*Z6*Z7*Z7-Z1*Z2*Z2*Z2*Z2*Z3*Z4*Z4*Z5*Z6*Z6*Z7-Z1*Z2*Z2*Z2*Z3*Z3*Z3*Z3*Z4*Z5*Z5*Z7*Z7-Z1*Z2*Z2*Z2*Z3*Z3*Z4*Z4*Z4*Z6*Z6*Z7+Z1*Z2*Z2*Z2*Z3*Z3*Z4*Z6*Z7+Z1*Z2*Z2*Z3*Z3*Z3*Z5*Z5*Z5*Z7-Z1*Z2*Z2*Z3*Z3*Z3*Z5*Z7+Z1*Z2*Z3*Z3*Z3*Z3*Z4*Z5*Z5*Z7)
def cY1:RE:=(-(Z0*Z0*Z0*Z2*Z2*Z3*Z4*Z5*Z5*Z6*Z6*Z7)-Z0*Z0*Z0*Z2*Z3*Z3*Z4*Z4*Z5*Z6*Z6*Z7+Z0*Z0*Z0*Z2*Z4*Z4*Z5*Z5*Z5*Z6*Z6*Z7-Z0*Z0*Z0*Z2*Z4*Z4*Z5*Z6*Z6*Z6-Z0*Z0*Z0*Z2*Z5*Z5*Z5*Z6*Z6+Z0*Z0*Z0*Z2*Z5*Z6*Z6+Z0*Z0*Z0*Z3*Z4*Z4*Z4*Z5*Z5*Z6*Z6*Z7-Z0*Z0*Z0*Z3*Z4*Z4*Z4*Z6*Z6*Z6-Z0*Z0*Z0*Z3*Z4*Z5*Z5*Z6*Z6+Z0*Z0*Z0*Z3*Z4*Z6*Z6-Z0*Z0*Z1*Z2*Z2*Z3*Z4*Z4*Z5*Z5*Z5*Z6*Z7*Z7+Z0*Z0*Z1*Z2*Z2*Z3*Z4*Z4*Z5*Z6*Z6*Z7+Z0*Z0*Z1*Z2*Z3*Z3*Z4*Z4*Z4*Z5*Z5*Z6*Z7*Z7-Z0*Z0*Z1*Z2*Z3*Z3*Z4*Z5*Z5*Z6*Z7+Z0*Z0*Z1*Z2*Z4*Z4*Z4*Z5*Z5*Z6*Z6*Z7-Z0*Z0*Z1*Z2*Z4*Z4*Z4*Z6*Z6*Z6-Z0*Z0*Z1*Z2*Z4*Z5*Z5*Z6*Z6+Z0*Z0*Z1*Z2*Z4*Z6*Z6-Z0*Z0*Z1*Z3*Z4*Z4*Z5*Z5*Z5*Z6*Z7+Z0*Z0*Z1*Z3*Z4*Z4*Z5*Z6*Z6+Z0*Z0*Z1*Z3*Z5*Z5*Z5*Z6-Z0*Z0*Z1*Z3*Z5*Z6+Z0*Z1*Z1*Z2*Z2*Z3*Z4*Z4*Z4*Z5*Z5*Z6*Z7*Z7-Z0*Z1*Z1*Z2*Z2*Z3*Z4*Z5*Z5*Z6*Z7+Z0*Z1*Z1*Z2*Z3*Z3*Z4*Z4*Z5*Z5*Z5*Z7*Z7-Z0*Z1*Z1*Z2*Z3*Z3*Z4*Z4*Z5*Z6*Z7+Z0*Z1*Z1*Z2*Z4*Z4*Z5*Z5*Z5*Z6*Z7-Z0*Z1*Z1*Z2*Z4*Z4*Z5*Z6*Z6-Z0*Z1*Z1*Z2*Z5*Z5*Z5*Z6+Z0*Z1*Z1*Z2*Z5*Z6+Z0*Z1*Z1*Z3*Z4*Z4*Z4*Z5*Z5*Z6*Z7-Z0*Z1*Z1*Z3*Z4*Z4*Z4*Z6*Z6-Z0*Z1*Z1*Z3*Z4*Z5*Z5*Z6+Z0*Z1*Z1*Z3*Z4*Z6+Z0*Z2*Z2*Z3*Z4*Z5*Z5*Z6*Z7+Z0*Z2*Z3*Z3*Z4*Z4*Z5*Z6*Z7-Z0*Z2*Z4*Z4*Z5*Z5*Z5*Z6*Z7+Z0*Z2*Z4*Z4*Z5*Z6*Z6+Z0*Z2*Z5*Z5*Z5*Z6-Z0*Z2*Z5*Z6-Z0*Z3*Z4*Z4*Z4*Z5*Z5*Z6*Z7+Z0*Z3*Z4*Z4*Z4*Z6*Z6+Z0*Z3*Z4*Z5*Z5*Z6-Z0*Z3*Z4*Z6+Z1*Z1*Z1*Z2*Z2*Z3*Z4*Z4*Z5*Z6*Z7-Z1*Z1*Z1*Z2*Z3*Z3*Z4*Z5*Z5*Z7+Z1*Z1*Z1*Z2*Z4*Z4*Z4*Z5*Z5*Z6*Z7-Z1*Z1*Z1*Z2*Z4*Z4*Z4*Z6*Z6-Z1*Z1*Z1*Z2*Z4*Z5*Z5*Z6+Z1*Z1*Z1*Z2*Z4*Z6-Z1*Z1*Z1*Z3*Z4*Z4*Z5*Z5*Z5*Z7+Z1*Z1*Z1*Z3*Z4*Z4*Z5*Z6+Z1*Z1*Z1*Z3*Z5*Z5*Z5-Z1*Z1*Z1*Z3*Z5-Z1*Z2*Z2*Z3*Z4*Z4*Z5*Z6*Z7+Z1*Z2*Z3*Z3*Z4*Z5*Z5*Z7-Z1*Z2*Z4*Z4*Z4*Z5*Z5*Z6*Z7+Z1*Z2*Z4*Z4*Z4*Z6*Z6+Z1*Z2*Z4*Z5*Z5*Z6-Z1*Z2*Z4*Z6+Z1*Z3*Z4*Z4*Z5*Z5*Z5*Z7-Z1*Z3*Z4*Z4*Z5*Z6-Z1*Z3*Z5*Z5*Z5+Z1*Z3*Z5)
def cY2:RE:=(Z0*Z0*Z0*Z2*Z2*Z2*Z5*Z6*Z6*Z6+Z0*Z0*Z0*Z2*Z2*Z3*Z4*Z6*Z6*Z6+Z0*Z0*Z0*Z2*Z3*Z3*Z5*Z6*Z6-Z0*Z0*Z0*Z2*Z5*Z6*Z6+Z0*Z0*Z0*Z3*Z3*Z3*Z4*Z6*Z6-Z0*Z0*Z0*Z3*Z4*Z6*Z6+Z0*Z0*Z1*Z2*Z2*Z2*Z4*Z6*Z6*Z6-Z0*Z0*Z1*Z2*Z2*Z3*Z5*Z6*Z6+Z0*Z0*Z1*Z2*Z2*Z3*Z5*Z6*Z7+Z0*Z0*Z1*Z2*Z3*Z3*Z4*Z6*Z6-Z0*Z0*Z1*Z2*Z3*Z3*Z4*Z6*Z7-Z0*Z0*Z1*Z2*Z4*Z6*Z6-Z0*Z0*Z1*Z3*Z3*Z3*Z5*Z6+Z0*Z0*Z1*Z3*Z5*Z6+Z0*Z1*Z1*Z2*Z2*Z2*Z5*Z6*Z6+Z0*Z1*Z1*Z2*Z2*Z3*Z4*Z6*Z6-Z0*Z1*Z1*Z2*Z2*Z3*Z4*Z6*Z7+Z0*Z1*Z1*Z2*Z3*Z3*Z5*Z6-Z0*Z1*Z1*Z2*Z3*Z3*Z5*Z7-Z0*Z1*Z1*Z2*Z5*Z6+Z0*Z1*Z1*Z3*Z3*Z3*Z4*Z6-Z0*Z1*Z1*Z3*Z4*Z6-Z0*Z2*Z2*Z2*Z5*Z6*Z6-Z0*Z2*Z2*Z3*Z4*Z6*Z6-Z0*Z2*Z3*Z3*Z5*Z6+Z0*Z2*Z5*Z6-Z0*Z3*Z3*Z3*Z4*Z6+Z0*Z3*Z4*Z6+Z1*Z1*Z1*Z2*Z2*Z2*Z4*Z6*Z6-Z1*Z1*Z1*Z2*Z2*Z3*Z5*Z6+Z1*Z1*Z1*Z2*Z3*Z3*Z4*Z6-Z1*Z1*Z1*Z2*Z4*Z6-Z1*Z1*Z1*Z3*Z3*Z3*Z5+Z1*Z1*Z1*Z3*Z5-Z1*Z2*Z2*Z2*Z4*Z6*Z6+Z1*Z2*Z2*Z3*Z5*Z6-Z1*Z2*Z3*Z3*Z4*Z6+Z1*Z2*Z4*Z6+Z1*Z3*Z3*Z3*Z5-Z1*Z3*Z5)
section
variable {R:Type} (K:CR R) (inv:R→R) (a d:R)
def fD (x y:R):Prop:=K.add (K.mul a (K.mul x x)) (K.mul y y)=K.add K.one (K.mul d (K.mul (K.mul x x) (K.mul y y)))
def Bf (x1 y1 x2 y2:R):R:=K.mul d (K.mul (K.mul x1 x2) (K.mul y1 y2))
def MA (x1 y1 x2 y2:R):R:=K.add (K.mul x1 y2) (K.mul y1 x2)
def MB (x1 y1 x2 y2:R):R:=K.sub (K.mul y1 y2) (K.mul a (K.mul x1 x2))
def BQ (x1 y1 x2 y2:R):R:=K.add K.one (Bf K d x1 y1 x2 y2)
def yY (x1 y1 x2 y2:R):R:=K.sub K.one (Bf K d x1 y1 x2 y2)
variable {K} {a} {d}
theorem ST {x1 y1 x2 y2:R} (h1:fD K a d x1 y1) (h2:fD K a d x2 y2):K.add (K.mul a (K.mul (K.mul (MA K x1 y1 x2 y2) (yY K d x1 y1 x2 y2)) (K.mul (MA K x1 y1 x2 y2) (yY K d x1 y1 x2 y2)))) (K.mul (K.mul (MB K a x1 y1 x2 y2) (BQ K d x1 y1 x2 y2)) (K.mul (MB K a x1 y1 x2 y2) (BQ K d x1 y1 x2 y2)))=K.add (K.mul (K.mul (BQ K d x1 y1 x2 y2) (yY K d x1 y1 x2 y2)) (K.mul (BQ K d x1 y1 x2 y2) (yY K d x1 y1 x2 y2))) (K.mul d (K.mul (K.mul (MA K x1 y1 x2 y2) (MB K a x1 y1 x2 y2)) (K.mul (MA K x1 y1 x2 y2) (MB K a x1 y1 x2 y2)))) :=
 nK (K:=K) (c1:=RE.den K (cE K [x1,y1,x2,y2,K.zero,K.zero,a,d]) cC0) (c2:=RE.den K (cE K [x1,y1,x2,y2,K.zero,K.zero,a,d]) cC1) h1 h2 (aX K (cE K [x1,y1,x2,y2,K.zero,K.zero,a,d]) (Z6*((Z0*Z3+Z1*Z2)*(RE.one-Z7*(Z0*Z2*(Z1*Z3)))*((Z0*Z3+Z1*Z2)*(RE.one-Z7*(Z0*Z2*(Z1*Z3)))))+(Z1*Z3-Z6*(Z0*Z2))*(RE.one+Z7*(Z0*Z2*(Z1*Z3)))*((Z1*Z3-Z6*(Z0*Z2))*(RE.one+Z7*(Z0*Z2*(Z1*Z3))))-((RE.one+Z7*(Z0*Z2*(Z1*Z3)))*(RE.one-Z7*(Z0*Z2*(Z1*Z3)))*((RE.one+Z7*(Z0*Z2*(Z1*Z3)))*(RE.one-Z7*(Z0*Z2*(Z1*Z3))))+Z7*((Z0*Z3+Z1*Z2)*(Z1*Z3-Z6*(Z0*Z2))*((Z0*Z3+Z1*Z2)*(Z1*Z3-Z6*(Z0*Z2)))))) (.add (.mul cC0 (Z6*(Z0*Z0)+Z1*Z1-(RE.one+Z7*(Z0*Z0*(Z1*Z1))))) (.mul cC1 (Z6*(Z2*Z2)+Z3*Z3-(RE.one+Z7*(Z2*Z2*(Z3*Z3)))))) (by kernel_rfl))
theorem Jv {x1 y1 x2 y2 x3 y3:R} (h1:fD K a d x1 y1) (h2:fD K a d x2 y2) (h3:fD K a d x3 y3):K.mul (K.add (K.mul (K.mul (MA K x1 y1 x2 y2) (yY K d x1 y1 x2 y2)) y3) (K.mul (K.mul (MB K a x1 y1 x2 y2) (BQ K d x1 y1 x2 y2)) x3)) (K.add (K.mul (BQ K d x2 y2 x3 y3) (yY K d x2 y2 x3 y3)) (K.mul d (K.mul (K.mul (MA K x2 y2 x3 y3) (MB K a x2 y2 x3 y3)) (K.mul x1 y1))))=K.mul (K.add (K.mul (K.mul (MA K x2 y2 x3 y3) (yY K d x2 y2 x3 y3)) y1) (K.mul (K.mul (MB K a x2 y2 x3 y3) (BQ K d x2 y2 x3 y3)) x1)) (K.add (K.mul (BQ K d x1 y1 x2 y2) (yY K d x1 y1 x2 y2)) (K.mul d (K.mul (K.mul (MA K x1 y1 x2 y2) (MB K a x1 y1 x2 y2)) (K.mul x3 y3)))) :=
 tQ (K:=K) (c1:=RE.den K (cE K [x1,y1,x2,y2,x3,y3,a,d]) cX0) (c2:=RE.den K (cE K [x1,y1,x2,y2,x3,y3,a,d]) cX1) (c3:=RE.den K (cE K [x1,y1,x2,y2,x3,y3,a,d]) cX2) h1 h2 h3 (aX K (cE K [x1,y1,x2,y2,x3,y3,a,d]) (((Z0*Z3+Z1*Z2)*(RE.one-Z7*(Z0*Z2*(Z1*Z3)))*Z5+(Z1*Z3-Z6*(Z0*Z2))*(RE.one+Z7*(Z0*Z2*(Z1*Z3)))*Z4)*((RE.one+Z7*(Z2*Z4*(Z3*Z5)))*(RE.one-Z7*(Z2*Z4*(Z3*Z5)))+Z7*((Z2*Z5+Z3*Z4)*(Z3*Z5-Z6*(Z2*Z4))*(Z0*Z1)))-((Z2*Z5+Z3*Z4)*(RE.one-Z7*(Z2*Z4*(Z3*Z5)))*Z1+(Z3*Z5-Z6*(Z2*Z4))*(RE.one+Z7*(Z2*Z4*(Z3*Z5)))*Z0)*((RE.one+Z7*(Z0*Z2*(Z1*Z3)))*(RE.one-Z7*(Z0*Z2*(Z1*Z3)))+Z7*((Z0*Z3+Z1*Z2)*(Z1*Z3-Z6*(Z0*Z2))*(Z4*Z5)))) (.add (.add (.mul cX0 (Z6*(Z0*Z0)+Z1*Z1-(RE.one+Z7*(Z0*Z0*(Z1*Z1))))) (.mul cX1 (Z6*(Z2*Z2)+Z3*Z3-(RE.one+Z7*(Z2*Z2*(Z3*Z3)))))) (.mul cX2 (Z6*(Z4*Z4)+Z5*Z5-(RE.one+Z7*(Z4*Z4*(Z5*Z5)))))) (by kernel_rfl))
theorem Ju {x1 y1 x2 y2 x3 y3:R} (h1:fD K a d x1 y1) (h2:fD K a d x2 y2) (h3:fD K a d x3 y3):K.mul (K.sub (K.mul (K.mul (MB K a x1 y1 x2 y2) (BQ K d x1 y1 x2 y2)) y3) (K.mul a (K.mul (K.mul (MA K x1 y1 x2 y2) (yY K d x1 y1 x2 y2)) x3))) (K.sub (K.mul (BQ K d x2 y2 x3 y3) (yY K d x2 y2 x3 y3)) (K.mul d (K.mul (K.mul (MA K x2 y2 x3 y3) (MB K a x2 y2 x3 y3)) (K.mul x1 y1))))=K.mul (K.sub (K.mul (K.mul (MB K a x2 y2 x3 y3) (BQ K d x2 y2 x3 y3)) y1) (K.mul a (K.mul (K.mul (MA K x2 y2 x3 y3) (yY K d x2 y2 x3 y3)) x1))) (K.sub (K.mul (BQ K d x1 y1 x2 y2) (yY K d x1 y1 x2 y2)) (K.mul d (K.mul (K.mul (MA K x1 y1 x2 y2) (MB K a x1 y1 x2 y2)) (K.mul x3 y3)))) :=
 tQ (K:=K) (c1:=RE.den K (cE K [x1,y1,x2,y2,x3,y3,a,d]) cY0) (c2:=RE.den K (cE K [x1,y1,x2,y2,x3,y3,a,d]) cY1) (c3:=RE.den K (cE K [x1,y1,x2,y2,x3,y3,a,d]) cY2) h1 h2 h3 (aX K (cE K [x1,y1,x2,y2,x3,y3,a,d]) (((Z1*Z3-Z6*(Z0*Z2))*(RE.one+Z7*(Z0*Z2*(Z1*Z3)))*Z5-Z6*((Z0*Z3+Z1*Z2)*(RE.one-Z7*(Z0*Z2*(Z1*Z3)))*Z4))*((RE.one+Z7*(Z2*Z4*(Z3*Z5)))*(RE.one-Z7*(Z2*Z4*(Z3*Z5)))-Z7*((Z2*Z5+Z3*Z4)*(Z3*Z5-Z6*(Z2*Z4))*(Z0*Z1)))-((Z3*Z5-Z6*(Z2*Z4))*(RE.one+Z7*(Z2*Z4*(Z3*Z5)))*Z1-Z6*((Z2*Z5+Z3*Z4)*(RE.one-Z7*(Z2*Z4*(Z3*Z5)))*Z0))*((RE.one+Z7*(Z0*Z2*(Z1*Z3)))*(RE.one-Z7*(Z0*Z2*(Z1*Z3)))-Z7*((Z0*Z3+Z1*Z2)*(Z1*Z3-Z6*(Z0*Z2))*(Z4*Z5)))) (.add (.add (.mul cY0 (Z6*(Z0*Z0)+Z1*Z1-(RE.one+Z7*(Z0*Z0*(Z1*Z1))))) (.mul cY1 (Z6*(Z2*Z2)+Z3*Z3-(RE.one+Z7*(Z2*Z2*(Z3*Z3)))))) (.mul cY2 (Z6*(Z4*Z4)+Z5*Z5-(RE.one+Z7*(Z4*Z4*(Z5*Z5)))))) (by kernel_rfl))
theorem aAV {n m p q i j:R} (hF:(K.add (K.mul a (K.mul (K.mul n q) (K.mul n q))) (K.mul (K.mul m p) (K.mul m p)))=(K.add (K.mul (K.mul p q) (K.mul p q)) (K.mul d (K.mul (K.mul n m) (K.mul n m))))) (hi:(K.mul p i)=K.one) (hj:(K.mul q j)=K.one):(K.add (K.mul a (K.mul (K.mul n i) (K.mul n i))) (K.mul (K.mul m j) (K.mul m j)))=(K.add K.one (K.mul d (K.mul (K.mul (K.mul n i) (K.mul n i)) (K.mul (K.mul m j) (K.mul m j))))) :=
 tQ (K:=K) (c1:=(K.mul (K.mul i j) (K.mul i j))) (c2:=(K.neg (K.mul (K.add (K.mul p i) K.one) (K.sub (K.mul (K.mul m j) (K.mul m j)) K.one)))) (c3:=(K.neg (K.mul (K.add (K.mul q j) K.one) (K.sub (K.mul a (K.mul (K.mul n i) (K.mul n i))) (K.mul (K.mul p i) (K.mul p i)))))) hF hi hj (aX K (cE K [n,m,p,q,i,j,a,d]) (Z6*(Z0*Z4*(Z0*Z4))+Z1*Z5*(Z1*Z5)-(RE.one+Z7*(Z0*Z4*(Z0*Z4)*(Z1*Z5*(Z1*Z5))))) (Z4*Z5*(Z4*Z5)*(Z6*(Z0*Z3*(Z0*Z3))+Z1*Z2*(Z1*Z2)-(Z2*Z3*(Z2*Z3)+Z7*(Z0*Z1*(Z0*Z1))))+(-((Z2*Z4+RE.one)*(Z1*Z5*(Z1*Z5)-RE.one)))*(Z2*Z4-RE.one)+(-((Z3*Z5+RE.one)*(Z6*(Z0*Z4*(Z0*Z4))-Z2*Z4*(Z2*Z4))))*(Z3*Z5-RE.one)) (by kernel_rfl))
theorem Bd {n m p q i j x y k:R} (hi:(K.mul p i)=K.one) (hj:(K.mul q j)=K.one) (hk:(K.mul (K.add K.one (K.mul d (K.mul (K.mul (K.mul n i) x) (K.mul (K.mul m j) y)))) k)=K.one):(K.mul (K.mul (K.add (K.mul (K.mul n i) y) (K.mul (K.mul m j) x)) k) (K.add (K.mul p q) (K.mul d (K.mul (K.mul n m) (K.mul x y)))))=(K.add (K.mul (K.mul n q) y) (K.mul (K.mul m p) x)) :=
 tQ (K:=K) (c1:=(K.sub (K.mul (K.mul k (K.add (K.mul (K.mul n q) y) (K.mul (K.mul m p) x))) (K.mul q j)) (K.mul (K.mul k (K.add (K.mul p q) (K.mul d (K.mul (K.mul n m) (K.mul x y))))) (K.mul (K.mul m j) x)))) (c2:=(K.sub (K.mul k (K.add (K.mul (K.mul n q) y) (K.mul (K.mul m p) x))) (K.mul (K.mul k (K.add (K.mul p q) (K.mul d (K.mul (K.mul n m) (K.mul x y))))) (K.mul (K.mul n i) y)))) (c3:=(K.add (K.mul (K.mul n q) y) (K.mul (K.mul m p) x))) hi hj hk (aX K (cE K [n,m,p,q,i,j,x,y,k,d]) ((Z0*Z4*Z7+Z1*Z5*Z6)*Z8*(Z2*Z3+Z9*(Z0*Z1*(Z6*Z7)))-(Z0*Z3*Z7+Z1*Z2*Z6)) ((Z8*(Z0*Z3*Z7+Z1*Z2*Z6)*(Z3*Z5)-Z8*(Z2*Z3+Z9*(Z0*Z1*(Z6*Z7)))*(Z1*Z5*Z6))*(Z2*Z4-RE.one)+(Z8*(Z0*Z3*Z7+Z1*Z2*Z6)-Z8*(Z2*Z3+Z9*(Z0*Z1*(Z6*Z7)))*(Z0*Z4*Z7))*(Z3*Z5-RE.one)+(Z0*Z3*Z7+Z1*Z2*Z6)*((RE.one+Z9*(Z0*Z4*Z6*(Z1*Z5*Z7)))*Z8-RE.one)) (by kernel_rfl))
theorem Bc {n m p q i j x y k:R} (hi:(K.mul p i)=K.one) (hj:(K.mul q j)=K.one) (hk:(K.mul (K.sub K.one (K.mul d (K.mul (K.mul (K.mul n i) x) (K.mul (K.mul m j) y)))) k)=K.one):(K.mul (K.mul (K.sub (K.mul (K.mul m j) y) (K.mul a (K.mul (K.mul n i) x))) k) (K.sub (K.mul p q) (K.mul d (K.mul (K.mul n m) (K.mul x y)))))=(K.sub (K.mul (K.mul m p) y) (K.mul a (K.mul (K.mul n q) x))) :=
 tQ (K:=K) (c1:=(K.sub (K.mul (K.mul k (K.sub (K.mul (K.mul m p) y) (K.mul a (K.mul (K.mul n q) x)))) (K.mul q j)) (K.mul (K.mul k (K.sub (K.mul p q) (K.mul d (K.mul (K.mul n m) (K.mul x y))))) (K.mul (K.mul m j) y)))) (c2:=(K.add (K.mul k (K.sub (K.mul (K.mul m p) y) (K.mul a (K.mul (K.mul n q) x)))) (K.mul (K.mul k (K.sub (K.mul p q) (K.mul d (K.mul (K.mul n m) (K.mul x y))))) (K.mul a (K.mul (K.mul n i) x))))) (c3:=(K.sub (K.mul (K.mul m p) y) (K.mul a (K.mul (K.mul n q) x)))) hi hj hk (aX K (cE K [n,m,p,q,i,j,x,y,k,a,d]) ((Z1*Z5*Z7-Z9*(Z0*Z4*Z6))*Z8*(Z2*Z3-Z10*(Z0*Z1*(Z6*Z7)))-(Z1*Z2*Z7-Z9*(Z0*Z3*Z6))) ((Z8*(Z1*Z2*Z7-Z9*(Z0*Z3*Z6))*(Z3*Z5)-Z8*(Z2*Z3-Z10*(Z0*Z1*(Z6*Z7)))*(Z1*Z5*Z7))*(Z2*Z4-RE.one)+(Z8*(Z1*Z2*Z7-Z9*(Z0*Z3*Z6))+Z8*(Z2*Z3-Z10*(Z0*Z1*(Z6*Z7)))*(Z9*(Z0*Z4*Z6)))*(Z3*Z5-RE.one)+(Z1*Z2*Z7-Z9*(Z0*Z3*Z6))*((RE.one-Z10*(Z0*Z4*Z6*(Z1*Z5*Z7)))*Z8-RE.one)) (by kernel_rfl))
theorem Be {n m p q i j x y:R} (hi:(K.mul p i)=K.one) (hj:(K.mul q j)=K.one):(K.add K.one (K.mul d (K.mul (K.mul (K.mul n i) x) (K.mul (K.mul m j) y))))=(K.mul (K.mul i j) (K.add (K.mul p q) (K.mul d (K.mul (K.mul n m) (K.mul x y))))) :=
 nK (K:=K) (c1:=(K.neg (K.mul q j))) (c2:=(K.neg K.one)) hi hj (aX K (cE K [n,m,p,q,i,j,x,y,d]) (RE.one+Z8*(Z0*Z4*Z6*(Z1*Z5*Z7))-Z4*Z5*(Z2*Z3+Z8*(Z0*Z1*(Z6*Z7)))) ((-(Z3*Z5))*(Z2*Z4-RE.one)+(-RE.one)*(Z3*Z5-RE.one)) (by kernel_rfl))
theorem PN {n m p q i j x y:R} (hi:(K.mul p i)=K.one) (hj:(K.mul q j)=K.one):(K.sub K.one (K.mul d (K.mul (K.mul (K.mul n i) x) (K.mul (K.mul m j) y))))=(K.mul (K.mul i j) (K.sub (K.mul p q) (K.mul d (K.mul (K.mul n m) (K.mul x y))))) :=
 nK (K:=K) (c1:=(K.neg (K.mul q j))) (c2:=(K.neg K.one)) hi hj (aX K (cE K [n,m,p,q,i,j,x,y,d]) (RE.one-Z8*(Z0*Z4*Z6*(Z1*Z5*Z7))-Z4*Z5*(Z2*Z3-Z8*(Z0*Z1*(Z6*Z7)))) ((-(Z3*Z5))*(Z2*Z4-RE.one)+(-RE.one)*(Z3*Z5-RE.one)) (by kernel_rfl))
theorem GQ {u v D G N M:R} (h1:(K.mul u D)=N) (h2:(K.mul v G)=M) (h3:(K.mul N G)=(K.mul M D)):(K.mul (K.mul D G) u)=(K.mul (K.mul D G) v) :=
 tQ (K:=K) (c1:=G) (c2:=(K.neg D)) (c3:=K.one) h1 h2 h3 (aX K (cE K [u,v,D,G,N,M]) (Z2*Z3*Z0-Z2*Z3*Z1) (Z3*(Z0*Z2-Z4)+(-Z2)*(Z1*Z3-Z5)+RE.one*(Z4*Z3-Z5*Z2)) (by kernel_rfl))
theorem aAU {s x1 y1 x2 y2 e:R} (h1:(K.add (K.mul (K.mul s s) (K.mul x1 x1)) (K.mul y1 y1))=(K.add K.one (K.mul d (K.mul (K.mul x1 x1) (K.mul y1 y1))))) (h2:(K.add (K.mul (K.mul s s) (K.mul x2 x2)) (K.mul y2 y2))=(K.add K.one (K.mul d (K.mul (K.mul x2 x2) (K.mul y2 y2))))) (ht:(K.mul d (K.mul (K.mul x1 x2) (K.mul y1 y2)))=e) (he:(K.mul e e)=K.one):(K.mul (K.add (K.mul s x1) (K.mul e y1)) (K.add (K.mul s x1) (K.mul e y1)))=(K.mul d (K.mul (K.mul (K.mul x1 y1) (K.add (K.mul s x2) y2)) (K.mul (K.mul x1 y1) (K.add (K.mul s x2) y2)))) :=
 Ms (K:=K) (c1:=K.one) (c2:=(K.neg (K.mul d (K.mul (K.mul x1 x1) (K.mul y1 y1))))) (c3:=(K.sub (K.neg (K.add (K.mul d (K.mul (K.mul x1 x2) (K.mul y1 y2))) e)) (K.mul (K.add K.one K.one) (K.mul s (K.mul x1 y1))))) (c4:=(K.sub (K.mul y1 y1) K.one)) h1 h2 ht he (aX K (cE K [s,x1,y1,x2,y2,e,d]) ((Z0*Z1+Z5*Z2)*(Z0*Z1+Z5*Z2)-Z6*(Z1*Z2*(Z0*Z3+Z4)*(Z1*Z2*(Z0*Z3+Z4)))) (RE.one*(Z0*Z0*(Z1*Z1)+Z2*Z2-(RE.one+Z6*(Z1*Z1*(Z2*Z2))))+(-(Z6*(Z1*Z1*(Z2*Z2))))*(Z0*Z0*(Z3*Z3)+Z4*Z4-(RE.one+Z6*(Z3*Z3*(Z4*Z4))))+(-(Z6*(Z1*Z3*(Z2*Z4))+Z5)-(RE.one+RE.one)*(Z0*(Z1*Z2)))*(Z6*(Z1*Z3*(Z2*Z4))-Z5)+(Z2*Z2-RE.one)*(Z5*Z5-RE.one)) (by kernel_rfl))
variable (K) (a) (d)
def LZ (x1 y1 x2 y2:R):R:=K.mul (MA K x1 y1 x2 y2) (inv (BQ K d x1 y1 x2 y2))
def LY (x1 y1 x2 y2:R):R:=K.mul (MB K a x1 y1 x2 y2) (inv (yY K d x1 y1 x2 y2))
structure ED:Prop where
 F:FD K inv
 two:K.add K.one K.one≠K.zero
 sq:∃s,K.mul s s=a
 ns:∀x,K.mul x x≠d
variable {K} {inv} {a} {d}
theorem ED.v0 (E:ED K inv a d) {s x1 y1 x2 y2 e:R} (hs:K.mul s s=a) (h1:fD K a d x1 y1) (h2:fD K a d x2 y2) (ht:Bf K d x1 y1 x2 y2=e) (he:K.mul e e=K.one) (hw:K.mul x1 y1≠K.zero):K.add (K.mul s x2) y2=K.zero:=by
 subst hs;refine Classical.byContradiction fun hv => ?_
 have h:=aAU h1 h2 ht he;have hk:=E.F.inv _ (E.F.mul_ne hw hv);generalize K.mul (K.mul x1 y1) (K.add (K.mul s x2) y2)=z at h hk;generalize K.add (K.mul s x1) (K.mul e y1)=u at h;generalize inv z=k at hk;refine E.ns (K.mul u k) ?_;exact nK (K:=K) (c1:=(K.mul k k)) (c2:=(K.mul d (K.add (K.mul z k) K.one))) h hk (aX K (cE K [u,k,d,z]) (Z0*Z1*(Z0*Z1)-Z2) (Z1*Z1*(Z0*Z0-Z2*(Z3*Z3))+Z2*(Z3*Z1+RE.one)*(Z3*Z1-RE.one)) (by kernel_rfl))
theorem ED.ne (E:ED K inv a d) {x1 y1 x2 y2 e:R} (h1:fD K a d x1 y1) (h2:fD K a d x2 y2) (ht:Bf K d x1 y1 x2 y2=e) (he:K.mul e e=K.one):False:=by
 obtain⟨s,hs⟩:=E.sq;have e0:e≠K.zero:=fun q=>by
  rw[q,K.zero_mul]at he;exact E.F.ne he.symm
 have hw:K.mul x1 y1≠K.zero:=fun q=>e0 (by
  rw[←ht];exact iS (K:=K) (c1:=(K.mul d (K.mul x2 y2))) q (aX K (cE K [x1,y1,x2,y2,d]) (Z4*(Z0*Z2*(Z1*Z3))-RE.zero) (Z4*(Z2*Z3)*(Z0*Z1-RE.zero)) (by kernel_rfl)))
 have a1:=E.v0 hs h1 h2 ht he hw;have a2:=E.v0 (s:=K.neg s) (by rw[←hs]; exact aX K (cE K [s]) ((-Z0)*(-Z0)) (Z0*Z0) (by kernel_rfl)) h1 h2 ht he hw;have hy:K.mul (K.add K.one K.one) y2=K.zero:=nK (K:=K) (c1:=K.one) (c2:=K.one) a1 a2 (aX K (cE K [s,x2,y2]) ((RE.one+RE.one)*Z2-RE.zero) (RE.one*(Z0*Z1+Z2-RE.zero)+RE.one*((-Z0)*Z1+Z2-RE.zero)) (by kernel_rfl));have hy:=E.F.zd hy E.two;refine e0 ?_;rw[←ht];unfold Bf;rw[hy,K.mul_zero,K.mul_zero,K.mul_zero]
theorem ED.pne (E:ED K inv a d) {x1 y1 x2 y2:R} (h1:fD K a d x1 y1) (h2:fD K a d x2 y2):BQ K d x1 y1 x2 y2≠K.zero:=fun q =>
 E.ne (e:=K.neg K.one) h1 h2 (by
  show Bf K d x1 y1 x2 y2=_;unfold BQ at q;generalize Bf K d x1 y1 x2 y2=t at q;exact iS (K:=K) (c1:=K.one) q (aX K (cE K [t]) (Z0-(-RE.one)) (RE.one*(RE.one+Z0-RE.zero)) (by kernel_rfl))) (aX K (cE K []) ((-RE.one)*(-RE.one)) .one (by kernel_rfl))
theorem ED.qne (E:ED K inv a d) {x1 y1 x2 y2:R} (h1:fD K a d x1 y1) (h2:fD K a d x2 y2):yY K d x1 y1 x2 y2≠K.zero:=fun q =>
 E.ne (e:=K.one) h1 h2 (by
  show Bf K d x1 y1 x2 y2=_;unfold yY at q;generalize Bf K d x1 y1 x2 y2=t at q;exact iS (K:=K) (c1:=(K.neg K.one)) q (aX K (cE K [t]) (Z0-RE.one) ((-RE.one)*(RE.one-Z0-RE.zero)) (by kernel_rfl))) (K.one_mul _)
theorem ED.ip (E:ED K inv a d) {x1 y1 x2 y2:R} (h1:fD K a d x1 y1) (h2:fD K a d x2 y2):K.mul (BQ K d x1 y1 x2 y2) (inv (BQ K d x1 y1 x2 y2))=K.one:=E.F.inv _ (E.pne h1 h2)
theorem ED.iq (E:ED K inv a d) {x1 y1 x2 y2:R} (h1:fD K a d x1 y1) (h2:fD K a d x2 y2):K.mul (yY K d x1 y1 x2 y2) (inv (yY K d x1 y1 x2 y2))=K.one:=E.F.inv _ (E.qne h1 h2)
theorem ED.on (E:ED K inv a d) {x1 y1 x2 y2:R} (h1:fD K a d x1 y1) (h2:fD K a d x2 y2):fD K a d (LZ K inv d x1 y1 x2 y2) (LY K inv a d x1 y1 x2 y2) :=
 aAV (ST h1 h2) (E.ip h1 h2) (E.iq h1 h2)
theorem ED.assX (E:ED K inv a d) {x1 y1 x2 y2 x3 y3:R} (h1:fD K a d x1 y1) (h2:fD K a d x2 y2) (h3:fD K a d x3 y3):LZ K inv d (LZ K inv d x1 y1 x2 y2) (LY K inv a d x1 y1 x2 y2) x3 y3=LZ K inv d (LZ K inv d x2 y2 x3 y3) (LY K inv a d x2 y2 x3 y3) x1 y1:=by
 have b1:=E.pne (E.on h1 h2) h3;have b2:=E.pne (E.on h2 h3) h1;have c1:=Bd (E.ip h1 h2) (E.iq h1 h2) (E.ip (E.on h1 h2) h3);have c2:=Bd (E.ip h2 h3) (E.iq h2 h3) (E.ip (E.on h2 h3) h1);refine E.F.cancel (E.F.mul_ne (fun z=>b1 ?_) fun z=>b2 ?_) (GQ c1 c2 (Jv h1 h2 h3))
 ·refine (Be (E.ip h1 h2) (E.iq h1 h2)).trans ?_;rw[z,K.mul_zero]
 ·refine (Be (E.ip h2 h3) (E.iq h2 h3)).trans ?_;rw[z,K.mul_zero]
theorem ED.assY (E:ED K inv a d) {x1 y1 x2 y2 x3 y3:R} (h1:fD K a d x1 y1) (h2:fD K a d x2 y2) (h3:fD K a d x3 y3):LY K inv a d (LZ K inv d x1 y1 x2 y2) (LY K inv a d x1 y1 x2 y2) x3 y3=LY K inv a d (LZ K inv d x2 y2 x3 y3) (LY K inv a d x2 y2 x3 y3) x1 y1:=by
 have b1:=E.qne (E.on h1 h2) h3;have b2:=E.qne (E.on h2 h3) h1;have c1:=Bc (a:=a) (E.ip h1 h2) (E.iq h1 h2) (E.iq (E.on h1 h2) h3);have c2:=Bc (a:=a) (E.ip h2 h3) (E.iq h2 h3) (E.iq (E.on h2 h3) h1);refine E.F.cancel (E.F.mul_ne (fun z=>b1 ?_) fun z=>b2 ?_) (GQ c1 c2 (Ju h1 h2 h3))
 ·refine (PN (E.ip h1 h2) (E.iq h1 h2)).trans ?_;rw[z,K.mul_zero]
 ·refine (PN (E.ip h2 h3) (E.iq h2 h3)).trans ?_;rw[z,K.mul_zero]
theorem ED.comX (x1 y1 x2 y2:R):LZ K inv d x1 y1 x2 y2=LZ K inv d x2 y2 x1 y1:=by
 unfold LZ MA BQ Bf;rw[K.mul_comm x1 x2,K.mul_comm y1 y2,K.add_comm (K.mul x1 y2),K.mul_comm y1 x2,K.mul_comm x1 y2]
theorem ED.comY (x1 y1 x2 y2:R):LY K inv a d x1 y1 x2 y2=LY K inv a d x2 y2 x1 y1:=by
 unfold LY MB yY Bf;rw[K.mul_comm x1 x2,K.mul_comm y1 y2]
theorem ED.i1 (E:ED K inv a d):inv K.one=K.one:=by
 have:=E.F.inv K.one E.F.ne
 rwa [K.one_mul]at this
theorem Tc:fD K a d K.zero K.one:=by
 show K.add (K.mul a (K.mul K.zero K.zero)) (K.mul K.one K.one)=K.add K.one (K.mul d (K.mul (K.mul K.zero K.zero) (K.mul K.one K.one)));exact aX K (cE K [a,d]) (Z0*(RE.zero*RE.zero)+RE.one*RE.one) (RE.one+Z1*(RE.zero*RE.zero*(RE.one*RE.one))) (by kernel_rfl)
theorem Bb {x y:R} (h:fD K a d x y):fD K a d (K.neg x) y:=by
 show K.add (K.mul a (K.mul (K.neg x) (K.neg x))) (K.mul y y)=K.add K.one (K.mul d (K.mul (K.mul (K.neg x) (K.neg x)) (K.mul y y)));have e:K.mul (K.neg x) (K.neg x)=K.mul x x:=aX K (cE K [x]) ((-Z0)*(-Z0)) (Z0*Z0) (by kernel_rfl);rw[e];exact h
theorem ED.zX (E:ED K inv a d) (x y:R):LZ K inv d K.zero K.one x y=x:=by
 have e1:BQ K d K.zero K.one x y=K.one:=aX K (cE K [x,y,d]) (RE.one+Z2*(RE.zero*Z0*(RE.one*Z1))) .one (by kernel_rfl);unfold LZ;rw[e1,E.i1];exact aX K (cE K [x,y]) ((RE.zero*Z1+RE.one*Z0)*RE.one) (.v 0) (by kernel_rfl)
theorem ED.zY (E:ED K inv a d) (x y:R):LY K inv a d K.zero K.one x y=y:=by
 have e1:yY K d K.zero K.one x y=K.one:=aX K (cE K [x,y,d]) (RE.one-Z2*(RE.zero*Z0*(RE.one*Z1))) .one (by kernel_rfl);unfold LY;rw[e1,E.i1];exact aX K (cE K [x,y,a]) ((RE.one*Z1-Z2*(RE.zero*Z0))*RE.one) (.v 1) (by kernel_rfl)
theorem ED.nX (E:ED K inv a d) (x y:R):LZ K inv d (K.neg x) y x y=K.zero:=by
 have e1:MA K (K.neg x) y x y=K.zero:=aX K (cE K [x,y]) ((-Z0)*Z1+Z1*Z0) .zero (by kernel_rfl);unfold LZ;rw[e1,K.zero_mul]
theorem ED.nY (E:ED K inv a d) {x y:R} (h:fD K a d x y):LY K inv a d (K.neg x) y x y=K.one:=by
 have e1:MB K a (K.neg x) y x y=yY K d (K.neg x) y x y:=iS (K:=K) (c1:=K.one) h (aX K (cE K [x,y,a,d]) (Z1*Z1-Z2*((-Z0)*Z0)-(RE.one-Z3*((-Z0)*Z0*(Z1*Z1)))) (RE.one*(Z2*(Z0*Z0)+Z1*Z1-(RE.one+Z3*(Z0*Z0*(Z1*Z1))))) (by kernel_rfl));unfold LY;rw[e1];exact E.iq (Bb h) h
variable (K) (a) (d)
abbrev NO:={p:R×R // fD K a d p.1 p.2}
variable {K} {a} {d}
def ED.grp (E:ED K inv a d):AG (NO K a d) where
 add p q:=⟨(LZ K inv d p.1.1 p.1.2 q.1.1 q.1.2,LY K inv a d p.1.1 p.1.2 q.1.1 q.1.2),E.on p.2 q.2⟩
 neg p:=⟨(K.neg p.1.1,p.1.2),Bb p.2⟩
 zero:=⟨(K.zero,K.one),Tc⟩
 assoc p q r:=Subtype.ext (Prod.ext ((E.assX p.2 q.2 r.2).trans (ED.comX _ _ _ _)) ((E.assY p.2 q.2 r.2).trans (ED.comY _ _ _ _)))
 comm p q:=Subtype.ext (Prod.ext (ED.comX _ _ _ _) (ED.comY _ _ _ _))
 zadd p:=Subtype.ext (Prod.ext (E.zX _ _) (E.zY _ _))
 nadd p:=Subtype.ext (Prod.ext (E.nX _ _) (E.nY p.2))
end
section
variable {R:Type} {K:CR R} {inv:R→R} {a d:R}
theorem wpZ (x y z u v w d:R)  : (K.mul (K.sub (K.mul (K.mul z w) (K.mul z w)) (K.mul d (K.mul (K.mul (K.mul x z) (K.mul u w)) (K.mul (K.mul y z) (K.mul v w))))) (K.add (K.mul (K.mul z w) (K.mul z w)) (K.mul d (K.mul (K.mul (K.mul x z) (K.mul u w)) (K.mul (K.mul y z) (K.mul v w))))))=(K.mul (K.mul (K.mul z w) (K.mul z w)) (K.mul (K.mul (K.mul z w) (K.mul z w)) (K.mul (K.sub K.one (K.mul d (K.mul (K.mul x u) (K.mul y v)))) (K.add K.one (K.mul d (K.mul (K.mul x u) (K.mul y v))))))) :=
 aX K (cE K [x,y,z,u,v,w,d]) ((Z2*Z5*(Z2*Z5)-Z6*(Z0*Z2*(Z3*Z5)*(Z1*Z2*(Z4*Z5))))*(Z2*Z5*(Z2*Z5)+Z6*(Z0*Z2*(Z3*Z5)*(Z1*Z2*(Z4*Z5))))) (Z2*Z5*(Z2*Z5)*(Z2*Z5*(Z2*Z5)*((RE.one-Z6*(Z0*Z3*(Z1*Z4)))*(RE.one+Z6*(Z0*Z3*(Z1*Z4)))))) (by kernel_rfl)
theorem wpX (x y z u v w d i:R) (hi:(K.mul (K.add K.one (K.mul d (K.mul (K.mul x u) (K.mul y v)))) i)=K.one):(K.mul (K.mul (K.mul z w) (K.sub (K.mul (K.mul z w) (K.mul z w)) (K.mul d (K.mul (K.mul (K.mul x z) (K.mul u w)) (K.mul (K.mul y z) (K.mul v w)))))) (K.sub (K.sub (K.mul (K.add (K.mul x z) (K.mul y z)) (K.add (K.mul u w) (K.mul v w))) (K.mul (K.mul x z) (K.mul u w))) (K.mul (K.mul y z) (K.mul v w))))=(K.mul (K.mul (K.add (K.mul x v) (K.mul y u)) i) (K.mul (K.sub (K.mul (K.mul z w) (K.mul z w)) (K.mul d (K.mul (K.mul (K.mul x z) (K.mul u w)) (K.mul (K.mul y z) (K.mul v w))))) (K.add (K.mul (K.mul z w) (K.mul z w)) (K.mul d (K.mul (K.mul (K.mul x z) (K.mul u w)) (K.mul (K.mul y z) (K.mul v w))))))) :=
 iS (K:=K) (c1:=(K.neg (K.mul (K.add (K.mul x v) (K.mul y u)) (K.mul (K.mul (K.mul z w) (K.mul z w)) (K.mul (K.mul (K.mul z w) (K.mul z w)) (K.sub K.one (K.mul d (K.mul (K.mul x u) (K.mul y v))))))))) hi (aX K (cE K [x,y,z,u,v,w,d,i]) (Z2*Z5*(Z2*Z5*(Z2*Z5)-Z6*(Z0*Z2*(Z3*Z5)*(Z1*Z2*(Z4*Z5))))*((Z0*Z2+Z1*Z2)*(Z3*Z5+Z4*Z5)-Z0*Z2*(Z3*Z5)-Z1*Z2*(Z4*Z5))-(Z0*Z4+Z1*Z3)*Z7*((Z2*Z5*(Z2*Z5)-Z6*(Z0*Z2*(Z3*Z5)*(Z1*Z2*(Z4*Z5))))*(Z2*Z5*(Z2*Z5)+Z6*(Z0*Z2*(Z3*Z5)*(Z1*Z2*(Z4*Z5)))))) ((-((Z0*Z4+Z1*Z3)*(Z2*Z5*(Z2*Z5)*(Z2*Z5*(Z2*Z5)*(RE.one-Z6*(Z0*Z3*(Z1*Z4)))))))*((RE.one+Z6*(Z0*Z3*(Z1*Z4)))*Z7-RE.one)) (by kernel_rfl))
theorem wpY (x y z u v w a d j:R) (hj:(K.mul (K.sub K.one (K.mul d (K.mul (K.mul x u) (K.mul y v)))) j)=K.one):(K.mul (K.mul (K.mul z w) (K.add (K.mul (K.mul z w) (K.mul z w)) (K.mul d (K.mul (K.mul (K.mul x z) (K.mul u w)) (K.mul (K.mul y z) (K.mul v w)))))) (K.sub (K.mul (K.mul y z) (K.mul v w)) (K.mul a (K.mul (K.mul x z) (K.mul u w)))))=(K.mul (K.mul (K.sub (K.mul y v) (K.mul a (K.mul x u))) j) (K.mul (K.sub (K.mul (K.mul z w) (K.mul z w)) (K.mul d (K.mul (K.mul (K.mul x z) (K.mul u w)) (K.mul (K.mul y z) (K.mul v w))))) (K.add (K.mul (K.mul z w) (K.mul z w)) (K.mul d (K.mul (K.mul (K.mul x z) (K.mul u w)) (K.mul (K.mul y z) (K.mul v w))))))) :=
 iS (K:=K) (c1:=(K.neg (K.mul (K.sub (K.mul y v) (K.mul a (K.mul x u))) (K.mul (K.mul (K.mul z w) (K.mul z w)) (K.mul (K.mul (K.mul z w) (K.mul z w)) (K.add K.one (K.mul d (K.mul (K.mul x u) (K.mul y v))))))))) hj (aX K (cE K [x,y,z,u,v,w,a,d,j]) (Z2*Z5*(Z2*Z5*(Z2*Z5)+Z7*(Z0*Z2*(Z3*Z5)*(Z1*Z2*(Z4*Z5))))*(Z1*Z2*(Z4*Z5)-Z6*(Z0*Z2*(Z3*Z5)))-(Z1*Z4-Z6*(Z0*Z3))*Z8*((Z2*Z5*(Z2*Z5)-Z7*(Z0*Z2*(Z3*Z5)*(Z1*Z2*(Z4*Z5))))*(Z2*Z5*(Z2*Z5)+Z7*(Z0*Z2*(Z3*Z5)*(Z1*Z2*(Z4*Z5)))))) ((-((Z1*Z4-Z6*(Z0*Z3))*(Z2*Z5*(Z2*Z5)*(Z2*Z5*(Z2*Z5)*(RE.one+Z7*(Z0*Z3*(Z1*Z4)))))))*((RE.one-Z7*(Z0*Z3*(Z1*Z4)))*Z8-RE.one)) (by kernel_rfl))
theorem wdM (x y z a d:R) (he:(K.add (K.mul a (K.mul x x)) (K.mul y y))=(K.add K.one (K.mul d (K.mul (K.mul x x) (K.mul y y))))):(K.add (K.mul a (K.mul (K.mul x z) (K.mul x z))) (K.mul (K.mul y z) (K.mul y z)))=(K.mul (K.mul z z) (K.add K.one (K.mul d (K.mul (K.mul x x) (K.mul y y))))) :=
 iS (K:=K) (c1:=(K.mul z z)) he (aX K (cE K [x,y,z,a,d]) (Z3*(Z0*Z2*(Z0*Z2))+Z1*Z2*(Z1*Z2)-Z2*Z2*(RE.one+Z4*(Z0*Z0*(Z1*Z1)))) (Z2*Z2*(Z3*(Z0*Z0)+Z1*Z1-(RE.one+Z4*(Z0*Z0*(Z1*Z1))))) (by kernel_rfl))
theorem wdL (x y z a d:R) (he:(K.add (K.mul a (K.mul x x)) (K.mul y y))=(K.add K.one (K.mul d (K.mul (K.mul x x) (K.mul y y))))):(K.sub (K.add (K.mul z z) (K.mul z z)) (K.add (K.mul a (K.mul (K.mul x z) (K.mul x z))) (K.mul (K.mul y z) (K.mul y z))))=(K.mul (K.mul z z) (K.sub K.one (K.mul d (K.mul (K.mul x x) (K.mul y y))))) :=
 iS (K:=K) (c1:=(K.neg (K.mul z z))) he (aX K (cE K [x,y,z,a,d]) (Z2*Z2+Z2*Z2-(Z3*(Z0*Z2*(Z0*Z2))+Z1*Z2*(Z1*Z2))-Z2*Z2*(RE.one-Z4*(Z0*Z0*(Z1*Z1)))) ((-(Z2*Z2))*(Z3*(Z0*Z0)+Z1*Z1-(RE.one+Z4*(Z0*Z0*(Z1*Z1))))) (by kernel_rfl))
theorem wdA (x y z:R)  : (K.sub (K.sub (K.mul (K.add (K.mul x z) (K.mul y z)) (K.add (K.mul x z) (K.mul y z))) (K.mul (K.mul x z) (K.mul x z))) (K.mul (K.mul y z) (K.mul y z)))=(K.mul (K.mul z z) (K.add (K.mul x y) (K.mul y x))) :=
 aX K (cE K [x,y,z]) ((Z0*Z2+Z1*Z2)*(Z0*Z2+Z1*Z2)-Z0*Z2*(Z0*Z2)-Z1*Z2*(Z1*Z2)) (Z2*Z2*(Z0*Z1+Z1*Z0)) (by kernel_rfl)
theorem wdE (x y z a:R)  : (K.sub (K.mul (K.mul y z) (K.mul y z)) (K.mul a (K.mul (K.mul x z) (K.mul x z))))=(K.mul (K.mul z z) (K.sub (K.mul y y) (K.mul a (K.mul x x)))) :=
 aX K (cE K [x,y,z,a]) (Z1*Z2*(Z1*Z2)-Z3*(Z0*Z2*(Z0*Z2))) (Z2*Z2*(Z1*Z1-Z3*(Z0*Z0))) (by kernel_rfl)
theorem wdX (n q p i s:R) (hi:(K.mul p i)=K.one):(K.mul (K.mul s n) (K.mul s q))=(K.mul (K.mul n i) (K.mul (K.mul s p) (K.mul s q))) :=
 iS (K:=K) (c1:=(K.neg (K.mul n (K.mul s (K.mul s q))))) hi (aX K (cE K [n,q,p,i,s]) (Z4*Z0*(Z4*Z1)-Z0*Z3*(Z4*Z2*(Z4*Z1))) ((-(Z0*(Z4*(Z4*Z1))))*(Z2*Z3-RE.one)) (by kernel_rfl))
theorem wdY (m q p j s:R) (hj:(K.mul q j)=K.one):(K.mul (K.mul s p) (K.mul s m))=(K.mul (K.mul m j) (K.mul (K.mul s p) (K.mul s q))) :=
 iS (K:=K) (c1:=(K.neg (K.mul m (K.mul s (K.mul s p))))) hj (aX K (cE K [m,q,p,j,s]) (Z4*Z2*(Z4*Z0)-Z0*Z3*(Z4*Z2*(Z4*Z1))) ((-(Z0*(Z4*(Z4*Z2))))*(Z1*Z3-RE.one)) (by kernel_rfl))
variable (K) (a) (d)
def GR (p q:R×R×R):R×R×R :=
 let z:=K.mul p.2.2 q.2.2
 let x:=K.mul p.1 q.1
 let y:=K.mul p.2.1 q.2.1
 let both:=K.mul d (K.mul x y)
 let square:=K.mul z z
 let more:=K.add square both
 let less:=K.sub square both
 let across:=K.sub (K.sub (K.mul (K.add p.1 p.2.1) (K.add q.1 q.2.1)) x) y
 (K.mul (K.mul z less) across,K.mul (K.mul z more) (K.sub y (K.mul a x)),K.mul less more)
def GS (p:R×R×R):R×R×R :=
 let x:=K.mul p.1 p.1
 let y:=K.mul p.2.1 p.2.1
 let z:=K.mul p.2.2 p.2.2
 let across:=K.sub (K.sub (K.mul (K.add p.1 p.2.1) (K.add p.1 p.2.1)) x) y
 let ax:=K.mul a x
 let more:=K.add ax y
 let less:=K.sub (K.add z z) more
 (K.mul across less,K.mul more (K.sub y ax),K.mul more less)
def oZ (p:R×R×R) (P:NO K a d):Prop:=p.1=K.mul P.1.1 p.2.2∧p.2.1=K.mul P.1.2 p.2.2∧p.2.2≠K.zero
variable {K} {a} {d}
theorem ED.sum (E:ED K inv a d) {p q:R×R×R} {P Q:NO K a d} (hp:oZ K a d p P) (hq:oZ K a d q Q):oZ K a d (GR K a d p q) (E.grp.add P Q):=by
 obtain⟨⟨x,y⟩,h1⟩:=P;obtain⟨⟨u,v⟩,h2⟩:=Q;obtain⟨X,Y,z⟩:=p;obtain⟨U,V,w⟩:=q;obtain⟨rfl,rfl,hz⟩:X=K.mul x z∧Y=K.mul y z∧z≠K.zero:=hp;obtain⟨rfl,rfl,hw⟩:U=K.mul u w∧V=K.mul v w∧w≠K.zero:=hq;have hs:=E.F.mul_ne (E.F.mul_ne hz hw) (E.F.mul_ne hz hw);refine⟨wpX x y z u v w d _ (E.ip h1 h2),wpY x y z u v w a d _ (E.iq h1 h2),?_⟩;intro e;exact E.F.mul_ne hs (E.F.mul_ne hs (E.F.mul_ne (E.qne h1 h2) (E.pne h1 h2))) ((wpZ x y z u v w d).symm.trans e)
theorem ED.dbl (E:ED K inv a d) {p:R×R×R} {P:NO K a d} (hp:oZ K a d p P):oZ K a d (GS K a p) (E.grp.add P P):=by
 obtain⟨⟨x,y⟩,h1⟩:=P;obtain⟨X,Y,z⟩:=p;obtain⟨rfl,rfl,hz⟩:X=K.mul x z∧Y=K.mul y z∧z≠K.zero:=hp;have hs:=E.F.mul_ne hz hz;have eM:=wdM x y z a d h1;have eL:=wdL x y z a d h1;have eA:=wdA (K:=K) x y z;have eB:=wdE (K:=K) x y z a;show K.mul _ _=K.mul _ (K.mul _ _)∧K.mul _ _=K.mul _ (K.mul _ _)∧K.mul _ _≠K.zero;simp only[];rw[eL,eM,eA,eB];refine⟨wdX _ _ _ _ _ (E.ip h1 h1),wdY _ _ _ _ _ (E.iq h1 h1),?_⟩;exact E.F.mul_ne (E.F.mul_ne hs (E.pne h1 h1)) (E.F.mul_ne hs (E.qne h1 h1))
theorem ED.told (E:ED K inv a d) {p:R×R×R} {P:NO K a d} (hp:oZ K a d p P):K.mul p.1 (inv p.2.2)=P.1.1∧K.mul p.2.1 (inv p.2.2)=P.1.2:=by
 obtain⟨h1,h2,h3⟩:=hp;rw[h1,h2,K.mul_assoc,K.mul_assoc,E.F.inv _ h3,K.mul_one,K.mul_one];exact⟨rfl,rfl⟩
theorem ED.rep1 (E:ED K inv a d) (P:NO K a d):oZ K a d (P.1.1,P.1.2,K.one) P:=⟨(K.mul_one _).symm,(K.mul_one _).symm,E.F.ne⟩
end
theorem fF:1<RM:=by decide
def KR:CR (Fin RM):=aAM RM fF
def iU (x:Nat):Fin RM:=⟨x%RM,Nat.mod_lt _ fW⟩
theorem lL (x y:Nat):iU (gS x y)=KR.add (iU x) (iU y):=Fin.ext (by
 show (x+y)%RM%RM=(x%RM+y%RM)%RM;rw[Nat.mod_mod,Nat.add_mod])
theorem iT (x y:Nat):iU (bK x y)=KR.mul (iU x) (iU y):=Fin.ext (by
 show x*y%RM%RM=(x%RM)*(y%RM)%RM;rw[Nat.mod_mod,Nat.mul_mod])
theorem Eh (x:Nat) {y:Nat} (hy:y<RM):iU (oC x y)=KR.add (iU x) (KR.neg (iU y)):=Fin.ext (by
 show (x+RM-y)%RM%RM=(x%RM+(0+RM-y%RM)%RM)%RM;rw[Nat.mod_mod,Nat.mod_eq_of_lt hy,Nat.mod_add_mod,Nat.add_mod_mod,show x+(0+RM-y)=x+RM-y by omega])
theorem lK {x:Nat} (h:x<RM):(iU x).1=x:=Nat.mod_eq_of_lt h
theorem NU {x y:Nat} (hx:x<RM) (hy:y<RM) (h:iU x=iU y):x=y:=by
 have:=congrArg Fin.val h
 rwa [lK hx,lK hy]at this
theorem VK:iU 0=KR.zero:=rfl
theorem VJ:iU 1=KR.one:=Fin.ext (Nat.mod_eq_of_lt fF)
open Classical
section
variable {R:Type} (K:CR R) (inv:R→R)
abbrev Jc (R:Type):=R×R×R
def IS (p:Jc R):Pt R:=if p.2.2=K.zero then none else some (K.mul p.1 (K.mul (inv p.2.2) (inv p.2.2)),K.mul p.2.1 (K.mul (K.mul (inv p.2.2) (inv p.2.2)) (inv p.2.2)))
def dSl (p:Jc R):R:=K.add (K.add (K.mul p.1 p.1) (K.mul p.1 p.1)) (K.mul p.1 p.1)
def dTw (p:Jc R):R:=K.add (K.mul p.2.1 p.2.1) (K.mul p.2.1 p.2.1)
def dFo (p:Jc R):R:=K.add (dTw K p) (dTw K p)
def dBa (p:Jc R):R:=K.mul p.1 (dFo K p)
def dX (p:Jc R):R:=K.sub (K.mul (dSl K p) (dSl K p)) (K.add (dBa K p) (dBa K p))
def dY (p:Jc R):R:=K.sub (K.mul (dSl K p) (K.sub (dBa K p) (dX K p))) (K.mul (dFo K p) (dTw K p))
def Ih (p:Jc R):Jc R:=(dX K p,dY K p,K.mul (K.add p.2.1 p.2.1) p.2.2)
variable {K} {inv} {b:R}
theorem nC {p:Jc R} (h:p.2.2=K.zero):IS K inv p=none:=if_pos h
theorem rD {p:Jc R} (h:p.2.2≠K.zero):IS K inv p=some (K.mul p.1 (K.mul (inv p.2.2) (inv p.2.2)),K.mul p.2.1 (K.mul (K.mul (inv p.2.2) (inv p.2.2)) (inv p.2.2))):=if_neg h
theorem QO (E:EC K inv b) {x y l:R} (hy:K.add y y≠K.zero) (h:K.mul l (K.add y y)=K.add (K.add (K.mul x x) (K.mul x x)) (K.mul x x)):qF K inv x y x y=l:=by
 unfold qF;rw[if_pos rfl];refine E.F.cancel hy ?_;have hi:=E.F.inv _ hy;generalize inv (K.add y y)=k at hi;exact nK (K:=K) (c1:=(K.add (K.add (K.mul x x) (K.mul x x)) (K.mul x x))) (c2:=(K.neg K.one)) hi h (aX K (cE K [y,x,k,l]) ((Z0+Z0)*((Z1*Z1+Z1*Z1+Z1*Z1)*Z2)-(Z0+Z0)*Z3) ((Z1*Z1+Z1*Z1+Z1*Z1)*((Z0+Z0)*Z2-RE.one)+(-RE.one)*(Z3*(Z0+Z0)-(Z1*Z1+Z1*Z1+Z1*Z1))) (by kernel_rfl))
theorem Id (E:EC K inv b) {p:Jc R} (hp:On K b (IS K inv p)):IS K inv (Ih K p)=IR K inv (IS K inv p) (IS K inv p):=by
 obtain⟨x,y,z⟩:=p
 by_cases hz:z=K.zero
 ·have h1:IS K inv (x,y,z)=none:=nC hz;rw[h1];refine nC ?_;show K.mul (K.add y y) z=K.zero;rw[hz,K.mul_zero]
 ·have h1:=rD (K:=K) (inv:=inv) (p:=(x,y,z)) hz;rw[h1]at hp ⊢;dsimp only at hp ⊢;have hi:=E.F.inv z hz;generalize inv z=i at hi hp ⊢;have hY:=E.y_ne (show K.mul (K.mul y (K.mul (K.mul i i) i)) (K.mul y (K.mul (K.mul i i) i))=_ from hp);have hy:y≠K.zero:=fun e=>hY (by rw[e,K.zero_mul])
  have hyy:=E.dbl_ne hy;have hz3:K.mul (K.add y y) z≠K.zero:=E.F.mul_ne hyy hz;have h3:=rD (K:=K) (inv:=inv) (p:=Ih K (x,y,z)) hz3;rw[h3];show some (K.mul (dX K (x,y,z)) (K.mul (inv (K.mul (K.add y y) z)) (inv (K.mul (K.add y y) z))),K.mul (dY K (x,y,z)) (K.mul (K.mul (inv (K.mul (K.add y y) z)) (inv (K.mul (K.add y y) z))) (inv (K.mul (K.add y y) z))))=_;have hj:=E.F.inv _ hz3;generalize inv (K.mul (K.add y y) z)=j at hj ⊢;have e:i=K.mul (K.add y y) j:=nK (K:=K) (c1:=(K.neg i)) (c2:=(K.mul (K.add y y) j)) hj hi (aX K (cE K [i,y,j,z]) (Z0-(Z1+Z1)*Z2) ((-Z0)*((Z1+Z1)*Z3*Z2-RE.one)+(Z1+Z1)*Z2*(Z3*Z0-RE.one)) (by kernel_rfl));subst e;have hYY:=E.dbl_ne hY;rw[uE (fun h=>hYY h.2)];dsimp only;have hs:=QO (l:=(K.mul (K.add (K.add (K.mul x x) (K.mul x x)) (K.mul x x)) j)) (x:=(K.mul x (K.mul (K.mul (K.add y y) j) (K.mul (K.add y y) j)))) E hYY (aX K (cE K [x,j,y]) ((Z0*Z0+Z0*Z0+Z0*Z0)*Z1*(Z2*((Z2+Z2)*Z1*((Z2+Z2)*Z1)*((Z2+Z2)*Z1))+Z2*((Z2+Z2)*Z1*((Z2+Z2)*Z1)*((Z2+Z2)*Z1)))) (Z0*((Z2+Z2)*Z1*((Z2+Z2)*Z1))*(Z0*((Z2+Z2)*Z1*((Z2+Z2)*Z1)))+Z0*((Z2+Z2)*Z1*((Z2+Z2)*Z1))*(Z0*((Z2+Z2)*Z1*((Z2+Z2)*Z1)))+Z0*((Z2+Z2)*Z1*((Z2+Z2)*Z1))*(Z0*((Z2+Z2)*Z1*((Z2+Z2)*Z1)))) (by kernel_rfl));rw[hs];refine congrArg some (Prod.ext ?_ ?_)
  ·exact aX K (cE K [x,y,j]) (((Z0*Z0+Z0*Z0+Z0*Z0)*(Z0*Z0+Z0*Z0+Z0*Z0)-(Z0*(Z1*Z1+Z1*Z1+(Z1*Z1+Z1*Z1))+Z0*(Z1*Z1+Z1*Z1+(Z1*Z1+Z1*Z1))))*(Z2*Z2)) ((Z0*Z0+Z0*Z0+Z0*Z0)*Z2*((Z0*Z0+Z0*Z0+Z0*Z0)*Z2)-Z0*((Z1+Z1)*Z2*((Z1+Z1)*Z2))-Z0*((Z1+Z1)*Z2*((Z1+Z1)*Z2))) (by kernel_rfl)
  ·exact aX K (cE K [x,y,j]) (((Z0*Z0+Z0*Z0+Z0*Z0)*(Z0*(Z1*Z1+Z1*Z1+(Z1*Z1+Z1*Z1))-((Z0*Z0+Z0*Z0+Z0*Z0)*(Z0*Z0+Z0*Z0+Z0*Z0)-(Z0*(Z1*Z1+Z1*Z1+(Z1*Z1+Z1*Z1))+Z0*(Z1*Z1+Z1*Z1+(Z1*Z1+Z1*Z1)))))-(Z1*Z1+Z1*Z1+(Z1*Z1+Z1*Z1))*(Z1*Z1+Z1*Z1))*(Z2*Z2*Z2)) ((Z0*Z0+Z0*Z0+Z0*Z0)*Z2*(Z0*((Z1+Z1)*Z2*((Z1+Z1)*Z2))-((Z0*Z0+Z0*Z0+Z0*Z0)*Z2*((Z0*Z0+Z0*Z0+Z0*Z0)*Z2)-Z0*((Z1+Z1)*Z2*((Z1+Z1)*Z2))-Z0*((Z1+Z1)*Z2*((Z1+Z1)*Z2))))-Z1*((Z1+Z1)*Z2*((Z1+Z1)*Z2)*((Z1+Z1)*Z2))) (by kernel_rfl)
def ZQ (K:CR R) (p:Jc R):Jc R:=(p.1,K.sub K.zero p.2.1,p.2.2)
theorem Ic (p:Jc R):IS K inv (ZQ K p)=Ma K (IS K inv p):=by
 by_cases h:p.2.2=K.zero
 ·rw[nC h,nC (p:=ZQ K p) h]; rfl
 ·rw[rD h,rD (p:=ZQ K p) h];refine congrArg some (Prod.ext rfl ?_);show K.mul (K.sub K.zero p.2.1) _=K.neg (K.mul p.2.1 _);rw[←K.neg_mul];congr 1;exact K.zero_add _
end
namespace AG
variable {G:Type} (A:AG G)
theorem addz (a:G):A.add a A.zero=a:=by rw[A.comm,A.zadd]
theorem addn (a:G):A.add a (A.neg a)=A.zero:=by rw[A.comm,A.nadd]
theorem left_comm (a b c:G):A.add a (A.add b c)=A.add b (A.add a c):=by rw[←A.assoc,A.comm a b,A.assoc]
theorem cancel {a b c:G} (h:A.add a b=A.add a c):b=c:=by
 have:=congrArg (A.add (A.neg a)) h
 rwa [←A.assoc,←A.assoc,A.nadd,A.zadd,A.zadd]at this
theorem negz:A.neg A.zero=A.zero:=by apply A.cancel (a:=A.zero); rw[A.addn,A.addz]
theorem neg_add (a b:G):A.neg (A.add a b)=A.add (A.neg a) (A.neg b):=by
 apply A.cancel (a:=A.add a b);rw[A.addn,A.assoc,A.left_comm b,A.addn,A.addz,A.addn]
def ns:Nat→G→G
 | 0,_=>A.zero
 | n+1,g=>A.add (ns n g) g
theorem ns_add (m:Nat) (g:G):∀n,A.ns (m+n) g=A.add (A.ns m g) (A.ns n g)
 | 0=>(A.addz _).symm
 | n+1=>by show A.add (A.ns (m+n) g) g=A.add _ (A.add _ _); rw[ns_add m g n,A.assoc]
theorem ns_zero:∀n,A.ns n A.zero=A.zero
 | 0=>rfl
 | n+1=>by show A.add (A.ns n _) _=_; rw[ns_zero n,A.zadd]
theorem ns_mul (m:Nat) (g:G):∀n,A.ns (m*n) g=A.ns n (A.ns m g)
 | 0=>rfl
 | n+1=>by rw[Nat.mul_add,Nat.mul_one,ns_add,ns_mul m g n]; rfl
theorem ns_neg (g:G):∀n,A.ns n (A.neg g)=A.neg (A.ns n g)
 | 0=>A.negz.symm
 | n+1=>by show A.add (A.ns n _) _=A.neg (A.add _ _); rw[ns_neg g n,A.neg_add]
def zs:Int→G→G
 | .ofNat n,g=>A.ns n g
 | .negSucc n,g=>A.neg (A.ns (n+1) g)
end AG
def aCr (w:Nat):Int:=((w+1)/2:Nat)-(if 16≤w then 16 else 0:Int)
def aFD (x p:Nat):Nat:=(if p=0 then x*2 else x/2^(p*4-1))%32
def xS (x PL:Nat):Nat→Int
 | 0=>0
 | i+1=>16*xS x PL i+aCr (aFD x (PL-1-i))
open Classical
section
variable {R:Type} {K:CR R} {inv:R→R} {b:R}
def Rp (E:EC K inv b) (p:Jc R) (P:{p:Pt R // On K b p}):Prop:=IS K inv p=P.1
theorem Rp.on {E:EC K inv b} {p:Jc R} {P:{p:Pt R // On K b p}} (h:Rp E p P):On K b (IS K inv p):=by
 rw[show IS K inv p=P.1 from h]; exact P.2
theorem Rp.dbl {E:EC K inv b} {p:Jc R} {P:{p:Pt R // On K b p}} (h:Rp E p P):Rp E (Ih K p) (E.grp.add P P):=by
 show IS K inv (Ih K p)=IR K inv P.1 P.1;rw[Id E h.on,show IS K inv p=P.1 from h]
theorem Rp.neg {E:EC K inv b} {p:Jc R} {P:{p:Pt R // On K b p}} (h:Rp E p P):Rp E (ZQ K p) (E.grp.neg P):=by
 show IS K inv (ZQ K p)=Ma K P.1;rw[Ic,show IS K inv p=P.1 from h]
theorem Rp.zero {E:EC K inv b} {p:Jc R} (h:p.2.2=K.zero):Rp E p E.grp.zero:=nC h
end
namespace AG
variable {G:Type} (A:AG G)
theorem ns_one (g:G):A.ns 1 g=g:=A.zadd g
end AG
namespace AG
variable {G:Type} (A:AG G)
theorem ns_modz {g:G} {n:Nat} (h:A.ns n g=A.zero) (m:Nat):A.ns (m%n) g=A.ns m g:=by
 conv=>rhs; rw[←Nat.div_add_mod m n,A.ns_add,A.ns_mul,h,A.ns_zero,A.zadd]
theorem ns_gcd {g:G} (a b:Nat):A.ns a g=A.zero→A.ns b g=A.zero→A.ns (Nat.gcd a b) g=A.zero:=by
 induction a,b using Nat.gcd.induction with
 | H0 n=>intro _ h; rw[Nat.gcd_zero_left]; exact h
 | H1 m n hm ih =>
  intro h1 h2;rw[Nat.gcd_rec];exact ih (by rw[A.ns_modz h1]; exact h2) h1
theorem exact {g:G} {N:Nat} {l:List Nat} (hl:l.foldr (· * ·) 1=N) (hp:∀q,q∈l→dO q) (h0:A.ns N g=A.zero) (hq:∀q,q∈l→A.ns (N/q) g≠A.zero) (k:Nat) (hk:0<k) (hN:k<N):A.ns k g≠A.zero:=fun h=>by
 have hd:=A.ns_gcd k N h h0;obtain⟨e,he⟩:=Nat.gcd_dvd_right k N;have hdk:Nat.gcd k N≤k:=Nat.le_of_dvd hk (Nat.gcd_dvd_left k N);have hd0:0<Nat.gcd k N:=Nat.gcd_pos_of_pos_left N hk;have he1:1<e:=by
  rcases Nat.lt_or_ge 1 e with q|q
  ·exact q
  ·have:Nat.gcd k N*e≤Nat.gcd k N*1:=Nat.mul_le_mul_left _ q;omega
 obtain⟨q,hql,f,hf⟩:=qK l e (by rw[hl]; exact⟨Nat.gcd k N,by rw[Nat.mul_comm]; exact he⟩) he1 hp;refine hq q hql ?_;have hq0:0<q:=Nat.lt_trans Nat.zero_lt_one (hp q hql).1;have e1:N/q=Nat.gcd k N*f:=by
  rw[Nat.div_eq_of_eq_mul_left hq0];rw[Nat.mul_assoc,Nat.mul_comm f q,←hf];exact he
 rw[e1,A.ns_mul,hd,A.ns_zero]
theorem ns_inj {g:G} {N:Nat} (h:∀k,0<k→k<N→A.ns k g≠A.zero) {i j:Nat} (hi:i<N) (hj:j<N) (e:A.ns i g=A.ns j g):i=j:=by
 have key:∀i j,i<j→j<N→A.ns i g=A.ns j g→False:=fun i j hij hj e=>by
  refine h (j-i) (by omega) (by omega) ?_;have:A.ns j g=A.add (A.ns i g) (A.ns (j-i) g):=by rw[←A.ns_add,Nat.add_sub_cancel' (Nat.le_of_lt hij)]
  rw[this]at e;refine A.cancel (a:=A.ns i g) ?_;rw[←e,A.addz]
 rcases Nat.lt_trichotomy i j with q|q|q
 ·exact (key i j q hj e).elim
 ·exact q
 ·exact (key j i q hi e.symm).elim
end AG
open Go.RowKit
theorem rrt:Root RM 5:=by
 show Root Go.Proofs.YtpbljiejmfahcaaGreatDoor.FR.M 5;rw[aDg];exact WP
theorem Pc:2≤RM:=by decide
def Re (x:Fin RM):Fin RM:=⟨rnv x.1,Pb _⟩
theorem fdR:FD KR Re:=⟨fun h=>absurd (congrArg Fin.val h) (by decide),fun x h=>Fin.ext (by
 show x.1*(1*(x.1^(RM-2))%RM)%RM=1;rw[Nat.one_mul];exact uH rrt Pc (Nat.pos_of_ne_zero fun e=>h (Fin.ext e)) x.2)⟩
def aR:Fin RM:=iU 168700
def dR:Fin RM:=iU 168696
theorem Ke:168696^(RM/2)%RM≠1:=by
 rw[←XO RM 256 168696 (RM/2) (by decide)];exact of_decide_eq_true (by kernel_rfl)
theorem dns (x:Fin RM):KR.mul x x≠dR:=fun h=>by
 have h1:x.1*x.1%RM=168696:=(congrArg Fin.val h).trans (Nat.mod_eq_of_lt (by decide))
 by_cases h0:x.1=0
 ·rw[h0]at h1;exact absurd h1 (by decide)
 ·have h2:=Rb rrt (by decide) (Nat.pos_of_ne_zero h0) x.2;rw[h1]at h2;exact Ke h2
def sRJ:Fin RM:=iU 7214280148105020021932206872019688659210616427216992810330019057549499971851
theorem eO:ED KR Re aR dR where
 F:=fdR
 two:=fun h=>absurd (congrArg Fin.val h) (by decide)
 sq:=⟨sRJ,of_decide_eq_true (by kernel_rfl)⟩
 ns:=dns
abbrev JP:=NO KR aR dR
abbrev NJ:=Nat×Nat×Nat
def yO (p q:NJ):NJ :=
 let z:=bK p.2.2 q.2.2
 let x:=bK p.1 q.1
 let y:=bK p.2.1 q.2.1
 let both:=bK 168696 (bK x y)
 let square:=bK z z
 let more:=gS square both
 let less:=oC square both
 let across:=oC (oC (bK (gS p.1 p.2.1) (gS q.1 q.2.1)) x) y
 (bK (bK z less) across,bK (bK z more) (oC y (bK 168700 x)),bK less more)
def ZR (p:NJ):NJ :=
 let x:=bK p.1 p.1
 let y:=bK p.2.1 p.2.1
 let z:=bK p.2.2 p.2.2
 let across:=oC (oC (bK (gS p.1 p.2.1) (gS p.1 p.2.1)) x) y
 let ax:=bK 168700 x
 let more:=gS ax y
 let less:=oC (gS z z) more
 (bK across less,bK more (oC y ax),bK more less)
def DZ (x y:Nat):Nat:=x*(y^(RM-2))%RM
theorem AL (x y:Nat):DZ x y<RM:=Nat.mod_lt _ fW
def tld (p:NJ):Nat×Nat:=(bK p.1 (DZ 1 p.2.2),bK p.2.1 (DZ 1 p.2.2))
def UF (p:NJ):Fin RM×Fin RM×Fin RM:=(iU p.1,iU p.2.1,iU p.2.2)
theorem gI (x:Nat) {y:Nat} (hy:y<RM):iU (oC x y)=KR.sub (iU x) (iU y):=Eh x hy
theorem Oa (p q:NJ):UF (yO p q)=GR KR aR dR (UF p) (UF q):=by
 refine Prod.ext ?_ (Prod.ext ?_ ?_)
 ·simp only[UF,yO,GR,iT,lL,gI _ (aK _ _)]; rfl
 ·simp only[UF,yO,GR,iT,lL,gI _ (aK _ _)]; rfl
 ·simp only[UF,yO,GR,iT,lL,gI _ (aK _ _)]; rfl
theorem Ob (p:NJ):UF (ZR p)=GS KR aR (UF p):=by
 refine Prod.ext ?_ (Prod.ext ?_ ?_)
 ·simp only[UF,ZR,GS,iT,lL,gI _ (aK _ _),gI _ (cR _ _)]; rfl
 ·simp only[UF,ZR,GS,iT,lL,gI _ (aK _ _),gI _ (cR _ _)]; rfl
 ·simp only[UF,ZR,GS,iT,lL,gI _ (aK _ _),gI _ (cR _ _)]; rfl
structure JRep (p:NJ) (P:JP):Prop where
 x:p.1<RM
 y:p.2.1<RM
 z:p.2.2<RM
 rep:oZ KR aR dR (UF p) P
theorem JRep.pl {p q:NJ} {P Q:JP} (hp:JRep p P) (hq:JRep q Q):JRep (yO p q) (eO.grp.add P Q) :=
 ⟨aK _ _,aK _ _,aK _ _,by rw[Oa]; exact eO.sum hp.rep hq.rep⟩
theorem JRep.db {p:NJ} {P:JP} (hp:JRep p P):JRep (ZR p) (eO.grp.add P P) :=
 ⟨aK _ _,aK _ _,aK _ _,by rw[Ob]; exact eO.dbl hp.rep⟩
theorem JRep.nz {p:NJ} {P:JP} (hp:JRep p P):p.2.2≠0:=fun e=>hp.rep.2.2 (by show iU p.2.2=KR.zero; rw[e]; rfl)
theorem VI {z:Nat} (hz:z<RM):iU (DZ 1 z)=Re (iU z):=Fin.ext (by
 show DZ 1 z%RM=1*((z%RM)^(RM-2))%RM;rw[Nat.mod_eq_of_lt (AL _ _),Nat.mod_eq_of_lt hz];rfl)
theorem JRep.tld {p:NJ} {P:JP} (hp:JRep p P):tld p=(P.1.1.1,P.1.2.1):=by
 obtain⟨h1,h2⟩:=eO.told hp.rep;have e1:iU (bK p.1 (DZ 1 p.2.2))=P.1.1:=by rw[iT,VI hp.z]; exact h1
 have e2:iU (bK p.2.1 (DZ 1 p.2.2))=P.1.2:=by rw[iT,VI hp.z]; exact h2
 refine Prod.ext ?_ ?_
 ·show bK p.1 (DZ 1 p.2.2)=_;rw[←lK (aK p.1 (DZ 1 p.2.2)),e1]
 ·show bK p.2.1 (DZ 1 p.2.2)=_;rw[←lK (aK p.2.1 (DZ 1 p.2.2)),e2]
def CL (x y:Nat):Prop:=gS (bK 168700 (bK x x)) (bK y y)=gS 1 (bK 168696 (bK (bK x x) (bK y y)))
instance (x y:Nat):Decidable (CL x y):=Nat.decEq _ _
def OnJ (x y:Nat):Prop:=(x<RM∧y<RM)∧CL x y
instance (x y:Nat):Decidable (OnJ x y):=instDecidableAnd
theorem Qn {x y:Nat} (h:CL x y):fD KR aR dR (iU x) (iU y):=by
 have e:=congrArg iU h;simp only[lL,iT,VJ]at e;exact e
def jp {x y:Nat} (h:OnJ x y):JP:=⟨(iU x,iU y),Qn h.2⟩
theorem lV {x y:Nat} (h:OnJ x y):JRep (x,y,1) (jp h) :=
 ⟨h.1.1,h.1.2,fF,by show oZ KR aR dR (iU x,iU y,iU 1) _; rw[VJ]; exact eO.rep1 (jp h)⟩
theorem Qm {x y:Fin RM} (h:fD KR aR dR x y):CL x.1 y.1:=by
 have h:KR.add (KR.mul aR (KR.mul x x)) (KR.mul y y)=KR.add KR.one (KR.mul dR (KR.mul (KR.mul x x) (KR.mul y y))):=h;have e:=congrArg Fin.val h;exact e
theorem JP.on (P:JP):OnJ P.1.1.1 P.1.2.1:=⟨⟨P.1.1.2,P.1.2.2⟩,Qm P.2⟩
theorem aED {x y:Nat} (h:OnJ x y):(jp h).1.1.1=x:=lK h.1.1
theorem Zq {x y:Nat} (h:OnJ x y):(jp h).1.2.1=y:=lK h.1.2
theorem Zr (P:JP) (h:OnJ P.1.1.1 P.1.2.1):jp h=P:=Subtype.ext (Prod.ext (Fin.ext (Nat.mod_eq_of_lt P.1.1.2)) (Fin.ext (Nat.mod_eq_of_lt P.1.2.2)))
theorem KZ:JRep (0,1,1) eO.grp.zero:=⟨fW,fF,fF,by
 show oZ KR aR dR (iU 0,iU 1,iU 1) _;rw[VJ,VK];exact eO.rep1 eO.grp.zero⟩
def fjn {α:Type} (n:Nat) (k:Nat→α):α:=Nat.rec (motive:=fun _=>α) (k 0) (fun m _=>k (Nat.succ m)) n
theorem LT {α:Type} (n:Nat) (k:Nat→α):fjn n k=k n:=by cases n<;>rfl
def fj3 {α:Type} (p:NJ) (k:NJ→α):α:=fjn p.1 fun x=>fjn p.2.1 fun y=>fjn p.2.2 fun z=>k (x,y,z)
theorem Ao {α:Type} (p:NJ) (k:NJ→α):fj3 p k=k p:=by unfold fj3; rw[LT,LT,LT]
def cmJ (p:NJ) (n L:Nat):Nat→NJ
 | 0=>(0,1,1)
 | k+1=>fj3 (cmJ p n L k) fun q=>fj3 (ZR q) fun q2=>bif Nat.beq (n/2^(L-(k+1))%2) 1 then yO q2 p else q2
theorem PV {p:NJ} {P:JP} (h:JRep p P) (n L:Nat) (hn:n<2^L):∀k,k≤L→JRep (cmJ p n L k) (eO.grp.ns (n/2^(L-k)) P)
 | 0,_=>by
  rw[Nat.sub_zero,Nat.div_eq_of_lt hn];exact KZ
 | k+1,hk=>by
  have ih:=PV h n L hn k (by omega);have e:n/2^(L-k)=n/2^(L-(k+1))/2:=by
   rw[show L-k=(L-(k+1))+1 by omega,Nat.pow_add,←Nat.div_div_eq_div_mul]
  rw[e]at ih;have h2:=ih.db;rw[←eO.grp.ns_add]at h2;show JRep (fj3 (cmJ p n L k) _) _;rw[Ao,Ao];cases hb:Nat.beq (n/2^(L-(k+1))%2) 1
  ·have hb:n/2^(L-(k+1))%2≠1:=fun q=>by rw[q]at hb; cases hb
   rw[show n/2^(L-(k+1))=n/2^(L-(k+1))/2+n/2^(L-(k+1))/2 by omega];exact h2
  ·have hb:=Nat.eq_of_beq_eq_true hb;rw[show n/2^(L-(k+1))=n/2^(L-(k+1))/2+n/2^(L-(k+1))/2+1 by omega];exact h2.pl h
theorem Kk {p:NJ} {P:JP} (h:JRep p P) (n L:Nat) (hn:n<2^L):JRep (cmJ p n L L) (eO.grp.ns n P):=by
 have:=PV h n L hn L (Nat.le_refl _)
 rwa [Nat.sub_self,Nat.pow_zero,Nat.div_one]at this
def oT (p:NJ):Bool:=Nat.beq p.1 0&&Nat.beq p.2.1 p.2.2
theorem vV {p:NJ} {P:JP} (h:JRep p P):oT p=true↔P=eO.grp.zero:=by
 obtain⟨hx,hy,hz,h1,h2,h3⟩:=h;have h1:iU p.1=KR.mul P.1.1 (iU p.2.2):=h1;have h2:iU p.2.1=KR.mul P.1.2 (iU p.2.2):=h2;have h3:iU p.2.2≠KR.zero:=h3;unfold oT;rw[Bool.and_eq_true];constructor
 ·rintro⟨e1,e2⟩
  have e1:=Nat.eq_of_beq_eq_true e1;have e2:=Nat.eq_of_beq_eq_true e2;rw[e1]at h1;rw[e2]at h2;refine Subtype.ext (Prod.ext ?_ ?_)
  ·refine fdR.zd (a:=iU p.2.2) ?_ h3;rw[KR.mul_comm,←h1];exact VK
  ·refine fdR.cancel h3 ?_;rw[KR.mul_comm,←h2];exact (KR.mul_one _).symm
 ·rintro rfl
  have e1:iU p.1=KR.zero:=h1.trans (KR.zero_mul _);have e2:iU p.2.1=iU p.2.2:=h2.trans (KR.one_mul _);refine⟨?_,?_⟩
  ·rw[NU hx fW (e1.trans VK.symm)]; rfl
  ·rw[NU hy hz e2]; exact Nat.beq_refl _
def lJ:Nat:=2736030358979909402780800718157159386076813972158567259200215660948447373041
def bX:Nat:=5299619240641551281634865583518297030282874472190772894086521144482721001553
def bY:Nat:=16950150798460657717958625567821834550301663161624707787222815936182638968203
theorem xW:OnJ bX bY:=of_decide_eq_true (by kernel_rfl)
def JB:JP:=jp xW
theorem aCI:oT (cmJ (bX,bY,1) lJ 251 251)=true:=by kernel_rfl
theorem PY:eO.grp.ns lJ JB=eO.grp.zero:=(vV (Kk (lV xW) lJ 251 (by decide))).1 aCI
def Sg:gE
 | [.v (.im (.int .i64 2)),.v (.fl l),.v (.fl m)]=>match uC l,uC m with
  | some x,some y=>some ([x<RM,y<RM,y≠0],.many [.fl [.q (DZ x y)],.im (.int .i64 0)])
  | _,_=>none
 | _=>none
theorem Xi:∀cs pre r,Sg cs=some (pre,r)→aT pre→∀(args:List Value) (w:World),cD w cs args→bD prog 100 r args w:=by
 intro cs pre r hg hp args w ha;unfold Sg at hg;split at hg
 ·rename_i l m;split at hg
  ·rename_i x y hx hy;cases hg
   match args,ha with
   | [t,v,u],ha =>
    obtain⟨h1,h2,h3,_⟩:=ha;have h1:t=.int .i64 2:=h1;have h2:v=.agg (aA l).toArray:=h2;have h3:u=.agg (aA m).toArray:=h3;rw[eE l x hx]at h2;rw[eE m y hy]at h3;subst h1; subst h2; subst h3;have h:=Jr 2 _ GJ _ _ _ _ _ _ _ _ (fH x) (fH y) (by rw[BN hp.1]; exact hp.1) (by rw[BN hp.2.1]; exact hp.2.1) (by rw[BN hp.2.1]; exact hp.2.2.1) w;rw[BN hp.1,BN hp.2.1]at h;refine h.mono ?_
    rintro e w' ⟨s0,s1,s2,s3,rfl,hs,hv,hb⟩
    obtain⟨rfl,rfl,rfl,rfl⟩:=jN hs (kO (AL x y)) hv;exact⟨rfl,hb⟩
   | [],ha=>exact ha.elim
   | [_],ha=>exact ha.2.elim
   | [_,_],ha=>exact ha.2.2.elim
   | _::_::_::_::_,ha=>exact ha.2.2.2.elim
  ·cases hg
 ·cases hg
def UA:Tab:=(((((T0.add 121 (Dn gS)).add 101 (Dn oC)).add 115 (Dn bK)).add 102 Jj).add 69 Iz).add 100 Sg
theorem EZ:TabOk prog UA:=((((((bT _).ad func121 Lz).ad func101 Xh).ad func115 Ly).ad func102 OG).ad func69 Pg).ad func100 Xi
theorem If (x y:Nat):nG prog UA (qG prog) (fun _=>true) f103 40 [.v (.fl [.q x]),.v (.fl [.q y])]=some ([x<RM,y<RM],.one (.fl [.q (gS x y)])):=by kernel_rfl
theorem ZO (x y:Nat):nG prog UA (qG prog) (fun _=>true) f68 40 [.v (.fl [.q x]),.v (.fl [.q y])]=some ([x<RM,y<RM],.one (.fl [.q (oC x y)])):=by kernel_rfl
theorem ZN (x y:Nat):nG prog UA (qG prog) (fun _=>true) f89 40 [.v (.fl [.q x]),.v (.fl [.q y])]=some ([x<RM,y<RM],.one (.fl [.q (bK x y)])):=by kernel_rfl
theorem Ig (x y:Nat):nG prog UA (qG prog) (fun _=>true) f67 40 [.v (.fl [.q x]),.v (.fl [.q y])]=some ([x<RM,y<RM,y≠0],.one (.fl [.q (DZ x y)])):=by kernel_rfl
def UB:Tab:=((((UA.add 103 (Mn gS Mv)).add 68 (Mn oC Mv)).add 89 (Mn bK Mv)).add 67 (Mn DZ fun x y=>[x<RM,y<RM,y≠0]))
theorem FA:TabOk prog UB:=((((EZ.ad func103 (sV (op:=gS) (c:=Mv) fun x y h args w ha=>cG aI EZ (aW _) func103 (If x y) h ha)).ad func68 (sV (op:=oC) (c:=Mv) fun x y h args w ha=>cG aI EZ (aW _) func68 (ZO x y) h ha)).ad func89 (sV (op:=bK) (c:=Mv) fun x y h args w ha=>cG aI EZ (aW _) func89 (ZN x y) h ha)).ad func67 (sV (op:=DZ) (c:=fun x y=>[x<RM,y<RM,y≠0]) fun x y h args w ha=>cG aI EZ (aW _) func67 (Ig x y) h ha))
theorem KV (x:Nat):nG prog UB (qG prog) (fun _=>true) f65 40 [.v (.fl [.q x])]=some ([x<RM,x<RM],.one (.fl [.q (bK x x)])):=by kernel_rfl
theorem GC (x:Nat):nG prog UB (qG prog) (fun _=>true) f71 40 [.v (.fl [.q x])]=some ([0<RM,x<RM],.one (.fl [.q (oC 0 x)])):=by kernel_rfl
theorem SC (x:Nat):nG prog UB (qG prog) (fun _=>true) f104 40 [.v (.fl [.q x])]=some ([168700<18446744073709551616,168700<RM,x<RM],.one (.fl [.q (bK 168700 x)])):=by kernel_rfl
theorem SB (x:Nat):nG prog UB (qG prog) (fun _=>true) f70 40 [.v (.fl [.q x])]=some ([168696<18446744073709551616,168696<RM,x<RM],.one (.fl [.q (bK 168696 x)])):=by kernel_rfl
def NI:Tab:=((((UB.add 65 (Sf (fun x=>bK x x) fun x=>[x<RM])).add 71 (Sf (oC 0) fun x=>[x<RM])).add 104 (Sf (bK 168700) fun x=>[x<RM])).add 70 (Sf (bK 168696) fun x=>[x<RM]))
theorem tI:TabOk prog NI:=((((FA.ad func65 (vZ (op:=fun x=>bK x x) (c:=fun x=>[x<RM]) fun x h args w ha=>cG aI FA (aW _) func65 (KV x) ⟨h.1,h.1,trivial⟩ ha)).ad func71 (vZ (op:=oC 0) (c:=fun x=>[x<RM]) fun x h args w ha=>cG aI FA (aW _) func71 (GC x) ⟨fW,h.1,trivial⟩ ha)).ad func104 (vZ (op:=bK 168700) (c:=fun x=>[x<RM]) fun x h args w ha=>cG aI FA (aW _) func104 (SC x) ⟨by decide,by decide,h.1,trivial⟩ ha)).ad func70 (vZ (op:=bK 168696) (c:=fun x=>[x<RM]) fun x h args w ha=>cG aI FA (aW _) func70 (SB x) ⟨by decide,by decide,h.1,trivial⟩ ha))
abbrev NP:=Nat×Nat
def q3 (p:NJ):List At:=[.q p.1,.q p.2.1,.q p.2.2]
def Fw (l:List At):Option NJ:=match FK l with|some [a,b,c]=>some (a,b,c)|_=>none
theorem pE:Rd Fw q3:=fun l x h=>by
 unfold Fw at h;split at h
 ·rename_i hn; cases h; rw[qX hn]; rfl
 ·cases h
def c3 (p:NJ):List Prop:=[p.1<RM,p.2.1<RM,p.2.2<RM]
theorem KX (x y:Nat):nG prog NI (qG prog) (fun _=>true) f46 40 [.v (.fl [.q x,.q y])]=some ([1<18446744073709551616],.one (.fl [.q x,.q y,.q 1])):=by kernel_rfl
theorem KY:nG prog NI (qG prog) (fun _=>true) f76 40 []=some ([1<18446744073709551616],.one (.fl [.f ⟨0,cS⟩,.q 1])):=by kernel_rfl
theorem SD (w:World):bD prog 76 (.one (.fl [.q 0,.q 1])) [] w:=cG aI tI (aW _) func76 KY ⟨by decide,trivial⟩ (args:=[]) trivial
theorem GB (p q:NJ):nG prog NI (qG prog) (fun _=>true) f80 60 [.v (.fl (q3 p)),.v (.fl (q3 q))]=some ([p.2.2<RM,q.2.2<RM,p.1<RM,q.1<RM,p.2.1<RM,q.2.1<RM,(bK p.1 q.1)<RM,(bK p.2.1 q.2.1)<RM,(bK (bK p.1 q.1) (bK p.2.1 q.2.1))<RM,(bK p.2.2 q.2.2)<RM,(bK (bK p.2.2 q.2.2) (bK p.2.2 q.2.2))<RM,(bK 168696 (bK (bK p.1 q.1) (bK p.2.1 q.2.1)))<RM,(bK (bK p.2.2 q.2.2) (bK p.2.2 q.2.2))<RM,(bK 168696 (bK (bK p.1 q.1) (bK p.2.1 q.2.1)))<RM,p.1<RM,p.2.1<RM,q.1<RM,q.2.1<RM,(gS p.1 p.2.1)<RM,(gS q.1 q.2.1)<RM,(bK (gS p.1 p.2.1) (gS q.1 q.2.1))<RM,(bK p.1 q.1)<RM,(oC (bK (gS p.1 p.2.1) (gS q.1 q.2.1)) (bK p.1 q.1))<RM,(bK p.2.1 q.2.1)<RM,(bK p.2.2 q.2.2)<RM,(oC (bK (bK p.2.2 q.2.2) (bK p.2.2 q.2.2)) (bK 168696 (bK (bK p.1 q.1) (bK p.2.1 q.2.1))))<RM,(bK (bK p.2.2 q.2.2) (oC (bK (bK p.2.2 q.2.2) (bK p.2.2 q.2.2)) (bK 168696 (bK (bK p.1 q.1) (bK p.2.1 q.2.1)))))<RM,(oC (oC (bK (gS p.1 p.2.1) (gS q.1 q.2.1)) (bK p.1 q.1)) (bK p.2.1 q.2.1))<RM,(bK p.2.2 q.2.2)<RM,(gS (bK (bK p.2.2 q.2.2) (bK p.2.2 q.2.2)) (bK 168696 (bK (bK p.1 q.1) (bK p.2.1 q.2.1))))<RM,(bK p.1 q.1)<RM,(bK p.2.1 q.2.1)<RM,(bK 168700 (bK p.1 q.1))<RM,(bK (bK p.2.2 q.2.2) (gS (bK (bK p.2.2 q.2.2) (bK p.2.2 q.2.2)) (bK 168696 (bK (bK p.1 q.1) (bK p.2.1 q.2.1)))))<RM,(oC (bK p.2.1 q.2.1) (bK 168700 (bK p.1 q.1)))<RM,(oC (bK (bK p.2.2 q.2.2) (bK p.2.2 q.2.2)) (bK 168696 (bK (bK p.1 q.1) (bK p.2.1 q.2.1))))<RM,(gS (bK (bK p.2.2 q.2.2) (bK p.2.2 q.2.2)) (bK 168696 (bK (bK p.1 q.1) (bK p.2.1 q.2.1))))<RM],.one (.fl (q3 (yO p q)))):=by kernel_rfl
theorem vT (p:NJ):nG prog NI (qG prog) (fun _=>true) f78 60 [.v (.fl (q3 p))]=some ([p.1<RM,p.2.1<RM,p.2.2<RM,p.1<RM,p.2.1<RM,(gS p.1 p.2.1)<RM,(bK (gS p.1 p.2.1) (gS p.1 p.2.1))<RM,(bK p.1 p.1)<RM,(oC (bK (gS p.1 p.2.1) (gS p.1 p.2.1)) (bK p.1 p.1))<RM,(bK p.2.1 p.2.1)<RM,(bK p.1 p.1)<RM,(bK 168700 (bK p.1 p.1))<RM,(bK p.2.1 p.2.1)<RM,(bK p.2.2 p.2.2)<RM,(bK p.2.2 p.2.2)<RM,(gS (bK p.2.2 p.2.2) (bK p.2.2 p.2.2))<RM,(gS (bK 168700 (bK p.1 p.1)) (bK p.2.1 p.2.1))<RM,(oC (oC (bK (gS p.1 p.2.1) (gS p.1 p.2.1)) (bK p.1 p.1)) (bK p.2.1 p.2.1))<RM,(oC (gS (bK p.2.2 p.2.2) (bK p.2.2 p.2.2)) (gS (bK 168700 (bK p.1 p.1)) (bK p.2.1 p.2.1)))<RM,(bK p.2.1 p.2.1)<RM,(bK 168700 (bK p.1 p.1))<RM,(gS (bK 168700 (bK p.1 p.1)) (bK p.2.1 p.2.1))<RM,(oC (bK p.2.1 p.2.1) (bK 168700 (bK p.1 p.1)))<RM,(gS (bK 168700 (bK p.1 p.1)) (bK p.2.1 p.2.1))<RM,(oC (gS (bK p.2.2 p.2.2) (bK p.2.2 p.2.2)) (gS (bK 168700 (bK p.1 p.1)) (bK p.2.1 p.2.1)))<RM],.one (.fl (q3 (ZR p)))):=by kernel_rfl
theorem Ie (p:NJ):nG prog NI (qG prog) (fun _=>true) f55 60 [.v (.fl (q3 p))]=some ([1<18446744073709551616,1<RM,p.2.2<RM,p.2.2≠0,p.1<RM,(DZ 1 p.2.2)<RM,p.2.1<RM,(DZ 1 p.2.2)<RM],.one (.fl [.q (tld p).1,.q (tld p).2])):=by kernel_rfl
def oV:Tab:=(((((NI.add 46 (g1 Lw fun p=>([],.one (.fl (q3 (p.1,p.2,1)))))).add 76 (g0 (.one (.fl [.q 0,.q 1])))).add 80 (g2 Fw Fw fun p q=>(c3 p++c3 q,.one (.fl (q3 (yO p q)))))).add 78 (g1 Fw fun p=>(c3 p,.one (.fl (q3 (ZR p)))))).add 55 (g1 Fw fun p=>(c3 p++[p.2.2≠0],.one (.fl [.q (tld p).1,.q (tld p).2]))))
theorem jL:TabOk prog oV:=(((((tI.ad func46 (mH (op:=fun p=>([],.one (.fl (q3 (p.1,p.2,1))))) sD fun p h args w ha=>cG aI tI (aW _) func46 (KX p.1 p.2) ⟨by decide,trivial⟩ ha)).ad func76 (wC SD)).ad func80 (GG (op:=fun p q=>(c3 p++c3 q,.one (.fl (q3 (yO p q))))) pE pE fun p q h args w ha=>cG aI tI (aW _) func80 (GB p q) ⟨h.2.2.1,h.2.2.2.2.2.1,h.1,h.2.2.2.1,h.2.1,h.2.2.2.2.1,(aK _ _),(aK _ _),(aK _ _),(aK _ _),(aK _ _),(aK _ _),(aK _ _),(aK _ _),h.1,h.2.1,h.2.2.2.1,h.2.2.2.2.1,(cR _ _),(cR _ _),(aK _ _),(aK _ _),(dZ _ _),(aK _ _),(aK _ _),(dZ _ _),(aK _ _),(dZ _ _),(aK _ _),(cR _ _),(aK _ _),(aK _ _),(aK _ _),(aK _ _),(dZ _ _),(dZ _ _),(cR _ _),trivial⟩ ha)).ad func78 (mH (op:=fun p=>(c3 p,.one (.fl (q3 (ZR p))))) pE fun p h args w ha=>cG aI tI (aW _) func78 (vT p) ⟨h.1,h.2.1,h.2.2.1,h.1,h.2.1,(cR _ _),(aK _ _),(aK _ _),(dZ _ _),(aK _ _),(aK _ _),(aK _ _),(aK _ _),(aK _ _),(aK _ _),(cR _ _),(cR _ _),(dZ _ _),(dZ _ _),(aK _ _),(aK _ _),(cR _ _),(dZ _ _),(cR _ _),(dZ _ _),trivial⟩ ha)).ad func55 (mH (op:=fun p=>(c3 p++[p.2.2≠0],.one (.fl [.q (tld p).1,.q (tld p).2]))) pE fun p h args w ha=>cG aI tI (aW _) func55 (Ie p) ⟨(by decide),fF,h.2.2.1,h.2.2.2.1,h.1,(AL _ _),h.2.1,(AL _ _),trivial⟩ ha))
theorem aCl {w:World} {l l':List At} {n m:Nat} {args:List Value} (e:aA l=aA l') (h:cD w [.s l n m] args):cD w [.s l' n m] args:=by
 match args,h with
 | [v],h =>
  obtain⟨⟨b,o,rfl,hb,hr⟩,_⟩:=h;exact⟨⟨b,o,rfl,hb,e▸hr⟩,trivial⟩
 | [],h=>exact h.elim
 | _::_::_,h=>exact h.2.elim
def Mm (k:Nat) (c:List Nat→List Prop×RV):gE
 | [.s l n m]=>bif Nat.beq n k then (match FK l with|some x=>some (c x)|none=>none)else none
 | _=>none
theorem LK {f:FuncId} {k:Nat} {c:List Nat→List Prop×RV} (h:∀x m,aT (c x).1→∀args w,cD w [.s (x.map .q) k m] args→bD prog f (c x).2 args w) :
  ∀cs pre r,Mm k c cs=some (pre,r)→aT pre→∀(args:List Value) (w:World),cD w cs args→bD prog f r args w:=by
 intro cs pre r hg hp args w ha;unfold Mm at hg;split at hg
 ·rename_i l n m;cases hb:Nat.beq n k<;>rw[hb]at hg
  ·cases hg
  ·cases Nat.eq_of_beq_eq_true hb;simp only[cond_true]at hg;split at hg
   ·rename_i x hx;have e:c x=(pre,r):=by simpa using hg
    have:=h x m (by rw[e]; exact hp) args w (aCl (qX hx) ha);rw[e]at this;exact this
   ·cases hg
 ·cases hg
def nR (x y:Nat):Bool:=decide (x<RM∧y<RM)
theorem TM (x y m:Nat):bZ prog (qG prog) (fun _=>⟨fun _=>oV,fun _=>true,assoc [(13,.bool false)]⟩) f73 60 [.s [.q x,.q y] 2 m]=some ([x<aF,aN .neq .i64 (TG x) 0=some (.bool false),y<aF,aN .neq .i64 (TG y) 0=some (.bool false)],.one (.im (.bool true))):=by kernel_rfl
theorem TO (x y m:Nat):bZ prog (qG prog) (fun _=>⟨fun _=>oV,fun _=>true,assoc [(13,.bool true)]⟩) f73 60 [.s [.q x,.q y] 2 m]=some ([x<aF,aN .neq .i64 (TG x) 0=some (.bool true)],.one (.im (.bool false))):=by kernel_rfl
theorem TN (x y m:Nat):bZ prog (qG prog) (fun n=>⟨fun _=>oV,fun _=>true,assoc [(13,.bool (Nat.blt n 48))]⟩) f73 60 [.s [.q x,.q y] 2 m]=some ([x<aF,aN .neq .i64 (TG x) 0=some (.bool false),y<aF,aN .neq .i64 (TG y) 0=some (.bool true)],.one (.im (.bool false))):=by kernel_rfl
theorem TP (x y m:Nat) (hx:x<aF) (hy:y<aF) (args:List Value) (w:World) (ha:cD w [.s [.q x,.q y] 2 m] args):bD prog 73 (.one (.im (.bool (nR x y)))) args w:=by
 unfold nR
 by_cases h1:x<RM
 ·by_cases h2:y<RM
  ·rw[decide_eq_true ⟨h1,h2⟩];exact aP aI (fun _ _=>jL) (aW _) func73 (TM x y m) ⟨hx,BZ h1,hy,BZ h2,trivial⟩ ha
  ·rw[decide_eq_false (fun h=>h2 h.2)];exact aP aI (fun _ _=>jL) (aW _) func73 (TN x y m) ⟨hx,BZ h1,hy,CC h2,trivial⟩ ha
 ·rw[decide_eq_false (fun h=>h1 h.1)];exact aP aI (fun _ _=>jL) (aW _) func73 (TO x y m) ⟨hx,CC h1,trivial⟩ ha
def aCo (b:Bool):List Nat→List Prop×RV
 | [x,y]=>([x<aF,y<aF,nR x y=b],.one (.im (.bool b)))
 | _=>([False],.one (.im (.bool b)))
theorem aBi (b:Bool):∀cs pre r,Mm 2 (aCo b) cs=some (pre,r)→aT pre→∀(args:List Value) (w:World),cD w cs args→bD prog 73 r args w :=
 LK fun x m hp args w ha=>by
  match x,hp,ha with
  | [x,y],hp,ha =>
   have h:=TP x y m hp.1 hp.2.1 args w ha;rw[hp.2.2.1]at h;exact h
  | [],hp,_=>exact hp.1.elim
  | [_],hp,_=>exact hp.1.elim
  | _::_::_::_,hp,_=>exact hp.1.elim
theorem Yo (x y:Nat):bZ prog (qG prog) (fun _=>⟨fun _=>oV,fun _=>true,fun _=>none⟩) f74 60 [.v (.fl [.q x]),.v (.fl [.q y])]=some ([x<RM,y<RM,bK x x<RM,bK 168700 (bK x x)<RM,bK y y<RM,1<18446744073709551616,bK x x<RM,bK y y<RM,bK (bK x x) (bK y y)<RM,1<RM,bK 168696 (bK (bK x x) (bK y y))<RM,aA [At.q (gS (bK 168700 (bK x x)) (bK y y))]=aA [At.q (gS 1 (bK 168696 (bK (bK x x) (bK y y))))]],.one (.im (.bool true))):=by kernel_rfl
theorem Yp (x y:Nat):bZ prog (qG prog) (fun _=>⟨fun _=>oV,fun _=>false,fun _=>none⟩) f74 60 [.v (.fl [.q x]),.v (.fl [.q y])]=some ([x<RM,y<RM,bK x x<RM,bK 168700 (bK x x)<RM,bK y y<RM,1<18446744073709551616,bK x x<RM,bK y y<RM,bK (bK x x) (bK y y)<RM,1<RM,bK 168696 (bK (bK x x) (bK y y))<RM,aA [At.q (gS (bK 168700 (bK x x)) (bK y y))]≠aA [At.q (gS 1 (bK 168696 (bK (bK x x) (bK y y))))]],.one (.im (.bool false))):=by kernel_rfl
theorem flq {a b:Nat} (ha:a<RM) (hb:b<RM) (h:aA [At.q a]=aA [At.q b]):a=b:=by
 have h:[Value.int .u64 (fw a 0:Nat),.int .u64 (fw a 1:Nat),.int .u64 (fw a 2:Nat),.int .u64 (fw a 3:Nat)]=[Value.int .u64 (fw b 0:Nat),.int .u64 (fw b 1:Nat),.int .u64 (fw b 2:Nat),.int .u64 (fw b 3:Nat)]:=h;simp only[List.cons.injEq,Value.int.injEq,true_and,and_true,Int.natCast_inj]at h;rw[←BN ha,←BN hb,h.1,h.2.1,h.2.2.1,h.2.2.2]
theorem RQ (x y:Nat) (hx:x<RM) (hy:y<RM) (args:List Value) (w:World) (ha:cD w [.v (.fl [.q x]),.v (.fl [.q y])] args):bD prog 74 (.one (.im (.bool (decide (CL x y))))) args w:=by
 by_cases h:CL x y
 ·rw[decide_eq_true h];exact aP aI (fun _ _=>jL) (aW _) func74 (Yo x y) ⟨hx,hy,aK _ _,aK _ _,aK _ _,by decide,aK _ _,aK _ _,aK _ _,fF,aK _ _,by rw[h],trivial⟩ ha
 ·rw[decide_eq_false h];exact aP aI (fun _ _=>jL) (aW _) func74 (Yp x y) ⟨hx,hy,aK _ _,aK _ _,aK _ _,by decide,aK _ _,aK _ _,aK _ _,fF,aK _ _,fun e=>h (flq (cR _ _) (cR _ _) e),trivial⟩ ha
def Rz (b:Bool):gE
 | [.v (.fl l),.v (.fl m)]=>match uC l,uC m with|some x,some y=>some ([x<RM,y<RM,decide (CL x y)=b],.one (.im (.bool b)))|_,_=>none
 | _=>none
theorem aBa (b:Bool):∀cs pre r,Rz b cs=some (pre,r)→aT pre→∀(args:List Value) (w:World),cD w cs args→bD prog 74 r args w:=by
 intro cs pre r hg hp args w ha;unfold Rz at hg;split at hg
 ·rename_i l m;split at hg
  ·rename_i x y hx hy;cases hg;have h:=RQ x y hp.1 hp.2.1 args w (by
    match args,ha with
    | [v,u],ha =>
     refine⟨?_,?_,trivial⟩
     ·show v=.agg (aA (q1 x)).toArray;rw[←eE l x hx]; exact ha.1
     ·show u=.agg (aA (q1 y)).toArray;rw[←eE m y hy]; exact ha.2.1
    | [],ha=>exact ha.elim
    | [_],ha=>exact ha.2.elim
    | _::_::_::_,ha=>exact ha.2.2.elim)
   rw[hp.2.2.1]at h;exact h
  ·cases hg
 ·cases hg
def CI (b c:Bool):Tab:=(oV.add 73 (Mm 2 (aCo b))).add 74 (Rz c)
theorem tH (b c:Bool):TabOk prog (CI b c):=(jL.ad func73 (aBi b)).ad func74 (aBa c)
end Go.Proofs.YtpbljiejmfahcaaGreatDoor.Ex
