/- Eb04 -/
import Derived.KernelRfl
import Derived.Deep.RegionWith
import Derived.Lib.Hide
import Derived.Below
import Derived.LoopTactic
import Derived.Outline
import Derived.OrdersHeld
import Derived.Deep.RegionHeld
import Derived.Deep.DeepCutAuto
import Derived.Test.YtpjlhhpjpnacmaaGreatEb02
import Derived.Test.YtpjlhhpjpnacmaaGreatEb00
import Derived.Test.YtpjlhhpjpnacmaaGreatEb03
import Derived.Test.YtpjlhhpjpnacmaaGreatProg
set_option maxRecDepth 100000
set_option linter.unusedVariables false
set_option linter.unusedSimpArgs false
set_option linter.unnecessarySimpa false
namespace Go.Proofs.YtpjlhhpjpnacmaaGreat
open Go.Proofs.Tryz
theorem bH:fX 2:=aV 2 1 (by decide) (by decide) (by kernel_rfl)
theorem iG:fX 3:=aV 3 1 (by decide) (by decide) (by kernel_rfl)
theorem DY:fX 13:=aV 13 3 (by decide) (by decide) (by kernel_rfl)
theorem RH:fX 29:=aV 29 5 (by decide) (by decide) (by kernel_rfl)
theorem Hl:fX 67:=aV 67 8 (by decide) (by decide) (by kernel_rfl)
theorem IN:fX 229:=aV 229 15 (by decide) (by decide) (by kernel_rfl)
theorem YL:fX 311:=aV 311 17 (by decide) (by decide) (by kernel_rfl)
theorem IM:fX 983:=aV 983 31 (by decide) (by decide) (by kernel_rfl)
theorem vE:fX 11003:=aV 11003 104 (by decide) (by decide) (by kernel_rfl)
theorem DZ:fX 11:=aV 11 3 (by decide) (by decide) (by kernel_rfl)
theorem RF:fX 3691:=aV 3691 60 (by decide) (by decide) (by kernel_rfl)
theorem RD:fX 4999:=aV 4999 70 (by decide) (by decide) (by kernel_rfl)
theorem sN:Root 405928799 22:=by
 refine bZ (l:=[2,11,3691,4999]) (by kernel_rfl) fun q hq => ?_
 simp only[List.mem_cons,List.not_mem_nil,or_false]at hq
 rcases hq with rfl|rfl|rfl|rfl
 ·exact bH
 ·exact DZ
 ·exact RF
 ·exact RD
theorem mY:fX 405928799:=sN.prm
theorem qS:fX 5:=aV 5 2 (by decide) (by decide) (by kernel_rfl)
theorem zT:fX 7:=aV 7 2 (by decide) (by decide) (by kernel_rfl)
theorem xJ:fX 19:=aV 19 4 (by decide) (by decide) (by kernel_rfl)
theorem Hn:fX 37:=aV 37 6 (by decide) (by decide) (by kernel_rfl)
theorem YN:fX 233:=aV 233 15 (by decide) (by decide) (by kernel_rfl)
theorem zO:Root 327599 19:=by
 refine bZ (l:=[2,19,37,233]) (by kernel_rfl) fun q hq => ?_
 simp only[List.mem_cons,List.not_mem_nil,or_false]at hq
 rcases hq with rfl|rfl|rfl|rfl
 ·exact bH
 ·exact xJ
 ·exact Hn
 ·exact YN
theorem DW:fX 327599:=zO.prm
theorem pT:Root 11465965001 3:=by
 refine bZ (l:=[2,2,2,5,5,5,5,7,327599]) (by kernel_rfl) fun q hq => ?_
 simp only[List.mem_cons,List.not_mem_nil,or_false]at hq
 rcases hq with rfl|rfl|rfl|rfl|rfl|rfl|rfl|rfl|rfl
 ·exact bH
 ·exact bH
 ·exact bH
 ·exact qS
 ·exact qS
 ·exact qS
 ·exact qS
 ·exact zT
 ·exact DW
theorem rT:fX 11465965001:=pT.prm
theorem YM:fX 271:=aV 271 16 (by decide) (by decide) (by kernel_rfl)
theorem xB:Root 1853641 17:=by
 refine bZ (l:=[2,2,2,3,3,5,19,271]) (by kernel_rfl) fun q hq => ?_
 simp only[List.mem_cons,List.not_mem_nil,or_false]at hq
 rcases hq with rfl|rfl|rfl|rfl|rfl|rfl|rfl|rfl
 ·exact bH
 ·exact bH
 ·exact bH
 ·exact iG
 ·exact iG
 ·exact qS
 ·exact xJ
 ·exact YM
theorem zV:fX 1853641:=xB.prm
theorem Hp:fX 17:=aV 17 4 (by decide) (by decide) (by kernel_rfl)
theorem YO:fX 109:=aV 109 10 (by decide) (by decide) (by kernel_rfl)
theorem RJ:fX 1231:=aV 1231 35 (by decide) (by decide) (by kernel_rfl)
theorem xA:Root 4562087 5:=by
 refine bZ (l:=[2,17,109,1231]) (by kernel_rfl) fun q hq => ?_
 simp only[List.mem_cons,List.not_mem_nil,or_false]at hq
 rcases hq with rfl|rfl|rfl|rfl
 ·exact bH
 ·exact Hp
 ·exact YO
 ·exact RJ
theorem zU:fX 4562087:=xA.prm
theorem Hi:fX 73:=aV 73 8 (by decide) (by decide) (by kernel_rfl)
theorem Hg:fX 89:=aV 89 9 (by decide) (by decide) (by kernel_rfl)
theorem LT:fX 13327:=aV 13327 115 (by decide) (by decide) (by kernel_rfl)
theorem sO:Root 173171039 13:=by
 refine bZ (l:=[2,73,89,13327]) (by kernel_rfl) fun q hq => ?_
 simp only[List.mem_cons,List.not_mem_nil,or_false]at hq
 rcases hq with rfl|rfl|rfl|rfl
 ·exact bH
 ·exact Hi
 ·exact Hg
 ·exact LT
theorem uO:fX 173171039:=sO.prm
theorem Hm:fX 41:=aV 41 6 (by decide) (by decide) (by kernel_rfl)
theorem YF:fX 911:=aV 911 30 (by decide) (by decide) (by kernel_rfl)
theorem RG:fX 3557:=aV 3557 59 (by decide) (by decide) (by kernel_rfl)
theorem rN:Root 1263766531 10:=by
 refine bZ (l:=[2,3,5,13,911,3557]) (by kernel_rfl) fun q hq => ?_
 simp only[List.mem_cons,List.not_mem_nil,or_false]at hq
 rcases hq with rfl|rfl|rfl|rfl|rfl|rfl
 ·exact bH
 ·exact iG
 ·exact qS
 ·exact DY
 ·exact YF
 ·exact RG
theorem sV:fX 1263766531:=rN.prm
theorem pR:Root 35385462869 2:=by
 refine bZ (l:=[2,2,7,1263766531]) (by kernel_rfl) fun q hq => ?_
 simp only[List.mem_cons,List.not_mem_nil,or_false]at hq
 rcases hq with rfl|rfl|rfl|rfl
 ·exact bH
 ·exact bH
 ·exact zT
 ·exact sV
theorem rQ:fX 35385462869:=pR.prm
theorem kS:Root 2480874801745591 6:=by
 refine bZ (l:=[2,3,3,5,19,41,35385462869]) (by kernel_rfl) fun q hq => ?_
 simp only[List.mem_cons,List.not_mem_nil,or_false]at hq
 rcases hq with rfl|rfl|rfl|rfl|rfl|rfl|rfl
 ·exact bH
 ·exact iG
 ·exact iG
 ·exact qS
 ·exact xJ
 ·exact Hm
 ·exact rQ
theorem lI:fX 2480874801745591:=kS.prm
theorem dZ:Root 13427688667394608761327070753331941386769 17:=by
 refine bZ (l:=[2,2,2,2,3,7,11,1853641,4562087,173171039,2480874801745591]) (by kernel_rfl) fun q hq => ?_
 simp only[List.mem_cons,List.not_mem_nil,or_false]at hq
 rcases hq with rfl|rfl|rfl|rfl|rfl|rfl|rfl|rfl|rfl|rfl|rfl
 ·exact bH
 ·exact bH
 ·exact bH
 ·exact bH
 ·exact iG
 ·exact zT
 ·exact DZ
 ·exact zV
 ·exact zU
 ·exact uO
 ·exact lI
theorem eC:fX 13427688667394608761327070753331941386769:=dZ.prm
theorem Gj:Root 21888242871839275222246405745257275088696311157297823662689037894645226208583 3:=by
 refine bZ (l:=[2,3,3,13,29,67,229,311,983,11003,405928799,11465965001,13427688667394608761327070753331941386769]) (by kernel_rfl) fun q hq => ?_
 simp only[List.mem_cons,List.not_mem_nil,or_false]at hq
 rcases hq with rfl|rfl|rfl|rfl|rfl|rfl|rfl|rfl|rfl|rfl|rfl|rfl|rfl
 ·exact bH
 ·exact iG
 ·exact iG
 ·exact DY
 ·exact RH
 ·exact Hl
 ·exact IN
 ·exact YL
 ·exact IM
 ·exact vE
 ·exact mY
 ·exact rT
 ·exact eC
theorem YJ:fX 449:=aV 449 21 (by decide) (by decide) (by kernel_rfl)
theorem zP:Root 237073 15:=by
 refine bZ (l:=[2,2,2,2,3,11,449]) (by kernel_rfl) fun q hq => ?_
 simp only[List.mem_cons,List.not_mem_nil,or_false]at hq
 rcases hq with rfl|rfl|rfl|rfl|rfl|rfl|rfl
 ·exact bH
 ·exact bH
 ·exact bH
 ·exact bH
 ·exact iG
 ·exact DZ
 ·exact YJ
theorem DX:fX 237073:=zP.prm
theorem YP:fX 107:=aV 107 10 (by decide) (by decide) (by kernel_rfl)
theorem YI:fX 661:=aV 661 25 (by decide) (by decide) (by kernel_rfl)
theorem LR:fX 93001:=aV 93001 304 (by decide) (by decide) (by kernel_rfl)
theorem pS:Root 12048837557 2:=by
 refine bZ (l:=[2,2,7,7,661,93001]) (by kernel_rfl) fun q hq => ?_
 simp only[List.mem_cons,List.not_mem_nil,or_false]at hq
 rcases hq with rfl|rfl|rfl|rfl|rfl|rfl
 ·exact bH
 ·exact bH
 ·exact zT
 ·exact zT
 ·exact YI
 ·exact LR
theorem rR:fX 12048837557:=pS.prm
theorem nG:Root 5156902474397 2:=by
 refine bZ (l:=[2,2,107,12048837557]) (by kernel_rfl) fun q hq => ?_
 simp only[List.mem_cons,List.not_mem_nil,or_false]at hq
 rcases hq with rfl|rfl|rfl|rfl
 ·exact bH
 ·exact bH
 ·exact YP
 ·exact rR
theorem oP:fX 5156902474397:=nG.prm
theorem kT:Root 1670836401704629 2:=by
 refine bZ (l:=[2,2,3,3,3,3,5156902474397]) (by kernel_rfl) fun q hq => ?_
 simp only[List.mem_cons,List.not_mem_nil,or_false]at hq
 rcases hq with rfl|rfl|rfl|rfl|rfl|rfl|rfl
 ·exact bH
 ·exact bH
 ·exact iG
 ·exact iG
 ·exact iG
 ·exact iG
 ·exact oP
theorem lK:fX 1670836401704629:=kT.prm
theorem YH:fX 823:=aV 823 28 (by decide) (by decide) (by kernel_rfl)
theorem LS:fX 41927:=aV 41927 204 (by decide) (by decide) (by kernel_rfl)
theorem xC:Root 1593227 2:=by
 refine bZ (l:=[2,19,41927]) (by kernel_rfl) fun q hq => ?_
 simp only[List.mem_cons,List.not_mem_nil,or_false]at hq
 rcases hq with rfl|rfl|rfl
 ·exact bH
 ·exact xJ
 ·exact LS
theorem zZ:fX 1593227:=xC.prm
theorem Hh:fX 83:=aV 83 9 (by decide) (by decide) (by kernel_rfl)
theorem YK:fX 379:=aV 379 19 (by decide) (by decide) (by kernel_rfl)
theorem zW:fX 1637:=aV 1637 40 (by decide) (by decide) (by kernel_rfl)
theorem YG:fX 853:=aV 853 29 (by decide) (by decide) (by kernel_rfl)
theorem sM:Root 639533339 2:=by
 refine bZ (l:=[2,229,853,1637]) (by kernel_rfl) fun q hq => ?_
 simp only[List.mem_cons,List.not_mem_nil,or_false]at hq
 rcases hq with rfl|rfl|rfl|rfl
 ·exact bH
 ·exact IN
 ·exact YG
 ·exact zW
theorem uN:fX 639533339:=sM.prm
theorem jW:Root 65865678001877903 5:=by
 refine bZ (l:=[2,83,379,1637,639533339]) (by kernel_rfl) fun q hq => ?_
 simp only[List.mem_cons,List.not_mem_nil,or_false]at hq
 rcases hq with rfl|rfl|rfl|rfl|rfl
 ·exact bH
 ·exact Hh
 ·exact YK
 ·exact zW
 ·exact uN
theorem kU:fX 65865678001877903:=jW.prm
theorem fT:Root 13818364434197438864469338081 3:=by
 refine bZ (l:=[2,2,2,2,2,5,823,1593227,65865678001877903]) (by kernel_rfl) fun q hq => ?_
 simp only[List.mem_cons,List.not_mem_nil,or_false]at hq
 rcases hq with rfl|rfl|rfl|rfl|rfl|rfl|rfl|rfl|rfl
 ·exact bH
 ·exact bH
 ·exact bH
 ·exact bH
 ·exact bH
 ·exact qS
 ·exact YH
 ·exact zZ
 ·exact kU
theorem fY:fX 13818364434197438864469338081:=fT.prm
theorem QO:Root 21888242871839275222246405745257275088548364400416034343698204186575808495617 5:=by
 refine bZ (l:=[2,2,2,2,2,2,2,2,2,2,2,2,2,2,2,2,2,2,2,2,2,2,2,2,2,2,2,2,3,3,13,29,983,11003,237073,405928799,1670836401704629,13818364434197438864469338081]) (by kernel_rfl) fun q hq => ?_
 simp only[List.mem_cons,List.not_mem_nil,or_false]at hq
 rcases hq with rfl|rfl|rfl|rfl|rfl|rfl|rfl|rfl|rfl|rfl|rfl|rfl|rfl|rfl|rfl|rfl|rfl|rfl|rfl|rfl|rfl|rfl|rfl|rfl|rfl|rfl|rfl|rfl|rfl|rfl|rfl|rfl|rfl|rfl|rfl|rfl|rfl|rfl
 ·exact bH
 ·exact bH
 ·exact bH
 ·exact bH
 ·exact bH
 ·exact bH
 ·exact bH
 ·exact bH
 ·exact bH
 ·exact bH
 ·exact bH
 ·exact bH
 ·exact bH
 ·exact bH
 ·exact bH
 ·exact bH
 ·exact bH
 ·exact bH
 ·exact bH
 ·exact bH
 ·exact bH
 ·exact bH
 ·exact bH
 ·exact bH
 ·exact bH
 ·exact bH
 ·exact bH
 ·exact bH
 ·exact iG
 ·exact iG
 ·exact DY
 ·exact RH
 ·exact IM
 ·exact vE
 ·exact DX
 ·exact mY
 ·exact lK
 ·exact fY
section
variable {M g:Nat}
theorem AI (a n:Nat):(a%M)^n%M=a^n%M:=(Nat.pow_mod a n M).symm
theorem mO (a b:Nat):a%M*b%M=a*b%M:=by rw[Nat.mul_mod,Nat.mod_mod,←Nat.mul_mod]
theorem qB (a b:Nat):a*(b%M)%M=a*b%M:=by rw[Nat.mul_mod,Nat.mod_mod,←Nat.mul_mod]
theorem FK (hr:Root M g) {a:Nat} (h0:0<a) (h:a<M):a^(M-1)%M=1:=by
 obtain⟨h1,hg,_,hs⟩:=hr;obtain⟨k,hk,rfl⟩:=hs a h0 h;rw[AI,←Nat.pow_mul,Nat.mul_comm,lL h1 hg]
theorem JK (hr:Root M g) {a:Nat} (h2:2≤M) (h0:0<a) (h:a<M):a*(a^(M-2)%M)%M=1:=by
 rw[qB,←Nat.pow_succ',show (M-2).succ=M-1 by omega,FK hr h0 h]
theorem VH (hr:Root M g) {a b c:Nat} (h2:2≤M) (h0:0<a) (h:a<M) (e:a*b%M=a*c%M):b%M=c%M:=by
 have hi:=JK hr h2 h0 h;have key:∀x,a^(M-2)%M*(a*x%M)%M=x%M:=fun x=>by
  rw[qB,←Nat.mul_assoc,Nat.mul_mod,Nat.mul_comm _ a,hi,Nat.one_mul,Nat.mod_mod]
 rw[←key b,e,key c]
theorem yS (hr:Root M g) {a b:Nat} (h2:2≤M) (h0:0<a) (h:a<M) (e:a*b%M=0):b%M=0:=by
 have:=VH hr (c:=0) h2 h0 h (by rw[e,Nat.mul_zero,Nat.zero_mod]);rw[this,Nat.zero_mod]
theorem FZ {x y:Nat} (hxy:y≤x) (e:x*x%M=y*y%M):(x-y)*(x+y)%M=0:=by
 have h:(x-y)*(x+y)=x*x-y*y:=by
  obtain⟨d,rfl⟩:∃d,x=y+d:=⟨x-y,by omega⟩
  rw[show y+d-y=d by omega];have:(y+d)*(y+d)=y*y+d*(y+d+y):=by
   simp only[Nat.add_mul,Nat.mul_add,Nat.mul_comm d y]; omega
  omega
 rw[h];exact Nat.sub_mod_eq_zero_of_mod_eq e
theorem Cw (hr:Root M g) {x y:Nat} (h2:2≤M) (hx:x<M) (hxy:y≤x) (e:x*x%M=y*y%M):x=y∨x+y=M:=by
 have hd:=FZ hxy e
 by_cases h:x=y
 ·exact Or.inl h
 ·right;have:=yS hr h2 (show 0<x-y by omega) (by omega) hd;obtain⟨k,hk⟩:=Nat.dvd_of_mod_eq_zero this;have hk1:k<2:=by
   rcases Nat.lt_or_ge k 2 with q|q
   ·exact q
   ·have:=Nat.mul_le_mul_left M q; omega
  have:k=0∨k=1:=by omega
  rcases this with rfl|rfl<;>omega
theorem QB (hr:Root M g) {x y:Nat} (h2:2≤M) (hx:x<M) (hy:y<M) (e:x*x%M=y*y%M):x=y∨x+y=M:=by
 rcases Nat.le_total y x with h|h
 ·exact Cw hr h2 hx h e
 ·rcases Cw hr h2 hy h e.symm with q|q
  ·exact Or.inl q.symm
  ·exact Or.inr (by omega)
theorem RP (hr:Root M g) {x:Nat} (h2:2≤M) (hx:x<M) (e:x*x%M=1):x=1∨x=M-1:=by
 have:=QB hr (y:=1) h2 hx (by omega) (by rw[e,Nat.mod_eq_of_lt (by omega)]);omega
theorem TE (hr:Root M g) {a:Nat} (h2:2<M) (ho:M%2=1) (h0:0<a) (h:a<M):a^(M/2)%M=1∨a^(M/2)%M=M-1:=by
 refine RP hr (by omega) (Nat.mod_lt _ (by omega)) ?_;rw[←fG,show M/2+M/2=M-1 by omega,FK hr h0 h]
def qC (M a:Nat):Int:=if a=0 then 0 else if a^(M/2)%M=1 then 1 else -1
theorem Fu {M:Nat} (h:2<M):(M-1)*(M-1)%M=1:=by
 obtain⟨k,rfl⟩:∃k,M=k+1:=⟨M-1,by omega⟩
 rw[show k+1-1=k by omega];have:k*k=1+(k+1)*(k-1):=by
  obtain⟨j,rfl⟩:∃j,k=j+1:=⟨k-1,by omega⟩
  rw[show j+1-1=j by omega];simp only[Nat.add_mul,Nat.mul_add]; omega
 rw[this,Nat.add_mul_mod_self_left,Nat.mod_eq_of_lt (by omega)]
theorem mul_ne (hr:Root M g) {a b:Nat} (h2:2≤M) (ha0:0<a) (ha:a<M) (hb0:0<b) (hb:b<M):0<a*b%M:=by
 rcases Nat.eq_zero_or_pos (a*b%M)with h|h
 ·have:=yS hr h2 ha0 ha h;rw[Nat.mod_eq_of_lt hb]at this; omega
 ·exact h
theorem EV (hr:Root M g) {a:Nat} (ho:M%2=1) (h0:0<a) (h:a<M):(a*a%M)^(M/2)%M=1:=by
 have h1:=hr.1;rw[AI,←Nat.pow_two,←Nat.pow_mul,show 2*(M/2)=M-1 by omega,FK hr h0 h]
end
def kp (F:FC) (a:Nat):Nat:=a*F.R%F.M
section
variable {F:FC}
theorem lO (hF:F.Ok) (a:Nat):kp F a<F.M:=Nat.mod_lt _ (by have:=hF.gt; omega)
theorem jJ (hF:F.Ok) (x:Nat):x*F.R*F.Ri%F.M=x%F.M:=by
 rw[Nat.mul_assoc,Nat.mul_mod,hF.ri,Nat.mul_one,Nat.mod_mod]
theorem iJ {M a b c d:Nat} (h:a%M=b%M) (h':c%M=d%M):a*c%M=b*d%M:=by rw[Nat.mul_mod,h,h',←Nat.mul_mod]
theorem mB (M a:Nat):a%M%M=a%M:=Nat.mod_mod _ _
theorem fH (hF:F.Ok) (a b:Nat):kp F a*kp F b*F.Ri%F.M=kp F (a*b%F.M):=by
 have h:kp F a*kp F b*F.Ri%F.M=a*F.R*(b*F.R)*F.Ri%F.M:=iJ (iJ (mB _ _) (mB _ _)) rfl;have e:a*F.R*(b*F.R)=a*b*F.R*F.R:=by rw[Nat.mul_mul_mul_comm,Nat.mul_assoc (a*b)]
 rw[h,e,jJ hF];unfold kp;rw[mO]
theorem JH (hF:F.Ok) (a:Nat):a*aA F.s0 F.s1 F.s2 F.s3*F.Ri%F.M=kp F a:=by
 have h:a*aA F.s0 F.s1 F.s2 F.s3*F.Ri%F.M=a*(F.R*F.R)*F.Ri%F.M:=by rw[hF.sq]; exact iJ (iJ rfl (mB _ _)) rfl
 rw[h,←Nat.mul_assoc,jJ hF];rfl
theorem EW (hF:F.Ok) (a:Nat) (h:a<F.M):kp F a*1*F.Ri%F.M=a:=by
 have h1:kp F a*1*F.Ri%F.M=a*F.R*F.Ri%F.M:=by rw[Nat.mul_one]; exact iJ (mB _ _) rfl
 rw[h1,jJ hF,Nat.mod_eq_of_lt h]
theorem tH (hF:F.Ok) (a b:Nat):kp F a*b*F.Ri%F.M=a*b%F.M:=by
 have h:kp F a*b*F.Ri%F.M=a*F.R*b*F.Ri%F.M:=iJ (iJ (mB _ _) rfl) rfl;rw[h,Nat.mul_right_comm a,jJ hF]
theorem Iu (hF:F.Ok) {a b:Nat} (ha:a<F.M) (hb:b<F.M) (e:kp F a=kp F b):a=b:=by
 rw[←EW hF a ha,e,EW hF b hb]
theorem fU (F:FC) (a:Nat):kp F (a%F.M)=kp F a:=by unfold kp; rw[mO]
theorem qW (F:FC) (a n b:Nat) (h:b=0∨b=1):(b=0→kp F (a^(2*n+b))=kp F (a^n*a^n%F.M))∧(b=1→kp F (a^(2*n+b))=kp F (a^n*a^n%F.M*a%F.M)):=by
 have e:a^(2*n)=a^n*a^n:=by rw[Nat.two_mul,Nat.pow_add]
 refine⟨fun h => ?_,fun h => ?_⟩
 ·subst h; rw[Nat.add_zero,fU,e]
 ·subst h; rw[fU,Nat.pow_succ,e,←fU F (_%_*a),mO,fU]
end
open Go.RowKit
theorem FC.Ok.sqlt {F:FC} (hF:F.Ok):aA F.s0 F.s1 F.s2 F.s3<F.M:=by rw[hF.sq]; exact Nat.mod_lt _ (by have:=hF.gt; omega)
theorem FC.Ok.pos {F:FC} (hF:F.Ok):0<F.M:=by have:=hF.gt; omega
set_option maxHeartbeats 1000000 in
theorem cW (F:FC) (hF:F.Ok) (b a0 a1 a2 a3:Nat) (ha:aZ a0 a1 a2 a3) (w:World) (hk:KIs w b F) :
  Calls prog 101 #[.pointer (some ⟨b,0,none⟩),.agg #[.int .u64 a0,.int .u64 a1,.int .u64 a2,.int .u64 a3]] w (eK (kp F (aA a0 a1 a2 a3)) w):=by
 have HK:=Lib.hid hk;have HF:=Lib.hid hF;have hL:=hk.lt;have hL1:b<w.heap.size+1:=by omega
 have hL2:b<w.heap.size+1+1:=by omega
 have k5:=hk.k5; have k6:=hk.k6; have k7:=hk.k7; have k8:=hk.k8;clear hk hF
 go_enter func101,ntmps101
 go_wp2_with fail
 go_region_with (go_at_call 121; refine (cC F HF.out b a0 a1 a2 a3 F.s0 F.s1 F.s2 F.s3 ha HF.out.oks HF.out.sqlt _ (HK.out.same (by repeat (first|exact Below.refl _ _|refine Below.drew ?_|refine Below.trans ?_ (aN _ _ _)|refine Below.alloc ?_ (by first|(simp; done)|(simp; omega)) _)))).mono ?_; rintro e ws ⟨s0,s1,s2,s3,rfl,hs,hv,hbl⟩; have HVs:=Lib.hid hv; obtain⟨hcs,hfs⟩:=rI hbl; have hzs:w.heap.size+1<ws.heap.size:=by { have:=hbl.size; simp at this; omega }; have HBLs:=Lib.hid hbl; clear hv hbl)
 all_goals (
  go_wp2_with fail;refine bodyPost_ret (v:=.agg #[.int .u64 s0,.int .u64 s1,.int .u64 s2,.int .u64 s3]) (by simp[results,results101,go_sem, *]) rfl ?_;refine⟨_,_,_,_,rfl,hs,HVs.out.trans (JH HF.out _),?_⟩;refine aM (Below.trans ?_ (HBLs.out.mono (by first|(simp; done)|(simp; omega)))) (by omega) _ _ _ _
  repeat (first|exact Below.refl _ _|refine Below.drew ?_|refine Below.trans ?_ (aN _ _ _)|refine Below.alloc ?_ (by first|(simp; done)|(simp; omega)) _)
 )
set_option maxHeartbeats 1000000 in
theorem LX (F:FC) (hF:F.Ok) (b a0 a1 a2 a3:Nat) (ha:aZ a0 a1 a2 a3) (w:World) (hk:KIs w b F) :
  Calls prog 102 #[.pointer (some ⟨b,0,none⟩),.agg #[.int .u64 a0,.int .u64 a1,.int .u64 a2,.int .u64 a3]] w (eK (aA a0 a1 a2 a3*1*F.Ri%F.M) w):=by
 have HK:=Lib.hid hk;have HF:=Lib.hid hF;have hL:=hk.lt;have hL1:b<w.heap.size+1:=by omega
 have hL2:b<w.heap.size+1+1:=by omega
 clear hk hF
 go_enter func102,ntmps102
 go_wp2_with fail;refine (cC F HF.out b a0 a1 a2 a3 1 0 0 0 ha ⟨by omega,by omega,by omega,by omega⟩ (by show 1<_; have:=HF.out.gt; omega) _ (HK.out.same (by repeat (first|exact Below.refl _ _|refine Below.drew ?_|refine Below.trans ?_ (aN _ _ _)|refine Below.alloc ?_ (by first|(simp; done)|(simp; omega)) _)))).mono ?_
 rintro e ws ⟨s0,s1,s2,s3,rfl,hs,hv,hbl⟩; have HVs:=Lib.hid hv; obtain⟨hcs,hfs⟩:=rI hbl; have hzs:w.heap.size+1<ws.heap.size:=by { have:=hbl.size; simp at this; omega }; have HBLs:=Lib.hid hbl; clear hv hbl
 go_wp2_with fail;refine bodyPost_ret (v:=.agg #[.int .u64 s0,.int .u64 s1,.int .u64 s2,.int .u64 s3]) (by simp[results,results102,go_sem, *]) rfl ?_;refine⟨_,_,_,_,rfl,hs,HVs.out,?_⟩;refine aM (Below.trans ?_ (HBLs.out.mono (by first|(simp; done)|(simp; omega)))) (by omega) _ _ _ _
 repeat (first|exact Below.refl _ _|refine Below.drew ?_|refine Below.trans ?_ (aN _ _ _)|refine Below.alloc ?_ (by first|(simp; done)|(simp; omega)) _)
theorem AQ (n:Nat) (hn:n<18446744073709551616) (w:World):Calls prog 64 #[.int .u64 n] w fun e w'=>e=.returned (.agg #[.int .u64 n,.int .u64 0,.int .u64 0,.int .u64 0])∧Below w.heap.size w w':=by
 go_enter func64,ntmps64
 go_wp2_with fail;refine bodyPost_ret (v:=.agg #[.int .u64 n,.int .u64 0,.int .u64 0,.int .u64 0]) (by simp[results,results64,go_sem]) rfl ?_;exact⟨rfl,by repeat (first|exact Below.refl _ _|refine Below.drew ?_|refine Below.alloc ?_ (by first|(simp; done)|(simp; omega)) _|refine Below.setCell ?_ (by simp) _)⟩
set_option maxHeartbeats 1000000 in
theorem vJ (F:FC) (hF:F.Ok) (b:Nat)  (w:World) (hk:KIs w b F) :
  Calls prog 132 #[.pointer (some ⟨b,0,none⟩)] w (eK (kp F 1) w):=by
 have HK:=Lib.hid hk;have HF:=Lib.hid hF;have hL:=hk.lt;have hL1:b<w.heap.size+1:=by omega
 have hL2:b<w.heap.size+1+1:=by omega
 clear hk hF
 go_enter func132,ntmps132
 go_wp2_with fail;refine (AQ 1 (by omega) _).mono ?_
 rintro e w1 ⟨rfl,hb1⟩
 have hz1:w.heap.size<w1.heap.size:=by have:=hb1.size; simp at this; omega
 obtain⟨hc1,hf1⟩:=rI hb1;have HB1:=Lib.hid hb1;have HK1:=Lib.hid ((HK.out.same (by repeat (first|exact Below.refl _ _|refine Below.drew ?_|refine Below.trans ?_ (aN _ _ _)|refine Below.alloc ?_ (by first|(simp; done)|(simp; omega)) _)):KIs (w.alloc _) b F).same hb1);clear hb1;go_wp2_with fail;refine (cW F HF.out b 1 0 0 0 ⟨by omega,by omega,by omega,by omega⟩ _ HK1.out).mono ?_
 rintro e ws ⟨s0,s1,s2,s3,rfl,hs,hv,hbl⟩
 have HVs:=Lib.hid hv;obtain⟨hcs,hfs⟩:=rI hbl;have hzs:w.heap.size<ws.heap.size:=by have:=hbl.size; omega
 have HBLs:=Lib.hid (HB1.out.trans (hbl.mono HB1.out.size));clear hv hbl;go_wp2_with fail;refine bodyPost_ret (v:=.agg #[.int .u64 s0,.int .u64 s1,.int .u64 s2,.int .u64 s3]) (by simp[results,results132,go_sem, *]) rfl ?_;refine⟨_,_,_,_,rfl,hs,HVs.out,?_⟩;refine aM (Below.trans ?_ (HBLs.out.mono (by first|(simp; done)|(simp; omega)))) (by omega) _ _ _ _
 repeat (first|exact Below.refl _ _|refine Below.drew ?_|refine Below.trans ?_ (aN _ _ _)|refine Below.alloc ?_ (by first|(simp; done)|(simp; omega)) _)
set_option maxHeartbeats 1000000 in
theorem uM (F:FC) (hF:F.Ok) (b a0 a1 a2 a3 b0 b1 b2 b3:Nat) (ha:aZ a0 a1 a2 a3) (hb:aZ b0 b1 b2 b3) (lb:aA b0 b1 b2 b3<F.M) (w:World) (hk:KIs w b F) :
  Calls prog 131 #[.pointer (some ⟨b,0,none⟩),.agg #[.int .u64 a0,.int .u64 a1,.int .u64 a2,.int .u64 a3],.agg #[.int .u64 b0,.int .u64 b1,.int .u64 b2,.int .u64 b3]] w (eK (aA a0 a1 a2 a3*aA b0 b1 b2 b3%F.M) w):=by
 have HK:=Lib.hid hk;have HF:=Lib.hid hF;have hL:=hk.lt;have hL1:b<w.heap.size+1:=by omega
 have hL2:b<w.heap.size+1+1:=by omega
 have HLB:=Lib.hid lb;clear lb;clear hk hF
 go_enter func131,ntmps131
 go_wp2_with fail
 go_region_with (first|(go_at_call 101; refine (cW F HF.out b a0 a1 a2 a3 ha _ (HK.out.same (by repeat (first|exact Below.refl _ _|refine Below.drew ?_|refine Below.trans ?_ (aN _ _ _)|refine Below.alloc ?_ (by first|(simp; done)|(simp; omega)) _)))).mono ?_; rintro e ws ⟨s0,s1,s2,s3,rfl,hs,hv,hbl⟩; have HVs:=Lib.hid hv; obtain⟨hcs,hfs⟩:=rI hbl; have hzs:w.heap.size+1+1<ws.heap.size:=by { have:=hbl.size; simp at this; omega }; have HBLs:=Lib.hid hbl; clear hv hbl; have HKs:=Lib.hid (KIs.same (F:=F) (b:=b) (HK.out.same (by repeat (first|exact Below.refl _ _|refine Below.drew ?_|refine Below.trans ?_ (aN _ _ _)|refine Below.alloc ?_ (by first|(simp; done)|(simp; omega)) _))) HBLs.out))|(go_at_call 121; refine (cC F HF.out b s0 s1 s2 s3 b0 b1 b2 b3 hs hb HLB.out _ HKs.out).mono ?_; rintro e wp ⟨p0,p1,p2,p3,rfl,hp,hv,hbl⟩; have HVp:=Lib.hid hv; obtain⟨hcp,hfp⟩:=rI hbl; have hzp:w.heap.size+1+1<wp.heap.size:=by { have:=hbl.size; omega }; have HBLp:=Lib.hid (HBLs.out.trans (hbl.mono HBLs.out.size)); clear hv hbl))
 all_goals (
  go_wp2_with fail;refine bodyPost_ret (v:=.agg #[.int .u64 p0,.int .u64 p1,.int .u64 p2,.int .u64 p3]) (by simp[results,results131,go_sem, *]) rfl ?_;refine⟨_,_,_,_,rfl,hp,HVp.out.trans (by rw[HVs.out]; exact tH HF.out _ _),?_⟩;refine aM (Below.trans ?_ (HBLp.out.mono (by first|(simp; done)|(simp; omega)))) (by omega) _ _ _ _
  repeat (first|exact Below.refl _ _|refine Below.drew ?_|refine Below.trans ?_ (aN _ _ _)|refine Below.alloc ?_ (by first|(simp; done)|(simp; omega)) _)
 )
theorem Qu {lo hi p:Nat} (hl:lo<18446744073709551616) (hh:hi<18446744073709551616) (h1:Hid (hi<2^p)) (h2:Hid (∃t,lo=2^p*t)):∃s:Nat,bits .or .u64 (lo:Int) (hi:Int)=(s:Int)∧s<18446744073709551616∧Hid (s=lo+hi):=by
 obtain⟨t,ht⟩:=h2.out;have e:lo ||| hi=lo+hi:=by rw[ht,←Nat.two_pow_add_eq_or_of_lt h1.out]
 refine⟨lo+hi,by rw[bits_or_u64_nat _ _ hl hh,e],?_,Lib.hid rfl⟩;rw[←e]; exact Nat.or_lt_two_pow (n:=64) hl hh
theorem gN {a p:Nat} (ha:a<18446744073709551616) (hp:p≤63):∃lo up:Nat,(a:Int)/2^p=(lo:Int)∧IntKind.u64.wrap ((a:Int)*2^(64-p))=(up:Int) ∧
  lo<18446744073709551616∧up<18446744073709551616∧Hid (∃m,a=lo*2^p+m∧m<2^p∧up*2^p=m*18446744073709551616)∧Hid (lo<2^(64-p))∧Hid (∃t,up=2^(64-p)*t):=by
 have hps:=LU p hp;have hpos:0<2^p:=Nat.two_pow_pos p;refine⟨a/2^p,a%2^p*2^(64-p),?_,?_,Nat.lt_of_le_of_lt (Nat.div_le_self _ _) ha,?_,Lib.hid ⟨a%2^p,?_,Nat.mod_lt _ hpos,?_⟩,Lib.hid ?_,Lib.hid ⟨a%2^p,Nat.mul_comm _ _⟩⟩
 ·rw[Int.natCast_ediv,Int.natCast_pow]; rfl
 ·rw[pK,jR];congr 1;rw[show 18446744073709551616=2^p*2^(64-p) by rw[Nat.mul_comm,hps],Nat.mul_mod_mul_right]
 ·have:=Nat.mul_lt_mul_of_pos_right (Nat.mod_lt a hpos) (Nat.two_pow_pos (64-p));rw[Nat.mul_comm (2^p),hps]at this;exact this
 ·rw[Nat.mul_comm]; exact (Nat.div_add_mod a (2^p)).symm
 ·rw[Nat.mul_assoc,hps]
 ·rw[Nat.div_lt_iff_lt_mul hpos,hps]; exact ha
theorem lY {lo up k:Nat} (hl:lo<18446744073709551616) (hu:up<18446744073709551616) (h1:Hid (lo<2^k)) (h2:Hid (∃t,up=2^k*t)):∃s:Nat,bits .or .u64 (lo:Int) (up:Int)=(s:Int)∧s<18446744073709551616∧Hid (s=lo+up):=by
 obtain⟨t,ht⟩:=h2.out;have e:lo ||| up=lo+up:=by rw[Nat.or_comm,ht,←Nat.two_pow_add_eq_or_of_lt h1.out,Nat.add_comm]
 refine⟨lo+up,by rw[bits_or_u64_nat _ _ hl hu,e],?_,Lib.hid rfl⟩;rw[←e]; exact Nat.or_lt_two_pow (n:=64) hl hu
theorem As {n:Int} (h0:0≤n) (q:Int) (h:n/64=q) (h1:0≤q):∃p:Nat,n%64=(p:Int)∧p≤63∧n.toNat=64*q.toNat+p :=
 ⟨(n%64).toNat,by omega,by omega,by omega⟩
theorem vF (q p:Nat):2^(64*q+p)=18446744073709551616^q*2^p:=by rw[Nat.pow_add,Nat.pow_mul]
theorem sD {r x T m:Nat} (h:r*T+m=x) (hm:m<T):r=x/T:=by
 subst h;rw[Nat.mul_comm,Nat.mul_add_div (by omega),Nat.div_eq_of_lt hm,Nat.add_zero]
def LenIs (n L:Nat):Prop:=n<2^L∧(0<L→2^(L-1)≤n)
theorem LenIs.uniq {n L M:Nat} (h:LenIs n L) (k:LenIs n M):L=M:=by
 rcases Nat.lt_trichotomy L M with c|c|c
 ·have h1:=k.2 (by omega);have h2:=Nat.pow_le_pow_right (show 0<2 by omega) (show L≤M-1 by omega);have:=h.1; omega
 ·exact c
 ·have h1:=h.2 (by omega);have h2:=Nat.pow_le_pow_right (show 0<2 by omega) (show M≤L-1 by omega);have:=k.1; omega
theorem LenIs.zero:LenIs 0 0:=⟨by simp,fun h=>absurd h (by omega)⟩
theorem LenIs.up {n x L k:Nat} (hn:n<2^k) (hx:0<x) (h:LenIs x L):LenIs (n+x*2^k) (k+L):=by
 have hL:0<L:=by
  rcases Nat.eq_zero_or_pos L with e|e
  ·subst e; have:=h.1; simp at this; omega
  ·exact e
 constructor
 ·have:=Nat.mul_le_mul_right (2^k) (show x+1≤2^L from h.1);rw[Nat.add_mul,Nat.one_mul]at this;rw[Nat.pow_add,Nat.mul_comm (2^k)]; omega
 ·intro _;have:=Nat.mul_le_mul_right (2^k) (h.2 hL);rw[show k+L-1=k+(L-1) by omega,Nat.pow_add,Nat.mul_comm (2^k)]; omega
theorem TX {y:Nat} (h0:0<y) (hy:y<18446744073709551616):∃S:Nat,(∀w,Calls prog 118 #[.int .u64 y] w fun e w'=>e=.returned (.int .i64 S)∧w'=w)∧S≤64∧Hid (LenIs y S):=by
 obtain⟨hl,ha,hb,hk⟩:=It h0 hy;refine⟨y.log2+1,fun w => ?_,by omega,Lib.hid ⟨hb,fun _=>ha⟩⟩;have:=Tryz.bits_Len64 (y:Int) w (by omega) (by omega);rw[Int.toNat_natCast,hl]at this;exact this
theorem zK (a0 a1 a2 a3:Nat) (w:World):(Instr.index 27 (.agg #[.int .u64 a0,.int .u64 a1,.int .u64 a2,.int .u64 a3]) (.int .i64 (0:Nat))).run prog w=.ok (.int .u64 (a0:Nat)) w:=by kernel_rfl
theorem zJ (a0 a1 a2 a3:Nat) (w:World):(Instr.index 27 (.agg #[.int .u64 a0,.int .u64 a1,.int .u64 a2,.int .u64 a3]) (.int .i64 (1:Nat))).run prog w=.ok (.int .u64 (a1:Nat)) w:=by kernel_rfl
theorem zI (a0 a1 a2 a3:Nat) (w:World):(Instr.index 27 (.agg #[.int .u64 a0,.int .u64 a1,.int .u64 a2,.int .u64 a3]) (.int .i64 (2:Nat))).run prog w=.ok (.int .u64 (a2:Nat)) w:=by kernel_rfl
theorem zH (a0 a1 a2 a3:Nat) (w:World):(Instr.index 27 (.agg #[.int .u64 a0,.int .u64 a1,.int .u64 a2,.int .u64 a3]) (.int .i64 (3:Nat))).run prog w=.ok (.int .u64 (a3:Nat)) w:=by kernel_rfl
theorem DF (a0 a1 a2 a3 k:Nat) (hk:k<4) (w:World):(Instr.index 27 (.agg #[.int .u64 a0,.int .u64 a1,.int .u64 a2,.int .u64 a3]) (.int .i64 (k:Nat))).run prog w=.ok (.int .u64 (cQ [a0,a1,a2,a3] k:Nat)) w:=by
 match k,hk with
 | 0,_=>exact zK a0 a1 a2 a3 w
 | 1,_=>exact zJ a0 a1 a2 a3 w
 | 2,_=>exact zI a0 a1 a2 a3 w
 | 3,_=>exact zH a0 a1 a2 a3 w
def Cp (A:Nat) (w:World) (e:Ending) (w':World):Prop :=
 ∃L:Nat,e=.returned (.int .i64 L)∧L≤256∧LenIs A L∧Below w.heap.size w w'
theorem SU {A:Nat→Nat} {k L S:Nat} (hA:∀j,j<k→A j<18446744073709551616) (h0:0<A k) (hS:LenIs (A k) S):LenIs (cD 18446744073709551616 A (k+1)) (64*k+S):=by
 have h1:=sI 18446744073709551616 A (by omega) k hA;rw[show 18446744073709551616^k=2^(64*k) by rw[Nat.pow_mul]]at h1;rw[bD,show 18446744073709551616^k=2^(64*k) by rw[Nat.pow_mul]];exact LenIs.up h1 h0 hS
theorem vM (a0 a1 a2 a3:Nat) (ha:aZ a0 a1 a2 a3) (w:World) :
  Calls prog 85 #[.agg #[.int .u64 a0,.int .u64 a1,.int .u64 a2,.int .u64 a3]] w (Cp (aA a0 a1 a2 a3) w):=by
 have lA:∀k,cQ [a0,a1,a2,a3] k<18446744073709551616:=fun k=>by
  obtain⟨h0,h1,h2,h3⟩:=ha;unfold cQ
  match k with
  | 0=>exact h0
  | 1=>exact h1
  | 2=>exact h2
  | 3=>exact h3
  | k+4=>simp
 obtain⟨A,eA⟩:∃A,A=cQ [a0,a1,a2,a3]:=⟨_,rfl⟩
 have hix:=fun k hk w=>DF a0 a1 a2 a3 k hk w
 rw[←eA]at lA;simp only[←eA]at hix;have hv:aA a0 a1 a2 a3=cD 18446744073709551616 A 4:=by rw[←jE,eA]; rfl
 have HV:=Lib.hid hv; have HlA:=Lib.hid lA; have Hix:=Lib.hid hix;clear eA lA hv hix
 go_enter func85,ntmps85
 go_wp2_with fail
 go_loop [3,7] (fun l i=>∃k L:Nat,k≤4∧i=.int .i64 k∧l=.int .i64 L∧L≤64*k∧Hid (LenIs (cD 18446744073709551616 A k) L)) (fun _ i=>4-(intOf i).toNat)
 case atStart=>exact⟨0,0,by omega,rfl,rfl,by omega,Lib.hid LenIs.zero⟩
 case round =>
  obtain⟨k,L,hk,rfl,rfl,hL,hl⟩:=hrel
  by_cases hlt:k<4
  ·obtain⟨x,ex⟩:∃x,x=A k:=⟨_,rfl⟩
   have hx:=Hix.out k hlt;rw[←ex]at hx;have bx:x<18446744073709551616:=by rw[ex]; exact HlA.out k
   rcases Nat.eq_zero_or_pos x with h0|h0
   ·have t0:((x:Int) != 0)=false:=by simp[h0]
    have HN:Hid (LenIs (cD 18446744073709551616 A (k+1)) L):=Lib.hid (by rw[bD,←ex,h0,Nat.zero_mul,Nat.add_zero]; exact hl.out);clear h0 ex;go_wp2_with fail
    go_round
    case rel=>exact⟨k+1,L,by omega,by go_num,rfl,by omega,HN⟩
    case measure=>simp[intOf]; omega
   ·have t0:((x:Int) != 0)=true:=by simp; omega
    obtain⟨S,rS,bS,hS⟩:=TX h0 bx;have HN:Hid (LenIs (cD 18446744073709551616 A (k+1)) (64*k+S)):=Lib.hid (SU (L:=L) (fun j _=>HlA.out j) (by omega) (by rw[←ex]; exact hS.out));clear h0 ex;go_wp2_with fail;refine (rS _).mono ?_
    rintro e w' ⟨rfl,rfl⟩
    go_wp2_with fail
    go_round
    case rel=>exact⟨k+1,64*k+S,by omega,by go_num,by go_num,by omega,HN⟩
    case measure=>simp[intOf]; omega
  ·obtain rfl:k=4:=by omega
   go_wp2_with fail;go_ret;exact⟨L,rfl,by omega,by rw[HV.out]; exact hl.out,(Below.refl _ _).alloc (Nat.le_refl _) _⟩
def cS (A i:Nat):Nat:=A/2^i%2
theorem iK (A i:Nat):cS A i=0∨cS A i=1:=by unfold cS; omega
theorem pO (R:Nat) (P:Nat→Nat) (n:Nat):cD R P (n+1)=P 0+R*cD R (fun k=>P (1+k)) n:=by
 have:=jG R P 1 n;rw[Nat.add_comm n 1,this];simp[cD]
theorem PD (P:Nat→Nat) (hP:∀k,P k<18446744073709551616) (n j k:Nat) (hj:j<n) (hk:k<64):cS (cD 18446744073709551616 P n) (64*j+k)=P j/2^k%2:=by
 obtain⟨m,rfl⟩:∃m,n=j+(m+1):=⟨n-j-1,by omega⟩
 have h1:=jG 18446744073709551616 P j (m+1);have h2:=pO 18446744073709551616 (fun k=>P (j+k)) m;have h3:=sI 18446744073709551616 P (by omega) j (fun k _=>hP k);unfold cS;rw[h1,h2,vF,←Nat.div_div_eq_div_mul,Nat.add_mul_div_left _ _ (by exact Nat.pow_pos (by omega)),Nat.div_eq_of_lt h3,Nat.zero_add];have e:18446744073709551616=2^k*(2*2^(63-k)):=by
  rw[←Nat.pow_succ',←Nat.pow_add,show k+(63-k).succ=64 by omega]
 show (P j+18446744073709551616*_)/2^k%2=_;generalize cD 18446744073709551616 (fun k=>P (j+(1+k))) m=H;rw[show 18446744073709551616*H=2^k*(2*2^(63-k))*H by rw[←e],Nat.mul_assoc,Nat.add_mul_div_left _ _ (by exact Nat.pow_pos (by omega)),Nat.mul_assoc,Nat.add_mul_mod_self_left]
theorem OA {x k:Nat} (h:x/2^k%2=0):∃t l,x=2^(k+1)*t+l∧l<2^k:=by
 refine⟨x/2^k/2,x%2^k,?_,Nat.mod_lt _ (Nat.pow_pos (by omega))⟩;have h1:=Nat.div_add_mod x (2^k);have h2:x/2^k=2*(x/2^k/2):=by omega
 rw[Nat.pow_succ,Nat.mul_assoc,←h2,h1]
theorem RT {x k:Nat} (h:x/2^k%2=0):x ||| 2^k=x+2^k:=by
 obtain⟨t,l,rfl,hl⟩:=OA h;have h1:l<2^(k+1):=by rw[Nat.pow_succ]; omega
 have h2:2^k+l<2^(k+1):=by rw[Nat.pow_succ]; omega
 have e1:=Nat.two_pow_add_eq_or_of_lt hl 1;have e2:=Nat.two_pow_add_eq_or_of_lt h1 t;have e3:=Nat.two_pow_add_eq_or_of_lt h2 t;rw[Nat.mul_one]at e1;rw[e2,Nat.or_assoc,Nat.or_comm l,←e1,←e3];omega
theorem VN {x k:Nat} (hx:x<18446744073709551616) (hk:k<64) (h:x/2^k%2=0):x+2^k<18446744073709551616:=by
 have hk':2^k<2^64:=Nat.pow_lt_pow_right (by omega) hk;rw[←RT h];have:=Nat.or_lt_two_pow (n:=64) (x:=x) (y:=2^k) (by simpa using hx) hk';simpa using this
theorem JT {i:Nat} (h:i<256):∃j k:Nat,(i:Int)/64=(j:Int)∧(i:Int)%64=(k:Int)∧j<4∧k<64∧Hid (i=64*j+k) :=
 ⟨i/64,i%64,by omega,by omega,by omega,by omega,Lib.hid (by omega)⟩
theorem OL (x:Nat) (hx:x<18446744073709551616):bits .and .u64 (x:Int) 1=((x%2:Nat):Int):=by
 rw[show (1:Int)=((1:Nat):Int)from rfl,bits_and_u64_nat _ _ hx (by omega),Nat.and_one_is_mod]
theorem FO {x k b:Nat} (hx:x<18446744073709551616) (hb:x/2^k%2=b):∃s:Nat,(x:Int)/2^k=(s:Int)∧bits .and .u64 (s:Int) 1=(b:Int)∧s<18446744073709551616:=by
 have hs:x/2^k<18446744073709551616:=Nat.lt_of_le_of_lt (Nat.div_le_self _ _) hx;exact⟨x/2^k,by rw[Int.natCast_ediv,Int.natCast_pow]; rfl,by rw[OL _ hs,hb],hs⟩
theorem Kd {x k:Nat} (hx:x<18446744073709551616) (hk:k<64) (h:x/2^k%2=0):∃t s:Nat,(2:Int)^k=(t:Int)∧bits .or .u64 (x:Int) (t:Int)=(s:Int)∧t<18446744073709551616∧s<18446744073709551616∧Hid (s=x+2^k):=by
 have hk':2^k<2^64:=Nat.pow_lt_pow_right (by omega) hk;have hk2:2^k<18446744073709551616:=by simpa using hk'
 exact⟨2^k,x+2^k,by rw[Int.natCast_pow]; rfl,by rw[bits_or_u64_nat _ _ hx hk2,RT h],hk2,VN hx hk h,Lib.hid rfl⟩
theorem yX {P:Nat→Nat} {j k n:Nat} (hj:j<n):cD 18446744073709551616 (cV P j (P j+2^k)) n=cD 18446744073709551616 P n+2^(64*j+k):=by
 have h:=oE 18446744073709551616 P j (P j+2^k) n hj;rw[Nat.add_mul]at h;rw[vF,Nat.mul_comm (18446744073709551616^j)];omega
theorem uB (A i:Nat):A/2^i=2*(A/2^(i+1))+cS A i:=by
 unfold cS;rw[Nat.pow_succ,←Nat.div_div_eq_div_mul];omega
def jB (T i:Nat):Nat:=T%2^i
theorem GP (T i:Nat):jB T (i+1)=jB T i+cS T i*2^i:=by
 unfold jB cS;rw[Nat.pow_succ,Nat.mod_mul,Nat.mul_comm]
theorem OB (T i:Nat):cS (jB T i) i=0:=by
 unfold jB cS;rw[Nat.div_eq_of_lt (Nat.mod_lt _ (Nat.pow_pos (by omega)))]
theorem Cb (A n i:Nat):cS (A/2^n) i=cS A (i+n):=by
 unfold cS;rw[Nat.div_div_eq_div_mul,←Nat.pow_add,Nat.add_comm n]
def KU (b:Nat) (w:World) (e:Ending) (w':World):Prop:=e=.returned (.int .i64 b)∧Below w.heap.size w w'
theorem iZ {a0 a1 a2 a3:Nat} (ha:aZ a0 a1 a2 a3) (k:Nat):cQ [a0,a1,a2,a3] k<18446744073709551616:=by
 obtain⟨h0,h1,h2,h3⟩:=ha;unfold cQ
 match k with
 | 0=>exact h0
 | 1=>exact h1
 | 2=>exact h2
 | 3=>exact h3
 | k+4=>simp
theorem oD (a0 a1 a2 a3:Nat):aA a0 a1 a2 a3=cD 18446744073709551616 (cQ [a0,a1,a2,a3]) 4:=by rw[←jE]; rfl
theorem yN {a0 a1 a2 a3 i j k:Nat} (ha:aZ a0 a1 a2 a3) (hj:j<4) (hk:k<64) (e:i=64*j+k):cQ [a0,a1,a2,a3] j/2^k%2=cS (aA a0 a1 a2 a3) i:=by
 rw[oD,e,PD _ (iZ ha) 4 j k hj hk]
theorem oU (w:World) (t:TypeId) (a0 a1 a2 a3 j:Nat) (hj:j<4):(w.alloc (.cells #[.int .u64 a0,.int .u64 a1,.int .u64 a2,.int .u64 a3] t)).cell? ⟨w.heap.size,j,none⟩=some (.int .u64 (cQ [a0,a1,a2,a3] j:Nat)) :=
 (RowIs.mk w t [a0,a1,a2,a3] w.heap.size rfl).cell hj
theorem pW (a0 a1 a2 a3 i:Nat) (ha:aZ a0 a1 a2 a3) (hi:i<256) (w:World) :
  Calls prog 95 #[.agg #[.int .u64 a0,.int .u64 a1,.int .u64 a2,.int .u64 a3],.int .i64 i] w (KU (cS (aA a0 a1 a2 a3) i) w):=by
 obtain⟨j,k,q,r,hj,hk,e⟩:=JT hi;have hc:=oU w 27 a0 a1 a2 a3 j hj;have hx:=iZ ha j;obtain⟨s,e1,e2,hs⟩:=FO hx (yN ha hj hk e.out);have hb:=iK (aA a0 a1 a2 a3) i;generalize cS (aA a0 a1 a2 a3) i=b at *;generalize cQ [a0,a1,a2,a3] j=x at *;have hb':b≤1:=by omega
 clear hb e;have t0:decide ((i:Int)<0)=false:=decide_eq_false (by omega);have t1:decide ((255:Int)<(i:Int))=false:=decide_eq_false (by omega)
 go_enter func95,ntmps95
 go_wp2_with fail;go_ret;exact⟨rfl,(Below.refl _ _).alloc (Nat.le_refl _) _⟩
theorem Lo (a0 a1 a2 a3 i:Nat) (ha:aZ a0 a1 a2 a3) (hi:i<256) (w:World) :
  Calls prog 133 #[.agg #[.int .u64 a0,.int .u64 a1,.int .u64 a2,.int .u64 a3],.int .i64 i] w (KU (cS (aA a0 a1 a2 a3) i) w):=by
 obtain⟨j,k,q,r,hj,hk,e⟩:=JT hi;have hc:=oU w 27 a0 a1 a2 a3 j hj;have hx:=iZ ha j;obtain⟨s,e1,e2,hs⟩:=FO hx (yN ha hj hk e.out);have hb:=iK (aA a0 a1 a2 a3) i;generalize cS (aA a0 a1 a2 a3) i=b at *;generalize cQ [a0,a1,a2,a3] j=x at *;have hb':b≤1:=by omega
 clear hb e;have t0:decide ((i:Int)<0)=false:=decide_eq_false (by omega);have t1:decide ((256:Int)≤(i:Int))=false:=decide_eq_false (by omega)
 go_enter func133,ntmps133
 go_wp2_with fail;go_ret;exact⟨rfl,(Below.refl _ _).alloc (Nat.le_refl _) _⟩
theorem Mem.row {w wr:World} {rs:List (Nat×Nat×Nat×Nat×Nat)} (h:Mem w wr rs) {b c0 c1 c2 c3:Nat} (hm:(b,c0,c1,c2,c3)∈rs):Row4 wr b c0 c1 c2 c3:=(h.2 _ hm).2
theorem Mem.lt {w wr:World} {rs:List (Nat×Nat×Nat×Nat×Nat)} (h:Mem w wr rs) {b c0 c1 c2 c3:Nat} (hm:(b,c0,c1,c2,c3)∈rs):b<wr.heap.size:=(h.2 _ hm).1
theorem AA {N k L:Nat} (hk:k<L):N/2^(L-(k+1))=2*(N/2^(L-k))+cS N (L-1-k):=by
 have:=uB N (L-1-k);rw[show L-1-k+1=L-k by omega]at this;rw[show L-(k+1)=L-1-k by omega,this]
set_option maxHeartbeats 4000000 in
theorem fF (F:FC) (hF:F.Ok) (A b a0 a1 a2 a3 n0 n1 n2 n3:Nat) (ha:aZ a0 a1 a2 a3) (hn:aZ n0 n1 n2 n3) (hA:aA a0 a1 a2 a3=kp F A) (w:World) (hk:KIs w b F) :
  Calls prog 120 #[.pointer (some ⟨b,0,none⟩),.agg #[.int .u64 a0,.int .u64 a1,.int .u64 a2,.int .u64 a3],.agg #[.int .u64 n0,.int .u64 n1,.int .u64 n2,.int .u64 n3]] w (eK (kp F (A^aA n0 n1 n2 n3)) w):=by
 have HK:=Lib.hid hk;have HF:=Lib.hid hF;have HA:=Lib.hid hA;have la:aA a0 a1 a2 a3<F.M:=by rw[hA]; exact lO hF _
 have hL:=hk.lt;have HLA:=Lib.hid la;clear hk hF hA la
 go_enter func120,ntmps120
 go_wp2_with fail;have M0:=((((Mem.nil w).new w.heap.size a0 a1 a2 a3 85 rfl).new (w.heap.size+1) n0 n1 n2 n3 27 (by simp)).new (w.heap.size+1+1) 0 0 0 0 85 (by simp));refine (vJ F HF.out b _ (HK.out.same M0.1)).mono ?_
 rintro e w1 ⟨s0,s1,s2,s3,rfl,hs,hv,hbl⟩
 have M1:=M0.on hbl;have HV1:=Lib.hid hv;have hz1:w.heap.size+1+1<w1.heap.size:=M1.lt (c0:=0) (c1:=0) (c2:=0) (c3:=0) (by simp);have R1:=M1.row (b:=w.heap.size+1) (c0:=n0) (c1:=n1) (c2:=n2) (c3:=n3) (by simp);have x0:=R1.c0; have x1:=R1.c1; have x2:=R1.c2; have x3:=R1.c3;have lt1:w.heap.size+1<w1.heap.size:=by omega
 have M2:=Lib.hid (M1.new w1.heap.size s0 s1 s2 s3 85 rfl);clear hbl hv R1 M0 M1;go_wp2_with fail;refine (vM n0 n1 n2 n3 hn _).mono ?_
 rintro e w2 ⟨L,rfl,hL256,hLen,hbl⟩
 have HLen:=Lib.hid hLen;have M3:=Lib.hid (M2.out.on hbl);have hz2:w1.heap.size<w2.heap.size:=by have:=hbl.size; simp at this; omega
 clear hbl hLen x0 x1 x2 x3;go_wp2_with fail
 go_loopw [15] (fun i wr=>∃k r0 r1 r2 r3:Nat,k≤L∧i=.int .i64 k∧aZ r0 r1 r2 r3∧Hid (aA r0 r1 r2 r3=kp F (A^(aA n0 n1 n2 n3/2^(L-k))))∧Hid (Mem w wr [(w1.heap.size,r0,r1,r2,r3),(w.heap.size+1+1,0,0,0,0),(w.heap.size+1,n0,n1,n2,n3),(w.heap.size,a0,a1,a2,a3)])) (fun i _=>L-(intOf i).toNat)
 case atStart =>
  refine⟨0,s0,s1,s2,s3,Nat.zero_le _,rfl,hs,Lib.hid ?_,M3⟩;rw[HV1.out,Nat.sub_zero,Nat.div_eq_of_lt HLen.out.1,Nat.pow_zero]
 case round =>
  obtain⟨k,r0,r1,r2,r3,hkL,rfl,hr,HV,HM⟩:=hrel;have hrl:aA r0 r1 r2 r3<F.M:=by rw[HV.out]; exact lO HF.out _
  by_cases hlt:k<L
  ·have Rr:=HM.out.row (b:=w1.heap.size) (c0:=r0) (c1:=r1) (c2:=r2) (c3:=r3) (by simp);have x0:=Rr.c0; have x1:=Rr.c1; have x2:=Rr.c2; have x3:=Rr.c3;have ltr:=HM.out.lt (b:=w1.heap.size) (c0:=r0) (c1:=r1) (c2:=r2) (c3:=r3) (by simp);have Hrl:=Lib.hid hrl;clear Rr hrl;go_wp2_with fail;refine (cC F HF.out b r0 r1 r2 r3 r0 r1 r2 r3 hr hr Hrl.out _ (HK.out.same HM.out.1)).mono ?_
   rintro e w3 ⟨p0,p1,p2,p3,rfl,hp,hv,hbl⟩
   have hv':aA p0 p1 p2 p3=kp F (A^(aA n0 n1 n2 n3/2^(L-k))*A^(aA n0 n1 n2 n3/2^(L-k))%F.M):=by rw[hv,HV.out,fH HF.out]
   have HP:=Lib.hid hv';have M4:=HM.out.on hbl;have lt4:=M4.lt (b:=w1.heap.size) (c0:=r0) (c1:=r1) (c2:=r2) (c3:=r3) (by simp);have Rr:=M4.row (b:=w1.heap.size) (c0:=r0) (c1:=r1) (c2:=r2) (c3:=r3) (by simp);have Rn:=M4.row (b:=w.heap.size+1) (c0:=n0) (c1:=n1) (c2:=n2) (c3:=n3) (by simp);have Ra:=M4.row (b:=w.heap.size) (c0:=a0) (c1:=a1) (c2:=a2) (c3:=a3) (by simp);have M5:=Lib.hid (M4.put p0 p1 p2 p3 (by omega) (by intro r hr; simp at hr; rcases hr with rfl|rfl|rfl<;>simp<;>omega));clear x0 x1 x2 x3 hv hv' hbl M4;have x0:=Rr.c0; have x1:=Rr.c1; have x2:=Rr.c2; have x3:=Rr.c3; have xf:=Rr.fr;have y0:=Rn.c0; have y1:=Rn.c1; have y2:=Rn.c2; have y3:=Rn.c3;have ne1:¬w.heap.size+1=w1.heap.size:=by omega
   have ne1':¬w1.heap.size=w.heap.size+1:=by omega
   clear Rr Rn Ra;obtain⟨L1,e1,hL1⟩:∃L1:Nat,(L:Int)-1=(L1:Int)∧L1+1=L:=⟨L-1,by omega,by omega⟩
   obtain⟨j,e2,hj⟩:∃j:Nat,(L1:Int)-(k:Int)=(j:Int)∧j+k=L1:=⟨L1-k,by omega,by omega⟩
   have hj256:j<256:=by omega
   have hjk:j=L-1-k:=by omega
   have HJ:=Lib.hid hjk;clear hjk;go_wp2_with fail;refine (Lo n0 n1 n2 n3 j hn hj256 _).mono ?_
   rintro e w4 ⟨he,hbl⟩
   have M5':=M5.out;unfold set4 at M5';have M6:=M5'.on hbl;clear hbl M5' x0 x1 x2 x3 xf y0 y1 y2 y3;have lt6:=M6.lt (b:=w1.heap.size) (c0:=p0) (c1:=p1) (c2:=p2) (c3:=p3) (by simp)
   rcases iK (aA n0 n1 n2 n3) j with hb|hb
   ·rw[hb]at he;subst he;have HS:=Lib.hid (show aA p0 p1 p2 p3=kp F (A^(aA n0 n1 n2 n3/2^(L-(k+1)))) by
     rw[HP.out,AA hlt,←HJ.out,hb]; exact ((qW F A _ 0 (Or.inl rfl)).1 rfl).symm)
    have M7:=Lib.hid M6;clear hb M6;go_wp2_with fail
    go_roundw
    case rel=>exact⟨k+1,p0,p1,p2,p3,by omega,by go_num,hp,HS,M7⟩
    case measure=>simp[intOf]; omega
   ·rw[hb]at he;subst he;have Rr:=M6.row (b:=w1.heap.size) (c0:=p0) (c1:=p1) (c2:=p2) (c3:=p3) (by simp);have Ra:=M6.row (b:=w.heap.size) (c0:=a0) (c1:=a1) (c2:=a2) (c3:=a3) (by simp);have x0:=Rr.c0; have x1:=Rr.c1; have x2:=Rr.c2; have x3:=Rr.c3;have z0:=Ra.c0; have z1:=Ra.c1; have z2:=Ra.c2; have z3:=Ra.c3;have HB:=Lib.hid hb;have M7:=Lib.hid M6;clear hb M6 Rr Ra;go_wp2_with fail;refine (cC F HF.out b p0 p1 p2 p3 a0 a1 a2 a3 hp ha HLA.out _ (HK.out.same M7.out.1)).mono ?_
    rintro e w5 ⟨q0,q1,q2,q3,rfl,hq,hv,hbl⟩
    have hv':aA q0 q1 q2 q3=kp F (A^(aA n0 n1 n2 n3/2^(L-(k+1)))):=by
     rw[hv,HP.out,HA.out,fH HF.out,AA hlt,←HJ.out,HB.out]; exact ((qW F A _ 1 (Or.inr rfl)).2 rfl).symm
    have HS:=Lib.hid hv';have M8:=M7.out.on hbl;have lt8:=M8.lt (b:=w1.heap.size) (c0:=p0) (c1:=p1) (c2:=p2) (c3:=p3) (by simp);have Rr:=M8.row (b:=w1.heap.size) (c0:=p0) (c1:=p1) (c2:=p2) (c3:=p3) (by simp);have M9:=Lib.hid (M8.put q0 q1 q2 q3 (by omega) (by intro r hr; simp at hr; rcases hr with rfl|rfl|rfl<;>simp<;>omega));clear x0 x1 x2 x3 z0 z1 z2 z3 hv hv' hbl M8;have x0:=Rr.c0; have x1:=Rr.c1; have x2:=Rr.c2; have x3:=Rr.c3; have xf:=Rr.fr;clear Rr;go_wp2_with fail
    go_roundw
    case rel=>exact⟨k+1,q0,q1,q2,q3,by omega,by go_num,hq,HS,M9⟩
    case measure=>simp[intOf]; omega
  ·obtain rfl:k=L:=by omega
   have Rr:=HM.out.row (b:=w1.heap.size) (c0:=r0) (c1:=r1) (c2:=r2) (c3:=r3) (by simp);have x0:=Rr.c0; have x1:=Rr.c1; have x2:=Rr.c2; have x3:=Rr.c3;have Ro:=HM.out.row (b:=w.heap.size+1+1) (c0:=0) (c1:=0) (c2:=0) (c3:=0) (by simp);have o0:=Ro.c0; have o1:=Ro.c1; have o2:=Ro.c2; have o3:=Ro.c3; have of:=Ro.fr;have ltr:=HM.out.lt (b:=w1.heap.size) (c0:=r0) (c1:=r1) (c2:=r2) (c3:=r3) (by simp);have lto:=HM.out.lt (b:=w.heap.size+1+1) (c0:=0) (c1:=0) (c2:=0) (c3:=0) (by simp);clear Rr Ro hrl;go_wp2_with fail;refine bodyPost_ret (v:=.agg #[.int .u64 r0,.int .u64 r1,.int .u64 r2,.int .u64 r3]) (by simp[results,results120,go_sem, *]) rfl ?_;refine⟨_,_,_,_,rfl,hr,by rw[HV.out,Nat.sub_self,Nat.pow_zero,Nat.div_one],?_⟩;exact aM HM.out.1 (by omega) _ _ _ _
def qL (M A T R S C:Nat):Prop:=1≤T∧R*R%M=A*S%M∧C^2^(T-1)%M=M-1∧S^2^(T-1)%M=1
theorem fK (x k:Nat):x^2^(k+1)=x^2^k*x^2^k:=by rw[Nat.pow_succ,Nat.mul_comm,Nat.two_mul,Nat.pow_add]
theorem yY {M g:Nat} (hr:Root M g) (h2:2<M) {A T o R S C:Nat} (h:qL M A T R S C) (ho:0<o) (hoT:o<T) (h1:S^2^o%M=1) (hmin:S^2^(o-1)%M≠1) :
  qL M A o (R*C^2^(T-o-1)) (S*(C^2^(T-o-1)*C^2^(T-o-1))) (C^2^(T-o-1)*C^2^(T-o-1)):=by
 obtain⟨hT,hR,hC,hS⟩:=h;have hD:(C^2^(T-o-1)*C^2^(T-o-1))^2^(o-1)%M=M-1:=by
  rw[←fK,←Nat.pow_mul,←Nat.pow_add,show T-o-1+1+(o-1)=T-1 by omega]; exact hC
 have hx:S^2^(o-1)%M=M-1:=by
  have hlt:=Nat.mod_lt (S^2^(o-1)) (show 0<M by omega);have e:S^2^(o-1)%M*(S^2^(o-1)%M)%M=1:=by
   rw[←Nat.mul_mod,←fK,show o-1+1=o by omega]; exact h1
  rcases RP hr (by omega) hlt e with q|q
  ·exact absurd q hmin
  ·exact q
 refine⟨ho,?_,hD,?_⟩
 ·generalize C^2^(T-o-1)=D at *;rw[show R*D*(R*D)=R*R*(D*D) by simp only[Nat.mul_comm,Nat.mul_left_comm,Nat.mul_assoc],←Nat.mul_assoc A S];exact iJ hR rfl
 ·rw[Nat.mul_pow,Nat.mul_mod,hD,hx];exact Fu h2
theorem AB {M A H T:Nat} (hM:M=2^T*(2*H+1)+1) (hT:1≤T):(A^(2*H+1))^2^(T-1)=A^(M/2):=by
 rw[←Nat.pow_mul];congr 1;obtain⟨t,rfl⟩:∃t,T=t+1:=⟨T-1,by omega⟩
 rw[hM,Nat.pow_succ,show t+1-1=t by omega,Nat.mul_comm (2^t) 2,Nat.mul_assoc,Nat.mul_comm (2*H+1)];omega
theorem uU {M A H T C:Nat} (hM:M=2^T*(2*H+1)+1) (hT:1≤T) (hC:C^2^(T-1)%M=M-1) (hs:A^(M/2)%M=1) :
  qL M A T (A*A^H) (A*A^H*A^H) C:=by
 have e:A*A^H*A^H=A^(2*H+1):=by rw[Nat.mul_assoc,←Nat.pow_add,←Nat.pow_succ']; congr 1; omega
 refine⟨hT,?_,hC,?_⟩
 ·rw[show A*A^H*(A*A^H)=A*(A*A^H*A^H) by simp only[Nat.mul_comm,Nat.mul_left_comm,Nat.mul_assoc]]
 ·rw[e,AB hM hT,hs]
theorem sL {M H T:Nat} (hM:M=2^T*(2*H+1)+1) (hT:1≤T):M/2^(T+1)=H:=by
 obtain⟨t,rfl⟩:∃t,T=t+1:=⟨T-1,by omega⟩
 have hp:=Nat.two_pow_pos t;rw[hM,Nat.pow_succ 2 (t+1),Nat.pow_succ 2 t];generalize 2^t=x at *;rw[show x*2*(2*H+1)+1=x*2+1+x*2*2*H by rw[Nat.mul_add,←Nat.mul_assoc]; omega];rw[Nat.add_mul_div_left _ _ (by omega),Nat.div_eq_of_lt (by omega),Nat.zero_add]
theorem Hz {M S i j:Nat} (h1:1<M) (hij:i≤j) (h:S^2^i%M=1):S^2^j%M=1:=by
 obtain⟨d,rfl⟩:∃d,j=i+d:=⟨j-i,by omega⟩
 rw[Nat.pow_add,Nat.pow_mul,Nat.pow_mod,h,Nat.one_pow,Nat.mod_eq_of_lt h1]
theorem UA (d:Nat) (a0 a1 a2 a3 b0 b1 b2 b3:Nat) (w:World):(Op.equalIn (d+1+1) 85 (.agg #[.int .u64 a0,.int .u64 a1,.int .u64 a2,.int .u64 a3]) (.agg #[.int .u64 b0,.int .u64 b1,.int .u64 b2,.int .u64 b3])).run prog w=.ok (yC a0 a1 a2 a3 b0 b1 b2 b3) w:=by
 have h0:∀(x y:Int) (w:World),(Op.equalIn (d+1) 22 (.int .u64 x) (.int .u64 y)).run prog w=.ok (x==y) w:=fun x y w=>run_equalIn_int w d 22 .u64 .u64 x y underlying22
 rw[Op.equalIn];simp only[Sem.run_bind,run_underlying underlying85,Result.andThen_ok,Tryz.sizeOf22];simp[Std.Legacy.Range.forIn_eq_forIn_range',Std.Legacy.Range.size,List.range',part,h0,Sem.run_bind,Result.andThen_ok];unfold yC
 by_cases q0:a0=b0<;>by_cases q1:a1=b1<;>by_cases q2:a2=b2<;>by_cases q3:a3=b3<;>simp[q0,q1,q2,q3]<;>omega
theorem jO (d:Nat) (a0 a1 a2 a3 b0 b1 b2 b3:Nat) (w:World):(Op.equalIn (d+1+1) 24 (.agg #[.int .u64 a0,.int .u64 a1,.int .u64 a2,.int .u64 a3]) (.agg #[.int .u64 b0,.int .u64 b1,.int .u64 b2,.int .u64 b3])).run prog w=.ok (yC a0 a1 a2 a3 b0 b1 b2 b3) w:=by
 have h0:∀(x y:Int) (w:World),(Op.equalIn (d+1) 22 (.int .u64 x) (.int .u64 y)).run prog w=.ok (x==y) w:=fun x y w=>run_equalIn_int w d 22 .u64 .u64 x y underlying22
 rw[Op.equalIn];simp only[Sem.run_bind,run_underlying underlying24,Result.andThen_ok,Tryz.sizeOf22];simp[Std.Legacy.Range.forIn_eq_forIn_range',Std.Legacy.Range.size,List.range',part,h0,Sem.run_bind,Result.andThen_ok];unfold yC
 by_cases q0:a0=b0<;>by_cases q1:a1=b1<;>by_cases q2:a2=b2<;>by_cases q3:a3=b3<;>simp[q0,q1,q2,q3]<;>omega
theorem Mem.drew {w wr:World} {rs:List (Nat×Nat×Nat×Nat×Nat)} (h:Mem w wr rs):Mem w wr.drew rs :=
 ⟨h.1.drew,fun r hr=>⟨(h.2 r hr).1,⟨(h.2 r hr).2.c0,(h.2 r hr).2.c1,(h.2 r hr).2.c2,(h.2 r hr).2.c3,(h.2 r hr).2.fr⟩⟩⟩
theorem UC:prog.eqGuardType prog.depth 85=false:=by kernel_rfl
theorem jQ:prog.eqGuardType prog.depth 24=false:=by kernel_rfl
set_option maxHeartbeats 1000000 in
theorem tO (F:FC) (hF:F.Ok) (A b a0 a1 a2 a3:Nat) (ha:aZ a0 a1 a2 a3) (hA:aA a0 a1 a2 a3=kp F A) (w:World) (hk:KIs w b F) :
  Calls prog 124 #[.pointer (some ⟨b,0,none⟩),.agg #[.int .u64 a0,.int .u64 a1,.int .u64 a2,.int .u64 a3]] w (eK (kp F (A^(F.M-2))) w):=by
 have HK:=Lib.hid hk;have HF:=Lib.hid hF;have HA:=Lib.hid hA;have hL:=hk.lt;have hL1:b<w.heap.size+1:=by omega
 have k0:=hk.k0; have k1:=hk.k1; have k2:=hk.k2; have k3:=hk.k3;clear hk hF hA
 go_enter func124,ntmps124
 go_wp2_with fail;have M0:=(((Mem.nil w).new w.heap.size a0 a1 a2 a3 85 rfl).new (w.heap.size+1) 0 0 0 0 85 (by simp));refine (uV F.m0 F.m1 F.m2 F.m3 2 0 0 0 HF.out.okm ⟨by omega,by omega,by omega,by omega⟩ _).mono ?_
 rintro e w1 ⟨n0,n1,n2,n3,c,rfl,hn,hc,hv,hbl⟩
 have hv':aA n0 n1 n2 n3=F.M-2:=by
  have e2:aA 2 0 0 0=2:=rfl;have:=cE hn; have:=HF.out.gt; have:=HF.out.two;rw[e2,show aA F.m0 F.m1 F.m2 F.m3=F.M from rfl]at hv;omega
 have HV:=Lib.hid hv';have M1:=M0.on hbl;have hz1:w.heap.size+1<w1.heap.size:=M1.lt (c0:=0) (c1:=0) (c2:=0) (c3:=0) (by simp);have R1:=M1.row (b:=w.heap.size) (c0:=a0) (c1:=a1) (c2:=a2) (c3:=a3) (by simp);have x0:=R1.c0; have x1:=R1.c1; have x2:=R1.c2; have x3:=R1.c3;have lt1:w.heap.size<w1.heap.size:=by omega
 have M2:=Lib.hid (M1.new w1.heap.size n0 n1 n2 n3 27 rfl);clear hbl hv hv' R1 M0 M1 k0 k1 k2 k3;go_wp2_with fail;refine (fF F HF.out A b a0 a1 a2 a3 n0 n1 n2 n3 ha hn HA.out _ (HK.out.same M2.out.1)).mono ?_
 rintro e w2 ⟨s0,s1,s2,s3,rfl,hs,hv,hbl⟩
 have HVs:=Lib.hid hv;have M3:=Lib.hid (M2.out.on hbl);have Ro:=M3.out.row (b:=w.heap.size+1) (c0:=0) (c1:=0) (c2:=0) (c3:=0) (by simp);have o0:=Ro.c0; have o1:=Ro.c1; have o2:=Ro.c2; have o3:=Ro.c3; have of:=Ro.fr;have lto:=M3.out.lt (b:=w.heap.size+1) (c0:=0) (c1:=0) (c2:=0) (c3:=0) (by simp);clear hbl hv Ro x0 x1 x2 x3;go_wp2_with fail;refine bodyPost_ret (v:=.agg #[.int .u64 s0,.int .u64 s1,.int .u64 s2,.int .u64 s3]) (by simp[results,results124,go_sem, *]) rfl ?_;refine⟨_,_,_,_,rfl,hs,by rw[HVs.out,HV.out],?_⟩;exact aM M3.out.1 (by omega) _ _ _ _
def cR (M A:Nat):Bool:=decide (A≤(0+M-A)%M)
theorem JF (M A:Nat):decide (bF A ((0+M-A)%M)≤0)=cR M A:=by
 unfold cR bF
 by_cases h:A=(0+M-A)%M
 ·rw[if_pos h,decide_eq_true (by omega),decide_eq_true (by omega)]
 ·rw[if_neg h]
  by_cases h2:A<(0+M-A)%M
  ·rw[if_pos h2,decide_eq_true (by omega),decide_eq_true (by omega)]
  ·rw[if_neg h2,decide_eq_false (by omega),decide_eq_false (by omega)]
set_option maxHeartbeats 1000000 in
theorem mZ (F:FC) (hF:F.Ok) (b a0 a1 a2 a3:Nat) (ha:aZ a0 a1 a2 a3) (la:aA a0 a1 a2 a3<F.M) (w:World) (hk:KIs w b F) :
  Calls prog 90 #[.pointer (some ⟨b,0,none⟩),.agg #[.int .u64 a0,.int .u64 a1,.int .u64 a2,.int .u64 a3]] w fun e w'=>e=.returned (.bool (cR F.M (aA a0 a1 a2 a3)))∧Below w.heap.size w w':=by
 have HK:=Lib.hid hk;have HF:=Lib.hid hF;have HLA:=Lib.hid la;have hL:=hk.lt;have hL1:b<w.heap.size+1:=by omega
 clear hk hF la
 go_enter func90,ntmps90
 go_wp2_with fail;have M0:=Lib.hid ((Mem.nil w).new w.heap.size a0 a1 a2 a3 24 rfl)
 go_region_with (first
  | (go_at_call 103; (refine (lM F HF.out b 0 0 0 0 a0 a1 a2 a3 ⟨by omega,by omega,by omega,by omega⟩ ha HF.out.pos HLA.out _ (HK.out.same (by repeat (first|exact Below.refl _ _|refine Below.drew ?_|refine Below.alloc ?_ (by first|(simp; done)|(simp; omega)) _)))).mono ?_; rintro e w1 ⟨s0,s1,s2,s3,rfl,hs,hv,hbl⟩; have HV:=Lib.hid hv; have M1:=Lib.hid (M0.out.drew.on hbl); have R1:=M1.out.row (b:=w.heap.size) (c0:=a0) (c1:=a1) (c2:=a2) (c3:=a3) (by simp); have x0:=R1.c0; have x1:=R1.c1; have x2:=R1.c2; have x3:=R1.c3; have lt1:=M1.out.lt (b:=w.heap.size) (c0:=a0) (c1:=a1) (c2:=a2) (c3:=a3) (by simp); clear hv hbl R1))
  | (go_at_call 35; refine (wD a0 a1 a2 a3 s0 s1 s2 s3 ha hs _).mono ?_; rintro e w2 ⟨rfl,hbl⟩; have HB:=Lib.hid (M1.out.on hbl).1; clear hbl))
 all_goals (
  go_wp2_with fail;go_ret;exact⟨sS (by rw[HV.out]; exact JF _ _),HB.out⟩)
def Cn (M A T:Nat) (w:World) (e:Ending) (w':World):Prop :=
 ∃o:Nat,e=.returned (.int .i64 o)∧o≤T∧(∀j,j<o→A^2^j%M≠1)∧(o<T→A^2^o%M=1)∧Below w.heap.size w w'
theorem Kh {F:FC} (hF:F.Ok) {a0 a1 a2 a3 s0 s1 s2 s3 A:Nat} (ha:aZ a0 a1 a2 a3) (hs:aZ s0 s1 s2 s3) (hA:aA a0 a1 a2 a3=kp F A) (hS:aA s0 s1 s2 s3=kp F 1):yC a0 a1 a2 a3 s0 s1 s2 s3=true↔A%F.M=1:=by
 have h1:1<F.M:=by have:=hF.gt; omega
 rw[gD ha hs,hA,hS,←fU F A];exact⟨fun h=>Iu hF (Nat.mod_lt _ (by omega)) h1 h,fun h=>by rw[h]⟩
set_option maxHeartbeats 4000000 in
theorem lN (F:FC) (hF:F.Ok) (A b a0 a1 a2 a3 T:Nat) (ha:aZ a0 a1 a2 a3) (hA:aA a0 a1 a2 a3=kp F A) (hT:T≤256) (w:World) (hk:KIs w b F) :
  Calls prog 122 #[.pointer (some ⟨b,0,none⟩),.agg #[.int .u64 a0,.int .u64 a1,.int .u64 a2,.int .u64 a3],.int .i64 T] w (Cn F.M A T w):=by
 have HK:=Lib.hid hk;have HF:=Lib.hid hF;have HA:=Lib.hid hA;have hL:=hk.lt;have hG:=UC;clear hk hF hA
 go_enter func122,ntmps122
 go_wp2_with fail;have M0:=(Mem.nil w).new w.heap.size a0 a1 a2 a3 85 rfl;refine (vJ F HF.out b _ (HK.out.same M0.1)).mono ?_
 rintro e w1 ⟨s0,s1,s2,s3,rfl,hs,hv,hbl⟩
 have M1:=M0.on hbl;have HV1:=Lib.hid hv;have hz1:w.heap.size<w1.heap.size:=M1.lt (c0:=a0) (c1:=a1) (c2:=a2) (c3:=a3) (by simp);have M2:=Lib.hid ((M1.new w1.heap.size s0 s1 s2 s3 85 rfl).sub (rs':=[(w.heap.size,a0,a1,a2,a3),(w1.heap.size,s0,s1,s2,s3)]) (by simp));clear hbl hv M0 M1;go_wp2_with fail
 go_loopw [12] (fun i wr=>∃k r0 r1 r2 r3:Nat,k≤T∧i=.int .i64 k∧aZ r0 r1 r2 r3∧Hid (aA r0 r1 r2 r3=kp F (A^2^k))∧Hid (∀j,j<k→A^2^j%F.M≠1)∧Hid (Mem w wr [(w.heap.size,r0,r1,r2,r3),(w1.heap.size,s0,s1,s2,s3)])) (fun i _=>T-(intOf i).toNat)
 case atStart =>
  exact⟨0,a0,a1,a2,a3,Nat.zero_le _,rfl,ha,Lib.hid (by rw[HA.out,Nat.pow_zero,Nat.pow_one]),Lib.hid (fun j hj=>absurd hj (by omega)),M2⟩
 case round =>
  obtain⟨k,r0,r1,r2,r3,hkT,rfl,hr,HV,HN,HM⟩:=hrel
  by_cases hlt:k<T
  ·have Rr:=HM.out.row (b:=w.heap.size) (c0:=r0) (c1:=r1) (c2:=r2) (c3:=r3) (by simp);have x0:=Rr.c0; have x1:=Rr.c1; have x2:=Rr.c2; have x3:=Rr.c3;have Ro:=HM.out.row (b:=w1.heap.size) (c0:=s0) (c1:=s1) (c2:=s2) (c3:=s3) (by simp);have o0:=Ro.c0; have o1:=Ro.c1; have o2:=Ro.c2; have o3:=Ro.c3;have ltr:=HM.out.lt (b:=w.heap.size) (c0:=r0) (c1:=r1) (c2:=r2) (c3:=r3) (by simp);have lto:=HM.out.lt (b:=w1.heap.size) (c0:=s0) (c1:=s1) (c2:=s2) (c3:=s3) (by simp);have hE:=fun w=>UA 9998 r0 r1 r2 r3 s0 s1 s2 s3 w
   have hq:=Kh HF.out hr hs HV.out HV1.out;clear Rr Ro;cases q:yC r0 r1 r2 r3 s0 s1 s2 s3
   ·rw[q]at hE hq;have HN1:=Lib.hid (show ¬A^2^k%F.M=1 from fun h=>by simpa using hq.2 h);have hrl:=Lib.hid (show aA r0 r1 r2 r3<F.M by rw[HV.out]; exact lO HF.out _);clear q hq;go_wp2_with fail;refine (cC F HF.out b r0 r1 r2 r3 r0 r1 r2 r3 hr hr hrl.out _ (HK.out.same HM.out.1)).mono ?_
    rintro e w3 ⟨p0,p1,p2,p3,rfl,hp,hv,hbl⟩
    have HP:=Lib.hid (show aA p0 p1 p2 p3=kp F (A^2^(k+1)) by rw[hv,HV.out,fH HF.out,fU,fK]);have M4:=HM.out.on hbl;have lt4:=M4.lt (b:=w.heap.size) (c0:=r0) (c1:=r1) (c2:=r2) (c3:=r3) (by simp);have Rr:=M4.row (b:=w.heap.size) (c0:=r0) (c1:=r1) (c2:=r2) (c3:=r3) (by simp);have M5:=Lib.hid (M4.put p0 p1 p2 p3 (by omega) (by intro r hr; simp at hr; rcases hr with rfl; simp; omega));clear x0 x1 x2 x3 o0 o1 o2 o3 hv hbl M4 hE;have x0:=Rr.c0; have x1:=Rr.c1; have x2:=Rr.c2; have x3:=Rr.c3; have xf:=Rr.fr;clear Rr;go_wp2_with fail
    go_roundw
    case rel =>
     exact⟨k+1,p0,p1,p2,p3,by omega,by go_num,hp,HP,Lib.hid (fun j hj=>by
      by_cases h:j=k
      ·subst h; exact HN1.out
      ·exact HN.out j (by omega)),M5⟩
    case measure=>simp[intOf]; omega
   ·rw[q]at hE hq;have HN1:=Lib.hid (hq.1 rfl);clear q hq;go_wp2_with fail;go_ret;exact⟨k,rfl,by omega,HN.out,fun _=>HN1.out,HM.out.1⟩
  ·obtain rfl:k=T:=by omega
   go_wp2_with fail;go_ret;exact⟨k,rfl,Nat.le_refl _,HN.out,fun h=>absurd h (by omega),HM.out.1⟩
theorem Nm (a0 a1 a2 a3:Nat) (n:Int) (ha:aZ a0 a1 a2 a3) (h0:0<n) (hq:n/64=0) (w:World) :
  Calls prog 87 #[.agg #[.int .u64 a0,.int .u64 a1,.int .u64 a2,.int .u64 a3],.int .i64 n] w (gT (fun v=>v=aA a0 a1 a2 a3/2^n.toNat) w):=by
 obtain⟨p,hr,hp,en⟩:=As (by omega) 0 hq (by omega);have b1:n<256:=by omega
 have t0:decide (n≤0)=false:=decide_eq_false (by omega);obtain⟨lo0,up0,u0,d0,bl0,bu0,e0,g0,m0⟩:=gN (a:=a0) (p:=p) ha.1 hp;obtain⟨lo1,up1,u1,d1,bl1,bu1,e1,g1,m1⟩:=gN (a:=a1) (p:=p) ha.2.1 hp;obtain⟨lo2,up2,u2,d2,bl2,bu2,e2,g2,m2⟩:=gN (a:=a2) (p:=p) ha.2.2.1 hp;obtain⟨lo3,up3,u3,d3,bl3,bu3,e3,g3,m3⟩:=gN (a:=a3) (p:=p) ha.2.2.2 hp;obtain⟨s0,o0,bs0,f0⟩:=lY bl0 bu1 g0 m1;obtain⟨s1,o1,bs1,f1⟩:=lY bl1 bu2 g1 m2;obtain⟨s2,o2,bs2,f2⟩:=lY bl2 bu3 g2 m3;have HF:Hid (aA s0 s1 s2 lo3=aA a0 a1 a2 a3/2^n.toNat):=Lib.hid (by
  rw[en,vF,←Nat.div_div_eq_div_mul];have hq':aA a0 a1 a2 a3/18446744073709551616^((0:Int)).toNat=aA a0 a1 a2 a3:=by
   rw[show 18446744073709551616^((0:Int)).toNat=1 by simp];obtain⟨k0,k1,k2,k3⟩:=ha;unfold aA; omega
  rw[hq'];obtain⟨v0,x0,y0,z0⟩:=e0.out;obtain⟨v1,x1,y1,z1⟩:=e1.out;obtain⟨v2,x2,y2,z2⟩:=e2.out;obtain⟨v3,x3,y3,z3⟩:=e3.out;have f0:=f0.out;have f1:=f1.out;have f2:=f2.out;refine sD (m:=v0) ?_ y0;have hD:aA s0 s1 s2 lo3*2^p=1*(s0*2^p)+18446744073709551616*(s1*2^p)+340282366920938463463374607431768211456*(s2*2^p)+6277101735386680763835789423207666416102355444464034512896*(lo3*2^p):=by
   unfold aA; simp only[Nat.add_mul,Nat.mul_add,Nat.mul_assoc,Nat.mul_zero,Nat.zero_mul,Nat.add_zero]; omega
  rw[hD];have k0:s0*2^p=lo0*2^p+up1*2^p:=by rw[f0,Nat.add_mul]
  have k1:s1*2^p=lo1*2^p+up2*2^p:=by rw[f1,Nat.add_mul]
  have k2:s2*2^p=lo2*2^p+up3*2^p:=by rw[f2,Nat.add_mul]
  unfold aA;omega)
 clear e0 g0 m0 e1 g1 m1 e2 g2 m2 e3 g3 m3 f0 f1 f2;have HEN:=Lib.hid en;clear en
 go_enter func87,ntmps87
 go_wp2_with fail;refine wp_loop_rounds 5 ?_;rw[rounds_succ];go_wp2_with fail
 go_region
 go_wp2_with fail;rw[rounds_succ];go_wp2_with fail
 go_region
 go_wp2_with fail;rw[rounds_succ];go_wp2_with fail
 go_region
 go_wp2_with fail;rw[rounds_succ];go_wp2_with fail;rw[rounds_succ];go_wp2_with fail;refine bodyPost_ret (v:=.agg #[.int .u64 s0,.int .u64 s1,.int .u64 s2,.int .u64 lo3]) (by simp[results,results87,go_sem]) rfl ?_;refine⟨s0,s1,s2,lo3,rfl,⟨bs0,bs1,bs2,bl3⟩,HF.out,?_⟩
 repeat (first|exact Below.refl _ _|refine Below.drew ?_|refine Below.alloc ?_ (by first|(simp; done)|(simp; omega)) _)
theorem Nl (a0 a1 a2 a3:Nat) (n:Int) (ha:aZ a0 a1 a2 a3) (h0:0<n) (hq:n/64=1) (w:World) :
  Calls prog 87 #[.agg #[.int .u64 a0,.int .u64 a1,.int .u64 a2,.int .u64 a3],.int .i64 n] w (gT (fun v=>v=aA a0 a1 a2 a3/2^n.toNat) w):=by
 obtain⟨p,hr,hp,en⟩:=As (by omega) 1 hq (by omega);have b1:n<256:=by omega
 have t0:decide (n≤0)=false:=decide_eq_false (by omega);obtain⟨lo1,up1,u1,d1,bl1,bu1,e1,g1,m1⟩:=gN (a:=a1) (p:=p) ha.2.1 hp;obtain⟨lo2,up2,u2,d2,bl2,bu2,e2,g2,m2⟩:=gN (a:=a2) (p:=p) ha.2.2.1 hp;obtain⟨lo3,up3,u3,d3,bl3,bu3,e3,g3,m3⟩:=gN (a:=a3) (p:=p) ha.2.2.2 hp;obtain⟨s1,o1,bs1,f1⟩:=lY bl1 bu2 g1 m2;obtain⟨s2,o2,bs2,f2⟩:=lY bl2 bu3 g2 m3;have HF:Hid (aA s1 s2 lo3 0=aA a0 a1 a2 a3/2^n.toNat):=Lib.hid (by
  rw[en,vF,←Nat.div_div_eq_div_mul];have hq':aA a0 a1 a2 a3/18446744073709551616^((1:Int)).toNat=aA a1 a2 a3 0:=by
   rw[show 18446744073709551616^((1:Int)).toNat=18446744073709551616 by simp];obtain⟨k0,k1,k2,k3⟩:=ha;unfold aA; omega
  rw[hq'];obtain⟨v1,x1,y1,z1⟩:=e1.out;obtain⟨v2,x2,y2,z2⟩:=e2.out;obtain⟨v3,x3,y3,z3⟩:=e3.out;have f1:=f1.out;have f2:=f2.out;refine sD (m:=v1) ?_ y1;have hD:aA s1 s2 lo3 0*2^p=1*(s1*2^p)+18446744073709551616*(s2*2^p)+340282366920938463463374607431768211456*(lo3*2^p):=by
   unfold aA; simp only[Nat.add_mul,Nat.mul_add,Nat.mul_assoc,Nat.mul_zero,Nat.zero_mul,Nat.add_zero]; omega
  rw[hD];have k1:s1*2^p=lo1*2^p+up2*2^p:=by rw[f1,Nat.add_mul]
  have k2:s2*2^p=lo2*2^p+up3*2^p:=by rw[f2,Nat.add_mul]
  unfold aA;omega)
 clear e1 g1 m1 e2 g2 m2 e3 g3 m3 f1 f2;have HEN:=Lib.hid en;clear en
 go_enter func87,ntmps87
 go_wp2_with fail;refine wp_loop_rounds 4 ?_;rw[rounds_succ];go_wp2_with fail
 go_region
 go_wp2_with fail;rw[rounds_succ];go_wp2_with fail
 go_region
 go_wp2_with fail;rw[rounds_succ];go_wp2_with fail;rw[rounds_succ];go_wp2_with fail;refine bodyPost_ret (v:=.agg #[.int .u64 s1,.int .u64 s2,.int .u64 lo3,.int .u64 0]) (by simp[results,results87,go_sem]) rfl ?_;refine⟨s1,s2,lo3,0,rfl,⟨bs1,bs2,bl3,(by omega)⟩,HF.out,?_⟩
 repeat (first|exact Below.refl _ _|refine Below.drew ?_|refine Below.alloc ?_ (by first|(simp; done)|(simp; omega)) _)
theorem Nk (a0 a1 a2 a3:Nat) (n:Int) (ha:aZ a0 a1 a2 a3) (h0:0<n) (hq:n/64=2) (w:World) :
  Calls prog 87 #[.agg #[.int .u64 a0,.int .u64 a1,.int .u64 a2,.int .u64 a3],.int .i64 n] w (gT (fun v=>v=aA a0 a1 a2 a3/2^n.toNat) w):=by
 obtain⟨p,hr,hp,en⟩:=As (by omega) 2 hq (by omega);have b1:n<256:=by omega
 have t0:decide (n≤0)=false:=decide_eq_false (by omega);obtain⟨lo2,up2,u2,d2,bl2,bu2,e2,g2,m2⟩:=gN (a:=a2) (p:=p) ha.2.2.1 hp;obtain⟨lo3,up3,u3,d3,bl3,bu3,e3,g3,m3⟩:=gN (a:=a3) (p:=p) ha.2.2.2 hp;obtain⟨s2,o2,bs2,f2⟩:=lY bl2 bu3 g2 m3;have HF:Hid (aA s2 lo3 0 0=aA a0 a1 a2 a3/2^n.toNat):=Lib.hid (by
  rw[en,vF,←Nat.div_div_eq_div_mul];have hq':aA a0 a1 a2 a3/18446744073709551616^((2:Int)).toNat=aA a2 a3 0 0:=by
   rw[show 18446744073709551616^((2:Int)).toNat=340282366920938463463374607431768211456 by simp];obtain⟨k0,k1,k2,k3⟩:=ha;unfold aA; omega
  rw[hq'];obtain⟨v2,x2,y2,z2⟩:=e2.out;obtain⟨v3,x3,y3,z3⟩:=e3.out;have f2:=f2.out;refine sD (m:=v2) ?_ y2;have hD:aA s2 lo3 0 0*2^p=1*(s2*2^p)+18446744073709551616*(lo3*2^p):=by
   unfold aA; simp only[Nat.add_mul,Nat.mul_add,Nat.mul_assoc,Nat.mul_zero,Nat.zero_mul,Nat.add_zero]; omega
  rw[hD];have k2:s2*2^p=lo2*2^p+up3*2^p:=by rw[f2,Nat.add_mul]
  unfold aA;omega)
 clear e2 g2 m2 e3 g3 m3 f2;have HEN:=Lib.hid en;clear en
 go_enter func87,ntmps87
 go_wp2_with fail;refine wp_loop_rounds 3 ?_;rw[rounds_succ];go_wp2_with fail
 go_region
 go_wp2_with fail;rw[rounds_succ];go_wp2_with fail;rw[rounds_succ];go_wp2_with fail;refine bodyPost_ret (v:=.agg #[.int .u64 s2,.int .u64 lo3,.int .u64 0,.int .u64 0]) (by simp[results,results87,go_sem]) rfl ?_;refine⟨s2,lo3,0,0,rfl,⟨bs2,bl3,(by omega),(by omega)⟩,HF.out,?_⟩
 repeat (first|exact Below.refl _ _|refine Below.drew ?_|refine Below.alloc ?_ (by first|(simp; done)|(simp; omega)) _)
theorem Nj (a0 a1 a2 a3:Nat) (n:Int) (ha:aZ a0 a1 a2 a3) (h0:0<n) (hq:n/64=3) (w:World) :
  Calls prog 87 #[.agg #[.int .u64 a0,.int .u64 a1,.int .u64 a2,.int .u64 a3],.int .i64 n] w (gT (fun v=>v=aA a0 a1 a2 a3/2^n.toNat) w):=by
 obtain⟨p,hr,hp,en⟩:=As (by omega) 3 hq (by omega);have b1:n<256:=by omega
 have t0:decide (n≤0)=false:=decide_eq_false (by omega);obtain⟨lo3,up3,u3,d3,bl3,bu3,e3,g3,m3⟩:=gN (a:=a3) (p:=p) ha.2.2.2 hp;have HF:Hid (aA lo3 0 0 0=aA a0 a1 a2 a3/2^n.toNat):=Lib.hid (by
  rw[en,vF,←Nat.div_div_eq_div_mul];have hq':aA a0 a1 a2 a3/18446744073709551616^((3:Int)).toNat=aA a3 0 0 0:=by
   rw[show 18446744073709551616^((3:Int)).toNat=6277101735386680763835789423207666416102355444464034512896 by simp];obtain⟨k0,k1,k2,k3⟩:=ha;unfold aA; omega
  rw[hq'];obtain⟨v3,x3,y3,z3⟩:=e3.out;refine sD (m:=v3) ?_ y3;have hD:aA lo3 0 0 0*2^p=1*(lo3*2^p):=by
   unfold aA; simp only[Nat.add_mul,Nat.mul_add,Nat.mul_assoc,Nat.mul_zero,Nat.zero_mul,Nat.add_zero]; omega
  rw[hD];unfold aA;omega)
 clear e3 g3 m3;have HEN:=Lib.hid en;clear en
 go_enter func87,ntmps87
 go_wp2_with fail;refine wp_loop_rounds 2 ?_;rw[rounds_succ];go_wp2_with fail;rw[rounds_succ];go_wp2_with fail;refine bodyPost_ret (v:=.agg #[.int .u64 lo3,.int .u64 0,.int .u64 0,.int .u64 0]) (by simp[results,results87,go_sem]) rfl ?_;refine⟨lo3,0,0,0,rfl,⟨bl3,(by omega),(by omega),(by omega)⟩,HF.out,?_⟩
 repeat (first|exact Below.refl _ _|refine Below.drew ?_|refine Below.alloc ?_ (by first|(simp; done)|(simp; omega)) _)
theorem QE (a0 a1 a2 a3:Nat) (n:Int) (ha:aZ a0 a1 a2 a3) (h0:n≤0) (w:World) :
  Calls prog 87 #[.agg #[.int .u64 a0,.int .u64 a1,.int .u64 a2,.int .u64 a3],.int .i64 n] w (gT (fun v=>v=aA a0 a1 a2 a3) w):=by
 have t0:decide (n≤0)=true:=decide_eq_true h0
 go_enter func87,ntmps87
 go_wp2_with fail;refine bodyPost_ret (v:=.agg #[.int .u64 a0,.int .u64 a1,.int .u64 a2,.int .u64 a3]) (by simp[results,results87,go_sem]) rfl ?_;refine⟨a0,a1,a2,a3,rfl,ha,rfl,?_⟩
 repeat (first|exact Below.refl _ _|refine Below.drew ?_|refine Below.alloc ?_ (by first|(simp; done)|(simp; omega)) _)
theorem XF (a0 a1 a2 a3:Nat) (n:Int) (ha:aZ a0 a1 a2 a3) (h0:256≤n) (h1:n≤9223372036854775807) (w:World) :
  Calls prog 87 #[.agg #[.int .u64 a0,.int .u64 a1,.int .u64 a2,.int .u64 a3],.int .i64 n] w (gT (fun v=>v=0) w):=by
 have t0:decide (n≤0)=false:=decide_eq_false (by omega);obtain⟨q,hq,bq,bq'⟩:∃q:Nat,n/64=(q:Int)∧4≤q∧q≤9223372036854775807:=⟨(n/64).toNat,by omega,by omega,by omega⟩
 have t1:decide ((0:Int)<4-(q:Int))=false:=decide_eq_false (by omega)
 go_enter func87,ntmps87
 go_wp2_with fail;refine wp_loop_rounds 1 ?_;rw[rounds_succ];go_wp2_with fail;refine bodyPost_ret (v:=.agg #[.int .u64 0,.int .u64 0,.int .u64 0,.int .u64 0]) (by simp[results,results87,go_sem]) rfl ?_;refine⟨0,0,0,0,rfl,⟨by omega,by omega,by omega,by omega⟩,rfl,?_⟩
 repeat (first|exact Below.refl _ _|refine Below.drew ?_|refine Below.alloc ?_ (by first|(simp; done)|(simp; omega)) _)
theorem jH (a0 a1 a2 a3:Nat) (n:Int) (ha:aZ a0 a1 a2 a3) (h0:0≤n) (h1:n≤9223372036854775807) (w:World) :
  Calls prog 87 #[.agg #[.int .u64 a0,.int .u64 a1,.int .u64 a2,.int .u64 a3],.int .i64 n] w (gT (fun v=>v=aA a0 a1 a2 a3/2^n.toNat) w):=by
 by_cases hz:n≤0
 ·refine (QE a0 a1 a2 a3 n ha hz w).mono ?_
  rintro e w' ⟨s0,s1,s2,s3,he,hs,hv,hb⟩
  refine⟨s0,s1,s2,s3,he,hs,?_,hb⟩;have:=cE ha;rw[hv,show n.toNat=0 by omega,Nat.pow_zero]; omega
 ·by_cases hf:256≤n
  ·refine (XF a0 a1 a2 a3 n ha hf h1 w).mono ?_
   rintro e w' ⟨s0,s1,s2,s3,he,hs,hv,hb⟩
   refine⟨s0,s1,s2,s3,he,hs,?_,hb⟩;rw[hv];have hp:=Nat.pow_le_pow_right (show 0<2 by omega) (show 256≤n.toNat by omega);have:=cE ha;exact (Nat.div_eq_of_lt (Nat.lt_of_lt_of_le this hp)).symm
  ·have hq:n/64=0∨n/64=1∨n/64=2∨n/64=3:=by omega
   rcases hq with h|h|h|h
   ·exact Nm a0 a1 a2 a3 n ha (by omega) h w
   ·exact Nl a0 a1 a2 a3 n ha (by omega) h w
   ·exact Nk a0 a1 a2 a3 n ha (by omega) h w
   ·exact Nj a0 a1 a2 a3 n ha (by omega) h w
section
variable {P:Program} {ops:Array Oper} {Q:Exit→Act→World→Prop} {md:Region.Mode} {S:World→Prop} {L:Nat}
def fM (P:Program) (md:Region.Mode) (ops:Array Oper) (Q:Exit→Act→World→Prop) (S:World→Prop) (L:Nat):Nat→Array Bool→Act→World→Prop
 | 0,got,a,w=>Region.ready md ops got=[]∧Q .normal a w
 | m+1,got,a,w =>
  (Region.ready md ops got=[]→Q .normal a w) ∧
  ∀i∈Region.ready md ops got,wpOp P ops Q i (fun b u=>(i=L∨S u)∧fM P md ops Q S L m (got.setIfInBounds i true) b u) a w
theorem rJ:∀(m:Nat) (got:Array Bool) (a:Act) (w:World),fM P md ops Q S L m got a w→wpAny P md ops Q m got a w
 | 0,_,_,_,h=>h
 | m+1,_,_,_,h=>⟨h.1,fun i hi=>wpOp_mono (fun b u k=>rJ m _ b u k.2) (h.2 i hi)⟩
def PE (md:Region.Mode) (ops:Array Oper) (L i:Nat):Bool :=
 match ops[L]? with
 | some o=>o.after.any fun e=>Region.binds md e&&e.on==i
 | none=>false
theorem CU {i:Nat} {oi:Oper} {v:Value} (hi:ops[i]?=some oi) (hsel:∀(j:Nat) (o:Oper) cs b,ops[j]?=some o→o.op ≠ .select cs b)
  (hL:PE md ops L i=true) (hQ:∀c a w,Q (.panic c) (a.put oi.dst v) w→Q (.panic c) a w) :
  ∀(m:Nat) (got:Array Bool) (a:Act) (w:World),
   (∀j oj,ops[j]?=some oj→j≠i→got.getD j true=false→(∀e∈oj.after,Region.binds md e=true→e.on≠i)→oi.apart ops oj=true) →
   i∈Region.ready md ops got→YieldsIf P ops S oi v a→S w →
   fM P md ops Q S L m (got.setIfInBounds i true) (a.put oi.dst v) w→fM P md ops Q S L (m+1) got a w:=by
 intro m
 induction m with
 | zero =>
  intro got a w _ hr hy hS H;refine⟨fun h=>(by rw[h]at hr; cases hr),fun j hj => ?_⟩
  by_cases hji:j=i
  ·subst hji; exact hy.wpOp hi hS ⟨.inr hS,H⟩
  ·have:=ready_mono hj hji;rw[H.1]at this;cases this
 | succ m ih =>
  intro got a w hfree hr hy hS H;refine⟨fun h=>(by rw[h]at hr; cases hr),fun j hj => ?_⟩
  by_cases hji:j=i
  ·subst hji; exact hy.wpOp hi hS ⟨.inr hS,H⟩
  ·obtain⟨hun,oj,hoj,hall⟩:=mem_ready.1 hj;have hno:∀e∈oj.after,Region.binds md e=true→e.on≠i:=fun e he hb heq=>by
    have h1:=hall e he hb;have h0:=(mem_ready.1 hr).1;rw[heq]at h1
    rcases Nat.lt_or_ge i got.size with h'|h'
    ·simp[h']at h0 h1; rw[h0]at h1; cases h1
    ·simp[Array.getElem?_eq_none h']at h1
   have hjL:j≠L:=fun e=>by
    subst e;unfold PE at hL;rw[hoj]at hL;obtain⟨x,hx,hx2⟩:=Array.any_eq_true'.1 hL;simp only[Bool.and_eq_true,beq_iff_eq]at hx2;exact hno x hx hx2.1 hx2.2
   have h2:=wpOp_putIf hoj (hfree j oj hoj hji hun hno) (fun cs b=>hsel i oi cs b hi) (fun cs b=>hsel j oj cs b hoj) hQ hy (H.2 j (ready_mono hj hji));have hfree':∀k ok,ops[k]?=some ok→k≠i→(got.setIfInBounds j true).getD k true=false →
     (∀e∈ok.after,Region.binds md e=true→e.on≠i)→oi.apart ops ok=true:=fun k ok hk hki hu hn=>by
    refine hfree k ok hk hki ?_ hn
    by_cases hjk:j=k
    ·subst hjk; exact hun
    ·rw[getD_set_ne true hjk]at hu; exact hu
   refine wpOp_mono (fun b u h3=>⟨h3.2.1,ih (got.setIfInBounds j true) b u hfree' (ready_mono hr (Ne.symm hji)) h3.1 (h3.2.1.resolve_left hjL) ?_⟩) h2;rw[Array.setIfInBounds_comm _ _ hji];exact h3.2.2
theorem aC {i:Nat} {oi:Oper} {v:Value} {m:Nat} {got:Array Bool} {a:Act} {w:World} (hi:ops[i]?=some oi)
  (hs:Region.noSelect ops=true) (hf:Region.free md ops got i=true) (hr:(Region.ready md ops got).contains i=true) (hL:PE md ops L i=true)
  (hQ:∀c a w,Q (.panic c) (a.put oi.dst v) w→Q (.panic c) a w) (hS:S w) (hy:YieldsIf P ops S oi v a)
  (h:fM P md ops Q S L m (got.setIfInBounds i true) (a.put oi.dst v) w):fM P md ops Q S L (m+1) got a w :=
 CU hi (Region.noSelect_spec hs) hL hQ m got a w (Region.free_spec hi hf) (by simpa using hr) hy hS h
theorem aD {i:Nat} {o:Oper} {m:Nat} {got:Array Bool} {a:Act} {w:World} (hr:Region.ready md ops got=[i]) (ho:ops[i]?=some o)
  (h:∀K:Act→World→Prop,Shut (∀b u,(i=L∨S u)→((i=L∨S u)→fM P md ops Q S L m (got.setIfInBounds i true) b u)→K b u)→if Region.wanted o (yielded ops a.tmps)=true then Oper.wp P o a w K Q else K (a.put o.dst undef) w) :
  fM P md ops Q S L (m+1) got a w :=
 ⟨fun h0=>(by rw[hr]at h0; cases h0),fun j hj=>by
  rw[hr]at hj;obtain rfl:j=i:=by simpa using hj
  exact wpOp_step ho (fun K hK=>h K (fun b u hS hW=>hK b u ⟨hS,hW hS⟩))⟩
theorem aU {got:Array Bool} {a:Act} {w:World} (hr:Region.ready md ops got=[]) (h:Q .normal a w):fM P md ops Q S L 0 got a w:=⟨hr,h⟩
theorem bM (S:World→Prop) (L:Nat) {id:Nat} {a:Act} {w:World} (hm:P.follows .mixedOrders=true)
  (h:fM P .any ops Q S L ops.size (Array.replicate ops.size false) a w.drew):(Code.region id ops true).wp P Q a w :=
 wp_region_any hm (rJ _ _ _ _ h)
end
theorem cI {P:Program} {ops:Array Oper} {Q:Exit→Act→World→Prop} {md:Region.Mode} {S:World→Prop} {L:Nat} {i j:Nat} {oi oj:Oper} {m:Nat} {got:Array Bool} {a:Act} {w:World} (hr:Region.ready md ops got=[i,j]) (hoi:ops[i]?=some oi) (hoj:ops[j]?=some oj)
  (h1:∀K:Act→World→Prop,Shut (∀b u,(i=L∨S u)→((i=L∨S u)→fM P md ops Q S L m (got.setIfInBounds i true) b u)→K b u)→if Region.wanted oi (yielded ops a.tmps)=true then Oper.wp P oi a w K Q else K (a.put oi.dst undef) w)
  (h2:∀K:Act→World→Prop,Shut (∀b u,(j=L∨S u)→((j=L∨S u)→fM P md ops Q S L m (got.setIfInBounds j true) b u)→K b u)→if Region.wanted oj (yielded ops a.tmps)=true then Oper.wp P oj a w K Q else K (a.put oj.dst undef) w) :
  fM P md ops Q S L (m+1) got a w :=
 ⟨fun h0=>(by rw[hr]at h0; cases h0),fun k hk=>by
  rw[hr]at hk
  rcases List.mem_cons.1 hk with rfl|hk
  ·exact wpOp_step hoi (fun K hK=>h1 K (fun b u hS hW=>hK b u ⟨hS,hW hS⟩))
  ·obtain rfl:k=j:=by simpa using hk
   exact wpOp_step hoj (fun K hK=>h2 K (fun b u hS hW=>hK b u ⟨hS,hW hS⟩))⟩
set_option maxHeartbeats 4000000 in
theorem oM (F:FC) (hF:F.Ok) (g:Nat) (hr:Root F.M g) (A H T C b a0 a1 a2 a3 c0 c1 c2 c3:Nat) (ha:aZ a0 a1 a2 a3) (hc:aZ c0 c1 c2 c3) (hA:aA a0 a1 a2 a3=kp F A) (hC:aA c0 c1 c2 c3=kp F C) (hT:1≤T) (hT2:T≤200)
  (hM:F.M=2^T*(2*H+1)+1) (hC2:C^2^(T-1)%F.M=F.M-1) (hs:A^(F.M/2)%F.M=1) (w:World) (hk:KIs w b F) :
  Calls prog 100 #[.pointer (some ⟨b,0,none⟩),.agg #[.int .u64 a0,.int .u64 a1,.int .u64 a2,.int .u64 a3],.int .i64 T,.agg #[.int .u64 c0,.int .u64 c1,.int .u64 c2,.int .u64 c3]] w fun e w' =>
   ∃r0 r1 r2 r3 R:Nat,e=.returned (.tuple #[.agg #[.int .u64 r0,.int .u64 r1,.int .u64 r2,.int .u64 r3],.bool true])∧aZ r0 r1 r2 r3∧aA r0 r1 r2 r3=kp F R∧R*R%F.M=A%F.M∧Below w.heap.size w w':=by
 have HK:=Lib.hid hk;have HF:=Lib.hid hF;have HA:=Lib.hid hA;have HC:=Lib.hid hC;have HS2:=Lib.hid (sL hM hT);have HI:=Lib.hid (uU hM hT hC2 hs);have hL:=hk.lt;have hL1:b<w.heap.size+1:=by omega
 have hL2:b<w.heap.size+1+1:=by omega
 have k0:=hk.k0; have k1:=hk.k1; have k2:=hk.k2; have k3:=hk.k3;obtain⟨T1,e1,hT1⟩:∃T1:Nat,(T:Int)+1=(T1:Int)∧T1=T+1:=⟨T+1,by omega,rfl⟩
 have HT1:=Lib.hid hT1;have bT1:T1≤201:=by omega
 clear hk hF hA hC hM hC2 hs hT1
 go_enter func100,ntmps100
 go_upto_region 1 with fail
 have M0:=Lib.hid (((Mem.nil w).new w.heap.size a0 a1 a2 a3 85 rfl).new (w.heap.size+1) c0 c1 c2 c3 85 (by simp) |>.new (w.heap.size+1+1) 0 0 0 0 85 (by simp))
 go_cut [10] (fun s10 wx=>∃g p0 p1 p2 p3:Nat,s10=.pointer (some ⟨g,0,none⟩)∧aZ p0 p1 p2 p3∧Hid (aA p0 p1 p2 p3=kp F (A^H))∧w.heap.size+1+1<g∧Hid (Mem w wx [(g,p0,p1,p2,p3),(w.heap.size+1+1,0,0,0,0),(w.heap.size+1,c0,c1,c2,c3),(w.heap.size,a0,a1,a2,a3)]))
 case first =>
  refine bM (fun wx=>Mem w wx [(w.heap.size+1+1,0,0,0,0),(w.heap.size+1,c0,c1,c2,c3),(w.heap.size,a0,a1,a2,a3)]) 11 (by kernel_rfl) ?_;have HS:=M0.out.drewN 1;have HM:=Lib.hid HS;refine aC (i:=0) (v:=.pointer (some ⟨b,0,none⟩)) rfl (by kernel_rfl) (by kernel_rfl) (by kernel_rfl) (by kernel_rfl) (fun _ _ _ h=>h) HS (Or.inl ⟨by kernel_rfl,fun wx hx => ?_⟩) ?_
  ·clear HS hx;go_simp
  simp only[Act.put,List.setIfInBounds_toArray,List.set_cons_zero,List.set_cons_succ];refine aC (i:=1) (v:=.agg #[.int .u64 a0,.int .u64 a1,.int .u64 a2,.int .u64 a3]) rfl (by kernel_rfl) (by kernel_rfl) (by kernel_rfl) (by kernel_rfl) (fun _ _ _ h=>h) HS (Or.inl ⟨by kernel_rfl,fun wx hx => ?_⟩) ?_
  ·have kr:=hx.row (b:=w.heap.size) (c0:=a0) (c1:=a1) (c2:=a2) (c3:=a3) (by simp);have x0:=kr.c0; have x1:=kr.c1; have x2:=kr.c2; have x3:=kr.c3;clear kr k0 k1 k2 k3;clear HS hx;go_simp
  simp only[Act.put,List.setIfInBounds_toArray,List.set_cons_zero,List.set_cons_succ];refine aC (i:=2) (v:=.pointer (some ⟨b,0,none⟩)) rfl (by kernel_rfl) (by kernel_rfl) (by kernel_rfl) (by kernel_rfl) (fun _ _ _ h=>h) HS (Or.inl ⟨by kernel_rfl,fun wx hx => ?_⟩) ?_
  ·clear HS hx;go_simp
  simp only[Act.put,List.setIfInBounds_toArray,List.set_cons_zero,List.set_cons_succ];refine aC (i:=3) (v:=.pointer (some ⟨b,0,none⟩)) rfl (by kernel_rfl) (by kernel_rfl) (by kernel_rfl) (by kernel_rfl) (fun _ _ _ h=>h) HS (Or.inl ⟨by kernel_rfl,fun wx hx => ?_⟩) ?_
  ·clear HS hx;go_simp
  simp only[Act.put,List.setIfInBounds_toArray,List.set_cons_zero,List.set_cons_succ];refine aC (i:=4) (v:=.pointer (some ⟨b,0,none⟩)) rfl (by kernel_rfl) (by kernel_rfl) (by kernel_rfl) (by kernel_rfl) (fun _ _ _ h=>h) HS (Or.inl ⟨by kernel_rfl,fun wx hx => ?_⟩) ?_
  ·clear HS hx;go_simp
  simp only[Act.put,List.setIfInBounds_toArray,List.set_cons_zero,List.set_cons_succ];refine aC (i:=5) (v:=.agg #[.int .u64 F.m0,.int .u64 F.m1,.int .u64 F.m2,.int .u64 F.m3]) rfl (by kernel_rfl) (by kernel_rfl) (by kernel_rfl) (by kernel_rfl) (fun _ _ _ h=>h) HS (Or.inl ⟨by kernel_rfl,fun wx hx => ?_⟩) ?_
  ·have kk:=HK.out.same hx.1;have x0:=kk.k0; have x1:=kk.k1; have x2:=kk.k2; have x3:=kk.k3;clear kk k0 k1 k2 k3;clear HS hx;go_simp
  simp only[Act.put,List.setIfInBounds_toArray,List.set_cons_zero,List.set_cons_succ];refine aC (i:=6) (v:=.int .i64 (T:Nat)) rfl (by kernel_rfl) (by kernel_rfl) (by kernel_rfl) (by kernel_rfl) (fun _ _ _ h=>h) HS (Or.inl ⟨by kernel_rfl,fun wx hx => ?_⟩) ?_
  ·clear HS hx;go_simp
  simp only[Act.put,List.setIfInBounds_toArray,List.set_cons_zero,List.set_cons_succ];refine aC (i:=7) (v:=.int .i64 (T1:Nat)) rfl (by kernel_rfl) (by kernel_rfl) (by kernel_rfl) (by kernel_rfl) (fun _ _ _ h=>h) HS (Or.inl ⟨by kernel_rfl,fun wx hx => ?_⟩) ?_
  ·have hw:IntKind.i64.wrap (T1:Int)=(T1:Int):=IntWalk.i64_in _ (by omega);clear HS hx;go_simp
  simp only[Act.put,List.setIfInBounds_toArray,List.set_cons_zero,List.set_cons_succ];clear HS;refine cI (i:=8) (j:=10) (by kernel_rfl) rfl rfl (fun K hK => ?_) (fun K hK => ?_)
  ·go_simp;refine (jH F.m0 F.m1 F.m2 F.m3 T1 HF.out.okm (by omega) (by have:=HT1.out; omega) _).mono ?_
   rintro e w1 ⟨n0,n1,n2,n3,rfl,hn,hv,hbl⟩
   have HS:=HM.out.on hbl;clear HM;have HM:=Lib.hid HS;have HV:=Lib.hid (show aA n0 n1 n2 n3=H by rw[hv,show (T1:Int).toNat=T+1 by have:=HT1.out; omega]; exact HS2.out);clear hv hbl;refine hK.out _ _ (Or.inr (HS.sub (by simp))) (fun _ => ?_);clear hK K;clear HS;refine cI (i:=9) (j:=10) (by kernel_rfl) rfl rfl (fun K hK => ?_) (fun K hK => ?_)
   ·go_simp;refine (fF F HF.out A b a0 a1 a2 a3 n0 n1 n2 n3 ha hn HA.out _ (HK.out.same HM.out.1)).mono ?_
    rintro e w2 ⟨p0,p1,p2,p3,rfl,hp,hv,hbl⟩
    have HS:=HM.out.on hbl;clear HM;have HM:=Lib.hid HS;have HVp:=Lib.hid (show aA p0 p1 p2 p3=kp F (A^H) by rw[hv,HV.out]);clear hv hbl;refine hK.out _ _ (Or.inr (HS.sub (by simp))) (fun _ => ?_);clear hK K;clear HS;refine aD (i:=10) (by kernel_rfl) rfl (fun K hK => ?_);go_simp;have HS:=HM.out.new w2.heap.size 0 0 0 0 85 (by first|rfl|(simp; done));have hg:w.heap.size+1+1<w2.heap.size:=by first|(simp; done)|exact HM.out.lt (b:=w.heap.size+1+1) (c0:=0) (c1:=0) (c2:=0) (c3:=0) (by simp)
    have HM9:=HM;clear HM;have HM:=Lib.hid HS;refine hK.out _ _ (Or.inr (HS.sub (by simp))) (fun _ => ?_);clear hK K;clear HS;have kr:=HM.out.row (b:=w2.heap.size) (c0:=0) (c1:=0) (c2:=0) (c3:=0) (by simp);have lr:=HM.out.lt (b:=w2.heap.size) (c0:=0) (c1:=0) (c2:=0) (c3:=0) (by simp);have x0:=kr.c0; have x1:=kr.c1; have x2:=kr.c2; have x3:=kr.c3; have xf:=kr.fr;clear kr;refine aD (i:=11) (by kernel_rfl) rfl (fun K hK => ?_);go_simp;refine hK.out _ _ (Or.inl rfl) (fun _ => ?_);clear hK K;refine aU (by kernel_rfl) ?_;go_wp2_with fail
    go_meet
    refine⟨w2.heap.size,p0,p1,p2,p3,rfl,hp,HVp,hg,Lib.hid ?_⟩;exact HM9.out.new w2.heap.size p0 p1 p2 p3 85 rfl
   ·go_simp;have HS:=HM.out.new w1.heap.size 0 0 0 0 85 (by first|rfl|(simp; done));have hg:w.heap.size+1+1<w1.heap.size:=by first|(simp; done)|exact HM.out.lt (b:=w.heap.size+1+1) (c0:=0) (c1:=0) (c2:=0) (c3:=0) (by simp)
    have HM9:=HM;clear HM;have HM:=Lib.hid HS;refine hK.out _ _ (Or.inr (HS.sub (by simp))) (fun _ => ?_);clear hK K;clear HS;refine aD (i:=9) (by kernel_rfl) rfl (fun K hK => ?_);go_simp;refine (fF F HF.out A b a0 a1 a2 a3 n0 n1 n2 n3 ha hn HA.out _ (HK.out.same HM.out.1)).mono ?_
    rintro e w2 ⟨p0,p1,p2,p3,rfl,hp,hv,hbl⟩
    have HS:=HM.out.on hbl;clear HM;have HM:=Lib.hid HS;have HVp:=Lib.hid (show aA p0 p1 p2 p3=kp F (A^H) by rw[hv,HV.out]);clear hv hbl;refine hK.out _ _ (Or.inr (HS.sub (by simp))) (fun _ => ?_);clear hK K;clear HS;have kr:=HM.out.row (b:=w1.heap.size) (c0:=0) (c1:=0) (c2:=0) (c3:=0) (by simp);have lr:=HM.out.lt (b:=w1.heap.size) (c0:=0) (c1:=0) (c2:=0) (c3:=0) (by simp);have x0:=kr.c0; have x1:=kr.c1; have x2:=kr.c2; have x3:=kr.c3; have xf:=kr.fr;clear kr;refine aD (i:=11) (by kernel_rfl) rfl (fun K hK => ?_);go_simp;refine hK.out _ _ (Or.inl rfl) (fun _ => ?_);clear hK K;refine aU (by kernel_rfl) ?_;go_wp2_with fail
    go_meet
    refine⟨w1.heap.size,p0,p1,p2,p3,rfl,hp,HVp,hg,Lib.hid ?_⟩;exact HM.out.put p0 p1 p2 p3 (by omega) (by intro r hr; simp at hr; rcases hr with rfl|rfl|rfl<;>simp<;>omega)
  ·go_simp;have HS:=HM.out.new (w.heap.size+1+1+1) 0 0 0 0 85 (by first|rfl|(simp; done));have hg:w.heap.size+1+1<(w.heap.size+1+1+1):=by first|(simp; done)|exact HM.out.lt (b:=w.heap.size+1+1) (c0:=0) (c1:=0) (c2:=0) (c3:=0) (by simp)
   have HM9:=HM;clear HM;have HM:=Lib.hid HS;refine hK.out _ _ (Or.inr (HS.sub (by simp))) (fun _ => ?_);clear hK K;clear HS;refine aD (i:=8) (by kernel_rfl) rfl (fun K hK => ?_);go_simp;refine (jH F.m0 F.m1 F.m2 F.m3 T1 HF.out.okm (by omega) (by have:=HT1.out; omega) _).mono ?_
   rintro e w1 ⟨n0,n1,n2,n3,rfl,hn,hv,hbl⟩
   have HS:=HM.out.on hbl;clear HM;have HM:=Lib.hid HS;have HV:=Lib.hid (show aA n0 n1 n2 n3=H by rw[hv,show (T1:Int).toNat=T+1 by have:=HT1.out; omega]; exact HS2.out);clear hv hbl;refine hK.out _ _ (Or.inr (HS.sub (by simp))) (fun _ => ?_);clear hK K;clear HS;refine aD (i:=9) (by kernel_rfl) rfl (fun K hK => ?_);go_simp;refine (fF F HF.out A b a0 a1 a2 a3 n0 n1 n2 n3 ha hn HA.out _ (HK.out.same HM.out.1)).mono ?_
   rintro e w2 ⟨p0,p1,p2,p3,rfl,hp,hv,hbl⟩
   have HS:=HM.out.on hbl;clear HM;have HM:=Lib.hid HS;have HVp:=Lib.hid (show aA p0 p1 p2 p3=kp F (A^H) by rw[hv,HV.out]);clear hv hbl;refine hK.out _ _ (Or.inr (HS.sub (by simp))) (fun _ => ?_);clear hK K;clear HS;have kr:=HM.out.row (b:=(w.heap.size+1+1+1)) (c0:=0) (c1:=0) (c2:=0) (c3:=0) (by simp);have lr:=HM.out.lt (b:=(w.heap.size+1+1+1)) (c0:=0) (c1:=0) (c2:=0) (c3:=0) (by simp);have x0:=kr.c0; have x1:=kr.c1; have x2:=kr.c2; have x3:=kr.c3; have xf:=kr.fr;clear kr;refine aD (i:=11) (by kernel_rfl) rfl (fun K hK => ?_);go_simp;refine hK.out _ _ (Or.inl rfl) (fun _ => ?_);clear hK K;refine aU (by kernel_rfl) ?_;go_wp2_with fail
   go_meet
   refine⟨(w.heap.size+1+1+1),p0,p1,p2,p3,rfl,hp,HVp,hg,Lib.hid ?_⟩;exact HM.out.put p0 p1 p2 p3 (by omega) (by intro r hr; simp at hr; rcases hr with rfl|rfl|rfl<;>simp<;>omega)
 case rest =>
  obtain⟨g',p0,p1,p2,p3,rfl,hp,HVp,hg,HM⟩:=hcut;clear k0 k1 k2 k3 e1 bT1;have kr:=HM.out.row (b:=w.heap.size) (c0:=a0) (c1:=a1) (c2:=a2) (c3:=a3) (by simp);have x0:=kr.c0; have x1:=kr.c1; have x2:=kr.c2; have x3:=kr.c3;clear kr;have xl:=HM.out.lt (b:=w.heap.size) (c0:=a0) (c1:=a1) (c2:=a2) (c3:=a3) (by simp);have kr:=HM.out.row (b:=g') (c0:=p0) (c1:=p1) (c2:=p2) (c3:=p3) (by simp);have y0:=kr.c0; have y1:=kr.c1; have y2:=kr.c2; have y3:=kr.c3;clear kr;have yl:=HM.out.lt (b:=g') (c0:=p0) (c1:=p1) (c2:=p2) (c3:=p3) (by simp);go_wp2_with fail;refine (cC F HF.out b a0 a1 a2 a3 p0 p1 p2 p3 (by assumption) (by assumption) (by rw[HVp.out]; exact lO HF.out _) _ (HK.out.same HM.out.1)).mono ?_
  rintro e w3 ⟨q0,q1,q2,q3,rfl,hq,hv,hbl⟩
  have HVq:=Lib.hid (show aA q0 q1 q2 q3=kp F (A*A^H) by rw[hv,HA.out,HVp.out,fH HF.out,fU]);have MM:=HM.out.on hbl;clear HM hv hbl x0 x1 x2 x3 xl y0 y1 y2 y3 yl;have HM:=Lib.hid (MM.new w3.heap.size q0 q1 q2 q3 85 rfl);have hg3:w.heap.size+1+1<w3.heap.size:=MM.lt (b:=w.heap.size+1+1) (c0:=0) (c1:=0) (c2:=0) (c3:=0) (by simp);clear MM;have kr:=HM.out.row (b:=w3.heap.size) (c0:=q0) (c1:=q1) (c2:=q2) (c3:=q3) (by simp);have x0:=kr.c0; have x1:=kr.c1; have x2:=kr.c2; have x3:=kr.c3;clear kr;have xl:=HM.out.lt (b:=w3.heap.size) (c0:=q0) (c1:=q1) (c2:=q2) (c3:=q3) (by simp);have kr:=HM.out.row (b:=g') (c0:=p0) (c1:=p1) (c2:=p2) (c3:=p3) (by simp);have y0:=kr.c0; have y1:=kr.c1; have y2:=kr.c2; have y3:=kr.c3;clear kr;have yl:=HM.out.lt (b:=g') (c0:=p0) (c1:=p1) (c2:=p2) (c3:=p3) (by simp);go_wp2_with fail;refine (cC F HF.out b q0 q1 q2 q3 p0 p1 p2 p3 (by assumption) (by assumption) (by rw[HVp.out]; exact lO HF.out _) _ (HK.out.same HM.out.1)).mono ?_
  rintro e w4 ⟨s0,s1,s2,s3,rfl,hs,hv,hbl⟩
  have HVs:=Lib.hid (show aA s0 s1 s2 s3=kp F (A*A^H*A^H) by rw[hv,HVq.out,HVp.out,fH HF.out,fU]);have MM:=HM.out.on hbl;clear HM hv hbl x0 x1 x2 x3 xl y0 y1 y2 y3 yl;have HM:=Lib.hid (MM.new w4.heap.size s0 s1 s2 s3 85 rfl);have hg4:w3.heap.size<w4.heap.size:=MM.lt (b:=w3.heap.size) (c0:=q0) (c1:=q1) (c2:=q2) (c3:=q3) (by simp);clear MM;have HM':=Lib.hid (HM.out.sub (rs':=[(w3.heap.size,q0,q1,q2,q3),(w4.heap.size,s0,s1,s2,s3),(w.heap.size+1,c0,c1,c2,c3),(w.heap.size+1+1,0,0,0,0)]) (by simp));clear HM;have HM:=HM';clear HM';go_wp2_with fail
  go_loopw [2] (fun t wr=>∃U R S D r0 r1 r2 r3 s0 s1 s2 s3 d0 d1 d2 d3:Nat,t=.int .i64 U∧U≤200∧aZ r0 r1 r2 r3∧aZ s0 s1 s2 s3∧aZ d0 d1 d2 d3∧Hid (aA r0 r1 r2 r3=kp F R)∧Hid (aA s0 s1 s2 s3=kp F S)∧Hid (aA d0 d1 d2 d3=kp F D)∧Hid (qL F.M A U R S D)∧Hid (Mem w wr [(w3.heap.size,r0,r1,r2,r3),(w4.heap.size,s0,s1,s2,s3),(w.heap.size+1,d0,d1,d2,d3),(w.heap.size+1+1,0,0,0,0)])) (fun t _=>(intOf t).toNat)
  case atStart=>exact⟨T,_,_,C,q0,q1,q2,q3,s0,s1,s2,s3,c0,c1,c2,c3,rfl,hT2,hq,hs,hc,HVq,HVs,HC,HI,HM⟩
  case round =>
   clear HVq HVs hq hs HVp hp HC hc HI HA HM ha;obtain⟨U,R,S,D,r0,r1,r2,r3,s0,s1,s2,s3,d0,d1,d2,d3,rfl,hU,hr',hs,hd,HVr,HVs,HVd,HI,HM⟩:=hrel;obtain⟨wo,rfl⟩:∃wo:World,wo=wr:=⟨_,rfl⟩
   have kr:=HM.out.row (b:=w4.heap.size) (c0:=s0) (c1:=s1) (c2:=s2) (c3:=s3) (by simp);have x0:=kr.c0; have x1:=kr.c1; have x2:=kr.c2; have x3:=kr.c3;clear kr;have xl:=HM.out.lt (b:=w4.heap.size) (c0:=s0) (c1:=s1) (c2:=s2) (c3:=s3) (by simp);go_wp2_with fail;refine (lN F HF.out S b s0 s1 s2 s3 U hs HVs.out (by omega) _ (HK.out.same HM.out.1)).mono ?_
   rintro e w5 ⟨o,rfl,ho,hmin,hone,hbl⟩
   have hoU:o<U:=by
    rcases Nat.lt_or_ge o U with q|q
    ·exact q
    ·exact absurd HI.out.2.2.2 (hmin (U-1) (by have:=HI.out.1; omega))
   have H1:=Lib.hid (hone hoU);have HN:=Lib.hid hmin;have HM5:=Lib.hid (HM.out.on hbl);clear HM hbl hmin hone x0 x1 x2 x3 xl;have HM:=HM5;clear HM5
   rcases Nat.eq_zero_or_pos o with rfl|ho0
   ·have HE:=Lib.hid (show R*R%F.M=A%F.M by
      have h1:=H1.out;rw[Nat.pow_zero,Nat.pow_one]at h1;rw[HI.out.2.1,Nat.mul_mod,h1,Nat.mul_one,Nat.mod_mod])
    have kr:=HM.out.row (b:=w3.heap.size) (c0:=r0) (c1:=r1) (c2:=r2) (c3:=r3) (by simp);have x0:=kr.c0; have x1:=kr.c1; have x2:=kr.c2; have x3:=kr.c3;clear kr;have xl:=HM.out.lt (b:=w3.heap.size) (c0:=r0) (c1:=r1) (c2:=r2) (c3:=r3) (by simp);have kr:=HM.out.row (b:=w.heap.size+1+1) (c0:=0) (c1:=0) (c2:=0) (c3:=0) (by simp);have y0:=kr.c0; have y1:=kr.c1; have y2:=kr.c2; have y3:=kr.c3; have yf:=kr.fr;clear kr;have yl:=HM.out.lt (b:=w.heap.size+1+1) (c0:=0) (c1:=0) (c2:=0) (c3:=0) (by simp);go_wp2_with fail;refine bodyPost_ret (v:=.tuple #[.agg #[.int .u64 r0,.int .u64 r1,.int .u64 r2,.int .u64 r3],.bool true]) (by simp[results,results100,go_sem, *]) rfl ?_;refine⟨_,_,_,_,R,rfl,hr',HVr.out,HE.out,?_⟩;exact aM HM.out.1 (by omega) _ _ _ _
   ·have t0:((o:Int)==0)=false:=by simp; omega
    have t1:((o:Int)==(U:Int))=false:=by simp; omega
    obtain⟨V,e1,hV⟩:∃V:Nat,(U:Int)-(o:Int)=(V:Int)∧V+o=U:=⟨U-o,by omega,by omega⟩
    obtain⟨N,e2,hN⟩:∃N:Nat,(V:Int)-1=(N:Int)∧N+1=V:=⟨V-1,by omega,by omega⟩
    have HNN:=Lib.hid (show N=U-o-1 by omega);have bV:V≤200:=by omega
    have bN:N≤200:=by omega
    have HI2:=Lib.hid (yY hr HF.out.gt HI.out ho0 hoU H1.out (HN.out (o-1) (by omega)));rw[←show N=U-o-1 from HNN.out]at HI2;clear H1 HN HI hV hN HNN;go_wp2_with fail
    go_loopw [47] (fun i wr=>∃k f0 f1 f2 f3:Nat,k≤N∧i=.int .i64 k∧aZ f0 f1 f2 f3∧Hid (aA f0 f1 f2 f3=kp F (D^2^k))∧Hid (Mem w wr [(w3.heap.size,r0,r1,r2,r3),(w4.heap.size,s0,s1,s2,s3),(w.heap.size+1,f0,f1,f2,f3),(w.heap.size+1+1,0,0,0,0)])) (fun i _=>N-(intOf i).toNat)
    case atStart=>exact⟨0,d0,d1,d2,d3,Nat.zero_le _,rfl,hd,Lib.hid (by rw[HVd.out,Nat.pow_zero,Nat.pow_one]),HM⟩
    case round =>
     clear HM HVd hd;obtain⟨k,f0,f1,f2,f3,hk,rfl,hf,HVf,HM⟩:=hrel
     by_cases hlt:k<N
     ·have kr:=HM.out.row (b:=w.heap.size+1) (c0:=f0) (c1:=f1) (c2:=f2) (c3:=f3) (by simp);have x0:=kr.c0; have x1:=kr.c1; have x2:=kr.c2; have x3:=kr.c3;clear kr;have xl:=HM.out.lt (b:=w.heap.size+1) (c0:=f0) (c1:=f1) (c2:=f2) (c3:=f3) (by simp);go_wp2_with fail;refine (cC F HF.out b f0 f1 f2 f3 f0 f1 f2 f3 (by assumption) (by assumption) (by rw[HVf.out]; exact lO HF.out _) _ (HK.out.same HM.out.1)).mono ?_
      rintro e w6 ⟨j0,j1,j2,j3,rfl,hj,hv,hbl⟩
      have HVj:=Lib.hid (show aA j0 j1 j2 j3=kp F (D^2^(k+1)) by rw[hv,HVf.out,fH HF.out,fU,←fK]);have MM:=HM.out.on hbl;clear HM hv hbl x0 x1 x2 x3 xl;have kr:=MM.row (b:=w.heap.size+1) (c0:=f0) (c1:=f1) (c2:=f2) (c3:=f3) (by simp);have x0:=kr.c0; have x1:=kr.c1; have x2:=kr.c2; have x3:=kr.c3; have xf:=kr.fr;clear kr;have xl:=MM.lt (b:=w.heap.size+1) (c0:=f0) (c1:=f1) (c2:=f2) (c3:=f3) (by simp);have HM:=Lib.hid ((MM.sub (rs':=[(w.heap.size+1,f0,f1,f2,f3),(w3.heap.size,r0,r1,r2,r3),(w4.heap.size,s0,s1,s2,s3),(w.heap.size+1+1,0,0,0,0)]) (by simp)).put j0 j1 j2 j3 (by omega) (by intro r hr; simp at hr; rcases hr with rfl|rfl|rfl<;>simp<;>omega));clear MM;have HM':=Lib.hid (HM.out.sub (rs':=[(w3.heap.size,r0,r1,r2,r3),(w4.heap.size,s0,s1,s2,s3),(w.heap.size+1,j0,j1,j2,j3),(w.heap.size+1+1,0,0,0,0)]) (by simp));clear HM;have HM:=HM';clear HM';go_wp2_with fail
      go_roundw
      case rel=>exact⟨k+1,j0,j1,j2,j3,by omega,by go_num,hj,HVj,HM⟩
      case measure=>simp[intOf]; omega
     ·obtain rfl:k=N:=by omega
      have kr:=HM.out.row (b:=w3.heap.size) (c0:=r0) (c1:=r1) (c2:=r2) (c3:=r3) (by simp);have x0:=kr.c0; have x1:=kr.c1; have x2:=kr.c2; have x3:=kr.c3;clear kr;have xl:=HM.out.lt (b:=w3.heap.size) (c0:=r0) (c1:=r1) (c2:=r2) (c3:=r3) (by simp);have kr:=HM.out.row (b:=w.heap.size+1) (c0:=f0) (c1:=f1) (c2:=f2) (c3:=f3) (by simp);have y0:=kr.c0; have y1:=kr.c1; have y2:=kr.c2; have y3:=kr.c3;clear kr;have yl:=HM.out.lt (b:=w.heap.size+1) (c0:=f0) (c1:=f1) (c2:=f2) (c3:=f3) (by simp);go_wp2_with fail;refine (cC F HF.out b r0 r1 r2 r3 f0 f1 f2 f3 (by assumption) (by assumption) (by rw[HVf.out]; exact lO HF.out _) _ (HK.out.same HM.out.1)).mono ?_
      rintro e w7 ⟨q0,q1,q2,q3,rfl,hq,hv,hbl⟩
      have HVq:=Lib.hid (show aA q0 q1 q2 q3=kp F (R*D^2^k) by rw[hv,HVr.out,HVf.out,fH HF.out,fU]);have MM:=HM.out.on hbl;clear HM hv hbl x0 x1 x2 x3 xl y0 y1 y2 y3 yl;have kr:=MM.row (b:=w3.heap.size) (c0:=r0) (c1:=r1) (c2:=r2) (c3:=r3) (by simp);have x0:=kr.c0; have x1:=kr.c1; have x2:=kr.c2; have x3:=kr.c3; have xf:=kr.fr;clear kr;have xl:=MM.lt (b:=w3.heap.size) (c0:=r0) (c1:=r1) (c2:=r2) (c3:=r3) (by simp);have HM:=Lib.hid ((MM.sub (rs':=[(w3.heap.size,r0,r1,r2,r3),(w4.heap.size,s0,s1,s2,s3),(w.heap.size+1,f0,f1,f2,f3),(w.heap.size+1+1,0,0,0,0)]) (by simp)).put q0 q1 q2 q3 (by omega) (by intro r hr; simp at hr; rcases hr with rfl|rfl|rfl<;>simp<;>omega));clear MM;have HM':=Lib.hid (HM.out.sub (rs':=[(w3.heap.size,q0,q1,q2,q3),(w4.heap.size,s0,s1,s2,s3),(w.heap.size+1,f0,f1,f2,f3),(w.heap.size+1+1,0,0,0,0)]) (by simp));clear HM;have HM:=HM';clear HM';unfold set4 at HM;have kr:=HM.out.row (b:=w.heap.size+1) (c0:=f0) (c1:=f1) (c2:=f2) (c3:=f3) (by simp);have x0:=kr.c0; have x1:=kr.c1; have x2:=kr.c2; have x3:=kr.c3;clear kr;have xl:=HM.out.lt (b:=w.heap.size+1) (c0:=f0) (c1:=f1) (c2:=f2) (c3:=f3) (by simp);go_wp2_with fail;refine (cC F HF.out b f0 f1 f2 f3 f0 f1 f2 f3 (by assumption) (by assumption) (by rw[HVf.out]; exact lO HF.out _) _ (HK.out.same HM.out.1)).mono ?_
      rintro e w8 ⟨i0,i1,i2,i3,rfl,hi,hv,hbl⟩
      have HVi:=Lib.hid (show aA i0 i1 i2 i3=kp F (D^2^k*D^2^k) by rw[hv,HVf.out,fH HF.out,fU]);have MM:=HM.out.on hbl;clear HM hv hbl x0 x1 x2 x3 xl;have kr:=MM.row (b:=w.heap.size+1) (c0:=f0) (c1:=f1) (c2:=f2) (c3:=f3) (by simp);have x0:=kr.c0; have x1:=kr.c1; have x2:=kr.c2; have x3:=kr.c3; have xf:=kr.fr;clear kr;have xl:=MM.lt (b:=w.heap.size+1) (c0:=f0) (c1:=f1) (c2:=f2) (c3:=f3) (by simp);have HM:=Lib.hid ((MM.sub (rs':=[(w.heap.size+1,f0,f1,f2,f3),(w3.heap.size,q0,q1,q2,q3),(w4.heap.size,s0,s1,s2,s3),(w.heap.size+1+1,0,0,0,0)]) (by simp)).put i0 i1 i2 i3 (by omega) (by intro r hr; simp at hr; rcases hr with rfl|rfl|rfl<;>simp<;>omega));clear MM;have HM':=Lib.hid (HM.out.sub (rs':=[(w3.heap.size,q0,q1,q2,q3),(w4.heap.size,s0,s1,s2,s3),(w.heap.size+1,i0,i1,i2,i3),(w.heap.size+1+1,0,0,0,0)]) (by simp));clear HM;have HM:=HM';clear HM';unfold set4 at HM;have kr:=HM.out.row (b:=w4.heap.size) (c0:=s0) (c1:=s1) (c2:=s2) (c3:=s3) (by simp);have x0:=kr.c0; have x1:=kr.c1; have x2:=kr.c2; have x3:=kr.c3;clear kr;have xl:=HM.out.lt (b:=w4.heap.size) (c0:=s0) (c1:=s1) (c2:=s2) (c3:=s3) (by simp);have kr:=HM.out.row (b:=w.heap.size+1) (c0:=i0) (c1:=i1) (c2:=i2) (c3:=i3) (by simp);have y0:=kr.c0; have y1:=kr.c1; have y2:=kr.c2; have y3:=kr.c3;clear kr;have yl:=HM.out.lt (b:=w.heap.size+1) (c0:=i0) (c1:=i1) (c2:=i2) (c3:=i3) (by simp);go_wp2_with fail;refine (cC F HF.out b s0 s1 s2 s3 i0 i1 i2 i3 (by assumption) (by assumption) (by rw[HVi.out]; exact lO HF.out _) _ (HK.out.same HM.out.1)).mono ?_
      rintro e w9 ⟨l0,l1,l2,l3,rfl,hl,hv,hbl⟩
      have HVl:=Lib.hid (show aA l0 l1 l2 l3=kp F (S*(D^2^k*D^2^k)) by rw[hv,HVs.out,HVi.out,fH HF.out,fU]);have MM:=HM.out.on hbl;clear HM hv hbl x0 x1 x2 x3 xl y0 y1 y2 y3 yl;have kr:=MM.row (b:=w4.heap.size) (c0:=s0) (c1:=s1) (c2:=s2) (c3:=s3) (by simp);have x0:=kr.c0; have x1:=kr.c1; have x2:=kr.c2; have x3:=kr.c3; have xf:=kr.fr;clear kr;have xl:=MM.lt (b:=w4.heap.size) (c0:=s0) (c1:=s1) (c2:=s2) (c3:=s3) (by simp);have HM:=Lib.hid ((MM.sub (rs':=[(w4.heap.size,s0,s1,s2,s3),(w3.heap.size,q0,q1,q2,q3),(w.heap.size+1,i0,i1,i2,i3),(w.heap.size+1+1,0,0,0,0)]) (by simp)).put l0 l1 l2 l3 (by omega) (by intro r hr; simp at hr; rcases hr with rfl|rfl|rfl<;>simp<;>omega));clear MM;have HM':=Lib.hid (HM.out.sub (rs':=[(w3.heap.size,q0,q1,q2,q3),(w4.heap.size,l0,l1,l2,l3),(w.heap.size+1,i0,i1,i2,i3),(w.heap.size+1+1,0,0,0,0)]) (by simp));clear HM;have HM:=HM';clear HM';go_wp2_with fail
      go_roundw
      case rel=>exact⟨o,_,_,_,q0,q1,q2,q3,l0,l1,l2,l3,i0,i1,i2,i3,rfl,by omega,hq,hl,hi,HVq,HVl,HVi,HI2,HM⟩
      case measure=>simp[intOf]; omega
end Go.Proofs.YtpjlhhpjpnacmaaGreat
