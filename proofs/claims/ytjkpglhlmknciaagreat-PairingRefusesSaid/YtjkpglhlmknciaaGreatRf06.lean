/- Rf06 -/
import Derived.Deep.RegionWith
import Derived.Lib.Hide
import Derived.Below
import Derived.LoopTactic
import Derived.Outline
import Derived.OrdersHeld
import Derived.Deep.RegionHeld
import Derived.KernelRfl
import Derived.Deep.DeepCutAuto
import Derived.Test.YtjkpglhlmknciaaGreatRf05
import Derived.Test.YtjkpglhlmknciaaGreatRf00
import Derived.Test.YtjkpglhlmknciaaGreatRf04
import Derived.Test.YtjkpglhlmknciaaGreatProg
set_option maxRecDepth 100000
set_option linter.unusedVariables false
set_option linter.unusedSimpArgs false
set_option linter.unnecessarySimpa false
namespace Go.Proofs.YtjkpglhlmknciaaGreat
open Go.Proofs.Tryz
open Go.RowKit
def EM (V M:Nat):Bool:=decide (V<M)
theorem aQq {V M c D:Nat} (hD:D<115792089237316195423570985008687907853269984665640564039457584007913129639936) (hc:c≤1) (e:D+M=V+115792089237316195423570985008687907853269984665640564039457584007913129639936*c) (hM:M<115792089237316195423570985008687907853269984665640564039457584007913129639936) (hV:V<115792089237316195423570985008687907853269984665640564039457584007913129639936):((c:Int)==1)=EM V M:=by
 have:c=0∨c=1:=by omega
 unfold EM
 rcases this with rfl|rfl
 ·rw[decide_eq_false (by omega)]; rfl
 ·rw[decide_eq_true (by omega)]; rfl
theorem YR {a b:Bool} (h:a=b):Ending.returned (.bool a)=.returned (.bool b):=by rw[h]
set_option maxHeartbeats 1000000 in
theorem dT (F:FC) (hF:F.Ok) (b a0 a1 a2 a3:Nat) (ha:bV a0 a1 a2 a3) (w:World) (hk:KIs w b F) :
  Calls prog 167 #[.pointer (some ⟨b,0,none⟩),.agg #[.int .u64 a0,.int .u64 a1,.int .u64 a2,.int .u64 a3]] w fun e w'=>e=.returned (.bool (EM (aC a0 a1 a2 a3) F.M))∧Below w.heap.size w w':=by
 obtain⟨d0,c0,d1,c1,d2,c2,d3,c3,r0,r1,r2,r3,hd,hc,e⟩:=SL ha hF.okm;have HB:=Lib.hid (aQq (bK hd) hc e.out (bK hF.okm) (bK ha));have hL:=hk.lt;have hL':b≠w.heap.size:=by omega
 have k0:=hk.k0; have k1:=hk.k1; have k2:=hk.k2; have k3:=hk.k3;clear hk hF e
 go_enter func167,ntmps167
 go_wp2_with fail
 go_quiet (fail)
 go_wp2_with fail
 go_quiet (fail)
 go_wp2_with fail
 go_quiet (fail)
 go_wp2_with fail
 go_quiet (fail)
 go_wp2_with fail;go_ret;exact⟨YR HB.out,by repeat (first|exact Below.refl _ _|refine Below.drew ?_|exact bD _ _ _|refine Below.alloc ?_ (by first|(simp; done)|(simp; omega)) _|refine Below.trans ?_ (bD _ _ _))⟩
set_option maxHeartbeats 1000000 in
theorem GN (F:FC) (hF:F.Ok) (b a0 a1 a2 a3 b0 b1 b2 b3:Nat) (ha:bV a0 a1 a2 a3) (hb:bV b0 b1 b2 b3) (la:aC a0 a1 a2 a3<F.M) (lb:aC b0 b1 b2 b3<F.M) (w:World) (hk:KIs w b F) :
  Calls prog 140 #[.pointer (some ⟨b,0,none⟩),.agg #[.int .u64 a0,.int .u64 a1,.int .u64 a2,.int .u64 a3],.agg #[.int .u64 b0,.int .u64 b1,.int .u64 b2,.int .u64 b3]] w (fC ((aC a0 a1 a2 a3+aC b0 b1 b2 b3)%F.M) w):=by
 obtain⟨d0,c0,d1,c1,d2,c2,d3,c3,r0,r1,r2,r3,hd,hc,e⟩:=Qy ha hb;have e':aC d0 d1 d2 d3=aC a0 a1 a2 a3+aC b0 b1 b2 b3:=by have:=e.out; have:=hF.two; omega
 rw[←e'];have hlt:aC d0 d1 d2 d3<2*F.M:=by omega
 have HK:=Lib.hid hk;have hL:=hk.lt;clear e e' hk
 go_enter func140,ntmps140
 go_wp2_with fail;refine (GT F hF b d0 d1 d2 d3 hd hlt _ (HK.out.same ?_)).mono ?_
 ·repeat (first|exact Below.refl _ _|refine Below.drew ?_|refine Below.alloc ?_ (by first|(simp; done)|(simp; omega)) _)
 rintro e w1 ⟨s0,s1,s2,s3,rfl,hs,hv,hbl⟩
 have HV:=Lib.hid hv;obtain⟨hc,hf⟩:=JU hbl;have hz:w.heap.size+1+1<w1.heap.size:=by have:=hbl.size; simp at this; omega
 have HBL:=Lib.hid hbl;clear hv hbl;go_wp2_with fail;refine bodyPost_ret (v:=.agg #[.int .u64 s0,.int .u64 s1,.int .u64 s2,.int .u64 s3]) (by simp[results,results140,go_sem, *]) rfl ?_;refine⟨_,_,_,_,rfl,hs,HV.out,?_⟩;refine bG (Below.trans ?_ (HBL.out.mono (by simp; omega))) (by omega) _ _ _ _
 repeat (first|exact Below.refl _ _|refine Below.drew ?_|refine Below.alloc ?_ (by first|(simp; done)|(simp; omega)) _)
theorem Xg {A B D M c:Nat} (ha:A<M) (hb:B<M) (e:D+B=A+115792089237316195423570985008687907853269984665640564039457584007913129639936*c) (hc:c≤1) (hD:D<115792089237316195423570985008687907853269984665640564039457584007913129639936) (hM:2*M<115792089237316195423570985008687907853269984665640564039457584007913129639936) :
  (c=0→D=(A+M-B)%M)∧(c=1→∀E c',E+115792089237316195423570985008687907853269984665640564039457584007913129639936*c'=D+M→c'≤1→E<115792089237316195423570985008687907853269984665640564039457584007913129639936→E=(A+M-B)%M):=by
 refine⟨fun h => ?_,fun h E c' e' hc' hE => ?_⟩
 ·subst h;rw[show A+M-B=(A-B)+M by omega,Nat.add_mod_right,Nat.mod_eq_of_lt (by omega)]; omega
 ·subst h;have:c'=0∨c'=1:=by omega
  rw[Nat.mod_eq_of_lt (by omega)]; omega
set_option maxHeartbeats 1000000 in
theorem CL (F:FC) (hF:F.Ok) (b a0 a1 a2 a3 b0 b1 b2 b3:Nat) (ha:bV a0 a1 a2 a3) (hb:bV b0 b1 b2 b3) (la:aC a0 a1 a2 a3<F.M) (lb:aC b0 b1 b2 b3<F.M) (w:World) (hk:KIs w b F) :
  Calls prog 169 #[.pointer (some ⟨b,0,none⟩),.agg #[.int .u64 a0,.int .u64 a1,.int .u64 a2,.int .u64 a3],.agg #[.int .u64 b0,.int .u64 b1,.int .u64 b2,.int .u64 b3]] w (fC ((aC a0 a1 a2 a3+F.M-aC b0 b1 b2 b3)%F.M) w):=by
 obtain⟨d0,c0,d1,c1,d2,c2,d3,c3,r0,r1,r2,r3,hd,hc,e⟩:=SL ha hb;have hv:=Xg la lb e.out hc (bK hd) hF.two;have hL:=hk.lt;have hL1:b<w.heap.size+1:=by omega
 have hL2:b<w.heap.size+1+1:=by omega
 have k0:=hk.k0; have k1:=hk.k1; have k2:=hk.k2; have k3:=hk.k3;have HM:=Lib.hid (show F.M=aC F.m0 F.m1 F.m2 F.m3 from rfl);clear la lb e hk;have hc':c3=0∨c3=1:=by omega
 rcases hc' with rfl|rfl
 ·have HV:=Lib.hid (hv.1 rfl);clear hv hF
  go_enter func169,ntmps169
  go_wp2_with fail;refine bodyPost_ret (v:=.agg #[.int .u64 d0,.int .u64 d1,.int .u64 d2,.int .u64 d3]) (by simp[results,results169,go_sem]) rfl ?_;refine⟨_,_,_,_,rfl,hd,HV.out,?_⟩
  repeat (first|exact Below.refl _ _|refine Below.drew ?_|refine Below.alloc ?_ (by first|(simp; done)|(simp; omega)) _|refine Below.setCell ?_ (by simp) _)
 ·obtain⟨n0,g0,n1,g1,n2,g2,n3,g3,q0,q1,q2,q3,hn,hg,f⟩:=Qy hd hF.okm;have HV:=Lib.hid (hv.2 rfl _ _ (by rw[HM.out]; exact f.out) hg (bK hn));clear hv f hF
  go_enter func169,ntmps169
  go_wp2_with fail;refine bodyPost_ret (v:=.agg #[.int .u64 n0,.int .u64 n1,.int .u64 n2,.int .u64 n3]) (by simp[results,results169,go_sem]) rfl ?_;refine⟨_,_,_,_,rfl,hn,HV.out,?_⟩
  repeat (first|exact Below.refl _ _|refine Below.drew ?_|refine Below.alloc ?_ (by first|(simp; done)|(simp; omega)) _|refine Below.setCell ?_ (by simp) _)
def kp (F:FC) (a:Nat):Nat:=a*F.R%F.M
section
variable {F:FC}
theorem aMw (hF:F.Ok) (a:Nat):kp F a<F.M:=Nat.mod_lt _ (by have:=hF.gt; omega)
theorem pI (hF:F.Ok) (x:Nat):x*F.R*F.Ri%F.M=x%F.M:=by
 rw[Nat.mul_assoc,Nat.mul_mod,hF.ri,Nat.mul_one,Nat.mod_mod]
theorem rL {M a b c d:Nat} (h:a%M=b%M) (h':c%M=d%M):a*c%M=b*d%M:=by rw[Nat.mul_mod,h,h',←Nat.mul_mod]
theorem wU (M a:Nat):a%M%M=a%M:=Nat.mod_mod _ _
theorem Bh (hF:F.Ok) (a b:Nat):kp F a*kp F b*F.Ri%F.M=kp F (a*b%F.M):=by
 have h:kp F a*kp F b*F.Ri%F.M=a*F.R*(b*F.R)*F.Ri%F.M:=rL (rL (wU _ _) (wU _ _)) rfl;have e:a*F.R*(b*F.R)=a*b*F.R*F.R:=by rw[Nat.mul_mul_mul_comm,Nat.mul_assoc (a*b)]
 rw[h,e,pI hF];unfold kp;rw[AT]
theorem Pm (hF:F.Ok) (a:Nat):a*aC F.s0 F.s1 F.s2 F.s3*F.Ri%F.M=kp F a:=by
 have h:a*aC F.s0 F.s1 F.s2 F.s3*F.Ri%F.M=a*(F.R*F.R)*F.Ri%F.M:=by rw[hF.sq]; exact rL (rL rfl (wU _ _)) rfl
 rw[h,←Nat.mul_assoc,pI hF];rfl
theorem IQ (hF:F.Ok) (a b:Nat):kp F a*b*F.Ri%F.M=a*b%F.M:=by
 have h:kp F a*b*F.Ri%F.M=a*F.R*b*F.Ri%F.M:=rL (rL (wU _ _) rfl) rfl;rw[h,Nat.mul_right_comm a,pI hF]
theorem RS (F:FC) (a:Nat):kp F (a%F.M)=kp F a:=by unfold kp; rw[AT]
theorem CQ (F:FC) (a n b:Nat) (h:b=0∨b=1):(b=0→kp F (a^(2*n+b))=kp F (a^n*a^n%F.M))∧(b=1→kp F (a^(2*n+b))=kp F (a^n*a^n%F.M*a%F.M)):=by
 have e:a^(2*n)=a^n*a^n:=by rw[Nat.two_mul,Nat.pow_add]
 refine⟨fun h => ?_,fun h => ?_⟩
 ·subst h; rw[Nat.add_zero,RS,e]
 ·subst h; rw[RS,Nat.pow_succ,e,←RS F (_%_*a),AT,RS]
end
theorem FC.Ok.sqlt {F:FC} (hF:F.Ok):aC F.s0 F.s1 F.s2 F.s3<F.M:=by rw[hF.sq]; exact Nat.mod_lt _ (by have:=hF.gt; omega)
theorem FC.Ok.pos {F:FC} (hF:F.Ok):0<F.M:=by have:=hF.gt; omega
set_option maxHeartbeats 1000000 in
theorem qY (F:FC) (hF:F.Ok) (b a0 a1 a2 a3:Nat) (ha:bV a0 a1 a2 a3) (w:World) (hk:KIs w b F) :
  Calls prog 142 #[.pointer (some ⟨b,0,none⟩),.agg #[.int .u64 a0,.int .u64 a1,.int .u64 a2,.int .u64 a3]] w (fC (kp F (aC a0 a1 a2 a3)) w):=by
 have HK:=Lib.hid hk;have HF:=Lib.hid hF;have hL:=hk.lt;have hL1:b<w.heap.size+1:=by omega
 have hL2:b<w.heap.size+1+1:=by omega
 have k5:=hk.k5; have k6:=hk.k6; have k7:=hk.k7; have k8:=hk.k8;clear hk hF
 go_enter func142,ntmps142
 go_wp2_with fail
 go_region_with (go_at_call 141; refine (jF F HF.out b a0 a1 a2 a3 F.s0 F.s1 F.s2 F.s3 ha HF.out.oks HF.out.sqlt _ (HK.out.same (by repeat (first|exact Below.refl _ _|refine Below.drew ?_|refine Below.trans ?_ (bD _ _ _)|refine Below.alloc ?_ (by first|(simp; done)|(simp; omega)) _)))).mono ?_; rintro e ws ⟨s0,s1,s2,s3,rfl,hs,hv,hbl⟩; have HVs:=Lib.hid hv; obtain⟨hcs,hfs⟩:=JU hbl; have hzs:w.heap.size+1<ws.heap.size:=by { have:=hbl.size; simp at this; omega }; have HBLs:=Lib.hid hbl; clear hv hbl)
 all_goals (
  go_wp2_with fail;refine bodyPost_ret (v:=.agg #[.int .u64 s0,.int .u64 s1,.int .u64 s2,.int .u64 s3]) (by simp[results,results142,go_sem, *]) rfl ?_;refine⟨_,_,_,_,rfl,hs,HVs.out.trans (Pm HF.out _),?_⟩;refine bG (Below.trans ?_ (HBLs.out.mono (by first|(simp; done)|(simp; omega)))) (by omega) _ _ _ _
  repeat (first|exact Below.refl _ _|refine Below.drew ?_|refine Below.trans ?_ (bD _ _ _)|refine Below.alloc ?_ (by first|(simp; done)|(simp; omega)) _)
 )
theorem II (n:Nat) (hn:n<18446744073709551616) (w:World):Calls prog 22 #[.int .u64 n] w fun e w'=>e=.returned (.agg #[.int .u64 n,.int .u64 0,.int .u64 0,.int .u64 0])∧Below w.heap.size w w':=by
 go_enter func22,ntmps22
 go_wp2_with fail;refine bodyPost_ret (v:=.agg #[.int .u64 n,.int .u64 0,.int .u64 0,.int .u64 0]) (by simp[results,results22,go_sem]) rfl ?_;exact⟨rfl,by repeat (first|exact Below.refl _ _|refine Below.drew ?_|refine Below.alloc ?_ (by first|(simp; done)|(simp; omega)) _|refine Below.setCell ?_ (by simp) _)⟩
set_option maxHeartbeats 1000000 in
theorem Wq (F:FC) (hF:F.Ok) (b:Nat)  (w:World) (hk:KIs w b F) :
  Calls prog 208 #[.pointer (some ⟨b,0,none⟩)] w (fC (kp F 1) w):=by
 have HK:=Lib.hid hk;have HF:=Lib.hid hF;have hL:=hk.lt;have hL1:b<w.heap.size+1:=by omega
 have hL2:b<w.heap.size+1+1:=by omega
 clear hk hF
 go_enter func208,ntmps208
 go_wp2_with fail;refine (II 1 (by omega) _).mono ?_
 rintro e w1 ⟨rfl,hb1⟩
 have hz1:w.heap.size<w1.heap.size:=by have:=hb1.size; simp at this; omega
 obtain⟨hc1,hf1⟩:=JU hb1;have HB1:=Lib.hid hb1;have HK1:=Lib.hid ((HK.out.same (by repeat (first|exact Below.refl _ _|refine Below.drew ?_|refine Below.trans ?_ (bD _ _ _)|refine Below.alloc ?_ (by first|(simp; done)|(simp; omega)) _)):KIs (w.alloc _) b F).same hb1);clear hb1;go_wp2_with fail;refine (qY F HF.out b 1 0 0 0 ⟨by omega,by omega,by omega,by omega⟩ _ HK1.out).mono ?_
 rintro e ws ⟨s0,s1,s2,s3,rfl,hs,hv,hbl⟩
 have HVs:=Lib.hid hv;obtain⟨hcs,hfs⟩:=JU hbl;have hzs:w.heap.size<ws.heap.size:=by have:=hbl.size; omega
 have HBLs:=Lib.hid (HB1.out.trans (hbl.mono HB1.out.size));clear hv hbl;go_wp2_with fail;refine bodyPost_ret (v:=.agg #[.int .u64 s0,.int .u64 s1,.int .u64 s2,.int .u64 s3]) (by simp[results,results208,go_sem, *]) rfl ?_;refine⟨_,_,_,_,rfl,hs,HVs.out,?_⟩;refine bG (Below.trans ?_ (HBLs.out.mono (by first|(simp; done)|(simp; omega)))) (by omega) _ _ _ _
 repeat (first|exact Below.refl _ _|refine Below.drew ?_|refine Below.trans ?_ (bD _ _ _)|refine Below.alloc ?_ (by first|(simp; done)|(simp; omega)) _)
set_option maxHeartbeats 1000000 in
theorem uZ (F:FC) (hF:F.Ok) (b a0 a1 a2 a3 b0 b1 b2 b3:Nat) (ha:bV a0 a1 a2 a3) (hb:bV b0 b1 b2 b3) (lb:aC b0 b1 b2 b3<F.M) (w:World) (hk:KIs w b F) :
  Calls prog 180 #[.pointer (some ⟨b,0,none⟩),.agg #[.int .u64 a0,.int .u64 a1,.int .u64 a2,.int .u64 a3],.agg #[.int .u64 b0,.int .u64 b1,.int .u64 b2,.int .u64 b3]] w (fC (aC a0 a1 a2 a3*aC b0 b1 b2 b3%F.M) w):=by
 have HK:=Lib.hid hk;have HF:=Lib.hid hF;have hL:=hk.lt;have hL1:b<w.heap.size+1:=by omega
 have hL2:b<w.heap.size+1+1:=by omega
 have HLB:=Lib.hid lb;clear lb;clear hk hF
 go_enter func180,ntmps180
 go_wp2_with fail
 go_region_with (first|(go_at_call 142; refine (qY F HF.out b a0 a1 a2 a3 ha _ (HK.out.same (by repeat (first|exact Below.refl _ _|refine Below.drew ?_|refine Below.trans ?_ (bD _ _ _)|refine Below.alloc ?_ (by first|(simp; done)|(simp; omega)) _)))).mono ?_; rintro e ws ⟨s0,s1,s2,s3,rfl,hs,hv,hbl⟩; have HVs:=Lib.hid hv; obtain⟨hcs,hfs⟩:=JU hbl; have hzs:w.heap.size+1+1<ws.heap.size:=by { have:=hbl.size; simp at this; omega }; have HBLs:=Lib.hid hbl; clear hv hbl; have HKs:=Lib.hid (KIs.same (F:=F) (b:=b) (HK.out.same (by repeat (first|exact Below.refl _ _|refine Below.drew ?_|refine Below.trans ?_ (bD _ _ _)|refine Below.alloc ?_ (by first|(simp; done)|(simp; omega)) _))) HBLs.out))|(go_at_call 141; refine (jF F HF.out b s0 s1 s2 s3 b0 b1 b2 b3 hs hb HLB.out _ HKs.out).mono ?_; rintro e wp ⟨p0,p1,p2,p3,rfl,hp,hv,hbl⟩; have HVp:=Lib.hid hv; obtain⟨hcp,hfp⟩:=JU hbl; have hzp:w.heap.size+1+1<wp.heap.size:=by { have:=hbl.size; omega }; have HBLp:=Lib.hid (HBLs.out.trans (hbl.mono HBLs.out.size)); clear hv hbl))
 all_goals (
  go_wp2_with fail;refine bodyPost_ret (v:=.agg #[.int .u64 p0,.int .u64 p1,.int .u64 p2,.int .u64 p3]) (by simp[results,results180,go_sem, *]) rfl ?_;refine⟨_,_,_,_,rfl,hp,HVp.out.trans (by rw[HVs.out]; exact IQ HF.out _ _),?_⟩;refine bG (Below.trans ?_ (HBLp.out.mono (by first|(simp; done)|(simp; omega)))) (by omega) _ _ _ _
  repeat (first|exact Below.refl _ _|refine Below.drew ?_|refine Below.trans ?_ (bD _ _ _)|refine Below.alloc ?_ (by first|(simp; done)|(simp; omega)) _)
 )
theorem vF {a p:Nat} (ha:a<18446744073709551616) (hp:p≤63):∃lo hi:Nat,IntKind.u64.wrap ((a:Int)*2^p)=(lo:Int)∧(a:Int)/2^(64-p)=(hi:Int) ∧
  lo<18446744073709551616∧hi<18446744073709551616∧Hid (lo+18446744073709551616*hi=a*2^p)∧Hid (hi<2^p)∧Hid (∃t,lo=2^p*t):=by
 have hps:=AL p hp;have hpos:0<2^p:=Nat.two_pow_pos p;have hd:a*2^p/18446744073709551616=a/2^(64-p):=by rw[←hps]; exact Nat.mul_div_mul_right _ _ hpos
 have hh:a/2^(64-p)<2^p:=by rw[Nat.div_lt_iff_lt_mul (Nat.two_pow_pos _),Nat.mul_comm,hps]; exact ha
 refine⟨a*2^p%18446744073709551616,a/2^(64-p),?_,?_,by omega,?_,Lib.hid ?_,Lib.hid hh,Lib.hid ?_⟩
 ·rw[kC,kL]
 ·rw[Int.natCast_ediv,Int.natCast_pow]; rfl
 ·exact Nat.lt_of_le_of_lt (Nat.div_le_self _ _) ha
 ·rw[←hd]; omega
 ·refine⟨a%2^(64-p),?_⟩;rw[←hps,Nat.mul_mod_mul_right,Nat.mul_comm]
theorem OC {lo hi p:Nat} (hl:lo<18446744073709551616) (hh:hi<18446744073709551616) (h1:Hid (hi<2^p)) (h2:Hid (∃t,lo=2^p*t)):∃s:Nat,bits .or .u64 (lo:Int) (hi:Int)=(s:Int)∧s<18446744073709551616∧Hid (s=lo+hi):=by
 obtain⟨t,ht⟩:=h2.out;have e:lo ||| hi=lo+hi:=by rw[ht,←Nat.two_pow_add_eq_or_of_lt h1.out]
 refine⟨lo+hi,by rw[bits_or_u64_nat _ _ hl hh,e],?_,Lib.hid rfl⟩;rw[←e]; exact Nat.or_lt_two_pow (n:=64) hl hh
theorem lC {a p:Nat} (ha:a<18446744073709551616) (hp:p≤63):∃lo up:Nat,(a:Int)/2^p=(lo:Int)∧IntKind.u64.wrap ((a:Int)*2^(64-p))=(up:Int) ∧
  lo<18446744073709551616∧up<18446744073709551616∧Hid (∃m,a=lo*2^p+m∧m<2^p∧up*2^p=m*18446744073709551616)∧Hid (lo<2^(64-p))∧Hid (∃t,up=2^(64-p)*t):=by
 have hps:=AL p hp;have hpos:0<2^p:=Nat.two_pow_pos p;refine⟨a/2^p,a%2^p*2^(64-p),?_,?_,Nat.lt_of_le_of_lt (Nat.div_le_self _ _) ha,?_,Lib.hid ⟨a%2^p,?_,Nat.mod_lt _ hpos,?_⟩,Lib.hid ?_,Lib.hid ⟨a%2^p,Nat.mul_comm _ _⟩⟩
 ·rw[Int.natCast_ediv,Int.natCast_pow]; rfl
 ·rw[kC,kL];congr 1;rw[show 18446744073709551616=2^p*2^(64-p) by rw[Nat.mul_comm,hps],Nat.mul_mod_mul_right]
 ·have:=Nat.mul_lt_mul_of_pos_right (Nat.mod_lt a hpos) (Nat.two_pow_pos (64-p));rw[Nat.mul_comm (2^p),hps]at this;exact this
 ·rw[Nat.mul_comm]; exact (Nat.div_add_mod a (2^p)).symm
 ·rw[Nat.mul_assoc,hps]
 ·rw[Nat.div_lt_iff_lt_mul hpos,hps]; exact ha
theorem wR {lo up k:Nat} (hl:lo<18446744073709551616) (hu:up<18446744073709551616) (h1:Hid (lo<2^k)) (h2:Hid (∃t,up=2^k*t)):∃s:Nat,bits .or .u64 (lo:Int) (up:Int)=(s:Int)∧s<18446744073709551616∧Hid (s=lo+up):=by
 obtain⟨t,ht⟩:=h2.out;have e:lo ||| up=lo+up:=by rw[Nat.or_comm,ht,←Nat.two_pow_add_eq_or_of_lt h1.out,Nat.add_comm]
 refine⟨lo+up,by rw[bits_or_u64_nat _ _ hl hu,e],?_,Lib.hid rfl⟩;rw[←e]; exact Nat.or_lt_two_pow (n:=64) hl hu
theorem Ca {n:Int} (h0:0≤n) (q:Int) (h:n/64=q) (h1:0≤q):∃p:Nat,n%64=(p:Int)∧p≤63∧n.toNat=64*q.toNat+p :=
 ⟨(n%64).toNat,by omega,by omega,by omega⟩
theorem yA (q p:Nat):2^(64*q+p)=18446744073709551616^q*2^p:=by rw[Nat.pow_add,Nat.pow_mul]
theorem EP {r x T m:Nat} (h:r*T+m=x) (hm:m<T):r=x/T:=by
 subst h;rw[Nat.mul_comm,Nat.mul_add_div (by omega),Nat.div_eq_of_lt hm,Nat.add_zero]
theorem or2 {a b A B:Nat} (ha:a<18446744073709551616) (hb:b<18446744073709551616):(a ||| b)+18446744073709551616*(A ||| B)=(a+18446744073709551616*A) ||| (b+18446744073709551616*B):=by
 have h1:a+18446744073709551616*A=2^64*A ||| a:=by rw[←Nat.two_pow_add_eq_or_of_lt (show a<2^64 from ha)]; omega
 have h2:b+18446744073709551616*B=2^64*B ||| b:=by rw[←Nat.two_pow_add_eq_or_of_lt (show b<2^64 from hb)]; omega
 have h3:(a ||| b)+18446744073709551616*(A ||| B)=2^64*(A ||| B) ||| (a ||| b):=by rw[←Nat.two_pow_add_eq_or_of_lt (Nat.or_lt_two_pow (n:=64) ha hb)]; omega
 have h4:2^64*(A ||| B)=2^64*A ||| 2^64*B:=by
  rw[Nat.mul_comm _ (A ||| B),Nat.mul_comm _ A,Nat.mul_comm _ B,←Nat.shiftLeft_eq,←Nat.shiftLeft_eq,←Nat.shiftLeft_eq,Nat.shiftLeft_or_distrib]
 rw[h1,h2,h3,h4];simp only[Nat.or_assoc];congr 1;rw[←Nat.or_assoc,←Nat.or_assoc,Nat.or_comm a]
theorem or4 {a0 a1 a2 a3 b0 b1 b2 b3:Nat} (ha:bV a0 a1 a2 a3) (hb:bV b0 b1 b2 b3):aC (a0 ||| b0) (a1 ||| b1) (a2 ||| b2) (a3 ||| b3)=aC a0 a1 a2 a3 ||| aC b0 b1 b2 b3:=by
 unfold aC;rw[or2 ha.2.2.1 hb.2.2.1,or2 ha.2.1 hb.2.1,or2 ha.1 hb.1]
def LenIs (n L:Nat):Prop:=n<2^L∧(0<L→2^(L-1)≤n)
theorem LenIs.uniq {n L M:Nat} (h:LenIs n L) (k:LenIs n M):L=M:=by
 rcases Nat.lt_trichotomy L M with c|c|c
 ·have h1:=k.2 (by omega);have h2:=Nat.pow_le_pow_right (show 0<2 by omega) (show L≤M-1 by omega);have:=h.1; omega
 ·exact c
 ·have h1:=h.2 (by omega);have h2:=Nat.pow_le_pow_right (show 0<2 by omega) (show M≤L-1 by omega);have:=k.1; omega
theorem LenIs.zero:LenIs 0 0:=⟨by simp,fun h=>absurd h (by omega)⟩
theorem LenIs.up {n x L k:Nat} (hn:n<2^k) (hx:0<x) (h:LenIs x L):LenIs (n+x*2^k) (k+L):=by
 have hL:0<L:=by
  rcases Nat.eq_zero_or_pos L with e|e
  ·subst e; have:=h.1; simp at this; omega
  ·exact e
 constructor
 ·have:=Nat.mul_le_mul_right (2^k) (show x+1≤2^L from h.1);rw[Nat.add_mul,Nat.one_mul]at this;rw[Nat.pow_add,Nat.mul_comm (2^k)]; omega
 ·intro _;have:=Nat.mul_le_mul_right (2^k) (h.2 hL);rw[show k+L-1=k+(L-1) by omega,Nat.pow_add,Nat.mul_comm (2^k)]; omega
theorem aEN {y:Nat} (h0:0<y) (hy:y<18446744073709551616):∃S:Nat,(∀w,Calls prog 205 #[.int .u64 y] w fun e w'=>e=.returned (.int .i64 S)∧w'=w)∧S≤64∧Hid (LenIs y S):=by
 obtain⟨hl,ha,hb,hk⟩:=aDA h0 hy;refine⟨y.log2+1,fun w => ?_,by omega,Lib.hid ⟨hb,fun _=>ha⟩⟩;have:=Tryz.bits_Len64 (y:Int) w (by omega) (by omega);rw[Int.toNat_natCast,hl]at this;exact this
theorem XU (a0 a1 a2 a3:Nat) (w:World):(Instr.index 67 (.agg #[.int .u64 a0,.int .u64 a1,.int .u64 a2,.int .u64 a3]) (.int .i64 (0:Nat))).run prog w=.ok (.int .u64 (a0:Nat)) w:=by kernel_rfl
theorem XT (a0 a1 a2 a3:Nat) (w:World):(Instr.index 67 (.agg #[.int .u64 a0,.int .u64 a1,.int .u64 a2,.int .u64 a3]) (.int .i64 (1:Nat))).run prog w=.ok (.int .u64 (a1:Nat)) w:=by kernel_rfl
theorem XS (a0 a1 a2 a3:Nat) (w:World):(Instr.index 67 (.agg #[.int .u64 a0,.int .u64 a1,.int .u64 a2,.int .u64 a3]) (.int .i64 (2:Nat))).run prog w=.ok (.int .u64 (a2:Nat)) w:=by kernel_rfl
theorem XR (a0 a1 a2 a3:Nat) (w:World):(Instr.index 67 (.agg #[.int .u64 a0,.int .u64 a1,.int .u64 a2,.int .u64 a3]) (.int .i64 (3:Nat))).run prog w=.ok (.int .u64 (a3:Nat)) w:=by kernel_rfl
theorem Gm (a0 a1 a2 a3 k:Nat) (hk:k<4) (w:World):(Instr.index 67 (.agg #[.int .u64 a0,.int .u64 a1,.int .u64 a2,.int .u64 a3]) (.int .i64 (k:Nat))).run prog w=.ok (.int .u64 (fG [a0,a1,a2,a3] k:Nat)) w:=by
 match k,hk with
 | 0,_=>exact XU a0 a1 a2 a3 w
 | 1,_=>exact XT a0 a1 a2 a3 w
 | 2,_=>exact XS a0 a1 a2 a3 w
 | 3,_=>exact XR a0 a1 a2 a3 w
def aLt (A:Nat) (w:World) (e:Ending) (w':World):Prop :=
 ∃L:Nat,e=.returned (.int .i64 L)∧L≤256∧LenIs A L∧Below w.heap.size w w'
theorem aDy {A:Nat→Nat} {k L S:Nat} (hA:∀j,j<k→A j<18446744073709551616) (h0:0<A k) (hS:LenIs (A k) S):LenIs (tot 18446744073709551616 A (k+1)) (64*k+S):=by
 have h1:=Dr 18446744073709551616 A (by omega) k hA;rw[show 18446744073709551616^k=2^(64*k) by rw[Nat.pow_mul]]at h1;rw[bR,show 18446744073709551616^k=2^(64*k) by rw[Nat.pow_mul]];exact LenIs.up h1 h0 hS
theorem BC (a0 a1 a2 a3:Nat) (ha:bV a0 a1 a2 a3) (w:World) :
  Calls prog 194 #[.agg #[.int .u64 a0,.int .u64 a1,.int .u64 a2,.int .u64 a3]] w (aLt (aC a0 a1 a2 a3) w):=by
 have lA:∀k,fG [a0,a1,a2,a3] k<18446744073709551616:=fun k=>by
  obtain⟨h0,h1,h2,h3⟩:=ha;unfold fG
  match k with
  | 0=>exact h0
  | 1=>exact h1
  | 2=>exact h2
  | 3=>exact h3
  | k+4=>simp
 obtain⟨A,eA⟩:∃A,A=fG [a0,a1,a2,a3]:=⟨_,rfl⟩
 have hix:=fun k hk w=>Gm a0 a1 a2 a3 k hk w
 rw[←eA]at lA;simp only[←eA]at hix;have hv:aC a0 a1 a2 a3=tot 18446744073709551616 A 4:=by rw[←sE,eA]; rfl
 have HV:=Lib.hid hv; have HlA:=Lib.hid lA; have Hix:=Lib.hid hix;clear eA lA hv hix
 go_enter func194,ntmps194
 go_wp2_with fail
 go_loop [3,7] (fun l i=>∃k L:Nat,k≤4∧i=.int .i64 k∧l=.int .i64 L∧L≤64*k∧Hid (LenIs (tot 18446744073709551616 A k) L)) (fun _ i=>4-(intOf i).toNat)
 case atStart=>exact⟨0,0,by omega,rfl,rfl,by omega,Lib.hid LenIs.zero⟩
 case round =>
  obtain⟨k,L,hk,rfl,rfl,hL,hl⟩:=hrel
  by_cases hlt:k<4
  ·obtain⟨x,ex⟩:∃x,x=A k:=⟨_,rfl⟩
   have hx:=Hix.out k hlt;rw[←ex]at hx;have bx:x<18446744073709551616:=by rw[ex]; exact HlA.out k
   rcases Nat.eq_zero_or_pos x with h0|h0
   ·have t0:((x:Int) != 0)=false:=by simp[h0]
    have HN:Hid (LenIs (tot 18446744073709551616 A (k+1)) L):=Lib.hid (by rw[bR,←ex,h0,Nat.zero_mul,Nat.add_zero]; exact hl.out);clear h0 ex;go_wp2_with fail
    go_round
    case rel=>exact⟨k+1,L,by omega,by go_num,rfl,by omega,HN⟩
    case measure=>simp[intOf]; omega
   ·have t0:((x:Int) != 0)=true:=by simp; omega
    obtain⟨S,rS,bS,hS⟩:=aEN h0 bx;have HN:Hid (LenIs (tot 18446744073709551616 A (k+1)) (64*k+S)):=Lib.hid (aDy (L:=L) (fun j _=>HlA.out j) (by omega) (by rw[←ex]; exact hS.out));clear h0 ex;go_wp2_with fail;refine (rS _).mono ?_
    rintro e w' ⟨rfl,rfl⟩
    go_wp2_with fail
    go_round
    case rel=>exact⟨k+1,64*k+S,by omega,by go_num,by go_num,by omega,HN⟩
    case measure=>simp[intOf]; omega
  ·obtain rfl:k=4:=by omega
   go_wp2_with fail;go_ret;exact⟨L,rfl,by omega,by rw[HV.out]; exact hl.out,(Below.refl _ _).alloc (Nat.le_refl _) _⟩
def gA (A i:Nat):Nat:=A/2^i%2
theorem tO (A i:Nat):gA A i=0∨gA A i=1:=by unfold gA; omega
theorem Tb (R:Nat) (P:Nat→Nat) (n:Nat):tot R P (n+1)=P 0+R*tot R (fun k=>P (1+k)) n:=by
 have:=zR R P 1 n;rw[Nat.add_comm n 1,this];simp[tot]
theorem Zj (P:Nat→Nat) (hP:∀k,P k<18446744073709551616) (n j k:Nat) (hj:j<n) (hk:k<64):gA (tot 18446744073709551616 P n) (64*j+k)=P j/2^k%2:=by
 obtain⟨m,rfl⟩:∃m,n=j+(m+1):=⟨n-j-1,by omega⟩
 have h1:=zR 18446744073709551616 P j (m+1);have h2:=Tb 18446744073709551616 (fun k=>P (j+k)) m;have h3:=Dr 18446744073709551616 P (by omega) j (fun k _=>hP k);unfold gA;rw[h1,h2,yA,←Nat.div_div_eq_div_mul,Nat.add_mul_div_left _ _ (by exact Nat.pow_pos (by omega)),Nat.div_eq_of_lt h3,Nat.zero_add];have e:18446744073709551616=2^k*(2*2^(63-k)):=by
  rw[←Nat.pow_succ',←Nat.pow_add,show k+(63-k).succ=64 by omega]
 show (P j+18446744073709551616*_)/2^k%2=_;generalize tot 18446744073709551616 (fun k=>P (j+(1+k))) m=H;rw[show 18446744073709551616*H=2^k*(2*2^(63-k))*H by rw[←e],Nat.mul_assoc,Nat.add_mul_div_left _ _ (by exact Nat.pow_pos (by omega)),Nat.mul_assoc,Nat.add_mul_mod_self_left]
theorem aMI {i:Nat} (h:i<256):∃j k:Nat,(i:Int)/64=(j:Int)∧(i:Int)%64=(k:Int)∧j<4∧k<64∧Hid (i=64*j+k) :=
 ⟨i/64,i%64,by omega,by omega,by omega,by omega,Lib.hid (by omega)⟩
theorem Yo (x:Nat) (hx:x<18446744073709551616):bits .and .u64 (x:Int) 1=((x%2:Nat):Int):=by
 rw[show (1:Int)=((1:Nat):Int)from rfl,bits_and_u64_nat _ _ hx (by omega),Nat.and_one_is_mod]
theorem aEP {x k b:Nat} (hx:x<18446744073709551616) (hb:x/2^k%2=b):∃s:Nat,(x:Int)/2^k=(s:Int)∧bits .and .u64 (s:Int) 1=(b:Int)∧s<18446744073709551616:=by
 have hs:x/2^k<18446744073709551616:=Nat.lt_of_le_of_lt (Nat.div_le_self _ _) hx;exact⟨x/2^k,by rw[Int.natCast_ediv,Int.natCast_pow]; rfl,by rw[Yo _ hs,hb],hs⟩
theorem aFI (A i:Nat):A/2^i=2*(A/2^(i+1))+gA A i:=by
 unfold gA;rw[Nat.pow_succ,←Nat.div_div_eq_div_mul];omega
def Sv (b:Nat) (w:World) (e:Ending) (w':World):Prop:=e=.returned (.int .i64 b)∧Below w.heap.size w w'
theorem Jt {a0 a1 a2 a3:Nat} (ha:bV a0 a1 a2 a3) (k:Nat):fG [a0,a1,a2,a3] k<18446744073709551616:=by
 obtain⟨h0,h1,h2,h3⟩:=ha;unfold fG
 match k with
 | 0=>exact h0
 | 1=>exact h1
 | 2=>exact h2
 | 3=>exact h3
 | k+4=>simp
theorem aGQ (a0 a1 a2 a3:Nat):aC a0 a1 a2 a3=tot 18446744073709551616 (fG [a0,a1,a2,a3]) 4:=by rw[←sE]; rfl
theorem aFL {a0 a1 a2 a3 i j k:Nat} (ha:bV a0 a1 a2 a3) (hj:j<4) (hk:k<64) (e:i=64*j+k):fG [a0,a1,a2,a3] j/2^k%2=gA (aC a0 a1 a2 a3) i:=by
 rw[aGQ,e,Zj _ (Jt ha) 4 j k hj hk]
theorem Ax (w:World) (t:TypeId) (a0 a1 a2 a3 j:Nat) (hj:j<4):(w.alloc (.cells #[.int .u64 a0,.int .u64 a1,.int .u64 a2,.int .u64 a3] t)).cell? ⟨w.heap.size,j,none⟩=some (.int .u64 (fG [a0,a1,a2,a3] j:Nat)) :=
 (RowIs.mk w t [a0,a1,a2,a3] w.heap.size rfl).cell hj
theorem ME (a0 a1 a2 a3 i:Nat) (ha:bV a0 a1 a2 a3) (hi:i<256) (w:World) :
  Calls prog 81 #[.agg #[.int .u64 a0,.int .u64 a1,.int .u64 a2,.int .u64 a3],.int .i64 i] w (Sv (gA (aC a0 a1 a2 a3) i) w):=by
 obtain⟨j,k,q,r,hj,hk,e⟩:=aMI hi;have hc:=Ax w 67 a0 a1 a2 a3 j hj;have hx:=Jt ha j;obtain⟨s,e1,e2,hs⟩:=aEP hx (aFL ha hj hk e.out);have hb:=tO (aC a0 a1 a2 a3) i;generalize gA (aC a0 a1 a2 a3) i=b at *;generalize fG [a0,a1,a2,a3] j=x at *;have hb':b≤1:=by omega
 clear hb e;have t0:decide ((i:Int)<0)=false:=decide_eq_false (by omega);have t1:decide ((255:Int)<(i:Int))=false:=decide_eq_false (by omega)
 go_enter func81,ntmps81
 go_wp2_with fail;go_ret;exact⟨rfl,(Below.refl _ _).alloc (Nat.le_refl _) _⟩
theorem aFK (a0 a1 a2 a3 i:Nat) (ha:bV a0 a1 a2 a3) (hi:i<256) (w:World) :
  Calls prog 62 #[.agg #[.int .u64 a0,.int .u64 a1,.int .u64 a2,.int .u64 a3],.int .i64 i] w (Sv (gA (aC a0 a1 a2 a3) i) w):=by
 obtain⟨j,k,q,r,hj,hk,e⟩:=aMI hi;have hc:=Ax w 67 a0 a1 a2 a3 j hj;have hx:=Jt ha j;obtain⟨s,e1,e2,hs⟩:=aEP hx (aFL ha hj hk e.out);have hb:=tO (aC a0 a1 a2 a3) i;generalize gA (aC a0 a1 a2 a3) i=b at *;generalize fG [a0,a1,a2,a3] j=x at *;have hb':b≤1:=by omega
 clear hb e;have t0:decide ((i:Int)<0)=false:=decide_eq_false (by omega);have t1:decide ((256:Int)≤(i:Int))=false:=decide_eq_false (by omega)
 go_enter func62,ntmps62
 go_wp2_with fail;go_ret;exact⟨rfl,(Below.refl _ _).alloc (Nat.le_refl _) _⟩
theorem Mem.row {w wr:World} {rs:List (Nat×Nat×Nat×Nat×Nat)} (h:Mem w wr rs) {b c0 c1 c2 c3:Nat} (hm:(b,c0,c1,c2,c3)∈rs):Row4 wr b c0 c1 c2 c3:=(h.2 _ hm).2
theorem Mem.lt {w wr:World} {rs:List (Nat×Nat×Nat×Nat×Nat)} (h:Mem w wr rs) {b c0 c1 c2 c3:Nat} (hm:(b,c0,c1,c2,c3)∈rs):b<wr.heap.size:=(h.2 _ hm).1
theorem ZM {N k L:Nat} (hk:k<L):N/2^(L-(k+1))=2*(N/2^(L-k))+gA N (L-1-k):=by
 have:=aFI N (L-1-k);rw[show L-1-k+1=L-k by omega]at this;rw[show L-(k+1)=L-1-k by omega,this]
set_option maxHeartbeats 4000000 in
theorem ZK (F:FC) (hF:F.Ok) (A b a0 a1 a2 a3 n0 n1 n2 n3:Nat) (ha:bV a0 a1 a2 a3) (hn:bV n0 n1 n2 n3) (hA:aC a0 a1 a2 a3=kp F A) (w:World) (hk:KIs w b F) :
  Calls prog 204 #[.pointer (some ⟨b,0,none⟩),.agg #[.int .u64 a0,.int .u64 a1,.int .u64 a2,.int .u64 a3],.agg #[.int .u64 n0,.int .u64 n1,.int .u64 n2,.int .u64 n3]] w (fC (kp F (A^aC n0 n1 n2 n3)) w):=by
 have HK:=Lib.hid hk;have HF:=Lib.hid hF;have HA:=Lib.hid hA;have la:aC a0 a1 a2 a3<F.M:=by rw[hA]; exact aMw hF _
 have hL:=hk.lt;have HLA:=Lib.hid la;clear hk hF hA la
 go_enter func204,ntmps204
 go_wp2_with fail;have M0:=((((Mem.nil w).new w.heap.size a0 a1 a2 a3 162 rfl).new (w.heap.size+1) n0 n1 n2 n3 67 (by simp)).new (w.heap.size+1+1) 0 0 0 0 162 (by simp));refine (Wq F HF.out b _ (HK.out.same M0.1)).mono ?_
 rintro e w1 ⟨s0,s1,s2,s3,rfl,hs,hv,hbl⟩
 have M1:=M0.on hbl;have HV1:=Lib.hid hv;have hz1:w.heap.size+1+1<w1.heap.size:=M1.lt (c0:=0) (c1:=0) (c2:=0) (c3:=0) (by simp);have R1:=M1.row (b:=w.heap.size+1) (c0:=n0) (c1:=n1) (c2:=n2) (c3:=n3) (by simp);have x0:=R1.c0; have x1:=R1.c1; have x2:=R1.c2; have x3:=R1.c3;have lt1:w.heap.size+1<w1.heap.size:=by omega
 have M2:=Lib.hid (M1.new w1.heap.size s0 s1 s2 s3 162 rfl);clear hbl hv R1 M0 M1;go_wp2_with fail;refine (BC n0 n1 n2 n3 hn _).mono ?_
 rintro e w2 ⟨L,rfl,hL256,hLen,hbl⟩
 have HLen:=Lib.hid hLen;have M3:=Lib.hid (M2.out.on hbl);have hz2:w1.heap.size<w2.heap.size:=by have:=hbl.size; simp at this; omega
 clear hbl hLen x0 x1 x2 x3;go_wp2_with fail
 go_loopw [15] (fun i wr=>∃k r0 r1 r2 r3:Nat,k≤L∧i=.int .i64 k∧bV r0 r1 r2 r3∧Hid (aC r0 r1 r2 r3=kp F (A^(aC n0 n1 n2 n3/2^(L-k))))∧Hid (Mem w wr [(w1.heap.size,r0,r1,r2,r3),(w.heap.size+1+1,0,0,0,0),(w.heap.size+1,n0,n1,n2,n3),(w.heap.size,a0,a1,a2,a3)])) (fun i _=>L-(intOf i).toNat)
 case atStart =>
  refine⟨0,s0,s1,s2,s3,Nat.zero_le _,rfl,hs,Lib.hid ?_,M3⟩;rw[HV1.out,Nat.sub_zero,Nat.div_eq_of_lt HLen.out.1,Nat.pow_zero]
 case round =>
  obtain⟨k,r0,r1,r2,r3,hkL,rfl,hr,HV,HM⟩:=hrel;have hrl:aC r0 r1 r2 r3<F.M:=by rw[HV.out]; exact aMw HF.out _
  by_cases hlt:k<L
  ·have Rr:=HM.out.row (b:=w1.heap.size) (c0:=r0) (c1:=r1) (c2:=r2) (c3:=r3) (by simp);have x0:=Rr.c0; have x1:=Rr.c1; have x2:=Rr.c2; have x3:=Rr.c3;have ltr:=HM.out.lt (b:=w1.heap.size) (c0:=r0) (c1:=r1) (c2:=r2) (c3:=r3) (by simp);have Hrl:=Lib.hid hrl;clear Rr hrl;go_wp2_with fail;refine (jF F HF.out b r0 r1 r2 r3 r0 r1 r2 r3 hr hr Hrl.out _ (HK.out.same HM.out.1)).mono ?_
   rintro e w3 ⟨p0,p1,p2,p3,rfl,hp,hv,hbl⟩
   have hv':aC p0 p1 p2 p3=kp F (A^(aC n0 n1 n2 n3/2^(L-k))*A^(aC n0 n1 n2 n3/2^(L-k))%F.M):=by rw[hv,HV.out,Bh HF.out]
   have HP:=Lib.hid hv';have M4:=HM.out.on hbl;have lt4:=M4.lt (b:=w1.heap.size) (c0:=r0) (c1:=r1) (c2:=r2) (c3:=r3) (by simp);have Rr:=M4.row (b:=w1.heap.size) (c0:=r0) (c1:=r1) (c2:=r2) (c3:=r3) (by simp);have Rn:=M4.row (b:=w.heap.size+1) (c0:=n0) (c1:=n1) (c2:=n2) (c3:=n3) (by simp);have Ra:=M4.row (b:=w.heap.size) (c0:=a0) (c1:=a1) (c2:=a2) (c3:=a3) (by simp);have M5:=Lib.hid (M4.put p0 p1 p2 p3 (by omega) (by intro r hr; simp at hr; rcases hr with rfl|rfl|rfl<;>simp<;>omega));clear x0 x1 x2 x3 hv hv' hbl M4;have x0:=Rr.c0; have x1:=Rr.c1; have x2:=Rr.c2; have x3:=Rr.c3; have xf:=Rr.fr;have y0:=Rn.c0; have y1:=Rn.c1; have y2:=Rn.c2; have y3:=Rn.c3;have ne1:¬w.heap.size+1=w1.heap.size:=by omega
   have ne1':¬w1.heap.size=w.heap.size+1:=by omega
   clear Rr Rn Ra;obtain⟨L1,e1,hL1⟩:∃L1:Nat,(L:Int)-1=(L1:Int)∧L1+1=L:=⟨L-1,by omega,by omega⟩
   obtain⟨j,e2,hj⟩:∃j:Nat,(L1:Int)-(k:Int)=(j:Int)∧j+k=L1:=⟨L1-k,by omega,by omega⟩
   have hj256:j<256:=by omega
   have hjk:j=L-1-k:=by omega
   have HJ:=Lib.hid hjk;clear hjk;go_wp2_with fail;refine (aFK n0 n1 n2 n3 j hn hj256 _).mono ?_
   rintro e w4 ⟨he,hbl⟩
   have M5':=M5.out;unfold set4 at M5';have M6:=M5'.on hbl;clear hbl M5' x0 x1 x2 x3 xf y0 y1 y2 y3;have lt6:=M6.lt (b:=w1.heap.size) (c0:=p0) (c1:=p1) (c2:=p2) (c3:=p3) (by simp)
   rcases tO (aC n0 n1 n2 n3) j with hb|hb
   ·rw[hb]at he;subst he;have HS:=Lib.hid (show aC p0 p1 p2 p3=kp F (A^(aC n0 n1 n2 n3/2^(L-(k+1)))) by
     rw[HP.out,ZM hlt,←HJ.out,hb]; exact ((CQ F A _ 0 (Or.inl rfl)).1 rfl).symm)
    have M7:=Lib.hid M6;clear hb M6;go_wp2_with fail
    go_roundw
    case rel=>exact⟨k+1,p0,p1,p2,p3,by omega,by go_num,hp,HS,M7⟩
    case measure=>simp[intOf]; omega
   ·rw[hb]at he;subst he;have Rr:=M6.row (b:=w1.heap.size) (c0:=p0) (c1:=p1) (c2:=p2) (c3:=p3) (by simp);have Ra:=M6.row (b:=w.heap.size) (c0:=a0) (c1:=a1) (c2:=a2) (c3:=a3) (by simp);have x0:=Rr.c0; have x1:=Rr.c1; have x2:=Rr.c2; have x3:=Rr.c3;have z0:=Ra.c0; have z1:=Ra.c1; have z2:=Ra.c2; have z3:=Ra.c3;have HB:=Lib.hid hb;have M7:=Lib.hid M6;clear hb M6 Rr Ra;go_wp2_with fail;refine (jF F HF.out b p0 p1 p2 p3 a0 a1 a2 a3 hp ha HLA.out _ (HK.out.same M7.out.1)).mono ?_
    rintro e w5 ⟨q0,q1,q2,q3,rfl,hq,hv,hbl⟩
    have hv':aC q0 q1 q2 q3=kp F (A^(aC n0 n1 n2 n3/2^(L-(k+1)))):=by
     rw[hv,HP.out,HA.out,Bh HF.out,ZM hlt,←HJ.out,HB.out]; exact ((CQ F A _ 1 (Or.inr rfl)).2 rfl).symm
    have HS:=Lib.hid hv';have M8:=M7.out.on hbl;have lt8:=M8.lt (b:=w1.heap.size) (c0:=p0) (c1:=p1) (c2:=p2) (c3:=p3) (by simp);have Rr:=M8.row (b:=w1.heap.size) (c0:=p0) (c1:=p1) (c2:=p2) (c3:=p3) (by simp);have M9:=Lib.hid (M8.put q0 q1 q2 q3 (by omega) (by intro r hr; simp at hr; rcases hr with rfl|rfl|rfl<;>simp<;>omega));clear x0 x1 x2 x3 z0 z1 z2 z3 hv hv' hbl M8;have x0:=Rr.c0; have x1:=Rr.c1; have x2:=Rr.c2; have x3:=Rr.c3; have xf:=Rr.fr;clear Rr;go_wp2_with fail
    go_roundw
    case rel=>exact⟨k+1,q0,q1,q2,q3,by omega,by go_num,hq,HS,M9⟩
    case measure=>simp[intOf]; omega
  ·obtain rfl:k=L:=by omega
   have Rr:=HM.out.row (b:=w1.heap.size) (c0:=r0) (c1:=r1) (c2:=r2) (c3:=r3) (by simp);have x0:=Rr.c0; have x1:=Rr.c1; have x2:=Rr.c2; have x3:=Rr.c3;have Ro:=HM.out.row (b:=w.heap.size+1+1) (c0:=0) (c1:=0) (c2:=0) (c3:=0) (by simp);have o0:=Ro.c0; have o1:=Ro.c1; have o2:=Ro.c2; have o3:=Ro.c3; have of:=Ro.fr;have ltr:=HM.out.lt (b:=w1.heap.size) (c0:=r0) (c1:=r1) (c2:=r2) (c3:=r3) (by simp);have lto:=HM.out.lt (b:=w.heap.size+1+1) (c0:=0) (c1:=0) (c2:=0) (c3:=0) (by simp);clear Rr Ro hrl;go_wp2_with fail;refine bodyPost_ret (v:=.agg #[.int .u64 r0,.int .u64 r1,.int .u64 r2,.int .u64 r3]) (by simp[results,results204,go_sem, *]) rfl ?_;refine⟨_,_,_,_,rfl,hr,by rw[HV.out,Nat.sub_self,Nat.pow_zero,Nat.div_one],?_⟩;exact bG HM.out.1 (by omega) _ _ _ _
theorem Ce (d:Nat) (a0 a1 a2 a3 b0 b1 b2 b3:Nat) (w:World):(Op.equalIn (d+1+1) 27 (.agg #[.int .u64 a0,.int .u64 a1,.int .u64 a2,.int .u64 a3]) (.agg #[.int .u64 b0,.int .u64 b1,.int .u64 b2,.int .u64 b3])).run prog w=.ok (Qz a0 a1 a2 a3 b0 b1 b2 b3) w:=by
 have h0:∀(x y:Int) (w:World),(Op.equalIn (d+1) 25 (.int .u64 x) (.int .u64 y)).run prog w=.ok (x==y) w:=fun x y w=>run_equalIn_int w d 25 .u64 .u64 x y underlying25
 rw[Op.equalIn];simp only[Sem.run_bind,run_underlying underlying27,Result.andThen_ok,Tryz.sizeOf25];simp[Std.Legacy.Range.forIn_eq_forIn_range',Std.Legacy.Range.size,List.range',part,h0,Sem.run_bind,Result.andThen_ok];unfold Qz
 by_cases q0:a0=b0<;>by_cases q1:a1=b1<;>by_cases q2:a2=b2<;>by_cases q3:a3=b3<;>simp[q0,q1,q2,q3]<;>omega
theorem Mem.drew {w wr:World} {rs:List (Nat×Nat×Nat×Nat×Nat)} (h:Mem w wr rs):Mem w wr.drew rs :=
 ⟨h.1.drew,fun r hr=>⟨(h.2 r hr).1,⟨(h.2 r hr).2.c0,(h.2 r hr).2.c1,(h.2 r hr).2.c2,(h.2 r hr).2.c3,(h.2 r hr).2.fr⟩⟩⟩
theorem Cg:prog.eqGuardType prog.depth 27=false:=by kernel_rfl
set_option maxHeartbeats 1000000 in
theorem IV (F:FC) (hF:F.Ok) (A b a0 a1 a2 a3:Nat) (ha:bV a0 a1 a2 a3) (hA:aC a0 a1 a2 a3=kp F A) (w:World) (hk:KIs w b F) :
  Calls prog 193 #[.pointer (some ⟨b,0,none⟩),.agg #[.int .u64 a0,.int .u64 a1,.int .u64 a2,.int .u64 a3]] w (fC (kp F (A^(F.M-2))) w):=by
 have HK:=Lib.hid hk;have HF:=Lib.hid hF;have HA:=Lib.hid hA;have hL:=hk.lt;have hL1:b<w.heap.size+1:=by omega
 have k0:=hk.k0; have k1:=hk.k1; have k2:=hk.k2; have k3:=hk.k3;clear hk hF hA
 go_enter func193,ntmps193
 go_wp2_with fail;have M0:=(((Mem.nil w).new w.heap.size a0 a1 a2 a3 162 rfl).new (w.heap.size+1) 0 0 0 0 162 (by simp));refine (tW F.m0 F.m1 F.m2 F.m3 2 0 0 0 HF.out.okm ⟨by omega,by omega,by omega,by omega⟩ _).mono ?_
 rintro e w1 ⟨n0,n1,n2,n3,c,rfl,hn,hc,hv,hbl⟩
 have hv':aC n0 n1 n2 n3=F.M-2:=by
  have e2:aC 2 0 0 0=2:=rfl;have:=bK hn; have:=HF.out.gt; have:=HF.out.two;rw[e2,show aC F.m0 F.m1 F.m2 F.m3=F.M from rfl]at hv;omega
 have HV:=Lib.hid hv';have M1:=M0.on hbl;have hz1:w.heap.size+1<w1.heap.size:=M1.lt (c0:=0) (c1:=0) (c2:=0) (c3:=0) (by simp);have R1:=M1.row (b:=w.heap.size) (c0:=a0) (c1:=a1) (c2:=a2) (c3:=a3) (by simp);have x0:=R1.c0; have x1:=R1.c1; have x2:=R1.c2; have x3:=R1.c3;have lt1:w.heap.size<w1.heap.size:=by omega
 have M2:=Lib.hid (M1.new w1.heap.size n0 n1 n2 n3 67 rfl);clear hbl hv hv' R1 M0 M1 k0 k1 k2 k3;go_wp2_with fail;refine (ZK F HF.out A b a0 a1 a2 a3 n0 n1 n2 n3 ha hn HA.out _ (HK.out.same M2.out.1)).mono ?_
 rintro e w2 ⟨s0,s1,s2,s3,rfl,hs,hv,hbl⟩
 have HVs:=Lib.hid hv;have M3:=Lib.hid (M2.out.on hbl);have Ro:=M3.out.row (b:=w.heap.size+1) (c0:=0) (c1:=0) (c2:=0) (c3:=0) (by simp);have o0:=Ro.c0; have o1:=Ro.c1; have o2:=Ro.c2; have o3:=Ro.c3; have of:=Ro.fr;have lto:=M3.out.lt (b:=w.heap.size+1) (c0:=0) (c1:=0) (c2:=0) (c3:=0) (by simp);clear hbl hv Ro x0 x1 x2 x3;go_wp2_with fail;refine bodyPost_ret (v:=.agg #[.int .u64 s0,.int .u64 s1,.int .u64 s2,.int .u64 s3]) (by simp[results,results193,go_sem, *]) rfl ?_;refine⟨_,_,_,_,rfl,hs,by rw[HVs.out,HV.out],?_⟩;exact bG M3.out.1 (by omega) _ _ _ _
theorem aTP (a0 a1 a2 a3:Nat) (n:Int) (ha:bV a0 a1 a2 a3) (h0:0<n) (hq:n/64=0) (w:World) :
  Calls prog 196 #[.agg #[.int .u64 a0,.int .u64 a1,.int .u64 a2,.int .u64 a3],.int .i64 n] w (dB (fun v=>v=aC a0 a1 a2 a3/2^n.toNat) w):=by
 obtain⟨p,hr,hp,en⟩:=Ca (by omega) 0 hq (by omega);have b1:n<256:=by omega
 have t0:decide (n≤0)=false:=decide_eq_false (by omega);obtain⟨lo0,up0,u0,d0,bl0,bu0,e0,g0,m0⟩:=lC (a:=a0) (p:=p) ha.1 hp;obtain⟨lo1,up1,u1,d1,ET,bu1,e1,g1,m1⟩:=lC (a:=a1) (p:=p) ha.2.1 hp;obtain⟨lo2,up2,u2,d2,rM,bu2,e2,g2,m2⟩:=lC (a:=a2) (p:=p) ha.2.2.1 hp;obtain⟨lo3,up3,u3,d3,bl3,bu3,e3,g3,m3⟩:=lC (a:=a3) (p:=p) ha.2.2.2 hp;obtain⟨s0,o0,bs0,f0⟩:=wR bl0 bu1 g0 m1;obtain⟨s1,o1,bs1,f1⟩:=wR ET bu2 g1 m2;obtain⟨s2,o2,bs2,f2⟩:=wR rM bu3 g2 m3;have HF:Hid (aC s0 s1 s2 lo3=aC a0 a1 a2 a3/2^n.toNat):=Lib.hid (by
  rw[en,yA,←Nat.div_div_eq_div_mul];have hq':aC a0 a1 a2 a3/18446744073709551616^((0:Int)).toNat=aC a0 a1 a2 a3:=by
   rw[show 18446744073709551616^((0:Int)).toNat=1 by simp];obtain⟨k0,k1,k2,k3⟩:=ha;unfold aC; omega
  rw[hq'];obtain⟨v0,x0,y0,z0⟩:=e0.out;obtain⟨v1,x1,y1,z1⟩:=e1.out;obtain⟨v2,x2,y2,z2⟩:=e2.out;obtain⟨v3,x3,y3,z3⟩:=e3.out;have f0:=f0.out;have f1:=f1.out;have f2:=f2.out;refine EP (m:=v0) ?_ y0;have hD:aC s0 s1 s2 lo3*2^p=1*(s0*2^p)+18446744073709551616*(s1*2^p)+340282366920938463463374607431768211456*(s2*2^p)+6277101735386680763835789423207666416102355444464034512896*(lo3*2^p):=by
   unfold aC; simp only[Nat.add_mul,Nat.mul_add,Nat.mul_assoc,Nat.mul_zero,Nat.zero_mul,Nat.add_zero]; omega
  rw[hD];have k0:s0*2^p=lo0*2^p+up1*2^p:=by rw[f0,Nat.add_mul]
  have k1:s1*2^p=lo1*2^p+up2*2^p:=by rw[f1,Nat.add_mul]
  have k2:s2*2^p=lo2*2^p+up3*2^p:=by rw[f2,Nat.add_mul]
  unfold aC;omega)
 clear e0 g0 m0 e1 g1 m1 e2 g2 m2 e3 g3 m3 f0 f1 f2;have HEN:=Lib.hid en;clear en
 go_enter func196,ntmps196
 go_wp2_with fail;refine wp_loop_rounds 5 ?_;rw[rounds_succ];go_wp2_with fail
 go_region
 go_wp2_with fail;rw[rounds_succ];go_wp2_with fail
 go_region
 go_wp2_with fail;rw[rounds_succ];go_wp2_with fail
 go_region
 go_wp2_with fail;rw[rounds_succ];go_wp2_with fail;rw[rounds_succ];go_wp2_with fail;refine bodyPost_ret (v:=.agg #[.int .u64 s0,.int .u64 s1,.int .u64 s2,.int .u64 lo3]) (by simp[results,results196,go_sem]) rfl ?_;refine⟨s0,s1,s2,lo3,rfl,⟨bs0,bs1,bs2,bl3⟩,HF.out,?_⟩
 repeat (first|exact Below.refl _ _|refine Below.drew ?_|refine Below.alloc ?_ (by first|(simp; done)|(simp; omega)) _)
theorem aTO (a0 a1 a2 a3:Nat) (n:Int) (ha:bV a0 a1 a2 a3) (h0:0<n) (hq:n/64=1) (w:World) :
  Calls prog 196 #[.agg #[.int .u64 a0,.int .u64 a1,.int .u64 a2,.int .u64 a3],.int .i64 n] w (dB (fun v=>v=aC a0 a1 a2 a3/2^n.toNat) w):=by
 obtain⟨p,hr,hp,en⟩:=Ca (by omega) 1 hq (by omega);have b1:n<256:=by omega
 have t0:decide (n≤0)=false:=decide_eq_false (by omega);obtain⟨lo1,up1,u1,d1,ET,bu1,e1,g1,m1⟩:=lC (a:=a1) (p:=p) ha.2.1 hp;obtain⟨lo2,up2,u2,d2,rM,bu2,e2,g2,m2⟩:=lC (a:=a2) (p:=p) ha.2.2.1 hp;obtain⟨lo3,up3,u3,d3,bl3,bu3,e3,g3,m3⟩:=lC (a:=a3) (p:=p) ha.2.2.2 hp;obtain⟨s1,o1,bs1,f1⟩:=wR ET bu2 g1 m2;obtain⟨s2,o2,bs2,f2⟩:=wR rM bu3 g2 m3;have HF:Hid (aC s1 s2 lo3 0=aC a0 a1 a2 a3/2^n.toNat):=Lib.hid (by
  rw[en,yA,←Nat.div_div_eq_div_mul];have hq':aC a0 a1 a2 a3/18446744073709551616^((1:Int)).toNat=aC a1 a2 a3 0:=by
   rw[show 18446744073709551616^((1:Int)).toNat=18446744073709551616 by simp];obtain⟨k0,k1,k2,k3⟩:=ha;unfold aC; omega
  rw[hq'];obtain⟨v1,x1,y1,z1⟩:=e1.out;obtain⟨v2,x2,y2,z2⟩:=e2.out;obtain⟨v3,x3,y3,z3⟩:=e3.out;have f1:=f1.out;have f2:=f2.out;refine EP (m:=v1) ?_ y1;have hD:aC s1 s2 lo3 0*2^p=1*(s1*2^p)+18446744073709551616*(s2*2^p)+340282366920938463463374607431768211456*(lo3*2^p):=by
   unfold aC; simp only[Nat.add_mul,Nat.mul_add,Nat.mul_assoc,Nat.mul_zero,Nat.zero_mul,Nat.add_zero]; omega
  rw[hD];have k1:s1*2^p=lo1*2^p+up2*2^p:=by rw[f1,Nat.add_mul]
  have k2:s2*2^p=lo2*2^p+up3*2^p:=by rw[f2,Nat.add_mul]
  unfold aC;omega)
 clear e1 g1 m1 e2 g2 m2 e3 g3 m3 f1 f2;have HEN:=Lib.hid en;clear en
 go_enter func196,ntmps196
 go_wp2_with fail;refine wp_loop_rounds 4 ?_;rw[rounds_succ];go_wp2_with fail
 go_region
 go_wp2_with fail;rw[rounds_succ];go_wp2_with fail
 go_region
 go_wp2_with fail;rw[rounds_succ];go_wp2_with fail;rw[rounds_succ];go_wp2_with fail;refine bodyPost_ret (v:=.agg #[.int .u64 s1,.int .u64 s2,.int .u64 lo3,.int .u64 0]) (by simp[results,results196,go_sem]) rfl ?_;refine⟨s1,s2,lo3,0,rfl,⟨bs1,bs2,bl3,(by omega)⟩,HF.out,?_⟩
 repeat (first|exact Below.refl _ _|refine Below.drew ?_|refine Below.alloc ?_ (by first|(simp; done)|(simp; omega)) _)
theorem aTN (a0 a1 a2 a3:Nat) (n:Int) (ha:bV a0 a1 a2 a3) (h0:0<n) (hq:n/64=2) (w:World) :
  Calls prog 196 #[.agg #[.int .u64 a0,.int .u64 a1,.int .u64 a2,.int .u64 a3],.int .i64 n] w (dB (fun v=>v=aC a0 a1 a2 a3/2^n.toNat) w):=by
 obtain⟨p,hr,hp,en⟩:=Ca (by omega) 2 hq (by omega);have b1:n<256:=by omega
 have t0:decide (n≤0)=false:=decide_eq_false (by omega);obtain⟨lo2,up2,u2,d2,rM,bu2,e2,g2,m2⟩:=lC (a:=a2) (p:=p) ha.2.2.1 hp;obtain⟨lo3,up3,u3,d3,bl3,bu3,e3,g3,m3⟩:=lC (a:=a3) (p:=p) ha.2.2.2 hp;obtain⟨s2,o2,bs2,f2⟩:=wR rM bu3 g2 m3;have HF:Hid (aC s2 lo3 0 0=aC a0 a1 a2 a3/2^n.toNat):=Lib.hid (by
  rw[en,yA,←Nat.div_div_eq_div_mul];have hq':aC a0 a1 a2 a3/18446744073709551616^((2:Int)).toNat=aC a2 a3 0 0:=by
   rw[show 18446744073709551616^((2:Int)).toNat=340282366920938463463374607431768211456 by simp];obtain⟨k0,k1,k2,k3⟩:=ha;unfold aC; omega
  rw[hq'];obtain⟨v2,x2,y2,z2⟩:=e2.out;obtain⟨v3,x3,y3,z3⟩:=e3.out;have f2:=f2.out;refine EP (m:=v2) ?_ y2;have hD:aC s2 lo3 0 0*2^p=1*(s2*2^p)+18446744073709551616*(lo3*2^p):=by
   unfold aC; simp only[Nat.add_mul,Nat.mul_add,Nat.mul_assoc,Nat.mul_zero,Nat.zero_mul,Nat.add_zero]; omega
  rw[hD];have k2:s2*2^p=lo2*2^p+up3*2^p:=by rw[f2,Nat.add_mul]
  unfold aC;omega)
 clear e2 g2 m2 e3 g3 m3 f2;have HEN:=Lib.hid en;clear en
 go_enter func196,ntmps196
 go_wp2_with fail;refine wp_loop_rounds 3 ?_;rw[rounds_succ];go_wp2_with fail
 go_region
 go_wp2_with fail;rw[rounds_succ];go_wp2_with fail;rw[rounds_succ];go_wp2_with fail;refine bodyPost_ret (v:=.agg #[.int .u64 s2,.int .u64 lo3,.int .u64 0,.int .u64 0]) (by simp[results,results196,go_sem]) rfl ?_;refine⟨s2,lo3,0,0,rfl,⟨bs2,bl3,(by omega),(by omega)⟩,HF.out,?_⟩
 repeat (first|exact Below.refl _ _|refine Below.drew ?_|refine Below.alloc ?_ (by first|(simp; done)|(simp; omega)) _)
theorem aTM (a0 a1 a2 a3:Nat) (n:Int) (ha:bV a0 a1 a2 a3) (h0:0<n) (hq:n/64=3) (w:World) :
  Calls prog 196 #[.agg #[.int .u64 a0,.int .u64 a1,.int .u64 a2,.int .u64 a3],.int .i64 n] w (dB (fun v=>v=aC a0 a1 a2 a3/2^n.toNat) w):=by
 obtain⟨p,hr,hp,en⟩:=Ca (by omega) 3 hq (by omega);have b1:n<256:=by omega
 have t0:decide (n≤0)=false:=decide_eq_false (by omega);obtain⟨lo3,up3,u3,d3,bl3,bu3,e3,g3,m3⟩:=lC (a:=a3) (p:=p) ha.2.2.2 hp;have HF:Hid (aC lo3 0 0 0=aC a0 a1 a2 a3/2^n.toNat):=Lib.hid (by
  rw[en,yA,←Nat.div_div_eq_div_mul];have hq':aC a0 a1 a2 a3/18446744073709551616^((3:Int)).toNat=aC a3 0 0 0:=by
   rw[show 18446744073709551616^((3:Int)).toNat=6277101735386680763835789423207666416102355444464034512896 by simp];obtain⟨k0,k1,k2,k3⟩:=ha;unfold aC; omega
  rw[hq'];obtain⟨v3,x3,y3,z3⟩:=e3.out;refine EP (m:=v3) ?_ y3;have hD:aC lo3 0 0 0*2^p=1*(lo3*2^p):=by
   unfold aC; simp only[Nat.add_mul,Nat.mul_add,Nat.mul_assoc,Nat.mul_zero,Nat.zero_mul,Nat.add_zero]; omega
  rw[hD];unfold aC;omega)
 clear e3 g3 m3;have HEN:=Lib.hid en;clear en
 go_enter func196,ntmps196
 go_wp2_with fail;refine wp_loop_rounds 2 ?_;rw[rounds_succ];go_wp2_with fail;rw[rounds_succ];go_wp2_with fail;refine bodyPost_ret (v:=.agg #[.int .u64 lo3,.int .u64 0,.int .u64 0,.int .u64 0]) (by simp[results,results196,go_sem]) rfl ?_;refine⟨lo3,0,0,0,rfl,⟨bl3,(by omega),(by omega),(by omega)⟩,HF.out,?_⟩
 repeat (first|exact Below.refl _ _|refine Below.drew ?_|refine Below.alloc ?_ (by first|(simp; done)|(simp; omega)) _)
theorem aAv (a0 a1 a2 a3:Nat) (n:Int) (ha:bV a0 a1 a2 a3) (h0:n≤0) (w:World) :
  Calls prog 196 #[.agg #[.int .u64 a0,.int .u64 a1,.int .u64 a2,.int .u64 a3],.int .i64 n] w (dB (fun v=>v=aC a0 a1 a2 a3) w):=by
 have t0:decide (n≤0)=true:=decide_eq_true h0
 go_enter func196,ntmps196
 go_wp2_with fail;refine bodyPost_ret (v:=.agg #[.int .u64 a0,.int .u64 a1,.int .u64 a2,.int .u64 a3]) (by simp[results,results196,go_sem]) rfl ?_;refine⟨a0,a1,a2,a3,rfl,ha,rfl,?_⟩
 repeat (first|exact Below.refl _ _|refine Below.drew ?_|refine Below.alloc ?_ (by first|(simp; done)|(simp; omega)) _)
theorem aHy (a0 a1 a2 a3:Nat) (n:Int) (ha:bV a0 a1 a2 a3) (h0:256≤n) (h1:n≤9223372036854775807) (w:World) :
  Calls prog 196 #[.agg #[.int .u64 a0,.int .u64 a1,.int .u64 a2,.int .u64 a3],.int .i64 n] w (dB (fun v=>v=0) w):=by
 have t0:decide (n≤0)=false:=decide_eq_false (by omega);obtain⟨q,hq,bq,bq'⟩:∃q:Nat,n/64=(q:Int)∧4≤q∧q≤9223372036854775807:=⟨(n/64).toNat,by omega,by omega,by omega⟩
 have t1:decide ((0:Int)<4-(q:Int))=false:=decide_eq_false (by omega)
 go_enter func196,ntmps196
 go_wp2_with fail;refine wp_loop_rounds 1 ?_;rw[rounds_succ];go_wp2_with fail;refine bodyPost_ret (v:=.agg #[.int .u64 0,.int .u64 0,.int .u64 0,.int .u64 0]) (by simp[results,results196,go_sem]) rfl ?_;refine⟨0,0,0,0,rfl,⟨by omega,by omega,by omega,by omega⟩,rfl,?_⟩
 repeat (first|exact Below.refl _ _|refine Below.drew ?_|refine Below.alloc ?_ (by first|(simp; done)|(simp; omega)) _)
theorem tX (a0 a1 a2 a3:Nat) (n:Int) (ha:bV a0 a1 a2 a3) (h0:0≤n) (h1:n≤9223372036854775807) (w:World) :
  Calls prog 196 #[.agg #[.int .u64 a0,.int .u64 a1,.int .u64 a2,.int .u64 a3],.int .i64 n] w (dB (fun v=>v=aC a0 a1 a2 a3/2^n.toNat) w):=by
 by_cases hz:n≤0
 ·refine (aAv a0 a1 a2 a3 n ha hz w).mono ?_
  rintro e w' ⟨s0,s1,s2,s3,he,hs,hv,hb⟩
  refine⟨s0,s1,s2,s3,he,hs,?_,hb⟩;have:=bK ha;rw[hv,show n.toNat=0 by omega,Nat.pow_zero]; omega
 ·by_cases hf:256≤n
  ·refine (aHy a0 a1 a2 a3 n ha hf h1 w).mono ?_
   rintro e w' ⟨s0,s1,s2,s3,he,hs,hv,hb⟩
   refine⟨s0,s1,s2,s3,he,hs,?_,hb⟩;rw[hv];have hp:=Nat.pow_le_pow_right (show 0<2 by omega) (show 256≤n.toNat by omega);have:=bK ha;exact (Nat.div_eq_of_lt (Nat.lt_of_lt_of_le this hp)).symm
  ·have hq:n/64=0∨n/64=1∨n/64=2∨n/64=3:=by omega
   rcases hq with h|h|h|h
   ·exact aTP a0 a1 a2 a3 n ha (by omega) h w
   ·exact aTO a0 a1 a2 a3 n ha (by omega) h w
   ·exact aTN a0 a1 a2 a3 n ha (by omega) h w
   ·exact aTM a0 a1 a2 a3 n ha (by omega) h w
theorem RY (a0 a1 a2 a3 b0 b1 b2 b3:Nat) (ha:bV a0 a1 a2 a3) (hb:bV b0 b1 b2 b3) (w:World) :
  Calls prog 198 #[.agg #[.int .u64 a0,.int .u64 a1,.int .u64 a2,.int .u64 a3],.agg #[.int .u64 b0,.int .u64 b1,.int .u64 b2,.int .u64 b3]] w (dB (fun v=>v=aC a0 a1 a2 a3 ||| aC b0 b1 b2 b3) w):=by
 obtain⟨s0,o0,bs0,f0⟩:∃s:Nat,bits .or .u64 (a0:Int) (b0:Int)=(s:Int)∧s<18446744073709551616∧Hid (s=a0 ||| b0):=⟨a0 ||| b0,bits_or_u64_nat _ _ ha.1 hb.1,Nat.or_lt_two_pow (n:=64) ha.1 hb.1,Lib.hid rfl⟩
 obtain⟨s1,o1,bs1,f1⟩:∃s:Nat,bits .or .u64 (a1:Int) (b1:Int)=(s:Int)∧s<18446744073709551616∧Hid (s=a1 ||| b1):=⟨a1 ||| b1,bits_or_u64_nat _ _ ha.2.1 hb.2.1,Nat.or_lt_two_pow (n:=64) ha.2.1 hb.2.1,Lib.hid rfl⟩
 obtain⟨s2,o2,bs2,f2⟩:∃s:Nat,bits .or .u64 (a2:Int) (b2:Int)=(s:Int)∧s<18446744073709551616∧Hid (s=a2 ||| b2):=⟨a2 ||| b2,bits_or_u64_nat _ _ ha.2.2.1 hb.2.2.1,Nat.or_lt_two_pow (n:=64) ha.2.2.1 hb.2.2.1,Lib.hid rfl⟩
 obtain⟨s3,o3,bs3,f3⟩:∃s:Nat,bits .or .u64 (a3:Int) (b3:Int)=(s:Int)∧s<18446744073709551616∧Hid (s=a3 ||| b3):=⟨a3 ||| b3,bits_or_u64_nat _ _ ha.2.2.2 hb.2.2.2,Nat.or_lt_two_pow (n:=64) ha.2.2.2 hb.2.2.2,Lib.hid rfl⟩
 have HF:Hid (aC s0 s1 s2 s3=aC a0 a1 a2 a3 ||| aC b0 b1 b2 b3):=Lib.hid (by rw[f0.out,f1.out,f2.out,f3.out]; exact or4 ha hb);clear f0 f1 f2 f3
 go_enter func198,ntmps198
 go_wp2_with fail;refine wp_loop_rounds 5 ?_;rw[rounds_succ];go_wp2_with fail
 go_region
 go_wp2_with fail;rw[rounds_succ];go_wp2_with fail
 go_region
 go_wp2_with fail;rw[rounds_succ];go_wp2_with fail
 go_region
 go_wp2_with fail;rw[rounds_succ];go_wp2_with fail
 go_region
 go_wp2_with fail;rw[rounds_succ];go_wp2_with fail;refine bodyPost_ret (v:=.agg #[.int .u64 s0,.int .u64 s1,.int .u64 s2,.int .u64 s3]) (by simp[results,results198,go_sem]) rfl ?_;refine⟨s0,s1,s2,s3,rfl,⟨bs0,bs1,bs2,bs3⟩,HF.out,?_⟩
 repeat (first|exact Below.refl _ _|refine Below.drew ?_|refine Below.alloc ?_ (by first|(simp; done)|(simp; omega)) _)
section
variable {P:Program} {ops:Array Oper} {Q:Exit→Act→World→Prop} {md:Region.Mode} {S:World→Prop} {L:Nat}
def iF (P:Program) (md:Region.Mode) (ops:Array Oper) (Q:Exit→Act→World→Prop) (S:World→Prop) (L:Nat):Nat→Array Bool→Act→World→Prop
 | 0,got,a,w=>Region.ready md ops got=[]∧Q .normal a w
 | m+1,got,a,w =>
  (Region.ready md ops got=[]→Q .normal a w) ∧
  ∀i∈Region.ready md ops got,wpOp P ops Q i (fun b u=>(i=L∨S u)∧iF P md ops Q S L m (got.setIfInBounds i true) b u) a w
theorem DB:∀(m:Nat) (got:Array Bool) (a:Act) (w:World),iF P md ops Q S L m got a w→wpAny P md ops Q m got a w
 | 0,_,_,_,h=>h
 | m+1,_,_,_,h=>⟨h.1,fun i hi=>wpOp_mono (fun b u k=>DB m _ b u k.2) (h.2 i hi)⟩
def Zm (md:Region.Mode) (ops:Array Oper) (L i:Nat):Bool :=
 match ops[L]? with
 | some o=>o.after.any fun e=>Region.binds md e&&e.on==i
 | none=>false
theorem Dw {i:Nat} {oi:Oper} {v:Value} (hi:ops[i]?=some oi) (hsel:∀(j:Nat) (o:Oper) cs b,ops[j]?=some o→o.op ≠ .select cs b)
  (hL:Zm md ops L i=true) (hQ:∀c a w,Q (.panic c) (a.put oi.dst v) w→Q (.panic c) a w) :
  ∀(m:Nat) (got:Array Bool) (a:Act) (w:World),
   (∀j oj,ops[j]?=some oj→j≠i→got.getD j true=false→(∀e∈oj.after,Region.binds md e=true→e.on≠i)→oi.apart ops oj=true) →
   i∈Region.ready md ops got→YieldsIf P ops S oi v a→S w →
   iF P md ops Q S L m (got.setIfInBounds i true) (a.put oi.dst v) w→iF P md ops Q S L (m+1) got a w:=by
 intro m
 induction m with
 | zero =>
  intro got a w _ hr hy hS H;refine⟨fun h=>(by rw[h]at hr; cases hr),fun j hj => ?_⟩
  by_cases hji:j=i
  ·subst hji; exact hy.wpOp hi hS ⟨.inr hS,H⟩
  ·have:=ready_mono hj hji;rw[H.1]at this;cases this
 | succ m ih =>
  intro got a w hfree hr hy hS H;refine⟨fun h=>(by rw[h]at hr; cases hr),fun j hj => ?_⟩
  by_cases hji:j=i
  ·subst hji; exact hy.wpOp hi hS ⟨.inr hS,H⟩
  ·obtain⟨hun,oj,hoj,hall⟩:=mem_ready.1 hj;have hno:∀e∈oj.after,Region.binds md e=true→e.on≠i:=fun e he hb heq=>by
    have h1:=hall e he hb;have h0:=(mem_ready.1 hr).1;rw[heq]at h1
    rcases Nat.lt_or_ge i got.size with h'|h'
    ·simp[h']at h0 h1; rw[h0]at h1; cases h1
    ·simp[Array.getElem?_eq_none h']at h1
   have hjL:j≠L:=fun e=>by
    subst e;unfold Zm at hL;rw[hoj]at hL;obtain⟨x,hx,hx2⟩:=Array.any_eq_true'.1 hL;simp only[Bool.and_eq_true,beq_iff_eq]at hx2;exact hno x hx hx2.1 hx2.2
   have h2:=wpOp_putIf hoj (hfree j oj hoj hji hun hno) (fun cs b=>hsel i oi cs b hi) (fun cs b=>hsel j oj cs b hoj) hQ hy (H.2 j (ready_mono hj hji));have hfree':∀k ok,ops[k]?=some ok→k≠i→(got.setIfInBounds j true).getD k true=false →
     (∀e∈ok.after,Region.binds md e=true→e.on≠i)→oi.apart ops ok=true:=fun k ok hk hki hu hn=>by
    refine hfree k ok hk hki ?_ hn
    by_cases hjk:j=k
    ·subst hjk; exact hun
    ·rw[getD_set_ne true hjk]at hu; exact hu
   refine wpOp_mono (fun b u h3=>⟨h3.2.1,ih (got.setIfInBounds j true) b u hfree' (ready_mono hr (Ne.symm hji)) h3.1 (h3.2.1.resolve_left hjL) ?_⟩) h2;rw[Array.setIfInBounds_comm _ _ hji];exact h3.2.2
theorem aK {i:Nat} {oi:Oper} {v:Value} {m:Nat} {got:Array Bool} {a:Act} {w:World} (hi:ops[i]?=some oi)
  (hs:Region.noSelect ops=true) (hf:Region.free md ops got i=true) (hr:(Region.ready md ops got).contains i=true) (hL:Zm md ops L i=true)
  (hQ:∀c a w,Q (.panic c) (a.put oi.dst v) w→Q (.panic c) a w) (hS:S w) (hy:YieldsIf P ops S oi v a)
  (h:iF P md ops Q S L m (got.setIfInBounds i true) (a.put oi.dst v) w):iF P md ops Q S L (m+1) got a w :=
 Dw hi (Region.noSelect_spec hs) hL hQ m got a w (Region.free_spec hi hf) (by simpa using hr) hy hS h
theorem aN {i:Nat} {o:Oper} {m:Nat} {got:Array Bool} {a:Act} {w:World} (hr:Region.ready md ops got=[i]) (ho:ops[i]?=some o)
  (h:∀K:Act→World→Prop,Shut (∀b u,(i=L∨S u)→((i=L∨S u)→iF P md ops Q S L m (got.setIfInBounds i true) b u)→K b u)→if Region.wanted o (yielded ops a.tmps)=true then Oper.wp P o a w K Q else K (a.put o.dst undef) w) :
  iF P md ops Q S L (m+1) got a w :=
 ⟨fun h0=>(by rw[hr]at h0; cases h0),fun j hj=>by
  rw[hr]at hj;obtain rfl:j=i:=by simpa using hj
  exact wpOp_step ho (fun K hK=>h K (fun b u hS hW=>hK b u ⟨hS,hW hS⟩))⟩
theorem dJ {got:Array Bool} {a:Act} {w:World} (hr:Region.ready md ops got=[]) (h:Q .normal a w):iF P md ops Q S L 0 got a w:=⟨hr,h⟩
theorem eH (S:World→Prop) (L:Nat) {id:Nat} {a:Act} {w:World} (hm:P.follows .mixedOrders=true)
  (h:iF P .any ops Q S L ops.size (Array.replicate ops.size false) a w.drew):(Code.region id ops true).wp P Q a w :=
 wp_region_any hm (DB _ _ _ _ h)
end
theorem sI {P:Program} {ops:Array Oper} {Q:Exit→Act→World→Prop} {md:Region.Mode} {S:World→Prop} {L:Nat} {i j:Nat} {oi oj:Oper} {m:Nat} {got:Array Bool} {a:Act} {w:World} (hr:Region.ready md ops got=[i,j]) (hoi:ops[i]?=some oi) (hoj:ops[j]?=some oj)
  (h1:∀K:Act→World→Prop,Shut (∀b u,(i=L∨S u)→((i=L∨S u)→iF P md ops Q S L m (got.setIfInBounds i true) b u)→K b u)→if Region.wanted oi (yielded ops a.tmps)=true then Oper.wp P oi a w K Q else K (a.put oi.dst undef) w)
  (h2:∀K:Act→World→Prop,Shut (∀b u,(j=L∨S u)→((j=L∨S u)→iF P md ops Q S L m (got.setIfInBounds j true) b u)→K b u)→if Region.wanted oj (yielded ops a.tmps)=true then Oper.wp P oj a w K Q else K (a.put oj.dst undef) w) :
  iF P md ops Q S L (m+1) got a w :=
 ⟨fun h0=>(by rw[hr]at h0; cases h0),fun k hk=>by
  rw[hr]at hk
  rcases List.mem_cons.1 hk with rfl|hk
  ·exact wpOp_step hoi (fun K hK=>h1 K (fun b u hS hW=>hK b u ⟨hS,hW hS⟩))
  ·obtain rfl:k=j:=by simpa using hk
   exact wpOp_step hoj (fun K hK=>h2 K (fun b u hS hW=>hK b u ⟨hS,hW hS⟩))⟩
def FieldIs (f:Int) (F:FC):Prop:=f=1∧F=FP∨f=2∧F=FR
theorem FieldIs.ok {f:Int} {F:FC} (h:FieldIs f F):F.Ok:=by rcases h with⟨_,rfl⟩|⟨_,rfl⟩; exact aXn; exact aXm
theorem FieldIs.root {f:Int} {F:FC} (h:FieldIs f F):∃g,Root F.M g:=by
 rcases h with⟨_,rfl⟩|⟨_,rfl⟩
 ·exact⟨3,by rw[bAl]; exact aBm⟩
 ·exact⟨5,by rw[bAk]; exact aBl⟩
def Bad1 (f:Int) (A:Nat) (c:Int):Prop:=f≠1∧f≠2∧c=1∨∃F,FieldIs f F∧¬A<F.M∧c=21
def Bad2 (f:Int) (A B:Nat) (c:Int):Prop:=Bad1 f A c∨∃F,FieldIs f F∧A<F.M∧¬B<F.M∧c=21
def Ss (c:Int) (V:Nat) (w:World) (e:Ending) (w':World):Prop :=
 ∃s0 s1 s2 s3:Nat,e=.returned (.tuple #[.agg #[.int .u64 s0,.int .u64 s1,.int .u64 s2,.int .u64 s3],.int .i64 c])∧bV s0 s1 s2 s3∧aC s0 s1 s2 s3=V∧Below w.heap.size w w'
theorem zok:bV 0 0 0 0:=⟨by omega,by omega,by omega,by omega⟩
theorem KIs.new (w:World) (F:FC) (t:TypeId):KIs (w.alloc (.cells #[.int .u64 F.m0,.int .u64 F.m1,.int .u64 F.m2,.int .u64 F.m3,.int .u64 F.inv,.int .u64 F.s0,.int .u64 F.s1,.int .u64 F.s2,.int .u64 F.s3] t)) w.heap.size F :=
 ⟨by rw[World.cell?_alloc_new]; rfl,by rw[World.cell?_alloc_new]; rfl,by rw[World.cell?_alloc_new]; rfl,by rw[World.cell?_alloc_new]; rfl,by rw[World.cell?_alloc_new]; rfl,by rw[World.cell?_alloc_new]; rfl,by rw[World.cell?_alloc_new]; rfl,by rw[World.cell?_alloc_new]; rfl,by rw[World.cell?_alloc_new]; rfl,by simp⟩
set_option maxHeartbeats 2000000 in
theorem fU (f:Int) (F:FC) (hf:FieldIs f F) (w:World):Calls prog 128 #[.int .i64 f] w fun e w'=>e=.returned (.tuple #[.agg #[.int .u64 F.m0,.int .u64 F.m1,.int .u64 F.m2,.int .u64 F.m3,.int .u64 F.inv,.int .u64 F.s0,.int .u64 F.s1,.int .u64 F.s2,.int .u64 F.s3],.int .i64 0])∧Below w.heap.size w w':=by
 rcases hf with⟨rfl,rfl⟩|⟨rfl,rfl⟩
 ·go_enter func128,ntmps128
  go_wp2_with fail;refine bodyPost_ret (v:=.tuple #[.agg #[.int .u64 FP.m0,.int .u64 FP.m1,.int .u64 FP.m2,.int .u64 FP.m3,.int .u64 FP.inv,.int .u64 FP.s0,.int .u64 FP.s1,.int .u64 FP.s2,.int .u64 FP.s3],.int .i64 0]) (by simp[results,results128,go_sem,FP]) rfl ?_;refine⟨rfl,?_⟩
  repeat (first|exact Below.refl _ _|refine Below.drew ?_|refine Below.alloc ?_ (by first|(simp; done)|(simp; omega)) _|refine Below.setCell ?_ (by simp) _)
 ·go_enter func128,ntmps128
  go_wp2_with fail;refine bodyPost_ret (v:=.tuple #[.agg #[.int .u64 FR.m0,.int .u64 FR.m1,.int .u64 FR.m2,.int .u64 FR.m3,.int .u64 FR.inv,.int .u64 FR.s0,.int .u64 FR.s1,.int .u64 FR.s2,.int .u64 FR.s3],.int .i64 0]) (by simp[results,results128,go_sem,FR]) rfl ?_;refine⟨rfl,?_⟩
  repeat (first|exact Below.refl _ _|refine Below.drew ?_|refine Below.alloc ?_ (by first|(simp; done)|(simp; omega)) _|refine Below.setCell ?_ (by simp) _)
set_option maxHeartbeats 2000000 in
theorem Yh (f:Int) (h1:f≠1) (h2:f≠2) (w:World):Calls prog 128 #[.int .i64 f] w fun e w'=>e=.returned (.tuple #[.agg #[.int .u64 0,.int .u64 0,.int .u64 0,.int .u64 0,.int .u64 0,.int .u64 0,.int .u64 0,.int .u64 0,.int .u64 0],.int .i64 1])∧Below w.heap.size w w':=by
 have t1:(f==1)=false:=by simp[h1]
 have t2:(f==2)=false:=by simp[h2]
 go_enter func128,ntmps128
 go_wp2_with fail;refine bodyPost_ret (v:=.tuple #[.agg #[.int .u64 0,.int .u64 0,.int .u64 0,.int .u64 0,.int .u64 0,.int .u64 0,.int .u64 0,.int .u64 0,.int .u64 0],.int .i64 1]) (by simp[results,results128,go_sem]) rfl ?_;refine⟨rfl,?_⟩
 repeat (first|exact Below.refl _ _|refine Below.drew ?_|refine Below.alloc ?_ (by first|(simp; done)|(simp; omega)) _|refine Below.setCell ?_ (by simp) _)
theorem YU (w:World):Calls prog 168 #[.int .i64 1] w fun e w'=>e=.returned (.int .i64 1)∧w'=w:=by
 go_enter func168,ntmps168
 go_wp2_with fail;go_ret;exact⟨rfl,rfl⟩
theorem YT (w:World):Calls prog 168 #[.int .i64 0] w fun e w'=>e=.returned (.int .i64 21)∧w'=w:=by
 go_enter func168,ntmps168
 go_wp2_with fail;go_ret;exact⟨rfl,rfl⟩
set_option maxHeartbeats 2000000 in
theorem Qv (f:Int) (F:FC) (hf:FieldIs f F) (a0 a1 a2 a3 b0 b1 b2 b3:Nat) (ha:bV a0 a1 a2 a3) (hb:bV b0 b1 b2 b3) (la:aC a0 a1 a2 a3<F.M) (lb:aC b0 b1 b2 b3<F.M) (w:World) :
  Calls prog 178 #[.int .i64 f,.agg #[.int .u64 a0,.int .u64 a1,.int .u64 a2,.int .u64 a3],.agg #[.int .u64 b0,.int .u64 b1,.int .u64 b2,.int .u64 b3]] w (Ss 0 ((aC a0 a1 a2 a3+aC b0 b1 b2 b3)%F.M) w):=by
 go_enter func178,ntmps178
 go_wp2_with fail;refine (fU f F hf _).mono ?_
 rintro e w1 ⟨rfl,hbl⟩
 have M1:=((((Mem.nil w).new (w.heap.size) a0 a1 a2 a3 27 (by simp)).new (w.heap.size+1) b0 b1 b2 b3 27 (by simp)).new (w.heap.size+1+1) 0 0 0 0 27 (by simp)).on hbl;clear hbl;have z0:w.heap.size<w1.heap.size:=M1.lt (c0:=a0) (c1:=a1) (c2:=a2) (c3:=a3) (by simp);have z1:w.heap.size+1<w1.heap.size:=M1.lt (c0:=b0) (c1:=b1) (c2:=b2) (c3:=b3) (by simp);have z2:w.heap.size+1+1<w1.heap.size:=M1.lt (c0:=0) (c1:=0) (c2:=0) (c3:=0) (by simp);have HM:=Lib.hid (M1.on ((Below.refl _ _).alloc (Nat.le_refl _) (.cells #[.int .u64 F.m0,.int .u64 F.m1,.int .u64 F.m2,.int .u64 F.m3,.int .u64 F.inv,.int .u64 F.s0,.int .u64 F.s1,.int .u64 F.s2,.int .u64 F.s3] 164)));have KK:=Lib.hid (KIs.new w1 F 164);have kr:=M1.row (b:=w.heap.size) (c0:=a0) (c1:=a1) (c2:=a2) (c3:=a3) (by simp);have x0:=kr.c0; have x1:=kr.c1; have x2:=kr.c2; have x3:=kr.c3;clear kr;have xl:=M1.lt (b:=w.heap.size) (c0:=a0) (c1:=a1) (c2:=a2) (c3:=a3) (by simp);go_wp2_with fail;refine (dT F hf.ok w1.heap.size a0 a1 a2 a3 ha _ KK.out).mono ?_
 rintro e w2 ⟨he,hbl⟩
 rw[show EM (aC a0 a1 a2 a3) F.M=true from decide_eq_true la]at he;subst he;have HM':=Lib.hid (HM.out.on hbl);have KK':=Lib.hid (KK.out.same hbl);have zk:=KK'.out.lt;clear HM KK hbl M1;have HM:=HM';have KK:=KK';clear HM' KK';clear x0 x1 x2 x3 xl zk;have kr:=HM.out.row (b:=w.heap.size+1) (c0:=b0) (c1:=b1) (c2:=b2) (c3:=b3) (by simp);have x0:=kr.c0; have x1:=kr.c1; have x2:=kr.c2; have x3:=kr.c3;clear kr;have xl:=HM.out.lt (b:=w.heap.size+1) (c0:=b0) (c1:=b1) (c2:=b2) (c3:=b3) (by simp);go_wp2_with fail;refine (dT F hf.ok w1.heap.size b0 b1 b2 b3 hb _ KK.out).mono ?_
 rintro e w3 ⟨he,hbl⟩
 rw[show EM (aC b0 b1 b2 b3) F.M=true from decide_eq_true lb]at he;subst he;have HM':=Lib.hid (HM.out.on hbl);have KK':=Lib.hid (KK.out.same hbl);have zk:=KK'.out.lt;clear HM KK hbl;have HM:=HM';have KK:=KK';clear HM' KK';clear x0 x1 x2 x3 xl zk;have kr:=HM.out.row (b:=w.heap.size) (c0:=a0) (c1:=a1) (c2:=a2) (c3:=a3) (by simp);have x0:=kr.c0; have x1:=kr.c1; have x2:=kr.c2; have x3:=kr.c3;clear kr;have xl:=HM.out.lt (b:=w.heap.size) (c0:=a0) (c1:=a1) (c2:=a2) (c3:=a3) (by simp);have kr:=HM.out.row (b:=w.heap.size+1) (c0:=b0) (c1:=b1) (c2:=b2) (c3:=b3) (by simp);have u0:=kr.c0; have u1:=kr.c1; have u2:=kr.c2; have u3:=kr.c3;clear kr;have ul:=HM.out.lt (b:=w.heap.size+1) (c0:=b0) (c1:=b1) (c2:=b2) (c3:=b3) (by simp);go_wp2_with fail;refine (GN F hf.ok w1.heap.size a0 a1 a2 a3 b0 b1 b2 b3 ha hb la lb _ KK.out).mono ?_
 rintro e w4 ⟨s0,s1,s2,s3,rfl,hs,hv,hbl⟩
 have HV:=Lib.hid hv;clear hv;have HM':=Lib.hid (HM.out.on hbl);have KK':=Lib.hid (KK.out.same hbl);have zk:=KK'.out.lt;clear HM KK hbl;have HM:=HM';have KK:=KK';clear HM' KK';clear x0 x1 x2 x3 xl u0 u1 u2 u3 ul zk;have kr:=HM.out.row (b:=w.heap.size+1+1) (c0:=0) (c1:=0) (c2:=0) (c3:=0) (by simp);have y0:=kr.c0; have y1:=kr.c1; have y2:=kr.c2; have y3:=kr.c3; have yf:=kr.fr;clear kr;have yl:=HM.out.lt (b:=w.heap.size+1+1) (c0:=0) (c1:=0) (c2:=0) (c3:=0) (by simp);go_wp2_with fail;refine bodyPost_ret (v:=.tuple #[.agg #[.int .u64 s0,.int .u64 s1,.int .u64 s2,.int .u64 s3],.int .i64 0]) (by simp[results,results178,go_sem, *]) rfl ?_;refine⟨_,_,_,_,rfl,hs,HV.out,?_⟩;exact bG HM.out.1 (by omega) _ _ _ _
set_option maxHeartbeats 2000000 in
theorem Qg (f:Int) (F:FC) (hf:FieldIs f F) (a0 a1 a2 a3 b0 b1 b2 b3:Nat) (ha:bV a0 a1 a2 a3) (hb:bV b0 b1 b2 b3) (la:aC a0 a1 a2 a3<F.M) (lb:aC b0 b1 b2 b3<F.M) (w:World) :
  Calls prog 172 #[.int .i64 f,.agg #[.int .u64 a0,.int .u64 a1,.int .u64 a2,.int .u64 a3],.agg #[.int .u64 b0,.int .u64 b1,.int .u64 b2,.int .u64 b3]] w (Ss 0 ((aC a0 a1 a2 a3+F.M-aC b0 b1 b2 b3)%F.M) w):=by
 go_enter func172,ntmps172
 go_wp2_with fail;refine (fU f F hf _).mono ?_
 rintro e w1 ⟨rfl,hbl⟩
 have M1:=((((Mem.nil w).new (w.heap.size) a0 a1 a2 a3 27 (by simp)).new (w.heap.size+1) b0 b1 b2 b3 27 (by simp)).new (w.heap.size+1+1) 0 0 0 0 27 (by simp)).on hbl;clear hbl;have z0:w.heap.size<w1.heap.size:=M1.lt (c0:=a0) (c1:=a1) (c2:=a2) (c3:=a3) (by simp);have z1:w.heap.size+1<w1.heap.size:=M1.lt (c0:=b0) (c1:=b1) (c2:=b2) (c3:=b3) (by simp);have z2:w.heap.size+1+1<w1.heap.size:=M1.lt (c0:=0) (c1:=0) (c2:=0) (c3:=0) (by simp);have HM:=Lib.hid (M1.on ((Below.refl _ _).alloc (Nat.le_refl _) (.cells #[.int .u64 F.m0,.int .u64 F.m1,.int .u64 F.m2,.int .u64 F.m3,.int .u64 F.inv,.int .u64 F.s0,.int .u64 F.s1,.int .u64 F.s2,.int .u64 F.s3] 164)));have KK:=Lib.hid (KIs.new w1 F 164);have kr:=M1.row (b:=w.heap.size) (c0:=a0) (c1:=a1) (c2:=a2) (c3:=a3) (by simp);have x0:=kr.c0; have x1:=kr.c1; have x2:=kr.c2; have x3:=kr.c3;clear kr;have xl:=M1.lt (b:=w.heap.size) (c0:=a0) (c1:=a1) (c2:=a2) (c3:=a3) (by simp);go_wp2_with fail;refine (dT F hf.ok w1.heap.size a0 a1 a2 a3 ha _ KK.out).mono ?_
 rintro e w2 ⟨he,hbl⟩
 rw[show EM (aC a0 a1 a2 a3) F.M=true from decide_eq_true la]at he;subst he;have HM':=Lib.hid (HM.out.on hbl);have KK':=Lib.hid (KK.out.same hbl);have zk:=KK'.out.lt;clear HM KK hbl M1;have HM:=HM';have KK:=KK';clear HM' KK';clear x0 x1 x2 x3 xl zk;have kr:=HM.out.row (b:=w.heap.size+1) (c0:=b0) (c1:=b1) (c2:=b2) (c3:=b3) (by simp);have x0:=kr.c0; have x1:=kr.c1; have x2:=kr.c2; have x3:=kr.c3;clear kr;have xl:=HM.out.lt (b:=w.heap.size+1) (c0:=b0) (c1:=b1) (c2:=b2) (c3:=b3) (by simp);go_wp2_with fail;refine (dT F hf.ok w1.heap.size b0 b1 b2 b3 hb _ KK.out).mono ?_
 rintro e w3 ⟨he,hbl⟩
 rw[show EM (aC b0 b1 b2 b3) F.M=true from decide_eq_true lb]at he;subst he;have HM':=Lib.hid (HM.out.on hbl);have KK':=Lib.hid (KK.out.same hbl);have zk:=KK'.out.lt;clear HM KK hbl;have HM:=HM';have KK:=KK';clear HM' KK';clear x0 x1 x2 x3 xl zk;have kr:=HM.out.row (b:=w.heap.size) (c0:=a0) (c1:=a1) (c2:=a2) (c3:=a3) (by simp);have x0:=kr.c0; have x1:=kr.c1; have x2:=kr.c2; have x3:=kr.c3;clear kr;have xl:=HM.out.lt (b:=w.heap.size) (c0:=a0) (c1:=a1) (c2:=a2) (c3:=a3) (by simp);have kr:=HM.out.row (b:=w.heap.size+1) (c0:=b0) (c1:=b1) (c2:=b2) (c3:=b3) (by simp);have u0:=kr.c0; have u1:=kr.c1; have u2:=kr.c2; have u3:=kr.c3;clear kr;have ul:=HM.out.lt (b:=w.heap.size+1) (c0:=b0) (c1:=b1) (c2:=b2) (c3:=b3) (by simp);go_wp2_with fail;refine (CL F hf.ok w1.heap.size a0 a1 a2 a3 b0 b1 b2 b3 ha hb la lb _ KK.out).mono ?_
 rintro e w4 ⟨s0,s1,s2,s3,rfl,hs,hv,hbl⟩
 have HV:=Lib.hid hv;clear hv;have HM':=Lib.hid (HM.out.on hbl);have KK':=Lib.hid (KK.out.same hbl);have zk:=KK'.out.lt;clear HM KK hbl;have HM:=HM';have KK:=KK';clear HM' KK';clear x0 x1 x2 x3 xl u0 u1 u2 u3 ul zk;have kr:=HM.out.row (b:=w.heap.size+1+1) (c0:=0) (c1:=0) (c2:=0) (c3:=0) (by simp);have y0:=kr.c0; have y1:=kr.c1; have y2:=kr.c2; have y3:=kr.c3; have yf:=kr.fr;clear kr;have yl:=HM.out.lt (b:=w.heap.size+1+1) (c0:=0) (c1:=0) (c2:=0) (c3:=0) (by simp);go_wp2_with fail;refine bodyPost_ret (v:=.tuple #[.agg #[.int .u64 s0,.int .u64 s1,.int .u64 s2,.int .u64 s3],.int .i64 0]) (by simp[results,results172,go_sem, *]) rfl ?_;refine⟨_,_,_,_,rfl,hs,HV.out,?_⟩;exact bG HM.out.1 (by omega) _ _ _ _
set_option maxHeartbeats 2000000 in
theorem Ql (f:Int) (F:FC) (hf:FieldIs f F) (a0 a1 a2 a3 b0 b1 b2 b3:Nat) (ha:bV a0 a1 a2 a3) (hb:bV b0 b1 b2 b3) (la:aC a0 a1 a2 a3<F.M) (lb:aC b0 b1 b2 b3<F.M) (w:World) :
  Calls prog 159 #[.int .i64 f,.agg #[.int .u64 a0,.int .u64 a1,.int .u64 a2,.int .u64 a3],.agg #[.int .u64 b0,.int .u64 b1,.int .u64 b2,.int .u64 b3]] w (Ss 0 (aC a0 a1 a2 a3*aC b0 b1 b2 b3%F.M) w):=by
 go_enter func159,ntmps159
 go_wp2_with fail;refine (fU f F hf _).mono ?_
 rintro e w1 ⟨rfl,hbl⟩
 have M1:=((((Mem.nil w).new (w.heap.size) a0 a1 a2 a3 27 (by simp)).new (w.heap.size+1) b0 b1 b2 b3 27 (by simp)).new (w.heap.size+1+1) 0 0 0 0 27 (by simp)).on hbl;clear hbl;have z0:w.heap.size<w1.heap.size:=M1.lt (c0:=a0) (c1:=a1) (c2:=a2) (c3:=a3) (by simp);have z1:w.heap.size+1<w1.heap.size:=M1.lt (c0:=b0) (c1:=b1) (c2:=b2) (c3:=b3) (by simp);have z2:w.heap.size+1+1<w1.heap.size:=M1.lt (c0:=0) (c1:=0) (c2:=0) (c3:=0) (by simp);have HM:=Lib.hid (M1.on ((Below.refl _ _).alloc (Nat.le_refl _) (.cells #[.int .u64 F.m0,.int .u64 F.m1,.int .u64 F.m2,.int .u64 F.m3,.int .u64 F.inv,.int .u64 F.s0,.int .u64 F.s1,.int .u64 F.s2,.int .u64 F.s3] 164)));have KK:=Lib.hid (KIs.new w1 F 164);have kr:=M1.row (b:=w.heap.size) (c0:=a0) (c1:=a1) (c2:=a2) (c3:=a3) (by simp);have x0:=kr.c0; have x1:=kr.c1; have x2:=kr.c2; have x3:=kr.c3;clear kr;have xl:=M1.lt (b:=w.heap.size) (c0:=a0) (c1:=a1) (c2:=a2) (c3:=a3) (by simp);go_wp2_with fail;refine (dT F hf.ok w1.heap.size a0 a1 a2 a3 ha _ KK.out).mono ?_
 rintro e w2 ⟨he,hbl⟩
 rw[show EM (aC a0 a1 a2 a3) F.M=true from decide_eq_true la]at he;subst he;have HM':=Lib.hid (HM.out.on hbl);have KK':=Lib.hid (KK.out.same hbl);have zk:=KK'.out.lt;clear HM KK hbl M1;have HM:=HM';have KK:=KK';clear HM' KK';clear x0 x1 x2 x3 xl zk;have kr:=HM.out.row (b:=w.heap.size+1) (c0:=b0) (c1:=b1) (c2:=b2) (c3:=b3) (by simp);have x0:=kr.c0; have x1:=kr.c1; have x2:=kr.c2; have x3:=kr.c3;clear kr;have xl:=HM.out.lt (b:=w.heap.size+1) (c0:=b0) (c1:=b1) (c2:=b2) (c3:=b3) (by simp);go_wp2_with fail;refine (dT F hf.ok w1.heap.size b0 b1 b2 b3 hb _ KK.out).mono ?_
 rintro e w3 ⟨he,hbl⟩
 rw[show EM (aC b0 b1 b2 b3) F.M=true from decide_eq_true lb]at he;subst he;have HM':=Lib.hid (HM.out.on hbl);have KK':=Lib.hid (KK.out.same hbl);have zk:=KK'.out.lt;clear HM KK hbl;have HM:=HM';have KK:=KK';clear HM' KK';clear x0 x1 x2 x3 xl zk;have kr:=HM.out.row (b:=w.heap.size) (c0:=a0) (c1:=a1) (c2:=a2) (c3:=a3) (by simp);have x0:=kr.c0; have x1:=kr.c1; have x2:=kr.c2; have x3:=kr.c3;clear kr;have xl:=HM.out.lt (b:=w.heap.size) (c0:=a0) (c1:=a1) (c2:=a2) (c3:=a3) (by simp);have kr:=HM.out.row (b:=w.heap.size+1) (c0:=b0) (c1:=b1) (c2:=b2) (c3:=b3) (by simp);have u0:=kr.c0; have u1:=kr.c1; have u2:=kr.c2; have u3:=kr.c3;clear kr;have ul:=HM.out.lt (b:=w.heap.size+1) (c0:=b0) (c1:=b1) (c2:=b2) (c3:=b3) (by simp);go_wp2_with fail;refine (uZ F hf.ok w1.heap.size a0 a1 a2 a3 b0 b1 b2 b3 ha hb lb _ KK.out).mono ?_
 rintro e w4 ⟨s0,s1,s2,s3,rfl,hs,hv,hbl⟩
 have HV:=Lib.hid hv;clear hv;have HM':=Lib.hid (HM.out.on hbl);have KK':=Lib.hid (KK.out.same hbl);have zk:=KK'.out.lt;clear HM KK hbl;have HM:=HM';have KK:=KK';clear HM' KK';clear x0 x1 x2 x3 xl u0 u1 u2 u3 ul zk;have kr:=HM.out.row (b:=w.heap.size+1+1) (c0:=0) (c1:=0) (c2:=0) (c3:=0) (by simp);have y0:=kr.c0; have y1:=kr.c1; have y2:=kr.c2; have y3:=kr.c3; have yf:=kr.fr;clear kr;have yl:=HM.out.lt (b:=w.heap.size+1+1) (c0:=0) (c1:=0) (c2:=0) (c3:=0) (by simp);go_wp2_with fail;refine bodyPost_ret (v:=.tuple #[.agg #[.int .u64 s0,.int .u64 s1,.int .u64 s2,.int .u64 s3],.int .i64 0]) (by simp[results,results159,go_sem, *]) rfl ?_;refine⟨_,_,_,_,rfl,hs,HV.out,?_⟩;exact bG HM.out.1 (by omega) _ _ _ _
set_option maxHeartbeats 2000000 in
theorem Qk (f:Int) (F:FC) (hf:FieldIs f F) (a0 a1 a2 a3:Nat) (ha:bV a0 a1 a2 a3) (la:aC a0 a1 a2 a3<F.M) (w:World) :
  Calls prog 138 #[.int .i64 f,.agg #[.int .u64 a0,.int .u64 a1,.int .u64 a2,.int .u64 a3]] w (Ss 0 ((0+F.M-aC a0 a1 a2 a3)%F.M) w):=by
 go_enter func138,ntmps138
 go_wp2_with fail;refine (fU f F hf _).mono ?_
 rintro e w1 ⟨rfl,hbl⟩
 have M1:=(((Mem.nil w).new (w.heap.size) a0 a1 a2 a3 27 (by simp)).new (w.heap.size+1) 0 0 0 0 27 (by simp)).on hbl;clear hbl;have z0:w.heap.size<w1.heap.size:=M1.lt (c0:=a0) (c1:=a1) (c2:=a2) (c3:=a3) (by simp);have z1:w.heap.size+1<w1.heap.size:=M1.lt (c0:=0) (c1:=0) (c2:=0) (c3:=0) (by simp);have HM:=Lib.hid (M1.on ((Below.refl _ _).alloc (Nat.le_refl _) (.cells #[.int .u64 F.m0,.int .u64 F.m1,.int .u64 F.m2,.int .u64 F.m3,.int .u64 F.inv,.int .u64 F.s0,.int .u64 F.s1,.int .u64 F.s2,.int .u64 F.s3] 164)));have KK:=Lib.hid (KIs.new w1 F 164);have kr:=M1.row (b:=w.heap.size) (c0:=a0) (c1:=a1) (c2:=a2) (c3:=a3) (by simp);have x0:=kr.c0; have x1:=kr.c1; have x2:=kr.c2; have x3:=kr.c3;clear kr;have xl:=M1.lt (b:=w.heap.size) (c0:=a0) (c1:=a1) (c2:=a2) (c3:=a3) (by simp);go_wp2_with fail;refine (dT F hf.ok w1.heap.size a0 a1 a2 a3 ha _ KK.out).mono ?_
 rintro e w2 ⟨he,hbl⟩
 rw[show EM (aC a0 a1 a2 a3) F.M=true from decide_eq_true la]at he;subst he;have HM':=Lib.hid (HM.out.on hbl);have KK':=Lib.hid (KK.out.same hbl);have zk:=KK'.out.lt;clear HM KK hbl M1;have HM:=HM';have KK:=KK';clear HM' KK';clear x0 x1 x2 x3 xl zk;have kr:=HM.out.row (b:=w.heap.size) (c0:=a0) (c1:=a1) (c2:=a2) (c3:=a3) (by simp);have x0:=kr.c0; have x1:=kr.c1; have x2:=kr.c2; have x3:=kr.c3;clear kr;have xl:=HM.out.lt (b:=w.heap.size) (c0:=a0) (c1:=a1) (c2:=a2) (c3:=a3) (by simp);go_wp2_with fail;refine (CL F hf.ok w1.heap.size 0 0 0 0 a0 a1 a2 a3 zok ha hf.ok.pos la _ KK.out).mono ?_
 rintro e w4 ⟨s0,s1,s2,s3,rfl,hs,hv,hbl⟩
 have HV:=Lib.hid hv;clear hv;have HM':=Lib.hid (HM.out.on hbl);have KK':=Lib.hid (KK.out.same hbl);have zk:=KK'.out.lt;clear HM KK hbl;have HM:=HM';have KK:=KK';clear HM' KK';clear x0 x1 x2 x3 xl zk;have kr:=HM.out.row (b:=w.heap.size+1) (c0:=0) (c1:=0) (c2:=0) (c3:=0) (by simp);have y0:=kr.c0; have y1:=kr.c1; have y2:=kr.c2; have y3:=kr.c3; have yf:=kr.fr;clear kr;have yl:=HM.out.lt (b:=w.heap.size+1) (c0:=0) (c1:=0) (c2:=0) (c3:=0) (by simp);go_wp2_with fail;refine bodyPost_ret (v:=.tuple #[.agg #[.int .u64 s0,.int .u64 s1,.int .u64 s2,.int .u64 s3],.int .i64 0]) (by simp[results,results138,go_sem, *]) rfl ?_;refine⟨_,_,_,_,rfl,hs,HV.out,?_⟩;exact bG HM.out.1 (by omega) _ _ _ _
set_option maxHeartbeats 2000000 in
theorem JG (f c:Int) (a0 a1 a2 a3:Nat) (ha:bV a0 a1 a2 a3) (h:Bad1 f (aC a0 a1 a2 a3) c) (w:World) :
  Calls prog 173 #[.int .i64 f,.agg #[.int .u64 a0,.int .u64 a1,.int .u64 a2,.int .u64 a3]] w fun e w'=>e=.returned (.int .i64 c)∧Below w.heap.size w w':=by
 rcases h with⟨h1,h2,rfl⟩|⟨F,hf,la,rfl⟩
 ·go_enter func173,ntmps173
  go_wp2_with fail;refine (Yh f h1 h2 _).mono ?_
  rintro e w1 ⟨rfl,hbl⟩
  have M1:=((Mem.nil w).new (w.heap.size) a0 a1 a2 a3 27 (by simp)).on hbl;clear hbl;have z0:w.heap.size<w1.heap.size:=M1.lt (c0:=a0) (c1:=a1) (c2:=a2) (c3:=a3) (by simp);have HM:=Lib.hid (M1.on ((Below.refl _ _).alloc (Nat.le_refl _) (.cells #[.int .u64 0,.int .u64 0,.int .u64 0,.int .u64 0,.int .u64 0,.int .u64 0,.int .u64 0,.int .u64 0,.int .u64 0] 164)));go_wp2_with fail;refine (YU _).mono ?_
  rintro e w2 ⟨rfl,rfl⟩
  go_wp2_with fail;refine bodyPost_ret (v:=.int .i64 1) (by simp[results,results173,go_sem, *]) rfl ?_;exact⟨rfl,HM.out.1⟩
 ·go_enter func173,ntmps173
  go_wp2_with fail;refine (fU f F hf _).mono ?_
  rintro e w1 ⟨rfl,hbl⟩
  have M1:=((Mem.nil w).new (w.heap.size) a0 a1 a2 a3 27 (by simp)).on hbl;clear hbl;have z0:w.heap.size<w1.heap.size:=M1.lt (c0:=a0) (c1:=a1) (c2:=a2) (c3:=a3) (by simp);have HM:=Lib.hid (M1.on ((Below.refl _ _).alloc (Nat.le_refl _) (.cells #[.int .u64 F.m0,.int .u64 F.m1,.int .u64 F.m2,.int .u64 F.m3,.int .u64 F.inv,.int .u64 F.s0,.int .u64 F.s1,.int .u64 F.s2,.int .u64 F.s3] 164)));have KK:=Lib.hid (KIs.new w1 F 164);have kr:=M1.row (b:=w.heap.size) (c0:=a0) (c1:=a1) (c2:=a2) (c3:=a3) (by simp);have x0:=kr.c0; have x1:=kr.c1; have x2:=kr.c2; have x3:=kr.c3;clear kr;have xl:=M1.lt (b:=w.heap.size) (c0:=a0) (c1:=a1) (c2:=a2) (c3:=a3) (by simp);go_wp2_with fail;refine (dT F hf.ok w1.heap.size a0 a1 a2 a3 ha _ KK.out).mono ?_
  rintro e w2 ⟨he,hbl⟩
  rw[show EM (aC a0 a1 a2 a3) F.M=false from decide_eq_false la]at he;subst he;have HM':=Lib.hid (HM.out.on hbl);have KK':=Lib.hid (KK.out.same hbl);have zk:=KK'.out.lt;clear HM KK hbl M1;have HM:=HM';have KK:=KK';clear HM' KK';clear x0 x1 x2 x3 xl zk;go_wp2_with fail;refine (YT _).mono ?_
  rintro e w3 ⟨rfl,rfl⟩
  go_wp2_with fail;refine bodyPost_ret (v:=.int .i64 21) (by simp[results,results173,go_sem, *]) rfl ?_;exact⟨rfl,HM.out.1⟩
set_option maxHeartbeats 2000000 in
theorem OB (f:Int) (F:FC) (hf:FieldIs f F) (a0 a1 a2 a3:Nat) (ha:bV a0 a1 a2 a3) (la:aC a0 a1 a2 a3<F.M) (w:World) :
  Calls prog 173 #[.int .i64 f,.agg #[.int .u64 a0,.int .u64 a1,.int .u64 a2,.int .u64 a3]] w (fun e w'=>e=.returned (.int .i64 0)∧Below w.heap.size w w'):=by
 go_enter func173,ntmps173
 go_wp2_with fail;refine (fU f F hf _).mono ?_
 rintro e w1 ⟨rfl,hbl⟩
 have M1:=((Mem.nil w).new (w.heap.size) a0 a1 a2 a3 27 (by simp)).on hbl;clear hbl;have z0:w.heap.size<w1.heap.size:=M1.lt (c0:=a0) (c1:=a1) (c2:=a2) (c3:=a3) (by simp);have HM:=Lib.hid (M1.on ((Below.refl _ _).alloc (Nat.le_refl _) (.cells #[.int .u64 F.m0,.int .u64 F.m1,.int .u64 F.m2,.int .u64 F.m3,.int .u64 F.inv,.int .u64 F.s0,.int .u64 F.s1,.int .u64 F.s2,.int .u64 F.s3] 164)));have KK:=Lib.hid (KIs.new w1 F 164);have kr:=M1.row (b:=w.heap.size) (c0:=a0) (c1:=a1) (c2:=a2) (c3:=a3) (by simp);have x0:=kr.c0; have x1:=kr.c1; have x2:=kr.c2; have x3:=kr.c3;clear kr;have xl:=M1.lt (b:=w.heap.size) (c0:=a0) (c1:=a1) (c2:=a2) (c3:=a3) (by simp);go_wp2_with fail;refine (dT F hf.ok w1.heap.size a0 a1 a2 a3 ha _ KK.out).mono ?_
 rintro e w2 ⟨he,hbl⟩
 rw[show EM (aC a0 a1 a2 a3) F.M=true from decide_eq_true la]at he;subst he;have HM':=Lib.hid (HM.out.on hbl);have KK':=Lib.hid (KK.out.same hbl);have zk:=KK'.out.lt;clear HM KK hbl M1;have HM:=HM';have KK:=KK';clear HM' KK';clear x0 x1 x2 x3 xl zk;go_wp2_with fail;go_ret;exact⟨rfl,HM.out.1⟩
set_option maxHeartbeats 2000000 in
theorem vD (f:Int) (F:FC) (hf:FieldIs f F) (w:World):Calls prog 86 #[.int .i64 f] w fun e w'=>e=.returned (.agg #[.int .u64 F.m0,.int .u64 F.m1,.int .u64 F.m2,.int .u64 F.m3])∧Below w.heap.size w w':=by
 go_enter func86,ntmps86
 go_wp2_with fail;refine (fU f F hf _).mono ?_
 rintro e w1 ⟨rfl,hbl⟩
 have M1:=((Mem.nil w).new (w.heap.size) 0 0 0 0 67 (by simp)).on hbl;clear hbl;have z0:w.heap.size<w1.heap.size:=M1.lt (c0:=0) (c1:=0) (c2:=0) (c3:=0) (by simp);have HM:=Lib.hid (M1.on ((Below.refl _ _).alloc (Nat.le_refl _) (.cells #[.int .u64 F.m0,.int .u64 F.m1,.int .u64 F.m2,.int .u64 F.m3,.int .u64 F.inv,.int .u64 F.s0,.int .u64 F.s1,.int .u64 F.s2,.int .u64 F.s3] 164)));have KK:=Lib.hid (KIs.new w1 F 164);have k0:=KK.out.k0; have k1:=KK.out.k1; have k2:=KK.out.k2; have k3:=KK.out.k3;have kr:=M1.row (b:=w.heap.size) (c0:=0) (c1:=0) (c2:=0) (c3:=0) (by simp);have y0:=kr.c0; have y1:=kr.c1; have y2:=kr.c2; have y3:=kr.c3; have yf:=kr.fr;clear kr;have yl:=M1.lt (b:=w.heap.size) (c0:=0) (c1:=0) (c2:=0) (c3:=0) (by simp);go_wp2_with fail;refine bodyPost_ret (v:=.agg #[.int .u64 F.m0,.int .u64 F.m1,.int .u64 F.m2,.int .u64 F.m3]) (by simp[results,results86,go_sem, *]) rfl ?_;refine⟨rfl,?_⟩
 repeat (first|exact M1.1|exact HM.out.1|refine Below.alloc ?_ (by first|(simp; done)|(simp; omega)) _|refine Below.setCell ?_ (by first|(simp; done)|(simp; omega)) _)
open Go.ChangeShapes Go.WideShapes Go.ChangeAt Go.RowKit
def LAt (w:World) (g off len:Nat) (A:Nat→Nat→Nat):Prop:=∀k,k<len →
 w.cell? ⟨g,off+k*4,none⟩=some (.int .u64 (A k 0))∧w.cell? ⟨g,off+k*4+1,none⟩=some (.int .u64 (A k 1)) ∧
 w.cell? ⟨g,off+k*4+2,none⟩=some (.int .u64 (A k 2))∧w.cell? ⟨g,off+k*4+3,none⟩=some (.int .u64 (A k 3))
def LOk (len:Nat) (A:Nat→Nat→Nat):Prop:=∀k,k<len→bV (A k 0) (A k 1) (A k 2) (A k 3)
theorem LAt.same {w w':World} {g off len:Nat} {A:Nat→Nat→Nat} {B:Nat} (h:LAt w g off len A) (hg:0<len→g<B) (hb:Below B w w'):LAt w' g off len A :=
 fun k hk=>have hg:=hg (Nat.lt_of_le_of_lt (Nat.zero_le _) hk); ⟨(hb.cell (p:=⟨g,off+k*4,none⟩) hg).trans (h k hk).1,(hb.cell (p:=⟨g,off+k*4+1,none⟩) hg).trans (h k hk).2.1,
  (hb.cell (p:=⟨g,off+k*4+2,none⟩) hg).trans (h k hk).2.2.1,(hb.cell (p:=⟨g,off+k*4+3,none⟩) hg).trans (h k hk).2.2.2⟩
set_option maxHeartbeats 1000000 in
theorem SD (F:FC) (hF:F.Ok) (b g off len cap:Nat) (A:Nat→Nat→Nat) (hA:LOk len A) (hm:len≤9223372036854775807) (w:World) (hk:KIs w b F) (hg:0<len→g<w.heap.size) (hl:LAt w g off len A) :
  Calls prog 139 #[.pointer (some ⟨b,0,none⟩),.slice (some ⟨g,off,none⟩) len cap] w fun e w'=>(∃t:Bool,e=.returned (.bool t)∧(t=true↔∀k,k<len→aC (A k 0) (A k 1) (A k 2) (A k 3)<F.M))∧Below w.heap.size w w':=by
 have HK:=Lib.hid hk;have HL:=Lib.hid hl;have HG:=Lib.hid hg;clear hg;have HA:=Lib.hid hA;have HF:=Lib.hid hF;clear hk hl hA hF
 go_enter func139,ntmps139
 go_wp2_with fail
 go_loopw [9] (fun t wr=>∃k:Nat,k≤len∧t=.int .i64 k∧Hid (∀j,j<k→aC (A j 0) (A j 1) (A j 2) (A j 3)<F.M)∧Below w.heap.size w wr) (fun t _=>len-(intOf t).toNat)
 case atStart=>exact⟨0,Nat.zero_le _,rfl,Lib.hid (fun j h=>absurd h (by omega)),Below.refl _ _⟩
 case round =>
  obtain⟨k,hk,rfl,ha,hbl⟩:=hrel
  by_cases hlt:k<len
  ·obtain⟨a0,a1,a2,a3,e0,e1,e2,e3⟩:∃a0 a1 a2 a3:Nat,a0=A k 0∧a1=A k 1∧a2=A k 2∧a3=A k 3:=⟨_,_,_,_,rfl,rfl,rfl,rfl⟩
   have hc:=(HL.out.same HG.out hbl) k hlt;have hok:=HA.out k hlt;rw[←e0,←e1,←e2,←e3]at hc hok;have c0:=hc.1; have c1:=hc.2.1; have c2:=hc.2.2.1; have c3:=hc.2.2.2;clear hc;have HB:=Lib.hid hbl;have HR:=Lib.hid (HK.out.same hbl);clear hbl;have HE:=Lib.hid (And.intro e0 (And.intro e1 (And.intro e2 e3)));have HO:=Lib.hid hok;clear e0 e1 e2 e3 hok;have hsz:w.heap.size≤wr.heap.size:=HB.out.size;go_wp2_with fail;refine (dT F HF.out b a0 a1 a2 a3 HO.out _ (HR.out.same ((Below.refl _ _).alloc (Nat.le_refl _) _))).mono ?_
   rintro e w2 ⟨rfl,hb2⟩
   have HW:=Lib.hid ((HB.out.alloc hsz (.cells #[.int .u64 a0,.int .u64 a1,.int .u64 a2,.int .u64 a3] 27)).trans (hb2.mono (by simp; omega)));clear hb2 c0 c1 c2 c3
   by_cases hv:aC a0 a1 a2 a3<F.M
   ·rw[show EM (aC a0 a1 a2 a3) F.M=true from decide_eq_true hv];have HN:=Lib.hid (show ∀j,j<k+1→aC (A j 0) (A j 1) (A j 2) (A j 3)<F.M from fun j h=>by
     by_cases e:j=k
     ·subst e; rw[←HE.out.1,←HE.out.2.1,←HE.out.2.2.1,←HE.out.2.2.2]; exact hv
     ·exact ha.out j (by omega))
    clear hv;go_wp2_with fail
    go_round
    case rel=>exact⟨k+1,by omega,by go_num,HN,HW.out⟩
    case measure=>simp[intOf]; omega
   ·rw[show EM (aC a0 a1 a2 a3) F.M=false from decide_eq_false hv];have HN:=Lib.hid (show ¬ ∀j,j<len→aC (A j 0) (A j 1) (A j 2) (A j 3)<F.M from fun h=>hv (by
     have:=h k hlt
     rwa [←HE.out.1,←HE.out.2.1,←HE.out.2.2.1,←HE.out.2.2.2]at this))
    clear hv;go_wp2_with fail;go_ret;exact⟨⟨false,rfl,⟨fun h=>(by cases h),fun h=>absurd h HN.out⟩⟩,HW.out⟩
  ·obtain rfl:k=len:=by omega
   have HB:=Lib.hid hbl;clear hbl;go_wp2_with fail;go_ret;exact⟨⟨true,rfl,⟨fun _=>ha.out,fun _=>rfl⟩⟩,HB.out⟩
set_option maxHeartbeats 2000000 in
theorem aEI (f:Int) (F:FC) (hf:FieldIs f F) (a0 a1 a2 a3 b0 b1 b2 b3:Nat) (ha:bV a0 a1 a2 a3) (hb:bV b0 b1 b2 b3) (la:aC a0 a1 a2 a3<F.M) (lb:aC b0 b1 b2 b3<F.M) (hz:aC b0 b1 b2 b3=0) (w:World) :
  Calls prog 179 #[.int .i64 f,.agg #[.int .u64 a0,.int .u64 a1,.int .u64 a2,.int .u64 a3],.agg #[.int .u64 b0,.int .u64 b1,.int .u64 b2,.int .u64 b3]] w (Ss 22 0 w):=by
 have HE:=Lib.hid (show ∀w,(Op.equalIn 10000 27 (.agg #[.int .u64 b0,.int .u64 b1,.int .u64 b2,.int .u64 b3]) (.agg #[.int .u64 0,.int .u64 0,.int .u64 0,.int .u64 0])).run prog w=.ok true w from fun w=>by
  have h:=Ce 9998 b0 b1 b2 b3 0 0 0 0 w;rw[(yV hb zok).2 (hz.trans rfl)]at h;exact h)
 have hG:=Cg;clear hz
 go_enter func179,ntmps179
 go_wp2_with fail;refine (fU f F hf _).mono ?_
 rintro e w1 ⟨rfl,hbl⟩
 have M1:=((((Mem.nil w).new (w.heap.size) a0 a1 a2 a3 27 (by simp)).new (w.heap.size+1) b0 b1 b2 b3 27 (by simp)).new (w.heap.size+1+1) 0 0 0 0 27 (by simp)).on hbl;clear hbl;have z0:w.heap.size<w1.heap.size:=M1.lt (c0:=a0) (c1:=a1) (c2:=a2) (c3:=a3) (by simp);have z1:w.heap.size+1<w1.heap.size:=M1.lt (c0:=b0) (c1:=b1) (c2:=b2) (c3:=b3) (by simp);have z2:w.heap.size+1+1<w1.heap.size:=M1.lt (c0:=0) (c1:=0) (c2:=0) (c3:=0) (by simp);have HM:=Lib.hid (M1.on ((Below.refl _ _).alloc (Nat.le_refl _) (.cells #[.int .u64 F.m0,.int .u64 F.m1,.int .u64 F.m2,.int .u64 F.m3,.int .u64 F.inv,.int .u64 F.s0,.int .u64 F.s1,.int .u64 F.s2,.int .u64 F.s3] 164)));have KK:=Lib.hid (KIs.new w1 F 164);have kr:=M1.row (b:=w.heap.size) (c0:=a0) (c1:=a1) (c2:=a2) (c3:=a3) (by simp);have x0:=kr.c0; have x1:=kr.c1; have x2:=kr.c2; have x3:=kr.c3;clear kr;have xl:=M1.lt (b:=w.heap.size) (c0:=a0) (c1:=a1) (c2:=a2) (c3:=a3) (by simp);go_wp2_with fail;refine (dT F hf.ok w1.heap.size a0 a1 a2 a3 ha _ KK.out).mono ?_
 rintro e w2 ⟨he,hbl⟩
 rw[show EM (aC a0 a1 a2 a3) F.M=true from decide_eq_true la]at he;subst he;have HM':=Lib.hid (HM.out.on hbl);have KK':=Lib.hid (KK.out.same hbl);have zk:=KK'.out.lt;clear HM KK hbl M1;have HM:=HM';have KK:=KK';clear HM' KK';clear x0 x1 x2 x3 xl zk;have kr:=HM.out.row (b:=w.heap.size+1) (c0:=b0) (c1:=b1) (c2:=b2) (c3:=b3) (by simp);have x0:=kr.c0; have x1:=kr.c1; have x2:=kr.c2; have x3:=kr.c3;clear kr;have xl:=HM.out.lt (b:=w.heap.size+1) (c0:=b0) (c1:=b1) (c2:=b2) (c3:=b3) (by simp);go_wp2_with fail;refine (dT F hf.ok w1.heap.size b0 b1 b2 b3 hb _ KK.out).mono ?_
 rintro e w3 ⟨he,hbl⟩
 rw[show EM (aC b0 b1 b2 b3) F.M=true from decide_eq_true lb]at he;subst he;have HM':=Lib.hid (HM.out.on hbl);have KK':=Lib.hid (KK.out.same hbl);have zk:=KK'.out.lt;clear HM KK hbl;have HM:=HM';have KK:=KK';clear HM' KK';clear x0 x1 x2 x3 xl zk;have kr:=HM.out.row (b:=w.heap.size+1) (c0:=b0) (c1:=b1) (c2:=b2) (c3:=b3) (by simp);have u0:=kr.c0; have u1:=kr.c1; have u2:=kr.c2; have u3:=kr.c3;clear kr;have ul:=HM.out.lt (b:=w.heap.size+1) (c0:=b0) (c1:=b1) (c2:=b2) (c3:=b3) (by simp);have kr:=HM.out.row (b:=w.heap.size+1+1) (c0:=0) (c1:=0) (c2:=0) (c3:=0) (by simp);have y0:=kr.c0; have y1:=kr.c1; have y2:=kr.c2; have y3:=kr.c3; have yf:=kr.fr;clear kr;have yl:=HM.out.lt (b:=w.heap.size+1+1) (c0:=0) (c1:=0) (c2:=0) (c3:=0) (by simp);have hE:=HE.out;go_wp2_with fail;refine bodyPost_ret (v:=.tuple #[.agg #[.int .u64 0,.int .u64 0,.int .u64 0,.int .u64 0],.int .i64 22]) (by simp[results,results179,go_sem, *]) rfl ?_;refine⟨_,_,_,_,rfl,zok,rfl,?_⟩;exact bG HM.out.1 (by omega) 0 0 0 0
set_option maxHeartbeats 2000000 in
theorem aKB (f:Int) (F:FC) (hf:FieldIs f F) (a0 a1 a2 a3 b0 b1 b2 b3:Nat) (ha:bV a0 a1 a2 a3) (hb:bV b0 b1 b2 b3) (la:aC a0 a1 a2 a3<F.M) (lb:aC b0 b1 b2 b3<F.M) (hz:aC b0 b1 b2 b3≠0) (w:World) :
  Calls prog 179 #[.int .i64 f,.agg #[.int .u64 a0,.int .u64 a1,.int .u64 a2,.int .u64 a3],.agg #[.int .u64 b0,.int .u64 b1,.int .u64 b2,.int .u64 b3]] w (Ss 0 (aC a0 a1 a2 a3*(aC b0 b1 b2 b3^(F.M-2))%F.M) w):=by
 have HE:=Lib.hid (show ∀w,(Op.equalIn 10000 27 (.agg #[.int .u64 b0,.int .u64 b1,.int .u64 b2,.int .u64 b3]) (.agg #[.int .u64 0,.int .u64 0,.int .u64 0,.int .u64 0])).run prog w=.ok false w from fun w=>by
  have h:=Ce 9998 b0 b1 b2 b3 0 0 0 0 w;have q:Qz b0 b1 b2 b3 0 0 0 0=false:=by
   cases q:Qz b0 b1 b2 b3 0 0 0 0
   ·rfl
   ·exact absurd (((yV hb zok).1 q).trans rfl) hz
  rw[q]at h;exact h)
 have hG:=Cg;clear hz
 go_enter func179,ntmps179
 go_wp2_with fail;refine (fU f F hf _).mono ?_
 rintro e w1 ⟨rfl,hbl⟩
 have M1:=((((Mem.nil w).new (w.heap.size) a0 a1 a2 a3 27 (by simp)).new (w.heap.size+1) b0 b1 b2 b3 27 (by simp)).new (w.heap.size+1+1) 0 0 0 0 27 (by simp)).on hbl;clear hbl;have z0:w.heap.size<w1.heap.size:=M1.lt (c0:=a0) (c1:=a1) (c2:=a2) (c3:=a3) (by simp);have z1:w.heap.size+1<w1.heap.size:=M1.lt (c0:=b0) (c1:=b1) (c2:=b2) (c3:=b3) (by simp);have z2:w.heap.size+1+1<w1.heap.size:=M1.lt (c0:=0) (c1:=0) (c2:=0) (c3:=0) (by simp);have HM:=Lib.hid (M1.on ((Below.refl _ _).alloc (Nat.le_refl _) (.cells #[.int .u64 F.m0,.int .u64 F.m1,.int .u64 F.m2,.int .u64 F.m3,.int .u64 F.inv,.int .u64 F.s0,.int .u64 F.s1,.int .u64 F.s2,.int .u64 F.s3] 164)));have KK:=Lib.hid (KIs.new w1 F 164);have kr:=M1.row (b:=w.heap.size) (c0:=a0) (c1:=a1) (c2:=a2) (c3:=a3) (by simp);have x0:=kr.c0; have x1:=kr.c1; have x2:=kr.c2; have x3:=kr.c3;clear kr;have xl:=M1.lt (b:=w.heap.size) (c0:=a0) (c1:=a1) (c2:=a2) (c3:=a3) (by simp);go_wp2_with fail;refine (dT F hf.ok w1.heap.size a0 a1 a2 a3 ha _ KK.out).mono ?_
 rintro e w2 ⟨he,hbl⟩
 rw[show EM (aC a0 a1 a2 a3) F.M=true from decide_eq_true la]at he;subst he;have HM':=Lib.hid (HM.out.on hbl);have KK':=Lib.hid (KK.out.same hbl);have zk:=KK'.out.lt;clear HM KK hbl M1;have HM:=HM';have KK:=KK';clear HM' KK';clear x0 x1 x2 x3 xl zk;have kr:=HM.out.row (b:=w.heap.size+1) (c0:=b0) (c1:=b1) (c2:=b2) (c3:=b3) (by simp);have x0:=kr.c0; have x1:=kr.c1; have x2:=kr.c2; have x3:=kr.c3;clear kr;have xl:=HM.out.lt (b:=w.heap.size+1) (c0:=b0) (c1:=b1) (c2:=b2) (c3:=b3) (by simp);go_wp2_with fail;refine (dT F hf.ok w1.heap.size b0 b1 b2 b3 hb _ KK.out).mono ?_
 rintro e w3 ⟨he,hbl⟩
 rw[show EM (aC b0 b1 b2 b3) F.M=true from decide_eq_true lb]at he;subst he;have HM':=Lib.hid (HM.out.on hbl);have KK':=Lib.hid (KK.out.same hbl);have zk:=KK'.out.lt;clear HM KK hbl;have HM:=HM';have KK:=KK';clear HM' KK';clear x0 x1 x2 x3 xl zk;have kr:=HM.out.row (b:=w.heap.size+1) (c0:=b0) (c1:=b1) (c2:=b2) (c3:=b3) (by simp);have u0:=kr.c0; have u1:=kr.c1; have u2:=kr.c2; have u3:=kr.c3;clear kr;have ul:=HM.out.lt (b:=w.heap.size+1) (c0:=b0) (c1:=b1) (c2:=b2) (c3:=b3) (by simp);have hE:=HE.out;go_wp2_with fail;clear u0 u1 u2 u3 ul hE;refine eH (fun wx=>Mem w wx [(w.heap.size+1,b0,b1,b2,b3),(w.heap.size,a0,a1,a2,a3)]) 6 (by kernel_rfl) ?_;have HM':=Lib.hid (HM.out.drewN 1);have KK':=Lib.hid (KK.out.drewN 1);clear HM KK;have HM:=HM';have KK:=KK';clear HM' KK';have HS:=HM.out.sub (rs':=[(w.heap.size+1,b0,b1,b2,b3),(w.heap.size,a0,a1,a2,a3)]) (by simp);refine aK (i:=0) (v:=.agg #[.int .u64 b0,.int .u64 b1,.int .u64 b2,.int .u64 b3]) rfl (by kernel_rfl) (by kernel_rfl) (by kernel_rfl) (by kernel_rfl) (fun _ _ _ h=>h) HS (Or.inl ⟨by kernel_rfl,fun wx hx => ?_⟩) ?_
 ·have kr:=hx.row (b:=w.heap.size+1) (c0:=b0) (c1:=b1) (c2:=b2) (c3:=b3) (by simp);have x0:=kr.c0; have x1:=kr.c1; have x2:=kr.c2; have x3:=kr.c3;clear kr HS hx;go_simp
 simp only[Act.put,List.setIfInBounds_toArray,List.set_cons_zero,List.set_cons_succ];refine aK (i:=3) (v:=.agg #[.int .u64 a0,.int .u64 a1,.int .u64 a2,.int .u64 a3]) rfl (by kernel_rfl) (by kernel_rfl) (by kernel_rfl) (by kernel_rfl) (fun _ _ _ h=>h) HS (Or.inl ⟨by kernel_rfl,fun wx hx => ?_⟩) ?_
 ·have kr:=hx.row (b:=w.heap.size) (c0:=a0) (c1:=a1) (c2:=a2) (c3:=a3) (by simp);have x0:=kr.c0; have x1:=kr.c1; have x2:=kr.c2; have x3:=kr.c3;clear kr HS hx;go_simp
 simp only[Act.put,List.setIfInBounds_toArray,List.set_cons_zero,List.set_cons_succ];clear HS;refine aN (i:=1) (by kernel_rfl) rfl (fun K hK => ?_);go_simp;refine (qY F hf.ok w1.heap.size b0 b1 b2 b3 hb _ KK.out).mono ?_
 rintro e w4 ⟨i0,i1,i2,i3,rfl,hi,hv,hbl⟩
 have HVi:=Lib.hid hv;clear hv;have HM':=Lib.hid (HM.out.on hbl);have KK':=Lib.hid (KK.out.same hbl);have zk_w4:=KK'.out.lt;clear HM KK hbl;have HM:=HM';have KK:=KK';clear HM' KK';have HS:=HM.out.sub (rs':=[(w.heap.size+1,b0,b1,b2,b3),(w.heap.size,a0,a1,a2,a3)]) (by simp);refine hK.out _ _ (Or.inr HS) (fun _ => ?_);clear hK K;clear HS;refine aN (i:=2) (by kernel_rfl) rfl (fun K hK => ?_);go_simp;refine (IV F hf.ok (aC b0 b1 b2 b3) w1.heap.size i0 i1 i2 i3 hi HVi.out _ KK.out).mono ?_
 rintro e w5 ⟨j0,j1,j2,j3,rfl,hj,hv,hbl⟩
 have HVj:=Lib.hid hv;clear hv;have HM':=Lib.hid (HM.out.on hbl);have KK':=Lib.hid (KK.out.same hbl);have zk_w5:=KK'.out.lt;clear HM KK hbl;have HM:=HM';have KK:=KK';clear HM' KK';have HS:=HM.out.sub (rs':=[(w.heap.size+1,b0,b1,b2,b3),(w.heap.size,a0,a1,a2,a3)]) (by simp);refine hK.out _ _ (Or.inr HS) (fun _ => ?_);clear hK K;clear HS;refine aN (i:=4) (by kernel_rfl) rfl (fun K hK => ?_);go_simp;refine (jF F hf.ok w1.heap.size j0 j1 j2 j3 a0 a1 a2 a3 hj ha la _ KK.out).mono ?_
 rintro e w6 ⟨s0,s1,s2,s3,rfl,hs,hv,hbl⟩
 have HVs:=Lib.hid (show aC s0 s1 s2 s3=aC a0 a1 a2 a3*(aC b0 b1 b2 b3^(F.M-2))%F.M by rw[hv,HVj.out,IQ hf.ok,Nat.mul_comm]);clear hv;have HM':=Lib.hid (HM.out.on hbl);have KK':=Lib.hid (KK.out.same hbl);have zk_w6:=KK'.out.lt;clear HM KK hbl;have HM:=HM';have KK:=KK';clear HM' KK';have HS:=HM.out.sub (rs':=[(w.heap.size+1,b0,b1,b2,b3),(w.heap.size,a0,a1,a2,a3)]) (by simp);refine hK.out _ _ (Or.inr HS) (fun _ => ?_);clear hK K;clear HS;have kr:=HM.out.row (b:=w.heap.size+1+1) (c0:=0) (c1:=0) (c2:=0) (c3:=0) (by simp);have y0:=kr.c0; have y1:=kr.c1; have y2:=kr.c2; have y3:=kr.c3; have yf:=kr.fr;clear kr;have yl:=HM.out.lt (b:=w.heap.size+1+1) (c0:=0) (c1:=0) (c2:=0) (c3:=0) (by simp);refine aN (i:=5) (by kernel_rfl) rfl (fun K hK => ?_);go_simp;have HM':=Lib.hid ((HM.out.sub (rs':=[(w.heap.size+1+1,0,0,0,0),(w.heap.size+1,b0,b1,b2,b3),(w.heap.size,a0,a1,a2,a3)]) (by simp)).put s0 s1 s2 s3 (by omega) (by intro r hr; simp at hr; rcases hr with rfl|rfl<;>simp<;>omega));clear HM;have HM:=HM';clear HM';have HS:=HM.out.sub (rs':=[(w.heap.size+1,b0,b1,b2,b3),(w.heap.size,a0,a1,a2,a3)]) (by simp);refine hK.out _ _ (Or.inr HS) (fun _ => ?_);clear hK K;clear HS;refine aN (i:=6) (by kernel_rfl) rfl (fun K hK => ?_);go_simp;refine hK.out _ _ (Or.inl rfl) (fun _ => ?_);clear hK K;refine dJ (by kernel_rfl) ?_;go_wp2_with fail;refine bodyPost_ret (v:=.tuple #[.agg #[.int .u64 s0,.int .u64 s1,.int .u64 s2,.int .u64 s3],.int .i64 0]) (by simp[results,results179,go_sem, *]) rfl ?_;exact⟨_,_,_,_,rfl,hs,HVs.out,HM.out.1⟩
set_option maxHeartbeats 2000000 in
theorem Qm (f c:Int) (V a0 a1 a2 a3:Nat) (hD:∀w,Calls prog 179 #[.int .i64 f,.agg #[.int .u64 1,.int .u64 0,.int .u64 0,.int .u64 0],.agg #[.int .u64 a0,.int .u64 a1,.int .u64 a2,.int .u64 a3]] w (Ss c V w)) (w:World) :
  Calls prog 157 #[.int .i64 f,.agg #[.int .u64 a0,.int .u64 a1,.int .u64 a2,.int .u64 a3]] w (Ss c V w):=by
 have HD:=Lib.hid hD;clear hD
 go_enter func157,ntmps157
 go_wp2_with fail;have HM:=Lib.hid (((Mem.nil w).new (w.heap.size) a0 a1 a2 a3 27 (by simp)).new (w.heap.size+1) 0 0 0 0 27 (by simp));refine eH (fun wx=>Mem w wx [(w.heap.size,a0,a1,a2,a3)]) 7 (by kernel_rfl) ?_;have HM':=Lib.hid (HM.out.drewN 1);clear HM;have HM:=HM';clear HM';have HS:=HM.out.sub (rs':=[(w.heap.size,a0,a1,a2,a3)]) (by simp);refine aK (i:=0) (v:=.int .i64 f) rfl (by kernel_rfl) (by kernel_rfl) (by kernel_rfl) (by kernel_rfl) (fun _ _ _ h=>h) HS (Or.inl ⟨by kernel_rfl,fun wx hx => ?_⟩) ?_
 ·clear HS hx;go_simp
 simp only[Act.put,List.setIfInBounds_toArray,List.set_cons_zero,List.set_cons_succ];refine aK (i:=2) (v:=.agg #[.int .u64 a0,.int .u64 a1,.int .u64 a2,.int .u64 a3]) rfl (by kernel_rfl) (by kernel_rfl) (by kernel_rfl) (by kernel_rfl) (fun _ _ _ h=>h) HS (Or.inl ⟨by kernel_rfl,fun wx hx => ?_⟩) ?_
 ·have kr:=hx.row (b:=w.heap.size) (c0:=a0) (c1:=a1) (c2:=a2) (c3:=a3) (by simp);have x0:=kr.c0; have x1:=kr.c1; have x2:=kr.c2; have x3:=kr.c3;clear kr HS hx;go_simp
 simp only[Act.put,List.setIfInBounds_toArray,List.set_cons_zero,List.set_cons_succ];clear HS;refine aN (i:=1) (by kernel_rfl) rfl (fun K hK => ?_);go_simp;refine (II 1 (by omega) _).mono ?_
 rintro e w1 ⟨rfl,hbl⟩
 have HM':=Lib.hid (HM.out.on hbl);clear HM hbl;have HM:=HM';clear HM';have HS:=HM.out.sub (rs':=[(w.heap.size,a0,a1,a2,a3)]) (by simp);refine hK.out _ _ (Or.inr HS) (fun _ => ?_);clear hK K;clear HS;refine aN (i:=3) (by kernel_rfl) rfl (fun K hK => ?_);go_simp;refine (HD.out _).mono ?_
 rintro e w2 ⟨s0,s1,s2,s3,rfl,hs,hv,hbl⟩
 have HVs:=Lib.hid hv;clear hv;have HM':=Lib.hid (HM.out.on hbl);clear HM hbl;have HM:=HM';clear HM';have HS:=HM.out.sub (rs':=[(w.heap.size,a0,a1,a2,a3)]) (by simp);refine hK.out _ _ (Or.inr HS) (fun _ => ?_);clear hK K;refine aK (i:=4) (v:=.agg #[.int .u64 s0,.int .u64 s1,.int .u64 s2,.int .u64 s3]) rfl (by kernel_rfl) (by kernel_rfl) (by kernel_rfl) (by kernel_rfl) (fun _ _ _ h=>h) HS (Or.inl ⟨by kernel_rfl,fun wx hx => ?_⟩) ?_
 ·clear HS hx;go_simp
 simp only[Act.put,List.setIfInBounds_toArray,List.set_cons_zero,List.set_cons_succ];refine aK (i:=5) (v:=.int .i64 c) rfl (by kernel_rfl) (by kernel_rfl) (by kernel_rfl) (by kernel_rfl) (fun _ _ _ h=>h) HS (Or.inl ⟨by kernel_rfl,fun wx hx => ?_⟩) ?_
 ·clear HS hx;go_simp
 simp only[Act.put,List.setIfInBounds_toArray,List.set_cons_zero,List.set_cons_succ];clear HS;have kr:=HM.out.row (b:=w.heap.size+1) (c0:=0) (c1:=0) (c2:=0) (c3:=0) (by simp);have y0:=kr.c0; have y1:=kr.c1; have y2:=kr.c2; have y3:=kr.c3; have yf:=kr.fr;clear kr;have yl:=HM.out.lt (b:=w.heap.size+1) (c0:=0) (c1:=0) (c2:=0) (c3:=0) (by simp);refine aN (i:=6) (by kernel_rfl) rfl (fun K hK => ?_);go_simp;have HM':=Lib.hid ((HM.out.sub (rs':=[(w.heap.size+1,0,0,0,0),(w.heap.size,a0,a1,a2,a3)]) (by simp)).put s0 s1 s2 s3 (by omega) (by intro r hr; simp at hr; rcases hr with rfl<;>simp<;>omega));clear HM;have HM:=HM';clear HM';have HS:=HM.out.sub (rs':=[(w.heap.size,a0,a1,a2,a3)]) (by simp);refine hK.out _ _ (Or.inr HS) (fun _ => ?_);clear hK K;clear HS;refine aN (i:=7) (by kernel_rfl) rfl (fun K hK => ?_);go_simp;refine hK.out _ _ (Or.inl rfl) (fun _ => ?_);clear hK K;refine dJ (by kernel_rfl) ?_;go_wp2_with fail;refine bodyPost_ret (v:=.tuple #[.agg #[.int .u64 s0,.int .u64 s1,.int .u64 s2,.int .u64 s3],.int .i64 c]) (by simp[results,results157,go_sem, *]) rfl ?_;exact⟨_,_,_,_,rfl,hs,HVs.out,HM.out.1⟩
theorem KIs.set4 {w:World} {b d:Nat} {F:FC} (h:KIs w b F) (hd:d≠b) (d0 d1 d2 d3:Nat):KIs (Go.Proofs.YtjkpglhlmknciaaGreat.set4 w d d0 d1 d2 d3) b F:=(((h.other hd _).other hd _).other hd _).other hd _
theorem Xz {a0 a1 a2 a3 b0 b1 b2 b3:Nat} (h:¬Qz a0 a1 a2 a3 b0 b1 b2 b3=true):Qz a0 a1 a2 a3 b0 b1 b2 b3=false:=by cases q:Qz a0 a1 a2 a3 b0 b1 b2 b3 with|false=>rfl|true=>exact absurd q h
set_option maxHeartbeats 2000000 in
theorem jH (f:Int) (F:FC) (hf:FieldIs f F) (w:World):Calls prog 73 #[.int .i64 f] w fun e w'=>e=.returned (.agg #[.int .u64 F.m0,.int .u64 F.m1,.int .u64 F.m2,.int .u64 F.m3])∧Below w.heap.size w w':=by
 rcases hf with⟨rfl,rfl⟩|⟨rfl,rfl⟩
 ·go_enter func73,ntmps73
  go_wp2_with fail;refine bodyPost_ret (v:=.agg #[.int .u64 FP.m0,.int .u64 FP.m1,.int .u64 FP.m2,.int .u64 FP.m3]) (by simp[results,results73,go_sem,FP]) rfl ?_;refine⟨rfl,?_⟩
  repeat (first|exact Below.refl _ _|refine Below.drew ?_|refine Below.alloc ?_ (by first|(simp; done)|(simp; omega)) _|refine Below.setCell ?_ (by simp) _)
 ·go_enter func73,ntmps73
  go_wp2_with fail;refine bodyPost_ret (v:=.agg #[.int .u64 FR.m0,.int .u64 FR.m1,.int .u64 FR.m2,.int .u64 FR.m3]) (by simp[results,results73,go_sem,FR]) rfl ?_;refine⟨rfl,?_⟩
  repeat (first|exact Below.refl _ _|refine Below.drew ?_|refine Below.alloc ?_ (by first|(simp; done)|(simp; omega)) _|refine Below.setCell ?_ (by simp) _)
end Go.Proofs.YtjkpglhlmknciaaGreat
