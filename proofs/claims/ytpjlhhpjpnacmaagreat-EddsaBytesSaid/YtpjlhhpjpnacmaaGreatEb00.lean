/- Eb00 -/
import Derived.Laws.Externs
import Derived.KernelRfl
import GoSem.Claim
import Derived.Below
import Derived.Deep.MidRow
import Derived.Great.BuildSlice
import Derived.RangeFuncOwn
import Derived.Test.YtpjlhhpjpnacmaaGreatProg
set_option maxRecDepth 100000
set_option linter.unusedVariables false
set_option linter.unusedSimpArgs false
set_option linter.unnecessarySimpa false
namespace Go.Proofs.YtpjlhhpjpnacmaaGreat
open Go.Proofs.Tryz
def aA (a b c d:Nat):Nat:=a+18446744073709551616*(b+18446744073709551616*(c+18446744073709551616*d))
def aZ (a b c d:Nat):Prop:=a<18446744073709551616∧b<18446744073709551616∧c<18446744073709551616∧d<18446744073709551616
theorem cE {a b c d:Nat} (h:aZ a b c d):aA a b c d<115792089237316195423570985008687907853269984665640564039457584007913129639936:=by
 obtain⟨h0,h1,h2,h3⟩:=h; unfold aA; omega
theorem yT {a0 a1 a2 a3 b0 b1 b2 b3:Nat} (ha:aZ a0 a1 a2 a3) (hb:aZ b0 b1 b2 b3) (h:aA a0 a1 a2 a3=aA b0 b1 b2 b3):a0=b0∧a1=b1∧a2=b2∧a3=b3:=by
 obtain⟨p0,p1,p2,p3⟩:=ha; obtain⟨q0,q1,q2,q3⟩:=hb; unfold aA at h; omega
def GQ (x y c:Nat):Nat:=(x+y+c)%18446744073709551616
def GR (x y c:Nat):Nat:=(x+y+c)/18446744073709551616
theorem yQ {x y c:Nat} (hx:x<18446744073709551616) (hy:y<18446744073709551616) (hc:c≤1):GR x y c≤1:=by unfold GR; omega
theorem yP (x y c:Nat):GQ x y c<18446744073709551616:=by unfold GQ; omega
theorem VV (x y c:Nat):GQ x y c+18446744073709551616*GR x y c=x+y+c:=by unfold GQ GR; omega
def CW (x y c:Nat):Nat:=(x+18446744073709551616-y-c)%18446744073709551616
def CX (x y c:Nat):Nat:=if x<y+c then 1 else 0
theorem IC (x y c:Nat):CX x y c≤1:=by unfold CX; split<;>omega
theorem IB (x y c:Nat):CW x y c<18446744073709551616:=by unfold CW; omega
theorem Cv {x y c:Nat} (hx:x<18446744073709551616) (hy:y<18446744073709551616) (hc:c≤1):CW x y c+y+c=x+18446744073709551616*CX x y c:=by
 unfold CW CX; split<;>omega
def SO (x y:Nat):Nat:=x*y/18446744073709551616
def SN (x y:Nat):Nat:=x*y%18446744073709551616
theorem Pw (x y:Nat):SN x y+18446744073709551616*SO x y=x*y:=by unfold SN SO; omega
theorem ZA (x y:Nat):SN x y<18446744073709551616:=by unfold SN; omega
theorem xP {x y p q:Nat} (hx:x≤p) (hy:y≤q):x*y≤p*q:=Nat.mul_le_mul hx hy
theorem ZB {x y:Nat} (hx:x<18446744073709551616) (hy:y<18446744073709551616):SO x y≤18446744073709551614:=by
 have:=xP (show x≤18446744073709551615 by omega) (show y≤18446744073709551615 by omega);unfold SO; omega
structure FC where
 m0:Nat
 m1:Nat
 m2:Nat
 m3:Nat
 inv:Nat
 s0:Nat
 s1:Nat
 s2:Nat
 s3:Nat
 Ri:Nat
def FC.M (F:FC):Nat:=aA F.m0 F.m1 F.m2 F.m3
def FC.R (_:FC):Nat:=115792089237316195423570985008687907853269984665640564039457584007913129639936
structure FC.Ok (F:FC):Prop where
 okm:aZ F.m0 F.m1 F.m2 F.m3
 oks:aZ F.s0 F.s1 F.s2 F.s3
 inv:F.inv<18446744073709551616
 turn:(F.inv*F.m0+1)%18446744073709551616=0
 two:2*F.M<115792089237316195423570985008687907853269984665640564039457584007913129639936
 ri:F.R*F.Ri%F.M=1
 sq:aA F.s0 F.s1 F.s2 F.s3=F.R*F.R%F.M
 gt:2<F.M
 odd:F.M%2=1
def FP:FC:=⟨0x3c208c16d87cfd47,0x97816a916871ca8d,0xb85045b68181585d,0x30644e72e131a029,0x87d20782e4866389,0xf32cfc5b538afa89,0xb5e71911d44501fb,0x47ab1eff0a417ff6,0x06d89f71cab8351f,20988524275117001072002809824448087578619730785600314334253784976379291040311⟩
def FR:FC:=⟨0x43e1f593f0000001,0x2833e84879b97091,0xb85045b68181585d,0x30644e72e131a029,0xc2e1f593efffffff,0x1bb8e645ae216da7,0x53fe3ab1e35c59e3,0x8c49833d53bb8085,0x0216d0b17f4e44a5,9915499612839321149637521777990102151350674507940716049588462388200839649614⟩
theorem Xq:FP.M=21888242871839275222246405745257275088696311157297823662689037894645226208583:=by kernel_rfl
theorem Lw:FR.M=21888242871839275222246405745257275088548364400416034343698204186575808495617:=by kernel_rfl
theorem Tv:FP.Ok:=⟨by unfold aZ; decide,by unfold aZ; decide,by decide,by kernel_rfl,by decide,by kernel_rfl,by kernel_rfl,by decide,by kernel_rfl⟩
theorem Ew:FR.Ok:=⟨by unfold aZ; decide,by unfold aZ; decide,by decide,by kernel_rfl,by decide,by kernel_rfl,by kernel_rfl,by decide,by kernel_rfl⟩
theorem zN {t0 t1 t2 t3 x y0 y1 y2 y3 m0 m1 m2 m3 o0 l0 cl c0 o1 l1 c1 n0 o2 l2 c2 n1 o3 l3 c3 n2:Nat}
  (e0:l0+18446744073709551616*o0=x*y0+t0) (f0:0+18446744073709551616*c0=cl*m0+l0)
  (e1:l1+18446744073709551616*o1=x*y1+t1+o0) (f1:n0+18446744073709551616*c1=cl*m1+l1+c0)
  (e2:l2+18446744073709551616*o2=x*y2+t2+o1) (f2:n1+18446744073709551616*c2=cl*m2+l2+c1)
  (e3:l3+18446744073709551616*o3=x*y3+t3+o2) (f3:n2+18446744073709551616*c3=cl*m3+l3+c2) :
  18446744073709551616*aA n0 n1 n2 (o3+c3)=aA t0 t1 t2 t3+x*aA y0 y1 y2 y3+cl*aA m0 m1 m2 m3:=by
 unfold aA;have ex:x*(y0+18446744073709551616*(y1+18446744073709551616*(y2+18446744073709551616*y3)))=x*y0+18446744073709551616*(x*y1+18446744073709551616*(x*y2+18446744073709551616*(x*y3))):=by
  simp only[Nat.mul_add,Nat.mul_left_comm x 18446744073709551616]
 have ec:cl*(m0+18446744073709551616*(m1+18446744073709551616*(m2+18446744073709551616*m3)))=cl*m0+18446744073709551616*(cl*m1+18446744073709551616*(cl*m2+18446744073709551616*(cl*m3))):=by
  simp only[Nat.mul_add,Nat.mul_left_comm cl 18446744073709551616]
 rw[ex,ec];generalize x*y0=p0 at *;generalize x*y1=p1 at *;generalize x*y2=p2 at *;generalize x*y3=p3 at *;generalize cl*m0=q0 at *;generalize cl*m1=q1 at *;generalize cl*m2=q2 at *;generalize cl*m3=q3 at *;omega
theorem GF {l inv m:Nat} (h:(inv*m+1)%18446744073709551616=0):(l*inv%18446744073709551616*m+l)%18446744073709551616=0:=by
 have e:l*inv*m+l=l*(inv*m+1):=by rw[Nat.mul_add,Nat.mul_one,Nat.mul_assoc]
 rw[Nat.add_mod,Nat.mul_mod,Nat.mod_mod,←Nat.mul_mod,←Nat.add_mod,e,Nat.mul_mod,h,Nat.mul_zero,Nat.zero_mod]
theorem zM {N T x Y cl M:Nat} (e:18446744073709551616*N=T+x*Y+cl*M) (ht:T<2*M) (hx:x<18446744073709551616) (hy:Y<M) (hc:cl<18446744073709551616):N<2*M:=by
 have h1:=xP (show x≤18446744073709551615 by omega) (show Y≤M by omega);have h2:=Nat.mul_le_mul_right M (show cl≤18446744073709551615 by omega);generalize x*Y=p at *;generalize cl*M=q at *;omega
theorem PF {n0 n1 n2 s B:Nat} (h:aA n0 n1 n2 s<115792089237316195423570985008687907853269984665640564039457584007913129639936):s<18446744073709551616:=by
 unfold aA at h; omega
def GV (M:Nat) (X:Nat→Nat) (Y k T:Nat):Prop:=T<2*M∧∃q,T*18446744073709551616^k=(X 0*(if 0<k then 1 else 0)+18446744073709551616*(X 1*(if 1<k then 1 else 0)+18446744073709551616*(X 2*(if 2<k then 1 else 0)+18446744073709551616*(X 3*(if 3<k then 1 else 0)))))*Y+q*M
theorem NA {M Y:Nat} (X:Nat→Nat) (hM:0<M):GV M X Y 0 0:=⟨by omega,0,by simp⟩
theorem NB {M Y T N cl:Nat} {X:Nat→Nat} {k:Nat} (hk:k<4) (g:GV M X Y k T) (hx:X k<18446744073709551616) (hy:Y<M) (hc:cl<18446744073709551616) (e:18446744073709551616*N=T+X k*Y+cl*M):GV M X Y (k+1) N:=by
 obtain⟨ht,q,h⟩:=g;refine⟨zM e ht hx hy hc,q+cl*18446744073709551616^k,?_⟩;have e':N*18446744073709551616^(k+1)=T*18446744073709551616^k+X k*Y*18446744073709551616^k+cl*M*18446744073709551616^k:=by
  rw[Nat.pow_succ',←Nat.mul_assoc,Nat.mul_comm N,e,Nat.add_mul,Nat.add_mul]
 rw[e',h];have:k=0∨k=1∨k=2∨k=3:=by omega
 have hxa:∀b:Nat,X k*Y*b=b*(X k*Y):=fun b=>Nat.mul_comm _ _
 have hca:∀b:Nat,cl*M*b=b*(cl*M):=fun b=>Nat.mul_comm _ _
 have hqa:∀b:Nat,(q+cl*b)*M=q*M+b*(cl*M):=fun b=>by rw[Nat.add_mul,Nat.mul_right_comm,Nat.mul_comm (cl*M)]
 rw[hxa,hca,hqa]
 rcases this with rfl|rfl|rfl|rfl<;>simp[Nat.add_mul,Nat.mul_assoc]<;>omega
theorem TH {F:FC} (hF:F.Ok) {Y T x0 x1 x2 x3:Nat} {X:Nat→Nat} (h0:X 0=x0) (h1:X 1=x1) (h2:X 2=x2) (h3:X 3=x3) (g:GV F.M X Y 4 T):T<2*F.M∧T%F.M=aA x0 x1 x2 x3*Y*F.Ri%F.M:=by
 obtain⟨ht,q,h⟩:=g;refine⟨ht,?_⟩;simp only[h0,h1,h2,h3,show (0:Nat)<4 by omega,show (1:Nat)<4 by omega,show (2:Nat)<4 by omega,show (3:Nat)<4 by omega,if_true,Nat.mul_one]at h;have hr:=hF.ri;have hR:F.R=18446744073709551616^4:=by simp[FC.R]
 have e:T*(F.R*F.Ri)=aA x0 x1 x2 x3*Y*F.Ri+F.M*(q*F.Ri):=by
  rw[←Nat.mul_assoc,hR,h,Nat.add_mul,show q*F.M*F.Ri=F.M*(q*F.Ri) by rw[Nat.mul_comm q,Nat.mul_assoc]];rfl
 have e2:T*(F.R*F.Ri)%F.M=T%F.M:=by rw[Nat.mul_mod,hr,Nat.mul_one,Nat.mod_mod]
 rw[←e2,e,Nat.add_mul_mod_self_left]
theorem SA {t M:Nat} (h:t<2*M):t%M=if t<M then t else t-M:=by
 split
 ·exact Nat.mod_eq_of_lt ‹_›
 ·rw[Nat.mod_eq_sub_mod (by omega),Nat.mod_eq_of_lt (by omega)]
def fw (x i:Nat):Nat:=x/18446744073709551616^i%18446744073709551616
theorem cP (x:Nat):aZ (fw x 0) (fw x 1) (fw x 2) (fw x 3):=⟨Nat.mod_lt _ (by omega),Nat.mod_lt _ (by omega),Nat.mod_lt _ (by omega),Nat.mod_lt _ (by omega)⟩
theorem gY {x:Nat} (h:x<115792089237316195423570985008687907853269984665640564039457584007913129639936):aA (fw x 0) (fw x 1) (fw x 2) (fw x 3)=x:=by
 unfold fw aA;have e1:(18446744073709551616:Nat)^1=18446744073709551616:=by simp
 have e2:(18446744073709551616:Nat)^2=18446744073709551616*18446744073709551616:=by simp
 have e3:(18446744073709551616:Nat)^3=18446744073709551616*18446744073709551616*18446744073709551616:=by simp
 rw[Nat.pow_zero,Nat.div_one,e1,e2,e3,←Nat.div_div_eq_div_mul,←Nat.div_div_eq_div_mul,←Nat.div_div_eq_div_mul];omega
theorem fN {s0 s1 s2 s3 x:Nat} (hs:aZ s0 s1 s2 s3) (hx:x<115792089237316195423570985008687907853269984665640564039457584007913129639936) (h:aA s0 s1 s2 s3=x):s0=fw x 0∧s1=fw x 1∧s2=fw x 2∧s3=fw x 3 :=
 yT hs (cP x) (h.trans (gY hx).symm)
theorem Qq {x:Nat} (h:x<FP.M):x<115792089237316195423570985008687907853269984665640564039457584007913129639936:=Nat.lt_trans h (by decide)
theorem cN:0<FP.M:=by decide
end Go.Proofs.YtpjlhhpjpnacmaaGreat
namespace Go.Proofs.YtpjlhhpjpnacmaaGreat.Ex
open Go.Proofs.Tryz
open Go.RowKit
abbrev Fq:=Fin FP.M
inductive At|f (x:Fq)|q (x:Nat)|c (v:Value)
def w4 (x:Nat):List Value:=[.int .u64 (fw x 0:Nat),.int .u64 (fw x 1:Nat),.int .u64 (fw x 2:Nat),.int .u64 (fw x 3:Nat)]
def At.cells:At→List Value
 | .f x=>w4 x.1
 | .q x=>w4 x
 | .c v=>[v]
def At.sz:At→Nat
 | .f _=>4
 | .q _=>4
 | .c _=>1
theorem At.len (a:At):a.cells.length=a.sz:=by cases a<;>rfl
def aB:List At→List Value
 | []=>[]
 | a::r=>a.cells++aB r
def eS:List At→Nat
 | []=>0
 | a::r=>a.sz+eS r
theorem aJ:∀l:List At,(aB l).length=eS l
 | []=>rfl
 | a::r=>by simp[aB,eS,At.len,aJ r]
def cellAt:List At→Nat→Option Value
 | [],_=>none
 | a::r,o=>bif Nat.blt o a.sz then a.cells[o]? else cellAt r (o-a.sz)
theorem gR:∀{l:List At} {o:Nat} {v:Value},cellAt l o=some v→(aB l)[o]?=some v
 | [],o,v,h=>by cases h
 | a::r,o,v,h=>by
  unfold cellAt at h;show (a.cells++aB r)[o]?=_;cases hb:Nat.blt o a.sz<;>rw[hb]at h
  ·have hle:a.sz≤o:=by
    rcases Nat.lt_or_ge o a.sz with q|q
    ·have:Nat.blt o a.sz=true:=by simpa using q
     rw[hb]at this; cases this
    ·exact q
   rw[List.getElem?_append_right (by rw[At.len]; exact hle),At.len];exact gR h
  ·have hlt:o<a.sz:=by simpa using hb
   rw[List.getElem?_append_left (by rw[At.len]; exact hlt)];exact h
theorem aL:∀l m:List At,aB (l++m)=aB l++aB m
 | [],m=>rfl
 | a::r,m=>by simp[aB,aL r m]
theorem nR (l m:List At):eS (l++m)=eS l+eS m:=by rw[←aJ,aL,List.length_append,aJ,aJ]
def tk:List At→Nat→Option (List At)
 | [],n=>bif Nat.beq n 0 then some []else none
 | a::r,n=>bif Nat.beq n 0 then some []else bif Nat.ble a.sz n then (tk r (n-a.sz)).map (a :: ·)else none
def dp:List At→Nat→Option (List At)
 | [],n=>bif Nat.beq n 0 then some []else none
 | a::r,n=>bif Nat.beq n 0 then some (a::r)else bif Nat.ble a.sz n then dp r (n-a.sz)else none
theorem oF:∀(l:List At) (n:Nat) (t:List At),tk l n=some t→∃r,l=t++r∧eS t=n
 | [],n,t,h=>by
  unfold tk at h;cases hn:Nat.beq n 0<;>rw[hn]at h
  ·cases h
  ·cases h; exact⟨[],rfl,(Nat.eq_of_beq_eq_true hn).symm⟩
 | a::r,n,t,h=>by
  unfold tk at h;cases hn:Nat.beq n 0<;>rw[hn]at h
  ·cases hs:Nat.ble a.sz n<;>rw[hs]at h
   ·cases h
   ·cases hr:tk r (n-a.sz)with
    | none=>rw[hr]at h; cases h
    | some t' =>
     rw[hr]at h; cases h;obtain⟨r',e,s⟩:=oF r _ _ hr;refine⟨r',by rw[e]; rfl,?_⟩;have:=Nat.le_of_ble_eq_true hs;show a.sz+eS t'=n;omega
  ·cases h; exact⟨a::r,rfl,(Nat.eq_of_beq_eq_true hn).symm⟩
theorem pI:∀(l:List At) (n:Nat) (r:List At),dp l n=some r→∃t,l=t++r∧eS t=n
 | [],n,r,h=>by
  unfold dp at h;cases hn:Nat.beq n 0<;>rw[hn]at h
  ·cases h
  ·cases h; exact⟨[],rfl,(Nat.eq_of_beq_eq_true hn).symm⟩
 | a::l,n,r,h=>by
  unfold dp at h;cases hn:Nat.beq n 0<;>rw[hn]at h
  ·cases hs:Nat.ble a.sz n<;>rw[hs]at h
   ·cases h
   ·obtain⟨t,e,s⟩:=pI l _ _ h;refine⟨a::t,by rw[e]; rfl,?_⟩;have:=Nat.le_of_ble_eq_true hs;show a.sz+eS t=n;omega
  ·cases h; exact⟨[],rfl,(Nat.eq_of_beq_eq_true hn).symm⟩
def CM (l:List At) (o n:Nat):Option (List At):=match dp l o with|some r=>tk r n|none=>none
theorem jI {l:List At} {o n:Nat} {t:List At} (h:CM l o n=some t):∃p s,l=p++(t++s)∧eS p=o∧eS t=n:=by
 unfold CM at h;cases hd:dp l o with
 | none=>rw[hd]at h; cases h
 | some r =>
  rw[hd]at h;obtain⟨p,e,hp⟩:=pI _ _ _ hd;obtain⟨s,e2,ht⟩:=oF _ _ _ h;exact⟨p,s,by rw[e,e2],hp,ht⟩
def put (l:List At) (o:Nat) (v:List At):Option (List At) :=
 match tk l o,dp l o with
 | some a,some b=>match dp b (eS v)with|some s=>some (a++(v++s))|none=>none
 | _,_=>none
theorem tS:∀{a b:List At} {r s:List At},a++r=b++s→eS a=eS b→aB a=aB b∧aB r=aB s:=by
 intro a b r s h hs;have:=congrArg aB h;rw[aL,aL]at this;exact List.append_inj this (by rw[aJ,aJ,hs])
theorem sU {l:List At} {o:Nat} {v l':List At} (h:put l o v=some l'):∃a m s,l=a++(m++s)∧aB l'=aB a++(aB v++aB s)∧eS a=o∧eS m=eS v:=by
 unfold put at h;cases ht:tk l o with
 | none=>rw[ht]at h; cases h
 | some a =>
  cases hd:dp l o with
  | none=>rw[ht,hd]at h; cases h
  | some b =>
   rw[ht,hd]at h;simp only at h;cases hb:dp b (eS v)with
   | none=>rw[hb]at h; cases h
   | some s =>
    rw[hb]at h; cases h;obtain⟨r,e,s1⟩:=oF _ _ _ ht;obtain⟨p,e2,s2⟩:=pI _ _ _ hd;obtain⟨m,e3,s3⟩:=pI _ _ _ hb;obtain⟨h1,h2⟩:=tS (e.symm.trans e2) (s1.trans s2.symm);refine⟨p,m,s,by rw[e2,e3],?_,s2,s3⟩;rw[aL,aL,h1]
def tM:Value→Bool
 | .bool _=>true
 | .int _ _=>true
 | .func _ _ _=>true
 | .complex _ _ _=>true
 | .float _ _=>true
 | .slice _ _ _=>true
 | .pointer _=>true
 | _=>false
def nz:List Value→List At
 | .int .u64 (.ofNat 0) :: .int .u64 (.ofNat 0) :: .int .u64 (.ofNat 0) :: .int .u64 (.ofNat 0)::r=>.f ⟨0,cN⟩::nz r
 | v::r=>.c v::nz r
 | []=>[]
theorem IZ (l:List Value):aB (nz l)=l:=by
 fun_induction nz l with
 | case1 r ih=>show w4 0++aB (nz r)=_; rw[ih]; rfl
 | case2 v r h ih=>show [v]++aB (nz r)=_; rw[ih]; rfl
 | case3=>rfl
def nq:List At→List At
 | .c (.int .u64 (.ofNat a)) :: .c (.int .u64 (.ofNat b)) :: .c (.int .u64 (.ofNat c)) :: .c (.int .u64 (.ofNat d))::r =>
  bif Nat.blt a 18446744073709551616&&(Nat.blt b 18446744073709551616&&(Nat.blt c 18446744073709551616&&Nat.blt d 18446744073709551616))then (if h:aA a b c d<FP.M then .f ⟨aA a b c d,h⟩else .q (aA a b c d))::nq r
  else .c (.int .u64 (.ofNat a)) :: .c (.int .u64 (.ofNat b)) :: .c (.int .u64 (.ofNat c)) :: .c (.int .u64 (.ofNat d))::nq r
 | v::r=>v::nq r
 | []=>[]
theorem YZ (l:List At):aB (nq l)=aB l:=by
 fun_induction nq l with
 | case1 a b c d r hb ih =>
  simp only[Bool.and_eq_true,Nat.blt_eq]at hb;have h4:aZ a b c d:=⟨hb.1,hb.2.1,hb.2.2.1,hb.2.2.2⟩;have hv:aA a b c d<115792089237316195423570985008687907853269984665640564039457584007913129639936:=by
   unfold aA; obtain⟨h1,h2,h3,h5⟩:=hb; omega
  obtain⟨e0,e1,e2,e3⟩:=fN h4 hv rfl;have hc:(if h:aA a b c d<FP.M then At.f ⟨aA a b c d,h⟩else At.q (aA a b c d)).cells=w4 (aA a b c d):=by split<;>rfl
  show (if h:aA a b c d<FP.M then At.f ⟨aA a b c d,h⟩else At.q (aA a b c d)).cells++aB (nq r)=_;rw[hc,ih];unfold w4;rw[←e0,←e1,←e2,←e3];rfl
 | case2 a b c d r hb ih=>simp only[aB,ih]
 | case3 v r h ih=>show v.cells++aB (nq r)=_; rw[ih]; rfl
 | case4=>rfl
inductive TV|im (v:Value)|fl (l:List At)
def TV.den:TV→Value
 | .im v=>v
 | .fl l=>.agg (aB l).toArray
abbrev Bk:=Nat×Nat×Nat
inductive AV|im (v:Value)|fl (l:List At)|pt (k o:Nat)|sl (k o n m:Nat)|tu (l:List TV)|ic (t:Nat) (l:List At)|tf (k n m:Nat) (post:List TV)|so (k n:Nat)|tg (k n:Nat) (ante post:List TV)
def TV.av:TV→AV
 | .im v=>.im v
 | .fl l=>.fl l
def AV.den (β:Nat→Bk):AV→Value
 | .im v=>v
 | .fl l=>.agg (aB l).toArray
 | .pt k o=>.pointer (some ⟨(β k).1,(β k).2.1+o,none⟩)
 | .sl k o n m=>.slice (some ⟨(β k).1,(β k).2.1+o,none⟩) n m
 | .tu l=>.tuple (l.map TV.den).toArray
 | .ic t l=>.iface t (.agg (aB l).toArray)
 | .tf k n m post=>.tuple (.slice (some ⟨(β k).1,(β k).2.1,none⟩) n m::post.map TV.den).toArray
 | .so k n=>.slice (some ⟨(β k).1,(β k).2.1,none⟩) n (β k).2.2
 | .tg k n ante post=>.tuple (ante.map TV.den ++ .slice (some ⟨(β k).1,(β k).2.1,none⟩) n (β k).2.2::post.map TV.den).toArray
theorem TV.av_den (β:Nat→Bk) (t:TV):t.av.den β=t.den:=by cases t<;>rfl
def AV.key:AV→Option Nat
 | .pt k _=>some k
 | .sl k _ _ _=>some k
 | .tf k _ _ _=>some k
 | .so k _=>some k
 | .tg k _ _ _=>some k
 | _=>none
theorem AV.den_eq {β β':Nat→Bk} (v:AV) (h:∀k,v.key=some k→β' k=β k):v.den β'=v.den β:=by
 cases v with
 | pt k o=>simp[AV.den,h k rfl]
 | sl k o n m=>simp[AV.den,h k rfl]
 | tf k n m post=>simp[AV.den,h k rfl]
 | so k n=>simp[AV.den,h k rfl]
 | tg k n ante post=>simp[AV.den,h k rfl]
 | _=>rfl
def AppAt (w:World) (b e sz n cap:Nat):Prop:=∃cur,w.heap[b]?=some (.cells cur e (0,0))∧n≤cap∧cap≤maxLen∧cur.size=cap*sz
inductive Fact|slot (s:Nat) (v:AV)|row (k:Nat) (own:Bool) (l:List At)|at (k b:Nat)|app (k e sz n:Nat)
def Fact.ok (base:Nat) (β:Nat→Bk) (a:Act) (w:World):Fact→Prop
 | .slot s v=>a.tmps[s]?=some (v.den β)
 | .row k own l=>(β k).1<w.heap.size∧w.rangeAt (β k).1 (β k).2.1 (aB l)∧(own=true→base≤(β k).1∧(β k).2.1=0∧∀j,w.frozen? ⟨(β k).1,j,none⟩=false)∧(own=false→True)
 | .at k b=>(β k).1=b∧(β k).2.1=0
 | .app k e sz n=>AppAt w (β k).1 e sz n (β k).2.2
def oW:List Fact→Nat→Option AV
 | [],_=>none
 | .slot t v::r,s=>bif Nat.beq t s then some v else oW r s
 | .row _ _ _::r,s=>oW r s
 | .at _ _::r,s=>oW r s
 | .app _ _ _ _::r,s=>oW r s
theorem eH:∀{M:List Fact} {s:Nat} {v:AV},oW M s=some v→Fact.slot s v∈M
 | .slot t u::r,s,v,h=>by
  unfold oW at h;cases hb:Nat.beq t s<;>rw[hb]at h
  ·exact List.mem_cons_of_mem _ (eH h)
  ·cases h; cases Nat.eq_of_beq_eq_true hb; exact List.mem_cons_self
 | .row _ _ _::r,s,v,h=>List.mem_cons_of_mem _ (eH (M:=r) h)
 | .at _ _::r,s,v,h=>List.mem_cons_of_mem _ (eH (M:=r) h)
 | .app _ _ _ _::r,s,v,h=>List.mem_cons_of_mem _ (eH (M:=r) h)
def dI:List Fact→Nat→Option (Bool×List At)
 | [],_=>none
 | .row t o l::r,s=>bif Nat.beq t s then some (o,l)else dI r s
 | .slot _ _::r,s=>dI r s
 | .at _ _::r,s=>dI r s
 | .app _ _ _ _::r,s=>dI r s
theorem aX:∀{M:List Fact} {s:Nat} {o:Bool} {l:List At},dI M s=some (o,l)→Fact.row s o l∈M
 | .row t u m::r,s,o,l,h=>by
  unfold dI at h;cases hb:Nat.beq t s<;>rw[hb]at h
  ·exact List.mem_cons_of_mem _ (aX h)
  ·cases h; cases Nat.eq_of_beq_eq_true hb; exact List.mem_cons_self
 | .slot _ _::r,s,o,l,h=>List.mem_cons_of_mem _ (aX (M:=r) h)
 | .at _ _::r,s,o,l,h=>List.mem_cons_of_mem _ (aX (M:=r) h)
 | .app _ _ _ _::r,s,o,l,h=>List.mem_cons_of_mem _ (aX (M:=r) h)
def uC:List Fact→Nat→Option Nat
 | [],_=>none
 | .at t b::r,s=>bif Nat.beq t s then some b else uC r s
 | .slot _ _::r,s=>uC r s
 | .row _ _ _::r,s=>uC r s
 | .app _ _ _ _::r,s=>uC r s
theorem fS:∀{M:List Fact} {s b:Nat},uC M s=some b→Fact.at s b∈M
 | .at t c::r,s,b,h=>by
  unfold uC at h;cases hb:Nat.beq t s<;>rw[hb]at h
  ·exact List.mem_cons_of_mem _ (fS h)
  ·cases h; cases Nat.eq_of_beq_eq_true hb; exact List.mem_cons_self
 | .slot _ _::r,s,b,h=>List.mem_cons_of_mem _ (fS (M:=r) h)
 | .row _ _ _::r,s,b,h=>List.mem_cons_of_mem _ (fS (M:=r) h)
 | .app _ _ _ _::r,s,b,h=>List.mem_cons_of_mem _ (fS (M:=r) h)
def nC:List Fact→Nat→Option (Nat×Nat×Nat)
 | [],_=>none
 | .app t e sz n::r,s=>bif Nat.beq t s then some (e,sz,n)else nC r s
 | .slot _ _::r,s=>nC r s
 | .row _ _ _::r,s=>nC r s
 | .at _ _::r,s=>nC r s
theorem fW:∀{M:List Fact} {s e sz n:Nat},nC M s=some (e,sz,n)→Fact.app s e sz n∈M
 | .app t e' sz' n'::r,s,e,sz,n,h=>by
  unfold nC at h;cases hb:Nat.beq t s<;>rw[hb]at h
  ·exact List.mem_cons_of_mem _ (fW h)
  ·cases h; cases Nat.eq_of_beq_eq_true hb; exact List.mem_cons_self
 | .slot _ _::r,s,e,sz,n,h=>List.mem_cons_of_mem _ (fW (M:=r) h)
 | .row _ _ _::r,s,e,sz,n,h=>List.mem_cons_of_mem _ (fW (M:=r) h)
 | .at _ _::r,s,e,sz,n,h=>List.mem_cons_of_mem _ (fW (M:=r) h)
def ev (M:List Fact):Operand→Option AV
 | .tmp s=>oW M s
 | .const v=>some (.im v)
 | .func f=>some (.im (.func (.func f) #[] #[]))
 | .global _=>none
theorem aH {M:List Fact} {base:Nat} {β:Nat→Bk} {a:Act} {w:World} (hM:∀φ∈M,φ.ok base β a w) {x:Operand} {v:AV} (h:ev M x=some v):a.eval x=v.den β:=by
 cases x with
 | tmp s =>
  have:=hM _ (eH h);simp only[Fact.ok]at this;simp[Act.eval,this]
 | const u=>cases h; rfl
 | func f=>cases h; rfl
 | global g=>cases h
def Ke (M:List Fact):List Operand→Option (List AV)
 | []=>some []
 | x::r=>match ev M x,Ke M r with|some v,some l=>some (v::l)|_,_=>none
theorem pF {M:List Fact} {base:Nat} {β:Nat→Bk} {a:Act} {w:World} (hM:∀φ∈M,φ.ok base β a w):∀{xs:List Operand} {l:List AV},Ke M xs=some l→xs.map a.eval=l.map (AV.den β)
 | [],l,h=>by cases h; rfl
 | x::r,l,h=>by
  unfold Ke at h;cases hx:ev M x with
  | none=>rw[hx]at h; cases h
  | some v =>
   cases hr:Ke M r with
   | none=>rw[hx,hr]at h; cases h
   | some l'=>rw[hx,hr]at h; cases h; simp[aH hM hx,pF hM hr]
def AK:AV→Option (List At)
 | .fl l=>some l
 | .im v=>bif tM v then some [.c v]else none
 | _=>none
theorem nL {v:AV} {p:List At} (h:AK v=some p) (β:Nat→Bk):(v.den β).cells=(aB p).toArray:=by
 cases v with
 | fl l=>cases h; rfl
 | im u =>
  have h':(bif tM u then some [At.c u]else none)=some p:=h;cases hu:tM u<;>rw[hu]at h'
  ·cases h'
  ·cases h';cases u<;>first|rfl|cases hu
 | _=>cases h
def nK (M:List Fact):List (Nat×Operand)→Option (List (Nat×List At))
 | []=>some []
 | (i,x)::r=>match ev M x with
  | some v=>match AK v,nK M r with|some p,some l=>some ((i,p)::l)|_,_=>none
  | none=>none
def vW (place:Nat→Option (Nat×Nat)):List At→List (Nat×List At)→Option (List At)
 | l,[]=>some l
 | l,(i,p)::r=>match place i with
  | none=>none
  | some (off,sz)=>bif Nat.beq (eS p) sz then (match put l off p with|some l'=>vW place l' r|none=>none)else none
theorem BI:∀(p B A C:List Value) (k off:Nat),A.length=off+k→B.length=p.length →
  (p.zipIdx k).foldl (fun cs (x:Value×Nat)=>cs.setIfInBounds (off+x.2) x.1) (A++(B++C)).toArray=(A++(p++C)).toArray
 | [],B,A,C,k,off,hA,hB=>by
  have:B=[]:=List.length_eq_zero_iff.1 (by simpa using hB);subst this; rfl
 | v::p,B,A,C,k,off,hA,hB=>by
  cases B with
  | nil=>cases hB
  | cons b B =>
   have e:(A++(b::B++C)).toArray.setIfInBounds (off+k) v=((A++[v])++(B++C)).toArray:=by
    rw[List.setIfInBounds_toArray,←hA];simp
   simp only[List.zipIdx_cons,List.foldl_cons,e];rw[BI p B (A++[v]) C (k+1) off (by simp[hA]; omega) (by simpa using hB)];simp
theorem kG {M:List Fact} {base:Nat} {β:Nat→Bk} {a:Act} {w:World} (hM:∀φ∈M,φ.ok base β a w) (place:Nat→Option (Nat×Nat)) :
  ∀(xs:List (Nat×Operand)) (ps:List (Nat×List At)) (l l':List At),nK M xs=some ps→vW place l ps=some l' →
   Instr.fill place (aB l).toArray (xs.map fun (i,x)=>(i,a.eval x))=some (aB l').toArray
 | [],ps,l,l',h,h2=>by cases h; cases h2; rfl
 | (i,x)::r,ps,l,l',h,h2=>by
  unfold nK at h;cases hx:ev M x with
  | none=>rw[hx]at h; cases h
  | some v =>
   rw[hx]at h;simp only at h;cases hp:AK v with
   | none=>rw[hp]at h; cases h
   | some p =>
    cases hr:nK M r with
    | none=>rw[hp,hr]at h; cases h
    | some ps' =>
     rw[hp,hr]at h; cases h;unfold vW at h2;simp only[List.map_cons,Instr.fill];cases hpl:place i with
     | none=>rw[hpl]at h2; cases h2
     | some os =>
      obtain⟨off,sz⟩:=os;rw[hpl]at h2;simp only at h2;cases hb:Nat.beq (eS p) sz<;>rw[hb]at h2
      ·cases h2
      ·have hsz:=Nat.eq_of_beq_eq_true hb;simp only[cond_true]at h2;cases hq:put l off p with
       | none=>rw[hq]at h2; cases h2
       | some l1 =>
        rw[hq]at h2;obtain⟨A,m,s,e,f,ha,hm⟩:=sU hq;have hc:=nL hp β;rw[aH hM hx];have hsize:(AV.den β v).cells.size=sz:=by rw[hc]; simp[aJ,hsz]
        have hle:¬(off+(AV.den β v).cells.size>(aB l).toArray.size):=by
         rw[hsize,e];simp[aL,aJ];omega
        have hset:(AV.den β v).cells.zipIdx.foldl (fun cs (c,j)=>cs.setIfInBounds (off+j) c) (aB l).toArray=(aB l1).toArray:=by
         rw[hc,f,e,aL,aL];have:=BI (aB p) (aB m) (aB A) (aB s) 0 off (by rw[aJ,ha]; rfl) (by rw[aJ,aJ,hm]);simpa using this
        simp only[hset];rw[if_neg (by simp[hsize]; simpa[hsize]using hle)];exact kG hM place r ps' l1 l' hr h2
inductive CA|v (x:TV)|s (l:List At) (n m:Nat)|so (l:List At) (n:Nat)|p (l:List At) (o:Nat)
inductive RV|one (t:TV)|many (l:List TV)
def RV.av:RV→AV
 | .one t=>t.av
 | .many l=>.tu l
def RV.den:RV→Value
 | .one t=>t.den
 | .many l=>.tuple (l.map TV.den).toArray
theorem RV.av_den (β:Nat→Bk) (r:RV):r.av.den β=r.den:=by cases r with|one t=>exact TV.av_den β t|many l=>rfl
def CA.ok (w:World):CA→Value→Prop
 | .v x,u=>u=x.den
 | .s l n m,u=>∃b o,u=.slice (some ⟨b,o,none⟩) n m∧b<w.heap.size∧w.rangeAt b o (aB l)
 | .so l n,u=>∃b o m,u=.slice (some ⟨b,o,none⟩) n m∧b<w.heap.size∧w.rangeAt b o (aB l)
 | .p l o,u=>∃b,u=.pointer (some ⟨b,o,none⟩)∧b<w.heap.size∧w.rangeAt b 0 (aB l)
def cH (w:World):List CA→List Value→Prop
 | [],[]=>True
 | c::cs,v::vs=>c.ok w v∧cH w cs vs
 | _,_=>False
abbrev Tab:=Nat→List CA→Option (List Prop×RV)
def aS:List Prop→Prop
 | []=>True
 | p::r=>p∧aS r
theorem dK:∀{l m:List Prop},aS (l++m)↔aS l∧aS m
 | [],m=>by simp[aS]
 | p::r,m=>by simp[aS,dK (l:=r),and_assoc]
def TabOk (P:Program) (T:Tab):Prop:=∀f cs pre r,T f cs=some (pre,r)→aS pre →
 (∀args w,(callFunc f args).run P w=.ok (.enter f args) w)∧∀(args:List Value) (w:World),cH w cs args→Calls P f args.toArray w (fun e w'=>e=.returned r.den∧Below w.heap.size w w')
def Zt:At→Bool
 | .c _=>false
 | _=>true
structure FR where
 l:List At
 n:Nat
 m:Nat
 post:List TV
def FR.val (r:FR) (b:Nat):Value:=bif r.post.isEmpty then .slice (some ⟨b,0,none⟩) r.n r.m else .tuple (.slice (some ⟨b,0,none⟩) r.n r.m::r.post.map TV.den).toArray
def FR.ok (r:FR) (w:World) (e:Ending) (w':World):Prop:=∃b,e=.returned (r.val b)∧Below w.heap.size w w'∧w.heap.size≤b∧b<w'.heap.size∧w'.rangeAt b 0 (aB r.l)∧∀j,w'.frozen? ⟨b,j,none⟩=false
structure FS where
 l:List At
 n:Nat
 e:Nat
 sz:Nat
 ap:Bool
 ante:List TV
 post:List TV
def FS.lone (r:FS):Bool:=r.ante.isEmpty&&r.post.isEmpty
def FS.val (r:FS) (b cap:Nat):Value:=bif r.lone then .slice (some ⟨b,0,none⟩) r.n cap else .tuple (r.ante.map TV.den ++ .slice (some ⟨b,0,none⟩) r.n cap::r.post.map TV.den).toArray
def FS.ok (r:FS) (w:World) (e:Ending) (w':World):Prop:=∃b cap,e=.returned (r.val b cap)∧Below w.heap.size w w'∧w.heap.size≤b∧b<w'.heap.size∧w'.rangeAt b 0 (aB r.l)∧(∀j,w'.frozen? ⟨b,j,none⟩=false)∧(r.ap=true→AppAt w' b r.e r.sz r.n cap)
def Shape (w w':World):Prop:=(∀(b:Nat) (cur:Array Value) (e:Nat),w.heap[b]?=some (Obj.cells cur e (0,0))→∃cur':Array Value,w'.heap[b]?=some (Obj.cells cur' e (0,0))∧cur'.size=cur.size)∧KeepsOthers w w'
structure WrAt (w w':World) (b:Nat) (l:List At):Prop where
 os:w'.os=w.os
 tape:w'.tape=w.tape
 output:w'.output=w.output
 size:w.heap.size≤w'.heap.size
 block:∀k,k<w.heap.size→k≠b→w'.heap[k]?=w.heap[k]?
 shape:Shape w w'
 frozen:∀j,w'.frozen? ⟨b,j,none⟩=w.frozen? ⟨b,j,none⟩
structure WrC (w w':World) (b:Nat):Prop where
 below:Below b w w'
 mem:∀p:Addr,p.block<w.heap.size→p.block≠b→w'.cell? p=w.cell? p∧w'.frozen? p=w.frozen? p
 shape:Shape w w'
 free:∀j,w'.frozen? ⟨b,j,none⟩=false
inductive CB|v (x:TV)|sl (o n m:Nat)|pt (o:Nat)|r (l:List At) (n m:Nat)
def CB.ok (w:World) (b:Nat):CB→Value→Prop
 | .v x,u=>u=x.den
 | .sl o n m,u=>u=.slice (some ⟨b,o,none⟩) n m
 | .pt o,u=>u=.pointer (some ⟨b,o,none⟩)
 | .r l n m,u=>∃b' o,u=.slice (some ⟨b',o,none⟩) n m∧b'<w.heap.size∧b'≠b∧w.rangeAt b' o (aB l)
def CBs (w:World) (b:Nat):List CB→List Value→Prop
 | [],[]=>True
 | c::cs,v::vs=>c.ok w b v∧CBs w b cs vs
 | _,_=>False
structure Ext where
 idx:Nat→Option Nat
 ld:Nat→Option (List At)
 st:Nat→Option (List At)
 gen:Nat→Option Value
 mks:Nat→Option (Nat×List At)
 ky:Nat→Option Nat
 old:Nat→Nat→List At→Prop
 T2:Nat→List CA→Option (List Prop×FR)
 T3:Nat→List CA→Option (List Prop×FS):=fun _ _=>Option.none
 T4:Nat→List CA→Option (List Prop×Nat×List At):=fun _ _=>Option.none
 T5:Nat→List CA→Option (List Prop×Nat×RV×List At):=fun _ _=>Option.none
 T6:Nat→Nat→List At→List CB→Option (List Prop×RV×List At):=fun _ _ _ _=>Option.none
def Ext.none:Ext:=⟨fun _=>.none,fun _=>.none,fun _=>.none,fun _=>.none,fun _=>.none,fun _=>.none,fun _ _ _=>False,fun _ _=>.none,fun _ _=>.none,fun _ _=>.none,fun _ _=>.none,fun _ _ _ _=>.none⟩
def KL (P:Program) (T:Tab) (w:World):Prop:=∀f cs pre r,T f cs=some (pre,r)→aS pre →
 (∀args w,(callFunc f args).run P w=.ok (.enter f args) w)∧∀(args:List Value),cH w cs args→Calls P f args.toArray w (fun e w'=>e=.returned r.den∧Below w.heap.size w w')
def TabOkW (P:Program) (T:Tab) (base:Nat) (w0:World):Prop:=∀w,Below base w0 w→KL P T w
theorem TabOk.w {P:Program} {T:Tab} (h:TabOk P T) (base:Nat) (w0:World):TabOkW P T base w0:=fun w _ f cs pre r hg hp=>⟨(h f cs pre r hg hp).1,fun args ha=>(h f cs pre r hg hp).2 args w ha⟩
def uF (P:Program) (x:Ext) (base:Nat) (w:World):Prop:=(∀b o l,x.old b o l→w.rangeAt b o (aB l))∧(∀f cs pre r,x.T2 f cs=some (pre,r)→aS pre →
 (∀args w,(callFunc f args).run P w=.ok (.enter f args) w)∧∀(args:List Value),cH w cs args→Calls P f args.toArray w (fun e w'=>r.ok w e w')) ∧
 (∀f cs pre r,x.T3 f cs=some (pre,r)→aS pre→(∀args w,(callFunc f args).run P w=.ok (.enter f args) w)∧∀(args:List Value),cH w cs args→Calls P f args.toArray w (fun e w'=>r.ok w e w')) ∧
 (∀f cs pre j l,x.T4 f cs=some (pre,j,l)→aS pre→(∀args w,(callFunc f args).run P w=.ok (.enter f args) w)∧∀(args:List Value),cH w cs args→∀b o n m,args[j]?=some (.slice (some ⟨b,o,none⟩) n m)→(∀q,w.frozen? ⟨b,q,none⟩=false) →
  Calls P f args.toArray w (fun e w'=>e=.returned (.slice (some ⟨b,o,none⟩) n m)∧WrAt w w' b l∧w'.rangeAt b o (aB l))) ∧
 (∀f cs pre j r l,x.T5 f cs=some (pre,j,r,l)→aS pre→(∀args w,(callFunc f args).run P w=.ok (.enter f args) w)∧∀(args:List Value),cH w cs args→∀b o,args[j]?=some (.pointer (some ⟨b,o,none⟩))→(∀q,w.frozen? ⟨b,q,none⟩=false)→base≤b →
  Calls P f args.toArray w (fun e w'=>e=.returned r.den∧WrC w w' b∧w'.rangeAt b 0 (aB l))) ∧
 ∀f b row cs pre r l,x.T6 f b row cs=some (pre,r,l)→aS pre→(∀args w,(callFunc f args).run P w=.ok (.enter f args) w)∧∀(args:List Value),b<w.heap.size→w.rangeAt b 0 (aB row)→(∀q,w.frozen? ⟨b,q,none⟩=false)→CBs w b cs args →
  Calls P f args.toArray w (fun e w'=>e=.returned r.den∧WrC w w' b∧w'.rangeAt b 0 (aB l))
def ExtOk (P:Program) (x:Ext) (base:Nat) (w0:World):Prop:=∀w,Below base w0 w→uF P x base w
structure EqT where
 q:Nat→Option Nat
 n:Nat→Option Nat
 x:Ext:=Ext.none
 fit:Nat→List At→Bool:=fun _ l=>l.all Zt
def wM (P:Program) (q:EqT):Prop:=(∀t n,q.q t=some n→P.eqGuardType P.depth t=false∧∀(l:List At) (w:World),eS l=n→q.fit t l=true→(Op.equalIn 10000 t (.agg (aB l).toArray) (.agg (aB l).toArray)).run P w=.ok true w) ∧
 (∀t n,q.n t=some n→P.eqGuardType P.depth t=false∧∀(l m:List At) (w:World),eS l=n→eS m=n→q.fit t l=true→q.fit t m=true→aB l≠aB m→(Op.equalIn 10000 t (.agg (aB l).toArray) (.agg (aB m).toArray)).run P w=.ok false w)
theorem ExtOk.none (P:Program) (base:Nat) (w0:World):ExtOk P Ext.none base w0:=fun w _=>⟨fun _ _ _ h=>h.elim,fun _ _ _ _ h=>(by cases h),fun _ _ _ _ h=>(by cases h),fun _ _ _ _ _ h=>(by cases h),fun _ _ _ _ _ _ h=>(by cases h),fun _ _ _ _ _ _ _ h=>(by cases h)⟩
def EqOk (P:Program) (q:EqT):Prop:=wM P q∧q.x=Ext.none
def dC (P:Program) (q:EqT) (base:Nat) (w0:World):Prop:=wM P q∧ExtOk P q.x base w0
theorem EqOk.w {P:Program} {q:EqT} (h:EqOk P q) (base:Nat) (w0:World):dC P q base w0:=⟨h.1,h.2▸ExtOk.none P base w0⟩
structure Env where
 P:Program
 T:Nat→Tab
 q:EqT
 hint:Nat→Bool
 num:Nat→Option Value
 nt:Nat
def Mk (l:List At) (o:Nat):Option (List At):=bif Nat.beq o 0 then some l else dp l o
theorem tV {l:List At} {n:Nat} {r:List At} (h:Mk l n=some r):∃t,l=t++r∧eS t=n:=by
 unfold Mk at h;cases hb:Nat.beq n 0<;>rw[hb]at h
 ·exact pI l n r h
 ·cases h; exact⟨[],rfl,(Nat.eq_of_beq_eq_true hb).symm⟩
def OJ (M:List Fact):AV→Option CA
 | .im v=>some (.v (.im v))
 | .fl l=>some (.v (.fl l))
 | .sl k o n m=>match dI M k with
  | some (_,l)=>match Mk l o with|some r=>some (.s r n m)|none=>none
  | none=>none
 | .so k n=>match dI M k with
  | some (_,l)=>some (.so l n)
  | none=>none
 | .pt k o=>match dI M k with
  | some (true,l)=>some (.p l o)
  | _=>none
 | _=>none
def wI (M:List Fact):List AV→Option (List CA)
 | []=>some []
 | v::r=>match OJ M v,wI M r with|some c,some l=>some (c::l)|_,_=>none
theorem OI {M:List Fact} {base:Nat} {β:Nat→Bk} {a:Act} {w:World} (hM:∀φ∈M,φ.ok base β a w) {v:AV} {c:CA} (h:OJ M v=some c):c.ok w (v.den β):=by
 cases v with
 | im v=>cases h; rfl
 | fl l=>cases h; rfl
 | sl k o n m =>
  unfold OJ at h;cases hr:dI M k with
  | none=>simp[hr]at h
  | some x =>
   obtain⟨ow,l⟩:=x;simp only[hr]at h;cases hd:Mk l o with
   | none=>simp[hd]at h
   | some r =>
    simp only[hd]at h;cases h;obtain⟨h1,h2,_⟩:=hM _ (aX hr);obtain⟨p,e,hp⟩:=tV hd;refine⟨_,_,rfl,h1,fun j u hj => ?_⟩;have:=h2 (o+j) u (by rw[e,aL,List.getElem?_append_right (by rw[aJ,hp]; omega),aJ,hp]; simpa using hj)
    rwa [←Nat.add_assoc]at this
 | so k n =>
  unfold OJ at h;cases hr:dI M k with
  | none=>simp[hr]at h
  | some x =>
   obtain⟨ow,l⟩:=x;simp only[hr]at h;cases h;obtain⟨h1,h2,_⟩:=hM _ (aX hr);exact⟨_,_,_,rfl,h1,h2⟩
 | pt k o =>
  unfold OJ at h;cases hr:dI M k with
  | none=>simp[hr]at h
  | some x =>
   obtain⟨ow,l⟩:=x;cases ow with
   | false=>simp[hr]at h
   | true =>
    simp only[hr]at h;cases h;obtain⟨h1,h2,h3,_⟩:=hM _ (aX hr);obtain⟨_,h5,_⟩:=h3 rfl;rw[h5]at h2;exact⟨(β k).1,by simp[AV.den,h5],h1,h2⟩
 | _=>cases h
theorem nV {M:List Fact} {base:Nat} {β:Nat→Bk} {a:Act} {w:World} (hM:∀φ∈M,φ.ok base β a w):∀{l:List AV} {cs:List CA},wI M l=some cs→cH w cs (l.map (AV.den β))
 | [],cs,h=>by cases h; trivial
 | v::r,cs,h=>by
  unfold wI at h;cases hv:OJ M v with
  | none=>simp[hv]at h
  | some c =>
   cases hr:wI M r with
   | none=>simp[hv,hr]at h
   | some l =>
    simp only[hv,hr]at h;cases h;exact⟨OI hM hv,nV hM hr⟩
def nO (P:Program) (t:Nat):Bool:=match P.underlying t with|some d=>d.isRow|none=>false
def dU (P:Program) (t:Nat):Option Nat:=match P.info? t with|some i=>some i.size|none=>none
def Cs (P:Program) (t:Nat):Option (List At):=match P.info? t with
 | some i=>match i.zero with|some z=>some (nz z.cells.toList)|none=>none
 | none=>none
def Mq (z:List Value):List (Nat×List At)→List At
 | (_,[.c _])::_=>z.map .c
 | _=>nz z
theorem tR:∀z:List Value,aB (z.map .c)=z
 | []=>rfl
 | v::r=>by show [v]++aB (r.map .c)=_; rw[tR r]; rfl
theorem sE (z:List Value) (ps:List (Nat×List At)):aB (Mq z ps)=z:=by
 unfold Mq;split
 ·exact tR z
 ·exact IZ z
def GN (P:Program) (t:Nat) (ps:List (Nat×List At)):Option (List At) :=
 match P.info? t,P.underlying t with
 | some it,some (.array _ e)=>match it.zero,P.info? e with
  | some z,some ie=>vW (fun i=>some (i*ie.size,ie.size)) (Mq z.cells.toList ps) ps
  | _,_=>none
 | some it,some (.struct fields)=>match it.zero,fields.toList.mapM (fun f=>(P.info? f.type).map fun i=>(f.offset,i.size))with
  | some z,some places=>vW (places.toArray[·]?) (Mq z.cells.toList ps) ps
  | _,_=>none
 | _,_=>none
theorem BZ {P:Program} {M:List Fact} {base:Nat} {β:Nat→Bk} {a:Act} {w:World} (hM:∀φ∈M,φ.ok base β a w) {t:Nat} {xs:List (Nat×Operand)} {ps:List (Nat×List At)} {l:List At}
  (hp:nK M xs=some ps) (h:GN P t ps=some l):P.built t (xs.map fun (i,x)=>(i,a.eval x))=some (aB l).toArray:=by
 unfold GN at h;unfold Program.built;cases hi:P.info? t with
 | none=>simp[hi]at h
 | some it =>
  cases hu:P.underlying t with
  | none=>simp[hi,hu]at h
  | some d =>
   cases d<;>simp only[hi,hu]at h ⊢ <;> try (cases h; done)
   ·rename_i n e;cases hz:it.zero with
    | none=>simp[hz]at h
    | some z =>
     cases he:P.info? e with
     | none=>simp[hz,he]at h
     | some ie =>
      simp only[hz,he]at h ⊢;have:=kG hM _ xs ps _ _ hp h
      rwa [sE,Array.toArray_toList]at this
   ·rename_i fs;cases hz:it.zero with
    | none=>simp[hz]at h
    | some z =>
     cases hm:fs.toList.mapM (fun f=>(P.info? f.type).map fun i=>(f.offset,i.size))with
     | none=>simp[hz,hm]at h
     | some pl =>
      simp only[hz,hm]at h ⊢;have:=kG hM _ xs ps _ _ hp h
      rwa [sE,Array.toArray_toList]at this
def KG (P:Program) (t len:Nat) (ps:List (Nat×List At)):Option (List At) :=
 match P.underlying t with
 | some (.slice e)=>match P.info? e with
  | some ie=>match ie.zero with
   | some z=>bif Nat.ble (len*ie.size) 4096 && !(Nat.beq (len*ie.size) 0)then
     vW (fun i=>some (i*ie.size,ie.size)) (Mq ((Array.range (len*ie.size)).map (z.cells[· % z.cells.size]!)).toList ps) ps else none
   | none=>none
  | none=>none
 | _=>none
structure PostB (base:Nat) (β β':Nat→Bk) (a:Act) (w:World) (dst:Option Nat) (M out:List Fact) (kill:Option Nat) (a':Act) (w':World):Prop where
 defers:a'.defers=a.defers
 size:a'.tmps.size=a.tmps.size
 tmps:∀s,dst≠some s→a'.tmps[s]?=a.tmps[s]?
 beta:∀k,dst≠some k→β' k=β k
 heap:w.heap.size≤w'.heap.size
 mem:∀p:Addr,p.block<w.heap.size→(∀k,kill=some k→p.block≠(β k).1)→w'.cell? p=w.cell? p∧w'.frozen? p=w.frozen? p
 shape:Shape w w'
 below:∀w0,Below base w0 w→Below base w0 w'
 ok:∀φ∈out,φ.ok base β' a' w'
 rows:∀k l,Fact.row k true l∈out→(w.heap.size≤(β' k).1∧dst=some k)∨(dst≠some k∧∃l0,Fact.row k true l0∈M)∨(dst=some k∧∃k0 l0,kill=some k0∧(β' k).1=(β k0).1∧Fact.row k0 true l0∈M)
 one:∀k k' l l',Fact.row k true l∈out→Fact.row k' true l'∈out→k=k'
 kills:∀k,kill=some k→∃l0,Fact.row k true l0∈M
 onlyOwn:∀k l,Fact.row k false l∈out→False:=by first|(intro k l h; simp only[List.mem_cons,List.not_mem_nil,or_false,reduceCtorEq,false_or,Fact.row.injEq,Bool.false_eq_true,false_and,and_false]at h)|(intro k l h; cases h)
theorem Shape.refl (w:World):Shape w w:=⟨fun b cur e h=>⟨cur,h,rfl⟩,KeepsOthers.refl w⟩
theorem Shape.below {w w':World} (h:Below w.heap.size w w'):Shape w w':=⟨fun b cur e hb=>⟨cur,(h.block b (Array.getElem?_eq_some_iff.1 hb).1).trans hb,rfl⟩,h.size,fun b o hb _=>(h.block b (Array.getElem?_eq_some_iff.1 hb).1).trans hb⟩
theorem Shape.alloc (w:World) (o:Obj):Shape w (w.alloc o):=⟨fun b cur e hb=>⟨cur,(Below.heap_alloc w o b (Array.getElem?_eq_some_iff.1 hb).1).trans hb,rfl⟩,KeepsOthers.alloc w o⟩
theorem Shape.trans {a b c:World} (h:Shape a b) (k:Shape b c):Shape a c:=⟨fun q cur e hq=>by
 obtain⟨c1,h1,s1⟩:=h.1 q cur e hq;obtain⟨c2,h2,s2⟩:=k.1 q c1 e h1;exact⟨c2,h2,s2.trans s1⟩,h.2.trans k.2⟩
theorem Shape.drew (w:World):Shape w w.drew:=⟨fun q cur e h=>⟨cur,h,rfl⟩,Nat.le_refl _,fun k o h _=>h⟩
theorem AppAt.shape {w w':World} (h:Shape w w') {b e sz n cap:Nat} (ha:AppAt w b e sz n cap):AppAt w' b e sz n cap:=by
 obtain⟨cur,h1,h2,h3,h4⟩:=ha;obtain⟨c',h5,h6⟩:=h.1 b cur e h1;exact⟨c',h5,h2,h3,h6.trans h4⟩
theorem dD (a:Act) (d:Nat) (v:Value) (h:d<a.tmps.size):(a.put (some d) v).tmps[d]?=some v:=by
 simp[Act.put,h]
theorem iE (a:Act) (d s:Nat) (v:Value) (h:some d≠some s):(a.put (some d) v).tmps[s]?=a.tmps[s]?:=by
 have:d≠s:=fun e=>h (by rw[e])
 simp[Act.put,Array.getElem?_setIfInBounds_ne this]
theorem cJ (a:Act) (d:Option Nat) (v:Value):(a.put d v).tmps.size=a.tmps.size:=by cases d<;>simp[Act.put]
theorem iF (a:Act) (d:Option Nat) (v:Value):(a.put d v).defers=a.defers:=by cases d<;>rfl
theorem vG {base:Nat} {β:Nat→Bk} {a:Act} {w:World} {d:Nat} {M:List Fact} (v:AV) (h:d<a.tmps.size):PostB base β β a w (some d) M [.slot d v] none (a.put (some d) (v.den β)) w where
 defers:=rfl
 size:=cJ _ _ _
 tmps s hs:=iE _ _ _ _ hs
 beta k _:=rfl
 heap:=Nat.le_refl _
 mem p _ _:=⟨rfl,rfl⟩
 shape:=Shape.refl _
 below _ h:=h
 ok φ hφ:=by cases List.mem_singleton.1 hφ; exact dD _ _ _ h
 rows k l hk:=by cases List.mem_singleton.1 hk
 one k k' l l' hk:=by cases List.mem_singleton.1 hk
 kills k hk:=by cases hk
theorem pY {base:Nat} {β:Nat→Bk} {a:Act} {w w':World} {d:Nat} {M:List Fact} (v:AV) (h:d<a.tmps.size) (hB:base≤w.heap.size) (hb:Below w.heap.size w w'):PostB base β β a w (some d) M [.slot d v] none (a.put (some d) (v.den β)) w' where
 defers:=rfl
 size:=cJ _ _ _
 tmps s hs:=iE _ _ _ _ hs
 beta k _:=rfl
 heap:=hb.size
 mem p hp _:=⟨hb.cell hp,hb.frozen hp⟩
 shape:=Shape.below hb
 below _ h:=h.trans (hb.mono hB)
 ok φ hφ:=by cases List.mem_singleton.1 hφ; exact dD _ _ _ h
 rows k l hk:=by cases List.mem_singleton.1 hk
 one k k' l l' hk:=by cases List.mem_singleton.1 hk
 kills k hk:=by cases hk
def WN (β:Nat→Bk) (d b:Nat):Nat→Bk:=fun k=>bif Nat.beq k d then (b,0,0)else β k
def WE (β:Nat→Bk) (d b cap:Nat):Nat→Bk:=fun k=>bif Nat.beq k d then (b,0,cap)else β k
theorem cU (β:Nat→Bk) (d b cap:Nat):WE β d b cap d=(b,0,cap):=by simp[WE]
theorem OT (β:Nat→Bk) (d b cap k:Nat) (h:some d≠some k):WE β d b cap k=β k:=by
 have:k≠d:=fun e=>h (by rw[e])
 unfold WE;cases h2:Nat.beq k d
 ·rfl
 ·exact absurd (Nat.eq_of_beq_eq_true h2) this
theorem dB (β:Nat→Bk) (d b:Nat):WN β d b d=(b,0,0):=by simp[WN]
theorem OU (β:Nat→Bk) (d b k:Nat) (h:some d≠some k):WN β d b k=β k:=by
 have:k≠d:=fun e=>h (by rw[e])
 unfold WN;cases h2:Nat.beq k d
 ·rfl
 ·exact absurd (Nat.eq_of_beq_eq_true h2) this
theorem RK {base:Nat} {β:Nat→Bk} {a:Act} {w:World} {d:Nat} {M:List Fact} (v:AV) (l:List At) (t:TypeId) (h:d<a.tmps.size) (hB:base≤w.heap.size) :
  PostB base β (WN β d w.heap.size) a w (some d) M [.slot d v,.row d true l] none (a.put (some d) (v.den (WN β d w.heap.size))) (w.alloc (.cells (aB l).toArray t)) where
 defers:=rfl
 size:=cJ _ _ _
 tmps s hs:=iE _ _ _ _ hs
 beta k hk:=OU _ _ _ _ hk
 heap:=by simp
 mem p hp _:=⟨World.cell?_alloc_lt _ _ _ hp,World.frozen?_alloc_past _ _ _ hp⟩
 shape:=Shape.alloc _ _
 below _ h:=h.alloc hB _
 ok φ hφ:=by
  rcases List.mem_cons.1 hφ with rfl|hφ
  ·exact dD _ _ _ h
  ·cases List.mem_singleton.1 hφ;refine⟨by rw[dB]; simp,fun j u hj => ?_,fun _=>⟨by rw[dB]; exact hB,by rw[dB],fun j=>by rw[dB]; exact World.frozen?_alloc_new _ _ _ _⟩,fun h=>by cases h⟩;rw[dB];show World.cell? _ ⟨_,0+j,none⟩=_;rw[Nat.zero_add,World.cell?_alloc_new];simpa using hj
 rows k l' hk:=by
  rcases List.mem_cons.1 hk with hk|hk
  ·cases hk
  ·cases List.mem_singleton.1 hk;exact Or.inl ⟨by rw[dB]; exact Nat.le_refl _,rfl⟩
 one k k' l1 l2 hk hk':=by
  rcases List.mem_cons.1 hk with hk|hk
  ·cases hk
  ·rcases List.mem_cons.1 hk' with hk'|hk'
   ·cases hk'
   ·cases List.mem_singleton.1 hk; cases List.mem_singleton.1 hk'; rfl
 kills k hk:=by cases hk
abbrev Mo:=Option (List Prop×List Fact×Option Nat)
def Mm:At→Bool
 | .c v=>tM v
 | _=>true
def MX (M:List Fact):List AV→Option (List Value)
 | []=>some []
 | .im v::r=>match MX M r with|some l=>some (v::l)|none=>none
 | .pt k o::r=>match uC M k,MX M r with|some b,some l=>some (.pointer (some ⟨b,o,none⟩)::l)|_,_=>none
 | _::_=>none
def JI (M:List Fact) (ky:Option Nat) (v:Value):Option (List Prop×AV) :=
 match ky with
 | none=>some ([],.im v)
 | some k=>match v,uC M k with
  | .slice (some ⟨b,0,none⟩) n m,some b'=>some ([b=b'],.sl k 0 n m)
  | .pointer (some ⟨b,0,none⟩),some b'=>some ([b=b'],.pt k 0)
  | _,_=>none
def aW (op:BinOp) (k:IntKind) (a b:Int):Option Value :=
 match op with
 | .add=>some (.int k (k.wrap (a+b)))
 | .sub=>some (.int k (k.wrap (a-b)))
 | .mul=>some (.int k (k.wrap (a*b)))
 | .rem=>if b=0 then none else some (.int k (a.tmod b))
 | .quo=>if b=0 then none else some (.int k (k.wrap (a.tdiv b)))
 | .eql=>some (.bool (a==b))
 | .neq=>some (.bool (a != b))
 | .lss=>some (.bool (decide (a<b)))
 | .leq=>some (.bool (decide (a≤b)))
 | .gtr=>some (.bool (decide (a>b)))
 | .geq=>some (.bool (decide (a≥b)))
 | _=>none
def Tg (E:Env) (d:Nat) (op:BinOp) (t:Nat) (x y:AV):Mo :=
 match x,y with
 | .im (.int k a),.im (.int k' b)=>if k=k' then (match E.num d with
  | some v=>some ([aW op k a b=some v],[.slot d (.im v)],none)
  | none=>match aW op k a b with|some v=>some ([],[.slot d (.im v)],none)|none=>none)else none
 | .im (.bool a),.im (.bool b)=>match E.P.underlying t with
  | some .bool=>(match op with
   | .eql=>some ([],[.slot d (.im (.bool (a==b)))],none)
   | .neq=>some ([],[.slot d (.im (.bool (a != b)))],none)
   | _=>none)
  | _=>none
 | .fl l,.fl m=>bif E.q.fit t l&&E.q.fit t m then
   (bif E.hint d then (match E.q.q t with
    | some n=>bif Nat.beq (eS l) n&&Nat.beq (eS m) n then
      (match op with
      | .eql=>some ([aB l=aB m],[.slot d (.im (.bool true))],none)
      | .neq=>some ([aB l=aB m],[.slot d (.im (.bool false))],none)
      | _=>none)else none
    | none=>none)
   else (match E.q.n t with
    | some n=>bif Nat.beq (eS l) n&&Nat.beq (eS m) n then
      (match op with
      | .eql=>some ([aB l≠aB m],[.slot d (.im (.bool false))],none)
      | .neq=>some ([aB l≠aB m],[.slot d (.im (.bool true))],none)
      | _=>none)else none
    | none=>none))else none
 | _,_=>none
def Tk (P:Program) (t:Nat):Option (Nat×Nat×Nat):=match P.underlying t with
 | some (.slice e)=>(match P.info? e with
  | some i=>(match i.zero with
   | some z=>bif Nat.beq z.cells.size i.size&&Nat.blt 0 i.size then some (e,i.size,i.bytes)else none
   | none=>none)
  | none=>none)
 | _=>none
def Uv (M:List Fact) (sz:Nat):AV→Option (Nat×List At)
 | .sl k o n m=>match dI M k with
  | some (_,l)=>(match Mk l o with|some r=>(match tk r (n*sz)with|some t=>some (n,t)|none=>none)|none=>none)
  | none=>none
 | .so k n=>match dI M k with
  | some (_,l)=>(match tk l (n*sz)with|some t=>some (n,t)|none=>none)
  | none=>none
 | _=>none
def Yu (M:List Fact) (e sz:Nat):AV→Option (Nat×List At×Option Nat)
 | .im (.slice none 0 0)=>some (0,[],none)
 | .so k n=>match dI M k,nC M k with
  | some (true,l),some (e',sz',n')=>bif Nat.beq e e'&&(Nat.beq sz sz'&&(Nat.beq n n'&&Nat.beq (eS l) (n*sz)))then some (n,l,some k)else none
  | _,_=>none
 | _=>none
def Xp (E:Env) (M:List Fact) (sz d:Nat) (v:AV):Option (Nat×List At×List Prop):=match E.q.x.ld d with
 | some news=>(match v with
  | .sl k o n _=>(match dI M k with|some (_,l)=>some (n,news,[CM l o (n*sz)=some news])|none=>none)
  | .so k n=>(match dI M k with|some (_,l)=>some (n,news,[CM l 0 (n*sz)=some news])|none=>none)
  | .im (.slice (some ⟨b,o,.none⟩) n _)=>some (n,news,[E.q.x.old b o news,eS news=n*sz])
  | _=>none)
 | none=>(match Uv M sz v with|some (m,t)=>some (m,t,[])|none=>none)
def Xo (M:List Fact) (e sz:Nat):AV→Option (Nat×List At×Option Nat×List Prop)
 | .im (.slice none 0 0)=>some (0,[],none,[])
 | .so k n=>match dI M k,nC M k with
  | some (true,l),some (e',sz',n')=>bif Nat.beq e e'&&Nat.beq sz sz' then some (n,l,some k,[n=n',eS l=n*sz])else none
  | _,_=>none
 | _=>none
def ET (P:Program) (t:Nat) (name:String):Option Nat :=
 match P.info? t,P.underlying t with
 | some i,some d=>(match d with
  | .pointer _=>none
  | _=>(match i.methods.find? (·.name==name)with
   | some m=>(match m.path.toList,m.func with
    | [],some (f,false)=>some f
    | _,_=>none)
   | none=>none))
 | _,_=>none
def TC (P:Program) (t:Nat):Bool:=match P.underlying t with|some (.interface _)=>true|some _=>false|none=>true
def iS (P:Program) (t:Nat):Bool:=match P.underlying t with|some (.struct _)=>false|some (.array _ _)=>false|some _=>true|none=>false
def Xt (M:List Fact) (d:Nat) (pre:List Prop) (v:Option AV) (l':List At):Mo:=match v with
 | some (.so k n)=>(match dI M k with
  | some (true,l)=>bif !(Nat.beq k d)then some (pre,[.slot d (.so k n),.row k true l'],some k)else none
  | _=>none)
 | some (.sl k 0 n m)=>(match dI M k with
  | some (true,l)=>bif !(Nat.beq k d)then some (pre,[.slot d (.sl k 0 n m),.row k true l'],some k)else none
  | _=>none)
 | _=>none
def Xs (M:List Fact) (d:Nat) (pre:List Prop) (v:Option AV) (r:RV) (l':List At):Mo:=match v with
 | some (.pt k o)=>(match dI M k with
  | some (true,l)=>bif !(Nat.beq k d)then some (pre,[.slot d r.av,.row k true l'],some k)else none
  | _=>none)
 | _=>none
def iH:Option Nat→Nat→Bool
 | some d,s=>Nat.beq d s
 | none,_=>false
theorem dE {d:Option Nat} {s:Nat}:iH d s=true↔d=some s:=by
 cases d with
 | none=>simp[iH]
 | some x=>simp[iH]
def Uu (M:List Fact) (k b:Nat):AV→Option (List Prop×CB)
 | .im v=>some ([],.v (.im v))
 | .fl l=>some ([],.v (.fl l))
 | .sl k' o n m=>bif Nat.beq k' k then some ([],.sl o n m)else (match dI M k',uC M k' with
  | some (_,l),some b'=>(match Mk l o with|some r=>some ([b'≠b],.r r n m)|none=>none)
  | _,_=>none)
 | .pt k' o=>bif Nat.beq k' k then some ([],.pt o)else none
 | _=>none
def Bw (M:List Fact) (k b:Nat):List AV→Option (List Prop×List CB)
 | []=>some ([],[])
 | v::r=>match Uu M k b v,Bw M k b r with|some (p,c),some (ps,l)=>some (p++ps,c::l)|_,_=>none
def VG (j:Option Nat) (b:Nat):Nat→List Value→List Prop×List CB
 | _,[]=>([],[])
 | i,v::r=>match VG j b (i+1) r with
  | (ps,l)=>bif iH j i then (match v with
   | .pointer (some ⟨c,o,.none⟩)=>((c=b)::ps,.pt o::l)
   | v=>(ps,.v (.im v)::l))else (ps,.v (.im v)::l)
def CL (P:Program) (src dst n:Nat) (l:List At) (r:Value):Prop:=∀(w:World) (b o m:Nat),w.rangeAt b o (aB l)→(convert src dst (.slice (some ⟨b,o,none⟩) n m)).run P w=.ok r w
def bL (E:Env) (M:List Fact) (d:Nat):Op→Mo
 | .move x=>match ev M x with|some v=>some ([],[.slot d v],none)|none=>none
 | .assign x=>match ev M x with|some v=>some ([],[.slot d v],none)|none=>none
 | .pick c x y=>match ev M c,ev M x,ev M y with
  | some (.im (.bool b)),some v,some u=>some ([],[.slot d (bif b then v else u)],none)
  | _,_,_=>none
 | .alloc t=>match Cs E.P t with|some l=>some ([],[.slot d (.pt d 0),.row d true l],none)|none=>none
 | .box t x=>match ev M x with
  | some v=>match AK v with|some p=>some ([],[.slot d (.pt d 0),.row d true p],none)|none=>none
  | none=>none
 | .build t ps=>match nK M ps.toList with
  | some qs=>match GN E.P t qs with
   | some l=>(match E.q.x.ld d with
    | some l'=>some ([aB l=aB l'],[.slot d (.fl l')],none)
    | none=>some ([],[.slot d (.fl (nq l))],none))
   | none=>none
  | none=>none
 | .buildSlice t n ps=>match nK M ps.toList with
  | some qs=>match KG E.P t n qs with|some l=>some ([],[.slot d (.sl d 0 n n),.row d true l],none)|none=>none
  | none=>none
 | .load t x=>match ev M x with
  | some (.pt k o)=>match dI M k,dU E.P t,nO E.P t with
   | some (_,l),some n,true=>match E.q.x.ld d with
    | some s=>some ([CM l o n=some s],[.slot d (.fl s)],none)
    | none=>match CM l o n with|some s=>some ([],[.slot d (.fl s)],none)|none=>none
   | some (_,l),some 1,false=>bif iS E.P t then (match E.q.x.gen d with
    | some v=>(match JI M (E.q.x.ky d) v with|some (p,u)=>some ((cellAt l o=some v)::p,[.slot d u],none)|none=>none)
    | none=>match cellAt l o with
     | some v=>(match JI M (E.q.x.ky d) v with|some (p,u)=>some (p,[.slot d u],none)|none=>none)
     | none=>none)else none
   | _,_,_=>none
  | some (.im (.pointer (some ⟨b,o,.none⟩)))=>match dU E.P t,nO E.P t with
   | some n,true=>(match E.q.x.ld d with
    | some s=>some ([E.q.x.old b o s,eS s=n],[.slot d (.fl s)],none)
    | none=>none)
   | some 1,false=>bif iS E.P t then (match E.q.x.gen d with
    | some v=>some ([E.q.x.old b o [.c v]],[.slot d (.im v)],none)
    | none=>none)else none
   | _,_=>none
  | _=>none
 | .makeInterface t x=>match ev M x with
  | some (.fl l)=>bif TC E.P t then none else some ([],[.slot d (.ic t l)],none)
  | _=>none
 | .nilCheck x=>match ev M x with
  | some (.pt k o)=>some ([],[.slot d (.pt k o)],none)
  | some (.im (.pointer (some p)))=>some ([],[.slot d (.im (.pointer (some p)))],none)
  | _=>none
 | .fieldAddr s x i=>match ev M x,E.P.underlying s with
  | some (.pt k o),some (.struct fs)=>match fs[i]? with
   | some f=>match dU E.P f.type with
    | some n=>bif Nat.beq n 0 then none else some ([],[.slot d (.pt k (o+f.offset))],none)
    | none=>none
   | none=>none
  | some (.im (.pointer (some ⟨b,o,.none⟩))),some (.struct fs)=>match fs[i]? with
   | some f=>match dU E.P f.type with
    | some n=>bif Nat.beq n 0 then none else some ([],[.slot d (.im (.pointer (some ⟨b,o+f.offset,.none⟩)))],none)
    | none=>none
   | none=>none
  | _,_=>none
 | .indexAddr t x y=>match E.q.x.idx d with
  | some j=>(match ev M x,ev M y,E.P.underlying t with
   | some (.pt k o),some (.im (.int kd i)),some (.array n e)=>(match dU E.P e with
    | some s=>some ([i=Int.ofNat j,j<n],[.slot d (.pt k (o+j*s))],none)
    | none=>none)
   | some (.sl k o n m),some (.im (.int kd i)),some (.slice e)=>(match dU E.P e with
    | some s=>some ([i=Int.ofNat j,j<n],[.slot d (.pt k (o+j*s))],none)
    | none=>none)
   | some (.im (.pointer (some ⟨b,o,.none⟩))),some (.im (.int kd i)),some (.array n e)=>(match dU E.P e with
    | some s=>some ([i=Int.ofNat j,j<n],[.slot d (.im (.pointer (some ⟨b,o+j*s,.none⟩)))],none)
    | none=>none)
   | some (.im (.slice (some ⟨b,o,.none⟩) n m)),some (.im (.int kd i)),some (.slice e)=>(match dU E.P e with
    | some s=>some ([i=Int.ofNat j,j<n],[.slot d (.im (.pointer (some ⟨b,o+j*s,.none⟩)))],none)
    | none=>none)
   | _,_,_=>none)
  | none=>match ev M x,ev M y with
  | some (.pt k o),some (.im (.int kd (.ofNat i)))=>match E.P.underlying t with
   | some (.array n e)=>match dU E.P e with
    | some s=>bif Nat.blt i n then some ([],[.slot d (.pt k (o+i*s))],none)else none
    | none=>none
   | _=>none
  | some (.sl k o n m),some (.im (.int kd (.ofNat i)))=>match E.P.underlying t with
   | some (.slice e)=>match dU E.P e with
    | some s=>bif Nat.blt i n then some ([],[.slot d (.pt k (o+i*s))],none)else none
    | none=>none
   | _=>none
  | some (.so k n),some (.im (.int kd (.ofNat i)))=>match E.P.underlying t with
   | some (.slice e)=>match dU E.P e with
    | some s=>bif Nat.blt i n then some ([],[.slot d (.pt k (i*s))],none)else none
    | none=>none
   | _=>none
  | _,_=>none
 | .index t x y=>match E.q.x.gen d with
  | some v=>(match ev M x,ev M y,E.P.underlying t with
   | some (.fl l),some (.im (.int kd (.ofNat i))),some (.array n e)=>(match dU E.P e with
    | some 1=>bif iS E.P e then some ([i<n,cellAt l i=some v],[.slot d (.im v)],none)else none
    | _=>none)
   | _,_,_=>none)
  | none=>match ev M x,ev M y with
  | some (.fl l),some (.im (.int kd (.ofNat i)))=>match E.P.underlying t with
   | some (.array n e)=>match dU E.P e,nO E.P e with
    | some s,true=>bif Nat.blt i n then (match CM l (i*s) s with|some r=>some ([],[.slot d (.fl r)],none)|none=>none)else none
    | some 1,false=>bif iS E.P e&&Nat.blt i n then (match cellAt l i with|some v=>some ([],[.slot d (.im v)],none)|none=>none)else none
    | _,_=>none
   | _=>none
  | _,_=>none
 | .field s x i=>match ev M x,E.P.underlying s with
  | some (.fl l),some (.struct fs)=>match fs[i]? with
   | some f=>match dU E.P f.type,nO E.P f.type with
    | some n,true=>(match CM l f.offset n with|some r=>some ([],[.slot d (.fl r)],none)|none=>none)
    | some 1,false=>bif iS E.P f.type then (match cellAt l f.offset with|some v=>some ([],[.slot d (.im v)],none)|none=>none)else none
    | _,_=>none
   | none=>none
  | _,_=>none
 | .extract x i=>match ev M x with
  | some (.tu l)=>match l[i]? with|some t=>some ([],[.slot d t.av],none)|none=>none
  | some (.tf k n m post)=>match i with
   | 0=>some ([],[.slot d (.sl k 0 n m)],none)
   | i+1=>match post[i]? with|some t=>some ([],[.slot d t.av],none)|none=>none
  | some (.tg k n ante post)=>bif Nat.blt i ante.length then (match ante[i]? with|some t=>some ([],[.slot d t.av],none)|none=>none)
   else bif Nat.beq i ante.length then some ([],[.slot d (.so k n)],none)
   else (match post[i-ante.length-1]? with|some t=>some ([],[.slot d t.av],none)|none=>none)
  | _=>none
 | .slice t x (some lo) (some hi) none=>match E.q.x.gen d with
  | some r=>(match ev M x,ev M lo,ev M hi with
   | some (.im v),some (.im u),some (.im u')=>some ([∀w:World,(Instr.sliceAt t v (some u) (some u') none).run E.P w=.ok r w],[.slot d (.im r)],none)
   | _,_,_=>none)
  | none=>match ev M x,ev M lo,ev M hi,E.P.underlying t with
  | some (.sl k o n m),some (.im (.int _ (.ofNat i))),some (.im (.int _ (.ofNat j))),some (.slice e)=>match dU E.P e with
   | some s=>some ([i≤j,j≤m,i<m],[.slot d (.sl k (o+i*s) (j-i) (m-i))],none)
   | none=>none
  | _,_,_,_=>none
 | .slice t x (some lo) none none=>match E.q.x.gen d with
  | some r=>(match ev M x,ev M lo with
   | some (.im v),some (.im u)=>some ([∀w:World,(Instr.sliceAt t v (some u) none none).run E.P w=.ok r w],[.slot d (.im r)],none)
   | _,_=>none)
  | none=>match ev M x,ev M lo,E.P.underlying t with
   | some (.sl k o n m),some (.im (.int _ (.ofNat i))),some (.slice e)=>(match dU E.P e with
    | some s=>some ([i≤n,n≤m,i<m],[.slot d (.sl k (o+i*s) (n-i) (m-i))],none)
    | none=>none)
   | _,_,_=>none
 | .slice t x none hi none=>match ev M x,E.P.underlying t with
  | some (.pt k o),some (.array n e)=>match dU E.P e with
   | some s=>match hi with
    | none=>some ([],[.slot d (.sl k o n n)],none)
    | some y=>match ev M y with
     | some (.im (.int kd (.ofNat h)))=>bif Nat.ble h n then some ([],[.slot d (.sl k o h n)],none)else none
     | _=>none
   | none=>none
  | some (.sl k o n m),some (.slice e)=>match hi with
   | some y=>(match ev M y,dU E.P e with
    | some (.im (.int kd (.ofNat h))),some s=>some ([h≤m],[.slot d (.sl k o h m)],none)
    | _,_=>none)
   | none=>none
  | some (.im (.slice p n m)),some (.slice e)=>match hi with
   | some y=>(match ev M y,dU E.P e with
    | some (.im (.int kd (.ofNat h))),some s=>some ([h≤m],[.slot d (.im (.slice p h m))],none)
    | _,_=>none)
   | none=>none
  | _,_=>none
 | .binOp op t x y _=>match E.q.x.gen d with
  | some r=>(match ev M x,ev M y with
   | some (.im v),some (.im u)=>some ([∀w:World,(do eqGuard op t x y v u; binOp op t v u:Sem Value).run E.P w=.ok r w],[.slot d (.im r)],none)
   | _,_=>none)
  | none=>match ev M x,ev M y with|some v,some u=>Tg E d op t v u|_,_=>none
 | .convert src dst x=>match E.q.x.gen d with
  | some r=>(match E.q.x.ld d,ev M x with
   | some l,some (.im (.slice (some ⟨b,o,.none⟩) n _))=>some ([E.q.x.old b o l,CL E.P src dst n l r],[.slot d (.im r)],none)
   | some _,some (.so k n)=>(match dI M k with
    | some (_,l)=>some ([CL E.P src dst n l r],[.slot d (.im r)],none)
    | none=>none)
   | none,some (.im v)=>some ([∀w:World,(convert src dst v).run E.P w=.ok r w],[.slot d (.im r)],none)
   | _,_=>none)
  | none=>none
 | .makeFunc fn first captured=>match fn with
  | .func id=>bif Nat.beq first.size 0 then (match Ke M captured.toList with
   | some l=>(match MX M l with|some vs=>some ([],[.slot d (.im (.func (.func id) #[] vs.toArray))],none)|none=>none)
   | none=>none)else none
  | _=>none
 | .makeSlice t l c=>match E.q.x.mks d,ev M l,ev M c with
  | some (n,L),some (.im v),some (.im u)=>some ([∃e,∀w:World,(Instr.makeSlice t v u).run E.P w=.ok (.slice (some ⟨w.heap.size,0,none⟩) n n) (w.alloc (.cells (aB L).toArray e))],[.slot d (.sl d 0 n n),.row d true L],none)
  | _,_,_=>none
 | .unOp op _ x=>match E.q.x.gen d with
  | some r=>(match ev M x with
   | some (.im v)=>some ([∀w:World,(Op.unary op v).run E.P w=.ok r w],[.slot d (.im r)],none)
   | _=>none)
  | none=>match op,ev M x with
  | .not,some (.im (.bool b))=>match E.num d with
   | some v=>some ([Value.bool (!b)=v],[.slot d (.im v)],none)
   | none=>some ([],[.slot d (.im (.bool (!b)))],none)
  | _,_=>none
 | .call c=>match c.callee with
  | .builtin .len=>match c.args.toList,c.argTypes.toList with
   | [x],[t]=>match ev M x,E.P.underlying t with
    | some (.sl k o n m),some (.slice e)=>some ([],[.slot d (.im (goInt n))],none)
    | some (.im (.slice p n m)),some (.slice e)=>some ([],[.slot d (.im (goInt n))],none)
    | some (.so k n),some (.slice e)=>some ([],[.slot d (.im (goInt n))],none)
    | _,_=>none
   | _,_=>none
  | .builtin .append=>match c.args.toList,c.argTypes.toList with
   | [x,y],[t,t']=>bif Nat.beq t t' then (match ev M x,ev M y,Tk E.P t with
    | some u,some v,some (e,sz,by8)=>(match E.q.x.mks d with
     | some (N',L')=>(match Xp E M sz d v,Xo M e sz u with
      | some (m,news,p1),some (n,l,kl,p2)=>some (p1++(p2++[∀x∈aB news,x.oneCell'=true,0<m,(n+m)*by8≤140737488355328,n+m≤4611686018427387904,N'=n+m,aB L'=aB (l++news)]),[.slot d (.so d N'),.row d true L',.app d e sz N'],kl)
      | _,_=>none)
     | none=>match Uv M sz v,Yu M e sz u with
     | some (m,news),some (n,l,kl)=>bif news.all Mm&&(Nat.blt 0 m&&(Nat.ble ((n+m)*by8) 140737488355328&&Nat.ble (n+m) 4611686018427387904))then some ([],[.slot d (.so d (n+m)),.row d true (l++news),.app d e sz (n+m)],kl)else none
     | _,_=>none)
    | _,_,_=>none)else none
   | _,_=>none
  | .builtin .max=>match c.args.toList with
   | [x,y]=>match ev M x,ev M y with
    | some (.im (.int k a)),some (.im (.int k' b))=>match E.num d with
     | some v=>some ([Value.int k (if b>a then b else a)=v],[.slot d (.im v)],none)
     | none=>some ([],[.slot d (.im (.int k (if b>a then b else a)))],none)
    | _,_=>none
   | _=>none
  | .builtin .min=>match c.args.toList with
   | [x,y,z]=>match ev M x,ev M y,ev M z,E.num d with
    | some (.im (.int k a)),some (.im (.int k' b)),some (.im (.int k'' c)),some v=>some ([Value.int k (if c<(if b<a then b else a)then c else (if b<a then b else a))=v],[.slot d (.im v)],none)
    | _,_,_,_=>none
   | [x,y]=>match ev M x,ev M y,E.num d with
    | some (.im (.int k a)),some (.im (.int k' b)),some v=>some ([Value.int k (if b<a then b else a)=v],[.slot d (.im v)],none)
    | _,_,_=>none
   | _=>none
  | .builtin .complex=>match E.q.x.gen d,c.args.toList with
   | some r,[x,y]=>(match ev M x,ev M y with
    | some (.im v),some (.im u)=>some ([∀w:World,(Builtin.complex_ #[] 0 #[v,u]).run E.P w=.ok r w],[.slot d (.im r)],none)
    | _,_=>none)
   | _,_=>none
  | .builtin .real=>match E.q.x.gen d,c.args.toList with
   | some r,[x]=>(match ev M x with
    | some (.im v)=>some ([∀w:World,(Builtin.real_ #[] 0 #[v]).run E.P w=.ok r w],[.slot d (.im r)],none)
    | _=>none)
   | _,_=>none
  | .builtin .imag=>match E.q.x.gen d,c.args.toList with
   | some r,[x]=>(match ev M x with
    | some (.im v)=>some ([∀w:World,(Builtin.imag_ #[] 0 #[v]).run E.P w=.ok r w],[.slot d (.im r)],none)
    | _=>none)
   | _,_=>none
  | .value f=>match ev M f with
   | some (.im (.func (.func id) first captured))=>bif Nat.beq first.size 0 then
     (match Ke M c.args.toList with
     | some l=>match E.q.x.ky d with
      | some k=>(match dI M k,uC M k with
       | some (true,row),some b=>(match Bw M k b l,VG (E.q.x.idx d) b 0 captured.toList with
        | some (p1,cbs),(p2,cps)=>(match E.q.x.T6 id b row (cbs++cps)with
         | some (pre,r,row')=>bif !(Nat.beq k d)then some (p1++(p2++pre),[.slot d r.av,.row k true row'],some k)else none
         | none=>none)
        | _,_=>none)
       | _,_=>none)
      | none=>match wI M l with
      | some cs=>match E.T d id (cs++captured.toList.map fun v=>.v (.im v))with
       | some (pre,r)=>some (pre,[.slot d r.av],none)
       | none=>match E.q.x.T2 id (cs++captured.toList.map fun v=>.v (.im v))with
        | some (pre,r)=>some (pre,[.slot d (bif r.post.isEmpty then .sl d 0 r.n r.m else .tf d r.n r.m r.post),.row d true r.l],none)
        | none=>match E.q.x.T3 id (cs++captured.toList.map fun v=>.v (.im v))with
         | some (pre,r)=>some (pre,.slot d (bif r.lone then .so d r.n else .tg d r.n r.ante r.post) :: .row d true r.l::(bif r.ap then [.app d r.e r.sz r.n]else []),none)
         | none=>match E.q.x.T4 id (cs++captured.toList.map fun v=>.v (.im v))with
          | some (pre,j,l')=>Xt M d pre (l[j]?) l'
          | none=>match E.q.x.T5 id (cs++captured.toList.map fun v=>.v (.im v))with
           | some (pre,j,r,l')=>Xs M d pre (l[j]?) r l'
           | none=>none
      | none=>none
     | none=>none)else none
   | _=>none
  | .invoke x name=>match ev M x with
   | some (.ic t l0)=>(match ET E.P t name with
    | some id=>(match Ke M c.args.toList with
     | some l=>match wI M l with
      | some cs=>match E.T d id (.v (.fl l0)::cs)with
       | some (pre,r)=>some (pre,[.slot d r.av],none)
       | none=>none
      | none=>none
     | none=>none)
    | none=>none)
   | _=>none
  | _=>none
 | _=>none
def Ft (E:Env):Operand→Option (List At)
 | .tmp s=>E.q.x.st s
 | _=>none
def wS (E:Env) (M:List Fact):Op→Mo
 | .store t x y=>match ev M x,ev M y with
  | some (.pt k o),some v=>match AK v,dI M k,dU E.P t with
   | some p,some (true,l),some n=>bif Nat.beq n (eS p)&&p.all Mm then
     (match Ft E x with
     | some l'=>some ([put l o p=some l'],[.row k true l'],some k)
     | none=>match put l o p with|some l'=>some ([],[.row k true l'],some k)|none=>none)else none
   | _,_,_=>none
  | _,_=>none
 | _=>none
def xV (ops:Array Oper) (M:List Fact):Option (Nat×Bool)→Option Bool
 | none=>some true
 | some (g,b)=>match (ops[g]?).bind (·.dst)with
  | some s=>match oW M s with|some (.im (.bool c))=>some (c==b)|some (.im (.tuple _))=>some false|_=>none
  | none=>none
def Me (E:Env) (ops:Array Oper) (M:List Fact) (o:Oper):Mo :=
 match xV ops M o.guard with
 | some true=>(match o.dst with
  | some d=>bif Nat.blt d E.nt then bL E M d o.op else none
  | none=>wS E M o.op)
 | some false=>(match o.dst with
  | some d=>bif Nat.blt d E.nt then some ([],[.slot d (.im undef)],none)else none
  | none=>none)
 | none=>none
theorem pD {ops:Array Oper} {M:List Fact} {base:Nat} {β:Nat→Bk} {a:Act} {w:World} (hM:∀φ∈M,φ.ok base β a w) {o:Oper} {t:Bool} (h:xV ops M o.guard=some t):Region.wanted o (yielded ops a.tmps)=t:=by
 unfold Region.wanted;cases hg:o.guard with
 | none=>rw[hg]at h; cases h; rfl
 | some gb =>
  obtain⟨g,b⟩:=gb;rw[hg]at h;unfold xV at h;simp only at h ⊢;unfold yielded;cases hs:(ops[g]?).bind (·.dst)with
  | none=>rw[hs]at h; cases h
  | some s =>
   rw[hs]at h;simp only at h;cases hl:oW M s with
   | none=>rw[hl]at h; cases h
   | some v =>
    rw[hl]at h;have:=hM _ (eH hl);simp only[Fact.ok]at this;cases v with
    | im u =>
     cases u<;>first|(cases h; done)|skip
     all_goals
      cases h;simp[this,AV.den]
    | _=>cases h
theorem fP {P:Program} {o:Oper} {a:Act} {w w':World} {K:Act→World→Prop} {Q:Exit→Act→World→Prop} {v:Value} (h:(execOp a.eval o).run P w=.ok (.value v) w') (hK:K (a.put o.dst v) w'):o.wp P a w K Q:=by
 unfold Oper.wp;rw[h];exact hK
theorem VF {base:Nat} {β:Nat→Bk} {a:Act} {w:World} {M:List Fact} (hM:∀φ∈M,φ.ok base β a w) {k b:Nat} (hat:(β k).1=b∧(β k).2.1=0) {v:AV} {p:List Prop} {c:CB} (h:Uu M k b v=some (p,c)) (hp:aS p):c.ok w b (v.den β):=by
 cases v with
 | im v=>cases h; rfl
 | fl l=>cases h; rfl
 | sl k' o n m =>
  unfold Uu at h;simp only at h;cases hb:Nat.beq k' k<;>rw[hb]at h
  ·simp only[cond_false]at h;split at h
   ·rename_i ow l b' hr ha;split at h
    ·rename_i r hd;cases h;obtain⟨h1,h2,_⟩:=hM _ (aX hr);obtain⟨e1,e2⟩:=hM _ (fS ha);obtain⟨q,e,hq⟩:=tV hd;refine⟨(β k').1,(β k').2.1+o,rfl,h1,by rw[e1]; exact hp.1,fun j u hj => ?_⟩;have:=h2 (o+j) u (by rw[e,aL,List.getElem?_append_right (by rw[aJ,hq]; omega),aJ,hq]; simpa using hj)
     rwa [←Nat.add_assoc]at this
    ·cases h
   ·cases h
  ·cases Nat.eq_of_beq_eq_true hb;cases h;show Value.slice (some ⟨(β _).1,(β _).2.1+o,none⟩) n m=_;rw[hat.1,hat.2,Nat.zero_add]
 | pt k' o =>
  unfold Uu at h;simp only at h;cases hb:Nat.beq k' k<;>rw[hb]at h
  ·cases h
  ·cases Nat.eq_of_beq_eq_true hb;cases h;show Value.pointer (some ⟨(β _).1,(β _).2.1+o,none⟩)=_;rw[hat.1,hat.2,Nat.zero_add]
 | _=>cases h
theorem wG {base:Nat} {β:Nat→Bk} {a:Act} {w:World} {M:List Fact} (hM:∀φ∈M,φ.ok base β a w) {k b:Nat} (hat:(β k).1=b∧(β k).2.1=0):∀{l:List AV} {p:List Prop} {cs:List CB},Bw M k b l=some (p,cs)→aS p→CBs w b cs (l.map (AV.den β))
 | [],p,cs,h,hp=>by cases h; trivial
 | v::r,p,cs,h,hp=>by
  unfold Bw at h;split at h
  ·rename_i p1 c1 p2 c2 h1 h2;cases h;rw[dK]at hp;exact⟨VF hM hat h1 hp.1,wG hM hat h2 hp.2⟩
  ·cases h
theorem mS {w:World} {j:Option Nat} {b:Nat}:∀{l:List Value} {i:Nat} {p:List Prop} {cs:List CB},VG j b i l=(p,cs)→aS p→CBs w b cs l
 | [],i,p,cs,h,hp=>by cases h; trivial
 | v::r,i,p,cs,h,hp=>by
  unfold VG at h;cases hr:VG j b (i+1) r with
  | mk ps l =>
   rw[hr]at h;simp only at h;cases hb:iH j i<;>rw[hb]at h
   ·cases h;exact⟨rfl,mS hr hp⟩
   ·simp only[cond_true]at h;split at h
    ·cases h;exact⟨by rw[hp.1]; rfl,mS hr hp.2⟩
    ·cases h;exact⟨rfl,mS hr hp⟩
theorem CBs.app {w:World} {b:Nat}:∀{cs ds:List CB} {vs us:List Value},CBs w b cs vs→CBs w b ds us→CBs w b (cs++ds) (vs++us)
 | [],ds,[],us,_,h=>h
 | [],ds,_::_,us,h,_=>h.elim
 | c::cs,ds,[],us,h,_=>by cases c<;>exact h.elim
 | c::cs,ds,v::vs,us,h,h2=>⟨h.1,CBs.app h.2 h2⟩
end Go.Proofs.YtpjlhhpjpnacmaaGreat.Ex
