/- Jj15 -/
import Derived.Test.YtjeplinbleofnaaJj05
import Derived.Test.YtjeplinbleofnaaJj06
import Derived.Test.YtjeplinbleofnaaJj11
import Derived.Test.YtjeplinbleofnaaJj13
import Derived.Test.YtjeplinbleofnaaJj10
import Derived.Test.YtjeplinbleofnaaJj09
import Derived.Test.YtjeplinbleofnaaProg
set_option maxRecDepth 100000
set_option linter.unusedVariables false
set_option linter.unusedSimpArgs false
set_option linter.unnecessarySimpa false
noncomputable section
namespace Go.Proofs.Ytjeplinbleofnaa
open Go.Proofs.Try
theorem NS:cT 967:=aK 967 31 (by decide) (by decide) (by kernel_rfl)
theorem IB:cT 4139:=aK 4139 64 (by decide) (by decide) (by kernel_rfl)
theorem OA:cT 349:=aK 349 18 (by decide) (by decide) (by kernel_rfl)
theorem DH:cT 43189:=aK 43189 207 (by decide) (by decide) (by kernel_rfl)
theorem IG:cT 2837:=aK 2837 53 (by decide) (by decide) (by kernel_rfl)
theorem vF:Root 295049 3:=by
 refine aT (l:=[2,2,2,13,2837]) (by kernel_rfl) fun q hq => ?_
 simp only[List.mem_cons,List.not_mem_nil,or_false]at hq
 rcases hq with rfl|rfl|rfl|rfl|rfl
 ·exact aN
 ·exact aN
 ·exact aN
 ·exact pE
 ·exact IG
theorem yX:cT 295049:=vF.prm
theorem mO:Root 25485742523 2:=by
 refine aT (l:=[2,43189,295049]) (by kernel_rfl) fun q hq => ?_
 simp only[List.mem_cons,List.not_mem_nil,or_false]at hq
 rcases hq with rfl|rfl|rfl
 ·exact aN
 ·exact DH
 ·exact yX
theorem oD:cT 25485742523:=mO.prm
theorem hJ:Root 202795150404015601 7:=by
 refine aT (l:=[2,2,2,2,3,5,5,19,349,25485742523]) (by kernel_rfl) fun q hq => ?_
 simp only[List.mem_cons,List.not_mem_nil,or_false]at hq
 rcases hq with rfl|rfl|rfl|rfl|rfl|rfl|rfl|rfl|rfl|rfl
 ·exact aN
 ·exact aN
 ·exact aN
 ·exact aN
 ·exact dN
 ·exact fH
 ·exact fH
 ·exact mT
 ·exact OA
 ·exact oD
theorem iK:cT 202795150404015601:=hJ.prm
theorem fU:Root 431548080059745198929 3:=by
 refine aT (l:=[2,2,2,2,7,19,202795150404015601]) (by kernel_rfl) fun q hq => ?_
 simp only[List.mem_cons,List.not_mem_nil,or_false]at hq
 rcases hq with rfl|rfl|rfl|rfl|rfl|rfl|rfl
 ·exact aN
 ·exact aN
 ·exact aN
 ·exact aN
 ·exact pD
 ·exact mT
 ·exact iK
theorem gF:cT 431548080059745198929:=fU.prm
theorem eK:Root 32151195060611136810608359 3:=by
 refine aT (l:=[2,3,3,4139,431548080059745198929]) (by kernel_rfl) fun q hq => ?_
 simp only[List.mem_cons,List.not_mem_nil,or_false]at hq
 rcases hq with rfl|rfl|rfl|rfl|rfl
 ·exact aN
 ·exact dN
 ·exact dN
 ·exact IB
 ·exact gF
theorem eP:cT 32151195060611136810608359:=eK.prm
theorem HD:cT 6323:=aK 6323 79 (by decide) (by decide) (by kernel_rfl)
theorem OD:cT 257:=aK 257 16 (by decide) (by decide) (by kernel_rfl)
theorem vD:Root 336157 2:=by
 refine aT (l:=[2,2,3,109,257]) (by kernel_rfl) fun q hq => ?_
 simp only[List.mem_cons,List.not_mem_nil,or_false]at hq
 rcases hq with rfl|rfl|rfl|rfl|rfl
 ·exact aN
 ·exact aN
 ·exact dN
 ·exact BF
 ·exact OD
theorem yV:cT 336157:=vD.prm
theorem DJ:cT 33409:=aK 33409 182 (by decide) (by decide) (by kernel_rfl)
theorem TU:cT 23:=aK 23 4 (by decide) (by decide) (by kernel_rfl)
theorem NX:cT 521:=aK 521 22 (by decide) (by decide) (by kernel_rfl)
theorem DK:cT 27743:=aK 27743 166 (by decide) (by decide) (by kernel_rfl)
theorem OF:cT 139:=aK 139 11 (by decide) (by decide) (by kernel_rfl)
theorem vH:Root 128437 5:=by
 refine aT (l:=[2,2,3,7,11,139]) (by kernel_rfl) fun q hq => ?_
 simp only[List.mem_cons,List.not_mem_nil,or_false]at hq
 rcases hq with rfl|rfl|rfl|rfl|rfl|rfl
 ·exact aN
 ·exact aN
 ·exact dN
 ·exact pD
 ·exact mU
 ·exact OF
theorem yZ:cT 128437:=vH.prm
theorem vC:Root 513749 2:=by
 refine aT (l:=[2,2,128437]) (by kernel_rfl) fun q hq => ?_
 simp only[List.mem_cons,List.not_mem_nil,or_false]at hq
 rcases hq with rfl|rfl|rfl
 ·exact aN
 ·exact aN
 ·exact yZ
theorem yU:cT 513749:=vC.prm
theorem IJ:cT 1061:=aK 1061 32 (by decide) (by decide) (by kernel_rfl)
theorem qT:Root 10206821 2:=by
 refine aT (l:=[2,2,5,13,37,1061]) (by kernel_rfl) fun q hq => ?_
 simp only[List.mem_cons,List.not_mem_nil,or_false]at hq
 rcases hq with rfl|rfl|rfl|rfl|rfl|rfl
 ·exact aN
 ·exact aN
 ·exact fH
 ·exact pE
 ·exact IC
 ·exact IJ
theorem tG:cT 10206821:=qT.prm
theorem qS:Root 81654569 3:=by
 refine aT (l:=[2,2,2,10206821]) (by kernel_rfl) fun q hq => ?_
 simp only[List.mem_cons,List.not_mem_nil,or_false]at hq
 rcases hq with rfl|rfl|rfl|rfl
 ·exact aN
 ·exact aN
 ·exact aN
 ·exact tG
theorem tF:cT 81654569:=qS.prm
theorem fE:Root 27892051421815855583579 2:=by
 refine aT (l:=[2,23,521,27743,513749,81654569]) (by kernel_rfl) fun q hq => ?_
 simp only[List.mem_cons,List.not_mem_nil,or_false]at hq
 rcases hq with rfl|rfl|rfl|rfl|rfl|rfl
 ·exact aN
 ·exact TU
 ·exact NX
 ·exact DK
 ·exact yU
 ·exact tF
theorem fM:cT 27892051421815855583579:=fE.prm
theorem eC:Root 1863691091902891838383581623 5:=by
 refine aT (l:=[2,33409,27892051421815855583579]) (by kernel_rfl) fun q hq => ?_
 simp only[List.mem_cons,List.not_mem_nil,or_false]at hq
 rcases hq with rfl|rfl|rfl
 ·exact aN
 ·exact DJ
 ·exact fM
theorem eH:cT 1863691091902891838383581623:=eC.prm
theorem cP:Root 178259130663561045147472537592047227885001 14:=by
 refine aT (l:=[2,2,2,3,3,5,5,5,5,6323,336157,1863691091902891838383581623]) (by kernel_rfl) fun q hq => ?_
 simp only[List.mem_cons,List.not_mem_nil,or_false]at hq
 rcases hq with rfl|rfl|rfl|rfl|rfl|rfl|rfl|rfl|rfl|rfl|rfl|rfl
 ·exact aN
 ·exact aN
 ·exact aN
 ·exact dN
 ·exact dN
 ·exact fH
 ·exact fH
 ·exact fH
 ·exact fH
 ·exact HD
 ·exact yV
 ·exact eH
theorem cW:cT 178259130663561045147472537592047227885001:=cP.prm
theorem bE:Root 2736030358979909402780800718157159386076813972158567259200215660948447373041 31:=by
 refine aT (l:=[2,2,2,2,3,5,11,11,17,967,32151195060611136810608359,178259130663561045147472537592047227885001]) (by kernel_rfl) fun q hq => ?_
 simp only[List.mem_cons,List.not_mem_nil,or_false]at hq
 rcases hq with rfl|rfl|rfl|rfl|rfl|rfl|rfl|rfl|rfl|rfl|rfl|rfl
 ·exact aN
 ·exact aN
 ·exact aN
 ·exact aN
 ·exact dN
 ·exact fH
 ·exact mU
 ·exact mU
 ·exact IH
 ·exact NS
 ·exact eP
 ·exact cW
theorem bF:cT 2736030358979909402780800718157159386076813972158567259200215660948447373041:=bE.prm
end Go.Proofs.Ytjeplinbleofnaa
namespace Go.Proofs.Ytjeplinbleofnaa.Ex
open Go.Proofs.Try
open Go.RowKit
namespace AG
variable {G:Type} (A:AG G)
theorem cyclic2 {g:G} {N M:Nat} (hN:0<N) (h0:A.ns N g=A.zero) (h:∀k,0<k→k<N→A.ns k g≠A.zero)
  (code:G→Nat) (hc:∀P,code P<M) (hi:∀P Q,code P=code Q→P=Q) (hM:M<2*N) (P:G):∃k,P=A.ns k g:=by
 apply Classical.byContradiction;intro hP;have hsub:∀i j,j<N→A.ns i g=A.add P (A.ns j g)→False:=fun i j hj e=>by
  refine hP ⟨i+(N-j),?_⟩;rw[A.ns_add,e,A.assoc,A.ns_back h0 (Nat.le_of_lt hj),A.addz]
 obtain⟨f,hf⟩:∃f:Nat→Nat,∀i,f i=if i<N then code (A.ns i g)else code (A.add P (A.ns (i-N) g)):=⟨_,fun _=>rfl⟩
 have hlt:∀i,f i<M:=fun i=>by
  rw[hf];split
  ·exact hc _
  ·exact hc _
 have pg:=IP (2*N) f (fun i _=>Nat.lt_trans (hlt i) hM) (fun i j hi2 hj2 e=>by
  rw[hf,hf]at e
  by_cases i1:i<N
  ·rw[if_pos i1]at e
   by_cases j1:j<N
   ·rw[if_pos j1]at e;exact A.ns_inj h i1 j1 (hi _ _ e)
   ·rw[if_neg j1]at e;exact (hsub _ _ (by omega) (hi _ _ e)).elim
  ·rw[if_neg i1]at e
   by_cases j1:j<N
   ·rw[if_pos j1]at e;exact (hsub _ _ (by omega) (hi _ _ e.symm)).elim
   ·rw[if_neg j1]at e;have:=A.ns_inj h (i:=i-N) (j:=j-N) (by omega) (by omega) (A.cancel (hi _ _ e));omega) M hM
 obtain⟨i,_,hiM⟩:=pg;have:=hlt i;omega
end AG
def gX:Nat:=55855323439656697592146195207386424468439312131670331221298566499901785984
theorem PI:OnJ gX 9:=of_decide_eq_true (by kernel_rfl)
def JG:JP:=jp PI
def l8:Nat:=21888242871839275222246405745257275088614511777268538073601725287587578984328
def l4:Nat:=10944121435919637611123202872628637544307255888634269036800862643793789492164
theorem YJ:hU (QD (gX,9,1) l8 254 254)=true:=by kernel_rfl
theorem Fg:hU (QD (gX,9,1) l4 254 254)=false:=by kernel_rfl
theorem Ff:hU (QD (gX,9,1) 8 254 254)=false:=by kernel_rfl
theorem JZ:dC.grp.ns l8 JG=dC.grp.zero:=(fY (mI (dS PI) l8 254 (by decide))).1 YJ
theorem US:dC.grp.ns l4 JG≠dC.grp.zero:=fun h=>by
 have:=(fY (mI (dS PI) l4 254 (by decide))).2 h;rw[Fg]at this;cases this
theorem Cr:dC.grp.ns 8 JG≠dC.grp.zero:=fun h=>by
 have:=(fY (mI (dS PI) 8 254 (by decide))).2 h;rw[Ff]at this;cases this
theorem PJ (k:Nat) (hk:0<k) (hN:k<l8):dC.grp.ns k JG≠dC.grp.zero:=by
 refine dC.grp.exact (l:=[2,2,2,lJ]) (by decide) (fun q hq => ?_) JZ (fun q hq => ?_) k hk hN
 ·simp only[List.mem_cons,List.not_mem_nil,or_false]at hq
  rcases hq with rfl|rfl|rfl|rfl
  ·exact aN
  ·exact aN
  ·exact aN
  ·exact bF
 ·simp only[List.mem_cons,List.not_mem_nil,or_false]at hq
  rcases hq with rfl|rfl|rfl|rfl
  ·rw[show l8/2=l4 by decide]; exact US
  ·rw[show l8/2=l4 by decide]; exact US
  ·rw[show l8/2=l4 by decide]; exact US
  ·rw[show l8/lJ=8 by decide]; exact Cr
def xG (P:JP):Nat:=2*P.1.2.1+if 2*P.1.1.1<RM then 0 else 1
theorem LH (P:JP):xG P<2*RM:=by
 have:=P.1.2.2;unfold xG;split<;>omega
theorem VL (y:Fin RM):KR.sub aR (KR.mul dR (KR.mul y y))≠KR.zero:=fun h=>by
 have h1:aR=KR.mul dR (KR.mul y y):=jD h;have hs:KR.mul MU MU=aR:=of_decide_eq_true (by kernel_rfl)
 by_cases hy:y=KR.zero
 ·rw[hy,KR.zero_mul,KR.mul_zero]at h1;exact absurd (congrArg Fin.val h1) (by decide)
 ·have hi:=YW.inv _ hy;generalize OZ y=k at hi;refine Dv (KR.mul MU k) ?_;have e:KR.mul (KR.mul MU k) (KR.mul MU k)=KR.mul (KR.mul MU MU) (KR.mul k k):=aL KR (bI KR [MU,k]) (Z0*Z1*(Z0*Z1)) (Z0*Z0*(Z1*Z1)) (by kernel_rfl);have e2:KR.mul (KR.mul dR (KR.mul y y)) (KR.mul k k)=KR.mul dR (KR.mul (KR.mul y k) (KR.mul y k)):=aL KR (bI KR [dR,y,k]) (Z0*(Z1*Z1)*(Z2*Z2)) (Z0*(Z1*Z2*(Z1*Z2))) (by kernel_rfl);rw[e,hs,h1,e2,hi,KR.one_mul,KR.mul_one]
theorem Br {x1 x2 y:Fin RM} (h1:dG KR aR dR x1 y) (h2:dG KR aR dR x2 y):KR.mul x1 x1=KR.mul x2 x2:=by
 have h1:KR.add (KR.mul aR (KR.mul x1 x1)) (KR.mul y y)=KR.add KR.one (KR.mul dR (KR.mul (KR.mul x1 x1) (KR.mul y y))):=h1;have h2:KR.add (KR.mul aR (KR.mul x2 x2)) (KR.mul y y)=KR.add KR.one (KR.mul dR (KR.mul (KR.mul x2 x2) (KR.mul y y))):=h2;refine YW.cancel (VL y) ?_;generalize KR.mul x1 x1=u at h1 ⊢;generalize KR.mul x2 x2=v at h2 ⊢;generalize KR.mul y y=w at h1 h2 ⊢;exact iV (K:=KR) (c1:=KR.one) (c2:=(KR.neg KR.one)) h1 h2 (aL KR (bI KR [u,v,w,aR,dR]) ((Z3-Z4*Z2)*Z0-(Z3-Z4*Z2)*Z1) (RE.one*(Z3*Z0+Z2-(RE.one+Z4*(Z0*Z2)))+(-RE.one)*(Z3*Z1+Z2-(RE.one+Z4*(Z1*Z2)))) (by kernel_rfl))
theorem ET (P Q:JP) (h:xG P=xG Q):P=Q:=by
 obtain⟨⟨x1,y1⟩,h1⟩:=P;obtain⟨⟨x2,y2⟩,h2⟩:=Q;have h:2*y1.1+(if 2*x1.1<RM then 0 else 1)=2*y2.1+if 2*x2.1<RM then 0 else 1:=h
 have hy:y1=y2:=Fin.ext (by
  by_cases c1:2*x1.1<RM
  ·by_cases c2:2*x2.1<RM
   ·rw[if_pos c1,if_pos c2]at h; omega
   ·rw[if_pos c1,if_neg c2]at h; omega
  ·by_cases c2:2*x2.1<RM
   ·rw[if_neg c1,if_pos c2]at h; omega
   ·rw[if_neg c1,if_neg c2]at h; omega)
 subst hy;have hx:x1=x2:=by
  have hs:=congrArg Fin.val (Br h1 h2)
  rcases SM Bv GW x1.2 x2.2 hs with e|e
  ·exact Fin.ext e
  ·have l1:=x1.2;have l2:=x2.2
   by_cases c1:2*x1.1<RM
   ·by_cases c2:2*x2.1<RM
    ·omega
    ·rw[if_pos c1,if_neg c2]at h; omega
   ·by_cases c2:2*x2.1<RM
    ·rw[if_neg c1,if_pos c2]at h; omega
    ·have ho:RM%2=1:=by decide
     omega
 subst hx;rfl
theorem QK (P:JP):∃k,P=dC.grp.ns k JG :=
 dC.grp.cyclic2 (N:=l8) (M:=2*RM) (by decide) JZ PJ xG LH ET (by decide) P
theorem Dh (P:JP):dC.grp.ns l8 P=dC.grp.zero:=by
 obtain⟨k,rfl⟩:=QK P;rw[←dC.grp.ns_mul,Nat.mul_comm,dC.grp.ns_mul,JZ,dC.grp.ns_zero]
open Go.RowKit
def YQ:kH:=g2 oK oK fun x y=>([x<18446744073709551616,y<18446744073709551616],.many [.fl [.q (x+y)],.im (.int .u64 0)])
theorem ZL:∀cs pre r,YQ cs=some (pre,r)→aU pre→∀(args:List Value) (w:World),cE w cs args→bC prog 24 r args w :=
 pU (op:=fun x y=>([x<18446744073709551616,y<18446744073709551616],.many [.fl [.q (x+y)],.im (.int .u64 0)])) cJ cJ fun x y hp args w ha=>by
  match args,ha with
  | [v,u],ha =>
   have h1:v=.agg (aB [At.q x]).toArray:=ha.1;have h2:u=.agg (aB [At.q y]).toArray:=ha.2.1;subst h1; subst h2;have hx:x<aC:=Nat.lt_trans hp.1 (by decide);have hy:y<aC:=Nat.lt_trans hp.2.1 (by decide);have hs0:x+y<aC:=Nat.lt_of_lt_of_le (Nat.add_lt_add hp.1 hp.2.1) (by decide);refine (R1.refAdd_calls _ _ _ _ _ _ _ _ (cR x) (cR y) w).mono ?_
   rintro e w' ⟨s0,s1,s2,s3,c,rfl,hs,hc,hv,hb⟩
   rw[gS hx,gS hy]at hv;have hs2:x+y<115792089237316195423570985008687907853269984665640564039457584007913129639936:=hs0;obtain rfl:c=0:=by omega
   rw[Nat.mul_zero,Nat.add_zero]at hv;obtain⟨rfl,rfl,rfl,rfl⟩:=gN hs hs0 hv;exact⟨rfl,hb⟩
  | [],ha=>exact ha.elim
  | [_],ha=>exact ha.2.elim
  | _::_::_::_,ha=>exact ha.2.2.elim
def UU:kH
 | [.v (.fl l),.v (.im (.int .i64 (.ofNat k)))]=>match oK l with
  | some x=>some ([x<aC,k<256,x*2^k<aC],.one (.fl [.q (x*2^k)]))
  | none=>none
 | _=>none
theorem ZA:∀cs pre r,UU cs=some (pre,r)→aU pre→∀(args:List Value) (w:World),cE w cs args→bC prog 25 r args w:=by
 intro cs pre r hg hp args w ha;unfold UU at hg;split at hg
 ·rename_i l k;split at hg
  ·rename_i x hx;cases hg
   match args,ha with
   | [v,u],ha =>
    have h1:v=.agg (aB l).toArray:=ha.1;have h2:u=.int .i64 (Int.ofNat k):=ha.2.1;rw[cJ l _ hx]at h1;subst h1; subst h2;refine (R1.refShl_calls _ _ _ _ k (cR x) (Nat.le_trans (Nat.le_of_lt hp.2.1) (by decide)) w).mono ?_
    rintro e w' ⟨s0,s1,s2,s3,rfl,hs,hv,hb⟩
    rw[gS hp.1,Nat.mod_eq_of_lt hp.2.2.1]at hv;obtain⟨rfl,rfl,rfl,rfl⟩:=gN hs hp.2.2.1 hv;exact⟨rfl,hb⟩
   | [],ha=>exact ha.elim
   | [_],ha=>exact ha.2.elim
   | _::_::_::_,ha=>exact ha.2.2.elim
  ·cases hg
 ·cases hg
def VU (b:Bool):Tab:=(((((sK b).add 11 (KC true)).add 24 YQ).add 25 UU).add 21 (g0 (.one (.fl [.q lJ]))))
theorem RD (b:Bool):TabOk prog (VU b):=(((((pL b).ad func11 (oP kX true)).ad func24 ZL).ad func25 ZA).ad func21 (fZ kO))
def Fc (w:World) (n m:Nat):Ext:=xO w (fun _=>none) (assoc [(27,[.q n]),(34,[.q m]),(46,[.q n]),(48,[.q m])]) (fun _=>none)
theorem QH {n:Nat} (h:n<18446744073709551616):aB [At.c (Value.int .u64 (Int.ofNat n)),.c (.int .u64 0),.c (.int .u64 0),.c (.int .u64 0)]=aB [At.q n]:=by
 have e0:fw n 0=n:=by rw[Du]; exact Nat.mod_eq_of_lt h
 have e1:fw n 1=0:=by
  unfold fw;rw[Nat.pow_one,Nat.div_eq_of_lt h]
 have e2:fw n 2=0:=by
  unfold fw;rw[Nat.div_eq_of_lt (Nat.lt_of_lt_of_le h (by decide))]
 have e3:fw n 3=0:=by
  unfold fw;rw[Nat.div_eq_of_lt (Nat.lt_of_lt_of_le h (by decide))]
 show _=[Value.int .u64 (fw n 0:Nat),.int .u64 (fw n 1:Nat),.int .u64 (fw n 2:Nat),.int .u64 (fw n 3:Nat)];rw[e0,e1,e2,e3];rfl
theorem WK {n:Nat} (h:n<18446744073709551616):wv n=n:=gS (Nat.lt_trans h (by decide))
theorem Bs {n m:Nat} (hn:n<18446744073709551616) (hm:m<18446744073709551616):wv (n+m)=n+m:=gS (Nat.lt_of_lt_of_le (Nat.add_lt_add hn hm) (by decide))
theorem WL:wv (lJ*2^3)=l8:=by kernel_rfl
def Cj (p:NP) (n m:Nat):List Prop:=[p.1<aC,p.2<aC,bG p.1 p.2=true,aB [At.c (Value.int .u64 (Int.ofNat n)),.c (.int .u64 0),.c (.int .u64 0),.c (.int .u64 0)]=aB [At.q n],p.1<aC,p.2<aC,bG p.1 p.2=true,aB [At.c (Value.int .u64 (Int.ofNat m)),.c (.int .u64 0),.c (.int .u64 0),.c (.int .u64 0)]=aB [At.q m],p.1<aC,p.2<aC,bG p.1 p.2=true,(cL p n).1<aC,(cL p n).2<aC,(cL p m).1<aC,(cL p m).2<aC,(bG (cL p n).1 (cL p n).2&&bG (cL p m).1 (cL p m).2)=true,aB [At.c (Value.int .u64 (Int.ofNat n)),.c (.int .u64 0),.c (.int .u64 0),.c (.int .u64 0)]=aB [At.q n],aB [At.c (Value.int .u64 (Int.ofNat m)),.c (.int .u64 0),.c (.int .u64 0),.c (.int .u64 0)]=aB [At.q m],n<18446744073709551616,m<18446744073709551616,p.1<aC,p.2<aC,bG p.1 p.2=true,lJ<aC,3<256,lJ*2^3<aC,p.1<aC,p.2<aC,bG p.1 p.2=true,aB [At.q (cN (cL p n) (cL p m)).1,.q (cN (cL p n) (cL p m)).2]=aB [At.q (cL p (n+m)).1,.q (cL p (n+m)).2],aB [At.q (cL p (lJ*2^3)).1,.q (cL p (lJ*2^3)).2]=aB [At.q 0,.q 1]]
theorem Ch (w:World) (p:NP) (n m:Nat):bM prog { qG prog with x:=Fc w n m } (fun _=>⟨fun _=>VU true,fun _=>true,fun _=>none⟩) f5 120 [.v (.fl [.q p.1,.q p.2]),.v (.im (.int .u64 (Int.ofNat n))),.v (.im (.int .u64 (Int.ofNat m)))]=some (Cj p n m,.one (.im (.bool true))):=by kernel_rfl
theorem Ci (p:NP) (n m:Nat):bM prog (qG prog) (fun _=>⟨fun _=>VU false,fun _=>true,fun _=>none⟩) f5 120 [.v (.fl [.q p.1,.q p.2]),.v (.im (.int .u64 (Int.ofNat n))),.v (.im (.int .u64 (Int.ofNat m)))]=some ([p.1<aC,p.2<aC,bG p.1 p.2=false],.one (.im (.bool true))):=by kernel_rfl
theorem UL (P:JP) (n m:Nat) (hn:n<18446744073709551616) (hm:m<18446744073709551616):aU (Cj (cj P) n m):=by
 unfold Cj;simp only[Cc,qY];exact⟨(fQ P).1,(fQ P).2,FO P,QH hn,(fQ P).1,(fQ P).2,FO P,QH hm,(fQ P).1,(fQ P).2,FO P,(fQ (dC.grp.ns (wv n) P)).1,(fQ (dC.grp.ns (wv n) P)).2,(fQ (dC.grp.ns (wv m) P)).1,(fQ (dC.grp.ns (wv m) P)).2,VM (dC.grp.ns (wv n) P) (dC.grp.ns (wv m) P),QH hn,QH hm,hn,hm,(fQ P).1,(fQ P).2,FO P,by decide,by decide,by decide,(fQ P).1,(fQ P).2,FO P,by rw[←dC.grp.ns_add,WK hn,WK hm,Bs hn hm],by rw[WL,Dh P]; rfl,trivial⟩
theorem DV (p:NP) (n m:Nat) (hp:w2 p) (hn:n<18446744073709551616) (hm:m<18446744073709551616) (args:List Value) (w:World) (ha:cE w [.v (.fl [.q p.1,.q p.2]),.v (.im (.int .u64 (Int.ofNat n))),.v (.im (.int .u64 (Int.ofNat m)))] args):bC prog 5 (.one (.im (.bool true))) args w:=by
 cases h1:bG p.1 p.2
 ·exact aF aZ (fun _ _=>RD _) (aS _) func5 (Ci p n m) ⟨hp.1,hp.2,h1,trivial⟩ ha
 ·obtain⟨P,rfl⟩:=CH (dF.1 h1);exact nR aZ (fun _ _=>(RD _).w _ _) (QT w _ _ _) func5 (Ch w _ n m) (UL P n m hn hm) ha
theorem OV (p:NP) (hp:w2 p) (n:Nat) (hn:n<18446744073709551616) (m:Nat) (hm:m<18446744073709551616) (w:World):Calls prog 5 #[.agg (aB (q2 p)).toArray,.int .u64 (Int.ofNat n),.int .u64 (Int.ofNat m)] w (fun e w'=>e=.returned (.bool true)∧Below w.heap.size w w') :=
 DV p n m hp hn hm [_,_,_] w ⟨rfl,rfl,rfl,trivial⟩
end Go.Proofs.Ytjeplinbleofnaa.Ex
