/- Pt13 -/
import Derived.Test.YtjjnbgoepbiojaaPt10
import Derived.Test.YtjjnbgoepbiojaaPt11
import Derived.Test.YtjjnbgoepbiojaaProg
set_option maxRecDepth 100000
set_option linter.unusedVariables false
set_option linter.unusedSimpArgs false
set_option linter.unnecessarySimpa false
noncomputable section
namespace Go.Proofs.Ytjjnbgoepbiojaa.Ex
open Go.Proofs.Try
open Go.RowKit
theorem Good.cgr {P:Program} {f:FuncId} {r r':RV} {args:List Value} {w:World} (h:Good P f r args w) (e:r.den=r'.den):Good P f r' args w:=by
 unfold Good;rw[←e];exact h
def Cx (z:Int):Nat:=if eD z 28=true then cJ z.toNat else 0
def Zd (z:Int):Int:=if eD z 28=true then 0 else 71
theorem Gm (z:Int):(RV.many (Mi z)).den=(RV.many [.fl [.q (Cx z)],.im (iV (Zd z))]).den:=by
 unfold Mi Cx Zd
 by_cases h:eD z 28=true
 ·simp only[if_pos h]
 ·simp only[if_neg h]; kernel_rfl
def rD (z i:Int) (x:Nat):Nat :=
 if x<RM then if eD z 28=true then if 0≤i∧i<((2^z.toNat:Nat):Int)then if x=gJ (cJ z.toNat) i.toNat then 1 else yC z.toNat i.toNat x else 0 else 0 else 0
def LO (z i:Int) (x:Nat):Int :=
 if x<RM then if eD z 28=true then if 0≤i∧i<((2^z.toNat:Nat):Int)then if x=gJ (cJ z.toNat) i.toNat then 0 else 0 else 1 else 71 else 21
theorem YS (z i:Int) (x:Nat):(RV.many (FI z i x)).den=(RV.many [.fl [.q (rD z i x)],.im (iV (LO z i x))]).den:=by
 unfold FI rD LO
 by_cases h:x<RM
 ·simp only[if_pos h]
  by_cases h2:eD z 28=true
  ·simp only[if_pos h2]
   by_cases h3:0≤i∧i<((2^z.toNat:Nat):Int)
   ·simp only[if_pos h3]
    by_cases h4:x=gJ (cJ z.toNat) i.toNat
    ·simp only[if_pos h4]
    ·simp only[if_neg h4]
   ·simp only[if_neg h3]; kernel_rfl
  ·simp only[if_neg h2]; kernel_rfl
 ·simp only[if_neg h]; kernel_rfl
def ZS:iR
 | [.v (.im (.int .i64 z))]=>some ([],.many [.fl [.q (Cx z)],.im (iV (Zd z))])
 | _=>none
theorem JA {f:FuncId} (h:∀z args w,cF w [.v (.im (iV z))] args→Good prog f (.many (Mi z)) args w):∀cs pre r,ZS cs=some (pre,r)→aQ pre→∀(args:List Value) (w:World),cF w cs args→Good prog f r args w:=by
 intro cs pre r hg hp args w ha;unfold ZS at hg;split at hg
 ·cases hg;exact Good.cgr (h _ args w ha) (Gm _)
 ·cases hg
def ZY:iR
 | [.v (.im (.int .i64 z)),.v (.im (.int .i64 i)),.v (.fl l)]=>match jQ l with
  | some x=>some ([x<aT,i<9223372036854775808],.many [.fl [.q (rD z i x)],.im (iV (LO z i x))])
  | none=>none
 | _=>none
theorem JG {f:FuncId} (h:∀z i x w,x<aT→i<9223372036854775808→Good prog f (.many (FI z i x)) [iV z,iV i,.agg (aB [At.q x]).toArray] w):∀cs pre r,ZY cs=some (pre,r)→aQ pre→∀(args:List Value) (w:World),cF w cs args→Good prog f r args w:=by
 intro cs pre r hg hp args w ha;unfold ZY at hg;split at hg
 ·rename_i z i l;split at hg
  ·rename_i x hx;cases hg
   match args,ha with
   | [a1,a2,a3],ha =>
    have h1:a1=iV z:=ha.1;have h2:a2=iV i:=ha.2.1;have h3:a3=.agg (aB l).toArray:=ha.2.2.1;rw[bL l x hx]at h3;subst h1; subst h2; subst h3;exact Good.cgr (h z i x w hp.1 hp.2.1) (YS _ _ _)
   | [],ha=>exact ha.elim
   | [_],ha=>exact ha.2.elim
   | [_,_],ha=>exact ha.2.2.elim
   | _::_::_::_::_,ha=>exact ha.2.2.2.elim
  ·cases hg
 ·cases hg
def Xc (X:Nat→Int):Tab:=((((((TR.add 20 ZS).add 21 ZS).add 22 ZY).add 23 ZY).add 24 (Mq X)).add 25 (Mq X)).add 15 (g0 (.one (.im (.bool true))))
theorem Rc (X:Nat→Int):TabOk prog (Xc X):=((((((QD.add func20 (by kernel_rfl) (by kernel_rfl) (JA fun z args w ha=>(vI z args w ha).1)).add func21 (by kernel_rfl) (by kernel_rfl) (JA fun z args w ha=>(vI z args w ha).2)).add func22 (by kernel_rfl) (by kernel_rfl) (JG fun z i x w hx hi=>QR z i hx hi)).add func23 (by kernel_rfl) (by kernel_rfl) (JG fun z i x w hx hi=>OU z i hx hi _ ⟨rfl,rfl,rfl,trivial⟩)).add func24 (by kernel_rfl) (by kernel_rfl) (FO (qB X))).add func25 (by kernel_rfl) (by kernel_rfl) (FO (AJ X))).add func15 (by kernel_rfl) (by kernel_rfl) (BW qR)
theorem Dp (x y:Fin RM) (h:KR.mul x y=KR.zero):x=KR.zero∨y=KR.zero:=by
 have h1:cS x.1 y.1=0:=congrArg Fin.val h
 by_cases hx:x.1=0
 ·exact Or.inl (Fin.ext hx)
 ·by_cases hy:y.1=0
  ·exact Or.inr (Fin.ext hy)
  ·exact absurd h1 (xQ x.2 y.2 hx hy)
theorem vY:KR.one≠KR.neg KR.one:=fun h=>by
 have h1:(1:Nat)=(0+RM-1)%RM:=congrArg Fin.val h;revert h1;decide
theorem FA:∀n,nt KR KR.one n=bO n
 | 0=>zK.symm
 | n+1=>by
  show KR.add (nt KR KR.one n) KR.one=bO (n+1);rw[FA n];exact Fin.ext (by show (n%RM+1)%RM=(n+1)%RM; rw[Nat.mod_add_mod])
theorem rH {log:Nat} (h:log≤16):KR.mul (bO (fJ (2^log))) (nt KR KR.one (2^log))=KR.one:=by
 have hp2:2^log≤65536:=Nat.pow_le_pow_right (n:=2) (by omega) h;have hp1:0<2^log:=Nat.pow_pos (by omega);rw[FA,mL (by omega) (Nat.lt_of_le_of_lt hp2 (by decide))]
theorem uL {log:Nat} (h:log≤28):KR.mul (bO (fJ (cJ log))) (bO (cJ log))=KR.one:=mL (IE h) (eB _ _)
theorem AC {log:Nat} (h:log≤28):0<log→bD KR (bO (cJ log)) (2^(log-1))=KR.neg KR.one:=fun h0=>rJ h h0
theorem vQ {f:Nat→Fin RM} {x:Fin RM} {T:Nat}:∀d,(∀i,T≤i→i<T+d→f i=KR.zero)→lH KR f (T+d) x=lH KR f T x
 | 0,_=>rfl
 | d+1,h=>by
  show KR.add (lH KR f (T+d) x) (KR.mul (f (T+d)) _)=_;rw[vQ d (fun i h1 h2=>h i h1 (by omega)),h (T+d) (by omega) (by omega),KR.zero_mul,KR.add_zero]
theorem Bz {f:Nat→Nat} {T log x:Nat} (hf:bT T f) (hT:T≤2^log) (hl:log≤16) (hx:x<RM) (h0:x≠0) {j:Nat} (hj:j<2^log):lG (mT T f (cJ log) x) log x j=nZ f T j:=by
 have hlt:nZ f T j<RM:=by
  unfold nZ;split
  ·exact hf _ (by assumption)
  ·exact fD
 refine iW (cL _ _) hlt ?_;unfold lG;rw[dK,hJ,fX,fX,lM,KR.one_mul];have hF:∀i,i<2^log→bO (mT T f (cJ log) x i)=lH KR (fun m=>KR.mul (bO (nZ f T m)) (bD KR (bO x) m)) (2^log) (bD KR (bO (cJ log)) i):=fun i _=>by
  unfold mT;rw[hJ,fX];obtain⟨d,hd⟩:∃d,2^log=T+d:=⟨2^log-T,by omega⟩
  rw[hd,vQ d fun m h1 h2=>by unfold nZ; rw[if_neg (by omega),zK,KR.zero_mul]];refine bE KR T fun m hm => ?_
  show KR.mul (bO (f m)) _=KR.mul (KR.mul (bO (nZ f T m)) _) _;unfold nZ;rw[if_pos hm,KR.mul_assoc,fK KR (bO x)]
 rw[show lH KR (fun i=>bO (mT T f (cJ log) x i)) (2^log) (bD KR (bO (fJ (cJ log))) j)=lH KR (fun i=>lH KR (fun m=>KR.mul (bO (nZ f T m)) (bD KR (bO x) m)) (2^log) (bD KR (bO (cJ log)) i)) (2^log) (bD KR (bO (fJ (cJ log))) j)from jS KR _ hF,←KR.mul_assoc,
  aAH KR Dp vY rfl (AC (by omega)) (sM (by omega)) (uL (by omega)) (rH hl) _ hj,KR.mul_assoc,←fK,KR.mul_comm (bO x),mL h0 hx,eC,KR.mul_one]
def yB (log i x:Nat):Nat:=if x=gJ (cJ log) i then 1 else yC log i x
theorem Iv (log i x:Nat):yB log i x<RM:=by
 unfold yB;split
 ·exact nJ
 ·exact cL _ _
theorem YU {K:CR (Fin RM)} {p s x w S t i:Fin RM} (h1:K.mul i (K.mul p (K.add x (K.neg w)))=K.one) (h2:K.mul s p=K.one) (h3:K.mul (K.add x (K.neg w)) S=t):K.mul t i=K.mul s S:=by
 have e:K.mul (K.mul t i) (K.mul s p)=K.mul (K.mul (K.mul i (K.mul p (K.add x (K.neg w)))) S) s:=by
  rw[←h3];exact jA K (CH K [i,p,K.add x (K.neg w),S,s]) (Z2*Z3*Z0*(Z4*Z1)) (Z0*(Z1*Z2)*Z3*Z4) (by decide)
 rw[h1,h2,K.mul_one,K.one_mul]at e;rw[e,K.mul_comm]
theorem QQ {log i x:Nat} (hl:log≤16) (hi:i<2^log) (hx:x<RM):bO (yB log i x)=KR.mul (bO (fJ (2^log))) (bP KR (fun m=>bD KR (KR.mul (bD KR (bO (fJ (cJ log))) i) (bO x)) m) (2^log)):=by
 have bw:KR.mul (bD KR (bO (fJ (cJ log))) i) (bD KR (bO (cJ log)) i)=KR.one:=by rw[←fK,uL (by omega),eC]
 unfold yB
 by_cases e:x=gJ (cJ log) i
 ·rw[if_pos e,e,iU,bw,show bP KR (fun m=>bD KR KR.one m) (2^log)=bP KR (fun _=>KR.one) (2^log)from bE KR _ fun m _=>eC KR m,nG,rH hl,lM]
 ·rw[if_neg e];unfold yC;have hp2:2^log≤65536:=Nat.pow_le_pow_right (n:=2) (by omega) hl;have hp1:0<2^log:=Nat.pow_pos (by omega);have hw:=eB (cJ log) i;have h2R:2^log<RM:=Nat.lt_of_le_of_lt hp2 (by decide);have hnz:=xQ h2R (iK x (gJ (cJ log) i)) (by omega) (EF hx hw e);have hr:=mL hnz (cL _ _);rw[dK,dK,rI _ nJ,iU,iU,lM];rw[dK,rI _ hw,iU,←FA (2^log)]at hr;exact YU hr (rH hl) (Sv KR (sM (by omega)) (uL (by omega)) (bO x) i)
theorem YQ {v:Nat→Nat} {log x:Nat} (hl:log≤16) (hx:x<RM):bO (eO x (2^log) (lG v log 1) (2^log))=bP KR (fun i=>KR.mul (bO (yB log i x)) (bO (v i))) (2^log):=by
 have h11:bO (fJ 1)=KR.one:=by
  have:=mL (x:=1) (by omega) nJ
  rwa [lM,KR.mul_one]at this
 rw[hJ];have e1:lH KR (fun i=>bO (lG v log 1 i)) (2^log) (bO x)=KR.mul (lH KR (fun m=>lH KR (fun i=>bO (v i)) (2^log) (bD KR (bO (fJ (cJ log))) m)) (2^log) (bO x)) (bO (fJ (2^log))):=by
  show bP KR _ _=KR.mul (bP KR _ _) _;rw[fY];refine bE KR _ fun m _ => ?_
  show KR.mul (bO (cS (eO (fE 1 (fJ (cJ log)) m) (2^log) v (2^log)) (fE (fJ (2^log)) (fJ 1) m))) (bD KR (bO x) m)=KR.mul (KR.mul _ (bD KR (bO x) m)) _;rw[dK,hJ,fX,fX,lM,KR.one_mul,h11,eC,KR.mul_one,KR.mul_assoc,KR.mul_assoc,KR.mul_comm (bO (fJ (2^log)))]
 rw[e1,Sw KR (sM (by omega)) (uL (by omega)),fY];refine bE KR _ fun i hi => ?_
 rw[QQ hl hi hx,KR.mul_assoc,KR.mul_comm (bO (v i)),KR.mul_comm _ (bO (fJ (2^log)))]
theorem YR {log x:Nat} (hl:log≤16) (hx:x<RM):bP KR (fun i=>bO (yB log i x)) (2^log)=KR.one:=by
 have hp1:0<2^log:=Nat.pow_pos (by omega);have hb:=uL (log:=log) (by omega);have h0:=sM (log:=log) (by omega);have e:=Sw KR h0 hb (fun _=>KR.one) (bO x);have e2:∀m,m<2^log→lH KR (fun _=>KR.one) (2^log) (bD KR (bO (fJ (cJ log))) m)=if 0=m then nt KR KR.one (2^log)else KR.zero:=fun m hm=>by
  rw[←Qx KR Dp vY rfl (AC (by omega)) h0 hb hp1 hm];refine bE KR _ fun k _ => ?_
  show KR.mul KR.one _=KR.mul (bD KR KR.one k) _;rw[eC]
 have e3:lH KR (fun m=>lH KR (fun _=>KR.one) (2^log) (bD KR (bO (fJ (cJ log))) m)) (2^log) (bO x)=nt KR KR.one (2^log):=by
  rw[jS KR (bO x) e2];show bP KR (fun i=>KR.mul (if 0=i then nt KR KR.one (2^log)else KR.zero) (bD KR (bO x) i)) (2^log)=_;rw[sE KR (2^log) hp1 fun i _ hne=>by rw[if_neg (fun q=>hne q.symm),KR.zero_mul],if_pos rfl];exact KR.mul_one _
 rw[e3]at e;have e4:bP KR (fun i=>bO (yB log i x)) (2^log)=KR.mul (bO (fJ (2^log))) (bP KR (fun i=>KR.mul KR.one (bP KR (fun m=>bD KR (KR.mul (bD KR (bO (fJ (cJ log))) i) (bO x)) m) (2^log))) (2^log)):=by
  rw[nF];refine bE KR _ fun i hi => ?_
  rw[QQ hl hi hx,KR.one_mul]
 rw[e4,←e,rH hl]
def IB (g:Nat→Nat):Nat→Nat
 | 0=>0
 | n+1=>jB (IB g n) (g n)
theorem wX (g:Nat→Nat):∀n,IB g n<RM
 | 0=>fD
 | n+1=>nM _ _
theorem wQ (g:Nat→Nat):∀n,bO (IB g n)=bP KR (fun i=>bO (g i)) n
 | 0=>rfl
 | n+1=>by
  show bO (jB (IB g n) (g n))=KR.add _ _;rw[kC,wQ g n]
theorem BS (x N:Nat) (f:Nat→Nat):eO x (aF f N) f (aF f N)=eO x N f N:=by
 have h:=rN (x:=x) (cC f N) (lO f N) (aF f N) (Nat.le_refl _);rw[show N-aF f N+aF f N=N by have:=cC f N; omega]at h;exact h.symm
theorem QY {v:Nat→Nat} {log x:Nat} (hl:log≤16) (hx:x<RM):IB (fun i=>cS (yB log i x) (v i)) (2^log)=eO x (aF (lG v log 1) (2^log)) (lG v log 1) (aF (lG v log 1) (2^log)):=by
 rw[BS];refine iW (wX _ _) (fF _ _ _ _) ?_;rw[YQ hl hx,wQ];exact bE KR _ fun i _=>dK _ _
theorem QZ {log x:Nat} (hl:log≤16) (hx:x<RM):IB (fun i=>yB log i x) (2^log)=1:=by
 refine iW (wX _ _) nJ ?_;rw[wQ,YR hl hx,lM]
theorem Ps {log:Nat} (h:log+1≤28):cS (cJ (log+1)) (cJ (log+1))=cJ log:=by
 refine iW (cL _ _) (eB _ _) ?_;unfold cJ;rw[dK,iU,iU,←kG];have e1:=EI log (by omega);have e2:=EI (log+1) (by omega);have e3:(RM-1)/2^(log+1)+(RM-1)/2^(log+1)=(RM-1)/2^log:=by
  have hp1:0<2^log:=Nat.pow_pos (by omega);generalize (RM-1)/2^(log+1)=a at e2;generalize (RM-1)/2^log=b at e1;rw[Nat.pow_succ,Nat.mul_assoc,←e1]at e2;have:=Nat.eq_of_mul_eq_mul_left hp1 e2;omega
 rw[e3]
theorem Dl {x y N:Nat} {f:Nat→Nat}:∀k,k≤N→bO (eO y N f k)=KR.add (KR.mul (bO (eO y N (rE x N f N) k)) (KR.add (bO y) (KR.neg (bO x)))) (bO (eO x N f k))
 | 0,_=>by
  show bO 0=KR.add (KR.mul (bO 0) _) (bO 0);rw[zK,KR.zero_mul,KR.add_zero]
 | k+1,hk=>by
  show bO (jB (cS (eO y N f k) y) (f (N-1-k)))=KR.add (KR.mul (bO (jB (cS (eO y N (rE x N f N) k) y) (rE x N f N (N-1-k)))) _) (bO (jB (cS (eO x N f k) x) (f (N-1-k))));rw[yG N (N-1-k) (Nat.le_refl _) (by omega) (by omega),show N-1-(N-1-k)=k by omega,kC,dK,kC,dK,kC,dK,Dl k (by omega)];exact jA KR (CH KR [bO (eO y N (rE x N f N) k),bO y,bO x,bO (eO x N f k),bO (f (N-1-k))])
   ((Z0*(Z1-Z2)+Z3)*Z1+Z4)
   ((Z0*Z1+Z3)*(Z1-Z2)+(Z3*Z2+Z4)) (by decide)
theorem YL {x y N:Nat} {f:Nat→Nat} (hx:x<RM):eO y N f N=jB (cS (eO y (aF (rE x N f N) N) (rE x N f N) (aF (rE x N f N) N)) (lV y x)) (eO x N f N):=by
 refine iW (fF _ _ _ _) (nM _ _) ?_;rw[BS,kC,dK,rI _ hx];exact Dl N (Nat.le_refl _)
def Kh (v:Value) (N:Nat) (f:Nat→Nat):iR
 | [.v (.im u),.v (.fl r)]=>match jQ r with
  | some x=>some ([u=v,x<aT,fH N f x=0],.many [.fl [.q (eO x N f N)],.im (.int .i64 0)])
  | none=>none
 | _=>none
theorem JH {w:World} {v:Value} {N:Nat} {f:Nat→Nat} (hv:LV w v N f) (hN:N≤4611686018427387904):∀cs pre r,Kh v N f cs=some (pre,r)→aQ pre→∀(args:List Value),cF w cs args→Good prog 27 r args w:=by
 intro cs pre r hg hp args ha;unfold Kh at hg;split at hg
 ·rename_i u r0;split at hg
  ·rename_i x hx;cases hg
   match args,ha with
   | [a1,a3],ha =>
    have h1:a1=u:=ha.1;have h3:a3=.agg (aB r0).toArray:=ha.2.1;rw[bL r0 x hx]at h3;obtain⟨p1,p2,p3,_⟩:=hp;subst h1; subst h3; subst p1;exact (uB hv hN p2).2 p3
   | [],ha=>exact ha.elim
   | [_],ha=>exact ha.2.elim
   | _::_::_::_,ha=>exact ha.2.2.elim
  ·cases hg
 ·cases hg
def CZ:Tab:=Xc fun _=>0
theorem tD:TabOk prog CZ:=Rc _
def qF (num:Nat→Option Value) (_:Nat):Cfg:=⟨fun _=>CZ,fun _=>true,num⟩
def YI (u:Value) (n:Nat) (c:Nat→Nat) (num:Nat→Option Value) (_:Nat):Cfg:=⟨fun _=>CZ.add 27 (Kh u n c),fun _=>true,num⟩
def Ry:Code:=(f7.body).getD .skip
def Zz:Code:=cB Ry
def Ik:Code:=cB Zz
def Ij:Code:=cB Ik
def Xo:Code:=cB Ij
def Zy:Code:=cB Xo
def Xn:Code:=cB Zy
def Zx:Code:=cB Xn
def Zw:Code:=cB Zx
def Mo:Code:=cB Zw
def FH:Code:=gH (gH (cB (cA Xn)))
theorem YH:Ry=.seq (cA Ry) (.seq (cA Zz) (.seq (cA Ik) (.seq (.region 5 (aO (cA Ij)) false) (.seq (cA Xo) (.seq (cA Zy) (.seq (.seq (cA (cA Xn)) (.block 0 (.loop FH))) (.seq (cA Zx) (.seq (cA Zw) (.seq (cA Mo) (cB Mo)))))))))):=by kernel_rfl
def IR:List Fact:=[.slot 6 (.im (.bool true))]
theorem Rh (v:Value) (z:Int) (x:Nat):aH prog (qG prog) f7.ntmps (qF fun _=>none) 60 (cA Ry) (eF 0 [.v (.im v),.v (.im (iV z)),.v (.fl [.q x])]) (uT v z x)=some ([],.nrm,uT v z x):=by kernel_rfl
theorem Rg (v:Value) (z:Int) (x:Nat):aH prog (qG prog) f7.ntmps (qF fun _=>none) 60 (cA Zz) (uT v z x) (uT v z x)=some ([],.nrm,uT v z x):=by kernel_rfl
theorem Rp (v:Value) (z:Int) (x:Nat):aH prog (qG prog) f7.ntmps (qF (aE [(23,.bool true)])) 60 (cA Ik) (uT v z x) IR=some ([aD .lss .i64 z 0=some (.bool true)],.rt,IR):=by kernel_rfl
theorem Rm (v:Value) (z:Int) (x:Nat):aH prog (qG prog) f7.ntmps (qF (aE [(23,.bool false),(26,.bool true)])) 60 (cA Ik) (uT v z x) IR=some ([aD .lss .i64 z 0=some (.bool false),aD .gtr .i64 z 6=some (.bool true)],.rt,IR):=by kernel_rfl
def Xk (log N:Nat) (b:Bool):List Prop:=[aD .lss .i64 (Int.ofNat log) 0=some (.bool false),aD .gtr .i64 (Int.ofNat log) 6=some (.bool false),dD .shl 3 (.const (iI 1)) (.tmp 31) (iI 1) (iI log) (iI (2^log)),aD .neq .i64 (Int.ofNat N) (Int.ofNat (2^log))=some (.bool b)]
theorem Rl (p:Option Addr) (N m log x:Nat):aH prog { qG prog with x:=xG (aE [(32,iI (2^log))]) } f7.ntmps (qF (aE [(23,.bool false),(26,.bool false),(33,.bool true)])) 60 (cA Ik) (uT (.slice p N m) (Int.ofNat log) x) IR=some (Xk log N true,.rt,IR):=by kernel_rfl
theorem Rk (p:Option Addr) (N m log x:Nat):aH prog { qG prog with x:=xG (aE [(32,iI (2^log))]) } f7.ntmps (qF (aE [(23,.bool false),(26,.bool false),(33,.bool false),(38,.bool true)])) 60 (cA Ik) (uT (.slice p N m) (Int.ofNat log) x) IR=some (Xk log N false++[x<aT,Value.bool (!decide (x<RM))=.bool true],.rt,IR):=by kernel_rfl
theorem Zs (p:Option Addr) (N m log x:Nat):aH prog { qG prog with x:=xG (aE [(32,iI (2^log))]) } f7.ntmps (qF (aE [(23,.bool false),(26,.bool false),(33,.bool false),(38,.bool false)])) 60 (cA Ik) (uT (.slice p N m) (Int.ofNat log) x) (uT (.slice p N m) (Int.ofNat log) x)=some (Xk log N false++[x<aT,Value.bool (!decide (x<RM))=.bool false],.nrm,uT (.slice p N m) (Int.ofNat log) x):=by kernel_rfl
def Il:List At:=[.f ⟨1,by decide⟩]
theorem Ru (v:Value) (z:Int) (x b5:Nat):dR prog (qG prog) f7.ntmps bX ((aO (cA Ij)).extract 0 3) (.at 5 b5::uT v z x) (.slot 41 (.im v) :: .slot 42 (.im (iV z)) :: .slot 43 (.fl Il) :: .at 5 b5::uT v z x)=some ([],.slot 41 (.im v) :: .slot 42 (.im (iV z)) :: .slot 43 (.fl Il) :: .at 5 b5::uT v z x):=by kernel_rfl
def Xm (v u:Value) (z e:Int) (b5:Nat):List Fact:=[.slot 0 (.im v),.slot 1 (.im (iV z)),.slot 5 (.im (bZ b5 0)),.slot 7 (.im u),.slot 8 (.im (iV e))]
theorem Rt (v u:Value) (z e:Int) (b5:Nat):dR prog (qG prog) f7.ntmps bX ((aO (cA Ij)).extract 4 9) [.slot 44 (.tu [.im u,.im (iV e)]),.slot 44 (.im (.tuple #[u,iV e])),.slot 0 (.im v),.slot 1 (.im (iV z)),.slot 5 (.im (bZ b5 0))] (Xm v u z e b5)=some ([],Xm v u z e b5):=by kernel_rfl
theorem Rs (v u:Value) (z e:Int) (b5:Nat):aH prog (qG prog) f7.ntmps (qF (aE [(49,.bool true)])) 60 (cA Xo) (Xm v u z e b5) IR=some ([aD .neq .i64 e 0=some (.bool true)],.rt,IR):=by kernel_rfl
def Mn (v u:Value) (log b5:Nat):List Fact:=[.slot 0 (.im v),.slot 1 (.im (iI log)),.slot 5 (.im (bZ b5 0)),.slot 7 (.im u)]
theorem Rq (v u:Value) (log b5:Nat):aH prog (qG prog) f7.ntmps (qF fun _=>none) 60 (cA Xo) (Xm v u (Int.ofNat log) 0 b5) (Mn v u log b5)=some ([],.nrm,Mn v u log b5):=by kernel_rfl
def UE (v u:Value) (log b5:Nat) (s o:List At):List Fact:=.slot 9 (.pt 9 0) :: .row 9 true s :: .slot 10 (.pt 10 0) :: .row 10 true o::Mn v u log b5
theorem Zv (v u:Value) (log b5:Nat):aH prog (qG prog) f7.ntmps (qF fun _=>none) 60 (cA Zy) (Mn v u log b5) (UE v u log b5 iD iD)=some ([],.nrm,UE v u log b5 iD iD):=by kernel_rfl
def UD (v u:Value) (log b5:Nat) (s o:List At) (i:Nat):List Fact:=.slot 11 (.im (iI i))::UE v u log b5 s o
theorem Zu (v u:Value) (log b5:Nat) (s o:List At):aH prog (qG prog) f7.ntmps (qF fun _=>none) 60 (cA (cA Xn)) (UE v u log b5 s o) (UD v u log b5 s o 0)=some ([],.nrm,UD v u log b5 s o 0):=by kernel_rfl
theorem Rj (W:World) (b o' N m log b5 s o i x y:Nat) (u:Value):aH prog { qG prog with x:=xO W (aE [(73,i)]) (aE [(59,[.q x]),(74,[.q y])]) (fun _=>none) } f7.ntmps (qF (aE [(53,.bool true),(65,.bool false),(55,iI (i+1))])) 60 FH (UD (aZ b o' N m) u log b5 [.q s] [.q o] i) (UD (aZ b o' N m) u log b5 [.q (jB s (cS (rD (Int.ofNat log) (Int.ofNat i) x) y))] [.q (jB o (rD (Int.ofNat log) (Int.ofNat i) x))] (i+1)) =
  some ([aD .lss .i64 (Int.ofNat i) (Int.ofNat N)=some (.bool true),oldOf W b5 0 [.q x],cR [.q x]=4,x<aT,Int.ofNat i<9223372036854775808,aD .neq .i64 (LO (Int.ofNat log) (Int.ofNat i) x) 0=some (.bool false),o<RM,rD (Int.ofNat log) (Int.ofNat i) x<RM,Int.ofNat i=Int.ofNat i,i<N,oldOf W b (o'+i*4) [.q y],cR [.q y]=4,rD (Int.ofNat log) (Int.ofNat i) x<RM,y<RM,s<RM,cS (rD (Int.ofNat log) (Int.ofNat i) x) y<RM,aD .add .i64 (Int.ofNat i) 1=some (iI (i+1))],.nrm,UD (aZ b o' N m) u log b5 [.q (jB s (cS (rD (Int.ofNat log) (Int.ofNat i) x) y))] [.q (jB o (rD (Int.ofNat log) (Int.ofNat i) x))] (i+1)):=by kernel_rfl
theorem Zt (p:Option Addr) (N m log b5 i:Nat) (u:Value) (s o:List At):aH prog (qG prog) f7.ntmps (qF (aE [(53,.bool false)])) 60 FH (UD (.slice p N m) u log b5 s o i) (UE (.slice p N m) u log b5 s o)=some ([aD .lss .i64 (Int.ofNat i) (Int.ofNat N)=some (.bool false)],.ex 0,UE (.slice p N m) u log b5 s o):=by kernel_rfl
def UC (log a:Nat) (s o:List At):List Fact:=[.slot 9 (.pt 9 0),.row 9 true s,.slot 10 (.pt 10 0),.row 10 true o,.slot 14 (.pt 14 0),.row 14 true [.q a],.slot 1 (.im (iI log))]
theorem Rx (W:World) (v u:Value) (log b5 x n:Nat) (c:Nat→Nat) (s o:List At):aH prog { qG prog with x:=xO W (fun _=>none) (aE [(79,[.q x])]) (fun _=>none) } f7.ntmps (YI u n c fun _=>none) 60 (cA Zx) (UE v u log b5 s o) (UC log (eO x n c n) s o)=some ([oldOf W b5 0 [.q x],cR [.q x]=4,u=u,x<aT,fH n c x=0],.nrm,UC log (eO x n c n) s o):=by kernel_rfl
def Xl (log a w:Nat) (s o:List At):List Fact:=.slot 16 (.pt 16 0) :: .row 16 true [.q w]::UC log a s o
theorem Rw (log a:Nat) (s o:List At):aH prog (qG prog) f7.ntmps (qF fun _=>none) 60 (cA Zw) (UC log a s o) (Xl log a (Cx (Int.ofNat log)) s o)=some ([],.nrm,Xl log a (Cx (Int.ofNat log)) s o):=by kernel_rfl
theorem Ii (a w:Nat) (s o:List At):aH prog (qG prog) f7.ntmps (qF (aE [(89,.bool false)])) 60 (cA Mo) (Xl 0 a w s o) (UC 0 a s o)=some ([aD .gtr .i64 (Int.ofNat 0) 0=some (.bool false)],.nrm,UC 0 a s o):=by kernel_rfl
theorem Ih (k a w:Nat) (s o:List At):aH prog (qG prog) f7.ntmps (qF (aE [(89,.bool true),(92,iI k)])) 60 (cA Mo) (Xl (k+1) a w s o) (UC (k+1) a s o)=some ([aD .gtr .i64 (Int.ofNat (k+1)) 0=some (.bool true),aD .sub .i64 (Int.ofNat (k+1)) 1=some (iI k),w<RM,w<RM,aB [.q (cS w w)]=aB [.q (Cx (Int.ofNat k))]],.nrm,UC (k+1) a s o):=by kernel_rfl
theorem Rv (log a s:Nat) (o:Nat):aH prog (qG prog) f7.ntmps (qF fun _=>none) 60 (cB Mo) (UC log a [.q s] [.q o]) IR=some ([aB [.q o]=aB Il,aB [.q a]=aB [.q s]],.rt,IR):=by kernel_rfl
theorem YT {log i x:Nat} (hl:log≤28) (hi:i<2^log) (hx:x<RM):rD (Int.ofNat log) (Int.ofNat i) x=yB log i x∧LO (Int.ofNat log) (Int.ofNat i) x=0:=by
 have hd:eD (Int.ofNat log) 28=true:=jL.2 ⟨Int.natCast_nonneg _,by show (log:Int)≤28; omega⟩;have h3:0≤Int.ofNat i∧Int.ofNat i<((2^(Int.ofNat log).toNat:Nat):Int):=⟨Int.natCast_nonneg _,Int.ofNat_lt.2 hi⟩;unfold rD LO yB;rw[if_pos hx,if_pos hx,if_pos hd,if_pos hd,if_pos h3,if_pos h3];refine⟨rfl,?_⟩;split<;>rfl
theorem OQ {log:Nat} (hl:log≤28):Cx (Int.ofNat log)=cJ log:=by
 have hd:eD (Int.ofNat log) 28=true:=jL.2 ⟨Int.natCast_nonneg _,by show (log:Int)≤28; omega⟩;unfold Cx;rw[if_pos hd];rfl
theorem Uy {N:Nat} {f:Nat→Nat} {z:Int} {x:Nat} (hN:N≤2305843009213693952) (hx:x<aT):∃(n:Nat) (g:Nat→Nat),(qN N f z x=0→n=aF (lG f z.toNat x) (2^z.toNat)∧g=lG f z.toNat x) ∧
  (∀(w:World) (v:Value),LV w v N f→Calls prog 11 #[v,iV z,.agg (aB [At.q x]).toArray] w (Pr w n g (qN N f z x))):=by
 have k1:∀{w:World} {v:Value},LV w v N f→∃p m,v=.slice p N m:=fun h=>by obtain⟨p,m,e,_⟩:=h; exact⟨p,m,e⟩
 by_cases h:qN N f z x=0
 ·refine⟨_,_,fun _=>⟨rfl,rfl⟩,fun w v hv => ?_⟩;obtain⟨p,m,rfl⟩:=k1 hv;rw[h];exact (JQ hv hN hx).2 h
 ·refine⟨0,fun _=>0,fun q=>absurd q h,fun w v hv => ?_⟩;obtain⟨p,m,rfl⟩:=k1 hv;exact (JQ hv hN hx).1 h
theorem Lg {N:Nat} {f:Nat→Nat} {z:Int} {x:Nat} (h:qN N f z x=0):gX N f z x=0∧N=2^z.toNat:=by
 unfold qN at h
 by_cases he:gX N f z x=0
 ·rw[if_neg (fun q=>q he)]at h
  by_cases hL:N=2^z.toNat
  ·exact⟨he,hL⟩
  ·rw[if_neg hL]at h; cases h
 ·rw[if_pos he]at h; exact absurd h he
theorem tM {w0:World} {v:Value} {N x:Nat} {f:Nat→Nat} (z:Int) (hv:LV w0 v N f) (hN:N≤2305843009213693952) (hx:x<aT):Good prog 7 (.one (.im (.bool true))) [v,iV z,.agg (aB [At.q x]).toArray] w0:=by
 have hT:∀(base:Nat) (w:World) (n d:Nat),TabOkW prog CZ base w:=fun _ _ _ _=>tD.w _ _
 have hP:∀(base:Nat) (w:World) (d:Nat),TabOkW prog dW base w:=fun _ _ _=>bG.w _ _
 have hG:∀(base:Nat) (w:World),bH prog (qG prog) base w:=fun _ _=>(aY _).w _ _
 obtain⟨p0,m0,rfl,hm0,h256,hmem⟩:=id hv;have out:∀{a:Act} {w:World},Holds f7.ntmps w0.heap.size w0 IR a w→bodyPost prog f7 (fun e w'=>e=.returned (RV.den (.one (.im (.bool true))))∧Below w0.heap.size w0 w') .ret a w:=fun hA=>aW (l:=[.im (.bool true)]) (r:=.one (.im (.bool true))) (by kernel_rfl) (by kernel_rfl) hA
 refine bJ func7 (cs:=[.v (.im (.slice p0 N m0)),.v (.im (iV z)),.v (.fl [.q x])]) (args:=[.slice p0 N m0,iV z,.agg (aB [At.q x]).toArray]) (c:=Ry) rfl ⟨rfl,rfl,rfl,trivial⟩ (Nat.le_of_ble_eq_true (by kernel_rfl)) fun a w hA => ?_
 rw[YH];refine wp_seq (aA aG (hT _ _) (hG _ _) (Rh _ z x) trivial hA fun a w hA => ?_);refine wp_seq (aA aG (hT _ _) (hG _ _) (Rg _ z x) trivial hA fun a w hA => ?_)
 by_cases h1:z<0
 ·exact wp_seq (aA aG (hT _ _) (hG _ _) (Rp _ z x) ⟨by rw[eN,decide_eq_true h1],trivial⟩ hA fun a w hA=>out hA)
 by_cases h2:z>6
 ·exact wp_seq (aA aG (hT _ _) (hG _ _) (Rm _ z x) ⟨by rw[eN,decide_eq_false h1],by rw[kS,decide_eq_true h2],trivial⟩ hA fun a w hA=>out hA)
 obtain⟨log,rfl⟩:∃n:Nat,z=Int.ofNat n:=⟨z.toNat,by show z=((z.toNat:Nat):Int); omega⟩
 have hl:log≤6:=by have:¬((log:Int)>6):=h2; omega
 have hp2:2^log≤64:=Nat.pow_le_pow_right (n:=2) (by omega) hl;have hp1:0<2^log:=Nat.pow_pos (by omega);have hpre:∀b,decide (N=2^log) = !b→aQ (Xk log N b):=fun b hb=>⟨by rw[eN,decide_eq_false h1],by rw[kS,decide_eq_false h2],gO (by omega),oL hb,trivial⟩
 by_cases h3:N=2^log
 ·by_cases h4:x<RM
  ·refine wp_seq (aA aG (hT _ _) (eP _ _ _) (Zs p0 N m0 log x) (aS.2 ⟨hpre false (by simp[h3]),hx,by rw[decide_eq_true h4]; rfl,trivial⟩) hA fun a w hA => ?_);subst h3;obtain⟨b5,hA⟩:=hA.at (k:=5) (l:=[.q x]) (by simp[uT]);obtain⟨n,c,hc,cc⟩:=Uy (f:=f) (z:=Int.ofNat log) hN (show 1<aT by decide);refine wp_seq (cD (l:=List.range' 0 ((aO (cA Ij)).extract 0 3).size++(3::(List.range' 4 ((aO (cA Ij)).extract 4 9).size++[]))) (by kernel_rfl) ?_);refine aL (c:=bX) (hP _ _) (hG _ _) (Ru _ _ x b5) trivial (by kernel_rfl) hA fun a w hA => ?_
   have o5:oldOf w b5 0 [.q x]:=hA.old (k:=5) (by simp[uT]) (by simp);obtain⟨o,ho,⟨ts,hoo⟩,hod,hog⟩:∃o,(aO (cA Ij))[3]?=some o∧(∃ts,o.op=.call ⟨.value (.func 11),#[.tmp 41,.tmp 42,.tmp 43],ts⟩)∧o.dst=some 44∧o.guard=none:=⟨_,rfl,⟨_,rfl⟩,rfl,rfl⟩
   refine kN hA ho hoo hod hog (Nat.le_of_ble_eq_true (by kernel_rfl)) (vs:=[.slice p0 (2^log) m0,iV (Int.ofNat log),.agg (aB [At.q 1]).toArray]) (by kernel_rfl) (ks:=[0,1,5]) (keep:=[(0,.im (.slice p0 (2^log) m0)),(1,.im (iV (Int.ofNat log))),(5,.im (bZ b5 0))]) rfl rfl (bK func11 (by kernel_rfl) (by kernel_rfl)) (cc w _ (hv.on hA.below)) fun e W hW => ?_
   obtain⟨u,rfl,hb,lu⟩:=hW;refine⟨_,rfl,fun a hF => ?_⟩;have hce:qN (2^log) f (Int.ofNat log) 1=0→bT (2^log) f:=fun h=>(iN (Lg h).1).2.1
   generalize qN (2^log) f (Int.ofNat log) 1=e at hc hF lu hce;have hF:Holds f7.ntmps W.heap.size W [.slot 44 (.im (.tuple #[u,iV e])),.slot 0 (.im (.slice p0 (2^log) m0)),.slot 1 (.im (iV (Int.ofNat log))),.slot 5 (.im (bZ b5 0))] a W:=hF;have hF:=hF.imTu (s:=44) (l:=[.im u,.im (iV e)]) (List.mem_of_getElem? (i:=0) rfl) rfl;have C:Below w0.heap.size w0 W:=hA.below.trans (hb.mono hA.below.size);have o5:oldOf W b5 0 [.q x]:=⟨Nat.lt_of_lt_of_le o5.1 hb.size,cI hb o5.1 o5.2⟩;have hv:=hv.on C;clear hA;refine aL (c:=bX) (hP _ _) (hG _ _) (Rt _ u _ e b5) trivial (by kernel_rfl) hF fun a w hA => ?_
   show (Code.seq _ _).wp _ _ _ _;have out2:∀{a:Act} {w:World},Holds f7.ntmps W.heap.size W IR a w→bodyPost prog f7 (fun e w'=>e=.returned (RV.den (.one (.im (.bool true))))∧Below w0.heap.size w0 w') .ret a w:=fun hA=>cH (aW (l:=[.im (.bool true)]) (r:=.one (.im (.bool true))) (by kernel_rfl) (by kernel_rfl) hA) fun e w h=>⟨h.1,C.trans (h.2.mono C.size)⟩
   by_cases he:e=0
   ·subst he;have hf:=hce rfl;obtain⟨rfl,rfl⟩:=hc rfl;rw[show (Int.ofNat log).toNat=log from rfl]at lu;have hle:=cC (lG f log 1) (2^log);refine wp_seq (aA aG (hT _ _) (hG _ _) (Rq _ u log b5) trivial hA fun a w hA => ?_);refine wp_seq (aA aG (hT _ _) (hG _ _) (Zv _ u log b5) trivial hA fun a w hA => ?_);refine wp_seq (wp_seq (aA aG (hT _ _) (hG _ _) (Zu _ u log b5 _ _) trivial hA fun a w hA => ?_));refine wp_block ?_;have hA:Holds f7.ntmps W.heap.size W (UD (.slice p0 (2^log) m0) u log b5 [.q 0] [.q 0] 0) a w:=by
     have z1:aB iD=aB [At.q 0]:=by kernel_rfl
     have h1:Holds f7.ntmps W.heap.size W [.row 9 true iD,.slot 11 (.im (iI 0)),.slot 9 (.pt 9 0),.slot 10 (.pt 10 0),.row 10 true iD,.slot 0 (.im (.slice p0 (2^log) m0)),.slot 1 (.im (iI log)),.slot 5 (.im (bZ b5 0)),.slot 7 (.im u)] a w:=hA.sub (by simp[UD,UE,Mn]);have h2:Holds f7.ntmps W.heap.size W [.row 10 true iD,.row 9 true [.q 0],.slot 11 (.im (iI 0)),.slot 9 (.pt 9 0),.slot 10 (.pt 10 0),.slot 0 (.im (.slice p0 (2^log) m0)),.slot 1 (.im (iI log)),.slot 5 (.im (bZ b5 0)),.slot 7 (.im u)] a w:=(h1.reflat z1).sub (by simp);exact (h2.reflat z1).sub (by simp[UD,UE,Mn])
    have hin:=fun i (hi:i<2^log)=>YT (x:=x) (show log≤28 by omega) hi h4
    obtain⟨b,o',rfl,hbv,hrv⟩:=hmem hp1;have hbv':=Nat.lt_of_lt_of_le hbv C.size;have hrv':=cI C hbv hrv;refine cE aG (fun i=>UD (aZ b o' (2^log) m0) u log b5 [.q (IB (fun i=>cS (yB log i x) (f i)) i)] [.q (IB (fun i=>yB log i x) i)] i) (2^log) (fun i hi => ?_) (.ex 0) (by simp) (UE (aZ b o' (2^log) m0) u log b5 [.q (IB (fun i=>cS (yB log i x) (f i)) (2^log))] [.q (IB (fun i=>yB log i x) (2^log))]) ⟨_,_,_,_,hG _ _,hT _ _,Zt _ _ m0 log b5 _ u _ _,dI (Nat.le_refl _),trivial⟩ hA fun a w hA => ?_
    ·obtain⟨i1,i2⟩:=hin i hi;have hrd:=Rj W b o' (2^log) m0 log b5 (IB (fun i=>cS (yB log i x) (f i)) i) (IB (fun i=>yB log i x) i) i x (f i) u;rw[i1,i2]at hrd;have l1:=Iv log i x;exact⟨_,_,_,_,cW W _ _ _,hT _ _,hrd,bV hi,o5,rfl,hx,(by show ((i:Nat):Int)<9223372036854775808; omega),rfl,wX _ _,l1,rfl,hi,dU hbv' hrv' hi,rfl,l1,hf i hi,wX _ _,cL _ _,eT (k:=1) (by omega),trivial⟩
    ·show (Code.seq _ _).wp _ _ _ _;have hcr:bT (aF (lG f log 1) (2^log)) (lG f log 1):=fun j _=>cL _ _
     have hck:fH (aF (lG f log 1) (2^log)) (lG f log 1) x=0:=by
      unfold fH;rw[if_pos (by omega),if_pos ⟨hcr,h4⟩]
     refine wp_seq (aA aG (fun _ _=>TabOkW.add (tD.w _ _) func27 (by kernel_rfl) (by kernel_rfl) fun w hw=>JH (lu.on hw) (by omega)) (cW W _ _ _) (Rx W _ u log b5 x _ _ _ _) ⟨o5,rfl,rfl,hx,hck,trivial⟩ hA fun a w hA => ?_);rw[←QY (v:=f) (by omega) h4,QZ (by omega) h4]at hA;refine wp_seq (aA aG (hT _ _) (hG _ _) (Rw log _ _ _) trivial hA fun a w hA => ?_);rw[OQ (by omega)]at hA;have last:∀{a:Act} {w:World},Holds f7.ntmps W.heap.size W (UC log (IB (fun i=>cS (yB log i x) (f i)) (2^log)) [.q (IB (fun i=>cS (yB log i x) (f i)) (2^log))] [.q 1]) a w→(cB Mo).wp prog (bodyPost prog f7 (fun e w'=>e=.returned (RV.den (.one (.im (.bool true))))∧Below w0.heap.size w0 w')) a w:=fun hA =>
      aA aG (hT _ _) (hG _ _) (Rv log _ _ 1) ⟨by kernel_rfl,rfl,trivial⟩ hA fun a w hA=>out2 hA
     cases log with
     | zero=>exact wp_seq (aA aG (hT _ _) (hG _ _) (Ii _ _ _ _) ⟨rfl,trivial⟩ hA fun a w hA=>last hA)
     | succ k=>exact wp_seq (aA aG (hT _ _) (hG _ _) (Ih k _ (cJ (k+1)) _ _) ⟨tF,nQ (by omega),eB _ _,eB _ _,by rw[Ps (by omega),OQ (by omega)],trivial⟩ hA fun a w hA=>last hA)
   ·exact wp_seq (aA aG (hT _ _) (hG _ _) (Rs _ u _ e b5) ⟨tG he,trivial⟩ hA fun a w hA=>out2 hA)
  ·exact wp_seq (aA aG (hT _ _) (eP _ _ _) (Rk p0 N m0 log x) (aS.2 ⟨hpre false (by simp[h3]),hx,by rw[decide_eq_false h4]; rfl,trivial⟩) hA fun a w hA=>out hA)
 ·exact wp_seq (aA aG (hT _ _) (eP _ _ _) (Rl p0 N m0 log x) (hpre true (by simp[h3])) hA fun a w hA=>out hA)
end Go.Proofs.Ytjjnbgoepbiojaa.Ex
