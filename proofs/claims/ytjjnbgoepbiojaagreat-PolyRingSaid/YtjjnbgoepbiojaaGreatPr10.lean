/- Pr10 -/
import Derived.Test.YtjjnbgoepbiojaaGreatPr09
import Derived.Test.YtjjnbgoepbiojaaGreatPr00
import Derived.Test.YtjjnbgoepbiojaaGreatPr07
import Derived.Test.YtjjnbgoepbiojaaGreatPr04
import Derived.Test.YtjjnbgoepbiojaaGreatPr05
import Derived.Test.YtjjnbgoepbiojaaGreatProg
set_option maxRecDepth 100000
set_option linter.unusedVariables false
set_option linter.unusedSimpArgs false
set_option linter.unnecessarySimpa false
noncomputable section
namespace Go.Proofs.YtjjnbgoepbiojaaGreat.Ex
open Go.Proofs.Tryz
open Go.RowKit
theorem PJ (x y:Nat):dH x y=dH y x:=by unfold dH; rw[Nat.add_comm]
theorem OR (x y:Nat):dF x y=dF y x:=by unfold dF; rw[Nat.mul_comm]
theorem zK (x:Nat):dF 0 x=0:=by unfold dF; rw[Nat.zero_mul,Nat.zero_mod]
theorem sC {x:Nat} (h:x<RM):dH 0 x=x:=by unfold dH; rw[Nat.zero_add,Nat.mod_eq_of_lt h]
theorem oK {f:Nat→Nat} {N T:Nat} (h1:T≤N) (h2:∀j,T≤j→j<N→f j=0) (h3:0<T→f (T-1)≠0):aF f N=T:=by
 have g1:=cI f N;have g2:=mW f N;have g3:=eR f N
 rcases Nat.lt_trichotomy (aF f N) T with h|h|h
 ·exact absurd (g2 (T-1) (by omega) (by omega)) (h3 (by omega))
 ·exact h
 ·exact absurd (h2 (aF f N-1) (by omega) (by omega)) (g3 (by omega))
theorem NF {f g:Nat→Nat} {N M:Nat} (h:∀j,j<N→j<M→f j=g j) (h1:∀j,M≤j→j<N→f j=0) (h2:∀j,N≤j→j<M→g j=0):aF f N=aF g M:=by
 have g1:=cI g M;have g2:=mW g M;have g3:=eR g M;have hle:aF g M≤N:=by
  rcases Nat.lt_or_ge N (aF g M)with q|q
  ·exact absurd (h2 (aF g M-1) (by omega) (by omega)) (g3 (by omega))
  ·exact q
 refine oK hle (fun j hj hN => ?_) fun h0 => ?_
 ·rcases Nat.lt_or_ge j M with q|q
  ·rw[h j hN q]; exact g2 j hj q
  ·exact h1 j q hN
 ·rw[h _ (by omega) (by omega)]; exact g3 h0
theorem qQ {x N L:Nat} {f:Nat→Nat} (hL:L≤N) (hz:∀j,L≤j→j<N→f j=0):∀k,k≤N-L→mO x N f k=0
 | 0,_=>rfl
 | k+1,h=>by
  show dH (dF (mO x N f k) x) (f (N-1-k))=0;rw[qQ hL hz k (by omega),zK,hz (N-1-k) (by omega) (by omega),sC fK]
theorem wX {x N L:Nat} {f:Nat→Nat} (hL:L≤N) (hz:∀j,L≤j→j<N→f j=0):∀k,k≤L→mO x N f (N-L+k)=mO x L f k
 | 0,_=>qQ hL hz _ (by omega)
 | k+1,h=>by
  show dH (dF (mO x N f (N-L+k)) x) (f (N-1-(N-L+k)))=dH (dF (mO x L f k) x) (f (L-1-k));rw[wX hL hz k (by omega),show N-1-(N-L+k)=L-1-k by omega]
theorem ER {x N:Nat} {f:Nat→Nat}:∀k j,k≤N→N-k≤j→j<N→Ik x N f k j=mO x N f (N-1-j)
 | 0,j,_,h1,h2=>by omega
 | k+1,j,hk,h1,h2=>by
  show cN (Ik x N f k) (N-1-k) (mO x N f k) j=_;unfold cN
  by_cases e:j=N-1-k
  ·rw[if_pos e,e,show N-1-(N-1-k)=k by omega]
  ·rw[if_neg e]; exact ER k j (by omega) (by omega) h2
theorem Ee {x L:Nat} {f:Nat→Nat} (hf:bD L f):∀p,p+1≤L→∀j,j<L→qV 1 x L f p j=if L-1-p≤j then mO x L f (L-j)else f j
 | 0,hp,j,hj=>by
  show f j=_
  by_cases e:L-1-0≤j
  ·have ej:j=L-1:=by omega
   rw[if_pos e,show L-j=0+1 by omega];show f j=dH (dF 0 x) (f (L-1-0));rw[zK,show L-1-0=j by omega,sC (hf j hj)]
  ·rw[if_neg e]
 | p+1,hp,j,hj=>by
  have ih:=Ee (x:=x) hf p (by omega);show cN (qV 1 x L f p) (L-1-1-p) (dH (qV 1 x L f p (L-1-1-p)) (dF x (qV 1 x L f p (L-1-1-p+1)))) j=_;unfold cN
  by_cases e:j=L-1-1-p
  ·rw[if_pos e,if_pos (by omega),ih (L-1-1-p) (by omega),if_neg (by omega),ih (L-1-1-p+1) (by omega),if_pos (by omega),show L-j=(p+1)+1 by omega,show L-(L-1-1-p+1)=p+1 by omega];show _=dH (dF (mO x L f (p+1)) x) (f (L-1-(p+1)));rw[PJ,OR,show L-1-(p+1)=L-1-1-p by omega]
  ·rw[if_neg e,ih j hj]
   by_cases e2:L-1-p≤j
   ·rw[if_pos e2,if_pos (by omega)]
   ·rw[if_neg e2,if_neg (by omega)]
theorem QU {x L:Nat} {f:Nat→Nat} (hf:bD L f) {j:Nat} (hj:j<L):UV x L f j=mO x L f (L-j):=by
 unfold UV;rw[Ee hf (L-1) (by omega) j hj,if_pos (by omega)]
theorem ZC {x N:Nat} {f:Nat→Nat} (hf:bD N f) :
  yF x (aF f N) f=aF (Ik x N f N) N∧(∀j,j<yF x (aF f N) f→vE x (aF f N) f j=Ik x N f N j)∧ZF x (aF f N) f=mO x N f N:=by
 have hle:=cI f N;have hz:=mW f N;generalize aF f N=L at hle hz;have hfL:bD L f:=fun j hj=>hf j (by omega)
 have hq:∀j,j<L-1→vE x L f j=Ik x N f N j:=fun j hj=>by
  unfold vE;rw[show min 1 L=1 by omega,QU hfL (by omega),ER N j (Nat.le_refl _) (by omega) (by omega),show N-1-j=N-L+(L-(1+j)) by omega,wX hle hz _ (by omega)]
 have hn:yF x L f=aF (Ik x N f N) N:=by
  unfold yF;refine NF (fun j h1 h2=>hq j (by omega)) (fun j h1 h2=>by omega) fun j h1 h2 => ?_
  rw[ER N j (Nat.le_refl _) (by omega) h2];exact qQ hle hz _ (by omega)
 refine⟨hn,fun j hj=>hq j ?_,?_⟩
 ·have:=cI (vE x L f) (L-min 1 L);have h2:yF x L f≤L-min 1 L:=this;omega
 ·unfold ZF
  by_cases h0:L=0
  ·subst h0;have:aF (UV x 0 f) (min 1 0)=0:=Nat.le_zero.1 (cI _ _);rw[this];have:=qQ (x:=x) hle hz N (by omega);rw[this];rfl
  ·have e:min 1 L=1:=by omega
   rw[e];have hG0:=QU (x:=x) hfL (j:=0) (by omega);have hN:mO x N f N=mO x L f L:=by
    have:=wX (x:=x) hle hz L (Nat.le_refl _);rw[show N-L+L=N by omega]at this;exact this
   rw[Nat.sub_zero]at hG0;rw[hN,←hG0];unfold aU;have z:=mW (UV x L f) 1 0
   by_cases h1:0<aF (UV x L f) 1
   ·rw[if_pos h1]
   ·rw[if_neg h1]; exact (z (by omega) (by omega)).symm
def Jr (v:Value) (N:Nat) (f:Nat→Nat):iP
 | [.v (.im u),.v (.fl r)]=>match lH r with
  | some x=>some ([u=v,x<bQ,fB N f x≠0],.many [.im (.slice none 0 0),.fl MH,.im (.int .i64 (fB N f x))])
  | none=>none
 | _=>none
theorem Ae {w:World} {v:Value} {N:Nat} {f:Nat→Nat} (hv:LV w v N f) (hN:N≤4611686018427387904):∀cs pre r,Jr v N f cs=some (pre,r)→aR pre→∀(args:List Value),cO w cs args→bI prog 36 r args w:=by
 intro cs pre r hg hp args ha;unfold Jr at hg;split at hg
 ·rename_i u r0;split at hg
  ·rename_i x hx;cases hg
   match args,ha with
   | [a1,a3],ha =>
    have h1:a1=u:=ha.1;have h3:a3=.agg (aB r0).toArray:=ha.2.1;rw[cG r0 x hx]at h3;obtain⟨p1,p2,p3,_⟩:=hp;subst h1; subst h3; subst p1;exact (sU hv hN p2).1 p3
   | [],ha=>exact ha.elim
   | [_],ha=>exact ha.2.elim
   | _::_::_::_,ha=>exact ha.2.2.elim
  ·cases hg
 ·cases hg
def Jq (v:Value) (N:Nat) (f:Nat→Nat):List CA→Option (List Prop×FR)
 | [.v (.im u),.v (.fl r)]=>match lH r with
  | some x=>some ([u=v,x<bQ,fB N f x=0],⟨aP (el (vE x (aF f N) f)) 0 (yF x (aF f N) f),yF x (aF f N) f,yF x (aF f N) f,[.fl [.q (ZF x (aF f N) f)],.im (.int .i64 0)]⟩)
  | none=>none
 | _=>none
theorem Ad {w:World} {v:Value} {N:Nat} {f:Nat→Nat} (hv:LV w v N f) (hN:N≤4611686018427387904):∀cs pre r,Jq v N f cs=some (pre,r)→aR pre→∀(args:List Value),cO w cs args→Calls prog 36 args.toArray w (fun e w'=>r.ok w e w'):=by
 intro cs pre r hg hp args ha;unfold Jq at hg;split at hg
 ·rename_i u r0;split at hg
  ·rename_i x hx;cases hg
   match args,ha with
   | [a1,a3],ha =>
    have h1:a1=u:=ha.1;have h3:a3=.agg (aB r0).toArray:=ha.2.1;rw[cG r0 x hx]at h3;obtain⟨p1,p2,p3,_⟩:=hp;subst h1; subst h3; subst p1;exact (sU hv hN p2).2 p3
   | [],ha=>exact ha.elim
   | [_],ha=>exact ha.2.elim
   | _::_::_::_,ha=>exact ha.2.2.elim
  ·cases hg
 ·cases hg
theorem WU (v:Value) (N:Nat) (f:Nat→Nat) (x:Nat):fH prog (qG prog) (fun _=>⟨fun _=>dB.add 36 (Jr v N f),fun _=>true,fun _=>none⟩) f17 60 [.v (.im v),.v (.fl [.q x])]=some ([v=v,x<bQ,fB N f x≠0],.many [.fl MH,.im (.int .i64 (fB N f x))]):=by kernel_rfl
theorem WT (v:Value) (N:Nat) (f:Nat→Nat) (x:Nat):fH prog { qG prog with x:=FY (lY.add 36 (Jq v N f)) } (cF fun _=>none) f17 60 [.v (.im v),.v (.fl [.q x])]=some ([v=v,x<bQ,fB N f x=0],.many [.fl [.q (ZF x (aF f N) f)],.im (.int .i64 0)]):=by kernel_rfl
theorem BD {w0:World} {v:Value} {N x:Nat} {f:Nat→Nat} (hv:LV w0 v N f) (hN:N≤4611686018427387904) (hx:x<bQ) :
  (fB N f x≠0→bI prog 17 (.many [.fl MH,.im (.int .i64 (fB N f x))]) [v,.agg (aB [At.q x]).toArray] w0) ∧
  (fB N f x=0→bI prog 17 (.many [.fl [.q (mO x N f N)],.im (.int .i64 0)]) [v,.agg (aB [At.q x]).toArray] w0):=by
 refine⟨fun h => ?_,fun h => ?_⟩
 ·exact bC aG (fun _ _=>TabOkW.add (aY.w _ _) func36 (by kernel_rfl) (by kernel_rfl) fun w hw=>Ae (hv.on hw) hN) ((bE _).w _ _) func17 (WU v N f x) ⟨rfl,hx,h,trivial⟩ (args:=[v,.agg (aB [At.q x]).toArray]) ⟨rfl,rfl,trivial⟩
 ·rw[←(ZC (x:=x) (pJ h).2.1).2.2];exact bC aG (fun _ _=>aY.w _ _) (fS fun w' hw=>(FrAt.none _ _).add func36 (by kernel_rfl) (by kernel_rfl) (Ad (hv.on hw) hN)) func17 (WT v N f x) ⟨rfl,hx,h,trivial⟩ (args:=[v,.agg (aB [At.q x]).toArray]) ⟨rfl,rfl,trivial⟩
def gS:Code:=(f37.body).getD .skip
def CK:Code:=fY (fY (cB (cA (cB (cB gS)))))
theorem VD:gS=.seq (cA gS) (.seq (cA (cB gS)) (.seq (.seq (cA (cA (cB (cB gS)))) (.block 0 (.loop CK))) (cB (cB (cB gS))))):=by kernel_rfl
def Mx (v:Value) (x:Nat):List Fact:=[.slot 0 (.im v),.slot 3 (.pt 3 0),.row 3 true [.q x],.slot 4 (.pt 4 0),.row 4 true MH]
def Ew (v:Value) (x:Nat) (l:List At):List Fact:=.row 5 true l :: .slot 5 (.pt 5 0)::Mx v x
def US (v:Value) (x:Nat) (l:List At) (z:Int):List Fact:=.row 5 true l :: .slot 5 (.pt 5 0) :: .slot 6 (.im (iV z))::Mx v x
theorem Mv (v:Value) (x:Nat):aH prog (qG prog) f37.ntmps (fE true fun _=>none) 40 (cA gS) (dX 0 [.v (.im v),.v (.fl [.q x])]) (Mx v x)=some ([],.nrm,Mx v x):=by kernel_rfl
theorem Mu (v:Value) (x:Nat):aH prog (qG prog) f37.ntmps (fE true fun _=>none) 40 (cA (cB gS)) (Mx v x) (Ew v x MH)=some ([],.nrm,Ew v x MH):=by kernel_rfl
theorem Mt (p:Option Addr) (N m x:Nat) (z:Int):aH prog (qG prog) f37.ntmps (fE true (aE [(9,iV z)])) 40 (cA (cA (cB (cB gS)))) (Ew (.slice p N m) x MH) (US (.slice p N m) x MH z)=some ([aC .sub .i64 (Int.ofNat N) 1=some (iV z)],.nrm,US (.slice p N m) x MH z):=by kernel_rfl
theorem Mw (w:World) (b o N m x i y r:Nat) (z:Int):aH prog { qG prog with x:=xO w (aE [(19,i)]) (aE [(20,[.q y])]) (fun _=>none) } f37.ntmps (fE true (aE [(11,.bool true),(13,iV z)])) 60 CK (US (aS b o N m) x [.q r] (Int.ofNat i)) (US (aS b o N m) x [.q (dH (dF r x) y)] z) =
  some ([aC .geq .i64 (Int.ofNat i) 0=some (.bool true),r<RM,x<RM,Int.ofNat i=Int.ofNat i,i<N,oldOf w b (o+i*4) [.q y],cL [.q y]=4,dF r x<RM,y<RM,aC .sub .i64 (Int.ofNat i) 1=some (iV z)],.nrm,US (aS b o N m) x [.q (dH (dF r x) y)] z):=by kernel_rfl
theorem Xp (v:Value) (x:Nat) (l:List At) (z:Int):aH prog (qG prog) f37.ntmps (fE true (aE [(11,.bool false)])) 60 CK (US v x l z) (Ew v x l)=some ([aC .geq .i64 z 0=some (.bool false)],.ex 0,Ew v x l):=by kernel_rfl
theorem Xo (v:Value) (x r:Nat):aH prog (qG prog) f37.ntmps (fE true fun _=>none) 60 (cB (cB (cB gS))) (Ew v x [.q r]) [.slot 4 (.pt 4 0),.row 4 true [.q r]]=some ([],.rt,[.slot 4 (.pt 4 0),.row 4 true [.q r]]):=by kernel_rfl
theorem MV {w0:World} {v:Value} {N x:Nat} {f:Nat→Nat} (hv:LV w0 v N f) (hN:N≤131072) (hf:bD N f) (hx:x<RM):bI prog 37 (.one (.fl [.q (mO x N f N)])) [v,.agg (aB [At.q x]).toArray] w0:=by
 have hG:bO prog (qG prog) w0.heap.size w0:=(bE _).w _ _;have hT:∀n d:Nat,TabOkW prog gY w0.heap.size w0:=fun _ _=>eP.w _ _
 obtain⟨p,m,rfl,hm,h256,hmem⟩:=id hv;refine bP func37 (cs:=[.v (.im (.slice p N m)),.v (.fl [.q x])]) (args:=[.slice p N m,.agg (aB [At.q x]).toArray]) (c:=gS) rfl ⟨rfl,rfl,trivial⟩ (Nat.le_of_ble_eq_true (by kernel_rfl)) fun a w1 hA => ?_
 rw[VD];refine wp_seq (aA aG hT hG (Mv _ x) trivial hA fun a w hA => ?_);refine wp_seq (aA aG hT hG (Mu _ x) trivial hA fun a w hA => ?_);refine wp_seq (wp_seq (aA aG hT hG (Mt _ N _ x (Int.ofNat N-1)) ⟨tC (by simp; omega) (by simp; omega),trivial⟩ hA fun a w hA => ?_));refine wp_block ?_;have hA:=hA.reflat (l':=[.q 0]) (by kernel_rfl);refine cH aG (fun k=>US (.slice p N m) x [.q (mO x N f k)] (Int.ofNat N-1-Int.ofNat k)) N (fun k hk => ?_) (.ex 0) (by simp) (Ew (.slice p N m) x [.q (mO x N f N)]) ⟨_,_,_,_,hG,hT,Xp _ x _ _,RF (by simp; omega),trivial⟩ (by
  have e:Int.ofNat N-1-Int.ofNat 0=Int.ofNat N-1:=by simp
  show Holds _ _ _ (US _ x [.q 0] (Int.ofNat N-1-Int.ofNat 0)) _ _;rw[e];exact hA) fun a w hA => ?_
 ·have hi:N-1-k<N:=by omega
  have ez:Int.ofNat N-1-Int.ofNat k=Int.ofNat (N-1-k):=by simp; omega
  have ez2:Int.ofNat N-1-Int.ofNat (k+1)=Int.ofNat (N-1-k)-1:=by simp; omega
  show Ok _ _ _ _ _ (US _ x _ (Int.ofNat N-1-Int.ofNat k)) _ (US _ x _ (Int.ofNat N-1-Int.ofNat (k+1)));rw[ez,ez2];have hb1 : -9223372036854775808≤Int.ofNat (N-1-k)-1:=by simp; omega
  have hb2:Int.ofNat (N-1-k)-1<9223372036854775808:=by simp; omega
  obtain⟨b,o,rfl,hb,hr⟩:=hmem (by omega);exact⟨_,_,_,_,cE w0 _ _ _,hT,Mw w0 b o N m x (N-1-k) (f (N-1-k)) (mO x N f k) _,Dv,RJ x N f k,hx,rfl,hi,cJ hb hr hi,rfl,eB _ _,hf _ hi,tC hb1 hb2,trivial⟩
 ·show (cB (cB (cB gS))).wp _ _ _ _;exact aA aG hT hG (Xo _ x _) trivial hA fun a w' hA=>bH (l:=[.fl [.q (mO x N f N)]]) (r:=.one (.fl [.q (mO x N f N)])) (by kernel_rfl) (by kernel_rfl) hA
theorem QA (x y k:Nat):(x ||| y)/2^k=x/2^k ||| y/2^k:=by
 rw[←Nat.shiftRight_eq_div_pow,←Nat.shiftRight_eq_div_pow,←Nat.shiftRight_eq_div_pow,Nat.shiftRight_or_distrib]
theorem uZ (x y k:Nat):(x ||| y)*2^k%4294967296=(x*2^k%4294967296) ||| (y*2^k%4294967296):=by
 rw[←Nat.shiftLeft_eq,←Nat.shiftLeft_eq,←Nat.shiftLeft_eq,Nat.shiftLeft_or_distrib];exact Nat.or_mod_two_pow (n:=32)
theorem Yx (a b c d:Nat):(a ||| b) ||| (c ||| d)=(a ||| c) ||| (b ||| d):=by
 rw[Nat.or_assoc,Nat.or_assoc,←Nat.or_assoc b,←Nat.or_assoc c,Nat.or_comm b c]
theorem wE (k m x y:Nat):eC k m (x ||| y)=eC k m x ||| eC k m y:=by
 unfold eC;rw[QA,Nat.and_or_distrib_right,Nat.and_or_distrib_right,uZ,Yx]
theorem XO (x y:Nat):qE (x ||| y)=qE x ||| qE y:=by
 unfold qE;rw[wE,QA,uZ,Yx]
theorem XM (x y:Nat):mY (x ||| y)=mY x ||| mY y:=by
 unfold mY;rw[wE,wE,wE,XO]
theorem PF:∀s,s<32→mY (2^s)=2^(31-s):=by decide +kernel
theorem Gw:mY 0=0:=by decide +kernel
theorem rY:∀s,s≤32→∀i,i<2^s→∃c,mY i=2^(32-s)*c∧(s<32→mY (2^s+i)=2^(32-s)*c+2^(31-s))
 | s,hs,i,hi=>by
  have h1:∃c,mY i=2^(32-s)*c:=by
   match s,hs,hi with
   | 0,_,hi =>
    have:i=0:=by simpa using hi
    subst this;exact⟨0,by rw[Gw,Nat.mul_zero]⟩
   | s+1,hs,hi =>
    have e2:2^(s+1)=2*2^s:=by rw[Nat.pow_succ,Nat.mul_comm]
    have e3:2^(32-s)=2*2^(32-(s+1)):=by rw[show 32-s=(32-(s+1))+1 by omega,Nat.pow_succ,Nat.mul_comm]
    rcases Nat.lt_or_ge i (2^s)with q|q
    ·obtain⟨c,h,_⟩:=rY s (by omega) i q;exact⟨2*c,by rw[h,e3,Nat.mul_comm 2,Nat.mul_assoc]⟩
    ·obtain⟨c,h,h2⟩:=rY s (by omega) (i-2^s) (by omega);have h2:=h2 (by omega);rw[show 2^s+(i-2^s)=i by omega]at h2;refine⟨2*c+1,?_⟩;rw[h2,e3,show 31-s=32-(s+1) by omega,Nat.mul_add,Nat.mul_one,Nat.mul_comm 2,Nat.mul_assoc]
  obtain⟨c,h⟩:=h1;refine⟨c,h,fun hs => ?_⟩;have e1:2^s+i=2^s ||| i:=by
   have:=Nat.two_pow_add_eq_or_of_lt hi 1
   rwa [Nat.mul_one]at this
  have hlt:2^(31-s)<2^(32-s):=Nat.pow_lt_pow_right (by omega) (by omega);rw[e1,XM,PF s hs,h,Nat.or_comm,Nat.two_pow_add_eq_or_of_lt hlt]
theorem Og:DB 0 0=0:=by decide +kernel
theorem NZ (s i:Nat) (hs:s<32) (hi:i<2^s):DB (s+1) i=2*DB s i∧DB (s+1) (2^s+i)=2*DB s i+1:=by
 obtain⟨c,h1,h2⟩:=rY s (by omega) i hi;have h2:=h2 hs;have hp:0<2^(32-s):=Nat.pow_pos (by omega);have hq:0<2^(31-s):=Nat.pow_pos (by omega);have e3:2^(32-s)=2^(31-s)*2:=by rw[show 32-s=(31-s)+1 by omega,Nat.pow_succ]
 unfold DB;rw[h2,h1,Nat.mul_div_cancel_left _ hp,show 32-(s+1)=31-s by omega,e3,Nat.mul_assoc];refine⟨Nat.mul_div_cancel_left _ hq,?_⟩;rw[show 2^(31-s)*(2*c)+2^(31-s)=2^(31-s)*(2*c+1) by rw[Nat.mul_add,Nat.mul_one],Nat.mul_div_cancel_left _ hq]
theorem DL:1<RM:=by decide
def KR:CR (Fin RM):=Zv RM DL
def cR (x:Nat):Fin RM:=⟨x%RM,Nat.mod_lt _ fK⟩
theorem qO (x y:Nat):cR (dH x y)=KR.add (cR x) (cR y):=Fin.ext (by
 show (x+y)%RM%RM=(x%RM+y%RM)%RM;rw[Nat.mod_mod,Nat.add_mod])
theorem hJ (x y:Nat):cR (dF x y)=KR.mul (cR x) (cR y):=Fin.ext (by
 show x*y%RM%RM=(x%RM)*(y%RM)%RM;rw[Nat.mod_mod,Nat.mul_mod])
theorem VL (x:Nat) {y:Nat} (hy:y<RM):cR (fD x y)=KR.add (cR x) (KR.neg (cR y)):=Fin.ext (by
 show (x+RM-y)%RM%RM=(x%RM+(0+RM-y%RM)%RM)%RM;rw[Nat.mod_mod,Nat.mod_eq_of_lt hy,Nat.mod_add_mod,Nat.add_mod_mod,show x+(0+RM-y)=x+RM-y by omega])
theorem GE {x:Nat} (h:x<RM):(cR x).1=x:=Nat.mod_eq_of_lt h
theorem vU {x y:Nat} (hx:x<RM) (hy:y<RM) (h:cR x=cR y):x=y:=by
 have:=congrArg Fin.val h
 rwa [GE hx,GE hy]at this
theorem GJ:cR 0=KR.zero:=rfl
theorem GI:cR 1=KR.one:=Fin.ext (Nat.mod_eq_of_lt DL)
theorem nL (x y:Nat):∀i,cR (gN x y i)=KR.mul (cR x) (bT KR (cR y) i)
 | 0=>(KR.mul_one _).symm
 | i+1=>by
  show cR (dF (gN x y i) y)=KR.mul _ (KR.mul _ _);rw[hJ,nL x y i,KR.mul_assoc]
theorem NC (x N:Nat) (f:Nat→Nat):∀k,k≤N→cR (mO x N f k)=oY KR (fun i=>cR (f (N-k+i))) k (cR x)
 | 0,_=>rfl
 | k+1,hk=>by
  show cR (dH (dF (mO x N f k) x) (f (N-1-k)))=cD KR (fun i=>KR.mul (cR (f (N-(k+1)+i))) (bT KR (cR x) i)) (k+1);rw[qO,hJ,NC x N f k (by omega),iE,KR.add_comm];show KR.add _ (KR.mul (cD KR _ k) _)=KR.add (KR.mul (cR (f (N-(k+1)+0))) KR.one) _;rw[KR.mul_one,show N-(k+1)+0=N-1-k by omega,gM];congr 1;refine bY KR k fun i hi => ?_
  show KR.mul (KR.mul (cR (f (N-k+i))) (bT KR (cR x) i)) (cR x)=KR.mul (cR (f (N-(k+1)+(i+1)))) (KR.mul (bT KR (cR x) i) (cR x));rw[KR.mul_assoc,show N-(k+1)+(i+1)=N-k+i by omega]
theorem GH (x N:Nat) (f:Nat→Nat):cR (mO x N f N)=oY KR (fun i=>cR (f i)) N (cR x):=by
 rw[NC x N f N (Nat.le_refl _)];exact mF KR _ fun i _=>by rw[Nat.sub_self,Nat.zero_add]
theorem pW {f:Nat→Nat} {lo hi step p:Nat} {tw:Nat→Nat}:∀j,(∀i,i<j→p≠lo+i∧p≠hi+i)→kO f lo hi step tw j p=f p
 | 0,_=>rfl
 | j+1,h=>by
  obtain⟨h1,h2⟩:=h j (by omega);show cN (cN (kO f lo hi step tw j) (lo+j) _) (hi+j) _ p=f p;rw[mV h2,mV h1];exact pW j fun i hi=>h i (by omega)
theorem Eg {f:Nat→Nat} {lo h step:Nat} {tw:Nat→Nat}:∀j i,j≤h→i<j→kO f lo (lo+h) step tw j (lo+i)=dH (f (lo+i)) (dF (f (lo+h+i)) (tw (i*step)))
 | j+1,i,hj,hi=>by
  show cN (cN (kO f lo (lo+h) step tw j) (lo+j) _) (lo+h+j) _ (lo+i)=_;rw[mV (by omega)]
  by_cases e:i=j
  ·subst e;unfold cN;rw[if_pos rfl,pW i fun k hk=>⟨by omega,by omega⟩,pW i fun k hk=>⟨by omega,by omega⟩]
  ·rw[mV (by omega)];exact Eg j i (by omega) (by omega)
theorem Eh {f:Nat→Nat} {lo h step:Nat} {tw:Nat→Nat}:∀j i,j≤h→i<j→kO f lo (lo+h) step tw j (lo+h+i)=fD (f (lo+i)) (dF (f (lo+h+i)) (tw (i*step)))
 | j+1,i,hj,hi=>by
  show cN (cN (kO f lo (lo+h) step tw j) (lo+j) _) (lo+h+j) _ (lo+h+i)=_
  by_cases e:i=j
  ·subst e;rw[show cN (cN (kO f lo (lo+h) step tw i) (lo+i) (dH (kO f lo (lo+h) step tw i (lo+i)) (dF (kO f lo (lo+h) step tw i (lo+h+i)) (tw (i*step))))) (lo+h+i) (fD (kO f lo (lo+h) step tw i (lo+i)) (dF (kO f lo (lo+h) step tw i (lo+h+i)) (tw (i*step)))) (lo+h+i)=_ from if_pos rfl,
    pW i fun k hk=>⟨by omega,by omega⟩,pW i fun k hk=>⟨by omega,by omega⟩]
  ·rw[mV (by omega),mV (by omega)];exact Eh j i (by omega) (by omega)
theorem yT {f:Nat→Nat} {half step p:Nat} {tw:Nat→Nat}:∀k,2*half*k≤p→yD f half step tw k p=f p
 | 0,_=>rfl
 | k+1,h=>by
  rw[Nat.mul_add,Nat.mul_one]at h;show kO (yD f half step tw k) (2*half*k) (2*half*k+half) step tw half p=f p;rw[pW half fun i hi=>⟨by omega,by omega⟩];exact yT k (by omega)
theorem Db {f:Nat→Nat} {half step:Nat} {tw:Nat→Nat} {c i:Nat} (hi:i<half):∀k,c<k→yD f half step tw k (2*half*c+i)=dH (f (2*half*c+i)) (dF (f (2*half*c+half+i)) (tw (i*step)))
 | k+1,h=>by
  show kO (yD f half step tw k) (2*half*k) (2*half*k+half) step tw half _=_
  by_cases e:c=k
  ·subst e;rw[Eg half i (Nat.le_refl _) hi,yT c (by omega),yT c (by omega)]
  ·have:2*half*(c+1)≤2*half*k:=Nat.mul_le_mul_left _ (by omega);rw[Nat.mul_add,Nat.mul_one]at this;rw[pW half fun j hj=>⟨by omega,by omega⟩];exact Db hi k (by omega)
theorem Dc {f:Nat→Nat} {half step:Nat} {tw:Nat→Nat} {c i:Nat} (hi:i<half):∀k,c<k→yD f half step tw k (2*half*c+half+i)=fD (f (2*half*c+i)) (dF (f (2*half*c+half+i)) (tw (i*step)))
 | k+1,h=>by
  show kO (yD f half step tw k) (2*half*k) (2*half*k+half) step tw half _=_
  by_cases e:c=k
  ·subst e;rw[Eh half i (Nat.le_refl _) hi,yT c (by omega),yT c (by omega)]
  ·have:2*half*(c+1)≤2*half*k:=Nat.mul_le_mul_left _ (by omega);rw[Nat.mul_add,Nat.mul_one]at this;rw[pW half fun j hj=>⟨by omega,by omega⟩];exact Dc hi k (by omega)
theorem VH (log s:Nat) (h:s+1≤log):2^log/2/2^s=2^(log-(s+1)):=by
 rw[Nat.div_div_eq_div_mul,show 2*2^s=2^(s+1) by rw[Nat.pow_succ,Nat.mul_comm]];exact Nat.pow_div h (by omega)
theorem AX {F:Nat→Nat} {log w:Nat} (hw:0<log→bT KR (cR w) (2^(log-1))=KR.neg KR.one):∀s,s≤log→∀k j,k<2^(log-s)→j<2^s →
  cR (uM F (2^log) (gN 1 w) s (2^s*k+j))=Ed KR (fun i=>cR (F i)) s (2^s*k) (bT KR (cR w) (j*2^(log-s)))
 | 0,_,k,j,hk,hj=>by
  have:j=0:=by simpa using hj
  subst this;rfl
 | s+1,hs,k,j,hk,hj=>by
  have e2:2^(s+1)=2*2^s:=by rw[Nat.pow_succ,Nat.mul_comm]
  have e3:2^(log-s)=2*2^(log-(s+1)):=by rw[show log-s=(log-(s+1))+1 by omega,Nat.pow_succ,Nat.mul_comm]
  have b0:2*2^s*k=2^s*(2*k):=by rw[Nat.mul_comm 2,Nat.mul_assoc]
  have b1:2*2^s*k+2^s=2^s*(2*k+1):=by rw[b0,Nat.mul_add,Nat.mul_one]
  have xx:∀i,KR.mul (bT KR (cR w) (i*2^(log-(s+1)))) (bT KR (cR w) (i*2^(log-(s+1))))=bT KR (cR w) (i*2^(log-s)):=fun i=>by
   rw[←jY,e3,←Nat.mul_add,show 2^(log-(s+1))+2^(log-(s+1))=2*2^(log-(s+1)) by omega]
  show cR (yD (uM F (2^log) (gN 1 w) s) (2^s) (2^log/2/2^s) (gN 1 w) (2^log/2/2^s) (2^(s+1)*k+j))=KR.add (Ed KR _ s (2^(s+1)*k) _) (KR.mul (Ed KR _ s (2^(s+1)*k+2^s) _) _);rw[VH log s hs,e2];have tw1:∀i,cR (gN 1 w i)=bT KR (cR w) i:=fun i=>by rw[nL,GI,KR.one_mul]
  rcases Nat.lt_or_ge j (2^s)with q|q
  ·rw[Db q _ hk,qO,hJ,tw1,b1,b0,AX hw s (by omega) (2*k) j (by omega) q,AX hw s (by omega) (2*k+1) j (by omega) q,xx]
  ·obtain⟨i,rfl⟩:∃i,j=2^s+i:=⟨j-2^s,by omega⟩
   have hi:i<2^s:=by omega
   rw[←Nat.add_assoc,Dc hi _ hk,VL _ (eB _ _),hJ,tw1,b1,b0,AX hw s (by omega) (2*k) i (by omega) hi,AX hw s (by omega) (2*k+1) i (by omega) hi];have hx:bT KR (cR w) ((2^s+i)*2^(log-(s+1)))=KR.neg (bT KR (cR w) (i*2^(log-(s+1)))):=by
    rw[Nat.add_mul,←Nat.pow_add,show s+(log-(s+1))=log-1 by omega,jY,hw (by omega),KR.neg_mul,KR.one_mul]
   rw[hx,KR.neg_mul,KR.mul_neg,KR.neg_neg,KR.mul_neg,xx]
theorem EY {f:Nat→Nat} {T log w:Nat} (hw:0<log→bT KR (cR w) (2^(log-1))=KR.neg KR.one) (hl:log≤16) (hT:T≤2^log) {j:Nat} (hj:j<2^log) :
  cR (uM (oG T f log) (2^log) (gN 1 w) log j)=oY KR (fun i=>cR (f i)) T (bT KR (cR w) j):=by
 have h:=AX (F:=oG T f log) hw log (Nat.le_refl _) 0 j (by rw[Nat.sub_self]; decide) hj;rw[Nat.mul_zero,Nat.zero_add,Nat.sub_self,Nat.pow_zero,Nat.mul_one]at h;rw[h,xR KR (rv:=DB) (L:=16) Og (fun s i hs hi=>NZ s i (by omega) hi) log _ (fun i=>cR (aU f T i)) 0 _ hl fun i hi=>by rw[Nat.zero_add]; rfl];obtain⟨d,hd⟩:∃d,2^log=T+d:=⟨2^log-T,by omega⟩
 rw[hd];clear h hw hT hj hd
 induction d with
 | zero=>exact mF KR _ fun i hi=>by unfold aU; rw[if_pos (show i<T from hi)]
 | succ d ih =>
  show KR.add (oY KR _ (T+d) _) (KR.mul (cR (aU f T (T+d))) _)=_;rw[ih];unfold aU;rw[if_neg (by omega),GJ,KR.zero_mul,KR.add_zero]
theorem Tx {f:Nat→Nat} {T log w:Nat} (hw:0<log→bT KR (cR w) (2^(log-1))=KR.neg KR.one) (hl:log≤16) (hT:T≤2^log) (hf:bD T f) {j:Nat} (hj:j<2^log) :
  uM (oG T f log) (2^log) (gN 1 w) log j=mO (gN 1 w j) T f T:=by
 refine vU (pF (N:=2^log) (fun i _ => ?_) log j hj) (RJ _ _ _ _) ?_
 ·unfold oG aU;split
  ·exact hf _ (by assumption)
  ·exact fK
 ·rw[EY hw hl hT hj,GH,nL,GI,KR.one_mul]
theorem mA (x:Nat):∀n,cR (x^n)=bT KR (cR x) n
 | 0=>GI
 | n+1=>by
  rw[show bT KR (cR x) (n+1)=KR.mul (bT KR (cR x) n) (cR x)from rfl,←mA x n,←hJ];exact Fin.ext (by show x^(n+1)%RM=x^n*x%RM%RM; rw[Nat.mod_mod,Nat.pow_succ])
theorem GF (x n:Nat):cR (Wv x n)=bT KR (cR x) n:=by
 rw[←mA];exact Fin.ext (Nat.mod_mod _ _)
theorem YO {e:Nat} (h:5^e%RM=RM-1):bT KR (cR 5) e=KR.neg KR.one:=by
 rw[←mA];refine Fin.ext ?_;show 5^e%RM=(0+RM-1)%RM;rw[h];decide
theorem Hp {e:Nat} (h:5^e%RM=1):bT KR (cR 5) e=KR.one:=by
 rw[←mA];exact Fin.ext h
theorem LJ:bT KR (cR 5) (RM/2)=KR.neg KR.one :=
 YO (e:=RM/2) (PW (n:=RM) (b:=5) (e:=RM/2) (v:=RM-1) (by decide) (by kernel_rfl))
theorem SK:bT KR (cR 5) (RM-1)=KR.one :=
 Hp (e:=RM-1) (PW (n:=RM) (b:=5) (e:=RM-1) (v:=1) (by decide) (by kernel_rfl))
theorem sF {log:Nat} (h:0<log):2^log=2^(log-1)*2:=by
 obtain⟨l,rfl⟩:∃l,log=l+1:=⟨log-1,by omega⟩
 rw[Nat.add_sub_cancel,Nat.pow_succ]
theorem Fw:∀log,log<29→2^log*((RM-1)/2^log)=RM-1:=by decide +kernel
theorem nP {log:Nat} (h:log≤28) (h0:0<log):bT KR (cR (oR log)) (2^(log-1))=KR.neg KR.one:=by
 unfold oR;rw[GF,←fV];have e:=Fw log (by omega);have e2:=sF h0;have e3:(RM-1)/2^log*2^(log-1)=RM/2:=by
  generalize (RM-1)/2^log=q at e;rw[e2,Nat.mul_assoc,Nat.mul_comm 2,←Nat.mul_assoc,Nat.mul_comm _ q]at e;generalize q*2^(log-1)=m at e;have:(RM-1)/2=RM/2:=by decide +kernel
  omega
 rw[e3,LJ]
theorem OL {log:Nat} (h:log≤28):bT KR (cR (oR log)) (2^log)=KR.one:=by
 by_cases h0:log=0
 ·subst h0;unfold oR;rw[GF,←fV,Nat.pow_zero,Nat.div_one,Nat.mul_one,SK]
 ·have:=nP h (by omega);rw[sF (by omega),fV,this];show KR.mul (KR.mul KR.one (KR.neg KR.one)) (KR.neg KR.one)=KR.one;rw[KR.one_mul,KR.neg_mul,KR.one_mul,KR.neg_neg]
def fL:Code:=(f4.body).getD .skip
theorem Bz:fL=.seq (cA fL) (.seq (cA (cB fL)) (.seq (.region 2 (aK (cA (cB (cB fL)))) false) .ret)):=by kernel_rfl
def cfF (v:Value):List Fact:=[.slot 0 (.im v),.slot 3 (.im (.slice none 0 0))]
theorem Uz (v:Value):aH prog (qG prog) f4.ntmps (cF fun _=>none) 40 (cA fL) (dX 0 [.v (.im v)]) [.slot 0 (.im v)]=some ([],.nrm,[.slot 0 (.im v)]):=by kernel_rfl
theorem Uy (v:Value):aH prog (qG prog) f4.ntmps (cF fun _=>none) 40 (cA (cB fL)) [.slot 0 (.im v)] (cfF v)=some ([],.nrm,cfF v):=by kernel_rfl
def Ek (v:Value):List Fact:=[.slot 4 (.im (.slice none 0 0)),.slot 5 (.im v)]
theorem Ux (v:Value):cP prog (qG prog) f4.ntmps bL ((aK (cA (cB (cB fL)))).extract 0 2) (cfF v) (Ek v)=some ([],Ek v):=by kernel_rfl
theorem Uw (T:Nat) (l:List At):cP prog (qG prog) f4.ntmps bL ((aK (cA (cB (cB fL)))).extract 3 4) [.slot 6 (.so 1000 T),.row 1000 true l,.app 1000 25 4 T] [.slot 2 (.so 1000 T),.row 1000 true l,.app 1000 25 4 T]=some ([],[.slot 2 (.so 1000 T),.row 1000 true l,.app 1000 25 4 T]):=by kernel_rfl
theorem Uv (v:Value):cP prog (qG prog) f4.ntmps bL ((aK (cA (cB (cB fL)))).extract 3 4) (.slot 6 (.im (.slice none 0 0))::Ek v) [.slot 2 (.im (.slice none 0 0))]=some ([],[.slot 2 (.im (.slice none 0 0))]):=by kernel_rfl
theorem La (T:Nat) (l:List At):rZ prog [.slot 2 (.so 1000 T),.row 1000 true l,.app 1000 25 4 T] f4.results.toList []=some ⟨l,T,25,4,true,[],[]⟩:=by
 have h:Nat.beq T T=true:=Nat.beq_refl T;show (bif Nat.beq T T then some (FS.mk l T 25 4 true [] [])else none)=_;rw[h];rfl
theorem UC {w:World} {p:Option Addr} {N m:Nat} {f:Nat→Nat} (hv:LV w (.slice p N m) N f) (h0:0<N) (hN:N*32≤140737488355328) (ty:TypeId) :
  ∃b cap w',(Builtin.append_ #[22,22] ty #[.slice none 0 0,.slice p N m]).run prog w=.ok (.slice (some ⟨b,0,none⟩) N cap) w'∧AppAt w' b 25 4 N cap∧w.heap.size≤b∧b<w'.heap.size∧w'.rangeAt b 0 (aB (aP (el f) 0 N))∧(∀j,w'.frozen? ⟨b,j,none⟩=false)∧Below w.heap.size w w'∧Shape w w':=by
 obtain⟨p',m',e,h2,h3,h4⟩:=hv;cases e;obtain⟨b,o,rfl,hb,hr⟩:=h4 h0;obtain⟨c,cap,w',hr',a1,a2,a3,a4,a5,a6,a7⟩:=nO (P:=prog) w (ty:=ty) Zw (Or.inl ⟨rfl,rfl,rfl⟩) (ad:=⟨b,o,none⟩) (m:=N) (c:=m) (news:=aB (aP (el f) 0 N)) (xY f N 0) (fun j v hj=>by
  have e:(⟨b,o,none⟩:Addr).add j=⟨b,o+j,none⟩:=by simp[Addr.add]
  rw[e];exact hr j v hj) (rC f N 0) h0 (by omega) (by unfold maxLen; omega)
 rw[Nat.zero_add]at hr' a1;refine⟨c,cap,w',hr',a1,?_,a2,a3,a4,(Below.refl w.heap.size w).grown a5 (Nat.le_refl _) (fun k hk=>by cases hk),a6⟩
 rcases a7 with h|⟨c0,h⟩
 ·exact h
 ·cases h
theorem BJ {w0:World} {p:Option Addr} {N m:Nat} {f:Nat→Nat} (hv:LV w0 (.slice p N m) N f) (hN:N*32≤140737488355328) (hp:p=none→m=0) :
  (N=0→bI prog 4 (.one (.im (.slice none 0 0))) [.slice p N m] w0) ∧
  (0<N→Calls prog 4 #[.slice p N m] w0 (fun e w'=>FS.ok ⟨aP (el f) 0 N,N,25,4,true,[],[]⟩ w0 e w')):=by
 have hG:bO prog (qG prog) w0.heap.size w0:=(bE _).w _ _;have hT:∀n d:Nat,TabOkW prog dB w0.heap.size w0:=fun _ _=>aY.w _ _
 have first:∀R:Ending→World→Prop,(∀a w,Holds f4.ntmps w0.heap.size w0 (Ek (.slice p N m)) a w→wpOps prog (aK (cA (cB (cB fL)))) (fun e a w=>match e with | .normal=>Code.ret.wp prog (bodyPost prog f4 R) a w|e=>bodyPost prog f4 R e a w) (2::(List.range' 3 ((aK (cA (cB (cB fL)))).extract 3 4).size++[])) a w)→Calls prog 4 #[.slice p N m] w0 R:=fun R hR=>by
  refine bP func4 (cs:=[.v (.im (.slice p N m))]) (args:=[.slice p N m]) (c:=fL) rfl ⟨rfl,trivial⟩ (Nat.le_of_ble_eq_true (by kernel_rfl)) fun a w' hA => ?_
  rw[Bz];refine wp_seq (aA aG hT hG (Uz _) trivial hA fun a w' hA => ?_);refine wp_seq (aA aG hT hG (Uy _) trivial hA fun a w' hA => ?_);refine wp_seq (bV (l:=List.range' 0 ((aK (cA (cB (cB fL)))).extract 0 2).size++(2::(List.range' 3 ((aK (cA (cB (cB fL)))).extract 3 4).size++[]))) (by kernel_rfl) ?_);exact aI (c:=bL) (hT 0) hG (Ux _) trivial (by kernel_rfl) hA fun a w1 hA=>hR a w1 hA
 obtain⟨o,ho,hoo,hod,hog⟩:∃o,(aK (cA (cB (cB fL))))[2]?=some o∧o.op=.call ⟨.builtin .append,#[.tmp 4,.tmp 5],#[22,22]⟩∧o.dst=some 6∧o.guard=none:=⟨_,rfl,rfl,rfl,rfl⟩
 refine⟨fun h0=>first _ fun a w hA => ?_,fun h0=>first _ fun a w hA => ?_⟩
 ·have h20:a.eval (.tmp 4)=.slice none 0 0:=by have:=hA.slot (s:=4) (v:=.slice none 0 0) (by simp[Ek]); simp[Act.eval,this]
  have h23:a.eval (.tmp 5)=.slice p 0 m:=by have:=hA.slot (s:=5) (v:=.slice p N m) (by simp[Ek]); rw[h0]at this; simp[Act.eval,this]
  obtain⟨w',hr,hb⟩:=BT (w:=w) hp o.type;have hrun:(execOp a.eval o).run prog w=.ok (.value (.slice none 0 0)) w':=by
   unfold execOp;simp only[hoo,resolve,invoke,builtin,Sem.run_bind,Sem.run_pure,Result.andThen_ok,List.map_toArray,List.map_cons,List.map_nil,h20,h23,hr]
  refine eD ho hog (gL hrun ?_);rw[hod];have hA:=hA.put hb (d:=6) (Nat.le_of_ble_eq_true (by kernel_rfl)) (.im (.slice none 0 0)) (nT (by kernel_rfl));exact aI (c:=bL) (hT 0) hG (Uv _) trivial (by kernel_rfl) hA fun a w1 hA=>wp_ret (bH (l:=[.im (.slice none 0 0)]) (r:=.one (.im (.slice none 0 0))) (by kernel_rfl) (by kernel_rfl) hA)
 ·have h20:a.eval (.tmp 4)=.slice none 0 0:=by have:=hA.slot (s:=4) (v:=.slice none 0 0) (by simp[Ek]); simp[Act.eval,this]
  have h23:a.eval (.tmp 5)=.slice p N m:=by have:=hA.slot (s:=5) (v:=.slice p N m) (by simp[Ek]); simp[Act.eval,this]
  obtain⟨b,cap,w',hr,a1,a2,a3,a4,a5,hb,hs⟩:=UC (hv.on hA.below) h0 hN o.type;have hrun:(execOp a.eval o).run prog w=.ok (.value (.slice (some ⟨b,0,none⟩) N cap)) w':=by
   unfold execOp;simp only[hoo,resolve,invoke,builtin,Sem.run_bind,Sem.run_pure,Result.andThen_ok,List.map_toArray,List.map_cons,List.map_nil,h20,h23,hr]
  refine eD ho hog (gL hrun ?_);rw[hod];have hsz:=hA.below.size;have hA:=hA.anewS (hA.below.trans (hb.mono hsz)) hs (Nat.le_trans hsz hb.size) (d:=6) (k:=1000) (Nat.le_of_ble_eq_true (by kernel_rfl)) (Nat.le_trans hsz a2) a3 a4 a5 a1 (by rw[show f4.ntmps=7 by kernel_rfl]; omega);exact aI (c:=bL) (hT 0) hG (Uw N _) trivial (by kernel_rfl) hA fun a w1 hA=>wp_ret (gE (La _ _) hA)
def AT (P:Program) (q:EqT) (C:Nat→Cfg) (fn:Func) (n:Nat) (cs:List CA):Option (List Prop×FR) :=
 match fn.body with
 | some c=>bif Nat.ble cs.length fn.ntmps then
   (match run P q fn.ntmps C n c (dX 0 cs)with
   | some (ps,.rt,A)=>match PH P A fn.results.toList with
    | some r=>some (ps,r)
    | none=>none
   | _=>none)else none
 | none=>none
theorem gD {P:Program} {q:EqT} {C:Nat→Cfg} {w:World} (hm:P.follows .mixedOrders=true) (hT:∀n d,TabOkW P ((C n).T d) w.heap.size w) (hq:bO P q w.heap.size w) {f:FuncId} {fn:Func} (hf:P.funcs[f]?=some fn) {n:Nat} {cs:List CA} {ps:List Prop} {r:FR}
  (h:AT P q C fn n cs=some (ps,r)) (hps:aR ps) {args:List Value} (ha:cO w cs args):Calls P f args.toArray w (fun e w'=>r.ok w e w'):=by
 unfold AT at h;split at h
 ·rename_i c hb;cases hle:Nat.ble cs.length fn.ntmps<;>rw[hle]at h
  ·cases h
  ·simp only[cond_true]at h;split at h
   ·rename_i ps' A hrun;split at h
    ·rename_i r' hr;cases h;exact bP hf hb ha (Nat.le_of_ble_eq_true hle) fun a w' hH=>(dD (P:=P) (q:=q) (nt:=fn.ntmps) (C:=C) hm hT hq n c _ A ps .rt a w' _ hrun hps hH fun a w' hA=>dE hr hA).1
    ·cases h
   ·cases h
 ·cases h
def ZR (v:Value) (N:Nat) (f:Nat→Nat):List CA→Option (List Prop×FR)
 | [.v (.im u),.v (.im (.int .i64 (.ofNat log))),.v (.fl r)]=>match lH r with
  | some x=>some ([u=v,log≤16,x<RM],⟨aP (el (uM (oG N f log) (2^log) (gN 1 x) log)) 0 (2^log),2^log,2^log,[]⟩)
  | none=>none
 | _=>none
theorem xF {w:World} {v:Value} {N:Nat} {f:Nat→Nat} (hv:LV w v N f) (hf:bD N f):∀cs pre r,ZR v N f cs=some (pre,r)→aR pre→∀(args:List Value),cO w cs args→Calls prog 58 args.toArray w (fun e w'=>r.ok w e w'):=by
 intro cs pre r hg hp args ha;unfold ZR at hg;split at hg
 ·rename_i u log r0;split at hg
  ·rename_i x hx;cases hg
   match args,ha with
   | [a1,a2,a3],ha =>
    have h1:a1=u:=ha.1;have h2:a2=iI log:=ha.2.1;have h3:a3=.agg (aB r0).toArray:=ha.2.2.1;have h4:=hp.1;rw[cG r0 x hx]at h3;subst h1; subst h2; subst h3; subst h4;exact yN hv hf hp.2.1 hp.2.2.1
   | [],ha=>exact ha.elim
   | [_],ha=>exact ha.2.elim
   | [_,_],ha=>exact ha.2.2.elim
   | _::_::_::_::_,ha=>exact ha.2.2.2.elim
  ·cases hg
 ·cases hg
theorem OM {log:Nat} (h:log≤28):oR log≠0:=fun e=>by
 have:=OL h;rw[e,GJ]at this;have hp:0<2^log:=Nat.pow_pos (by omega);obtain⟨k,hk⟩:∃k,2^log=k+1:=⟨2^log-1,by omega⟩
 rw[hk,PL]at this;have h2:=congrArg Fin.val this;revert h2;show (0:Nat)=1→False;omega
def uB (N:Nat) (f:Nat→Nat) (log:Nat):Nat→Nat:=uM (oG N f log) (2^log) (gN 1 (nQ (oR log))) log
def smC (v:Value) (N:Nat) (f:Nat→Nat):EqT:={ qG prog with x:=FY (lY.add 58 (ZR v N f)) }
theorem Fk (v:Value) (N log:Nat) (f:Nat→Nat):AT prog (smC v N f) (Oi true fun _=>none) f79 60 [.v (.im v),.v (.im (iI log))]=some ([log<9223372036854775808,oR log<RM,oR log≠0,v=v,log≤16,nQ (oR log)<RM],⟨aP (el (uB N f log)) 0 (2^log),2^log,2^log,[]⟩):=by kernel_rfl
theorem NU {w:World} {v:Value} {N log:Nat} {f:Nat→Nat} (hv:LV w v N f) (hf:bD N f) (hl:log≤16):Calls prog 79 #[v,iI log] w (fun e w'=>FR.ok ⟨aP (el (uB N f log)) 0 (2^log),2^log,2^log,[]⟩ w e w') :=
 gD aG (fun _ _=>pR.w _ _) (fS fun w' hw=>(FrAt.none _ _).add func58 (by kernel_rfl) (by kernel_rfl) (xF (hv.on hw) hf)) func79 (Fk v N log f) ⟨by omega,oS _ _,OM (by omega),rfl,hl,DJ _,trivial⟩ (args:=[v,iI log]) ⟨rfl,rfl,trivial⟩
theorem VU {log:Nat} {x y:Operand} (h:log≤28):dY .shl 23 x y (.int .u64 1) (iI log) (.int .u64 (Int.ofNat (2^log))):=fun w=>by
 have hp2:2^log≤268435456:=Nat.pow_le_pow_right (n:=2) (by omega) h;have e:(2:Int)^log%18446744073709551616=2^log:=by
  have e1:(2:Int)^log=((2^log:Nat):Int):=by simp
  rw[e1];exact Int.emod_eq_of_lt (Int.natCast_nonneg _) (by omega)
 simp[eqGuard,binOp,go_sem,iI,IntKind.wrap,IntKind.signed,IntKind.bits,Nat.min_eq_left (show log≤64 by omega),e]
theorem Fl (log:Nat):fH prog { qG prog with x:=xG (aE [(4,.int .u64 (Int.ofNat (2^log)))]) } (cF fun _=>none) f80 60 [.v (.im (iI log))]=some ([dY .shl 23 (.const (.int .u64 1)) (.tmp 3) (.int .u64 1) (iI log) (.int .u64 (Int.ofNat (2^log))),2^log<18446744073709551616,2^log<RM,2^log≠0],.one (.fl [.q (nQ (2^log))])):=by kernel_rfl
def Zm:iP
 | [.v (.im (.int .i64 (.ofNat log)))]=>some ([log≤28],.one (.fl [.q (nQ (2^log))]))
 | _=>none
theorem Ja:∀cs pre r,Zm cs=some (pre,r)→aR pre→∀(args:List Value) (w:World),cO w cs args→bI prog 80 r args w:=by
 intro cs pre r hg hp args w ha;unfold Zm at hg;split at hg
 ·rename_i log;cases hg;have hl:log≤28:=hp.1;have hp2:2^log≤268435456:=Nat.pow_le_pow_right (n:=2) (by omega) hl;have hp1:0<2^log:=Nat.pow_pos (by omega);exact bC aG (fun _ _=>aY.w _ _) (mL _ _ _) func80 (Fl log) ⟨VU hl,by omega,Nat.lt_of_le_of_lt hp2 (by decide),by omega,trivial⟩ ha
 ·cases hg
def Wn:Tab:=yC.add 80 Zm
theorem Qg:TabOk prog Wn:=pR.add func80 (by kernel_rfl) (by kernel_rfl) Ja
def Ip (N:Nat) (f:Nat→Nat):List CA→Option (List Prop×FR)
 | [.s l n m,.v (.fl a),.v (.fl b)]=>match lH a,lH b with
  | some x,some y=>some ([aB l=aB (aP (el f) 0 N),n=N,N≤m,bD N f,N≤131072,x<RM,y<RM],⟨aP (el (oH f x y)) 0 N,N,N,[]⟩)
  | _,_=>none
 | _=>none
theorem ZI {N:Nat} {f:Nat→Nat}:∀cs pre r,Ip N f cs=some (pre,r)→aR pre→∀(args:List Value) (w:World),cO w cs args→Calls prog 59 args.toArray w (fun e w'=>r.ok w e w'):=by
 intro cs pre r hg hp args w ha;unfold Ip at hg;split at hg
 ·rename_i l n m a b;split at hg
  ·rename_i x y hx hy;cases hg
   match args,ha with
   | [a1,a2,a3],ha =>
    have h2:a2=.agg (aB a).toArray:=ha.2.1;have h3:a3=.agg (aB b).toArray:=ha.2.2.1;rw[cG a x hx]at h2;rw[cG b y hy]at h3;subst h2; subst h3;obtain⟨p1,p2,p3,p4,p5,p6,p7,_⟩:=hp;exact yH (LV.ofS ha.1 p1 p2 p3 fun j hj=>dW (p4 j hj)) p5 p4 p6 p7
   | [],ha=>exact ha.elim
   | [_],ha=>exact ha.2.elim
   | [_,_],ha=>exact ha.2.2.elim
   | _::_::_::_::_,ha=>exact ha.2.2.2.elim
  ·cases hg
 ·cases hg
def RR (N:Nat) (f:Nat→Nat):List CA→Option (List Prop×FR)
 | [.s l n m]=>some ([aB l=aB (aP (el f) 0 N),n=N,N≤m,bD N f,N≤131072],⟨aP (el f) 0 (aF f N),aF f N,aF f N,[]⟩)
 | _=>none
theorem xC {N:Nat} {f:Nat→Nat}:∀cs pre r,RR N f cs=some (pre,r)→aR pre→∀(args:List Value) (w:World),cO w cs args→Calls prog 29 args.toArray w (fun e w'=>r.ok w e w'):=by
 intro cs pre r hg hp args w ha;unfold RR at hg;split at hg
 ·rename_i l n m;cases hg
  match args,ha with
  | [a1],ha =>
   obtain⟨p1,p2,p3,p4,p5,_⟩:=hp;exact rK (LV.ofS ha.1 p1 p2 p3 fun j hj=>dW (p4 j hj)) p5
  | [],ha=>exact ha.elim
  | _::_::_,ha=>exact ha.2.elim
 ·cases hg
def coZ (e:Int):List Fact:=[.slot 6 (.im (.slice none 0 0)),.slot 7 (.im (.int .i64 e))]
def shC (_:Nat):Cfg:=⟨fun _=>Wn,fun _=>true,fun _=>none⟩
theorem NI {N log:Nat} {f:Nat→Nat} (hf:bD N f) (M:Nat):bD M (oG N f log):=fun j _=>by
 unfold oG aU;split
 ·exact hf _ (by assumption)
 ·exact fK
theorem Nr {N log:Nat} {f:Nat→Nat} (hf:bD N f) (M:Nat):bD M (uB N f log):=pF (NI hf M) log
def ZG (A:List Fact) (s:Nat):Option TV:=match nB A s with
 | some (.im v)=>some (.im v)
 | some (.fl l)=>some (.fl l)
 | some (.pt k o)=>(match nG A k with|some b=>some (.im (aT b o))|none=>none)
 | some (.sl k o n m)=>(match nG A k with|some b=>some (.im (aS b o n m))|none=>none)
 | _=>none
def wT (A:List Fact):List Nat→Option (List (Nat×TV))
 | []=>some []
 | s::r=>match ZG A s,wT A r with|some t,some l=>some ((s,t)::l)|_,_=>none
def pL (A:List Fact):List Operand→Option (List Value)
 | []=>some []
 | .tmp s::r=>(match ZG A s,pL A r with|some t,some l=>some (t.den::l)|_,_=>none)
 | .const v::r=>(match pL A r with|some l=>some (v::l)|none=>none)
 | _=>none
section
variable {P:Program} {nt base:Nat} {w0 w:World} {A:List Fact} {a:Act}
theorem IJ (h:Holds nt base w0 A a w) {s:Nat} {t:TV} (e:ZG A s=some t):a.tmps[s]?=some t.den:=by
 obtain⟨β,g1,_⟩:=h.facts;unfold ZG at e;split at e
 ·rename_i v hv; cases e; exact g1 _ (cT hv)
 ·rename_i v hv; cases e; exact g1 _ (cT hv)
 ·rename_i k o hv;split at e
  ·rename_i b hb;cases e;have e1:a.tmps[s]?=some (.pointer (some ⟨(β k).1,(β k).2.1+o,none⟩)):=g1 _ (cT hv);have e2:=g1 _ (dN hb);simp only[Fact.ok]at e2;rw[e1,e2.1,e2.2,Nat.zero_add];rfl
  ·cases e
 ·rename_i k o n m hv;split at e
  ·rename_i b hb;cases e;have e1:a.tmps[s]?=some (.slice (some ⟨(β k).1,(β k).2.1+o,none⟩) n m):=g1 _ (cT hv);have e2:=g1 _ (dN hb);simp only[Fact.ok]at e2;rw[e1,e2.1,e2.2,Nat.zero_add];rfl
  ·cases e
 ·cases e
theorem vF (h:Holds nt base w0 A a w):∀{ks:List Nat} {l:List (Nat×TV)},wT A ks=some l→∀x∈l,x.1∈ks∧a.tmps[x.1]?=some x.2.den
 | [],l,e,x,hx=>by cases e; cases hx
 | s::r,l,e,x,hx=>by
  unfold wT at e;split at e
  ·rename_i t l' ht hl;cases e
   rcases List.mem_cons.1 hx with rfl|hx
   ·exact⟨List.mem_cons_self,IJ h ht⟩
   ·obtain⟨p1,p2⟩:=vF h hl x hx;exact⟨List.mem_cons_of_mem _ p1,p2⟩
  ·cases e
theorem pK (h:Holds nt base w0 A a w):∀{xs:List Operand} {vs:List Value},pL A xs=some vs→xs.map a.eval=vs
 | [],vs,e=>by cases e; rfl
 | .tmp s::r,vs,e=>by
  unfold pL at e;split at e
  ·rename_i t l ht hl;cases e;rw[List.map_cons,pK h hl];have:=IJ h ht;simp[Act.eval,this]
  ·cases e
 | .const v::r,vs,e=>by
  unfold pL at e;split at e
  ·rename_i l hl;cases e;rw[List.map_cons,pK h hl];rfl
  ·cases e
 | .func _::r,vs,e=>by cases e
theorem eK (h:Holds nt base w0 A a w) {big:Array Oper} {Q:Exit→Act→World→Prop} {R:List Nat} {i id d:Nat} {o:Oper} {xs:Array Operand} {ts:Array TypeId} {vs:List Value} {ks:List Nat} {keep:List (Nat×TV)} (ho:big[i]?=some o) (hoo:o.op=.call ⟨.value (.func id),xs,ts⟩) (hod:o.dst=some d) (hog:o.guard=none) (hd:d<nt) (hvs:pL A xs.toList=some vs) (hk:wT A ks=some keep) (hn:ks.all (fun s => !Nat.beq s d)=true)
  (he:∀xs w,(callFunc id xs).run P w=.ok (.enter id xs) w) {S:Ending→World→Prop} (hc:Calls P id vs.toArray w S)
  (hK:∀e w',S e w'→∃v,e=.returned v∧∀a',Holds nt w'.heap.size w' (kX ((d,.im v)::keep)) a' w'→wpOps P big Q R a' w'):wpOps P big Q (i::R) a w:=by
 refine eD ho hog (mT hoo (pK h hvs) (fun xs=>he xs _) hc fun e w' hS => ?_);obtain⟨v,rfl,hk'⟩:=hK e w' hS;refine⟨v,rfl,?_⟩;rw[hod];refine hk' _ ⟨by rw[eO]; exact h.defers,by rw[dK]; exact h.size,Below.refl _ _,Nat.le_refl _,fun _=>(w'.heap.size,0,0),fun φ hφ => ?_,fun k k' o' l1 l2 h1 => ?_,fun k l1 h1 => ?_,Nat.le_refl _,fun p h1 h2=>⟨rfl,rfl⟩,Shape.refl _⟩
 ·obtain⟨x,hx,rfl⟩:=gA hφ;show (a.put (some d) v).tmps[x.1]?=_;rw[TV.av_den]
  rcases List.mem_cons.1 hx with rfl|hx
  ·rw[eT _ _ _ (by rw[h.size]; exact hd)];rfl
  ·obtain⟨p1,p2⟩:=vF h hk x hx;have hne:x.1≠d:=fun e=>by
    have:=List.all_eq_true.1 hn _ p1;rw[e,Nat.beq_refl]at this;cases this
   rw[jD _ _ _ _ (fun e=>hne (Option.some.inj e).symm)];exact p2
 ·obtain⟨x,_,e⟩:=gA h1; cases e
 ·obtain⟨x,_,e⟩:=gA h1; cases e
end
theorem OQ {a b:Nat} (ha:a<RM) (hb:b<RM) (h1:a≠0) (h2:b≠0):dF a b≠0:=fun h=>by
 have hp:fI RM:=Qf;have hd:RM∣a*b:=Nat.dvd_of_mod_eq_zero h;have hc:Nat.Coprime RM a:=by
  rcases hp.2 (Nat.gcd RM a) (Nat.gcd_dvd_left _ _)with q|q
  ·exact q
  ·have h3:RM∣a:=by have:=Nat.gcd_dvd_right RM a; rw[q]at this; exact this
   have:=Nat.le_of_dvd (by omega) h3;omega
 have:=Nat.le_of_dvd (by omega) (hc.dvd_of_dvd_mul_left hd);omega
def qX (N:Nat) (f:Nat→Nat):Int:=if N≤65536 then (if bD N f then 0 else 21)else 72
theorem By (N:Nat) (f:Nat→Nat):Bx 1 (fun _=>N) (fun _=>f)=qX N f:=by
 have e1:jB 1 (fun _=>N)↔N≤65536:=⟨fun h=>h 0 (by omega),fun h j hj=>h⟩;have e2:jH 1 (fun _=>N) (fun _=>f)↔bD N f:=⟨fun h=>h 0 (by omega),fun h j hj=>h⟩;unfold Bx qX;simp only[e1,e2]
theorem TJ {N:Nat} {f:Nat→Nat} (h:qX N f=0):N≤65536∧bD N f:=by
 unfold qX at h;split at h
 ·rename_i h1;split at h
  ·rename_i h2; exact⟨h1,h2⟩
  ·cases h
 ·cases h
theorem Io (N:Nat) (f g:Nat→Nat):Dy 1 (fun _=>N) (fun _=>f) 0 g=qX N f:=by
 have e1:jB 1 (fun _=>N)↔N≤65536:=⟨fun h=>h 0 (by omega),fun h j hj=>h⟩;have e2:(jH 1 (fun _=>N) (fun _=>f)∧bD 0 g)↔bD N f:=⟨fun h=>h.1 0 (by omega),fun h=>⟨fun j hj=>h,fun j hj=>by omega⟩⟩;unfold Dy qX;simp only[e1,e2]
theorem LV.nil0 (w:World) (g:Nat→Nat):LV w (.slice none 0 0) 0 g:=⟨none,0,rfl,Nat.le_refl _,fun j hj=>by omega,fun h=>by omega⟩
def Ix (v:Value) (N:Nat) (f:Nat→Nat):List CA→Option (List Prop×FS)
 | [.v (.im u)]=>some ([u=v,0<aF f N],⟨aP (el f) 0 (aF f N),aF f N,25,4,true,[],[]⟩)
 | _=>none
def Iw (v:Value) (N:Nat) (f:Nat→Nat):iP
 | [.v (.im u)]=>some ([u=v,aF f N=0],.one (.im (.slice none 0 0)))
 | _=>none
theorem ZP {w:World} {p:Option Addr} {N m:Nat} {f:Nat→Nat} (hv:LV w (.slice p N m) N f) (hN:N≤131072) (hp:p=none→m=0):∀cs pre r,Ix (.slice p N m) N f cs=some (pre,r)→aR pre→∀(args:List Value),cO w cs args→Calls prog 25 args.toArray w (fun e w'=>r.ok w e w'):=by
 intro cs pre r hg hq args ha;unfold Ix at hg;split at hg
 ·cases hg
  match args,ha with
  | [a1],ha =>
   have h1:a1=_:=ha.1;have h2:=hq.1;subst h1; subst h2;exact (iD hv hN hp).2 hq.2.1
  | [],ha=>exact ha.elim
  | _::_::_,ha=>exact ha.2.elim
 ·cases hg
theorem ZO {w:World} {p:Option Addr} {N m:Nat} {f:Nat→Nat} (hv:LV w (.slice p N m) N f) (hN:N≤131072) (hp:p=none→m=0):∀cs pre r,Iw (.slice p N m) N f cs=some (pre,r)→aR pre→∀(args:List Value),cO w cs args→bI prog 25 r args w:=by
 intro cs pre r hg hq args ha;unfold Iw at hg;split at hg
 ·cases hg
  match args,ha with
  | [a1],ha =>
   have h1:a1=_:=ha.1;have h2:=hq.1;subst h1; subst h2;exact (iD hv hN hp).1 hq.2.1
  | [],ha=>exact ha.elim
  | _::_::_,ha=>exact ha.2.elim
 ·cases hg
theorem Holds.soSl {nt base:Nat} {w0:World} {A:List Fact} {a:Act} {w:World} (h:Holds nt base w0 A a w) {s k n e sz:Nat} {l:List At} (h1:Fact.slot s (.so k n)∈A) (h2:Fact.row k true l∈A) (h3:Fact.app k e sz n∈A):∃cap,n≤cap∧Holds nt base w0 (.slot s (.sl k 0 n cap)::A) a w:=by
 obtain⟨β,g1,g2,g3⟩:=h.facts;have e1:=g1 _ h1;obtain⟨_,_,e2,_⟩:=g1 _ h2;obtain⟨_,_,e3,_⟩:=g1 _ h3;have up:∀k1 o1 l1,Fact.row k1 o1 l1∈(Fact.slot s (.sl k 0 n (β k).2.2)::A)→Fact.row k1 o1 l1∈A:=fun k1 o1 l1 e=>by
  rcases List.mem_cons.1 e with e|e
  ·cases e
  ·exact e
 refine⟨(β k).2.2,e3,h.defers,h.size,h.below,h.heap,β,fun φ hφ => ?_,fun k1 k2 o2 l1 l2 q1 q2=>g2 k1 k2 o2 l1 l2 (up _ _ _ q1) (up _ _ _ q2),fun k1 l1 e=>g3.1 k1 l1 (up _ _ _ e),g3.2⟩
 rcases List.mem_cons.1 hφ with rfl|hφ
 ·exact e1
 ·exact g1 φ hφ
def TmL (w0:World) (n:Nat) (f:Nat→Nat) (e:Ending) (w':World):Prop:=∃p m,e=.returned (.slice p n m)∧Below w0.heap.size w0 w'∧LV w' (.slice p n m) n f
theorem Cy {w0:World} {p:Option Addr} {N m:Nat} {f:Nat→Nat} (hv:LV w0 (.slice p N m) N f) (hN:N≤131072) (hp:p=none→m=0):Calls prog 25 #[.slice p N m] w0 (TmL w0 (aF f N) f):=by
 have h256:∀j,j<aF f N→f j<bQ:=fun j hj=>by
  obtain⟨_,_,_,_,h,_⟩:=hv;exact h j (Nat.lt_of_lt_of_le hj (cI f N))
 by_cases h0:aF f N=0
 ·refine ((iD hv hN hp).1 h0).mono ?_
  rintro e w' ⟨rfl,hb⟩
  rw[h0];exact⟨none,0,rfl,hb,LV.nil0 w' f⟩
 ·refine ((iD hv hN hp).2 (by omega)).mono ?_
  rintro e w' ⟨b,cap,rfl,hb,h1,h2,h3,h4,h5⟩
  obtain⟨_,_,h6,_⟩:=h5 rfl;exact⟨some ⟨b,0,none⟩,cap,rfl,hb,some ⟨b,0,none⟩,cap,rfl,h6,h256,fun _=>⟨b,0,rfl,h2,h3⟩⟩
def Ty (X:Nat→Int) (j:Nat):Int:=if wK X then qB BL X j 4 else 0
def Ub (X:Nat→Int) (j:Nat):Int:=if wK X then qB CG X j 4 else 0
def Uc (X:Nat→Int):Int:=if wK X then 0 else 4
def Kj (X:Nat→Int):List TV:=[.fl (x4 (Ty X)),.fl (x4 (Ub X)),.im (iV (Uc X))]
theorem Tz {X:Nat→Int} (h:wK X):Kj X=[.fl (x4 fun j=>qB BL X j 4),.fl (x4 fun j=>qB CG X j 4),.im (iV 0)]:=by
 unfold Kj x4 Ty Ub Uc; simp only[if_pos h]
theorem Ua {X:Nat→Int} (h:¬wK X):Kj X=[.fl (x4 z4),.fl (x4 z4),.im (iV 4)]:=by
 unfold Kj x4 Ty Ub Uc z4; simp only[if_neg h]
theorem AF (X:Nat→Int) (w:World):bI prog 40 (.many (Kj X)) [.agg (aB (x4 X)).toArray] w:=by
 by_cases h:wK X
 ·rw[Tz h]; exact (tH X w).1 h
 ·rw[Ua h]; exact (tH X w).2 h
def Xb (X:Nat→Int):iP
 | [.v (.fl l)]=>some ([aB l=aB (x4 X)],.many (Kj X))
 | _=>none
theorem Js {f:FuncId} {X:Nat→Int} (h:∀w,bI prog f (.many (Kj X)) [.agg (aB (x4 X)).toArray] w):∀cs pre r,Xb X cs=some (pre,r)→aR pre→∀(args:List Value) (w:World),cO w cs args→bI prog f r args w:=by
 intro cs pre r hg hp args w ha;unfold Xb at hg;split at hg
 ·cases hg
  match args,ha with
  | [v],ha =>
   have h1:v=.agg (aB _).toArray:=ha.1;rw[hp.1]at h1;subst h1;exact h w
  | [],ha=>exact ha.elim
  | _::_::_,ha=>exact ha.2.elim
 ·cases hg
theorem OF (z:Int):xK prog dB (qG prog) (fun _=>true) f10 40 [.v (.im (iV z))]=some ([],.one (.im (iV z))):=by kernel_rfl
def Zp:iP
 | [.v (.im (.int .i64 z))]=>some ([],.one (.im (iV z)))
 | _=>none
theorem Jm:∀cs pre r,Zp cs=some (pre,r)→aR pre→∀(args:List Value) (w:World),cO w cs args→bI prog 10 r args w:=by
 intro cs pre r hg hp args w ha;unfold Zp at hg;split at hg
 ·cases hg;exact fO aG aY (bE _) func10 (OF _) trivial ha
 ·cases hg
def MF:Tab:=(gY.add 10 Zp).add 39 (g0 (.one (.fl [.q (Dg 1)])))
theorem GU:TabOk prog MF:=(eP.add func10 (by kernel_rfl) (by kernel_rfl) Jm).add func39 (by kernel_rfl) (by kernel_rfl) (SE fun w=>fO aG eP (bE _) func39 WS ⟨by decide,trivial⟩ (args:=[]) trivial)
theorem pI (a b:Int) (w:World):(Op.equalIn 9999 3 (iV a) (iV b)).run prog w=.ok (decide (a=b)) w:=by
 exact run_equalIn_int (P:=prog) w 9998 3 .i64 .i64 a b (by kernel_rfl)
theorem Hc (cs:List Value) (off:Nat) (h:off+1≤cs.length) (w:World):(part 3 cs.toArray off).run prog w=.ok (MI false ((cs.drop off).take 1)) w:=by
 have:=lO (P:=prog) (t:=3) (n:=1) (by kernel_rfl) (by kernel_rfl) (fun _=>rfl) cs off h w;rw[show jS prog 3=false by kernel_rfl]at this;exact this
theorem IV (a b c d a' b' c' d':Int) (w:World):(Op.equalIn 10000 60 (.agg #[iV a,iV b,iV c,iV d]) (.agg #[iV a',iV b',iV c',iV d'])).run prog w=.ok (decide (a=a'∧b=b'∧c=c'∧d=d')) w:=by
 refine (iT (P:=prog) w 9999 60 4 3 1 _ _ (by kernel_rfl) (by kernel_rfl)).trans ?_;have p:∀(x y z u:Int) (i:Nat) (h:i+1≤4) (w:World),(part 3 #[iV x,iV y,iV z,iV u] i).run prog w=.ok (MI false (([iV x,iV y,iV z,iV u].drop i).take 1)) w:=fun x y z u i h w=>Hc [iV x,iV y,iV z,iV u] i h w
 simp only[jA,Sem.run_bind,Nat.zero_mul,Nat.mul_one,Nat.zero_add,Nat.reduceAdd,Nat.reduceMul,p _ _ _ _ 0 (by omega),p _ _ _ _ 1 (by omega),p _ _ _ _ 2 (by omega),p _ _ _ _ 3 (by omega),List.drop,List.take,MI,pI,Result.andThen_ok]
 by_cases h1:a=a'
 ·by_cases h2:b=b'
  ·by_cases h3:c=c'
   ·by_cases h4:d=d'
    ·simp[h1,h2,h3,h4,p,MI,pI]
    ·simp[h1,h2,h3,h4,p,MI,pI]
   ·simp[h1,h2,h3,p,MI,pI]
  ·simp[h1,h2,p,MI,pI]
 ·simp[h1,p,MI,pI]
def BB:List At→Bool
 | [.c (.int .i64 _),.c (.int .i64 _),.c (.int .i64 _),.c (.int .i64 _)]=>true
 | _=>false
theorem xN {l:List At} (h:BB l=true):∃a b c d:Int,l=[.c (iV a),.c (iV b),.c (iV c),.c (iV d)]:=by
 unfold BB at h;split at h
 ·exact⟨_,_,_,_,rfl⟩
 ·cases h
def qI:EqT:={ qG prog with q:=fun t=>bif Nat.beq t 60 then some 4 else (qG prog).q t,n:=fun t=>bif Nat.beq t 60 then some 4 else (qG prog).n t,fit:=fun t l=>bif Nat.beq t 60 then BB l else (qG prog).fit t l }
theorem Ha:uA prog qI:=by
 obtain⟨⟨h1,h2⟩,h3⟩:=bE prog;refine⟨fun t n h => ?_,fun t n h => ?_⟩
 ·by_cases e:Nat.beq t 60=true
  ·have ht:=Nat.eq_of_beq_eq_true e;subst ht;refine⟨by kernel_rfl,fun l w hl hf => ?_⟩;obtain⟨a,b,c,d,rfl⟩:=xN (show BB l=true from hf);refine (IV a b c d a b c d w).trans ?_;rw[decide_eq_true ⟨rfl,rfl,rfl,rfl⟩]
  ·have e':Nat.beq t 60=false:=Bool.eq_false_iff.2 e;have h':(qG prog).q t=some n:=by
    have:(bif Nat.beq t 60 then some 4 else (qG prog).q t)=some n:=h;rw[e']at this;exact this
   obtain⟨g1,g2⟩:=h1 t n h';refine⟨g1,fun l w hl hf=>g2 l w hl ?_⟩;have:(bif Nat.beq t 60 then BB l else (qG prog).fit t l)=true:=hf;rw[e']at this;exact this
 ·by_cases e:Nat.beq t 60=true
  ·have ht:=Nat.eq_of_beq_eq_true e;subst ht;refine⟨by kernel_rfl,fun l m w hl hm hf hg hne => ?_⟩;obtain⟨a,b,c,d,rfl⟩:=xN (show BB l=true from hf);obtain⟨a',b',c',d',rfl⟩:=xN (show BB m=true from hg);refine (IV a b c d a' b' c' d' w).trans ?_;rw[decide_eq_false]
   rintro⟨rfl,rfl,rfl,rfl⟩
   exact hne rfl
  ·have e':Nat.beq t 60=false:=Bool.eq_false_iff.2 e;have h':(qG prog).n t=some n:=by
    have:(bif Nat.beq t 60 then some 4 else (qG prog).n t)=some n:=h;rw[e']at this;exact this
   obtain⟨g1,g2⟩:=h2 t n h';have c:∀l:List At,(bif Nat.beq t 60 then BB l else (qG prog).fit t l)=true→(qG prog).fit t l=true:=fun l hf=>by
    rw[e']at hf;exact hf
   exact⟨g1,fun l m w hl hm hf hg hne=>g2 l m w hl hm (c l hf) (c m hg) hne⟩
def It (N:Nat) (f:Nat→Nat) (log:Nat):List CA→Option (List Prop×FR)
 | [.s l n m,.v (.im (.int .i64 z)),.v (.fl r)]=>match lH r with
  | some x=>some ([aB l=aB (aP (el f) 0 N),n=N,N≤m,(∀j,j<N→f j<bQ),N≤65536,x<bQ,z=Int.ofNat log,Lt N f (Int.ofNat log) x=0],⟨aP (el (JL N f log x)) 0 (2^log),2^log,2^log,[.im (.int .i64 0)]⟩)
  | none=>none
 | _=>none
theorem ZL {N log:Nat} {f:Nat→Nat}:∀cs pre r,It N f log cs=some (pre,r)→aR pre→∀(args:List Value) (w:World),cO w cs args→Calls prog 38 args.toArray w (fun e w'=>r.ok w e w'):=by
 intro cs pre r hg hp args w ha;unfold It at hg;split at hg
 ·rename_i l n m z r0;split at hg
  ·rename_i x hx;cases hg
   match args,ha with
   | [a1,a2,a3],ha =>
    have h2:a2=iV z:=ha.2.1;have h3:a3=.agg (aB r0).toArray:=ha.2.2.1;rw[cG r0 x hx]at h3;obtain⟨p1,p2,p3,p4,p5,p6,p7,p8,_⟩:=hp;subst h2; subst h3; subst p7;exact (MY (LV.ofS ha.1 p1 p2 p3 p4) (by omega) p6).2 p8
   | [],ha=>exact ha.elim
   | [_],ha=>exact ha.2.elim
   | [_,_],ha=>exact ha.2.2.elim
   | _::_::_::_::_,ha=>exact ha.2.2.2.elim
  ·cases hg
 ·cases hg
def Jp (N:Nat) (f:Nat→Nat):List CA→Option (List Prop×FR)
 | [.s l n m,.v (.fl r)]=>match lH r with
  | some x=>some ([aB l=aB (aP (el f) 0 N),n=N,N≤m,(∀j,j<N→f j<bQ),N≤65536,x<bQ,fB N f x=0],⟨aP (el (vE x (aF f N) f)) 0 (yF x (aF f N) f),yF x (aF f N) f,yF x (aF f N) f,[.fl [.q (ZF x (aF f N) f)],.im (.int .i64 0)]⟩)
  | none=>none
 | _=>none
theorem Ac {N:Nat} {f:Nat→Nat}:∀cs pre r,Jp N f cs=some (pre,r)→aR pre→∀(args:List Value) (w:World),cO w cs args→Calls prog 36 args.toArray w (fun e w'=>r.ok w e w'):=by
 intro cs pre r hg hp args w ha;unfold Jp at hg;split at hg
 ·rename_i l n m r0;split at hg
  ·rename_i x hx;cases hg
   match args,ha with
   | [a1,a3],ha =>
    have h3:a3=.agg (aB r0).toArray:=ha.2.1;rw[cG r0 x hx]at h3;obtain⟨p1,p2,p3,p4,p5,p6,p8,_⟩:=hp;subst h3;exact (sU (LV.ofS ha.1 p1 p2 p3 p4) (by omega) p6).2 p8
   | [],ha=>exact ha.elim
   | [_],ha=>exact ha.2.elim
   | _::_::_::_,ha=>exact ha.2.2.elim
  ·cases hg
 ·cases hg
def LD (N:Nat) (f:Nat→Nat) (M:Nat) (g:Nat→Nat):iP
 | [c,d]=>match MB N f c,MB M g d with
  | some p,some q=>some (p++(q++[N≤4611686018427387904,lW N f M g]),.one (.im (.bool true)))
  | _,_=>none
 | _=>none
theorem IL {N M:Nat} {f g:Nat→Nat}:∀cs pre r,LD N f M g cs=some (pre,r)→aR pre→∀(args:List Value) (w:World),cO w cs args→bI prog 9 r args w:=by
 intro cs pre r hg hp args w ha;unfold LD at hg;split at hg
 ·rename_i c d;split at hg
  ·rename_i p q hc hd;cases hg;rw[cC,cC]at hp;have h:=Jc (N:=N) (M:=M) (f:=f) (g:=g) [c,d] (p++(q++[N≤4611686018427387904])) (.one (.im (.bool (decide (lW N f M g))))) (by unfold Zn; simp only[hc,hd]) (by rw[cC,cC]; exact⟨hp.1,hp.2.1,hp.2.2.1,trivial⟩) args w ha;rw[decide_eq_true hp.2.2.2.1]at h;exact h
  ·cases hg
 ·cases hg
def lA (j:Nat):Nat:=if j=0 then 1 else 2
def lB (j:Nat):Nat:=if j=0 then Dg 1 else if j=1 then 0 else 1
def lC (j:Nat):Nat:=if j=0 then 3 else Dg 1
def lD (_:Nat):Nat:=1
def lX (j:Nat):Int:=if j=0 then 1 else if j=1 then 2 else if j=2 then 3 else 4
def aAs:Tab2:=(lY.add 38 (It 2 lA 1)).add 36 (Jp 3 lB)
def lN:Nat:=yF 1 (aF lB 3) lB
def Mi (_:Nat):Cfg:=⟨fun s=>(MF.add 40 (Xb lX)).add 9 (bif Nat.beq s 47 then LD 2 (JL 2 lA 1 1) 2 lC else LD lN (vE 1 (aF lB 3) lB) 2 lD),fun _=>true,aE [(37,iV 0),(40,iV 0),(41,.bool true)]⟩
def gX:Code:=(f19.body).getD .skip
theorem Cm:gX=.seq (cA gX) (.seq (cA (cB gX)) (.seq (cA (cB (cB gX))) (.seq (cA (cB (cB (cB gX)))) (cB (cB (cB (cB gX))))))):=by kernel_rfl
def Xk:List Fact:=[.slot 1 (.sl 14 0 2 2),.row 14 true [.q (JL 2 lA 1 1 0),.q (JL 2 lA 1 1 1)],.slot 2 (.im (iV 0))]
def Xj:List Fact:=.slot 3 (.sl 23 0 2 2) :: .row 23 true [.q (vE 1 (aF lB 3) lB 0),.q (vE 1 (aF lB 3) lB 1)] :: .slot 4 (.pt 4 0) :: .row 4 true [.q (ZF 1 (aF lB 3) lB)] :: .slot 5 (.im (iV 0))::Xk
def al3:List Fact:=.slot 6 (.pt 6 0) :: .row 6 true (x4 (Ty lX)) :: .slot 7 (.pt 7 0) :: .row 7 true (x4 (Ub lX)) :: .slot 8 (.im (iV (Uc lX)))::Xj
def qA:EqT:={ qI with x:=FY aAs }
theorem Wh:aH prog qA f19.ntmps Mi 60 (cA gX) [] []=some ([],.nrm,[]):=by kernel_rfl
theorem Wg:aH prog qA f19.ntmps Mi 60 (cA (cB gX)) [] Xk=some ([aB [.f ⟨1,by decide⟩,.f ⟨2,by decide⟩]=aB (aP (el lA) 0 2),2=2,2≤2,∀j,j<2→lA j<bQ,2≤65536,1<bQ,1=Int.ofNat 1,Lt 2 lA (Int.ofNat 1) 1=0],.nrm,Xk):=by kernel_rfl
theorem Wf:aH prog qA f19.ntmps Mi 60 (cA (cB (cB gX))) Xk Xj=some ([aB [.q (Dg 1),.f ⟨0,dP⟩,.f ⟨1,by decide⟩]=aB (aP (el lB) 0 3),3=3,3≤3,∀j,j<3→lB j<bQ,3≤65536,1<bQ,fB 3 lB 1=0],.nrm,Xj):=by kernel_rfl
theorem We:aH prog qA f19.ntmps Mi 60 (cA (cB (cB (cB gX)))) Xj al3=some ([aB (x4 lX)=aB (x4 lX)],.nrm,al3):=by kernel_rfl
def alP:List Prop:=[aC .add .i64 0 0=some (iV 0),aC .add .i64 0 (Uc lX)=some (iV 0),aC .eql .i64 0 0=some (.bool true),
 aB [.q (JL 2 lA 1 1 0),.q (JL 2 lA 1 1 1)]=aB (aP (el (JL 2 lA 1 1)) 0 2),2=2,∀j,j<2→JL 2 lA 1 1 j<bQ,aB [.f ⟨3,by decide⟩,.q (Dg 1)]=aB (aP (el lC) 0 2),2=2,∀j,j<2→lC j<bQ,2≤4611686018427387904,lW 2 (JL 2 lA 1 1) 2 lC,
 aB [.q (vE 1 (aF lB 3) lB 0),.q (vE 1 (aF lB 3) lB 1)]=aB (aP (el (vE 1 (aF lB 3) lB)) 0 lN),2=lN,∀j,j<lN→vE 1 (aF lB 3) lB j<bQ,aB [.f ⟨1,by decide⟩,.f ⟨1,by decide⟩]=aB (aP (el lD) 0 2),2=2,∀j,j<2→lD j<bQ,lN≤4611686018427387904,lW lN (vE 1 (aF lB 3) lB) 2 lD,
 aB [.q (ZF 1 (aF lB 3) lB)]=aB [.f ⟨0,dP⟩],aB (x4 (Ty lX))=aB [.c (iV 10),.c (iV (-2)),.c (iV (-2)),.c (iV (-2))],aB (x4 (Ub lX))=aB [.c (iV 0),.c (iV 2),.c (iV 0),.c (iV (-2))]]
theorem Wd:aH prog qA f19.ntmps Mi 60 (cB (cB (cB (cB gX)))) al3 [.slot 0 (.im (.bool true))]=some (alP,.rt,[.slot 0 (.im (.bool true))]):=by kernel_rfl
theorem Wc (r:Nat):∀j,j<2→uM (oG (aF lA 2) (oH lA 1 1) 1) (2^1) (gN 1 r) 1 j=lC j
 | 0,_=>by kernel_rfl
 | 1,_=>by kernel_rfl
theorem UG:∀j,j<2→JL 2 lA 1 1 j=lC j:=Wc (oR 1)
theorem Wz {p:Nat→Prop} (h0:p 0) (h1:p 1):∀j,j<2→p j
 | 0,_=>h0
 | 1,_=>h1
theorem Sk:lN=2:=by kernel_rfl
theorem Sh:vE 1 (aF lB 3) lB 0=1:=by kernel_rfl
theorem Sg:vE 1 (aF lB 3) lB 1=1:=by kernel_rfl
theorem Dr:∀j,j<2→lC j<bQ:=Wz (by decide) (by decide)
theorem Ll:aR alP:=by
 refine⟨rfl,by kernel_rfl,rfl,rfl,rfl,fun j hj=>by rw[UG j hj]; exact Dr j hj,by kernel_rfl,rfl,Dr,by omega,⟨rfl,UG⟩,?_,Sk.symm,?_,by kernel_rfl,rfl,fun j hj=>by show 1<bQ; decide,by rw[Sk]; omega,?_,by kernel_rfl,by kernel_rfl,by kernel_rfl,trivial⟩
 ·rw[Sk]; rfl
 ·rw[Sk]; exact Wz (by rw[Sh]; decide) (by rw[Sg]; decide)
 ·rw[Sk]; exact⟨rfl,Wz Sh Sg⟩
theorem Qj (w:World) (n d:Nat):TabOkW prog ((Mi n).T d) w.heap.size w:=by
 refine TabOk.w ?_ _ _;show TabOk prog ((MF.add 40 (Xb lX)).add 9 (bif Nat.beq d 47 then LD 2 (JL 2 lA 1 1) 2 lC else LD lN (vE 1 (aF lB 3) lB) 2 lD));refine (GU.add func40 (by kernel_rfl) (by kernel_rfl) (Js (AF lX))).add func9 (by kernel_rfl) (by kernel_rfl) ?_;cases Nat.beq d 47
 ·exact IL
 ·exact IL
theorem Qa (w:World):bO prog qA w.heap.size w :=
 ⟨Ha,(fS (base:=w.heap.size) (w:=w) fun w' hw=>((FrAt.none _ _).add func38 (by kernel_rfl) (by kernel_rfl) fun cs pre r h1 h2 args ha=>ZL cs pre r h1 h2 args w' ha).add func36 (by kernel_rfl) (by kernel_rfl) fun cs pre r h1 h2 args ha=>Ac cs pre r h1 h2 args w' ha).2⟩
theorem BX (w:World):bI prog 19 (.one (.im (.bool true))) [] w:=by
 have hG:=Qa w;have hT:=Qj w;refine bP func19 (cs:=[]) (args:=[]) (c:=gX) rfl trivial (Nat.le_of_ble_eq_true (by kernel_rfl)) fun a w1 hA => ?_
 rw[Cm];refine wp_seq (aA aG hT hG Wh trivial hA fun a w1 hA => ?_);refine wp_seq (aA aG hT hG Wg ⟨by kernel_rfl,rfl,by omega,Wz (by decide) (by decide),by omega,by decide,rfl,by kernel_rfl,trivial⟩ hA fun a w1 hA => ?_);refine wp_seq (aA aG hT hG Wf ⟨by kernel_rfl,rfl,by omega,fun j hj=>by match j,hj with|0,_=>decide|1,_=>decide|2,_=>decide,by omega,by decide,by kernel_rfl,trivial⟩ hA fun a w1 hA => ?_);refine wp_seq (aA aG hT hG We ⟨rfl,trivial⟩ hA fun a w1 hA => ?_);exact aA aG hT hG Wd Ll hA fun a w' hA=>bH (l:=[.im (.bool true)]) (r:=.one (.im (.bool true))) (by kernel_rfl) (by kernel_rfl) hA
theorem LW.on {w w':World} {v:Value} {N:Nat} {f:Nat→Nat} (h:LW w v N f) (hb:Below w.heap.size w w'):LW w' v N f:=by
 obtain⟨p,m,h1,h3,h4⟩:=h;refine⟨p,m,h1,h3,fun h0 => ?_⟩;obtain⟨b,o,e,g1,g2⟩:=h4 h0;exact⟨b,o,e,Nat.lt_of_lt_of_le g1 hb.size,dC hb g1 g2⟩
def Alk (w:World) (u u':Value):Prop:=∃n g g',LW w u n g∧LW w u' n g'∧(∀j,j<n→g j=g' j)∧n≤4611686018427387904
theorem Alk.on {w w':World} {u u':Value} (h:Alk w u u') (hb:Below w.heap.size w w'):Alk w' u u':=by
 obtain⟨n,g,g',h1,h2,h3⟩:=h;exact⟨n,g,g',h1.on hb,h2.on hb,h3⟩
def Jd (w:World):iP
 | [.v (.im u),.v (.im u')]=>some ([Alk w u u'],.one (.im (.bool true)))
 | _=>none
theorem ZU {w w':World} (hb:Below w.heap.size w w'):∀cs pre r,Jd w cs=some (pre,r)→aR pre→∀(args:List Value),cO w' cs args→bI prog 9 r args w':=by
 intro cs pre r hg hp args ha;unfold Jd at hg;split at hg
 ·cases hg;obtain⟨n,g,g',h1,h2,h3,h4⟩:=hp.1.on hb
  match args,ha with
  | [a1,a2],ha =>
   have e1:a1=_:=ha.1;have e2:a2=_:=ha.2.1;subst e1; subst e2;have h:=yX h1 h2 h4;rw[decide_eq_true (show lW n g n g' from⟨rfl,h3⟩)]at h;exact h
  | [],ha=>exact ha.elim
  | [_],ha=>exact ha.2.elim
  | _::_::_::_,ha=>exact ha.2.2.elim
 ·cases hg
theorem Holds.imTu {nt base:Nat} {w0:World} {A:List Fact} {a:Act} {w:World} (h:Holds nt base w0 A a w) {s:Nat} {v:Value} {l:List TV} (h1:Fact.slot s (.im v)∈A) (e:v=.tuple (l.map TV.den).toArray):Holds nt base w0 (.slot s (.tu l)::A) a w:=by
 obtain⟨β,g1,g2,g3⟩:=h.facts;have e1:=g1 _ h1;have up:∀k1 o1 l1,Fact.row k1 o1 l1∈(Fact.slot s (.tu l)::A)→Fact.row k1 o1 l1∈A:=fun k1 o1 l1 q=>by
  rcases List.mem_cons.1 q with q|q
  ·cases q
  ·exact q
 refine⟨h.defers,h.size,h.below,h.heap,β,fun φ hφ => ?_,fun k1 k2 o2 l1 l2 q1 q2=>g2 k1 k2 o2 l1 l2 (up _ _ _ q1) (up _ _ _ q2),fun k1 l1 q=>g3.1 k1 l1 (up _ _ _ q),g3.2⟩
 rcases List.mem_cons.1 hφ with rfl|hφ
 ·show a.tmps[s]?=some (.tuple (l.map TV.den).toArray);rw[←e]; exact e1
 ·exact g1 φ hφ
theorem Ue (c:Int):aC .eql .i64 c c=some (.bool true):=by
 show some (Value.bool (c==c))=_;simp
def Pr (w0:World) (n:Nat) (g:Nat→Nat) (e:Int) (en:Ending) (w':World):Prop:=∃u,en=.returned (.tuple #[u,iV e])∧Below w0.heap.size w0 w'∧LV w' u n g
theorem Pr.nil {w0:World} {e:Int} {en:Ending} {w':World} (g:Nat→Nat) (h:en=.returned (RV.den (.many [.im (.slice none 0 0),.im (.int .i64 e)]))∧Below w0.heap.size w0 w'):Pr w0 0 g e en w' :=
 ⟨.slice none 0 0,h.1,h.2,LV.nil0 w' g⟩
theorem Pr.fr {w0:World} {n:Nat} {g:Nat→Nat} {e:Int} {en:Ending} {w':World} (hg:∀j,j<n→g j<bQ) (h:FR.ok ⟨aP (el g) 0 n,n,n,[.im (.int .i64 e)]⟩ w0 en w'):Pr w0 n g e en w':=by
 obtain⟨b,rfl,hb,h1,h2,h3,h4⟩:=h;exact⟨_,rfl,hb,_,_,rfl,Nat.le_refl _,hg,fun _=>⟨b,0,rfl,h2,h3⟩⟩
theorem Pr.fs {w0:World} {n:Nat} {g:Nat→Nat} {e:Int} {en:Ending} {w':World} {ty:Nat} (hg:∀j,j<n→g j<bQ) (h:FS.ok ⟨aP (el g) 0 n,n,ty,4,true,[],[.im (.int .i64 e)]⟩ w0 en w'):Pr w0 n g e en w':=by
 obtain⟨b,cap,rfl,hb,h1,h2,h3,h4,h5⟩:=h;obtain⟨_,_,h6,_⟩:=h5 rfl;exact⟨_,rfl,hb,_,_,rfl,h6,hg,fun _=>⟨b,0,rfl,h2,h3⟩⟩
theorem Pr.up {w0 W:World} {n:Nat} {g:Nat→Nat} {e:Int} {en:Ending} {w':World} (B:Below w0.heap.size w0 W) (h:Pr W n g e en w'):Pr w0 n g e en w':=by
 obtain⟨u,h1,h2,h3⟩:=h;exact⟨u,h1,B.trans (h2.mono B.size),h3⟩
theorem iX (y:Nat):∀v∈aB [At.q y],v.oneCell'=true:=rC (fun _=>y) 1 0
theorem fX (g:Nat→Nat) (i:Nat):aB (aP (el g) 0 (i+1))=aB (aP (el g) 0 i++[At.q (g i)]):=by
 rw[tT,Nat.zero_add];rfl
def Ir (v:Value) (N:Nat) (f:Nat→Nat):iP
 | [.v (.im u),.v (.fl r)]=>match lH r with
  | some x=>some ([u=v,x<RM],.one (.fl [.q (mO x N f N)]))
  | none=>none
 | _=>none
theorem ZK {w:World} {v:Value} {N:Nat} {f:Nat→Nat} (hv:LV w v N f) (hN:N≤131072) (hf:bD N f):∀cs pre r,Ir v N f cs=some (pre,r)→aR pre→∀(args:List Value),cO w cs args→bI prog 37 r args w:=by
 intro cs pre r hg hp args ha;unfold Ir at hg;split at hg
 ·rename_i u r0;split at hg
  ·rename_i x hx;cases hg
   match args,ha with
   | [a1,a2],ha =>
    have h1:a1=u:=ha.1;have h3:a2=.agg (aB r0).toArray:=ha.2.1;have h4:=hp.1;rw[cG r0 x hx]at h3;subst h1; subst h3; subst h4;exact MV hv hN hf hp.2.1
   | [],ha=>exact ha.elim
   | [_],ha=>exact ha.2.elim
   | _::_::_::_,ha=>exact ha.2.2.elim
  ·cases hg
 ·cases hg
def VB (d n:Nat) (Z:List At):Ext:={ Ext.none with mks:=aE [(d,(n,Z))],T2:=lY,T3:=vR,T4:=CH,T5:=CI,T6:=CJ }
theorem gR (d n:Nat) (Z:List At) (base:Nat) (w:World):bO prog { qG prog with x:=VB d n Z } base w :=
 ⟨(bE _).1,eJ (fun b o l h=>h.elim) (fun w' _=>FrAt.none _ _) (fun w' _=>FsAt.none _ _)⟩
theorem rD {f g:Nat→Nat}:∀(n s:Nat),(∀j,j<n→f (s+j)=g (s+j))→aP (el f) s n=aP (el g) s n
 | 0,s,_=>rfl
 | n+1,s,h=>by
  have e0:f s=g s:=h 0 (Nat.succ_pos n);have e1:∀j,j<n→f (s+1+j)=g (s+1+j):=fun j hj=>by
   rw[Nat.add_assoc,Nat.add_comm 1 j];exact h (j+1) (Nat.succ_lt_succ hj)
  show el f s++aP (el f) (s+1) n=el g s++aP (el g) (s+1) n;rw[rD n (s+1) e1];show [At.q (f s)]++_=[At.q (g s)]++_;rw[e0]
theorem LV.congr {w:World} {v:Value} {n:Nat} {f g:Nat→Nat} (h:LV w v n f) (e:∀j,j<n→f j=g j):LV w v n g:=by
 obtain⟨p,m,h1,h2,h3,h4⟩:=h;have e1:aP (el f) 0 n=aP (el g) 0 n:=rD n 0 fun j hj=>by rw[Nat.zero_add]; exact e j hj
 rw[e1]at h4;exact⟨p,m,h1,h2,fun j hj=>e j hj▸h3 j hj,h4⟩
theorem Pr.congr {w0:World} {n:Nat} {g g':Nat→Nat} {e:Int} {en:Ending} {w':World} (h:Pr w0 n g e en w') (hg:∀j,j<n→g j=g' j):Pr w0 n g' e en w':=by
 obtain⟨u,h1,h2,h3⟩:=h;exact⟨u,h1,h2,h3.congr hg⟩
def Ln (v:Value):Prop:=∀n m:Nat,v=.slice none n m→m=0
def Li (w0:World) (n:Nat) (f:Nat→Nat) (e:Ending) (w':World):Prop:=∃u,e=.returned u∧Below w0.heap.size w0 w'∧LV w' u n f
theorem Ej {w0:World} {v:Value} {N:Nat} {f:Nat→Nat} (hv:LV w0 v N f) (hN:N*32≤140737488355328) (hp:Ln v):Calls prog 4 #[v] w0 (Li w0 N f):=by
 have h256:∀j,j<N→f j<bQ:=fun j hj=>by
  obtain⟨_,_,_,_,h,_⟩:=hv;exact h j hj
 obtain⟨p,m,rfl,_⟩:=id hv;have hp:p=none→m=0:=fun e=>hp N m (by rw[e])
 by_cases h0:N=0
 ·refine ((BJ hv hN hp).1 h0).mono ?_
  rintro e w' ⟨rfl,hb⟩
  rw[h0];exact⟨_,rfl,hb,LV.nil0 w' f⟩
 ·refine ((BJ hv hN hp).2 (by omega)).mono ?_
  rintro e w' ⟨b,cap,rfl,hb,h1,h2,h3,h4,h5⟩
  obtain⟨_,_,h6,_⟩:=h5 rfl;exact⟨_,rfl,hb,some ⟨b,0,none⟩,cap,rfl,h6,h256,fun _=>⟨b,0,rfl,h2,h3⟩⟩
def Kd (v:Value) (N:Nat) (f:Nat→Nat):iP
 | [.s [.c u] un um]=>some ([u=v,un=1],.one (.im (.int .i64 (qX N f))))
 | _=>none
theorem Al {w:World} {v:Value} {N:Nat} {f:Nat→Nat} (hv:LV w v N f) (hN:N≤4611686018427387904):∀cs pre r,Kd v N f cs=some (pre,r)→aR pre→∀(args:List Value),cO w cs args→bI prog 28 r args w:=by
 intro cs pre r hg hp args ha;unfold Kd at hg;split at hg
 ·rename_i u un um;cases hg
  match args,ha with
  | [a1],ha =>
   have h1:=ha.1;obtain⟨p1,p2,_⟩:=hp;subst p1; subst p2;obtain⟨b,o,rfl,hb,hr⟩:=h1;rw[←By];exact tQ (vs:=fun _=>u) ⟨b,o,um,rfl,hb,hr⟩ (fun j hj=>hv) (by omega) (fun j hj=>by omega)
  | [],ha=>exact ha.elim
  | _::_::_,ha=>exact ha.2.elim
 ·cases hg
def Iv (v:Value) (N:Nat) (f:Nat→Nat):List CA→Option (List Prop×FR)
 | [.v (.im u)]=>some ([u=v,N≤131072],⟨aP (el f) 0 (aF f N),aF f N,aF f N,[]⟩)
 | _=>none
theorem ZN {w:World} {v:Value} {N:Nat} {f:Nat→Nat} (hv:LV w v N f):∀cs pre r,Iv v N f cs=some (pre,r)→aR pre→∀(args:List Value),cO w cs args→Calls prog 29 args.toArray w (fun e w'=>r.ok w e w'):=by
 intro cs pre r hg hp args ha;unfold Iv at hg;split at hg
 ·rename_i u;cases hg
  match args,ha with
  | [a1],ha =>
   have h1:a1=u:=ha.1;subst h1;obtain⟨p1,p2,_⟩:=hp;subst p1;exact rK hv p2
  | [],ha=>exact ha.elim
  | _::_::_,ha=>exact ha.2.elim
 ·cases hg
def Xt (v:Value) (N:Nat) (f:Nat→Nat) (num:Nat→Option Value) (_:Nat):Cfg:=⟨fun _=>dB.add 28 (Kd v N f),fun _=>true,num⟩
theorem WK (p:Option Addr) (N m:Nat) (f:Nat→Nat):fH prog (qG prog) (Xt (.slice p N m) N f (aE [(9,.bool true)])) f15 60 [.v (.im (.slice p N m))]=some ([Value.slice p N m=.slice p N m,1=1,aC .neq .i64 (qX N f) 0=some (.bool true)],.many [.im (.slice none 0 0),.im (.int .i64 (qX N f))]):=by kernel_rfl
theorem WJ (p:Option Addr) (N m:Nat) (f:Nat→Nat):AT prog { qG prog with x:=FY (lY.add 29 (Iv (.slice p N m) N f)) } (Xt (.slice p N m) N f (aE [(9,.bool false)])) f15 60 [.v (.im (.slice p N m))]=some ([Value.slice p N m=.slice p N m,1=1,aC .neq .i64 (qX N f) 0=some (.bool false),Value.slice p N m=.slice p N m,N≤131072],⟨aP (el f) 0 (aF f N),aF f N,aF f N,[.im (.int .i64 0)]⟩):=by kernel_rfl
theorem yL {w0:World} {v:Value} {N:Nat} {f:Nat→Nat} (hv:LV w0 v N f) (hN:N≤4611686018427387904) :
  (qX N f≠0→bI prog 15 (.many [.im (.slice none 0 0),.im (.int .i64 (qX N f))]) [v] w0) ∧
  (qX N f=0→Calls prog 15 #[v] w0 (fun e w'=>FR.ok ⟨aP (el f) 0 (aF f N),aF f N,aF f N,[.im (.int .i64 0)]⟩ w0 e w')):=by
 obtain⟨p,m,rfl,_⟩:=id hv;have hT:∀num,∀n d:Nat,TabOkW prog ((Xt (.slice p N m) N f num n).T d) w0.heap.size w0:=fun _ _ _=>TabOkW.add (aY.w _ _) func28 (by kernel_rfl) (by kernel_rfl) fun w hw=>Al (hv.on hw) hN
 refine⟨fun h => ?_,fun h => ?_⟩
 ·exact bC aG (hT _) ((bE _).w _ _) func15 (WK p N m f) ⟨rfl,rfl,pB h,trivial⟩ (args:=[.slice p N m]) ⟨rfl,trivial⟩
 ·exact gD aG (hT _) (fS fun w' hw=>(FrAt.none _ _).add func29 (by kernel_rfl) (by kernel_rfl) (ZN (hv.on hw))) func15 (WJ p N m f) ⟨rfl,rfl,by rw[h]; rfl,rfl,by have:=(TJ h).1; omega,trivial⟩ (args:=[.slice p N m]) ⟨rfl,trivial⟩
end Go.Proofs.YtjjnbgoepbiojaaGreat.Ex
