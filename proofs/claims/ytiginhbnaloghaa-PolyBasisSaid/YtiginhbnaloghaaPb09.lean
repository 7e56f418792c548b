/- Pb09 -/
import Derived.ProofKit
import Derived.LaidMore
import Derived.OpenShut
import Derived.Stop.Joined
import Derived.Carry
import Derived.RowKit
import Derived.ChangeSame
import Derived.JoinedOf
import Derived.JoinedAt
import Derived.Laws.IdiomArrays
import Derived.Deep.Strs
import Derived.Test.YtiginhbnaloghaaPb08
import Derived.Test.YtiginhbnaloghaaPb03
import Derived.Test.YtiginhbnaloghaaRows
import Derived.Test.YtiginhbnaloghaaPb06
import Derived.Test.YtiginhbnaloghaaProg
set_option maxRecDepth 100000
set_option linter.unusedVariables false
set_option linter.unusedSimpArgs false
set_option linter.unnecessarySimpa false
noncomputable section
namespace Go.Proofs.Ytiginhbnaloghaa.Ex
open Go.Proofs.Try
open Go.RowKit
def WK (n:Nat):List At:=nq [.c (.int .u64 (Int.ofNat n)),.c (.int .u64 0),.c (.int .u64 0),.c (.int .u64 0)]
theorem nD {n:Nat} (h:n<18446744073709551616):aC (WK n)=aC [.q n]:=by
 unfold WK;rw[yS];obtain⟨e0,e1,e2,e3⟩:=iB (s0:=n) (s1:=0) (s2:=0) (s3:=0) (x:=n) ⟨h,by omega,by omega,by omega⟩ (by omega) (by unfold aB; omega);show [Value.int .u64 (n:Int),.int .u64 0,.int .u64 0,.int .u64 0]=[.int .u64 (fw n 0:Nat),.int .u64 (fw n 1:Nat),.int .u64 (fw n 2:Nat),.int .u64 (fw n 3:Nat)];rw[←e0,←e1,←e2,←e3];rfl
def wX (n:Nat) (many:Bool):jN
 | [.v (.im (.int .i64 2)),.v (.fl l),.v (.fl m)]=>match kV l with
  | some x=>some ([x<RM,aC m=aC [.q n],n<bI],bif many then .many [.fl [.q (fD x n)],.im (.int .i64 0)]else .one (.fl [.q (fD x n)]))
  | none=>none
 | _=>none
theorem zD {f:FuncId} {n:Nat} {many:Bool} (h:∀x,x<RM→n<bI→∀w,Good prog f (bif many then .many [.fl [.q (fD x n)],.im (.int .i64 0)]else .one (.fl [.q (fD x n)])) [.int .i64 2,.agg (aC [At.q x]).toArray,.agg (aC [At.q n]).toArray] w) :
  ∀cs pre r,wX n many cs=some (pre,r)→aO pre→∀(args:List Value) (w:World),cG w cs args→Good prog f r args w:=by
 intro cs pre r hg hp args w ha;unfold wX at hg;split at hg
 ·rename_i l m;split at hg
  ·rename_i x hx;cases hg
   match args,ha with
   | [t,v,u],ha =>
    have h1:t=.int .i64 2:=ha.1;have h2:v=.agg (aC l).toArray:=ha.2.1;have h3:u=.agg (aC m).toArray:=ha.2.2.1;rw[bU l x hx]at h2;rw[hp.2.1]at h3;subst h1; subst h2; subst h3;exact h x hp.1 hp.2.2.1 w
   | [],ha=>exact ha.elim
   | [_],ha=>exact ha.2.elim
   | [_,_],ha=>exact ha.2.2.elim
   | _::_::_::_::_,ha=>exact ha.2.2.2.elim
  ·cases hg
 ·cases hg
theorem SM {n:Nat}:∀cs pre r,wX n true cs=some (pre,r)→aO pre→∀(args:List Value) (w:World),cG w cs args→Good prog 75 r args w :=
 zD fun x hx hn w=>PR [.v (.im (.int .i64 2)),.v (.fl [.q x]),.v (.fl [.q n])] _ _ rfl ⟨hx,hn,trivial⟩ _ w ⟨rfl,rfl,rfl,trivial⟩
theorem SA {n:Nat}:∀cs pre r,wX n false cs=some (pre,r)→aO pre→∀(args:List Value) (w:World),cG w cs args→Good prog 59 r args w :=
 zD fun x hx hn w=>EI x n ⟨hx,hn,trivial⟩ w
theorem IB {n:Nat} (h:n<9223372036854775808) (w:World):(convert 3 23 (iI n)).run prog w=.ok (.int .u64 (Int.ofNat n)) w:=by
 have e:=run_convert_int (P:=prog) w 3 23 .i64 (Int.ofNat n) (by kernel_rfl) (by kernel_rfl);rw[show prog.intKind 23=.u64 by kernel_rfl]at e;refine e.trans ?_;have e2:IntKind.u64.wrap (Int.ofNat n)=Int.ofNat n:=by
  show (n:Int)%(18446744073709551616:Int)=n;exact Int.emod_eq_of_lt (by omega) (by omega)
 rw[e2]
def Fi (n:Nat) (_:Nat):Cfg:=⟨fun _=>OZ.add 75 (wX n true),fun _=>true,fun _=>none⟩
theorem RK (x n:Nat):eC prog { qG prog with x:=xG (aE [(10,.int .u64 (Int.ofNat n))]) } (Fi n) f55 40 [.v (.fl [.q x]),.v (.im (iI n))]=some ([∀w:World,(convert 3 23 (iI n)).run prog w=.ok (.int .u64 (Int.ofNat n)) w,x<RM,aC (WK n)=aC [.q n],n<bI],.one (.fl [.q (fD x n)])):=by kernel_rfl
theorem EJ {x n:Nat} (hx:x<RM) (hn:n<9223372036854775808) (args:List Value) (w:World) (ha:cG w [.v (.fl [.q x]),.v (.im (iI n))] args):Good prog 55 (.one (.fl [.q (fD x n)])) args w :=
 bM aK (fun _ _=>(mH.add func75 (by kernel_rfl) (by kernel_rfl) SM).w _ _) (fC _ _ _) func55 (RK x n) ⟨fun w=>IB hn w,hx,nD (by omega),Nat.lt_trans hn (by decide),trivial⟩ ha
def Eb:jN
 | [.v (.fl l),.v (.im (.int .i64 (.ofNat n)))]=>match kV l with
  | some x=>some ([x<RM,n<9223372036854775808],.one (.fl [.q (fD x n)]))
  | none=>none
 | _=>none
theorem TP:∀cs pre r,Eb cs=some (pre,r)→aO pre→∀(args:List Value) (w:World),cG w cs args→Good prog 55 r args w:=by
 intro cs pre r hg hp args w ha;unfold Eb at hg;split at hg
 ·rename_i l n;split at hg
  ·rename_i x hx;cases hg;refine EJ hp.1 hp.2.1 args w ?_
   match args,ha with
   | [v,u],ha =>
    refine⟨?_,ha.2.1,trivial⟩;show v=.agg (aC (q1 x)).toArray;rw[←bU l x hx]; exact ha.1
   | [],ha=>exact ha.elim
   | [_],ha=>exact ha.2.elim
   | _::_::_::_,ha=>exact ha.2.2.elim
  ·cases hg
 ·cases hg
def PA:Tab:=OZ.add 55 Eb
theorem FA:TabOk prog PA:=mH.add func55 (by kernel_rfl) (by kernel_rfl) TP
def RZ (h:Bool) (num:Nat→Option Value) (_:Nat):Cfg:=⟨fun _=>PA,fun _=>h,num⟩
theorem EG {a b:Nat} (ha:a<RM) (hb:b<RM) (h1:a≠0) (h2:b≠0):gH a b≠0:=fun h=>by
 have hp:dQ RM:=YF;have hd:RM∣a*b:=Nat.dvd_of_mod_eq_zero h;have hc:Nat.Coprime RM a:=by
  rcases hp.2 (Nat.gcd RM a) (Nat.gcd_dvd_left _ _)with q|q
  ·exact q
  ·have h3:RM∣a:=by have:=Nat.gcd_dvd_right RM a; rw[q]at this; exact this
   have:=Nat.le_of_dvd (by omega) h3;omega
 have:=Nat.le_of_dvd (by omega) (hc.dvd_of_dvd_mul_left hd);omega
theorem EC {a b:Nat} (ha:a<RM) (hb:b<RM) (h:a≠b):lH a b≠0:=fun q=>by
 unfold lH at q;have hp:=iT
 by_cases h1:b≤a
 ·rw[show a+RM-b=(a-b)+RM by omega,Nat.add_mod_right,Nat.mod_eq_of_lt (by omega)]at q;omega
 ·rw[Nat.mod_eq_of_lt (by omega)]at q;omega
def wT (log i x:Nat):Nat:=gH (gH (fD (fO log) i) (lH (fD x (2^log)) 1)) (CD (gH (2^log) (lH x (fD (fO log) i))))
def wU (z i:Int) (x:Nat):List TV :=
 if x<RM then if dN z 28=true then if 0≤i∧i<((2^z.toNat:Nat):Int)then if x=fD (fO z.toNat) i.toNat then [.fl [.q 1],.im (iV 0)]else [.fl [.q (wT z.toNat i.toNat x)],.im (iV 0)]
  else [.fl kF,.im (iV 1)]else [.fl kF,.im (iV 71)]else [.fl kF,.im (iV 21)]
def cC:Code:=(f22.body).getD .skip
theorem MP:cC=.seq (cA cC) (.seq (.seq (.region 1 (bJ (cA (cA (cB cC)))) false) (cB (cA (cB cC)))) (cB (cB cC))):=by kernel_rfl
def vA (z i:Int) (x:Nat):List Fact:=[.slot 0 (.im (iV z)),.slot 1 (.im (iV i)),.slot 5 (.pt 5 0),.row 5 true [.q x],.slot 6 (.pt 6 0),.row 6 true kF]
def ZI (z i:Int) (x:Nat):List Fact:=.slot 14 (.sl 14 0 1 1) :: .row 14 true [.q x]::vA z i x
def QF (z i:Int) (x b:Nat):List Fact:=.slot 15 (.sl 15 0 1 1) :: .row 15 true [.c (aZ b 0 1 1)] :: .row 14 true [.q x] :: .at 14 b::vA z i x
theorem ZF (z i:Int) (x:Nat):aM prog (qG prog) f22.ntmps (bW fun _=>none) 40 (cA cC) (eK 0 [.v (.im (iV z)),.v (.im (iV i)),.v (.fl [.q x])]) (vA z i x)=some ([],.nrm,vA z i x):=by kernel_rfl
theorem ZE (z i:Int) (x:Nat):iG prog (qG prog) f22.ntmps dX ((bJ (cA (cA (cB cC)))).extract 0 2) (vA z i x) (ZI z i x)=some ([],ZI z i x):=by kernel_rfl
theorem ZD (z i:Int) (x b:Nat):iG prog (qG prog) f22.ntmps dX ((bJ (cA (cA (cB cC)))).extract 2 3) (.slot 14 (.im (aZ b 0 1 1)) :: .at 14 b::ZI z i x) (QF z i x b)=some ([],QF z i x b):=by kernel_rfl
theorem ZC (z i:Int) (x b:Nat) (e:Int):iG prog (qG prog) f22.ntmps dX ((bJ (cA (cA (cB cC)))).extract 4 5) (.slot 16 (.im (.int .i64 e))::QF z i x b) (.slot 8 (.im (.int .i64 e))::vA z i x)=some ([],.slot 8 (.im (.int .i64 e))::vA z i x):=by kernel_rfl
def CF (l:List At) (e:Int):List Fact:=[.slot 6 (.pt 6 0),.row 6 true l,.slot 7 (.im (iV e))]
theorem SY (z i:Int) (x:Nat) (e:Int):aM prog (qG prog) f22.ntmps (RZ true (aE [(18,.bool true)])) 60 (cB (cA (cB cC))) (.slot 8 (.im (.int .i64 e))::vA z i x) (CF kF e)=some ([aD .neq .i64 e 0=some (.bool true)],.rt,CF kF e):=by kernel_rfl
theorem MO (z i:Int) (x:Nat):aM prog (qG prog) f22.ntmps (RZ true (fun _=>none)) 60 (cB (cA (cB cC))) (.slot 8 (.im (.int .i64 0))::vA z i x) (vA z i x)=some ([],.nrm,vA z i x):=by kernel_rfl
theorem Dw (z i:Int) (x:Nat):aM prog (qG prog) f22.ntmps (RZ true (aE [(23,.bool true)])) 60 (cB (cB cC)) (vA z i x) (CF kF 71)=some ([Value.bool (!dN z 28)=.bool true],.rt,CF kF 71):=by kernel_rfl
theorem ZH (log:Nat) (i:Int) (x:Nat):aM prog { qG prog with x:=xG (aE [(26,iI (2^log))]) } f22.ntmps (RZ true (aE [(23,.bool false),(28,.bool true)])) 60 (cB (cB cC)) (vA (Int.ofNat log) i x) (CF kF 1)=some ([Value.bool (!dN (Int.ofNat log) 28)=.bool false,cO .shl 3 (.const (iI 1)) (.tmp 25) (iI 1) (iI log) (iI (2^log)),aD .lss .i64 i 0=some (.bool true)],.rt,CF kF 1):=by kernel_rfl
theorem ZG (log:Nat) (i:Int) (x:Nat):aM prog { qG prog with x:=xG (aE [(26,iI (2^log))]) } f22.ntmps (RZ true (aE [(23,.bool false),(28,.bool false),(32,.bool true)])) 60 (cB (cB cC)) (vA (Int.ofNat log) i x) (CF kF 1)=some ([Value.bool (!dN (Int.ofNat log) 28)=.bool false,cO .shl 3 (.const (iI 1)) (.tmp 25) (iI 1) (iI log) (iI (2^log)),aD .lss .i64 i 0=some (.bool false),aD .geq .i64 i (Int.ofNat (2^log))=some (.bool true)],.rt,CF kF 1):=by kernel_rfl
def Dx (log i:Nat):List Prop:=[Value.bool (!dN (Int.ofNat log) 28)=.bool false,cO .shl 3 (.const (iI 1)) (.tmp 25) (iI 1) (iI log) (iI (2^log)),aD .lss .i64 (Int.ofNat i) 0=some (.bool false),aD .geq .i64 (Int.ofNat i) (Int.ofNat (2^log))=some (.bool false),log<9223372036854775808,fO log<RM,i<9223372036854775808]
theorem SW (log i x:Nat):aM prog { qG prog with x:=xG (aE [(26,iI (2^log))]) } f22.ntmps (RZ true (aE [(23,.bool false),(28,.bool false),(32,.bool false)])) 60 (cB (cB cC)) (vA (Int.ofNat log) (Int.ofNat i) x) (CF [.q 1] 0)=some (Dx log i++[aC [.q x]=aC [.q (fD (fO log) i)]],.rt,CF [.q 1] 0):=by kernel_rfl
theorem SX (log i x:Nat):aM prog { qG prog with x:=xG (aE [(26,iI (2^log)),(51,.int .u64 (Int.ofNat (2^log)))]) } f22.ntmps (RZ false (aE [(23,.bool false),(28,.bool false),(32,.bool false)])) 60 (cB (cB cC)) (vA (Int.ofNat log) (Int.ofNat i) x) (CF [.q (wT log i x)] 0) =
  some (Dx log i++[aC [.q x]≠aC [.q (fD (fO log) i)],x<RM,2^log<9223372036854775808,fD x (2^log)<RM,1<RM,fD (fO log) i<RM,lH (fD x (2^log)) 1<RM,∀w:World,(convert 3 23 (iI (2^log))).run prog w=.ok (.int .u64 (Int.ofNat (2^log))) w,2^log<18446744073709551616,x<RM,fD (fO log) i<RM,2^log<RM,lH x (fD (fO log) i)<RM,gH (2^log) (lH x (fD (fO log) i))<RM,gH (2^log) (lH x (fD (fO log) i))≠0,gH (fD (fO log) i) (lH (fD x (2^log)) 1)<RM,CD (gH (2^log) (lH x (fD (fO log) i)))<RM],.rt,CF [.q (wT log i x)] 0):=by kernel_rfl
theorem UV (x:Nat):VX 1 (fun _=>1) (fun _ _=>x)=vC x:=by
 have e1:nL 1 (fun _=>1)↔True:=⟨fun _=>trivial,fun _ j hj=>by show 1≤65536; omega⟩;have e2:oV 1 (fun _=>1) (fun _ _=>x)↔x<RM:=⟨fun h=>h 0 (by omega) 0 (show 0<1 by omega),fun h j hj k hk=>h⟩;unfold VX vC;simp only[e1,e2,if_true]
theorem IE {w:World} {x b b2:Nat} (hx:x<bI) (h1:oldOf w b 0 [.q x]) (h2:oldOf w b2 0 [.c (aZ b 0 1 1)]):Good prog 51 (.one (.im (.int .i64 (vC x)))) [aZ b2 0 1 1] w:=by
 rw[←UV];exact uK (vs:=fun _=>aZ b 0 1 1) ⟨b2,0,1,rfl,h2.1,h2.2⟩ (fun j hj=>LV.one h1 hx) (by omega) fun j hj=>by omega
theorem nJ {log:Nat} (h:log≤28):cO .shl 3 (.const (iI 1)) (.tmp 25) (iI 1) (iI log) (iI (2^log)):=iN h
theorem FN {w0:World} (z i:Int) {x:Nat} (hx:x<bI) (hi:i<9223372036854775808):Good prog 22 (.many (wU z i x)) [iV z,iV i,.agg (aC [At.q x]).toArray] w0:=by
 have hG:bH prog (qG prog) w0.heap.size w0:=(aW _).w _ _;have hT:∀n d:Nat,TabOkW prog dO w0.heap.size w0:=fun _ _=>bD.w _ _
 have hR:∀n d:Nat,TabOkW prog PA w0.heap.size w0:=fun _ _=>FA.w _ _
 refine bP func22 (cs:=[.v (.im (iV z)),.v (.im (iV i)),.v (.fl [.q x])]) (args:=[iV z,iV i,.agg (aC [At.q x]).toArray]) (c:=cC) rfl ⟨rfl,rfl,rfl,trivial⟩ (Nat.le_of_ble_eq_true (by kernel_rfl)) fun a w1 hA => ?_
 rw[MP];refine wp_seq (aA aK hT hG (ZF z i x) trivial hA fun a w1 hA => ?_);refine wp_seq (wp_seq (fH (l:=List.range' 0 ((bJ (cA (cA (cB cC)))).extract 0 2).size++(List.range' 2 ((bJ (cA (cA (cB cC)))).extract 2 3).size++(3::(List.range' 4 ((bJ (cA (cA (cB cC)))).extract 4 5).size++[])))) (by kernel_rfl) ?_));refine bG (c:=dX) (hT 0) hG (ZE z i x) trivial (by kernel_rfl) hA fun a w1 hA => ?_
 obtain⟨b,hA⟩:=hA.at (k:=14) (l:=[.q x]) (by simp[ZI]);have hA:=hA.im (s:=14) (k:=14) (o:=0) (n:=1) (m:=1) (b:=b) (by simp[ZI]) (by simp);refine bG (c:=dX) (hT 0) hG (ZD z i x b) trivial (by kernel_rfl) hA fun a w1 hA => ?_
 obtain⟨b2,hB⟩:=hA.at (k:=15) (l:=[.c (aZ b 0 1 1)]) (by simp[QF]);have h11:=(hB.im (s:=15) (k:=15) (o:=0) (n:=1) (m:=1) (b:=b2) (by simp[QF]) (by simp)).slot (s:=15) (v:=aZ b2 0 1 1) (by simp);have o1:oldOf w1 b 0 [.q x]:=hA.old (k:=14) (by simp[QF]) (by simp[QF]);have o2:oldOf w1 b2 0 [.c (aZ b 0 1 1)]:=hB.old (k:=15) (by simp[QF]) (by simp);obtain⟨o,ho,hoo,hod,hog⟩:∃o,(bJ (cA (cA (cB cC))))[3]?=some o∧(∃ts,o.op=.call ⟨.value (.func 51),#[.tmp 15],ts⟩)∧o.dst=some 16∧o.guard=none:=⟨_,rfl,⟨_,rfl⟩,rfl,rfl⟩
 obtain⟨ts,hoo⟩:=hoo;refine gI ho hog (jS hoo (vs:=[aZ b2 0 1 1]) (by simp[Act.eval,h11]) (fun args=>bQ func51 (by kernel_rfl) (by kernel_rfl) args _) (IE hx o1 o2) fun w2 hb => ?_);rw[hod];have hA:=hA.put hb (d:=16) (Nat.le_of_ble_eq_true (by kernel_rfl)) (.im (.int .i64 (vC x))) (rC (by kernel_rfl));refine bG (c:=dX) (hT 0) hG (ZC z i x b _) trivial (by kernel_rfl) hA fun a w1 hA => ?_
 show (cB (cA (cB cC))).wp _ _ _ _;unfold wU
 by_cases hxr:x<RM
 ·rw[if_pos hxr];rw[show vC x=0 by unfold vC; rw[if_pos hxr]]at hA;refine aA aK hR hG (MO z i x) trivial hA fun a w1 hA => ?_
  show (cB (cB cC)).wp _ _ _ _
  by_cases hd:dN z 28=true
  ·rw[if_pos hd];obtain⟨h1,h2⟩:=oP.1 hd;obtain⟨log,rfl⟩:∃n:Nat,z=Int.ofNat n:=⟨z.toNat,by show z=((z.toNat:Nat):Int); omega⟩
   have h3:log≤28:=by have:(log:Int)≤28:=h2; omega
   rw[show (Int.ofNat log).toNat=log from rfl];have hp2:2^log≤268435456:=Nat.pow_le_pow_right (n:=2) (by omega) h3;have hp1:0<2^log:=Nat.pow_pos (by omega)
   by_cases hb:0≤i∧i<((2^log:Nat):Int)
   ·rw[if_pos hb];obtain⟨k,rfl⟩:∃n:Nat,i=Int.ofNat n:=⟨i.toNat,by show i=((i.toNat:Nat):Int); omega⟩
    have hk:k<2^log:=by have:=hb.2; show k<_; exact Int.ofNat_lt.1 this
    rw[show (Int.ofNat k).toNat=k from rfl];have hP:aO (Dx log k):=⟨by rw[hd]; rfl,nJ h3,by rw[eD,decide_eq_false (by omega)],by show some (Value.bool (decide (Int.ofNat k≥Int.ofNat (2^log))))=_; rw[decide_eq_false (by have:=hb.2; exact Int.not_le.2 this)],by omega,gC _ _,by omega,trivial⟩
    by_cases he:x=fD (fO log) k
    ·rw[if_pos he];exact aA aK hR (fC _ _ _) (SW log k x) (aR.2 ⟨hP,by rw[he],trivial⟩) hA fun a w' hA=>aY (l:=[.fl [.q 1],.im (iV 0)]) (r:=.many [.fl [.q 1],.im (iV 0)]) (by kernel_rfl) (by kernel_rfl) hA
    ·rw[if_neg he];have hw:=gC (fO log) k;have h2R:2^log<RM:=Nat.lt_of_le_of_lt hp2 (by decide);exact aA aK (fun _ _=>FA.w _ _) (fC _ _ _) (SX log k x) (aR.2 ⟨hP,fun q=>he ((vF (gK hxr) (gK hw)).1 q),hxr,by omega,gC _ _,by decide,hw,gU _ _,fun w=>IB (by omega) w,by omega,hxr,hw,h2R,gU _ _,eU _ _,EG h2R (gU _ _) (by omega) (EC hxr hw he),eU _ _,qX _,trivial⟩) hA fun a w' hA=>aY (l:=[.fl [.q (wT log k x)],.im (iV 0)]) (r:=.many [.fl [.q (wT log k x)],.im (iV 0)]) (by kernel_rfl) (by kernel_rfl) hA
   ·rw[if_neg hb]
    by_cases hn:i<0
    ·exact aA aK hR (fC _ _ _) (ZH log i x) ⟨by rw[hd]; rfl,nJ h3,by rw[eD,decide_eq_true hn],trivial⟩ hA fun a w' hA=>aY (l:=[.fl kF,.im (iV 1)]) (r:=.many [.fl kF,.im (iV 1)]) (by kernel_rfl) (by kernel_rfl) hA
    ·exact aA aK hR (fC _ _ _) (ZG log i x) ⟨by rw[hd]; rfl,nJ h3,by rw[eD,decide_eq_false hn],by show some (Value.bool (decide (i≥Int.ofNat (2^log))))=_; rw[decide_eq_true (by rcases Int.lt_or_le i ((2^log:Nat):Int)with q|q; exact absurd ⟨by omega,q⟩ hb; exact q)],trivial⟩ hA fun a w' hA=>aY (l:=[.fl kF,.im (iV 1)]) (r:=.many [.fl kF,.im (iV 1)]) (by kernel_rfl) (by kernel_rfl) hA
  ·rw[if_neg hd];have h0:dN z 28=false:=by simpa using hd
   exact aA aK hR hG (Dw z i x) ⟨by rw[h0]; rfl,trivial⟩ hA fun a w' hA=>aY (l:=[.fl kF,.im (iV 71)]) (r:=.many [.fl kF,.im (iV 71)]) (by kernel_rfl) (by kernel_rfl) hA
 ·rw[if_neg hxr];rw[show vC x=21 by unfold vC; rw[if_neg hxr]]at hA;exact aA aK hR hG (SY z i x 21) ⟨rfl,trivial⟩ hA fun a w' hA=>aY (l:=[.fl kF,.im (iV 21)]) (r:=.many [.fl kF,.im (iV 21)]) (by kernel_rfl) (by kernel_rfl) hA
theorem KU (log:Nat):eC prog { qG prog with x:=xG (aE [(4,iI (2^log))]) } (VO true fun _=>none) f41 40 [.v (.im (iI log))]=some ([cO .shl 3 (.const (iI 1)) (.tmp 3) (iI 1) (iI log) (iI (2^log))],.one (.im (iI (2^log)))):=by kernel_rfl
def Ec:jN
 | [.v (.im (.int .i64 (.ofNat log)))]=>some ([log≤28],.one (.im (iI (2^log))))
 | _=>none
theorem TR:∀cs pre r,Ec cs=some (pre,r)→aO pre→∀(args:List Value) (w:World),cG w cs args→Good prog 41 r args w:=by
 intro cs pre r hg hp args w ha;unfold Ec at hg;split at hg
 ·cases hg;exact bM aK (fun _ _=>mH.w _ _) (fC _ _ _) func41 (KU _) ⟨iN hp.1,trivial⟩ ha
 ·cases hg
def PB:Tab:=PA.add 41 Ec
theorem PW:TabOk prog PB:=FA.add func41 (by kernel_rfl) (by kernel_rfl) TR
def PT (h:Bool) (i n:Nat) (num:Nat→Option Value) (_:Nat):Cfg:=⟨fun s=>PB.add 59 (wX (bif Nat.beq s 38 then i else n) false),fun _=>h,num⟩
theorem SQ (i n:Nat) (s:Nat):TabOk prog (PB.add 59 (wX (bif Nat.beq s 38 then i else n) false)):=PW.add func59 (by kernel_rfl) (by kernel_rfl) SA
def QO (x:Nat) (b:Bool):List Prop:=[x<bI,Value.bool (!decide (x<RM))=.bool b]
theorem KQ (z i:Int) (x:Nat):eC prog (qG prog) (PT true 0 0 (aE [(15,.bool true)])) f23 60 [.v (.im (iV z)),.v (.im (iV i)),.v (.fl [.q x])]=some (QO x true,.many [.fl kF,.im (iV 21)]):=by kernel_rfl
theorem KP (z i:Int) (x:Nat):eC prog (qG prog) (PT true 0 0 (aE [(15,.bool false),(18,.bool true)])) f23 60 [.v (.im (iV z)),.v (.im (iV i)),.v (.fl [.q x])]=some (QO x false++[aD .lss .i64 z 0=some (.bool true)],.many [.fl kF,.im (iV 71)]):=by kernel_rfl
theorem KO (z i:Int) (x:Nat):eC prog (qG prog) (PT true 0 0 (aE [(15,.bool false),(18,.bool false),(21,.bool true)])) f23 60 [.v (.im (iV z)),.v (.im (iV i)),.v (.fl [.q x])]=some (QO x false++[aD .lss .i64 z 0=some (.bool false),aD .gtr .i64 z 28=some (.bool true)],.many [.fl kF,.im (iV 71)]):=by kernel_rfl
def Cm (log:Nat):List Prop:=[aD .lss .i64 (Int.ofNat log) 0=some (.bool false),aD .gtr .i64 (Int.ofNat log) 28=some (.bool false)]
theorem KN (log:Nat) (i:Int) (x:Nat):eC prog (qG prog) (PT true 0 0 (aE [(15,.bool false),(18,.bool false),(21,.bool false),(25,.bool true)])) f23 60 [.v (.im (iI log)),.v (.im (iV i)),.v (.fl [.q x])]=some (QO x false++(Cm log++[aD .lss .i64 i 0=some (.bool true)]),.many [.fl kF,.im (iV 1)]):=by kernel_rfl
theorem KM (log:Nat) (i:Int) (x:Nat):eC prog (qG prog) (PT true 0 0 (aE [(15,.bool false),(18,.bool false),(21,.bool false),(25,.bool false),(30,.bool true)])) f23 60 [.v (.im (iI log)),.v (.im (iV i)),.v (.fl [.q x])]=some (QO x false++(Cm log++[aD .lss .i64 i 0=some (.bool false),log≤28,aD .geq .i64 i (Int.ofNat (2^log))=some (.bool true)]),.many [.fl kF,.im (iV 1)]):=by kernel_rfl
def Dm (log i:Nat):List Prop:=Cm log++[aD .lss .i64 (Int.ofNat i) 0=some (.bool false),log≤28,aD .geq .i64 (Int.ofNat i) (Int.ofNat (2^log))=some (.bool false),log≤28,∀w:World,(convert 3 23 (iI i)).run prog w=.ok (.int .u64 (Int.ofNat i)) w,fO log<RM,aC (WK i)=aC [.q i],i<bI]
theorem KL (log i:Nat) (x:Nat):eC prog { qG prog with x:=xG (aE [(36,.int .u64 (Int.ofNat i))]) } (PT true i 0 (aE [(15,.bool false),(18,.bool false),(21,.bool false),(25,.bool false),(30,.bool false)])) f23 60 [.v (.im (iI log)),.v (.im (iI i)),.v (.fl [.q x])]=some (QO x false++(Dm log i++[aC [.q x]=aC [.q (fD (fO log) i)],1<18446744073709551616]),.many [.fl [.q 1],.im (iV 0)]):=by kernel_rfl
theorem KJ (log i:Nat) (x:Nat):eC prog { qG prog with x:=xG (aE [(36,.int .u64 (Int.ofNat i)),(46,.int .u64 (Int.ofNat (2^log))),(53,.int .u64 (Int.ofNat (2^log)))]) } (PT false i (2^log) (aE [(15,.bool false),(18,.bool false),(21,.bool false),(25,.bool false),(30,.bool false)])) f23 60 [.v (.im (iI log)),.v (.im (iI i)),.v (.fl [.q x])] =
  some (QO x false++(Dm log i++[aC [.q x]≠aC [.q (fD (fO log) i)],log≤28,∀w:World,(convert 3 23 (iI (2^log))).run prog w=.ok (.int .u64 (Int.ofNat (2^log))) w,x<RM,aC (WK (2^log))=aC [.q (2^log)],2^log<bI,1<18446744073709551616,fD x (2^log)<RM,1<RM,log≤28,∀w:World,(convert 3 23 (iI (2^log))).run prog w=.ok (.int .u64 (Int.ofNat (2^log))) w,2^log<18446744073709551616,x<RM,fD (fO log) i<RM,2^log<RM,lH x (fD (fO log) i)<RM,gH (2^log) (lH x (fD (fO log) i))<RM,gH (2^log) (lH x (fD (fO log) i))≠0,fD (fO log) i<RM,lH (fD x (2^log)) 1<RM,gH (fD (fO log) i) (lH (fD x (2^log)) 1)<RM,CD (gH (2^log) (lH x (fD (fO log) i)))<RM]),.many [.fl [.q (wT log i x)],.im (iV 0)]):=by kernel_rfl
theorem EH {w:World} (z i:Int) {x:Nat} (hx:x<bI) (hi:i<9223372036854775808) (args:List Value) (ha:cG w [.v (.im (iV z)),.v (.im (iV i)),.v (.fl [.q x])] args):Good prog 23 (.many (wU z i x)) args w:=by
 have ok:∀(h:Bool) (i n:Nat) (num:Nat→Option Value),∀m d:Nat,TabOk prog ((PT h i n num m).T d):=fun _ i n _ _ d=>SQ i n d
 unfold wU
 by_cases hxr:x<RM
 ·rw[if_pos hxr];have hB:aO (QO x false):=⟨hx,by rw[decide_eq_true hxr]; rfl,trivial⟩
  by_cases hd:dN z 28=true
  ·rw[if_pos hd];obtain⟨h1,h2⟩:=oP.1 hd;obtain⟨log,rfl⟩:∃n:Nat,z=Int.ofNat n:=⟨z.toNat,by show z=((z.toNat:Nat):Int); omega⟩
   have h3:log≤28:=by have:(log:Int)≤28:=h2; omega
   rw[show (Int.ofNat log).toNat=log from rfl];have hL:aO (Cm log):=⟨by rw[eD,decide_eq_false (by omega)],by rw[mJ,decide_eq_false (by omega)],trivial⟩;have hp2:2^log≤268435456:=Nat.pow_le_pow_right (n:=2) (by omega) h3;have hp1:0<2^log:=Nat.pow_pos (by omega)
   by_cases hb:0≤i∧i<((2^log:Nat):Int)
   ·rw[if_pos hb];obtain⟨k,rfl⟩:∃n:Nat,i=Int.ofNat n:=⟨i.toNat,by show i=((i.toNat:Nat):Int); omega⟩
    have hk:k<2^log:=by have:=hb.2; show k<_; exact Int.ofNat_lt.1 this
    rw[show (Int.ofNat k).toNat=k from rfl];have hk64:k<18446744073709551616:=by omega
    have hP:aO (Dm log k):=aR.2 ⟨hL,by rw[eD,decide_eq_false (by omega)],h3,by show some (Value.bool (decide (Int.ofNat k≥Int.ofNat (2^log))))=_; rw[decide_eq_false (by have:=hb.2; exact Int.not_le.2 this)],h3,fun w=>IB (by omega) w,gC _ _,nD hk64,Nat.lt_trans hk64 (by decide),trivial⟩
    by_cases he:x=fD (fO log) k
    ·rw[if_pos he];exact bM aK (fun n d=>(ok _ _ _ _ n d).w _ _) (fC _ _ _) func23 (KL log k x) (aR.2 ⟨hB,aR.2 ⟨hP,by rw[he],by omega,trivial⟩⟩) ha
    ·rw[if_neg he];have hw:=gC (fO log) k;have h2R:2^log<RM:=Nat.lt_of_le_of_lt hp2 (by decide);have h64:2^log<18446744073709551616:=by omega
     exact bM aK (fun n d=>(ok _ _ _ _ n d).w _ _) (fC _ _ _) func23 (KJ log k x) (aR.2 ⟨hB,aR.2 ⟨hP,fun q=>he ((vF (gK hxr) (gK hw)).1 q),h3,fun w=>IB (by omega) w,hxr,nD h64,Nat.lt_trans h64 (by decide),by omega,gC _ _,by decide,h3,fun w=>IB (by omega) w,h64,hxr,hw,h2R,gU _ _,eU _ _,EG h2R (gU _ _) (by omega) (EC hxr hw he),hw,gU _ _,eU _ _,qX _,trivial⟩⟩) ha
   ·rw[if_neg hb]
    by_cases hn:i<0
    ·exact bL aK (ok _ _ _ _) (aW _) func23 (KN log i x) (aR.2 ⟨hB,aR.2 ⟨hL,by rw[eD,decide_eq_true hn],trivial⟩⟩) ha
    ·exact bL aK (ok _ _ _ _) (aW _) func23 (KM log i x) (aR.2 ⟨hB,aR.2 ⟨hL,by rw[eD,decide_eq_false hn],h3,by show some (Value.bool (decide (i≥Int.ofNat (2^log))))=_; rw[decide_eq_true (by rcases Int.lt_or_le i ((2^log:Nat):Int)with q|q; exact absurd ⟨by omega,q⟩ hb; exact q)],trivial⟩⟩) ha
  ·rw[if_neg hd]
   by_cases h1:z<0
   ·exact bL aK (ok _ _ _ _) (aW _) func23 (KP z i x) (aR.2 ⟨hB,by rw[eD,decide_eq_true h1],trivial⟩) ha
   ·have h2:z>28:=by
     rcases Int.lt_or_le 28 z with q|q
     ·exact q
     ·exact absurd (oP.2 ⟨by omega,q⟩) hd
    exact bL aK (ok _ _ _ _) (aW _) func23 (KO z i x) (aR.2 ⟨hB,by rw[eD,decide_eq_false h1],by rw[mJ,decide_eq_true h2],trivial⟩) ha
 ·rw[if_neg hxr];exact bL aK (ok _ _ _ _) (aW _) func23 (KQ z i x) ⟨hx,by rw[decide_eq_false hxr]; rfl,trivial⟩ ha
def gD:Code:=(f25.body).getD .skip
def jV:Code:=jM (jM (cB (cA (cB gD))))
theorem LE:gD=.seq (cA gD) (.seq (.seq (cA (cA (cB gD))) (.block 0 (.loop jV))) (cB (cB gD))):=by kernel_rfl
theorem XP (X:Nat→Int):aM prog (qG prog) f25.ntmps (bW fun _=>none) 40 (cA gD) (eK 0 [.v (.fl (x4 X))]) (uC X)=some ([],.nrm,uC X):=by kernel_rfl
def AK (X:Nat→Int) (i:Nat):List Fact:=.slot 5 (.im (iI i))::uC X
theorem XO (X:Nat→Int):aM prog (qG prog) f25.ntmps (bW fun _=>none) 40 (cA (cA (cB gD))) (uC X) (AK X 0)=some ([],.nrm,AK X 0):=by kernel_rfl
def Fh (X:Nat→Int) (i:Nat):List Prop:=[aD .lss .i64 (Int.ofNat i) 4=some (.bool true),aD .lss .i64 (X i) (-1099511627776)=some (.bool false),aD .gtr .i64 (X i) 1099511627776=some (.bool false),aD .add .i64 (Int.ofNat i) 1=some (iI (i+1))]
theorem XQ (X:Nat→Int):∀i,i<4→aM prog (qG prog) f25.ntmps (bW (aE [(9,.bool true),(15,.bool false),(20,.bool false),(11,iI (i+1))])) 40 jV (AK X i) (AK X (i+1))=some (Fh X i,.nrm,AK X (i+1))
 | 0,_=>by kernel_rfl
 | 1,_=>by kernel_rfl
 | 2,_=>by kernel_rfl
 | 3,_=>by kernel_rfl
theorem XT (X:Nat→Int):∀i,i<4→aM prog (qG prog) f25.ntmps (bW (aE [(9,.bool true),(15,.bool true)])) 40 jV (AK X i) (vB z4 z4 4)=some ([aD .lss .i64 (Int.ofNat i) 4=some (.bool true),aD .lss .i64 (X i) (-1099511627776)=some (.bool true)],.rt,vB z4 z4 4)
 | 0,_=>by kernel_rfl
 | 1,_=>by kernel_rfl
 | 2,_=>by kernel_rfl
 | 3,_=>by kernel_rfl
theorem XS (X:Nat→Int):∀i,i<4→aM prog (qG prog) f25.ntmps (bW (aE [(9,.bool true),(15,.bool false),(20,.bool true)])) 40 jV (AK X i) (vB z4 z4 4)=some ([aD .lss .i64 (Int.ofNat i) 4=some (.bool true),aD .lss .i64 (X i) (-1099511627776)=some (.bool false),aD .gtr .i64 (X i) 1099511627776=some (.bool true)],.rt,vB z4 z4 4)
 | 0,_=>by kernel_rfl
 | 1,_=>by kernel_rfl
 | 2,_=>by kernel_rfl
 | 3,_=>by kernel_rfl
theorem Do (X:Nat→Int) (i:Nat):aM prog (qG prog) f25.ntmps (bW (aE [(9,.bool false)])) 40 jV (AK X i) (uC X)=some ([aD .lss .i64 (Int.ofNat i) 4=some (.bool false)],.ex 0,uC X):=by kernel_rfl
def JE (X:Nat→Int) (j:Nat):Int:=if j=0 then X 0+X 1+X 2+X 3 else if j=2 then X 0-X 1+X 2-X 3 else X 0-X 2
def JF (X:Nat→Int) (j:Nat):Int:=if j=1 then X 3-X 1 else if j=3 then X 1-X 3 else 0
theorem Dn (X:Nat→Int):aM prog (qG prog) f25.ntmps (bW (aE [(28,iV (X 0+X 1)),(31,iV (X 0+X 1+X 2)),(34,iV (X 0+X 1+X 2+X 3)),(39,iV (X 0-X 2)),(44,iV (X 0-X 1)),(47,iV (X 0-X 1+X 2)),(50,iV (X 0-X 1+X 2-X 3)),(55,iV (X 0-X 2)),(61,iV (X 3-X 1)),(66,iV (X 1-X 3))])) 60 (cB (cB gD)) (uC X) (vB (JE X) (JF X) 0) =
  some ([aD .add .i64 (X 0) (X 1)=some (iV (X 0+X 1)),aD .add .i64 (X 0+X 1) (X 2)=some (iV (X 0+X 1+X 2)),aD .add .i64 (X 0+X 1+X 2) (X 3)=some (iV (X 0+X 1+X 2+X 3)),aD .sub .i64 (X 0) (X 2)=some (iV (X 0-X 2)),aD .sub .i64 (X 0) (X 1)=some (iV (X 0-X 1)),aD .add .i64 (X 0-X 1) (X 2)=some (iV (X 0-X 1+X 2)),aD .sub .i64 (X 0-X 1+X 2) (X 3)=some (iV (X 0-X 1+X 2-X 3)),aD .sub .i64 (X 0) (X 2)=some (iV (X 0-X 2)),aD .sub .i64 (X 3) (X 1)=some (iV (X 3-X 1)),aD .sub .i64 (X 1) (X 3)=some (iV (X 1-X 3))],.rt,vB (JE X) (JF X) 0):=by kernel_rfl
theorem SB (X:Nat→Int):x4 (JE X)=x4 (fun j=>iD oS X j 4):=by
 have h:∀j,j<4→JE X j=iD oS X j 4:=fun j hj=>by
  match j,hj with
  | 0,_=>simp[JE,iD,oS]
  | 1,_=>simp[JE,iD,oS]<;>omega
  | 2,_=>simp[JE,iD,oS]<;>omega
  | 3,_=>simp[JE,iD,oS]<;>omega
 unfold x4;rw[h 0 (by omega),h 1 (by omega),h 2 (by omega),h 3 (by omega)]
theorem SC (X:Nat→Int):x4 (JF X)=x4 (fun j=>iD pB X j 4):=by
 have h:∀j,j<4→JF X j=iD pB X j 4:=fun j hj=>by
  match j,hj with
  | 0,_=>simp[JF,iD,pB]
  | 1,_=>simp[JF,iD,pB]<;>omega
  | 2,_=>simp[JF,iD,pB]<;>omega
  | 3,_=>simp[JF,iD,pB]<;>omega
 unfold x4;rw[h 0 (by omega),h 1 (by omega),h 2 (by omega),h 3 (by omega)]
theorem GD {z:Int} (h : -9223372036854775808≤z∧z<9223372036854775808):IntKind.i64.wrap z=z:=by
 simp only[IntKind.wrap,IntKind.bits,IntKind.signed]
 first|omega|(simp; omega)|(split<;>omega)
theorem yZ {a b:Int} (h : -9223372036854775808≤a+b∧a+b<9223372036854775808):aD .add .i64 a b=some (iV (a+b)):=by
 show some (Value.int .i64 (IntKind.i64.wrap (a+b)))=_;rw[GD h]; rfl
theorem pX {a b:Int} (h : -9223372036854775808≤a-b∧a-b<9223372036854775808):aD .sub .i64 a b=some (iV (a-b)):=by
 show some (Value.int .i64 (IntKind.i64.wrap (a-b)))=_;rw[GD h]; rfl
def UF (X:Nat→Int) (j:Nat):Int:=if pG X then iD oS X j 4 else 0
def UG (X:Nat→Int) (j:Nat):Int:=if pG X then iD pB X j 4 else 0
def UH (X:Nat→Int):Int:=if pG X then 0 else 4
def QL (X:Nat→Int):List TV:=[.fl (x4 (UF X)),.fl (x4 (UG X)),.im (iV (UH X))]
theorem QJ {X:Nat→Int} (h:pG X):QL X=[.fl (x4 fun j=>iD oS X j 4),.fl (x4 fun j=>iD pB X j 4),.im (iV 0)]:=by
 unfold QL x4 UF UG UH; simp only[if_pos h]
theorem QK {X:Nat→Int} (h:¬pG X):QL X=[.fl (x4 z4),.fl (x4 z4),.im (iV 4)]:=by
 unfold QL x4 UF UG UH z4; simp only[if_neg h]
theorem mG (X:Nat→Int) (w:World):Good prog 24 (.many (QL X)) [.agg (aC (x4 X)).toArray] w:=by
 by_cases h:pG X
 ·rw[QJ h]; exact (oI X w).1 h
 ·rw[QK h]; exact (oI X w).2 h
theorem sY (X:Nat→Int) (w0:World):Good prog 25 (.many (QL X)) [.agg (aC (x4 X)).toArray] w0:=by
 have hG:bH prog (qG prog) w0.heap.size w0:=(aW _).w _ _;have hT:∀n d:Nat,TabOkW prog dO w0.heap.size w0:=fun _ _=>bD.w _ _
 refine bP func25 (cs:=[.v (.fl (x4 X))]) (args:=[.agg (aC (x4 X)).toArray]) (c:=gD) rfl ⟨rfl,trivial⟩ (Nat.le_of_ble_eq_true (by kernel_rfl)) fun a w1 hA => ?_
 rw[LE];refine wp_seq (aA aK hT hG (XP X) trivial hA fun a w1 hA => ?_);refine wp_seq (wp_seq (aA aK hT hG (XO X) trivial hA fun a w1 hA => ?_));refine wp_block ?_;have step:∀i,i<4→(-1099511627776≤X i∧X i≤1099511627776)→Ok prog w0.heap.size w0 f25.ntmps jV (AK X i) .nrm (AK X (i+1)):=fun i hi hr =>
  ⟨_,_,_,_,hG,hT,XQ X i hi,iY hi,by rw[eD,decide_eq_false (by omega)],by rw[mJ,decide_eq_false (by omega)],fF (k:=1) (by omega),trivial⟩
 by_cases h:pG X
 ·rw[QJ h,←SB,←SC];refine dA aK (fun i=>AK X i) 4 (fun i hi=>step i hi (h i hi)) (.ex 0) (by simp) (uC X) ⟨_,_,_,_,hG,hT,Do X 4,rI (Nat.le_refl _),trivial⟩ hA fun a w hA => ?_
  show (cB (cB gD)).wp _ _ _ _;have h0:=h 0 (by omega);have h1:=h 1 (by omega);have h2:=h 2 (by omega);have h3:=h 3 (by omega);exact aA aK hT hG (Dn X) ⟨yZ (by omega),yZ (by omega),yZ (by omega),pX (by omega),pX (by omega),yZ (by omega),pX (by omega),pX (by omega),pX (by omega),pX (by omega),trivial⟩ hA fun a w hA=>aY (l:=[.fl (x4 (JE X)),.fl (x4 (JF X)),.im (iV 0)]) (r:=.many [.fl (x4 (JE X)),.fl (x4 (JF X)),.im (iV 0)]) (by kernel_rfl) (by kernel_rfl) hA
 ·rw[QK h];obtain⟨j,hj,h1,h2⟩:=fI (p:=fun k => -1099511627776≤X k∧X k≤1099511627776) h;have hbad:Ok prog w0.heap.size w0 f25.ntmps jV (AK X j) .rt (vB z4 z4 4):=by
   by_cases q:X j < -1099511627776
   ·exact⟨_,_,_,_,hG,hT,XT X j hj,iY hj,by rw[eD,decide_eq_true q],trivial⟩
   ·exact⟨_,_,_,_,hG,hT,XS X j hj,iY hj,by rw[eD,decide_eq_false q],by rw[mJ,decide_eq_true (by omega)],trivial⟩
  refine dA aK (fun i=>AK X i) j (fun i hi=>step i (by omega) (h1 i hi)) .rt (by simp) (vB z4 z4 4) hbad hA fun a w hA => ?_
  exact aY (l:=[.fl (x4 z4),.fl (x4 z4),.im (iV 4)]) (r:=.many [.fl (x4 z4),.fl (x4 z4),.im (iV 4)]) (by kernel_rfl) (by kernel_rfl) hA
def VT (X:Nat→Int):jN
 | [.v (.fl l)]=>some ([aC l=aC (x4 X)],.many (QL X))
 | _=>none
theorem wY {f:FuncId} {X:Nat→Int} (h:∀w,Good prog f (.many (QL X)) [.agg (aC (x4 X)).toArray] w):∀cs pre r,VT X cs=some (pre,r)→aO pre→∀(args:List Value) (w:World),cG w cs args→Good prog f r args w:=by
 intro cs pre r hg hp args w ha;unfold VT at hg;split at hg
 ·cases hg
  match args,ha with
  | [v],ha =>
   have h1:v=.agg (aC _).toArray:=ha.1;rw[hp.1]at h1;subst h1;exact h w
  | [],ha=>exact ha.elim
  | _::_::_,ha=>exact ha.2.elim
 ·cases hg
theorem DY (z:Int):rQ prog dO (qG prog) (fun _=>true) f14 40 [.v (.im (iV z))]=some ([],.one (.im (iV z))):=by kernel_rfl
def Ed:jN
 | [.v (.im (.int .i64 z))]=>some ([],.one (.im (iV z)))
 | _=>none
theorem TT:∀cs pre r,Ed cs=some (pre,r)→aO pre→∀(args:List Value) (w:World),cG w cs args→Good prog 14 r args w:=by
 intro cs pre r hg hp args w ha;unfold Ed at hg;split at hg
 ·cases hg;exact dT aK bD (aW _) func14 (DY _) trivial ha
 ·cases hg
def PC:Tab:=(PB.add 14 Ed).add 50 (g0 (.one (.fl [.q (PP 1)])))
theorem PX:TabOk prog PC:=(PW.add func14 (by kernel_rfl) (by kernel_rfl) TT).add func50 (by kernel_rfl) (by kernel_rfl) (zG fun w=>dT aK PV (aW _) func50 KY ⟨by decide,trivial⟩ (args:=[]) trivial)
theorem lW (a b:Int) (w:World):(Op.equalIn 9999 3 (iV a) (iV b)).run prog w=.ok (decide (a=b)) w:=by
 exact run_equalIn_int (P:=prog) w 9998 3 .i64 .i64 a b (by kernel_rfl)
theorem SD (cs:List Value) (off:Nat) (h:off+1≤cs.length) (w:World):(part 3 cs.toArray off).run prog w=.ok (CE false ((cs.drop off).take 1)) w:=by
 have:=iX (P:=prog) (t:=3) (n:=1) (by kernel_rfl) (by kernel_rfl) (fun _=>rfl) cs off h w;rw[show gQ prog 3=false by kernel_rfl]at this;exact this
theorem zL (a b c d a' b' c' d':Int) (w:World):(Op.equalIn 10000 45 (.agg #[iV a,iV b,iV c,iV d]) (.agg #[iV a',iV b',iV c',iV d'])).run prog w=.ok (decide (a=a'∧b=b'∧c=c'∧d=d')) w:=by
 refine (fZ (P:=prog) w 9999 45 4 3 1 _ _ (by kernel_rfl) (by kernel_rfl)).trans ?_;have p:∀(x y z u:Int) (i:Nat) (h:i+1≤4) (w:World),(part 3 #[iV x,iV y,iV z,iV u] i).run prog w=.ok (CE false (([iV x,iV y,iV z,iV u].drop i).take 1)) w:=fun x y z u i h w=>SD [iV x,iV y,iV z,iV u] i h w
 simp only[gB,Sem.run_bind,Nat.zero_mul,Nat.mul_one,Nat.zero_add,Nat.reduceAdd,Nat.reduceMul,p _ _ _ _ 0 (by omega),p _ _ _ _ 1 (by omega),p _ _ _ _ 2 (by omega),p _ _ _ _ 3 (by omega),List.drop,List.take,CE,lW,Result.andThen_ok]
 by_cases h1:a=a'
 ·by_cases h2:b=b'
  ·by_cases h3:c=c'
   ·by_cases h4:d=d'
    ·simp[h1,h2,h3,h4,p,CE,lW]
    ·simp[h1,h2,h3,h4,p,CE,lW]
   ·simp[h1,h2,h3,p,CE,lW]
  ·simp[h1,h2,p,CE,lW]
 ·simp[h1,p,CE,lW]
def uG:List At→Bool
 | [.c (.int .i64 _),.c (.int .i64 _),.c (.int .i64 _),.c (.int .i64 _)]=>true
 | _=>false
theorem rR {l:List At} (h:uG l=true):∃a b c d:Int,l=[.c (iV a),.c (iV b),.c (iV c),.c (iV d)]:=by
 unfold uG at h;split at h
 ·exact⟨_,_,_,_,rfl⟩
 ·cases h
def qI:EqT:={ qG prog with q:=fun t=>bif Nat.beq t 45 then some 4 else (qG prog).q t,n:=fun t=>bif Nat.beq t 45 then some 4 else (qG prog).n t,fit:=fun t l=>bif Nat.beq t 45 then uG l else (qG prog).fit t l }
theorem EK:pA prog qI:=by
 obtain⟨⟨h1,h2⟩,h3⟩:=aW prog;refine⟨fun t n h => ?_,fun t n h => ?_⟩
 ·by_cases e:Nat.beq t 45=true
  ·have ht:=Nat.eq_of_beq_eq_true e;subst ht;refine⟨by kernel_rfl,fun l w hl hf => ?_⟩;obtain⟨a,b,c,d,rfl⟩:=rR (show uG l=true from hf);refine (zL a b c d a b c d w).trans ?_;rw[decide_eq_true ⟨rfl,rfl,rfl,rfl⟩]
  ·have e':Nat.beq t 45=false:=Bool.eq_false_iff.2 e;have h':(qG prog).q t=some n:=by
    have:(bif Nat.beq t 45 then some 4 else (qG prog).q t)=some n:=h;rw[e']at this;exact this
   obtain⟨g1,g2⟩:=h1 t n h';refine⟨g1,fun l w hl hf=>g2 l w hl ?_⟩;have:(bif Nat.beq t 45 then uG l else (qG prog).fit t l)=true:=hf;rw[e']at this;exact this
 ·by_cases e:Nat.beq t 45=true
  ·have ht:=Nat.eq_of_beq_eq_true e;subst ht;refine⟨by kernel_rfl,fun l m w hl hm hf hg hne => ?_⟩;obtain⟨a,b,c,d,rfl⟩:=rR (show uG l=true from hf);obtain⟨a',b',c',d',rfl⟩:=rR (show uG m=true from hg);refine (zL a b c d a' b' c' d' w).trans ?_;rw[decide_eq_false]
   rintro⟨rfl,rfl,rfl,rfl⟩
   exact hne rfl
  ·have e':Nat.beq t 45=false:=Bool.eq_false_iff.2 e;have h':(qG prog).n t=some n:=by
    have:(bif Nat.beq t 45 then some 4 else (qG prog).n t)=some n:=h;rw[e']at this;exact this
   obtain⟨g1,g2⟩:=h2 t n h';have c:∀l:List At,(bif Nat.beq t 45 then uG l else (qG prog).fit t l)=true→(qG prog).fit t l=true:=fun l hf=>by
    rw[e']at hf;exact hf
   exact⟨g1,fun l m w hl hm hf hg hne=>g2 l m w hl hm (c l hf) (c m hg) hne⟩
theorem XZ:EqOk prog qI:=⟨EK,(aW prog).2⟩
def TE (N:Nat) (f:Nat→Nat) (log:Nat):List CA→Option (List Prop×FR)
 | [.s l n m,.v (.im (.int .i64 z)),.v (.fl r)]=>match kV r with
  | some x=>some ([aC l=aC (aV (el f) 0 N),n=N,N≤m,(∀j,j<N→f j<bI),N≤65536,x<bI,z=Int.ofNat log,VL N f (Int.ofNat log) x=0],⟨aV (el (AA N f log x)) 0 (2^log),2^log,2^log,[.im (.int .i64 0)]⟩)
  | none=>none
 | _=>none
theorem MU {N log:Nat} {f:Nat→Nat}:∀cs pre r,TE N f log cs=some (pre,r)→aO pre→∀(args:List Value) (w:World),cG w cs args→Calls prog 9 args.toArray w (fun e w'=>r.ok w e w'):=by
 intro cs pre r hg hp args w ha;unfold TE at hg;split at hg
 ·rename_i l n m z r0;split at hg
  ·rename_i x hx;cases hg
   match args,ha with
   | [a1,a2,a3],ha =>
    have h2:a2=iV z:=ha.2.1;have h3:a3=.agg (aC r0).toArray:=ha.2.2.1;rw[bU r0 x hx]at h3;obtain⟨p1,p2,p3,p4,p5,p6,p7,p8,_⟩:=hp;subst h2; subst h3; subst p7;exact (CU (LV.ofS ha.1 p1 p2 p3 p4) (by omega) p6).2 p8
   | [],ha=>exact ha.elim
   | [_],ha=>exact ha.2.elim
   | [_,_],ha=>exact ha.2.2.elim
   | _::_::_::_::_,ha=>exact ha.2.2.2.elim
  ·cases hg
 ·cases hg
def TW (N:Nat) (f:Nat→Nat):List CA→Option (List Prop×FR)
 | [.s l n m,.v (.fl r)]=>match kV r with
  | some x=>some ([aC l=aC (aV (el f) 0 N),n=N,N≤m,(∀j,j<N→f j<bI),N≤65536,x<bI,pM N f x=0],⟨aV (el (wS x (aQ f N) f)) 0 (JG x (aQ f N) f),JG x (aQ f N) f,JG x (aQ f N) f,[.fl [.q (YW x (aQ f N) f)],.im (.int .i64 0)]⟩)
  | none=>none
 | _=>none
theorem NF {N:Nat} {f:Nat→Nat}:∀cs pre r,TW N f cs=some (pre,r)→aO pre→∀(args:List Value) (w:World),cG w cs args→Calls prog 16 args.toArray w (fun e w'=>r.ok w e w'):=by
 intro cs pre r hg hp args w ha;unfold TW at hg;split at hg
 ·rename_i l n m r0;split at hg
  ·rename_i x hx;cases hg
   match args,ha with
   | [a1,a3],ha =>
    have h3:a3=.agg (aC r0).toArray:=ha.2.1;rw[bU r0 x hx]at h3;obtain⟨p1,p2,p3,p4,p5,p6,p8,_⟩:=hp;subst h3;exact (FM (LV.ofS ha.1 p1 p2 p3 p4) (by omega) p6).2 p8
   | [],ha=>exact ha.elim
   | [_],ha=>exact ha.2.elim
   | _::_::_::_,ha=>exact ha.2.2.elim
  ·cases hg
 ·cases hg
def BK (N:Nat) (f:Nat→Nat) (M:Nat) (g:Nat→Nat):jN
 | [c,d]=>match BU N f c,BU M g d with
  | some p,some q=>some (p++(q++[N≤4611686018427387904,jQ N f M g]),.one (.im (.bool true)))
  | _,_=>none
 | _=>none
theorem zA {N M:Nat} {f g:Nat→Nat}:∀cs pre r,BK N f M g cs=some (pre,r)→aO pre→∀(args:List Value) (w:World),cG w cs args→Good prog 13 r args w:=by
 intro cs pre r hg hp args w ha;unfold BK at hg;split at hg
 ·rename_i c d;split at hg
  ·rename_i p q hc hd;cases hg;rw[aR,aR]at hp;have h:=TJ (N:=N) (M:=M) (f:=f) (g:=g) [c,d] (p++(q++[N≤4611686018427387904])) (.one (.im (.bool (decide (jQ N f M g))))) (by unfold Dy; simp only[hc,hd]) (by rw[aR,aR]; exact⟨hp.1,hp.2.1,hp.2.2.1,trivial⟩) args w ha;rw[decide_eq_true hp.2.2.2.1]at h;exact h
  ·cases hg
 ·cases hg
def lA (j:Nat):Nat:=if j=0 then 1 else 2
def lB (j:Nat):Nat:=if j=0 then PP 1 else if j=1 then 0 else 1
def lC (j:Nat):Nat:=if j=0 then 3 else PP 1
def lD (_:Nat):Nat:=1
def lX (j:Nat):Int:=if j=0 then 1 else if j=1 then 2 else if j=2 then 3 else 4
def Et:Tab2:=(vD.add 9 (TE 2 lA 1)).add 16 (TW 3 lB)
def lN:Nat:=JG 1 (aQ lB 3) lB
def VZ (_:Nat):Cfg:=⟨fun s=>(PC.add 24 (VT lX)).add 13 (bif Nat.beq s 47 then BK 2 (AA 2 lA 1 1) 2 lC else BK lN (wS 1 (aQ lB 3) lB) 2 lD),fun _=>true,aE [(37,iV 0),(40,iV 0),(41,.bool true)]⟩
def fB:Code:=(f15.body).getD .skip
theorem OU:fB=.seq (cA fB) (.seq (cA (cB fB)) (.seq (cA (cB (cB fB))) (.seq (cA (cB (cB (cB fB)))) (cB (cB (cB (cB fB))))))):=by kernel_rfl
def Cu:List Fact:=[.slot 1 (.sl 14 0 2 2),.row 14 true [.q (AA 2 lA 1 1 0),.q (AA 2 lA 1 1 1)],.slot 2 (.im (iV 0))]
def Ct:List Fact:=.slot 3 (.sl 23 0 2 2) :: .row 23 true [.q (wS 1 (aQ lB 3) lB 0),.q (wS 1 (aQ lB 3) lB 1)] :: .slot 4 (.pt 4 0) :: .row 4 true [.q (YW 1 (aQ lB 3) lB)] :: .slot 5 (.im (iV 0))::Cu
def Ep:List Fact:=.slot 6 (.pt 6 0) :: .row 6 true (x4 (UF lX)) :: .slot 7 (.pt 7 0) :: .row 7 true (x4 (UG lX)) :: .slot 8 (.im (iV (UH lX)))::Ct
def qA:EqT:={ qI with x:=Ch Et }
theorem Bu:aM prog qA f15.ntmps VZ 60 (cA fB) [] []=some ([],.nrm,[]):=by kernel_rfl
theorem Bt:aM prog qA f15.ntmps VZ 60 (cA (cB fB)) [] Cu=some ([aC [.f ⟨1,by decide⟩,.f ⟨2,by decide⟩]=aC (aV (el lA) 0 2),2=2,2≤2,∀j,j<2→lA j<bI,2≤65536,1<bI,1=Int.ofNat 1,VL 2 lA (Int.ofNat 1) 1=0],.nrm,Cu):=by kernel_rfl
theorem Bs:aM prog qA f15.ntmps VZ 60 (cA (cB (cB fB))) Cu Ct=some ([aC [.q (PP 1),.f ⟨0,cS⟩,.f ⟨1,by decide⟩]=aC (aV (el lB) 0 3),3=3,3≤3,∀j,j<3→lB j<bI,3≤65536,1<bI,pM 3 lB 1=0],.nrm,Ct):=by kernel_rfl
theorem Br:aM prog qA f15.ntmps VZ 60 (cA (cB (cB (cB fB)))) Ct Ep=some ([aC (x4 lX)=aC (x4 lX)],.nrm,Ep):=by kernel_rfl
def Fg:List Prop:=[aD .add .i64 0 0=some (iV 0),aD .add .i64 0 (UH lX)=some (iV 0),aD .eql .i64 0 0=some (.bool true),
 aC [.q (AA 2 lA 1 1 0),.q (AA 2 lA 1 1 1)]=aC (aV (el (AA 2 lA 1 1)) 0 2),2=2,∀j,j<2→AA 2 lA 1 1 j<bI,aC [.f ⟨3,by decide⟩,.q (PP 1)]=aC (aV (el lC) 0 2),2=2,∀j,j<2→lC j<bI,2≤4611686018427387904,jQ 2 (AA 2 lA 1 1) 2 lC,
 aC [.q (wS 1 (aQ lB 3) lB 0),.q (wS 1 (aQ lB 3) lB 1)]=aC (aV (el (wS 1 (aQ lB 3) lB)) 0 lN),2=lN,∀j,j<lN→wS 1 (aQ lB 3) lB j<bI,aC [.f ⟨1,by decide⟩,.f ⟨1,by decide⟩]=aC (aV (el lD) 0 2),2=2,∀j,j<2→lD j<bI,lN≤4611686018427387904,jQ lN (wS 1 (aQ lB 3) lB) 2 lD,
 aC [.q (YW 1 (aQ lB 3) lB)]=aC [.f ⟨0,cS⟩],aC (x4 (UF lX))=aC [.c (iV 10),.c (iV (-2)),.c (iV (-2)),.c (iV (-2))],aC (x4 (UG lX))=aC [.c (iV 0),.c (iV 2),.c (iV 0),.c (iV (-2))]]
theorem Bq:aM prog qA f15.ntmps VZ 60 (cB (cB (cB (cB fB)))) Ep [.slot 0 (.im (.bool true))]=some (Fg,.rt,[.slot 0 (.im (.bool true))]):=by kernel_rfl
theorem Bp (r:Nat):∀j,j<2→CH (sF (aQ lA 2) (CC lA 1 1) 1) (2^1) (gX 1 r) 1 j=lC j
 | 0,_=>by kernel_rfl
 | 1,_=>by kernel_rfl
theorem IU:∀j,j<2→AA 2 lA 1 1 j=lC j:=Bp (fO 1)
theorem Cl {p:Nat→Prop} (h0:p 0) (h1:p 1):∀j,j<2→p j
 | 0,_=>h0
 | 1,_=>h1
theorem ZJ:lN=2:=by kernel_rfl
theorem YY:wS 1 (aQ lB 3) lB 0=1:=by kernel_rfl
theorem YX:wS 1 (aQ lB 3) lB 1=1:=by kernel_rfl
theorem QG:∀j,j<2→lC j<bI:=Cl (by decide) (by decide)
theorem VE:aO Fg:=by
 refine⟨rfl,by kernel_rfl,rfl,rfl,rfl,fun j hj=>by rw[IU j hj]; exact QG j hj,by kernel_rfl,rfl,QG,by omega,⟨rfl,IU⟩,?_,ZJ.symm,?_,by kernel_rfl,rfl,fun j hj=>by show 1<bI; decide,by rw[ZJ]; omega,?_,by kernel_rfl,by kernel_rfl,by kernel_rfl,trivial⟩
 ·rw[ZJ]; rfl
 ·rw[ZJ]; exact Cl (by rw[YY]; decide) (by rw[YX]; decide)
 ·rw[ZJ]; exact⟨rfl,Cl YY YX⟩
theorem YJ (w:World) (n d:Nat):TabOkW prog ((VZ n).T d) w.heap.size w:=by
 refine TabOk.w ?_ _ _;show TabOk prog ((PC.add 24 (VT lX)).add 13 (bif Nat.beq d 47 then BK 2 (AA 2 lA 1 1) 2 lC else BK lN (wS 1 (aQ lB 3) lB) 2 lD));refine (PX.add func24 (by kernel_rfl) (by kernel_rfl) (wY (mG lX))).add func13 (by kernel_rfl) (by kernel_rfl) ?_;cases Nat.beq d 47
 ·exact zA
 ·exact zA
theorem YA (w:World):bH prog qA w.heap.size w :=
 ⟨EK,(vE (base:=w.heap.size) (w:=w) fun w' hw=>((FrAt.none _ _).add func9 (by kernel_rfl) (by kernel_rfl) fun cs pre r h1 h2 args ha=>MU cs pre r h1 h2 args w' ha).add func16 (by kernel_rfl) (by kernel_rfl) fun cs pre r h1 h2 args ha=>NF cs pre r h1 h2 args w' ha).2⟩
theorem uU (w:World):Good prog 15 (.one (.im (.bool true))) [] w:=by
 have hG:=YA w;have hT:=YJ w;refine bP func15 (cs:=[]) (args:=[]) (c:=fB) rfl trivial (Nat.le_of_ble_eq_true (by kernel_rfl)) fun a w1 hA => ?_
 rw[OU];refine wp_seq (aA aK hT hG Bu trivial hA fun a w1 hA => ?_);refine wp_seq (aA aK hT hG Bt ⟨by kernel_rfl,rfl,by omega,Cl (by decide) (by decide),by omega,by decide,rfl,by kernel_rfl,trivial⟩ hA fun a w1 hA => ?_);refine wp_seq (aA aK hT hG Bs ⟨by kernel_rfl,rfl,by omega,fun j hj=>by match j,hj with|0,_=>decide|1,_=>decide|2,_=>decide,by omega,by decide,by kernel_rfl,trivial⟩ hA fun a w1 hA => ?_);refine wp_seq (aA aK hT hG Br ⟨rfl,trivial⟩ hA fun a w1 hA => ?_);exact aA aK hT hG Bq VE hA fun a w' hA=>aY (l:=[.im (.bool true)]) (r:=.one (.im (.bool true))) (by kernel_rfl) (by kernel_rfl) hA
theorem Good.cgr {P:Program} {f:FuncId} {r r':RV} {args:List Value} {w:World} (h:Good P f r args w) (e:r.den=r'.den):Good P f r' args w:=by
 unfold Good;rw[←e];exact h
def XG (z:Int):Nat:=if dN z 28=true then fO z.toNat else 0
def XF (z:Int):Int:=if dN z 28=true then 0 else 71
theorem RO (z:Int):(RV.many (VN z)).den=(RV.many [.fl [.q (XG z)],.im (iV (XF z))]).den:=by
 unfold VN XG XF
 by_cases h:dN z 28=true
 ·simp only[if_pos h]
 ·simp only[if_neg h]; kernel_rfl
def FZ (z i:Int) (x:Nat):Nat :=
 if x<RM then if dN z 28=true then if 0≤i∧i<((2^z.toNat:Nat):Int)then if x=fD (fO z.toNat) i.toNat then 1 else wT z.toNat i.toNat x else 0 else 0 else 0
def FY (z i:Int) (x:Nat):Int :=
 if x<RM then if dN z 28=true then if 0≤i∧i<((2^z.toNat:Nat):Int)then if x=fD (fO z.toNat) i.toNat then 0 else 0 else 1 else 71 else 21
theorem MQ (z i:Int) (x:Nat):(RV.many (wU z i x)).den=(RV.many [.fl [.q (FZ z i x)],.im (iV (FY z i x))]).den:=by
 unfold wU FZ FY
 by_cases h:x<RM
 ·simp only[if_pos h]
  by_cases h2:dN z 28=true
  ·simp only[if_pos h2]
   by_cases h3:0≤i∧i<((2^z.toNat:Nat):Int)
   ·simp only[if_pos h3]
    by_cases h4:x=fD (fO z.toNat) i.toNat
    ·simp only[if_pos h4]
    ·simp only[if_neg h4]
   ·simp only[if_neg h3]; kernel_rfl
  ·simp only[if_neg h2]; kernel_rfl
 ·simp only[if_neg h]; kernel_rfl
def NC:jN
 | [.v (.im (.int .i64 z))]=>some ([],.many [.fl [.q (XG z)],.im (iV (XF z))])
 | _=>none
theorem zB {f:FuncId} (h:∀z args w,cG w [.v (.im (iV z))] args→Good prog f (.many (VN z)) args w):∀cs pre r,NC cs=some (pre,r)→aO pre→∀(args:List Value) (w:World),cG w cs args→Good prog f r args w:=by
 intro cs pre r hg hp args w ha;unfold NC at hg;split at hg
 ·cases hg;exact Good.cgr (h _ args w ha) (RO _)
 ·cases hg
def NG:jN
 | [.v (.im (.int .i64 z)),.v (.im (.int .i64 i)),.v (.fl l)]=>match kV l with
  | some x=>some ([x<bI,i<9223372036854775808],.many [.fl [.q (FZ z i x)],.im (iV (FY z i x))])
  | none=>none
 | _=>none
theorem zF {f:FuncId} (h:∀z i x w,x<bI→i<9223372036854775808→Good prog f (.many (wU z i x)) [iV z,iV i,.agg (aC [At.q x]).toArray] w):∀cs pre r,NG cs=some (pre,r)→aO pre→∀(args:List Value) (w:World),cG w cs args→Good prog f r args w:=by
 intro cs pre r hg hp args w ha;unfold NG at hg;split at hg
 ·rename_i z i l;split at hg
  ·rename_i x hx;cases hg
   match args,ha with
   | [a1,a2,a3],ha =>
    have h1:a1=iV z:=ha.1;have h2:a2=iV i:=ha.2.1;have h3:a3=.agg (aC l).toArray:=ha.2.2.1;rw[bU l x hx]at h3;subst h1; subst h2; subst h3;exact Good.cgr (h z i x w hp.1 hp.2.1) (MQ _ _ _)
   | [],ha=>exact ha.elim
   | [_],ha=>exact ha.2.elim
   | [_,_],ha=>exact ha.2.2.elim
   | _::_::_::_::_,ha=>exact ha.2.2.2.elim
  ·cases hg
 ·cases hg
def Cb (X:Nat→Int):Tab:=((((((PC.add 20 NC).add 21 NC).add 22 NG).add 23 NG).add 24 (VT X)).add 25 (VT X)).add 15 (g0 (.one (.im (.bool true))))
theorem YI (X:Nat→Int):TabOk prog (Cb X):=((((((PX.add func20 (by kernel_rfl) (by kernel_rfl) (zB fun z args w ha=>(pQ z args w ha).1)).add func21 (by kernel_rfl) (by kernel_rfl) (zB fun z args w ha=>(pQ z args w ha).2)).add func22 (by kernel_rfl) (by kernel_rfl) (zF fun z i x w hx hi=>FN z i hx hi)).add func23 (by kernel_rfl) (by kernel_rfl) (zF fun z i x w hx hi=>EH z i hx hi _ ⟨rfl,rfl,rfl,trivial⟩)).add func24 (by kernel_rfl) (by kernel_rfl) (wY (mG X))).add func25 (by kernel_rfl) (by kernel_rfl) (wY (sY X))).add func15 (by kernel_rfl) (by kernel_rfl) (zG uU)
def Fo (X:Nat→Int) (_:Nat):Cfg:=⟨fun _=>Cb X,fun _=>true,aE [(66,.bool true),(77,.bool true),(93,.bool true)]⟩
theorem RL (z i:Int) (x:Nat) (X:Nat→Int):eC prog qI (Fo X) f5 60 [.v (.im (iV z)),.v (.im (iV i)),.v (.fl [.q x]),.v (.fl (x4 X))] =
  some ([x<bI,i<9223372036854775808,x<bI,i<9223372036854775808,aC (x4 X)=aC (x4 X),aC (x4 X)=aC (x4 X),aC [.q (XG z)]=aC [.q (XG z)],aD .eql .i64 (XF z) (XF z)=some (.bool true),aC [.q (FZ z i x)]=aC [.q (FZ z i x)],aD .eql .i64 (FY z i x) (FY z i x)=some (.bool true),aC (x4 (UF X))=aC (x4 (UF X)),aC (x4 (UG X))=aC (x4 (UG X)),aD .eql .i64 (UH X) (UH X)=some (.bool true)],.one (.im (.bool true))):=by kernel_rfl
theorem UJ (c:Int):aD .eql .i64 c c=some (.bool true):=by
 show some (Value.bool (c==c))=_;simp
theorem uQ (z i:Int) (hi:i<9223372036854775808) (x:Nat) (hx:x<bI) (X:Nat→Int) (w:World):Good prog 5 (.one (.im (.bool true))) [iV z,iV i,.agg (aC [At.q x]).toArray,.agg (aC (x4 X)).toArray] w :=
 bL aK (fun _ _=>YI X) XZ func5 (RL z i x X) ⟨hx,hi,hx,hi,rfl,rfl,rfl,UJ _,rfl,UJ _,rfl,rfl,UJ _,trivial⟩ ⟨rfl,rfl,rfl,rfl,trivial⟩
end Go.Proofs.Ytiginhbnaloghaa.Ex
namespace Go.Proofs.Ytiginhbnaloghaa
open Go.Proofs.Try
open Go.ChangeShapes Go.WideShapes Go.ChangeAt Go.RowKit
theorem mV:ownKnob prog.godebug=none:=by kernel_rfl
theorem rL:laidOutB prog=true:=by kernel_rfl
theorem AB:prog.cellsOf 23=1:=by kernel_rfl
theorem QD {α:Type} (l:List α) (h:(⟨l⟩:Array α).size=4):∃a b c d,l=[a,b,c,d]:=by
 match l,h with
 | [a,b,c,d],_=>exact⟨a,b,c,d,rfl⟩
theorem jH {n:Int} (h:(Lit.int .u64 n).wf=true):∃k:Nat,n=(k:Int)∧k<18446744073709551616:=by
 obtain⟨h1,h2⟩:=bounds_u64 h;obtain⟨k,rfl⟩:=Int.eq_ofNat_of_zero_le h1;exact⟨k,rfl,by omega⟩
end Go.Proofs.Ytiginhbnaloghaa
namespace Go.Proofs.Ytiginhbnaloghaa.Ex
open Go.Proofs.Try
open Go.Deep Go.ChangeShapes Go.WideShapes Go.ChangeAt Go.RowKit
theorem QR {P:Program} {W:World} {base:Nat} {t n e:TypeId} {v:Value} (ht:P.underlying t=some (.array n e)) (h:Value.okWide P W .any base t v):∃cs,v=.agg cs∧cs.size=P.cellsOf t:=by
 obtain⟨cs,rfl,hs,_⟩:∃cs,v=.agg cs∧cs.size=P.cellsOf t∧Row.okWide P W .any base t cs:=by
  simpa[Value.okWide,ht]using h
 exact⟨cs,rfl,hs⟩
theorem ZM {n:Int} (h:(Lit.int .i64 n).wf=true):n<9223372036854775808:=by
 simp only[Lit.wf,Bool.and_eq_true,decide_eq_true_eq]at h;have h2:=h.2;rw[show IntKind.i64.max=9223372036854775807 by kernel_rfl]at h2;omega
section
variable {H:Type} {enc:TypeId×Value→H} {W:World}
theorem SO {base:Nat} {v:Value} {d:DataW H} {ps:List MemPlace} {pt:Array TypeId} {args:Array Value} (hval:∀(j:Nat) t v,pt[j]?=some t→args[j]?=some v→Value.okWide prog W .any base t v) (j:Nat) (hj:pt[j]?=some 25) (ha:args[j]?=some v)
  (h:DataW.Trod enc prog W 0 (fun _=>true) true 25 v d ps):∃x:Nat,x<bI∧v=.agg (aC [At.q x]).toArray:=by
 obtain⟨⟨l⟩,rfl,hs⟩:=QR (t:=25) underlying25 (hval j 25 v hj ha);rw[show prog.cellsOf 25=4 by kernel_rfl]at hs;obtain⟨fuel,h⟩:=h;obtain⟨c0,c1,c2,c3,rfl⟩:=QD l hs;obtain⟨y0,y1,y2,y3,m,hx,hy0,hy1,hy2,hy3⟩:=trod_array4 underlying25 AB h;obtain⟨x0,e0,rfl,w0⟩:=DataW.trod_int underlying23 hy0;obtain⟨x1,e1,rfl,w1⟩:=DataW.trod_int underlying23 hy1;obtain⟨x2,e2,rfl,w2⟩:=DataW.trod_int underlying23 hy2;obtain⟨x3,e3,rfl,w3⟩:=DataW.trod_int underlying23 hy3;simp at e0 e1 e2 e3;obtain⟨a0,rfl,k0⟩:=jH w0;obtain⟨a1,rfl,k1⟩:=jH w1;obtain⟨a2,rfl,k2⟩:=jH w2;obtain⟨a3,rfl,k3⟩:=jH w3;subst e0 e1 e2 e3;have hv:aB a0 a1 a2 a3<115792089237316195423570985008687907853269984665640564039457584007913129639936:=by unfold aB; omega
 obtain⟨q0,q1',q2',q3⟩:=iB ⟨k0,k1,k2,k3⟩ hv rfl;refine⟨aB a0 a1 a2 a3,hv,?_⟩;show _=Value.agg (w4 (aB a0 a1 a2 a3)++[]).toArray;unfold w4;rw[←q0,←q1',←q2',←q3];rfl
theorem MF {base:Nat} {v:Value} {d:DataW H} {ps:List MemPlace} {pt:Array TypeId} {args:Array Value} (hval:∀(j:Nat) t v,pt[j]?=some t→args[j]?=some v→Value.okWide prog W .any base t v) (j:Nat) (hj:pt[j]?=some 45) (ha:args[j]?=some v)
  (h:DataW.Trod enc prog W 0 (fun _=>true) true 45 v d ps):∃X:Nat→Int,v=.agg (aC (x4 X)).toArray:=by
 obtain⟨⟨l⟩,rfl,hs⟩:=QR (t:=45) underlying45 (hval j 45 v hj ha);rw[show prog.cellsOf 45=4 by kernel_rfl]at hs;obtain⟨fuel,h⟩:=h;obtain⟨c0,c1,c2,c3,rfl⟩:=QD l hs;obtain⟨y0,y1,y2,y3,m,hx,hy0,hy1,hy2,hy3⟩:=trod_array4 underlying45 (show prog.cellsOf 3=1 by kernel_rfl) h;obtain⟨x0,e0,rfl,w0⟩:=DataW.trod_int underlying3 hy0;obtain⟨x1,e1,rfl,w1⟩:=DataW.trod_int underlying3 hy1;obtain⟨x2,e2,rfl,w2⟩:=DataW.trod_int underlying3 hy2;obtain⟨x3,e3,rfl,w3⟩:=DataW.trod_int underlying3 hy3;simp at e0 e1 e2 e3;subst e0 e1 e2 e3;exact⟨fun j=>if j=0 then x0 else if j=1 then x1 else if j=2 then x2 else x3,rfl⟩
end
end Go.Proofs.Ytiginhbnaloghaa.Ex
