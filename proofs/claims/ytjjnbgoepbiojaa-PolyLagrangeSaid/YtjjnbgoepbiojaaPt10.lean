/- Pt10 -/
import Derived.Test.YtjjnbgoepbiojaaPt09
import Derived.Test.YtjjnbgoepbiojaaPt04
import Derived.Test.YtjjnbgoepbiojaaProg
set_option maxRecDepth 100000
set_option linter.unusedVariables false
set_option linter.unusedSimpArgs false
set_option linter.unnecessarySimpa false
noncomputable section
namespace Go.Proofs.Ytjjnbgoepbiojaa.Ex
open Go.Proofs.Try
open Go.RowKit
def GF (N:Nat) (f:Nat→Nat):Int:=if N≤65536 then (if bT N f then 0 else 21)else 72
theorem Bj (N:Nat) (f:Nat→Nat):Eh 1 (fun _=>N) (fun _=>f)=GF N f:=by
 have e1:kD 1 (fun _=>N)↔N≤65536:=⟨fun h=>h 0 (by omega),fun h j hj=>h⟩;have e2:kO 1 (fun _=>N) (fun _=>f)↔bT N f:=⟨fun h=>h 0 (by omega),fun h j hj=>h⟩;unfold Eh GF;simp only[e1,e2]
theorem Ln {N:Nat} {f:Nat→Nat} (h:GF N f=0):N≤65536∧bT N f:=by
 unfold GF at h;split at h
 ·rename_i h1;split at h
  ·rename_i h2; exact⟨h1,h2⟩
  ·cases h
 ·cases h
theorem WG (log:Nat):eU prog { qG prog with x:=xG (aE [(4,iI (2^log))]) } (Mj true fun _=>none) f41 40 [.v (.im (iI log))]=some ([dD .shl 3 (.const (iI 1)) (.tmp 3) (iI 1) (iI log) (iI (2^log))],.one (.im (iI (2^log)))):=by kernel_rfl
def gP2:iR
 | [.v (.im (.int .i64 (.ofNat log)))]=>some ([log≤28],.one (.im (iI (2^log))))
 | _=>none
theorem Ka:∀cs pre r,gP2 cs=some (pre,r)→aQ pre→∀(args:List Value) (w:World),cF w cs args→Good prog 41 r args w:=by
 intro cs pre r hg hp args w ha;unfold gP2 at hg;split at hg
 ·cases hg;exact bQ aG (fun _ _=>qD.w _ _) (eP _ _ _) func41 (WG _) ⟨gO hp.1,trivial⟩ ha
 ·cases hg
def TQ:Tab:=Ci.add 41 gP2
theorem QC:TabOk prog TQ:=QB.add func41 (by kernel_rfl) (by kernel_rfl) Ka
def Db (h:Bool) (i n:Nat) (num:Nat→Option Value) (_:Nat):Cfg:=⟨fun s=>TQ.add 59 (FN (bif Nat.beq s 38 then i else n) false),fun _=>h,num⟩
theorem Ie (i n:Nat) (s:Nat):TabOk prog (TQ.add 59 (FN (bif Nat.beq s 38 then i else n) false)):=QC.add func59 (by kernel_rfl) (by kernel_rfl) Ho
def Ek (x:Nat) (b:Bool):List Prop:=[x<aT,Value.bool (!decide (x<RM))=.bool b]
theorem WC (z i:Int) (x:Nat):eU prog (qG prog) (Db true 0 0 (aE [(15,.bool true)])) f23 60 [.v (.im (iV z)),.v (.im (iV i)),.v (.fl [.q x])]=some (Ek x true,.many [.fl iD,.im (iV 21)]):=by kernel_rfl
theorem WB (z i:Int) (x:Nat):eU prog (qG prog) (Db true 0 0 (aE [(15,.bool false),(18,.bool true)])) f23 60 [.v (.im (iV z)),.v (.im (iV i)),.v (.fl [.q x])]=some (Ek x false++[aD .lss .i64 z 0=some (.bool true)],.many [.fl iD,.im (iV 71)]):=by kernel_rfl
theorem WA (z i:Int) (x:Nat):eU prog (qG prog) (Db true 0 0 (aE [(15,.bool false),(18,.bool false),(21,.bool true)])) f23 60 [.v (.im (iV z)),.v (.im (iV i)),.v (.fl [.q x])]=some (Ek x false++[aD .lss .i64 z 0=some (.bool false),aD .gtr .i64 z 28=some (.bool true)],.many [.fl iD,.im (iV 71)]):=by kernel_rfl
def Xq (log:Nat):List Prop:=[aD .lss .i64 (Int.ofNat log) 0=some (.bool false),aD .gtr .i64 (Int.ofNat log) 28=some (.bool false)]
theorem VZ (log:Nat) (i:Int) (x:Nat):eU prog (qG prog) (Db true 0 0 (aE [(15,.bool false),(18,.bool false),(21,.bool false),(25,.bool true)])) f23 60 [.v (.im (iI log)),.v (.im (iV i)),.v (.fl [.q x])]=some (Ek x false++(Xq log++[aD .lss .i64 i 0=some (.bool true)]),.many [.fl iD,.im (iV 1)]):=by kernel_rfl
theorem VY (log:Nat) (i:Int) (x:Nat):eU prog (qG prog) (Db true 0 0 (aE [(15,.bool false),(18,.bool false),(21,.bool false),(25,.bool false),(30,.bool true)])) f23 60 [.v (.im (iI log)),.v (.im (iV i)),.v (.fl [.q x])]=some (Ek x false++(Xq log++[aD .lss .i64 i 0=some (.bool false),log≤28,aD .geq .i64 i (Int.ofNat (2^log))=some (.bool true)]),.many [.fl iD,.im (iV 1)]):=by kernel_rfl
def Zh (log i:Nat):List Prop:=Xq log++[aD .lss .i64 (Int.ofNat i) 0=some (.bool false),log≤28,aD .geq .i64 (Int.ofNat i) (Int.ofNat (2^log))=some (.bool false),log≤28,∀w:World,(convert 3 23 (iI i)).run prog w=.ok (.int .u64 (Int.ofNat i)) w,cJ log<RM,aB (Nl i)=aB [.q i],i<aT]
theorem VX (log i:Nat) (x:Nat):eU prog { qG prog with x:=xG (aE [(36,.int .u64 (Int.ofNat i))]) } (Db true i 0 (aE [(15,.bool false),(18,.bool false),(21,.bool false),(25,.bool false),(30,.bool false)])) f23 60 [.v (.im (iI log)),.v (.im (iI i)),.v (.fl [.q x])]=some (Ek x false++(Zh log i++[aB [.q x]=aB [.q (gJ (cJ log) i)],1<18446744073709551616]),.many [.fl [.q 1],.im (iV 0)]):=by kernel_rfl
theorem VW (log i:Nat) (x:Nat):eU prog { qG prog with x:=xG (aE [(36,.int .u64 (Int.ofNat i)),(46,.int .u64 (Int.ofNat (2^log))),(53,.int .u64 (Int.ofNat (2^log)))]) } (Db false i (2^log) (aE [(15,.bool false),(18,.bool false),(21,.bool false),(25,.bool false),(30,.bool false)])) f23 60 [.v (.im (iI log)),.v (.im (iI i)),.v (.fl [.q x])] =
  some (Ek x false++(Zh log i++[aB [.q x]≠aB [.q (gJ (cJ log) i)],log≤28,∀w:World,(convert 3 23 (iI (2^log))).run prog w=.ok (.int .u64 (Int.ofNat (2^log))) w,x<RM,aB (Nl (2^log))=aB [.q (2^log)],2^log<aT,1<18446744073709551616,gJ x (2^log)<RM,1<RM,log≤28,∀w:World,(convert 3 23 (iI (2^log))).run prog w=.ok (.int .u64 (Int.ofNat (2^log))) w,2^log<18446744073709551616,x<RM,gJ (cJ log) i<RM,2^log<RM,lV x (gJ (cJ log) i)<RM,cS (2^log) (lV x (gJ (cJ log) i))<RM,cS (2^log) (lV x (gJ (cJ log) i))≠0,gJ (cJ log) i<RM,lV (gJ x (2^log)) 1<RM,cS (gJ (cJ log) i) (lV (gJ x (2^log)) 1)<RM,fJ (cS (2^log) (lV x (gJ (cJ log) i)))<RM]),.many [.fl [.q (yC log i x)],.im (iV 0)]):=by kernel_rfl
theorem OU {w:World} (z i:Int) {x:Nat} (hx:x<aT) (hi:i<9223372036854775808) (args:List Value) (ha:cF w [.v (.im (iV z)),.v (.im (iV i)),.v (.fl [.q x])] args):Good prog 23 (.many (FI z i x)) args w:=by
 have ok:∀(h:Bool) (i n:Nat) (num:Nat→Option Value),∀m d:Nat,TabOk prog ((Db h i n num m).T d):=fun _ i n _ _ d=>Ie i n d
 unfold FI
 by_cases hxr:x<RM
 ·rw[if_pos hxr];have hB:aQ (Ek x false):=⟨hx,by rw[decide_eq_true hxr]; rfl,trivial⟩
  by_cases hd:eD z 28=true
  ·rw[if_pos hd];obtain⟨h1,h2⟩:=jL.1 hd;obtain⟨log,rfl⟩:∃n:Nat,z=Int.ofNat n:=⟨z.toNat,by show z=((z.toNat:Nat):Int); omega⟩
   have h3:log≤28:=by have:(log:Int)≤28:=h2; omega
   rw[show (Int.ofNat log).toNat=log from rfl];have hL:aQ (Xq log):=⟨by rw[eN,decide_eq_false (by omega)],by rw[kS,decide_eq_false (by omega)],trivial⟩;have hp2:2^log≤268435456:=Nat.pow_le_pow_right (n:=2) (by omega) h3;have hp1:0<2^log:=Nat.pow_pos (by omega)
   by_cases hb:0≤i∧i<((2^log:Nat):Int)
   ·rw[if_pos hb];obtain⟨k,rfl⟩:∃n:Nat,i=Int.ofNat n:=⟨i.toNat,by show i=((i.toNat:Nat):Int); omega⟩
    have hk:k<2^log:=by have:=hb.2; show k<_; exact Int.ofNat_lt.1 this
    rw[show (Int.ofNat k).toNat=k from rfl];have hk64:k<18446744073709551616:=by omega
    have hP:aQ (Zh log k):=aS.2 ⟨hL,by rw[eN,decide_eq_false (by omega)],h3,by show some (Value.bool (decide (Int.ofNat k≥Int.ofNat (2^log))))=_; rw[decide_eq_false (by have:=hb.2; exact Int.not_le.2 this)],h3,fun w=>MI (by omega) w,eB _ _,rY hk64,Nat.lt_trans hk64 (by decide),trivial⟩
    by_cases he:x=gJ (cJ log) k
    ·rw[if_pos he];exact bQ aG (fun n d=>(ok _ _ _ _ n d).w _ _) (eP _ _ _) func23 (VX log k x) (aS.2 ⟨hB,aS.2 ⟨hP,by rw[he],by omega,trivial⟩⟩) ha
    ·rw[if_neg he];have hw:=eB (cJ log) k;have h2R:2^log<RM:=Nat.lt_of_le_of_lt hp2 (by decide);have h64:2^log<18446744073709551616:=by omega
     exact bQ aG (fun n d=>(ok _ _ _ _ n d).w _ _) (eP _ _ _) func23 (VW log k x) (aS.2 ⟨hB,aS.2 ⟨hP,fun q=>he ((DF (eQ hxr) (eQ hw)).1 q),h3,fun w=>MI (by omega) w,hxr,rY h64,Nat.lt_trans h64 (by decide),by omega,eB _ _,by decide,h3,fun w=>MI (by omega) w,h64,hxr,hw,h2R,iK _ _,cL _ _,xQ h2R (iK _ _) (by omega) (EF hxr hw he),hw,iK _ _,cL _ _,jH _,trivial⟩⟩) ha
   ·rw[if_neg hb]
    by_cases hn:i<0
    ·exact bW aG (ok _ _ _ _) (aY _) func23 (VZ log i x) (aS.2 ⟨hB,aS.2 ⟨hL,by rw[eN,decide_eq_true hn],trivial⟩⟩) ha
    ·exact bW aG (ok _ _ _ _) (aY _) func23 (VY log i x) (aS.2 ⟨hB,aS.2 ⟨hL,by rw[eN,decide_eq_false hn],h3,by show some (Value.bool (decide (i≥Int.ofNat (2^log))))=_; rw[decide_eq_true (by rcases Int.lt_or_le i ((2^log:Nat):Int)with q|q; exact absurd ⟨by omega,q⟩ hb; exact q)],trivial⟩⟩) ha
  ·rw[if_neg hd]
   by_cases h1:z<0
   ·exact bW aG (ok _ _ _ _) (aY _) func23 (WB z i x) (aS.2 ⟨hB,by rw[eN,decide_eq_true h1],trivial⟩) ha
   ·have h2:z>28:=by
     rcases Int.lt_or_le 28 z with q|q
     ·exact q
     ·exact absurd (jL.2 ⟨by omega,q⟩) hd
    exact bW aG (ok _ _ _ _) (aY _) func23 (WA z i x) (aS.2 ⟨hB,by rw[eN,decide_eq_false h1],by rw[kS,decide_eq_true h2],trivial⟩) ha
 ·rw[if_neg hxr];exact bW aG (ok _ _ _ _) (aY _) func23 (WC z i x) ⟨hx,by rw[decide_eq_false hxr]; rfl,trivial⟩ ha
theorem LV.nil0 (w:World) (g:Nat→Nat):LV w (.slice none 0 0) 0 g:=⟨none,0,rfl,Nat.le_refl _,fun j hj=>by omega,fun h=>by omega⟩
theorem Holds.soSl {nt base:Nat} {w0:World} {A:List Fact} {a:Act} {w:World} (h:Holds nt base w0 A a w) {s k n e sz:Nat} {l:List At} (h1:Fact.slot s (.so k n)∈A) (h2:Fact.row k true l∈A) (h3:Fact.app k e sz n∈A):∃cap,n≤cap∧Holds nt base w0 (.slot s (.sl k 0 n cap)::A) a w:=by
 obtain⟨β,g1,g2,g3⟩:=h.facts;have e1:=g1 _ h1;obtain⟨_,_,e2,_⟩:=g1 _ h2;obtain⟨_,_,e3,_⟩:=g1 _ h3;have up:∀k1 o1 l1,Fact.row k1 o1 l1∈(Fact.slot s (.sl k 0 n (β k).2.2)::A)→Fact.row k1 o1 l1∈A:=fun k1 o1 l1 e=>by
  rcases List.mem_cons.1 e with e|e
  ·cases e
  ·exact e
 refine⟨(β k).2.2,e3,h.defers,h.size,h.below,h.heap,β,fun φ hφ => ?_,fun k1 k2 o2 l1 l2 q1 q2=>g2 k1 k2 o2 l1 l2 (up _ _ _ q1) (up _ _ _ q2),fun k1 l1 e=>g3.1 k1 l1 (up _ _ _ e),g3.2⟩
 rcases List.mem_cons.1 hφ with rfl|hφ
 ·exact e1
 ·exact g1 φ hφ
theorem WN (z:Int) (x:Nat):eU prog (qG prog) (oU true (aE [(6,.bool true)])) f39 60 [.v (.im (iV z)),.v (.fl [.q x])]=some ([aD .lss .i64 z 0=some (.bool true)],.one (.im (iV 71))):=by kernel_rfl
theorem WM (z:Int) (x:Nat):eU prog (qG prog) (oU true (aE [(6,.bool false),(9,.bool true)])) f39 60 [.v (.im (iV z)),.v (.fl [.q x])]=some ([aD .lss .i64 z 0=some (.bool false),aD .gtr .i64 z 16=some (.bool true)],.one (.im (iV 71))):=by kernel_rfl
theorem WL (z:Int) (x:Nat):eU prog (qG prog) (oU true (aE [(6,.bool false),(9,.bool false)])) f39 60 [.v (.im (iV z)),.v (.fl [.q x])]=some ([aD .lss .i64 z 0=some (.bool false),aD .gtr .i64 z 16=some (.bool false),aB [.q x]=aB [.f ⟨0,cY⟩]],.one (.im (iV 22))):=by kernel_rfl
theorem WK (z:Int) (x:Nat):eU prog (qG prog) (oU false (aE [(6,.bool false),(9,.bool false)])) f39 60 [.v (.im (iV z)),.v (.fl [.q x])]=some ([aD .lss .i64 z 0=some (.bool false),aD .gtr .i64 z 16=some (.bool false),aB [.q x]≠aB [.f ⟨0,cY⟩]],.one (.im (iV 0))):=by kernel_rfl
def Dc (z:Int) (x:Nat):Int:=if eD z 16=false then 71 else if x=0 then 22 else 0
theorem PU (z:Int) {x:Nat} (hx:x<aT) (args:List Value) (w:World) (ha:cF w [.v (.im (iV z)),.v (.fl [.q x])] args):Good prog 39 (.one (.im (iV (Dc z x)))) args w:=by
 unfold Dc
 by_cases hd:eD z 16=true
 ·obtain⟨h1,h2⟩:=jL.1 hd;have l1:aD .lss .i64 z 0=some (.bool false):=by rw[eN,decide_eq_false (by omega)]
  have l2:aD .gtr .i64 z 16=some (.bool false):=by rw[kS,decide_eq_false (by omega)]
  rw[if_neg (by rw[hd]; decide)]
  by_cases e:x=0
  ·rw[if_pos e];exact bW aG (fun _ _=>qE) (aY _) func39 (WL z x) ⟨l1,l2,(iS hx).2 e,trivial⟩ ha
  ·rw[if_neg e];exact bW aG (fun _ _=>qE) (aY _) func39 (WK z x) ⟨l1,l2,fun q=>e ((iS hx).1 q),trivial⟩ ha
 ·have hd':eD z 16=false:=by simpa using hd
  rw[if_pos hd']
  by_cases h1:z<0
  ·exact bW aG (fun _ _=>qE) (aY _) func39 (WN z x) ⟨by rw[eN,decide_eq_true h1],trivial⟩ ha
  ·have h2:z>16:=by
    rcases Int.lt_or_le 16 z with q|q
    ·exact q
    ·exact absurd (jL.2 ⟨by omega,q⟩) hd
   exact bW aG (fun _ _=>qE) (aY _) func39 (WM z x) ⟨by rw[eN,decide_eq_false h1],by rw[kS,decide_eq_true h2],trivial⟩ ha
def gOv:iR
 | [.v (.im (.int .i64 z)),.v (.fl l)]=>match jQ l with
  | some x=>some ([x<aT],.one (.im (iV (Dc z x))))
  | none=>none
 | _=>none
theorem Kb:∀cs pre r,gOv cs=some (pre,r)→aQ pre→∀(args:List Value) (w:World),cF w cs args→Good prog 39 r args w:=by
 intro cs pre r hg hp args w ha;unfold gOv at hg;split at hg
 ·rename_i z l;split at hg
  ·rename_i x hx;cases hg
   match args,ha with
   | [a1,a2],ha =>
    have h2:a2=.agg (aB l).toArray:=ha.2.1;rw[bL l x hx]at h2;exact PU z hp.1 _ w ⟨ha.1,h2,trivial⟩
   | [],ha=>exact ha.elim
   | [_],ha=>exact ha.2.elim
   | _::_::_::_,ha=>exact ha.2.2.elim
  ·cases hg
 ·cases hg
def zA:Tab:=TQ.add 39 gOv
theorem vV:TabOk prog zA:=QC.add func39 (by kernel_rfl) (by kernel_rfl) Kb
def oV (num:Nat→Option Value) (_:Nat):Cfg:=⟨fun _=>zA,fun _=>true,num⟩
def rC:Cfg:=⟨fun _=>zA,fun _=>true,fun _=>none⟩
theorem SU (N:Nat) (f:Nat→Nat) (z:Int) (x:Nat):gX N f z x=if fH N f x≠0 then fH N f x else Dc z x:=rfl
theorem Kw {c:Int} (h:c≠0):aD .eql .i64 c 0=some (.bool false):=by
 show some (Value.bool (c==0))=_;simp[h]
def TmL (w0:World) (n:Nat) (f:Nat→Nat) (e:Ending) (w':World):Prop:=∃p m,e=.returned (.slice p n m)∧Below w0.heap.size w0 w'∧LV w' (.slice p n m) n f
theorem Og {w0:World} {p:Option Addr} {N m:Nat} {f:Nat→Nat} (hv:LV w0 (.slice p N m) N f) (hN:N≤131072) (hp:p=none→m=0):Calls prog 40 #[.slice p N m] w0 (TmL w0 (aF f N) f):=by
 have h256:∀j,j<aF f N→f j<aT:=fun j hj=>by
  obtain⟨_,_,_,_,h,_⟩:=hv;exact h j (Nat.lt_of_lt_of_le hj (cC f N))
 by_cases h0:aF f N=0
 ·refine ((oB hv hN hp).1 h0).mono ?_
  rintro e w' ⟨rfl,hb⟩
  rw[h0];exact⟨none,0,rfl,hb,LV.nil0 w' f⟩
 ·refine ((oB hv hN hp).2 (by omega)).mono ?_
  rintro e w' ⟨b,cap,rfl,hb,h1,h2,h3,h4,h5⟩
  obtain⟨_,_,h6,_⟩:=h5 rfl;exact⟨some ⟨b,0,none⟩,cap,rfl,hb,some ⟨b,0,none⟩,cap,rfl,h6,h256,fun _=>⟨b,0,rfl,h2,h3⟩⟩
def dF:Code:=(f10.body).getD .skip
def hU:Code:=cB (cB (cB (cB dF)))
theorem OH:dF=.seq (cA dF) (.seq (.region 1 (aO (cA (cB dF))) false) (.seq (cA (cB (cB dF))) (.seq (cA (cB (cB (cB dF)))) hU))):=by kernel_rfl
def xD (v:Value) (z:Int) (x:Nat):List Fact:=.slot 14 (.sl 14 0 1 1) :: .row 14 true [.c v] :: .slot 16 (.sl 16 0 1 1) :: .row 16 true [.q x]::eG v z x
theorem Fv (v:Value) (z:Int) (x:Nat):aH prog (qG prog) f10.ntmps (oV fun _=>none) 40 (cA dF) (eF 0 [.v (.im v),.v (.im (iV z)),.v (.fl [.q x])]) (eG v z x)=some ([],.nrm,eG v z x):=by kernel_rfl
theorem Fu (p:Option Addr) (N m:Nat) (z:Int) (x:Nat):dR prog (qG prog) f10.ntmps rC ((aO (cA (cB dF))).extract 0 4) (eG (.slice p N m) z x) (xD (.slice p N m) z x)=some ([],xD (.slice p N m) z x):=by kernel_rfl
theorem Ft (v:Value) (z:Int) (x:Nat) (e:Int):dR prog (qG prog) f10.ntmps rC ((aO (cA (cB dF))).extract 5 6) (.slot 17 (.im (.int .i64 e))::xD v z x) (.slot 8 (.im (.int .i64 e))::eG v z x)=some ([],.slot 8 (.im (.int .i64 e))::eG v z x):=by kernel_rfl
theorem VO (v:Value) (z:Int) (x:Nat) (e:Int):aH prog (qG prog) f10.ntmps (oV (aE [(19,.bool false)])) 40 (cA (cB (cB dF))) (.slot 8 (.im (.int .i64 e))::eG v z x) (.slot 8 (.im (.int .i64 e))::eG v z x)=some ([aD .eql .i64 e 0=some (.bool false)],.nrm,.slot 8 (.im (.int .i64 e))::eG v z x):=by kernel_rfl
theorem VN (v:Value) (z:Int) (x:Nat):aH prog (qG prog) f10.ntmps (oV fun _=>none) 40 (cA (cB (cB dF))) (.slot 8 (.im (.int .i64 0))::eG v z x) (.slot 8 (.im (.int .i64 (Dc z x)))::eG v z x)=some ([x<aT],.nrm,.slot 8 (.im (.int .i64 (Dc z x)))::eG v z x):=by kernel_rfl
theorem VM (v:Value) (z:Int) (x:Nat) (e:Int):aH prog (qG prog) f10.ntmps (oV (aE [(24,.bool true)])) 40 (cA (cB (cB (cB dF)))) (.slot 8 (.im (.int .i64 e))::eG v z x) (JS e)=some ([aD .neq .i64 e 0=some (.bool true)],.rt,JS e):=by kernel_rfl
theorem VL (v:Value) (z:Int) (x:Nat):aH prog (qG prog) f10.ntmps (oV fun _=>none) 40 (cA (cB (cB (cB dF)))) (.slot 8 (.im (.int .i64 0))::eG v z x) (eG v z x)=some ([],.nrm,eG v z x):=by kernel_rfl
theorem vF {w0:World} {p0:Option Addr} {N m0 x:Nat} {f:Nat→Nat} {z:Int} (hv:LV w0 (.slice p0 N m0) N f) (hx:x<aT) :
  (gX N f z x≠0→Good prog 10 (.many [.im (.slice none 0 0),.im (.int .i64 (gX N f z x))]) [.slice p0 N m0,iV z,.agg (aB [At.q x]).toArray] w0) ∧
  (gX N f z x=0→∀R:Ending→World→Prop,(∀a w,Holds f10.ntmps w0.heap.size w0 (eG (.slice p0 N m0) z x) a w→hU.wp prog (bodyPost prog f10 R) a w)→Calls prog 10 #[.slice p0 N m0,iV z,.agg (aB [At.q x]).toArray] w0 R):=by
 have hG:bH prog (qG prog) w0.heap.size w0:=(aY _).w _ _;have hT:∀n d:Nat,TabOkW prog zA w0.heap.size w0:=fun _ _=>vV.w _ _
 have first:∀R:Ending→World→Prop,(∀a w,Holds f10.ntmps w0.heap.size w0 (.slot 8 (.im (.int .i64 (gX N f z x)))::eG (.slice p0 N m0) z x) a w→(Code.seq (cA (cB (cB (cB dF)))) hU).wp prog (bodyPost prog f10 R) a w)→Calls prog 10 #[.slice p0 N m0,iV z,.agg (aB [At.q x]).toArray] w0 R:=fun R hR=>by
  refine bJ func10 (cs:=[.v (.im (.slice p0 N m0)),.v (.im (iV z)),.v (.fl [.q x])]) (args:=[.slice p0 N m0,iV z,.agg (aB [At.q x]).toArray]) (c:=dF) rfl ⟨rfl,rfl,rfl,trivial⟩ (Nat.le_of_ble_eq_true (by kernel_rfl)) fun a w1 hA => ?_
  rw[OH];refine wp_seq (aA aG hT hG (Fv _ z x) trivial hA fun a w1 hA => ?_);refine wp_seq (cD (l:=List.range' 0 ((aO (cA (cB dF))).extract 0 4).size++(4::(List.range' 5 ((aO (cA (cB dF))).extract 5 6).size++[]))) (by kernel_rfl) ?_);refine aL (c:=rC) (hT 0) hG (Fu p0 N m0 z x) trivial (by kernel_rfl) hA fun a w1 hA => ?_
  obtain⟨b,hA1⟩:=hA.at (k:=16) (l:=[.q x]) (by simp[xD]);obtain⟨b2,hA2⟩:=hA.at (k:=14) (l:=[.c (.slice p0 N m0)]) (by simp[xD]);have h14:=(hA1.im (s:=16) (k:=16) (o:=0) (n:=1) (m:=1) (b:=b) (by simp[xD]) (by simp)).slot (s:=16) (v:=aZ b 0 1 1) (by simp);have h12:=(hA2.im (s:=14) (k:=14) (o:=0) (n:=1) (m:=1) (b:=b2) (by simp[xD]) (by simp)).slot (s:=14) (v:=aZ b2 0 1 1) (by simp);have o1:oldOf w1 b 0 [.q x]:=hA1.old (k:=16) (by simp[xD]) (by simp);have o2:oldOf w1 b2 0 [.c (.slice p0 N m0)]:=hA2.old (k:=14) (by simp[xD]) (by simp);obtain⟨o,ho,hoo,hod,hog⟩:∃o,(aO (cA (cB dF)))[4]?=some o∧(∃ts,o.op=.call ⟨.value (.func 38),#[.tmp 14,.tmp 16],ts⟩)∧o.dst=some 17∧o.guard=none:=⟨_,rfl,⟨_,rfl⟩,rfl,rfl⟩
  obtain⟨ts,hoo⟩:=hoo;refine dJ ho hog (iE hoo (vs:=[aZ b2 0 1 1,aZ b 0 1 1]) (by simp[Act.eval,h12,h14]) (fun args=>bK func38 (by kernel_rfl) (by kernel_rfl) args _) (BU (hv.on hA.below) hx o1 o2) fun w2 hb => ?_);rw[hod];have hA:=hA.put hb (d:=17) (Nat.le_of_ble_eq_true (by kernel_rfl)) (.im (.int .i64 (fH N f x))) (kH (by kernel_rfl));refine aL (c:=rC) (hT 0) hG (Ft _ z x _) trivial (by kernel_rfl) hA fun a w1 hA => ?_
  show (Code.seq _ _).wp _ _ _ _;rw[SU]at hR
  by_cases he:fH N f x=0
  ·rw[he]at hA;rw[if_neg (fun q=>q he)]at hR;exact wp_seq (aA aG hT hG (VN _ z x) ⟨hx,trivial⟩ hA fun a w1 hA=>hR a w1 hA)
  ·rw[if_pos he]at hR;exact wp_seq (aA aG hT hG (VO _ z x _) ⟨Kw he,trivial⟩ hA fun a w1 hA=>hR a w1 hA)
 refine⟨fun he=>first _ fun a w hA => ?_,fun he R hR=>first R fun a w hA => ?_⟩
 ·exact wp_seq (aA aG hT hG (VM _ z x _) ⟨tG he,trivial⟩ hA fun a w' hA=>aW (l:=[.im (.slice none 0 0),.im (.int .i64 (gX N f z x))]) (r:=.many [.im (.slice none 0 0),.im (.int .i64 (gX N f z x))]) (by kernel_rfl) (by kernel_rfl) hA)
 ·rw[he]at hA;exact wp_seq (aA aG hT hG (VL _ z x) trivial hA fun a w' hA=>hR a w' hA)
def dG:Code:=(f12.body).getD .skip
def kY:Code:=cB (cB (cB (cB dG)))
theorem PA:dG=.seq (cA dG) (.seq (.region 1 (aO (cA (cB dG))) false) (.seq (cA (cB (cB dG))) (.seq (cA (cB (cB (cB dG)))) kY))):=by kernel_rfl
def xR (v:Value) (z:Int) (x:Nat):List Fact:=.slot 19 (.sl 19 0 1 1) :: .row 19 true [.c v] :: .slot 21 (.sl 21 0 1 1) :: .row 21 true [.q x]::eG v z x
theorem Ha (v:Value) (z:Int) (x:Nat):aH prog (qG prog) f12.ntmps (oV fun _=>none) 40 (cA dG) (eF 0 [.v (.im v),.v (.im (iV z)),.v (.fl [.q x])]) (eG v z x)=some ([],.nrm,eG v z x):=by kernel_rfl
theorem Gz (p:Option Addr) (N m:Nat) (z:Int) (x:Nat):dR prog (qG prog) f12.ntmps rC ((aO (cA (cB dG))).extract 0 4) (eG (.slice p N m) z x) (xR (.slice p N m) z x)=some ([],xR (.slice p N m) z x):=by kernel_rfl
theorem Gy (v:Value) (z:Int) (x:Nat) (e:Int):dR prog (qG prog) f12.ntmps rC ((aO (cA (cB dG))).extract 5 6) (.slot 22 (.im (.int .i64 e))::xR v z x) (.slot 8 (.im (.int .i64 e))::eG v z x)=some ([],.slot 8 (.im (.int .i64 e))::eG v z x):=by kernel_rfl
theorem XE (v:Value) (z:Int) (x:Nat) (e:Int):aH prog (qG prog) f12.ntmps (oV (aE [(24,.bool false)])) 40 (cA (cB (cB dG))) (.slot 8 (.im (.int .i64 e))::eG v z x) (.slot 8 (.im (.int .i64 e))::eG v z x)=some ([aD .eql .i64 e 0=some (.bool false)],.nrm,.slot 8 (.im (.int .i64 e))::eG v z x):=by kernel_rfl
theorem XD (v:Value) (z:Int) (x:Nat):aH prog (qG prog) f12.ntmps (oV fun _=>none) 40 (cA (cB (cB dG))) (.slot 8 (.im (.int .i64 0))::eG v z x) (.slot 8 (.im (.int .i64 (Dc z x)))::eG v z x)=some ([x<aT],.nrm,.slot 8 (.im (.int .i64 (Dc z x)))::eG v z x):=by kernel_rfl
theorem XC (v:Value) (z:Int) (x:Nat) (e:Int):aH prog (qG prog) f12.ntmps (oV (aE [(29,.bool true)])) 40 (cA (cB (cB (cB dG)))) (.slot 8 (.im (.int .i64 e))::eG v z x) (JS e)=some ([aD .neq .i64 e 0=some (.bool true)],.rt,JS e):=by kernel_rfl
theorem XB (v:Value) (z:Int) (x:Nat):aH prog (qG prog) f12.ntmps (oV fun _=>none) 40 (cA (cB (cB (cB dG)))) (.slot 8 (.im (.int .i64 0))::eG v z x) (eG v z x)=some ([],.nrm,eG v z x):=by kernel_rfl
theorem pI {w0:World} {p0:Option Addr} {N m0 x:Nat} {f:Nat→Nat} {z:Int} (hv:LV w0 (.slice p0 N m0) N f) (hx:x<aT) :
  (gX N f z x≠0→Good prog 12 (.many [.im (.slice none 0 0),.im (.int .i64 (gX N f z x))]) [.slice p0 N m0,iV z,.agg (aB [At.q x]).toArray] w0) ∧
  (gX N f z x=0→∀R:Ending→World→Prop,(∀a w,Holds f12.ntmps w0.heap.size w0 (eG (.slice p0 N m0) z x) a w→kY.wp prog (bodyPost prog f12 R) a w)→Calls prog 12 #[.slice p0 N m0,iV z,.agg (aB [At.q x]).toArray] w0 R):=by
 have hG:bH prog (qG prog) w0.heap.size w0:=(aY _).w _ _;have hT:∀n d:Nat,TabOkW prog zA w0.heap.size w0:=fun _ _=>vV.w _ _
 have first:∀R:Ending→World→Prop,(∀a w,Holds f12.ntmps w0.heap.size w0 (.slot 8 (.im (.int .i64 (gX N f z x)))::eG (.slice p0 N m0) z x) a w→(Code.seq (cA (cB (cB (cB dG)))) kY).wp prog (bodyPost prog f12 R) a w)→Calls prog 12 #[.slice p0 N m0,iV z,.agg (aB [At.q x]).toArray] w0 R:=fun R hR=>by
  refine bJ func12 (cs:=[.v (.im (.slice p0 N m0)),.v (.im (iV z)),.v (.fl [.q x])]) (args:=[.slice p0 N m0,iV z,.agg (aB [At.q x]).toArray]) (c:=dG) rfl ⟨rfl,rfl,rfl,trivial⟩ (Nat.le_of_ble_eq_true (by kernel_rfl)) fun a w1 hA => ?_
  rw[PA];refine wp_seq (aA aG hT hG (Ha _ z x) trivial hA fun a w1 hA => ?_);refine wp_seq (cD (l:=List.range' 0 ((aO (cA (cB dG))).extract 0 4).size++(4::(List.range' 5 ((aO (cA (cB dG))).extract 5 6).size++[]))) (by kernel_rfl) ?_);refine aL (c:=rC) (hT 0) hG (Gz p0 N m0 z x) trivial (by kernel_rfl) hA fun a w1 hA => ?_
  obtain⟨b,hA1⟩:=hA.at (k:=21) (l:=[.q x]) (by simp[xR]);obtain⟨b2,hA2⟩:=hA.at (k:=19) (l:=[.c (.slice p0 N m0)]) (by simp[xR]);have h14:=(hA1.im (s:=21) (k:=21) (o:=0) (n:=1) (m:=1) (b:=b) (by simp[xR]) (by simp)).slot (s:=21) (v:=aZ b 0 1 1) (by simp);have h12:=(hA2.im (s:=19) (k:=19) (o:=0) (n:=1) (m:=1) (b:=b2) (by simp[xR]) (by simp)).slot (s:=19) (v:=aZ b2 0 1 1) (by simp);have o1:oldOf w1 b 0 [.q x]:=hA1.old (k:=21) (by simp[xR]) (by simp);have o2:oldOf w1 b2 0 [.c (.slice p0 N m0)]:=hA2.old (k:=19) (by simp[xR]) (by simp);obtain⟨o,ho,hoo,hod,hog⟩:∃o,(aO (cA (cB dG)))[4]?=some o∧(∃ts,o.op=.call ⟨.value (.func 38),#[.tmp 19,.tmp 21],ts⟩)∧o.dst=some 22∧o.guard=none:=⟨_,rfl,⟨_,rfl⟩,rfl,rfl⟩
  obtain⟨ts,hoo⟩:=hoo;refine dJ ho hog (iE hoo (vs:=[aZ b2 0 1 1,aZ b 0 1 1]) (by simp[Act.eval,h12,h14]) (fun args=>bK func38 (by kernel_rfl) (by kernel_rfl) args _) (BU (hv.on hA.below) hx o1 o2) fun w2 hb => ?_);rw[hod];have hA:=hA.put hb (d:=22) (Nat.le_of_ble_eq_true (by kernel_rfl)) (.im (.int .i64 (fH N f x))) (kH (by kernel_rfl));refine aL (c:=rC) (hT 0) hG (Gy _ z x _) trivial (by kernel_rfl) hA fun a w1 hA => ?_
  show (Code.seq _ _).wp _ _ _ _;rw[SU]at hR
  by_cases he:fH N f x=0
  ·rw[he]at hA;rw[if_neg (fun q=>q he)]at hR;exact wp_seq (aA aG hT hG (XD _ z x) ⟨hx,trivial⟩ hA fun a w1 hA=>hR a w1 hA)
  ·rw[if_pos he]at hR;exact wp_seq (aA aG hT hG (XE _ z x _) ⟨Kw he,trivial⟩ hA fun a w1 hA=>hR a w1 hA)
 refine⟨fun he=>first _ fun a w hA => ?_,fun he R hR=>first R fun a w hA => ?_⟩
 ·exact wp_seq (aA aG hT hG (XC _ z x _) ⟨tG he,trivial⟩ hA fun a w' hA=>aW (l:=[.im (.slice none 0 0),.im (.int .i64 (gX N f z x))]) (r:=.many [.im (.slice none 0 0),.im (.int .i64 (gX N f z x))]) (by kernel_rfl) (by kernel_rfl) hA)
 ·rw[he]at hA;exact wp_seq (aA aG hT hG (XB _ z x) trivial hA fun a w' hA=>hR a w' hA)
def jI:Code:=(f25.body).getD .skip
def nK:Code:=gH (gH (cB (cA (cB jI))))
theorem WW:jI=.seq (cA jI) (.seq (.seq (cA (cA (cB jI))) (.block 0 (.loop nK))) (cB (cB jI))):=by kernel_rfl
theorem Qc (X:Nat→Int):aH prog (qG prog) f25.ntmps (cG fun _=>none) 40 (cA jI) (eF 0 [.v (.fl (x4 X))]) (BZ X)=some ([],.nrm,BZ X):=by kernel_rfl
def KU (X:Nat→Int) (i:Nat):List Fact:=.slot 5 (.im (iI i))::BZ X
theorem Qb (X:Nat→Int):aH prog (qG prog) f25.ntmps (cG fun _=>none) 40 (cA (cA (cB jI))) (BZ X) (KU X 0)=some ([],.nrm,KU X 0):=by kernel_rfl
def rfP (X:Nat→Int) (i:Nat):List Prop:=[aD .lss .i64 (Int.ofNat i) 4=some (.bool true),aD .lss .i64 (X i) (-1099511627776)=some (.bool false),aD .gtr .i64 (X i) 1099511627776=some (.bool false),aD .add .i64 (Int.ofNat i) 1=some (iI (i+1))]
theorem Qd (X:Nat→Int):∀i,i<4→aH prog (qG prog) f25.ntmps (cG (aE [(9,.bool true),(15,.bool false),(20,.bool false),(11,iI (i+1))])) 40 nK (KU X i) (KU X (i+1))=some (rfP X i,.nrm,KU X (i+1))
 | 0,_=>by kernel_rfl
 | 1,_=>by kernel_rfl
 | 2,_=>by kernel_rfl
 | 3,_=>by kernel_rfl
theorem Qg (X:Nat→Int):∀i,i<4→aH prog (qG prog) f25.ntmps (cG (aE [(9,.bool true),(15,.bool true)])) 40 nK (KU X i) (DD z4 z4 4)=some ([aD .lss .i64 (Int.ofNat i) 4=some (.bool true),aD .lss .i64 (X i) (-1099511627776)=some (.bool true)],.rt,DD z4 z4 4)
 | 0,_=>by kernel_rfl
 | 1,_=>by kernel_rfl
 | 2,_=>by kernel_rfl
 | 3,_=>by kernel_rfl
theorem Qf (X:Nat→Int):∀i,i<4→aH prog (qG prog) f25.ntmps (cG (aE [(9,.bool true),(15,.bool false),(20,.bool true)])) 40 nK (KU X i) (DD z4 z4 4)=some ([aD .lss .i64 (Int.ofNat i) 4=some (.bool true),aD .lss .i64 (X i) (-1099511627776)=some (.bool false),aD .gtr .i64 (X i) 1099511627776=some (.bool true)],.rt,DD z4 z4 4)
 | 0,_=>by kernel_rfl
 | 1,_=>by kernel_rfl
 | 2,_=>by kernel_rfl
 | 3,_=>by kernel_rfl
theorem Zj (X:Nat→Int) (i:Nat):aH prog (qG prog) f25.ntmps (cG (aE [(9,.bool false)])) 40 nK (KU X i) (BZ X)=some ([aD .lss .i64 (Int.ofNat i) 4=some (.bool false)],.ex 0,BZ X):=by kernel_rfl
def UA (X:Nat→Int) (j:Nat):Int:=if j=0 then X 0+X 1+X 2+X 3 else if j=2 then X 0-X 1+X 2-X 3 else X 0-X 2
def UB (X:Nat→Int) (j:Nat):Int:=if j=1 then X 3-X 1 else if j=3 then X 1-X 3 else 0
theorem Zi (X:Nat→Int):aH prog (qG prog) f25.ntmps (cG (aE [(28,iV (X 0+X 1)),(31,iV (X 0+X 1+X 2)),(34,iV (X 0+X 1+X 2+X 3)),(39,iV (X 0-X 2)),(44,iV (X 0-X 1)),(47,iV (X 0-X 1+X 2)),(50,iV (X 0-X 1+X 2-X 3)),(55,iV (X 0-X 2)),(61,iV (X 3-X 1)),(66,iV (X 1-X 3))])) 60 (cB (cB jI)) (BZ X) (DD (UA X) (UB X) 0) =
  some ([aD .add .i64 (X 0) (X 1)=some (iV (X 0+X 1)),aD .add .i64 (X 0+X 1) (X 2)=some (iV (X 0+X 1+X 2)),aD .add .i64 (X 0+X 1+X 2) (X 3)=some (iV (X 0+X 1+X 2+X 3)),aD .sub .i64 (X 0) (X 2)=some (iV (X 0-X 2)),aD .sub .i64 (X 0) (X 1)=some (iV (X 0-X 1)),aD .add .i64 (X 0-X 1) (X 2)=some (iV (X 0-X 1+X 2)),aD .sub .i64 (X 0-X 1+X 2) (X 3)=some (iV (X 0-X 1+X 2-X 3)),aD .sub .i64 (X 0) (X 2)=some (iV (X 0-X 2)),aD .sub .i64 (X 3) (X 1)=some (iV (X 3-X 1)),aD .sub .i64 (X 1) (X 3)=some (iV (X 1-X 3))],.rt,DD (UA X) (UB X) 0):=by kernel_rfl
theorem Hp (X:Nat→Int):x4 (UA X)=x4 (fun j=>kU uJ X j 4):=by
 have h:∀j,j<4→UA X j=kU uJ X j 4:=fun j hj=>by
  match j,hj with
  | 0,_=>simp[UA,kU,uJ]
  | 1,_=>simp[UA,kU,uJ]<;>omega
  | 2,_=>simp[UA,kU,uJ]<;>omega
  | 3,_=>simp[UA,kU,uJ]<;>omega
 unfold x4;rw[h 0 (by omega),h 1 (by omega),h 2 (by omega),h 3 (by omega)]
theorem Hq (X:Nat→Int):x4 (UB X)=x4 (fun j=>kU uS X j 4):=by
 have h:∀j,j<4→UB X j=kU uS X j 4:=fun j hj=>by
  match j,hj with
  | 0,_=>simp[UB,kU,uS]
  | 1,_=>simp[UB,kU,uS]<;>omega
  | 2,_=>simp[UB,kU,uS]<;>omega
  | 3,_=>simp[UB,kU,uS]<;>omega
 unfold x4;rw[h 0 (by omega),h 1 (by omega),h 2 (by omega),h 3 (by omega)]
theorem RD {z:Int} (h : -9223372036854775808≤z∧z<9223372036854775808):IntKind.i64.wrap z=z:=by
 simp only[IntKind.wrap,IntKind.bits,IntKind.signed]
 first|omega|(simp; omega)|(split<;>omega)
theorem IW {a b:Int} (h : -9223372036854775808≤a+b∧a+b<9223372036854775808):aD .add .i64 a b=some (iV (a+b)):=by
 show some (Value.int .i64 (IntKind.i64.wrap (a+b)))=_;rw[RD h]; rfl
theorem wA {a b:Int} (h : -9223372036854775808≤a-b∧a-b<9223372036854775808):aD .sub .i64 a b=some (iV (a-b)):=by
 show some (Value.int .i64 (IntKind.i64.wrap (a-b)))=_;rw[RD h]; rfl
def Uj (X:Nat→Int) (j:Nat):Int:=if uX X then kU uJ X j 4 else 0
def Uk (X:Nat→Int) (j:Nat):Int:=if uX X then kU uS X j 4 else 0
def Ul (X:Nat→Int):Int:=if uX X then 0 else 4
def Eb (X:Nat→Int):List TV:=[.fl (x4 (Uj X)),.fl (x4 (Uk X)),.im (iV (Ul X))]
theorem Dz {X:Nat→Int} (h:uX X):Eb X=[.fl (x4 fun j=>kU uJ X j 4),.fl (x4 fun j=>kU uS X j 4),.im (iV 0)]:=by
 unfold Eb x4 Uj Uk Ul; simp only[if_pos h]
theorem Ea {X:Nat→Int} (h:¬uX X):Eb X=[.fl (x4 z4),.fl (x4 z4),.im (iV 4)]:=by
 unfold Eb x4 Uj Uk Ul z4; simp only[if_neg h]
theorem qB (X:Nat→Int) (w:World):Good prog 24 (.many (Eb X)) [.agg (aB (x4 X)).toArray] w:=by
 by_cases h:uX X
 ·rw[Dz h]; exact (tW X w).1 h
 ·rw[Ea h]; exact (tW X w).2 h
theorem AJ (X:Nat→Int) (w0:World):Good prog 25 (.many (Eb X)) [.agg (aB (x4 X)).toArray] w0:=by
 have hG:bH prog (qG prog) w0.heap.size w0:=(aY _).w _ _;have hT:∀n d:Nat,TabOkW prog dW w0.heap.size w0:=fun _ _=>bG.w _ _
 refine bJ func25 (cs:=[.v (.fl (x4 X))]) (args:=[.agg (aB (x4 X)).toArray]) (c:=jI) rfl ⟨rfl,trivial⟩ (Nat.le_of_ble_eq_true (by kernel_rfl)) fun a w1 hA => ?_
 rw[WW];refine wp_seq (aA aG hT hG (Qc X) trivial hA fun a w1 hA => ?_);refine wp_seq (wp_seq (aA aG hT hG (Qb X) trivial hA fun a w1 hA => ?_));refine wp_block ?_;have step:∀i,i<4→(-1099511627776≤X i∧X i≤1099511627776)→Ok prog w0.heap.size w0 f25.ntmps nK (KU X i) .nrm (KU X (i+1)):=fun i hi hr =>
  ⟨_,_,_,_,hG,hT,Qd X i hi,mC hi,by rw[eN,decide_eq_false (by omega)],by rw[kS,decide_eq_false (by omega)],eT (k:=1) (by omega),trivial⟩
 by_cases h:uX X
 ·rw[Dz h,←Hp,←Hq];refine cE aG (fun i=>KU X i) 4 (fun i hi=>step i hi (h i hi)) (.ex 0) (by simp) (BZ X) ⟨_,_,_,_,hG,hT,Zj X 4,xY (Nat.le_refl _),trivial⟩ hA fun a w hA => ?_
  show (cB (cB jI)).wp _ _ _ _;have h0:=h 0 (by omega);have h1:=h 1 (by omega);have h2:=h 2 (by omega);have h3:=h 3 (by omega);exact aA aG hT hG (Zi X) ⟨IW (by omega),IW (by omega),IW (by omega),wA (by omega),wA (by omega),IW (by omega),wA (by omega),wA (by omega),wA (by omega),wA (by omega),trivial⟩ hA fun a w hA=>aW (l:=[.fl (x4 (UA X)),.fl (x4 (UB X)),.im (iV 0)]) (r:=.many [.fl (x4 (UA X)),.fl (x4 (UB X)),.im (iV 0)]) (by kernel_rfl) (by kernel_rfl) hA
 ·rw[Ea h];obtain⟨j,hj,h1,h2⟩:=eH (p:=fun k => -1099511627776≤X k∧X k≤1099511627776) h;have hbad:Ok prog w0.heap.size w0 f25.ntmps nK (KU X j) .rt (DD z4 z4 4):=by
   by_cases q:X j < -1099511627776
   ·exact⟨_,_,_,_,hG,hT,Qg X j hj,mC hj,by rw[eN,decide_eq_true q],trivial⟩
   ·exact⟨_,_,_,_,hG,hT,Qf X j hj,mC hj,by rw[eN,decide_eq_false q],by rw[kS,decide_eq_true (by omega)],trivial⟩
  refine cE aG (fun i=>KU X i) j (fun i hi=>step i (by omega) (h1 i hi)) .rt (by simp) (DD z4 z4 4) hbad hA fun a w hA => ?_
  exact aW (l:=[.fl (x4 z4),.fl (x4 z4),.im (iV 4)]) (r:=.many [.fl (x4 z4),.fl (x4 z4),.im (iV 4)]) (by kernel_rfl) (by kernel_rfl) hA
def Mq (X:Nat→Int):iR
 | [.v (.fl l)]=>some ([aB l=aB (x4 X)],.many (Eb X))
 | _=>none
theorem FO {f:FuncId} {X:Nat→Int} (h:∀w,Good prog f (.many (Eb X)) [.agg (aB (x4 X)).toArray] w):∀cs pre r,Mq X cs=some (pre,r)→aQ pre→∀(args:List Value) (w:World),cF w cs args→Good prog f r args w:=by
 intro cs pre r hg hp args w ha;unfold Mq at hg;split at hg
 ·cases hg
  match args,ha with
  | [v],ha =>
   have h1:v=.agg (aB _).toArray:=ha.1;rw[hp.1]at h1;subst h1;exact h w
  | [],ha=>exact ha.elim
  | _::_::_,ha=>exact ha.2.elim
 ·cases hg
theorem OO (z:Int):yK prog dW (qG prog) (fun _=>true) f14 40 [.v (.im (iV z))]=some ([],.one (.im (iV z))):=by kernel_rfl
def gNu:iR
 | [.v (.im (.int .i64 z))]=>some ([],.one (.im (iV z)))
 | _=>none
theorem Kd:∀cs pre r,gNu cs=some (pre,r)→aQ pre→∀(args:List Value) (w:World),cF w cs args→Good prog 14 r args w:=by
 intro cs pre r hg hp args w ha;unfold gNu at hg;split at hg
 ·cases hg;exact fS aG bG (aY _) func14 (OO _) trivial ha
 ·cases hg
def TR:Tab:=(TQ.add 14 gNu).add 50 (g0 (.one (.fl [.q (Cz 1)])))
theorem QD:TabOk prog TR:=(QC.add func14 (by kernel_rfl) (by kernel_rfl) Kd).add func50 (by kernel_rfl) (by kernel_rfl) (BW fun w=>fS aG qE (aY _) func50 WO ⟨by decide,trivial⟩ (args:=[]) trivial)
theorem pS (a b:Int) (w:World):(Op.equalIn 9999 3 (iV a) (iV b)).run prog w=.ok (decide (a=b)) w:=by
 exact run_equalIn_int (P:=prog) w 9998 3 .i64 .i64 a b (by kernel_rfl)
theorem Hs (cs:List Value) (off:Nat) (h:off+1≤cs.length) (w:World):(part 3 cs.toArray off).run prog w=.ok (MS false ((cs.drop off).take 1)) w:=by
 have:=mA (P:=prog) (t:=3) (n:=1) (by kernel_rfl) (by kernel_rfl) (fun _=>rfl) cs off h w;rw[show jZ prog 3=false by kernel_rfl]at this;exact this
theorem JN (a b c d a' b' c' d':Int) (w:World):(Op.equalIn 10000 45 (.agg #[iV a,iV b,iV c,iV d]) (.agg #[iV a',iV b',iV c',iV d'])).run prog w=.ok (decide (a=a'∧b=b'∧c=c'∧d=d')) w:=by
 refine (iZ (P:=prog) w 9999 45 4 3 1 _ _ (by kernel_rfl) (by kernel_rfl)).trans ?_;have p:∀(x y z u:Int) (i:Nat) (h:i+1≤4) (w:World),(part 3 #[iV x,iV y,iV z,iV u] i).run prog w=.ok (MS false (([iV x,iV y,iV z,iV u].drop i).take 1)) w:=fun x y z u i h w=>Hs [iV x,iV y,iV z,iV u] i h w
 simp only[jD,Sem.run_bind,Nat.zero_mul,Nat.mul_one,Nat.zero_add,Nat.reduceAdd,Nat.reduceMul,p _ _ _ _ 0 (by omega),p _ _ _ _ 1 (by omega),p _ _ _ _ 2 (by omega),p _ _ _ _ 3 (by omega),List.drop,List.take,MS,pS,Result.andThen_ok]
 by_cases h1:a=a'
 ·by_cases h2:b=b'
  ·by_cases h3:c=c'
   ·by_cases h4:d=d'
    ·simp[h1,h2,h3,h4,p,MS,pS]
    ·simp[h1,h2,h3,h4,p,MS,pS]
   ·simp[h1,h2,h3,p,MS,pS]
  ·simp[h1,h2,p,MS,pS]
 ·simp[h1,p,MS,pS]
def CG:List At→Bool
 | [.c (.int .i64 _),.c (.int .i64 _),.c (.int .i64 _),.c (.int .i64 _)]=>true
 | _=>false
theorem yM {l:List At} (h:CG l=true):∃a b c d:Int,l=[.c (iV a),.c (iV b),.c (iV c),.c (iV d)]:=by
 unfold CG at h;split at h
 ·exact⟨_,_,_,_,rfl⟩
 ·cases h
def qI:EqT:={ qG prog with q:=fun t=>bif Nat.beq t 45 then some 4 else (qG prog).q t,n:=fun t=>bif Nat.beq t 45 then some 4 else (qG prog).n t,fit:=fun t l=>bif Nat.beq t 45 then CG l else (qG prog).fit t l }
theorem Hr:uR prog qI:=by
 obtain⟨⟨h1,h2⟩,h3⟩:=aY prog;refine⟨fun t n h => ?_,fun t n h => ?_⟩
 ·by_cases e:Nat.beq t 45=true
  ·have ht:=Nat.eq_of_beq_eq_true e;subst ht;refine⟨by kernel_rfl,fun l w hl hf => ?_⟩;obtain⟨a,b,c,d,rfl⟩:=yM (show CG l=true from hf);refine (JN a b c d a b c d w).trans ?_;rw[decide_eq_true ⟨rfl,rfl,rfl,rfl⟩]
  ·have e':Nat.beq t 45=false:=Bool.eq_false_iff.2 e;have h':(qG prog).q t=some n:=by
    have:(bif Nat.beq t 45 then some 4 else (qG prog).q t)=some n:=h;rw[e']at this;exact this
   obtain⟨g1,g2⟩:=h1 t n h';refine⟨g1,fun l w hl hf=>g2 l w hl ?_⟩;have:(bif Nat.beq t 45 then CG l else (qG prog).fit t l)=true:=hf;rw[e']at this;exact this
 ·by_cases e:Nat.beq t 45=true
  ·have ht:=Nat.eq_of_beq_eq_true e;subst ht;refine⟨by kernel_rfl,fun l m w hl hm hf hg hne => ?_⟩;obtain⟨a,b,c,d,rfl⟩:=yM (show CG l=true from hf);obtain⟨a',b',c',d',rfl⟩:=yM (show CG m=true from hg);refine (JN a b c d a' b' c' d' w).trans ?_;rw[decide_eq_false]
   rintro⟨rfl,rfl,rfl,rfl⟩
   exact hne rfl
  ·have e':Nat.beq t 45=false:=Bool.eq_false_iff.2 e;have h':(qG prog).n t=some n:=by
    have:(bif Nat.beq t 45 then some 4 else (qG prog).n t)=some n:=h;rw[e']at this;exact this
   obtain⟨g1,g2⟩:=h2 t n h';have c:∀l:List At,(bif Nat.beq t 45 then CG l else (qG prog).fit t l)=true→(qG prog).fit t l=true:=fun l hf=>by
    rw[e']at hf;exact hf
   exact⟨g1,fun l m w hl hm hf hg hne=>g2 l m w hl hm (c l hf) (c m hg) hne⟩
def Jd (N:Nat) (f:Nat→Nat) (log:Nat):List CA→Option (List Prop×FR)
 | [.s l n m,.v (.im (.int .i64 z)),.v (.fl r)]=>match jQ r with
  | some x=>some ([aB l=aB (aR (el f) 0 N),n=N,N≤m,(∀j,j<N→f j<aT),N≤65536,x<aT,z=Int.ofNat log,oT N f (Int.ofNat log) x=0],⟨aR (el (mW N f log x)) 0 (2^log),2^log,2^log,[.im (.int .i64 0)]⟩)
  | none=>none
 | _=>none
theorem ZB {N log:Nat} {f:Nat→Nat}:∀cs pre r,Jd N f log cs=some (pre,r)→aQ pre→∀(args:List Value) (w:World),cF w cs args→Calls prog 9 args.toArray w (fun e w'=>r.ok w e w'):=by
 intro cs pre r hg hp args w ha;unfold Jd at hg;split at hg
 ·rename_i l n m z r0;split at hg
  ·rename_i x hx;cases hg
   match args,ha with
   | [a1,a2,a3],ha =>
    have h2:a2=iV z:=ha.2.1;have h3:a3=.agg (aB r0).toArray:=ha.2.2.1;rw[bL r0 x hx]at h3;obtain⟨p1,p2,p3,p4,p5,p6,p7,p8,_⟩:=hp;subst h2; subst h3; subst p7;exact (lJ (LV.ofS ha.1 p1 p2 p3 p4) (by omega) p6).2 p8
   | [],ha=>exact ha.elim
   | [_],ha=>exact ha.2.elim
   | [_,_],ha=>exact ha.2.2.elim
   | _::_::_::_::_,ha=>exact ha.2.2.2.elim
  ·cases hg
 ·cases hg
def Kf (N:Nat) (f:Nat→Nat):List CA→Option (List Prop×FR)
 | [.s l n m,.v (.fl r)]=>match jQ r with
  | some x=>some ([aB l=aB (aR (el f) 0 N),n=N,N≤m,(∀j,j<N→f j<aT),N≤65536,x<aT,fH N f x=0],⟨aR (el (tK x (aF f N) f)) 0 (rL x (aF f N) f),rL x (aF f N) f,rL x (aF f N) f,[.fl [.q (QO x (aF f N) f)],.im (.int .i64 0)]⟩)
  | none=>none
 | _=>none
theorem ZV {N:Nat} {f:Nat→Nat}:∀cs pre r,Kf N f cs=some (pre,r)→aQ pre→∀(args:List Value) (w:World),cF w cs args→Calls prog 16 args.toArray w (fun e w'=>r.ok w e w'):=by
 intro cs pre r hg hp args w ha;unfold Kf at hg;split at hg
 ·rename_i l n m r0;split at hg
  ·rename_i x hx;cases hg
   match args,ha with
   | [a1,a3],ha =>
    have h3:a3=.agg (aB r0).toArray:=ha.2.1;rw[bL r0 x hx]at h3;obtain⟨p1,p2,p3,p4,p5,p6,p8,_⟩:=hp;subst h3;exact (tJ (LV.ofS ha.1 p1 p2 p3 p4) (by omega) p6).2 p8
   | [],ha=>exact ha.elim
   | [_],ha=>exact ha.2.elim
   | _::_::_::_,ha=>exact ha.2.2.elim
  ·cases hg
 ·cases hg
def LX (N:Nat) (f:Nat→Nat) (M:Nat) (g:Nat→Nat):iR
 | [c,d]=>match MM N f c,MM M g d with
  | some p,some q=>some (p++(q++[N≤4611686018427387904,jF N f M g]),.one (.im (.bool true)))
  | _,_=>none
 | _=>none
theorem IZ {N M:Nat} {f g:Nat→Nat}:∀cs pre r,LX N f M g cs=some (pre,r)→aQ pre→∀(args:List Value) (w:World),cF w cs args→Good prog 13 r args w:=by
 intro cs pre r hg hp args w ha;unfold LX at hg;split at hg
 ·rename_i c d;split at hg
  ·rename_i p q hc hd;cases hg;rw[aS,aS]at hp;have h:=Jq (N:=N) (M:=M) (f:=f) (g:=g) [c,d] (p++(q++[N≤4611686018427387904])) (.one (.im (.bool (decide (jF N f M g))))) (by unfold gSf; simp only[hc,hd]) (by rw[aS,aS]; exact⟨hp.1,hp.2.1,hp.2.2.1,trivial⟩) args w ha;rw[decide_eq_true hp.2.2.2.1]at h;exact h
  ·cases hg
 ·cases hg
def lA (j:Nat):Nat:=if j=0 then 1 else 2
def lB (j:Nat):Nat:=if j=0 then Cz 1 else if j=1 then 0 else 1
def lC (j:Nat):Nat:=if j=0 then 3 else Cz 1
def lD (_:Nat):Nat:=1
def lX (j:Nat):Int:=if j=0 then 1 else if j=1 then 2 else if j=2 then 3 else 4
def aAR:Tab2:=(rG.add 9 (Jd 2 lA 1)).add 16 (Kf 3 lB)
def lN:Nat:=rL 1 (aF lB 3) lB
def My (_:Nat):Cfg:=⟨fun s=>(TR.add 24 (Mq lX)).add 13 (bif Nat.beq s 47 then LX 2 (mW 2 lA 1 1) 2 lC else LX lN (tK 1 (aF lB 3) lB) 2 lD),fun _=>true,aE [(37,iV 0),(40,iV 0),(41,.bool true)]⟩
def gY:Code:=(f15.body).getD .skip
theorem Cd:gY=.seq (cA gY) (.seq (cA (cB gY)) (.seq (cA (cB (cB gY))) (.seq (cA (cB (cB (cB gY)))) (cB (cB (cB (cB gY))))))):=by kernel_rfl
def Yg:List Fact:=[.slot 1 (.sl 14 0 2 2),.row 14 true [.q (mW 2 lA 1 1 0),.q (mW 2 lA 1 1 1)],.slot 2 (.im (iV 0))]
def Yf:List Fact:=.slot 3 (.sl 23 0 2 2) :: .row 23 true [.q (tK 1 (aF lB 3) lB 0),.q (tK 1 (aF lB 3) lB 1)] :: .slot 4 (.pt 4 0) :: .row 4 true [.q (QO 1 (aF lB 3) lB)] :: .slot 5 (.im (iV 0))::Yg
def al3:List Fact:=.slot 6 (.pt 6 0) :: .row 6 true (x4 (Uj lX)) :: .slot 7 (.pt 7 0) :: .row 7 true (x4 (Uk lX)) :: .slot 8 (.im (iV (Ul lX)))::Yf
def qA:EqT:={ qI with x:=ND aAR }
theorem Wt:aH prog qA f15.ntmps My 60 (cA gY) [] []=some ([],.nrm,[]):=by kernel_rfl
theorem Ws:aH prog qA f15.ntmps My 60 (cA (cB gY)) [] Yg=some ([aB [.f ⟨1,by decide⟩,.f ⟨2,by decide⟩]=aB (aR (el lA) 0 2),2=2,2≤2,∀j,j<2→lA j<aT,2≤65536,1<aT,1=Int.ofNat 1,oT 2 lA (Int.ofNat 1) 1=0],.nrm,Yg):=by kernel_rfl
theorem Wr:aH prog qA f15.ntmps My 60 (cA (cB (cB gY))) Yg Yf=some ([aB [.q (Cz 1),.f ⟨0,cY⟩,.f ⟨1,by decide⟩]=aB (aR (el lB) 0 3),3=3,3≤3,∀j,j<3→lB j<aT,3≤65536,1<aT,fH 3 lB 1=0],.nrm,Yf):=by kernel_rfl
theorem Wq:aH prog qA f15.ntmps My 60 (cA (cB (cB (cB gY)))) Yf al3=some ([aB (x4 lX)=aB (x4 lX)],.nrm,al3):=by kernel_rfl
def alP:List Prop:=[aD .add .i64 0 0=some (iV 0),aD .add .i64 0 (Ul lX)=some (iV 0),aD .eql .i64 0 0=some (.bool true),
 aB [.q (mW 2 lA 1 1 0),.q (mW 2 lA 1 1 1)]=aB (aR (el (mW 2 lA 1 1)) 0 2),2=2,∀j,j<2→mW 2 lA 1 1 j<aT,aB [.f ⟨3,by decide⟩,.q (Cz 1)]=aB (aR (el lC) 0 2),2=2,∀j,j<2→lC j<aT,2≤4611686018427387904,jF 2 (mW 2 lA 1 1) 2 lC,
 aB [.q (tK 1 (aF lB 3) lB 0),.q (tK 1 (aF lB 3) lB 1)]=aB (aR (el (tK 1 (aF lB 3) lB)) 0 lN),2=lN,∀j,j<lN→tK 1 (aF lB 3) lB j<aT,aB [.f ⟨1,by decide⟩,.f ⟨1,by decide⟩]=aB (aR (el lD) 0 2),2=2,∀j,j<2→lD j<aT,lN≤4611686018427387904,jF lN (tK 1 (aF lB 3) lB) 2 lD,
 aB [.q (QO 1 (aF lB 3) lB)]=aB [.f ⟨0,cY⟩],aB (x4 (Uj lX))=aB [.c (iV 10),.c (iV (-2)),.c (iV (-2)),.c (iV (-2))],aB (x4 (Uk lX))=aB [.c (iV 0),.c (iV 2),.c (iV 0),.c (iV (-2))]]
theorem Wp:aH prog qA f15.ntmps My 60 (cB (cB (cB (cB gY)))) al3 [.slot 0 (.im (.bool true))]=some (alP,.rt,[.slot 0 (.im (.bool true))]):=by kernel_rfl
theorem Wo (r:Nat):∀j,j<2→zD (qS (aF lA 2) (DA lA 1 1) 1) (2^1) (fE 1 r) 1 j=lC j
 | 0,_=>by kernel_rfl
 | 1,_=>by kernel_rfl
theorem TL:∀j,j<2→mW 2 lA 1 1 j=lC j:=Wo (cJ 1)
theorem Xp {p:Nat→Prop} (h0:p 0) (h1:p 1):∀j,j<2→p j
 | 0,_=>h0
 | 1,_=>h1
theorem Sx:lN=2:=by kernel_rfl
theorem Sl:tK 1 (aF lB 3) lB 0=1:=by kernel_rfl
theorem Sk:tK 1 (aF lB 3) lB 1=1:=by kernel_rfl
theorem Do:∀j,j<2→lC j<aT:=Xp (by decide) (by decide)
theorem Mb:aQ alP:=by
 refine⟨rfl,by kernel_rfl,rfl,rfl,rfl,fun j hj=>by rw[TL j hj]; exact Do j hj,by kernel_rfl,rfl,Do,by omega,⟨rfl,TL⟩,?_,Sx.symm,?_,by kernel_rfl,rfl,fun j hj=>by show 1<aT; decide,by rw[Sx]; omega,?_,by kernel_rfl,by kernel_rfl,by kernel_rfl,trivial⟩
 ·rw[Sx]; rfl
 ·rw[Sx]; exact Xp (by rw[Sl]; decide) (by rw[Sk]; decide)
 ·rw[Sx]; exact⟨rfl,Xp Sl Sk⟩
theorem Re (w:World) (n d:Nat):TabOkW prog ((My n).T d) w.heap.size w:=by
 refine TabOk.w ?_ _ _;show TabOk prog ((TR.add 24 (Mq lX)).add 13 (bif Nat.beq d 47 then LX 2 (mW 2 lA 1 1) 2 lC else LX lN (tK 1 (aF lB 3) lB) 2 lD));refine (QD.add func24 (by kernel_rfl) (by kernel_rfl) (FO (qB lX))).add func13 (by kernel_rfl) (by kernel_rfl) ?_;cases Nat.beq d 47
 ·exact IZ
 ·exact IZ
theorem Qr (w:World):bH prog qA w.heap.size w :=
 ⟨Hr,(jG (base:=w.heap.size) (w:=w) fun w' hw=>((FrAt.none _ _).add func9 (by kernel_rfl) (by kernel_rfl) fun cs pre r h1 h2 args ha=>ZB cs pre r h1 h2 args w' ha).add func16 (by kernel_rfl) (by kernel_rfl) fun cs pre r h1 h2 args ha=>ZV cs pre r h1 h2 args w' ha).2⟩
theorem qR (w:World):Good prog 15 (.one (.im (.bool true))) [] w:=by
 have hG:=Qr w;have hT:=Re w;refine bJ func15 (cs:=[]) (args:=[]) (c:=gY) rfl trivial (Nat.le_of_ble_eq_true (by kernel_rfl)) fun a w1 hA => ?_
 rw[Cd];refine wp_seq (aA aG hT hG Wt trivial hA fun a w1 hA => ?_);refine wp_seq (aA aG hT hG Ws ⟨by kernel_rfl,rfl,by omega,Xp (by decide) (by decide),by omega,by decide,rfl,by kernel_rfl,trivial⟩ hA fun a w1 hA => ?_);refine wp_seq (aA aG hT hG Wr ⟨by kernel_rfl,rfl,by omega,fun j hj=>by match j,hj with|0,_=>decide|1,_=>decide|2,_=>decide,by omega,by decide,by kernel_rfl,trivial⟩ hA fun a w1 hA => ?_);refine wp_seq (aA aG hT hG Wq ⟨rfl,trivial⟩ hA fun a w1 hA => ?_);exact aA aG hT hG Wp Mb hA fun a w' hA=>aW (l:=[.im (.bool true)]) (r:=.one (.im (.bool true))) (by kernel_rfl) (by kernel_rfl) hA
theorem LW.on {w w':World} {v:Value} {N:Nat} {f:Nat→Nat} (h:LW w v N f) (hb:Below w.heap.size w w'):LW w' v N f:=by
 obtain⟨p,m,h1,h3,h4⟩:=h;refine⟨p,m,h1,h3,fun h0 => ?_⟩;obtain⟨b,o,e,g1,g2⟩:=h4 h0;exact⟨b,o,e,Nat.lt_of_lt_of_le g1 hb.size,cI hb g1 g2⟩
def Alk (w:World) (u u':Value):Prop:=∃n g g',LW w u n g∧LW w u' n g'∧(∀j,j<n→g j=g' j)∧n≤4611686018427387904
theorem Alk.on {w w':World} {u u':Value} (h:Alk w u u') (hb:Below w.heap.size w w'):Alk w' u u':=by
 obtain⟨n,g,g',h1,h2,h3⟩:=h;exact⟨n,g,g',h1.on hb,h2.on hb,h3⟩
def Jr (w:World):iR
 | [.v (.im u),.v (.im u')]=>some ([Alk w u u'],.one (.im (.bool true)))
 | _=>none
theorem ZN {w w':World} (hb:Below w.heap.size w w'):∀cs pre r,Jr w cs=some (pre,r)→aQ pre→∀(args:List Value),cF w' cs args→Good prog 13 r args w':=by
 intro cs pre r hg hp args ha;unfold Jr at hg;split at hg
 ·cases hg;obtain⟨n,g,g',h1,h2,h3,h4⟩:=hp.1.on hb
  match args,ha with
  | [a1,a2],ha =>
   have e1:a1=_:=ha.1;have e2:a2=_:=ha.2.1;subst e1; subst e2;have h:=sK h1 h2 h4;rw[decide_eq_true (show jF n g n g' from⟨rfl,h3⟩)]at h;exact h
  | [],ha=>exact ha.elim
  | [_],ha=>exact ha.2.elim
  | _::_::_::_,ha=>exact ha.2.2.elim
 ·cases hg
theorem Holds.imTu {nt base:Nat} {w0:World} {A:List Fact} {a:Act} {w:World} (h:Holds nt base w0 A a w) {s:Nat} {v:Value} {l:List TV} (h1:Fact.slot s (.im v)∈A) (e:v=.tuple (l.map TV.den).toArray):Holds nt base w0 (.slot s (.tu l)::A) a w:=by
 obtain⟨β,g1,g2,g3⟩:=h.facts;have e1:=g1 _ h1;have up:∀k1 o1 l1,Fact.row k1 o1 l1∈(Fact.slot s (.tu l)::A)→Fact.row k1 o1 l1∈A:=fun k1 o1 l1 q=>by
  rcases List.mem_cons.1 q with q|q
  ·cases q
  ·exact q
 refine⟨h.defers,h.size,h.below,h.heap,β,fun φ hφ => ?_,fun k1 k2 o2 l1 l2 q1 q2=>g2 k1 k2 o2 l1 l2 (up _ _ _ q1) (up _ _ _ q2),fun k1 l1 q=>g3.1 k1 l1 (up _ _ _ q),g3.2⟩
 rcases List.mem_cons.1 hφ with rfl|hφ
 ·show a.tmps[s]?=some (.tuple (l.map TV.den).toArray);rw[←e]; exact e1
 ·exact g1 φ hφ
theorem Um (c:Int):aD .eql .i64 c c=some (.bool true):=by
 show some (Value.bool (c==c))=_;simp
def Pr (w0:World) (n:Nat) (g:Nat→Nat) (e:Int) (en:Ending) (w':World):Prop:=∃u,en=.returned (.tuple #[u,iV e])∧Below w0.heap.size w0 w'∧LV w' u n g
theorem Pr.nil {w0:World} {e:Int} {en:Ending} {w':World} (g:Nat→Nat) (h:en=.returned (RV.den (.many [.im (.slice none 0 0),.im (.int .i64 e)]))∧Below w0.heap.size w0 w'):Pr w0 0 g e en w' :=
 ⟨.slice none 0 0,h.1,h.2,LV.nil0 w' g⟩
theorem Pr.fr {w0:World} {n:Nat} {g:Nat→Nat} {e:Int} {en:Ending} {w':World} (hg:∀j,j<n→g j<aT) (h:FR.ok ⟨aR (el g) 0 n,n,n,[.im (.int .i64 e)]⟩ w0 en w'):Pr w0 n g e en w':=by
 obtain⟨b,rfl,hb,h1,h2,h3,h4⟩:=h;exact⟨_,rfl,hb,_,_,rfl,Nat.le_refl _,hg,fun _=>⟨b,0,rfl,h2,h3⟩⟩
theorem Pr.fs {w0:World} {n:Nat} {g:Nat→Nat} {e:Int} {en:Ending} {w':World} {ty:Nat} (hg:∀j,j<n→g j<aT) (h:FS.ok ⟨aR (el g) 0 n,n,ty,4,true,[],[.im (.int .i64 e)]⟩ w0 en w'):Pr w0 n g e en w':=by
 obtain⟨b,cap,rfl,hb,h1,h2,h3,h4,h5⟩:=h;obtain⟨_,_,h6,_⟩:=h5 rfl;exact⟨_,rfl,hb,_,_,rfl,h6,hg,fun _=>⟨b,0,rfl,h2,h3⟩⟩
theorem Pr.up {w0 W:World} {n:Nat} {g:Nat→Nat} {e:Int} {en:Ending} {w':World} (B:Below w0.heap.size w0 W) (h:Pr W n g e en w'):Pr w0 n g e en w':=by
 obtain⟨u,h1,h2,h3⟩:=h;exact⟨u,h1,B.trans (h2.mono B.size),h3⟩
theorem IJ (y:Nat):∀v∈aB [At.q y],v.oneCell'=true:=rU (fun _=>y) 1 0
theorem yT (g:Nat→Nat) (i:Nat):aB (aR (el g) 0 (i+1))=aB (aR (el g) 0 i++[At.q (g i)]):=by
 rw[uI,Nat.zero_add];rfl
def Jc (v:Value) (N:Nat) (f:Nat→Nat):iR
 | [.v (.im u),.v (.fl r)]=>match jQ r with
  | some x=>some ([u=v,x<RM],.one (.fl [.q (eO x N f N)]))
  | none=>none
 | _=>none
theorem ZA {w:World} {v:Value} {N:Nat} {f:Nat→Nat} (hv:LV w v N f) (hN:N≤131072) (hf:bT N f):∀cs pre r,Jc v N f cs=some (pre,r)→aQ pre→∀(args:List Value),cF w cs args→Good prog 43 r args w:=by
 intro cs pre r hg hp args ha;unfold Jc at hg;split at hg
 ·rename_i u r0;split at hg
  ·rename_i x hx;cases hg
   match args,ha with
   | [a1,a2],ha =>
    have h1:a1=u:=ha.1;have h3:a2=.agg (aB r0).toArray:=ha.2.1;have h4:=hp.1;rw[bL r0 x hx]at h3;subst h1; subst h3; subst h4;exact NG hv hN hf hp.2.1
   | [],ha=>exact ha.elim
   | [_],ha=>exact ha.2.elim
   | _::_::_::_,ha=>exact ha.2.2.elim
  ·cases hg
 ·cases hg
def Nq (u:Value) (T:Nat) (f:Nat→Nat) (num:Nat→Option Value) (_:Nat):Cfg:=⟨fun _=>zA.add 43 (Jc u T f),fun _=>true,num⟩
theorem wO {w:World} {v:Value} {N:Nat} {f:Nat→Nat} (hv:LV w v N f) (hN:N≤131072) (hf:bT N f) (num:Nat→Option Value):∀n d:Nat,TabOkW prog ((Nq v N f num n).T d) w.heap.size w:=fun _ _ =>
 TabOkW.add (vV.w _ _) func43 (by kernel_rfl) (by kernel_rfl) fun w hw=>ZA (hv.on hw) hN hf
def Nf (d n:Nat) (Z:List At):Ext:={ Ext.none with mks:=aE [(d,(n,Z))],T2:=rG,T3:=KG,T4:=KB,T5:=KE,T6:=KF }
theorem wM (d n:Nat) (Z:List At) (base:Nat) (w:World):bH prog { qG prog with x:=Nf d n Z } base w :=
 ⟨(aY _).1,fL (fun b o l h=>h.elim) (fun w' _=>FrAt.none _ _) (fun w' _=>FsAt.none _ _)⟩
def zW:Code:=cB (cB (cB (cB (cB hU))))
def oE:Code:=gH (gH (cB (cA zW)))
theorem KP:hU=.seq (.region 6 (aO (cA hU)) false) (.seq (cA (cB hU)) (.seq (cA (cB (cB hU))) (.seq (cA (cB (cB (cB hU)))) (.seq (cA (cB (cB (cB (cB hU))))) (.seq (.seq (cA (cA zW)) (.block 0 (.loop oE))) (cB zW)))))):=by kernel_rfl
theorem Gb (p:Option Addr) (N m:Nat) (z:Int) (x b5:Nat):dR prog (qG prog) f10.ntmps rC ((aO (cA hU)).extract 0 1) (.at 5 b5::eG (.slice p N m) z x) (.slot 26 (.im (.slice p N m)) :: .at 5 b5::eG (.slice p N m) z x)=some ([],.slot 26 (.im (.slice p N m)) :: .at 5 b5::eG (.slice p N m) z x):=by kernel_rfl
def xC (u:Value) (z:Int) (b5:Nat):List Fact:=[.slot 0 (.im u),.slot 1 (.im (iV z)),.slot 5 (.im (bZ b5 0))]
theorem Ga (u:Value) (z:Int) (b5:Nat):dR prog (qG prog) f10.ntmps rC ((aO (cA hU)).extract 2 3) [.slot 27 (.im u),.slot 1 (.im (iV z)),.slot 5 (.im (bZ b5 0))] (xC u z b5)=some ([],xC u z b5):=by kernel_rfl
theorem Fz (p:Option Addr) (T m log b5:Nat):aH prog (qG prog) f10.ntmps (oV (aE [(32,.bool true)])) 60 (cA (cB hU)) (xC (.slice p T m) (Int.ofNat log) b5) (JS 72)=some ([log≤28,aD .gtr .i64 (Int.ofNat T) (Int.ofNat (2^log))=some (.bool true)],.rt,JS 72):=by kernel_rfl
theorem Fy (p:Option Addr) (T m log b5:Nat):aH prog (qG prog) f10.ntmps (oV (aE [(32,.bool false)])) 60 (cA (cB hU)) (xC (.slice p T m) (Int.ofNat log) b5) (xC (.slice p T m) (Int.ofNat log) b5)=some ([log≤28,aD .gtr .i64 (Int.ofNat T) (Int.ofNat (2^log))=some (.bool false)],.nrm,xC (.slice p T m) (Int.ofNat log) b5):=by kernel_rfl
def Gg (u:Value) (log b5 w:Nat):List Fact:=.slot 9 (.pt 9 0) :: .row 9 true [.q w]::xC u (Int.ofNat log) b5
theorem Pp (u:Value) (log b5:Nat):aH prog (qG prog) f10.ntmps (oV fun _=>none) 60 (cA (cB (cB hU))) (xC u (Int.ofNat log) b5) (Gg u log b5 (cJ log))=some ([log≤28],.nrm,Gg u log b5 (cJ log)):=by kernel_rfl
def KQ (u:Value) (log w x:Nat):List Fact:=[.slot 9 (.pt 9 0),.row 9 true [.q w],.slot 10 (.pt 10 0),.row 10 true [.q x],.slot 0 (.im u),.slot 1 (.im (iI log))]
theorem Ge (W:World) (u:Value) (log b5 w x:Nat):aH prog { qG prog with x:=xO W (fun _=>none) (aE [(35,[.q x])]) (fun _=>none) } f10.ntmps (oV fun _=>none) 60 (cA (cB (cB (cB hU)))) (Gg u log b5 w) (KQ u log w x)=some ([oldOf W b5 0 [.q x],cR [.q x]=4],.nrm,KQ u log w x):=by kernel_rfl
def DX (u:Value) (log wN xN:Nat) (R:List Fact) (i:Nat):List Fact:=.slot 12 (.im (iI i)) :: .slot 9 (.pt 9 0) :: .row 9 true [.q wN] :: .slot 10 (.pt 10 0) :: .row 10 true [.q xN] :: .slot 0 (.im u) :: .slot 1 (.im (iI log))::R
def VQ:List Fact:=[.slot 11 (.im (.slice none 0 0))]
def OI (i:Nat) (Z:List At):List Fact:=[.slot 11 (.so 47 i),.row 47 true Z,.app 47 25 4 i]
theorem Gd (u:Value) (log w x:Nat):aH prog (qG prog) f10.ntmps (oV fun _=>none) 60 (cA (cB (cB (cB (cB hU))))) (KQ u log w x) (.slot 11 (.im (.slice none 0 0))::KQ u log w x)=some ([],.nrm,.slot 11 (.im (.slice none 0 0))::KQ u log w x):=by kernel_rfl
theorem Gc (u:Value) (log w x:Nat):aH prog (qG prog) f10.ntmps (oV fun _=>none) 60 (cA (cA zW)) (.slot 11 (.im (.slice none 0 0))::KQ u log w x) (DX u log w x VQ 0)=some ([],.nrm,DX u log w x VQ 0):=by kernel_rfl
theorem Fx (u:Value) (T log wN xN:Nat) (f:Nat→Nat) (Z:List At):aH prog { qG prog with x:=Nf 47 1 Z } f10.ntmps (Nq u T f (aE [(39,.bool true),(41,iI 1)])) 60 oE (DX u log wN xN VQ 0) (DX u log wN (cS xN wN) (OI 1 Z) 1) =
  some ([log≤28,aD .lss .i64 (Int.ofNat 0) (Int.ofNat (2^log))=some (.bool true),u=u,xN<RM,∀v∈aB [At.q (eO xN T f T)],v.oneCell'=true,0<1,(0+1)*32≤140737488355328,0+1≤4611686018427387904,1=0+1,aB Z=aB ([]++[At.q (eO xN T f T)]),xN<RM,wN<RM,aD .add .i64 (Int.ofNat 0) 1=some (iI 1)],.nrm,DX u log wN (cS xN wN) (OI 1 Z) 1):=by kernel_rfl
theorem Fw (u:Value) (T log wN xN i:Nat) (f:Nat→Nat) (Y Z:List At):aH prog { qG prog with x:=Nf 47 (i+1) Z } f10.ntmps (Nq u T f (aE [(39,.bool true),(41,iI (i+1))])) 60 oE (DX u log wN xN (OI i Y) i) (DX u log wN (cS xN wN) (OI (i+1) Z) (i+1)) =
  some ([log≤28,aD .lss .i64 (Int.ofNat i) (Int.ofNat (2^log))=some (.bool true),u=u,xN<RM,i=i,cR Y=i*4,∀v∈aB [At.q (eO xN T f T)],v.oneCell'=true,0<1,(i+1)*32≤140737488355328,i+1≤4611686018427387904,i+1=i+1,aB Z=aB (Y++[At.q (eO xN T f T)]),xN<RM,wN<RM,aD .add .i64 (Int.ofNat i) 1=some (iI (i+1))],.nrm,DX u log wN (cS xN wN) (OI (i+1) Z) (i+1)):=by kernel_rfl
theorem Po (u:Value) (log wN xN i:Nat) (Y:List At):aH prog (qG prog) f10.ntmps (oV (aE [(39,.bool false)])) 60 oE (DX u log wN xN (OI i Y) i) (DX u log wN xN (OI i Y) i)=some ([log≤28,aD .lss .i64 (Int.ofNat i) (Int.ofNat (2^log))=some (.bool false)],.ex 0,DX u log wN xN (OI i Y) i):=by kernel_rfl
def Gf (n:Nat) (l:List At):List Fact:=[.slot 6 (.so 47 n),.row 47 true l,.app 47 25 4 n,.slot 7 (.im (iV 0))]
theorem Pn (u:Value) (log wN xN i:Nat) (Y:List At):aH prog (qG prog) f10.ntmps (oV fun _=>none) 60 (cB zW) (DX u log wN xN (OI i Y) i) (Gf i Y)=some ([],.rt,Gf i Y):=by kernel_rfl
theorem VP (T:Nat) (l:List At):AL prog (Gf T l) f10.results.toList []=some ⟨l,T,25,4,true,[],[.im (iV 0)]⟩:=by
 have h:Nat.beq T T=true:=Nat.beq_refl T;show (bif Nat.beq T T then some (FS.mk l T 25 4 true [] [.im (iV 0)])else none)=_;rw[h];rfl
def mT (T:Nat) (f:Nat→Nat) (w x j:Nat):Nat:=eO (fE x w j) T f T
def Zc (u:Value) (log w x T:Nat) (f:Nat→Nat):Nat→List Fact
 | 0=>DX u log w x VQ 0
 | i+1=>DX u log w (fE x w (i+1)) (OI (i+1) (aR (el (mT T f w x)) 0 (i+1))) (i+1)
theorem ID (u:Value) (log w x T:Nat) (f:Nat→Nat) {n:Nat} (h:0<n):Zc u log w x T f n=DX u log w (fE x w n) (OI n (aR (el (mT T f w x)) 0 n)) n:=by
 obtain⟨k,rfl⟩:∃k,n=k+1:=⟨n-1,by omega⟩
 rfl
theorem NI {N log x:Nat} {f:Nat→Nat} (hl:log≤16) (hT:aF f N≤2^log) (hx:x<RM) {j:Nat} (hj:j<2^log):mW N f log x j=mT (aF f N) f (cJ log) x j:=by
 unfold mW mT;rw[Dy (f:=DA f 1 x) (fun h0=>rJ (by omega) h0) hl hT (fun i _=>cL _ _) hj];refine iW (fF _ _ _ _) (fF _ _ _ _) ?_;rw[hJ,hJ,fX,fX,lM,KR.one_mul];refine bE KR _ fun i _ => ?_
 show KR.mul (bO (cS (f i) (fE 1 x i))) _=KR.mul (bO (f i)) _;rw[dK,fX,lM,KR.one_mul,KR.mul_assoc,fK KR (bO x)]
theorem vG {w0:World} {p0:Option Addr} {N m0 x:Nat} {f:Nat→Nat} {z:Int} (hv:LV w0 (.slice p0 N m0) N f) (hp:p0=none→m0=0) (hx:x<aT) :
  (oT N f z x≠0→Calls prog 10 #[.slice p0 N m0,iV z,.agg (aB [At.q x]).toArray] w0 (Pr w0 0 (fun _=>0) (oT N f z x))) ∧
  (oT N f z x=0→Calls prog 10 #[.slice p0 N m0,iV z,.agg (aB [At.q x]).toArray] w0 (Pr w0 (2^z.toNat) (mT (aF f N) f (cJ z.toNat) x) 0)):=by
 unfold oT
 by_cases he:gX N f z x=0
 ·rw[if_neg (fun q=>q he)];obtain⟨q1,q2,q3,q4,log,q5,rfl⟩:=iN he;rw[show (Int.ofNat log).toNat=log from rfl];have hp2:2^log≤65536:=Nat.pow_le_pow_right (n:=2) (by omega) q5;have hp1:0<2^log:=Nat.pow_pos (by omega);have hle:=cC f N;have hG:∀(base:Nat) (w:World),bH prog (qG prog) base w:=fun _ _=>(aY _).w _ _
  have hT:∀(base:Nat) (w:World) (n d:Nat),TabOkW prog zA base w:=fun _ _ _ _=>vV.w _ _
  have second:∀R:Ending→World→Prop,(∀(W:World) (p:Option Addr) (m b5:Nat) (a:Act) (w:World),Below w0.heap.size w0 W→LV W (.slice p (aF f N) m) (aF f N) f→oldOf W b5 0 [.q x]→Holds f10.ntmps W.heap.size W (xC (.slice p (aF f N) m) (Int.ofNat log) b5) a w→(Code.seq (cA (cB hU)) (.seq (cA (cB (cB hU))) (.seq (cA (cB (cB (cB hU)))) (.seq (cA (cB (cB (cB (cB hU))))) (.seq (.seq (cA (cA zW)) (.block 0 (.loop oE))) (cB zW)))))).wp prog (bodyPost prog f10 R) a w)→Calls prog 10 #[.slice p0 N m0,iV (Int.ofNat log),.agg (aB [At.q x]).toArray] w0 R:=fun R hR=>by
   refine (vF hv hx).2 he R fun a w hA => ?_
   rw[KP];obtain⟨b5,hA⟩:=hA.at (k:=5) (l:=[.q x]) (by simp[eG]);have o5:oldOf w b5 0 [.q x]:=hA.old (k:=5) (by simp[eG]) (by simp);refine wp_seq (cD (l:=List.range' 0 ((aO (cA hU)).extract 0 1).size++(1::(List.range' 2 ((aO (cA hU)).extract 2 3).size++[]))) (by kernel_rfl) ?_);refine aL (c:=rC) (hT _ _ 0) (hG _ _) (Gb p0 N m0 _ x b5) trivial (by kernel_rfl) hA fun a w1 hA => ?_
   have o5:oldOf w1 b5 0 [.q x]:=hA.old (k:=5) (by simp[eG]) (by simp);obtain⟨o,ho,⟨ts,hoo⟩,hod,hog⟩:∃o,(aO (cA hU))[1]?=some o∧(∃ts,o.op=.call ⟨.value (.func 40),#[.tmp 26],ts⟩)∧o.dst=some 27∧o.guard=none:=⟨_,rfl,⟨_,rfl⟩,rfl,rfl⟩
   refine kN hA ho hoo hod hog (Nat.le_of_ble_eq_true (by kernel_rfl)) (vs:=[.slice p0 N m0]) rfl (ks:=[1,5]) (keep:=[(1,.im (iV (Int.ofNat log))),(5,.im (bZ b5 0))]) rfl rfl (bK func40 (by kernel_rfl) (by kernel_rfl)) (Og (hv.on hA.below) (by omega) hp) fun e W hW => ?_
   obtain⟨p,m,rfl,hb,hl⟩:=hW;refine⟨_,rfl,fun a hF => ?_⟩;have hF:Holds f10.ntmps W.heap.size W [.slot 27 (.im (.slice p (aF f N) m)),.slot 1 (.im (iV (Int.ofNat log))),.slot 5 (.im (bZ b5 0))] a W:=hF;refine aL (c:=rC) (hT _ _ 0) (hG _ _) (Ga _ _ b5) trivial (by kernel_rfl) hF fun a w2 hA2 => ?_
   exact hR W p m b5 a w2 (hA.below.trans (hb.mono hA.below.size)) hl ⟨Nat.lt_of_lt_of_le o5.1 hb.size,cI hb o5.1 o5.2⟩ hA2
  by_cases hL:aF f N≤2^log
  ·rw[if_pos hL];refine⟨fun h=>absurd rfl h,fun _=>second _ fun W p m b5 a w B hl o5 hA => ?_⟩;have hfT:bT (aF f N) f:=fun j hj=>q2 j (by omega)
   refine wp_seq (aA aG (hT _ _) (hG _ _) (Fy p (aF f N) m log b5) ⟨by omega,by rw[oJ,decide_eq_false (by omega)],trivial⟩ hA fun a w hA => ?_);refine wp_seq (aA aG (hT _ _) (hG _ _) (Pp _ log b5) ⟨by omega,trivial⟩ hA fun a w hA => ?_);refine wp_seq (aA aG (hT _ _) (cW W _ _ _) (Ge W _ log b5 _ x) ⟨o5,rfl,trivial⟩ hA fun a w hA => ?_);refine wp_seq (aA aG (hT _ _) (hG _ _) (Gd _ log _ x) trivial hA fun a w hA => ?_);refine wp_seq (wp_seq (aA aG (hT _ _) (hG _ _) (Gc _ log _ x) trivial hA fun a w hA => ?_));refine wp_block ?_;have hw:=eB 5 ((RM-1)/2^log);refine cE aG (Zc (.slice p (aF f N) m) log (cJ log) x (aF f N) f) (2^log) (fun i hi => ?_) (.ex 0) (by simp) (Zc (.slice p (aF f N) m) log (cJ log) x (aF f N) f (2^log)) ?_ hA fun a w hA => ?_
   ·cases i with
    | zero=>exact⟨_,_,_,_,wM _ _ _ _ _,wO hl (by omega) hfT _,Fx _ (aF f N) log (cJ log) x f (aR (el (mT (aF f N) f (cJ log) x)) 0 1),by omega,bV hp1,rfl,q3,IJ _,by omega,by omega,by omega,rfl,yT _ 0,q3,hw,rfl,trivial⟩
    | succ i =>
     have hxi:=pK (y:=cJ log) q3 (i+1);exact⟨_,_,_,_,wM _ _ _ _ _,wO hl (by omega) hfT _,Fw _ (aF f N) log (cJ log) (fE x (cJ log) (i+1)) (i+1) f (aR (el (mT (aF f N) f (cJ log) x)) 0 (i+1)) (aR (el (mT (aF f N) f (cJ log) x)) 0 (i+1+1)),by omega,bV hi,rfl,hxi,rfl,gA (f:=el (mT (aF f N) f (cJ log) x)) (c:=4) (fun _=>rfl) _ _,IJ _,by omega,by omega,by omega,rfl,yT _ (i+1),hxi,hw,eT (k:=1) (by omega),trivial⟩
   ·rw[ID _ _ _ _ _ _ hp1];exact⟨_,_,_,_,hG _ _,hT _ _,Po _ log _ _ (2^log) _,by omega,dI (Nat.le_refl _),trivial⟩
   ·show (cB zW).wp _ _ _ _;rw[ID _ _ _ _ _ _ hp1]at hA;refine aA aG (hT _ _) (hG _ _) (Pn _ log _ _ (2^log) _) trivial hA fun a w' hA=>cH (mQ (VP _ _) hA) fun e w h=>Pr.up B (Pr.fs (fun j hj=>eQ (fF _ _ _ _)) h)
  ·rw[if_neg hL];refine⟨fun _=>second _ fun W p m b5 a w B hl o5 hA => ?_,fun h=>by cases h⟩;exact wp_seq (aA aG (hT _ _) (hG _ _) (Fz p (aF f N) m log b5) ⟨by omega,by rw[oJ,decide_eq_true (by omega)],trivial⟩ hA fun a w hA=>cH (aW (l:=[.im (.slice none 0 0),.im (.int .i64 72)]) (r:=.many [.im (.slice none 0 0),.im (.int .i64 72)]) (by kernel_rfl) (by kernel_rfl) hA) fun e w h=>Pr.up B (Pr.nil _ h))
 ·rw[if_pos he];exact⟨fun _=>((vF hv hx).1 he).mono fun e w h=>Pr.nil _ h,fun h=>absurd h he⟩
theorem yV {f g:Nat→Nat}:∀(n s:Nat),(∀j,j<n→f (s+j)=g (s+j))→aR (el f) s n=aR (el g) s n
 | 0,s,_=>rfl
 | n+1,s,h=>by
  have e0:f s=g s:=h 0 (Nat.succ_pos n);have e1:∀j,j<n→f (s+1+j)=g (s+1+j):=fun j hj=>by
   rw[Nat.add_assoc,Nat.add_comm 1 j];exact h (j+1) (Nat.succ_lt_succ hj)
  show el f s++aR (el f) (s+1) n=el g s++aR (el g) (s+1) n;rw[yV n (s+1) e1];show [At.q (f s)]++_=[At.q (g s)]++_;rw[e0]
theorem LV.congr {w:World} {v:Value} {n:Nat} {f g:Nat→Nat} (h:LV w v n f) (e:∀j,j<n→f j=g j):LV w v n g:=by
 obtain⟨p,m,h1,h2,h3,h4⟩:=h;have e1:aR (el f) 0 n=aR (el g) 0 n:=yV n 0 fun j hj=>by rw[Nat.zero_add]; exact e j hj
 rw[e1]at h4;exact⟨p,m,h1,h2,fun j hj=>e j hj▸h3 j hj,h4⟩
theorem Pr.congr {w0:World} {n:Nat} {g g':Nat→Nat} {e:Int} {en:Ending} {w':World} (h:Pr w0 n g e en w') (hg:∀j,j<n→g j=g' j):Pr w0 n g' e en w':=by
 obtain⟨u,h1,h2,h3⟩:=h;exact⟨u,h1,h2,h3.congr hg⟩
theorem RZ {M g x e:Nat} (hr:Root M g) (h0:0<x) (hx:x<M) (he:e=M-1):x^e%M=1:=by
 rw[he];exact Ku hr h0 hx
theorem mL {x:Nat} (h0:x≠0) (hx:x<RM):KR.mul (bO (fJ x)) (bO x)=KR.one:=by
 have h:bO (fJ x)=bD KR (bO x) (RM-2):=by
  rw[←mI];exact Fin.ext (by show 1*x^(RM-2)%RM%RM=x^(RM-2)%RM; rw[Nat.one_mul,Nat.mod_mod])
 rw[h,show KR.mul (bD KR (bO x) (RM-2)) (bO x)=bD KR (bO x) (RM-2+1)from rfl,←mI];have key:∀e,e=RM-1→bO (x^e)=KR.one:=fun e he=>Fin.ext (RZ EH (Nat.pos_of_ne_zero h0) hx he)
 exact key _ (by decide)
theorem Bt {log:Nat} (h:log≤28) (h0:0<log):bD KR (bO (fJ (cJ log))) (2^(log-1))=KR.neg KR.one:=by
 have h1:KR.mul (bD KR (bO (fJ (cJ log))) (2^(log-1))) (KR.neg KR.one)=KR.one:=by
  rw[←rJ h h0,←fK,mL (IE h) (eB _ _),eC]
 have h2:=congrArg (fun t=>KR.mul t (KR.neg KR.one)) h1;have h3:KR.mul (KR.neg KR.one) (KR.neg KR.one)=KR.one:=by rw[KR.neg_mul,KR.one_mul,KR.neg_neg]
 have h2:KR.mul (KR.mul (bD KR (bO (fJ (cJ log))) (2^(log-1))) (KR.neg KR.one)) (KR.neg KR.one)=KR.mul KR.one (KR.neg KR.one):=h2
 rwa [KR.mul_assoc,h3,KR.mul_one,KR.one_mul]at h2
def lG (f:Nat→Nat) (log x j:Nat):Nat:=cS (eO (fE 1 (fJ (cJ log)) j) (2^log) f (2^log)) (fE (fJ (2^log)) (fJ x) j)
theorem SR {log x:Nat} {f:Nat→Nat} (hl:log≤16) (hf:bT (2^log) f) {j:Nat} (hj:j<2^log):jE (2^log) f log x j=lG f log x j:=by
 unfold jE DA lG TZ;rw[Dy (f:=f) (fun h0=>Bt (by omega) h0) hl (Nat.le_refl _) hf hj]
theorem nE {f g:Nat→Nat}:∀n,(∀j,j<n→f j=g j)→aF f n=aF g n
 | 0,_=>rfl
 | n+1,h=>by
  unfold aF;rw[h n (by omega),nE n fun j hj=>h j (by omega)]
def EL:Code:=cB (cB (cB (cB (cB (cB kY)))))
def rK:Code:=gH (gH (cB (cA EL)))
theorem vN:kY=.seq (cA kY) (.seq (cA (cB kY)) (.seq (cA (cB (cB kY))) (.seq (cA (cB (cB (cB kY)))) (.seq (cA (cB (cB (cB (cB kY))))) (.seq (cA (cB (cB (cB (cB (cB kY)))))) (.seq (.seq (cA (cA EL)) (.block 0 (.loop rK))) (cB EL))))))):=by kernel_rfl
theorem He (p:Option Addr) (N m log x:Nat):aH prog (qG prog) f12.ntmps (oV (aE [(35,.bool true)])) 60 (cA kY) (eG (.slice p N m) (Int.ofNat log) x) (JS 3)=some ([log≤28,aD .neq .i64 (Int.ofNat N) (Int.ofNat (2^log))=some (.bool true)],.rt,JS 3):=by kernel_rfl
theorem Hd (p:Option Addr) (N m log x:Nat):aH prog (qG prog) f12.ntmps (oV (aE [(35,.bool false)])) 60 (cA kY) (eG (.slice p N m) (Int.ofNat log) x) (eG (.slice p N m) (Int.ofNat log) x)=some ([log≤28,aD .neq .i64 (Int.ofNat N) (Int.ofNat (2^log))=some (.bool false)],.nrm,eG (.slice p N m) (Int.ofNat log) x):=by kernel_rfl
def XG (v:Value) (log x b:Nat):List Fact:=.slot 9 (.pt 9 0) :: .row 9 true [.q b]::eG v (Int.ofNat log) x
theorem Ql (v:Value) (log x:Nat):aH prog (qG prog) f12.ntmps (oV fun _=>none) 60 (cA (cB kY)) (eG v (Int.ofNat log) x) (XG v log x (fJ (cJ log)))=some ([log≤28,cJ log<RM,cJ log≠0],.nrm,XG v log x (fJ (cJ log))):=by kernel_rfl
def PC (v:Value) (log x b n:Nat):List Fact:=.slot 11 (.pt 11 0) :: .row 11 true [.q n]::XG v log x b
theorem Qk (v:Value) (log x b:Nat):aH prog { qG prog with x:=xG (aE [(45,.int .u64 (Int.ofNat (2^log)))]) } f12.ntmps (oV fun _=>none) 60 (cA (cB (cB kY))) (XG v log x b) (PC v log x b (fJ (2^log)))=some ([log≤28,∀w:World,(convert 3 23 (iI (2^log))).run prog w=.ok (.int .u64 (Int.ofNat (2^log))) w,2^log<18446744073709551616,2^log<RM,2^log≠0],.nrm,PC v log x b (fJ (2^log))):=by kernel_rfl
def EM (v:Value) (log b n s:Nat):List Fact:=[.slot 9 (.pt 9 0),.row 9 true [.q b],.slot 11 (.pt 11 0),.row 11 true [.q n],.slot 13 (.pt 13 0),.row 13 true [.q s],.slot 0 (.im v),.slot 1 (.im (iI log))]
theorem Hj (v:Value) (log x b n:Nat):aH prog (qG prog) f12.ntmps (oV fun _=>none) 60 (cA (cB (cB (cB kY)))) (PC v log x b n) (EM v log b n (fJ x))=some ([x<RM,x≠0],.nrm,EM v log b n (fJ x)):=by kernel_rfl
theorem Hi (v:Value) (log b n s:Nat):aH prog (qG prog) f12.ntmps (oV fun _=>none) 60 (cA (cB (cB (cB (cB kY))))) (EM v log b n s) (.slot 15 (.im (.slice none 0 0))::EM v log b n s)=some ([],.nrm,.slot 15 (.im (.slice none 0 0))::EM v log b n s):=by kernel_rfl
def Hl (v:Value) (log b n s x:Nat):List Fact:=.slot 16 (.pt 16 0) :: .row 16 true [.q x] :: .slot 15 (.im (.slice none 0 0))::EM v log b n s
theorem Hh (v:Value) (log b n s:Nat):aH prog (qG prog) f12.ntmps (oV fun _=>none) 60 (cA (cB (cB (cB (cB (cB kY)))))) (.slot 15 (.im (.slice none 0 0))::EM v log b n s) (Hl v log b n s 1)=some ([1<18446744073709551616],.nrm,Hl v log b n s 1):=by kernel_rfl
def qV (u:Value) (log bN sN nN xN:Nat) (R:List Fact) (i:Nat):List Fact:=.slot 17 (.im (iI i)) :: .slot 9 (.pt 9 0) :: .row 9 true [.q bN] :: .slot 11 (.pt 11 0) :: .row 11 true [.q nN] :: .slot 13 (.pt 13 0) :: .row 13 true [.q sN] :: .slot 16 (.pt 16 0) :: .row 16 true [.q xN] :: .slot 0 (.im u) :: .slot 1 (.im (iI log))::R
def IF:List Fact:=[.slot 15 (.im (.slice none 0 0))]
def oH (i:Nat) (Z:List At):List Fact:=[.slot 15 (.so 69 i),.row 69 true Z,.app 69 25 4 i]
theorem Hg (v:Value) (log b n s x:Nat):aH prog (qG prog) f12.ntmps (oV fun _=>none) 60 (cA (cA EL)) (Hl v log b n s x) (qV v log b s n x IF 0)=some ([],.nrm,qV v log b s n x IF 0):=by kernel_rfl
theorem Hc (u:Value) (T log bN sN nN xN:Nat) (f:Nat→Nat) (Z:List At):aH prog { qG prog with x:=Nf 69 1 Z } f12.ntmps (Nq u T f (aE [(59,.bool true),(61,iI 1)])) 60 rK (qV u log bN sN nN xN IF 0) (qV u log bN sN (cS nN sN) (cS xN bN) (oH 1 Z) 1) =
  some ([log≤28,aD .lss .i64 (Int.ofNat 0) (Int.ofNat (2^log))=some (.bool true),u=u,xN<RM,eO xN T f T<RM,nN<RM,∀v∈aB [At.q (cS (eO xN T f T) nN)],v.oneCell'=true,0<1,(0+1)*32≤140737488355328,0+1≤4611686018427387904,1=0+1,aB Z=aB ([]++[At.q (cS (eO xN T f T) nN)]),nN<RM,sN<RM,xN<RM,bN<RM,aD .add .i64 (Int.ofNat 0) 1=some (iI 1)],.nrm,qV u log bN sN (cS nN sN) (cS xN bN) (oH 1 Z) 1):=by kernel_rfl
theorem Hb (u:Value) (T log bN sN nN xN i:Nat) (f:Nat→Nat) (Y Z:List At):aH prog { qG prog with x:=Nf 69 (i+1) Z } f12.ntmps (Nq u T f (aE [(59,.bool true),(61,iI (i+1))])) 60 rK (qV u log bN sN nN xN (oH i Y) i) (qV u log bN sN (cS nN sN) (cS xN bN) (oH (i+1) Z) (i+1)) =
  some ([log≤28,aD .lss .i64 (Int.ofNat i) (Int.ofNat (2^log))=some (.bool true),u=u,xN<RM,eO xN T f T<RM,nN<RM,i=i,cR Y=i*4,∀v∈aB [At.q (cS (eO xN T f T) nN)],v.oneCell'=true,0<1,(i+1)*32≤140737488355328,i+1≤4611686018427387904,i+1=i+1,aB Z=aB (Y++[At.q (cS (eO xN T f T) nN)]),nN<RM,sN<RM,xN<RM,bN<RM,aD .add .i64 (Int.ofNat i) 1=some (iI (i+1))],.nrm,qV u log bN sN (cS nN sN) (cS xN bN) (oH (i+1) Z) (i+1)):=by kernel_rfl
theorem Qj (u:Value) (log bN sN nN xN i:Nat) (Y:List At):aH prog (qG prog) f12.ntmps (oV (aE [(59,.bool false)])) 60 rK (qV u log bN sN nN xN (oH i Y) i) (oH i Y)=some ([log≤28,aD .lss .i64 (Int.ofNat i) (Int.ofNat (2^log))=some (.bool false)],.ex 0,oH i Y):=by kernel_rfl
def Hk (T:Nat) (l:List At):List Fact:=[.slot 6 (.so 77 T),.row 77 true l,.app 77 25 4 T,.slot 7 (.im (iV 0))]
theorem Qi (N cap:Nat) (Z:List At) (g:Nat→Nat):aH prog { qG prog with x:=xT3 (KG.add 40 (Jj N g)) } f12.ntmps (oV fun _=>none) 60 (cB EL) [.slot 15 (.sl 69 0 N cap),.row 69 true Z] (Hk (aF g N) (aR (el g) 0 (aF g N)))=some ([aB Z=aB (aR (el g) 0 N),N=N,N≤cap,∀j,j<N→g j<aT,N≤131072,0<aF g N],.rt,Hk (aF g N) (aR (el g) 0 (aF g N))):=by kernel_rfl
theorem Gx (N cap:Nat) (Z:List At) (g:Nat→Nat):aH prog (qG prog) f12.ntmps (fun _=>⟨fun _=>zA.add 40 (Jk N g),fun _=>true,fun _=>none⟩) 60 (cB EL) [.slot 15 (.sl 69 0 N cap),.row 69 true Z] (JS 0)=some ([aB Z=aB (aR (el g) 0 N),N=N,N≤cap,∀j,j<N→g j<aT,N≤131072,aF g N=0],.rt,JS 0):=by kernel_rfl
theorem XF (T:Nat) (l:List At):AL prog (Hk T l) f12.results.toList []=some ⟨l,T,25,4,true,[],[.im (iV 0)]⟩:=by
 have h:Nat.beq T T=true:=Nat.beq_refl T;show (bif Nat.beq T T then some (FS.mk l T 25 4 true [] [.im (iV 0)])else none)=_;rw[h];rfl
def Qm (u:Value) (log b s n0 x0:Nat) (g:Nat→Nat):Nat→List Fact
 | 0=>qV u log b s n0 x0 IF 0
 | i+1=>qV u log b s (fE n0 s (i+1)) (fE x0 b (i+1)) (oH (i+1) (aR (el g) 0 (i+1))) (i+1)
theorem PB (u:Value) (log b s n0 x0:Nat) (g:Nat→Nat) {n:Nat} (h:0<n):Qm u log b s n0 x0 g n=qV u log b s (fE n0 s n) (fE x0 b n) (oH n (aR (el g) 0 n)) n:=by
 obtain⟨k,rfl⟩:∃k,n=k+1:=⟨n-1,by omega⟩
 rfl
theorem vM {w0:World} {p0:Option Addr} {N m0 x:Nat} {f:Nat→Nat} {z:Int} (hv:LV w0 (.slice p0 N m0) N f) (hx:x<aT) :
  (qN N f z x≠0→Calls prog 12 #[.slice p0 N m0,iV z,.agg (aB [At.q x]).toArray] w0 (Pr w0 0 (fun _=>0) (qN N f z x))) ∧
  (qN N f z x=0→Calls prog 12 #[.slice p0 N m0,iV z,.agg (aB [At.q x]).toArray] w0 (Pr w0 (aF (lG f z.toNat x) (2^z.toNat)) (lG f z.toNat x) 0)):=by
 unfold qN
 by_cases he:gX N f z x=0
 ·rw[if_neg (fun q=>q he)];obtain⟨q1,q2,q3,q4,log,q5,rfl⟩:=iN he;rw[show (Int.ofNat log).toNat=log from rfl];have hp2:2^log≤65536:=Nat.pow_le_pow_right (n:=2) (by omega) q5;have hp1:0<2^log:=Nat.pow_pos (by omega);have hG:bH prog (qG prog) w0.heap.size w0:=(aY _).w _ _;have hT:∀n d:Nat,TabOkW prog zA w0.heap.size w0:=fun _ _=>vV.w _ _
  by_cases hL:N=2^log
  ·rw[if_pos hL];subst hL;refine⟨fun h=>absurd rfl h,fun _=>(pI hv hx).2 he _ fun a w hA => ?_⟩;rw[vN];refine wp_seq (aA aG hT hG (Hd p0 (2^log) m0 log x) ⟨by omega,oL (by simp),trivial⟩ hA fun a w hA => ?_);refine wp_seq (aA aG hT hG (Ql _ log x) ⟨by omega,eB _ _,IE (by omega),trivial⟩ hA fun a w hA => ?_);refine wp_seq (aA aG hT (eP _ _ _) (Qk _ log x _) ⟨by omega,fun w=>MI (by omega) w,by omega,Nat.lt_of_le_of_lt hp2 (by decide),by omega,trivial⟩ hA fun a w hA => ?_);refine wp_seq (aA aG hT hG (Hj _ log x _ _) ⟨q3,q4,trivial⟩ hA fun a w hA => ?_);refine wp_seq (aA aG hT hG (Hi _ log _ _ _) trivial hA fun a w hA => ?_);refine wp_seq (aA aG hT hG (Hh _ log _ _ _) ⟨by decide,trivial⟩ hA fun a w hA => ?_);refine wp_seq (wp_seq (aA aG hT hG (Hg _ log _ _ _ _) trivial hA fun a w hA => ?_));refine wp_block ?_;have hb:=jH (cJ log);have hn:=jH (2^log);have hs:=jH x;have h1:1<RM:=nJ;have eg:∀i,lG f log x i=cS (eO (fE 1 (fJ (cJ log)) i) (2^log) f (2^log)) (fE (fJ (2^log)) (fJ x) i):=fun i=>rfl
   refine cE aG (Qm (.slice p0 (2^log) m0) log (fJ (cJ log)) (fJ x) (fJ (2^log)) 1 (lG f log x)) (2^log) (fun i hi => ?_) (.ex 0) (by simp) (oH (2^log) (aR (el (lG f log x)) 0 (2^log))) ?_ hA fun a w hA => ?_
   ·cases i with
    | zero=>exact⟨_,_,_,_,wM _ _ _ _ _,wO hv (by omega) q2 _,Hc _ (2^log) log _ _ _ 1 f (aR (el (lG f log x)) 0 1),by omega,bV hp1,rfl,h1,fF _ _ _ _,hn,IJ _,by omega,by omega,by omega,rfl,yT _ 0,hn,hs,h1,hb,rfl,trivial⟩
    | succ i =>
     have hxi:=pK (y:=fJ (cJ log)) h1 (i+1);have hni:=pK (y:=fJ x) hn (i+1);exact⟨_,_,_,_,wM _ _ _ _ _,wO hv (by omega) q2 _,Hb _ (2^log) log _ _ (fE (fJ (2^log)) (fJ x) (i+1)) (fE 1 (fJ (cJ log)) (i+1)) (i+1) f (aR (el (lG f log x)) 0 (i+1)) (aR (el (lG f log x)) 0 (i+1+1)),by omega,bV hi,rfl,hxi,fF _ _ _ _,hni,rfl,gA (f:=el (lG f log x)) (c:=4) (fun _=>rfl) _ _,IJ _,by omega,by omega,by omega,rfl,yT _ (i+1),hni,hs,hxi,hb,eT (k:=1) (by omega),trivial⟩
   ·rw[PB _ _ _ _ _ _ _ hp1];exact⟨_,_,_,_,hG,hT,Qj _ log _ _ _ _ (2^log) _,by omega,dI (Nat.le_refl _),trivial⟩
   ·show (cB EL).wp _ _ _ _;obtain⟨cap,hcap,hA⟩:=hA.soSl (s:=15) (k:=69) (n:=2^log) (e:=25) (sz:=4) (l:=aR (el (lG f log x)) 0 (2^log)) (by simp[oH]) (by simp[oH]) (by simp[oH]);have hA:Holds _ _ _ [.slot 15 (.sl 69 0 (2^log) cap),.row 69 true (aR (el (lG f log x)) 0 (2^log))] a w:=hA.sub fun φ hφ=>by
     simp only[List.mem_cons,List.not_mem_nil,or_false]at hφ
     rcases hφ with rfl|rfl
     ·exact List.mem_of_getElem? (i:=0) rfl
     ·exact List.mem_of_getElem? (i:=2) rfl
    have h256:∀j,j<2^log→lG f log x j<aT:=fun j _=>eQ (cL _ _)
    by_cases h0:aF (lG f log x) (2^log)=0
    ·rw[h0];exact aA aG (fun _ _=>(vV.add func40 (by kernel_rfl) (by kernel_rfl) ZI).w _ _) hG (Gx (2^log) cap _ _) ⟨rfl,rfl,hcap,h256,by omega,h0,trivial⟩ hA fun a w' hA=>cH (aW (l:=[.im (.slice none 0 0),.im (.int .i64 0)]) (r:=.many [.im (.slice none 0 0),.im (.int .i64 0)]) (by kernel_rfl) (by kernel_rfl) hA) fun e w h=>Pr.nil _ h
    ·exact aA aG hT (Es fun w' hw=>(FsAt.none _ _).add func40 (by kernel_rfl) (by kernel_rfl) fun cs pre r h1 h2 args ha=>ZH cs pre r h1 h2 args w' ha) (Qi (2^log) cap _ _) ⟨rfl,rfl,hcap,h256,by omega,by omega,trivial⟩ hA fun a w' hA=>cH (mQ (XF _ _) hA) fun e w h=>Pr.fs (fun j hj=>eQ (cL _ _)) h
  ·rw[if_neg hL];refine⟨fun _=>(pI hv hx).2 he _ fun a w hA => ?_,fun h=>by cases h⟩;rw[vN];exact wp_seq (aA aG hT hG (He p0 N m0 log x) ⟨by omega,oL (by simp[hL]),trivial⟩ hA fun a w hA=>cH (aW (l:=[.im (.slice none 0 0),.im (.int .i64 3)]) (r:=.many [.im (.slice none 0 0),.im (.int .i64 3)]) (by kernel_rfl) (by kernel_rfl) hA) fun e w h=>Pr.nil _ h)
 ·rw[if_pos he];exact⟨fun _=>((pI hv hx).1 he).mono fun e w h=>Pr.nil _ h,fun h=>absurd h he⟩
theorem Cs {w0:World} {p0:Option Addr} {N m0 x:Nat} {f:Nat→Nat} {z:Int} (hv:LV w0 (.slice p0 N m0) N f) (hN:N≤2305843009213693952) (hx:x<aT) :
  (oT N f z x≠0→Calls prog 9 #[.slice p0 N m0,iV z,.agg (aB [At.q x]).toArray] w0 (Pr w0 0 (fun _=>0) (oT N f z x))) ∧
  (oT N f z x=0→Calls prog 9 #[.slice p0 N m0,iV z,.agg (aB [At.q x]).toArray] w0 (Pr w0 (2^z.toNat) (mT (aF f N) f (cJ z.toNat) x) 0)):=by
 refine⟨fun h=>((lJ hv hN hx).1 h).mono fun e w h=>Pr.nil _ h,fun h=>((lJ hv hN hx).2 h).mono fun e w h2 => ?_⟩;have hc:gX N f z x=0∧aF f N≤2^z.toNat:=by
  unfold oT at h
  by_cases he:gX N f z x=0
  ·rw[if_neg (fun q=>q he)]at h
   by_cases hL:aF f N≤2^z.toNat
   ·exact⟨he,hL⟩
   ·rw[if_neg hL]at h; cases h
  ·rw[if_pos he]at h; exact absurd h he
 obtain⟨q1,q2,q3,q4,log,q5,rfl⟩:=iN hc.1;refine Pr.congr (Pr.fr (fun j hj => ?_) h2) fun j hj=>NI q5 hc.2 q3 hj
 exact eQ (Nat.lt_of_le_of_lt (Nat.le_of_eq (NI q5 hc.2 q3 hj)) (fF _ _ _ _))
theorem JQ {w0:World} {p0:Option Addr} {N m0 x:Nat} {f:Nat→Nat} {z:Int} (hv:LV w0 (.slice p0 N m0) N f) (hN:N≤2305843009213693952) (hx:x<aT) :
  (qN N f z x≠0→Calls prog 11 #[.slice p0 N m0,iV z,.agg (aB [At.q x]).toArray] w0 (Pr w0 0 (fun _=>0) (qN N f z x))) ∧
  (qN N f z x=0→Calls prog 11 #[.slice p0 N m0,iV z,.agg (aB [At.q x]).toArray] w0 (Pr w0 (aF (lG f z.toNat x) (2^z.toNat)) (lG f z.toNat x) 0)):=by
 refine⟨fun h=>((uF hv hN hx).1 h).mono fun e w h=>Pr.nil _ h,fun h=>((uF hv hN hx).2 h).mono fun e w h2 => ?_⟩;have hc:gX N f z x=0∧N=2^z.toNat:=by
  unfold qN at h
  by_cases he:gX N f z x=0
  ·rw[if_neg (fun q=>q he)]at h
   by_cases hL:N=2^z.toNat
   ·exact⟨he,hL⟩
   ·rw[if_neg hL]at h; cases h
  ·rw[if_pos he]at h; exact absurd h he
 obtain⟨q1,q2,q3,q4,log,q5,rfl⟩:=iN hc.1;have hN2:=hc.2;rw[show (Int.ofNat log).toNat=log from rfl]at hN2 h2 ⊢;subst hN2;rw[nE (2^log) fun j hj=>SR (x:=x) q5 q2 hj]at h2;have hle:=cC (lG f log x) (2^log);exact Pr.congr (Pr.fr (fun j hj=>eQ (cL _ _)) h2) fun j hj=>SR q5 q2 (by omega)
end Go.Proofs.Ytjjnbgoepbiojaa.Ex
