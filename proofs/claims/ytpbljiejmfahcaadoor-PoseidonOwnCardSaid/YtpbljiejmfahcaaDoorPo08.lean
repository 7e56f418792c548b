/- Po08 -/
import Derived.KernelRfl
import Derived.Test.YtpbljiejmfahcaaDoorPo07
import Derived.Test.YtpbljiejmfahcaaDoorPo04
import Derived.Test.YtpbljiejmfahcaaDoorPo03
import Derived.Test.YtpbljiejmfahcaaDoorPo02
import Derived.Test.YtpbljiejmfahcaaDoorProg
set_option maxRecDepth 100000
set_option linter.unusedVariables false
set_option linter.unusedSimpArgs false
set_option linter.unnecessarySimpa false
noncomputable section
namespace Go.Proofs.YtpbljiejmfahcaaDoor.Ex
open Go.Proofs.Tryd
open Go.RowKit
noncomputable abbrev peF:Func:=f7
def gP:Code:=(f7.body).getD .skip
def peX:Code:=cB (cB (cB (cB gP)))
def ZF:Code:=cA peX
theorem ZE:gP=.seq (cA gP) (.seq (cA (cB gP)) (.seq (cA (cB (cB gP))) (.seq (cA (cB (cB (cB gP)))) (.seq (.region 8 (aE ZF) false) .ret)))):=by kernel_rfl
theorem Oq:peF.ntmps=24:=by kernel_rfl
def EK (v:Value) (pb:Nat):List Fact:=[.slot 1 (.im v),.slot 2 (.im (ptV pb 0))]
theorem On (v:Value) (wd fl pt:Nat):aJ prog (qG prog) 24 (fun _=>tC T0 fun _=>none) 60 (cA gP) (eO 0 [.v (.fl (rR wd fl pt)),.v (.im v)]) [.slot 1 (.im v),.slot 2 (.pt 2 0),.row 2 true (rR wd fl pt)]=some ([],.nrm,[.slot 1 (.im v),.slot 2 (.pt 2 0),.row 2 true (rR wd fl pt)]):=by kernel_rfl
theorem Wz (w:World) (v:Value) (pb wd fl pt:Nat):aJ prog { qG prog with x:=xO w (fun _=>none) (aD [(7,rR wd fl pt)]) (fun _=>none) } 24 (fun _=>tC (T0.add 17 (FJ wd fl pt)) fun _=>none) 60 (cA (cB gP)) (EK v pb) (EK v pb)=some ([oldOf w pb 0 (rR wd fl pt),bW (rR wd fl pt)=3,aB (rR wd fl pt)=aB (rR wd fl pt)],.nrm,EK v pb):=by kernel_rfl
theorem Wy (w:World) (p:Option Addr) (wd m pb:Nat):aJ prog { qG prog with x:=xO w (fun _=>none) (fun _=>none) (aD [(15,iI wd)]) } 24 (fun _=>tC T0 (aD [(16,.bool false)])) 60 (cA (cB (cB gP))) (EK (.slice p wd m) pb) (EK (.slice p wd m) pb)=some ([oldOf w pb 0 [.c (iI wd)],aF .neq .i64 (Int.ofNat wd) (Int.ofNat wd)=some (.bool false)],.nrm,EK (.slice p wd m) pb):=by kernel_rfl
theorem Wx (v:Value) (pb:Nat):aJ prog (qG prog) 24 (fun _=>tC (T0.add 18 (Vg v)) fun _=>none) 60 (cA (cB (cB (cB gP)))) (EK v pb) (EK v pb)=some ([v=v],.nrm,EK v pb):=by kernel_rfl
theorem Ov (w:World) (v:Value) (pb wd fl pt:Nat):cS prog { qG prog with x:=xO w (fun _=>none) (aD [(20,rR wd fl pt)]) (fun _=>none) } 24 (tC T0 fun _=>none) ((aE ZF).extract 0 1) (EK v pb) (.slot 20 (.fl (rR wd fl pt))::EK v pb)=some ([oldOf w pb 0 (rR wd fl pt),bW (rR wd fl pt)=3],.slot 20 (.fl (rR wd fl pt))::EK v pb):=by kernel_rfl
theorem Ou (v:Value) (pb:Nat) (l:List At):cS prog (qG prog) 24 (tC T0 fun _=>none) ((aE ZF).extract 2 3) (.slot 21 (.fl l)::EK v pb) [.slot 21 (.fl l),.slot 22 (.im v)]=some ([],[.slot 21 (.fl l),.slot 22 (.im v)]):=by kernel_rfl
theorem Ot (u:Value):cS prog (qG prog) 24 (tC T0 fun _=>none) ((aE ZF).extract 4 6) [.slot 23 (.im u)] [.slot 4 (.im u),.slot 5 (.im (.int .i64 0))]=some ([],[.slot 4 (.im u),.slot 5 (.im (.int .i64 0))]):=by kernel_rfl
theorem wZ (n:Nat):aF .neq .i64 (Int.ofNat n) (Int.ofNat n)=some (.bool false):=by
 show some (Value.bool (Int.ofNat n != Int.ofNat n))=_;rw[bne_self_eq_false]
theorem QL {w0:World} {wd fl pt b o m:Nat} {xs f:Nat→Nat} {fu:Nat} {sq:Nat→St} (hr:RdOk wd fl pt) (hv:LV w0 (aT b o wd m) wd f) (hf:∀q,q<wd→f q<RM) (h0:sq 0=CU wd fl pt) (hx:∀i,i<wd*(fl+pt)→cst fu (sq i)=some (xs i,sq (i+1))) (hDj:Dbj w0) :
  Calls prog 7 [.agg (aB (rR wd fl pt)).toArray,aT b o wd m].toArray w0 fun e w'=>∃d c,e=.returned (.tuple #[aT d 0 wd c,.int .i64 0])∧wd≤c∧Below w0.heap.size w0 w'∧w0.heap.size≤d∧Own w' d (aG (el (bO xs wd fl pt (fl+pt) f)) 0 wd):=by
 have hw8:=hr.w8;have hw2:=hr.w2;have hf64:=hr.f64;have hp128:=hr.p128;have hG:∀base w,bD prog (qG prog) base w:=fun _ _=>(bM _).w _ _
 have hT:∀base w,∀n d:Nat,TabOkW prog T0 base w:=fun _ _ _ _=>(bH _).w _ _
 have hnt:f7.ntmps=24:=Oq;refine bP func7 (cs:=[.v (.fl (rR wd fl pt)),.v (.im (aT b o wd m))]) (args:=[.agg (aB (rR wd fl pt)).toArray,aT b o wd m]) (c:=gP) rfl ⟨rfl,rfl,trivial⟩ (Nat.le_of_ble_eq_true (by kernel_rfl)) fun a w hA => ?_
 rw[hnt]at hA;rw[ZE];refine wp_seq (aA aH (hT _ _) (hG _ _) (On (aT b o wd m) wd fl pt) trivial hA fun a w1 hA => ?_);obtain⟨pb,hA⟩:=hA.at (k:=2) (l:=rR wd fl pt) (by simp);have hpb:oldOf w1 pb 0 (rR wd fl pt):=hA.old (k:=2) (by simp) (by simp);have hv1:=hv.on hA.below;have hD1:=hDj.on hDj.lt hA.below;have hbl:=hA.below;have hS:=aS (nt:=24) (w:=w1) (a:=a) (ts:=[(1,aT b o wd m),(2,ptV pb 0)]) hA.defers hA.size (fun x hx=>by
  simp only[List.mem_cons,List.not_mem_nil,or_false]at hx
  rcases hx with rfl|rfl
  ·exact hA.slot (by simp)
  ·exact hA.ptS (s:=2) (k:=2) (o:=0) (by simp) (by simp))
 clear hA;refine wp_seq (aA aH (fun _ _=>lL hr) (bX w1 _ _ _) (Wz w1 (aT b o wd m) pb wd fl pt) ⟨hpb,rfl,rfl,trivial⟩ hS fun a w2 hA => ?_);refine wp_seq (aA aH (hT _ _) (bX w1 _ _ _) (Wy w1 _ wd m pb) ⟨⟨hpb.1,cD (i:=0) (n:=1) hpb.2 rfl⟩,wZ wd,trivial⟩ hA fun a w2 hA => ?_);refine wp_seq (aA aH (fun _ _=>KM hv1 hf (by omega)) (hG _ _) (Wx (aT b o wd m) pb) ⟨rfl,trivial⟩ hA fun a w2 hA => ?_);clear hS;refine wp_seq (bI (l:=List.range' 0 ((aE ZF).extract 0 1).size++(1::(List.range' 2 ((aE ZF).extract 2 3).size++(3::(List.range' 4 ((aE ZF).extract 4 6).size++[]))))) (by kernel_rfl) ?_);refine aK (c:=tC T0 _) (hT _ _ 0) (bX w1 _ _ _) (Ov w1 (aT b o wd m) pb wd fl pt) ⟨hpb,rfl,trivial⟩ (by kernel_rfl) hA fun a3 w3 hA => ?_
 obtain⟨o1,ho1,⟨ts1,hop1⟩,hd1,hg1⟩:∃x,(aE ZF)[1]?=some x∧(∃ts,x.op=.call ⟨.value (.func 19),#[.tmp 20],ts⟩)∧x.dst=some 21∧x.guard=none:=⟨_,rfl,⟨_,rfl⟩,rfl,rfl⟩
 have hb3:=hA.below;refine bC ho1 hg1 (bT hop1 (vs:=[.agg (aB (rR wd fl pt)).toArray]) (List.cons_eq_cons.2 ⟨cO (hA.slotF (s:=20) (by simp)),rfl⟩) (fun args=>bG func19 (by kernel_rfl) (by kernel_rfl) args _) (rY (sq:=sq) (xs:=xs) hr.w2 (by omega) (by omega) (by omega) h0 hx (hD1.on hD1.lt hb3)) fun e w4 hq => ?_);obtain⟨cs,is,rfl,hM,hb4⟩:=hq;refine⟨_,rfl,?_⟩;rw[hd1];have hb14:=hb3.trans (hb4.mono hb3.size);have hS4:=eC (nt:=24) (w:=w4) (a:=a3.put (some 21) (.agg (aB (rP wd fl pt cs is)).toArray)) (ts:=[(21,.fl (rP wd fl pt cs is)),(1,.im (aT b o wd m)),(2,.im (ptV pb 0))]) hA.defers (by rw[aR]; exact hA.size) (fun x hx=>by
  simp only[List.mem_cons,List.not_mem_nil,or_false]at hx
  rcases hx with rfl|rfl|rfl
  ·exact aZ _ _ _ (by rw[hA.size]; decide)
  ·exact bF (hA.slot (v:=aT b o wd m) (by simp[EK])) (by simp)
  ·exact bF (hA.slot (v:=ptV pb 0) (by simp[EK])) (by simp))
 clear hA;refine aK (c:=tC T0 _) (hT _ _ 0) (hG _ _) (Ou (aT b o wd m) pb _) trivial (by kernel_rfl) hS4 fun a5 w5 hA => ?_
 obtain⟨o3,ho3,⟨ts3,hop3⟩,hd3,hg3⟩:∃x,(aE ZF)[3]?=some x∧(∃ts,x.op=.call ⟨.value (.func 20),#[.tmp 21,.tmp 22],ts⟩)∧x.dst=some 23∧x.guard=none:=⟨_,rfl,⟨_,rfl⟩,rfl,rfl⟩
 have hb15:=hb14.trans (hA.below.mono hb14.size);refine bC ho3 hg3 (bT hop3 (vs:=[.agg (aB (rP wd fl pt cs is)).toArray,aT b o wd m]) (List.cons_eq_cons.2 ⟨cO (hA.slotF (s:=21) (by simp)),List.cons_eq_cons.2 ⟨cO (hA.slot (s:=22) (by simp)),rfl⟩⟩) (fun args=>bG func20 (by kernel_rfl) (by kernel_rfl) args _) (rL (hM.on hA.below) (hv1.on hb15) hf (by omega) (by omega) (by omega) (by omega)) fun e w6 hq => ?_);obtain⟨d,c,rfl,hc,hb6,hd6,hO6⟩:=hq;refine⟨_,rfl,?_⟩;rw[hd3];have hb16:=hb15.trans (hb6.mono hb15.size);have hS6:=eC (nt:=24) (w:=w6) (a:=a5.put (some 23) (aT d 0 wd c)) (ts:=[(23,.im (aT d 0 wd c))]) hA.defers (by rw[aR]; exact hA.size) (fun x hx=>by
  simp only[List.mem_cons,List.not_mem_nil,or_false]at hx;subst hx;exact aZ _ _ _ (by rw[hA.size]; decide))
 clear hA hS4;refine aK (c:=tC T0 _) (hT _ _ 0) (hG _ _) (Ot (aT d 0 wd c)) trivial (by kernel_rfl) hS6 fun a8 w8 hA => ?_
 have hb8:=hA.below;have hsz5:=hb15.size;exact wp_ret (bR (l:=[.im (aT d 0 wd c),.im (.int .i64 0)]) (r:=.many [.im (aT d 0 wd c),.im (.int .i64 0)]) (by kernel_rfl) (by kernel_rfl) hA ⟨d,c,rfl,hc,hbl.trans ((hb16.trans (hb8.mono hb16.size)).mono hbl.size),Nat.le_trans hbl.size (Nat.le_trans hsz5 hd6),hO6.on hb8⟩)
def rZ (a b c:Int):List At:=[.c (.int .i64 a),.c (.int .i64 b),.c (.int .i64 c)]
theorem Zu (a b c:Int):eM prog (qG prog) (fun _=>tC T0 (aD [(5,.bool true)])) f17 60 [.v (.fl (rZ a b c))]=some ([aF .lss .i64 a 2=some (.bool true)],.one (.im (.int .i64 91))):=by kernel_rfl
theorem Zt (a b c:Int):eM prog (qG prog) (fun _=>tC T0 (aD [(5,.bool false),(9,.bool true)])) f17 60 [.v (.fl (rZ a b c))]=some ([aF .lss .i64 a 2=some (.bool false),aF .gtr .i64 a 8=some (.bool true)],.one (.im (.int .i64 91))):=by kernel_rfl
theorem Zs (a b c:Int):eM prog (qG prog) (fun _=>tC T0 (aD [(5,.bool false),(9,.bool false),(13,.bool true)])) f17 60 [.v (.fl (rZ a b c))]=some ([aF .lss .i64 a 2=some (.bool false),aF .gtr .i64 a 8=some (.bool false),aF .lss .i64 b 2=some (.bool true)],.one (.im (.int .i64 91))):=by kernel_rfl
theorem Zr (a b c:Int):eM prog (qG prog) (fun _=>tC T0 (aD [(5,.bool false),(9,.bool false),(13,.bool false),(17,.bool true)])) f17 60 [.v (.fl (rZ a b c))]=some ([aF .lss .i64 a 2=some (.bool false),aF .gtr .i64 a 8=some (.bool false),aF .lss .i64 b 2=some (.bool false),aF .gtr .i64 b 64=some (.bool true)],.one (.im (.int .i64 91))):=by kernel_rfl
def Vl (a b m:Int) (z:Bool):List Prop:=[aF .lss .i64 a 2=some (.bool false),aF .gtr .i64 a 8=some (.bool false),aF .lss .i64 b 2=some (.bool false),aF .gtr .i64 b 64=some (.bool false),aF .rem .i64 b 2=some (.int .i64 m),aF .neq .i64 m 0=some (.bool z)]
theorem Zq (a b c m:Int):eM prog (qG prog) (fun _=>tC T0 (aD [(5,.bool false),(9,.bool false),(13,.bool false),(17,.bool false),(22,.int .i64 m),(23,.bool true)])) f17 60 [.v (.fl (rZ a b c))]=some (Vl a b m true,.one (.im (.int .i64 91))):=by kernel_rfl
theorem Zp (a b c m:Int):eM prog (qG prog) (fun _=>tC T0 (aD [(5,.bool false),(9,.bool false),(13,.bool false),(17,.bool false),(22,.int .i64 m),(23,.bool false),(27,.bool true)])) f17 60 [.v (.fl (rZ a b c))]=some (Vl a b m false++[aF .lss .i64 c 0=some (.bool true)],.one (.im (.int .i64 91))):=by kernel_rfl
theorem Zo (a b c m:Int):eM prog (qG prog) (fun _=>tC T0 (aD [(5,.bool false),(9,.bool false),(13,.bool false),(17,.bool false),(22,.int .i64 m),(23,.bool false),(27,.bool false),(31,.bool true)])) f17 60 [.v (.fl (rZ a b c))]=some (Vl a b m false++[aF .lss .i64 c 0=some (.bool false),aF .gtr .i64 c 128=some (.bool true)],.one (.im (.int .i64 91))):=by kernel_rfl
theorem sB {a b:Int} {z:Bool} (h:decide (a<b)=z):aF .lss .i64 a b=some (.bool z):=by
 show some (Value.bool (decide (a<b)))=_;rw[h]
theorem FH {a b:Int} {z:Bool} (h:decide (a>b)=z):aF .gtr .i64 a b=some (.bool z):=by
 show some (Value.bool (decide (a>b)))=_;rw[h]
theorem Wn (b:Int):aF .rem .i64 b 2=some (.int .i64 (b.tmod 2)):=by
 show (if (2:Int)=0 then none else some (Value.int .i64 (b.tmod 2)))=_;rw[if_neg (by decide)]
theorem Xw {m:Int} {z:Bool} (h:(m != 0)=z):aF .neq .i64 m 0=some (.bool z):=by
 show some (Value.bool (m != 0))=_;rw[h]
def VR (a b c:Int):Prop:=∀(args:List Value) (w:World),dV w [.v (.fl (rZ a b c))] args→bU prog 17 (.one (.im (.int .i64 91))) args w
theorem mW {a b c:Int} {num:Nat→Option Value} {ps:List Prop} (h:eM prog (qG prog) (fun _=>tC T0 num) f17 60 [.v (.fl (rZ a b c))]=some (ps,.one (.im (.int .i64 91)))) (hp:aW ps):VR a b c:=fun args w ha =>
 aV aH (fun _ _=>(bH _).w _ _) ((bM _).w _ _) func17 h hp ha
theorem vK {l m:List Prop} (h1:aW l) (h2:aW m):aW (l++m):=(cP (l:=l)).2 ⟨h1,h2⟩
theorem oB (a b c:Int):(∃wd fl pt:Nat,a=wd∧b=fl∧c=pt∧RdOk wd fl pt)∨VR a b c:=by
 by_cases h1:a<2
 ·exact Or.inr (mW (Zu a b c) ⟨sB (decide_eq_true h1),trivial⟩)
 by_cases h2:a>8
 ·exact Or.inr (mW (Zt a b c) ⟨sB (decide_eq_false h1),FH (decide_eq_true h2),trivial⟩)
 by_cases h3:b<2
 ·exact Or.inr (mW (Zs a b c) ⟨sB (decide_eq_false h1),FH (decide_eq_false h2),sB (decide_eq_true h3),trivial⟩)
 by_cases h4:b>64
 ·exact Or.inr (mW (Zr a b c) ⟨sB (decide_eq_false h1),FH (decide_eq_false h2),sB (decide_eq_false h3),FH (decide_eq_true h4),trivial⟩)
 have hP:∀{z:Bool},(b.tmod 2 != 0)=z→aW (Vl a b (b.tmod 2) z):=fun h=>⟨sB (decide_eq_false h1),FH (decide_eq_false h2),sB (decide_eq_false h3),FH (decide_eq_false h4),Wn b,Xw h,trivial⟩
 by_cases h5:b.tmod 2=0
 ·have h5':(b.tmod 2 != 0)=false:=by rw[h5]; rfl
  by_cases h6:c<0
  ·exact Or.inr (mW (Zp a b c _) (vK (hP h5') ⟨sB (decide_eq_true h6),trivial⟩))
  by_cases h7:c>128
  ·exact Or.inr (mW (Zo a b c _) (vK (hP h5') ⟨sB (decide_eq_false h6),FH (decide_eq_true h7),trivial⟩))
  refine Or.inl ⟨a.toNat,b.toNat,c.toNat,by omega,by omega,by omega,by omega,by omega,by omega,by omega,?_,by omega⟩;rw[Int.tmod_eq_emod_of_nonneg (by omega)]at h5;omega
 ·exact Or.inr (mW (Zq a b c _) (hP (bne_iff_ne.2 h5)))
def fO (β:Nat→Bool):Prop:=∀i,β (i+80)=(β (i+62) ^^ β (i+51) ^^ β (i+38) ^^ β (i+23) ^^ β (i+13) ^^ β i)
structure HoldsB (β:Nat→Bool) (m:Nat) (s:St):Prop where
 lo:∀j,j<64→s.lo.testBit j=β (m+j)
 hi:∀j,j<16→s.hi.testBit j=β (m+64+j)
 l6:s.lo<eH
 h6:s.hi<2^16
theorem qO {a n j:Nat} (h:a<2^n) (hj:n≤j):a.testBit j=false :=
 Nat.testBit_lt_two_pow (Nat.lt_of_lt_of_le h (Nat.pow_le_pow_right (by decide) hj))
theorem Ep (a k j:Nat):(a*2^k).testBit j=(decide (k≤j)&&a.testBit (j-k)):=by
 rw[Nat.mul_comm,Nat.testBit_two_pow_mul]
theorem jN {β:Nat→Bool} {m:Nat} {s:St} (h:HoldsB β m s) {p j:Nat} (hp:p≤64) (hj:j<64) (hpj:p+j<80):(kC s.lo s.hi p).testBit j=β (m+p+j):=by
 unfold kC;rw[Nat.testBit_or,Nat.testBit_div_two_pow,show eH=2^64 from rfl,Nat.testBit_mod_two_pow,Ep]
 by_cases k:p+j<64
 ·rw[show j+p=p+j by omega,h.lo _ k,decide_eq_false (show ¬ 64-p≤j by omega)];simp[Nat.add_assoc]
 ·rw[qO (n:=64) h.l6 (show 64≤j+p by omega),decide_eq_true (show 64-p≤j by omega),decide_eq_true hj,h.hi _ (show j-(64-p)<16 by omega),show m+64+(j-(64-p))=m+p+j by omega];rfl
theorem lZ {β:Nat→Bool} (hβ:fO β) {m:Nat} {s:St} (h:HoldsB β m s) {j:Nat} (hj:j<16):(mK s.lo s.hi).testBit j=β (m+80+j):=by
 unfold mK;rw[Nat.testBit_and,show (65535:Nat)=2^16-1 from rfl,Nat.testBit_two_pow_sub_one,decide_eq_true hj,Bool.and_true];simp only[Nat.testBit_xor];rw[jN h (by omega) (by omega) (by omega),jN h (by omega) (by omega) (by omega),jN h (by omega) (by omega) (by omega),jN h (by omega) (by omega) (by omega),jN h (by omega) (by omega) (by omega),jN h (by omega) (by omega) (by omega)];have e:=hβ (m+j);rw[show m+80+j=m+j+80 by omega,e,show m+62+j=m+j+62 by omega,show m+51+j=m+j+51 by omega,show m+38+j=m+j+38 by omega,show m+23+j=m+j+23 by omega,show m+13+j=m+j+13 by omega,show m+0+j=m+j by omega]
theorem Ix (lo hi:Nat):mK lo hi<2^16:=Nat.lt_of_le_of_lt Nat.and_le_right (by decide)
theorem HoldsB.grow {β:Nat→Bool} (hβ:fO β) {m:Nat} {s:St} (h:HoldsB β m s):HoldsB β (m+16) s.grow where
 lo:=fun j hj=>jN h (by omega) hj (by omega)
 hi:=fun j hj=>(lZ hβ h hj).trans (congrArg β (by omega))
 l6:=iP h.l6
 h6:=Ix _ _
def Giv (β:Nat→Bool) (q:Nat) (b:Bool) (q':Nat):Prop:=∃k,q'=q+2*k+2∧β (q+2*k)=true∧β (q+2*k+1)=b∧∀i,i<k→β (q+2*i)=false
theorem Giv.skip {β:Nat→Bool} {q n:Nat} {b:Bool} {q':Nat} (h:Giv β (q+2*n) b q') (h0:∀i,i<n→β (q+2*i)=false):Giv β q b q':=by
 obtain⟨k,h1,h2,h3,h4⟩:=h;refine⟨n+k,by omega,by rw[←h2]; congr 1; omega,by rw[←h3]; congr 1; omega,fun i hi => ?_⟩
 by_cases e:i<n
 ·exact h0 i e
 ·rw[←h4 (i-n) (by omega)];congr 1; omega
structure Pos (β:Nat→Bool) (s:St) (q:Nat):Prop where
 at':∃m c,q=m+64+2*c∧c≤8∧HoldsB β m s∧(∀j,j<16→s.fr.testBit j=β (m+64+j))∧∀j,s.gv.testBit j=(decide (j<16)&&(decide (j%2=0)&&(decide (2*c≤j)&&β (m+64+j))))
theorem AU (j:Nat):(21845:Nat).testBit j=(decide (j<16)&&decide (j%2=0)):=by
 by_cases h:j<16
 ·have:∀j,j<16→(21845:Nat).testBit j=(decide (j<16)&&decide (j%2=0)):=by decide
  exact this j h
 ·rw[qO (n:=16) (by decide) (by omega),decide_eq_false h];rfl
theorem US {a:Nat} (h:∀j,a.testBit j=false):a=0:=Nat.eq_of_testBit_eq fun i=>by rw[h i,Nat.zero_testBit]
theorem Pos.J {β:Nat→Bool} (hβ:fO β) {s:St} {q:Nat} (h:Pos β s q) (h0:s.gv=0):∃n,Pos β s.J (q+2*n)∧∀i,i<n→β (q+2*i)=false:=by
 obtain⟨m,c,hq,hc,hB,hf,hg⟩:=h.at';refine⟨8-c,⟨m+16,0,by omega,by omega,?_,?_,?_⟩,fun i hi => ?_⟩
 ·exact⟨(hB.grow hβ).lo,(hB.grow hβ).hi,(hB.grow hβ).l6,(hB.grow hβ).h6⟩
 ·intro j hj;exact (lZ hβ hB hj).trans (congrArg β (by omega))
 ·intro j;show (mK s.lo s.hi &&& 21845).testBit j=_;rw[Nat.testBit_and,AU]
  by_cases hj:j<16
  ·rw[lZ hβ hB hj,decide_eq_true hj,show m+80+j=m+16+64+j by omega,decide_eq_true (show 2*0≤j by omega)];cases β (m+16+64+j)<;>cases decide (j%2=0)<;>rfl
  ·rw[decide_eq_false hj,Bool.false_and,Bool.false_and,Bool.and_false]
 ·have h1:=hg (2*c+2*i);rw[h0,Nat.zero_testBit,decide_eq_true (show 2*c+2*i<16 by omega),decide_eq_true (show (2*c+2*i)%2=0 by omega),decide_eq_true (show 2*c≤2*c+2*i by omega)]at h1;simp only[Bool.true_and]at h1;rw[hq,show m+64+2*c+2*i=m+64+(2*c+2*i) by omega];exact h1.symm
theorem WM {x:Nat} (h0:x≠0) (h:x<eH):x.testBit (tz x)=true∧(∀j,j<tz x→x.testBit j=false)∧∀j,(x &&& (x-1)).testBit j=(x.testBit j&&decide (j≠tz x)):=by
 obtain⟨m,hm,hk⟩:=Lib.ctzFrom_spec 64 x (Nat.pos_of_ne_zero h0) h;have e:tz x=Lib.ctzFrom 64 x:=by show Lib.ctz 64 x=_; unfold Lib.ctz; rw[if_neg h0]
 rw[←e]at hm hk;generalize tz x=k at hm hk;have hb:∀j,x.testBit j=(decide (k≤j)&&(2*m+1).testBit (j-k)):=fun j=>by rw[hm,Nat.testBit_two_pow_mul]
 have hp:0<2^k:=Nat.pow_pos (by decide);have e1:x-1=2^k*(2*m)+(2^k-1):=by rw[hm,Nat.mul_add]; omega
 have hc:∀j,(x-1).testBit j=if j<k then (2^k-1).testBit j else (2*m).testBit (j-k):=fun j=>by
  rw[e1,Nat.testBit_two_pow_mul_add _ (by omega)]
 refine⟨?_,fun j hj => ?_,fun j => ?_⟩
 ·rw[hb,decide_eq_true (Nat.le_refl k),Nat.sub_self,Nat.testBit_zero];simp
 ·rw[hb,decide_eq_false (by omega)]; rfl
 ·rw[Nat.testBit_and,hb,hc]
  by_cases h1:j<k
  ·rw[decide_eq_false (by omega)]; rfl
  ·rw[if_neg h1,decide_eq_true (by omega)]
   by_cases h2:j=k
   ·subst h2;rw[Nat.sub_self,decide_eq_false (by omega),Nat.testBit_zero,Nat.testBit_zero];simp
   ·obtain⟨i,rfl⟩:∃i,j=k+(i+1):=⟨j-k-1,by omega⟩
    rw[decide_eq_true h2,show k+(i+1)-k=i+1 by omega,Nat.testBit_succ,Nat.testBit_succ,show (2*m+1)/2=m by omega,show 2*m/2=m by omega];cases m.testBit i<;>rfl
theorem Pos.give {β:Nat→Bool} {s:St} {q:Nat} (h:Pos β s q) (h0:s.gv≠0):∃b q',Giv β q b q'∧s.bit=b.toNat∧Pos β s.next q':=by
 obtain⟨m,c,hq,hc,hB,hf,hg⟩:=h.at';have h16:s.gv<2^16:=Nat.lt_pow_two_of_testBit _ fun i hi=>by rw[hg,decide_eq_false (by omega)]; rfl
 obtain⟨t1,t2,t3⟩:=WM h0 (Nat.lt_trans h16 (by decide));have t4:=hg (tz s.gv);rw[t1]at t4;have t5:tz s.gv<16:=by
  apply Classical.byContradiction;intro e;rw[decide_eq_false e]at t4; cases t4
 rw[decide_eq_true t5,Bool.true_and]at t4;have t6:tz s.gv%2=0:=by
  apply Classical.byContradiction;intro e;rw[decide_eq_false e]at t4; cases t4
 rw[decide_eq_true t6,Bool.true_and]at t4;have t7:2*c≤tz s.gv:=by
  apply Classical.byContradiction;intro e;rw[decide_eq_false e]at t4; cases t4
 rw[decide_eq_true t7,Bool.true_and]at t4;generalize hz:tz s.gv=z at t1 t2 t3 t4 t5 t6 t7;obtain⟨d,rfl⟩:∃d,z=2*d:=⟨z/2,by omega⟩
 refine⟨β (m+64+2*d+1),m+64+2*d+2,⟨d-c,by omega,?_,?_,fun i hi => ?_⟩,?_,⟨m,d+1,by omega,by omega,?_,hf,fun j => ?_⟩⟩
 ·rw[show q+2*(d-c)=m+64+2*d by omega]; exact t4.symm
 ·rw[show q+2*(d-c)=m+64+2*d by omega]
 ·have:=t2 (2*c+2*i) (by omega);rw[hg,decide_eq_true (show 2*c+2*i<16 by omega),decide_eq_true (show (2*c+2*i)%2=0 by omega),decide_eq_true (show 2*c≤2*c+2*i by omega)]at this;simp only[Bool.true_and]at this;rw[hq,show m+64+2*c+2*i=m+64+(2*c+2*i) by omega];exact this
 ·unfold St.bit;rw[hz];have e:(s.fr/2^(2*d+1) &&& 1)=(s.fr.testBit (2*d+1)).toNat:=by
   rw[Nat.testBit_eq_decide_div_mod_eq,Nat.and_one_is_mod]
   rcases Nat.mod_two_eq_zero_or_one (s.fr/2^(2*d+1))with k|k<;>rw[k]<;>rfl
  rw[e,hf _ (by omega)];rfl
 ·exact⟨hB.lo,hB.hi,hB.l6,hB.h6⟩
 ·show (s.gv &&& (s.gv-1)).testBit j=_;rw[t3,hg]
  by_cases e1:j<16
  ·by_cases e2:j%2=0
   ·rw[decide_eq_true e1,decide_eq_true e2]
    by_cases e3:2*(d+1)≤j
    ·rw[decide_eq_true e3,decide_eq_true (show 2*c≤j by omega),decide_eq_true (show j≠2*d by omega)];simp
    ·rw[decide_eq_false e3]
     by_cases e4:j=2*d
     ·rw[decide_eq_false (show ¬j≠2*d by omega)];simp
     ·have:=t2 j (by omega);rw[hg,decide_eq_true e1,decide_eq_true e2]at this;simp only[Bool.true_and]at this;rw[this];rfl
   ·rw[decide_eq_false e2]; simp
  ·rw[decide_eq_false e1]; rfl
theorem Pos.inn {β:Nat→Bool} (hβ:fO β):∀(n:Nat) {s t:St} {q:Nat},Pos β s q→Ex.inn n s=some t→∃b q',Giv β q b q'∧t.bit=b.toNat∧Pos β t.next q'
 | 0,s,t,q,h,hi=>by
  unfold Ex.inn at hi;cases hb:Nat.beq s.gv 0<;>rw[hb]at hi
  ·cases hi;exact h.give fun e=>by rw[e]at hb; cases hb
  ·cases hi
 | n+1,s,t,q,h,hi=>by
  unfold Ex.inn at hi;cases hb:Nat.beq s.gv 0<;>rw[hb]at hi
  ·cases hi;exact h.give fun e=>by rw[e]at hb; cases hb
  ·obtain⟨k,h1,h2⟩:=h.J hβ (Nat.eq_of_beq_eq_true hb);obtain⟨b,q',g1,g2,g3⟩:=Pos.inn hβ n h1 hi;exact⟨b,q',g1.skip h2,g2,g3⟩
inductive RdB (β:Nat→Bool):Nat→Nat→Nat→Nat→Nat→Prop
 | nil (q a):RdB β 0 q a a q
 | cons {n q a b q1 a' q'}:Giv β q b q1→RdB β n q1 (2*a+b.toNat) a' q'→RdB β (n+1) q a a' q'
theorem Co {a:Nat} (ha:2*a<eH) (b:Bool):NN a b.toNat=2*a+b.toNat:=by
 unfold NN;rw[Nat.pow_one,Nat.mod_eq_of_lt (by omega),Nat.mul_comm];cases b
 ·exact Nat.or_zero _
 ·show 2*a ||| 1=2*a+1
  have:=Nat.two_pow_add_eq_or_of_lt (i:=1) (b:=1) (by decide) a;rw[Nat.pow_one]at this;exact this.symm
theorem Pos.wrd {β:Nat→Bool} (hβ:fO β):∀(n:Nat) {i:Nat} {s t:St} {q a v:Nat},Pos β s q→i+n≤64→a<2^i→Ex.wrd n s a=some (v,t)→∃q',RdB β n q a v q'∧Pos β t q'
 | 0,i,s,t,q,a,v,h,_,_,hw=>by cases hw; exact⟨q,.nil _ _,h⟩
 | n+1,i,s,t,q,a,v,h,hi,ha,hw=>by
  unfold Ex.wrd at hw;split at hw
  ·rename_i u hu;obtain⟨b,q1,g1,g2,g3⟩:=h.inn hβ 40 hu;have h63:2^i≤2^63:=Nat.pow_le_pow_right (by decide) (by omega);rw[g2,Co (by unfold eH; omega)]at hw;have hb:b.toNat≤1:=Bool.toNat_le b;obtain⟨q',r1,r2⟩:=Pos.wrd hβ n (i:=i+1) g3 (by omega) (by rw[Nat.pow_succ]; omega) hw;exact⟨q',.cons g1 r1,r2⟩
  ·cases hw
theorem RdB.app {β:Nat→Bool} {n m q a a' q1 c q2:Nat} (h:RdB β n q a a' q1) (h':RdB β m q1 a' c q2):RdB β (n+m) q a c q2:=by
 induction h with
 | nil q a=>rw[Nat.zero_add]; exact h'
 | cons g r ih=>rw[Nat.add_right_comm]; exact .cons g (ih h')
theorem RdB.up {β:Nat→Bool} {m q a c q2:Nat} (h:RdB β m q a c q2):∀d,RdB β m q (d+a) (d*2^m+c) q2:=by
 induction h with
 | nil q a=>intro d; rw[Nat.pow_zero,Nat.mul_one]; exact .nil _ _
 | @cons n q a b q1 a' q' g r ih =>
  intro d;have:=ih (2*d);rw[Nat.pow_succ,Nat.mul_comm (2^n) 2,←Nat.mul_assoc,Nat.mul_comm d 2];refine .cons g ?_;rw[Nat.mul_add,Nat.add_assoc];exact this
theorem RdB.join {β:Nat→Bool} {n m q d q1 c q2:Nat} (h:RdB β n q 0 d q1) (h':RdB β m q1 0 c q2):RdB β (n+m) q 0 (d*2^m+c) q2:=h.app (h'.up d)
theorem Pos.cand {β:Nat→Bool} (hβ:fO β) {s t:St} {q x:Nat} (h:Pos β s q) (hc:Ex.cand s=some (x,t)):∃q',RdB β 254 q 0 x q'∧Pos β t q':=by
 obtain⟨a,b,c,d,s1,s2,s3,h1,h2,h3,h4,rfl⟩:=mD hc;obtain⟨q1,r1,p1⟩:=h.wrd hβ 62 (i:=0) (by decide) (by decide) h1;obtain⟨q2,r2,p2⟩:=p1.wrd hβ 64 (i:=0) (by decide) (by decide) h2;obtain⟨q3,r3,p3⟩:=p2.wrd hβ 64 (i:=0) (by decide) (by decide) h3;obtain⟨q4,r4,p4⟩:=p3.wrd hβ 64 (i:=0) (by decide) (by decide) h4;refine⟨q4,?_,p4⟩;have:=((r1.join r2).join r3).join r4;rw[show aC a b c d=((d*2^64+c)*2^64+b)*2^64+a by unfold aC; omega];exact this
inductive ElB (β:Nat→Bool):Nat→Nat→Nat→Prop
 | here {q x q'}:RdB β 254 q 0 x q'→x<RM→ElB β q x q'
 | more {q y q1 x q'}:RdB β 254 q 0 y q1→¬y<RM→ElB β q1 x q'→ElB β q x q'
theorem Pos.cst {β:Nat→Bool} (hβ:fO β):∀(n:Nat) {s t:St} {q x:Nat},Pos β s q→Ex.cst n s=some (x,t)→∃q',ElB β q x q'∧Pos β t q'
 | 0,s,t,q,x,h,hc=>by cases hc
 | n+1,s,t,q,x,h,hc=>by
  unfold Ex.cst at hc;split at hc
  ·rename_i y u hy;obtain⟨q1,r1,p1⟩:=h.cand hβ hy;cases hb:Nat.blt y RM<;>rw[hb]at hc
   ·obtain⟨q',e1,e2⟩:=Pos.cst hβ n p1 hc;exact⟨q',.more r1 (fun k=>by rw[show Nat.blt y RM=true from Nat.ble_eq_true_of_le k]at hb; cases hb) e1,e2⟩
   ·cases hc;exact⟨q1,.here r1 (Nat.le_of_ble_eq_true hb),p1⟩
  ·cases hc
inductive ElsB (β:Nat→Bool):Nat→List Nat→Nat→Prop
 | nil (q):ElsB β q [] q
 | cons {q x q1 l q'}:ElB β q x q1→ElsB β q1 l q'→ElsB β q (x::l) q'
theorem Pos.csts {β:Nat→Bool} (hβ:fO β):∀(n:Nat) {s:St} {q:Nat} {l:List Nat},Pos β s q→Ex.csts n s=some l→∃q',ElsB β q l q'∧l.length=n
 | 0,s,q,l,h,hc=>by cases hc; exact⟨q,.nil _,rfl⟩
 | n+1,s,q,l,h,hc=>by
  unfold Ex.csts at hc;split at hc
  ·rename_i x t hx;split at hc
   ·rename_i m hm;cases hc;obtain⟨q1,e1,p1⟩:=h.cst hβ 100 hx;obtain⟨q',e2,e3⟩:=Pos.csts hβ n p1 hm;exact⟨q',.cons e1 e2,by rw[List.length_cons,e3]⟩
   ·cases hc
  ·cases hc
theorem HoldsB.gwI {β:Nat→Bool} (hβ:fO β) {m:Nat} {s:St} (h:HoldsB β m s):∀n,HoldsB β (m+16*n) (Ex.gwI n s)
 | 0=>h
 | n+1=>by
  have:=(HoldsB.gwI hβ h n).grow hβ;rw[show m+16*(n+1)=m+16*n+16 by omega];exact this
theorem SQ:∀(n:Nat) (s:St),(Ex.gwI n s).gv=s.gv
 | 0,s=>rfl
 | n+1,s=>SQ n s
theorem JB (n c:Nat):∀(m i p:Nat) (s:St),(jY n c m i p s).gv=s.gv
 | 0,_,_,s=>rfl
 | m+1,i,p,s=>by
  show (jY n c m (i+1) (p+1) (lay1 n c i p s)).gv=_;rw[JB n c m];unfold lay1;split<;>rfl
theorem Pos.begin {β:Nat→Bool} (hβ:fO β) {s:St} (h:HoldsB β 0 s) (h0:s.gv=0):Pos β (Ex.gwI 10 s) 240:=by
 have hb:=h.gwI hβ 10;have hb9:=h.gwI hβ 9;refine⟨160,8,by decide,by decide,hb,fun j hj => ?_,fun j => ?_⟩
 ·have:=lZ hβ hb9 hj;exact this.trans (congrArg β (by omega))
 ·rw[SQ,h0,Nat.zero_testBit]
  by_cases h1:j<16
  ·rw[decide_eq_false (show ¬ 2*8≤j by omega)]; simp
  ·rw[decide_eq_false h1]; rfl
def qJ (w:Nat):Nat:=w/2+(w.testBit 62 ^^ w.testBit 51 ^^ w.testBit 38 ^^ w.testBit 23 ^^ w.testBit 13 ^^ w.testBit 0).toNat*2^79
def dN (w:Nat):Nat→Nat
 | 0=>w
 | n+1=>qJ (dN w n)
def dO (w:Nat) (i:Nat):Bool:=(dN w i).testBit 0
theorem WG {w:Nat} (h:w<2^80):qJ w<2^80:=by
 unfold qJ;have hb:=Bool.toNat_le (w.testBit 62 ^^ w.testBit 51 ^^ w.testBit 38 ^^ w.testBit 23 ^^ w.testBit 13 ^^ w.testBit 0);generalize (w.testBit 62 ^^ w.testBit 51 ^^ w.testBit 38 ^^ w.testBit 23 ^^ w.testBit 13 ^^ w.testBit 0).toNat=b at hb ⊢;omega
theorem iD {w:Nat} (h:w<2^80):∀n,dN w n<2^80
 | 0=>h
 | n+1=>WG (iD h n)
theorem NZ {w:Nat} (h:w<2^80) (j:Nat) (hj:j<79):(qJ w).testBit j=w.testBit (j+1):=by
 unfold qJ;rw[Nat.add_comm,Nat.mul_comm,Nat.testBit_two_pow_mul_add _ (show w/2<2^79 by omega),if_pos hj,Nat.testBit_succ]
theorem NY {w:Nat} (h:w<2^80):(qJ w).testBit 79=(w.testBit 62 ^^ w.testBit 51 ^^ w.testBit 38 ^^ w.testBit 23 ^^ w.testBit 13 ^^ w.testBit 0):=by
 unfold qJ;rw[Nat.add_comm,Nat.mul_comm,Nat.testBit_two_pow_mul_add _ (show w/2<2^79 by omega),if_neg (by decide)];cases (w.testBit 62 ^^ w.testBit 51 ^^ w.testBit 38 ^^ w.testBit 23 ^^ w.testBit 13 ^^ w.testBit 0)<;>rfl
theorem yE {w:Nat} (h:w<2^80) (i:Nat):∀k j,k+j<80→(dN w (i+k)).testBit j=(dN w i).testBit (k+j)
 | 0,j,_=>by rw[Nat.zero_add]; rfl
 | k+1,j,hk=>by
  show (qJ (dN w (i+k))).testBit j=_;rw[NZ (iD h _) j (by omega),yE h i k (j+1) (by omega)];congr 1; omega
theorem fJ {w:Nat} (h:w<2^80) (i j:Nat) (hj:j<80):dO w (i+j)=(dN w i).testBit j:=yE h i j 0 (by omega)
theorem uB {w:Nat} (h:w<2^80) (j:Nat) (hj:j<80):dO w j=w.testBit j:=by
 have:=fJ h 0 j hj;rw[Nat.zero_add]at this;exact this
theorem iT {w:Nat} (h:w<2^80):fO (dO w):=fun i=>by
 have e:dO w (i+80)=(dN w (i+1)).testBit 79:=by
  have:=fJ h (i+1) 79 (by decide);rw[show i+1+79=i+80 by omega]at this;exact this
 rw[e,fJ h i 62 (by decide),fJ h i 51 (by decide),fJ h i 38 (by decide),fJ h i 23 (by decide),fJ h i 13 (by decide)];exact NY (iD h i)
def nJ (s:St):Nat:=2^64*s.hi+s.lo
theorem nI {s:St} (hl:s.lo<eH) (hh:s.hi<2^16):nJ s<2^80:=by unfold nJ; unfold eH at hl; omega
theorem HoldsB.seed {s:St} (hl:s.lo<eH) (hh:s.hi<2^16):HoldsB (dO (nJ s)) 0 s where
 lo:=fun j hj=>by
  rw[Nat.zero_add,uB (nI hl hh) j (by omega)];unfold nJ;rw[Nat.testBit_two_pow_mul_add _ hl,if_pos hj]
 hi:=fun j hj=>by
  rw[uB (nI hl hh) (0+64+j) (by omega)];unfold nJ;rw[Nat.testBit_two_pow_mul_add _ hl,if_neg (by omega),show 0+64+j-64=j by omega]
 l6:=hl
 h6:=hh
theorem Kd (wd fl pt:Nat):(NM wd fl pt).gv=0:=by
 unfold NM;simp only[JB];rfl
def cG (β:Nat→Bool):Nat→Nat→Nat→Bool
 | 0,_,_=>false
 | n+1,p,k=>cG β n p k ^^ (p.testBit n&&β (k+n))
theorem eU (β:Nat→Bool) (p q k:Nat):∀n,cG β n (p ^^^ q) k=(cG β n p k ^^ cG β n q k)
 | 0=>rfl
 | n+1=>by
  show (cG β n (p ^^^ q) k ^^ ((p ^^^ q).testBit n&&β (k+n)))=((cG β n p k ^^ (p.testBit n&&β (k+n))) ^^ (cG β n q k ^^ (q.testBit n&&β (k+n))));rw[eU β p q k n,Nat.testBit_xor];cases cG β n p k<;>cases cG β n q k<;>cases p.testBit n<;>cases q.testBit n<;>cases β (k+n)<;>rfl
theorem gZ (β:Nat→Bool) (k:Nat):∀n,cG β n 0 k=false
 | 0=>rfl
 | n+1=>by
  show (cG β n 0 k ^^ (Nat.testBit 0 n&&β (k+n)))=false;rw[gZ β k n,Nat.zero_testBit]; rfl
theorem KG (β:Nat→Bool) (p k:Nat):∀n,cG β (n+1) (2*p) k=cG β n p (k+1)
 | 0=>by
  show (false ^^ ((2*p).testBit 0&&β (k+0)))=false;rw[Nat.testBit_zero,show 2*p%2=0 by omega]; rfl
 | n+1=>by
  show (cG β (n+1) (2*p) k ^^ ((2*p).testBit (n+1)&&β (k+(n+1))))=(cG β n p (k+1) ^^ (p.testBit n&&β (k+1+n)));rw[KG β p k n,Nat.testBit_succ,show 2*p/2=p by omega,show k+(n+1)=k+1+n by omega]
theorem yA (β:Nat→Bool) {n p:Nat} (k:Nat) (h:p<2^n):cG β (n+1) p k=cG β n p k:=by
 show (cG β n p k ^^ (p.testBit n&&β (k+n)))=_;rw[qO h (Nat.le_refl n)];cases cG β n p k<;>rfl
theorem GI (β:Nat→Bool) {n p:Nat} (k:Nat) (h:2*p<2^n):cG β n (2*p) k=cG β n p (k+1):=by
 rw[←yA β k h,KG]
theorem mG (β:Nat→Bool) (k:Nat):∀n,cG β (n+1) 1 k=β k
 | 0=>by
  show (false ^^ (Nat.testBit 1 0&&β (k+0)))=_;rw[Nat.add_zero]; cases β k<;>rfl
 | n+1=>by rw[yA β k (show 1<2^(n+1)from Nat.one_lt_two_pow (by omega)),mG β k n]
def BU:Nat→Nat→Nat→Nat
 | 0,_,_=>0
 | n+1,u,p=>(bif u.testBit 0 then p else 0) ^^^ BU n (u/2) (2*p)
theorem qE {β:Nat→Bool} {N:Nat}:∀(n u p:Nat),(∀k,cG β N p k=false)→p*2^n<2^N→∀k,cG β N (BU n u p) k=false
 | 0,u,p,h,_,k=>gZ β k N
 | n+1,u,p,h,hp,k=>by
  show cG β N ((bif u.testBit 0 then p else 0) ^^^ BU n (u/2) (2*p)) k=false;have h2:2*p*2^n<2^N:=by rw[Nat.pow_succ,Nat.mul_comm (2^n) 2,←Nat.mul_assoc,Nat.mul_comm p 2]at hp; exact hp
  have h3:2*p<2^N:=Nat.lt_of_le_of_lt (Nat.le_mul_of_pos_right _ (Nat.pow_pos (by decide))) h2;rw[eU,qE n (u/2) (2*p) (fun k=>(GI β k h3).trans (h (k+1))) h2];cases u.testBit 0
  ·show (cG β N 0 k ^^ false)=false;rw[gZ]; rfl
  ·show (cG β N p k ^^ false)=false;rw[h]; rfl
def pJ:Nat:=33556544
def pK:Nat:=1101659635713
def uJ:Nat:=977524504635
def uK:Nat:=29873857
theorem Ke:BU 41 uJ pJ ^^^ BU 41 uK pK=1:=by decide +kernel
theorem KH (β:Nat→Bool) (e k:Nat):∀n,cG β n (2^e) k=(decide (e<n)&&β (k+e))
 | 0=>by rw[decide_eq_false (Nat.not_lt_zero e)]; rfl
 | n+1=>by
  show (cG β n (2^e) k ^^ ((2^e).testBit n&&β (k+n)))=_;rw[KH β e k n,Nat.testBit_two_pow]
  rcases Nat.lt_trichotomy e n with h|h|h
  ·rw[decide_eq_true h,decide_eq_false (show ¬e=n by omega),decide_eq_true (show e<n+1 by omega)];cases β (k+e)<;>rfl
  ·subst h;rw[decide_eq_false (Nat.lt_irrefl e),decide_eq_true rfl,decide_eq_true (Nat.lt_succ_self e)];cases β (k+e)<;>rfl
  ·rw[decide_eq_false (show ¬e<n by omega),decide_eq_false (show ¬e=n by omega),decide_eq_false (show ¬e<n+1 by omega)];rfl
theorem eR (β:Nat→Bool) {e n:Nat} (k:Nat) (h:e<n):cG β n (2^e) k=β (k+e):=by
 rw[KH,decide_eq_true h]; rfl
theorem LZ {c:Nat→Bool} (h1:∀k,(c (k+25) ^^ c (k+11) ^^ c (k+6))=false) (h2:∀k,(c (k+40) ^^ c (k+31) ^^ c (k+19) ^^ c k)=false) (k:Nat):c k=false:=by
 have a1:∀k,cG c 128 pJ k=false:=fun k=>by
  rw[←h1 k,show pJ=2^25 ^^^ 2^11 ^^^ 2^6 by decide];simp only[eU];rw[eR c k (by decide),eR c k (by decide),eR c k (by decide)]
 have a2:∀k,cG c 128 pK k=false:=fun k=>by
  rw[←h2 k,show pK=2^40 ^^^ 2^31 ^^^ 2^19 ^^^ 2^0 by decide];simp only[eU];rw[eR c k (by decide),eR c k (by decide),eR c k (by decide),eR c k (by decide)];rfl
 have e:=eU c (BU 41 uJ pJ) (BU 41 uK pK) k 128;rw[Ke,qE 41 uJ pJ a1 (by decide) k,qE 41 uK pK a2 (by decide) k,mG]at e;exact e
def pP:Nat:=2^80 ^^^ 2^62 ^^^ 2^51 ^^^ 2^38 ^^^ 2^23 ^^^ 2^13 ^^^ 2^0
theorem VH {β:Nat→Bool} (hβ:fO β) {N:Nat} (hN:80<N) (k:Nat):cG β N pP k=false:=by
 unfold pP;simp only[eU];rw[eR β k (by omega),eR β k (by omega),eR β k (by omega),eR β k (by omega),eR β k (by omega),eR β k (by omega),eR β k (by omega),hβ k,Nat.add_zero];cases β (k+62)<;>cases β (k+51)<;>cases β (k+38)<;>cases β (k+23)<;>cases β (k+13)<;>cases β k<;>rfl
theorem Wa:BU 81 pP pP=2^160 ^^^ 2^124 ^^^ 2^102 ^^^ 2^76 ^^^ 2^46 ^^^ 2^26 ^^^ 2^0:=by decide +kernel
theorem RX {β:Nat→Bool} (hβ:fO β) (k:Nat):β (k+160)=(β (k+124) ^^ β (k+102) ^^ β (k+76) ^^ β (k+46) ^^ β (k+26) ^^ β k):=by
 have h:=qE (N:=200) 81 pP pP (fun k=>VH hβ (by decide) k) (by decide) k;rw[Wa]at h;simp only[eU]at h;rw[eR β k (by decide),eR β k (by decide),eR β k (by decide),eR β k (by decide),eR β k (by decide),eR β k (by decide),eR β k (by decide),Nat.add_zero]at h;revert h;cases β (k+160)<;>cases β (k+124)<;>cases β (k+102)<;>cases β (k+76)<;>cases β (k+46)<;>cases β (k+26)<;>cases β k<;>decide
theorem Xv {β:Nat→Bool} (hβ:fO β) {q:Nat} (h:∀i,i<80→β (q+2*i)=false) (i:Nat):β (q+i)=false:=by
 have ev:∀i,β (q+2*i)=false:=fun i=>by
  induction i using Nat.strongRecOn with
  | _ i ih =>
   by_cases h1:i<80
   ·exact h i h1
   ·obtain⟨j,rfl⟩:∃j,i=j+80:=⟨i-80,by omega⟩
    have e:=RX hβ (q+2*j);have g:∀a,a<80→β (q+2*j+2*a)=false:=fun a ha=>by
     have:=ih (j+a) (by omega);rw[←this]; congr 1; omega
    rw[show q+2*(j+80)=q+2*j+160 by omega,e,g 62 (by omega),g 51 (by omega),g 38 (by omega),g 23 (by omega),g 13 (by omega),show β (q+2*j)=false from g 0 (by omega)];rfl
 have g:∀k a,β (q+2*k+2*a)=false:=fun k a=>by
  rw[←ev (k+a)]; congr 1; omega
 have od:∀k,β (q+2*k+1)=false:=LZ (c:=fun k=>β (q+2*k+1)) (fun k=>by
  have e:=hβ (q+2*k);rw[g k 40,g k 31,g k 19,show β (q+2*k)=false from g k 0]at e;show (β (q+2*(k+25)+1) ^^ β (q+2*(k+11)+1) ^^ β (q+2*(k+6)+1))=false;rw[show q+2*(k+25)+1=q+2*k+51 by omega,show q+2*(k+11)+1=q+2*k+23 by omega,show q+2*(k+6)+1=q+2*k+13 by omega];revert e;cases β (q+2*k+51)<;>cases β (q+2*k+23)<;>cases β (q+2*k+13)<;>decide) (fun k=>by
  have e:=hβ (q+2*k+1);rw[show q+2*k+1+51=q+2*k+2*26 by omega,show q+2*k+1+23=q+2*k+2*12 by omega,show q+2*k+1+13=q+2*k+2*7 by omega,g,g,g]at e;show (β (q+2*(k+40)+1) ^^ β (q+2*(k+31)+1) ^^ β (q+2*(k+19)+1) ^^ β (q+2*k+1))=false;rw[show q+2*(k+40)+1=q+2*k+1+80 by omega,show q+2*(k+31)+1=q+2*k+1+62 by omega,show q+2*(k+19)+1=q+2*k+1+38 by omega,e];cases β (q+2*k+1+62)<;>cases β (q+2*k+1+38)<;>cases β (q+2*k+1)<;>rfl)
 obtain⟨j,h|h⟩:∃j,i=2*j∨i=2*j+1:=⟨i/2,by omega⟩
 ·rw[h]; exact ev j
 ·rw[h]; exact od j
def Lu (β:Nat→Bool):Prop:=∀q,∃i,i<80∧β (q+i)=true
theorem WF {w:Nat} (h:qJ w=0):w=0:=by
 unfold qJ at h;have h1:w/2=0:=by omega
 have h2:w=0∨w=1:=by omega
 rcases h2 with h2|h2
 ·exact h2
 ·rw[h2]at h; exact absurd h (by decide)
theorem iC {w:Nat} (h:w≠0):∀n,dN w n≠0
 | 0=>h
 | n+1=>fun e=>iC h n (WF e)
theorem GZ {w:Nat} (h:w<2^80) (h0:w≠0):Lu (dO w):=fun q=>by
 apply Classical.byContradiction;intro hn;refine iC h0 q (US fun j => ?_)
 by_cases hj:j<80
 ·rw[←fJ h q j hj];cases hb:dO w (q+j)
  ·rfl
  ·exact absurd ⟨j,hj,hb⟩ hn
 ·exact qO (iD h q) (by omega)
theorem Ev {β:Nat→Bool} (hβ:fO β) (hn:Lu β) (q:Nat):∃k,k<80∧β (q+2*k)=true:=by
 apply Classical.byContradiction;intro h;obtain⟨i,_,hi⟩:=hn q;rw[Xv hβ (fun i hi=>by
  cases hb:β (q+2*i)
  ·rfl
  ·exact absurd ⟨i,hi,hb⟩ h) i]at hi
 cases hi
structure PosAt (β:Nat→Bool) (s:St) (m c:Nat):Prop where
 c8:c≤8
 holds:HoldsB β m s
 fr:∀j,j<16→s.fr.testBit j=β (m+64+j)
 gv:∀j,s.gv.testBit j=(decide (j<16)&&(decide (j%2=0)&&(decide (2*c≤j)&&β (m+64+j))))
theorem PosAt.J {β:Nat→Bool} (hβ:fO β) {s:St} {m c:Nat} (h:PosAt β s m c):PosAt β s.J (m+16) 0 where
 c8:=by omega
 holds:=⟨(h.holds.grow hβ).lo,(h.holds.grow hβ).hi,(h.holds.grow hβ).l6,(h.holds.grow hβ).h6⟩
 fr:=fun j hj=>(lZ hβ h.holds hj).trans (congrArg β (by omega))
 gv:=fun j=>by
  show (mK s.lo s.hi &&& 21845).testBit j=_;rw[Nat.testBit_and,AU]
  by_cases hj:j<16
  ·rw[lZ hβ h.holds hj,decide_eq_true hj,show m+80+j=m+16+64+j by omega,decide_eq_true (show 2*0≤j by omega)];cases β (m+16+64+j)<;>cases decide (j%2=0)<;>rfl
  ·rw[decide_eq_false hj,Bool.false_and,Bool.false_and,Bool.and_false]
theorem uS {β:Nat→Bool} (hβ:fO β):∀(n K m:Nat) {s:St},PosAt β s m 0→(∃k,k<K∧β (m+64+2*k)=true)→K≤8*n→∃t,Ex.inn n s=some t
 | 0,K,m,s,h,⟨k,hk,_⟩,hK=>by omega
 | n+1,K,m,s,h,⟨k,hk,hb⟩,hK=>by
  unfold Ex.inn;cases h0:Nat.beq s.gv 0
  ·exact⟨s,rfl⟩
  ·have hg:=h.gv (2*k);rw[Nat.eq_of_beq_eq_true h0,Nat.zero_testBit,hb,decide_eq_true (show 2*k%2=0 by omega),decide_eq_true (show 2*0≤2*k by omega)]at hg;have h8:8≤k:=by
    apply Classical.byContradiction;intro q;rw[decide_eq_true (show 2*k<16 by omega)]at hg;cases hg
   exact uS hβ n (K-8) (m+16) (h.J hβ) ⟨k-8,by omega,by rw[←hb]; congr 1; omega⟩ (by omega)
theorem SN {β:Nat→Bool} (hβ:fO β) (hn:Lu β) {s:St} {q:Nat} (h:Pos β s q):∃t,Ex.inn 40 s=some t:=by
 obtain⟨m,c,hq,hc,hB,hf,hg⟩:=h.at';have hP:PosAt β s m c:=⟨hc,hB,hf,hg⟩;unfold Ex.inn;cases h0:Nat.beq s.gv 0
 ·exact⟨s,rfl⟩
 ·obtain⟨k,hk,hb⟩:=Ev hβ hn (m+16+64);exact uS hβ 39 80 (m+16) (hP.J hβ) ⟨k,hk,hb⟩ (by decide)
theorem kF {β:Nat→Bool} (hβ:fO β) (hn:Lu β):∀(n:Nat) {s:St} {q:Nat} (a:Nat),Pos β s q→∃v t q',Ex.wrd n s a=some (v,t)∧Pos β t q'
 | 0,s,q,a,h=>⟨a,s,q,rfl,h⟩
 | n+1,s,q,a,h=>by
  obtain⟨u,hu⟩:=SN hβ hn h;obtain⟨b,q1,_,_,g3⟩:=h.inn hβ 40 hu;obtain⟨v,t,q',h1,h2⟩:=kF hβ hn n (NN a u.bit) g3;refine⟨v,t,q',?_,h2⟩;unfold Ex.wrd;rw[hu];exact h1
theorem vH {β:Nat→Bool} (hβ:fO β) (hn:Lu β) {s:St} {q:Nat} (h:Pos β s q):∃x t q',Ex.cand s=some (x,t)∧Pos β t q':=by
 obtain⟨d,s1,q1,h1,p1⟩:=kF hβ hn 62 0 h;obtain⟨c,s2,q2,h2,p2⟩:=kF hβ hn 64 0 p1;obtain⟨b,s3,q3,h3,p3⟩:=kF hβ hn 64 0 p2;obtain⟨a,s4,q4,h4,p4⟩:=kF hβ hn 64 0 p3;refine⟨aC a b c d,s4,q4,?_,p4⟩;unfold Ex.cand;rw[h1];simp only;rw[h2];simp only;rw[h3];simp only;rw[h4]
theorem QB:eP 257:=aQ 257 16 (by decide) (by decide) (by kernel_rfl)
theorem LK:eP 61681:=aQ 61681 248 (by decide) (by decide) (by kernel_rfl)
theorem YP:eP 31:=aQ 31 5 (by decide) (by decide) (by kernel_rfl)
theorem LJ:eP 65537:=aQ 65537 256 (by decide) (by decide) (by kernel_rfl)
theorem pR:Root 4278255361 23:=by
 refine bL (l:=[2,2,2,2,2,2,2,2,3,5,17,65537]) (by kernel_rfl) fun q hq => ?_
 simp only[List.mem_cons,List.not_mem_nil,or_false]at hq
 rcases hq with rfl|rfl|rfl|rfl|rfl|rfl|rfl|rfl|rfl|rfl|rfl|rfl
 all_goals first|exact bE|exact fZ|exact kM|exact ED|exact LJ
theorem rJ:eP 4278255361:=pR.prm
def Lm {α:Type} (n:Nat) (k:Nat→α):α:=Nat.rec (motive:=fun _=>α) (k 0) (fun m _=>k (Nat.succ m)) n
theorem TA {α:Type} (n:Nat) (k:Nat→α):Lm n k=k n:=by cases n<;>rfl
def NV (v:Nat):Nat:=bif v.testBit 79 then (2*v) ^^^ pP else 2*v
theorem CV {v:Nat} (h:v<2^80):NV v<2^80:=by
 unfold NV;cases hb:v.testBit 79
 ·show 2*v<2^80;refine Nat.lt_pow_two_of_testBit _ fun i hi => ?_
  obtain⟨j,rfl⟩:∃j,i=j+1:=⟨i-1,by omega⟩
  rw[Nat.testBit_succ,show 2*v/2=v by omega]
  by_cases e:j=79
  ·rw[e,hb]
  ·exact qO h (by omega)
 ·show 2*v ^^^ pP<2^80;refine Nat.lt_pow_two_of_testBit _ fun i hi => ?_
  rw[Nat.testBit_xor];obtain⟨j,rfl⟩:∃j,i=j+1:=⟨i-1,by omega⟩
  rw[Nat.testBit_succ,show 2*v/2=v by omega]
  by_cases e:j=79
  ·rw[e,hb,show pP.testBit (79+1)=true by decide +kernel]; rfl
  ·rw[qO h (show 80≤j by omega),qO (n:=81) (show pP<2^81 by decide +kernel) (show 81≤j+1 by omega)]; rfl
def RepB (β:Nat→Bool) (a u:Nat):Prop:=u<2^80∧∀k,cG β 81 u k=β (k+a)
theorem RepB.one (β:Nat→Bool):RepB β 0 1:=⟨by decide,fun k=>mG β k 80⟩
theorem RepB.xt {β:Nat→Bool} (hβ:fO β) {a u:Nat} (h:RepB β a u):RepB β (a+1) (NV u):=by
 refine⟨CV h.1,fun k => ?_⟩;have h2:cG β 81 (2*u) k=β (k+(a+1)):=by
  rw[GI β k (show 2*u<2^81 by have:=h.1; omega),h.2];congr 1; omega
 unfold NV;cases u.testBit 79
 ·exact h2
 ·show cG β 81 (2*u ^^^ pP) k=_;rw[eU,h2,VH hβ (by decide)];cases β (k+(a+1))<;>rfl
def Aa:Nat→Nat→Nat→Nat
 | 0,_,_=>0
 | n+1,u,v=>(bif u.testBit 0 then v else 0) ^^^ Aa n (u/2) (NV v)
theorem RR:∀(n u:Nat) {v:Nat},v<2^80→Aa n u v<2^80
 | 0,_,_,_=>Nat.pow_pos (by decide)
 | n+1,u,v,h=>by
  refine Nat.xor_lt_two_pow ?_ (RR n (u/2) (CV h));cases u.testBit 0
  ·exact Nat.pow_pos (by decide)
  ·exact h
theorem KI (β:Nat→Bool) (p k:Nat):∀n,cG β (n+1) p k=((p.testBit 0&&β k) ^^ cG β n (p/2) (k+1))
 | 0=>by
  show (false ^^ (p.testBit 0&&β (k+0)))=_;rw[Nat.add_zero];show _=((p.testBit 0&&β k) ^^ false);cases p.testBit 0&&β k<;>rfl
 | n+1=>by
  show (cG β (n+1) p k ^^ (p.testBit (n+1)&&β (k+(n+1))))=((p.testBit 0&&β k) ^^ (cG β n (p/2) (k+1) ^^ ((p/2).testBit n&&β (k+1+n))));rw[KI β p k n,Nat.testBit_succ,show k+(n+1)=k+1+n by omega];cases (p.testBit 0&&β k)<;>cases cG β n (p/2) (k+1)<;>cases ((p/2).testBit n&&β (k+1+n))<;>rfl
theorem VG {β:Nat→Bool} (hβ:fO β):∀(n u:Nat) {b v:Nat},RepB β b v→∀k,cG β 81 (Aa n u v) k=cG β n u (k+b)
 | 0,u,b,v,h,k=>gZ β k 81
 | n+1,u,b,v,h,k=>by
  rw[KI β u (k+b) n];show cG β 81 ((bif u.testBit 0 then v else 0) ^^^ Aa n (u/2) (NV v)) k=_;rw[eU,VG hβ n (u/2) (h.xt hβ) k,←Nat.add_assoc];cases u.testBit 0
  ·show (cG β 81 0 k ^^ _)=(false ^^ _);rw[gZ]
  ·show (cG β 81 v k ^^ _)=(β (k+b) ^^ _);rw[h.2]
theorem RepB.mul {β:Nat→Bool} (hβ:fO β) {a u b v:Nat} (h:RepB β a u) (h':RepB β b v):RepB β (a+b) (Aa 80 u v):=by
 refine⟨RR 80 u h'.1,fun k => ?_⟩;rw[VG hβ 80 u h',←yA β (k+b) h.1,h.2];congr 1; omega
def IZ:Nat→Nat→Nat→Nat→Nat
 | 0,_,_,a=>a
 | n+1,u,v,a=>Lm (bif u.testBit 0 then a ^^^ v else a) fun a'=>Lm (NV v) fun v'=>Lm (u/2) fun u'=>IZ n u' v' a'
theorem EV:∀(n u v a:Nat),IZ n u v a=a ^^^ Aa n u v
 | 0,u,v,a=>(Nat.xor_zero a).symm
 | n+1,u,v,a=>by
  unfold IZ Aa;simp only[TA];rw[EV n,←Nat.xor_assoc];cases u.testBit 0
  ·show _=a ^^^ 0 ^^^ _;rw[Nat.xor_zero]; rfl
  ·rfl
def nN:Nat→Nat→Nat
 | 0,_=>1
 | n+1,e=>bif Nat.beq e 0 then 1 else Lm (nN n (e/2)) fun h=>Lm (IZ 80 h h 0) fun s=>bif Nat.beq (e%2) 1 then NV s else s
theorem rG {β:Nat→Bool} (hβ:fO β):∀(n e:Nat),e<2^n→RepB β e (nN n e)
 | 0,e,h=>by
  have:e=0:=by rw[Nat.pow_zero]at h; omega
  subst this; exact RepB.one β
 | n+1,e,h=>by
  unfold nN;cases h0:Nat.beq e 0
  ·simp only[TA,EV,Nat.zero_xor];have ih:=rG hβ n (e/2) (by rw[Nat.pow_succ]at h; omega);have hm:=ih.mul hβ ih;cases h1:Nat.beq (e%2) 1
   ·have h2:e%2≠1:=fun q=>by rw[q]at h1; cases h1
    have e2:e/2+e/2=e:=by omega
    rw[e2]at hm;exact hm
   ·have h2:=Nat.eq_of_beq_eq_true h1;have e2:e/2+e/2+1=e:=by omega
    have hx:=hm.xt hβ;rw[e2]at hx;exact hx
  ·rw[Nat.eq_of_beq_eq_true h0];exact RepB.one β
def jS:Nat:=1208925819614629174706175
theorem Ws:nN 81 jS=1:=by decide +kernel
theorem QI {β:Nat→Bool} (hβ:fO β) (k:Nat):β (k+jS)=β k:=by
 have h:=rG hβ 81 jS (by decide);rw[Ws]at h;rw[←h.2 k,mG]
theorem iL {β:Nat→Bool} (hβ:fO β) {e x u:Nat} (he:e<2^81) (h:nN 81 e=x) (hu:IZ 80 u (x ^^^ 1) 0=1) (hp:∀k,β (k+e)=β k) (k:Nat):β k=false:=by
 have hr:=rG hβ 81 e he;rw[h]at hr;have hz:∀k,cG β 81 (x ^^^ 1) k=false:=fun k=>by
  rw[eU,hr.2,mG,hp];cases β k<;>rfl
 have gen:∀(n u v:Nat),v<2^80→(∀k,cG β 81 v k=false)→∀k,cG β 81 (Aa n u v) k=false:=fun n=>by
  induction n with
  | zero=>exact fun u v _ _ k=>gZ β k 81
  | succ n ih =>
   intro u v hv h k;show cG β 81 ((bif u.testBit 0 then v else 0) ^^^ Aa n (u/2) (NV v)) k=false;rw[eU,ih (u/2) (NV v) (CV hv) (fun k=>by
    have h2:cG β 81 (2*v) k=false:=(GI β k (show 2*v<2^81 by omega)).trans (h (k+1));unfold NV;cases v.testBit 79
    ·exact h2
    ·show cG β 81 (2*v ^^^ pP) k=false;rw[eU,h2,VH hβ (by decide)]; rfl) k]
   cases u.testBit 0
   ·show (cG β 81 0 k ^^ false)=false;rw[gZ]; rfl
   ·show (cG β 81 v k ^^ false)=false;rw[h]; rfl
 have e1:=gen 80 u (x ^^^ 1) (Nat.xor_lt_two_pow hr.1 (by decide)) hz k;rw[EV,Nat.zero_xor]at hu;rw[hu,mG]at e1;exact e1
theorem Wt:nN 81 (jS/3)=626585978286512781477397:=by decide +kernel
theorem Yn:IZ 80 626585978286512781477397 (626585978286512781477397 ^^^ 1) 0=1:=by decide +kernel
theorem Nl:nN 81 (jS/5)=1062759767451249268146:=by decide +kernel
theorem Ql:IZ 80 847140029551063439083571 (1062759767451249268146 ^^^ 1) 0=1:=by decide +kernel
theorem Np:nN 81 (jS/11)=983533484020332525020618:=by decide +kernel
theorem Qp:IZ 80 423046615815031885923465 (983533484020332525020618 ^^^ 1) 0=1:=by decide +kernel
theorem No:nN 81 (jS/17)=327364340713523199760690:=by decide +kernel
theorem Qo:IZ 80 1155896398307893314045777 (327364340713523199760690 ^^^ 1) 0=1:=by decide +kernel
theorem Nn:nN 81 (jS/31)=343260682785693274768378:=by decide +kernel
theorem Qn:IZ 80 183502464077304913684533 (343260682785693274768378 ^^^ 1) 0=1:=by decide +kernel
theorem Nm:nN 81 (jS/41)=307969470960599850699048:=by decide +kernel
theorem Qm:IZ 80 375760536490022064001342 (307969470960599850699048 ^^^ 1) 0=1:=by decide +kernel
theorem Ge:nN 81 (jS/257)=179140377121142316031657:=by decide +kernel
theorem Ih:IZ 80 676331498297951284148691 (179140377121142316031657 ^^^ 1) 0=1:=by decide +kernel
theorem PU:nN 81 (jS/61681)=979407236731731279953126:=by decide +kernel
theorem SJ:IZ 80 396894167770810043337993 (979407236731731279953126 ^^^ 1) 0=1:=by decide +kernel
theorem tP:nN 81 (jS/4278255361)=1196125910291071573644424:=by decide +kernel
theorem tV:IZ 80 273558259875724820181296 (1196125910291071573644424 ^^^ 1) 0=1:=by decide +kernel
def Lj:List Nat:=[3,5,5,11,17,31,41,257,61681,4278255361]
theorem RB:Lj.foldr (· * ·) 1=jS:=by decide
theorem IR (q:Nat) (h:q∈Lj):eP q:=by
 simp only[Lj,List.mem_cons,List.not_mem_nil,or_false]at h
 rcases h with rfl|rfl|rfl|rfl|rfl|rfl|rfl|rfl|rfl|rfl
 ·exact fZ
 ·exact kM
 ·exact kM
 ·exact wP
 ·exact ED
 ·exact YP
 ·exact PX
 ·exact QB
 ·exact LK
 ·exact rJ
theorem Xu {β:Nat→Bool} (hβ:fO β) (q:Nat) (h:q∈Lj) (hp:∀k,β (k+jS/q)=β k) (k:Nat):β k=false:=by
 simp only[Lj,List.mem_cons,List.not_mem_nil,or_false]at h
 rcases h with rfl|rfl|rfl|rfl|rfl|rfl|rfl|rfl|rfl|rfl
 ·exact iL hβ (by decide) Wt Yn hp k
 ·exact iL hβ (by decide) Nl Ql hp k
 ·exact iL hβ (by decide) Nl Ql hp k
 ·exact iL hβ (by decide) Np Qp hp k
 ·exact iL hβ (by decide) No Qo hp k
 ·exact iL hβ (by decide) Nn Qn hp k
 ·exact iL hβ (by decide) Nm Qm hp k
 ·exact iL hβ (by decide) Ge Ih hp k
 ·exact iL hβ (by decide) PU SJ hp k
 ·exact iL hβ (by decide) tP tV hp k
theorem gH {β:Nat→Bool} {d:Nat} (h:∀k,β (k+d)=β k):∀n k,β (k+d*n)=β k
 | 0,k=>by rw[Nat.mul_zero]; rfl
 | n+1,k=>by rw[Nat.mul_succ,←Nat.add_assoc,h,gH h n]
theorem ZD {β:Nat→Bool} (d e:Nat):(∀k,β (k+d)=β k)→(∀k,β (k+e)=β k)→∀k,β (k+Nat.gcd d e)=β k:=by
 induction d,e using Nat.gcd.induction with
 | H0 n=>intro _ h; rw[Nat.gcd_zero_left]; exact h
 | H1 m n hm ih =>
  intro h1 h2;rw[Nat.gcd_rec];refine ih (fun k => ?_) h1;have:=gH h1 (n/m) (k+n%m);rw[Nat.add_assoc,Nat.mod_add_div,h2]at this;exact this.symm
theorem ZC {β:Nat→Bool} (hβ:fO β) (hn:Lu β) {d:Nat} (h0:0<d) (hd:d<jS):¬ ∀k,β (k+d)=β k:=fun h=>by
 have hg:=ZD d jS h (QI hβ);have hgd:Nat.gcd d jS∣jS:=Nat.gcd_dvd_right d jS;have hle:Nat.gcd d jS≤d:=Nat.le_of_dvd h0 (Nat.gcd_dvd_left d jS);obtain⟨m,hm⟩:=hgd;have hgp:0<Nat.gcd d jS:=Nat.gcd_pos_of_pos_left _ h0;generalize Nat.gcd d jS=g at hg hle hm hgp;have hm1:1<m:=by
  rcases Nat.lt_or_ge 1 m with k|k
  ·exact k
  ·have:g*m≤g*1:=Nat.mul_le_mul_left g k;omega
 obtain⟨q,hq,c,hc⟩:=nO Lj m (by rw[RB]; exact⟨g,by rw[hm,Nat.mul_comm]⟩) hm1 IR;have hq0:0<q:=Nat.lt_trans Nat.zero_lt_one (IR q hq).1;have e:jS/q=g*c:=by rw[hm,hc,Nat.mul_comm q c,←Nat.mul_assoc,Nat.mul_div_cancel _ hq0]
 obtain⟨i,_,hi⟩:=hn 0;rw[Xu hβ q hq (by rw[e]; exact gH hg c) (0+i)]at hi;cases hi
theorem yF (w i:Nat):∀k,dN w (i+k)=dN (dN w i) k
 | 0=>rfl
 | k+1=>congrArg qJ (yF w i k)
theorem yN (w i k:Nat):dO w (i+k)=dO (dN w i) k:=congrArg (fun x=>x.testBit 0) (yF w i k)
theorem GR {w:Nat} (h:w<2^80) (h0:w≠0) {i j:Nat} (hi:i<jS) (hj:j<jS) (e:dN w i=dN w j):i=j:=by
 have go:∀{i j:Nat},i<j→j<jS→dN w i≠dN w j:=fun {i j} hij hj e=>by
  refine ZC (iT (iD h i)) (GZ (iD h i) (iC h0 i)) (d:=j-i) (by omega) (by omega) fun k => ?_
  rw[←yN,show i+(k+(j-i))=j+k by omega,yN,←e]
 rcases Nat.lt_trichotomy i j with k|k|k
 ·exact absurd e (go k hj)
 ·exact k
 ·exact absurd e.symm (go k hi)
theorem WE {w:Nat} (h:w<2^80) (h0:w≠0) {y:Nat} (hy:0<y) (hy2:y<2^80):∃i,i<jS∧dN w i=y:=by
 have e80:(2:Nat)^80=jS+1:=by decide
 have hinj:=fun i j hi hj e=>GR h h0 (i:=i) (j:=j) hi hj e
 have hlt:∀i,dN w i<jS+1:=fun i=>e80▸iD h i
 rw[e80]at hy2;generalize jS=jS at hinj hlt hy2 ⊢;obtain⟨i,hi,e⟩:=EI jS (fun i=>dN w i-1) (fun i _=>by
  have h1:=hlt i;have h2:=iC h0 i;show dN w i-1<jS;omega) (fun i j hi hj e=>by
  have e:dN w i-1=dN w j-1:=e;have h1:=iC h0 i;have h2:=iC h0 j;exact hinj i j hi hj (by omega)) (y-1) (by omega)
 refine⟨i,hi,?_⟩;have e:dN w i-1=y-1:=e;have h2:=iC h0 i;omega
def pA (p:Nat→Bool) (n:Nat):Nat:=(List.range n).countP p
theorem jD (p:Nat→Bool) (n:Nat):pA p (n+1)=pA p n+(p n).toNat:=by
 unfold pA;rw[List.range_succ,List.countP_append,List.countP_singleton];cases p n<;>rfl
theorem BS (p:Nat→Bool) (n:Nat):∀m,pA p (n+m)=pA p n+pA (fun i=>p (n+i)) m
 | 0=>rfl
 | m+1=>by rw[←Nat.add_assoc,jD,jD,BS p n m,Nat.add_assoc]
theorem vC {n:Nat} {σ:Nat→Nat} (h1:∀i,i<n→σ i<n) (h2:∀i j,i<n→j<n→σ i=σ j→i=j) (p:Nat→Bool):pA (fun i=>p (σ i)) n=pA p n:=by
 have hnd:((List.range n).map σ).Nodup:=by
  refine List.pairwise_map.2 (List.Pairwise.imp_of_mem (fun {a b} ha hb hab e => ?_) List.nodup_range);exact hab (h2 a b (List.mem_range.1 ha) (List.mem_range.1 hb) e)
 have hp:((List.range n).map σ).Perm (List.range n):=List.perm_iff_count.2 fun a=>by
  rw[hnd.count,List.nodup_range.count];have hm:a∈(List.range n).map σ↔a∈List.range n:=by
   rw[List.mem_map,List.mem_range];constructor
   ·rintro⟨i,hi,rfl⟩
    exact h1 i (List.mem_range.1 hi)
   ·intro ha;obtain⟨i,hi,e⟩:=EI n σ h1 h2 a ha;exact⟨i,List.mem_range.2 hi,e⟩
  by_cases h:a∈List.range n
  ·rw[if_pos h,if_pos (hm.2 h)]
  ·rw[if_neg h,if_neg fun q=>h (hm.1 q)]
 have e:=hp.countP_eq p;rw[List.countP_map]at e;exact e
theorem BR:∀h,pA (fun y=>(y+1)%2==1) (2*h+1)=h+1
 | 0=>rfl
 | h+1=>by
  rw[show 2*(h+1)+1=2*h+1+1+1 by omega,jD,jD,BR h];have e1:((2*h+1+1)%2==1)=false:=by rw[show (2*h+1+1)%2=0 by omega]; rfl
  have e2:((2*h+1+1+1)%2==1)=true:=by rw[show (2*h+1+1+1)%2=1 by omega]; rfl
  show h+1+((2*h+1+1)%2==1).toNat+((2*h+1+1+1)%2==1).toNat=_;rw[e1,e2]; rfl
def eG (β:Nat→Bool) (q k:Nat):Nat:=pA (fun i=>β (q+2*i)) k
theorem oA (β:Nat→Bool) (q k l:Nat):eG β q (k+l)=eG β q k+eG β (q+2*k) l:=by
 unfold eG;rw[BS];congr 2;funext i;congr 1; omega
theorem WN {N h q i j:Nat} (hN:N=2*h+1) (hi:i<N) (hj:j<N) (e:(q+2*i)%N=(q+2*j)%N):i=j:=by
 have go:∀{i j:Nat},i<j→j<N→(q+2*i)%N≠(q+2*j)%N:=fun {i j} hij hj e=>by
  have d1:=Nat.div_add_mod (q+2*i) N;have d2:=Nat.div_add_mod (q+2*j) N;have hle:(q+2*i)/N≤(q+2*j)/N:=Nat.div_le_div_right (by omega);obtain⟨c,hc⟩:=Nat.exists_eq_add_of_le hle;rw[hc,Nat.mul_add]at d2;rw[e]at d1;generalize N*((q+2*i)/N)=A at d1 d2;generalize (q+2*j)%N=r at d1 d2
  match c,d2 with
  | 0,d2=>rw[Nat.mul_zero]at d2; omega
  | 1,d2=>rw[Nat.mul_one]at d2; omega
  | c+2,d2 =>
   have:N*2≤N*(c+2):=Nat.mul_le_mul_left N (by omega);omega
 rcases Nat.lt_trichotomy i j with k|k|k
 ·exact absurd e (go k hj)
 ·exact k
 ·exact absurd e.symm (go k hi)
theorem UF {w N h q:Nat} (hN:N=2*h+1) (hinj:∀i j,i<N→j<N→dN w i=dN w j→i=j) (hle:∀i,dN w i≤N) (hne:∀i,dN w i≠0) (per:∀i,dO w (i+N)=dO w i):eG (dO w) q N=h+1:=by
 have hs:∀i,dO w i=dO w (i%N):=fun i=>by
  have:=gH per (i/N) (i%N);rw[Nat.mod_add_div]at this;exact this
 have h0:0<N:=by omega
 have a1:eG (dO w) q N=pA (dO w) N:=by
  have:=vC (n:=N) (σ:=fun i=>(q+2*i)%N) (fun i _=>Nat.mod_lt _ h0) (fun i j hi hj e=>WN hN hi hj e) (dO w);rw[←this];unfold eG;congr 1;funext i;exact hs _
 have a2:pA (dO w) N=pA (fun y=>(y+1)%2==1) N:=by
  have:=vC (n:=N) (σ:=fun i=>dN w i-1) (fun i _=>by
   have h1:=hle i;show dN w i-1<N;omega) (fun i j hi hj e=>by
   have e:dN w i-1=dN w j-1:=e;have h1:=hne i;have h2:=hne j;exact hinj i j hi hj (by omega)) (fun y=>(y+1)%2==1)
  rw[←this];congr 1;funext i;have h2:=hne i;show (dN w i).testBit 0=((dN w i-1+1)%2==1);rw[show dN w i-1+1=dN w i by omega,Nat.testBit_zero]
  rcases Nat.mod_two_eq_zero_or_one (dN w i)with k|k<;>rw[k]<;>rfl
 rw[a1,a2,hN,BR]
theorem IQ:jS=2*604462909807314587353087+1:=by decide
theorem Hz:(2:Nat)^80=jS+1:=by decide
theorem An:604462909807314587353087+1=2^79:=by decide
theorem Jp {w:Nat} (h:w<2^80) (h0:w≠0) (q:Nat):eG (dO w) q jS=2^79:=by
 rw[←An];exact UF IQ (fun i j hi hj e=>GR h h0 hi hj e) (fun i=>by
  have:=iD h i;rw[Hz]at this;exact Nat.le_of_lt_succ this) (iC h0) (QI (iT h))
theorem pB (β:Nat→Bool) (q k:Nat):eG β q (k+1)=eG β q k+(β (q+2*k)).toNat:=jD _ k
theorem MR (β:Nat→Bool) (q:Nat) {k l:Nat} (h:k≤l):eG β q k≤eG β q l:=by
 obtain⟨c,rfl⟩:=Nat.exists_eq_add_of_le h;rw[oA];exact Nat.le_add_right _ _
theorem vD {β:Nat→Bool} {q:Nat}:∀k,(∀i,i<k→β (q+2*i)=false)→eG β q k=0
 | 0,_=>rfl
 | k+1,h=>by
  rw[pB,vD k fun i hi=>h i (by omega),h k (by omega)];rfl
theorem vE {β:Nat→Bool} {q T K:Nat} (hT:β (q+2*T)=true) (hK:β (q+2*K)=true) (e:eG β q T=eG β q K):T=K:=by
 have go:∀{a b:Nat},a<b→β (q+2*a)=true→eG β q a≠eG β q b:=fun {a b} h ha e=>by
  have h1:=MR β q (show a+1≤b from h);rw[pB,ha]at h1;have:eG β q a+1≤eG β q b:=h1;omega
 rcases Nat.lt_trichotomy T K with k|k|k
 ·exact absurd e (go k hT)
 ·exact k
 ·exact absurd e.symm (go k hK)
theorem Giv.cn {β:Nat→Bool} {q L:Nat} {b:Bool} {q1:Nat} (h:Giv β (q+2*L) b q1):∃K,q1=q+2*(K+1)∧β (q+2*K)=true∧β (q+2*K+1)=b∧eG β q K=eG β q L∧eG β q (K+1)=eG β q L+1:=by
 obtain⟨k,h1,h2,h3,h4⟩:=h;have e:q+2*L+2*k=q+2*(L+k):=by omega
 rw[e]at h2 h3;have c0:eG β q (L+k)=eG β q L:=by rw[oA,vD k h4]; rfl
 refine⟨L+k,by omega,h2,h3,c0,?_⟩;rw[pB,c0,h2]; rfl
theorem RdB.cn {β:Nat→Bool} {q n x a v q':Nat} (h:RdB β n x a v q'):∀L,x=q+2*L→∃L',q'=q+2*L'∧eG β q L'=eG β q L+n:=by
 induction h with
 | nil x a=>intro L e; exact⟨L,e,rfl⟩
 | cons g r ih =>
  intro L e;rw[e]at g;obtain⟨K,h1,_,_,_,h5⟩:=g.cn;obtain⟨L',h6,h7⟩:=ih (K+1) h1;exact⟨L',h6,by omega⟩
theorem RdB.lt {β:Nat→Bool} {n q a v q':Nat} (h:RdB β n q a v q'):v<(a+1)*2^n:=by
 induction h with
 | nil q a=>rw[Nat.pow_zero]; omega
 | @cons n q a b q1 a' q' g r ih =>
  have hb:b.toNat≤1:=Bool.toNat_le b;have:(2*a+b.toNat+1)*2^n≤(2*(a+1))*2^n:=Nat.mul_le_mul_right _ (by omega);rw[Nat.pow_succ,Nat.mul_comm (2^n) 2,←Nat.mul_assoc,Nat.mul_comm (a+1) 2];omega
theorem Ew (c:Nat):∃j m,127*j=c+302231454903657293676544*m :=
 ⟨c/127+2379775235461868454146*((127-c%127)*64)+128-c%127,(127-c%127)*64,by omega⟩
theorem SP {w:Nat} (hw:w<2^80) (h0:w≠0) (q:Nat):∃T j,dO w (q+2*T)=true∧dO w (q+2*T+1)=false∧(eG (dO w) q T=254*j∨eG (dO w) q T=254*j+1):=by
 have hβ:=iT hw;obtain⟨i,hi,hwi⟩:=WE hw h0 (y:=1) (by decide) (by decide);have b0:dO w i=true:=by show (dN w i).testBit 0=true; rw[hwi]; rfl
 have b1:dO w (i+1)=false:=by rw[fJ hw i 1 (by decide),hwi]; rfl
 have per:=QI hβ;have cN:=Jp hw h0;have hodd:=IQ;generalize jS=N at per cN hodd hi;generalize hh:(604462909807314587353087:Nat)=h at hodd;have e2:(i+i%2)/2*2=i+i%2:=by omega
 obtain⟨t0,ht0⟩:∃t0,q+2*t0=i+N*(q+i%2):=⟨(i+i%2)/2+h*(q+i%2),by
  rw[hodd,Nat.add_mul,Nat.mul_assoc,Nat.one_mul];omega⟩
 have cM:∀m x,eG (dO w) x (N*m)=604462909807314587353088*m:=fun m=>by
  induction m with
  | zero=>intro x; rw[Nat.mul_zero]; rfl
  | succ m ih =>
   intro x;rw[Nat.mul_succ,oA,ih,cN,Nat.mul_succ]
 have cT:∀m,eG (dO w) q (t0+N*m)=eG (dO w) q t0+604462909807314587353088*m:=fun m=>by rw[oA,cM]
 have p0:∀m,dO w (q+2*(t0+N*m))=true:=fun m=>by
  rw[show q+2*(t0+N*m)=i+N*(q+i%2+2*m) by rw[Nat.mul_add N,←Nat.mul_assoc N 2 m,Nat.mul_comm N 2,Nat.mul_assoc]; omega,gH per,b0]
 have p1:∀m,dO w (q+2*(t0+N*m)+1)=false:=fun m=>by
  rw[show q+2*(t0+N*m)+1=i+1+N*(q+i%2+2*m) by rw[Nat.mul_add N,←Nat.mul_assoc N 2 m,Nat.mul_comm N 2,Nat.mul_assoc]; omega,gH per,b1]
 generalize eG (dO w) q t0=c at cT;obtain⟨j,m,hj⟩:=Ew (c/2);refine⟨t0+N*m,j,p0 m,p1 m,?_⟩;rw[cT];omega
theorem TZ {w:Nat} (hw:w<2^80) (h0:w≠0) {s:St} {q:Nat} (h:Pos (dO w) s q):∃n x t q',Ex.cst n s=some (x,t)∧Pos (dO w) t q':=by
 have hβ:=iT hw;have hn:=GZ hw h0;obtain⟨T,j,hT,hT1,hc⟩:=SP hw h0 q;have one:∀{s' t:St} {x:Nat},Ex.cand s'=some (x,t)→x<RM→Ex.cst 1 s'=some (x,t):=fun {s' t x} hx hl=>by
  unfold Ex.cst;rw[hx];show (bif Nat.blt x RM then some (x,t)else Ex.cst 0 t)=_;rw[show Nat.blt x RM=true from Nat.ble_eq_true_of_le hl];rfl
 have chain:∀J,(∃n x t q',Ex.cst n s=some (x,t)∧Pos (dO w) t q')∨∃s' L,Pos (dO w) s' (q+2*L)∧eG (dO w) q L=254*J∧∀n,Ex.cst (n+J) s=Ex.cst n s':=fun J=>by
  induction J with
  | zero=>exact Or.inr ⟨s,0,h,rfl,fun n=>rfl⟩
  | succ J ih =>
   rcases ih with ih|⟨s',L,hP,hL,hs⟩
   ·exact Or.inl ih
   ·obtain⟨x,t,_,hx,_⟩:=vH hβ hn hP;obtain⟨q',hr,hP'⟩:=hP.cand hβ hx
    by_cases hl:x<RM
    ·exact Or.inl ⟨1+J,x,t,q',by rw[hs,one hx hl],hP'⟩
    ·obtain⟨L',h1,h2⟩:=hr.cn (q:=q) L rfl;rw[h1]at hP';refine Or.inr ⟨t,L',hP',by omega,fun n => ?_⟩;rw[show n+(J+1)=n+1+J by omega,hs];show (match Ex.cand s' with|some (x,t)=>bif Nat.blt x RM then some (x,t)else Ex.cst n t|none=>none)=_;rw[hx];show (bif Nat.blt x RM then some (x,t)else Ex.cst n t)=_;rw[show Nat.blt x RM=false from Bool.eq_false_iff.2 fun k=>hl (Nat.le_of_ble_eq_true k)];rfl
 rcases chain j with hd|⟨s',L,hP,hL,hs⟩
 ·exact hd
 ·obtain⟨x,t,_,hx,_⟩:=vH hβ hn hP;obtain⟨q',hr,hP'⟩:=hP.cand hβ hx;refine⟨1+j,x,t,q',?_,hP'⟩;rw[hs];refine one hx ?_;have big:3*2^252<RM:=by decide
  cases hr with
  | @cons _ _ _ b q1 _ _ g r =>
   obtain⟨K,e1,e2,e3,e4,e5⟩:=g.cn
   rcases hc with hc|hc
   ·have hK:K=T:=vE e2 hT (by omega);rw[hK,hT1]at e3;subst e3;have hlt:=r.lt;have:(2*0+false.toNat+1)*2^253<3*2^252:=by decide
    exact Nat.lt_trans (Nat.lt_trans hlt this) big
   ·rw[e1]at r;cases r with
    | @cons _ _ _ b2 q2 _ _ g2 r2 =>
     obtain⟨K2,f1,f2,f3,f4,f5⟩:=g2.cn;have hK:K2=T:=vE f2 hT (by omega);rw[hK,hT1]at f3;subst f3;have hlt:=r2.lt;have hb:b.toNat≤1:=Bool.toNat_le b;have h3:(2*(2*0+b.toNat)+false.toNat+1)*2^252≤3*2^252:=Nat.mul_le_mul_right _ (by show 2*(2*0+b.toNat)+0+1≤3; omega);exact Nat.lt_trans (Nat.lt_of_lt_of_le hlt h3) big
theorem Ae (n c i:Nat):sC n c i≤1:=by unfold sC; omega
theorem Ag {s:St} (h:s.hi<2^16) (n c i:Nat) {p:Nat} (hp:p<80):(lay1 n c i p s).hi<2^16:=by
 unfold lay1
 by_cases e:p/64=0
 ·rw[if_pos e]; exact h
 ·rw[if_neg e];refine Nat.or_lt_two_pow h ?_;unfold kT;have h1:2^(p%64)≤2^15:=Nat.pow_le_pow_right (by decide) (by omega);have h2:sC n c i*2^(p%64)≤1*2^15:=Nat.mul_le_mul (Ae n c i) h1;exact Nat.lt_of_le_of_lt (Nat.mod_le _ _) (Nat.lt_of_le_of_lt h2 (by decide))
theorem iH (n c:Nat):∀(m i p:Nat) {s:St},s.hi<2^16→p+m≤80→(jY n c m i p s).hi<2^16
 | 0,_,_,_,h,_=>h
 | m+1,i,p,s,h,hp=>iH n c m (i+1) (p+1) (Ag h n c i (by omega)) (by omega)
theorem GD (wd fl pt:Nat):(NM wd fl pt).hi<2^16 :=
 iH _ _ _ _ _ (iH _ _ _ _ _ (iH _ _ _ _ _ (iH _ _ _ _ _ (iH _ _ _ _ _ (iH _ _ _ _ _ (iH _ _ _ _ _ (by decide) (by decide)) (by decide)) (by decide)) (by decide)) (by decide)) (by decide)) (by decide)
theorem Af (n c i p:Nat) (s:St):s.lo≤(lay1 n c i p s).lo:=by
 unfold lay1
 by_cases e:p/64=0
 ·rw[if_pos e]; exact Nat.left_le_or
 ·rw[if_neg e]; exact Nat.le_refl _
theorem JA (n c:Nat):∀(m i p:Nat) (s:St),s.lo≤(jY n c m i p s).lo
 | 0,_,_,s=>Nat.le_refl _
 | m+1,i,p,s=>Nat.le_trans (Af n c i p s) (JA n c m (i+1) (p+1) _)
theorem Kc (wd fl pt:Nat):0<(NM wd fl pt).lo:=by
 have go:∀s:St,0<(jY 1073741823 30 30 0 50 s).lo:=fun s=>by
  refine Nat.lt_of_lt_of_le ?_ (JA 1073741823 30 29 1 51 (lay1 1073741823 30 0 50 s));show 0<(lay1 1073741823 30 0 50 s).lo;have e:(lay1 1073741823 30 0 50 s).lo=s.lo ||| kT 1073741823 30 0 50:=rfl
  rw[e];exact Nat.lt_of_lt_of_le (show 0<kT 1073741823 30 0 50 by decide) Nat.right_le_or
 exact go _
theorem Ch (wd fl pt:Nat):Pos (dO (nJ (NM wd fl pt))) (CU wd fl pt) 240 :=
 have hl:(NM wd fl pt).lo<eH:=(xT wd fl pt).lo
 Pos.begin (iT (nI hl (GD wd fl pt))) (HoldsB.seed hl (GD wd fl pt)) (Kd wd fl pt)
theorem XJ (wd fl pt:Nat):nJ (NM wd fl pt)≠0:=by
 have:=Kc wd fl pt;unfold nJ;omega
theorem BP:∀(n:Nat) {s t:St} {x:Nat},cst n s=some (x,t)→cst (n+1) s=some (x,t)
 | 0,s,t,x,h=>by cases h
 | n+1,s,t,x,h=>by
  unfold cst at h ⊢;cases hc:cand s with
  | none=>rw[hc]at h; cases h
  | some y =>
   obtain⟨y,u⟩:=y;rw[hc]at h;simp only at h ⊢;cases hb:Nat.blt y RM<;>rw[hb]at h
   ·exact BP n h
   ·exact h
theorem UA {n m:Nat} (hm:n≤m) {s t:St} {x:Nat} (h:cst n s=some (x,t)):cst m s=some (x,t):=by
 induction hm with
 | refl=>exact h
 | step _ ih=>exact BP _ ih
theorem JV (wd fl pt:Nat):∀C,∃(F:Nat) (sq:Nat→St) (xs:Nat→Nat),sq 0=CU wd fl pt∧(∀i,i<C→cst F (sq i)=some (xs i,sq (i+1)))∧∃q,Pos (dO (nJ (NM wd fl pt))) (sq C) q
 | 0=>⟨0,fun _=>CU wd fl pt,fun _=>0,rfl,fun i hi=>absurd hi (Nat.not_lt_zero i),240,Ch wd fl pt⟩
 | C+1=>by
  obtain⟨F,sq,xs,h0,h1,q,hq⟩:=JV wd fl pt C;obtain⟨n,x,t,q',hc,hp⟩:=TZ (nI (xT wd fl pt).lo (GD wd fl pt)) (XJ wd fl pt) hq;refine⟨F+n,fun i=>if i≤C then sq i else t,fun i=>if i<C then xs i else x,?_,fun i hi => ?_,q',?_⟩
  ·show (if 0≤C then sq 0 else t)=_;rw[if_pos (Nat.zero_le C),h0]
  ·show cst (F+n) (if i≤C then sq i else t)=some ((if i<C then xs i else x),if i+1≤C then sq (i+1)else t);rw[if_pos (show i≤C by omega)]
   by_cases e:i<C
   ·rw[if_pos e,if_pos (show i+1≤C by omega)];exact UA (Nat.le_add_right F n) (h1 i e)
   ·obtain rfl:i=C:=by omega
    rw[if_neg (Nat.lt_irrefl i),if_neg (show ¬i+1≤i by omega)];exact UA (Nat.le_add_left n F) hc
  ·show Pos _ (if C+1≤C then sq (C+1)else t) q';rw[if_neg (show ¬C+1≤C by omega)];exact hp
def ME (k:Int):kE
 | [.v (.fl l)]=>some ([∀(args:List Value) (w:World),dV w [.v (.fl l)] args→bU prog 17 (.one (.im (.int .i64 k))) args w],.one (.im (.int .i64 k)))
 | _=>none
theorem qD (k:Int):∀cs pre r,ME k cs=some (pre,r)→aW pre→∀(args:List Value) (w:World),dV w cs args→bU prog 17 r args w:=by
 intro cs pre r hg hp args w ha;unfold ME at hg;split at hg
 ·cases hg;exact hp.1 args w ha
 ·cases hg
def Rp (v:Value):kE
 | [.v (.im u)]=>some ([u=v],.one (.im (.bool false)))
 | _=>none
def Ug (k:Int):Tab:=T0.add 17 (ME k)
theorem pF (k:Int):TabOk prog (Ug k):=(bH _).add func17 (by kernel_rfl) (by kernel_rfl) (qD k)
def TpF (v:Value):Tab:=(Ug 0).add 18 (Rp v)
theorem GL {w0:World} {v:Value} {N:Nat} {f:Nat→Nat} (hv:LV w0 v N f) (hf:¬gY N f) (hN:N≤65536):TabOkW prog (TpF v) w0.heap.size w0 :=
 TabOkW.add ((pF 0).w _ _) func18 (by kernel_rfl) (by kernel_rfl) (fun w hw cs pre r hg hp args ha=>by
  unfold Rp at hg;split at hg
  ·cases hg
   match args,ha with
   | [u],ha =>
    have e:u=_:=ha.1;rw[hp.1]at e;subst e;have:=mE (hv.on hw) (by omega);rw[decide_eq_false hf]at this;exact this
   | [],ha=>exact ha.elim
   | _::_::_,ha=>exact ha.2.elim
  ·cases hg)
def FZ (a b c:Int) (k:Int):Prop:=∀(args:List Value) (w:World),dV w [.v (.fl (rZ a b c))] args→bU prog 17 (.one (.im (.int .i64 k))) args w
theorem Dg (a b c:Int) (v:Value):eM prog (qG prog) (fun _=>tC (Ug 91) (fun _=>none)) f7 60 [.v (.fl (rZ a b c)),.v (.im v)]=some ([FZ a b c 91],.many [.im (.slice none 0 0),.im (.int .i64 91)]):=by kernel_rfl
theorem Df (a b c:Int) (p:Option Addr) (n m:Nat):eM prog (qG prog) (fun _=>tC (Ug 0) (aD [(16,.bool true)])) f7 60 [.v (.fl (rZ a b c)),.v (.im (.slice p n m))]=some ([FZ a b c 0,aF .neq .i64 (Int.ofNat n) a=some (.bool true)],.many [.im (.slice none 0 0),.im (.int .i64 3)]):=by kernel_rfl
theorem De (a b c:Int) (p:Option Addr) (n m:Nat):eM prog (qG prog) (fun _=>tC (TpF (.slice p n m)) (aD [(16,.bool false)])) f7 60 [.v (.fl (rZ a b c)),.v (.im (.slice p n m))]=some ([FZ a b c 0,aF .neq .i64 (Int.ofNat n) a=some (.bool false),Value.slice p n m=.slice p n m],.many [.im (.slice none 0 0),.im (.int .i64 21)]):=by kernel_rfl
def VO (a b c:Int) (v:Value) (w:World):Prop:=∃k:Int,k≠0∧bU prog 7 (.many [.im (.slice none 0 0),.im (.int .i64 k)]) [.agg (aB (rZ a b c)).toArray,v] w
theorem Gx (a b c:Int) (p:Option Addr) (n m:Nat) (w:World):VO a b c (.slice p n m) w∨∃wd fl pt:Nat,a=wd∧b=fl∧c=pt∧RdOk wd fl pt∧n=wd∧∀f,LV w (.slice p n m) n f→¬gY n f→VO a b c (.slice p n m) w:=by
 rcases oB a b c with⟨wd,fl,pt,ea,eb,ec,hr⟩|hb
 ·have hck:FZ a b c 0:=fun args w ha=>by
   rw[ea,eb,ec]at ha;exact gJ hr args w ha
  by_cases hn:n=wd
  ·refine Or.inr ⟨wd,fl,pt,ea,eb,ec,hr,hn,fun f hv hf=>⟨21,by decide,?_⟩⟩;have hw8:=hr.w8;exact aV aH (fun _ _=>GL hv hf (by omega)) ((bM _).w _ _) func7 (De a b c p n m) ⟨hck,by
    show some (Value.bool (Int.ofNat n != a))=_;rw[ea,hn,show (Int.ofNat wd != (wd:Int))=false from bne_self_eq_false _],rfl,trivial⟩ (args:=[.agg (aB (rZ a b c)).toArray,.slice p n m]) ⟨rfl,rfl,trivial⟩
  ·refine Or.inl ⟨3,by decide,?_⟩;exact aV aH (fun _ _=>(pF 0).w _ _) ((bM _).w _ _) func7 (Df a b c p n m) ⟨hck,by
    show some (Value.bool (Int.ofNat n != a))=_;rw[ea,bne_iff_ne.2 (show Int.ofNat n≠(wd:Int)from fun e=>hn (Int.ofNat.inj e))],trivial⟩ (args:=[.agg (aB (rZ a b c)).toArray,.slice p n m]) ⟨rfl,rfl,trivial⟩
 ·exact Or.inl ⟨91,by decide,aV aH (fun _ _=>(pF 91).w _ _) ((bM _).w _ _) func7 (Dg a b c (.slice p n m)) ⟨hb,trivial⟩ (args:=[.agg (aB (rZ a b c)).toArray,.slice p n m]) ⟨rfl,rfl,trivial⟩⟩
def PrF (w0:World) (n:Nat) (g:Nat→Nat) (e:Int) (en:Ending) (w':World):Prop:=∃p m,en=.returned (.tuple #[.slice p n m,.int .i64 e])∧Below w0.heap.size w0 w'∧n≤m∧(∀j,j<n→g j<cU)∧(p=none→m=0)∧(0<n→∃b,p=some ⟨b,0,none⟩∧w0.heap.size≤b∧Own w' b (aG (el g) 0 n))
def FrL (w0 w:World) (v:Value) (n:Nat) (g:Nat→Nat):Prop:=∃p m,v=.slice p n m∧n≤m∧(∀j,j<n→g j<cU)∧(p=none→m=0)∧(0<n→∃b,p=some ⟨b,0,none⟩∧w0.heap.size≤b∧Own w b (aG (el g) 0 n))
theorem PrF.fr {w0:World} {n:Nat} {g:Nat→Nat} {e:Int} {en:Ending} {w':World} (h:PrF w0 n g e en w'):∃v,en=.returned (.tuple #[v,.int .i64 e])∧Below w0.heap.size w0 w'∧FrL w0 w' v n g:=by
 obtain⟨p,m,h1,h2,h3,h4,h5,h6⟩:=h;exact⟨_,h1,h2,p,m,rfl,h3,h4,h5,h6⟩
theorem FrL.lv {w0 w:World} {v:Value} {n:Nat} {g:Nat→Nat} (h:FrL w0 w v n g):LV w v n g:=by
 obtain⟨p,m,h1,h2,h3,h4,h5⟩:=h;refine⟨p,m,h1,h2,h3,fun h0 => ?_⟩;obtain⟨b,e,_,ho⟩:=h5 h0;exact⟨b,0,e,ho.lt,ho.row⟩
theorem FrL.on {w0 w w2:World} {v:Value} {n:Nat} {g:Nat→Nat} (h:FrL w0 w v n g) (hb:Below w.heap.size w w2):FrL w0 w2 v n g:=by
 obtain⟨p,m,h1,h2,h3,h4,h5⟩:=h;refine⟨p,m,h1,h2,h3,h4,fun h0 => ?_⟩;obtain⟨b,e,hl,ho⟩:=h5 h0;exact⟨b,e,hl,ho.on hb⟩
theorem PrF.nil {w0:World} {e:Int} {en:Ending} {w':World} (h:en=.returned (RV.den (.many [.im (.slice none 0 0),.im (.int .i64 e)]))∧Below w0.heap.size w0 w'):PrF w0 0 (fun _=>0) e en w' :=
 ⟨none,0,h.1,h.2,Nat.le_refl _,fun j h=>absurd h (Nat.not_lt_zero j),fun _=>rfl,fun h=>absurd h (Nat.lt_irrefl 0)⟩
def tY (wd fl pt:Nat) (xs:Nat→Nat):Prop:=∃(fu:Nat) (sq:Nat→St),sq 0=CU wd fl pt∧∀i,i<wd*(fl+pt)→cst fu (sq i)=some (xs i,sq (i+1))
theorem JX (wd fl pt:Nat):∃xs,tY wd fl pt xs:=by
 obtain⟨F,sq,xs,h0,h1,_⟩:=JV wd fl pt (wd*(fl+pt));exact⟨xs,F,sq,h0,h1⟩
def Ul (wd fl pt:Nat) (v:Value) (f:Nat→Nat) (w:World):Prop:=∀xs,tY wd fl pt xs→Calls prog 7 [.agg (aB (rZ wd fl pt)).toArray,v].toArray w (PrF w wd (bO xs wd fl pt (fl+pt) f) 0)
theorem QK {w:World} {wd fl pt N:Nat} {v:Value} {f:Nat→Nat} (hr:RdOk wd fl pt) (hv:LV w v N f) (hN:N=wd) (hf:gY N f) (hD:Dbj w):Ul wd fl pt v f w:=by
 subst hN;intro xs ⟨fu,sq,h0,hx⟩;obtain⟨p,m,rfl,hm,h256,hmem⟩:=id hv;obtain⟨b,o,rfl,_,_⟩:=hmem (by have:=hr.w2; omega);refine (QL hr hv hf h0 hx hD).mono ?_
 rintro e w' ⟨d,c,rfl,hc,hb,hge,ho⟩
 exact⟨_,c,rfl,hb,hc,fun j hj=>dP (lT (xs:=xs) (fl:=fl) (pt:=pt) hf _ j hj),⟨(fun h=>nomatch h),(fun _=>⟨d,rfl,hge,ho⟩)⟩⟩
theorem Oo {w:World} {v:Value} {N:Nat} {f:Nat→Nat} (a b c:Int) (hv:LV w v N f) (hD:Dbj w):(∃k:Int,k≠0∧Calls prog 7 [.agg (aB (rZ a b c)).toArray,v].toArray w (PrF w 0 (fun _=>0) k)) ∨
  ∃wd fl pt:Nat,a=wd∧b=fl∧c=pt∧RdOk wd fl pt∧N=wd∧gY N f∧Ul wd fl pt v f w:=by
 obtain⟨p,m,rfl,_⟩:=id hv;have bad:VO a b c (.slice p N m) w→∃k:Int,k≠0∧Calls prog 7 [.agg (aB (rZ a b c)).toArray,.slice p N m].toArray w (PrF w 0 (fun _=>0) k):=fun⟨k,hk,h⟩=>⟨k,hk,Calls.mono h fun e w' q=>PrF.nil q⟩
 rcases Gx a b c p N m w with h|⟨wd,fl,pt,ea,eb,ec,hr,hn,h⟩
 ·exact Or.inl (bad h)
 ·by_cases hf:gY N f
  ·exact Or.inr ⟨wd,fl,pt,ea,eb,ec,hr,hn,hf,QK hr hv hn hf hD⟩
  ·exact Or.inl (bad (h f hv hf))
theorem Fy:1<RM:=by decide
def KR:CR (Fin RM):=Zb RM Fy
def DD (x:Nat):Fin RM:=⟨x%RM,Nat.mod_lt _ fQ⟩
theorem WR (x y:Nat):DD (jW x y)=KR.add (DD x) (DD y):=Fin.ext (by
 show (x+y)%RM%RM=(x%RM+y%RM)%RM;rw[Nat.mod_mod,Nat.add_mod])
theorem WP (x y:Nat):DD (jV x y)=KR.mul (DD x) (DD y):=Fin.ext (by
 show x*y%RM%RM=(x%RM)*(y%RM)%RM;rw[Nat.mod_mod,Nat.mul_mod])
theorem GW {x:Nat} (h:x<RM):(DD x).1=x:=Nat.mod_eq_of_lt h
theorem WQ {x y:Nat} (hx:x<RM) (hy:y<RM) (h:DD x=DD y):x=y:=by
 have:=congrArg Fin.val h
 rwa [GW hx,GW hy]at this
inductive RE|v (i:Nat)|add (a b:RE)|mul (a b:RE)|neg (a:RE)|zero|one
instance:Add RE:=⟨.add⟩
instance:Mul RE:=⟨.mul⟩
instance:Neg RE:=⟨.neg⟩
instance:Sub RE:=⟨fun a b=>.add a (.neg b)⟩
abbrev Z0:RE:=.v 0
abbrev Z1:RE:=.v 1
abbrev Z2:RE:=.v 2
abbrev Z3:RE:=.v 3
abbrev Z4:RE:=.v 4
abbrev Z5:RE:=.v 5
abbrev Z6:RE:=.v 6
abbrev Z7:RE:=.v 7
abbrev Z8:RE:=.v 8
abbrev Z9:RE:=.v 9
abbrev Z10:RE:=.v 10
abbrev Z11:RE:=.v 11
section
variable {R:Type} (K:CR R) (env:Nat→R)
def RE.den:RE→R
 | .v i=>env i
 | .add a b=>K.add (a.den) (b.den)
 | .mul a b=>K.mul (a.den) (b.den)
 | .neg a=>K.neg a.den
 | .zero=>K.zero
 | .one=>K.one
def nt (x:R):Nat→R
 | 0=>K.zero
 | n+1=>K.add (nt x n) x
def zt (x:R):Int→R
 | .ofNat n=>nt K x n
 | .negSucc n=>K.neg (nt K x (n+1))
def mono:List Nat→R
 | []=>K.one
 | i::r=>K.mul (env i) (mono r)
def gD:List (Int×List Nat)→R
 | []=>K.zero
 | (c,m)::r=>K.add (zt K (mono K env m) c) (gD r)
end
def Yi:List Nat→List Nat→Bool
 | [],[]=>false
 | [],_::_=>true
 | _::_,[]=>false
 | a::r,b::s=>bif Nat.blt a b then true else bif Nat.blt b a then false else Yi r s
def Rt:List Nat→List Nat→Bool
 | [],[]=>true
 | a::r,b::s=>bif Nat.beq a b then Rt r s else false
 | _,_=>false
theorem TN:∀{a b:List Nat},Rt a b=true→a=b
 | [],[],_=>rfl
 | a::r,b::s,h=>by
  unfold Rt at h;cases hb:Nat.beq a b<;>rw[hb]at h
  ·cases h
  ·rw[Nat.eq_of_beq_eq_true hb,TN h]
 | [],_::_,h=>by cases h
 | _::_,[],h=>by cases h
def Dn (c:Int) (m:List Nat):List (Int×List Nat)→List (Int×List Nat)
 | []=>[(c,m)]
 | (d,k)::r=>bif Rt m k then (c+d,k)::r else bif Yi m k then (c,m)::(d,k)::r else (d,k)::Dn c m r
def EM:List (Int×List Nat)→List (Int×List Nat)→List (Int×List Nat)
 | [],q=>q
 | (c,m)::r,q=>Dn c m (EM r q)
def LX (i:Nat):List Nat→List Nat
 | []=>[i]
 | j::r=>bif Nat.ble i j then i::j::r else j::LX i r
def RH:List Nat→List Nat→List Nat
 | [],m=>m
 | i::r,m=>LX i (RH r m)
def AB (c:Int) (m:List Nat):List (Int×List Nat)→List (Int×List Nat)
 | []=>[]
 | (d,k)::r=>Dn (c*d) (RH m k) (AB c m r)
def QG:List (Int×List Nat)→List (Int×List Nat)→List (Int×List Nat)
 | [],_=>[]
 | (c,m)::r,q=>EM (AB c m q) (QG r q)
def QF:List (Int×List Nat)→List (Int×List Nat)
 | []=>[]
 | (c,m)::r=>(-c,m)::QF r
def RE.norm:RE→List (Int×List Nat)
 | .v i=>[(1,[i])]
 | .add a b=>EM a.norm b.norm
 | .mul a b=>QG a.norm b.norm
 | .neg a=>QF a.norm
 | .zero=>[]
 | .one=>[(1,[])]
def Yo:List (Int×List Nat)→Bool
 | []=>true
 | (.ofNat 0,_)::r=>Yo r
 | _=>false
section
variable {R:Type} (K:CR R) (env:Nat→R)
theorem oT (x:R) (n:Nat):∀m,nt K x (n+m)=K.add (nt K x n) (nt K x m)
 | 0=>(K.add_zero _).symm
 | m+1=>by show K.add (nt K x (n+m)) x=_; rw[oT x n m,K.add_assoc]; rfl
theorem RG:K.neg K.zero=K.zero:=by
 apply K.add_cancel (a:=K.zero);rw[K.add_neg,K.add_zero]
theorem NQ (x:R) (n m:Nat):zt K x (Int.subNatNat n m)=K.add (nt K x n) (K.neg (nt K x m)):=by
 unfold Int.subNatNat;split
 ·rename_i h;have:n=m+(n-m):=by omega
  show nt K x (n-m)=_
  conv=>rhs; rw[this,oT]
  rw[K.add_comm (nt K x m),K.add_assoc,K.add_neg,K.add_zero]
 ·rename_i k h;have:m=n+(k+1):=by omega
  show K.neg (nt K x (k+1))=K.add (nt K x n) (K.neg (nt K x m));rw[this,oT K x n (k+1),K.neg_add' (nt K x n),←K.add_assoc,K.add_neg,K.zero_add]
theorem NR (x:R) (a b:Int):zt K x (a+b)=K.add (zt K x a) (zt K x b):=by
 cases a with
 | ofNat n =>
  cases b with
  | ofNat m=>exact oT K x n m
  | negSucc m=>exact NQ K x n (m+1)
 | negSucc n =>
  cases b with
  | ofNat m=>show zt K x (Int.subNatNat m (n+1))=_; rw[NQ,K.add_comm]; rfl
  | negSucc m =>
   show K.neg (nt K x (n+m+1+1))=K.add (K.neg (nt K x (n+1))) (K.neg (nt K x (m+1)));rw[←K.neg_add',←oT,show n+1+(m+1)=n+m+1+1 by omega]
theorem mM (x:R) (a:Int):zt K x (-a)=K.neg (zt K x a):=by
 apply K.add_cancel (a:=zt K x a);rw[←NR,K.add_neg,Int.add_right_neg];rfl
theorem ER (x y:R) (n:Nat):∀m,K.mul (nt K x n) (nt K y m)=nt K (K.mul x y) (n*m)
 | 0=>K.mul_zero _
 | m+1=>by
  show K.mul _ (K.add (nt K y m) y)=_;rw[K.mul_add,ER x y n m,Nat.mul_add,Nat.mul_one,oT];congr 1;clear ER
  induction n with
  | zero=>exact K.zero_mul _
  | succ n ih=>show K.mul (K.add (nt K x n) x) y=_; rw[K.add_mul,ih]; rfl
theorem Dy (x y:R) (a b:Int):K.mul (zt K x a) (zt K y b)=zt K (K.mul x y) (a*b):=by
 have hn:∀(c:Int),∃n:Nat,c=n∨c = -(n:Int):=fun c=>⟨c.natAbs,Int.natAbs_eq c⟩
 have h0:∀n m:Nat,K.mul (zt K x n) (zt K y m)=zt K (K.mul x y) ((n:Int)*m):=fun n m=>by
  rw[←Int.natCast_mul]; exact ER K x y n m
 obtain⟨n,rfl|rfl⟩:=hn a
 ·obtain⟨m,rfl|rfl⟩:=hn b
  ·exact h0 n m
  ·rw[mM,K.mul_neg,h0,Int.mul_neg,mM]
 ·obtain⟨m,rfl|rfl⟩:=hn b
  ·rw[mM,K.neg_mul,h0,Int.neg_mul,mM]
  ·rw[mM,mM,K.neg_mul,K.mul_neg,K.neg_neg,h0,Int.neg_mul_neg]
theorem xF (c:Int) (m:List Nat):∀q,gD K env (Dn c m q)=K.add (zt K (mono K env m) c) (gD K env q)
 | []=>rfl
 | (d,k)::r=>by
  unfold Dn;cases he:Rt m k
  ·cases hl:Yi m k
   ·show K.add (zt K (mono K env k) d) (gD K env (Dn c m r))=K.add _ (K.add _ _);rw[xF c m r,K.add_left_comm]
   ·rfl
  ·rw[TN he];show K.add (zt K (mono K env k) (c+d)) (gD K env r)=K.add _ (K.add _ _);rw[NR,K.add_assoc]
theorem rT:∀p q,gD K env (EM p q)=K.add (gD K env p) (gD K env q)
 | [],q=>(K.zero_add _).symm
 | (c,m)::r,q=>by
  show gD K env (Dn c m (EM r q))=K.add (K.add _ _) _;rw[xF,rT r q,K.add_assoc]
theorem BB (i:Nat):∀m,mono K env (LX i m)=K.mul (env i) (mono K env m)
 | []=>rfl
 | j::r=>by
  unfold LX;cases Nat.ble i j
  ·show K.mul (env j) (mono K env (LX i r))=K.mul _ (K.mul _ _);rw[BB i r,K.mul_left_comm]
  ·rfl
theorem AS:∀m k,mono K env (RH m k)=K.mul (mono K env m) (mono K env k)
 | [],k=>(K.one_mul _).symm
 | i::r,k=>by
  show mono K env (LX i (RH r k))=K.mul (K.mul _ _) _;rw[BB,AS r k,K.mul_assoc]
theorem uN (c:Int) (m:List Nat):∀q,gD K env (AB c m q)=K.mul (zt K (mono K env m) c) (gD K env q)
 | []=>(K.mul_zero _).symm
 | (d,k)::r=>by
  show gD K env (Dn (c*d) (RH m k) (AB c m r))=K.mul _ (K.add _ _);rw[xF,uN c m r,K.mul_add,AS,Dy]
theorem AA:∀p q,gD K env (QG p q)=K.mul (gD K env p) (gD K env q)
 | [],q=>(K.zero_mul _).symm
 | (c,m)::r,q=>by
  show gD K env (EM (AB c m q) (QG r q))=K.mul (K.add _ _) _;rw[rT,uN,AA r q,K.add_mul]
theorem zZ:∀p,gD K env (QF p)=K.neg (gD K env p)
 | []=>(RG K).symm
 | (c,m)::r=>by
  show K.add (zt K (mono K env m) (-c)) (gD K env (QF r))=K.neg (K.add _ _);rw[zZ r,K.neg_add',mM]
theorem iW:∀e:RE,gD K env e.norm=e.den K env
 | .v i=>by show K.add (K.add K.zero (K.mul (env i) K.one)) K.zero=env i; rw[K.add_zero,K.zero_add,K.mul_one]
 | .add a b=>by show gD K env (EM _ _)=K.add _ _; rw[rT,iW a,iW b]
 | .mul a b=>by show gD K env (QG _ _)=K.mul _ _; rw[AA,iW a,iW b]
 | .neg a=>by show gD K env (QF _)=K.neg _; rw[zZ,iW a]
 | .zero=>rfl
 | .one=>by show K.add (K.add K.zero K.one) K.zero=K.one; rw[K.add_zero,K.zero_add]
theorem JE:∀p,Yo p=true→gD K env p=K.zero
 | [],_=>rfl
 | (.ofNat 0,m)::r,h=>by
  show K.add K.zero (gD K env r)=_;rw[K.zero_add];exact JE r h
 | (.ofNat (_+1),_)::_,h=>by cases h
 | (.negSucc _,_)::_,h=>by cases h
theorem XY (a b:RE) (h:Yo (RE.norm (.add a (.neg b)))=true):a.den K env=b.den K env:=by
 have:=JE K env _ h;rw[iW]at this;have h2:K.add (K.add (a.den K env) (K.neg (b.den K env))) (b.den K env)=K.add K.zero (b.den K env):=congrArg (fun x=>K.add x (b.den K env)) this
 rwa [K.add_assoc,K.neg_add,K.add_zero,K.zero_add]at h2
end
def Zd {R:Type} (K:CR R) (l:List R) (i:Nat):R:=(l[i]?).getD K.zero
structure FD {R:Type} (K:CR R) (inv:R→R):Prop where
 ne:K.one≠K.zero
 inv:∀x,x≠K.zero→K.mul x (inv x)=K.one
section
variable {R:Type} {K:CR R} {inv:R→R}
theorem FD.zd (h:FD K inv) {a b:R} (e:K.mul a b=K.zero) (ha:a≠K.zero):b=K.zero:=by
 have:=congrArg (K.mul (inv a)) e
 rwa [←K.mul_assoc,K.mul_comm (inv a),h.inv a ha,K.one_mul,K.mul_zero]at this
theorem FD.mul_ne (h:FD K inv) {a b:R} (ha:a≠K.zero) (hb:b≠K.zero):K.mul a b≠K.zero:=fun e=>hb (h.zd e ha)
end
section
variable {R:Type} (K:CR R)
def Pol:Type:={f:Nat→R // ∃n,∀i,n≤i→f i=K.zero}
variable {K}
theorem Pol.ext {f g:Pol K} (h:∀n,f.1 n=g.1 n):f=g:=Subtype.ext (funext h)
variable {inv:R→R}
end
end Go.Proofs.YtpbljiejmfahcaaDoor.Ex
