/- Jj11 -/
import Derived.ProofKit
import Derived.LaidMore
import Derived.OpenShut
import Derived.Stop.Joined
import Derived.Carry
import Derived.RowKit
import Derived.ChangeSame
import Derived.JoinedOf
import Derived.JoinedAt
import Derived.Laws.IdiomArrays
import Derived.Deep.Strs
import Derived.Test.YtjeplinbleofnaaJj07
import Derived.Test.YtjeplinbleofnaaJj09
import Derived.Test.YtjeplinbleofnaaJj10
import Derived.Test.YtjeplinbleofnaaRows
import Derived.Test.YtjeplinbleofnaaJj05
import Derived.Test.YtjeplinbleofnaaJj04
import Derived.Test.YtjeplinbleofnaaJj06
import Derived.Test.YtjeplinbleofnaaProg
set_option maxRecDepth 100000
set_option linter.unusedVariables false
set_option linter.unusedSimpArgs false
set_option linter.unnecessarySimpa false
noncomputable section
namespace Go.Proofs.Ytjeplinbleofnaa.Ex
open Go.Proofs.Try
open Go.RowKit
def YO (b:Bool):kH:=Bj (fun _=>.one (.im (.bool b))) fun x=>[x<aC,decide (x<RM)=b]
theorem ZH (b:Bool):∀cs pre r,YO b cs=some (pre,r)→aU pre→∀(args:List Value) (w:World),cE w cs args→bC prog 40 r args w :=
 KD (op:=fun _=>.one (.im (.bool b))) (c:=fun x=>[x<aC,decide (x<RM)=b]) fun x h w=>by
  have h':=TE x ⟨h.1,trivial⟩ w;unfold YP at h';rw[h.2.1]at h';exact h'
def xP:Tab:=((((T0.add 75 (YN dM uH)).add 66 (YN eO uH)).add 74 (YN aJ uH)).add 65 (Bj (fun x=>.many [.fl [.q (QZ x)],.im (.int .i64 0)]) fun x=>[x<RM,x≠0]))
theorem tI:TabOk prog (xP):=(((((sL _).ad func75 (zQ TG)).ad func66 (zQ TB)).ad func74 (zQ TC)).ad func65 (KD TD))
theorem SV (x y:Nat):jP prog xP (qG prog) (fun _=>true) f42 40 [.v (.fl [.q x]),.v (.fl [.q y])]=some ([x<RM,y<RM],.one (.fl [.q (dM x y)])):=by kernel_rfl
theorem ST (x y:Nat):jP prog xP (qG prog) (fun _=>true) f37 40 [.v (.fl [.q x]),.v (.fl [.q y])]=some ([x<RM,y<RM],.one (.fl [.q (eO x y)])):=by kernel_rfl
theorem SU (x y:Nat):jP prog xP (qG prog) (fun _=>true) f41 40 [.v (.fl [.q x]),.v (.fl [.q y])]=some ([x<RM,y<RM],.one (.fl [.q (aJ x y)])):=by kernel_rfl
def qM:Tab:=(((xP.add 42 (PM dM uH)).add 37 (PM eO uH)).add 41 (PM aJ uH))
theorem nA:TabOk prog (qM):=(((tI.ad func42 (lE (op:=dM) (c:=uH) fun x y h args w ha=>bK aZ tI (aS _) func42 (SV x y) h ha)).ad func37 (lE (op:=eO) (c:=uH) fun x y h args w ha=>bK aZ tI (aS _) func37 (ST x y) h ha)).ad func41 (lE (op:=aJ) (c:=uH) fun x y h args w ha=>bK aZ tI (aS _) func41 (SU x y) h ha))
def LY (b:Bool):Tab:=(qM.add 40 (YO b))
theorem BK (b:Bool):TabOk prog (LY b):=(nA.ad func40 (ZH b))
theorem XC (p:NP):bM prog (qG prog) (fun n=>⟨fun _=>LY true,fun _=>true,fun _=>none⟩) f14 60 [.v (.fl [.q p.1,.q p.2])]=some ([p.1<aC,decide (p.1<RM)=true,p.2<aC,decide (p.2<RM)=true,p.1<RM,p.1<RM,p.2<RM,p.2<RM,168700<RM,aJ p.1 p.1<RM,aJ 168700 (aJ p.1 p.1)<RM,aJ p.2 p.2<RM,aJ p.1 p.1<RM,aJ p.2 p.2<RM,168696<RM,aJ (aJ p.1 p.1) (aJ p.2 p.2)<RM,1<RM,aJ 168696 (aJ (aJ p.1 p.1) (aJ p.2 p.2))<RM,aB [At.q (dM (aJ 168700 (aJ p.1 p.1)) (aJ p.2 p.2))]=aB [At.q (dM 1 (aJ 168696 (aJ (aJ p.1 p.1) (aJ p.2 p.2))))]],.one (.im (.bool true))):=by kernel_rfl
theorem XD (p:NP):bM prog (qG prog) (fun n=>⟨fun _=>LY true,fun _=>false,fun _=>none⟩) f14 60 [.v (.fl [.q p.1,.q p.2])]=some ([p.1<aC,decide (p.1<RM)=true,p.2<aC,decide (p.2<RM)=true,p.1<RM,p.1<RM,p.2<RM,p.2<RM,168700<RM,aJ p.1 p.1<RM,aJ 168700 (aJ p.1 p.1)<RM,aJ p.2 p.2<RM,aJ p.1 p.1<RM,aJ p.2 p.2<RM,168696<RM,aJ (aJ p.1 p.1) (aJ p.2 p.2)<RM,1<RM,aJ 168696 (aJ (aJ p.1 p.1) (aJ p.2 p.2))<RM,aB [At.q (dM (aJ 168700 (aJ p.1 p.1)) (aJ p.2 p.2))]≠aB [At.q (dM 1 (aJ 168696 (aJ (aJ p.1 p.1) (aJ p.2 p.2))))]],.one (.im (.bool false))):=by kernel_rfl
theorem XE (p:NP):bM prog (qG prog) (fun n=>⟨fun s=>LY (Nat.beq s 7),fun _=>true,fun _=>none⟩) f14 60 [.v (.fl [.q p.1,.q p.2])]=some ([p.1<aC,decide (p.1<RM)=true,p.2<aC,decide (p.2<RM)=false],.one (.im (.bool false))):=by kernel_rfl
theorem XF (p:NP):bM prog (qG prog) (fun n=>⟨fun s=>LY false,fun _=>true,fun _=>none⟩) f14 60 [.v (.fl [.q p.1,.q p.2])]=some ([p.1<aC,decide (p.1<RM)=false],.one (.im (.bool false))):=by kernel_rfl
theorem mR (p:NP) (hp:w2 p) (args:List Value) (w:World) (ha:cE w [.v (.fl (q2 p))] args):bC prog 14 (.one (.im (.bool (bG p.1 p.2)))) args w:=by
 by_cases h1:p.1<RM
 ·by_cases h2:p.2<RM
  ·by_cases h:rO p.1 p.2
   ·rw[wH ⟨⟨h1,h2⟩,h⟩];exact aF aZ (fun _ _=>BK _) (aS _) func14 (XC p) ⟨hp.1,decide_eq_true h1,hp.2,decide_eq_true h2,h1,h1,h2,h2,by decide,aD _ _,aD _ _,aD _ _,aD _ _,aD _ _,by decide,aD _ _,cI,aD _ _,by unfold rO at h; rw[h],trivial⟩ ha
   ·rw[show bG p.1 p.2=false from decide_eq_false fun q=>h q.2];exact aF aZ (fun _ _=>BK _) (aS _) func14 (XD p) ⟨hp.1,decide_eq_true h1,hp.2,decide_eq_true h2,h1,h1,h2,h2,by decide,aD _ _,aD _ _,aD _ _,aD _ _,aD _ _,by decide,aD _ _,cI,aD _ _,fun e=>h (WC (bP _ _) (bP _ _) e),trivial⟩ ha
  ·rw[show bG p.1 p.2=false from decide_eq_false fun q=>h2 q.1.2];exact aF aZ (fun _ _=>BK _) (aS _) func14 (XE p) ⟨hp.1,decide_eq_true h1,hp.2,decide_eq_false h2,trivial⟩ ha
 ·rw[show bG p.1 p.2=false from decide_eq_false fun q=>h1 q.1.1];exact aF aZ (fun _ _=>BK _) (aS _) func14 (XF p) ⟨hp.1,decide_eq_false h1,trivial⟩ ha
def YL (b:Bool):kH:=g1 FN fun p=>([p.1<aC,p.2<aC,bG p.1 p.2=b],.one (.im (.bool b)))
theorem ZB (b:Bool):∀cs pre r,YL b cs=some (pre,r)→aU pre→∀(args:List Value) (w:World),cE w cs args→bC prog 14 r args w :=
 jO (op:=fun p=>([p.1<aC,p.2<aC,bG p.1 p.2=b],.one (.im (.bool b)))) gQ fun p h args w ha=>by
  have h':=mR p ⟨h.1,h.2.1⟩ args w ha;rw[h.2.2.1]at h';exact h'
def YC (p q:NJ):NJ :=
 let a:=aJ p.2.2 q.2.2
 let b:=aJ a a
 let c:=aJ p.1 q.1
 let d:=aJ p.2.1 q.2.1
 let e:=aJ 168696 (aJ c d)
 let f:=eO b e
 let g:=dM b e
 let x:=eO (eO (aJ (dM p.1 p.2.1) (dM q.1 q.2.1)) c) d
 let y:=eO d (aJ 168700 c)
 (aJ a (aJ f x),aJ a (aJ g y),aJ f g)
theorem PF (p q:NJ):YC p q=gG p q:=by
 refine Prod.ext ?_ (Prod.ext ?_ rfl)
 ·exact (rV _ _ _).symm
 ·exact (rV _ _ _).symm
theorem NB (p q:NJ):bM prog (qG prog) (fun n=>⟨fun _=>qM,fun _=>true,fun _=>none⟩) f33 60 [.v (.fl (q3 p)),.v (.fl (q3 q))]=some ([p.2.2<RM,q.2.2<RM,(aJ p.2.2 q.2.2)<RM,(aJ p.2.2 q.2.2)<RM,p.1<RM,q.1<RM,p.2.1<RM,q.2.1<RM,(aJ p.1 q.1)<RM,(aJ p.2.1 q.2.1)<RM,168696<RM,(aJ (aJ p.1 q.1) (aJ p.2.1 q.2.1))<RM,(aJ (aJ p.2.2 q.2.2) (aJ p.2.2 q.2.2))<RM,(aJ 168696 (aJ (aJ p.1 q.1) (aJ p.2.1 q.2.1)))<RM,(aJ (aJ p.2.2 q.2.2) (aJ p.2.2 q.2.2))<RM,(aJ 168696 (aJ (aJ p.1 q.1) (aJ p.2.1 q.2.1)))<RM,p.1<RM,p.2.1<RM,q.1<RM,q.2.1<RM,(dM p.1 p.2.1)<RM,(dM q.1 q.2.1)<RM,(aJ (dM p.1 p.2.1) (dM q.1 q.2.1))<RM,(aJ p.1 q.1)<RM,(eO (aJ (dM p.1 p.2.1) (dM q.1 q.2.1)) (aJ p.1 q.1))<RM,(aJ p.2.1 q.2.1)<RM,168700<RM,(aJ p.1 q.1)<RM,(aJ p.2.1 q.2.1)<RM,(aJ 168700 (aJ p.1 q.1))<RM,(eO (aJ (aJ p.2.2 q.2.2) (aJ p.2.2 q.2.2)) (aJ 168696 (aJ (aJ p.1 q.1) (aJ p.2.1 q.2.1))))<RM,(eO (eO (aJ (dM p.1 p.2.1) (dM q.1 q.2.1)) (aJ p.1 q.1)) (aJ p.2.1 q.2.1))<RM,(aJ p.2.2 q.2.2)<RM,(aJ (eO (aJ (aJ p.2.2 q.2.2) (aJ p.2.2 q.2.2)) (aJ 168696 (aJ (aJ p.1 q.1) (aJ p.2.1 q.2.1)))) (eO (eO (aJ (dM p.1 p.2.1) (dM q.1 q.2.1)) (aJ p.1 q.1)) (aJ p.2.1 q.2.1)))<RM,(dM (aJ (aJ p.2.2 q.2.2) (aJ p.2.2 q.2.2)) (aJ 168696 (aJ (aJ p.1 q.1) (aJ p.2.1 q.2.1))))<RM,(eO (aJ p.2.1 q.2.1) (aJ 168700 (aJ p.1 q.1)))<RM,(aJ p.2.2 q.2.2)<RM,(aJ (dM (aJ (aJ p.2.2 q.2.2) (aJ p.2.2 q.2.2)) (aJ 168696 (aJ (aJ p.1 q.1) (aJ p.2.1 q.2.1)))) (eO (aJ p.2.1 q.2.1) (aJ 168700 (aJ p.1 q.1))))<RM,(eO (aJ (aJ p.2.2 q.2.2) (aJ p.2.2 q.2.2)) (aJ 168696 (aJ (aJ p.1 q.1) (aJ p.2.1 q.2.1))))<RM,(dM (aJ (aJ p.2.2 q.2.2) (aJ p.2.2 q.2.2)) (aJ 168696 (aJ (aJ p.1 q.1) (aJ p.2.1 q.2.1))))<RM],.one (.fl (q3 (YC p q)))):=by kernel_rfl
theorem GQ (p:NP):bM prog (qG prog) (fun n=>⟨fun _=>qM,fun _=>true,fun _=>none⟩) f34 60 [.v (.fl [.q p.1,.q p.2])]=some ([],.one (.fl [.q p.1,.q p.2,.f ⟨1,by decide⟩])):=by kernel_rfl
theorem GU  : bM prog (qG prog) (fun n=>⟨fun _=>qM,fun _=>true,fun _=>none⟩) f44 60 []=some ([],.one (.fl [.f ⟨0,eI⟩,.f ⟨1,by decide⟩])):=by kernel_rfl
theorem NA (p:NJ):bM prog (qG prog) (fun n=>⟨fun _=>qM,fun _=>true,fun _=>none⟩) f35 60 [.v (.fl (q3 p))]=some ([p.2.2<RM,p.2.2≠0,p.1<RM,QZ p.2.2<RM,p.2.1<RM,QZ p.2.2<RM],.one (.fl [.q (tld p).1,.q (tld p).2])):=by kernel_rfl
theorem yN (w:World):bC prog 44 (.one (.fl [.q 0,.q 1])) [] w:=aF aZ (fun _ _=>nA) (aS _) func44 GU trivial (args:=[]) trivial
def LX:Tab:=((((qM.add 33 (g2 FM FM fun p q=>(c3 p++c3 q,.one (.fl (q3 (gG p q)))))).add 34 (g1 FN fun p=>([],.one (.fl (q3 (p.1,p.2,1)))))).add 44 (g0 (.one (.fl [.q 0,.q 1])))).add 35 (g1 FM fun p=>(c3 p++[p.2.2≠0],.one (.fl [.q (tld p).1,.q (tld p).2]))))
theorem BJ:TabOk prog (LX):=((((nA.ad func33 (pU (op:=fun p q=>(c3 p++c3 q,.one (.fl (q3 (gG p q))))) gP gP fun p q h args w ha=>by
  rw[←PF];exact aF aZ (fun _ _=>nA) (aS _) func33 (NB p q) ⟨h.2.2.1,h.2.2.2.2.2.1,(aD _ _),(aD _ _),h.1,h.2.2.2.1,h.2.1,h.2.2.2.2.1,(aD _ _),(aD _ _),(by decide),(aD _ _),(aD _ _),(aD _ _),(aD _ _),(aD _ _),h.1,h.2.1,h.2.2.2.1,h.2.2.2.2.1,(bP _ _),(bP _ _),(aD _ _),(aD _ _),(cC _ _),(aD _ _),(by decide),(aD _ _),(aD _ _),(aD _ _),(cC _ _),(cC _ _),(aD _ _),(aD _ _),(bP _ _),(cC _ _),(aD _ _),(aD _ _),(cC _ _),(bP _ _),trivial⟩ ha)).ad func34 (jO (op:=fun p=>([],.one (.fl (q3 (p.1,p.2,1))))) gQ fun p h args w ha=>aF aZ (fun _ _=>nA) (aS _) func34 (GQ p) trivial ha)).ad func44 (fZ yN)).ad func35 (jO (op:=fun p=>(c3 p++[p.2.2≠0],.one (.fl [.q (tld p).1,.q (tld p).2]))) gP fun p h args w ha=>aF aZ (fun _ _=>nA) (aS _) func35 (NA p) ⟨h.2.2.1,h.2.2.2.1,h.1,tB _,h.2.1,tB _,trivial⟩ ha))
def DZ (L k:Nat):Value:=if k<L then iI (L-1-k)else .int .i64 (-1)
theorem YB {L:Nat} (h:L≤256):bJ .sub .i64 (Int.ofNat L) 1=some (DZ L 0):=by
 unfold DZ;cases L with
 | zero=>rfl
 | succ n =>
  rw[if_pos (by omega)];exact wL (k:=1) (i:=n+1) (by omega) (by omega)
theorem RL {L k:Nat} (h:L≤256) (hk:k<L):bJ .sub .i64 (Int.ofNat (L-1-k)) 1=some (DZ L (k+1)):=by
 unfold DZ
 by_cases e:k+1<L
 ·rw[if_pos e,←Nat.sub_sub (L-1) k 1];exact wL (k:=1) (by omega) (by omega)
 ·rw[if_neg e,show L-1-k=0 by omega];rfl
theorem RN (n:Nat):bJ .geq .i64 (Int.ofNat n) 0=some (.bool true):=by
 show some (Value.bool (decide ((0:Int)≤Int.ofNat n)))=_;rw[decide_eq_true (show (0:Int)≤Int.ofNat n from Int.natCast_nonneg n)]
theorem RO (k:IntKind) (n:Nat):bJ .eql k (Int.ofNat n) 1=some (.bool (decide (n=1))):=by
 show some (Value.bool ((n:Int)==1))=_
 by_cases h:n=1
 ·subst h; rfl
 ·rw[decide_eq_false h,beq_eq_false_iff_ne.2 (by omega)]
def oA (p:NJ) (n L:Nat):Nat→NJ
 | 0=>(0,1,1)
 | k+1=>if bU (wv n) (L-1-k)=1 then gG (gG (oA p n L k) (oA p n L k)) p else gG (oA p n L k) (oA p n L k)
theorem SS (p:NJ) (n L:Nat):∀k,DX (oA p n L k)
 | 0=>⟨eG,cI,cI⟩
 | k+1=>by
  unfold oA;split
  ·exact⟨aD _ _,aD _ _,aD _ _⟩
  ·exact⟨aD _ _,aD _ _,aD _ _⟩
theorem BA {a:NJ} {P:JP} (h:JRep a P) (n:Nat):∀k,k≤bL n→JRep (oA a n (bL n) k) (dC.grp.ns (wv n/2^(bL n-k)) P)
 | 0,_=>by
  rw[Nat.sub_zero,Nat.div_eq_of_lt (lZ n).1];exact tP
 | k+1,hk=>by
  have ih:=BA h n k (by omega);have e:wv n/2^(bL n-k)=wv n/2^(bL n-(k+1))/2:=by
   rw[show bL n-k=(bL n-(k+1))+1 by omega,Nat.pow_add,←Nat.div_div_eq_div_mul]
  have e2:bU (wv n) (bL n-1-k)=wv n/2^(bL n-(k+1))%2:=by
   unfold bU;rw[show bL n-1-k=bL n-(k+1) by omega]
  rw[e]at ih;generalize wv n/2^(bL n-(k+1))=y at ih e2 ⊢;have h2:=ih.pl ih;rw[←dC.grp.ns_add]at h2
  by_cases hb:bU (wv n) (bL n-1-k)=1
  ·rw[show oA a n (bL n) (k+1)=gG (gG (oA a n (bL n) k) (oA a n (bL n) k)) a from if_pos hb];rw[e2]at hb;rw[show y=y/2+y/2+1 by omega];have h3:=h2.pl h;exact h3
  ·rw[show oA a n (bL n) (k+1)=gG (oA a n (bL n) k) (oA a n (bL n) k)from if_neg hb];rw[e2]at hb;rw[show y=y/2+y/2 by omega];exact h2
def QX (p:NP) (n:Nat):NJ:=oA (p.1,p.2,1) n (bL n) (bL n)
theorem MX {p:NP} {P:JP} (h:JRep (p.1,p.2,1) P) (n:Nat):JRep (QX p n) (dC.grp.ns (wv n) P):=by
 have h1:=BA h n (bL n) (Nat.le_refl _);rw[Nat.sub_self,Nat.pow_zero,Nat.div_one]at h1;exact h1
def AN:Tab:=((LX.add 71 EL).add 49 VA)
theorem OL:TabOk prog AN:=((BJ.ad func71 ND).ad func49 NO)
def QY (num:Nat→Option Value) (_:Nat):Cfg:=⟨fun _=>AN,fun _=>true,num⟩
def eF:Code:=(f39.body).getD .skip
def sW:Code:=Bn (Bn (cB (cA (cB (cB (cB eF))))))
theorem MZ:eF=.seq (cA eF) (.seq (cA (cB eF)) (.seq (cA (cB (cB eF))) (.seq (.seq (cA (cA (cB (cB (cB eF))))) (.block 0 (.loop sW))) (cB (cB (cB (cB eF))))))):=by kernel_rfl
def En:List At:=[.f ⟨0,eI⟩,.f ⟨0,eI⟩]
def Be (p:NP) (n:Nat):List Fact:=[.slot 2 (.pt 2 0),.row 2 true (q2 p),.slot 3 (.pt 3 0),.row 3 true [.q n],.slot 4 (.pt 4 0),.row 4 true En]
def Bd (p:NP) (n:Nat) (s:NJ):List Fact:=Be p n++[.slot 5 (.pt 5 0),.row 5 true (q3 s)]
def Bc (p:NP) (n:Nat) (s:NJ):List Fact:=Bd p n s++[.slot 6 (.pt 6 0),.row 6 true (q3 (p.1,p.2,1))]
def uZ (p:NP) (n:Nat) (s:NJ) (v:Value):List Fact:=Bc p n s++[.slot 7 (.im v)]
theorem WZ (p:NP) (n:Nat):iF prog (qG prog) f39.ntmps (QY fun _=>none) 60 (cA eF) (oH 0 [.v (.fl (q2 p)),.v (.fl [.q n])]) (Be p n)=some ([],.nrm,Be p n):=by kernel_rfl
theorem WY (p:NP) (n:Nat):iF prog (qG prog) f39.ntmps (QY fun _=>none) 60 (cA (cB eF)) (Be p n) (Bd p n (0,1,1))=some ([],.nrm,Bd p n (0,1,1)):=by kernel_rfl
theorem WX (p:NP) (n:Nat) (s:NJ):iF prog (qG prog) f39.ntmps (QY fun _=>none) 60 (cA (cB (cB eF))) (Bd p n s) (Bc p n s)=some ([],.nrm,Bc p n s):=by kernel_rfl
theorem WW (p:NP) (n:Nat) (s:NJ) (v:Value):iF prog (qG prog) f39.ntmps (QY (assoc [(14,v)])) 60 (cA (cA (cB (cB (cB eF))))) (Bc p n s) (uZ p n s v)=some ([bJ .sub .i64 (Int.ofNat (bL n)) 1=some v],.nrm,uZ p n s v):=by kernel_rfl
theorem SP (p:NP) (s:NJ) (n j:Nat) (v:Value):iF prog (qG prog) f39.ntmps (QY (assoc [(16,.bool true),(25,.bool true),(18,v)])) 60 sW (uZ p n s (iI j)) (uZ p n (gG (gG s s) (p.1,p.2,1)) v)=some ([bJ .geq .i64 (Int.ofNat j) 0=some (.bool true),s.1<RM,s.2.1<RM,s.2.2<RM,s.1<RM,s.2.1<RM,s.2.2<RM,j<256,bJ .eql .i64 (Int.ofNat (bU (wv n) j)) 1=some (.bool true),(gG s s).1<RM,(gG s s).2.1<RM,(gG s s).2.2<RM,p.1<RM,p.2<RM,1<RM,bJ .sub .i64 (Int.ofNat j) 1=some v],.nrm,uZ p n (gG (gG s s) (p.1,p.2,1)) v):=by kernel_rfl
theorem SQ (p:NP) (s:NJ) (n j:Nat) (v:Value):iF prog (qG prog) f39.ntmps (QY (assoc [(16,.bool true),(25,.bool false),(18,v)])) 60 sW (uZ p n s (iI j)) (uZ p n (gG s s) v)=some ([bJ .geq .i64 (Int.ofNat j) 0=some (.bool true),s.1<RM,s.2.1<RM,s.2.2<RM,s.1<RM,s.2.1<RM,s.2.2<RM,j<256,bJ .eql .i64 (Int.ofNat (bU (wv n) j)) 1=some (.bool false),bJ .sub .i64 (Int.ofNat j) 1=some v],.nrm,uZ p n (gG s s) v):=by kernel_rfl
theorem SR (p:NP) (s:NJ) (n:Nat):iF prog (qG prog) f39.ntmps (QY fun _=>none) 60 sW (uZ p n s (.int .i64 (-1))) (uZ p n s (.int .i64 (-1)))=some ([],.ex 0,uZ p n s (.int .i64 (-1))):=by kernel_rfl
theorem MY (p:NP) (s:NJ) (n:Nat) (v:Value):iF prog (qG prog) f39.ntmps (QY fun _=>none) 60 (cB (cB (cB (cB eF)))) (uZ p n s v) [.slot 4 (.pt 4 0),.row 4 true [.q (tld s).1,.q (tld s).2]]=some ([s.1<RM,s.2.1<RM,s.2.2<RM,s.2.2≠0],.rt,[.slot 4 (.pt 4 0),.row 4 true [.q (tld s).1,.q (tld s).2]]):=by kernel_rfl
theorem CX (p:NP) (n:Nat) (h:OnJ p.1 p.2) (args:List Value) (w0:World) (ha:cE w0 [.v (.fl (q2 p)),.v (.fl [.q n])] args):bC prog 39 (.one (.fl [.q (cL p n).1,.q (cL p n).2])) args w0:=by
 have hG:iW prog (qG prog) w0.heap.size w0:=(aS _).w _ _;have hT:∀n d:Nat,TabOkW prog AN w0.heap.size w0:=fun _ _=>OL.w _ _
 have hL:=tN n;have hr:=MX (dS h) n;have e:tld (QX p n)=cL p n:=hr.tld.trans (oN h n).symm;rw[←e];refine wZ func39 (c:=eF) rfl ha (Nat.le_of_ble_eq_true (by kernel_rfl)) fun b w' hA => ?_
 rw[MZ];refine wp_seq (bT aZ hT hG (WZ p n) trivial hA fun b w' hA => ?_);refine wp_seq (bT aZ hT hG (WY p n) trivial hA fun b w' hA => ?_);refine wp_seq (bT aZ hT hG (WX p n _) trivial hA fun b w' hA => ?_);refine wp_seq (wp_seq (bT aZ hT hG (WW p n _ (DZ (bL n) 0)) ⟨YB hL,trivial⟩ hA fun b w' hA => ?_));refine wp_block ?_;refine JL aZ (fun k=>uZ p n (oA (p.1,p.2,1) n (bL n) k) (DZ (bL n) k)) (bL n) (fun k hk => ?_) (.ex 0) (by simp) (uZ p n (QX p n) (.int .i64 (-1))) ?_ hA fun b w' hA => ?_
 ·have e0:DZ (bL n) k=iI (bL n-1-k):=if_pos hk;have l:=SS (p.1,p.2,1) n (bL n) k;show Ok _ _ _ _ _ (uZ p n (oA (p.1,p.2,1) n (bL n) k) (DZ (bL n) k)) _ (uZ p n (oA (p.1,p.2,1) n (bL n) (k+1)) (DZ (bL n) (k+1)));rw[e0]
  by_cases hb:bU (wv n) (bL n-1-k)=1
  ·rw[show oA (p.1,p.2,1) n (bL n) (k+1)=gG (gG (oA (p.1,p.2,1) n (bL n) k) (oA (p.1,p.2,1) n (bL n) k)) (p.1,p.2,1)from if_pos hb];exact⟨_,_,_,_,hG,hT,SP p (oA (p.1,p.2,1) n (bL n) k) n (bL n-1-k) (DZ (bL n) (k+1)),RN _,l.1,l.2.1,l.2.2,l.1,l.2.1,l.2.2,by omega,by rw[RO,decide_eq_true hb],aD _ _,aD _ _,aD _ _,h.1.1,h.1.2,cI,RL hL hk,trivial⟩
  ·rw[show oA (p.1,p.2,1) n (bL n) (k+1)=gG (oA (p.1,p.2,1) n (bL n) k) (oA (p.1,p.2,1) n (bL n) k)from if_neg hb];exact⟨_,_,_,_,hG,hT,SQ p (oA (p.1,p.2,1) n (bL n) k) n (bL n-1-k) (DZ (bL n) (k+1)),RN _,l.1,l.2.1,l.2.2,l.1,l.2.1,l.2.2,by omega,by rw[RO,decide_eq_false hb],RL hL hk,trivial⟩
 ·show Ok _ _ _ _ _ (uZ p n _ (DZ (bL n) (bL n))) _ _;rw[show DZ (bL n) (bL n)=.int .i64 (-1)from if_neg (Nat.lt_irrefl _)];exact⟨_,_,_,_,hG,hT,SR p _ n,trivial⟩
 ·show (cB (cB (cB (cB eF)))).wp _ _ _ _;exact bT aZ hT hG (MY p (QX p n) n _) ⟨hr.x,hr.y,hr.z,hr.nz,trivial⟩ hA fun b w' hA=>wY (l:=[.fl [.q (tld (QX p n)).1,.q (tld (QX p n)).2]]) (r:=.one (.fl [.q (tld (QX p n)).1,.q (tld (QX p n)).2])) (by kernel_rfl) (by kernel_rfl) hA
def YK:kH:=g2 FN oK fun p n=>([OnJ p.1 p.2],.one (.fl [.q (cL p n).1,.q (cL p n).2]))
theorem Cx:∀cs pre r,YK cs=some (pre,r)→aU pre→∀(args:List Value) (w:World),cE w cs args→bC prog 39 r args w :=
 pU (op:=fun p n=>([OnJ p.1 p.2],.one (.fl [.q (cL p n).1,.q (cL p n).2]))) gQ cJ fun p n h args w ha=>CX p n h.1 args w ha
def KA:kH
 | [.v (.im (.string s))]=>some ([s.size≤maxLen],.one (.fl [.q (cZ s.data.toList).1]))
 | _=>none
def UV:kH
 | [.v (.im (.string s))]=>some ([s.size≤maxLen],.many [.fl [.q (cZ s.data.toList).1],.im (.int .i64 ((cZ s.data.toList).2:Nat))])
 | _=>none
theorem DN (l:List UInt8):(cZ l).1<aC:=by
 unfold cZ;split
 ·exact by decide
 ·split
  ·exact by decide
  ·split
   ·exact by decide
   ·rename_i h;exact Nat.lt_of_not_le h
theorem ZC:∀cs pre r,UV cs=some (pre,r)→aU pre→∀(args:List Value) (w:World),cE w cs args→bC prog 76 r args w:=by
 intro cs pre r hg hp args w ha;unfold UV at hg;split at hg
 ·rename_i s;cases hg
  match args,ha with
  | [v],ha =>
   have h1:v=.string s:=ha.1;subst h1;refine (R1.refParse_calls s hp.1 w).mono ?_
   rintro e w' ⟨s0,s1,s2,s3,c,rfl,hs,hv,hb⟩
   have h1:=congrArg Prod.fst hv;have h2:=congrArg Prod.snd hv;simp only at h1 h2;obtain⟨rfl,rfl,rfl,rfl⟩:=gN hs (DN _) h1;subst h2;exact⟨rfl,hb⟩
  | [],ha=>exact ha.elim
  | _::_::_,ha=>exact ha.2.elim
 ·cases hg
def SC:Tab:=LX.add 76 UV
theorem UH:TabOk prog SC:=BJ.ad func76 ZC
theorem OP (s:ByteArray):bM prog (qG prog) (fun n=>⟨fun _=>SC,fun _=>true,fun _=>none⟩) f45 60 [.v (.im (.string s))]=some ([s.size≤maxLen],.one (.fl [.q (cZ s.data.toList).1])):=by kernel_rfl
theorem ZF:∀cs pre r,KA cs=some (pre,r)→aU pre→∀(args:List Value) (w:World),cE w cs args→bC prog 45 r args w:=by
 intro cs pre r hg hp args w ha;unfold KA at hg;split at hg
 ·rename_i s;cases hg;exact aF aZ (fun _ _=>UH) (aS _) func45 (OP s) hp ha
 ·cases hg
def LZ:Tab:=LX.add 45 KA
theorem IX:TabOk prog LZ:=BJ.ad func45 ZF
def sK (b:Bool):Tab:=(((((((T0.add 15 KB).add 22 (g0 (.one (.im (.bool true))))).add 23 (g0 (.one (.fl [.q 0,.q 1])))).add 7 (PO true)).add 9 (PK true)).add 13 (EK true)).add 14 (EK b))
theorem pL (b:Bool):TabOk prog (sK b):=((((((((sL _).ad func15 VG).ad func22 (fZ xN)).ad func23 (fZ nE)).ad func7 (tW qL true)).ad func9 (tT pM true)).ad func13 (mD mX true)).ad func14 (mD mR b))
theorem Cn (p q s:NP):bM prog (qG prog) (fun n=>⟨fun _=>sK false,fun _=>true,fun _=>none⟩) f4 120 [.v (.fl [.q p.1,.q p.2]),.v (.fl [.q q.1,.q q.2]),.v (.fl [.q s.1,.q s.2])]=some ([p.1<aC,p.2<aC,bG p.1 p.2=false],.one (.im (.bool true))):=by kernel_rfl
theorem Cm (p q s:NP):bM prog (qG prog) (fun n=>⟨fun s=>sK (Nat.beq s 24),fun _=>true,fun _=>none⟩) f4 120 [.v (.fl [.q p.1,.q p.2]),.v (.fl [.q q.1,.q q.2]),.v (.fl [.q s.1,.q s.2])]=some ([p.1<aC,p.2<aC,bG p.1 p.2=true,q.1<aC,q.2<aC,bG q.1 q.2=false],.one (.im (.bool true))):=by kernel_rfl
theorem Cl (p q s:NP):bM prog (qG prog) (fun n=>⟨fun s=>sK (Nat.ble s 28),fun _=>true,fun _=>none⟩) f4 120 [.v (.fl [.q p.1,.q p.2]),.v (.fl [.q q.1,.q q.2]),.v (.fl [.q s.1,.q s.2])]=some ([p.1<aC,p.2<aC,bG p.1 p.2=true,q.1<aC,q.2<aC,bG q.1 q.2=true,s.1<aC,s.2<aC,bG s.1 s.2=false],.one (.im (.bool true))):=by kernel_rfl
def Co (p q s:NP):List Prop:=[p.1<aC,p.2<aC,bG p.1 p.2=true,q.1<aC,q.2<aC,bG q.1 q.2=true,s.1<aC,s.2<aC,bG s.1 s.2=true,p.1<aC,p.2<aC,q.1<aC,q.2<aC,(bG p.1 p.2&&bG q.1 q.2)=true,q.1<aC,q.2<aC,p.1<aC,p.2<aC,(bG q.1 q.2&&bG p.1 p.2)=true,(cN p q).1<aC,(cN p q).2<aC,s.1<aC,s.2<aC,(bG (cN p q).1 (cN p q).2&&bG s.1 s.2)=true,q.1<aC,q.2<aC,s.1<aC,s.2<aC,(bG q.1 q.2&&bG s.1 s.2)=true,p.1<aC,p.2<aC,(cN q s).1<aC,(cN q s).2<aC,(bG p.1 p.2&&bG (cN q s).1 (cN q s).2)=true,p.1<aC,p.2<aC,bG p.1 p.2=true,p.1<aC,p.2<aC,(fX p).1<aC,(fX p).2<aC,(bG p.1 p.2&&bG (fX p).1 (fX p).2)=true,aB [At.q (cN p q).1,.q (cN p q).2]=aB [At.q (cN q p).1,.q (cN q p).2],aB [At.q (cN (cN p q) s).1,.q (cN (cN p q) s).2]=aB [At.q (cN p (cN q s)).1,.q (cN p (cN q s)).2],aB [At.q (cN p (fX p)).1,.q (cN p (fX p)).2]=aB [At.q 0,.q 1],(cN (cN p q) s).1<aC,(cN (cN p q) s).2<aC,bG (cN (cN p q) s).1 (cN (cN p q) s).2=true]
theorem Ck (p q s:NP):bM prog (qG prog) (fun n=>⟨fun _=>sK true,fun _=>true,fun _=>none⟩) f4 120 [.v (.fl [.q p.1,.q p.2]),.v (.fl [.q q.1,.q q.2]),.v (.fl [.q s.1,.q s.2])]=some (Co p q s,.one (.im (.bool true))):=by kernel_rfl
theorem UM (P Q S:JP):aU (Co (cj P) (cj Q) (cj S)):=by
 unfold Co;simp only[qY,Ca];exact⟨(fQ P).1,(fQ P).2,FO P,(fQ Q).1,(fQ Q).2,FO Q,(fQ S).1,(fQ S).2,FO S,(fQ P).1,(fQ P).2,(fQ Q).1,(fQ Q).2,VM P Q,(fQ Q).1,(fQ Q).2,(fQ P).1,(fQ P).2,VM Q P,(fQ (dC.grp.add P Q)).1,(fQ (dC.grp.add P Q)).2,(fQ S).1,(fQ S).2,VM (dC.grp.add P Q) S,(fQ Q).1,(fQ Q).2,(fQ S).1,(fQ S).2,VM Q S,(fQ P).1,(fQ P).2,(fQ (dC.grp.add Q S)).1,(fQ (dC.grp.add Q S)).2,VM P (dC.grp.add Q S),(fQ P).1,(fQ P).2,FO P,(fQ P).1,(fQ P).2,(fQ (dC.grp.neg P)).1,(fQ (dC.grp.neg P)).2,VM P (dC.grp.neg P),by rw[dC.grp.comm P Q],by rw[dC.grp.assoc P Q S],by rw[dC.grp.addn P]; rfl,(fQ (dC.grp.add (dC.grp.add P Q) S)).1,(fQ (dC.grp.add (dC.grp.add P Q) S)).2,FO (dC.grp.add (dC.grp.add P Q) S),trivial⟩
theorem EH (p q s:NP) (hp:w2 p) (hq:w2 q) (hs:w2 s) (args:List Value) (w:World) (ha:cE w [.v (.fl [.q p.1,.q p.2]),.v (.fl [.q q.1,.q q.2]),.v (.fl [.q s.1,.q s.2])] args):bC prog 4 (.one (.im (.bool true))) args w:=by
 cases h1:bG p.1 p.2
 ·exact aF aZ (fun _ _=>pL _) (aS _) func4 (Cn p q s) ⟨hp.1,hp.2,h1,trivial⟩ ha
 ·cases h2:bG q.1 q.2
  ·exact aF aZ (fun _ _=>pL _) (aS _) func4 (Cm p q s) ⟨hp.1,hp.2,h1,hq.1,hq.2,h2,trivial⟩ ha
  ·cases h3:bG s.1 s.2
   ·exact aF aZ (fun _ _=>pL _) (aS _) func4 (Cl p q s) ⟨hp.1,hp.2,h1,hq.1,hq.2,h2,hs.1,hs.2,h3,trivial⟩ ha
   ·obtain⟨P,rfl⟩:=CH (dF.1 h1);obtain⟨Q,rfl⟩:=CH (dF.1 h2);obtain⟨S,rfl⟩:=CH (dF.1 h3);exact aF aZ (fun _ _=>pL _) (aS _) func4 (Ck _ _ _) (UM P Q S) ha
theorem PH (p:NP) (hp:w2 p) (q:NP) (hq:w2 q) (s:NP) (hs:w2 s) (w:World):Calls prog 4 #[.agg (aB (q2 p)).toArray,.agg (aB (q2 q)).toArray,.agg (aB (q2 s)).toArray] w (fun e w'=>e=.returned (.bool true)∧Below w.heap.size w w') :=
 EH p q s hp hq hs [_,_,_] w ⟨rfl,rfl,rfl,trivial⟩
end Go.Proofs.Ytjeplinbleofnaa.Ex
namespace Go.Proofs.Ytjeplinbleofnaa
open Go.Proofs.Try
open Go.ChangeShapes Go.WideShapes Go.ChangeAt Go.RowKit
theorem nM:ownKnob prog.godebug=none:=by kernel_rfl
theorem mA:laidOutB prog=true:=by kernel_rfl
theorem rC:prog.cellsOf 22=1:=by kernel_rfl
theorem RJ {α:Type} (l:List α) (h:(⟨l⟩:Array α).size=4):∃a b c d,l=[a,b,c,d]:=by
 match l,h with
 | [a,b,c,d],_=>exact⟨a,b,c,d,rfl⟩
theorem dI {n:Int} (h:(Lit.int .u64 n).wf=true):∃k:Nat,n=(k:Int)∧k<18446744073709551616:=by
 obtain⟨h1,h2⟩:=bounds_u64 h;obtain⟨k,rfl⟩:=Int.eq_ofNat_of_zero_le h1;exact⟨k,rfl,by omega⟩
end Go.Proofs.Ytjeplinbleofnaa
namespace Go.Proofs.Ytjeplinbleofnaa.Ex
open Go.Proofs.Try
open Go.Deep Go.ChangeShapes Go.WideShapes Go.ChangeAt Go.RowKit
theorem VR {P:Program} {W:World} {base:Nat} {t:TypeId} {fs:Array Field} {v:Value} (ht:P.underlying t=some (.struct fs)) (h:Value.okWide P W .any base t v):∃cs,v=.agg cs:=by
 obtain⟨cs,rfl,_⟩:∃cs,v=.agg cs∧cs.size=P.cellsOf t∧Row.okWide P W .any base t cs:=by
  simpa[Value.okWide,ht]using h
 exact⟨cs,rfl⟩
theorem QM {P:Program} {W:World} {base:Nat} {t n e:TypeId} {v:Value} (ht:P.underlying t=some (.array n e)) (h:Value.okWide P W .any base t v):∃cs,v=.agg cs:=by
 obtain⟨cs,rfl,_⟩:∃cs,v=.agg cs∧cs.size=P.cellsOf t∧Row.okWide P W .any base t cs:=by
  simpa[Value.okWide,ht]using h
 exact⟨cs,rfl⟩
section
variable {H:Type} {enc:TypeId×Value→H} {W:World}
theorem RB {fuel:Nat} {cs:List Value} {x:DataW H×List MemPlace} (hl:cs.length=4) (h:DataW.trod enc prog W 0 (fun _=>true) true fuel 24 cs=some x):∃n:Nat,cs=aB (q1 n):=by
 obtain⟨c0,c1,c2,c3,rfl⟩:=RJ cs hl;obtain⟨y0,y1,y2,y3,m,hx,hy0,hy1,hy2,hy3⟩:=trod_array4 underlying24 rC h;obtain⟨x0,e0,rfl,w0⟩:=DataW.trod_int underlying22 hy0;obtain⟨x1,e1,rfl,w1⟩:=DataW.trod_int underlying22 hy1;obtain⟨x2,e2,rfl,w2⟩:=DataW.trod_int underlying22 hy2;obtain⟨x3,e3,rfl,w3⟩:=DataW.trod_int underlying22 hy3;simp at e0 e1 e2 e3;obtain⟨a0,rfl,k0⟩:=dI w0;obtain⟨a1,rfl,k1⟩:=dI w1;obtain⟨a2,rfl,k2⟩:=dI w2;obtain⟨a3,rfl,k3⟩:=dI w3;subst e0 e1 e2 e3;have hv:aA a0 a1 a2 a3<115792089237316195423570985008687907853269984665640564039457584007913129639936:=by unfold aA; omega
 obtain⟨q0,q1',q2',q3⟩:=gN ⟨k0,k1,k2,k3⟩ hv rfl;refine⟨aA a0 a1 a2 a3,?_⟩;show _=w4 (aA a0 a1 a2 a3);unfold w4;rw[←q0,←q1',←q2',←q3]
theorem By {fuel:Nat} {cs:List Value} {x:DataW H×List MemPlace} (hl:cs.length=4) (h:DataW.trod enc prog W 0 (fun _=>true) true fuel 27 cs=some x):∃n:Nat,cs=aB (q1 n):=by
 obtain⟨c0,c1,c2,c3,rfl⟩:=RJ cs hl;obtain⟨y0,y1,y2,y3,m,hx,hy0,hy1,hy2,hy3⟩:=trod_array4 underlying27 rC h;obtain⟨x0,e0,rfl,w0⟩:=DataW.trod_int underlying22 hy0;obtain⟨x1,e1,rfl,w1⟩:=DataW.trod_int underlying22 hy1;obtain⟨x2,e2,rfl,w2⟩:=DataW.trod_int underlying22 hy2;obtain⟨x3,e3,rfl,w3⟩:=DataW.trod_int underlying22 hy3;simp at e0 e1 e2 e3;obtain⟨a0,rfl,k0⟩:=dI w0;obtain⟨a1,rfl,k1⟩:=dI w1;obtain⟨a2,rfl,k2⟩:=dI w2;obtain⟨a3,rfl,k3⟩:=dI w3;subst e0 e1 e2 e3;have hv:aA a0 a1 a2 a3<115792089237316195423570985008687907853269984665640564039457584007913129639936:=by unfold aA; omega
 obtain⟨q0,q1',q2',q3⟩:=gN ⟨k0,k1,k2,k3⟩ hv rfl;refine⟨aA a0 a1 a2 a3,?_⟩;show _=w4 (aA a0 a1 a2 a3);unfold w4;rw[←q0,←q1',←q2',←q3]
theorem TY {base:Nat} {v:Value} {d:DataW H} {ps:List MemPlace} {pt:Array TypeId} {args:Array Value} (hval:∀(j:Nat) t v,pt[j]?=some t→args[j]?=some v→Value.okWide prog W .any base t v) (j:Nat) (hj:pt[j]?=some 27) (ha:args[j]?=some v)
  (h:DataW.Trod enc prog W 0 (fun _=>true) true 27 v d ps):∃x:Nat,v=.agg (aB (q1 x)).toArray:=by
 have hv:=hval j 27 v hj ha;obtain⟨cs,rfl⟩:=QM (t:=27) underlying27 hv;obtain⟨fuel,hf⟩:=h;obtain⟨l⟩:=cs;have hl:l.length=4:=by
  obtain⟨cs',e,hs,_⟩:∃cs,Value.agg ⟨l⟩=.agg cs∧cs.size=prog.cellsOf 27∧Row.okWide prog W .any base 27 cs:=by
   simpa[Value.okWide,underlying27]using hv
  cases e;rw[show prog.cellsOf 27=4 by kernel_rfl]at hs;exact hs
 obtain⟨x,hx⟩:=By hl hf;subst hx;exact⟨x,rfl⟩
end
section
variable {H:Type} {enc:TypeId×Value→H} {W:World}
theorem Fh:prog.cellsOf 26=8:=by kernel_rfl
theorem Dd:prog.cellsOf 24=4:=by kernel_rfl
theorem YU (x:Nat):aB (q1 x)=aB (q1 (wv x)):=by
 have hl:wv x<115792089237316195423570985008687907853269984665640564039457584007913129639936:=Nat.lt_of_lt_of_eq (AR x) (by decide);obtain⟨e0,e1,e2,e3⟩:=gN (cR x) hl rfl;show w4 x++[]=w4 (wv x)++[];unfold w4;rw[←e0,←e1,←e2,←e3]
theorem WJ (x:Nat):wv x<aC:=Nat.lt_of_lt_of_eq (AR x) (by decide)
theorem XM {fuel:Nat} {cs:List Value} {x:DataW H×List MemPlace} (h:DataW.trod enc prog W 0 (fun _=>true) true fuel 26 cs=some x):∃n:Nat×Nat,(n.1<aC∧n.2<aC)∧cs=aB (q2 n):=by
 obtain⟨y0,y1,n,_,hl,h0,h1⟩:=trod_struct2 underlying26 h;rw[Fh]at hl;simp only[Dd]at h0 h1;obtain⟨a,ha⟩:=RB (by simp[hl]) h0;obtain⟨b,hb⟩:=RB (by simp[hl]) h1;rw[YU]at ha hb;refine⟨(wv a,wv b),⟨WJ a,WJ b⟩,?_⟩;rw[List.drop_zero]at ha;rw[List.take_of_length_le (by simp[hl])]at hb;show cs=w4 (wv a)++(w4 (wv b)++[]);rw[List.append_nil,←List.take_append_drop 4 cs];congr 1
 all_goals first|exact ha.trans (List.append_nil _)|exact hb.trans (List.append_nil _)
theorem kC {base:Nat} {v:Value} {d:DataW H} {ps:List MemPlace} {pt:Array TypeId} {args:Array Value} (hval:∀(j:Nat) t v,pt[j]?=some t→args[j]?=some v→Value.okWide prog W .any base t v) (j:Nat) (hj:pt[j]?=some 26) (ha:args[j]?=some v)
  (h:DataW.Trod enc prog W 0 (fun _=>true) true 26 v d ps):∃x:Nat×Nat,(x.1<aC∧x.2<aC)∧v=.agg (aB (q2 x)).toArray:=by
 have hv:=hval j 26 v hj ha;obtain⟨cs,rfl⟩:=VR (t:=26) underlying26 hv;obtain⟨fuel,hf⟩:=h;obtain⟨l⟩:=cs;obtain⟨x,hb,hx⟩:=XM hf;subst hx;exact⟨x,hb,rfl⟩
end
end Go.Proofs.Ytjeplinbleofnaa.Ex
