/- Pl17 -/
import Derived.ProofKit
import Derived.LaidMore
import Derived.OpenShut
import Derived.Stop.Joined
import Derived.Carry
import Derived.RowKit
import Derived.ChangeSame
import Derived.JoinedOf
import Derived.JoinedAt
import Derived.Laws.IdiomArrays
import Derived.Deep.Strs
import Derived.Test.YtglgakbkdjhojaaGreatPl16
import Derived.Test.YtglgakbkdjhojaaGreatPl15
import Derived.Test.YtglgakbkdjhojaaGreatPl06
import Derived.Test.YtglgakbkdjhojaaGreatPl09
import Derived.Test.YtglgakbkdjhojaaGreatRows
import Derived.Test.YtglgakbkdjhojaaGreatPl05
import Derived.Test.YtglgakbkdjhojaaGreatPl03
import Derived.Test.YtglgakbkdjhojaaGreatProg
set_option maxRecDepth 100000
set_option linter.unusedVariables false
set_option linter.unusedSimpArgs false
noncomputable section
namespace Go.Proofs.YtglgakbkdjhojaaGreat.Ex
open Go.Proofs.Tryz
open Go.RowKit
def gE1 (m:List At) (r:RV):kC
 | [.v (.fl l)]=>some ([aA l=aA m],r)
 | _=>none
def gE2 (m m':List At) (r:RV):kC
 | [.v (.fl l),.v (.fl l')]=>some ([aA l=aA m,aA l'=aA m'],r)
 | _=>none
theorem VY {f:FuncId} {m:List At} {r0:RV} (h:∀w,Good prog f r0 [.agg (aA m).toArray] w):∀cs pre r,gE1 m r0 cs=some (pre,r)→bC pre→∀(args:List Value) (w:World),bZ w cs args→Good prog f r args w:=by
 intro cs pre r hg hp args w ha;unfold gE1 at hg;split at hg
 ·cases hg;rw[BH ha,hp.1];exact h w
 ·cases hg
theorem Pa {f:FuncId} {m m':List At} {r0:RV} (h:∀w,Good prog f r0 [.agg (aA m).toArray,.agg (aA m').toArray] w):∀cs pre r,gE2 m m' r0 cs=some (pre,r)→bC pre→∀(args:List Value) (w:World),bZ w cs args→Good prog f r args w:=by
 intro cs pre r hg hp args w ha;unfold gE2 at hg;split at hg
 ·cases hg;rw[RY ha,hp.1,hp.2.1];exact h w
 ·cases hg
theorem aOL {Q:C2} (h:nI Q):aCp (NT Q.1)=true:=by
 unfold aCp;rw[bAT,tM2,aLg,(Oq Q).2 h];exact decide_eq_true ⟨rfl,rfl⟩
def k0:RV:=.one (.im (.int .i64 0))
theorem aEt (p:lJ):aO prog (qG prog) (wq Hw) f107 60 [.v (.fl (kK p))]=some ([],.one (.im (.int .i64 (BD p.1 p.2.1 p.2.2).1))):=by kernel_rfl
theorem bET (P:C1) (w:World):Good prog 107 k0 [.agg (aA (gH P.1)).toArray] w:=by
 have h:=aB aE (fun _ _=>US) (aJ _) func107 (aEt (tn1 P.1)) trivial (args:=[.agg (aA (gH P.1)).toArray]) (w:=w) ⟨rfl,trivial⟩;rw[show (BD (tn1 P.1).1 (tn1 P.1).2.1 (tn1 P.1).2.2).1=0 from tC1 P]at h;exact h
theorem bGb (p:iK):Hw 161 [.v (.fl (gN p))]=some ([],.one (.im (.int .i64 (pB p.1 p.2.1 p.2.2).1))):=by kernel_rfl
theorem bGC (p:iK):Hw 162 [.v (.fl (gN p))]=some ([],.one (.im (.bool (aCp p)))):=by kernel_rfl
def bEm (m:List At):Tab:=(Hw.add 161 (gE1 m k0)).add 162 (gE1 m (.one (.im (.bool true))))
theorem bCp {Q:C2} (h:nI Q):TabOk prog (bEm (eI Q.1)):=(US.ad func161 (VY fun w=>by
  have h:=(US _ _ _ _ (bGb (NT Q.1)) trivial).2 [.agg (aA (eI Q.1)).toArray] w ⟨rfl,trivial⟩;rw[show (pB (NT Q.1).1 (NT Q.1).2.1 (NT Q.1).2.2).1=0 from tC2 Q]at h;exact h)).ad func162 (VY fun w=>by
  have h:=(US _ _ _ _ (bGC (NT Q.1)) trivial).2 [.agg (aA (eI Q.1)).toArray] w ⟨rfl,trivial⟩;rw[aOL ‹nI Q›]at h;exact h)
theorem aEs (q:Pt Q2):aO prog (qG prog) (wq (bEm (eI q))) f108 60 [.v (.fl (eI q))]=some ([aA (eI q)=aA (eI q),aA (eI q)=aA (eI q)],k0):=by kernel_rfl
theorem bES {Q:C2} (h:nI Q) (w:World):Good prog 108 k0 [.agg (aA (eI Q.1)).toArray] w :=
 aB aE (fun _ _=>bCp h) (aJ _) func108 (aEs Q.1) ⟨rfl,rfl,trivial⟩ ⟨rfl,trivial⟩
def bEl (p:Pt Fq) (q:Pt Q2):Tab:=(BJ.add 107 (gE1 (gH p) k0)).add 108 (gE1 (eI q) k0)
theorem bCo (P:C1) {Q:C2} (h:nI Q):TabOk prog (bEl P.1 Q.1):=(rQ.ad func107 (VY (bET P))).ad func108 (VY (bES h))
theorem TB (p:Pt Fq) (q:Pt Q2):aO prog (qG prog) (wq (bEl p q)) f51 60 [.v (.fl (gH p)),.v (.fl (eI q))]=some ([aA (gH p)=aA (gH p),aA (eI q)=aA (eI q)],k0):=by kernel_rfl
theorem Jj (a:Fq×Fq) (q:Q2×Q2):aO prog (qG prog) (wq BJ) f52 60 [.v (.fl (NX a)),.v (.fl (lI q))]=some ([],.one (.fl (wA (bW (a,q))))):=by kernel_rfl
def GE (p:Pt Fq) (q:Pt Q2) (a:Fq×Fq) (q':Q2×Q2):Tab:=(BJ.add 51 (gE2 (gH p) (eI q) k0)).add 52 (gE2 (NX a) (lI q') (.one (.fl (wA (bW (a,q'))))))
theorem bCj (P:C1) {Q:C2} (h:nI Q) (a:Fq×Fq) (q':Q2×Q2):TabOk prog (GE P.1 Q.1 a q'):=(rQ.ad func51 (Pa fun w=>aB aE (fun _ _=>bCo P h) (aJ _) func51 (TB P.1 Q.1) ⟨rfl,rfl,trivial⟩ ⟨rfl,rfl,trivial⟩)).add
 func52 (by kernel_rfl) (by kernel_rfl) (Pa fun w=>aB aE (fun _ _=>rQ) (aJ _) func52 (Jj a q') trivial ⟨rfl,rfl,trivial⟩)
def oLa (z:aQ):List Prop×RV:=([z≠aF.zero],.one (.fl (aP (lY z))))
theorem bAz (z:aQ):bEk 53 [.v (.fl (aP z))]=some ([xD (gB (mP z))≠F1.zero],.one (.fl (aP (lY (gB (mP z)))))):=by kernel_rfl
theorem wla (z:aQ) (hz:z≠aF.zero) (args:List Value) (w:World) (ha:bZ w [.v (.fl (aP z))] args):Good prog 53 (.one (.fl (aP (lY z)))) args w:=by
 have h:=(bCn _ _ _ _ (bAz z) ⟨by rw[gE]; exact fun e=>hz (wM e),trivial⟩).2 args w ha;rw[gE]at h;exact h
def Vz (l:List At):Bool:=match l with
 | [.f a,.f b,.f c,.f d,.f e,.f f,.f g,.f h,.f i,.f j,.f k,.f l]=>Nat.beq a.1 1&&(Nat.beq b.1 0&&(Nat.beq c.1 0&&(Nat.beq d.1 0&&(Nat.beq e.1 0&&(Nat.beq f.1 0&&(Nat.beq g.1 0&&(Nat.beq h.1 0&&(Nat.beq i.1 0&&(Nat.beq j.1 0&&(Nat.beq k.1 0&&Nat.beq l.1 0))))))))))
 | _=>false
theorem Om {l:List At} (h:Vz l=true):aA l=aA (aP aF.one):=by
 unfold Vz at h;split at h
 ·simp only[Bool.and_eq_true]at h;obtain⟨h1,h2,h3,h4,h5,h6,h7,h8,h9,h10,h11,h12⟩:=h;show w4 _++(w4 _++(w4 _++(w4 _++(w4 _++(w4 _++(w4 _++(w4 _++(w4 _++(w4 _++(w4 _++(w4 _++[])))))))))))=w4 1++(w4 0++(w4 0++(w4 0++(w4 0++(w4 0++(w4 0++(w4 0++(w4 0++(w4 0++(w4 0++(w4 0++[])))))))))));rw[Nat.eq_of_beq_eq_true h1,Nat.eq_of_beq_eq_true h2,Nat.eq_of_beq_eq_true h3,Nat.eq_of_beq_eq_true h4,Nat.eq_of_beq_eq_true h5,Nat.eq_of_beq_eq_true h6,Nat.eq_of_beq_eq_true h7,Nat.eq_of_beq_eq_true h8,Nat.eq_of_beq_eq_true h9,Nat.eq_of_beq_eq_true h10,Nat.eq_of_beq_eq_true h11,Nat.eq_of_beq_eq_true h12]
 ·cases h
def aXz:kC
 | [.v (.fl l)]=>bif Vz l then some ([],.one (.fl (aP aF.one)))else none
 | _=>none
theorem bAY (z:aQ):BJ 114 [.v (.fl (aP z))]=some ([],.one (.fl (aP (aF.mul z z)))):=by kernel_rfl
theorem aOW:∀cs pre r,aXz cs=some (pre,r)→bC pre→∀(args:List Value) (w:World),bZ w cs args→Good prog 114 r args w:=by
 intro cs pre r hg hp args w ha;unfold aXz at hg;split at hg
 ·rename_i l;cases hb:Vz l<;>rw[hb]at hg
  ·cases hg
  ·cases hg;rw[BH ha,Om hb];have h:=(rQ _ _ _ _ (bAY aF.one) trivial).2 [.agg (aA (aP aF.one)).toArray] w ⟨rfl,trivial⟩;rw[aF.one_mul]at h;exact h
 ·cases hg
def bEi:Tab:=BJ.add 114 aXz
theorem bCl:TabOk prog bEi:=rQ.ad func114 aOW
theorem aMp:aO prog (qG prog) (wq bEi) f54 300 [.v (.im (.slice none 0 0))]=some ([Vt=Vt],.one (.fl (aP aF.one))):=by kernel_rfl
def qB:Code:=(f20.body).getD .skip
def EG:Nat:=f20.ntmps
def pr3:Code:=cA (cB (cB (cB qB)))
def pr4:Code:=cB (cB (cB (cB qB)))
def Id:Code:=pC (pC (cB pr3))
theorem aNC:qB=.seq (cA qB) (.seq (cA (cB qB)) (.seq (cA (cB (cB qB))) (.seq (.seq (cA pr3) (.block 0 (.loop Id))) pr4))):=by kernel_rfl
def wF:List Wk→List Fact
 | []=>[.slot 6 (.im (.slice none 0 0))]
 | W::r=>[.slot 6 (.so 63 (r.length+1)),.row 63 true (rows (W::r)),.app 63 109 50 (r.length+1)]
def pA0 (n m m':Nat) (lp lq:List At):List Fact:=[.slot 0 (.sl 0 0 n m),.row 0 false lp,.slot 1 (.sl 1 0 n m'),.row 1 false lq,.slot 4 (.pt 4 0),.row 4 true (aP aF.zero)]
def pA1 (n m m':Nat) (lp lq:List At) (Ws:List Wk):List Fact:=[.slot 0 (.sl 0 0 n m),.row 0 false lp,.slot 1 (.sl 1 0 n m'),.row 1 false lq,.slot 4 (.pt 4 0),.row 4 true (aP aF.zero)]++wF Ws
def rO (n m m':Nat) (lp lq:List At) (i:Nat) (Ws:List Wk):List Fact:=[.slot 0 (.sl 0 0 n m),.row 0 false lp,.slot 1 (.sl 1 0 n m'),.row 1 false lq,.slot 4 (.pt 4 0),.row 4 true (aP aF.zero),.slot 21 (.im (iI n)),.slot 22 (.im (iI i))]++wF Ws
def pA3 (Ws:List Wk):List Fact:=[.slot 4 (.pt 4 0),.row 4 true (aP aF.zero)]++wF Ws
def cP (T:Tab) (l:List (Nat×Value)):Nat→Cfg:=fun _=>⟨fun _=>T,fun _=>true,assoc l⟩
theorem bFG (n m m':Nat) (lp lq:List At):aU prog q0 EG (cP BJ []) 40 (cA qB) (lC 0 [.s lp n m,.s lq n m']) (pA0 n m m' lp lq)=some ([],.nrm,pA0 n m m' lp lq):=by kernel_rfl
theorem bFF (n m m':Nat) (lp lq:List At):aU prog q0 EG (cP BJ [(13,.bool false),(17,.bool false)]) 40 (cA (cB qB)) (pA0 n m m' lp lq) (pA0 n m m' lp lq)=some ([aI .neq .i64 (Int.ofNat n) (Int.ofNat n)=some (.bool false),aI .gtr .i64 (Int.ofNat n) 256=some (.bool false)],.nrm,pA0 n m m' lp lq):=by kernel_rfl
theorem bFE (n m m':Nat) (lp lq:List At):aU prog q0 EG (cP BJ []) 40 (cA (cB (cB qB))) (pA0 n m m' lp lq) (pA1 n m m' lp lq [])=some ([],.nrm,pA1 n m m' lp lq []):=by kernel_rfl
theorem bFD (n m m':Nat) (lp lq:List At):aU prog q0 EG (cP BJ []) 40 (cA pr3) (pA1 n m m' lp lq []) (rO n m m' lp lq 0 [])=some ([],.nrm,rO n m m' lp lq 0 []):=by kernel_rfl
def qR (i:Nat) (p:Pt Fq) (q:Pt Q2) (a:Fq×Fq) (q':Q2×Q2):EqT:=qPx prog (FE [(28,gH p),(32,eI q),(56,NX a),(60,lI q')]) (FE []) (assoc [(27,i),(31,i),(40,i),(47,i),(55,i),(59,i)]) (assoc [(42,.bool (xK p)),(49,.bool (xK q))]) Yt
def sC {α:Type} (g:α→List At):List α→List At
 | []=>[]
 | x::r=>g x++sC g r
theorem MO {α:Type} (g:α→List At):∀a b:List α,sC g (a++b)=sC g a++sC g b
 | [],b=>rfl
 | x::a,b=>by show g x++sC g (a++b)=(g x++sC g a)++sC g b; rw[MO g a b,List.append_assoc]
theorem WT {α:Type} {g:α→List At} {c:Nat} (h:∀x,dF (g x)=c):∀l:List α,dF (sC g l)=l.length*c
 | []=>by rw[List.length_nil,Nat.zero_mul]; rfl
 | x::r=>by
  show dF (g x++sC g r)=_;rw[yN,h,WT h r,List.length_cons,Nat.succ_mul,Nat.add_comm]
theorem ZT {α:Type} {g:α→List At} {c:Nat} (h:∀x,dF (g x)=c) {l:List α} {j:Nat} {x:α} (hj:l[j]?=some x):gU (sC g l) (0+j*c) c=some (g x):=by
 obtain⟨a,b,rfl,rfl,_⟩:=oX hj;rw[MO,Nat.zero_add,←WT h];show gU (sC g a++(g x++sC g b)) _ c=_;unfold gU;rw[show dF (sC g a)=dF (sC g a)+0 from rfl,GZ,Xg];show tk (g x++sC g b) c=_;have:=SR (g x) (sC g b)
 rwa [h]at this
theorem Hi:∀(x y:List At) (m:Nat),cellAt (x++y) (dF x+m)=cellAt y m
 | [],y,m=>by show cellAt y (0+m)=_; rw[Nat.zero_add]
 | a::x,y,m=>by
  show (bif Nat.blt (a.sz+dF x+m) a.sz then a.cells[a.sz+dF x+m]? else cellAt (x++y) (a.sz+dF x+m-a.sz))=_;have e:Nat.blt (a.sz+dF x+m) a.sz=false:=by
   cases hb:Nat.blt (a.sz+dF x+m) a.sz
   ·rfl
   ·have:a.sz+dF x+m<a.sz:=by simpa using hb
    omega
  rw[e,show a.sz+dF x+m-a.sz=dF x+m by omega];exact Hi x y m
theorem RR {α:Type} {g:α→List At} {c o:Nat} {v:Value} (h:∀x,dF (g x)=c) {l:List α} {j:Nat} {x:α} (hj:l[j]?=some x) (hv:∀y,cellAt (g x++y) o=some v):cellAt (sC g l) (0+j*c+o)=some v:=by
 obtain⟨a,b,rfl,rfl,_⟩:=oX hj;rw[MO,Nat.zero_add,←WT h,Hi];exact hv (sC g b)
def aFE (l:List C1):List At:=sC (fun P=>gH P.1) l
def aFD (l:List C2):List At:=sC (fun P=>eI P.1) l
def rdA (n i:Nat) (lp lq:List At) (p:Pt Fq) (q:Pt Q2):Prop:=i<n∧gU lp (0+i*9) 9=some (gH p)∧gU lq (0+i*17) 17=some (eI q)∧cellAt lp (0+i*9+8)=some (.bool (xK p))∧cellAt lq (0+i*17+16)=some (.bool (xK q))
theorem aUJ {Ps:List C1} {Qs:List C2} {i n:Nat} (hi:i<n) {P:C1} {Q:C2} (hP:Ps[i]?=some P) (hQ:Qs[i]?=some Q):rdA n i (aFE Ps) (aFD Qs) P.1 Q.1 :=
 ⟨hi,ZT (g:=fun P:C1=>gH P.1) (c:=9) (fun _=>rfl) hP,ZT (g:=fun P:C2=>eI P.1) (c:=17) (fun _=>rfl) hQ,RR (g:=fun P:C1=>gH P.1) (c:=9) (o:=8) (v:=.bool (xK P.1)) (fun _=>rfl) hP fun y=>rfl,RR (g:=fun P:C2=>eI P.1) (c:=17) (o:=16) (v:=.bool (xK Q.1)) (fun _=>rfl) hQ fun y=>rfl⟩
def zq:Fq×Fq:=(F1.zero,F1.zero)
def YM:Q2×Q2:=(F2.zero,F2.zero)
def lR (i:Nat):List (Nat×Value):=[(23,.bool true),(64,iI (i+1))]
theorem bCd (n m m' i:Nat) (lp lq:List At):aU prog (qR i none none zq YM) EG (cP (GE none none zq YM) (lR i)) 40 Id (rO n m m' lp lq i []) (rO n m m' lp lq (i+1) [])=some ([aI .lss .i64 (Int.ofNat i) (Int.ofNat n)=some (.bool true),Int.ofNat i=Int.ofNat i,i<n,gU lp (0+i*9) 9=some (gH none),Int.ofNat i=Int.ofNat i,i<n,gU lq (0+i*17) 17=some (eI none),aA (gH none)=aA (gH none),aA (eI none)=aA (eI none),Int.ofNat i=Int.ofNat i,i<n,cellAt lp (0+i*9+8)=some (.bool (xK (none:Pt Fq))),aI .add .i64 (Int.ofNat i) 1=some (iI (i+1))],.nrm,rO n m m' lp lq (i+1) []):=by kernel_rfl
theorem bCb (n m m' i:Nat) (lp lq:List At) (q:Q2×Q2):aU prog (qR i none (some q) zq YM) EG (cP (GE none (some q) zq YM) (lR i)) 40 Id (rO n m m' lp lq i []) (rO n m m' lp lq (i+1) [])=some ([aI .lss .i64 (Int.ofNat i) (Int.ofNat n)=some (.bool true),Int.ofNat i=Int.ofNat i,i<n,gU lp (0+i*9) 9=some (gH none),Int.ofNat i=Int.ofNat i,i<n,gU lq (0+i*17) 17=some (eI (some q)),aA (gH none)=aA (gH none),aA (eI (some q))=aA (eI (some q)),Int.ofNat i=Int.ofNat i,i<n,cellAt lp (0+i*9+8)=some (.bool (xK (none:Pt Fq))),aI .add .i64 (Int.ofNat i) 1=some (iI (i+1))],.nrm,rO n m m' lp lq (i+1) []):=by kernel_rfl
theorem bFQ (n m m' i:Nat) (lp lq:List At) (a:Fq×Fq):aU prog (qR i (some a) none zq YM) EG (cP (GE (some a) none zq YM) (lR i)) 40 Id (rO n m m' lp lq i []) (rO n m m' lp lq (i+1) [])=some ([aI .lss .i64 (Int.ofNat i) (Int.ofNat n)=some (.bool true),Int.ofNat i=Int.ofNat i,i<n,gU lp (0+i*9) 9=some (gH (some a)),Int.ofNat i=Int.ofNat i,i<n,gU lq (0+i*17) 17=some (eI none),aA (gH (some a))=aA (gH (some a)),aA (eI none)=aA (eI none),Int.ofNat i=Int.ofNat i,i<n,cellAt lp (0+i*9+8)=some (.bool (xK (some a))),Int.ofNat i=Int.ofNat i,i<n,cellAt lq (0+i*17+16)=some (.bool (xK (none:Pt Q2))),aI .add .i64 (Int.ofNat i) 1=some (iI (i+1))],.nrm,rO n m m' lp lq (i+1) []):=by kernel_rfl
theorem bCc (n m m' i:Nat) (lp lq:List At) (W:Wk) (r:List Wk):aU prog (qR i none none zq YM) EG (cP (GE none none zq YM) (lR i)) 40 Id (rO n m m' lp lq i (W::r)) (rO n m m' lp lq (i+1) (W::r))=some ([aI .lss .i64 (Int.ofNat i) (Int.ofNat n)=some (.bool true),Int.ofNat i=Int.ofNat i,i<n,gU lp (0+i*9) 9=some (gH none),Int.ofNat i=Int.ofNat i,i<n,gU lq (0+i*17) 17=some (eI none),aA (gH none)=aA (gH none),aA (eI none)=aA (eI none),Int.ofNat i=Int.ofNat i,i<n,cellAt lp (0+i*9+8)=some (.bool (xK (none:Pt Fq))),aI .add .i64 (Int.ofNat i) 1=some (iI (i+1))],.nrm,rO n m m' lp lq (i+1) (W::r)):=by kernel_rfl
theorem bCa (n m m' i:Nat) (lp lq:List At) (q:Q2×Q2) (W:Wk) (r:List Wk):aU prog (qR i none (some q) zq YM) EG (cP (GE none (some q) zq YM) (lR i)) 40 Id (rO n m m' lp lq i (W::r)) (rO n m m' lp lq (i+1) (W::r))=some ([aI .lss .i64 (Int.ofNat i) (Int.ofNat n)=some (.bool true),Int.ofNat i=Int.ofNat i,i<n,gU lp (0+i*9) 9=some (gH none),Int.ofNat i=Int.ofNat i,i<n,gU lq (0+i*17) 17=some (eI (some q)),aA (gH none)=aA (gH none),aA (eI (some q))=aA (eI (some q)),Int.ofNat i=Int.ofNat i,i<n,cellAt lp (0+i*9+8)=some (.bool (xK (none:Pt Fq))),aI .add .i64 (Int.ofNat i) 1=some (iI (i+1))],.nrm,rO n m m' lp lq (i+1) (W::r)):=by kernel_rfl
theorem bFP (n m m' i:Nat) (lp lq:List At) (a:Fq×Fq) (W:Wk) (r:List Wk):aU prog (qR i (some a) none zq YM) EG (cP (GE (some a) none zq YM) (lR i)) 40 Id (rO n m m' lp lq i (W::r)) (rO n m m' lp lq (i+1) (W::r))=some ([aI .lss .i64 (Int.ofNat i) (Int.ofNat n)=some (.bool true),Int.ofNat i=Int.ofNat i,i<n,gU lp (0+i*9) 9=some (gH (some a)),Int.ofNat i=Int.ofNat i,i<n,gU lq (0+i*17) 17=some (eI none),aA (gH (some a))=aA (gH (some a)),aA (eI none)=aA (eI none),Int.ofNat i=Int.ofNat i,i<n,cellAt lp (0+i*9+8)=some (.bool (xK (some a))),Int.ofNat i=Int.ofNat i,i<n,cellAt lq (0+i*17+16)=some (.bool (xK (none:Pt Q2))),aI .add .i64 (Int.ofNat i) 1=some (iI (i+1))],.nrm,rO n m m' lp lq (i+1) (W::r)):=by kernel_rfl
theorem bFO (n m m' i:Nat) (lp lq:List At) (a:Fq×Fq) (q:Q2×Q2):aU prog (qR i (some a) (some q) a q) EG (cP (GE (some a) (some q) a q) (lR i)) 40 Id (rO n m m' lp lq i []) (rO n m m' lp lq (i+1) [bW (a,q)])=some ([aI .lss .i64 (Int.ofNat i) (Int.ofNat n)=some (.bool true),Int.ofNat i=Int.ofNat i,i<n,gU lp (0+i*9) 9=some (gH (some a)),Int.ofNat i=Int.ofNat i,i<n,gU lq (0+i*17) 17=some (eI (some q)),aA (gH (some a))=aA (gH (some a)),aA (eI (some q))=aA (eI (some q)),Int.ofNat i=Int.ofNat i,i<n,cellAt lp (0+i*9+8)=some (.bool (xK (some a))),Int.ofNat i=Int.ofNat i,i<n,cellAt lq (0+i*17+16)=some (.bool (xK (some q))),Int.ofNat i=Int.ofNat i,i<n,gU lp (0+i*9) 9=some (NX a),Int.ofNat i=Int.ofNat i,i<n,gU lq (0+i*17) 17=some (lI q),aA (NX a)=aA (NX a),aA (lI q)=aA (lI q),aI .add .i64 (Int.ofNat i) 1=some (iI (i+1))],.nrm,rO n m m' lp lq (i+1) [bW (a,q)]):=by kernel_rfl
theorem bFN (n m m' i:Nat) (lp lq:List At) (a:Fq×Fq) (q:Q2×Q2) (W0:Wk):aU prog (qR i (some a) (some q) a q) EG (cP (GE (some a) (some q) a q) (lR i)) 40 Id (rO n m m' lp lq i [W0]) (rO n m m' lp lq (i+1) [W0,bW (a,q)])=some ([aI .lss .i64 (Int.ofNat i) (Int.ofNat n)=some (.bool true),Int.ofNat i=Int.ofNat i,i<n,gU lp (0+i*9) 9=some (gH (some a)),Int.ofNat i=Int.ofNat i,i<n,gU lq (0+i*17) 17=some (eI (some q)),aA (gH (some a))=aA (gH (some a)),aA (eI (some q))=aA (eI (some q)),Int.ofNat i=Int.ofNat i,i<n,cellAt lp (0+i*9+8)=some (.bool (xK (some a))),Int.ofNat i=Int.ofNat i,i<n,cellAt lq (0+i*17+16)=some (.bool (xK (some q))),Int.ofNat i=Int.ofNat i,i<n,gU lp (0+i*9) 9=some (NX a),Int.ofNat i=Int.ofNat i,i<n,gU lq (0+i*17) 17=some (lI q),aA (NX a)=aA (NX a),aA (lI q)=aA (lI q),aI .add .i64 (Int.ofNat i) 1=some (iI (i+1))],.nrm,rO n m m' lp lq (i+1) [W0,bW (a,q)]):=by kernel_rfl
theorem bFM (n m m' i:Nat) (lp lq:List At) (a:Fq×Fq) (q:Q2×Q2) (W0 W1:Wk):aU prog (qR i (some a) (some q) a q) EG (cP (GE (some a) (some q) a q) (lR i)) 40 Id (rO n m m' lp lq i [W0,W1]) (rO n m m' lp lq (i+1) [W0,W1,bW (a,q)])=some ([aI .lss .i64 (Int.ofNat i) (Int.ofNat n)=some (.bool true),Int.ofNat i=Int.ofNat i,i<n,gU lp (0+i*9) 9=some (gH (some a)),Int.ofNat i=Int.ofNat i,i<n,gU lq (0+i*17) 17=some (eI (some q)),aA (gH (some a))=aA (gH (some a)),aA (eI (some q))=aA (eI (some q)),Int.ofNat i=Int.ofNat i,i<n,cellAt lp (0+i*9+8)=some (.bool (xK (some a))),Int.ofNat i=Int.ofNat i,i<n,cellAt lq (0+i*17+16)=some (.bool (xK (some q))),Int.ofNat i=Int.ofNat i,i<n,gU lp (0+i*9) 9=some (NX a),Int.ofNat i=Int.ofNat i,i<n,gU lq (0+i*17) 17=some (lI q),aA (NX a)=aA (NX a),aA (lI q)=aA (lI q),aI .add .i64 (Int.ofNat i) 1=some (iI (i+1))],.nrm,rO n m m' lp lq (i+1) [W0,W1,bW (a,q)]):=by kernel_rfl
theorem bFL (n m m' i:Nat) (lp lq:List At) (a:Fq×Fq) (q:Q2×Q2) (W0 W1 W2:Wk):aU prog (qR i (some a) (some q) a q) EG (cP (GE (some a) (some q) a q) (lR i)) 40 Id (rO n m m' lp lq i [W0,W1,W2]) (rO n m m' lp lq (i+1) [W0,W1,W2,bW (a,q)])=some ([aI .lss .i64 (Int.ofNat i) (Int.ofNat n)=some (.bool true),Int.ofNat i=Int.ofNat i,i<n,gU lp (0+i*9) 9=some (gH (some a)),Int.ofNat i=Int.ofNat i,i<n,gU lq (0+i*17) 17=some (eI (some q)),aA (gH (some a))=aA (gH (some a)),aA (eI (some q))=aA (eI (some q)),Int.ofNat i=Int.ofNat i,i<n,cellAt lp (0+i*9+8)=some (.bool (xK (some a))),Int.ofNat i=Int.ofNat i,i<n,cellAt lq (0+i*17+16)=some (.bool (xK (some q))),Int.ofNat i=Int.ofNat i,i<n,gU lp (0+i*9) 9=some (NX a),Int.ofNat i=Int.ofNat i,i<n,gU lq (0+i*17) 17=some (lI q),aA (NX a)=aA (NX a),aA (lI q)=aA (lI q),aI .add .i64 (Int.ofNat i) 1=some (iI (i+1))],.nrm,rO n m m' lp lq (i+1) [W0,W1,W2,bW (a,q)]):=by kernel_rfl
theorem bFK (n m m' i:Nat) (lp lq:List At) (a:Fq×Fq) (q:Q2×Q2) (W0 W1 W2 W3:Wk):aU prog (qR i (some a) (some q) a q) EG (cP (GE (some a) (some q) a q) (lR i)) 40 Id (rO n m m' lp lq i [W0,W1,W2,W3]) (rO n m m' lp lq (i+1) [W0,W1,W2,W3,bW (a,q)])=some ([aI .lss .i64 (Int.ofNat i) (Int.ofNat n)=some (.bool true),Int.ofNat i=Int.ofNat i,i<n,gU lp (0+i*9) 9=some (gH (some a)),Int.ofNat i=Int.ofNat i,i<n,gU lq (0+i*17) 17=some (eI (some q)),aA (gH (some a))=aA (gH (some a)),aA (eI (some q))=aA (eI (some q)),Int.ofNat i=Int.ofNat i,i<n,cellAt lp (0+i*9+8)=some (.bool (xK (some a))),Int.ofNat i=Int.ofNat i,i<n,cellAt lq (0+i*17+16)=some (.bool (xK (some q))),Int.ofNat i=Int.ofNat i,i<n,gU lp (0+i*9) 9=some (NX a),Int.ofNat i=Int.ofNat i,i<n,gU lq (0+i*17) 17=some (lI q),aA (NX a)=aA (NX a),aA (lI q)=aA (lI q),aI .add .i64 (Int.ofNat i) 1=some (iI (i+1))],.nrm,rO n m m' lp lq (i+1) [W0,W1,W2,W3,bW (a,q)]):=by kernel_rfl
theorem p_x (n m m' i:Nat) (lp lq:List At):aU prog q0 EG (cP BJ [(23,.bool false)]) 40 Id (rO n m m' lp lq i []) (pA3 [])=some ([aI .lss .i64 (Int.ofNat i) (Int.ofNat n)=some (.bool false)],.ex 0,pA3 []):=by kernel_rfl
theorem p_y (n m m' i:Nat) (lp lq:List At) (W:Wk) (r:List Wk):aU prog q0 EG (cP BJ [(23,.bool false)]) 40 Id (rO n m m' lp lq i (W::r)) (pA3 (W::r))=some ([aI .lss .i64 (Int.ofNat i) (Int.ofNat n)=some (.bool false)],.ex 0,pA3 (W::r)):=by kernel_rfl
abbrev Pq:=(Fq×Fq)×(Q2×Q2)
def GA:Pt Fq→Pt Q2→List Pq
 | some a,some q=>[(a,q)]
 | _,_=>[]
def kH:List (C1×C2)→List Pq
 | []=>[]
 | x::r=>GA x.1.1 x.2.1++kH r
theorem Gm:∀a b:List (C1×C2),kH (a++b)=kH a++kH b
 | [],b=>rfl
 | x::a,b=>by show GA _ _++kH (a++b)=(GA _ _++kH a)++kH b; rw[Gm a b,List.append_assoc]
theorem MC:∀l:List (C1×C2),(kH l).length≤l.length
 | []=>Nat.le_refl _
 | x::r=>by
  show (GA x.1.1 x.2.1++kH r).length≤r.length+1;rw[List.length_append];have h:=MC r;have h2:(GA x.1.1 x.2.1).length≤1:=by unfold GA; split<;>simp
  omega
theorem aCu {L:List (C1×C2)} {i:Nat} {x:C1×C2} (h:L[i]?=some x):kH (L.take (i+1))=kH (L.take i)++GA x.1.1 x.2.1:=by
 obtain⟨a,b,_,_,h1,_,h2,_⟩:=oX h;rw[h1,h2,Gm];show kH a++(GA x.1.1 x.2.1++[])=_;rw[List.append_nil]
theorem Wq:∀(l:List (C1×C2)),∀x∈kH l,On F2 dO (some x.2)
 | [],x,h=>by cases h
 | y::r,x,h=>by
  rcases List.mem_append.1 h with h|h
  ·obtain⟨⟨p,hp⟩,⟨q,hq⟩⟩:=y;cases p with
   | none=>cases h
   | some a =>
    cases q with
    | none=>cases h
    | some q=>cases List.mem_singleton.1 h; exact hq
  ·exact Wq r x h
section
variable {n m m' i base:Nat} {lp lq:List At} {w0 w:World} {a:Act} {Q0:Exit→Act→World→Prop}
theorem lM {T:Tab} (h:TabOk prog T) (l:List (Nat×Value)):∀n d,TabOkW prog ((cP T l n).T d) base w0:=fun _ _=>h.w _ _
theorem aFn (x:C1×C2) (hG:nI x.2) (hr:rdA n i lp lq x.1.1 x.2.1) (hn:n≤5) {l:List Pq} (hl:l.length≤i) (h:Holds EG base w0 (rO n m m' lp lq i (l.map bW)) a w)
  {R:Act→World→Prop} (hR:∀a w,Holds EG base w0 (rO n m m' lp lq (i+1) ((l++GA x.1.1 x.2.1).map bW)) a w→R a w):Id.wp prog (Exit.then R Q0) a w:=by
 obtain⟨hi,s1,s2,c1,c2⟩:=hr;obtain⟨⟨p,hp⟩,⟨q,hq⟩⟩:=x;have hk:=fun y z=>bCj ⟨p,hp⟩ (Q:=⟨q,hq⟩) hG y z
 have ha:aI .add .i64 (Int.ofNat i) 1=some (iI (i+1)):=mO (k:=1) (by omega);dsimp only at s1 s2 c1 c2 hk hR;cases p with
 | none =>
  have e:l++GA none q=l:=List.append_nil l;rw[e]at hR;cases q with
  | none =>
   cases hW:l.map bW with
   | nil=>rw[hW]at h hR; exact aD aE (lM (hk zq YM) _) (kO (fM _) _ _) (bCd n m m' i lp lq) ⟨cJ hi,rfl,hi,s1,rfl,hi,s2,rfl,rfl,rfl,hi,c1,ha,trivial⟩ h fun a w hA=>hR a w hA
   | cons W r=>rw[hW]at h hR; exact aD aE (lM (hk zq YM) _) (kO (fM _) _ _) (bCc n m m' i lp lq W r) ⟨cJ hi,rfl,hi,s1,rfl,hi,s2,rfl,rfl,rfl,hi,c1,ha,trivial⟩ h fun a w hA=>hR a w hA
  | some q =>
   cases hW:l.map bW with
   | nil=>rw[hW]at h hR; exact aD aE (lM (hk zq YM) _) (kO (fM _) _ _) (bCb n m m' i lp lq q) ⟨cJ hi,rfl,hi,s1,rfl,hi,s2,rfl,rfl,rfl,hi,c1,ha,trivial⟩ h fun a w hA=>hR a w hA
   | cons W r=>rw[hW]at h hR; exact aD aE (lM (hk zq YM) _) (kO (fM _) _ _) (bCa n m m' i lp lq q W r) ⟨cJ hi,rfl,hi,s1,rfl,hi,s2,rfl,rfl,rfl,hi,c1,ha,trivial⟩ h fun a w hA=>hR a w hA
 | some pa =>
  cases q with
  | none =>
   have e:l++GA (some pa) none=l:=List.append_nil l;rw[e]at hR;cases hW:l.map bW with
   | nil=>rw[hW]at h hR; exact aD aE (lM (hk zq YM) _) (kO (fM _) _ _) (bFQ n m m' i lp lq pa) ⟨cJ hi,rfl,hi,s1,rfl,hi,s2,rfl,rfl,rfl,hi,c1,rfl,hi,c2,ha,trivial⟩ h fun a w hA=>hR a w hA
   | cons W r=>rw[hW]at h hR; exact aD aE (lM (hk zq YM) _) (kO (fM _) _ _) (bFP n m m' i lp lq pa W r) ⟨cJ hi,rfl,hi,s1,rfl,hi,s2,rfl,rfl,rfl,hi,c1,rfl,hi,c2,ha,trivial⟩ h fun a w hA=>hR a w hA
  | some qq =>
   have e:(l++GA (some pa) (some qq)).map bW=l.map bW++[bW (pa,qq)]:=List.map_append;rw[e]at hR;have hlW:(l.map bW).length≤4:=by rw[List.length_map]; omega
   match hW:l.map bW,hlW with
   | [],_=>rw[hW]at h hR; exact aD aE (lM (hk pa qq) _) (kO (fM _) _ _) (bFO n m m' i lp lq pa qq) ⟨cJ hi,rfl,hi,s1,rfl,hi,s2,rfl,rfl,rfl,hi,c1,rfl,hi,c2,rfl,hi,s1,rfl,hi,s2,rfl,rfl,ha,trivial⟩ h fun a w hA=>hR a w hA
   | [W0],_=>rw[hW]at h hR; exact aD aE (lM (hk pa qq) _) (kO (fM _) _ _) (bFN n m m' i lp lq pa qq W0) ⟨cJ hi,rfl,hi,s1,rfl,hi,s2,rfl,rfl,rfl,hi,c1,rfl,hi,c2,rfl,hi,s1,rfl,hi,s2,rfl,rfl,ha,trivial⟩ h fun a w hA=>hR a w hA
   | [W0,W1],_=>rw[hW]at h hR; exact aD aE (lM (hk pa qq) _) (kO (fM _) _ _) (bFM n m m' i lp lq pa qq W0 W1) ⟨cJ hi,rfl,hi,s1,rfl,hi,s2,rfl,rfl,rfl,hi,c1,rfl,hi,c2,rfl,hi,s1,rfl,hi,s2,rfl,rfl,ha,trivial⟩ h fun a w hA=>hR a w hA
   | [W0,W1,W2],_=>rw[hW]at h hR; exact aD aE (lM (hk pa qq) _) (kO (fM _) _ _) (bFL n m m' i lp lq pa qq W0 W1 W2) ⟨cJ hi,rfl,hi,s1,rfl,hi,s2,rfl,rfl,rfl,hi,c1,rfl,hi,c2,rfl,hi,s1,rfl,hi,s2,rfl,rfl,ha,trivial⟩ h fun a w hA=>hR a w hA
   | [W0,W1,W2,W3],_=>rw[hW]at h hR; exact aD aE (lM (hk pa qq) _) (kO (fM _) _ _) (bFK n m m' i lp lq pa qq W0 W1 W2 W3) ⟨cJ hi,rfl,hi,s1,rfl,hi,s2,rfl,rfl,rfl,hi,c1,rfl,hi,c2,rfl,hi,s1,rfl,hi,s2,rfl,rfl,ha,trivial⟩ h fun a w hA=>hR a w hA
   | _::_::_::_::_::_,h5=>exact absurd h5 (by simp)
theorem aBz {L:List (C1×C2)} (hn:L.length=n) (h5:n≤5) (hG:∀x∈L,nI x.2) (hlp:lp=aFE (L.map Prod.fst)) (hlq:lq=aFD (L.map Prod.snd)) (h:Holds EG base w0 (rO n m m' lp lq 0 []) a w)
  (hQ:∀a w,Holds EG base w0 (pA3 ((kH L).map bW)) a w→Q0 .normal a w):(Code.block 0 (.loop Id)).wp prog Q0 a w:=by
 refine wp_block ?_;refine rW (fun i a w=>Holds EG base w0 (rO n m m' lp lq i ((kH (L.take i)).map bW)) a w) n (fun i hi a w hA R hR => ?_) (fun a w hA R => ?_) (by rw[List.take_zero]; exact h)
 ·obtain⟨x,hx⟩:∃x,L[i]?=some x:=⟨_,List.getElem?_eq_getElem (by omega)⟩
  have hlen:(kH (L.take i)).length≤i:=Nat.le_trans (MC _) (by rw[List.length_take]; omega);refine aFn x (hG x (List.mem_of_getElem? hx)) ?_ h5 hlen hA fun a w hA => ?_
  ·rw[hlp,hlq];exact aUJ hi (by rw[List.getElem?_map,hx]; rfl) (by rw[List.getElem?_map,hx]; rfl)
  ·rw[←aCu hx]at hA;exact hR a w hA
 ·have e:L.take n=L:=by rw[←hn,List.take_length]
  rw[e]at hA;cases hW:(kH L).map bW with
  | nil =>
   rw[hW]at hA hQ;exact aD aE (lM rQ _) (iT _ _) (p_x n m m' n lp lq) ⟨fP (Nat.le_refl _),trivial⟩ hA fun a w hA=>hQ a w hA
  | cons W r =>
   rw[hW]at hA hQ;exact aD aE (lM rQ _) (iT _ _) (p_y n m m' n lp lq W r) ⟨fP (Nat.le_refl _),trivial⟩ hA fun a w hA=>hQ a w hA
end
def aXA:kC
 | [.v (.im v)]=>some ([v=.slice none 0 0],.one (.fl (aP aF.one)))
 | _=>none
theorem aOX:∀cs pre r,aXA cs=some (pre,r)→bC pre→∀(args:List Value) (w:World),bZ w cs args→Good prog 54 r args w:=by
 intro cs pre r hg hp args w ha;unfold aXA at hg;split at hg
 ·cases hg;obtain⟨rfl,_⟩:=hp;exact aB aE (fun _ _=>bCl) (aJ _) func54 aMp ⟨rfl,trivial⟩ ha
 ·cases hg
def aCV:Tab:=(BJ.add 54 aXA).add 53 (g1 sO oLa)
theorem aGM:TabOk prog aCV:=(rQ.ad func54 aOX).ad func53 (bP (op:=oLa) fK fun z hp args w ha=>wla z hp.1 args w ha)
def pZ (z:aQ):List Fact:=[.slot 4 (.pt 4 0),.row 4 true (aP (lY z)),.slot 5 (.im (.int .i64 0))]
theorem bFJ:aU prog q0 EG (cP aCV []) 40 pr4 (pA3 []) (pZ aF.one)=some ([Value.slice none 0 0=.slice none 0 0,aF.one≠aF.zero],.rt,pZ aF.one):=by kernel_rfl
def pB1 (W:Wk) (r:List Wk):List Fact:=[.slot 4 (.pt 4 0),.row 4 true (aP aF.zero),.slot 65 (.so 63 (r.length+1)),.row 63 true (rows (W::r))]
def pB2 (z:aQ):List Fact:=[.slot 4 (.pt 4 0),.row 4 true (aP aF.zero),.slot 66 (.fl (aP z))]
theorem bFI (W:Wk) (r:List Wk):tX prog q0 EG (cP aCV [] 0) ((cZ (cA pr4)).extract 0 1) (pA3 (W::r)) (pB1 W r)=some ([],pB1 W r):=by kernel_rfl
theorem bFH (z:aQ):tX prog q0 EG (cP aCV [] 0) ((cZ (cA pr4)).extract 2 5) (pB2 z) (pZ z)=some ([z≠aF.zero],pZ z):=by kernel_rfl
theorem aFT:pr4=.seq (cA pr4) .ret:=by kernel_rfl
theorem aFU {base:Nat} {β:Nat→Bk} {a:Act} {w w':World} {d k b:Nat} {M:List Fact} {l0 l':List At} (v:TV) (h:d<a.tmps.size) (hkd:k≠d) (hrow:Fact.row k true l0∈M) (hat:Fact.at k b∈M) (hM:∀φ∈M,φ.ok base β a w)
  (hwr:WrC w w' b) (hrg:w'.rangeAt b 0 (aA l')):PostB base β β a w (some d) M [.slot d v.av,.row k true l'] (some k) (a.put (some d) v.den) w':=by
 obtain⟨r1,r2,r3,r4⟩:=hM _ hrow;obtain⟨r5,r6,r7⟩:=r3 rfl;obtain⟨e1,e2⟩:=hM _ hat;refine⟨oL _ _ _,gS _ _ _,fun s hs=>oK _ _ _ _ hs,fun _ _=>rfl,hwr.below.size,fun p hp hne=>hwr.mem p hp (by rw[←e1]; exact hne k rfl),hwr.shape,fun w0 h0=>h0.trans (hwr.below.mono (by omega)),fun φ hφ => ?_,fun k' l1 hk => ?_,fun k1 k2 l1 l2 hk hk' => ?_,fun k' hk => ?_⟩
 ·simp only[List.mem_cons,List.not_mem_nil,or_false]at hφ
  rcases hφ with rfl|rfl
  ·show (a.put (some d) _).tmps[d]?=_;rw[kP _ _ _ h,TV.av_den]
  ·exact⟨Nat.lt_of_lt_of_le r1 hwr.below.size,by rw[e1,e2]; exact hrg,fun _=>⟨r5,r6,fun q=>by rw[e1]; exact hwr.free q⟩,fun h=>by cases h⟩
 ·simp only[List.mem_cons,List.not_mem_nil,or_false]at hk
  rcases hk with hk|hk
  ·cases v<;>cases hk
  ·cases hk;exact Or.inr (Or.inl ⟨fun e=>hkd (by injection e with e; exact e.symm),l0,hrow⟩)
 ·simp only[List.mem_cons,List.not_mem_nil,or_false]at hk hk'
  rcases hk with hk|hk
  ·cases v<;>cases hk
  ·rcases hk' with hk'|hk'
   ·cases v<;>cases hk'
   ·cases hk; cases hk'; rfl
 ·cases hk;exact⟨l0,hrow⟩
theorem Holds.soAt {nt base:Nat} {w0:World} {A:List Fact} {a:Act} {w:World} (h:Holds nt base w0 A a w) {s k n b:Nat} {l:List At} (h1:Fact.slot s (.so k n)∈A) (h2:Fact.at k b∈A) (h3:Fact.row k true l∈A):∃cap,a.tmps[s]?=some (lQ b 0 n cap)∧Own w b l:=by
 obtain⟨β,g1,_⟩:=h.facts;have e1:=g1 _ h1;have e2:=g1 _ h2;obtain⟨e3,e4,e5,_⟩:=g1 _ h3;obtain⟨_,_,e6⟩:=e5 rfl;simp only[Fact.ok]at e1 e2;refine⟨(β k).2.2,by rw[e1]; simp[AV.den,e2,lQ],by rw[←e2.1]; exact e3,?_,fun j=>by rw[←e2.1]; exact e6 j⟩;rw[e2.1,e2.2]at e4;exact e4
theorem Mx {R:Type} (K:CR R) (x:R) (l:List R):fC K (x::l)=K.mul x (fC K l):=rfl
theorem aBJ (M:Pq→aQ) (x:Pq) (l:List Pq):fC aF ((x::l).map M)=aF.mul (M x) (fC aF (l.map M)):=by rw[List.map_cons,Mx]
theorem aKq (M:Pq→aQ) (hM:∀(a:Fq×Fq) (q:Q2×Q2) (hp:On F1 (fm 3) (some a)) (hq:On F2 dO (some q)),nI ⟨some q,hq⟩→M (a,q)≠aF.zero∧lv (M (a,q))=wW ⟨some a,hp⟩ ⟨some q,hq⟩) :
  ∀L:List (C1×C2),(∀x∈L,nI x.2)→fC aF ((kH L).map M)≠aF.zero∧lv (fC aF ((kH L).map M))=L.foldr (fun x s=>vg.add (wW x.1 x.2) s) vg.zero
 | [],_=>⟨lK.1,CZ ⟨lK.1,GT⟩⟩
 | x::r,hG=>by
  obtain⟨h1,h2⟩:=aKq M hM r fun y hy=>hG y (List.mem_cons_of_mem _ hy)
  have hx:=hG x List.mem_cons_self;obtain⟨⟨p,hp⟩,⟨q,hq⟩⟩:=x;rw[List.foldr_cons,←h2];cases p with
  | none =>
   have e:wW ⟨none,hp⟩ ⟨q,hq⟩=vg.zero:=aKk hx;have ef:kH ((⟨none,hp⟩,⟨q,hq⟩)::r)=kH r:=by cases q<;>rfl
   rw[ef];dsimp only;rw[e,vg.zadd];exact⟨h1,rfl⟩
  | some a =>
   cases q with
   | none =>
    have e:wW ⟨some a,hp⟩ ⟨none,hq⟩=vg.zero:=aKj _;have ef:kH ((⟨some a,hp⟩,⟨none,hq⟩)::r)=kH r:=rfl;rw[ef];dsimp only;rw[e,vg.zadd];exact⟨h1,rfl⟩
   | some q =>
    obtain⟨m1,m2⟩:=hM a q hp hq hx;have ef:kH ((⟨some a,hp⟩,⟨some q,hq⟩)::r)=(a,q)::kH r:=rfl;rw[ef,aBJ];dsimp only;rw[←m2,VA m1 h1];exact⟨pF m1 h1,rfl⟩
theorem aOx (L:List (C1×C2)) (hG:∀x∈L,nI x.2):fC aF ((kH L).map fun x=>mil x.1 x.2)≠aF.zero∧lv (fC aF ((kH L).map fun x=>mil x.1 x.2))=L.foldr (fun x s=>vg.add (wW x.1 x.2) s) vg.zero :=
 aKq (fun x=>mil x.1 x.2) (fun a q hp hq h=>Vn (P:=⟨some a,hp⟩) (a:=a) rfl (Q:=⟨some q,hq⟩) (q:=q) rfl h) L hG
def GD (L:List (C1×C2)):Vq:=L.foldr (fun x s=>vg.add (wW x.1 x.2) s) vg.zero
theorem Fw (L:List (C1×C2)) (hG:∀x∈L,nI x.2):AR (kH L)≠aF.zero∧lY (AR (kH L))=(GD L).1:=by
 obtain⟨h1,h2⟩:=aOx L hG;rw[Fx];refine⟨h1,?_⟩;rw[←dK h1,h2];rfl
theorem Dt {w w':World} {a:Act} {z:aQ} (hA:Holds EG w.heap.size w (pZ z) a w'):bodyPost prog f20 (fun e w'=>e=.returned (RV.many [.fl (aP (lY z)),.im (.int .i64 0)]).den∧Below w.heap.size w w') .ret a w' :=
 eF (l:=[.fl (aP (lY z)),.im (.int .i64 0)]) (by kernel_rfl) (by kernel_rfl) hA
theorem aCv (l:List Pq) (h:l=[]):AR l=aF.one:=by
 rw[h,Fx];rfl
theorem qA (L:List (C1×C2)) (h5:L.length≤5) (hG:∀x∈L,nI x.2) {m m':Nat} {args:List Value} {w:World} (ha:bZ w [.s (aFE (L.map Prod.fst)) L.length m,.s (aFD (L.map Prod.snd)) L.length m'] args) :
  Good prog 20 (.many [.fl (aP (GD L).1),.im (.int .i64 0)]) args w:=by
 obtain⟨hz,hv⟩:=Fw L hG;rw[←hv];refine dL func20 (c:=qB) rfl ha (Nat.le_of_ble_eq_true (by kernel_rfl)) fun a w1 hA => ?_
 rw[aNC];refine wp_seq (aD aE (lM rQ _) (iT _ _) (bFG L.length m m' _ _) trivial hA fun a w2 hA => ?_);refine wp_seq (aD aE (lM rQ _) (iT _ _) (bFF L.length m m' _ _) ⟨by rw[aGZ,decide_eq_false (fun h=>h rfl)],by rw[show (256:Int)=Int.ofNat 256 from rfl,EM,decide_eq_false (by omega)],trivial⟩ hA fun a w3 hA => ?_);refine wp_seq (aD aE (lM rQ _) (iT _ _) (bFE L.length m m' _ _) trivial hA fun a w4 hA => ?_);refine wp_seq (wp_seq (aD aE (lM rQ _) (iT _ _) (bFD L.length m m' _ _) trivial hA fun a w5 hA => ?_));refine aBz rfl h5 hG rfl rfl hA fun a w6 hA => ?_
 clear hv;cases hf:kH L with
 | nil =>
  rw[hf]at hA hz;rw[aCv [] rfl]at hz ⊢;exact aD aE (lM aGM _) (iT _ _) bFJ ⟨rfl,hz,trivial⟩ hA fun a w7 hA=>Dt hA
 | cons x r =>
  have hon:∀y∈(x::r:List Pq),On F2 dO (some y.2):=fun y hy=>Wq L y (by rw[hf]; exact hy)
  have hlen:(x::r:List Pq).length<4611686018427387904:=by
   have:=MC L;rw[hf]at this;omega
  rw[hf]at hA hz;show pr4.wp _ _ _ _;rw[aFT];refine wp_seq (vT (l:=List.range' 0 ((cZ (cA pr4)).extract 0 1).size++(1::(List.range' 2 ((cZ (cA pr4)).extract 2 5).size++[]))) (by kernel_rfl) ?_);refine cT (c:=cP aCV [] 0) (fun d=>aGM.w _ _) (iT _ _) (bFI (bW x) (r.map bW)) trivial (by kernel_rfl) hA fun a w7 hA => ?_
  obtain⟨b,hA⟩:=hA.at (k:=63) (l:=rows (bW x::r.map bW)) (by simp[pB1]);obtain⟨cap,h65,hO⟩:=hA.soAt (s:=65) (k:=63) (n:=(r.map bW).length+1) (b:=b) (l:=rows (bW x::r.map bW)) (by simp[pB1]) (by simp) (by simp[pB1]);rw[List.length_map]at h65;obtain⟨L',hc⟩:=aCm (x::r) hlen hon (b:=b) (m:=cap) (w:=w7) hO;obtain⟨o,ho,hoo,hod,hog⟩:∃o,(cZ (cA pr4))[1]?=some o∧(∃ts,o.op=.call ⟨.value (.func 54),#[.tmp 65],ts⟩)∧o.dst=some 66∧o.guard=none:=⟨_,rfl,⟨_,rfl⟩,rfl,rfl⟩
  obtain⟨ts,hoo⟩:=hoo;refine nV ho hog (IS hoo (vs:=[lQ b 0 (x::r).length cap]) (by simp[Act.eval,h65]) (iJ func54 (by kernel_rfl) (by kernel_rfl) · _) hc fun e w8 hR => ?_);obtain⟨rfl,h1,h2⟩:=hR;refine⟨_,rfl,?_⟩;rw[hod];have hA:=hA.post (dst:=some 66) (kill:=some 63) fun β hβ=>⟨_,aFU (l0:=rows (bW x::r.map bW)) (b:=b) (.fl (aP (AR (x::r)))) (by rw[hA.size]; exact Nat.le_of_ble_eq_true (by kernel_rfl)) (by decide) (by simp[pB1]) (by simp) hβ h1 h2⟩
  have hA:=hA.sub (A':=pB2 (AR (x::r))) fun φ hφ=>by
   simp only[pB2,List.mem_cons,List.not_mem_nil,or_false]at hφ
   rcases hφ with rfl|rfl|rfl
   ·exact List.mem_append_right _ (List.mem_filter.2 ⟨by simp[pB1],rfl⟩)
   ·exact List.mem_append_right _ (List.mem_filter.2 ⟨by simp[pB1],rfl⟩)
   ·exact List.mem_append_left _ List.mem_cons_self
  exact cT (c:=cP aCV [] 0) (fun d=>aGM.w _ _) (iT _ _) (bFH (AR (x::r))) ⟨hz,trivial⟩ (by kernel_rfl) hA fun a w9 hA=>wp_ret (Dt hA)
def gPr (L:List (C1×C2)):kC
 | [.s l n m,.s l' n' m']=>some ([aA l=aA (aFE (L.map Prod.fst)),aA l'=aA (aFD (L.map Prod.snd)),n=L.length,n'=L.length],.many [.fl (aP (GD L).1),.im (.int .i64 0)])
 | _=>none
theorem aXy {L:List (C1×C2)} (h5:L.length≤5) (hG:∀x∈L,nI x.2):∀cs pre r,gPr L cs=some (pre,r)→bC pre→∀(args:List Value) (w:World),bZ w cs args→Good prog 20 r args w:=by
 intro cs pre r hg hp args w ha;unfold gPr at hg;split at hg
 ·rename_i l n m l' n' m';cases hg;obtain⟨e1,e2,rfl,rfl,_⟩:=hp
  match args,ha with
  | [v,u],ha =>
   obtain⟨⟨b,o,rfl,h1,h2⟩,⟨b',o',rfl,h3,h4⟩,_⟩:=ha;rw[e1]at h2;rw[e2]at h4;exact qA L h5 hG ⟨⟨b,o,rfl,h1,h2⟩,⟨b',o',rfl,h3,h4⟩,trivial⟩
  | [],ha=>exact ha.elim
  | [_],ha=>exact ha.2.elim
  | _::_::_::_,ha=>exact ha.2.2.elim
 ·cases hg
def aSF (L:List (C1×C2)):Tab:=T0.add 20 (gPr L)
theorem aWn {L:List (C1×C2)} (h5:L.length≤5) (hG:∀x∈L,nI x.2):TabOk prog (aSF L):=(xQ _).ad func20 (aXy h5 hG)
theorem aEM (L:List (C1×C2)) (p:Pt Fq) (q:Pt Q2):aO prog (qG prog) (wq (aSF L)) f12 60 [.v (.fl (gH p)),.v (.fl (eI q))] =
  some ([aA (gH p)=aA (aFE (L.map Prod.fst)),aA (eI q)=aA (aFD (L.map Prod.snd)),1=L.length,1=L.length],.many [.fl (aP (GD L).1),.im (.int .i64 0)]):=by kernel_rfl
theorem aIT (l:List At):aA l=aA (l++[]):=by rw[List.append_nil]
theorem Nj (P:C1) (Q:C2) (hG:nI Q) (w:World):Good prog 12 (.many [.fl (aP (GD [(P,Q)]).1),.im (.int .i64 0)]) [.agg (aA (gH P.1)).toArray,.agg (aA (eI Q.1)).toArray] w :=
 aB aE (fun _ _=>aWn (L:=[(P,Q)]) (Nat.le_of_ble_eq_true rfl) (fun x hx=>by cases List.mem_singleton.1 hx; exact hG)) (aJ _) func12 (aEM [(P,Q)] P.1 Q.1) ⟨aIT _,aIT _,rfl,rfl,trivial⟩ ⟨rfl,rfl,trivial⟩
theorem aWJ {z:aQ} (hz:z≠aF.zero):aRR (lY z):=by
 have hn:xD z≠F1.zero:=fun e=>hz (wM e)
 exact⟨bDa (Xd hn),bCX (Xd hn)⟩
theorem aQd (L:List (C1×C2)) (hG:∀x∈L,nI x.2):aRR (GD L).1:=by
 obtain⟨h1,h2⟩:=Fw L hG;rw[←h2];exact aWJ h1
def Gh:C1:=cp1 g1n
def VW:C2:=Po g2n
theorem GY:nI VW:=aXU
theorem aIs:VW.1=some (DL,EW):=(DQ aIL).trans (WY DL EW)
def bFX:aQ:=(((fm 2378507413012449438840299877585864486596548580119003238482970196221914356065,fm 21851950266181709349857389613032077149450029892581098294275496715023761779448),(fm 6487214777376872216572935360521615008775285825356685052073390391960835901552,fm 5693356504183034178389519082242506099705835023858020887379779049790626988735),(fm 16821595927712632973091653130904174938042613506637009252839922334211430089289,fm 7562069704166871192594662540156970704572400265196800971452420483575830962347)),((fm 7070376853447975389740235623026356615880438983583963215707490093649832106036,fm 7930068663417030051000903321721963421951546375853948260835036761795836008597),(fm 13649912548780446902650264805286905869889623491814703250142335370759910145984,fm 3198213588786073551887545002406483191447615872183240039616445268134327906879),(fm 10565983384267790217204481750998809959922379495880609734805950636442850713604,fm 21484889901307528666496143622638408274172191745116131370687198208019216523240)))
def bFY:J2:=((fm 3032325316764873384069714279932484386665635156804739054186252475491034492603,fm 8912660039028723257445849782037539610633369230215389640063603250928047724332),(fm 7339633485102532646109853506180077609964347362231149992843596455057791972726,fm 1711467429231162641546712034998930756138734374231052638585162510146526228594),(fm 9414008563733240832842462598518338571025030284896321945682163071070359686095,fm 20881090181292114123084963189900454735123005186827105966665647027531942174327))
def Nm:aQ:=(((fm 19234144598447159215108004935528794085424002632891426806756538931819942691096,fm 2340451113688012630303550310622896731055443433384891398921259427497405547437),(fm 1781148608965900474065730738608752701580035949233664042459795196584187441634,fm 13774276511913029676373055283897305636989165804627825144291969448468687822437),(fm 14538104178769531238912780485374962809134893992466739102068969432140467975884,fm 10318890984042075083619354473744518714315218770064531173914574074216228870594)),((fm 4787597062805332113817129572444974506939435897325804456050553024233352033433,fm 5351575467087947091085519364542861995947810195807549868176776730254253128012),(fm 15737670751690011006395885910541348719954950197292360973886324684957512483632,fm 5170001609297799908289899751603834619955713444288675867851016664915696519878),(fm 1090320310386066061116021004080347328688146965519969376284940356658986178431,fm 17250041490697758888692935241142109371108242466926700236700149584639499810540)))
def aVX:aQ:=(((fm 20649625507408459770567634350550192571903949506669425064317799073757746837693,fm 11849716162122203810493391771034673038008597626572202381875966547633135923764),(fm 20832969340349690234341357082561347954374232431869685071757042923238427868214,fm 5273307685880469183331555089743882231188654509084125733337841558754554568204),(fm 10663429397299961328858060432173950046443018307611000301732444312191184056658,fm 15148259651403372375227474587492684797019599998840620579740439846292255126663)),((fm 2505963081711144638556763638273669825250053051243802666720386095185198483115,fm 12320318179612243946816266459510700603689399408650696090061278530158351578021),(fm 12493800358834929091904954116901055401445045649062936754829309742111186586057,fm 20720263132614703189301175292355775711931628102770247642940190417925713156523),(fm 19251748844914856069335592641021798661713552467354300044134429439929805172908,fm 9496325523693022986252397061503363592943666194860526988925012136654352405062)))
def uV:aQ:=(((fm 12879671296228341798957541889042068293248913689212425431224938470232546313254,fm 3326450555199805883965490851796414254830144151329718176108864533289444035270),(fm 20034916004680903865371475524544157810838259782601065778963371780592670397755,fm 18196221800554323016660057972017335112712278872243164622794778048181747904770),(fm 2650685350723162073065693030364953757603657135232283880472468071129041178893,fm 1415534485628002925645978830263295545820817030311522411523977773123510463790)),((fm 11706129207700151979042100288958216850158405562525260961392090752318820540155,fm 13581688218243497693010389261307054804658398598414171976249347555990073884710),(fm 865661210072615391091663782916883487315505694294592934212781713437127182959,fm 5364456672142552956341240304849409513108281743490635067211876654163672173225),(fm 11182696274116283149832659131689911508224992839995672842130064887471806829782,fm 13862086431460254638576437312497952755826436162922426416336796129991391475329)))
def KN:aQ:=(((fm 3565900883281933049529003457751539082999247153532403896775980084880473851339,fm 379835203885659133264055349110841887719178782852908983396475599389387274304),(fm 10697306762189707230085344650331096153630062579565791314116451211200491918896,fm 2040728075630617703939177189763203438191281071941598905366011885727884862728),(fm 15374295724605410819087214433178341468844589834634617345685774498525231207549,fm 860639227411418715752442414618251995509036554986084279869868718049236140877)),((fm 18040105425250627301432288935249142385868936126077339920029491859189172696198,fm 21091881993101023994247213498017645066296535760752732441512079336016287289435),(fm 1909105294773799370520429508073636562698257954549859256092411709322576168655,fm 15463394358025409551220676461769417242689929500031130561423013573863830735803),(fm 10314671117303887996379155590435638846249530412645345417493986118647664935827,fm 10279808521913545608329733385139215304434280899422616946148750047760275216323)))
def FY:aQ:=(((fm 7887685512280944267406121715767852862388088450650768785525304062937161211234,fm 15131392672474410126504507858125826355301587193222814431818682990791085661456),(fm 16055311683888943723324626309040968239124346556376028068405580515139939805734,fm 13871512100496385242129483189487312508376111386691280612447880489724864032655),(fm 20094779960424952525030126091952188319174775744678058915794342799062767576172,fm 12502930978183052266546358034043767340285541390199327234579107005641116092527)),((fm 16547481901833460813995455070346513514193443867335574638140925853147920972738,fm 18147190360533897773324364834309210267979700871294530500547692539473010411895),(fm 3466850533602798500710509533714116949041451436504121041563817966990131286718,fm 21621287919590899779060390813530191208635901628166250927780455266756276963820),(fm 6280591791373293790402301228010661440666817002357544594990687966613943813925,fm 14009891157676415878763261162845149771587569730448156223179434835832175302786)))
def aWa:aQ:=(((fm 1574167423632877099077487623091875503958514044752702033911092839282788522963,fm 20471396856509450061951320196559575454995777207410389357860245859060089832527),(fm 6072575231553564747788098289823994033023310552960284764716509320729217754734,fm 15537887786700677745202762795562708821095827012007380152825220525349668874239),(fm 3687342420129072429914046527972947321967515098519353537722054988814122005576,fm 20995593310421598175982620425358855271346662235967314571176058385850921708737)),((fm 8174315508545246509717980348392941632568265848681903542169798746165063987821,fm 3235954210639469613909537470507048214532907955181301852833236414599337515512),(fm 2524547089810309938123428175449519839423858466220672823918373931698373290095,fm 7583170566399729371275998795822352566586381614188040091269046511248339588069),(fm 6484286816656009178516627249009694135397203858875203954932924104789518356151,fm 17497352993369760955351496691340523424076249590007371972935457169780505190271)))
def KM:aQ:=(((fm 8493334370784016972005089913588211327688223499729897951716206968320726508021,fm 3758435817766288188804561253838670030762970764366672594784247447067868088068),(fm 6565798094314091391201231504228224566495939541538094766881371862976727043038,fm 14656606573936501743457633041048024656612227301473084805627390748872617280984),(fm 634997487638609332803583491743335852620873788902390365055086820718589720118,fm 19455424343576886430889849773367397946457449073528455097210946839000147698372)),((fm 20049218015652006197026173611347504489508678646783216776320737476707192559881,fm 18059168546148152671857026372711724379319778306792011146784665080987064164612),(fm 12145052038566888241256672223106590273978429515702193755778990643425246950730,fm 17918828665069491344039743589118342552553375221610735811112289083834142789347),(fm 6223602427219597392892794664899549544171383137467762280768257680446283161705,fm 7484542354754424633621663080190936924481536615300815203692506276894207018007)))
theorem aNU:CX (fm 1,fm 2) (DL,EW) wR (aF.one,(DL,EW,F2.one))=(bFX,bFY):=of_decide_eq_true (by kernel_rfl)
theorem aNV:mil (fm 1,fm 2) (DL,EW)=Nm:=by
 unfold mil;rw[show ((DL,EW):Q2×Q2).1=DL from rfl,show ((DL,EW):Q2×Q2).2=EW from rfl,aNU];exact of_decide_eq_true (by kernel_rfl)
def NU (x:aQ):List Bool→aQ→aQ
 | [],s=>s
 | b::bs,s=>NU x bs (if b=true then aF.mul (aF.mul s s) x else aF.mul s s)
def hdb:List Bool→Nat→Nat
 | [],m=>m
 | b::bs,m=>hdb bs (if b=true then m+m+1 else m+m)
theorem Mu (x:aQ):∀(bs:List Bool) (m:Nat),NU x bs (bR aF x m)=bR aF x (hdb bs m)
 | [],_=>rfl
 | b::bs,m=>by
  show NU x bs (if b=true then aF.mul (aF.mul (bR aF x m) (bR aF x m)) x else aF.mul (bR aF x m) (bR aF x m))=bR aF x (hdb bs (if b=true then m+m+1 else m+m));rw[←cS]
  by_cases h:b=true
  ·rw[if_pos h,if_pos h];exact Mu x bs (m+m+1)
  ·rw[if_neg h,if_neg h];exact Mu x bs (m+m)
theorem TX (x:aQ) {bs:List Bool} {n:Nat} (h:hdb bs 1=n):bR aF x n=NU x bs x:=by
 have r:=Mu x bs 1;rw[PH,h]at r;exact r.symm
theorem iN (x:aQ):∀(l m:List Bool) (s:aQ),NU x (l++m) s=NU x m (NU x l s)
 | [],_,_=>rfl
 | b::l,m,s=>iN x l m _
def s6B:List Bool:=[true,false,false,true,true,true,false,true,false,true,true,true,true,false]++([false,true,false,true,true,true,false,false,false,false,false,false,true,true]++([true,false,false,true,true,false,true,true,true,true,true,false,false,true]++([true,true,false,true,true,false,false,false,true,true,true,false,true,true]++([true,false,true,false,false,true,true,false]))))
def sdB:List Bool:=[false,false,false,true,false,false,true,true,true,false,true,false,false,true]++([true,false,false,true,false,false,true,false,true,false,true,true,false,true]++([false,false,false,true,false,false,true,false,true,false,false,true,true,false]++([true,false,false,true,false,false,false,false,true,false,false,true,true,true]++([true,true,false,false,false,true]))))
theorem bBj:hdb s6B 1=BX:=by kernel_rfl
theorem bFf:hdb sdB 1=PD:=by kernel_rfl
def aRk:aQ:=(((fm 6901288397789320114293843973333805029090598247220106214527920191427343108336,fm 8858795146623913531802889487338549877881470329633617035047318629782924915506),(fm 2424921126331930472249357464042725410369825466706016395531752867056322455170,fm 13521520009273375120467198961745978125064734591703619657257913558424885461452),(fm 18034329459529198266794457740384739005789906885326257168535317418943223895201,fm 4079886510414779025744292561557271441287392850566893321785445876015565393186)),((fm 11504319067432878003234446510187009765006648134929350920634158343841480796194,fm 20379195522874478119999393580308066514273846575381072398037667136518455722550),(fm 9056169777529366095850710599674020419542739785694250347415075988636359131028,fm 20094446319302548103963522388824452038847105024495832096731644726310794126885),(fm 7014225010674007563923667938741294773334359707949346070792826512465980647507,fm 4570203855695208562799971112457780698525114786168357375012729777421221724310)))
theorem aVV:NU uV [true,false,false,true,true,true,false,true,false,true,true,true,true,false] uV=aRk:=of_decide_eq_true (by kernel_rfl)
def aRj:aQ:=(((fm 5145995687906542069211901491387110429308153493810687687266877440878302833177,fm 11977933884705268892350836063039683230725602100640315675988861233081249745235),(fm 17272827095175812399595969295386618800624503050323992149799352394590449917255,fm 13220259021438862304018360664962357320575402529448952828866107895108275072770),(fm 19902380273818487361096944414497281841389056530581310099616040618087906957132,fm 6254414346316044153569184541919425254923744650360417859578279396711029431261)),((fm 3958057956832117489241505657841397229498589057029121434198308755597480837343,fm 3507745543700772849028581432873794799934958963055567159621672320500353669551),(fm 1960143618130378977848737410482862694925533457240347145112014708244042600855,fm 15918126340306099109255017006177362831151541588875230835061536842330670429288),(fm 621625459898156702268793091962809704981620912489323053283864300556525327364,fm 9790421165551063962405166303880144106050814667968373672240108598242794830364)))
theorem aVU:NU uV [false,true,false,true,true,true,false,false,false,false,false,false,true,true] aRk=aRj:=of_decide_eq_true (by kernel_rfl)
def aRi:aQ:=(((fm 7534974591893886303498908733278311274075405079526932081629913691957499603959,fm 16884405618233772670288035704509108993028874881999919989485047140378789447674),(fm 19551735618562160034155416620151983407971073529319847781063133101455368380438,fm 2339081176536897293875936737647973351888736383064943289160298177762751459564),(fm 14078080394641030233286787987000997408425392124259041543291416681048782213510,fm 5007791877813243842344623366367666657832828622152033609976749326684840290945)),((fm 7358438731876097780513830876964888240364225243605564756800072341155388952273,fm 11994153116265899462651040790141921969451185766844471849092390065810286274364),(fm 1969684952687300233863398284303817099311026208049003966605446864105299807877,fm 3809308974209681353458477277517971270130572850175744114258321564316479454660),(fm 19750851142788472370071321028730759013247961221996078248860321424871433831562,fm 6019278338362258108600833208205247751211256951262217565412862216975848778934)))
theorem aVT:NU uV [true,false,false,true,true,false,true,true,true,true,true,false,false,true] aRj=aRi:=of_decide_eq_true (by kernel_rfl)
def aRh:aQ:=(((fm 17002771536489416237175965476183174283792101856318560462995551153276126424030,fm 10070081693180262125380131050083285133528147409557698418093758887627478384808),(fm 2553922584833150056262737718528701484333405905864414674476763131783484562156,fm 12488404763235672012168004209126889874160802888208999468777901521340163684421),(fm 4283702278537803316597560901248188734417081683999309468467731634190436881188,fm 474117150572871734992057768326663818785843969206759680135016881485999518963)),((fm 20518181674618424502884033360964004654409444552029913324296158488092470889160,fm 11864934712804852140382135515156592853718188911937994509584012590505502770582),(fm 15660514324515855378313719543033947033107085927377436732483929601287531847916,fm 18187597851908865957013992723655499624004058881757522711799687410565102517915),(fm 14281249376585351506945563200932698114670024882744699042645200161130317521531,fm 8466774758865117397788701997402632947675744816026247416688937999982387234778)))
theorem aVS:NU uV [true,true,false,true,true,false,false,false,true,true,true,false,true,true] aRi=aRh:=of_decide_eq_true (by kernel_rfl)
theorem aVR:NU uV [true,false,true,false,false,true,true,false] aRh=KN:=of_decide_eq_true (by kernel_rfl)
theorem aQT:sZ uV=KN:=by
 unfold sZ;rw[TX _ bBj];unfold s6B;rw[iN,aVV,iN,aVU,iN,aVT,iN,aVS,aVR]
def aRg:aQ:=(((fm 13722956011715878292354240873415847561998012344367110022272519478714441874240,fm 4220785125848897370581222266631088367293334787282977453355654264790835054422),(fm 17893056662998455388636515586798734385900659339129849763337780079010040607877,fm 1235677328837062142896941796125679131500588562716399824708502702595411620116),(fm 21550263264821728349353851936967999107053299689782483229580746168435885663887,fm 5755907778760510526913965917480676102639097776927981458230332555750842641325)),((fm 131764170944105585583352386936811760443168126159162824816798610456353479488,fm 15672028728014188833071408048333767471615090250531270481546485495889798141035),(fm 660436971366241844398278354529404855080083613173243896793769625172350990220,fm 461983634635380640566684591283555728156389466404150649909499397184153342163),(fm 3452855669326668543460777111055816656134289934770722750112825743131814246842,fm 2280599264848701523247622230570723516709739635766213603962858716373690926315)))
theorem aVQ:NU KN [false,false,false,true,false,false,true,true,true,false,true,false,false,true] KN=aRg:=of_decide_eq_true (by kernel_rfl)
def aRf:aQ:=(((fm 8605749871030092346348051473300523572207144082521674832176146230556403099786,fm 9570852685818923236887705721949754525669224695501613329298505349076321565086),(fm 7549426157671044114372433771275253364169071394104921841564414307767284932389,fm 12758603312169918525976345398570768153576615163215288702256605581846569564402),(fm 17154810748926284929737358468958986996815668088625777750583730327774600353642,fm 7610147720979996471960252011033131423076633927371571087651936405288846648240)),((fm 20139583176121273458977959760643909118904514658569038025165139379283387224179,fm 9585979559290583152029431774558577717265583481112247664689730880460438468458),(fm 10227109088995886881606096878820468432631045681600347273136516134518207246237,fm 4061348668697674597045215559160812983880325178138348665795953769772141624068),(fm 4258275752155553473112215398034513681536276121339115485090092927044114831848,fm 907239782470101296992225411319157913892562259662272141522117787842234811751)))
theorem aVP:NU KN [true,false,false,true,false,false,true,false,true,false,true,true,false,true] aRg=aRf:=of_decide_eq_true (by kernel_rfl)
def aRe:aQ:=(((fm 20095685003716804543870421205439435274517370243239798616163992633309755457958,fm 1631282857664991082755716926611918179349262479983599933121337982774353879439),(fm 5631965192404416342921083041321972429575774181716161370364185926067355258315,fm 330137894228528164084976050019375087929353859728106671190917041527033947318),(fm 19716588096310984557998667018869309334310152377848352488942168563847473310474,fm 21739000580850764415758519994763268686643436569038935202934777248780947929322)),((fm 13093260655782277923388456439275797005726328830813343485726252582932126153384,fm 19092793545454198936169612918697553576206843027730408482549571177947267865117),(fm 10201410799848612553746510773151619046832856528629991836978308251453088681441,fm 13769715616400997211490723358233021261522552766496408520924874859418560834273),(fm 6148468616077321329636142233713443832895895082538424247648786566447845254988,fm 15886683046264018913263159537178347448296501764338434628895030306842182074783)))
theorem aVO:NU KN [false,false,false,true,false,false,true,false,true,false,false,true,true,false] aRf=aRe:=of_decide_eq_true (by kernel_rfl)
def aRd:aQ:=(((fm 11455864897898108992584146421446695206588671982869639555446691459129408946122,fm 1023423185872847899361410587484052572714658042333062442096510381892470738620),(fm 6714109912169834238834995383560140962072633570815259718604154964188349581935,fm 11152757866377358758409798766661163000898044007912040311008626555065216278255),(fm 12624838430554032348070570751334898743574914594732673441972649872365851050675,fm 20777620687728473012070024247008155576122920909358336949693314291497441187403)),((fm 18121220506330099480074473401622766479601356384178902469991734254238030163670,fm 515595695716396185448917031700259544442875769625050099972698853628654482251),(fm 1312752240663572706392188689266424895221963594842582852301639371068014145114,fm 13580685292681092424786618760235820430753577333933642129780713544237141899416),(fm 11885885591881244874684289927455108514030540897064946775147021921005411885587,fm 12045221387675012959388071591636439353369252287258763274988945723630547961778)))
theorem aVN:NU KN [true,false,false,true,false,false,false,false,true,false,false,true,true,true] aRe=aRd:=of_decide_eq_true (by kernel_rfl)
theorem aVM:NU KN [true,true,false,false,false,true] aRd=FY:=of_decide_eq_true (by kernel_rfl)
theorem aQS:VU uV=FY:=by
 unfold VU;rw[aQT,TX _ bFf];unfold sdB;rw[iN,aVQ,iN,aVP,iN,aVO,iN,aVN,aVM]
def aRc:aQ:=(((fm 3787206203831544795900269197213806357846939952749499551808186550094641401296,fm 14727127386011959440126943503126866240138015978668872682944368333012330668486),(fm 15522527202781769749268751835705234300704257559080359069510304881360528437647,fm 17377158114355444074124080023134294425917355112397924532832460669703085063555),(fm 19017068409778733894664804991013284700861278934179380290978670351342484842344,fm 20890139021218626849087495826877453227632343897384636170883972588028257847041)),((fm 2805120507595266439176590390786931635756233314371738817947009705040564682029,fm 16448493382894194180345860697229772876550192213831531011945145634089287076767),(fm 4054351765505584522211574537771765536364287388532773188093619143019578539549,fm 11956661867824877549929680940779297052750491358075230184285355208682992776394),(fm 9254557655785340491164725133848785688141118692067514550475079988024385534263,fm 21096338110101208704573399378346536867426120784660571001633852041284509493507)))
theorem aVL:NU FY [true,false,false,true,true,true,false,true,false,true,true,true,true,false] FY=aRc:=of_decide_eq_true (by kernel_rfl)
def aRb:aQ:=(((fm 5437380080817934560840735078925644268370344670932764954781794094830069296686,fm 21681119006744735131341057279773666889308410409577050814073831097448444451587),(fm 18759166251375198846133077416361130330580939150521256669956029201163128883737,fm 520296888786509242775564425789356492107785717180540975747538624548567223971),(fm 599937033614144369121928805932345389863685847011664626592581074635493731686,fm 10443386030359638315871941053079164950027178660242930620164420808627950460808)),((fm 4496949507591509332909160478867714239965348094451938761268806803379844937195,fm 14272727153222434173915713940192249367396576816767839988379224212945655250316),(fm 5254268170571601784536270836965807748721841783342871821496262477213480889261,fm 3532256140834961304608175246666669253155522609709658628667459875642952178755),(fm 7243351107998300920541700876302823225482372118927890700411065462181663448990,fm 13650970555141011249902104275718177815234493359916178421976611777812954111641)))
theorem aVK:NU FY [false,true,false,true,true,true,false,false,false,false,false,false,true,true] aRc=aRb:=of_decide_eq_true (by kernel_rfl)
def aRa:aQ:=(((fm 2579707400649715023736032574901527686804482786697651579688834752102370830689,fm 12089024611835737432877570041687518084867381756868024438619853446823988816444),(fm 3187421589356443841933340490237603401988800641407609610039655928223741665219,fm 13762610432048820333240520432120200854591370415831628338843873600909587698285),(fm 2135181864574858321448833666756523760370766554940641712279033251220381549556,fm 1679636161194363207842463914125062596725437163767656611936000504271321158339)),((fm 284225835348829860700409837321518766484476888814870069313034626030358236603,fm 16232109525656217209674466545077870629226840104620388848292424895486619870725),(fm 14944158556992596323250251125228238395830263729641477152723702870491104134450,fm 20006411089543120022327864079044066006835474549510522395795005963915887878568),(fm 16066792802194705600993860455197438694115840749532733497800092049715695838991,fm 20678409438584314275585533266377470763859394132658162168811313447013853963444)))
theorem aVJ:NU FY [true,false,false,true,true,false,true,true,true,true,true,false,false,true] aRb=aRa:=of_decide_eq_true (by kernel_rfl)
def aQZ:aQ:=(((fm 20332576233748333229043398041712530265540778300120310238144881175189521431220,fm 16938047977344069710432662413268717797458291537811912753412303567401975398827),(fm 16270940307977098758247599083699464235603220863784514233685920343427801839144,fm 3830664884244828670993813909164243010597413854002244329131516997718508645141),(fm 2000023645746498084302038426329226757791659402177245714139146342830292923053,fm 8641397878198536498054578160973881789949521352795873477377172351468728090101)),((fm 5024579476921271536486383727880884579057245762176098024355503645194725116079,fm 17431718061205387496597412017268230806572700025212977294131690210881423558589),(fm 5616509743791313422644435843028625785576615209394634718493746546642645405496,fm 13634147485648546034389413604500293724453928796708683091177342744367859937165),(fm 3763561036332969928107005710063090774189620595185154157426954849064967255945,fm 4069347686636241021458654484759088817437841143057289874102608010478392201608)))
theorem aVI:NU FY [true,true,false,true,true,false,false,false,true,true,true,false,true,true] aRa=aQZ:=of_decide_eq_true (by kernel_rfl)
theorem aVH:NU FY [true,false,true,false,false,true,true,false] aQZ=aWa:=of_decide_eq_true (by kernel_rfl)
theorem bCe:hCu uV=aWa:=by
 unfold hCu;rw[aQS,TX _ bBj];unfold s6B;rw[iN,aVL,iN,aVK,iN,aVJ,iN,aVI,aVH]
def aVW:aQ:=(((fm 1145510975023691738538208054840825699915879936414639889935162403023605097436,fm 16656825923643150536378092924455642742436494368862712968174899852289249413480),(fm 3256990652830716105940069450810086693875815745415068539623943172636300120840,fm 858832032489941605543780548564566463019103255157200301905639933917272420059),(fm 3728082021948176872618671475540988837942426781555234845330969028056148001061,fm 19390240610540445003310156896063948968308796018629565872794707555988193372254)),((fm 6326625374269860409101773695198001781570881974184749408894547486188119342343,fm 5949487801697838490804114746000098220534485114119573868764294500752549440786),(fm 5879774577728345928146250977500243714160922933990214607723296539672715263065,fm 15765048773982696503421908548253616484637944292328027757318395190053780520298),(fm 5522106632943435631506330599438403974654718288523977117543974467819241983511,fm 8750940555377732111623041552092033812656967089144573150084181308298987975975)))
def aVY:aQ:=(((fm 20180217090056896238789353153572356037145017339709452209832175002833729001904,fm 20225134561193716398180243042378313461897287000767127154992838405469127785451),(fm 9293672525215842316689447280896228359157842495810905750100018126715784001223,fm 8700546217118927514579456332823773432020849069997120991645563359648037667647),(fm 8180320792035695303397103687520412158899860111763234316381183528659516203402,fm 6102892176374535934052566543747338781211019914764265405384638087645284874669)),((fm 11456895607068712510908448922305415184455020857558597164104489514079804049637,fm 5843377647025853105095174694650229944038740767322434177722063933221420982668),(fm 497582631181282117354901453321755789386463671238665616828643105810657748869,fm 20052573975010627330988818512374805809734972346251223394382450714499034973321),(fm 15352256753067922194415196014872011668195290227145768922573050290357054448008,fm 4447978433319101812175301451483263126293213782064136602645911825048538311149)))
def bCf:aQ:=(((fm 11161666269947596028721083668710474556422406653788323870348593428730047778742,fm 1508568315676665976647381498307007978250524060029795625815503611728776863122),(fm 12723014267728563350300486372089738722457798976308878088676441912694941626191,fm 950835141585459248897890192919969930715207574201471649146992624501646544634),(fm 7307342851476103473342484275668063816652810239435540975911633939681616284526,fm 3108077194139070281186355337973646888778186708053385684427318316990371330083)),((fm 4841166635591492442283173694507123681417805116107868309507978920300190603582,fm 17118879167690622043023504585016395475465199428261071374630558477133809233856),(fm 9349615867613892026312682087421717722540259388914055739508012709824046216960,fm 1519768797134563629894530214062360916755488805008112730863910845627863513240),(fm 10781824657700740863136105963471346528968025539496453420978564735701085961782,fm 21009816125663717537035146839671649435474425432530823650112056885431103211872)))
def aQW:aQ:=(((fm 12879671296228341798957541889042068293248913689212425431224938470232546313254,fm 18561792316639469338280914893460860833866167005968105486580173361355782173313),(fm 16093522414555490075447212067907197681180268926227884017056297731753033075540,fm 13637629655571139401999016103159958271569531023321225392912711419870897655983),(fm 7582758805336473921266937814224605794342878579584147667326725383753192834369,fm 21082813298324688001671816138166184442406153259058302959541461525175229613932)),((fm 7759232824941637909691156505687018758656376392016339194795381260473433331571,fm 8667160839627313125975993640825516304460240816136737787738703234211178767888),(fm 5007913102539404479169522798406382150114935989497685271899028319568059599388,fm 1336865020759216500608143635287654229298016199930688653632307842881637292168),(fm 7137103922395452328895833918858548086452241105265960950333229458451338816379,fm 4981965206431976157531254287180280855743579412249205090020968449388964671057)))
def aQV:aQ:=(((fm 7950253121394986819149622168784497203321547445722497071359959464023255857364,fm 9297644384826085313273151137870748294704844418023754007557947873761477745211),(fm 10656732792978392264733563267705724351737914645510543118768848730119226110899,fm 18966463834845399073150353704711425837055736106017857623715357347178523175141),(fm 3209683864911222841626559080283398888840579393936486059976194579010459679175,fm 214124332657807461352805224252559810399636213082334606163803802167356701933)),((fm 14072849730351226567192542422638916159209926779888486177425843467757261355231,fm 5371215241270829516759735975644625460295745535944583221425209647137020141472),(fm 6874109857793428921801699651460688321624429217660653083976307788327515168386,fm 13890548062026279714454868793590408107269964745670891614040123362926984712739),(fm 216148494682934003502665484626439104962531570539767675198842295822744339881,fm 2023275583077833421521173674208522016517570705272905687880744015640513293142)))
def aQX:aQ:=(((fm 7950253121394986819149622168784497203321547445722497071359959464023255857364,fm 9297644384826085313273151137870748294704844418023754007557947873761477745211),(fm 1419540817402296987266895222028673672243846752908556955053904175392767760390,fm 17171941864288517700386594355407361872989183900785424063623912370178987224483),(fm 7885477918211467886624595597631616964634765217677619737683621217581764603169,fm 17034713515145747802805674901541699877067652752788662217782955789318296380102)),((fm 960941519799218823930196071966809336144769878670019758747199120957775013107,fm 9179633961265578163475472794263777831252496923803522136812887784826681850489),(fm 15014133014045846300444706093796586767071881939637170578712730106317711040197,fm 7997694809812995507791536951666866981426346411626932048648914531718241495844),(fm 8792738940741489555916469334830734275932886495787953411340458701928348822554,fm 9881287733800739336289428453394495971496346777082584497641184779542079865924)))
def aQU:aQ:=(((fm 15120505756412571060588863343284219804631071965329622270816876664929088937818,fm 3221899404584733629064933142146872989837035869208102614969935393148267805735),(fm 14462179392252088869294988146109993426514248494853311752259640058157256407990,fm 18177238654851925563314184760079137498996094106156236983198160201167185797365),(fm 16294712516414237968252303673239056938238396230690197223083251331096610435839,fm 19939747649992388213053548657583117464070807171374236124146447063413697934324)),((fm 17605372894599629806182084595387368433541129112561112286276604315377539636928,fm 8270735307861469730784238950804855894928583682607809539436932223555383348538),(fm 10494987792282449751712875670790154548395221366706047047005960236313520872343,fm 21445192222562675176664107337076120668270886663099225217175868008601497379289),(fm 20767345701533589391444626848661129950578532072052155985500494462405317369999,fm 16027752622472456097037551076569081654306809279939557573159171652071525233575)))
def aQY:aQ:=(((fm 15120505756412571060588863343284219804631071965329622270816876664929088937818,fm 18666343467254541593181472603110402098859275288089721047719102501496958402848),(fm 10781884736061004067287368465139527498092009245329471909597196986020095010842,fm 19494003435535568482032813501919841027189789669739864559793535355828210979617),(fm 9751521115257140108800205978241181065620359834803204562047490223618598718448,fm 18133384694282236307775519604607903909070706230935852245336312795785123741102)),((fm 13565431503821893057136730766745556870700252551995320313994329403908327364611,fm 21024017660091184960905631231819523040119746868075616439998736788357147035898),(fm 6193986906649854489879898283327475976576883997998981578948898048638072682786,fm 17542756681529561644125585946598127516595704802051857365573520953658421028948),(fm 4519736370972411485561711455507418422990502921762279540416496575371773509516,fm 4964381862596787533363883184459040070977500554804629702647937110879013773828)))
theorem aVB:aF.mul FY FY=aVW:=of_decide_eq_true (by kernel_rfl)
theorem aVD:aF.mul (aF.mul (aF.mul aWa FY) aVW) (aF.mul KN KN)=aVY:=of_decide_eq_true (by kernel_rfl)
theorem aVC:aF.mul (aF.mul (aF.mul aVY aVW) KN) (aF.mul uV uV)=bCf:=of_decide_eq_true (by kernel_rfl)
theorem aNR:fE 3 uV=aQW:=of_decide_eq_true (by kernel_rfl)
theorem aNQ:aF.mul uV FY=aQV:=of_decide_eq_true (by kernel_rfl)
theorem aNS:fE 2 aQV=aQX:=of_decide_eq_true (by kernel_rfl)
theorem aNP:aF.mul uV (cO aVY)=aQU:=of_decide_eq_true (by kernel_rfl)
theorem aNT:fE 1 aQU=aQY:=of_decide_eq_true (by kernel_rfl)
theorem aVE:aF.mul (aF.mul (aF.mul aQW aQX) aQY) (cO bCf)=KM:=of_decide_eq_true (by kernel_rfl)
theorem bCZ {y a b c t g r i3 zb i2 zg i1 e:aQ} (hA:sZ y=a) (hB:VU y=b) (hC:hCu y=c) (h1:aF.mul b b=t) (h2:aF.mul (aF.mul (aF.mul c b) t) (aF.mul a a)=g) (h3:aF.mul (aF.mul (aF.mul g t) a) (aF.mul y y)=r)
  (h4:fE 3 y=i3) (h5:aF.mul y b=zb) (h6:fE 2 zb=i2) (h7:aF.mul y (cO g)=zg) (h8:fE 1 zg=i1) (h9:aF.mul (aF.mul (aF.mul i3 i2) i1) (cO r)=e):hX y=e:=by
 have eT:hT y=t:=by unfold hT; rw[hB]; exact h1
 have eG:hG y=g:=by unfold hG; rw[hC,hB,eT,hA]; exact h2
 have eR:hR y=r:=by unfold hR; rw[eG,eT,hA]; exact h3
 unfold hX;rw[h4,hB,h5,h6,eG,h7,h8,eR];exact h9
theorem bDG {a i z:aQ} (h:lZ a=i) (hz:aF.mul (cW (aF.mul (cO a) i)) (aF.mul (cO a) i)=z):eZ a=z:=by
 unfold eZ;rw[h];exact hz
theorem aVF:hX uV=KM:=bCZ aQT aQS bCe aVB aVD aVC aNR aNQ aNS aNP aNT aVE
theorem Ts:Nm≠aF.zero:=of_decide_eq_true (by kernel_rfl)
theorem aNX:lZ Nm=aVX:=VN Ts (of_decide_eq_true (by kernel_rfl))
theorem aVA:aF.mul (cW (aF.mul (cO Nm) aVX)) (aF.mul (cO Nm) aVX)=uV:=of_decide_eq_true (by kernel_rfl)
theorem aVG:eZ Nm=uV:=bDG aNX aVA
theorem aWH {m z e:aQ} (h:eZ m=z) (k:hX z=e):lY m=e:=by
 unfold lY;rw[h];exact k
theorem aNW:lY Nm=KM:=aWH aVG aVF
theorem Tr {P:C1} {Q:C2} (h:P.1=some (fm 1,fm 2)) (hq:Q.1=some (DL,EW)) (hG:nI Q):(wW P Q).1=KM:=by
 have r:=Vn h hq hG;rw[aNV]at r;rw[←r.2,dK Ts,aNW]
theorem aGv {P:C1} {Q:C2} (h:P.1=some (fm 1,fm 2)) (hq:Q.1=some (DL,EW)) (hG:nI Q) (m n:Nat):(wW (iL.grp.ns m P) (bE.grp.ns n Q)).1=bR aF KM (n*m):=by
 rw[aQc P hG,aDw,Tr h hq hG]
theorem aIt:Gh.1=some (fm 1,fm 2):=(MH aRT).trans (Qa (fm 1) (fm 2))
theorem fs1 {G α β:Type} (A:AG G) (f:α→β→G) (p:α) (q:β):[(p,q)].foldr (fun x s=>A.add (f x.1 x.2) s) A.zero=f p q:=A.addz _
theorem aKl (P:C1) (Q:C2):GD [(P,Q)]=wW P Q:=by
 unfold GD;exact fs1 vg wW P Q
theorem aGw:(GD [(Gh,VW)]).1=KM:=by
 rw[aKl,Tr aIt aIs GY]
theorem aMn:aO prog (qG prog) (wq T0) f9 60 []=some ([],.one (.fl (gH (some (fm 1,fm 2))))):=by kernel_rfl
theorem aMm:aO prog (qG prog) (wq T0) f11 60 []=some ([],.one (.fl (eI (some (DL,EW))))):=by kernel_rfl
theorem aQH:aO prog (qG prog) (wq T0) f42 60 []=some ([],.one (.fl (aP KM))):=by kernel_rfl
theorem aET (n:Int):aO prog (qG prog) (wq T0) f14 60 [.v (.im (.int .i64 n))]=some ([],.one (.im (.int .i64 n))):=by kernel_rfl
def aIB:kC
 | [.v (.im (.int .i64 n))]=>some ([],.one (.im (.int .i64 n)))
 | _=>none
theorem aOp:∀cs pre r,aIB cs=some (pre,r)→bC pre→∀(args:List Value) (w:World),bZ w cs args→Good prog 14 r args w:=by
 intro cs pre r hg hp args w ha;unfold aIB at hg;split at hg
 ·rename_i n;cases hg;exact aB aE (fun _ s=>xQ _) (aJ prog) func14 (aET n) trivial ha
 ·cases hg
def aSx:Tab:=((T0.add 9 (g0 (.one (.fl (gH (some (fm 1,fm 2))))))).add 11 (g0 (.one (.fl (eI (some (DL,EW))))))).add 42 (g0 (.one (.fl (aP KM))))
theorem aWf:TabOk prog aSx:=(((xQ _).ad func9 (gT fun w=>aB aE (fun _ s=>xQ _) (aJ prog) func9 aMn trivial (args:=[]) trivial)).add
 func11 (by kernel_rfl) (by kernel_rfl) (gT fun w=>aB aE (fun _ s=>xQ _) (aJ prog) func11 aMm trivial (args:=[]) trivial)).add
 func42 (by kernel_rfl) (by kernel_rfl) (gT fun w=>aB aE (fun _ s=>xQ _) (aJ prog) func42 aQH trivial (args:=[]) trivial)
def aSE (P:C1) (Q:C2) (T:Tab):Tab:=T.add 12 (gE2 (gH P.1) (eI Q.1) (.many [.fl (aP (GD [(P,Q)]).1),.im (.int .i64 0)]))
theorem aWm {T:Tab} (hT:TabOk prog T) (P:C1) {Q:C2} (h:nI Q):TabOk prog (aSE P Q T):=hT.ad func12 (Pa fun w=>Nj P Q h w)
def aSw (P:C1) (Q:C2):Tab:=aSE P Q (aSx.add 14 aIB)
theorem aWe (P:C1) {Q:C2} (h:nI Q):TabOk prog (aSw P Q):=aWm (aWf.ad func14 aOp) P h
end Go.Proofs.YtglgakbkdjhojaaGreat.Ex
namespace Go.Proofs.YtglgakbkdjhojaaGreat
open Go.Proofs.Tryz
open Go.RowKit
theorem aFs {F:FC} (hF:F.Ok) (G:Nat):G%F.M*aC F.s0 F.s1 F.s2 F.s3*F.Ri%F.M=G*115792089237316195423570985008687907853269984665640564039457584007913129639936%F.M:=by
 rw[VH hF];unfold kp;exact Nat.mod_mul_mod _ _ _
set_option maxHeartbeats 4000000 in
theorem JS (f:Int) (F:FC) (hf:FieldIs f F) (g0 g1 g2 g3 l0 l1 l2 l3:Nat) (hg:bY g0 g1 g2 g3) (hl:bY l0 l1 l2 l3) (w:World) :
  Calls prog 7 #[.int .i64 f,.agg #[.int .u64 g0,.int .u64 g1,.int .u64 g2,.int .u64 g3],.agg #[.int .u64 l0,.int .u64 l1,.int .u64 l2,.int .u64 l3]] w (fF ((aC g0 g1 g2 g3*115792089237316195423570985008687907853269984665640564039457584007913129639936+aC l0 l1 l2 l3)%F.M) w):=by
 have hpos:=hf.ok.pos
 go_enter func7,ntmps7
 go_wp2_with fail;have HM:=Lib.hid ((((Mem.nil w).new (w.heap.size) g0 g1 g2 g3 24 (by simp)).new (w.heap.size+1) l0 l1 l2 l3 24 (by simp)).new (w.heap.size+1+1) 0 0 0 0 25 (by simp));refine (dW f F hf g0 g1 g2 g3 hg _).mono ?_
 rintro e w1 ⟨x0,x1,x2,x3,rfl,hx,hv,hbl⟩
 have HVx:=Lib.hid hv;have HM':=Lib.hid (HM.out.on hbl);clear hv hbl;clear HM;have HM:=HM';clear HM';go_wp2_with fail;refine (zP f F hf _).mono ?_
 rintro e w2 ⟨rfl,hbl⟩
 have HM':=Lib.hid (HM.out.on hbl);clear hbl;clear HM;have HM:=HM';clear HM';go_wp2_with fail;refine (yI f F hf x0 x1 x2 x3 F.s0 F.s1 F.s2 F.s3 hx hf.ok.oks (by rw[HVx.out]; exact Nat.mod_lt _ hpos) _).mono ?_
 rintro e w3 ⟨m0,m1,m2,m3,rfl,hm,hv,hbl⟩
 have HVm:=Lib.hid (show aC m0 m1 m2 m3=aC g0 g1 g2 g3*115792089237316195423570985008687907853269984665640564039457584007913129639936%F.M by rw[hv,HVx.out]; exact aFs hf.ok _);have HM':=Lib.hid ((HM.out.on hbl).new w3.heap.size m0 m1 m2 m3 24 rfl);have ll:w.heap.size+1+1<w3.heap.size:=(HM.out.on hbl).lt (b:=w.heap.size+1+1) (c0:=0) (c1:=0) (c2:=0) (c3:=0) (by simp);clear hv hbl;clear HM;have HM:=HM';clear HM';have kr:=HM.out.row (b:=w.heap.size+1) (c0:=l0) (c1:=l1) (c2:=l2) (c3:=l3) (by simp);have x0:=kr.c0; have x1:=kr.c1; have x2:=kr.c2; have x3:=kr.c3;clear kr;have xl:=HM.out.lt (b:=w.heap.size+1) (c0:=l0) (c1:=l1) (c2:=l2) (c3:=l3) (by simp);go_wp2_with fail;refine (yB f F hf m0 m1 m2 m3 l0 l1 l2 l3 hm hl _).mono ?_
 rintro e w4 ⟨s0,s1,s2,s3,rfl,hs,hv,hbl⟩
 have HVs:=Lib.hid (show aC s0 s1 s2 s3=(aC g0 g1 g2 g3*115792089237316195423570985008687907853269984665640564039457584007913129639936+aC l0 l1 l2 l3)%F.M by rw[hv,HVm.out,Nat.mod_add_mod]);have HM':=Lib.hid (HM.out.on hbl);clear hv hbl ll;clear HM;have HM:=HM';clear HM';have kr:=HM.out.row (b:=w.heap.size+1+1) (c0:=0) (c1:=0) (c2:=0) (c3:=0) (by simp);have y0:=kr.c0; have y1:=kr.c1; have y2:=kr.c2; have y3:=kr.c3; have yf:=kr.fr;clear kr;have yl:=HM.out.lt (b:=w.heap.size+1+1) (c0:=0) (c1:=0) (c2:=0) (c3:=0) (by simp);go_wp2_with fail;refine bodyPost_ret (v:=.agg #[.int .u64 s0,.int .u64 s1,.int .u64 s2,.int .u64 s3]) (by simp[results,results7,go_sem, *]) rfl ?_;refine⟨_,_,_,_,rfl,hs,HVs.out,?_⟩;exact bF HM.out.1 (by omega) _ _ _ _
end Go.Proofs.YtglgakbkdjhojaaGreat
namespace Go.Proofs.YtglgakbkdjhojaaGreat.Ex
open Go.Proofs.Tryz
open Go.RowKit
def rN (n:Nat):Nat:=wv n%Go.Proofs.YtglgakbkdjhojaaGreat.FR.M
def rM (a b:Nat):Nat:=wv a*wv b%Go.Proofs.YtglgakbkdjhojaaGreat.FR.M
theorem aXW:0<Go.Proofs.YtglgakbkdjhojaaGreat.FR.M:=of_decide_eq_true (by kernel_rfl)
theorem bDn:Go.Proofs.YtglgakbkdjhojaaGreat.FR.M≤FP.M:=of_decide_eq_true (by kernel_rfl)
theorem aIR (k:Nat):k%Go.Proofs.YtglgakbkdjhojaaGreat.FR.M<FP.M:=Nat.lt_of_lt_of_le (Nat.mod_lt _ aXW) bDn
theorem bER:aC (fw 0 0) (fw 0 1) (fw 0 2) (fw 0 3)=0:=cK fV
theorem aWP (n:Nat) (w:World):Calls prog 7 #[.int .i64 2,.agg (aA (q1 0)).toArray,.agg (aA (q1 n)).toArray] w (FwPost (rN n) w):=by
 refine (JS 2 Go.Proofs.YtglgakbkdjhojaaGreat.FR (Or.inr ⟨rfl,rfl⟩) _ _ _ _ _ _ _ _ (cM 0) (cM n) w).mono fun e w' h => ?_
 rw[bER,Nat.zero_mul,Nat.zero_add]at h;exact FwPost.of (aIR _) h
theorem aWQ (a b:Nat) (w:World):Calls prog 43 #[.int .i64 2,.agg (aA (q1 a)).toArray,.agg (aA (q1 b)).toArray] w (FwPost (rM a b) w) :=
 (sL 2 Go.Proofs.YtglgakbkdjhojaaGreat.FR (Or.inr ⟨rfl,rfl⟩) _ _ _ _ _ _ _ _ (cM a) (cM b) w).mono fun e w' h=>FwPost.of (aIR _) h
def aXv:kC
 | [.v (.im (.int .i64 2)),.v (.fl l),.v (.fl m)]=>match vZ m with
  | some n=>some ([aA l=aA (q1 0)],.one (.fl (q1 (rN n))))
  | none=>none
 | _=>none
def aXC:kC
 | [.v (.im (.int .i64 2)),.v (.fl l),.v (.fl m)]=>match vZ l,vZ m with
  | some a,some b=>some ([],.one (.fl (q1 (rM a b))))
  | _,_=>none
 | _=>none
theorem aKn {l m:List At} {i:Value} {args:List Value} {w:World} (ha:bZ w [.v (.im i),.v (.fl l),.v (.fl m)] args):args=[i,.agg (aA l).toArray,.agg (aA m).toArray]:=by
 match args,ha with
 | [v,u,s],ha =>
  have h1:v=i:=ha.1;have h2:u=.agg (aA l).toArray:=ha.2.1;have h3:s=.agg (aA m).toArray:=ha.2.2.1;rw[h1,h2,h3]
 | [],ha=>exact ha.elim
 | [_],ha=>exact ha.2.elim
 | [_,_],ha=>exact ha.2.2.elim
 | _::_::_::_::_,ha=>exact ha.2.2.2.elim
theorem aOU:∀cs pre r,aXv cs=some (pre,r)→bC pre→∀(args:List Value) (w:World),bZ w cs args→Good prog 7 r args w:=by
 intro cs pre r hg hp args w ha;unfold aXv at hg;split at hg
 ·rename_i l m;split at hg
  ·rename_i n hn;cases hg;rw[aKn ha,hp.1,dG m n hn];exact (aWP n w).mono fun e w' h=>h
  ·cases hg
 ·cases hg
theorem aOZ:∀cs pre r,aXC cs=some (pre,r)→bC pre→∀(args:List Value) (w:World),bZ w cs args→Good prog 43 r args w:=by
 intro cs pre r hg hp args w ha;unfold aXC at hg;split at hg
 ·rename_i l m;split at hg
  ·rename_i a b hl hm;cases hg;rw[aKn ha,dG l a hl,dG m b hm];exact (aWQ a b w).mono fun e w' h=>h
  ·cases hg
 ·cases hg
def bEh:Tab:=((T0.add 42 (g0 (.one (.fl (aP KM))))).add 43 aXC).add 41 (g2 FJ vZ fun x n=>([],.one (.fl (aP (bR aF x (wv n))))))
theorem bCk:TabOk prog bEh:=(((xQ _).ad func42 (gT fun w=>aB aE (fun _ s=>xQ _) (aJ prog) func42 aQH trivial (args:=[]) trivial)).add
 func43 (by kernel_rfl) (by kernel_rfl) aOZ).add
 func41 (by kernel_rfl) (by kernel_rfl) (gF mB aQI fun x n _ args w ha=>OY true x n args w ha)
def ofE (a b:Nat):aQ:=bR aF KM (wv (rM a b))
theorem aUB (a b:Nat):aO prog (qG prog) (wq bEh) f13 60 [.v (.fl (q1 a)),.v (.fl (q1 b))]=some ([],.one (.fl (aP (ofE a b)))):=by kernel_rfl
def bEj (P:C1) (Q:C2):Tab:=(((aSw P Q).add 7 aXv).add 8 (g2 rg1 vZ fun p n=>([],.many [.fl (gH (oE p n).1),.im (.int .i64 (oE p n).2)]))).add 10 (g2 Mo vZ fun p n=>([],.many [.fl (eI (oD p n).1),.im (.int .i64 (oD p n).2)]))
def aSH (P:C1) (Q:C2):Tab:=(bEj P Q).add 13 (g2 vZ vZ fun a b=>([],.one (.fl (aP (ofE a b)))))
theorem bCm (P:C1) {Q:C2} (h:nI Q):TabOk prog (bEj P Q):=(((aWe P h).ad func7 aOU).ad func8 (dS sM dG fun p n hp args w ha=>Dh p n args w ha)).add
 func10 (by kernel_rfl) (by kernel_rfl) (dS lV dG fun p n hp args w ha=>Dg p n args w ha)
theorem aWp (P:C1) {Q:C2} (h:nI Q):TabOk prog (aSH P Q):=(bCm P h).ad func13 (dS dG dG fun a b hp args w ha=>aB aE (fun _ _=>bCk) (aJ _) func13 (aUB a b) trivial ha)
theorem aUE (a b:Nat) (P:C1) (Q:C2):aO prog (qG prog) (wq (aSH P Q)) f3 100 [.v (.fl (q1 a)),.v (.fl (q1 b))]=some ([aA (q1 0)=aA (q1 0),aA (q1 0)=aA (q1 0),
 aA (gH (oE g1n (rN a)).1)=aA (gH P.1),aA (eI (oD g2n (rN b)).1)=aA (eI Q.1),aA (aP (GD [(P,Q)]).1)=aA (aP (ofE (rN a) (rN b)))],.one (.im (.bool true))):=by kernel_rfl
theorem aNh {R:Type} (K:CR R) {x:R} {N:Nat} (h:bR K x N=K.one) (k:Nat):bR K x k=bR K x (k%N):=by
 have e:bR K x (N*(k/N)+k%N)=bR K x (k%N):=by rw[cS,eW,h,nP,K.one_mul]
 rwa [Nat.div_add_mod]at e
theorem bCG (n:Nat):(oE g1n n).1=(iL.grp.ns (wv n) Gh).1:=by
 have e:=tM1 Gh n;rw[show tn1 Gh.1=g1n from bDl,aCe]at e;rw[e]
theorem bCF (n:Nat):(oD g2n n).1=(bE.grp.ns (wv n) VW).1:=by
 have e:=tM2 VW n;rw[show NT VW.1=g2n from bDj,aCd]at e;rw[e]
theorem aVZ:bR aF KM Go.Proofs.YtglgakbkdjhojaaGreat.FR.M=aF.one:=by
 have g:=aQd [(Gh,VW)] fun x hx=>by cases List.mem_singleton.1 hx; exact GY
 have e:=g.2;rw[aGw]at e;exact e
theorem bEQ (k:Nat):wv (k%Go.Proofs.YtglgakbkdjhojaaGreat.FR.M)=k%Go.Proofs.YtglgakbkdjhojaaGreat.FR.M:=cK (aIR k)
theorem aWO (a b:Nat):(GD [(iL.grp.ns (wv a) Gh,bE.grp.ns (wv b) VW)]).1=ofE a b:=by
 rw[aKl,aGv aIt aIs GY];unfold ofE rM;rw[bEQ,Nat.mul_comm (wv b)];exact aNh aF aVZ _
theorem aHK (a b:Nat) (w:World):Calls prog 3 #[.agg (aA (q1 a)).toArray,.agg (aA (q1 b)).toArray] w (fun e w'=>e=.returned (.bool true)∧Below w.heap.size w w'):=by
 have ha:bZ w [.v (.fl (q1 a)),.v (.fl (q1 b))] [.agg (aA (q1 a)).toArray,.agg (aA (q1 b)).toArray]:=⟨rfl,rfl,trivial⟩;have hf:Good prog 3 (.one (.im (.bool true))) [.agg (aA (q1 a)).toArray,.agg (aA (q1 b)).toArray] w :=
  aB aE (fun _ _=>aWp _ (DG GY _)) (aJ _) func3 (aUE a b (iL.grp.ns (wv (rN a)) Gh) (bE.grp.ns (wv (rN b)) VW))
   ⟨rfl,rfl,by rw[bCG],by rw[bCF],by rw[aWO],trivial⟩ ha
 exact hf
end Go.Proofs.YtglgakbkdjhojaaGreat.Ex
namespace Go.Proofs.YtglgakbkdjhojaaGreat
open Go.Proofs.Tryz
open Go.ChangeShapes Go.WideShapes Go.ChangeAt Go.RowKit
theorem GM:ownKnob prog.godebug=none:=by kernel_rfl
theorem aOD:laidOutB prog=true:=by kernel_rfl
theorem Zb:prog.cellsOf 22=1:=by kernel_rfl
theorem bCE {α:Type} (l:List α) (h:(⟨l⟩:Array α).size=4):∃a b c d,l=[a,b,c,d]:=by
 match l,h with
 | [a,b,c,d],_=>exact⟨a,b,c,d,rfl⟩
theorem wO {n:Int} (h:(Lit.int .u64 n).wf=true):∃k:Nat,n=(k:Int)∧k<18446744073709551616:=by
 obtain⟨h1,h2⟩:=bounds_u64 h;obtain⟨k,rfl⟩:=Int.eq_ofNat_of_zero_le h1;exact⟨k,rfl,by omega⟩
end Go.Proofs.YtglgakbkdjhojaaGreat
namespace Go.Proofs.YtglgakbkdjhojaaGreat.Ex
open Go.Proofs.Tryz
open Go.Deep Go.ChangeShapes Go.WideShapes Go.ChangeAt Go.RowKit
theorem aQl {P:Program} {W:World} {base:Nat} {t n e:TypeId} {v:Value} (ht:P.underlying t=some (.array n e)) (h:Value.okWide P W .any base t v):∃cs,v=.agg cs:=by
 obtain⟨cs,rfl,_⟩:∃cs,v=.agg cs∧cs.size=P.cellsOf t∧Row.okWide P W .any base t cs:=by
  simpa[Value.okWide,ht]using h
 exact⟨cs,rfl⟩
section
variable {H:Type} {enc:TypeId×Value→H} {W:World}
theorem bFW {fuel:Nat} {cs:List Value} {x:DataW H×List MemPlace} (hl:cs.length=4) (h:DataW.trod enc prog W 0 (fun _=>true) true fuel 24 cs=some x):∃n:Nat,cs=aA (q1 n):=by
 obtain⟨c0,c1,c2,c3,rfl⟩:=bCE cs hl;obtain⟨y0,y1,y2,y3,m,hx,hy0,hy1,hy2,hy3⟩:=trod_array4 underlying24 Zb h;obtain⟨x0,e0,rfl,w0⟩:=DataW.trod_int underlying22 hy0;obtain⟨x1,e1,rfl,w1⟩:=DataW.trod_int underlying22 hy1;obtain⟨x2,e2,rfl,w2⟩:=DataW.trod_int underlying22 hy2;obtain⟨x3,e3,rfl,w3⟩:=DataW.trod_int underlying22 hy3;simp at e0 e1 e2 e3;obtain⟨a0,rfl,k0⟩:=wO w0;obtain⟨a1,rfl,k1⟩:=wO w1;obtain⟨a2,rfl,k2⟩:=wO w2;obtain⟨a3,rfl,k3⟩:=wO w3;subst e0 e1 e2 e3;have hv:aC a0 a1 a2 a3<115792089237316195423570985008687907853269984665640564039457584007913129639936:=by unfold aC; omega
 obtain⟨q0,q1',q2',q3⟩:=oR ⟨k0,k1,k2,k3⟩ hv rfl;refine⟨aC a0 a1 a2 a3,?_⟩;show _=w4 (aC a0 a1 a2 a3);unfold w4;rw[←q0,←q1',←q2',←q3]
theorem aGr {base:Nat} {v:Value} {d:DataW H} {ps:List MemPlace} {pt:Array TypeId} {args:Array Value} (hval:∀(j:Nat) t v,pt[j]?=some t→args[j]?=some v→Value.okWide prog W .any base t v) (j:Nat) (hj:pt[j]?=some 24) (ha:args[j]?=some v)
  (h:DataW.Trod enc prog W 0 (fun _=>true) true 24 v d ps):∃x:Nat,v=.agg (aA (q1 x)).toArray:=by
 have hv:=hval j 24 v hj ha;obtain⟨cs,rfl⟩:=aQl (t:=24) underlying24 hv;obtain⟨fuel,hf⟩:=h;obtain⟨l⟩:=cs;have hl:l.length=4:=by
  obtain⟨cs',e,hs,_⟩:∃cs,Value.agg ⟨l⟩=.agg cs∧cs.size=prog.cellsOf 24∧Row.okWide prog W .any base 24 cs:=by
   simpa[Value.okWide,underlying24]using hv
  cases e;rw[show prog.cellsOf 24=4 by kernel_rfl]at hs;exact hs
 obtain⟨x,hx⟩:=bFW hl hf;subst hx;exact⟨x,rfl⟩
end
end Go.Proofs.YtglgakbkdjhojaaGreat.Ex
