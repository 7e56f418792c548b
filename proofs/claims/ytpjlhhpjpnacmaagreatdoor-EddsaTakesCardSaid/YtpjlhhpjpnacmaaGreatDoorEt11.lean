/- Et11 -/
import Derived.Deep.RegionHeld3
import Derived.Deep.DeepCutAuto
import Derived.Laws.AppendOwn
import Derived.Laws.OwnMore
import Derived.Deep.LoopGhost
import Derived.KernelRfl
import Derived.Test.YtpjlhhpjpnacmaaGreatDoorEt10
import Derived.Test.YtpjlhhpjpnacmaaGreatDoorEt04
import Derived.Test.YtpjlhhpjpnacmaaGreatDoorEt03
import Derived.Test.YtpjlhhpjpnacmaaGreatDoorEt05
import Derived.Test.YtpjlhhpjpnacmaaGreatDoorEt06
import Derived.Test.YtpjlhhpjpnacmaaGreatDoorEt02
import Derived.Test.YtpjlhhpjpnacmaaGreatDoorProg
set_option maxRecDepth 100000
set_option linter.unusedVariables false
set_option linter.unusedSimpArgs false
set_option linter.unnecessarySimpa false
noncomputable section
namespace Go.Proofs.YtpjlhhpjpnacmaaGreatDoor.Ex
open Go.Proofs.Tryz
open Go.RowKit
def BA:Code→Code
 | .cond _ x _=>x
 | c=>c
theorem aKr:WZ=.seq (cA WZ) (.cond (.tmp 55) (.seq (.region 13 (aE (cA (BA (cB WZ)))) false) .ret) .skip):=by kernel_rfl
theorem Tk (u:Value) (p:Option Addr) (N m:Nat) (z:Bool) (pb rb wd T:Nat):aX prog (qG prog) 59 (fun _=>tC T0 (assoc [(55,.bool z)])) 60 (cA WZ) (dK (.slice p N m) u pb rb wd T) (.slot 55 (.im (.bool z))::dK (.slice p N m) u pb rb wd T)=some ([aN .eql .i64 (Int.ofNat N) 0=some (.bool z)],.nrm,.slot 55 (.im (.bool z))::dK (.slice p N m) u pb rb wd T):=by kernel_rfl
theorem aFM (w:World) (v:Value) (pb rb wd T sb m x:Nat):cX prog { qG prog with x:=xO w (assoc [(57,1)]) (assoc [(58,[.q x])]) (fun _=>none) } 59 (tC T0 fun _=>none) ((aE (cA (BA (cB WZ)))).extract 0 3) (dK v (aM sb 0 wd m) pb rb wd T) [.slot 58 (.fl [.q x]),.slot 4 (.im (ptV rb 0))]=some ([(1:Int)=Int.ofNat 1,1<wd,oldOf w sb (0+1*4) [.q x],dN [.q x]=4],[.slot 58 (.fl [.q x]),.slot 4 (.im (ptV rb 0))]):=by kernel_rfl
theorem QN {h h':Nat→Nat} {n p y:Nat} (hp:p<n) (e1:h' p=y) (e2:∀q,q≠p→h' q=h q):put (cJ (el h) 0 n) (0+p*4) [.q y]=some (cJ (el h') 0 n):=by
 rw[jY (el h) p n 0 hp,jY (el h') p n 0 hp];have q1:cJ (el h) 0 p=cJ (el h') 0 p:=fY p 0 fun q hq=>(e2 _ (by omega)).symm
 have q2:cJ (el h) (0+p+1) (n-p-1)=cJ (el h') (0+p+1) (n-p-1):=fY _ _ fun q hq=>(e2 _ (by omega)).symm
 have q3:el h' (0+p)=[.q y]:=by show [At.q (h' (0+p))]=_; rw[Nat.zero_add,e1]
 rw[CN (cJ (el h) 0 p) (el h (0+p)) _ [.q y] (by rw[iG (f:=el h) (c:=4) (fun _=>rfl)]; omega) rfl,q1,q2,q3]
theorem Jf {b o n m i:Nat} (h:i≤n) (hm:n≤m) (w:World):(Instr.sliceAt 56 (aM b o n m) (some (iI i)) none none).run prog w=.ok (aM b (if m=i then o else o+i*4) (n-i) (m-i)) w:=by
 have hu:prog.underlying 56=some (.slice 27):=underlying56;have hs:dD prog 27=some 4:=by kernel_rfl
 by_cases e:m=i
 ·rw[if_pos e];simp[Instr.sliceAt,Instr.slice,aM,iI,run_underlying hu,Instr.sliceBounds,Instr.sliceBound,asIntOf,bH hs,h,e]
 ·rw[if_neg e];simp[Instr.sliceAt,Instr.slice,aM,iI,run_underlying hu,Instr.sliceBounds,Instr.sliceBound,asIntOf,bH hs,h,e,Addr.add_mid]
def mO (s g:Nat→Nat) (j q:Nat):Nat:=if 1≤q∧q<1+j then iP (s q) (g (q-1))else s q
theorem Xz (s g:Nat→Nat):mO s g 0=s:=funext fun q=>by unfold mO; rw[if_neg (by omega)]
def Jd (P:(Nat→Nat)→Nat→Nat) (rt:Nat):Nat→Nat→(Nat→Nat)→(Nat→Nat)→Nat
 | 0,_,_,s=>s 1
 | k+1,N,f,s=>if N-min rt N=0 then P (mO s f (min rt N)) 1 else Jd P rt k (N-min rt N) (fun j=>f (min rt N+j)) (P (mO s f (min rt N)))
structure DgS (w1:World) (pb rb wd sb m6:Nat) (v:Value) (s:Nat→Nat) (a:Act) (w:World):Prop where
 defers:a.defers=[]
 size:a.tmps.size=59
 t1:a.tmps[1]?=some v
 t2:a.tmps[2]?=some (ptV pb 0)
 t4:a.tmps[4]?=some (ptV rb 0)
 t5:a.tmps[5]?=some (iI (wd-1))
 t6:a.tmps[6]?=some (aM sb 0 wd m6)
 below:Below w1.heap.size w1 w
 shape:Shape w1 w
 o6:Own w sb (cJ (el s) 0 wd)
 l6:w1.heap.size≤sb
theorem DgS.holds {w1:World} {pb rb wd sb m6:Nat} {v:Value} {s:Nat→Nat} {a:Act} {w:World} (h:DgS w1 pb rb wd sb m6 v s a w):Holds 59 w1.heap.size w1 (dF v pb rb wd sb m6 (cJ (el s) 0 wd)) a w:=by
 refine⟨h.defers,h.size,h.below,h.below.size,fun k=>bif Nat.beq k 1006 then (sb,0,m6)else (w1.heap.size,0,0),fun φ hφ => ?_,fun k k' o' l l' e1 e2 hne => ?_,fun k l e1 => ?_,h.below.size,fun p q1 q2 => ?_,h.shape⟩
 ·simp only[dF,dA,List.mem_cons,List.not_mem_nil,or_false]at hφ
  rcases hφ with rfl|rfl|rfl|rfl|rfl|rfl|rfl
  ·exact h.t6
  ·exact⟨h.o6.lt,h.o6.row,fun _=>⟨h.l6,rfl,h.o6.free⟩,fun h=>by cases h⟩
  ·exact⟨rfl,rfl⟩
  ·exact h.t5
  ·exact h.t1
  ·exact h.t2
  ·exact h.t4
 ·simp only[dF,dA,List.mem_cons,reduceCtorEq,Fact.row.injEq,false_or,List.not_mem_nil,or_false]at e1 e2;exact (hne (e1.1.trans e2.1.symm)).elim
 ·simp only[dF,dA,List.mem_cons,reduceCtorEq,Fact.row.injEq,false_or,List.not_mem_nil,or_false]at e1;obtain⟨rfl,_⟩:=e1;exact Or.inr h.l6
 ·exact absurd (Nat.lt_trans q1 q2) (Nat.lt_irrefl _)
theorem qE (x:Nat):(aA [At.q x]).all (·.oneCell')=true:=by simp[aA,At.cells,w4,Value.oneCell']
theorem Rf {base:Nat} {w0:World} {p:Option Addr} {n m:Nat} (hn:n≤65536):TabOkW prog (T0.add 186 (gCt (.slice p n m) n)) base w0 :=
 TabOkW.add ((bP _).w _ _) func186 (by kernel_rfl) (by kernel_rfl) (fun w hw cs pre r hg hp args ha=>by
  unfold gCt at hg;split at hg
  ·cases hg
   match args,ha with
   | [u],ha =>
    have e:u=_:=ha.1;rw[hp.1]at e;subst e;exact VQ hn
   | [],ha=>exact ha.elim
   | _::_::_,ha=>exact ha.2.elim
  ·cases hg)
def Gx (p:Option Addr) (m:Nat):Prop:=(p=none∧m=0)∨∃b o,p=some ⟨b,o,none⟩
theorem Bf (w:World):(Instr.sliceAt 56 (.slice none 0 0) (some (iI 0)) none none).run prog w=.ok (.slice none 0 0) w:=by
 have hu:prog.underlying 56=some (.slice 27):=underlying56;have hs:dD prog 27=some 4:=by kernel_rfl
 simp[Instr.sliceAt,Instr.slice,iI,run_underlying hu,Instr.sliceBounds,Instr.sliceBound,asIntOf,bH hs]
theorem Ix {w1:World} {p:Option Addr} {N m T:Nat} {f:Nat→Nat} (h:Gx p m) (hv:LV w1 (.slice p N m) N f) (hT:T≤N):∃p2 m2,N-T≤m2∧(∀w:World,(Instr.sliceAt 56 (.slice p N m) (some (iI T)) none none).run prog w=.ok (.slice p2 (N-T) m2) w)∧LV w1 (.slice p2 (N-T) m2) (N-T) (fun j=>f (T+j))∧Gx p2 m2:=by
 obtain⟨p',m',e,hNm,h256,hmem⟩:=id hv;cases e
 rcases h with⟨rfl,rfl⟩|⟨b,o,rfl⟩
 ·obtain rfl:N=0:=by omega
  obtain rfl:T=0:=by omega
  exact⟨none,0,Nat.le_refl _,Bf,⟨none,0,rfl,Nat.le_refl _,fun j h=>by omega,fun h=>by omega⟩,Or.inl ⟨rfl,rfl⟩⟩
 ·refine⟨some ⟨b,if m=T then o else o+T*4,none⟩,m-T,by omega,fun w=>Jf hT hNm w,?_,Or.inr ⟨_,_,rfl⟩⟩
  by_cases e:m=T
  ·exact⟨_,_,rfl,by omega,fun j h=>h256 _ (by omega),fun h=>by omega⟩
  ·rw[if_neg e]
   by_cases hz:N-T=0
   ·exact⟨_,_,rfl,by omega,fun j h=>h256 _ (by omega),fun h=>by omega⟩
   ·exact hv.piece (o:=o) (i:=T) (k:=N-T) (by omega)
theorem VL {w0:World} {wd fl pt N m:Nat} {p:Option Addr} {xs f:Nat→Nat} {cs is:Value} (hM:PmM w0 wd fl pt xs cs is) (hsv:Gx p m) (hv:LV w0 (.slice p N m) N f) (hf:∀q,q<N→f q<RM) (h2:2≤wd) (hw:wd≤32) (hfl:fl≤1024) (hpt:pt≤1024) (hN:N≤65536) :
  bG prog 143 (.one (.fl [.q (Jd (iK xs wd fl pt (fl+pt)) (wd-1) (N+1) N f fun q=>if q=0 then N else 0)])) [.agg (aA (rP wd fl pt cs is)).toArray,.slice p N m] w0:=by
 have hG:∀base w,bQ prog (qG prog) base w:=fun _ _=>(aV _).w _ _
 have hT:∀base w,∀n d:Nat,TabOkW prog T0 base w:=fun _ _ _ _=>(bP _).w _ _
 have hnt:f143.ntmps=59:=aFK;refine cM func143 (cs:=[.v (.fl (rP wd fl pt cs is)),.v (.im (.slice p N m))]) (args:=[.agg (aA (rP wd fl pt cs is)).toArray,.slice p N m]) (c:=kI) rfl ⟨rfl,rfl,trivial⟩ (Nat.le_of_ble_eq_true (by kernel_rfl)) fun a w hA => ?_
 rw[hnt]at hA;rw[Pj];refine wp_seq (aB aI (hT _ _) (hG _ _) (aFH (.slice p N m) wd fl pt cs is) trivial hA fun a w1 hA => ?_);obtain⟨pb,hA⟩:=hA.at (k:=2) (l:=rP wd fl pt cs is) (by simp);obtain⟨rb,hA⟩:=hA.at (k:=4) (l:=zC) (by simp);have hpb:oldOf w1 pb 0 (rP wd fl pt cs is):=hA.old (k:=2) (by simp) (by simp);have hrb:Own w1 rb zC:=hA.own (k:=4) (by simp) (by simp);have hrB:w0.heap.size≤rb:=hA.geq (k:=4) (l:=zC) (by simp) (by simp);have hM1:=hM.on hA.below;have hv1:=hv.on hA.below;have hbl:=hA.below;have hS:=aU (nt:=59) (w:=w1) (a:=a) (ts:=[(1,.slice p N m),(2,ptV pb 0),(4,ptV rb 0)]) hA.defers hA.size (fun x hx=>by
  simp only[List.mem_cons,List.not_mem_nil,or_false]at hx
  rcases hx with rfl|rfl|rfl
  ·exact hA.slot (by simp)
  ·exact hA.ptS (s:=2) (k:=2) (o:=0) (by simp) (by simp)
  ·exact hA.ptS (s:=4) (k:=4) (o:=0) (by simp) (by simp))
 clear hA;have p0:oldOf w1 pb 0 [.c (iI wd)]:=⟨hpb.1,eH (i:=0) (n:=1) hpb.2 rfl⟩;refine wp_seq (aB aI (hT _ _) (dS w1 _ _ _) (aFG w1 (.slice p N m) pb rb wd) ⟨p0,nV (i:=wd) (k:=1) (by omega) (by omega),trivial⟩ hS fun a w2 hA => ?_);refine wp_seq (aB aI (hT _ _) (aBX w1 wd) (aFF w1 (.slice p N m) pb rb wd) ⟨p0,RC (t:=56) (e:=27) (z:=[.q 0]) (v:=.int .u64 0) (n:=4) (by8:=32) (by kernel_rfl) (by kernel_rfl) rfl vN (by omega) (by omega) (by omega),trivial⟩ hA fun a w2 hA => ?_);have hput:put (tD wd) (0+0*4) [.q N]=some (cJ (el fun q=>if q=0 then N else 0) 0 wd):=QN (h:=fun _=>0) (h':=fun q=>if q=0 then N else 0) (p:=0) (by omega) (if_pos rfl) fun q hq=>if_neg hq
 refine wp_seq (aB aI (fun _ _=>Rf hN) (Uo 0 _ _ _) (aFE (.slice p N m) pb rb wd N (tD wd) _) ⟨rfl,rfl,by omega,hput,trivial⟩ hA fun a w3 hA => ?_);obtain⟨sb,hA⟩:=hA.at (k:=17) (l:=cJ (el fun q=>if q=0 then N else 0) 0 wd) (by simp);have hD:DgS w1 pb rb wd sb wd (.slice p N m) (fun q=>if q=0 then N else 0) a w3:=⟨hA.defers,hA.size,hA.slot (by simp[dA]),hA.slot (by simp[dA]),hA.slot (by simp[dA]),hA.slot (by simp),(hA.im (s:=6) (k:=17) (o:=0) (n:=wd) (m:=wd) (b:=sb) (by simp) (by simp)).slot (by simp),hA.below,hA.shape,hA.own (k:=17) (by simp) (by simp),hA.geq (k:=17) (l:=cJ (el fun q=>if q=0 then N else 0) 0 wd) (by simp) (by simp)⟩;have hs0:∀q,q<wd→(fun q=>if q=0 then N else 0) q<RM:=fun q _=>by
  have:N<RM:=Nat.lt_of_le_of_lt hN (by decide)
  by_cases e:q=0
  ·show (if q=0 then N else 0)<RM;rw[if_pos e]; exact this
  ·show (if q=0 then N else 0)<RM;rw[if_neg e]; exact eE
 generalize (fun q=>if q=0 then N else 0:Nat→Nat)=s0 at hD hs0;clear hA hS hput hv;refine wp_block (dU (n:=N+1) ?_);generalize hX:Jd (iK xs wd fl pt (fl+pt)) (wd-1) (N+1) N f s0=X;have key:∀k N p m f s sb m6 a w,N<k→N≤65536→wd≤m6→Gx p m→LV w1 (.slice p N m) N f→(∀q,q<N→f q<RM)→(∀q,q<wd→s q<RM)→DgS w1 pb rb wd sb m6 (.slice p N m) s a w→Jd (iK xs wd fl pt (fl+pt)) (wd-1) k N f s=X →
   Un prog (.block 1 (.seq (cA dgB) (.seq (.seq (cA dg5) (.block 2 (.loop dgL))) (.seq (.region 10 (aE ON) false) (.seq aAr WZ))))) (Exit.inBlock 0 (bodyPost prog f143 fun e w'=>e=.returned (RV.one (.fl [.q X])).den∧Below w0.heap.size w0 w')) k a w:=by
  intro k
  induction k with
  | zero=>intro N p m f s sb m6 a w h; omega
  | succ k ih =>
   intro N p m f s sb m6 a w hk hN hm6 hsv hv hf hs hS hX;obtain⟨p',m',e',hNm,h256,hmem⟩:=id hv;cases e';unfold Un;refine wp_block ?_;obtain⟨T,hTe⟩:∃T,min (wd-1) N=T:=⟨_,rfl⟩
   have hTN:T≤N:=by omega
   have hTw:T≤wd-1:=by omega
   have hmin:Value.int .i64 (if Int.ofNat N<Int.ofNat (wd-1)then Int.ofNat N else Int.ofNat (wd-1))=iI T:=by
    by_cases h:N<wd-1
    ·rw[if_pos (by show (N:Int)<((wd-1:Nat):Int); omega),show T=N by omega]; rfl
    ·rw[if_neg (by show ¬(N:Int)<((wd-1:Nat):Int); omega),show T=wd-1 by omega]; rfl
   refine wp_seq (aB aI (hT _ _) (hG _ _) (aFJ pb rb wd sb m6 _ _ N m T) ⟨hmin,trivial⟩ hS.holds fun a w hA => ?_);refine wp_seq (wp_seq (aB aI (hT _ _) (hG _ _) (aFI pb rb wd sb m6 _ _ N m T) ⟨by omega,trivial⟩ hA fun a w hA => ?_));refine wp_block ?_;rw[←Xz s f]at hA;refine kG aI (fun j=>dH (.slice p N m) (.slice p T m) T j pb rb wd sb m6 (cJ (el (mO s f j)) 0 wd)) T (fun j hj => ?_) (.ex 2) (by simp) (dG (.slice p N m) T pb rb wd sb m6 (cJ (el (mO s f T)) 0 wd)) ⟨_,_,_,_,hG _ _,hT _ _,aFL pb rb wd sb m6 _ (.slice p N m) (.slice p T m) T T,dM (Nat.le_refl _),trivial⟩ hA fun a w hA => ?_
   ·obtain⟨b',o',e,hb,hr⟩:=hmem (by omega);cases e;have hmj:mO s f j (1+j)=s (1+j):=by unfold mO; rw[if_neg (by omega)]
    have hp:put (cJ (el (mO s f j)) 0 wd) (0+(1+j)*4) [.q (iP (s (1+j)) (f j))]=some (cJ (el (mO s f (j+1))) 0 wd):=QN (by omega) (by unfold mO; rw[if_pos (by omega),show 1+j-1=j by omega]) fun q hq=>by
     unfold mO
     by_cases c:1≤q∧q<1+j
     ·rw[if_pos c,if_pos (by omega)]
     ·rw[if_neg c,if_neg (by omega)]
    exact⟨_,_,_,_,kM w1 _ _ _ _,fun _ _=>IE.w _ _,aKq w1 pb rb wd sb m6 _ (.slice (some ⟨b',o',none⟩) N m) b' o' T m j (s (1+j)) (f j) _,fA hj,rfl,hj,nU hb hr (by omega),rfl,gN (i:=1) (by omega),gN (i:=1) (by omega),rfl,by omega,by rw[CC (by omega),hmj],hs _ (by omega),hf _ (by omega),rfl,by omega,hp,gN (k:=1) (by omega),trivial⟩
   have hms:∀q,q<wd→mO s f T q<RM:=fun q hq=>by
    unfold mO
    by_cases c:1≤q∧q<1+T
    ·rw[if_pos c]; exact dJ _ _
    ·rw[if_neg c]; exact hs q hq
   have hX:(if N-T=0 then iK xs wd fl pt (fl+pt) (mO s f T) 1 else Jd (iK xs wd fl pt (fl+pt)) (wd-1) k (N-T) (fun j=>f (T+j)) (iK xs wd fl pt (fl+pt) (mO s f T)))=X:=by
    have hX:(if N-min (wd-1) N=0 then iK xs wd fl pt (fl+pt) (mO s f (min (wd-1) N)) 1 else Jd (iK xs wd fl pt (fl+pt)) (wd-1) k (N-min (wd-1) N) (fun j=>f (min (wd-1) N+j)) (iK xs wd fl pt (fl+pt) (mO s f (min (wd-1) N))))=X:=hX
    rwa [hTe]at hX
   generalize mO s f T=g at hA hms hX;simp only[EA.out,Exit.then,Exit.inBlock,if_true];have hO:Own w sb (cJ (el g) 0 wd):=hA.own (k:=1006) (by simp[dG,dF]) (by simp[dG,dF]);have hb1:=hA.below;have hsh1:=hA.shape;have hl6:=hS.l6;have hS2:=aU (nt:=59) (w:=w) (a:=a) (ts:=[(6,aM sb 0 wd m6),(7,iI T),(5,iI (wd-1)),(1,.slice p N m),(2,ptV pb 0),(4,ptV rb 0)]) hA.defers hA.size (fun x hx=>by
    simp only[List.mem_cons,List.not_mem_nil,or_false]at hx
    rcases hx with rfl|rfl|rfl|rfl|rfl|rfl
    ·exact (hA.im (s:=6) (k:=1006) (o:=0) (n:=wd) (m:=m6) (b:=sb) (by simp[dG,dF]) (by simp[dG,dF])).slot (by simp)
    ·exact hA.slot (by simp[dG,dF,dA])
    ·exact hA.slot (by simp[dG,dF,dA])
    ·exact hA.slot (by simp[dG,dF,dA])
    ·exact hA.slot (by simp[dG,dF,dA])
    ·exact hA.slot (by simp[dG,dF,dA]))
   clear hA hS;refine wp_seq (bK (l:=List.range' 0 ((aE ON).extract 0 2).size++(2::(List.range' 3 ((aE ON).extract 3 4).size++[]))) (by kernel_rfl) ?_);refine aJ (c:=tC T0 _) (hT _ _ 0) (dS w _ _ _) (aAp w (.slice p N m) (aM sb 0 wd m6) pb rb wd T fl pt cs is) ⟨hpb.on hb1,rfl,trivial⟩ (by kernel_rfl) hS2 fun a2 w2 hA => ?_
   obtain⟨o2,ho2,⟨ts2,hop2⟩,hd2,hg2⟩:∃x,(aE ON)[2]?=some x∧(∃ts,x.op=.call ⟨.value (.func 120),#[.tmp 47,.tmp 48],ts⟩)∧x.dst=some 49∧x.guard=none:=⟨_,rfl,⟨_,rfl⟩,rfl,rfl⟩
   have hb2:=hb1.trans (hA.below.mono hb1.size);have hO2:=hO.on hA.below;have hvs:LV w2 (aM sb 0 wd m6) wd g:=⟨_,m6,rfl,hm6,fun q hq=>fT (hms q hq),fun _=>⟨sb,0,rfl,hO2.lt,hO2.row⟩⟩;refine bE ho2 hg2 (cQ hop2 (vs:=[.agg (aA (rP wd fl pt cs is)).toArray,aM sb 0 wd m6]) (List.cons_eq_cons.2 ⟨cR (hA.slotF (s:=47) (by simp)),List.cons_eq_cons.2 ⟨cR (hA.slot (s:=48) (by simp)),rfl⟩⟩) (fun args=>cC func120 (by kernel_rfl) (by kernel_rfl) args _) (Ah (hM1.on hb2) hvs hms (by omega) hw hfl hpt) fun e w3 hr => ?_);obtain⟨sc,mc,rfl,hmc,hb3,hge3,hO3⟩:=hr;refine⟨_,rfl,?_⟩;rw[hd2];have hb13:=hb2.trans (hb3.mono hb2.size);have hsh3:=(hsh1.trans hA.shape).trans (Shape.below hb3);have hlc:w1.heap.size≤sc:=Nat.le_trans hb2.size hge3;have hS3:=aU (nt:=59) (w:=w3) (a:=a2.put (some 49) (aM sc 0 wd mc)) (ts:=[(49,aM sc 0 wd mc),(6,aM sb 0 wd m6),(7,iI T),(5,iI (wd-1)),(1,.slice p N m),(2,ptV pb 0),(4,ptV rb 0)]) hA.defers (by rw[aH]; exact hA.size) (fun x hx=>by
    simp only[List.mem_cons,List.not_mem_nil,or_false]at hx
    rcases hx with rfl|rfl|rfl|rfl|rfl|rfl|rfl
    ·exact aT _ _ _ (by rw[hA.size]; decide)
    all_goals exact aQ (hA.slot (by simp[dK])) (by simp))
   clear hA hS2 hO hO2 hvs;refine aJ (c:=tC T0 _) (hT _ _ 0) (hG _ _) (aAo (.slice p N m) (aM sc 0 wd mc) (aM sb 0 wd m6) pb rb wd T) trivial (by kernel_rfl) hS3 fun a4 w4 hA => ?_
   show (Code.seq _ _).wp _ _ _ _;obtain⟨p2,m2,hm2,htl,hv2,hsv2⟩:=Ix hsv hv hTN;refine wp_seq (aB aI (hT _ _) (dS w3 _ _ _) (aFN w3 (.slice p N m) (.slice p2 (N-T) m2) (aM sc 0 wd mc) pb rb wd T) ⟨htl,trivial⟩ hA fun a5 w5 hA => ?_);have wlE:∀Q a w,(Code.seq (cA WZ) (.cond (.tmp 55) (.seq (.region 13 (aE (cA (BA (cB WZ)))) false) .ret) .skip)).wp prog Q a w→WZ.wp prog Q a w:=fun Q a w h=>by rw[aKr]; exact h
   refine wlE _ _ _ ?_
   by_cases hz:N-T=0
   ·rw[if_pos hz]at hX;refine wp_seq (aB aI (hT _ _) (hG _ _) (Tk _ _ (N-T) m2 true pb rb wd T) ⟨by rw[hz]; rfl,trivial⟩ hA fun a6 w6 hA => ?_);have hc:=hA.imV (s:=55) (v:=.bool true) (by simp);refine wp_cond_true hc ?_;have hO6:=hO3.on hA.below;have hB6:=hb13.trans (hA.below.mono hb13.size);have hS6:=aU (nt:=59) (w:=w6) (a:=a6) (ts:=[(6,aM sc 0 wd mc),(7,iI T),(5,iI (wd-1)),(1,.slice p2 (N-T) m2),(2,ptV pb 0),(4,ptV rb 0)]) hA.defers hA.size (fun x hx=>by
     simp only[List.mem_cons,List.not_mem_nil,or_false]at hx
     rcases hx with rfl|rfl|rfl|rfl|rfl|rfl<;>exact hA.slot (by simp[dK,aM]))
    clear hA hS3;refine wp_seq (bK (l:=List.range' 0 ((aE (cA (BA (cB WZ)))).extract 0 3).size++(3::[])) (by kernel_rfl) ?_);refine aJ (c:=tC T0 _) (hT _ _ 0) (dS w6 _ _ _) (aFM w6 (.slice p2 (N-T) m2) pb rb wd T sc mc (iK xs wd fl pt (fl+pt) g 1)) ⟨rfl,by omega,nU hO6.lt hO6.row (by omega),rfl,trivial⟩ (by kernel_rfl) hS6 fun a7 w7 hA => ?_
    obtain⟨o3,ho3,hop3,hd3,hg3⟩:∃x,(aE (cA (BA (cB WZ))))[3]?=some x∧x.op=.store 27 (.tmp 4) (.tmp 58)∧x.dst=none∧x.guard=none:=⟨_,rfl,rfl,rfl,rfl⟩
    have hB7:=hB6.trans (hA.below.mono hB6.size);have hR7:=hrb.on hB7;have hput:put zC 0 [.q (iK xs wd fl pt (fl+pt) g 1)]=some [.q (iK xs wd fl pt (fl+pt) g 1)]:=rfl;obtain⟨hR8,hW8⟩:=hR7.set hput;refine bE ho3 hg3 (fL (vs:=aA [.q (iK xs wd fl pt (fl+pt) g 1)]) hop3 hd3 (cR (hA.slot (s:=4) (by simp))) (cR (hA.slotF (s:=58) (by simp))) rfl (qE _) Vn (hR7.there (o:=0) (n:=4) (Nat.le_of_ble_eq_true rfl)) ?_);have hH:=hR8.holds (k:=4) (nt:=59) (a:=a7) (ts:=[]) hA.defers hA.size rfl (hA.slot (by simp)) (fun x hx=>by cases hx);rw[hX]at hH hW8 ⊢;refine wp_ret ?_;simp only[Exit.then,Exit.inBlock];exact (cN (l:=[.fl [.q X]]) (r:=.one (.fl [.q X])) (by kernel_rfl) (by kernel_rfl) hH ⟨rfl,(hbl.trans (hB7.mono hbl.size)).trans (hW8.below.mono hrB)⟩)
   ·rw[if_neg hz]at hX;refine wp_seq (aB aI (hT _ _) (hG _ _) (Tk _ _ (N-T) m2 false pb rb wd T) ⟨by
     show some (Value.bool (Int.ofNat (N-T)==0))=_;rw[show (Int.ofNat (N-T)==0)=false by rw[beq_eq_false_iff_ne]; intro e; exact hz (by simpa using e)],trivial⟩ hA fun a6 w6 hA => ?_)
    have hc:=hA.imV (s:=55) (v:=.bool false) (by simp);refine wp_cond_false hc (wp_skip ?_);simp only[Exit.then,Exit.inBlock];refine ih (N-T) p2 m2 (fun j=>f (T+j)) (iK xs wd fl pt (fl+pt) g) sc mc a6 w6 (by omega) (by omega) hmc hsv2 hv2 (fun q hq=>hf _ (by omega)) (QT hms _) ⟨hA.defers,hA.size,hA.slot (by simp[dK,aM]),hA.slot (by simp[dK]),hA.slot (by simp[dK]),hA.slot (by simp[dK]),hA.slot (by simp[dK]),hb13.trans (hA.below.mono hb13.size),hsh3.trans hA.shape,hO3.on hA.below,hlc⟩ hX
 exact key (N+1) N p m f s0 sb wd a w3 (by omega) hN (Nat.le_refl _) hsv hv1 hf hs0 hD hX
theorem Kg (wd fl pt:Nat):cH prog (qG prog) (fun _=>tC T0 (assoc [(5,.bool false),(9,.bool false),(13,.bool false),(17,.bool false),(22,iI (fl%2)),(23,.bool false),(27,.bool false),(31,.bool false)])) f79 60 [.v (.fl (rR wd fl pt))]=some ([aN .lss .i64 (Int.ofNat wd) 2=some (.bool false),aN .gtr .i64 (Int.ofNat wd) 8=some (.bool false),aN .lss .i64 (Int.ofNat fl) 2=some (.bool false),aN .gtr .i64 (Int.ofNat fl) 64=some (.bool false),aN .rem .i64 (Int.ofNat fl) 2=some (iI (fl%2)),aN .neq .i64 (Int.ofNat (fl%2)) 0=some (.bool false),aN .lss .i64 (Int.ofNat pt) 0=some (.bool false),aN .gtr .i64 (Int.ofNat pt) 128=some (.bool false)],.one (.im (.int .i64 0))):=by kernel_rfl
structure RdOk (wd fl pt:Nat):Prop where
 w2:2≤wd
 w8:wd≤8
 f2:2≤fl
 f64:fl≤64
 ev:fl%2=0
 p128:pt≤128
theorem DJ {n k:Nat} (h:n≤k):aN .gtr .i64 (Int.ofNat n) (Int.ofNat k)=some (.bool false):=by
 show some (Value.bool (decide ((n:Int)>(k:Int))))=_;rw[decide_eq_false (by omega)]
theorem VU {wd fl pt:Nat} (h:RdOk wd fl pt) (args:List Value) (w:World) (ha:cP w [.v (.fl (rR wd fl pt))] args):bG prog 79 (.one (.im (.int .i64 0))) args w :=
 bZ aI (fun _ _=>(bP _).w _ _) ((aV _).w _ _) func79 (Kg wd fl pt) ⟨dM (i:=wd) (n:=2) h.w2,DJ (k:=8) h.w8,dM (i:=fl) (n:=2) h.f2,DJ (k:=64) h.f64,by
  show (if (2:Int)=0 then none else some (Value.int .i64 ((fl:Int).tmod 2)))=_;rw[if_neg (by decide),show (fl:Int).tmod 2=((fl%2:Nat):Int) by rw[Int.tmod_eq_emod_of_nonneg (by omega)]; rfl];rfl,by rw[h.ev]; rfl,dM (i:=pt) (n:=0) (Nat.zero_le _),DJ (k:=128) h.p128,trivial⟩ ha
noncomputable abbrev haF:Func:=f89
def kH:Code:=(f89.body).getD .skip
def haX:Code:=cB (cB (cB (cB kH)))
def Hk:Code:=cA haX
theorem My:kH=.seq (cA kH) (.seq (cA (cB kH)) (.seq (cA (cB (cB kH))) (.seq (cA (cB (cB (cB kH)))) (.seq (.region 8 (aE Hk) false) .ret)))):=by kernel_rfl
theorem aEB:haF.ntmps=25:=by kernel_rfl
def hA (v:Value) (pb rb:Nat):List Fact:=[.slot 1 (.im v),.slot 2 (.im (ptV pb 0)),.slot 4 (.im (ptV rb 0))]
theorem aEA (v:Value) (wd fl pt:Nat):aX prog (qG prog) 25 (fun _=>tC T0 fun _=>none) 60 (cA kH) (fJ 0 [.v (.fl (rR wd fl pt)),.v (.im v)]) [.slot 1 (.im v),.slot 2 (.pt 2 0),.row 2 true (rR wd fl pt),.slot 4 (.pt 4 0),.row 4 true zC]=some ([],.nrm,[.slot 1 (.im v),.slot 2 (.pt 2 0),.row 2 true (rR wd fl pt),.slot 4 (.pt 4 0),.row 4 true zC]):=by kernel_rfl
def Zp (wd fl pt:Nat):gE
 | [.v (.fl l)]=>some ([aA l=aA (rR wd fl pt)],.one (.im (.int .i64 0)))
 | _=>none
def gBw (v:Value):gE
 | [.v (.im u)]=>some ([u=v],.one (.im (.bool true)))
 | _=>none
theorem aJF (w:World) (v:Value) (pb rb wd fl pt:Nat):aX prog { qG prog with x:=xO w (fun _=>none) (assoc [(7,rR wd fl pt)]) (fun _=>none) } 25 (fun _=>tC (T0.add 79 (Zp wd fl pt)) fun _=>none) 60 (cA (cB kH)) (hA v pb rb) (hA v pb rb)=some ([oldOf w pb 0 (rR wd fl pt),dN (rR wd fl pt)=3,aA (rR wd fl pt)=aA (rR wd fl pt)],.nrm,hA v pb rb):=by kernel_rfl
theorem aJE (p:Option Addr) (N m pb rb:Nat):aX prog (qG prog) 25 (fun _=>tC T0 (assoc [(15,.bool false)])) 60 (cA (cB (cB kH))) (hA (.slice p N m) pb rb) (hA (.slice p N m) pb rb)=some ([aN .gtr .i64 (Int.ofNat N) 4096=some (.bool false)],.nrm,hA (.slice p N m) pb rb):=by kernel_rfl
theorem aJD (v:Value) (pb rb:Nat):aX prog (qG prog) 25 (fun _=>tC (T0.add 118 (gBw v)) fun _=>none) 60 (cA (cB (cB (cB kH)))) (hA v pb rb) (hA v pb rb)=some ([v=v],.nrm,hA v pb rb):=by kernel_rfl
theorem aEE (w:World) (v:Value) (pb rb wd fl pt:Nat):cX prog { qG prog with x:=xO w (fun _=>none) (assoc [(21,rR wd fl pt)]) (fun _=>none) } 25 (tC T0 fun _=>none) ((aE Hk).extract 0 1) (hA v pb rb) (.slot 21 (.fl (rR wd fl pt))::hA v pb rb)=some ([oldOf w pb 0 (rR wd fl pt),dN (rR wd fl pt)=3],.slot 21 (.fl (rR wd fl pt))::hA v pb rb):=by kernel_rfl
theorem aED (v:Value) (pb rb:Nat) (l:List At):cX prog (qG prog) 25 (tC T0 fun _=>none) ((aE Hk).extract 2 3) (.slot 22 (.fl l)::hA v pb rb) [.slot 22 (.fl l),.slot 23 (.im v),.slot 4 (.im (ptV rb 0))]=some ([],[.slot 22 (.fl l),.slot 23 (.im v),.slot 4 (.im (ptV rb 0))]):=by kernel_rfl
theorem aEC (N rb X:Nat):cX prog (qG prog) 25 (tC T0 fun _=>none) ((aE Hk).extract 5 6) [.slot 4 (.pt 4 0),.row 4 true [.q X],.at 4 rb,.at 25 N] [.slot 4 (.pt 4 0),.row 4 true [.q X],.at 4 rb,.at 25 N,.slot 5 (.im (.int .i64 0))]=some ([],[.slot 4 (.pt 4 0),.row 4 true [.q X],.at 4 rb,.at 25 N,.slot 5 (.im (.int .i64 0))]):=by kernel_rfl
theorem Gu {base:Nat} {w0:World} {wd fl pt:Nat} (h:RdOk wd fl pt):TabOkW prog (T0.add 79 (Zp wd fl pt)) base w0 :=
 TabOkW.add ((bP _).w _ _) func79 (by kernel_rfl) (by kernel_rfl) (fun w hw cs pre r hg hp args ha=>by
  unfold Zp at hg;split at hg
  ·cases hg
   match args,ha with
   | [u],ha =>
    have e:u=.agg (aA _).toArray:=ha.1;rw[hp.1]at e;exact VU h [u] w ⟨e,trivial⟩
   | [],ha=>exact ha.elim
   | _::_::_,ha=>exact ha.2.elim
  ·cases hg)
theorem Rg {w0:World} {v:Value} {N:Nat} {f:Nat→Nat} (hv:LV w0 v N f) (hf:pM N f) (hN:N≤65536):TabOkW prog (T0.add 118 (gBw v)) w0.heap.size w0 :=
 TabOkW.add ((bP _).w _ _) func118 (by kernel_rfl) (by kernel_rfl) (fun w hw cs pre r hg hp args ha=>by
  unfold gBw at hg;split at hg
  ·cases hg
   match args,ha with
   | [u],ha =>
    have e:u=_:=ha.1;rw[hp.1]at e;subst e;have:=BB (hv.on hw) (by omega);rw[decide_eq_true hf]at this;exact this
   | [],ha=>exact ha.elim
   | _::_::_,ha=>exact ha.2.elim
  ·cases hg)
def EP (xs:Nat→Nat) (wd fl pt N:Nat) (f:Nat→Nat):Nat:=Jd (iK xs wd fl pt (fl+pt)) (wd-1) (N+1) N f fun q=>if q=0 then N else 0
theorem UP {w0:World} {wd fl pt N m:Nat} {p:Option Addr} {xs f:Nat→Nat} {fu:Nat} {sq:Nat→St} (hr:RdOk wd fl pt) (hsv:Gx p m) (hv:LV w0 (.slice p N m) N f) (hf:∀q,q<N→f q<RM) (hN:N≤4096) (h0:sq 0=KY wd fl pt) (hx:∀i,i<wd*(fl+pt)→zK fu (sq i)=some (xs i,sq (i+1))) (hDj:Dbj w0) :
  bG prog 89 (.many [.fl [.q (EP xs wd fl pt N f)],.im (.int .i64 0)]) [.agg (aA (rR wd fl pt)).toArray,.slice p N m] w0:=by
 have hw8:=hr.w8;have hf64:=hr.f64;have hp128:=hr.p128;have hG:∀base w,bQ prog (qG prog) base w:=fun _ _=>(aV _).w _ _
 have hT:∀base w,∀n d:Nat,TabOkW prog T0 base w:=fun _ _ _ _=>(bP _).w _ _
 have hnt:f89.ntmps=25:=aEB;refine cM func89 (cs:=[.v (.fl (rR wd fl pt)),.v (.im (.slice p N m))]) (args:=[.agg (aA (rR wd fl pt)).toArray,.slice p N m]) (c:=kH) rfl ⟨rfl,rfl,trivial⟩ (Nat.le_of_ble_eq_true (by kernel_rfl)) fun a w hA => ?_
 rw[hnt]at hA;rw[My];refine wp_seq (aB aI (hT _ _) (hG _ _) (aEA (.slice p N m) wd fl pt) trivial hA fun a w1 hA => ?_);obtain⟨pb,hA⟩:=hA.at (k:=2) (l:=rR wd fl pt) (by simp);obtain⟨rb,hA⟩:=hA.at (k:=4) (l:=zC) (by simp);have hpb:oldOf w1 pb 0 (rR wd fl pt):=hA.old (k:=2) (by simp) (by simp);have hrb:Own w1 rb zC:=hA.own (k:=4) (by simp) (by simp);have hrB:w0.heap.size≤rb:=hA.geq (k:=4) (l:=zC) (by simp) (by simp);have hv1:=hv.on hA.below;have hD1:=hDj.on hDj.lt hA.below;have hbl:=hA.below;have hS:=aU (nt:=25) (w:=w1) (a:=a) (ts:=[(1,.slice p N m),(2,ptV pb 0),(4,ptV rb 0)]) hA.defers hA.size (fun x hx=>by
  simp only[List.mem_cons,List.not_mem_nil,or_false]at hx
  rcases hx with rfl|rfl|rfl
  ·exact hA.slot (by simp)
  ·exact hA.ptS (s:=2) (k:=2) (o:=0) (by simp) (by simp)
  ·exact hA.ptS (s:=4) (k:=4) (o:=0) (by simp) (by simp))
 clear hA;refine wp_seq (aB aI (fun _ _=>Gu hr) (dS w1 _ _ _) (aJF w1 (.slice p N m) pb rb wd fl pt) ⟨hpb,rfl,rfl,trivial⟩ hS fun a w2 hA => ?_);refine wp_seq (aB aI (hT _ _) (hG _ _) (aJE _ N m pb rb) ⟨DJ (k:=4096) hN,trivial⟩ hA fun a w2 hA => ?_);refine wp_seq (aB aI (fun _ _=>Rg hv1 hf (by omega)) (hG _ _) (aJD (.slice p N m) pb rb) ⟨rfl,trivial⟩ hA fun a w2 hA => ?_);clear hS;refine wp_seq (bK (l:=List.range' 0 ((aE Hk).extract 0 1).size++(1::(List.range' 2 ((aE Hk).extract 2 3).size++(3::4::(List.range' 5 ((aE Hk).extract 5 6).size++[]))))) (by kernel_rfl) ?_);refine aJ (c:=tC T0 _) (hT _ _ 0) (dS w1 _ _ _) (aEE w1 (.slice p N m) pb rb wd fl pt) ⟨hpb,rfl,trivial⟩ (by kernel_rfl) hA fun a3 w3 hA => ?_
 obtain⟨o1,ho1,⟨ts1,hop1⟩,hd1,hg1⟩:∃x,(aE Hk)[1]?=some x∧(∃ts,x.op=.call ⟨.value (.func 119),#[.tmp 21],ts⟩)∧x.dst=some 22∧x.guard=none:=⟨_,rfl,⟨_,rfl⟩,rfl,rfl⟩
 have hb3:=hA.below;refine bE ho1 hg1 (cQ hop1 (vs:=[.agg (aA (rR wd fl pt)).toArray]) (List.cons_eq_cons.2 ⟨cR (hA.slotF (s:=21) (by simp)),rfl⟩) (fun args=>cC func119 (by kernel_rfl) (by kernel_rfl) args _) (Bt (sq:=sq) (xs:=xs) hr.w2 (by omega) (by omega) (by omega) h0 hx (hD1.on hD1.lt hb3)) fun e w4 hq => ?_);obtain⟨cs,is,rfl,hM,hb4⟩:=hq;refine⟨_,rfl,?_⟩;rw[hd1];have hb14:=hb3.trans (hb4.mono hb3.size);have hS4:=rQ (nt:=25) (w:=w4) (a:=a3.put (some 22) (.agg (aA (rP wd fl pt cs is)).toArray)) (ts:=[(22,.fl (rP wd fl pt cs is)),(1,.im (.slice p N m)),(2,.im (ptV pb 0)),(4,.im (ptV rb 0))]) hA.defers (by rw[aH]; exact hA.size) (fun x hx=>by
  simp only[List.mem_cons,List.not_mem_nil,or_false]at hx
  rcases hx with rfl|rfl|rfl|rfl
  ·exact aT _ _ _ (by rw[hA.size]; decide)
  ·exact aQ (hA.slot (v:=.slice p N m) (by simp[Ex.hA])) (by simp)
  ·exact aQ (hA.slot (v:=ptV pb 0) (by simp[Ex.hA])) (by simp)
  ·exact aQ (hA.slot (v:=ptV rb 0) (by simp[Ex.hA])) (by simp))
 clear hA;refine aJ (c:=tC T0 _) (hT _ _ 0) (hG _ _) (aED (.slice p N m) pb rb _) trivial (by kernel_rfl) hS4 fun a5 w5 hA => ?_
 obtain⟨o3,ho3,⟨ts3,hop3⟩,hd3,hg3⟩:∃x,(aE Hk)[3]?=some x∧(∃ts,x.op=.call ⟨.value (.func 143),#[.tmp 22,.tmp 23],ts⟩)∧x.dst=some 24∧x.guard=none:=⟨_,rfl,⟨_,rfl⟩,rfl,rfl⟩
 have hb15:=hb14.trans (hA.below.mono hb14.size);refine bE ho3 hg3 (cQ hop3 (vs:=[.agg (aA (rP wd fl pt cs is)).toArray,.slice p N m]) (List.cons_eq_cons.2 ⟨cR (hA.slotF (s:=22) (by simp)),List.cons_eq_cons.2 ⟨cR (hA.slot (s:=23) (by simp)),rfl⟩⟩) (fun args=>cC func143 (by kernel_rfl) (by kernel_rfl) args _) (VL (hM.on hA.below) hsv (hv1.on hb15) hf hr.w2 (by omega) (by omega) (by omega) (by omega)) fun e w6 hq => ?_);obtain⟨rfl,hb6⟩:=hq;refine⟨_,rfl,?_⟩;rw[hd3];have hb16:=hb15.trans (hb6.mono hb15.size);have t4:=aQ (d:=24) (u:=(RV.one (.fl [.q (EP xs wd fl pt N f)])).den) (hA.slot (s:=4) (v:=ptV rb 0) (by simp)) (by decide);have t24:=aT a5 24 (.agg (aA [.q (EP xs wd fl pt N f)]).toArray) (by rw[hA.size]; decide);have hdf:=hA.defers;have hsz:=hA.size;clear hA hS4;obtain⟨o4,ho4,hop4,hd4,hg4⟩:∃x,(aE Hk)[4]?=some x∧x.op=.store 27 (.tmp 4) (.tmp 24)∧x.dst=none∧x.guard=none:=⟨_,rfl,rfl,rfl,rfl⟩
 have hR6:=hrb.on hb16;have hput:put zC 0 [.q (EP xs wd fl pt N f)]=some [.q (EP xs wd fl pt N f)]:=rfl;obtain⟨hR7,hW7⟩:=hR6.set hput;refine bE ho4 hg4 (fL (vs:=aA [.q (EP xs wd fl pt N f)]) hop4 hd4 (cR t4) (cR t24) rfl (qE _) Vn (hR6.there (o:=0) (n:=4) (Nat.le_of_ble_eq_true rfl)) ?_);generalize w6.setCells rb 0 (aA [.q (EP xs wd fl pt N f)])=w7 at *;have hH:=hR7.holds (k:=4) (nt:=25) (a:=a5.put (some 24) (.agg (aA [.q (EP xs wd fl pt N f)]).toArray)) (ts:=[]) hdf (by rw[aH]; exact hsz) rfl t4 (fun x hx=>by cases hx);refine aJ (c:=tC T0 _) (hT _ _ 0) (hG _ _) (aEC w7.heap.size rb (EP xs wd fl pt N f)) trivial (by kernel_rfl) hH fun a8 w8 hA => ?_
 have hb8:=hA.below;exact wp_ret (cN (l:=[.fl [.q (EP xs wd fl pt N f)],.im (.int .i64 0)]) (r:=.many [.fl [.q (EP xs wd fl pt N f)],.im (.int .i64 0)]) (by kernel_rfl) (by kernel_rfl) hA ⟨rfl,((hbl.trans (hb16.mono hbl.size)).trans (hW7.below.mono hrB)).trans (hb8.mono hrB)⟩)
theorem Cz {w0:World} {wd fl pt b o N m:Nat} {xs f:Nat→Nat} {fu:Nat} {sq:Nat→St} (hr:RdOk wd fl pt) (hv:LV w0 (aM b o N m) N f) (hf:∀q,q<N→f q<RM) (hN:N≤4096) (h0:sq 0=KY wd fl pt) (hx:∀i,i<wd*(fl+pt)→zK fu (sq i)=some (xs i,sq (i+1))) (hDj:Dbj w0) :
  bG prog 89 (.many [.fl [.q (EP xs wd fl pt N f)],.im (.int .i64 0)]) [.agg (aA (rR wd fl pt)).toArray,aM b o N m] w0:=UP hr (Or.inr ⟨b,o,rfl⟩) hv hf hN h0 hx hDj
theorem Ln:(yC 195 (KY 3 8 57)).isSome=true:=by kernel_rfl
def pcL:List Nat:=(yC 195 (KY 3 8 57)).getD []
def pcX (i:Nat):Nat:=pcL.getD i 0
theorem JU:∀(n:Nat) (s:St) (l:List Nat),OQ n s=some l→∃sq:Nat→St,sq 0=s∧∀i,i<n→zK 100 (sq i)=some (l.getD i 0,sq (i+1))
 | 0,s,l,_=>⟨fun _=>s,rfl,fun i hi=>by omega⟩
 | n+1,s,l,h=>by
  unfold OQ at h;cases hc:zK 100 s with
  | none=>rw[hc]at h; cases h
  | some x =>
   obtain⟨x,t⟩:=x;rw[hc]at h;simp only at h;cases hr:OQ n t with
   | none=>rw[hr]at h; cases h
   | some r =>
    rw[hr]at h;cases h;obtain⟨sq,h0,h1⟩:=JU n t r hr;refine⟨fun i=>match i with|0=>s|i+1=>sq i,rfl,fun i hi => ?_⟩;cases i with
    | zero =>
     show zK 100 s=some (x,sq 0);rw[hc,h0]
    | succ i =>
     show zK 100 (sq i)=some ((x::r).getD (i+1) 0,sq (i+1));rw[h1 i (by omega),List.getD_cons_succ]
theorem Xm:∃sq:Nat→St,sq 0=KY 3 8 57∧∀i,i<3*(8+57)→zK 100 (sq i)=some (pcX i,sq (i+1)):=by
 have h:=Ln;have hL:yC 195 (KY 3 8 57)=some pcL:=by
  unfold pcL;cases hc:yC 195 (KY 3 8 57)with
  | none=>rw[hc]at h; cases h
  | some l=>rfl
 rw[JV 195 (PF 3 8 57)]at hL;exact JU 195 _ _ hL
def Mw (N:Nat) (f:Nat→Nat):Nat:=EP pcX 3 8 57 N f
theorem Db {w0:World} {b o N m:Nat} {f:Nat→Nat} (hv:LV w0 (aM b o N m) N f) (hf:∀q,q<N→f q<RM) (hN:N≤4096) (hDj:Dbj w0) :
  bG prog 89 (.many [.fl [.q (Mw N f)],.im (.int .i64 0)]) [.agg (aA (rR 3 8 57)).toArray,aM b o N m] w0:=by
 obtain⟨sq,h0,hx⟩:=Xm;exact Cz ⟨by decide,by decide,by decide,by decide,by decide,by decide⟩ hv hf hN h0 hx hDj
theorem Ai {xs:Nat→Nat} {wd fl pt:Nat} {f:Nat→Nat} (r:Nat) (q:Nat):iK xs wd fl pt (r+1) f q<RM:=QJ _ _ _
theorem YT {P:(Nat→Nat)→Nat→Nat} (hP:∀s q,P s q<RM) {rt:Nat}:∀(k N:Nat) (f s:Nat→Nat),N<k→0<rt→Jd P rt k N f s<RM
 | 0,N,f,s,h,_=>by omega
 | k+1,N,f,s,h,hr=>by
  unfold Jd
  by_cases e:N-min rt N=0
  ·rw[if_pos e]; exact hP _ _
  ·rw[if_neg e]; exact YT hP k _ _ _ (by omega) hr
theorem Yl (N:Nat) (f:Nat→Nat):Mw N f<RM:=YT (fun s q=>Ai (xs:=pcX) (wd:=3) (fl:=8) (pt:=57) (f:=s) 64 q) (N+1) N f _ (by omega) (by omega)
end Go.Proofs.YtpjlhhpjpnacmaaGreatDoor.Ex
namespace Go.Proofs.YtpjlhhpjpnacmaaGreatDoor
open Go.Proofs.Tryz
open Go.RowKit
structure LW (w wr:World) (s0 s1 s2 s3 a0 a1 a2 a3 b0 b1 b2 b3:Nat):Prop where
 below:Below w.heap.size w wr
 size:w.heap.size+1+1+1<wr.heap.size
 rowS:Row4 wr w.heap.size s0 s1 s2 s3
 rowA:Row4 wr (w.heap.size+1) a0 a1 a2 a3
 rowB:Row4 wr (w.heap.size+1+1) b0 b1 b2 b3
 rowO:Row4 wr (w.heap.size+1+1+1) 0 0 0 0
theorem PI (w:World) (o1 o2 o3 o4:Obj):Below w.heap.size w ((((w.alloc o1).alloc o2).alloc o3).alloc o4) :=
 (PJ w o1 o2 o3).alloc (by simp; omega) o4
def XV (a0 a1 a2 a3:Nat):Nat→Nat
 | 0=>0
 | 1=>a3
 | 2=>a3*18446744073709551616+a2
 | 3=>(a3*18446744073709551616+a2)*18446744073709551616+a1
 | _=>((a3*18446744073709551616+a2)*18446744073709551616+a1)*18446744073709551616+a0
def EV (a0 a1 a2 a3:Nat):Nat→Nat
 | 0=>a3
 | 1=>a2
 | 2=>a1
 | _=>a0
theorem SZ (a0 a1 a2 a3:Nat) {k:Nat} (h:k<4):XV a0 a1 a2 a3 (k+1)=XV a0 a1 a2 a3 k*18446744073709551616+EV a0 a1 a2 a3 k:=by
 match k,h with
 | 0,_=>simp[XV,EV]
 | 1,_=>rfl
 | 2,_=>rfl
 | 3,_=>rfl
theorem XN {a0 a1 a2 a3:Nat} (h:cF a0 a1 a2 a3) (k:Nat):EV a0 a1 a2 a3 k<18446744073709551616:=by
 obtain⟨h0,h1,h2,h3⟩:=h
 match k with
 | 0=>exact h3
 | 1=>exact h2
 | 2=>exact h1
 | k+3=>exact h0
theorem Bn (n m x b:Nat):((n%b)*m+x)%b=(n*m+x)%b:=by
 rw[Nat.add_mod,Nat.mul_mod,Nat.mod_mod,←Nat.mul_mod,←Nat.add_mod]
def TIn (R b:Nat) (a0 a1 a2 a3 k v:Nat):Prop:=v<b∧v=(R*18446744073709551616^k+XV a0 a1 a2 a3 k)%b
theorem YE {R b k v x:Nat} {a0 a1 a2 a3:Nat} (h:TIn R b a0 a1 a2 a3 k v) (hk:k<4) (hb:0<b) (hx:x=EV a0 a1 a2 a3 k):TIn R b a0 a1 a2 a3 (k+1) ((v*18446744073709551616+x)%b):=by
 refine⟨Nat.mod_lt _ hb,?_⟩;rw[h.2,Bn,SZ _ _ _ _ hk,hx,Nat.pow_succ,Nat.add_mul,Nat.mul_assoc,Nat.add_assoc]
theorem Iq {R b v:Nat} {a0 a1 a2 a3:Nat} (h:TIn R b a0 a1 a2 a3 4 v):v=(R*115792089237316195423570985008687907853269984665640564039457584007913129639936+aC a0 a1 a2 a3)%b:=by
 rw[h.2,show 18446744073709551616^4=115792089237316195423570985008687907853269984665640564039457584007913129639936 by simp,show XV a0 a1 a2 a3 4=aC a0 a1 a2 a3 by show ((a3*18446744073709551616+a2)*18446744073709551616+a1)*18446744073709551616+a0=_; unfold aC; omega]
theorem ZJ {w:World} {g:Nat} {a0 a1 a2 a3:Nat} (rA:Row4 w g a0 a1 a2 a3) (k:Nat) (hk:k<4):∃j x,j+k=3∧x=EV a0 a1 a2 a3 k∧w.cell? ⟨g,j,none⟩=some (.int .u64 (x:Nat)):=by
 match k,hk with
 | 0,_=>exact⟨3,_,rfl,rfl,rA.c3⟩
 | 1,_=>exact⟨2,_,rfl,rfl,rA.c2⟩
 | 2,_=>exact⟨1,_,rfl,rfl,rA.c1⟩
 | 3,_=>exact⟨0,_,rfl,rfl,rA.c0⟩
set_option maxHeartbeats 1000000 in
theorem rM (r0 r1 r2 r3 a0 a1 a2 a3 b0 b1 b2 b3:Nat) (hr:cF r0 r1 r2 r3) (ha:cF a0 a1 a2 a3) (hb:cF b0 b1 b2 b3) (h3:9223372036854775808≤b3) (hlt:aC r0 r1 r2 r3<aC b0 b1 b2 b3) (w:World) :
  Calls prog 148 #[.agg #[.int .u64 r0,.int .u64 r1,.int .u64 r2,.int .u64 r3],.agg #[.int .u64 a0,.int .u64 a1,.int .u64 a2,.int .u64 a3],.agg #[.int .u64 b0,.int .u64 b1,.int .u64 b2,.int .u64 b3]] w (cZ (fun n=>n=(aC r0 r1 r2 r3*115792089237316195423570985008687907853269984665640564039457584007913129639936+aC a0 a1 a2 a3)%aC b0 b1 b2 b3) w):=by
 go_enter func148,ntmps148
 go_wp2_with fail
 go_loopw [8] (fun i wr=>∃k s0 s1 s2 s3:Nat,k≤4∧i=.int .i64 k∧cF s0 s1 s2 s3∧Hid (TIn (aC r0 r1 r2 r3) (aC b0 b1 b2 b3) a0 a1 a2 a3 k (aC s0 s1 s2 s3))∧LW w wr s0 s1 s2 s3 a0 a1 a2 a3 b0 b1 b2 b3) (fun i _=>4-(intOf i).toNat)
 case atStart =>
  refine⟨0,r0,r1,r2,r3,by omega,rfl,hr,Lib.hid ⟨hlt,by show _=(_*18446744073709551616^0+0)%_; rw[Nat.pow_zero,Nat.mul_one,Nat.add_zero,Nat.mod_eq_of_lt hlt]⟩,⟨PI _ _ _ _ _,by simp,?_,?_,?_,?_⟩⟩
  all_goals exact⟨by simp[go_sem],by simp[go_sem],by simp[go_sem],by simp[go_sem],fun k=>by simp[go_sem]⟩
 case round =>
  obtain⟨k,s0,s1,s2,s3,hk,rfl,hs,ti,lw⟩:=hrel;have hsz:=lw.size;obtain⟨x0,x1,x2,x3,xf⟩:=lw.rowS;obtain⟨z0,z1,z2,z3,zf⟩:=lw.rowB
  by_cases hlt':k<4
  ·obtain⟨j,x,hj,hx,cx⟩:=ZJ lw.rowA k hlt';have wj:IntKind.i64.wrap (3-(k:Int))=(j:Int):=by simp[IntKind.wrap,IntKind.bits,IntKind.signed]; omega
   have bj:(j:Int)<4:=by omega
   have bx:x<18446744073709551616:=by rw[hx]; exact XN ha k
   have Hx:=Lib.hid hx;have HL:=Lib.hid lw;clear lw hx hj;go_wp2_with fail;refine wp_region_still_tail 6 (by kernel_rfl) (by kernel_rfl) ?_;simp only[List.take_succ_cons,List.take_zero,List.drop_succ_cons,List.drop_zero];change wpStill _ _ wr.drew _ _ _
   repeat still_step
   refine wpStill_nil ?_;change wpList _ _ _ _ _ wr.drew;go_wp2_with fail;refine (wD s0 s1 s2 s3 x b0 b1 b2 b3 hs bx hb h3 ti.out.1 _).mono ?_
   rintro e w3 ⟨n0,n1,n2,n3,rfl,hn,en,hbl⟩
   have hz3:wr.heap.size≤w3.heap.size:=hbl.size;have S3:=HL.out.rowS.drewN 1 |>.below hbl (show w.heap.size<wr.heap.size by omega)
   have T3:LW w (set4 w3 w.heap.size n0 n1 n2 n3) n0 n1 n2 n3 a0 a1 a2 a3 b0 b1 b2 b3 :=
    ⟨aZ ((HL.out.below.drew).trans (hbl.mono HL.out.below.size)) (Nat.le_refl _) _ _ _ _,by unfold set4; simp only[World.size_setCell]; omega,S3.set4 _ _ _ _,
     (HL.out.rowA.drewN 1 |>.below hbl (show w.heap.size+1<wr.heap.size by omega)).set4_other (by omega) _ _ _ _,
     (HL.out.rowB.drewN 1 |>.below hbl (show w.heap.size+1+1<wr.heap.size by omega)).set4_other (by omega) _ _ _ _,
     (HL.out.rowO.drewN 1 |>.below hbl (show w.heap.size+1+1+1<wr.heap.size by omega)).set4_other (by omega) _ _ _ _⟩
   have HT:=Lib.hid T3;have Hti:=Lib.hid (YE ti.out hlt' (by have:=ti.out.1; omega) Hx.out);rw[←en]at Hti;obtain⟨v0,v1,v2,v3,vf⟩:=S3;clear hbl en T3 ti;go_wp2_with fail
   go_roundw
   case rel=>exact⟨k+1,n0,n1,n2,n3,by omega,by go_num,hn,Hti,HT.out⟩
   case measure=>simp[intOf]; omega
  ·obtain rfl:k=4:=by omega
   have HF:=Lib.hid (Iq ti.out);obtain⟨o0,o1,o2,o3,of⟩:=lw.rowO;have HB:=Lib.hid lw.below;clear ti lw;go_wp2_with fail;refine bodyPost_ret (v:=.agg #[.int .u64 s0,.int .u64 s1,.int .u64 s2,.int .u64 s3]) (by simp[results,results148,go_sem, *]) rfl ?_;exact⟨s0,s1,s2,s3,rfl,hs,HF.out,aZ HB.out (by omega) _ _ _ _⟩
theorem aCT (a0 a1 a2 a3:Nat) (n:Int) (ha:cF a0 a1 a2 a3) (h0:0<n) (hq:n/64=0) (w:World) :
  Calls prog 147 #[.agg #[.int .u64 a0,.int .u64 a1,.int .u64 a2,.int .u64 a3],.int .i64 n] w (cZ (fun v=>v=aC a0 a1 a2 a3*2^n.toNat%115792089237316195423570985008687907853269984665640564039457584007913129639936) w):=by
 obtain⟨p,hr,hp,en⟩:=JJ (by omega) 0 hq (by omega);have b1:n<256:=by omega
 have t0:decide (n≤0)=false:=decide_eq_false (by omega);obtain⟨lo0,hi0,u0,d0,bl0,bh0,e0,g0,m0⟩:=pS (a:=a0) (p:=p) ha.1 hp;obtain⟨lo1,hi1,u1,d1,bl1,bh1,e1,g1,m1⟩:=pS (a:=a1) (p:=p) ha.2.1 hp;obtain⟨lo2,hi2,u2,d2,bl2,bh2,e2,g2,m2⟩:=pS (a:=a2) (p:=p) ha.2.2.1 hp;obtain⟨lo3,hi3,u3,d3,bl3,bh3,e3,g3,m3⟩:=pS (a:=a3) (p:=p) ha.2.2.2 hp;obtain⟨s1,o1,bs1,f1⟩:=AO bl1 bh0 g0 m1;obtain⟨s2,o2,bs2,f2⟩:=AO bl2 bh1 g1 m2;obtain⟨s3,o3,bs3,f3⟩:=AO bl3 bh2 g2 m3;have HF:Hid (aC lo0 s1 s2 s3=aC a0 a1 a2 a3*2^n.toNat%115792089237316195423570985008687907853269984665640564039457584007913129639936):=Lib.hid (by
  have hk:cF lo0 s1 s2 s3:=⟨bl0,bs1,bs2,bs3⟩;rw[en,sD];have:=e0.out;have:=e1.out;have:=e2.out;have:=e3.out;have:=f1.out;have:=f2.out;have:=f3.out;have hv:=bT hk;have hT:aC a0 a1 a2 a3*(18446744073709551616^((0:Int)).toNat*2^p)=aC a0 a1 a2 a3*2^p*1:=by
   rw[show 18446744073709551616^((0:Int)).toNat=1 by simp,Nat.mul_comm 1,Nat.mul_assoc]
  rw[hT];have hD:aC a0 a1 a2 a3*2^p=a0*2^p+18446744073709551616*(a1*2^p)+340282366920938463463374607431768211456*(a2*2^p)+6277101735386680763835789423207666416102355444464034512896*(a3*2^p):=by
   unfold aC; simp only[Nat.add_mul,Nat.mul_assoc]; omega
  rw[hD];unfold aC at hv ⊢;generalize 2^p=T at *;omega)
 clear e0 g0 m0 e1 g1 m1 e2 g2 m2 e3 g3 m3 f1 f2 f3;have HEN:=Lib.hid en;clear en
 go_enter func147,ntmps147
 go_wp2_with fail;refine wp_loop_rounds 5 ?_;rw[rounds_succ];go_wp2_with fail;rw[rounds_succ];go_wp2_with fail
 go_region
 go_wp2_with fail;rw[rounds_succ];go_wp2_with fail
 go_region
 go_wp2_with fail;rw[rounds_succ];go_wp2_with fail
 go_region
 go_wp2_with fail;rw[rounds_succ];go_wp2_with fail;refine bodyPost_ret (v:=.agg #[.int .u64 lo0,.int .u64 s1,.int .u64 s2,.int .u64 s3]) (by simp[results,results147,go_sem]) rfl ?_;refine⟨lo0,s1,s2,s3,rfl,⟨bl0,bs1,bs2,bs3⟩,HF.out,?_⟩
 repeat (first|exact Below.refl _ _|refine Below.drew ?_|refine Below.alloc ?_ (by first|(simp; done)|(simp; omega)) _)
theorem aCS (a0 a1 a2 a3:Nat) (n:Int) (ha:cF a0 a1 a2 a3) (h0:0<n) (hq:n/64=1) (w:World) :
  Calls prog 147 #[.agg #[.int .u64 a0,.int .u64 a1,.int .u64 a2,.int .u64 a3],.int .i64 n] w (cZ (fun v=>v=aC a0 a1 a2 a3*2^n.toNat%115792089237316195423570985008687907853269984665640564039457584007913129639936) w):=by
 obtain⟨p,hr,hp,en⟩:=JJ (by omega) 1 hq (by omega);have b1:n<256:=by omega
 have t0:decide (n≤0)=false:=decide_eq_false (by omega);obtain⟨lo0,hi0,u0,d0,bl0,bh0,e0,g0,m0⟩:=pS (a:=a0) (p:=p) ha.1 hp;obtain⟨lo1,hi1,u1,d1,bl1,bh1,e1,g1,m1⟩:=pS (a:=a1) (p:=p) ha.2.1 hp;obtain⟨lo2,hi2,u2,d2,bl2,bh2,e2,g2,m2⟩:=pS (a:=a2) (p:=p) ha.2.2.1 hp;obtain⟨s1,o1,bs1,f1⟩:=AO bl1 bh0 g0 m1;obtain⟨s2,o2,bs2,f2⟩:=AO bl2 bh1 g1 m2;have HF:Hid (aC 0 lo0 s1 s2=aC a0 a1 a2 a3*2^n.toNat%115792089237316195423570985008687907853269984665640564039457584007913129639936):=Lib.hid (by
  have hk:cF 0 lo0 s1 s2:=⟨(by omega),bl0,bs1,bs2⟩;rw[en,sD];have:=e0.out;have:=e1.out;have:=e2.out;have:=f1.out;have:=f2.out;have hv:=bT hk;have hT:aC a0 a1 a2 a3*(18446744073709551616^((1:Int)).toNat*2^p)=aC a0 a1 a2 a3*2^p*18446744073709551616:=by
   rw[show 18446744073709551616^((1:Int)).toNat=18446744073709551616 by simp,Nat.mul_comm 18446744073709551616,Nat.mul_assoc]
  rw[hT];have hD:aC a0 a1 a2 a3*2^p=a0*2^p+18446744073709551616*(a1*2^p)+340282366920938463463374607431768211456*(a2*2^p)+6277101735386680763835789423207666416102355444464034512896*(a3*2^p):=by
   unfold aC; simp only[Nat.add_mul,Nat.mul_assoc]; omega
  rw[hD];unfold aC at hv ⊢;generalize 2^p=T at *;omega)
 clear e0 g0 m0 e1 g1 m1 e2 g2 m2 f1 f2;have HEN:=Lib.hid en;clear en
 go_enter func147,ntmps147
 go_wp2_with fail;refine wp_loop_rounds 4 ?_;rw[rounds_succ];go_wp2_with fail;rw[rounds_succ];go_wp2_with fail
 go_region
 go_wp2_with fail;rw[rounds_succ];go_wp2_with fail
 go_region
 go_wp2_with fail;rw[rounds_succ];go_wp2_with fail;refine bodyPost_ret (v:=.agg #[.int .u64 0,.int .u64 lo0,.int .u64 s1,.int .u64 s2]) (by simp[results,results147,go_sem]) rfl ?_;refine⟨0,lo0,s1,s2,rfl,⟨(by omega),bl0,bs1,bs2⟩,HF.out,?_⟩
 repeat (first|exact Below.refl _ _|refine Below.drew ?_|refine Below.alloc ?_ (by first|(simp; done)|(simp; omega)) _)
theorem aCR (a0 a1 a2 a3:Nat) (n:Int) (ha:cF a0 a1 a2 a3) (h0:0<n) (hq:n/64=2) (w:World) :
  Calls prog 147 #[.agg #[.int .u64 a0,.int .u64 a1,.int .u64 a2,.int .u64 a3],.int .i64 n] w (cZ (fun v=>v=aC a0 a1 a2 a3*2^n.toNat%115792089237316195423570985008687907853269984665640564039457584007913129639936) w):=by
 obtain⟨p,hr,hp,en⟩:=JJ (by omega) 2 hq (by omega);have b1:n<256:=by omega
 have t0:decide (n≤0)=false:=decide_eq_false (by omega);obtain⟨lo0,hi0,u0,d0,bl0,bh0,e0,g0,m0⟩:=pS (a:=a0) (p:=p) ha.1 hp;obtain⟨lo1,hi1,u1,d1,bl1,bh1,e1,g1,m1⟩:=pS (a:=a1) (p:=p) ha.2.1 hp;obtain⟨s1,o1,bs1,f1⟩:=AO bl1 bh0 g0 m1;have HF:Hid (aC 0 0 lo0 s1=aC a0 a1 a2 a3*2^n.toNat%115792089237316195423570985008687907853269984665640564039457584007913129639936):=Lib.hid (by
  have hk:cF 0 0 lo0 s1:=⟨(by omega),(by omega),bl0,bs1⟩;rw[en,sD];have:=e0.out;have:=e1.out;have:=f1.out;have hv:=bT hk;have hT:aC a0 a1 a2 a3*(18446744073709551616^((2:Int)).toNat*2^p)=aC a0 a1 a2 a3*2^p*340282366920938463463374607431768211456:=by
   rw[show 18446744073709551616^((2:Int)).toNat=340282366920938463463374607431768211456 by simp,Nat.mul_comm 340282366920938463463374607431768211456,Nat.mul_assoc]
  rw[hT];have hD:aC a0 a1 a2 a3*2^p=a0*2^p+18446744073709551616*(a1*2^p)+340282366920938463463374607431768211456*(a2*2^p)+6277101735386680763835789423207666416102355444464034512896*(a3*2^p):=by
   unfold aC; simp only[Nat.add_mul,Nat.mul_assoc]; omega
  rw[hD];unfold aC at hv ⊢;generalize 2^p=T at *;omega)
 clear e0 g0 m0 e1 g1 m1 f1;have HEN:=Lib.hid en;clear en
 go_enter func147,ntmps147
 go_wp2_with fail;refine wp_loop_rounds 3 ?_;rw[rounds_succ];go_wp2_with fail;rw[rounds_succ];go_wp2_with fail
 go_region
 go_wp2_with fail;rw[rounds_succ];go_wp2_with fail;refine bodyPost_ret (v:=.agg #[.int .u64 0,.int .u64 0,.int .u64 lo0,.int .u64 s1]) (by simp[results,results147,go_sem]) rfl ?_;refine⟨0,0,lo0,s1,rfl,⟨(by omega),(by omega),bl0,bs1⟩,HF.out,?_⟩
 repeat (first|exact Below.refl _ _|refine Below.drew ?_|refine Below.alloc ?_ (by first|(simp; done)|(simp; omega)) _)
theorem aCQ (a0 a1 a2 a3:Nat) (n:Int) (ha:cF a0 a1 a2 a3) (h0:0<n) (hq:n/64=3) (w:World) :
  Calls prog 147 #[.agg #[.int .u64 a0,.int .u64 a1,.int .u64 a2,.int .u64 a3],.int .i64 n] w (cZ (fun v=>v=aC a0 a1 a2 a3*2^n.toNat%115792089237316195423570985008687907853269984665640564039457584007913129639936) w):=by
 obtain⟨p,hr,hp,en⟩:=JJ (by omega) 3 hq (by omega);have b1:n<256:=by omega
 have t0:decide (n≤0)=false:=decide_eq_false (by omega);obtain⟨lo0,hi0,u0,d0,bl0,bh0,e0,g0,m0⟩:=pS (a:=a0) (p:=p) ha.1 hp;have HF:Hid (aC 0 0 0 lo0=aC a0 a1 a2 a3*2^n.toNat%115792089237316195423570985008687907853269984665640564039457584007913129639936):=Lib.hid (by
  have hk:cF 0 0 0 lo0:=⟨(by omega),(by omega),(by omega),bl0⟩;rw[en,sD];have:=e0.out;have hv:=bT hk;have hT:aC a0 a1 a2 a3*(18446744073709551616^((3:Int)).toNat*2^p)=aC a0 a1 a2 a3*2^p*6277101735386680763835789423207666416102355444464034512896:=by
   rw[show 18446744073709551616^((3:Int)).toNat=6277101735386680763835789423207666416102355444464034512896 by simp,Nat.mul_comm 6277101735386680763835789423207666416102355444464034512896,Nat.mul_assoc]
  rw[hT];have hD:aC a0 a1 a2 a3*2^p=a0*2^p+18446744073709551616*(a1*2^p)+340282366920938463463374607431768211456*(a2*2^p)+6277101735386680763835789423207666416102355444464034512896*(a3*2^p):=by
   unfold aC; simp only[Nat.add_mul,Nat.mul_assoc]; omega
  rw[hD];unfold aC at hv ⊢;generalize 2^p=T at *;omega)
 clear e0 g0 m0;have HEN:=Lib.hid en;clear en
 go_enter func147,ntmps147
 go_wp2_with fail;refine wp_loop_rounds 2 ?_;rw[rounds_succ];go_wp2_with fail;rw[rounds_succ];go_wp2_with fail;refine bodyPost_ret (v:=.agg #[.int .u64 0,.int .u64 0,.int .u64 0,.int .u64 lo0]) (by simp[results,results147,go_sem]) rfl ?_;refine⟨0,0,0,lo0,rfl,⟨(by omega),(by omega),(by omega),bl0⟩,HF.out,?_⟩
 repeat (first|exact Below.refl _ _|refine Below.drew ?_|refine Below.alloc ?_ (by first|(simp; done)|(simp; omega)) _)
theorem YY (a0 a1 a2 a3:Nat) (n:Int) (ha:cF a0 a1 a2 a3) (h0:n≤0) (w:World) :
  Calls prog 147 #[.agg #[.int .u64 a0,.int .u64 a1,.int .u64 a2,.int .u64 a3],.int .i64 n] w (cZ (fun v=>v=aC a0 a1 a2 a3) w):=by
 have t0:decide (n≤0)=true:=decide_eq_true h0
 go_enter func147,ntmps147
 go_wp2_with fail;refine bodyPost_ret (v:=.agg #[.int .u64 a0,.int .u64 a1,.int .u64 a2,.int .u64 a3]) (by simp[results,results147,go_sem]) rfl ?_;refine⟨a0,a1,a2,a3,rfl,ha,rfl,?_⟩
 repeat (first|exact Below.refl _ _|refine Below.drew ?_|refine Below.alloc ?_ (by first|(simp; done)|(simp; omega)) _)
theorem Jh (a0 a1 a2 a3:Nat) (n:Int) (ha:cF a0 a1 a2 a3) (h0:256≤n) (h1:n≤9223372036854775807) (w:World) :
  Calls prog 147 #[.agg #[.int .u64 a0,.int .u64 a1,.int .u64 a2,.int .u64 a3],.int .i64 n] w (cZ (fun v=>v=0) w):=by
 have t0:decide (n≤0)=false:=decide_eq_false (by omega);obtain⟨q,hq,bq,bq'⟩:∃q:Nat,n/64=(q:Int)∧4≤q∧q≤9223372036854775807:=⟨(n/64).toNat,by omega,by omega,by omega⟩
 have t1:decide ((0:Int)<4-(q:Int))=false:=decide_eq_false (by omega)
 go_enter func147,ntmps147
 go_wp2_with fail;refine wp_loop_rounds 1 ?_;rw[rounds_succ];go_wp2_with fail;refine bodyPost_ret (v:=.agg #[.int .u64 0,.int .u64 0,.int .u64 0,.int .u64 0]) (by simp[results,results147,go_sem]) rfl ?_;refine⟨0,0,0,0,rfl,⟨by omega,by omega,by omega,by omega⟩,rfl,?_⟩
 repeat (first|exact Below.refl _ _|refine Below.drew ?_|refine Below.alloc ?_ (by first|(simp; done)|(simp; omega)) _)
theorem tG (a0 a1 a2 a3:Nat) (n:Int) (ha:cF a0 a1 a2 a3) (h0:0≤n) (h1:n≤9223372036854775807) (w:World) :
  Calls prog 147 #[.agg #[.int .u64 a0,.int .u64 a1,.int .u64 a2,.int .u64 a3],.int .i64 n] w (cZ (fun v=>v=aC a0 a1 a2 a3*2^n.toNat%115792089237316195423570985008687907853269984665640564039457584007913129639936) w):=by
 by_cases hz:n≤0
 ·refine (YY a0 a1 a2 a3 n ha hz w).mono ?_
  rintro e w' ⟨s0,s1,s2,s3,he,hs,hv,hb⟩
  refine⟨s0,s1,s2,s3,he,hs,?_,hb⟩;have:=bT ha;rw[hv,show n.toNat=0 by omega,Nat.pow_zero]; omega
 ·by_cases hf:256≤n
  ·refine (Jh a0 a1 a2 a3 n ha hf h1 w).mono ?_
   rintro e w' ⟨s0,s1,s2,s3,he,hs,hv,hb⟩
   refine⟨s0,s1,s2,s3,he,hs,?_,hb⟩;rw[hv];obtain⟨k,hk⟩:∃k,n.toNat=256+k:=⟨n.toNat-256,by omega⟩
   rw[hk,Nat.pow_add,Nat.mul_left_comm,show (2:Nat)^256=115792089237316195423570985008687907853269984665640564039457584007913129639936 by simp];exact (Nat.mul_mod_right _ _).symm
  ·have hq:n/64=0∨n/64=1∨n/64=2∨n/64=3:=by omega
   rcases hq with h|h|h|h
   ·exact aCT a0 a1 a2 a3 n ha (by omega) h w
   ·exact aCS a0 a1 a2 a3 n ha (by omega) h w
   ·exact aCR a0 a1 a2 a3 n ha (by omega) h w
   ·exact aCQ a0 a1 a2 a3 n ha (by omega) h w
theorem Mi {m L:Nat} (hL:L≤256) (h:LenIs m L) (hm:0<m):0<L∧m*2^(256-L)<115792089237316195423570985008687907853269984665640564039457584007913129639936∧57896044618658097711785492504343953926634992332820282019728792003956564819968≤m*2^(256-L):=by
 have hpos:0<L:=by
  rcases Nat.eq_zero_or_pos L with e|e
  ·subst e; have:=h.1; simp at this; omega
  ·exact e
 have e:2^L*2^(256-L)=115792089237316195423570985008687907853269984665640564039457584007913129639936:=by rw[←Nat.pow_add,show L+(256-L)=256 by omega]
 have e':2^(L-1)*2^(256-L)=57896044618658097711785492504343953926634992332820282019728792003956564819968:=by rw[←Nat.pow_add,show L-1+(256-L)=255 by omega]
 refine⟨hpos,?_,?_⟩
 ·have:=Nat.mul_lt_mul_of_pos_right h.1 (Nat.two_pow_pos (256-L));rw[e]at this; exact this
 ·have:=Nat.mul_le_mul_right (2^(256-L)) (h.2 hpos);rw[e']at this; exact this
theorem If {b0 b1 b2 b3:Nat} (h:cF b0 b1 b2 b3) (hb:57896044618658097711785492504343953926634992332820282019728792003956564819968≤aC b0 b1 b2 b3):9223372036854775808≤b3:=by
 obtain⟨h0,h1,h2,h3⟩:=h;unfold aC at hb; omega
theorem Km {x m L:Nat} (hL:L≤256) (hm:0<m) (hx:x<115792089237316195423570985008687907853269984665640564039457584007913129639936):x/2^L<m*2^(256-L):=by
 have e:2^(256-L)*2^L=115792089237316195423570985008687907853269984665640564039457584007913129639936:=by rw[←Nat.pow_add,show 256-L+L=256 by omega]
 have h1:x/2^L<2^(256-L):=by rw[Nat.div_lt_iff_lt_mul (Nat.two_pow_pos _),e]; exact hx
 have h2:=Nat.mul_le_mul_right (2^(256-L)) (show 1≤m from hm);omega
theorem EW {x L:Nat} (hL:L≤256):x/2^L*115792089237316195423570985008687907853269984665640564039457584007913129639936+x*2^(256-L)%115792089237316195423570985008687907853269984665640564039457584007913129639936=x*2^(256-L):=by
 have e:2^L*2^(256-L)=115792089237316195423570985008687907853269984665640564039457584007913129639936:=by rw[←Nat.pow_add,show L+(256-L)=256 by omega]
 have hd:x*2^(256-L)/115792089237316195423570985008687907853269984665640564039457584007913129639936=x/2^L:=by rw[←e]; exact Nat.mul_div_mul_right _ _ (Nat.two_pow_pos _)
 rw[←hd]; omega
theorem Co {x y L:Nat} (hL:L≤256) (hy:y<115792089237316195423570985008687907853269984665640564039457584007913129639936):(x*2^(256-L)%115792089237316195423570985008687907853269984665640564039457584007913129639936) ||| (y/2^L)=x*2^(256-L)%115792089237316195423570985008687907853269984665640564039457584007913129639936+y/2^L:=by
 have e:2^L*2^(256-L)=115792089237316195423570985008687907853269984665640564039457584007913129639936:=by rw[←Nat.pow_add,show L+(256-L)=256 by omega]
 have hlt:y/2^L<2^(256-L):=by rw[Nat.div_lt_iff_lt_mul (Nat.two_pow_pos _),Nat.mul_comm,e]; exact hy
 have hm:x*2^(256-L)%115792089237316195423570985008687907853269984665640564039457584007913129639936=2^(256-L)*(x%2^L):=by
  rw[←e,Nat.mul_mod_mul_right,Nat.mul_comm]
 rw[hm,←Nat.two_pow_add_eq_or_of_lt hlt]
theorem UD (n m x b:Nat):((n%b)*m+x)%b=(n*m+x)%b:=by
 rw[Nat.add_mod,Nat.mul_mod,Nat.mod_mod,←Nat.mul_mod,←Nat.add_mod]
theorem Ma {h l m L r1 r2:Nat} (hL:L≤256)
  (e1:r1=(h/2^L*115792089237316195423570985008687907853269984665640564039457584007913129639936+(h*2^(256-L)%115792089237316195423570985008687907853269984665640564039457584007913129639936+l/2^L))%(m*2^(256-L)))
  (e2:r2=(r1*115792089237316195423570985008687907853269984665640564039457584007913129639936+l*2^(256-L)%115792089237316195423570985008687907853269984665640564039457584007913129639936)%(m*2^(256-L))):r2/2^(256-L)=(h*115792089237316195423570985008687907853269984665640564039457584007913129639936+l)%m:=by
 have k1:=EW (x:=h) hL;have k2:=EW (x:=l) hL;rw[e1,UD]at e2;have e3:(h/2^L*115792089237316195423570985008687907853269984665640564039457584007913129639936+(h*2^(256-L)%115792089237316195423570985008687907853269984665640564039457584007913129639936+l/2^L))*115792089237316195423570985008687907853269984665640564039457584007913129639936+l*2^(256-L)%115792089237316195423570985008687907853269984665640564039457584007913129639936=(h*115792089237316195423570985008687907853269984665640564039457584007913129639936+l)*2^(256-L):=by
  have:(h*115792089237316195423570985008687907853269984665640564039457584007913129639936+l)*2^(256-L)=h*2^(256-L)*115792089237316195423570985008687907853269984665640564039457584007913129639936+l*2^(256-L):=by rw[Nat.add_mul,Nat.mul_right_comm]
  rw[this];generalize h*2^(256-L)%115792089237316195423570985008687907853269984665640564039457584007913129639936=Q at *;generalize l*2^(256-L)%115792089237316195423570985008687907853269984665640564039457584007913129639936=U at *;rw[←k1,←k2];simp only[Nat.add_mul,Nat.add_assoc]
 rw[e3,Nat.mul_mod_mul_right]at e2;rw[e2,Nat.mul_div_cancel _ (Nat.two_pow_pos _)]
def EM (P:Nat→Nat→Prop) (w:World) (e:Ending) (w':World):Prop :=
 ∃s0 s1 s2 s3 c:Nat,e=.returned (.tuple #[.agg #[.int .u64 s0,.int .u64 s1,.int .u64 s2,.int .u64 s3],.int .i64 c])∧cF s0 s1 s2 s3∧P (aC s0 s1 s2 s3) c∧Below w.heap.size w w'
theorem VG (a0 a1 a2 a3:Nat) (w:World):(Op.equalIn 10000 24 (.agg #[.int .u64 a0,.int .u64 a1,.int .u64 a2,.int .u64 a3]) (.agg #[.int .u64 0,.int .u64 0,.int .u64 0,.int .u64 0])).run prog w=.ok (yU a0 a1 a2 a3 0 0 0 0) w :=
 xW 9998 a0 a1 a2 a3 0 0 0 0 w
theorem Dw (w:World):(Op.equalIn 10000 24 (.agg #[.int .u64 0,.int .u64 0,.int .u64 0,.int .u64 0]) (.agg #[.int .u64 0,.int .u64 0,.int .u64 0,.int .u64 0])).run prog w=.ok true w :=
 xW 9998 0 0 0 0 0 0 0 0 w
structure MR (w wr:World) (g9 g10:Nat) (h0 h1 h2 h3 l0 l1 l2 l3 b0 b1 b2 b3 r0 r1 r2 r3:Nat):Prop where
 below:Below w.heap.size w wr
 lo:w.heap.size+1+1+1<g9
 mid:g9<g10
 size:g10<wr.heap.size
 rowH:Row4 wr w.heap.size h0 h1 h2 h3
 rowL:Row4 wr (w.heap.size+1) l0 l1 l2 l3
 rowB:Row4 wr g9 b0 b1 b2 b3
 rowR:Row4 wr g10 r0 r1 r2 r3
 rowO:Row4 wr (w.heap.size+1+1+1) 0 0 0 0
theorem MR.on {w wr w':World} {g9 g10:Nat} {h0 h1 h2 h3 l0 l1 l2 l3 b0 b1 b2 b3 r0 r1 r2 r3:Nat} (m:MR w wr g9 g10 h0 h1 h2 h3 l0 l1 l2 l3 b0 b1 b2 b3 r0 r1 r2 r3) (hb:Below wr.heap.size wr w'):MR w w' g9 g10 h0 h1 h2 h3 l0 l1 l2 l3 b0 b1 b2 b3 r0 r1 r2 r3 :=
 ⟨m.below.trans (hb.mono m.below.size),m.lo,m.mid,Nat.lt_of_lt_of_le m.size hb.size,m.rowH.below hb (by have:=m.lo; have:=m.mid; have:=m.size; omega),m.rowL.below hb (by have:=m.lo; have:=m.mid; have:=m.size; omega),
  m.rowB.below hb (by have:=m.mid; have:=m.size; omega),m.rowR.below hb m.size,m.rowO.below hb (by have:=m.lo; have:=m.mid; have:=m.size; omega)⟩
theorem MR.drewN {w wr:World} {g9 g10:Nat} {h0 h1 h2 h3 l0 l1 l2 l3 b0 b1 b2 b3 r0 r1 r2 r3:Nat} (m:MR w wr g9 g10 h0 h1 h2 h3 l0 l1 l2 l3 b0 b1 b2 b3 r0 r1 r2 r3) (n:Nat):MR w (wr.drewN n) g9 g10 h0 h1 h2 h3 l0 l1 l2 l3 b0 b1 b2 b3 r0 r1 r2 r3:=m.on (bW _ _ n)
theorem MR.onDrew {w wr w':World} {g9 g10:Nat} {h0 h1 h2 h3 l0 l1 l2 l3 b0 b1 b2 b3 r0 r1 r2 r3:Nat} (m:MR w wr g9 g10 h0 h1 h2 h3 l0 l1 l2 l3 b0 b1 b2 b3 r0 r1 r2 r3) (hb:Below wr.drew.heap.size wr.drew w'):MR w w' g9 g10 h0 h1 h2 h3 l0 l1 l2 l3 b0 b1 b2 b3 r0 r1 r2 r3:=(m.drewN 1).on hb
theorem MR.put {w wr:World} {g9 g10:Nat} {h0 h1 h2 h3 l0 l1 l2 l3 b0 b1 b2 b3 r0 r1 r2 r3:Nat} (m:MR w wr g9 g10 h0 h1 h2 h3 l0 l1 l2 l3 b0 b1 b2 b3 r0 r1 r2 r3) (s0 s1 s2 s3:Nat):MR w (set4 wr g10 s0 s1 s2 s3) g9 g10 h0 h1 h2 h3 l0 l1 l2 l3 b0 b1 b2 b3 s0 s1 s2 s3 :=
 ⟨aZ m.below (by have:=m.lo; have:=m.mid; omega) _ _ _ _,m.lo,m.mid,by unfold set4; simp only[World.size_setCell]; exact m.size,m.rowH.set4_other (by have:=m.lo; have:=m.mid; omega) _ _ _ _,m.rowL.set4_other (by have:=m.lo; have:=m.mid; omega) _ _ _ _,
  m.rowB.set4_other (by have:=m.mid; omega) _ _ _ _,m.rowR.set4 _ _ _ _,m.rowO.set4_other (by have:=m.lo; have:=m.mid; omega) _ _ _ _⟩
theorem Bm (h0 h1 h2 h3 l0 l1 l2 l3:Nat) (w:World) :
  Calls prog 95 #[.agg #[.int .u64 h0,.int .u64 h1,.int .u64 h2,.int .u64 h3],.agg #[.int .u64 l0,.int .u64 l1,.int .u64 l2,.int .u64 l3],.agg #[.int .u64 0,.int .u64 0,.int .u64 0,.int .u64 0]] w (EM (fun v c=>v=0∧c=22) w):=by
 have hE:=fun w=>Dw w
 have hG:=xX
 go_enter func95,ntmps95
 go_wp2_with fail;refine bodyPost_ret (v:=.tuple #[.agg #[.int .u64 0,.int .u64 0,.int .u64 0,.int .u64 0],.int .i64 22]) (by simp[results,results95,go_sem]) rfl ?_;refine⟨0,0,0,0,22,rfl,⟨by omega,by omega,by omega,by omega⟩,⟨rfl,rfl⟩,PI _ _ _ _ _⟩
set_option maxHeartbeats 4000000 in
theorem Bo (h0 h1 h2 h3 l0 l1 l2 l3 m0 m1 m2 m3:Nat) (hh:cF h0 h1 h2 h3) (hl:cF l0 l1 l2 l3) (hm:cF m0 m1 m2 m3) (hpz:0<aC m0 m1 m2 m3) (w:World) :
  Calls prog 95 #[.agg #[.int .u64 h0,.int .u64 h1,.int .u64 h2,.int .u64 h3],.agg #[.int .u64 l0,.int .u64 l1,.int .u64 l2,.int .u64 l3],.agg #[.int .u64 m0,.int .u64 m1,.int .u64 m2,.int .u64 m3]] w (EM (fun v c=>v=(aC h0 h1 h2 h3*115792089237316195423570985008687907853269984665640564039457584007913129639936+aC l0 l1 l2 l3)%aC m0 m1 m2 m3∧c=0) w):=by
 have hE:=fun w=>VG m0 m1 m2 m3 w
 have hG:=xX;have q:yU m0 m1 m2 m3 0 0 0 0=false:=by
  have:=jU hm (show cF 0 0 0 0 from⟨by omega,by omega,by omega,by omega⟩)
  rcases h:yU m0 m1 m2 m3 0 0 0 0 with _|_
  ·rfl
  ·exact absurd (this.1 h) (by unfold aC at hpz ⊢; omega)
 rw[q]at hE;clear q
 go_enter func95,ntmps95
 go_wp2_with fail;refine (tY m0 m1 m2 m3 hm _).mono ?_
 rintro e w1 ⟨L,rfl,bL,lenL,hbl⟩
 obtain⟨hpos,hb1,hb2⟩:=Mi bL lenL hpz;obtain⟨S,eS⟩:∃S,S=256-L:=⟨_,rfl⟩
 have wS:(256:Int)-(L:Int)=(S:Int):=by omega
 have wL:(256:Int)-(S:Int)=(L:Int):=by omega
 have bS:S≤256:=by omega
 have H1:=(((Row4.new w h0 h1 h2 h3 24).alloc (by simp) _).alloc (by simp; omega) _).alloc (by simp; omega) _ |>.below hbl (by simp; omega)
 have L1:=(((Row4.new (w.alloc _) l0 l1 l2 l3 24).alloc (by simp) _).alloc (by simp) _).below hbl (by simp);have M1:=((Row4.new ((w.alloc _).alloc _) m0 m1 m2 m3 24).alloc (by simp) _).below hbl (by simp);have O1:=(Row4.new (((w.alloc _).alloc _).alloc _) 0 0 0 0 24).below hbl (by simp);simp only[World.size_alloc]at L1 M1 O1;have hz1:w.heap.size+1+1+1<w1.heap.size:=by have:=hbl.size; simp at this; omega
 have B1:=(PI w _ _ _ _).trans (hbl.mono (by simp; omega));have HeS:=Lib.hid eS; have Hb1:=Lib.hid hb1; have Hb2:=Lib.hid hb2; have HL:=Lib.hid lenL; have HB1:=Lib.hid B1;have HH1:=Lib.hid H1; have HL1:=Lib.hid L1; have HM1:=Lib.hid M1; have HO1:=Lib.hid O1;have y0:w.heap.size<w1.heap.size:=by omega
 have y1:w.heap.size+1<w1.heap.size:=by omega
 have y2:w.heap.size+1+1<w1.heap.size:=by omega
 obtain⟨m0',m1',m2',m3',mf⟩:=M1;clear hE hG eS hb1 hb2 lenL B1 H1 L1 O1 hbl;go_wp2_with fail;refine (tG m0 m1 m2 m3 S hm (by omega) (by omega) _).mono ?_
 rintro e w2 ⟨b0,b1,b2,b3,rfl,hb,vb,hbl⟩
 rw[Int.toNat_natCast]at vb;have H2:=HH1.out.below hbl y0;have L2:=HL1.out.below hbl y1;have O2:=HO1.out.below hbl hz1;have hz2:w1.heap.size≤w2.heap.size:=hbl.size;have B2:=HB1.out.trans (hbl.mono HB1.out.size);have HH2:=Lib.hid H2; have HL2:=Lib.hid L2; have HO2:=Lib.hid O2; have HB2:=Lib.hid B2; have Hvb:=Lib.hid vb;have z0:w.heap.size<w2.heap.size:=by omega
 have z1:w.heap.size+1<w2.heap.size:=by omega
 have z3:w.heap.size+1+1+1<w2.heap.size:=by omega
 obtain⟨h0',h1',h2',h3',hf⟩:=H2;clear L2 O2 B2 vb hbl m0' m1' m2' m3' mf;go_wp2_with fail;refine (gT h0 h1 h2 h3 L hh (by omega) (by omega) _).mono ?_
 rintro e w3 ⟨r0,r1,r2,r3,rfl,hr,vr,hbl⟩
 rw[Int.toNat_natCast]at vr;clear h0' h1' h2' h3' hf;have MR1:MR w (w3.alloc (.cells #[.int .u64 r0,.int .u64 r1,.int .u64 r2,.int .u64 r3] 24)) w2.heap.size w3.heap.size h0 h1 h2 h3 l0 l1 l2 l3 b0 b1 b2 b3 r0 r1 r2 r3:=by
  have hb':=hbl;have hz3:=hb'.size;rw[World.size_alloc]at hz3;have hall:∀{x:Nat} {c0 c1 c2 c3:Nat},Row4 w2 x c0 c1 c2 c3→x<w2.heap.size→Row4 (w3.alloc (.cells #[.int .u64 r0,.int .u64 r1,.int .u64 r2,.int .u64 r3] 24)) x c0 c1 c2 c3:=fun q hx =>
   ((q.alloc hx _).below hb' (by rw[World.size_alloc]; omega)).alloc (by omega) _
  refine⟨((HB2.out.alloc (by omega) _).trans (hb'.mono (by rw[World.size_alloc]; omega))).alloc (by omega) _,z3,by omega,by simp,hall HH2.out z0,hall HL2.out z1,?_,Row4.new _ _ _ _ _ _,hall HO2.out z3⟩;exact ((Row4.new w2 b0 b1 b2 b3 24).below hb' (by simp)).alloc (by omega) _
 go_wp2_with fail;clear hbl;have Hvr:=Lib.hid vr;clear vr;generalize w3.alloc (.cells #[.int .u64 r0,.int .u64 r1,.int .u64 r2,.int .u64 r3] 24)=W at *;generalize w2.heap.size=g9 at *;generalize w3.heap.size=g10 at *;have M:=MR1;clear MR1;have wLL:IntKind.i64.wrap (L:Int)=(L:Int):=by simp[IntKind.wrap,IntKind.bits,IntKind.signed]; omega
 have HM:=Lib.hid M;have evb:aC b0 b1 b2 b3=aC m0 m1 m2 m3*2^S:=by rw[Hvb.out,HeS.out,Nat.mod_eq_of_lt Hb1.out]
 have hb3:9223372036854775808≤b3:=If hb (by rw[evb,HeS.out]; exact Hb2.out);have hrb:aC r0 r1 r2 r3<aC b0 b1 b2 b3:=by rw[evb,Hvr.out,HeS.out]; exact Km bL hpz (bT hh)
 have Hevb:=Lib.hid evb;clear evb;clear M y0 y1 y2 z0 z1 z3 hz1 hz2 HH1 HL1 HM1 HO1 HB1 HH2 HL2 HO2 HB2;have g0:∀k,W.cell? ⟨w.heap.size,k,none⟩=W.cell? ⟨w.heap.size,k,none⟩:=fun _=>rfl
 clear g0;clear wS wL;have wL':IntKind.i64.wrap (256-(S:Int))=(L:Int):=by have:=HeS.out; simp[IntKind.wrap,IntKind.bits,IntKind.signed]; omega
 go_wp2_with fail;refine cG (fun wx=>MR w wx g9 g10 h0 h1 h2 h3 l0 l1 l2 l3 b0 b1 b2 b3 r0 r1 r2 r3) 11 (by kernel_rfl) ?_;have HS:(fun wx=>MR w wx g9 g10 h0 h1 h2 h3 l0 l1 l2 l3 b0 b1 b2 b3 r0 r1 r2 r3) W.drew:=HM.out.drewN 1;refine aD (i:=0) (v:=.agg #[.int .u64 r0,.int .u64 r1,.int .u64 r2,.int .u64 r3]) rfl (by kernel_rfl) (by kernel_rfl) (by kernel_rfl) (by kernel_rfl) (fun _ _ _ h=>h) HS (Or.inl ⟨by rfl,fun wx hx => ?_⟩) ?_
 ·obtain⟨k0,k1,k2,k3,kf⟩:=MR.rowR hx;clear HS;go_simp
 simp only[Act.put,List.setIfInBounds_toArray,List.set_cons_zero,List.set_cons_succ];refine aD (i:=1) (v:=.agg #[.int .u64 h0,.int .u64 h1,.int .u64 h2,.int .u64 h3]) rfl (by kernel_rfl) (by kernel_rfl) (by kernel_rfl) (by kernel_rfl) (fun _ _ _ h=>h) HS (Or.inl ⟨by rfl,fun wx hx => ?_⟩) ?_
 ·obtain⟨k0,k1,k2,k3,kf⟩:=MR.rowH hx;clear HS;go_simp
 simp only[Act.put,List.setIfInBounds_toArray,List.set_cons_zero,List.set_cons_succ];refine aD (i:=2) (v:=.int .i64 (S:Nat)) rfl (by kernel_rfl) (by kernel_rfl) (by kernel_rfl) (by kernel_rfl) (fun _ _ _ h=>h) HS (Or.inl ⟨by rfl,fun wx hx => ?_⟩) ?_
 ·clear hx HS;go_simp
 simp only[Act.put,List.setIfInBounds_toArray,List.set_cons_zero,List.set_cons_succ];refine aD (i:=4) (v:=.agg #[.int .u64 l0,.int .u64 l1,.int .u64 l2,.int .u64 l3]) rfl (by kernel_rfl) (by kernel_rfl) (by kernel_rfl) (by kernel_rfl) (fun _ _ _ h=>h) HS (Or.inl ⟨by rfl,fun wx hx => ?_⟩) ?_
 ·obtain⟨k0,k1,k2,k3,kf⟩:=MR.rowL hx;clear HS;go_simp
 simp only[Act.put,List.setIfInBounds_toArray,List.set_cons_zero,List.set_cons_succ];refine aD (i:=5) (v:=.int .i64 (S:Nat)) rfl (by kernel_rfl) (by kernel_rfl) (by kernel_rfl) (by kernel_rfl) (fun _ _ _ h=>h) HS (Or.inl ⟨by rfl,fun wx hx => ?_⟩) ?_
 ·clear hx HS;go_simp
 simp only[Act.put,List.setIfInBounds_toArray,List.set_cons_zero,List.set_cons_succ];refine aD (i:=6) (v:=.int .i64 (L:Nat)) rfl (by kernel_rfl) (by kernel_rfl) (by kernel_rfl) (by kernel_rfl) (fun _ _ _ h=>h) HS (Or.inl ⟨by rfl,fun wx hx => ?_⟩) ?_
 ·clear hx HS;go_simp
 simp only[Act.put,List.setIfInBounds_toArray,List.set_cons_zero,List.set_cons_succ];refine aD (i:=9) (v:=.agg #[.int .u64 b0,.int .u64 b1,.int .u64 b2,.int .u64 b3]) rfl (by kernel_rfl) (by kernel_rfl) (by kernel_rfl) (by kernel_rfl) (fun _ _ _ h=>h) HS (Or.inl ⟨by rfl,fun wx hx => ?_⟩) ?_
 ·obtain⟨k0,k1,k2,k3,kf⟩:=MR.rowB hx;clear HS;go_simp
 simp only[Act.put,List.setIfInBounds_toArray,List.set_cons_zero,List.set_cons_succ];clear HS;refine aF (i:=3) (by kernel_rfl) rfl (fun K hK => ?_);go_simp;refine (tG h0 h1 h2 h3 S hh (by omega) (by omega) _).mono ?_
 rintro e w4 ⟨x0,x1,x2,x3,rfl,hx,vx,hbl⟩
 rw[Int.toNat_natCast]at vx;have Hvx:=Lib.hid vx;clear vx;have M4:=HM.out.onDrew hbl;clear hbl;go_wp2_with fail;refine hK.out _ _ (Or.inr M4) (fun hHeld => ?_);clear hK K hHeld
 try simp only[Act.put,List.setIfInBounds_toArray,List.set_cons_zero,List.set_cons_succ]
 refine aF (i:=7) (by kernel_rfl) rfl (fun K hK => ?_);go_simp;refine (gT l0 l1 l2 l3 L hl (by omega) (by omega) _).mono ?_
 rintro e w5 ⟨y0,y1,y2,y3,rfl,hy,vy,hbl⟩
 rw[Int.toNat_natCast]at vy;have Hvy:=Lib.hid vy;clear vy;have M5:=M4.on hbl;clear hbl;go_wp2_with fail;refine hK.out _ _ (Or.inr M5) (fun hHeld => ?_);clear hK K hHeld
 try simp only[Act.put,List.setIfInBounds_toArray,List.set_cons_zero,List.set_cons_succ]
 refine aF (i:=8) (by kernel_rfl) rfl (fun K hK => ?_);go_simp;refine (DE x0 x1 x2 x3 y0 y1 y2 y3 hx hy _).mono ?_
 rintro e w6 ⟨z0,z1,z2,z3,rfl,hz,vz,hbl⟩
 have Hvz:=Lib.hid vz;clear vz;have M6:=M5.on hbl;clear hbl;go_wp2_with fail;refine hK.out _ _ (Or.inr M6) (fun hHeld => ?_);clear hK K hHeld
 try simp only[Act.put,List.setIfInBounds_toArray,List.set_cons_zero,List.set_cons_succ]
 refine aF (i:=10) (by kernel_rfl) rfl (fun K hK => ?_);go_simp;refine (rM r0 r1 r2 r3 z0 z1 z2 z3 b0 b1 b2 b3 hr hz hb hb3 hrb _).mono ?_
 rintro e w7 ⟨n0,n1,n2,n3,rfl,hn,vn,hbl⟩
 have Hvn:=Lib.hid vn;clear vn;have M7:=M6.on hbl;clear hbl;go_wp2_with fail;refine hK.out _ _ (Or.inr M7) (fun hHeld => ?_);clear hK K hHeld
 try simp only[Act.put,List.setIfInBounds_toArray,List.set_cons_zero,List.set_cons_succ]
 obtain⟨q0,q1,q2,q3,qf⟩:=M7.rowR;have M8:=M7.put n0 n1 n2 n3;refine aF (i:=11) (by kernel_rfl) rfl (fun K hK => ?_);have hsz:=M7.size;clear M4 M5 M6 M7;have HM8:=Lib.hid M8;clear M8;go_simp;refine hK.out _ _ (Or.inl rfl) (fun hHeld => ?_);clear hK K hHeld q0 q1 q2 q3 qf;refine bR (by kernel_rfl) ?_;have hnb:aC n0 n1 n2 n3<aC b0 b1 b2 b3:=by rw[Hvn.out]; exact Nat.mod_lt _ (by omega)
 have HG:=HM8.out;unfold set4 at HG;generalize (((w7.setCell ⟨g10,0,none⟩ (.int .u64 (n0:Nat))).setCell ⟨g10,1,none⟩ (.int .u64 (n1:Nat))).setCell ⟨g10,2,none⟩ (.int .u64 (n2:Nat))).setCell ⟨g10,3,none⟩ (.int .u64 (n3:Nat))=W2 at HG ⊢;have HM9:=Lib.hid HG;clear HG HM8 hrb;go_wp2_with fail;refine cG (fun wx=>MR w wx g9 g10 h0 h1 h2 h3 l0 l1 l2 l3 b0 b1 b2 b3 n0 n1 n2 n3) 6 (by kernel_rfl) ?_;have HS:(fun wx=>MR w wx g9 g10 h0 h1 h2 h3 l0 l1 l2 l3 b0 b1 b2 b3 n0 n1 n2 n3) W2.drew:=HM9.out.drewN 1;refine aD (i:=0) (v:=.agg #[.int .u64 n0,.int .u64 n1,.int .u64 n2,.int .u64 n3]) rfl (by kernel_rfl) (by kernel_rfl) (by kernel_rfl) (by kernel_rfl) (fun _ _ _ h=>h) HS (Or.inl ⟨by rfl,fun wx hx => ?_⟩) ?_
 ·obtain⟨k0,k1,k2,k3,kf⟩:=MR.rowR hx;clear HS;go_simp
 simp only[Act.put,List.setIfInBounds_toArray,List.set_cons_zero,List.set_cons_succ];refine aD (i:=1) (v:=.agg #[.int .u64 l0,.int .u64 l1,.int .u64 l2,.int .u64 l3]) rfl (by kernel_rfl) (by kernel_rfl) (by kernel_rfl) (by kernel_rfl) (fun _ _ _ h=>h) HS (Or.inl ⟨by rfl,fun wx hx => ?_⟩) ?_
 ·obtain⟨k0,k1,k2,k3,kf⟩:=MR.rowL hx;clear HS;go_simp
 simp only[Act.put,List.setIfInBounds_toArray,List.set_cons_zero,List.set_cons_succ];refine aD (i:=2) (v:=.int .i64 (S:Nat)) rfl (by kernel_rfl) (by kernel_rfl) (by kernel_rfl) (by kernel_rfl) (fun _ _ _ h=>h) HS (Or.inl ⟨by rfl,fun wx hx => ?_⟩) ?_
 ·clear hx HS;go_simp
 simp only[Act.put,List.setIfInBounds_toArray,List.set_cons_zero,List.set_cons_succ];refine aD (i:=4) (v:=.agg #[.int .u64 b0,.int .u64 b1,.int .u64 b2,.int .u64 b3]) rfl (by kernel_rfl) (by kernel_rfl) (by kernel_rfl) (by kernel_rfl) (fun _ _ _ h=>h) HS (Or.inl ⟨by rfl,fun wx hx => ?_⟩) ?_
 ·obtain⟨k0,k1,k2,k3,kf⟩:=MR.rowB hx;clear HS;go_simp
 simp only[Act.put,List.setIfInBounds_toArray,List.set_cons_zero,List.set_cons_succ];clear HS;refine aF (i:=3) (by kernel_rfl) rfl (fun K hK => ?_);go_simp;refine (tG l0 l1 l2 l3 S hl (by omega) (by omega) _).mono ?_
 rintro e w8 ⟨u0,u1,u2,u3,rfl,hu,vu,hbl⟩
 rw[Int.toNat_natCast]at vu;have Hvu:=Lib.hid vu;clear vu;have M4:=HM9.out.onDrew hbl;clear hbl;go_wp2_with fail;refine hK.out _ _ (Or.inr M4) (fun hHeld => ?_);clear hK K hHeld
 try simp only[Act.put,List.setIfInBounds_toArray,List.set_cons_zero,List.set_cons_succ]
 refine aF (i:=5) (by kernel_rfl) rfl (fun K hK => ?_);go_simp;refine (rM n0 n1 n2 n3 u0 u1 u2 u3 b0 b1 b2 b3 hn hu hb hb3 hnb _).mono ?_
 rintro e w9 ⟨p0,p1,p2,p3,rfl,hp,vp,hbl⟩
 have Hvp:=Lib.hid vp;clear vp;have M7:=M4.on hbl;clear hbl;go_wp2_with fail;refine hK.out _ _ (Or.inr M7) (fun hHeld => ?_);clear hK K hHeld
 try simp only[Act.put,List.setIfInBounds_toArray,List.set_cons_zero,List.set_cons_succ]
 obtain⟨q0,q1,q2,q3,qf⟩:=M7.rowR;have M8:=M7.put p0 p1 p2 p3;refine aF (i:=6) (by kernel_rfl) rfl (fun K hK => ?_);have hsz:=M7.size;clear M4 M7;have HM8:=Lib.hid M8;clear M8;go_simp;refine hK.out _ _ (Or.inl rfl) (fun hHeld => ?_);clear hK K hHeld q0 q1 q2 q3 qf;refine bR (by kernel_rfl) ?_;have HG:=HM8.out;unfold set4 at HG;generalize (((w9.setCell ⟨g10,0,none⟩ (.int .u64 (p0:Nat))).setCell ⟨g10,1,none⟩ (.int .u64 (p1:Nat))).setCell ⟨g10,2,none⟩ (.int .u64 (p2:Nat))).setCell ⟨g10,3,none⟩ (.int .u64 (p3:Nat))=W3 at HG ⊢;have HM10:=Lib.hid HG;obtain⟨q0,q1,q2,q3,qf⟩:=HG.rowR;clear HG HM8;go_wp2_with fail;refine (gT p0 p1 p2 p3 S hp (by omega) (by omega) _).mono ?_
 rintro e wz ⟨s0,s1,s2,s3,rfl,hs,vs,hbl⟩
 rw[Int.toNat_natCast]at vs;have HF:Hid (aC s0 s1 s2 s3=(aC h0 h1 h2 h3*115792089237316195423570985008687907853269984665640564039457584007913129639936+aC l0 l1 l2 l3)%aC m0 m1 m2 m3):=Lib.hid (by
  rw[vs,HeS.out];refine Ma (L:=L) (r1:=aC n0 n1 n2 n3) bL ?_ ?_
  ·rw[Hvn.out,Hvz.out,Hvx.out,Hvy.out,Hevb.out,Hvr.out,HeS.out,Co bL (bT hl)]
  ·rw[Hvp.out,Hvu.out,Hevb.out,HeS.out])
 have M11:=HM10.out.on hbl;obtain⟨o0,o1,o2,o3,of⟩:=M11.rowO;have HB:=Lib.hid M11.below;clear vs hbl M11 q0 q1 q2 q3 qf;go_wp2_with fail;refine bodyPost_ret (v:=.tuple #[.agg #[.int .u64 s0,.int .u64 s1,.int .u64 s2,.int .u64 s3],.int .i64 0]) (by simp[results,results95,go_sem, *]) rfl ?_;exact⟨s0,s1,s2,s3,0,rfl,hs,⟨HF.out,rfl⟩,aZ HB.out (by omega) _ _ _ _⟩
theorem UE (h0 h1 h2 h3 l0 l1 l2 l3 m0 m1 m2 m3:Nat) (hh:cF h0 h1 h2 h3) (hl:cF l0 l1 l2 l3) (hm:cF m0 m1 m2 m3) (w:World) :
  Calls prog 95 #[.agg #[.int .u64 h0,.int .u64 h1,.int .u64 h2,.int .u64 h3],.agg #[.int .u64 l0,.int .u64 l1,.int .u64 l2,.int .u64 l3],.agg #[.int .u64 m0,.int .u64 m1,.int .u64 m2,.int .u64 m3]] w (EM (fun v c=>aC m0 m1 m2 m3=0∧v=0∧c=22∨0<aC m0 m1 m2 m3∧v=(aC h0 h1 h2 h3*115792089237316195423570985008687907853269984665640564039457584007913129639936+aC l0 l1 l2 l3)%aC m0 m1 m2 m3∧c=0) w):=by
 rcases Nat.eq_zero_or_pos (aC m0 m1 m2 m3)with hz|hz
 ·obtain⟨e0,e1,e2,e3⟩:=vY hm (show cF 0 0 0 0 from⟨by omega,by omega,by omega,by omega⟩) (hz.trans (show 0=aC 0 0 0 0 from rfl));subst e0; subst e1; subst e2; subst e3;exact (Bm h0 h1 h2 h3 l0 l1 l2 l3 w).mono fun e w' ⟨s0,s1,s2,s3,c,he,hs,hv,hb⟩=>⟨s0,s1,s2,s3,c,he,hs,Or.inl ⟨hz,hv⟩,hb⟩
 ·exact (Bo h0 h1 h2 h3 l0 l1 l2 l3 m0 m1 m2 m3 hh hl hm hz w).mono fun e w' ⟨s0,s1,s2,s3,c,he,hs,hv,hb⟩=>⟨s0,s1,s2,s3,c,he,hs,Or.inr ⟨hz,hv⟩,hb⟩
def PU (W:World) (v:Value) (n c:Nat):Prop:=∀w,Below W.heap.size W w→Calls prog 39 #[v] w (kK (fun m d=>m=n∧d=c) w)
theorem zS (W:World) (g off cap:Nat) (B:Nat→Nat) (hB:∀k,B k<256) (hg:g<W.heap.size) (hc:∀k,k<32→W.cell? ⟨g,off+k,none⟩=some (.int .u8 (B k:Nat))):PU W (.slice (some ⟨g,off,none⟩) 32 cap) (jD B 0 32) 0:=fun w hb =>
 CK g off cap B hB w (Nat.lt_of_lt_of_le hg hb.size) fun k hk=>(hb.cell (p:=⟨g,off+k,none⟩) hg).trans (hc k hk)
set_option maxHeartbeats 2000000 in
theorem Dn (f:Int) (F:FC) (hf:FieldIs f F) (v:Value) (n:Nat) (hlt:n<F.M) (w:World) (hR:PU w v n 0) :
  Calls prog 101 #[.int .i64 f,v] w (He 0 n w):=by
 have HR:=Lib.hid hR;clear hR
 go_enter func101,ntmps101
 go_wp2_with fail;refine (dL f F hf _).mono ?_
 rintro e w1 ⟨rfl,hbl⟩
 have M1:=((Mem.nil w).new (w.heap.size) 0 0 0 0 27 (by simp)).on hbl;clear hbl;have z0:w.heap.size<w1.heap.size:=M1.lt (c0:=0) (c1:=0) (c2:=0) (c3:=0) (by simp);have HM:=Lib.hid (M1.on ((Below.refl _ _).alloc (Nat.le_refl _) (.cells #[.int .u64 F.m0,.int .u64 F.m1,.int .u64 F.m2,.int .u64 F.m3,.int .u64 F.inv,.int .u64 F.s0,.int .u64 F.s1,.int .u64 F.s2,.int .u64 F.s3] 157)));have KK:=Lib.hid (KIs.new w1 F 157);go_wp2_with fail;refine (HR.out _ HM.out.1).mono ?_
 rintro e w2 ⟨s0,s1,s2,s3,er,rfl,hs,⟨hv,rfl⟩,hbl⟩
 have HV:=Lib.hid hv;clear hv;have HM':=Lib.hid (HM.out.on hbl);have KK':=Lib.hid (KK.out.same hbl);have zk:=KK'.out.lt;clear HM KK hbl M1;have HM:=HM';have KK:=KK';clear HM' KK';clear zk;have wz:w.heap.size<w2.heap.size:=HM.out.lt (b:=w.heap.size) (c0:=0) (c1:=0) (c2:=0) (c3:=0) (by simp);have HM':=Lib.hid (HM.out.new w2.heap.size s0 s1 s2 s3 24 rfl);have KK':=Lib.hid (KK.out.same ((Below.refl _ _).alloc (Nat.le_refl _) (.cells #[.int .u64 s0,.int .u64 s1,.int .u64 s2,.int .u64 s3] 24)));clear HM KK;have HM:=HM';have KK:=KK';clear HM' KK';go_wp2_with fail;refine (cW F hf.ok w1.heap.size s0 s1 s2 s3 hs _ KK.out).mono ?_
 rintro e w3 ⟨he,hbl⟩
 rw[show yT (aC s0 s1 s2 s3) F.M=true from by rw[HV.out]; exact decide_eq_true hlt]at he;subst he;have HM':=Lib.hid (HM.out.on hbl);have KK':=Lib.hid (KK.out.same hbl);have zk:=KK'.out.lt;clear HM KK hbl;have HM:=HM';have KK:=KK';clear HM' KK';clear zk;have kr:=HM.out.row (b:=w2.heap.size) (c0:=s0) (c1:=s1) (c2:=s2) (c3:=s3) (by simp);have x0:=kr.c0; have x1:=kr.c1; have x2:=kr.c2; have x3:=kr.c3;clear kr;have xl:=HM.out.lt (b:=w2.heap.size) (c0:=s0) (c1:=s1) (c2:=s2) (c3:=s3) (by simp);have kr:=HM.out.row (b:=w.heap.size) (c0:=0) (c1:=0) (c2:=0) (c3:=0) (by simp);have y0:=kr.c0; have y1:=kr.c1; have y2:=kr.c2; have y3:=kr.c3; have yf:=kr.fr;clear kr;have yl:=HM.out.lt (b:=w.heap.size) (c0:=0) (c1:=0) (c2:=0) (c3:=0) (by simp);go_wp2_with fail;refine bodyPost_ret (v:=.tuple #[.agg #[.int .u64 s0,.int .u64 s1,.int .u64 s2,.int .u64 s3],.int .i64 0]) (by simp[results,results101,go_sem, *]) rfl ?_;refine⟨_,_,_,_,rfl,hs,HV.out,?_⟩;exact aZ HM.out.1 (by omega) _ _ _ _
set_option maxHeartbeats 2000000 in
theorem UW (f:Int) (F:FC) (hf:FieldIs f F) (v:Value) (n:Nat) (hlt:¬n<F.M) (w:World) (hR:PU w v n 0) :
  Calls prog 101 #[.int .i64 f,v] w (He 21 0 w):=by
 have HR:=Lib.hid hR;clear hR
 go_enter func101,ntmps101
 go_wp2_with fail;refine (dL f F hf _).mono ?_
 rintro e w1 ⟨rfl,hbl⟩
 have M1:=((Mem.nil w).new (w.heap.size) 0 0 0 0 27 (by simp)).on hbl;clear hbl;have z0:w.heap.size<w1.heap.size:=M1.lt (c0:=0) (c1:=0) (c2:=0) (c3:=0) (by simp);have HM:=Lib.hid (M1.on ((Below.refl _ _).alloc (Nat.le_refl _) (.cells #[.int .u64 F.m0,.int .u64 F.m1,.int .u64 F.m2,.int .u64 F.m3,.int .u64 F.inv,.int .u64 F.s0,.int .u64 F.s1,.int .u64 F.s2,.int .u64 F.s3] 157)));have KK:=Lib.hid (KIs.new w1 F 157);go_wp2_with fail;refine (HR.out _ HM.out.1).mono ?_
 rintro e w2 ⟨s0,s1,s2,s3,er,rfl,hs,⟨hv,rfl⟩,hbl⟩
 have HV:=Lib.hid hv;clear hv;have HM':=Lib.hid (HM.out.on hbl);have KK':=Lib.hid (KK.out.same hbl);have zk:=KK'.out.lt;clear HM KK hbl M1;have HM:=HM';have KK:=KK';clear HM' KK';clear zk;have wz:w.heap.size<w2.heap.size:=HM.out.lt (b:=w.heap.size) (c0:=0) (c1:=0) (c2:=0) (c3:=0) (by simp);have HM':=Lib.hid (HM.out.new w2.heap.size s0 s1 s2 s3 24 rfl);have KK':=Lib.hid (KK.out.same ((Below.refl _ _).alloc (Nat.le_refl _) (.cells #[.int .u64 s0,.int .u64 s1,.int .u64 s2,.int .u64 s3] 24)));clear HM KK;have HM:=HM';have KK:=KK';clear HM' KK';go_wp2_with fail;refine (cW F hf.ok w1.heap.size s0 s1 s2 s3 hs _ KK.out).mono ?_
 rintro e w3 ⟨he,hbl⟩
 rw[show yT (aC s0 s1 s2 s3) F.M=false from by rw[HV.out]; exact decide_eq_false hlt]at he;subst he;have HM':=Lib.hid (HM.out.on hbl);have KK':=Lib.hid (KK.out.same hbl);have zk:=KK'.out.lt;clear HM KK hbl;have HM:=HM';have KK:=KK';clear HM' KK';clear zk;have kr:=HM.out.row (b:=w.heap.size) (c0:=0) (c1:=0) (c2:=0) (c3:=0) (by simp);have y0:=kr.c0; have y1:=kr.c1; have y2:=kr.c2; have y3:=kr.c3; have yf:=kr.fr;clear kr;have yl:=HM.out.lt (b:=w.heap.size) (c0:=0) (c1:=0) (c2:=0) (c3:=0) (by simp);go_wp2_with fail;refine (uN _).mono ?_
 rintro e w4 ⟨rfl,rfl⟩
 go_wp2_with fail;refine bodyPost_ret (v:=.tuple #[.agg #[.int .u64 0,.int .u64 0,.int .u64 0,.int .u64 0],.int .i64 21]) (by simp[results,results101,go_sem, *]) rfl ?_;refine⟨_,_,_,_,rfl,KQ,rfl,?_⟩;exact aZ HM.out.1 (by omega) 0 0 0 0
theorem Mf:∃o:Obj,(∀w,(Instr.makeSlice 25 (.int .i64 32) (.int .i64 32)).run prog w=.ok (.slice (some ⟨w.heap.size,0,none⟩) 32 32) (w.alloc o))∧(∀(w:World) (b:Nat),b=w.heap.size→RowB (w.alloc o) b 32 (fun _=>0))∧(∀(w:World) (b:Nat),b=w.heap.size→∀j,(w.alloc o).frozen? ⟨b,j,none⟩=false):=by
 refine⟨.cells (Array.replicate 32 (.int .u8 0)) 5,fun _=>by kernel_rfl,fun w b hb k hk => ?_,fun w b hb j => ?_⟩
 ·subst hb;refine⟨?_,World.frozen?_alloc_new _ _ _ _⟩;rw[World.cell?_alloc_new];simp[hk]
 ·subst hb;exact World.frozen?_alloc_new _ _ _ _
set_option maxHeartbeats 1000000 in
theorem sZ (a0 a1 a2 a3:Nat) (ha:cF a0 a1 a2 a3) (w:World) :
  Calls prog 37 #[.agg #[.int .u64 a0,.int .u64 a1,.int .u64 a2,.int .u64 a3]] w (fun e w'=>∃b:Nat,e=.returned (.slice (some ⟨b,0,none⟩) 32 32)∧w.heap.size≤b∧b<w'.heap.size∧RowB w' b 32 (bF (aC a0 a1 a2 a3))∧Below w.heap.size w w'∧∀j,w'.frozen? ⟨b,j,none⟩=false):=by
 obtain⟨o,hmk,ho,hof⟩:=Mf;have Hof:=Lib.hid hof;have hix:∀W,Row4 W w.heap.size a0 a1 a2 a3→RowIs W w.heap.size 4 (fH [a0,a1,a2,a3]):=fun W h=>h.rows
 have hP:=DO ha;have HA:=Lib.hid (QB a0 a1 a2 a3);have Ho:=Lib.hid ho;have R0:=Lib.hid ((RowIs.mk w 24 [a0,a1,a2,a3] w.heap.size rfl).alloc (by simp) o);have HP:=Lib.hid hP;clear ho hix hP hof;generalize fH [a0,a1,a2,a3]=P at *;rw[HA.out];clear HA;generalize hv:fE 18446744073709551616 P 4=A;have Hv:=Lib.hid hv;clear hv
 go_enter func37,ntmps37
 go_wp2_with fail
 go_loopw [6] (fun x wr=>∃i:Nat,i≤32∧x=.int .i64 i∧RowIs wr w.heap.size 4 P∧RowB wr (w.heap.size+1) 32 (fun p=>if 32≤p+i then bF A p else 0)∧Below w.heap.size w wr∧w.heap.size+1<wr.heap.size∧Hid (∀j,wr.frozen? ⟨w.heap.size+1,j,none⟩=false)) (fun x _=>32-(intOf x).toNat)
 case atStart =>
  refine⟨0,by omega,rfl,R0.out,(Ho.out _ _ (by simp)).ext (fun k hk=>by rw[if_neg (by omega)]),?_,by simp,Lib.hid (fun j=>Hof.out _ _ (by simp) j)⟩;exact ((Below.refl _ _).alloc (Nat.le_refl _) _).alloc (by simp) _
 case round =>
  obtain⟨i,hi,rfl,rP,rB,hb,hz,HF⟩:=hrel;have HB:=Lib.hid hb
  by_cases hlt:i<32
  ·obtain⟨j,m,s,p,q1,q2,q3,q4,hj,hm,hs,hp,e⟩:=Te hlt;have cx:=rP.cell hj;have cb:=(rB p hp).1;have fb:=(rB p hp).2;have lx:=HP.out j;obtain⟨t,e1,e2,lt⟩:=Ou (b:=bF A p) (s:=s) lx (by
    obtain⟨k1,k2,k3⟩:=e.out;rw[k2,SV P HP.out 4 j m hj hm,Hv.out,←k1];unfold bF;rw[k3,show 31-(31-i)=i by omega])
   have HrP:=Lib.hid rP;have HrB:=Lib.hid ((rB.set (v:=bF A p) hp).ext (R:=fun k=>if 32≤k+(i+1)then bF A k else 0) (fun k hk=>by
    obtain⟨k1,k2,k3⟩:=e.out;unfold jW
    by_cases h:k=p
    ·rw[if_pos h,if_pos (by omega),h]
    ·rw[if_neg h];show (if 32≤k+i then bF A k else 0)=_
     by_cases h':32≤k+i
     ·rw[if_pos h',if_pos (by omega)]
     ·rw[if_neg h',if_neg (by omega)]))
   have lb:=jZ A p;generalize P j=x at *;generalize bF A p=b at *;clear rP rB hb e;go_wp2_with fail
   go_roundw
   case rel=>exact⟨i+1,by omega,by go_num,HrP.out.other (by omega) _,HrB.out,HB.out.setCell (p:=⟨w.heap.size+1,p,none⟩) (by simp) _,by rw[World.size_setCell]; exact hz,Lib.hid (fun j=>by rw[World.frozen?_setCell]; exact HF.out j)⟩
   case measure=>first|(simp[intOf]; done)|(simp[intOf]; omega)
  ·obtain rfl:i=32:=by omega
   have HrB:=Lib.hid (rB.ext (R:=bF A) (fun k hk=>by rw[if_pos (by omega)]));clear rB rP hb;go_wp2_with fail;go_ret;exact⟨w.heap.size+1,rfl,by omega,hz,HrB.out,HB.out,HF.out⟩
end Go.Proofs.YtpjlhhpjpnacmaaGreatDoor
namespace Go.Proofs.YtpjlhhpjpnacmaaGreatDoor.Ex
open Go.Proofs.Tryz
inductive RE|v (i:Nat)|add (a b:RE)|mul (a b:RE)|neg (a:RE)|zero|one
instance:Add RE:=⟨.add⟩
instance:Mul RE:=⟨.mul⟩
instance:Neg RE:=⟨.neg⟩
instance:Sub RE:=⟨fun a b=>.add a (.neg b)⟩
abbrev Z0:RE:=.v 0
abbrev Z1:RE:=.v 1
abbrev Z2:RE:=.v 2
abbrev Z3:RE:=.v 3
abbrev Z4:RE:=.v 4
abbrev Z5:RE:=.v 5
abbrev Z6:RE:=.v 6
abbrev Z7:RE:=.v 7
abbrev Z8:RE:=.v 8
abbrev Z9:RE:=.v 9
abbrev Z10:RE:=.v 10
abbrev Z11:RE:=.v 11
section
variable {R:Type} (K:CR R) (env:Nat→R)
def RE.den:RE→R
 | .v i=>env i
 | .add a b=>K.add (a.den) (b.den)
 | .mul a b=>K.mul (a.den) (b.den)
 | .neg a=>K.neg a.den
 | .zero=>K.zero
 | .one=>K.one
def nt (x:R):Nat→R
 | 0=>K.zero
 | n+1=>K.add (nt x n) x
def zt (x:R):Int→R
 | .ofNat n=>nt K x n
 | .negSucc n=>K.neg (nt K x (n+1))
def mono:List Nat→R
 | []=>K.one
 | i::r=>K.mul (env i) (mono r)
def jK:List (Int×List Nat)→R
 | []=>K.zero
 | (c,m)::r=>K.add (zt K (mono K env m) c) (jK r)
end
def ltL:List Nat→List Nat→Bool
 | [],[]=>false
 | [],_::_=>true
 | _::_,[]=>false
 | a::r,b::s=>bif Nat.blt a b then true else bif Nat.blt b a then false else ltL r s
def eqL:List Nat→List Nat→Bool
 | [],[]=>true
 | a::r,b::s=>bif Nat.beq a b then eqL r s else false
 | _,_=>false
theorem Dy:∀{a b:List Nat},eqL a b=true→a=b
 | [],[],_=>rfl
 | a::r,b::s,h=>by
  unfold eqL at h;cases hb:Nat.beq a b<;>rw[hb]at h
  ·cases h
  ·rw[Nat.eq_of_beq_eq_true hb,Dy h]
 | [],_::_,h=>by cases h
 | _::_,[],h=>by cases h
def Sw (c:Int) (m:List Nat):List (Int×List Nat)→List (Int×List Nat)
 | []=>[(c,m)]
 | (d,k)::r=>bif eqL m k then (c+d,k)::r else bif ltL m k then (c,m)::(d,k)::r else (d,k)::Sw c m r
def MT:List (Int×List Nat)→List (Int×List Nat)→List (Int×List Nat)
 | [],q=>q
 | (c,m)::r,q=>Sw c m (MT r q)
def UN (i:Nat):List Nat→List Nat
 | []=>[i]
 | j::r=>bif Nat.ble i j then i::j::r else j::UN i r
def Bh:List Nat→List Nat→List Nat
 | [],m=>m
 | i::r,m=>UN i (Bh r m)
def GV (c:Int) (m:List Nat):List (Int×List Nat)→List (Int×List Nat)
 | []=>[]
 | (d,k)::r=>Sw (c*d) (Bh m k) (GV c m r)
def Ag:List (Int×List Nat)→List (Int×List Nat)→List (Int×List Nat)
 | [],_=>[]
 | (c,m)::r,q=>MT (GV c m q) (Ag r q)
def Af:List (Int×List Nat)→List (Int×List Nat)
 | []=>[]
 | (c,m)::r=>(-c,m)::Af r
def RE.norm:RE→List (Int×List Nat)
 | .v i=>[(1,[i])]
 | .add a b=>MT a.norm b.norm
 | .mul a b=>Ag a.norm b.norm
 | .neg a=>Af a.norm
 | .zero=>[]
 | .one=>[(1,[])]
def isZ:List (Int×List Nat)→Bool
 | []=>true
 | (.ofNat 0,_)::r=>isZ r
 | _=>false
section
variable {R:Type} (K:CR R) (env:Nat→R)
theorem tW (x:R) (n:Nat):∀m,nt K x (n+m)=K.add (nt K x n) (nt K x m)
 | 0=>(K.add_zero _).symm
 | m+1=>by show K.add (nt K x (n+m)) x=_; rw[tW x n m,K.add_assoc]; rfl
theorem IL:K.neg K.zero=K.zero:=by
 apply K.add_cancel (a:=K.zero);rw[K.add_neg,K.add_zero]
theorem XE (x:R) (n m:Nat):zt K x (Int.subNatNat n m)=K.add (nt K x n) (K.neg (nt K x m)):=by
 unfold Int.subNatNat;split
 ·rename_i h;have:n=m+(n-m):=by omega
  show nt K x (n-m)=_
  conv=>rhs; rw[this,tW]
  rw[K.add_comm (nt K x m),K.add_assoc,K.add_neg,K.add_zero]
 ·rename_i k h;have:m=n+(k+1):=by omega
  show K.neg (nt K x (k+1))=K.add (nt K x n) (K.neg (nt K x m));rw[this,tW K x n (k+1),K.neg_add' (nt K x n),←K.add_assoc,K.add_neg,K.zero_add]
theorem XF (x:R) (a b:Int):zt K x (a+b)=K.add (zt K x a) (zt K x b):=by
 cases a with
 | ofNat n =>
  cases b with
  | ofNat m=>exact tW K x n m
  | negSucc m=>exact XE K x n (m+1)
 | negSucc n =>
  cases b with
  | ofNat m=>show zt K x (Int.subNatNat m (n+1))=_; rw[XE,K.add_comm]; rfl
  | negSucc m =>
   show K.neg (nt K x (n+m+1+1))=K.add (K.neg (nt K x (n+1))) (K.neg (nt K x (m+1)));rw[←K.neg_add',←tW,show n+1+(m+1)=n+m+1+1 by omega]
theorem pW (x:R) (a:Int):zt K x (-a)=K.neg (zt K x a):=by
 apply K.add_cancel (a:=zt K x a);rw[←XF,K.add_neg,Int.add_right_neg];rfl
theorem MY (x y:R) (n:Nat):∀m,K.mul (nt K x n) (nt K y m)=nt K (K.mul x y) (n*m)
 | 0=>K.mul_zero _
 | m+1=>by
  show K.mul _ (K.add (nt K y m) y)=_;rw[K.mul_add,MY x y n m,Nat.mul_add,Nat.mul_one,tW];congr 1;clear MY
  induction n with
  | zero=>exact K.zero_mul _
  | succ n ih=>show K.mul (K.add (nt K x n) x) y=_; rw[K.add_mul,ih]; rfl
theorem Ud (x y:R) (a b:Int):K.mul (zt K x a) (zt K y b)=zt K (K.mul x y) (a*b):=by
 have hn:∀(c:Int),∃n:Nat,c=n∨c = -(n:Int):=fun c=>⟨c.natAbs,Int.natAbs_eq c⟩
 have h0:∀n m:Nat,K.mul (zt K x n) (zt K y m)=zt K (K.mul x y) ((n:Int)*m):=fun n m=>by
  rw[←Int.natCast_mul]; exact MY K x y n m
 obtain⟨n,rfl|rfl⟩:=hn a
 ·obtain⟨m,rfl|rfl⟩:=hn b
  ·exact h0 n m
  ·rw[pW,K.mul_neg,h0,Int.mul_neg,pW]
 ·obtain⟨m,rfl|rfl⟩:=hn b
  ·rw[pW,K.neg_mul,h0,Int.neg_mul,pW]
  ·rw[pW,pW,K.neg_mul,K.mul_neg,K.neg_neg,h0,Int.neg_mul_neg]
theorem DG (c:Int) (m:List Nat):∀q,jK K env (Sw c m q)=K.add (zt K (mono K env m) c) (jK K env q)
 | []=>rfl
 | (d,k)::r=>by
  unfold Sw;cases he:eqL m k
  ·cases hl:ltL m k
   ·show K.add (zt K (mono K env k) d) (jK K env (Sw c m r))=K.add _ (K.add _ _);rw[DG c m r,K.add_left_comm]
   ·rfl
  ·rw[Dy he];show K.add (zt K (mono K env k) (c+d)) (jK K env r)=K.add _ (K.add _ _);rw[XF,K.add_assoc]
theorem wY:∀p q,jK K env (MT p q)=K.add (jK K env p) (jK K env q)
 | [],q=>(K.zero_add _).symm
 | (c,m)::r,q=>by
  show jK K env (Sw c m (MT r q))=K.add (K.add _ _) _;rw[DG,wY r q,K.add_assoc]
theorem IZ (i:Nat):∀m,mono K env (UN i m)=K.mul (env i) (mono K env m)
 | []=>rfl
 | j::r=>by
  unfold UN;cases Nat.ble i j
  ·show K.mul (env j) (mono K env (UN i r))=K.mul _ (K.mul _ _);rw[IZ i r,K.mul_left_comm]
  ·rfl
theorem IN:∀m k,mono K env (Bh m k)=K.mul (mono K env m) (mono K env k)
 | [],k=>(K.one_mul _).symm
 | i::r,k=>by
  show mono K env (UN i (Bh r k))=K.mul (K.mul _ _) _;rw[IZ,IN r k,K.mul_assoc]
theorem zV (c:Int) (m:List Nat):∀q,jK K env (GV c m q)=K.mul (zt K (mono K env m) c) (jK K env q)
 | []=>(K.mul_zero _).symm
 | (d,k)::r=>by
  show jK K env (Sw (c*d) (Bh m k) (GV c m r))=K.mul _ (K.add _ _);rw[DG,zV c m r,K.mul_add,IN,Ud]
theorem GU:∀p q,jK K env (Ag p q)=K.mul (jK K env p) (jK K env q)
 | [],q=>(K.zero_mul _).symm
 | (c,m)::r,q=>by
  show jK K env (MT (GV c m q) (Ag r q))=K.mul (K.add _ _) _;rw[wY,zV,GU r q,K.add_mul]
theorem GT:∀p,jK K env (Af p)=K.neg (jK K env p)
 | []=>(IL K).symm
 | (c,m)::r=>by
  show K.add (zt K (mono K env m) (-c)) (jK K env (Af r))=K.neg (K.add _ _);rw[GT r,K.neg_add',pW]
theorem lR:∀e:RE,jK K env e.norm=e.den K env
 | .v i=>by show K.add (K.add K.zero (K.mul (env i) K.one)) K.zero=env i; rw[K.add_zero,K.zero_add,K.mul_one]
 | .add a b=>by show jK K env (MT _ _)=K.add _ _; rw[wY,lR a,lR b]
 | .mul a b=>by show jK K env (Ag _ _)=K.mul _ _; rw[GU,lR a,lR b]
 | .neg a=>by show jK K env (Af _)=K.neg _; rw[GT,lR a]
 | .zero=>rfl
 | .one=>by show K.add (K.add K.zero K.one) K.zero=K.one; rw[K.add_zero,K.zero_add]
theorem RK:∀p,isZ p=true→jK K env p=K.zero
 | [],_=>rfl
 | (.ofNat 0,m)::r,h=>by
  show K.add K.zero (jK K env r)=_;rw[K.zero_add];exact RK r h
 | (.ofNat (_+1),_)::_,h=>by cases h
 | (.negSucc _,_)::_,h=>by cases h
theorem bU (a b:RE) (h:isZ (RE.norm (.add a (.neg b)))=true):a.den K env=b.den K env:=by
 have:=RK K env _ h;rw[lR]at this;have h2:K.add (K.add (a.den K env) (K.neg (b.den K env))) (b.den K env)=K.add K.zero (b.den K env):=congrArg (fun x=>K.add x (b.den K env)) this
 rwa [K.add_assoc,K.neg_add,K.add_zero,K.zero_add]at h2
end
def dX {R:Type} (K:CR R) (l:List R) (i:Nat):R:=(l[i]?).getD K.zero
structure FD {R:Type} (K:CR R) (inv:R→R):Prop where
 ne:K.one≠K.zero
 inv:∀x,x≠K.zero→K.mul x (inv x)=K.one
section
variable {R:Type} {K:CR R} {inv:R→R}
theorem FD.zd (h:FD K inv) {a b:R} (e:K.mul a b=K.zero) (ha:a≠K.zero):b=K.zero:=by
 have:=congrArg (K.mul (inv a)) e
 rwa [←K.mul_assoc,K.mul_comm (inv a),h.inv a ha,K.one_mul,K.mul_zero]at this
theorem FD.mul_ne (h:FD K inv) {a b:R} (ha:a≠K.zero) (hb:b≠K.zero):K.mul a b≠K.zero:=fun e=>hb (h.zd e ha)
theorem FD.cancel (h:FD K inv) {a b c:R} (ha:a≠K.zero) (e:K.mul a b=K.mul a c):b=c:=by
 have:=congrArg (K.mul (inv a)) e
 rwa [←K.mul_assoc,←K.mul_assoc,K.mul_comm (inv a),h.inv a ha,K.one_mul,K.one_mul]at this
theorem mD {a b:R} (h:K.add a (K.neg b)=K.zero):a=b:=by
 have h2:K.add (K.add a (K.neg b)) b=K.add K.zero b:=congrArg (fun x=>K.add x b) h
 rwa [K.add_assoc,K.neg_add,K.add_zero,K.zero_add]at h2
theorem fO {a b:R} (h:a=b):K.add a (K.neg b)=K.zero:=by rw[h,K.add_neg]
theorem pV {A B L1 R1 c1:R} (h1:L1=R1) (e:K.add A (K.neg B)=K.mul c1 (K.add L1 (K.neg R1))):A=B:=by
 apply mD (K:=K);rw[e,fO h1,K.mul_zero]
theorem yD {A B L1 R1 c1 L2 R2 c2:R} (h1:L1=R1) (h2:L2=R2) (e:K.add A (K.neg B)=K.add (K.mul c1 (K.add L1 (K.neg R1))) (K.mul c2 (K.add L2 (K.neg R2)))):A=B:=by
 apply mD (K:=K);rw[e,fO h1,fO h2,K.mul_zero,K.mul_zero,K.add_zero]
theorem AS {A B L1 R1 c1 L2 R2 c2 L3 R3 c3:R} (h1:L1=R1) (h2:L2=R2) (h3:L3=R3) (e:K.add A (K.neg B)=K.add (K.add (K.mul c1 (K.add L1 (K.neg R1))) (K.mul c2 (K.add L2 (K.neg R2)))) (K.mul c3 (K.add L3 (K.neg R3)))):A=B:=by
 apply mD (K:=K);rw[e,fO h1,fO h2,fO h3,K.mul_zero,K.mul_zero,K.mul_zero,K.add_zero,K.add_zero]
end
section
variable {R:Type} (K:CR R)
def tl (f:Nat→R):Nat→R:=fun n=>f (n+1)
def qR:Nat→(Nat→R)→(Nat→R)→R
 | 0,f,g=>K.mul (f 0) (g 0)
 | n+1,f,g=>K.add (K.mul (f 0) (g (n+1))) (qR n (tl f) g)
def VE (f g:Nat→R):Nat→R:=fun n=>K.add (f n) (g n)
def fsc (c:R) (f:Nat→R):Nat→R:=fun n=>K.mul c (f n)
def OB (f g:Nat→R):Nat→R:=fun n=>qR K n f g
def aJT (f:Nat→R):Nat→R:=fun n=>K.neg (f n)
def fze:Nat→R:=fun _=>K.zero
def fco (c:R):Nat→R|0=>c|_+1=>K.zero
theorem AU:∀(n:Nat) (f g h:Nat→R),qR K n f (VE K g h)=K.add (qR K n f g) (qR K n f h)
 | 0,f,g,h=>K.mul_add _ _ _
 | n+1,f,g,h=>by
  show K.add (K.mul (f 0) (K.add _ _)) (qR K n (tl f) (VE K g h))=K.add (K.add _ _) (K.add _ _);rw[AU n,K.mul_add,K.add_assoc,K.add_assoc,K.add_left_comm (K.mul (f 0) (h (n+1)))]
theorem AW:∀(n:Nat) (f g h:Nat→R),qR K n (VE K f g) h=K.add (qR K n f h) (qR K n g h)
 | 0,f,g,h=>K.add_mul _ _ _
 | n+1,f,g,h=>by
  show K.add (K.mul (K.add _ _) (h (n+1))) (qR K n (VE K (tl f) (tl g)) h)=K.add (K.add _ _) (K.add _ _);rw[AW n,K.add_mul,K.add_assoc,K.add_assoc,K.add_left_comm (K.mul (g 0) (h (n+1)))]
theorem Fa:∀(n:Nat) (c:R) (f g:Nat→R),qR K n (fsc K c f) g=K.mul c (qR K n f g)
 | 0,c,f,g=>K.mul_assoc _ _ _
 | n+1,c,f,g=>by
  show K.add (K.mul (K.mul c (f 0)) _) (qR K n (fsc K c (tl f)) g)=K.mul c (K.add _ _);rw[Fa n,K.mul_add,K.mul_assoc]
theorem OR:∀(n:Nat) (g:Nat→R),qR K n (fze K) g=K.zero
 | 0,g=>K.zero_mul _
 | n+1,g=>by
  show K.add (K.mul K.zero _) (qR K n (fze K) g)=_;rw[OR n,K.zero_mul,K.add_zero]
theorem aAx (c:R) (g:Nat→R):∀n,qR K n (fco K c) g=K.mul c (g n)
 | 0=>rfl
 | n+1=>by
  show K.add (K.mul c _) (qR K n (fze K) g)=_;rw[OR,K.add_zero]
theorem AT:∀(n:Nat) (f g h:Nat→R),qR K n (OB K f g) h=qR K n f (OB K g h)
 | 0,f,g,h=>K.mul_assoc _ _ _
 | n+1,f,g,h=>by
  have e:tl (OB K f g)=VE K (fsc K (f 0) (tl g)) (OB K (tl f) g):=rfl;show K.add (K.mul (K.mul (f 0) (g 0)) (h (n+1))) (qR K n (tl (OB K f g)) h)=K.add (K.mul (f 0) (K.add (K.mul (g 0) (h (n+1))) (qR K n (tl g) h))) (qR K n (tl f) (OB K g h));rw[e,AW,Fa,AT n,K.mul_add,K.mul_assoc,K.add_assoc]
theorem sY:∀(n:Nat) (f g:Nat→R),qR K n f g=qR K n g f
 | 0,f,g=>K.mul_comm _ _
 | 1,f,g=>by
  show K.add (K.mul (f 0) (g 1)) (K.mul (f 1) (g 0))=K.add (K.mul (g 0) (f 1)) (K.mul (g 1) (f 0));rw[K.add_comm,K.mul_comm (f 1),K.mul_comm (f 0)]
 | n+2,f,g=>by
  show K.add (K.mul (f 0) (g (n+2))) (qR K (n+1) (tl f) g)=K.add (K.mul (g 0) (f (n+2))) (qR K (n+1) (tl g) f);rw[sY (n+1) (tl f) g,sY (n+1) (tl g) f];show K.add (K.mul (f 0) (g (n+2))) (K.add (K.mul (g 0) (f (n+2))) (qR K n (tl g) (tl f)))=K.add (K.mul (g 0) (f (n+2))) (K.add (K.mul (f 0) (g (n+2))) (qR K n (tl f) (tl g)));rw[K.add_left_comm,sY n (tl g) (tl f)]
theorem Fb:∀(a b:Nat) (f g:Nat→R),(∀i,a≤i→f i=K.zero)→(∀i,b≤i→g i=K.zero)→∀n,a+b≤n+1→qR K n f g=K.zero
 | 0,b,f,g,hf,hg,n,h=>by
  have:f=fze K:=funext fun i=>hf i (Nat.zero_le _)
  rw[this,OR]
 | a+1,b,f,g,hf,hg,0,h=>by
  show K.mul (f 0) (g 0)=_;rw[hg 0 (by omega),K.mul_zero]
 | a+1,b,f,g,hf,hg,n+1,h=>by
  show K.add (K.mul (f 0) (g (n+1))) (qR K n (tl f) g)=_;rw[hg (n+1) (by omega),K.mul_zero,K.zero_add];exact Fb a b (tl f) g (fun i hi=>hf (i+1) (by omega)) hg n (by omega)
def Pol:Type:={f:Nat→R // ∃n,∀i,n≤i→f i=K.zero}
variable {K}
theorem Pol.ext {f g:Pol K} (h:∀n,f.1 n=g.1 n):f=g:=Subtype.ext (funext h)
def Sj:CR (Pol K) where
 add f g:=⟨VE K f.1 g.1,by
  obtain⟨a,ha⟩:=f.2; obtain⟨b,hb⟩:=g.2;exact⟨a+b,fun i hi=>by show K.add (f.1 i) (g.1 i)=_; rw[ha i (by omega),hb i (by omega),K.add_zero]⟩⟩
 mul f g:=⟨OB K f.1 g.1,by
  obtain⟨a,ha⟩:=f.2; obtain⟨b,hb⟩:=g.2;exact⟨a+b,fun i hi=>Fb K a b f.1 g.1 ha hb i (by omega)⟩⟩
 neg f:=⟨aJT K f.1,by
  obtain⟨a,ha⟩:=f.2;exact⟨a,fun i hi=>by show K.neg (f.1 i)=_; rw[ha i hi,IL]⟩⟩
 zero:=⟨fze K,0,fun _ _=>rfl⟩
 one:=⟨fco K K.one,1,fun i hi=>by cases i with|zero=>omega|succ i=>rfl⟩
 add_assoc a b c:=Pol.ext fun n=>K.add_assoc _ _ _
 add_comm a b:=Pol.ext fun n=>K.add_comm _ _
 zero_add a:=Pol.ext fun n=>K.zero_add _
 neg_add a:=Pol.ext fun n=>K.neg_add _
 mul_assoc a b c:=Pol.ext fun n=>AT K n _ _ _
 mul_comm a b:=Pol.ext fun n=>sY K n _ _
 one_mul a:=Pol.ext fun n=>by show qR K n (fco K K.one) a.1=_; rw[aAx,K.one_mul]
 mul_add a b c:=Pol.ext fun n=>AU K n _ _ _
def pco (c:R):Pol K:=⟨fco K c,1,fun i hi=>by cases i with|zero=>omega|succ i=>rfl⟩
def pX:Pol K:=⟨fun n=>match n with|1=>K.one|_=>K.zero,2,fun i hi=>by match i,hi with|i+2,_=>rfl⟩
def dg (f:Pol K) (n:Nat):Prop:=f.1 n≠K.zero∧∀i,n<i→f.1 i=K.zero
variable {inv:R→R}
def qP (c:R):Pol K:=Sj.add (Sj.mul pX (Sj.mul pX pX)) (pco c)
end
end Go.Proofs.YtpjlhhpjpnacmaaGreatDoor.Ex
