/- Eo06 -/
import Derived.Laws.OwnMore
import Derived.Laws.MakeOwn
import Derived.Lib.TrailingZeros
import Derived.Laws.Bits64
import Derived.Laws.Bits64b
import Derived.Shelf.Spec.TrailingZeros
import Derived.Test.YtpjlhhpjpnacmaaGreatDoorEo05
import Derived.Test.YtpjlhhpjpnacmaaGreatDoorProg
set_option maxRecDepth 100000
set_option linter.unusedVariables false
set_option linter.unusedSimpArgs false
set_option linter.unnecessarySimpa false
noncomputable section
namespace Go.Proofs.YtpjlhhpjpnacmaaGreatDoor.Ex
open Go.Proofs.Tryz
open Go.RowKit
def T5n:Tab5:=fun _ _=>none
theorem Xd (P:Program):PtOk P T5n:=fun _ _ _ _ _ _ h=>by cases h
theorem Fp (b N n m c n' m':Nat) (p p':Option Addr):Ul prog (Xk prog (fun _=>none) (fun _=>none) (fun _=>none) (assoc [(12,.slice p' n' m')]) T5n) (fun _=>tC T0 (assoc [(6,iI c)])) f188 60 b N 0 [.c (.slice p n m)] []=some ([Value.int .i64 (if Int.ofNat n<31 then Int.ofNat n else 31)=iI c,c≤m,∀w:World,(Instr.sliceAt 25 (.slice p n m) (some (iI c)) none none).run prog w=.ok (.slice p' n' m') w],.one (.im (.slice p c m)),[.c (.slice p' n' m')],b,N):=by kernel_rfl
theorem VP {g o n m c:Nat} (h:c≤n) (hm:n≤m) (w:World):(Instr.sliceAt 25 (aK g o n m) (some (iI c)) none none).run prog w=.ok (aK g (if m=c then o else o+c) (n-c) (m-c)) w:=by
 by_cases e:m=c
 ·rw[if_pos e];simp[Instr.sliceAt,Instr.slice,aK,iI,run_underlying zF,Instr.sliceBounds,Instr.sliceBound,asIntOf,IM,h,e]
 ·rw[if_neg e];simp[Instr.sliceAt,Instr.slice,aK,iI,run_underlying zF,Instr.sliceBounds,Instr.sliceBound,asIntOf,IM,h,e,Addr.add_mid]
def TL (g o N i:Nat) (v:Value):Prop:=∃p m,v=.slice p (N-31*i) m∧N-31*i≤m∧(0<N-31*i→p=some ⟨g,o+31*i,none⟩)
def lT (N i:Nat):Nat:=min (N-31*i) 31
theorem SH {w:World} {r g o N i:Nat} {v:Value} (hr:TL g o N i v) (h0:0<N-31*i) (hO:Own w r [.c v]):∃m v',TL g o N (i+1) v'∧(∃p' n' m',v'=.slice p' n' m')∧lT N i≤m∧Calls prog 188 #[ptV r 0] w (Wr r w (.one (.im (aK g (o+31*i) (lT N i) m))) [.c v']):=by
 obtain⟨p,m,rfl,hm,hp⟩:=hr;obtain rfl:=hp h0;have hc:lT N i≤N-31*i:=Nat.min_le_left _ _;have e:N-31*i-lT N i=N-31*(i+1):=by unfold lT; omega
 refine⟨m,aK g (if m=lT N i then o+31*i else o+31*i+lT N i) (N-31*i-lT N i) (m-lT N i),⟨_,_,by rw[e]; rfl,by omega,fun h => ?_⟩,⟨_,_,_,rfl⟩,by omega,?_⟩
 ·have:lT N i=31:=by unfold lT; omega
  rw[if_neg (by omega),this,show o+31*i+31=o+31*(i+1) by omega]
 ·have h1:Value.int .i64 (if Int.ofNat (N-31*i)<31 then Int.ofNat (N-31*i)else 31)=iI (lT N i):=by
   unfold lT
   by_cases h:N-31*i<31
   ·rw[if_pos (by show ((N-31*i:Nat):Int)<31; omega),Nat.min_eq_left (by omega)]; rfl
   ·rw[if_neg (by show ¬((N-31*i:Nat):Int)<31; omega),Nat.min_eq_right (by omega)]; rfl
  exact KN (ts:=[]) aI (fun _ _=>(bU _).w _ _) (mG (Xd _) _ _) func188 (Fp r w.heap.size (N-31*i) m (lT N i) _ _ _ _) ⟨h1,by omega,fun w=>VP hc hm w,trivial⟩ hO
theorem BW {P:Program} {o:Oper} {a:Act} {w:World} {K:Act→World→Prop} {Q:Exit→Act→World→Prop} {x:Operand} {xs:Array Operand} {ts:Array TypeId} {id:Nat} {cap vs:Array Value} {R:Ending→World→Prop} (ho:o.op=.call ⟨.value x,xs,ts⟩) (hx:a.eval x=.func (.func id) #[] cap) (hv:xs.map a.eval=vs)
  (he:∀xs,(callFunc id xs).run P w=.ok (.enter id xs) w) (hc:Calls P id (vs++cap) w R) (hK:∀e w',R e w'→∃v,e=.returned v∧K (a.put o.dst v) w'):o.wp P a w K Q:=by
 have hrun:(execOp a.eval o).run P w=.ok (.enter id (vs++cap)) w:=by
  simp[execOp,ho,resolve,Deferred.ofValue,hx,hv,invoke,he]
 unfold Oper.wp;rw[hrun];refine Calls.mono hc fun e w' hR => ?_
 obtain⟨v,rfl,h⟩:=hK e w' hR;exact h
theorem WrC.own {w w':World} {r:Nat} {l:List At} (h:WrC w w' r) (hlt:r<w.heap.size) (hr:w'.rangeAt r 0 (aA l)):Own w' r l:=⟨Nat.lt_of_lt_of_le hlt h.below.size,hr,h.free⟩
theorem WrC.trans {a b c:World} {r:Nat} (h:WrC a b r) (k:WrC b c r):WrC a c r :=
 ⟨h.below.trans k.below,fun p hp hne=>by
  have h1:=h.mem p hp hne;have h2:=k.mem p (Nat.lt_of_lt_of_le hp h.below.size) hne;exact⟨h2.1.trans h1.1,h2.2.trans h1.2⟩,h.shape.trans k.shape,k.free⟩
theorem Holds.wrcK {nt b k:Nat} {w w':World} {A:List Fact} {a:Act} (h:Holds nt b w A a w') {l:List At} (h1:Fact.row k true l∈A) (h2:Fact.at k b∈A) (h3:Fact.at nt w.heap.size∈A):WrC w w' b∧w'.rangeAt b 0 (aA l):=by
 obtain⟨β,g1,g2,g3,gt⟩:=h.facts;obtain⟨e1,e2,e4,_⟩:=g1 _ h1;obtain⟨e5,e6,e7⟩:=e4 rfl;have e3:=g1 _ h2;have e8:=g1 _ h3;simp only[Fact.ok]at e3 e8;rw[e6]at e2;rw[e3.1]at e2;refine⟨⟨h.below,fun p hp hne => ?_,gt.shape,fun j => ?_⟩,e2⟩
 ·rcases Nat.lt_or_ge p.block b with q|q
  ·exact⟨h.below.cell q,h.below.frozen q⟩
  ·exact gt.mem p (by omega) (by rw[e8.1]; exact hp)
 ·have:=e7 j
  rwa [e3.1]at this
theorem Own.holds {nt k r:Nat} {w:World} {l:List At} {a:Act} {ts:List (Nat×Value)} (h:Own w r l) (hd:a.defers=[]) (hs:a.tmps.size=nt) (hk:Nat.beq k nt=false) (hp:a.tmps[k]?=some (ptV r 0)) (ht:∀x∈ts,a.tmps[x.1]?=some x.2) :
  Holds nt r w (.slot k (.pt k 0) :: .row k true l :: .at k r :: .at nt w.heap.size::ts.map fun x=>.slot x.1 (.im x.2)) a w:=by
 refine⟨hd,hs,Below.refl _ _,Nat.le_of_lt h.lt,fun q=>bif Nat.beq q nt then (w.heap.size,0,0)else (r,0,0),fun φ hφ => ?_,fun k1 k2 o' l1 l2 h1 h2 hne => ?_,fun k1 l1 h1=>Or.inl ?_,?_,fun p q1 q2=>⟨rfl,rfl⟩,Shape.refl _⟩
 ·simp only[List.mem_cons,List.mem_map]at hφ
  rcases hφ with rfl|rfl|rfl|rfl|⟨x,hx,rfl⟩
  ·show a.tmps[k]?=_;rw[hp];simp[AV.den,hk,Go.Proofs.YtpjlhhpjpnacmaaGreatDoor.Ex.ptV]
  ·refine⟨?_,?_,fun _=>⟨?_,?_,?_⟩,fun h=>by cases h⟩<;>simp only[hk,cond_false]
   ·exact h.lt
   ·exact h.row
   ·exact Nat.le_refl _
   ·exact h.free
  ·simp only[Fact.ok,hk,cond_false,and_self]
  ·simp[Fact.ok]
  ·exact ht x hx
 ·have e:∀k3 o3 l3,Fact.row k3 o3 l3∈(Fact.slot k (.pt k 0) :: .row k true l :: .at k r :: .at nt w.heap.size::ts.map fun x=>Fact.slot x.1 (.im x.2))→k3=k:=fun k3 o3 l3 h3=>by
   simp only[List.mem_cons,reduceCtorEq,false_or,List.mem_map,and_false,exists_const,or_false]at h3;cases h3; rfl
  exact (hne ((e _ _ _ h1).trans (e _ _ _ h2).symm)).elim
 ·have e:k1=k:=by
   simp only[List.mem_cons,reduceCtorEq,false_or,List.mem_map,and_false,exists_const,or_false]at h1;cases h1; rfl
  subst e;simp only[hk,cond_false]
 ·simp
noncomputable abbrev itF:Func:=f187
def pB:Code:=(f187.body).getD .skip
def lI:Code:=iR (iR (cB (cB pB)))
def TQ:Code:=iR (cB lI)
theorem Il:pB=.seq (cA pB) (.seq (cA (cB pB)) (.block 0 (.loop lI))):=by kernel_rfl
theorem Ik:lI=.seq (cA lI) (.block 1 (.seq (.region 3 (aD (cA TQ)) false) (.cond (.tmp 14) .ret .skip))):=by kernel_rfl
def yV (l:Nat):Value:=.func (.yield l) #[] #[]
def tS (r:Nat):Value:=.func (.func 188) #[] #[ptV r 0]
theorem aBr:itF.ntmps=15:=by kernel_rfl
def iA (l r N:Nat) (v:Value):List Fact:=[.slot 3 (.pt 3 0),.row 3 true [.c v],.at 3 r,.at 15 N,.slot 0 (.im (yV l)),.slot 4 (.im (tS r))]
theorem aBq (w:World) (l bb n m:Nat) (p:Option Addr):aX prog { qG prog with x:=xO w (fun _=>none) (fun _=>none) (assoc [(5,.slice p n m)]) } itF.ntmps (fun _=>tC T0 fun _=>none) 40 (cA pB) (fD 0 [.v (.im (yV l)),.v (.im (ptV bb 0))]) [.slot 3 (.pt 3 0),.row 3 true [.c (.slice p n m)],.slot 0 (.im (yV l))]=some ([oldOf w bb 0 [.c (.slice p n m)]],.nrm,[.slot 3 (.pt 3 0),.row 3 true [.c (.slice p n m)],.slot 0 (.im (yV l))]):=by kernel_rfl
theorem aBp (l r:Nat) (v:Value):aX prog (qG prog) itF.ntmps (fun _=>tC T0 fun _=>none) 40 (cA (cB pB)) [.at 3 r,.slot 3 (.pt 3 0),.row 3 true [.c v],.slot 0 (.im (yV l))] [.slot 4 (.im (tS r)),.at 3 r,.slot 3 (.pt 3 0),.row 3 true [.c v],.slot 0 (.im (yV l))]=some ([],.nrm,[.slot 4 (.im (tS r)),.at 3 r,.slot 3 (.pt 3 0),.row 3 true [.c v],.slot 0 (.im (yV l))]):=by kernel_rfl
theorem aBt (l r N n m:Nat) (p:Option Addr):aX prog (qG prog) 15 (fun _=>tC T0 (assoc [(9,.bool true)])) 40 (cA lI) (iA l r N (.slice p n m)) (iA l r N (.slice p n m))=some ([aJ .gtr .i64 (Int.ofNat n) 0=some (.bool true)],.nrm,iA l r N (.slice p n m)):=by kernel_rfl
theorem Ti (l r N n m:Nat) (p:Option Addr):aX prog (qG prog) 15 (fun _=>tC T0 (assoc [(9,.bool false)])) 40 (cA lI) (iA l r N (.slice p n m)) (iA l r N (.slice p n m))=some ([aJ .gtr .i64 (Int.ofNat n) 0=some (.bool false)],.ex 0,iA l r N (.slice p n m)):=by kernel_rfl
theorem aBs (l r N:Nat) (v:Value):cO prog (qG prog) 15 (tC T0 fun _=>none) ((aD (cA TQ)).extract 0 2) (iA l r N v) (.slot 11 (.im (tS r)) :: .slot 10 (.im (yV l))::iA l r N v)=some ([],.slot 11 (.im (tS r)) :: .slot 10 (.im (yV l))::iA l r N v):=by kernel_rfl
theorem Th (l r N:Nat) (v:Value):cO prog (qG prog) 15 (tC T0 fun _=>none) ((aD (cA TQ)).extract 4 5) [.slot 3 (.pt 3 0),.row 3 true [.c v],.at 3 r,.at 15 N,.slot 0 (.im (yV l)),.slot 4 (.im (tS r)),.slot 13 (.im (.bool true))] (.slot 14 (.im (.bool false))::iA l r N v)=some ([],.slot 14 (.im (.bool false))::iA l r N v):=by kernel_rfl
theorem Nz {a:Nat} (h:0<a):aJ .gtr .i64 (Int.ofNat a) 0=some (.bool true):=by
 show some (Value.bool (decide (Int.ofNat a>0)))=_;rw[decide_eq_true (by show (0:Int)<(a:Int); omega)]
theorem aBN {a:Nat} (h:a=0):aJ .gtr .i64 (Int.ofNat a) 0=some (.bool false):=by rw[h]; rfl
theorem aS {a:Act} {d s:Nat} {u v:Value} (h:a.tmps[s]?=some v) (hd:d≠s):(a.put (some d) u).tmps[s]?=some v:=by
 rw[fZ _ _ _ _ (fun e=>hd (by injection e))]; exact h
structure ItS (l r:Nat) (v:Value) (a:Act) (w:World):Prop where
 defers:a.defers=[]
 size:a.tmps.size=15
 t0:a.tmps[0]?=some (yV l)
 t3:a.tmps[3]?=some (ptV r 0)
 t4:a.tmps[4]?=some (tS r)
 own:Own w r [.c v]
theorem ItS.holds {l r:Nat} {v:Value} {a:Act} {w:World} (h:ItS l r v a w):Holds 15 r w (iA l r w.heap.size v) a w :=
 h.own.holds (k:=3) (ts:=[(0,yV l),(4,tS r)]) h.defers h.size rfl h.t3 (fun x hx=>by
  simp only[List.mem_cons,List.not_mem_nil,or_false]at hx
  rcases hx with rfl|rfl
  ·exact h.t0
  ·exact h.t4)
theorem Holds.its {l r:Nat} {v:Value} {A:List Fact} {a:Act} {w w':World} (h:Holds 15 r w A a w') (hA:∀φ∈iA l r w.heap.size v,φ∈A) (hlt:r<w.heap.size):ItS l r v a w'∧WrC w w' r:=by
 have hW:=h.wrcK (k:=3) (l:=[.c v]) (hA _ (by simp[iA])) (hA _ (by simp[iA])) (hA _ (by simp[iA]));refine⟨⟨h.defers,h.size,h.slot (hA _ (by simp[iA])),?_,h.slot (hA _ (by simp[iA])),hW.1.own hlt hW.2⟩,hW.1⟩;obtain⟨β,g1,_⟩:=h.facts;have e1:=g1 _ (hA (.slot 3 (.pt 3 0)) (by simp[iA]));have e2:=g1 _ (hA (.at 3 r) (by simp[iA]));simp only[Fact.ok]at e1 e2;rw[e1];simp[AV.den,e2,Go.Proofs.YtpjlhhpjpnacmaaGreatDoor.Ex.ptV]
theorem ZH {W1:World} {l g o N bb:Nat} {v:Value} (hv:TL g o N 0 v) (hbox:oldOf W1 bb 0 [.c v]) (J:Nat→Nat→World→Prop)
  (hJ0:∀r W,W1.heap.size≤r→Below W1.heap.size W1 W→r<W.heap.size→Shape W1 W→J r 0 W) (hJw:∀r i W W',W1.heap.size≤r→J r i W→WrC W W' r→J r i W')
  (hR:∀r i W v' m,W1.heap.size≤r→31*i<N→J r i W→Own W r [.c v']→lT N i≤m→∃rec,W.heap[l]?=some (.loop rec)∧rec.params.size=1 ∧
   RoundIn Fence.wide 0 prog l rec.fn ((rec.params.zip #[aK g (o+31*i) (lT N i) m]).foldl (fun t (p,v)=>t.setIfInBounds p v) rec.tmps) rec.assign rec.body W fun e W'=>e=.returned (.bool true)∧J r (i+1) W'∧Own W' r [.c v']) :
  Calls prog 187 #[yV l,ptV bb 0] W1 fun e W'=>(∃v,e=.returned v)∧∃r,J r ((N+30)/31) W':=by
 obtain⟨p,m,rfl,hm,hp⟩:=hv;have hG:∀base w,bO prog (qG prog) base w:=fun _ _=>(aW _).w _ _
 have hT:∀base w,∀n d:Nat,TabOkW prog T0 base w:=fun _ _ _ _=>(bU _).w _ _
 refine cH func187 (cs:=[.v (.im (yV l)),.v (.im (ptV bb 0))]) (args:=[yV l,ptV bb 0]) (c:=pB) rfl ⟨rfl,rfl,trivial⟩ (Nat.le_of_ble_eq_true (by kernel_rfl)) fun a w hA => ?_
 rw[Il];refine wp_seq (aB aI (hT _ _) (dN W1 _ _ _) (aBq W1 l bb (N-31*0) m p) ⟨hbox,trivial⟩ hA fun a w hA => ?_);obtain⟨r,hA⟩:=hA.at (k:=3) (l:=[.c (.slice p (N-31*0) m)]) (by simp);refine wp_seq (aB aI (hT _ _) (hG _ _) (aBp l r _) trivial hA fun a w hA => ?_);have hnt:f187.ntmps=15:=aBr;have hge:W1.heap.size≤r∧r<w.heap.size∧(∀j,w.frozen? ⟨r,j,none⟩=false)∧Shape W1 w:=by
  obtain⟨β,g1,_,_,gt⟩:=hA.facts;obtain⟨q1,_,q2,_⟩:=g1 (.row 3 true [.c (.slice p (N-31*0) m)]) (by simp);have e:=g1 (.at 3 r) (by simp);simp only[Fact.ok]at e;obtain⟨rfl,_⟩:=e;exact⟨(q2 rfl).1,q1,(q2 rfl).2.2,gt.shape⟩
 have hS:ItS l r (.slice p (N-31*0) m) a w:=⟨hA.defers,hA.size.trans hnt,hA.slot (s:=0) (by simp),by
  have:=hA.ptV (s:=3) (k:=3) (o:=0) (b:=r) (by simp) (by simp);obtain⟨β,g1,_⟩:=hA.facts;have e1:=g1 (.slot 3 (.pt 3 0)) (by simp);have e2:=g1 (.at 3 r) (by simp);simp only[Fact.ok]at e1 e2;rw[e1];simp[AV.den,e2,Go.Proofs.YtpjlhhpjpnacmaaGreatDoor.Ex.ptV],hA.slot (s:=4) (by simp),hge.2.1,by
  have:=hA.old (k:=3) (l:=[.c (.slice p (N-31*0) m)]) (b:=r) (by simp) (by simp);exact this.2,hge.2.2.1⟩
 have hJ:=hJ0 r w hge.1 hA.below hge.2.1 hge.2.2.2;have hv:TL g o N 0 (.slice p (N-31*0) m):=⟨p,m,rfl,hm,hp⟩;have hB1:=hge.1;clear hge hA hm hp hbox;refine wp_block ?_;refine dS (n:=(N+30)/31+1) ?_;have wl:∀Q a w,(Code.seq (cA lI) (.block 1 (.seq (.region 3 (aD (cA TQ)) false) (.cond (.tmp 14) .ret .skip)))).wp prog Q a w→lI.wp prog Q a w:=fun Q a w h=>by rw[Ik]; exact h
 have key:∀k i a w v,i+k=(N+30)/31→TL g o N i v→ItS l r v a w→J r i w→Un prog lI (Exit.inBlock 0 (bodyPost prog f187 fun e W'=>(∃v,e=.returned v)∧∃r,J r ((N+30)/31) W')) (k+1) a w:=by
  intro k
  induction k with
  | zero =>
   intro i a w v hi hv hS hJ;unfold Un;refine wl _ _ _ ?_;obtain⟨p,m,rfl,hm,hp⟩:=hv;refine wp_seq (aB aI (hT _ _) (hG _ _) (Ti l r w.heap.size (N-31*i) m p) ⟨aBN (by omega),trivial⟩ hS.holds fun a w' hA => ?_);obtain⟨hS',hW⟩:=hA.its (fun φ h=>h) hS.own.lt;have hJ':=hJw r i w w' hB1 hJ hW;have hi':i=(N+30)/31:=by omega
   subst hi';simp only[EA.out,Exit.then,Exit.inBlock,if_true];refine⟨hS'.defers,.tuple #[],?_,⟨_,rfl⟩,r,hJ'⟩;simp[results,show f187.results = #[] by kernel_rfl]
  | succ k ih =>
   intro i a w v hi hv hS hJ;have hlt:31*i<N:=by omega
   unfold Un;refine wl _ _ _ ?_;have hv0:=hv;obtain⟨p,m,rfl,hm,hp⟩:=hv;refine wp_seq (aB aI (hT _ _) (hG _ _) (aBt l r w.heap.size (N-31*i) m p) ⟨Nz (by omega),trivial⟩ hS.holds fun a1 w1 h1 => ?_);refine wp_block ?_;refine wp_seq ?_;refine (wpIn_wide (n:=1)).1 ?_;show Code.wpIn (rF none) 1 _ _ _ _ _;refine wpIn_region ?_;rw[show List.range (aD (cA TQ)).size=List.range' 0 ((aD (cA TQ)).extract 0 2).size++(2::3::(List.range' 4 ((aD (cA TQ)).extract 4 5).size++[])) by kernel_rfl];refine qE (c:=tC T0 _) (hT _ _ 0) (hG _ _) (aBs l r w.heap.size _) trivial (by kernel_rfl) (by kernel_rfl) h1 fun a2 w2 h2 => ?_
   obtain⟨hS2,hW2⟩:=h2.its (fun φ h=>List.mem_cons_of_mem _ (List.mem_cons_of_mem _ h)) hS.own.lt;have t10:=h2.slot (s:=10) (v:=yV l) (by simp);have t11:=h2.slot (s:=11) (v:=tS r) (by simp);obtain⟨o2,ho2,⟨ts2,hop2⟩,hd2,hg2⟩:∃x,(aD (cA TQ))[2]?=some x∧(∃ts,x.op=.call ⟨.value (.tmp 11),#[],ts⟩)∧x.dst=some 12∧x.guard=none:=⟨_,rfl,⟨_,rfl⟩,rfl,rfl⟩
   obtain⟨o3,ho3,⟨ts3,hop3⟩,hd3,hg3⟩:∃x,(aD (cA TQ))[3]?=some x∧(∃ts,x.op=.call ⟨.value (.tmp 10),#[.tmp 12],ts⟩)∧x.dst=some 13∧x.guard=none:=⟨_,rfl,⟨_,rfl⟩,rfl,rfl⟩
   obtain⟨mm,v',hv',_,hmm,hcut⟩:=SH hv0 (by omega) hS2.own;refine AH ho2 hg2 (JJ (Q:=fun _ _ _=>False) (K:=fun a w=>wpOpsIn (rF none) 1 prog (aD (cA TQ)) _ (3::(List.range' 4 ((aD (cA TQ)).extract 4 5).size++[])) a w) (fun c e=>by rw[hop2]at e; cases e) (fun _ _ h=>h) (fun⟨_,_,h⟩=>h) (fun _ _ _ _ h=>h.elim) (BW hop2 (cap:=#[ptV r 0]) (vs:=#[]) (by simp[Act.eval,t11,tS]) (by simp) (fun args=>bQ func188 (by kernel_rfl) (by kernel_rfl) args _) hcut ?_))
   rintro e w3 ⟨rfl,hW3,hr3⟩
   refine⟨_,rfl,?_⟩;rw[hd2];have hO3:Own w3 r [.c v']:=hW3.own hS2.own.lt hr3;have hJ3:=hJw r i w w3 hB1 hJ (hW2.trans hW3);obtain⟨rec,hrec,hsz,hround⟩:=hR r i w3 v' mm hB1 hlt hJ3 hO3 hmm;refine AH ho3 hg3 (BU (l:=l) (vs:=#[aK g (o+31*i) (lT N i) mm]) hop3 (by
    have:=aS (d:=12) (u:=aK g (o+31*i) (lT N i) mm) t10 (by decide);simp only[Act.eval];show (a2.put (some 12) (aK g (o+31*i) (lT N i) mm)).tmps.getD 10 undef=_;simp[this,yV]) (by
    have:=aT a2 12 (aK g (o+31*i) (lT N i) mm) (by rw[hS2.size]; decide);show Array.map (a2.put (some 12) (aK g (o+31*i) (lT N i) mm)).eval #[.tmp 12]=_;simp[Act.eval,this]) hrec (by rw[hsz]; rfl) (hround.mono ?_))
   rintro e W' ⟨rfl,hJ',hO'⟩
   refine⟨_,rfl,?_⟩;rw[hd3];change wpOpsIn (rF none) 1 prog (aD (cA TQ)) _ _ ((a2.put (some 12) (aK g (o+31*i) (lT N i) mm)).put (some 13) (.bool true)) W';generalize ha4:(a2.put (some 12) (aK g (o+31*i) (lT N i) mm)).put (some 13) (.bool true)=a4;have hH:Holds 15 r W' [.slot 3 (.pt 3 0),.row 3 true [.c v'],.at 3 r,.at 15 W'.heap.size,.slot 0 (.im (yV l)),.slot 4 (.im (tS r)),.slot 13 (.im (.bool true))] a4 W' :=
    hO'.holds (k:=3) (ts:=[(0,yV l),(4,tS r),(13,.bool true)]) (by rw[←ha4]; exact hS2.defers) (by rw[←ha4]; simp only[aF]; exact hS2.size) rfl (by rw[←ha4]; exact aS (aS hS2.t3 (by decide)) (by decide)) (fun x hx=>by
     simp only[List.mem_cons,List.not_mem_nil,or_false]at hx;rw[←ha4]
     rcases hx with rfl|rfl|rfl
     ·exact aS (aS hS2.t0 (by simp)) (by simp)
     ·exact aS (aS hS2.t4 (by simp)) (by simp)
     ·exact aT _ _ _ (by rw[aF,hS2.size]; decide))
   refine qE (c:=tC T0 _) (hT _ _ 0) (hG _ _) (Th l r W'.heap.size v') trivial (by kernel_rfl) (by kernel_rfl) hH fun a5 w5 h5 => ?_
   obtain⟨hS5,hW5⟩:=h5.its (fun φ h=>List.mem_cons_of_mem _ h) hO'.lt;have hc:=h5.imV (s:=14) (v:=.bool false) (by simp);show (Code.cond (.tmp 14) .ret .skip).wp _ _ _ _;exact wp_cond_false hc (wp_skip (ih (i+1) a5 w5 v' (by omega) hv' hS5 (hJw r (i+1) W' w5 hB1 hJ' hW5)))
 exact key _ 0 a w _ (by omega) hv hS hJ
structure Only2 (a b:Nat) (w w':World):Prop where
 below:∀B,B≤a→B≤b→Below B w w'
 mem:∀p:Addr,p.block<w.heap.size→p.block≠a→p.block≠b→w'.cell? p=w.cell? p∧w'.frozen? p=w.frozen? p
 shape:Shape w w'
theorem Only2.refl (a b:Nat) (w:World):Only2 a b w w:=⟨fun _ _ _=>Below.refl _ _,fun _ _ _ _=>⟨rfl,rfl⟩,Shape.refl _⟩
theorem Only2.trans {a b:Nat} {u v w:World} (h:Only2 a b u v) (k:Only2 a b v w):Only2 a b u w :=
 ⟨fun B h1 h2=>(h.below B h1 h2).trans (k.below B h1 h2),fun p hp h1 h2=>by
  have e1:=h.mem p hp h1 h2;have e2:=k.mem p (Nat.lt_of_lt_of_le hp h.shape.2.size) h1 h2;exact⟨e2.1.trans e1.1,e2.2.trans e1.2⟩,h.shape.trans k.shape⟩
theorem Only2.of_below {a b:Nat} {w w':World} (h:Below w.heap.size w w') (ha:a<w.heap.size) (hb:b<w.heap.size):Only2 a b w w' :=
 ⟨fun B h1 h2=>h.mono (by omega),fun p hp _ _=>⟨h.cell hp,h.frozen hp⟩,Shape.below h⟩
theorem Only2.of_grown {a b:Nat} {w w':World} (h:w.grownBy w' (some b)) (hs:Shape w w') (hb:b<w.heap.size) (ha:a<w.heap.size):Only2 a b w w' :=
 ⟨fun B h1 h2=>(Below.refl B w).grown h (Nat.le_trans h2 (Nat.le_of_lt hb)) (fun k e=>(by cases e; exact h2)),fun p hp _ h2=>by
  have:=h.block p.block hp (fun e=>h2 (Option.some.inj e));exact⟨World.cell?_of_block this,World.frozen?_of_block this⟩,hs⟩
theorem Only2.of_set {a b o:Nat} {w:World} {vs:List Value}:Only2 a b w (w.setCells a o vs) :=
 ⟨fun B h1 _=>fH h1 _ _ _ _ (Below.refl _ _),fun p _ h1 _=>⟨World.cell?_setCells_out _ _ _ _ _ (fun q _=>absurd q h1),World.frozen?_setCells _ _ _ _ _⟩,dI _ _ _ _⟩
theorem Only2.own {a b:Nat} {w w':World} (h:Only2 a b w w') {r:Nat} {l:List At} (hO:Own w r l) (h1:r≠a) (h2:r≠b):Own w' r l :=
 ⟨Nat.lt_of_lt_of_le hO.lt h.shape.2.size,fun j v hj=>(h.mem ⟨r,0+j,none⟩ hO.lt h1 h2).1.trans (hO.row j v hj),fun j=>(h.mem ⟨r,j,none⟩ hO.lt h1 h2).2.trans (hO.free j)⟩
theorem Only2.range {a b:Nat} {w w':World} (h:Only2 a b w w') {r o:Nat} {l:List Value} (hlt:r<w.heap.size) (hO:w.rangeAt r o l) (h1:r≠a) (h2:r≠b):w'.rangeAt r o l :=
 fun j v hj=>(h.mem ⟨r,o+j,none⟩ hlt h1 h2).1.trans (hO j v hj)
structure ElM (w:World) (a b n C:Nat) (g:Nat→Nat):Prop where
 box:Own w a [.c (aK b 0 n C)]
 app:AppAt w b 27 4 n C
 lt:b<w.heap.size
 row:w.rangeAt b 0 (aA (bV (el g) 0 n))
 ne:a≠b
theorem AppAt.free {w:World} {b e sz n C:Nat} (h:AppAt w b e sz n C) (j:Nat):w.frozen? ⟨b,j,none⟩=false:=by
 obtain⟨cur,h1,_⟩:=h;simp[World.frozen?,h1]
theorem ElM.wrc {w w':World} {a b n C r:Nat} {g:Nat→Nat} (h:ElM w a b n C g) (hW:WrC w w' r) (ha:a≠r) (hb:b≠r):ElM w' a b n C g :=
 ⟨⟨Nat.lt_of_lt_of_le h.box.lt hW.below.size,fun j v hj=>(hW.mem ⟨a,0+j,none⟩ h.box.lt ha).1.trans (h.box.row j v hj),fun j=>(hW.mem ⟨a,j,none⟩ h.box.lt ha).2.trans (h.box.free j)⟩,h.app.shape hW.shape,Nat.lt_of_lt_of_le h.lt hW.below.size,
  fun j v hj=>(hW.mem ⟨b,0+j,none⟩ h.lt hb).1.trans (h.row j v hj),h.ne⟩
theorem ElM.on {w w':World} {a b n C:Nat} {g:Nat→Nat} (h:ElM w a b n C g) (hW:Below w.heap.size w w'):ElM w' a b n C g :=
 ⟨⟨Nat.lt_of_lt_of_le h.box.lt hW.size,bG hW h.box.lt h.box.row,fun j=>(hW.frozen (p:=⟨a,j,none⟩) h.box.lt).trans (h.box.free j)⟩,h.app.shape (Shape.below hW),Nat.lt_of_lt_of_le h.lt hW.size,bG hW h.lt h.row,h.ne⟩
theorem ElM.putL {w:World} {a b n C l:Nat} {g:Nat→Nat} {r:Loop} {o:Obj} (h:ElM w a b n C g) (hl:w.heap[l]?=some (.loop r)):ElM (w.putObj l o) a b n C g:=by
 have hb:b≠l:=fun e=>by
  obtain⟨cur,h1,_⟩:=h.app;rw[e,hl]at h1; cases h1
 have ha:a≠l:=fun e=>by
  have:=h.box.row 0 _ rfl;rw[Nat.zero_add,e]at this;simp[World.cell?,hl]at this
 refine⟨⟨by rw[World.putObj_size]; exact h.box.lt,kI hl ha h.box.row,fun j=>(kJ hl (p:=⟨a,j,none⟩) ha).2.trans (h.box.free j)⟩,?_,by rw[World.putObj_size]; exact h.lt,kI hl hb h.row,h.ne⟩;obtain⟨cur,h1,h2,h3,h4⟩:=h.app;exact⟨cur,(World.putObj_heap_other hb).trans h1,h2,h3,h4⟩
theorem Own.putL {w:World} {r l:Nat} {c:Value} {rec:Loop} {o:Obj} (h:Own w r [.c c]) (hl:w.heap[l]?=some (.loop rec)):Own (w.putObj l o) r [.c c]:=by
 have ha:r≠l:=fun e=>by
  have:=h.row 0 _ rfl;rw[Nat.zero_add,e]at this;simp[World.cell?,hl]at this
 exact⟨by rw[World.putObj_size]; exact h.lt,kI hl ha h.row,fun j=>(kJ hl (p:=⟨r,j,none⟩) ha).2.trans (h.free j)⟩
theorem WI (x:Nat):∀v∈aA [At.q x],v.oneCell'=true:=fun v hv=>by
 have e:aA [At.q x]=w4 x:=by simp[aA,At.cells]
 rw[e]at hv;simp only[w4,List.mem_cons,List.not_mem_nil,or_false]at hv
 rcases hv with rfl|rfl|rfl|rfl<;>rfl
theorem mZ (f:Nat→Nat):∀n s,(aA (bV (el f) s n)).length=n*4
 | 0,s=>rfl
 | n+1,s=>by
  show (aA (el f s++bV (el f) (s+1) n)).length=_;rw[aM,List.length_append,mZ f n (s+1)];show 4+n*4=_;omega
theorem fL {f g:Nat→Nat}:∀(n s:Nat),(∀j,j<n→f (s+j)=g (s+j))→bV (el f) s n=bV (el g) s n
 | 0,s,h=>rfl
 | n+1,s,h=>by
  have h0:f s=g s:=h 0 (by omega);have h1:bV (el f) (s+1) n=bV (el g) (s+1) n:=fL n (s+1) fun j hj=>by
   have e:s+1+j=s+(j+1):=by omega
   rw[e];exact h (j+1) (by omega)
  show [At.q (f s)]++bV (el f) (s+1) n=[At.q (g s)]++bV (el g) (s+1) n;rw[h0,h1]
theorem RT:Ye prog 56=some (27,4,32):=by kernel_rfl
theorem Cn {w:World} {b n C c m x:Nat} {g:Nat→Nat} (ha:AppAt w b 27 4 n C) (hr:w.rangeAt b 0 (aA (bV (el g) 0 n))) (hx:w.rangeAt c 0 (aA [At.q x])) (hC:n+1≤C) (ty:TypeId) :
  ∃w',(Builtin.append_ #[56,56] ty #[aK b 0 n C,aK c 0 1 m]).run prog w=.ok (aK b 0 (n+1) C) w'∧AppAt w' b 27 4 (n+1) C ∧
   w'.rangeAt b 0 (aA (bV (el fun j=>if j<n then g j else x) 0 (n+1)))∧w.grownBy w' (some b)∧Shape w w':=by
 obtain⟨ht,i,z,hi,hz,hsize,hby,hzs,hsz⟩:=jI RT;have hown:=XC ha hr (mZ g n 0);have hnews:∀j v,(aA [At.q x])[j]?=some v→w.cell? ((⟨c,0,none⟩:Addr).add j)=some v:=fun j v hj=>by
  have:=hx j v hj
  rwa [show (⟨c,0,none⟩:Addr).add j=⟨c,0+j,none⟩ by simp[Addr.add]<;>omega]
 obtain⟨w',hr',hown',hg⟩:=run_append_fits (P:=prog) w 0 56 ty 27 i 4 ht hi hsize b n C _ hown ⟨c,0,none⟩ 1 m (aA [At.q x]) (by kernel_rfl) hnews (WI x) hC;obtain⟨a1,a2,a3,a4,a5⟩:=qH hown';refine⟨w',hr',a1,?_,hg,⟨fun q cur e' hq => ?_,KeepsOthers.of_grownBy hg fun j o e ho => ?_⟩⟩
 ·have e:aA (bV (el fun j=>if j<n then g j else x) 0 (n+1))=aA (bV (el g) 0 n)++aA [At.q x]:=by
   rw[wH,aM];congr 1
   ·exact congrArg aA (fL n 0 fun j hj=>by rw[Nat.zero_add,if_pos hj])
   ·show aA [At.q (if 0+n<n then g (0+n)else x)]=_;rw[if_neg (by omega)]
  rw[e]; exact a4
 ·by_cases hqb:q=b
  ·subst hqb;obtain⟨c0,k1,k2,k3,k4⟩:=ha;rw[k1]at hq;cases hq;obtain⟨c1,m1,m2,m3,m4⟩:=a1;exact⟨c1,m1,by rw[m4,k4]⟩
  ·exact⟨cur,(hg.block q (Array.getElem?_eq_some_iff.1 hq).1 (by simpa using hqb)).trans hq,rfl⟩
 ·obtain⟨c0,k1,_⟩:=ha;cases e;rw[k1]at ho;cases ho;rfl
theorem Wi (w:World) (x:Nat):∃e,(Instr.buildSlice 56 1 #[(0,.agg (aA [At.q x]).toArray)]).run prog w=.ok (aK w.heap.size 0 1 1) (w.alloc (.cells (aA [At.q x]).toArray e)):=by
 obtain⟨ht,i,z,hi,hz,hsize,hby,hzs,hsz⟩:=jI RT;refine⟨27,run_buildSlice w 56 27 1 #[(0,.agg (aA [At.q x]).toArray)] (aA [At.q x]).toArray i z ht hi hz (by rw[hsize]; decide) (by rw[hsize]; decide) ?_⟩;rw[hsize];have hl:((Array.range (1*4)).map (z.cells[· % z.cells.size]!)).size=4:=by simp
 generalize (Array.range (1*4)).map (z.cells[· % z.cells.size]!)=Z at hl;obtain⟨Z⟩:=Z
 match Z,hl with
 | [z0,z1,z2,z3],_ =>
  show Instr.fill _ _ _=some _
  kernel_rfl
theorem qZ {a:Act} {s:Nat} {v:Value} (h:a.tmps[s]?=some v):a.eval (.tmp s)=v:=by simp[Act.eval,h]
section
variable {ops:Array Oper} {o:Oper} {a:Act} {v:Value} {s:Nat} {S:World→Prop}
theorem MS (hop:o.op=.move (.tmp s)) (hg:o.guard=none) (h:a.tmps[s]?=some v):YieldsIf prog ops S o v a :=
 Or.inl ⟨by simp[Region.wanted,hg],fun wx _=>by simp only[execOp,hop,Sem.run_bind,Sem.run_pure,Result.andThen_ok,qZ h]⟩
theorem zB {t b:Nat} (hop:o.op=.load t (.tmp s)) (hg:o.guard=none) (h:a.tmps[s]?=some (ptV b 0)) (ht:iK prog t=true) (hS:∀wx,S wx→wx.cell? ⟨b,0,none⟩=some v):YieldsIf prog ops S o v a :=
 Or.inl ⟨by simp[Region.wanted,hg],fun wx hw=>by
  have:=iY (P:=prog) wx ⟨b,0,none⟩ ht (hS wx hw);simp[execOp,hop,qZ h,ptV,Instr.loadAt,Instr.sureAddr,this]⟩
theorem Pi {t e:Nat} {p:Option Addr} {n m:Nat} (hop:o.op=.call ⟨.builtin .len,#[.tmp s],#[t]⟩) (hg:o.guard=none) (h:a.tmps[s]?=some (.slice p n m)) (hu:prog.underlying t=some (.slice e)):YieldsIf prog ops S o (iI n) a :=
 Or.inl ⟨by simp[Region.wanted,hg],fun wx hw=>by
  simp[execOp,hop,resolve,invoke,builtin,qZ h,Builtin.len_,Builtin.lenOf,iI,goInt,run_underlying hu]⟩
theorem Ds {src dst:Nat} {u:Value} (hop:o.op=.convert src dst (.tmp s)) (hg:o.guard=none) (h:a.tmps[s]?=some v) (hc:∀w:World,(convert src dst v).run prog w=.ok u w):YieldsIf prog ops S o u a :=
 Or.inl ⟨by simp[Region.wanted,hg],fun wx hw=>by simp[execOp,hop,qZ h,hc wx]⟩
end
theorem tK {w:World} {b:Nat} {t:Nat} {v:Value} (hc:(w.cell? ⟨b,0,none⟩).isSome=true) (hf:w.frozen? ⟨b,0,none⟩=false) (hi:(prog.info? t).map (·.size)=some 1) (hv:v.cells = #[v]) (h1:v.oneCell'=true):(storeVar t ⟨b,0,none⟩ v).run prog w=.ok () (w.setCells b 0 [v]):=by
 have hst:=run_storeVar_mid (P:=prog) w b 0 t #[v] (fun j hj=>by
  have:j=0:=by simp at hj; omega
  subst this;exact⟨hc,hf⟩) (by rw[hi]; rfl) (by simp[h1])
 unfold storeVar at hst ⊢;rw[hv];exact hst
def boxS (b3 bl n C:Nat) (wx:World):Prop:=wx.cell? ⟨b3,0,none⟩=some (aK bl 0 n C)
theorem ElM.boxS {w:World} {b3 bl n C:Nat} {g:Nat→Nat} (h:ElM w b3 bl n C g):boxS b3 bl n C w:=by
 have:=h.box.row 0 _ rfl
 rwa [Nat.zero_add]at this
theorem PE {ops:Array Oper} {i j k:Nat} {got:Array Bool} {a:Act} {w:World} {b3 bl n C x d1 d2 s sl t3:Nat} {g:Nat→Nat} {K:Act→World→Prop} {o1 o2 o3:Oper}
  (hr1:Region.ready .any ops got=[i]) (hr2:Region.ready .any ops (got.setIfInBounds i true)=[j]) (hr3:Region.ready .any ops ((got.setIfInBounds i true).setIfInBounds j true)=[k]) (hr4:Region.ready .any ops (((got.setIfInBounds i true).setIfInBounds j true).setIfInBounds k true)=[])
  (ho1:ops[i]?=some o1) (hop1:o1.op=.buildSlice 56 1 #[(0,.tmp s)]) (hd1:o1.dst=some d1) (hg1:o1.guard=none)
  (ho2:ops[j]?=some o2) (hop2:o2.op=.call ⟨.builtin .append,#[.tmp sl,.tmp d1],#[56,56]⟩) (hd2:o2.dst=some d2) (hg2:o2.guard=none)
  (ho3:ops[k]?=some o3) (hop3:o3.op=.store 56 (.tmp t3) (.tmp d2)) (hd3:o3.dst=none) (hg3:o3.guard=none)
  (hE:ElM w b3 bl n C g) (hC:n+1≤C) (hx:a.tmps[s]?=some (.agg (aA [At.q x]).toArray)) (hsl:a.tmps[sl]?=some (aK bl 0 n C)) (h3:a.tmps[t3]?=some (ptV b3 0))
  (hne1:d1≠sl) (hne2:d1≠t3) (hne3:d2≠t3) (hlt1:d1<a.tmps.size) (hlt2:d2<a.tmps.size)
  (hK:∀a' w',a'.defers=a.defers→a'.tmps.size=a.tmps.size→(∀q,d1≠q→d2≠q→a'.tmps[q]?=a.tmps[q]?)→Only2 b3 bl w w'→ElM w' b3 bl (n+1) C (fun q=>if q<n then g q else x)→K a' w') :
  dM prog .any ops (gJ K) (Go.Proofs.YtpjlhhpjpnacmaaGreatDoor.Ex.boxS b3 bl n C) k 3 got a w:=by
 refine aQ hr1 ho1 fun K1 hK1 => ?_
 rw[if_pos (by simp[Region.wanted,hg1])];obtain⟨e,hb⟩:=Wi w x;have hrun1:(execOp a.eval o1).run prog w=.ok (.value (aK w.heap.size 0 1 1)) (w.alloc (.cells (aA [At.q x]).toArray e)):=by
  simp[execOp,hop1,qZ hx,hb]
 refine bZ hrun1 ?_;rw[hd1];have hB1:Below w.heap.size w (w.alloc (.cells (aA [At.q x]).toArray e)):=(Below.refl _ w).alloc (Nat.le_refl _) _;have hE1:=hE.on hB1;have hO1:Only2 b3 bl w (w.alloc (.cells (aA [At.q x]).toArray e)):=Only2.of_below hB1 hE.box.lt hE.lt;have hnew:(w.alloc (.cells (aA [At.q x]).toArray e)).rangeAt w.heap.size 0 (aA [At.q x]):=fun q v hq=>by
  have h0:(w.alloc (.cells (aA [At.q x]).toArray e)).heap[w.heap.size]?=some (.cells (aA [At.q x]).toArray e):=World.alloc_heap_new _ _;rw[cell_of_row _ _ (0+q) _ e (0,0) h0,Nat.zero_add];simpa using hq
 generalize hw1:w.alloc (.cells (aA [At.q x]).toArray e)=w1 at *;refine hK1.out _ _ (Or.inr hE1.boxS) fun _ => ?_
 clear hK1 hrun1;have hsl1:=aS (d:=d1) (u:=aK w.heap.size 0 1 1) hsl hne1;have hd1':=aT a d1 (aK w.heap.size 0 1 1) hlt1;have h31:=aS (d:=d1) (u:=aK w.heap.size 0 1 1) h3 hne2;refine aQ hr2 ho2 fun K2 hK2 => ?_
 rw[if_pos (by simp[Region.wanted,hg2])];obtain⟨w2,hr,ha2,hrow2,hgr,BS⟩:=Cn hE1.app hE1.row hnew hC (m:=1) o2.type;have hrun2:(execOp (a.put (some d1) (aK w.heap.size 0 1 1)).eval o2).run prog w1=.ok (.value (aK bl 0 (n+1) C)) w2:=by
  unfold execOp;simp only[hop2,resolve,invoke,builtin,Sem.run_bind,Sem.run_pure,Result.andThen_ok,List.map_toArray,List.map_cons,List.map_nil,qZ hsl1,qZ hd1',hr]
 refine bZ hrun2 ?_;rw[hd2];have hO2:Only2 b3 bl w1 w2:=Only2.of_grown hgr BS hE1.lt hE1.box.lt;have hbox2:Own w2 b3 [.c (aK bl 0 n C)]:=by
  have hb3:=hgr.block b3 hE1.box.lt (fun e=>hE1.ne (Option.some.inj e));exact⟨Nat.lt_of_lt_of_le hE1.box.lt BS.2.size,fun q v hq=>(World.cell?_of_block hb3).trans (hE1.box.row q v hq),fun q=>(World.frozen?_of_block hb3).trans (hE1.box.free q)⟩
 have hS2:Go.Proofs.YtpjlhhpjpnacmaaGreatDoor.Ex.boxS b3 bl n C w2:=by
  have:=hbox2.row 0 _ rfl
  rwa [Nat.zero_add]at this
 refine hK2.out _ _ (Or.inr hS2) fun _ => ?_
 clear hK2 hrun2;have hd2':=aT (a.put (some d1) (aK w.heap.size 0 1 1)) d2 (aK bl 0 (n+1) C) (by rw[aF]; exact hlt2);have h32:=aS (d:=d2) (u:=aK bl 0 (n+1) C) h31 hne3;refine aQ hr3 ho3 fun K3 hK3 => ?_
 rw[if_pos (by simp[Region.wanted,hg3])];have hst:=tK (w:=w2) (b:=b3) (t:=56) (v:=aK bl 0 (n+1) C) (by rw[hS2]; rfl) (hbox2.free 0) (by kernel_rfl) rfl rfl;have hrun3:(execOp ((a.put (some d1) (aK w.heap.size 0 1 1)).put (some d2) (aK bl 0 (n+1) C)).eval o3).run prog w2=.ok .skip (w2.setCells b3 0 [aK bl 0 (n+1) C]):=by
  simp[execOp,hop3,Instr.storeAt,qZ h32,qZ hd2',ptV,Instr.sureAddr,hst]
 unfold Oper.wp;rw[hrun3];show K3 _ _;rw[hd3];refine hK3.out _ _ (Or.inl rfl) fun _=>cU hr4 ⟨rfl,?_⟩
 have hO3:Only2 b3 bl w2 (w2.setCells b3 0 [aK bl 0 (n+1) C]):=Only2.of_set;refine hK _ _ rfl (by show (((a.put (some d1) _).put (some d2) _)).tmps.size=_; rw[aF,aF]) (fun q h1 h2=>by
  show (((a.put (some d1) _).put (some d2) _)).tmps[q]?=_;rw[fZ _ _ _ _ (fun e=>h2 (by injection e)),fZ _ _ _ _ (fun e=>h1 (by injection e))]) (hO1.trans (hO2.trans hO3)) ?_
 have hlt2:bl<w2.heap.size:=Nat.lt_of_lt_of_le hE1.lt BS.2.size;refine⟨⟨by rw[cP]; exact hbox2.lt,fun q v hq => ?_,fun q=>by rw[World.frozen?_setCells]; exact hbox2.free q⟩,ha2.shape (dI _ _ _ _),by rw[cP]; exact hlt2,fun q v hq => ?_,hE.ne⟩
 ·have hq0:q=0:=by have:=(List.getElem?_eq_some_iff.1 hq).1; simpa[aA,At.cells]using this
  subst hq0;have:=World.cell?_setCells_in b3 [aK bl 0 (n+1) C] 0 w2 (fun q hq=>by
   have:q=0:=by simpa using hq
   subst this;rw[Nat.zero_add,hS2]; rfl) 0 (by simp)
  rw[this,←hq];rfl
 ·rw[World.cell?_setCells_out _ _ _ _ _ (fun e _=>absurd e.symm hE.ne)];exact hrow2 q v hq
theorem wV {r:Option Nat} {n:Nat} (S:World→Prop) (L:Nat) {id:Nat} {ops:Array Oper} {K:Act→World→Prop} {Q:Exit→Act→World→Prop} {a:Act} {w:World} (hnd:EO ops=true) (h:dM prog .any ops (gJ K) S L ops.size (Array.replicate ops.size false) a w.drew) (hQ:∀a w,K a w→Q .normal a w) :
  (Code.region id ops true).wpIn (rF r) n prog Q a w:=by
 refine wpIn_region_draw fun t => ?_
 simp only[Region.schedule,aI,Bool.true_or,if_true];have:=xU (r:=r) (n:=n) (Q':=Q) (R:=[]) hnd nP (fun a w hK=>hQ a w hK.2) (fun e a w he hK=>(he hK.1).elim) _ a _ (wpAny_sound ops.size t _ a _ (nF _ _ _ _ h))
 rwa [List.append_nil]at this
def Di (bb:Nat):Value:=.func (.func 187) #[] #[ptV bb 0]
def sE:Code:=(f144.body).getD .skip
theorem Gx:sE=.seq (cA sE) (.seq (cA (cB sE)) .ret):=by kernel_rfl
theorem aAs (p:Option Addr) (n m:Nat):aX prog (qG prog) f144.ntmps (fun _=>tC T0 fun _=>none) 40 (cA sE) (fD 0 [.v (.im (.slice p n m))]) [.slot 1 (.pt 1 0),.row 1 true [.c (.slice p n m)]]=some ([],.nrm,[.slot 1 (.pt 1 0),.row 1 true [.c (.slice p n m)]]):=by kernel_rfl
theorem aAr (bb:Nat) (v:Value):aX prog (qG prog) f144.ntmps (fun _=>tC T0 fun _=>none) 40 (cA (cB sE)) [.at 1 bb,.slot 1 (.pt 1 0),.row 1 true [.c v]] [.slot 2 (.im (Di bb)),.at 1 bb,.row 1 true [.c v]]=some ([],.nrm,[.slot 2 (.im (Di bb)),.at 1 bb,.row 1 true [.c v]]):=by kernel_rfl
theorem XA (w0:World) (p:Option Addr) (n m:Nat):Calls prog 144 #[.slice p n m] w0 fun e w'=>∃bb,e=.returned (Di bb)∧Below w0.heap.size w0 w'∧oldOf w' bb 0 [.c (.slice p n m)]:=by
 have hG:bO prog (qG prog) w0.heap.size w0:=(aW _).w _ _;have hT:∀n d:Nat,TabOkW prog T0 w0.heap.size w0:=fun _ _=>(bU _).w _ _
 refine cH func144 (cs:=[.v (.im (.slice p n m))]) (args:=[.slice p n m]) (c:=sE) rfl ⟨rfl,trivial⟩ (Nat.le_of_ble_eq_true (by kernel_rfl)) fun a w hA => ?_
 rw[Gx];refine wp_seq (aB aI hT hG (aAs p n m) trivial hA fun a w hA => ?_);obtain⟨bb,hA⟩:=hA.at (k:=1) (l:=[.c (.slice p n m)]) (by simp);refine wp_seq (aB aI hT hG (aAr bb _) trivial hA fun a w hA=>wp_ret ?_);have ho:=hA.old (k:=1) (l:=[.c (.slice p n m)]) (b:=bb) (by simp) (by simp);exact cK (l:=[.im (Di bb)]) (r:=.one (.im (Di bb))) (by kernel_rfl) (by kernel_rfl) hA ⟨bb,rfl,hA.below,ho⟩
def TR (f:Nat→Nat) (N i:Nat):Nat:=if i=0 then N else hN (fun j=>f (31*(i-1)+j)) (lT N (i-1))
noncomputable abbrev eF:Func:=f90
def tG:Code:=(f90.body).getD .skip
def Xx:Code:=cA (cB tG)
def TT:Code:=cA (cB (cB tG))
def Kn:Code:=cB (cB (cB tG))
def e3C:Code:=cA (cA Kn)
def Xw:Code:=iR (cB (cA Kn))
def Qs:Code→Code
 | .rangeFunc _ _ a _=>a
 | c=>c
def rfB:Code→Code
 | .rangeFunc _ _ _ b=>b
 | c=>c
def SB:Code:=iR (rfB Xw)
theorem Ve:tG=.seq (cA tG) (.seq (.region 1 (aD Xx) false) (.seq (.region 2 (aD TT) true) (.seq (.seq (.region 3 (aD e3C) false) (.block 0 (.rangeFunc (.tmp 18) #[19] (.region 4 (aD (Qs Xw)) false) (.block 1 (.region 5 (aD SB) true))))) (.seq (.region 6 (aD (cA (cB Kn))) false) .ret)))):=by kernel_rfl
theorem aGN:eF.ntmps=26:=by kernel_rfl
theorem aGI (v:Value):aX prog (qG prog) 26 (fun _=>tC T0 fun _=>none) 40 (cA tG) (fD 0 [.v (.im v)]) [.slot 0 (.im v)]=some ([],.nrm,[.slot 0 (.im v)]):=by kernel_rfl
theorem aGH (p:Option Addr) (N m:Nat):cO prog (qG prog) 26 (tC T0 (assoc [(7,iI (N/31)),(8,iI (2+N/31))])) ((aD Xx).extract 0 4) [.slot 0 (.im (.slice p N m))] [.slot 8 (.im (iI (2+N/31))),.slot 0 (.im (.slice p N m))]=some ([aJ .quo .i64 (Int.ofNat N) 31=some (iI (N/31)),aJ .add .i64 2 (Int.ofNat (N/31))=some (iI (2+N/31))],[.slot 8 (.im (iI (2+N/31))),.slot 0 (.im (.slice p N m))]):=by kernel_rfl
theorem aCq (v:Value) (bl C:Nat):cO prog (qG prog) 26 (tC T0 fun _=>none) ((aD Xx).extract 5 7) [.slot 9 (.im (aK bl 0 0 C)),.slot 0 (.im v)] [.slot 3 (.pt 3 0),.row 3 true [.c (aK bl 0 0 C)],.slot 0 (.im v)]=some ([],[.slot 3 (.pt 3 0),.row 3 true [.c (aK bl 0 0 C)],.slot 0 (.im v)]):=by kernel_rfl
theorem aGG (v:Value) (b3:Nat):cO prog (qG prog) 26 (tC T0 fun _=>none) ((aD e3C).extract 0 1) [.slot 0 (.im v),.slot 3 (.im (ptV b3 0))] [.slot 17 (.im v),.slot 0 (.im v),.slot 3 (.im (ptV b3 0))]=some ([],[.slot 17 (.im v),.slot 0 (.im v),.slot 3 (.im (ptV b3 0))]):=by kernel_rfl
theorem aGF (v:Value) (b3:Nat):aX prog (qG prog) 26 (fun _=>tC T0 fun _=>none) 1 (.region 4 (aD (Qs Xw)) false) [.slot 19 (.im v),.slot 3 (.im (ptV b3 0))] [.slot 4 (.im v),.slot 3 (.im (ptV b3 0))]=some ([],.nrm,[.slot 4 (.im v),.slot 3 (.im (ptV b3 0))]):=by kernel_rfl
theorem aP {nt:Nat} {w:World} {a:Act} {ts:List (Nat×Value)} (hd:a.defers=[]) (hs:a.tmps.size=nt) (ht:∀x∈ts,a.tmps[x.1]?=some x.2):Holds nt w.heap.size w (ts.map fun x=>.slot x.1 (.im x.2)) a w:=by
 refine⟨hd,hs,Below.refl _ _,Nat.le_refl _,fun _=>(w.heap.size,0,0),fun φ hφ => ?_,fun k k' o' l l' h1 => ?_,fun k l h1 => ?_,Nat.le_refl _,fun p h1 h2=>⟨rfl,rfl⟩,Shape.refl _⟩
 ·obtain⟨x,hx,rfl⟩:=List.mem_map.1 hφ;exact ht x hx
 ·obtain⟨x,_,e⟩:=List.mem_map.1 h1; cases e
 ·obtain⟨x,_,e⟩:=List.mem_map.1 h1; cases e
theorem BE {n:Nat} (h:n<18446744073709551616) (w:World):(convert 3 22 (iI n)).run prog w=.ok (.int .u64 (Int.ofNat n)) w:=by
 have h1:prog.underlying 3=some (.int .i64):=by kernel_rfl
 have h2:prog.underlying 22=some (.int .u64):=by kernel_rfl
 have h3:IntKind.u64.wrap (n:Int)=n:=by rw[IntKind.wrap_u64]; omega
 simp[convert,iI,run_underlying h1,run_underlying h2,h3,go_sem]
theorem Hq {C:Nat} (h:C≤8796093022208) (w:World):∃w',(Instr.makeSlice 56 (iI 0) (iI C)).run prog w=.ok (aK w.heap.size 0 0 C) w'∧Below w.heap.size w w'∧AppAt w' w.heap.size 27 4 0 C∧w'.heap.size=w.heap.size+1:=by
 obtain⟨ht,i,z,hi,hz,hsize,hby,hzs,hsz⟩:=jI RT;have hr:=Go.run_make (P:=prog) w 56 27 i z ht hi hz .i64 .i64 0 (C:Int) (by omega) (by omega) (by rw[hby]; omega) (by omega);refine⟨_,hr,(Below.refl _ w).alloc (Nat.le_refl _) _,⟨_,World.alloc_heap_new _ _,Nat.zero_le _,by unfold maxLen; omega,?_⟩,by simp⟩;simp[madeCells,hsize]
theorem gO {K:Act→World→Prop} {c:List PanicEntry} {a a':Act} {w w':World} (h:gJ K (.panic c) a w):gJ K (.panic c) a' w':=by cases h.1
theorem aGK {w:World} {a:Act} {b3 bl n C k gg oo m:Nat} {g ff:Nat→Nat} (hE:ElM w b3 bl n C g) (hC:n+1≤C) (h3:a.tmps[3]?=some (ptV b3 0)) (h4:a.tmps[4]?=some (aK gg oo k m)) (hB:BM w gg oo k ff) (hk1:1≤k) (hk2:k≤31) (hsz:a.tmps.size=26)
  {K:Act→World→Prop} (hK:∀a' w',Only2 b3 bl w w'→ElM w' b3 bl (n+1) C (fun q=>if q<n then g q else hN ff k)→K a' w') :
  dM prog .any (aD SB) (gJ K) (boxS b3 bl n C) 5 (aD SB).size (Array.replicate (aD SB).size false) a w.drew:=by
 have hd:Below w.heap.size w w.drew:=(Below.refl _ w).drew;have hE:=hE.on hd;obtain⟨o0,ho0,hop0,hd0,hg0⟩:∃x,(aD SB)[0]?=some x∧x.op=.load 56 (.tmp 3)∧x.dst=some 20∧x.guard=none:=⟨_,rfl,rfl,rfl,rfl⟩
 refine aE (i:=0) (v:=aK bl 0 n C) ho0 (by kernel_rfl) (by kernel_rfl) (by kernel_rfl) (by kernel_rfl) (fun _ _ _ h=>gO h) hE.boxS (zB hop0 hg0 h3 (by kernel_rfl) fun _ h=>h) ?_;rw[hd0];obtain⟨o1,ho1,hop1,hd1,hg1⟩:∃x,(aD SB)[1]?=some x∧x.op=.move (.tmp 4)∧x.dst=some 21∧x.guard=none:=⟨_,rfl,rfl,rfl,rfl⟩
 refine aE (i:=1) (v:=aK gg oo k m) ho1 (by kernel_rfl) (by kernel_rfl) (by kernel_rfl) (by kernel_rfl) (fun _ _ _ h=>gO h) hE.boxS (MS hop1 hg1 (aS h4 (by decide))) ?_;rw[hd1];obtain⟨o2,ho2,⟨ts2,hop2⟩,hd2,hg2⟩:∃x,(aD SB)[2]?=some x∧(∃ts,x.op=.call ⟨.value (.func 145),#[.tmp 21],ts⟩)∧x.dst=some 22∧x.guard=none:=⟨_,rfl,⟨_,rfl⟩,rfl,rfl⟩
 refine aQ (i:=2) (by kernel_rfl) ho2 fun K2 hK2 => ?_
 rw[if_pos (by simp[Region.wanted,hg2])];have h21:((a.put (some 20) (aK bl 0 n C)).put (some 21) (aK gg oo k m)).tmps[21]?=some (aK gg oo k m):=aT _ _ _ (by rw[aF,hsz]; decide);refine uB hop2 (vs:=[aK gg oo k m]) (by simp[qZ h21]) (fun args=>bQ func145 (by kernel_rfl) (by kernel_rfl) args _) (XU (hB.on hd) hk1 hk2) fun w2 hb2 => ?_
 rw[hd2];have hE2:=hE.on hb2;refine hK2.out _ _ (Or.inr hE2.boxS) fun _ => ?_
 clear hK2;obtain⟨o3,ho3,hop3,hd3,hg3⟩:∃x,(aD SB)[3]?=some x∧x.op=.buildSlice 56 1 #[(0,.tmp 22)]∧x.dst=some 23∧x.guard=none:=⟨_,rfl,rfl,rfl,rfl⟩
 obtain⟨o4,ho4,hop4,hd4,hg4⟩:∃x,(aD SB)[4]?=some x∧x.op=.call ⟨.builtin .append,#[.tmp 20,.tmp 23],#[56,56]⟩∧x.dst=some 24∧x.guard=none:=⟨_,rfl,rfl,rfl,rfl⟩
 obtain⟨o5,ho5,hop5,hd5,hg5⟩:∃x,(aD SB)[5]?=some x∧x.op=.store 56 (.tmp 3) (.tmp 24)∧x.dst=none∧x.guard=none:=⟨_,rfl,rfl,rfl,rfl⟩
 exact PE (by kernel_rfl) (by kernel_rfl) (by kernel_rfl) (by kernel_rfl) ho3 hop3 hd3 hg3 ho4 hop4 hd4 hg4 ho5 hop5 hd5 hg5 hE2 hC
  (aT _ _ _ (by rw[aF,aF,hsz]; decide)) (aS (aS (aT _ _ _ (by rw[hsz]; decide)) (by decide)) (by decide)) (aS (aS (aS h3 (by decide)) (by decide)) (by decide)) (by decide) (by decide) (by decide) (by rw[aF,aF,aF,hsz]; decide) (by rw[aF,aF,aF,hsz]; decide)
  fun a' w' _ _ _ hO hE'=>hK a' w' ((Only2.of_below hd (by exact hE.box.lt) (by exact hE.lt)).trans ((Only2.of_below hb2 hE.box.lt hE.lt).trans hO)) hE'
theorem aGL {w:World} {a:Act} {b3 bl C N m:Nat} {p:Option Addr} {g:Nat→Nat} (hE:ElM w b3 bl 0 C g) (hC:1≤C) (hN:N<18446744073709551616) (h0:a.tmps[0]?=some (.slice p N m)) (h3:a.tmps[3]?=some (ptV b3 0)) (hsz:a.tmps.size=26)
  {K:Act→World→Prop} (hK:∀a' w',a'.defers=a.defers→a'.tmps.size=26→a'.tmps[0]?=some (.slice p N m)→a'.tmps[3]?=some (ptV b3 0)→Only2 b3 bl w w'→ElM w' b3 bl 1 C (fun q=>if q<0 then g q else N)→K a' w') :
  dM prog .any (aD TT) (gJ K) (boxS b3 bl 0 C) 7 (aD TT).size (Array.replicate (aD TT).size false) a w.drew:=by
 have hd:Below w.heap.size w w.drew:=(Below.refl _ w).drew;have hE:=hE.on hd;obtain⟨o0,ho0,hop0,hd0,hg0⟩:∃x,(aD TT)[0]?=some x∧x.op=.load 56 (.tmp 3)∧x.dst=some 10∧x.guard=none:=⟨_,rfl,rfl,rfl,rfl⟩
 refine aE (i:=0) (v:=aK bl 0 0 C) ho0 (by kernel_rfl) (by kernel_rfl) (by kernel_rfl) (by kernel_rfl) (fun _ _ _ h=>gO h) hE.boxS (zB hop0 hg0 h3 (by kernel_rfl) fun _ h=>h) ?_;rw[hd0];obtain⟨o1,ho1,hop1,hd1,hg1⟩:∃x,(aD TT)[1]?=some x∧x.op=.move (.tmp 0)∧x.dst=some 11∧x.guard=none:=⟨_,rfl,rfl,rfl,rfl⟩
 refine aE (i:=1) (v:=.slice p N m) ho1 (by kernel_rfl) (by kernel_rfl) (by kernel_rfl) (by kernel_rfl) (fun _ _ _ h=>gO h) hE.boxS (MS hop1 hg1 (aS h0 (by decide))) ?_;rw[hd1];have hg11:((a.put (some 10) (aK bl 0 0 C)).put (some 11) (.slice p N m)).tmps[11]?=some (.slice p N m):=aT _ _ _ (by rw[aF,hsz]; decide);obtain⟨o2,ho2,hop2,hd2,hg2⟩:∃x,(aD TT)[2]?=some x∧x.op=.call ⟨.builtin .len,#[.tmp 11],#[25]⟩∧x.dst=some 12∧x.guard=none:=⟨_,rfl,rfl,rfl,rfl⟩
 refine aE (i:=2) (v:=iI N) ho2 (by kernel_rfl) (by kernel_rfl) (by kernel_rfl) (by kernel_rfl) (fun _ _ _ h=>gO h) hE.boxS (Pi hop2 hg2 hg11 zF) ?_;rw[hd2];have hg12:(((a.put (some 10) (aK bl 0 0 C)).put (some 11) (.slice p N m)).put (some 12) (iI N)).tmps[12]?=some (iI N):=aT _ _ _ (by rw[aF,aF,hsz]; decide);obtain⟨o3,ho3,hop3,hd3,hg3⟩:∃x,(aD TT)[3]?=some x∧x.op=.convert 3 22 (.tmp 12)∧x.dst=some 13∧x.guard=none:=⟨_,rfl,rfl,rfl,rfl⟩
 refine aE (i:=3) (v:=.int .u64 (Int.ofNat N)) ho3 (by kernel_rfl) (by kernel_rfl) (by kernel_rfl) (by kernel_rfl) (fun _ _ _ h=>gO h) hE.boxS (Ds hop3 hg3 hg12 (BE hN)) ?_;rw[hd3];have hg13:((((a.put (some 10) (aK bl 0 0 C)).put (some 11) (.slice p N m)).put (some 12) (iI N)).put (some 13) (.int .u64 (Int.ofNat N))).tmps[13]?=some (.int .u64 (Int.ofNat N)):=aT _ _ _ (by rw[aF,aF,aF,hsz]; decide);obtain⟨o4,ho4,⟨ts4,hop4⟩,hd4,hg4⟩:∃x,(aD TT)[4]?=some x∧(∃ts,x.op=.call ⟨.value (.func 106),#[.tmp 13],ts⟩)∧x.dst=some 14∧x.guard=none:=⟨_,rfl,⟨_,rfl⟩,rfl,rfl⟩
 refine aQ (i:=4) (by kernel_rfl) ho4 fun K4 hK4 => ?_
 rw[if_pos (by simp[Region.wanted,hg4])];refine uB hop4 (vs:=[.int .u64 (Int.ofNat N)]) (List.cons_eq_cons.2 ⟨qZ hg13,rfl⟩) (fun args=>bQ func106 (by kernel_rfl) (by kernel_rfl) args _) (Qv [.v (.im (.int .u64 (Int.ofNat N)))] _ _ rfl ⟨hN,trivial⟩ [.int .u64 (Int.ofNat N)] w.drew ⟨rfl,trivial⟩) fun w2 hb2 => ?_
 rw[hd4];have hE2:=hE.on hb2;refine hK4.out _ _ (Or.inr hE2.boxS) fun _ => ?_
 clear hK4;obtain⟨o5,ho5,hop5,hd5,hg5⟩:∃x,(aD TT)[5]?=some x∧x.op=.buildSlice 56 1 #[(0,.tmp 14)]∧x.dst=some 15∧x.guard=none:=⟨_,rfl,rfl,rfl,rfl⟩
 obtain⟨o6,ho6,hop6,hd6,hg6⟩:∃x,(aD TT)[6]?=some x∧x.op=.call ⟨.builtin .append,#[.tmp 10,.tmp 15],#[56,56]⟩∧x.dst=some 16∧x.guard=none:=⟨_,rfl,rfl,rfl,rfl⟩
 obtain⟨o7,ho7,hop7,hd7,hg7⟩:∃x,(aD TT)[7]?=some x∧x.op=.store 56 (.tmp 3) (.tmp 16)∧x.dst=none∧x.guard=none:=⟨_,rfl,rfl,rfl,rfl⟩
 exact PE (n:=0) (x:=N) (by kernel_rfl) (by kernel_rfl) (by kernel_rfl) (by kernel_rfl) ho5 hop5 hd5 hg5 ho6 hop6 hd6 hg6 ho7 hop7 hd7 hg7 hE2 hC
  (aT _ _ _ (by simp only[aF,hsz]; decide)) (aS (aS (aS (aS (aT _ _ _ (by rw[hsz]; decide)) (by decide)) (by decide)) (by decide)) (by decide)) (aS (aS (aS (aS (aS h3 (by decide)) (by decide)) (by decide)) (by decide)) (by decide)) (by decide) (by decide) (by decide) (by simp only[aF,hsz]; decide) (by simp only[aF,hsz]; decide)
  fun a' w' e1 e2 e3 hO hE'=>hK a' w' e1 (by rw[e2]; simp only[aF,hsz]) ((e3 0 (by decide) (by decide)).trans (aS (aS (aS (aS (aS h0 (by decide)) (by decide)) (by decide)) (by decide)) (by decide))) ((e3 3 (by decide) (by decide)).trans (aS (aS (aS (aS (aS h3 (by decide)) (by decide)) (by decide)) (by decide)) (by decide))) ((Only2.of_below hd (by exact hE.box.lt) (by exact hE.lt)).trans ((Only2.of_below hb2 hE.box.lt hE.lt).trans hO)) hE'
abbrev eH:Nat:=18446744073709551616
theorem or6 {a b:Nat} (ha:a<eH) (hb:b<eH):a ||| b<eH:=Nat.or_lt_two_pow (n:=64) ha hb
theorem wR {a b:Nat} (ha:a<eH) (hb:b<eH):a ^^^ b<eH:=Nat.xor_lt_two_pow (n:=64) ha hb
theorem Me {a b:Nat} (ha:a<eH):a &&& b<eH:=Nat.lt_of_le_of_lt Nat.and_le_left ha
theorem Ks {a k:Nat} (ha:a<eH):a/2^k<eH:=Nat.lt_of_le_of_lt (Nat.div_le_self _ _) ha
theorem YG (a:Nat):a%eH<eH:=Nat.mod_lt _ (by decide)
def nW (lo hi p:Nat):Nat:=lo/2^p ||| hi*2^(64-p)%eH
theorem lL {lo hi p:Nat} (h:lo<eH):nW lo hi p<eH:=or6 (Ks h) (YG _)
structure St where
 lo:Nat
 hi:Nat
 fr:Nat
 gv:Nat
structure St.ok (s:St):Prop where
 lo:s.lo<eH
 hi:s.hi<eH
 fr:s.fr<eH
 gv:s.gv<eH
def sO (lo hi:Nat):Nat:=(nW lo hi 62 ^^^ nW lo hi 51 ^^^ nW lo hi 38 ^^^ nW lo hi 23 ^^^ nW lo hi 13 ^^^ nW lo hi 0) &&& 65535
def St.grow (s:St):St:=⟨nW s.lo s.hi 16,sO s.lo s.hi,sO s.lo s.hi,s.gv⟩
theorem ZY {lo hi:Nat} (h:lo<eH):sO lo hi<eH:=Me (wR (wR (wR (wR (wR (lL h) (lL h)) (lL h)) (lL h)) (lL h)) (lL h))
theorem St.ok.grow {s:St} (h:s.ok):s.grow.ok:=⟨lL h.lo,ZY h.lo,ZY h.lo,h.gv⟩
abbrev tz (x:Nat):Nat:=Lib.ctz 64 x
def EU (n c i:Nat):Nat:=n/2^(c-1-i)%2
def qN (n c i p:Nat):Nat:=EU n c i*2^(p%64)%eH
def lay1 (n c i p:Nat) (s:St):St:=if p/64=0 then ⟨s.lo ||| qN n c i p,s.hi,s.fr,s.gv⟩else ⟨s.lo,s.hi ||| qN n c i p,s.fr,s.gv⟩
theorem AM (n c i p:Nat):qN n c i p<eH:=YG _
theorem St.ok.lay1 {s:St} (h:s.ok) (n c i p:Nat):(Ex.lay1 n c i p s).ok:=by
 unfold Ex.lay1
 by_cases e:p/64=0
 ·rw[if_pos e]; exact⟨or6 h.lo (AM _ _ _ _),h.hi,h.fr,h.gv⟩
 ·rw[if_neg e]; exact⟨h.lo,or6 h.hi (AM _ _ _ _),h.fr,h.gv⟩
def sJ (n c:Nat):Nat→Nat→Nat→St→St
 | 0,_,_,s=>s
 | m+1,i,p,s=>sJ n c m (i+1) (p+1) (lay1 n c i p s)
theorem fE (n c:Nat):∀(m i p:Nat) {s:St},s.ok→(sJ n c m i p s).ok
 | 0,_,_,_,h=>h
 | m+1,i,p,s,h=>fE n c m (i+1) (p+1) (h.lay1 n c i p)
def Dl:Nat→St→St
 | 0,s=>s
 | n+1,s=>(Dl n s).grow
theorem KJ:∀(n:Nat) {s:St},s.ok→(Dl n s).ok
 | 0,_,h=>h
 | n+1,_,h=>(KJ n h).grow
def St0:St:=⟨0,0,0,0⟩
def bgL (wd fl pt:Nat):St:=sJ 1073741823 30 30 0 50 (sJ pt 10 10 0 40 (sJ fl 10 10 0 30 (sJ wd 12 12 0 18 (sJ 254 12 12 0 6 (sJ 0 4 4 0 2 (sJ 1 2 2 0 0 St0))))))
def GX (wd fl pt:Nat):St:=Dl 10 (bgL wd fl pt)
theorem MM:St0.ok:=⟨by decide,by decide,by decide,by decide⟩
theorem Ci (wd fl pt:Nat):(bgL wd fl pt).ok:=fE _ _ _ _ _ (fE _ _ _ _ _ (fE _ _ _ _ _ (fE _ _ _ _ _ (fE _ _ _ _ _ (fE _ _ _ _ _ (fE _ _ _ _ _ MM))))))
theorem LY (wd fl pt:Nat):(GX wd fl pt).ok:=KJ _ (Ci _ _ _)
def St.J (s:St):St:=⟨s.grow.lo,s.grow.hi,s.grow.fr,s.grow.fr &&& 21845⟩
theorem St.ok.J {s:St} (h:s.ok):s.J.ok:=⟨h.grow.lo,h.grow.hi,h.grow.fr,Me h.grow.fr⟩
def ZL:Nat→St→Option St
 | 0,s=>bif Nat.beq s.gv 0 then none else some s
 | n+1,s=>bif Nat.beq s.gv 0 then ZL n s.J else some s
def Ji:Nat→St→St
 | 0,s=>s
 | n+1,s=>(Ji n s).J
theorem Xf:∀(n:Nat) (s:St),Ji n s.J=Ji (n+1) s
 | 0,s=>rfl
 | n+1,s=>by
  show (Ji n s.J).J=_;rw[Xf n s]; rfl
theorem De:∀(n:Nat) {s:St},s.ok→(Ji n s).ok
 | 0,s,h=>h
 | n+1,s,h=>(De n h).J
theorem qQ:∀(n:Nat) (s t:St),ZL n s=some t→∃k,Ji k s=t∧t.gv≠0∧∀i,i<k→(Ji i s).gv=0
 | 0,s,t,h=>by
  unfold ZL at h;cases hb:Nat.beq s.gv 0<;>rw[hb]at h
  ·cases h;exact⟨0,rfl,(fun e=>by rw[e]at hb; cases hb),fun i hi=>by omega⟩
  ·cases h
 | n+1,s,t,h=>by
  unfold ZL at h;cases hb:Nat.beq s.gv 0<;>rw[hb]at h
  ·cases h;exact⟨0,rfl,(fun e=>by rw[e]at hb; cases hb),fun i hi=>by omega⟩
  ·obtain⟨k,h1,h2,h3⟩:=qQ n s.J t h;refine⟨k+1,by rw[←Xf]; exact h1,h2,fun i hi => ?_⟩;cases i with
   | zero=>exact Nat.eq_of_beq_eq_true hb
   | succ i=>rw[←Xf]; exact h3 i (by omega)
def St.bit (t:St):Nat:=t.fr/2^(tz t.gv+1) &&& 1
def St.next (t:St):St:=⟨t.lo,t.hi,t.fr,t.gv &&& (t.gv-1)⟩
theorem St.ok.next {s:St} (h:s.ok):s.next.ok:=⟨h.lo,h.hi,h.fr,Me h.gv⟩
def Mg (a b:Nat):Nat:=a*2^1%eH ||| b
def wP:Nat→St→Nat→Option (Nat×St)
 | 0,s,a=>some (a,s)
 | n+1,s,a=>match ZL 40 s with|some t=>wP n t.next (Mg a t.bit)|none=>none
theorem Mx {n:Nat} (h:n≠0) (hn:n<eH):tz n<64:=(Lib.lowest_bit 64 n h hn).2
theorem LX {s:St} (h:s.ok):s.bit<eH:=Me (Ks h.fr)
theorem Cu {a:Nat} {s:St} (h:s.ok):Mg a s.bit<eH:=or6 (YG _) (LX h)
theorem KD {n:Nat} {s t:St} (hs:s.ok) (h:ZL n s=some t):t.ok:=by
 obtain⟨k,rfl,_,_⟩:=qQ n s t h;exact De k hs
theorem fP:∀(n:Nat) {s t:St} {a v:Nat},s.ok→a<eH→wP n s a=some (v,t)→t.ok∧v<eH
 | 0,s,t,a,v,hs,ha,h=>by cases h; exact⟨hs,ha⟩
 | n+1,s,t,a,v,hs,ha,h=>by
  unfold wP at h;cases hi:ZL 40 s with
  | none=>rw[hi]at h; cases h
  | some u =>
   rw[hi]at h;have hu:=KD hs hi;exact fP n hu.next (Cu hu) h
def GG (s:St):Option (Nat×St):=match wP 62 s 0 with
 | some (d,s1)=>(match wP 64 s1 0 with
  | some (c,s2)=>(match wP 64 s2 0 with
   | some (b,s3)=>(match wP 64 s3 0 with
    | some (a,s4)=>some (aC a b c d,s4)
    | none=>none)
   | none=>none)
  | none=>none)
 | none=>none
theorem sQ {s t:St} {x:Nat} (h:GG s=some (x,t)):∃a b c d s1 s2 s3,wP 62 s 0=some (d,s1)∧wP 64 s1 0=some (c,s2)∧wP 64 s2 0=some (b,s3)∧wP 64 s3 0=some (a,t)∧x=aC a b c d:=by
 unfold GG at h;split at h
 ·rename_i d s1 h1;split at h
  ·rename_i c s2 h2;split at h
   ·rename_i b s3 h3;split at h
    ·rename_i a s4 h4;cases h;exact⟨a,b,c,d,s1,s2,s3,h1,h2,h3,h4,rfl⟩
    ·cases h
   ·cases h
  ·cases h
 ·cases h
def xG:Nat→St→Option (Nat×St)
 | 0,_=>none
 | n+1,s=>match GG s with
  | some (x,t)=>bif Nat.blt x RM then some (x,t)else xG n t
  | none=>none
def LI:Nat→St→Option (List Nat)
 | 0,_=>some []
 | n+1,s=>match xG 100 s with
  | some (x,t)=>(match LI n t with|some l=>some (x::l)|none=>none)
  | none=>none
def YR (ops:Array Oper):Bool:=nG (fun i (_:Oper)=>Nat.beq (i+1) ops.size||(List.range ops.size).any fun k=>Nat.blt i k&&LG true ops k i) 0 ops.toList
def Ss (ops:Array Oper):Bool:=ops.toList.all fun o=>o.guard.isNone
theorem NX {ops:Array Oper} (h:Ss ops=true) {i:Nat} {o:Oper} (ho:ops[i]?=some o):∀y,Region.wanted o y=true:=by
 have hm:o∈ops.toList:=by
  have:ops.toList[i]?=some o:=by rw[Array.getElem?_toList]; exact ho
  exact List.mem_of_getElem? this
 have h1:o.guard.isNone=true:=List.all_eq_true.1 h o hm;have h2:o.guard=none:=by simpa using h1
 intro y;unfold Region.wanted;rw[h2]
theorem WU {ops:Array Oper} {i:Nat} (h:i+1<ops.size):ops.pop[i]?=ops[i]?:=by
 rw[Array.getElem?_pop,if_pos (by omega)]
theorem OQ {ops:Array Oper} {i j:Nat} (h:i+1<ops.size):LG true ops.pop i j=LG true ops i j:=by
 unfold LG;simp only[cond_true];rw[WU h]
section
variable {E:Env} {ops:Array Oper} {base:Nat} {w0:World} {A A':List Fact} {TF:List (Option Nat×Fact)} {rs:List Rec} {ps:List Prop} {a:Act} {w:World} {Q:Exit→Act→World→Prop}
theorem Cq (hT:∀d,TabOkW E.P (E.T d) base w0) (hq:bO E.P E.q base w0) (hrun:uK E true ops.pop ops.pop.toList 0 (A.map fun φ=>(none,φ)) [] []=some (ps,TF,rs)) (hps:bC ps) (hchk:Dn true ops.pop rs=true) (hlow:Dj true ops=true) (hlast:YR ops=true) (hno:Ss ops=true)
  {ol:Oper} (hol:ops[ops.size-1]?=some ol) (hQ:∀a w,Inv E true ops.pop base w0 TF rs (fun i=>i<ops.pop.size) a w→ol.wp E.P a w (fun a w=>Q .normal a w) Q) :
  ∀(m:Nat) (g:Array Bool) (a:Act) (w:World),g.size=ops.size→fr ops.size g=m→g.getD (ops.size-1) false=false→Inv E true ops.pop base w0 TF rs (fun i=>g.getD i false=true) a w→wpAny E.P .any ops Q m g a w:=by
 have hpos:0<ops.size:=by have:=(Array.getElem?_eq_some_iff.1 hol).1; omega
 have hps2:ops.pop.size=ops.size-1:=Array.size_pop;have hready:∀(g:Array Bool),g.size=ops.size→Region.ready .any ops g=[]→∀i,i<ops.size→g.getD i false=true:=fun g hs hr i=>by
  induction i using Nat.strongRecOn with
  | _ i ih =>
   intro hi;cases hb:g.getD i false with
   | true=>rfl
   | false =>
    exfalso;have:i∈Region.ready .any ops g:=by
     refine mem_ready.2 ⟨?_,ops[i],Array.getElem?_eq_getElem hi,fun e he hbi => ?_⟩
     ·have:i<g.size:=by omega
      simp[Array.getD,this]at hb ⊢;exact hb
     ·unfold Dj at hlow;simp only[cond_true]at hlow;have:=fN hlow i ops[i] (by simp[hi]);rw[List.all_eq_true]at this;have:=this e (by simpa using he);rw[hbi]at this;have hlt:e.on<i:=by simpa using this
      exact ih e.on hlt (by omega)
    rw[hr]at this;cases this
 intro m
 induction m with
 | zero =>
  intro g a w hs hf hl hI;have:=AU hf (ops.size-1) (by omega);rw[hl]at this;cases this
 | succ m ih =>
  intro g a w hs hf hl hI;refine⟨fun hr => ?_,fun i hi => ?_⟩
  ·have:=hready g hs hr (ops.size-1) (by omega);rw[hl]at this;cases this
  obtain⟨h1,o,ho,h2⟩:=mem_ready.1 hi;have hlt:i<ops.size:=(Array.getElem?_eq_some_iff.1 ho).1;have hg:i<g.size:=by omega
  have hgi:g.getD i false=false:=by
   simp[Array.getD,hg]at h1 ⊢;exact h1
  unfold wpOp;rw[ho];simp only;rw[if_pos (NX hno ho _)];refine Or.inl ?_
  by_cases hil:i+1=ops.size
  ·have e:i=ops.size-1:=by omega
   subst e;rw[hol]at ho;cases ho;have hall:∀n j,j+n+1=ops.size→1≤n→g.getD j false=true:=fun n=>by
    induction n using Nat.strongRecOn with
    | _ n ihn =>
     intro j hj hn;have h3:=fN hlast j ops[j] (by simp[show j<ops.size by omega]);rw[Nat.zero_add,Bool.or_eq_true]at h3
     rcases h3 with h3|h3
     ·have:=Nat.eq_of_beq_eq_true h3; omega
     ·obtain⟨k,hk,h4⟩:=List.any_eq_true.1 h3;rw[Bool.and_eq_true]at h4;have hjk:j<k:=by simpa using h4.1
      have hk:k<ops.size:=by simpa using hk
      by_cases ek:k+1=ops.size
      ·obtain⟨o',ho',e,he,hb,rfl⟩:=vY.1 h4.2;rw[show k=ops.size-1 by omega,hol]at ho';cases ho';exact h2 e he hb
      ·have h5:=ihn (ops.size-1-k) (by omega) k (by omega) (by omega);exact hI.closed k j h5 (by rw[OQ (by omega)]; exact h4.2)
   have hfun:(fun i=>g.getD i false=true)=fun i=>i<ops.pop.size:=funext fun i=>propext ⟨fun h=>by
    rw[hps2]
    by_cases hi:i<g.size
    ·have:i≠ops.size-1:=fun e=>by rw[e,hl]at h; cases h
     omega
    ·simp[Array.getD,hi]at h,fun h=>hall (ops.size-1-i) i (by omega) (by omega)⟩
   rw[hfun]at hI;refine Oper.wp_mono (fun a' w' h => ?_) (hQ a w hI);have hnil:Region.ready .any ops (g.setIfInBounds (ops.size-1) true)=[]:=by
    apply List.eq_nil_iff_forall_not_mem.2;intro j hj;obtain⟨q1,o,qo,_⟩:=mem_ready.1 hj;have hjlt:j<ops.size:=(Array.getElem?_eq_some_iff.1 qo).1;have q2:(g.setIfInBounds (ops.size-1) true).getD j false=true:=by
     by_cases ej:j=ops.size-1
     ·exact (kM (by omega)).2 (Or.inl ej)
     ·exact (kM (by omega)).2 (Or.inr (hall (ops.size-1-j) j (by omega) (by omega)))
    have:j<(g.setIfInBounds (ops.size-1) true).size:=by simp; omega
    simp[Array.getD,this]at q1 q2;obtain⟨_,q1⟩:=q1;obtain⟨_,q2⟩:=q2;rw[q1]at q2; cases q2
   cases m with
   | zero=>exact⟨hnil,h⟩
   | succ m=>exact⟨fun _=>h,fun j hj=>by rw[hnil]at hj; cases hj⟩
  ·have hip:i+1<ops.size:=by omega
   have hst:=pQ hT hq hrun hps hchk (Q:=Q) hI (show ops.pop[i]?=some o by rw[WU hip]; exact ho) (by rw[hgi]; simp) (fun j hj=>by
    rw[OQ hip]at hj;obtain⟨o',ho',e,he,hb,rfl⟩:=vY.1 hj;rw[ho]at ho';cases ho';exact h2 e he hb)
   rw[if_pos (NX hno ho _)]at hst;refine Oper.wp_mono (fun a' w' h => ?_) hst;refine ih _ a' w' (by simp[hs]) (by have:=KP hlt hg hgi; omega) ?_ ?_
   ·cases hb:(g.setIfInBounds i true).getD (ops.size-1) false with
    | false=>rfl
    | true =>
     rcases (kM hg).1 hb with q|q
     ·omega
     ·rw[hl]at q; cases q
   ·have:(fun j=>(g.setIfInBounds i true).getD j false=true)=fun j=>j=i∨g.getD j false=true:=funext fun j=>propext (kM hg)
    rwa [this]
end
def Qt (P:Program) (q:EqT) (nt:Nat) (c:Cfg) (ops:Array Oper) (A K:List Fact):Option (List Prop×List Fact) :=
 match wW (Nr P q nt c) true ops.pop A with
 | some (ps,A1)=>match pick A1 K with|some L=>some (ps,L)|none=>none
 | none=>none
theorem IX {P:Program} {q:EqT} {nt base id:Nat} {c:Cfg} {w0:World} {ops:Array Oper} {A K L:List Fact} {ps:List Prop} {Q:Exit→Act→World→Prop} (hm:P.follows .mixedOrders=true) (hT:∀d,TabOkW P (c.T d) base w0) (hq:bO P q base w0) (h:Qt P q nt c ops A K=some (ps,L)) (hps:bC ps)
  (hk:(Dj true ops&&(YR ops&&Ss ops))=true) {ol:Oper} (hol:ops[ops.size-1]?=some ol) {a:Act} {w:World} (hA:Holds nt base w0 A a w)
  (hQ:∀a w,Holds nt base w0 L a w→ol.wp P a w (fun a w=>Q .normal a w) Q):(Code.region id ops true).wp P Q a w:=by
 rw[Bool.and_eq_true,Bool.and_eq_true]at hk;unfold Qt at h;split at h
 ·rename_i ps' A1 h1;split at h
  ·rename_i L' h2;cases h;unfold wW at h1;split at h1
   ·rename_i ps' TF rs hrun;cases hc:(Dn true ops.pop rs&&Dj true ops.pop)<;>rw[hc]at h1
    ·cases h1
    ·cases h1;rw[Bool.and_eq_true]at hc;refine wp_region_any hm ?_;have hsz:∀n,fr n (Array.replicate ops.size false)=n:=fun n=>by
      induction n with
      | zero=>rfl
      | succ n ih=>unfold fr; rw[ih]; by_cases hn:n<ops.size<;>simp[Array.getD,hn]
     refine Cq (E:=Nr P q nt c) hT hq hrun hps hc.1 hk.1 hk.2.1 hk.2.2 hol (fun a w hI=>hQ a w ((nZ hrun (fun _ h=>h) hI).sub (gI h2))) ops.size _ a _ (by simp) (hsz _) ?_ ?_
     ·have:=(Array.getElem?_eq_some_iff.1 hol).1;simp[Array.getD,this]
     ·have:(fun i=>(Array.replicate ops.size false).getD i false=true)=fun _:Nat=>False:=funext fun i=>propext (by by_cases hi:i<ops.size<;>simp[Array.getD,hi])
      rw[this];exact iT hrun hA.drew
   ·cases h1
  ·cases h
 ·cases h
theorem zO {w:World} {b o:Nat} {vs:List Value} (hf:∀j,w.frozen? ⟨b,j,none⟩=false):WrC w (w.setCells b o vs) b :=
 ⟨fH (Nat.le_refl _) _ _ _ _ (Below.refl _ _),fun p _ hne=>⟨World.cell?_setCells_out _ _ _ _ _ (fun q _=>absurd q hne),World.frozen?_setCells _ _ _ _ _⟩,dI _ _ _ _,fun j=>by rw[World.frozen?_setCells]; exact hf j⟩
theorem Own.there {w:World} {b:Nat} {l:List At} (h:Own w b l) {o n:Nat} (hn:o+n≤dJ l):w.there b o n:=fun j hj=>by
 refine⟨?_,h.free _⟩;have hlt:o+j<(aA l).length:=by rw[aN]; omega
 have:=h.row (o+j) ((aA l)[o+j]'hlt) (List.getElem?_eq_getElem _);rw[Nat.zero_add]at this;rw[this]; rfl
theorem Own.set {w:World} {b o:Nat} {l l' p:List At} (h:Own w b l) (hp:put l o p=some l'):Own (w.setCells b o (aA p)) b l'∧WrC w (w.setCells b o (aA p)) b:=by
 obtain⟨q,m,s,e1,e2,e3,e4⟩:=uP hp;have hl:dJ l=o+(dJ p+dJ s):=by rw[e1,lK,lK,e3,e4]
 have hth:∀j,j<(aA p).length→(w.cell? ⟨b,o+j,none⟩).isSome=true:=fun j hj=>by
  rw[aN]at hj;exact ((h.there (o:=o) (n:=dJ p) (by omega)) j hj).1
 refine⟨⟨by rw[cP]; exact h.lt,fun j v hj => ?_,fun j=>by rw[World.frozen?_setCells]; exact h.free j⟩,zO h.free⟩;rw[Nat.zero_add];rw[e2]at hj;have hf:aA l=aA q++(aA m++aA s):=by rw[e1,aM,aM]
 have hqo:(aA q).length=o:=by rw[aN,e3]
 have hmp:(aA m).length=(aA p).length:=by rw[aN,aN,e4]
 by_cases h1:j<o
 ·rw[World.cell?_setCells_out _ _ _ _ _ (fun _ _=>Or.inl (show j<o from h1))];have:=h.row j v (by rw[hf]; rw[List.getElem?_append_left (by omega)]at hj ⊢; exact hj)
  rwa [Nat.zero_add]at this
 ·rw[List.getElem?_append_right (by omega),hqo]at hj
  by_cases h2:j-o<(aA p).length
  ·rw[List.getElem?_append_left h2]at hj;have:=World.cell?_setCells_in b (aA p) o w hth (j-o) h2;rw[show o+(j-o)=j by omega]at this;rw[this,←hj,List.getElem?_eq_getElem h2]
  ·rw[World.cell?_setCells_out _ _ _ _ _ (fun _ _=>Or.inr (show o+(aA p).length≤j by omega))];have:=h.row j v (by rw[hf,List.getElem?_append_right (by omega),hqo,List.getElem?_append_right (by omega),hmp]; rw[List.getElem?_append_right (by omega)]at hj; exact hj)
   rwa [Nat.zero_add]at this
theorem eV {P:Program} {op:Oper} {a:Act} {w:World} {K:Act→World→Prop} {Q:Exit→Act→World→Prop} {t b o:Nat} {x y:Operand} {v:Value} {vs:List Value} (hop:op.op=.store t x y) (hd:op.dst=none) (hx:a.eval x=ptV b o) (hy:a.eval y=v) (hv:v.cells=vs.toArray) (h1:vs.all (·.oneCell')=true)
  (hi:(P.info? t).map (·.size)=some vs.length) (hth:w.there b o vs.length) (hK:K a (w.setCells b o vs)):op.wp P a w K Q:=by
 have hst:=run_storeVar_mid (P:=P) w b o t vs.toArray (by simpa using hth) (by simpa using hi) (by simpa using h1);have hrun:(execOp a.eval op).run P w=.ok .skip (w.setCells b o vs):=by
  have e:(storeVar t ⟨b,o,none⟩ v).run P w=.ok () (w.setCells b o vs):=by
   unfold storeVar at hst ⊢;rw[hv];exact hst
  simp[execOp,hop,Instr.storeAt,hx,hy,ptV,Instr.sureAddr,e]
 unfold Oper.wp;rw[hrun];show K _ _;rw[hd];exact hK
def gK (op:BinOp) (t:Nat) (x y:Operand) (v u r:Value):Prop:=∀w:World,(do eqGuard op t x y v u; binOp op t v u:Sem Value).run prog w=.ok r w
def u6 (n:Nat):Value:=.int .u64 (Int.ofNat n)
theorem zS (t:Nat) (x y:Operand) {a b:Nat} (ha:a<eH) (hb:b<eH):gK .and t x y (u6 a) (u6 b) (u6 (a &&& b)):=fun w=>by
 have h:=bits_and_u64_nat a b ha hb;simp[eqGuard,binOp,go_sem,u6];exact h
theorem VX (t:Nat) (x y:Operand) {a b:Nat} (ha:a<eH) (hb:b<eH):gK .or t x y (u6 a) (u6 b) (u6 (a ||| b)):=fun w=>by
 have h:=bits_or_u64_nat a b ha hb;simp[eqGuard,binOp,go_sem,u6];exact h
theorem uJ (t:Nat) (x y:Operand) {a b:Nat} (ha:a<eH) (hb:b<eH):gK .xor t x y (u6 a) (u6 b) (u6 (a ^^^ b)):=fun w=>by
 have h:=bits_xor_u64_nat a b ha hb;simp[eqGuard,binOp,go_sem,u6];exact h
theorem VV (t:Nat) (x y:Operand) (a:Nat) {k:Nat} (hk:k≤64):gK .shr t x y (u6 a) (iI k) (u6 (a/2^k)):=fun w=>by
 simp[eqGuard,binOp,go_sem,u6,iI,Nat.min_eq_left hk]
theorem VW (t:Nat) (x y:Operand) (a:Nat) {k:Nat} (hk:k≤64):gK .shl t x y (u6 a) (iI k) (u6 (a*2^k%eH)):=fun w=>by
 simp[eqGuard,binOp,go_sem,u6,iI,IntKind.wrap,IntKind.signed,IntKind.bits,Nat.min_eq_left hk]
theorem Fe (t:Nat) (x y:Operand) (a:Nat) {k:Nat} (hk:k≤64):gK .shl t x y (u6 a) (u6 k) (u6 (a*2^k%eH)):=fun w=>by
 simp[eqGuard,binOp,go_sem,u6,IntKind.wrap,IntKind.signed,IntKind.bits,Nat.min_eq_left hk]
theorem He {p:Nat} (h:p≤64):aJ .sub .i64 64 (Int.ofNat p)=some (iI (64-p)):=mL (i:=64) h (by decide)
theorem Fm (w:World) (b1 b2 lo hi p:Nat):cR prog { qG prog with x:=xO w (fun _=>none) (fun _=>none) (assoc [(5,u6 lo),(7,u6 (lo/2^p)),(8,u6 hi),(11,u6 (hi*2^(64-p)%eH)),(12,u6 (nW lo hi p))]) } (fun _=>tC T0 (assoc [(10,iI (64-p))])) f222 60 [.v (.im (iI p)),.v (.im (ptV b1 0)),.v (.im (ptV b2 0))]=some ([oldOf w b1 0 [.c (u6 lo)],gK .shr 22 (.tmp 5) (.tmp 6) (u6 lo) (iI p) (u6 (lo/2^p)),oldOf w b2 0 [.c (u6 hi)],aJ .sub .i64 64 (Int.ofNat p)=some (iI (64-p)),gK .shl 22 (.tmp 8) (.tmp 10) (u6 hi) (iI (64-p)) (u6 (hi*2^(64-p)%eH)),gK .or 22 (.tmp 7) (.tmp 11) (u6 (lo/2^p)) (u6 (hi*2^(64-p)%eH)) (u6 (nW lo hi p))],.one (.im (u6 (nW lo hi p)))):=by kernel_rfl
theorem RJ {w:World} {b1 b2 lo hi p:Nat} (hp:p≤64) (hl:lo<eH) (h1:oldOf w b1 0 [.c (u6 lo)]) (h2:oldOf w b2 0 [.c (u6 hi)]):bM prog 222 (.one (.im (u6 (nW lo hi p)))) [iI p,ptV b1 0,ptV b2 0] w :=
 cG aI (fun _ _=>(bU _).w _ _) (dN w _ _ _) func222 (Fm w b1 b2 lo hi p) ⟨h1,VV _ _ _ _ hp,h2,He hp,VW _ _ _ _ (by omega),VX _ _ _ (Ks hl) (YG _),trivial⟩ (args:=[iI p,ptV b1 0,ptV b2 0]) ⟨rfl,rfl,rfl,trivial⟩
def gFr (b1 b2 lo hi:Nat):gL
 | [.v (.im (.int .i64 (.ofNat p))),.v (.im u1),.v (.im u2)]=>some ([p≤64,u1=ptV b1 0,u2=ptV b2 0],.one (.im (u6 (nW lo hi p))))
 | _=>none
theorem Ty {w:World} {b1 b2 lo hi:Nat} (hl:lo<eH) (h1:oldOf w b1 0 [.c (u6 lo)]) (h2:oldOf w b2 0 [.c (u6 hi)]):∀cs pre r,gFr b1 b2 lo hi cs=some (pre,r)→bC pre→∀(args:List Value),cT w cs args→bM prog 222 r args w:=by
 intro cs pre r hg hp args ha;unfold gFr at hg;split at hg
 ·rename_i p u1 u2;cases hg;obtain⟨hp,rfl,rfl,_⟩:=hp
  match args,ha with
  | [x,y,z],ha =>
   have e1:x=_:=ha.1;have e2:y=_:=ha.2.1;have e3:z=_:=ha.2.2.1;subst e1; subst e2; subst e3;exact RJ hp hl h1 h2
  | [],ha=>exact ha.elim
  | [_],ha=>exact ha.2.elim
  | [_,_],ha=>exact ha.2.2.elim
  | _::_::_::_::_,ha=>exact ha.2.2.2.elim
 ·cases hg
def St.row (s:St):List At:=[.c (u6 s.lo),.c (u6 s.hi),.c (u6 s.fr),.c (u6 s.gv)]
theorem Own.on {w w':World} {b:Nat} {l:List At} (h:Own w b l) (hb:Below w.heap.size w w'):Own w' b l :=
 ⟨Nat.lt_of_lt_of_le h.lt hb.size,fun j v hj=>(hb.cell (p:=⟨b,0+j,none⟩) h.lt).trans (h.row j v hj),fun j=>(hb.frozen (p:=⟨b,j,none⟩) h.lt).trans (h.free j)⟩
theorem Own.old {w:World} {b o:Nat} {l s:List At} (h:Own w b l) (hs:xN l o (dJ s)=some s):oldOf w b o s:=by
 have:=eE h.row hs;rw[Nat.zero_add]at this;exact⟨h.lt,this⟩
theorem WrC.of_below {w w':World} {b:Nat} {l:List At} (h:Own w b l) (hb:Below w.heap.size w w') (hs:Shape w w'):WrC w w' b :=
 ⟨⟨hb.os,hb.tape,hb.output,hb.size,fun k hk=>hb.block k (Nat.lt_trans hk h.lt)⟩,fun p hp _=>⟨hb.cell hp,hb.frozen hp⟩,hs,(h.on hb).free⟩
theorem Holds.shape {nt base:Nat} {w0:World} {A:List Fact} {a:Act} {w:World} (h:Holds nt base w0 A a w):Shape w0 w:=by
 obtain⟨_,_,_,_,gt⟩:=h.facts;exact gt.shape
theorem oldOf.on {w w':World} {b o:Nat} {l:List At} (h:oldOf w b o l) (hb:Below w.heap.size w w'):oldOf w' b o l :=
 ⟨Nat.lt_of_lt_of_le h.1 hb.size,bG hb h.1 h.2⟩
theorem oldOf.wr {w w':World} {b c o:Nat} {l:List At} (h:oldOf w b o l) (hb:WrC w w' c) (hne:b≠c):oldOf w' b o l :=
 ⟨Nat.lt_of_lt_of_le h.1 hb.below.size,fun j v hj=>((hb.mem ⟨b,o+j,none⟩ h.1 hne).1).trans (h.2 j v hj)⟩
theorem cL {a:Act} {s:Nat} {v:Value} (h:a.tmps[s]?=some v):a.eval (.tmp s)=v:=by simp[Act.eval,h]
noncomputable abbrev grF:Func:=f220
def mR:Code:=(f220.body).getD .skip
def gr2:Code:=cA (cB (cB mR))
def gr3:Code:=cB (cB (cB mR))
theorem Jd:mR=.seq (cA mR) (.seq (cA (cB mR)) (.seq (.region 2 (aD gr2) false) (.region 3 (aD gr3) true))):=by kernel_rfl
theorem aBS:grF.ntmps=47:=by kernel_rfl
def Od (b1 b2:Nat):Value:=.func (.func 222) #[] #[ptV b1 0,ptV b2 0]
theorem aBR (w:World) (sb lo hi:Nat):aX prog { qG prog with x:=xO w (assoc [(8,0),(13,1)]) (fun _=>none) (assoc [(9,u6 lo),(14,u6 hi)]) } 47 (fun _=>tC T0 fun _=>none) 60 (cA mR) (fD 0 [.v (.im (ptV sb 0))]) [.slot 0 (.im (ptV sb 0)),.slot 2 (.pt 2 0),.row 2 true [.c (u6 lo)],.slot 3 (.pt 3 0),.row 3 true [.c (u6 hi)]]=some ([(0:Int)=Int.ofNat 0,0<2,oldOf w sb 0 [.c (u6 lo)],(1:Int)=Int.ofNat 1,1<2,oldOf w sb 1 [.c (u6 hi)]],.nrm,[.slot 0 (.im (ptV sb 0)),.slot 2 (.pt 2 0),.row 2 true [.c (u6 lo)],.slot 3 (.pt 3 0),.row 3 true [.c (u6 hi)]]):=by kernel_rfl
theorem aBQ (sb b1 b2 lo hi:Nat):aX prog (qG prog) 47 (fun _=>tC T0 fun _=>none) 60 (cA (cB mR)) [.at 3 b2,.at 2 b1,.slot 0 (.im (ptV sb 0)),.slot 2 (.pt 2 0),.row 2 true [.c (u6 lo)],.slot 3 (.pt 3 0),.row 3 true [.c (u6 hi)]] [.slot 0 (.im (ptV sb 0)),.slot 4 (.im (Od b1 b2)),.row 2 true [.c (u6 lo)],.row 3 true [.c (u6 hi)],.at 2 b1,.at 3 b2]=some ([],.nrm,[.slot 0 (.im (ptV sb 0)),.slot 4 (.im (Od b1 b2)),.row 2 true [.c (u6 lo)],.row 3 true [.c (u6 hi)],.at 2 b1,.at 3 b2]):=by kernel_rfl
def gx1 (lo hi:Nat):Nat:=nW lo hi 62 ^^^ nW lo hi 51
def gx2 (lo hi:Nat):Nat:=gx1 lo hi ^^^ nW lo hi 38
def gx3 (lo hi:Nat):Nat:=gx2 lo hi ^^^ nW lo hi 23
def gx4 (lo hi:Nat):Nat:=gx3 lo hi ^^^ nW lo hi 13
def gx5 (lo hi:Nat):Nat:=gx4 lo hi ^^^ nW lo hi 0
def Wz (b1 b2 lo hi:Nat):Tab:=T0.add 222 (gFr b1 b2 lo hi)
theorem aBP (w:World) (sb b1 b2 lo hi:Nat):cO prog { qG prog with x:=xO w (fun _=>none) (fun _=>none) (assoc [(21,u6 (gx1 lo hi)),(24,u6 (gx2 lo hi)),(27,u6 (gx3 lo hi)),(30,u6 (gx4 lo hi)),(33,u6 (gx5 lo hi)),(34,u6 (sO lo hi))]) } 47 (tC (Wz b1 b2 lo hi) fun _=>none) ((aD gr2).extract 0 21) [.slot 0 (.im (ptV sb 0)),.slot 4 (.im (Od b1 b2))] [.slot 34 (.im (u6 (sO lo hi))),.slot 36 (.im (ptV sb 2)),.slot 0 (.im (ptV sb 0)),.slot 4 (.im (Od b1 b2))]
 = some ([62≤64,ptV b1 0=ptV b1 0,ptV b2 0=ptV b2 0,51≤64,ptV b1 0=ptV b1 0,ptV b2 0=ptV b2 0,gK .xor 22 (.tmp 18) (.tmp 20) (u6 (nW lo hi 62)) (u6 (nW lo hi 51)) (u6 (gx1 lo hi)),38≤64,ptV b1 0=ptV b1 0,ptV b2 0=ptV b2 0,gK .xor 22 (.tmp 21) (.tmp 23) (u6 (gx1 lo hi)) (u6 (nW lo hi 38)) (u6 (gx2 lo hi)),23≤64,ptV b1 0=ptV b1 0,ptV b2 0=ptV b2 0,gK .xor 22 (.tmp 24) (.tmp 26) (u6 (gx2 lo hi)) (u6 (nW lo hi 23)) (u6 (gx3 lo hi)),
  13≤64,ptV b1 0=ptV b1 0,ptV b2 0=ptV b2 0,gK .xor 22 (.tmp 27) (.tmp 29) (u6 (gx3 lo hi)) (u6 (nW lo hi 13)) (u6 (gx4 lo hi)),0≤64,ptV b1 0=ptV b1 0,ptV b2 0=ptV b2 0,gK .xor 22 (.tmp 30) (.tmp 32) (u6 (gx4 lo hi)) (u6 (nW lo hi 0)) (u6 (gx5 lo hi)),gK .and 22 (.tmp 33) (.const (u6 65535)) (u6 (gx5 lo hi)) (u6 65535) (u6 (sO lo hi))],[.slot 34 (.im (u6 (sO lo hi))),.slot 36 (.im (ptV sb 2)),.slot 0 (.im (ptV sb 0)),.slot 4 (.im (Od b1 b2))]):=by kernel_rfl
theorem aBO (w:World) (sb b1 b2 lo hi:Nat):Qt prog { qG prog with x:=xO w (fun _=>none) (fun _=>none) (assoc [(43,u6 (sO lo hi))]) } 47 (tC (Wz b1 b2 lo hi) fun _=>none) (aD gr3) [.slot 0 (.im (ptV sb 0)),.slot 4 (.im (Od b1 b2))] [.slot 46 (.im (ptV sb 0)),.slot 44 (.fl [.c (u6 (nW lo hi 16)),.c (u6 (sO lo hi))])]
 = some ([16≤64,ptV b1 0=ptV b1 0,ptV b2 0=ptV b2 0,oldOf w sb 2 [.c (u6 (sO lo hi))]],[.slot 46 (.im (ptV sb 0)),.slot 44 (.fl [.c (u6 (nW lo hi 16)),.c (u6 (sO lo hi))])]):=by kernel_rfl
theorem Cx {w w':World} {b1 b2 lo hi:Nat} (hl:lo<eH) (h1:oldOf w b1 0 [.c (u6 lo)]) (h2:oldOf w b2 0 [.c (u6 hi)]):TabOkW prog (Wz b1 b2 lo hi) w.heap.size w :=
 TabOkW.add ((bU _).w _ _) func222 (by kernel_rfl) (by kernel_rfl) (fun w' hw=>Ty hl (h1.on hw) (h2.on hw))
theorem Qh:(prog.info? 22).map (·.size)=some 1:=by kernel_rfl
theorem Zj:(prog.info? 262).map (·.size)=some 2:=by kernel_rfl
theorem ZU {s:St} (hs:s.ok):Pa prog 220 s.row 0 [] (.many []) s.grow.row:=by
 intro w0 sb hO;obtain⟨lo,hi,fr,gv⟩:=s;obtain⟨h1,h2,h3,h4⟩:=hs;simp only at h1 h2 h3 h4;have hT:∀base w,∀n d:Nat,TabOkW prog T0 base w:=fun _ _ _ _=>(bU _).w _ _
 have hG:∀base w,bO prog (qG prog) base w:=fun _ _=>(aW _).w _ _
 have hnt:f220.ntmps=47:=aBS;refine cH func220 (cs:=[.v (.im (ptV sb 0))]) (args:=[ptV sb 0]) (c:=mR) rfl ⟨rfl,trivial⟩ (Nat.le_of_ble_eq_true (by kernel_rfl)) fun a w hA => ?_
 rw[hnt]at hA;rw[Jd];have o1:oldOf w0 sb 0 [At.c (u6 lo)]:=hO.old rfl;have o2:oldOf w0 sb 1 [At.c (u6 hi)]:=hO.old rfl;refine wp_seq (aB aI (hT _ _) (dN w0 _ _ _) (aBR w0 sb lo hi) ⟨rfl,by decide,o1,rfl,by decide,o2,trivial⟩ hA fun a w hA => ?_);obtain⟨b1,hA⟩:=hA.at (k:=2) (l:=[.c (u6 lo)]) (by simp);obtain⟨b2,hA⟩:=hA.at (k:=3) (l:=[.c (u6 hi)]) (by simp);refine wp_seq (aB aI (hT _ _) (hG _ _) (aBQ sb b1 b2 lo hi) trivial hA fun a w1 hA => ?_);have q1:oldOf w1 b1 0 [.c (u6 lo)]:=hA.old (k:=2) (by simp) (by simp);have q2:oldOf w1 b2 0 [.c (u6 hi)]:=hA.old (k:=3) (by simp) (by simp);have hge:w0.heap.size≤b1∧w0.heap.size≤b2:=by
  obtain⟨β,g1,_⟩:=hA.facts;obtain⟨_,_,r1,_⟩:=g1 (.row 2 true [.c (u6 lo)]) (by simp);obtain⟨_,_,r2,_⟩:=g1 (.row 3 true [.c (u6 hi)]) (by simp);have e1:=g1 (.at 2 b1) (by simp);have e2:=g1 (.at 3 b2) (by simp);simp only[Fact.ok]at e1 e2;exact⟨e1.1▸(r1 rfl).1,e2.1▸(r2 rfl).1⟩
 have n1:b1≠sb:=fun e=>by have:=hO.lt; omega
 have n2:b2≠sb:=fun e=>by have:=hO.lt; omega
 have hO1:=hO.on hA.below;have hW1:WrC w0 w1 sb:=WrC.of_below hO hA.below hA.shape;have hS:=aP (nt:=47) (w:=w1) (a:=a) (ts:=[(0,ptV sb 0),(4,Od b1 b2)]) hA.defers hA.size (fun x hx=>by
  simp only[List.mem_cons,List.not_mem_nil,or_false]at hx
  rcases hx with rfl|rfl
  ·exact hA.slot (by simp)
  ·exact hA.slot (by simp))
 clear hA;have T1:∀d:Nat,TabOkW prog (Wz b1 b2 lo hi) w1.heap.size w1:=fun _=>Cx (w':=w1) h1 q1 q2
 have y62:=lL (hi:=hi) (p:=62) h1;have yx:∀p,nW lo hi p<eH:=fun p=>lL h1
 have z1:gx1 lo hi<eH:=wR (yx _) (yx _);have z2:gx2 lo hi<eH:=wR z1 (yx _);have z3:gx3 lo hi<eH:=wR z2 (yx _);have z4:gx4 lo hi<eH:=wR z3 (yx _);have z5:gx5 lo hi<eH:=wR z4 (yx _);refine wp_seq (bI (l:=List.range' 0 ((aD gr2).extract 0 21).size++(21::[])) (by kernel_rfl) ?_);refine aG (c:=tC (Wz b1 b2 lo hi) _) T1 (dN w1 _ _ _) (aBP w1 sb b1 b2 lo hi) ⟨by decide,rfl,rfl,by decide,rfl,rfl,uJ _ _ _ (yx _) (yx _),by decide,rfl,rfl,uJ _ _ _ z1 (yx _),by decide,rfl,rfl,uJ _ _ _ z2 (yx _),by decide,rfl,rfl,uJ _ _ _ z3 (yx _),by decide,rfl,rfl,uJ _ _ _ z4 (yx _),zS _ _ _ z5 (by decide),trivial⟩ (by kernel_rfl) hS fun a w2 h2' => ?_
 obtain⟨o21,ho21,hop21,hd21,hg21⟩:∃x,(aD gr2)[21]?=some x∧x.op=.store 22 (.tmp 36) (.tmp 34)∧x.dst=none∧x.guard=none:=⟨_,rfl,rfl,rfl,rfl⟩
 have hO2:=hO1.on h2'.below;have hp2:put (St.row ⟨lo,hi,fr,gv⟩) 2 [At.c (u6 (sO lo hi))]=some (St.row ⟨lo,hi,sO lo hi,gv⟩):=rfl;obtain⟨hO3,hW3⟩:=hO2.set hp2;refine aZ ho21 hg21 (eV (v:=u6 (sO lo hi)) (vs:=aA [At.c (u6 (sO lo hi))]) hop21 hd21 (h2'.imV (s:=36) (v:=ptV sb 2) (by simp)) (h2'.imV (s:=34) (by simp)) rfl rfl Qh (hO2.there (o:=2) (n:=1) (Nat.le_of_ble_eq_true rfl)) ?_);have hW13:WrC w1 (w2.setCells sb 2 (aA [At.c (u6 (sO lo hi))])) sb:=(WrC.of_below hO1 h2'.below h2'.shape).trans hW3;have hS3:=aP (nt:=47) (w:=w2.setCells sb 2 (aA [At.c (u6 (sO lo hi))])) (a:=a) (ts:=[(0,ptV sb 0),(4,Od b1 b2)]) h2'.defers h2'.size (fun x hx=>by
  simp only[List.mem_cons,List.not_mem_nil,or_false]at hx
  rcases hx with rfl|rfl
  ·exact h2'.slot (by simp)
  ·exact h2'.slot (by simp))
 clear h2';generalize w2.setCells sb 2 (aA [At.c (u6 (sO lo hi))])=w3 at *;have r1:=q1.wr hW13 n1;have r2:=q2.wr hW13 n2;have T3:∀d:Nat,TabOkW prog (Wz b1 b2 lo hi) w3.heap.size w3:=fun _=>Cx (w':=w3) h1 r1 r2
 have o3:oldOf w3 sb 2 [At.c (u6 (sO lo hi))]:=hO3.old rfl;show (Code.region 3 (aD gr3) true).wp _ _ _ _;obtain⟨ol,hol,hopl,hdl⟩:∃x,(aD gr3)[(aD gr3).size-1]?=some x∧x.op=.store 262 (.tmp 46) (.tmp 44)∧x.dst=none:=⟨_,rfl,rfl,rfl⟩
 refine IX (c:=tC (Wz b1 b2 lo hi) _) aI T3 (dN w3 _ _ _) (aBO w3 sb b1 b2 lo hi) ⟨by decide,rfl,rfl,o3,trivial⟩ (by kernel_rfl) hol hS3 fun a w4 h4' => ?_
 have hO4:=hO3.on h4'.below;have hp4:put (St.row ⟨lo,hi,sO lo hi,gv⟩) 0 [At.c (u6 (nW lo hi 16)),At.c (u6 (sO lo hi))]=some (St.row ⟨nW lo hi 16,sO lo hi,sO lo hi,gv⟩):=rfl;obtain⟨hO5,hW5⟩:=hO4.set hp4;refine eV (v:=.agg (aA [At.c (u6 (nW lo hi 16)),At.c (u6 (sO lo hi))]).toArray) (vs:=aA [At.c (u6 (nW lo hi 16)),At.c (u6 (sO lo hi))]) hopl hdl (h4'.imV (s:=46) (v:=ptV sb 0) (by simp)) (cL (h4'.slotF (s:=44) (by simp))) rfl rfl Zj (hO4.there (o:=0) (n:=2) (Nat.le_of_ble_eq_true rfl)) ?_;have hW:WrC w0 (w4.setCells sb 0 (aA [At.c (u6 (nW lo hi 16)),At.c (u6 (sO lo hi))])) sb:=hW1.trans (hW13.trans ((WrC.of_below hO3 h4'.below h4'.shape).trans hW5));exact⟨h4'.defers,.tuple #[],by simp[results,show f220.results = #[] by kernel_rfl],rfl,hW,hO5.row⟩
def TK:Tab:=(((T0.add 195 (Dm gR)).add 189 (Dm bN)).add 81 Ju).add 106 Jk
theorem EI:TabOk prog TK:=((((bU _).add func195 (by kernel_rfl) (by kernel_rfl) Ni).add func189 (by kernel_rfl) (by kernel_rfl) Nh).add func81 (by kernel_rfl) (by kernel_rfl) NF).add func106 (by kernel_rfl) (by kernel_rfl) Qv
theorem PU (x y:Nat):mA prog TK (qG prog) (fun _=>true) f164 40 [.v (.fl [.q x]),.v (.fl [.q y])]=some ([x<RM,y<RM],.one (.fl [.q (gR x y)])):=by kernel_rfl
theorem IR (x y:Nat):mA prog TK (qG prog) (fun _=>true) f198 40 [.v (.fl [.q x]),.v (.fl [.q y])]=some ([x<RM,y<RM],.one (.fl [.q (bN x y)])):=by kernel_rfl
def Xc:Tab:=(TK.add 164 (Ob gR Om)).add 198 (Ob bN Om)
theorem Nm:TabOk prog Xc:=(EI.add func164 (by kernel_rfl) (by kernel_rfl) (sN fun x y h args w ha=>cJ aI EI (aW _) func164 (PU x y) h ha)).add
 func198 (by kernel_rfl) (by kernel_rfl) (sN fun x y h args w ha=>cJ aI EI (aW _) func198 (IR x y) h ha)
theorem Fo (x:Nat):mA prog Xc (qG prog) (fun _=>true) f166 40 [.v (.fl [.q x])]=some ([x<RM,x<RM,bN x x<RM,bN x x<RM,bN (bN x x) (bN x x)<RM,x<RM],.one (.fl [.q (Jz x)])):=by kernel_rfl
def TJ:Tab:=Xc.add 166 (Ub Jz fun x=>[x<RM])
theorem EG:TabOk prog TJ:=Nm.add func166 (by kernel_rfl) (by kernel_rfl) (vM fun x h args w ha=>cJ aI Nm (aW _) func166 (Fo x) ⟨h.1,h.1,aO _ _,aO _ _,aO _ _,h.1,trivial⟩ ha)
def iC:Code:=(f118.body).getD .skip
def rK:Code:=iR (iR (cB (cA (cB iC))))
theorem Ck:iC=.seq (cA iC) (.seq (.seq (cA (cA (cB iC))) (.block 0 (.loop rK))) (cB (cB iC))):=by kernel_rfl
def Yd (num:Nat→Option Value) (_:Nat):Cfg:=⟨fun _=>TJ,fun _=>true,num⟩
theorem Wt (v:Value):aX prog (qG prog) f118.ntmps (Yd fun _=>none) 40 (cA iC) (fD 0 [.v (.im v)]) [.slot 0 (.im v)]=some ([],.nrm,[.slot 0 (.im v)]):=by kernel_rfl
theorem Ws (p:Option Addr) (N m:Nat):aX prog (qG prog) f118.ntmps (Yd fun _=>none) 40 (cA (cA (cB iC))) [.slot 0 (.im (.slice p N m))] (MJ (.slice p N m) N 0)=some ([],.nrm,MJ (.slice p N m) N 0):=by kernel_rfl
theorem Wu (w:World) (b o N m i x:Nat):aX prog { qG prog with x:=xO w (assoc [(9,i)]) (assoc [(10,[.q x])]) (fun _=>none) } f118.ntmps (Yd (assoc [(8,.bool true),(13,.bool false),(14,iI (i+1))])) 40 rK (MJ (aK b o N m) N i) (MJ (aK b o N m) N (i+1))=some ([aJ .lss .i64 (Int.ofNat i) (Int.ofNat N)=some (.bool true),Int.ofNat i=Int.ofNat i,i<N,oldOf w b (o+i*4) [.q x],dJ [.q x]=4,x<aH,aJ .neq .i64 (SL x) 0=some (.bool false),aJ .add .i64 (Int.ofNat i) 1=some (iI (i+1))],.nrm,MJ (aK b o N m) N (i+1)):=by kernel_rfl
theorem Wv (w:World) (b o N m i x:Nat):aX prog { qG prog with x:=xO w (assoc [(9,i)]) (assoc [(10,[.q x])]) (fun _=>none) } f118.ntmps (Yd (assoc [(8,.bool true),(13,.bool true)])) 40 rK (MJ (aK b o N m) N i) [.slot 2 (.im (.bool false))]=some ([aJ .lss .i64 (Int.ofNat i) (Int.ofNat N)=some (.bool true),Int.ofNat i=Int.ofNat i,i<N,oldOf w b (o+i*4) [.q x],dJ [.q x]=4,x<aH,aJ .neq .i64 (SL x) 0=some (.bool true)],.rt,[.slot 2 (.im (.bool false))]):=by kernel_rfl
theorem Mb (v:Value) (N i:Nat):aX prog (qG prog) f118.ntmps (Yd (assoc [(8,.bool false)])) 40 rK (MJ v N i) (MJ v N i)=some ([aJ .lss .i64 (Int.ofNat i) (Int.ofNat N)=some (.bool false)],.ex 0,MJ v N i):=by kernel_rfl
theorem Cj (v:Value) (N i:Nat):aX prog (qG prog) f118.ntmps (Yd fun _=>none) 40 (cB (cB iC)) (MJ v N i) [.slot 2 (.im (.bool true))]=some ([],.rt,[.slot 2 (.im (.bool true))]):=by kernel_rfl
theorem GM {w0:World} {b o N m i:Nat} {f:Nat→Nat} (hb:b<w0.heap.size) (hr:w0.rangeAt b o (aA (bV (el f) 0 N))) (hN:N≤4611686018427387904) (hi:i<N) (hx:f i<aH) (h:f i<RM):Ok prog w0.heap.size w0 f118.ntmps rK (MJ (aK b o N m) N i) .nrm (MJ (aK b o N m) N (i+1)) :=
 ⟨_,_,_,_,dN w0 _ _ _,fun _ _=>EG.w _ _,Wu w0 b o N m i (f i),eO hi,rfl,hi,mK hb hr hi,rfl,hx,BG h,fU (k:=1) (by omega),trivial⟩
theorem yS {w0:World} {v:Value} {N:Nat} {f:Nat→Nat} (hv:LV w0 v N f) (hN:N≤4611686018427387904):bM prog 118 (.one (.im (.bool (decide (oI N f))))) [v] w0:=by
 obtain⟨p,m,rfl,hm,h256,hmem⟩:=hv;have hG:bO prog (qG prog) w0.heap.size w0:=(aW _).w _ _;have hT:∀n d:Nat,TabOkW prog TJ w0.heap.size w0:=fun _ _=>EG.w _ _
 refine cH func118 (cs:=[.v (.im (.slice p N m))]) (args:=[.slice p N m]) (c:=iC) rfl ⟨rfl,trivial⟩ (Nat.le_of_ble_eq_true (by kernel_rfl)) fun a w' hA => ?_
 rw[Ck];refine wp_seq (aB aI hT hG (Wt _) trivial hA fun a w' hA => ?_);refine wp_seq (wp_seq (aB aI hT hG (Ws p N m) trivial hA fun a w' hA => ?_));refine wp_block ?_;have fin:∀(P Q:Exit→Act→World→Prop) e a w,P e a w→(∀e a w,P e a w→Q e a w)→Q e a w:=fun P Q e a w h k=>k e a w h
 by_cases h:oI N f
 ·rw[decide_eq_true h];refine jD aI (fun i=>MJ (.slice p N m) N i) N (fun i hi => ?_) (.ex 0) (by simp) (MJ (.slice p N m) N N) ⟨_,_,_,_,hG,hT,Mb _ N N,dD (Nat.le_refl _),trivial⟩ hA fun a w hA => ?_
  ·obtain⟨b,o,rfl,hb,hr⟩:=hmem (by omega);exact GM hb hr hN hi (h256 i hi) (h i hi)
  ·show (cB (cB iC)).wp _ _ _ _;exact aB aI hT hG (Cj _ N N) trivial hA fun a w' hA=>qU (l:=[.im (.bool true)]) (r:=.one (.im (.bool true))) (by kernel_rfl) (by kernel_rfl) hA
 ·rw[decide_eq_false h];obtain⟨j,hj,h1,h2⟩:=RS (p:=fun j=>f j<RM) h;obtain⟨b,o,rfl,hb,hr⟩:=hmem (by omega);refine jD aI (fun i=>MJ (aK b o N m) N i) j (fun i hi=>GM hb hr hN (by omega) (h256 i (by omega)) (h1 i hi)) .rt (by simp) [.slot 2 (.im (.bool false))] ⟨_,_,_,_,dN w0 _ _ _,hT,Wv w0 b o N m j (f j),eO hj,rfl,hj,mK hb hr hj,rfl,h256 j hj,BH h2,trivial⟩ hA fun a w hA => ?_
  exact qU (l:=[.im (.bool false)]) (r:=.one (.im (.bool false))) (by kernel_rfl) (by kernel_rfl) hA
open Go.RowKit Go.Shelf
def Yz:Go.Shelf.Ren:=⟨fun|29=>223|n=>n,fun|0=>0|3=>3|4=>4|5=>5|22=>22|25=>140|54=>271|n=>n,fun|1=>2|n=>n⟩
theorem Ps:Lays7.n29 prog Yz:={
 mixed:=by kernel_rfl
 f29:=func223.trans (congrArg some (by kernel_rfl))
 t0:=underlying0
 a0:=Tryz.isAgg0
 z0:=Tryz.sizeOf0
 v0:=Tryz.zeroValue0
 i0:=by kernel_rfl
 t3:=underlying3
 a3:=Tryz.isAgg3
 z3:=Tryz.sizeOf3
 v3:=Tryz.zeroValue3
 i3:=by kernel_rfl
 t4:=underlying4
 a4:=Tryz.isAgg4
 z4:=Tryz.sizeOf4
 v4:=Tryz.zeroValue4
 i4:=by kernel_rfl
 t5:=underlying5
 a5:=Tryz.isAgg5
 z5:=Tryz.sizeOf5
 v5:=Tryz.zeroValue5
 i5:=by kernel_rfl
 t22:=underlying22
 a22:=Tryz.isAgg22
 z22:=Tryz.sizeOf22
 v22:=Tryz.zeroValue22
 i22:=by kernel_rfl
 t25:=underlying140
 a25:=Tryz.isAgg140
 z25:=Tryz.sizeOf140
 v25:=Tryz.zeroValue140
 i25:=by kernel_rfl
 t54:=underlying271
 a54:=Tryz.isAgg271
 z54:=Tryz.sizeOf271
 g1:=by kernel_rfl }
def Dbj (w:World):Prop:=Go.Proofs.TabAt 2 Lib.deBruijn64tab w
theorem Dbj.lt {w:World} (h:Dbj w):2<w.heap.size:=by
 have:=h 0 (by decide)
 rcases Nat.lt_or_ge 2 w.heap.size with q|q
 ·exact q
 ·have h2:w.cell? ⟨2,0,none⟩=none:=by
   unfold World.cell?;simp[Array.getElem?_eq_none_iff.2 q]
  rw[h2]at this; cases this
theorem Dbj.on {w w':World} {base:Nat} (h:Dbj w) (hB:2<base) (hb:Below base w w'):Dbj w':=fun j hj=>(hb.cell (p:=⟨2,j,none⟩) hB).trans (h j hj)
theorem US {x:Nat} (hx:x<eH) {w:World} (h:Dbj w):bM prog 223 (.one (.im (iI (tz x)))) [u6 x] w:=by
 refine (Any7.bits_TrailingZeros64 Ps x hx w fun _=>h).mono ?_
 rintro e w' ⟨rfl,rfl⟩
 exact⟨rfl,Below.refl _ _⟩
def gTz:gL
 | [.v (.im (.int .u64 (.ofNat x)))]=>some ([x<eH],.one (.im (iI (tz x))))
 | _=>none
theorem To {w:World} (h:Dbj w):∀cs pre r,gTz cs=some (pre,r)→bC pre→∀(args:List Value),cT w cs args→bM prog 223 r args w:=by
 intro cs pre r hg hp args ha;unfold gTz at hg;split at hg
 ·rename_i x;cases hg
  match args,ha with
  | [u],ha =>
   have h1:u=.int .u64 (Int.ofNat x):=ha.1;subst h1;exact US hp.1 h
  | [],ha=>exact ha.elim
  | _::_::_,ha=>exact ha.2.elim
 ·cases hg
def Xa:Tab:=T0.add 223 gTz
theorem Yy {w:World} {base:Nat} (h:Dbj w) (hB:2<base):TabOkW prog Xa base w :=
 TabOkW.add ((bU _).w _ _) func223 (by kernel_rfl) (by kernel_rfl) (fun w' hw=>To (h.on hB hw))
noncomputable abbrev wdF:Func:=f221
def iG:Code:=(f221.body).getD .skip
def fQ:Code:=iR (iR (cB (cA (cB (cB iG)))))
def wdB:Code:=iR (cA (cB (cB fQ)))
def MU:Code:=iR (iR (cA wdB))
theorem Dw:iG=.seq (cA iG) (.seq (cA (cB iG)) (.seq (.seq (cA (cA (cB (cB iG)))) (.block 0 (.loop fQ))) (cB (cB (cB iG))))):=by kernel_rfl
theorem Du:fQ=.seq (cA fQ) (.seq (cA (cB fQ)) (.seq (.block 1 (.seq (.block 2 (.loop MU)) (cB wdB))) (cB (cB (cB fQ))))):=by kernel_rfl
theorem Yt:wdF.ntmps=55:=by kernel_rfl
def wA (N sb C a:Nat) (s:St):List Fact:=[.slot 0 (.pt 0 0),.row 0 true s.row,.at 0 sb,.at 55 N,.slot 1 (.im (iI C)),.slot 5 (.im (u6 a))]
def wF (N sb C i a:Nat) (s:St):List Fact:=[.slot 0 (.pt 0 0),.row 0 true s.row,.at 0 sb,.at 55 N,.slot 5 (.im (u6 a)),.slot 7 (.im (iI C)),.slot 8 (.im (iI i))]
def qW (gen:Nat→Option Value) (T5:Tab5):EqT:=Xk prog (fun _=>none) (fun _=>none) (fun _=>none) gen T5
theorem Yr (N sb C:Nat) (s:St):aX prog (qW (fun _=>none) jY) 55 (fun _=>tC T0 fun _=>none) 60 (cA iG) (MD 55 sb N 0 s.row [.im (iI C)]) (MD 55 sb N 0 s.row [.im (iI C)])=some ([],.nrm,MD 55 sb N 0 s.row [.im (iI C)]):=by kernel_rfl
theorem Yq (N sb C:Nat) (s:St):aX prog (qW (fun _=>none) jY) 55 (fun _=>tC T0 fun _=>none) 60 (cA (cB iG)) (MD 55 sb N 0 s.row [.im (iI C)]) (wA N sb C 0 s)=some ([],.nrm,wA N sb C 0 s):=by kernel_rfl
theorem Yp (N sb C a:Nat) (s:St):aX prog (qW (fun _=>none) jY) 55 (fun _=>tC T0 fun _=>none) 60 (cA (cA (cB (cB iG)))) (wA N sb C a s) (wF N sb C 0 a s)=some ([],.nrm,wF N sb C 0 a s):=by kernel_rfl
theorem Yw (N sb C i a:Nat) (s:St):aX prog (qW (fun _=>none) jY) 55 (fun _=>tC T0 (assoc [(9,.bool true)])) 60 (cA fQ) (wF N sb C i a s) (.slot 9 (.im (.bool true))::wF N sb C i a s)=some ([aJ .lss .i64 (Int.ofNat i) (Int.ofNat C)=some (.bool true)],.nrm,.slot 9 (.im (.bool true))::wF N sb C i a s):=by kernel_rfl
theorem Po (N sb C i a:Nat) (s:St):aX prog (qW (fun _=>none) jY) 55 (fun _=>tC T0 fun _=>none) 60 (cA (cB fQ)) (.slot 9 (.im (.bool true))::wF N sb C i a s) (wF N sb C i a s)=some ([],.nrm,wF N sb C i a s):=by kernel_rfl
theorem aFk (N sb C i a:Nat) (s:St):aX prog (qW (fun _=>none) jY) 55 (fun _=>tC T0 (assoc [(9,.bool false)])) 60 (cA fQ) (wF N sb C i a s) (.slot 9 (.im (.bool false))::wF N sb C i a s)=some ([aJ .lss .i64 (Int.ofNat i) (Int.ofNat C)=some (.bool false)],.nrm,.slot 9 (.im (.bool false))::wF N sb C i a s):=by kernel_rfl
theorem Yo (N sb C i a:Nat) (s:St):aX prog (qW (fun _=>none) jY) 55 (fun _=>tC T0 fun _=>none) 60 (cA (cB fQ)) (.slot 9 (.im (.bool false))::wF N sb C i a s) (wF N sb C i a s)=some ([],.ex 0,wF N sb C i a s):=by kernel_rfl
def Xe (s:St):Tab5:=jY.add 220 (Xm s.row 0 (.many []) s.grow.row)
theorem Yv (N sb C i a:Nat) (s:St):aX prog (qW (assoc [(22,u6 (s.grow.fr &&& 21845))]) (Xe s)) 55 (fun _=>tC T0 (assoc [(14,.bool true)])) 60 MU (wF N sb C i a s) (wF N sb C i a s.J)=some ([aJ .eql .u64 (Int.ofNat s.gv) 0=some (.bool true),s.row=s.row,0=0,gK .and 22 (.tmp 21) (.const (u6 21845)) (u6 s.grow.fr) (u6 21845) (u6 (s.grow.fr &&& 21845))],.nrm,wF N sb C i a s.J):=by kernel_rfl
theorem Yu (N sb C i a:Nat) (s:St):aX prog (qW (fun _=>none) jY) 55 (fun _=>tC T0 (assoc [(14,.bool false)])) 60 MU (wF N sb C i a s) (wF N sb C i a s)=some ([aJ .eql .u64 (Int.ofNat s.gv) 0=some (.bool false)],.ex 2,wF N sb C i a s):=by kernel_rfl
theorem Pp (N sb C i a:Nat) (s:St):aX prog (qW (assoc [(39,u6 (s.gv &&& (s.gv-1))),(43,u6 (a*2^1%eH)),(50,u6 (s.fr/2^(tz s.gv+1))),(51,u6 s.bit),(52,u6 (Mg a s.bit))]) jY) 55 (fun _=>tC Xa (assoc [(38,u6 (s.gv-1)),(49,iI (tz s.gv+1))])) 60 (cB wdB) (wF N sb C i a s) (wF N sb C i (Mg a s.bit) s.next)
 = some ([s.gv<eH,aJ .sub .u64 (Int.ofNat s.gv) 1=some (u6 (s.gv-1)),gK .and 22 (.tmp 33) (.tmp 38) (u6 s.gv) (u6 (s.gv-1)) (u6 (s.gv &&& (s.gv-1))),gK .shl 22 (.tmp 42) (.const (u6 1)) (u6 a) (u6 1) (u6 (a*2^1%eH)),aJ .add .i64 (Int.ofNat (tz s.gv)) 1=some (iI (tz s.gv+1)),gK .shr 22 (.tmp 47) (.tmp 49) (u6 s.fr) (iI (tz s.gv+1)) (u6 (s.fr/2^(tz s.gv+1))),gK .and 22 (.tmp 50) (.const (u6 1)) (u6 (s.fr/2^(tz s.gv+1))) (u6 1) (u6 s.bit),gK .or 22 (.tmp 43) (.tmp 51) (u6 (a*2^1%eH)) (u6 s.bit) (u6 (Mg a s.bit))],.nrm,wF N sb C i (Mg a s.bit) s.next):=by kernel_rfl
theorem Ys (N sb C i a:Nat) (s:St):aX prog (qW (fun _=>none) jY) 55 (fun _=>tC T0 (assoc [(53,iI (i+1))])) 60 (cB (cB (cB fQ))) (wF N sb C i a s) (wF N sb C (i+1) a s)=some ([aJ .add .i64 (Int.ofNat i) 1=some (iI (i+1))],.nrm,wF N sb C (i+1) a s):=by kernel_rfl
theorem Dv (N sb C i a:Nat) (s:St):aX prog (qW (fun _=>none) jY) 55 (fun _=>tC T0 fun _=>none) 60 (cB (cB (cB iG))) (wF N sb C i a s) [.slot 4 (.im (u6 a)),.row 0 true s.row,.at 0 sb,.at 55 N]=some ([],.rt,[.slot 4 (.im (u6 a)),.row 0 true s.row,.at 0 sb,.at 55 N]):=by kernel_rfl
theorem PI {s:St} (hs:s.ok):PtOk prog (Xe s):=(jJ _).add func220 (by kernel_rfl) (by kernel_rfl) (Rz (ZU hs))
theorem aGT:aJ .eql .u64 (Int.ofNat 0) 0=some (.bool true):=rfl
theorem aGU {n:Nat} (h:n≠0):aJ .eql .u64 (Int.ofNat n) 0=some (.bool false):=by
 show some (Value.bool (Int.ofNat n==0))=_;rw[show (Int.ofNat n==0)=false by rw[beq_eq_false_iff_ne]; intro e; exact h (by simpa using e)]
theorem Fd {n:Nat} (h:n≠0) (hn:n<eH):aJ .sub .u64 (Int.ofNat n) 1=some (u6 (n-1)):=by
 show some (Value.int .u64 (IntKind.u64.wrap ((n:Int)-1)))=_;have:IntKind.u64.wrap ((n:Int)-1)=((n-1:Nat):Int):=by rw[IntKind.wrap_u64]; unfold eH at hn; omega
 rw[this]; rfl
theorem UO {s t:St} {C v:Nat} (hs:s.ok) (hC:C<4611686018427387904) (hw:wP C s 0=some (v,t)) {w0:World} {sb:Nat} (hD:Dbj w0) (hg:2<sb) (hO:Own w0 sb s.row) :
  Calls prog 221 (ptV sb 0::[iI C]).toArray w0 (Wr sb w0 (.one (.im (u6 v))) t.row):=by
 have hT:∀n d:Nat,TabOkW prog T0 sb w0:=fun _ _=>(bU _).w _ _
 have hZ:∀n d:Nat,TabOkW prog Xa sb w0:=fun _ _=>Yy hD hg
 have hq:∀gen,bO prog (qW gen jY) sb w0:=fun gen=>mG (jJ _) _ _
 have hnt:f221.ntmps=55:=Yt;refine sP (ts:=[.im (iI C)]) func221 (c:=iG) rfl hO (Nat.le_of_ble_eq_true (by kernel_rfl)) fun a w hA => ?_
 rw[hnt]at hA;rw[Dw];refine wp_seq (aB aI hT (hq _) (Yr w0.heap.size sb C s) trivial hA fun a w hA => ?_);refine wp_seq (aB aI hT (hq _) (Yq w0.heap.size sb C s) trivial hA fun a w hA => ?_);refine wp_seq (wp_seq (aB aI hT (hq _) (Yp w0.heap.size sb C 0 s) trivial hA fun a w hA => ?_));refine wp_block ?_;refine dS (n:=C+1) ?_;have wl:∀Q a w,(Code.seq (cA fQ) (.seq (cA (cB fQ)) (.seq (.block 1 (.seq (.block 2 (.loop MU)) (cB wdB))) (cB (cB (cB fQ)))))).wp prog Q a w→fQ.wp prog Q a w:=fun Q a w h=>by rw[Du]; exact h
 have key:∀m i (s:St) (ac:Nat) a w,i+m=C→s.ok→ac<eH→wP m s ac=some (v,t)→Holds 55 sb w0 (wF w0.heap.size sb C i ac s) a w→Un prog fQ (Exit.inBlock 0 (Exit.then ((cB (cB (cB iG))).wp prog (bodyPost prog f221 (Wr sb w0 (.one (.im (u6 v))) t.row))) (bodyPost prog f221 (Wr sb w0 (.one (.im (u6 v))) t.row)))) (m+1) a w:=by
  intro m
  induction m with
  | zero =>
   intro i s ac a w hi hs ha hw hA;cases hw;unfold Un;refine wl _ _ _ (wp_seq (aB aI hT (hq _) (aFk w0.heap.size sb C i v t) ⟨dD (by omega),trivial⟩ hA fun a w hA => ?_));refine wp_seq (aB aI hT (hq _) (Yo w0.heap.size sb C i v t) trivial hA fun a w hA => ?_);simp only[EA.out,Exit.then,Exit.inBlock,if_true];refine aB aI hT (hq _) (Dv w0.heap.size sb C i v t) trivial hA fun a w hA => ?_
   exact cK (l:=[.im (u6 v)]) (r:=.one (.im (u6 v))) (by kernel_rfl) (by kernel_rfl) hA ⟨rfl,hA.wrc (by simp) (by simp) (by simp)⟩
  | succ m ih =>
   intro i s ac a w hi hs ha hw hA;unfold wP at hw;cases hin:ZL 40 s with
   | none=>rw[hin]at hw; cases hw
   | some u =>
    rw[hin]at hw;simp only at hw;have hu:=KD hs hin;obtain⟨k,hk,hne,h0⟩:=qQ 40 s u hin;unfold Un;refine wl _ _ _ (wp_seq (aB aI hT (hq _) (Yw w0.heap.size sb C i ac s) ⟨eO (by omega),trivial⟩ hA fun a w hA => ?_));refine wp_seq (aB aI hT (hq _) (Po w0.heap.size sb C i ac s) trivial hA fun a w hA => ?_);refine wp_seq (wp_block (wp_seq (wp_block ?_)));refine jD aI (fun j=>wF w0.heap.size sb C i ac (Ji j s)) k (fun j hj => ?_) (.ex 2) (by simp) (wF w0.heap.size sb C i ac (Ji k s)) ⟨_,_,_,_,hq _,hT,Yu w0.heap.size sb C i ac (Ji k s),aGU (by rw[hk]; exact hne),trivial⟩ hA fun a w hA => ?_
    ·have hj0:=h0 j hj;have hjo:=De j hs;exact⟨_,_,_,_,mG (PI hjo) _ _,hT,Yv w0.heap.size sb C i ac (Ji j s),by rw[hj0]; exact aGT,rfl,rfl,zS _ _ _ hjo.grow.fr (by decide),trivial⟩
    ·rw[hk]at hA;simp only[EA.out,Exit.then,Exit.inBlock,if_true];refine aB aI hZ (hq _) (Pp w0.heap.size sb C i ac u) ⟨hu.gv,Fd hne hu.gv,zS _ _ _ hu.gv (by have:=hu.gv; omega),Fe _ _ _ _ (by omega),fU (k:=1) (by have:=Mx hne hu.gv; omega),VV _ _ _ _ (by have:=Mx hne hu.gv; omega),zS _ _ _ (Ks hu.fr) (by decide),VX _ _ _ (YG _) (LX hu),trivial⟩ hA fun a w hA => ?_
     simp only[EA.out,Exit.then,Exit.inBlock,if_true];refine aB aI hT (hq _) (Ys w0.heap.size sb C i (Mg ac u.bit) u.next) ⟨fU (k:=1) (by omega),trivial⟩ hA fun a w hA => ?_
     exact ih (i+1) u.next (Mg ac u.bit) a w (by omega) hu.next (Cu hu) hw hA
 exact key C 0 s 0 a w (by omega) hs (by decide) hw hA
end Go.Proofs.YtpjlhhpjpnacmaaGreatDoor.Ex
