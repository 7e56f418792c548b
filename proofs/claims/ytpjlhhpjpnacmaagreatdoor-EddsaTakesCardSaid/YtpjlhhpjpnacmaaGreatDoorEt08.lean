/- Et08 -/
import Derived.Laws.MakeOwn
import Derived.Deep.DeepCutAuto
import Derived.Test.YtpjlhhpjpnacmaaGreatDoorEt06
import Derived.Test.YtpjlhhpjpnacmaaGreatDoorEt07
import Derived.Test.YtpjlhhpjpnacmaaGreatDoorEt05
import Derived.Test.YtpjlhhpjpnacmaaGreatDoorEt04
import Derived.Test.YtpjlhhpjpnacmaaGreatDoorProg
set_option maxRecDepth 100000
set_option linter.unusedVariables false
set_option linter.unusedSimpArgs false
set_option linter.unnecessarySimpa false
noncomputable section
namespace Go.Proofs.YtpjlhhpjpnacmaaGreatDoor.Ex
open Go.Proofs.Tryz
open Go.RowKit
def BV (w:World) (v:Value) (N:Nat) (f:Nat→Nat):Prop:=∃p m,v=.slice p N m∧N≤m∧(∀j,f j<256)∧(0<N→∃g o,p=some ⟨g,o,none⟩∧BM w g o N f)
theorem BV.on {w w':World} {v:Value} {N:Nat} {f:Nat→Nat} (h:BV w v N f) (hb:Below w.heap.size w w'):BV w' v N f:=by
 obtain⟨p,m,h1,h2,h3,h4⟩:=h;exact⟨p,m,h1,h2,h3,fun h=>by
  obtain⟨g,o,e,h5⟩:=h4 h;exact⟨g,o,e,h5.on hb⟩⟩
theorem ElM.congr {w:World} {a b n C:Nat} {g g':Nat→Nat} (h:ElM w a b n C g) (he:∀j,j<n→g j=g' j):ElM w a b n C g' :=
 by
 have e:=fY (f:=g) (g:=g') n 0 fun j hj=>(by rw[Nat.zero_add]; exact he j hj)
 exact⟨h.box,h.app,h.lt,by rw[←e]; exact h.row,h.ne⟩
theorem aKa (W:World) (b3 bl n C:Nat):aX prog { qG prog with x:=xO W (fun _=>none) (fun _=>none) (assoc [(25,aM bl 0 n C)]) } 26 (fun _=>tC T0 fun _=>none) 1 (.region 6 (aE (cA (cB Pd))) false) [.slot 3 (.im (ptV b3 0))] [.slot 2 (.im (aM bl 0 n C))]=some ([oldOf W b3 0 [.c (aM bl 0 n C)]],.nrm,[.slot 2 (.im (aM bl 0 n C))]):=by kernel_rfl
structure EJ (n0:Nat) (w0:World) (b3 bl C D:Nat) (f:Nat→Nat) (N:Nat) (rec:Loop) (r i:Nat) (W:World):Prop where
 below:Below n0 w0 W
 el:ElM W b3 bl (1+i) C (WW f N)
 n3:b3≠r
 nb:bl≠r
 hD:W.heap[D]?=some (.deferred (some []))
 hl:W.heap[D+1]?=some (.loop rec)
theorem EJ.wrc {n0:Nat} {w0:World} {b3 bl C D:Nat} {f:Nat→Nat} {N:Nat} {rec:Loop} {r i:Nat} {W W':World} (h:EJ n0 w0 b3 bl C D f N rec r i W) (hn:n0≤r) (hW:WrC W W' r):EJ n0 w0 b3 bl C D f N rec r i W' :=
 ⟨h.below.trans (hW.below.mono hn),h.el.wrc hW h.n3 h.nb,h.n3,h.nb,hW.shape.2.same _ _ h.hD rfl,hW.shape.2.same _ _ h.hl rfl⟩
theorem EJ.on {n0:Nat} {w0:World} {b3 bl C D:Nat} {f:Nat→Nat} {N:Nat} {rec:Loop} {r i:Nat} {W W':World} (h:EJ n0 w0 b3 bl C D f N rec r i W) (hn:n0≤W.heap.size) (hW:Below W.heap.size W W'):EJ n0 w0 b3 bl C D f N rec r i W' :=
 ⟨h.below.trans (hW.mono hn),h.el.on hW,h.n3,h.nb,(Shape.below hW).2.same _ _ h.hD rfl,(Shape.below hW).2.same _ _ h.hl rfl⟩
theorem Pc {n0:Nat} {w0:World} {b3 bl C D g o N r i m:Nat} {f:Nat→Nat} {rec:Loop} {W:World} {v':Value} {a0:Act} (hn0:n0≤D) (hn3:n0≤b3) (hnb:n0≤bl) (hJ:EJ n0 w0 b3 bl C D f N rec r i W) (hO:Own W r [.c v']) (hB:BM W g o N f) (hi:31*i<N) (hC:1+i+1≤C)
  (hr:rec.state=.ready) (hp:rec.pending=none) (hps:rec.params = #[19]) (ht:rec.tmps=a0.tmps) (hsz:a0.tmps.size=26) (h3:a0.tmps[3]?=some (ptV b3 0)) (has:rec.assign=.region 4 (aE (Wf eRF)) false) (hbo:rec.body=.block 1 (.region 5 (aE VI) true)) :
  RoundIn Fence.wide 0 prog (D+1) rec.fn ((rec.params.zip #[aM g (o+31*i) (nD N i) m]).foldl (fun t (p,v)=>t.setIfInBounds p v) rec.tmps) rec.assign rec.body W fun e W'=>e=.returned (.bool true)∧EJ n0 w0 b3 bl C D f N rec r (i+1) W'∧Own W' r [.c v']:=by
 have htm:(rec.params.zip #[aM g (o+31*i) (nD N i) m]).foldl (fun t (p,v)=>t.setIfInBounds p v) rec.tmps=(a0.put (some 19) (aM g (o+31*i) (nD N i) m)).tmps:=by
  rw[hps,ht]; simp[Act.put]
 rw[htm,has,hbo];have hnW:n0≤W.heap.size:=Nat.le_trans hnb (Nat.le_of_lt hJ.el.lt);have hH:Holds 26 W.heap.size W [.slot 19 (.im (aM g (o+31*i) (nD N i) m)),.slot 3 (.im (ptV b3 0))] { tmps:=(a0.put (some 19) (aM g (o+31*i) (nD N i) m)).tmps,defers:=[] } W :=
  aU (ts:=[(19,aM g (o+31*i) (nD N i) m),(3,ptV b3 0)]) rfl (by show (a0.put (some 19) _).tmps.size=26; rw[aH,hsz]) (fun x hx=>by
   simp only[List.mem_cons,List.not_mem_nil,or_false]at hx
   rcases hx with rfl|rfl
   ·exact aT _ _ _ (by rw[hsz]; decide)
   ·exact aQ h3 (by simp))
 have hT:∀base w,∀d:Nat,TabOkW prog T0 base w:=fun _ _ _=>(bP _).w _ _
 refine FX (K0:=fun a w=>Holds 26 W.heap.size W [.slot 4 (.im (aM g (o+31*i) (nD N i) m)),.slot 3 (.im (ptV b3 0))] a w) (MD (c:=tC T0 _) aI (hT _ _) ((aV _).w _ _) (aKb (aM g (o+31*i) (nD N i) m) b3) trivial (by kernel_rfl) hH fun a w hA=>⟨rfl,hA⟩) fun a1 w1 hA1 => ?_
 have hb1:=hA1.below;have hJ1:=hJ.on hnW hb1;have hO1:Own w1 r [.c v']:=⟨Nat.lt_of_lt_of_le hO.lt hb1.size,bJ hb1 hO.lt hO.row,fun j=>(hb1.frozen (p:=⟨r,j,none⟩) hO.lt).trans (hO.free j)⟩;refine⟨rec,hJ1.hl,hr,?_⟩;have hl1:=hJ1.hl;have hlt1:D+1<w1.heap.size:=(Array.getElem?_eq_some_iff.1 hl1).1;generalize hw2:w1.putObj (D+1) (.loop { rec with state:=.busy })=w2;have hl2:w2.heap[D+1]?=some (.loop { rec with state:=.busy }):=by rw[←hw2]; exact World.putObj_heap_same hlt1
 have hE2:ElM w2 b3 bl (1+i) C (WW f N):=by rw[←hw2]; exact hJ1.el.putL hl1
 have hO2:Own w2 r [.c v']:=by rw[←hw2]; exact hO1.putL hl1
 have hB2:Below n0 w0 w2:=by rw[←hw2]; exact gV hJ1.below (by omega) _
 have hD2:w2.heap[D]?=some (.deferred (some [])):=by rw[←hw2]; exact (World.putObj_heap_other (by omega)).trans hJ1.hD
 have hBM1:=hB.on hb1;have hgl:g≠D+1:=fun e=>by
  have:=hBM1.2.2 0 (by omega);rw[e]at this;simp[World.cell?,hl1]at this
 have hBM2:BM w2 g (o+31*i) (nD N i) (fun j=>f (31*i+j)):=by
  refine⟨by rw[←hw2,World.putObj_size]; exact hBM1.1,fun j=>hBM1.2.1 _,fun j hj => ?_⟩;have hj2:31*i+j<N:=by unfold nD at hj; omega
  rw[←hw2,(lQ hl1 (p:=⟨g,o+31*i+j,none⟩) hgl).1,Nat.add_assoc];exact hBM1.2.2 _ hj2
 refine wpIn_block ?_;refine zD (K:=fun _ W3=>Only2 b3 bl w2 W3∧ElM W3 b3 bl (1+i+1) C (fun q=>if q<1+i then WW f N q else hN (fun j=>f (31*i+j)) (nD N i))) (boxS b3 bl (1+i) C) 5 (by kernel_rfl) (aKg hE2 hC (hA1.slot (by simp)) (hA1.slot (s:=4) (v:=aM g (o+31*i) (nD N i) m) (by simp)) hBM2 (by unfold nD; omega) (by unfold nD; omega) hA1.size fun a' w' h1 h2=>⟨h1,h2⟩) fun a3 w3 hK => ?_
 obtain⟨hO3,hE3⟩:=hK;have hl3:=hO3.shape.2.same _ _ hl2 rfl;have hlt3:D+1<w3.heap.size:=(Array.getElem?_eq_some_iff.1 hl3).1;have hE3:ElM w3 b3 bl (1+(i+1)) C (WW f N):=by
  rw[show 1+(i+1)=1+i+1 by omega];refine hE3.congr fun j hj => ?_
  by_cases h:j<1+i
  ·rw[if_pos h]
  ·rw[if_neg h];have:j=1+i:=by omega
   subst this;unfold WW;rw[if_neg (by omega),show 1+i-1=i by omega]
 refine⟨rfl,_,hl3,rfl,⟨?_,hE3.putL hl3,hJ.n3,hJ.nb,?_,?_⟩,(hO3.own hO2 hJ.n3.symm hJ.nb.symm).putL hl3⟩
 ·exact gV (hB2.trans (hO3.below n0 hn3 hnb)) (by omega) _
 ·exact (World.putObj_heap_other (by omega)).trans (hO3.shape.2.same _ _ hD2 rfl)
 ·rw[World.putObj_heap_same hlt3];obtain⟨s,pe,fn,tm,pa,sg,bo,de⟩:=rec;cases hr; cases hp;rfl
theorem rW {fn:Func} {a:Act} {w:World} {s:Nat} {v:Value} (h:fn.results = #[.tmp s]) (hs:a.tmps[s]?=some v):(results fn a.tmps).run prog w=.ok v w:=by
 simp[results,h,hs]
theorem Eb {w0:World} {v:Value} {N:Nat} {f:Nat→Nat} (hv:BV w0 v N f) (hN:N≤140737488355328):Calls prog 90 #[v] w0 (fun e w'=>FS.ok ⟨cJ (el (WW f N)) 0 (1+(N+30)/31),1+(N+30)/31,27,4,true,[],[]⟩ w0 e w'):=by
 obtain⟨p,m,rfl,hm,hf,hmem⟩:=hv;have hG:∀base w,bQ prog (qG prog) base w:=fun _ _=>(aV _).w _ _
 have hT:∀base w,∀n d:Nat,TabOkW prog T0 base w:=fun _ _ _ _=>(bP _).w _ _
 have hnt:=aKi;refine (callsIn_wide (n:=0)).1 (callsIn_of_wp_marks (F:=Fence.wide) func90 (c:=uW) rfl trivial ?_);refine wpIn_wide.2 ?_;have hA:Holds eF.ntmps w0.heap.size w0 (fJ 0 [.v (.im (.slice p N m))]) _ w0:=kO (nt:=eF.ntmps) (cs:=[.v (.im (.slice p N m))]) (args:=[.slice p N m]) (w:=w0) ⟨rfl,trivial⟩ (Nat.le_of_ble_eq_true (by kernel_rfl));rw[hnt]at hA;generalize ha0:({ tmps:=[Value.slice p N m].toArray++Array.replicate (26-[Value.slice p N m].toArray.size) undef,defers:=[] }:Act)=a0 at hA;show uW.wp prog _ { tmps:=[Value.slice p N m].toArray++Array.replicate (eF.ntmps-[Value.slice p N m].toArray.size) undef,defers:=[] } w0;rw[hnt,ha0,aAk];clear ha0;refine wp_seq (aB aI (hT _ _) (hG _ _) (aKe _) trivial hA fun a w hA => ?_);refine wp_seq (bK (l:=List.range' 0 ((aE e1C).extract 0 4).size++(4::(List.range' 5 ((aE e1C).extract 5 7).size++[]))) (by kernel_rfl) ?_);refine aJ (c:=tC T0 _) (hT _ _ 0) (hG _ _) (aKd p N m) ⟨Aw (k:=31) (by omega) (by omega),gN (i:=2) (by omega),trivial⟩ (by kernel_rfl) hA fun a w hA => ?_
 obtain⟨o4,ho4,hop4,hd4,hg4⟩:∃x,(aE e1C)[4]?=some x∧x.op=.makeSlice 56 (.const (iI 0)) (.tmp 8)∧x.dst=some 9∧x.guard=none:=⟨_,rfl,rfl,rfl,rfl⟩
 have h8:=hA.slot (s:=8) (v:=iI (2+N/31)) (by simp);have h0:=hA.slot (s:=0) (v:=.slice p N m) (by simp);obtain⟨w1,hmk,hb1,happ,hs1⟩:=Mb (C:=2+N/31) (by omega) w;have hrun:(execOp a.eval o4).run prog w=.ok (.value (aM w.heap.size 0 0 (2+N/31))) w1:=by
  have e0:a.eval (.const (iI 0))=iI 0:=rfl;simp[execOp,hop4,e0,sU h8,hmk]
 refine bE ho4 hg4 (cD hrun ?_);rw[hd4];have hB1:Below w0.heap.size w0 w1:=hA.below.trans (hb1.mono hA.below.size);have hn0:w0.heap.size≤w.heap.size:=hA.below.size;generalize hbl:w.heap.size=bl at *;have hA1:Holds 26 w1.heap.size w1 [.slot 9 (.im (aM bl 0 0 (2+N/31))),.slot 0 (.im (.slice p N m))] (a.put (some 9) (aM bl 0 0 (2+N/31))) w1 :=
  aU (ts:=[(9,aM bl 0 0 (2+N/31)),(0,.slice p N m)]) hA.defers (by rw[aH]; exact hA.size) (fun x hx=>by
   simp only[List.mem_cons,List.not_mem_nil,or_false]at hx
   rcases hx with rfl|rfl
   ·exact aT _ _ _ (by rw[hA.size]; decide)
   ·exact aQ h0 (by simp))
 clear hA;refine aJ (c:=tC T0 _) (hT _ _ 0) (hG _ _) (aFs (.slice p N m) bl (2+N/31)) trivial (by kernel_rfl) hA1 fun a2 w2 hA2 => ?_
 obtain⟨b3,hA2⟩:=hA2.at (k:=3) (l:=[.c (aM bl 0 0 (2+N/31))]) (by simp);have hE:ElM w2 b3 bl 0 (2+N/31) (fun _=>0)∧w1.heap.size≤b3:=by
  obtain⟨β,g1,_,_,gt⟩:=hA2.facts;obtain⟨q1,q3,q2,_⟩:=g1 (.row 3 true [.c (aM bl 0 0 (2+N/31))]) (by simp);have e:=g1 (.at 3 b3) (by simp);simp only[Fact.ok]at e;obtain⟨rfl,e2⟩:=e;rw[e2]at q3;refine⟨⟨⟨q1,q3,(q2 rfl).2.2⟩,happ.shape gt.shape,?_,fun j v hj=>by simp[cJ,aA]at hj,?_⟩,(q2 rfl).1⟩
  ·have:=gt.shape.2.size; omega
  ·have:=(q2 rfl).1; omega
 obtain⟨hE,hb3⟩:=hE;have hB2:Below w0.heap.size w0 w2:=hB1.trans (hA2.below.mono (by omega));have h02:=hA2.slot (s:=0) (v:=.slice p N m) (by simp);have h32:a2.tmps[3]?=some (ptV b3 0):=by
  obtain⟨β,g1,_⟩:=hA2.facts;have e1:=g1 (.slot 3 (.pt 3 0)) (by simp);have e2:=g1 (.at 3 b3) (by simp);simp only[Fact.ok]at e1 e2;rw[e1];simp[AV.den,e2,Go.Proofs.YtpjlhhpjpnacmaaGreatDoor.Ex.ptV]
 have hd2:=hA2.defers;have hsz2:=hA2.size;clear hA1 hA2;show (Code.seq _ _).wp _ _ _ _;refine wp_seq (Code.wp_mono (Q:=iF fun a' w'=>a'.defers=[]∧a'.tmps.size=26∧a'.tmps[0]?=some (.slice p N m)∧a'.tmps[3]?=some (ptV b3 0)∧Only2 b3 bl w2 w'∧ElM w' b3 bl 1 (2+N/31) (WW f N)) (fun e a3 w3 h => ?_) (cG (boxS b3 bl 0 (2+N/31)) 7 aI (aKh (p:=p) (m:=m) (N:=N) hE (by omega) (by omega) h02 h32 hsz2 fun a' w' e1 e2 e3 e4 e5 e6=>⟨e1.trans hd2,e2,e3,e4,e5,e6.congr fun j hj=>by
  have:j=0:=by omega
  subst this; rfl⟩)))
 obtain⟨rfl,hd3,hsz3,h03,h33,hO3,hE3⟩:=h;show (Code.seq _ _).wp _ _ _ _;have hB3:Below w0.heap.size w0 w3:=hB2.trans (hO3.below _ (by omega) (by omega));have hA3:Holds 26 w3.heap.size w3 [.slot 0 (.im (.slice p N m)),.slot 3 (.im (ptV b3 0))] a3 w3:=aU (ts:=[(0,.slice p N m),(3,ptV b3 0)]) hd3 hsz3 (fun x hx=>by
   simp only[List.mem_cons,List.not_mem_nil,or_false]at hx
   rcases hx with rfl|rfl
   ·exact h03
   ·exact h33)
 refine wp_seq (wp_seq (bK (l:=List.range' 0 ((aE e3C).extract 0 1).size++(1::[])) (by kernel_rfl) ?_));refine aJ (c:=tC T0 _) (hT _ _ 0) (hG _ _) (aKc (.slice p N m) b3) trivial (by kernel_rfl) hA3 fun a4 w4 hA4 => ?_
 obtain⟨o1,ho1,⟨ts1,hop1⟩,hd1,hg1⟩:∃x,(aE e3C)[1]?=some x∧(∃ts,x.op=.call ⟨.value (.func 144),#[.tmp 17],ts⟩)∧x.dst=some 18∧x.guard=none:=⟨_,rfl,⟨_,rfl⟩,rfl,rfl⟩
 refine bE ho1 hg1 (cQ hop1 (vs:=[.slice p N m]) (List.cons_eq_cons.2 ⟨sU (hA4.slot (s:=17) (by simp)),rfl⟩) (fun args=>cC func144 (by kernel_rfl) (by kernel_rfl) args _) (Aj w4 p N m) fun e w5 hr => ?_);obtain⟨bb,rfl,hb5,hbox⟩:=hr;refine⟨_,rfl,?_⟩;rw[hd1];have hb4:=hA4.below;have hE5:=(hE3.on hb4).on hb5;have hB5:Below w0.heap.size w0 w5:=(hB3.trans (hb4.mono hB3.size)).trans (hb5.mono (Nat.le_trans hB3.size hb4.size));have h35:=aQ (d:=18) (u:=Hh bb) (hA4.slot (s:=3) (v:=ptV b3 0) (by simp)) (by decide);have h18:=aT a4 18 (Hh bb) (by rw[hA4.size]; decide);have hd5:(a4.put (some 18) (Hh bb)).defers=[]:=hA4.defers;have hsz5:(a4.put (some 18) (Hh bb)).tmps.size=26:=by rw[aH]; exact hA4.size
 generalize a4.put (some 18) (Hh bb)=a5 at *;clear hA3 hA4;show (Code.block 0 _).wp _ _ _ _;refine wp_block ?_;have hn5:w0.heap.size≤w5.heap.size:=hB5.size;refine zM (gf:=187) (lb:=#[ptV bb 0]) (sU h18) (fun args w=>cC func187 (by kernel_rfl) (by kernel_rfl) args w) fun fn => ?_
 generalize hrec:({ state:=.ready,pending:=none,fn,tmps:=a5.tmps,params:=#[19],assign:=.region 4 (aE (Wf eRF)) false,body:=.block 1 (.region 5 (aE VI) true),defers:=w5.heap.size }:Loop)=rec;have r1:rec.state=.ready:=by rw[←hrec]
 have r2:rec.pending=none:=by rw[←hrec]
 have r3:rec.params = #[19]:=by rw[←hrec]
 have r4:rec.tmps=a5.tmps:=by rw[←hrec]
 have r5:rec.assign=.region 4 (aE (Wf eRF)) false:=by rw[←hrec]
 have r6:rec.body=.block 1 (.region 5 (aE VI) true):=by rw[←hrec]
 clear hrec;obtain⟨W1,hW1⟩:∃W1,(w5.alloc (.deferred (some []))).alloc (.loop rec)=W1:=⟨_,rfl⟩
 rw[hW1];have hb6:Below w5.heap.size w5 W1:=by rw[←hW1]; exact ((Below.refl _ w5).alloc (Nat.le_refl _) _).alloc (by simp) _
 have hD1:W1.heap[w5.heap.size]?=some (.deferred (some [])):=by
  rw[←hW1]; exact (Below.heap_alloc _ _ _ (by simp)).trans (World.alloc_heap_new w5 _)
 have hL1:W1.heap[w5.heap.size+1]?=some (.loop rec):=by
  rw[←hW1]; have:=World.alloc_heap_new (w5.alloc (.deferred (some []))) (.loop rec); rwa [World.size_alloc]at this
 have hz1:W1.heap.size=w5.heap.size+2:=by rw[←hW1]; simp
 clear hW1;have hrest:WQ (match p with|some a=>a.block|none=>0) (match p with|some a=>a.off|none=>0) N 0 (.slice p (N-31*0) m):=⟨p,m,rfl,by omega,fun h=>by
  obtain⟨g,o,rfl,_⟩:=hmem (by omega);rfl⟩
 have hJ1:∀r,W1.heap.size≤r→EJ w0.heap.size w0 b3 bl (2+N/31) w5.heap.size f N rec r 0 W1:=fun r hr =>
  ⟨hB5.trans (hb6.mono hn5),hE5.on hb6,by have:=(hE5.box.lt); omega,by have:=hE5.lt; omega,hD1,hL1⟩
 refine Calls.mono (Cr (l:=w5.heap.size+1) (bb:=bb) (W1:=W1) hrest (oldOf.go hb6 (Nat.le_refl _) hbox) (fun r i W=>EJ w0.heap.size w0 b3 bl (2+N/31) w5.heap.size f N rec r i W)
  (fun r W h1 h2 _ _=>(hJ1 r h1).on (by omega) h2) (fun r i W W' h1 h2 h3=>h2.wrc (by omega) h3) (fun r i W v' mm h1 h2 h3 h4 h5=>⟨rec,h3.hl,by rw[r3]; rfl,?_⟩)) ?_
 ·obtain⟨g,o,rfl,hBM⟩:=hmem (by omega);exact Pc (a0:=a5) (by omega) (by omega) (by omega) h3 h4 ⟨Nat.lt_of_lt_of_le hBM.1 (Nat.le_trans hn5 (by have:=h3.below.size; have:=(Array.getElem?_eq_some_iff.1 h3.hl).1; omega)),hBM.2.1,fun j hj=>(h3.below.cell (p:=⟨g,o+j,none⟩) hBM.1).trans (hBM.2.2 j hj)⟩ h2 (by omega) r1 r2 r3 r4 hsz5 h35 r5 r6
 ·rintro e W' ⟨⟨u,rfl⟩,r,hJ⟩
  refine⟨u,rec,rfl,hJ.hl,by rw[r1]; simp,r2,?_⟩;generalize hrx:({ rec with state:=.exhausted }:Loop)=rx;have hlt:w5.heap.size+1<W'.heap.size:=(Array.getElem?_eq_some_iff.1 hJ.hl).1;have hB7:=gV (o:=.loop rx) hJ.below (l:=w5.heap.size+1) (by omega);have hE7:=hJ.el.putL (o:=.loop rx) hJ.hl;have hD7:(W'.putObj (w5.heap.size+1) (.loop rx)).heap[w5.heap.size]?=some (.deferred (some [])):=(World.putObj_heap_other (by omega)).trans hJ.hD;generalize W'.putObj (w5.heap.size+1) (.loop rx)=w7 at *;show (Code.seq _ _).wp _ _ _ _;rw[hd5];have hA7:Holds 26 w7.heap.size w7 [.slot 3 (.im (ptV b3 0))] a5 w7:=aU (ts:=[(3,ptV b3 0)]) hd5 hsz5 (fun x hx=>by
   simp only[List.mem_cons,List.not_mem_nil,or_false]at hx
   rcases hx with rfl
   exact h35)
  refine wp_seq (ZL (c:=tC T0 _) aI (hT _ _ 0) (dS w7 _ _ _) (aKa w7 b3 bl _ _) ⟨⟨hE7.box.lt,hE7.box.row⟩,trivial⟩ (by kernel_rfl) hA7 fun a8 w8 hA8 => ?_);refine wp_ret ?_;have hb8:=hA8.below;have hE8:=hE7.on hb8;have hD8:=(Shape.below hb8).2.same _ _ hD7 rfl;have hB8:Below w0.heap.size w0 w8:=hB7.trans (hb8.mono hB7.size);have hDlt:w5.heap.size<w8.heap.size:=(Array.getElem?_eq_some_iff.1 hD8).1;refine⟨by simp,.inl ⟨w5.heap.size,_,rfl,run_takeDeferred hD8,?_⟩⟩;have hbD:bl≠w5.heap.size:=fun e=>by
   obtain⟨cur,h1,_⟩:=hE8.app;rw[e,hD8]at h1; cases h1
  refine⟨_,rW (s:=2) (by kernel_rfl) (hA8.slot (s:=2) (v:=aM bl 0 (1+(N+30)/31) (2+N/31)) (by simp)),bl,2+N/31,rfl,gV hB8 (by omega) _,hn0,by rw[World.putObj_size]; exact hE8.lt,fun j v hj => ?_,fun j => ?_,fun _ => ?_⟩
  ·exact (World.cell?_of_block (World.putObj_heap_other hbD)).trans (hE8.row j v hj)
  ·exact (World.frozen?_of_block (World.putObj_heap_other hbD)).trans (hE8.app.free j)
  ·obtain⟨cur,h1,h2,h3,h4⟩:=hE8.app;exact⟨cur,(World.putObj_heap_other hbD).trans h1,h2,h3,h4⟩
def gBg (wd fl pt:Nat):gE
 | [.v (.fl l)]=>some ([aA l=aA (rR wd fl pt)],.one (.fl (KY wd fl pt).row))
 | _=>none
theorem Zr {wd fl pt:Nat} (h1:wd<4611686018427387904) (h2:fl<4611686018427387904) (h3:pt<4611686018427387904):∀cs pre r,gBg wd fl pt cs=some (pre,r)→bC pre→∀(args:List Value) (w:World),cP w cs args→bG prog 214 r args w:=by
 intro cs pre r hg hp args w ha;unfold gBg at hg;split at hg
 ·rename_i l;cases hg
  match args,ha with
  | [u],ha =>
   have e:u=.agg (aA l).toArray:=ha.1;rw[hp.1]at e;subst e;exact Gc h1 h2 h3 w
  | [],ha=>exact ha.elim
  | _::_::_,ha=>exact ha.2.elim
 ·cases hg
def aHy (wd fl pt:Nat):Tab:=T0.add 214 (gBg wd fl pt)
theorem Rh {wd fl pt:Nat} (h1:wd<4611686018427387904) (h2:fl<4611686018427387904) (h3:pt<4611686018427387904):TabOk prog (aHy wd fl pt):=(bP _).add func214 (by kernel_rfl) (by kernel_rfl) (Zr h1 h2 h3)
theorem Fc {n x:Nat} {s t:St} (hs:s.ok) (hc:zK n s=some (x,t)) {base:Nat} {w:World} (hD:Dbj w) (hB:2<base):Rk prog (BH 215 (pe0 s.row 0 (.one (.fl [.q x])) t.row)) base w :=
 KP func215 (by kernel_rfl) (by kernel_rfl) fun cs pre j r l hg hp args ha b o hj hz hle=>by
  unfold pe0 at hg;split at hg
  ·cases hg;obtain⟨rfl,rfl,_⟩:=hp
   match args,ha with
   | [v],ha =>
    obtain⟨⟨b',rfl,h1,h2⟩,_⟩:=ha;cases hj;exact (Fd hs hc hD (Nat.lt_of_lt_of_le hB hle) ⟨h1,h2,hz⟩).2.2
   | [],ha=>exact ha.elim
   | _::_::_,ha=>exact ha.2.elim
  ·cases hg
noncomputable abbrev cnF:Func:=f213
def qS:Code:=(f213.body).getD .skip
def gL:Code:=jV (jV (cB (cB qS)))
def XA:Code:=jV (cA (cB (cB gL)))
theorem Pp:qS=.seq (cA qS) (.seq (cA (cB qS)) (.block 0 (.loop gL))):=by kernel_rfl
theorem Po:gL=.seq (cA gL) (.seq (cA (cB gL)) (.seq (.block 1 (.seq (cA XA) (.seq (.region 4 (aE (cA (cB XA))) false) (.cond (.tmp 16) .ret .skip)))) (cB (cB (cB gL))))):=by kernel_rfl
theorem aGt:cnF.ntmps=18:=by kernel_rfl
theorem aGq (w:World) (l bb cb wd fl pt:Nat):aX prog { qG prog with x:=xO w (fun _=>none) (assoc [(6,rR wd fl pt)]) (fun _=>none) } 18 (fun _=>tC (aHy wd fl pt) fun _=>none) 60 (cA qS) (fJ 0 [.v (.im (yV l)),.v (.im (ptV bb 0)),.v (.im (ptV cb 0))]) [.slot 4 (.pt 4 0),.row 4 true (KY wd fl pt).row,.slot 0 (.im (yV l)),.slot 2 (.im (ptV cb 0))]=some ([oldOf w bb 0 (rR wd fl pt),dN (rR wd fl pt)=3,aA (rR wd fl pt)=aA (rR wd fl pt)],.nrm,[.slot 4 (.pt 4 0),.row 4 true (KY wd fl pt).row,.slot 0 (.im (yV l)),.slot 2 (.im (ptV cb 0))]):=by kernel_rfl
theorem aGp (w:World) (l r cb C:Nat) (s:St):aX prog { qG prog with x:=xO w (fun _=>none) (fun _=>none) (assoc [(8,iI C)]) } 18 (fun _=>tC T0 fun _=>none) 60 (cA (cB qS)) [.at 4 r,.slot 4 (.pt 4 0),.row 4 true s.row,.slot 0 (.im (yV l)),.slot 2 (.im (ptV cb 0))] [.at 4 r,.slot 4 (.pt 4 0),.row 4 true s.row,.slot 0 (.im (yV l)),.slot 8 (.im (iI C)),.slot 9 (.im (iI 0))]=some ([oldOf w cb 0 [.c (iI C)]],.nrm,[.at 4 r,.slot 4 (.pt 4 0),.row 4 true s.row,.slot 0 (.im (yV l)),.slot 8 (.im (iI C)),.slot 9 (.im (iI 0))]):=by kernel_rfl
def oI (l r N C i:Nat) (s:St):List Fact:=[.slot 4 (.pt 4 0),.row 4 true s.row,.at 4 r,.at 18 N,.slot 0 (.im (yV l)),.slot 8 (.im (iI C)),.slot 9 (.im (iI i))]
theorem aGv (l r N C i:Nat) (s:St):aX prog (qW (fun _=>none) kX) 18 (fun _=>tC T0 (assoc [(10,.bool true)])) 60 (cA gL) (oI l r N C i s) (.slot 10 (.im (.bool true))::oI l r N C i s)=some ([aN .lss .i64 (Int.ofNat i) (Int.ofNat C)=some (.bool true)],.nrm,.slot 10 (.im (.bool true))::oI l r N C i s):=by kernel_rfl
theorem aAz (l r N C i:Nat) (s:St):aX prog (qW (fun _=>none) kX) 18 (fun _=>tC T0 fun _=>none) 60 (cA (cB gL)) (.slot 10 (.im (.bool true))::oI l r N C i s) (oI l r N C i s)=some ([],.nrm,oI l r N C i s):=by kernel_rfl
theorem aKu (l r N C i:Nat) (s:St):aX prog (qW (fun _=>none) kX) 18 (fun _=>tC T0 (assoc [(10,.bool false)])) 60 (cA gL) (oI l r N C i s) (.slot 10 (.im (.bool false))::oI l r N C i s)=some ([aN .lss .i64 (Int.ofNat i) (Int.ofNat C)=some (.bool false)],.nrm,.slot 10 (.im (.bool false))::oI l r N C i s):=by kernel_rfl
theorem aGo (l r N C i:Nat) (s:St):aX prog (qW (fun _=>none) kX) 18 (fun _=>tC T0 fun _=>none) 60 (cA (cB gL)) (.slot 10 (.im (.bool false))::oI l r N C i s) (oI l r N C i s)=some ([],.ex 0,oI l r N C i s):=by kernel_rfl
theorem aGr (l r N C i:Nat) (s:St):aX prog (qW (fun _=>none) kX) 18 (fun _=>tC T0 fun _=>none) 60 (cA XA) (oI l r N C i s) (.slot 5 (.im (iI i))::oI l r N C i s)=some ([],.nrm,.slot 5 (.im (iI i))::oI l r N C i s):=by kernel_rfl
def aHz (s t:St) (x:Nat):Tab5:=BH 215 (pe0 s.row 0 (.one (.fl [.q x])) t.row)
theorem aGu (l r N C i x:Nat) (s t:St):cX prog (qW (fun _=>none) (aHz s t x)) 18 (tC T0 fun _=>none) ((aE (cA (cB XA))).extract 0 3) (.slot 5 (.im (iI i))::oI l r N C i s) (.slot 12 (.im (yV l)) :: .slot 13 (.im (iI i)) :: .slot 14 (.fl [.q x])::oI l r N C i t)=some ([s.row=s.row,0=0],.slot 12 (.im (yV l)) :: .slot 13 (.im (iI i)) :: .slot 14 (.fl [.q x])::oI l r N C i t):=by kernel_rfl
theorem aAy (l r N C i:Nat) (s:St):cX prog (qW (fun _=>none) kX) 18 (tC T0 fun _=>none) ((aE (cA (cB XA))).extract 4 5) [.slot 4 (.pt 4 0),.row 4 true s.row,.at 4 r,.at 18 N,.slot 0 (.im (yV l)),.slot 8 (.im (iI C)),.slot 9 (.im (iI i)),.slot 15 (.im (.bool true))] (.slot 16 (.im (.bool false))::oI l r N C i s)=some ([],.slot 16 (.im (.bool false))::oI l r N C i s):=by kernel_rfl
theorem aGs (l r N C i:Nat) (s:St):aX prog (qW (fun _=>none) kX) 18 (fun _=>tC T0 (assoc [(17,iI (i+1))])) 60 (cB (cB (cB gL))) (oI l r N C i s) (oI l r N C (i+1) s)=some ([aN .add .i64 (Int.ofNat i) 1=some (iI (i+1))],.nrm,oI l r N C (i+1) s):=by kernel_rfl
structure CnS (l r C i:Nat) (s:St) (a:Act) (w:World):Prop where
 defers:a.defers=[]
 size:a.tmps.size=18
 t0:a.tmps[0]?=some (yV l)
 t4:a.tmps[4]?=some (ptV r 0)
 t8:a.tmps[8]?=some (iI C)
 t9:a.tmps[9]?=some (iI i)
 own:Own w r s.row
theorem CnS.holds {l r C i:Nat} {s:St} {a:Act} {w:World} (h:CnS l r C i s a w):Holds 18 r w (oI l r w.heap.size C i s) a w :=
 h.own.holds (k:=4) (ts:=[(0,yV l),(8,iI C),(9,iI i)]) h.defers h.size rfl h.t4 (fun x hx=>by
  simp only[List.mem_cons,List.not_mem_nil,or_false]at hx
  rcases hx with rfl|rfl|rfl
  ·exact h.t0
  ·exact h.t8
  ·exact h.t9)
theorem Holds.cns {l r C i:Nat} {s:St} {A:List Fact} {a:Act} {w w':World} (h:Holds 18 r w A a w') (hA:∀φ∈oI l r w.heap.size C i s,φ∈A) (hlt:r<w.heap.size):CnS l r C i s a w'∧WrC w w' r:=by
 have hW:=h.wrcK (k:=4) (l:=s.row) (hA _ (by simp[oI])) (hA _ (by simp[oI])) (hA _ (by simp[oI]));exact⟨⟨h.defers,h.size,h.slot (hA _ (by simp[oI])),h.ptS (s:=4) (k:=4) (o:=0) (hA _ (by simp[oI])) (hA _ (by simp[oI])),h.slot (hA _ (by simp[oI])),h.slot (hA _ (by simp[oI])),hW.1.own hlt hW.2⟩,hW.1⟩
def cnV (i x:Nat):Array Value:=#[iI i,.agg (aA [At.q x]).toArray]
theorem Fe {W1:World} {l bb cb C wd fl pt:Nat} {fu:Nat} {sq:Nat→St} {xs:Nat→Nat} (hbox:oldOf W1 bb 0 (rR wd fl pt)) (hcb:oldOf W1 cb 0 [.c (iI C)]) (b1:wd<4611686018427387904) (b2:fl<4611686018427387904) (b3:pt<4611686018427387904) (hC:C<4611686018427387904) (hg1:2<W1.heap.size)
  (h0:sq 0=KY wd fl pt) (hx:∀i,i<C→zK fu (sq i)=some (xs i,sq (i+1))) (J:Nat→Nat→World→Prop)
  (hJD:∀r i W,J r i W→Dbj W)
  (hJ0:∀r W,W1.heap.size≤r→Below W1.heap.size W1 W→r<W.heap.size→Shape W1 W→J r 0 W) (hJw:∀r i W W',W1.heap.size≤r→J r i W→WrC W W' r→J r i W')
  (hR:∀r i W,W1.heap.size≤r→i<C→J r i W→Own W r (sq (i+1)).row→∃rec,W.heap[l]?=some (.loop rec)∧rec.params.size=2 ∧
   RoundIn Fence.wide 0 prog l rec.fn ((rec.params.zip (cnV i (xs i))).foldl (fun t (p,v)=>t.setIfInBounds p v) rec.tmps) rec.assign rec.body W fun e W'=>e=.returned (.bool true)∧J r (i+1) W'∧Own W' r (sq (i+1)).row) :
  Calls prog 213 #[yV l,ptV bb 0,ptV cb 0] W1 fun e W'=>(∃v,e=.returned v)∧∃r,J r C W':=by
 have hok:∀i,i≤C→(sq i).ok:=fun i=>by
  induction i with
  | zero=>intro _; rw[h0]; exact PF _ _ _
  | succ i ih=>intro hi; exact (DU (ih (by omega)) (hx i (by omega))).1
 have hG:∀base w,bQ prog (qG prog) base w:=fun _ _=>(aV _).w _ _
 have hq:∀base w,bQ prog (qW (fun _=>none) kX) base w:=fun _ _=>nP (jL _) _ _
 have hT:∀base w,∀n d:Nat,TabOkW prog T0 base w:=fun _ _ _ _=>(bP _).w _ _
 have hnt:f213.ntmps=18:=aGt;refine cM func213 (cs:=[.v (.im (yV l)),.v (.im (ptV bb 0)),.v (.im (ptV cb 0))]) (args:=[yV l,ptV bb 0,ptV cb 0]) (c:=qS) rfl ⟨rfl,rfl,rfl,trivial⟩ (Nat.le_of_ble_eq_true (by kernel_rfl)) fun a w hA => ?_
 rw[hnt]at hA;rw[Pp];refine wp_seq (aB aI (fun _ _=>(Rh b1 b2 b3).w _ _) (dS W1 _ _ _) (aGq W1 l bb cb wd fl pt) ⟨hbox,rfl,rfl,trivial⟩ hA fun a w hA => ?_);rw[←h0]at hA;obtain⟨r,hA⟩:=hA.at (k:=4) (l:=(sq 0).row) (by simp);refine wp_seq (aB aI (hT _ _) (dS W1 _ _ _) (aGp W1 l r cb C (sq 0)) ⟨hcb,trivial⟩ hA fun a w hA => ?_);have hB1:W1.heap.size≤r:=hA.geq (k:=4) (l:=(sq 0).row) (by simp) (by simp);have hO:=hA.own (k:=4) (l:=(sq 0).row) (b:=r) (by simp) (by simp);have hS:CnS l r C 0 (sq 0) a w:=⟨hA.defers,hA.size,hA.slot (by simp),hA.ptS (s:=4) (k:=4) (o:=0) (by simp) (by simp),hA.slot (by simp),hA.slot (by simp),hO⟩;have hJ:=hJ0 r w hB1 hA.below hO.lt hA.shape;clear hA hO;refine wp_block ?_;refine dU (n:=C+1) ?_;have wl:∀Q a w,(Code.seq (cA gL) (.seq (cA (cB gL)) (.seq (.block 1 (.seq (cA XA) (.seq (.region 4 (aE (cA (cB XA))) false) (.cond (.tmp 16) .ret .skip)))) (cB (cB (cB gL)))))).wp prog Q a w→gL.wp prog Q a w:=fun Q a w h=>by rw[Po]; exact h
 have key:∀k i a w,i+k=C→CnS l r C i (sq i) a w→J r i w→Un prog gL (Exit.inBlock 0 (bodyPost prog f213 fun e W'=>(∃v,e=.returned v)∧∃r,J r C W')) (k+1) a w:=by
  intro k
  induction k with
  | zero =>
   intro i a w hi hS hJ;unfold Un;refine wl _ _ _ ?_;refine wp_seq (aB aI (hT _ _) (hq _ _) (aKu l r w.heap.size C i (sq i)) ⟨dM (by omega),trivial⟩ hS.holds fun a1 w1 h1 => ?_);refine wp_seq (aB aI (hT _ _) (hq _ _) (aGo l r w.heap.size C i (sq i)) trivial h1 fun a1 w1 h1 => ?_);obtain⟨hS',hW⟩:=h1.cns (fun φ h=>h) hS.own.lt;have hJ':=hJw r i w w1 hB1 hJ hW;have hi':i=C:=by omega
   subst hi';simp only[EA.out,Exit.then,Exit.inBlock,if_true];refine⟨hS'.defers,.tuple #[],?_,⟨_,rfl⟩,r,hJ'⟩;simp[results,show f213.results = #[] by kernel_rfl]
  | succ k ih =>
   intro i a w hi hS hJ;have hlt:i<C:=by omega
   have hci:=hx i hlt;have hoi:=hok i (by omega);unfold Un;refine wl _ _ _ ?_;refine wp_seq (aB aI (hT _ _) (hq _ _) (aGv l r w.heap.size C i (sq i)) ⟨fA hlt,trivial⟩ hS.holds fun a1 w1 h1 => ?_);refine wp_seq (aB aI (hT _ _) (hq _ _) (aAz l r w.heap.size C i (sq i)) trivial h1 fun a1 w1 h1 => ?_);refine wp_seq (wp_block (wp_seq (aB aI (hT _ _) (hq _ _) (aGr l r w.heap.size C i (sq i)) trivial h1 fun a1 w1 h1 => ?_)));obtain⟨hS1,hW1⟩:=h1.cns (fun φ h=>List.mem_cons_of_mem _ h) hS.own.lt;have t5:=h1.slot (s:=5) (v:=iI i) (by simp);have hJ1:=hJw r i w w1 hB1 hJ hW1;have hD1:=hJD r i w1 hJ1;clear h1;have hH1:Holds 18 r w1 (.slot 5 (.im (iI i))::oI l r w1.heap.size C i (sq i)) a1 w1:=by
    have:=hS1.own.holds (k:=4) (nt:=18) (ts:=[(5,iI i),(0,yV l),(8,iI C),(9,iI i)]) hS1.defers hS1.size rfl hS1.t4 (fun x hx=>by
     simp only[List.mem_cons,List.not_mem_nil,or_false]at hx
     rcases hx with rfl|rfl|rfl|rfl
     ·exact t5
     ·exact hS1.t0
     ·exact hS1.t8
     ·exact hS1.t9)
    exact this.sub (fun φ h=>by
     simp only[oI,List.mem_cons,List.not_mem_nil,or_false]at h
     rcases h with rfl|rfl|rfl|rfl|rfl|rfl|rfl|rfl<;>simp)
   refine wp_seq ?_;refine (wpIn_wide (n:=1)).1 ?_;show Code.wpIn (rF none) 1 _ _ _ _ _;refine wpIn_region ?_;rw[show List.range (aE (cA (cB XA))).size=List.range' 0 ((aE (cA (cB XA))).extract 0 3).size++(3::(List.range' 4 ((aE (cA (cB XA))).extract 4 5).size++[])) by kernel_rfl];have hg:2<r:=Nat.lt_of_lt_of_le hg1 hB1;refine sE (c:=tC T0 _) (hT _ _ 0) (ZQ (T5:=aHz (sq i) (sq (i+1)) (xs i)) fun w' hb=>Fc hoi hci (hD1.on hg hb) hg) (aGu l r w1.heap.size C i (xs i) (sq i) (sq (i+1))) ⟨rfl,rfl,trivial⟩ (by kernel_rfl) (by kernel_rfl) hH1 fun a2 w2 h2 => ?_
   obtain⟨hS2,hW2⟩:=h2.cns (fun φ h=>List.mem_cons_of_mem _ (List.mem_cons_of_mem _ (List.mem_cons_of_mem _ h))) hS1.own.lt;have t12:=h2.slot (s:=12) (v:=yV l) (by simp);have t13:=h2.slot (s:=13) (v:=iI i) (by simp);have t14:=h2.slotF (s:=14) (l:=[.q (xs i)]) (by simp);have hJ2:=hJw r i w1 w2 hB1 hJ1 hW2;obtain⟨rec,hrec,hsz,hround⟩:=hR r i w2 hB1 hlt hJ2 hS2.own;obtain⟨o3,ho3,⟨ts3,hop3⟩,hd3,hg3⟩:∃x,(aE (cA (cB XA)))[3]?=some x∧(∃ts,x.op=.call ⟨.value (.tmp 12),#[.tmp 13,.tmp 14],ts⟩)∧x.dst=some 15∧x.guard=none:=⟨_,rfl,⟨_,rfl⟩,rfl,rfl⟩
   refine CS ho3 hg3 (ET (l:=l) (vs:=cnV i (xs i)) hop3 (by rw[cR t12]; rfl) (by simp[cR t13,cR t14,cnV]) hrec (by rw[hsz]; rfl) (hround.mono ?_))
   rintro e W' ⟨rfl,hJ',hO'⟩
   refine⟨_,rfl,?_⟩;rw[hd3];change wpOpsIn (rF none) 1 prog (aE (cA (cB XA))) _ _ (a2.put (some 15) (.bool true)) W';have hH:Holds 18 r W' [.slot 4 (.pt 4 0),.row 4 true (sq (i+1)).row,.at 4 r,.at 18 W'.heap.size,.slot 0 (.im (yV l)),.slot 8 (.im (iI C)),.slot 9 (.im (iI i)),.slot 15 (.im (.bool true))] (a2.put (some 15) (.bool true)) W' :=
    hO'.holds (k:=4) (ts:=[(0,yV l),(8,iI C),(9,iI i),(15,.bool true)]) hS2.defers (by rw[aH]; exact hS2.size) rfl (aQ hS2.t4 (by decide)) (fun x hx=>by
     simp only[List.mem_cons,List.not_mem_nil,or_false]at hx
     rcases hx with rfl|rfl|rfl|rfl
     ·exact aQ hS2.t0 (by simp)
     ·exact aQ hS2.t8 (by simp)
     ·exact aQ hS2.t9 (by simp)
     ·exact aT _ _ _ (by rw[hS2.size]; decide))
   refine sE (c:=tC T0 _) (hT _ _ 0) (hq _ _) (aAy l r W'.heap.size C i (sq (i+1))) trivial (by kernel_rfl) (by kernel_rfl) hH fun a5 w5 h5 => ?_
   obtain⟨hS5,hW5⟩:=h5.cns (fun φ h=>List.mem_cons_of_mem _ h) hO'.lt;have hc:=h5.imV (s:=16) (v:=.bool false) (by simp);have hJ5:=hJw r (i+1) W' w5 hB1 hJ' hW5;show (Code.cond (.tmp 16) .ret .skip).wp _ _ _ _;refine wp_cond_false hc (wp_skip ?_);simp only[Exit.then,Exit.inBlock];refine aB aI (hT _ _) (hq _ _) (aGs l r w5.heap.size C i (sq (i+1))) ⟨gN (k:=1) (by omega),trivial⟩ hS5.holds fun a6 w6 h6 => ?_
   obtain⟨hS6,hW6⟩:=h6.cns (fun φ h=>h) hS5.own.lt;exact ih (i+1) a6 w6 (by omega) hS6 (hJw r (i+1) w5 w6 hB1 hJ5 hW6)
 exact key C 0 a w (by omega) hS hJ
theorem rQ {nt:Nat} {w:World} {a:Act} {ts:List (Nat×TV)} (hd:a.defers=[]) (hs:a.tmps.size=nt) (ht:∀x∈ts,a.tmps[x.1]?=some x.2.den):Holds nt w.heap.size w (ts.map fun x=>.slot x.1 x.2.av) a w:=by
 refine⟨hd,hs,Below.refl _ _,Nat.le_refl _,fun _=>(w.heap.size,0,0),fun φ hφ => ?_,fun k k' o' l l' h1 => ?_,fun k l h1 => ?_,Nat.le_refl _,fun p h1 h2=>⟨rfl,rfl⟩,Shape.refl _⟩
 ·obtain⟨x,hx,rfl⟩:=List.mem_map.1 hφ;show a.tmps[x.1]?=_;rw[TV.av_den];exact ht x hx
 ·obtain⟨x,_,e⟩:=List.mem_map.1 h1; cases e
 ·obtain⟨x,_,e⟩:=List.mem_map.1 h1; cases e
def Hp (bb cb:Nat):Value:=.func (.func 213) #[] #[ptV bb 0,ptV cb 0]
def pD:Code:=(f196.body).getD .skip
theorem Fi:pD=.seq (cA pD) (.seq (cA (cB pD)) .ret):=by kernel_rfl
theorem aAL:f196.ntmps=6:=by kernel_rfl
theorem aAK (wd fl pt C:Nat):aX prog (qG prog) 6 (fun _=>tC T0 fun _=>none) 60 (cA pD) (fJ 0 [.v (.fl (rR wd fl pt)),.v (.im (iI C))]) [.slot 2 (.pt 2 0),.row 2 true (rR wd fl pt),.slot 3 (.pt 3 0),.row 3 true [.c (iI C)]]=some ([],.nrm,[.slot 2 (.pt 2 0),.row 2 true (rR wd fl pt),.slot 3 (.pt 3 0),.row 3 true [.c (iI C)]]):=by kernel_rfl
theorem aAJ (wd fl pt C bb cb:Nat):aX prog (qG prog) 6 (fun _=>tC T0 fun _=>none) 60 (cA (cB pD)) [.at 3 cb,.at 2 bb,.slot 2 (.pt 2 0),.row 2 true (rR wd fl pt),.slot 3 (.pt 3 0),.row 3 true [.c (iI C)]] [.slot 4 (.im (Hp bb cb)),.at 2 bb,.at 3 cb,.row 2 true (rR wd fl pt),.row 3 true [.c (iI C)]]=some ([],.nrm,[.slot 4 (.im (Hp bb cb)),.at 2 bb,.at 3 cb,.row 2 true (rR wd fl pt),.row 3 true [.c (iI C)]]):=by kernel_rfl
theorem VV (w0:World) (wd fl pt C:Nat):Calls prog 196 [.agg (aA (rR wd fl pt)).toArray,iI C].toArray w0 fun e w'=>∃bb cb,e=.returned (Hp bb cb)∧Below w0.heap.size w0 w'∧oldOf w' bb 0 (rR wd fl pt)∧oldOf w' cb 0 [.c (iI C)]:=by
 have hG:bQ prog (qG prog) w0.heap.size w0:=(aV _).w _ _;have hT:∀n d:Nat,TabOkW prog T0 w0.heap.size w0:=fun _ _=>(bP _).w _ _
 refine cM func196 (cs:=[.v (.fl (rR wd fl pt)),.v (.im (iI C))]) (args:=[.agg (aA (rR wd fl pt)).toArray,iI C]) (c:=pD) rfl ⟨rfl,rfl,trivial⟩ (Nat.le_of_ble_eq_true (by kernel_rfl)) fun a w hA => ?_
 rw[aAL]at hA;rw[Fi];refine wp_seq (aB aI hT hG (aAK wd fl pt C) trivial hA fun a w hA => ?_);obtain⟨bb,hA⟩:=hA.at (k:=2) (l:=rR wd fl pt) (by simp);obtain⟨cb,hA⟩:=hA.at (k:=3) (l:=[.c (iI C)]) (by simp);refine wp_seq (aB aI hT hG (aAJ wd fl pt C bb cb) trivial hA fun a w hA=>wp_ret ?_);exact cN (l:=[.im (Hp bb cb)]) (r:=.one (.im (Hp bb cb))) (by kernel_rfl) (by kernel_rfl) hA ⟨bb,cb,rfl,hA.below,hA.old (k:=2) (by simp) (by simp),hA.old (k:=3) (by simp) (by simp)⟩
noncomputable abbrev csF:Func:=f161
def oH:Code:=(f161.body).getD .skip
def cs1:Code:=cA (cB oH)
def csX:Code:=cA (cB (cB oH))
def csY:Code:=cB (cB (cB oH))
def aAw:Code:=jV (cB csX)
def Ez:Code:=cA (Wf aAw)
def Ey:Code:=cB (Wf aAw)
def DV:Code:=jV (rfB aAw)
theorem Pm:oH=.seq (cA oH) (.seq (.region 1 (aE cs1) false) (.seq (.seq (.region 2 (aE (cA csX)) false) (.block 0 (.rangeFunc (.tmp 18) #[19,20] (.seq (.region 3 (aE Ez) false) (.region 4 (aE Ey) false)) (.block 1 (.region 5 (aE DV) false))))) (.seq (.region 6 (aE (cA csY)) false) .ret))):=by kernel_rfl
theorem aFY:csF.ntmps=26:=by kernel_rfl
def tD (C:Nat):List At:=cJ (fun _=>[.q 0]) 0 C
def xMk (C:Nat):Ext:={ Ext.none with mks:=assoc [(14,(C,tD C))],T2:=WR,T3:=SS,T4:=XB,T5:=kX,T6:=Gy }
theorem Ul (C:Nat) (base:Nat) (w:World):bQ prog { qG prog with x:=xMk C } base w :=
 ⟨(aV _).1,jT (fun b o l h=>h.elim) (fun w' _=>FrAt.none _ _) (fun w' _=>FsAt.none _ _)⟩
theorem aFU (wd fl pt:Nat):aX prog (qG prog) 26 (fun _=>tC T0 fun _=>none) 60 (cA oH) (fJ 0 [.v (.fl (rR wd fl pt))]) [.slot 1 (.pt 1 0),.row 1 true (rR wd fl pt)]=some ([],.nrm,[.slot 1 (.pt 1 0),.row 1 true (rR wd fl pt)]):=by kernel_rfl
theorem aGa (wd fl pt S C:Nat):cX prog { qG prog with x:=xMk C } 26 (tC T0 (assoc [(12,iI S),(13,iI C)])) ((aE cs1).extract 0 9) [.slot 1 (.pt 1 0),.row 1 true (rR wd fl pt)] [.slot 14 (.sl 14 0 C C),.row 14 true (tD C),.slot 1 (.pt 1 0),.row 1 true (rR wd fl pt)]=some ([aN .add .i64 (Int.ofNat fl) (Int.ofNat pt)=some (iI S),aN .mul .i64 (Int.ofNat wd) (Int.ofNat S)=some (iI C),∃e,∀w:World,(Instr.makeSlice 56 (iI C) (iI C)).run prog w=.ok (.slice (some ⟨w.heap.size,0,none⟩) C C) (w.alloc (.cells (aA (tD C)).toArray e))],[.slot 14 (.sl 14 0 C C),.row 14 true (tD C),.slot 1 (.pt 1 0),.row 1 true (rR wd fl pt)]):=by kernel_rfl
theorem aFZ (b1 bl C:Nat):cX prog (qG prog) 26 (tC T0 fun _=>none) ((aE cs1).extract 9 11) [.slot 14 (.im (aM bl 0 C C)),.slot 1 (.im (ptV b1 0))] [.slot 3 (.pt 3 0),.row 3 true [.c (aM bl 0 C C)],.slot 1 (.im (ptV b1 0))]=some ([],[.slot 3 (.pt 3 0),.row 3 true [.c (aM bl 0 C C)],.slot 1 (.im (ptV b1 0))]):=by kernel_rfl
theorem aKs (w:World) (wd fl pt b1 b3 bl C:Nat):cX prog { qG prog with x:=xO w (fun _=>none) (assoc [(15,rR wd fl pt)]) (assoc [(16,aM bl 0 C C)]) } 26 (tC T0 fun _=>none) ((aE (cA csX)).extract 0 3) [.slot 1 (.im (ptV b1 0)),.slot 3 (.im (ptV b3 0))] [.slot 15 (.fl (rR wd fl pt)),.slot 17 (.im (iI C)),.slot 3 (.im (ptV b3 0))]=some ([oldOf w b1 0 (rR wd fl pt),dN (rR wd fl pt)=3,oldOf w b3 0 [.c (aM bl 0 C C)]],[.slot 15 (.fl (rR wd fl pt)),.slot 17 (.im (iI C)),.slot 3 (.im (ptV b3 0))]):=by kernel_rfl
theorem aFX (i x b3:Nat):aX prog (qG prog) 26 (fun _=>tC T0 fun _=>none) 1 (.region 3 (aE Ez) false) [.slot 19 (.im (iI i)),.slot 20 (.fl [.q x]),.slot 3 (.im (ptV b3 0))] [.slot 4 (.im (iI i)),.slot 20 (.fl [.q x]),.slot 3 (.im (ptV b3 0))]=some ([],.nrm,[.slot 4 (.im (iI i)),.slot 20 (.fl [.q x]),.slot 3 (.im (ptV b3 0))]):=by kernel_rfl
theorem aFW (i x b3:Nat):aX prog (qG prog) 26 (fun _=>tC T0 fun _=>none) 1 (.region 4 (aE Ey) false) [.slot 4 (.im (iI i)),.slot 20 (.fl [.q x]),.slot 3 (.im (ptV b3 0))] [.slot 4 (.im (iI i)),.slot 5 (.pt 5 0),.row 5 true [.q x],.slot 3 (.im (ptV b3 0))]=some ([],.nrm,[.slot 4 (.im (iI i)),.slot 5 (.pt 5 0),.row 5 true [.q x],.slot 3 (.im (ptV b3 0))]):=by kernel_rfl
theorem aFV (w:World) (i x b3 b5 bl C:Nat):cX prog { qG prog with x:=xO w (assoc [(24,i)]) (assoc [(23,[.q x])]) (assoc [(21,aM bl 0 C C)]) } 26 (tC T0 fun _=>none) ((aE DV).extract 0 4) [.slot 4 (.im (iI i)),.slot 5 (.im (ptV b5 0)),.slot 3 (.im (ptV b3 0))] [.slot 24 (.im (ptV bl (0+i*4))),.slot 23 (.fl [.q x]),.slot 3 (.im (ptV b3 0))]=some ([oldOf w b3 0 [.c (aM bl 0 C C)],oldOf w b5 0 [.q x],dN [.q x]=4,Int.ofNat i=Int.ofNat i,i<C],[.slot 24 (.im (ptV bl (0+i*4))),.slot 23 (.fl [.q x]),.slot 3 (.im (ptV b3 0))]):=by kernel_rfl
theorem aFT (W:World) (b3 bl C:Nat):aX prog { qG prog with x:=xO W (fun _=>none) (fun _=>none) (assoc [(25,aM bl 0 C C)]) } 26 (fun _=>tC T0 fun _=>none) 1 (.region 6 (aE (cA csY)) false) [.slot 3 (.im (ptV b3 0))] [.slot 2 (.im (aM bl 0 C C))]=some ([oldOf W b3 0 [.c (aM bl 0 C C)]],.nrm,[.slot 2 (.im (aM bl 0 C C))]):=by kernel_rfl
theorem Own.putO {w:World} {b l:Nat} {row:List At} {r:Loop} {o:Obj} (h:Own w b row) (hl:w.heap[l]?=some (.loop r)) (hne:b≠l):Own (w.putObj l o) b row :=
 ⟨by rw[World.putObj_size]; exact h.lt,lO hl hne h.row,fun j=>(lQ hl (p:=⟨b,j,none⟩) hne).2.trans (h.free j)⟩
theorem Dbj.putO {w:World} {l:Nat} {r:Loop} {o:Obj} (h:Dbj w) (hl:w.heap[l]?=some (.loop r)) (hne:2≠l):Dbj (w.putObj l o):=fun j hj=>((lQ hl (p:=⟨2,j,none⟩) hne).1).trans (h j hj)
theorem Vn:(prog.info? 27).map (·.size)=some 4:=by kernel_rfl
structure CJ (n0:Nat) (w0:World) (b3 bl C D:Nat) (xs:Nat→Nat) (rec:Loop) (r i:Nat) (W:World):Prop where
 below:Below n0 w0 W
 lst:Own W bl (nH (el xs) [.q 0] C i)
 box:Own W b3 [.c (aM bl 0 C C)]
 dj:Dbj W
 gl:2<n0
 n3:b3≠r
 nb:bl≠r
 n3b:b3≠bl
 d3:b3<D
 db:bl<D
 lb:n0≤bl
 hD:W.heap[D]?=some (.deferred (some []))
 hl:W.heap[D+1]?=some (.loop rec)
section
variable {n0:Nat} {w0:World} {b3 bl C D:Nat} {xs:Nat→Nat} {rec:Loop} {r i:Nat} {W W':World}
theorem CJ.wrc (h:CJ n0 w0 b3 bl C D xs rec r i W) (hn:n0≤r) (hW:WrC W W' r):CJ n0 w0 b3 bl C D xs rec r i W' :=
 ⟨h.below.trans (hW.below.mono hn),h.lst.wr hW h.nb,h.box.wr hW h.n3,h.dj.on (Nat.lt_of_lt_of_le h.gl hn) hW.below,h.gl,h.n3,h.nb,h.n3b,h.d3,h.db,h.lb,hW.shape.2.same _ _ h.hD rfl,hW.shape.2.same _ _ h.hl rfl⟩
theorem CJ.on (h:CJ n0 w0 b3 bl C D xs rec r i W) (hW:Below W.heap.size W W'):CJ n0 w0 b3 bl C D xs rec r i W' :=
 have hn:n0≤W.heap.size:=Nat.le_of_lt (Nat.lt_of_le_of_lt h.lb h.lst.lt)
 ⟨h.below.trans (hW.mono hn),h.lst.on hW,h.box.on hW,h.dj.on (Nat.lt_of_lt_of_le h.gl hn) hW,h.gl,h.n3,h.nb,h.n3b,h.d3,h.db,h.lb,(Shape.below hW).2.same _ _ h.hD rfl,(Shape.below hW).2.same _ _ h.hl rfl⟩
theorem Ql {row:List At} {a0:Act} (hJ:CJ n0 w0 b3 bl C D xs rec r i W) (hO:Own W r row) (hrD:D+1<r) (hi:i<C)
  (hr:rec.state=.ready) (hp:rec.pending=none) (hps:rec.params = #[19,20]) (ht:rec.tmps=a0.tmps) (hsz:a0.tmps.size=26) (h3:a0.tmps[3]?=some (ptV b3 0)) (has:rec.assign=.seq (.region 3 (aE Ez) false) (.region 4 (aE Ey) false)) (hbo:rec.body=.block 1 (.region 5 (aE DV) false)) :
  RoundIn Fence.wide 0 prog (D+1) rec.fn ((rec.params.zip (cnV i (xs i))).foldl (fun t (p,v)=>t.setIfInBounds p v) rec.tmps) rec.assign rec.body W fun e W'=>e=.returned (.bool true)∧CJ n0 w0 b3 bl C D xs rec r (i+1) W'∧Own W' r row:=by
 have htm:(rec.params.zip (cnV i (xs i))).foldl (fun t (p,v)=>t.setIfInBounds p v) rec.tmps=((a0.put (some 19) (iI i)).put (some 20) (.agg (aA [At.q (xs i)]).toArray)).tmps:=by
  rw[hps,ht]; simp[Act.put,cnV]
 rw[htm,has,hbo];have hH:Holds 26 W.heap.size W [.slot 19 (.im (iI i)),.slot 20 (.fl [.q (xs i)]),.slot 3 (.im (ptV b3 0))] { tmps:=((a0.put (some 19) (iI i)).put (some 20) (.agg (aA [At.q (xs i)]).toArray)).tmps,defers:=[] } W :=
  rQ (ts:=[(19,.im (iI i)),(20,.fl [.q (xs i)]),(3,.im (ptV b3 0))]) rfl (by show ((a0.put (some 19) _).put (some 20) _).tmps.size=26; rw[aH,aH,hsz]) (fun x hx=>by
   simp only[List.mem_cons,List.not_mem_nil,or_false]at hx
   rcases hx with rfl|rfl|rfl
   ·exact aQ (aT _ _ _ (by rw[hsz]; decide)) (by simp)
   ·exact aT _ _ _ (by rw[aH,hsz]; decide)
   ·exact aQ (aQ h3 (by simp)) (by simp))
 have hT:∀base w,∀d:Nat,TabOkW prog T0 base w:=fun _ _ _=>(bP _).w _ _
 have hG:∀base w,bQ prog (qG prog) base w:=fun _ _=>(aV _).w _ _
 refine FX (K0:=fun a w=>Holds 26 W.heap.size W [.slot 4 (.im (iI i)),.slot 5 (.pt 5 0),.row 5 true [.q (xs i)],.slot 3 (.im (ptV b3 0))] a w)
  (wpIn_seq (MD (c:=tC T0 _) aI (hT _ _) (hG _ _) (aFX i (xs i) b3) trivial (by kernel_rfl) hH fun a w hA=>MD (c:=tC T0 _) aI (hT _ _) (hG _ _) (aFW i (xs i) b3) trivial (by kernel_rfl) hA fun a w hA=>⟨rfl,hA⟩)) fun a1 w1 hA1 => ?_
 obtain⟨b5,hA1⟩:=hA1.at (k:=5) (l:=[.q (xs i)]) (by simp);have hb1:=hA1.below;have hJ1:=hJ.on hb1;have hO1:=hO.on hb1;have h5:oldOf w1 b5 0 [.q (xs i)]:=hA1.old (k:=5) (by simp) (by simp);have h5g:W.heap.size≤b5:=hA1.geq (k:=5) (l:=[.q (xs i)]) (by simp) (by simp);have hDW:D+1<W.heap.size:=(Array.getElem?_eq_some_iff.1 hJ.hl).1;refine⟨rec,hJ1.hl,hr,?_⟩;have hl1:=hJ1.hl;have hlt1:D+1<w1.heap.size:=(Array.getElem?_eq_some_iff.1 hl1).1;have hgD:2≠D+1:=fun e=>by have:=hJ.gl; have:=hJ.lb; have:=hJ.db; omega
 have hbD:bl≠D+1:=fun e=>by have:=hJ.db; omega
 have h3D:b3≠D+1:=fun e=>by have:=hJ.d3; omega
 have hrD':r≠D+1:=fun e=>by omega
 have hn0:n0≤D+1:=by have:=hJ.lb; have:=hJ.db; omega
 generalize hw2:w1.putObj (D+1) (.loop { rec with state:=.busy })=w2;have hl2:w2.heap[D+1]?=some (.loop { rec with state:=.busy }):=by rw[←hw2]; exact World.putObj_heap_same hlt1
 have hE2:Own w2 bl (nH (el xs) [.q 0] C i):=by rw[←hw2]; exact hJ1.lst.putO hl1 hbD
 have hX2:Own w2 b3 [.c (aM bl 0 C C)]:=by rw[←hw2]; exact hJ1.box.putO hl1 h3D
 have hO2:Own w2 r row:=by rw[←hw2]; exact hO1.putO hl1 hrD'
 have hG2:Dbj w2:=by rw[←hw2]; exact hJ1.dj.putO hl1 hgD
 have hB2:Below n0 w0 w2:=by rw[←hw2]; exact gV hJ1.below hn0 _
 have hD2:w2.heap[D]?=some (.deferred (some [])):=by rw[←hw2]; exact (World.putObj_heap_other (by omega)).trans hJ1.hD
 have h52:oldOf w2 b5 0 [.q (xs i)]:=by rw[←hw2]; exact⟨by rw[World.putObj_size]; exact h5.1,lO hl1 (by omega) h5.2⟩
 have hS2:=aU (nt:=26) (w:=w2) (a:=a1) (ts:=[(4,iI i),(5,ptV b5 0),(3,ptV b3 0)]) hA1.defers hA1.size (fun x hx=>by
  simp only[List.mem_cons,List.not_mem_nil,or_false]at hx
  rcases hx with rfl|rfl|rfl
  ·exact hA1.slot (by simp)
  ·exact hA1.ptS (s:=5) (k:=5) (o:=0) (by simp) (by simp)
  ·exact hA1.slot (by simp))
 clear hA1 hw2;refine wpIn_block (wpIn_region ?_);rw[show List.range (aE DV).size=List.range' 0 ((aE DV).extract 0 4).size++(4::[]) by kernel_rfl];refine sE (c:=tC T0 _) (hT _ _) (dS w2 _ _ _) (aFV w2 i (xs i) b3 b5 bl C) ⟨hX2.old rfl,h52,rfl,rfl,hi,trivial⟩ (by kernel_rfl) (by kernel_rfl) hS2 fun a3 w3 hA3 => ?_
 have hb3:=hA3.below;have hE3:=hE2.on hb3;have hX3:=hX2.on hb3;have hO3:=hO2.on hb3;have hn2:n0≤w2.heap.size:=Nat.le_of_lt (Nat.lt_of_le_of_lt hJ.lb hE2.lt);have hG3:=hG2.on (Nat.lt_of_lt_of_le hJ.gl hn2) hb3;have hB3:=hB2.trans (hb3.mono hn2);have hl3:=(Shape.below hb3).2.same _ _ hl2 rfl;have hD3:=(Shape.below hb3).2.same _ _ hD2 rfl;obtain⟨o4,ho4,hop4,hd4,hg4⟩:∃x,(aE DV)[4]?=some x∧x.op=.store 27 (.tmp 24) (.tmp 23)∧x.dst=none∧x.guard=none:=⟨_,rfl,rfl,rfl,rfl⟩
 have hput:put (nH (el xs) [.q 0] C i) (0+i*4) [.q (xs i)]=some (nH (el xs) [.q 0] C (i+1)):=GJ (f:=el xs) (c:=4) (fun _=>rfl) rfl hi (Nat.zero_add _);obtain⟨hE4,hW4⟩:=hE3.set hput;have hfs:dN (nH (el xs) [.q 0] C i)=C*4:=by
  unfold nH;rw[mR,iG (c:=4) (fun _=>rfl),iG (c:=4) (fun _=>rfl),←Nat.add_mul,show i+(C-i)=C by omega]
 refine CS ho4 hg4 (MV (Q:=fun _ _ _=>False) (K:=fun a w=>wpOpsIn (rF (some (D+1))) 0 prog (aE DV) _ [] a w) (fun c e=>by rw[hop4]at e; cases e) (fun _ _ h=>h) (fun⟨_,_,h⟩=>h) (fun _ _ _ _ h=>h.elim)
  (fL (v:=.agg (aA [At.q (xs i)]).toArray) (vs:=aA [At.q (xs i)]) hop4 hd4 (hA3.imV (s:=24) (v:=ptV bl (0+i*4)) (by simp)) (cR (hA3.slotF (s:=23) (by simp))) rfl (by simp[aA,At.cells,w4,Value.oneCell']) Vn (hE3.there (o:=0+i*4) (n:=4) (by rw[hfs]; omega)) ?_))
 generalize w3.setCells bl (0+i*4) (aA [At.q (xs i)])=w4 at *;have hl4:=hW4.shape.2.same _ _ hl3 rfl;have hlt4:D+1<w4.heap.size:=(Array.getElem?_eq_some_iff.1 hl4).1;refine⟨rfl,_,hl4,rfl,⟨gV (hB3.trans (hW4.below.mono hJ.lb)) hn0 _,hE4.putO hl4 hbD,(hX3.wr hW4 hJ.n3b).putO hl4 h3D,(hG3.on (Nat.lt_of_lt_of_le hJ.gl hJ.lb) hW4.below).putO hl4 hgD,hJ.gl,hJ.n3,hJ.nb,hJ.n3b,hJ.d3,hJ.db,hJ.lb,?_,?_⟩,(hO3.wr hW4 hJ.nb.symm).putO hl4 hrD'⟩
 ·exact (World.putObj_heap_other (by omega)).trans (hW4.shape.2.same _ _ hD3 rfl)
 ·rw[World.putObj_heap_same hlt4];obtain⟨s,pe,fn,tm,pa,sg,bo,de⟩:=rec;cases hr; cases hp;rfl
end
theorem MX {a b:Nat} (h:a*b<4611686018427387904):aN .mul .i64 (Int.ofNat a) (Int.ofNat b)=some (iI (a*b)):=by
 show some (Value.int .i64 (IntKind.i64.wrap ((a:Int)*(b:Int))))=_;rw[←Int.natCast_mul,kT (by omega)];rfl
theorem qJ {a b:Nat} (h:a+b<4611686018427387904):aN .add .i64 (Int.ofNat a) (Int.ofNat b)=some (iI (a+b)):=by
 show some (Value.int .i64 (IntKind.i64.wrap ((a:Int)+(b:Int))))=_;rw[←Int.natCast_add,kT (by omega)];rfl
theorem vN:yP (aA [At.q 0]) (.int .u64 0):=by unfold yP; kernel_rfl
theorem Ew {w0:World} {wd fl pt:Nat} {xs:Nat→Nat} {fu:Nat} {sq:Nat→St} (b1:wd<4611686018427387904) (b2:fl<4611686018427387904) (b3':pt<4611686018427387904) (hC:wd*(fl+pt)≤131072) (hs:fl+pt≤131072)
  (h0:sq 0=KY wd fl pt) (hx:∀i,i<wd*(fl+pt)→zK fu (sq i)=some (xs i,sq (i+1))) (hDj:Dbj w0) :
  Calls prog 161 [.agg (aA (rR wd fl pt)).toArray].toArray w0 (fun e w'=>FR.ok ⟨cJ (el xs) 0 (wd*(fl+pt)),wd*(fl+pt),wd*(fl+pt),[]⟩ w0 e w'):=by
 obtain⟨C,hCe⟩:∃C,wd*(fl+pt)=C:=⟨_,rfl⟩
 have hG:∀base w,bQ prog (qG prog) base w:=fun _ _=>(aV _).w _ _
 have hT:∀base w,∀n d:Nat,TabOkW prog T0 base w:=fun _ _ _ _=>(bP _).w _ _
 have hnt:=aFY;refine (callsIn_wide (n:=0)).1 (callsIn_of_wp_marks (F:=Fence.wide) func161 (c:=oH) rfl trivial ?_);refine wpIn_wide.2 ?_;have hA:Holds csF.ntmps w0.heap.size w0 (fJ 0 [.v (.fl (rR wd fl pt))]) _ w0:=kO (nt:=csF.ntmps) (cs:=[.v (.fl (rR wd fl pt))]) (args:=[.agg (aA (rR wd fl pt)).toArray]) (w:=w0) ⟨rfl,trivial⟩ (Nat.le_of_ble_eq_true (by kernel_rfl));rw[hnt]at hA;generalize ha0:({ tmps:=[Value.agg (aA (rR wd fl pt)).toArray].toArray++Array.replicate (26-[Value.agg (aA (rR wd fl pt)).toArray].toArray.size) undef,defers:=[] }:Act)=a0 at hA;show oH.wp prog _ { tmps:=[Value.agg (aA (rR wd fl pt)).toArray].toArray++Array.replicate (csF.ntmps-[Value.agg (aA (rR wd fl pt)).toArray].toArray.size) undef,defers:=[] } w0;rw[hnt,ha0,Pm];clear ha0;refine wp_seq (aB aI (hT _ _) (hG _ _) (aFU wd fl pt) trivial hA fun a w hA => ?_);refine wp_seq (bK (l:=List.range' 0 ((aE cs1).extract 0 9).size++(List.range' 9 ((aE cs1).extract 9 11).size++[])) (by kernel_rfl) ?_);refine aJ (c:=tC T0 _) (hT _ _ 0) (Ul C _ _) (aGa wd fl pt (fl+pt) C) ⟨qJ (by omega),by rw[←hCe]; exact MX (by omega),RC (t:=56) (e:=27) (z:=[.q 0]) (v:=.int .u64 0) (n:=4) (by8:=32) (by kernel_rfl) (by kernel_rfl) rfl vN (by omega) (by omega) (by omega),trivial⟩ (by kernel_rfl) hA fun a w hA => ?_
 obtain⟨bl,hA⟩:=hA.at (k:=14) (l:=tD C) (by simp);obtain⟨b1,hA⟩:=hA.at (k:=1) (l:=rR wd fl pt) (by simp);have m1:oldOf w b1 0 (rR wd fl pt):=hA.old (k:=1) (by simp) (by simp);have ml:Own w bl (tD C):=hA.own (k:=14) (by simp) (by simp);have hlb:w0.heap.size≤bl:=hA.geq (k:=14) (l:=tD C) (by simp) (by simp);have hbl:=hA.below;have hS:=aU (nt:=26) (w:=w) (a:=a) (ts:=[(14,aM bl 0 C C),(1,ptV b1 0)]) hA.defers hA.size (fun x hx=>by
  simp only[List.mem_cons,List.not_mem_nil,or_false]at hx
  rcases hx with rfl|rfl
  ·exact (hA.im (s:=14) (k:=14) (o:=0) (n:=C) (m:=C) (b:=bl) (by simp) (by simp)).slot (by simp)
  ·exact hA.ptS (s:=1) (k:=1) (o:=0) (by simp) (by simp))
 clear hA;refine aJ (c:=tC T0 _) (hT _ _ 0) (hG _ _) (aFZ b1 bl C) trivial (by kernel_rfl) hS fun a w2 hA => ?_
 obtain⟨b3,hA⟩:=hA.at (k:=3) (l:=[.c (aM bl 0 C C)]) (by simp);have hb3:w.heap.size≤b3:=hA.geq (k:=3) (l:=[.c (aM bl 0 C C)]) (by simp) (by simp);have hl3:bl<b3:=Nat.lt_of_lt_of_le ml.lt hb3;have m3:Own w2 b3 [.c (aM bl 0 C C)]:=hA.own (k:=3) (by simp) (by simp);have m1:=m1.on hA.below;have ml:=ml.on hA.below;have hbl:=hbl.trans (hA.below.mono hbl.size);have hS:=aU (nt:=26) (w:=w2) (a:=a) (ts:=[(1,ptV b1 0),(3,ptV b3 0)]) hA.defers hA.size (fun x hx=>by
  simp only[List.mem_cons,List.not_mem_nil,or_false]at hx
  rcases hx with rfl|rfl
  ·exact hA.slot (by simp)
  ·exact hA.ptS (s:=3) (k:=3) (o:=0) (by simp) (by simp))
 clear hA;show (Code.seq _ _).wp _ _ _ _;refine wp_seq (wp_seq (bK (l:=List.range' 0 ((aE (cA csX)).extract 0 3).size++(3::[])) (by kernel_rfl) ?_));refine aJ (c:=tC T0 _) (hT _ _ 0) (dS w2 _ _ _) (aKs w2 wd fl pt b1 b3 bl C) ⟨m1,rfl,m3.old rfl,trivial⟩ (by kernel_rfl) hS fun a4 w4 hA4 => ?_
 clear hS;obtain⟨o1,ho1,⟨ts1,hop1⟩,hd1,hg1⟩:∃x,(aE (cA csX))[3]?=some x∧(∃ts,x.op=.call ⟨.value (.func 196),#[.tmp 15,.tmp 17],ts⟩)∧x.dst=some 18∧x.guard=none:=⟨_,rfl,⟨_,rfl⟩,rfl,rfl⟩
 refine bE ho1 hg1 (cQ hop1 (vs:=[.agg (aA (rR wd fl pt)).toArray,iI C]) (List.cons_eq_cons.2 ⟨cR (hA4.slotF (s:=15) (by simp)),List.cons_eq_cons.2 ⟨cR (hA4.slot (s:=17) (by simp)),rfl⟩⟩) (fun args=>cC func196 (by kernel_rfl) (by kernel_rfl) args _) (VV w4 wd fl pt C) fun e w5 hr => ?_);obtain⟨bb,cb,rfl,hb5,hbox,hcb⟩:=hr;refine⟨_,rfl,?_⟩;rw[hd1];have hb4:=hA4.below;have ml5:=(ml.on hb4).on hb5;have m35:=(m3.on hb4).on hb5;have hB5:Below w0.heap.size w0 w5:=(hbl.trans (hb4.mono hbl.size)).trans (hb5.mono (Nat.le_trans hbl.size hb4.size));have h35:=aQ (d:=18) (u:=Hp bb cb) (hA4.slot (s:=3) (v:=ptV b3 0) (by simp)) (by decide);have h18:=aT a4 18 (Hp bb cb) (by rw[hA4.size]; decide);have hd5:(a4.put (some 18) (Hp bb cb)).defers=[]:=hA4.defers;have hsz5:(a4.put (some 18) (Hp bb cb)).tmps.size=26:=by rw[aH]; exact hA4.size
 generalize a4.put (some 18) (Hp bb cb)=a5 at *;clear hA4 m1 ml m3;show (Code.block 0 _).wp _ _ _ _;refine wp_block ?_;have hn5:w0.heap.size≤w5.heap.size:=hB5.size;have hgl:2<w0.heap.size:=hDj.lt;have hD5:Dbj w5:=hDj.on hgl hB5;refine zM (gf:=213) (lb:=#[ptV bb 0,ptV cb 0]) (cR h18) (fun args w=>cC func213 (by kernel_rfl) (by kernel_rfl) args w) fun fn => ?_
 generalize hrec:({ state:=.ready,pending:=none,fn,tmps:=a5.tmps,params:=#[19,20],assign:=.seq (.region 3 (aE Ez) false) (.region 4 (aE Ey) false),body:=.block 1 (.region 5 (aE DV) false),defers:=w5.heap.size }:Loop)=rec;have r1:rec.state=.ready:=by rw[←hrec]
 have r2:rec.pending=none:=by rw[←hrec]
 have r3:rec.params = #[19,20]:=by rw[←hrec]
 have r4:rec.tmps=a5.tmps:=by rw[←hrec]
 have r5:rec.assign=.seq (.region 3 (aE Ez) false) (.region 4 (aE Ey) false):=by rw[←hrec]
 have r6:rec.body=.block 1 (.region 5 (aE DV) false):=by rw[←hrec]
 clear hrec;obtain⟨W1,hW1⟩:∃W1,(w5.alloc (.deferred (some []))).alloc (.loop rec)=W1:=⟨_,rfl⟩
 rw[hW1];have hb6:Below w5.heap.size w5 W1:=by rw[←hW1]; exact ((Below.refl _ w5).alloc (Nat.le_refl _) _).alloc (by simp) _
 have hD1:W1.heap[w5.heap.size]?=some (.deferred (some [])):=by
  rw[←hW1]; exact (Below.heap_alloc _ _ _ (by simp)).trans (World.alloc_heap_new w5 _)
 have hL1:W1.heap[w5.heap.size+1]?=some (.loop rec):=by
  rw[←hW1]; have:=World.alloc_heap_new (w5.alloc (.deferred (some []))) (.loop rec); rwa [World.size_alloc]at this
 have hz1:W1.heap.size=w5.heap.size+2:=by rw[←hW1]; simp
 clear hW1;have hlst:Own W1 bl (nH (el xs) [.q 0] C 0):=by rw[Cf]; exact ml5.on hb6
 have hJ1:∀r,W1.heap.size≤r→CJ w0.heap.size w0 b3 bl C w5.heap.size xs rec r 0 W1:=fun r hr =>
  ⟨hB5.trans (hb6.mono hn5),hlst,m35.on hb6,hD5.on (Nat.lt_of_lt_of_le hgl hn5) hb6,hgl,by have:=m35.lt; omega,by have:=ml5.lt; omega,by omega,m35.lt,ml5.lt,hlb,hD1,hL1⟩
 refine Calls.mono (Fe (l:=w5.heap.size+1) (bb:=bb) (cb:=cb) (W1:=W1) (C:=C) (xs:=xs) (sq:=sq) (oldOf.go hb6 (Nat.le_refl _) hbox) (oldOf.go hb6 (Nat.le_refl _) hcb) ‹_› b2 b3' (by omega) (by rw[hz1]; exact Nat.lt_of_lt_of_le hgl (Nat.le_trans hn5 (Nat.le_add_right _ _))) h0 (by rw[←hCe]; exact hx) (fun r i W=>CJ w0.heap.size w0 b3 bl C w5.heap.size xs rec r i W)
  (fun r i W h=>h.dj) (fun r W h1 h2 _ _=>(hJ1 r h1).on h2) (fun r i W W' h1 h2 h3=>h2.wrc (by omega) h3) (fun r i W h1 h2 h3 h4=>⟨rec,h3.hl,by rw[r3]; rfl,Ql (a0:=a5) h3 h4 (by omega) h2 r1 r2 r3 r4 hsz5 h35 r5 r6⟩)) ?_
 rintro e W' ⟨⟨u,rfl⟩,r,hJ⟩
 refine⟨u,rec,rfl,hJ.hl,by rw[r1]; simp,r2,?_⟩;generalize hrx:({ rec with state:=.exhausted }:Loop)=rx;have hlt:w5.heap.size+1<W'.heap.size:=(Array.getElem?_eq_some_iff.1 hJ.hl).1;have hB7:=gV (o:=.loop rx) hJ.below (l:=w5.heap.size+1) (by omega);have hE7:=hJ.lst.putO (o:=.loop rx) hJ.hl (by have:=hJ.db; omega);have hX7:=hJ.box.putO (o:=.loop rx) hJ.hl (by have:=hJ.d3; omega);have hD7:(W'.putObj (w5.heap.size+1) (.loop rx)).heap[w5.heap.size]?=some (.deferred (some [])):=(World.putObj_heap_other (by omega)).trans hJ.hD;have hdb:=hJ.db;generalize W'.putObj (w5.heap.size+1) (.loop rx)=w7 at *;show (Code.seq _ _).wp _ _ _ _;rw[hd5];have hA7:Holds 26 w7.heap.size w7 [.slot 3 (.im (ptV b3 0))] a5 w7:=aU (ts:=[(3,ptV b3 0)]) hd5 hsz5 (fun x hx=>by
  simp only[List.mem_cons,List.not_mem_nil,or_false]at hx
  rcases hx with rfl
  exact h35)
 refine wp_seq (ZL (c:=tC T0 _) aI (hT _ _ 0) (dS w7 _ _ _) (aFT w7 b3 bl C) ⟨hX7.old rfl,trivial⟩ (by kernel_rfl) hA7 fun a8 w8 hA8 => ?_);refine wp_ret ?_;have hb8:=hA8.below;have hE8:=hE7.on hb8;have hD8:=(Shape.below hb8).2.same _ _ hD7 rfl;have hB8:Below w0.heap.size w0 w8:=hB7.trans (hb8.mono hB7.size);refine⟨by simp,.inl ⟨w5.heap.size,_,rfl,run_takeDeferred hD8,?_⟩⟩;have hbD:bl≠w5.heap.size:=by omega
 rw[Ce]at hE8;rw[hCe];refine⟨_,rW (s:=2) (by kernel_rfl) (hA8.slot (s:=2) (v:=aM bl 0 C C) (by simp)),bl,rfl,gV hB8 (by omega) _,hlb,by rw[World.putObj_size]; exact hE8.lt,fun j v hj => ?_,fun j => ?_⟩
 ·exact (World.cell?_of_block (World.putObj_heap_other hbD)).trans (hE8.row j v hj)
 ·exact (World.frozen?_of_block (World.putObj_heap_other hbD)).trans (hE8.free j)
end Go.Proofs.YtpjlhhpjpnacmaaGreatDoor.Ex
namespace Go.Proofs.YtpjlhhpjpnacmaaGreatDoor
open Go.Proofs.Tryz
open Go.ChangeShapes Go.WideShapes Go.ChangeAt Go.RowKit
def LAt (w:World) (g off len:Nat) (A:Nat→Nat→Nat):Prop:=∀k,k<len →
 w.cell? ⟨g,off+k*4,none⟩=some (.int .u64 (A k 0))∧w.cell? ⟨g,off+k*4+1,none⟩=some (.int .u64 (A k 1)) ∧
 w.cell? ⟨g,off+k*4+2,none⟩=some (.int .u64 (A k 2))∧w.cell? ⟨g,off+k*4+3,none⟩=some (.int .u64 (A k 3))
def LOk (len:Nat) (A:Nat→Nat→Nat):Prop:=∀k,k<len→cF (A k 0) (A k 1) (A k 2) (A k 3)
theorem LAt.same {w w':World} {g off len:Nat} {A:Nat→Nat→Nat} {B:Nat} (h:LAt w g off len A) (hg:0<len→g<B) (hb:Below B w w'):LAt w' g off len A :=
 fun k hk=>have hg:=hg (Nat.lt_of_le_of_lt (Nat.zero_le _) hk); ⟨(hb.cell (p:=⟨g,off+k*4,none⟩) hg).trans (h k hk).1,(hb.cell (p:=⟨g,off+k*4+1,none⟩) hg).trans (h k hk).2.1,
  (hb.cell (p:=⟨g,off+k*4+2,none⟩) hg).trans (h k hk).2.2.1,(hb.cell (p:=⟨g,off+k*4+3,none⟩) hg).trans (h k hk).2.2.2⟩
set_option maxHeartbeats 1000000 in
theorem sP (F:FC) (hF:F.Ok) (b g off len cap:Nat) (A:Nat→Nat→Nat) (hA:LOk len A) (hm:len≤9223372036854775807) (w:World) (hk:KIs w b F) (hg:0<len→g<w.heap.size) (hl:LAt w g off len A) :
  Calls prog 216 #[.pointer (some ⟨b,0,none⟩),.slice (some ⟨g,off,none⟩) len cap] w fun e w'=>(∃t:Bool,e=.returned (.bool t)∧(t=true↔∀k,k<len→aC (A k 0) (A k 1) (A k 2) (A k 3)<F.M))∧Below w.heap.size w w':=by
 have HK:=Lib.hid hk;have HL:=Lib.hid hl;have HG:=Lib.hid hg;clear hg;have HA:=Lib.hid hA;have HF:=Lib.hid hF;clear hk hl hA hF
 go_enter func216,ntmps216
 go_wp2_with fail
 go_loopw [9] (fun t wr=>∃k:Nat,k≤len∧t=.int .i64 k∧Hid (∀j,j<k→aC (A j 0) (A j 1) (A j 2) (A j 3)<F.M)∧Below w.heap.size w wr) (fun t _=>len-(intOf t).toNat)
 case atStart=>exact⟨0,Nat.zero_le _,rfl,Lib.hid (fun j h=>absurd h (by omega)),Below.refl _ _⟩
 case round =>
  obtain⟨k,hk,rfl,ha,hbl⟩:=hrel
  by_cases hlt:k<len
  ·obtain⟨a0,a1,a2,a3,e0,e1,e2,e3⟩:∃a0 a1 a2 a3:Nat,a0=A k 0∧a1=A k 1∧a2=A k 2∧a3=A k 3:=⟨_,_,_,_,rfl,rfl,rfl,rfl⟩
   have hc:=(HL.out.same HG.out hbl) k hlt;have hok:=HA.out k hlt;rw[←e0,←e1,←e2,←e3]at hc hok;have c0:=hc.1; have c1:=hc.2.1; have c2:=hc.2.2.1; have c3:=hc.2.2.2;clear hc;have HB:=Lib.hid hbl;have HR:=Lib.hid (HK.out.same hbl);clear hbl;have HE:=Lib.hid (And.intro e0 (And.intro e1 (And.intro e2 e3)));have HO:=Lib.hid hok;clear e0 e1 e2 e3 hok;have hsz:w.heap.size≤wr.heap.size:=HB.out.size;go_wp2_with fail;refine (cW F HF.out b a0 a1 a2 a3 HO.out _ (HR.out.same ((Below.refl _ _).alloc (Nat.le_refl _) _))).mono ?_
   rintro e w2 ⟨rfl,hb2⟩
   have HW:=Lib.hid ((HB.out.alloc hsz (.cells #[.int .u64 a0,.int .u64 a1,.int .u64 a2,.int .u64 a3] 27)).trans (hb2.mono (by simp; omega)));clear hb2 c0 c1 c2 c3
   by_cases hv:aC a0 a1 a2 a3<F.M
   ·rw[show yT (aC a0 a1 a2 a3) F.M=true from decide_eq_true hv];have HN:=Lib.hid (show ∀j,j<k+1→aC (A j 0) (A j 1) (A j 2) (A j 3)<F.M from fun j h=>by
     by_cases e:j=k
     ·subst e; rw[←HE.out.1,←HE.out.2.1,←HE.out.2.2.1,←HE.out.2.2.2]; exact hv
     ·exact ha.out j (by omega))
    clear hv;go_wp2_with fail
    go_round
    case rel=>exact⟨k+1,by omega,by go_num,HN,HW.out⟩
    case measure=>simp[intOf]; omega
   ·rw[show yT (aC a0 a1 a2 a3) F.M=false from decide_eq_false hv];have HN:=Lib.hid (show ¬ ∀j,j<len→aC (A j 0) (A j 1) (A j 2) (A j 3)<F.M from fun h=>hv (by
     have:=h k hlt
     rwa [←HE.out.1,←HE.out.2.1,←HE.out.2.2.1,←HE.out.2.2.2]at this))
    clear hv;go_wp2_with fail;go_ret;exact⟨⟨false,rfl,⟨fun h=>(by cases h),fun h=>absurd h HN.out⟩⟩,HW.out⟩
  ·obtain rfl:k=len:=by omega
   have HB:=Lib.hid hbl;clear hbl;go_wp2_with fail;go_ret;exact⟨⟨true,rfl,⟨fun _=>ha.out,fun _=>rfl⟩⟩,HB.out⟩
open Go.RowKit
theorem zI (n q:Nat) (h:q<n):(madeCells #[.int .u64 0,.int .u64 0,.int .u64 0,.int .u64 0] n)[q]?=some (.int .u64 0):=by
 simp only[madeCells,Array.getElem?_map,Array.getElem?_range,h,if_true,Option.map_some];have:q%4<4:=Nat.mod_lt _ (by omega);obtain⟨r,hr⟩:∃r,r=q%4:=⟨_,rfl⟩
 simp only[List.size_toArray,List.length_cons,List.length_nil,Nat.zero_add,Nat.reduceAdd,←hr];rw[←hr]at this
 rcases (show r=0∨r=1∨r=2∨r=3 by omega)with rfl|rfl|rfl|rfl<;>rfl
theorem UI:∃i:TypeInfo,prog.info? 155=some i∧i.zero=some (.agg #[.int .u64 0,.int .u64 0,.int .u64 0,.int .u64 0])∧i.size=4∧i.bytes=32:=by
 have h:(prog.info? 155).map (fun i=>(i.zero,i.size,i.bytes))=some (some (.agg #[.int .u64 0,.int .u64 0,.int .u64 0,.int .u64 0]),4,32):=by kernel_rfl
 match hi:prog.info? 155 with
 | none=>rw[hi]at h; cases h
 | some i =>
  rw[hi]at h;simp only[Option.map_some,Option.some.injEq,Prod.mk.injEq]at h;exact⟨i,rfl,h.1,h.2.1,h.2.2⟩
theorem Ol:∃i:TypeInfo,prog.info? 27=some i∧i.zero=some (.agg #[.int .u64 0,.int .u64 0,.int .u64 0,.int .u64 0])∧i.size=4∧i.bytes=32:=by
 have h:(prog.info? 27).map (fun i=>(i.zero,i.size,i.bytes))=some (some (.agg #[.int .u64 0,.int .u64 0,.int .u64 0,.int .u64 0]),4,32):=by kernel_rfl
 match hi:prog.info? 27 with
 | none=>rw[hi]at h; cases h
 | some i =>
  rw[hi]at h;simp only[Option.map_some,Option.some.injEq,Prod.mk.injEq]at h;exact⟨i,rfl,h.1,h.2.1,h.2.2⟩
theorem IQ (n:Nat) (t:TypeId) (w:World) (b:Nat) (hb:b=w.heap.size):RowIs (w.alloc (.cells (madeCells #[.int .u64 0,.int .u64 0,.int .u64 0,.int .u64 0] n) t)) b n (fun _=>0):=fun k hk=>by
 subst hb;refine⟨?_,World.frozen?_alloc_new _ _ _ _⟩;rw[World.cell?_alloc_new];exact zI n k hk
theorem aDP (n:Nat) (hn:n≤65536):∃o:Obj,(∀w,(Instr.makeSlice 270 (.int .i64 n) (.int .i64 n)).run prog w=.ok (.slice (some ⟨w.heap.size,0,none⟩) n n) (w.alloc o))∧(∀(w:World) (b:Nat),b=w.heap.size→RowIs (w.alloc o) b (n*4) (fun _=>0)):=by
 obtain⟨i,hi,hz,hs,hb⟩:=UI;refine⟨.cells (madeCells #[.int .u64 0,.int .u64 0,.int .u64 0,.int .u64 0] (n*4)) 155,fun w => ?_,fun w b hb=>IQ _ _ w b hb⟩;have h:=run_make (P:=prog) w 270 155 i _ (by kernel_rfl) hi hz .i64 .i64 n n (by omega) (Int.le_refl _) (by rw[hb]; omega) (by omega);rw[hs]at h;simpa only[Int.toNat_natCast,Value.cells]using h
theorem aDQ (n:Nat) (hn:n≤65536):∃o:Obj,(∀w,(Instr.makeSlice 56 (.int .i64 n) (.int .i64 n)).run prog w=.ok (.slice (some ⟨w.heap.size,0,none⟩) n n) (w.alloc o))∧(∀(w:World) (b:Nat),b=w.heap.size→RowIs (w.alloc o) b (n*4) (fun _=>0)):=by
 obtain⟨i,hi,hz,hs,hb⟩:=Ol;refine⟨.cells (madeCells #[.int .u64 0,.int .u64 0,.int .u64 0,.int .u64 0] (n*4)) 27,fun w => ?_,fun w b hb=>IQ _ _ w b hb⟩;have h:=run_make (P:=prog) w 56 27 i _ (by kernel_rfl) hi hz .i64 .i64 n n (by omega) (Int.le_refl _) (by rw[hb]; omega) (by omega);rw[hs]at h;simpa only[Int.toNat_natCast,Value.cells]using h
def rD (M:Nat) (A:Nat→Nat):Nat→Nat
 | 0=>1
 | k+1=>if A k=0 then rD M A k else rD M A k*A k%M
theorem MP {M g:Nat} (hr:Root M g) (h2:2≤M) {E:Nat→Nat}:∀{j:Nat},(∀k,k<j→E k<M)→0<rD M E j∧rD M E j<M
 | 0,_=>⟨by show 0<1; omega,by show 1<M; omega⟩
 | j+1,hE=>by
  have ih:=MP hr h2 (E:=E) (j:=j) (fun k h=>hE k (by omega));have e:=hE j (by omega);show 0<(if E j=0 then rD M E j else rD M E j*E j%M)∧(if E j=0 then rD M E j else rD M E j*E j%M)<M
  by_cases hz:E j=0
  ·rw[if_pos hz]; exact ih
  ·rw[if_neg hz]; exact⟨mul_ne hr h2 ih.1 ih.2 (by omega) e,Nat.mod_lt _ (by omega)⟩
theorem IY {M g p a:Nat} (hr:Root M g) (h2:2≤M) (hp0:0<p) (hp:p<M) (ha0:0<a) (ha:a<M) :
  (p*a%M)^(M-2)*a%M=p^(M-2)%M:=by
 have hne:=mul_ne hr h2 hp0 hp ha0 ha;have hlt:p*a%M<M:=Nat.mod_lt _ (by omega);have i1:=vO hr h2 hne hlt;have i2:=vO hr h2 hp0 hp;refine (fun e => ?_) (KD hr h2 hp0 hp (b:=(p*a%M)^(M-2)*a) (c:=p^(M-2)) ?_)
 ·exact e
 ·rw[←oX p (p^(M-2)),i2,←i1,oX,oY];congr 1;rw[Nat.mul_comm ((p*a%M)^(M-2)) a,←Nat.mul_assoc]
theorem KIs.set4 {w:World} {b d:Nat} {F:FC} (h:KIs w b F) (hd:d≠b) (d0 d1 d2 d3:Nat):KIs (Go.Proofs.YtpjlhhpjpnacmaaGreatDoor.set4 w d d0 d1 d2 d3) b F:=(((h.other hd _).other hd _).other hd _).other hd _
theorem uH {a0 a1 a2 a3 b0 b1 b2 b3:Nat} (h:¬yU a0 a1 a2 a3 b0 b1 b2 b3=true):yU a0 a1 a2 a3 b0 b1 b2 b3=false:=by cases q:yU a0 a1 a2 a3 b0 b1 b2 b3 with|false=>rfl|true=>exact absurd q h
end Go.Proofs.YtpjlhhpjpnacmaaGreatDoor
