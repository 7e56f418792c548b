/- Eo08 -/
import Derived.Laws.MakeOwn
import Derived.Deep.DeepCutAuto
import Derived.Test.YtpjlhhpjpnacmaaGreatDoorEo07
import Derived.Test.YtpjlhhpjpnacmaaGreatDoorEo05
import Derived.Test.YtpjlhhpjpnacmaaGreatDoorEo04
import Derived.Test.YtpjlhhpjpnacmaaGreatDoorProg
set_option maxRecDepth 100000
set_option linter.unusedVariables false
set_option linter.unusedSimpArgs false
set_option linter.unnecessarySimpa false
noncomputable section
namespace Go.Proofs.YtpjlhhpjpnacmaaGreatDoor.Ex
open Go.Proofs.Tryz
open Go.RowKit
theorem pR {nt:Nat} {w:World} {a:Act} {ts:List (Nat×TV)} (hd:a.defers=[]) (hs:a.tmps.size=nt) (ht:∀x∈ts,a.tmps[x.1]?=some x.2.den):Holds nt w.heap.size w (ts.map fun x=>.slot x.1 x.2.av) a w:=by
 refine⟨hd,hs,Below.refl _ _,Nat.le_refl _,fun _=>(w.heap.size,0,0),fun φ hφ => ?_,fun k k' o' l l' h1 => ?_,fun k l h1 => ?_,Nat.le_refl _,fun p h1 h2=>⟨rfl,rfl⟩,Shape.refl _⟩
 ·obtain⟨x,hx,rfl⟩:=List.mem_map.1 hφ;show a.tmps[x.1]?=_;rw[TV.av_den];exact ht x hx
 ·obtain⟨x,_,e⟩:=List.mem_map.1 h1; cases e
 ·obtain⟨x,_,e⟩:=List.mem_map.1 h1; cases e
def Do (bb cb:Nat):Value:=.func (.func 213) #[] #[ptV bb 0,ptV cb 0]
def oA:Code:=(f196.body).getD .skip
theorem Bp:oA=.seq (cA oA) (.seq (cA (cB oA)) .ret):=by kernel_rfl
theorem Vz:f196.ntmps=6:=by kernel_rfl
theorem Vy (wd fl pt C:Nat):aX prog (qG prog) 6 (fun _=>tC T0 fun _=>none) 60 (cA oA) (fD 0 [.v (.fl (rR wd fl pt)),.v (.im (iI C))]) [.slot 2 (.pt 2 0),.row 2 true (rR wd fl pt),.slot 3 (.pt 3 0),.row 3 true [.c (iI C)]]=some ([],.nrm,[.slot 2 (.pt 2 0),.row 2 true (rR wd fl pt),.slot 3 (.pt 3 0),.row 3 true [.c (iI C)]]):=by kernel_rfl
theorem Vx (wd fl pt C bb cb:Nat):aX prog (qG prog) 6 (fun _=>tC T0 fun _=>none) 60 (cA (cB oA)) [.at 3 cb,.at 2 bb,.slot 2 (.pt 2 0),.row 2 true (rR wd fl pt),.slot 3 (.pt 3 0),.row 3 true [.c (iI C)]] [.slot 4 (.im (Do bb cb)),.at 2 bb,.at 3 cb,.row 2 true (rR wd fl pt),.row 3 true [.c (iI C)]]=some ([],.nrm,[.slot 4 (.im (Do bb cb)),.at 2 bb,.at 3 cb,.row 2 true (rR wd fl pt),.row 3 true [.c (iI C)]]):=by kernel_rfl
theorem SN (w0:World) (wd fl pt C:Nat):Calls prog 196 [.agg (aA (rR wd fl pt)).toArray,iI C].toArray w0 fun e w'=>∃bb cb,e=.returned (Do bb cb)∧Below w0.heap.size w0 w'∧oldOf w' bb 0 (rR wd fl pt)∧oldOf w' cb 0 [.c (iI C)]:=by
 have hG:bO prog (qG prog) w0.heap.size w0:=(aW _).w _ _;have hT:∀n d:Nat,TabOkW prog T0 w0.heap.size w0:=fun _ _=>(bU _).w _ _
 refine cH func196 (cs:=[.v (.fl (rR wd fl pt)),.v (.im (iI C))]) (args:=[.agg (aA (rR wd fl pt)).toArray,iI C]) (c:=oA) rfl ⟨rfl,rfl,trivial⟩ (Nat.le_of_ble_eq_true (by kernel_rfl)) fun a w hA => ?_
 rw[Vz]at hA;rw[Bp];refine wp_seq (aB aI hT hG (Vy wd fl pt C) trivial hA fun a w hA => ?_);obtain⟨bb,hA⟩:=hA.at (k:=2) (l:=rR wd fl pt) (by simp);obtain⟨cb,hA⟩:=hA.at (k:=3) (l:=[.c (iI C)]) (by simp);refine wp_seq (aB aI hT hG (Vx wd fl pt C bb cb) trivial hA fun a w hA=>wp_ret ?_);exact cK (l:=[.im (Do bb cb)]) (r:=.one (.im (Do bb cb))) (by kernel_rfl) (by kernel_rfl) hA ⟨bb,cb,rfl,hA.below,hA.old (k:=2) (by simp) (by simp),hA.old (k:=3) (by simp) (by simp)⟩
noncomputable abbrev csF:Func:=f161
def mU:Code:=(f161.body).getD .skip
def cs1:Code:=cA (cB mU)
def csX:Code:=cA (cB (cB mU))
def csY:Code:=cB (cB (cB mU))
def Vq:Code:=iR (cB csX)
def Bh:Code:=cA (Qs Vq)
def Bg:Code:=cB (Qs Vq)
def BD:Code:=iR (rfB Vq)
theorem Kw:mU=.seq (cA mU) (.seq (.region 1 (aD cs1) false) (.seq (.seq (.region 2 (aD (cA csX)) false) (.block 0 (.rangeFunc (.tmp 18) #[19,20] (.seq (.region 3 (aD Bh) false) (.region 4 (aD Bg) false)) (.block 1 (.region 5 (aD BD) false))))) (.seq (.region 6 (aD (cA csY)) false) .ret))):=by kernel_rfl
theorem aCV:csF.ntmps=26:=by kernel_rfl
def rN (C:Nat):List At:=bV (fun _=>[.q 0]) 0 C
def xMk (C:Nat):Ext:={ Ext.none with mks:=assoc [(14,(C,rN C))],T2:=UA,T3:=TM,T4:=Cw,T5:=jY,T6:=Dd }
theorem Pk (C:Nat) (base:Nat) (w:World):bO prog { qG prog with x:=xMk C } base w :=
 ⟨(aW _).1,iP (fun b o l h=>h.elim) (fun w' _=>FrAt.none _ _) (fun w' _=>FsAt.none _ _)⟩
theorem aCR (wd fl pt:Nat):aX prog (qG prog) 26 (fun _=>tC T0 fun _=>none) 60 (cA mU) (fD 0 [.v (.fl (rR wd fl pt))]) [.slot 1 (.pt 1 0),.row 1 true (rR wd fl pt)]=some ([],.nrm,[.slot 1 (.pt 1 0),.row 1 true (rR wd fl pt)]):=by kernel_rfl
theorem aCX (wd fl pt S C:Nat):cO prog { qG prog with x:=xMk C } 26 (tC T0 (assoc [(12,iI S),(13,iI C)])) ((aD cs1).extract 0 9) [.slot 1 (.pt 1 0),.row 1 true (rR wd fl pt)] [.slot 14 (.sl 14 0 C C),.row 14 true (rN C),.slot 1 (.pt 1 0),.row 1 true (rR wd fl pt)]=some ([aJ .add .i64 (Int.ofNat fl) (Int.ofNat pt)=some (iI S),aJ .mul .i64 (Int.ofNat wd) (Int.ofNat S)=some (iI C),∃e,∀w:World,(Instr.makeSlice 56 (iI C) (iI C)).run prog w=.ok (.slice (some ⟨w.heap.size,0,none⟩) C C) (w.alloc (.cells (aA (rN C)).toArray e))],[.slot 14 (.sl 14 0 C C),.row 14 true (rN C),.slot 1 (.pt 1 0),.row 1 true (rR wd fl pt)]):=by kernel_rfl
theorem aCW (b1 bl C:Nat):cO prog (qG prog) 26 (tC T0 fun _=>none) ((aD cs1).extract 9 11) [.slot 14 (.im (aK bl 0 C C)),.slot 1 (.im (ptV b1 0))] [.slot 3 (.pt 3 0),.row 3 true [.c (aK bl 0 C C)],.slot 1 (.im (ptV b1 0))]=some ([],[.slot 3 (.pt 3 0),.row 3 true [.c (aK bl 0 C C)],.slot 1 (.im (ptV b1 0))]):=by kernel_rfl
theorem aHb (w:World) (wd fl pt b1 b3 bl C:Nat):cO prog { qG prog with x:=xO w (fun _=>none) (assoc [(15,rR wd fl pt)]) (assoc [(16,aK bl 0 C C)]) } 26 (tC T0 fun _=>none) ((aD (cA csX)).extract 0 3) [.slot 1 (.im (ptV b1 0)),.slot 3 (.im (ptV b3 0))] [.slot 15 (.fl (rR wd fl pt)),.slot 17 (.im (iI C)),.slot 3 (.im (ptV b3 0))]=some ([oldOf w b1 0 (rR wd fl pt),dJ (rR wd fl pt)=3,oldOf w b3 0 [.c (aK bl 0 C C)]],[.slot 15 (.fl (rR wd fl pt)),.slot 17 (.im (iI C)),.slot 3 (.im (ptV b3 0))]):=by kernel_rfl
theorem aCU (i x b3:Nat):aX prog (qG prog) 26 (fun _=>tC T0 fun _=>none) 1 (.region 3 (aD Bh) false) [.slot 19 (.im (iI i)),.slot 20 (.fl [.q x]),.slot 3 (.im (ptV b3 0))] [.slot 4 (.im (iI i)),.slot 20 (.fl [.q x]),.slot 3 (.im (ptV b3 0))]=some ([],.nrm,[.slot 4 (.im (iI i)),.slot 20 (.fl [.q x]),.slot 3 (.im (ptV b3 0))]):=by kernel_rfl
theorem aCT (i x b3:Nat):aX prog (qG prog) 26 (fun _=>tC T0 fun _=>none) 1 (.region 4 (aD Bg) false) [.slot 4 (.im (iI i)),.slot 20 (.fl [.q x]),.slot 3 (.im (ptV b3 0))] [.slot 4 (.im (iI i)),.slot 5 (.pt 5 0),.row 5 true [.q x],.slot 3 (.im (ptV b3 0))]=some ([],.nrm,[.slot 4 (.im (iI i)),.slot 5 (.pt 5 0),.row 5 true [.q x],.slot 3 (.im (ptV b3 0))]):=by kernel_rfl
theorem aCS (w:World) (i x b3 b5 bl C:Nat):cO prog { qG prog with x:=xO w (assoc [(24,i)]) (assoc [(23,[.q x])]) (assoc [(21,aK bl 0 C C)]) } 26 (tC T0 fun _=>none) ((aD BD).extract 0 4) [.slot 4 (.im (iI i)),.slot 5 (.im (ptV b5 0)),.slot 3 (.im (ptV b3 0))] [.slot 24 (.im (ptV bl (0+i*4))),.slot 23 (.fl [.q x]),.slot 3 (.im (ptV b3 0))]=some ([oldOf w b3 0 [.c (aK bl 0 C C)],oldOf w b5 0 [.q x],dJ [.q x]=4,Int.ofNat i=Int.ofNat i,i<C],[.slot 24 (.im (ptV bl (0+i*4))),.slot 23 (.fl [.q x]),.slot 3 (.im (ptV b3 0))]):=by kernel_rfl
theorem aCQ (W:World) (b3 bl C:Nat):aX prog { qG prog with x:=xO W (fun _=>none) (fun _=>none) (assoc [(25,aK bl 0 C C)]) } 26 (fun _=>tC T0 fun _=>none) 1 (.region 6 (aD (cA csY)) false) [.slot 3 (.im (ptV b3 0))] [.slot 2 (.im (aK bl 0 C C))]=some ([oldOf W b3 0 [.c (aK bl 0 C C)]],.nrm,[.slot 2 (.im (aK bl 0 C C))]):=by kernel_rfl
theorem Own.putO {w:World} {b l:Nat} {row:List At} {r:Loop} {o:Obj} (h:Own w b row) (hl:w.heap[l]?=some (.loop r)) (hne:b≠l):Own (w.putObj l o) b row :=
 ⟨by rw[World.putObj_size]; exact h.lt,kI hl hne h.row,fun j=>(kJ hl (p:=⟨b,j,none⟩) hne).2.trans (h.free j)⟩
theorem Dbj.putO {w:World} {l:Nat} {r:Loop} {o:Obj} (h:Dbj w) (hl:w.heap[l]?=some (.loop r)) (hne:2≠l):Dbj (w.putObj l o):=fun j hj=>((kJ hl (p:=⟨2,j,none⟩) hne).1).trans (h j hj)
theorem Qa:(prog.info? 27).map (·.size)=some 4:=by kernel_rfl
structure CJ (n0:Nat) (w0:World) (b3 bl C D:Nat) (xs:Nat→Nat) (rec:Loop) (r i:Nat) (W:World):Prop where
 below:Below n0 w0 W
 lst:Own W bl (lZ (el xs) [.q 0] C i)
 box:Own W b3 [.c (aK bl 0 C C)]
 dj:Dbj W
 gl:2<n0
 n3:b3≠r
 nb:bl≠r
 n3b:b3≠bl
 d3:b3<D
 db:bl<D
 lb:n0≤bl
 hD:W.heap[D]?=some (.deferred (some []))
 hl:W.heap[D+1]?=some (.loop rec)
section
variable {n0:Nat} {w0:World} {b3 bl C D:Nat} {xs:Nat→Nat} {rec:Loop} {r i:Nat} {W W':World}
theorem CJ.wrc (h:CJ n0 w0 b3 bl C D xs rec r i W) (hn:n0≤r) (hW:WrC W W' r):CJ n0 w0 b3 bl C D xs rec r i W' :=
 ⟨h.below.trans (hW.below.mono hn),h.lst.wr hW h.nb,h.box.wr hW h.n3,h.dj.on (Nat.lt_of_lt_of_le h.gl hn) hW.below,h.gl,h.n3,h.nb,h.n3b,h.d3,h.db,h.lb,hW.shape.2.same _ _ h.hD rfl,hW.shape.2.same _ _ h.hl rfl⟩
theorem CJ.on (h:CJ n0 w0 b3 bl C D xs rec r i W) (hW:Below W.heap.size W W'):CJ n0 w0 b3 bl C D xs rec r i W' :=
 have hn:n0≤W.heap.size:=Nat.le_of_lt (Nat.lt_of_le_of_lt h.lb h.lst.lt)
 ⟨h.below.trans (hW.mono hn),h.lst.on hW,h.box.on hW,h.dj.on (Nat.lt_of_lt_of_le h.gl hn) hW,h.gl,h.n3,h.nb,h.n3b,h.d3,h.db,h.lb,(Shape.below hW).2.same _ _ h.hD rfl,(Shape.below hW).2.same _ _ h.hl rfl⟩
theorem Lx {row:List At} {a0:Act} (hJ:CJ n0 w0 b3 bl C D xs rec r i W) (hO:Own W r row) (hrD:D+1<r) (hi:i<C)
  (hr:rec.state=.ready) (hp:rec.pending=none) (hps:rec.params = #[19,20]) (ht:rec.tmps=a0.tmps) (hsz:a0.tmps.size=26) (h3:a0.tmps[3]?=some (ptV b3 0)) (has:rec.assign=.seq (.region 3 (aD Bh) false) (.region 4 (aD Bg) false)) (hbo:rec.body=.block 1 (.region 5 (aD BD) false)) :
  RoundIn Fence.wide 0 prog (D+1) rec.fn ((rec.params.zip (Ya i (xs i))).foldl (fun t (p,v)=>t.setIfInBounds p v) rec.tmps) rec.assign rec.body W fun e W'=>e=.returned (.bool true)∧CJ n0 w0 b3 bl C D xs rec r (i+1) W'∧Own W' r row:=by
 have htm:(rec.params.zip (Ya i (xs i))).foldl (fun t (p,v)=>t.setIfInBounds p v) rec.tmps=((a0.put (some 19) (iI i)).put (some 20) (.agg (aA [At.q (xs i)]).toArray)).tmps:=by
  rw[hps,ht]; simp[Act.put,Ya]
 rw[htm,has,hbo];have hH:Holds 26 W.heap.size W [.slot 19 (.im (iI i)),.slot 20 (.fl [.q (xs i)]),.slot 3 (.im (ptV b3 0))] { tmps:=((a0.put (some 19) (iI i)).put (some 20) (.agg (aA [At.q (xs i)]).toArray)).tmps,defers:=[] } W :=
  pR (ts:=[(19,.im (iI i)),(20,.fl [.q (xs i)]),(3,.im (ptV b3 0))]) rfl (by show ((a0.put (some 19) _).put (some 20) _).tmps.size=26; rw[aF,aF,hsz]) (fun x hx=>by
   simp only[List.mem_cons,List.not_mem_nil,or_false]at hx
   rcases hx with rfl|rfl|rfl
   ·exact aS (aT _ _ _ (by rw[hsz]; decide)) (by simp)
   ·exact aT _ _ _ (by rw[aF,hsz]; decide)
   ·exact aS (aS h3 (by simp)) (by simp))
 have hT:∀base w,∀d:Nat,TabOkW prog T0 base w:=fun _ _ _=>(bU _).w _ _
 have hG:∀base w,bO prog (qG prog) base w:=fun _ _=>(aW _).w _ _
 refine CW (K0:=fun a w=>Holds 26 W.heap.size W [.slot 4 (.im (iI i)),.slot 5 (.pt 5 0),.row 5 true [.q (xs i)],.slot 3 (.im (ptV b3 0))] a w)
  (wpIn_seq (IW (c:=tC T0 _) aI (hT _ _) (hG _ _) (aCU i (xs i) b3) trivial (by kernel_rfl) hH fun a w hA=>IW (c:=tC T0 _) aI (hT _ _) (hG _ _) (aCT i (xs i) b3) trivial (by kernel_rfl) hA fun a w hA=>⟨rfl,hA⟩)) fun a1 w1 hA1 => ?_
 obtain⟨b5,hA1⟩:=hA1.at (k:=5) (l:=[.q (xs i)]) (by simp);have hb1:=hA1.below;have hJ1:=hJ.on hb1;have hO1:=hO.on hb1;have h5:oldOf w1 b5 0 [.q (xs i)]:=hA1.old (k:=5) (by simp) (by simp);have h5g:W.heap.size≤b5:=hA1.geq (k:=5) (l:=[.q (xs i)]) (by simp) (by simp);have hDW:D+1<W.heap.size:=(Array.getElem?_eq_some_iff.1 hJ.hl).1;refine⟨rec,hJ1.hl,hr,?_⟩;have hl1:=hJ1.hl;have hlt1:D+1<w1.heap.size:=(Array.getElem?_eq_some_iff.1 hl1).1;have hgD:2≠D+1:=fun e=>by have:=hJ.gl; have:=hJ.lb; have:=hJ.db; omega
 have hbD:bl≠D+1:=fun e=>by have:=hJ.db; omega
 have h3D:b3≠D+1:=fun e=>by have:=hJ.d3; omega
 have hrD':r≠D+1:=fun e=>by omega
 have hn0:n0≤D+1:=by have:=hJ.lb; have:=hJ.db; omega
 generalize hw2:w1.putObj (D+1) (.loop { rec with state:=.busy })=w2;have hl2:w2.heap[D+1]?=some (.loop { rec with state:=.busy }):=by rw[←hw2]; exact World.putObj_heap_same hlt1
 have hE2:Own w2 bl (lZ (el xs) [.q 0] C i):=by rw[←hw2]; exact hJ1.lst.putO hl1 hbD
 have hX2:Own w2 b3 [.c (aK bl 0 C C)]:=by rw[←hw2]; exact hJ1.box.putO hl1 h3D
 have hO2:Own w2 r row:=by rw[←hw2]; exact hO1.putO hl1 hrD'
 have hG2:Dbj w2:=by rw[←hw2]; exact hJ1.dj.putO hl1 hgD
 have hB2:Below n0 w0 w2:=by rw[←hw2]; exact gD hJ1.below hn0 _
 have hD2:w2.heap[D]?=some (.deferred (some [])):=by rw[←hw2]; exact (World.putObj_heap_other (by omega)).trans hJ1.hD
 have h52:oldOf w2 b5 0 [.q (xs i)]:=by rw[←hw2]; exact⟨by rw[World.putObj_size]; exact h5.1,kI hl1 (by omega) h5.2⟩
 have hS2:=aP (nt:=26) (w:=w2) (a:=a1) (ts:=[(4,iI i),(5,ptV b5 0),(3,ptV b3 0)]) hA1.defers hA1.size (fun x hx=>by
  simp only[List.mem_cons,List.not_mem_nil,or_false]at hx
  rcases hx with rfl|rfl|rfl
  ·exact hA1.slot (by simp)
  ·exact hA1.ptS (s:=5) (k:=5) (o:=0) (by simp) (by simp)
  ·exact hA1.slot (by simp))
 clear hA1 hw2;refine wpIn_block (wpIn_region ?_);rw[show List.range (aD BD).size=List.range' 0 ((aD BD).extract 0 4).size++(4::[]) by kernel_rfl];refine qE (c:=tC T0 _) (hT _ _) (dN w2 _ _ _) (aCS w2 i (xs i) b3 b5 bl C) ⟨hX2.old rfl,h52,rfl,rfl,hi,trivial⟩ (by kernel_rfl) (by kernel_rfl) hS2 fun a3 w3 hA3 => ?_
 have hb3:=hA3.below;have hE3:=hE2.on hb3;have hX3:=hX2.on hb3;have hO3:=hO2.on hb3;have hn2:n0≤w2.heap.size:=Nat.le_of_lt (Nat.lt_of_le_of_lt hJ.lb hE2.lt);have hG3:=hG2.on (Nat.lt_of_lt_of_le hJ.gl hn2) hb3;have hB3:=hB2.trans (hb3.mono hn2);have hl3:=(Shape.below hb3).2.same _ _ hl2 rfl;have hD3:=(Shape.below hb3).2.same _ _ hD2 rfl;obtain⟨o4,ho4,hop4,hd4,hg4⟩:∃x,(aD BD)[4]?=some x∧x.op=.store 27 (.tmp 24) (.tmp 23)∧x.dst=none∧x.guard=none:=⟨_,rfl,rfl,rfl,rfl⟩
 have hput:put (lZ (el xs) [.q 0] C i) (0+i*4) [.q (xs i)]=some (lZ (el xs) [.q 0] C (i+1)):=DG (f:=el xs) (c:=4) (fun _=>rfl) rfl hi (Nat.zero_add _);obtain⟨hE4,hW4⟩:=hE3.set hput;have hfs:dJ (lZ (el xs) [.q 0] C i)=C*4:=by
  unfold lZ;rw[lK,fM (c:=4) (fun _=>rfl),fM (c:=4) (fun _=>rfl),←Nat.add_mul,show i+(C-i)=C by omega]
 refine AH ho4 hg4 (JJ (Q:=fun _ _ _=>False) (K:=fun a w=>wpOpsIn (rF (some (D+1))) 0 prog (aD BD) _ [] a w) (fun c e=>by rw[hop4]at e; cases e) (fun _ _ h=>h) (fun⟨_,_,h⟩=>h) (fun _ _ _ _ h=>h.elim)
  (eV (v:=.agg (aA [At.q (xs i)]).toArray) (vs:=aA [At.q (xs i)]) hop4 hd4 (hA3.imV (s:=24) (v:=ptV bl (0+i*4)) (by simp)) (cL (hA3.slotF (s:=23) (by simp))) rfl (by simp[aA,At.cells,w4,Value.oneCell']) Qa (hE3.there (o:=0+i*4) (n:=4) (by rw[hfs]; omega)) ?_))
 generalize w3.setCells bl (0+i*4) (aA [At.q (xs i)])=w4 at *;have hl4:=hW4.shape.2.same _ _ hl3 rfl;have hlt4:D+1<w4.heap.size:=(Array.getElem?_eq_some_iff.1 hl4).1;refine⟨rfl,_,hl4,rfl,⟨gD (hB3.trans (hW4.below.mono hJ.lb)) hn0 _,hE4.putO hl4 hbD,(hX3.wr hW4 hJ.n3b).putO hl4 h3D,(hG3.on (Nat.lt_of_lt_of_le hJ.gl hJ.lb) hW4.below).putO hl4 hgD,hJ.gl,hJ.n3,hJ.nb,hJ.n3b,hJ.d3,hJ.db,hJ.lb,?_,?_⟩,(hO3.wr hW4 hJ.nb.symm).putO hl4 hrD'⟩
 ·exact (World.putObj_heap_other (by omega)).trans (hW4.shape.2.same _ _ hD3 rfl)
 ·rw[World.putObj_heap_same hlt4];obtain⟨s,pe,fn,tm,pa,sg,bo,de⟩:=rec;cases hr; cases hp;rfl
end
theorem JL {a b:Nat} (h:a*b<4611686018427387904):aJ .mul .i64 (Int.ofNat a) (Int.ofNat b)=some (iI (a*b)):=by
 show some (Value.int .i64 (IntKind.i64.wrap ((a:Int)*(b:Int))))=_;rw[←Int.natCast_mul,jU (by omega)];rfl
theorem oX {a b:Nat} (h:a+b<4611686018427387904):aJ .add .i64 (Int.ofNat a) (Int.ofNat b)=some (iI (a+b)):=by
 show some (Value.int .i64 (IntKind.i64.wrap ((a:Int)+(b:Int))))=_;rw[←Int.natCast_add,jU (by omega)];rfl
theorem tU:wN (aA [At.q 0]) (.int .u64 0):=by unfold wN; kernel_rfl
theorem Bf {w0:World} {wd fl pt:Nat} {xs:Nat→Nat} {fu:Nat} {sq:Nat→St} (b1:wd<4611686018427387904) (b2:fl<4611686018427387904) (b3':pt<4611686018427387904) (hC:wd*(fl+pt)≤131072) (hs:fl+pt≤131072)
  (h0:sq 0=GX wd fl pt) (hx:∀i,i<wd*(fl+pt)→xG fu (sq i)=some (xs i,sq (i+1))) (hDj:Dbj w0) :
  Calls prog 161 [.agg (aA (rR wd fl pt)).toArray].toArray w0 (fun e w'=>FR.ok ⟨bV (el xs) 0 (wd*(fl+pt)),wd*(fl+pt),wd*(fl+pt),[]⟩ w0 e w'):=by
 obtain⟨C,hCe⟩:∃C,wd*(fl+pt)=C:=⟨_,rfl⟩
 have hG:∀base w,bO prog (qG prog) base w:=fun _ _=>(aW _).w _ _
 have hT:∀base w,∀n d:Nat,TabOkW prog T0 base w:=fun _ _ _ _=>(bU _).w _ _
 have hnt:=aCV;refine (callsIn_wide (n:=0)).1 (callsIn_of_wp_marks (F:=Fence.wide) func161 (c:=mU) rfl trivial ?_);refine wpIn_wide.2 ?_;have hA:Holds csF.ntmps w0.heap.size w0 (fD 0 [.v (.fl (rR wd fl pt))]) _ w0:=jP (nt:=csF.ntmps) (cs:=[.v (.fl (rR wd fl pt))]) (args:=[.agg (aA (rR wd fl pt)).toArray]) (w:=w0) ⟨rfl,trivial⟩ (Nat.le_of_ble_eq_true (by kernel_rfl));rw[hnt]at hA;generalize ha0:({ tmps:=[Value.agg (aA (rR wd fl pt)).toArray].toArray++Array.replicate (26-[Value.agg (aA (rR wd fl pt)).toArray].toArray.size) undef,defers:=[] }:Act)=a0 at hA;show mU.wp prog _ { tmps:=[Value.agg (aA (rR wd fl pt)).toArray].toArray++Array.replicate (csF.ntmps-[Value.agg (aA (rR wd fl pt)).toArray].toArray.size) undef,defers:=[] } w0;rw[hnt,ha0,Kw];clear ha0;refine wp_seq (aB aI (hT _ _) (hG _ _) (aCR wd fl pt) trivial hA fun a w hA => ?_);refine wp_seq (bI (l:=List.range' 0 ((aD cs1).extract 0 9).size++(List.range' 9 ((aD cs1).extract 9 11).size++[])) (by kernel_rfl) ?_);refine aG (c:=tC T0 _) (hT _ _ 0) (Pk C _ _) (aCX wd fl pt (fl+pt) C) ⟨oX (by omega),by rw[←hCe]; exact JL (by omega),OA (t:=56) (e:=27) (z:=[.q 0]) (v:=.int .u64 0) (n:=4) (by8:=32) (by kernel_rfl) (by kernel_rfl) rfl tU (by omega) (by omega) (by omega),trivial⟩ (by kernel_rfl) hA fun a w hA => ?_
 obtain⟨bl,hA⟩:=hA.at (k:=14) (l:=rN C) (by simp);obtain⟨b1,hA⟩:=hA.at (k:=1) (l:=rR wd fl pt) (by simp);have m1:oldOf w b1 0 (rR wd fl pt):=hA.old (k:=1) (by simp) (by simp);have ml:Own w bl (rN C):=hA.own (k:=14) (by simp) (by simp);have hlb:w0.heap.size≤bl:=hA.geq (k:=14) (l:=rN C) (by simp) (by simp);have hbl:=hA.below;have hS:=aP (nt:=26) (w:=w) (a:=a) (ts:=[(14,aK bl 0 C C),(1,ptV b1 0)]) hA.defers hA.size (fun x hx=>by
  simp only[List.mem_cons,List.not_mem_nil,or_false]at hx
  rcases hx with rfl|rfl
  ·exact (hA.im (s:=14) (k:=14) (o:=0) (n:=C) (m:=C) (b:=bl) (by simp) (by simp)).slot (by simp)
  ·exact hA.ptS (s:=1) (k:=1) (o:=0) (by simp) (by simp))
 clear hA;refine aG (c:=tC T0 _) (hT _ _ 0) (hG _ _) (aCW b1 bl C) trivial (by kernel_rfl) hS fun a w2 hA => ?_
 obtain⟨b3,hA⟩:=hA.at (k:=3) (l:=[.c (aK bl 0 C C)]) (by simp);have hb3:w.heap.size≤b3:=hA.geq (k:=3) (l:=[.c (aK bl 0 C C)]) (by simp) (by simp);have hl3:bl<b3:=Nat.lt_of_lt_of_le ml.lt hb3;have m3:Own w2 b3 [.c (aK bl 0 C C)]:=hA.own (k:=3) (by simp) (by simp);have m1:=m1.on hA.below;have ml:=ml.on hA.below;have hbl:=hbl.trans (hA.below.mono hbl.size);have hS:=aP (nt:=26) (w:=w2) (a:=a) (ts:=[(1,ptV b1 0),(3,ptV b3 0)]) hA.defers hA.size (fun x hx=>by
  simp only[List.mem_cons,List.not_mem_nil,or_false]at hx
  rcases hx with rfl|rfl
  ·exact hA.slot (by simp)
  ·exact hA.ptS (s:=3) (k:=3) (o:=0) (by simp) (by simp))
 clear hA;show (Code.seq _ _).wp _ _ _ _;refine wp_seq (wp_seq (bI (l:=List.range' 0 ((aD (cA csX)).extract 0 3).size++(3::[])) (by kernel_rfl) ?_));refine aG (c:=tC T0 _) (hT _ _ 0) (dN w2 _ _ _) (aHb w2 wd fl pt b1 b3 bl C) ⟨m1,rfl,m3.old rfl,trivial⟩ (by kernel_rfl) hS fun a4 w4 hA4 => ?_
 clear hS;obtain⟨o1,ho1,⟨ts1,hop1⟩,hd1,hg1⟩:∃x,(aD (cA csX))[3]?=some x∧(∃ts,x.op=.call ⟨.value (.func 196),#[.tmp 15,.tmp 17],ts⟩)∧x.dst=some 18∧x.guard=none:=⟨_,rfl,⟨_,rfl⟩,rfl,rfl⟩
 refine aZ ho1 hg1 (cF hop1 (vs:=[.agg (aA (rR wd fl pt)).toArray,iI C]) (List.cons_eq_cons.2 ⟨cL (hA4.slotF (s:=15) (by simp)),List.cons_eq_cons.2 ⟨cL (hA4.slot (s:=17) (by simp)),rfl⟩⟩) (fun args=>bQ func196 (by kernel_rfl) (by kernel_rfl) args _) (SN w4 wd fl pt C) fun e w5 hr => ?_);obtain⟨bb,cb,rfl,hb5,hbox,hcb⟩:=hr;refine⟨_,rfl,?_⟩;rw[hd1];have hb4:=hA4.below;have ml5:=(ml.on hb4).on hb5;have m35:=(m3.on hb4).on hb5;have hB5:Below w0.heap.size w0 w5:=(hbl.trans (hb4.mono hbl.size)).trans (hb5.mono (Nat.le_trans hbl.size hb4.size));have h35:=aS (d:=18) (u:=Do bb cb) (hA4.slot (s:=3) (v:=ptV b3 0) (by simp)) (by decide);have h18:=aT a4 18 (Do bb cb) (by rw[hA4.size]; decide);have hd5:(a4.put (some 18) (Do bb cb)).defers=[]:=hA4.defers;have hsz5:(a4.put (some 18) (Do bb cb)).tmps.size=26:=by rw[aF]; exact hA4.size
 generalize a4.put (some 18) (Do bb cb)=a5 at *;clear hA4 m1 ml m3;show (Code.block 0 _).wp _ _ _ _;refine wp_block ?_;have hn5:w0.heap.size≤w5.heap.size:=hB5.size;have hgl:2<w0.heap.size:=hDj.lt;have hD5:Dbj w5:=hDj.on hgl hB5;refine xK (gf:=213) (lb:=#[ptV bb 0,ptV cb 0]) (cL h18) (fun args w=>bQ func213 (by kernel_rfl) (by kernel_rfl) args w) fun fn => ?_
 generalize hrec:({ state:=.ready,pending:=none,fn,tmps:=a5.tmps,params:=#[19,20],assign:=.seq (.region 3 (aD Bh) false) (.region 4 (aD Bg) false),body:=.block 1 (.region 5 (aD BD) false),defers:=w5.heap.size }:Loop)=rec;have r1:rec.state=.ready:=by rw[←hrec]
 have r2:rec.pending=none:=by rw[←hrec]
 have r3:rec.params = #[19,20]:=by rw[←hrec]
 have r4:rec.tmps=a5.tmps:=by rw[←hrec]
 have r5:rec.assign=.seq (.region 3 (aD Bh) false) (.region 4 (aD Bg) false):=by rw[←hrec]
 have r6:rec.body=.block 1 (.region 5 (aD BD) false):=by rw[←hrec]
 clear hrec;obtain⟨W1,hW1⟩:∃W1,(w5.alloc (.deferred (some []))).alloc (.loop rec)=W1:=⟨_,rfl⟩
 rw[hW1];have hb6:Below w5.heap.size w5 W1:=by rw[←hW1]; exact ((Below.refl _ w5).alloc (Nat.le_refl _) _).alloc (by simp) _
 have hD1:W1.heap[w5.heap.size]?=some (.deferred (some [])):=by
  rw[←hW1]; exact (Below.heap_alloc _ _ _ (by simp)).trans (World.alloc_heap_new w5 _)
 have hL1:W1.heap[w5.heap.size+1]?=some (.loop rec):=by
  rw[←hW1]; have:=World.alloc_heap_new (w5.alloc (.deferred (some []))) (.loop rec); rwa [World.size_alloc]at this
 have hz1:W1.heap.size=w5.heap.size+2:=by rw[←hW1]; simp
 clear hW1;have hlst:Own W1 bl (lZ (el xs) [.q 0] C 0):=by rw[YT]; exact ml5.on hb6
 have hJ1:∀r,W1.heap.size≤r→CJ w0.heap.size w0 b3 bl C w5.heap.size xs rec r 0 W1:=fun r hr =>
  ⟨hB5.trans (hb6.mono hn5),hlst,m35.on hb6,hD5.on (Nat.lt_of_lt_of_le hgl hn5) hb6,hgl,by have:=m35.lt; omega,by have:=ml5.lt; omega,by omega,m35.lt,ml5.lt,hlb,hD1,hL1⟩
 refine Calls.mono (Bm (l:=w5.heap.size+1) (bb:=bb) (cb:=cb) (W1:=W1) (C:=C) (xs:=xs) (sq:=sq) (oldOf.go hb6 (Nat.le_refl _) hbox) (oldOf.go hb6 (Nat.le_refl _) hcb) ‹_› b2 b3' (by omega) (by rw[hz1]; exact Nat.lt_of_lt_of_le hgl (Nat.le_trans hn5 (Nat.le_add_right _ _))) h0 (by rw[←hCe]; exact hx) (fun r i W=>CJ w0.heap.size w0 b3 bl C w5.heap.size xs rec r i W)
  (fun r i W h=>h.dj) (fun r W h1 h2 _ _=>(hJ1 r h1).on h2) (fun r i W W' h1 h2 h3=>h2.wrc (by omega) h3) (fun r i W h1 h2 h3 h4=>⟨rec,h3.hl,by rw[r3]; rfl,Lx (a0:=a5) h3 h4 (by omega) h2 r1 r2 r3 r4 hsz5 h35 r5 r6⟩)) ?_
 rintro e W' ⟨⟨u,rfl⟩,r,hJ⟩
 refine⟨u,rec,rfl,hJ.hl,by rw[r1]; simp,r2,?_⟩;generalize hrx:({ rec with state:=.exhausted }:Loop)=rx;have hlt:w5.heap.size+1<W'.heap.size:=(Array.getElem?_eq_some_iff.1 hJ.hl).1;have hB7:=gD (o:=.loop rx) hJ.below (l:=w5.heap.size+1) (by omega);have hE7:=hJ.lst.putO (o:=.loop rx) hJ.hl (by have:=hJ.db; omega);have hX7:=hJ.box.putO (o:=.loop rx) hJ.hl (by have:=hJ.d3; omega);have hD7:(W'.putObj (w5.heap.size+1) (.loop rx)).heap[w5.heap.size]?=some (.deferred (some [])):=(World.putObj_heap_other (by omega)).trans hJ.hD;have hdb:=hJ.db;generalize W'.putObj (w5.heap.size+1) (.loop rx)=w7 at *;show (Code.seq _ _).wp _ _ _ _;rw[hd5];have hA7:Holds 26 w7.heap.size w7 [.slot 3 (.im (ptV b3 0))] a5 w7:=aP (ts:=[(3,ptV b3 0)]) hd5 hsz5 (fun x hx=>by
  simp only[List.mem_cons,List.not_mem_nil,or_false]at hx
  rcases hx with rfl
  exact h35)
 refine wp_seq (WE (c:=tC T0 _) aI (hT _ _ 0) (dN w7 _ _ _) (aCQ w7 b3 bl C) ⟨hX7.old rfl,trivial⟩ (by kernel_rfl) hA7 fun a8 w8 hA8 => ?_);refine wp_ret ?_;have hb8:=hA8.below;have hE8:=hE7.on hb8;have hD8:=(Shape.below hb8).2.same _ _ hD7 rfl;have hB8:Below w0.heap.size w0 w8:=hB7.trans (hb8.mono hB7.size);refine⟨by simp,.inl ⟨w5.heap.size,_,rfl,run_takeDeferred hD8,?_⟩⟩;have hbD:bl≠w5.heap.size:=by omega
 rw[YS]at hE8;rw[hCe];refine⟨_,pW (s:=2) (by kernel_rfl) (hA8.slot (s:=2) (v:=aK bl 0 C C) (by simp)),bl,rfl,gD hB8 (by omega) _,hlb,by rw[World.putObj_size]; exact hE8.lt,fun j v hj => ?_,fun j => ?_⟩
 ·exact (World.cell?_of_block (World.putObj_heap_other hbD)).trans (hE8.row j v hj)
 ·exact (World.frozen?_of_block (World.putObj_heap_other hbD)).trans (hE8.free j)
end Go.Proofs.YtpjlhhpjpnacmaaGreatDoor.Ex
namespace Go.Proofs.YtpjlhhpjpnacmaaGreatDoor
open Go.Proofs.Tryz
open Go.ChangeShapes Go.WideShapes Go.ChangeAt Go.RowKit
def LAt (w:World) (g off len:Nat) (A:Nat→Nat→Nat):Prop:=∀k,k<len →
 w.cell? ⟨g,off+k*4,none⟩=some (.int .u64 (A k 0))∧w.cell? ⟨g,off+k*4+1,none⟩=some (.int .u64 (A k 1)) ∧
 w.cell? ⟨g,off+k*4+2,none⟩=some (.int .u64 (A k 2))∧w.cell? ⟨g,off+k*4+3,none⟩=some (.int .u64 (A k 3))
def LOk (len:Nat) (A:Nat→Nat→Nat):Prop:=∀k,k<len→cC (A k 0) (A k 1) (A k 2) (A k 3)
theorem LAt.same {w w':World} {g off len:Nat} {A:Nat→Nat→Nat} {B:Nat} (h:LAt w g off len A) (hg:0<len→g<B) (hb:Below B w w'):LAt w' g off len A :=
 fun k hk=>have hg:=hg (Nat.lt_of_le_of_lt (Nat.zero_le _) hk); ⟨(hb.cell (p:=⟨g,off+k*4,none⟩) hg).trans (h k hk).1,(hb.cell (p:=⟨g,off+k*4+1,none⟩) hg).trans (h k hk).2.1,
  (hb.cell (p:=⟨g,off+k*4+2,none⟩) hg).trans (h k hk).2.2.1,(hb.cell (p:=⟨g,off+k*4+3,none⟩) hg).trans (h k hk).2.2.2⟩
set_option maxHeartbeats 1000000 in
theorem qR (F:FC) (hF:F.Ok) (b g off len cap:Nat) (A:Nat→Nat→Nat) (hA:LOk len A) (hm:len≤9223372036854775807) (w:World) (hk:KIs w b F) (hg:0<len→g<w.heap.size) (hl:LAt w g off len A) :
  Calls prog 216 #[.pointer (some ⟨b,0,none⟩),.slice (some ⟨g,off,none⟩) len cap] w fun e w'=>(∃t:Bool,e=.returned (.bool t)∧(t=true↔∀k,k<len→aC (A k 0) (A k 1) (A k 2) (A k 3)<F.M))∧Below w.heap.size w w':=by
 have HK:=Lib.hid hk;have HL:=Lib.hid hl;have HG:=Lib.hid hg;clear hg;have HA:=Lib.hid hA;have HF:=Lib.hid hF;clear hk hl hA hF
 go_enter func216,ntmps216
 go_wp2_with fail
 go_loopw [9] (fun t wr=>∃k:Nat,k≤len∧t=.int .i64 k∧Hid (∀j,j<k→aC (A j 0) (A j 1) (A j 2) (A j 3)<F.M)∧Below w.heap.size w wr) (fun t _=>len-(intOf t).toNat)
 case atStart=>exact⟨0,Nat.zero_le _,rfl,Lib.hid (fun j h=>absurd h (by omega)),Below.refl _ _⟩
 case round =>
  obtain⟨k,hk,rfl,ha,hbl⟩:=hrel
  by_cases hlt:k<len
  ·obtain⟨a0,a1,a2,a3,e0,e1,e2,e3⟩:∃a0 a1 a2 a3:Nat,a0=A k 0∧a1=A k 1∧a2=A k 2∧a3=A k 3:=⟨_,_,_,_,rfl,rfl,rfl,rfl⟩
   have hc:=(HL.out.same HG.out hbl) k hlt;have hok:=HA.out k hlt;rw[←e0,←e1,←e2,←e3]at hc hok;have c0:=hc.1; have c1:=hc.2.1; have c2:=hc.2.2.1; have c3:=hc.2.2.2;clear hc;have HB:=Lib.hid hbl;have HR:=Lib.hid (HK.out.same hbl);clear hbl;have HE:=Lib.hid (And.intro e0 (And.intro e1 (And.intro e2 e3)));have HO:=Lib.hid hok;clear e0 e1 e2 e3 hok;have hsz:w.heap.size≤wr.heap.size:=HB.out.size;go_wp2_with fail;refine (dQ F HF.out b a0 a1 a2 a3 HO.out _ (HR.out.same ((Below.refl _ _).alloc (Nat.le_refl _) _))).mono ?_
   rintro e w2 ⟨rfl,hb2⟩
   have HW:=Lib.hid ((HB.out.alloc hsz (.cells #[.int .u64 a0,.int .u64 a1,.int .u64 a2,.int .u64 a3] 27)).trans (hb2.mono (by simp; omega)));clear hb2 c0 c1 c2 c3
   by_cases hv:aC a0 a1 a2 a3<F.M
   ·rw[show FB (aC a0 a1 a2 a3) F.M=true from decide_eq_true hv];have HN:=Lib.hid (show ∀j,j<k+1→aC (A j 0) (A j 1) (A j 2) (A j 3)<F.M from fun j h=>by
     by_cases e:j=k
     ·subst e; rw[←HE.out.1,←HE.out.2.1,←HE.out.2.2.1,←HE.out.2.2.2]; exact hv
     ·exact ha.out j (by omega))
    clear hv;go_wp2_with fail
    go_round
    case rel=>exact⟨k+1,by omega,by go_num,HN,HW.out⟩
    case measure=>simp[intOf]; omega
   ·rw[show FB (aC a0 a1 a2 a3) F.M=false from decide_eq_false hv];have HN:=Lib.hid (show ¬ ∀j,j<len→aC (A j 0) (A j 1) (A j 2) (A j 3)<F.M from fun h=>hv (by
     have:=h k hlt
     rwa [←HE.out.1,←HE.out.2.1,←HE.out.2.2.1,←HE.out.2.2.2]at this))
    clear hv;go_wp2_with fail;go_ret;exact⟨⟨false,rfl,⟨fun h=>(by cases h),fun h=>absurd h HN.out⟩⟩,HW.out⟩
  ·obtain rfl:k=len:=by omega
   have HB:=Lib.hid hbl;clear hbl;go_wp2_with fail;go_ret;exact⟨⟨true,rfl,⟨fun _=>ha.out,fun _=>rfl⟩⟩,HB.out⟩
open Go.RowKit
theorem xA (n q:Nat) (h:q<n):(madeCells #[.int .u64 0,.int .u64 0,.int .u64 0,.int .u64 0] n)[q]?=some (.int .u64 0):=by
 simp only[madeCells,Array.getElem?_map,Array.getElem?_range,h,if_true,Option.map_some];have:q%4<4:=Nat.mod_lt _ (by omega);obtain⟨r,hr⟩:∃r,r=q%4:=⟨_,rfl⟩
 simp only[List.size_toArray,List.length_cons,List.length_nil,Nat.zero_add,Nat.reduceAdd,←hr];rw[←hr]at this
 rcases (show r=0∨r=1∨r=2∨r=3 by omega)with rfl|rfl|rfl|rfl<;>rfl
theorem QU:∃i:TypeInfo,prog.info? 155=some i∧i.zero=some (.agg #[.int .u64 0,.int .u64 0,.int .u64 0,.int .u64 0])∧i.size=4∧i.bytes=32:=by
 have h:(prog.info? 155).map (fun i=>(i.zero,i.size,i.bytes))=some (some (.agg #[.int .u64 0,.int .u64 0,.int .u64 0,.int .u64 0]),4,32):=by kernel_rfl
 match hi:prog.info? 155 with
 | none=>rw[hi]at h; cases h
 | some i =>
  rw[hi]at h;simp only[Option.map_some,Option.some.injEq,Prod.mk.injEq]at h;exact⟨i,rfl,h.1,h.2.1,h.2.2⟩
theorem Ka:∃i:TypeInfo,prog.info? 27=some i∧i.zero=some (.agg #[.int .u64 0,.int .u64 0,.int .u64 0,.int .u64 0])∧i.size=4∧i.bytes=32:=by
 have h:(prog.info? 27).map (fun i=>(i.zero,i.size,i.bytes))=some (some (.agg #[.int .u64 0,.int .u64 0,.int .u64 0,.int .u64 0]),4,32):=by kernel_rfl
 match hi:prog.info? 27 with
 | none=>rw[hi]at h; cases h
 | some i =>
  rw[hi]at h;simp only[Option.map_some,Option.some.injEq,Prod.mk.injEq]at h;exact⟨i,rfl,h.1,h.2.1,h.2.2⟩
theorem ET (n:Nat) (t:TypeId) (w:World) (b:Nat) (hb:b=w.heap.size):RowIs (w.alloc (.cells (madeCells #[.int .u64 0,.int .u64 0,.int .u64 0,.int .u64 0] n) t)) b n (fun _=>0):=fun k hk=>by
 subst hb;refine⟨?_,World.frozen?_alloc_new _ _ _ _⟩;rw[World.cell?_alloc_new];exact xA n k hk
theorem aAV (n:Nat) (hn:n≤65536):∃o:Obj,(∀w,(Instr.makeSlice 270 (.int .i64 n) (.int .i64 n)).run prog w=.ok (.slice (some ⟨w.heap.size,0,none⟩) n n) (w.alloc o))∧(∀(w:World) (b:Nat),b=w.heap.size→RowIs (w.alloc o) b (n*4) (fun _=>0)):=by
 obtain⟨i,hi,hz,hs,hb⟩:=QU;refine⟨.cells (madeCells #[.int .u64 0,.int .u64 0,.int .u64 0,.int .u64 0] (n*4)) 155,fun w => ?_,fun w b hb=>ET _ _ w b hb⟩;have h:=run_make (P:=prog) w 270 155 i _ (by kernel_rfl) hi hz .i64 .i64 n n (by omega) (Int.le_refl _) (by rw[hb]; omega) (by omega);rw[hs]at h;simpa only[Int.toNat_natCast,Value.cells]using h
theorem aAW (n:Nat) (hn:n≤65536):∃o:Obj,(∀w,(Instr.makeSlice 56 (.int .i64 n) (.int .i64 n)).run prog w=.ok (.slice (some ⟨w.heap.size,0,none⟩) n n) (w.alloc o))∧(∀(w:World) (b:Nat),b=w.heap.size→RowIs (w.alloc o) b (n*4) (fun _=>0)):=by
 obtain⟨i,hi,hz,hs,hb⟩:=Ka;refine⟨.cells (madeCells #[.int .u64 0,.int .u64 0,.int .u64 0,.int .u64 0] (n*4)) 27,fun w => ?_,fun w b hb=>ET _ _ w b hb⟩;have h:=run_make (P:=prog) w 56 27 i _ (by kernel_rfl) hi hz .i64 .i64 n n (by omega) (Int.le_refl _) (by rw[hb]; omega) (by omega);rw[hs]at h;simpa only[Int.toNat_natCast,Value.cells]using h
def pI (M:Nat) (A:Nat→Nat):Nat→Nat
 | 0=>1
 | k+1=>if A k=0 then pI M A k else pI M A k*A k%M
theorem JE {M g:Nat} (hr:Root M g) (h2:2≤M) {E:Nat→Nat}:∀{j:Nat},(∀k,k<j→E k<M)→0<pI M E j∧pI M E j<M
 | 0,_=>⟨by show 0<1; omega,by show 1<M; omega⟩
 | j+1,hE=>by
  have ih:=JE hr h2 (E:=E) (j:=j) (fun k h=>hE k (by omega));have e:=hE j (by omega);show 0<(if E j=0 then pI M E j else pI M E j*E j%M)∧(if E j=0 then pI M E j else pI M E j*E j%M)<M
  by_cases hz:E j=0
  ·rw[if_pos hz]; exact ih
  ·rw[if_neg hz]; exact⟨mul_ne hr h2 ih.1 ih.2 (by omega) e,Nat.mod_lt _ (by omega)⟩
theorem FE {M g p a:Nat} (hr:Root M g) (h2:2≤M) (hp0:0<p) (hp:p<M) (ha0:0<a) (ha:a<M) :
  (p*a%M)^(M-2)*a%M=p^(M-2)%M:=by
 have hne:=mul_ne hr h2 hp0 hp ha0 ha;have hlt:p*a%M<M:=Nat.mod_lt _ (by omega);have i1:=tX hr h2 hne hlt;have i2:=tX hr h2 hp0 hp;refine (fun e => ?_) (GH hr h2 hp0 hp (b:=(p*a%M)^(M-2)*a) (c:=p^(M-2)) ?_)
 ·exact e
 ·rw[←nS p (p^(M-2)),i2,←i1,nS,nT];congr 1;rw[Nat.mul_comm ((p*a%M)^(M-2)) a,←Nat.mul_assoc]
theorem KIs.set4 {w:World} {b d:Nat} {F:FC} (h:KIs w b F) (hd:d≠b) (d0 d1 d2 d3:Nat):KIs (Go.Proofs.YtpjlhhpjpnacmaaGreatDoor.set4 w d d0 d1 d2 d3) b F:=(((h.other hd _).other hd _).other hd _).other hd _
theorem RZ {a0 a1 a2 a3 b0 b1 b2 b3:Nat} (h:¬KX a0 a1 a2 a3 b0 b1 b2 b3=true):KX a0 a1 a2 a3 b0 b1 b2 b3=false:=by cases q:KX a0 a1 a2 a3 b0 b1 b2 b3 with|false=>rfl|true=>exact absurd q h
section
variable {M g:Nat}
end
theorem Kg {s0 s1 s2 s3 t0 t1 t2 t3:Nat} (hs:cC s0 s1 s2 s3) (ht:cC t0 t1 t2 t3) (h:aC s0 s1 s2 s3=aC t0 t1 t2 t3) (w:World):(Op.equalIn 10000 27 (.agg #[.int .u64 s0,.int .u64 s1,.int .u64 s2,.int .u64 s3]) (.agg #[.int .u64 t0,.int .u64 t1,.int .u64 t2,.int .u64 t3])).run prog w=.ok true w:=by
 have h':=vT 9998 s0 s1 s2 s3 t0 t1 t2 t3 w;rw[(rD hs ht).2 h]at h';exact h'
theorem Ux {s0 s1 s2 s3 t0 t1 t2 t3:Nat} (hs:cC s0 s1 s2 s3) (ht:cC t0 t1 t2 t3) (h:aC s0 s1 s2 s3≠aC t0 t1 t2 t3) (w:World):(Op.equalIn 10000 27 (.agg #[.int .u64 s0,.int .u64 s1,.int .u64 s2,.int .u64 s3]) (.agg #[.int .u64 t0,.int .u64 t1,.int .u64 t2,.int .u64 t3])).run prog w=.ok false w:=by
 have h':=vT 9998 s0 s1 s2 s3 t0 t1 t2 t3 w;rw[RZ (fun q=>h ((rD hs ht).1 q))]at h';exact h'
theorem FO {s0 s1 s2 s3:Nat} (hs:cC s0 s1 s2 s3) (h:aC s0 s1 s2 s3=0) (w:World):(Op.equalIn 10000 27 (.agg #[.int .u64 s0,.int .u64 s1,.int .u64 s2,.int .u64 s3]) (.agg #[.int .u64 0,.int .u64 0,.int .u64 0,.int .u64 0])).run prog w=.ok true w:=Kg hs Yi (h.trans rfl) w
theorem Aj {s0 s1 s2 s3:Nat} (hs:cC s0 s1 s2 s3) (h:aC s0 s1 s2 s3≠0) (w:World):(Op.equalIn 10000 27 (.agg #[.int .u64 s0,.int .u64 s1,.int .u64 s2,.int .u64 s3]) (.agg #[.int .u64 0,.int .u64 0,.int .u64 0,.int .u64 0])).run prog w=.ok false w:=Ux hs Yi (fun q=>h (q.trans rfl)) w
theorem Bad1.ne {f c:Int} {A:Nat} (h:Bad1 f A c):c≠0:=by rcases h with⟨_,_,h⟩|⟨_,_,_,h⟩<;>omega
theorem Bad2.ne {f c:Int} {A B:Nat} (h:Bad2 f A B c):c≠0:=by
 rcases h with h|⟨_,_,_,_,h⟩
 ·exact h.ne
 ·omega
theorem FieldIs.uniq {f:Int} {F G:FC} (h:FieldIs f F) (k:FieldIs f G):F=G:=by
 rcases h with⟨h,rfl⟩|⟨h,rfl⟩<;>rcases k with⟨k,rfl⟩|⟨k,rfl⟩<;>first|rfl|omega
def kQ (A:Nat→Nat→Nat) (j:Nat):Nat:=aC (A j 0) (A j 1) (A j 2) (A j 3)
def FT (P:Nat→Nat) (j:Nat):Nat:=aC (P (j*4)) (P (j*4+1)) (P (j*4+2)) (P (j*4+3))
def EK (P:Nat→Nat) (j:Nat):Prop:=cC (P (j*4)) (P (j*4+1)) (P (j*4+2)) (P (j*4+3))
def putP (P:Nat→Nat) (k q0 q1 q2 q3:Nat):Nat→Nat:=gY (gY (gY (gY P (k*4) q0) (k*4+1) q1) (k*4+2) q2) (k*4+3) q3
theorem nO (P:Nat→Nat) (k q0 q1 q2 q3:Nat):FT (putP P k q0 q1 q2 q3) k=aC q0 q1 q2 q3∧(cC q0 q1 q2 q3→EK (putP P k q0 q1 q2 q3) k):=by
 have e0:putP P k q0 q1 q2 q3 (k*4)=q0:=by unfold putP gY; rw[if_neg (by omega),if_neg (by omega),if_neg (by omega),if_pos rfl]
 have e1:putP P k q0 q1 q2 q3 (k*4+1)=q1:=by unfold putP gY; rw[if_neg (by omega),if_neg (by omega),if_pos rfl]
 have e2:putP P k q0 q1 q2 q3 (k*4+2)=q2:=by unfold putP gY; rw[if_neg (by omega),if_pos rfl]
 have e3:putP P k q0 q1 q2 q3 (k*4+3)=q3:=by unfold putP gY; rw[if_pos rfl]
 unfold FT EK;rw[e0,e1,e2,e3];exact⟨rfl,id⟩
theorem gS (P:Nat→Nat) (k q0 q1 q2 q3 j:Nat) (h:j≠k):FT (putP P k q0 q1 q2 q3) j=FT P j∧(EK P j→EK (putP P k q0 q1 q2 q3) j):=by
 have e:∀i,i<4→putP P k q0 q1 q2 q3 (j*4+i)=P (j*4+i):=fun i hi=>by
  unfold putP gY; rw[if_neg (by omega),if_neg (by omega),if_neg (by omega),if_neg (by omega)]
 have e0:putP P k q0 q1 q2 q3 (j*4)=P (j*4):=e 0 (by omega);unfold FT EK;rw[e0,e 1 (by omega),e 2 (by omega),e 3 (by omega)];exact⟨rfl,id⟩
theorem RowIs.putP {w:World} {b n:Nat} {P:Nat→Nat} (h:RowIs w b (n*4) P) {k:Nat} (hk:k<n) (q0 q1 q2 q3:Nat) :
  RowIs ((((w.setCell ⟨b,k*4,none⟩ (.int .u64 (q0:Nat))).setCell ⟨b,k*4+1,none⟩ (.int .u64 (q1:Nat))).setCell ⟨b,k*4+2,none⟩ (.int .u64 (q2:Nat))).setCell ⟨b,k*4+3,none⟩ (.int .u64 (q3:Nat))) b (n*4) (putP P k q0 q1 q2 q3) :=
 (((h.set (i:=k*4) (by omega) (v:=q0)).set (i:=k*4+1) (by omega) (v:=q1)).set (i:=k*4+2) (by omega) (v:=q2)).set (i:=k*4+3) (by omega) (v:=q3)
theorem Mem.poke {w wr:World} {rs:List (Nat×Nat×Nat×Nat×Nat)} (h:Mem w wr rs) {c i:Nat} (hw:w.heap.size≤c) (hne:∀r,r∈rs→r.1≠c) (v:Value):Mem w (wr.setCell ⟨c,i,none⟩ v) rs :=
 ⟨h.1.setCell (p:=⟨c,i,none⟩) hw v,fun r hr=>⟨by rw[World.size_setCell]; exact (h.2 r hr).1,(h.2 r hr).2.other (fun e=>hne r hr e.symm) v⟩⟩
theorem ME {F:FC} {E:Nat→Nat} {P:Nat→Nat} {k q0 q1 q2 q3:Nat} (hq:cC q0 q1 q2 q3) (hv:aC q0 q1 q2 q3=kp F (pI F.M E k)) (h:∀j,j<k→EK P j∧FT P j=kp F (pI F.M E j)) :
  ∀j,j<k+1→EK (putP P k q0 q1 q2 q3) j∧FT (putP P k q0 q1 q2 q3) j=kp F (pI F.M E j):=fun j hj=>by
 by_cases e:j=k
 ·subst e;exact⟨(nO P j q0 q1 q2 q3).2 hq,by rw[(nO P j q0 q1 q2 q3).1,hv]⟩
 ·have:=h j (by omega);exact⟨(gS P k q0 q1 q2 q3 j e).2 this.1,by rw[(gS P k q0 q1 q2 q3 j e).1,this.2]⟩
theorem ZK {F:FC} (hF:F.Ok) {gr:Nat} (hr:Root F.M gr) {E:Nat→Nat} {j:Nat} (hE:∀k,k≤j→E k<F.M) (hz:E j≠0):kp F (pI F.M E (j+1)^(F.M-2)*E j%F.M)=kp F (pI F.M E j^(F.M-2)):=by
 have h2:2≤F.M:=by have:=hF.gt; omega
 have hp:=JE hr h2 (E:=E) (j:=j) (fun k h=>hE k (by omega));have e:pI F.M E (j+1)=pI F.M E j*E j%F.M:=by show (if E j=0 then _ else _)=_; rw[if_neg hz]
 rw[e,FE hr h2 hp.1 hp.2 (by omega) (hE j (Nat.le_refl _)),vD]
theorem Im {F:FC} (hF:F.Ok) {gr:Nat} (hr:Root F.M gr) {E:Nat→Nat} {j:Nat} (hE:∀k,k≤j→E k<F.M) (hz:E j≠0):pI F.M E (j+1)^(F.M-2)*pI F.M E j%F.M=E j^(F.M-2)%F.M:=by
 have h2:2≤F.M:=by have:=hF.gt; omega
 have hp:=JE hr h2 (E:=E) (j:=j) (fun k h=>hE k (by omega));have e:pI F.M E (j+1)=E j*pI F.M E j%F.M:=by show (if E j=0 then _ else _)=_; rw[if_neg hz,Nat.mul_comm]
 rw[e,FE hr h2 (by omega) (hE j (Nat.le_refl _)) hp.1 hp.2]
theorem ZJ {F:FC} (hF:F.Ok) {a:Nat} (hz:a=0):a^(F.M-2)%F.M=0:=by
 have:=hF.gt;subst hz;rw[Nat.zero_pow (by omega),Nat.zero_mod]
def Df (F:FC) (len:Nat) (A:Nat→Nat→Nat) (w:World) (e:Ending) (w':World):Prop :=
 ∃(bo:Nat) (O:Nat→Nat),e=.returned (.slice (some ⟨bo,0,none⟩) len len)∧w.heap.size≤bo∧bo<w'.heap.size∧RowIs w' bo (len*4) O∧(∀j,j<len→EK O j∧FT O j=kQ A j^(F.M-2)%F.M)∧Below w.heap.size w w'
set_option maxRecDepth 20000 in
set_option maxHeartbeats 4000000 in
theorem vJ (F:FC) (hF:F.Ok) (gr:Nat) (hroot:Root F.M gr) (b g off len cap:Nat) (A:Nat→Nat→Nat) (hA:LOk len A) (hlA:∀j,j<len→kQ A j<F.M) (hm:len≤65536) (w:World) (hk:KIs w b F) (hg:0<len→g<w.heap.size) (hl:LAt w g off len A) :
  Calls prog 217 #[.pointer (some ⟨b,0,none⟩),.slice (some ⟨g,off,none⟩) len cap] w (Df F len A w):=by
 obtain⟨o,hmk,ho⟩:=aAV len hm;obtain⟨o2,hmk2,ho2⟩:=aAW len hm;have HO2:=Lib.hid ho2;clear ho2;have R0:=Lib.hid (ho w _ rfl);have KW:=Lib.hid hk;have HRt:=Lib.hid hroot;clear hroot;have HLA:=Lib.hid hlA;clear hlA;have HK:=Lib.hid (hk.same ((Below.refl _ _).alloc (Nat.le_refl _) o));have HL:=Lib.hid hl;have HG:=Lib.hid hg;clear hg;have HA:=Lib.hid hA;have HF:=Lib.hid hF;clear hk hl hA hF ho
 go_enter func217,ntmps217
 go_wp2_with fail;refine (xV F HF.out b _ HK.out).mono ?_
 rintro e w1 ⟨p0,p1,p2,p3,rfl,hp,hv,hbl⟩
 have R1:=Lib.hid (R0.out.below hbl (by simp));have K1:=Lib.hid (HK.out.same hbl);have B1:=Lib.hid ((Below.refl _ w).alloc (Nat.le_refl _) o |>.trans (hbl.mono (by simp)));have S1:w.heap.size<w1.heap.size:=by have:=hbl.size; simp at this; omega
 have HV:=Lib.hid hv;clear hv hbl R0 HK;go_wp2_with fail;have M0:=Lib.hid (((Mem.nil w).on B1.out).new w1.heap.size p0 p1 p2 p3 155 rfl);have RA:=Lib.hid (R1.out.alloc S1 (.cells #[.int .u64 p0,.int .u64 p1,.int .u64 p2,.int .u64 p3] 155))
 go_loopw [19] (fun t wr=>∃(k q0 q1 q2 q3:Nat) (P:Nat→Nat),k≤len∧t=.int .i64 k∧cC q0 q1 q2 q3∧Hid (aC q0 q1 q2 q3=kp F (pI F.M (kQ A) k))∧Hid (RowIs wr w.heap.size (len*4) P)∧Hid (∀j,j<k→EK P j∧FT P j=kp F (pI F.M (kQ A) j))∧Hid (Mem w wr [(w1.heap.size,q0,q1,q2,q3)])) (fun t _=>len-(intOf t).toNat)
 case atStart=>exact⟨0,p0,p1,p2,p3,_,Nat.zero_le _,rfl,hp,HV,RA,Lib.hid (fun j h=>absurd h (by omega)),M0⟩
 case round =>
  obtain⟨k,q0,q1,q2,q3,P,hk,rfl,hq,HQ,RP,HP,HM⟩:=hrel;clear RA M0 R1 K1 B1 HV
  by_cases hlt:k<len
  ·obtain⟨a0,a1,a2,a3,e0,e1,e2,e3⟩:∃a0 a1 a2 a3:Nat,a0=A k 0∧a1=A k 1∧a2=A k 2∧a3=A k 3:=⟨_,_,_,_,rfl,rfl,rfl,rfl⟩
   have hc:=(HL.out.same HG.out HM.out.1) k hlt;have hok:=HA.out k hlt;rw[←e0,←e1,←e2,←e3]at hc hok;have c0:=hc.1; have c1:=hc.2.1; have c2:=hc.2.2.1; have c3:=hc.2.2.2;have HE:=Lib.hid (show kQ A k=aC a0 a1 a2 a3 by unfold kQ; rw[←e0,←e1,←e2,←e3]);have HO:=Lib.hid hok;clear e0 e1 e2 e3 hok hc;have Rr:=HM.out.row (b:=w1.heap.size) (c0:=q0) (c1:=q1) (c2:=q2) (c3:=q3) (by simp);have x0:=Rr.c0; have x1:=Rr.c1; have x2:=Rr.c2; have x3:=Rr.c3;have ltr:=HM.out.lt (b:=w1.heap.size) (c0:=q0) (c1:=q1) (c2:=q2) (c3:=q3) (by simp);have lta:w.heap.size<wr.heap.size:=by omega
   have ltg:g<wr.heap.size:=by have:=HG.out (by omega); omega
   have i0:=RP.out.cell (i:=k*4) (by omega); have i1:=RP.out.cell (i:=k*4+1) (by omega); have i2:=RP.out.cell (i:=k*4+2) (by omega); have i3:=RP.out.cell (i:=k*4+3) (by omega);have f0:=RP.out.free (i:=k*4) (by omega); have f1:=RP.out.free (i:=k*4+1) (by omega); have f2:=RP.out.free (i:=k*4+2) (by omega); have f3:=RP.out.free (i:=k*4+3) (by omega);have ne1:¬w.heap.size=w1.heap.size:=by omega
   have ne1':¬w1.heap.size=w.heap.size:=by omega
   clear Rr;have HN:=Lib.hid (ME hq HQ.out HP.out);have RPs:=RP.out.putP hlt q0 q1 q2 q3;have szs:((((wr.setCell ⟨w.heap.size,k*4,none⟩ (.int .u64 (q0:Nat))).setCell ⟨w.heap.size,k*4+1,none⟩ (.int .u64 (q1:Nat))).setCell ⟨w.heap.size,k*4+2,none⟩ (.int .u64 (q2:Nat))).setCell ⟨w.heap.size,k*4+3,none⟩ (.int .u64 (q3:Nat))).heap.size=wr.heap.size:=by simp only[World.size_setCell]
   have hne:∀r,r∈[(w1.heap.size,q0,q1,q2,q3)]→r.1≠w.heap.size:=by intro r hr; simp at hr; subst hr; exact ne1'
   have HMs:=(((HM.out.poke (i:=k*4) (Nat.le_refl _) hne (.int .u64 (q0:Nat))).poke (i:=k*4+1) (Nat.le_refl _) hne (.int .u64 (q1:Nat))).poke (i:=k*4+2) (Nat.le_refl _) hne (.int .u64 (q2:Nat))).poke (i:=k*4+3) (Nat.le_refl _) hne (.int .u64 (q3:Nat));have RN:=Lib.hid (RPs.alloc (by rw[szs]; exact lta) (.cells #[.int .u64 a0,.int .u64 a1,.int .u64 a2,.int .u64 a3] 27));have HMN:=Lib.hid (HMs.new wr.heap.size a0 a1 a2 a3 27 szs.symm);clear RPs szs hne HMs
   by_cases hz:aC a0 a1 a2 a3=0
   ·have EQ:=FO HO.out hz;have HS:=Lib.hid (show aC q0 q1 q2 q3=kp F (pI F.M (kQ A) (k+1)) by rw[HQ.out]; unfold pI; rw[if_pos (HE.out.trans hz)]; cases k<;>rfl);clear hz;go_wp2_with fail
    go_roundw
    case rel=>exact⟨k+1,q0,q1,q2,q3,_,by omega,by go_num,hq,HS,RN,HN,Lib.hid (HMN.out.sub (fun r hr=>List.mem_cons_of_mem _ hr))⟩
    case measure=>simp[intOf]; omega
   ·have EQ:=Aj HO.out hz;have HZ:=Lib.hid hz;clear hz;go_wp2_with fail;clear EQ c0 c1 c2 c3 x0 x1 x2 x3 i0 i1 i2 i3 f0 f1 f2 f3;obtain⟨W8,hW8⟩:∃W8,W8=(((((wr.setCell ⟨w.heap.size,k*4,none⟩ (.int .u64 (q0:Nat))).setCell ⟨w.heap.size,k*4+1,none⟩ (.int .u64 (q1:Nat))).setCell ⟨w.heap.size,k*4+2,none⟩ (.int .u64 (q2:Nat))).setCell ⟨w.heap.size,k*4+3,none⟩ (.int .u64 (q3:Nat))).alloc (.cells #[.int .u64 a0,.int .u64 a1,.int .u64 a2,.int .u64 a3] 27)):=⟨_,rfl⟩
    rw[←hW8]at RN HMN ⊢;have z8:wr.heap.size<W8.heap.size:=HMN.out.lt (b:=wr.heap.size) (c0:=a0) (c1:=a1) (c2:=a2) (c3:=a3) (by simp);clear hW8;refine cM (fun wx=>Below W8.heap.size W8 wx) 6 (by kernel_rfl) ?_;have HS:=bK W8.heap.size W8 1;have HM8:=Lib.hid HS;refine aE (i:=0) (v:=.pointer (some ⟨b,0,none⟩)) rfl (by kernel_rfl) (by kernel_rfl) (by kernel_rfl) (by kernel_rfl) (fun _ _ _ h=>h) HS (Or.inl ⟨by kernel_rfl,fun wx hx => ?_⟩) ?_
    ·clear HS hx;go_simp
    simp only[Act.put,List.setIfInBounds_toArray,List.set_cons_zero,List.set_cons_succ];refine aE (i:=1) (v:=.agg #[.int .u64 q0,.int .u64 q1,.int .u64 q2,.int .u64 q3]) rfl (by kernel_rfl) (by kernel_rfl) (by kernel_rfl) (by kernel_rfl) (fun _ _ _ h=>h) HS (Or.inl ⟨by kernel_rfl,fun wx hx => ?_⟩) ?_
    ·have hm:=HMN.out.on hx;have kr:=hm.row (b:=w1.heap.size) (c0:=q0) (c1:=q1) (c2:=q2) (c3:=q3) (by simp);have y0:=kr.c0; have y1:=kr.c1; have y2:=kr.c2; have y3:=kr.c3;clear kr;clear hm;clear HS hx;go_simp
    simp only[Act.put,List.setIfInBounds_toArray,List.set_cons_zero,List.set_cons_succ];refine aE (i:=2) (v:=.pointer (some ⟨b,0,none⟩)) rfl (by kernel_rfl) (by kernel_rfl) (by kernel_rfl) (by kernel_rfl) (fun _ _ _ h=>h) HS (Or.inl ⟨by kernel_rfl,fun wx hx => ?_⟩) ?_
    ·clear HS hx;go_simp
    simp only[Act.put,List.setIfInBounds_toArray,List.set_cons_zero,List.set_cons_succ];refine aE (i:=3) (v:=.agg #[.int .u64 a0,.int .u64 a1,.int .u64 a2,.int .u64 a3]) rfl (by kernel_rfl) (by kernel_rfl) (by kernel_rfl) (by kernel_rfl) (fun _ _ _ h=>h) HS (Or.inl ⟨by kernel_rfl,fun wx hx => ?_⟩) ?_
    ·have hm:=HMN.out.on hx;have kr:=hm.row (b:=wr.heap.size) (c0:=a0) (c1:=a1) (c2:=a2) (c3:=a3) (by simp);have y0:=kr.c0; have y1:=kr.c1; have y2:=kr.c2; have y3:=kr.c3;clear kr;clear hm;clear HS hx;go_simp
    simp only[Act.put,List.setIfInBounds_toArray,List.set_cons_zero,List.set_cons_succ];clear HS;refine aQ (i:=4) (by kernel_rfl) rfl (fun K hK => ?_);go_simp;refine (gT F HF.out b a0 a1 a2 a3 HO.out _ (KW.out.same (HMN.out.on HM8.out).1)).mono ?_
    rintro e w2 ⟨s0,s1,s2,s3,rfl,hs,hv,hbl⟩
    have HS:=HM8.out.trans (hbl.mono HM8.out.size);clear HM8;have HM8:=Lib.hid HS;have HV:=Lib.hid hv;clear hv hbl;refine hK.out _ _ (Or.inr HS) (fun _ => ?_);clear hK K;clear HS;refine aQ (i:=5) (by kernel_rfl) rfl (fun K hK => ?_);go_simp;refine (dP F HF.out b q0 q1 q2 q3 s0 s1 s2 s3 hq hs (by rw[HV.out]; exact EV HF.out _) _ (KW.out.same (HMN.out.on HM8.out).1)).mono ?_
    rintro e w3 ⟨t0,t1,t2,t3,rfl,ht,hv,hbl⟩
    have HS:=HM8.out.trans (hbl.mono HM8.out.size);clear HM8;have HM8:=Lib.hid HS;have HT:=Lib.hid (show aC t0 t1 t2 t3=kp F (pI F.M (kQ A) (k+1)) by
     rw[hv,HV.out,HQ.out,mN HF.out,←HE.out]; show _=kp F (if kQ A k=0 then _ else _); rw[if_neg (fun h=>HZ.out (HE.out.symm.trans h))])
    clear hv hbl HV;refine hK.out _ _ (Or.inr HS) (fun _ => ?_);clear hK K;clear HS;have M9:=Lib.hid ((HMN.out.on HM8.out).sub (rs':=[(w1.heap.size,q0,q1,q2,q3)]) (fun r hr=>List.mem_cons_of_mem _ hr));have R9:=Lib.hid (RN.out.below HM8.out (by omega));have kr:=M9.out.row (b:=w1.heap.size) (c0:=q0) (c1:=q1) (c2:=q2) (c3:=q3) (by simp);have y0:=kr.c0; have y1:=kr.c1; have y2:=kr.c2; have y3:=kr.c3; have yf:=kr.fr;clear kr;have lr:w1.heap.size<w3.heap.size:=M9.out.lt (b:=w1.heap.size) (c0:=q0) (c1:=q1) (c2:=q2) (c3:=q3) (by simp);clear RN HMN HM8;refine aQ (i:=6) (by kernel_rfl) rfl (fun K hK => ?_);go_simp;refine hK.out _ _ (Or.inl rfl) (fun _ => ?_);clear hK K;refine cU (by kernel_rfl) ?_;go_wp2_with fail
    go_roundw
    case rel=>exact⟨k+1,t0,t1,t2,t3,_,by omega,by go_num,ht,HT,Lib.hid ((((R9.out.other ne1' _).other ne1' _).other ne1' _).other ne1' _),HN,Lib.hid (M9.out.put t0 t1 t2 t3 (by omega) (fun r hr=>by cases hr))⟩
    case measure=>simp[intOf]; omega
  ·obtain rfl:len=k:=by omega
   obtain⟨wo,rfl⟩:∃wo,wo=wr:=⟨_,rfl⟩
   have Rr:=HM.out.row (b:=w1.heap.size) (c0:=q0) (c1:=q1) (c2:=q2) (c3:=q3) (by simp);have x0:=Rr.c0; have x1:=Rr.c1; have x2:=Rr.c2; have x3:=Rr.c3;have ltr:=HM.out.lt (b:=w1.heap.size) (c0:=q0) (c1:=q1) (c2:=q2) (c3:=q3) (by simp);have lta:w.heap.size<wo.heap.size:=by omega
   have M2:=Lib.hid (HM.out.on ((Below.refl _ _).alloc (Nat.le_refl _) o2));have R2:=Lib.hid (RP.out.alloc lta o2);have O2:=Lib.hid (HO2.out wo _ rfl);clear Rr hk hlt HO2;go_wp2_with fail;refine (mQ F HF.out (pI F.M (kQ A) len) b q0 q1 q2 q3 hq HQ.out _ (KW.out.same M2.out.1)).mono ?_
   rintro e w2 ⟨s0,s1,s2,s3,rfl,hs,hv,hbl⟩
   have sz2:wo.heap.size<w2.heap.size:=by have:=hbl.size; simp at this; omega
   have HV:=Lib.hid hv;have M3:=Lib.hid (M2.out.on hbl);have R3:=Lib.hid (R2.out.below hbl (by simp; omega));have O3:=Lib.hid (O2.out.below hbl (by simp));clear hv hbl M2 R2 O2 x0 x1 x2 x3;go_wp2_with fail;have M4:=Lib.hid ((M3.out.new w2.heap.size s0 s1 s2 s3 155 rfl).sub (rs':=[(w2.heap.size,s0,s1,s2,s3)]) (fun r hr=>by simp at hr; subst hr; simp));have R4:=Lib.hid (R3.out.alloc (by omega) (.cells #[.int .u64 s0,.int .u64 s1,.int .u64 s2,.int .u64 s3] 155));have O4:=Lib.hid (O3.out.alloc sz2 (.cells #[.int .u64 s0,.int .u64 s1,.int .u64 s2,.int .u64 s3] 155));clear M3 R3 O3 HM RP HQ
   go_loopw [11] (fun t wx=>∃(m r0 r1 r2 r3:Nat) (x:Int) (O:Nat→Nat),m≤len∧t=.int .i64 x∧Hid (x=(m:Int)-1)∧cC r0 r1 r2 r3∧Hid (aC r0 r1 r2 r3=kp F (pI F.M (kQ A) m^(F.M-2)))∧Hid (RowIs wx w.heap.size (len*4) P)∧Hid (RowIs wx wo.heap.size (len*4) O)∧Hid (∀j,j<m→EK O j∧FT O j=0)∧Hid (∀j,m≤j→j<len→EK O j∧FT O j=kQ A j^(F.M-2)%F.M)∧Hid (Mem w wx [(w2.heap.size,r0,r1,r2,r3)])) (fun t _=>(intOf t+1).toNat)
   case atStart=>exact⟨len,s0,s1,s2,s3,_,_,Nat.le_refl _,rfl,Lib.hid rfl,hs,HV,R4,O4,Lib.hid (fun j h=>⟨Yi,rfl⟩),Lib.hid (fun j h1 h2=>absurd h2 (by omega)),M4⟩
   case round =>
    obtain⟨m,r0,r1,r2,r3,x,O,hml,rfl,hx,hr,HR,RP,RO,HZ,HD,HM⟩:=hrel;clear M4 R4 O4 HV;have ltx:=HM.out.lt (b:=w2.heap.size) (c0:=r0) (c1:=r1) (c2:=r2) (c3:=r3) (by simp);have lto:wo.heap.size<wr.heap.size:=by omega
    have lta':w.heap.size<wr.heap.size:=by omega
    rcases Nat.eq_zero_or_pos m with rfl|hmp
    ·obtain rfl:x = -1:=by rw[hx.out]; rfl
     go_wp2_with fail;go_ret;exact⟨wo.heap.size,O,rfl,by omega,lto,RO.out,fun j h=>HD.out j (by omega) h,HM.out.1⟩
    ·obtain⟨j,rfl⟩:∃j,m=j+1:=⟨m-1,by omega⟩
     obtain rfl:x=(j:Int):=by rw[hx.out]; omega
     have hjl:j<len:=by omega
     obtain⟨a0,a1,a2,a3,e0,e1,e2,e3⟩:∃a0 a1 a2 a3:Nat,a0=A j 0∧a1=A j 1∧a2=A j 2∧a3=A j 3:=⟨_,_,_,_,rfl,rfl,rfl,rfl⟩
     have hc:=(HL.out.same HG.out HM.out.1) j hjl;have hok:=HA.out j hjl;rw[←e0,←e1,←e2,←e3]at hc hok;have c0:=hc.1; have c1:=hc.2.1; have c2:=hc.2.2.1; have c3:=hc.2.2.2;have HE:=Lib.hid (show kQ A j=aC a0 a1 a2 a3 by unfold kQ; rw[←e0,←e1,←e2,←e3]);have HO:=Lib.hid hok;have HA4:=Lib.hid (And.intro e0 (And.intro e1 (And.intro e2 e3)));clear e0 e1 e2 e3 hok hc;have ltg:g<wr.heap.size:=by have:=HG.out (by omega); omega
     have bjl:(j:Int)<(len:Int):=by omega
     by_cases hz:aC a0 a1 a2 a3=0
     ·have EQ:=FO HO.out hz;have HS:=Lib.hid (show aC r0 r1 r2 r3=kp F (pI F.M (kQ A) j^(F.M-2)) by rw[HR.out]; show kp F ((if kQ A j=0 then _ else _)^_)=_; rw[if_pos (HE.out.trans hz)]);have HZn:=Lib.hid (fun i (h:i<j)=>HZ.out i (Nat.lt_succ_of_lt h));have HDn:=Lib.hid (show ∀i,j≤i→i<len→EK O i∧FT O i=kQ A i^(F.M-2)%F.M from fun i h1 h2=>by
       by_cases e:i=j
       ·subst e; exact⟨(HZ.out i (by omega)).1,by rw[(HZ.out i (by omega)).2,ZJ HF.out (HE.out.trans hz)]⟩
       ·exact HD.out i (by omega) h2)
      clear hz;go_wp2_with fail
      go_roundw
      case rel=>exact⟨j,r0,r1,r2,r3,_,O,by omega,rfl,Lib.hid (by omega),hr,HS,RP,RO,HZn,HDn,HM⟩
      case measure=>simp[intOf]<;>omega
     ·have EQ:=Aj HO.out hz;have HZ':=Lib.hid hz;clear hz;go_wp2_with fail;clear EQ c0 c1 c2 c3;obtain⟨h0,h1,h2,h3,g0,g1,g2,g3⟩:∃h0 h1 h2 h3:Nat,h0=P (j*4)∧h1=P (j*4+1)∧h2=P (j*4+2)∧h3=P (j*4+3):=⟨_,_,_,_,rfl,rfl,rfl,rfl⟩
      have hh:=(HP.out j hjl).1;have eh:=(HP.out j hjl).2;unfold EK at hh;unfold FT at eh;rw[←g0,←g1,←g2,←g3]at hh eh;have HC:=Lib.hid (show ∀wx,Below wr.heap.size wr wx→wx.cell? ⟨w.heap.size,j*4,none⟩=some (.int .u64 (h0:Nat))∧wx.cell? ⟨w.heap.size,j*4+1,none⟩=some (.int .u64 (h1:Nat))∧wx.cell? ⟨w.heap.size,j*4+2,none⟩=some (.int .u64 (h2:Nat))∧wx.cell? ⟨w.heap.size,j*4+3,none⟩=some (.int .u64 (h3:Nat))from fun wx hx=>by
       have q:=RP.out.below hx lta';rw[g0,g1,g2,g3];exact⟨q.cell (by omega),q.cell (by omega),q.cell (by omega),q.cell (by omega)⟩)
      have EH:=Lib.hid eh;have lh:Hid (aC h0 h1 h2 h3<F.M):=Lib.hid (by rw[eh]; exact EV HF.out _);clear eh g0 g1 g2 g3;refine cM (fun wx=>Below wr.heap.size wr wx) 12 (by kernel_rfl) ?_;have HS:=bK wr.heap.size wr 1;have HB:=Lib.hid HS;refine aE (i:=0) (v:=.slice (some ⟨wo.heap.size,0,none⟩) len len) rfl (by kernel_rfl) (by kernel_rfl) (by kernel_rfl) (by kernel_rfl) (fun _ _ _ h=>h) HS (Or.inl ⟨by kernel_rfl,fun wx hx => ?_⟩) ?_
      ·clear HS hx;go_simp
      simp only[Act.put,List.setIfInBounds_toArray,List.set_cons_zero,List.set_cons_succ];refine aE (i:=1) (v:=.int .i64 (j:Nat)) rfl (by kernel_rfl) (by kernel_rfl) (by kernel_rfl) (by kernel_rfl) (fun _ _ _ h=>h) HS (Or.inl ⟨by kernel_rfl,fun wx hx => ?_⟩) ?_
      ·clear HS hx;go_simp
      simp only[Act.put,List.setIfInBounds_toArray,List.set_cons_zero,List.set_cons_succ];refine aE (i:=2) (v:=.pointer (some ⟨b,0,none⟩)) rfl (by kernel_rfl) (by kernel_rfl) (by kernel_rfl) (by kernel_rfl) (fun _ _ _ h=>h) HS (Or.inl ⟨by kernel_rfl,fun wx hx => ?_⟩) ?_
      ·clear HS hx;go_simp
      simp only[Act.put,List.setIfInBounds_toArray,List.set_cons_zero,List.set_cons_succ];refine aE (i:=3) (v:=.pointer (some ⟨b,0,none⟩)) rfl (by kernel_rfl) (by kernel_rfl) (by kernel_rfl) (by kernel_rfl) (fun _ _ _ h=>h) HS (Or.inl ⟨by kernel_rfl,fun wx hx => ?_⟩) ?_
      ·clear HS hx;go_simp
      simp only[Act.put,List.setIfInBounds_toArray,List.set_cons_zero,List.set_cons_succ];refine aE (i:=4) (v:=.agg #[.int .u64 r0,.int .u64 r1,.int .u64 r2,.int .u64 r3]) rfl (by kernel_rfl) (by kernel_rfl) (by kernel_rfl) (by kernel_rfl) (fun _ _ _ h=>h) HS (Or.inl ⟨by kernel_rfl,fun wx hx => ?_⟩) ?_
      ·have hm:=HM.out.on hx;have kr:=hm.row (b:=w2.heap.size) (c0:=r0) (c1:=r1) (c2:=r2) (c3:=r3) (by simp);have y0:=kr.c0; have y1:=kr.c1; have y2:=kr.c2; have y3:=kr.c3;clear kr;clear hm;clear HS hx;go_simp
      simp only[Act.put,List.setIfInBounds_toArray,List.set_cons_zero,List.set_cons_succ];refine aE (i:=5) (v:=.slice (some ⟨w.heap.size,0,none⟩) len len) rfl (by kernel_rfl) (by kernel_rfl) (by kernel_rfl) (by kernel_rfl) (fun _ _ _ h=>h) HS (Or.inl ⟨by kernel_rfl,fun wx hx => ?_⟩) ?_
      ·clear HS hx;go_simp
      simp only[Act.put,List.setIfInBounds_toArray,List.set_cons_zero,List.set_cons_succ];refine aE (i:=6) (v:=.int .i64 (j:Nat)) rfl (by kernel_rfl) (by kernel_rfl) (by kernel_rfl) (by kernel_rfl) (fun _ _ _ h=>h) HS (Or.inl ⟨by kernel_rfl,fun wx hx => ?_⟩) ?_
      ·clear HS hx;go_simp
      simp only[Act.put,List.setIfInBounds_toArray,List.set_cons_zero,List.set_cons_succ];refine aE (i:=7) (v:=.pointer (some ⟨w.heap.size,j*4,none⟩)) rfl (by kernel_rfl) (by kernel_rfl) (by kernel_rfl) (by kernel_rfl) (fun _ _ _ h=>h) HS (Or.inl ⟨by kernel_rfl,fun wx hx => ?_⟩) ?_
      ·clear HS hx;go_simp
      simp only[Act.put,List.setIfInBounds_toArray,List.set_cons_zero,List.set_cons_succ];refine aE (i:=8) (v:=.agg #[.int .u64 h0,.int .u64 h1,.int .u64 h2,.int .u64 h3]) rfl (by kernel_rfl) (by kernel_rfl) (by kernel_rfl) (by kernel_rfl) (fun _ _ _ h=>h) HS (Or.inl ⟨by kernel_rfl,fun wx hx => ?_⟩) ?_
      ·have hc:=HC.out wx hx;have y0:=hc.1; have y1:=hc.2.1; have y2:=hc.2.2.1; have y3:=hc.2.2.2;clear hc;clear HS hx;go_simp
      simp only[Act.put,List.setIfInBounds_toArray,List.set_cons_zero,List.set_cons_succ];clear HS;refine aQ (i:=9) (by kernel_rfl) rfl (fun K hK => ?_);go_simp;refine (dP F HF.out b r0 r1 r2 r3 h0 h1 h2 h3 hr hh lh.out _ (KW.out.same (HM.out.on HB.out).1)).mono ?_
      rintro e w3 ⟨v0,v1,v2,v3,rfl,hvv,hv,hbl⟩
      have HS:=HB.out.trans (hbl.mono HB.out.size);clear HB;have HB:=Lib.hid HS;have HV:=Lib.hid (show aC v0 v1 v2 v3=kp F (pI F.M (kQ A) (j+1)^(F.M-2)*pI F.M (kQ A) j%F.M) by rw[hv,HR.out,EH.out,mN HF.out]);clear hv hbl;refine hK.out _ _ (Or.inr HS) (fun _ => ?_);clear hK K;clear HS;refine aQ (i:=10) (by kernel_rfl) rfl (fun K hK => ?_);go_simp;refine (QL F HF.out b v0 v1 v2 v3 hvv _ (KW.out.same (HM.out.on HB.out).1)).mono ?_
      rintro e w4 ⟨t0,t1,t2,t3,rfl,ht,hv,hbl⟩
      have HS:=HB.out.trans (hbl.mono HB.out.size);clear HB;have HB:=Lib.hid HS;have HT:=Lib.hid (show aC t0 t1 t2 t3=kQ A j^(F.M-2)%F.M by
       rw[hv,HV.out,Tb HF.out _ (Nat.mod_lt _ HF.out.pos)];exact Im HF.out HRt.out (fun i h=>HLA.out i (by omega)) (fun h=>HZ'.out (HE.out.symm.trans h)))
      clear hv hbl HV;refine hK.out _ _ (Or.inr HS) (fun _ => ?_);clear hK K;clear HS;refine aQ (i:=11) (by kernel_rfl) rfl (fun K hK => ?_);go_simp;refine hK.out _ _ (Or.inr HB.out) (fun _ => ?_);clear hK K;have RO4:=Lib.hid (RO.out.below HB.out lto);have RP4:=Lib.hid (RP.out.below HB.out lta');have HM4:=Lib.hid (HM.out.on HB.out);have sz4:=HB.out.size;have i0:=RO4.out.cell (i:=j*4) (by omega); have i1:=RO4.out.cell (i:=j*4+1) (by omega); have i2:=RO4.out.cell (i:=j*4+2) (by omega); have i3:=RO4.out.cell (i:=j*4+3) (by omega);have f0:=RO4.out.free (i:=j*4) (by omega); have f1:=RO4.out.free (i:=j*4+1) (by omega); have f2:=RO4.out.free (i:=j*4+2) (by omega); have f3:=RO4.out.free (i:=j*4+3) (by omega);have lo4:wo.heap.size<w4.heap.size:=by omega
      clear HC RO RP HM HB;refine aQ (i:=12) (by kernel_rfl) rfl (fun K hK => ?_);go_simp;refine hK.out _ _ (Or.inl rfl) (fun _ => ?_);clear hK K;refine cU (by kernel_rfl) ?_;go_wp2_with fail;clear i0 i1 i2 i3 f0 f1 f2 f3;have HDn:=Lib.hid (show ∀i,j≤i→i<len→EK (putP O j t0 t1 t2 t3) i∧FT (putP O j t0 t1 t2 t3) i=kQ A i^(F.M-2)%F.M from fun i h1 h2=>by
       by_cases e:i=j
       ·subst e; exact⟨(nO O i t0 t1 t2 t3).2 ht,by rw[(nO O i t0 t1 t2 t3).1,HT.out]⟩
       ·have q:=HD.out i (by omega) h2;exact⟨(gS O j t0 t1 t2 t3 i e).2 q.1,by rw[(gS O j t0 t1 t2 t3 i e).1,q.2]⟩)
      have HZn:=Lib.hid (show ∀i,i<j→EK (putP O j t0 t1 t2 t3) i∧FT (putP O j t0 t1 t2 t3) i=0 from fun i h1=>by
       have q:=HZ.out i (by omega);exact⟨(gS O j t0 t1 t2 t3 i (by omega)).2 q.1,by rw[(gS O j t0 t1 t2 t3 i (by omega)).1,q.2]⟩)
      have ne5:wo.heap.size≠w.heap.size:=by omega
      have ne6:∀r,r∈[(w2.heap.size,r0,r1,r2,r3)]→r.1≠wo.heap.size:=by intro r hr; simp at hr; subst hr; show w2.heap.size≠_; omega
      have RO5:=Lib.hid (RO4.out.putP hjl t0 t1 t2 t3);have RP5:=Lib.hid ((((RP4.out.other (i:=j*4) ne5 (.int .u64 (t0:Nat))).other (i:=j*4+1) ne5 (.int .u64 (t1:Nat))).other (i:=j*4+2) ne5 (.int .u64 (t2:Nat))).other (i:=j*4+3) ne5 (.int .u64 (t3:Nat)));have HM5:=Lib.hid ((((HM4.out.poke (i:=j*4) (by omega) ne6 (.int .u64 (t0:Nat))).poke (i:=j*4+1) (by omega) ne6 (.int .u64 (t1:Nat))).poke (i:=j*4+2) (by omega) ne6 (.int .u64 (t2:Nat))).poke (i:=j*4+3) (by omega) ne6 (.int .u64 (t3:Nat)));obtain⟨W5,hW5⟩:∃W5,W5=((((w4.setCell ⟨wo.heap.size,j*4,none⟩ (.int .u64 (t0:Nat))).setCell ⟨wo.heap.size,j*4+1,none⟩ (.int .u64 (t1:Nat))).setCell ⟨wo.heap.size,j*4+2,none⟩ (.int .u64 (t2:Nat))).setCell ⟨wo.heap.size,j*4+3,none⟩ (.int .u64 (t3:Nat))):=⟨_,rfl⟩
      rw[←hW5]at RO5 RP5 HM5 ⊢;have lt5:w2.heap.size<W5.heap.size:=HM5.out.lt (b:=w2.heap.size) (c0:=r0) (c1:=r1) (c2:=r2) (c3:=r3) (by simp);have lo5:wo.heap.size<W5.heap.size:=by omega
      have la5:w.heap.size<W5.heap.size:=by omega
      clear hW5 RO4 RP4 HM4 ne6 HT HZ HD HP lh EH;have HC:=Lib.hid (show ∀wx,Below W5.heap.size W5 wx→wx.cell? ⟨g,off+j*4,none⟩=some (.int .u64 (a0:Nat))∧wx.cell? ⟨g,off+j*4+1,none⟩=some (.int .u64 (a1:Nat))∧wx.cell? ⟨g,off+j*4+2,none⟩=some (.int .u64 (a2:Nat))∧wx.cell? ⟨g,off+j*4+3,none⟩=some (.int .u64 (a3:Nat))from fun wx hx=>by
       have q:=(HL.out.same HG.out (HM5.out.on hx).1) j hjl;rw[←HA4.out.1,←HA4.out.2.1,←HA4.out.2.2.1,←HA4.out.2.2.2]at q;exact q)
      refine cM (fun wx=>Below W5.heap.size W5 wx) 9 (by kernel_rfl) ?_;have HS:=bK W5.heap.size W5 1;have HB:=Lib.hid HS;refine aE (i:=0) (v:=.pointer (some ⟨b,0,none⟩)) rfl (by kernel_rfl) (by kernel_rfl) (by kernel_rfl) (by kernel_rfl) (fun _ _ _ h=>h) HS (Or.inl ⟨by kernel_rfl,fun wx hx => ?_⟩) ?_
      ·clear HS hx;go_simp
      simp only[Act.put,List.setIfInBounds_toArray,List.set_cons_zero,List.set_cons_succ];refine aE (i:=1) (v:=.agg #[.int .u64 r0,.int .u64 r1,.int .u64 r2,.int .u64 r3]) rfl (by kernel_rfl) (by kernel_rfl) (by kernel_rfl) (by kernel_rfl) (fun _ _ _ h=>h) HS (Or.inl ⟨by kernel_rfl,fun wx hx => ?_⟩) ?_
      ·have hm:=HM5.out.on hx;have kr:=hm.row (b:=w2.heap.size) (c0:=r0) (c1:=r1) (c2:=r2) (c3:=r3) (by simp);have y0:=kr.c0; have y1:=kr.c1; have y2:=kr.c2; have y3:=kr.c3;clear kr;clear hm;clear HS hx;go_simp
      simp only[Act.put,List.setIfInBounds_toArray,List.set_cons_zero,List.set_cons_succ];refine aE (i:=2) (v:=.pointer (some ⟨b,0,none⟩)) rfl (by kernel_rfl) (by kernel_rfl) (by kernel_rfl) (by kernel_rfl) (fun _ _ _ h=>h) HS (Or.inl ⟨by kernel_rfl,fun wx hx => ?_⟩) ?_
      ·clear HS hx;go_simp
      simp only[Act.put,List.setIfInBounds_toArray,List.set_cons_zero,List.set_cons_succ];refine aE (i:=3) (v:=.slice (some ⟨g,off,none⟩) len cap) rfl (by kernel_rfl) (by kernel_rfl) (by kernel_rfl) (by kernel_rfl) (fun _ _ _ h=>h) HS (Or.inl ⟨by kernel_rfl,fun wx hx => ?_⟩) ?_
      ·clear HS hx;go_simp
      simp only[Act.put,List.setIfInBounds_toArray,List.set_cons_zero,List.set_cons_succ];refine aE (i:=4) (v:=.int .i64 (j:Nat)) rfl (by kernel_rfl) (by kernel_rfl) (by kernel_rfl) (by kernel_rfl) (fun _ _ _ h=>h) HS (Or.inl ⟨by kernel_rfl,fun wx hx => ?_⟩) ?_
      ·clear HS hx;go_simp
      simp only[Act.put,List.setIfInBounds_toArray,List.set_cons_zero,List.set_cons_succ];refine aE (i:=5) (v:=.pointer (some ⟨g,off+j*4,none⟩)) rfl (by kernel_rfl) (by kernel_rfl) (by kernel_rfl) (by kernel_rfl) (fun _ _ _ h=>h) HS (Or.inl ⟨by kernel_rfl,fun wx hx => ?_⟩) ?_
      ·clear HS hx;go_simp
      simp only[Act.put,List.setIfInBounds_toArray,List.set_cons_zero,List.set_cons_succ];refine aE (i:=6) (v:=.agg #[.int .u64 a0,.int .u64 a1,.int .u64 a2,.int .u64 a3]) rfl (by kernel_rfl) (by kernel_rfl) (by kernel_rfl) (by kernel_rfl) (fun _ _ _ h=>h) HS (Or.inl ⟨by kernel_rfl,fun wx hx => ?_⟩) ?_
      ·have hc:=HC.out wx hx;have y0:=hc.1; have y1:=hc.2.1; have y2:=hc.2.2.1; have y3:=hc.2.2.2;clear hc;clear HS hx;go_simp
      simp only[Act.put,List.setIfInBounds_toArray,List.set_cons_zero,List.set_cons_succ];clear HS;refine aQ (i:=7) (by kernel_rfl) rfl (fun K hK => ?_);go_simp;refine (gT F HF.out b a0 a1 a2 a3 HO.out _ (KW.out.same (HM5.out.on HB.out).1)).mono ?_
      rintro e w6 ⟨s0,s1,s2,s3,rfl,hs,hv,hbl⟩
      have HS:=HB.out.trans (hbl.mono HB.out.size);clear HB;have HB:=Lib.hid HS;have HV:=Lib.hid hv;clear hv hbl;refine hK.out _ _ (Or.inr HS) (fun _ => ?_);clear hK K;clear HS;refine aQ (i:=8) (by kernel_rfl) rfl (fun K hK => ?_);go_simp;refine (dP F HF.out b r0 r1 r2 r3 s0 s1 s2 s3 hr hs (by rw[HV.out]; exact EV HF.out _) _ (KW.out.same (HM5.out.on HB.out).1)).mono ?_
      rintro e w7 ⟨v0,v1,v2,v3,rfl,hvv,hv,hbl⟩
      have HS:=HB.out.trans (hbl.mono HB.out.size);clear HB;have HB:=Lib.hid HS;have HT:=Lib.hid (show aC v0 v1 v2 v3=kp F (pI F.M (kQ A) j^(F.M-2)) by
       rw[hv,HV.out,HR.out,mN HF.out,←HE.out];exact ZK HF.out HRt.out (fun i h=>HLA.out i (by omega)) (fun h=>HZ'.out (HE.out.symm.trans h)))
      clear hv hbl HV;refine hK.out _ _ (Or.inr HS) (fun _ => ?_);clear hK K;clear HS;have M9:=Lib.hid (HM5.out.on HB.out);have R9:=Lib.hid (RP5.out.below HB.out la5);have O9:=Lib.hid (RO5.out.below HB.out lo5);have kr:=M9.out.row (b:=w2.heap.size) (c0:=r0) (c1:=r1) (c2:=r2) (c3:=r3) (by simp);have y0:=kr.c0; have y1:=kr.c1; have y2:=kr.c2; have y3:=kr.c3; have yf:=kr.fr;clear kr;have lr:w2.heap.size<w7.heap.size:=M9.out.lt (b:=w2.heap.size) (c0:=r0) (c1:=r1) (c2:=r2) (c3:=r3) (by simp);have nea:w2.heap.size≠w.heap.size:=by omega
      have neo:w2.heap.size≠wo.heap.size:=by omega
      clear HM5 RP5 RO5 HB HC;refine aQ (i:=9) (by kernel_rfl) rfl (fun K hK => ?_);go_simp;refine hK.out _ _ (Or.inl rfl) (fun _ => ?_);clear hK K;refine cU (by kernel_rfl) ?_;go_wp2_with fail
      go_roundw
      case rel=>exact⟨j,v0,v1,v2,v3,_,_,by omega,rfl,Lib.hid (by omega),hvv,HT,Lib.hid ((((R9.out.other nea _).other nea _).other nea _).other nea _),Lib.hid ((((O9.out.other neo _).other neo _).other neo _).other neo _),HZn,HDn,Lib.hid (M9.out.put v0 v1 v2 v3 (by omega) (fun r hr=>by cases hr))⟩
      case measure=>simp[intOf]<;>omega
set_option maxRecDepth 20000 in
set_option maxHeartbeats 4000000 in
theorem Ab (f:Int) (F:FC) (hf:FieldIs f F) (g off len cap:Nat) (A:Nat→Nat→Nat) (hA:LOk len A) (hm:len≤9223372036854775807) (w:World) (hg:0<len→g<w.heap.size) (hl:LAt w g off len A) (h1:len≤65536) (h2:∀k,k<len→kQ A k<F.M) :
  Calls prog 197 #[.int .i64 f,.slice (some ⟨g,off,none⟩) len cap] w fun e w'=>∃(bo:Nat) (O:Nat→Nat),e=.returned (.tuple #[.slice (some ⟨bo,0,none⟩) len len,.int .i64 0])∧w.heap.size≤bo∧bo<w'.heap.size∧RowIs w' bo (len*4) O∧(∀j,j<len→EK O j∧FT O j=kQ A j^(F.M-2)%F.M)∧Below w.heap.size w w':=by
 obtain⟨gr,hroot⟩:=hf.root;have HRt:=Lib.hid hroot;have HL:=Lib.hid hl;have HG:=Lib.hid hg;clear hg;have HA:=Lib.hid hA;have HLA:=Lib.hid h2;clear hroot hl hA h2
 go_enter func197,ntmps197
 go_wp2_with fail;refine (fB f F hf _).mono ?_
 rintro e w1 ⟨rfl,hbl⟩
 have HB:=Lib.hid hbl;clear hbl;have KK:=Lib.hid (KIs.new w1 F 157);have B2:=Lib.hid (HB.out.alloc HB.out.size (.cells #[.int .u64 F.m0,.int .u64 F.m1,.int .u64 F.m2,.int .u64 F.m3,.int .u64 F.inv,.int .u64 F.s0,.int .u64 F.s1,.int .u64 F.s2,.int .u64 F.s3] 157));have sz1:=HB.out.size;have bc:¬(65536:Int)<(len:Int):=by omega
 go_wp2_with fail;refine (qR F hf.ok w1.heap.size g off len cap A HA.out hm _ KK.out (fun h=>by have:=HG.out h; simp; omega) (HL.out.same HG.out B2.out)).mono ?_
 rintro e w2 ⟨⟨t,rfl,ht⟩,hb2⟩
 obtain rfl:t=true:=ht.2 (fun k hk=>HLA.out k hk);have K2:=Lib.hid (KK.out.same hb2);have B3:=Lib.hid (B2.out.trans (hb2.mono B2.out.size));have sz2:=B3.out.size;clear ht hb2 KK B2;go_wp2_with fail;refine (vJ F hf.ok gr HRt.out w1.heap.size g off len cap A HA.out HLA.out h1 _ K2.out (fun h=>by have:=HG.out h; omega) (HL.out.same HG.out B3.out)).mono ?_
 rintro e w3 ⟨bo,O,rfl,h3,h4,h5,h6,h7⟩
 have H5:=Lib.hid h5;have H6:=Lib.hid h6;have H7:=Lib.hid h7;clear h5 h6 h7 K2;go_wp2_with fail
 go_ret2
 exact⟨bo,O,rfl,by omega,h4,H5.out,H6.out,B3.out.trans (H7.out.mono B3.out.size)⟩
set_option maxRecDepth 20000 in
set_option maxHeartbeats 4000000 in
theorem KG (p:Option Addr) (cap b:Nat) (w:World) :
  Calls prog 216 #[.pointer (some ⟨b,0,none⟩),.slice p 0 cap] w fun e w'=>e=.returned (.bool true)∧w'=w:=by
 go_enter func216,ntmps216
 go_wp2_with fail;refine wp_loop_rounds 2 ?_;rw[rounds_succ];go_wp2_with fail;go_ret;exact⟨rfl,rfl⟩
def FIs (W:World) (o:Option Addr) (len:Nat) (A:Nat→Nat→Nat):Prop:=len*32≤140737488351232∧LOk len A∧(0<len→∃g off,o=some ⟨g,off,none⟩∧g<W.heap.size∧LAt W g off len A)
theorem FIs.on {W w:World} {o:Option Addr} {len:Nat} {A:Nat→Nat→Nat} (h:FIs W o len A) (hb:Below W.heap.size W w):FIs w o len A:=by
 refine⟨h.1,h.2.1,fun hl => ?_⟩;obtain⟨g,off,e,hg,hc⟩:=h.2.2 hl;exact⟨g,off,e,Nat.lt_of_lt_of_le hg hb.size,hc.same (fun _=>hg) hb⟩
def Cr (M:Nat) (len:Nat) (A:Nat→Nat→Nat):Prop:=∀k,k<len→kQ A k<M
theorem vL (F:FC) (hF:F.Ok) (b:Nat) (o:Option Addr) (len cap:Nat) (A:Nat→Nat→Nat) (w:World) (hk:KIs w b F) (h:FIs w o len A) :
  Calls prog 216 #[.pointer (some ⟨b,0,none⟩),.slice o len cap] w fun e w'=>(∃t:Bool,e=.returned (.bool t)∧(t=true↔Cr F.M len A))∧Below w.heap.size w w':=by
 by_cases h0:0<len
 ·obtain⟨g,off,rfl,hg,hc⟩:=h.2.2 h0;exact qR F hF b g off len cap A h.2.1 (by have:=h.1; omega) w hk (fun _=>hg) hc
 ·obtain rfl:len=0:=by omega
  refine (KG o cap b w).mono ?_
  rintro e w' ⟨he,rfl⟩
  exact⟨⟨true,he,fun _ k hk=>absurd hk (by omega),fun _=>rfl⟩,Below.refl _ _⟩
def FX (M:Nat) (X Y:Nat→Nat):Nat→Nat
 | 0=>0
 | n+1=>(FX M X Y n+X n*Y n)%M
theorem Ay {F:FC} (hF:F.Ok) {s x y d:Nat} (h:s*F.R%F.M=d):(s+x*y*F.Ri%F.M)%F.M*F.R%F.M=(d+x*y)%F.M:=by
 have e1:(s+x*y*F.Ri%F.M)%F.M*F.R%F.M=(s*F.R+x*y*F.Ri*F.R)%F.M:=by
  rw[Nat.mod_mul_mod,Nat.add_mul,Nat.add_mod,Nat.mod_mul_mod,←Nat.add_mod]
 have e2:x*y*F.Ri*F.R%F.M=x*y%F.M:=by rw[Nat.mul_right_comm]; exact kG hF _
 rw[e1,Nat.add_mod,h,e2,Nat.add_mod_mod]
set_option maxHeartbeats 4000000 in
theorem Kb (f:Int) (F:FC) (hf:FieldIs f F) (p q:Option Addr) (la ca lb cb:Nat) (A B:Nat→Nat→Nat) (h1:la=lb) (h2:la≤65536) (ia:Cr F.M la A) (ib:Cr F.M lb B) (w:World) (hA:FIs w p la A) (hB:FIs w q lb B) :
  Calls prog 199 #[.int .i64 f,.slice p la ca,.slice q lb cb] w (Yg 0 (FX F.M (kQ A) (kQ B) la) w):=by
 subst h1;have hok:=hf.ok;have hpos:=hf.ok.pos;have IA:=Lib.hid ia;have IB:=Lib.hid ib;clear ia ib;have HA:=Lib.hid hA;have HB:=Lib.hid hB;clear hA hB
 go_enter func199,ntmps199
 go_wp2_with fail;have HM:=Lib.hid ((Mem.nil w).new (w.heap.size) 0 0 0 0 27 (by simp));refine (fB f F hf _).mono ?_
 rintro e w1 ⟨rfl,hbl⟩
 have KK:=Lib.hid (KIs.new w1 F 157);have B1:=Lib.hid (HM.out.on hbl);clear HM hbl;have HM:=Lib.hid (show Mem w (w1.alloc (.cells #[.int .u64 F.m0,.int .u64 F.m1,.int .u64 F.m2,.int .u64 F.m3,.int .u64 F.inv,.int .u64 F.s0,.int .u64 F.s1,.int .u64 F.s2,.int .u64 F.s3] 157)) [(w.heap.size,0,0,0,0)]from B1.out.on ((Below.refl _ _).alloc (Nat.le_refl _) _));clear B1;have t1:decide ((65536:Int)<(la:Int))=false:=decide_eq_false (by omega);go_wp2_with fail;refine (vL F hf.ok w1.heap.size p la ca A _ KK.out (HA.out.on HM.out.1)).mono ?_
 rintro e w2 ⟨⟨t,rfl,ht⟩,hbl⟩
 obtain rfl:t=true:=ht.2 IA.out;have KK':=Lib.hid (KK.out.same hbl);have HM':=Lib.hid (HM.out.on hbl);clear hbl KK ht;have KK:=KK';clear KK';clear HM;have HM:=HM';clear HM';go_wp2_with fail;refine (vL F hf.ok w1.heap.size q la cb B _ KK.out (HB.out.on HM.out.1)).mono ?_
 rintro e w3 ⟨⟨t,rfl,ht⟩,hbl⟩
 obtain rfl:t=true:=ht.2 IB.out;have KK':=Lib.hid (KK.out.same hbl);have HM':=Lib.hid (HM.out.on hbl);clear hbl KK ht;have KK:=KK';clear KK';clear HM;have HM:=HM';clear HM';go_wp2_with fail;have kl:w1.heap.size<w3.heap.size:=KK.out.lt;have ls:w.heap.size<w3.heap.size:=HM.out.lt (b:=w.heap.size) (c0:=0) (c1:=0) (c2:=0) (c3:=0) (by simp);have HM':=Lib.hid (HM.out.new w3.heap.size 0 0 0 0 27 rfl);have KK':=Lib.hid (KK.out.same ((Below.refl _ w3).alloc (Nat.le_refl _) (.cells #[.int .u64 (0:Nat),.int .u64 (0:Nat),.int .u64 (0:Nat),.int .u64 (0:Nat)] 27)));clear KK;have KK:=KK';clear KK';clear HM;have HM:=HM';clear HM';obtain⟨W5,hW5⟩:∃W5,W5=(w3.alloc (.cells #[.int .u64 (0:Nat),.int .u64 (0:Nat),.int .u64 (0:Nat),.int .u64 (0:Nat)] 27)):=⟨_,rfl⟩
 obtain⟨gs,hgs⟩:∃gs,gs=w3.heap.size:=⟨_,rfl⟩
 rw[←hgs]at HM kl ls ⊢;clear hgs hW5 W5
 go_loopw [43] (fun t wr=>∃(k s0 s1 s2 s3:Nat),k≤la∧t=.int .i64 k∧cC s0 s1 s2 s3∧Hid (aC s0 s1 s2 s3<F.M∧aC s0 s1 s2 s3*F.R%F.M=FX F.M (kQ A) (kQ B) k)∧Hid (Mem w wr [(gs,s0,s1,s2,s3),(w.heap.size,0,0,0,0)])∧Hid (KIs wr w1.heap.size F)) (fun t _=>la-(intOf t).toNat)
 case atStart=>exact⟨0,0,0,0,0,Nat.zero_le _,rfl,Yi,Lib.hid ⟨hpos,by rw[show aC 0 0 0 0=0 from rfl,Nat.zero_mul,Nat.zero_mod]; rfl⟩,HM,KK⟩
 case round =>
  clear HM KK;obtain⟨k,s0,s1,s2,s3,hk,rfl,hs,HV,HM,KK⟩:=hrel
  by_cases hlt:k<la
  ·obtain⟨g,off,rfl,hg,hla⟩:=HA.out.2.2 (by omega);obtain⟨g2,off2,rfl,hg2,hlb⟩:=HB.out.2.2 (by omega);obtain⟨a0,a1,a2,a3,e0,e1,e2,e3⟩:∃a0 a1 a2 a3:Nat,a0=A k 0∧a1=A k 1∧a2=A k 2∧a3=A k 3:=⟨_,_,_,_,rfl,rfl,rfl,rfl⟩
   obtain⟨b0,b1,b2,b3,d0,d1,d2,d3⟩:∃b0 b1 b2 b3:Nat,b0=B k 0∧b1=B k 1∧b2=B k 2∧b3=B k 3:=⟨_,_,_,_,rfl,rfl,rfl,rfl⟩
   have hoka:=HA.out.2.1 k hlt;have hokb:=HB.out.2.1 k hlt;have hva:kQ A k=aC a0 a1 a2 a3:=by unfold kQ; rw[←e0,←e1,←e2,←e3]
   have hvb:kQ B k=aC b0 b1 b2 b3:=by unfold kQ; rw[←d0,←d1,←d2,←d3]
   have hlb':aC b0 b1 b2 b3<F.M:=by rw[←hvb]; exact IB.out k hlt
   rw[←e0,←e1,←e2,←e3]at hoka;rw[←d0,←d1,←d2,←d3]at hokb;have HCA:=Lib.hid (show ∀wx,Below w.heap.size w wx→wx.cell? ⟨g,off+k*4,none⟩=some (.int .u64 (a0:Nat))∧wx.cell? ⟨g,off+k*4+1,none⟩=some (.int .u64 (a1:Nat))∧wx.cell? ⟨g,off+k*4+2,none⟩=some (.int .u64 (a2:Nat))∧wx.cell? ⟨g,off+k*4+3,none⟩=some (.int .u64 (a3:Nat))from fun wx hx=>by
    have q:=(hla.same (fun _=>hg) hx) k hlt;rw[←e0,←e1,←e2,←e3]at q;exact q)
   have HCB:=Lib.hid (show ∀wx,Below w.heap.size w wx→wx.cell? ⟨g2,off2+k*4,none⟩=some (.int .u64 (b0:Nat))∧wx.cell? ⟨g2,off2+k*4+1,none⟩=some (.int .u64 (b1:Nat))∧wx.cell? ⟨g2,off2+k*4+2,none⟩=some (.int .u64 (b2:Nat))∧wx.cell? ⟨g2,off2+k*4+3,none⟩=some (.int .u64 (b3:Nat))from fun wx hx=>by
    have q:=(hlb.same (fun _=>hg2) hx) k hlt;rw[←d0,←d1,←d2,←d3]at q;exact q)
   have HO:=Lib.hid (And.intro hoka hokb);have HE:=Lib.hid (And.intro hva (And.intro hvb hlb'));clear e0 e1 e2 e3 d0 d1 d2 d3 hla hlb hoka hokb hva hvb hlb';go_wp2_with fail;refine cM (fun wx=>Below wr.heap.size wr wx) 11 (by kernel_rfl) ?_;have HS:=bK wr.heap.size wr 1;have H8:=Lib.hid HS;refine aE (i:=0) (v:=.agg #[.int .u64 s0,.int .u64 s1,.int .u64 s2,.int .u64 s3]) rfl (by kernel_rfl) (by kernel_rfl) (by kernel_rfl) (by kernel_rfl) (fun _ _ _ h=>h) HS (Or.inl ⟨by kernel_rfl,fun wx hx => ?_⟩) ?_
   ·have kr:=(HM.out.on hx).row (b:=gs) (c0:=s0) (c1:=s1) (c2:=s2) (c3:=s3) (by simp);have x0:=kr.c0; have x1:=kr.c1; have x2:=kr.c2; have x3:=kr.c3;clear kr;clear HS hx;go_simp
   simp only[Act.put,List.setIfInBounds_toArray,List.set_cons_zero,List.set_cons_succ];refine aE (i:=1) (v:=.slice (some ⟨g,off,none⟩) la ca) rfl (by kernel_rfl) (by kernel_rfl) (by kernel_rfl) (by kernel_rfl) (fun _ _ _ h=>h) HS (Or.inl ⟨by kernel_rfl,fun wx hx => ?_⟩) ?_
   ·clear HS hx;go_simp
   simp only[Act.put,List.setIfInBounds_toArray,List.set_cons_zero,List.set_cons_succ];refine aE (i:=2) (v:=.int .i64 k) rfl (by kernel_rfl) (by kernel_rfl) (by kernel_rfl) (by kernel_rfl) (fun _ _ _ h=>h) HS (Or.inl ⟨by kernel_rfl,fun wx hx => ?_⟩) ?_
   ·clear HS hx;go_simp
   simp only[Act.put,List.setIfInBounds_toArray,List.set_cons_zero,List.set_cons_succ];refine aE (i:=3) (v:=.pointer (some ⟨g,off+k*4,none⟩)) rfl (by kernel_rfl) (by kernel_rfl) (by kernel_rfl) (by kernel_rfl) (fun _ _ _ h=>h) HS (Or.inl ⟨by kernel_rfl,fun wx hx => ?_⟩) ?_
   ·clear HS hx;go_simp
   simp only[Act.put,List.setIfInBounds_toArray,List.set_cons_zero,List.set_cons_succ];refine aE (i:=4) (v:=.agg #[.int .u64 a0,.int .u64 a1,.int .u64 a2,.int .u64 a3]) rfl (by kernel_rfl) (by kernel_rfl) (by kernel_rfl) (by kernel_rfl) (fun _ _ _ h=>h) HS (Or.inl ⟨by kernel_rfl,fun wx hx => ?_⟩) ?_
   ·have q:=HCA.out wx (HM.out.on hx).1;have x0:=q.1; have x1:=q.2.1; have x2:=q.2.2.1; have x3:=q.2.2.2;clear q;clear HS hx;go_simp
   simp only[Act.put,List.setIfInBounds_toArray,List.set_cons_zero,List.set_cons_succ];refine aE (i:=5) (v:=.slice (some ⟨g2,off2,none⟩) la cb) rfl (by kernel_rfl) (by kernel_rfl) (by kernel_rfl) (by kernel_rfl) (fun _ _ _ h=>h) HS (Or.inl ⟨by kernel_rfl,fun wx hx => ?_⟩) ?_
   ·clear HS hx;go_simp
   simp only[Act.put,List.setIfInBounds_toArray,List.set_cons_zero,List.set_cons_succ];refine aE (i:=6) (v:=.int .i64 k) rfl (by kernel_rfl) (by kernel_rfl) (by kernel_rfl) (by kernel_rfl) (fun _ _ _ h=>h) HS (Or.inl ⟨by kernel_rfl,fun wx hx => ?_⟩) ?_
   ·clear HS hx;go_simp
   simp only[Act.put,List.setIfInBounds_toArray,List.set_cons_zero,List.set_cons_succ];refine aE (i:=7) (v:=.pointer (some ⟨g2,off2+k*4,none⟩)) rfl (by kernel_rfl) (by kernel_rfl) (by kernel_rfl) (by kernel_rfl) (fun _ _ _ h=>h) HS (Or.inl ⟨by kernel_rfl,fun wx hx => ?_⟩) ?_
   ·clear HS hx;go_simp
   simp only[Act.put,List.setIfInBounds_toArray,List.set_cons_zero,List.set_cons_succ];refine aE (i:=8) (v:=.agg #[.int .u64 b0,.int .u64 b1,.int .u64 b2,.int .u64 b3]) rfl (by kernel_rfl) (by kernel_rfl) (by kernel_rfl) (by kernel_rfl) (fun _ _ _ h=>h) HS (Or.inl ⟨by kernel_rfl,fun wx hx => ?_⟩) ?_
   ·have q:=HCB.out wx (HM.out.on hx).1;have x0:=q.1; have x1:=q.2.1; have x2:=q.2.2.1; have x3:=q.2.2.2;clear q;clear HS hx;go_simp
   simp only[Act.put,List.setIfInBounds_toArray,List.set_cons_zero,List.set_cons_succ];clear HS;refine aQ (i:=9) (by kernel_rfl) rfl (fun K hK => ?_);go_simp;refine (dP F hok w1.heap.size a0 a1 a2 a3 b0 b1 b2 b3 HO.out.1 HO.out.2 HE.out.2.2 _ (KK.out.same H8.out)).mono ?_
   rintro e v1 ⟨p0,p1,p2,p3,rfl,hp,hv,hbl⟩
   have HVp:=Lib.hid hv;clear hv;have HS:=H8.out.trans (hbl.mono H8.out.size);clear H8 hbl;have H8:=Lib.hid HS;refine hK.out _ _ (Or.inr HS) (fun _ => ?_);clear hK K;clear HS;refine aQ (i:=10) (by kernel_rfl) rfl (fun K hK => ?_);go_simp;refine (uS F hok w1.heap.size s0 s1 s2 s3 p0 p1 p2 p3 hs hp HV.out.1 (by rw[HVp.out]; exact Nat.mod_lt _ hpos) _ (KK.out.same H8.out)).mono ?_
   rintro e v2 ⟨u0,u1,u2,u3,rfl,hu,hv,hbl⟩
   have HVu:=Lib.hid (show aC u0 u1 u2 u3<F.M∧aC u0 u1 u2 u3*F.R%F.M=FX F.M (kQ A) (kQ B) (k+1) by
    rw[hv,HVp.out];refine⟨Nat.mod_lt _ hpos,?_⟩;rw[Ay hok HV.out.2,←HE.out.1,←HE.out.2.1];rfl)
   clear hv;have HS:=H8.out.trans (hbl.mono H8.out.size);clear H8 hbl;have H8:=Lib.hid HS;refine hK.out _ _ (Or.inr HS) (fun _ => ?_);clear hK K;clear HS;have HM':=Lib.hid (HM.out.on H8.out);have KK':=Lib.hid (KK.out.same H8.out);clear HM KK H8;have HM:=HM';have KK:=KK';clear HM' KK';have kr:=HM.out.row (b:=gs) (c0:=s0) (c1:=s1) (c2:=s2) (c3:=s3) (by simp);have y0:=kr.c0; have y1:=kr.c1; have y2:=kr.c2; have y3:=kr.c3; have yf:=kr.fr;clear kr;have yl:=HM.out.lt (b:=gs) (c0:=s0) (c1:=s1) (c2:=s2) (c3:=s3) (by simp);refine aQ (i:=11) (by kernel_rfl) rfl (fun K hK => ?_);go_simp;have HM':=Lib.hid (HM.out.put u0 u1 u2 u3 (by omega) (by intro r hr; simp at hr; subst hr; show w.heap.size≠gs; omega));have KK':=Lib.hid (KK.out.set4 (d:=gs) (by omega) u0 u1 u2 u3);clear HM KK;have HM:=HM';have KK:=KK';clear HM' KK';refine hK.out _ _ (Or.inl rfl) (fun _ => ?_);clear hK K;refine cU (by kernel_rfl) ?_;go_wp2_with fail
   go_roundw
   case rel=>exact⟨k+1,u0,u1,u2,u3,by omega,by go_num,hu,HVu,HM,KK⟩
   case measure=>simp[intOf]; omega
  ·obtain rfl:la=k:=by omega
   obtain⟨wo,rfl⟩:∃wo,wo=wr:=⟨_,rfl⟩
   have kr:=HM.out.row (b:=gs) (c0:=s0) (c1:=s1) (c2:=s2) (c3:=s3) (by simp);have x0:=kr.c0; have x1:=kr.c1; have x2:=kr.c2; have x3:=kr.c3;clear kr;have xl:=HM.out.lt (b:=gs) (c0:=s0) (c1:=s1) (c2:=s2) (c3:=s3) (by simp);clear hk hlt;go_wp2_with fail;refine (gT F hok w1.heap.size s0 s1 s2 s3 hs _ KK.out).mono ?_
   rintro e w4 ⟨u0,u1,u2,u3,rfl,hu,hv,hbl⟩
   have HVu:=Lib.hid (show aC u0 u1 u2 u3=FX F.M (kQ A) (kQ B) la by rw[hv]; exact HV.out.2);have HM':=Lib.hid (HM.out.on hbl);clear hv hbl x0 x1 x2 x3 xl;clear HM;have HM:=HM';clear HM';have kr:=HM.out.row (b:=w.heap.size) (c0:=0) (c1:=0) (c2:=0) (c3:=0) (by simp);have y0:=kr.c0; have y1:=kr.c1; have y2:=kr.c2; have y3:=kr.c3; have yf:=kr.fr;clear kr;have yl:=HM.out.lt (b:=w.heap.size) (c0:=0) (c1:=0) (c2:=0) (c3:=0) (by simp);go_wp2_with fail;refine bodyPost_ret (v:=.tuple #[.agg #[.int .u64 u0,.int .u64 u1,.int .u64 u2,.int .u64 u3],.int .i64 0]) (by simp[results,results199,go_sem, *]) rfl ?_;refine⟨_,_,_,_,rfl,hu,HVu.out,?_⟩;exact bF HM.out.1 (Nat.le_refl _) _ _ _ _
end Go.Proofs.YtpjlhhpjpnacmaaGreatDoor
namespace Go.Proofs.YtpjlhhpjpnacmaaGreatDoor.Ex
open Go.Proofs.Tryz
open Go.RowKit
theorem zN {nt:Nat} {w:World} {a:Act} {ts:List (Nat×AV)} (hd:a.defers=[]) (hs:a.tmps.size=nt) (ht:∀x∈ts,a.tmps[x.1]?=some (x.2.den fun _=>(w.heap.size,0,0))):Holds nt w.heap.size w (ts.map fun x=>.slot x.1 x.2) a w:=by
 refine⟨hd,hs,Below.refl _ _,Nat.le_refl _,fun _=>(w.heap.size,0,0),fun φ hφ => ?_,fun k k' o' l l' h1 => ?_,fun k l h1 => ?_,Nat.le_refl _,fun p h1 h2=>⟨rfl,rfl⟩,Shape.refl _⟩
 ·obtain⟨x,hx,rfl⟩:=List.mem_map.1 hφ;exact ht x hx
 ·obtain⟨x,_,e⟩:=List.mem_map.1 h1; cases e
 ·obtain⟨x,_,e⟩:=List.mem_map.1 h1; cases e
def LM (w:World) (b N:Nat) (f:Nat→Nat):Prop:=b<w.heap.size∧w.rangeAt b 0 (aA (bV (el f) 0 N))
theorem LM.on {w w':World} {b N:Nat} {f:Nat→Nat} (h:LM w b N f) (hb:Below w.heap.size w w'):LM w' b N f:=⟨Nat.lt_of_lt_of_le h.1 hb.size,bG hb h.1 h.2⟩
theorem LM.lv {w:World} {b N:Nat} {f:Nat→Nat} (h:LM w b N f) (hf:∀j,j<N→f j<aH):LV w (aK b 0 N N) N f:=⟨_,N,rfl,Nat.le_refl _,hf,fun _=>⟨b,0,rfl,h.1,h.2⟩⟩
theorem Pq {w:World} {bo j:Nat} {O:Nat→Nat} {n x:Nat} (h:Go.Proofs.YtpjlhhpjpnacmaaGreatDoor.RowIs w bo (n*4) O) (hj:j<n) (ho:EK O j) (hx:FT O j=x) (hlt:x<aH):w.rangeAt bo (j*4) (aA [At.q x]):=by
 obtain⟨e0,e1,e2,e3⟩:=jF ho hlt hx;have hf:aA [At.q x]=[.int .u64 (O (j*4):Nat),.int .u64 (O (j*4+1):Nat),.int .u64 (O (j*4+2):Nat),.int .u64 (O (j*4+3):Nat)]:=by
  show w4 x++[]=_;rw[List.append_nil];unfold w4;rw[←e0,←e1,←e2,←e3]
 rw[hf];intro q v hq;have h0:=(h (j*4) (by omega)).1;have h1:=(h (j*4+1) (by omega)).1;have h2:=(h (j*4+2) (by omega)).1;have h3:=(h (j*4+3) (by omega)).1
 match q with
 | 0=>cases hq; exact h0
 | 1=>cases hq; exact h1
 | 2=>cases hq; exact h2
 | 3=>cases hq; exact h3
 | q+4=>simp at hq
theorem pZ {w:World} {b:Nat} {f:Nat→Nat}:∀(n s o:Nat),(∀j,j<n→w.rangeAt b (o+j*4) (aA [At.q (f (s+j))]))→w.rangeAt b o (aA (bV (el f) s n))
 | 0,s,o,h=>fun j v hj=>by simp[bV,aA]at hj
 | n+1,s,o,h=>by
  have h0:=h 0 (by omega);have ih:=pZ (b:=b) (f:=f) n (s+1) (o+4) fun j hj=>by
   have:=h (j+1) (by omega);rw[show o+(j+1)*4=o+4+j*4 by omega,show s+(j+1)=s+1+j by omega]at this;exact this
  intro j v hj;have e:aA (bV (el f) s (n+1))=aA [At.q (f s)]++aA (bV (el f) (s+1) n):=aM [At.q (f s)] _;rw[e]at hj
  by_cases hlt:j<4
  ·rw[List.getElem?_append_left (by rw[aN]; exact hlt)]at hj;have:=h0 j v hj
   rwa [Nat.zero_mul,Nat.add_zero]at this
  ·rw[List.getElem?_append_right (by rw[aN]; show 4≤j; omega),aN]at hj;have:=ih (j-4) v hj
   rwa [show o+4+(j-4)=o+j by omega]at this
theorem KB {w:World} {b N:Nat} {f:Nat→Nat} (h:LM w b N f) (hN:N≤65536) (hf:∀j,j<N→f j<RM) :
  Calls prog 197 [.int .i64 2,aK b 0 N N].toArray w fun e w'=>∃bo,e=.returned (.tuple #[aK bo 0 N N,.int .i64 0])∧Below w.heap.size w w'∧w.heap.size≤bo∧LM w' bo N (fun j=>inv (f j)):=by
 have hl:LAt w b 0 N (fun j c=>fw (f j) c):=fun k hk=>by
  have hc:w.rangeAt b (0+k*4) (aA [At.q (f k)]):=(mK h.1 h.2 hk).2;have hc:w.rangeAt b (0+k*4) [.int .u64 (fw (f k) 0:Nat),.int .u64 (fw (f k) 1:Nat),.int .u64 (fw (f k) 2:Nat),.int .u64 (fw (f k) 3:Nat)]:=hc;exact⟨hc 0 _ rfl,hc 1 _ rfl,hc 2 _ rfl,hc 3 _ rfl⟩
 have he:∀j,j<N→kQ (fun j c=>fw (f j) c) j=f j:=fun j hj=>fC (kF (hf j hj))
 refine (Ab 2 Go.Proofs.YtpjlhhpjpnacmaaGreatDoor.FR xE b 0 N N (fun j c=>fw (f j) c) (fun k hk=>eR _) (by omega) w (fun _=>h.1) hl hN (fun k hk=>by rw[he k hk]; exact hf k hk)).mono ?_
 rintro e w' ⟨bo,O,rfl,h1,h2,h3,h4,hb⟩
 refine⟨bo,rfl,hb,h1,h2,pZ N 0 0 fun j hj => ?_⟩;obtain⟨k1,k2⟩:=h4 j hj;rw[he j hj]at k2;rw[Nat.zero_add,Nat.zero_add];exact Pq h3 hj k1 k2 (kF (KC _))
noncomputable abbrev ivF:Func:=f162
def jW:Code:=(f162.body).getD .skip
def JZ:Code:=iR (iR (cB (cA (cB (cB jW)))))
def Ij:Code:=cB (cB (cB jW))
theorem Ii:jW=.seq (cA jW) (.seq (cA (cB jW)) (.seq (.seq (cA (cA (cB (cB jW)))) (.block 0 (.loop JZ))) (.seq (.region 7 (aD (cA Ij)) false) (cB Ij)))):=by kernel_rfl
theorem aBm:ivF.ntmps=29:=by kernel_rfl
def xM8 (N:Nat):Ext:={ Ext.none with mks:=assoc [(8,(N,rN N))],T2:=UA,T3:=TM,T4:=Cw,T5:=jY,T6:=Dd }
theorem Pl (N:Nat) (base:Nat) (w:World):bO prog { qG prog with x:=xM8 N } base w :=
 ⟨(aW _).1,iP (fun b o l h=>h.elim) (fun w' _=>FrAt.none _ _) (fun w' _=>FsAt.none _ _)⟩
def Tg (wd N:Nat) (Z:List At):List Fact:=[.slot 0 (.im (iI wd)),.slot 3 (.sl 8 0 N N),.row 8 true Z]
def QZ (wd N i:Nat) (Z:List At):List Fact:=.slot 10 (.im (iI N)) :: .slot 11 (.im (iI i))::Tg wd N Z
theorem aBk (wd:Nat):aX prog (qG prog) 29 (fun _=>tC T0 fun _=>none) 60 (cA jW) (fD 0 [.v (.im (iI wd))]) [.slot 0 (.im (iI wd))]=some ([],.nrm,[.slot 0 (.im (iI wd))]):=by kernel_rfl
theorem aBj (wd N:Nat):aX prog { qG prog with x:=xM8 N } 29 (fun _=>tC T0 (assoc [(6,iI (2*wd)),(7,iI N)])) 60 (cA (cB jW)) [.slot 0 (.im (iI wd))] (Tg wd N (rN N))=some ([aJ .mul .i64 2 (Int.ofNat wd)=some (iI (2*wd)),aJ .sub .i64 (Int.ofNat (2*wd)) 1=some (iI N),∃e,∀w:World,(Instr.makeSlice 56 (iI N) (iI N)).run prog w=.ok (.slice (some ⟨w.heap.size,0,none⟩) N N) (w.alloc (.cells (aA (rN N)).toArray e))],.nrm,Tg wd N (rN N)):=by kernel_rfl
theorem aBi (wd N:Nat) (Z:List At):aX prog (qG prog) 29 (fun _=>tC T0 fun _=>none) 60 (cA (cA (cB (cB jW)))) (Tg wd N Z) (QZ wd N 0 Z)=some ([],.nrm,QZ wd N 0 Z):=by kernel_rfl
def xI (i:Nat) (Z:List At) (gen:Nat→Option Value):Ext:={ Ext.none with idx:=assoc [(21,i)],st:=assoc [(21,Z)],gen:=gen,T2:=UA,T3:=TM,T4:=Cw,T5:=jY,T6:=Dd }
theorem Yl (i:Nat) (Z:List At) (gen:Nat→Option Value) (base:Nat) (w:World):bO prog { qG prog with x:=xI i Z gen } base w :=
 ⟨(aW _).1,iP (fun b o l h=>h.elim) (fun w' _=>FrAt.none _ _) (fun w' _=>FsAt.none _ _)⟩
theorem aBl (wd N i:Nat) (Z Z':List At):aX prog { qG prog with x:=xI i Z' (assoc [(19,u6 (wd+i))]) } 29 (fun _=>tC TK (assoc [(12,.bool true),(18,iI (wd+i)),(22,iI (i+1))])) 60 JZ (QZ wd N i Z) (QZ wd N (i+1) Z')=some ([aJ .lss .i64 (Int.ofNat i) (Int.ofNat N)=some (.bool true),aJ .add .i64 (Int.ofNat wd) (Int.ofNat i)=some (iI (wd+i)),∀w:World,(convert 3 22 (iI (wd+i))).run prog w=.ok (u6 (wd+i)) w,wd+i<18446744073709551616,Int.ofNat i=Int.ofNat i,i<N,put Z (0+i*4) [.q (wd+i)]=some Z',aJ .add .i64 (Int.ofNat i) 1=some (iI (i+1))],.nrm,QZ wd N (i+1) Z'):=by kernel_rfl
theorem aGa (wd N i:Nat) (Z:List At):aX prog (qG prog) 29 (fun _=>tC T0 (assoc [(12,.bool false)])) 60 JZ (QZ wd N i Z) (QZ wd N i Z)=some ([aJ .lss .i64 (Int.ofNat i) (Int.ofNat N)=some (.bool false)],.ex 0,QZ wd N i Z):=by kernel_rfl
theorem aBo (v:Value):cO prog (qG prog) 29 (tC T0 fun _=>none) ((aD (cA Ij)).extract 0 1) [.slot 3 (.im v)] [.slot 24 (.im v)]=some ([],[.slot 24 (.im v)]):=by kernel_rfl
theorem aBn (v:Value):cO prog (qG prog) 29 (tC T0 fun _=>none) ((aD (cA Ij)).extract 2 6) [.slot 25 (.tu [.im v,.im (.int .i64 0)])] [.slot 3 (.im v)]=some ([],[.slot 3 (.im v)]):=by kernel_rfl
theorem aGb (v:Value):aX prog (qG prog) 29 (fun _=>tC T0 fun _=>none) 60 (cB Ij) [.slot 3 (.im v)] [.slot 2 (.im v)]=some ([],.rt,[.slot 2 (.im v)]):=by kernel_rfl
theorem ZG {w0:World} {wd N:Nat} (h:2*wd=N+1) (hN:N≤64):Calls prog 162 [iI wd].toArray w0 fun e w'=>∃bo,e=.returned (aK bo 0 N N)∧Below w0.heap.size w0 w'∧w0.heap.size≤bo∧LM w' bo N (fun j=>inv (wd+j)):=by
 have hG:∀base w,bO prog (qG prog) base w:=fun _ _=>(aW _).w _ _
 have hT:∀base w,∀n d:Nat,TabOkW prog T0 base w:=fun _ _ _ _=>(bU _).w _ _
 refine cH func162 (cs:=[.v (.im (iI wd))]) (args:=[iI wd]) (c:=jW) rfl ⟨rfl,trivial⟩ (Nat.le_of_ble_eq_true (by kernel_rfl)) fun a w hA => ?_
 have hnt:f162.ntmps=29:=aBm;rw[hnt]at hA;rw[Ii];refine wp_seq (aB aI (hT _ _) (hG _ _) (aBk wd) trivial hA fun a w hA => ?_);refine wp_seq (aB aI (hT _ _) (Pl N _ _) (aBj wd N) ⟨Nn (i:=2) (by omega),by rw[show N=2*wd-1 by omega]; exact mL (i:=2*wd) (k:=1) (by omega) (by omega),OA (t:=56) (e:=27) (z:=[.q 0]) (v:=.int .u64 0) (n:=4) (by8:=32) (by kernel_rfl) (by kernel_rfl) rfl tU (by omega) (by omega) (by omega),trivial⟩ hA fun a w hA => ?_);refine wp_seq (wp_seq (aB aI (hT _ _) (hG _ _) (aBi wd N _) trivial hA fun a w hA => ?_));refine wp_block ?_;have hz:rN N=lZ (el fun j=>wd+j) [.q 0] N 0:=(YT _ _ _).symm;rw[hz]at hA;refine jD aI (fun i=>QZ wd N i (lZ (el fun j=>wd+j) [.q 0] N i)) N (fun i hi => ?_) (.ex 0) (by simp) (QZ wd N N (lZ (el fun j=>wd+j) [.q 0] N N)) ⟨_,_,_,_,hG _ _,hT _ _,aGa wd N N _,dD (Nat.le_refl _),trivial⟩ hA fun a w hA => ?_
 ·exact⟨_,_,_,_,Yl i _ _ _ _,fun _ _=>EI.w _ _,aBl wd N i _ (lZ (el fun j=>wd+j) [.q 0] N (i+1)),eO hi,oX (by omega),BE (by omega),by omega,rfl,hi,DG (f:=el fun j=>wd+j) (c:=4) (fun _=>rfl) rfl hi (Nat.zero_add _),fU (k:=1) (by omega),trivial⟩
 simp only[EA.out,Exit.then,Exit.inBlock,if_true];rw[YS]at hA;obtain⟨b,hA⟩:=hA.at (k:=8) (l:=bV (el fun j=>wd+j) 0 N) (by simp[QZ,Tg]);have hL:LM w b N (fun j=>wd+j):=hA.old (k:=8) (by simp[QZ,Tg]) (by simp);have hbl:=hA.below;have hS:=aP (nt:=29) (w:=w) (a:=a) (ts:=[(3,aK b 0 N N)]) hA.defers hA.size (fun x hx=>by
  cases List.mem_singleton.1 hx;exact (hA.im (s:=3) (k:=8) (o:=0) (n:=N) (m:=N) (b:=b) (by simp[QZ,Tg]) (by simp)).slot (by simp))
 clear hA;refine wp_seq (bI (l:=List.range' 0 ((aD (cA Ij)).extract 0 1).size++(1::(List.range' 2 ((aD (cA Ij)).extract 2 6).size++[]))) (by kernel_rfl) ?_);refine aG (c:=tC T0 _) (hT _ _ 0) (hG _ _) (aBo _) trivial (by kernel_rfl) hS fun a2 w2 hA => ?_
 obtain⟨o1,ho1,⟨ts1,hop1⟩,hd1,hg1⟩:∃x,(aD (cA Ij))[1]?=some x∧(∃ts,x.op=.call ⟨.value (.func 197),#[.const (.int .i64 2),.tmp 24],ts⟩)∧x.dst=some 25∧x.guard=none:=⟨_,rfl,⟨_,rfl⟩,rfl,rfl⟩
 have hr:∀j,j<N→wd+j<RM:=fun j hj=>Nat.lt_of_lt_of_le (show wd+j<200 by omega) (by decide)
 refine aZ ho1 hg1 (cF hop1 (vs:=[.int .i64 2,aK b 0 N N]) (List.cons_eq_cons.2 ⟨rfl,List.cons_eq_cons.2 ⟨cL (hA.slot (s:=24) (by simp)),rfl⟩⟩) (fun args=>bQ func197 (by kernel_rfl) (by kernel_rfl) args _) (KB (hL.on hA.below) (by omega) hr) fun e w3 hw => ?_);obtain⟨bo,rfl,hb3,hge,hM⟩:=hw;refine⟨_,rfl,?_⟩;rw[hd1];have hB3:=hbl.trans ((hA.below.mono hbl.size).trans (hb3.mono (Nat.le_trans hbl.size hA.below.size)));have hS:=zN (nt:=29) (w:=w3) (a:=a2.put (some 25) (.tuple #[aK bo 0 N N,.int .i64 0])) (ts:=[(25,.tu [.im (aK bo 0 N N),.im (.int .i64 0)])]) hA.defers (by rw[aF]; exact hA.size) (fun x hx=>by
  cases List.mem_singleton.1 hx;exact aT _ _ _ (by rw[hA.size]; decide))
 refine aG (c:=tC T0 _) (hT _ _ 0) (hG _ _) (aBn _) trivial (by kernel_rfl) hS fun a4 w4 hA4 => ?_
 clear hS;show (cB Ij).wp _ _ _ _;refine aB aI (hT _ _) (hG _ _) (aGb _) trivial hA4 fun a5 w5 hA5 => ?_
 exact cK (l:=[.im (aK bo 0 N N)]) (r:=.one (.im (aK bo 0 N N))) (by kernel_rfl) (by kernel_rfl) hA5 ⟨bo,rfl,hB3.trans (hA5.below.mono hB3.size),Nat.le_trans (Nat.le_trans hbl.size hA.below.size) hge,hM.on hA5.below⟩
theorem YM {w:World} {p:Option Addr} {N m:Nat} {f:Nat→Nat} (h:LV w (.slice p N m) N f) (hN:N≤65536):FIs w p N (fun j c=>fw (f j) c):=by
 obtain⟨p',m',e,h2,h3,h4⟩:=h;cases e;refine⟨by omega,fun k hk=>eR _,fun h0 => ?_⟩;obtain⟨b,o,rfl,hb,hr⟩:=h4 h0;refine⟨b,o,rfl,hb,fun k hk => ?_⟩;have hc:w.rangeAt b (o+k*4) (aA [At.q (f k)]):=(mK hb hr hk).2;have hc:w.rangeAt b (o+k*4) [.int .u64 (fw (f k) 0:Nat),.int .u64 (fw (f k) 1:Nat),.int .u64 (fw (f k) 2:Nat),.int .u64 (fw (f k) 3:Nat)]:=hc;exact⟨hc 0 _ rfl,hc 1 _ rfl,hc 2 _ rfl,hc 3 _ rfl⟩
theorem Al {f:Nat→Nat} {j:Nat} (h:f j<aH):kQ (fun j c=>fw (f j) c) j=f j:=fC h
theorem Aw {f g X Y:Nat→Nat}:∀n,(∀j,j<n→X j=f j)→(∀j,j<n→Y j=g j)→FX RM X Y n=Ax f g n
 | 0,_,_=>rfl
 | n+1,h1,h2=>by
  show (FX RM X Y n+X n*Y n)%RM=(Ax f g n+(f n*g n)%RM)%RM;rw[Aw n (fun j hj=>h1 j (by omega)) (fun j hj=>h2 j (by omega)),h1 n (by omega),h2 n (by omega),Nat.add_mod_mod]
theorem SC {w:World} {v v2:Value} {N:Nat} {f g:Nat→Nat} (hv:LV w v N f) (hv2:LV w v2 N g) (hN:N≤65536) (hf:oI N f) (hg:oI N g):bM prog 199 (.many [.fl [.q (Ax f g N)],.im (.int .i64 0)]) [.int .i64 2,v,v2] w:=by
 obtain⟨p,m,rfl,_⟩:=id hv;obtain⟨q,m2,rfl,_⟩:=id hv2;have e1:∀j,j<N→kQ (fun j c=>fw (f j) c) j=f j:=fun j hj=>Al (kF (hf j hj))
 have e2:∀j,j<N→kQ (fun j c=>fw (g j) c) j=g j:=fun j hj=>Al (kF (hg j hj))
 refine (Kb 2 Go.Proofs.YtpjlhhpjpnacmaaGreatDoor.FR xE p q N m N m2 _ _ rfl hN (fun k hk=>by rw[e1 k hk]; exact hf k hk) (fun k hk=>by rw[e2 k hk]; exact hg k hk) w (YM hv hN) (YM hv2 hN)).mono ?_
 rintro e w' ⟨s0,s1,s2,s3,rfl,hs,hw,hb⟩
 rw[show FX Go.Proofs.YtpjlhhpjpnacmaaGreatDoor.FR.M _ _ N=Ax f g N from Aw N e1 e2]at hw;obtain⟨rfl,rfl,rfl,rfl⟩:=jF hs (kF (Av f g N)) hw;exact⟨rfl,hb⟩
def Ud (v v2:Value) (N:Nat) (f g:Nat→Nat):gL
 | [.v (.im (.int .i64 2)),.v (.im u),.v (.im t)]=>some ([u=v,t=v2],.many [.fl [.q (Ax f g N)],.im (.int .i64 0)])
 | _=>none
theorem Js {w:World} {v v2:Value} {N:Nat} {f g:Nat→Nat} (hv:LV w v N f) (hv2:LV w v2 N g) (hN:N≤65536) (hf:oI N f) (hg:oI N g):∀cs pre r,Ud v v2 N f g cs=some (pre,r)→bC pre→∀(args:List Value),cT w cs args→bM prog 199 r args w:=by
 intro cs pre r hg' hp args ha;unfold Ud at hg';split at hg'
 ·cases hg'
  match args,ha with
  | [a1,a2,a3],ha =>
   have h1:a1=.int .i64 2:=ha.1;have h2:a2=_:=ha.2.1;have h3:a3=_:=ha.2.2.1;obtain⟨rfl,rfl,_⟩:=hp;subst h1; subst h2; subst h3;exact SC hv hv2 hN hf hg
  | [],ha=>exact ha.elim
  | [_],ha=>exact ha.2.elim
  | [_,_],ha=>exact ha.2.2.elim
  | _::_::_::_::_,ha=>exact ha.2.2.2.elim
 ·cases hg'
theorem LV.piece {w:World} {b o N m i k:Nat} {f:Nat→Nat} (h:LV w (aK b o N m) N f) (hi:i+k≤N):LV w (aK b (o+i*4) k (m-i)) k (fun j=>f (i+j)):=by
 obtain⟨p',m',e,h2,h3,h4⟩:=h;cases e;refine⟨_,_,rfl,by omega,fun j hj=>h3 _ (by omega),fun h0 => ?_⟩;obtain⟨b',o',e,hb,hr⟩:=h4 (by omega);cases e;refine⟨b,o+i*4,rfl,hb,?_⟩;have key:∀(n s:Nat),i+s+n≤N→w.rangeAt b (o+(i+s)*4) (aA (bV (el fun j=>f (i+j)) s n)):=fun n=>by
  induction n with
  | zero=>intro s _ j v hj; simp[bV,aA]at hj
  | succ n ih =>
   intro s hs j v hj;have hj:(aA (el (fun j=>f (i+j)) s++bV (el fun j=>f (i+j)) (s+1) n))[j]?=some v:=hj;rw[aM]at hj
   by_cases hj4:j<4
   ·rw[List.getElem?_append_left (by exact hj4)]at hj;exact (mK hb hr (show i+s<N by omega)).2 j v hj
   ·rw[List.getElem?_append_right (by show 4≤j; omega)]at hj;have:=ih (s+1) (by omega) (j-4) v hj
    rwa [show o+(i+(s+1))*4+(j-4)=o+(i+s)*4+j by omega]at this
 exact key k 0 (by omega)
theorem VO {b o N m i j:Nat} (h1:i≤j) (h2:j≤m) (h3:i<m) (w:World):(Instr.sliceAt 56 (aK b o N m) (some (iI i)) (some (iI j)) none).run prog w=.ok (aK b (o+i*4) (j-i) (m-i)) w:=by
 have hmi:¬m=i:=by omega
 have hu:prog.underlying 56=some (.slice 27):=underlying56;have hs:cV prog 27=some 4:=by kernel_rfl
 simp[Instr.sliceAt,Instr.slice,run_underlying hu,Instr.sliceBounds,Instr.sliceBound,asIntOf,bD hs,Addr.add_mid,Nat.add_assoc,h1,h2,hmi,aK,iI]
 try omega
end Go.Proofs.YtpjlhhpjpnacmaaGreatDoor.Ex
