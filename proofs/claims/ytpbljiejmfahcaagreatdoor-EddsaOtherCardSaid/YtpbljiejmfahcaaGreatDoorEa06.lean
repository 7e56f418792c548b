/- Ea06 -/
import Derived.Lib.TrailingZeros
import Derived.Laws.Bits64
import Derived.Laws.Bits64b
import Derived.Shelf.Spec.TrailingZeros
import Derived.Test.YtpbljiejmfahcaaGreatDoorEa05
import Derived.Test.YtpbljiejmfahcaaGreatDoorEa04
import Derived.Test.YtpbljiejmfahcaaGreatDoorProg
set_option maxRecDepth 100000
set_option linter.unusedVariables false
set_option linter.unusedSimpArgs false
set_option linter.unnecessarySimpa false
noncomputable section
namespace Go.Proofs.YtpbljiejmfahcaaGreatDoor.Ex
open Go.Proofs.Tryz
open Go.RowKit
theorem rO {a:Act} {s:Nat} {v:Value} (h:a.tmps[s]?=some v):a.eval (.tmp s)=v:=by simp[Act.eval,h]
section
variable {ops:Array Oper} {o:Oper} {a:Act} {v:Value} {s:Nat} {S:World→Prop}
theorem NQ (hop:o.op=.move (.tmp s)) (hg:o.guard=none) (h:a.tmps[s]?=some v):YieldsIf prog ops S o v a :=
 Or.inl ⟨by simp[Region.wanted,hg],fun wx _=>by simp only[execOp,hop,Sem.run_bind,Sem.run_pure,Result.andThen_ok,rO h]⟩
theorem zL {t b:Nat} (hop:o.op=.load t (.tmp s)) (hg:o.guard=none) (h:a.tmps[s]?=some (ptV b 0)) (ht:iQ prog t=true) (hS:∀wx,S wx→wx.cell? ⟨b,0,none⟩=some v):YieldsIf prog ops S o v a :=
 Or.inl ⟨by simp[Region.wanted,hg],fun wx hw=>by
  have:=jH (P:=prog) wx ⟨b,0,none⟩ ht (hS wx hw);simp[execOp,hop,rO h,ptV,Instr.loadAt,Instr.sureAddr,this]⟩
theorem Nn {t e:Nat} {p:Option Addr} {n m:Nat} (hop:o.op=.call ⟨.builtin .len,#[.tmp s],#[t]⟩) (hg:o.guard=none) (h:a.tmps[s]?=some (.slice p n m)) (hu:prog.underlying t=some (.slice e)):YieldsIf prog ops S o (iI n) a :=
 Or.inl ⟨by simp[Region.wanted,hg],fun wx hw=>by
  simp[execOp,hop,resolve,invoke,builtin,rO h,Builtin.len_,Builtin.lenOf,iI,goInt,run_underlying hu]⟩
theorem Dx {src dst:Nat} {u:Value} (hop:o.op=.convert src dst (.tmp s)) (hg:o.guard=none) (h:a.tmps[s]?=some v) (hc:∀w:World,(convert src dst v).run prog w=.ok u w):YieldsIf prog ops S o u a :=
 Or.inl ⟨by simp[Region.wanted,hg],fun wx hw=>by simp[execOp,hop,rO h,hc wx]⟩
end
theorem tS {w:World} {b:Nat} {t:Nat} {v:Value} (hc:(w.cell? ⟨b,0,none⟩).isSome=true) (hf:w.frozen? ⟨b,0,none⟩=false) (hi:(prog.info? t).map (·.size)=some 1) (hv:v.cells = #[v]) (h1:v.oneCell'=true):(storeVar t ⟨b,0,none⟩ v).run prog w=.ok () (w.setCells b 0 [v]):=by
 have hst:=run_storeVar_mid (P:=prog) w b 0 t #[v] (fun j hj=>by
  have:j=0:=by simp at hj; omega
  subst this;exact⟨hc,hf⟩) (by rw[hi]; rfl) (by simp[h1])
 unfold storeVar at hst ⊢;rw[hv];exact hst
def boxS (b3 bl n C:Nat) (wx:World):Prop:=wx.cell? ⟨b3,0,none⟩=some (aV bl 0 n C)
theorem ElM.boxS {w:World} {b3 bl n C:Nat} {g:Nat→Nat} (h:ElM w b3 bl n C g):boxS b3 bl n C w:=by
 have:=h.box.row 0 _ rfl
 rwa [Nat.zero_add]at this
theorem QB {ops:Array Oper} {i j k:Nat} {got:Array Bool} {a:Act} {w:World} {b3 bl n C x d1 d2 s sl t3:Nat} {g:Nat→Nat} {K:Act→World→Prop} {o1 o2 o3:Oper}
  (hr1:Region.ready .any ops got=[i]) (hr2:Region.ready .any ops (got.setIfInBounds i true)=[j]) (hr3:Region.ready .any ops ((got.setIfInBounds i true).setIfInBounds j true)=[k]) (hr4:Region.ready .any ops (((got.setIfInBounds i true).setIfInBounds j true).setIfInBounds k true)=[])
  (ho1:ops[i]?=some o1) (hop1:o1.op=.buildSlice 92 1 #[(0,.tmp s)]) (hd1:o1.dst=some d1) (hg1:o1.guard=none)
  (ho2:ops[j]?=some o2) (hop2:o2.op=.call ⟨.builtin .append,#[.tmp sl,.tmp d1],#[92,92]⟩) (hd2:o2.dst=some d2) (hg2:o2.guard=none)
  (ho3:ops[k]?=some o3) (hop3:o3.op=.store 92 (.tmp t3) (.tmp d2)) (hd3:o3.dst=none) (hg3:o3.guard=none)
  (hE:ElM w b3 bl n C g) (hC:n+1≤C) (hx:a.tmps[s]?=some (.agg (aA [At.q x]).toArray)) (hsl:a.tmps[sl]?=some (aV bl 0 n C)) (h3:a.tmps[t3]?=some (ptV b3 0))
  (hne1:d1≠sl) (hne2:d1≠t3) (hne3:d2≠t3) (hlt1:d1<a.tmps.size) (hlt2:d2<a.tmps.size)
  (hK:∀a' w',a'.defers=a.defers→a'.tmps.size=a.tmps.size→(∀q,d1≠q→d2≠q→a'.tmps[q]?=a.tmps[q]?)→Only2 b3 bl w w'→ElM w' b3 bl (n+1) C (fun q=>if q<n then g q else x)→K a' w') :
  dC prog .any ops (gL K) (Go.Proofs.YtpbljiejmfahcaaGreatDoor.Ex.boxS b3 bl n C) k 3 got a w:=by
 refine aM hr1 ho1 fun K1 hK1 => ?_
 rw[if_pos (by simp[Region.wanted,hg1])];obtain⟨e,hb⟩:=Uc w x;have hrun1:(execOp a.eval o1).run prog w=.ok (.value (aV w.heap.size 0 1 1)) (w.alloc (.cells (aA [At.q x]).toArray e)):=by
  simp[execOp,hop1,rO hx,hb]
 refine cO hrun1 ?_;rw[hd1];have hB1:Below w.heap.size w (w.alloc (.cells (aA [At.q x]).toArray e)):=(Below.refl _ w).alloc (Nat.le_refl _) _;have hE1:=hE.on hB1;have hO1:Only2 b3 bl w (w.alloc (.cells (aA [At.q x]).toArray e)):=Only2.of_below hB1 hE.box.lt hE.lt;have hnew:(w.alloc (.cells (aA [At.q x]).toArray e)).rangeAt w.heap.size 0 (aA [At.q x]):=fun q v hq=>by
  have h0:(w.alloc (.cells (aA [At.q x]).toArray e)).heap[w.heap.size]?=some (.cells (aA [At.q x]).toArray e):=World.alloc_heap_new _ _;rw[cell_of_row _ _ (0+q) _ e (0,0) h0,Nat.zero_add];simpa using hq
 generalize hw1:w.alloc (.cells (aA [At.q x]).toArray e)=w1 at *;refine hK1.out _ _ (Or.inr hE1.boxS) fun _ => ?_
 clear hK1 hrun1;have hsl1:=aS (d:=d1) (u:=aV w.heap.size 0 1 1) hsl hne1;have hd1':=aY a d1 (aV w.heap.size 0 1 1) hlt1;have h31:=aS (d:=d1) (u:=aV w.heap.size 0 1 1) h3 hne2;refine aM hr2 ho2 fun K2 hK2 => ?_
 rw[if_pos (by simp[Region.wanted,hg2])];obtain⟨w2,hr,ha2,hrow2,hgr,CN⟩:=Cp hE1.app hE1.row hnew hC (m:=1) o2.type;have hrun2:(execOp (a.put (some d1) (aV w.heap.size 0 1 1)).eval o2).run prog w1=.ok (.value (aV bl 0 (n+1) C)) w2:=by
  unfold execOp;simp only[hop2,resolve,invoke,builtin,Sem.run_bind,Sem.run_pure,Result.andThen_ok,List.map_toArray,List.map_cons,List.map_nil,rO hsl1,rO hd1',hr]
 refine cO hrun2 ?_;rw[hd2];have hO2:Only2 b3 bl w1 w2:=Only2.of_grown hgr CN hE1.lt hE1.box.lt;have hbox2:Own w2 b3 [.c (aV bl 0 n C)]:=by
  have hb3:=hgr.block b3 hE1.box.lt (fun e=>hE1.ne (Option.some.inj e));exact⟨Nat.lt_of_lt_of_le hE1.box.lt CN.2.size,fun q v hq=>(World.cell?_of_block hb3).trans (hE1.box.row q v hq),fun q=>(World.frozen?_of_block hb3).trans (hE1.box.free q)⟩
 have hS2:Go.Proofs.YtpbljiejmfahcaaGreatDoor.Ex.boxS b3 bl n C w2:=by
  have:=hbox2.row 0 _ rfl
  rwa [Nat.zero_add]at this
 refine hK2.out _ _ (Or.inr hS2) fun _ => ?_
 clear hK2 hrun2;have hd2':=aY (a.put (some d1) (aV w.heap.size 0 1 1)) d2 (aV bl 0 (n+1) C) (by rw[aG]; exact hlt2);have h32:=aS (d:=d2) (u:=aV bl 0 (n+1) C) h31 hne3;refine aM hr3 ho3 fun K3 hK3 => ?_
 rw[if_pos (by simp[Region.wanted,hg3])];have hst:=tS (w:=w2) (b:=b3) (t:=92) (v:=aV bl 0 (n+1) C) (by rw[hS2]; rfl) (hbox2.free 0) (by kernel_rfl) rfl rfl;have hrun3:(execOp ((a.put (some d1) (aV w.heap.size 0 1 1)).put (some d2) (aV bl 0 (n+1) C)).eval o3).run prog w2=.ok .skip (w2.setCells b3 0 [aV bl 0 (n+1) C]):=by
  simp[execOp,hop3,Instr.storeAt,rO h32,rO hd2',ptV,Instr.sureAddr,hst]
 unfold Oper.wp;rw[hrun3];show K3 _ _;rw[hd3];refine hK3.out _ _ (Or.inl rfl) fun _=>cK hr4 ⟨rfl,?_⟩
 have hO3:Only2 b3 bl w2 (w2.setCells b3 0 [aV bl 0 (n+1) C]):=Only2.of_set;refine hK _ _ rfl (by show (((a.put (some d1) _).put (some d2) _)).tmps.size=_; rw[aG,aG]) (fun q h1 h2=>by
  show (((a.put (some d1) _).put (some d2) _)).tmps[q]?=_;rw[fX _ _ _ _ (fun e=>h2 (by injection e)),fX _ _ _ _ (fun e=>h1 (by injection e))]) (hO1.trans (hO2.trans hO3)) ?_
 have hlt2:bl<w2.heap.size:=Nat.lt_of_lt_of_le hE1.lt CN.2.size;refine⟨⟨by rw[cH]; exact hbox2.lt,fun q v hq => ?_,fun q=>by rw[World.frozen?_setCells]; exact hbox2.free q⟩,ha2.shape (cW _ _ _ _),by rw[cH]; exact hlt2,fun q v hq => ?_,hE.ne⟩
 ·have hq0:q=0:=by have:=(List.getElem?_eq_some_iff.1 hq).1; simpa[aA,At.cells]using this
  subst hq0;have:=World.cell?_setCells_in b3 [aV bl 0 (n+1) C] 0 w2 (fun q hq=>by
   have:q=0:=by simpa using hq
   subst this;rw[Nat.zero_add,hS2]; rfl) 0 (by simp)
  rw[this,←hq];rfl
 ·rw[World.cell?_setCells_out _ _ _ _ _ (fun e _=>absurd e.symm hE.ne)];exact hrow2 q v hq
theorem xL {r:Option Nat} {n:Nat} (S:World→Prop) (L:Nat) {id:Nat} {ops:Array Oper} {K:Act→World→Prop} {Q:Exit→Act→World→Prop} {a:Act} {w:World} (hnd:FJ ops=true) (h:dC prog .any ops (gL K) S L ops.size (Array.replicate ops.size false) a w.drew) (hQ:∀a w,K a w→Q .normal a w) :
  (Code.region id ops true).wpIn (rF r) n prog Q a w:=by
 refine wpIn_region_draw fun t => ?_
 simp only[Region.schedule,aI,Bool.true_or,if_true];have:=yI (r:=r) (n:=n) (Q':=Q) (R:=[]) hnd oE (fun a w hK=>hQ a w hK.2) (fun e a w he hK=>(he hK.1).elim) _ a _ (wpAny_sound ops.size t _ a _ (nS _ _ _ _ h))
 rwa [List.append_nil]at this
def Dj (bb:Nat):Value:=.func (.func 113) #[] #[ptV bb 0]
def sM:Code:=(f87.body).getD .skip
theorem Hf:sM=.seq (cA sM) (.seq (cA (cB sM)) .ret):=by kernel_rfl
theorem Yd (p:Option Addr) (n m:Nat):bE prog (qG prog) f87.ntmps (fun _=>tC T0 fun _=>none) 40 (cA sM) (fT 0 [.v (.im (.slice p n m))]) [.slot 1 (.pt 1 0),.row 1 true [.c (.slice p n m)]]=some ([],.nrm,[.slot 1 (.pt 1 0),.row 1 true [.c (.slice p n m)]]):=by kernel_rfl
theorem Yc (bb:Nat) (v:Value):bE prog (qG prog) f87.ntmps (fun _=>tC T0 fun _=>none) 40 (cA (cB sM)) [.at 1 bb,.slot 1 (.pt 1 0),.row 1 true [.c v]] [.slot 2 (.im (Dj bb)),.at 1 bb,.row 1 true [.c v]]=some ([],.nrm,[.slot 2 (.im (Dj bb)),.at 1 bb,.row 1 true [.c v]]):=by kernel_rfl
theorem XR (w0:World) (p:Option Addr) (n m:Nat):Calls prog 87 #[.slice p n m] w0 fun e w'=>∃bb,e=.returned (Dj bb)∧Below w0.heap.size w0 w'∧oldOf w' bb 0 [.c (.slice p n m)]:=by
 have hG:bO prog (qG prog) w0.heap.size w0:=(aW _).w _ _;have hT:∀n d:Nat,TabOkW prog T0 w0.heap.size w0:=fun _ _=>(bT _).w _ _
 refine cQ func87 (cs:=[.v (.im (.slice p n m))]) (args:=[.slice p n m]) (c:=sM) rfl ⟨rfl,trivial⟩ (Nat.le_of_ble_eq_true (by kernel_rfl)) fun a w hA => ?_
 rw[Hf];refine wp_seq (aB aI hT hG (Yd p n m) trivial hA fun a w hA => ?_);obtain⟨bb,hA⟩:=hA.at (k:=1) (l:=[.c (.slice p n m)]) (by simp);refine wp_seq (aB aI hT hG (Yc bb _) trivial hA fun a w hA=>wp_ret ?_);have ho:=hA.old (k:=1) (l:=[.c (.slice p n m)]) (b:=bb) (by simp) (by simp);exact cT (l:=[.im (Dj bb)]) (r:=.one (.im (Dj bb))) (by kernel_rfl) (by kernel_rfl) hA ⟨bb,rfl,hA.below,ho⟩
def UJ (f:Nat→Nat) (N i:Nat):Nat:=if i=0 then N else hN (fun j=>f (31*(i-1)+j)) (mG N (i-1))
noncomputable abbrev eF:Func:=f53
def tN:Code:=(f53.body).getD .skip
def Vk:Code:=cA (cB tN)
def UL:Code:=cA (cB (cB tN))
def Jx:Code:=cB (cB (cB tN))
def e3C:Code:=cA (cA Jx)
def Vj:Code:=kD (cB (cA Jx))
def Pd:Code→Code
 | .rangeFunc _ _ a _=>a
 | c=>c
def rfB:Code→Code
 | .rangeFunc _ _ _ b=>b
 | c=>c
def SU:Code:=kD (rfB Vj)
theorem Tg:tN=.seq (cA tN) (.seq (.region 1 (aD Vk) false) (.seq (.region 2 (aD UL) true) (.seq (.seq (.region 3 (aD e3C) false) (.block 0 (.rangeFunc (.tmp 18) #[19] (.region 4 (aD (Pd Vj)) false) (.block 1 (.region 5 (aD SU) true))))) (.seq (.region 6 (aD (cA (cB Jx))) false) .ret)))):=by kernel_rfl
theorem aFn:eF.ntmps=26:=by kernel_rfl
theorem aFj (v:Value):bE prog (qG prog) 26 (fun _=>tC T0 fun _=>none) 40 (cA tN) (fT 0 [.v (.im v)]) [.slot 0 (.im v)]=some ([],.nrm,[.slot 0 (.im v)]):=by kernel_rfl
theorem aFi (p:Option Addr) (N m:Nat):eH prog (qG prog) 26 (tC T0 (assoc [(7,iI (N/31)),(8,iI (2+N/31))])) ((aD Vk).extract 0 4) [.slot 0 (.im (.slice p N m))] [.slot 8 (.im (iI (2+N/31))),.slot 0 (.im (.slice p N m))]=some ([aN .quo .i64 (Int.ofNat N) 31=some (iI (N/31)),aN .add .i64 2 (Int.ofNat (N/31))=some (iI (2+N/31))],[.slot 8 (.im (iI (2+N/31))),.slot 0 (.im (.slice p N m))]):=by kernel_rfl
theorem aAX (v:Value) (bl C:Nat):eH prog (qG prog) 26 (tC T0 fun _=>none) ((aD Vk).extract 5 7) [.slot 9 (.im (aV bl 0 0 C)),.slot 0 (.im v)] [.slot 3 (.pt 3 0),.row 3 true [.c (aV bl 0 0 C)],.slot 0 (.im v)]=some ([],[.slot 3 (.pt 3 0),.row 3 true [.c (aV bl 0 0 C)],.slot 0 (.im v)]):=by kernel_rfl
theorem aFh (v:Value) (b3:Nat):eH prog (qG prog) 26 (tC T0 fun _=>none) ((aD e3C).extract 0 1) [.slot 0 (.im v),.slot 3 (.im (ptV b3 0))] [.slot 17 (.im v),.slot 0 (.im v),.slot 3 (.im (ptV b3 0))]=some ([],[.slot 17 (.im v),.slot 0 (.im v),.slot 3 (.im (ptV b3 0))]):=by kernel_rfl
theorem aFg (v:Value) (b3:Nat):bE prog (qG prog) 26 (fun _=>tC T0 fun _=>none) 1 (.region 4 (aD (Pd Vj)) false) [.slot 19 (.im v),.slot 3 (.im (ptV b3 0))] [.slot 4 (.im v),.slot 3 (.im (ptV b3 0))]=some ([],.nrm,[.slot 4 (.im v),.slot 3 (.im (ptV b3 0))]):=by kernel_rfl
theorem bB {nt:Nat} {w:World} {a:Act} {ts:List (Nat×Value)} (hd:a.defers=[]) (hs:a.tmps.size=nt) (ht:∀x∈ts,a.tmps[x.1]?=some x.2):Holds nt w.heap.size w (ts.map fun x=>.slot x.1 (.im x.2)) a w:=by
 refine⟨hd,hs,Below.refl _ _,Nat.le_refl _,fun _=>(w.heap.size,0,0),fun φ hφ => ?_,fun k k' o' l l' h1 => ?_,fun k l h1 => ?_,Nat.le_refl _,fun p h1 h2=>⟨rfl,rfl⟩,Shape.refl _⟩
 ·obtain⟨x,hx,rfl⟩:=List.mem_map.1 hφ;exact ht x hx
 ·obtain⟨x,_,e⟩:=List.mem_map.1 h1; cases e
 ·obtain⟨x,_,e⟩:=List.mem_map.1 h1; cases e
theorem BX {n:Nat} (h:n<18446744073709551616) (w:World):(convert 3 22 (iI n)).run prog w=.ok (.int .u64 (Int.ofNat n)) w:=by
 have h1:prog.underlying 3=some (.int .i64):=by kernel_rfl
 have h2:prog.underlying 22=some (.int .u64):=by kernel_rfl
 have h3:IntKind.u64.wrap (n:Int)=n:=by rw[IntKind.wrap_u64]; omega
 simp[convert,iI,run_underlying h1,run_underlying h2,h3,go_sem]
theorem Ht {C:Nat} (h:C≤8796093022208) (w:World):∃w',(Instr.makeSlice 92 (iI 0) (iI C)).run prog w=.ok (aV w.heap.size 0 0 C) w'∧Below w.heap.size w w'∧AppAt w' w.heap.size 27 4 0 C∧w'.heap.size=w.heap.size+1:=by
 obtain⟨ht,i,z,hi,hz,hsize,hby,hzs,hsz⟩:=lD SO;have hr:=Go.run_make (P:=prog) w 92 27 i z ht hi hz .i64 .i64 0 (C:Int) (by omega) (by omega) (by rw[hby]; omega) (by omega);refine⟨_,hr,(Below.refl _ w).alloc (Nat.le_refl _) _,⟨_,World.alloc_heap_new _ _,Nat.zero_le _,by unfold maxLen; omega,?_⟩,by simp⟩;simp[madeCells,hsize]
theorem gQ {K:Act→World→Prop} {c:List PanicEntry} {a a':Act} {w w':World} (h:gL K (.panic c) a w):gL K (.panic c) a' w':=by cases h.1
theorem aFl {w:World} {a:Act} {b3 bl n C k gg oo m:Nat} {g ff:Nat→Nat} (hE:ElM w b3 bl n C g) (hC:n+1≤C) (h3:a.tmps[3]?=some (ptV b3 0)) (h4:a.tmps[4]?=some (aV gg oo k m)) (hB:BM w gg oo k ff) (hk1:1≤k) (hk2:k≤31) (hsz:a.tmps.size=26)
  {K:Act→World→Prop} (hK:∀a' w',Only2 b3 bl w w'→ElM w' b3 bl (n+1) C (fun q=>if q<n then g q else hN ff k)→K a' w') :
  dC prog .any (aD SU) (gL K) (boxS b3 bl n C) 5 (aD SU).size (Array.replicate (aD SU).size false) a w.drew:=by
 have hd:Below w.heap.size w w.drew:=(Below.refl _ w).drew;have hE:=hE.on hd;obtain⟨o0,ho0,hop0,hd0,hg0⟩:∃x,(aD SU)[0]?=some x∧x.op=.load 92 (.tmp 3)∧x.dst=some 20∧x.guard=none:=⟨_,rfl,rfl,rfl,rfl⟩
 refine aE (i:=0) (v:=aV bl 0 n C) ho0 (by kernel_rfl) (by kernel_rfl) (by kernel_rfl) (by kernel_rfl) (fun _ _ _ h=>gQ h) hE.boxS (zL hop0 hg0 h3 (by kernel_rfl) fun _ h=>h) ?_;rw[hd0];obtain⟨o1,ho1,hop1,hd1,hg1⟩:∃x,(aD SU)[1]?=some x∧x.op=.move (.tmp 4)∧x.dst=some 21∧x.guard=none:=⟨_,rfl,rfl,rfl,rfl⟩
 refine aE (i:=1) (v:=aV gg oo k m) ho1 (by kernel_rfl) (by kernel_rfl) (by kernel_rfl) (by kernel_rfl) (fun _ _ _ h=>gQ h) hE.boxS (NQ hop1 hg1 (aS h4 (by decide))) ?_;rw[hd1];obtain⟨o2,ho2,⟨ts2,hop2⟩,hd2,hg2⟩:∃x,(aD SU)[2]?=some x∧(∃ts,x.op=.call ⟨.value (.func 88),#[.tmp 21],ts⟩)∧x.dst=some 22∧x.guard=none:=⟨_,rfl,⟨_,rfl⟩,rfl,rfl⟩
 refine aM (i:=2) (by kernel_rfl) ho2 fun K2 hK2 => ?_
 rw[if_pos (by simp[Region.wanted,hg2])];have h21:((a.put (some 20) (aV bl 0 n C)).put (some 21) (aV gg oo k m)).tmps[21]?=some (aV gg oo k m):=aY _ _ _ (by rw[aG,hsz]; decide);refine uL hop2 (vs:=[aV gg oo k m]) (by simp[rO h21]) (fun args=>bR func88 (by kernel_rfl) (by kernel_rfl) args _) (YI (hB.on hd) hk1 hk2) fun w2 hb2 => ?_
 rw[hd2];have hE2:=hE.on hb2;refine hK2.out _ _ (Or.inr hE2.boxS) fun _ => ?_
 clear hK2;obtain⟨o3,ho3,hop3,hd3,hg3⟩:∃x,(aD SU)[3]?=some x∧x.op=.buildSlice 92 1 #[(0,.tmp 22)]∧x.dst=some 23∧x.guard=none:=⟨_,rfl,rfl,rfl,rfl⟩
 obtain⟨o4,ho4,hop4,hd4,hg4⟩:∃x,(aD SU)[4]?=some x∧x.op=.call ⟨.builtin .append,#[.tmp 20,.tmp 23],#[92,92]⟩∧x.dst=some 24∧x.guard=none:=⟨_,rfl,rfl,rfl,rfl⟩
 obtain⟨o5,ho5,hop5,hd5,hg5⟩:∃x,(aD SU)[5]?=some x∧x.op=.store 92 (.tmp 3) (.tmp 24)∧x.dst=none∧x.guard=none:=⟨_,rfl,rfl,rfl,rfl⟩
 exact QB (by kernel_rfl) (by kernel_rfl) (by kernel_rfl) (by kernel_rfl) ho3 hop3 hd3 hg3 ho4 hop4 hd4 hg4 ho5 hop5 hd5 hg5 hE2 hC
  (aY _ _ _ (by rw[aG,aG,hsz]; decide)) (aS (aS (aY _ _ _ (by rw[hsz]; decide)) (by decide)) (by decide)) (aS (aS (aS h3 (by decide)) (by decide)) (by decide)) (by decide) (by decide) (by decide) (by rw[aG,aG,aG,hsz]; decide) (by rw[aG,aG,aG,hsz]; decide)
  fun a' w' _ _ _ hO hE'=>hK a' w' ((Only2.of_below hd (by exact hE.box.lt) (by exact hE.lt)).trans ((Only2.of_below hb2 hE.box.lt hE.lt).trans hO)) hE'
theorem aFm {w:World} {a:Act} {b3 bl C N m:Nat} {p:Option Addr} {g:Nat→Nat} (hE:ElM w b3 bl 0 C g) (hC:1≤C) (hN:N<18446744073709551616) (h0:a.tmps[0]?=some (.slice p N m)) (h3:a.tmps[3]?=some (ptV b3 0)) (hsz:a.tmps.size=26)
  {K:Act→World→Prop} (hK:∀a' w',a'.defers=a.defers→a'.tmps.size=26→a'.tmps[0]?=some (.slice p N m)→a'.tmps[3]?=some (ptV b3 0)→Only2 b3 bl w w'→ElM w' b3 bl 1 C (fun q=>if q<0 then g q else N)→K a' w') :
  dC prog .any (aD UL) (gL K) (boxS b3 bl 0 C) 7 (aD UL).size (Array.replicate (aD UL).size false) a w.drew:=by
 have hd:Below w.heap.size w w.drew:=(Below.refl _ w).drew;have hE:=hE.on hd;obtain⟨o0,ho0,hop0,hd0,hg0⟩:∃x,(aD UL)[0]?=some x∧x.op=.load 92 (.tmp 3)∧x.dst=some 10∧x.guard=none:=⟨_,rfl,rfl,rfl,rfl⟩
 refine aE (i:=0) (v:=aV bl 0 0 C) ho0 (by kernel_rfl) (by kernel_rfl) (by kernel_rfl) (by kernel_rfl) (fun _ _ _ h=>gQ h) hE.boxS (zL hop0 hg0 h3 (by kernel_rfl) fun _ h=>h) ?_;rw[hd0];obtain⟨o1,ho1,hop1,hd1,hg1⟩:∃x,(aD UL)[1]?=some x∧x.op=.move (.tmp 0)∧x.dst=some 11∧x.guard=none:=⟨_,rfl,rfl,rfl,rfl⟩
 refine aE (i:=1) (v:=.slice p N m) ho1 (by kernel_rfl) (by kernel_rfl) (by kernel_rfl) (by kernel_rfl) (fun _ _ _ h=>gQ h) hE.boxS (NQ hop1 hg1 (aS h0 (by decide))) ?_;rw[hd1];have hg11:((a.put (some 10) (aV bl 0 0 C)).put (some 11) (.slice p N m)).tmps[11]?=some (.slice p N m):=aY _ _ _ (by rw[aG,hsz]; decide);obtain⟨o2,ho2,hop2,hd2,hg2⟩:∃x,(aD UL)[2]?=some x∧x.op=.call ⟨.builtin .len,#[.tmp 11],#[25]⟩∧x.dst=some 12∧x.guard=none:=⟨_,rfl,rfl,rfl,rfl⟩
 refine aE (i:=2) (v:=iI N) ho2 (by kernel_rfl) (by kernel_rfl) (by kernel_rfl) (by kernel_rfl) (fun _ _ _ h=>gQ h) hE.boxS (Nn hop2 hg2 hg11 zO) ?_;rw[hd2];have hg12:(((a.put (some 10) (aV bl 0 0 C)).put (some 11) (.slice p N m)).put (some 12) (iI N)).tmps[12]?=some (iI N):=aY _ _ _ (by rw[aG,aG,hsz]; decide);obtain⟨o3,ho3,hop3,hd3,hg3⟩:∃x,(aD UL)[3]?=some x∧x.op=.convert 3 22 (.tmp 12)∧x.dst=some 13∧x.guard=none:=⟨_,rfl,rfl,rfl,rfl⟩
 refine aE (i:=3) (v:=.int .u64 (Int.ofNat N)) ho3 (by kernel_rfl) (by kernel_rfl) (by kernel_rfl) (by kernel_rfl) (fun _ _ _ h=>gQ h) hE.boxS (Dx hop3 hg3 hg12 (BX hN)) ?_;rw[hd3];have hg13:((((a.put (some 10) (aV bl 0 0 C)).put (some 11) (.slice p N m)).put (some 12) (iI N)).put (some 13) (.int .u64 (Int.ofNat N))).tmps[13]?=some (.int .u64 (Int.ofNat N)):=aY _ _ _ (by rw[aG,aG,aG,hsz]; decide);obtain⟨o4,ho4,⟨ts4,hop4⟩,hd4,hg4⟩:∃x,(aD UL)[4]?=some x∧(∃ts,x.op=.call ⟨.value (.func 69),#[.tmp 13],ts⟩)∧x.dst=some 14∧x.guard=none:=⟨_,rfl,⟨_,rfl⟩,rfl,rfl⟩
 refine aM (i:=4) (by kernel_rfl) ho4 fun K4 hK4 => ?_
 rw[if_pos (by simp[Region.wanted,hg4])];refine uL hop4 (vs:=[.int .u64 (Int.ofNat N)]) (List.cons_eq_cons.2 ⟨rO hg13,rfl⟩) (fun args=>bR func69 (by kernel_rfl) (by kernel_rfl) args _) (Pg [.v (.im (.int .u64 (Int.ofNat N)))] _ _ rfl ⟨hN,trivial⟩ [.int .u64 (Int.ofNat N)] w.drew ⟨rfl,trivial⟩) fun w2 hb2 => ?_
 rw[hd4];have hE2:=hE.on hb2;refine hK4.out _ _ (Or.inr hE2.boxS) fun _ => ?_
 clear hK4;obtain⟨o5,ho5,hop5,hd5,hg5⟩:∃x,(aD UL)[5]?=some x∧x.op=.buildSlice 92 1 #[(0,.tmp 14)]∧x.dst=some 15∧x.guard=none:=⟨_,rfl,rfl,rfl,rfl⟩
 obtain⟨o6,ho6,hop6,hd6,hg6⟩:∃x,(aD UL)[6]?=some x∧x.op=.call ⟨.builtin .append,#[.tmp 10,.tmp 15],#[92,92]⟩∧x.dst=some 16∧x.guard=none:=⟨_,rfl,rfl,rfl,rfl⟩
 obtain⟨o7,ho7,hop7,hd7,hg7⟩:∃x,(aD UL)[7]?=some x∧x.op=.store 92 (.tmp 3) (.tmp 16)∧x.dst=none∧x.guard=none:=⟨_,rfl,rfl,rfl,rfl⟩
 exact QB (n:=0) (x:=N) (by kernel_rfl) (by kernel_rfl) (by kernel_rfl) (by kernel_rfl) ho5 hop5 hd5 hg5 ho6 hop6 hd6 hg6 ho7 hop7 hd7 hg7 hE2 hC
  (aY _ _ _ (by simp only[aG,hsz]; decide)) (aS (aS (aS (aS (aY _ _ _ (by rw[hsz]; decide)) (by decide)) (by decide)) (by decide)) (by decide)) (aS (aS (aS (aS (aS h3 (by decide)) (by decide)) (by decide)) (by decide)) (by decide)) (by decide) (by decide) (by decide) (by simp only[aG,hsz]; decide) (by simp only[aG,hsz]; decide)
  fun a' w' e1 e2 e3 hO hE'=>hK a' w' e1 (by rw[e2]; simp only[aG,hsz]) ((e3 0 (by decide) (by decide)).trans (aS (aS (aS (aS (aS h0 (by decide)) (by decide)) (by decide)) (by decide)) (by decide))) ((e3 3 (by decide) (by decide)).trans (aS (aS (aS (aS (aS h3 (by decide)) (by decide)) (by decide)) (by decide)) (by decide))) ((Only2.of_below hd (by exact hE.box.lt) (by exact hE.lt)).trans ((Only2.of_below hb2 hE.box.lt hE.lt).trans hO)) hE'
abbrev dU:Nat:=18446744073709551616
theorem or6 {a b:Nat} (ha:a<dU) (hb:b<dU):a ||| b<dU:=Nat.or_lt_two_pow (n:=64) ha hb
theorem xF {a b:Nat} (ha:a<dU) (hb:b<dU):a ^^^ b<dU:=Nat.xor_lt_two_pow (n:=64) ha hb
theorem Kz {a b:Nat} (ha:a<dU):a &&& b<dU:=Nat.lt_of_le_of_lt Nat.and_le_left ha
theorem Kc {a k:Nat} (ha:a<dU):a/2^k<dU:=Nat.lt_of_le_of_lt (Nat.div_le_self _ _) ha
theorem YT (a:Nat):a%dU<dU:=Nat.mod_lt _ (by decide)
def oN (lo hi p:Nat):Nat:=lo/2^p ||| hi*2^(64-p)%dU
theorem lZ {lo hi p:Nat} (h:lo<dU):oN lo hi p<dU:=or6 (Kc h) (YT _)
structure St where
 lo:Nat
 hi:Nat
 fr:Nat
 gv:Nat
structure St.ok (s:St):Prop where
 lo:s.lo<dU
 hi:s.hi<dU
 fr:s.fr<dU
 gv:s.gv<dU
def sW (lo hi:Nat):Nat:=(oN lo hi 62 ^^^ oN lo hi 51 ^^^ oN lo hi 38 ^^^ oN lo hi 23 ^^^ oN lo hi 13 ^^^ oN lo hi 0) &&& 65535
def St.grow (s:St):St:=⟨oN s.lo s.hi 16,sW s.lo s.hi,sW s.lo s.hi,s.gv⟩
theorem Am {lo hi:Nat} (h:lo<dU):sW lo hi<dU:=Kz (xF (xF (xF (xF (xF (lZ h) (lZ h)) (lZ h)) (lZ h)) (lZ h)) (lZ h))
theorem St.ok.grow {s:St} (h:s.ok):s.grow.ok:=⟨lZ h.lo,Am h.lo,Am h.lo,h.gv⟩
abbrev tz (x:Nat):Nat:=Lib.ctz 64 x
def FU (n c i:Nat):Nat:=n/2^(c-1-i)%2
def qZ (n c i p:Nat):Nat:=FU n c i*2^(p%64)%dU
def lay1 (n c i p:Nat) (s:St):St:=if p/64=0 then ⟨s.lo ||| qZ n c i p,s.hi,s.fr,s.gv⟩else ⟨s.lo,s.hi ||| qZ n c i p,s.fr,s.gv⟩
theorem AZ (n c i p:Nat):qZ n c i p<dU:=YT _
theorem St.ok.lay1 {s:St} (h:s.ok) (n c i p:Nat):(Ex.lay1 n c i p s).ok:=by
 unfold Ex.lay1
 by_cases e:p/64=0
 ·rw[if_pos e]; exact⟨or6 h.lo (AZ _ _ _ _),h.hi,h.fr,h.gv⟩
 ·rw[if_neg e]; exact⟨h.lo,or6 h.hi (AZ _ _ _ _),h.fr,h.gv⟩
def sR (n c:Nat):Nat→Nat→Nat→St→St
 | 0,_,_,s=>s
 | m+1,i,p,s=>sR n c m (i+1) (p+1) (lay1 n c i p s)
theorem fC (n c:Nat):∀(m i p:Nat) {s:St},s.ok→(sR n c m i p s).ok
 | 0,_,_,_,h=>h
 | m+1,i,p,s,h=>fC n c m (i+1) (p+1) (h.lay1 n c i p)
def Dm:Nat→St→St
 | 0,s=>s
 | n+1,s=>(Dm n s).grow
theorem LJ:∀(n:Nat) {s:St},s.ok→(Dm n s).ok
 | 0,_,h=>h
 | n+1,_,h=>(LJ n h).grow
def St0:St:=⟨0,0,0,0⟩
def bgL (wd fl pt:Nat):St:=sR 1073741823 30 30 0 50 (sR pt 10 10 0 40 (sR fl 10 10 0 30 (sR wd 12 12 0 18 (sR 254 12 12 0 6 (sR 0 4 4 0 2 (sR 1 2 2 0 0 St0))))))
def IW (wd fl pt:Nat):St:=Dm 10 (bgL wd fl pt)
theorem NL:St0.ok:=⟨by decide,by decide,by decide,by decide⟩
theorem Cm (wd fl pt:Nat):(bgL wd fl pt).ok:=fC _ _ _ _ _ (fC _ _ _ _ _ (fC _ _ _ _ _ (fC _ _ _ _ _ (fC _ _ _ _ _ (fC _ _ _ _ _ (fC _ _ _ _ _ NL))))))
theorem MU (wd fl pt:Nat):(IW wd fl pt).ok:=LJ _ (Cm _ _ _)
def St.J (s:St):St:=⟨s.grow.lo,s.grow.hi,s.grow.fr,s.grow.fr &&& 21845⟩
theorem St.ok.J {s:St} (h:s.ok):s.J.ok:=⟨h.grow.lo,h.grow.hi,h.grow.fr,Kz h.grow.fr⟩
def ZX:Nat→St→Option St
 | 0,s=>bif Nat.beq s.gv 0 then none else some s
 | n+1,s=>bif Nat.beq s.gv 0 then ZX n s.J else some s
def Ji:Nat→St→St
 | 0,s=>s
 | n+1,s=>(Ji n s).J
theorem Uy:∀(n:Nat) (s:St),Ji n s.J=Ji (n+1) s
 | 0,s=>rfl
 | n+1,s=>by
  show (Ji n s.J).J=_;rw[Uy n s]; rfl
theorem De:∀(n:Nat) {s:St},s.ok→(Ji n s).ok
 | 0,s,h=>h
 | n+1,s,h=>(De n h).J
theorem rE:∀(n:Nat) (s t:St),ZX n s=some t→∃k,Ji k s=t∧t.gv≠0∧∀i,i<k→(Ji i s).gv=0
 | 0,s,t,h=>by
  unfold ZX at h;cases hb:Nat.beq s.gv 0<;>rw[hb]at h
  ·cases h;exact⟨0,rfl,(fun e=>by rw[e]at hb; cases hb),fun i hi=>by omega⟩
  ·cases h
 | n+1,s,t,h=>by
  unfold ZX at h;cases hb:Nat.beq s.gv 0<;>rw[hb]at h
  ·cases h;exact⟨0,rfl,(fun e=>by rw[e]at hb; cases hb),fun i hi=>by omega⟩
  ·obtain⟨k,h1,h2,h3⟩:=rE n s.J t h;refine⟨k+1,by rw[←Uy]; exact h1,h2,fun i hi => ?_⟩;cases i with
   | zero=>exact Nat.eq_of_beq_eq_true hb
   | succ i=>rw[←Uy]; exact h3 i (by omega)
def St.bit (t:St):Nat:=t.fr/2^(tz t.gv+1) &&& 1
def St.next (t:St):St:=⟨t.lo,t.hi,t.fr,t.gv &&& (t.gv-1)⟩
theorem St.ok.next {s:St} (h:s.ok):s.next.ok:=⟨h.lo,h.hi,h.fr,Kz h.gv⟩
def Lb (a b:Nat):Nat:=a*2^1%dU ||| b
def xC:Nat→St→Nat→Option (Nat×St)
 | 0,s,a=>some (a,s)
 | n+1,s,a=>match ZX 40 s with|some t=>xC n t.next (Lb a t.bit)|none=>none
theorem Lq {n:Nat} (h:n≠0) (hn:n<dU):tz n<64:=(Lib.lowest_bit 64 n h hn).2
theorem MS {s:St} (h:s.ok):s.bit<dU:=Kz (Kc h.fr)
theorem Cv {a:Nat} {s:St} (h:s.ok):Lb a s.bit<dU:=or6 (YT _) (MS h)
theorem LF {n:Nat} {s t:St} (hs:s.ok) (h:ZX n s=some t):t.ok:=by
 obtain⟨k,rfl,_,_⟩:=rE n s t h;exact De k hs
theorem fM:∀(n:Nat) {s t:St} {a v:Nat},s.ok→a<dU→xC n s a=some (v,t)→t.ok∧v<dU
 | 0,s,t,a,v,hs,ha,h=>by cases h; exact⟨hs,ha⟩
 | n+1,s,t,a,v,hs,ha,h=>by
  unfold xC at h;cases hi:ZX 40 s with
  | none=>rw[hi]at h; cases h
  | some u =>
   rw[hi]at h;have hu:=LF hs hi;exact fM n hu.next (Cv hu) h
def ID (s:St):Option (Nat×St):=match xC 62 s 0 with
 | some (d,s1)=>(match xC 64 s1 0 with
  | some (c,s2)=>(match xC 64 s2 0 with
   | some (b,s3)=>(match xC 64 s3 0 with
    | some (a,s4)=>some (aC a b c d,s4)
    | none=>none)
   | none=>none)
  | none=>none)
 | none=>none
theorem sZ {s t:St} {x:Nat} (h:ID s=some (x,t)):∃a b c d s1 s2 s3,xC 62 s 0=some (d,s1)∧xC 64 s1 0=some (c,s2)∧xC 64 s2 0=some (b,s3)∧xC 64 s3 0=some (a,t)∧x=aC a b c d:=by
 unfold ID at h;split at h
 ·rename_i d s1 h1;split at h
  ·rename_i c s2 h2;split at h
   ·rename_i b s3 h3;split at h
    ·rename_i a s4 h4;cases h;exact⟨a,b,c,d,s1,s2,s3,h1,h2,h3,h4,rfl⟩
    ·cases h
   ·cases h
  ·cases h
 ·cases h
def xV:Nat→St→Option (Nat×St)
 | 0,_=>none
 | n+1,s=>match ID s with
  | some (x,t)=>bif Nat.blt x RM then some (x,t)else xV n t
  | none=>none
def MJ:Nat→St→Option (List Nat)
 | 0,_=>some []
 | n+1,s=>match xV 100 s with
  | some (x,t)=>(match MJ n t with|some l=>some (x::l)|none=>none)
  | none=>none
def ZE (ops:Array Oper):Bool:=nT (fun i (_:Oper)=>Nat.beq (i+1) ops.size||(List.range ops.size).any fun k=>Nat.blt i k&&MG true ops k i) 0 ops.toList
def Qt (ops:Array Oper):Bool:=ops.toList.all fun o=>o.guard.isNone
theorem OX {ops:Array Oper} (h:Qt ops=true) {i:Nat} {o:Oper} (ho:ops[i]?=some o):∀y,Region.wanted o y=true:=by
 have hm:o∈ops.toList:=by
  have:ops.toList[i]?=some o:=by rw[Array.getElem?_toList]; exact ho
  exact List.mem_of_getElem? this
 have h1:o.guard.isNone=true:=List.all_eq_true.1 h o hm;have h2:o.guard=none:=by simpa using h1
 intro y;unfold Region.wanted;rw[h2]
theorem XL {ops:Array Oper} {i:Nat} (h:i+1<ops.size):ops.pop[i]?=ops[i]?:=by
 rw[Array.getElem?_pop,if_pos (by omega)]
theorem PP {ops:Array Oper} {i j:Nat} (h:i+1<ops.size):MG true ops.pop i j=MG true ops i j:=by
 unfold MG;simp only[cond_true];rw[XL h]
section
variable {E:Env} {ops:Array Oper} {base:Nat} {w0:World} {A A':List Fact} {TF:List (Option Nat×Fact)} {rs:List Rec} {ps:List Prop} {a:Act} {w:World} {Q:Exit→Act→World→Prop}
theorem Cs (hT:∀d,TabOkW E.P (E.T d) base w0) (hq:bO E.P E.q base w0) (hrun:uU E true ops.pop ops.pop.toList 0 (A.map fun φ=>(none,φ)) [] []=some (ps,TF,rs)) (hps:aT ps) (hchk:Do true ops.pop rs=true) (hlow:Dk true ops=true) (hlast:ZE ops=true) (hno:Qt ops=true)
  {ol:Oper} (hol:ops[ops.size-1]?=some ol) (hQ:∀a w,Inv E true ops.pop base w0 TF rs (fun i=>i<ops.pop.size) a w→ol.wp E.P a w (fun a w=>Q .normal a w) Q) :
  ∀(m:Nat) (g:Array Bool) (a:Act) (w:World),g.size=ops.size→fr ops.size g=m→g.getD (ops.size-1) false=false→Inv E true ops.pop base w0 TF rs (fun i=>g.getD i false=true) a w→wpAny E.P .any ops Q m g a w:=by
 have hpos:0<ops.size:=by have:=(Array.getElem?_eq_some_iff.1 hol).1; omega
 have hps2:ops.pop.size=ops.size-1:=Array.size_pop;have hready:∀(g:Array Bool),g.size=ops.size→Region.ready .any ops g=[]→∀i,i<ops.size→g.getD i false=true:=fun g hs hr i=>by
  induction i using Nat.strongRecOn with
  | _ i ih =>
   intro hi;cases hb:g.getD i false with
   | true=>rfl
   | false =>
    exfalso;have:i∈Region.ready .any ops g:=by
     refine mem_ready.2 ⟨?_,ops[i],Array.getElem?_eq_getElem hi,fun e he hbi => ?_⟩
     ·have:i<g.size:=by omega
      simp[Array.getD,this]at hb ⊢;exact hb
     ·unfold Dk at hlow;simp only[cond_true]at hlow;have:=fK hlow i ops[i] (by simp[hi]);rw[List.all_eq_true]at this;have:=this e (by simpa using he);rw[hbi]at this;have hlt:e.on<i:=by simpa using this
      exact ih e.on hlt (by omega)
    rw[hr]at this;cases this
 intro m
 induction m with
 | zero =>
  intro g a w hs hf hl hI;have:=BO hf (ops.size-1) (by omega);rw[hl]at this;cases this
 | succ m ih =>
  intro g a w hs hf hl hI;refine⟨fun hr => ?_,fun i hi => ?_⟩
  ·have:=hready g hs hr (ops.size-1) (by omega);rw[hl]at this;cases this
  obtain⟨h1,o,ho,h2⟩:=mem_ready.1 hi;have hlt:i<ops.size:=(Array.getElem?_eq_some_iff.1 ho).1;have hg:i<g.size:=by omega
  have hgi:g.getD i false=false:=by
   simp[Array.getD,hg]at h1 ⊢;exact h1
  unfold wpOp;rw[ho];simp only;rw[if_pos (OX hno ho _)];refine Or.inl ?_
  by_cases hil:i+1=ops.size
  ·have e:i=ops.size-1:=by omega
   subst e;rw[hol]at ho;cases ho;have hall:∀n j,j+n+1=ops.size→1≤n→g.getD j false=true:=fun n=>by
    induction n using Nat.strongRecOn with
    | _ n ihn =>
     intro j hj hn;have h3:=fK hlast j ops[j] (by simp[show j<ops.size by omega]);rw[Nat.zero_add,Bool.or_eq_true]at h3
     rcases h3 with h3|h3
     ·have:=Nat.eq_of_beq_eq_true h3; omega
     ·obtain⟨k,hk,h4⟩:=List.any_eq_true.1 h3;rw[Bool.and_eq_true]at h4;have hjk:j<k:=by simpa using h4.1
      have hk:k<ops.size:=by simpa using hk
      by_cases ek:k+1=ops.size
      ·obtain⟨o',ho',e,he,hb,rfl⟩:=wQ.1 h4.2;rw[show k=ops.size-1 by omega,hol]at ho';cases ho';exact h2 e he hb
      ·have h5:=ihn (ops.size-1-k) (by omega) k (by omega) (by omega);exact hI.closed k j h5 (by rw[PP (by omega)]; exact h4.2)
   have hfun:(fun i=>g.getD i false=true)=fun i=>i<ops.pop.size:=funext fun i=>propext ⟨fun h=>by
    rw[hps2]
    by_cases hi:i<g.size
    ·have:i≠ops.size-1:=fun e=>by rw[e,hl]at h; cases h
     omega
    ·simp[Array.getD,hi]at h,fun h=>hall (ops.size-1-i) i (by omega) (by omega)⟩
   rw[hfun]at hI;refine Oper.wp_mono (fun a' w' h => ?_) (hQ a w hI);have hnil:Region.ready .any ops (g.setIfInBounds (ops.size-1) true)=[]:=by
    apply List.eq_nil_iff_forall_not_mem.2;intro j hj;obtain⟨q1,o,qo,_⟩:=mem_ready.1 hj;have hjlt:j<ops.size:=(Array.getElem?_eq_some_iff.1 qo).1;have q2:(g.setIfInBounds (ops.size-1) true).getD j false=true:=by
     by_cases ej:j=ops.size-1
     ·exact (kV (by omega)).2 (Or.inl ej)
     ·exact (kV (by omega)).2 (Or.inr (hall (ops.size-1-j) j (by omega) (by omega)))
    have:j<(g.setIfInBounds (ops.size-1) true).size:=by simp; omega
    simp[Array.getD,this]at q1 q2;obtain⟨_,q1⟩:=q1;obtain⟨_,q2⟩:=q2;rw[q1]at q2; cases q2
   cases m with
   | zero=>exact⟨hnil,h⟩
   | succ m=>exact⟨fun _=>h,fun j hj=>by rw[hnil]at hj; cases hj⟩
  ·have hip:i+1<ops.size:=by omega
   have hst:=qD hT hq hrun hps hchk (Q:=Q) hI (show ops.pop[i]?=some o by rw[XL hip]; exact ho) (by rw[hgi]; simp) (fun j hj=>by
    rw[PP hip]at hj;obtain⟨o',ho',e,he,hb,rfl⟩:=wQ.1 hj;rw[ho]at ho';cases ho';exact h2 e he hb)
   rw[if_pos (OX hno ho _)]at hst;refine Oper.wp_mono (fun a' w' h => ?_) hst;refine ih _ a' w' (by simp[hs]) (by have:=LQ hlt hg hgi; omega) ?_ ?_
   ·cases hb:(g.setIfInBounds i true).getD (ops.size-1) false with
    | false=>rfl
    | true =>
     rcases (kV hg).1 hb with q|q
     ·omega
     ·rw[hl]at q; cases q
   ·have:(fun j=>(g.setIfInBounds i true).getD j false=true)=fun j=>j=i∨g.getD j false=true:=funext fun j=>propext (kV hg)
    rwa [this]
end
def Pe (P:Program) (q:EqT) (nt:Nat) (c:Cfg) (ops:Array Oper) (A K:List Fact):Option (List Prop×List Fact) :=
 match xM (Mh P q nt c) true ops.pop A with
 | some (ps,A1)=>match pick A1 K with|some L=>some (ps,L)|none=>none
 | none=>none
theorem JU {P:Program} {q:EqT} {nt base id:Nat} {c:Cfg} {w0:World} {ops:Array Oper} {A K L:List Fact} {ps:List Prop} {Q:Exit→Act→World→Prop} (hm:P.follows .mixedOrders=true) (hT:∀d,TabOkW P (c.T d) base w0) (hq:bO P q base w0) (h:Pe P q nt c ops A K=some (ps,L)) (hps:aT ps)
  (hk:(Dk true ops&&(ZE ops&&Qt ops))=true) {ol:Oper} (hol:ops[ops.size-1]?=some ol) {a:Act} {w:World} (hA:Holds nt base w0 A a w)
  (hQ:∀a w,Holds nt base w0 L a w→ol.wp P a w (fun a w=>Q .normal a w) Q):(Code.region id ops true).wp P Q a w:=by
 rw[Bool.and_eq_true,Bool.and_eq_true]at hk;unfold Pe at h;split at h
 ·rename_i ps' A1 h1;split at h
  ·rename_i L' h2;cases h;unfold xM at h1;split at h1
   ·rename_i ps' TF rs hrun;cases hc:(Do true ops.pop rs&&Dk true ops.pop)<;>rw[hc]at h1
    ·cases h1
    ·cases h1;rw[Bool.and_eq_true]at hc;refine wp_region_any hm ?_;have hsz:∀n,fr n (Array.replicate ops.size false)=n:=fun n=>by
      induction n with
      | zero=>rfl
      | succ n ih=>unfold fr; rw[ih]; by_cases hn:n<ops.size<;>simp[Array.getD,hn]
     refine Cs (E:=Mh P q nt c) hT hq hrun hps hc.1 hk.1 hk.2.1 hk.2.2 hol (fun a w hI=>hQ a w ((oO hrun (fun _ h=>h) hI).sub (gK h2))) ops.size _ a _ (by simp) (hsz _) ?_ ?_
     ·have:=(Array.getElem?_eq_some_iff.1 hol).1;simp[Array.getD,this]
     ·have:(fun i=>(Array.replicate ops.size false).getD i false=true)=fun _:Nat=>False:=funext fun i=>propext (by by_cases hi:i<ops.size<;>simp[Array.getD,hi])
      rw[this];exact jC hrun hA.drew
   ·cases h1
  ·cases h
 ·cases h
theorem AB {w:World} {b o:Nat} {vs:List Value} (hf:∀j,w.frozen? ⟨b,j,none⟩=false):WrC w (w.setCells b o vs) b :=
 ⟨fE (Nat.le_refl _) _ _ _ _ (Below.refl _ _),fun p _ hne=>⟨World.cell?_setCells_out _ _ _ _ _ (fun q _=>absurd q hne),World.frozen?_setCells _ _ _ _ _⟩,cW _ _ _ _,fun j=>by rw[World.frozen?_setCells]; exact hf j⟩
theorem Own.there {w:World} {b:Nat} {l:List At} (h:Own w b l) {o n:Nat} (hn:o+n≤dD l):w.there b o n:=fun j hj=>by
 refine⟨?_,h.free _⟩;have hlt:o+j<(aA l).length:=by rw[aL]; omega
 have:=h.row (o+j) ((aA l)[o+j]'hlt) (List.getElem?_eq_getElem _);rw[Nat.zero_add]at this;rw[this]; rfl
theorem Own.set {w:World} {b o:Nat} {l l' p:List At} (h:Own w b l) (hp:put l o p=some l'):Own (w.setCells b o (aA p)) b l'∧WrC w (w.setCells b o (aA p)) b:=by
 obtain⟨q,m,s,e1,e2,e3,e4⟩:=uZ hp;have hl:dD l=o+(dD p+dD s):=by rw[e1,lY,lY,e3,e4]
 have hth:∀j,j<(aA p).length→(w.cell? ⟨b,o+j,none⟩).isSome=true:=fun j hj=>by
  rw[aL]at hj;exact ((h.there (o:=o) (n:=dD p) (by omega)) j hj).1
 refine⟨⟨by rw[cH]; exact h.lt,fun j v hj => ?_,fun j=>by rw[World.frozen?_setCells]; exact h.free j⟩,AB h.free⟩;rw[Nat.zero_add];rw[e2]at hj;have hf:aA l=aA q++(aA m++aA s):=by rw[e1,aJ,aJ]
 have hqo:(aA q).length=o:=by rw[aL,e3]
 have hmp:(aA m).length=(aA p).length:=by rw[aL,aL,e4]
 by_cases h1:j<o
 ·rw[World.cell?_setCells_out _ _ _ _ _ (fun _ _=>Or.inl (show j<o from h1))];have:=h.row j v (by rw[hf]; rw[List.getElem?_append_left (by omega)]at hj ⊢; exact hj)
  rwa [Nat.zero_add]at this
 ·rw[List.getElem?_append_right (by omega),hqo]at hj
  by_cases h2:j-o<(aA p).length
  ·rw[List.getElem?_append_left h2]at hj;have:=World.cell?_setCells_in b (aA p) o w hth (j-o) h2;rw[show o+(j-o)=j by omega]at this;rw[this,←hj,List.getElem?_eq_getElem h2]
  ·rw[World.cell?_setCells_out _ _ _ _ _ (fun _ _=>Or.inr (show o+(aA p).length≤j by omega))];have:=h.row j v (by rw[hf,List.getElem?_append_right (by omega),hqo,List.getElem?_append_right (by omega),hmp]; rw[List.getElem?_append_right (by omega)]at hj; exact hj)
   rwa [Nat.zero_add]at this
theorem eT {P:Program} {op:Oper} {a:Act} {w:World} {K:Act→World→Prop} {Q:Exit→Act→World→Prop} {t b o:Nat} {x y:Operand} {v:Value} {vs:List Value} (hop:op.op=.store t x y) (hd:op.dst=none) (hx:a.eval x=ptV b o) (hy:a.eval y=v) (hv:v.cells=vs.toArray) (h1:vs.all (·.oneCell')=true)
  (hi:(P.info? t).map (·.size)=some vs.length) (hth:w.there b o vs.length) (hK:K a (w.setCells b o vs)):op.wp P a w K Q:=by
 have hst:=run_storeVar_mid (P:=P) w b o t vs.toArray (by simpa using hth) (by simpa using hi) (by simpa using h1);have hrun:(execOp a.eval op).run P w=.ok .skip (w.setCells b o vs):=by
  have e:(storeVar t ⟨b,o,none⟩ v).run P w=.ok () (w.setCells b o vs):=by
   unfold storeVar at hst ⊢;rw[hv];exact hst
  simp[execOp,hop,Instr.storeAt,hx,hy,ptV,Instr.sureAddr,e]
 unfold Oper.wp;rw[hrun];show K _ _;rw[hd];exact hK
def gN (op:BinOp) (t:Nat) (x y:Operand) (v u r:Value):Prop:=∀w:World,(do eqGuard op t x y v u; binOp op t v u:Sem Value).run prog w=.ok r w
def u6 (n:Nat):Value:=.int .u64 (Int.ofNat n)
theorem AE (t:Nat) (x y:Operand) {a b:Nat} (ha:a<dU) (hb:b<dU):gN .and t x y (u6 a) (u6 b) (u6 (a &&& b)):=fun w=>by
 have h:=bits_and_u64_nat a b ha hb;simp[eqGuard,binOp,go_sem,u6];exact h
theorem WL (t:Nat) (x y:Operand) {a b:Nat} (ha:a<dU) (hb:b<dU):gN .or t x y (u6 a) (u6 b) (u6 (a ||| b)):=fun w=>by
 have h:=bits_or_u64_nat a b ha hb;simp[eqGuard,binOp,go_sem,u6];exact h
theorem uS (t:Nat) (x y:Operand) {a b:Nat} (ha:a<dU) (hb:b<dU):gN .xor t x y (u6 a) (u6 b) (u6 (a ^^^ b)):=fun w=>by
 have h:=bits_xor_u64_nat a b ha hb;simp[eqGuard,binOp,go_sem,u6];exact h
theorem WJ (t:Nat) (x y:Operand) (a:Nat) {k:Nat} (hk:k≤64):gN .shr t x y (u6 a) (iI k) (u6 (a/2^k)):=fun w=>by
 simp[eqGuard,binOp,go_sem,u6,iI,Nat.min_eq_left hk]
theorem WK (t:Nat) (x y:Operand) (a:Nat) {k:Nat} (hk:k≤64):gN .shl t x y (u6 a) (iI k) (u6 (a*2^k%dU)):=fun w=>by
 simp[eqGuard,binOp,go_sem,u6,iI,IntKind.wrap,IntKind.signed,IntKind.bits,Nat.min_eq_left hk]
theorem Fh (t:Nat) (x y:Operand) (a:Nat) {k:Nat} (hk:k≤64):gN .shl t x y (u6 a) (u6 k) (u6 (a*2^k%dU)):=fun w=>by
 simp[eqGuard,binOp,go_sem,u6,IntKind.wrap,IntKind.signed,IntKind.bits,Nat.min_eq_left hk]
theorem Hi {p:Nat} (h:p≤64):aN .sub .i64 64 (Int.ofNat p)=some (iI (64-p)):=qT (i:=64) h (by decide)
theorem Fr (w:World) (b1 b2 lo hi p:Nat):bZ prog { qG prog with x:=xO w (fun _=>none) (fun _=>none) (assoc [(5,u6 lo),(7,u6 (lo/2^p)),(8,u6 hi),(11,u6 (hi*2^(64-p)%dU)),(12,u6 (oN lo hi p))]) } (fun _=>tC T0 (assoc [(10,iI (64-p))])) f149 60 [.v (.im (iI p)),.v (.im (ptV b1 0)),.v (.im (ptV b2 0))]=some ([oldOf w b1 0 [.c (u6 lo)],gN .shr 22 (.tmp 5) (.tmp 6) (u6 lo) (iI p) (u6 (lo/2^p)),oldOf w b2 0 [.c (u6 hi)],aN .sub .i64 64 (Int.ofNat p)=some (iI (64-p)),gN .shl 22 (.tmp 8) (.tmp 10) (u6 hi) (iI (64-p)) (u6 (hi*2^(64-p)%dU)),gN .or 22 (.tmp 7) (.tmp 11) (u6 (lo/2^p)) (u6 (hi*2^(64-p)%dU)) (u6 (oN lo hi p))],.one (.im (u6 (oN lo hi p)))):=by kernel_rfl
theorem SK {w:World} {b1 b2 lo hi p:Nat} (hp:p≤64) (hl:lo<dU) (h1:oldOf w b1 0 [.c (u6 lo)]) (h2:oldOf w b2 0 [.c (u6 hi)]):bD prog 149 (.one (.im (u6 (oN lo hi p)))) [iI p,ptV b1 0,ptV b2 0] w :=
 bC aI (fun _ _=>(bT _).w _ _) (eK w _ _ _) func149 (Fr w b1 b2 lo hi p) ⟨h1,WJ _ _ _ _ hp,h2,Hi hp,WK _ _ _ _ (by omega),WL _ _ _ (Kc hl) (YT _),trivial⟩ (args:=[iI p,ptV b1 0,ptV b2 0]) ⟨rfl,rfl,rfl,trivial⟩
def gFr (b1 b2 lo hi:Nat):gE
 | [.v (.im (.int .i64 (.ofNat p))),.v (.im u1),.v (.im u2)]=>some ([p≤64,u1=ptV b1 0,u2=ptV b2 0],.one (.im (u6 (oN lo hi p))))
 | _=>none
theorem Se {w:World} {b1 b2 lo hi:Nat} (hl:lo<dU) (h1:oldOf w b1 0 [.c (u6 lo)]) (h2:oldOf w b2 0 [.c (u6 hi)]):∀cs pre r,gFr b1 b2 lo hi cs=some (pre,r)→aT pre→∀(args:List Value),cD w cs args→bD prog 149 r args w:=by
 intro cs pre r hg hp args ha;unfold gFr at hg;split at hg
 ·rename_i p u1 u2;cases hg;obtain⟨hp,rfl,rfl,_⟩:=hp
  match args,ha with
  | [x,y,z],ha =>
   have e1:x=_:=ha.1;have e2:y=_:=ha.2.1;have e3:z=_:=ha.2.2.1;subst e1; subst e2; subst e3;exact SK hp hl h1 h2
  | [],ha=>exact ha.elim
  | [_],ha=>exact ha.2.elim
  | [_,_],ha=>exact ha.2.2.elim
  | _::_::_::_::_,ha=>exact ha.2.2.2.elim
 ·cases hg
def St.row (s:St):List At:=[.c (u6 s.lo),.c (u6 s.hi),.c (u6 s.fr),.c (u6 s.gv)]
theorem Own.on {w w':World} {b:Nat} {l:List At} (h:Own w b l) (hb:Below w.heap.size w w'):Own w' b l :=
 ⟨Nat.lt_of_lt_of_le h.lt hb.size,fun j v hj=>(hb.cell (p:=⟨b,0+j,none⟩) h.lt).trans (h.row j v hj),fun j=>(hb.frozen (p:=⟨b,j,none⟩) h.lt).trans (h.free j)⟩
theorem Own.old {w:World} {b o:Nat} {l s:List At} (h:Own w b l) (hs:yC l o (dD s)=some s):oldOf w b o s:=by
 have:=dN h.row hs;rw[Nat.zero_add]at this;exact⟨h.lt,this⟩
theorem WrC.of_below {w w':World} {b:Nat} {l:List At} (h:Own w b l) (hb:Below w.heap.size w w') (hs:Shape w w'):WrC w w' b :=
 ⟨⟨hb.os,hb.tape,hb.output,hb.size,fun k hk=>hb.block k (Nat.lt_trans hk h.lt)⟩,fun p hp _=>⟨hb.cell hp,hb.frozen hp⟩,hs,(h.on hb).free⟩
theorem Holds.shape {nt base:Nat} {w0:World} {A:List Fact} {a:Act} {w:World} (h:Holds nt base w0 A a w):Shape w0 w:=by
 obtain⟨_,_,_,_,gt⟩:=h.facts;exact gt.shape
theorem oldOf.on {w w':World} {b o:Nat} {l:List At} (h:oldOf w b o l) (hb:Below w.heap.size w w'):oldOf w' b o l :=
 ⟨Nat.lt_of_lt_of_le h.1 hb.size,cZ hb h.1 h.2⟩
theorem oldOf.wr {w w':World} {b c o:Nat} {l:List At} (h:oldOf w b o l) (hb:WrC w w' c) (hne:b≠c):oldOf w' b o l :=
 ⟨Nat.lt_of_lt_of_le h.1 hb.below.size,fun j v hj=>((hb.mem ⟨b,o+j,none⟩ h.1 hne).1).trans (h.2 j v hj)⟩
theorem cU {a:Act} {s:Nat} {v:Value} (h:a.tmps[s]?=some v):a.eval (.tmp s)=v:=by simp[Act.eval,h]
noncomputable abbrev grF:Func:=f147
def nF:Code:=(f147.body).getD .skip
def gr2:Code:=cA (cB (cB nF))
def gr3:Code:=cB (cB (cB nF))
theorem Iu:nF=.seq (cA nF) (.seq (cA (cB nF)) (.seq (.region 2 (aD gr2) false) (.region 3 (aD gr3) true))):=by kernel_rfl
theorem aAE:grF.ntmps=47:=by kernel_rfl
def Mp (b1 b2:Nat):Value:=.func (.func 149) #[] #[ptV b1 0,ptV b2 0]
theorem aAD (w:World) (sb lo hi:Nat):bE prog { qG prog with x:=xO w (assoc [(8,0),(13,1)]) (fun _=>none) (assoc [(9,u6 lo),(14,u6 hi)]) } 47 (fun _=>tC T0 fun _=>none) 60 (cA nF) (fT 0 [.v (.im (ptV sb 0))]) [.slot 0 (.im (ptV sb 0)),.slot 2 (.pt 2 0),.row 2 true [.c (u6 lo)],.slot 3 (.pt 3 0),.row 3 true [.c (u6 hi)]]=some ([(0:Int)=Int.ofNat 0,0<2,oldOf w sb 0 [.c (u6 lo)],(1:Int)=Int.ofNat 1,1<2,oldOf w sb 1 [.c (u6 hi)]],.nrm,[.slot 0 (.im (ptV sb 0)),.slot 2 (.pt 2 0),.row 2 true [.c (u6 lo)],.slot 3 (.pt 3 0),.row 3 true [.c (u6 hi)]]):=by kernel_rfl
theorem aAC (sb b1 b2 lo hi:Nat):bE prog (qG prog) 47 (fun _=>tC T0 fun _=>none) 60 (cA (cB nF)) [.at 3 b2,.at 2 b1,.slot 0 (.im (ptV sb 0)),.slot 2 (.pt 2 0),.row 2 true [.c (u6 lo)],.slot 3 (.pt 3 0),.row 3 true [.c (u6 hi)]] [.slot 0 (.im (ptV sb 0)),.slot 4 (.im (Mp b1 b2)),.row 2 true [.c (u6 lo)],.row 3 true [.c (u6 hi)],.at 2 b1,.at 3 b2]=some ([],.nrm,[.slot 0 (.im (ptV sb 0)),.slot 4 (.im (Mp b1 b2)),.row 2 true [.c (u6 lo)],.row 3 true [.c (u6 hi)],.at 2 b1,.at 3 b2]):=by kernel_rfl
def gx1 (lo hi:Nat):Nat:=oN lo hi 62 ^^^ oN lo hi 51
def gx2 (lo hi:Nat):Nat:=gx1 lo hi ^^^ oN lo hi 38
def gx3 (lo hi:Nat):Nat:=gx2 lo hi ^^^ oN lo hi 23
def gx4 (lo hi:Nat):Nat:=gx3 lo hi ^^^ oN lo hi 13
def gx5 (lo hi:Nat):Nat:=gx4 lo hi ^^^ oN lo hi 0
def Us (b1 b2 lo hi:Nat):Tab:=T0.add 149 (gFr b1 b2 lo hi)
theorem aAB (w:World) (sb b1 b2 lo hi:Nat):eH prog { qG prog with x:=xO w (fun _=>none) (fun _=>none) (assoc [(21,u6 (gx1 lo hi)),(24,u6 (gx2 lo hi)),(27,u6 (gx3 lo hi)),(30,u6 (gx4 lo hi)),(33,u6 (gx5 lo hi)),(34,u6 (sW lo hi))]) } 47 (tC (Us b1 b2 lo hi) fun _=>none) ((aD gr2).extract 0 21) [.slot 0 (.im (ptV sb 0)),.slot 4 (.im (Mp b1 b2))] [.slot 34 (.im (u6 (sW lo hi))),.slot 36 (.im (ptV sb 2)),.slot 0 (.im (ptV sb 0)),.slot 4 (.im (Mp b1 b2))]
 = some ([62≤64,ptV b1 0=ptV b1 0,ptV b2 0=ptV b2 0,51≤64,ptV b1 0=ptV b1 0,ptV b2 0=ptV b2 0,gN .xor 22 (.tmp 18) (.tmp 20) (u6 (oN lo hi 62)) (u6 (oN lo hi 51)) (u6 (gx1 lo hi)),38≤64,ptV b1 0=ptV b1 0,ptV b2 0=ptV b2 0,gN .xor 22 (.tmp 21) (.tmp 23) (u6 (gx1 lo hi)) (u6 (oN lo hi 38)) (u6 (gx2 lo hi)),23≤64,ptV b1 0=ptV b1 0,ptV b2 0=ptV b2 0,gN .xor 22 (.tmp 24) (.tmp 26) (u6 (gx2 lo hi)) (u6 (oN lo hi 23)) (u6 (gx3 lo hi)),
  13≤64,ptV b1 0=ptV b1 0,ptV b2 0=ptV b2 0,gN .xor 22 (.tmp 27) (.tmp 29) (u6 (gx3 lo hi)) (u6 (oN lo hi 13)) (u6 (gx4 lo hi)),0≤64,ptV b1 0=ptV b1 0,ptV b2 0=ptV b2 0,gN .xor 22 (.tmp 30) (.tmp 32) (u6 (gx4 lo hi)) (u6 (oN lo hi 0)) (u6 (gx5 lo hi)),gN .and 22 (.tmp 33) (.const (u6 65535)) (u6 (gx5 lo hi)) (u6 65535) (u6 (sW lo hi))],[.slot 34 (.im (u6 (sW lo hi))),.slot 36 (.im (ptV sb 2)),.slot 0 (.im (ptV sb 0)),.slot 4 (.im (Mp b1 b2))]):=by kernel_rfl
theorem aAA (w:World) (sb b1 b2 lo hi:Nat):Pe prog { qG prog with x:=xO w (fun _=>none) (fun _=>none) (assoc [(43,u6 (sW lo hi))]) } 47 (tC (Us b1 b2 lo hi) fun _=>none) (aD gr3) [.slot 0 (.im (ptV sb 0)),.slot 4 (.im (Mp b1 b2))] [.slot 46 (.im (ptV sb 0)),.slot 44 (.fl [.c (u6 (oN lo hi 16)),.c (u6 (sW lo hi))])]
 = some ([16≤64,ptV b1 0=ptV b1 0,ptV b2 0=ptV b2 0,oldOf w sb 2 [.c (u6 (sW lo hi))]],[.slot 46 (.im (ptV sb 0)),.slot 44 (.fl [.c (u6 (oN lo hi 16)),.c (u6 (sW lo hi))])]):=by kernel_rfl
theorem Cx {w w':World} {b1 b2 lo hi:Nat} (hl:lo<dU) (h1:oldOf w b1 0 [.c (u6 lo)]) (h2:oldOf w b2 0 [.c (u6 hi)]):TabOkW prog (Us b1 b2 lo hi) w.heap.size w :=
 TabOkW.add ((bT _).w _ _) func149 (by kernel_rfl) (by kernel_rfl) (fun w' hw=>Se hl (h1.on hw) (h2.on hw))
theorem Ot:(prog.info? 22).map (·.size)=some 1:=by kernel_rfl
theorem Wu:(prog.info? 180).map (·.size)=some 2:=by kernel_rfl
theorem Ah {s:St} (hs:s.ok):Nf prog 147 s.row 0 [] (.many []) s.grow.row:=by
 intro w0 sb hO;obtain⟨lo,hi,fr,gv⟩:=s;obtain⟨h1,h2,h3,h4⟩:=hs;simp only at h1 h2 h3 h4;have hT:∀base w,∀n d:Nat,TabOkW prog T0 base w:=fun _ _ _ _=>(bT _).w _ _
 have hG:∀base w,bO prog (qG prog) base w:=fun _ _=>(aW _).w _ _
 have hnt:f147.ntmps=47:=aAE;refine cQ func147 (cs:=[.v (.im (ptV sb 0))]) (args:=[ptV sb 0]) (c:=nF) rfl ⟨rfl,trivial⟩ (Nat.le_of_ble_eq_true (by kernel_rfl)) fun a w hA => ?_
 rw[hnt]at hA;rw[Iu];have o1:oldOf w0 sb 0 [At.c (u6 lo)]:=hO.old rfl;have o2:oldOf w0 sb 1 [At.c (u6 hi)]:=hO.old rfl;refine wp_seq (aB aI (hT _ _) (eK w0 _ _ _) (aAD w0 sb lo hi) ⟨rfl,by decide,o1,rfl,by decide,o2,trivial⟩ hA fun a w hA => ?_);obtain⟨b1,hA⟩:=hA.at (k:=2) (l:=[.c (u6 lo)]) (by simp);obtain⟨b2,hA⟩:=hA.at (k:=3) (l:=[.c (u6 hi)]) (by simp);refine wp_seq (aB aI (hT _ _) (hG _ _) (aAC sb b1 b2 lo hi) trivial hA fun a w1 hA => ?_);have q1:oldOf w1 b1 0 [.c (u6 lo)]:=hA.old (k:=2) (by simp) (by simp);have q2:oldOf w1 b2 0 [.c (u6 hi)]:=hA.old (k:=3) (by simp) (by simp);have hge:w0.heap.size≤b1∧w0.heap.size≤b2:=by
  obtain⟨β,g1,_⟩:=hA.facts;obtain⟨_,_,r1,_⟩:=g1 (.row 2 true [.c (u6 lo)]) (by simp);obtain⟨_,_,r2,_⟩:=g1 (.row 3 true [.c (u6 hi)]) (by simp);have e1:=g1 (.at 2 b1) (by simp);have e2:=g1 (.at 3 b2) (by simp);simp only[Fact.ok]at e1 e2;exact⟨e1.1▸(r1 rfl).1,e2.1▸(r2 rfl).1⟩
 have n1:b1≠sb:=fun e=>by have:=hO.lt; omega
 have n2:b2≠sb:=fun e=>by have:=hO.lt; omega
 have hO1:=hO.on hA.below;have hW1:WrC w0 w1 sb:=WrC.of_below hO hA.below hA.shape;have hS:=bB (nt:=47) (w:=w1) (a:=a) (ts:=[(0,ptV sb 0),(4,Mp b1 b2)]) hA.defers hA.size (fun x hx=>by
  simp only[List.mem_cons,List.not_mem_nil,or_false]at hx
  rcases hx with rfl|rfl
  ·exact hA.slot (by simp)
  ·exact hA.slot (by simp))
 clear hA;have T1:∀d:Nat,TabOkW prog (Us b1 b2 lo hi) w1.heap.size w1:=fun _=>Cx (w':=w1) h1 q1 q2
 have y62:=lZ (hi:=hi) (p:=62) h1;have yx:∀p,oN lo hi p<dU:=fun p=>lZ h1
 have z1:gx1 lo hi<dU:=xF (yx _) (yx _);have z2:gx2 lo hi<dU:=xF z1 (yx _);have z3:gx3 lo hi<dU:=xF z2 (yx _);have z4:gx4 lo hi<dU:=xF z3 (yx _);have z5:gx5 lo hi<dU:=xF z4 (yx _);refine wp_seq (bQ (l:=List.range' 0 ((aD gr2).extract 0 21).size++(21::[])) (by kernel_rfl) ?_);refine aU (c:=tC (Us b1 b2 lo hi) _) T1 (eK w1 _ _ _) (aAB w1 sb b1 b2 lo hi) ⟨by decide,rfl,rfl,by decide,rfl,rfl,uS _ _ _ (yx _) (yx _),by decide,rfl,rfl,uS _ _ _ z1 (yx _),by decide,rfl,rfl,uS _ _ _ z2 (yx _),by decide,rfl,rfl,uS _ _ _ z3 (yx _),by decide,rfl,rfl,uS _ _ _ z4 (yx _),AE _ _ _ z5 (by decide),trivial⟩ (by kernel_rfl) hS fun a w2 h2' => ?_
 obtain⟨o21,ho21,hop21,hd21,hg21⟩:∃x,(aD gr2)[21]?=some x∧x.op=.store 22 (.tmp 36) (.tmp 34)∧x.dst=none∧x.guard=none:=⟨_,rfl,rfl,rfl,rfl⟩
 have hO2:=hO1.on h2'.below;have hp2:put (St.row ⟨lo,hi,fr,gv⟩) 2 [At.c (u6 (sW lo hi))]=some (St.row ⟨lo,hi,sW lo hi,gv⟩):=rfl;obtain⟨hO3,hW3⟩:=hO2.set hp2;refine bM ho21 hg21 (eT (v:=u6 (sW lo hi)) (vs:=aA [At.c (u6 (sW lo hi))]) hop21 hd21 (h2'.imV (s:=36) (v:=ptV sb 2) (by simp)) (h2'.imV (s:=34) (by simp)) rfl rfl Ot (hO2.there (o:=2) (n:=1) (Nat.le_of_ble_eq_true rfl)) ?_);have hW13:WrC w1 (w2.setCells sb 2 (aA [At.c (u6 (sW lo hi))])) sb:=(WrC.of_below hO1 h2'.below h2'.shape).trans hW3;have hS3:=bB (nt:=47) (w:=w2.setCells sb 2 (aA [At.c (u6 (sW lo hi))])) (a:=a) (ts:=[(0,ptV sb 0),(4,Mp b1 b2)]) h2'.defers h2'.size (fun x hx=>by
  simp only[List.mem_cons,List.not_mem_nil,or_false]at hx
  rcases hx with rfl|rfl
  ·exact h2'.slot (by simp)
  ·exact h2'.slot (by simp))
 clear h2';generalize w2.setCells sb 2 (aA [At.c (u6 (sW lo hi))])=w3 at *;have r1:=q1.wr hW13 n1;have r2:=q2.wr hW13 n2;have T3:∀d:Nat,TabOkW prog (Us b1 b2 lo hi) w3.heap.size w3:=fun _=>Cx (w':=w3) h1 r1 r2
 have o3:oldOf w3 sb 2 [At.c (u6 (sW lo hi))]:=hO3.old rfl;show (Code.region 3 (aD gr3) true).wp _ _ _ _;obtain⟨ol,hol,hopl,hdl⟩:∃x,(aD gr3)[(aD gr3).size-1]?=some x∧x.op=.store 180 (.tmp 46) (.tmp 44)∧x.dst=none:=⟨_,rfl,rfl,rfl⟩
 refine JU (c:=tC (Us b1 b2 lo hi) _) aI T3 (eK w3 _ _ _) (aAA w3 sb b1 b2 lo hi) ⟨by decide,rfl,rfl,o3,trivial⟩ (by kernel_rfl) hol hS3 fun a w4 h4' => ?_
 have hO4:=hO3.on h4'.below;have hp4:put (St.row ⟨lo,hi,sW lo hi,gv⟩) 0 [At.c (u6 (oN lo hi 16)),At.c (u6 (sW lo hi))]=some (St.row ⟨oN lo hi 16,sW lo hi,sW lo hi,gv⟩):=rfl;obtain⟨hO5,hW5⟩:=hO4.set hp4;refine eT (v:=.agg (aA [At.c (u6 (oN lo hi 16)),At.c (u6 (sW lo hi))]).toArray) (vs:=aA [At.c (u6 (oN lo hi 16)),At.c (u6 (sW lo hi))]) hopl hdl (h4'.imV (s:=46) (v:=ptV sb 0) (by simp)) (cU (h4'.slotF (s:=44) (by simp))) rfl rfl Wu (hO4.there (o:=0) (n:=2) (Nat.le_of_ble_eq_true rfl)) ?_;have hW:WrC w0 (w4.setCells sb 0 (aA [At.c (u6 (oN lo hi 16)),At.c (u6 (sW lo hi))])) sb:=hW1.trans (hW13.trans ((WrC.of_below hO3 h4'.below h4'.shape).trans hW5));exact⟨h4'.defers,.tuple #[],by simp[results,show f147.results = #[] by kernel_rfl],rfl,hW,hO5.row⟩
def UD:Tab:=(((T0.add 121 (Dn gS)).add 115 (Dn bK)).add 102 Jj).add 69 Iz
theorem FE:TabOk prog UD:=((((bT _).add func121 (by kernel_rfl) (by kernel_rfl) Lz).add func115 (by kernel_rfl) (by kernel_rfl) Ly).add func102 (by kernel_rfl) (by kernel_rfl) OG).add func69 (by kernel_rfl) (by kernel_rfl) Pg
theorem QP (x y:Nat):nG prog UD (qG prog) (fun _=>true) f111 40 [.v (.fl [.q x]),.v (.fl [.q y])]=some ([x<RM,y<RM],.one (.fl [.q (gS x y)])):=by kernel_rfl
theorem JO (x y:Nat):nG prog UD (qG prog) (fun _=>true) f143 40 [.v (.fl [.q x]),.v (.fl [.q y])]=some ([x<RM,y<RM],.one (.fl [.q (bK x y)])):=by kernel_rfl
def Uv:Tab:=(UD.add 111 (Mn gS Mv)).add 143 (Mn bK Mv)
theorem Md:TabOk prog Uv:=(FE.add func111 (by kernel_rfl) (by kernel_rfl) (sV fun x y h args w ha=>cG aI FE (aW _) func111 (QP x y) h ha)).add
 func143 (by kernel_rfl) (by kernel_rfl) (sV fun x y h args w ha=>cG aI FE (aW _) func143 (JO x y) h ha)
theorem Fs (x:Nat):nG prog Uv (qG prog) (fun _=>true) f126 40 [.v (.fl [.q x])]=some ([x<RM,x<RM,bK x x<RM,bK x x<RM,bK (bK x x) (bK x x)<RM,x<RM],.one (.fl [.q (Jo x)])):=by kernel_rfl
def UC:Tab:=Uv.add 126 (Sf Jo fun x=>[x<RM])
theorem FB:TabOk prog UC:=Md.add func126 (by kernel_rfl) (by kernel_rfl) (vZ fun x h args w ha=>cG aI Md (aW _) func126 (Fs x) ⟨h.1,h.1,aK _ _,aK _ _,aK _ _,h.1,trivial⟩ ha)
def iE:Code:=(f84.body).getD .skip
def rV:Code:=kD (kD (cB (cA (cB iE))))
theorem Co:iE=.seq (cA iE) (.seq (.seq (cA (cA (cB iE))) (.block 0 (.loop rV))) (cB (cB iE))):=by kernel_rfl
def Vp (num:Nat→Option Value) (_:Nat):Cfg:=⟨fun _=>UC,fun _=>true,num⟩
theorem Ul (v:Value):bE prog (qG prog) f84.ntmps (Vp fun _=>none) 40 (cA iE) (fT 0 [.v (.im v)]) [.slot 0 (.im v)]=some ([],.nrm,[.slot 0 (.im v)]):=by kernel_rfl
theorem Uk (p:Option Addr) (N m:Nat):bE prog (qG prog) f84.ntmps (Vp fun _=>none) 40 (cA (cA (cB iE))) [.slot 0 (.im (.slice p N m))] (NF (.slice p N m) N 0)=some ([],.nrm,NF (.slice p N m) N 0):=by kernel_rfl
theorem Um (w:World) (b o N m i x:Nat):bE prog { qG prog with x:=xO w (assoc [(9,i)]) (assoc [(10,[.q x])]) (fun _=>none) } f84.ntmps (Vp (assoc [(8,.bool true),(13,.bool false),(14,iI (i+1))])) 40 rV (NF (aV b o N m) N i) (NF (aV b o N m) N (i+1))=some ([aN .lss .i64 (Int.ofNat i) (Int.ofNat N)=some (.bool true),Int.ofNat i=Int.ofNat i,i<N,oldOf w b (o+i*4) [.q x],dD [.q x]=4,x<aF,aN .neq .i64 (TG x) 0=some (.bool false),aN .add .i64 (Int.ofNat i) 1=some (iI (i+1))],.nrm,NF (aV b o N m) N (i+1)):=by kernel_rfl
theorem Uo (w:World) (b o N m i x:Nat):bE prog { qG prog with x:=xO w (assoc [(9,i)]) (assoc [(10,[.q x])]) (fun _=>none) } f84.ntmps (Vp (assoc [(8,.bool true),(13,.bool true)])) 40 rV (NF (aV b o N m) N i) [.slot 2 (.im (.bool false))]=some ([aN .lss .i64 (Int.ofNat i) (Int.ofNat N)=some (.bool true),Int.ofNat i=Int.ofNat i,i<N,oldOf w b (o+i*4) [.q x],dD [.q x]=4,x<aF,aN .neq .i64 (TG x) 0=some (.bool true)],.rt,[.slot 2 (.im (.bool false))]):=by kernel_rfl
theorem Kw (v:Value) (N i:Nat):bE prog (qG prog) f84.ntmps (Vp (assoc [(8,.bool false)])) 40 rV (NF v N i) (NF v N i)=some ([aN .lss .i64 (Int.ofNat i) (Int.ofNat N)=some (.bool false)],.ex 0,NF v N i):=by kernel_rfl
theorem Cn (v:Value) (N i:Nat):bE prog (qG prog) f84.ntmps (Vp fun _=>none) 40 (cB (cB iE)) (NF v N i) [.slot 2 (.im (.bool true))]=some ([],.rt,[.slot 2 (.im (.bool true))]):=by kernel_rfl
theorem IK {w0:World} {b o N m i:Nat} {f:Nat→Nat} (hb:b<w0.heap.size) (hr:w0.rangeAt b o (aA (bP (el f) 0 N))) (hN:N≤4611686018427387904) (hi:i<N) (hx:f i<aF) (h:f i<RM):Ok prog w0.heap.size w0 f84.ntmps rV (NF (aV b o N m) N i) .nrm (NF (aV b o N m) N (i+1)) :=
 ⟨_,_,_,_,eK w0 _ _ _,fun _ _=>FB.w _ _,Um w0 b o N m i (f i),fB hi,rfl,hi,mW hb hr hi,rfl,hx,BZ h,gM (k:=1) (by omega),trivial⟩
theorem zE {w0:World} {v:Value} {N:Nat} {f:Nat→Nat} (hv:LV w0 v N f) (hN:N≤4611686018427387904):bD prog 84 (.one (.im (.bool (decide (oU N f))))) [v] w0:=by
 obtain⟨p,m,rfl,hm,h256,hmem⟩:=hv;have hG:bO prog (qG prog) w0.heap.size w0:=(aW _).w _ _;have hT:∀n d:Nat,TabOkW prog UC w0.heap.size w0:=fun _ _=>FB.w _ _
 refine cQ func84 (cs:=[.v (.im (.slice p N m))]) (args:=[.slice p N m]) (c:=iE) rfl ⟨rfl,trivial⟩ (Nat.le_of_ble_eq_true (by kernel_rfl)) fun a w' hA => ?_
 rw[Co];refine wp_seq (aB aI hT hG (Ul _) trivial hA fun a w' hA => ?_);refine wp_seq (wp_seq (aB aI hT hG (Uk p N m) trivial hA fun a w' hA => ?_));refine wp_block ?_;have fin:∀(P Q:Exit→Act→World→Prop) e a w,P e a w→(∀e a w,P e a w→Q e a w)→Q e a w:=fun P Q e a w h k=>k e a w h
 by_cases h:oU N f
 ·rw[decide_eq_true h];refine kE aI (fun i=>NF (.slice p N m) N i) N (fun i hi => ?_) (.ex 0) (by simp) (NF (.slice p N m) N N) ⟨_,_,_,_,hG,hT,Kw _ N N,dS (Nat.le_refl _),trivial⟩ hA fun a w hA => ?_
  ·obtain⟨b,o,rfl,hb,hr⟩:=hmem (by omega);exact IK hb hr hN hi (h256 i hi) (h i hi)
  ·show (cB (cB iE)).wp _ _ _ _;exact aB aI hT hG (Cn _ N N) trivial hA fun a w' hA=>rK (l:=[.im (.bool true)]) (r:=.one (.im (.bool true))) (by kernel_rfl) (by kernel_rfl) hA
 ·rw[decide_eq_false h];obtain⟨j,hj,h1,h2⟩:=SN (p:=fun j=>f j<RM) h;obtain⟨b,o,rfl,hb,hr⟩:=hmem (by omega);refine kE aI (fun i=>NF (aV b o N m) N i) j (fun i hi=>IK hb hr hN (by omega) (h256 i (by omega)) (h1 i hi)) .rt (by simp) [.slot 2 (.im (.bool false))] ⟨_,_,_,_,eK w0 _ _ _,hT,Uo w0 b o N m j (f j),fB hj,rfl,hj,mW hb hr hj,rfl,h256 j hj,CC h2,trivial⟩ hA fun a w hA => ?_
  exact rK (l:=[.im (.bool false)]) (r:=.one (.im (.bool false))) (by kernel_rfl) (by kernel_rfl) hA
open Go.RowKit Go.Shelf
def Wj:Go.Shelf.Ren:=⟨fun|29=>150|n=>n,fun|0=>0|3=>3|4=>4|5=>5|22=>22|25=>139|54=>193|n=>n,fun|1=>2|n=>n⟩
theorem Nz:Lays7.n29 prog Wj:={
 mixed:=by kernel_rfl
 f29:=func150.trans (congrArg some (by kernel_rfl))
 t0:=underlying0
 a0:=Tryz.isAgg0
 z0:=Tryz.sizeOf0
 v0:=Tryz.zeroValue0
 i0:=by kernel_rfl
 t3:=underlying3
 a3:=Tryz.isAgg3
 z3:=Tryz.sizeOf3
 v3:=Tryz.zeroValue3
 i3:=by kernel_rfl
 t4:=underlying4
 a4:=Tryz.isAgg4
 z4:=Tryz.sizeOf4
 v4:=Tryz.zeroValue4
 i4:=by kernel_rfl
 t5:=underlying5
 a5:=Tryz.isAgg5
 z5:=Tryz.sizeOf5
 v5:=Tryz.zeroValue5
 i5:=by kernel_rfl
 t22:=underlying22
 a22:=Tryz.isAgg22
 z22:=Tryz.sizeOf22
 v22:=Tryz.zeroValue22
 i22:=by kernel_rfl
 t25:=underlying139
 a25:=Tryz.isAgg139
 z25:=Tryz.sizeOf139
 v25:=Tryz.zeroValue139
 i25:=by kernel_rfl
 t54:=underlying193
 a54:=Tryz.isAgg193
 z54:=Tryz.sizeOf193
 g1:=by kernel_rfl }
def Dbj (w:World):Prop:=Go.Proofs.TabAt 2 Lib.deBruijn64tab w
theorem Dbj.lt {w:World} (h:Dbj w):2<w.heap.size:=by
 have:=h 0 (by decide)
 rcases Nat.lt_or_ge 2 w.heap.size with q|q
 ·exact q
 ·have h2:w.cell? ⟨2,0,none⟩=none:=by
   unfold World.cell?;simp[Array.getElem?_eq_none_iff.2 q]
  rw[h2]at this; cases this
theorem Dbj.on {w w':World} {base:Nat} (h:Dbj w) (hB:2<base) (hb:Below base w w'):Dbj w':=fun j hj=>(hb.cell (p:=⟨2,j,none⟩) hB).trans (h j hj)
theorem VF {x:Nat} (hx:x<dU) {w:World} (h:Dbj w):bD prog 150 (.one (.im (iI (tz x)))) [u6 x] w:=by
 refine (Any7.bits_TrailingZeros64 Nz x hx w fun _=>h).mono ?_
 rintro e w' ⟨rfl,rfl⟩
 exact⟨rfl,Below.refl _ _⟩
def gTz:gE
 | [.v (.im (.int .u64 (.ofNat x)))]=>some ([x<dU],.one (.im (iI (tz x))))
 | _=>none
theorem Ru {w:World} (h:Dbj w):∀cs pre r,gTz cs=some (pre,r)→aT pre→∀(args:List Value),cD w cs args→bD prog 150 r args w:=by
 intro cs pre r hg hp args ha;unfold gTz at hg;split at hg
 ·rename_i x;cases hg
  match args,ha with
  | [u],ha =>
   have h1:u=.int .u64 (Int.ofNat x):=ha.1;subst h1;exact VF hp.1 h
  | [],ha=>exact ha.elim
  | _::_::_,ha=>exact ha.2.elim
 ·cases hg
def Ut:Tab:=T0.add 150 gTz
theorem Wi {w:World} {base:Nat} (h:Dbj w) (hB:2<base):TabOkW prog Ut base w :=
 TabOkW.add ((bT _).w _ _) func150 (by kernel_rfl) (by kernel_rfl) (fun w' hw=>Ru (h.on hB hw))
noncomputable abbrev wdF:Func:=f148
def iL:Code:=(f148.body).getD .skip
def fN:Code:=kD (kD (cB (cA (cB (cB iL)))))
def wdB:Code:=kD (cA (cB (cB fN)))
def NR:Code:=kD (kD (cA wdB))
theorem Eb:iL=.seq (cA iL) (.seq (cA (cB iL)) (.seq (.seq (cA (cA (cB (cB iL)))) (.block 0 (.loop fN))) (cB (cB (cB iL))))):=by kernel_rfl
theorem Dz:fN=.seq (cA fN) (.seq (cA (cB fN)) (.seq (.block 1 (.seq (.block 2 (.loop NR)) (cB wdB))) (cB (cB (cB fN))))):=by kernel_rfl
theorem We:wdF.ntmps=55:=by kernel_rfl
def wA (N sb C a:Nat) (s:St):List Fact:=[.slot 0 (.pt 0 0),.row 0 true s.row,.at 0 sb,.at 55 N,.slot 1 (.im (iI C)),.slot 5 (.im (u6 a))]
def wF (N sb C i a:Nat) (s:St):List Fact:=[.slot 0 (.pt 0 0),.row 0 true s.row,.at 0 sb,.at 55 N,.slot 5 (.im (u6 a)),.slot 7 (.im (iI C)),.slot 8 (.im (iI i))]
def qW (gen:Nat→Option Value) (T5:Tab5):EqT:=Va prog (fun _=>none) (fun _=>none) (fun _=>none) gen T5
theorem Wc (N sb C:Nat) (s:St):bE prog (qW (fun _=>none) kI) 55 (fun _=>tC T0 fun _=>none) 60 (cA iL) (NA 55 sb N 0 s.row [.im (iI C)]) (NA 55 sb N 0 s.row [.im (iI C)])=some ([],.nrm,NA 55 sb N 0 s.row [.im (iI C)]):=by kernel_rfl
theorem Wb (N sb C:Nat) (s:St):bE prog (qW (fun _=>none) kI) 55 (fun _=>tC T0 fun _=>none) 60 (cA (cB iL)) (NA 55 sb N 0 s.row [.im (iI C)]) (wA N sb C 0 s)=some ([],.nrm,wA N sb C 0 s):=by kernel_rfl
theorem Wa (N sb C a:Nat) (s:St):bE prog (qW (fun _=>none) kI) 55 (fun _=>tC T0 fun _=>none) 60 (cA (cA (cB (cB iL)))) (wA N sb C a s) (wF N sb C 0 a s)=some ([],.nrm,wF N sb C 0 a s):=by kernel_rfl
theorem Wh (N sb C i a:Nat) (s:St):bE prog (qW (fun _=>none) kI) 55 (fun _=>tC T0 (assoc [(9,.bool true)])) 60 (cA fN) (wF N sb C i a s) (.slot 9 (.im (.bool true))::wF N sb C i a s)=some ([aN .lss .i64 (Int.ofNat i) (Int.ofNat C)=some (.bool true)],.nrm,.slot 9 (.im (.bool true))::wF N sb C i a s):=by kernel_rfl
theorem Nv (N sb C i a:Nat) (s:St):bE prog (qW (fun _=>none) kI) 55 (fun _=>tC T0 fun _=>none) 60 (cA (cB fN)) (.slot 9 (.im (.bool true))::wF N sb C i a s) (wF N sb C i a s)=some ([],.nrm,wF N sb C i a s):=by kernel_rfl
theorem aDN (N sb C i a:Nat) (s:St):bE prog (qW (fun _=>none) kI) 55 (fun _=>tC T0 (assoc [(9,.bool false)])) 60 (cA fN) (wF N sb C i a s) (.slot 9 (.im (.bool false))::wF N sb C i a s)=some ([aN .lss .i64 (Int.ofNat i) (Int.ofNat C)=some (.bool false)],.nrm,.slot 9 (.im (.bool false))::wF N sb C i a s):=by kernel_rfl
theorem Vz (N sb C i a:Nat) (s:St):bE prog (qW (fun _=>none) kI) 55 (fun _=>tC T0 fun _=>none) 60 (cA (cB fN)) (.slot 9 (.im (.bool false))::wF N sb C i a s) (wF N sb C i a s)=some ([],.ex 0,wF N sb C i a s):=by kernel_rfl
def Ux (s:St):Tab5:=kI.add 147 (Vc s.row 0 (.many []) s.grow.row)
theorem Wg (N sb C i a:Nat) (s:St):bE prog (qW (assoc [(22,u6 (s.grow.fr &&& 21845))]) (Ux s)) 55 (fun _=>tC T0 (assoc [(14,.bool true)])) 60 NR (wF N sb C i a s) (wF N sb C i a s.J)=some ([aN .eql .u64 (Int.ofNat s.gv) 0=some (.bool true),s.row=s.row,0=0,gN .and 22 (.tmp 21) (.const (u6 21845)) (u6 s.grow.fr) (u6 21845) (u6 (s.grow.fr &&& 21845))],.nrm,wF N sb C i a s.J):=by kernel_rfl
theorem Wf (N sb C i a:Nat) (s:St):bE prog (qW (fun _=>none) kI) 55 (fun _=>tC T0 (assoc [(14,.bool false)])) 60 NR (wF N sb C i a s) (wF N sb C i a s)=some ([aN .eql .u64 (Int.ofNat s.gv) 0=some (.bool false)],.ex 2,wF N sb C i a s):=by kernel_rfl
theorem Nw (N sb C i a:Nat) (s:St):bE prog (qW (assoc [(39,u6 (s.gv &&& (s.gv-1))),(43,u6 (a*2^1%dU)),(50,u6 (s.fr/2^(tz s.gv+1))),(51,u6 s.bit),(52,u6 (Lb a s.bit))]) kI) 55 (fun _=>tC Ut (assoc [(38,u6 (s.gv-1)),(49,iI (tz s.gv+1))])) 60 (cB wdB) (wF N sb C i a s) (wF N sb C i (Lb a s.bit) s.next)
 = some ([s.gv<dU,aN .sub .u64 (Int.ofNat s.gv) 1=some (u6 (s.gv-1)),gN .and 22 (.tmp 33) (.tmp 38) (u6 s.gv) (u6 (s.gv-1)) (u6 (s.gv &&& (s.gv-1))),gN .shl 22 (.tmp 42) (.const (u6 1)) (u6 a) (u6 1) (u6 (a*2^1%dU)),aN .add .i64 (Int.ofNat (tz s.gv)) 1=some (iI (tz s.gv+1)),gN .shr 22 (.tmp 47) (.tmp 49) (u6 s.fr) (iI (tz s.gv+1)) (u6 (s.fr/2^(tz s.gv+1))),gN .and 22 (.tmp 50) (.const (u6 1)) (u6 (s.fr/2^(tz s.gv+1))) (u6 1) (u6 s.bit),gN .or 22 (.tmp 43) (.tmp 51) (u6 (a*2^1%dU)) (u6 s.bit) (u6 (Lb a s.bit))],.nrm,wF N sb C i (Lb a s.bit) s.next):=by kernel_rfl
theorem Wd (N sb C i a:Nat) (s:St):bE prog (qW (fun _=>none) kI) 55 (fun _=>tC T0 (assoc [(53,iI (i+1))])) 60 (cB (cB (cB fN))) (wF N sb C i a s) (wF N sb C (i+1) a s)=some ([aN .add .i64 (Int.ofNat i) 1=some (iI (i+1))],.nrm,wF N sb C (i+1) a s):=by kernel_rfl
theorem Ea (N sb C i a:Nat) (s:St):bE prog (qW (fun _=>none) kI) 55 (fun _=>tC T0 fun _=>none) 60 (cB (cB (cB iL))) (wF N sb C i a s) [.slot 4 (.im (u6 a)),.row 0 true s.row,.at 0 sb,.at 55 N]=some ([],.rt,[.slot 4 (.im (u6 a)),.row 0 true s.row,.at 0 sb,.at 55 N]):=by kernel_rfl
theorem QG {s:St} (hs:s.ok):PtOk prog (Ux s):=(nU _).add func147 (by kernel_rfl) (by kernel_rfl) (Qe (Ah hs))
theorem aFq:aN .eql .u64 (Int.ofNat 0) 0=some (.bool true):=rfl
theorem aFr {n:Nat} (h:n≠0):aN .eql .u64 (Int.ofNat n) 0=some (.bool false):=by
 show some (Value.bool (Int.ofNat n==0))=_;rw[show (Int.ofNat n==0)=false by rw[beq_eq_false_iff_ne]; intro e; exact h (by simpa using e)]
theorem Fg {n:Nat} (h:n≠0) (hn:n<dU):aN .sub .u64 (Int.ofNat n) 1=some (u6 (n-1)):=by
 show some (Value.int .u64 (IntKind.u64.wrap ((n:Int)-1)))=_;have:IntKind.u64.wrap ((n:Int)-1)=((n-1:Nat):Int):=by rw[IntKind.wrap_u64]; unfold dU at hn; omega
 rw[this]; rfl
theorem VA {s t:St} {C v:Nat} (hs:s.ok) (hC:C<4611686018427387904) (hw:xC C s 0=some (v,t)) {w0:World} {sb:Nat} (hD:Dbj w0) (hg:2<sb) (hO:Own w0 sb s.row) :
  Calls prog 148 (ptV sb 0::[iI C]).toArray w0 (Wr sb w0 (.one (.im (u6 v))) t.row):=by
 have hT:∀n d:Nat,TabOkW prog T0 sb w0:=fun _ _=>(bT _).w _ _
 have hZ:∀n d:Nat,TabOkW prog Ut sb w0:=fun _ _=>Wi hD hg
 have hq:∀gen,bO prog (qW gen kI) sb w0:=fun gen=>mQ (nU _) _ _
 have hnt:f148.ntmps=55:=We;refine sX (ts:=[.im (iI C)]) func148 (c:=iL) rfl hO (Nat.le_of_ble_eq_true (by kernel_rfl)) fun a w hA => ?_
 rw[hnt]at hA;rw[Eb];refine wp_seq (aB aI hT (hq _) (Wc w0.heap.size sb C s) trivial hA fun a w hA => ?_);refine wp_seq (aB aI hT (hq _) (Wb w0.heap.size sb C s) trivial hA fun a w hA => ?_);refine wp_seq (wp_seq (aB aI hT (hq _) (Wa w0.heap.size sb C 0 s) trivial hA fun a w hA => ?_));refine wp_block ?_;refine dV (n:=C+1) ?_;have wl:∀Q a w,(Code.seq (cA fN) (.seq (cA (cB fN)) (.seq (.block 1 (.seq (.block 2 (.loop NR)) (cB wdB))) (cB (cB (cB fN)))))).wp prog Q a w→fN.wp prog Q a w:=fun Q a w h=>by rw[Dz]; exact h
 have key:∀m i (s:St) (ac:Nat) a w,i+m=C→s.ok→ac<dU→xC m s ac=some (v,t)→Holds 55 sb w0 (wF w0.heap.size sb C i ac s) a w→Un prog fN (Exit.inBlock 0 (Exit.then ((cB (cB (cB iL))).wp prog (bodyPost prog f148 (Wr sb w0 (.one (.im (u6 v))) t.row))) (bodyPost prog f148 (Wr sb w0 (.one (.im (u6 v))) t.row)))) (m+1) a w:=by
  intro m
  induction m with
  | zero =>
   intro i s ac a w hi hs ha hw hA;cases hw;unfold Un;refine wl _ _ _ (wp_seq (aB aI hT (hq _) (aDN w0.heap.size sb C i v t) ⟨dS (by omega),trivial⟩ hA fun a w hA => ?_));refine wp_seq (aB aI hT (hq _) (Vz w0.heap.size sb C i v t) trivial hA fun a w hA => ?_);simp only[EA.out,Exit.then,Exit.inBlock,if_true];refine aB aI hT (hq _) (Ea w0.heap.size sb C i v t) trivial hA fun a w hA => ?_
   exact cT (l:=[.im (u6 v)]) (r:=.one (.im (u6 v))) (by kernel_rfl) (by kernel_rfl) hA ⟨rfl,hA.wrc (by simp) (by simp) (by simp)⟩
  | succ m ih =>
   intro i s ac a w hi hs ha hw hA;unfold xC at hw;cases hin:ZX 40 s with
   | none=>rw[hin]at hw; cases hw
   | some u =>
    rw[hin]at hw;simp only at hw;have hu:=LF hs hin;obtain⟨k,hk,hne,h0⟩:=rE 40 s u hin;unfold Un;refine wl _ _ _ (wp_seq (aB aI hT (hq _) (Wh w0.heap.size sb C i ac s) ⟨fB (by omega),trivial⟩ hA fun a w hA => ?_));refine wp_seq (aB aI hT (hq _) (Nv w0.heap.size sb C i ac s) trivial hA fun a w hA => ?_);refine wp_seq (wp_block (wp_seq (wp_block ?_)));refine kE aI (fun j=>wF w0.heap.size sb C i ac (Ji j s)) k (fun j hj => ?_) (.ex 2) (by simp) (wF w0.heap.size sb C i ac (Ji k s)) ⟨_,_,_,_,hq _,hT,Wf w0.heap.size sb C i ac (Ji k s),aFr (by rw[hk]; exact hne),trivial⟩ hA fun a w hA => ?_
    ·have hj0:=h0 j hj;have hjo:=De j hs;exact⟨_,_,_,_,mQ (QG hjo) _ _,hT,Wg w0.heap.size sb C i ac (Ji j s),by rw[hj0]; exact aFq,rfl,rfl,AE _ _ _ hjo.grow.fr (by decide),trivial⟩
    ·rw[hk]at hA;simp only[EA.out,Exit.then,Exit.inBlock,if_true];refine aB aI hZ (hq _) (Nw w0.heap.size sb C i ac u) ⟨hu.gv,Fg hne hu.gv,AE _ _ _ hu.gv (by have:=hu.gv; omega),Fh _ _ _ _ (by omega),gM (k:=1) (by have:=Lq hne hu.gv; omega),WJ _ _ _ _ (by have:=Lq hne hu.gv; omega),AE _ _ _ (Kc hu.fr) (by decide),WL _ _ _ (YT _) (MS hu),trivial⟩ hA fun a w hA => ?_
     simp only[EA.out,Exit.then,Exit.inBlock,if_true];refine aB aI hT (hq _) (Wd w0.heap.size sb C i (Lb ac u.bit) u.next) ⟨gM (k:=1) (by omega),trivial⟩ hA fun a w hA => ?_
     exact ih (i+1) u.next (Lb ac u.bit) a w (by omega) hu.next (Cv hu) hw hA
 exact key C 0 s 0 a w (by omega) hs (by decide) hw hA
def Ll (P:Program) (T:Tab5) (base:Nat) (w:World):Prop:=∀f cs pre j r l,T f cs=some (pre,j,r,l)→aT pre→(∀args w,(callFunc f args).run P w=.ok (.enter f args) w) ∧
 ∀(args:List Value),cD w cs args→∀b o,args[j]?=some (.pointer (some ⟨b,o,none⟩))→(∀q,w.frozen? ⟨b,q,none⟩=false)→base≤b→Calls P f args.toArray w (fun e w'=>e=.returned r.den∧WrC w w' b∧w'.rangeAt b 0 (aA l))
theorem WU {P:Program} {ld st:Nat→Option (List At)} {idx:Nat→Option Nat} {gen:Nat→Option Value} {T5:Tab5} {base:Nat} {w0:World} (h5:∀w',Below base w0 w'→Ll P T5 base w'):bO P (Va P ld st idx gen T5) base w0 :=
 ⟨(aW P).1,fun w' hb=>⟨fun _ _ _ h=>h.elim,fun _ _ _ _ h=>(by cases h),fun _ _ _ _ h=>(by cases h),fun _ _ _ _ _ h=>(by cases h),fun f cs pre j r l hg hp=>h5 w' hb f cs pre j r l hg hp,fun _ _ _ _ _ _ _ h=>(by cases h)⟩⟩
def zI (f:Nat) (g:List CA→Option (List Prop×Nat×RV×List At)):Tab5:=kI.add f g
theorem IP {P:Program} {f:Nat} {fn:Func} {base:Nat} {w:World} (hf:P.funcs[f]?=some fn) (hn:(fn.name == "runtime.NumGoroutine")=false) (hb:fn.body.isNone=false) {g:List CA→Option (List Prop×Nat×RV×List At)}
  (h:∀cs pre j r l,g cs=some (pre,j,r,l)→aT pre→∀(args:List Value),cD w cs args→∀b o,args[j]?=some (.pointer (some ⟨b,o,none⟩))→(∀q,w.frozen? ⟨b,q,none⟩=false)→base≤b →
   Calls P f args.toArray w (fun e w'=>e=.returned r.den∧WrC w w' b∧w'.rangeAt b 0 (aA l))):Ll P (zI f g) base w:=by
 intro f' cs pre j r l hg hp;unfold zI Tab5.add at hg;cases hb':Nat.beq f' f<;>rw[hb']at hg
 ·cases hg
 ·cases Nat.eq_of_beq_eq_true hb';exact⟨bR hf hn hb,h cs pre j r l hg hp⟩
def Qd (l0:List At) (v0:Value) (r:RV) (l1:List At):List CA→Option (List Prop×Nat×RV×List At)
 | [.p l 0,.v (.im v)]=>some ([l=l0,v=v0],0,r,l1)
 | _=>none
theorem UZ {s t:St} {C v:Nat} (hs:s.ok) (hC:C<4611686018427387904) (hw:xC C s 0=some (v,t)) {base:Nat} {w:World} (hD:Dbj w) (hB:2<base):Ll prog (zI 148 (Qd s.row (iI C) (.one (.im (u6 v))) t.row)) base w :=
 IP func148 (by kernel_rfl) (by kernel_rfl) fun cs pre j r l hg hp args ha b o hj hz hle=>by
  unfold Qd at hg;split at hg
  ·cases hg;obtain⟨rfl,rfl,_⟩:=hp
   match args,ha with
   | [x,y],ha =>
    obtain⟨⟨b',rfl,h1,h2⟩,h3,_⟩:=ha;cases hj;have h3:y=iI C:=h3;subst h3;exact VA hs hC hw hD (Nat.lt_of_lt_of_le hB hle) ⟨h1,h2,hz⟩
   | [],ha=>exact ha.elim
   | [_],ha=>exact ha.2.elim
   | _::_::_::_,ha=>exact ha.2.2.elim
  ·cases hg
noncomputable abbrev coF:Func:=f140
def wU:Code:=(f140.body).getD .skip
def Mt:Code:=kD (kD (kD (cB wU)))
def wT:Code:=kD (kD (cB (cA (cB Mt))))
theorem Kh:wU=.seq (cA wU) (.block 0 (.loop (.block 1 (.seq (cA Mt) (.seq (.seq (cA (cA (cB Mt))) (.block 2 (.loop wT))) (cB (cB Mt))))))):=by kernel_rfl
theorem aBQ:coF.ntmps=21:=by kernel_rfl
def rC (a b c d:Nat):List At:=[.c (u6 a),.c (u6 b),.c (u6 c),.c (u6 d)]
def zC:List At:=[.f ⟨0,cS⟩]
def cP0 (N sb:Nat) (s:St):List Fact:=[.slot 0 (.pt 0 0),.row 0 true s.row,.at 0 sb,.at 21 N,.slot 2 (.pt 2 0),.row 2 true zC]
def cP1 (N sb:Nat) (s:St) (r:List At):List Fact:=[.slot 0 (.pt 0 0),.row 0 true s.row,.at 0 sb,.at 21 N,.slot 2 (.pt 2 0),.row 2 true zC,.slot 3 (.pt 3 0),.row 3 true r]
def IV (N sb:Nat) (s:St) (r:List At) (i:Nat):List Fact:=.slot 8 (.im (iI i))::cP1 N sb s r
def qC (idx:Nat→Option Nat) (ld st:Nat→Option (List At)) (T5:Tab5):EqT:=Va prog ld st idx (fun _=>none) T5
def Db (s t:St) (C v:Nat):Tab5:=zI 148 (Qd s.row (iI C) (.one (.im (u6 v))) t.row)
theorem aBL (N sb:Nat) (s:St):bE prog (qC (fun _=>none) (fun _=>none) (fun _=>none) kI) 21 (fun _=>tC T0 fun _=>none) 60 (cA wU) (NA 21 sb N 0 s.row []) (cP0 N sb s)=some ([],.nrm,cP0 N sb s):=by kernel_rfl
theorem aBK (N sb v:Nat) (s t:St):bE prog (qC (fun _=>none) (assoc [(7,rC 0 0 0 v)]) (fun _=>none) (Db s t 62 v)) 21 (fun _=>tC T0 fun _=>none) 60 (cA Mt) (cP0 N sb s) (cP1 N sb t (rC 0 0 0 v))=some ([s.row=s.row,iI 62=iI 62,aA (rC 0 0 0 v)=aA (rC 0 0 0 v)],.nrm,cP1 N sb t (rC 0 0 0 v)):=by kernel_rfl
theorem aBJ (N sb:Nat) (s:St) (r:List At):bE prog (qC (fun _=>none) (fun _=>none) (fun _=>none) kI) 21 (fun _=>tC T0 fun _=>none) 60 (cA (cA (cB Mt))) (cP1 N sb s r) (IV N sb s r 0)=some ([],.nrm,IV N sb s r 0):=by kernel_rfl
theorem aBO (N sb v a b c d:Nat) (s t:St):bE prog (qC (fun _=>none) (fun _=>none) (fun _=>none) (Db s t 64 v)) 21 (fun _=>tC T0 fun _=>none) 60 wT (IV N sb s (rC a b c d) 0) (IV N sb t (rC a b v d) 1)=some ([s.row=s.row,iI 64=iI 64],.nrm,IV N sb t (rC a b v d) 1):=by kernel_rfl
theorem aBN (N sb v a b c d:Nat) (s t:St):bE prog (qC (fun _=>none) (fun _=>none) (fun _=>none) (Db s t 64 v)) 21 (fun _=>tC T0 fun _=>none) 60 wT (IV N sb s (rC a b c d) 1) (IV N sb t (rC a v c d) 2)=some ([s.row=s.row,iI 64=iI 64],.nrm,IV N sb t (rC a v c d) 2):=by kernel_rfl
theorem aBM (N sb v a b c d:Nat) (s t:St):bE prog (qC (fun _=>none) (fun _=>none) (fun _=>none) (Db s t 64 v)) 21 (fun _=>tC T0 fun _=>none) 60 wT (IV N sb s (rC a b c d) 2) (IV N sb t (rC v b c d) 3)=some ([s.row=s.row,iI 64=iI 64],.nrm,IV N sb t (rC v b c d) 3):=by kernel_rfl
theorem aFz (N sb:Nat) (s:St) (r:List At):bE prog (qC (fun _=>none) (fun _=>none) (fun _=>none) kI) 21 (fun _=>tC T0 fun _=>none) 60 wT (IV N sb s r 3) (IV N sb s r 3)=some ([],.ex 2,IV N sb s r 3):=by kernel_rfl
def gBl (x:Nat) (z:Bool):gE
 | [.s l 1 1]=>some ([aA l=aA [At.q x],x<aF,decide (x<RM)=z],.one (.im (.bool z)))
 | _=>none
def Uu (x:Nat) (z:Bool):Tab:=T0.add 84 (gBl x z)
theorem aBP (N sb a b c d x:Nat) (s:St):bE prog (qC (fun _=>none) (fun _=>none) (fun _=>none) kI) 21 (fun _=>tC (Uu x true) fun _=>none) 60 (cB (cB Mt)) (IV N sb s (rC a b c d) 3) [.slot 2 (.pt 2 0),.row 2 true (rC a b c d),.row 0 true s.row,.at 0 sb,.at 21 N]=some ([aA (rC a b c d)=aA [At.q x],x<aF,decide (x<RM)=true],.rt,[.slot 2 (.pt 2 0),.row 2 true (rC a b c d),.row 0 true s.row,.at 0 sb,.at 21 N]):=by kernel_rfl
theorem aBR (N sb a b c d x:Nat) (s:St):bE prog (qC (fun _=>none) (fun _=>none) (fun _=>none) kI) 21 (fun _=>tC (Uu x false) fun _=>none) 60 (cB (cB Mt)) (IV N sb s (rC a b c d) 3) (cP0 N sb s)=some ([aA (rC a b c d)=aA [At.q x],x<aF,decide (x<RM)=false],.nrm,cP0 N sb s):=by kernel_rfl
theorem Sl {w:World} (x:Nat) (z:Bool):∀cs pre r,gBl x z cs=some (pre,r)→aT pre→∀(args:List Value),cD w cs args→bD prog 84 r args w:=by
 intro cs pre r hg hp args ha;unfold gBl at hg;split at hg
 ·rename_i l;cases hg;obtain⟨h1,h2,h3,_⟩:=hp
  match args,ha with
  | [v],ha =>
   have hv:LV w v 1 (fun _=>x):=LV.ofS (N:=1) (f:=fun _=>x) ha.1 h1 rfl (Nat.le_refl _) (fun _ _=>h2);have:=zE hv (by decide);have e:decide (oU 1 fun _=>x)=z:=by
    rw[←h3];have:oU 1 (fun _=>x)↔x<RM:=⟨fun h=>h 0 (by decide),fun h _ _=>h⟩;exact decide_eq_decide.2 this
   rw[e]at this;exact this
  | [],ha=>exact ha.elim
  | _::_::_,ha=>exact ha.2.elim
 ·cases hg
theorem QE (x:Nat) (z:Bool) {base:Nat} {w0:World}:TabOkW prog (Uu x z) base w0 :=
 TabOkW.add ((bT _).w _ _) func84 (by kernel_rfl) (by kernel_rfl) (fun w _=>Sl x z)
theorem aEf {a b c d:Nat} (h:cC a b c d):aA (rC a b c d)=aA [At.q (aC a b c d)]∧aC a b c d<aF:=by
 have hx:aC a b c d<aF:=by
  obtain⟨h1,h2,h3,h4⟩:=h;unfold aC;show _<115792089237316195423570985008687907853269984665640564039457584007913129639936;omega
 obtain⟨e0,e1,e2,e3⟩:=jN h hx rfl;refine⟨?_,hx⟩;show [u6 a,u6 b,u6 c,u6 d]=w4 (aC a b c d)++[];unfold w4;rw[←e0,←e1,←e2,←e3];rfl
theorem By {n x:Nat} {s t:St} (hs:s.ok) (hc:xV n s=some (x,t)) {w0:World} {sb:Nat} (hD:Dbj w0) (hg:2<sb) (hO:Own w0 sb s.row) :
  t.ok∧x<RM∧Calls prog 140 (ptV sb 0::[]).toArray w0 (Wr sb w0 (.one (.fl [.q x])) t.row):=by
 have hcs:t.ok∧x<RM:=by
  clear hD hg hO
  induction n generalizing s with
  | zero=>cases hc
  | succ n ih =>
   unfold xV at hc;split at hc
   ·rename_i y u hu;obtain⟨a,b,c,d,s1,s2,s3,h1,h2,h3,h4,rfl⟩:=sZ hu;have k1:=fM _ hs (by decide) h1;have k2:=fM _ k1.1 (by decide) h2;have k3:=fM _ k2.1 (by decide) h3;have k4:=fM _ k3.1 (by decide) h4;cases hb:Nat.blt (aC a b c d) RM<;>rw[hb]at hc
    ·exact ih k4.1 hc
    ·cases hc;exact⟨k4.1,by simpa using hb⟩
   ·cases hc
 refine⟨hcs.1,hcs.2,?_⟩;have hT:∀n d:Nat,TabOkW prog T0 sb w0:=fun _ _=>(bT _).w _ _
 have hq:∀idx ld st,bO prog (qC idx ld st kI) sb w0:=fun _ _ _=>mQ (nU _) _ _
 have hqw:∀{s t:St} {C v:Nat} idx ld st,s.ok→C<4611686018427387904→xC C s 0=some (v,t)→bO prog (qC idx ld st (Db s t C v)) sb w0:=fun _ _ _ h1 h2 h3=>WU fun w' hb=>UZ h1 h2 h3 (hD.on hg hb) hg
 have hnt:f140.ntmps=21:=aBQ;refine sX (ts:=[]) func140 (c:=wU) rfl hO (Nat.le_of_ble_eq_true (by kernel_rfl)) fun a w hA => ?_
 rw[hnt]at hA;rw[Kh];refine wp_seq (aB aI hT (hq _ _ _) (aBL w0.heap.size sb s) trivial hA fun a1 v1 hA1 => ?_);refine wp_block ?_;refine dV (n:=n) ?_;clear hO hA a w
 induction n generalizing s a1 v1 with
 | zero=>cases hc
 | succ n ih =>
  unfold xV at hc;split at hc
  ·rename_i y u hu;obtain⟨w0',w1',w2',w3',s1,s2,s3,h1,h2,h3,h4,rfl⟩:=sZ hu;have k1:=fM _ hs (by decide) h1;have k2:=fM _ k1.1 (by decide) h2;have k3:=fM _ k2.1 (by decide) h3;have k4:=fM _ k3.1 (by decide) h4;obtain⟨hfl,hlt⟩:=aEf (a:=w0') (b:=w1') (c:=w2') (d:=w3') ⟨k4.2,k3.2,k2.2,k1.2⟩;unfold Un;refine wp_block ?_;refine wp_seq (aB aI hT (hqw _ _ _ hs (by decide) h1) (aBK w0.heap.size sb w3' s s1) ⟨rfl,rfl,rfl,trivial⟩ hA1 fun a w hA => ?_);refine wp_seq (wp_seq (aB aI hT (hq _ _ _) (aBJ w0.heap.size sb s1 _) trivial hA fun a w hA => ?_));refine wp_block (dV (n:=4) ?_);unfold Un;refine aB aI hT (hqw _ _ _ k1.1 (by decide) h2) (aBO w0.heap.size sb w2' 0 0 0 w3' s1 s2) ⟨rfl,rfl,trivial⟩ hA fun a w hA => ?_
   simp only[EA.out,Exit.then];unfold Un;refine aB aI hT (hqw _ _ _ k2.1 (by decide) h3) (aBN w0.heap.size sb w1' 0 0 w2' w3' s2 s3) ⟨rfl,rfl,trivial⟩ hA fun a w hA => ?_
   simp only[EA.out,Exit.then];unfold Un;refine aB aI hT (hqw _ _ _ k3.1 (by decide) h4) (aBM w0.heap.size sb w0' 0 w1' w2' w3' s3 u) ⟨rfl,rfl,trivial⟩ hA fun a w hA => ?_
   simp only[EA.out,Exit.then];unfold Un;refine aB aI hT (hq _ _ _) (aFz w0.heap.size sb u (rC w0' w1' w2' w3')) trivial hA fun a w hA => ?_
   simp only[EA.out,Exit.then,Exit.inBlock,if_true];cases hb:Nat.blt (aC w0' w1' w2' w3') RM<;>rw[hb]at hc
   ·have hnb:¬aC w0' w1' w2' w3'<RM:=fun h=>by
     have:Nat.blt (aC w0' w1' w2' w3') RM=true:=by simpa using h
     rw[hb]at this; cases this
    refine aB aI (fun _ _=>QE _ _) (hq _ _ _) (aBR w0.heap.size sb w0' w1' w2' w3' (aC w0' w1' w2' w3') u) ⟨hfl,hlt,decide_eq_false hnb,trivial⟩ hA fun a w hA => ?_
    simp only[EA.out,Exit.then,Exit.inBlock];exact ih k4.1 hc _ _ hA
   ·cases hc;have hyb:aC w0' w1' w2' w3'<RM:=by simpa using hb
    refine aB aI (fun _ _=>QE _ _) (hq _ _ _) (aBP w0.heap.size sb w0' w1' w2' w3' (aC w0' w1' w2' w3') t) ⟨hfl,hlt,decide_eq_true hyb,trivial⟩ hA fun a w hA => ?_
    simp only[EA.out,Exit.then,Exit.inBlock];refine cT (l:=[.fl (rC w0' w1' w2' w3')]) (r:=.one (.fl (rC w0' w1' w2' w3'))) (by kernel_rfl) (by kernel_rfl) hA ⟨?_,hA.wrc (by simp) (by simp) (by simp)⟩;show Ending.returned (.agg (aA (rC w0' w1' w2' w3')).toArray)=Ending.returned (.agg (aA [At.q _]).toArray);rw[hfl]
  ·cases hc
theorem ZY (n:Int):bits .and .i64 n 1=n%2:=by
 have h1:(BitVec.ofInt 64 1).toNat=2^1-1:=by decide
 have key:(BitVec.ofInt 64 n &&& BitVec.ofInt 64 1).toNat=(n%((2^64:Nat):Int)).toNat%2^1:=by
  rw[BitVec.toNat_and,BitVec.toNat_ofInt,h1,Nat.and_two_pow_sub_one_eq_mod]
 show IntKind.i64.wrap ((BitVec.ofInt 64 n &&& BitVec.ofInt 64 1).toNat:Nat)=n%2;rw[key,IntKind.wrap_i64];omega
theorem Fi (t:Nat) (x y:Operand) (a:Nat):gN .and t x y (iI a) (iI 1) (iI (a%2)):=fun w=>by
 have h:=ZY (a:Int);simp[eqGuard,binOp,go_sem,iI,h]
theorem Ox (t:Nat) (x y:Operand) {a k:Nat} (ha:a<4611686018427387904) (hk:k≤62):gN .shr t x y (iI a) (iI k) (iI (a/2^k)):=fun w=>by
 have h:IntKind.i64.wrap ((a/2^k:Nat):Int)=((a/2^k:Nat):Int):=jZ (Nat.lt_of_le_of_lt (Nat.div_le_self _ _) (by omega));simp[eqGuard,binOp,go_sem,iI,Nat.min_eq_left (show k≤64 by omega)]
theorem SM {P:Program} {w:World} {R:Ending→World→Prop} {f:FuncId} {fn:Func} (hf:P.funcs[f]?=some fn) {c:Code} (hb:fn.body=some c) {b2 b3:Nat} {l2 l3:List At} {v0 v1:Value} (h2:Own w b2 l2) (h3:Own w b3 l3) (hlt:b2<b3) (hn:4≤fn.ntmps)
  (h:∀a w',Holds fn.ntmps b2 w [.slot 0 (.im v0),.slot 1 (.im v1),.slot 2 (.pt 2 0),.row 2 true l2,.slot 3 (.pt 3 0),.row 3 true l3,.at 2 b2,.at 3 b3,.at fn.ntmps (b2+1)] a w'→c.wp P (bodyPost P fn R) a w'):Calls P f [v0,v1,ptV b2 0,ptV b3 0].toArray w R:=by
 refine calls_of_wp hf hb (h _ _ ?_);have hg:∀j u,[v0,v1,ptV b2 0,ptV b3 0][j]?=some u→([v0,v1,ptV b2 0,ptV b3 0].toArray++Array.replicate (fn.ntmps-[v0,v1,ptV b2 0,ptV b3 0].toArray.size) undef)[j]?=some u:=fun j u hj=>by
  have hlt:=(List.getElem?_eq_some_iff.1 hj).1;rw[Array.getElem?_append_left (by simpa using hlt)];simpa using hj
 have z2:(fun k=>if k=fn.ntmps then ((b2+1,0,0):Bk)else if k=3 then (b3,0,0)else (b2,0,0)) 2=(b2,0,0):=by
  show (if 2=fn.ntmps then _ else _)=_;rw[if_neg (by omega),if_neg (by decide)]
 have z3:(fun k=>if k=fn.ntmps then ((b2+1,0,0):Bk)else if k=3 then (b3,0,0)else (b2,0,0)) 3=(b3,0,0):=by
  show (if 3=fn.ntmps then _ else _)=_;rw[if_neg (by omega),if_pos rfl]
 have zn:(fun k=>if k=fn.ntmps then ((b2+1,0,0):Bk)else if k=3 then (b3,0,0)else (b2,0,0)) fn.ntmps=(b2+1,0,0):=if_pos rfl;generalize (fun k=>if k=fn.ntmps then ((b2+1,0,0):Bk)else if k=3 then (b3,0,0)else (b2,0,0))=β at z2 z3 zn;have hrow:∀k o l,Fact.row k o l∈([.slot 0 (.im v0),.slot 1 (.im v1),.slot 2 (.pt 2 0),.row 2 true l2,.slot 3 (.pt 3 0),.row 3 true l3,.at 2 b2,.at 3 b3,.at fn.ntmps (b2+1)]:List Fact)→k=2∨k=3:=fun k o l h=>by
  simp only[List.mem_cons,reduceCtorEq,Fact.row.injEq,false_or,List.not_mem_nil,or_false]at h
  rcases h with h|h
  ·exact Or.inl h.1
  ·exact Or.inr h.1
 refine⟨rfl,by simp; omega,Below.refl _ _,Nat.le_of_lt h2.lt,β,fun φ hφ => ?_,fun k k' o' l1 l2 e1 e2 hne => ?_,fun k l1 e1 => ?_,by rw[zn]; exact h2.lt,fun p q1 q2=>(by rw[zn]at q2; simp only at q2; omega),Shape.refl _⟩
 ·simp only[List.mem_cons,List.not_mem_nil,or_false]at hφ
  rcases hφ with rfl|rfl|rfl|rfl|rfl|rfl|rfl|rfl|rfl
  ·exact hg 0 _ rfl
  ·exact hg 1 _ rfl
  ·refine (hg 2 _ rfl).trans ?_;simp[AV.den,z2,ptV]
  ·refine⟨?_,?_,fun _=>⟨?_,?_,?_⟩,fun h=>by cases h⟩<;>rw[z2]
   ·exact h2.lt
   ·exact h2.row
   ·exact Nat.le_refl _
   ·exact h2.free
  ·refine (hg 3 _ rfl).trans ?_;simp[AV.den,z3,ptV]
  ·refine⟨?_,?_,fun _=>⟨?_,?_,?_⟩,fun h=>by cases h⟩<;>rw[z3]
   ·exact h3.lt
   ·exact h3.row
   ·exact Nat.le_of_lt hlt
   ·exact h3.free
  ·exact⟨by rw[z2],by rw[z2]⟩
  ·exact⟨by rw[z3],by rw[z3]⟩
  ·exact⟨by rw[zn],by rw[zn]⟩
 ·rcases hrow _ _ _ e1 with rfl|rfl<;>rcases hrow _ _ _ e2 with rfl|rfl
  ·exact (hne rfl).elim
  ·rw[z2,z3]; simp only; omega
  ·rw[z2,z3]; simp only; omega
  ·exact (hne rfl).elim
 ·rcases hrow _ _ _ e1 with rfl|rfl
  ·rw[z2]; exact Or.inl rfl
  ·rw[z3,zn]; exact Or.inr hlt
theorem Holds.own {nt base:Nat} {w0:World} {A:List Fact} {a:Act} {w:World} (h:Holds nt base w0 A a w) {k b:Nat} {l:List At} (h1:Fact.row k true l∈A) (h2:Fact.at k b∈A):Own w b l:=by
 obtain⟨β,g1,_⟩:=h.facts;obtain⟨e1,e2,e3,_⟩:=g1 _ h1;obtain⟨_,e5,e6⟩:=e3 rfl;have e7:=g1 _ h2;simp only[Fact.ok]at e7;rw[e5,e7.1]at e2;exact⟨by rw[←e7.1]; exact e1,e2,fun j=>by rw[←e7.1]; exact e6 j⟩
noncomputable abbrev laF:Func:=f146
def vO:Code:=(f146.body).getD .skip
def vN:Code:=kD (kD (cB vO))
theorem Ia:vO=.seq (cA vO) (.block 0 (.loop vN)):=by kernel_rfl
theorem Zm:laF.ntmps=33:=by kernel_rfl
def lA (n c p b2 b3:Nat) (s:St):List Fact:=[.slot 0 (.im (iI n)),.slot 1 (.im (iI c)),.slot 2 (.pt 2 0),.row 2 true s.row,.slot 3 (.pt 3 0),.row 3 true [.c (iI p)],.at 2 b2,.at 3 b3,.at 33 (b2+1)]
def lF (n c i p b2 b3:Nat) (s:St):List Fact:=.slot 7 (.im (iI c)) :: .slot 8 (.im (iI i))::lA n c p b2 b3 s
def ZI (c i p:Nat) (z:Bool):Nat→Option Value:=assoc [(9,.bool z),(12,iI (p/64)),(18,iI (c-1)),(20,iI (c-1-i)),(25,iI (p%64)),(31,iI (p+1)),(32,iI (i+1))]
def Mi (n c i p x:Nat):Nat→Option Value:=assoc [(21,iI (n/2^(c-1-i))),(22,iI (FU n c i)),(23,u6 (FU n c i)),(26,u6 (qZ n c i p)),(27,u6 (x ||| qZ n c i p))]
def qL (idx:Nat→Option Nat) (gen:Nat→Option Value):EqT:=Va prog (fun _=>none) (fun _=>none) idx gen kI
theorem Zj (n c p b2 b3:Nat) (s:St):bE prog (qL (fun _=>none) (fun _=>none)) 33 (fun _=>tC T0 fun _=>none) 60 (cA vO) (lA n c p b2 b3 s) (lF n c 0 p b2 b3 s)=some ([],.nrm,lF n c 0 p b2 b3 s):=by kernel_rfl
theorem aEB (n c i p b2 b3:Nat) (s:St):bE prog (qL (fun _=>none) (fun _=>none)) 33 (fun _=>tC T0 (ZI c i p false)) 60 vN (lF n c i p b2 b3 s) (lF n c i p b2 b3 s)=some ([aN .lss .i64 (Int.ofNat i) (Int.ofNat c)=some (.bool false)],.ex 0,lF n c i p b2 b3 s):=by kernel_rfl
def laC (n c i p x j:Nat):List Prop:=[aN .lss .i64 (Int.ofNat i) (Int.ofNat c)=some (.bool true),aN .quo .i64 (Int.ofNat p) 64=some (iI (p/64)),Int.ofNat (p/64)=Int.ofNat j,j<2,aN .sub .i64 (Int.ofNat c) 1=some (iI (c-1)),aN .sub .i64 (Int.ofNat (c-1)) (Int.ofNat i)=some (iI (c-1-i)),gN .shr 3 (.tmp 16) (.tmp 20) (iI n) (iI (c-1-i)) (iI (n/2^(c-1-i))),gN .and 3 (.tmp 21) (.const (iI 1)) (iI (n/2^(c-1-i))) (iI 1) (iI (FU n c i)),∀w:World,(convert 3 22 (iI (FU n c i))).run prog w=.ok (u6 (FU n c i)) w,aN .rem .i64 (Int.ofNat p) 64=some (iI (p%64)),gN .shl 22 (.tmp 23) (.tmp 25) (u6 (FU n c i)) (iI (p%64)) (u6 (qZ n c i p)),gN .or 22 (.tmp 15) (.tmp 26) (u6 x) (u6 (qZ n c i p)) (u6 (x ||| qZ n c i p)),Int.ofNat (p/64)=Int.ofNat j,j<2,aN .add .i64 (Int.ofNat p) 1=some (iI (p+1)),aN .add .i64 (Int.ofNat i) 1=some (iI (i+1))]
theorem Zl (n c i p b2 b3 lo hi fr gv:Nat):bE prog (qL (assoc [(14,0),(29,0)]) (Mi n c i p lo)) 33 (fun _=>tC T0 (ZI c i p true)) 60 vN (lF n c i p b2 b3 ⟨lo,hi,fr,gv⟩) (lF n c (i+1) (p+1) b2 b3 ⟨lo ||| qZ n c i p,hi,fr,gv⟩)=some (laC n c i p lo 0,.nrm,lF n c (i+1) (p+1) b2 b3 ⟨lo ||| qZ n c i p,hi,fr,gv⟩):=by kernel_rfl
theorem Zk (n c i p b2 b3 lo hi fr gv:Nat):bE prog (qL (assoc [(14,1),(29,1)]) (Mi n c i p hi)) 33 (fun _=>tC T0 (ZI c i p true)) 60 vN (lF n c i p b2 b3 ⟨lo,hi,fr,gv⟩) (lF n c (i+1) (p+1) b2 b3 ⟨lo,hi ||| qZ n c i p,fr,gv⟩)=some (laC n c i p hi 1,.nrm,lF n c (i+1) (p+1) b2 b3 ⟨lo,hi ||| qZ n c i p,fr,gv⟩):=by kernel_rfl
theorem Hm {p:Nat} (h:p<128):aN .quo .i64 (Int.ofNat p) 64=some (iI (p/64)):=by
 show (if (64:Int)=0 then none else some (Value.int .i64 (IntKind.i64.wrap ((p:Int).tdiv 64))))=_;rw[if_neg (by decide)];have h1:(p:Int).tdiv 64=((p/64:Nat):Int):=by rw[Int.tdiv_eq_ediv_of_nonneg (by omega)]; rfl
 rw[h1,jZ (by omega)];rfl
theorem Hk {p:Nat}:aN .rem .i64 (Int.ofNat p) 64=some (iI (p%64)):=by
 show (if (64:Int)=0 then none else some (Value.int .i64 ((p:Int).tmod 64)))=_;rw[if_neg (by decide)];have h1:(p:Int).tmod 64=((p%64:Nat):Int):=by rw[Int.tmod_eq_emod_of_nonneg (by omega)]; rfl
 rw[h1];rfl
theorem Hz (n c i:Nat):FU n c i<2:=Nat.mod_lt _ (by decide)
theorem ZJ {n c i p x:Nat} (hn:n<4611686018427387904) (hc:c≤62) (hi:i<c) (hp:p<128) (hx:x<dU):aT (laC n c i p x (p/64)):=by
 have h2:p/64<2:=by omega
 exact⟨fB hi,Hm hp,rfl,h2,qT (i:=c) (k:=1) (by omega) (by omega),qT (i:=c-1) (k:=i) (by omega) (by omega),Ox _ _ _ hn (by omega),Fi _ _ _ _,BX (by have:=Hz n c i; omega),Hk,WK _ _ _ _ (by omega),WL _ _ _ hx (AZ _ _ _ _),rfl,h2,gM (k:=1) (by omega),gM (k:=1) (by omega),trivial⟩
theorem ZH {n c p:Nat} {s:St} (hs:s.ok) (hn:n<4611686018427387904) (hc:c≤62) (hp:p+c≤128) {w0:World} {b2 b3:Nat} (h2:Own w0 b2 s.row) (h3:Own w0 b3 [.c (iI p)]) (hlt:b2<b3) :
  Calls prog 146 [iI n,iI c,ptV b2 0,ptV b3 0].toArray w0 fun e w'=>e=.returned (.tuple #[])∧Below b2 w0 w'∧Own w' b2 (sR n c c 0 p s).row∧Own w' b3 [.c (iI (p+c))]∧Shape w0 w':=by
 have hT:∀n d:Nat,TabOkW prog T0 b2 w0:=fun _ _=>(bT _).w _ _
 have hq:∀idx gen,bO prog (qL idx gen) b2 w0:=fun _ _=>mQ (nU _) _ _
 have hnt:f146.ntmps=33:=Zm;refine SM func146 (c:=vO) rfl h2 h3 hlt (Nat.le_of_ble_eq_true (by kernel_rfl)) fun a w hA => ?_
 rw[hnt]at hA;rw[Ia];refine wp_seq (aB aI hT (hq _ _) (Zj n c p b2 b3 s) trivial hA fun a1 w1 hA1 => ?_);refine wp_block (dV (n:=c+1) ?_);have key:∀m i q (s:St) a w,i+m=c→q+m=p+c→s.ok→Holds 33 b2 w0 (lF n c i q b2 b3 s) a w→Un prog vN (Exit.inBlock 0 (bodyPost prog f146 fun e w'=>e=.returned (.tuple #[])∧Below b2 w0 w'∧Own w' b2 (sR n c m i q s).row∧Own w' b3 [.c (iI (p+c))]∧Shape w0 w')) (m+1) a w:=by
  intro m
  induction m with
  | zero =>
   intro i q s a w hi hq' hs hA;unfold Un;refine aB aI hT (hq _ _) (aEB n c i q b2 b3 s) ⟨dS (by omega),trivial⟩ hA fun a w hA => ?_
   simp only[EA.out,Exit.then,Exit.inBlock,if_true];have hqe:q=p+c:=by omega
   subst hqe;exact⟨hA.defers,.tuple #[],by simp[results,show f146.results = #[] by kernel_rfl],rfl,hA.below,hA.own (k:=2) (by simp[lF,lA,sR]) (by simp[lF,lA]),hA.own (k:=3) (by simp[lF,lA]) (by simp[lF,lA]),hA.shape⟩
  | succ m ih =>
   intro i q s a w hi hq' hs hA;have h1:=hs.lay1 n c i q;have key2:=ih (i+1) (q+1) (lay1 n c i q s);obtain⟨lo,hi',fr,gv⟩:=s;unfold Un
   by_cases e:q/64=0
   ·have hC:=ZJ (x:=lo) hn hc (i:=i) (by omega) (p:=q) (by omega) hs.lo;rw[e]at hC;refine aB aI hT (hq _ _) (Zl n c i q b2 b3 lo hi' fr gv) hC hA fun a w hA => ?_
    simp only[EA.out,Exit.then];have hl:lay1 n c i q ⟨lo,hi',fr,gv⟩=⟨lo ||| qZ n c i q,hi',fr,gv⟩:=if_pos e;have:=key2 a w (by omega) (by omega) h1 (by rw[hl]; exact hA);exact this
   ·have hC:=ZJ (x:=hi') hn hc (i:=i) (by omega) (p:=q) (by omega) hs.hi;rw[show q/64=1 by omega]at hC;refine aB aI hT (hq _ _) (Zk n c i q b2 b3 lo hi' fr gv) hC hA fun a w hA => ?_
    simp only[EA.out,Exit.then];have hl:lay1 n c i q ⟨lo,hi',fr,gv⟩=⟨lo,hi' ||| qZ n c i q,fr,gv⟩:=if_neg e;have:=key2 a w (by omega) (by omega) h1 (by rw[hl]; exact hA);exact this
 exact key c 0 p s a1 w1 (by omega) rfl hs hA1
end Go.Proofs.YtpbljiejmfahcaaGreatDoor.Ex
