/- Eb09 -/
import Derived.Shelf.Spec.TrailingZeros
import Derived.Laws.ComplexArith
import Derived.StillTail
import Derived.RegionTactic
import Derived.KernelRfl
import Derived.LoopTactic
import Derived.Test.YtpjlhhpjpnacmaaGreatEb08
import Derived.Test.YtpjlhhpjpnacmaaGreatEb03
import Derived.Test.YtpjlhhpjpnacmaaGreatEb04
import Derived.Test.YtpjlhhpjpnacmaaGreatEb06
import Derived.Test.YtpjlhhpjpnacmaaGreatProg
set_option maxRecDepth 100000
set_option linter.unusedVariables false
set_option linter.unusedSimpArgs false
set_option linter.unnecessarySimpa false
noncomputable section
namespace Go.Proofs.YtpjlhhpjpnacmaaGreat.Ex
open Go.Proofs.Tryz
open Go.RowKit
def Wm (c:Bool):gP
 | [.v (.im (.int .i64 2)),.v (.fl l)]=>match jV l with
  | some x=>some ([x<RM,cR RM x=c],.many [.im (.bool c),.im (.int .i64 0)])
  | none=>none
 | _=>none
theorem Xf (c:Bool):∀cs pre r,Wm c cs=some (pre,r)→aS pre→∀(args:List Value) (w:World),cH w cs args→bC prog 52 r args w:=by
 intro cs pre r hg hp args w ha;unfold Wm at hg;split at hg
 ·rename_i l;split at hg
  ·rename_i x hx;cases hg
   match args,ha with
   | [t,v],ha =>
    have h1:t=.int .i64 2:=ha.1;have h2:v=.agg (aB l).toArray:=ha.2.1;rw[bQ l x hx]at h2;subst h1; subst h2;have h:=NI 2 _ kF _ _ _ _ (cP x) (by rw[iM hp.1]; exact hp.1) w;rw[iM hp.1,hp.2.1]at h;exact h
   | [],ha=>exact ha.elim
   | [_],ha=>exact ha.2.elim
   | _::_::_::_,ha=>exact ha.2.2.elim
  ·cases hg
 ·cases hg
def Tr (c:Bool):Tab:=T0.add 52 (Wm c)
theorem Po (c:Bool):TabOk prog (Tr c):=(dV _).add func52 (by kernel_rfl) (by kernel_rfl) (Xf c)
theorem Ix (c:Bool) (x:Nat):kW prog (Tr c) (qG prog) (fun _=>true) f29 40 [.v (.fl [.q x])]=some ([x<RM,cR RM x=c],.one (.im (.bool c))):=by kernel_rfl
def Ye (c:Bool):gP:=g1 jV fun x=>([x<RM,cR RM x=c],.one (.im (.bool c)))
theorem Xg (c:Bool):∀cs pre r,Ye c cs=some (pre,r)→aS pre→∀(args:List Value) (w:World),cH w cs args→bC prog 29 r args w :=
 hZ (op:=fun x=>([x<RM,cR RM x=c],.one (.im (.bool c)))) bQ fun x h args w ha=>cF aQ (Po c) (aT _) func29 (Ix c x) h ha
def Tt (k:Int) (c:Bool):Tab:=(mH.add 26 (Aj k)).add 29 (Ye c)
theorem Pq (k:Int) (c:Bool):TabOk prog (Tt k c):=(hJ.add func26 (by kernel_rfl) (by kernel_rfl) (xY nT k)).add func29 (by kernel_rfl) (by kernel_rfl) (Xg c)
def Tz (f:Nat→Nat) (ky:Nat→Option Nat) (gen:Nat→Option Value):Ext:={ Ext.none with ky:=ky,gen:=gen,T2:=Yx,T3:=WK,T4:=Cg,T5:=Cm,T6:=B6 f }
theorem CP (f:Nat→Nat) (ky:Nat→Option Nat) (gen:Nat→Option Value) (w:World):dC prog (qY prog (Tz f ky gen)) w.heap.size w:=vD Lx (fun _ _ _ h=>h.elim) (qM _) (nZ _) (kO _) (Ey f)
def eR:Code:=(f11.body).getD .skip
theorem VJ:eR=.seq (cA eR) (.seq (cA (cB eR)) (.seq (cA (cB (cB eR))) (.seq (cA (cB (cB (cB eR)))) (.seq (cA (cB (cB (cB (cB eR))))) (cB (cB (cB (cB (cB eR))))))))):=by kernel_rfl
def Mn (p:NP):List Fact:=[.slot 1 (.pt 1 0),.row 1 true [.q p.1,.q p.2]]
def NX (p:NP) (f:Nat→Nat):List Fact:=[.slot 1 (.pt 1 0),.row 1 true [.q p.1,.q p.2],.slot 5 (.sl 15 0 32 32),.row 15 true (bj f)]
def Ef (c:Bool) (_:Nat):Cfg:=⟨fun _=>Tt 0 c,fun _=>true,fun _=>none⟩
theorem Ll (p:NP) (c:Bool):bJ prog (qG prog) f11.ntmps (Ef c) 60 (cA eR) (iO 0 [.v (.fl [.q p.1,.q p.2])]) (Mn p)=some ([],.nrm,Mn p):=by kernel_rfl
theorem Lk (p:NP) (c:Bool):bJ prog (qG prog) f11.ntmps (Ef c) 60 (cA (cB eR)) (Mn p) (Mn p)=some ([p.1<aO,p.2<aO,eE p=0],.nrm,Mn p):=by kernel_rfl
theorem Lj (p:NP) (c:Bool) (f:Nat→Nat):bJ prog (qY prog (Tz f (fun _=>none) (fun _=>none))) f11.ntmps (Ef c) 60 (cA (cB (cB eR))) (Mn p) (NX p (bE p.2))=some ([p.2<RM],.nrm,NX p (bE p.2)):=by kernel_rfl
theorem Li (p:NP) (c:Bool) (f:Nat→Nat) (b:Nat):bJ prog (qY prog (Tz f (assoc [(19,15)]) (fun _=>none))) f11.ntmps (Ef c) 60 (cA (cB (cB (cB eR)))) (.at 15 b::NX p f) (NX p (dM f))=some ([0=0,32=32,aB (bj f)=aB (bj f)],.nrm,NX p (dM f)):=by kernel_rfl
def LY (f:Nat→Nat):Nat→Nat:=fun k=>bif Nat.beq k 31 then f 31 ||| 128 else f k
theorem Lg (p:NP) (f:Nat→Nat):bJ prog (qG prog) f11.ntmps (Ef true) 60 (cA (cB (cB (cB (cB eR))))) (NX p f) (NX p f)=some ([p.1<RM,cR RM p.1=true],.nrm,NX p f):=by kernel_rfl
theorem Lh (p:NP) (f:Nat→Nat):bJ prog (qY prog (Tz f (fun _=>none) (assoc [(27,.int .u8 (Int.ofNat (f 31 ||| 128)))]))) f11.ntmps (Ef false) 60 (cA (cB (cB (cB (cB eR))))) (NX p f) (NX p (LY f))=some ([p.1<RM,cR RM p.1=false,Ty .or 5 (.tmp 26) (.const (.int .u8 128)) (.int .u8 (Int.ofNat (f 31))) (.int .u8 (Int.ofNat 128)) (.int .u8 (Int.ofNat (f 31 ||| 128)))],.nrm,NX p (LY f)):=by kernel_rfl
theorem VI (p:NP) (c:Bool) (f:Nat→Nat):bJ prog (qG prog) f11.ntmps (Ef c) 60 (cB (cB (cB (cB (cB eR))))) (NX p f) [.slot 2 (.sl 15 0 32 32),.row 15 true (bj f),.slot 3 (.im (.int .i64 0))]=some ([],.rt,[.slot 2 (.sl 15 0 32 32),.row 15 true (bj f),.slot 3 (.im (.int .i64 0))]):=by kernel_rfl
def mE (p:NP):Nat→Nat:=bif cR RM p.1 then dM (bE p.2)else LY (dM (bE p.2))
theorem GM (A k:Nat):bE A k<256:=Nat.mod_lt _ (by decide)
theorem NW (p:NP) (hp:OnJ p.1 p.2) (h0:eE p=0) (args:List Value) (w:World) (ha:cH w [.v (.fl [.q p.1,.q p.2])] args):Calls prog 11 args.toArray w (fun e w'=>FR.ok ⟨bj (mE p),32,32,[.im (.int .i64 0)]⟩ w e w'):=by
 have hG:dC prog (qG prog) w.heap.size w:=(aT _).w _ _;have hT:∀c (n d:Nat),TabOkW prog ((Ef c n).T d) w.heap.size w:=fun c _ _=>(Pq 0 c).w _ _
 refine eT func11 (c:=eR) rfl ha (Nat.le_of_ble_eq_true (by kernel_rfl)) fun a w' hA => ?_
 rw[VJ];refine wp_seq (aE aQ (hT true) hG (Ll p true) trivial hA fun a w' hA => ?_);refine wp_seq (aE aQ (hT true) hG (Lk p true) ⟨hp.w.1,hp.w.2,h0,trivial⟩ hA fun a w' hA => ?_);refine wp_seq (aE aQ (hT true) (CP (bE p.2) _ _ w) (Lj p true (bE p.2)) ⟨hp.1.2,trivial⟩ hA fun a w' hA => ?_);obtain⟨b,hA⟩:=hA.at (k:=15) (l:=bj (bE p.2)) (by simp[NX]);refine wp_seq (aE aQ (hT true) (CP (bE p.2) _ _ w) (Li p true (bE p.2) b) ⟨rfl,rfl,rfl,trivial⟩ hA fun a w' hA => ?_);unfold mE;cases hl:cR RM p.1
 ·refine wp_seq (aE aQ (hT false) (CP (dM (bE p.2)) _ _ w) (Lh p (dM (bE p.2))) ⟨hp.1.1,hl,VO (GM _ _) (by decide),trivial⟩ hA fun a w' hA => ?_);exact aE aQ (hT false) hG (VI p false _) trivial hA fun a w' hA=>vU (r:=⟨bj (LY (dM (bE p.2))),32,32,[.im (.int .i64 0)]⟩) (by kernel_rfl) hA
 ·refine wp_seq (aE aQ (hT true) hG (Lg p (dM (bE p.2))) ⟨hp.1.1,hl,trivial⟩ hA fun a w' hA => ?_);exact aE aQ (hT true) hG (VI p true _) trivial hA fun a w' hA=>vU (r:=⟨bj (dM (bE p.2)),32,32,[.im (.int .i64 0)]⟩) (by kernel_rfl) hA
def Mb (T:Tab) (num:Nat→Option Value):Cfg:=⟨fun _=>T,fun _=>true,num⟩
def Et (op:BinOp) (t:Nat) (x y:Operand) (v u r:Value):Prop:=∀w:World,(do eqGuard op t x y v u; binOp op t v u:Sem Value).run prog w=.ok r w
theorem Dv {a:Act} {s:Nat} {v:Value} (h:a.tmps[s]?=some v):a.eval (.tmp s)=v:=by simp[Act.eval,h]
theorem He {a:Act} {d s:Nat} {u v:Value} (h:a.tmps[s]?=some v) (hd:d≠s):(a.put (some d) u).tmps[s]?=some v:=by
 rw[iE _ _ _ _ (fun e=>hd (by injection e))]; exact h
theorem oI {nt:Nat} {w:World} {a:Act} {ts:List (Nat×Value)} (hd:a.defers=[]) (hs:a.tmps.size=nt) (ht:∀x∈ts,a.tmps[x.1]?=some x.2):Holds nt w.heap.size w (ts.map fun x=>.slot x.1 (.im x.2)) a w:=by
 refine⟨hd,hs,Below.refl _ _,Nat.le_refl _,fun _=>(w.heap.size,0,0),fun φ hφ => ?_,fun k k' o' l l' h1 => ?_,fun k l h1 => ?_,Nat.le_refl _,fun p h1 h2=>⟨rfl,rfl⟩,Shape.refl _⟩
 ·obtain⟨x,hx,rfl⟩:=List.mem_map.1 hφ;exact ht x hx
 ·obtain⟨x,_,e⟩:=List.mem_map.1 h1; cases e
 ·obtain⟨x,_,e⟩:=List.mem_map.1 h1; cases e
theorem Holds.shapeJ {nt base:Nat} {w0:World} {A:List Fact} {a:Act} {w:World} (h:Holds nt base w0 A a w):Shape w0 w:=by
 obtain⟨_,_,_,_,gt⟩:=h.facts;exact gt.shape
theorem Own.onJ {w w':World} {b:Nat} {l:List At} (h:Own w b l) (hb:Below w.heap.size w w'):Own w' b l :=
 ⟨Nat.lt_of_lt_of_le h.lt hb.size,fun j v hj=>(hb.cell (p:=⟨b,0+j,none⟩) h.lt).trans (h.row j v hj),fun j=>(hb.frozen (p:=⟨b,j,none⟩) h.lt).trans (h.free j)⟩
theorem WS:Tk prog 30=some (5,1,1):=by kernel_rfl
noncomputable abbrev Xk:Func:=f58
def kK:Code:=(f58.body).getD .skip
def GG:Code:=cA (cB (cB kK))
theorem UU:kK=.seq (cA kK) (.seq (cA (cB kK)) (.seq (.region 3 (bP GG) false) .ret)):=by kernel_rfl
theorem Lb:Xk.ntmps=8:=by kernel_rfl
theorem La (v:Value):bJ prog (qG prog) 8 (fun _=>Mb T0 fun _=>none) 60 (cA kK) (iO 0 [.v (.im v)]) [.slot 0 (.im v)]=some ([],.nrm,[.slot 0 (.im v)]):=by kernel_rfl
theorem Kz (w:World) (v:Value):bJ prog { qG prog with x:=xO w (fun _=>none) (fun _=>none) (assoc [(4,.bool false)]) } 8 (fun _=>Mb T0 fun _=>none) 60 (cA (cB kK)) [.slot 0 (.im v)] [.slot 0 (.im v)]=some ([Et .eql 30 (.tmp 3) (.const (.slice none 0 0)) v (.slice none 0 0) (.bool false)],.nrm,[.slot 0 (.im v)]):=by kernel_rfl
theorem Ky (v u:Value):jX prog (qG prog) 8 (Mb T0 fun _=>none) ((bP GG).extract 1 2) [.slot 5 (.im u),.slot 0 (.im v)] [.slot 6 (.im v),.slot 5 (.im u)]=some ([],[.slot 6 (.im v),.slot 5 (.im u)]):=by kernel_rfl
theorem Kx (v:Value):jX prog (qG prog) 8 (Mb T0 fun _=>none) ((bP GG).extract 3 4) [.slot 7 (.im v)] [.slot 2 (.im v)]=some ([],[.slot 2 (.im v)]):=by kernel_rfl
theorem Au (d:Nat) (b o n m:Nat) (w:World):(Op.equalIn (d+1) 30 (bW b o n m) (.slice none 0 0)).run prog w=.ok false w:=by
 have hu:prog.underlying 30=some (.slice 5):=underlying30;simp[Op.equalIn,bW,run_underlying hu]
theorem XK (x y:Operand) (b o n m:Nat):Et .eql 30 x y (bW b o n m) (.slice none 0 0) (.bool false):=fun w=>by
 have hu:prog.underlying 30=some (.slice 5):=underlying30;have h:=Au 9999 b o n m w;have e:Op.maxDepth=9999+1:=rfl;simp[eqGuard,binOp,go_sem,run_underlying hu,Op.equal,e,h,show bW b o n m=Value.slice (some ⟨b,o,none⟩) n m from rfl]at h ⊢;simp[h]
theorem VK (w:World):(Instr.buildSlice 30 0 #[]).run prog w=.ok (bW w.heap.size 0 0 0) (w.alloc (.cells #[] 5)):=by
 obtain⟨ht,i,z,hi,hz,hsize,hby,hzs,hsz⟩:=uD WS;simp[Instr.buildSlice,run_underlying ht,sizeOf,typeInfo,hi,newRow,bW,Instr.fill,show Array.range 0 = #[] by simp[Array.range]]
theorem Ln (f:Nat→Nat):∀v∈aB (bj f),v.oneCell'=true:=fun v hv=>by
 obtain⟨k,hk,e⟩:=List.mem_iff_getElem.1 hv;have hl:k<32:=by rwa [aJ,show eS (bj f)=32 by kernel_rfl]at hk
 have h1:=mT f k hl;rw[List.getElem?_eq_getElem hk,e]at h1;cases h1;rfl
theorem NR {w0:World} {b o m:Nat} {f:Nat→Nat} (hbw:b<w0.heap.size) (hrw:w0.rangeAt b o (aB (bj f))) :
  Calls prog 58 [bW b o 32 m].toArray w0 fun e w'=>FS.ok ⟨bj f,32,5,1,true,[],[]⟩ w0 e w':=by
 have hG:∀base w,dC prog (qG prog) base w:=fun _ _=>(aT _).w _ _
 have hT:∀base w,∀n d:Nat,TabOkW prog T0 base w:=fun _ _ _ _=>(dV _).w _ _
 have hnt:f58.ntmps=8:=Lb;refine eT func58 (cs:=[.v (.im (bW b o 32 m))]) (args:=[bW b o 32 m]) (c:=kK) rfl ⟨rfl,trivial⟩ (Nat.le_of_ble_eq_true (by kernel_rfl)) fun a w hA => ?_
 rw[hnt]at hA;rw[UU];refine wp_seq (aE aQ (hT _ _) (hG _ _) (La _) trivial hA fun a w hA => ?_);refine wp_seq (aE aQ (hT _ _) (uR w0 _ _ _) (Kz w0 _) ⟨XK _ _ _ _ _ _,trivial⟩ hA fun a w hA => ?_);have t0:=hA.slot (s:=0) (v:=bW b o 32 m) (by simp);have hd:=hA.defers;have hsz:=hA.size;have hbl:=hA.below;clear hA;refine wp_seq (gH (l:=0::(List.range' 1 ((bP GG).extract 1 2).size++(2::(List.range' 3 ((bP GG).extract 3 4).size++[])))) (by kernel_rfl) ?_);obtain⟨o0,ho0,hop0,hd0,hg0⟩:∃x,(bP GG)[0]?=some x∧x.op=.buildSlice 30 0 #[]∧x.dst=some 5∧x.guard=none:=⟨_,rfl,rfl,rfl,rfl⟩
 have hrun0:(execOp a.eval o0).run prog w=.ok (.value (bW w.heap.size 0 0 0)) (w.alloc (.cells #[] 5)):=by
  simp[execOp,hop0,VK w]
 refine eU ho0 hg0 (fP hrun0 ?_);rw[hd0];have hb1:Below w.heap.size w (w.alloc (.cells #[] 5)):=(Below.refl _ w).alloc (Nat.le_refl _) _;have hap:AppAt (w.alloc (.cells #[] 5)) w.heap.size 5 4 0 0:=⟨#[],World.alloc_heap_new _ _,Nat.le_refl _,Nat.zero_le _,rfl⟩;generalize hc0:w.heap.size=c0 at hap;have hc0':w0.heap.size≤c0:=by rw[←hc0]; exact hbl.size
 generalize w.alloc (.cells #[] 5)=w1 at *;have hb1:Below w0.heap.size w0 w1:=hbl.trans (hb1.mono (by rw[hc0]; exact hc0'));have hS:=oI (nt:=8) (w:=w1) (a:=a.put (some 5) (bW c0 0 0 0)) (ts:=[(5,bW c0 0 0 0),(0,bW b o 32 m)]) hd (by rw[cJ]; exact hsz) (fun x hx=>by
  simp only[List.mem_cons,List.not_mem_nil,or_false]at hx
  rcases hx with rfl|rfl
  ·exact dD _ _ _ (by rw[hsz]; decide)
  ·exact He t0 (by simp))
 refine bO (c:=Mb T0 _) (hT _ _ 0) (hG _ _) (Ky _ _) trivial (by kernel_rfl) hS fun a2 w2 hA => ?_
 obtain⟨o2,ho2,⟨ty,hop2⟩,hd2,hg2⟩:∃x,(bP GG)[2]?=some x∧(∃ty:Nat,x.op=.call ⟨.builtin .append,#[.tmp 5,.tmp 6],#[30,30]⟩∧x.type=ty)∧x.dst=some 7∧x.guard=none:=⟨_,rfl,⟨_,rfl,rfl⟩,rfl,rfl⟩
 have hb':=Nat.lt_of_lt_of_le hbw (hb1.trans (hA.below.mono hb1.size)).size;have hr:=bI (hb1.trans (hA.below.mono hb1.size)) hbw hrw;obtain⟨c,cap,w3,hr',a1,q2,q3,q4,a5,a6,a7⟩:=oL (P:=prog) w2 (ty:=o2.type) WS (u:=bW c0 0 0 0) (n:=0) (xs:=[]) (Or.inr ⟨c0,0,rfl,hap.shape hA.shapeJ,fun j v hj=>by simp at hj,rfl⟩) (ad:=⟨b,o,none⟩) (m:=32) (c:=m) (news:=aB (bj f)) (by rw[aJ]; kernel_rfl) (fun j v hj=>by
  have e:(⟨b,o,none⟩:Addr).add j=⟨b,o+j,none⟩:=by simp[Addr.add]
  rw[e];exact hr j v hj) (Ln f) (by decide) (by omega) (by unfold maxLen; omega)
 rw[Nat.zero_add]at hr';have hcap:32≤cap:=by obtain⟨_,_,h,_⟩:=a1; omega
 have hrun2:(execOp a2.eval o2).run prog w2=.ok (.value (bW c 0 32 cap)) w3:=by
  unfold execOp;simp only[hop2.1,resolve,invoke,builtin,Sem.run_bind,Sem.run_pure,Result.andThen_ok,List.map_toArray,List.map_cons,List.map_nil,Dv (hA.slot (s:=5) (v:=bW c0 0 0 0) (by simp)),Dv (hA.slot (s:=6) (v:=bW b o 32 m) (by simp))];rw[show bW b o 32 m=Value.slice (some ⟨b,o,none⟩) 32 m from rfl,hr'];rfl
 refine eU ho2 hg2 (fP hrun2 ?_);rw[hd2];have hb2:Below w0.heap.size w0 w2:=hb1.trans (hA.below.mono hb1.size);have hb3:Below w0.heap.size w0 w3:=hb2.grown a5 hb2.size (fun k hk=>by
  have:k=c0:=by simpa[bW,Value.ownBlock,eq_comm]using hk
  omega)
 have hcge:w0.heap.size≤c:=by
  rcases a7 with h|⟨cap0,h⟩
  ·exact Nat.le_trans hb2.size h
  ·have:c0=c:=by simp only[bW,Value.slice.injEq,Option.some.injEq,Addr.mk.injEq]at h; exact h.1.1
   omega
 have hS3:=oI (nt:=8) (w:=w3) (a:=a2.put (some 7) (bW c 0 32 cap)) (ts:=[(7,bW c 0 32 cap)]) hA.defers (by rw[cJ]; exact hA.size) (fun x hx=>by
  cases List.mem_singleton.1 hx;exact dD _ _ _ (by rw[hA.size]; decide))
 refine bO (c:=Mb T0 _) (hT _ _ 0) (hG _ _) (Kx _) trivial (by kernel_rfl) hS3 fun a4 w4 hA4 => ?_
 have hO:Own w3 c (bj f):=⟨q2,q3,q4⟩;exact wp_ret (iB (l:=[.im (bW c 0 32 cap)]) (r:=.one (.im (bW c 0 32 cap))) (by kernel_rfl) (by kernel_rfl) hA4 ⟨c,cap,rfl,hb3.trans (hA4.below.mono hb3.size),hcge,(hO.onJ hA4.below).lt,(hO.onJ hA4.below).row,(hO.onJ hA4.below).free,fun _=>a1.shape hA4.shapeJ⟩)
def Wn (f:Nat→Nat):List CA→Option (List Prop×FS)
 | [.s l n m]=>some ([n=32,aB l=aB (bj f)],⟨bj f,32,5,1,true,[],[]⟩)
 | _=>none
theorem Ju (f:Nat→Nat):∀cs pre r,Wn f cs=some (pre,r)→aS pre→∀(args:List Value) (w:World),cH w cs args→Calls prog 58 args.toArray w (fun e w'=>r.ok w e w'):=by
 intro cs pre r hg hp args w ha;unfold Wn at hg;split at hg
 ·rename_i l n m;cases hg;obtain⟨rfl,he,_⟩:=hp
  match args,ha with
  | [v],ha =>
   obtain⟨b,o,rfl,hb,hr⟩:=ha.1;exact NR hb (he▸hr)
  | [],ha=>exact ha.elim
  | _::_::_,ha=>exact ha.2.elim
 ·cases hg
theorem Holds.anew {nt base:Nat} {w0:World} {A:List Fact} {a:Act} {w:World} (h:Holds nt base w0 A a w) {w':World} (hb:Below base w0 w') (hs:Shape w w') (hh:base≤w'.heap.size) {d k b n:Nat} {l:List At} (hd:d<nt) (h1:base≤b) (h2:b<w'.heap.size) (h3:w'.rangeAt b 0 (aB l)) (h4:∀j,w'.frozen? ⟨b,j,none⟩=false) (hk:k≠nt) :
  Holds nt base w0 [.slot d (.sl k 0 n n),.row k true l] (a.put (some d) (bW b 0 n n)) w':=by
 obtain⟨β,g1,g2,g3,gt⟩:=h.facts;refine⟨by rw[iF]; exact h.defers,by rw[cJ]; exact h.size,hb,hh,fun j=>if j=nt then (0,0,0)else (b,0,0),fun φ hφ => ?_,fun k1 k2 o2 l1 l2 q1 q2 hne => ?_,fun k1 l1 q1=>Or.inr ?_,?_,fun p p1 p2 => ?_,gt.shape.trans hs⟩
 ·simp only[List.mem_cons,List.not_mem_nil,or_false]at hφ
  rcases hφ with rfl|rfl
  ·show (a.put (some d) _).tmps[d]?=_;rw[dD _ _ _ (by rw[h.size]; exact hd)];simp[AV.den,hk,bW]
  ·refine⟨by simp[hk,h2],?_,fun _=>⟨by simp[hk,h1],by simp[hk],fun j=>by simp[hk,h4]⟩,fun h=>by cases h⟩;show w'.rangeAt (if k=nt then ((0,0,0):Bk)else (b,0,0)).1 (if k=nt then ((0,0,0):Bk)else (b,0,0)).2.1 _;rw[if_neg hk]; exact h3
 ·simp only[List.mem_cons,List.not_mem_nil,or_false,reduceCtorEq,false_or]at q1 q2;cases q1; cases q2; exact (hne rfl).elim
 ·show (if nt=nt then ((0,0,0):Bk)else (b,0,0)).1≤_;rw[if_pos rfl]; exact Nat.zero_le _
 ·show (if nt=nt then ((0,0,0):Bk)else (b,0,0)).1≤_;rw[if_pos rfl]; exact Nat.zero_le _
 ·exfalso;have h2:p.block<(if nt=nt then ((0,0,0):Bk)else (b,0,0)).1:=p2;rw[if_pos rfl]at h2;exact absurd h2 (Nat.not_lt_zero _)
def u3 (n:Nat):Value:=.int .u32 (Int.ofNat n)
def FL (z:Int) (b:Nat):Prop:=∃(s:Bool) (k:Nat),Ieee.double.read b=.number s (z.natAbs*2^k) (-(k:Int))∧(z=0∨s=decide (z<0))
theorem Ku:Ieee.double.signWeight=2^63:=by decide
theorem KB:Ieee.double.binade=2^52:=by decide
theorem KA:Ieee.double.infRung=2047*2^52:=by decide
theorem GB:Ieee.double.leastPlace = -1074:=by decide
theorem LJ (s:Bool) {e m:Nat} (he:e<2046) (hm:m<2^52):Ieee.double.read (Ieee.double.word s ((e+1)*2^52+m))=.number s (2^52+m) (-1074+(e:Int)):=by
 have h1:(e+1)*2^52+m<2^63:=by omega
 unfold Ieee.Format.read Ieee.Format.word;simp only[Ku,KB,KA,GB];have h2:(if s=true then 2^63+((e+1)*2^52+m)else (e+1)*2^52+m)%2^63=(e+1)*2^52+m:=by cases s<;>simp<;>omega
 have h3:((if s=true then 2^63+((e+1)*2^52+m)else (e+1)*2^52+m)/2^63%2==1)=s:=by cases s<;>simp<;>omega
 rw[h2,h3,if_neg (by omega),if_pos (by omega)];have h4:((e+1)*2^52+m)%2^52=m:=by omega
 have h5:((e+1)*2^52+m)/2^52-1=e:=by omega
 rw[h4,h5]
theorem LI (s:Bool):Ieee.double.read (Ieee.double.word s 0)=.number s 0 (-1074):=by
 cases s<;>decide
theorem FL.write {s:Bool} {z:Int} {k:Nat} (hz:z.natAbs<2^53) (hs:z=0∨s=decide (z<0)):FL z (Ieee.double.write (.number s (z.natAbs*2^k) (-(k:Int)))):=by
 by_cases h0:z=0
 ·subst h0;refine⟨s,1074,?_,Or.inl rfl⟩;show Ieee.double.read (Ieee.double.nearest s (0*2^k) _)=_;unfold Ieee.Format.nearest;rw[Nat.zero_mul,if_pos rfl,LI];have e:∀n:Nat,(0:Int).natAbs*n=0:=fun n=>Nat.zero_mul n
  rw[e]<;>rfl
 ·have hn:z.natAbs≠0:=by omega
  obtain⟨L,hL1,hL2⟩:∃L,2^L≤z.natAbs∧z.natAbs<2^(L+1):=⟨z.natAbs.log2,Nat.log2_self_le hn,Nat.lt_log2_self⟩
  have hL:L≤52:=by
   rcases Nat.lt_or_ge 52 L with h|h
   ·have:=Nat.pow_le_pow_right (n:=2) (by omega) (show 53≤L by omega);omega
   ·exact h
  have hpos:z.natAbs*2^k≠0:=Nat.mul_ne_zero hn (Nat.pos_iff_ne_zero.1 (Nat.two_pow_pos k));have hlog:(z.natAbs*2^k).log2=L+k:=by
   refine (Nat.log2_eq_iff hpos).2 ⟨?_,?_⟩
   ·rw[Nat.pow_add]; exact Nat.mul_le_mul_right _ hL1
   ·rw[show L+k+1=(L+1)+k by omega,Nat.pow_add]; exact (Nat.mul_lt_mul_right (Nat.two_pow_pos k)).2 hL2
  have hkept:Ieee.Toward.even.cut s ((z.natAbs*2^k) <<< (-(k:Int)-((L:Int)-52)).toNat) (((L:Int)-52) - -(k:Int)).toNat=z.natAbs*2^(52-L):=by
   rcases Nat.lt_or_ge (52-L) k with h|h
   ·
    have e1:(-(k:Int)-((L:Int)-52)).toNat=0:=by omega
    have e2:(((L:Int)-52) - -(k:Int)).toNat=k-(52-L):=by omega
    rw[e1,e2,Nat.shiftLeft_zero];have e3:z.natAbs*2^k=z.natAbs*2^(52-L)*2^(k-(52-L)):=by rw[Nat.mul_assoc,←Nat.pow_add,show 52-L+(k-(52-L))=k by omega]
    unfold Ieee.Toward.cut;have e4:min (k-(52-L)) ((z.natAbs*2^k).log2+2)=k-(52-L):=by rw[hlog]; omega
    simp only[e4,Nat.one_shiftLeft];have e5:z.natAbs*2^k/2^(k-(52-L))=z.natAbs*2^(52-L):=by rw[e3,Nat.mul_div_cancel _ (Nat.two_pow_pos _)]
    have e6:z.natAbs*2^k%2^(k-(52-L))=0:=by rw[e3,Nat.mul_mod_left]
    rw[e5,e6];have hg:=Nat.two_pow_pos (k-(52-L));have e7:decide (2^(k-(52-L))<2*0)=false:=decide_eq_false (by omega);have e8:(2^(k-(52-L))==2*0)=false:=by rw[beq_eq_false_iff_ne]; omega
    rw[e7,e8];rfl
   ·have e1:(-(k:Int)-((L:Int)-52)).toNat=52-L-k:=by omega
    have e2:(((L:Int)-52) - -(k:Int)).toNat=0:=by omega
    rw[e1,e2,Nat.shiftLeft_eq,Nat.mul_assoc,←Nat.pow_add,show k+(52-L-k)=52-L by omega];unfold Ieee.Toward.cut;simp[Nat.mod_one]
  have hk1:2^52≤z.natAbs*2^(52-L):=by
   have:=Nat.mul_le_mul_right (2^(52-L)) hL1
   rwa [←Nat.pow_add,show L+(52-L)=52 by omega]at this
  have hk2:z.natAbs*2^(52-L)<2^53:=by
   have:=(Nat.mul_lt_mul_right (Nat.two_pow_pos (52-L))).2 hL2
   rwa [←Nat.pow_add,show L+1+(52-L)=53 by omega]at this
  refine⟨s,52-L,?_,Or.inr (hs.resolve_left h0)⟩;show Ieee.double.read (Ieee.double.nearest s (z.natAbs*2^k) (-(k:Int)))=_;unfold Ieee.Format.nearest;rw[if_neg hpos];have hfb:((Ieee.double.fractionBits:Nat):Int)=52:=rfl;have elast:max (-(k:Int)+((z.natAbs*2^k).log2:Int)-(Ieee.double.fractionBits:Int)) Ieee.double.leastPlace=(L:Int)-52:=by
   rw[hlog,hfb,GB]; omega
  simp only[elast];rw[hkept,GB,KB,KA];generalize z.natAbs*2^(52-L)=K at hk1 hk2 ⊢;have e9:((L:Int)-52 - -1074).toNat=L+1022:=by omega
  rw[e9];have hB:(2:Nat)^53=2*2^52:=by rw[Nat.pow_succ,Nat.mul_comm]
  rw[hB]at hk2;have hr:=LJ s (e:=L+1022) (m:=K-2^52) (by omega);generalize (2:Nat)^52=B at hk1 hk2 hr ⊢;have hr:=hr (by omega);have Zz:(L+1022)*B≤1074*B:=Nat.mul_le_mul_right _ (by omega);have e13:(L+1022)*B+K≤2047*B:=by omega
  have e14:(L+1022+1)*B=(L+1022)*B+B:=by rw[Nat.add_mul _ 1,Nat.one_mul]
  have e10:min ((L+1022)*B+K) (2047*B)=(L+1022+1)*B+(K-B):=by rw[Nat.min_eq_left e13,e14]; omega
  rw[e10,hr];have e11:B+(K-B)=K:=by omega
  rw[e11];congr 1;omega
theorem uW {s:Bool} {z:Int} {k K:Nat} (hk:k≤K) (hs:z=0∨s=decide (z<0)):Ieee.signed s (z.natAbs*2^k) (K-k)=z*(2^K:Nat):=by
 have e:(z.natAbs*2^k) <<< (K-k)=z.natAbs*2^K:=by rw[Nat.shiftLeft_eq,Nat.mul_assoc,←Nat.pow_add,show k+(K-k)=K by omega]
 unfold Ieee.signed;rw[e];generalize 2^K=B
 rcases hs with rfl|rfl
 ·cases s<;>simp
 ·by_cases h:z<0
  ·rw[decide_eq_true h,if_pos rfl];have:((z.natAbs*B:Nat):Int) = -z*(B:Int):=by rw[Int.natCast_mul,show ((z.natAbs:Nat):Int) = -z by omega]
   rw[this,Int.neg_mul,Int.neg_neg]
  ·rw[decide_eq_false h,if_neg (by simp)];rw[Int.natCast_mul,show ((z.natAbs:Nat):Int)=z by omega]
theorem FL.sum {z y:Int} {s t:Bool} {k l:Nat} (hs:z=0∨s=decide (z<0)) (ht:y=0∨t=decide (y<0)) (hb:(z+y).natAbs<2^53):∃d,Ieee.Datum.sum (.number s (z.natAbs*2^k) (-(k:Int))) (.number t (y.natAbs*2^l) (-(l:Int)))=some d∧FL (z+y) (Ieee.double.write d):=by
 have ebase:min (-(k:Int)) (-(l:Int)) = -((max k l:Nat):Int):=by omega
 have e1:(-(k:Int) - -((max k l:Nat):Int)).toNat=max k l-k:=by omega
 have e2:(-(l:Int) - -((max k l:Nat):Int)).toNat=max k l-l:=by omega
 refine⟨_,rfl,?_⟩;simp only[ebase,e1,e2,uW (Nat.le_max_left k l) hs,uW (Nat.le_max_right k l) ht];rw[←Int.add_mul];have hp:0<2^(max k l):=Nat.two_pow_pos _;have ea:((z+y)*((2^(max k l):Nat):Int)).natAbs=(z+y).natAbs*2^(max k l):=by rw[Int.natAbs_mul,Int.natAbs_natCast]
 rw[ea];refine FL.write hb ?_
 by_cases h0:z+y=0
 ·exact Or.inl h0
 ·right;have hB:(0:Int)<((2^(max k l):Nat):Int):=by omega
  have hne:(z+y)*((2^(max k l):Nat):Int)≠0:=Int.mul_ne_zero h0 (by omega);rw[if_neg hne];congr 1;exact propext ⟨fun h=>by
   rcases (show z+y<0∨0≤z+y by omega)with q|q
   ·exact q
   ·exact absurd h (Int.not_lt.2 (Int.mul_nonneg q (Int.le_of_lt hB))),fun h=>Int.mul_neg_of_neg_of_pos h hB⟩
theorem FL.add {z y:Int} {a b:Nat} (h1:FL z a) (h2:FL y b) (hb:(z+y).natAbs<2^53):∃r,floatBits .add .f64 a b=some r∧FL (z+y) r:=by
 obtain⟨s,k,e1,hs⟩:=h1;obtain⟨t,l,e2,ht⟩:=h2;obtain⟨d,hd,hf⟩:=FL.sum (k:=k) (l:=l) hs ht hb;refine⟨_,?_,hf⟩;show ((Ieee.double.read a).sum (Ieee.double.read b)).map Ieee.double.write=_;rw[e1,e2,hd];rfl
theorem FL.sub {z y:Int} {a b:Nat} (h1:FL z a) (h2:FL y b) (hb:(z-y).natAbs<2^53):∃r,floatBits .sub .f64 a b=some r∧FL (z-y) r:=by
 obtain⟨s,k,e1,hs⟩:=h1;obtain⟨t,l,e2,ht⟩:=h2;have ht2 : -y=0∨(!t)=decide (-y<0):=by
  by_cases h0:y=0
  ·left; omega
  ·right;rw[ht.resolve_left h0]
   by_cases h:y<0
   ·rw[decide_eq_true h,decide_eq_false (by omega)]; rfl
   ·rw[decide_eq_false h,decide_eq_true (by omega)]; rfl
 obtain⟨d,hd,hf⟩:=FL.sum (k:=k) (l:=l) hs ht2 (by rw[←Int.sub_eq_add_neg]; exact hb);rw[←Int.sub_eq_add_neg]at hf;refine⟨_,?_,hf⟩;show ((Ieee.double.read a).sum (Ieee.double.read b).opposite).map Ieee.double.write=_;rw[e1,e2];rw[Int.natAbs_neg]at hd;show (Ieee.Datum.sum _ (.number (!t) _ _)).map Ieee.double.write=_;rw[hd];rfl
theorem FL.mul {z y:Int} {a b:Nat} (h1:FL z a) (h2:FL y b) (hb:(z*y).natAbs<2^53):∃r,floatBits .mul .f64 a b=some r∧FL (z*y) r:=by
 obtain⟨s,k,e1,hs⟩:=h1;obtain⟨t,l,e2,ht⟩:=h2;refine⟨Ieee.double.write (.number (s ^^ t) ((z*y).natAbs*2^(k+l)) (-((k+l:Nat):Int))),?_,FL.write hb ?_⟩
 ·show ((Ieee.double.read a).product (Ieee.double.read b)).map Ieee.double.write=_;rw[e1,e2];show some (Ieee.double.write (.number (s ^^ t) (z.natAbs*2^k*(y.natAbs*2^l)) (-(k:Int) + -(l:Int))))=_;have e3:z.natAbs*2^k*(y.natAbs*2^l)=(z*y).natAbs*2^(k+l):=by rw[Int.natAbs_mul,Nat.pow_add,Nat.mul_mul_mul_comm]
  have e4 : -(k:Int) + -(l:Int) = -((k+l:Nat):Int):=by omega
  rw[e3,e4]
 ·by_cases h0:z=0
  ·left; rw[h0,Int.zero_mul]
  ·by_cases h3:y=0
   ·left; rw[h3,Int.mul_zero]
   ·right;rw[hs.resolve_left h0,ht.resolve_left h3]
    rcases (show z<0∨0≤z by omega)with q|q<;>rcases (show y<0∨0≤y by omega)with q'|q'
    ·rw[decide_eq_true q,decide_eq_true q',decide_eq_false (Int.not_lt.2 (Int.le_of_lt (Int.mul_pos_of_neg_of_neg q q')))]; rfl
    ·rw[decide_eq_true q,decide_eq_false (Int.not_lt.2 q'),decide_eq_true (Int.mul_neg_of_neg_of_pos q (by omega))]; rfl
    ·rw[decide_eq_false (Int.not_lt.2 q),decide_eq_true q',decide_eq_true (Int.mul_neg_of_pos_of_neg (by omega) q')]; rfl
    ·rw[decide_eq_false (Int.not_lt.2 q),decide_eq_false (Int.not_lt.2 q'),decide_eq_false (Int.not_lt.2 (Int.mul_nonneg q q'))]; rfl
def iV (z:Int):Value:=.int .i64 z
def x4 (X:Nat→Int):List At:=[.c (iV (X 0)),.c (iV (X 1)),.c (iV (X 2)),.c (iV (X 3))]
def z4:Nat→Int:=fun _=>0
def Vf (X:Nat→Int):Prop:=∀k,k<4 → -1099511627776≤X k∧X k≤1099511627776
instance (X:Nat→Int):Decidable (Vf X):=Nat.decidableBallLT 4 fun k _ => -1099511627776≤X k∧X k≤1099511627776
theorem LV.take {w:World} {p:Option Addr} {N m T:Nat} {f:Nat→Nat} (h:LV w (.slice p N m) N f) (hT:T≤N):LV w (.slice p T m) T f:=by
 obtain⟨p',m',e,h2,h3,h4⟩:=h;cases e;refine⟨p,m,rfl,Nat.le_trans hT h2,fun j hj=>h3 j (by omega),fun h0 => ?_⟩;obtain⟨b,o,e,hb,hr⟩:=h4 (by omega);refine⟨b,o,e,hb,fun j x hj=>hr j x ?_⟩;have key:∀(i n s:Nat),i≤n→gO (el f) s n=gO (el f) s i++gO (el f) (s+i) (n-i):=fun i=>by
  induction i with
  | zero=>intro n s _; rfl
  | succ i ih =>
   intro n s h;obtain⟨n,rfl⟩:∃k,n=k+1:=⟨n-1,by omega⟩
   show el f s++gO (el f) (s+1) n=(el f s++gO (el f) (s+1) i)++_;rw[ih n (s+1) (by omega),List.append_assoc,show s+1+i=s+(i+1) by omega,show n+1-(i+1)=n-i by omega]
 rw[key T N 0 hT,aL,List.getElem?_append_left (List.getElem?_eq_some_iff.1 hj).1];exact hj
end Go.Proofs.YtpjlhhpjpnacmaaGreat.Ex
namespace Go.Proofs.YtpjlhhpjpnacmaaGreat
open Go.Proofs.Tryz
open Go.RowKit
def jD (a0 a1 a2 a3 a4 a5 a6 a7:Nat):Nat:=a0+4294967296*(a1+4294967296*(a2+4294967296*(a3+4294967296*(a4+4294967296*(a5+4294967296*(a6+4294967296*a7))))))
def MD (a0 a1 a2 a3 a4 a5 a6 a7:Nat):Prop:=a0<4294967296∧a1<4294967296∧a2<4294967296∧a3<4294967296∧a4<4294967296∧a5<4294967296∧a6<4294967296∧a7<4294967296
theorem fL {a:Nat} (ha:a<18446744073709551616):∃l h:Nat,bits .and .u64 (a:Int) 4294967295=(l:Int)∧(a:Int)/4294967296=(h:Int)∧l<4294967296∧h<4294967296∧Hid (l+4294967296*h=a):=by
 obtain⟨h,l,e1,e2,h1,h2,e⟩:=Bb ha;exact⟨l,h,e2,e1,h2,h1,Lib.hid (by omega)⟩
def uE (A:Nat) (w:World) (e:Ending) (w':World):Prop :=
 ∃h0 h1 h2 h3 h4 h5 h6 h7:Nat,e=.returned (.agg #[.int .u64 h0,.int .u64 h1,.int .u64 h2,.int .u64 h3,.int .u64 h4,.int .u64 h5,.int .u64 h6,.int .u64 h7])∧MD h0 h1 h2 h3 h4 h5 h6 h7∧Hid (jD h0 h1 h2 h3 h4 h5 h6 h7=A)∧Below w.heap.size w w'
set_option maxHeartbeats 1000000 in
theorem kD (a0 a1 a2 a3:Nat) (ha:aZ a0 a1 a2 a3) (w:World) :
  Calls prog 125 #[.agg #[.int .u64 a0,.int .u64 a1,.int .u64 a2,.int .u64 a3]] w (uE (aA a0 a1 a2 a3) w):=by
 obtain⟨h0,h1,d0,d1,b0,b1,e0⟩:=fL ha.1;obtain⟨h2,h3,d2,d3,b2,b3,e1⟩:=fL ha.2.1;obtain⟨h4,h5,d4,d5,b4,b5,e2⟩:=fL ha.2.2.1;obtain⟨h6,h7,d6,d7,b6,b7,e3⟩:=fL ha.2.2.2
 go_enter func125,ntmps125
 go_wp2_with fail;refine wp_loop_rounds 5 ?_;rw[rounds_succ];go_wp2_with fail;rw[rounds_succ];go_wp2_with fail;rw[rounds_succ];go_wp2_with fail;rw[rounds_succ];go_wp2_with fail;rw[rounds_succ];go_wp2_with fail;refine bodyPost_ret (v:=.agg #[.int .u64 h0,.int .u64 h1,.int .u64 h2,.int .u64 h3,.int .u64 h4,.int .u64 h5,.int .u64 h6,.int .u64 h7]) (by simp[results,results125,go_sem]) rfl ?_;refine⟨h0,h1,h2,h3,h4,h5,h6,h7,rfl,⟨b0,b1,b2,b3,b4,b5,b6,b7⟩,?_,?_⟩
 ·have:=e0.out; have:=e1.out; have:=e2.out; have:=e3.out;exact Lib.hid (by unfold aA jD; omega)
 repeat (first|exact Below.refl _ _|refine Below.drew ?_|refine Below.alloc ?_ (by first|(simp; done)|(simp; omega)) _)
theorem pE {l h:Nat} (hl:l<4294967296) (hh:h<4294967296):∃u s:Nat,(h:Int)*4294967296=(u:Int)∧bits .or .u64 (l:Int) (u:Int)=(s:Int)∧u<18446744073709551616∧s<18446744073709551616∧Hid (s=l+4294967296*h):=by
 obtain⟨s,e,hs,f⟩:=lY (k:=32) (lo:=l) (up:=h*4294967296) (by omega) (by omega) (Lib.hid (by omega)) (Lib.hid ⟨h,by omega⟩);have:=f.out;exact⟨h*4294967296,s,by omega,e,by omega,hs,Lib.hid (by omega)⟩
set_option maxHeartbeats 1000000 in
theorem nN (h0 h1 h2 h3 h4 h5 h6 h7:Nat) (hh:MD h0 h1 h2 h3 h4 h5 h6 h7) (g o c:Nat) (w:World)
  (c0:w.cell? ⟨g,o,none⟩=some (.int .u64 h0)) (c1:w.cell? ⟨g,o+1,none⟩=some (.int .u64 h1)) (c2:w.cell? ⟨g,o+2,none⟩=some (.int .u64 h2)) (c3:w.cell? ⟨g,o+3,none⟩=some (.int .u64 h3))
  (c4:w.cell? ⟨g,o+4,none⟩=some (.int .u64 h4)) (c5:w.cell? ⟨g,o+5,none⟩=some (.int .u64 h5)) (c6:w.cell? ⟨g,o+6,none⟩=some (.int .u64 h6)) (c7:w.cell? ⟨g,o+7,none⟩=some (.int .u64 h7)) (hg:g<w.heap.size) :
  Calls prog 129 #[.slice (some ⟨g,o,none⟩) 8 c] w (gT (fun v=>v=jD h0 h1 h2 h3 h4 h5 h6 h7) w):=by
 obtain⟨k0,k1,k2,k3,k4,k5,k6,k7⟩:=hh;obtain⟨u0,s0,p0,q0,a0,b0,e0⟩:=pE k0 k1;obtain⟨u1,s1,p1,q1,a1,b1,e1⟩:=pE k2 k3;obtain⟨u2,s2,p2,q2,a2,b2,e2⟩:=pE k4 k5;obtain⟨u3,s3,p3,q3,a3,b3,e3⟩:=pE k6 k7
 go_enter func129,ntmps129
 go_wp2_with fail;refine wp_loop_rounds 5 ?_;rw[rounds_succ];go_wp2_with fail
 go_region
 go_wp2_with fail;rw[rounds_succ];go_wp2_with fail
 go_region
 go_wp2_with fail;rw[rounds_succ];go_wp2_with fail
 go_region
 go_wp2_with fail;rw[rounds_succ];go_wp2_with fail
 go_region
 go_wp2_with fail;rw[rounds_succ];go_wp2_with fail;refine bodyPost_ret (v:=.agg #[.int .u64 s0,.int .u64 s1,.int .u64 s2,.int .u64 s3]) (by simp[results,results129,go_sem]) rfl ?_;refine⟨s0,s1,s2,s3,rfl,⟨b0,b1,b2,b3⟩,?_,?_⟩
 ·have:=e0.out; have:=e1.out; have:=e2.out; have:=e3.out;unfold aA jD; omega
 repeat (first|exact Below.refl _ _|refine Below.drew ?_|refine Below.alloc ?_ (by first|(simp; done)|(simp; omega)) _)
section
variable {P:Program} {ops:Array Oper} {Q:Exit→Act→World→Prop} {md:Region.Mode}
def Eg (md:Region.Mode) (ops:Array Oper) (n:Nat):Bool :=
 (List.range n).all fun i=>match ops[i]? with
  | some o=>o.after.all fun e => !Region.binds md e||decide (e.on<i)
  | none=>false
def nJ (md:Region.Mode) (ops:Array Oper) (got:Nat→Bool) (i:Nat):Bool :=
 match ops[i]? with
  | some o=>o.after.all fun e => !Region.binds md e||got e.on
  | none=>false
def gI (listed:Array Bool):Nat→Nat
 | 0=>0
 | n+1=>gI listed n+if listed.getD n false=true then 0 else 1
theorem iP (listed:Array Bool) (n:Nat):gI listed (n+1)=gI listed n+if listed.getD n false=true then 0 else 1:=rfl
theorem sF {listed:Array Bool} {i:Nat} (hi:i<listed.size) (h:listed.getD i false=false):∀n,gI (listed.setIfInBounds i true) n+(if i<n then 1 else 0)=gI listed n
 | 0=>by simp[gI]
 | n+1=>by
  have ih:=sF hi h n;rw[iP,iP]
  by_cases e:i=n
  ·subst e;have h1:(listed.setIfInBounds i true).getD i false=true:=by simp[hi]
   rw[h1,h];simp at ih ⊢;omega
  ·rw[getD_set_ne false e]
   by_cases h2:i<n
   ·rw[if_pos h2]at ih; rw[if_pos (show i<n+1 by omega)]; omega
   ·rw[if_neg h2]at ih; rw[if_neg (show ¬i<n+1 by omega)]; omega
theorem kY {listed:Array Bool}:∀{n:Nat},gI listed n=0→∀j,j<n→listed.getD j false=true
 | 0,_,j,hj=>by omega
 | n+1,h,j,hj=>by
  rw[iP]at h
  by_cases e:listed.getD n false=true
  ·rw[if_pos e]at h
   rcases Nat.lt_or_ge j n with h1|h1
   ·exact kY (by omega) j h1
   ·obtain rfl:j=n:=by omega
    exact e
  ·rw[if_neg e]at h; omega
theorem kZ {listed:Array Bool}:∀{n:Nat},0<gI listed n→∃j,j<n∧listed.getD j false=false∧∀k,k<j→listed.getD k false=true
 | 0,h=>by unfold gI at h; omega
 | n+1,h=>by
  rcases Nat.eq_zero_or_pos (gI listed n)with h0|h0
  ·unfold gI at h;rw[h0]at h;refine⟨n,by omega,?_,kY h0⟩;cases e:listed.getD n false with
   | true=>rw[e]at h; simp at h
   | false=>rfl
  ·obtain⟨j,hj,h1,h2⟩:=kZ h0;exact⟨j,by omega,h1,h2⟩
def jM (n m:Nat):Array Bool:=Array.replicate n true++Array.replicate (m-n) false
theorem oC {n:Nat} {Inv:(Nat→Bool)→Act→World→Prop} {l:List Oper} (hl:ops=l.toArray) (hn:n<ops.size)
  (hs:Region.sinkB md ops n=true) (hc:Region.chainB md ops n=true) (hb:Eg md ops n=true) (hq:Region.seqB md ops (ops.size-n) n (jM n ops.size)=true)
  (step:∀(got:Nat→Bool) b u i,i<n→got i=false→nJ md ops got i=true→Inv got b u→wpOp P ops Q i (Inv (fun j=>j==i||got j)) b u)
  (tail:∀got b u,(∀j,j<n→got j=true)→Inv got b u→wpList P ops Q (l.drop n) b u) :
  ∀(m:Nat) (listed:Array Bool) (b:Act) (u:World),HeadInv md ops n listed→gI listed n=m→Inv (fun j=>listed.getD j false) b u→wpAny P md ops Q (m+(ops.size-n)) listed b u
 | 0,listed,b,u,inv,hm,h=>by
  have hall:=kY hm;have he:listed=jM n ops.size:=by
   refine Array.ext (by simp[jM,inv.size]; omega) fun j h1 h2 => ?_
   rcases Nat.lt_or_ge j n with hj|hj
   ·have:=hall j hj;simp[h1]at this;rw[this];simp[jM,hj]
   ·have:=inv.tail j hj (by rw[←inv.size]; exact h1);simp[h1]at this;rw[this];simp[jM,hj]
  subst he;have hlen:(l.drop n).length=ops.size-n:=by subst hl; simp
  rw[Nat.zero_add,←hlen];exact wpAny_of_seq (l.drop n) n _ b u (fun j=>by subst hl; simp[List.getElem?_drop]) (by rw[hlen]; exact hq) (tail _ b u hall h)
 | m+1,listed,b,u,inv,hm,h=>by
  rw[show m+1+(ops.size-n)=m+(ops.size-n)+1 by omega];refine⟨fun h0 => ?_,fun i hi => ?_⟩
  ·obtain⟨j,hj,h1,h2⟩:=kZ (n:=n) (listed:=listed) (by omega);have hjr:j∈Region.ready md ops listed:=by
    have hbj:=List.all_eq_true.1 hb j (List.mem_range.2 hj);cases ho:ops[j]? with
    | none=>rw[ho]at hbj; cases hbj
    | some o =>
     rw[ho]at hbj;refine mem_ready.2 ⟨getD_in (by rw[inv.size]; omega) h1,o,ho,fun e he hbi=>h2 _ ?_⟩;have:=(Array.all_eq_true_iff_forall_mem.1 hbj) e he;simp[hbi]at this;exact this
   rw[h0]at hjr; cases hjr
  ·obtain⟨hun,o,ho,hall⟩:=mem_ready.1 hi;have hin:i<n:=by
    rcases Nat.lt_or_ge i n with h'|h'
    ·exact h'
    ·obtain⟨j,hj,h1,h2⟩:=kZ (n:=n) (listed:=listed) (by omega);exact absurd hi (tail_waits hs hc hn inv _ j rfl hj (getD_in (by rw[inv.size]; omega) h1) i h')
   have his:i<listed.size:=by rw[inv.size]; omega
   have hun':=getD_both hun;refine wpOp_mono (fun b' u' h' => ?_) (step _ b u i hin hun' (by
    unfold nJ;rw[ho];refine Array.all_eq_true_iff_forall_mem.2 fun e he => ?_
    cases hbi:Region.binds md e with
    | false=>rfl
    | true=>simpa[hbi]using hall e he hbi) h)
   refine oC hl hn hs hc hb hq step tail m _ b' u' (inv.set hi hin) ?_ ?_
   ·have:=sF his hun' n;rw[if_pos hin]at this; omega
   ·have hf:(fun j=>(listed.setIfInBounds i true).getD j false)=fun j=>j==i||listed.getD j false:=by
     funext j
     by_cases e:j=i
     ·subst e; simp[his]
     ·rw[getD_set_ne false (Ne.symm e)]; simp[e]
    rw[hf]; exact h'
theorem sG (k:Nat):∀n,gI (Array.replicate k false) n=n
 | 0=>rfl
 | n+1=>by rw[iP,sG k n,getD_replicate_false]; simp
theorem lH (n:Nat) (Inv:(Nat→Bool)→Act→World→Prop) {id:Nat} {a:Act} {w:World} {l:List Oper} (hm:P.follows .mixedOrders=true) (hn:n<l.length)
  (hs:Region.sinkB .any l.toArray n=true) (hc:Region.chainB .any l.toArray n=true) (hb:Eg .any l.toArray n=true) (hq:Region.seqB .any l.toArray (l.toArray.size-n) n (jM n l.toArray.size)=true)
  (start:Inv (fun _=>false) a w.drew)
  (step:∀(got:Nat→Bool) b u i,i<n→got i=false→nJ .any l.toArray got i=true→Inv got b u→wpOp P l.toArray Q i (Inv (fun j=>j==i||got j)) b u)
  (tail:∀got b u,(∀j,j<n→got j=true)→Inv got b u→wpList P l.toArray Q (l.drop n) b u):(Code.region id l.toArray true).wp P Q a w:=by
 have hn':n<l.toArray.size:=by simpa using hn
 have inv0:HeadInv .any l.toArray n (Array.replicate l.toArray.size false) :=
  ⟨by simp,fun j oj _ hl=>(by rw[getD_replicate_false]at hl; cases hl),fun t _ ht=>getD_in (by simpa using ht) (getD_replicate_false _ _)⟩
 refine wp_region_any hm ?_;have hf:(fun j=>(Array.replicate l.toArray.size false).getD j false)=fun _:Nat=>false:=by funext j; exact getD_replicate_false _ _
 have H:=oC (md:=.any) rfl hn' hs hc hb hq step tail n _ a w.drew inv0 (sG _ n) (by rw[hf]; exact start);rw[show n+(l.toArray.size-n)=l.toArray.size by omega]at H;exact H
end
structure QW (w wr:World) (A B P:Nat→Nat):Prop where
 below:Below w.heap.size w wr
 size:w.heap.size+1+1+1<wr.heap.size
 rowA:RowIs wr w.heap.size 4 A
 rowB:RowIs wr (w.heap.size+1) 4 B
 rowR:RowIs wr (w.heap.size+1+1) 4 (fun _=>0)
 rowP:RowIs wr (w.heap.size+1+1+1) 4 P
theorem QW.set {w wr:World} {A B P:Nat→Nat} (h:QW w wr A B P) {k d:Nat} (hk:k<4):QW w (wr.setCell ⟨w.heap.size+1+1+1,k,none⟩ (.int .u64 (d:Nat))) A B (cV P k d) :=
 ⟨h.below.setCell (p:=⟨w.heap.size+1+1+1,k,none⟩) (by simp; omega) _,by rw[World.size_setCell]; exact h.size,h.rowA.other (by omega) _,h.rowB.other (by omega) _,h.rowR.other (by omega) _,h.rowP.set hk⟩
theorem QW.drewN {w wr:World} {A B P:Nat→Nat} (h:QW w wr A B P) (n:Nat):QW w (wr.drewN n) A B P:=⟨h.below.trans (aN _ _ _),h.size,h.rowA,h.rowB,h.rowR,h.rowP⟩
theorem QW.start (w:World) (a0 a1 a2 a3 b0 b1 b2 b3:Nat) (t:TypeId):QW w ((((w.alloc (.cells #[.int .u64 a0,.int .u64 a1,.int .u64 a2,.int .u64 a3] t)).alloc (.cells #[.int .u64 b0,.int .u64 b1,.int .u64 b2,.int .u64 b3] t)).alloc (.cells #[.int .u64 0,.int .u64 0,.int .u64 0,.int .u64 0] t)).alloc (.cells #[.int .u64 0,.int .u64 0,.int .u64 0,.int .u64 0] t)) (cQ [a0,a1,a2,a3]) (cQ [b0,b1,b2,b3]) (fun _=>0):=by
 refine⟨?_,by simp,?_,?_,?_,?_⟩
 ·repeat (first|exact Below.refl _ _|refine Below.alloc ?_ (by first|(simp; done)|(simp; omega)) _)
 ·exact RowIs.mk4 (by simp[go_sem]) (by simp[go_sem]) (by simp[go_sem]) (by simp[go_sem]) (fun k=>by simp[go_sem])
 ·exact RowIs.mk4 (by simp[go_sem]) (by simp[go_sem]) (by simp[go_sem]) (by simp[go_sem]) (fun k=>by simp[go_sem])
 ·intro k hk
  match k,hk with
  | 0,_|1,_|2,_|3,_=>exact⟨by simp[go_sem],by simp[go_sem]⟩
 ·intro k hk
  match k,hk with
  | 0,_|1,_|2,_|3,_=>exact⟨by simp[go_sem],by simp[go_sem]⟩
theorem pZ {A B P:Nat→Nat} {k c t d:Nat} (h:cD 18446744073709551616 P k+c*18446744073709551616^k=cD 18446744073709551616 A k+cD 18446744073709551616 B k) (e:t+18446744073709551616*d=A k+B k+c):cD 18446744073709551616 (cV P k t) (k+1)+d*18446744073709551616^(k+1)=cD 18446744073709551616 A (k+1)+cD 18446744073709551616 B (k+1):=by
 rw[bD,bD,bD,dW 18446744073709551616 P k t k (Nat.le_refl _),Nat.pow_succ];have hu:cV P k t k=t:=by unfold cV; rw[if_pos rfl]
 rw[hu];have e':t*18446744073709551616^k+d*(18446744073709551616^k*18446744073709551616)=A k*18446744073709551616^k+B k*18446744073709551616^k+c*18446744073709551616^k:=by
  rw[←Nat.add_mul,←Nat.add_mul,←e,Nat.add_mul];congr 1;rw[Nat.mul_comm (18446744073709551616^k) 18446744073709551616,←Nat.mul_assoc,Nat.mul_comm d 18446744073709551616]
 omega
theorem kC {A B P:Nat→Nat} {k c t d:Nat} (h:cD 18446744073709551616 P k+cD 18446744073709551616 B k=cD 18446744073709551616 A k+c*18446744073709551616^k) (e:t+B k+c=A k+18446744073709551616*d):cD 18446744073709551616 (cV P k t) (k+1)+cD 18446744073709551616 B (k+1)=cD 18446744073709551616 A (k+1)+d*18446744073709551616^(k+1):=by
 rw[bD,bD,bD,dW 18446744073709551616 P k t k (Nat.le_refl _),Nat.pow_succ];have hu:cV P k t k=t:=by unfold cV; rw[if_pos rfl]
 rw[hu];have e':t*18446744073709551616^k+B k*18446744073709551616^k+c*18446744073709551616^k=A k*18446744073709551616^k+d*(18446744073709551616^k*18446744073709551616):=by
  rw[←Nat.add_mul,←Nat.add_mul,e,Nat.add_mul];congr 1;rw[Nat.mul_comm (18446744073709551616^k) 18446744073709551616,←Nat.mul_assoc,Nat.mul_comm d 18446744073709551616]
 omega
theorem WT (l:List Nat) (a0 a1 a2 a3:Nat) (h:l=[a0,a1,a2,a3]):cD 18446744073709551616 (cQ l) 4=aA a0 a1 a2 a3:=by subst h; rw[←jE]; rfl
theorem rG {B:Nat} {w w':World} {b:Nat} (h:Below B w w') (hb:B≤b) (d0 d1 d2 d3:Value):Below B w ((((w'.setCell ⟨b,0,none⟩ d0).setCell ⟨b,1,none⟩ d1).setCell ⟨b,2,none⟩ d2).setCell ⟨b,3,none⟩ d3) :=
 (((h.setCell (p:=⟨b,0,none⟩) hb _).setCell (p:=⟨b,1,none⟩) hb _).setCell (p:=⟨b,2,none⟩) hb _).setCell (p:=⟨b,3,none⟩) hb _
set_option maxHeartbeats 2000000 in
theorem gK (a0 a1 a2 a3 b0 b1 b2 b3:Nat) (ha:aZ a0 a1 a2 a3) (hb:aZ b0 b1 b2 b3) (w:World) :
  Calls prog 127 #[.agg #[.int .u64 a0,.int .u64 a1,.int .u64 a2,.int .u64 a3],.agg #[.int .u64 b0,.int .u64 b1,.int .u64 b2,.int .u64 b3]] w (KV (aA a0 a1 a2 a3) (aA b0 b1 b2 b3) w):=by
 have hAl:=lX ha;have hBl:=lX hb;have HTA:=Lib.hid (WT [a0,a1,a2,a3] a0 a1 a2 a3 rfl);have HTB:=Lib.hid (WT [b0,b1,b2,b3] b0 b1 b2 b3 rfl);have HQ:=Lib.hid (QW.start w a0 a1 a2 a3 b0 b1 b2 b3 27);generalize cQ [a0,a1,a2,a3]=A at *;generalize cQ [b0,b1,b2,b3]=B at *;have HAl:=Lib.hid hAl; have HBl:=Lib.hid hBl;clear hAl hBl
 go_enter func127,ntmps127
 go_wp2_with fail
 go_loopw [7,8] (fun cv i wr=>∃(k c:Nat) (P:Nat→Nat),k≤4∧c≤1∧i=.int .i64 k∧cv=.int .u64 c∧QW w wr A B P∧Hid ((∀j,P j<18446744073709551616)∧cD 18446744073709551616 P k+c*18446744073709551616^k=cD 18446744073709551616 A k+cD 18446744073709551616 B k)) (fun _ i _=>4-(intOf i).toNat)
 case atStart=>exact⟨0,0,fun _=>0,by omega,by omega,rfl,rfl,HQ.out,Lib.hid ⟨fun _=>by show 0<_; omega,by simp[cD]⟩⟩
 case round =>
  obtain⟨k,c,P,hk,hc,rfl,rfl,m,mo⟩:=hrel
  by_cases hlt:k<4
  ·have ca:=m.rowA.cell hlt;have cb:=m.rowB.cell hlt;have cp:=m.rowP.cell hlt;have fp:=m.rowP.free hlt;have bA:=HAl.out k;have bB:=HBl.out k;have M:=Lib.hid m;clear m;obtain⟨s,es,bs,hs⟩:∃s:Nat,IntKind.u64.wrap ((A k:Int)+(B k:Int))=(s:Int)∧s<18446744073709551616∧Hid (s=(A k+B k)%18446744073709551616):=⟨(A k+B k)%18446744073709551616,by rw[←Int.natCast_add]; exact jR _,by omega,Lib.hid rfl⟩
   obtain⟨t,et,bt,ht⟩:∃t:Nat,IntKind.u64.wrap ((s:Int)+(c:Int))=(t:Int)∧t<18446744073709551616∧Hid (t=(s+c)%18446744073709551616):=⟨(s+c)%18446744073709551616,by rw[←Int.natCast_add]; exact jR _,by omega,Lib.hid rfl⟩
   by_cases h1:s<A k
   ·have t1:decide (s<A k)=true:=decide_eq_true (by omega);have hn:¬t<s:=by have:=hs.out; have:=ht.out; omega
    have t2:decide (t<s)=false:=decide_eq_false (by omega);have HE:=Lib.hid (show t+18446744073709551616*1=A k+B k+c by have:=hs.out; have:=ht.out; omega);clear h1 hn hs ht;go_wp2_with fail
    go_quiet (fail)
    go_wp2_with fail
    go_roundw
    case rel=>exact⟨k+1,1,cV P k t,by omega,by omega,by go_num,rfl,(M.out.drewN _).set hlt,Lib.hid ⟨fun j=>by unfold cV; split; exact bt; exact mo.out.1 j,pZ mo.out.2 HE.out⟩⟩
    case measure=>simp[intOf]; omega
   ·have t1:decide (s<A k)=false:=decide_eq_false (by omega)
    by_cases h2:t<s
    ·have t2:decide (t<s)=true:=decide_eq_true (by omega);have HE:=Lib.hid (show t+18446744073709551616*1=A k+B k+c by have:=hs.out; have:=ht.out; omega);clear h1 h2 hs ht;go_wp2_with fail
     go_quiet (fail)
     go_wp2_with fail
     go_roundw
     case rel=>exact⟨k+1,1,cV P k t,by omega,by omega,by go_num,rfl,(M.out.drewN _).set hlt,Lib.hid ⟨fun j=>by unfold cV; split; exact bt; exact mo.out.1 j,pZ mo.out.2 HE.out⟩⟩
     case measure=>simp[intOf]; omega
    ·have t2:decide (t<s)=false:=decide_eq_false (by omega);have HE:=Lib.hid (show t+18446744073709551616*0=A k+B k+c by have:=hs.out; have:=ht.out; omega);clear h1 h2 hs ht;go_wp2_with fail
     go_quiet (fail)
     go_wp2_with fail
     go_roundw
     case rel=>exact⟨k+1,0,cV P k t,by omega,by omega,by go_num,rfl,(M.out.drewN _).set hlt,Lib.hid ⟨fun j=>by unfold cV; split; exact bt; exact mo.out.1 j,pZ mo.out.2 HE.out⟩⟩
     case measure=>simp[intOf]; omega
  ·obtain rfl:k=4:=by omega
   have c0:=m.rowP.cell (show 0<4 by omega); have c1:=m.rowP.cell (show 1<4 by omega); have c2:=m.rowP.cell (show 2<4 by omega); have c3:=m.rowP.cell (show 3<4 by omega);have r0:=m.rowR.cell (show 0<4 by omega); have r1:=m.rowR.cell (show 1<4 by omega); have r2:=m.rowR.cell (show 2<4 by omega); have r3:=m.rowR.cell (show 3<4 by omega);have s0:=m.rowR.free (show 0<4 by omega); have s1:=m.rowR.free (show 1<4 by omega); have s2:=m.rowR.free (show 2<4 by omega); have s3:=m.rowR.free (show 3<4 by omega);have hz:=m.size;have HB:=Lib.hid m.below;clear m;go_wp2_with fail;refine bodyPost_ret (v:=.tuple #[.agg #[.int .u64 (P 0:Nat),.int .u64 (P 1:Nat),.int .u64 (P 2:Nat),.int .u64 (P 3:Nat)],.int .u64 (c:Nat)]) (by simp[results,results127,go_sem, *]) rfl ?_;refine⟨P 0,P 1,P 2,P 3,c,rfl,⟨mo.out.1 0,mo.out.1 1,mo.out.1 2,mo.out.1 3⟩,hc,?_,rG HB.out (by omega) _ _ _ _⟩;have h:=mo.out.2;rw[HTA.out,HTB.out,←jE P,show (18446744073709551616:Nat)^4=115792089237316195423570985008687907853269984665640564039457584007913129639936 by rfl]at h;omega
set_option maxHeartbeats 2000000 in
theorem fE (a0 a1 a2 a3 b0 b1 b2 b3:Nat) (ha:aZ a0 a1 a2 a3) (hb:aZ b0 b1 b2 b3) (w:World) :
  Calls prog 71 #[.agg #[.int .u64 a0,.int .u64 a1,.int .u64 a2,.int .u64 a3],.agg #[.int .u64 b0,.int .u64 b1,.int .u64 b2,.int .u64 b3]] w (KS (aA a0 a1 a2 a3) (aA b0 b1 b2 b3) w):=by
 have hAl:=lX ha;have hBl:=lX hb;have HTA:=Lib.hid (WT [a0,a1,a2,a3] a0 a1 a2 a3 rfl);have HTB:=Lib.hid (WT [b0,b1,b2,b3] b0 b1 b2 b3 rfl);have HQ:=Lib.hid (QW.start w a0 a1 a2 a3 b0 b1 b2 b3 27);generalize cQ [a0,a1,a2,a3]=A at *;generalize cQ [b0,b1,b2,b3]=B at *;have HAl:=Lib.hid hAl; have HBl:=Lib.hid hBl;clear hAl hBl
 go_enter func71,ntmps71
 go_wp2_with fail
 go_loopw [7,8] (fun cv i wr=>∃(k c:Nat) (P:Nat→Nat),k≤4∧c≤1∧i=.int .i64 k∧cv=.int .u64 c∧QW w wr A B P∧Hid ((∀j,P j<18446744073709551616)∧cD 18446744073709551616 P k+cD 18446744073709551616 B k=cD 18446744073709551616 A k+c*18446744073709551616^k)) (fun _ i _=>4-(intOf i).toNat)
 case atStart=>exact⟨0,0,fun _=>0,by omega,by omega,rfl,rfl,HQ.out,Lib.hid ⟨fun _=>by show 0<_; omega,by simp[cD]⟩⟩
 case round =>
  obtain⟨k,c,P,hk,hc,rfl,rfl,m,mo⟩:=hrel
  by_cases hlt:k<4
  ·have ca:=m.rowA.cell hlt;have cb:=m.rowB.cell hlt;have cp:=m.rowP.cell hlt;have fp:=m.rowP.free hlt;have bA:=HAl.out k;have bB:=HBl.out k;have M:=Lib.hid m;clear m;obtain⟨s,es,bs,hs⟩:∃s:Nat,IntKind.u64.wrap ((A k:Int)-(B k:Int))=(s:Int)∧s<18446744073709551616∧Hid (s=(A k+18446744073709551616-B k)%18446744073709551616):=⟨(A k+18446744073709551616-B k)%18446744073709551616,by rw[IntKind.wrap_u64]; omega,by omega,Lib.hid rfl⟩
   obtain⟨t,et,bt,ht⟩:∃t:Nat,IntKind.u64.wrap ((s:Int)-(c:Int))=(t:Int)∧t<18446744073709551616∧Hid (t=(s+18446744073709551616-c)%18446744073709551616):=⟨(s+18446744073709551616-c)%18446744073709551616,by rw[IntKind.wrap_u64]; omega,by omega,Lib.hid rfl⟩
   have hs':=hs.out;have ht':=ht.out;clear hs ht
   by_cases h1:A k<B k
   ·have t1:decide (A k<B k)=true:=decide_eq_true h1;have HE:=Lib.hid (show t+B k+c=A k+18446744073709551616*1 by omega);clear h1 hs' ht';go_wp2_with fail
    go_quiet (fail)
    go_wp2_with fail
    go_region
    go_wp2_with fail
    go_roundw
    case rel=>exact⟨k+1,1,cV P k t,by omega,by omega,by go_num,rfl,(M.out.drewN _).set hlt,Lib.hid ⟨fun j=>by unfold cV; split; exact bt; exact mo.out.1 j,kC mo.out.2 HE.out⟩⟩
    case measure=>simp[intOf]; omega
   ·have t1:decide (A k<B k)=false:=decide_eq_false h1
    by_cases h2:A k=B k
    ·have t2:((A k:Int)==(B k:Int))=true:=by simp; omega
     rcases (show c=0∨c=1 by omega)with rfl|rfl
     ·obtain rfl:s=t:=by omega
      clear et;have HE:=Lib.hid (show s+B k+0=A k+18446744073709551616*0 by omega);clear h1 h2 hs' ht';go_wp2_with fail
      go_quiet (fail)
      go_wp2_with fail
      go_region
      go_wp2_with fail
      go_roundw
      case rel=>exact⟨k+1,0,cV P k s,by omega,by omega,by go_num,rfl,(M.out.drewN _).set hlt,Lib.hid ⟨fun j=>by unfold cV; split; exact bs; exact mo.out.1 j,kC mo.out.2 HE.out⟩⟩
      case measure=>simp[intOf]; omega
     ·have et2:IntKind.u64.wrap ((s:Int)-1)=(t:Int):=et;clear et;have HE:=Lib.hid (show t+B k+1=A k+18446744073709551616*1 by omega);clear h1 h2 hs' ht';go_wp2_with fail
      go_quiet (fail)
      go_wp2_with fail
      go_region
      go_wp2_with fail
      go_roundw
      case rel=>exact⟨k+1,1,cV P k t,by omega,by omega,by go_num,rfl,(M.out.drewN _).set hlt,Lib.hid ⟨fun j=>by unfold cV; split; exact bt; exact mo.out.1 j,kC mo.out.2 HE.out⟩⟩
      case measure=>simp[intOf]; omega
    ·have t2:((A k:Int)==(B k:Int))=false:=by simp; omega
     have HE:=Lib.hid (show t+B k+c=A k+18446744073709551616*0 by omega);clear h1 h2 hs' ht';go_wp2_with fail
     go_quiet (fail)
     go_wp2_with fail
     go_region
     go_wp2_with fail
     go_roundw
     case rel=>exact⟨k+1,0,cV P k t,by omega,by omega,by go_num,rfl,(M.out.drewN _).set hlt,Lib.hid ⟨fun j=>by unfold cV; split; exact bt; exact mo.out.1 j,kC mo.out.2 HE.out⟩⟩
     case measure=>simp[intOf]; omega
  ·obtain rfl:k=4:=by omega
   have c0:=m.rowP.cell (show 0<4 by omega); have c1:=m.rowP.cell (show 1<4 by omega); have c2:=m.rowP.cell (show 2<4 by omega); have c3:=m.rowP.cell (show 3<4 by omega);have r0:=m.rowR.cell (show 0<4 by omega); have r1:=m.rowR.cell (show 1<4 by omega); have r2:=m.rowR.cell (show 2<4 by omega); have r3:=m.rowR.cell (show 3<4 by omega);have s0:=m.rowR.free (show 0<4 by omega); have s1:=m.rowR.free (show 1<4 by omega); have s2:=m.rowR.free (show 2<4 by omega); have s3:=m.rowR.free (show 3<4 by omega);have hz:=m.size;have HB:=Lib.hid m.below;clear m;go_wp2_with fail;refine bodyPost_ret (v:=.tuple #[.agg #[.int .u64 (P 0:Nat),.int .u64 (P 1:Nat),.int .u64 (P 2:Nat),.int .u64 (P 3:Nat)],.int .u64 (c:Nat)]) (by simp[results,results71,go_sem, *]) rfl ?_;refine⟨P 0,P 1,P 2,P 3,c,rfl,⟨mo.out.1 0,mo.out.1 1,mo.out.1 2,mo.out.1 3⟩,hc,?_,rG HB.out (by omega) _ _ _ _⟩;have h:=mo.out.2;rw[HTA.out,HTB.out,←jE P,show (18446744073709551616:Nat)^4=115792089237316195423570985008687907853269984665640564039457584007913129639936 by rfl]at h;omega
theorem rcmp_l3 (a0 a1 a2 a3 b0 b1 b2 b3:Nat) (ha:aZ a0 a1 a2 a3) (hb:aZ b0 b1 b2 b3) (e3:a3<b3) (w:World) :
  Calls prog 68 #[.agg #[.int .u64 a0,.int .u64 a1,.int .u64 a2,.int .u64 a3],.agg #[.int .u64 b0,.int .u64 b1,.int .u64 b2,.int .u64 b3]] w fun e w'=>e=.returned (.int .i64 (bF (aA a0 a1 a2 a3) (aA b0 b1 b2 b3)))∧Below w.heap.size w w':=by
 have hfin:bF (aA a0 a1 a2 a3) (aA b0 b1 b2 b3) = -1:=by
  obtain⟨p0,p1,p2,p3⟩:=ha; obtain⟨q0,q1,q2,q3⟩:=hb; unfold bF aA;rw[if_neg (by omega),if_pos (by omega)]
 rw[hfin];clear hfin;have l3:decide (a3<b3)=true:=decide_eq_true (by omega);clear e3
 go_enter func68,ntmps68
 go_wp2_with fail;refine wp_loop_rounds 5 ?_;rw[rounds_succ];go_wp2_with fail
 go_quiet (fail)
 go_wp2_with fail;go_ret;exact⟨rfl,by repeat (first|exact Below.refl _ _|refine Below.trans ?_ (aN _ _ _)|refine Below.drew ?_|refine Below.alloc ?_ (by first|(simp; done)|(simp; omega)) _)⟩
theorem rcmp_g3 (a0 a1 a2 a3 b0 b1 b2 b3:Nat) (ha:aZ a0 a1 a2 a3) (hb:aZ b0 b1 b2 b3) (e3:b3<a3) (w:World) :
  Calls prog 68 #[.agg #[.int .u64 a0,.int .u64 a1,.int .u64 a2,.int .u64 a3],.agg #[.int .u64 b0,.int .u64 b1,.int .u64 b2,.int .u64 b3]] w fun e w'=>e=.returned (.int .i64 (bF (aA a0 a1 a2 a3) (aA b0 b1 b2 b3)))∧Below w.heap.size w w':=by
 have hfin:bF (aA a0 a1 a2 a3) (aA b0 b1 b2 b3)=1:=by
  obtain⟨p0,p1,p2,p3⟩:=ha; obtain⟨q0,q1,q2,q3⟩:=hb; unfold bF aA;rw[if_neg (by omega),if_neg (by omega)]
 rw[hfin];clear hfin;have l3:decide (a3<b3)=false:=decide_eq_false (by omega);have g3:decide (b3<a3)=true:=decide_eq_true (by omega);clear e3
 go_enter func68,ntmps68
 go_wp2_with fail;refine wp_loop_rounds 5 ?_;rw[rounds_succ];go_wp2_with fail
 go_quiet (fail)
 go_wp2_with fail
 go_quiet (fail)
 go_wp2_with fail;go_ret;exact⟨rfl,by repeat (first|exact Below.refl _ _|refine Below.trans ?_ (aN _ _ _)|refine Below.drew ?_|refine Below.alloc ?_ (by first|(simp; done)|(simp; omega)) _)⟩
theorem rcmp_l2 (a0 a1 a2 a3 b0 b1 b2 b3:Nat) (ha:aZ a0 a1 a2 a3) (hb:aZ b0 b1 b2 b3) (e3:a3=b3) (e2:a2<b2) (w:World) :
  Calls prog 68 #[.agg #[.int .u64 a0,.int .u64 a1,.int .u64 a2,.int .u64 a3],.agg #[.int .u64 b0,.int .u64 b1,.int .u64 b2,.int .u64 b3]] w fun e w'=>e=.returned (.int .i64 (bF (aA a0 a1 a2 a3) (aA b0 b1 b2 b3)))∧Below w.heap.size w w':=by
 have hfin:bF (aA a0 a1 a2 a3) (aA b0 b1 b2 b3) = -1:=by
  obtain⟨p0,p1,p2,p3⟩:=ha; obtain⟨q0,q1,q2,q3⟩:=hb; unfold bF aA;rw[if_neg (by omega),if_pos (by omega)]
 rw[hfin];clear hfin;have l3:decide (a3<b3)=false:=decide_eq_false (by omega);have g3:decide (b3<a3)=false:=decide_eq_false (by omega);clear e3;have l2:decide (a2<b2)=true:=decide_eq_true (by omega);clear e2
 go_enter func68,ntmps68
 go_wp2_with fail;refine wp_loop_rounds 5 ?_;rw[rounds_succ];go_wp2_with fail
 go_quiet (fail)
 go_wp2_with fail
 go_quiet (fail)
 go_wp2_with fail;rw[rounds_succ];go_wp2_with fail
 go_quiet (fail)
 go_wp2_with fail;go_ret;exact⟨rfl,by repeat (first|exact Below.refl _ _|refine Below.trans ?_ (aN _ _ _)|refine Below.drew ?_|refine Below.alloc ?_ (by first|(simp; done)|(simp; omega)) _)⟩
theorem rcmp_g2 (a0 a1 a2 a3 b0 b1 b2 b3:Nat) (ha:aZ a0 a1 a2 a3) (hb:aZ b0 b1 b2 b3) (e3:a3=b3) (e2:b2<a2) (w:World) :
  Calls prog 68 #[.agg #[.int .u64 a0,.int .u64 a1,.int .u64 a2,.int .u64 a3],.agg #[.int .u64 b0,.int .u64 b1,.int .u64 b2,.int .u64 b3]] w fun e w'=>e=.returned (.int .i64 (bF (aA a0 a1 a2 a3) (aA b0 b1 b2 b3)))∧Below w.heap.size w w':=by
 have hfin:bF (aA a0 a1 a2 a3) (aA b0 b1 b2 b3)=1:=by
  obtain⟨p0,p1,p2,p3⟩:=ha; obtain⟨q0,q1,q2,q3⟩:=hb; unfold bF aA;rw[if_neg (by omega),if_neg (by omega)]
 rw[hfin];clear hfin;have l3:decide (a3<b3)=false:=decide_eq_false (by omega);have g3:decide (b3<a3)=false:=decide_eq_false (by omega);clear e3;have l2:decide (a2<b2)=false:=decide_eq_false (by omega);have g2:decide (b2<a2)=true:=decide_eq_true (by omega);clear e2
 go_enter func68,ntmps68
 go_wp2_with fail;refine wp_loop_rounds 5 ?_;rw[rounds_succ];go_wp2_with fail
 go_quiet (fail)
 go_wp2_with fail
 go_quiet (fail)
 go_wp2_with fail;rw[rounds_succ];go_wp2_with fail
 go_quiet (fail)
 go_wp2_with fail
 go_quiet (fail)
 go_wp2_with fail;go_ret;exact⟨rfl,by repeat (first|exact Below.refl _ _|refine Below.trans ?_ (aN _ _ _)|refine Below.drew ?_|refine Below.alloc ?_ (by first|(simp; done)|(simp; omega)) _)⟩
theorem rcmp_l1 (a0 a1 a2 a3 b0 b1 b2 b3:Nat) (ha:aZ a0 a1 a2 a3) (hb:aZ b0 b1 b2 b3) (e3:a3=b3) (e2:a2=b2) (e1:a1<b1) (w:World) :
  Calls prog 68 #[.agg #[.int .u64 a0,.int .u64 a1,.int .u64 a2,.int .u64 a3],.agg #[.int .u64 b0,.int .u64 b1,.int .u64 b2,.int .u64 b3]] w fun e w'=>e=.returned (.int .i64 (bF (aA a0 a1 a2 a3) (aA b0 b1 b2 b3)))∧Below w.heap.size w w':=by
 have hfin:bF (aA a0 a1 a2 a3) (aA b0 b1 b2 b3) = -1:=by
  obtain⟨p0,p1,p2,p3⟩:=ha; obtain⟨q0,q1,q2,q3⟩:=hb; unfold bF aA;rw[if_neg (by omega),if_pos (by omega)]
 rw[hfin];clear hfin;have l3:decide (a3<b3)=false:=decide_eq_false (by omega);have g3:decide (b3<a3)=false:=decide_eq_false (by omega);clear e3;have l2:decide (a2<b2)=false:=decide_eq_false (by omega);have g2:decide (b2<a2)=false:=decide_eq_false (by omega);clear e2;have l1:decide (a1<b1)=true:=decide_eq_true (by omega);clear e1
 go_enter func68,ntmps68
 go_wp2_with fail;refine wp_loop_rounds 5 ?_;rw[rounds_succ];go_wp2_with fail
 go_quiet (fail)
 go_wp2_with fail
 go_quiet (fail)
 go_wp2_with fail;rw[rounds_succ];go_wp2_with fail
 go_quiet (fail)
 go_wp2_with fail
 go_quiet (fail)
 go_wp2_with fail;rw[rounds_succ];go_wp2_with fail
 go_quiet (fail)
 go_wp2_with fail;go_ret;exact⟨rfl,by repeat (first|exact Below.refl _ _|refine Below.trans ?_ (aN _ _ _)|refine Below.drew ?_|refine Below.alloc ?_ (by first|(simp; done)|(simp; omega)) _)⟩
theorem rcmp_g1 (a0 a1 a2 a3 b0 b1 b2 b3:Nat) (ha:aZ a0 a1 a2 a3) (hb:aZ b0 b1 b2 b3) (e3:a3=b3) (e2:a2=b2) (e1:b1<a1) (w:World) :
  Calls prog 68 #[.agg #[.int .u64 a0,.int .u64 a1,.int .u64 a2,.int .u64 a3],.agg #[.int .u64 b0,.int .u64 b1,.int .u64 b2,.int .u64 b3]] w fun e w'=>e=.returned (.int .i64 (bF (aA a0 a1 a2 a3) (aA b0 b1 b2 b3)))∧Below w.heap.size w w':=by
 have hfin:bF (aA a0 a1 a2 a3) (aA b0 b1 b2 b3)=1:=by
  obtain⟨p0,p1,p2,p3⟩:=ha; obtain⟨q0,q1,q2,q3⟩:=hb; unfold bF aA;rw[if_neg (by omega),if_neg (by omega)]
 rw[hfin];clear hfin;have l3:decide (a3<b3)=false:=decide_eq_false (by omega);have g3:decide (b3<a3)=false:=decide_eq_false (by omega);clear e3;have l2:decide (a2<b2)=false:=decide_eq_false (by omega);have g2:decide (b2<a2)=false:=decide_eq_false (by omega);clear e2;have l1:decide (a1<b1)=false:=decide_eq_false (by omega);have g1:decide (b1<a1)=true:=decide_eq_true (by omega);clear e1
 go_enter func68,ntmps68
 go_wp2_with fail;refine wp_loop_rounds 5 ?_;rw[rounds_succ];go_wp2_with fail
 go_quiet (fail)
 go_wp2_with fail
 go_quiet (fail)
 go_wp2_with fail;rw[rounds_succ];go_wp2_with fail
 go_quiet (fail)
 go_wp2_with fail
 go_quiet (fail)
 go_wp2_with fail;rw[rounds_succ];go_wp2_with fail
 go_quiet (fail)
 go_wp2_with fail
 go_quiet (fail)
 go_wp2_with fail;go_ret;exact⟨rfl,by repeat (first|exact Below.refl _ _|refine Below.trans ?_ (aN _ _ _)|refine Below.drew ?_|refine Below.alloc ?_ (by first|(simp; done)|(simp; omega)) _)⟩
theorem rcmp_l0 (a0 a1 a2 a3 b0 b1 b2 b3:Nat) (ha:aZ a0 a1 a2 a3) (hb:aZ b0 b1 b2 b3) (e3:a3=b3) (e2:a2=b2) (e1:a1=b1) (e0:a0<b0) (w:World) :
  Calls prog 68 #[.agg #[.int .u64 a0,.int .u64 a1,.int .u64 a2,.int .u64 a3],.agg #[.int .u64 b0,.int .u64 b1,.int .u64 b2,.int .u64 b3]] w fun e w'=>e=.returned (.int .i64 (bF (aA a0 a1 a2 a3) (aA b0 b1 b2 b3)))∧Below w.heap.size w w':=by
 have hfin:bF (aA a0 a1 a2 a3) (aA b0 b1 b2 b3) = -1:=by
  obtain⟨p0,p1,p2,p3⟩:=ha; obtain⟨q0,q1,q2,q3⟩:=hb; unfold bF aA;rw[if_neg (by omega),if_pos (by omega)]
 rw[hfin];clear hfin;have l3:decide (a3<b3)=false:=decide_eq_false (by omega);have g3:decide (b3<a3)=false:=decide_eq_false (by omega);clear e3;have l2:decide (a2<b2)=false:=decide_eq_false (by omega);have g2:decide (b2<a2)=false:=decide_eq_false (by omega);clear e2;have l1:decide (a1<b1)=false:=decide_eq_false (by omega);have g1:decide (b1<a1)=false:=decide_eq_false (by omega);clear e1;have l0:decide (a0<b0)=true:=decide_eq_true (by omega);clear e0
 go_enter func68,ntmps68
 go_wp2_with fail;refine wp_loop_rounds 5 ?_;rw[rounds_succ];go_wp2_with fail
 go_quiet (fail)
 go_wp2_with fail
 go_quiet (fail)
 go_wp2_with fail;rw[rounds_succ];go_wp2_with fail
 go_quiet (fail)
 go_wp2_with fail
 go_quiet (fail)
 go_wp2_with fail;rw[rounds_succ];go_wp2_with fail
 go_quiet (fail)
 go_wp2_with fail
 go_quiet (fail)
 go_wp2_with fail;rw[rounds_succ];go_wp2_with fail
 go_quiet (fail)
 go_wp2_with fail;go_ret;exact⟨rfl,by repeat (first|exact Below.refl _ _|refine Below.trans ?_ (aN _ _ _)|refine Below.drew ?_|refine Below.alloc ?_ (by first|(simp; done)|(simp; omega)) _)⟩
theorem rcmp_g0 (a0 a1 a2 a3 b0 b1 b2 b3:Nat) (ha:aZ a0 a1 a2 a3) (hb:aZ b0 b1 b2 b3) (e3:a3=b3) (e2:a2=b2) (e1:a1=b1) (e0:b0<a0) (w:World) :
  Calls prog 68 #[.agg #[.int .u64 a0,.int .u64 a1,.int .u64 a2,.int .u64 a3],.agg #[.int .u64 b0,.int .u64 b1,.int .u64 b2,.int .u64 b3]] w fun e w'=>e=.returned (.int .i64 (bF (aA a0 a1 a2 a3) (aA b0 b1 b2 b3)))∧Below w.heap.size w w':=by
 have hfin:bF (aA a0 a1 a2 a3) (aA b0 b1 b2 b3)=1:=by
  obtain⟨p0,p1,p2,p3⟩:=ha; obtain⟨q0,q1,q2,q3⟩:=hb; unfold bF aA;rw[if_neg (by omega),if_neg (by omega)]
 rw[hfin];clear hfin;have l3:decide (a3<b3)=false:=decide_eq_false (by omega);have g3:decide (b3<a3)=false:=decide_eq_false (by omega);clear e3;have l2:decide (a2<b2)=false:=decide_eq_false (by omega);have g2:decide (b2<a2)=false:=decide_eq_false (by omega);clear e2;have l1:decide (a1<b1)=false:=decide_eq_false (by omega);have g1:decide (b1<a1)=false:=decide_eq_false (by omega);clear e1;have l0:decide (a0<b0)=false:=decide_eq_false (by omega);have g0:decide (b0<a0)=true:=decide_eq_true (by omega);clear e0
 go_enter func68,ntmps68
 go_wp2_with fail;refine wp_loop_rounds 5 ?_;rw[rounds_succ];go_wp2_with fail
 go_quiet (fail)
 go_wp2_with fail
 go_quiet (fail)
 go_wp2_with fail;rw[rounds_succ];go_wp2_with fail
 go_quiet (fail)
 go_wp2_with fail
 go_quiet (fail)
 go_wp2_with fail;rw[rounds_succ];go_wp2_with fail
 go_quiet (fail)
 go_wp2_with fail
 go_quiet (fail)
 go_wp2_with fail;rw[rounds_succ];go_wp2_with fail
 go_quiet (fail)
 go_wp2_with fail
 go_quiet (fail)
 go_wp2_with fail;go_ret;exact⟨rfl,by repeat (first|exact Below.refl _ _|refine Below.trans ?_ (aN _ _ _)|refine Below.drew ?_|refine Below.alloc ?_ (by first|(simp; done)|(simp; omega)) _)⟩
theorem rcmp_e (a0 a1 a2 a3 b0 b1 b2 b3:Nat) (ha:aZ a0 a1 a2 a3) (hb:aZ b0 b1 b2 b3) (e3:a3=b3) (e2:a2=b2) (e1:a1=b1) (e0:a0=b0) (w:World) :
  Calls prog 68 #[.agg #[.int .u64 a0,.int .u64 a1,.int .u64 a2,.int .u64 a3],.agg #[.int .u64 b0,.int .u64 b1,.int .u64 b2,.int .u64 b3]] w fun e w'=>e=.returned (.int .i64 (bF (aA a0 a1 a2 a3) (aA b0 b1 b2 b3)))∧Below w.heap.size w w':=by
 have hfin:bF (aA a0 a1 a2 a3) (aA b0 b1 b2 b3)=0:=by
  obtain⟨p0,p1,p2,p3⟩:=ha; obtain⟨q0,q1,q2,q3⟩:=hb; unfold bF aA;rw[if_pos (by omega)]
 rw[hfin];clear hfin;have l3:decide (a3<b3)=false:=decide_eq_false (by omega);have g3:decide (b3<a3)=false:=decide_eq_false (by omega);clear e3;have l2:decide (a2<b2)=false:=decide_eq_false (by omega);have g2:decide (b2<a2)=false:=decide_eq_false (by omega);clear e2;have l1:decide (a1<b1)=false:=decide_eq_false (by omega);have g1:decide (b1<a1)=false:=decide_eq_false (by omega);clear e1;have l0:decide (a0<b0)=false:=decide_eq_false (by omega);have g0:decide (b0<a0)=false:=decide_eq_false (by omega);clear e0
 go_enter func68,ntmps68
 go_wp2_with fail;refine wp_loop_rounds 5 ?_;rw[rounds_succ];go_wp2_with fail
 go_quiet (fail)
 go_wp2_with fail
 go_quiet (fail)
 go_wp2_with fail;rw[rounds_succ];go_wp2_with fail
 go_quiet (fail)
 go_wp2_with fail
 go_quiet (fail)
 go_wp2_with fail;rw[rounds_succ];go_wp2_with fail
 go_quiet (fail)
 go_wp2_with fail
 go_quiet (fail)
 go_wp2_with fail;rw[rounds_succ];go_wp2_with fail
 go_quiet (fail)
 go_wp2_with fail
 go_quiet (fail)
 go_wp2_with fail;rw[rounds_succ];go_wp2_with fail;go_ret;exact⟨rfl,by repeat (first|exact Below.refl _ _|refine Below.trans ?_ (aN _ _ _)|refine Below.drew ?_|refine Below.alloc ?_ (by first|(simp; done)|(simp; omega)) _)⟩
theorem refCmp_calls (a0 a1 a2 a3 b0 b1 b2 b3:Nat) (ha:aZ a0 a1 a2 a3) (hb:aZ b0 b1 b2 b3) (w:World) :
  Calls prog 68 #[.agg #[.int .u64 a0,.int .u64 a1,.int .u64 a2,.int .u64 a3],.agg #[.int .u64 b0,.int .u64 b1,.int .u64 b2,.int .u64 b3]] w fun e w'=>e=.returned (.int .i64 (bF (aA a0 a1 a2 a3) (aA b0 b1 b2 b3)))∧Below w.heap.size w w':=by
 rcases Nat.lt_trichotomy a3 b3 with e3|e3|e3
 ·exact rcmp_l3 a0 a1 a2 a3 b0 b1 b2 b3 ha hb e3 w
 ·rcases Nat.lt_trichotomy a2 b2 with e2|e2|e2
  ·exact rcmp_l2 a0 a1 a2 a3 b0 b1 b2 b3 ha hb e3 e2 w
  ·rcases Nat.lt_trichotomy a1 b1 with e1|e1|e1
   ·exact rcmp_l1 a0 a1 a2 a3 b0 b1 b2 b3 ha hb e3 e2 e1 w
   ·rcases Nat.lt_trichotomy a0 b0 with e0|e0|e0
    ·exact rcmp_l0 a0 a1 a2 a3 b0 b1 b2 b3 ha hb e3 e2 e1 e0 w
    ·exact rcmp_e a0 a1 a2 a3 b0 b1 b2 b3 ha hb e3 e2 e1 e0 w
    ·exact rcmp_g0 a0 a1 a2 a3 b0 b1 b2 b3 ha hb e3 e2 e1 e0 w
   ·exact rcmp_g1 a0 a1 a2 a3 b0 b1 b2 b3 ha hb e3 e2 e1 w
  ·exact rcmp_g2 a0 a1 a2 a3 b0 b1 b2 b3 ha hb e3 e2 w
 ·exact rcmp_g3 a0 a1 a2 a3 b0 b1 b2 b3 ha hb e3 w
theorem Bd {A B:Nat} (h:A<B):bF A B = -1:=by unfold bF; rw[if_neg (by omega),if_pos h]
theorem Be {A B:Nat} (h:¬A<B):decide (0≤bF A B)=true:=by
 unfold bF
 by_cases q:A=B
 ·rw[if_pos q]; rfl
 ·rw[if_neg q,if_neg h]; rfl
set_option maxHeartbeats 2000000 in
theorem dO (f:Int) (F:FC) (hf:FieldIs f F) (a0 a1 a2 a3:Nat) (ha:aZ a0 a1 a2 a3) (w:World) :
  Calls prog 70 #[.int .i64 f,.agg #[.int .u64 a0,.int .u64 a1,.int .u64 a2,.int .u64 a3]] w (eK (aA a0 a1 a2 a3%F.M) w):=by
 have hpos:=hf.ok.pos
 go_enter func70,ntmps70
 go_wp2_with fail;have HM:=Lib.hid (((Mem.nil w).new (w.heap.size) a0 a1 a2 a3 27 (by simp)).new (w.heap.size+1) 0 0 0 0 27 (by simp));refine (fJ f F hf _).mono ?_
 rintro e w1 ⟨rfl,hbl⟩
 have HM':=Lib.hid (HM.out.on hbl);clear HM hbl;have HM:=HM';clear HM';have hz1:w.heap.size+1<w1.heap.size:=HM.out.lt (b:=w.heap.size+1) (c0:=0) (c1:=0) (c2:=0) (c3:=0) (by simp);have HM':=Lib.hid ((HM.out.new w1.heap.size F.m0 F.m1 F.m2 F.m3 27 rfl).sub (rs':=[(w.heap.size,a0,a1,a2,a3),(w1.heap.size,F.m0,F.m1,F.m2,F.m3),(w.heap.size+1,0,0,0,0)]) (by simp));clear HM;have HM:=HM';clear HM';go_wp2_with fail
 go_loopg [8] (aA a0 a1 a2 a3/F.M) (fun k t wr=>∃v0 v1 v2 v3:Nat,aZ v0 v1 v2 v3∧Hid (aA v0 v1 v2 v3/F.M=k∧aA v0 v1 v2 v3%F.M=aA a0 a1 a2 a3%F.M)∧Hid (Mem w wr [(w.heap.size,v0,v1,v2,v3),(w1.heap.size,F.m0,F.m1,F.m2,F.m3),(w.heap.size+1,0,0,0,0)]))
 case atStart=>exact⟨a0,a1,a2,a3,ha,Lib.hid ⟨rfl,rfl⟩,HM⟩
 case round =>
  clear HM;obtain⟨v0,v1,v2,v3,hv,HV,HM⟩:=hrel;have kr:=HM.out.row (b:=w.heap.size) (c0:=v0) (c1:=v1) (c2:=v2) (c3:=v3) (by simp);have x0:=kr.c0; have x1:=kr.c1; have x2:=kr.c2; have x3:=kr.c3;clear kr;have xl:=HM.out.lt (b:=w.heap.size) (c0:=v0) (c1:=v1) (c2:=v2) (c3:=v3) (by simp);have kr:=HM.out.row (b:=w1.heap.size) (c0:=F.m0) (c1:=F.m1) (c2:=F.m2) (c3:=F.m3) (by simp);have u0:=kr.c0; have u1:=kr.c1; have u2:=kr.c2; have u3:=kr.c3;clear kr;have ul:=HM.out.lt (b:=w1.heap.size) (c0:=F.m0) (c1:=F.m1) (c2:=F.m2) (c3:=F.m3) (by simp);go_wp2_with fail;refine (refCmp_calls v0 v1 v2 v3 F.m0 F.m1 F.m2 F.m3 hv hf.ok.okm _).mono ?_
  rintro e w2 ⟨he,hbl⟩
  have HM':=Lib.hid (HM.out.on hbl);clear HM hbl;have HM:=HM';clear HM';clear x0 x1 x2 x3 xl u0 u1 u2 u3 ul
  by_cases hlt:aA v0 v1 v2 v3<F.M
  ·rw[show bF (aA v0 v1 v2 v3) (aA F.m0 F.m1 F.m2 F.m3) = -1 from Bd hlt]at he;subst he;have kr:=HM.out.row (b:=w.heap.size) (c0:=v0) (c1:=v1) (c2:=v2) (c3:=v3) (by simp);have x0:=kr.c0; have x1:=kr.c1; have x2:=kr.c2; have x3:=kr.c3;clear kr;have xl:=HM.out.lt (b:=w.heap.size) (c0:=v0) (c1:=v1) (c2:=v2) (c3:=v3) (by simp);have kr:=HM.out.row (b:=w.heap.size+1) (c0:=0) (c1:=0) (c2:=0) (c3:=0) (by simp);have y0:=kr.c0; have y1:=kr.c1; have y2:=kr.c2; have y3:=kr.c3; have yf:=kr.fr;clear kr;have yl:=HM.out.lt (b:=w.heap.size+1) (c0:=0) (c1:=0) (c2:=0) (c3:=0) (by simp);have HE:=Lib.hid (show aA v0 v1 v2 v3=aA a0 a1 a2 a3%F.M by rw[←HV.out.2,Nat.mod_eq_of_lt hlt]);clear HV hlt;go_wp2_with fail;refine bodyPost_ret (v:=.agg #[.int .u64 v0,.int .u64 v1,.int .u64 v2,.int .u64 v3]) (by simp[results,results70,go_sem, *]) rfl ?_;refine⟨_,_,_,_,rfl,hv,HE.out,?_⟩;exact aM HM.out.1 (by omega) _ _ _ _
  ·obtain⟨k,rfl⟩:∃k,gk=k+1:=⟨gk-1,by have h:=HV.out.1; have:=Nat.div_pos (show F.M≤aA v0 v1 v2 v3 by omega) hpos; omega⟩
   have HT:decide (0≤bF (aA v0 v1 v2 v3) (aA F.m0 F.m1 F.m2 F.m3))=true:=Be hlt;generalize bF (aA v0 v1 v2 v3) (aA F.m0 F.m1 F.m2 F.m3)=cc at *;subst he;have kr:=HM.out.row (b:=w.heap.size) (c0:=v0) (c1:=v1) (c2:=v2) (c3:=v3) (by simp);have x0:=kr.c0; have x1:=kr.c1; have x2:=kr.c2; have x3:=kr.c3;clear kr;have xl:=HM.out.lt (b:=w.heap.size) (c0:=v0) (c1:=v1) (c2:=v2) (c3:=v3) (by simp);have kr:=HM.out.row (b:=w1.heap.size) (c0:=F.m0) (c1:=F.m1) (c2:=F.m2) (c3:=F.m3) (by simp);have u0:=kr.c0; have u1:=kr.c1; have u2:=kr.c2; have u3:=kr.c3;clear kr;have ul:=HM.out.lt (b:=w1.heap.size) (c0:=F.m0) (c1:=F.m1) (c2:=F.m2) (c3:=F.m3) (by simp);have Hlt:=Lib.hid hlt;clear hlt;go_wp2_with fail;refine (fE v0 v1 v2 v3 F.m0 F.m1 F.m2 F.m3 hv hf.ok.okm _).mono ?_
   rintro e w3 ⟨s0,s1,s2,s3,c,rfl,hs,hc,he,hbl⟩
   have HE:=Lib.hid (show aA s0 s1 s2 s3+F.M=aA v0 v1 v2 v3 by have:=cE hs; have:=cE hv; have:=Hlt.out; have hM:aA F.m0 F.m1 F.m2 F.m3=F.M:=rfl; rw[hM]at he; omega);clear he;have HM':=Lib.hid (HM.out.on hbl);clear HM hbl;have HM:=HM';clear HM';clear x0 x1 x2 x3 xl u0 u1 u2 u3 ul;have kr:=HM.out.row (b:=w.heap.size) (c0:=v0) (c1:=v1) (c2:=v2) (c3:=v3) (by simp);have x0:=kr.c0; have x1:=kr.c1; have x2:=kr.c2; have x3:=kr.c3; have xf:=kr.fr;clear kr;have xl:=HM.out.lt (b:=w.heap.size) (c0:=v0) (c1:=v1) (c2:=v2) (c3:=v3) (by simp);have HM':=Lib.hid (HM.out.put s0 s1 s2 s3 (by omega) (by intro r hr; simp at hr; rcases hr with rfl|rfl<;>simp<;>omega));clear HM;go_wp2_with fail
   go_roundg k
   case rel=>exact⟨s0,s1,s2,s3,hs,Lib.hid (by
     have h:=HV.out;rw[←HE.out,Nat.add_mod_right,Nat.add_div_right _ hpos]at h;exact⟨by omega,h.2⟩),HM'⟩
   case measure=>omega
end Go.Proofs.YtpjlhhpjpnacmaaGreat
