/- Eo09 -/
import Derived.Test.YtpjlhhpjpnacmaaGreatDoorEo08
import Derived.Test.YtpjlhhpjpnacmaaGreatDoorProg
set_option maxRecDepth 100000
set_option linter.unusedVariables false
set_option linter.unusedSimpArgs false
set_option linter.unnecessarySimpa false
noncomputable section
namespace Go.Proofs.YtpjlhhpjpnacmaaGreatDoor.Ex
open Go.Proofs.Tryz
open Go.RowKit
def aHj (v v2:Value) (N:Nat) (f g:Nat→Nat):Tab:=T0.add 199 (Ud v v2 N f g)
theorem Qn (v v2:Value) (N:Nat) (f g:Nat→Nat):cR prog (qG prog) (fun _=>tC (aHj v v2 N f g) fun _=>none) f167 60 [.v (.im v),.v (.im v2)]=some ([v=v,v2=v2],.one (.fl [.q (Ax f g N)])):=by kernel_rfl
theorem Ba {w:World} {v v2:Value} {N:Nat} {f g:Nat→Nat} (hv:LV w v N f) (hv2:LV w v2 N g) (hN:N≤65536) (hf:oI N f) (hg:oI N g):bM prog 167 (.one (.fl [.q (Ax f g N)])) [v,v2] w :=
 cG aI (fun _ _=>TabOkW.add ((bU _).w _ _) func199 (by kernel_rfl) (by kernel_rfl) (fun w' hw=>Js (hv.on hw) (hv2.on hw) hN hf hg)) ((aW _).w _ _) func167 (Qn v v2 N f g) ⟨rfl,rfl,trivial⟩ (args:=[v,v2]) ⟨rfl,rfl,trivial⟩
def rP (wd fl pt:Nat) (cs is:Value):List At:=[.c (iI wd),.c (iI fl),.c (iI pt),.c cs,.c is]
theorem Fj (w:World) (wd fl pt i ib M:Nat) (cs:Value):cR prog { qG prog with x:=xO w (fun _=>none) (fun _=>none) (assoc [(13,aK ib (0+i*4) (i+wd-i) (M-i))]) } (fun _=>tC T0 (assoc [(12,iI (i+wd))])) f168 60 [.v (.fl (rP wd fl pt cs (aK ib 0 M M))),.v (.im (iI i))]=some ([aJ .add .i64 (Int.ofNat i) (Int.ofNat wd)=some (iI (i+wd)),∀w:World,(Instr.sliceAt 56 (aK ib 0 M M) (some (iI i)) (some (iI (i+wd))) none).run prog w=.ok (aK ib (0+i*4) (i+wd-i) (M-i)) w],.one (.im (aK ib (0+i*4) (i+wd-i) (M-i)))):=by kernel_rfl
theorem PV {w:World} {wd fl pt i ib M:Nat} {cs:Value} (hi:i<M) (hw:i+wd≤M) (hM:M≤65536):bM prog 168 (.one (.im (aK ib (0+i*4) wd (M-i)))) [.agg (aA (rP wd fl pt cs (aK ib 0 M M))).toArray,iI i] w:=by
 have h:=cG (w:=w) aI (fun _ _=>(bU _).w _ _) (dN w _ _ _) func168 (Fj w wd fl pt i ib M cs) ⟨oX (by omega),fun w=>VO (by omega) hw hi w,trivial⟩ (args:=[.agg (aA (rP wd fl pt cs (aK ib 0 M M))).toArray,iI i]) ⟨rfl,rfl,trivial⟩
 rwa [show i+wd-i=wd by omega]at h
theorem Fi (wd fl pt r:Nat) (cs is:Value):cR prog (qG prog) (fun _=>tC T0 (assoc [(9,iI (fl/2)),(12,.bool true)])) f165 60 [.v (.fl (rP wd fl pt cs is)),.v (.im (iI r))]=some ([aJ .quo .i64 (Int.ofNat fl) 2=some (iI (fl/2)),aJ .lss .i64 (Int.ofNat r) (Int.ofNat (fl/2))=some (.bool true)],.one (.im (iI wd))):=by kernel_rfl
theorem Fh (wd fl pt r:Nat) (cs is:Value):cR prog (qG prog) (fun _=>tC T0 (assoc [(9,iI (fl/2)),(12,.bool false),(19,iI (fl/2+pt)),(20,.bool true)])) f165 60 [.v (.fl (rP wd fl pt cs is)),.v (.im (iI r))]=some ([aJ .quo .i64 (Int.ofNat fl) 2=some (iI (fl/2)),aJ .lss .i64 (Int.ofNat r) (Int.ofNat (fl/2))=some (.bool false),aJ .add .i64 (Int.ofNat (fl/2)) (Int.ofNat pt)=some (iI (fl/2+pt)),aJ .geq .i64 (Int.ofNat r) (Int.ofNat (fl/2+pt))=some (.bool true)],.one (.im (iI wd))):=by kernel_rfl
theorem Fg (wd fl pt r:Nat) (cs is:Value):cR prog (qG prog) (fun _=>tC T0 (assoc [(9,iI (fl/2)),(12,.bool false),(19,iI (fl/2+pt)),(20,.bool false)])) f165 60 [.v (.fl (rP wd fl pt cs is)),.v (.im (iI r))]=some ([aJ .quo .i64 (Int.ofNat fl) 2=some (iI (fl/2)),aJ .lss .i64 (Int.ofNat r) (Int.ofNat (fl/2))=some (.bool false),aJ .add .i64 (Int.ofNat (fl/2)) (Int.ofNat pt)=some (iI (fl/2+pt)),aJ .geq .i64 (Int.ofNat r) (Int.ofNat (fl/2+pt))=some (.bool false)],.one (.im (iI 1))):=by kernel_rfl
theorem XP {i n:Nat}:aJ .geq .i64 (Int.ofNat i) (Int.ofNat n)=some (.bool (decide (n≤i))):=by
 show some (Value.bool (decide ((i:Int)≥(n:Int))))=_;congr 2;exact decide_eq_decide.2 ⟨fun h=>by omega,fun h=>by omega⟩
theorem VY {w:World} {wd fl pt r:Nat} {cs is:Value} (hf:fl≤65536) (hp:pt≤65536):bM prog 165 (.one (.im (iI (rz wd fl pt r)))) [.agg (aA (rP wd fl pt cs is)).toArray,iI r] w:=by
 have hq:aJ .quo .i64 (Int.ofNat fl) 2=some (iI (fl/2)):=XO (k:=2) (by omega) (by omega);have hT:∀n d:Nat,TabOkW prog T0 w.heap.size w:=fun _ _=>(bU _).w _ _
 have hG:bO prog (qG prog) w.heap.size w:=(aW _).w _ _;unfold rz
 by_cases h1:r<fl/2
 ·rw[if_pos h1];exact cG aI hT hG func165 (Fi wd fl pt r cs is) ⟨hq,eO h1,trivial⟩ (args:=[.agg (aA (rP wd fl pt cs is)).toArray,iI r]) ⟨rfl,rfl,trivial⟩
 ·rw[if_neg h1]
  by_cases h2:fl/2+pt≤r
  ·rw[if_pos h2];exact cG aI hT hG func165 (Fh wd fl pt r cs is) ⟨hq,dD (by omega),oX (by omega),by rw[XP,decide_eq_true h2],trivial⟩ (args:=[.agg (aA (rP wd fl pt cs is)).toArray,iI r]) ⟨rfl,rfl,trivial⟩
  ·rw[if_neg h2];exact cG aI hT hG func165 (Fg wd fl pt r cs is) ⟨hq,dD (by omega),oX (by omega),by rw[XP,decide_eq_false h2],trivial⟩ (args:=[.agg (aA (rP wd fl pt cs is)).toArray,iI r]) ⟨rfl,rfl,trivial⟩
noncomputable abbrev clF:Func:=f163
def pE:Code:=(f163.body).getD .skip
def Vv:Code:=cA (cB (cB pE))
theorem Lb:pE=.seq (cA pE) (.seq (cA (cB pE)) (.seq (.region 3 (aD Vv) false) .ret)):=by kernel_rfl
theorem aDy:clF.ntmps=8:=by kernel_rfl
theorem aDx (v:Value):aX prog (qG prog) 8 (fun _=>tC T0 fun _=>none) 60 (cA pE) (fD 0 [.v (.im v)]) [.slot 0 (.im v)]=some ([],.nrm,[.slot 0 (.im v)]):=by kernel_rfl
theorem aDw (w:World) (v:Value):aX prog { qG prog with x:=xO w (fun _=>none) (fun _=>none) (assoc [(4,.bool false)]) } 8 (fun _=>tC T0 fun _=>none) 60 (cA (cB pE)) [.slot 0 (.im v)] [.slot 0 (.im v)]=some ([gK .eql 56 (.tmp 3) (.const (.slice none 0 0)) v (.slice none 0 0) (.bool false)],.nrm,[.slot 0 (.im v)]):=by kernel_rfl
theorem aDv (v u:Value):cO prog (qG prog) 8 (tC T0 fun _=>none) ((aD Vv).extract 1 2) [.slot 5 (.im u),.slot 0 (.im v)] [.slot 6 (.im v),.slot 5 (.im u)]=some ([],[.slot 6 (.im v),.slot 5 (.im u)]):=by kernel_rfl
theorem aDu (v:Value):cO prog (qG prog) 8 (tC T0 fun _=>none) ((aD Vv).extract 3 4) [.slot 7 (.im v)] [.slot 2 (.im v)]=some ([],[.slot 2 (.im v)]):=by kernel_rfl
theorem Uw (d:Nat) (b o n m:Nat) (w:World):(Op.equalIn (d+1) 56 (aK b o n m) (.slice none 0 0)).run prog w=.ok false w:=by
 have hu:prog.underlying 56=some (.slice 27):=underlying56;simp[Op.equalIn,aK,run_underlying hu]
theorem Qk (x y:Operand) (b o n m:Nat):gK .eql 56 x y (aK b o n m) (.slice none 0 0) (.bool false):=fun w=>by
 have hu:prog.underlying 56=some (.slice 27):=underlying56;have h:=Uw 9999 b o n m w;have e:Op.maxDepth=9999+1:=rfl;simp[eqGuard,binOp,go_sem,run_underlying hu,Op.equal,e,h,show aK b o n m=Value.slice (some ⟨b,o,none⟩) n m from rfl]at h ⊢;simp[h]
theorem Ly (w:World):(Instr.buildSlice 56 0 #[]).run prog w=.ok (aK w.heap.size 0 0 0) (w.alloc (.cells #[] 27)):=by
 obtain⟨ht,i,z,hi,hz,hsize,hby,hzs,hsz⟩:=jI RT;simp[Instr.buildSlice,run_underlying ht,sizeOf,typeInfo,hi,newRow,aK,Instr.fill,show Array.range 0 = #[] by simp[Array.range]]
theorem GD (f:Nat→Nat):∀(n s:Nat),∀v∈aA (bV (el f) s n),v.oneCell'=true
 | 0,s,v,h=>by simp[bV,aA]at h
 | n+1,s,v,h=>by
  have e:aA (bV (el f) s (n+1))=aA [At.q (f s)]++aA (bV (el f) (s+1) n):=aM [At.q (f s)] _;rw[e]at h
  rcases List.mem_append.1 h with h|h
  ·exact WI _ v h
  ·exact GD f n (s+1) v h
theorem Bn {w0:World} {b o N m:Nat} {f:Nat→Nat} (hv:LV w0 (aK b o N m) N f) (h0:0<N) (hN:N≤131072) :
  Calls prog 163 [aK b o N m].toArray w0 fun e w'=>∃c cap,e=.returned (aK c 0 N cap)∧N≤cap∧Below w0.heap.size w0 w'∧w0.heap.size≤c∧Own w' c (bV (el f) 0 N):=by
 have hG:∀base w,bO prog (qG prog) base w:=fun _ _=>(aW _).w _ _
 have hT:∀base w,∀n d:Nat,TabOkW prog T0 base w:=fun _ _ _ _=>(bU _).w _ _
 have hnt:f163.ntmps=8:=aDy;refine cH func163 (cs:=[.v (.im (aK b o N m))]) (args:=[aK b o N m]) (c:=pE) rfl ⟨rfl,trivial⟩ (Nat.le_of_ble_eq_true (by kernel_rfl)) fun a w hA => ?_
 rw[hnt]at hA;rw[Lb];refine wp_seq (aB aI (hT _ _) (hG _ _) (aDx _) trivial hA fun a w hA => ?_);refine wp_seq (aB aI (hT _ _) (dN w0 _ _ _) (aDw w0 _) ⟨Qk _ _ _ _ _ _,trivial⟩ hA fun a w hA => ?_);have t0:=hA.slot (s:=0) (v:=aK b o N m) (by simp);have hd:=hA.defers;have hsz:=hA.size;have hbl:=hA.below;clear hA;refine wp_seq (bI (l:=0::(List.range' 1 ((aD Vv).extract 1 2).size++(2::(List.range' 3 ((aD Vv).extract 3 4).size++[])))) (by kernel_rfl) ?_);obtain⟨o0,ho0,hop0,hd0,hg0⟩:∃x,(aD Vv)[0]?=some x∧x.op=.buildSlice 56 0 #[]∧x.dst=some 5∧x.guard=none:=⟨_,rfl,rfl,rfl,rfl⟩
 have hrun0:(execOp a.eval o0).run prog w=.ok (.value (aK w.heap.size 0 0 0)) (w.alloc (.cells #[] 27)):=by
  simp[execOp,hop0,Ly w]
 refine aZ ho0 hg0 (bZ hrun0 ?_);rw[hd0];have hb1:Below w.heap.size w (w.alloc (.cells #[] 27)):=(Below.refl _ w).alloc (Nat.le_refl _) _;have hap:AppAt (w.alloc (.cells #[] 27)) w.heap.size 27 4 0 0:=⟨#[],World.alloc_heap_new _ _,Nat.le_refl _,Nat.zero_le _,rfl⟩;generalize hc0:w.heap.size=c0 at hap;have hc0':w0.heap.size≤c0:=by rw[←hc0]; exact hbl.size
 generalize w.alloc (.cells #[] 27)=w1 at *;have hb1:Below w0.heap.size w0 w1:=hbl.trans (hb1.mono (by rw[hc0]; exact hc0'));have hS:=aP (nt:=8) (w:=w1) (a:=a.put (some 5) (aK c0 0 0 0)) (ts:=[(5,aK c0 0 0 0),(0,aK b o N m)]) hd (by rw[aF]; exact hsz) (fun x hx=>by
  simp only[List.mem_cons,List.not_mem_nil,or_false]at hx
  rcases hx with rfl|rfl
  ·exact aT _ _ _ (by rw[hsz]; decide)
  ·exact aS t0 (by simp))
 refine aG (c:=tC T0 _) (hT _ _ 0) (hG _ _) (aDv _ _) trivial (by kernel_rfl) hS fun a2 w2 hA => ?_
 obtain⟨o2,ho2,⟨ty,hop2⟩,hd2,hg2⟩:∃x,(aD Vv)[2]?=some x∧(∃ty:Nat,x.op=.call ⟨.builtin .append,#[.tmp 5,.tmp 6],#[56,56]⟩∧x.type=ty)∧x.dst=some 7∧x.guard=none:=⟨_,rfl,⟨_,rfl,rfl⟩,rfl,rfl⟩
 have hv2:=hv.on (hb1.trans (hA.below.mono hb1.size));obtain⟨p',m',e,_,_,h4⟩:=hv2;cases e;obtain⟨b',o',e,hb',hr⟩:=h4 h0;cases e;obtain⟨c,cap,w3,hr',a1,q2,q3,q4,a5,a6,a7⟩:=pV (P:=prog) w2 (ty:=o2.type) RT (u:=aK c0 0 0 0) (n:=0) (xs:=[]) (Or.inr ⟨c0,0,rfl,hap.shape hA.shape,fun j v hj=>by simp at hj,rfl⟩) (ad:=⟨b,o,none⟩) (m:=N) (c:=m) (news:=aA (bV (el f) 0 N)) (mZ f N 0) (fun j v hj=>by
  have e:(⟨b,o,none⟩:Addr).add j=⟨b,o+j,none⟩:=by simp[Addr.add]
  rw[e];exact hr j v hj) (GD f N 0) h0 (by omega) (by unfold maxLen; omega)
 rw[Nat.zero_add]at hr';have hcap:N≤cap:=by obtain⟨_,_,h,_⟩:=a1; omega
 have hrun2:(execOp a2.eval o2).run prog w2=.ok (.value (aK c 0 N cap)) w3:=by
  unfold execOp;simp only[hop2.1,resolve,invoke,builtin,Sem.run_bind,Sem.run_pure,Result.andThen_ok,List.map_toArray,List.map_cons,List.map_nil,cL (hA.slot (s:=5) (v:=aK c0 0 0 0) (by simp)),cL (hA.slot (s:=6) (v:=aK b o N m) (by simp))];rw[show aK b o N m=Value.slice (some ⟨b,o,none⟩) N m from rfl,hr'];rfl
 refine aZ ho2 hg2 (bZ hrun2 ?_);rw[hd2];have hb2:Below w0.heap.size w0 w2:=hb1.trans (hA.below.mono hb1.size);have hb3:Below w0.heap.size w0 w3:=hb2.grown a5 hb2.size (fun k hk=>by
  have:k=c0:=by simpa[aK,Value.ownBlock,eq_comm]using hk
  omega)
 have hcge:w0.heap.size≤c:=by
  rcases a7 with h|⟨cap0,h⟩
  ·exact Nat.le_trans hb2.size h
  ·have:c0=c:=by simp only[aK,Value.slice.injEq,Option.some.injEq,Addr.mk.injEq]at h; exact h.1.1
   omega
 have hS3:=aP (nt:=8) (w:=w3) (a:=a2.put (some 7) (aK c 0 N cap)) (ts:=[(7,aK c 0 N cap)]) hA.defers (by rw[aF]; exact hA.size) (fun x hx=>by
  cases List.mem_singleton.1 hx;exact aT _ _ _ (by rw[hA.size]; decide))
 refine aG (c:=tC T0 _) (hT _ _ 0) (hG _ _) (aDu _) trivial (by kernel_rfl) hS3 fun a4 w4 hA4 => ?_
 have hO:Own w3 c (bV (el f) 0 N):=⟨q2,q3,q4⟩;exact wp_ret (cK (l:=[.im (aK c 0 N cap)]) (r:=.one (.im (aK c 0 N cap))) (by kernel_rfl) (by kernel_rfl) hA4 ⟨c,cap,rfl,hcap,hb3.trans (hA4.below.mono hb3.size),hcge,hO.on hA4.below⟩)
noncomputable abbrev aFG:Func:=f120
def gC:Code:=(f120.body).getD .skip
def Xl:Code:=cB (cB (cB (cB gC)))
def fS:Code:=iR (iR (cB (cA Xl)))
def Gu:Code:=iR (cA (cB (cB fS)))
def pm1:Code:=cA (cB Gu)
def pm2:Code:=cA (cB (cB Gu))
def pm3:Code:=cA (cB (cB (cB Gu)))
def Gt:Code:=iR (iR (cB pm1))
def Gs:Code:=iR (iR (cB pm2))
def Gr:Code:=iR (iR (cB pm3))
theorem Gq:gC=.seq (cA gC) (.seq (cA (cB gC)) (.seq (cA (cB (cB gC))) (.seq (.region 3 (aD (cA (cB (cB (cB gC))))) false) (.seq (.seq (cA (cA Xl)) (.block 0 (.loop fS))) (cB Xl))))):=by kernel_rfl
theorem Gp:fS=.seq (cA fS) (.seq (cA (cB fS)) (.seq (.block 1 (.seq (cA Gu) (.seq (.seq (cA pm1) (.block 2 (.loop Gt))) (.seq (.seq (cA pm2) (.block 4 (.loop Gs))) (.seq (.seq (cA pm3) (.block 6 (.loop Gr))) (cB (cB (cB (cB Gu))))))))) (cB (cB (cB fS))))):=by kernel_rfl
theorem aAk:aFG.ntmps=89:=by kernel_rfl
def uR (pb wd R r b6 m6 b7 m7:Nat) (l6 l7:List At):List Fact:=[.slot 2 (.im (ptV pb 0)),.slot 5 (.im (iI wd)),.slot 6 (.sl 1006 0 wd m6),.row 1006 true l6,.at 1006 b6,.slot 7 (.sl 1007 0 wd m7),.row 1007 true l7,.at 1007 b7,.slot 26 (.im (iI R)),.slot 27 (.im (iI r))]
def NM (pb wd R r b6 m6 b7 m7:Nat) (l6 l7:List At):List Fact:=.slot 8 (.im (iI r))::uR pb wd R r b6 m6 b7 m7 l6 l7
def Rv (cv:Value) (j pb wd R r b6 m6 b7 m7:Nat) (l6 l7:List At):List Fact:=.slot 39 (.im cv) :: .slot 40 (.im (iI wd)) :: .slot 41 (.im (iI j))::NM pb wd R r b6 m6 b7 m7 l6 l7
def Ru (k j pb wd R r b6 m6 b7 m7:Nat) (l6 l7:List At):List Fact:=.slot 58 (.im (iI k)) :: .slot 59 (.im (iI j))::NM pb wd R r b6 m6 b7 m7 l6 l7
def Rt (j pb wd R r b6 m6 b7 m7:Nat) (l6 l7:List At):List Fact:=.slot 72 (.im (iI wd)) :: .slot 73 (.im (iI j))::NM pb wd R r b6 m6 b7 m7 l6 l7
def zD (w:World) (idx:Nat→Option Nat) (ld st:Nat→Option (List At)) (gen:Nat→Option Value):Ext:={ Ext.none with idx:=idx,ld:=ld,st:=st,gen:=gen,old:=oldOf w,T2:=UA,T3:=TM,T4:=Cw,T5:=jY,T6:=Dd }
theorem jN (w:World) (idx:Nat→Option Nat) (ld st:Nat→Option (List At)) (gen:Nat→Option Value):bO prog { qG prog with x:=zD w idx ld st gen } w.heap.size w :=
 ⟨(aW _).1,iP (fun b o l h=>h) (fun w' _=>FrAt.none _ _) (fun w' _=>FsAt.none _ _)⟩
def Yk (N:Nat):Ext:={ Ext.none with mks:=assoc [(17,(N,rN N))],T2:=UA,T3:=TM,T4:=Cw,T5:=jY,T6:=Dd }
theorem Dt (N:Nat) (base:Nat) (w:World):bO prog { qG prog with x:=Yk N } base w :=
 ⟨(aW _).1,iP (fun b o l h=>h.elim) (fun w' _=>FrAt.none _ _) (fun w' _=>FsAt.none _ _)⟩
section
variable (w:World) (pb wd R r b6 m6 b7 m7:Nat) (l6 l7:List At)
theorem aAo:aX prog (qG prog) 89 (fun _=>tC T0 (assoc [(28,.bool true)])) 60 (cA fS) (uR pb wd R r b6 m6 b7 m7 l6 l7) (.slot 28 (.im (.bool true))::uR pb wd R r b6 m6 b7 m7 l6 l7)=some ([aJ .lss .i64 (Int.ofNat r) (Int.ofNat R)=some (.bool true)],.nrm,.slot 28 (.im (.bool true))::uR pb wd R r b6 m6 b7 m7 l6 l7):=by kernel_rfl
theorem Rq:aX prog (qG prog) 89 (fun _=>tC T0 fun _=>none) 60 (cA (cB fS)) (.slot 28 (.im (.bool true))::uR pb wd R r b6 m6 b7 m7 l6 l7) (uR pb wd R r b6 m6 b7 m7 l6 l7)=some ([],.nrm,uR pb wd R r b6 m6 b7 m7 l6 l7):=by kernel_rfl
theorem aFF:aX prog (qG prog) 89 (fun _=>tC T0 (assoc [(28,.bool false)])) 60 (cA fS) (uR pb wd R r b6 m6 b7 m7 l6 l7) (.slot 28 (.im (.bool false))::uR pb wd R r b6 m6 b7 m7 l6 l7)=some ([aJ .lss .i64 (Int.ofNat r) (Int.ofNat R)=some (.bool false)],.nrm,.slot 28 (.im (.bool false))::uR pb wd R r b6 m6 b7 m7 l6 l7):=by kernel_rfl
theorem aAd:aX prog (qG prog) 89 (fun _=>tC T0 fun _=>none) 60 (cA (cB fS)) (.slot 28 (.im (.bool false))::uR pb wd R r b6 m6 b7 m7 l6 l7) (uR pb wd R r b6 m6 b7 m7 l6 l7)=some ([],.ex 0,uR pb wd R r b6 m6 b7 m7 l6 l7):=by kernel_rfl
theorem aAi:aX prog (qG prog) 89 (fun _=>tC T0 fun _=>none) 60 (cA Gu) (uR pb wd R r b6 m6 b7 m7 l6 l7) (NM pb wd R r b6 m6 b7 m7 l6 l7)=some ([],.nrm,NM pb wd R r b6 m6 b7 m7 l6 l7):=by kernel_rfl
theorem aAh (cb C co cm:Nat):aX prog { qG prog with x:=zD w (fun _=>none) (fun _=>none) (fun _=>none) (assoc [(31,aK cb 0 C C),(39,aK cb co wd cm)]) } 89 (fun _=>tC T0 (assoc [(34,iI (r*wd)),(36,iI (r+1)),(38,iI ((r+1)*wd))])) 60 (cA pm1) (NM pb wd R r b6 m6 b7 m7 l6 l7) (Rv (aK cb co wd cm) 0 pb wd R r b6 m6 b7 m7 l6 l7)=some ([oldOf w pb 3 [.c (aK cb 0 C C)],aJ .mul .i64 (Int.ofNat r) (Int.ofNat wd)=some (iI (r*wd)),aJ .add .i64 (Int.ofNat r) 1=some (iI (r+1)),aJ .mul .i64 (Int.ofNat (r+1)) (Int.ofNat wd)=some (iI ((r+1)*wd)),∀w:World,(Instr.sliceAt 56 (aK cb 0 C C) (some (iI (r*wd))) (some (iI ((r+1)*wd))) none).run prog w=.ok (aK cb co wd cm) w],.nrm,Rv (aK cb co wd cm) 0 pb wd R r b6 m6 b7 m7 l6 l7):=by kernel_rfl
theorem aAn (cb co cm j x c:Nat) (l7':List At):aX prog { qG prog with x:=zD w (assoc [(44,j),(50,j),(54,j)]) (assoc [(45,[.q c]),(51,[.q x])]) (assoc [(54,l7')]) (fun _=>none) } 89 (fun _=>tC TJ (assoc [(42,.bool true),(55,iI (j+1))])) 60 Gt (Rv (aK cb co wd cm) j pb wd R r b6 m6 b7 m7 l6 l7) (Rv (aK cb co wd cm) (j+1) pb wd R r b6 m6 b7 m7 l6 l7')=some ([aJ .lss .i64 (Int.ofNat j) (Int.ofNat wd)=some (.bool true),Int.ofNat j=Int.ofNat j,j<wd,oldOf w cb (co+j*4) [.q c],dJ [.q c]=4,Int.ofNat j=Int.ofNat j,j<wd,xN l7 (0+j*4) 4=some [.q x],x<RM,c<RM,Int.ofNat j=Int.ofNat j,j<wd,put l7 (0+j*4) [.q (gR x c)]=some l7',aJ .add .i64 (Int.ofNat j) 1=some (iI (j+1))],.nrm,Rv (aK cb co wd cm) (j+1) pb wd R r b6 m6 b7 m7 l6 l7'):=by kernel_rfl
theorem Rm (cv:Value) (j:Nat):aX prog (qG prog) 89 (fun _=>tC T0 (assoc [(42,.bool false)])) 60 Gt (Rv cv j pb wd R r b6 m6 b7 m7 l6 l7) (NM pb wd R r b6 m6 b7 m7 l6 l7)=some ([aJ .lss .i64 (Int.ofNat j) (Int.ofNat wd)=some (.bool false)],.ex 2,NM pb wd R r b6 m6 b7 m7 l6 l7):=by kernel_rfl
theorem Rj (fl pt k:Nat) (cs is:Value):aX prog { qG prog with x:=zD w (fun _=>none) (assoc [(56,rP wd fl pt cs is)]) (fun _=>none) (fun _=>none) } 89 (fun _=>tC (T0.add 165 (fun a=>match a with
  | [.v (.fl l),.v (.im v)]=>some ([aA l=aA (rP wd fl pt cs is),v=iI r],.one (.im (iI k)))
  | _=>none)) fun _=>none) 60 (cA pm2) (NM pb wd R r b6 m6 b7 m7 l6 l7) (Ru k 0 pb wd R r b6 m6 b7 m7 l6 l7)=some ([oldOf w pb 0 (rP wd fl pt cs is),dJ (rP wd fl pt cs is)=5,aA (rP wd fl pt cs is)=aA (rP wd fl pt cs is),iI r=iI r],.nrm,Ru k 0 pb wd R r b6 m6 b7 m7 l6 l7):=by kernel_rfl
theorem aAm (k j x:Nat) (l7':List At):aX prog { qG prog with x:=zD w (assoc [(66,j),(69,j)]) (assoc [(67,[.q x])]) (assoc [(69,l7')]) (fun _=>none) } 89 (fun _=>tC TJ (assoc [(60,.bool true),(70,iI (j+1))])) 60 Gs (Ru k j pb wd R r b6 m6 b7 m7 l6 l7) (Ru k (j+1) pb wd R r b6 m6 b7 m7 l6 l7')=some ([aJ .lss .i64 (Int.ofNat j) (Int.ofNat k)=some (.bool true),Int.ofNat j=Int.ofNat j,j<wd,xN l7 (0+j*4) 4=some [.q x],x<RM,Int.ofNat j=Int.ofNat j,j<wd,put l7 (0+j*4) [.q (Jz x)]=some l7',aJ .add .i64 (Int.ofNat j) 1=some (iI (j+1))],.nrm,Ru k (j+1) pb wd R r b6 m6 b7 m7 l6 l7'):=by kernel_rfl
theorem Rl (k j:Nat):aX prog (qG prog) 89 (fun _=>tC T0 (assoc [(60,.bool false)])) 60 Gs (Ru k j pb wd R r b6 m6 b7 m7 l6 l7) (NM pb wd R r b6 m6 b7 m7 l6 l7)=some ([aJ .lss .i64 (Int.ofNat j) (Int.ofNat k)=some (.bool false)],.ex 4,NM pb wd R r b6 m6 b7 m7 l6 l7):=by kernel_rfl
theorem Rh:aX prog (qG prog) 89 (fun _=>tC T0 fun _=>none) 60 (cA pm3) (NM pb wd R r b6 m6 b7 m7 l6 l7) (Rt 0 pb wd R r b6 m6 b7 m7 l6 l7)=some ([],.nrm,Rt 0 pb wd R r b6 m6 b7 m7 l6 l7):=by kernel_rfl
def gRw (wd fl pt j:Nat) (cs is rw:Value):gL
 | [.v (.fl l),.v (.im v)]=>some ([aA l=aA (rP wd fl pt cs is),v=iI j],.one (.im rw))
 | _=>none
def gDo (wd x:Nat) (rw:Value) (l0:List At):gL
 | [.v (.im u),.s l n m]=>some ([u=rw,l=l0,n=wd,wd≤m],.one (.fl [.q x]))
 | _=>none
def aEt (wd fl pt j x:Nat) (cs is rw:Value) (l0:List At):Tab:=(T0.add 168 (gRw wd fl pt j cs is rw)).add 167 (gDo wd x rw l0)
theorem aAl (fl pt j x:Nat) (cs is rw:Value) (l6':List At):aX prog { qG prog with x:=zD w (assoc [(83,j)]) (assoc [(78,rP wd fl pt cs is)]) (assoc [(83,l6')]) (fun _=>none) } 89 (fun _=>tC (aEt wd fl pt j x cs is rw l7) (assoc [(74,.bool true),(84,iI (j+1))])) 60 Gr (Rt j pb wd R r b6 m6 b7 m7 l6 l7) (Rt (j+1) pb wd R r b6 m6 b7 m7 l6' l7)=some ([aJ .lss .i64 (Int.ofNat j) (Int.ofNat wd)=some (.bool true),oldOf w pb 0 (rP wd fl pt cs is),dJ (rP wd fl pt cs is)=5,aA (rP wd fl pt cs is)=aA (rP wd fl pt cs is),iI j=iI j,rw=rw,l7=l7,wd=wd,wd≤m7,Int.ofNat j=Int.ofNat j,j<wd,put l6 (0+j*4) [.q x]=some l6',aJ .add .i64 (Int.ofNat j) 1=some (iI (j+1))],.nrm,Rt (j+1) pb wd R r b6 m6 b7 m7 l6' l7):=by kernel_rfl
theorem Rk (j:Nat):aX prog (qG prog) 89 (fun _=>tC T0 (assoc [(74,.bool false)])) 60 Gr (Rt j pb wd R r b6 m6 b7 m7 l6 l7) (uR pb wd R r b6 m6 b7 m7 l6 l7)=some ([aJ .lss .i64 (Int.ofNat j) (Int.ofNat wd)=some (.bool false)],.ex 6,uR pb wd R r b6 m6 b7 m7 l6 l7):=by kernel_rfl
def pmS (pb wd R r b6 m6 b7 m7:Nat) (l6 l7:List At):List Fact:=[.slot 2 (.im (ptV pb 0)),.slot 5 (.im (iI wd)),.slot 7 (.sl 1006 0 wd m6),.row 1006 true l6,.at 1006 b6,.slot 6 (.sl 1007 0 wd m7),.row 1007 true l7,.at 1007 b7,.slot 26 (.im (iI R)),.slot 27 (.im (iI r))]
theorem Rg:aX prog (qG prog) 89 (fun _=>tC T0 fun _=>none) 60 (cB (cB (cB (cB Gu)))) (uR pb wd R r b6 m6 b7 m7 l6 l7) (pmS pb wd R r b6 m6 b7 m7 l6 l7)=some ([],.nrm,pmS pb wd R r b6 m6 b7 m7 l6 l7):=by kernel_rfl
theorem Rf:aX prog (qG prog) 89 (fun _=>tC T0 (assoc [(87,iI (r+1))])) 60 (cB (cB (cB fS))) (pmS pb wd R r b6 m6 b7 m7 l6 l7) (pmS pb wd R (r+1) b6 m6 b7 m7 l6 l7)=some ([aJ .add .i64 (Int.ofNat r) 1=some (iI (r+1))],.nrm,pmS pb wd R (r+1) b6 m6 b7 m7 l6 l7):=by kernel_rfl
theorem Rs:aX prog (qG prog) 89 (fun _=>tC T0 fun _=>none) 60 (cB Xl) (uR pb wd R r b6 m6 b7 m7 l6 l7) [.slot 4 (.sl 1007 0 wd m7),.row 1007 true l7,.at 1007 b7]=some ([],.rt,[.slot 4 (.sl 1007 0 wd m7),.row 1007 true l7,.at 1007 b7]):=by kernel_rfl
theorem aAj (S fl pt:Nat) (l6V l7V:Value):aX prog { qG prog with x:=zD w (fun _=>none) (fun _=>none) (fun _=>none) (assoc [(22,iI fl),(25,iI pt)]) } 89 (fun _=>tC T0 (assoc [(26,iI S)])) 60 (cA (cA Xl)) [.slot 2 (.im (ptV pb 0)),.slot 5 (.im (iI wd)),.slot 6 (.im l6V),.slot 7 (.im l7V)] [.slot 2 (.im (ptV pb 0)),.slot 5 (.im (iI wd)),.slot 6 (.im l6V),.slot 7 (.im l7V),.slot 26 (.im (iI S)),.slot 27 (.im (iI 0))]=some ([oldOf w pb 1 [.c (iI fl)],oldOf w pb 2 [.c (iI pt)],aJ .add .i64 (Int.ofNat fl) (Int.ofNat pt)=some (iI S)],.nrm,[.slot 2 (.im (ptV pb 0)),.slot 5 (.im (iI wd)),.slot 6 (.im l6V),.slot 7 (.im l7V),.slot 26 (.im (iI S)),.slot 27 (.im (iI 0))]):=by kernel_rfl
theorem aAg (v:Value) (fl pt:Nat) (cs is:Value):aX prog (qG prog) 89 (fun _=>tC T0 fun _=>none) 60 (cA gC) (fD 0 [.v (.fl (rP wd fl pt cs is)),.v (.im v)]) [.slot 1 (.im v),.slot 2 (.pt 2 0),.row 2 true (rP wd fl pt cs is)]=some ([],.nrm,[.slot 1 (.im v),.slot 2 (.pt 2 0),.row 2 true (rP wd fl pt cs is)]):=by kernel_rfl
theorem aAf (v:Value):aX prog { qG prog with x:=zD w (fun _=>none) (fun _=>none) (fun _=>none) (assoc [(15,iI wd)]) } 89 (fun _=>tC T0 fun _=>none) 60 (cA (cB gC)) [.slot 1 (.im v),.slot 2 (.im (ptV pb 0))] [.slot 1 (.im v),.slot 2 (.im (ptV pb 0)),.slot 5 (.im (iI wd))]=some ([oldOf w pb 0 [.c (iI wd)]],.nrm,[.slot 1 (.im v),.slot 2 (.im (ptV pb 0)),.slot 5 (.im (iI wd))]):=by kernel_rfl
theorem aAe (v:Value):aX prog { qG prog with x:=Yk wd } 89 (fun _=>tC T0 fun _=>none) 60 (cA (cB (cB gC))) [.slot 1 (.im v),.slot 2 (.im (ptV pb 0)),.slot 5 (.im (iI wd))] [.slot 1 (.im v),.slot 2 (.im (ptV pb 0)),.slot 5 (.im (iI wd)),.slot 6 (.sl 17 0 wd wd),.row 17 true (rN wd)]=some ([∃e,∀w:World,(Instr.makeSlice 56 (iI wd) (iI wd)).run prog w=.ok (.slice (some ⟨w.heap.size,0,none⟩) wd wd) (w.alloc (.cells (aA (rN wd)).toArray e))],.nrm,[.slot 1 (.im v),.slot 2 (.im (ptV pb 0)),.slot 5 (.im (iI wd)),.slot 6 (.sl 17 0 wd wd),.row 17 true (rN wd)]):=by kernel_rfl
theorem aAq (v u:Value):cO prog (qG prog) 89 (tC T0 fun _=>none) ((aD (cA (cB (cB (cB gC))))).extract 0 1) [.slot 1 (.im v),.slot 2 (.im (ptV pb 0)),.slot 5 (.im (iI wd)),.slot 6 (.im u)] [.slot 18 (.im v),.slot 2 (.im (ptV pb 0)),.slot 5 (.im (iI wd)),.slot 6 (.im u)]=some ([],[.slot 18 (.im v),.slot 2 (.im (ptV pb 0)),.slot 5 (.im (iI wd)),.slot 6 (.im u)]):=by kernel_rfl
theorem aAp (v u:Value):cO prog (qG prog) 89 (tC T0 fun _=>none) ((aD (cA (cB (cB (cB gC))))).extract 2 3) [.slot 19 (.im v),.slot 2 (.im (ptV pb 0)),.slot 5 (.im (iI wd)),.slot 6 (.im u)] [.slot 2 (.im (ptV pb 0)),.slot 5 (.im (iI wd)),.slot 6 (.im u),.slot 7 (.im v)]=some ([],[.slot 2 (.im (ptV pb 0)),.slot 5 (.im (iI wd)),.slot 6 (.im u),.slot 7 (.im v)]):=by kernel_rfl
end
theorem zR {h:Nat→Nat} {n j:Nat} (hj:j<n):xN (bV (el h) 0 n) (0+j*4) 4=some [.q (h j)]:=NC (f:=el h) (c:=4) (fun _=>rfl) hj (Nat.zero_add _)
theorem AB {g f:Nat→Nat} {n j:Nat} (hj:j<n):put (bV (el (oG g f j)) 0 n) (0+j*4) [.q (g j)]=some (bV (el (oG g f (j+1))) 0 n):=by
 rw[iW (el (oG g f j)) j n 0 hj,iW (el (oG g f (j+1))) j n 0 hj];have e1:bV (el (oG g f j)) 0 j=bV (el (oG g f (j+1))) 0 j:=fL j 0 fun q hq=>by unfold oG; rw[if_pos (by omega),if_pos (by omega)]
 have e2:bV (el (oG g f j)) (0+j+1) (n-j-1)=bV (el (oG g f (j+1))) (0+j+1) (n-j-1):=fL _ _ fun q hq=>by unfold oG; rw[if_neg (by omega),if_neg (by omega)]
 have e3:el (oG g f (j+1)) (0+j)=[.q (g j)]:=by show [At.q (oG g f (j+1) (0+j))]=_; unfold oG; rw[if_pos (by omega),Nat.zero_add]
 rw[AC (bV (el (oG g f j)) 0 j) (el (oG g f j) (0+j)) _ [.q (g j)] (by rw[fM (f:=el (oG g f j)) (c:=4) (fun _=>rfl)]; omega) rfl,e1,e2,e3]
structure PmS (w1:World) (pb wd R r b6 m6 b7 m7:Nat) (f6 f7:Nat→Nat) (a:Act) (w:World):Prop where
 defers:a.defers=[]
 size:a.tmps.size=89
 t2:a.tmps[2]?=some (ptV pb 0)
 t5:a.tmps[5]?=some (iI wd)
 t6:a.tmps[6]?=some (aK b6 0 wd m6)
 t7:a.tmps[7]?=some (aK b7 0 wd m7)
 t26:a.tmps[26]?=some (iI R)
 t27:a.tmps[27]?=some (iI r)
 below:Below w1.heap.size w1 w
 shape:Shape w1 w
 o6:Own w b6 (bV (el f6) 0 wd)
 o7:Own w b7 (bV (el f7) 0 wd)
 l6:w1.heap.size≤b6
 l7:w1.heap.size≤b7
 ne:b6≠b7
section
variable {w1:World} {pb wd R r b6 m6 b7 m7:Nat} {f6 f7:Nat→Nat} {a:Act} {w:World}
theorem PmS.holds (h:PmS w1 pb wd R r b6 m6 b7 m7 f6 f7 a w):Holds 89 w1.heap.size w1 (uR pb wd R r b6 m6 b7 m7 (bV (el f6) 0 wd) (bV (el f7) 0 wd)) a w:=by
 refine⟨h.defers,h.size,h.below,h.below.size,fun k=>bif Nat.beq k 1006 then (b6,0,m6)else bif Nat.beq k 1007 then (b7,0,m7)else (w1.heap.size,0,0),fun φ hφ => ?_,fun k k' o' l l' e1 e2 hne => ?_,fun k l e1 => ?_,h.below.size,fun p q1 q2 => ?_,h.shape⟩
 ·simp only[uR,List.mem_cons,List.not_mem_nil,or_false]at hφ
  rcases hφ with rfl|rfl|rfl|rfl|rfl|rfl|rfl|rfl|rfl|rfl
  ·exact h.t2
  ·exact h.t5
  ·exact h.t6
  ·exact⟨h.o6.lt,h.o6.row,fun _=>⟨h.l6,rfl,h.o6.free⟩,fun h=>by cases h⟩
  ·exact⟨rfl,rfl⟩
  ·exact h.t7
  ·exact⟨h.o7.lt,h.o7.row,fun _=>⟨h.l7,rfl,h.o7.free⟩,fun h=>by cases h⟩
  ·exact⟨rfl,rfl⟩
  ·exact h.t26
  ·exact h.t27
 ·simp only[uR,List.mem_cons,reduceCtorEq,Fact.row.injEq,false_or,List.not_mem_nil,or_false]at e1 e2
  rcases e1 with⟨rfl,_⟩|⟨rfl,_⟩<;>rcases e2 with⟨rfl,_⟩|⟨rfl,_⟩
  ·exact (hne rfl).elim
  ·exact h.ne
  ·exact h.ne.symm
  ·exact (hne rfl).elim
 ·simp only[uR,List.mem_cons,reduceCtorEq,Fact.row.injEq,false_or,List.not_mem_nil,or_false]at e1
  rcases e1 with⟨rfl,_⟩|⟨rfl,_⟩
  ·exact Or.inr h.l6
  ·exact Or.inr h.l7
 ·exact absurd (Nat.lt_trans q1 q2) (Nat.lt_irrefl _)
theorem Holds.pmS {l6 l7:List At} (h:Holds 89 w1.heap.size w1 (Ex.pmS pb wd R r b6 m6 b7 m7 l6 l7) a w) (e6:l6=bV (el f6) 0 wd) (e7:l7=bV (el f7) 0 wd) (hne:b6≠b7):PmS w1 pb wd R r b7 m7 b6 m6 f7 f6 a w:=by
 subst e6; subst e7;have h6:=(h.im (s:=7) (k:=1006) (o:=0) (n:=wd) (m:=m6) (b:=b6) (by simp[Ex.pmS]) (by simp[Ex.pmS])).slot (s:=7) (v:=aK b6 0 wd m6) (by simp);have h7:=(h.im (s:=6) (k:=1007) (o:=0) (n:=wd) (m:=m7) (b:=b7) (by simp[Ex.pmS]) (by simp[Ex.pmS])).slot (s:=6) (v:=aK b7 0 wd m7) (by simp);exact⟨h.defers,h.size,h.slot (by simp[Ex.pmS]),h.slot (by simp[Ex.pmS]),h7,h6,h.slot (by simp[Ex.pmS]),h.slot (by simp[Ex.pmS]),h.below,h.shape,h.own (k:=1007) (by simp[Ex.pmS]) (by simp[Ex.pmS]),h.own (k:=1006) (by simp[Ex.pmS]) (by simp[Ex.pmS]),h.geq (k:=1007) (l:=bV (el f7) 0 wd) (by simp[Ex.pmS]) (by simp[Ex.pmS]),h.geq (k:=1006) (l:=bV (el f6) 0 wd) (by simp[Ex.pmS]) (by simp[Ex.pmS]),hne.symm⟩
end
structure PmM (w:World) (wd fl pt:Nat) (xs:Nat→Nat) (cs is:Value):Prop where
 cs:∃cb,cs=aK cb 0 (wd*(fl+pt)) (wd*(fl+pt))∧LM w cb (wd*(fl+pt)) xs
 is:∃ib,is=aK ib 0 (2*wd-1) (2*wd-1)∧LM w ib (2*wd-1) (fun j=>inv (wd+j))
 lt:∀i,i<wd*(fl+pt)→xs i<RM
theorem PmM.on {w w':World} {wd fl pt:Nat} {xs:Nat→Nat} {cs is:Value} (h:PmM w wd fl pt xs cs is) (hb:Below w.heap.size w w'):PmM w' wd fl pt xs cs is:=by
 obtain⟨⟨cb,h1,h2⟩,⟨ib,h3,h4⟩,h5⟩:=h;exact⟨⟨cb,h1,h2.on hb⟩,⟨ib,h3,h4.on hb⟩,h5⟩
theorem GQ {base:Nat} {w0:World} {wd fl pt r:Nat} {cs is:Value} (hf:fl≤65536) (hp:pt≤65536):TabOkW prog (T0.add 165 (fun a=>match a with
  | [.v (.fl l),.v (.im v)]=>some ([aA l=aA (rP wd fl pt cs is),v=iI r],.one (.im (iI (rz wd fl pt r))))
  | _=>none)) base w0 :=
 TabOkW.add ((bU _).w _ _) func165 (by kernel_rfl) (by kernel_rfl) (fun w hw cs' pre r' hg hp' args ha=>by
  split at hg
  ·cases hg;obtain⟨h1,h2,_⟩:=hp'
   match args,ha with
   | [u,v],ha =>
    have e1:u=.agg (aA _).toArray:=ha.1;have e2:v=_:=ha.2.1;rw[h1]at e1;subst e1; subst e2; subst h2;exact VY hf hp
   | [],ha=>exact ha.elim
   | [_],ha=>exact ha.2.elim
   | _::_::_::_,ha=>exact ha.2.2.elim
  ·cases hg)
theorem Mj {base:Nat} {w0:World} {wd fl pt j M ib:Nat} {cs:Value} {g h:Nat→Nat} (hj:j<M) (hw:j+wd≤M) (hM:M≤65536) (hL:∀w,Below base w0 w→LV w (aK ib (0+j*4) wd (M-j)) wd g) (hg:oI wd g) (hh:oI wd h) :
  TabOkW prog (aEt wd fl pt j (Ax g h wd) cs (aK ib 0 M M) (aK ib (0+j*4) wd (M-j)) (bV (el h) 0 wd)) base w0:=by
 refine TabOkW.add (TabOkW.add ((bU _).w _ _) func168 (by kernel_rfl) (by kernel_rfl) (fun w hw' cs' pre r' hg' hp args ha => ?_)) func167 (by kernel_rfl) (by kernel_rfl) (fun w hw' cs' pre r' hg' hp args ha => ?_)
 ·unfold gRw at hg';split at hg'
  ·cases hg';obtain⟨h1,h2,_⟩:=hp
   match args,ha with
   | [u,v],ha =>
    have e1:u=.agg (aA _).toArray:=ha.1;have e2:v=_:=ha.2.1;rw[h1]at e1;subst e1; subst e2; subst h2;exact PV hj hw hM
   | [],ha=>exact ha.elim
   | [_],ha=>exact ha.2.elim
   | _::_::_::_,ha=>exact ha.2.2.elim
  ·cases hg'
 ·unfold gDo at hg';split at hg'
  ·rename_i u' l n m;cases hg';obtain⟨h1,h2,h3,h4,_⟩:=hp
   match args,ha with
   | [u,v],ha =>
    have e1:u=_:=ha.1;subst e1; subst h1; subst h2; subst h3;have hv:LV w v n h:=LV.ofS (f:=h) ha.2.1 rfl rfl h4 (fun q hq=>kF (hh q hq));exact Ba (hL w hw') hv (by omega) hg hh
   | [],ha=>exact ha.elim
   | [_],ha=>exact ha.2.elim
   | _::_::_::_,ha=>exact ha.2.2.elim
  ·cases hg'
theorem WY {w0:World} {wd fl pt m so:Nat} {xs f:Nat→Nat} {cs is:Value} {sb:Nat} (hM:PmM w0 wd fl pt xs cs is) (hv:LV w0 (aK sb so wd m) wd f) (hf:∀q,q<wd→f q<RM) (h0:0<wd) (hw:wd≤32) (hfl:fl≤1024) (hpt:pt≤1024) :
  Calls prog 120 [.agg (aA (rP wd fl pt cs is)).toArray,aK sb so wd m].toArray w0 fun e w'=>∃b c,e=.returned (aK b 0 wd c)∧wd≤c∧Below w0.heap.size w0 w'∧w0.heap.size≤b∧Own w' b (bV (el (gM xs wd fl pt (fl+pt) f)) 0 wd):=by
 obtain⟨⟨cb,rfl,hcb⟩,⟨ib,rfl,hib⟩,hxl⟩:=hM;have hG:∀base w,bO prog (qG prog) base w:=fun _ _=>(aW _).w _ _
 have hT:∀base w,∀n d:Nat,TabOkW prog T0 base w:=fun _ _ _ _=>(bU _).w _ _
 have hnt:f120.ntmps=89:=aAk;have hmu:wd*(fl+pt)≤65536:=Nat.le_trans (Nat.mul_le_mul hw (show fl+pt≤2048 by omega)) (by decide);refine cH func120 (cs:=[.v (.fl (rP wd fl pt _ _)),.v (.im (aK sb so wd m))]) (args:=[.agg (aA (rP wd fl pt _ _)).toArray,aK sb so wd m]) (c:=gC) rfl ⟨rfl,rfl,trivial⟩ (Nat.le_of_ble_eq_true (by kernel_rfl)) fun a w hA => ?_
 rw[hnt]at hA;rw[Gq];refine wp_seq (aB aI (hT _ _) (hG _ _) (aAg wd (aK sb so wd m) fl pt _ _) trivial hA fun a w1 hA => ?_);obtain⟨pb,hA⟩:=hA.at (k:=2) (l:=rP wd fl pt (aK cb 0 (wd*(fl+pt)) (wd*(fl+pt))) (aK ib 0 (2*wd-1) (2*wd-1))) (by simp);have hpb:oldOf w1 pb 0 (rP wd fl pt (aK cb 0 (wd*(fl+pt)) (wd*(fl+pt))) (aK ib 0 (2*wd-1) (2*wd-1))):=hA.old (k:=2) (by simp) (by simp);have hcb:=hcb.on hA.below;have hib:=hib.on hA.below;have hv1:=hv.on hA.below;have hbl:=hA.below;have hS:=aP (nt:=89) (w:=w1) (a:=a) (ts:=[(1,aK sb so wd m),(2,ptV pb 0)]) hA.defers hA.size (fun x hx=>by
  simp only[List.mem_cons,List.not_mem_nil,or_false]at hx
  rcases hx with rfl|rfl
  ·exact hA.slot (by simp)
  ·exact hA.ptS (s:=2) (k:=2) (o:=0) (by simp) (by simp))
 clear hA;have p0:oldOf w1 pb 0 [.c (iI wd)]:=⟨hpb.1,eE (i:=0) (n:=1) hpb.2 rfl⟩;have p1:oldOf w1 pb 1 [.c (iI fl)]:=⟨hpb.1,eE (i:=1) (n:=1) hpb.2 rfl⟩;have p2:oldOf w1 pb 2 [.c (iI pt)]:=⟨hpb.1,eE (i:=2) (n:=1) hpb.2 rfl⟩;have p3:oldOf w1 pb 3 [.c (aK cb 0 (wd*(fl+pt)) (wd*(fl+pt)))]:=⟨hpb.1,eE (i:=3) (n:=1) hpb.2 rfl⟩;refine wp_seq (aB aI (hT _ _) (jN w1 _ _ _ _) (aAf w1 pb wd (aK sb so wd m)) ⟨p0,trivial⟩ hS fun a w2 hA => ?_);clear hS;refine wp_seq (aB aI (hT _ _) (Dt wd _ _) (aAe pb wd (aK sb so wd m)) ⟨OA (t:=56) (e:=27) (z:=[.q 0]) (v:=.int .u64 0) (n:=4) (by8:=32) (by kernel_rfl) (by kernel_rfl) rfl tU (by omega) (by omega) (by omega),trivial⟩ hA fun a w3 hA => ?_);obtain⟨b6,hA⟩:=hA.at (k:=17) (l:=rN wd) (by simp);have hl6:w1.heap.size≤b6:=hA.geq (k:=17) (l:=rN wd) (by simp) (by simp);have ho6:Own w3 b6 (rN wd):=hA.own (k:=17) (by simp) (by simp);have hb3:=hA.below;have hsh3:=hA.shape;have hS:=aP (nt:=89) (w:=w3) (a:=a) (ts:=[(1,aK sb so wd m),(2,ptV pb 0),(5,iI wd),(6,aK b6 0 wd wd)]) hA.defers hA.size (fun x hx=>by
  simp only[List.mem_cons,List.not_mem_nil,or_false]at hx
  rcases hx with rfl|rfl|rfl|rfl
  ·exact hA.slot (by simp)
  ·exact hA.slot (by simp)
  ·exact hA.slot (by simp)
  ·exact (hA.im (s:=6) (k:=17) (o:=0) (n:=wd) (m:=wd) (b:=b6) (by simp) (by simp)).slot (by simp))
 clear hA;refine wp_seq (bI (l:=List.range' 0 ((aD (cA (cB (cB (cB gC))))).extract 0 1).size++(1::(List.range' 2 ((aD (cA (cB (cB (cB gC))))).extract 2 3).size++[]))) (by kernel_rfl) ?_);refine aG (c:=tC T0 _) (hT _ _ 0) (hG _ _) (aAq pb wd (aK sb so wd m) (aK b6 0 wd wd)) trivial (by kernel_rfl) hS fun a4 w4 hA => ?_
 obtain⟨o1,ho1,⟨ts1,hop1⟩,hd1,hg1⟩:∃x,(aD (cA (cB (cB (cB gC)))))[1]?=some x∧(∃ts,x.op=.call ⟨.value (.func 163),#[.tmp 18],ts⟩)∧x.dst=some 19∧x.guard=none:=⟨_,rfl,⟨_,rfl⟩,rfl,rfl⟩
 have hv4:=hv1.on (hb3.trans (hA.below.mono hb3.size));refine aZ ho1 hg1 (cF hop1 (vs:=[aK sb so wd m]) (List.cons_eq_cons.2 ⟨cL (hA.slot (s:=18) (by simp)),rfl⟩) (fun args=>bQ func163 (by kernel_rfl) (by kernel_rfl) args _) (Bn hv4 h0 (by omega)) fun e w5 hw' => ?_);obtain⟨b7,c7,rfl,hcc,hb5,hl7',ho7⟩:=hw';refine⟨_,rfl,?_⟩;rw[hd1];have hs4:w1.heap.size≤w4.heap.size:=Nat.le_trans hb3.size hA.below.size;have hl7:w1.heap.size≤b7:=Nat.le_trans hs4 hl7';have hb4:Below w1.heap.size w1 w4:=hb3.trans (hA.below.mono hb3.size);have hb15:Below w1.heap.size w1 w5:=hb4.trans (hb5.mono hs4);have hsh5:Shape w1 w5:=(hsh3.trans hA.shape).trans (Shape.below hb5);have ho65:Own w5 b6 (rN wd):=(ho6.on hA.below).on hb5;have hne:b6≠b7:=fun e=>by have:=(ho6.on hA.below).lt; omega
 have hS5:=aP (nt:=89) (w:=w5) (a:=a4.put (some 19) (aK b7 0 wd c7)) (ts:=[(19,aK b7 0 wd c7),(2,ptV pb 0),(5,iI wd),(6,aK b6 0 wd wd)]) hA.defers (by rw[aF]; exact hA.size) (fun x hx=>by
  simp only[List.mem_cons,List.not_mem_nil,or_false]at hx
  rcases hx with rfl|rfl|rfl|rfl
  ·exact aT _ _ _ (by rw[hA.size]; decide)
  ·exact aS (hA.slot (by simp)) (by simp)
  ·exact aS (hA.slot (by simp)) (by simp)
  ·exact aS (hA.slot (by simp)) (by simp))
 clear hA hS;refine aG (c:=tC T0 _) (hT _ _ 0) (hG _ _) (aAp pb wd (aK b7 0 wd c7) (aK b6 0 wd wd)) trivial (by kernel_rfl) hS5 fun a6 w6 hA => ?_
 have hb16:=hb15.trans (hA.below.mono hb15.size);have hsh6:=hsh5.trans hA.shape;have ho66:=ho65.on hA.below;have ho76:=ho7.on hA.below;have hS6:=aP (nt:=89) (w:=w6) (a:=a6) (ts:=[(2,ptV pb 0),(5,iI wd),(6,aK b6 0 wd wd),(7,aK b7 0 wd c7)]) hA.defers hA.size (fun x hx=>by
  simp only[List.mem_cons,List.not_mem_nil,or_false]at hx
  rcases hx with rfl|rfl|rfl|rfl<;>exact hA.slot (by simp))
 clear hA hS5;show (Code.seq _ _).wp _ _ _ _;have p1':=p1.on hb16;have p2':=p2.on hb16;refine wp_seq (wp_seq (aB aI (hT _ _) (jN w6 _ _ _ _) (aAj w6 pb wd (fl+pt) fl pt (aK b6 0 wd wd) (aK b7 0 wd c7)) ⟨p1',p2',oX (by omega),trivial⟩ hS6 fun a7 w7 hA => ?_));have hc7:∃f6:Nat→Nat,aA (rN wd)=aA (bV (el f6) 0 wd):=⟨fun _=>0,rfl⟩
 obtain⟨f6,hz⟩:=hc7;have hP:PmS w1 pb wd (fl+pt) 0 b6 wd b7 c7 f6 (gM xs wd fl pt 0 f) a7 w7:=⟨hA.defers,hA.size,hA.slot (by simp),hA.slot (by simp),hA.slot (by simp),hA.slot (by simp),hA.slot (by simp),hA.slot (by simp),hb16.trans (hA.below.mono hb16.size),hsh6.trans hA.shape,(ho66.on hA.below).eq hz,ho76.on hA.below,hl6,hl7,hne⟩;clear hA hS6;refine wp_block (dS (n:=fl+pt+1) ?_);have wl:∀Q a w,(Code.seq (cA fS) (.seq (cA (cB fS)) (.seq (.block 1 (.seq (cA Gu) (.seq (.seq (cA pm1) (.block 2 (.loop Gt))) (.seq (.seq (cA pm2) (.block 4 (.loop Gs))) (.seq (.seq (cA pm3) (.block 6 (.loop Gr))) (cB (cB (cB (cB Gu))))))))) (cB (cB (cB fS)))))).wp prog Q a w→fS.wp prog Q a w:=fun Q a w h=>by rw[Gp]; exact h
 have key:∀k r b6 m6 b7 m7 f6 a w,r+k=fl+pt→PmS w1 pb wd (fl+pt) r b6 m6 b7 m7 f6 (gM xs wd fl pt r f) a w→wd≤m6→wd≤m7→Un prog fS (Exit.inBlock 0 (Exit.then ((cB Xl).wp prog (bodyPost prog f120 fun e w'=>∃b c,e=.returned (aK b 0 wd c)∧wd≤c∧Below w0.heap.size w0 w'∧w0.heap.size≤b∧Own w' b (bV (el (gM xs wd fl pt (fl+pt) f)) 0 wd))) (bodyPost prog f120 fun e w'=>∃b c,e=.returned (aK b 0 wd c)∧wd≤c∧Below w0.heap.size w0 w'∧w0.heap.size≤b∧Own w' b (bV (el (gM xs wd fl pt (fl+pt) f)) 0 wd)))) (k+1) a w:=by
  intro k
  induction k with
  | zero =>
   intro r b6 m6 b7 m7 f6 a w hr hS hm6 hm7;have hre:r=fl+pt:=by omega
   subst hre;unfold Un;refine wl _ _ _ (wp_seq (aB aI (hT _ _) (hG _ _) (aFF pb wd (fl+pt) (fl+pt) b6 m6 b7 m7 _ _) ⟨dD (by omega),trivial⟩ hS.holds fun a w hA => ?_));refine wp_seq (aB aI (hT _ _) (hG _ _) (aAd pb wd (fl+pt) (fl+pt) b6 m6 b7 m7 _ _) trivial hA fun a w hA => ?_);simp only[EA.out,Exit.then,Exit.inBlock,if_true];refine aB aI (hT _ _) (hG _ _) (Rs pb wd (fl+pt) (fl+pt) b6 m6 b7 m7 _ _) trivial hA fun a w hA => ?_
   have hO:=hA.own (k:=1007) (b:=b7) (l:=bV (el (gM xs wd fl pt (fl+pt) f)) 0 wd) (by simp) (by simp);have hb:=hA.below;exact cK (l:=[.im (aK b7 0 wd m7)]) (r:=.one (.im (aK b7 0 wd m7))) (by kernel_rfl) (by kernel_rfl) (hA.im (s:=4) (k:=1007) (o:=0) (n:=wd) (m:=m7) (b:=b7) (by simp) (by simp)) ⟨b7,m7,rfl,hm7,hbl.trans (hb.mono hbl.size),Nat.le_trans hbl.size hS.l7,hO⟩
  | succ k ih =>
   intro r b6 m6 b7 m7 f6 a w hr hS hm6 hm7;have hlt:r<fl+pt:=by omega
   have hfr:=NN (xs:=xs) (fl:=fl) (pt:=pt) hf r;have hnx:gM xs wd fl pt (r+1) f=rnd xs wd fl pt r (gM xs wd fl pt r f):=rfl;have ih:=ih (r+1) b7 m7 b6 m6;generalize gM xs wd fl pt r f=g at hS hfr hnx;unfold Un;refine wl _ _ _ (wp_seq (aB aI (hT _ _) (hG _ _) (aAo pb wd (fl+pt) r b6 m6 b7 m7 _ _) ⟨eO hlt,trivial⟩ hS.holds fun a w hA => ?_));refine wp_seq (aB aI (hT _ _) (hG _ _) (Rq pb wd (fl+pt) r b6 m6 b7 m7 _ _) trivial hA fun a w hA => ?_);refine wp_seq (wp_block (wp_seq (aB aI (hT _ _) (hG _ _) (aAi pb wd (fl+pt) r b6 m6 b7 m7 _ _) trivial hA fun a w hA => ?_)));have hr1:(r+1)*wd≤wd*(fl+pt):=by rw[Nat.mul_comm wd]; exact Nat.mul_le_mul_right wd (by omega)
   have hrw:(r+1)*wd=r*wd+wd:=by rw[Nat.add_mul,Nat.one_mul]
   refine wp_seq (wp_seq (aB aI (hT _ _) (jN w1 _ _ _ _) (aAh w1 pb wd (fl+pt) r b6 m6 b7 m7 _ _ cb (wd*(fl+pt)) (0+r*wd*4) (wd*(fl+pt)-r*wd)) ⟨p3,JL (by omega),fU (k:=1) (by omega),JL (by omega),fun w=>by
    have:=VO (b:=cb) (o:=0) (N:=wd*(fl+pt)) (m:=wd*(fl+pt)) (i:=r*wd) (j:=(r+1)*wd) (by omega) hr1 (by omega) w
    rwa [show (r+1)*wd-r*wd=wd by omega]at this,trivial⟩ hA fun a w hA => ?_))
   refine wp_block ?_;rw[←YI (uO xs wd r g) g]at hA;refine jD aI (fun j=>Rv (aK cb (0+r*wd*4) wd (wd*(fl+pt)-r*wd)) j pb wd (fl+pt) r b6 m6 b7 m7 (bV (el f6) 0 wd) (bV (el (oG (uO xs wd r g) g j)) 0 wd)) wd (fun j hj => ?_) (.ex 2) (by simp) (NM pb wd (fl+pt) r b6 m6 b7 m7 (bV (el f6) 0 wd) (bV (el (oG (uO xs wd r g) g wd)) 0 wd)) ⟨_,_,_,_,hG _ _,hT _ _,Rm pb wd (fl+pt) r b6 m6 b7 m7 _ _ _ wd,dD (Nat.le_refl _),trivial⟩ hA fun a w hA => ?_
   ·have hmj:oG (uO xs wd r g) g j j=g j:=by unfold oG; rw[if_neg (Nat.lt_irrefl _)]
    have hci:r*wd+j<wd*(fl+pt):=by omega
    have ho:oldOf w1 cb (0+r*wd*4+j*4) [.q (xs (r*wd+j))]:=by
     have:=mK (o:=0) hcb.1 hcb.2 hci
     rwa [show 0+(r*wd+j)*4=0+r*wd*4+j*4 by omega]at this
    have hp:=AB (g:=uO xs wd r g) (f:=g) hj;exact⟨_,_,_,_,jN w1 _ _ _ _,fun _ _=>EG.w _ _,aAn w1 pb wd (fl+pt) r b6 m6 b7 m7 _ _ cb (0+r*wd*4) (wd*(fl+pt)-r*wd) j (g j) (xs (r*wd+j)) _,eO hj,rfl,hj,ho,rfl,rfl,hj,by rw[zR hj,hmj],hfr j hj,hxl _ hci,rfl,hj,hp,fU (k:=1) (by omega),trivial⟩
   have e1:bV (el (oG (uO xs wd r g) g wd)) 0 wd=bV (el (uO xs wd r g)) 0 wd:=fL wd 0 fun q hq=>by unfold oG; rw[if_pos (by omega)]
   rw[e1]at hA;have hgr:=Fw xs wd r g;have hnx:gM xs wd fl pt (r+1) f=wU wd (PW (rz wd fl pt r) (uO xs wd r g)):=hnx;generalize uO xs wd r g=g1 at hA hgr hnx;simp only[EA.out,Exit.then,Exit.inBlock,if_true];have hk:rz wd fl pt r≤wd:=by
    unfold rz
    by_cases q1:r<fl/2
    ·rw[if_pos q1]; exact Nat.le_refl _
    ·rw[if_neg q1]
     by_cases q2:fl/2+pt≤r
     ·rw[if_pos q2]; exact Nat.le_refl _
     ·rw[if_neg q2]; exact h0
   refine wp_seq (wp_seq (aB aI (fun _ _=>GQ (by omega) (by omega)) (jN w1 _ _ _ _) (Rj w1 pb wd (fl+pt) r b6 m6 b7 m7 _ _ fl pt (rz wd fl pt r) _ _) ⟨hpb,rfl,rfl,rfl,trivial⟩ hA fun a w hA => ?_));refine wp_block ?_;rw[←YI (fun q=>Jz (g1 q)) g1]at hA;refine jD aI (fun j=>Ru (rz wd fl pt r) j pb wd (fl+pt) r b6 m6 b7 m7 (bV (el f6) 0 wd) (bV (el (oG (fun q=>Jz (g1 q)) g1 j)) 0 wd)) (rz wd fl pt r) (fun j hj => ?_) (.ex 4) (by simp) (NM pb wd (fl+pt) r b6 m6 b7 m7 (bV (el f6) 0 wd) (bV (el (PW (rz wd fl pt r) g1)) 0 wd)) ⟨_,_,_,_,hG _ _,hT _ _,Rl pb wd (fl+pt) r b6 m6 b7 m7 _ _ (rz wd fl pt r) (rz wd fl pt r),dD (Nat.le_refl _),trivial⟩ hA fun a w hA => ?_
   ·have hjw:j<wd:=by omega
    have hmj:oG (fun q=>Jz (g1 q)) g1 j j=g1 j:=by unfold oG; rw[if_neg (Nat.lt_irrefl _)]
    have hp:=AB (g:=fun q=>Jz (g1 q)) (f:=g1) hjw;exact⟨_,_,_,_,jN w1 _ _ _ _,fun _ _=>EG.w _ _,aAm w1 pb wd (fl+pt) r b6 m6 b7 m7 _ _ (rz wd fl pt r) j (g1 j) _,eO hj,rfl,hjw,by rw[zR hjw,hmj],hgr j,rfl,hjw,hp,fU (k:=1) (by omega),trivial⟩
   have hg2:=Fv (k:=rz wd fl pt r) hgr;generalize PW (rz wd fl pt r) g1=g2 at hA hg2 hnx;simp only[EA.out,Exit.then,Exit.inBlock,if_true];refine wp_seq (wp_seq (aB aI (hT _ _) (hG _ _) (Rh pb wd (fl+pt) r b6 m6 b7 m7 _ _) trivial hA fun a w hA => ?_));refine wp_block ?_;rw[←YI (wU wd g2) f6]at hA;refine jD aI (fun j=>Rt j pb wd (fl+pt) r b6 m6 b7 m7 (bV (el (oG (wU wd g2) f6 j)) 0 wd) (bV (el g2) 0 wd)) wd (fun j hj => ?_) (.ex 6) (by simp) (uR pb wd (fl+pt) r b6 m6 b7 m7 (bV (el (oG (wU wd g2) f6 wd)) 0 wd) (bV (el g2) 0 wd)) ⟨_,_,_,_,hG _ _,hT _ _,Rk pb wd (fl+pt) r b6 m6 b7 m7 _ _ wd,dD (Nat.le_refl _),trivial⟩ hA fun a w hA => ?_
   ·have hp:=AB (g:=wU wd g2) (f:=f6) hj;have hL:∀w,Below w1.heap.size w1 w→LV w (aK ib (0+j*4) wd (2*wd-1-j)) wd (fun q=>inv (wd+(j+q))):=fun w hb =>
     ((hib.on hb).lv (fun _ _=>kF (KC _))).piece (o:=0) (i:=j) (k:=wd) (f:=fun j=>inv (wd+j)) (by omega)
    exact⟨_,_,_,_,jN w1 _ _ _ _,fun _ _=>Mj (g:=fun q=>inv (wd+(j+q))) (h:=g2) (by omega) (by omega) (by omega) hL (fun q _=>KC _) (fun q _=>hg2 q),aAl w1 pb wd (fl+pt) r b6 m6 b7 m7 _ _ fl pt j (wU wd g2 j) _ _ (aK ib (0+j*4) wd (2*wd-1-j)) _,eO hj,hpb,rfl,rfl,rfl,rfl,rfl,rfl,hm7,rfl,hj,hp,fU (k:=1) (by omega),trivial⟩
   have e3:bV (el (oG (wU wd g2) f6 wd)) 0 wd=bV (el (wU wd g2)) 0 wd:=fL wd 0 fun q hq=>by unfold oG; rw[if_pos (by omega)]
   rw[e3,←hnx]at hA;simp only[EA.out,Exit.then,Exit.inBlock,if_true];refine aB aI (hT _ _) (hG _ _) (Rg pb wd (fl+pt) r b6 m6 b7 m7 _ _) trivial hA fun a w hA => ?_
   simp only[EA.out,Exit.then,Exit.inBlock];refine aB aI (hT _ _) (hG _ _) (Rf pb wd (fl+pt) r b6 m6 b7 m7 _ _) ⟨fU (k:=1) (by omega),trivial⟩ hA fun a w hA => ?_
   exact ih g2 a w (by omega) (hA.pmS rfl rfl hS.ne) hm7 hm6
 exact key (fl+pt) 0 b6 wd b7 c7 f6 a7 w7 (by omega) hP (Nat.le_refl _) hcc
section
variable {ops:Array Oper} {o:Oper} {a:Act} {v:Value} {s:Nat} {S:World→Prop}
theorem pJ {t b of:Nat} {vs:List Value} {d:TypeDesc} (hop:o.op=.load t (.tmp s)) (hg:o.guard=none) (h:a.tmps[s]?=some (ptV b of)) (hu:prog.underlying t=some d) (hd:d.isRow=true) (hi:(prog.info? t).map (·.size)=some vs.length) (hS:∀wx,S wx→wx.rangeAt b of vs):YieldsIf prog ops S o (.agg vs.toArray) a :=
 Or.inl ⟨by simp[Region.wanted,hg],fun wx hw=>by
  have:=run_loadAt_mid (P:=prog) wx b of t vs d (hS wx hw) hu hd hi;simp[execOp,hop,cL h,ptV,this]⟩
theorem UI {t b of i n:Nat} (hop:o.op=.fieldAddr t (.tmp s) i) (hg:o.guard=none) (h:a.tmps[s]?=some (ptV b of)) (hf:∀w:World,(Instr.fieldAt t (ptV b of) i).run prog w=.ok (ptV b n) w):YieldsIf prog ops S o (ptV b n) a :=
 Or.inl ⟨by simp[Region.wanted,hg],fun wx hw=>by simp[execOp,hop,cL h,hf wx]⟩
end
noncomputable abbrev mdF:Func:=f119
def uZ:Code:=(f119.body).getD .skip
def Ht:Code:=cA (cB uZ)
theorem Hs:uZ=.seq (cA uZ) (.seq (.region 1 (aD Ht) true) .ret):=by kernel_rfl
theorem aAU:mdF.ntmps=10:=by kernel_rfl
def zP:List At:=[.c (iI 0),.c (iI 0),.c (iI 0),.c (.slice none 0 0),.c (.slice none 0 0)]
theorem aAT (wd fl pt:Nat):aX prog (qG prog) 10 (fun _=>tC T0 fun _=>none) 60 (cA uZ) (fD 0 [.v (.fl (rR wd fl pt))]) [.slot 1 (.pt 1 0),.row 1 true (rR wd fl pt),.slot 2 (.pt 2 0),.row 2 true zP]=some ([],.nrm,[.slot 1 (.pt 1 0),.row 1 true (rR wd fl pt),.slot 2 (.pt 2 0),.row 2 true zP]):=by kernel_rfl
theorem YL (wd fl pt:Nat) (cs is:Value) (h1:∃p n m,cs=.slice p n m) (h2:∃p n m,is=.slice p n m):prog.built 179 [(0,.agg (aA (rR wd fl pt)).toArray),(1,cs),(2,is)]=some (aA (rP wd fl pt cs is)).toArray:=by
 obtain⟨p,n,m,rfl⟩:=h1;obtain⟨q,k,l,rfl⟩:=h2
 kernel_rfl
theorem Zi:(prog.info? 179).map (·.size)=some 5:=by kernel_rfl
theorem VQ:(prog.info? 48).map (·.size)=some 3:=by kernel_rfl
theorem Pr:∃d,prog.underlying 48=some d∧d.isRow=true:=⟨_,underlying48,rfl⟩
theorem aFT (b:Nat) (w:World):(Instr.fieldAt 48 (ptV b 0) 0).run prog w=.ok (ptV b 0) w:=by
 have hn:cV prog 3=some 1:=by kernel_rfl
 simp[Instr.fieldAt,ptV,run_underlying underlying48,Instr.sureAddr,fieldPlace,bD hn,Addr.add_mid]
theorem YK {w0:World} {wd fl pt:Nat} {xs:Nat→Nat} {fu:Nat} {sq:Nat→St} (h2:2≤wd) (hw:wd≤32) (hfl:fl≤1024) (hpt:pt≤1024) (h0:sq 0=GX wd fl pt) (hx:∀i,i<wd*(fl+pt)→xG fu (sq i)=some (xs i,sq (i+1))) (hDj:Dbj w0) :
  Calls prog 119 [.agg (aA (rR wd fl pt)).toArray].toArray w0 fun e w'=>∃cs is,e=.returned (.agg (aA (rP wd fl pt cs is)).toArray)∧PmM w' wd fl pt xs cs is∧Below w0.heap.size w0 w':=by
 have hG:∀base w,bO prog (qG prog) base w:=fun _ _=>(aW _).w _ _
 have hT:∀base w,∀n d:Nat,TabOkW prog T0 base w:=fun _ _ _ _=>(bU _).w _ _
 have hmu:wd*(fl+pt)≤65536:=Nat.le_trans (Nat.mul_le_mul hw (show fl+pt≤2048 by omega)) (by decide);have hok:∀i,i≤wd*(fl+pt)→(sq i).ok:=fun i=>by
  induction i with
  | zero=>intro _; rw[h0]; exact LY _ _ _
  | succ i ih=>intro hi; exact (BC (ih (by omega)) (hx i (by omega))).1
 have hnt:f119.ntmps=10:=aAU;refine cH func119 (cs:=[.v (.fl (rR wd fl pt))]) (args:=[.agg (aA (rR wd fl pt)).toArray]) (c:=uZ) rfl ⟨rfl,trivial⟩ (Nat.le_of_ble_eq_true (by kernel_rfl)) fun a w hA => ?_
 rw[hnt]at hA;rw[Hs];refine wp_seq (aB aI (hT _ _) (hG _ _) (aAT wd fl pt) trivial hA fun a w hA => ?_);obtain⟨b1,hA⟩:=hA.at (k:=1) (l:=rR wd fl pt) (by simp);obtain⟨b2,hA⟩:=hA.at (k:=2) (l:=zP) (by simp);have m1:oldOf w b1 0 (rR wd fl pt):=hA.old (k:=1) (by simp) (by simp);have m2:Own w b2 zP:=hA.own (k:=2) (by simp) (by simp);have hB2:w0.heap.size≤b2:=hA.geq (k:=2) (l:=zP) (by simp) (by simp);have hbl:=hA.below;have hD:Dbj w:=hDj.on hDj.lt hbl;have t1:=hA.ptS (s:=1) (k:=1) (o:=0) (b:=b1) (by simp) (by simp);have t2:=hA.ptS (s:=2) (k:=2) (o:=0) (b:=b2) (by simp) (by simp);have hdf:=hA.defers;have hsz:=hA.size;clear hA;have hd:Below w.heap.size w w.drew:=(Below.refl _ w).drew;have S1:∀{u:World},oldOf u b1 0 (rR wd fl pt)→u.rangeAt b1 0 (aA (rR wd fl pt)):=fun h=>h.2
 obtain⟨dR,huR,hdR⟩:=Pr;refine wp_seq (Code.wp_mono (Q:=gJ fun a' w'=>∃cs is,a'.defers=[]∧a'.tmps.size=10∧a'.tmps[2]?=some (ptV b2 0)∧Own w' b2 (rP wd fl pt cs is)∧PmM w' wd fl pt xs cs is∧Below w0.heap.size w0 w') (fun e a3 w3 h => ?_) (cM (fun wx=>wx.rangeAt b1 0 (aA (rR wd fl pt))) 7 aI ?_))
 ·obtain⟨rfl,cs,is,e1,e2,e3,e4,e5,e6⟩:=h;have hH:=e4.holds (k:=2) (nt:=10) (a:=a3) (ts:=[]) e1 e2 rfl e3 (fun x hx=>by cases hx);exact wp_ret (cK (l:=[.fl (rP wd fl pt cs is)]) (r:=.one (.fl (rP wd fl pt cs is))) (by kernel_rfl) (by kernel_rfl) hH ⟨cs,is,rfl,e5,e6⟩)
 have hS:w.drew.rangeAt b1 0 (aA (rR wd fl pt)):=(m1.on hd).2;obtain⟨o0,ho0,hop0,hd0,hg0⟩:∃x,(aD Ht)[0]?=some x∧x.op=.load 48 (.tmp 1)∧x.dst=some 3∧x.guard=none:=⟨_,rfl,rfl,rfl,rfl⟩
 refine aE (i:=0) (v:=.agg (aA (rR wd fl pt)).toArray) ho0 (by kernel_rfl) (by kernel_rfl) (by kernel_rfl) (by kernel_rfl) (fun _ _ _ h=>gO h) hS (pJ hop0 hg0 t1 huR hdR VQ fun _ h=>h) ?_;rw[hd0];obtain⟨o1,ho1,hop1,hd1,hg1⟩:∃x,(aD Ht)[1]?=some x∧x.op=.load 48 (.tmp 1)∧x.dst=some 4∧x.guard=none:=⟨_,rfl,rfl,rfl,rfl⟩
 refine aE (i:=1) (v:=.agg (aA (rR wd fl pt)).toArray) ho1 (by kernel_rfl) (by kernel_rfl) (by kernel_rfl) (by kernel_rfl) (fun _ _ _ h=>gO h) hS (pJ hop1 hg1 (aS t1 (by decide)) huR hdR VQ fun _ h=>h) ?_;rw[hd1];obtain⟨o3,ho3,hop3,hd3,hg3⟩:∃x,(aD Ht)[3]?=some x∧x.op=.fieldAddr 48 (.tmp 1) 0∧x.dst=some 6∧x.guard=none:=⟨_,rfl,rfl,rfl,rfl⟩
 refine aE (i:=3) (v:=ptV b1 0) ho3 (by kernel_rfl) (by kernel_rfl) (by kernel_rfl) (by kernel_rfl) (fun _ _ _ h=>gO h) hS (UI hop3 hg3 (aS (aS t1 (by decide)) (by decide)) (aFT b1)) ?_;rw[hd3];obtain⟨o4,ho4,hop4,hd4,hg4⟩:∃x,(aD Ht)[4]?=some x∧x.op=.load 3 (.tmp 6)∧x.dst=some 7∧x.guard=none:=⟨_,rfl,rfl,rfl,rfl⟩
 refine aE (i:=4) (v:=iI wd) ho4 (by kernel_rfl) (by kernel_rfl) (by kernel_rfl) (by kernel_rfl) (fun _ _ _ h=>gO h) hS (zB hop4 hg4 (aT _ _ _ (by simp only[aF,hsz]; decide)) (by kernel_rfl) fun wx h=>by have:=h 0 _ rfl; rwa [Nat.zero_add]at this) ?_;rw[hd4];have g3:((((a.put (some 3) (.agg (aA (rR wd fl pt)).toArray)).put (some 4) (.agg (aA (rR wd fl pt)).toArray)).put (some 6) (ptV b1 0)).put (some 7) (iI wd)).tmps[3]?=some (.agg (aA (rR wd fl pt)).toArray):=aS (aS (aS (aT _ _ _ (by simp only[aF,hsz]; decide)) (by decide)) (by decide)) (by decide);have g4:((((a.put (some 3) (.agg (aA (rR wd fl pt)).toArray)).put (some 4) (.agg (aA (rR wd fl pt)).toArray)).put (some 6) (ptV b1 0)).put (some 7) (iI wd)).tmps[4]?=some (.agg (aA (rR wd fl pt)).toArray):=aS (aS (aT _ _ _ (by simp only[aF,hsz]; decide)) (by decide)) (by decide);have g7:((((a.put (some 3) (.agg (aA (rR wd fl pt)).toArray)).put (some 4) (.agg (aA (rR wd fl pt)).toArray)).put (some 6) (ptV b1 0)).put (some 7) (iI wd)).tmps[7]?=some (iI wd):=aT _ _ _ (by simp only[aF,hsz]; decide);have g2:((((a.put (some 3) (.agg (aA (rR wd fl pt)).toArray)).put (some 4) (.agg (aA (rR wd fl pt)).toArray)).put (some 6) (ptV b1 0)).put (some 7) (iI wd)).tmps[2]?=some (ptV b2 0):=aS (aS (aS (aS t2 (by decide)) (by decide)) (by decide)) (by decide);have gd:((((a.put (some 3) (.agg (aA (rR wd fl pt)).toArray)).put (some 4) (.agg (aA (rR wd fl pt)).toArray)).put (some 6) (ptV b1 0)).put (some 7) (iI wd)).defers=[]:=hdf;have gs:((((a.put (some 3) (.agg (aA (rR wd fl pt)).toArray)).put (some 4) (.agg (aA (rR wd fl pt)).toArray)).put (some 6) (ptV b1 0)).put (some 7) (iI wd)).tmps.size=10:=by simp only[aF,hsz]
 generalize (((a.put (some 3) (.agg (aA (rR wd fl pt)).toArray)).put (some 4) (.agg (aA (rR wd fl pt)).toArray)).put (some 6) (ptV b1 0)).put (some 7) (iI wd)=a4 at *;obtain⟨o2,ho2,⟨ts2,hop2⟩,hd2,hg2⟩:∃x,(aD Ht)[2]?=some x∧(∃ts,x.op=.call ⟨.value (.func 161),#[.tmp 4],ts⟩)∧x.dst=some 5∧x.guard=none:=⟨_,rfl,⟨_,rfl⟩,rfl,rfl⟩
 refine aQ (i:=2) (by kernel_rfl) ho2 fun K2 hK2 => ?_
 rw[if_pos (by simp[Region.wanted,hg2])];have hDd:Dbj w.drew:=hD.on hD.lt hd;refine cF hop2 (vs:=[.agg (aA (rR wd fl pt)).toArray]) (List.cons_eq_cons.2 ⟨cL g4,rfl⟩) (fun args=>bQ func161 (by kernel_rfl) (by kernel_rfl) args _) (Bf (sq:=sq) (xs:=xs) (by omega) (by omega) (by omega) (by omega) (by omega) h0 hx hDd) fun e w2 hr => ?_
 obtain⟨cb,rfl,hb2,hcge,hc2,hc3,_⟩:=hr;refine⟨_,rfl,?_⟩;rw[hd2];have hcb:LM w2 cb (wd*(fl+pt)) xs:=⟨hc2,hc3⟩;have Nt:=(m1.on hd).on hb2;have m22:=(m2.on hd).on hb2;have hB2':Below w0.heap.size w0 w2:=(hbl.trans (hd.mono hbl.size)).trans (hb2.mono (Nat.le_trans hbl.size hd.size));refine hK2.out _ _ (Or.inr Nt.2) fun _ => ?_
 clear hK2;show dM _ _ _ _ _ _ _ _ (a4.put (some 5) (aK cb 0 (wd*(fl+pt)) (wd*(fl+pt)))) w2;obtain⟨o5,ho5,⟨ts5,hop5⟩,hd5,hg5⟩:∃x,(aD Ht)[5]?=some x∧(∃ts,x.op=.call ⟨.value (.func 162),#[.tmp 7],ts⟩)∧x.dst=some 8∧x.guard=none:=⟨_,rfl,⟨_,rfl⟩,rfl,rfl⟩
 refine aQ (i:=5) (by kernel_rfl) ho5 fun K5 hK5 => ?_
 rw[if_pos (by simp[Region.wanted,hg5])];refine cF hop5 (vs:=[iI wd]) (List.cons_eq_cons.2 ⟨cL (aS g7 (by decide)),rfl⟩) (fun args=>bQ func162 (by kernel_rfl) (by kernel_rfl) args _) (ZG (wd:=wd) (N:=2*wd-1) (by omega) (by omega)) fun e w3 hr => ?_
 obtain⟨ib,rfl,hb3,hige,hib⟩:=hr;refine⟨_,rfl,?_⟩;rw[hd5];have hcb:=hcb.on hb3;have m13:=Nt.on hb3;have m23:=m22.on hb3;have hB3:=hB2'.trans (hb3.mono hB2'.size);refine hK5.out _ _ (Or.inr m13.2) fun _ => ?_
 clear hK5;obtain⟨o6,ho6,hop6,hd6,hg6⟩:∃x,(aD Ht)[6]?=some x∧x.op=.build 179 #[(0,.tmp 3),(1,.tmp 5),(2,.tmp 8)]∧x.dst=some 9∧x.guard=none:=⟨_,rfl,rfl,rfl,rfl⟩
 have k3:=aS (d:=8) (u:=aK ib 0 (2*wd-1) (2*wd-1)) (aS (d:=5) (u:=aK cb 0 (wd*(fl+pt)) (wd*(fl+pt))) g3 (by decide)) (by decide);have k2:=aS (d:=8) (u:=aK ib 0 (2*wd-1) (2*wd-1)) (aS (d:=5) (u:=aK cb 0 (wd*(fl+pt)) (wd*(fl+pt))) g2 (by decide)) (by decide);have k5:=aS (d:=8) (u:=aK ib 0 (2*wd-1) (2*wd-1)) (aT a4 5 (aK cb 0 (wd*(fl+pt)) (wd*(fl+pt))) (by rw[gs]; decide)) (by decide);have k8:=aT (a4.put (some 5) (aK cb 0 (wd*(fl+pt)) (wd*(fl+pt)))) 8 (aK ib 0 (2*wd-1) (2*wd-1)) (by rw[aF,gs]; decide);have ks:((a4.put (some 5) (aK cb 0 (wd*(fl+pt)) (wd*(fl+pt)))).put (some 8) (aK ib 0 (2*wd-1) (2*wd-1))).tmps.size=10:=by simp only[aF,gs]
 have kd:((a4.put (some 5) (aK cb 0 (wd*(fl+pt)) (wd*(fl+pt)))).put (some 8) (aK ib 0 (2*wd-1) (2*wd-1))).defers=[]:=gd;change dM _ _ _ _ _ _ _ _ ((a4.put (some 5) (aK cb 0 (wd*(fl+pt)) (wd*(fl+pt)))).put (some 8) (aK ib 0 (2*wd-1) (2*wd-1))) w3;generalize (a4.put (some 5) (aK cb 0 (wd*(fl+pt)) (wd*(fl+pt)))).put (some 8) (aK ib 0 (2*wd-1) (2*wd-1))=a5 at *;refine aQ (i:=6) (by kernel_rfl) ho6 fun K6 hK6 => ?_
 rw[if_pos (by simp[Region.wanted,hg6])];have hbt:=YL wd fl pt (aK cb 0 (wd*(fl+pt)) (wd*(fl+pt))) (aK ib 0 (2*wd-1) (2*wd-1)) ⟨_,_,_,rfl⟩ ⟨_,_,_,rfl⟩;have hrun6:(execOp a5.eval o6).run prog w3=.ok (.value (.agg (aA (rP wd fl pt (aK cb 0 (wd*(fl+pt)) (wd*(fl+pt))) (aK ib 0 (2*wd-1) (2*wd-1)))).toArray)) w3:=by
  have:=run_build (P:=prog) w3 179 #[(0,.agg (aA (rR wd fl pt)).toArray),(1,aK cb 0 (wd*(fl+pt)) (wd*(fl+pt))),(2,aK ib 0 (2*wd-1) (2*wd-1))] _ hbt;simp[execOp,hop6,cL k3,cL k5,cL k8,this]
 refine bZ hrun6 ?_;rw[hd6];refine hK6.out _ _ (Or.inr m13.2) fun _ => ?_
 clear hK6;have q2:=aS (d:=9) (u:=.agg (aA (rP wd fl pt (aK cb 0 (wd*(fl+pt)) (wd*(fl+pt))) (aK ib 0 (2*wd-1) (2*wd-1)))).toArray) k2 (by decide);have q9:=aT a5 9 (.agg (aA (rP wd fl pt (aK cb 0 (wd*(fl+pt)) (wd*(fl+pt))) (aK ib 0 (2*wd-1) (2*wd-1)))).toArray) (by rw[ks]; decide);obtain⟨o7,ho7,hop7,hd7,hg7⟩:∃x,(aD Ht)[7]?=some x∧x.op=.store 179 (.tmp 2) (.tmp 9)∧x.dst=none∧x.guard=none:=⟨_,rfl,rfl,rfl,rfl⟩
 refine aQ (i:=7) (by kernel_rfl) ho7 fun K7 hK7 => ?_
 rw[if_pos (by simp[Region.wanted,hg7])];have hput:put zP 0 (rP wd fl pt (aK cb 0 (wd*(fl+pt)) (wd*(fl+pt))) (aK ib 0 (2*wd-1) (2*wd-1)))=some (rP wd fl pt (aK cb 0 (wd*(fl+pt)) (wd*(fl+pt))) (aK ib 0 (2*wd-1) (2*wd-1))):=rfl;obtain⟨hO,hW⟩:=m23.set hput;refine eV (vs:=aA (rP wd fl pt (aK cb 0 (wd*(fl+pt)) (wd*(fl+pt))) (aK ib 0 (2*wd-1) (2*wd-1)))) hop7 hd7 (cL q2) (cL q9) rfl rfl Zi (m23.there (o:=0) (n:=5) (Nat.le_of_ble_eq_true rfl)) ?_;refine hK7.out _ _ (Or.inl rfl) fun _=>cU (by kernel_rfl) ?_
 generalize w3.setCells b2 0 (aA (rP wd fl pt (aK cb 0 (wd*(fl+pt)) (wd*(fl+pt))) (aK ib 0 (2*wd-1) (2*wd-1))))=w4 at *;have hnc:cb≠b2:=fun e=>by have:=m2.lt; have:=hd.size; omega
 have hni:ib≠b2:=fun e=>by have:=m22.lt; omega
 exact⟨rfl,_,_,kd,by rw[aF]; exact ks,q2,hO,⟨⟨cb,rfl,oldOf.wr hcb hW hnc⟩,⟨ib,rfl,oldOf.wr hib hW hni⟩,fun i hi=>(BC (hok i (by omega)) (hx i hi)).2⟩,hB3.trans (hW.below.mono hB2)⟩
theorem Fr (w:World) (p:Option Addr) (n m:Nat):cR prog { qG prog with x:=xO w (fun _=>none) (fun _=>none) (assoc [(5,u6 n)]) } (fun _=>tC TK fun _=>none) f186 60 [.v (.im (.slice p n m))]=some ([∀w:World,(convert 3 22 (iI n)).run prog w=.ok (u6 n) w,n<18446744073709551616],.one (.fl [.q n])):=by kernel_rfl
theorem SJ {w:World} {p:Option Addr} {n m:Nat} (hn:n≤65536):bM prog 186 (.one (.fl [.q n])) [.slice p n m] w :=
 cG aI (fun _ _=>EI.w _ _) (dN w _ _ _) func186 (Fr w p n m) ⟨BE (by omega),by omega,trivial⟩ (args:=[.slice p n m]) ⟨rfl,trivial⟩
def gCt (v:Value) (n:Nat):gL
 | [.v (.im u)]=>some ([u=v],.one (.fl [.q n]))
 | _=>none
noncomputable abbrev dgF:Func:=f143
def jG:Code:=(f143.body).getD .skip
def dgX:Code:=cB (cB (cB (cB jG)))
def Vl:Code:=iR (iR (iR dgX))
def dg5:Code:=cA (cB Vl)
def dgL:Code:=iR (iR (cB dg5))
def LF:Code:=cA (cB (cB Vl))
def Vm:Code:=cA (cB (cB (cB Vl)))
def TU:Code:=cB (cB (cB (cB Vl)))
theorem Kt:jG=.seq (cA jG) (.seq (cA (cB jG)) (.seq (cA (cB (cB jG))) (.seq (cA (cB (cB (cB jG)))) (.block 0 (.loop (.block 1 (.seq (cA Vl) (.seq (.seq (cA dg5) (.block 2 (.loop dgL))) (.seq (.region 10 (aD LF) false) (.seq Vm TU)))))))))):=by kernel_rfl
theorem aCJ:dgF.ntmps=59:=by kernel_rfl
theorem aCF (v:Value) (wd fl pt:Nat) (cs is:Value):aX prog (qG prog) 59 (fun _=>tC T0 fun _=>none) 60 (cA jG) (fD 0 [.v (.fl (rP wd fl pt cs is)),.v (.im v)]) [.slot 1 (.im v),.slot 2 (.pt 2 0),.row 2 true (rP wd fl pt cs is),.slot 4 (.pt 4 0),.row 4 true zC]=some ([],.nrm,[.slot 1 (.im v),.slot 2 (.pt 2 0),.row 2 true (rP wd fl pt cs is),.slot 4 (.pt 4 0),.row 4 true zC]):=by kernel_rfl
def dA (v:Value) (pb rb:Nat):List Fact:=[.slot 1 (.im v),.slot 2 (.im (ptV pb 0)),.slot 4 (.im (ptV rb 0))]
theorem aCE (w:World) (v:Value) (pb rb wd:Nat):aX prog { qG prog with x:=xO w (fun _=>none) (fun _=>none) (assoc [(12,iI wd)]) } 59 (fun _=>tC T0 (assoc [(13,iI (wd-1))])) 60 (cA (cB jG)) (dA v pb rb) (.slot 5 (.im (iI (wd-1)))::dA v pb rb)=some ([oldOf w pb 0 [.c (iI wd)],aJ .sub .i64 (Int.ofNat wd) 1=some (iI (wd-1))],.nrm,.slot 5 (.im (iI (wd-1)))::dA v pb rb):=by kernel_rfl
def xD (w:World) (N:Nat):Ext:={ Ext.none with mks:=assoc [(17,(N,rN N))],gen:=assoc [(16,iI N)],old:=oldOf w,T2:=UA,T3:=TM,T4:=Cw,T5:=jY,T6:=Dd }
theorem Ym (w:World) (N:Nat):bO prog { qG prog with x:=xD w N } w.heap.size w :=
 ⟨(aW _).1,iP (fun b o l h=>h) (fun w' _=>FrAt.none _ _) (fun w' _=>FsAt.none _ _)⟩
theorem aCD (w:World) (v:Value) (pb rb wd:Nat):aX prog { qG prog with x:=xD w wd } 59 (fun _=>tC T0 fun _=>none) 60 (cA (cB (cB jG))) (.slot 5 (.im (iI (wd-1)))::dA v pb rb) (.slot 6 (.sl 17 0 wd wd) :: .row 17 true (rN wd) :: .slot 5 (.im (iI (wd-1)))::dA v pb rb)=some ([oldOf w pb 0 [.c (iI wd)],∃e,∀w:World,(Instr.makeSlice 56 (iI wd) (iI wd)).run prog w=.ok (.slice (some ⟨w.heap.size,0,none⟩) wd wd) (w.alloc (.cells (aA (rN wd)).toArray e))],.nrm,.slot 6 (.sl 17 0 wd wd) :: .row 17 true (rN wd) :: .slot 5 (.im (iI (wd-1)))::dA v pb rb):=by kernel_rfl
def xI2 (i:Nat) (Z:List At):Ext:={ Ext.none with idx:=assoc [(21,i)],st:=assoc [(21,Z)],T2:=UA,T3:=TM,T4:=Cw,T5:=jY,T6:=Dd }
theorem Pm (i:Nat) (Z:List At) (base:Nat) (w:World):bO prog { qG prog with x:=xI2 i Z } base w :=
 ⟨(aW _).1,iP (fun b o l h=>h.elim) (fun w' _=>FrAt.none _ _) (fun w' _=>FsAt.none _ _)⟩
theorem aCC (v:Value) (pb rb wd N:Nat) (Z Z':List At):aX prog { qG prog with x:=xI2 0 Z' } 59 (fun _=>tC (T0.add 186 (gCt v N)) fun _=>none) 60 (cA (cB (cB (cB jG)))) (.slot 6 (.sl 17 0 wd wd) :: .row 17 true Z :: .slot 5 (.im (iI (wd-1)))::dA v pb rb) (.slot 6 (.sl 17 0 wd wd) :: .row 17 true Z' :: .slot 5 (.im (iI (wd-1)))::dA v pb rb)=some ([v=v,(0:Int)=Int.ofNat 0,0<wd,put Z (0+0*4) [.q N]=some Z'],.nrm,.slot 6 (.sl 17 0 wd wd) :: .row 17 true Z' :: .slot 5 (.im (iI (wd-1)))::dA v pb rb):=by kernel_rfl
def dF (v:Value) (pb rb wd sb m6:Nat) (l6:List At):List Fact:=.slot 6 (.sl 1006 0 wd m6) :: .row 1006 true l6 :: .at 1006 sb :: .slot 5 (.im (iI (wd-1)))::dA v pb rb
def dG (v:Value) (T pb rb wd sb m6:Nat) (l6:List At):List Fact:=.slot 7 (.im (iI T))::dF v pb rb wd sb m6 l6
def dH (v cv:Value) (T j pb rb wd sb m6:Nat) (l6:List At):List Fact:=.slot 28 (.im cv) :: .slot 29 (.im (iI T)) :: .slot 30 (.im (iI j))::dG v T pb rb wd sb m6 l6
section
variable (w:World) (pb rb wd sb m6:Nat) (l6:List At)
theorem aCH (p:Option Addr) (N m T:Nat):aX prog (qG prog) 59 (fun _=>tC T0 (assoc [(25,iI T)])) 60 (cA Vl) (dF (.slice p N m) pb rb wd sb m6 l6) (dG (.slice p N m) T pb rb wd sb m6 l6)=some ([Value.int .i64 (if Int.ofNat N<Int.ofNat (wd-1)then Int.ofNat N else Int.ofNat (wd-1))=iI T],.nrm,dG (.slice p N m) T pb rb wd sb m6 l6):=by kernel_rfl
theorem aCG (p:Option Addr) (N m T:Nat):aX prog (qG prog) 59 (fun _=>tC T0 fun _=>none) 60 (cA dg5) (dG (.slice p N m) T pb rb wd sb m6 l6) (dH (.slice p N m) (.slice p T m) T 0 pb rb wd sb m6 l6)=some ([T≤m],.nrm,dH (.slice p N m) (.slice p T m) T 0 pb rb wd sb m6 l6):=by kernel_rfl
theorem aGW (v:Value) (b o T m j x c:Nat) (l6':List At):aX prog { qG prog with x:=zD w (assoc [(33,j),(41,1+j),(45,1+j)]) (assoc [(34,[.q c]),(42,[.q x])]) (assoc [(45,l6')]) (fun _=>none) } 59 (fun _=>tC TJ (assoc [(31,.bool true),(37,iI (1+j)),(40,iI (1+j)),(46,iI (j+1))])) 60 dgL (dH v (aK b o T m) T j pb rb wd sb m6 l6) (dH v (aK b o T m) T (j+1) pb rb wd sb m6 l6')=some ([aJ .lss .i64 (Int.ofNat j) (Int.ofNat T)=some (.bool true),Int.ofNat j=Int.ofNat j,j<T,oldOf w b (o+j*4) [.q c],dJ [.q c]=4,aJ .add .i64 1 (Int.ofNat j)=some (iI (1+j)),aJ .add .i64 1 (Int.ofNat j)=some (iI (1+j)),Int.ofNat (1+j)=Int.ofNat (1+j),1+j<wd,xN l6 (0+(1+j)*4) 4=some [.q x],x<RM,c<RM,Int.ofNat (1+j)=Int.ofNat (1+j),1+j<wd,put l6 (0+(1+j)*4) [.q (gR x c)]=some l6',aJ .add .i64 (Int.ofNat j) 1=some (iI (j+1))],.nrm,dH v (aK b o T m) T (j+1) pb rb wd sb m6 l6'):=by kernel_rfl
theorem aCK (v cv:Value) (T j:Nat):aX prog (qG prog) 59 (fun _=>tC T0 (assoc [(31,.bool false)])) 60 dgL (dH v cv T j pb rb wd sb m6 l6) (dG v T pb rb wd sb m6 l6)=some ([aJ .lss .i64 (Int.ofNat j) (Int.ofNat T)=some (.bool false)],.ex 2,dG v T pb rb wd sb m6 l6):=by kernel_rfl
end
def dK (v u:Value) (pb rb wd T:Nat):List Fact:=[.slot 6 (.im u),.slot 7 (.im (iI T)),.slot 5 (.im (iI (wd-1))),.slot 1 (.im v),.slot 2 (.im (ptV pb 0)),.slot 4 (.im (ptV rb 0))]
theorem Vk (w:World) (v u:Value) (pb rb wd T fl pt:Nat) (cs is:Value):cO prog { qG prog with x:=xO w (fun _=>none) (assoc [(47,rP wd fl pt cs is)]) (fun _=>none) } 59 (tC T0 fun _=>none) ((aD LF).extract 0 2) (dK v u pb rb wd T) (.slot 47 (.fl (rP wd fl pt cs is)) :: .slot 48 (.im u)::dK v u pb rb wd T)=some ([oldOf w pb 0 (rP wd fl pt cs is),dJ (rP wd fl pt cs is)=5],.slot 47 (.fl (rP wd fl pt cs is)) :: .slot 48 (.im u)::dK v u pb rb wd T):=by kernel_rfl
theorem Vj (v u x:Value) (pb rb wd T:Nat):cO prog (qG prog) 59 (tC T0 fun _=>none) ((aD LF).extract 3 4) (.slot 49 (.im u)::dK v x pb rb wd T) (dK v u pb rb wd T)=some ([],dK v u pb rb wd T):=by kernel_rfl
theorem aCM (w:World) (v v' u:Value) (pb rb wd T:Nat):aX prog { qG prog with x:=xO w (fun _=>none) (fun _=>none) (assoc [(52,v')]) } 59 (fun _=>tC T0 fun _=>none) 60 Vm (dK v u pb rb wd T) (dK v' u pb rb wd T)=some ([∀w:World,(Instr.sliceAt 56 v (some (iI T)) none none).run prog w=.ok v' w],.nrm,dK v' u pb rb wd T):=by kernel_rfl
def yQ:Code→Code
 | .cond _ x _=>x
 | c=>c
theorem aGX:TU=.seq (cA TU) (.cond (.tmp 55) (.seq (.region 13 (aD (cA (yQ (cB TU)))) false) .ret) .skip):=by kernel_rfl
theorem Oi (u:Value) (p:Option Addr) (N m:Nat) (z:Bool) (pb rb wd T:Nat):aX prog (qG prog) 59 (fun _=>tC T0 (assoc [(55,.bool z)])) 60 (cA TU) (dK (.slice p N m) u pb rb wd T) (.slot 55 (.im (.bool z))::dK (.slice p N m) u pb rb wd T)=some ([aJ .eql .i64 (Int.ofNat N) 0=some (.bool z)],.nrm,.slot 55 (.im (.bool z))::dK (.slice p N m) u pb rb wd T):=by kernel_rfl
theorem aCL (w:World) (v:Value) (pb rb wd T sb m x:Nat):cO prog { qG prog with x:=xO w (assoc [(57,1)]) (assoc [(58,[.q x])]) (fun _=>none) } 59 (tC T0 fun _=>none) ((aD (cA (yQ (cB TU)))).extract 0 3) (dK v (aK sb 0 wd m) pb rb wd T) [.slot 58 (.fl [.q x]),.slot 4 (.im (ptV rb 0))]=some ([(1:Int)=Int.ofNat 1,1<wd,oldOf w sb (0+1*4) [.q x],dJ [.q x]=4],[.slot 58 (.fl [.q x]),.slot 4 (.im (ptV rb 0))]):=by kernel_rfl
theorem NG {h h':Nat→Nat} {n p y:Nat} (hp:p<n) (e1:h' p=y) (e2:∀q,q≠p→h' q=h q):put (bV (el h) 0 n) (0+p*4) [.q y]=some (bV (el h') 0 n):=by
 rw[iW (el h) p n 0 hp,iW (el h') p n 0 hp];have q1:bV (el h) 0 p=bV (el h') 0 p:=fL p 0 fun q hq=>(e2 _ (by omega)).symm
 have q2:bV (el h) (0+p+1) (n-p-1)=bV (el h') (0+p+1) (n-p-1):=fL _ _ fun q hq=>(e2 _ (by omega)).symm
 have q3:el h' (0+p)=[.q y]:=by show [At.q (h' (0+p))]=_; rw[Nat.zero_add,e1]
 rw[AC (bV (el h) 0 p) (el h (0+p)) _ [.q y] (by rw[fM (f:=el h) (c:=4) (fun _=>rfl)]; omega) rfl,q1,q2,q3]
theorem Et {b o n m i:Nat} (h:i≤n) (hm:n≤m) (w:World):(Instr.sliceAt 56 (aK b o n m) (some (iI i)) none none).run prog w=.ok (aK b (if m=i then o else o+i*4) (n-i) (m-i)) w:=by
 have hu:prog.underlying 56=some (.slice 27):=underlying56;have hs:cV prog 27=some 4:=by kernel_rfl
 by_cases e:m=i
 ·rw[if_pos e];simp[Instr.sliceAt,Instr.slice,aK,iI,run_underlying hu,Instr.sliceBounds,Instr.sliceBound,asIntOf,bD hs,h,e]
 ·rw[if_neg e];simp[Instr.sliceAt,Instr.slice,aK,iI,run_underlying hu,Instr.sliceBounds,Instr.sliceBound,asIntOf,bD hs,h,e,Addr.add_mid]
def lH (s g:Nat→Nat) (j q:Nat):Nat:=if 1≤q∧q<1+j then gR (s q) (g (q-1))else s q
theorem Sw (s g:Nat→Nat):lH s g 0=s:=funext fun q=>by unfold lH; rw[if_neg (by omega)]
def Er (P:(Nat→Nat)→Nat→Nat) (rt:Nat):Nat→Nat→(Nat→Nat)→(Nat→Nat)→Nat
 | 0,_,_,s=>s 1
 | k+1,N,f,s=>if N-min rt N=0 then P (lH s f (min rt N)) 1 else Er P rt k (N-min rt N) (fun j=>f (min rt N+j)) (P (lH s f (min rt N)))
structure DgS (w1:World) (pb rb wd sb m6:Nat) (v:Value) (s:Nat→Nat) (a:Act) (w:World):Prop where
 defers:a.defers=[]
 size:a.tmps.size=59
 t1:a.tmps[1]?=some v
 t2:a.tmps[2]?=some (ptV pb 0)
 t4:a.tmps[4]?=some (ptV rb 0)
 t5:a.tmps[5]?=some (iI (wd-1))
 t6:a.tmps[6]?=some (aK sb 0 wd m6)
 below:Below w1.heap.size w1 w
 shape:Shape w1 w
 o6:Own w sb (bV (el s) 0 wd)
 l6:w1.heap.size≤sb
theorem DgS.holds {w1:World} {pb rb wd sb m6:Nat} {v:Value} {s:Nat→Nat} {a:Act} {w:World} (h:DgS w1 pb rb wd sb m6 v s a w):Holds 59 w1.heap.size w1 (dF v pb rb wd sb m6 (bV (el s) 0 wd)) a w:=by
 refine⟨h.defers,h.size,h.below,h.below.size,fun k=>bif Nat.beq k 1006 then (sb,0,m6)else (w1.heap.size,0,0),fun φ hφ => ?_,fun k k' o' l l' e1 e2 hne => ?_,fun k l e1 => ?_,h.below.size,fun p q1 q2 => ?_,h.shape⟩
 ·simp only[dF,dA,List.mem_cons,List.not_mem_nil,or_false]at hφ
  rcases hφ with rfl|rfl|rfl|rfl|rfl|rfl|rfl
  ·exact h.t6
  ·exact⟨h.o6.lt,h.o6.row,fun _=>⟨h.l6,rfl,h.o6.free⟩,fun h=>by cases h⟩
  ·exact⟨rfl,rfl⟩
  ·exact h.t5
  ·exact h.t1
  ·exact h.t2
  ·exact h.t4
 ·simp only[dF,dA,List.mem_cons,reduceCtorEq,Fact.row.injEq,false_or,List.not_mem_nil,or_false]at e1 e2;exact (hne (e1.1.trans e2.1.symm)).elim
 ·simp only[dF,dA,List.mem_cons,reduceCtorEq,Fact.row.injEq,false_or,List.not_mem_nil,or_false]at e1;obtain⟨rfl,_⟩:=e1;exact Or.inr h.l6
 ·exact absurd (Nat.lt_trans q1 q2) (Nat.lt_irrefl _)
theorem oT (x:Nat):(aA [At.q x]).all (·.oneCell')=true:=by simp[aA,At.cells,w4,Value.oneCell']
theorem Mn {base:Nat} {w0:World} {p:Option Addr} {n m:Nat} (hn:n≤65536):TabOkW prog (T0.add 186 (gCt (.slice p n m) n)) base w0 :=
 TabOkW.add ((bU _).w _ _) func186 (by kernel_rfl) (by kernel_rfl) (fun w hw cs pre r hg hp args ha=>by
  unfold gCt at hg;split at hg
  ·cases hg
   match args,ha with
   | [u],ha =>
    have e:u=_:=ha.1;rw[hp.1]at e;subst e;exact SJ hn
   | [],ha=>exact ha.elim
   | _::_::_,ha=>exact ha.2.elim
  ·cases hg)
def Dc (p:Option Addr) (m:Nat):Prop:=(p=none∧m=0)∨∃b o,p=some ⟨b,o,none⟩
theorem XW (w:World):(Instr.sliceAt 56 (.slice none 0 0) (some (iI 0)) none none).run prog w=.ok (.slice none 0 0) w:=by
 have hu:prog.underlying 56=some (.slice 27):=underlying56;have hs:cV prog 27=some 4:=by kernel_rfl
 simp[Instr.sliceAt,Instr.slice,iI,run_underlying hu,Instr.sliceBounds,Instr.sliceBound,asIntOf,bD hs]
theorem Ej {w1:World} {p:Option Addr} {N m T:Nat} {f:Nat→Nat} (h:Dc p m) (hv:LV w1 (.slice p N m) N f) (hT:T≤N):∃p2 m2,N-T≤m2∧(∀w:World,(Instr.sliceAt 56 (.slice p N m) (some (iI T)) none none).run prog w=.ok (.slice p2 (N-T) m2) w)∧LV w1 (.slice p2 (N-T) m2) (N-T) (fun j=>f (T+j))∧Dc p2 m2:=by
 obtain⟨p',m',e,hNm,h256,hmem⟩:=id hv;cases e
 rcases h with⟨rfl,rfl⟩|⟨b,o,rfl⟩
 ·obtain rfl:N=0:=by omega
  obtain rfl:T=0:=by omega
  exact⟨none,0,Nat.le_refl _,XW,⟨none,0,rfl,Nat.le_refl _,fun j h=>by omega,fun h=>by omega⟩,Or.inl ⟨rfl,rfl⟩⟩
 ·refine⟨some ⟨b,if m=T then o else o+T*4,none⟩,m-T,by omega,fun w=>Et hT hNm w,?_,Or.inr ⟨_,_,rfl⟩⟩
  by_cases e:m=T
  ·exact⟨_,_,rfl,by omega,fun j h=>h256 _ (by omega),fun h=>by omega⟩
  ·rw[if_neg e]
   by_cases hz:N-T=0
   ·exact⟨_,_,rfl,by omega,fun j h=>h256 _ (by omega),fun h=>by omega⟩
   ·exact hv.piece (o:=o) (i:=T) (k:=N-T) (by omega)
theorem SE {w0:World} {wd fl pt N m:Nat} {p:Option Addr} {xs f:Nat→Nat} {cs is:Value} (hM:PmM w0 wd fl pt xs cs is) (hsv:Dc p m) (hv:LV w0 (.slice p N m) N f) (hf:∀q,q<N→f q<RM) (h2:2≤wd) (hw:wd≤32) (hfl:fl≤1024) (hpt:pt≤1024) (hN:N≤65536) :
  bM prog 143 (.one (.fl [.q (Er (gM xs wd fl pt (fl+pt)) (wd-1) (N+1) N f fun q=>if q=0 then N else 0)])) [.agg (aA (rP wd fl pt cs is)).toArray,.slice p N m] w0:=by
 have hG:∀base w,bO prog (qG prog) base w:=fun _ _=>(aW _).w _ _
 have hT:∀base w,∀n d:Nat,TabOkW prog T0 base w:=fun _ _ _ _=>(bU _).w _ _
 have hnt:f143.ntmps=59:=aCJ;refine cH func143 (cs:=[.v (.fl (rP wd fl pt cs is)),.v (.im (.slice p N m))]) (args:=[.agg (aA (rP wd fl pt cs is)).toArray,.slice p N m]) (c:=jG) rfl ⟨rfl,rfl,trivial⟩ (Nat.le_of_ble_eq_true (by kernel_rfl)) fun a w hA => ?_
 rw[hnt]at hA;rw[Kt];refine wp_seq (aB aI (hT _ _) (hG _ _) (aCF (.slice p N m) wd fl pt cs is) trivial hA fun a w1 hA => ?_);obtain⟨pb,hA⟩:=hA.at (k:=2) (l:=rP wd fl pt cs is) (by simp);obtain⟨rb,hA⟩:=hA.at (k:=4) (l:=zC) (by simp);have hpb:oldOf w1 pb 0 (rP wd fl pt cs is):=hA.old (k:=2) (by simp) (by simp);have hrb:Own w1 rb zC:=hA.own (k:=4) (by simp) (by simp);have hrB:w0.heap.size≤rb:=hA.geq (k:=4) (l:=zC) (by simp) (by simp);have hM1:=hM.on hA.below;have hv1:=hv.on hA.below;have hbl:=hA.below;have hS:=aP (nt:=59) (w:=w1) (a:=a) (ts:=[(1,.slice p N m),(2,ptV pb 0),(4,ptV rb 0)]) hA.defers hA.size (fun x hx=>by
  simp only[List.mem_cons,List.not_mem_nil,or_false]at hx
  rcases hx with rfl|rfl|rfl
  ·exact hA.slot (by simp)
  ·exact hA.ptS (s:=2) (k:=2) (o:=0) (by simp) (by simp)
  ·exact hA.ptS (s:=4) (k:=4) (o:=0) (by simp) (by simp))
 clear hA;have p0:oldOf w1 pb 0 [.c (iI wd)]:=⟨hpb.1,eE (i:=0) (n:=1) hpb.2 rfl⟩;refine wp_seq (aB aI (hT _ _) (dN w1 _ _ _) (aCE w1 (.slice p N m) pb rb wd) ⟨p0,mL (i:=wd) (k:=1) (by omega) (by omega),trivial⟩ hS fun a w2 hA => ?_);refine wp_seq (aB aI (hT _ _) (Ym w1 wd) (aCD w1 (.slice p N m) pb rb wd) ⟨p0,OA (t:=56) (e:=27) (z:=[.q 0]) (v:=.int .u64 0) (n:=4) (by8:=32) (by kernel_rfl) (by kernel_rfl) rfl tU (by omega) (by omega) (by omega),trivial⟩ hA fun a w2 hA => ?_);have hput:put (rN wd) (0+0*4) [.q N]=some (bV (el fun q=>if q=0 then N else 0) 0 wd):=NG (h:=fun _=>0) (h':=fun q=>if q=0 then N else 0) (p:=0) (by omega) (if_pos rfl) fun q hq=>if_neg hq
 refine wp_seq (aB aI (fun _ _=>Mn hN) (Pm 0 _ _ _) (aCC (.slice p N m) pb rb wd N (rN wd) _) ⟨rfl,rfl,by omega,hput,trivial⟩ hA fun a w3 hA => ?_);obtain⟨sb,hA⟩:=hA.at (k:=17) (l:=bV (el fun q=>if q=0 then N else 0) 0 wd) (by simp);have hD:DgS w1 pb rb wd sb wd (.slice p N m) (fun q=>if q=0 then N else 0) a w3:=⟨hA.defers,hA.size,hA.slot (by simp[dA]),hA.slot (by simp[dA]),hA.slot (by simp[dA]),hA.slot (by simp),(hA.im (s:=6) (k:=17) (o:=0) (n:=wd) (m:=wd) (b:=sb) (by simp) (by simp)).slot (by simp),hA.below,hA.shape,hA.own (k:=17) (by simp) (by simp),hA.geq (k:=17) (l:=bV (el fun q=>if q=0 then N else 0) 0 wd) (by simp) (by simp)⟩;have hs0:∀q,q<wd→(fun q=>if q=0 then N else 0) q<RM:=fun q _=>by
  have:N<RM:=Nat.lt_of_le_of_lt hN (by decide)
  by_cases e:q=0
  ·show (if q=0 then N else 0)<RM;rw[if_pos e]; exact this
  ·show (if q=0 then N else 0)<RM;rw[if_neg e]; exact fY
 generalize (fun q=>if q=0 then N else 0:Nat→Nat)=s0 at hD hs0;clear hA hS hput hv;refine wp_block (dS (n:=N+1) ?_);generalize hX:Er (gM xs wd fl pt (fl+pt)) (wd-1) (N+1) N f s0=X;have key:∀k N p m f s sb m6 a w,N<k→N≤65536→wd≤m6→Dc p m→LV w1 (.slice p N m) N f→(∀q,q<N→f q<RM)→(∀q,q<wd→s q<RM)→DgS w1 pb rb wd sb m6 (.slice p N m) s a w→Er (gM xs wd fl pt (fl+pt)) (wd-1) k N f s=X →
   Un prog (.block 1 (.seq (cA Vl) (.seq (.seq (cA dg5) (.block 2 (.loop dgL))) (.seq (.region 10 (aD LF) false) (.seq Vm TU))))) (Exit.inBlock 0 (bodyPost prog f143 fun e w'=>e=.returned (RV.one (.fl [.q X])).den∧Below w0.heap.size w0 w')) k a w:=by
  intro k
  induction k with
  | zero=>intro N p m f s sb m6 a w h; omega
  | succ k ih =>
   intro N p m f s sb m6 a w hk hN hm6 hsv hv hf hs hS hX;obtain⟨p',m',e',hNm,h256,hmem⟩:=id hv;cases e';unfold Un;refine wp_block ?_;obtain⟨T,hTe⟩:∃T,min (wd-1) N=T:=⟨_,rfl⟩
   have hTN:T≤N:=by omega
   have hTw:T≤wd-1:=by omega
   have hmin:Value.int .i64 (if Int.ofNat N<Int.ofNat (wd-1)then Int.ofNat N else Int.ofNat (wd-1))=iI T:=by
    by_cases h:N<wd-1
    ·rw[if_pos (by show (N:Int)<((wd-1:Nat):Int); omega),show T=N by omega]; rfl
    ·rw[if_neg (by show ¬(N:Int)<((wd-1:Nat):Int); omega),show T=wd-1 by omega]; rfl
   refine wp_seq (aB aI (hT _ _) (hG _ _) (aCH pb rb wd sb m6 _ _ N m T) ⟨hmin,trivial⟩ hS.holds fun a w hA => ?_);refine wp_seq (wp_seq (aB aI (hT _ _) (hG _ _) (aCG pb rb wd sb m6 _ _ N m T) ⟨by omega,trivial⟩ hA fun a w hA => ?_));refine wp_block ?_;rw[←Sw s f]at hA;refine jD aI (fun j=>dH (.slice p N m) (.slice p T m) T j pb rb wd sb m6 (bV (el (lH s f j)) 0 wd)) T (fun j hj => ?_) (.ex 2) (by simp) (dG (.slice p N m) T pb rb wd sb m6 (bV (el (lH s f T)) 0 wd)) ⟨_,_,_,_,hG _ _,hT _ _,aCK pb rb wd sb m6 _ (.slice p N m) (.slice p T m) T T,dD (Nat.le_refl _),trivial⟩ hA fun a w hA => ?_
   ·obtain⟨b',o',e,hb,hr⟩:=hmem (by omega);cases e;have hmj:lH s f j (1+j)=s (1+j):=by unfold lH; rw[if_neg (by omega)]
    have hp:put (bV (el (lH s f j)) 0 wd) (0+(1+j)*4) [.q (gR (s (1+j)) (f j))]=some (bV (el (lH s f (j+1))) 0 wd):=NG (by omega) (by unfold lH; rw[if_pos (by omega),show 1+j-1=j by omega]) fun q hq=>by
     unfold lH
     by_cases c:1≤q∧q<1+j
     ·rw[if_pos c,if_pos (by omega)]
     ·rw[if_neg c,if_neg (by omega)]
    exact⟨_,_,_,_,jN w1 _ _ _ _,fun _ _=>EG.w _ _,aGW w1 pb rb wd sb m6 _ (.slice (some ⟨b',o',none⟩) N m) b' o' T m j (s (1+j)) (f j) _,eO hj,rfl,hj,mK hb hr (by omega),rfl,fU (i:=1) (by omega),fU (i:=1) (by omega),rfl,by omega,by rw[zR (by omega),hmj],hs _ (by omega),hf _ (by omega),rfl,by omega,hp,fU (k:=1) (by omega),trivial⟩
   have hms:∀q,q<wd→lH s f T q<RM:=fun q hq=>by
    unfold lH
    by_cases c:1≤q∧q<1+T
    ·rw[if_pos c]; exact dB _ _
    ·rw[if_neg c]; exact hs q hq
   have hX:(if N-T=0 then gM xs wd fl pt (fl+pt) (lH s f T) 1 else Er (gM xs wd fl pt (fl+pt)) (wd-1) k (N-T) (fun j=>f (T+j)) (gM xs wd fl pt (fl+pt) (lH s f T)))=X:=by
    have hX:(if N-min (wd-1) N=0 then gM xs wd fl pt (fl+pt) (lH s f (min (wd-1) N)) 1 else Er (gM xs wd fl pt (fl+pt)) (wd-1) k (N-min (wd-1) N) (fun j=>f (min (wd-1) N+j)) (gM xs wd fl pt (fl+pt) (lH s f (min (wd-1) N))))=X:=hX
    rwa [hTe]at hX
   generalize lH s f T=g at hA hms hX;simp only[EA.out,Exit.then,Exit.inBlock,if_true];have hO:Own w sb (bV (el g) 0 wd):=hA.own (k:=1006) (by simp[dG,dF]) (by simp[dG,dF]);have hb1:=hA.below;have hsh1:=hA.shape;have hl6:=hS.l6;have hS2:=aP (nt:=59) (w:=w) (a:=a) (ts:=[(6,aK sb 0 wd m6),(7,iI T),(5,iI (wd-1)),(1,.slice p N m),(2,ptV pb 0),(4,ptV rb 0)]) hA.defers hA.size (fun x hx=>by
    simp only[List.mem_cons,List.not_mem_nil,or_false]at hx
    rcases hx with rfl|rfl|rfl|rfl|rfl|rfl
    ·exact (hA.im (s:=6) (k:=1006) (o:=0) (n:=wd) (m:=m6) (b:=sb) (by simp[dG,dF]) (by simp[dG,dF])).slot (by simp)
    ·exact hA.slot (by simp[dG,dF,dA])
    ·exact hA.slot (by simp[dG,dF,dA])
    ·exact hA.slot (by simp[dG,dF,dA])
    ·exact hA.slot (by simp[dG,dF,dA])
    ·exact hA.slot (by simp[dG,dF,dA]))
   clear hA hS;refine wp_seq (bI (l:=List.range' 0 ((aD LF).extract 0 2).size++(2::(List.range' 3 ((aD LF).extract 3 4).size++[]))) (by kernel_rfl) ?_);refine aG (c:=tC T0 _) (hT _ _ 0) (dN w _ _ _) (Vk w (.slice p N m) (aK sb 0 wd m6) pb rb wd T fl pt cs is) ⟨hpb.on hb1,rfl,trivial⟩ (by kernel_rfl) hS2 fun a2 w2 hA => ?_
   obtain⟨o2,ho2,⟨ts2,hop2⟩,hd2,hg2⟩:∃x,(aD LF)[2]?=some x∧(∃ts,x.op=.call ⟨.value (.func 120),#[.tmp 47,.tmp 48],ts⟩)∧x.dst=some 49∧x.guard=none:=⟨_,rfl,⟨_,rfl⟩,rfl,rfl⟩
   have hb2:=hb1.trans (hA.below.mono hb1.size);have hO2:=hO.on hA.below;have hvs:LV w2 (aK sb 0 wd m6) wd g:=⟨_,m6,rfl,hm6,fun q hq=>kF (hms q hq),fun _=>⟨sb,0,rfl,hO2.lt,hO2.row⟩⟩;refine aZ ho2 hg2 (cF hop2 (vs:=[.agg (aA (rP wd fl pt cs is)).toArray,aK sb 0 wd m6]) (List.cons_eq_cons.2 ⟨cL (hA.slotF (s:=47) (by simp)),List.cons_eq_cons.2 ⟨cL (hA.slot (s:=48) (by simp)),rfl⟩⟩) (fun args=>bQ func120 (by kernel_rfl) (by kernel_rfl) args _) (WY (hM1.on hb2) hvs hms (by omega) hw hfl hpt) fun e w3 hr => ?_);obtain⟨sc,mc,rfl,hmc,hb3,hge3,hO3⟩:=hr;refine⟨_,rfl,?_⟩;rw[hd2];have hb13:=hb2.trans (hb3.mono hb2.size);have hsh3:=(hsh1.trans hA.shape).trans (Shape.below hb3);have hlc:w1.heap.size≤sc:=Nat.le_trans hb2.size hge3;have hS3:=aP (nt:=59) (w:=w3) (a:=a2.put (some 49) (aK sc 0 wd mc)) (ts:=[(49,aK sc 0 wd mc),(6,aK sb 0 wd m6),(7,iI T),(5,iI (wd-1)),(1,.slice p N m),(2,ptV pb 0),(4,ptV rb 0)]) hA.defers (by rw[aF]; exact hA.size) (fun x hx=>by
    simp only[List.mem_cons,List.not_mem_nil,or_false]at hx
    rcases hx with rfl|rfl|rfl|rfl|rfl|rfl|rfl
    ·exact aT _ _ _ (by rw[hA.size]; decide)
    all_goals exact aS (hA.slot (by simp[dK])) (by simp))
   clear hA hS2 hO hO2 hvs;refine aG (c:=tC T0 _) (hT _ _ 0) (hG _ _) (Vj (.slice p N m) (aK sc 0 wd mc) (aK sb 0 wd m6) pb rb wd T) trivial (by kernel_rfl) hS3 fun a4 w4 hA => ?_
   show (Code.seq _ _).wp _ _ _ _;obtain⟨p2,m2,hm2,htl,hv2,hsv2⟩:=Ej hsv hv hTN;refine wp_seq (aB aI (hT _ _) (dN w3 _ _ _) (aCM w3 (.slice p N m) (.slice p2 (N-T) m2) (aK sc 0 wd mc) pb rb wd T) ⟨htl,trivial⟩ hA fun a5 w5 hA => ?_);have wlE:∀Q a w,(Code.seq (cA TU) (.cond (.tmp 55) (.seq (.region 13 (aD (cA (yQ (cB TU)))) false) .ret) .skip)).wp prog Q a w→TU.wp prog Q a w:=fun Q a w h=>by rw[aGX]; exact h
   refine wlE _ _ _ ?_
   by_cases hz:N-T=0
   ·rw[if_pos hz]at hX;refine wp_seq (aB aI (hT _ _) (hG _ _) (Oi _ _ (N-T) m2 true pb rb wd T) ⟨by rw[hz]; rfl,trivial⟩ hA fun a6 w6 hA => ?_);have hc:=hA.imV (s:=55) (v:=.bool true) (by simp);refine wp_cond_true hc ?_;have hO6:=hO3.on hA.below;have hB6:=hb13.trans (hA.below.mono hb13.size);have hS6:=aP (nt:=59) (w:=w6) (a:=a6) (ts:=[(6,aK sc 0 wd mc),(7,iI T),(5,iI (wd-1)),(1,.slice p2 (N-T) m2),(2,ptV pb 0),(4,ptV rb 0)]) hA.defers hA.size (fun x hx=>by
     simp only[List.mem_cons,List.not_mem_nil,or_false]at hx
     rcases hx with rfl|rfl|rfl|rfl|rfl|rfl<;>exact hA.slot (by simp[dK,aK]))
    clear hA hS3;refine wp_seq (bI (l:=List.range' 0 ((aD (cA (yQ (cB TU)))).extract 0 3).size++(3::[])) (by kernel_rfl) ?_);refine aG (c:=tC T0 _) (hT _ _ 0) (dN w6 _ _ _) (aCL w6 (.slice p2 (N-T) m2) pb rb wd T sc mc (gM xs wd fl pt (fl+pt) g 1)) ⟨rfl,by omega,mK hO6.lt hO6.row (by omega),rfl,trivial⟩ (by kernel_rfl) hS6 fun a7 w7 hA => ?_
    obtain⟨o3,ho3,hop3,hd3,hg3⟩:∃x,(aD (cA (yQ (cB TU))))[3]?=some x∧x.op=.store 27 (.tmp 4) (.tmp 58)∧x.dst=none∧x.guard=none:=⟨_,rfl,rfl,rfl,rfl⟩
    have hB7:=hB6.trans (hA.below.mono hB6.size);have hR7:=hrb.on hB7;have hput:put zC 0 [.q (gM xs wd fl pt (fl+pt) g 1)]=some [.q (gM xs wd fl pt (fl+pt) g 1)]:=rfl;obtain⟨hR8,hW8⟩:=hR7.set hput;refine aZ ho3 hg3 (eV (vs:=aA [.q (gM xs wd fl pt (fl+pt) g 1)]) hop3 hd3 (cL (hA.slot (s:=4) (by simp))) (cL (hA.slotF (s:=58) (by simp))) rfl (oT _) Qa (hR7.there (o:=0) (n:=4) (Nat.le_of_ble_eq_true rfl)) ?_);have hH:=hR8.holds (k:=4) (nt:=59) (a:=a7) (ts:=[]) hA.defers hA.size rfl (hA.slot (by simp)) (fun x hx=>by cases hx);rw[hX]at hH hW8 ⊢;refine wp_ret ?_;simp only[Exit.then,Exit.inBlock];exact (cK (l:=[.fl [.q X]]) (r:=.one (.fl [.q X])) (by kernel_rfl) (by kernel_rfl) hH ⟨rfl,(hbl.trans (hB7.mono hbl.size)).trans (hW8.below.mono hrB)⟩)
   ·rw[if_neg hz]at hX;refine wp_seq (aB aI (hT _ _) (hG _ _) (Oi _ _ (N-T) m2 false pb rb wd T) ⟨by
     show some (Value.bool (Int.ofNat (N-T)==0))=_;rw[show (Int.ofNat (N-T)==0)=false by rw[beq_eq_false_iff_ne]; intro e; exact hz (by simpa using e)],trivial⟩ hA fun a6 w6 hA => ?_)
    have hc:=hA.imV (s:=55) (v:=.bool false) (by simp);refine wp_cond_false hc (wp_skip ?_);simp only[Exit.then,Exit.inBlock];refine ih (N-T) p2 m2 (fun j=>f (T+j)) (gM xs wd fl pt (fl+pt) g) sc mc a6 w6 (by omega) (by omega) hmc hsv2 hv2 (fun q hq=>hf _ (by omega)) (NN hms _) ⟨hA.defers,hA.size,hA.slot (by simp[dK,aK]),hA.slot (by simp[dK]),hA.slot (by simp[dK]),hA.slot (by simp[dK]),hA.slot (by simp[dK]),hb13.trans (hA.below.mono hb13.size),hsh3.trans hA.shape,hO3.on hA.below,hlc⟩ hX
 exact key (N+1) N p m f s0 sb wd a w3 (by omega) hN (Nat.le_refl _) hsv hv1 hf hs0 hD hX
theorem Fs (wd fl pt:Nat):cR prog (qG prog) (fun _=>tC T0 (assoc [(5,.bool false),(9,.bool false),(13,.bool false),(17,.bool false),(22,iI (fl%2)),(23,.bool false),(27,.bool false),(31,.bool false)])) f79 60 [.v (.fl (rR wd fl pt))]=some ([aJ .lss .i64 (Int.ofNat wd) 2=some (.bool false),aJ .gtr .i64 (Int.ofNat wd) 8=some (.bool false),aJ .lss .i64 (Int.ofNat fl) 2=some (.bool false),aJ .gtr .i64 (Int.ofNat fl) 64=some (.bool false),aJ .rem .i64 (Int.ofNat fl) 2=some (iI (fl%2)),aJ .neq .i64 (Int.ofNat (fl%2)) 0=some (.bool false),aJ .lss .i64 (Int.ofNat pt) 0=some (.bool false),aJ .gtr .i64 (Int.ofNat pt) 128=some (.bool false)],.one (.im (.int .i64 0))):=by kernel_rfl
structure RdOk (wd fl pt:Nat):Prop where
 w2:2≤wd
 w8:wd≤8
 f2:2≤fl
 f64:fl≤64
 ev:fl%2=0
 p128:pt≤128
theorem AT {n k:Nat} (h:n≤k):aJ .gtr .i64 (Int.ofNat n) (Int.ofNat k)=some (.bool false):=by
 show some (Value.bool (decide ((n:Int)>(k:Int))))=_;rw[decide_eq_false (by omega)]
theorem SM {wd fl pt:Nat} (h:RdOk wd fl pt) (args:List Value) (w:World) (ha:cT w [.v (.fl (rR wd fl pt))] args):bM prog 79 (.one (.im (.int .i64 0))) args w :=
 cG aI (fun _ _=>(bU _).w _ _) ((aW _).w _ _) func79 (Fs wd fl pt) ⟨dD (i:=wd) (n:=2) h.w2,AT (k:=8) h.w8,dD (i:=fl) (n:=2) h.f2,AT (k:=64) h.f64,by
  show (if (2:Int)=0 then none else some (Value.int .i64 ((fl:Int).tmod 2)))=_;rw[if_neg (by decide),show (fl:Int).tmod 2=((fl%2:Nat):Int) by rw[Int.tmod_eq_emod_of_nonneg (by omega)]; rfl];rfl,by rw[h.ev]; rfl,dD (i:=pt) (n:=0) (Nat.zero_le _),AT (k:=128) h.p128,trivial⟩ ha
noncomputable abbrev haF:Func:=f89
def jE:Code:=(f89.body).getD .skip
def haX:Code:=cB (cB (cB (cB jE)))
def Dk:Code:=cA haX
theorem Ir:jE=.seq (cA jE) (.seq (cA (cB jE)) (.seq (cA (cB (cB jE))) (.seq (cA (cB (cB (cB jE)))) (.seq (.region 8 (aD Dk) false) .ret)))):=by kernel_rfl
theorem aBD:haF.ntmps=25:=by kernel_rfl
def hA (v:Value) (pb rb:Nat):List Fact:=[.slot 1 (.im v),.slot 2 (.im (ptV pb 0)),.slot 4 (.im (ptV rb 0))]
theorem aBC (v:Value) (wd fl pt:Nat):aX prog (qG prog) 25 (fun _=>tC T0 fun _=>none) 60 (cA jE) (fD 0 [.v (.fl (rR wd fl pt)),.v (.im v)]) [.slot 1 (.im v),.slot 2 (.pt 2 0),.row 2 true (rR wd fl pt),.slot 4 (.pt 4 0),.row 4 true zC]=some ([],.nrm,[.slot 1 (.im v),.slot 2 (.pt 2 0),.row 2 true (rR wd fl pt),.slot 4 (.pt 4 0),.row 4 true zC]):=by kernel_rfl
def Ug (wd fl pt:Nat):gL
 | [.v (.fl l)]=>some ([aA l=aA (rR wd fl pt)],.one (.im (.int .i64 0)))
 | _=>none
def gBw (v:Value):gL
 | [.v (.im u)]=>some ([u=v],.one (.im (.bool true)))
 | _=>none
theorem aGj (w:World) (v:Value) (pb rb wd fl pt:Nat):aX prog { qG prog with x:=xO w (fun _=>none) (assoc [(7,rR wd fl pt)]) (fun _=>none) } 25 (fun _=>tC (T0.add 79 (Ug wd fl pt)) fun _=>none) 60 (cA (cB jE)) (hA v pb rb) (hA v pb rb)=some ([oldOf w pb 0 (rR wd fl pt),dJ (rR wd fl pt)=3,aA (rR wd fl pt)=aA (rR wd fl pt)],.nrm,hA v pb rb):=by kernel_rfl
theorem aGi (p:Option Addr) (N m pb rb:Nat):aX prog (qG prog) 25 (fun _=>tC T0 (assoc [(15,.bool false)])) 60 (cA (cB (cB jE))) (hA (.slice p N m) pb rb) (hA (.slice p N m) pb rb)=some ([aJ .gtr .i64 (Int.ofNat N) 4096=some (.bool false)],.nrm,hA (.slice p N m) pb rb):=by kernel_rfl
theorem aGh (v:Value) (pb rb:Nat):aX prog (qG prog) 25 (fun _=>tC (T0.add 118 (gBw v)) fun _=>none) 60 (cA (cB (cB (cB jE)))) (hA v pb rb) (hA v pb rb)=some ([v=v],.nrm,hA v pb rb):=by kernel_rfl
theorem aBG (w:World) (v:Value) (pb rb wd fl pt:Nat):cO prog { qG prog with x:=xO w (fun _=>none) (assoc [(21,rR wd fl pt)]) (fun _=>none) } 25 (tC T0 fun _=>none) ((aD Dk).extract 0 1) (hA v pb rb) (.slot 21 (.fl (rR wd fl pt))::hA v pb rb)=some ([oldOf w pb 0 (rR wd fl pt),dJ (rR wd fl pt)=3],.slot 21 (.fl (rR wd fl pt))::hA v pb rb):=by kernel_rfl
theorem aBF (v:Value) (pb rb:Nat) (l:List At):cO prog (qG prog) 25 (tC T0 fun _=>none) ((aD Dk).extract 2 3) (.slot 22 (.fl l)::hA v pb rb) [.slot 22 (.fl l),.slot 23 (.im v),.slot 4 (.im (ptV rb 0))]=some ([],[.slot 22 (.fl l),.slot 23 (.im v),.slot 4 (.im (ptV rb 0))]):=by kernel_rfl
theorem aBE (N rb X:Nat):cO prog (qG prog) 25 (tC T0 fun _=>none) ((aD Dk).extract 5 6) [.slot 4 (.pt 4 0),.row 4 true [.q X],.at 4 rb,.at 25 N] [.slot 4 (.pt 4 0),.row 4 true [.q X],.at 4 rb,.at 25 N,.slot 5 (.im (.int .i64 0))]=some ([],[.slot 4 (.pt 4 0),.row 4 true [.q X],.at 4 rb,.at 25 N,.slot 5 (.im (.int .i64 0))]):=by kernel_rfl
theorem Cz {base:Nat} {w0:World} {wd fl pt:Nat} (h:RdOk wd fl pt):TabOkW prog (T0.add 79 (Ug wd fl pt)) base w0 :=
 TabOkW.add ((bU _).w _ _) func79 (by kernel_rfl) (by kernel_rfl) (fun w hw cs pre r hg hp args ha=>by
  unfold Ug at hg;split at hg
  ·cases hg
   match args,ha with
   | [u],ha =>
    have e:u=.agg (aA _).toArray:=ha.1;rw[hp.1]at e;exact SM h [u] w ⟨e,trivial⟩
   | [],ha=>exact ha.elim
   | _::_::_,ha=>exact ha.2.elim
  ·cases hg)
theorem Mo {w0:World} {v:Value} {N:Nat} {f:Nat→Nat} (hv:LV w0 v N f) (hf:oI N f) (hN:N≤65536):TabOkW prog (T0.add 118 (gBw v)) w0.heap.size w0 :=
 TabOkW.add ((bU _).w _ _) func118 (by kernel_rfl) (by kernel_rfl) (fun w hw cs pre r hg hp args ha=>by
  unfold gBw at hg;split at hg
  ·cases hg
   match args,ha with
   | [u],ha =>
    have e:u=_:=ha.1;rw[hp.1]at e;subst e;have:=yS (hv.on hw) (by omega);rw[decide_eq_true hf]at this;exact this
   | [],ha=>exact ha.elim
   | _::_::_,ha=>exact ha.2.elim
  ·cases hg)
def BS (xs:Nat→Nat) (wd fl pt N:Nat) (f:Nat→Nat):Nat:=Er (gM xs wd fl pt (fl+pt)) (wd-1) (N+1) N f fun q=>if q=0 then N else 0
theorem RD {w0:World} {wd fl pt N m:Nat} {p:Option Addr} {xs f:Nat→Nat} {fu:Nat} {sq:Nat→St} (hr:RdOk wd fl pt) (hsv:Dc p m) (hv:LV w0 (.slice p N m) N f) (hf:∀q,q<N→f q<RM) (hN:N≤4096) (h0:sq 0=GX wd fl pt) (hx:∀i,i<wd*(fl+pt)→xG fu (sq i)=some (xs i,sq (i+1))) (hDj:Dbj w0) :
  bM prog 89 (.many [.fl [.q (BS xs wd fl pt N f)],.im (.int .i64 0)]) [.agg (aA (rR wd fl pt)).toArray,.slice p N m] w0:=by
 have hw8:=hr.w8;have hf64:=hr.f64;have hp128:=hr.p128;have hG:∀base w,bO prog (qG prog) base w:=fun _ _=>(aW _).w _ _
 have hT:∀base w,∀n d:Nat,TabOkW prog T0 base w:=fun _ _ _ _=>(bU _).w _ _
 have hnt:f89.ntmps=25:=aBD;refine cH func89 (cs:=[.v (.fl (rR wd fl pt)),.v (.im (.slice p N m))]) (args:=[.agg (aA (rR wd fl pt)).toArray,.slice p N m]) (c:=jE) rfl ⟨rfl,rfl,trivial⟩ (Nat.le_of_ble_eq_true (by kernel_rfl)) fun a w hA => ?_
 rw[hnt]at hA;rw[Ir];refine wp_seq (aB aI (hT _ _) (hG _ _) (aBC (.slice p N m) wd fl pt) trivial hA fun a w1 hA => ?_);obtain⟨pb,hA⟩:=hA.at (k:=2) (l:=rR wd fl pt) (by simp);obtain⟨rb,hA⟩:=hA.at (k:=4) (l:=zC) (by simp);have hpb:oldOf w1 pb 0 (rR wd fl pt):=hA.old (k:=2) (by simp) (by simp);have hrb:Own w1 rb zC:=hA.own (k:=4) (by simp) (by simp);have hrB:w0.heap.size≤rb:=hA.geq (k:=4) (l:=zC) (by simp) (by simp);have hv1:=hv.on hA.below;have hD1:=hDj.on hDj.lt hA.below;have hbl:=hA.below;have hS:=aP (nt:=25) (w:=w1) (a:=a) (ts:=[(1,.slice p N m),(2,ptV pb 0),(4,ptV rb 0)]) hA.defers hA.size (fun x hx=>by
  simp only[List.mem_cons,List.not_mem_nil,or_false]at hx
  rcases hx with rfl|rfl|rfl
  ·exact hA.slot (by simp)
  ·exact hA.ptS (s:=2) (k:=2) (o:=0) (by simp) (by simp)
  ·exact hA.ptS (s:=4) (k:=4) (o:=0) (by simp) (by simp))
 clear hA;refine wp_seq (aB aI (fun _ _=>Cz hr) (dN w1 _ _ _) (aGj w1 (.slice p N m) pb rb wd fl pt) ⟨hpb,rfl,rfl,trivial⟩ hS fun a w2 hA => ?_);refine wp_seq (aB aI (hT _ _) (hG _ _) (aGi _ N m pb rb) ⟨AT (k:=4096) hN,trivial⟩ hA fun a w2 hA => ?_);refine wp_seq (aB aI (fun _ _=>Mo hv1 hf (by omega)) (hG _ _) (aGh (.slice p N m) pb rb) ⟨rfl,trivial⟩ hA fun a w2 hA => ?_);clear hS;refine wp_seq (bI (l:=List.range' 0 ((aD Dk).extract 0 1).size++(1::(List.range' 2 ((aD Dk).extract 2 3).size++(3::4::(List.range' 5 ((aD Dk).extract 5 6).size++[]))))) (by kernel_rfl) ?_);refine aG (c:=tC T0 _) (hT _ _ 0) (dN w1 _ _ _) (aBG w1 (.slice p N m) pb rb wd fl pt) ⟨hpb,rfl,trivial⟩ (by kernel_rfl) hA fun a3 w3 hA => ?_
 obtain⟨o1,ho1,⟨ts1,hop1⟩,hd1,hg1⟩:∃x,(aD Dk)[1]?=some x∧(∃ts,x.op=.call ⟨.value (.func 119),#[.tmp 21],ts⟩)∧x.dst=some 22∧x.guard=none:=⟨_,rfl,⟨_,rfl⟩,rfl,rfl⟩
 have hb3:=hA.below;refine aZ ho1 hg1 (cF hop1 (vs:=[.agg (aA (rR wd fl pt)).toArray]) (List.cons_eq_cons.2 ⟨cL (hA.slotF (s:=21) (by simp)),rfl⟩) (fun args=>bQ func119 (by kernel_rfl) (by kernel_rfl) args _) (YK (sq:=sq) (xs:=xs) hr.w2 (by omega) (by omega) (by omega) h0 hx (hD1.on hD1.lt hb3)) fun e w4 hq => ?_);obtain⟨cs,is,rfl,hM,hb4⟩:=hq;refine⟨_,rfl,?_⟩;rw[hd1];have hb14:=hb3.trans (hb4.mono hb3.size);have hS4:=pR (nt:=25) (w:=w4) (a:=a3.put (some 22) (.agg (aA (rP wd fl pt cs is)).toArray)) (ts:=[(22,.fl (rP wd fl pt cs is)),(1,.im (.slice p N m)),(2,.im (ptV pb 0)),(4,.im (ptV rb 0))]) hA.defers (by rw[aF]; exact hA.size) (fun x hx=>by
  simp only[List.mem_cons,List.not_mem_nil,or_false]at hx
  rcases hx with rfl|rfl|rfl|rfl
  ·exact aT _ _ _ (by rw[hA.size]; decide)
  ·exact aS (hA.slot (v:=.slice p N m) (by simp[Ex.hA])) (by simp)
  ·exact aS (hA.slot (v:=ptV pb 0) (by simp[Ex.hA])) (by simp)
  ·exact aS (hA.slot (v:=ptV rb 0) (by simp[Ex.hA])) (by simp))
 clear hA;refine aG (c:=tC T0 _) (hT _ _ 0) (hG _ _) (aBF (.slice p N m) pb rb _) trivial (by kernel_rfl) hS4 fun a5 w5 hA => ?_
 obtain⟨o3,ho3,⟨ts3,hop3⟩,hd3,hg3⟩:∃x,(aD Dk)[3]?=some x∧(∃ts,x.op=.call ⟨.value (.func 143),#[.tmp 22,.tmp 23],ts⟩)∧x.dst=some 24∧x.guard=none:=⟨_,rfl,⟨_,rfl⟩,rfl,rfl⟩
 have hb15:=hb14.trans (hA.below.mono hb14.size);refine aZ ho3 hg3 (cF hop3 (vs:=[.agg (aA (rP wd fl pt cs is)).toArray,.slice p N m]) (List.cons_eq_cons.2 ⟨cL (hA.slotF (s:=22) (by simp)),List.cons_eq_cons.2 ⟨cL (hA.slot (s:=23) (by simp)),rfl⟩⟩) (fun args=>bQ func143 (by kernel_rfl) (by kernel_rfl) args _) (SE (hM.on hA.below) hsv (hv1.on hb15) hf hr.w2 (by omega) (by omega) (by omega) (by omega)) fun e w6 hq => ?_);obtain⟨rfl,hb6⟩:=hq;refine⟨_,rfl,?_⟩;rw[hd3];have hb16:=hb15.trans (hb6.mono hb15.size);have t4:=aS (d:=24) (u:=(RV.one (.fl [.q (BS xs wd fl pt N f)])).den) (hA.slot (s:=4) (v:=ptV rb 0) (by simp)) (by decide);have t24:=aT a5 24 (.agg (aA [.q (BS xs wd fl pt N f)]).toArray) (by rw[hA.size]; decide);have hdf:=hA.defers;have hsz:=hA.size;clear hA hS4;obtain⟨o4,ho4,hop4,hd4,hg4⟩:∃x,(aD Dk)[4]?=some x∧x.op=.store 27 (.tmp 4) (.tmp 24)∧x.dst=none∧x.guard=none:=⟨_,rfl,rfl,rfl,rfl⟩
 have hR6:=hrb.on hb16;have hput:put zC 0 [.q (BS xs wd fl pt N f)]=some [.q (BS xs wd fl pt N f)]:=rfl;obtain⟨hR7,hW7⟩:=hR6.set hput;refine aZ ho4 hg4 (eV (vs:=aA [.q (BS xs wd fl pt N f)]) hop4 hd4 (cL t4) (cL t24) rfl (oT _) Qa (hR6.there (o:=0) (n:=4) (Nat.le_of_ble_eq_true rfl)) ?_);generalize w6.setCells rb 0 (aA [.q (BS xs wd fl pt N f)])=w7 at *;have hH:=hR7.holds (k:=4) (nt:=25) (a:=a5.put (some 24) (.agg (aA [.q (BS xs wd fl pt N f)]).toArray)) (ts:=[]) hdf (by rw[aF]; exact hsz) rfl t4 (fun x hx=>by cases hx);refine aG (c:=tC T0 _) (hT _ _ 0) (hG _ _) (aBE w7.heap.size rb (BS xs wd fl pt N f)) trivial (by kernel_rfl) hH fun a8 w8 hA => ?_
 have hb8:=hA.below;exact wp_ret (cK (l:=[.fl [.q (BS xs wd fl pt N f)],.im (.int .i64 0)]) (r:=.many [.fl [.q (BS xs wd fl pt N f)],.im (.int .i64 0)]) (by kernel_rfl) (by kernel_rfl) hA ⟨rfl,((hbl.trans (hb16.mono hbl.size)).trans (hW7.below.mono hrB)).trans (hb8.mono hrB)⟩)
theorem ZP {w0:World} {wd fl pt b o N m:Nat} {xs f:Nat→Nat} {fu:Nat} {sq:Nat→St} (hr:RdOk wd fl pt) (hv:LV w0 (aK b o N m) N f) (hf:∀q,q<N→f q<RM) (hN:N≤4096) (h0:sq 0=GX wd fl pt) (hx:∀i,i<wd*(fl+pt)→xG fu (sq i)=some (xs i,sq (i+1))) (hDj:Dbj w0) :
  bM prog 89 (.many [.fl [.q (BS xs wd fl pt N f)],.im (.int .i64 0)]) [.agg (aA (rR wd fl pt)).toArray,aK b o N m] w0:=RD hr (Or.inr ⟨b,o,rfl⟩) hv hf hN h0 hx hDj
theorem Gw:(vZ 195 (GX 3 8 57)).isSome=true:=by kernel_rfl
def pcL:List Nat:=(vZ 195 (GX 3 8 57)).getD []
def pcX (i:Nat):Nat:=pcL.getD i 0
theorem FZ:∀(n:Nat) (s:St) (l:List Nat),LI n s=some l→∃sq:Nat→St,sq 0=s∧∀i,i<n→xG 100 (sq i)=some (l.getD i 0,sq (i+1))
 | 0,s,l,_=>⟨fun _=>s,rfl,fun i hi=>by omega⟩
 | n+1,s,l,h=>by
  unfold LI at h;cases hc:xG 100 s with
  | none=>rw[hc]at h; cases h
  | some x =>
   obtain⟨x,t⟩:=x;rw[hc]at h;simp only at h;cases hr:LI n t with
   | none=>rw[hr]at h; cases h
   | some r =>
    rw[hr]at h;cases h;obtain⟨sq,h0,h1⟩:=FZ n t r hr;refine⟨fun i=>match i with|0=>s|i+1=>sq i,rfl,fun i hi => ?_⟩;cases i with
    | zero =>
     show xG 100 s=some (x,sq 0);rw[hc,h0]
    | succ i =>
     show xG 100 (sq i)=some ((x::r).getD (i+1) 0,sq (i+1));rw[h1 i (by omega),List.getD_cons_succ]
theorem Sa:∃sq:Nat→St,sq 0=GX 3 8 57∧∀i,i<3*(8+57)→xG 100 (sq i)=some (pcX i,sq (i+1)):=by
 have h:=Gw;have hL:vZ 195 (GX 3 8 57)=some pcL:=by
  unfold pcL;cases hc:vZ 195 (GX 3 8 57)with
  | none=>rw[hc]at h; cases h
  | some l=>rfl
 rw[GA 195 (LY 3 8 57)]at hL;exact FZ 195 _ _ hL
def Xt (N:Nat) (f:Nat→Nat):Nat:=BS pcX 3 8 57 N f
theorem ZQ {w0:World} {b o N m:Nat} {f:Nat→Nat} (hv:LV w0 (aK b o N m) N f) (hf:∀q,q<N→f q<RM) (hN:N≤4096) (hDj:Dbj w0) :
  bM prog 89 (.many [.fl [.q (Xt N f)],.im (.int .i64 0)]) [.agg (aA (rR 3 8 57)).toArray,aK b o N m] w0:=by
 obtain⟨sq,h0,hx⟩:=Sa;exact ZP ⟨by decide,by decide,by decide,by decide,by decide,by decide⟩ hv hf hN h0 hx hDj
theorem WZ {xs:Nat→Nat} {wd fl pt:Nat} {f:Nat→Nat} (r:Nat) (q:Nat):gM xs wd fl pt (r+1) f q<RM:=ND _ _ _
theorem VM {P:(Nat→Nat)→Nat→Nat} (hP:∀s q,P s q<RM) {rt:Nat}:∀(k N:Nat) (f s:Nat→Nat),N<k→0<rt→Er P rt k N f s<RM
 | 0,N,f,s,h,_=>by omega
 | k+1,N,f,s,h,hr=>by
  unfold Er
  by_cases e:N-min rt N=0
  ·rw[if_pos e]; exact hP _ _
  ·rw[if_neg e]; exact VM hP k _ _ _ (by omega) hr
theorem Tl (N:Nat) (f:Nat→Nat):Xt N f<RM:=VM (fun s q=>WZ (xs:=pcX) (wd:=3) (fl:=8) (pt:=57) (f:=s) 64 q) (N+1) N f _ (by omega) (by omega)
end Go.Proofs.YtpjlhhpjpnacmaaGreatDoor.Ex
