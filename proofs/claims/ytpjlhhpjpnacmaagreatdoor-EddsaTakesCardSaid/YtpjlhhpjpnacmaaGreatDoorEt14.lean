/- Et14 -/
import Derived.Shelf.Spec.TrailingZeros
import Derived.Laws.ComplexArith
import Derived.StillTail
import Derived.RegionTactic
import Derived.KernelRfl
import Derived.LoopTactic
import Derived.Deep.DeepCutAuto
import Derived.Outline
import Derived.Deep.LoopGhost
import Derived.Test.YtpjlhhpjpnacmaaGreatDoorEt13
import Derived.Test.YtpjlhhpjpnacmaaGreatDoorEt03
import Derived.Test.YtpjlhhpjpnacmaaGreatDoorEt05
import Derived.Test.YtpjlhhpjpnacmaaGreatDoorEt04
import Derived.Test.YtpjlhhpjpnacmaaGreatDoorEt09
import Derived.Test.YtpjlhhpjpnacmaaGreatDoorEt06
import Derived.Test.YtpjlhhpjpnacmaaGreatDoorProg
set_option maxRecDepth 100000
set_option linter.unusedVariables false
set_option linter.unusedSimpArgs false
set_option linter.unnecessarySimpa false
noncomputable section
namespace Go.Proofs.YtpjlhhpjpnacmaaGreatDoor.Ex
open Go.Proofs.Tryz
open Go.RowKit
def tCJ (T:Tab) (num:Nat→Option Value):Cfg:=⟨fun _=>T,fun _=>true,num⟩
def Tz (op:BinOp) (t:Nat) (x y:Operand) (v u r:Value):Prop:=∀w:World,(do eqGuard op t x y v u; binOp op t v u:Sem Value).run prog w=.ok r w
theorem Tf {a:Act} {s:Nat} {v:Value} (h:a.tmps[s]?=some v):a.eval (.tmp s)=v:=by simp[Act.eval,h]
theorem Wm {a:Act} {d s:Nat} {u v:Value} (h:a.tmps[s]?=some v) (hd:d≠s):(a.put (some d) u).tmps[s]?=some v:=by
 rw[gI _ _ _ _ (fun e=>hd (by injection e))]; exact h
theorem rO {nt:Nat} {w:World} {a:Act} {ts:List (Nat×Value)} (hd:a.defers=[]) (hs:a.tmps.size=nt) (ht:∀x∈ts,a.tmps[x.1]?=some x.2):Holds nt w.heap.size w (ts.map fun x=>.slot x.1 (.im x.2)) a w:=by
 refine⟨hd,hs,Below.refl _ _,Nat.le_refl _,fun _=>(w.heap.size,0,0),fun φ hφ => ?_,fun k k' o' l l' h1 => ?_,fun k l h1 => ?_,Nat.le_refl _,fun p h1 h2=>⟨rfl,rfl⟩,Shape.refl _⟩
 ·obtain⟨x,hx,rfl⟩:=List.mem_map.1 hφ;exact ht x hx
 ·obtain⟨x,_,e⟩:=List.mem_map.1 h1; cases e
 ·obtain⟨x,_,e⟩:=List.mem_map.1 h1; cases e
theorem Holds.shapeJ {nt base:Nat} {w0:World} {A:List Fact} {a:Act} {w:World} (h:Holds nt base w0 A a w):Shape w0 w:=by
 obtain⟨_,_,_,_,gt⟩:=h.facts;exact gt.shape
theorem Own.onJ {w w':World} {b:Nat} {l:List At} (h:Own w b l) (hb:Below w.heap.size w w'):Own w' b l :=
 ⟨Nat.lt_of_lt_of_le h.lt hb.size,fun j v hj=>(hb.cell (p:=⟨b,0+j,none⟩) h.lt).trans (h.row j v hj),fun j=>(hb.frozen (p:=⟨b,j,none⟩) h.lt).trans (h.free j)⟩
theorem Ie:apT prog 25=some (5,1,1):=by kernel_rfl
noncomputable abbrev aKv:Func:=f100
def mW:Code:=(f100.body).getD .skip
def OU:Code:=cA (cB (cB mW))
theorem Fg:mW=.seq (cA mW) (.seq (cA (cB mW)) (.seq (.region 3 (aE OU) false) .ret)):=by kernel_rfl
theorem aAG:aKv.ntmps=8:=by kernel_rfl
theorem aAF (v:Value):aX prog (qG prog) 8 (fun _=>tCJ T0 fun _=>none) 60 (cA mW) (fJ 0 [.v (.im v)]) [.slot 0 (.im v)]=some ([],.nrm,[.slot 0 (.im v)]):=by kernel_rfl
theorem aAE (w:World) (v:Value):aX prog { qG prog with x:=xO w (fun _=>none) (fun _=>none) (assoc [(4,.bool false)]) } 8 (fun _=>tCJ T0 fun _=>none) 60 (cA (cB mW)) [.slot 0 (.im v)] [.slot 0 (.im v)]=some ([Tz .eql 25 (.tmp 3) (.const (.slice none 0 0)) v (.slice none 0 0) (.bool false)],.nrm,[.slot 0 (.im v)]):=by kernel_rfl
theorem aAD (v u:Value):cX prog (qG prog) 8 (tCJ T0 fun _=>none) ((aE OU).extract 1 2) [.slot 5 (.im u),.slot 0 (.im v)] [.slot 6 (.im v),.slot 5 (.im u)]=some ([],[.slot 6 (.im v),.slot 5 (.im u)]):=by kernel_rfl
theorem aAC (v:Value):cX prog (qG prog) 8 (tCJ T0 fun _=>none) ((aE OU).extract 3 4) [.slot 7 (.im v)] [.slot 2 (.im v)]=some ([],[.slot 2 (.im v)]):=by kernel_rfl
theorem Ov (d:Nat) (b o n m:Nat) (w:World):(Op.equalIn (d+1) 25 (aM b o n m) (.slice none 0 0)).run prog w=.ok false w:=by
 have hu:prog.underlying 25=some (.slice 5):=underlying25;simp[Op.equalIn,aM,run_underlying hu]
theorem Ju (x y:Operand) (b o n m:Nat):Tz .eql 25 x y (aM b o n m) (.slice none 0 0) (.bool false):=fun w=>by
 have hu:prog.underlying 25=some (.slice 5):=underlying25;have h:=Ov 9999 b o n m w;have e:Op.maxDepth=9999+1:=rfl;simp[eqGuard,binOp,go_sem,run_underlying hu,Op.equal,e,h,show aM b o n m=Value.slice (some ⟨b,o,none⟩) n m from rfl]at h ⊢;simp[h]
theorem Fy (w:World):(Instr.buildSlice 25 0 #[]).run prog w=.ok (aM w.heap.size 0 0 0) (w.alloc (.cells #[] 5)):=by
 obtain⟨ht,i,z,hi,hz,hsize,hby,hzs,hsz⟩:=jG Ie;simp[Instr.buildSlice,run_underlying ht,sizeOf,typeInfo,hi,newRow,aM,Instr.fill,show Array.range 0 = #[] by simp[Array.range]]
theorem aAX (f:Nat→Nat):∀v∈aA (bj f),v.oneCell'=true:=fun v hv=>by
 obtain⟨k,hk,e⟩:=List.mem_iff_getElem.1 hv;have hl:k<32:=by rwa [aS,show dN (bj f)=32 by kernel_rfl]at hk
 have h1:=pF f k hl;rw[List.getElem?_eq_getElem hk,e]at h1;cases h1;rfl
theorem VR {w0:World} {b o m:Nat} {f:Nat→Nat} (hbw:b<w0.heap.size) (hrw:w0.rangeAt b o (aA (bj f))) :
  Calls prog 100 [aM b o 32 m].toArray w0 fun e w'=>FS.ok ⟨bj f,32,5,1,true,[],[]⟩ w0 e w':=by
 have hG:∀base w,bQ prog (qG prog) base w:=fun _ _=>(aV _).w _ _
 have hT:∀base w,∀n d:Nat,TabOkW prog T0 base w:=fun _ _ _ _=>(bP _).w _ _
 have hnt:f100.ntmps=8:=aAG;refine cM func100 (cs:=[.v (.im (aM b o 32 m))]) (args:=[aM b o 32 m]) (c:=mW) rfl ⟨rfl,trivial⟩ (Nat.le_of_ble_eq_true (by kernel_rfl)) fun a w hA => ?_
 rw[hnt]at hA;rw[Fg];refine wp_seq (aB aI (hT _ _) (hG _ _) (aAF _) trivial hA fun a w hA => ?_);refine wp_seq (aB aI (hT _ _) (dS w0 _ _ _) (aAE w0 _) ⟨Ju _ _ _ _ _ _,trivial⟩ hA fun a w hA => ?_);have t0:=hA.slot (s:=0) (v:=aM b o 32 m) (by simp);have hd:=hA.defers;have hsz:=hA.size;have hbl:=hA.below;clear hA;refine wp_seq (bK (l:=0::(List.range' 1 ((aE OU).extract 1 2).size++(2::(List.range' 3 ((aE OU).extract 3 4).size++[])))) (by kernel_rfl) ?_);obtain⟨o0,ho0,hop0,hd0,hg0⟩:∃x,(aE OU)[0]?=some x∧x.op=.buildSlice 25 0 #[]∧x.dst=some 5∧x.guard=none:=⟨_,rfl,rfl,rfl,rfl⟩
 have hrun0:(execOp a.eval o0).run prog w=.ok (.value (aM w.heap.size 0 0 0)) (w.alloc (.cells #[] 5)):=by
  simp[execOp,hop0,Fy w]
 refine bE ho0 hg0 (cD hrun0 ?_);rw[hd0];have hb1:Below w.heap.size w (w.alloc (.cells #[] 5)):=(Below.refl _ w).alloc (Nat.le_refl _) _;have hap:AppAt (w.alloc (.cells #[] 5)) w.heap.size 5 4 0 0:=⟨#[],World.alloc_heap_new _ _,Nat.le_refl _,Nat.zero_le _,rfl⟩;generalize hc0:w.heap.size=c0 at hap;have hc0':w0.heap.size≤c0:=by rw[←hc0]; exact hbl.size
 generalize w.alloc (.cells #[] 5)=w1 at *;have hb1:Below w0.heap.size w0 w1:=hbl.trans (hb1.mono (by rw[hc0]; exact hc0'));have hS:=rO (nt:=8) (w:=w1) (a:=a.put (some 5) (aM c0 0 0 0)) (ts:=[(5,aM c0 0 0 0),(0,aM b o 32 m)]) hd (by rw[aH]; exact hsz) (fun x hx=>by
  simp only[List.mem_cons,List.not_mem_nil,or_false]at hx
  rcases hx with rfl|rfl
  ·exact aT _ _ _ (by rw[hsz]; decide)
  ·exact Wm t0 (by simp))
 refine aJ (c:=tCJ T0 _) (hT _ _ 0) (hG _ _) (aAD _ _) trivial (by kernel_rfl) hS fun a2 w2 hA => ?_
 obtain⟨o2,ho2,⟨ty,hop2⟩,hd2,hg2⟩:∃x,(aE OU)[2]?=some x∧(∃ty:Nat,x.op=.call ⟨.builtin .append,#[.tmp 5,.tmp 6],#[25,25]⟩∧x.type=ty)∧x.dst=some 7∧x.guard=none:=⟨_,rfl,⟨_,rfl,rfl⟩,rfl,rfl⟩
 have hb':=Nat.lt_of_lt_of_le hbw (hb1.trans (hA.below.mono hb1.size)).size;have hr:=bJ (hb1.trans (hA.below.mono hb1.size)) hbw hrw;obtain⟨c,cap,w3,hr',a1,q2,q3,q4,a5,a6,a7⟩:=nO (P:=prog) w2 (ty:=o2.type) Ie (u:=aM c0 0 0 0) (n:=0) (xs:=[]) (Or.inr ⟨c0,0,rfl,hap.shape hA.shapeJ,fun j v hj=>by simp at hj,rfl⟩) (ad:=⟨b,o,none⟩) (m:=32) (c:=m) (news:=aA (bj f)) (by rw[aS]; kernel_rfl) (fun j v hj=>by
  have e:(⟨b,o,none⟩:Addr).add j=⟨b,o+j,none⟩:=by simp[Addr.add]
  rw[e];exact hr j v hj) (aAX f) (by decide) (by omega) (by unfold maxLen; omega)
 rw[Nat.zero_add]at hr';have hcap:32≤cap:=by obtain⟨_,_,h,_⟩:=a1; omega
 have hrun2:(execOp a2.eval o2).run prog w2=.ok (.value (aM c 0 32 cap)) w3:=by
  unfold execOp;simp only[hop2.1,resolve,invoke,builtin,Sem.run_bind,Sem.run_pure,Result.andThen_ok,List.map_toArray,List.map_cons,List.map_nil,Tf (hA.slot (s:=5) (v:=aM c0 0 0 0) (by simp)),Tf (hA.slot (s:=6) (v:=aM b o 32 m) (by simp))];rw[show aM b o 32 m=Value.slice (some ⟨b,o,none⟩) 32 m from rfl,hr'];rfl
 refine bE ho2 hg2 (cD hrun2 ?_);rw[hd2];have hb2:Below w0.heap.size w0 w2:=hb1.trans (hA.below.mono hb1.size);have hb3:Below w0.heap.size w0 w3:=hb2.grown a5 hb2.size (fun k hk=>by
  have:k=c0:=by simpa[aM,Value.ownBlock,eq_comm]using hk
  omega)
 have hcge:w0.heap.size≤c:=by
  rcases a7 with h|⟨cap0,h⟩
  ·exact Nat.le_trans hb2.size h
  ·have:c0=c:=by simp only[aM,Value.slice.injEq,Option.some.injEq,Addr.mk.injEq]at h; exact h.1.1
   omega
 have hS3:=rO (nt:=8) (w:=w3) (a:=a2.put (some 7) (aM c 0 32 cap)) (ts:=[(7,aM c 0 32 cap)]) hA.defers (by rw[aH]; exact hA.size) (fun x hx=>by
  cases List.mem_singleton.1 hx;exact aT _ _ _ (by rw[hA.size]; decide))
 refine aJ (c:=tCJ T0 _) (hT _ _ 0) (hG _ _) (aAC _) trivial (by kernel_rfl) hS3 fun a4 w4 hA4 => ?_
 have hO:Own w3 c (bj f):=⟨q2,q3,q4⟩;exact wp_ret (cN (l:=[.im (aM c 0 32 cap)]) (r:=.one (.im (aM c 0 32 cap))) (by kernel_rfl) (by kernel_rfl) hA4 ⟨c,cap,rfl,hb3.trans (hA4.below.mono hb3.size),hcge,(hO.onJ hA4.below).lt,(hO.onJ hA4.below).row,(hO.onJ hA4.below).free,fun _=>a1.shape hA4.shapeJ⟩)
def gCl (f:Nat→Nat):List CA→Option (List Prop×FS)
 | [.s l n m]=>some ([n=32,aA l=aA (bj f)],⟨bj f,32,5,1,true,[],[]⟩)
 | _=>none
theorem Zo (f:Nat→Nat):∀cs pre r,gCl f cs=some (pre,r)→bC pre→∀(args:List Value) (w:World),cP w cs args→Calls prog 100 args.toArray w (fun e w'=>r.ok w e w'):=by
 intro cs pre r hg hp args w ha;unfold gCl at hg;split at hg
 ·rename_i l n m;cases hg;obtain⟨rfl,he,_⟩:=hp
  match args,ha with
  | [v],ha =>
   obtain⟨b,o,rfl,hb,hr⟩:=ha.1;exact VR hb (he▸hr)
  | [],ha=>exact ha.elim
  | _::_::_,ha=>exact ha.2.elim
 ·cases hg
def u3 (n:Nat):Value:=.int .u32 (Int.ofNat n)
def FL (z:Int) (b:Nat):Prop:=∃(s:Bool) (k:Nat),Ieee.double.read b=.number s (z.natAbs*2^k) (-(k:Int))∧(z=0∨s=decide (z<0))
theorem aAs:Ieee.double.signWeight=2^63:=by decide
theorem SA:Ieee.double.binade=2^52:=by decide
theorem RZ:Ieee.double.infRung=2047*2^52:=by decide
theorem OP:Ieee.double.leastPlace = -1074:=by decide
theorem TO (s:Bool) {e m:Nat} (he:e<2046) (hm:m<2^52):Ieee.double.read (Ieee.double.word s ((e+1)*2^52+m))=.number s (2^52+m) (-1074+(e:Int)):=by
 have h1:(e+1)*2^52+m<2^63:=by omega
 unfold Ieee.Format.read Ieee.Format.word;simp only[aAs,SA,RZ,OP];have h2:(if s=true then 2^63+((e+1)*2^52+m)else (e+1)*2^52+m)%2^63=(e+1)*2^52+m:=by cases s<;>simp<;>omega
 have h3:((if s=true then 2^63+((e+1)*2^52+m)else (e+1)*2^52+m)/2^63%2==1)=s:=by cases s<;>simp<;>omega
 rw[h2,h3,if_neg (by omega),if_pos (by omega)];have h4:((e+1)*2^52+m)%2^52=m:=by omega
 have h5:((e+1)*2^52+m)/2^52-1=e:=by omega
 rw[h4,h5]
theorem TN (s:Bool):Ieee.double.read (Ieee.double.word s 0)=.number s 0 (-1074):=by
 cases s<;>decide
theorem FL.write {s:Bool} {z:Int} {k:Nat} (hz:z.natAbs<2^53) (hs:z=0∨s=decide (z<0)):FL z (Ieee.double.write (.number s (z.natAbs*2^k) (-(k:Int)))):=by
 by_cases h0:z=0
 ·subst h0;refine⟨s,1074,?_,Or.inl rfl⟩;show Ieee.double.read (Ieee.double.nearest s (0*2^k) _)=_;unfold Ieee.Format.nearest;rw[Nat.zero_mul,if_pos rfl,TN];have e:∀n:Nat,(0:Int).natAbs*n=0:=fun n=>Nat.zero_mul n
  rw[e]<;>rfl
 ·have hn:z.natAbs≠0:=by omega
  obtain⟨L,hL1,hL2⟩:∃L,2^L≤z.natAbs∧z.natAbs<2^(L+1):=⟨z.natAbs.log2,Nat.log2_self_le hn,Nat.lt_log2_self⟩
  have hL:L≤52:=by
   rcases Nat.lt_or_ge 52 L with h|h
   ·have:=Nat.pow_le_pow_right (n:=2) (by omega) (show 53≤L by omega);omega
   ·exact h
  have hpos:z.natAbs*2^k≠0:=Nat.mul_ne_zero hn (Nat.pos_iff_ne_zero.1 (Nat.two_pow_pos k));have hlog:(z.natAbs*2^k).log2=L+k:=by
   refine (Nat.log2_eq_iff hpos).2 ⟨?_,?_⟩
   ·rw[Nat.pow_add]; exact Nat.mul_le_mul_right _ hL1
   ·rw[show L+k+1=(L+1)+k by omega,Nat.pow_add]; exact (Nat.mul_lt_mul_right (Nat.two_pow_pos k)).2 hL2
  have hkept:Ieee.Toward.even.cut s ((z.natAbs*2^k) <<< (-(k:Int)-((L:Int)-52)).toNat) (((L:Int)-52) - -(k:Int)).toNat=z.natAbs*2^(52-L):=by
   rcases Nat.lt_or_ge (52-L) k with h|h
   ·
    have e1:(-(k:Int)-((L:Int)-52)).toNat=0:=by omega
    have e2:(((L:Int)-52) - -(k:Int)).toNat=k-(52-L):=by omega
    rw[e1,e2,Nat.shiftLeft_zero];have e3:z.natAbs*2^k=z.natAbs*2^(52-L)*2^(k-(52-L)):=by rw[Nat.mul_assoc,←Nat.pow_add,show 52-L+(k-(52-L))=k by omega]
    unfold Ieee.Toward.cut;have e4:min (k-(52-L)) ((z.natAbs*2^k).log2+2)=k-(52-L):=by rw[hlog]; omega
    simp only[e4,Nat.one_shiftLeft];have e5:z.natAbs*2^k/2^(k-(52-L))=z.natAbs*2^(52-L):=by rw[e3,Nat.mul_div_cancel _ (Nat.two_pow_pos _)]
    have e6:z.natAbs*2^k%2^(k-(52-L))=0:=by rw[e3,Nat.mul_mod_left]
    rw[e5,e6];have hg:=Nat.two_pow_pos (k-(52-L));have e7:decide (2^(k-(52-L))<2*0)=false:=decide_eq_false (by omega);have e8:(2^(k-(52-L))==2*0)=false:=by rw[beq_eq_false_iff_ne]; omega
    rw[e7,e8];rfl
   ·have e1:(-(k:Int)-((L:Int)-52)).toNat=52-L-k:=by omega
    have e2:(((L:Int)-52) - -(k:Int)).toNat=0:=by omega
    rw[e1,e2,Nat.shiftLeft_eq,Nat.mul_assoc,←Nat.pow_add,show k+(52-L-k)=52-L by omega];unfold Ieee.Toward.cut;simp[Nat.mod_one]
  have hk1:2^52≤z.natAbs*2^(52-L):=by
   have:=Nat.mul_le_mul_right (2^(52-L)) hL1
   rwa [←Nat.pow_add,show L+(52-L)=52 by omega]at this
  have hk2:z.natAbs*2^(52-L)<2^53:=by
   have:=(Nat.mul_lt_mul_right (Nat.two_pow_pos (52-L))).2 hL2
   rwa [←Nat.pow_add,show L+1+(52-L)=53 by omega]at this
  refine⟨s,52-L,?_,Or.inr (hs.resolve_left h0)⟩;show Ieee.double.read (Ieee.double.nearest s (z.natAbs*2^k) (-(k:Int)))=_;unfold Ieee.Format.nearest;rw[if_neg hpos];have hfb:((Ieee.double.fractionBits:Nat):Int)=52:=rfl;have elast:max (-(k:Int)+((z.natAbs*2^k).log2:Int)-(Ieee.double.fractionBits:Int)) Ieee.double.leastPlace=(L:Int)-52:=by
   rw[hlog,hfb,OP]; omega
  simp only[elast];rw[hkept,OP,SA,RZ];generalize z.natAbs*2^(52-L)=K at hk1 hk2 ⊢;have e9:((L:Int)-52 - -1074).toNat=L+1022:=by omega
  rw[e9];have hB:(2:Nat)^53=2*2^52:=by rw[Nat.pow_succ,Nat.mul_comm]
  rw[hB]at hk2;have hr:=TO s (e:=L+1022) (m:=K-2^52) (by omega);generalize (2:Nat)^52=B at hk1 hk2 hr ⊢;have hr:=hr (by omega);have e12:(L+1022)*B≤1074*B:=Nat.mul_le_mul_right _ (by omega);have e13:(L+1022)*B+K≤2047*B:=by omega
  have e14:(L+1022+1)*B=(L+1022)*B+B:=by rw[Nat.add_mul _ 1,Nat.one_mul]
  have e10:min ((L+1022)*B+K) (2047*B)=(L+1022+1)*B+(K-B):=by rw[Nat.min_eq_left e13,e14]; omega
  rw[e10,hr];have e11:B+(K-B)=K:=by omega
  rw[e11];congr 1;omega
theorem FL.ofInt {z:Int} (hz:z.natAbs<2^53):FL z (floatOfInt .f64 z):=by
 have:=FL.write (s:=decide (z<0)) (z:=z) (k:=0) hz (Or.inr rfl);rw[Nat.pow_zero,Nat.mul_one]at this;exact this
def iV (z:Int):Value:=.int .i64 z
def x4 (X:Nat→Int):List At:=[.c (iV (X 0)),.c (iV (X 1)),.c (iV (X 2)),.c (iV (X 3))]
def z4:Nat→Int:=fun _=>0
def aII (X:Nat→Int):Prop:=∀k,k<4 → -1099511627776≤X k∧X k≤1099511627776
instance (X:Nat→Int):Decidable (aII X):=Nat.decidableBallLT 4 fun k _ => -1099511627776≤X k∧X k≤1099511627776
end Go.Proofs.YtpjlhhpjpnacmaaGreatDoor.Ex
namespace Go.Proofs.YtpjlhhpjpnacmaaGreatDoor
open Go.Proofs.Tryz
open Go.RowKit
def pH (a0 a1 a2 a3 a4 a5 a6 a7:Nat):Nat:=a0+4294967296*(a1+4294967296*(a2+4294967296*(a3+4294967296*(a4+4294967296*(a5+4294967296*(a6+4294967296*a7))))))
def Hi (a0 a1 a2 a3 a4 a5 a6 a7:Nat):Prop:=a0<4294967296∧a1<4294967296∧a2<4294967296∧a3<4294967296∧a4<4294967296∧a5<4294967296∧a6<4294967296∧a7<4294967296
theorem sS {a:Nat} (ha:a<18446744073709551616):∃l h:Nat,bits .and .u64 (a:Int) 4294967295=(l:Int)∧(a:Int)/4294967296=(h:Int)∧l<4294967296∧h<4294967296∧Hid (l+4294967296*h=a):=by
 obtain⟨h,l,e1,e2,h1,h2,e⟩:=DS ha;exact⟨l,h,e2,e1,h2,h1,Lib.hid (by omega)⟩
def PV (A:Nat) (w:World) (e:Ending) (w':World):Prop :=
 ∃h0 h1 h2 h3 h4 h5 h6 h7:Nat,e=.returned (.agg #[.int .u64 h0,.int .u64 h1,.int .u64 h2,.int .u64 h3,.int .u64 h4,.int .u64 h5,.int .u64 h6,.int .u64 h7])∧Hi h0 h1 h2 h3 h4 h5 h6 h7∧Hid (pH h0 h1 h2 h3 h4 h5 h6 h7=A)∧Below w.heap.size w w'
theorem vR {l h:Nat} (hl:l<4294967296) (hh:h<4294967296):∃u s:Nat,(h:Int)*4294967296=(u:Int)∧bits .or .u64 (l:Int) (u:Int)=(s:Int)∧u<18446744073709551616∧s<18446744073709551616∧Hid (s=l+4294967296*h):=by
 obtain⟨s,e,hs,f⟩:=oF (k:=32) (lo:=l) (up:=h*4294967296) (by omega) (by omega) (Lib.hid (by omega)) (Lib.hid ⟨h,by omega⟩);have:=f.out;exact⟨h*4294967296,s,by omega,e,by omega,hs,Lib.hid (by omega)⟩
set_option maxHeartbeats 1000000 in
theorem qM (h0 h1 h2 h3 h4 h5 h6 h7:Nat) (hh:Hi h0 h1 h2 h3 h4 h5 h6 h7) (g o c:Nat) (w:World)
  (c0:w.cell? ⟨g,o,none⟩=some (.int .u64 h0)) (c1:w.cell? ⟨g,o+1,none⟩=some (.int .u64 h1)) (c2:w.cell? ⟨g,o+2,none⟩=some (.int .u64 h2)) (c3:w.cell? ⟨g,o+3,none⟩=some (.int .u64 h3))
  (c4:w.cell? ⟨g,o+4,none⟩=some (.int .u64 h4)) (c5:w.cell? ⟨g,o+5,none⟩=some (.int .u64 h5)) (c6:w.cell? ⟨g,o+6,none⟩=some (.int .u64 h6)) (c7:w.cell? ⟨g,o+7,none⟩=some (.int .u64 h7)) (hg:g<w.heap.size) :
  Calls prog 185 #[.slice (some ⟨g,o,none⟩) 8 c] w (cZ (fun v=>v=pH h0 h1 h2 h3 h4 h5 h6 h7) w):=by
 obtain⟨k0,k1,k2,k3,k4,k5,k6,k7⟩:=hh;obtain⟨u0,s0,p0,q0,a0,b0,e0⟩:=vR k0 k1;obtain⟨u1,s1,p1,q1,a1,b1,e1⟩:=vR k2 k3;obtain⟨u2,s2,p2,q2,a2,b2,e2⟩:=vR k4 k5;obtain⟨u3,s3,p3,q3,a3,b3,e3⟩:=vR k6 k7
 go_enter func185,ntmps185
 go_wp2_with fail;refine wp_loop_rounds 5 ?_;rw[rounds_succ];go_wp2_with fail
 go_region
 go_wp2_with fail;rw[rounds_succ];go_wp2_with fail
 go_region
 go_wp2_with fail;rw[rounds_succ];go_wp2_with fail
 go_region
 go_wp2_with fail;rw[rounds_succ];go_wp2_with fail
 go_region
 go_wp2_with fail;rw[rounds_succ];go_wp2_with fail;refine bodyPost_ret (v:=.agg #[.int .u64 s0,.int .u64 s1,.int .u64 s2,.int .u64 s3]) (by simp[results,results185,go_sem]) rfl ?_;refine⟨s0,s1,s2,s3,rfl,⟨b0,b1,b2,b3⟩,?_,?_⟩
 ·have:=e0.out; have:=e1.out; have:=e2.out; have:=e3.out;unfold aC pH; omega
 repeat (first|exact Below.refl _ _|refine Below.drew ?_|refine Below.alloc ?_ (by first|(simp; done)|(simp; omega)) _)
section
variable {P:Program} {ops:Array Oper} {Q:Exit→Act→World→Prop} {md:Region.Mode}
def Tr (md:Region.Mode) (ops:Array Oper) (n:Nat):Bool :=
 (List.range n).all fun i=>match ops[i]? with
  | some o=>o.after.all fun e => !Region.binds md e||decide (e.on<i)
  | none=>false
def qD (md:Region.Mode) (ops:Array Oper) (got:Nat→Bool) (i:Nat):Bool :=
 match ops[i]? with
  | some o=>o.after.all fun e => !Region.binds md e||got e.on
  | none=>false
def iN (listed:Array Bool):Nat→Nat
 | 0=>0
 | n+1=>iN listed n+if listed.getD n false=true then 0 else 1
theorem kN (listed:Array Bool) (n:Nat):iN listed (n+1)=iN listed n+if listed.getD n false=true then 0 else 1:=rfl
theorem vZ {listed:Array Bool} {i:Nat} (hi:i<listed.size) (h:listed.getD i false=false):∀n,iN (listed.setIfInBounds i true) n+(if i<n then 1 else 0)=iN listed n
 | 0=>by simp[iN]
 | n+1=>by
  have ih:=vZ hi h n;rw[kN,kN]
  by_cases e:i=n
  ·subst e;have h1:(listed.setIfInBounds i true).getD i false=true:=by simp[hi]
   rw[h1,h];simp at ih ⊢;omega
  ·rw[getD_set_ne false e]
   by_cases h2:i<n
   ·rw[if_pos h2]at ih; rw[if_pos (show i<n+1 by omega)]; omega
   ·rw[if_neg h2]at ih; rw[if_neg (show ¬i<n+1 by omega)]; omega
theorem nM {listed:Array Bool}:∀{n:Nat},iN listed n=0→∀j,j<n→listed.getD j false=true
 | 0,_,j,hj=>by omega
 | n+1,h,j,hj=>by
  rw[kN]at h
  by_cases e:listed.getD n false=true
  ·rw[if_pos e]at h
   rcases Nat.lt_or_ge j n with h1|h1
   ·exact nM (by omega) j h1
   ·obtain rfl:j=n:=by omega
    exact e
  ·rw[if_neg e]at h; omega
theorem nN {listed:Array Bool}:∀{n:Nat},0<iN listed n→∃j,j<n∧listed.getD j false=false∧∀k,k<j→listed.getD k false=true
 | 0,h=>by unfold iN at h; omega
 | n+1,h=>by
  rcases Nat.eq_zero_or_pos (iN listed n)with h0|h0
  ·unfold iN at h;rw[h0]at h;refine⟨n,by omega,?_,nM h0⟩;cases e:listed.getD n false with
   | true=>rw[e]at h; simp at h
   | false=>rfl
  ·obtain⟨j,hj,h1,h2⟩:=nN h0;exact⟨j,by omega,h1,h2⟩
def lT (n m:Nat):Array Bool:=Array.replicate n true++Array.replicate (m-n) false
theorem rI {n:Nat} {Inv:(Nat→Bool)→Act→World→Prop} {l:List Oper} (hl:ops=l.toArray) (hn:n<ops.size)
  (hs:Region.sinkB md ops n=true) (hc:Region.chainB md ops n=true) (hb:Tr md ops n=true) (hq:Region.seqB md ops (ops.size-n) n (lT n ops.size)=true)
  (step:∀(got:Nat→Bool) b u i,i<n→got i=false→qD md ops got i=true→Inv got b u→wpOp P ops Q i (Inv (fun j=>j==i||got j)) b u)
  (tail:∀got b u,(∀j,j<n→got j=true)→Inv got b u→wpList P ops Q (l.drop n) b u) :
  ∀(m:Nat) (listed:Array Bool) (b:Act) (u:World),HeadInv md ops n listed→iN listed n=m→Inv (fun j=>listed.getD j false) b u→wpAny P md ops Q (m+(ops.size-n)) listed b u
 | 0,listed,b,u,inv,hm,h=>by
  have hall:=nM hm;have he:listed=lT n ops.size:=by
   refine Array.ext (by simp[lT,inv.size]; omega) fun j h1 h2 => ?_
   rcases Nat.lt_or_ge j n with hj|hj
   ·have:=hall j hj;simp[h1]at this;rw[this];simp[lT,hj]
   ·have:=inv.tail j hj (by rw[←inv.size]; exact h1);simp[h1]at this;rw[this];simp[lT,hj]
  subst he;have hlen:(l.drop n).length=ops.size-n:=by subst hl; simp
  rw[Nat.zero_add,←hlen];exact wpAny_of_seq (l.drop n) n _ b u (fun j=>by subst hl; simp[List.getElem?_drop]) (by rw[hlen]; exact hq) (tail _ b u hall h)
 | m+1,listed,b,u,inv,hm,h=>by
  rw[show m+1+(ops.size-n)=m+(ops.size-n)+1 by omega];refine⟨fun h0 => ?_,fun i hi => ?_⟩
  ·obtain⟨j,hj,h1,h2⟩:=nN (n:=n) (listed:=listed) (by omega);have hjr:j∈Region.ready md ops listed:=by
    have hbj:=List.all_eq_true.1 hb j (List.mem_range.2 hj);cases ho:ops[j]? with
    | none=>rw[ho]at hbj; cases hbj
    | some o =>
     rw[ho]at hbj;refine mem_ready.2 ⟨getD_in (by rw[inv.size]; omega) h1,o,ho,fun e he hbi=>h2 _ ?_⟩;have:=(Array.all_eq_true_iff_forall_mem.1 hbj) e he;simp[hbi]at this;exact this
   rw[h0]at hjr; cases hjr
  ·obtain⟨hun,o,ho,hall⟩:=mem_ready.1 hi;have hin:i<n:=by
    rcases Nat.lt_or_ge i n with h'|h'
    ·exact h'
    ·obtain⟨j,hj,h1,h2⟩:=nN (n:=n) (listed:=listed) (by omega);exact absurd hi (tail_waits hs hc hn inv _ j rfl hj (getD_in (by rw[inv.size]; omega) h1) i h')
   have his:i<listed.size:=by rw[inv.size]; omega
   have hun':=getD_both hun;refine wpOp_mono (fun b' u' h' => ?_) (step _ b u i hin hun' (by
    unfold qD;rw[ho];refine Array.all_eq_true_iff_forall_mem.2 fun e he => ?_
    cases hbi:Region.binds md e with
    | false=>rfl
    | true=>simpa[hbi]using hall e he hbi) h)
   refine rI hl hn hs hc hb hq step tail m _ b' u' (inv.set hi hin) ?_ ?_
   ·have:=vZ his hun' n;rw[if_pos hin]at this; omega
   ·have hf:(fun j=>(listed.setIfInBounds i true).getD j false)=fun j=>j==i||listed.getD j false:=by
     funext j
     by_cases e:j=i
     ·subst e; simp[his]
     ·rw[getD_set_ne false (Ne.symm e)]; simp[e]
    rw[hf]; exact h'
theorem wB (k:Nat):∀n,iN (Array.replicate k false) n=n
 | 0=>rfl
 | n+1=>by rw[kN,wB k n,getD_replicate_false]; simp
theorem uM (n:Nat) (Inv:(Nat→Bool)→Act→World→Prop) {id:Nat} {a:Act} {w:World} {l:List Oper} (hm:P.follows .mixedOrders=true) (hn:n<l.length)
  (hs:Region.sinkB .any l.toArray n=true) (hc:Region.chainB .any l.toArray n=true) (hb:Tr .any l.toArray n=true) (hq:Region.seqB .any l.toArray (l.toArray.size-n) n (lT n l.toArray.size)=true)
  (start:Inv (fun _=>false) a w.drew)
  (step:∀(got:Nat→Bool) b u i,i<n→got i=false→qD .any l.toArray got i=true→Inv got b u→wpOp P l.toArray Q i (Inv (fun j=>j==i||got j)) b u)
  (tail:∀got b u,(∀j,j<n→got j=true)→Inv got b u→wpList P l.toArray Q (l.drop n) b u):(Code.region id l.toArray true).wp P Q a w:=by
 have hn':n<l.toArray.size:=by simpa using hn
 have inv0:HeadInv .any l.toArray n (Array.replicate l.toArray.size false) :=
  ⟨by simp,fun j oj _ hl=>(by rw[getD_replicate_false]at hl; cases hl),fun t _ ht=>getD_in (by simpa using ht) (getD_replicate_false _ _)⟩
 refine wp_region_any hm ?_;have hf:(fun j=>(Array.replicate l.toArray.size false).getD j false)=fun _:Nat=>false:=by funext j; exact getD_replicate_false _ _
 have H:=rI (md:=.any) rfl hn' hs hc hb hq step tail n _ a w.drew inv0 (wB _ n) (by rw[hf]; exact start);rw[show n+(l.toArray.size-n)=l.toArray.size by omega]at H;exact H
end
theorem readyB_at {ops:Array Oper} {got:Nat→Bool} {i:Nat} {o:Oper} {e:Edge} (h:qD .any ops got i=true) (ho:ops[i]?=some o) (he:e∈o.after) (hb:Region.binds .any e=true):got e.on=true:=by
 unfold qD at h;rw[ho]at h;have:=(Array.all_eq_true_iff_forall_mem.1 h) e he;simpa[hb]using this
def HalfV (A:Nat) (t:Value):Prop:=∃x0 x1 x2 x3 x4 x5 x6 x7:Nat,t=.agg #[.int .u64 x0,.int .u64 x1,.int .u64 x2,.int .u64 x3,.int .u64 x4,.int .u64 x5,.int .u64 x6,.int .u64 x7]∧Hi x0 x1 x2 x3 x4 x5 x6 x7∧Hid (pH x0 x1 x2 x3 x4 x5 x6 x7=A)
def FreshZ (wr u:World) (t:Value):Prop:=∃p,t=.pointer (some ⟨p,0,none⟩)∧wr.heap.size≤p∧p<u.heap.size∧RowIs u p 8 (fun _=>0)
theorem FreshZ.grow {wr u u':World} {t:Value} (h:FreshZ wr u t) (hb:Below u.heap.size u u'):FreshZ wr u' t:=by
 obtain⟨p,e,h1,h2,r⟩:=h;exact⟨p,e,h1,Nat.lt_of_lt_of_le h2 hb.size,r.below hb h2⟩
theorem fresh_new (wr u:World) (hs:wr.heap.size≤u.heap.size) (t:TypeId):FreshZ wr (u.alloc (.cells #[.int .u64 0,.int .u64 0,.int .u64 0,.int .u64 0,.int .u64 0,.int .u64 0,.int .u64 0,.int .u64 0] t)) (.pointer (some ⟨u.heap.size,0,none⟩)) :=
 ⟨_,rfl,hs,by simp,by
  intro k hk;refine⟨?_,World.frozen?_alloc_new _ _ _ _⟩;rw[World.cell?_alloc_new]
  match k,hk with
  | 0,_|1,_|2,_|3,_|4,_|5,_|6,_|7,_=>rfl⟩
theorem below_alloc (u:World) (o:Obj):Below u.heap.size u (u.alloc o):=(Below.refl _ _).alloc (Nat.le_refl _) o
theorem fresh_ne {wr u:World} {t:Value} (h:FreshZ wr u t):t ≠ .pointer (some ⟨u.heap.size,0,none⟩):=by
 obtain⟨p,rfl,_,h2,_⟩:=h;intro e;injection e with e;injection e with e;injection e with e;omega
def set8 (w:World) (b:Nat) (d0 d1 d2 d3 d4 d5 d6 d7:Nat):World :=
 (((((((w.setCell ⟨b,0,none⟩ (.int .u64 d0)).setCell ⟨b,1,none⟩ (.int .u64 d1)).setCell ⟨b,2,none⟩ (.int .u64 d2)).setCell ⟨b,3,none⟩ (.int .u64 d3)).setCell ⟨b,4,none⟩ (.int .u64 d4)).setCell ⟨b,5,none⟩ (.int .u64 d5)).setCell ⟨b,6,none⟩ (.int .u64 d6)).setCell ⟨b,7,none⟩ (.int .u64 d7)
theorem RowIs.ext {w:World} {b n:Nat} {P R:Nat→Nat} (h:RowIs w b n P) (e:∀k,k<n→P k=R k):RowIs w b n R:=fun k hk=>⟨by rw[←e k hk]; exact h.cell hk,h.free hk⟩
theorem RowIs.set8 {w:World} {b:Nat} {P:Nat→Nat} (h:RowIs w b 8 P) (d0 d1 d2 d3 d4 d5 d6 d7:Nat):RowIs (Go.Proofs.YtpjlhhpjpnacmaaGreatDoor.set8 w b d0 d1 d2 d3 d4 d5 d6 d7) b 8 (fH [d0,d1,d2,d3,d4,d5,d6,d7]):=by
 have r:=(((((((h.set (show 0<8 by omega) (v:=d0)).set (show 1<8 by omega) (v:=d1)).set (show 2<8 by omega) (v:=d2)).set (show 3<8 by omega) (v:=d3)).set (show 4<8 by omega) (v:=d4)).set (show 5<8 by omega) (v:=d5)).set (show 6<8 by omega) (v:=d6)).set (show 7<8 by omega) (v:=d7);unfold Go.Proofs.YtpjlhhpjpnacmaaGreatDoor.set8;refine r.ext fun k hk => ?_
 match k,hk with
 | 0,_|1,_|2,_|3,_|4,_|5,_|6,_|7,_=>rfl
theorem RowIs.set8_other {w:World} {b c n:Nat} {P:Nat→Nat} (h:RowIs w b n P) (hc:c≠b) (d0 d1 d2 d3 d4 d5 d6 d7:Nat):RowIs (Go.Proofs.YtpjlhhpjpnacmaaGreatDoor.set8 w c d0 d1 d2 d3 d4 d5 d6 d7) b n P :=
 (((((((h.other hc _).other hc _).other hc _).other hc _).other hc _).other hc _).other hc _).other hc _
theorem below_set8 {B:Nat} {w w':World} {b:Nat} (h:Below B w w') (hb:B≤b) (d0 d1 d2 d3 d4 d5 d6 d7:Nat):Below B w (set8 w' b d0 d1 d2 d3 d4 d5 d6 d7) :=
 (((((((h.setCell (p:=⟨b,0,none⟩) hb _).setCell (p:=⟨b,1,none⟩) hb _).setCell (p:=⟨b,2,none⟩) hb _).setCell (p:=⟨b,3,none⟩) hb _).setCell (p:=⟨b,4,none⟩) hb _).setCell (p:=⟨b,5,none⟩) hb _).setCell (p:=⟨b,6,none⟩) hb _).setCell (p:=⟨b,7,none⟩) hb _
theorem size_set8 (w:World) (b d0 d1 d2 d3 d4 d5 d6 d7:Nat):(set8 w b d0 d1 d2 d3 d4 d5 d6 d7).heap.size=w.heap.size:=by
 unfold set8; simp only[World.size_setCell]
theorem fnOf8_lt {x0 x1 x2 x3 x4 x5 x6 x7:Nat} (h:Hi x0 x1 x2 x3 x4 x5 x6 x7) (k:Nat):fH [x0,x1,x2,x3,x4,x5,x6,x7] k<4294967296:=by
 obtain⟨h0,h1,h2,h3,h4,h5,h6,h7⟩:=h;unfold fH
 match k with
 | 0=>exact h0
 | 1=>exact h1
 | 2=>exact h2
 | 3=>exact h3
 | 4=>exact h4
 | 5=>exact h5
 | 6=>exact h6
 | 7=>exact h7
 | k+8=>simp
theorem val8_tot (P:Nat→Nat):pH (P 0) (P 1) (P 2) (P 3) (P 4) (P 5) (P 6) (P 7)=fE 4294967296 P 8:=by
 unfold pH;simp only[fE];omega
structure R3 (got:Nat→Bool) (wr:World) (f:Int) (F:FC) (a0 a1 a2 a3 b0 b1 b2 b3:Nat) (t7 t8 t9 s21 s22 s23 s24 s25 s26 s27:Value) (u:World):Prop where
 below:Below wr.heap.size wr u
 g0:got 0=true→s21=.agg #[.int .u64 a0,.int .u64 a1,.int .u64 a2,.int .u64 a3]
 g1:got 1=true→HalfV (aC a0 a1 a2 a3) s22
 g2:got 2=true→s23=.agg #[.int .u64 b0,.int .u64 b1,.int .u64 b2,.int .u64 b3]
 g3:got 3=true→HalfV (aC b0 b1 b2 b3) s24
 g4:got 4=true→s25=.int .i64 f
 g5:got 5=true→s26=.agg #[.int .u64 F.m0,.int .u64 F.m1,.int .u64 F.m2,.int .u64 F.m3]
 g6:got 6=true→HalfV F.M s27
 g7:got 7=true→FreshZ wr u t7
 g8:got 8=true→FreshZ wr u t8
 g9:got 9=true→FreshZ wr u t9
 n78:got 7=true→got 8=true→t7≠t8
 n79:got 7=true→got 9=true→t7≠t9
 n89:got 8=true→got 9=true→t8≠t9
section
variable {got:Nat→Bool} {wr u u':World} {f:Int} {F:FC} {a0 a1 a2 a3 b0 b1 b2 b3:Nat} {t7 t8 t9 s21 s22 s23 s24 s25 s26 s27:Value}
end
section
variable {w wr:World} {p q r t:Nat} {X Y Z P:Nat→Nat}
end
end Go.Proofs.YtpjlhhpjpnacmaaGreatDoor
namespace Go.Proofs.YtpjlhhpjpnacmaaGreatDoor.Ex
open Go.Proofs.Tryz
open Go.RowKit
def LW (w:World) (v:Value) (N:Nat) (f:Nat→Nat):Prop:=∃p m,v=.slice p N m∧(∀j,j<N→f j<aG)∧(0<N→∃b o,p=some ⟨b,o,none⟩∧b<w.heap.size∧w.rangeAt b o (aA (cJ (el f) 0 N)))
def aHg (N:Nat) (f:Nat→Nat) (M:Nat) (g:Nat→Nat):Prop:=N=M∧∀j,j<N→f j=g j
instance (N:Nat) (f:Nat→Nat) (M:Nat) (g:Nat→Nat):Decidable (aHg N f M g):=@instDecidableAnd _ _ _ (Nat.decidableBallLT N fun j _=>f j=g j)
theorem Holds.soSl {nt base:Nat} {w0:World} {A:List Fact} {a:Act} {w:World} (h:Holds nt base w0 A a w) {s k n e sz:Nat} {l:List At} (h1:Fact.slot s (.so k n)∈A) (h2:Fact.row k true l∈A) (h3:Fact.app k e sz n∈A):∃cap,n≤cap∧Holds nt base w0 (.slot s (.sl k 0 n cap)::A) a w:=by
 obtain⟨β,g1,g2,g3⟩:=h.facts;have e1:=g1 _ h1;obtain⟨_,_,e2,_⟩:=g1 _ h2;obtain⟨_,_,e3,_⟩:=g1 _ h3;have up:∀k1 o1 l1,Fact.row k1 o1 l1∈(Fact.slot s (.sl k 0 n (β k).2.2)::A)→Fact.row k1 o1 l1∈A:=fun k1 o1 l1 e=>by
  rcases List.mem_cons.1 e with e|e
  ·cases e
  ·exact e
 refine⟨(β k).2.2,e3,h.defers,h.size,h.below,h.heap,β,fun φ hφ => ?_,fun k1 k2 o2 l1 l2 q1 q2=>g2 k1 k2 o2 l1 l2 (up _ _ _ q1) (up _ _ _ q2),fun k1 l1 e=>g3.1 k1 l1 (up _ _ _ e),g3.2⟩
 rcases List.mem_cons.1 hφ with rfl|hφ
 ·exact e1
 ·exact g1 φ hφ
end Go.Proofs.YtpjlhhpjpnacmaaGreatDoor.Ex
namespace Go.Proofs.YtpjlhhpjpnacmaaGreatDoor
open Go.Proofs.Tryz
theorem Kr:eI 967:=aY 967 31 (by decide) (by decide) (by kernel_rfl)
theorem ZT:eI 4139:=aY 4139 64 (by decide) (by decide) (by kernel_rfl)
theorem Kz:eI 349:=aY 349 18 (by decide) (by decide) (by kernel_rfl)
theorem TT:eI 43189:=aY 43189 207 (by decide) (by decide) (by kernel_rfl)
theorem ZY:eI 2837:=aY 2837 53 (by decide) (by decide) (by kernel_rfl)
theorem GD:Root 295049 3:=by
 refine bO (l:=[2,2,2,13,2837]) (by kernel_rfl) fun q hq => ?_
 simp only[List.mem_cons,List.not_mem_nil,or_false]at hq
 rcases hq with rfl|rfl|rfl|rfl|rfl
 ·exact bD
 ·exact bD
 ·exact bD
 ·exact wR
 ·exact ZY
theorem MK:eI 295049:=GD.prm
theorem tK:Root 25485742523 2:=by
 refine bO (l:=[2,43189,295049]) (by kernel_rfl) fun q hq => ?_
 simp only[List.mem_cons,List.not_mem_nil,or_false]at hq
 rcases hq with rfl|rfl|rfl
 ·exact bD
 ·exact TT
 ·exact MK
theorem vE:eI 25485742523:=tK.prm
theorem lL:Root 202795150404015601 7:=by
 refine bO (l:=[2,2,2,2,3,5,5,19,349,25485742523]) (by kernel_rfl) fun q hq => ?_
 simp only[List.mem_cons,List.not_mem_nil,or_false]at hq
 rcases hq with rfl|rfl|rfl|rfl|rfl|rfl|rfl|rfl|rfl|rfl
 ·exact bD
 ·exact bD
 ·exact bD
 ·exact bD
 ·exact fU
 ·exact jN
 ·exact jN
 ·exact tN
 ·exact Kz
 ·exact vE
theorem mM:eI 202795150404015601:=lL.prm
theorem kE:Root 431548080059745198929 3:=by
 refine bO (l:=[2,2,2,2,7,19,202795150404015601]) (by kernel_rfl) fun q hq => ?_
 simp only[List.mem_cons,List.not_mem_nil,or_false]at hq
 rcases hq with rfl|rfl|rfl|rfl|rfl|rfl|rfl
 ·exact bD
 ·exact bD
 ·exact bD
 ·exact bD
 ·exact wQ
 ·exact tN
 ·exact mM
theorem kL:eI 431548080059745198929:=kE.prm
theorem iJ:Root 32151195060611136810608359 3:=by
 refine bO (l:=[2,3,3,4139,431548080059745198929]) (by kernel_rfl) fun q hq => ?_
 simp only[List.mem_cons,List.not_mem_nil,or_false]at hq
 rcases hq with rfl|rfl|rfl|rfl|rfl
 ·exact bD
 ·exact fU
 ·exact fU
 ·exact ZT
 ·exact kL
theorem iR:eI 32151195060611136810608359:=iJ.prm
theorem ZR:eI 6323:=aY 6323 79 (by decide) (by decide) (by kernel_rfl)
theorem Lc:eI 257:=aY 257 16 (by decide) (by decide) (by kernel_rfl)
theorem GB:Root 336157 2:=by
 refine bO (l:=[2,2,3,109,257]) (by kernel_rfl) fun q hq => ?_
 simp only[List.mem_cons,List.not_mem_nil,or_false]at hq
 rcases hq with rfl|rfl|rfl|rfl|rfl
 ·exact bD
 ·exact bD
 ·exact fU
 ·exact QQ
 ·exact Lc
theorem MH:eI 336157:=GB.prm
theorem TX:eI 33409:=aY 33409 182 (by decide) (by decide) (by kernel_rfl)
theorem Wt:eI 23:=aY 23 4 (by decide) (by decide) (by kernel_rfl)
theorem Kw:eI 521:=aY 521 22 (by decide) (by decide) (by kernel_rfl)
theorem TY:eI 27743:=aY 27743 166 (by decide) (by decide) (by kernel_rfl)
theorem Le:eI 139:=aY 139 11 (by decide) (by decide) (by kernel_rfl)
theorem GF:Root 128437 5:=by
 refine bO (l:=[2,2,3,7,11,139]) (by kernel_rfl) fun q hq => ?_
 simp only[List.mem_cons,List.not_mem_nil,or_false]at hq
 rcases hq with rfl|rfl|rfl|rfl|rfl|rfl
 ·exact bD
 ·exact bD
 ·exact fU
 ·exact wQ
 ·exact tO
 ·exact Le
theorem MN:eI 128437:=GF.prm
theorem GA:Root 513749 2:=by
 refine bO (l:=[2,2,128437]) (by kernel_rfl) fun q hq => ?_
 simp only[List.mem_cons,List.not_mem_nil,or_false]at hq
 rcases hq with rfl|rfl|rfl
 ·exact bD
 ·exact bD
 ·exact MN
theorem MG:eI 513749:=GA.prm
theorem Ab:eI 1061:=aY 1061 32 (by decide) (by decide) (by kernel_rfl)
theorem zA:Root 10206821 2:=by
 refine bO (l:=[2,2,5,13,37,1061]) (by kernel_rfl) fun q hq => ?_
 simp only[List.mem_cons,List.not_mem_nil,or_false]at hq
 rcases hq with rfl|rfl|rfl|rfl|rfl|rfl
 ·exact bD
 ·exact bD
 ·exact jN
 ·exact wR
 ·exact ZU
 ·exact Ab
theorem CP:eI 10206821:=zA.prm
theorem yZ:Root 81654569 3:=by
 refine bO (l:=[2,2,2,10206821]) (by kernel_rfl) fun q hq => ?_
 simp only[List.mem_cons,List.not_mem_nil,or_false]at hq
 rcases hq with rfl|rfl|rfl|rfl
 ·exact bD
 ·exact bD
 ·exact bD
 ·exact CP
theorem CO:eI 81654569:=yZ.prm
theorem jJ:Root 27892051421815855583579 2:=by
 refine bO (l:=[2,23,521,27743,513749,81654569]) (by kernel_rfl) fun q hq => ?_
 simp only[List.mem_cons,List.not_mem_nil,or_false]at hq
 rcases hq with rfl|rfl|rfl|rfl|rfl|rfl
 ·exact bD
 ·exact Wt
 ·exact Kw
 ·exact TY
 ·exact MG
 ·exact CO
theorem jP:eI 27892051421815855583579:=jJ.prm
theorem gZ:Root 1863691091902891838383581623 5:=by
 refine bO (l:=[2,33409,27892051421815855583579]) (by kernel_rfl) fun q hq => ?_
 simp only[List.mem_cons,List.not_mem_nil,or_false]at hq
 rcases hq with rfl|rfl|rfl
 ·exact bD
 ·exact TX
 ·exact jP
theorem iD:eI 1863691091902891838383581623:=gZ.prm
theorem eJ:Root 178259130663561045147472537592047227885001 14:=by
 refine bO (l:=[2,2,2,3,3,5,5,5,5,6323,336157,1863691091902891838383581623]) (by kernel_rfl) fun q hq => ?_
 simp only[List.mem_cons,List.not_mem_nil,or_false]at hq
 rcases hq with rfl|rfl|rfl|rfl|rfl|rfl|rfl|rfl|rfl|rfl|rfl|rfl
 ·exact bD
 ·exact bD
 ·exact bD
 ·exact fU
 ·exact fU
 ·exact jN
 ·exact jN
 ·exact jN
 ·exact jN
 ·exact ZR
 ·exact MH
 ·exact iD
theorem eT:eI 178259130663561045147472537592047227885001:=eJ.prm
theorem cK:Root 2736030358979909402780800718157159386076813972158567259200215660948447373041 31:=by
 refine bO (l:=[2,2,2,2,3,5,11,11,17,967,32151195060611136810608359,178259130663561045147472537592047227885001]) (by kernel_rfl) fun q hq => ?_
 simp only[List.mem_cons,List.not_mem_nil,or_false]at hq
 rcases hq with rfl|rfl|rfl|rfl|rfl|rfl|rfl|rfl|rfl|rfl|rfl|rfl
 ·exact bD
 ·exact bD
 ·exact bD
 ·exact bD
 ·exact fU
 ·exact jN
 ·exact tO
 ·exact tO
 ·exact ZZ
 ·exact Kr
 ·exact iR
 ·exact eT
theorem cL:eI 2736030358979909402780800718157159386076813972158567259200215660948447373041:=cK.prm
end Go.Proofs.YtpjlhhpjpnacmaaGreatDoor
namespace Go.Proofs.YtpjlhhpjpnacmaaGreatDoor.Ex
open Go.Proofs.Tryz
open Go.RowKit
namespace AG
variable {G:Type} (A:AG G)
end AG
def l4:Nat:=10944121435919637611123202872628637544307255888634269036800862643793789492164
theorem Et (y:Fin RM):KR.sub aR (KR.mul dR (KR.mul y y))≠KR.zero:=fun h=>by
 have h1:aR=KR.mul dR (KR.mul y y):=FG h;have hs:KR.mul Jr Jr=aR:=of_decide_eq_true (by kernel_rfl)
 by_cases hy:y=KR.zero
 ·rw[hy,KR.zero_mul,KR.mul_zero]at h1;exact absurd (congrArg Fin.val h1) (by decide)
 ·have hi:=fdR.inv _ hy;generalize UH y=k at hi;refine dns (KR.mul Jr k) ?_;have e:KR.mul (KR.mul Jr k) (KR.mul Jr k)=KR.mul (KR.mul Jr Jr) (KR.mul k k):=bU KR (dX KR [Jr,k]) (Z0*Z1*(Z0*Z1)) (Z0*Z0*(Z1*Z1)) (by kernel_rfl);have e2:KR.mul (KR.mul dR (KR.mul y y)) (KR.mul k k)=KR.mul dR (KR.mul (KR.mul y k) (KR.mul y k)):=bU KR (dX KR [dR,y,k]) (Z0*(Z1*Z1)*(Z2*Z2)) (Z0*(Z1*Z2*(Z1*Z2))) (by kernel_rfl);rw[e,hs,h1,e2,hi,KR.one_mul,KR.mul_one]
open Go.RowKit
theorem jS {U:Nat} (hU:U<RM):dT RM U=true↔2*U<RM:=by
 have ho:RM%2=1:=by decide
 unfold dT;rw[decide_eq_true_iff]
 rcases Nat.eq_zero_or_pos U with h|h
 ·subst h;exact⟨fun _=>eE,fun _=>Nat.zero_le _⟩
 ·rw[Nat.mod_eq_of_lt (by omega)];omega
theorem Bx {U V:Nat} (hU:U<RM) (hV:V<RM) (lU:dT RM U=true) (lV:dT RM V=true) (e:U*U%RM=V*V%RM):U=V:=by
 have l1:=(jS hU).1 lU;have l2:=(jS hV).1 lV
 rcases YS rrt MA hU hV e with h|h
 ·exact h
 ·omega
def Yx (d:Bool) (V:Nat):gE
 | [.v (.im (.int .i64 2)),.v (.fl l)]=>match qZ l with
  | some x=>bif d then some ([x<RM,V<RM,bI V V=x,dT RM V=true],.many [.fl [.q V],.im (.int .i64 0)])else some ([x<RM,CZ RM x = -1],.many [.fl [.q 0],.im (.int .i64 23)])
  | none=>none
 | _=>none
theorem aJY (d:Bool) (V:Nat):∀cs pre r,Yx d V cs=some (pre,r)→bC pre→∀(args:List Value) (w:World),cP w cs args→bG prog 103 r args w:=by
 intro cs pre r hg hp args w ha;unfold Yx at hg;split at hg
 ·rename_i l;split at hg
  ·rename_i x hx
   match args,ha with
   | [t,v],ha =>
    have h1:t=.int .i64 2:=ha.1;have h2:v=.agg (aA l).toArray:=ha.2.1;rw[dP l x hx]at h2;subst h1; subst h2;cases d
    ·cases hg;obtain⟨hxr,hleg,_⟩:=hp;unfold CZ at hleg
     by_cases hz:x=0
     ·rw[if_pos hz]at hleg; omega
     ·rw[if_neg hz]at hleg;refine (JE 2 _ qQ _ _ _ _ (eN x) (by rw[pR hxr]; exact hxr) (by rw[pR hxr]; exact hz) (by
       rw[pR hxr];intro q;rw[if_pos q]at hleg; omega) w).mono ?_
      rintro e w' ⟨s0,s1,s2,s3,rfl,hs,hv,hb⟩
      obtain⟨rfl,rfl,rfl,rfl⟩:=gY hs (fT eE) hv;exact⟨rfl,hb⟩
    ·cases hg;obtain⟨hxr,hV,hVV,hl,_⟩:=hp;have hVV:V*V%RM=x:=hVV
     by_cases hz:x=0
     ·have hv0:V=0:=by
       by_cases h:V=0
       ·exact h
       ·have:=mul_ne rrt MA (Nat.pos_of_ne_zero h) hV (Nat.pos_of_ne_zero h) hV;omega
      refine (UU 2 _ qQ _ _ _ _ (eN x) (by rw[pR hxr]; exact hxr) (by rw[pR hxr]; exact hz) w).mono ?_
      rintro e w' ⟨s0,s1,s2,s3,rfl,hs,hv,hb⟩
      obtain⟨rfl,rfl,rfl,rfl⟩:=gY hs (fT eE) hv;rw[hv0];exact⟨rfl,hb⟩
     ·have hv0:V≠0:=fun q=>hz (by rw[←hVV,q]; rfl)
      refine (DM 2 _ qQ _ _ _ _ (eN x) (by rw[pR hxr]; exact hxr) (by rw[pR hxr]; exact hz) (by
       rw[pR hxr,←hVV];exact Ca rrt (by decide) (Nat.pos_of_ne_zero hv0) hV) w).mono ?_
      rintro e w' ⟨U,⟨s0,s1,s2,s3,rfl,hs,hv,hb⟩,k1,k2,k3⟩
      rw[pR hxr]at k1;have e1:U=V:=Bx k2 hV k3 hl (k1.trans hVV.symm);rw[e1]at hv;obtain⟨rfl,rfl,rfl,rfl⟩:=gY hs (fT hV) hv;exact⟨rfl,hb⟩
   | [],ha=>exact ha.elim
   | [_],ha=>exact ha.2.elim
   | _::_::_::_,ha=>exact ha.2.2.elim
  ·cases hg
 ·cases hg
def Gr (d:Bool) (V:Nat):Tab:=nJ.add 103 (Yx d V)
theorem QV (d:Bool) (V:Nat):TabOk prog (Gr d V):=jB.ad func103 (aJY d V)
def mV (y:Nat):Nat:=iC 168700 (bI 168696 (bI y y))
def uL (y:Nat):Nat:=CL (iC 1 (bI y y)) (mV y)
theorem aIs (y V:Nat) (h:Bool):cH prog (qG prog) (fun _=>⟨fun _=>Gr false V,fun _=>true,fun _=>none⟩) f70 60 [.v (.fl [.q y]),.v (.im (.bool h))]=some ([y<RM,1<18446744073709551616,1<RM,bI y y<RM,168700<18446744073709551616,bI y y<RM,168700<RM,bI 168696 (bI y y)<RM,iC 1 (bI y y)<RM,mV y<RM,mV y≠0,uL y<RM,CZ RM (uL y) = -1],.many [.fl vU,.im (.int .i64 41)]):=by kernel_rfl
theorem aIv (y V:Nat):cH prog (qG prog) (fun _=>⟨fun _=>Gr true V,fun _=>true,fun _=>none⟩) f70 60 [.v (.fl [.q y]),.v (.im (.bool true))]=some ([y<RM,1<18446744073709551616,1<RM,bI y y<RM,168700<18446744073709551616,bI y y<RM,168700<RM,bI 168696 (bI y y)<RM,iC 1 (bI y y)<RM,mV y<RM,mV y≠0,uL y<RM,V<RM,bI V V=uL y,dT RM V=true,aA [At.q V]=aA [At.f ⟨0,dB⟩]],.many [.fl vU,.im (.int .i64 44)]):=by kernel_rfl
theorem aIu (y V:Nat):cH prog (qG prog) (fun _=>⟨fun _=>Gr true V,fun _=>false,fun _=>none⟩) f70 60 [.v (.fl [.q y]),.v (.im (.bool true))]=some ([y<RM,1<18446744073709551616,1<RM,bI y y<RM,168700<18446744073709551616,bI y y<RM,168700<RM,bI 168696 (bI y y)<RM,iC 1 (bI y y)<RM,mV y<RM,mV y≠0,uL y<RM,V<RM,bI V V=uL y,dT RM V=true,aA [At.q V]≠aA [At.f ⟨0,dB⟩],V<RM],.many [.fl [.q (iC 0 V),.q y],.im (.int .i64 0)]):=by kernel_rfl
theorem aIt (y V:Nat):cH prog (qG prog) (fun _=>⟨fun _=>Gr true V,fun _=>true,fun _=>none⟩) f70 60 [.v (.fl [.q y]),.v (.im (.bool false))]=some ([y<RM,1<18446744073709551616,1<RM,bI y y<RM,168700<18446744073709551616,bI y y<RM,168700<RM,bI 168696 (bI y y)<RM,iC 1 (bI y y)<RM,mV y<RM,mV y≠0,uL y<RM,V<RM,bI V V=uL y,dT RM V=true],.many [.fl [.q V,.q y],.im (.int .i64 0)]):=by kernel_rfl
theorem yB {y:Nat} (hy:y<RM):mV y≠0:=fun h=>by
 have e:fK (mV y)=KR.sub aR (KR.mul dR (KR.mul (fK y) (fK y))):=by
  unfold mV;rw[fC _ (aL _ _),dY,dY];rfl
 rw[h]at e;exact Et (fK y) e.symm
def PZ (y V:Nat) (h:Bool):RV:=bif h then (if V=0 then gP (0,0) 44 else gP (iC 0 V,y) 0)else gP (V,y) 0
def gWy (d:Bool) (V:Nat):gE
 | [.v (.fl l),.v (.im (.bool h))]=>match qZ l with
  | some y=>bif d then some ([y<RM,V<RM,bI V V=uL y,dT RM V=true],PZ y V h)else some ([y<RM,CZ RM (uL y) = -1],gP (0,0) 41)
  | none=>none
 | _=>none
theorem aFq (d:Bool) (V:Nat):∀cs pre r,gWy d V cs=some (pre,r)→bC pre→∀(args:List Value) (w:World),cP w cs args→bG prog 70 r args w:=by
 intro cs pre r hg hp args w ha;unfold gWy at hg;split at hg
 ·rename_i l h;split at hg
  ·rename_i y hy;have ha':cP w [.v (.fl [.q y]),.v (.im (.bool h))] args:=by
    match args,ha with
    | [v,u],ha =>
     refine⟨?_,ha.2.1,trivial⟩;show v=.agg (aA (q1 y)).toArray;rw[←dP l y hy]; exact ha.1
    | [],ha=>exact ha.elim
    | [_],ha=>exact ha.2.elim
    | _::_::_::_,ha=>exact ha.2.2.elim
   cases d
   ·cases hg;obtain⟨hy,hl,_⟩:=hp;exact aK aI (fun _ _=>QV _ _) (aV _) func70 (aIs y V h) ⟨hy,by decide,eR,aL _ _,by decide,aL _ _,by decide,aL _ _,cS _ _,cS _ _,yB hy,kY _ _,hl,trivial⟩ ha'
   ·cases hg;obtain⟨hy,hV,hVV,hl,_⟩:=hp;unfold PZ;cases h
    ·exact aK aI (fun _ _=>QV _ _) (aV _) func70 (aIt y V) ⟨hy,by decide,eR,aL _ _,by decide,aL _ _,by decide,aL _ _,cS _ _,cS _ _,yB hy,kY _ _,hV,hVV,hl,trivial⟩ ha'
    ·by_cases hz:V=0
     ·rw[if_pos hz];exact aK aI (fun _ _=>QV _ _) (aV _) func70 (aIv y V) ⟨hy,by decide,eR,aL _ _,by decide,aL _ _,by decide,aL _ _,cS _ _,cS _ _,yB hy,kY _ _,hV,hVV,hl,by rw[hz]; rfl,trivial⟩ ha'
     ·rw[if_neg hz];exact aK aI (fun _ _=>QV _ _) (aV _) func70 (aIu y V) ⟨hy,by decide,eR,aL _ _,by decide,aL _ _,by decide,aL _ _,cS _ _,cS _ _,yB hy,kY _ _,hV,hVV,hl,fun e=>hz (flq hV eE e),hV,trivial⟩ ha'
  ·cases hg
 ·cases hg
def Zj (g:Nat→Nat) (d:Bool):gE
 | [.v (.im (.int .i64 2)),.s l n m]=>bif d then some ([n=32,aA l=aA (bj g),∀k,g k<256,Go.Proofs.YtpjlhhpjpnacmaaGreatDoor.jD g 0 32<RM],.many [.fl [.q (Go.Proofs.YtpjlhhpjpnacmaaGreatDoor.jD g 0 32)],.im (.int .i64 0)])else some ([n=32,aA l=aA (bj g),∀k,g k<256,¬Go.Proofs.YtpjlhhpjpnacmaaGreatDoor.jD g 0 32<RM],.many [.fl [.q 0],.im (.int .i64 21)])
 | _=>none
theorem yN {w:World} {b o:Nat} {g:Nat→Nat} (h:w.rangeAt b o (aA (bj g))):∀k,k<32→w.cell? ⟨b,o+k,none⟩=some (.int .u8 (g k:Nat)):=fun k hk=>h k _ (pF g k hk)
theorem aFz (g:Nat→Nat) (d:Bool):∀cs pre r,Zj g d cs=some (pre,r)→bC pre→∀(args:List Value) (w:World),cP w cs args→bG prog 101 r args w:=by
 intro cs pre r hg hp args w ha;unfold Zj at hg;split at hg
 ·rename_i l n m
  match args,ha with
  | [v,u],ha =>
   have e1:v=.int .i64 2:=ha.1;obtain⟨b,o,e2,hb,hr⟩:=ha.2.1;subst e1; subst e2;cases d
   ·cases hg;obtain⟨rfl,he,hlt,hn,_⟩:=hp;rw[he]at hr;refine (UW 2 _ qQ _ _ hn w (zS w b o m g hlt hb (yN hr))).mono ?_
    rintro e w' ⟨s0,s1,s2,s3,rfl,hs,hv,hbl⟩
    obtain⟨rfl,rfl,rfl,rfl⟩:=gY hs (fT eE) hv;exact⟨rfl,hbl⟩
   ·cases hg;obtain⟨rfl,he,hlt,hn,_⟩:=hp;rw[he]at hr;refine (Dn 2 _ qQ _ _ hn w (zS w b o m g hlt hb (yN hr))).mono ?_
    rintro e w' ⟨s0,s1,s2,s3,rfl,hs,hv,hbl⟩
    obtain⟨rfl,rfl,rfl,rfl⟩:=gY hs (fT hn) hv;exact⟨rfl,hbl⟩
  | [],ha=>exact ha.elim
  | [_],ha=>exact ha.2.elim
  | _::_::_::_,ha=>exact ha.2.2.elim
 ·cases hg
def Tv (g:Nat→Nat) (d:Bool):Tab:=T0.add 101 (Zj g d)
theorem Ar (g:Nat→Nat) (d:Bool):TabOk prog (Tv g d):=(bP _).ad func101 (aFz g d)
def YD (g:Nat→Nat) (d:Bool) (num:Nat→Option Value) (_:Nat):Cfg:=⟨fun _=>Tv g d,fun _=>true,num⟩
def CL3 (f:Nat→Nat):Tab3:=SS.add 100 (gCl f)
theorem aBw (f:Nat→Nat):FsOk prog (CL3 f):=(Hc _).ad func100 (Zo f)
def xTk (f g:Nat→Nat):Ext:={ Ext.none with ky:=assoc [(25,18)],T2:=WR,T3:=CL3 f,T4:=XB,T5:=kX,T6:=B6 g }
theorem XK (f g:Nat→Nat) (w:World):bQ prog (qY prog (xTk f g)) w.heap.size w:=Si (Hd _) (fun _ _ _ h=>h.elim) (aBw f) (EK _) (jL _) (Uc g)
def jE (f:Nat→Nat):Nat→Nat:=fun k=>bif Nat.beq k 31 then f 31%128 else f k
def vP (f:Nat→Nat):Bool:=decide (128≤f 31)
def yJ (f:Nat→Nat):Nat:=Go.Proofs.YtpjlhhpjpnacmaaGreatDoor.jD (gC (jE f)) 0 32
def fF:Code:=(f69.body).getD .skip
def tkZ:List At:=[.f ⟨0,dB⟩]
def Vi (f:Nat→Nat) (m:Nat):List Fact:=[.slot 0 (.sl 0 0 32 m),.row 0 false (bj f),.slot 2 (.pt 2 0),.row 2 true tkZ]
def tkB (f:Nat→Nat) (m:Nat) (h:Bool):List Fact:=Vi f m++[.slot 5 (.im (.bool h))]
def tkC (f:Nat→Nat) (m:Nat) (h:Bool):List Fact:=tkB f m h++[.slot 6 (.so 18 32),.row 18 true (bj f),.app 18 5 1 32]
def Ry (f:Nat→Nat) (m:Nat) (h:Bool) (cap:Nat) (g:Nat→Nat):List Fact:=[.slot 2 (.pt 2 0),.row 2 true tkZ,.slot 5 (.im (.bool h)),.slot 6 (.sl 18 0 32 cap),.row 18 true (bj g)]
def tkE (h:Bool) (y:Nat) (e:Int):List Fact:=[.slot 2 (.pt 2 0),.row 2 true tkZ,.slot 5 (.im (.bool h)),.slot 7 (.pt 7 0),.row 7 true [.q y],.slot 8 (.im (.int .i64 e))]
def tkF (h:Bool) (y:Nat) (e:Int):List Fact:=[.slot 2 (.pt 2 0),.row 2 true [.q y],.slot 3 (.im (.bool h)),.slot 4 (.im (.int .i64 e))]
theorem Ip:fF=.seq (cA fF) (.seq (cA (cB fF)) (.seq (cA (cB (cB fF))) (.seq (cA (cB (cB (cB fF)))) (.seq (cA (cB (cB (cB (cB fF))))) (.seq (cA (cB (cB (cB (cB (cB fF)))))) (.seq (cA (cB (cB (cB (cB (cB (cB fF))))))) ((cB (cB (cB (cB (cB (cB (cB fF)))))))))))))):=by kernel_rfl
theorem aCy (g f:Nat→Nat) (d:Bool) (m:Nat):aX prog (qG prog) f69.ntmps (YD g d (fun _=>none)) 60 (cA fF) (fJ 0 [.s (bj f) 32 m]) (Vi f m)=some ([],.nrm,(Vi f m)):=by kernel_rfl
theorem aCx (g f:Nat→Nat) (d:Bool) (m:Nat):aX prog (qG prog) f69.ntmps (YD g d (fun _=>none)) 60 (cA (cB fF)) (Vi f m) (Vi f m)=some ([],.nrm,(Vi f m)):=by kernel_rfl
theorem aCw (g f:Nat→Nat) (d h:Bool) (m:Nat):aX prog (qG prog) f69.ntmps (YD g d (assoc [(16,.bool h)])) 60 (cA (cB (cB fF))) (Vi f m) (tkB f m h)=some ([aN .geq .u8 (Int.ofNat (f 31)) 128=some (.bool h)],.nrm,(tkB f m h)):=by kernel_rfl
theorem aCv (g f:Nat→Nat) (d h:Bool) (m:Nat):aX prog (qY prog (xTk f g)) f69.ntmps (YD g d (fun _=>none)) 60 (cA (cB (cB (cB fF)))) (tkB f m h) (tkC f m h)=some ([32=32,aA (bj f)=aA (bj f)],.nrm,(tkC f m h)):=by kernel_rfl
theorem aCu (g f:Nat→Nat) (d h:Bool) (m cap:Nat):aX prog (qG prog) f69.ntmps (YD g d (assoc [(22,.int .u8 (Int.ofNat (f 31%128)))])) 60 (cA (cB (cB (cB (cB fF))))) (.slot 6 (.sl 18 0 32 cap)::tkC f m h) (Ry f m h cap (jE f))=some ([aN .rem .u8 (Int.ofNat (f 31)) 128=some (.int .u8 (Int.ofNat (f 31%128)))],.nrm,(Ry f m h cap (jE f))):=by kernel_rfl
theorem aCt (g f:Nat→Nat) (d h:Bool) (m cap b:Nat):aX prog (qY prog (xTk f g)) f69.ntmps (YD g d (fun _=>none)) 60 (cA (cB (cB (cB (cB (cB fF)))))) (.at 18 b::Ry f m h cap g) (Ry f m h cap (gC g))=some ([0=0,32=32,aA (bj g)=aA (bj g)],.nrm,(Ry f m h cap (gC g))):=by kernel_rfl
theorem Vg (g f:Nat→Nat) (h:Bool) (m cap:Nat):aX prog (qG prog) f69.ntmps (YD g true (fun _=>none)) 60 (cA (cB (cB (cB (cB (cB (cB fF))))))) (Ry f m h cap g) (tkE h (Go.Proofs.YtpjlhhpjpnacmaaGreatDoor.jD g 0 32) 0)=some ([32=32,aA (bj g)=aA (bj g),∀k,g k<256,Go.Proofs.YtpjlhhpjpnacmaaGreatDoor.jD g 0 32<RM],.nrm,(tkE h (Go.Proofs.YtpjlhhpjpnacmaaGreatDoor.jD g 0 32) 0)):=by kernel_rfl
theorem Vh (g f:Nat→Nat) (h:Bool) (m cap:Nat):aX prog (qG prog) f69.ntmps (YD g false (fun _=>none)) 60 (cA (cB (cB (cB (cB (cB (cB fF))))))) (Ry f m h cap g) (tkE h 0 21)=some ([32=32,aA (bj g)=aA (bj g),∀k,g k<256,¬Go.Proofs.YtpjlhhpjpnacmaaGreatDoor.jD g 0 32<RM],.nrm,(tkE h 0 21)):=by kernel_rfl
theorem Rw (g:Nat→Nat) (d h:Bool) (y:Nat) (e:Int):aX prog (qG prog) f69.ntmps (YD g d (fun _=>none)) 60 (cB (cB (cB (cB (cB (cB (cB fF))))))) (tkE h y e) (tkF h y e)=some ([],.rt,(tkF h y e)):=by kernel_rfl
theorem YB (p:Option Addr) (n m:Nat):cH prog (qG prog) (fun _=>⟨fun _=>T0,fun _=>true,assoc [(11,.bool true)]⟩) f69 60 [.v (.im (.slice p n m))]=some ([aN .neq .i64 (Int.ofNat n) 32=some (.bool true)],.many [.fl tkZ,.im (.bool false),.im (.int .i64 3)]):=by kernel_rfl
theorem Uv {a:Nat}:aN .geq .u8 (Int.ofNat a) 128=some (.bool (decide (128≤a))):=by
 show some (Value.bool (decide (Int.ofNat a≥128)))=_;congr 2;exact decide_eq_decide.2 (by show (128:Int)≤(a:Int)↔_; omega)
theorem Uu {a:Nat}:aN .rem .u8 (Int.ofNat a) 128=some (.int .u8 (Int.ofNat (a%128))):=by
 show (if (128:Int)=0 then none else some (Value.int .u8 ((Int.ofNat a).tmod 128)))=_;rw[if_neg (by decide)];rfl
theorem OT {f:Nat→Nat} (h:∀k,f k<256) (k:Nat):gC (jE f) k<256:=by
 unfold gC jE;cases Nat.beq (31-k) 31
 ·exact h _
 ·exact Nat.lt_of_le_of_lt (Nat.mod_le _ _) (h 31)
def tkR (f:Nat→Nat) (d:Bool):RV:=bif d then .many [.fl [.q (yJ f)],.im (.bool (vP f)),.im (.int .i64 0)]else .many [.fl [.q 0],.im (.bool (vP f)),.im (.int .i64 21)]
theorem YC (f:Nat→Nat) (m:Nat) (hf:∀k,f k<256) (d:Bool) (hd:bif d then yJ f<RM else ¬yJ f<RM) (args:List Value) (w:World) (ha:cP w [.s (bj f) 32 m] args):bG prog 69 (tkR f d) args w:=by
 have hG:bQ prog (qG prog) w.heap.size w:=(aV _).w _ _;have hT:∀num (n x:Nat),TabOkW prog ((YD (gC (jE f)) d num n).T x) w.heap.size w:=fun _ _ _=>(Ar _ d).w _ _
 refine cM func69 (c:=fF) rfl ha (Nat.le_of_ble_eq_true (by kernel_rfl)) fun a w' hA => ?_
 rw[Ip];refine wp_seq (aB aI (hT _) hG (aCy (gC (jE f)) f d m) trivial hA fun a w' hA => ?_);refine wp_seq (aB aI (hT _) hG (aCx (gC (jE f)) f d m) trivial hA fun a w' hA => ?_);refine wp_seq (aB aI (hT _) hG (aCw (gC (jE f)) f d (vP f) m) ⟨Uv,trivial⟩ hA fun a w' hA => ?_);have hT':∀g num (n x:Nat),TabOkW prog ((YD g d num n).T x) w.heap.size w:=fun g _ _ _=>(Ar g d).w _ _
 refine wp_seq (aB aI (hT' (jE f) _) (XK f (jE f) w) (aCv (jE f) f d (vP f) m) ⟨rfl,rfl,trivial⟩ hA fun a w' hA => ?_);obtain⟨cap,hcap,hA⟩:=hA.soSl (s:=6) (k:=18) (n:=32) (e:=5) (sz:=1) (l:=bj f) (by simp[tkC]) (by simp[tkC]) (by simp[tkC]);refine wp_seq (aB aI (hT _) hG (aCu (gC (jE f)) f d (vP f) m cap) ⟨Uu,trivial⟩ hA fun a w' hA => ?_);obtain⟨b,hA⟩:=hA.at (k:=18) (l:=bj (jE f)) (by simp[Ry]);refine wp_seq (aB aI (hT' (jE f) _) (XK f (jE f) w) (aCt (jE f) f d (vP f) m cap b) ⟨rfl,rfl,rfl,trivial⟩ hA fun a w' hA => ?_);cases d
 ·refine wp_seq (aB aI (hT _) hG (Vh (gC (jE f)) f (vP f) m cap) ⟨rfl,rfl,OT hf,hd,trivial⟩ hA fun a w' hA => ?_);exact aB aI (hT _) hG (Rw (gC (jE f)) false (vP f) 0 21) trivial hA fun a w' hA=>lZ (l:=[.fl [.q 0],.im (.bool (vP f)),.im (.int .i64 21)]) (r:=tkR f false) (by kernel_rfl) (by kernel_rfl) hA
 ·refine wp_seq (aB aI (hT _) hG (Vg (gC (jE f)) f (vP f) m cap) ⟨rfl,rfl,OT hf,hd,trivial⟩ hA fun a w' hA => ?_);exact aB aI (hT _) hG (Rw (gC (jE f)) true (vP f) (Go.Proofs.YtpjlhhpjpnacmaaGreatDoor.jD (gC (jE f)) 0 32) 0) trivial hA fun a w' hA=>lZ (l:=[.fl [.q (yJ f)],.im (.bool (vP f)),.im (.int .i64 0)]) (r:=tkR f true) (by kernel_rfl) (by kernel_rfl) hA
def Yw (f:Nat→Nat) (d:Bool):gE
 | [.s l n m]=>some ([n=32,aA l=aA (bj f),∀k,f k<256,(bif d then yJ f<RM else ¬yJ f<RM)],tkR f d)
 | [.v (.im (.slice p n m))]=>some ([aN .neq .i64 (Int.ofNat n) 32=some (.bool true)],.many [.fl tkZ,.im (.bool false),.im (.int .i64 3)])
 | _=>none
theorem aJW (f:Nat→Nat) (d:Bool):∀cs pre r,Yw f d cs=some (pre,r)→bC pre→∀(args:List Value) (w:World),cP w cs args→bG prog 69 r args w:=by
 intro cs pre r hg hp args w ha;unfold Yw at hg;split at hg
 ·rename_i l n m;cases hg;obtain⟨rfl,he,hf,hd,_⟩:=hp;exact YC f m hf d hd args w (Tn he ha)
 ·rename_i p n m;cases hg;exact aK aI (fun _ _=>bP _) (aV _) func69 (YB p n m) hp ha
 ·cases hg
def Ys (d:Bool) (V:Nat) (P:NP) (e:Int):gE
 | [.v (.fl l),.v (.im (.bool h))]=>match qZ l with
  | some y=>bif d then some ([y<RM,V<RM,bI V V=uL y,dT RM V=true,PZ y V h=gP P e],gP P e)else some ([y<RM,CZ RM (uL y) = -1],gP (0,0) 41)
  | none=>none
 | _=>none
theorem aFp (d:Bool) (V:Nat) (P:NP) (e:Int):∀cs pre r,Ys d V P e cs=some (pre,r)→bC pre→∀(args:List Value) (w:World),cP w cs args→bG prog 70 r args w:=by
 intro cs pre r hg hp args w ha;unfold Ys at hg;split at hg
 ·rename_i l h;split at hg
  ·rename_i y hy;cases d
   ·cases hg;exact aFq false V [.v (.fl l),.v (.im (.bool h))] _ _ (by simp only[gWy,hy]; rfl) hp args w ha
   ·cases hg;obtain⟨h1,h2,h3,h4,h5,_⟩:=hp;have:=aFq true V [.v (.fl l),.v (.im (.bool h))] [y<RM,V<RM,bI V V=uL y,dT RM V=true] (PZ y V h) (by simp only[gWy,hy]; rfl) ⟨h1,h2,h3,h4,trivial⟩ args w ha;rw[h5]at this;exact this
  ·cases hg
 ·cases hg
def BG (f:Nat→Nat) (t d:Bool) (V:Nat) (P:NP) (e k:Int):Tab:=((T0.add 69 (Yw f t)).add 70 (Ys d V P e)).add 41 (Dm k)
theorem xE (f:Nat→Nat) (t d:Bool) (V:Nat) (P:NP) (e k:Int):TabOk prog (BG f t d V P e k):=(((bP _).ad func69 (aJW f t)).ad func70 (aFp d V P e)).ad func41 (vQ mX k)
theorem aIP (f:Nat→Nat) (m:Nat):cH prog (qG prog) (fun _=>⟨fun _=>BG f false true 0 (0,0) 0 0,fun _=>true,fun _=>none⟩) f38 60 [.s (bj f) 32 m]=some ([32=32,aA (bj f)=aA (bj f),∀k,f k<256,¬yJ f<RM],.many [.fl vU,.im (.int .i64 21)]):=by kernel_rfl
theorem aIM (f:Nat→Nat) (m:Nat):cH prog (qG prog) (fun _=>⟨fun _=>BG f true false 0 (0,0) 0 0,fun _=>true,fun _=>none⟩) f38 60 [.s (bj f) 32 m]=some ([32=32,aA (bj f)=aA (bj f),∀k,f k<256,yJ f<RM,yJ f<RM,CZ RM (uL (yJ f)) = -1],.many [.fl vU,.im (.int .i64 41)]):=by kernel_rfl
theorem aIO (f:Nat→Nat) (m V:Nat) (P:NP):cH prog (qG prog) (fun _=>⟨fun _=>BG f true true V P 44 0,fun _=>true,fun _=>none⟩) f38 60 [.s (bj f) 32 m]=some ([32=32,aA (bj f)=aA (bj f),∀k,f k<256,yJ f<RM,yJ f<RM,V<RM,bI V V=uL (yJ f),dT RM V=true,PZ (yJ f) V (vP f)=gP P 44],.many [.fl vU,.im (.int .i64 44)]):=by kernel_rfl
theorem aIN (f:Nat→Nat) (m V:Nat) (P:NP) (k:Int):cH prog (qG prog) (fun _=>⟨fun _=>BG f true true V P 0 k,fun _=>true,assoc [(32,.bool true)]⟩) f38 60 [.s (bj f) 32 m]=some ([32=32,aA (bj f)=aA (bj f),∀k,f k<256,yJ f<RM,yJ f<RM,V<RM,bI V V=uL (yJ f),dT RM V=true,PZ (yJ f) V (vP f)=gP P 0,P.1<aG,P.2<aG,gM P=k,aN .neq .i64 k 0=some (.bool true)],.many [.fl vU,.im (.int .i64 k)]):=by kernel_rfl
theorem aIL (f:Nat→Nat) (m V:Nat) (P:NP):cH prog (qG prog) (fun _=>⟨fun _=>BG f true true V P 0 0,fun _=>true,fun _=>none⟩) f38 60 [.s (bj f) 32 m]=some ([32=32,aA (bj f)=aA (bj f),∀k,f k<256,yJ f<RM,yJ f<RM,V<RM,bI V V=uL (yJ f),dT RM V=true,PZ (yJ f) V (vP f)=gP P 0,P.1<aG,P.2<aG,gM P=0],gP P 0):=by kernel_rfl
def Hr (f:Nat→Nat) (R:RV):Prop:=∀m args w,cP w [.s (bj f) 32 m] args→bG prog 38 R args w
theorem aIW {f:Nat→Nat} (hf:∀k,f k<256) (hy:¬yJ f<RM):Hr f (gP (0,0) 21):=fun m args w ha =>
 aK aI (fun _ _=>xE _ _ _ _ _ _ _) (aV _) func38 (aIP f m) ⟨rfl,rfl,hf,hy,trivial⟩ ha
theorem aIT {f:Nat→Nat} (hf:∀k,f k<256) (hy:yJ f<RM) (hl:CZ RM (uL (yJ f)) = -1):Hr f (gP (0,0) 41):=fun m args w ha =>
 aK aI (fun _ _=>xE _ _ _ _ _ _ _) (aV _) func38 (aIM f m) ⟨rfl,rfl,hf,hy,hy,hl,trivial⟩ ha
theorem aIV {f:Nat→Nat} {V:Nat} {P:NP} (hf:∀k,f k<256) (hy:yJ f<RM) (hV:V<RM) (hVV:bI V V=uL (yJ f)) (hl:dT RM V=true) (hw:PZ (yJ f) V (vP f)=gP P 44):Hr f (gP (0,0) 44):=fun m args w ha =>
 aK aI (fun _ _=>xE _ _ _ _ _ _ _) (aV _) func38 (aIO f m V P) ⟨rfl,rfl,hf,hy,hy,hV,hVV,hl,hw,trivial⟩ ha
theorem aIU {f:Nat→Nat} {V:Nat} {P:NP} {k:Int} (hf:∀k,f k<256) (hy:yJ f<RM) (hV:V<RM) (hVV:bI V V=uL (yJ f)) (hl:dT RM V=true) (hw:PZ (yJ f) V (vP f)=gP P 0) (hP:w2 P) (hk:gM P=k) (h0:k≠0):Hr f (gP (0,0) k):=fun m args w ha =>
 aK aI (fun _ _=>xE _ _ _ _ _ _ _) (aV _) func38 (aIN f m V P k) ⟨rfl,rfl,hf,hy,hy,hV,hVV,hl,hw,hP.1,hP.2,hk,by
  show some (Value.bool (k != 0))=_;rw[bne_iff_ne.2 h0],trivial⟩ ha
theorem aCY {f:Nat→Nat} {V:Nat} {P:NP} (hf:∀k,f k<256) (hy:yJ f<RM) (hV:V<RM) (hVV:bI V V=uL (yJ f)) (hl:dT RM V=true) (hw:PZ (yJ f) V (vP f)=gP P 0) (hP:w2 P) (hk:gM P=0):Hr f (gP P 0):=fun m args w ha =>
 aK aI (fun _ _=>xE _ _ _ _ _ _ _) (aV _) func38 (aIL f m V P) ⟨rfl,rfl,hf,hy,hy,hV,hVV,hl,hw,hP.1,hP.2,hk,trivial⟩ ha
theorem UG {M g:Nat} (hr:Root M g) (h2:2<M) (ho:M%2=1) {a:Nat} (h0:0<a) (h:a<M) (hl:a^(M/2)%M=1):∃V,V<M∧V*V%M=a:=by
 obtain⟨k,hk,e⟩:=hr.2.2.2 a h0 h;obtain⟨j,hj|hj⟩:∃j,k=2*j∨k=2*j+1:=⟨k/2,by omega⟩
 ·refine⟨g^j%M,Nat.mod_lt _ (by omega),?_⟩;rw[←Nat.mul_mod,←Nat.pow_add,←Nat.two_mul,←hj,e]
 ·exfalso;have hm:M/2+M/2=M-1:=by omega
  have e1:a^(M/2)%M=g^(k*(M/2))%M:=by
   rw[←e,Nat.pow_mul,Nat.pow_mod (g^k%M),Nat.mod_mod,←Nat.pow_mod]
  have e2:k*(M/2)=(M-1)*j+M/2:=by
   rw[hj,←hm,Nat.add_mul,Nat.one_mul,Nat.add_mul,Nat.mul_assoc,Nat.mul_comm j (M/2)];omega
  rw[e1,e2,Nat.pow_add,Nat.mul_mod,Nat.pow_mul,Nat.pow_mod (g^(M-1)),hr.2.1,Nat.one_pow,Nat.mod_eq_of_lt hr.1,Nat.one_mul,Nat.mod_mod]at hl;exact hr.2.2.1 (M/2) (by omega) (by omega) hl
theorem MB:RM%2=1:=by decide
theorem QK {V:Nat} (hV:V<RM):bI (iC 0 V) (iC 0 V)=bI V V:=by
 have h:fK (bI (iC 0 V) (iC 0 V))=fK (bI V V):=by
  rw[dY,dY,fC 0 hV];exact bU KR (dX KR [fK V]) ((RE.zero-Z0)*(RE.zero-Z0)) (Z0*Z0) (by kernel_rfl)
 exact vK (aL _ _) (aL _ _) h
theorem FW {V:Nat} (hV:V<RM) (h0:V≠0):iC 0 V=RM-V:=by
 unfold iC;rw[Nat.zero_add,Nat.mod_eq_of_lt (by omega)]
theorem AE:dT RM 0=true:=(jS eE).2 (by decide)
theorem Ki {x:Nat} (hx:x<RM):CZ RM x = -1∨∃V,V<RM∧bI V V=x∧dT RM V=true:=by
 by_cases h0:x=0
 ·exact Or.inr ⟨0,eE,by rw[h0]; rfl,AE⟩
 ·by_cases h1:x^(RM/2)%RM=1
  ·obtain⟨V,hV,hVV⟩:=UG rrt (by decide) MB (Nat.pos_of_ne_zero h0) hx h1;have hVV:bI V V=x:=hVV;have hv0:V≠0:=fun q=>h0 (by rw[←hVV,q]; rfl)
   cases hl:dT RM V
   ·refine Or.inr ⟨iC 0 V,cS _ _,by rw[QK hV,hVV],?_⟩;rw[FW hV hv0];have h2:¬ 2*V<RM:=fun q=>by rw[(jS hV).2 q]at hl; cases hl
    have ho:=MB;exact (jS (by omega)).2 (by omega)
   ·exact Or.inr ⟨V,hV,hVV,hl⟩
  ·refine Or.inl ?_;unfold CZ;rw[if_neg h0,if_neg h1]
theorem aDx {x y:Nat} (h:OnJ x y):bI x x=uL y:=by
 have e:=Aq h.2;have hd:=yB h.1.2;have e1:fK (mV y)=KR.sub aR (KR.mul dR (KR.mul (fK y) (fK y))):=by
  unfold mV;rw[fC _ (aL _ _),dY,dY];rfl
 have e2:fK (uL y)=KR.mul (KR.sub KR.one (KR.mul (fK y) (fK y))) (UH (fK (mV y))):=by
  have e3:uL y=bI (iC 1 (bI y y)) (CL 1 (mV y)):=by
   show iC 1 (bI y y)*mV y^(RM-2)%RM=iC 1 (bI y y)*(1*mV y^(RM-2)%RM)%RM;rw[Nat.one_mul,Nat.mul_mod_mod]
  rw[e3,dY,LB (show mV y<RM from cS _ _),fC _ (aL _ _),dY,QE]
 refine vK (aL _ _) (kY _ _) ?_;rw[dY,e2];have e0:KR.add (KR.mul aR (KR.mul (fK x) (fK x))) (KR.mul (fK y) (fK y))=KR.add KR.one (KR.mul dR (KR.mul (KR.mul (fK x) (fK x)) (KR.mul (fK y) (fK y)))):=e;have hi:=fdR.inv _ (Et (fK y));rw[e1];generalize UH (KR.sub aR (KR.mul dR (KR.mul (fK y) (fK y))))=k at hi ⊢;generalize KR.mul (fK x) (fK x)=u at e0 ⊢;generalize KR.mul (fK y) (fK y)=w at e0 hi ⊢;exact yD (K:=KR) (c1:=k) (c2:=(KR.neg u)) e0 hi (bU KR (dX KR [u,w,k,aR,dR]) (Z0-(RE.one-Z1)*Z2) (Z2*(Z3*Z0+Z1-(RE.one+Z4*(Z0*Z1)))+(-Z0)*((Z3-Z4*Z1)*Z2-RE.one)) (by kernel_rfl))
theorem Hy {x y:Nat} (h:OnJ x y):∃V,V<RM∧bI V V=uL y∧dT RM V=true∧PZ y V (!dT RM x)=gP (x,y) 0:=by
 have hs:=aDx h;cases hl:dT RM x
 ·have hx0:x≠0:=fun q=>by rw[q,AE]at hl; cases hl
  have hx:=h.1.1;have h2:¬ 2*x<RM:=fun q=>by rw[(jS hx).2 q]at hl; cases hl
  have ho:=MB;refine⟨iC 0 x,cS _ _,by rw[QK hx,hs],?_,?_⟩
  ·rw[FW hx hx0];exact (jS (by omega)).2 (by omega)
  ·show (if iC 0 x=0 then gP (0,0) 44 else gP (iC 0 (iC 0 x),y) 0)=_;rw[FW hx hx0,if_neg (show ¬RM-x=0 by omega),FW (show RM-x<RM by omega) (show RM-x≠0 by omega),show RM-(RM-x)=x by omega]
 ·exact⟨x,h.1.1,hs,hl,rfl⟩
theorem JA {B C:Nat→Nat} (hB:∀k,B k<256) (hC:∀k,C k<256):∀n,Go.Proofs.YtpjlhhpjpnacmaaGreatDoor.jD B 0 n=Go.Proofs.YtpjlhhpjpnacmaaGreatDoor.jD C 0 n→∀k,k<n→B k=C k
 | 0,_,k,hk=>by omega
 | n+1,e,k,hk=>by
  have e:Go.Proofs.YtpjlhhpjpnacmaaGreatDoor.jD B 0 n*256+B (0+n)=Go.Proofs.YtpjlhhpjpnacmaaGreatDoor.jD C 0 n*256+C (0+n):=e;rw[Nat.zero_add]at e;have h1:=hB n;have h2:=hC n
  by_cases q:k=n
  ·subst q; omega
  ·exact JA hB hC n (by omega) k (by omega)
theorem JC {B C:Nat→Nat}:∀n,(∀k,k<n→B k=C k)→Go.Proofs.YtpjlhhpjpnacmaaGreatDoor.jD B 0 n=Go.Proofs.YtpjlhhpjpnacmaaGreatDoor.jD C 0 n
 | 0,_=>rfl
 | n+1,h=>by
  show Go.Proofs.YtpjlhhpjpnacmaaGreatDoor.jD B 0 n*256+B (0+n)=Go.Proofs.YtpjlhhpjpnacmaaGreatDoor.jD C 0 n*256+C (0+n);rw[JC n (fun k hk=>h k (by omega)),Nat.zero_add,h n (by omega)]
theorem aEy {B:Nat→Nat} (hB:∀k,B k<256):Go.Proofs.YtpjlhhpjpnacmaaGreatDoor.jD B 0 32<aG:=by
 have:=uC hB 0 32;exact Nat.lt_of_lt_of_eq this (by decide)
theorem uY {B:Nat→Nat} (hB:∀k,B k<256) (k:Nat) (hk:k<32):bF (Go.Proofs.YtpjlhhpjpnacmaaGreatDoor.jD B 0 32) k=B k :=
 JA (fun k=>jZ _ k) hB 32 (sO (aEy hB)) k hk
theorem vJ {y:Nat} (hy:y<RM):bF y 0<128:=by
 unfold bF;have h:y/256^(31-0)<128:=by
  rw[Nat.div_lt_iff_lt_mul (by decide)];exact Nat.lt_trans hy (by decide)
 rw[Nat.mod_eq_of_lt (by omega)];exact h
theorem Sl:∀b,b<128→b ||| 128=b+128:=by decide
theorem Qm (p:NP) (hy:p.2<RM) (k:Nat):iT p k<256:=by
 unfold iT;cases dT RM p.1
 ·show GZ (gC (bF p.2)) k<256;unfold GZ;cases Nat.beq k 31
  ·exact jZ _ _
  ·show bF p.2 0 ||| 128<256
   have:=vJ hy;rw[Sl _ this];omega
 ·exact jZ _ _
theorem vT (p:NP) (hy:p.2<RM):iT p 31=bif dT RM p.1 then bF p.2 0 else bF p.2 0+128:=by
 unfold iT;cases dT RM p.1
 ·show bF p.2 0 ||| 128=_
  rw[Sl _ (vJ hy)];rfl
 ·rfl
theorem PB (p:NP) {k:Nat} (hk:k≠31):iT p k=bF p.2 (31-k):=by
 unfold iT;cases dT RM p.1
 ·show GZ (gC (bF p.2)) k=_;unfold GZ;rw[show Nat.beq k 31=false from Bool.eq_false_iff.2 fun q=>hk (Nat.eq_of_beq_eq_true q)];rfl
 ·rfl
theorem Yn (p:NP) (hy:p.2<RM):vP (iT p) = !dT RM p.1:=by
 unfold vP;rw[vT p hy];have:=vJ hy;cases dT RM p.1
 ·exact decide_eq_true (by show 128≤bF p.2 0+128; omega)
 ·exact decide_eq_false (by show ¬ 128≤bF p.2 0; omega)
theorem XJ (p:NP) (hy:p.2<RM):yJ (iT p)=p.2:=by
 have e:yJ (iT p)=Go.Proofs.YtpjlhhpjpnacmaaGreatDoor.jD (bF p.2) 0 32:=by
  unfold yJ;refine JC 32 fun k hk => ?_
  unfold gC jE
  by_cases h:k=0
  ·subst h;show iT p 31%128=bF p.2 0;rw[vT p hy];have:=vJ hy;cases dT RM p.1
   ·show (bF p.2 0+128)%128=_; omega
   ·show bF p.2 0%128=_; omega
  ·rw[show Nat.beq (31-k) 31=false from Bool.eq_false_iff.2 fun q=>by have:=Nat.eq_of_beq_eq_true q; omega];show iT p (31-k)=_;rw[PB p (by omega),show 31-(31-k)=k by omega]
 rw[e,sO (fT hy)]
theorem DQ {p q:NP} {a b:Int} (h:gP p a=gP q b):p=q∧a=b:=by
 unfold gP at h;simp only[RV.many.injEq,List.cons.injEq,TV.fl.injEq,At.q.injEq,TV.im.injEq,Value.int.injEq,true_and,and_true]at h;exact⟨Prod.ext h.1.1 h.1.2,h.2⟩
theorem aAO {f:Nat→Nat} (hf:∀k,f k<256) (hy:yJ f<RM) {V:Nat} {P:NP} (hV:V<RM) (hl:dT RM V=true) (hw:PZ (yJ f) V (vP f)=gP P 0):∀k,k<32→iT P k=f k:=by
 have hby:∀k,k<32→bF (yJ f) k=gC (jE f) k:=uY (OT hf)
 have h31:=hf 31;intro k hk;have h2:=(jS hV).1 hl;cases hh:vP f
 ·rw[hh]at hw;obtain⟨rfl,_⟩:=DQ (show gP (V,yJ f) 0=gP P 0 from hw);have hlt:f 31<128:=by
   have:=of_decide_eq_false hh;omega
  by_cases q:k=31
  ·subst q;rw[vT _ hy,hl];show bF (yJ f) 0=_;rw[hby 0 (by decide)];show f 31%128=f 31;omega
  ·rw[PB _ q,hby (31-k) (by omega)];unfold gC jE;rw[show 31-(31-k)=k by omega,show Nat.beq k 31=false from Bool.eq_false_iff.2 fun e=>q (Nat.eq_of_beq_eq_true e)];rfl
 ·rw[hh]at hw;have hge:128≤f 31:=of_decide_eq_true hh;have hw:(if V=0 then gP (0,0) 44 else gP (iC 0 V,yJ f) 0)=gP P 0:=hw
  by_cases hz:V=0
  ·rw[if_pos hz]at hw;have:=(DQ hw).2;omega
  ·rw[if_neg hz]at hw;obtain⟨rfl,_⟩:=DQ hw;have hlx:dT RM (iC 0 V)=false:=by
    rw[Bool.eq_false_iff];intro q;have:=(jS (cS 0 V)).1 q;rw[FW hV hz]at this;omega
   by_cases q:k=31
   ·subst q;rw[vT _ hy];show (bif dT RM (iC 0 V)then bF (yJ f) 0 else bF (yJ f) 0+128)=_;rw[hlx,hby 0 (by decide)];show f 31%128+128=f 31;omega
   ·rw[PB _ q,hby (31-k) (by omega)];unfold gC jE;rw[show 31-(31-k)=k by omega,show Nat.beq k 31=false from Bool.eq_false_iff.2 fun e=>q (Nat.eq_of_beq_eq_true e)];rfl
def pN (n:Nat):NP:=nZ (bX,bY) n
theorem Ak (n:Nat):pN n=cj (fB.grp.ns (wv n) (jp zL)):=CX (p:=(bX,bY)) zL n
theorem Al (n:Nat):gM (pN n)=0:=by
 rw[Ak,Pw (lD _),IX,if_pos];rw[←fB.grp.ns_mul,Nat.mul_comm,fB.grp.ns_mul,show fB.grp.ns lJ (jp zL)=fB.grp.zero from SH,fB.grp.ns_zero]
theorem sG (n:Nat):OnJ (pN n).1 (pN n).2:=by rw[Ak]; exact lD _
theorem Kp {p:NP} (hp:OnJ p.1 p.2) (hk:gM p=0):Hr (iT p) (gP p 0):=by
 obtain⟨V,hV,hVV,hl,hw⟩:=Hy hp;refine aCY (V:=V) (P:=p) (Qm p hp.1.2) ?_ hV ?_ hl ?_ hp.w hk
 ·rw[XJ p hp.1.2]; exact hp.1.2
 ·rw[XJ p hp.1.2]; exact hVV
 ·rw[XJ p hp.1.2,Yn p hp.1.2]; exact hw
theorem Wj {f:Nat→Nat} (hf:∀k,f k<256):(∃c:Int,c≠0∧Hr f (gP (0,0) c))∨∃P,Hr f (gP P 0)∧OnJ P.1 P.2∧gM P=0∧∀k,k<32→iT P k=f k:=by
 by_cases hy:yJ f<RM
 ·rcases Ki (show uL (yJ f)<RM from kY _ _)with h|⟨V,hV,hVV,hl⟩
  ·exact Or.inl ⟨41,by decide,aIT hf hy h⟩
  ·obtain⟨P,e,hw,he⟩:∃P e,PZ (yJ f) V (vP f)=gP P e∧(e=44∨(e=0∧P.1<RM∧P.2<RM)):=by
    unfold PZ;cases vP f
    ·exact⟨_,_,rfl,Or.inr ⟨rfl,hV,hy⟩⟩
    ·by_cases hz:V=0
     ·exact⟨(0,0),44,if_pos hz,Or.inl rfl⟩
     ·exact⟨(iC 0 V,yJ f),0,if_neg hz,Or.inr ⟨rfl,cS _ _,hy⟩⟩
   rcases he with rfl|⟨rfl,h1,h2⟩
   ·exact Or.inl ⟨44,by decide,aIV hf hy hV hVV hl hw⟩
   ·by_cases hk:gM P=0
    ·refine Or.inr ⟨P,aCY hf hy hV hVV hl hw ⟨fT h1,fT h2⟩ hk,?_,hk,aAO hf hy hV hl hw⟩;apply Classical.byContradiction;intro hn;rw[JY hn]at hk;exact absurd hk (by decide)
    ·exact Or.inl ⟨_,hk,aIU hf hy hV hVV hl hw ⟨fT h1,fT h2⟩ rfl hk⟩
 ·exact Or.inl ⟨21,by decide,aIW hf hy⟩
end Go.Proofs.YtpjlhhpjpnacmaaGreatDoor.Ex
namespace Go.Proofs.YtpjlhhpjpnacmaaGreatDoor
open Go.Proofs.Tryz
open Go.RowKit
def oG (c:UInt8):Bool:=decide (48≤c.toNat∧c.toNat≤57)
def RQ:List UInt8→Bool
 | []=>false
 | c::_=>decide (c.toNat≠48)
def pJ (l:List UInt8):Bool:=l.all oG&&(decide (l=[48])||RQ l)
theorem sJ {l:List UInt8} {k:Nat} (hk:k<l.length) (h:oG l[k]=false):pJ l=false:=by
 unfold pJ;have:l.all oG=false:=by
  rw[List.all_eq_false];exact⟨l[k],List.getElem_mem hk,by simp[h]⟩
 rw[this]; rfl
theorem Az {l:List UInt8} (h:∀k (hk:k<l.length),oG l[k]=true):pJ l=(decide (l=[48])||RQ l):=by
 unfold pJ;have:l.all oG=true:=by
  rw[List.all_eq_true];intro x hx;obtain⟨k,hk,rfl⟩:=List.getElem_of_mem hx;exact h k hk
 rw[this]; rfl
theorem AJ (l:List UInt8) (h:0<l.length):RQ l=decide (l[0].toNat≠48):=by
 match l,h with
 | c::t,_=>rfl
def sI (v:Nat) (c:UInt8):Nat:=v*10+(c.toNat-48)
def cY (l:List UInt8):Nat:=l.foldl sI 0
theorem Oh (l:List UInt8):∀v,v≤l.foldl sI v:=by
 induction l with
 | nil=>intro v; exact Nat.le_refl _
 | cons c t ih=>intro v; exact Nat.le_trans (by unfold sI; omega) (ih (sI v c))
theorem kR (l:List UInt8) (k:Nat):cY (l.take k)≤cY l:=by
 have h:cY l=(l.drop k).foldl sI (cY (l.take k)):=by
  unfold cY;rw[←List.foldl_append,List.take_append_drop]
 rw[h]; exact Oh _ _
theorem uS {l:List UInt8} {k:Nat} (h:k<l.length):cY (l.take (k+1))=cY (l.take k)*10+(l[k].toNat-48):=by
 rw[List.take_succ_eq_append_getElem h];unfold cY;rw[List.foldl_append];rfl
def eV (l:List UInt8):Nat×Nat :=
 if pJ l=false then (0,11)else if 78<l.length then (0,4)else if 115792089237316195423570985008687907853269984665640564039457584007913129639936≤cY l then (0,4)else (cY l,0)
theorem mN {l:List UInt8} (h:pJ l=false):eV l=(0,11):=by unfold eV; rw[if_pos h]
theorem uO {l:List UInt8} (h:pJ l=true) (h2:78<l.length):eV l=(0,4):=by unfold eV; rw[if_neg (by simp[h]),if_pos h2]
theorem wX {l:List UInt8} (h:pJ l=true) (h2:¬ 78<l.length) (h3:115792089237316195423570985008687907853269984665640564039457584007913129639936≤cY l):eV l=(0,4):=by unfold eV; rw[if_neg (by simp[h]),if_neg h2,if_pos h3]
theorem zW {l:List UInt8} (h:pJ l=true) (h2:¬ 78<l.length) (h3:cY l<115792089237316195423570985008687907853269984665640564039457584007913129639936):eV l=(cY l,0):=by unfold eV; rw[if_neg (by simp[h]),if_neg h2,if_neg (by omega)]
theorem II {l:List UInt8} (h:pJ l=true) {k:Nat} (hk:k<l.length):48≤l[k].toNat∧l[k].toNat≤57:=by
 unfold pJ at h;rw[Bool.and_eq_true]at h;have:=List.all_eq_true.1 h.1 _ (List.getElem_mem hk);unfold oG at this;exact of_decide_eq_true this
set_option maxHeartbeats 1000000 in
theorem iX (a0 a1 a2 a3:Nat) (ha:cF a0 a1 a2 a3) (w:World) :
  Calls prog 184 #[.agg #[.int .u64 a0,.int .u64 a1,.int .u64 a2,.int .u64 a3]] w (PV (aC a0 a1 a2 a3) w):=by
 obtain⟨h0,h1,d0,d1,b0,b1,e0⟩:=sS ha.1;obtain⟨h2,h3,d2,d3,b2,b3,e1⟩:=sS ha.2.1;obtain⟨h4,h5,d4,d5,b4,b5,e2⟩:=sS ha.2.2.1;obtain⟨h6,h7,d6,d7,b6,b7,e3⟩:=sS ha.2.2.2
 go_enter func184,ntmps184
 go_wp2_with fail;refine wp_loop_rounds 5 ?_;rw[rounds_succ];go_wp2_with fail;rw[rounds_succ];go_wp2_with fail;rw[rounds_succ];go_wp2_with fail;rw[rounds_succ];go_wp2_with fail;rw[rounds_succ];go_wp2_with fail;refine bodyPost_ret (v:=.agg #[.int .u64 h0,.int .u64 h1,.int .u64 h2,.int .u64 h3,.int .u64 h4,.int .u64 h5,.int .u64 h6,.int .u64 h7]) (by simp[results,results184,go_sem]) rfl ?_;refine⟨h0,h1,h2,h3,h4,h5,h6,h7,rfl,⟨b0,b1,b2,b3,b4,b5,b6,b7⟩,?_,?_⟩
 ·have:=e0.out; have:=e1.out; have:=e2.out; have:=e3.out;exact Lib.hid (by unfold aC pH; omega)
 repeat (first|exact Below.refl _ _|refine Below.drew ?_|refine Below.alloc ?_ (by first|(simp; done)|(simp; omega)) _)
end Go.Proofs.YtpjlhhpjpnacmaaGreatDoor
