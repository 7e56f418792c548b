/- Et17 -/
import Derived.Laws.BytesArg
import Derived.ProofKit
import Derived.LaidMore
import Derived.OpenShut
import Derived.Stop.Joined
import Derived.Carry
import Derived.RowKit
import Derived.ChangeSame
import Derived.JoinedOf
import Derived.JoinedAt
import Derived.Laws.IdiomArrays
import Derived.Deep.Strs
import Derived.SizedLaws
import Derived.Lib.LaidTab
import Derived.MakeChecks
import Derived.Deep.Slices
import Derived.Test.YtpjlhhpjpnacmaaGreatDoorEt16
import Derived.Test.YtpjlhhpjpnacmaaGreatDoorRows
import Derived.Test.YtpjlhhpjpnacmaaGreatDoorEt03
import Derived.Test.YtpjlhhpjpnacmaaGreatDoorEt02
import Derived.Test.YtpjlhhpjpnacmaaGreatDoorEt08
import Derived.Test.YtpjlhhpjpnacmaaGreatDoorProg
set_option maxRecDepth 100000
set_option linter.unusedVariables false
set_option linter.unusedSimpArgs false
set_option linter.unnecessarySimpa false
noncomputable section
namespace Go.Proofs.YtpjlhhpjpnacmaaGreatDoor.Ex
open Go.Proofs.Tryz
open Go.RowKit
theorem WI (w:World) {n:Nat} (h0:0<n) (hn:n≤131072) (ty:TypeId):∃C w',(Builtin.append_ #[25,3] ty #[.slice none 0 0,iI n]).run prog w=.ok (aM w.heap.size 0 n C) w'∧n≤C∧AppAt w' w.heap.size 5 1 0 C∧Below w.heap.size w w':=by
 obtain⟨ht,i,z,hi,hz,hsize,hby,hzs,hsz⟩:=jG Ie;have hu:prog.underlying 3=some (.int .i64):=by kernel_rfl
 have hn0:n≠0:=by omega
 have h48:¬(281474976710656<Builtin.nextslicecap n 0*i.bytes):=by rw[nextslicecap_zero h0,hby]; omega
 have hw:IntKind.i64.wrap (n:Int)=n:=by rw[IntKind.wrap_i64]; omega
 have hlt:¬((n:Int)<0):=by omega
 have h2:¬(281474976710656<(n:Int)*(i.bytes:Int)):=by rw[hby]; omega
 have h63:¬(9223372036854775807<(n:Int)):=by omega
 refine⟨grownCap w n 0 5,w.drew.alloc (.cells (Builtin.zeroCells z.cells n++Builtin.zeroCells z.cells (grownCap w n 0 5-n)) 5),?_,grownCap_ge _ _ _ _,?_,(Below.refl _ w).drew.alloc (Nat.le_refl _) _⟩
 ·simp[Builtin.append_,run_underlying ht,run_underlying hu,sizeOf,typeInfo,zeroValue,hi,hz,asInt,asIntOf,iI,hw,hlt,h2,hn0,h63,h48,Question.forced,Builtin.firstCells,newRow,grownCap,aM,hsize]
 ·refine⟨_,by have:=World.alloc_heap_new w.drew (.cells (Builtin.zeroCells z.cells n++Builtin.zeroCells z.cells (grownCap w n 0 5-n)) 5); exact this,Nat.zero_le _,grownCap_le_maxLen _ _ _ _ (by unfold maxLen; omega),?_⟩;have:=grownCap_ge w n 0 5;rw[Array.size_append,size_zeroCells,size_zeroCells,hzs,←Nat.add_mul,show n+(grownCap w n 0 5-n)=grownCap w n 0 5 by omega]
noncomputable abbrev aEJ:Func:=f68
def gO:Code:=(f68.body).getD .skip
def Dc:Code:=cA (cB (cB gO))
def AK:Code:=cA Dc
def Sy:Code:=cA (cB Dc)
def sQ:Code:=BA (cB (cB Dc))
theorem UQ:gO=.seq (cA gO) (.seq (cA (cB gO)) (.seq (.seq (.region 3 (aE AK) false) (.seq Sy (.cond (.tmp 16) (.region 5 (aE sQ) false) .skip))) (cB (cB (cB gO))))):=by kernel_rfl
theorem Nc:aEJ.ntmps=27:=by kernel_rfl
def cV:Value:=.slice none 0 0
theorem Nb (n:Nat):aX prog (qG prog) 27 (fun _=>tC T0 fun _=>none) 60 (cA gO) (fJ 0 [.v (.im cV),.v (.im (iI n))]) [.slot 0 (.im cV),.slot 1 (.im (iI n))]=some ([],.nrm,[.slot 0 (.im cV),.slot 1 (.im (iI n))]):=by kernel_rfl
theorem Na (n:Nat):aX prog (qG prog) 27 (fun _=>tC T0 (assoc [(6,.bool false)])) 60 (cA (cB gO)) [.slot 0 (.im cV),.slot 1 (.im (iI n))] [.slot 0 (.im cV),.slot 1 (.im (iI n))]=some ([aN .lss .i64 (Int.ofNat n) 0=some (.bool false)],.nrm,[.slot 0 (.im cV),.slot 1 (.im (iI n))]):=by kernel_rfl
theorem Ni (n:Nat):cX prog (qG prog) 27 (tC T0 fun _=>none) ((aE AK).extract 0 2) [.slot 0 (.im cV),.slot 1 (.im (iI n))] [.slot 8 (.im (iI n)),.slot 9 (.im cV),.slot 0 (.im cV)]=some ([],[.slot 8 (.im (iI n)),.slot 9 (.im cV),.slot 0 (.im cV)]):=by kernel_rfl
theorem Nh (n:Nat):cX prog (qG prog) 27 (tC T0 (assoc [(13,iI 0),(14,iI n)])) ((aE AK).extract 3 8) [.slot 10 (.im (iI 0)),.slot 8 (.im (iI n)),.slot 0 (.im cV)] [.slot 0 (.im cV),.slot 1 (.im (iI n))]=some ([aN .sub .i64 (Int.ofNat 0) (Int.ofNat 0)=some (iI 0),aN .sub .i64 (Int.ofNat n) (Int.ofNat 0)=some (iI n)],[.slot 0 (.im cV),.slot 1 (.im (iI n))]):=by kernel_rfl
theorem Yr (n:Nat):aX prog (qG prog) 27 (fun _=>tC T0 (assoc [(16,.bool true)])) 60 Sy [.slot 0 (.im cV),.slot 1 (.im (iI n))] [.slot 16 (.im (.bool true)),.slot 0 (.im cV),.slot 1 (.im (iI n))]=some ([aN .gtr .i64 (Int.ofNat n) 0=some (.bool true)],.nrm,[.slot 16 (.im (.bool true)),.slot 0 (.im cV),.slot 1 (.im (iI n))]):=by kernel_rfl
theorem Ng (n:Nat):cX prog (qG prog) 27 (tC T0 fun _=>none) ((aE sQ).extract 0 2) [.slot 0 (.im cV),.slot 1 (.im (iI n))] [.slot 17 (.im cV),.slot 18 (.im cV),.slot 0 (.im cV),.slot 1 (.im (iI n))]=some ([],[.slot 17 (.im cV),.slot 18 (.im cV),.slot 0 (.im cV),.slot 1 (.im (iI n))]):=by kernel_rfl
theorem Nf (n:Nat):cX prog (qG prog) 27 (tC T0 fun _=>none) ((aE sQ).extract 3 5) [.slot 19 (.im (iI 0)),.slot 17 (.im cV),.slot 0 (.im cV),.slot 1 (.im (iI n))] [.slot 20 (.im cV),.slot 21 (.im (iI n)),.slot 0 (.im cV)]=some ([0≤0],[.slot 20 (.im cV),.slot 21 (.im (iI n)),.slot 0 (.im cV)]):=by kernel_rfl
theorem Nd (b n C:Nat):cX prog (qG prog) 27 (tC T0 fun _=>none) ((aE sQ).extract 6 10) [.slot 22 (.im (aM b 0 n C)),.slot 0 (.im cV)] [.slot 0 (.im (aM b 0 0 C))]=some ([0≤C],[.slot 0 (.im (aM b 0 0 C))]):=by kernel_rfl
theorem Yq (v:Value):aX prog (qG prog) 27 (fun _=>tC T0 fun _=>none) 60 (cB (cB (cB gO))) [.slot 0 (.im v)] [.slot 4 (.im v)]=some ([],.rt,[.slot 4 (.im v)]):=by kernel_rfl
theorem yL {o:Oper} {a:Act} {w:World} {s:Nat} (hop:o.op=.call ⟨.builtin .cap,#[.tmp s],#[25]⟩) (h:a.tmps[s]?=some cV):(execOp a.eval o).run prog w=.ok (.value (iI 0)) w:=by
 have hu:prog.underlying 25=some (.slice 5):=underlying25;simp[execOp,hop,resolve,invoke,builtin,cR h,cV,Builtin.cap_,iI,goInt,run_underlying hu]
theorem NU {w0:World} {n:Nat} (h0:0<n) (hn:n≤131072):Calls prog 68 [cV,iI n].toArray w0 fun e w'=>∃b C,e=.returned (aM b 0 0 C)∧n≤C∧AppAt w' b 5 1 0 C∧w0.heap.size≤b∧Below w0.heap.size w0 w':=by
 have hG:∀base w,bQ prog (qG prog) base w:=fun _ _=>(aV _).w _ _
 have hT:∀base w,∀n d:Nat,TabOkW prog T0 base w:=fun _ _ _ _=>(bP _).w _ _
 have hnt:f68.ntmps=27:=Nc;refine cM func68 (cs:=[.v (.im cV),.v (.im (iI n))]) (args:=[cV,iI n]) (c:=gO) rfl ⟨rfl,rfl,trivial⟩ (Nat.le_of_ble_eq_true (by kernel_rfl)) fun a w hA => ?_
 rw[hnt]at hA;rw[UQ];refine wp_seq (aB aI (hT _ _) (hG _ _) (Nb n) trivial hA fun a w hA => ?_);refine wp_seq (aB aI (hT _ _) (hG _ _) (Na n) ⟨dM (i:=n) (n:=0) (Nat.zero_le _),trivial⟩ hA fun a w hA => ?_);refine wp_seq (wp_seq (bK (l:=List.range' 0 ((aE AK).extract 0 2).size++(2::(List.range' 3 ((aE AK).extract 3 8).size++[]))) (by kernel_rfl) ?_));refine aJ (c:=tC T0 _) (hT _ _ 0) (hG _ _) (Ni n) trivial (by kernel_rfl) hA fun a1 w1 hA => ?_
 obtain⟨o2,ho2,hop2,hd2,hg2⟩:∃x,(aE AK)[2]?=some x∧x.op=.call ⟨.builtin .cap,#[.tmp 9],#[25]⟩∧x.dst=some 10∧x.guard=none:=⟨_,rfl,rfl,rfl,rfl⟩
 refine bE ho2 hg2 (cD (yL hop2 (hA.slot (s:=9) (by simp))) ?_);rw[hd2];have hb1:=hA.below;have hS:=aU (nt:=27) (w:=w1) (a:=a1.put (some 10) (iI 0)) (ts:=[(10,iI 0),(8,iI n),(0,cV)]) hA.defers (by rw[aH]; exact hA.size) (fun x hx=>by
  simp only[List.mem_cons,List.not_mem_nil,or_false]at hx
  rcases hx with rfl|rfl|rfl
  ·exact aT _ _ _ (by rw[hA.size]; decide)
  ·exact aQ (hA.slot (by simp)) (by simp)
  ·exact aQ (hA.slot (by simp)) (by simp))
 clear hA;refine aJ (c:=tC T0 _) (hT _ _ 0) (hG _ _) (Nh n) ⟨nV (i:=0) (k:=0) (Nat.le_refl _) (by decide),nV (i:=n) (k:=0) (Nat.zero_le _) (by omega),trivial⟩ (by kernel_rfl) hS fun a2 w2 hA => ?_
 show (Code.seq _ _).wp _ _ _ _;refine wp_seq (aB aI (hT _ _) (hG _ _) (Yr n) ⟨Sz h0,trivial⟩ hA fun a3 w3 hA => ?_);have hc:=hA.imV (s:=16) (v:=.bool true) (by simp);refine wp_cond_true hc ?_;have hb3:=hb1.trans (hA.below.mono hb1.size);have hS3:=aU (nt:=27) (w:=w3) (a:=a3) (ts:=[(0,cV),(1,iI n)]) hA.defers hA.size (fun x hx=>by
  simp only[List.mem_cons,List.not_mem_nil,or_false]at hx
  rcases hx with rfl|rfl<;>exact hA.slot (by simp))
 clear hA hS;refine bK (l:=List.range' 0 ((aE sQ).extract 0 2).size++(2::(List.range' 3 ((aE sQ).extract 3 5).size++(5::(List.range' 6 ((aE sQ).extract 6 10).size++[]))))) (by kernel_rfl) ?_;refine aJ (c:=tC T0 _) (hT _ _ 0) (hG _ _) (Ng n) trivial (by kernel_rfl) hS3 fun a4 w4 hA => ?_
 obtain⟨o5,ho5,hop5,hd5,hg5⟩:∃x,(aE sQ)[2]?=some x∧x.op=.call ⟨.builtin .cap,#[.tmp 18],#[25]⟩∧x.dst=some 19∧x.guard=none:=⟨_,rfl,rfl,rfl,rfl⟩
 refine bE ho5 hg5 (cD (yL hop5 (hA.slot (s:=18) (by simp))) ?_);rw[hd5];have hb4:=hb3.trans (hA.below.mono hb3.size);have hS4:=aU (nt:=27) (w:=w4) (a:=a4.put (some 19) (iI 0)) (ts:=[(19,iI 0),(17,cV),(0,cV),(1,iI n)]) hA.defers (by rw[aH]; exact hA.size) (fun x hx=>by
  simp only[List.mem_cons,List.not_mem_nil,or_false]at hx
  rcases hx with rfl|rfl|rfl|rfl
  ·exact aT _ _ _ (by rw[hA.size]; decide)
  ·exact aQ (hA.slot (by simp)) (by simp)
  ·exact aQ (hA.slot (by simp)) (by simp)
  ·exact aQ (hA.slot (by simp)) (by simp))
 clear hA hS3;refine aJ (c:=tC T0 _) (hT _ _ 0) (hG _ _) (Nf n) ⟨Nat.le_refl _,trivial⟩ (by kernel_rfl) hS4 fun a5 w5 hA => ?_
 obtain⟨o6,ho6,hop6,hd6,hg6⟩:∃x,(aE sQ)[5]?=some x∧x.op=.call ⟨.builtin .append,#[.tmp 20,.tmp 21],#[25,3]⟩∧x.dst=some 22∧x.guard=none:=⟨_,rfl,rfl,rfl,rfl⟩
 obtain⟨C,w6,hr,hnC,hap,hb6⟩:=WI w5 h0 hn o6.type;have hrun:(execOp a5.eval o6).run prog w5=.ok (.value (aM w5.heap.size 0 n C)) w6:=by
  have h20:=cR (hA.slot (s:=20) (v:=cV) (by simp));have h21:=cR (hA.slot (s:=21) (v:=iI n) (by simp));unfold execOp;simp only[hop6,resolve,invoke,builtin,Sem.run_bind,Sem.run_pure,Result.andThen_ok,List.map_toArray,List.map_cons,List.map_nil,h20,h21,cV,hr]
 refine bE ho6 hg6 (cD hrun ?_);rw[hd6];have hb5:=hb4.trans (hA.below.mono hb4.size);generalize hbl:w5.heap.size=bl at *;have hbl0:w0.heap.size≤bl:=by rw[←hbl]; exact hb5.size
 have hb16:Below w0.heap.size w0 w6:=hb5.trans (hb6.mono hbl0);have hS6:=aU (nt:=27) (w:=w6) (a:=a5.put (some 22) (aM bl 0 n C)) (ts:=[(22,aM bl 0 n C),(0,cV)]) hA.defers (by rw[aH]; exact hA.size) (fun x hx=>by
  simp only[List.mem_cons,List.not_mem_nil,or_false]at hx
  rcases hx with rfl|rfl
  ·exact aT _ _ _ (by rw[hA.size]; decide)
  ·exact aQ (hA.slot (by simp)) (by simp))
 clear hA hS4;refine aJ (c:=tC T0 _) (hT _ _ 0) (hG _ _) (Nd bl n C) ⟨Nat.zero_le _,trivial⟩ (by kernel_rfl) hS6 fun a7 w7 hA => ?_
 show (cB (cB (cB gO))).wp _ _ _ _;refine aB aI (hT _ _) (hG _ _) (Yq _) trivial hA fun a8 w8 hA => ?_
 exact cN (l:=[.im (aM bl 0 0 C)]) (r:=.one (.im (aM bl 0 0 C))) (by kernel_rfl) (by kernel_rfl) hA ⟨bl,C,rfl,hnC,hap.shape hA.shape,hbl0,hb16.trans (hA.below.mono hb16.size)⟩
def lN (l:List Nat):List At:=l.map fun x=>.c (.int .u8 (Int.ofNat x))
theorem ZO (a b:List Nat):lN (a++b)=lN a++lN b:=List.map_append
theorem GI (l:List Nat):(aA (lN l)).length=l.length*1:=by
 induction l with
 | nil=>rfl
 | cons x r ih =>
  show ([Value.int .u8 (Int.ofNat x)]++aA (lN r)).length=_;simp only[List.length_append,ih,List.length_cons,List.length_nil];omega
theorem ZN (l:List Nat):∀v∈aA (lN l),v.oneCell'=true:=by
 induction l with
 | nil=>intro v hv; cases hv
 | cons x r ih =>
  intro v hv;have hv:v∈[Value.int .u8 (Int.ofNat x)]++aA (lN r):=hv
  rcases List.mem_append.1 hv with h|h
  ·rw[List.mem_singleton.1 h]; rfl
  ·exact ih v h
def LQBz (w:World) (v:Value) (l:List Nat):Prop:=0<l.length∧∃b o m,v=aM b o l.length m∧b<w.heap.size∧w.rangeAt b o (aA (lN l))
theorem LQBz.below {w w':World} {v:Value} {l:List Nat} (h:LQBz w v l) (hb:Below w.heap.size w w'):LQBz w' v l:=by
 obtain⟨h0,b,o,m,rfl,h1,h2⟩:=h;exact⟨h0,b,o,m,rfl,Nat.lt_of_lt_of_le h1 hb.size,bJ hb h1 h2⟩
def aHB (w:World) (v:Value) (K:Nat) (vs:Nat→Value) (ls:Nat→List Nat):Prop:=∃b o m,v=aM b o K m∧(∀j,j<K→oldOf w b (o+j*1) [.c (vs j)])∧∀j,j<K→LQBz w (vs j) (ls j)
def cO (ls:Nat→List Nat):Nat→List Nat
 | 0=>[]
 | k+1=>cO ls k++ls k
theorem mY (ls:Nat→List Nat):∀{k n:Nat},k≤n→(cO ls k).length≤(cO ls n).length
 | k,0,h=>by rw[show k=0 by omega]; exact Nat.le_refl _
 | k,n+1,h=>by
  by_cases e:k=n+1
  ·rw[e]; exact Nat.le_refl _
  ·refine Nat.le_trans (mY ls (show k≤n by omega)) ?_;show (cO ls n).length≤(cO ls n++ls n).length;rw[List.length_append]; omega
noncomputable abbrev aGH:Func:=f36
def gQ:Code:=(f36.body).getD .skip
def Fr:Code:=cA (cB (cB gQ))
def OY:Code:=jV (jV (cB Fr))
def AY:Code:=cA (cB (cB (cB gQ)))
def OZ:Code:=cA (cB (cB (cB (cB gQ))))
def fX:Code:=jV (jV (cB OZ))
def EB:Code:=jV (cA (cB (cB fX)))
def qV:Code:=cB EB
def Fp:Code:=cB (cB (cB (cB (cB gQ))))
theorem VW:gQ=.seq (cA gQ) (.seq (cA (cB gQ)) (.seq (.seq (cA Fr) (.block 0 (.loop OY))) (.seq (.region 9 (aE AY) false) (.seq (.seq (cA OZ) (.block 2 (.loop fX))) Fp)))):=by kernel_rfl
theorem Qf:fX=.seq (cA fX) (.seq (cA (cB fX)) (.seq (.block 3 (.seq (cA EB) (.region 13 (aE qV) false))) (cB (cB (cB fX))))):=by kernel_rfl
theorem Qe:aGH.ntmps=36:=by kernel_rfl
theorem Qb (v:Value):aX prog (qG prog) 36 (fun _=>tC T0 fun _=>none) 60 (cA gQ) (fJ 0 [.v (.im v)]) [.slot 0 (.im v)]=some ([],.nrm,[.slot 0 (.im v)]):=by kernel_rfl
theorem Qa (v:Value):aX prog (qG prog) 36 (fun _=>tC T0 fun _=>none) 60 (cA (cB gQ)) [.slot 0 (.im v)] [.slot 0 (.im v),.slot 3 (.im (iI 0))]=some ([],.nrm,[.slot 0 (.im v),.slot 3 (.im (iI 0))]):=by kernel_rfl
def yM (v:Value) (K i s:Nat):List Fact:=[.slot 0 (.im v),.slot 3 (.im (iI s)),.slot 9 (.im v),.slot 10 (.im (iI K)),.slot 11 (.im (iI i))]
theorem Pz (p:Option Addr) (K m s:Nat):aX prog (qG prog) 36 (fun _=>tC T0 fun _=>none) 60 (cA Fr) [.slot 0 (.im (.slice p K m)),.slot 3 (.im (iI s))] (yM (.slice p K m) K 0 s)=some ([],.nrm,yM (.slice p K m) K 0 s):=by kernel_rfl
theorem Qc (w:World) (b o K m i s n m':Nat) (p:Option Addr):aX prog { qG prog with x:=xO w (assoc [(13,i)]) (fun _=>none) (assoc [(14,.slice p n m')]) } 36 (fun _=>tC T0 (assoc [(12,.bool true),(18,iI (s+n)),(20,.bool false),(22,iI (i+1))])) 60 OY (yM (aM b o K m) K i s) (yM (aM b o K m) K (i+1) (s+n))=some ([aN .lss .i64 (Int.ofNat i) (Int.ofNat K)=some (.bool true),Int.ofNat i=Int.ofNat i,i<K,oldOf w b (o+i*1) [.c (.slice p n m')],aN .add .i64 (Int.ofNat s) (Int.ofNat n)=some (iI (s+n)),aN .lss .i64 (Int.ofNat (s+n)) 0=some (.bool false),aN .add .i64 (Int.ofNat i) 1=some (iI (i+1))],.nrm,yM (aM b o K m) K (i+1) (s+n)):=by kernel_rfl
theorem Py (v:Value) (K i s:Nat):aX prog (qG prog) 36 (fun _=>tC T0 (assoc [(12,.bool false)])) 60 OY (yM v K i s) (yM v K i s)=some ([aN .lss .i64 (Int.ofNat i) (Int.ofNat K)=some (.bool false)],.ex 0,yM v K i s):=by kernel_rfl
theorem Qi (v:Value) (K i s:Nat):cX prog (qG prog) 36 (tC T0 fun _=>none) ((aE AY).extract 0 1) (yM v K i s) [.slot 23 (.im (iI s)),.slot 0 (.im v)]=some ([],[.slot 23 (.im (iI s)),.slot 0 (.im v)]):=by kernel_rfl
theorem Qh (v u:Value):cX prog (qG prog) 36 (tC T0 fun _=>none) ((aE AY).extract 2 3) [.slot 24 (.im u),.slot 0 (.im v)] [.slot 6 (.im u),.slot 0 (.im v)]=some ([],[.slot 6 (.im u),.slot 0 (.im v)]):=by kernel_rfl
def fR (v u:Value) (K i:Nat):List Fact:=[.slot 6 (.im u),.slot 25 (.im v),.slot 26 (.im (iI K)),.slot 27 (.im (iI i))]
theorem Fj (u:Value) (p:Option Addr) (K m:Nat):aX prog (qG prog) 36 (fun _=>tC T0 fun _=>none) 60 (cA OZ) [.slot 6 (.im u),.slot 0 (.im (.slice p K m))] (fR (.slice p K m) u K 0)=some ([],.nrm,fR (.slice p K m) u K 0):=by kernel_rfl
theorem Qg (v u:Value) (K i:Nat):aX prog (qG prog) 36 (fun _=>tC T0 (assoc [(28,.bool true)])) 60 (cA fX) (fR v u K i) (.slot 28 (.im (.bool true))::fR v u K i)=some ([aN .lss .i64 (Int.ofNat i) (Int.ofNat K)=some (.bool true)],.nrm,.slot 28 (.im (.bool true))::fR v u K i):=by kernel_rfl
theorem Fl (v u:Value) (K i:Nat):aX prog (qG prog) 36 (fun _=>tC T0 fun _=>none) 60 (cA (cB fX)) (.slot 28 (.im (.bool true))::fR v u K i) (fR v u K i)=some ([],.nrm,fR v u K i):=by kernel_rfl
theorem aAN (v u:Value) (K i:Nat):aX prog (qG prog) 36 (fun _=>tC T0 (assoc [(28,.bool false)])) 60 (cA fX) (fR v u K i) (.slot 28 (.im (.bool false))::fR v u K i)=some ([aN .lss .i64 (Int.ofNat i) (Int.ofNat K)=some (.bool false)],.nrm,.slot 28 (.im (.bool false))::fR v u K i):=by kernel_rfl
theorem Px (v u:Value) (K i:Nat):aX prog (qG prog) 36 (fun _=>tC T0 fun _=>none) 60 (cA (cB fX)) (.slot 28 (.im (.bool false))::fR v u K i) (fR v u K i)=some ([],.ex 2,fR v u K i):=by kernel_rfl
theorem Fk (w:World) (b o K m i:Nat) (u h:Value):aX prog { qG prog with x:=xO w (assoc [(29,i)]) (fun _=>none) (assoc [(30,h)]) } 36 (fun _=>tC T0 fun _=>none) 60 (cA EB) (fR (aM b o K m) u K i) (.slot 8 (.im h)::fR (aM b o K m) u K i)=some ([Int.ofNat i=Int.ofNat i,i<K,oldOf w b (o+i*1) [.c h]],.nrm,.slot 8 (.im h)::fR (aM b o K m) u K i):=by kernel_rfl
theorem Fo (v u h:Value) (K i:Nat):cX prog (qG prog) 36 (tC T0 fun _=>none) ((aE qV).extract 0 2) (.slot 8 (.im h)::fR v u K i) (.slot 31 (.im u) :: .slot 32 (.im h)::fR v u K i)=some ([],.slot 31 (.im u) :: .slot 32 (.im h)::fR v u K i):=by kernel_rfl
theorem Fm (v u x:Value) (K i:Nat):cX prog (qG prog) 36 (tC T0 fun _=>none) ((aE qV).extract 3 4) (.slot 33 (.im x)::fR v u K i) (fR v x K i)=some ([],fR v x K i):=by kernel_rfl
theorem Qd (v u:Value) (K i:Nat):aX prog (qG prog) 36 (fun _=>tC T0 (assoc [(34,iI (i+1))])) 60 (cB (cB (cB fX))) (fR v u K i) (fR v u K (i+1))=some ([aN .add .i64 (Int.ofNat i) 1=some (iI (i+1))],.nrm,fR v u K (i+1)):=by kernel_rfl
theorem aAM (v u:Value) (K i:Nat):aX prog (qG prog) 36 (fun _=>tC T0 fun _=>none) 60 Fp (fR v u K i) [.slot 2 (.im u)]=some ([],.rt,[.slot 2 (.im u)]):=by kernel_rfl
theorem OX {w0:World} {v:Value} {K:Nat} {vs:Nat→Value} {ls:Nat→List Nat} (hh:aHB w0 v K vs ls) (hK0:0<K) (hK:K≤64) (hS:(cO ls K).length≤131072) :
  Calls prog 36 [v].toArray w0 fun e w'=>∃b C,e=.returned (aM b 0 (cO ls K).length C)∧LQBz w' (aM b 0 (cO ls K).length C) (cO ls K)∧w0.heap.size≤b∧Below w0.heap.size w0 w'∧AppAt w' b 5 1 (cO ls K).length C:=by
 have hG:∀base w,bQ prog (qG prog) base w:=fun _ _=>(aV _).w _ _
 have hT:∀base w,∀n d:Nat,TabOkW prog T0 base w:=fun _ _ _ _=>(bP _).w _ _
 have hlen:∀i,(cO ls (i+1)).length=(cO ls i).length+(ls i).length:=fun i=>List.length_append
 have hS0:0<(cO ls K).length:=by
  have:=mY ls (show 1≤K by omega);have h1:(cO ls 1).length=(cO ls 0).length+(ls 0).length:=hlen 0;obtain⟨_,_,_,_,_,hl⟩:=id hh;have:=(hl 0 hK0).1;omega
 obtain⟨hb,ho,hm,rfl,hhd,hls⟩:=id hh;have hnt:f36.ntmps=36:=Qe;refine cM func36 (cs:=[.v (.im (aM hb ho K hm))]) (args:=[aM hb ho K hm]) (c:=gQ) rfl ⟨rfl,trivial⟩ (Nat.le_of_ble_eq_true (by kernel_rfl)) fun a w hA => ?_
 rw[hnt]at hA;rw[VW];refine wp_seq (aB aI (hT _ _) (hG _ _) (Qb _) trivial hA fun a w hA => ?_);refine wp_seq (aB aI (hT _ _) (hG _ _) (Qa _) trivial hA fun a w hA => ?_);refine wp_seq (wp_seq (aB aI (hT _ _) (hG _ _) (Pz _ K hm 0) trivial hA fun a w hA => ?_));refine wp_block ?_;refine kG aI (fun i=>yM (aM hb ho K hm) K i (cO ls i).length) K (fun i hi => ?_) (.ex 0) (by simp) (yM (aM hb ho K hm) K K (cO ls K).length) ⟨_,_,_,_,hG _ _,hT _ _,Py _ K K _,dM (Nat.le_refl _),trivial⟩ hA fun a w1 hA => ?_
 ·obtain⟨_,b',o',m',e,_,_⟩:=hls i hi;have hd:=hhd i hi;rw[e]at hd;have hmn:=mY ls (show i+1≤K by omega);have hl1:=hlen i;have hr1:=Qc w0 hb ho K hm i (cO ls i).length (ls i).length m' (some ⟨b',o',none⟩);rw[←hl1]at hr1;exact⟨_,_,_,_,dS w0 _ _ _,hT _ _,hr1,fA hi,rfl,hi,hd,by rw[hl1]; exact qJ (by omega),dM (n:=0) (Nat.zero_le _),gN (k:=1) (by omega),trivial⟩
 simp only[EA.out,Exit.then,Exit.inBlock,if_true];refine wp_seq (bK (l:=List.range' 0 ((aE AY).extract 0 1).size++(1::(List.range' 2 ((aE AY).extract 2 3).size++[]))) (by kernel_rfl) ?_);refine aJ (c:=tC T0 _) (hT _ _ 0) (hG _ _) (Qi _ K K _) trivial (by kernel_rfl) hA fun a2 w2 hA => ?_
 obtain⟨o1,ho1,⟨ts1,hop1⟩,hd1,hg1⟩:∃x,(aE AY)[1]?=some x∧(∃ts,x.op=.call ⟨.value (.func 68),#[.const (.slice none 0 0),.tmp 23],ts⟩)∧x.dst=some 24∧x.guard=none:=⟨_,rfl,⟨_,rfl⟩,rfl,rfl⟩
 refine bE ho1 hg1 (cQ hop1 (vs:=[cV,iI (cO ls K).length]) (List.cons_eq_cons.2 ⟨rfl,List.cons_eq_cons.2 ⟨cR (hA.slot (s:=23) (by simp)),rfl⟩⟩) (fun args=>cC func68 (by kernel_rfl) (by kernel_rfl) args _) (NU hS0 hS) fun e w3 hq => ?_);obtain⟨b6,C6,rfl,hC6,hap,hb6,hbw⟩:=hq;refine⟨_,rfl,?_⟩;rw[hd1];have hb2:=hA.below;have hb3:Below w0.heap.size w0 w3:=hb2.trans (hbw.mono hb2.size);have hb60:w0.heap.size≤b6:=Nat.le_trans hb2.size hb6;have hS3:=aU (nt:=36) (w:=w3) (a:=a2.put (some 24) (aM b6 0 0 C6)) (ts:=[(24,aM b6 0 0 C6),(0,aM hb ho K hm)]) hA.defers (by rw[aH]; exact hA.size) (fun x hx=>by
  simp only[List.mem_cons,List.not_mem_nil,or_false]at hx
  rcases hx with rfl|rfl
  ·exact aT _ _ _ (by rw[hA.size]; decide)
  ·exact aQ (hA.slot (by simp)) (by simp))
 clear hA;refine aJ (c:=tC T0 _) (hT _ _ 0) (hG _ _) (Qh _ _) trivial (by kernel_rfl) hS3 fun a4 w4 hA => ?_
 show (Code.seq _ _).wp _ _ _ _;refine wp_seq (wp_seq (aB aI (hT _ _) (hG _ _) (Fj _ _ K hm) trivial hA fun a5 w5 hA => ?_));have hap5:=hap.shape hA.shape;have hb5:Below w0.heap.size w0 w5:=hb3.trans (hA.below.mono hb3.size);have hdf:=hA.defers;have hsz:=hA.size;have u6:=hA.slot (s:=6) (v:=aM b6 0 0 C6) (by simp[fR]);have u25:=hA.slot (s:=25) (v:=aM hb ho K hm) (by simp[fR,aM]);have u26:=hA.slot (s:=26) (v:=iI K) (by simp[fR]);have u27:=hA.slot (s:=27) (v:=iI 0) (by simp[fR]);have hap5:AppAt w5 b6 5 1 (cO ls 0).length C6:=hap5;have hr5:w5.rangeAt b6 0 (aA (lN (cO ls 0))):=fun j v hj=>by simp[cO,lN,aA]at hj
 change a5.tmps[6]?=some (aM b6 0 (cO ls 0).length C6) at u6;clear hA hS3 hap hC6 hb6;refine wp_block (dU (n:=K+1) ?_);have wl:∀Q a w,(Code.seq (cA fX) (.seq (cA (cB fX)) (.seq (.block 3 (.seq (cA EB) (.region 13 (aE qV) false))) (cB (cB (cB fX)))))).wp prog Q a w→fX.wp prog Q a w:=fun Q a w h=>by rw[Qf]; exact h
 have key:∀k i b6 C6 a w,i+k=K→a.defers=[]→a.tmps.size=36→a.tmps[6]?=some (aM b6 0 (cO ls i).length C6)→a.tmps[25]?=some (aM hb ho K hm)→a.tmps[26]?=some (iI K)→a.tmps[27]?=some (iI i)→AppAt w b6 5 1 (cO ls i).length C6→w.rangeAt b6 0 (aA (lN (cO ls i)))→w0.heap.size≤b6→Below w0.heap.size w0 w →
   Un prog fX (Exit.inBlock 2 (Exit.then (Fp.wp prog (bodyPost prog f36 fun e w'=>∃b C,e=.returned (aM b 0 (cO ls K).length C)∧LQBz w' (aM b 0 (cO ls K).length C) (cO ls K)∧w0.heap.size≤b∧Below w0.heap.size w0 w'∧AppAt w' b 5 1 (cO ls K).length C)) (bodyPost prog f36 fun e w'=>∃b C,e=.returned (aM b 0 (cO ls K).length C)∧LQBz w' (aM b 0 (cO ls K).length C) (cO ls K)∧w0.heap.size≤b∧Below w0.heap.size w0 w'∧AppAt w' b 5 1 (cO ls K).length C))) (k+1) a w:=by
  intro k
  induction k with
  | zero =>
   intro i b6 C6 a w hi hd hs t6 t25 t26 t27 hap hr hge hbl;have hiK:i=K:=by omega
   subst hiK;have hH:=aU (nt:=36) (w:=w) (a:=a) (ts:=[(6,aM b6 0 (cO ls i).length C6),(25,aM hb ho i hm),(26,iI i),(27,iI i)]) hd hs (fun x hx=>by
    simp only[List.mem_cons,List.not_mem_nil,or_false]at hx
    rcases hx with rfl|rfl|rfl|rfl
    ·exact t6
    ·exact t25
    ·exact t26
    ·exact t27)
   unfold Un;refine wl _ _ _ (wp_seq (aB aI (hT _ _) (hG _ _) (aAN _ _ i i) ⟨dM (Nat.le_refl _),trivial⟩ hH fun a w' hA => ?_));refine wp_seq (aB aI (hT _ _) (hG _ _) (Px _ _ i i) trivial hA fun a w' hA => ?_);simp only[EA.out,Exit.then,Exit.inBlock,if_true];refine aB aI (hT _ _) (hG _ _) (aAM _ _ i i) trivial hA fun a w' hA => ?_
   have hlt:b6<w.heap.size:=by obtain⟨cur,h1,_⟩:=hap; exact (Array.getElem?_eq_some_iff.1 h1).1
   exact cN (l:=[.im (aM b6 0 (cO ls i).length C6)]) (r:=.one (.im (aM b6 0 (cO ls i).length C6))) (by kernel_rfl) (by kernel_rfl) hA ⟨b6,C6,rfl,⟨hS0,b6,0,C6,rfl,Nat.lt_of_lt_of_le hlt hA.below.size,bJ hA.below hlt hr⟩,hge,hbl.trans (hA.below.mono hbl.size),hap.shape hA.shape⟩
  | succ k ih =>
   intro i b6 C6 a w hi hd hs t6 t25 t26 t27 hap hr hge hbl;have hiK:i<K:=by omega
   have hH:=aU (nt:=36) (w:=w) (a:=a) (ts:=[(6,aM b6 0 (cO ls i).length C6),(25,aM hb ho K hm),(26,iI K),(27,iI i)]) hd hs (fun x hx=>by
    simp only[List.mem_cons,List.not_mem_nil,or_false]at hx
    rcases hx with rfl|rfl|rfl|rfl
    ·exact t6
    ·exact t25
    ·exact t26
    ·exact t27)
   unfold Un;refine wl _ _ _ (wp_seq (aB aI (hT _ _) (hG _ _) (Qg _ _ K i) ⟨fA hiK,trivial⟩ hH fun a w1 hA => ?_));refine wp_seq (aB aI (hT _ _) (hG _ _) (Fl _ _ K i) trivial hA fun a w1 hA => ?_);refine wp_seq (wp_block (wp_seq (aB aI (hT _ _) (dS w _ _ _) (Fk w hb ho K hm i _ (vs i)) ⟨rfl,hiK,(hhd i hiK).below hbl (by have:=(hhd i hiK).1; exact this),trivial⟩ hA fun a w1 hA => ?_)));refine bK (l:=List.range' 0 ((aE qV).extract 0 2).size++(2::(List.range' 3 ((aE qV).extract 3 4).size++[]))) (by kernel_rfl) ?_;refine aJ (c:=tC T0 _) (hT _ _ 0) (hG _ _) (Fo _ _ _ K i) trivial (by kernel_rfl) hA fun a2 w2 hA => ?_
   obtain⟨o2,ho2,hop2,hd2,hg2⟩:∃x,(aE qV)[2]?=some x∧x.op=.call ⟨.builtin .append,#[.tmp 31,.tmp 32],#[25,25]⟩∧x.dst=some 33∧x.guard=none:=⟨_,rfl,rfl,rfl,rfl⟩
   have hb2:=hA.below;have hB2:Below w0.heap.size w0 w2:=hbl.trans (hb2.mono hbl.size);have hlt:b6<w.heap.size:=by obtain⟨cur,h1,_⟩:=hap; exact (Array.getElem?_eq_some_iff.1 h1).1
   obtain⟨hl0,b',o',m',e',hb',hr'⟩:=(hls i hiK).below hB2;have hmn:=mY ls (show i+1≤K by omega);have hl1:=hlen i;obtain⟨b7,C7,w3,hrun,a1,q2,q3,q4,a5,a6,a7⟩:=nO (P:=prog) w2 (ty:=o2.type) Ie (u:=aM b6 0 (cO ls i).length C6) (n:=(cO ls i).length) (xs:=aA (lN (cO ls i))) (Or.inr ⟨b6,C6,rfl,hap.shape hA.shape,bJ hb2 hlt hr,GI _⟩) (ad:=⟨b',o',none⟩) (m:=(ls i).length) (c:=m') (news:=aA (lN (ls i))) (GI _) (fun j v hj=>by
    have e:(⟨b',o',none⟩:Addr).add j=⟨b',o'+j,none⟩:=by simp[Addr.add]
    rw[e];exact hr' j v hj) (ZN _) hl0 (by omega) (by unfold maxLen; omega)
   rw[←hl1]at hrun a1;have hrn:(execOp a2.eval o2).run prog w2=.ok (.value (aM b7 0 (cO ls (i+1)).length C7)) w3:=by
    have h31:=cR (hA.slot (s:=31) (v:=aM b6 0 (cO ls i).length C6) (by simp));have h32:=cR (hA.slot (s:=32) (v:=vs i) (by simp));rw[e']at h32;unfold execOp;simp only[hop2,resolve,invoke,builtin,Sem.run_bind,Sem.run_pure,Result.andThen_ok,List.map_toArray,List.map_cons,List.map_nil,h31,h32];rw[show aM b' o' (ls i).length m'=Value.slice (some ⟨b',o',none⟩) (ls i).length m' from rfl,hrun];rfl
   refine bE ho2 hg2 (cD hrn ?_);rw[hd2];have hB3:Below w0.heap.size w0 w3:=hB2.grown a5 hB2.size (fun k hk=>by
    have:k=b6:=by simpa[aM,Value.ownBlock,eq_comm]using hk
    omega)
   have hge7:w0.heap.size≤b7:=by
    rcases a7 with h|⟨cap0,h⟩
    ·exact Nat.le_trans hB2.size h
    ·have:b6=b7:=by simp only[aM,Value.slice.injEq,Option.some.injEq,Addr.mk.injEq]at h; exact h.1.1
     omega
   have hq3:w3.rangeAt b7 0 (aA (lN (cO ls (i+1)))):=by
    show w3.rangeAt b7 0 (aA (lN (cO ls i++ls i)));rw[ZO,aP]; exact q3
   have hS3:=aU (nt:=36) (w:=w3) (a:=a2.put (some 33) (aM b7 0 (cO ls (i+1)).length C7)) (ts:=[(33,aM b7 0 (cO ls (i+1)).length C7),(6,aM b6 0 (cO ls i).length C6),(25,aM hb ho K hm),(26,iI K),(27,iI i)]) hA.defers (by rw[aH]; exact hA.size) (fun x hx=>by
    simp only[List.mem_cons,List.not_mem_nil,or_false]at hx
    rcases hx with rfl|rfl|rfl|rfl|rfl
    ·exact aT _ _ _ (by rw[hA.size]; decide)
    all_goals exact aQ (hA.slot (by simp[fR])) (by simp))
   clear hA hH;refine aJ (c:=tC T0 _) (hT _ _ 0) (hG _ _) (Fm _ _ _ K i) trivial (by kernel_rfl) hS3 fun a4 w4 hA => ?_
   show (cB (cB (cB fX))).wp _ _ _ _;refine aB aI (hT _ _) (hG _ _) (Qd _ _ K i) ⟨gN (k:=1) (by omega),trivial⟩ hA fun a5 w5 hA => ?_
   exact ih (i+1) b7 C7 a5 w5 (by omega) hA.defers hA.size (hA.slot (by simp[fR])) (hA.slot (by simp[fR])) (hA.slot (by simp[fR])) (hA.slot (by simp[fR])) (a1.shape hA.shape) (bJ hA.below q2 hq3) hge7 (hB3.trans (hA.below.mono hB3.size))
 exact key K 0 b6 C6 a5 w5 (by omega) hdf hsz u6 u25 u26 u27 hap5 hr5 hb60 hb5
def Th:Code:=(f11.body).getD .skip
def eb4:Code:=cA (cB (cB Th))
def Pb:Code:=cA (cB (cB (cB Th)))
theorem Oz:Th=.seq (cA Th) (.seq (cA (cB Th)) (.seq (.region 4 (aE eb4) false) (.seq (.region 5 (aE Pb) false) .ret))):=by kernel_rfl
theorem aFj:f11.ntmps=24:=by kernel_rfl
def Ty (c:Int):Tab:=T0.add 34 (Oc c)
theorem Xv (c:Int):TabOk prog (Ty c):=(bP _).ad func34 (Ti c)
def Pa (s:NS):List Fact:=[.slot 1 (.pt 1 0),.row 1 true (eZ s)]
theorem aJV (s:NS):aX prog (qG prog) 24 (fun _=>tC T0 fun _=>none) 60 (cA Th) (fJ 0 [.v (.fl (eZ s))]) (Pa s)=some ([],.nrm,Pa s):=by kernel_rfl
theorem aJU (s:NS):aX prog (qG prog) 24 (fun _=>tC (Ty 0) fun _=>none) 60 (cA (cB Th)) (Pa s) (Pa s)=some ([s.1.1<aG,s.1.2<aG,s.2<aG,yG s=0,aA (eZ s)=aA (eZ s)],.nrm,Pa s):=by kernel_rfl
theorem aFo (s:NS):cX prog (qG prog) 24 (tC T0 fun _=>none) ((aE eb4).extract 0 2) (Pa s) (.slot 14 (.fl [.q s.1.1,.q s.1.2])::Pa s)=some ([],.slot 14 (.fl [.q s.1.1,.q s.1.2])::Pa s):=by kernel_rfl
theorem aFn (v:Value) (b1:Nat):cX prog (qG prog) 24 (tC T0 fun _=>none) ((aE eb4).extract 3 8) [.slot 15 (.tu [.im v,.im (.int .i64 0)]),.slot 1 (.im (ptV b1 0))] [.slot 5 (.im v),.slot 1 (.im (ptV b1 0))]=some ([],[.slot 5 (.im v),.slot 1 (.im (ptV b1 0))]):=by kernel_rfl
theorem aFm (w:World) (s:NS) (b b1 m:Nat):cX prog { qG prog with x:=xO w (fun _=>none) (assoc [(20,[.q s.2])]) (fun _=>none) } 24 (tC T0 fun _=>none) ((aE Pb).extract 0 3) [.slot 5 (.im (aM b 0 32 m)),.slot 1 (.im (ptV b1 0))] [.slot 18 (.im (aM b 0 32 m)),.slot 20 (.fl [.q s.2])]=some ([oldOf w b1 8 [.q s.2],dN [At.q s.2]=4],[.slot 18 (.im (aM b 0 32 m)),.slot 20 (.fl [.q s.2])]):=by kernel_rfl
theorem aFl (b m b' m':Nat):cX prog (qG prog) 24 (tC T0 fun _=>none) ((aE Pb).extract 4 5) [.slot 18 (.im (aM b 0 32 m)),.slot 21 (.im (aM b' 0 32 m'))] [.slot 22 (.sl 22 0 2 2),.row 22 true [.c (aM b 0 32 m),.c (aM b' 0 32 m')]]=some ([],[.slot 22 (.sl 22 0 2 2),.row 22 true [.c (aM b 0 32 m),.c (aM b' 0 32 m')]]):=by kernel_rfl
theorem aFk (v:Value):cX prog (qG prog) 24 (tC T0 fun _=>none) ((aE Pb).extract 6 8) [.slot 23 (.im v)] [.slot 2 (.im v),.slot 3 (.im (.int .i64 0))]=some ([],[.slot 2 (.im v),.slot 3 (.im (.int .i64 0))]):=by kernel_rfl
def PD (f:Nat→Nat):List Nat:=(List.range 32).map f
theorem pG (f:Nat→Nat):(PD f).length=32:=by simp[PD]
def yY (s:NS):List Nat:=PD (iT s.1)++PD (bF s.2)
theorem rT (s:NS):(yY s).length=64:=by unfold yY; rw[List.length_append,pG,pG]
theorem LZ {w:World} {b:Nat} {f:Nat→Nat} (h:Go.Proofs.YtpjlhhpjpnacmaaGreatDoor.RowB w b 32 f):w.rangeAt b 0 (aA (bj f)):=fun j v hj=>by
 have hlt:j<32:=by
  rcases Nat.lt_or_ge j 32 with h|h
  ·exact h
  ·rw[List.getElem?_eq_none (show (aA (bj f)).length≤j from h)]at hj; cases hj
 rw[pF f j hlt]at hj;rw[Nat.zero_add,(h j hlt).1];exact hj
def BzA (w0:World) (s:NS) (e:Ending) (w':World):Prop:=∃b C,e=.returned (.tuple #[aM b 0 64 C,.int .i64 0])∧w'.rangeAt b 0 (aA (lN (yY s)))∧w0.heap.size≤b∧Below w0.heap.size w0 w'∧AppAt w' b 5 1 64 C
theorem sW {s:NS} (h1:s.1.1<aG) (h2:s.1.2<aG) (h3:s.2<aG) (hs:yG s=0) (w0:World):Calls prog 11 [.agg (aA (eZ s)).toArray].toArray w0 (BzA w0 s):=by
 have hG:∀base w,bQ prog (qG prog) base w:=fun _ _=>(aV _).w _ _
 have hT:∀base w,∀n d:Nat,TabOkW prog T0 base w:=fun _ _ _ _=>(bP _).w _ _
 have hR:=JX hs;have hnt:f11.ntmps=24:=aFj;refine cM func11 (cs:=[.v (.fl (eZ s))]) (args:=[.agg (aA (eZ s)).toArray]) (c:=Th) rfl ⟨rfl,trivial⟩ (Nat.le_of_ble_eq_true (by kernel_rfl)) fun a w hA => ?_
 rw[hnt]at hA;rw[Oz];refine wp_seq (aB aI (hT _ _) (hG _ _) (aJV s) trivial hA fun a w hA => ?_);refine wp_seq (aB aI (fun _ _=>(Xv 0).w _ _) (hG _ _) (aJU s) ⟨h1,h2,h3,hs,rfl,trivial⟩ hA fun a w hA => ?_);refine wp_seq (bK (l:=List.range' 0 ((aE eb4).extract 0 2).size++(2::(List.range' 3 ((aE eb4).extract 3 8).size++[]))) (by kernel_rfl) ?_);refine aJ (c:=tC T0 _) (hT _ _ 0) (hG _ _) (aFo s) trivial (by kernel_rfl) hA fun a w1 hA => ?_
 unfold Pa at hA;obtain⟨b1,hA⟩:=hA.at (k:=1) (l:=eZ s) (by simp);have m1:Own w1 b1 (eZ s):=hA.own (k:=1) (by simp) (by simp);have hB1:w0.heap.size≤b1:=hA.geq (k:=1) (l:=eZ s) (by simp) (by simp);have hbl:=hA.below;have t1:=hA.ptS (s:=1) (k:=1) (o:=0) (b:=b1) (by simp) (by simp);have t14:=hA.slotF (s:=14) (l:=[.q s.1.1,.q s.1.2]) (by simp);have hdf:=hA.defers;have hsz:=hA.size;clear hA;obtain⟨o2,ho2,⟨ts2,hop2⟩,hd2,hg2⟩:∃x,(aE eb4)[2]?=some x∧(∃ts,x.op=.call ⟨.value (.func 35),#[.tmp 14],ts⟩)∧x.dst=some 15∧x.guard=none:=⟨_,rfl,⟨_,rfl⟩,rfl,rfl⟩
 refine bE ho2 hg2 (cQ hop2 (vs:=[.agg (aA [.q s.1.1,.q s.1.2]).toArray]) (List.cons_eq_cons.2 ⟨cR t14,rfl⟩) (fun args=>cC func35 (by kernel_rfl) (by kernel_rfl) args _) (VX s.1 (kV hR) hR [.agg (aA [.q s.1.1,.q s.1.2]).toArray] w1 ⟨rfl,trivial⟩) fun e w2 hq => ?_);obtain⟨b2,rfl,hb2,hge2,hlt2,hr2,_⟩:=hq;refine⟨_,rfl,?_⟩;rw[hd2];have Ss:=m1.on hb2;have hS2:=jO (nt:=24) (w:=w2) (a:=a.put (some 15) (FR.val ⟨bj (iT s.1),32,32,[.im (.int .i64 0)]⟩ b2)) (ts:=[(15,.tu [.im (aM b2 0 32 32),.im (.int .i64 0)]),(1,.im (ptV b1 0))]) hdf (by rw[aH]; exact hsz) (fun x hx β=>by
  simp only[List.mem_cons,List.not_mem_nil,or_false]at hx
  rcases hx with rfl|rfl
  ·exact aT _ _ _ (by rw[hsz]; decide)
  ·exact aQ t1 (by simp))
 refine aJ (c:=tC T0 _) (hT _ _ 0) (hG _ _) (aFn (aM b2 0 32 32) b1) trivial (by kernel_rfl) hS2 fun a3 w3 hA => ?_
 have hb3:=hA.below;have m13:=Ss.on hb3;have hr3:=bJ hb3 hlt2 hr2;have hlt3:b2<w3.heap.size:=Nat.lt_of_lt_of_le hlt2 hb3.size;have hb13:=hb2.trans (hb3.mono hb2.size);have hS3:=aU (nt:=24) (w:=w3) (a:=a3) (ts:=[(5,aM b2 0 32 32),(1,ptV b1 0)]) hA.defers hA.size (fun x hx=>by
  simp only[List.mem_cons,List.not_mem_nil,or_false]at hx
  rcases hx with rfl|rfl
  ·exact hA.slot (s:=5) (v:=aM b2 0 32 32) (by simp)
  ·exact hA.slot (s:=1) (v:=ptV b1 0) (by simp))
 clear hA hS2;refine wp_seq (bK (l:=List.range' 0 ((aE Pb).extract 0 3).size++(3::(List.range' 4 ((aE Pb).extract 4 5).size++(5::(List.range' 6 ((aE Pb).extract 6 8).size++[]))))) (by kernel_rfl) ?_);refine aJ (c:=tC T0 _) (hT _ _ 0) (dS w3 _ _ _) (aFm w3 s b2 b1 32) ⟨m13.old (o:=8) (s:=[.q s.2]) rfl,rfl,trivial⟩ (by kernel_rfl) hS3 fun a4 w4 hA => ?_
 have hb4:=hA.below;have hr4:=bJ hb4 hlt3 hr3;have t18:=hA.slot (s:=18) (v:=aM b2 0 32 32) (by simp);have t20:=hA.slotF (s:=20) (l:=[.q s.2]) (by simp);have hdf4:=hA.defers;have hsz4:=hA.size;clear hA hS3;obtain⟨o3,ho3,⟨ts3,hop3⟩,hd3,hg3⟩:∃x,(aE Pb)[3]?=some x∧(∃ts,x.op=.call ⟨.value (.func 37),#[.tmp 20],ts⟩)∧x.dst=some 21∧x.guard=none:=⟨_,rfl,⟨_,rfl⟩,rfl,rfl⟩
 have hlb:=sZ (fw s.2 0) (fw s.2 1) (fw s.2 2) (fw s.2 3) (eN s.2) w4;rw[fG h3]at hlb;refine bE ho3 hg3 (cQ hop3 (vs:=[.agg (aA [.q s.2]).toArray]) (List.cons_eq_cons.2 ⟨cR t20,rfl⟩) (fun args=>cC func37 (by kernel_rfl) (by kernel_rfl) args _) hlb fun e w5 hq => ?_);obtain⟨b5,rfl,hge5,hlt5,hrow5,hb5,_⟩:=hq;refine⟨_,rfl,?_⟩;rw[hd3];have hr5:=bJ hb5 (Nat.lt_of_lt_of_le hlt3 hb4.size) hr4;have hlt25:b2<w5.heap.size:=Nat.lt_of_lt_of_le (Nat.lt_of_lt_of_le hlt3 hb4.size) hb5.size;have hS5:=aU (nt:=24) (w:=w5) (a:=a4.put (some 21) (aM b5 0 32 32)) (ts:=[(18,aM b2 0 32 32),(21,aM b5 0 32 32)]) hdf4 (by rw[aH]; exact hsz4) (fun x hx=>by
  simp only[List.mem_cons,List.not_mem_nil,or_false]at hx
  rcases hx with rfl|rfl
  ·exact aQ t18 (by simp)
  ·exact aT _ _ _ (by rw[hsz4]; decide))
 refine aJ (c:=tC T0 _) (hT _ _ 0) (hG _ _) (aFl b2 32 b5 32) trivial (by kernel_rfl) hS5 fun a6 w6 hA => ?_
 obtain⟨b22,hA⟩:=hA.at (k:=22) (l:=[.c (aM b2 0 32 32),.c (aM b5 0 32 32)]) (by simp);have m22:Own w6 b22 [.c (aM b2 0 32 32),.c (aM b5 0 32 32)]:=hA.own (k:=22) (by simp) (by simp);have hb6:=hA.below;have hA2:=hA.im (s:=22) (k:=22) (o:=0) (n:=2) (m:=2) (b:=b22) (by simp) (by simp);have t22:=hA2.slot (s:=22) (v:=aM b22 0 2 2) (by simp);have hdf6:=hA.defers;have hsz6:=hA.size;have hr6:=bJ hb6 hlt25 hr5;have hr56:=bJ hb6 hlt5 (LZ hrow5);have hHQ:aHB w6 (aM b22 0 2 2) 2 (fun j=>if j=0 then aM b2 0 32 32 else aM b5 0 32 32) (fun j=>if j=0 then PD (iT s.1)else PD (bF s.2)):=by
  refine⟨b22,0,2,rfl,fun j hj => ?_,fun j hj => ?_⟩
  ·match j,hj with
   | 0,_=>exact m22.old rfl
   | 1,_=>exact m22.old rfl
  ·match j,hj with
   | 0,_=>exact⟨by show 0<(PD (iT s.1)).length; rw[pG]; decide,b2,0,32,by show aM b2 0 32 32=aM b2 0 (PD (iT s.1)).length 32; rw[pG],Nat.lt_of_lt_of_le hlt25 hb6.size,hr6⟩
   | 1,_=>exact⟨by show 0<(PD (bF s.2)).length; rw[pG]; decide,b5,0,32,by show aM b5 0 32 32=aM b5 0 (PD (bF s.2)).length 32; rw[pG],Nat.lt_of_lt_of_le hlt5 hb6.size,hr56⟩
 have hcl:cO (fun j=>if j=0 then PD (iT s.1)else PD (bF s.2)) 2=yY s:=rfl;clear hA hA2 hS5;obtain⟨o5,ho5,⟨ts5,hop5⟩,hd5,hg5⟩:∃x,(aE Pb)[5]?=some x∧(∃ts,x.op=.call ⟨.value (.func 36),#[.tmp 22],ts⟩)∧x.dst=some 23∧x.guard=none:=⟨_,rfl,⟨_,rfl⟩,rfl,rfl⟩
 refine bE ho5 hg5 (cQ hop5 (vs:=[aM b22 0 2 2]) (List.cons_eq_cons.2 ⟨cR t22,rfl⟩) (fun args=>cC func36 (by kernel_rfl) (by kernel_rfl) args _) (OX hHQ (by decide) (by decide) (by rw[hcl,rT]; decide)) fun e w7 hq => ?_);rw[hcl,rT]at hq;obtain⟨b7,C7,rfl,⟨_,b7',o7',m7',e7,hlt7,hr7⟩,hge7,hb7,hap7⟩:=hq;rw[rT]at e7;cases e7;refine⟨_,rfl,?_⟩;rw[hd5];have hS7:=aU (nt:=24) (w:=w7) (a:=a6.put (some 23) (aM b7 0 64 C7)) (ts:=[(23,aM b7 0 64 C7)]) hdf6 (by rw[aH]; exact hsz6) (fun x hx=>by
  simp only[List.mem_cons,List.not_mem_nil,or_false]at hx
  rcases hx with rfl
  exact aT _ _ _ (by rw[hsz6]; decide))
 refine aJ (c:=tC T0 _) (hT _ _ 0) (hG _ _) (aFk (aM b7 0 64 C7)) trivial (by kernel_rfl) hS7 fun a8 w8 hA => ?_
 have hb8:=hA.below;have s1:=hbl.size;have s2:=hb13.size;have s4:=hb4.size;have s5:=hb5.size;have s6:=hb6.size;have hB7:Below w0.heap.size w0 w7:=((((hbl.trans (hb13.mono s1)).trans (hb4.mono (by omega))).trans (hb5.mono (by omega))).trans (hb6.mono (by omega))).trans (hb7.mono (by omega));have s7:=hB7.size;exact wp_ret (cN (l:=[.im (aM b7 0 64 C7),.im (.int .i64 0)]) (r:=.many [.im (aM b7 0 64 C7),.im (.int .i64 0)]) (by kernel_rfl) (by kernel_rfl) hA ⟨b7,C7,rfl,bJ hb8 hlt7 hr7,by omega,hB7.trans (hb8.mono s7),hap7.shape hA.shape⟩)
theorem TR (l:List Nat):aA (lN l)=l.map fun x=>Value.int .u8 (Int.ofNat x):=by
 induction l with
 | nil=>rfl
 | cons x r ih =>
  show [Value.int .u8 (Int.ofNat x)]++aA (lN r)=_;rw[ih];rfl
def pI (l:List Nat):Value:=.string (strOfNums (l.map Int.ofNat))
def Yz (f g:Nat→Nat) (R:RV):gE
 | [.s l n m]=>some ([n=32,aA l=aA (bj f++bj g),Hr f R],R)
 | _=>none
theorem Nm (f g:Nat→Nat) (R:RV):∀cs pre r,Yz f g R cs=some (pre,r)→bC pre→∀(args:List Value) (w:World),cP w cs args→bG prog 38 r args w:=by
 intro cs pre r hg hp args w ha;unfold Yz at hg;split at hg
 ·rename_i l n m;cases hg;obtain⟨p1,p2,p3,_⟩:=hp;subst p1
  match args,ha with
  | [v],ha =>
   obtain⟨b,o,e,hb,hr⟩:=ha.1;rw[p2]at hr;refine p3 m [v] w ⟨⟨b,o,e,hb,fun j x hj=>hr j x ?_⟩,trivial⟩;rw[aP];have hl:j<(aA (bj f)).length:=by
    rcases Nat.lt_or_ge j (aA (bj f)).length with h|h
    ·exact h
    ·rw[List.getElem?_eq_none h]at hj; cases hj
   rw[List.getElem?_append_left hl];exact hj
  | [],ha=>exact ha.elim
  | _::_::_,ha=>exact ha.2.elim
 ·cases hg
def Za (g:Nat→Nat) (S:Nat):gE
 | [.s l n m]=>some ([n=32,aA l=aA (bj g)],.many [.fl [.q S],.im (.int .i64 0)])
 | _=>none
def SO (f g:Nat→Nat) (R:RV) (S:Nat) (z:Bool):Tab:=((T0.add 38 (Yz f g R)).add 39 (Za g S)).add 40 (Od z)
def aAb (f g:Nat→Nat) (m:Nat) (R:RV):List Prop:=[32≤m,32=32,aA (bj f++bj g)=aA (bj f++bj g),Hr f R]
theorem Tg (f g:Nat→Nat) (m S:Nat) (P:NP):cH prog (qG prog) (fun _=>tC (SO f g (gP P 0) S true) (fun _=>none)) f12 60 [.s (bj f++bj g) 64 m]=some (aAb f g m (gP P 0)++[32≤64,64≤m,32<m,32=32,aA (bj g)=aA (bj g),S<aG,decide (S<lJ)=true],.many [.fl (eZ (P,S)),.im (.int .i64 0)]):=by kernel_rfl
theorem aFe (f g:Nat→Nat) (m S:Nat) (P:NP):cH prog (qG prog) (fun _=>tC (SO f g (gP P 0) S false) (fun _=>none)) f12 60 [.s (bj f++bj g) 64 m]=some (aAb f g m (gP P 0)++[32≤64,64≤m,32<m,32=32,aA (bj g)=aA (bj g),S<aG,decide (S<lJ)=false],.many [.fl vW,.im (.int .i64 4)]):=by kernel_rfl
theorem aFd (f g:Nat→Nat) (m S:Nat) (c:Int):cH prog (qG prog) (fun _=>tC (SO f g (gP (0,0) c) S false) (assoc [(18,.bool true),(19,.bool true),(17,.bool true),(20,.bool true),(21,.bool true),(22,.bool true),(16,.bool true)])) f12 60 [.s (bj f++bj g) 64 m]=some (aAb f g m (gP (0,0) c)++[aN .neq .i64 c 0=some (.bool true)],.many [.fl vW,.im (.int .i64 c)]):=by kernel_rfl
theorem aFc (p:Option Addr) (n m:Nat):cH prog (qG prog) (fun _=>tC (T0) (assoc [(6,.bool true),(7,.bool true),(8,.bool true),(9,.bool true),(10,.bool true),(5,.bool true),(11,.bool true)])) f12 60 [.v (.im (.slice p n m))]=some ([aN .neq .i64 n 64=some (.bool true)],.many [.fl vW,.im (.int .i64 3)]):=by kernel_rfl
theorem Np {g:Nat→Nat} (hg:∀k,g k<256):∀cs pre r,Za g (Go.Proofs.YtpjlhhpjpnacmaaGreatDoor.jD g 0 32) cs=some (pre,r)→bC pre→∀(args:List Value) (w:World),cP w cs args→bG prog 39 r args w:=by
 intro cs pre r hg' hp args w ha;unfold Za at hg';split at hg'
 ·rename_i l n m;cases hg';obtain⟨p1,p2,_⟩:=hp;subst p1
  match args,ha with
  | [v],ha =>
   obtain⟨b,o,rfl,hb,hr⟩:=ha.1;rw[p2]at hr;refine (Go.Proofs.YtpjlhhpjpnacmaaGreatDoor.CK b o m g hg w hb (yN hr)).mono fun e w' h => ?_
   obtain⟨s0,s1,s2,s3,c,he,hs,⟨hv,hc⟩,hbl⟩:=h;have hlt:Go.Proofs.YtpjlhhpjpnacmaaGreatDoor.jD g 0 32<aG:=Da hg (by decide);obtain⟨e0,e1,e2,e3⟩:=gY hs hlt hv;subst e0; subst e1; subst e2; subst e3; subst hc;exact⟨he,hbl⟩
  | [],ha=>exact ha.elim
  | _::_::_,ha=>exact ha.2.elim
 ·cases hg'
theorem CT {f g:Nat→Nat} (hg:∀k,g k<256) (R:RV) (z:Bool):TabOk prog (SO f g R (Go.Proofs.YtpjlhhpjpnacmaaGreatDoor.jD g 0 32) z):=(((bP _).ad func38 (Nm f g R)).ad func39 (Np hg)).ad func40 (aAl z)
theorem VF {f g:Nat→Nat} (hf:∀k,f k<256) (hg:∀k,g k<256):(∃c:Int,c≠0∧∀m args w,64≤m→cP w [.s (bj f++bj g) 64 m] args→bG prog 12 (.many [.fl vW,.im (.int .i64 c)]) args w) ∨
  ∃s:NS,yG s=0∧(∀m args w,64≤m→cP w [.s (bj f++bj g) 64 m] args→bG prog 12 (.many [.fl (eZ s),.im (.int .i64 0)]) args w)∧(∀k,k<32→iT s.1 k=f k)∧s.2=Go.Proofs.YtpjlhhpjpnacmaaGreatDoor.jD g 0 32:=by
 have hlt:Go.Proofs.YtpjlhhpjpnacmaaGreatDoor.jD g 0 32<aG:=Da hg (by decide)
 rcases Wj hf with⟨c,hc,hR⟩|⟨P,hR,hP,hk,hB⟩
 ·exact Or.inl ⟨c,hc,fun m args w hm ha=>aK aI (fun _ _=>CT hg _ false) (aV _) func12 (aFd f g m _ c) ⟨by omega,rfl,rfl,hR,CW hc,trivial⟩ ha⟩
 ·by_cases hS:Go.Proofs.YtpjlhhpjpnacmaaGreatDoor.jD g 0 32<lJ
  ·refine Or.inr ⟨(P,Go.Proofs.YtpjlhhpjpnacmaaGreatDoor.jD g 0 32),?_,fun m args w hm ha=>aK aI (fun _ _=>CT hg _ true) (aV _) func12 (Tg f g m _ P) ⟨by omega,rfl,rfl,hR,by decide,hm,by omega,rfl,rfl,hlt,decide_eq_true hS,trivial⟩ ha,hB,rfl⟩;unfold yG;rw[if_pos hk,if_pos hS]
  ·exact Or.inl ⟨4,by decide,fun m args w hm ha=>aK aI (fun _ _=>CT hg _ false) (aV _) func12 (aFe f g m _ P) ⟨by omega,rfl,rfl,hR,by decide,hm,by omega,rfl,rfl,hlt,decide_eq_false hS,trivial⟩ ha⟩
theorem JL (p:Option Addr) (n m:Nat) (hn:n≠64) (w:World):bG prog 12 (.many [.fl vW,.im (.int .i64 3)]) [.slice p n m] w :=
 aK aI (fun _ _=>bP _) (aV _) func12 (aFc p n m) ⟨by
  show some (Value.bool ((n:Int) != 64))=_;rw[bne_iff_ne.2 (by omega)],trivial⟩ (args:=[.slice p n m]) ⟨rfl,trivial⟩
def aBp (z:Bool) (sg:gE):Tab:=((T0.add 8 (g0 (.one (.im (.bool true))))).add 10 (gPu z)).add 9 sg
theorem Rx {w:World} {z:Bool} {sg:gE} (h1:∀w',Below w.heap.size w w'→∀cs pre r,sg cs=some (pre,r)→bC pre→∀(args:List Value),cP w' cs args→bG prog 9 r args w'):TabOkW prog (aBp z sg) w.heap.size w :=
 TabOkW.add ((((bP _).ad func8 (uU XL)).ad func10 (aAi z)).w _ _) func9 (by kernel_rfl) (by kernel_rfl) h1
theorem aCs (s:Nat) (p:Option Addr) (n m:Nat) (u:Value):cH prog (qG prog) (fun _=>tC (aBp true (Dh s (.slice p n m) (.many [.fl vW,.im (.int .i64 5)]))) (assoc [(43,.bool true)])) f3 80 [.v (.fl [.q s]),.v (.im (.slice p n m)),.v (.im u)]=some ([aA [At.q s]=aA [At.q s],Value.slice p n m=Value.slice p n m,s<aG,jI s=true,aA vW=aA vW,aN .gtr .i64 n 4096=some (.bool true)],.one (.im (.bool true))):=by kernel_rfl
theorem aCr (s:Nat) (p:Option Addr) (n m:Nat) (u:Value):cH prog (qG prog) (fun _=>tC (aBp false (Dh s (.slice p n m) (.many [.fl vW,.im (.int .i64 121)]))) (assoc [(43,.bool true)])) f3 80 [.v (.fl [.q s]),.v (.im (.slice p n m)),.v (.im u)]=some ([aA [At.q s]=aA [At.q s],Value.slice p n m=Value.slice p n m,s<aG,jI s=false,aA vW=aA vW],.one (.im (.bool true))):=by kernel_rfl
theorem TE {w:World} {p:Option Addr} {N m s:Nat} {fm:Nat→Nat} {u:Value} (hb:BV w (.slice p N m) N fm) (hs:s<aG) (hDj:Dbj w) (h:¬(jI s=true∧N≤4096)):bG prog 3 (.one (.im (.bool true))) [.agg (aA [At.q s]).toArray,.slice p N m,u] w:=by
 have hG:bQ prog (qG prog) w.heap.size w:=(aV _).w _ _;have ha:cP w [.v (.fl [.q s]),.v (.im (.slice p N m)),.v (.im u)] [.agg (aA [At.q s]).toArray,.slice p N m,u]:=⟨rfl,rfl,rfl,trivial⟩
 by_cases hz:jI s=true
 ·have hN:4096<N:=by
   rcases Nat.lt_or_ge 4096 N with q|q
   ·exact q
   ·exact absurd ⟨hz,q⟩ h
  exact bZ aI (fun _ _=>Rx fun w' hw=>DK (Jl (hb.on hw) hs (hDj.on hDj.lt hw) hz hN)) hG func3 (aCs s p N m u) ⟨rfl,rfl,hs,hz,rfl,by
   show some (Value.bool (decide ((N:Int)>4096)))=_;rw[decide_eq_true (by omega)],trivial⟩ ha
 ·have hz:jI s=false:=by simpa using hz
  exact bZ aI (fun _ _=>Rx fun w' hw=>DK (Jk (hb.on hw) hs (hDj.on hDj.lt hw) hz)) hG func3 (aCr s p N m u) ⟨rfl,rfl,hs,hz,rfl,trivial⟩ ha
theorem Fh {s:NS} (hs:yG s=0):s.2<lJ:=by
 have hk:=JX hs;unfold yG at hs;rw[if_pos hk]at hs
 by_cases h:s.2<lJ
 ·exact h
 ·rw[if_neg h]at hs;exact absurd hs (by decide)
theorem OF {t:NS} (h3:t.2<aG) (ht:yG t=0) (m:Nat) (args:List Value) (w:World) (hm:64≤m) (ha:cP w [.s (bj (iT t.1)++bj (bF t.2)) 64 m] args):bG prog 12 (.many [.fl (eZ t),.im (.int .i64 0)]) args w:=by
 have hk:=JX ht;have e:Go.Proofs.YtpjlhhpjpnacmaaGreatDoor.jD (bF t.2) 0 32=t.2:=sO h3;have hw:Go.Proofs.YtpjlhhpjpnacmaaGreatDoor.jD (bF t.2) 0 32<aG:=by rw[e]; exact h3
 have hl:Go.Proofs.YtpjlhhpjpnacmaaGreatDoor.jD (bF t.2) 0 32<lJ:=by rw[e]; exact Fh ht
 have:=aK aI (fun _ _=>CT (f:=iT t.1) (g:=bF t.2) (jZ t.2) (gP t.1 0) true) (aV _) func12 (Tg (iT t.1) (bF t.2) m (Go.Proofs.YtpjlhhpjpnacmaaGreatDoor.jD (bF t.2) 0 32) t.1) ⟨by omega,rfl,rfl,Kp (kV hk) hk,by decide,hm,by omega,rfl,rfl,hw,decide_eq_true hl,trivial⟩ ha
 rwa [e]at this
def Di (v:Value) (R:RV):gE
 | [.v (.im x)]=>some ([x=v],R)
 | _=>none
theorem DL {v:Value} {R:RV} {w:World} (h:bG prog 12 R [v] w):∀cs pre r,Di v R cs=some (pre,r)→bC pre→∀(args:List Value),cP w cs args→bG prog 12 r args w:=by
 intro cs pre r hg hp args ha;unfold Di at hg;split at hg
 ·rename_i x;cases hg
  match args,ha with
  | [y],ha =>
   have e1:y=x:=ha.1;rw[e1,hp.1];exact h
  | [],ha=>exact ha.elim
  | _::_::_,ha=>exact ha.2.elim
 ·cases hg
def tF:Code:=(f3.body).getD .skip
def lI:Code:=cB (cB (cB (cB (cB tF))))
def TD:Code:=cA lI
def zN:Code:=cA (cB (cB (cB (cB (cB lI)))))
def nC:Code:=cA (cB (cB (cB (cB (cB (cB lI))))))
theorem XY:tF=.seq (cA tF) (.seq (cA (cB tF)) (.seq (cA (cB (cB tF))) (.seq (cA (cB (cB (cB tF)))) (.seq (cA (cB (cB (cB (cB tF))))) (.seq (.region 7 (aE TD) false) (.seq (cA (cB lI)) (.seq (cA (cB (cB lI))) (.seq (cA (cB (cB (cB lI)))) (.seq (cA (cB (cB (cB (cB lI))))) (.seq (.region 14 (aE zN) false) (.seq (.region 15 (aE nC) false) .ret))))))))))):=by kernel_rfl
theorem Uz:f3.ntmps=107:=by kernel_rfl
def TC (v u:Value):List Fact:=[.slot 1 (.im v),.slot 2 (.im u)]
def LC (v u:Value) (s:Nat):List Fact:=.slot 3 (.pt 3 0) :: .row 3 true [.q s]::TC v u
theorem aCq (s:Nat) (v u:Value):aX prog (qG prog) 107 (fun _=>tC T0 (fun _=>none)) 80 (cA tF) (fJ 0 [.v (.fl [.q s]),.v (.im v),.v (.im u)]) (LC v u s)=some ([],.nrm,LC v u s):=by kernel_rfl
def aHr:Tab:=T0.add 8 (g0 (.one (.im (.bool true))))
theorem aCp (s:Nat) (v u:Value):aX prog (qG prog) 107 (fun _=>tC aHr (fun _=>none)) 80 (cA (cB tF)) (LC v u s) (LC v u s)=some ([],.nrm,LC v u s):=by kernel_rfl
def aHs (s:Nat) (v:Value) (t:NS):Tab:=T0.add 9 (Dh s v (.many [.fl (eZ t),.im (.int .i64 0)]))
def Vf (v u:Value) (s:Nat) (t:NS):List Fact:=.slot 7 (.pt 7 0) :: .row 7 true (eZ t) :: .slot 8 (.im (.int .i64 0))::LC v u s
theorem aCo (s:Nat) (v u:Value) (t:NS):aX prog (qG prog) 107 (fun _=>tC (aHs s v t) (fun _=>none)) 80 (cA (cB (cB tF))) (LC v u s) (Vf v u s t)=some ([aA [At.q s]=aA [At.q s],v=v],.nrm,Vf v u s t):=by kernel_rfl
def Ve (v u:Value) (s:Nat) (t:NS):List Fact:=.slot 9 (.pt 9 0) :: .row 9 true [.q (pN s).1,.q (pN s).2] :: .slot 10 (.im (.int .i64 0)) :: .slot 7 (.pt 7 0) :: .row 7 true (eZ t) :: .slot 8 (.im (.int .i64 0))::TC v u
theorem aCn (s:Nat) (v u:Value) (t:NS):aX prog (qG prog) 107 (fun _=>tC (T0.add 10 (gPu true)) (fun _=>none)) 80 (cA (cB (cB (cB tF)))) (Vf v u s t) (Ve v u s t)=some ([s<aG,jI s=true],.nrm,Ve v u s t):=by kernel_rfl
def TB (v u:Value) (k:NP) (t:NS):List Fact:=.slot 9 (.pt 9 0) :: .row 9 true [.q k.1,.q k.2] :: .slot 10 (.im (.int .i64 0)) :: .slot 7 (.pt 7 0) :: .row 7 true (eZ t)::TC v u
theorem aCm (s:Nat) (v u:Value) (t:NS):aX prog (qG prog) 107 (fun _=>tC T0 (fun _=>none)) 80 (cA (cB (cB (cB (cB tF))))) (Ve v u s t) (TB v u (pN s) t)=some ([],.nrm,TB v u (pN s) t):=by kernel_rfl
theorem Vb (v u:Value) (k:NP) (t:NS):cX prog (qG prog) 107 (tC T0 fun _=>none) ((aE TD).extract 0 1) (TB v u k t) (.slot 47 (.fl (eZ t))::TB v u k t)=some ([],.slot 47 (.fl (eZ t))::TB v u k t):=by kernel_rfl
def YA (v u p7 p9:Value):List Fact:=.slot 9 (.im p9) :: .slot 10 (.im (.int .i64 0)) :: .slot 7 (.im p7)::TC v u
theorem Va (v u p7 p9 a:Value):cX prog (qG prog) 107 (tC T0 fun _=>none) ((aE TD).extract 2 7) (.slot 48 (.tu [.im a,.im (.int .i64 0)])::YA v u p7 p9) (.slot 11 (.im a) :: .slot 12 (.im (.int .i64 0))::YA v u p7 p9)=some ([],.slot 11 (.im a) :: .slot 12 (.im (.int .i64 0))::YA v u p7 p9):=by kernel_rfl
def XZ (v u p7 p9 a:Value) (t:NS):List Fact:=.slot 13 (.pt 13 0) :: .row 13 true (eZ t) :: .slot 14 (.im (.int .i64 0)) :: .slot 11 (.im a) :: .slot 12 (.im (.int .i64 0))::YA v u p7 p9
theorem aCl (v u p7 p9 a:Value) (t:NS):aX prog (qG prog) 107 (fun _=>tC (T0.add 12 (Di a (.many [.fl (eZ t),.im (.int .i64 0)]))) (fun _=>none)) 80 (cA (cB lI)) (.slot 11 (.im a) :: .slot 12 (.im (.int .i64 0))::YA v u p7 p9) (XZ v u p7 p9 a t)=some ([a=a],.nrm,XZ v u p7 p9 a t):=by kernel_rfl
theorem aCk (w:World) (v u:Value) (b7 b9 bA C:Nat) (k:NP) (t:NS):aX prog { qG prog with x:=xO w (fun _=>none) (assoc [(68,eZ t),(77,[.q k.1,.q k.2]),(79,eZ t)]) (fun _=>none) } 107 (fun _=>tC (T0.add 13 (Yt k v t 0)) (assoc [(69,.bool false)])) 80 (cA (cB (cB lI))) (XZ v u (ptV b7 0) (ptV b9 0) (aM bA 0 64 C) t) [.slot 2 (.im u)]=some ([oldOf w b7 0 (eZ t),dN (eZ t)=12,aA (eZ t)=aA (eZ t),oldOf w b9 0 [.q k.1,.q k.2],dN [.q k.1,.q k.2]=8,oldOf w b7 0 (eZ t),dN (eZ t)=12,aA [At.q k.1,.q k.2]=aA [At.q k.1,.q k.2],v=v,aA (eZ t)=aA (eZ t)],.nrm,[.slot 2 (.im u)]):=by kernel_rfl
theorem Vd (u:Value) (l:NS) (c:Int):aX prog (qG prog) 107 (fun _=>tC (T0.add 12 (Di u (.many [.fl (eZ l),.im (.int .i64 c)]))) (fun _=>none)) 80 (cA (cB (cB (cB lI)))) [.slot 2 (.im u)] [.slot 15 (.pt 15 0),.row 15 true (eZ l),.slot 16 (.im (.int .i64 c)),.slot 2 (.im u)]=some ([u=u],.nrm,[.slot 15 (.pt 15 0),.row 15 true (eZ l),.slot 16 (.im (.int .i64 c)),.slot 2 (.im u)]):=by kernel_rfl
theorem Io (u:Value) (c:Int):aX prog (qG prog) 107 (fun _=>tC (T0.add 12 (Di u (.many [.fl (vW),.im (.int .i64 c)]))) (fun _=>none)) 80 (cA (cB (cB (cB lI)))) [.slot 2 (.im u)] [.slot 15 (.pt 15 0),.row 15 true (vW),.slot 16 (.im (.int .i64 c)),.slot 2 (.im u)]=some ([u=u],.nrm,[.slot 15 (.pt 15 0),.row 15 true (vW),.slot 16 (.im (.int .i64 c)),.slot 2 (.im u)]):=by kernel_rfl
theorem Im (u:Value) (c:Int):aX prog (qG prog) 107 (fun _=>tC T0 (assoc [(89,.bool true)])) 80 (cA (cB (cB (cB (cB lI))))) [.slot 15 (.pt 15 0),.row 15 true (vW),.slot 16 (.im (.int .i64 c)),.slot 2 (.im u)] [.slot 6 (.im (.bool true))]=some ([aN .neq .i64 c 0=some (.bool true),aA (vW)=aA vW],.rt,[.slot 6 (.im (.bool true))]):=by kernel_rfl
theorem Vc (u:Value) (x:NS):aX prog (qG prog) 107 (fun _=>tC T0 (fun _=>none)) 80 (cA (cB (cB (cB (cB lI))))) [.slot 15 (.pt 15 0),.row 15 true (eZ x),.slot 16 (.im (.int .i64 0)),.slot 2 (.im u)] [.slot 15 (.pt 15 0),.row 15 true (eZ x),.slot 2 (.im u)]=some ([],.nrm,[.slot 15 (.pt 15 0),.row 15 true (eZ x),.slot 2 (.im u)]):=by kernel_rfl
theorem Il (u:Value) (x:NS):cX prog (qG prog) 107 (tC T0 fun _=>none) ((aE zN).extract 0 1) [.slot 15 (.pt 15 0),.row 15 true (eZ x),.slot 2 (.im u)] [.slot 94 (.fl (eZ x)),.slot 2 (.im u)]=some ([],[.slot 94 (.fl (eZ x)),.slot 2 (.im u)]):=by kernel_rfl
theorem Ik (u y:Value):cX prog (qG prog) 107 (tC T0 fun _=>none) ((aE zN).extract 2 7) [.slot 95 (.tu [.im y,.im (.int .i64 0)]),.slot 2 (.im u)] [.slot 17 (.im y),.slot 18 (.im (.int .i64 0)),.slot 2 (.im u)]=some ([],[.slot 17 (.im y),.slot 18 (.im (.int .i64 0)),.slot 2 (.im u)]):=by kernel_rfl
theorem Ij (u y:Value):cX prog (qG prog) 107 (tC T0 fun _=>none) ((aE nC).extract 0 3) [.slot 17 (.im y),.slot 18 (.im (.int .i64 0)),.slot 2 (.im u)] [.slot 100 (.im (.bool true)),.slot 17 (.im y),.slot 2 (.im u)]=some ([],[.slot 100 (.im (.bool true)),.slot 17 (.im y),.slot 2 (.im u)]):=by kernel_rfl
theorem Ii:cX prog (qG prog) 107 (tC T0 fun _=>none) ((aE nC).extract 8 10) [.slot 105 (.im (.bool true)),.slot 100 (.im (.bool true))] [.slot 6 (.im (.bool true))]=some ([],[.slot 6 (.im (.bool true))]):=by kernel_rfl
theorem nL {P:Program} {big:Array Oper} {Q:Exit→Act→World→Prop} {R:List Nat} {i:Nat} {o:Oper} (ho:big[i]?=some o) {a:Act} {w:World} (hw:Region.wanted o (yielded big a.tmps)=true) (h:o.wp P a w (fun a w=>wpOps P big Q R a w) Q):wpOps P big Q (i::R) a w:=by
 simp only[wpOps];rw[ho];simp only;rw[if_pos hw];exact Or.inl h
theorem aGn {w:World} {b o C:Nat} {l:List Nat} {n:Nat} (hn:l.length=n) (hr:w.rangeAt b o (aA (lN l))):(convert 25 9 (aM b o n C)).run prog w=.ok (pI l) w :=
 run_convert_bytes_arg (P:=prog) w 25 5 underlying25 underlying5 b o n C (l.map Int.ofNat) (by rw[List.length_map]; exact hn) (fun i hi=>by
  refine hr i _ ?_;rw[TR,List.getElem?_map,List.getD_eq_getElem?_getD,List.getElem?_map,List.getElem?_eq_getElem (show i<l.length by omega)];rfl) 9 underlying9
def RdG (w0:World) (u:Value):Prop:=(∃c:Int,c≠0∧∀w',Below w0.heap.size w0 w'→bG prog 12 (.many [.fl vW,.im (.int .i64 c)]) [u] w') ∨
 ∃x:NS,x.1.1<aG∧x.1.2<aG∧x.2<aG∧yG x=0∧(∀w',Below w0.heap.size w0 w'→bG prog 12 (.many [.fl (eZ x),.im (.int .i64 0)]) [u] w')∧∃b o m,u=aM b o 64 m∧b<w0.heap.size∧w0.rangeAt b o (aA (lN (yY x)))
theorem LH {w0:World} {v u:Value} {s:Nat} {t:NS} (hs:s<aG) (hz:jI s=true) (hS:∀w',Below w0.heap.size w0 w'→bG prog 9 (.many [.fl (eZ t),.im (.int .i64 0)]) [.agg (aA [At.q s]).toArray,v] w')
  (hV:∀w',Below w0.heap.size w0 w'→bG prog 13 (.one (.im (.int .i64 0))) [.agg (aA [At.q (pN s).1,.q (pN s).2]).toArray,v,.agg (aA (eZ t)).toArray] w')
  (h1:t.1.1<aG) (h2:t.1.2<aG) (h3:t.2<aG) (ht:yG t=0) (hu:RdG w0 u):bG prog 3 (.one (.im (.bool true))) [.agg (aA [At.q s]).toArray,v,u] w0:=by
 have hG:∀base w,bQ prog (qG prog) base w:=fun _ _=>(aV _).w _ _
 have hT:∀base w,∀n d:Nat,TabOkW prog T0 base w:=fun _ _ _ _=>(bP _).w _ _
 have hnt:f3.ntmps=107:=Uz;have tr:∀{w1 w2:World},Below w0.heap.size w0 w1→Below w1.heap.size w1 w2→Below w0.heap.size w0 w2:=fun h k=>h.trans (k.mono h.size)
 refine cM func3 (cs:=[.v (.fl [.q s]),.v (.im v),.v (.im u)]) (args:=[.agg (aA [At.q s]).toArray,v,u]) (c:=tF) rfl ⟨rfl,rfl,rfl,trivial⟩ (Nat.le_of_ble_eq_true (by kernel_rfl)) fun a w hA => ?_
 rw[hnt]at hA;rw[XY];refine wp_seq (aB aI (hT _ _) (hG _ _) (aCq s v u) trivial hA fun a w hA => ?_);refine wp_seq (aB aI (fun _ _=>((bP _).ad func8 (uU XL)).w _ _) (hG _ _) (aCp s v u) trivial hA fun a w hA => ?_);refine wp_seq (aB aI (fun _ _=>TabOkW.add ((bP _).w _ _) func9 (by kernel_rfl) (by kernel_rfl) fun w' hw=>DK (hS w' hw)) (hG _ _) (aCo s v u t) ⟨rfl,rfl,trivial⟩ hA fun a w hA => ?_);refine wp_seq (aB aI (fun _ _=>((bP _).ad func10 (aAi true)).w _ _) (hG _ _) (aCn s v u t) ⟨hs,hz,trivial⟩ hA fun a w hA => ?_);refine wp_seq (aB aI (hT _ _) (hG _ _) (aCm s v u t) trivial hA fun a w hA => ?_);refine wp_seq (bK (l:=List.range' 0 ((aE TD).extract 0 1).size++(1::(List.range' 2 ((aE TD).extract 2 7).size++[]))) (by kernel_rfl) ?_);refine aJ (c:=tC T0 _) (hT _ _ 0) (hG _ _) (Vb v u (pN s) t) trivial (by kernel_rfl) hA fun a w1 hA => ?_
 unfold TB at hA;obtain⟨b7,hA⟩:=hA.at (k:=7) (l:=eZ t) (by simp);obtain⟨b9,hA⟩:=hA.at (k:=9) (l:=[.q (pN s).1,.q (pN s).2]) (by simp);have m7:Own w1 b7 (eZ t):=hA.own (k:=7) (by simp) (by simp);have m9:Own w1 b9 [.q (pN s).1,.q (pN s).2]:=hA.own (k:=9) (by simp) (by simp);have B1:=hA.below;have t7:=hA.ptS (s:=7) (k:=7) (o:=0) (b:=b7) (by simp) (by simp);have t9:=hA.ptS (s:=9) (k:=9) (o:=0) (b:=b9) (by simp) (by simp);have t10:=hA.slot (s:=10) (v:=.int .i64 0) (by simp);have t1:=hA.slot (s:=1) (v:=v) (by simp[TC]);have t2:=hA.slot (s:=2) (v:=u) (by simp[TC]);have t47:=hA.slotF (s:=47) (l:=eZ t) (by simp);have hdf:=hA.defers;have hsz:=hA.size;clear hA;obtain⟨o1,ho1,⟨ts1,hop1⟩,hd1,hg1⟩:∃x,(aE TD)[1]?=some x∧(∃ts,x.op=.call ⟨.value (.func 11),#[.tmp 47],ts⟩)∧x.dst=some 48∧x.guard=none:=⟨_,rfl,⟨_,rfl⟩,rfl,rfl⟩
 refine bE ho1 hg1 (cQ hop1 (vs:=[.agg (aA (eZ t)).toArray]) (List.cons_eq_cons.2 ⟨cR t47,rfl⟩) (fun args=>cC func11 (by kernel_rfl) (by kernel_rfl) args _) (sW h1 h2 h3 ht w1) fun e w2 hq => ?_);obtain⟨bA,CA',rfl,hrA,hgeA,hb2,hapA⟩:=hq;refine⟨_,rfl,?_⟩;rw[hd1];have hltA:bA<w2.heap.size:=by obtain⟨cur,h,_⟩:=hapA; exact (Array.getElem?_eq_some_iff.1 h).1
 have hCA:64≤CA':=by obtain⟨cur,_,h,_⟩:=hapA; exact h
 have B2:=tr B1 hb2;have m7:=m7.on hb2;have m9:=m9.on hb2;have hS2:=jO (nt:=107) (w:=w2) (a:=a.put (some 48) (.tuple #[aM bA 0 64 CA',.int .i64 0])) (ts:=[(48,.tu [.im (aM bA 0 64 CA'),.im (.int .i64 0)]),(9,.im (ptV b9 0)),(10,.im (.int .i64 0)),(7,.im (ptV b7 0)),(1,.im v),(2,.im u)]) hdf (by rw[aH]; exact hsz) (fun x hx β=>by
  simp only[List.mem_cons,List.not_mem_nil,or_false]at hx
  rcases hx with rfl|rfl|rfl|rfl|rfl|rfl
  ·exact aT _ _ _ (by rw[hsz]; decide)
  ·exact aQ t9 (by simp)
  ·exact aQ t10 (by simp)
  ·exact aQ t7 (by simp)
  ·exact aQ t1 (by simp)
  ·exact aQ t2 (by simp))
 clear t7 t9 t10 t1 t2 t47;refine aJ (c:=tC T0 _) (hT _ _ 0) (hG _ _) (Va v u (ptV b7 0) (ptV b9 0) (aM bA 0 64 CA')) trivial (by kernel_rfl) hS2 fun a w3 hA => ?_
 have hrd:∀w',Below w2.heap.size w2 w'→bG prog 12 (.many [.fl (eZ t),.im (.int .i64 0)]) [aM bA 0 64 CA'] w':=fun w' hw=>OF h3 ht CA' _ w' hCA ⟨⟨bA,0,rfl,Nat.lt_of_lt_of_le hltA hw.size,bJ hw hltA hrA⟩,trivial⟩
 refine wp_seq (aB aI (fun _ _=>TabOkW.add ((bP _).w _ _) func12 (by kernel_rfl) (by kernel_rfl) fun w' hw=>DL (hrd w' hw)) (hG _ _) (aCl v u (ptV b7 0) (ptV b9 0) (aM bA 0 64 CA') t) ⟨rfl,trivial⟩ hA fun a w4 hA => ?_);refine wp_seq (aB aI (fun _ _=>TabOkW.add ((bP _).w _ _) func13 (by kernel_rfl) (by kernel_rfl) fun w' hw=>Nk (hV w' (tr B2 hw))) (dS w2 _ _ _) (aCk w2 v u b7 b9 bA CA' (pN s) t) ⟨⟨m7.lt,m7.row⟩,rfl,rfl,⟨m9.lt,m9.row⟩,rfl,⟨m7.lt,m7.row⟩,rfl,rfl,rfl,rfl,trivial⟩ hA fun a w5 hA => ?_)
 rcases hu with⟨c,hc,hR⟩|⟨x,x1,x2,x3,hx,hR,b,o,m,rfl,hbl,hrng⟩
 ·refine wp_seq (aB aI (fun _ _=>TabOkW.add ((bP _).w _ _) func12 (by kernel_rfl) (by kernel_rfl) fun w' hw=>DL (hR w' (tr B2 hw))) (hG _ _) (Io u c) ⟨rfl,trivial⟩ hA fun a w6 hA => ?_);refine wp_seq (aB aI (hT _ _) (hG _ _) (Im u c) ⟨CW hc,rfl,trivial⟩ hA fun a w7 hA => ?_);simp only[EA.out,Exit.then];exact cN (l:=[.im (.bool true)]) (r:=.one (.im (.bool true))) (by kernel_rfl) (by kernel_rfl) hA ⟨rfl,tr B2 hA.below⟩
 refine wp_seq (aB aI (fun _ _=>TabOkW.add ((bP _).w _ _) func12 (by kernel_rfl) (by kernel_rfl) fun w' hw=>DL (hR w' (tr B2 hw))) (hG _ _) (Vd (aM b o 64 m) x 0) ⟨rfl,trivial⟩ hA fun a w6 hA => ?_);refine wp_seq (aB aI (hT _ _) (hG _ _) (Vc (aM b o 64 m) x) trivial hA fun a w7 hA => ?_);refine wp_seq (bK (l:=List.range' 0 ((aE zN).extract 0 1).size++(1::(List.range' 2 ((aE zN).extract 2 7).size++[]))) (by kernel_rfl) ?_);refine aJ (c:=tC T0 _) (hT _ _ 0) (hG _ _) (Il (aM b o 64 m) x) trivial (by kernel_rfl) hA fun a w8 hA => ?_
 have B8:=tr B2 hA.below;obtain⟨o3,ho3,⟨ts3,hop3⟩,hd3,hg3⟩:∃x,(aE zN)[1]?=some x∧(∃ts,x.op=.call ⟨.value (.func 11),#[.tmp 94],ts⟩)∧x.dst=some 95∧x.guard=none:=⟨_,rfl,⟨_,rfl⟩,rfl,rfl⟩
 refine bE ho3 hg3 (cQ hop3 (vs:=[.agg (aA (eZ x)).toArray]) (List.cons_eq_cons.2 ⟨cR (hA.slotF (s:=94) (l:=eZ x) (by simp)),rfl⟩) (fun args=>cC func11 (by kernel_rfl) (by kernel_rfl) args _) (sW x1 x2 x3 hx w8) fun e w9 hq => ?_);obtain⟨bB,CB,rfl,hrB,hgeB,hb9,hapB⟩:=hq;refine⟨_,rfl,?_⟩;rw[hd3];have hltB:bB<w9.heap.size:=by obtain⟨cur,h,_⟩:=hapB; exact (Array.getElem?_eq_some_iff.1 h).1
 have B9:=tr B8 hb9;have hS9:=jO (nt:=107) (w:=w9) (a:=a.put (some 95) (.tuple #[aM bB 0 64 CB,.int .i64 0])) (ts:=[(95,.tu [.im (aM bB 0 64 CB),.im (.int .i64 0)]),(2,.im (aM b o 64 m))]) hA.defers (by rw[aH]; exact hA.size) (fun x hx β=>by
  simp only[List.mem_cons,List.not_mem_nil,or_false]at hx
  rcases hx with rfl|rfl
  ·exact aT _ _ _ (by rw[hA.size]; decide)
  ·exact aQ (hA.slot (s:=2) (v:=aM b o 64 m) (by simp)) (by simp))
 clear hA hS2;refine aJ (c:=tC T0 _) (hT _ _ 0) (hG _ _) (Ik (aM b o 64 m) (aM bB 0 64 CB)) trivial (by kernel_rfl) hS9 fun a w10 hA => ?_
 refine wp_seq (bK (l:=List.range' 0 ((aE nC).extract 0 3).size++(3::4::5::6::7::(List.range' 8 ((aE nC).extract 8 10).size++[]))) (by kernel_rfl) ?_);refine aJ (c:=tC T0 _) (hT _ _ 0) (hG _ _) (Ij (aM b o 64 m) (aM bB 0 64 CB)) trivial (by kernel_rfl) hA fun a0 w11 hA => ?_
 have hb11:=hA.below;have B11:=tr B9 hb11;have hrB:=bJ hb11 hltB hrB;have hrng:=bJ B11 hbl hrng;have t100:=hA.slot (s:=100) (v:=.bool true) (by simp);have t17:=hA.slot (s:=17) (v:=aM bB 0 64 CB) (by simp);have t2:=hA.slot (s:=2) (v:=aM b o 64 m) (by simp);have hs0:=hA.size;have hdf0:=hA.defers;clear hA hS9;have hwant:∀(a:Act) (q:Oper),q.guard=some (2,true)→a.tmps[100]?=some (.bool true)→Region.wanted q (yielded (aE nC) a.tmps)=true:=fun a q hg h100=>by
  have hy:((aE nC)[2]?).bind (·.dst)=some 100:=rfl;unfold Region.wanted yielded;rw[hg];simp[hy,h100]
 obtain⟨p3,hp3,hq3,hv3,hg3⟩:∃x,(aE nC)[3]?=some x∧x.op=.move (.tmp 17)∧x.dst=some 101∧x.guard=some (2,true):=⟨_,rfl,rfl,rfl,rfl⟩
 refine nL hp3 (hwant a0 p3 hg3 t100) (cD (v:=aM bB 0 64 CB) (w':=w11) (by simp only[execOp,hq3,Sem.run_bind,Sem.run_pure,Result.andThen_ok,cR t17]) ?_);rw[hv3];have t100:=aQ (d:=101) (u:=aM bB 0 64 CB) t100 (by decide);have t2:=aQ (d:=101) (u:=aM bB 0 64 CB) t2 (by decide);have t101:=aT a0 101 (aM bB 0 64 CB) (by rw[hs0]; decide);have hs1:(a0.put (some 101) (aM bB 0 64 CB)).tmps.size=107:=by rw[aH]; exact hs0
 have hdf1:(a0.put (some 101) (aM bB 0 64 CB)).defers=[]:=hdf0;generalize a0.put (some 101) (aM bB 0 64 CB)=a1 at *;obtain⟨p4,hp4,hq4,hv4,hg4⟩:∃x,(aE nC)[4]?=some x∧x.op=.convert 25 9 (.tmp 101)∧x.dst=some 102∧x.guard=some (2,true):=⟨_,rfl,rfl,rfl,rfl⟩
 have hc4:=aGn (C:=CB) (rT x) hrB;refine nL hp4 (hwant a1 p4 hg4 t100) (cD (v:=pI (yY x)) (w':=w11) (by simp[execOp,hq4,cR t101,hc4]) ?_);rw[hv4];have t100:=aQ (d:=102) (u:=pI (yY x)) t100 (by decide);have t2:=aQ (d:=102) (u:=pI (yY x)) t2 (by decide);have t102:=aT a1 102 (pI (yY x)) (by rw[hs1]; decide);have hs2:(a1.put (some 102) (pI (yY x))).tmps.size=107:=by rw[aH]; exact hs1
 have hdf2:(a1.put (some 102) (pI (yY x))).defers=[]:=hdf1;generalize a1.put (some 102) (pI (yY x))=a2 at *;obtain⟨p5,hp5,hq5,hv5,hg5⟩:∃x,(aE nC)[5]?=some x∧x.op=.move (.tmp 2)∧x.dst=some 103∧x.guard=some (2,true):=⟨_,rfl,rfl,rfl,rfl⟩
 refine nL hp5 (hwant a2 p5 hg5 t100) (cD (v:=aM b o 64 m) (w':=w11) (by simp only[execOp,hq5,Sem.run_bind,Sem.run_pure,Result.andThen_ok,cR t2]) ?_);rw[hv5];have t100:=aQ (d:=103) (u:=aM b o 64 m) t100 (by decide);have t102:=aQ (d:=103) (u:=aM b o 64 m) t102 (by decide);have t103:=aT a2 103 (aM b o 64 m) (by rw[hs2]; decide);have Mw:(a2.put (some 103) (aM b o 64 m)).tmps.size=107:=by rw[aH]; exact hs2
 have hdf3:(a2.put (some 103) (aM b o 64 m)).defers=[]:=hdf2;generalize a2.put (some 103) (aM b o 64 m)=a3 at *;obtain⟨p6,hp6,hq6,hv6,hg6⟩:∃x,(aE nC)[6]?=some x∧x.op=.convert 25 9 (.tmp 103)∧x.dst=some 104∧x.guard=some (2,true):=⟨_,rfl,rfl,rfl,rfl⟩
 have hc6:=aGn (C:=m) (rT x) hrng;refine nL hp6 (hwant a3 p6 hg6 t100) (cD (v:=pI (yY x)) (w':=w11) (by simp[execOp,hq6,cR t103,hc6]) ?_);rw[hv6];have t100:=aQ (d:=104) (u:=pI (yY x)) t100 (by decide);have t102:=aQ (d:=104) (u:=pI (yY x)) t102 (by decide);have t104:=aT a3 104 (pI (yY x)) (by rw[Mw]; decide);have hs4:(a3.put (some 104) (pI (yY x))).tmps.size=107:=by rw[aH]; exact Mw
 have hdf4:(a3.put (some 104) (pI (yY x))).defers=[]:=hdf3;generalize a3.put (some 104) (pI (yY x))=a4 at *;obtain⟨p7,hp7,⟨r7,hq7⟩,hv7,hg7⟩:∃x,(aE nC)[7]?=some x∧(∃r,x.op=.binOp .eql 9 (.tmp 102) (.tmp 104) r)∧x.dst=some 105∧x.guard=some (2,true):=⟨_,rfl,⟨_,rfl⟩,rfl,rfl⟩
 refine nL hp7 (hwant a4 p7 hg7 t100) (cD (v:=.bool true) (w':=w11) (by
  have e1:=cR t102;have e2:=cR t104;simp only[pI]at e1 e2;simp[execOp,hq7,e1,e2,eqGuard,binOp,Op.stringOp]) ?_)
 rw[hv7];have hS11:=aU (nt:=107) (w:=w11) (a:=a4.put (some 105) (.bool true)) (ts:=[(105,.bool true),(100,.bool true)]) hdf4 (by rw[aH]; exact hs4) (fun x hx=>by
  simp only[List.mem_cons,List.not_mem_nil,or_false]at hx
  rcases hx with rfl|rfl
  ·exact aT _ _ _ (by rw[hs4]; decide)
  ·exact aQ t100 (by simp))
 refine aJ (c:=tC T0 _) (hT _ _ 0) (hG _ _) Ii trivial (by kernel_rfl) hS11 fun a w12 hA => ?_
 exact wp_ret (cN (l:=[.im (.bool true)]) (r:=.one (.im (.bool true))) (by kernel_rfl) (by kernel_rfl) hA ⟨rfl,tr B11 hA.below⟩)
theorem Fz {w:World} {g o:Nat} {f:Nat→Nat} (h:BM w g o 64 f):w.rangeAt g o (aA (bj f++bj fun k=>f (32+k))):=fun j v hj=>by
 have hlen:(aA (bj f)).length=32:=rfl;rw[aP]at hj
 rcases Nat.lt_or_ge j 32 with hl|hl
 ·rw[List.getElem?_append_left (by rw[hlen]; exact hl),pF f j hl]at hj;rw[h.2.2 j (by omega)];exact hj
 ·rw[List.getElem?_append_right (by rw[hlen]; exact hl),hlen]at hj;have hl2:j-32<32:=by
   rcases Nat.lt_or_ge (j-32) 32 with q|q
   ·exact q
   ·rw[List.getElem?_eq_none (show (aA (bj fun k=>f (32+k))).length≤j-32 from q)]at hj; cases hj
  rw[pF _ _ hl2,show 32+(j-32)=j by omega]at hj;rw[h.2.2 j (by omega)];exact hj
theorem Vx {x:NS} {f:Nat→Nat} (h1:∀k,k<32→iT x.1 k=f k) (h2:∀k,k<32→bF x.2 k=f (32+k)):yY x=PD f++PD fun k=>f (32+k):=by
 unfold yY PD;congr 1
 ·exact List.map_congr_left fun k hk=>h1 k (List.mem_range.1 hk)
 ·exact List.map_congr_left fun k hk=>h2 k (List.mem_range.1 hk)
theorem Wi {w:World} {u:Value} {N:Nat} {f:Nat→Nat} (hb:BV w u N f):RdG w u:=by
 obtain⟨p,m,rfl,hm,hf,hp⟩:=hb
 by_cases hN:N=64
 rotate_left
 ·exact Or.inl ⟨3,by decide,fun w' _=>JL p N m hN w'⟩
 subst hN;obtain⟨g,o,rfl,hB⟩:=hp (by decide);have hr:=Fz hB;have ha:∀w',Below w.heap.size w w'→cP w' [.s (bj f++bj fun k=>f (32+k)) 64 m] [aM g o 64 m]:=fun w' hw=>⟨⟨g,o,rfl,Nat.lt_of_lt_of_le hB.1 hw.size,bJ hw hB.1 hr⟩,trivial⟩
 rcases VF hf (fun k=>hf (32+k))with⟨c,hc,hR⟩|⟨x,hx,hR,hk,h2⟩
 ·exact Or.inl ⟨c,hc,fun w' hw=>hR m _ w' hm (ha w' hw)⟩
 ·have hon:=tU (kV (JX hx));refine Or.inr ⟨x,hon.1,hon.2,Nat.lt_trans (Fh hx) NE,hx,fun w' hw=>hR m _ w' hm (ha w' hw),g,o,m,rfl,hB.1,?_⟩;rw[Vx (f:=f) hk (fun k hk=>by rw[h2]; exact uY (fun k=>hf (32+k)) k hk)];exact hr
theorem FB {w:World} {p p':Option Addr} {N m N' m' s:Nat} {fm fm':Nat→Nat} (hb:BV w (.slice p N m) N fm) (hb':BV w (.slice p' N' m') N' fm') (hs:s<aG) (hDj:Dbj w):bG prog 3 (.one (.im (.bool true))) [.agg (aA [At.q s]).toArray,.slice p N m,.slice p' N' m'] w:=by
 by_cases h:jI s=true∧N≤4096
 rotate_left
 ·exact TE hb hs hDj h
 obtain⟨hz,hN⟩:=h;obtain⟨q1,q2,q3⟩:=aIG s fm N;have hck:=aCV s fm N;have hv:vfN (pN s) fm N (wH s fm N)=0:=by
  have hiff:=Jm (fm:=fm) (N:=N) hz (OW (wH s fm N).1 (pN s) fm N);unfold vfN;rw[if_neg (by rw[hck]; decide),if_neg (by omega)];exact if_pos (hiff.2 rfl)
 refine LH hs hz (fun w' hw=>Jj (hb.on hw) hs (hDj.on hDj.lt hw) hz hN) (fun w' hw => ?_) q1 q2 q3 hck (Wi hb');have:=BN (hb.on hw) (Al s) (s:=wH s fm N) q1 q2 q3 (Or.inr hck) (hDj.on hDj.lt hw);rw[hv]at this;exact this
end Go.Proofs.YtpjlhhpjpnacmaaGreatDoor.Ex
namespace Go.Proofs.YtpjlhhpjpnacmaaGreatDoor
open Go.Proofs.Tryz
open Go.ChangeShapes Go.WideShapes Go.ChangeAt Go.RowKit
theorem own:ownKnob prog.godebug=none:=by kernel_rfl
theorem RF:laidOutB prog=true:=by kernel_rfl
theorem SY:prog.cellsOf 22=1:=by kernel_rfl
theorem aDS {α:Type} (l:List α) (h:(⟨l⟩:Array α).size=4):∃a b c d,l=[a,b,c,d]:=by
 match l,h with
 | [a,b,c,d],_=>exact⟨a,b,c,d,rfl⟩
theorem oW {n:Int} (h:(Lit.int .u64 n).wf=true):∃k:Nat,n=(k:Int)∧k<18446744073709551616:=by
 obtain⟨h1,h2⟩:=bounds_u64 h;obtain⟨k,rfl⟩:=Int.eq_ofNat_of_zero_le h1;exact⟨k,rfl,by omega⟩
open Go.Deep Go.ChangeShapes Go.WideShapes Go.ChangeAt Go.RowKit
def oQ:List (String×DataW Unit):=[("math/bits.deBruijn64tab",Rows.laid_math_bits_deBruijn64tab)]
theorem Er (os:Os) (args:Array Value):laidMetH prog oQ ((World.doorLaid prog 400 os).forCall (fun _ _=>0) ⟨#[],args,[]⟩).memory :=
 laidMetH_of_parts3 (fuel:=8) (laidMet_of_run' 8 (by kernel_rfl) (by kernel_rfl)) (by kernel_rfl) (by kernel_rfl)
theorem Ev:prog.globalNamed "math/bits.deBruijn64tab" = some 2:=by kernel_rfl
theorem aAu:(prog.globals[2]?).map (·.type)=some 271:=by kernel_rfl
theorem Eu:(Rows.laid_math_bits_deBruijn64tab:DataW Unit)=Lib.tabData .u8 (Lib.deBruijn64tab.map Int.ofNat):=by kernel_rfl
theorem VN:prog.cellsOf 271=64:=by kernel_rfl
theorem aAt:prog.cellsOf 5=1:=by kernel_rfl
theorem VM:(oQ.all fun x=>x.2.handleName?.isNone)=true:=by kernel_rfl
theorem JT {W:World} (h:laidMetH prog oQ W):Ex.Dbj W:=by
 rw[MakeChecks.laidMetH_plain _ _ _ VM]at h;have h2:laidMet prog [("math/bits.deBruijn64tab",Rows.laid_math_bits_deBruijn64tab)] W:=h;rw[Eu]at h2;have h3:=Lib.tabIs_of_head (g:=2) Ev aAu underlying271 underlying5 aAt VN h2;intro j hj;have h4:=h3.cell Ev j (by rw[List.length_map]; exact hj);rw[h4,List.getD_eq_getElem?_getD,List.getElem?_map,List.getD_eq_getElem?_getD,List.getElem?_eq_getElem hj];rfl
namespace Ex
theorem aBj {P:Program} {W:World} {base:Nat} {t n e:TypeId} {v:Value} (ht:P.underlying t=some (.array n e)) (h:Value.okWide P W .any base t v):∃cs,v=.agg cs∧cs.size=P.cellsOf t:=by
 obtain⟨cs,rfl,hs,_⟩:∃cs,v=.agg cs∧cs.size=P.cellsOf t∧Row.okWide P W .any base t cs:=by
  simpa[Value.okWide,ht]using h
 exact⟨cs,rfl,hs⟩
section
variable {H:Type} {enc:TypeId×Value→H} {W:World}
theorem Lp {base:Nat} {v:Value} {d:DataW H} {ps:List MemPlace} {pt:Array TypeId} {args:Array Value} (hval:∀(j:Nat) t v,pt[j]?=some t→args[j]?=some v→Value.okWide prog W .any base t v) (j:Nat) (hj:pt[j]?=some 24) (ha:args[j]?=some v)
  (h:DataW.Trod enc prog W 0 (fun _=>true) true 24 v d ps):∃x:Nat,x<aG∧v=.agg (aA [At.q x]).toArray:=by
 obtain⟨⟨l⟩,rfl,hs⟩:=aBj (t:=24) underlying24 (hval j 24 v hj ha);rw[show prog.cellsOf 24=4 by kernel_rfl]at hs;obtain⟨fuel,h⟩:=h;obtain⟨c0,c1,c2,c3,rfl⟩:=aDS l hs;obtain⟨y0,y1,y2,y3,m,hx,hy0,hy1,hy2,hy3⟩:=trod_array4 underlying24 SY h;obtain⟨x0,e0,rfl,w0⟩:=DataW.trod_int underlying22 hy0;obtain⟨x1,e1,rfl,w1⟩:=DataW.trod_int underlying22 hy1;obtain⟨x2,e2,rfl,w2⟩:=DataW.trod_int underlying22 hy2;obtain⟨x3,e3,rfl,w3⟩:=DataW.trod_int underlying22 hy3;simp at e0 e1 e2 e3;obtain⟨a0,rfl,k0⟩:=oW w0;obtain⟨a1,rfl,k1⟩:=oW w1;obtain⟨a2,rfl,k2⟩:=oW w2;obtain⟨a3,rfl,k3⟩:=oW w3;subst e0 e1 e2 e3;have hv:aC a0 a1 a2 a3<115792089237316195423570985008687907853269984665640564039457584007913129639936:=by unfold aC; omega
 obtain⟨q0,q1',q2',q3⟩:=gY ⟨k0,k1,k2,k3⟩ hv rfl;refine⟨aC a0 a1 a2 a3,hv,?_⟩;show _=Value.agg (w4 (aC a0 a1 a2 a3)++[]).toArray;unfold w4;rw[←q0,←q1',←q2',←q3];rfl
end
end Ex
theorem SW:prog.cellsOf 5=1:=by kernel_rfl
theorem SX:prog.bytesOf 5=1:=by kernel_rfl
theorem uP {H:Type} {enc:TypeId×Value→H} {W:World} {o:Option Addr} {len cap:Nat} {d:DataW H} {ps:List MemPlace} (h:DataW.Trod enc prog W 0 (fun _=>true) true 25 (.slice o len cap) d ps) (hl:∀x∈ps,x.block<W.heap.size)
  (hsz:∀elems spare,d=.slice elems spare→(elems.length+spare.length)*prog.bytesOf 5≤reachBytes) :
  ∃f,Ex.BV W (.slice o len cap) len f∧len≤140737488355327:=by
 obtain⟨fuel,hf⟩:=h
 rcases open_ints underlying25 underlying5 SW hf with⟨hcs,hx⟩|⟨a,len',cap',zs,hcs,_,hl',hm,hz,hx,hcell,hwz⟩
 ·simp[Value.cells]at hcs;obtain⟨rfl,rfl,rfl⟩:=hcs;exact⟨fun _=>0,⟨none,0,rfl,Nat.le_refl _,fun _=>Nat.zero_lt_succ _,fun h=>by omega⟩,by omega⟩
 ·simp[Value.cells]at hcs;obtain⟨rfl,rfl,rfl⟩:=hcs;simp only[Prod.mk.injEq]at hx;obtain⟨rfl,rfl⟩:=hx;simp only[if_true]at hz;have hs:=hsz _ _ rfl;rw[SX]at hs;have hlen:len≤140737488355327:=by
   have e1:(lits (H:=H) .u8 (zs.take len)).length=len:=by simp[lits]; omega
   rw[e1]at hs;simp only[reachBytes]at hs;omega
  have hB:∀k,∃n:Nat,n<256∧zs.getD k 0=(n:Int):=fun k=>by
   by_cases hk:k<zs.length
   ·have h1:=bounds_u8 (hwz (zs[k]) (List.getElem_mem hk));refine⟨(zs[k]).toNat,by omega,?_⟩;rw[List.getD_eq_getElem?_getD,List.getElem?_eq_getElem hk];show zs[k]=_;omega
   ·exact⟨0,by omega,by rw[List.getD_eq_getElem?_getD,List.getElem?_eq_none (by omega)]; rfl⟩
  refine⟨fun k=>Classical.choose (hB k),⟨_,cap,rfl,hl',fun k=>(Classical.choose_spec (hB k)).1,fun h0 => ?_⟩,hlen⟩;obtain⟨b,off,spot⟩:=a;have hspot:spot=none:=by simpa[Addr.add]using World.cell?_spot (hcell 0 (by omega))
  subst hspot;have hb:b<W.heap.size:=hl (.cell b off) (MemPlace.mem_row.2 ⟨0,by omega,by simp⟩);refine⟨b,off,rfl,hb,fun k=>(Classical.choose_spec (hB k)).1,fun k hk => ?_⟩;have e2:=(Classical.choose_spec (hB k)).2;have e3:=hcell k (by omega);rw[e2]at e3;have e4:(⟨b,off,none⟩:Addr).add k=⟨b,off+k,none⟩:=by simp[Addr.add]
  rw[e4]at e3;exact e3
open Go.ChangeShapes Go.WideShapes Go.ChangeAt Go.RowKit
theorem xY (os:Os) (started:os.Started) (H:Type) (enc:TypeId×Value→H) :
  ReturnsInHanded {} checked os 3 .any (fun w args=>(Rows.eddsaTakesSpec.pre enc prog f3 [] false w args∧laidMetH prog oQ w)∧sizedMet enc prog f3 (OpenSpec.ofChange Rows.eddsaTakesSpec) false w args)
   (Rows.eddsaTakesSpec.post enc prog f3 false true false false):=by
 refine returnsInHanded_of_change_and (C:=checked) (X:=fun w _=>laidMetH prog oQ w) (fun _ _ _ hh h=>h.of_heap hh) own started (by kernel_rfl) func3
  (ChangeSpec.witness_shaped (enc:=enc) (C:=checked) (os:=os) (X:=fun w _=>laidMetH prog oQ w) false (World.doorLaid prog 400 os) #[.agg #[.int .u64 0,.int .u64 0,.int .u64 0,.int .u64 0],.slice none 0 0,.slice none 0 0] 8 rfl (World.shaped_of_RefB (by kernel_rfl) (by kernel_rfl)) (by kernel_rfl) (by kernel_rfl) (by kernel_rfl) (Er os _)) ?_
 intro W base args ds gs before hval0 hW _ hsz0 hL _;have hDj:Ex.Dbj W:=JT hL;have hval:∀(j:Nat) t v,f3.params[j]?=some t→args[j]?=some v→Value.okWide prog W .any base t v:=hval0
 have hW':=hW;obtain⟨p,q,hA0,hV,rfl,_,_⟩:=hW;have hA:DataW.TrodAll enc prog W 0 (fun _=>true) true f3.params.toList args.toList ds p:=hA0;have hsz:(DataW.weightsEach prog (f3.params.toList++Rows.eddsaTakesSpec.plain.varTypes prog) (ds++gs)).all (· ≤ reachBytes)=true:=hsz0;rw[params3]at hA hval hsz;obtain⟨v0,v1,v2,d0,d1,d2,p0,p1,p2,rfl,rfl,rfl,h0,h1,h2⟩:=trodAll_three hA;obtain⟨rfl,rfl⟩:=trodVars_none hV;obtain⟨y0,g0,rfl⟩:=Ex.Lp hval 0 rfl rfl h0;obtain⟨bo1,bn1,bc1,rfl⟩:=okWide_slice underlying25 (hval 1 _ _ rfl rfl);obtain⟨bo2,bn2,bc2,rfl⟩:=okWide_slice underlying25 (hval 2 _ _ rfl rfl);clear hA0 hval0;simp only[List.append_nil]at hW';have l0:∀x∈p0,x.block<W.heap.size:=fun x hx=>hW'.lt x (by simp[hx])
 have l1:∀x∈p1,x.block<W.heap.size:=fun x hx=>hW'.lt x (by simp[hx])
 have l2:∀x∈p2,x.block<W.heap.size:=fun x hx=>hW'.lt x (by simp[hx])
 obtain⟨f1,bv1,nz1⟩:=uP h1 l1 (fun elems spare e=>sized_slice hsz (j:=1) (t:=25) (e:=5) rfl (by rw[e]; rfl) underlying25);obtain⟨f2,bv2,nz2⟩:=uP h2 l2 (fun elems spare e=>sized_slice hsz (j:=2) (t:=25) (e:=5) rfl (by rw[e]; rfl) underlying25);refine Calls.mono (Ex.FB bv1 bv2 g0 hDj) fun e W' ⟨he,hbl⟩ => ?_
 subst he;have kB:∀{v d ps},DataW.Trod enc prog W 0 (fun _=>true) true 25 v d ps→(∀x∈ps,x.block<W.heap.size)→DataW.Trod enc prog W' 0 (fun b=>decide (b<W.heap.size)) true 25 v d ps :=
  fun h l=>Below.trod RF (by kernel_rfl) (of_decide_eq_true (by kernel_rfl)) h hbl l
 have kW:∀{v d ps},DataW.Trod enc prog W 0 (fun _=>true) true 24 v d ps→(∀x∈ps,x.block<W.heap.size)→DataW.Trod enc prog W' 0 (fun b=>decide (b<W.heap.size)) true 24 v d ps :=
  fun h l=>Below.trod RF (by kernel_rfl) (of_decide_eq_true (by kernel_rfl)) h hbl l
 exact⟨_,rfl,⟨_,_,_,[],_,[],hW',trodAll_mk1 (shut_bool underlying4 _),trodAll_mk3 (kW h0 l0) (kB h1 l1) (kB h2 l2),rfl,hbl.frame _,fun h=>by cases h⟩⟩
theorem pU:Rows.EddsaTakesSaid :=
 OpenClaim.holds_of_wide 3 f3 rfl rfl rfl rfl rfl rfl rfl ⟨rfl,rfl,rfl,rfl,rfl⟩ rfl rfl rfl rfl rfl (by kernel_rfl) func3 (by kernel_rfl)
  (of_decide_eq_true (by kernel_rfl)) (by unfold Func.isWrapper; first|(rw[if_pos (by decide +kernel)]; kernel_rfl)|(rw[if_neg (by decide +kernel)]; exact⟨rfl,rfl⟩))
  (fun os started H enc _=>xY os started H enc)
end Go.Proofs.YtpjlhhpjpnacmaaGreatDoor
