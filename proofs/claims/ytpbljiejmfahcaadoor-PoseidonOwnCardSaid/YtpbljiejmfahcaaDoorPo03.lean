/- Po03 -/
import Derived.Laws.MakeOwn
import Derived.WalkKit
import Derived.WalkLawsBesides
import Derived.WalkSpells
import Derived.ProofKit
import Derived.RegionTactic
import Derived.BigRegion
import Derived.BigQuiet
import Derived.Deep.QuietTactic
import Derived.ChangeAlike
import Derived.Laws.Externs
import Derived.LoopN
import Derived.Below
import Derived.Lib.Hide
import Derived.Shelf.Strconv.Itoa0
import Derived.Shelf.Bits.Mul64
import Derived.StillTailTactics
import Derived.Laws.Bits64b
import Derived.Laws.Bits64
import Derived.Deep.Draws
import Derived.LoopTactic
import Derived.Deep.LoopGhost
import Derived.KernelRfl
import Derived.Deep.RegionWith
import Derived.Outline
import Derived.Test.YtpbljiejmfahcaaDoorPo02
import Derived.Test.YtpbljiejmfahcaaDoorProg
import Derived.Test.YtpbljiejmfahcaaDoorPo00
set_option maxRecDepth 100000
set_option linter.unusedVariables false
set_option linter.unusedSimpArgs false
set_option linter.unnecessarySimpa false
namespace Go.Proofs.YtpbljiejmfahcaaDoor.Ex
open Go.Proofs.Tryd
open Go.RowKit
def Ok (P:Program) (base:Nat) (w0:World) (nt:Nat) (c:Code) (A:List Fact) (e:EA) (L:List Fact):Prop :=
 ∃q C f ps,bD P q base w0∧(∀n d,TabOkW P ((C n).T d) base w0)∧aJ P q nt C f c A L=some (ps,e,L)∧aW ps
section
variable {P:Program} {nt base:Nat} {w0:World} {Q:Exit→Act→World→Prop}
theorem Ok.wp (hm:P.follows .mixedOrders=true) {c:Code} {A L:List Fact} {e:EA} (h:Ok P base w0 nt c A e L) {a:Act} {w:World} (hA:Holds nt base w0 A a w) (hQ:∀a w,Holds nt base w0 L a w→Q e.out a w):c.wp P Q a w:=by
 obtain⟨q,C,f,ps,h1,h2,h3,h4⟩:=h;exact aA hm h2 h1 h3 h4 hA hQ
theorem dS (hm:P.follows .mixedOrders=true) {c:Code} (A:Nat→List Fact) (N:Nat) (hstep:∀i,i<N→Ok P base w0 nt c (A i) .nrm (A (i+1)))
  (e:EA) (he:e ≠ .nrm) (A':List Fact) (hend:Ok P base w0 nt c (A N) e A')
  {a:Act} {w:World} (hA:Holds nt base w0 (A 0) a w) (hQ:∀a w,Holds nt base w0 A' a w→Q e.out a w):(Code.loop c).wp P Q a w:=by
 have key:∀m i a w,i+m=N→Holds nt base w0 (A i) a w→Un P c Q (m+1) a w:=by
  intro m
  induction m with
  | zero =>
   intro i a w hi hA;have:i=N:=by omega
   subst this;unfold Un;refine hend.wp hm hA fun a w hA1 => ?_
   have:=hQ a w hA1;cases e with
   | nrm=>exact (he rfl).elim
   | ex id=>exact this
   | rt=>exact this
  | succ m ih =>
   intro i a w hi hA;unfold Un;exact (hstep i (by omega)).wp hm hA fun a w hA1=>ih (i+1) a w (by omega) hA1
 exact dI (key N 0 a w (by omega) hA)
end
theorem TabOkW.add {P:Program} {T:Tab} {base:Nat} {w0:World} (hT:TabOkW P T base w0) {f:Nat} {fn:Func} (hf:P.funcs[f]?=some fn) (hn:(fn.name == "runtime.NumGoroutine")=false) (hb:fn.body.isNone=false) {g:List CA→Option (List Prop×RV)}
  (h:∀w,Below base w0 w→∀cs pre r,g cs=some (pre,r)→aW pre→∀(args:List Value),dV w cs args→Calls P f args.toArray w (fun e w'=>e=.returned r.den∧Below w.heap.size w w')):TabOkW P (T.add f g) base w0:=by
 intro w hw f' cs pre r hg hp;unfold Tab.add at hg;cases hb':Nat.beq f' f<;>rw[hb']at hg
 ·exact hT w hw f' cs pre r hg hp
 ·cases Nat.eq_of_beq_eq_true hb';exact⟨bG hf hn hb,h w hw cs pre r hg hp⟩
theorem oldOf.go {base:Nat} {w0 w:World} (hb:Below base w0 w) (hbase:base≤w0.heap.size) {b o:Nat} {l:List At} (h:b<base∧w0.rangeAt b o (aB l)):oldOf w b o l :=
 ⟨Nat.lt_of_lt_of_le h.1 (Nat.le_trans hbase hb.size),dE hb h.1 h.2⟩
def aD {α:Type}:List (Nat×α)→Nat→Option α
 | [],_=>none
 | (k,v)::r,s=>bif Nat.beq k s then some v else aD r s
def iI (n:Nat):Value:=.int .i64 (Int.ofNat n)
def aT (b o n m:Nat):Value:=.slice (some ⟨b,o,none⟩) n m
def ptV (b o:Nat):Value:=.pointer (some ⟨b,o,none⟩)
theorem iJ {n:Nat} (h:n<9223372036854775808):IntKind.i64.wrap (n:Int)=n:=by rw[IntKind.wrap_i64]; omega
theorem Dk {i n:Nat}:aF .lss .i64 (Int.ofNat i) (Int.ofNat n)=some (.bool (decide (i<n))):=by
 show some (Value.bool (decide ((i:Int)<(n:Int))))=_
 by_cases h:i<n
 ·rw[decide_eq_true h,decide_eq_true (by omega)]
 ·rw[decide_eq_false h,decide_eq_false (by omega)]
theorem bZ {i n:Nat} (h:i<n):aF .lss .i64 (Int.ofNat i) (Int.ofNat n)=some (.bool true):=by rw[Dk,decide_eq_true h]
theorem bV {i n:Nat} (h:n≤i):aF .lss .i64 (Int.ofNat i) (Int.ofNat n)=some (.bool false):=by rw[Dk,decide_eq_false (by omega)]
theorem dT {i k:Nat} (h:i+k<9223372036854775808):aF .add .i64 (Int.ofNat i) (Int.ofNat k)=some (iI (i+k)):=by
 show some (Value.int .i64 (IntKind.i64.wrap ((i:Int)+(k:Int))))=_;rw[show (i:Int)+(k:Int)=((i+k:Nat):Int) by omega,iJ h];rfl
theorem AN {i k:Nat} (h:k≤i) (hi:i<9223372036854775808):aF .sub .i64 (Int.ofNat i) (Int.ofNat k)=some (iI (i-k)):=by
 show some (Value.int .i64 (IntKind.i64.wrap ((i:Int)-(k:Int))))=_;rw[show (i:Int)-(k:Int)=((i-k:Nat):Int) by omega,iJ (by omega)];rfl
theorem Pm {i k:Nat} (h:i*k<9223372036854775808):aF .mul .i64 (Int.ofNat i) (Int.ofNat k)=some (iI (i*k)):=by
 show some (Value.int .i64 (IntKind.i64.wrap ((i:Int)*(k:Int))))=_;rw[show (i:Int)*(k:Int)=((i*k:Nat):Int) by simp,iJ h];rfl
theorem Pl {i k:Nat} (hk:0<k) (h:i<9223372036854775808):aF .quo .i64 (Int.ofNat i) (Int.ofNat k)=some (iI (i/k)):=by
 show (if (k:Int)=0 then none else some (Value.int .i64 (IntKind.i64.wrap ((i:Int).tdiv (k:Int)))))=_;rw[if_neg (by omega),show (i:Int).tdiv (k:Int)=((i/k:Nat):Int)from rfl,iJ (Nat.lt_of_le_of_lt (Nat.div_le_self _ _) h)];rfl
theorem Dj {i n:Nat}:aF .neq .i64 (Int.ofNat i) (Int.ofNat n)=some (.bool (decide (i≠n))):=by
 show some (Value.bool ((i:Int) != (n:Int)))=_
 by_cases h:i=n
 ·subst h; simp
 ·rw[decide_eq_true h,bne_iff_ne.2 (by omega)]
section
variable {E:Env} {ops big:Array Oper} {base:Nat} {w0:World} {A A':List Fact} {TF:List (Option Nat×Fact)} {rs:List Rec} {ps:List Prop} {Q:Exit→Act→World→Prop}
theorem yS {off:Nat} {R:List Nat} (hT:∀d,TabOkW E.P (E.T d) base w0) (hq:bD E.P E.q base w0) (hrun:qT E false ops ops.toList 0 (A.map fun φ=>(none,φ)) [] []=some (ps,TF,rs)) (hps:aW ps) (hchk:VX false ops rs=true)
  (hsub:∀i,i<ops.size→big[off+i]?=ops[i]?) (hg:∀(i:Nat) (o:Oper),ops[i]?=some o→o.guard=none)
  (hQ:∀a w,Inv E false ops base w0 TF rs (fun i=>i<ops.size) a w→wpOps E.P big Q R a w) :
  ∀(m k:Nat) (a:Act) (w:World),k+m=ops.size→Inv E false ops base w0 TF rs (fun i=>i<k) a w→wpOps E.P big Q (List.range' (off+k) m++R) a w
 | 0,k,a,w,hk,hI=>by
  have:k=ops.size:=by omega
  subst this;exact hQ a w hI
 | m+1,k,a,w,hk,hI=>by
  have hlt:k<ops.size:=by omega
  have ho:ops[k]?=some ops[k]:=Array.getElem?_eq_getElem hlt;have hst:=nH hT hq hrun hps hchk (Q:=Q) hI ho (Nat.lt_irrefl k) (fun j hj=>by unfold FW at hj; simpa using hj);have hgk:=hg k _ ho;have hw1:∀y,Region.wanted ops[k] y=true:=fun y=>by unfold Region.wanted; rw[hgk]
  rw[if_pos (hw1 _)]at hst;simp only[List.range'_succ,List.cons_append,wpOps];rw[hsub k hlt,ho];simp only;have hnext:∀a' w',Inv E false ops base w0 TF rs (fun j=>j=k∨j<k) a' w'→wpOps E.P big Q (List.range' (off+k+1) m++R) a' w':=fun a' w' h=>by
   have:=yS hT hq hrun hps hchk hsub hg hQ m (k+1) a' w' (by omega) (by
    have:(fun j=>j<k+1)=fun j=>j=k∨j<k:=funext fun j=>propext (by omega)
    rwa [this])
   rwa [←Nat.add_assoc]at this
  rw[if_pos (hw1 _)];exact Or.inl (Oper.wp_mono hnext hst)
theorem EL {off:Nat} {R:List Nat} (hT:∀d,TabOkW E.P (E.T d) base w0) (hq:bD E.P E.q base w0) (h:tO E false ops A=some (ps,A')) (hps:aW ps)
  (hsub:∀i,i<ops.size→big[off+i]?=ops[i]?) (hg:ops.toList.all (fun o=>o.guard.isNone)=true) {a:Act} {w:World} (hA:Holds E.nt base w0 A a w)
  (hQ:∀a w,Holds E.nt base w0 A' a w→wpOps E.P big Q R a w):wpOps E.P big Q (List.range' off ops.size++R) a w:=by
 unfold tO at h;split at h
 ·rename_i ps' TF rs hrun;cases hc:(VX false ops rs&&VU false ops)<;>rw[hc]at h
  ·cases h
  ·cases h;rw[Bool.and_eq_true]at hc;have hg':∀(i:Nat) (o:Oper),ops[i]?=some o→o.guard=none:=fun i o ho=>by
    rw[List.all_eq_true]at hg;have:=hg o (Array.mem_toList_iff.2 (Array.mem_of_getElem? ho));simpa using this
   have:=yS (off:=off) (R:=R) (Q:=Q) hT hq hrun hps hc.1 hsub hg' (fun a w hI=>hQ a w (mA hrun (fun _ h=>h) hI)) ops.size 0 a w (by omega) (by
    have:(fun i=>i<0)=fun _:Nat=>False:=funext fun i=>propext ⟨fun h=>by omega,fun h=>h.elim⟩
    rw[this];exact gF hrun hA)
   rwa [Nat.add_zero]at this
 ·cases h
end
def cS (P:Program) (q:EqT) (nt:Nat) (c:Cfg) (ops:Array Oper) (A K:List Fact):Option (List Prop×List Fact) :=
 match tO (Dl P q nt c) false ops A with
 | some (ps,A1)=>match pick A1 K with|some L=>some (ps,L)|none=>none
 | none=>none
theorem AE {P:Program} {q:EqT} {nt base off:Nat} {c:Cfg} {w0:World} {ops big:Array Oper} {A K L:List Fact} {ps:List Prop} {Q:Exit→Act→World→Prop} {R:List Nat} (hT:∀d,TabOkW P (c.T d) base w0) (hq:bD P q base w0) (h:cS P q nt c ops A K=some (ps,L)) (hps:aW ps)
  (hsub:∀i,i<ops.size→big[off+i]?=ops[i]?) (hg:ops.toList.all (fun o=>o.guard.isNone)=true) {a:Act} {w:World} (hA:Holds nt base w0 A a w)
  (hQ:∀a w,Holds nt base w0 L a w→wpOps P big Q R a w):wpOps P big Q (List.range' off ops.size++R) a w:=by
 unfold cS at h;split at h
 ·rename_i ps' A1 h1;split at h
  ·rename_i L' h2;cases h;exact EL (E:=Dl P q nt c) hT hq h1 hps hsub hg hA fun a w hA1=>hQ a w (hA1.sub (fL h2))
  ·cases h
 ·cases h
theorem aK {P:Program} {q:EqT} {nt base s e:Nat} {c:Cfg} {w0:World} {big:Array Oper} {A K L:List Fact} {ps:List Prop} {Q:Exit→Act→World→Prop} {R:List Nat} (hT:∀d,TabOkW P (c.T d) base w0) (hq:bD P q base w0) (h:cS P q nt c (big.extract s e) A K=some (ps,L)) (hps:aW ps)
  (hg:(big.extract s e).toList.all (fun o=>o.guard.isNone)=true) {a:Act} {w:World} (hA:Holds nt base w0 A a w)
  (hQ:∀a w,Holds nt base w0 L a w→wpOps P big Q R a w):wpOps P big Q (List.range' s (big.extract s e).size++R) a w :=
 AE hT hq h hps (fun i hi=>by
  have hi':i<min e big.size-s:=by simpa using hi
  rw[Array.getElem?_extract,if_pos hi']) hg hA hQ
theorem bC {P:Program} {big:Array Oper} {Q:Exit→Act→World→Prop} {R:List Nat} {i:Nat} {o:Oper} (ho:big[i]?=some o) (hg:o.guard=none) {a:Act} {w:World} (h:o.wp P a w (fun a w=>wpOps P big Q R a w) Q):wpOps P big Q (i::R) a w:=by
 simp only[wpOps];rw[ho];simp only;have hw:∀y,Region.wanted o y=true:=fun y=>by unfold Region.wanted; rw[hg]
 rw[if_pos (hw _)];exact Or.inl h
def aE:Code→Array Oper
 | .region _ ops _=>ops
 | _ => #[]
section
variable {P:Program} {nt base:Nat} {w0:World} {A:List Fact} {a:Act} {w:World}
theorem Holds.im (h:Holds nt base w0 A a w) {s k o n m b:Nat} (h1:Fact.slot s (.sl k o n m)∈A) (h2:Fact.at k b∈A):Holds nt base w0 (.slot s (.im (aT b o n m))::A) a w:=by
 obtain⟨β,g1,g2,g3⟩:=h.facts;have e1:=g1 _ h1;have e2:=g1 _ h2;simp only[Fact.ok]at e1 e2;have up:∀k1 o1 l1,Fact.row k1 o1 l1∈(Fact.slot s (.im (aT b o n m))::A)→Fact.row k1 o1 l1∈A:=fun k1 o1 l1 e=>by
  rcases List.mem_cons.1 e with e|e
  ·cases e
  ·exact e
 refine⟨h.defers,h.size,h.below,h.heap,β,fun φ hφ => ?_,fun k1 k2 o2 l1 l2 q1 q2=>g2 k1 k2 o2 l1 l2 (up _ _ _ q1) (up _ _ _ q2),fun k1 l1 e=>g3.1 k1 l1 (up _ _ _ e),g3.2⟩
 rcases List.mem_cons.1 hφ with rfl|hφ
 ·show a.tmps[s]?=_;rw[e1];simp[AV.den,e2,aT]
 ·exact g1 φ hφ
theorem Holds.old (h:Holds nt base w0 A a w) {k b:Nat} {l:List At} (h1:Fact.row k true l∈A) (h2:Fact.at k b∈A):oldOf w b 0 l:=by
 obtain⟨β,g1,g2⟩:=h.facts;obtain⟨e1,e2,_⟩:=g1 _ h1;have e3:=g1 _ h2;simp only[Fact.ok]at e3;rw[e3.1]at e1 e2;rw[e3.2]at e2;exact⟨e1,e2⟩
theorem Holds.slot (h:Holds nt base w0 A a w) {s:Nat} {v:Value} (h1:Fact.slot s (.im v)∈A):a.tmps[s]?=some v:=by
 obtain⟨β,g1,g2⟩:=h.facts;exact g1 _ h1
theorem Holds.slotF (h:Holds nt base w0 A a w) {s:Nat} {l:List At} (h1:Fact.slot s (.fl l)∈A):a.tmps[s]?=some (.agg (aB l).toArray):=by
 obtain⟨β,g1,g2⟩:=h.facts;exact g1 _ h1
theorem Holds.put (h:Holds nt base w0 A a w) {w':World} (hb:Below w.heap.size w w') {d:Nat} (hd:d<nt) (v:TV) (hA:∀φ∈A,gE (some d) none φ=false):Holds nt base w0 (.slot d v.av::A) (a.put (some d) v.den) w':=by
 obtain⟨β,g1,g2,g3,gt⟩:=h.facts;have hP:=oP (base:=base) (β:=β) (a:=a) (w:=w) (w':=w') (M:=A) v.av (d:=d) (by rw[h.size]; exact hd) h.heap hb;rw[TV.av_den]at hP;have up:∀k1 o1 l1,Fact.row k1 o1 l1∈(Fact.slot d v.av::A)→Fact.row k1 o1 l1∈A:=fun k1 o1 l1 e=>by
  rcases List.mem_cons.1 e with e|e
  ·cases e
  ·exact e
 refine⟨by rw[fR]; exact h.defers,by rw[aR]; exact h.size,h.below.trans (hb.mono h.heap),Nat.le_trans h.heap hb.size,β,fun φ hφ => ?_,fun k1 k2 o2 l1 l2 q1 q2=>g2 k1 k2 o2 l1 l2 (up _ _ _ q1) (up _ _ _ q2),fun k1 l1 e=>g3 k1 l1 (up _ _ _ e),Nat.le_trans gt.size hb.size,fun p h1 h2 => ?_,gt.shape.trans (Shape.below hb)⟩
 ·rcases List.mem_cons.1 hφ with rfl|hφ
  ·exact hP.ok _ (List.mem_singleton.2 rfl)
  ·exact keep hP (g1 φ hφ) (hA φ hφ) fun kk k own l q=>by cases q
 ·have hlt:=Nat.lt_of_lt_of_le h2 gt.size;have:=gt.mem p h1 h2;exact⟨(hb.cell hlt).trans this.1,(hb.frozen hlt).trans this.2⟩
end
def aG (f:Nat→List At):Nat→Nat→List At
 | _,0=>[]
 | s,n+1=>f s++aG f (s+1) n
theorem BY (f:Nat→List At):∀n s,aG f s (n+1)=aG f s n++f (s+n)
 | 0,s=>by simp[aG]
 | n+1,s=>by
  have:=BY f n (s+1);show f s++aG f (s+1) (n+1)=(f s++aG f (s+1) n)++f (s+(n+1));rw[this,List.append_assoc,show s+1+n=s+(n+1) by omega]
theorem dY {f:Nat→List At} {c:Nat} (h:∀j,bW (f j)=c):∀n s,bW (aG f s n)=n*c
 | 0,s=>by simp[aG,bW]
 | n+1,s=>by
  show bW (f s++aG f (s+1) n)=_;rw[jM,h,dY h n,Nat.add_mul,Nat.one_mul,Nat.add_comm]
theorem fE (f:Nat→List At):∀(i n s:Nat),i<n→aG f s n=aG f s i++(f (s+i)++aG f (s+i+1) (n-i-1))
 | 0,n+1,s,_=>rfl
 | i+1,n+1,s,h=>by
  have:=fE f i n (s+1) (by omega);show f s++aG f (s+1) n=(f s++aG f (s+1) i)++_;rw[this,List.append_assoc,show s+1+i=s+(i+1) by omega,show n+1-(i+1)-1=n-i-1 by omega]
theorem vG {f g:Nat→List At} (h:∀j,f j=g j) (s n:Nat):aG f s n=aG g s n:=by rw[show f=g from funext h]
theorem OK (a:At):0<a.sz:=by cases a<;>exact Nat.succ_pos _
theorem DE:∀(A X:List At),tk (A++X) (bW A)=some A
 | [],X=>by cases X<;>rfl
 | a::r,X=>by
  have h:=OK a;show tk (a::(r++X)) (a.sz+bW r)=_;unfold tk;rw[show Nat.beq (a.sz+bW r) 0=false by cases hq:Nat.beq (a.sz+bW r) 0; rfl; exact absurd (Nat.eq_of_beq_eq_true hq) (by omega),show Nat.ble a.sz (a.sz+bW r)=true by simp,Nat.add_sub_cancel_left,DE r X];rfl
theorem xM:∀(A X:List At),dp (A++X) (bW A)=some X
 | [],X=>by cases X<;>rfl
 | a::r,X=>by
  have h:=OK a;show dp (a::(r++X)) (a.sz+bW r)=_;unfold dp;rw[show Nat.beq (a.sz+bW r) 0=false by cases hq:Nat.beq (a.sz+bW r) 0; rfl; exact absurd (Nat.eq_of_beq_eq_true hq) (by omega),show Nat.ble a.sz (a.sz+bW r)=true by simp,Nat.add_sub_cancel_left];exact xM r X
theorem XI (A m s:List At) {o n:Nat} (ho:o=bW A) (hn:n=bW m):pY (A++(m++s)) o n=some m:=by
 subst ho; subst hn;unfold pY;rw[xM];exact DE m s
theorem jI (A m s v:List At) {o:Nat} (ho:o=bW A) (hn:bW v=bW m):put (A++(m++s)) o v=some (A++(v++s)):=by
 subst ho;unfold put;rw[DE,xM];simp only;rw[hn,xM]
theorem IF {f:Nat→List At} {c N i o:Nat} (h:∀j,bW (f j)=c) (hi:i<N) (ho:o=i*c):pY (aG f 0 N) o c=some (f i):=by
 rw[fE f i N 0 hi,Nat.zero_add];exact XI _ _ _ (by rw[dY h,ho]) (h i).symm
def jZ (f:Nat→List At) (z:List At) (N i:Nat):List At:=aG f 0 i++aG (fun _=>z) i (N-i)
theorem SD (f:Nat→List At) (z:List At) (N:Nat):jZ f z N 0=aG (fun _=>z) 0 N:=by unfold jZ; simp[aG]
theorem SC (f:Nat→List At) (z:List At) (N:Nat):jZ f z N N=aG f 0 N:=by unfold jZ; simp[aG]
theorem zK {f:Nat→List At} {z:List At} {c N i o:Nat} (h:∀j,bW (f j)=c) (hz:bW z=c) (hi:i<N) (ho:o=i*c):put (jZ f z N i) o (f i)=some (jZ f z N (i+1)):=by
 unfold jZ;rw[show N-i=(N-(i+1))+1 by omega];show put (aG f 0 i++(z++aG (fun _=>z) (i+1) (N-(i+1)))) o (f i)=_;rw[jI _ _ _ _ (by rw[dY h,ho]) (by rw[h,hz]),BY,Nat.zero_add,List.append_assoc]
theorem LH {w:World} {b o:Nat} {f:Nat→List At} {c N i:Nat} (h:∀j,bW (f j)=c) (hi:i<N) (hr:w.rangeAt b o (aB (aG f 0 N))):w.rangeAt b (o+i*c) (aB (f i)) :=
 cD hr (IF h hi rfl)
def tH (l:List Value) (v:Value):Prop:=l=List.replicate l.length v
theorem PF {l m:List Value} {v:Value} (h:tH l v) (k:tH m v):tH (l++m) v:=by
 unfold tH at *;rw[h,k];simp[List.replicate_append_replicate]
theorem BZ {z:List At} {v:Value} (h:tH (aB z) v):∀n s,tH (aB (aG (fun _=>z) s n)) v
 | 0,s=>rfl
 | n+1,s=>by
  show tH (aB (z++aG (fun _=>z) (s+1) n)) v;rw[aL];exact PF h (BZ h n (s+1))
theorem Yg {P:Program} {t e:TypeId} {i:TypeInfo} {zv:Value} {z:List At} {v:Value} {N:Nat} (ht:P.underlying t=some (.slice e)) (hi:P.info? e=some i) (hz:i.zero=some zv) (hs:i.size=bW z) (hv:zv.cells.toList=List.replicate i.size v) (hsame:tH (aB z) v) (h0:0<bW z)
  (hb:i.bytes*N≤281474976710656) (hN:N<4611686018427387904) :
  ∃e,∀w:World,(Instr.makeSlice t (iI N) (iI N)).run P w=.ok (.slice (some ⟨w.heap.size,0,none⟩) N N) (w.alloc (.cells (aB (aG (fun _=>z) 0 N)).toArray e)):=by
 refine⟨e,fun w => ?_⟩;have hr:=Go.run_make (P:=P) w t e i zv ht hi hz .i64 .i64 (N:Int) (N:Int) (by omega) (Int.le_refl _) (by rw[←Int.natCast_mul]; omega) (by omega);refine Eq.trans hr ?_;have hsz:zv.cells.size=i.size:=by rw[←Array.length_toList,hv,List.length_replicate]
 have hc:madeCells zv.cells (N*i.size)=(aB (aG (fun _=>z) 0 N)).toArray:=by
  have hl:=dY (f:=fun _=>z) (c:=bW z) (fun _=>rfl) N 0;have h2:=BZ hsame N 0;rw[h2,aM,hl,←hs];unfold madeCells;apply Array.ext
  ·simp
  ·intro j h1 h3;simp only[Array.getElem_map,Array.getElem_range,List.getElem_toArray,List.getElem_replicate];have hj:j%zv.cells.size<zv.cells.size:=Nat.mod_lt _ (by rw[hsz,hs]; exact h0);have e1:zv.cells.toList[j%zv.cells.size]?=some v:=by
    rw[hv,List.getElem?_replicate,if_pos (by omega)]
   rw[Array.getElem?_toList]at e1;rw[getElem!_def,e1]
 simp only[Int.toNat_natCast,hc]
theorem uQ {P:Program} {t e:TypeId} {z:List At} {v:Value} {N n by8:Nat} (ht:P.underlying t=some (.slice e)) (hi:(P.info? e).map (fun i=>(i.zero.map (fun z=>z.cells.toList),i.size,i.bytes))=some (some (List.replicate n v),n,by8)) (hs:bW z=n) (hsame:tH (aB z) v) (h0:0<n)
  (hb:by8*N≤281474976710656) (hN:N<4611686018427387904) :
  ∃e,∀w:World,(Instr.makeSlice t (iI N) (iI N)).run P w=.ok (.slice (some ⟨w.heap.size,0,none⟩) N N) (w.alloc (.cells (aB (aG (fun _=>z) 0 N)).toArray e)):=by
 cases hq:P.info? e with
 | none=>rw[hq]at hi; cases hi
 | some it =>
  rw[hq]at hi;cases hz:it.zero with
  | none=>rw[Option.map_some,hz]at hi; cases hi
  | some zv =>
   rw[Option.map_some,hz]at hi;simp only[Option.map_some,Option.some.injEq,Prod.mk.injEq]at hi;obtain⟨h1,h2,h3⟩:=hi;exact Yg ht hq hz (by rw[h2,hs]) (by rw[h2,h1]) hsame (by rw[hs]; exact h0) (by rw[h3]; exact hb) hN
theorem bI {P:Program} {id:Nat} {ops:Array Oper} {l:List Nat} (hl:List.range ops.size=l) {Q:Exit→Act→World→Prop} {a:Act} {w:World} (h:wpOps P ops Q l a w):(Code.region id ops false).wp P Q a w:=wp_region (by rw[hl]; exact h)
theorem bR {P:Program} {fn:Func} {A:List Fact} {l:List TV} {r:RV} {nt base:Nat} {w0:World} (h1:mI P A fn.results.toList=some l) (h2:rv l=some r) {a:Act} {w':World} (hA:Holds nt base w0 A a w') {R:Ending→World→Prop} (hR:R (.returned r.den) w'):bodyPost P fn R .ret a w':=by
 obtain⟨β',hok,_⟩:=hA.facts;have hres:(results fn a.tmps).run P w'=.ok r.den w':=by
  have:=gN hok h1;show ((fn.results.mapM (oN a.tmps)) >>= fun vs=>pure (if h:vs.size=1 then vs[0]else .tuple vs):Sem Value).run P w'=_;have hm:(List.toArray <$> fn.results.toList.mapM (oN a.tmps)).run P w'=.ok (l.map TV.den).toArray w':=by simp[this]
  rw[Array.mapM_eq_mapM_toList,Sem.run_bind,hm,Result.andThen_ok,Sem.run_pure];exact congrArg (fun x=>Result.ok x w') (wE h2)
 exact⟨hA.defers,_,hres,hR⟩
theorem Holds.now {nt base:Nat} {w0:World} {A:List Fact} {a:Act} {w:World} (h:Holds nt base w0 A a w):Holds nt base w A a w:=by
 obtain⟨β,h1,h2,h3,h4⟩:=h.facts;exact⟨h.defers,h.size,Below.refl _ _,h.heap,β,h1,h2,h3,h4.size,fun _ _ _=>⟨rfl,rfl⟩,Shape.refl _⟩
theorem WrAt.refl (w:World) (b:Nat):WrAt w w b []:=⟨rfl,rfl,rfl,Nat.le_refl _,fun _ _ _=>rfl,Shape.refl _,fun _=>rfl⟩
theorem WrAt.below {w w1 w2:World} {b:Nat} (hb:b<w.heap.size) (h:WrAt w w1 b []) (h2:Below w.heap.size w1 w2):WrAt w w2 b [] :=
 ⟨h2.os.trans h.os,h2.tape.trans h.tape,h2.output.trans h.output,Nat.le_trans h.size h2.size,fun k hk hne=>(h2.block k hk).trans (h.block k hk hne),
  ⟨fun q cur e hq=>by
   obtain⟨c,h3,h4⟩:=h.shape.1 q cur e hq;exact⟨c,(h2.block q (Array.getElem?_eq_some_iff.1 hq).1).trans h3,h4⟩,Nat.le_trans h.size h2.size,fun q o hq ho=>(h2.block q (Array.getElem?_eq_some_iff.1 hq).1).trans (h.shape.2.same q o hq ho)⟩,fun j=>(World.frozen?_of_block (h2.block b hb)).trans (h.frozen j)⟩
theorem kJ (b:Nat):∀(vs:List Value) (o:Nat) (w:World) (k:Nat),k≠b→(w.setCells b o vs).heap[k]?=w.heap[k]?
 | [],_,_,_,_=>rfl
 | v::r,o,w,k,h=>by
  rw[World.setCells,kJ b r (o+1) _ k h];exact Below.heap_setCell w _ v k h
theorem iG (b:Nat):∀(vs:List Value) (o:Nat) (w:World),(w.setCells b o vs).os=w.os∧(w.setCells b o vs).tape=w.tape∧(w.setCells b o vs).output=w.output
 | [],_,_=>⟨rfl,rfl,rfl⟩
 | v::r,o,w=>by rw[World.setCells]; exact iG b r (o+1) _
theorem WrAt.set {w w1:World} {b:Nat} (h:WrAt w w1 b []) (o:Nat) (vs:List Value):WrAt w (w1.setCells b o vs) b [] :=
 ⟨(iG b vs o w1).1.trans h.os,(iG b vs o w1).2.1.trans h.tape,(iG b vs o w1).2.2.trans h.output,by rw[cE]; exact h.size,fun k hk hne=>(kJ b vs o w1 k hne).trans (h.block k hk hne),
  h.shape.trans (dB b vs o w1),fun j=>by rw[World.frozen?_setCells]; exact h.frozen j⟩
theorem Holds.post {nt base:Nat} {w0:World} {A:List Fact} {a:Act} {w:World} (h:Holds nt base w0 A a w) {dst kill:Option Nat} {out:List Fact} {a':Act} {w':World}
  (hP:∀β,(∀φ∈A,φ.ok base β a w)→∃β',PostB base β β' a w dst A out kill a' w') (hd:gQ dst nt=false:=by kernel_rfl):Holds nt base w0 (out++A.filter (fun φ => !(gE dst kill φ))) a' w':=by
 obtain⟨β,g1,g2,g3,gt⟩:=h.facts;obtain⟨β',P⟩:=hP β g1;have hkill:∀φ∈A,gE dst kill φ=false→∀kk k own l,kill=some kk→φ=.row k own l→(β kk).1≠(β k).1:=fun φ hφ hc kk k own l hkk e=>by
  obtain⟨l0,hl0⟩:=P.kills kk hkk;have hne:kk≠k:=fun e2=>by
   rw[e]at hc;simp only[gE,Bool.or_eq_false_iff]at hc;have:=cI.2 (e2▸hkk:kill=some k);rw[hc.2]at this; cases this
  subst e;exact g2 kk k own l0 l hl0 hφ hne
 have hmem:∀φ∈A.filter (fun φ => !(gE dst kill φ)),φ∈A∧gE dst kill φ=false:=fun φ hφ=>by
  obtain⟨h1,h2⟩:=List.mem_filter.1 hφ;exact⟨h1,by simpa using h2⟩
 have hβ:∀k own l,Fact.row k own l∈A.filter (fun φ => !(gE dst kill φ))→β' k=β k:=fun k own l hφ=>by
  obtain⟨_,hc⟩:=hmem _ hφ;simp only[gE,Bool.or_eq_false_iff]at hc;exact P.beta k fun e=>by have:=cI.2 e; rw[hc.1]at this; cases this
 have hno:∀k l k' o' l',Fact.row k true l∈out→Fact.row k' o' l'∈A.filter (fun φ => !(gE dst kill φ))→k≠k'→(β' k).1≠(β' k').1:=fun k l k' o' l' hk hk' hne=>by
  rw[hβ k' o' l' hk'];obtain⟨hA',hc⟩:=hmem _ hk'
  rcases P.rows k l hk with⟨h2,_⟩|⟨h2,l0,h3⟩|⟨h2,k0,l0,hk0,he,h3⟩
  ·have:=(g1 _ hA').1;omega
  ·rw[P.beta k h2];exact g2 k k' o' l0 l' h3 hA' hne
  ·rw[he];refine g2 k0 k' o' l0 l' h3 hA' fun e => ?_
   subst e;simp only[gE,Bool.or_eq_false_iff]at hc;have:=cI.2 hk0;rw[hc.2]at this; cases this
 have hnt:β' nt=β nt:=P.beta nt fun e=>by have:=cI.2 e; rw[hd]at this; cases this
 refine⟨by rw[P.defers]; exact h.defers,by rw[P.size]; exact h.size,P.below w0 h.below,Nat.le_trans h.heap P.heap,β',fun φ hφ => ?_,fun k k' o' l l' hk hk' hne => ?_,fun k l hk => ?_,by rw[hnt]; exact Nat.le_trans gt.size P.heap,fun p q1 q2 => ?_,gt.shape.trans P.shape⟩
 ·rcases List.mem_append.1 hφ with hφ|hφ
  ·exact P.ok φ hφ
  ·obtain⟨h1,h2⟩:=hmem φ hφ;exact keep P (g1 φ h1) h2 (hkill φ h1 h2)
 ·rcases List.mem_append.1 hk with hk|hk
  ·rcases List.mem_append.1 hk' with hk'|hk'
   ·cases o' with
    | true=>exact absurd (P.one k k' l l' hk hk') hne
    | false=>exact (P.onlyOwn k' l' hk').elim
   ·exact hno k l k' o' l' hk hk' hne
  ·rcases List.mem_append.1 hk' with hk'|hk'
   ·cases o' with
    | true=>exact fun e=>hno k' l' k true l hk' hk (Ne.symm hne) e.symm
    | false=>exact (P.onlyOwn k' l' hk').elim
   ·rw[hβ k true l hk,hβ k' o' l' hk'];exact g2 k k' o' l l' (hmem _ hk).1 (hmem _ hk').1 hne
 ·rw[hnt]
  rcases List.mem_append.1 hk with hk|hk
  ·rcases P.rows k l hk with⟨h2,_⟩|⟨h2,l0,h3⟩|⟨h2,k0,l0,hk0,he,h3⟩
   ·exact Or.inr (Nat.le_trans gt.size h2)
   ·rw[P.beta k h2];exact g3 k l0 h3
   ·rw[he];exact g3 k0 l0 h3
  ·rw[hβ k true l hk];exact g3 k l (hmem _ hk).1
 ·rw[hnt]at q2;have h3:=P.mem p (Nat.lt_of_lt_of_le q2 gt.size) fun kk hkk e=>by
   obtain⟨l0,hl0⟩:=P.kills kk hkk
   rcases g3 kk l0 hl0 with h4|h4<;>omega
  have h4:=gt.mem p q1 q2;exact⟨h3.1.trans h4.1,h3.2.trans h4.2⟩
theorem bT {P:Program} {o:Oper} {a:Act} {w:World} {K:Act→World→Prop} {Q:Exit→Act→World→Prop} {id:Nat} {xs:Array Operand} {ts:Array TypeId} {vs:List Value} {R:Ending→World→Prop} (ho:o.op=.call ⟨.value (.func id),xs,ts⟩) (hv:xs.toList.map a.eval=vs)
  (he:∀xs,(callFunc id xs).run P w=.ok (.enter id xs) w) (hc:Calls P id vs.toArray w R) (hK:∀e w',R e w'→∃v,e=.returned v∧K (a.put o.dst v) w'):o.wp P a w K Q:=by
 have ea:xs.map a.eval=vs.toArray:=by rw[←Array.toArray_toList (xs:=xs.map a.eval),Array.toList_map,hv]
 have hrun:(execOp a.eval o).run P w=.ok (.enter id vs.toArray) w:=by
  have hf:a.eval (.func id)=.func (.func id) #[] #[]:=rfl;simp[execOp,ho,resolve,Deferred.ofValue,hf,invoke,ea,he]
 unfold Oper.wp;rw[hrun];refine Calls.mono hc ?_;intro e w' hr;obtain⟨v,rfl,hk⟩:=hK e w' hr;exact hk
end Go.Proofs.YtpbljiejmfahcaaDoor.Ex
namespace Go.Proofs.YtpbljiejmfahcaaDoor
open Go.Proofs.Tryd
open Go.RowKit
theorem oI (x y c:Nat) (hc:c≤1) (w:World) :
  (callFunc 69 #[.int .u64 (x:Int),.int .u64 (y:Int),.int .u64 (c:Int)]).run prog w =
   .ok (.value (.tuple #[.int .u64 (GG x y c:Nat),.int .u64 (GH x y c:Nat)])) w:=by
 rw[run_callFunc_extern func69 (by kernel_rfl) (by kernel_rfl) (by kernel_rfl) (e:=add64Entry) (by kernel_rfl),run_add64 x y c (by omega) (by omega) (by omega) (by omega)];simp only[Result.andThen];unfold GG GH;congr 5<;>omega
theorem DU (x y:Nat) (w:World) :
  (callFunc 69 #[.int .u64 (x:Int),.int .u64 (y:Int),.int .u64 0]).run prog w =
   .ok (.value (.tuple #[.int .u64 (GG x y 0:Nat),.int .u64 (GH x y 0:Nat)])) w:=oI x y 0 (by omega) w
def OL:Array Value→Sem Value:=fun args=>do
 let (x,y,b) ←Extern.MathBitsCarry.three "Sub64" args
 pure (Extern.MathBitsCarry.pair ((x+Extern.MathBitsCarry.m64-y-b)%Extern.MathBitsCarry.m64) (if x<y+b then 1 else 0))
theorem DP {P:Program} (x y b:Nat) (hb:b≤1) (w:World) :
  (OL #[.int .u64 x,.int .u64 y,.int .u64 b]).run P w=.ok (.tuple #[.int .u64 (DG x y b:Nat),.int .u64 (DH x y b:Nat)]) w:=by
 have:b=0∨b=1:=by omega
 rcases this with rfl|rfl<;>rfl
theorem uD (x y c:Nat) (hc:c≤1) (w:World) :
  (callFunc 56 #[.int .u64 (x:Int),.int .u64 (y:Int),.int .u64 (c:Int)]).run prog w =
   .ok (.value (.tuple #[.int .u64 (DG x y c:Nat),.int .u64 (DH x y c:Nat)])) w:=by
 rw[run_callFunc_extern func56 (by kernel_rfl) (by kernel_rfl) (by kernel_rfl) (e:=OL) (by kernel_rfl),DP x y c hc];rfl
theorem DT (x y:Nat) (w:World) :
  (callFunc 56 #[.int .u64 (x:Int),.int .u64 (y:Int),.int .u64 0]).run prog w =
   .ok (.value (.tuple #[.int .u64 (DG x y 0:Nat),.int .u64 (DH x y 0:Nat)])) w:=uD x y 0 (by omega) w
theorem sT {x y c:Nat} (hx:x<18446744073709551616) (hy:y<18446744073709551616) (hc:c≤1):∃d b:Nat,(∀w,(callFunc 69 #[.int .u64 (x:Int),.int .u64 (y:Int),.int .u64 (c:Int)]).run prog w =
   .ok (.value (.tuple #[.int .u64 (d:Int),.int .u64 (b:Int)])) w)∧d<18446744073709551616∧b≤1∧Hid (d+18446744073709551616*b=x+y+c) :=
 ⟨_,_,oI x y c hc,xY _ _ _,xZ hx hy hc,VF x y c⟩
theorem oY {x y:Nat} (hx:x<18446744073709551616) (hy:y<18446744073709551616):∃d b:Nat,(∀w,(callFunc 69 #[.int .u64 (x:Int),.int .u64 (y:Int),.int .u64 0]).run prog w =
   .ok (.value (.tuple #[.int .u64 (d:Int),.int .u64 (b:Int)])) w)∧d<18446744073709551616∧b≤1∧Hid (d+18446744073709551616*b=x+y) :=
 ⟨_,_,DU x y,xY _ _ _,xZ hx hy (Nat.zero_le _),VF x y 0⟩
theorem jA {x y c:Nat} (hx:x<18446744073709551616) (hy:y<18446744073709551616) (hc:c≤1):∃d b:Nat,(∀w,(callFunc 56 #[.int .u64 (x:Int),.int .u64 (y:Int),.int .u64 (c:Int)]).run prog w =
   .ok (.value (.tuple #[.int .u64 (d:Int),.int .u64 (b:Int)])) w)∧d<18446744073709551616∧b≤1∧Hid (d+y+c=x+18446744073709551616*b) :=
 ⟨_,_,uD x y c hc,GX _ _ _,GY _ _ _,Cz hx hy hc⟩
theorem uZ {x y:Nat} (hx:x<18446744073709551616) (hy:y<18446744073709551616):∃d b:Nat,(∀w,(callFunc 56 #[.int .u64 (x:Int),.int .u64 (y:Int),.int .u64 0]).run prog w =
   .ok (.value (.tuple #[.int .u64 (d:Int),.int .u64 (b:Int)])) w)∧d<18446744073709551616∧b≤1∧Hid (d+y=x+18446744073709551616*b) :=
 ⟨_,_,DT x y,GX _ _ _,GY _ _ _,Cz hx hy (Nat.zero_le _)⟩
def KP (A B:Nat) (w:World) (e:Ending) (w':World):Prop :=
 ∃s0 s1 s2 s3 c:Nat,e=.returned (.tuple #[.agg #[.int .u64 s0,.int .u64 s1,.int .u64 s2,.int .u64 s3],.int .u64 c])∧bY s0 s1 s2 s3∧c≤1∧aC s0 s1 s2 s3+B=A+115792089237316195423570985008687907853269984665640564039457584007913129639936*c∧Below w.heap.size w w'
theorem KZ (a0 a1 a2 a3 b0 b1 b2 b3:Nat) (ha:bY a0 a1 a2 a3) (hb:bY b0 b1 b2 b3) (w:World) :
  Calls prog 75 #[.agg #[.int .u64 a0,.int .u64 a1,.int .u64 a2,.int .u64 a3],.agg #[.int .u64 b0,.int .u64 b1,.int .u64 b2,.int .u64 b3]] w (KP (aC a0 a1 a2 a3) (aC b0 b1 b2 b3) w):=by
 obtain⟨s0,c0,r0,bs0,bc0,e0⟩:=uZ ha.1 hb.1;obtain⟨s1,c1,r1,bs1,bc1,e1⟩:=jA ha.2.1 hb.2.1 bc0;obtain⟨s2,c2,r2,bs2,bc2,e2⟩:=jA ha.2.2.1 hb.2.2.1 bc1;obtain⟨s3,c3,r3,bs3,bc3,e3⟩:=jA ha.2.2.2 hb.2.2.2 bc2
 go_enter func75,ntmps75
 go_wp2
 refine wp_loop_rounds 5 ?_;rw[rounds_succ]
 go_wp2
 go_region
 go_wp2
 rw[rounds_succ]
 go_wp2
 go_region
 go_wp2
 rw[rounds_succ]
 go_wp2
 go_region
 go_wp2
 rw[rounds_succ]
 go_wp2
 go_region
 go_wp2
 rw[rounds_succ]
 go_wp2
 refine bodyPost_ret (v:=.tuple #[.agg #[.int .u64 s0,.int .u64 s1,.int .u64 s2,.int .u64 s3],.int .u64 c3]) (by simp[results,results75,go_sem]) rfl ?_;refine⟨_,_,_,_,_,rfl,⟨bs0,bs1,bs2,bs3⟩,bc3,by have:=e0.out; have:=e1.out; have:=e2.out; have:=e3.out; unfold aC; omega,?_⟩
 repeat (first|exact Below.refl _ _|refine Below.drew ?_|refine Below.alloc ?_ (by first|(simp; done)|(simp; omega)) _)
theorem pM {W w1:World} (hb:Below W.heap.size W w1):(∀b o,b<W.heap.size→w1.cell? ⟨b,o,none⟩=W.cell? ⟨b,o,none⟩)∧(∀b o,b<W.heap.size→w1.frozen? ⟨b,o,none⟩=W.frozen? ⟨b,o,none⟩) :=
 ⟨fun b o h=>hb.cell (p:=⟨b,o,none⟩) h,fun b o h=>hb.frozen (p:=⟨b,o,none⟩) h⟩
def Bm (a0 a1 a2 a3 b0 b1 b2 b3:Nat):Bool:=decide (a0=b0∧a1=b1∧a2=b2∧a3=b3)
theorem TM (d:Nat) (a0 a1 a2 a3 b0 b1 b2 b3:Nat) (w:World):(Op.equalIn (d+1+1) 52 (.agg #[.int .u64 a0,.int .u64 a1,.int .u64 a2,.int .u64 a3]) (.agg #[.int .u64 b0,.int .u64 b1,.int .u64 b2,.int .u64 b3])).run prog w=.ok (Bm a0 a1 a2 a3 b0 b1 b2 b3) w:=by
 have h0:∀(x y:Int) (w:World),(Op.equalIn (d+1) 32 (.int .u64 x) (.int .u64 y)).run prog w=.ok (x==y) w:=fun x y w=>run_equalIn_int w d 32 .u64 .u64 x y underlying32
 rw[Op.equalIn];simp only[Sem.run_bind,run_underlying underlying52,Result.andThen_ok,Tryd.sizeOf32];simp[Std.Legacy.Range.forIn_eq_forIn_range',Std.Legacy.Range.size,List.range',part,h0,Sem.run_bind,Result.andThen_ok];unfold Bm
 by_cases q0:a0=b0<;>by_cases q1:a1=b1<;>by_cases q2:a2=b2<;>by_cases q3:a3=b3<;>simp[q0,q1,q2,q3]<;>omega
theorem xL {a0 a1 a2 a3 b0 b1 b2 b3:Nat} (ha:bY a0 a1 a2 a3) (hb:bY b0 b1 b2 b3):Bm a0 a1 a2 a3 b0 b1 b2 b3=true↔aC a0 a1 a2 a3=aC b0 b1 b2 b3:=by
 unfold Bm; rw[decide_eq_true_iff];exact⟨fun⟨h0,h1,h2,h3⟩=>by rw[h0,h1,h2,h3],yH ha hb⟩
def cJ (A B:Nat):Int:=if A=B then 0 else if A<B then -1 else 1
end Go.Proofs.YtpbljiejmfahcaaDoor
namespace Go.Proofs
open Go.Shelf
def Tryd.lays129_ren:Go.Shelf.Ren:=⟨fun|129=>80|n=>n,fun|53=>32|3=>3|4=>4|46=>105|5=>5|9=>9|n=>n,fun|n=>n⟩
theorem Tryd.lays129:Go.Proofs.Lays.n129 prog Tryd.lays129_ren:={
 mixed:=by kernel_rfl
 f129:=func80.trans (congrArg some (by kernel_rfl))
 t3:=underlying3
 a3:=Tryd.isAgg3
 z3:=Tryd.sizeOf3
 v3:=Tryd.zeroValue3
 t4:=underlying4
 a4:=Tryd.isAgg4
 z4:=Tryd.sizeOf4
 v4:=Tryd.zeroValue4
 t5:=underlying5
 a5:=Tryd.isAgg5
 z5:=Tryd.sizeOf5
 v5:=Tryd.zeroValue5
 t9:=underlying9
 a9:=Tryd.isAgg9
 z9:=Tryd.sizeOf9
 v9:=Tryd.zeroValue9
 t46:=underlying105
 a46:=Tryd.isAgg105
 z46:=Tryd.sizeOf105
 v46:=Tryd.zeroValue105
 t53:=underlying32
 a53:=Tryd.isAgg32
 z53:=Tryd.sizeOf32
 v53:=Tryd.zeroValue32 }
theorem Tryd.bits_Len64 (x:Int) (w:World) (h0:0≤x) (h1:x≤18446744073709551615) :
  Calls prog 80 #[.int .u64 x] w fun e w'=>e=.returned (.int .i64 (Lib.bitLen x.toNat))∧w'=w:=Any.bits_Len64 Tryd.lays129 x w h0 h1
def Tryd.lays264_ren:Go.Shelf.Ren:=⟨fun|264=>77|n=>n,fun|53=>32|46=>105|n=>n,fun|n=>n⟩
theorem Tryd.lays264:Go.Proofs.Lays.n264 prog Tryd.lays264_ren:={
 mixed:=by kernel_rfl
 f264:=func77.trans (congrArg some (by kernel_rfl))
 t46:=underlying105
 a46:=Tryd.isAgg105
 z46:=Tryd.sizeOf105
 v46:=Tryd.zeroValue105
 t53:=underlying32
 a53:=Tryd.isAgg32
 z53:=Tryd.sizeOf32
 v53:=Tryd.zeroValue32 }
open Go.RowKit Go.Lib in
theorem Tryd.bits_Mul64 (x y:Nat) (hx:x<18446744073709551616) (hy:y<18446744073709551616) (w:World) :
  Calls prog 77 #[.int .u64 x,.int .u64 y] w fun e w'=>e=.returned (.tuple #[.int .u64 ((x*y/18446744073709551616:Nat):Int),.int .u64 ((x*y%18446744073709551616:Nat):Int)])∧w'=w:=Any.bits_Mul64 Tryd.lays264 x y hx hy w
end Go.Proofs
namespace Go.Proofs.YtpbljiejmfahcaaDoor
open Go.Proofs.Tryd
open Go.RowKit
theorem AT (x y:Nat) (hx:x<18446744073709551616) (hy:y<18446744073709551616) (w:World) :
  Calls prog 77 #[.int .u64 x,.int .u64 y] w fun e w'=>e=.returned (.tuple #[.int .u64 (RJ x y:Nat),.int .u64 (RI x y:Nat)])∧w'=w :=
 Tryd.bits_Mul64 x y hx hy w
theorem TL {x y:Nat} (hx:x<18446744073709551616) (hy:y<18446744073709551616):∃h l:Nat,(∀w,Calls prog 77 #[.int .u64 x,.int .u64 y] w fun e w'=>e=.returned (.tuple #[.int .u64 (h:Nat),.int .u64 (l:Nat)])∧w'=w)∧h≤18446744073709551614∧l<18446744073709551616∧Hid (l+18446744073709551616*h=x*y) :=
 ⟨_,_,AT x y hx hy,ZZ hx hy,ZY _ _,Pt x y⟩
theorem CX (x:Nat):IntKind.u64.wrap (x:Int)=((x%18446744073709551616:Nat):Int):=by rw[IntKind.wrap_u64]; omega
theorem Bo {Y:Nat} (h:Y<18446744073709551616):∃a b:Nat,(Y:Int)/4294967296=(a:Int)∧bits .and .u64 (Y:Int) 4294967295=(b:Int)∧a<4294967296∧b<4294967296∧Y=a*4294967296+b:=by
 refine⟨Y/4294967296,Y%4294967296,by omega,?_,by omega,by omega,by omega⟩;have h':=bits_and_u64_nat Y 4294967295 h (by omega);rw[show Y &&& 4294967295=Y%4294967296 from Nat.and_two_pow_sub_one_eq_mod Y 32]at h';exact h'
section
variable {y1 y0 u u1 q r:Nat}
end
theorem If {y:Nat} (h0:1≤y) (hy:y<18446744073709551616):Lib.bitLen y=y.log2+1∧2^y.log2≤y∧y<2^(y.log2+1)∧y.log2≤63:=by
 have a:=Nat.log2_self_le (show y≠0 by omega);have b:y<2^(y.log2+1):=Nat.lt_log2_self;refine⟨?_,a,b,?_⟩
 ·rw[Lib.bitLen_shift y.log2 y a hy];have:y/2^y.log2=1:=by
   rw[Nat.pow_succ]at b;exact (Nat.div_eq_iff (Nat.two_pow_pos _)).2 ⟨by omega,by omega⟩
  rw[this]; rfl
 ·have:=(Nat.log2_lt (show y≠0 by omega)).2 (show y<2^64 from hy);omega
def RowIs (w:World) (b n:Nat) (P:Nat→Nat):Prop:=∀k,k<n→w.cell? ⟨b,k,none⟩=some (.int .u64 (P k:Nat))∧w.frozen? ⟨b,k,none⟩=false
def dJ (P:Nat→Nat) (i v:Nat):Nat→Nat:=fun k=>if k=i then v else P k
def dX (l:List Nat):Nat→Nat:=fun k=>l.getD k 0
section
variable {w w':World} {b n i v:Nat} {P:Nat→Nat}
theorem RowIs.cell (h:RowIs w b n P) (hi:i<n):w.cell? ⟨b,i,none⟩=some (.int .u64 (P i:Nat)):=(h i hi).1
theorem RowIs.free (h:RowIs w b n P) (hi:i<n):w.frozen? ⟨b,i,none⟩=false:=(h i hi).2
theorem RowIs.set (h:RowIs w b n P) (hi:i<n):RowIs (w.setCell ⟨b,i,none⟩ (.int .u64 (v:Nat))) b n (dJ P i v):=by
 intro k hk;refine⟨?_,by rw[World.frozen?_setCell]; exact h.free hk⟩;unfold dJ
 by_cases e:k=i
 ·subst e; rw[if_pos rfl]; exact World.cell?_setCell_same (h:=h.cell hk) ..
 ·rw[if_neg e,World.cell?_setCell_other (h:=fun he=>e (by simpa using (congrArg Addr.off he).symm)) ..]; exact h.cell hk
theorem RowIs.other (h:RowIs w b n P) {c:Nat} (hc:c≠b) (x:Value):RowIs (w.setCell ⟨c,i,none⟩ x) b n P:=by
 intro k hk;exact⟨by rw[World.cell?_setCell_other (h:=fun he=>hc (by simpa using congrArg Addr.block he)) ..]; exact h.cell hk,by rw[World.frozen?_setCell]; exact h.free hk⟩
theorem RowIs.drew (h:RowIs w b n P):RowIs w.drew b n P:=h
theorem RowIs.drewN (h:RowIs w b n P) (m:Nat):RowIs (w.drewN m) b n P:=h
theorem RowIs.below (h:RowIs w b n P) {B:Nat} (hb:Below B w w') (hB:b<B):RowIs w' b n P:=by
 intro k hk;exact⟨by rw[hb.cell (p:=⟨b,k,none⟩) hB]; exact h.cell hk,by rw[hb.frozen (p:=⟨b,k,none⟩) hB]; exact h.free hk⟩
theorem RowIs.alloc (h:RowIs w b n P) (hb:b<w.heap.size) (o:Obj):RowIs (w.alloc o) b n P :=
 h.below ((Below.refl w.heap.size w).alloc (Nat.le_refl _) o) hb
theorem RowIs.mk (w:World) (t:TypeId) (l:List Nat) (b:Nat) (hb:b=w.heap.size):RowIs (w.alloc (.cells (l.map fun x=>Value.int .u64 (x:Nat)).toArray t)) b l.length (dX l):=by
 subst hb;intro k hk;refine⟨?_,World.frozen?_alloc_new _ _ _ _⟩;rw[World.cell?_alloc_new];simp[dX,hk]
end
structure Row4 (w:World) (b:Nat) (c0 c1 c2 c3:Nat):Prop where
 c0:w.cell? ⟨b,0,none⟩=some (.int .u64 c0)
 c1:w.cell? ⟨b,1,none⟩=some (.int .u64 c1)
 c2:w.cell? ⟨b,2,none⟩=some (.int .u64 c2)
 c3:w.cell? ⟨b,3,none⟩=some (.int .u64 c3)
 fr:∀k,w.frozen? ⟨b,k,none⟩=false
theorem Row4.below {w w':World} {b:Nat} {c0 c1 c2 c3:Nat} (h:Row4 w b c0 c1 c2 c3) {B:Nat} (hb:Below B w w') (hB:b<B):Row4 w' b c0 c1 c2 c3 :=
 ⟨by rw[hb.cell (p:=⟨b,0,none⟩) hB]; exact h.c0,by rw[hb.cell (p:=⟨b,1,none⟩) hB]; exact h.c1,by rw[hb.cell (p:=⟨b,2,none⟩) hB]; exact h.c2,by rw[hb.cell (p:=⟨b,3,none⟩) hB]; exact h.c3,
  fun k=>by rw[hb.frozen (p:=⟨b,k,none⟩) hB]; exact h.fr k⟩
theorem Row4.alloc {w:World} {b:Nat} {c0 c1 c2 c3:Nat} (h:Row4 w b c0 c1 c2 c3) (hb:b<w.heap.size) (o:Obj):Row4 (w.alloc o) b c0 c1 c2 c3 :=
 h.below ((Below.refl w.heap.size w).alloc (Nat.le_refl _) o) hb
theorem Row4.drewN {w:World} {b:Nat} {c0 c1 c2 c3:Nat} (h:Row4 w b c0 c1 c2 c3) (n:Nat):Row4 (w.drewN n) b c0 c1 c2 c3:=⟨h.c0,h.c1,h.c2,h.c3,h.fr⟩
theorem Row4.new (w:World) (c0 c1 c2 c3:Nat) (t:TypeId):Row4 (w.alloc (.cells #[.int .u64 c0,.int .u64 c1,.int .u64 c2,.int .u64 c3] t)) w.heap.size c0 c1 c2 c3 :=
 ⟨by rw[World.cell?_alloc_new]; rfl,by rw[World.cell?_alloc_new]; rfl,by rw[World.cell?_alloc_new]; rfl,by rw[World.cell?_alloc_new]; rfl,fun k=>World.frozen?_alloc_new _ _ _ _⟩
theorem Row4.other {w:World} {b d i:Nat} {c0 c1 c2 c3:Nat} (h:Row4 w b c0 c1 c2 c3) (hd:d≠b) (v:Value):Row4 (w.setCell ⟨d,i,none⟩ v) b c0 c1 c2 c3 :=
 ⟨by rw[World.cell?_setCell_other (h:=fun he=>hd (by simpa using congrArg Addr.block he)) ..]; exact h.c0,by rw[World.cell?_setCell_other (h:=fun he=>hd (by simpa using congrArg Addr.block he)) ..]; exact h.c1,
  by rw[World.cell?_setCell_other (h:=fun he=>hd (by simpa using congrArg Addr.block he)) ..]; exact h.c2,by rw[World.cell?_setCell_other (h:=fun he=>hd (by simpa using congrArg Addr.block he)) ..]; exact h.c3,
  fun k=>by rw[World.frozen?_setCell]; exact h.fr k⟩
def set4 (w:World) (b:Nat) (d0 d1 d2 d3:Nat):World:=(((w.setCell ⟨b,0,none⟩ (.int .u64 d0)).setCell ⟨b,1,none⟩ (.int .u64 d1)).setCell ⟨b,2,none⟩ (.int .u64 d2)).setCell ⟨b,3,none⟩ (.int .u64 d3)
theorem Row4.rows {w:World} {b:Nat} {c0 c1 c2 c3:Nat} (h:Row4 w b c0 c1 c2 c3):RowIs w b 4 (dX [c0,c1,c2,c3]):=by
 intro k hk;refine⟨?_,h.fr k⟩
 match k,hk with
 | 0,_=>exact h.c0
 | 1,_=>exact h.c1
 | 2,_=>exact h.c2
 | 3,_=>exact h.c3
theorem Row4.set4 {w:World} {b:Nat} {c0 c1 c2 c3:Nat} (h:Row4 w b c0 c1 c2 c3) (d0 d1 d2 d3:Nat):Row4 (set4 w b d0 d1 d2 d3) b d0 d1 d2 d3:=by
 have r:=(((h.rows.set (show 0<4 by omega) (v:=d0)).set (show 1<4 by omega) (v:=d1)).set (show 2<4 by omega) (v:=d2)).set (show 3<4 by omega) (v:=d3);exact⟨r.cell (by omega),r.cell (show 1<4 by omega),r.cell (show 2<4 by omega),r.cell (show 3<4 by omega),fun k=>by
  show World.frozen? (((_:World).setCell _ _)) _=_;rw[World.frozen?_setCell,World.frozen?_setCell,World.frozen?_setCell,World.frozen?_setCell]; exact h.fr k⟩
theorem Row4.set4_other {w:World} {b d:Nat} {c0 c1 c2 c3:Nat} (h:Row4 w b c0 c1 c2 c3) (hd:d≠b) (e0 e1 e2 e3:Nat):Row4 (Go.Proofs.YtpbljiejmfahcaaDoor.set4 w d e0 e1 e2 e3) b c0 c1 c2 c3 :=
 (((h.other hd _).other hd _).other hd _).other hd _
theorem bQ {B:Nat} {w w':World} {b:Nat} (h:Below B w w') (hb:B≤b) (d0 d1 d2 d3:Nat):Below B w (set4 w' b d0 d1 d2 d3) :=
 (((h.setCell (p:=⟨b,0,none⟩) hb _).setCell (p:=⟨b,1,none⟩) hb _).setCell (p:=⟨b,2,none⟩) hb _).setCell (p:=⟨b,3,none⟩) hb _
theorem aP (B:Nat) (w:World) (n:Nat):Below B w (w.drewN n):=⟨rfl,rfl,rfl,Nat.le_refl _,fun _ _=>rfl⟩
def cR (B:Nat) (P:Nat→Nat):Nat→Nat
 | 0=>0
 | n+1=>cR B P n+P n*B^n
theorem bJ (B:Nat) (P:Nat→Nat) (n:Nat):cR B P (n+1)=cR B P n+P n*B^n:=rfl
theorem dW (B:Nat) (P:Nat→Nat) (k v:Nat):∀n,n≤k→cR B (dJ P k v) n=cR B P n
 | 0,_=>rfl
 | n+1,h=>by
  rw[bJ,bJ,dW B P k v n (by omega)];unfold dJ;rw[if_neg (by omega)]
theorem GV (B:Nat) (P:Nat→Nat) (k v:Nat):∀n,k<n→cR B (dJ P k v) n+P k*B^k=cR B P n+v*B^k
 | n+1,h=>by
  rw[bJ,bJ]
  by_cases e:k=n
  ·subst e;rw[dW B P k v k (Nat.le_refl _)];unfold dJ;rw[if_pos rfl]; omega
  ·have:=GV B P k v n (by omega);have e':dJ P k v n=P n:=by unfold dJ; rw[if_neg (by omega)]
   rw[e']; omega
theorem yJ (B:Nat) (P:Nat→Nat) (h:∀k,P k=0):∀n,cR B P n=0
 | 0=>rfl
 | n+1=>by rw[bJ,yJ B P h n,h n,Nat.zero_mul]
theorem DB (B:Nat) (P:Nat→Nat) (hB:0<B):∀n,(∀k,k<n→P k<B)→cR B P n<B^n
 | 0,_=>by simp[cR]
 | n+1,h=>by
  have h1:=DB B P hB n (fun k hk=>h k (by omega));have h2:=Nat.mul_le_mul_right (B^n) (show P n+1≤B by have:=h n (by omega); omega);rw[bJ,Nat.pow_succ,Nat.mul_comm (B^n) B];rw[Nat.add_mul,Nat.one_mul]at h2;omega
theorem DJ {B:Nat} {P:Nat→Nat} {n k x o d o' T:Nat} (hk:k<n) (he:d+B*o'=x+P k+o) (hT:cR B P n+o*B^k=T) :
  cR B (dJ P k d) n+o'*B^(k+1)=T+x*B^k:=by
 have h1:=GV B P k d n hk;have h2:d*B^k+o'*B^(k+1)=x*B^k+P k*B^k+o*B^k:=by
  rw[Nat.pow_succ,←Nat.add_mul,←Nat.add_mul,←he,Nat.add_mul];congr 1;rw[Nat.mul_comm (B^k) B,←Nat.mul_assoc,Nat.mul_comm o' B]
 omega
section
variable {R n:Nat} {A B P:Nat→Nat} {i j o d o':Nat}
theorem oG (R:Nat) (P:Nat→Nat) (n:Nat):∀m,cR R P (n+m)=cR R P n+R^n*cR R (fun k=>P (n+k)) m
 | 0=>by rw[Nat.add_zero]; show _=_+R^n*0; rw[Nat.mul_zero,Nat.add_zero]
 | m+1=>by
  rw[show n+(m+1)=n+m+1 by omega,bJ,oG R P n m,bJ,Nat.mul_add,Nat.pow_add,←Nat.mul_assoc (R^n),Nat.add_assoc];rw[Nat.mul_comm (P (n+m)) (R^n*R^m),Nat.mul_right_comm]
end
theorem nE (P:Nat→Nat):aC (P 0) (P 1) (P 2) (P 3)=cR 18446744073709551616 P 4:=by
 unfold aC;simp only[cR];omega
structure MW (w wr:World) (A B P:Nat→Nat):Prop where
 below:Below w.heap.size w wr
 size:wr.heap.size=w.heap.size+1+1+1+1+1
 rowA:RowIs wr w.heap.size 4 A
 rowB:RowIs wr (w.heap.size+1) 4 B
 rowH:∃H,RowIs wr (w.heap.size+1+1) 4 H
 rowL:∃L,RowIs wr (w.heap.size+1+1+1) 4 L
 rowP:RowIs wr (w.heap.size+1+1+1+1) 8 P
 lt:∀k,P k<18446744073709551616
theorem MW.set {w wr:World} {A B P:Nat→Nat} (h:MW w wr A B P) {k d:Nat} (hk:k<8) (hd:d<18446744073709551616) :
  MW w (wr.setCell ⟨w.heap.size+1+1+1+1,k,none⟩ (.int .u64 (d:Nat))) A B (dJ P k d) :=
 ⟨h.below.setCell (p:=⟨w.heap.size+1+1+1+1,k,none⟩) (by simp; omega) _,by rw[World.size_setCell]; exact h.size,h.rowA.other (by omega) _,h.rowB.other (by omega) _,
  h.rowH.elim fun H x=>⟨H,x.other (by omega) _⟩,h.rowL.elim fun L x=>⟨L,x.other (by omega) _⟩,h.rowP.set hk,
  fun x=>by unfold dJ; split; exact hd; exact h.lt x⟩
theorem MW.drewN {w wr:World} {A B P:Nat→Nat} (h:MW w wr A B P) (n:Nat):MW w (wr.drewN n) A B P :=
 ⟨h.below.trans (aP _ _ _),h.size,h.rowA,h.rowB,h.rowH,h.rowL,h.rowP,h.lt⟩
theorem RowIs.mk4 {w:World} {b:Nat} {c0 c1 c2 c3:Nat} (h0:w.cell? ⟨b,0,none⟩=some (.int .u64 c0)) (h1:w.cell? ⟨b,1,none⟩=some (.int .u64 c1)) (h2:w.cell? ⟨b,2,none⟩=some (.int .u64 c2)) (h3:w.cell? ⟨b,3,none⟩=some (.int .u64 c3))
  (hf:∀k,w.frozen? ⟨b,k,none⟩=false):RowIs w b 4 (dX [c0,c1,c2,c3]):=by
 intro k hk;refine⟨?_,hf k⟩
 match k,hk with
 | 0,_=>exact h0
 | 1,_=>exact h1
 | 2,_=>exact h2
 | 3,_=>exact h3
theorem sQ {a0 a1 a2 a3:Nat} (ha:bY a0 a1 a2 a3) (k:Nat):dX [a0,a1,a2,a3] k<18446744073709551616:=by
 obtain⟨h0,h1,h2,h3⟩:=ha;unfold dX
 match k with
 | 0=>exact h0
 | 1=>exact h1
 | 2=>exact h2
 | 3=>exact h3
 | k+4=>simp
def Mem (w wr:World) (rs:List (Nat×Nat×Nat×Nat×Nat)):Prop :=
 Below w.heap.size w wr∧∀r,r∈rs→r.1<wr.heap.size∧Row4 wr r.1 r.2.1 r.2.2.1 r.2.2.2.1 r.2.2.2.2
theorem Mem.nil (w:World):Mem w w []:=⟨Below.refl _ _,fun _ h=>by cases h⟩
theorem Mem.on {w wr w':World} {rs:List (Nat×Nat×Nat×Nat×Nat)} (h:Mem w wr rs) (hb:Below wr.heap.size wr w'):Mem w w' rs :=
 ⟨h.1.trans (hb.mono h.1.size),fun r hr=>⟨Nat.lt_of_lt_of_le (h.2 r hr).1 hb.size,(h.2 r hr).2.below hb (h.2 r hr).1⟩⟩
theorem Mem.drewN {w wr:World} {rs:List (Nat×Nat×Nat×Nat×Nat)} (h:Mem w wr rs) (n:Nat):Mem w (wr.drewN n) rs:=h.on (aP _ _ n)
theorem Mem.new {w wr:World} {rs:List (Nat×Nat×Nat×Nat×Nat)} (h:Mem w wr rs) (b c0 c1 c2 c3:Nat) (t:TypeId) (hb:b=wr.heap.size) :
  Mem w (wr.alloc (.cells #[.int .u64 c0,.int .u64 c1,.int .u64 c2,.int .u64 c3] t)) ((b,c0,c1,c2,c3)::rs):=by
 subst hb;have hB:Below wr.heap.size wr (wr.alloc (.cells #[.int .u64 c0,.int .u64 c1,.int .u64 c2,.int .u64 c3] t)):=(Below.refl _ _).alloc (Nat.le_refl _) _;refine⟨(h.on hB).1,fun r hr => ?_⟩
 rcases List.mem_cons.1 hr with e|hr
 ·rw[e];exact⟨by simp,Row4.new wr c0 c1 c2 c3 t⟩
 ·exact (h.on hB).2 r hr
theorem Mem.sub {w wr:World} {rs rs':List (Nat×Nat×Nat×Nat×Nat)} (h:Mem w wr rs) (hs:∀r,r∈rs'→r∈rs):Mem w wr rs':=⟨h.1,fun r hr=>h.2 r (hs r hr)⟩
theorem Mem.put {w wr:World} {rs:List (Nat×Nat×Nat×Nat×Nat)} {b c0 c1 c2 c3:Nat} (h:Mem w wr ((b,c0,c1,c2,c3)::rs)) (d0 d1 d2 d3:Nat) (hw:w.heap.size≤b) (hne:∀r,r∈rs→r.1≠b) :
  Mem w (set4 wr b d0 d1 d2 d3) ((b,d0,d1,d2,d3)::rs):=by
 refine⟨bQ h.1 hw _ _ _ _,fun r hr => ?_⟩;have hs:(set4 wr b d0 d1 d2 d3).heap.size=wr.heap.size:=by unfold set4; simp only[World.size_setCell]
 rcases List.mem_cons.1 hr with e|hr
 ·rw[e];exact⟨by rw[hs]; exact (h.2 _ List.mem_cons_self).1,(h.2 _ List.mem_cons_self).2.set4 _ _ _ _⟩
 ·exact⟨by rw[hs]; exact (h.2 r (List.mem_cons_of_mem _ hr)).1,(h.2 r (List.mem_cons_of_mem _ hr)).2.set4_other (fun e=>hne r hr e.symm) _ _ _ _⟩
theorem vA {x c:Nat} (hx:x<18446744073709551616) (hc:c≤1):∃d b:Nat,(∀w,(callFunc 69 #[.int .u64 (x:Int),.int .u64 0,.int .u64 (c:Int)]).run prog w =
   .ok (.value (.tuple #[.int .u64 (d:Int),.int .u64 (b:Int)])) w)∧d<18446744073709551616∧b≤1∧Hid (d+18446744073709551616*b=x+c) :=
 ⟨_,_,oI x 0 c hc,xY _ _ _,xZ hx (by omega) hc,Lib.hid (by have:=VF x 0 c; omega)⟩
set_option maxHeartbeats 1000000 in
theorem pL {a b c d:Nat} (ha:a<18446744073709551616) (hb:b<18446744073709551616) (hc:c<18446744073709551616) (hd:d<18446744073709551616):∃h l:Nat,
  (∀w,Calls prog 72 #[.int .u64 a,.int .u64 b,.int .u64 c,.int .u64 d] w fun e w'=>e=.returned (.tuple #[.int .u64 (h:Nat),.int .u64 (l:Nat)])∧w'=w) ∧
  h<18446744073709551616∧l<18446744073709551616∧Hid (l+18446744073709551616*h=a*b+c+d):=by
 obtain⟨h,l,r,hh,hl,e⟩:=TL ha hb;obtain⟨l1,c1,r1,hl1,hc1,e1⟩:=oY hl hc;obtain⟨h1,z1,r2,hh1,hz1,e2⟩:=vA (show h<18446744073709551616 by omega) hc1;obtain⟨l2,c2,r3,hl2,hc2,e3⟩:=oY hl1 hd;obtain⟨h2,z2,r4,hh2,hz2,e4⟩:=vA hh1 hc2;have hab:=EU (show a≤18446744073709551615 by omega) (show b≤18446744073709551615 by omega);refine⟨h2,l2,fun w => ?_,hh2,hl2,Lib.hid (by have:=e.out; have:=e1.out; have:=e2.out; have:=e3.out; have:=e4.out; omega)⟩;clear e e1 e2 e3 e4 hab
 go_enter func72,ntmps72
 go_wp2_with fail;refine (r _).mono ?_
 rintro e w' ⟨rfl,rfl⟩
 go_wp2_with fail
 go_ret2
 exact⟨rfl,rfl⟩
structure KIs (w:World) (b:Nat) (F:FC):Prop where
 k0:w.cell? ⟨b,0,none⟩=some (.int .u64 F.m0)
 k1:w.cell? ⟨b,1,none⟩=some (.int .u64 F.m1)
 k2:w.cell? ⟨b,2,none⟩=some (.int .u64 F.m2)
 k3:w.cell? ⟨b,3,none⟩=some (.int .u64 F.m3)
 k4:w.cell? ⟨b,4,none⟩=some (.int .u64 F.inv)
 k5:w.cell? ⟨b,5,none⟩=some (.int .u64 F.s0)
 k6:w.cell? ⟨b,6,none⟩=some (.int .u64 F.s1)
 k7:w.cell? ⟨b,7,none⟩=some (.int .u64 F.s2)
 k8:w.cell? ⟨b,8,none⟩=some (.int .u64 F.s3)
 lt:b<w.heap.size
theorem KIs.below {w w':World} {b:Nat} {F:FC} (h:KIs w b F) {B:Nat} (hb:Below B w w') (hB:b<B):KIs w' b F :=
 ⟨by rw[hb.cell (p:=⟨b,0,none⟩) hB]; exact h.k0,by rw[hb.cell (p:=⟨b,1,none⟩) hB]; exact h.k1,by rw[hb.cell (p:=⟨b,2,none⟩) hB]; exact h.k2,by rw[hb.cell (p:=⟨b,3,none⟩) hB]; exact h.k3,
  by rw[hb.cell (p:=⟨b,4,none⟩) hB]; exact h.k4,by rw[hb.cell (p:=⟨b,5,none⟩) hB]; exact h.k5,by rw[hb.cell (p:=⟨b,6,none⟩) hB]; exact h.k6,by rw[hb.cell (p:=⟨b,7,none⟩) hB]; exact h.k7,by rw[hb.cell (p:=⟨b,8,none⟩) hB]; exact h.k8,Nat.lt_of_lt_of_le h.lt hb.size⟩
theorem KIs.same {w w':World} {b:Nat} {F:FC} (h:KIs w b F) (hb:Below w.heap.size w w'):KIs w' b F:=h.below hb h.lt
theorem KIs.drewN {w:World} {b:Nat} {F:FC} (h:KIs w b F) (n:Nat):KIs (w.drewN n) b F:=⟨h.k0,h.k1,h.k2,h.k3,h.k4,h.k5,h.k6,h.k7,h.k8,h.lt⟩
theorem KIs.other {w:World} {b d i:Nat} {F:FC} (h:KIs w b F) (hd:d≠b) (v:Value):KIs (w.setCell ⟨d,i,none⟩ v) b F :=
 ⟨by rw[World.cell?_setCell_other (h:=fun he=>hd (by simpa using congrArg Addr.block he)) ..]; exact h.k0,by rw[World.cell?_setCell_other (h:=fun he=>hd (by simpa using congrArg Addr.block he)) ..]; exact h.k1,
  by rw[World.cell?_setCell_other (h:=fun he=>hd (by simpa using congrArg Addr.block he)) ..]; exact h.k2,by rw[World.cell?_setCell_other (h:=fun he=>hd (by simpa using congrArg Addr.block he)) ..]; exact h.k3,
  by rw[World.cell?_setCell_other (h:=fun he=>hd (by simpa using congrArg Addr.block he)) ..]; exact h.k4,by rw[World.cell?_setCell_other (h:=fun he=>hd (by simpa using congrArg Addr.block he)) ..]; exact h.k5,
  by rw[World.cell?_setCell_other (h:=fun he=>hd (by simpa using congrArg Addr.block he)) ..]; exact h.k6,by rw[World.cell?_setCell_other (h:=fun he=>hd (by simpa using congrArg Addr.block he)) ..]; exact h.k7,
  by rw[World.cell?_setCell_other (h:=fun he=>hd (by simpa using congrArg Addr.block he)) ..]; exact h.k8,by rw[World.size_setCell]; exact h.lt⟩
theorem JP {a0 a1 a2 a3 b0 b1 b2 b3:Nat} (ha:bY a0 a1 a2 a3) (hb:bY b0 b1 b2 b3):∃d0 c0 d1 c1 d2 c2 d3 c3:Nat,
  (∀w,(callFunc 56 #[.int .u64 (a0:Int),.int .u64 (b0:Int),.int .u64 0]).run prog w=.ok (.value (.tuple #[.int .u64 (d0:Int),.int .u64 (c0:Int)])) w) ∧
  (∀w,(callFunc 56 #[.int .u64 (a1:Int),.int .u64 (b1:Int),.int .u64 (c0:Int)]).run prog w=.ok (.value (.tuple #[.int .u64 (d1:Int),.int .u64 (c1:Int)])) w) ∧
  (∀w,(callFunc 56 #[.int .u64 (a2:Int),.int .u64 (b2:Int),.int .u64 (c1:Int)]).run prog w=.ok (.value (.tuple #[.int .u64 (d2:Int),.int .u64 (c2:Int)])) w) ∧
  (∀w,(callFunc 56 #[.int .u64 (a3:Int),.int .u64 (b3:Int),.int .u64 (c2:Int)]).run prog w=.ok (.value (.tuple #[.int .u64 (d3:Int),.int .u64 (c3:Int)])) w) ∧
  bY d0 d1 d2 d3∧c3≤1∧Hid (aC d0 d1 d2 d3+aC b0 b1 b2 b3=aC a0 a1 a2 a3+115792089237316195423570985008687907853269984665640564039457584007913129639936*c3):=by
 obtain⟨d0,c0,r0,h0,k0,e0⟩:=uZ ha.1 hb.1;obtain⟨d1,c1,r1,h1,k1,e1⟩:=jA ha.2.1 hb.2.1 k0;obtain⟨d2,c2,r2,h2,k2,e2⟩:=jA ha.2.2.1 hb.2.2.1 k1;obtain⟨d3,c3,r3,h3,k3,e3⟩:=jA ha.2.2.2 hb.2.2.2 k2;exact⟨d0,c0,d1,c1,d2,c2,d3,c3,r0,r1,r2,r3,⟨h0,h1,h2,h3⟩,k3,Lib.hid (by have:=e0.out; have:=e1.out; have:=e2.out; have:=e3.out; unfold aC; omega)⟩
theorem Bj {a0 a1 a2 a3 b0 b1 b2 b3:Nat} (ha:bY a0 a1 a2 a3) (hb:bY b0 b1 b2 b3):∃d0 c0 d1 c1 d2 c2 d3 c3:Nat,
  (∀w,(callFunc 69 #[.int .u64 (a0:Int),.int .u64 (b0:Int),.int .u64 0]).run prog w=.ok (.value (.tuple #[.int .u64 (d0:Int),.int .u64 (c0:Int)])) w) ∧
  (∀w,(callFunc 69 #[.int .u64 (a1:Int),.int .u64 (b1:Int),.int .u64 (c0:Int)]).run prog w=.ok (.value (.tuple #[.int .u64 (d1:Int),.int .u64 (c1:Int)])) w) ∧
  (∀w,(callFunc 69 #[.int .u64 (a2:Int),.int .u64 (b2:Int),.int .u64 (c1:Int)]).run prog w=.ok (.value (.tuple #[.int .u64 (d2:Int),.int .u64 (c2:Int)])) w) ∧
  (∀w,(callFunc 69 #[.int .u64 (a3:Int),.int .u64 (b3:Int),.int .u64 (c2:Int)]).run prog w=.ok (.value (.tuple #[.int .u64 (d3:Int),.int .u64 (c3:Int)])) w) ∧
  bY d0 d1 d2 d3∧c3≤1∧Hid (aC d0 d1 d2 d3+115792089237316195423570985008687907853269984665640564039457584007913129639936*c3=aC a0 a1 a2 a3+aC b0 b1 b2 b3):=by
 obtain⟨d0,c0,r0,h0,k0,e0⟩:=oY ha.1 hb.1;obtain⟨d1,c1,r1,h1,k1,e1⟩:=sT ha.2.1 hb.2.1 k0;obtain⟨d2,c2,r2,h2,k2,e2⟩:=sT ha.2.2.1 hb.2.2.1 k1;obtain⟨d3,c3,r3,h3,k3,e3⟩:=sT ha.2.2.2 hb.2.2.2 k2;exact⟨d0,c0,d1,c1,d2,c2,d3,c3,r0,r1,r2,r3,⟨h0,h1,h2,h3⟩,k3,Lib.hid (by have:=e0.out; have:=e1.out; have:=e2.out; have:=e3.out; unfold aC; omega)⟩
def fV (V:Nat) (w:World) (e:Ending) (w':World):Prop :=
 ∃s0 s1 s2 s3:Nat,e=.returned (.agg #[.int .u64 s0,.int .u64 s1,.int .u64 s2,.int .u64 s3])∧bY s0 s1 s2 s3∧aC s0 s1 s2 s3=V∧Below w.heap.size w w'
set_option maxHeartbeats 1000000 in
theorem rV (F:FC) (hF:F.Ok) (b t0 t1 t2 t3:Nat) (ht:bY t0 t1 t2 t3) (hlt:aC t0 t1 t2 t3<2*F.M) (w:World) (hk:KIs w b F) :
  Calls prog 70 #[.pointer (some ⟨b,0,none⟩),.int .u64 t0,.int .u64 t1,.int .u64 t2,.int .u64 t3] w (fV (aC t0 t1 t2 t3%F.M) w):=by
 obtain⟨d0,c0,d1,c1,d2,c2,d3,c3,r0,r1,r2,r3,hd,hc,e⟩:=JP ht hF.okm;have vd:=fW hd;have vt:=fW ht;have HV:=Lib.hid (QX hlt);have HM:=Lib.hid (show F.M=aC F.m0 F.m1 F.m2 F.m3 from rfl);have hL:=hk.lt;have k0:=hk.k0; have k1:=hk.k1; have k2:=hk.k2; have k3:=hk.k3;clear hk hF hlt;have hc':c3=0∨c3=1:=by omega
 rcases hc' with rfl|rfl
 ·go_enter func70,ntmps70
  go_wp2_with fail;refine bodyPost_ret (v:=.agg #[.int .u64 d0,.int .u64 d1,.int .u64 d2,.int .u64 d3]) (by simp[results,results70,go_sem]) rfl ?_;refine⟨_,_,_,_,rfl,hd,?_,?_⟩
  ·rw[HV.out,if_neg (by have:=e.out; have:=HM.out; omega)]; have:=e.out; have:=HM.out; omega
  ·repeat (first|exact Below.refl _ _|refine Below.drew ?_|refine Below.alloc ?_ (by first|(simp; done)|(simp; omega)) _|refine Below.setCell ?_ (by simp) _)
 ·go_enter func70,ntmps70
  go_wp2_with fail;refine bodyPost_ret (v:=.agg #[.int .u64 t0,.int .u64 t1,.int .u64 t2,.int .u64 t3]) (by simp[results,results70,go_sem]) rfl ?_;refine⟨_,_,_,_,rfl,ht,?_,?_⟩
  ·rw[HV.out,if_pos (by have:=e.out; have:=HM.out; omega)]
  ·repeat (first|exact Below.refl _ _|refine Below.drew ?_|refine Below.alloc ?_ (by first|(simp; done)|(simp; omega)) _|refine Below.setCell ?_ (by simp) _)
theorem TG (F:FC) (hF:F.Ok) {x y0 y1 y2 y3 t0 t1 t2 t3:Nat} {X:Nat→Nat} {k:Nat} (hk:k<4) (hx:x<18446744073709551616) (hX:X k=x) (hy:bY y0 y1 y2 y3) (hY:aC y0 y1 y2 y3<F.M) (ht:bY t0 t1 t2 t3) (g:GO F.M X (aC y0 y1 y2 y3) k (aC t0 t1 t2 t3)) :
  ∃o0 l0 cl c0 z o1 l1 c1 n0 o2 l2 c2 n1 o3 l3 c3 n2 n3:Nat,
  (∀w,Calls prog 72 #[.int .u64 x,.int .u64 y0,.int .u64 t0,.int .u64 0] w fun e w'=>e=.returned (.tuple #[.int .u64 (o0:Nat),.int .u64 (l0:Nat)])∧w'=w) ∧
  IntKind.u64.wrap ((l0:Int)*(F.inv:Int))=(cl:Int) ∧
  (∀w,Calls prog 72 #[.int .u64 cl,.int .u64 F.m0,.int .u64 l0,.int .u64 0] w fun e w'=>e=.returned (.tuple #[.int .u64 (c0:Nat),.int .u64 (z:Nat)])∧w'=w) ∧
  (∀w,Calls prog 72 #[.int .u64 x,.int .u64 y1,.int .u64 t1,.int .u64 o0] w fun e w'=>e=.returned (.tuple #[.int .u64 (o1:Nat),.int .u64 (l1:Nat)])∧w'=w) ∧
  (∀w,Calls prog 72 #[.int .u64 cl,.int .u64 F.m1,.int .u64 l1,.int .u64 c0] w fun e w'=>e=.returned (.tuple #[.int .u64 (c1:Nat),.int .u64 (n0:Nat)])∧w'=w) ∧
  (∀w,Calls prog 72 #[.int .u64 x,.int .u64 y2,.int .u64 t2,.int .u64 o1] w fun e w'=>e=.returned (.tuple #[.int .u64 (o2:Nat),.int .u64 (l2:Nat)])∧w'=w) ∧
  (∀w,Calls prog 72 #[.int .u64 cl,.int .u64 F.m2,.int .u64 l2,.int .u64 c1] w fun e w'=>e=.returned (.tuple #[.int .u64 (c2:Nat),.int .u64 (n1:Nat)])∧w'=w) ∧
  (∀w,Calls prog 72 #[.int .u64 x,.int .u64 y3,.int .u64 t3,.int .u64 o2] w fun e w'=>e=.returned (.tuple #[.int .u64 (o3:Nat),.int .u64 (l3:Nat)])∧w'=w) ∧
  (∀w,Calls prog 72 #[.int .u64 cl,.int .u64 F.m3,.int .u64 l3,.int .u64 c2] w fun e w'=>e=.returned (.tuple #[.int .u64 (c3:Nat),.int .u64 (n2:Nat)])∧w'=w) ∧
  (o3:Int)+(c3:Int)=(n3:Int)∧o3+c3<18446744073709551616∧bY n0 n1 n2 n3∧Hid (GO F.M X (aC y0 y1 y2 y3) (k+1) (aC n0 n1 n2 n3)):=by
 obtain⟨o0,l0,r0,bo0,bl0,e0⟩:=pL hx hy.1 ht.1 (show 0<18446744073709551616 by omega);obtain⟨cl,hcl⟩:∃cl,cl=l0*F.inv%18446744073709551616:=⟨_,rfl⟩
 have bcl:cl<18446744073709551616:=by omega
 obtain⟨c0,z,s0,bc0,bz,f0⟩:=pL bcl hF.okm.1 bl0 (show 0<18446744073709551616 by omega);obtain⟨o1,l1,r1,bo1,bl1,e1⟩:=pL hx hy.2.1 ht.2.1 bo0;obtain⟨c1,n0,s1,bc1,bn0,f1⟩:=pL bcl hF.okm.2.1 bl1 bc0;obtain⟨o2,l2,r2,bo2,bl2,e2⟩:=pL hx hy.2.2.1 ht.2.2.1 bo1;obtain⟨c2,n1,s2,bc2,bn1,f2⟩:=pL bcl hF.okm.2.2.1 bl2 bc1;obtain⟨o3,l3,r3,bo3,bl3,e3⟩:=pL hx hy.2.2.2 ht.2.2.2 bo2;obtain⟨c3,n2,s3,bc3,bn2,f3⟩:=pL bcl hF.okm.2.2.2 bl3 bc2;have hz:z=0:=by
  have h:=FY (l:=l0) hF.turn;rw[←hcl]at h;have:=f0.out;omega
 subst hz;have ha:=zB (e0.out) (f0.out) e1.out f1.out e2.out f2.out e3.out f3.out;have hg:=MB (X:=X) hk g (by rw[hX]; exact hx) hY bcl (N:=aC n0 n1 n2 (o3+c3)) (by rw[hX]; exact ha);have hn3:o3+c3<18446744073709551616:=OD (B:=0) (Nat.lt_trans hg.1 hF.two);refine⟨o0,l0,cl,c0,0,o1,l1,c1,n0,o2,l2,c2,n1,o3,l3,c3,n2,o3+c3,r0,?_,s0,r1,s1,r2,s2,r3,s3,?_,hn3,⟨bn0,bn1,bn2,hn3⟩,Lib.hid hg⟩
 ·rw[hcl,←Int.natCast_mul]; exact CX _
 ·exact (Int.natCast_add _ _).symm
theorem FE (x0 x1 x2 x3 k:Nat) (hk:k<4) (w:World):(Instr.index 73 (.agg #[.int .u64 x0,.int .u64 x1,.int .u64 x2,.int .u64 x3]) (.int .i64 k)).run prog w=.ok (.int .u64 (dX [x0,x1,x2,x3] k:Nat)) w:=by
 have h0:∀w,(Instr.index 73 (.agg #[.int .u64 x0,.int .u64 x1,.int .u64 x2,.int .u64 x3]) (.int .i64 0)).run prog w=.ok (.int .u64 x0) w:=fun _=>by kernel_rfl
 have h1:∀w,(Instr.index 73 (.agg #[.int .u64 x0,.int .u64 x1,.int .u64 x2,.int .u64 x3]) (.int .i64 1)).run prog w=.ok (.int .u64 x1) w:=fun _=>by kernel_rfl
 have h2:∀w,(Instr.index 73 (.agg #[.int .u64 x0,.int .u64 x1,.int .u64 x2,.int .u64 x3]) (.int .i64 2)).run prog w=.ok (.int .u64 x2) w:=fun _=>by kernel_rfl
 have h3:∀w,(Instr.index 73 (.agg #[.int .u64 x0,.int .u64 x1,.int .u64 x2,.int .u64 x3]) (.int .i64 3)).run prog w=.ok (.int .u64 x3) w:=fun _=>by kernel_rfl
 have:k=0∨k=1∨k=2∨k=3:=by omega
 rcases this with rfl|rfl|rfl|rfl
 ·exact h0 w
 ·exact h1 w
 ·exact h2 w
 ·exact h3 w
set_option maxHeartbeats 4000000 in
theorem cV (F:FC) (hF:F.Ok) (b x0 x1 x2 x3 y0 y1 y2 y3:Nat) (hx:bY x0 x1 x2 x3) (hy:bY y0 y1 y2 y3) (hY:aC y0 y1 y2 y3<F.M) (w:World) (hk:KIs w b F) :
  Calls prog 59 #[.pointer (some ⟨b,0,none⟩),.agg #[.int .u64 x0,.int .u64 x1,.int .u64 x2,.int .u64 x3],.agg #[.int .u64 y0,.int .u64 y1,.int .u64 y2,.int .u64 y3]] w (fV (aC x0 x1 x2 x3*aC y0 y1 y2 y3*F.Ri%F.M) w):=by
 obtain⟨X,eX⟩:∃X,X=dX [x0,x1,x2,x3]:=⟨_,rfl⟩
 have HX:=Lib.hid eX;have hXlt:=sQ hx;have HXlt:=Lib.hid hXlt;have HY:=Lib.hid hY;have HF:=Lib.hid hF;have HK:=Lib.hid hk;have HI:=Lib.hid (FE x0 x1 x2 x3);have hL:=hk.lt;have hL1:b<w.heap.size+1:=by omega
 have hL2:b<w.heap.size+1+1:=by omega
 have k0:=hk.k0; have k1:=hk.k1; have k2:=hk.k2; have k3:=hk.k3; have k4:=hk.k4;have bi:=hF.inv;have HG:=Lib.hid (MA (Y:=aC y0 y1 y2 y3) X (show 0<F.M by have:=hF.gt; omega));clear eX hXlt hY hF hk
 go_enter func59,ntmps59
 go_wp2_with fail
 go_loop [8,9,10,11,23] (fun v0 v1 v2 v3 i=>∃k t0 t1 t2 t3:Nat,k≤4∧i=.int .i64 k∧v0=.int .u64 t0∧v1=.int .u64 t1∧v2=.int .u64 t2∧v3=.int .u64 t3∧bY t0 t1 t2 t3∧Hid (GO F.M X (aC y0 y1 y2 y3) k (aC t0 t1 t2 t3))) (fun _ _ _ _ i=>4-(intOf i).toNat)
 case atStart=>exact⟨0,0,0,0,0,by omega,rfl,rfl,rfl,rfl,rfl,⟨by omega,by omega,by omega,by omega⟩,HG⟩
 case round =>
  obtain⟨k,t0,t1,t2,t3,hk,rfl,rfl,rfl,rfl,rfl,ht,g⟩:=hrel
  by_cases hlt:k<4
  ·obtain⟨x,ex⟩:∃x,x=dX [x0,x1,x2,x3] k:=⟨_,rfl⟩
   have hi:=HI.out k hlt;rw[←ex]at hi;have bx:x<18446744073709551616:=by rw[ex]; exact HXlt.out k
   obtain⟨o0,l0,cl,c0,z,o1,l1,c1,n0,o2,l2,c2,n1,o3,l3,c3,n2,n3,r0,q,s0,r1,s1,r2,s2,r3,s3,p,hp,hn,hg⟩:=TG F HF.out hlt bx (by rw[ex,HX.out]) hy HY.out ht g.out;clear ex g;go_wp2_with (first|(with_reducible refine (r0 _).mono ?_; rintro e w' ⟨rfl,rfl⟩)|(with_reducible refine (s0 _).mono ?_; rintro e w' ⟨rfl,rfl⟩)|(with_reducible refine (r1 _).mono ?_; rintro e w' ⟨rfl,rfl⟩)|(with_reducible refine (s1 _).mono ?_; rintro e w' ⟨rfl,rfl⟩)|(with_reducible refine (r2 _).mono ?_; rintro e w' ⟨rfl,rfl⟩)|(with_reducible refine (s2 _).mono ?_; rintro e w' ⟨rfl,rfl⟩)|(with_reducible refine (r3 _).mono ?_; rintro e w' ⟨rfl,rfl⟩)|(with_reducible refine (s3 _).mono ?_; rintro e w' ⟨rfl,rfl⟩))
   go_round
   case rel=>exact⟨k+1,n0,n1,n2,n3,by omega,by go_num,rfl,rfl,rfl,rfl,hn,hg⟩
   case measure=>simp[intOf]; omega
  ·obtain rfl:k=4:=by omega
   obtain⟨ge,gv⟩:=SS HF.out (x0:=x0) (x1:=x1) (x2:=x2) (x3:=x3) (by rw[HX.out]; rfl) (by rw[HX.out]; rfl) (by rw[HX.out]; rfl) (by rw[HX.out]; rfl) g.out;have HGV:=Lib.hid gv;clear gv g;go_wp2_with fail;refine (rV F HF.out b t0 t1 t2 t3 ht ge _ (HK.out.same ?_)).mono ?_
   ·repeat (first|exact Below.refl _ _|refine Below.drew ?_|refine Below.alloc ?_ (by first|(simp; done)|(simp; omega)) _)
   rintro e w1 ⟨s0,s1,s2,s3,rfl,hs,hv,hbl⟩
   have HV:=Lib.hid hv;obtain⟨hc,hf⟩:=pM hbl;have hz:w.heap.size+1+1<w1.heap.size:=by have:=hbl.size; simp at this; omega
   have HBL:=Lib.hid hbl;clear hv hbl;go_wp2_with fail;refine bodyPost_ret (v:=.agg #[.int .u64 s0,.int .u64 s1,.int .u64 s2,.int .u64 s3]) (by simp[results,results59,go_sem, *]) rfl ?_;refine⟨_,_,_,_,rfl,hs,HV.out.trans HGV.out,?_⟩;refine bQ (Below.trans ?_ (HBL.out.mono (by simp; omega))) (by omega) _ _ _ _
   repeat (first|exact Below.refl _ _|refine Below.drew ?_|refine Below.alloc ?_ (by first|(simp; done)|(simp; omega)) _)
def JF (V M:Nat):Bool:=decide (V<M)
theorem Ij {V M c D:Nat} (hD:D<115792089237316195423570985008687907853269984665640564039457584007913129639936) (hc:c≤1) (e:D+M=V+115792089237316195423570985008687907853269984665640564039457584007913129639936*c) (hM:M<115792089237316195423570985008687907853269984665640564039457584007913129639936) (hV:V<115792089237316195423570985008687907853269984665640564039457584007913129639936):((c:Int)==1)=JF V M:=by
 have:c=0∨c=1:=by omega
 unfold JF
 rcases this with rfl|rfl
 ·rw[decide_eq_false (by omega)]; rfl
 ·rw[decide_eq_true (by omega)]; rfl
theorem zG {a b:Bool} (h:a=b):Ending.returned (.bool a)=.returned (.bool b):=by rw[h]
set_option maxHeartbeats 1000000 in
theorem fU (F:FC) (hF:F.Ok) (b a0 a1 a2 a3:Nat) (ha:bY a0 a1 a2 a3) (w:World) (hk:KIs w b F) :
  Calls prog 44 #[.pointer (some ⟨b,0,none⟩),.agg #[.int .u64 a0,.int .u64 a1,.int .u64 a2,.int .u64 a3]] w fun e w'=>e=.returned (.bool (JF (aC a0 a1 a2 a3) F.M))∧Below w.heap.size w w':=by
 obtain⟨d0,c0,d1,c1,d2,c2,d3,c3,r0,r1,r2,r3,hd,hc,e⟩:=JP ha hF.okm;have HB:=Lib.hid (Ij (fW hd) hc e.out (fW hF.okm) (fW ha));have hL:=hk.lt;have hL':b≠w.heap.size:=by omega
 have k0:=hk.k0; have k1:=hk.k1; have k2:=hk.k2; have k3:=hk.k3;clear hk hF e
 go_enter func44,ntmps44
 go_wp2_with fail
 go_quiet (fail)
 go_wp2_with fail
 go_quiet (fail)
 go_wp2_with fail
 go_quiet (fail)
 go_wp2_with fail
 go_quiet (fail)
 go_wp2_with fail;go_ret;exact⟨zG HB.out,by repeat (first|exact Below.refl _ _|refine Below.drew ?_|exact aP _ _ _|refine Below.alloc ?_ (by first|(simp; done)|(simp; omega)) _|refine Below.trans ?_ (aP _ _ _))⟩
set_option maxHeartbeats 1000000 in
theorem rN (F:FC) (hF:F.Ok) (b a0 a1 a2 a3 b0 b1 b2 b3:Nat) (ha:bY a0 a1 a2 a3) (hb:bY b0 b1 b2 b3) (la:aC a0 a1 a2 a3<F.M) (lb:aC b0 b1 b2 b3<F.M) (w:World) (hk:KIs w b F) :
  Calls prog 57 #[.pointer (some ⟨b,0,none⟩),.agg #[.int .u64 a0,.int .u64 a1,.int .u64 a2,.int .u64 a3],.agg #[.int .u64 b0,.int .u64 b1,.int .u64 b2,.int .u64 b3]] w (fV ((aC a0 a1 a2 a3+aC b0 b1 b2 b3)%F.M) w):=by
 obtain⟨d0,c0,d1,c1,d2,c2,d3,c3,r0,r1,r2,r3,hd,hc,e⟩:=Bj ha hb;have e':aC d0 d1 d2 d3=aC a0 a1 a2 a3+aC b0 b1 b2 b3:=by have:=e.out; have:=hF.two; omega
 rw[←e'];have hlt:aC d0 d1 d2 d3<2*F.M:=by omega
 have HK:=Lib.hid hk;have hL:=hk.lt;clear e e' hk
 go_enter func57,ntmps57
 go_wp2_with fail;refine (rV F hF b d0 d1 d2 d3 hd hlt _ (HK.out.same ?_)).mono ?_
 ·repeat (first|exact Below.refl _ _|refine Below.drew ?_|refine Below.alloc ?_ (by first|(simp; done)|(simp; omega)) _)
 rintro e w1 ⟨s0,s1,s2,s3,rfl,hs,hv,hbl⟩
 have HV:=Lib.hid hv;obtain⟨hc,hf⟩:=pM hbl;have hz:w.heap.size+1+1<w1.heap.size:=by have:=hbl.size; simp at this; omega
 have HBL:=Lib.hid hbl;clear hv hbl;go_wp2_with fail;refine bodyPost_ret (v:=.agg #[.int .u64 s0,.int .u64 s1,.int .u64 s2,.int .u64 s3]) (by simp[results,results57,go_sem, *]) rfl ?_;refine⟨_,_,_,_,rfl,hs,HV.out,?_⟩;refine bQ (Below.trans ?_ (HBL.out.mono (by simp; omega))) (by omega) _ _ _ _
 repeat (first|exact Below.refl _ _|refine Below.drew ?_|refine Below.alloc ?_ (by first|(simp; done)|(simp; omega)) _)
theorem bE:eP 2:=aQ 2 1 (by decide) (by decide) (by kernel_rfl)
theorem fZ:eP 3:=aQ 3 1 (by decide) (by decide) (by kernel_rfl)
theorem EE:eP 13:=aQ 13 3 (by decide) (by decide) (by kernel_rfl)
theorem QA:eP 29:=aQ 29 5 (by decide) (by decide) (by kernel_rfl)
theorem Gi:eP 67:=aQ 67 8 (by decide) (by decide) (by kernel_rfl)
theorem IK:eP 229:=aQ 229 15 (by decide) (by decide) (by kernel_rfl)
theorem YQ:eP 311:=aQ 311 17 (by decide) (by decide) (by kernel_rfl)
theorem IJ:eP 983:=aQ 983 31 (by decide) (by decide) (by kernel_rfl)
theorem uL:eP 11003:=aQ 11003 104 (by decide) (by decide) (by kernel_rfl)
theorem wP:eP 11:=aQ 11 3 (by decide) (by decide) (by kernel_rfl)
theorem PY:eP 3691:=aQ 3691 60 (by decide) (by decide) (by kernel_rfl)
theorem PW:eP 4999:=aQ 4999 70 (by decide) (by decide) (by kernel_rfl)
theorem qV:Root 405928799 22:=by
 refine bL (l:=[2,11,3691,4999]) (by kernel_rfl) fun q hq => ?_
 simp only[List.mem_cons,List.not_mem_nil,or_false]at hq
 rcases hq with rfl|rfl|rfl|rfl
 ·exact bE
 ·exact wP
 ·exact PY
 ·exact PW
theorem mJ:eP 405928799:=qV.prm
theorem kM:eP 5:=aQ 5 2 (by decide) (by decide) (by kernel_rfl)
theorem zM:eP 7:=aQ 7 2 (by decide) (by decide) (by kernel_rfl)
theorem wO:eP 19:=aQ 19 4 (by decide) (by decide) (by kernel_rfl)
theorem Gj:eP 37:=aQ 37 6 (by decide) (by decide) (by kernel_rfl)
theorem YS:eP 233:=aQ 233 15 (by decide) (by decide) (by kernel_rfl)
theorem zD:Root 327599 19:=by
 refine bL (l:=[2,19,37,233]) (by kernel_rfl) fun q hq => ?_
 simp only[List.mem_cons,List.not_mem_nil,or_false]at hq
 rcases hq with rfl|rfl|rfl|rfl
 ·exact bE
 ·exact wO
 ·exact Gj
 ·exact YS
theorem EB:eP 327599:=zD.prm
theorem oM:Root 11465965001 3:=by
 refine bL (l:=[2,2,2,5,5,5,5,7,327599]) (by kernel_rfl) fun q hq => ?_
 simp only[List.mem_cons,List.not_mem_nil,or_false]at hq
 rcases hq with rfl|rfl|rfl|rfl|rfl|rfl|rfl|rfl|rfl
 ·exact bE
 ·exact bE
 ·exact bE
 ·exact kM
 ·exact kM
 ·exact kM
 ·exact kM
 ·exact zM
 ·exact EB
theorem pV:eP 11465965001:=oM.prm
theorem YR:eP 271:=aQ 271 16 (by decide) (by decide) (by kernel_rfl)
theorem wI:Root 1853641 17:=by
 refine bL (l:=[2,2,2,3,3,5,19,271]) (by kernel_rfl) fun q hq => ?_
 simp only[List.mem_cons,List.not_mem_nil,or_false]at hq
 rcases hq with rfl|rfl|rfl|rfl|rfl|rfl|rfl|rfl
 ·exact bE
 ·exact bE
 ·exact bE
 ·exact fZ
 ·exact fZ
 ·exact kM
 ·exact wO
 ·exact YR
theorem zO:eP 1853641:=wI.prm
theorem ED:eP 17:=aQ 17 4 (by decide) (by decide) (by kernel_rfl)
theorem YT:eP 109:=aQ 109 10 (by decide) (by decide) (by kernel_rfl)
theorem QC:eP 1231:=aQ 1231 35 (by decide) (by decide) (by kernel_rfl)
theorem wH:Root 4562087 5:=by
 refine bL (l:=[2,17,109,1231]) (by kernel_rfl) fun q hq => ?_
 simp only[List.mem_cons,List.not_mem_nil,or_false]at hq
 rcases hq with rfl|rfl|rfl|rfl
 ·exact bE
 ·exact ED
 ·exact YT
 ·exact QC
theorem zN:eP 4562087:=wH.prm
theorem Gh:eP 73:=aQ 73 8 (by decide) (by decide) (by kernel_rfl)
theorem Gf:eP 89:=aQ 89 9 (by decide) (by decide) (by kernel_rfl)
theorem LN:eP 13327:=aQ 13327 115 (by decide) (by decide) (by kernel_rfl)
theorem qX:Root 173171039 13:=by
 refine bL (l:=[2,73,89,13327]) (by kernel_rfl) fun q hq => ?_
 simp only[List.mem_cons,List.not_mem_nil,or_false]at hq
 rcases hq with rfl|rfl|rfl|rfl
 ·exact bE
 ·exact Gh
 ·exact Gf
 ·exact LN
theorem tS:eP 173171039:=qX.prm
theorem PX:eP 41:=aQ 41 6 (by decide) (by decide) (by kernel_rfl)
theorem YJ:eP 911:=aQ 911 30 (by decide) (by decide) (by kernel_rfl)
theorem PZ:eP 3557:=aQ 3557 59 (by decide) (by decide) (by kernel_rfl)
theorem pS:Root 1263766531 10:=by
 refine bL (l:=[2,3,5,13,911,3557]) (by kernel_rfl) fun q hq => ?_
 simp only[List.mem_cons,List.not_mem_nil,or_false]at hq
 rcases hq with rfl|rfl|rfl|rfl|rfl|rfl
 ·exact bE
 ·exact fZ
 ·exact kM
 ·exact EE
 ·exact YJ
 ·exact PZ
theorem rK:eP 1263766531:=pS.prm
theorem oK:Root 35385462869 2:=by
 refine bL (l:=[2,2,7,1263766531]) (by kernel_rfl) fun q hq => ?_
 simp only[List.mem_cons,List.not_mem_nil,or_false]at hq
 rcases hq with rfl|rfl|rfl|rfl
 ·exact bE
 ·exact bE
 ·exact zM
 ·exact rK
theorem pT:eP 35385462869:=oK.prm
theorem jT:Root 2480874801745591 6:=by
 refine bL (l:=[2,3,3,5,19,41,35385462869]) (by kernel_rfl) fun q hq => ?_
 simp only[List.mem_cons,List.not_mem_nil,or_false]at hq
 rcases hq with rfl|rfl|rfl|rfl|rfl|rfl|rfl
 ·exact bE
 ·exact fZ
 ·exact fZ
 ·exact kM
 ·exact wO
 ·exact PX
 ·exact pT
theorem kN:eP 2480874801745591:=jT.prm
theorem cW:Root 13427688667394608761327070753331941386769 17:=by
 refine bL (l:=[2,2,2,2,3,7,11,1853641,4562087,173171039,2480874801745591]) (by kernel_rfl) fun q hq => ?_
 simp only[List.mem_cons,List.not_mem_nil,or_false]at hq
 rcases hq with rfl|rfl|rfl|rfl|rfl|rfl|rfl|rfl|rfl|rfl|rfl
 ·exact bE
 ·exact bE
 ·exact bE
 ·exact bE
 ·exact fZ
 ·exact zM
 ·exact wP
 ·exact zO
 ·exact zN
 ·exact tS
 ·exact kN
theorem cX:eP 13427688667394608761327070753331941386769:=cW.prm
theorem Fw:Root 21888242871839275222246405745257275088696311157297823662689037894645226208583 3:=by
 refine bL (l:=[2,3,3,13,29,67,229,311,983,11003,405928799,11465965001,13427688667394608761327070753331941386769]) (by kernel_rfl) fun q hq => ?_
 simp only[List.mem_cons,List.not_mem_nil,or_false]at hq
 rcases hq with rfl|rfl|rfl|rfl|rfl|rfl|rfl|rfl|rfl|rfl|rfl|rfl|rfl
 ·exact bE
 ·exact fZ
 ·exact fZ
 ·exact EE
 ·exact QA
 ·exact Gi
 ·exact IK
 ·exact YQ
 ·exact IJ
 ·exact uL
 ·exact mJ
 ·exact pV
 ·exact cX
theorem YN:eP 449:=aQ 449 21 (by decide) (by decide) (by kernel_rfl)
theorem zE:Root 237073 15:=by
 refine bL (l:=[2,2,2,2,3,11,449]) (by kernel_rfl) fun q hq => ?_
 simp only[List.mem_cons,List.not_mem_nil,or_false]at hq
 rcases hq with rfl|rfl|rfl|rfl|rfl|rfl|rfl
 ·exact bE
 ·exact bE
 ·exact bE
 ·exact bE
 ·exact fZ
 ·exact wP
 ·exact YN
theorem EC:eP 237073:=zE.prm
theorem YU:eP 107:=aQ 107 10 (by decide) (by decide) (by kernel_rfl)
theorem YM:eP 661:=aQ 661 25 (by decide) (by decide) (by kernel_rfl)
theorem LI:eP 93001:=aQ 93001 304 (by decide) (by decide) (by kernel_rfl)
theorem oL:Root 12048837557 2:=by
 refine bL (l:=[2,2,7,7,661,93001]) (by kernel_rfl) fun q hq => ?_
 simp only[List.mem_cons,List.not_mem_nil,or_false]at hq
 rcases hq with rfl|rfl|rfl|rfl|rfl|rfl
 ·exact bE
 ·exact bE
 ·exact zM
 ·exact zM
 ·exact YM
 ·exact LI
theorem pU:eP 12048837557:=oL.prm
theorem mN:Root 5156902474397 2:=by
 refine bL (l:=[2,2,107,12048837557]) (by kernel_rfl) fun q hq => ?_
 simp only[List.mem_cons,List.not_mem_nil,or_false]at hq
 rcases hq with rfl|rfl|rfl|rfl
 ·exact bE
 ·exact bE
 ·exact YU
 ·exact pU
theorem nP:eP 5156902474397:=mN.prm
theorem jU:Root 1670836401704629 2:=by
 refine bL (l:=[2,2,3,3,3,3,5156902474397]) (by kernel_rfl) fun q hq => ?_
 simp only[List.mem_cons,List.not_mem_nil,or_false]at hq
 rcases hq with rfl|rfl|rfl|rfl|rfl|rfl|rfl
 ·exact bE
 ·exact bE
 ·exact fZ
 ·exact fZ
 ·exact fZ
 ·exact fZ
 ·exact nP
theorem kO:eP 1670836401704629:=jU.prm
theorem YL:eP 823:=aQ 823 28 (by decide) (by decide) (by kernel_rfl)
theorem LL:eP 41927:=aQ 41927 204 (by decide) (by decide) (by kernel_rfl)
theorem wK:Root 1593227 2:=by
 refine bL (l:=[2,19,41927]) (by kernel_rfl) fun q hq => ?_
 simp only[List.mem_cons,List.not_mem_nil,or_false]at hq
 rcases hq with rfl|rfl|rfl
 ·exact bE
 ·exact wO
 ·exact LL
theorem zR:eP 1593227:=wK.prm
theorem Gg:eP 83:=aQ 83 9 (by decide) (by decide) (by kernel_rfl)
theorem YO:eP 379:=aQ 379 19 (by decide) (by decide) (by kernel_rfl)
theorem zQ:eP 1637:=aQ 1637 40 (by decide) (by decide) (by kernel_rfl)
theorem YK:eP 853:=aQ 853 29 (by decide) (by decide) (by kernel_rfl)
theorem qU:Root 639533339 2:=by
 refine bL (l:=[2,229,853,1637]) (by kernel_rfl) fun q hq => ?_
 simp only[List.mem_cons,List.not_mem_nil,or_false]at hq
 rcases hq with rfl|rfl|rfl|rfl
 ·exact bE
 ·exact IK
 ·exact YK
 ·exact zQ
theorem tR:eP 639533339:=qU.prm
theorem jG:Root 65865678001877903 5:=by
 refine bL (l:=[2,83,379,1637,639533339]) (by kernel_rfl) fun q hq => ?_
 simp only[List.mem_cons,List.not_mem_nil,or_false]at hq
 rcases hq with rfl|rfl|rfl|rfl|rfl
 ·exact bE
 ·exact Gg
 ·exact YO
 ·exact zQ
 ·exact tR
theorem jX:eP 65865678001877903:=jG.prm
theorem fA:Root 13818364434197438864469338081 3:=by
 refine bL (l:=[2,2,2,2,2,5,823,1593227,65865678001877903]) (by kernel_rfl) fun q hq => ?_
 simp only[List.mem_cons,List.not_mem_nil,or_false]at hq
 rcases hq with rfl|rfl|rfl|rfl|rfl|rfl|rfl|rfl|rfl
 ·exact bE
 ·exact bE
 ·exact bE
 ·exact bE
 ·exact bE
 ·exact kM
 ·exact YL
 ·exact zR
 ·exact jX
theorem fH:eP 13818364434197438864469338081:=fA.prm
theorem Fv:Root 21888242871839275222246405745257275088548364400416034343698204186575808495617 5:=by
 refine bL (l:=[2,2,2,2,2,2,2,2,2,2,2,2,2,2,2,2,2,2,2,2,2,2,2,2,2,2,2,2,3,3,13,29,983,11003,237073,405928799,1670836401704629,13818364434197438864469338081]) (by kernel_rfl) fun q hq => ?_
 simp only[List.mem_cons,List.not_mem_nil,or_false]at hq
 rcases hq with rfl|rfl|rfl|rfl|rfl|rfl|rfl|rfl|rfl|rfl|rfl|rfl|rfl|rfl|rfl|rfl|rfl|rfl|rfl|rfl|rfl|rfl|rfl|rfl|rfl|rfl|rfl|rfl|rfl|rfl|rfl|rfl|rfl|rfl|rfl|rfl|rfl|rfl
 ·exact bE
 ·exact bE
 ·exact bE
 ·exact bE
 ·exact bE
 ·exact bE
 ·exact bE
 ·exact bE
 ·exact bE
 ·exact bE
 ·exact bE
 ·exact bE
 ·exact bE
 ·exact bE
 ·exact bE
 ·exact bE
 ·exact bE
 ·exact bE
 ·exact bE
 ·exact bE
 ·exact bE
 ·exact bE
 ·exact bE
 ·exact bE
 ·exact bE
 ·exact bE
 ·exact bE
 ·exact bE
 ·exact fZ
 ·exact fZ
 ·exact EE
 ·exact QA
 ·exact IJ
 ·exact uL
 ·exact EC
 ·exact mJ
 ·exact kO
 ·exact fH
section
variable {M g:Nat}
theorem QH (a n:Nat):(a%M)^n%M=a^n%M:=(Nat.pow_mod a n M).symm
theorem lV (a b:Nat):a%M*b%M=a*b%M:=by rw[Nat.mul_mod,Nat.mod_mod,←Nat.mul_mod]
theorem lU (a b:Nat):a*(b%M)%M=a*b%M:=by rw[Nat.mul_mod,Nat.mod_mod,←Nat.mul_mod]
theorem FQ (hr:Root M g) {a:Nat} (h0:0<a) (h:a<M):a^(M-1)%M=1:=by
 obtain⟨h1,hg,_,hs⟩:=hr;obtain⟨k,hk,rfl⟩:=hs a h0 h;rw[QH,←Nat.pow_mul,Nat.mul_comm,kQ h1 hg]
theorem xE (hr:Root M g) {a:Nat} (h2:2≤M) (h0:0<a) (h:a<M):a*(a^(M-2)%M)%M=1:=by
 rw[lU,←Nat.pow_succ',show (M-2).succ=M-1 by omega,FQ hr h0 h]
theorem CD (hr:Root M g) {a b c:Nat} (h2:2≤M) (h0:0<a) (h:a<M) (e:a*b%M=a*c%M):b%M=c%M:=by
 have hi:=xE hr h2 h0 h;have key:∀x,a^(M-2)%M*(a*x%M)%M=x%M:=fun x=>by
  rw[lU,←Nat.mul_assoc,Nat.mul_mod,Nat.mul_comm _ a,hi,Nat.one_mul,Nat.mod_mod]
 rw[←key b,e,key c]
theorem NS (hr:Root M g) {a b:Nat} (h2:2≤M) (h0:0<a) (h:a<M) (e:a*b%M=0):b%M=0:=by
 have:=CD hr (c:=0) h2 h0 h (by rw[e,Nat.mul_zero,Nat.zero_mod]);rw[this,Nat.zero_mod]
theorem mul_ne (hr:Root M g) {a b:Nat} (h2:2≤M) (ha0:0<a) (ha:a<M) (hb0:0<b) (hb:b<M):0<a*b%M:=by
 rcases Nat.eq_zero_or_pos (a*b%M)with h|h
 ·have:=NS hr h2 ha0 ha h;rw[Nat.mod_eq_of_lt hb]at this; omega
 ·exact h
end
def kp (F:FC) (a:Nat):Nat:=a*F.R%F.M
section
variable {F:FC}
theorem AX (hF:F.Ok) (a:Nat):kp F a<F.M:=Nat.mod_lt _ (by have:=hF.gt; omega)
theorem gG (hF:F.Ok) (x:Nat):x*F.R*F.Ri%F.M=x%F.M:=by
 rw[Nat.mul_assoc,Nat.mul_mod,hF.ri,Nat.mul_one,Nat.mod_mod]
theorem iQ {M a b c d:Nat} (h:a%M=b%M) (h':c%M=d%M):a*c%M=b*d%M:=by rw[Nat.mul_mod,h,h',←Nat.mul_mod]
theorem lH (M a:Nat):a%M%M=a%M:=Nat.mod_mod _ _
theorem kU (hF:F.Ok) (a b:Nat):kp F a*kp F b*F.Ri%F.M=kp F (a*b%F.M):=by
 have h:kp F a*kp F b*F.Ri%F.M=a*F.R*(b*F.R)*F.Ri%F.M:=iQ (iQ (lH _ _) (lH _ _)) rfl;have e:a*F.R*(b*F.R)=a*b*F.R*F.R:=by rw[Nat.mul_mul_mul_comm,Nat.mul_assoc (a*b)]
 rw[h,e,gG hF];unfold kp;rw[lV]
theorem JC (hF:F.Ok) (a:Nat):a*aC F.s0 F.s1 F.s2 F.s3*F.Ri%F.M=kp F a:=by
 have h:a*aC F.s0 F.s1 F.s2 F.s3*F.Ri%F.M=a*(F.R*F.R)*F.Ri%F.M:=by rw[hF.sq]; exact iQ (iQ rfl (lH _ _)) rfl
 rw[h,←Nat.mul_assoc,gG hF];rfl
theorem Ig (hF:F.Ok) (a:Nat) (h:a<F.M):kp F a*1*F.Ri%F.M=a:=by
 have h1:kp F a*1*F.Ri%F.M=a*F.R*F.Ri%F.M:=by rw[Nat.mul_one]; exact iQ (lH _ _) rfl
 rw[h1,gG hF,Nat.mod_eq_of_lt h]
theorem EY (hF:F.Ok) (a b:Nat):kp F a*b*F.Ri%F.M=a*b%F.M:=by
 have h:kp F a*b*F.Ri%F.M=a*F.R*b*F.Ri%F.M:=iQ (iQ (lH _ _) rfl) rfl;rw[h,Nat.mul_right_comm a,gG hF]
theorem sF (F:FC) (a:Nat):kp F (a%F.M)=kp F a:=by unfold kp; rw[lV]
theorem pI (F:FC) (a n b:Nat) (h:b=0∨b=1):(b=0→kp F (a^(2*n+b))=kp F (a^n*a^n%F.M))∧(b=1→kp F (a^(2*n+b))=kp F (a^n*a^n%F.M*a%F.M)):=by
 have e:a^(2*n)=a^n*a^n:=by rw[Nat.two_mul,Nat.pow_add]
 refine⟨fun h => ?_,fun h => ?_⟩
 ·subst h; rw[Nat.add_zero,sF,e]
 ·subst h; rw[sF,Nat.pow_succ,e,←sF F (_%_*a),lV,sF]
end
theorem FC.Ok.sqlt {F:FC} (hF:F.Ok):aC F.s0 F.s1 F.s2 F.s3<F.M:=by rw[hF.sq]; exact Nat.mod_lt _ (by have:=hF.gt; omega)
theorem FC.Ok.pos {F:FC} (hF:F.Ok):0<F.M:=by have:=hF.gt; omega
set_option maxHeartbeats 1000000 in
theorem gR (F:FC) (hF:F.Ok) (b a0 a1 a2 a3:Nat) (ha:bY a0 a1 a2 a3) (w:World) (hk:KIs w b F) :
  Calls prog 60 #[.pointer (some ⟨b,0,none⟩),.agg #[.int .u64 a0,.int .u64 a1,.int .u64 a2,.int .u64 a3]] w (fV (kp F (aC a0 a1 a2 a3)) w):=by
 have HK:=Lib.hid hk;have HF:=Lib.hid hF;have hL:=hk.lt;have hL1:b<w.heap.size+1:=by omega
 have hL2:b<w.heap.size+1+1:=by omega
 have k5:=hk.k5; have k6:=hk.k6; have k7:=hk.k7; have k8:=hk.k8;clear hk hF
 go_enter func60,ntmps60
 go_wp2_with fail
 go_region_with (go_at_call 59; refine (cV F HF.out b a0 a1 a2 a3 F.s0 F.s1 F.s2 F.s3 ha HF.out.oks HF.out.sqlt _ (HK.out.same (by repeat (first|exact Below.refl _ _|refine Below.drew ?_|refine Below.trans ?_ (aP _ _ _)|refine Below.alloc ?_ (by first|(simp; done)|(simp; omega)) _)))).mono ?_; rintro e ws ⟨s0,s1,s2,s3,rfl,hs,hv,hbl⟩; have HVs:=Lib.hid hv; obtain⟨hcs,hfs⟩:=pM hbl; have hzs:w.heap.size+1<ws.heap.size:=by { have:=hbl.size; simp at this; omega }; have HBLs:=Lib.hid hbl; clear hv hbl)
 all_goals (
  go_wp2_with fail;refine bodyPost_ret (v:=.agg #[.int .u64 s0,.int .u64 s1,.int .u64 s2,.int .u64 s3]) (by simp[results,results60,go_sem, *]) rfl ?_;refine⟨_,_,_,_,rfl,hs,HVs.out.trans (JC HF.out _),?_⟩;refine bQ (Below.trans ?_ (HBLs.out.mono (by first|(simp; done)|(simp; omega)))) (by omega) _ _ _ _
  repeat (first|exact Below.refl _ _|refine Below.drew ?_|refine Below.trans ?_ (aP _ _ _)|refine Below.alloc ?_ (by first|(simp; done)|(simp; omega)) _)
 )
set_option maxHeartbeats 1000000 in
theorem LO (F:FC) (hF:F.Ok) (b a0 a1 a2 a3:Nat) (ha:bY a0 a1 a2 a3) (w:World) (hk:KIs w b F) :
  Calls prog 66 #[.pointer (some ⟨b,0,none⟩),.agg #[.int .u64 a0,.int .u64 a1,.int .u64 a2,.int .u64 a3]] w (fV (aC a0 a1 a2 a3*1*F.Ri%F.M) w):=by
 have HK:=Lib.hid hk;have HF:=Lib.hid hF;have hL:=hk.lt;have hL1:b<w.heap.size+1:=by omega
 have hL2:b<w.heap.size+1+1:=by omega
 clear hk hF
 go_enter func66,ntmps66
 go_wp2_with fail;refine (cV F HF.out b a0 a1 a2 a3 1 0 0 0 ha ⟨by omega,by omega,by omega,by omega⟩ (by show 1<_; have:=HF.out.gt; omega) _ (HK.out.same (by repeat (first|exact Below.refl _ _|refine Below.drew ?_|refine Below.trans ?_ (aP _ _ _)|refine Below.alloc ?_ (by first|(simp; done)|(simp; omega)) _)))).mono ?_
 rintro e ws ⟨s0,s1,s2,s3,rfl,hs,hv,hbl⟩; have HVs:=Lib.hid hv; obtain⟨hcs,hfs⟩:=pM hbl; have hzs:w.heap.size+1<ws.heap.size:=by { have:=hbl.size; simp at this; omega }; have HBLs:=Lib.hid hbl; clear hv hbl
 go_wp2_with fail;refine bodyPost_ret (v:=.agg #[.int .u64 s0,.int .u64 s1,.int .u64 s2,.int .u64 s3]) (by simp[results,results66,go_sem, *]) rfl ?_;refine⟨_,_,_,_,rfl,hs,HVs.out,?_⟩;refine bQ (Below.trans ?_ (HBLs.out.mono (by first|(simp; done)|(simp; omega)))) (by omega) _ _ _ _
 repeat (first|exact Below.refl _ _|refine Below.drew ?_|refine Below.trans ?_ (aP _ _ _)|refine Below.alloc ?_ (by first|(simp; done)|(simp; omega)) _)
theorem AM (n:Nat) (hn:n<18446744073709551616) (w:World):Calls prog 38 #[.int .u64 n] w fun e w'=>e=.returned (.agg #[.int .u64 n,.int .u64 0,.int .u64 0,.int .u64 0])∧Below w.heap.size w w':=by
 go_enter func38,ntmps38
 go_wp2_with fail;refine bodyPost_ret (v:=.agg #[.int .u64 n,.int .u64 0,.int .u64 0,.int .u64 0]) (by simp[results,results38,go_sem]) rfl ?_;exact⟨rfl,by repeat (first|exact Below.refl _ _|refine Below.drew ?_|refine Below.alloc ?_ (by first|(simp; done)|(simp; omega)) _|refine Below.setCell ?_ (by simp) _)⟩
set_option maxHeartbeats 1000000 in
theorem uP (F:FC) (hF:F.Ok) (b:Nat)  (w:World) (hk:KIs w b F) :
  Calls prog 64 #[.pointer (some ⟨b,0,none⟩)] w (fV (kp F 1) w):=by
 have HK:=Lib.hid hk;have HF:=Lib.hid hF;have hL:=hk.lt;have hL1:b<w.heap.size+1:=by omega
 have hL2:b<w.heap.size+1+1:=by omega
 clear hk hF
 go_enter func64,ntmps64
 go_wp2_with fail;refine (AM 1 (by omega) _).mono ?_
 rintro e w1 ⟨rfl,hb1⟩
 have hz1:w.heap.size<w1.heap.size:=by have:=hb1.size; simp at this; omega
 obtain⟨hc1,hf1⟩:=pM hb1;have HB1:=Lib.hid hb1;have HK1:=Lib.hid ((HK.out.same (by repeat (first|exact Below.refl _ _|refine Below.drew ?_|refine Below.trans ?_ (aP _ _ _)|refine Below.alloc ?_ (by first|(simp; done)|(simp; omega)) _)):KIs (w.alloc _) b F).same hb1);clear hb1;go_wp2_with fail;refine (gR F HF.out b 1 0 0 0 ⟨by omega,by omega,by omega,by omega⟩ _ HK1.out).mono ?_
 rintro e ws ⟨s0,s1,s2,s3,rfl,hs,hv,hbl⟩
 have HVs:=Lib.hid hv;obtain⟨hcs,hfs⟩:=pM hbl;have hzs:w.heap.size<ws.heap.size:=by have:=hbl.size; omega
 have HBLs:=Lib.hid (HB1.out.trans (hbl.mono HB1.out.size));clear hv hbl;go_wp2_with fail;refine bodyPost_ret (v:=.agg #[.int .u64 s0,.int .u64 s1,.int .u64 s2,.int .u64 s3]) (by simp[results,results64,go_sem, *]) rfl ?_;refine⟨_,_,_,_,rfl,hs,HVs.out,?_⟩;refine bQ (Below.trans ?_ (HBLs.out.mono (by first|(simp; done)|(simp; omega)))) (by omega) _ _ _ _
 repeat (first|exact Below.refl _ _|refine Below.drew ?_|refine Below.trans ?_ (aP _ _ _)|refine Below.alloc ?_ (by first|(simp; done)|(simp; omega)) _)
set_option maxHeartbeats 1000000 in
theorem tQ (F:FC) (hF:F.Ok) (b a0 a1 a2 a3 b0 b1 b2 b3:Nat) (ha:bY a0 a1 a2 a3) (hb:bY b0 b1 b2 b3) (lb:aC b0 b1 b2 b3<F.M) (w:World) (hk:KIs w b F) :
  Calls prog 71 #[.pointer (some ⟨b,0,none⟩),.agg #[.int .u64 a0,.int .u64 a1,.int .u64 a2,.int .u64 a3],.agg #[.int .u64 b0,.int .u64 b1,.int .u64 b2,.int .u64 b3]] w (fV (aC a0 a1 a2 a3*aC b0 b1 b2 b3%F.M) w):=by
 have HK:=Lib.hid hk;have HF:=Lib.hid hF;have hL:=hk.lt;have hL1:b<w.heap.size+1:=by omega
 have hL2:b<w.heap.size+1+1:=by omega
 have HLB:=Lib.hid lb;clear lb;clear hk hF
 go_enter func71,ntmps71
 go_wp2_with fail
 go_region_with (first|(go_at_call 60; refine (gR F HF.out b a0 a1 a2 a3 ha _ (HK.out.same (by repeat (first|exact Below.refl _ _|refine Below.drew ?_|refine Below.trans ?_ (aP _ _ _)|refine Below.alloc ?_ (by first|(simp; done)|(simp; omega)) _)))).mono ?_; rintro e ws ⟨s0,s1,s2,s3,rfl,hs,hv,hbl⟩; have HVs:=Lib.hid hv; obtain⟨hcs,hfs⟩:=pM hbl; have hzs:w.heap.size+1+1<ws.heap.size:=by { have:=hbl.size; simp at this; omega }; have HBLs:=Lib.hid hbl; clear hv hbl; have HKs:=Lib.hid (KIs.same (F:=F) (b:=b) (HK.out.same (by repeat (first|exact Below.refl _ _|refine Below.drew ?_|refine Below.trans ?_ (aP _ _ _)|refine Below.alloc ?_ (by first|(simp; done)|(simp; omega)) _))) HBLs.out))|(go_at_call 59; refine (cV F HF.out b s0 s1 s2 s3 b0 b1 b2 b3 hs hb HLB.out _ HKs.out).mono ?_; rintro e wp ⟨p0,p1,p2,p3,rfl,hp,hv,hbl⟩; have HVp:=Lib.hid hv; obtain⟨hcp,hfp⟩:=pM hbl; have hzp:w.heap.size+1+1<wp.heap.size:=by { have:=hbl.size; omega }; have HBLp:=Lib.hid (HBLs.out.trans (hbl.mono HBLs.out.size)); clear hv hbl))
 all_goals (
  go_wp2_with fail;refine bodyPost_ret (v:=.agg #[.int .u64 p0,.int .u64 p1,.int .u64 p2,.int .u64 p3]) (by simp[results,results71,go_sem, *]) rfl ?_;refine⟨_,_,_,_,rfl,hp,HVp.out.trans (by rw[HVs.out]; exact EY HF.out _ _),?_⟩;refine bQ (Below.trans ?_ (HBLp.out.mono (by first|(simp; done)|(simp; omega)))) (by omega) _ _ _ _
  repeat (first|exact Below.refl _ _|refine Below.drew ?_|refine Below.trans ?_ (aP _ _ _)|refine Below.alloc ?_ (by first|(simp; done)|(simp; omega)) _)
 )
theorem Jb {lo up k:Nat} (hl:lo<18446744073709551616) (hu:up<18446744073709551616) (h1:Hid (lo<2^k)) (h2:Hid (∃t,up=2^k*t)):∃s:Nat,bits .or .u64 (lo:Int) (up:Int)=(s:Int)∧s<18446744073709551616∧Hid (s=lo+up):=by
 obtain⟨t,ht⟩:=h2.out;have e:lo ||| up=lo+up:=by rw[Nat.or_comm,ht,←Nat.two_pow_add_eq_or_of_lt h1.out,Nat.add_comm]
 refine⟨lo+up,by rw[bits_or_u64_nat _ _ hl hu,e],?_,Lib.hid rfl⟩;rw[←e]; exact Nat.or_lt_two_pow (n:=64) hl hu
theorem Nw (q p:Nat):2^(64*q+p)=18446744073709551616^q*2^p:=by rw[Nat.pow_add,Nat.pow_mul]
def LenIs (n L:Nat):Prop:=n<2^L∧(0<L→2^(L-1)≤n)
theorem LenIs.zero:LenIs 0 0:=⟨by simp,fun h=>absurd h (by omega)⟩
theorem LenIs.up {n x L k:Nat} (hn:n<2^k) (hx:0<x) (h:LenIs x L):LenIs (n+x*2^k) (k+L):=by
 have hL:0<L:=by
  rcases Nat.eq_zero_or_pos L with e|e
  ·subst e; have:=h.1; simp at this; omega
  ·exact e
 constructor
 ·have:=Nat.mul_le_mul_right (2^k) (show x+1≤2^L from h.1);rw[Nat.add_mul,Nat.one_mul]at this;rw[Nat.pow_add,Nat.mul_comm (2^k)]; omega
 ·intro _;have:=Nat.mul_le_mul_right (2^k) (h.2 hL);rw[show k+L-1=k+(L-1) by omega,Nat.pow_add,Nat.mul_comm (2^k)]; omega
theorem TI {y:Nat} (h0:0<y) (hy:y<18446744073709551616):∃S:Nat,(∀w,Calls prog 80 #[.int .u64 y] w fun e w'=>e=.returned (.int .i64 S)∧w'=w)∧S≤64∧Hid (LenIs y S):=by
 obtain⟨hl,ha,hb,hk⟩:=If h0 hy;refine⟨y.log2+1,fun w => ?_,by omega,Lib.hid ⟨hb,fun _=>ha⟩⟩;have:=Tryd.bits_Len64 (y:Int) w (by omega) (by omega);rw[Int.toNat_natCast,hl]at this;exact this
theorem yZ (a0 a1 a2 a3:Nat) (w:World):(Instr.index 52 (.agg #[.int .u64 a0,.int .u64 a1,.int .u64 a2,.int .u64 a3]) (.int .i64 (0:Nat))).run prog w=.ok (.int .u64 (a0:Nat)) w:=by kernel_rfl
theorem yY (a0 a1 a2 a3:Nat) (w:World):(Instr.index 52 (.agg #[.int .u64 a0,.int .u64 a1,.int .u64 a2,.int .u64 a3]) (.int .i64 (1:Nat))).run prog w=.ok (.int .u64 (a1:Nat)) w:=by kernel_rfl
theorem yX (a0 a1 a2 a3:Nat) (w:World):(Instr.index 52 (.agg #[.int .u64 a0,.int .u64 a1,.int .u64 a2,.int .u64 a3]) (.int .i64 (2:Nat))).run prog w=.ok (.int .u64 (a2:Nat)) w:=by kernel_rfl
theorem yW (a0 a1 a2 a3:Nat) (w:World):(Instr.index 52 (.agg #[.int .u64 a0,.int .u64 a1,.int .u64 a2,.int .u64 a3]) (.int .i64 (3:Nat))).run prog w=.ok (.int .u64 (a3:Nat)) w:=by kernel_rfl
theorem DR (a0 a1 a2 a3 k:Nat) (hk:k<4) (w:World):(Instr.index 52 (.agg #[.int .u64 a0,.int .u64 a1,.int .u64 a2,.int .u64 a3]) (.int .i64 (k:Nat))).run prog w=.ok (.int .u64 (dX [a0,a1,a2,a3] k:Nat)) w:=by
 match k,hk with
 | 0,_=>exact yZ a0 a1 a2 a3 w
 | 1,_=>exact yY a0 a1 a2 a3 w
 | 2,_=>exact yX a0 a1 a2 a3 w
 | 3,_=>exact yW a0 a1 a2 a3 w
def Ct (A:Nat) (w:World) (e:Ending) (w':World):Prop :=
 ∃L:Nat,e=.returned (.int .i64 L)∧L≤256∧LenIs A L∧Below w.heap.size w w'
theorem RY {A:Nat→Nat} {k L S:Nat} (hA:∀j,j<k→A j<18446744073709551616) (h0:0<A k) (hS:LenIs (A k) S):LenIs (cR 18446744073709551616 A (k+1)) (64*k+S):=by
 have h1:=DB 18446744073709551616 A (by omega) k hA;rw[show 18446744073709551616^k=2^(64*k) by rw[Nat.pow_mul]]at h1;rw[bJ,show 18446744073709551616^k=2^(64*k) by rw[Nat.pow_mul]];exact LenIs.up h1 h0 hS
theorem LT (a0 a1 a2 a3:Nat) (ha:bY a0 a1 a2 a3) (w:World) :
  Calls prog 78 #[.agg #[.int .u64 a0,.int .u64 a1,.int .u64 a2,.int .u64 a3]] w (Ct (aC a0 a1 a2 a3) w):=by
 have lA:∀k,dX [a0,a1,a2,a3] k<18446744073709551616:=fun k=>by
  obtain⟨h0,h1,h2,h3⟩:=ha;unfold dX
  match k with
  | 0=>exact h0
  | 1=>exact h1
  | 2=>exact h2
  | 3=>exact h3
  | k+4=>simp
 obtain⟨A,eA⟩:∃A,A=dX [a0,a1,a2,a3]:=⟨_,rfl⟩
 have hix:=fun k hk w=>DR a0 a1 a2 a3 k hk w
 rw[←eA]at lA;simp only[←eA]at hix;have hv:aC a0 a1 a2 a3=cR 18446744073709551616 A 4:=by rw[←nE,eA]; rfl
 have HV:=Lib.hid hv; have HlA:=Lib.hid lA; have Hix:=Lib.hid hix;clear eA lA hv hix
 go_enter func78,ntmps78
 go_wp2_with fail
 go_loop [3,7] (fun l i=>∃k L:Nat,k≤4∧i=.int .i64 k∧l=.int .i64 L∧L≤64*k∧Hid (LenIs (cR 18446744073709551616 A k) L)) (fun _ i=>4-(intOf i).toNat)
 case atStart=>exact⟨0,0,by omega,rfl,rfl,by omega,Lib.hid LenIs.zero⟩
 case round =>
  obtain⟨k,L,hk,rfl,rfl,hL,hl⟩:=hrel
  by_cases hlt:k<4
  ·obtain⟨x,ex⟩:∃x,x=A k:=⟨_,rfl⟩
   have hx:=Hix.out k hlt;rw[←ex]at hx;have bx:x<18446744073709551616:=by rw[ex]; exact HlA.out k
   rcases Nat.eq_zero_or_pos x with h0|h0
   ·have t0:((x:Int) != 0)=false:=by simp[h0]
    have HN:Hid (LenIs (cR 18446744073709551616 A (k+1)) L):=Lib.hid (by rw[bJ,←ex,h0,Nat.zero_mul,Nat.add_zero]; exact hl.out);clear h0 ex;go_wp2_with fail
    go_round
    case rel=>exact⟨k+1,L,by omega,by go_num,rfl,by omega,HN⟩
    case measure=>simp[intOf]; omega
   ·have t0:((x:Int) != 0)=true:=by simp; omega
    obtain⟨S,rS,bS,hS⟩:=TI h0 bx;have HN:Hid (LenIs (cR 18446744073709551616 A (k+1)) (64*k+S)):=Lib.hid (RY (L:=L) (fun j _=>HlA.out j) (by omega) (by rw[←ex]; exact hS.out));clear h0 ex;go_wp2_with fail;refine (rS _).mono ?_
    rintro e w' ⟨rfl,rfl⟩
    go_wp2_with fail
    go_round
    case rel=>exact⟨k+1,64*k+S,by omega,by go_num,by go_num,by omega,HN⟩
    case measure=>simp[intOf]; omega
  ·obtain rfl:k=4:=by omega
   go_wp2_with fail;go_ret;exact⟨L,rfl,by omega,by rw[HV.out]; exact hl.out,(Below.refl _ _).alloc (Nat.le_refl _) _⟩
def gW (A i:Nat):Nat:=A/2^i%2
theorem oD (A i:Nat):gW A i=0∨gW A i=1:=by unfold gW; omega
theorem KY (R:Nat) (P:Nat→Nat) (n:Nat):cR R P (n+1)=P 0+R*cR R (fun k=>P (1+k)) n:=by
 have:=oG R P 1 n;rw[Nat.add_comm n 1,this];simp[cR]
theorem NX (P:Nat→Nat) (hP:∀k,P k<18446744073709551616) (n j k:Nat) (hj:j<n) (hk:k<64):gW (cR 18446744073709551616 P n) (64*j+k)=P j/2^k%2:=by
 obtain⟨m,rfl⟩:∃m,n=j+(m+1):=⟨n-j-1,by omega⟩
 have h1:=oG 18446744073709551616 P j (m+1);have h2:=KY 18446744073709551616 (fun k=>P (j+k)) m;have h3:=DB 18446744073709551616 P (by omega) j (fun k _=>hP k);unfold gW;rw[h1,h2,Nw,←Nat.div_div_eq_div_mul,Nat.add_mul_div_left _ _ (by exact Nat.pow_pos (by omega)),Nat.div_eq_of_lt h3,Nat.zero_add];have e:18446744073709551616=2^k*(2*2^(63-k)):=by
  rw[←Nat.pow_succ',←Nat.pow_add,show k+(63-k).succ=64 by omega]
 show (P j+18446744073709551616*_)/2^k%2=_;generalize cR 18446744073709551616 (fun k=>P (j+(1+k))) m=H;rw[show 18446744073709551616*H=2^k*(2*2^(63-k))*H by rw[←e],Nat.mul_assoc,Nat.add_mul_div_left _ _ (by exact Nat.pow_pos (by omega)),Nat.mul_assoc,Nat.add_mul_mod_self_left]
theorem MY {x k:Nat} (h:x/2^k%2=0):∃t l,x=2^(k+1)*t+l∧l<2^k:=by
 refine⟨x/2^k/2,x%2^k,?_,Nat.mod_lt _ (Nat.pow_pos (by omega))⟩;have h1:=Nat.div_add_mod x (2^k);have h2:x/2^k=2*(x/2^k/2):=by omega
 rw[Nat.pow_succ,Nat.mul_assoc,←h2,h1]
theorem Hd {x k:Nat} (h:x/2^k%2=0):x ||| 2^k=x+2^k:=by
 obtain⟨t,l,rfl,hl⟩:=MY h;have h1:l<2^(k+1):=by rw[Nat.pow_succ]; omega
 have h2:2^k+l<2^(k+1):=by rw[Nat.pow_succ]; omega
 have e1:=Nat.two_pow_add_eq_or_of_lt hl 1;have e2:=Nat.two_pow_add_eq_or_of_lt h1 t;have e3:=Nat.two_pow_add_eq_or_of_lt h2 t;rw[Nat.mul_one]at e1;rw[e2,Nat.or_assoc,Nat.or_comm l,←e1,←e3];omega
theorem GB {x k:Nat} (hx:x<18446744073709551616) (hk:k<64) (h:x/2^k%2=0):x+2^k<18446744073709551616:=by
 have hk':2^k<2^64:=Nat.pow_lt_pow_right (by omega) hk;rw[←Hd h];have:=Nat.or_lt_two_pow (n:=64) (x:=x) (y:=2^k) (by simpa using hx) hk';simpa using this
theorem Dp {i:Nat} (h:i<256):∃j k:Nat,(i:Int)/64=(j:Int)∧(i:Int)%64=(k:Int)∧j<4∧k<64∧Hid (i=64*j+k) :=
 ⟨i/64,i%64,by omega,by omega,by omega,by omega,Lib.hid (by omega)⟩
theorem NF (x:Nat) (hx:x<18446744073709551616):bits .and .u64 (x:Int) 1=((x%2:Nat):Int):=by
 rw[show (1:Int)=((1:Nat):Int)from rfl,bits_and_u64_nat _ _ hx (by omega),Nat.and_one_is_mod]
theorem TK {x k b:Nat} (hx:x<18446744073709551616) (hb:x/2^k%2=b):∃s:Nat,(x:Int)/2^k=(s:Int)∧bits .and .u64 (s:Int) 1=(b:Int)∧s<18446744073709551616:=by
 have hs:x/2^k<18446744073709551616:=Nat.lt_of_le_of_lt (Nat.div_le_self _ _) hx;exact⟨x/2^k,by rw[Int.natCast_ediv,Int.natCast_pow]; rfl,by rw[NF _ hs,hb],hs⟩
theorem tE (A i:Nat):A/2^i=2*(A/2^(i+1))+gW A i:=by
 unfold gW;rw[Nat.pow_succ,←Nat.div_div_eq_div_mul];omega
def Cu (b:Nat) (w:World) (e:Ending) (w':World):Prop:=e=.returned (.int .i64 b)∧Below w.heap.size w w'
theorem FN {a0 a1 a2 a3:Nat} (ha:bY a0 a1 a2 a3) (k:Nat):dX [a0,a1,a2,a3] k<18446744073709551616:=by
 obtain⟨h0,h1,h2,h3⟩:=ha;unfold dX
 match k with
 | 0=>exact h0
 | 1=>exact h1
 | 2=>exact h2
 | 3=>exact h3
 | k+4=>simp
theorem WL (a0 a1 a2 a3:Nat):aC a0 a1 a2 a3=cR 18446744073709551616 (dX [a0,a1,a2,a3]) 4:=by rw[←nE]; rfl
theorem UT {a0 a1 a2 a3 i j k:Nat} (ha:bY a0 a1 a2 a3) (hj:j<4) (hk:k<64) (e:i=64*j+k):dX [a0,a1,a2,a3] j/2^k%2=gW (aC a0 a1 a2 a3) i:=by
 rw[WL,e,NX _ (FN ha) 4 j k hj hk]
theorem AP (w:World) (t:TypeId) (a0 a1 a2 a3 j:Nat) (hj:j<4):(w.alloc (.cells #[.int .u64 a0,.int .u64 a1,.int .u64 a2,.int .u64 a3] t)).cell? ⟨w.heap.size,j,none⟩=some (.int .u64 (dX [a0,a1,a2,a3] j:Nat)) :=
 (RowIs.mk w t [a0,a1,a2,a3] w.heap.size rfl).cell hj
theorem Jy (a0 a1 a2 a3 i:Nat) (ha:bY a0 a1 a2 a3) (hi:i<256) (w:World) :
  Calls prog 79 #[.agg #[.int .u64 a0,.int .u64 a1,.int .u64 a2,.int .u64 a3],.int .i64 i] w (Cu (gW (aC a0 a1 a2 a3) i) w):=by
 obtain⟨j,k,q,r,hj,hk,e⟩:=Dp hi;have hc:=AP w 52 a0 a1 a2 a3 j hj;have hx:=FN ha j;obtain⟨s,e1,e2,hs⟩:=TK hx (UT ha hj hk e.out);have hb:=oD (aC a0 a1 a2 a3) i;generalize gW (aC a0 a1 a2 a3) i=b at *;generalize dX [a0,a1,a2,a3] j=x at *;have hb':b≤1:=by omega
 clear hb e;have t0:decide ((i:Int)<0)=false:=decide_eq_false (by omega);have t1:decide ((256:Int)≤(i:Int))=false:=decide_eq_false (by omega)
 go_enter func79,ntmps79
 go_wp2_with fail;go_ret;exact⟨rfl,(Below.refl _ _).alloc (Nat.le_refl _) _⟩
end Go.Proofs.YtpbljiejmfahcaaDoor
