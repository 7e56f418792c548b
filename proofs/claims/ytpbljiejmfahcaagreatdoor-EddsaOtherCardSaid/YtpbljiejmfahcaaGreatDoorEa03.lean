/- Ea03 -/
import Derived.Laws.MakeOwn
import Derived.WalkKit
import Derived.WalkLawsBesides
import Derived.WalkSpells
import Derived.ProofKit
import Derived.RegionTactic
import Derived.BigRegion
import Derived.BigQuiet
import Derived.Deep.QuietTactic
import Derived.ChangeAlike
import Derived.Laws.Externs
import Derived.LoopN
import Derived.Below
import Derived.Lib.Hide
import Derived.Shelf.Small.Bits
import Derived.Shelf.Strconv.Itoa0
import Derived.Shelf.Bits.Mul64
import Derived.StillTailTactics
import Derived.Laws.Bits64b
import Derived.Laws.Bits64
import Derived.Deep.Draws
import Derived.LoopTactic
import Derived.Deep.LoopGhost
import Derived.Test.YtpbljiejmfahcaaGreatDoorEa02
import Derived.Test.YtpbljiejmfahcaaGreatDoorProg
import Derived.Test.YtpbljiejmfahcaaGreatDoorEa00
set_option maxRecDepth 100000
set_option linter.unusedVariables false
set_option linter.unusedSimpArgs false
set_option linter.unnecessarySimpa false
namespace Go.Proofs.YtpbljiejmfahcaaGreatDoor.Ex
open Go.Proofs.Tryz
open Go.RowKit
def Ok (P:Program) (base:Nat) (w0:World) (nt:Nat) (c:Code) (A:List Fact) (e:EA) (L:List Fact):Prop :=
 ∃q C f ps,bO P q base w0∧(∀n d,TabOkW P ((C n).T d) base w0)∧bE P q nt C f c A L=some (ps,e,L)∧aT ps
section
variable {P:Program} {nt base:Nat} {w0:World} {Q:Exit→Act→World→Prop}
theorem Ok.wp (hm:P.follows .mixedOrders=true) {c:Code} {A L:List Fact} {e:EA} (h:Ok P base w0 nt c A e L) {a:Act} {w:World} (hA:Holds nt base w0 A a w) (hQ:∀a w,Holds nt base w0 L a w→Q e.out a w):c.wp P Q a w:=by
 obtain⟨q,C,f,ps,h1,h2,h3,h4⟩:=h;exact aB hm h2 h1 h3 h4 hA hQ
theorem kE (hm:P.follows .mixedOrders=true) {c:Code} (A:Nat→List Fact) (N:Nat) (hstep:∀i,i<N→Ok P base w0 nt c (A i) .nrm (A (i+1)))
  (e:EA) (he:e ≠ .nrm) (A':List Fact) (hend:Ok P base w0 nt c (A N) e A')
  {a:Act} {w:World} (hA:Holds nt base w0 (A 0) a w) (hQ:∀a w,Holds nt base w0 A' a w→Q e.out a w):(Code.loop c).wp P Q a w:=by
 have key:∀m i a w,i+m=N→Holds nt base w0 (A i) a w→Un P c Q (m+1) a w:=by
  intro m
  induction m with
  | zero =>
   intro i a w hi hA;have:i=N:=by omega
   subst this;unfold Un;refine hend.wp hm hA fun a w hA1 => ?_
   have:=hQ a w hA1;cases e with
   | nrm=>exact (he rfl).elim
   | ex id=>exact this
   | rt=>exact this
  | succ m ih =>
   intro i a w hi hA;unfold Un;exact (hstep i (by omega)).wp hm hA fun a w hA1=>ih (i+1) a w (by omega) hA1
 exact dV (key N 0 a w (by omega) hA)
end
theorem TabOkW.add {P:Program} {T:Tab} {base:Nat} {w0:World} (hT:TabOkW P T base w0) {f:Nat} {fn:Func} (hf:P.funcs[f]?=some fn) (hn:(fn.name == "runtime.NumGoroutine")=false) (hb:fn.body.isNone=false) {g:List CA→Option (List Prop×RV)}
  (h:∀w,Below base w0 w→∀cs pre r,g cs=some (pre,r)→aT pre→∀(args:List Value),cD w cs args→Calls P f args.toArray w (fun e w'=>e=.returned r.den∧Below w.heap.size w w')):TabOkW P (T.add f g) base w0:=by
 intro w hw f' cs pre r hg hp;unfold Tab.add at hg;cases hb':Nat.beq f' f<;>rw[hb']at hg
 ·exact hT w hw f' cs pre r hg hp
 ·cases Nat.eq_of_beq_eq_true hb';exact⟨bR hf hn hb,h w hw cs pre r hg hp⟩
theorem oldOf.go {base:Nat} {w0 w:World} (hb:Below base w0 w) (hbase:base≤w0.heap.size) {b o:Nat} {l:List At} (h:b<base∧w0.rangeAt b o (aA l)):oldOf w b o l :=
 ⟨Nat.lt_of_lt_of_le h.1 (Nat.le_trans hbase hb.size),cZ hb h.1 h.2⟩
def assoc {α:Type}:List (Nat×α)→Nat→Option α
 | [],_=>none
 | (k,v)::r,s=>bif Nat.beq k s then some v else assoc r s
def iI (n:Nat):Value:=.int .i64 (Int.ofNat n)
def aV (b o n m:Nat):Value:=.slice (some ⟨b,o,none⟩) n m
def ptV (b o:Nat):Value:=.pointer (some ⟨b,o,none⟩)
theorem jZ {n:Nat} (h:n<9223372036854775808):IntKind.i64.wrap (n:Int)=n:=by rw[IntKind.wrap_i64]; omega
theorem Mf {i n:Nat}:aN .lss .i64 (Int.ofNat i) (Int.ofNat n)=some (.bool (decide (i<n))):=by
 show some (Value.bool (decide ((i:Int)<(n:Int))))=_
 by_cases h:i<n
 ·rw[decide_eq_true h,decide_eq_true (by omega)]
 ·rw[decide_eq_false h,decide_eq_false (by omega)]
theorem fB {i n:Nat} (h:i<n):aN .lss .i64 (Int.ofNat i) (Int.ofNat n)=some (.bool true):=by rw[Mf,decide_eq_true h]
theorem dS {i n:Nat} (h:n≤i):aN .lss .i64 (Int.ofNat i) (Int.ofNat n)=some (.bool false):=by rw[Mf,decide_eq_false (by omega)]
theorem gM {i k:Nat} (h:i+k<9223372036854775808):aN .add .i64 (Int.ofNat i) (Int.ofNat k)=some (iI (i+k)):=by
 show some (Value.int .i64 (IntKind.i64.wrap ((i:Int)+(k:Int))))=_;rw[show (i:Int)+(k:Int)=((i+k:Nat):Int) by omega,jZ h];rfl
theorem qT {i k:Nat} (h:k≤i) (hi:i<9223372036854775808):aN .sub .i64 (Int.ofNat i) (Int.ofNat k)=some (iI (i-k)):=by
 show some (Value.int .i64 (IntKind.i64.wrap ((i:Int)-(k:Int))))=_;rw[show (i:Int)-(k:Int)=((i-k:Nat):Int) by omega,jZ (by omega)];rfl
theorem Me {i k:Nat} (h:i*k<9223372036854775808):aN .mul .i64 (Int.ofNat i) (Int.ofNat k)=some (iI (i*k)):=by
 show some (Value.int .i64 (IntKind.i64.wrap ((i:Int)*(k:Int))))=_;rw[show (i:Int)*(k:Int)=((i*k:Nat):Int) by simp,jZ h];rfl
theorem YC {i k:Nat} (hk:0<k) (h:i<9223372036854775808):aN .quo .i64 (Int.ofNat i) (Int.ofNat k)=some (iI (i/k)):=by
 show (if (k:Int)=0 then none else some (Value.int .i64 (IntKind.i64.wrap ((i:Int).tdiv (k:Int)))))=_;rw[if_neg (by omega),show (i:Int).tdiv (k:Int)=((i/k:Nat):Int)from rfl,jZ (Nat.lt_of_le_of_lt (Nat.div_le_self _ _) h)];rfl
section
variable {E:Env} {ops big:Array Oper} {base:Nat} {w0:World} {A A':List Fact} {TF:List (Option Nat×Fact)} {rs:List Rec} {ps:List Prop} {Q:Exit→Act→World→Prop}
theorem DF {off:Nat} {R:List Nat} (hT:∀d,TabOkW E.P (E.T d) base w0) (hq:bO E.P E.q base w0) (hrun:uU E false ops ops.toList 0 (A.map fun φ=>(none,φ)) [] []=some (ps,TF,rs)) (hps:aT ps) (hchk:Do false ops rs=true)
  (hsub:∀i,i<ops.size→big[off+i]?=ops[i]?) (hg:∀(i:Nat) (o:Oper),ops[i]?=some o→o.guard=none)
  (hQ:∀a w,Inv E false ops base w0 TF rs (fun i=>i<ops.size) a w→wpOps E.P big Q R a w) :
  ∀(m k:Nat) (a:Act) (w:World),k+m=ops.size→Inv E false ops base w0 TF rs (fun i=>i<k) a w→wpOps E.P big Q (List.range' (off+k) m++R) a w
 | 0,k,a,w,hk,hI=>by
  have:k=ops.size:=by omega
  subst this;exact hQ a w hI
 | m+1,k,a,w,hk,hI=>by
  have hlt:k<ops.size:=by omega
  have ho:ops[k]?=some ops[k]:=Array.getElem?_eq_getElem hlt;have hst:=qD hT hq hrun hps hchk (Q:=Q) hI ho (Nat.lt_irrefl k) (fun j hj=>by unfold MG at hj; simpa using hj);have hgk:=hg k _ ho;have hw1:∀y,Region.wanted ops[k] y=true:=fun y=>by unfold Region.wanted; rw[hgk]
  rw[if_pos (hw1 _)]at hst;simp only[List.range'_succ,List.cons_append,wpOps];rw[hsub k hlt,ho];simp only;have hnext:∀a' w',Inv E false ops base w0 TF rs (fun j=>j=k∨j<k) a' w'→wpOps E.P big Q (List.range' (off+k+1) m++R) a' w':=fun a' w' h=>by
   have:=DF hT hq hrun hps hchk hsub hg hQ m (k+1) a' w' (by omega) (by
    have:(fun j=>j<k+1)=fun j=>j=k∨j<k:=funext fun j=>propext (by omega)
    rwa [this])
   rwa [←Nat.add_assoc]at this
  rw[if_pos (hw1 _)];exact Or.inl (Oper.wp_mono hnext hst)
theorem KE {off:Nat} {R:List Nat} (hT:∀d,TabOkW E.P (E.T d) base w0) (hq:bO E.P E.q base w0) (h:xM E false ops A=some (ps,A')) (hps:aT ps)
  (hsub:∀i,i<ops.size→big[off+i]?=ops[i]?) (hg:ops.toList.all (fun o=>o.guard.isNone)=true) {a:Act} {w:World} (hA:Holds E.nt base w0 A a w)
  (hQ:∀a w,Holds E.nt base w0 A' a w→wpOps E.P big Q R a w):wpOps E.P big Q (List.range' off ops.size++R) a w:=by
 unfold xM at h;split at h
 ·rename_i ps' TF rs hrun;cases hc:(Do false ops rs&&Dk false ops)<;>rw[hc]at h
  ·cases h
  ·cases h;rw[Bool.and_eq_true]at hc;have hg':∀(i:Nat) (o:Oper),ops[i]?=some o→o.guard=none:=fun i o ho=>by
    rw[List.all_eq_true]at hg;have:=hg o (Array.mem_toList_iff.2 (Array.mem_of_getElem? ho));simpa using this
   have:=DF (off:=off) (R:=R) (Q:=Q) hT hq hrun hps hc.1 hsub hg' (fun a w hI=>hQ a w (oO hrun (fun _ h=>h) hI)) ops.size 0 a w (by omega) (by
    have:(fun i=>i<0)=fun _:Nat=>False:=funext fun i=>propext ⟨fun h=>by omega,fun h=>h.elim⟩
    rw[this];exact jC hrun hA)
   rwa [Nat.add_zero]at this
 ·cases h
end
def eH (P:Program) (q:EqT) (nt:Nat) (c:Cfg) (ops:Array Oper) (A K:List Fact):Option (List Prop×List Fact) :=
 match xM (Mh P q nt c) false ops A with
 | some (ps,A1)=>match pick A1 K with|some L=>some (ps,L)|none=>none
 | none=>none
theorem EU {P:Program} {q:EqT} {nt base off:Nat} {c:Cfg} {w0:World} {ops big:Array Oper} {A K L:List Fact} {ps:List Prop} {Q:Exit→Act→World→Prop} {R:List Nat} (hT:∀d,TabOkW P (c.T d) base w0) (hq:bO P q base w0) (h:eH P q nt c ops A K=some (ps,L)) (hps:aT ps)
  (hsub:∀i,i<ops.size→big[off+i]?=ops[i]?) (hg:ops.toList.all (fun o=>o.guard.isNone)=true) {a:Act} {w:World} (hA:Holds nt base w0 A a w)
  (hQ:∀a w,Holds nt base w0 L a w→wpOps P big Q R a w):wpOps P big Q (List.range' off ops.size++R) a w:=by
 unfold eH at h;split at h
 ·rename_i ps' A1 h1;split at h
  ·rename_i L' h2;cases h;exact KE (E:=Mh P q nt c) hT hq h1 hps hsub hg hA fun a w hA1=>hQ a w (hA1.sub (gK h2))
  ·cases h
 ·cases h
theorem aU {P:Program} {q:EqT} {nt base s e:Nat} {c:Cfg} {w0:World} {big:Array Oper} {A K L:List Fact} {ps:List Prop} {Q:Exit→Act→World→Prop} {R:List Nat} (hT:∀d,TabOkW P (c.T d) base w0) (hq:bO P q base w0) (h:eH P q nt c (big.extract s e) A K=some (ps,L)) (hps:aT ps)
  (hg:(big.extract s e).toList.all (fun o=>o.guard.isNone)=true) {a:Act} {w:World} (hA:Holds nt base w0 A a w)
  (hQ:∀a w,Holds nt base w0 L a w→wpOps P big Q R a w):wpOps P big Q (List.range' s (big.extract s e).size++R) a w :=
 EU hT hq h hps (fun i hi=>by
  have hi':i<min e big.size-s:=by simpa using hi
  rw[Array.getElem?_extract,if_pos hi']) hg hA hQ
theorem bM {P:Program} {big:Array Oper} {Q:Exit→Act→World→Prop} {R:List Nat} {i:Nat} {o:Oper} (ho:big[i]?=some o) (hg:o.guard=none) {a:Act} {w:World} (h:o.wp P a w (fun a w=>wpOps P big Q R a w) Q):wpOps P big Q (i::R) a w:=by
 simp only[wpOps];rw[ho];simp only;have hw:∀y,Region.wanted o y=true:=fun y=>by unfold Region.wanted; rw[hg]
 rw[if_pos (hw _)];exact Or.inl h
def aD:Code→Array Oper
 | .region _ ops _=>ops
 | _ => #[]
section
variable {P:Program} {nt base:Nat} {w0:World} {A:List Fact} {a:Act} {w:World}
theorem Holds.im (h:Holds nt base w0 A a w) {s k o n m b:Nat} (h1:Fact.slot s (.sl k o n m)∈A) (h2:Fact.at k b∈A):Holds nt base w0 (.slot s (.im (aV b o n m))::A) a w:=by
 obtain⟨β,g1,g2,g3⟩:=h.facts;have e1:=g1 _ h1;have e2:=g1 _ h2;simp only[Fact.ok]at e1 e2;have up:∀k1 o1 l1,Fact.row k1 o1 l1∈(Fact.slot s (.im (aV b o n m))::A)→Fact.row k1 o1 l1∈A:=fun k1 o1 l1 e=>by
  rcases List.mem_cons.1 e with e|e
  ·cases e
  ·exact e
 refine⟨h.defers,h.size,h.below,h.heap,β,fun φ hφ => ?_,fun k1 k2 o2 l1 l2 q1 q2=>g2 k1 k2 o2 l1 l2 (up _ _ _ q1) (up _ _ _ q2),fun k1 l1 e=>g3.1 k1 l1 (up _ _ _ e),g3.2⟩
 rcases List.mem_cons.1 hφ with rfl|hφ
 ·show a.tmps[s]?=_;rw[e1];simp[AV.den,e2,aV]
 ·exact g1 φ hφ
theorem Holds.old (h:Holds nt base w0 A a w) {k b:Nat} {l:List At} (h1:Fact.row k true l∈A) (h2:Fact.at k b∈A):oldOf w b 0 l:=by
 obtain⟨β,g1,g2⟩:=h.facts;obtain⟨e1,e2,_⟩:=g1 _ h1;have e3:=g1 _ h2;simp only[Fact.ok]at e3;rw[e3.1]at e1 e2;rw[e3.2]at e2;exact⟨e1,e2⟩
theorem Holds.slot (h:Holds nt base w0 A a w) {s:Nat} {v:Value} (h1:Fact.slot s (.im v)∈A):a.tmps[s]?=some v:=by
 obtain⟨β,g1,g2⟩:=h.facts;exact g1 _ h1
theorem Holds.slotF (h:Holds nt base w0 A a w) {s:Nat} {l:List At} (h1:Fact.slot s (.fl l)∈A):a.tmps[s]?=some (.agg (aA l).toArray):=by
 obtain⟨β,g1,g2⟩:=h.facts;exact g1 _ h1
theorem Holds.put (h:Holds nt base w0 A a w) {w':World} (hb:Below w.heap.size w w') {d:Nat} (hd:d<nt) (v:TV) (hA:∀φ∈A,jA (some d) none φ=false):Holds nt base w0 (.slot d v.av::A) (a.put (some d) v.den) w':=by
 obtain⟨β,g1,g2,g3,gt⟩:=h.facts;have hP:=sL (base:=base) (β:=β) (a:=a) (w:=w) (w':=w') (M:=A) v.av (d:=d) (by rw[h.size]; exact hd) h.heap hb;rw[TV.av_den]at hP;have up:∀k1 o1 l1,Fact.row k1 o1 l1∈(Fact.slot d v.av::A)→Fact.row k1 o1 l1∈A:=fun k1 o1 l1 e=>by
  rcases List.mem_cons.1 e with e|e
  ·cases e
  ·exact e
 refine⟨by rw[jJ]; exact h.defers,by rw[aG]; exact h.size,h.below.trans (hb.mono h.heap),Nat.le_trans h.heap hb.size,β,fun φ hφ => ?_,fun k1 k2 o2 l1 l2 q1 q2=>g2 k1 k2 o2 l1 l2 (up _ _ _ q1) (up _ _ _ q2),fun k1 l1 e=>g3 k1 l1 (up _ _ _ e),Nat.le_trans gt.size hb.size,fun p h1 h2 => ?_,gt.shape.trans (Shape.below hb)⟩
 ·rcases List.mem_cons.1 hφ with rfl|hφ
  ·exact hP.ok _ (List.mem_singleton.2 rfl)
  ·exact Rh hP (g1 φ hφ) (hA φ hφ) fun kk k own l q=>by cases q
 ·have hlt:=Nat.lt_of_lt_of_le h2 gt.size;have:=gt.mem p h1 h2;exact⟨(hb.cell hlt).trans this.1,(hb.frozen hlt).trans this.2⟩
theorem uL {o:Oper} {K:Act→World→Prop} {Q:Exit→Act→World→Prop} {id:Nat} {xs:Array Operand} {ts:Array TypeId} {vs:List Value} {v:Value} (ho:o.op=.call ⟨.value (.func id),xs,ts⟩) (hv:xs.toList.map a.eval=vs)
  (he:∀xs,(callFunc id xs).run P w=.ok (.enter id xs) w) (hc:Calls P id vs.toArray w (fun e w'=>e=.returned v∧Below w.heap.size w w')) (hK:∀w',Below w.heap.size w w'→K (a.put o.dst v) w'):o.wp P a w K Q:=by
 have ea:xs.map a.eval=vs.toArray:=by rw[←Array.toArray_toList (xs:=xs.map a.eval),Array.toList_map,hv]
 have hrun:(execOp a.eval o).run P w=.ok (.enter id vs.toArray) w:=by
  have hf:a.eval (.func id)=.func (.func id) #[] #[]:=rfl;simp[execOp,ho,resolve,Deferred.ofValue,hf,invoke,ea,he]
 unfold Oper.wp;rw[hrun];refine Calls.mono hc ?_
 rintro e w' ⟨rfl,hb⟩
 exact hK w' hb
end
def bP (f:Nat→List At):Nat→Nat→List At
 | _,0=>[]
 | s,n+1=>f s++bP f (s+1) n
theorem wY (f:Nat→List At):∀n s,bP f s (n+1)=bP f s n++f (s+n)
 | 0,s=>by simp[bP]
 | n+1,s=>by
  have:=wY f n (s+1);show f s++bP f (s+1) (n+1)=(f s++bP f (s+1) n)++f (s+(n+1));rw[this,List.append_assoc,show s+1+n=s+(n+1) by omega]
theorem fJ {f:Nat→List At} {c:Nat} (h:∀j,dD (f j)=c):∀n s,dD (bP f s n)=n*c
 | 0,s=>by simp[bP,dD]
 | n+1,s=>by
  show dD (f s++bP f (s+1) n)=_;rw[lY,h,fJ h n,Nat.add_mul,Nat.one_mul,Nat.add_comm]
theorem jF (f:Nat→List At):∀(i n s:Nat),i<n→bP f s n=bP f s i++(f (s+i)++bP f (s+i+1) (n-i-1))
 | 0,n+1,s,_=>rfl
 | i+1,n+1,s,h=>by
  have:=jF f i n (s+1) (by omega);show f s++bP f (s+1) n=(f s++bP f (s+1) i)++_;rw[this,List.append_assoc,show s+1+i=s+(i+1) by omega,show n+1-(i+1)-1=n-i-1 by omega]
theorem VQ (a:At):0<a.sz:=by cases a<;>exact Nat.succ_pos _
theorem IY:∀(A X:List At),tk (A++X) (dD A)=some A
 | [],X=>by cases X<;>rfl
 | a::r,X=>by
  have h:=VQ a;show tk (a::(r++X)) (a.sz+dD r)=_;unfold tk;rw[show Nat.beq (a.sz+dD r) 0=false by cases hq:Nat.beq (a.sz+dD r) 0; rfl; exact absurd (Nat.eq_of_beq_eq_true hq) (by omega),show Nat.ble a.sz (a.sz+dD r)=true by simp,Nat.add_sub_cancel_left,IY r X];rfl
theorem BT:∀(A X:List At),dp (A++X) (dD A)=some X
 | [],X=>by cases X<;>rfl
 | a::r,X=>by
  have h:=VQ a;show dp (a::(r++X)) (a.sz+dD r)=_;unfold dp;rw[show Nat.beq (a.sz+dD r) 0=false by cases hq:Nat.beq (a.sz+dD r) 0; rfl; exact absurd (Nat.eq_of_beq_eq_true hq) (by omega),show Nat.ble a.sz (a.sz+dD r)=true by simp,Nat.add_sub_cancel_left];exact BT r X
theorem Ff (A m s:List At) {o n:Nat} (ho:o=dD A) (hn:n=dD m):yC (A++(m++s)) o n=some m:=by
 subst ho; subst hn;unfold yC;rw[BT];exact IY m s
theorem AN (A m s v:List At) {o:Nat} (ho:o=dD A) (hn:dD v=dD m):put (A++(m++s)) o v=some (A++(v++s)):=by
 subst ho;unfold put;rw[IY,BT];simp only;rw[hn,BT]
theorem OC {f:Nat→List At} {c N i o:Nat} (h:∀j,dD (f j)=c) (hi:i<N) (ho:o=i*c):yC (bP f 0 N) o c=some (f i):=by
 rw[jF f i N 0 hi,Nat.zero_add];exact Ff _ _ _ (by rw[fJ h,ho]) (h i).symm
def mL (f:Nat→List At) (z:List At) (N i:Nat):List At:=bP f 0 i++bP (fun _=>z) i (N-i)
theorem ZG (f:Nat→List At) (z:List At) (N:Nat):mL f z N 0=bP (fun _=>z) 0 N:=by unfold mL; simp[bP]
theorem ZF (f:Nat→List At) (z:List At) (N:Nat):mL f z N N=bP f 0 N:=by unfold mL; simp[bP]
theorem EB {f:Nat→List At} {z:List At} {c N i o:Nat} (h:∀j,dD (f j)=c) (hz:dD z=c) (hi:i<N) (ho:o=i*c):put (mL f z N i) o (f i)=some (mL f z N (i+1)):=by
 unfold mL;rw[show N-i=(N-(i+1))+1 by omega];show put (bP f 0 i++(z++bP (fun _=>z) (i+1) (N-(i+1)))) o (f i)=_;rw[AN _ _ _ _ (by rw[fJ h,ho]) (by rw[h,hz]),wY,Nat.zero_add,List.append_assoc]
theorem QY {w:World} {b o:Nat} {f:Nat→List At} {c N i:Nat} (h:∀j,dD (f j)=c) (hi:i<N) (hr:w.rangeAt b o (aA (bP f 0 N))):w.rangeAt b (o+i*c) (aA (f i)) :=
 dN hr (OC h hi rfl)
def xB (l:List Value) (v:Value):Prop:=l=List.replicate l.length v
theorem WH {l m:List Value} {v:Value} (h:xB l v) (k:xB m v):xB (l++m) v:=by
 unfold xB at *;rw[h,k];simp[List.replicate_append_replicate]
theorem HU {z:List At} {v:Value} (h:xB (aA z) v):∀n s,xB (aA (bP (fun _=>z) s n)) v
 | 0,s=>rfl
 | n+1,s=>by
  show xB (aA (z++bP (fun _=>z) (s+1) n)) v;rw[aJ];exact WH h (HU h n (s+1))
theorem aEz {P:Program} {t e:TypeId} {i:TypeInfo} {zv:Value} {z:List At} {v:Value} {N:Nat} (ht:P.underlying t=some (.slice e)) (hi:P.info? e=some i) (hz:i.zero=some zv) (hs:i.size=dD z) (hv:zv.cells.toList=List.replicate i.size v) (hsame:xB (aA z) v) (h0:0<dD z)
  (hb:i.bytes*N≤281474976710656) (hN:N<4611686018427387904) :
  ∃e,∀w:World,(Instr.makeSlice t (iI N) (iI N)).run P w=.ok (.slice (some ⟨w.heap.size,0,none⟩) N N) (w.alloc (.cells (aA (bP (fun _=>z) 0 N)).toArray e)):=by
 refine⟨e,fun w => ?_⟩;have hr:=Go.run_make (P:=P) w t e i zv ht hi hz .i64 .i64 (N:Int) (N:Int) (by omega) (Int.le_refl _) (by rw[←Int.natCast_mul]; omega) (by omega);refine Eq.trans hr ?_;have hsz:zv.cells.size=i.size:=by rw[←Array.length_toList,hv,List.length_replicate]
 have hc:madeCells zv.cells (N*i.size)=(aA (bP (fun _=>z) 0 N)).toArray:=by
  have hl:=fJ (f:=fun _=>z) (c:=dD z) (fun _=>rfl) N 0;have h2:=HU hsame N 0;rw[h2,aL,hl,←hs];unfold madeCells;apply Array.ext
  ·simp
  ·intro j h1 h3;simp only[Array.getElem_map,Array.getElem_range,List.getElem_toArray,List.getElem_replicate];have hj:j%zv.cells.size<zv.cells.size:=Nat.mod_lt _ (by rw[hsz,hs]; exact h0);have e1:zv.cells.toList[j%zv.cells.size]?=some v:=by
    rw[hv,List.getElem?_replicate,if_pos (by omega)]
   rw[Array.getElem?_toList]at e1;rw[getElem!_def,e1]
 simp only[Int.toNat_natCast,hc]
theorem PA {P:Program} {t e:TypeId} {z:List At} {v:Value} {N n by8:Nat} (ht:P.underlying t=some (.slice e)) (hi:(P.info? e).map (fun i=>(i.zero.map (fun z=>z.cells.toList),i.size,i.bytes))=some (some (List.replicate n v),n,by8)) (hs:dD z=n) (hsame:xB (aA z) v) (h0:0<n)
  (hb:by8*N≤281474976710656) (hN:N<4611686018427387904) :
  ∃e,∀w:World,(Instr.makeSlice t (iI N) (iI N)).run P w=.ok (.slice (some ⟨w.heap.size,0,none⟩) N N) (w.alloc (.cells (aA (bP (fun _=>z) 0 N)).toArray e)):=by
 cases hq:P.info? e with
 | none=>rw[hq]at hi; cases hi
 | some it =>
  rw[hq]at hi;cases hz:it.zero with
  | none=>rw[Option.map_some,hz]at hi; cases hi
  | some zv =>
   rw[Option.map_some,hz]at hi;simp only[Option.map_some,Option.some.injEq,Prod.mk.injEq]at hi;obtain⟨h1,h2,h3⟩:=hi;exact aEz ht hq hz (by rw[h2,hs]) (by rw[h2,h1]) hsame (by rw[hs]; exact h0) (by rw[h3]; exact hb) hN
theorem bQ {P:Program} {id:Nat} {ops:Array Oper} {l:List Nat} (hl:List.range ops.size=l) {Q:Exit→Act→World→Prop} {a:Act} {w:World} (h:wpOps P ops Q l a w):(Code.region id ops false).wp P Q a w:=wp_region (by rw[hl]; exact h)
theorem cT {P:Program} {fn:Func} {A:List Fact} {l:List TV} {r:RV} {nt base:Nat} {w0:World} (h1:tE P A fn.results.toList=some l) (h2:rv l=some r) {a:Act} {w':World} (hA:Holds nt base w0 A a w') {R:Ending→World→Prop} (hR:R (.returned r.den) w'):bodyPost P fn R .ret a w':=by
 obtain⟨β',hok,_⟩:=hA.facts;have hres:(results fn a.tmps).run P w'=.ok r.den w':=by
  have:=lQ hok h1;show ((fn.results.mapM (DW a.tmps)) >>= fun vs=>pure (if h:vs.size=1 then vs[0]else .tuple vs):Sem Value).run P w'=_;have hm:(List.toArray <$> fn.results.toList.mapM (DW a.tmps)).run P w'=.ok (l.map TV.den).toArray w':=by simp[this]
  rw[Array.mapM_eq_mapM_toList,Sem.run_bind,hm,Result.andThen_ok,Sem.run_pure];exact congrArg (fun x=>Result.ok x w') (AF h2)
 exact⟨hA.defers,_,hres,hR⟩
theorem Holds.now {nt base:Nat} {w0:World} {A:List Fact} {a:Act} {w:World} (h:Holds nt base w0 A a w):Holds nt base w A a w:=by
 obtain⟨β,h1,h2,h3,h4⟩:=h.facts;exact⟨h.defers,h.size,Below.refl _ _,h.heap,β,h1,h2,h3,h4.size,fun _ _ _=>⟨rfl,rfl⟩,Shape.refl _⟩
theorem WrAt.refl (w:World) (b:Nat):WrAt w w b []:=⟨rfl,rfl,rfl,Nat.le_refl _,fun _ _ _=>rfl,Shape.refl _,fun _=>rfl⟩
theorem WrAt.below {w w1 w2:World} {b:Nat} (hb:b<w.heap.size) (h:WrAt w w1 b []) (h2:Below w.heap.size w1 w2):WrAt w w2 b [] :=
 ⟨h2.os.trans h.os,h2.tape.trans h.tape,h2.output.trans h.output,Nat.le_trans h.size h2.size,fun k hk hne=>(h2.block k hk).trans (h.block k hk hne),
  ⟨fun q cur e hq=>by
   obtain⟨c,h3,h4⟩:=h.shape.1 q cur e hq;exact⟨c,(h2.block q (Array.getElem?_eq_some_iff.1 hq).1).trans h3,h4⟩,Nat.le_trans h.size h2.size,fun q o hq ho=>(h2.block q (Array.getElem?_eq_some_iff.1 hq).1).trans (h.shape.2.same q o hq ho)⟩,fun j=>(World.frozen?_of_block (h2.block b hb)).trans (h.frozen j)⟩
theorem mP (b:Nat):∀(vs:List Value) (o:Nat) (w:World) (k:Nat),k≠b→(w.setCells b o vs).heap[k]?=w.heap[k]?
 | [],_,_,_,_=>rfl
 | v::r,o,w,k,h=>by
  rw[World.setCells,mP b r (o+1) _ k h];exact Below.heap_setCell w _ v k h
theorem jV (b:Nat):∀(vs:List Value) (o:Nat) (w:World),(w.setCells b o vs).os=w.os∧(w.setCells b o vs).tape=w.tape∧(w.setCells b o vs).output=w.output
 | [],_,_=>⟨rfl,rfl,rfl⟩
 | v::r,o,w=>by rw[World.setCells]; exact jV b r (o+1) _
theorem WrAt.set {w w1:World} {b:Nat} (h:WrAt w w1 b []) (o:Nat) (vs:List Value):WrAt w (w1.setCells b o vs) b [] :=
 ⟨(jV b vs o w1).1.trans h.os,(jV b vs o w1).2.1.trans h.tape,(jV b vs o w1).2.2.trans h.output,by rw[cH]; exact h.size,fun k hk hne=>(mP b vs o w1 k hne).trans (h.block k hk hne),
  h.shape.trans (cW b vs o w1),fun j=>by rw[World.frozen?_setCells]; exact h.frozen j⟩
theorem Holds.post {nt base:Nat} {w0:World} {A:List Fact} {a:Act} {w:World} (h:Holds nt base w0 A a w) {dst kill:Option Nat} {out:List Fact} {a':Act} {w':World}
  (hP:∀β,(∀φ∈A,φ.ok base β a w)→∃β',PostB base β β' a w dst A out kill a' w') (hd:jK dst nt=false:=by kernel_rfl):Holds nt base w0 (out++A.filter (fun φ => !(jA dst kill φ))) a' w':=by
 obtain⟨β,g1,g2,g3,gt⟩:=h.facts;obtain⟨β',P⟩:=hP β g1;have hkill:∀φ∈A,jA dst kill φ=false→∀kk k own l,kill=some kk→φ=.row k own l→(β kk).1≠(β k).1:=fun φ hφ hc kk k own l hkk e=>by
  obtain⟨l0,hl0⟩:=P.kills kk hkk;have hne:kk≠k:=fun e2=>by
   rw[e]at hc;simp only[jA,Bool.or_eq_false_iff]at hc;have:=dB.2 (e2▸hkk:kill=some k);rw[hc.2]at this; cases this
  subst e;exact g2 kk k own l0 l hl0 hφ hne
 have hmem:∀φ∈A.filter (fun φ => !(jA dst kill φ)),φ∈A∧jA dst kill φ=false:=fun φ hφ=>by
  obtain⟨h1,h2⟩:=List.mem_filter.1 hφ;exact⟨h1,by simpa using h2⟩
 have hβ:∀k own l,Fact.row k own l∈A.filter (fun φ => !(jA dst kill φ))→β' k=β k:=fun k own l hφ=>by
  obtain⟨_,hc⟩:=hmem _ hφ;simp only[jA,Bool.or_eq_false_iff]at hc;exact P.beta k fun e=>by have:=dB.2 e; rw[hc.1]at this; cases this
 have hno:∀k l k' o' l',Fact.row k true l∈out→Fact.row k' o' l'∈A.filter (fun φ => !(jA dst kill φ))→k≠k'→(β' k).1≠(β' k').1:=fun k l k' o' l' hk hk' hne=>by
  rw[hβ k' o' l' hk'];obtain⟨hA',hc⟩:=hmem _ hk'
  rcases P.rows k l hk with⟨h2,_⟩|⟨h2,l0,h3⟩|⟨h2,k0,l0,hk0,he,h3⟩
  ·have:=(g1 _ hA').1;omega
  ·rw[P.beta k h2];exact g2 k k' o' l0 l' h3 hA' hne
  ·rw[he];refine g2 k0 k' o' l0 l' h3 hA' fun e => ?_
   subst e;simp only[jA,Bool.or_eq_false_iff]at hc;have:=dB.2 hk0;rw[hc.2]at this; cases this
 have hnt:β' nt=β nt:=P.beta nt fun e=>by have:=dB.2 e; rw[hd]at this; cases this
 refine⟨by rw[P.defers]; exact h.defers,by rw[P.size]; exact h.size,P.below w0 h.below,Nat.le_trans h.heap P.heap,β',fun φ hφ => ?_,fun k k' o' l l' hk hk' hne => ?_,fun k l hk => ?_,by rw[hnt]; exact Nat.le_trans gt.size P.heap,fun p q1 q2 => ?_,gt.shape.trans P.shape⟩
 ·rcases List.mem_append.1 hφ with hφ|hφ
  ·exact P.ok φ hφ
  ·obtain⟨h1,h2⟩:=hmem φ hφ;exact Rh P (g1 φ h1) h2 (hkill φ h1 h2)
 ·rcases List.mem_append.1 hk with hk|hk
  ·rcases List.mem_append.1 hk' with hk'|hk'
   ·cases o' with
    | true=>exact absurd (P.one k k' l l' hk hk') hne
    | false=>exact (P.onlyOwn k' l' hk').elim
   ·exact hno k l k' o' l' hk hk' hne
  ·rcases List.mem_append.1 hk' with hk'|hk'
   ·cases o' with
    | true=>exact fun e=>hno k' l' k true l hk' hk (Ne.symm hne) e.symm
    | false=>exact (P.onlyOwn k' l' hk').elim
   ·rw[hβ k true l hk,hβ k' o' l' hk'];exact g2 k k' o' l l' (hmem _ hk).1 (hmem _ hk').1 hne
 ·rw[hnt]
  rcases List.mem_append.1 hk with hk|hk
  ·rcases P.rows k l hk with⟨h2,_⟩|⟨h2,l0,h3⟩|⟨h2,k0,l0,hk0,he,h3⟩
   ·exact Or.inr (Nat.le_trans gt.size h2)
   ·rw[P.beta k h2];exact g3 k l0 h3
   ·rw[he];exact g3 k0 l0 h3
  ·rw[hβ k true l hk];exact g3 k l (hmem _ hk).1
 ·rw[hnt]at q2;have h3:=P.mem p (Nat.lt_of_lt_of_le q2 gt.size) fun kk hkk e=>by
   obtain⟨l0,hl0⟩:=P.kills kk hkk
   rcases g3 kk l0 hl0 with h4|h4<;>omega
  have h4:=gt.mem p q1 q2;exact⟨h3.1.trans h4.1,h3.2.trans h4.2⟩
theorem dI {P:Program} {o:Oper} {a:Act} {w:World} {K:Act→World→Prop} {Q:Exit→Act→World→Prop} {id:Nat} {xs:Array Operand} {ts:Array TypeId} {vs:List Value} {R:Ending→World→Prop} (ho:o.op=.call ⟨.value (.func id),xs,ts⟩) (hv:xs.toList.map a.eval=vs)
  (he:∀xs,(callFunc id xs).run P w=.ok (.enter id xs) w) (hc:Calls P id vs.toArray w R) (hK:∀e w',R e w'→∃v,e=.returned v∧K (a.put o.dst v) w'):o.wp P a w K Q:=by
 have ea:xs.map a.eval=vs.toArray:=by rw[←Array.toArray_toList (xs:=xs.map a.eval),Array.toList_map,hv]
 have hrun:(execOp a.eval o).run P w=.ok (.enter id vs.toArray) w:=by
  have hf:a.eval (.func id)=.func (.func id) #[] #[]:=rfl;simp[execOp,ho,resolve,Deferred.ofValue,hf,invoke,ea,he]
 unfold Oper.wp;rw[hrun];refine Calls.mono hc ?_;intro e w' hr;obtain⟨v,rfl,hk⟩:=hK e w' hr;exact hk
end Go.Proofs.YtpbljiejmfahcaaGreatDoor.Ex
namespace Go.Proofs.YtpbljiejmfahcaaGreatDoor
open Go.Proofs.Tryz
open Go.RowKit
theorem sC (x y c:Nat) (hc:c≤1) (w:World) :
  (callFunc 57 #[.int .u64 (x:Int),.int .u64 (y:Int),.int .u64 (c:Int)]).run prog w =
   .ok (.value (.tuple #[.int .u64 (NC x y c:Nat),.int .u64 (NE x y c:Nat)])) w:=by
 rw[run_callFunc_extern func57 (by kernel_rfl) (by kernel_rfl) (by kernel_rfl) (e:=add64Entry) (by kernel_rfl),run_add64 x y c (by omega) (by omega) (by omega) (by omega)];simp only[Result.andThen];unfold NC NE;congr 5<;>omega
theorem JR (x y:Nat) (w:World) :
  (callFunc 57 #[.int .u64 (x:Int),.int .u64 (y:Int),.int .u64 0]).run prog w =
   .ok (.value (.tuple #[.int .u64 (NC x y 0:Nat),.int .u64 (NE x y 0:Nat)])) w:=sC x y 0 (by omega) w
def VR:Array Value→Sem Value:=fun args=>do
 let (x,y,b) ←Extern.MathBitsCarry.three "Sub64" args
 pure (Extern.MathBitsCarry.pair ((x+Extern.MathBitsCarry.m64-y-b)%Extern.MathBitsCarry.m64) (if x<y+b then 1 else 0))
theorem JL {P:Program} (x y b:Nat) (hb:b≤1) (w:World) :
  (VR #[.int .u64 x,.int .u64 y,.int .u64 b]).run P w=.ok (.tuple #[.int .u64 (JE x y b:Nat),.int .u64 (JF x y b:Nat)]) w:=by
 have:b=0∨b=1:=by omega
 rcases this with rfl|rfl<;>rfl
theorem yD (x y c:Nat) (hc:c≤1) (w:World) :
  (callFunc 93 #[.int .u64 (x:Int),.int .u64 (y:Int),.int .u64 (c:Int)]).run prog w =
   .ok (.value (.tuple #[.int .u64 (JE x y c:Nat),.int .u64 (JF x y c:Nat)])) w:=by
 rw[run_callFunc_extern func93 (by kernel_rfl) (by kernel_rfl) (by kernel_rfl) (e:=VR) (by kernel_rfl),JL x y c hc];rfl
theorem JQ (x y:Nat) (w:World) :
  (callFunc 93 #[.int .u64 (x:Int),.int .u64 (y:Int),.int .u64 0]).run prog w =
   .ok (.value (.tuple #[.int .u64 (JE x y 0:Nat),.int .u64 (JF x y 0:Nat)])) w:=yD x y 0 (by omega) w
theorem kY {x y c:Nat} (hx:x<18446744073709551616) (hy:y<18446744073709551616) (hc:c≤1):∃d b:Nat,(∀w,(callFunc 57 #[.int .u64 (x:Int),.int .u64 (y:Int),.int .u64 (c:Int)]).run prog w =
   .ok (.value (.tuple #[.int .u64 (d:Int),.int .u64 (b:Int)])) w)∧d<18446744073709551616∧b≤1∧Hid (d+18446744073709551616*b=x+y+c) :=
 ⟨_,_,sC x y c hc,CF _ _ _,CH hx hy hc,Cu x y c⟩
theorem gY {x y:Nat} (hx:x<18446744073709551616) (hy:y<18446744073709551616):∃d b:Nat,(∀w,(callFunc 57 #[.int .u64 (x:Int),.int .u64 (y:Int),.int .u64 0]).run prog w =
   .ok (.value (.tuple #[.int .u64 (d:Int),.int .u64 (b:Int)])) w)∧d<18446744073709551616∧b≤1∧Hid (d+18446744073709551616*b=x+y) :=
 ⟨_,_,JR x y,CF _ _ _,CH hx hy (Nat.zero_le _),Cu x y 0⟩
theorem kX {x y c:Nat} (hx:x<18446744073709551616) (hy:y<18446744073709551616) (hc:c≤1):∃d b:Nat,(∀w,(callFunc 93 #[.int .u64 (x:Int),.int .u64 (y:Int),.int .u64 (c:Int)]).run prog w =
   .ok (.value (.tuple #[.int .u64 (d:Int),.int .u64 (b:Int)])) w)∧d<18446744073709551616∧b≤1∧Hid (d+y+c=x+18446744073709551616*b) :=
 ⟨_,_,yD x y c hc,NV _ _ _,NW _ _ _,Lt hx hy hc⟩
theorem yW {x y:Nat} (hx:x<18446744073709551616) (hy:y<18446744073709551616):∃d b:Nat,(∀w,(callFunc 93 #[.int .u64 (x:Int),.int .u64 (y:Int),.int .u64 0]).run prog w =
   .ok (.value (.tuple #[.int .u64 (d:Int),.int .u64 (b:Int)])) w)∧d<18446744073709551616∧b≤1∧Hid (d+y=x+18446744073709551616*b) :=
 ⟨_,_,JQ x y,NV _ _ _,NW _ _ _,Lt hx hy (Nat.zero_le _)⟩
def QI (A B:Nat) (w:World) (e:Ending) (w':World):Prop :=
 ∃s0 s1 s2 s3 c:Nat,e=.returned (.tuple #[.agg #[.int .u64 s0,.int .u64 s1,.int .u64 s2,.int .u64 s3],.int .u64 c])∧cC s0 s1 s2 s3∧c≤1∧aC s0 s1 s2 s3+115792089237316195423570985008687907853269984665640564039457584007913129639936*c=A+B∧Below w.heap.size w w'
def Lk (A B:Nat) (w:World) (e:Ending) (w':World):Prop :=
 ∃s0 s1 s2 s3 c:Nat,e=.returned (.tuple #[.agg #[.int .u64 s0,.int .u64 s1,.int .u64 s2,.int .u64 s3],.int .u64 c])∧cC s0 s1 s2 s3∧c≤1∧aC s0 s1 s2 s3+B=A+115792089237316195423570985008687907853269984665640564039457584007913129639936*c∧Below w.heap.size w w'
theorem zG (a0 a1 a2 a3 b0 b1 b2 b3:Nat) (ha:cC a0 a1 a2 a3) (hb:cC b0 b1 b2 b3) (w:World) :
  Calls prog 132 #[.agg #[.int .u64 a0,.int .u64 a1,.int .u64 a2,.int .u64 a3],.agg #[.int .u64 b0,.int .u64 b1,.int .u64 b2,.int .u64 b3]] w (QI (aC a0 a1 a2 a3) (aC b0 b1 b2 b3) w):=by
 obtain⟨s0,c0,r0,bs0,bc0,e0⟩:=gY ha.1 hb.1;obtain⟨s1,c1,r1,bs1,bc1,e1⟩:=kY ha.2.1 hb.2.1 bc0;obtain⟨s2,c2,r2,bs2,bc2,e2⟩:=kY ha.2.2.1 hb.2.2.1 bc1;obtain⟨s3,c3,r3,bs3,bc3,e3⟩:=kY ha.2.2.2 hb.2.2.2 bc2
 go_enter func132,ntmps132
 go_wp2
 refine wp_loop_rounds 5 ?_;rw[rounds_succ]
 go_wp2
 go_region
 go_wp2
 rw[rounds_succ]
 go_wp2
 go_region
 go_wp2
 rw[rounds_succ]
 go_wp2
 go_region
 go_wp2
 rw[rounds_succ]
 go_wp2
 go_region
 go_wp2
 rw[rounds_succ]
 go_wp2
 refine bodyPost_ret (v:=.tuple #[.agg #[.int .u64 s0,.int .u64 s1,.int .u64 s2,.int .u64 s3],.int .u64 c3]) (by simp[results,results132,go_sem]) rfl ?_;refine⟨_,_,_,_,_,rfl,⟨bs0,bs1,bs2,bs3⟩,bc3,by have:=e0.out; have:=e1.out; have:=e2.out; have:=e3.out; unfold aC; omega,?_⟩
 repeat (first|exact Below.refl _ _|refine Below.drew ?_|refine Below.alloc ?_ (by first|(simp; done)|(simp; omega)) _)
theorem nW (a0 a1 a2 a3 b0 b1 b2 b3:Nat) (ha:cC a0 a1 a2 a3) (hb:cC b0 b1 b2 b3) (w:World) :
  Calls prog 72 #[.agg #[.int .u64 a0,.int .u64 a1,.int .u64 a2,.int .u64 a3],.agg #[.int .u64 b0,.int .u64 b1,.int .u64 b2,.int .u64 b3]] w (Lk (aC a0 a1 a2 a3) (aC b0 b1 b2 b3) w):=by
 obtain⟨s0,c0,r0,bs0,bc0,e0⟩:=yW ha.1 hb.1;obtain⟨s1,c1,r1,bs1,bc1,e1⟩:=kX ha.2.1 hb.2.1 bc0;obtain⟨s2,c2,r2,bs2,bc2,e2⟩:=kX ha.2.2.1 hb.2.2.1 bc1;obtain⟨s3,c3,r3,bs3,bc3,e3⟩:=kX ha.2.2.2 hb.2.2.2 bc2
 go_enter func72,ntmps72
 go_wp2
 refine wp_loop_rounds 5 ?_;rw[rounds_succ]
 go_wp2
 go_region
 go_wp2
 rw[rounds_succ]
 go_wp2
 go_region
 go_wp2
 rw[rounds_succ]
 go_wp2
 go_region
 go_wp2
 rw[rounds_succ]
 go_wp2
 go_region
 go_wp2
 rw[rounds_succ]
 go_wp2
 refine bodyPost_ret (v:=.tuple #[.agg #[.int .u64 s0,.int .u64 s1,.int .u64 s2,.int .u64 s3],.int .u64 c3]) (by simp[results,results72,go_sem]) rfl ?_;refine⟨_,_,_,_,_,rfl,⟨bs0,bs1,bs2,bs3⟩,bc3,by have:=e0.out; have:=e1.out; have:=e2.out; have:=e3.out; unfold aC; omega,?_⟩
 repeat (first|exact Below.refl _ _|refine Below.drew ?_|refine Below.alloc ?_ (by first|(simp; done)|(simp; omega)) _)
theorem tR {W w1:World} (hb:Below W.heap.size W w1):(∀b o,b<W.heap.size→w1.cell? ⟨b,o,none⟩=W.cell? ⟨b,o,none⟩)∧(∀b o,b<W.heap.size→w1.frozen? ⟨b,o,none⟩=W.frozen? ⟨b,o,none⟩) :=
 ⟨fun b o h=>hb.cell (p:=⟨b,o,none⟩) h,fun b o h=>hb.frozen (p:=⟨b,o,none⟩) h⟩
def LX (a0 a1 a2 a3 b0 b1 b2 b3:Nat):Bool:=decide (a0=b0∧a1=b1∧a2=b2∧a3=b3)
theorem wI (d:Nat) (a0 a1 a2 a3 b0 b1 b2 b3:Nat) (w:World):(Op.equalIn (d+1+1) 24 (.agg #[.int .u64 a0,.int .u64 a1,.int .u64 a2,.int .u64 a3]) (.agg #[.int .u64 b0,.int .u64 b1,.int .u64 b2,.int .u64 b3])).run prog w=.ok (LX a0 a1 a2 a3 b0 b1 b2 b3) w:=by
 have h0:∀(x y:Int) (w:World),(Op.equalIn (d+1) 22 (.int .u64 x) (.int .u64 y)).run prog w=.ok (x==y) w:=fun x y w=>run_equalIn_int w d 22 .u64 .u64 x y underlying22
 rw[Op.equalIn];simp only[Sem.run_bind,run_underlying underlying24,Result.andThen_ok,Tryz.sizeOf22];simp[Std.Legacy.Range.forIn_eq_forIn_range',Std.Legacy.Range.size,List.range',part,h0,Sem.run_bind,Result.andThen_ok];unfold LX
 by_cases q0:a0=b0<;>by_cases q1:a1=b1<;>by_cases q2:a2=b2<;>by_cases q3:a3=b3<;>simp[q0,q1,q2,q3]<;>omega
theorem wK:prog.eqGuardType prog.depth 24=false:=by kernel_rfl
theorem rQ {a0 a1 a2 a3 b0 b1 b2 b3:Nat} (ha:cC a0 a1 a2 a3) (hb:cC b0 b1 b2 b3):LX a0 a1 a2 a3 b0 b1 b2 b3=true↔aC a0 a1 a2 a3=aC b0 b1 b2 b3:=by
 unfold LX; rw[decide_eq_true_iff];exact⟨fun⟨h0,h1,h2,h3⟩=>by rw[h0,h1,h2,h3],uM ha hb⟩
def iJ (A B:Nat):Int:=if A=B then 0 else if A<B then -1 else 1
theorem TD (a0 a1 a2 a3 b0 b1 b2 b3:Nat) (ha:cC a0 a1 a2 a3) (hb:cC b0 b1 b2 b3) (w:World) :
  Calls prog 43 #[.agg #[.int .u64 a0,.int .u64 a1,.int .u64 a2,.int .u64 a3],.agg #[.int .u64 b0,.int .u64 b1,.int .u64 b2,.int .u64 b3]] w fun e w'=>e=.returned (.int .i64 (iJ (aC a0 a1 a2 a3) (aC b0 b1 b2 b3)))∧Below w.heap.size w w':=by
 have hE:=fun w=>wI 9998 a0 a1 a2 a3 b0 b1 b2 b3 w
 have hG:=wK;have hi:=rQ ha hb;cases q:LX a0 a1 a2 a3 b0 b1 b2 b3
 ·rw[q]at hE hi;have hn:¬aC a0 a1 a2 a3=aC b0 b1 b2 b3:=fun h=>by simpa using hi.2 h
  have hfin1:aC a0 a1 a2 a3<aC b0 b1 b2 b3→iJ (aC a0 a1 a2 a3) (aC b0 b1 b2 b3) = -1:=fun h=>by unfold iJ; rw[if_neg hn,if_pos h]
  have hfin2:¬aC a0 a1 a2 a3<aC b0 b1 b2 b3→iJ (aC a0 a1 a2 a3) (aC b0 b1 b2 b3)=1:=fun h=>by unfold iJ; rw[if_neg hn,if_neg h]
  have HF1:=Lib.hid hfin1; have HF2:=Lib.hid hfin2;have vb:=bN hb;have va:=bN ha;clear q hi hn hfin1 hfin2
  go_enter func43,ntmps43
  go_wp2_with fail;refine (nW a0 a1 a2 a3 b0 b1 b2 b3 ha hb _).mono ?_
  rintro e w1 ⟨s0,s1,s2,s3,c,rfl,hs,hc,hv,hbl⟩
  have HV:=Lib.hid hv; clear hv;have vs:=bN hs;have hc':c=0∨c=1:=by omega
  rcases hc' with rfl|rfl
  ·go_wp2
   go_ret;exact⟨by rw[HF2.out (by have:=HV.out; omega)]; rfl,((((Below.refl _ _).alloc (Nat.le_refl _) _).alloc (by simp) _).trans (hbl.mono (by simp; omega))).alloc (by have:=hbl.size; simp at this; omega) _⟩
  ·go_wp2
   go_ret;exact⟨by rw[HF1.out (by have:=HV.out; omega)]; rfl,((((Below.refl _ _).alloc (Nat.le_refl _) _).alloc (by simp) _).trans (hbl.mono (by simp; omega))).alloc (by have:=hbl.size; simp at this; omega) _⟩
 ·rw[q]at hE hi;have hn:aC a0 a1 a2 a3=aC b0 b1 b2 b3:=hi.1 rfl;have HF:=Lib.hid (show iJ (aC a0 a1 a2 a3) (aC b0 b1 b2 b3)=0 by unfold iJ; rw[if_pos hn]);clear q hi hn
  go_enter func43,ntmps43
  go_wp2_with fail;go_ret;exact⟨by rw[HF.out]; rfl,(((Below.refl _ _).alloc (Nat.le_refl _) _).alloc (by simp) _)⟩
end Go.Proofs.YtpbljiejmfahcaaGreatDoor
namespace Go.Proofs
open Go.Shelf
def Tryz.lays134_ren:Go.Shelf.Ren:=⟨fun|134=>145|129=>105|n=>n,fun|53=>22|3=>3|4=>4|46=>139|5=>5|9=>9|n=>n,fun|n=>n⟩
theorem Tryz.lays134:Go.Proofs.Lays.n134 prog Tryz.lays134_ren:={
 mixed:=by kernel_rfl
 f129:=func105.trans (congrArg some (by kernel_rfl))
 f134:=func145.trans (congrArg some (by kernel_rfl))
 t3:=underlying3
 a3:=Tryz.isAgg3
 z3:=Tryz.sizeOf3
 v3:=Tryz.zeroValue3
 t4:=underlying4
 a4:=Tryz.isAgg4
 z4:=Tryz.sizeOf4
 v4:=Tryz.zeroValue4
 t5:=underlying5
 a5:=Tryz.isAgg5
 z5:=Tryz.sizeOf5
 v5:=Tryz.zeroValue5
 t9:=underlying9
 a9:=Tryz.isAgg9
 z9:=Tryz.sizeOf9
 v9:=Tryz.zeroValue9
 t46:=underlying139
 a46:=Tryz.isAgg139
 z46:=Tryz.sizeOf139
 v46:=Tryz.zeroValue139
 t53:=underlying22
 a53:=Tryz.isAgg22
 z53:=Tryz.sizeOf22
 v53:=Tryz.zeroValue22 }
theorem Tryz.bits_LeadingZeros64 (x:Int) (w:World) (h0:0≤x) (h1:x≤18446744073709551615) :
  Calls prog 145 #[.int .u64 x] w fun e w'=>e=.returned (.int .i64 (64-(Lib.bitLen x.toNat:Int)))∧w'=w:=Any.bits_LeadingZeros64 Tryz.lays134 x w h0 h1
def Tryz.lays129_ren:Go.Shelf.Ren:=⟨fun|129=>105|n=>n,fun|53=>22|3=>3|4=>4|46=>139|5=>5|9=>9|n=>n,fun|n=>n⟩
theorem Tryz.lays129:Go.Proofs.Lays.n129 prog Tryz.lays129_ren:={
 mixed:=by kernel_rfl
 f129:=func105.trans (congrArg some (by kernel_rfl))
 t3:=underlying3
 a3:=Tryz.isAgg3
 z3:=Tryz.sizeOf3
 v3:=Tryz.zeroValue3
 t4:=underlying4
 a4:=Tryz.isAgg4
 z4:=Tryz.sizeOf4
 v4:=Tryz.zeroValue4
 t5:=underlying5
 a5:=Tryz.isAgg5
 z5:=Tryz.sizeOf5
 v5:=Tryz.zeroValue5
 t9:=underlying9
 a9:=Tryz.isAgg9
 z9:=Tryz.sizeOf9
 v9:=Tryz.zeroValue9
 t46:=underlying139
 a46:=Tryz.isAgg139
 z46:=Tryz.sizeOf139
 v46:=Tryz.zeroValue139
 t53:=underlying22
 a53:=Tryz.isAgg22
 z53:=Tryz.sizeOf22
 v53:=Tryz.zeroValue22 }
theorem Tryz.bits_Len64 (x:Int) (w:World) (h0:0≤x) (h1:x≤18446744073709551615) :
  Calls prog 105 #[.int .u64 x] w fun e w'=>e=.returned (.int .i64 (Lib.bitLen x.toNat))∧w'=w:=Any.bits_Len64 Tryz.lays129 x w h0 h1
def Tryz.lays264_ren:Go.Shelf.Ren:=⟨fun|264=>56|n=>n,fun|53=>22|46=>139|n=>n,fun|n=>n⟩
theorem Tryz.lays264:Go.Proofs.Lays.n264 prog Tryz.lays264_ren:={
 mixed:=by kernel_rfl
 f264:=func56.trans (congrArg some (by kernel_rfl))
 t46:=underlying139
 a46:=Tryz.isAgg139
 z46:=Tryz.sizeOf139
 v46:=Tryz.zeroValue139
 t53:=underlying22
 a53:=Tryz.isAgg22
 z53:=Tryz.sizeOf22
 v53:=Tryz.zeroValue22 }
open Go.RowKit Go.Lib in
theorem Tryz.bits_Mul64 (x y:Nat) (hx:x<18446744073709551616) (hy:y<18446744073709551616) (w:World) :
  Calls prog 56 #[.int .u64 x,.int .u64 y] w fun e w'=>e=.returned (.tuple #[.int .u64 ((x*y/18446744073709551616:Nat):Int),.int .u64 ((x*y%18446744073709551616:Nat):Int)])∧w'=w:=Any.bits_Mul64 Tryz.lays264 x y hx hy w
end Go.Proofs
namespace Go.Proofs.YtpbljiejmfahcaaGreatDoor
open Go.Proofs.Tryz
open Go.RowKit
theorem FN (x y:Nat) (hx:x<18446744073709551616) (hy:y<18446744073709551616) (w:World) :
  Calls prog 56 #[.int .u64 x,.int .u64 y] w fun e w'=>e=.returned (.tuple #[.int .u64 (YO x y:Nat),.int .u64 (YN x y:Nat)])∧w'=w :=
 Tryz.bits_Mul64 x y hx hy w
theorem wG {x y:Nat} (hx:x<18446744073709551616) (hy:y<18446744073709551616):∃h l:Nat,(∀w,Calls prog 56 #[.int .u64 x,.int .u64 y] w fun e w'=>e=.returned (.tuple #[.int .u64 (h:Nat),.int .u64 (l:Nat)])∧w'=w)∧h≤18446744073709551614∧l<18446744073709551616∧Hid (l+18446744073709551616*h=x*y) :=
 ⟨_,_,FN x y hx hy,Hq hx hy,Hp _ _,Zc x y⟩
def Ur (A y:Nat) (w:World) (e:Ending) (w':World):Prop :=
 ∃s0 s1 s2 s3 o:Nat,e=.returned (.tuple #[.int .u64 o,.agg #[.int .u64 s0,.int .u64 s1,.int .u64 s2,.int .u64 s3]])∧cC s0 s1 s2 s3∧o<18446744073709551616∧aC s0 s1 s2 s3+115792089237316195423570985008687907853269984665640564039457584007913129639936*o=A*y∧Below w.heap.size w w'
theorem PK {x y o:Nat} (hx:x<18446744073709551616) (hy:y<18446744073709551616) (ho:o<18446744073709551616):∃h l d b p:Nat,(∀w,Calls prog 56 #[.int .u64 x,.int .u64 y] w fun e w'=>e=.returned (.tuple #[.int .u64 (h:Nat),.int .u64 (l:Nat)])∧w'=w) ∧
  (∀w,(callFunc 57 #[.int .u64 (l:Int),.int .u64 (o:Int),.int .u64 0]).run prog w=.ok (.value (.tuple #[.int .u64 (d:Int),.int .u64 (b:Int)])) w)∧h≤18446744073709551614∧b≤1∧d<18446744073709551616∧p<18446744073709551616∧((h:Int)+(b:Int)=(p:Int))∧Hid (d+18446744073709551616*p=x*y+o):=by
 obtain⟨h,l,r,hh,hl,e⟩:=wG hx hy;obtain⟨d,b,r',hd,hb,e'⟩:=gY hl ho;exact⟨h,l,d,b,h+b,r,r',hh,hb,hd,by omega,by omega,Lib.hid (by have:=e.out; have:=e'.out; omega)⟩
theorem Sw {x y:Nat} (hx:x<18446744073709551616) (hy:y<18446744073709551616):∃h l d b p:Nat,(∀w,Calls prog 56 #[.int .u64 x,.int .u64 y] w fun e w'=>e=.returned (.tuple #[.int .u64 (h:Nat),.int .u64 (l:Nat)])∧w'=w) ∧
  (∀w,(callFunc 57 #[.int .u64 (l:Int),.int .u64 0,.int .u64 0]).run prog w=.ok (.value (.tuple #[.int .u64 (d:Int),.int .u64 (b:Int)])) w)∧h≤18446744073709551614∧b≤1∧d<18446744073709551616∧p<18446744073709551616∧((h:Int)+(b:Int)=(p:Int))∧Hid (d+18446744073709551616*p=x*y):=by
 obtain⟨h,l,d,b,p,r,r',hh,hb,hd,hp,q,e⟩:=PK hx hy (by omega:0<18446744073709551616);exact⟨h,l,d,b,p,r,r',hh,hb,hd,hp,q,e⟩
theorem CV (a0 a1 a2 a3 y:Nat) (ha:cC a0 a1 a2 a3) (hy:y<18446744073709551616) (w:World) :
  Calls prog 131 #[.agg #[.int .u64 a0,.int .u64 a1,.int .u64 a2,.int .u64 a3],.int .u64 y] w (Ur (aC a0 a1 a2 a3) y w):=by
 obtain⟨h0,l0,d0,b0,o0,m0,r0,bh0,bb0,bd0,bo0,q0,e0⟩:=Sw ha.1 hy;obtain⟨h1,l1,d1,b1,o1,m1,r1,bh1,bb1,bd1,bo1,q1,e1⟩:=PK ha.2.1 hy bo0;obtain⟨h2,l2,d2,b2,o2,m2,r2,bh2,bb2,bd2,bo2,q2,e2⟩:=PK ha.2.2.1 hy bo1;obtain⟨h3,l3,d3,b3,o3,m3,r3,bh3,bb3,bd3,bo3,q3,e3⟩:=PK ha.2.2.2 hy bo2;have HF:Hid (aC d0 d1 d2 d3+115792089237316195423570985008687907853269984665640564039457584007913129639936*o3=aC a0 a1 a2 a3*y):=Lib.hid (by
  have:=e0.out; have:=e1.out; have:=e2.out; have:=e3.out;unfold aC; simp only[Nat.add_mul,Nat.mul_assoc]; omega)
 clear e0 e1 e2 e3
 go_enter func131,ntmps131
 go_wp2_with fail;refine wp_loop_rounds 5 ?_;rw[rounds_succ];go_wp2_with fail;refine (m0 _).mono ?_
 rintro e w' ⟨rfl,rfl⟩
 go_wp2_with fail;rw[rounds_succ];go_wp2_with fail;refine (m1 _).mono ?_
 rintro e w' ⟨rfl,rfl⟩
 go_wp2_with fail;rw[rounds_succ];go_wp2_with fail;refine (m2 _).mono ?_
 rintro e w' ⟨rfl,rfl⟩
 go_wp2_with fail;rw[rounds_succ];go_wp2_with fail;refine (m3 _).mono ?_
 rintro e w' ⟨rfl,rfl⟩
 go_wp2_with fail;rw[rounds_succ];go_wp2_with fail
 go_region
 all_goals (
  go_wp2
  refine bodyPost_ret (v:=.tuple #[.int .u64 o3,.agg #[.int .u64 d0,.int .u64 d1,.int .u64 d2,.int .u64 d3]]) (by simp[results,results131,go_sem]) rfl ?_;refine⟨_,_,_,_,_,rfl,⟨bd0,bd1,bd2,bd3⟩,bo3,HF.out,?_⟩
  repeat (first|exact Below.refl _ _|refine Below.drew ?_|refine Below.alloc ?_ (by first|(simp; done)|(simp; omega)) _))
theorem kJ (x:Nat) (h:x<18446744073709551616):IntKind.u64.wrap (x:Int)=(x:Int):=by rw[IntKind.wrap_u64]; omega
theorem lG (x:Nat):IntKind.u64.wrap (x:Int)=((x%18446744073709551616:Nat):Int):=by rw[IntKind.wrap_u64]; omega
theorem fL (x S:Nat):(x:Int)*2^S=((x*2^S:Nat):Int):=by rw[Int.natCast_mul,Int.natCast_pow]; rfl
theorem sK (S:Nat) (h:S≤63):2^(64-S)*2^S=18446744073709551616:=by
 rw[←Nat.pow_add,show 64-S+S=64 by omega]
theorem Bi {hi lo y S:Nat} (h2:hi<y) (hl:lo<18446744073709551616) (hS:S≤63) (hY:y*2^S<18446744073709551616) :
  ∃u L:Nat,bits .or .u64 (IntKind.u64.wrap ((hi:Int)*2^S)) ((lo:Int)/2^(64-S))=(u:Int)∧IntKind.u64.wrap ((lo:Int)*2^S)=(L:Int)∧u<y*2^S∧L<18446744073709551616∧u*18446744073709551616+L=(hi*18446744073709551616+lo)*2^S:=by
 have hp:0<2^S:=Nat.two_pow_pos S;have hps:=sK S hS;have hb:lo/2^(64-S)<2^S:=by
  rw[Nat.div_lt_iff_lt_mul (Nat.two_pow_pos _),Nat.mul_comm,hps]; exact hl
 have hhi:hi*2^S+2^S≤y*2^S:=by
  have:=Nat.mul_le_mul_right (2^S) (show hi+1≤y by omega);rw[Nat.add_mul]at this; omega
 have hd:lo*2^S/18446744073709551616=lo/2^(64-S):=by
  rw[←hps]; exact Nat.mul_div_mul_right _ _ hp
 refine⟨hi*2^S+lo/2^(64-S),lo*2^S%18446744073709551616,?_,?_,?_,by omega,?_⟩
 ·rw[fL,kJ _ (by omega),show ((lo:Int)/2^(64-S))=((lo/2^(64-S):Nat):Int) by rw[Int.natCast_ediv,Int.natCast_pow]; rfl,
   bits_or_u64_nat _ _ (by omega) (by omega),Nat.mul_comm hi,Nat.two_pow_add_eq_or_of_lt hb]
 ·rw[fL,lG]
 ·omega
 ·rw[Nat.add_mul,←hd];have e:(hi*18446744073709551616+lo)*2^S=hi*2^S*18446744073709551616+lo*2^S:=by
   rw[Nat.add_mul,Nat.mul_right_comm]
  rw[e]; omega
theorem BS {Y:Nat} (h:Y<18446744073709551616):∃a b:Nat,(Y:Int)/4294967296=(a:Int)∧bits .and .u64 (Y:Int) 4294967295=(b:Int)∧a<4294967296∧b<4294967296∧Y=a*4294967296+b:=by
 refine⟨Y/4294967296,Y%4294967296,by omega,?_,by omega,by omega,by omega⟩;have h':=bits_and_u64_nat Y 4294967295 h (by omega);rw[show Y &&& 4294967295=Y%4294967296 from Nat.and_two_pow_sub_one_eq_mod Y 32]at h';exact h'
theorem aFs (u y1:Nat) (h:0<y1):∃q r:Nat,(u:Int)/(y1:Int)=(q:Int)∧(u:Int)-(q:Int)*(y1:Int)=(r:Int)∧q*y1+r=u∧r<y1:=by
 have e:=Nat.div_add_mod u y1;rw[Nat.mul_comm]at e;refine⟨u/y1,u%y1,(Int.natCast_ediv u y1).symm,?_,e,Nat.mod_lt _ h⟩;rw[←Int.natCast_mul]; omega
def KI (y1 y0 u u1 q r:Nat):Prop:=q*y1+r=u∧(u*4294967296+u1)/(y1*4294967296+y0)≤q∧q≤4294967297∧r<4294967296
structure KS (y1 y0 u u1:Nat):Prop where
 a1:y1<4294967296
 a2:2147483648≤y1
 a3:y0<4294967296
 a4:u<y1*4294967296+y0
 a5:u1<4294967296
section
variable {y1 y0 u u1 q r:Nat}
theorem BB (q y1 y0:Nat):q*(y1*4294967296+y0)=q*y1*4294967296+q*y0:=by rw[Nat.mul_add,Nat.mul_assoc]
theorem ZK (s:KS y1 y0 u u1):0<y1*4294967296+y0:=by have:=s.a2; omega
theorem ZL (s:KS y1 y0 u u1) (e:q*y1+r=u) (h:r<y1):KI y1 y0 u u1 q r:=by
 obtain⟨b1,b2,b3,b4,b5⟩:=s;refine⟨e,?_,?_,by omega⟩
 ·rw[←Nat.lt_succ_iff,Nat.div_lt_iff_lt_mul (by omega),BB];have:(q+1)*y1=q*y1+y1:=by rw[Nat.add_mul,Nat.one_mul]
  rw[Nat.succ_eq_add_one,this]; omega
 ·rcases Nat.lt_or_ge q 4294967298 with h'|h'
  ·omega
  ·have:=Nat.mul_le_mul_right y1 h';omega
theorem Zo (s:KS y1 y0 u u1):(u*4294967296+u1)/(y1*4294967296+y0)<4294967296:=by
 obtain⟨b1,b2,b3,b4,b5⟩:=s;rw[Nat.div_lt_iff_lt_mul (by omega)]; omega
theorem Mj (s:KS y1 y0 u u1) (e:q*y1+r=u) (h:q*y0≤4294967296*r+u1):q≤(u*4294967296+u1)/(y1*4294967296+y0):=by
 rw[Nat.le_div_iff_mul_le (ZK s),BB]; omega
theorem Rf (s:KS y1 y0 u u1) (k:KI y1 y0 u u1 q r) (h:q*y0≤4294967296*r+u1):q=(u*4294967296+u1)/(y1*4294967296+y0) :=
 Nat.le_antisymm (Mj s k.1 h) k.2.1
theorem Zp (s:KS y1 y0 u u1) (k:KI y1 y0 u u1 q r) (h:4294967296*r+u1<q*y0):(u*4294967296+u1)/(y1*4294967296+y0)+1≤q:=by
 rw[Nat.succ_le_iff,Nat.div_lt_iff_lt_mul (ZK s),BB]; have:=k.1; omega
theorem Rg (s:KS y1 y0 u u1) (h:4294967296≤q):(u*4294967296+u1)/(y1*4294967296+y0)+1≤q:=by have:=Zo s; omega
theorem PC (h:1≤q):(q-1)*y1+(r+y1)=q*y1+r:=by
 obtain⟨p,rfl⟩:∃p,q=p+1:=⟨q-1,by omega⟩
 rw[Nat.add_sub_cancel,Nat.add_mul,Nat.one_mul]; omega
theorem PD (k:KI y1 y0 u u1 q r) (h:(u*4294967296+u1)/(y1*4294967296+y0)+1≤q) (h':r+y1<4294967296):KI y1 y0 u u1 (q-1) (r+y1) :=
 ⟨by rw[PC (Nat.le_trans (Nat.le_add_left 1 _) h)]; exact k.1,Nat.le_sub_one_of_lt h,by have:=k.2.2.1; omega,h'⟩
theorem FY (s:KS y1 y0 u u1) (k:KI y1 y0 u u1 q r) (h:(u*4294967296+u1)/(y1*4294967296+y0)+1≤q) (h':4294967296≤r+y1):q-1=(u*4294967296+u1)/(y1*4294967296+y0):=by
 have e:=PC (y1:=y1) (r:=r) (Nat.le_trans (Nat.le_add_left 1 _) h);refine Nat.le_antisymm (Mj s (e.trans k.1) ?_) (Nat.le_sub_one_of_lt h);have:=mX (show q-1≤4294967296 by have:=k.2.2.1; omega) (show y0≤4294967295 by have:=s.a3; omega);omega
end
theorem Ka {Y u u1:Nat} (hY:Y<18446744073709551616) (hp:0<Y) :
  ∃m:Nat,IntKind.u64.wrap (IntKind.u64.wrap (IntKind.u64.wrap ((u:Int)*4294967296)+(u1:Int))-IntKind.u64.wrap (((u*4294967296+u1)/Y:Nat)*(Y:Int)))=(m:Int)∧m<Y∧(u*4294967296+u1)/Y*Y+m=u*4294967296+u1:=by
 have e:=Nat.div_add_mod (u*4294967296+u1) Y;have hm:=Nat.mod_lt (u*4294967296+u1) hp;rw[Nat.mul_comm]at e;refine⟨(u*4294967296+u1)%Y,?_,hm,e⟩;rw[←Int.natCast_mul];generalize (u*4294967296+u1)/Y*Y=P at *;generalize (u*4294967296+u1)%Y=m at *;simp only[IntKind.wrap_u64];omega
theorem Kb {U Y y S V Q1 Q0 u L m R u1 u0:Nat} (hy:Y=y*2^S) (hU:U=V*2^S) (e:u*18446744073709551616+L=U) (eL:L=u1*4294967296+u0)
  (e1:Q1*Y+m=u*4294967296+u1) (e0:Q0*Y+R=m*4294967296+u0) (hR:R<Y):Q1*4294967296+Q0=V/y∧R/2^S=V%y:=by
 have hp:0<2^S:=Nat.two_pow_pos S;have hYp:0<Y:=by omega
 have hYU:U=(Q1*4294967296+Q0)*Y+R:=by
  have:(Q1*4294967296+Q0)*Y=Q1*Y*4294967296+Q0*Y:=by rw[Nat.add_mul,Nat.mul_right_comm]
  rw[this]; omega
 have hq:U/Y=Q1*4294967296+Q0:=by
  rw[hYU,Nat.mul_comm,Nat.mul_add_div hYp,Nat.div_eq_of_lt hR,Nat.add_zero]
 have hr:U%Y=R:=by
  rw[hYU,Nat.mul_comm,Nat.mul_add_mod,Nat.mod_eq_of_lt hR]
 constructor
 ·rw[←hq,hU,hy,Nat.mul_div_mul_right _ _ hp]
 ·rw[←hr,hU,hy,Nat.mul_mod_mul_right,Nat.mul_div_cancel _ hp]
theorem ZB {y:Nat} (h0:1≤y) (hy:y<18446744073709551616):Lib.bitLen y=y.log2+1∧2^y.log2≤y∧y<2^(y.log2+1)∧y.log2≤63:=by
 have a:=Nat.log2_self_le (show y≠0 by omega);have b:y<2^(y.log2+1):=Nat.lt_log2_self;refine⟨?_,a,b,?_⟩
 ·rw[Lib.bitLen_shift y.log2 y a hy];have:y/2^y.log2=1:=by
   rw[Nat.pow_succ]at b;exact (Nat.div_eq_iff (Nat.two_pow_pos _)).2 ⟨by omega,by omega⟩
  rw[this]; rfl
 ·have:=(Nat.log2_lt (show y≠0 by omega)).2 (show y<2^64 from hy);omega
theorem aAP {y:Nat} (h0:1≤y) (hy:y<18446744073709551616):∃S:Nat,(∀w,Calls prog 145 #[.int .u64 y] w fun e w'=>e=.returned (.int .i64 S)∧w'=w)∧S≤63∧9223372036854775808≤y*2^S∧y*2^S<18446744073709551616:=by
 obtain⟨hl,ha,hb,hk⟩:=ZB h0 hy;refine⟨63-y.log2,fun w => ?_,by omega,?_,?_⟩
 ·have:=Tryz.bits_LeadingZeros64 (y:Int) w (by omega) (by omega);rw[Int.toNat_natCast,hl,show (64-((y.log2+1:Nat):Int))=((63-y.log2:Nat):Int) by omega]at this;exact this
 ·have:=Nat.mul_le_mul_right (2^(63-y.log2)) ha;rw[←Nat.pow_add,show y.log2+(63-y.log2)=63 by omega]at this;exact this
 ·have:=Nat.mul_lt_mul_of_pos_right hb (Nat.two_pow_pos (63-y.log2));rw[←Nat.pow_add,show y.log2+1+(63-y.log2)=64 by omega]at this;exact this
def QH (V y:Nat) (w:World) (e:Ending) (w':World):Prop :=
 ∃n:Nat,e=.returned (.tuple #[.int .u64 (V/y:Nat),.int .u64 (V%y:Nat)])∧w'=w.drewN n
theorem GN {y1 y0 u u1 Y:Nat} (ks:KS y1 y0 u u1) (hY:Y<18446744073709551616) (eY:Y=y1*4294967296+y0):∃q r p Q m:Nat,
  (u:Int)/(y1:Int)=(q:Int)∧(q:Int)*(y1:Int)=(p:Int)∧(u:Int)-(p:Int)=(r:Int)∧q≤4294967297∧r<4294967296∧p≤u∧Hid (KI y1 y0 u u1 q r) ∧
  IntKind.u64.wrap (IntKind.u64.wrap (IntKind.u64.wrap ((u:Int)*4294967296)+(u1:Int))-IntKind.u64.wrap ((Q:Int)*(Y:Int)))=(m:Int) ∧
  Q<4294967296∧m<Y∧Hid (Q=(u*4294967296+u1)/(y1*4294967296+y0))∧Hid (Q*Y+m=u*4294967296+u1):=by
 have b2:0<y1:=by have:=ks.a2; omega
 obtain⟨q,r,E8,E9,eq,hr⟩:=aFs u y1 b2;have ki:=ZL ks eq hr;obtain⟨m,Em,hm,em⟩:=Ka (u:=u) (u1:=u1) hY (by have:=ks.a2; omega);have hQ:=Zo ks;rw[←eY]at hQ;refine⟨q,r,q*y1,(u*4294967296+u1)/Y,m,E8,(Int.natCast_mul q y1).symm,by rw[Int.natCast_mul]; exact E9,ki.2.2.1,ki.2.2.2,by omega,Lib.hid ki,Em,hQ,hm,Lib.hid (by rw[←eY]),Lib.hid em⟩
def Ng (u1 q r t:Nat):Prop:=decide ((4294967296:Int)≤(q:Int))=true∨decide ((4294967296:Int)≤(q:Int))=false∧decide ((4294967296:Int)*(r:Int)+(u1:Int)<(t:Int))=true∧t<18446744073709551616
theorem Lr {y1 y0 u u1 q r:Nat} (s:KS y1 y0 u u1) (k:KI y1 y0 u u1 q r) {Q:Nat} (hQ:Q=(u*4294967296+u1)/(y1*4294967296+y0)) :
  ∃t v:Nat,(q:Int)*(y0:Int)=(t:Int)∧(r:Int)+(y1:Int)=(v:Int)∧v<18446744073709551616 ∧
  ((∃p:Nat,(q:Int)-1=(p:Int)∧p<q∧decide ((4294967296:Int)≤(v:Int))=false∧Ng u1 q r t∧Hid (KI y1 y0 u u1 p v)) ∨
  ((q:Int)-1=(Q:Int)∧1≤q∧decide ((4294967296:Int)≤(v:Int))=true∧Ng u1 q r t)∨(q=Q∧decide ((4294967296:Int)≤(q:Int))=false∧decide ((4294967296:Int)*(r:Int)+(u1:Int)<(t:Int))=false∧t<18446744073709551616)):=by
 have b1:=s.a1;have b3:=s.a3;have b5:=s.a5;have br:r<4294967296:=k.2.2.2;refine⟨q*y0,r+y1,(Int.natCast_mul q y0).symm,by omega,by omega,?_⟩
 rcases Nat.lt_or_ge q 4294967296 with h|h
 ·have hp:=mX (show q≤4294967295 by omega) (show y0≤4294967295 by omega)
  rcases Nat.lt_or_ge (4294967296*r+u1) (q*y0)with h'|h'
  ·have hn:=Zp s k h';have h1:=Nat.le_trans (Nat.le_add_left 1 _) hn
   rcases Nat.lt_or_ge (r+y1) 4294967296 with g|g
   ·exact Or.inl ⟨q-1,by omega,by omega,decide_eq_false (by omega),Or.inr ⟨decide_eq_false (by omega),decide_eq_true (by omega),by omega⟩,Lib.hid (PD k hn g)⟩
   ·have:=(FY s k hn g).trans hQ.symm;exact Or.inr (Or.inl ⟨by omega,h1,decide_eq_true (by omega),Or.inr ⟨decide_eq_false (by omega),decide_eq_true (by omega),by omega⟩⟩)
  ·exact Or.inr (Or.inr ⟨(Rf s k h').trans hQ.symm,decide_eq_false (by omega),decide_eq_false (by omega),by omega⟩)
 ·have hn:=Rg s h
  rcases Nat.lt_or_ge (r+y1) 4294967296 with g|g
  ·exact Or.inl ⟨q-1,by omega,by omega,decide_eq_false (by omega),Or.inl (decide_eq_true (by omega)),Lib.hid (PD k hn g)⟩
  ·have:=(FY s k hn g).trans hQ.symm;exact Or.inr (Or.inl ⟨by omega,by omega,decide_eq_true (by omega),Or.inl (decide_eq_true (by omega))⟩)
set_option maxHeartbeats 4000000 in
theorem SW (hi lo y:Nat) (h1:1≤hi) (h2:hi<y) (hl:lo<18446744073709551616) (hy:y<18446744073709551616) (w:World) :
  Calls prog 130 #[.int .u64 hi,.int .u64 lo,.int .u64 y] w (QH (hi*18446744073709551616+lo) y w):=by
 obtain⟨S,m,hS,hY1,hY2⟩:=aAP (show 1≤y by omega) hy;obtain⟨u,L,E4,E5,hu,hL,eU⟩:=Bi h2 hl hS hY2;obtain⟨Y,eY⟩:∃Y,Y=y*2^S:=⟨_,rfl⟩
 rw[←eY]at hY1 hY2 hu;have E1:IntKind.u64.wrap ((y:Int)*2^S)=(Y:Int):=by rw[fL,←eY,kJ _ hY2]
 obtain⟨y1,y0,E2,E3,b1,b0,eYh⟩:=BS hY2;obtain⟨u1,u0,E6,E7,c1,c0,eLh⟩:=BS hL;have ks:KS y1 y0 u u1:=⟨b1,by omega,b0,by omega,c1⟩;obtain⟨q,r,p,Q1,m1,F1,F2,F3,F4,F5,F6,K1,F7,F8,F9,F10,F11⟩:=GN ks hY2 eYh;have ks':KS y1 y0 m1 u0:=⟨b1,by omega,b0,by omega,c0⟩;obtain⟨q',r',p',Q0,R,G1,G2,G3,G4,G5,G6,K2,G7,G8,G9,G10,G11⟩:=GN ks' hY2 eYh;obtain⟨j1,j2⟩:=Kb eY rfl eU eLh F11.out G11.out G9;have b2:0<y1:=by have:=ks.a2; omega
 have b3:0<(y1:Int):=by omega
 have bu:u<18446744073709551616:=by omega
 have bm:m1<18446744073709551616:=by omega
 have J2:(R:Int)/2^S=(((hi*18446744073709551616+lo)%y:Nat):Int):=by rw[←j2,Int.natCast_ediv,Int.natCast_pow]; rfl
 have J1:(Q1:Int)*4294967296+(Q0:Int)=(((hi*18446744073709551616+lo)/y:Nat):Int):=by rw[←j1]; omega
 have HJ2:=Lib.hid J2; have HJ1:=Lib.hid J1;have Hks:=Lib.hid ks; have Hks':=Lib.hid ks';clear eU eYh eLh eY j1 j2 ks ks' J1 J2 hY1 F11 G11 hu;have t1:((y:Int)==0)=false:=by simp; omega
 have t2:((hi:Int)==0)=false:=by simp; omega
 go_enter func130,ntmps130
 go_wp2_with fail;refine (m _).mono ?_
 rintro e w' ⟨rfl,rfl⟩
 go_wp2_with fail;clear t1 t2 E1 E2 E3 E4 E5 E6 E7 F1 F2 F3 h1 h2 m
 go_loop [15,16] (fun a b=>∃q r:Nat,a=.int .u64 q∧b=.int .u64 r∧Hid (KI y1 y0 u u1 q r)) (fun a _=>(intOf a).toNat)
 case atStart=>exact⟨q,r,rfl,rfl,K1⟩
 case round =>
  obtain⟨q2,r2,rfl,rfl,k⟩:=hrel;have d1:q2≤4294967297:=k.out.2.2.1;have d2:r2<4294967296:=k.out.2.2.2;obtain⟨t,v,ht,hv,bv,hc⟩:=Lr Hks.out k.out F10.out
  rcases hc with⟨p2,hp,lp,lv,g2|⟨g2,g3,g5⟩,g4⟩|⟨hp,lp,lv,g2|⟨g2,g3,g5⟩⟩|⟨rfl,g1,g2,g5⟩
  ·go_wp2_with fail
   go_round
   case rel=>exact⟨p2,v,rfl,rfl,g4⟩
   case measure=>simp[intOf]; omega
  ·go_wp2_with fail
   go_round
   case rel=>exact⟨p2,v,rfl,rfl,g4⟩
   case measure=>simp[intOf]; omega
  all_goals (
   go_wp2_with fail;clear ht hv bv d1 d2 k F7 G1 G2 G3
   go_loop [18,16] (fun a b=>∃q r:Nat,a=.int .u64 q∧b=.int .u64 r∧Hid (KI y1 y0 m1 u0 q r)) (fun a _=>(intOf a).toNat)
   case atStart=>exact⟨q',r',rfl,rfl,K2⟩
   case round =>
    obtain⟨q3,r3,rfl,rfl,k⟩:=hrel;have d1:q3≤4294967297:=k.out.2.2.1;have d2:r3<4294967296:=k.out.2.2.2;obtain⟨t,v,ht,hv,bv,hc⟩:=Lr Hks'.out k.out G10.out
    rcases hc with⟨p2,hp,lp,lv,g2|⟨g2,g3,g5⟩,g4⟩|⟨hp,lp,lv,g2|⟨g2,g3,g5⟩⟩|⟨rfl,g1,g2,g5⟩
    ·go_wp2_with fail
     go_round
     case rel=>exact⟨p2,v,rfl,rfl,g4⟩
     case measure=>simp[intOf]; omega
    ·go_wp2_with fail
     go_round
     case rel=>exact⟨p2,v,rfl,rfl,g4⟩
     case measure=>simp[intOf]; omega
    all_goals (
     go_wp2_with fail
     go_ret2
     exact⟨0,by rw[HJ1.out,HJ2.out]; rfl,rfl⟩))
theorem MD (lo y:Nat) (h2:0<y) (hl:lo<18446744073709551616) (hy:y<18446744073709551616) (w:World) :
  Calls prog 130 #[.int .u64 0,.int .u64 lo,.int .u64 y] w (QH lo y w):=by
 obtain⟨q,E1⟩:∃q:Nat,(lo:Int)/(y:Int)=(q:Int):=⟨lo/y,(Int.natCast_ediv lo y).symm⟩
 obtain⟨r,E2⟩:∃r:Nat,(lo:Int)%(y:Int)=(r:Int):=⟨lo%y,(Int.natCast_emod lo y).symm⟩
 have e1:q=lo/y:=by rw[←Int.natCast_ediv]at E1; exact (Int.ofNat.inj E1).symm
 have e2:r=lo%y:=by rw[←Int.natCast_emod]at E2; exact (Int.ofNat.inj E2).symm
 have b1:q<18446744073709551616:=by rw[e1]; exact Nat.lt_of_le_of_lt (Nat.div_le_self _ _) hl
 have b2:r<18446744073709551616:=by rw[e2]; exact Nat.lt_of_lt_of_le (Nat.mod_lt _ h2) (by omega)
 have H1:=Lib.hid e1; have H2:=Lib.hid e2;clear e1 e2;have t1:((y:Int)==0)=false:=by simp; omega
 go_enter func130,ntmps130
 go_wp2_with fail
 go_quiet (fail)
 go_wp2_with fail
 go_ret2
 exact⟨_,by rw[←H1.out,←H2.out,←E2]; rfl,rfl⟩
theorem Au {hi lo y:Nat} (h:hi<y) (hl:lo<18446744073709551616) (hy:y<18446744073709551616):∃q r:Nat,
  (∀w,Calls prog 130 #[.int .u64 hi,.int .u64 lo,.int .u64 y] w fun e w'=>e=.returned (.tuple #[.int .u64 (q:Nat),.int .u64 (r:Nat)])∧∃n,w'=w.drewN n) ∧
  q<18446744073709551616∧r<y∧Hid (q*y+r=hi*18446744073709551616+lo):=by
 refine⟨(hi*18446744073709551616+lo)/y,(hi*18446744073709551616+lo)%y,fun w => ?_,?_,Nat.mod_lt _ (by omega),Lib.hid (by rw[Nat.mul_comm]; exact Nat.div_add_mod _ _)⟩
 ·rcases Nat.eq_zero_or_pos hi with rfl|h1
  ·have:=MD lo y h hl hy w;rw[Nat.zero_mul,Nat.zero_add];exact this.mono fun e w' ⟨n,he,hw⟩=>⟨he,n,hw⟩
  ·exact (SW hi lo y h1 h hl hy w).mono fun e w' ⟨n,he,hw⟩=>⟨he,n,hw⟩
 ·rw[Nat.div_lt_iff_lt_mul (by omega)];have:=Nat.mul_le_mul_right 18446744073709551616 (show hi+1≤y by omega);rw[Nat.mul_comm 18446744073709551616 y];omega
def RowIs (w:World) (b n:Nat) (P:Nat→Nat):Prop:=∀k,k<n→w.cell? ⟨b,k,none⟩=some (.int .u64 (P k:Nat))∧w.frozen? ⟨b,k,none⟩=false
def iG (P:Nat→Nat) (i v:Nat):Nat→Nat:=fun k=>if k=i then v else P k
def dL (l:List Nat):Nat→Nat:=fun k=>l.getD k 0
section
variable {w w':World} {b n i v:Nat} {P:Nat→Nat}
theorem RowIs.cell (h:RowIs w b n P) (hi:i<n):w.cell? ⟨b,i,none⟩=some (.int .u64 (P i:Nat)):=(h i hi).1
theorem RowIs.free (h:RowIs w b n P) (hi:i<n):w.frozen? ⟨b,i,none⟩=false:=(h i hi).2
theorem RowIs.set (h:RowIs w b n P) (hi:i<n):RowIs (w.setCell ⟨b,i,none⟩ (.int .u64 (v:Nat))) b n (iG P i v):=by
 intro k hk;refine⟨?_,by rw[World.frozen?_setCell]; exact h.free hk⟩;unfold iG
 by_cases e:k=i
 ·subst e; rw[if_pos rfl]; exact World.cell?_setCell_same (h:=h.cell hk) ..
 ·rw[if_neg e,World.cell?_setCell_other (h:=fun he=>e (by simpa using (congrArg Addr.off he).symm)) ..]; exact h.cell hk
theorem RowIs.other (h:RowIs w b n P) {c:Nat} (hc:c≠b) (x:Value):RowIs (w.setCell ⟨c,i,none⟩ x) b n P:=by
 intro k hk;exact⟨by rw[World.cell?_setCell_other (h:=fun he=>hc (by simpa using congrArg Addr.block he)) ..]; exact h.cell hk,by rw[World.frozen?_setCell]; exact h.free hk⟩
theorem RowIs.drew (h:RowIs w b n P):RowIs w.drew b n P:=h
theorem RowIs.drewN (h:RowIs w b n P) (m:Nat):RowIs (w.drewN m) b n P:=h
theorem RowIs.below (h:RowIs w b n P) {B:Nat} (hb:Below B w w') (hB:b<B):RowIs w' b n P:=by
 intro k hk;exact⟨by rw[hb.cell (p:=⟨b,k,none⟩) hB]; exact h.cell hk,by rw[hb.frozen (p:=⟨b,k,none⟩) hB]; exact h.free hk⟩
theorem RowIs.alloc (h:RowIs w b n P) (hb:b<w.heap.size) (o:Obj):RowIs (w.alloc o) b n P :=
 h.below ((Below.refl w.heap.size w).alloc (Nat.le_refl _) o) hb
theorem RowIs.mk (w:World) (t:TypeId) (l:List Nat) (b:Nat) (hb:b=w.heap.size):RowIs (w.alloc (.cells (l.map fun x=>Value.int .u64 (x:Nat)).toArray t)) b l.length (dL l):=by
 subst hb;intro k hk;refine⟨?_,World.frozen?_alloc_new _ _ _ _⟩;rw[World.cell?_alloc_new];simp[dL,hk]
end
structure Row4 (w:World) (b:Nat) (c0 c1 c2 c3:Nat):Prop where
 c0:w.cell? ⟨b,0,none⟩=some (.int .u64 c0)
 c1:w.cell? ⟨b,1,none⟩=some (.int .u64 c1)
 c2:w.cell? ⟨b,2,none⟩=some (.int .u64 c2)
 c3:w.cell? ⟨b,3,none⟩=some (.int .u64 c3)
 fr:∀k,w.frozen? ⟨b,k,none⟩=false
theorem Row4.below {w w':World} {b:Nat} {c0 c1 c2 c3:Nat} (h:Row4 w b c0 c1 c2 c3) {B:Nat} (hb:Below B w w') (hB:b<B):Row4 w' b c0 c1 c2 c3 :=
 ⟨by rw[hb.cell (p:=⟨b,0,none⟩) hB]; exact h.c0,by rw[hb.cell (p:=⟨b,1,none⟩) hB]; exact h.c1,by rw[hb.cell (p:=⟨b,2,none⟩) hB]; exact h.c2,by rw[hb.cell (p:=⟨b,3,none⟩) hB]; exact h.c3,
  fun k=>by rw[hb.frozen (p:=⟨b,k,none⟩) hB]; exact h.fr k⟩
theorem Row4.alloc {w:World} {b:Nat} {c0 c1 c2 c3:Nat} (h:Row4 w b c0 c1 c2 c3) (hb:b<w.heap.size) (o:Obj):Row4 (w.alloc o) b c0 c1 c2 c3 :=
 h.below ((Below.refl w.heap.size w).alloc (Nat.le_refl _) o) hb
theorem Row4.drewN {w:World} {b:Nat} {c0 c1 c2 c3:Nat} (h:Row4 w b c0 c1 c2 c3) (n:Nat):Row4 (w.drewN n) b c0 c1 c2 c3:=⟨h.c0,h.c1,h.c2,h.c3,h.fr⟩
theorem Row4.new (w:World) (c0 c1 c2 c3:Nat) (t:TypeId):Row4 (w.alloc (.cells #[.int .u64 c0,.int .u64 c1,.int .u64 c2,.int .u64 c3] t)) w.heap.size c0 c1 c2 c3 :=
 ⟨by rw[World.cell?_alloc_new]; rfl,by rw[World.cell?_alloc_new]; rfl,by rw[World.cell?_alloc_new]; rfl,by rw[World.cell?_alloc_new]; rfl,fun k=>World.frozen?_alloc_new _ _ _ _⟩
theorem Row4.other {w:World} {b d i:Nat} {c0 c1 c2 c3:Nat} (h:Row4 w b c0 c1 c2 c3) (hd:d≠b) (v:Value):Row4 (w.setCell ⟨d,i,none⟩ v) b c0 c1 c2 c3 :=
 ⟨by rw[World.cell?_setCell_other (h:=fun he=>hd (by simpa using congrArg Addr.block he)) ..]; exact h.c0,by rw[World.cell?_setCell_other (h:=fun he=>hd (by simpa using congrArg Addr.block he)) ..]; exact h.c1,
  by rw[World.cell?_setCell_other (h:=fun he=>hd (by simpa using congrArg Addr.block he)) ..]; exact h.c2,by rw[World.cell?_setCell_other (h:=fun he=>hd (by simpa using congrArg Addr.block he)) ..]; exact h.c3,
  fun k=>by rw[World.frozen?_setCell]; exact h.fr k⟩
def set4 (w:World) (b:Nat) (d0 d1 d2 d3:Nat):World:=(((w.setCell ⟨b,0,none⟩ (.int .u64 d0)).setCell ⟨b,1,none⟩ (.int .u64 d1)).setCell ⟨b,2,none⟩ (.int .u64 d2)).setCell ⟨b,3,none⟩ (.int .u64 d3)
theorem Row4.rows {w:World} {b:Nat} {c0 c1 c2 c3:Nat} (h:Row4 w b c0 c1 c2 c3):RowIs w b 4 (dL [c0,c1,c2,c3]):=by
 intro k hk;refine⟨?_,h.fr k⟩
 match k,hk with
 | 0,_=>exact h.c0
 | 1,_=>exact h.c1
 | 2,_=>exact h.c2
 | 3,_=>exact h.c3
theorem Row4.set4 {w:World} {b:Nat} {c0 c1 c2 c3:Nat} (h:Row4 w b c0 c1 c2 c3) (d0 d1 d2 d3:Nat):Row4 (set4 w b d0 d1 d2 d3) b d0 d1 d2 d3:=by
 have r:=(((h.rows.set (show 0<4 by omega) (v:=d0)).set (show 1<4 by omega) (v:=d1)).set (show 2<4 by omega) (v:=d2)).set (show 3<4 by omega) (v:=d3);exact⟨r.cell (by omega),r.cell (show 1<4 by omega),r.cell (show 2<4 by omega),r.cell (show 3<4 by omega),fun k=>by
  show World.frozen? (((_:World).setCell _ _)) _=_;rw[World.frozen?_setCell,World.frozen?_setCell,World.frozen?_setCell,World.frozen?_setCell]; exact h.fr k⟩
theorem Row4.set4_other {w:World} {b d:Nat} {c0 c1 c2 c3:Nat} (h:Row4 w b c0 c1 c2 c3) (hd:d≠b) (e0 e1 e2 e3:Nat):Row4 (Go.Proofs.YtpbljiejmfahcaaGreatDoor.set4 w d e0 e1 e2 e3) b c0 c1 c2 c3 :=
 (((h.other hd _).other hd _).other hd _).other hd _
theorem bF {B:Nat} {w w':World} {b:Nat} (h:Below B w w') (hb:B≤b) (d0 d1 d2 d3:Nat):Below B w (set4 w' b d0 d1 d2 d3) :=
 (((h.setCell (p:=⟨b,0,none⟩) hb _).setCell (p:=⟨b,1,none⟩) hb _).setCell (p:=⟨b,2,none⟩) hb _).setCell (p:=⟨b,3,none⟩) hb _
theorem bI (B:Nat) (w:World) (n:Nat):Below B w (w.drewN n):=⟨rfl,rfl,rfl,Nat.le_refl _,fun _ _=>rfl⟩
def eR (B:Nat) (P:Nat→Nat):Nat→Nat
 | 0=>0
 | n+1=>eR B P n+P n*B^n
theorem cP (B:Nat) (P:Nat→Nat) (n:Nat):eR B P (n+1)=eR B P n+P n*B^n:=rfl
theorem pC (B:Nat) (P:Nat→Nat) (k v:Nat):∀n,n≤k→eR B (iG P k v) n=eR B P n
 | 0,_=>rfl
 | n+1,h=>by
  rw[cP,cP,pC B P k v n (by omega)];unfold iG;rw[if_neg (by omega)]
theorem pZ (B:Nat) (P:Nat→Nat) (k v:Nat):∀n,k<n→eR B (iG P k v) n+P k*B^k=eR B P n+v*B^k
 | n+1,h=>by
  rw[cP,cP]
  by_cases e:k=n
  ·subst e;rw[pC B P k v k (Nat.le_refl _)];unfold iG;rw[if_pos rfl]; omega
  ·have:=pZ B P k v n (by omega);have e':iG P k v n=P n:=by unfold iG; rw[if_neg (by omega)]
   rw[e']; omega
theorem CW (B:Nat) (P:Nat→Nat) (h:∀k,P k=0):∀n,eR B P n=0
 | 0=>rfl
 | n+1=>by rw[cP,CW B P h n,h n,Nat.zero_mul]
theorem zQ (B:Nat) (P:Nat→Nat) (hB:0<B):∀n,(∀k,k<n→P k<B)→eR B P n<B^n
 | 0,_=>by simp[eR]
 | n+1,h=>by
  have h1:=zQ B P hB n (fun k hk=>h k (by omega));have h2:=Nat.mul_le_mul_right (B^n) (show P n+1≤B by have:=h n (by omega); omega);rw[cP,Nat.pow_succ,Nat.mul_comm (B^n) B];rw[Nat.add_mul,Nat.one_mul]at h2;omega
theorem uR {B:Nat} {P:Nat→Nat} {n k x o d o' T:Nat} (hk:k<n) (he:d+B*o'=x+P k+o) (hT:eR B P n+o*B^k=T) :
  eR B (iG P k d) n+o'*B^(k+1)=T+x*B^k:=by
 have h1:=pZ B P k d n hk;have h2:d*B^k+o'*B^(k+1)=x*B^k+P k*B^k+o*B^k:=by
  rw[Nat.pow_succ,←Nat.add_mul,←Nat.add_mul,←he,Nat.add_mul];congr 1;rw[Nat.mul_comm (B^k) B,←Nat.mul_assoc,Nat.mul_comm o' B]
 omega
section
variable {R n:Nat} {A B P:Nat→Nat} {i j o d o':Nat}
def MI (R n:Nat) (A B:Nat→Nat) (i j o:Nat) (P:Nat→Nat):Prop :=
 (∀k,i+n≤k→P k=0)∧eR R P (n+n)+o*R^(i+j)=eR R A i*eR R B n+A i*R^i*eR R B j
def MO (R n:Nat) (A B:Nat→Nat) (i:Nat) (P:Nat→Nat):Prop :=
 (∀k,i+n≤k→P k=0)∧eR R P (n+n)=eR R A i*eR R B n
theorem Hu (hi:i<n) (hj:j<n) (h:MI R n A B i j o P) (he:d+R*o'=A i*B j+P (i+j)+o):MI R n A B i (j+1) o' (iG P (i+j) d):=by
 refine⟨fun k hk=>by unfold iG; rw[if_neg (by omega)]; exact h.1 k hk,?_⟩;have e:A i*B j*R^(i+j)=A i*R^i*(B j*R^j):=by
  rw[Nat.pow_add,Nat.mul_assoc,Nat.mul_assoc,Nat.mul_left_comm (B j)]
 have:=uR (P:=P) (k:=i+j) (by omega) he h.2;rw[show i+(j+1)=i+j+1 by omega,this,cP,e,Nat.mul_add,Nat.add_assoc]
theorem Qx (hi:i<n) (h:MI R n A B i n o P):MO R n A B (i+1) (iG P (i+n) o):=by
 refine⟨fun k hk=>by unfold iG; rw[if_neg (by omega)]; exact h.1 k (by omega),?_⟩;have h1:=pZ R P (i+n) o (n+n) (by omega);rw[h.1 (i+n) (Nat.le_refl _),Nat.zero_mul,Nat.add_zero]at h1;rw[h1,h.2,cP,←Nat.add_mul]
theorem YW (h:MO R n A B i P):MI R n A B i 0 0 P:=⟨h.1,by rw[h.2,Nat.zero_mul]; rfl⟩
theorem YU (h:∀k,P k=0):MO R n A B 0 P:=⟨fun k _=>h k,by rw[CW R P h]; show _=0*_; rw[Nat.zero_mul]⟩
theorem jB (R:Nat) (P:Nat→Nat) (n:Nat):∀m,eR R P (n+m)=eR R P n+R^n*eR R (fun k=>P (n+k)) m
 | 0=>by rw[Nat.add_zero]; show _=_+R^n*0; rw[Nat.mul_zero,Nat.add_zero]
 | m+1=>by
  rw[show n+(m+1)=n+m+1 by omega,cP,jB R P n m,cP,Nat.mul_add,Nat.pow_add,←Nat.mul_assoc (R^n),Nat.add_assoc];rw[Nat.mul_comm (P (n+m)) (R^n*R^m),Nat.mul_right_comm]
end
theorem iF (P:Nat→Nat):aC (P 0) (P 1) (P 2) (P 3)=eR 18446744073709551616 P 4:=by
 unfold aC;simp only[eR];omega
def Lm (A B:Nat) (w:World) (e:Ending) (w':World):Prop :=
 ∃h0 h1 h2 h3 l0 l1 l2 l3:Nat,e=.returned (.tuple #[.agg #[.int .u64 h0,.int .u64 h1,.int .u64 h2,.int .u64 h3],.agg #[.int .u64 l0,.int .u64 l1,.int .u64 l2,.int .u64 l3]])∧cC h0 h1 h2 h3∧cC l0 l1 l2 l3∧aC l0 l1 l2 l3+115792089237316195423570985008687907853269984665640564039457584007913129639936*aC h0 h1 h2 h3=A*B∧Below w.heap.size w w'
structure MW (w wr:World) (A B P:Nat→Nat):Prop where
 below:Below w.heap.size w wr
 size:wr.heap.size=w.heap.size+1+1+1+1+1
 rowA:RowIs wr w.heap.size 4 A
 rowB:RowIs wr (w.heap.size+1) 4 B
 rowH:∃H,RowIs wr (w.heap.size+1+1) 4 H
 rowL:∃L,RowIs wr (w.heap.size+1+1+1) 4 L
 rowP:RowIs wr (w.heap.size+1+1+1+1) 8 P
 lt:∀k,P k<18446744073709551616
theorem MW.set {w wr:World} {A B P:Nat→Nat} (h:MW w wr A B P) {k d:Nat} (hk:k<8) (hd:d<18446744073709551616) :
  MW w (wr.setCell ⟨w.heap.size+1+1+1+1,k,none⟩ (.int .u64 (d:Nat))) A B (iG P k d) :=
 ⟨h.below.setCell (p:=⟨w.heap.size+1+1+1+1,k,none⟩) (by simp; omega) _,by rw[World.size_setCell]; exact h.size,h.rowA.other (by omega) _,h.rowB.other (by omega) _,
  h.rowH.elim fun H x=>⟨H,x.other (by omega) _⟩,h.rowL.elim fun L x=>⟨L,x.other (by omega) _⟩,h.rowP.set hk,
  fun x=>by unfold iG; split; exact hd; exact h.lt x⟩
theorem MW.drewN {w wr:World} {A B P:Nat→Nat} (h:MW w wr A B P) (n:Nat):MW w (wr.drewN n) A B P :=
 ⟨h.below.trans (bI _ _ _),h.size,h.rowA,h.rowB,h.rowH,h.rowL,h.rowP,h.lt⟩
theorem RowIs.mk4 {w:World} {b:Nat} {c0 c1 c2 c3:Nat} (h0:w.cell? ⟨b,0,none⟩=some (.int .u64 c0)) (h1:w.cell? ⟨b,1,none⟩=some (.int .u64 c1)) (h2:w.cell? ⟨b,2,none⟩=some (.int .u64 c2)) (h3:w.cell? ⟨b,3,none⟩=some (.int .u64 c3))
  (hf:∀k,w.frozen? ⟨b,k,none⟩=false):RowIs w b 4 (dL [c0,c1,c2,c3]):=by
 intro k hk;refine⟨?_,hf k⟩
 match k,hk with
 | 0,_=>exact h0
 | 1,_=>exact h1
 | 2,_=>exact h2
 | 3,_=>exact h3
theorem RowIs.mk8z {w:World} {b:Nat} (h:∀k,k<8→w.cell? ⟨b,k,none⟩=some (.int .u64 0)) (hf:∀k,w.frozen? ⟨b,k,none⟩=false):RowIs w b 8 (fun _=>0) :=
 fun k hk=>⟨h k hk,hf k⟩
theorem GI {a0 a1 a2 a3:Nat} (ha:cC a0 a1 a2 a3) (k:Nat):dL [a0,a1,a2,a3] k<18446744073709551616:=by
 obtain⟨h0,h1,h2,h3⟩:=ha;unfold dL
 match k with
 | 0=>exact h0
 | 1=>exact h1
 | 2=>exact h2
 | 3=>exact h3
 | k+4=>simp
theorem DM (g o c:Nat) (w:World):(Instr.arrayAt 24 (.slice (some ⟨g,o,none⟩) 4 c)).run prog w=.ok (.pointer (some ⟨g,o,none⟩)) w:=by
 unfold Instr.arrayAt;simp[run_underlying underlying24,Sem.run_bind,Result.andThen_ok]
theorem Eg (r0 r1 r2 r3 x:Nat):aC r0 r1 r2 r3*18446744073709551616+x=r3*115792089237316195423570985008687907853269984665640564039457584007913129639936+aC x r0 r1 r2:=by unfold aC; omega
theorem zN (b0 b1 b2 b3:Nat) (h:cC b0 b1 b2 b3):∃t,aC b0 b1 b2 b3=b3*6277101735386680763835789423207666416102355444464034512896+t∧t<6277101735386680763835789423207666416102355444464034512896:=by
 obtain⟨h0,h1,h2,_⟩:=h;exact⟨b0+18446744073709551616*(b1+18446744073709551616*b2),by unfold aC; omega,by omega⟩
theorem Zh {x r0 r1 r2:Nat} (hx:x<18446744073709551616) (h0:r0<18446744073709551616) (h1:r1<18446744073709551616):∃t,aC x r0 r1 r2=r2*6277101735386680763835789423207666416102355444464034512896+t∧t<6277101735386680763835789423207666416102355444464034512896 :=
 ⟨x+18446744073709551616*(r0+18446744073709551616*r1),by unfold aC; omega,by omega⟩
theorem Af {N b b3 t r g m:Nat} (hb:b=b3*6277101735386680763835789423207666416102355444464034512896+t) (ht:t<6277101735386680763835789423207666416102355444464034512896) (h3:9223372036854775808≤b3) (hN:N=r*6277101735386680763835789423207666416102355444464034512896+m) (hm:m<6277101735386680763835789423207666416102355444464034512896)
  (hg:g<18446744073709551616) (h1:g*b3≤r) (h2:r<g*b3+b3):N/b≤g∧g≤N/b+2:=by
 have hp:0<b:=by omega
 constructor
 ·rw[←Nat.lt_succ_iff,Nat.div_lt_iff_lt_mul hp,Nat.succ_mul,hb,Nat.mul_add,←Nat.mul_assoc];omega
 ·have e:=Nat.div_add_mod N b;have hl:=Nat.mod_lt N hp;have h4:=mX (show g≤18446744073709551615 by omega) (show t≤6277101735386680763835789423207666416102355444464034512895 by omega);have h5:g*b<N+2*b:=by
   rw[hb,Nat.mul_add,←Nat.mul_assoc]; omega
  rcases Nat.lt_or_ge g (N/b+3)with h|h
  ·omega
  ·have h6:=Nat.mul_le_mul_right b h;rw[Nat.add_mul,Nat.mul_comm (N/b) b]at h6;omega
theorem Ag {N b b3 t r2 m x R:Nat} (hb:b=b3*6277101735386680763835789423207666416102355444464034512896+t) (ht:t<6277101735386680763835789423207666416102355444464034512896) (h3:9223372036854775808≤b3) (hN:N=b3*115792089237316195423570985008687907853269984665640564039457584007913129639936+(r2*6277101735386680763835789423207666416102355444464034512896+m)) (hR:N=R*18446744073709551616+x) (hx:x<18446744073709551616) (hl:R<b) :
  N/b≤18446744073709551615∧18446744073709551615≤N/b+2:=by
 have hp:0<b:=by omega
 constructor
 ·rw[←Nat.lt_succ_iff,Nat.div_lt_iff_lt_mul hp]; omega
 ·have e:=Nat.div_add_mod N b;have hl':=Nat.mod_lt N hp
  rcases Nat.lt_or_ge 18446744073709551615 (N/b+3)with h|h
  ·omega
  ·have h6:=Nat.mul_le_mul_right b h;rw[Nat.add_mul,Nat.mul_comm (N/b) b]at h6;omega
def TI (b R k top s:Nat):Prop:=k≤2∧(k=0→top=0∧s=R)∧(k=1→top*115792089237316195423570985008687907853269984665640564039457584007913129639936+s+b=18446744073709551616*115792089237316195423570985008687907853269984665640564039457584007913129639936+R∧0<top)∧(k=2→top*115792089237316195423570985008687907853269984665640564039457584007913129639936+s+b+b=18446744073709551616*115792089237316195423570985008687907853269984665640564039457584007913129639936+R∧0<top)
theorem CX {N b g r3 xr p o s c:Nat} (hb:b<115792089237316195423570985008687907853269984665640564039457584007913129639936) (hp:0<b) (hN:N=r3*115792089237316195423570985008687907853269984665640564039457584007913129639936+xr) (hxr:xr<115792089237316195423570985008687907853269984665640564039457584007913129639936) (h1:N/b≤g) (h2:g≤N/b+2) (hr:r3<18446744073709551616) (ho:o<18446744073709551616)
  (e1:p+115792089237316195423570985008687907853269984665640564039457584007913129639936*o=b*g) (hpp:p<115792089237316195423570985008687907853269984665640564039457584007913129639936) (e2:s+p=xr+115792089237316195423570985008687907853269984665640564039457584007913129639936*c) (hs:s<115792089237316195423570985008687907853269984665640564039457584007913129639936) :
  ∃top:Nat,IntKind.u64.wrap (IntKind.u64.wrap ((r3:Int)-(o:Int))-(c:Int))=(top:Int)∧top<18446744073709551616∧TI b (N%b) (g-N/b) top s:=by
 have e:=Nat.div_add_mod N b;have hl:=Nat.mod_lt N hp;obtain⟨k,hk⟩:∃k,g=N/b+k:=⟨g-N/b,by omega⟩
 subst hk;rw[Nat.mul_add]at e1;generalize b*(N/b)=P at *;generalize N%b=R at *;generalize N/b=q at *;have hk:k=0∨k=1∨k=2:=by omega
 rw[show q+k-q=k by omega];simp only[IntKind.wrap_u64];unfold TI
 rcases hk with rfl|rfl|rfl
 ·refine⟨0,by omega,by omega,by omega,fun _=>⟨rfl,by omega⟩,by omega,by omega⟩
 ·refine⟨(r3+18446744073709551616+18446744073709551616-o-c)%18446744073709551616,by omega,by omega,by omega,by omega,fun _=>by omega,by omega⟩
 ·refine⟨(r3+18446744073709551616+18446744073709551616-o-c)%18446744073709551616,by omega,by omega,by omega,by omega,by omega,fun _=>by omega⟩
theorem VN {b R k top s:Nat} (h:TI b R k top s) (hk:0<k):0<top:=by
 obtain⟨h0,_,h2,h3⟩:=h;have:k=1∨k=2:=by omega
 rcases this with rfl|rfl
 ·exact (h2 rfl).2
 ·exact (h3 rfl).2
theorem CY {b R k top s s' c:Nat} (hb:b<115792089237316195423570985008687907853269984665640564039457584007913129639936) (hR:R<b) (h:TI b R (k+1) top s) (ht:top<18446744073709551616) (hs:s<115792089237316195423570985008687907853269984665640564039457584007913129639936) (hs':s'<115792089237316195423570985008687907853269984665640564039457584007913129639936) (hc:c≤1) (e:s'+115792089237316195423570985008687907853269984665640564039457584007913129639936*c=s+b) :
  ∃top':Nat,IntKind.u64.wrap ((top:Int)+(c:Int))=(top':Int)∧top'<18446744073709551616∧TI b R k top' s':=by
 obtain⟨h0,_,h2,h3⟩:=h;have hk:k=0∨k=1:=by omega
 simp only[IntKind.wrap_u64];unfold TI
 rcases hk with rfl|rfl
 ·have h2:=h2 rfl;exact⟨0,by omega,by omega,by omega,fun _=>⟨rfl,by omega⟩,by omega,by omega⟩
 ·obtain⟨h3,h4⟩:=h3 rfl;have hv:top+c<18446744073709551616:=by omega
  refine⟨top+c,by omega,hv,by omega,(fun h=>absurd h (by omega)),(fun _=>⟨?_,by omega⟩),(fun h=>absurd h (by omega))⟩;rw[Nat.add_mul];omega
def cJ (P:Nat→Prop) (w:World) (e:Ending) (w':World):Prop :=
 ∃s0 s1 s2 s3:Nat,e=.returned (.agg #[.int .u64 s0,.int .u64 s1,.int .u64 s2,.int .u64 s3])∧cC s0 s1 s2 s3∧P (aC s0 s1 s2 s3)∧Below w.heap.size w w'
structure TW (w wr:World) (lb:Nat) (b0 b1 b2 b3 s0 s1 s2 s3:Nat):Prop where
 below:Below w.heap.size w wr
 size:lb<wr.heap.size
 lo:w.heap.size+1+1<lb
 rowB:Row4 wr (w.heap.size+1) b0 b1 b2 b3
 rowO:Row4 wr (w.heap.size+1+1) 0 0 0 0
 rowS:Row4 wr lb s0 s1 s2 s3
theorem MZ (w:World) (o1 o2 o3:Obj):Below w.heap.size w (((w.alloc o1).alloc o2).alloc o3) :=
 (((Below.refl _ _).alloc (Nat.le_refl _) o1).alloc (by simp) o2).alloc (by simp; omega) o3
set_option maxHeartbeats 1000000 in
theorem CZ (r0 r1 r2 r3 x b0 b1 b2 b3:Nat) (hr:cC r0 r1 r2 r3) (hx:x<18446744073709551616) (hb:cC b0 b1 b2 b3) (h3:9223372036854775808≤b3) (hlt:aC r0 r1 r2 r3<aC b0 b1 b2 b3) (hg:r3<b3) (w:World) :
  Calls prog 116 #[.agg #[.int .u64 r0,.int .u64 r1,.int .u64 r2,.int .u64 r3],.int .u64 x,.agg #[.int .u64 b0,.int .u64 b1,.int .u64 b2,.int .u64 b3]] w (cJ (fun n=>n=(aC r0 r1 r2 r3*18446744073709551616+x)%aC b0 b1 b2 b3) w):=by
 obtain⟨g,ρ,dg,bg,bρ,eg⟩:=Au hg hr.2.2.1 hb.2.2.2;have cg:g<18446744073709551616:=bg;have HF:=Lib.hid (show (aC r0 r1 r2 r3*18446744073709551616+x)/aC b0 b1 b2 b3≤g∧g≤(aC r0 r1 r2 r3*18446744073709551616+x)/aC b0 b1 b2 b3+2 by
  obtain⟨t,e1,ht⟩:=zN b0 b1 b2 b3 hb;obtain⟨m,e2,hm⟩:=Zh (r2:=r2) hx hr.1 hr.2.1;have eg:=eg.out;exact Af e1 ht h3 (r:=r3*18446744073709551616+r2) (m:=m) (by rw[Eg,e2]; omega) hm bg (by omega) (by omega))
 clear eg bρ
 go_enter func116,ntmps116
 go_wp2_with fail;refine (dg _).mono ?_
 rintro e w' ⟨rfl,n,rfl⟩
 go_wp2_with fail;refine (CV b0 b1 b2 b3 g hb cg _).mono ?_
 rintro e w1 ⟨p0,p1,p2,p3,o,rfl,hp,ho,ep,hbl⟩
 have R1:=(((Row4.new w r0 r1 r2 r3 24).alloc (by simp) _).alloc (by simp; omega) _).drewN n |>.below hbl (by simp; omega)
 have B1:=(((Row4.new (w.alloc _) b0 b1 b2 b3 24).alloc (by simp) _).drewN n).below hbl (by simp);have O1:=((Row4.new ((w.alloc _).alloc _) 0 0 0 0 24).drewN n).below hbl (by simp);simp only[World.size_alloc]at B1 O1;have hz1:w.heap.size+1+1<w1.heap.size:=by have:=hbl.size; simp at this; omega
 have hy1:w.heap.size+1<w1.heap.size:=by omega
 have hx1:w.heap.size<w1.heap.size:=by omega
 have Hbl:=Lib.hid hbl; have Hep:=Lib.hid ep;clear hbl ep;have R1':=R1;obtain⟨x0,x1,x2,x3,xf⟩:=R1;go_wp2_with fail;refine (nW x r0 r1 r2 p0 p1 p2 p3 ⟨hx,hr.1,hr.2.1,hr.2.2.1⟩ hp _).mono ?_
 rintro e w2 ⟨s0,s1,s2,s3,c,rfl,hs,hc,es,hbl⟩
 have R2:=(R1'.alloc hx1 _).below hbl (by rw[World.size_alloc]; omega);have B2:=(B1.alloc hy1 _).below hbl (by rw[World.size_alloc]; omega);have O2:=(O1.alloc hz1 _).below hbl (by rw[World.size_alloc]; omega);have hz2:w1.heap.size<w2.heap.size:=by have:=hbl.size; simp at this; omega
 have hw2:w.heap.size+1+1<w2.heap.size:=by omega
 have hy2:w.heap.size+1<w2.heap.size:=by omega
 have hx2:w.heap.size<w2.heap.size:=by omega
 have Hbl2:=Lib.hid hbl; have Hes:=Lib.hid es;clear hbl es x0 x1 x2 x3 xf;obtain⟨x0,x1,x2,x3,xf⟩:=R2;have vb:=bN hb;obtain⟨top,etop,btop,ti⟩:=CX (N:=aC r0 r1 r2 r3*18446744073709551616+x) (r3:=r3) vb (by omega) (Eg r0 r1 r2 r3 x) (bN ⟨hx,hr.1,hr.2.1,hr.2.2.1⟩) HF.out.1 HF.out.2 hr.2.2.2 ho Hep.out (bN hp) Hes.out (bN hs);have Hti:=Lib.hid ti;have HB2:Below w.heap.size w (w2.alloc (.cells #[.int .u64 s0,.int .u64 s1,.int .u64 s2,.int .u64 s3] 24)) :=
  (((MZ w _ _ _).trans (bI _ _ n)).trans (Hbl.out.mono (by simp; omega)) |>.alloc (by omega) _ |>.trans (Hbl2.out.mono (by rw[World.size_alloc]; omega))).alloc (by omega) _
 have HH:=Lib.hid HB2;clear ti vb HB2 Hbl Hbl2 Hep Hes HF;go_wp2_with fail;clear etop x0 x1 x2 x3 xf
 go_loopg [12] (g-(aC r0 r1 r2 r3*18446744073709551616+x)/aC b0 b1 b2 b3) (fun k t wr=>∃top s0 s1 s2 s3,t=.int .u64 (top:Nat)∧top<18446744073709551616∧cC s0 s1 s2 s3∧Hid (TI (aC b0 b1 b2 b3) ((aC r0 r1 r2 r3*18446744073709551616+x)%aC b0 b1 b2 b3) k top (aC s0 s1 s2 s3))∧TW w wr w2.heap.size b0 b1 b2 b3 s0 s1 s2 s3)
 case atStart=>exact⟨top,s0,s1,s2,s3,rfl,btop,hs,Hti,⟨HH.out,by simp,by omega,B2.alloc hy2 _,O2.alloc hw2 _,Row4.new _ _ _ _ _ _⟩⟩
 case round =>
  obtain⟨top,s0,s1,s2,s3,rfl,btop,hs,ti,tw⟩:=hrel;obtain⟨y0,y1,y2,y3,yf⟩:=tw.rowB;obtain⟨z0,z1,z2,z3,zf⟩:=tw.rowS;obtain⟨o0,o1,o2,o3,of⟩:=tw.rowO;have hsz:=tw.size;have hlo:=tw.lo
  rcases Nat.eq_zero_or_pos gk with rfl|hk
  ·have ht:=ti.out.2.1 rfl;have t0:((top:Int) != 0)=false:=by simp[ht.1]
   have HR:=Lib.hid ht.2;have HB:=Lib.hid tw.below;have HW:=Lib.hid tw;clear ti ht tw;go_wp2_with fail;refine bodyPost_ret (v:=.agg #[.int .u64 s0,.int .u64 s1,.int .u64 s2,.int .u64 s3]) (by simp[results,results116,go_sem, *]) rfl ?_;exact⟨s0,s1,s2,s3,rfl,hs,HR.out,bF HB.out (by omega) _ _ _ _⟩
  ·obtain⟨k,rfl⟩:∃k,gk=k+1:=⟨gk-1,by omega⟩
   have hp:=VN ti.out hk;have t0:((top:Int) != 0)=true:=by simp; omega
   have HW:=Lib.hid tw;clear tw;go_wp2_with fail;refine (zG s0 s1 s2 s3 b0 b1 b2 b3 hs hb _).mono ?_
   rintro e w3 ⟨n0,n1,n2,n3,c,rfl,hn,hc,en,hbl⟩
   have hz3:wr.heap.size≤w3.heap.size:=hbl.size;obtain⟨top',et,bt,ti'⟩:=CY (bN hb) (Nat.mod_lt _ (by have:=bN hb; omega)) ti.out btop (bN hs) (bN hn) hc en;have S3:=HW.out.rowS.below hbl hsz;have T3:TW w (set4 w3 w2.heap.size n0 n1 n2 n3) w2.heap.size b0 b1 b2 b3 n0 n1 n2 n3 :=
    ⟨bF (HW.out.below.trans (hbl.mono HW.out.below.size)) (by omega) _ _ _ _,by unfold set4; simp only[World.size_setCell]; omega,hlo,
     (HW.out.rowB.below hbl (by omega)).set4_other (by omega) _ _ _ _,(HW.out.rowO.below hbl (by omega)).set4_other (by omega) _ _ _ _,S3.set4 _ _ _ _⟩
   have HT:=Lib.hid T3;have Hti:=Lib.hid ti';obtain⟨v0,v1,v2,v3,vf⟩:=S3;clear hbl en T3 ti' ti;go_wp2_with fail
   go_roundg k
   case rel=>exact⟨top',n0,n1,n2,n3,rfl,bt,hn,Hti,HT.out⟩
   case measure=>omega
set_option maxHeartbeats 1000000 in
theorem DA (r0 r1 r2 r3 x b0 b1 b2 b3:Nat) (hr:cC r0 r1 r2 r3) (hx:x<18446744073709551616) (hb:cC b0 b1 b2 b3) (h3:9223372036854775808≤b3) (hlt:aC r0 r1 r2 r3<aC b0 b1 b2 b3) (hg:¬r3<b3) (w:World) :
  Calls prog 116 #[.agg #[.int .u64 r0,.int .u64 r1,.int .u64 r2,.int .u64 r3],.int .u64 x,.agg #[.int .u64 b0,.int .u64 b1,.int .u64 b2,.int .u64 b3]] w (cJ (fun n=>n=(aC r0 r1 r2 r3*18446744073709551616+x)%aC b0 b1 b2 b3) w):=by
 have HF:=Lib.hid (show (aC r0 r1 r2 r3*18446744073709551616+x)/aC b0 b1 b2 b3≤18446744073709551615∧18446744073709551615≤(aC r0 r1 r2 r3*18446744073709551616+x)/aC b0 b1 b2 b3+2 by
  obtain⟨t,e1,ht⟩:=zN b0 b1 b2 b3 hb;obtain⟨t',e1',ht'⟩:=zN r0 r1 r2 r3 hr;obtain⟨m,e2,hm⟩:=Zh (r2:=r2) hx hr.1 hr.2.1;exact Ag e1 ht h3 (r2:=r2) (m:=m) (by rw[Eg,e2]; omega) rfl hx hlt)
 go_enter func116,ntmps116
 go_wp2_with fail;refine (CV b0 b1 b2 b3 18446744073709551615 hb (by omega) _).mono ?_
 rintro e w1 ⟨p0,p1,p2,p3,o,rfl,hp,ho,ep,hbl⟩
 have R1:=(((Row4.new w r0 r1 r2 r3 24).alloc (by simp) _).alloc (by simp; omega) _) |>.below hbl (by simp; omega)
 have B1:=(((Row4.new (w.alloc _) b0 b1 b2 b3 24).alloc (by simp) _)).below hbl (by simp);have O1:=((Row4.new ((w.alloc _).alloc _) 0 0 0 0 24)).below hbl (by simp);simp only[World.size_alloc]at B1 O1;have hz1:w.heap.size+1+1<w1.heap.size:=by have:=hbl.size; simp at this; omega
 have hy1:w.heap.size+1<w1.heap.size:=by omega
 have hx1:w.heap.size<w1.heap.size:=by omega
 have Hbl:=Lib.hid hbl; have Hep:=Lib.hid ep;clear hbl ep;have R1':=R1;obtain⟨x0,x1,x2,x3,xf⟩:=R1;go_wp2_with fail;refine (nW x r0 r1 r2 p0 p1 p2 p3 ⟨hx,hr.1,hr.2.1,hr.2.2.1⟩ hp _).mono ?_
 rintro e w2 ⟨s0,s1,s2,s3,c,rfl,hs,hc,es,hbl⟩
 have R2:=(R1'.alloc hx1 _).below hbl (by rw[World.size_alloc]; omega);have B2:=(B1.alloc hy1 _).below hbl (by rw[World.size_alloc]; omega);have O2:=(O1.alloc hz1 _).below hbl (by rw[World.size_alloc]; omega);have hz2:w1.heap.size<w2.heap.size:=by have:=hbl.size; simp at this; omega
 have hw2:w.heap.size+1+1<w2.heap.size:=by omega
 have hy2:w.heap.size+1<w2.heap.size:=by omega
 have hx2:w.heap.size<w2.heap.size:=by omega
 have Hbl2:=Lib.hid hbl; have Hes:=Lib.hid es;clear hbl es x0 x1 x2 x3 xf;obtain⟨x0,x1,x2,x3,xf⟩:=R2;have vb:=bN hb;obtain⟨top,etop,btop,ti⟩:=CX (N:=aC r0 r1 r2 r3*18446744073709551616+x) (r3:=r3) vb (by omega) (Eg r0 r1 r2 r3 x) (bN ⟨hx,hr.1,hr.2.1,hr.2.2.1⟩) HF.out.1 HF.out.2 hr.2.2.2 ho Hep.out (bN hp) Hes.out (bN hs);have Hti:=Lib.hid ti;have HB2:Below w.heap.size w (w2.alloc (.cells #[.int .u64 s0,.int .u64 s1,.int .u64 s2,.int .u64 s3] 24)) :=
  ((MZ w _ _ _).trans (Hbl.out.mono (by simp; omega)) |>.alloc (by omega) _ |>.trans (Hbl2.out.mono (by rw[World.size_alloc]; omega))).alloc (by omega) _
 have HH:=Lib.hid HB2;clear ti vb HB2 Hbl Hbl2 Hep Hes HF;go_wp2_with fail;clear etop x0 x1 x2 x3 xf
 go_loopg [12] (18446744073709551615-(aC r0 r1 r2 r3*18446744073709551616+x)/aC b0 b1 b2 b3) (fun k t wr=>∃top s0 s1 s2 s3,t=.int .u64 (top:Nat)∧top<18446744073709551616∧cC s0 s1 s2 s3∧Hid (TI (aC b0 b1 b2 b3) ((aC r0 r1 r2 r3*18446744073709551616+x)%aC b0 b1 b2 b3) k top (aC s0 s1 s2 s3))∧TW w wr w2.heap.size b0 b1 b2 b3 s0 s1 s2 s3)
 case atStart=>exact⟨top,s0,s1,s2,s3,rfl,btop,hs,Hti,⟨HH.out,by simp,by omega,B2.alloc hy2 _,O2.alloc hw2 _,Row4.new _ _ _ _ _ _⟩⟩
 case round =>
  obtain⟨top,s0,s1,s2,s3,rfl,btop,hs,ti,tw⟩:=hrel;obtain⟨y0,y1,y2,y3,yf⟩:=tw.rowB;obtain⟨z0,z1,z2,z3,zf⟩:=tw.rowS;obtain⟨o0,o1,o2,o3,of⟩:=tw.rowO;have hsz:=tw.size;have hlo:=tw.lo
  rcases Nat.eq_zero_or_pos gk with rfl|hk
  ·have ht:=ti.out.2.1 rfl;have t0:((top:Int) != 0)=false:=by simp[ht.1]
   have HR:=Lib.hid ht.2;have HB:=Lib.hid tw.below;have HW:=Lib.hid tw;clear ti ht tw;go_wp2_with fail;refine bodyPost_ret (v:=.agg #[.int .u64 s0,.int .u64 s1,.int .u64 s2,.int .u64 s3]) (by simp[results,results116,go_sem, *]) rfl ?_;exact⟨s0,s1,s2,s3,rfl,hs,HR.out,bF HB.out (by omega) _ _ _ _⟩
  ·obtain⟨k,rfl⟩:∃k,gk=k+1:=⟨gk-1,by omega⟩
   have hp:=VN ti.out hk;have t0:((top:Int) != 0)=true:=by simp; omega
   have HW:=Lib.hid tw;clear tw;go_wp2_with fail;refine (zG s0 s1 s2 s3 b0 b1 b2 b3 hs hb _).mono ?_
   rintro e w3 ⟨n0,n1,n2,n3,c,rfl,hn,hc,en,hbl⟩
   have hz3:wr.heap.size≤w3.heap.size:=hbl.size;obtain⟨top',et,bt,ti'⟩:=CY (bN hb) (Nat.mod_lt _ (by have:=bN hb; omega)) ti.out btop (bN hs) (bN hn) hc en;have S3:=HW.out.rowS.below hbl hsz;have T3:TW w (set4 w3 w2.heap.size n0 n1 n2 n3) w2.heap.size b0 b1 b2 b3 n0 n1 n2 n3 :=
    ⟨bF (HW.out.below.trans (hbl.mono HW.out.below.size)) (by omega) _ _ _ _,by unfold set4; simp only[World.size_setCell]; omega,hlo,
     (HW.out.rowB.below hbl (by omega)).set4_other (by omega) _ _ _ _,(HW.out.rowO.below hbl (by omega)).set4_other (by omega) _ _ _ _,S3.set4 _ _ _ _⟩
   have HT:=Lib.hid T3;have Hti:=Lib.hid ti';obtain⟨v0,v1,v2,v3,vf⟩:=S3;clear hbl en T3 ti' ti;go_wp2_with fail
   go_roundg k
   case rel=>exact⟨top',n0,n1,n2,n3,rfl,bt,hn,Hti,HT.out⟩
   case measure=>omega
theorem uQ (r0 r1 r2 r3 x b0 b1 b2 b3:Nat) (hr:cC r0 r1 r2 r3) (hx:x<18446744073709551616) (hb:cC b0 b1 b2 b3) (h3:9223372036854775808≤b3) (hlt:aC r0 r1 r2 r3<aC b0 b1 b2 b3) (w:World) :
  Calls prog 116 #[.agg #[.int .u64 r0,.int .u64 r1,.int .u64 r2,.int .u64 r3],.int .u64 x,.agg #[.int .u64 b0,.int .u64 b1,.int .u64 b2,.int .u64 b3]] w (cJ (fun n=>n=(aC r0 r1 r2 r3*18446744073709551616+x)%aC b0 b1 b2 b3) w):=by
 by_cases hg:r3<b3
 ·exact CZ r0 r1 r2 r3 x b0 b1 b2 b3 hr hx hb h3 hlt hg w
 ·exact DA r0 r1 r2 r3 x b0 b1 b2 b3 hr hx hb h3 hlt hg w
def Mem (w wr:World) (rs:List (Nat×Nat×Nat×Nat×Nat)):Prop :=
 Below w.heap.size w wr∧∀r,r∈rs→r.1<wr.heap.size∧Row4 wr r.1 r.2.1 r.2.2.1 r.2.2.2.1 r.2.2.2.2
theorem Mem.nil (w:World):Mem w w []:=⟨Below.refl _ _,fun _ h=>by cases h⟩
theorem Mem.on {w wr w':World} {rs:List (Nat×Nat×Nat×Nat×Nat)} (h:Mem w wr rs) (hb:Below wr.heap.size wr w'):Mem w w' rs :=
 ⟨h.1.trans (hb.mono h.1.size),fun r hr=>⟨Nat.lt_of_lt_of_le (h.2 r hr).1 hb.size,(h.2 r hr).2.below hb (h.2 r hr).1⟩⟩
theorem Mem.drewN {w wr:World} {rs:List (Nat×Nat×Nat×Nat×Nat)} (h:Mem w wr rs) (n:Nat):Mem w (wr.drewN n) rs:=h.on (bI _ _ n)
theorem Mem.new {w wr:World} {rs:List (Nat×Nat×Nat×Nat×Nat)} (h:Mem w wr rs) (b c0 c1 c2 c3:Nat) (t:TypeId) (hb:b=wr.heap.size) :
  Mem w (wr.alloc (.cells #[.int .u64 c0,.int .u64 c1,.int .u64 c2,.int .u64 c3] t)) ((b,c0,c1,c2,c3)::rs):=by
 subst hb;have hB:Below wr.heap.size wr (wr.alloc (.cells #[.int .u64 c0,.int .u64 c1,.int .u64 c2,.int .u64 c3] t)):=(Below.refl _ _).alloc (Nat.le_refl _) _;refine⟨(h.on hB).1,fun r hr => ?_⟩
 rcases List.mem_cons.1 hr with e|hr
 ·rw[e];exact⟨by simp,Row4.new wr c0 c1 c2 c3 t⟩
 ·exact (h.on hB).2 r hr
theorem Mem.sub {w wr:World} {rs rs':List (Nat×Nat×Nat×Nat×Nat)} (h:Mem w wr rs) (hs:∀r,r∈rs'→r∈rs):Mem w wr rs':=⟨h.1,fun r hr=>h.2 r (hs r hr)⟩
theorem Mem.put {w wr:World} {rs:List (Nat×Nat×Nat×Nat×Nat)} {b c0 c1 c2 c3:Nat} (h:Mem w wr ((b,c0,c1,c2,c3)::rs)) (d0 d1 d2 d3:Nat) (hw:w.heap.size≤b) (hne:∀r,r∈rs→r.1≠b) :
  Mem w (set4 wr b d0 d1 d2 d3) ((b,d0,d1,d2,d3)::rs):=by
 refine⟨bF h.1 hw _ _ _ _,fun r hr => ?_⟩;have hs:(set4 wr b d0 d1 d2 d3).heap.size=wr.heap.size:=by unfold set4; simp only[World.size_setCell]
 rcases List.mem_cons.1 hr with e|hr
 ·rw[e];exact⟨by rw[hs]; exact (h.2 _ List.mem_cons_self).1,(h.2 _ List.mem_cons_self).2.set4 _ _ _ _⟩
 ·exact⟨by rw[hs]; exact (h.2 r (List.mem_cons_of_mem _ hr)).1,(h.2 r (List.mem_cons_of_mem _ hr)).2.set4_other (fun e=>hne r hr e.symm) _ _ _ _⟩
theorem yX {x c:Nat} (hx:x<18446744073709551616) (hc:c≤1):∃d b:Nat,(∀w,(callFunc 57 #[.int .u64 (x:Int),.int .u64 0,.int .u64 (c:Int)]).run prog w =
   .ok (.value (.tuple #[.int .u64 (d:Int),.int .u64 (b:Int)])) w)∧d<18446744073709551616∧b≤1∧Hid (d+18446744073709551616*b=x+c) :=
 ⟨_,_,sC x 0 c hc,CF _ _ _,CH hx (by omega) hc,Lib.hid (by have:=Cu x 0 c; omega)⟩
set_option maxHeartbeats 1000000 in
theorem tL {a b c d:Nat} (ha:a<18446744073709551616) (hb:b<18446744073709551616) (hc:c<18446744073709551616) (hd:d<18446744073709551616):∃h l:Nat,
  (∀w,Calls prog 135 #[.int .u64 a,.int .u64 b,.int .u64 c,.int .u64 d] w fun e w'=>e=.returned (.tuple #[.int .u64 (h:Nat),.int .u64 (l:Nat)])∧w'=w) ∧
  h<18446744073709551616∧l<18446744073709551616∧Hid (l+18446744073709551616*h=a*b+c+d):=by
 obtain⟨h,l,r,hh,hl,e⟩:=wG ha hb;obtain⟨l1,c1,r1,hl1,hc1,e1⟩:=gY hl hc;obtain⟨h1,z1,r2,hh1,hz1,e2⟩:=yX (show h<18446744073709551616 by omega) hc1;obtain⟨l2,c2,r3,hl2,hc2,e3⟩:=gY hl1 hd;obtain⟨h2,z2,r4,hh2,hz2,e4⟩:=yX hh1 hc2;have hab:=mX (show a≤18446744073709551615 by omega) (show b≤18446744073709551615 by omega);refine⟨h2,l2,fun w => ?_,hh2,hl2,Lib.hid (by have:=e.out; have:=e1.out; have:=e2.out; have:=e3.out; have:=e4.out; omega)⟩;clear e e1 e2 e3 e4 hab
 go_enter func135,ntmps135
 go_wp2_with fail;refine (r _).mono ?_
 rintro e w' ⟨rfl,rfl⟩
 go_wp2_with fail
 go_ret2
 exact⟨rfl,rfl⟩
structure KIs (w:World) (b:Nat) (F:FC):Prop where
 k0:w.cell? ⟨b,0,none⟩=some (.int .u64 F.m0)
 k1:w.cell? ⟨b,1,none⟩=some (.int .u64 F.m1)
 k2:w.cell? ⟨b,2,none⟩=some (.int .u64 F.m2)
 k3:w.cell? ⟨b,3,none⟩=some (.int .u64 F.m3)
 k4:w.cell? ⟨b,4,none⟩=some (.int .u64 F.inv)
 k5:w.cell? ⟨b,5,none⟩=some (.int .u64 F.s0)
 k6:w.cell? ⟨b,6,none⟩=some (.int .u64 F.s1)
 k7:w.cell? ⟨b,7,none⟩=some (.int .u64 F.s2)
 k8:w.cell? ⟨b,8,none⟩=some (.int .u64 F.s3)
 lt:b<w.heap.size
theorem KIs.below {w w':World} {b:Nat} {F:FC} (h:KIs w b F) {B:Nat} (hb:Below B w w') (hB:b<B):KIs w' b F :=
 ⟨by rw[hb.cell (p:=⟨b,0,none⟩) hB]; exact h.k0,by rw[hb.cell (p:=⟨b,1,none⟩) hB]; exact h.k1,by rw[hb.cell (p:=⟨b,2,none⟩) hB]; exact h.k2,by rw[hb.cell (p:=⟨b,3,none⟩) hB]; exact h.k3,
  by rw[hb.cell (p:=⟨b,4,none⟩) hB]; exact h.k4,by rw[hb.cell (p:=⟨b,5,none⟩) hB]; exact h.k5,by rw[hb.cell (p:=⟨b,6,none⟩) hB]; exact h.k6,by rw[hb.cell (p:=⟨b,7,none⟩) hB]; exact h.k7,by rw[hb.cell (p:=⟨b,8,none⟩) hB]; exact h.k8,Nat.lt_of_lt_of_le h.lt hb.size⟩
theorem KIs.same {w w':World} {b:Nat} {F:FC} (h:KIs w b F) (hb:Below w.heap.size w w'):KIs w' b F:=h.below hb h.lt
theorem KIs.drewN {w:World} {b:Nat} {F:FC} (h:KIs w b F) (n:Nat):KIs (w.drewN n) b F:=⟨h.k0,h.k1,h.k2,h.k3,h.k4,h.k5,h.k6,h.k7,h.k8,h.lt⟩
theorem KIs.other {w:World} {b d i:Nat} {F:FC} (h:KIs w b F) (hd:d≠b) (v:Value):KIs (w.setCell ⟨d,i,none⟩ v) b F :=
 ⟨by rw[World.cell?_setCell_other (h:=fun he=>hd (by simpa using congrArg Addr.block he)) ..]; exact h.k0,by rw[World.cell?_setCell_other (h:=fun he=>hd (by simpa using congrArg Addr.block he)) ..]; exact h.k1,
  by rw[World.cell?_setCell_other (h:=fun he=>hd (by simpa using congrArg Addr.block he)) ..]; exact h.k2,by rw[World.cell?_setCell_other (h:=fun he=>hd (by simpa using congrArg Addr.block he)) ..]; exact h.k3,
  by rw[World.cell?_setCell_other (h:=fun he=>hd (by simpa using congrArg Addr.block he)) ..]; exact h.k4,by rw[World.cell?_setCell_other (h:=fun he=>hd (by simpa using congrArg Addr.block he)) ..]; exact h.k5,
  by rw[World.cell?_setCell_other (h:=fun he=>hd (by simpa using congrArg Addr.block he)) ..]; exact h.k6,by rw[World.cell?_setCell_other (h:=fun he=>hd (by simpa using congrArg Addr.block he)) ..]; exact h.k7,
  by rw[World.cell?_setCell_other (h:=fun he=>hd (by simpa using congrArg Addr.block he)) ..]; exact h.k8,by rw[World.size_setCell]; exact h.lt⟩
theorem BP {a0 a1 a2 a3 b0 b1 b2 b3:Nat} (ha:cC a0 a1 a2 a3) (hb:cC b0 b1 b2 b3):∃d0 c0 d1 c1 d2 c2 d3 c3:Nat,
  (∀w,(callFunc 93 #[.int .u64 (a0:Int),.int .u64 (b0:Int),.int .u64 0]).run prog w=.ok (.value (.tuple #[.int .u64 (d0:Int),.int .u64 (c0:Int)])) w) ∧
  (∀w,(callFunc 93 #[.int .u64 (a1:Int),.int .u64 (b1:Int),.int .u64 (c0:Int)]).run prog w=.ok (.value (.tuple #[.int .u64 (d1:Int),.int .u64 (c1:Int)])) w) ∧
  (∀w,(callFunc 93 #[.int .u64 (a2:Int),.int .u64 (b2:Int),.int .u64 (c1:Int)]).run prog w=.ok (.value (.tuple #[.int .u64 (d2:Int),.int .u64 (c2:Int)])) w) ∧
  (∀w,(callFunc 93 #[.int .u64 (a3:Int),.int .u64 (b3:Int),.int .u64 (c2:Int)]).run prog w=.ok (.value (.tuple #[.int .u64 (d3:Int),.int .u64 (c3:Int)])) w) ∧
  cC d0 d1 d2 d3∧c3≤1∧Hid (aC d0 d1 d2 d3+aC b0 b1 b2 b3=aC a0 a1 a2 a3+115792089237316195423570985008687907853269984665640564039457584007913129639936*c3):=by
 obtain⟨d0,c0,r0,h0,k0,e0⟩:=yW ha.1 hb.1;obtain⟨d1,c1,r1,h1,k1,e1⟩:=kX ha.2.1 hb.2.1 k0;obtain⟨d2,c2,r2,h2,k2,e2⟩:=kX ha.2.2.1 hb.2.2.1 k1;obtain⟨d3,c3,r3,h3,k3,e3⟩:=kX ha.2.2.2 hb.2.2.2 k2;exact⟨d0,c0,d1,c1,d2,c2,d3,c3,r0,r1,r2,r3,⟨h0,h1,h2,h3⟩,k3,Lib.hid (by have:=e0.out; have:=e1.out; have:=e2.out; have:=e3.out; unfold aC; omega)⟩
theorem PM {a0 a1 a2 a3 b0 b1 b2 b3:Nat} (ha:cC a0 a1 a2 a3) (hb:cC b0 b1 b2 b3):∃d0 c0 d1 c1 d2 c2 d3 c3:Nat,
  (∀w,(callFunc 57 #[.int .u64 (a0:Int),.int .u64 (b0:Int),.int .u64 0]).run prog w=.ok (.value (.tuple #[.int .u64 (d0:Int),.int .u64 (c0:Int)])) w) ∧
  (∀w,(callFunc 57 #[.int .u64 (a1:Int),.int .u64 (b1:Int),.int .u64 (c0:Int)]).run prog w=.ok (.value (.tuple #[.int .u64 (d1:Int),.int .u64 (c1:Int)])) w) ∧
  (∀w,(callFunc 57 #[.int .u64 (a2:Int),.int .u64 (b2:Int),.int .u64 (c1:Int)]).run prog w=.ok (.value (.tuple #[.int .u64 (d2:Int),.int .u64 (c2:Int)])) w) ∧
  (∀w,(callFunc 57 #[.int .u64 (a3:Int),.int .u64 (b3:Int),.int .u64 (c2:Int)]).run prog w=.ok (.value (.tuple #[.int .u64 (d3:Int),.int .u64 (c3:Int)])) w) ∧
  cC d0 d1 d2 d3∧c3≤1∧Hid (aC d0 d1 d2 d3+115792089237316195423570985008687907853269984665640564039457584007913129639936*c3=aC a0 a1 a2 a3+aC b0 b1 b2 b3):=by
 obtain⟨d0,c0,r0,h0,k0,e0⟩:=gY ha.1 hb.1;obtain⟨d1,c1,r1,h1,k1,e1⟩:=kY ha.2.1 hb.2.1 k0;obtain⟨d2,c2,r2,h2,k2,e2⟩:=kY ha.2.2.1 hb.2.2.1 k1;obtain⟨d3,c3,r3,h3,k3,e3⟩:=kY ha.2.2.2 hb.2.2.2 k2;exact⟨d0,c0,d1,c1,d2,c2,d3,c3,r0,r1,r2,r3,⟨h0,h1,h2,h3⟩,k3,Lib.hid (by have:=e0.out; have:=e1.out; have:=e2.out; have:=e3.out; unfold aC; omega)⟩
def jQ (V:Nat) (w:World) (e:Ending) (w':World):Prop :=
 ∃s0 s1 s2 s3:Nat,e=.returned (.agg #[.int .u64 s0,.int .u64 s1,.int .u64 s2,.int .u64 s3])∧cC s0 s1 s2 s3∧aC s0 s1 s2 s3=V∧Below w.heap.size w w'
set_option maxHeartbeats 1000000 in
theorem vJ (F:FC) (hF:F.Ok) (b t0 t1 t2 t3:Nat) (ht:cC t0 t1 t2 t3) (hlt:aC t0 t1 t2 t3<2*F.M) (w:World) (hk:KIs w b F) :
  Calls prog 136 #[.pointer (some ⟨b,0,none⟩),.int .u64 t0,.int .u64 t1,.int .u64 t2,.int .u64 t3] w (jQ (aC t0 t1 t2 t3%F.M) w):=by
 obtain⟨d0,c0,d1,c1,d2,c2,d3,c3,r0,r1,r2,r3,hd,hc,e⟩:=BP ht hF.okm;have vd:=bN hd;have vt:=bN ht;have HV:=Lib.hid (XY hlt);have HM:=Lib.hid (show F.M=aC F.m0 F.m1 F.m2 F.m3 from rfl);have hL:=hk.lt;have k0:=hk.k0; have k1:=hk.k1; have k2:=hk.k2; have k3:=hk.k3;clear hk hF hlt;have hc':c3=0∨c3=1:=by omega
 rcases hc' with rfl|rfl
 ·go_enter func136,ntmps136
  go_wp2_with fail;refine bodyPost_ret (v:=.agg #[.int .u64 d0,.int .u64 d1,.int .u64 d2,.int .u64 d3]) (by simp[results,results136,go_sem]) rfl ?_;refine⟨_,_,_,_,rfl,hd,?_,?_⟩
  ·rw[HV.out,if_neg (by have:=e.out; have:=HM.out; omega)]; have:=e.out; have:=HM.out; omega
  ·repeat (first|exact Below.refl _ _|refine Below.drew ?_|refine Below.alloc ?_ (by first|(simp; done)|(simp; omega)) _|refine Below.setCell ?_ (by simp) _)
 ·go_enter func136,ntmps136
  go_wp2_with fail;refine bodyPost_ret (v:=.agg #[.int .u64 t0,.int .u64 t1,.int .u64 t2,.int .u64 t3]) (by simp[results,results136,go_sem]) rfl ?_;refine⟨_,_,_,_,rfl,ht,?_,?_⟩
  ·rw[HV.out,if_pos (by have:=e.out; have:=HM.out; omega)]
  ·repeat (first|exact Below.refl _ _|refine Below.drew ?_|refine Below.alloc ?_ (by first|(simp; done)|(simp; omega)) _|refine Below.setCell ?_ (by simp) _)
end Go.Proofs.YtpbljiejmfahcaaGreatDoor
