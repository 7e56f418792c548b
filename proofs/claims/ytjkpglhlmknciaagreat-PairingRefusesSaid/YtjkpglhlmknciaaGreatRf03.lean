/- Rf03 -/
import Derived.KernelRfl
import Derived.Laws.Externs
import Derived.Test.YtjkpglhlmknciaaGreatRf02
import Derived.Test.YtjkpglhlmknciaaGreatProg
set_option maxRecDepth 100000
set_option linter.unusedVariables false
set_option linter.unusedSimpArgs false
set_option linter.unnecessarySimpa false
noncomputable section
namespace Go.Proofs.YtjkpglhlmknciaaGreat.Ex
open Go.Proofs.Tryz
open Go.RowKit
def aLi:Nat→List TV→List Fact
 | _,[]=>[]
 | i,t::r=>.slot i t.av::aLi (i+1) r
theorem Se {base:Nat} {β:Nat→Bk} (a:Act) (w:World):∀(ts:List TV) (i:Nat),(∀j t,ts[j]?=some t→a.tmps[i+j]?=some t.den)→∀φ∈aLi i ts,φ.ok base β a w
 | [],i,_,φ,h=>by cases h
 | t::r,i,ha,φ,h=>by
  rcases List.mem_cons.1 h with rfl|h
  ·show a.tmps[i]?=_;rw[TV.av_den];exact ha 0 t rfl
  ·exact Se a w r (i+1) (fun j u hj=>by have:=ha (j+1) u (by simpa using hj); rwa [show i+(j+1)=i+1+j by omega]at this) φ h
theorem JV:∀(ts:List TV) (i:Nat) (k:Nat) (o:Bool) (l:List At),Fact.row k o l∈aLi i ts→False
 | [],i,k,o,l,h=>by cases h
 | t::r,i,k,o,l,h=>by
  rcases List.mem_cons.1 h with h|h
  ·cases h
  ·exact JV r (i+1) k o l h
structure Own (w:World) (b:Nat) (l:List At):Prop where
 lt:b<w.heap.size
 row:w.rangeAt b 0 (aA l)
 free:∀j,w.frozen? ⟨b,j,none⟩=false
def Wr (b:Nat) (w:World) (r:RV) (l:List At) (e:Ending) (w':World):Prop:=e=.returned r.den∧WrC w w' b∧w'.rangeAt b 0 (aA l)
def Kj (nt b N:Nat) (x:AV) (l:List At) (ts:List TV):List Fact:=.slot 0 x :: .row 0 true l :: .at 0 b :: .at nt N::aLi 1 ts
def aSm (nt b N o:Nat) (l:List At) (ts:List TV):List Fact:=Kj nt b N (.pt 0 o) l ts
theorem Holds.wrc {nt b:Nat} {w w':World} {A:List Fact} {a:Act} (h:Holds nt b w A a w') {l:List At} (h1:Fact.row 0 true l∈A) (h2:Fact.at 0 b∈A) (h3:Fact.at nt w.heap.size∈A):WrC w w' b∧w'.rangeAt b 0 (aA l):=by
 obtain⟨β,g1,g2,g3,gt⟩:=h.facts;obtain⟨e1,e2,e4,_⟩:=g1 _ h1;obtain⟨e5,e6,e7⟩:=e4 rfl;have e3:=g1 _ h2;have e8:=g1 _ h3;simp only[Fact.ok]at e3 e8;rw[e6]at e2;rw[e3.1]at e2;refine⟨⟨h.below,fun p hp hne => ?_,gt.shape,fun j => ?_⟩,e2⟩
 ·rcases Nat.lt_or_ge p.block b with q|q
  ·exact⟨h.below.cell q,h.below.frozen q⟩
  ·exact gt.mem p (by omega) (by rw[e8.1]; exact hp)
 ·have:=e7 j
  rwa [e3.1]at this
section
variable {P:Program} {w:World} {R:Ending→World→Prop}
theorem NX {f:FuncId} {fn:Func} (hf:P.funcs[f]?=some fn) {c:Code} (hb:fn.body=some c) {b:Nat} {x:AV} {v:Value} (hx:∀β:Nat→Bk,β 0=(b,0,0)→x.den β=v) {l:List At} {ts:List TV} (hO:Own w b l) (hn:ts.length+1≤fn.ntmps)
  (h:∀a w',Holds fn.ntmps b w (Kj fn.ntmps b w.heap.size x l ts) a w'→c.wp P (bodyPost P fn R) a w'):Calls P f (v::ts.map TV.den).toArray w R:=by
 refine calls_of_wp hf hb (h _ _ ?_);have hg:∀j u,(v::ts.map TV.den)[j]?=some u→((v::ts.map TV.den).toArray++Array.replicate (fn.ntmps-(v::ts.map TV.den).toArray.size) undef)[j]?=some u:=fun j u hj=>by
  have hlt:=(List.getElem?_eq_some_iff.1 hj).1;rw[Array.getElem?_append_left (by simpa using hlt)];simpa using hj
 have hz:Nat.beq 0 fn.ntmps=false:=by
  cases hb:Nat.beq 0 fn.ntmps
  ·rfl
  ·have:=Nat.eq_of_beq_eq_true hb; omega
 have h0:∀k l0,Fact.row k true l0∈Kj fn.ntmps b w.heap.size x l ts→k=0:=fun k l0 hk=>by
  simp only[Kj,List.mem_cons,reduceCtorEq,false_or]at hk
  rcases hk with hk|hk
  ·cases hk; rfl
  ·exact (JV ts 1 k true l0 hk).elim
 refine⟨rfl,by simp; omega,Below.refl _ _,Nat.le_of_lt hO.lt,fun k=>bif Nat.beq k fn.ntmps then (w.heap.size,0,0)else (b,0,0),fun φ hφ => ?_,fun k k' o' l1 l2 h1 h2 hne => ?_,fun k l1 h1=>Or.inl ?_,?_,fun p q1 q2=>⟨rfl,rfl⟩,Shape.refl _⟩
 ·simp only[Kj,List.mem_cons]at hφ
  rcases hφ with rfl|rfl|rfl|rfl|hφ
  ·exact (hg 0 _ rfl).trans (congrArg some (hx _ (by simp only[hz,cond_false])).symm)
  ·refine⟨?_,?_,fun _=>⟨?_,?_,?_⟩,fun h=>by cases h⟩<;>simp only[hz,cond_false]
   ·exact hO.lt
   ·exact hO.row
   ·exact Nat.le_refl _
   ·exact hO.free
  ·simp only[Fact.ok,hz,cond_false,and_self]
  ·simp[Fact.ok]
  ·exact Se _ _ ts 1 (fun j t hj=>hg (1+j) _ (by rw[Nat.add_comm]; simp[hj])) φ hφ
 ·cases o' with
  | true=>exact (hne ((h0 k l1 h1).trans (h0 k' l2 h2).symm)).elim
  | false =>
   simp only[Kj,List.mem_cons,reduceCtorEq,false_or,Fact.row.injEq,Bool.false_eq_true,false_and,and_false]at h2;exact (JV ts 1 k' false l2 h2).elim
 ·rw[h0 k l1 h1];simp only[hz,cond_false]
 ·simp
theorem NY {f:FuncId} {fn:Func} (hf:P.funcs[f]?=some fn) {c:Code} (hb:fn.body=some c) {b o:Nat} {l:List At} {ts:List TV} (hO:Own w b l) (hn:ts.length+1≤fn.ntmps)
  (h:∀a w',Holds fn.ntmps b w (aSm fn.ntmps b w.heap.size o l ts) a w'→c.wp P (bodyPost P fn R) a w'):Calls P f (rU b o::ts.map TV.den).toArray w R :=
 NX hf hb (x:=.pt 0 o) (fun β h=>by simp[AV.den,rU,h]) hO hn h
end
def Jq (P:Program) (q:EqT) (C:Nat→Cfg) (fn:Func) (n b N o:Nat) (l:List At) (ts:List TV):Option (List Prop×RV×List At×Nat×Nat) :=
 match fn.body with
 | some c=>bif Nat.ble (ts.length+1) fn.ntmps then (match run P q fn.ntmps C n c (aSm fn.ntmps b N o l ts)with
   | some (ps,.rt,A)=>match xT P A fn.results.toList,fB A 0,BO A 0,BO A fn.ntmps with
    | some x,some (true,L),some b',some N'=>match rv x with|some r=>some (ps,r,L,b',N')|none=>none
    | _,_,_,_=>none
   | _=>none)else none
 | none=>none
theorem nL {P:Program} {q:EqT} {C:Nat→Cfg} {w:World} {b o:Nat} (hm:P.follows .mixedOrders=true) (hT:∀n d,TabOkW P ((C n).T d) b w) (hq:dC P q b w) {f:FuncId} {fn:Func} (hf:P.funcs[f]?=some fn) {n:Nat} {l L:List At} {ts:List TV} {ps:List Prop} {r:RV}
  (h:Jq P q C fn n b w.heap.size o l ts=some (ps,r,L,b,w.heap.size)) (hps:aZ ps) (hO:Own w b l):Calls P f (rU b o::ts.map TV.den).toArray w (Wr b w r L):=by
 unfold Jq at h;split at h
 ·rename_i c hb;cases hle:Nat.ble (ts.length+1) fn.ntmps<;>rw[hle]at h
  ·cases h
  ·simp only[cond_true]at h;split at h
   ·rename_i ps' A hrun;split at h
    ·rename_i x L' b' N' hx hrow hb' hN';split at h
     ·rename_i r' hr;cases h;refine NY hf hb hO (Nat.le_of_ble_eq_true hle) fun a w' hH=>(fD (P:=P) (q:=q) (nt:=fn.ntmps) (C:=C) hm hT hq n c _ A ps .rt a w' _ hrun hps hH fun a w' hA => ?_).1
      exact pY hx hr hA ⟨rfl,hA.wrc (bH hrow) (gK hb') (gK hN')⟩
     ·cases h
    ·cases h
   ·cases h
 ·cases h
def qPx (P:Program) (ld st:Nat→Option (List At)) (idx:Nat→Option Nat) (gen:Nat→Option Value) (T5:Tab5):EqT:={ qG P with x:={ Ext.none with ld:=ld,st:=st,idx:=idx,gen:=gen,T5:=T5 } }
theorem jT {P:Program} {ld st:Nat→Option (List At)} {idx:Nat→Option Nat} {gen:Nat→Option Value} {T5:Tab5} (h5:PtOk P T5) (base:Nat) (w0:World):dC P (qPx P ld st idx gen T5) base w0 :=
 ⟨(aJ P).1,fun w' _=>⟨fun _ _ _ h=>h.elim,fun _ _ _ _ h=>(by cases h),fun _ _ _ _ h=>(by cases h),fun _ _ _ _ _ h=>(by cases h),fun f cs pre j r l hg hp=>⟨(h5 f cs pre j r l hg hp).1,fun args ha=>(h5 f cs pre j r l hg hp).2 args w' ha⟩,fun _ _ _ _ _ _ _ h=>(by cases h)⟩⟩
def qPt (P:Program) (ld st:Nat→Option (List At)) (T5:Tab5):EqT:=qPx P ld st (fun _=>none) (fun _=>none) T5
theorem oP {P:Program} {ld st:Nat→Option (List At)} {T5:Tab5} (h5:PtOk P T5) (base:Nat) (w0:World):dC P (qPt P ld st T5) base w0:=jT h5 base w0
def pe0 (l0:List At) (o0:Nat) (r:RV) (l1:List At):List CA→Option (List Prop×Nat×RV×List At)
 | [.p l o]=>some ([l=l0,o=o0],0,r,l1)
 | _=>none
def pe1 (l0:List At) (o0:Nat) (m0:List At) (r:RV) (l1:List At):List CA→Option (List Prop×Nat×RV×List At)
 | [.p l o,.v (.fl m)]=>some ([l=l0,o=o0,aA m=aA m0],0,r,l1)
 | _=>none
def pe2 (l0:List At) (o0:Nat) (m0:List At) (v0:Value) (r:RV) (l1:List At):List CA→Option (List Prop×Nat×RV×List At)
 | [.p l o,.v (.fl m),.v (.im v)]=>some ([l=l0,o=o0,aA m=aA m0,v=v0],0,r,l1)
 | _=>none
def DC (P:Program) (f:FuncId) (l0:List At) (o0:Nat) (ts:List Value) (r:RV) (l1:List At):Prop:=∀(w:World) (b:Nat),Own w b l0→Calls P f (rU b o0::ts).toArray w (Wr b w r l1)
theorem aPh {P:Program} {f:FuncId} {l0:List At} {o0:Nat} {r0:RV} {l1:List At} (h:DC P f l0 o0 [] r0 l1):∀cs pre j r l,pe0 l0 o0 r0 l1 cs=some (pre,j,r,l)→aZ pre→∀(args:List Value) (w:World),bU w cs args→∀b o,args[j]?=some (.pointer (some ⟨b,o,none⟩))→(∀q,w.frozen? ⟨b,q,none⟩=false) →
  Calls P f args.toArray w (fun e w'=>e=.returned r.den∧WrC w w' b∧w'.rangeAt b 0 (aA l)):=by
 intro cs pre j r l hg hp args w ha b o hj hz;unfold pe0 at hg;split at hg
 ·cases hg;obtain⟨rfl,rfl,_⟩:=hp
  match args,ha with
  | [v],ha =>
   obtain⟨⟨b',rfl,h1,h2⟩,_⟩:=ha;cases hj;exact h w b ⟨h1,h2,hz⟩
  | [],ha=>exact ha.elim
  | _::_::_,ha=>exact ha.2.elim
 ·cases hg
theorem Id {P:Program} {f:FuncId} {l0:List At} {o0:Nat} {m0:List At} {r0:RV} {l1:List At} (h:DC P f l0 o0 [.agg (aA m0).toArray] r0 l1):∀cs pre j r l,pe1 l0 o0 m0 r0 l1 cs=some (pre,j,r,l)→aZ pre→∀(args:List Value) (w:World),bU w cs args→∀b o,args[j]?=some (.pointer (some ⟨b,o,none⟩))→(∀q,w.frozen? ⟨b,q,none⟩=false) →
  Calls P f args.toArray w (fun e w'=>e=.returned r.den∧WrC w w' b∧w'.rangeAt b 0 (aA l)):=by
 intro cs pre j r l hg hp args w ha b o hj hz;unfold pe1 at hg;split at hg
 ·cases hg;obtain⟨rfl,rfl,hm,_⟩:=hp
  match args,ha with
  | [v,u],ha =>
   obtain⟨⟨b',rfl,h1,h2⟩,h3,_⟩:=ha;cases hj;have h3:u=.agg (aA _).toArray:=h3;rw[hm]at h3;subst h3;exact h w b ⟨h1,h2,hz⟩
  | [],ha=>exact ha.elim
  | [_],ha=>exact ha.2.elim
  | _::_::_::_,ha=>exact ha.2.2.elim
 ·cases hg
theorem aPg {P:Program} {f:FuncId} {l0:List At} {o0:Nat} {m0:List At} {v0:Value} {r0:RV} {l1:List At} (h:DC P f l0 o0 [.agg (aA m0).toArray,v0] r0 l1):∀cs pre j r l,pe2 l0 o0 m0 v0 r0 l1 cs=some (pre,j,r,l)→aZ pre→∀(args:List Value) (w:World),bU w cs args→∀b o,args[j]?=some (.pointer (some ⟨b,o,none⟩))→(∀q,w.frozen? ⟨b,q,none⟩=false) →
  Calls P f args.toArray w (fun e w'=>e=.returned r.den∧WrC w w' b∧w'.rangeAt b 0 (aA l)):=by
 intro cs pre j r l hg hp args w ha b o hj hz;unfold pe2 at hg;split at hg
 ·cases hg;obtain⟨rfl,rfl,hm,hv,_⟩:=hp
  match args,ha with
  | [v,u,t],ha =>
   obtain⟨⟨b',rfl,h1,h2⟩,h3,h4,_⟩:=ha;cases hj;have h3:u=.agg (aA _).toArray:=h3;have h4:t=v0:=h4.trans hv;rw[hm]at h3;subst h3; subst h4;exact h w b ⟨h1,h2,hz⟩
  | [],ha=>exact ha.elim
  | [_],ha=>exact ha.2.elim
  | [_,_],ha=>exact ha.2.2.elim
  | _::_::_::_::_,ha=>exact ha.2.2.2.elim
 ·cases hg
end Go.Proofs.YtjkpglhlmknciaaGreat.Ex
namespace Go.Proofs.YtjkpglhlmknciaaGreat
open Go.Proofs.Tryz
structure CR (R:Type) where
 add:R→R→R
 mul:R→R→R
 neg:R→R
 zero:R
 one:R
 add_assoc:∀a b c,add (add a b) c=add a (add b c)
 add_comm:∀a b,add a b=add b a
 zero_add:∀a,add zero a=a
 neg_add:∀a,add (neg a) a=zero
 mul_assoc:∀a b c,mul (mul a b) c=mul a (mul b c)
 mul_comm:∀a b,mul a b=mul b a
 one_mul:∀a,mul one a=a
 mul_add:∀a b c,mul a (add b c)=add (mul a b) (mul a c)
namespace CR
variable {R:Type} (K:CR R)
theorem add_left_comm (a b c:R):K.add a (K.add b c)=K.add b (K.add a c):=by rw[←K.add_assoc,K.add_comm a b,K.add_assoc]
theorem mul_left_comm (a b c:R):K.mul a (K.mul b c)=K.mul b (K.mul a c):=by rw[←K.mul_assoc,K.mul_comm a b,K.mul_assoc]
theorem add_mul (a b c:R):K.mul (K.add a b) c=K.add (K.mul a c) (K.mul b c):=by rw[K.mul_comm,K.mul_add,K.mul_comm c a,K.mul_comm c b]
theorem add_zero (a:R):K.add a K.zero=a:=by rw[K.add_comm,K.zero_add]
theorem add_neg (a:R):K.add a (K.neg a)=K.zero:=by rw[K.add_comm,K.neg_add]
theorem add_cancel {a b c:R} (h:K.add a b=K.add a c):b=c:=by
 have:=congrArg (K.add (K.neg a)) h
 rwa [←K.add_assoc,←K.add_assoc,K.neg_add,K.zero_add,K.zero_add]at this
theorem mul_zero (a:R):K.mul a K.zero=K.zero:=by
 apply K.add_cancel (a:=K.mul a K.zero);rw[←K.mul_add,K.add_zero,K.add_zero]
theorem zero_mul (a:R):K.mul K.zero a=K.zero:=by rw[K.mul_comm,K.mul_zero]
theorem mul_one (a:R):K.mul a K.one=a:=by rw[K.mul_comm,K.one_mul]
theorem neg_mul (a b:R):K.mul (K.neg a) b=K.neg (K.mul a b):=by
 apply K.add_cancel (a:=K.mul a b);rw[←K.add_mul,K.add_neg,K.zero_mul,K.add_neg]
theorem neg_neg (a:R):K.neg (K.neg a)=a:=by
 apply K.add_cancel (a:=K.neg a);rw[K.add_neg,K.neg_add]
theorem neg_add' (a b:R):K.neg (K.add a b)=K.add (K.neg a) (K.neg b):=by
 apply K.add_cancel (a:=K.add a b);rw[K.add_neg,K.add_assoc,K.add_left_comm b,K.add_neg,K.add_zero,K.add_neg]
theorem mul_neg (a b:R):K.mul a (K.neg b)=K.neg (K.mul a b):=by rw[K.mul_comm,K.neg_mul,K.mul_comm]
def sub (a b:R):R:=K.add a (K.neg b)
def sq (q:R):CR (R×R) where
 add x y:=(K.add x.1 y.1,K.add x.2 y.2)
 mul x y:=(K.add (K.mul x.1 y.1) (K.mul q (K.mul x.2 y.2)),K.add (K.mul x.1 y.2) (K.mul x.2 y.1))
 neg x:=(K.neg x.1,K.neg x.2)
 zero:=(K.zero,K.zero)
 one:=(K.one,K.zero)
 add_assoc a b c:=by simp only[K.add_assoc]
 add_comm a b:=by rw[K.add_comm a.1,K.add_comm a.2]
 zero_add a:=by simp only[K.zero_add]
 neg_add a:=by simp only[K.neg_add]
 mul_assoc a b c:=by
  simp only[K.mul_add,K.add_mul,K.mul_assoc,K.mul_left_comm,K.add_assoc,K.add_left_comm,K.add_comm]
 mul_comm a b:=by
  simp only[K.mul_comm,K.add_comm]
 one_mul a:=by simp only[K.one_mul,K.zero_mul,K.mul_zero,K.add_zero]
 mul_add a b c:=by
  simp only[K.mul_add,K.add_assoc,Prod.mk.injEq];constructor<;>(simp only[K.add_left_comm])
theorem sa:Std.Associative K.add:=⟨K.add_assoc⟩
theorem sc:Std.Commutative K.add:=⟨K.add_comm⟩
theorem ma:Std.Associative K.mul:=⟨K.mul_assoc⟩
theorem mc:Std.Commutative K.mul:=⟨K.mul_comm⟩
def cu (q:R):CR (R×R×R) where
 add x y:=(K.add x.1 y.1,K.add x.2.1 y.2.1,K.add x.2.2 y.2.2)
 mul x y:=(K.add (K.mul x.1 y.1) (K.mul q (K.add (K.mul x.2.1 y.2.2) (K.mul x.2.2 y.2.1))),K.add (K.add (K.mul x.1 y.2.1) (K.mul x.2.1 y.1)) (K.mul q (K.mul x.2.2 y.2.2)),K.add (K.add (K.mul x.1 y.2.2) (K.mul x.2.1 y.2.1)) (K.mul x.2.2 y.1))
 neg x:=(K.neg x.1,K.neg x.2.1,K.neg x.2.2)
 zero:=(K.zero,K.zero,K.zero)
 one:=(K.one,K.zero,K.zero)
 add_assoc a b c:=by simp only[K.add_assoc]
 add_comm a b:=by rw[K.add_comm a.1,K.add_comm a.2.1,K.add_comm a.2.2]
 zero_add a:=by simp only[K.zero_add]
 neg_add a:=by simp only[K.neg_add]
 mul_assoc a b c:=by
  simp only[K.mul_add,K.add_mul,K.mul_assoc,K.add_assoc,Prod.mk.injEq];have:=K.sa; have:=K.sc; have:=K.ma; have:=K.mc;refine⟨?_,?_,?_⟩<;>ac_rfl
 mul_comm a b:=by
  simp only[Prod.mk.injEq];have:=K.sa; have:=K.sc; have:=K.ma; have:=K.mc;refine⟨?_,?_,?_⟩<;>ac_rfl
 one_mul a:=by simp only[K.one_mul,K.zero_mul,K.mul_zero,K.add_zero]
 mul_add a b c:=by
  simp only[K.mul_add,K.add_assoc,Prod.mk.injEq];have:=K.sa; have:=K.sc; have:=K.ma; have:=K.mc;refine⟨?_,?_,?_⟩<;>ac_rfl
end CR
def aZN (M:Nat) (h:1<M):CR (Fin M) where
 add a b:=⟨(a.1+b.1)%M,Nat.mod_lt _ (by omega)⟩
 mul a b:=⟨a.1*b.1%M,Nat.mod_lt _ (by omega)⟩
 neg a:=⟨(0+M-a.1)%M,Nat.mod_lt _ (by omega)⟩
 zero:=⟨0,by omega⟩
 one:=⟨1,h⟩
 add_assoc a b c:=Fin.ext (by show ((a.1+b.1)%M+c.1)%M=(a.1+(b.1+c.1)%M)%M; rw[Nat.mod_add_mod,Nat.add_mod_mod,Nat.add_assoc])
 add_comm a b:=Fin.ext (by show (a.1+b.1)%M=(b.1+a.1)%M; rw[Nat.add_comm])
 zero_add a:=Fin.ext (by show (0+a.1)%M=a.1; rw[Nat.zero_add,Nat.mod_eq_of_lt a.2])
 neg_add a:=Fin.ext (by
  show ((0+M-a.1)%M+a.1)%M=0;have:=a.2;rw[Nat.mod_add_mod,show 0+M-a.1+a.1=M by omega,Nat.mod_self])
 mul_assoc a b c:=Fin.ext (by show a.1*b.1%M*c.1%M=a.1*(b.1*c.1%M)%M; rw[Nat.mod_mul_mod,Nat.mul_mod_mod,Nat.mul_assoc])
 mul_comm a b:=Fin.ext (by show a.1*b.1%M=b.1*a.1%M; rw[Nat.mul_comm])
 one_mul a:=Fin.ext (by show 1*a.1%M=a.1; rw[Nat.one_mul,Nat.mod_eq_of_lt a.2])
 mul_add a b c:=Fin.ext (by show a.1*((b.1+c.1)%M)%M=(a.1*b.1%M+a.1*c.1%M)%M; rw[Nat.mul_mod_mod,Nat.mul_add,Nat.add_mod])
end Go.Proofs.YtjkpglhlmknciaaGreat
namespace Go.Proofs.YtjkpglhlmknciaaGreat.Ex
open Go.Proofs.Tryz
inductive RE|v (i:Nat)|add (a b:RE)|mul (a b:RE)|neg (a:RE)|zero|one
instance:Add RE:=⟨.add⟩
instance:Mul RE:=⟨.mul⟩
instance:Neg RE:=⟨.neg⟩
instance:Sub RE:=⟨fun a b=>.add a (.neg b)⟩
abbrev Z0:RE:=.v 0
abbrev Z1:RE:=.v 1
abbrev Z2:RE:=.v 2
abbrev Z3:RE:=.v 3
abbrev Z4:RE:=.v 4
abbrev Z5:RE:=.v 5
abbrev Z6:RE:=.v 6
abbrev Z7:RE:=.v 7
abbrev Z8:RE:=.v 8
abbrev Z9:RE:=.v 9
abbrev Z10:RE:=.v 10
abbrev Z11:RE:=.v 11
section
variable {R:Type} (K:CR R) (env:Nat→R)
def RE.den:RE→R
 | .v i=>env i
 | .add a b=>K.add (a.den) (b.den)
 | .mul a b=>K.mul (a.den) (b.den)
 | .neg a=>K.neg a.den
 | .zero=>K.zero
 | .one=>K.one
def nt (x:R):Nat→R
 | 0=>K.zero
 | n+1=>K.add (nt x n) x
def zt (x:R):Int→R
 | .ofNat n=>nt K x n
 | .negSucc n=>K.neg (nt K x (n+1))
def mono:List Nat→R
 | []=>K.one
 | i::r=>K.mul (env i) (mono r)
def mB:List (Int×List Nat)→R
 | []=>K.zero
 | (c,m)::r=>K.add (zt K (mono K env m) c) (mB r)
end
def ltL:List Nat→List Nat→Bool
 | [],[]=>false
 | [],_::_=>true
 | _::_,[]=>false
 | a::r,b::s=>bif Nat.blt a b then true else bif Nat.blt b a then false else ltL r s
def eqL:List Nat→List Nat→Bool
 | [],[]=>true
 | a::r,b::s=>bif Nat.beq a b then eqL r s else false
 | _,_=>false
theorem aER:∀{a b:List Nat},eqL a b=true→a=b
 | [],[],_=>rfl
 | a::r,b::s,h=>by
  unfold eqL at h;cases hb:Nat.beq a b<;>rw[hb]at h
  ·cases h
  ·rw[Nat.eq_of_beq_eq_true hb,aER h]
 | [],_::_,h=>by cases h
 | _::_,[],h=>by cases h
def ins (c:Int) (m:List Nat):List (Int×List Nat)→List (Int×List Nat)
 | []=>[(c,m)]
 | (d,k)::r=>bif eqL m k then (c+d,k)::r else bif ltL m k then (c,m)::(d,k)::r else (d,k)::ins c m r
def If:List (Int×List Nat)→List (Int×List Nat)→List (Int×List Nat)
 | [],q=>q
 | (c,m)::r,q=>ins c m (If r q)
def Xm (i:Nat):List Nat→List Nat
 | []=>[i]
 | j::r=>bif Nat.ble i j then i::j::r else j::Xm i r
def aDg:List Nat→List Nat→List Nat
 | [],m=>m
 | i::r,m=>Xm i (aDg r m)
def ZS (c:Int) (m:List Nat):List (Int×List Nat)→List (Int×List Nat)
 | []=>[]
 | (d,k)::r=>ins (c*d) (aDg m k) (ZS c m r)
def aBQ:List (Int×List Nat)→List (Int×List Nat)→List (Int×List Nat)
 | [],_=>[]
 | (c,m)::r,q=>If (ZS c m q) (aBQ r q)
def aBP:List (Int×List Nat)→List (Int×List Nat)
 | []=>[]
 | (c,m)::r=>(-c,m)::aBP r
def RE.norm:RE→List (Int×List Nat)
 | .v i=>[(1,[i])]
 | .add a b=>If a.norm b.norm
 | .mul a b=>aBQ a.norm b.norm
 | .neg a=>aBP a.norm
 | .zero=>[]
 | .one=>[(1,[])]
def isZ:List (Int×List Nat)→Bool
 | []=>true
 | (.ofNat 0,_)::r=>isZ r
 | _=>false
section
variable {R:Type} (K:CR R) (env:Nat→R)
theorem tA (x:R) (n:Nat):∀m,nt K x (n+m)=K.add (nt K x n) (nt K x m)
 | 0=>(K.add_zero _).symm
 | m+1=>by show K.add (nt K x (n+m)) x=_; rw[tA x n m,K.add_assoc]; rfl
theorem bQ:K.neg K.zero=K.zero:=by
 apply K.add_cancel (a:=K.zero);rw[K.add_neg,K.add_zero]
theorem Zc (x:R) (n m:Nat):zt K x (Int.subNatNat n m)=K.add (nt K x n) (K.neg (nt K x m)):=by
 unfold Int.subNatNat;split
 ·rename_i h;have:n=m+(n-m):=by omega
  show nt K x (n-m)=_
  conv=>rhs; rw[this,tA]
  rw[K.add_comm (nt K x m),K.add_assoc,K.add_neg,K.add_zero]
 ·rename_i k h;have:m=n+(k+1):=by omega
  show K.neg (nt K x (k+1))=K.add (nt K x n) (K.neg (nt K x m));rw[this,tA K x n (k+1),K.neg_add' (nt K x n),←K.add_assoc,K.add_neg,K.zero_add]
theorem Zd (x:R) (a b:Int):zt K x (a+b)=K.add (zt K x a) (zt K x b):=by
 cases a with
 | ofNat n =>
  cases b with
  | ofNat m=>exact tA K x n m
  | negSucc m=>exact Zc K x n (m+1)
 | negSucc n =>
  cases b with
  | ofNat m=>show zt K x (Int.subNatNat m (n+1))=_; rw[Zc,K.add_comm]; rfl
  | negSucc m =>
   show K.neg (nt K x (n+m+1+1))=K.add (K.neg (nt K x (n+1))) (K.neg (nt K x (m+1)));rw[←K.neg_add',←tA,show n+1+(m+1)=n+m+1+1 by omega]
theorem vK (x:R) (a:Int):zt K x (-a)=K.neg (zt K x a):=by
 apply K.add_cancel (a:=zt K x a);rw[←Zd,K.add_neg,Int.add_right_neg];rfl
theorem Il (x y:R) (n:Nat):∀m,K.mul (nt K x n) (nt K y m)=nt K (K.mul x y) (n*m)
 | 0=>K.mul_zero _
 | m+1=>by
  show K.mul _ (K.add (nt K y m) y)=_;rw[K.mul_add,Il x y n m,Nat.mul_add,Nat.mul_one,tA];congr 1;clear Il
  induction n with
  | zero=>exact K.zero_mul _
  | succ n ih=>show K.mul (K.add (nt K x n) x) y=_; rw[K.add_mul,ih]; rfl
theorem aNp (x y:R) (a b:Int):K.mul (zt K x a) (zt K y b)=zt K (K.mul x y) (a*b):=by
 have hn:∀(c:Int),∃n:Nat,c=n∨c = -(n:Int):=fun c=>⟨c.natAbs,Int.natAbs_eq c⟩
 have h0:∀n m:Nat,K.mul (zt K x n) (zt K y m)=zt K (K.mul x y) ((n:Int)*m):=fun n m=>by
  rw[←Int.natCast_mul]; exact Il K x y n m
 obtain⟨n,rfl|rfl⟩:=hn a
 ·obtain⟨m,rfl|rfl⟩:=hn b
  ·exact h0 n m
  ·rw[vK,K.mul_neg,h0,Int.mul_neg,vK]
 ·obtain⟨m,rfl|rfl⟩:=hn b
  ·rw[vK,K.neg_mul,h0,Int.neg_mul,vK]
  ·rw[vK,vK,K.neg_mul,K.mul_neg,K.neg_neg,h0,Int.neg_mul_neg]
theorem SB (c:Int) (m:List Nat):∀q,mB K env (ins c m q)=K.add (zt K (mono K env m) c) (mB K env q)
 | []=>rfl
 | (d,k)::r=>by
  unfold ins;cases he:eqL m k
  ·cases hl:ltL m k
   ·show K.add (zt K (mono K env k) d) (mB K env (ins c m r))=K.add _ (K.add _ _);rw[SB c m r,K.add_left_comm]
   ·rfl
  ·rw[aER he];show K.add (zt K (mono K env k) (c+d)) (mB K env r)=K.add _ (K.add _ _);rw[Zd,K.add_assoc]
theorem GP:∀p q,mB K env (If p q)=K.add (mB K env p) (mB K env q)
 | [],q=>(K.zero_add _).symm
 | (c,m)::r,q=>by
  show mB K env (ins c m (If r q))=K.add (K.add _ _) _;rw[SB,GP r q,K.add_assoc]
theorem Bp (i:Nat):∀m,mono K env (Xm i m)=K.mul (env i) (mono K env m)
 | []=>rfl
 | j::r=>by
  unfold Xm;cases Nat.ble i j
  ·show K.mul (env j) (mono K env (Xm i r))=K.mul _ (K.mul _ _);rw[Bp i r,K.mul_left_comm]
  ·rfl
theorem Ba:∀m k,mono K env (aDg m k)=K.mul (mono K env m) (mono K env k)
 | [],k=>(K.one_mul _).symm
 | i::r,k=>by
  show mono K env (Xm i (aDg r k))=K.mul (K.mul _ _) _;rw[Bp,Ba r k,K.mul_assoc]
theorem MM (c:Int) (m:List Nat):∀q,mB K env (ZS c m q)=K.mul (zt K (mono K env m) c) (mB K env q)
 | []=>(K.mul_zero _).symm
 | (d,k)::r=>by
  show mB K env (ins (c*d) (aDg m k) (ZS c m r))=K.mul _ (K.add _ _);rw[SB,MM c m r,K.mul_add,Ba,aNp]
theorem ZR:∀p q,mB K env (aBQ p q)=K.mul (mB K env p) (mB K env q)
 | [],q=>(K.zero_mul _).symm
 | (c,m)::r,q=>by
  show mB K env (If (ZS c m q) (aBQ r q))=K.mul (K.add _ _) _;rw[GP,MM,ZR r q,K.add_mul]
theorem ZQ:∀p,mB K env (aBP p)=K.neg (mB K env p)
 | []=>(bQ K).symm
 | (c,m)::r=>by
  show K.add (zt K (mono K env m) (-c)) (mB K env (aBP r))=K.neg (K.add _ _);rw[ZQ r,K.neg_add',vK]
theorem pS:∀e:RE,mB K env e.norm=e.den K env
 | .v i=>by show K.add (K.add K.zero (K.mul (env i) K.one)) K.zero=env i; rw[K.add_zero,K.zero_add,K.mul_one]
 | .add a b=>by show mB K env (If _ _)=K.add _ _; rw[GP,pS a,pS b]
 | .mul a b=>by show mB K env (aBQ _ _)=K.mul _ _; rw[ZR,pS a,pS b]
 | .neg a=>by show mB K env (aBP _)=K.neg _; rw[ZQ,pS a]
 | .zero=>rfl
 | .one=>by show K.add (K.add K.zero K.one) K.zero=K.one; rw[K.add_zero,K.zero_add]
theorem Pw:∀p,isZ p=true→mB K env p=K.zero
 | [],_=>rfl
 | (.ofNat 0,m)::r,h=>by
  show K.add K.zero (mB K env r)=_;rw[K.zero_add];exact Pw r h
 | (.ofNat (_+1),_)::_,h=>by cases h
 | (.negSucc _,_)::_,h=>by cases h
theorem aE (a b:RE) (h:isZ (RE.norm (.add a (.neg b)))=true):a.den K env=b.den K env:=by
 have:=Pw K env _ h;rw[pS]at this;have h2:K.add (K.add (a.den K env) (K.neg (b.den K env))) (b.den K env)=K.add K.zero (b.den K env):=congrArg (fun x=>K.add x (b.den K env)) this
 rwa [K.add_assoc,K.neg_add,K.add_zero,K.zero_add]at h2
end
def aW {R:Type} (K:CR R) (l:List R) (i:Nat):R:=(l[i]?).getD K.zero
structure FD {R:Type} (K:CR R) (inv:R→R):Prop where
 ne:K.one≠K.zero
 inv:∀x,x≠K.zero→K.mul x (inv x)=K.one
section
variable {R:Type} {K:CR R} {inv:R→R}
theorem FD.zd (h:FD K inv) {a b:R} (e:K.mul a b=K.zero) (ha:a≠K.zero):b=K.zero:=by
 have:=congrArg (K.mul (inv a)) e
 rwa [←K.mul_assoc,K.mul_comm (inv a),h.inv a ha,K.one_mul,K.mul_zero]at this
theorem FD.mul_ne (h:FD K inv) {a b:R} (ha:a≠K.zero) (hb:b≠K.zero):K.mul a b≠K.zero:=fun e=>hb (h.zd e ha)
theorem FD.cancel (h:FD K inv) {a b c:R} (ha:a≠K.zero) (e:K.mul a b=K.mul a c):b=c:=by
 have:=congrArg (K.mul (inv a)) e
 rwa [←K.mul_assoc,←K.mul_assoc,K.mul_comm (inv a),h.inv a ha,K.one_mul,K.one_mul]at this
theorem mZ {a b:R} (h:K.add a (K.neg b)=K.zero):a=b:=by
 have h2:K.add (K.add a (K.neg b)) b=K.add K.zero b:=congrArg (fun x=>K.add x b) h
 rwa [K.add_assoc,K.neg_add,K.add_zero,K.zero_add]at h2
theorem gL {a b:R} (h:a=b):K.add a (K.neg b)=K.zero:=by rw[h,K.add_neg]
theorem iJ {A B L1 R1 c1:R} (h1:L1=R1) (e:K.add A (K.neg B)=K.mul c1 (K.add L1 (K.neg R1))):A=B:=by
 apply mZ (K:=K);rw[e,gL h1,K.mul_zero]
theorem kH {A B L1 R1 c1 L2 R2 c2:R} (h1:L1=R1) (h2:L2=R2) (e:K.add A (K.neg B)=K.add (K.mul c1 (K.add L1 (K.neg R1))) (K.mul c2 (K.add L2 (K.neg R2)))):A=B:=by
 apply mZ (K:=K);rw[e,gL h1,gL h2,K.mul_zero,K.mul_zero,K.add_zero]
theorem Co {A B L1 R1 c1 L2 R2 c2 L3 R3 c3:R} (h1:L1=R1) (h2:L2=R2) (h3:L3=R3) (e:K.add A (K.neg B)=K.add (K.add (K.mul c1 (K.add L1 (K.neg R1))) (K.mul c2 (K.add L2 (K.neg R2)))) (K.mul c3 (K.add L3 (K.neg R3)))):A=B:=by
 apply mZ (K:=K);rw[e,gL h1,gL h2,gL h3,K.mul_zero,K.mul_zero,K.mul_zero,K.add_zero,K.add_zero]
end
section
variable {R:Type} (K:CR R)
def tl (f:Nat→R):Nat→R:=fun n=>f (n+1)
def tK:Nat→(Nat→R)→(Nat→R)→R
 | 0,f,g=>K.mul (f 0) (g 0)
 | n+1,f,g=>K.add (K.mul (f 0) (g (n+1))) (tK n (tl f) g)
def SK (f g:Nat→R):Nat→R:=fun n=>K.add (f n) (g n)
def fsc (c:R) (f:Nat→R):Nat→R:=fun n=>K.mul c (f n)
def DO (f g:Nat→R):Nat→R:=fun n=>tK K n f g
def aZO (f:Nat→R):Nat→R:=fun n=>K.neg (f n)
def fze:Nat→R:=fun _=>K.zero
def fco (c:R):Nat→R|0=>c|_+1=>K.zero
theorem OI:∀(n:Nat) (f g h:Nat→R),tK K n f (SK K g h)=K.add (tK K n f g) (tK K n f h)
 | 0,f,g,h=>K.mul_add _ _ _
 | n+1,f,g,h=>by
  show K.add (K.mul (f 0) (K.add _ _)) (tK K n (tl f) (SK K g h))=K.add (K.add _ _) (K.add _ _);rw[OI n,K.mul_add,K.add_assoc,K.add_assoc,K.add_left_comm (K.mul (f 0) (h (n+1)))]
theorem OJ:∀(n:Nat) (f g h:Nat→R),tK K n (SK K f g) h=K.add (tK K n f h) (tK K n g h)
 | 0,f,g,h=>K.add_mul _ _ _
 | n+1,f,g,h=>by
  show K.add (K.mul (K.add _ _) (h (n+1))) (tK K n (SK K (tl f) (tl g)) h)=K.add (K.add _ _) (K.add _ _);rw[OJ n,K.add_mul,K.add_assoc,K.add_assoc,K.add_left_comm (K.mul (g 0) (h (n+1)))]
theorem aFn:∀(n:Nat) (c:R) (f g:Nat→R),tK K n (fsc K c f) g=K.mul c (tK K n f g)
 | 0,c,f,g=>K.mul_assoc _ _ _
 | n+1,c,f,g=>by
  show K.add (K.mul (K.mul c (f 0)) _) (tK K n (fsc K c (tl f)) g)=K.mul c (K.add _ _);rw[aFn n,K.mul_add,K.mul_assoc]
theorem SX:∀(n:Nat) (g:Nat→R),tK K n (fze K) g=K.zero
 | 0,g=>K.zero_mul _
 | n+1,g=>by
  show K.add (K.mul K.zero _) (tK K n (fze K) g)=_;rw[SX n,K.zero_mul,K.add_zero]
theorem Kc (c:R) (g:Nat→R):∀n,tK K n (fco K c) g=K.mul c (g n)
 | 0=>rfl
 | n+1=>by
  show K.add (K.mul c _) (tK K n (fze K) g)=_;rw[SX,K.add_zero]
theorem OH:∀(n:Nat) (f g h:Nat→R),tK K n (DO K f g) h=tK K n f (DO K g h)
 | 0,f,g,h=>K.mul_assoc _ _ _
 | n+1,f,g,h=>by
  have e:tl (DO K f g)=SK K (fsc K (f 0) (tl g)) (DO K (tl f) g):=rfl;show K.add (K.mul (K.mul (f 0) (g 0)) (h (n+1))) (tK K n (tl (DO K f g)) h)=K.add (K.mul (f 0) (K.add (K.mul (g 0) (h (n+1))) (tK K n (tl g) h))) (tK K n (tl f) (DO K g h));rw[e,OJ,aFn,OH n,K.mul_add,K.mul_assoc,K.add_assoc]
theorem yY:∀(n:Nat) (f g:Nat→R),tK K n f g=tK K n g f
 | 0,f,g=>K.mul_comm _ _
 | 1,f,g=>by
  show K.add (K.mul (f 0) (g 1)) (K.mul (f 1) (g 0))=K.add (K.mul (g 0) (f 1)) (K.mul (g 1) (f 0));rw[K.add_comm,K.mul_comm (f 1),K.mul_comm (f 0)]
 | n+2,f,g=>by
  show K.add (K.mul (f 0) (g (n+2))) (tK K (n+1) (tl f) g)=K.add (K.mul (g 0) (f (n+2))) (tK K (n+1) (tl g) f);rw[yY (n+1) (tl f) g,yY (n+1) (tl g) f];show K.add (K.mul (f 0) (g (n+2))) (K.add (K.mul (g 0) (f (n+2))) (tK K n (tl g) (tl f)))=K.add (K.mul (g 0) (f (n+2))) (K.add (K.mul (f 0) (g (n+2))) (tK K n (tl f) (tl g)));rw[K.add_left_comm,yY n (tl g) (tl f)]
theorem SY:∀(a b:Nat) (f g:Nat→R),(∀i,a≤i→f i=K.zero)→(∀i,b≤i→g i=K.zero)→∀n,a+b≤n+1→tK K n f g=K.zero
 | 0,b,f,g,hf,hg,n,h=>by
  have:f=fze K:=funext fun i=>hf i (Nat.zero_le _)
  rw[this,SX]
 | a+1,b,f,g,hf,hg,0,h=>by
  show K.mul (f 0) (g 0)=_;rw[hg 0 (by omega),K.mul_zero]
 | a+1,b,f,g,hf,hg,n+1,h=>by
  show K.add (K.mul (f 0) (g (n+1))) (tK K n (tl f) g)=_;rw[hg (n+1) (by omega),K.mul_zero,K.zero_add];exact SY a b (tl f) g (fun i hi=>hf (i+1) (by omega)) hg n (by omega)
def Pol:Type:={f:Nat→R // ∃n,∀i,n≤i→f i=K.zero}
variable {K}
theorem Pol.ext {f g:Pol K} (h:∀n,f.1 n=g.1 n):f=g:=Subtype.ext (funext h)
def aY:CR (Pol K) where
 add f g:=⟨SK K f.1 g.1,by
  obtain⟨a,ha⟩:=f.2; obtain⟨b,hb⟩:=g.2;exact⟨a+b,fun i hi=>by show K.add (f.1 i) (g.1 i)=_; rw[ha i (by omega),hb i (by omega),K.add_zero]⟩⟩
 mul f g:=⟨DO K f.1 g.1,by
  obtain⟨a,ha⟩:=f.2; obtain⟨b,hb⟩:=g.2;exact⟨a+b,fun i hi=>SY K a b f.1 g.1 ha hb i (by omega)⟩⟩
 neg f:=⟨aZO K f.1,by
  obtain⟨a,ha⟩:=f.2;exact⟨a,fun i hi=>by show K.neg (f.1 i)=_; rw[ha i hi,bQ]⟩⟩
 zero:=⟨fze K,0,fun _ _=>rfl⟩
 one:=⟨fco K K.one,1,fun i hi=>by cases i with|zero=>omega|succ i=>rfl⟩
 add_assoc a b c:=Pol.ext fun n=>K.add_assoc _ _ _
 add_comm a b:=Pol.ext fun n=>K.add_comm _ _
 zero_add a:=Pol.ext fun n=>K.zero_add _
 neg_add a:=Pol.ext fun n=>K.neg_add _
 mul_assoc a b c:=Pol.ext fun n=>OH K n _ _ _
 mul_comm a b:=Pol.ext fun n=>yY K n _ _
 one_mul a:=Pol.ext fun n=>by show tK K n (fco K K.one) a.1=_; rw[Kc,K.one_mul]
 mul_add a b c:=Pol.ext fun n=>OI K n _ _ _
def kY (c:R):Pol K:=⟨fco K c,1,fun i hi=>by cases i with|zero=>omega|succ i=>rfl⟩
def pX:Pol K:=⟨fun n=>match n with|1=>K.one|_=>K.zero,2,fun i hi=>by match i,hi with|i+2,_=>rfl⟩
theorem Nc (a b:R):(kY (K.add a b):Pol K)=aY.add (kY a) (kY b):=Pol.ext fun n=>by
 cases n with
 | zero=>rfl
 | succ n=>exact (K.zero_add _).symm
theorem aJi (a:R):(kY (K.neg a):Pol K)=aY.neg (kY a):=Pol.ext fun n=>by
 cases n with
 | zero=>rfl
 | succ n=>exact (bQ K).symm
theorem EB (a b:R):(kY (K.mul a b):Pol K)=aY.mul (kY a) (kY b):=Pol.ext fun n=>by
 show _=tK K n (fco K a) (fco K b);rw[Kc];cases n with
 | zero=>rfl
 | succ n=>exact (K.mul_zero _).symm
def dg (f:Pol K) (n:Nat):Prop:=f.1 n≠K.zero∧∀i,n<i→f.1 i=K.zero
theorem aFe {f:Pol K} {n:Nat} (h:dg f n):f≠aY.zero:=fun e=>h.1 (by rw[e]; rfl)
theorem aFd {f:Pol K} {n m:Nat} (h:dg f n) (g:dg f m):n=m:=by
 rcases Nat.lt_trichotomy n m with q|q|q
 ·exact absurd (h.2 m q) g.1
 ·exact q
 ·exact absurd (g.2 n q) h.1
theorem JL (f:Pol K) (h:f≠aY.zero):∃n,dg f n:=by
 obtain⟨b,hb⟩:=f.2;have:∀b,(∀i,b≤i→f.1 i=K.zero)→∃n,dg f n:=by
  intro b
  induction b with
  | zero=>exact fun hb=>absurd (Pol.ext fun n=>hb n (Nat.zero_le _)) h
  | succ b ih =>
   intro hb
   by_cases h0:f.1 b=K.zero
   ·exact ih fun i hi=>by
     rcases Nat.lt_or_ge b i with q|q
     ·exact hb i q
     ·rw[show i=b by omega,h0]
   ·exact⟨b,h0,hb⟩
 exact this b hb
variable {inv:R→R}
theorem Ru:∀(a b:Nat) (f g:Nat→R),(∀i,a<i→f i=K.zero)→(∀i,b<i→g i=K.zero)→tK K (a+b) f g=K.mul (f a) (g b)
 | 0,b,f,g,hf,hg=>by
  have:f=fco K (f 0):=funext fun i=>by cases i with|zero=>rfl|succ i=>exact hf _ (by omega)
  rw[this,Kc,Nat.zero_add]; rfl
 | a+1,b,f,g,hf,hg=>by
  rw[show a+1+b=(a+b)+1 by omega];show K.add (K.mul (f 0) (g (a+b+1))) (tK K (a+b) (tl f) g)=_;rw[hg (a+b+1) (by omega),K.mul_zero,K.zero_add];exact Ru a b (tl f) g (fun i hi=>hf (i+1) (by omega)) hg
theorem jB (F:FD K inv) {f g:Pol K} {n m:Nat} (hf:dg f n) (hg:dg g m):dg (aY.mul f g) (n+m):=by
 refine⟨?_,fun i hi=>SY K (n+1) (m+1) f.1 g.1 (fun j hj=>hf.2 j hj) (fun j hj=>hg.2 j hj) i (by omega)⟩
 ·show tK K (n+m) f.1 g.1≠_;rw[Ru n m f.1 g.1 hf.2 hg.2];exact F.mul_ne hf.1 hg.1
theorem tJ {f g:Pol K} {n:Nat} (hf:dg f n) (hg:∀i,n≤i→g.1 i=K.zero):dg (aY.add f g) n:=by
 refine⟨?_,fun i hi => ?_⟩
 ·show K.add (f.1 n) (g.1 n)≠_;rw[hg n (Nat.le_refl _),K.add_zero]; exact hf.1
 ·show K.add (f.1 i) (g.1 i)=_;rw[hf.2 i hi,hg i (by omega),K.add_zero]
theorem aPR {a:R} (h:a≠K.zero):K.neg a≠K.zero:=fun e=>h (by rw[←K.neg_neg a,e,bQ])
theorem ST {f:Pol K} {n:Nat} (hf:dg f n):dg (aY.neg f) n :=
 ⟨aPR hf.1,fun i hi=>by show K.neg (f.1 i)=_; rw[hf.2 i hi,bQ]⟩
theorem JK (F:FD K inv) (c:R):dg (aY.sub (pX:Pol K) (kY c)) 1:=by
 refine⟨?_,fun i hi => ?_⟩
 ·show K.add K.one (K.neg K.zero)≠_;rw[bQ,K.add_zero]; exact F.ne
 ·match i,hi with
  | i+2,_=>show K.add K.zero (K.neg K.zero)=_; rw[bQ,K.add_zero]
def qP (c:R):Pol K:=aY.add (aY.mul pX (aY.mul pX pX)) (kY c)
theorem aRz (F:FD K inv):dg (pX:Pol K) 1:=⟨F.ne,fun i hi=>by match i,hi with|i+2,_=>rfl⟩
theorem aMO (F:FD K inv) (c:R):dg (qP c:Pol K) 3 :=
 tJ (jB F (aRz F) (jB F (aRz F) (aRz F))) fun i hi=>by match i,hi with|i+1,_=>rfl
theorem NU (F:FD K inv) {c k:R} {h:Pol K} (e:aY.mul (aY.sub (pX:Pol K) (kY c)) h=kY k):k=K.zero:=by
 by_cases h0:h=aY.zero
 ·rw[h0,aY.mul_zero]at e;exact (congrArg (fun p:Pol K=>p.1 0) e).symm
 ·obtain⟨n,hn⟩:=JL h h0;have:=jB F (JK F c) hn;rw[e]at this;exact absurd (by rw[Nat.add_comm]; rfl) this.1
end
section
variable {A:Type} {K:CR A}
theorem aFm {M N L1 R1 c1 L2 R2 c2 L3 R3 c3 L4 R4 c4:A} (h1:L1=R1) (h2:L2=R2) (h3:L3=R3) (h4:L4=R4) (e:K.add M (K.neg N)=K.add (K.add (K.add (K.mul c1 (K.add L1 (K.neg R1))) (K.mul c2 (K.add L2 (K.neg R2)))) (K.mul c3 (K.add L3 (K.neg R3)))) (K.mul c4 (K.add L4 (K.neg R4)))):M=N:=by
 apply mZ (K:=K);rw[e,gL h1,gL h2,gL h3,gL h4,K.mul_zero,K.mul_zero,K.mul_zero,K.mul_zero,K.add_zero,K.add_zero,K.add_zero]
def op (K:CR A) (X Y x y:A) (S:A→Prop):A→Prop:=fun z=>∃s t,S s∧S t∧z=K.add (K.mul (K.sub X x) s) (K.mul (K.sub Y y) t)
structure Idl (K:CR A) (S:A→Prop):Prop where
 add:∀a b,S a→S b→S (K.add a b)
 mul:∀a c,S a→S (K.mul c a)
theorem Idl.neg {S:A→Prop} (h:Idl K S) {a:A} (ha:S a):S (K.neg a):=by
 have:=h.mul a (K.neg K.one) ha
 rwa [K.neg_mul,K.one_mul]at this
theorem Idl.sub {S:A→Prop} (h:Idl K S) {a b:A} (ha:S a) (hb:S b):S (K.sub a b):=h.add _ _ ha (h.neg hb)
def Eqv (K:CR A) (S T:A→Prop):Prop:=∃a b,a≠K.zero∧b≠K.zero∧(∀s,S s→∃t,T t∧K.mul a s=K.mul b t)∧(∀t,T t→∃s,S s∧K.mul a s=K.mul b t)
def Dom (K:CR A):Prop:=K.one≠K.zero∧∀a b,a≠K.zero→b≠K.zero→K.mul a b≠K.zero
theorem Eqv.refl (D:Dom K) (S:A→Prop):Eqv K S S:=⟨K.one,K.one,D.1,D.1,fun s h=>⟨s,h,rfl⟩,fun s h=>⟨s,h,rfl⟩⟩
theorem Eqv.symm {S T:A→Prop} (h:Eqv K S T):Eqv K T S:=by
 obtain⟨a,b,ha,hb,h1,h2⟩:=h;exact⟨b,a,hb,ha,fun t ht=>by obtain⟨s,hs,e⟩:=h2 t ht; exact⟨s,hs,e.symm⟩,fun s hs=>by obtain⟨t,ht,e⟩:=h1 s hs; exact⟨t,ht,e.symm⟩⟩
theorem Eqv.trans (D:Dom K) {S T U:A→Prop} (h:Eqv K S T) (g:Eqv K T U):Eqv K S U:=by
 obtain⟨a,b,ha,hb,h1,h2⟩:=h;obtain⟨c,d,hc,hd,g1,g2⟩:=g;have key:∀s t u,K.mul a s=K.mul b t→K.mul c t=K.mul d u→K.mul (K.mul c a) s=K.mul (K.mul b d) u:=fun s t u e f=>by
  rw[K.mul_assoc,e,K.mul_left_comm,f,K.mul_assoc]
 refine⟨K.mul c a,K.mul b d,D.2 _ _ hc ha,D.2 _ _ hb hd,fun s hs => ?_,fun u hu => ?_⟩
 ·obtain⟨t,ht,e⟩:=h1 s hs;obtain⟨u,hu,f⟩:=g1 t ht;exact⟨u,hu,key s t u e f⟩
 ·obtain⟨t,ht,f⟩:=g2 u hu;obtain⟨s,hs,e⟩:=h2 t ht;exact⟨s,hs,key s t u e f⟩
variable {X Y:A}
theorem yC {x y al be s s2 t t2:A} (e:K.mul al s=K.mul be t) (f:K.mul al s2=K.mul be t2):K.mul al (K.add (K.mul (K.sub X x) s) (K.mul (K.sub Y y) s2))=K.mul be (K.add (K.mul (K.sub X x) t) (K.mul (K.sub Y y) t2)) :=
 kH (K:=K) (c1:=(K.sub X x)) (c2:=(K.sub Y y)) e f (aE K (aW K [al,X,x,s,Y,y,s2,be,t,t2]) (Z0*((Z1-Z2)*Z3+(Z4-Z5)*Z6)-Z7*((Z1-Z2)*Z8+(Z4-Z5)*Z9)) ((Z1-Z2)*(Z0*Z3-Z7*Z8)+(Z4-Z5)*(Z0*Z6-Z7*Z9)) (by kernel_rfl))
theorem Eqv.op {S T:A→Prop} (x y:A) (h:Eqv K S T):Eqv K (op K X Y x y S) (op K X Y x y T):=by
 obtain⟨a,b,ha,hb,h1,h2⟩:=h;refine⟨a,b,ha,hb,?_,?_⟩
 ·rintro z ⟨s,s2,hs,hs2,rfl⟩
  obtain⟨t,ht,e⟩:=h1 s hs;obtain⟨t2,ht2,f⟩:=h1 s2 hs2;exact⟨_,⟨t,t2,ht,ht2,rfl⟩,yC e f⟩
 ·rintro z ⟨t,t2,ht,ht2,rfl⟩
  obtain⟨s,hs,e⟩:=h2 t ht;obtain⟨s2,hs2,f⟩:=h2 t2 ht2;exact⟨_,⟨s,s2,hs,hs2,rfl⟩,yC e f⟩
theorem ZX {S:A→Prop} (x y x' y':A) {z:A} (h:op K X Y x y (op K X Y x' y' S) z):op K X Y x' y' (op K X Y x y S) z:=by
 obtain⟨_,_,⟨a,bb,ha,hb,rfl⟩,⟨c,d,hc,hd,rfl⟩,rfl⟩:=h;exact⟨_,_,⟨a,c,ha,hc,rfl⟩,⟨bb,d,hb,hd,rfl⟩,aE K (aW K [X,x,x',a,Y,y',bb,y,c,d]) ((Z0-Z1)*((Z0-Z2)*Z3+(Z4-Z5)*Z6)+(Z4-Z7)*((Z0-Z2)*Z8+(Z4-Z5)*Z9)) ((Z0-Z2)*((Z0-Z1)*Z3+(Z4-Z7)*Z8)+(Z4-Z5)*((Z0-Z1)*Z6+(Z4-Z7)*Z9)) (by kernel_rfl)⟩
theorem aJm {S:A→Prop} (x y x' y':A):op K X Y x y (op K X Y x' y' S)=op K X Y x' y' (op K X Y x y S) :=
 funext fun z=>propext ⟨ZX x y x' y',ZX x' y' x y⟩
theorem aCk {S:A→Prop} (h:Idl K S) (x y:A):Idl K (op K X Y x y S) where
 add:=by
  rintro _ _ ⟨a,b,ha,hb,rfl⟩ ⟨c,d,hc,hd,rfl⟩
  exact⟨_,_,h.add a c ha hc,h.add b d hb hd,aE K (aW K [X,x,a,Y,y,b,c,d]) ((Z0-Z1)*Z2+(Z3-Z4)*Z5+((Z0-Z1)*Z6+(Z3-Z4)*Z7)) ((Z0-Z1)*(Z2+Z6)+(Z3-Z4)*(Z5+Z7)) (by kernel_rfl)⟩
 mul:=by
  rintro _ c ⟨a,b,ha,hb,rfl⟩
  exact⟨_,_,h.mul a c ha,h.mul b c hb,aE K (aW K [c,X,x,a,Y,y,b]) (Z0*((Z1-Z2)*Z3+(Z4-Z5)*Z6)) ((Z1-Z2)*(Z0*Z3)+(Z4-Z5)*(Z0*Z6)) (by kernel_rfl)⟩
theorem aPv {b x y k:A} (hY:K.mul Y Y=K.add (K.mul X (K.mul X X)) b) (hy:K.mul y y=K.add (K.mul x (K.mul x x)) b) (hk:K.mul k (K.add y y)=K.one) (D:Dom K) (hX:K.sub X x≠K.zero) {S:A→Prop} (h:Idl K S):Eqv K (op K X Y x y (op K X Y x (K.neg y) S)) S:=by
 refine⟨K.one,K.sub X x,D.1,hX,?_,?_⟩
 ·rintro _ ⟨_,_,⟨a,bb,ha,hb,rfl⟩,⟨c,d,hc,hd,rfl⟩,rfl⟩
  refine⟨(K.add (K.add (K.add (K.mul (K.sub X x) a) (K.mul (K.sub Y (K.neg y)) bb)) (K.mul (K.sub Y y) c)) (K.mul (K.add (K.add (K.mul X X) (K.mul x X)) (K.mul x x)) d)),h.add _ _ (h.add _ _ (h.add _ _ (h.mul _ _ ha) (h.mul _ _ hb)) (h.mul _ _ hc)) (h.mul _ _ hd),?_⟩;rw[K.one_mul];exact kH (K:=K) (c1:=d) (c2:=(K.neg d)) hY hy (aE K (aW K [X,x,a,Y,y,bb,c,d,b]) ((Z0-Z1)*((Z0-Z1)*Z2+(Z3-(-Z4))*Z5)+(Z3-Z4)*((Z0-Z1)*Z6+(Z3-(-Z4))*Z7)-(Z0-Z1)*((Z0-Z1)*Z2+(Z3-(-Z4))*Z5+(Z3-Z4)*Z6+(Z0*Z0+Z1*Z0+Z1*Z1)*Z7)) (Z7*(Z3*Z3-(Z0*(Z0*Z0)+Z8))+(-Z7)*(Z4*Z4-(Z1*(Z1*Z1)+Z8))) (by kernel_rfl))
 ·intro t ht;refine⟨_,⟨_,_,⟨_,_,h.mul t K.zero ht,h.mul t k ht,rfl⟩,⟨_,_,h.mul t (K.neg k) ht,h.mul t K.zero ht,rfl⟩,rfl⟩,?_⟩;rw[K.one_mul];exact iJ (K:=K) (c1:=(K.mul (K.sub X x) t)) hk (aE K (aW K [X,x,t,Y,y,k]) ((Z0-Z1)*((Z0-Z1)*(RE.zero*Z2)+(Z3-(-Z4))*(Z5*Z2))+(Z3-Z4)*((Z0-Z1)*((-Z5)*Z2)+(Z3-(-Z4))*(RE.zero*Z2))-(Z0-Z1)*Z2) ((Z0-Z1)*Z2*(Z5*(Z4+Z4)-RE.one)) (by kernel_rfl))
theorem NT {b x1 y1 x2 l:A} (hY:K.mul Y Y=K.add (K.mul X (K.mul X X)) b) (H2:(K.mul l (K.add y1 (K.add y1 (K.mul l (K.sub x2 x1)))))=(K.add (K.add (K.mul x1 x1) (K.mul x1 x2)) (K.mul x2 x2))) (H3:(K.mul y1 y1)=(K.add (K.mul x1 (K.mul x1 x1)) b)):(K.mul (K.sub X x1) (K.mul (K.sub X x2) (K.sub X (K.sub (K.sub (K.mul l l) x1) x2))))=(K.mul (K.sub (K.sub Y y1) (K.mul l (K.sub X x1))) (K.add (K.sub Y (K.sub (K.mul l (K.sub x1 (K.sub (K.sub (K.mul l l) x1) x2))) y1)) (K.mul l (K.sub X (K.sub (K.sub (K.mul l l) x1) x2))))) :=
 Co (K:=K) (c1:=(K.neg K.one)) (c2:=K.one) (c3:=(K.sub X x1)) hY H3 H2 (aE K (aW K [X,x1,x2,l,Y,y1,b]) ((Z0-Z1)*((Z0-Z2)*(Z0-(Z3*Z3-Z1-Z2)))-(Z4-Z5-Z3*(Z0-Z1))*(Z4-(Z3*(Z1-(Z3*Z3-Z1-Z2))-Z5)+Z3*(Z0-(Z3*Z3-Z1-Z2)))) ((-RE.one)*(Z4*Z4-(Z0*(Z0*Z0)+Z6))+RE.one*(Z5*Z5-(Z1*(Z1*Z1)+Z6))+(Z0-Z1)*(Z3*(Z5+(Z5+Z3*(Z2-Z1)))-(Z1*Z1+Z1*Z2+Z2*Z2))) (by kernel_rfl))
theorem aPu {b x1 y1 x2 l:A} (hY:K.mul Y Y=K.add (K.mul X (K.mul X X)) b) (H2:(K.mul l (K.add y1 (K.add y1 (K.mul l (K.sub x2 x1)))))=(K.add (K.add (K.mul x1 x1) (K.mul x1 x2)) (K.mul x2 x2))) (H3:(K.mul y1 y1)=(K.add (K.mul x1 (K.mul x1 x1)) b)) (hk:(∃k,K.mul k (K.add y1 (K.add y1 (K.mul l (K.sub x2 x1))))=K.one)∨(∃k,K.mul k (K.sub x2 x1)=K.one)) (hX:K.sub X (K.sub (K.sub (K.mul l l) x1) x2)≠K.zero) (hl:(K.sub (K.sub Y y1) (K.mul l (K.sub X x1)))≠K.zero) {S:A→Prop} (h:Idl K S):Eqv K (op K X Y x1 y1 (op K X Y x2 (K.add y1 (K.mul l (K.sub x2 x1))) S)) (op K X Y (K.sub (K.sub (K.mul l l) x1) x2) (K.sub (K.mul l (K.sub x1 (K.sub (K.sub (K.mul l l) x1) x2))) y1) S):=by
 have HC:=NT (X:=X) (Y:=Y) hY H2 H3;refine⟨K.sub X (K.sub (K.sub (K.mul l l) x1) x2),(K.sub (K.sub Y y1) (K.mul l (K.sub X x1))),hX,hl,?_,?_⟩
 ·rintro _ ⟨_,_,⟨a,bb,ha,hb,rfl⟩,⟨c,d,hc,hd,rfl⟩,rfl⟩
  exact⟨_,⟨(K.add (K.add (K.add (K.mul l a) (K.mul (K.add (K.sub X x1) (K.mul l l)) bb)) (K.mul (K.add (K.sub X x2) (K.mul l l)) c)) (K.mul (K.add (K.add (K.add (K.sub (K.sub Y y1) (K.mul l (K.sub X x1))) (K.mul l (K.sub X x1))) (K.mul l (K.sub X x2))) (K.mul l (K.mul l l))) d)),(K.add (K.add (K.add a (K.mul l bb)) (K.mul l c)) (K.mul (K.mul l l) d)),h.add _ _ (h.add _ _ (h.add _ _ (h.mul _ _ ha) (h.mul _ _ hb)) (h.mul _ _ hc)) (h.mul _ _ hd),h.add _ _ (h.add _ _ (h.add _ _ ha (h.mul _ _ hb)) (h.mul _ _ hc)) (h.mul _ _ hd),rfl⟩,iJ (K:=K) (c1:=(K.add (K.add (K.add a (K.mul l bb)) (K.mul l c)) (K.mul (K.mul l l) d))) HC (aE K (aW K [X,l,x1,x2,a,Y,y1,bb,c,d]) ((Z0-(Z1*Z1-Z2-Z3))*((Z0-Z2)*((Z0-Z3)*Z4+(Z5-(Z6+Z1*(Z3-Z2)))*Z7)+(Z5-Z6)*((Z0-Z3)*Z8+(Z5-(Z6+Z1*(Z3-Z2)))*Z9))-(Z5-Z6-Z1*(Z0-Z2))*((Z0-(Z1*Z1-Z2-Z3))*(Z1*Z4+(Z0-Z2+Z1*Z1)*Z7+(Z0-Z3+Z1*Z1)*Z8+(Z5-Z6-Z1*(Z0-Z2)+Z1*(Z0-Z2)+Z1*(Z0-Z3)+Z1*(Z1*Z1))*Z9)+(Z5-(Z1*(Z2-(Z1*Z1-Z2-Z3))-Z6))*(Z4+Z1*Z7+Z1*Z8+Z1*Z1*Z9))) ((Z4+Z1*Z7+Z1*Z8+Z1*Z1*Z9)*((Z0-Z2)*((Z0-Z3)*(Z0-(Z1*Z1-Z2-Z3)))-(Z5-Z6-Z1*(Z0-Z2))*(Z5-(Z1*(Z2-(Z1*Z1-Z2-Z3))-Z6)+Z1*(Z0-(Z1*Z1-Z2-Z3))))) (by kernel_rfl))⟩
 ·rintro _ ⟨u,w,hu,hw,rfl⟩
  have hg:S (K.sub u (K.mul l w)):=h.sub hu (h.mul _ _ hw);have e0:K.mul (K.sub (K.sub Y y1) (K.mul l (K.sub X x1))) (K.add (K.mul (K.sub X (K.sub (K.sub (K.mul l l) x1) x2)) u) (K.mul (K.sub Y (K.sub (K.mul l (K.sub x1 (K.sub (K.sub (K.mul l l) x1) x2))) y1)) w))=K.mul (K.sub X (K.sub (K.sub (K.mul l l) x1) x2)) (K.add (K.mul (K.sub (K.sub Y y1) (K.mul l (K.sub X x1))) (K.sub u (K.mul l w))) (K.mul (K.sub X x1) (K.mul (K.sub X x2) w))) :=
   iJ (K:=K) (c1:=(K.neg w)) HC (aE K (aW K [Y,y1,l,X,x1,x2,u,w]) ((Z0-Z1-Z2*(Z3-Z4))*((Z3-(Z2*Z2-Z4-Z5))*Z6+(Z0-(Z2*(Z4-(Z2*Z2-Z4-Z5))-Z1))*Z7)-(Z3-(Z2*Z2-Z4-Z5))*((Z0-Z1-Z2*(Z3-Z4))*(Z6-Z2*Z7)+(Z3-Z4)*((Z3-Z5)*Z7))) ((-Z7)*((Z3-Z4)*((Z3-Z5)*(Z3-(Z2*Z2-Z4-Z5)))-(Z0-Z1-Z2*(Z3-Z4))*(Z0-(Z2*(Z4-(Z2*Z2-Z4-Z5))-Z1)+Z2*(Z3-(Z2*Z2-Z4-Z5))))) (by kernel_rfl))
  generalize hge:(K.sub u (K.mul l w))=g at hg e0;rw[e0]
  rcases hk with⟨k,hk⟩|⟨k,hk⟩
  ·refine⟨_,⟨_,_,⟨_,_,h.add _ _ (h.mul g (K.mul k (K.add (K.add X x1) x2)) hg) hw,h.mul g K.zero hg,rfl⟩,⟨_,_,h.mul g K.zero hg,h.mul g (K.neg k) hg,rfl⟩,rfl⟩,congrArg (K.mul _) ?_⟩;exact aFm (K:=K) (c1:=(K.mul (K.sub (K.sub Y y1) (K.mul l (K.sub X x1))) g)) (c2:=(K.neg (K.mul k g))) (c3:=(K.mul k g)) (c4:=(K.mul (K.mul k g) (K.sub X x1))) hk hY H3 H2 (aE K (aW K [X,x1,x2,k,g,w,Y,y1,l,b]) ((Z0-Z1)*((Z0-Z2)*(Z3*(Z0+Z1+Z2)*Z4+Z5)+(Z6-(Z7+Z8*(Z2-Z1)))*(RE.zero*Z4))+(Z6-Z7)*((Z0-Z2)*(RE.zero*Z4)+(Z6-(Z7+Z8*(Z2-Z1)))*((-Z3)*Z4))-((Z6-Z7-Z8*(Z0-Z1))*Z4+(Z0-Z1)*((Z0-Z2)*Z5))) ((Z6-Z7-Z8*(Z0-Z1))*Z4*(Z3*(Z7+(Z7+Z8*(Z2-Z1)))-RE.one)+(-(Z3*Z4))*(Z6*Z6-(Z0*(Z0*Z0)+Z9))+Z3*Z4*(Z7*Z7-(Z1*(Z1*Z1)+Z9))+Z3*Z4*(Z0-Z1)*(Z8*(Z7+(Z7+Z8*(Z2-Z1)))-(Z1*Z1+Z1*Z2+Z2*Z2))) (by kernel_rfl))
  ·refine⟨_,⟨_,_,⟨_,_,hw,h.mul g k hg,rfl⟩,⟨_,_,h.mul g (K.neg k) hg,h.mul g K.zero hg,rfl⟩,rfl⟩,congrArg (K.mul _) ?_⟩;exact iJ (K:=K) (c1:=(K.mul (K.sub (K.sub Y y1) (K.mul l (K.sub X x1))) g)) hk (aE K (aW K [X,x1,x2,w,Y,y1,l,k,g]) ((Z0-Z1)*((Z0-Z2)*Z3+(Z4-(Z5+Z6*(Z2-Z1)))*(Z7*Z8))+(Z4-Z5)*((Z0-Z2)*((-Z7)*Z8)+(Z4-(Z5+Z6*(Z2-Z1)))*(RE.zero*Z8))-((Z4-Z5-Z6*(Z0-Z1))*Z8+(Z0-Z1)*((Z0-Z2)*Z3))) ((Z4-Z5-Z6*(Z0-Z1))*Z8*(Z7*(Z2-Z1)-RE.one)) (by kernel_rfl))
end
open Classical
section
variable {R:Type} {K:CR R} {inv:R→R}
def cI (K:CR R) (b:R):CR (Pol K×Pol K):=(aY (K:=K)).sq (qP b)
def cX:Pol K×Pol K:=(pX,aY.zero)
def cY:Pol K×Pol K:=(aY.zero,aY.one)
def cc (k:R):Pol K×Pol K:=(kY k,aY.zero)
variable (b:R)
theorem jD (x y:R):(cc (K.add x y):Pol K×Pol K)=(cI K b).add (cc x) (cc y):=Prod.ext (Nc x y) (aY.zero_add _).symm
theorem Ke (x:R):(cc (K.neg x):Pol K×Pol K)=(cI K b).neg (cc x):=Prod.ext (aJi x) (bQ aY).symm
theorem oY (x y:R):(cc (K.sub x y):Pol K×Pol K)=(cI K b).sub (cc x) (cc y):=by
 show cc (K.add _ _)=(cI K b).add _ _;rw[jD b,Ke b]
theorem gO (x y:R):(cc (K.mul x y):Pol K×Pol K)=(cI K b).mul (cc x) (cc y):=by
 refine Prod.ext ?_ ?_
 ·show kY (K.mul x y)=aY.add (aY.mul (kY x) (kY y)) (aY.mul (qP b) (aY.mul aY.zero aY.zero));rw[aY.mul_zero,aY.mul_zero,aY.add_zero,EB]
 ·show aY.zero=aY.add (aY.mul (kY x) aY.zero) (aY.mul aY.zero (kY y));rw[aY.mul_zero,aY.zero_mul,aY.add_zero]
theorem TD:(cc K.one:Pol K×Pol K)=(cI K b).one:=rfl
theorem aLb:(cI K b).mul cY cY=(cI K b).add ((cI K b).mul cX ((cI K b).mul cX cX)) (cc b):=by
 refine Prod.ext ?_ ?_
 ·show aY.add (aY.mul aY.zero aY.zero) (aY.mul (qP b) (aY.mul aY.one aY.one))=aY.add (aY.add (aY.mul pX (aY.add (aY.mul pX pX) (aY.mul (qP b) (aY.mul aY.zero aY.zero)))) (aY.mul (qP b) (aY.mul aY.zero (aY.add (aY.mul pX aY.zero) (aY.mul aY.zero pX))))) (kY b);simp only[aY.mul_zero,aY.zero_mul,aY.add_zero,aY.zero_add,aY.mul_one];rfl
 ·show aY.add (aY.mul aY.zero aY.one) (aY.mul aY.one aY.zero)=aY.add (aY.add (aY.mul pX (aY.add (aY.mul pX aY.zero) (aY.mul aY.zero pX))) (aY.mul aY.zero (aY.add (aY.mul pX pX) (aY.mul (qP b) (aY.mul aY.zero aY.zero))))) aY.zero;simp only[aY.mul_zero,aY.zero_mul,aY.add_zero,aY.zero_add,aY.mul_one]
def nrm (f:Pol K×Pol K):Pol K:=aY.sub (aY.mul f.1 f.1) (aY.mul (qP b) (aY.mul f.2 f.2))
theorem RJ (f g:Pol K×Pol K):nrm b ((cI K b).mul f g)=aY.mul (nrm b f) (nrm b g) :=
 aE aY (aW aY [f.1,g.1,qP b,f.2,g.2]) ((Z0*Z1+Z2*(Z3*Z4))*(Z0*Z1+Z2*(Z3*Z4))-Z2*((Z0*Z4+Z3*Z1)*(Z0*Z4+Z3*Z1))) ((Z0*Z0-Z2*(Z3*Z3))*(Z1*Z1-Z2*(Z4*Z4))) (by kernel_rfl)
theorem RK (F:FD K inv) (f:Pol K×Pol K) (h:f≠(cI K b).zero):∃d,dg (nrm b f) d∧d≠1:=by
 have hq:dg (qP b:Pol K) 3:=aMO F b
 by_cases h2:f.2=aY.zero
 ·have h1:f.1≠aY.zero:=fun e=>h (Prod.ext e h2)
  obtain⟨n,hn⟩:=JL _ h1;refine⟨n+n,?_,by omega⟩;unfold nrm;rw[h2,aY.mul_zero,aY.mul_zero];show dg (aY.add _ (aY.neg aY.zero)) _;rw[bQ,aY.add_zero];exact jB F hn hn
 ·obtain⟨m,hm⟩:=JL _ h2;have hr:=jB F hq (jB F hm hm)
  by_cases h1:f.1=aY.zero
  ·refine⟨3+(m+m),?_,by omega⟩;unfold nrm;rw[h1,aY.mul_zero];show dg (aY.add _ _) _;rw[aY.zero_add];exact ST hr
  ·obtain⟨n,hn⟩:=JL _ h1;have hl:=jB F hn hn;have hr':=ST hr
   rcases Nat.lt_or_ge (n+n) (3+(m+m))with q|q
   ·refine⟨3+(m+m),?_,by omega⟩;show dg (aY.add _ _) _;rw[aY.add_comm];exact tJ hr' fun i hi=>hl.2 i (by omega)
   ·refine⟨n+n,?_,by omega⟩;exact tJ hl fun i hi=>hr'.2 i (by omega)
theorem kB (F:FD K inv):Dom (cI K b):=by
 refine⟨fun e=>F.ne (congrArg (fun z:Pol K×Pol K=>z.1.1 0) e),fun f g hf hg e => ?_⟩;obtain⟨n,hn,_⟩:=RK b F f hf;obtain⟨m,hm,_⟩:=RK b F g hg;have h:=aFe (jB F hn hm);rw[←RJ,e]at h;refine h ?_;show aY.sub (aY.mul aY.zero aY.zero) (aY.mul (qP b) (aY.mul aY.zero aY.zero))=_;rw[aY.mul_zero,aY.mul_zero];exact aY.add_neg _
theorem nP {A:Type} {C:CR A} (D:Dom C) {a s t:A} (ha:a≠C.zero) (e:C.mul a s=C.mul a t):s=t:=by
 apply mZ (K:=C)
 by_cases h:C.add s (C.neg t)=C.zero
 ·exact h
 ·exact absurd (by rw[C.mul_add,C.mul_neg,e,C.add_neg]) (D.2 _ _ ha h)
def UY {A:Type}:A→Prop:=fun _=>True
theorem lD {A:Type} (C:CR A):Idl C UY:=⟨fun _ _ _ _=>trivial,fun _ _ _=>trivial⟩
theorem Cn (f:Pol K×Pol K):(cI K b).mul f (f.1,aY.neg f.2)=(nrm b f,aY.zero):=by
 refine Prod.ext ?_ ?_
 ·exact aE aY (aW aY [f.1,qP b,f.2]) (Z0*Z0+Z1*(Z2*(-Z2))) (Z0*Z0-Z1*(Z2*Z2)) (by kernel_rfl)
 ·exact aE aY (aW aY [f.1,f.2]) (Z0*(-Z1)+Z1*Z0) .zero (by kernel_rfl)
theorem aBv {x y:R} (h:K.mul y y=K.add (K.mul x (K.mul x x)) b):(qP b:Pol K)=aY.add (aY.mul (kY y) (kY y)) (aY.mul (aY.sub pX (kY x)) (aY.add (aY.mul pX pX) (aY.add (aY.mul (kY x) pX) (aY.mul (kY x) (kY x))))):=by
 have e:aY.mul (kY y) (kY y)=aY.add (aY.mul (kY x) (aY.mul (kY x) (kY x))) (kY b:Pol K):=by
  rw[←EB,←EB,←EB,←Nc,h]
 rw[e];exact aE aY (aW aY [pX,kY b,kY x]) (Z0*(Z0*Z0)+Z1) (Z2*(Z2*Z2)+Z1+(Z0-Z2)*(Z0*Z0+(Z2*Z0+Z2*Z2))) (by kernel_rfl)
theorem aUD (F:FD K inv) {x y:R} (h:K.mul y y=K.add (K.mul x (K.mul x x)) b):¬Eqv (cI K b) (op (cI K b) cX cY (cc x) (cc y) UY) UY:=by
 rintro⟨a,e,ha,he,h1,h2⟩
 have D:=kB (K:=K) b F;obtain⟨f,hf,e1⟩:=h2 (cI K b).one trivial;rw[(cI K b).mul_one]at e1;have hm:∀g,op (cI K b) cX cY (cc x) (cc y) UY g→∃t,g=(cI K b).mul f t:=fun g hg=>by
  obtain⟨t,_,e2⟩:=h1 g hg;rw[←e1,(cI K b).mul_assoc]at e2;exact⟨t,nP D ha e2⟩
 have sz:∀z:Pol K×Pol K,(cI K b).sub z (cI K b).zero=z:=fun z=>by
  show (cI K b).add z ((cI K b).neg _)=z;rw[bQ,(cI K b).add_zero]
 obtain⟨t,ht⟩:=hm ((cI K b).sub cX (cc x)) ⟨(cI K b).one,(cI K b).zero,trivial,trivial,by rw[(cI K b).mul_one,(cI K b).mul_zero,(cI K b).add_zero]⟩;obtain⟨t',ht'⟩:=hm ((cI K b).sub cY (cc y)) ⟨(cI K b).zero,(cI K b).one,trivial,trivial,by rw[(cI K b).mul_one,(cI K b).mul_zero,(cI K b).zero_add]⟩;have hX:(cI K b).sub cX (cc x)=(aY.sub pX (kY x),aY.zero):=Prod.ext rfl (by show aY.add aY.zero (aY.neg aY.zero)=_; rw[bQ,aY.add_zero]);have hXn:(cI K b).sub cX (cc x)≠(cI K b).zero:=fun q=>aFe (JK (K:=K) F x) (congrArg Prod.fst q)
 have hf0:f≠(cI K b).zero:=fun q=>hXn (by rw[ht,q,(cI K b).zero_mul])
 have ht0:t≠(cI K b).zero:=fun q=>hXn (by rw[ht,q,(cI K b).mul_zero])
 obtain⟨n,hn,n1⟩:=RK b F f hf0;obtain⟨m,hm',m1⟩:=RK b F t ht0;have hnm:n+m=2:=by
  have e3:=jB F hn hm';rw[←RJ,←ht,hX]at e3;have e4:nrm b (aY.sub pX (kY x),aY.zero)=aY.mul (aY.sub pX (kY x)) (aY.sub (pX:Pol K) (kY x)):=by
   show aY.add (aY.mul _ _) (aY.neg (aY.mul _ (aY.mul aY.zero aY.zero)))=_;rw[aY.mul_zero,aY.mul_zero,bQ,aY.add_zero]
  rw[e4]at e3;exact aFd e3 (jB F (JK F x) (JK F x))
 have hc:∀p:Pol K,dg p 0→p=kY (p.1 0):=fun p hp=>Pol.ext fun i=>by
  cases i with
  | zero=>rfl
  | succ i=>exact hp.2 _ (by omega)
 have h02:n=0∨m=0:=by omega
 rcases h02 with q0|q0
 ·subst q0;obtain⟨s,r,_,_,e5⟩:=(aCk (lD (cI K b)) (cc x) (cc y)).mul f (f.1,aY.neg f.2) hf;rw[(cI K b).mul_comm,Cn,hX]at e5;have c1:nrm b f=aY.add (aY.add (aY.mul (aY.sub pX (kY x)) s.1) (aY.mul (qP b) (aY.mul aY.zero s.2))) (aY.add (aY.mul (aY.add aY.zero (aY.neg (kY y))) r.1) (aY.mul (qP b) (aY.mul (aY.add aY.one (aY.neg aY.zero)) r.2))):=congrArg Prod.fst e5;have c2:aY.zero=aY.add (aY.add (aY.mul (aY.sub pX (kY x)) s.2) (aY.mul aY.zero s.1)) (aY.add (aY.mul (aY.add aY.zero (aY.neg (kY y))) r.2) (aY.mul (aY.add aY.one (aY.neg aY.zero)) r.1)):=congrArg Prod.snd e5;have hs:=aBv b h;refine hn.1 (NU F (c:=x) (h:=(aY.add s.1 (aY.add (aY.mul (aY.add (aY.mul pX pX) (aY.add (aY.mul (kY x) pX) (aY.mul (kY x) (kY x)))) r.2) (aY.mul (kY y) s.2)))) ?_);rw[←hc _ hn,c1];refine Eq.symm ?_;exact kH (K:=aY) (c1:=(kY y)) (c2:=r.2) c2 hs (aE aY (aW aY [pX,kY x,s.1,qP b,s.2,kY y,r.1,r.2]) ((Z0-Z1)*Z2+Z3*(RE.zero*Z4)+((RE.zero-Z5)*Z6+Z3*((RE.one-RE.zero)*Z7))-(Z0-Z1)*(Z2+((Z0*Z0+(Z1*Z0+Z1*Z1))*Z7+Z5*Z4))) (Z5*(RE.zero-((Z0-Z1)*Z4+RE.zero*Z2+((RE.zero-Z5)*Z7+(RE.one-RE.zero)*Z6)))+Z7*(Z3-(Z5*Z5+(Z0-Z1)*(Z0*Z0+(Z1*Z0+Z1*Z1))))) (by kernel_rfl))
 ·subst q0;have e6:(cI K b).mul ((cI K b).sub cX (cc x)) ((cI K b).mul t' (t.1,aY.neg t.2))=(cI K b).mul ((cI K b).sub cY (cc y)) (nrm b t,aY.zero):=by
   rw[←Cn,ht,ht'];generalize ((t.1,aY.neg t.2):Pol K×Pol K)=w;exact aE (cI K b) (aW (cI K b) [f,t,t',w]) (Z0*Z1*(Z2*Z3)) (Z0*Z2*(Z1*Z3)) (by kernel_rfl)
  rw[hX]at e6;generalize (cI K b).mul t' (t.1,aY.neg t.2)=w at e6;have c2:aY.add (aY.mul (aY.sub pX (kY x)) w.2) (aY.mul aY.zero w.1)=aY.add (aY.mul (aY.add aY.zero (aY.neg (kY y))) aY.zero) (aY.mul (aY.add aY.one (aY.neg aY.zero)) (nrm b t)):=congrArg Prod.snd e6;rw[aY.zero_mul,aY.add_zero,aY.mul_zero,aY.zero_add,bQ,aY.add_zero,aY.one_mul,hc _ hm']at c2;exact hm'.1 (NU F c2)
end
structure EC {R:Type} (K:CR R) (inv:R→R) (b:R):Prop where
 F:FD K inv
 two:K.add K.one K.one≠K.zero
 odd:∀x,K.add (K.mul x (K.mul x x)) b≠K.zero
section
variable {R:Type} (K:CR R) (inv:R→R) (b:R)
abbrev Pt (R:Type):=Option (R×R)
def On:Pt R→Prop
 | none=>True
 | some p=>K.mul p.2 p.2=K.add (K.mul p.1 (K.mul p.1 p.1)) b
def MG:Pt R→Pt R
 | none=>none
 | some p=>some (p.1,K.neg p.2)
def dN (x1 y1 x2 y2:R):R :=
 if x1=x2 then K.mul (K.add (K.add (K.mul x1 x1) (K.mul x1 x1)) (K.mul x1 x1)) (inv (K.add y1 y2))else K.mul (K.sub y2 y1) (inv (K.sub x2 x1))
def sx (l x1 x2:R):R:=K.sub (K.sub (K.mul l l) x1) x2
def sy (l x1 y1 x2:R):R:=K.sub (K.mul l (K.sub x1 (sx K l x1 x2))) y1
def iR:Pt R→Pt R→Pt R
 | none,q=>q
 | some p,none=>some p
 | some p,some q =>
  if p.1=q.1∧K.add p.2 q.2=K.zero then none
  else some (sx K (dN K inv p.1 p.2 q.1 q.2) p.1 q.1,sy K (dN K inv p.1 p.2 q.1 q.2) p.1 p.2 q.1)
variable {K} {inv} {b}
theorem kW {p q:R×R} (h:p.1=q.1∧K.add p.2 q.2=K.zero):iR K inv (some p) (some q)=none:=if_pos h
theorem jU {p q:R×R} (h:¬(p.1=q.1∧K.add p.2 q.2=K.zero)):iR K inv (some p) (some q)=some (sx K (dN K inv p.1 p.2 q.1 q.2) p.1 q.1,sy K (dN K inv p.1 p.2 q.1 q.2) p.1 p.2 q.1):=if_neg h
theorem jG {x y:R} (h:K.sub x y=K.zero):x=y:=mZ h
theorem PO {x y:R} (h:x≠y):K.sub x y≠K.zero:=fun e=>h (jG e)
theorem EC.dbl_ne (E:EC K inv b) {y:R} (h:y≠K.zero):K.add y y≠K.zero:=fun e=>by
 refine E.F.mul_ne E.two h ?_;rw[K.add_mul,K.one_mul,e]
theorem EC.y_ne (E:EC K inv b) {x y:R} (h:K.mul y y=K.add (K.mul x (K.mul x x)) b):y≠K.zero:=fun e=>by
 rw[e,K.mul_zero]at h;exact E.odd x h.symm
structure Slope (K:CR R) (x1 y1 x2 y2 l:R):Prop where
 h1:y2=K.add y1 (K.mul l (K.sub x2 x1))
 h2:K.mul l (K.add y1 y2)=K.add (K.add (K.mul x1 x1) (K.mul x1 x2)) (K.mul x2 x2)
 hk:(∃k,K.mul k (K.add y1 y2)=K.one)∨(∃k,K.mul k (K.sub x2 x1)=K.one)
theorem xN (E:EC K inv b) {x1 y1 x2 y2:R} (hp:K.mul y1 y1=K.add (K.mul x1 (K.mul x1 x1)) b) (hq:K.mul y2 y2=K.add (K.mul x2 (K.mul x2 x2)) b) (hn:¬(x1=x2∧K.add y1 y2=K.zero)):Slope K x1 y1 x2 y2 (dN K inv x1 y1 x2 y2):=by
 unfold dN
 by_cases hx:x1=x2
 ·subst hx;rw[if_pos rfl];have hy:K.add y1 y2≠K.zero:=fun e=>hn ⟨rfl,e⟩
  have hi:=E.F.inv _ hy;have e:y1=y2:=by
   refine jG (K:=K) (E.F.zd (a:=K.add y1 y2) ?_ hy);have e0:K.mul (K.add y1 y2) (K.sub y1 y2)=K.sub (K.mul y1 y1) (K.mul y2 y2):=aE K (aW K [y1,y2]) ((Z0+Z1)*(Z0-Z1)) (Z0*Z0-Z1*Z1) (by kernel_rfl);rw[e0,hp,hq];exact K.add_neg _
  subst e;generalize inv (K.add y1 y1)=k at hi;refine⟨aE K (aW K [y1,x1,k]) (.v 0) (Z0+(Z1*Z1+Z1*Z1+Z1*Z1)*Z2*(Z1-Z1)) (by kernel_rfl),iJ (K:=K) (c1:=(K.add (K.add (K.mul x1 x1) (K.mul x1 x1)) (K.mul x1 x1))) hi (aE K (aW K [x1,k,y1]) ((Z0*Z0+Z0*Z0+Z0*Z0)*Z1*(Z2+Z2)-(Z0*Z0+Z0*Z0+Z0*Z0)) ((Z0*Z0+Z0*Z0+Z0*Z0)*((Z2+Z2)*Z1-RE.one)) (by kernel_rfl)),Or.inl ⟨k,by rw[K.mul_comm,hi]⟩⟩
 ·rw[if_neg hx];have hd:K.sub x2 x1≠K.zero:=PO fun e=>hx e.symm
  have hi:=E.F.inv _ hd;generalize inv (K.sub x2 x1)=k at hi;refine⟨iJ (K:=K) (c1:=(K.neg (K.sub y2 y1))) hi (aE K (aW K [y2,y1,k,x2,x1]) (Z0-(Z1+(Z0-Z1)*Z2*(Z3-Z4))) ((-(Z0-Z1))*((Z3-Z4)*Z2-RE.one)) (by kernel_rfl)),?_,Or.inr ⟨k,by rw[K.mul_comm,hi]⟩⟩;refine E.F.cancel hd ?_;exact Co (K:=K) (c1:=(K.mul (K.sub y2 y1) (K.add y1 y2))) (c2:=(K.neg K.one)) (c3:=K.one) hi hp hq (aE K (aW K [x2,x1,y2,y1,k,b]) ((Z0-Z1)*((Z2-Z3)*Z4*(Z3+Z2))-(Z0-Z1)*(Z1*Z1+Z1*Z0+Z0*Z0)) ((Z2-Z3)*(Z3+Z2)*((Z0-Z1)*Z4-RE.one)+(-RE.one)*(Z3*Z3-(Z1*(Z1*Z1)+Z5))+RE.one*(Z2*Z2-(Z0*(Z0*Z0)+Z5))) (by kernel_rfl))
theorem On.sum {x1 y1 x2 y2 l:R} (hp:K.mul y1 y1=K.add (K.mul x1 (K.mul x1 x1)) b) (h:Slope K x1 y1 x2 y2 l):On K b (some (sx K l x1 x2,sy K l x1 y1 x2)):=by
 obtain⟨h1,h2,_⟩:=h;subst h1;show K.mul (K.sub (K.mul l (K.sub x1 (K.sub (K.sub (K.mul l l) x1) x2))) y1) (K.sub (K.mul l (K.sub x1 (K.sub (K.sub (K.mul l l) x1) x2))) y1)=K.add (K.mul (K.sub (K.sub (K.mul l l) x1) x2) (K.mul (K.sub (K.sub (K.mul l l) x1) x2) (K.sub (K.sub (K.mul l l) x1) x2))) b;exact kH (K:=K) (c1:=K.one) (c2:=(K.sub (K.sub (K.sub (K.mul l l) x1) x2) x1)) hp h2 (aE K (aW K [l,x1,x2,y1,b]) ((Z0*(Z1-(Z0*Z0-Z1-Z2))-Z3)*(Z0*(Z1-(Z0*Z0-Z1-Z2))-Z3)-((Z0*Z0-Z1-Z2)*((Z0*Z0-Z1-Z2)*(Z0*Z0-Z1-Z2))+Z4)) (RE.one*(Z3*Z3-(Z1*(Z1*Z1)+Z4))+(Z0*Z0-Z1-Z2-Z1)*(Z0*(Z3+(Z3+Z0*(Z2-Z1)))-(Z1*Z1+Z1*Z2+Z2*Z2))) (by kernel_rfl))
theorem On.neg:∀{p:Pt R},On K b p→On K b (MG K p)
 | none,_=>trivial
 | some p,h=>by
  show K.mul (K.neg p.2) (K.neg p.2)=_;rw[K.neg_mul,K.mul_neg,K.neg_neg];exact h
theorem On.add (E:EC K inv b):∀{p q:Pt R},On K b p→On K b q→On K b (iR K inv p q)
 | none,_,_,h=>h
 | some _,none,h,_=>h
 | some p,some q,hp,hq=>by
  by_cases hn:p.1=q.1∧K.add p.2 q.2=K.zero
  ·rw[kW hn]; trivial
  ·rw[jU hn];exact On.sum hp (xN E hp hq hn)
def opP (K:CR R) (b:R) (p:Pt R) (S:Pol K×Pol K→Prop):Pol K×Pol K→Prop :=
 match p with
 | none=>S
 | some p=>op (cI K b) cX cY (cc p.1) (cc p.2) S
theorem ZY (p q:Pt R) (S:Pol K×Pol K→Prop):opP K b p (opP K b q S)=opP K b q (opP K b p S):=by
 cases p with
 | none=>rfl
 | some p=>cases q with
  | none=>rfl
  | some q=>exact aJm _ _ _ _
theorem Nj {S:Pol K×Pol K→Prop} (h:Idl (cI K b) S) (p:Pt R):Idl (cI K b) (opP K b p S):=by
 cases p with
 | none=>exact h
 | some p=>exact aCk h _ _
theorem Nk {S T:Pol K×Pol K→Prop} (h:Eqv (cI K b) S T) (p:Pt R):Eqv (cI K b) (opP K b p S) (opP K b p T):=by
 cases p with
 | none=>exact h
 | some p=>exact h.op _ _
theorem aLp (F:FD K inv) (c:R):(cI K b).sub cX (cc c)≠(cI K b).zero:=fun q=>aFe (JK (K:=K) F c) (congrArg Prod.fst q)
theorem aEV (F:FD K inv) (x1 y1 l:R):(cI K b).sub ((cI K b).sub cY (cc y1)) ((cI K b).mul (cc l) ((cI K b).sub cX (cc x1)))≠(cI K b).zero:=fun q=>by
 have e:K.add (K.add K.one (K.neg K.zero)) (K.neg (K.add (K.mul l (K.add K.zero (K.neg K.zero))) (K.mul K.zero (K.add K.zero (K.neg x1)))))=K.zero:=congrArg (fun z:Pol K×Pol K=>z.2.1 0) q;rw[bQ,K.add_zero,K.add_zero,K.mul_zero,K.zero_mul,K.add_zero,bQ,K.add_zero]at e;exact F.ne e
theorem oG (E:EC K inv b) {S:Pol K×Pol K→Prop} (hS:Idl (cI K b) S):∀{p q:Pt R},On K b p→On K b q→Eqv (cI K b) (opP K b p (opP K b q S)) (opP K b (iR K inv p q) S)
 | none,_,_,_=>Eqv.refl (kB b E.F) _
 | some _,none,_,_=>Eqv.refl (kB b E.F) _
 | some ⟨x1,y1⟩,some ⟨x2,y2⟩,hp,hq=>by
  by_cases hn:x1=x2∧K.add y1 y2=K.zero
  ·rw[kW hn];obtain⟨rfl,hy⟩:=hn;have e:y2=K.neg y1:=by
    apply K.add_cancel (a:=y1);rw[hy,K.add_neg]
   subst e;show Eqv (cI K b) (op (cI K b) cX cY (cc x1) (cc y1) (op (cI K b) cX cY (cc x1) (cc (K.neg y1)) S)) S;have h0:=E.F.inv _ (E.dbl_ne (E.y_ne hp));rw[Ke b];refine aPv (b:=cc b) (k:=cc (inv (K.add y1 y1))) (aLb b) ?_ ?_ (kB b E.F) (aLp E.F x1) hS
   ·rw[←gO,←gO,←gO,←jD];exact congrArg cc hp
   ·rw[←jD,←gO,K.mul_comm,h0];rfl
  ·rw[jU hn];have h:=xN E hp hq hn;dsimp only at h ⊢;generalize dN K inv x1 y1 x2 y2=l at h;obtain⟨h1,h2,hk⟩:=h;subst h1;show Eqv (cI K b) (op (cI K b) cX cY (cc x1) (cc y1) (op (cI K b) cX cY (cc x2) (cc (K.add y1 (K.mul l (K.sub x2 x1)))) S)) (op (cI K b) cX cY (cc (sx K l x1 x2)) (cc (sy K l x1 y1 x2)) S);unfold sy sx;have hX:=aLp (K:=K) (b:=b) E.F (sx K l x1 x2);have hl:=aEV (K:=K) (b:=b) E.F x1 y1 l;unfold sx at hX;simp only[jD b,gO b,oY b]at hX ⊢;refine aPu (b:=cc b) (aLb b) ?_ ?_ ?_ hX hl hS
   ·have:=congrArg (cc (K:=K)) h2;simpa only[jD b,gO b,oY b]using this
   ·have:=congrArg (cc (K:=K)) hp;simpa only[jD b,gO b,oY b]using this
   ·rcases hk with⟨k,hk⟩|⟨k,hk⟩
    ·refine Or.inl ⟨cc k,?_⟩;have:=congrArg (cc (K:=K)) hk;simpa only[jD b,gO b,oY b,TD b]using this
    ·refine Or.inr ⟨cc k,?_⟩;have:=congrArg (cc (K:=K)) hk;simpa only[jD b,gO b,oY b,TD b]using this
theorem DY (p:Pt R):iR K inv (MG K p) p=none:=by
 cases p with
 | none=>rfl
 | some p=>exact if_pos ⟨rfl,K.neg_add _⟩
theorem aBy {p q:Pt R} (h:iR K inv (MG K p) q=none):q=p:=by
 cases p with
 | none=>exact h
 | some p=>cases q with
  | none=>cases h
  | some q =>
   by_cases hh:p.1=q.1∧K.add (K.neg p.2) q.2=K.zero
   ·obtain⟨h1,h2⟩:=hh;refine congrArg some (Prod.ext h1.symm ?_);apply K.add_cancel (a:=K.neg p.2);exact h2.trans (K.neg_add p.2).symm
   ·have e:iR K inv (MG K (some p)) (some q)=some _:=jU (p:=(p.1,K.neg p.2)) (q:=q) hh;rw[e]at h;cases h
theorem aPw (E:EC K inv b) {p:Pt R} (hp:On K b p) (h:Eqv (cI K b) (opP K b p UY) UY):p=none:=by
 cases p with
 | none=>rfl
 | some p=>exact absurd h (aUD b E.F hp)
theorem Ni (E:EC K inv b) {p q:Pt R} (hp:On K b p) (hq:On K b q) (h:Eqv (cI K b) (opP K b p UY) (opP K b q UY)):p=q:=by
 have D:=kB (K:=K) b E.F;have h1:=Nk h (MG K q);have a1:=oG E (lD (cI K b)) hq.neg hp;have a2:=oG E (lD (cI K b)) hq.neg hq;rw[DY]at a2;exact aBy (aPw E (hq.neg.add E hp) (a1.symm.trans D (h1.trans D a2)))
theorem ZB (E:EC K inv b) {p q:Pt R} (hp:On K b p) (hq:On K b q):iR K inv p q=iR K inv q p:=by
 have D:=kB (K:=K) b E.F;refine Ni E (hp.add E hq) (hq.add E hp) ?_;refine (oG E (lD (cI K b)) hp hq).symm.trans D ?_;rw[ZY];exact oG E (lD (cI K b)) hq hp
theorem MH (E:EC K inv b) {p q r:Pt R} (hp:On K b p) (hq:On K b q) (hr:On K b r):iR K inv (iR K inv p q) r=iR K inv p (iR K inv q r):=by
 have D:=kB (K:=K) b E.F;have hu:=lD (cI K b);refine Ni E ((hp.add E hq).add E hr) (hp.add E (hq.add E hr)) ?_;refine (oG E hu (hp.add E hq) hr).symm.trans D ?_;refine (oG E (Nj hu r) hp hq).symm.trans D ?_;refine (Nk (oG E hu hq hr) p).trans D ?_;exact oG E hu hp (hq.add E hr)
end
structure AG (G:Type) where
 add:G→G→G
 neg:G→G
 zero:G
 assoc:∀a b c,add (add a b) c=add a (add b c)
 comm:∀a b,add a b=add b a
 zadd:∀a,add zero a=a
 nadd:∀a,add (neg a) a=zero
def EC.grp {R:Type} {K:CR R} {inv:R→R} {b:R} (E:EC K inv b):AG {p:Pt R // On K b p} where
 add p q:=⟨iR K inv p.1 q.1,p.2.add E q.2⟩
 neg p:=⟨MG K p.1,p.2.neg⟩
 zero:=⟨none,trivial⟩
 assoc p q r:=Subtype.ext (MH E p.2 q.2 r.2)
 comm p q:=Subtype.ext (ZB E p.2 q.2)
 zadd p:=rfl
 nadd p:=Subtype.ext (DY p.1)
structure Cub {R:Type} (K:CR R) (b a1 a2 a3 n c:R):Prop where
 s1:K.add (K.add a1 a2) a3=K.mul n n
 s2:K.add (K.add (K.add (K.mul a1 a2) (K.mul a1 a3)) (K.mul a2 a3)) (K.add (K.mul n c) (K.mul n c))=K.zero
 s3:K.add (K.mul (K.mul a1 a2) a3) b=K.mul c c
section
variable {R:Type} {K:CR R} {inv:R→R} {b:R}
theorem aRD {x1 y1 x2 y2 l:R} (hp:K.mul y1 y1=K.add (K.mul x1 (K.mul x1 x1)) b) (h:Slope K x1 y1 x2 y2 l):Cub K b x1 x2 (sx K l x1 x2) l (K.sub y1 (K.mul l x1)):=by
 obtain⟨h1,h2,_⟩:=h;subst h1;unfold sx;exact⟨aE K (aW K [x1,y1,x2,l,b]) (Z0+Z2+(Z3*Z3-Z0-Z2)) (Z3*Z3) (by kernel_rfl),iJ (K:=K) (c1:=K.one) h2 (aE K (aW K [x1,y1,x2,l,b]) (Z0*Z2+Z0*(Z3*Z3-Z0-Z2)+Z2*(Z3*Z3-Z0-Z2)+(Z3*(Z1-Z3*Z0)+Z3*(Z1-Z3*Z0))-RE.zero) (RE.one*(Z3*(Z1+(Z1+Z3*(Z2-Z0)))-(Z0*Z0+Z0*Z2+Z2*Z2))) (by kernel_rfl)),kH (K:=K) (c1:=(K.neg K.one)) (c2:=x1) hp h2 (aE K (aW K [x1,y1,x2,l,b]) (Z0*Z2*(Z3*Z3-Z0-Z2)+Z4-(Z1-Z3*Z0)*(Z1-Z3*Z0)) ((-RE.one)*(Z1*Z1-(Z0*(Z0*Z0)+Z4))+Z0*(Z3*(Z1+(Z1+Z3*(Z2-Z0)))-(Z0*Z0+Z0*Z2+Z2*Z2))) (by kernel_rfl))⟩
theorem Rl {a1 a2 a3 n c:R} (h:Cub K b a1 a2 a3 n c) (u v:R):(K.mul (K.add (K.mul u a1) v) (K.mul (K.add (K.mul u a2) v) (K.add (K.mul u a3) v)))=(K.add (K.add (K.sub (K.mul (K.mul (K.mul u u) u) (K.sub (K.mul c c) b)) (K.mul (K.mul (K.mul u u) v) (K.add (K.mul n c) (K.mul n c)))) (K.mul (K.mul (K.mul u v) v) (K.mul n n))) (K.mul (K.mul v v) v)) :=
 Co (K:=K) (c1:=(K.mul (K.mul u v) v)) (c2:=(K.mul (K.mul u u) v)) (c3:=(K.mul (K.mul u u) u)) h.s1 h.s2 h.s3 (aE K (aW K [a1,a2,a3,n,c,u,v,b]) ((Z5*Z0+Z6)*((Z5*Z1+Z6)*(Z5*Z2+Z6))-(Z5*Z5*Z5*(Z4*Z4-Z7)-Z5*Z5*Z6*(Z3*Z4+Z3*Z4)+Z5*Z6*Z6*(Z3*Z3)+Z6*Z6*Z6)) (Z5*Z6*Z6*(Z0+Z1+Z2-Z3*Z3)+Z5*Z5*Z6*(Z0*Z1+Z0*Z2+Z1*Z2+(Z3*Z4+Z3*Z4)-RE.zero)+Z5*Z5*Z5*(Z0*Z1*Z2+Z7-Z4*Z4)) (by kernel_rfl))
theorem aFC (n c m d:R):(K.add (K.add (K.sub (K.mul (K.mul (K.mul (K.sub n m) (K.sub n m)) (K.sub n m)) (K.sub (K.mul c c) b)) (K.mul (K.mul (K.mul (K.sub n m) (K.sub n m)) (K.sub c d)) (K.add (K.mul n c) (K.mul n c)))) (K.mul (K.mul (K.mul (K.sub n m) (K.sub c d)) (K.sub c d)) (K.mul n n))) (K.mul (K.mul (K.sub c d) (K.sub c d)) (K.sub c d)))=(K.add (K.add (K.sub (K.mul (K.mul (K.mul (K.sub n m) (K.sub n m)) (K.sub n m)) (K.sub (K.mul d d) b)) (K.mul (K.mul (K.mul (K.sub n m) (K.sub n m)) (K.sub c d)) (K.add (K.mul m d) (K.mul m d)))) (K.mul (K.mul (K.mul (K.sub n m) (K.sub c d)) (K.sub c d)) (K.mul m m))) (K.mul (K.mul (K.sub c d) (K.sub c d)) (K.sub c d))) :=
 aE K (aW K [n,c,m,d,b]) ((Z0-Z2)*(Z0-Z2)*(Z0-Z2)*(Z1*Z1-Z4)-(Z0-Z2)*(Z0-Z2)*(Z1-Z3)*(Z0*Z1+Z0*Z1)+(Z0-Z2)*(Z1-Z3)*(Z1-Z3)*(Z0*Z0)+(Z1-Z3)*(Z1-Z3)*(Z1-Z3)) ((Z0-Z2)*(Z0-Z2)*(Z0-Z2)*(Z3*Z3-Z4)-(Z0-Z2)*(Z0-Z2)*(Z1-Z3)*(Z2*Z3+Z2*Z3)+(Z0-Z2)*(Z1-Z3)*(Z1-Z3)*(Z2*Z2)+(Z1-Z3)*(Z1-Z3)*(Z1-Z3)) (by kernel_rfl)
theorem aDx (a n c m d:R):(K.sub (K.add (K.mul n a) c) (K.add (K.mul m a) d))=(K.add (K.mul (K.sub n m) a) (K.sub c d)):=aE K (aW K [a,n,c,m,d]) (Z1*Z0+Z2-(Z3*Z0+Z4)) ((Z1-Z3)*Z0+(Z2-Z4)) (by kernel_rfl)
theorem aDu (a n c m d:R):(K.sub (K.add (K.mul m a) d) (K.add (K.mul n a) c))=(K.neg (K.add (K.mul (K.sub n m) a) (K.sub c d))):=aE K (aW K [a,n,c,m,d]) (Z3*Z0+Z4-(Z1*Z0+Z2)) (-((Z1-Z3)*Z0+(Z2-Z4))) (by kernel_rfl)
theorem aYY (p q r:R):(K.neg (K.mul (K.neg p) (K.mul (K.neg q) (K.neg r))))=(K.mul p (K.mul q r)):=aE K (aW K [p,q,r]) (-((-Z0)*((-Z1)*(-Z2)))) (Z0*(Z1*Z2)) (by kernel_rfl)
theorem aTW {a1 a2 a3 n c x1 x2 x3 m d:R} (h:Cub K b a1 a2 a3 n c) (g:Cub K b x1 x2 x3 m d) :
  K.mul (K.sub (K.add (K.mul n a1) c) (K.add (K.mul m a1) d)) (K.mul (K.sub (K.add (K.mul n a2) c) (K.add (K.mul m a2) d)) (K.sub (K.add (K.mul n a3) c) (K.add (K.mul m a3) d))) =
  K.neg (K.mul (K.sub (K.add (K.mul m x1) d) (K.add (K.mul n x1) c)) (K.mul (K.sub (K.add (K.mul m x2) d) (K.add (K.mul n x2) c)) (K.sub (K.add (K.mul m x3) d) (K.add (K.mul n x3) c)))):=by
 rw[aDx,aDx,aDx,aDu,aDu,aDu,aYY,Rl h,Rl g,aFC]
theorem aTw {a1 a2 a3 n c x y:R} (h:Cub K b a1 a2 a3 n c) (hp:K.mul y y=K.add (K.mul x (K.mul x x)) b):(K.mul (K.sub y (K.add (K.mul n x) c)) (K.sub (K.neg y) (K.add (K.mul n x) c)))=(K.neg (K.mul (K.sub x a1) (K.mul (K.sub x a2) (K.sub x a3)))) :=
 aFm (K:=K) (c1:=(K.neg K.one)) (c2:=(K.neg (K.mul x x))) (c3:=x) (c4:=(K.neg K.one)) hp h.s1 h.s2 h.s3 (aE K (aW K [a1,a2,a3,n,c,x,y,b]) ((Z6-(Z3*Z5+Z4))*(-Z6-(Z3*Z5+Z4))-(-((Z5-Z0)*((Z5-Z1)*(Z5-Z2))))) ((-RE.one)*(Z6*Z6-(Z5*(Z5*Z5)+Z7))+(-(Z5*Z5))*(Z0+Z1+Z2-Z3*Z3)+Z5*(Z0*Z1+Z0*Z2+Z1*Z2+(Z3*Z4+Z3*Z4)-RE.zero)+(-RE.one)*(Z0*Z1*Z2+Z7-Z4*Z4)) (by kernel_rfl))
theorem Cub.scale {a1 a2 a3 n c:R} (h:Cub K b a1 a2 a3 n c) (t:R):Cub K (K.mul b (K.mul (K.mul (K.mul t t) t) (K.mul (K.mul t t) t))) (K.mul a1 (K.mul t t)) (K.mul a2 (K.mul t t)) (K.mul a3 (K.mul t t)) (K.mul n t) (K.mul c (K.mul (K.mul t t) t)) :=
 ⟨iJ (K:=K) (c1:=(K.mul t t)) h.s1 (aE K (aW K [a1,a2,a3,n,c,b,t]) (Z0*(Z6*Z6)+Z1*(Z6*Z6)+Z2*(Z6*Z6)-Z3*Z6*(Z3*Z6)) (Z6*Z6*(Z0+Z1+Z2-Z3*Z3)) (by kernel_rfl)),
  iJ (K:=K) (c1:=(K.mul (K.mul t t) (K.mul t t))) h.s2 (aE K (aW K [a1,a2,a3,n,c,b,t]) (Z0*(Z6*Z6)*(Z1*(Z6*Z6))+Z0*(Z6*Z6)*(Z2*(Z6*Z6))+Z1*(Z6*Z6)*(Z2*(Z6*Z6))+(Z3*Z6*(Z4*(Z6*Z6*Z6))+Z3*Z6*(Z4*(Z6*Z6*Z6)))-RE.zero) (Z6*Z6*(Z6*Z6)*(Z0*Z1+Z0*Z2+Z1*Z2+(Z3*Z4+Z3*Z4)-RE.zero)) (by kernel_rfl)),
  iJ (K:=K) (c1:=(K.mul (K.mul (K.mul t t) t) (K.mul (K.mul t t) t))) h.s3 (aE K (aW K [a1,a2,a3,n,c,b,t]) (Z0*(Z6*Z6)*(Z1*(Z6*Z6))*(Z2*(Z6*Z6))+Z5*(Z6*Z6*Z6*(Z6*Z6*Z6))-Z4*(Z6*Z6*Z6)*(Z4*(Z6*Z6*Z6))) (Z6*Z6*Z6*(Z6*Z6*Z6)*(Z0*Z1*Z2+Z5-Z4*Z4)) (by kernel_rfl))⟩
end
end Go.Proofs.YtjkpglhlmknciaaGreat.Ex
namespace Go.Proofs.YtjkpglhlmknciaaGreat
open Go.Proofs.Tryz
theorem Kg {a b:Nat} (h:a≠b):Nat.beq a b=false:=by cases q:Nat.beq a b with|false=>rfl|true=>exact absurd (Nat.eq_of_beq_eq_true q) h
def eJ (q:Nat):Prop:=1<q∧∀m,m∣q→m=1∨m=q
def pm (n:Nat):Nat→Nat→Nat→Nat
 | 0,_,_=>1%n
 | f+1,b,e=>bif Nat.beq e 0 then 1%n else bif Nat.beq (e%2) 1 then b*pm n f (b*b%n) (e/2)%n else pm n f (b*b%n) (e/2)
theorem CF (n:Nat):∀f b e,e<2^f→pm n f b e=b^e%n:=by
 intro f
 induction f with
 | zero =>
  intro b e h;have:e=0:=by omega
  subst this;simp[pm]
 | succ f ih =>
  intro b e h;rw[Nat.pow_succ]at h;unfold pm
  by_cases h0:e=0
  ·subst h0; simp
  ·have h0':Nat.beq e 0=false:=Kg h0;rw[h0'];have hi:=ih (b*b%n) (e/2) (by omega);have hp:(b*b%n)^(e/2)%n=b^(2*(e/2))%n:=by
    rw[←Nat.pow_mod,Nat.pow_mul,Nat.pow_two]
   by_cases h1:e%2=1
   ·have h1':Nat.beq (e%2) 1=true:=by rw[h1]; rfl
    rw[h1'];simp only[cond_true,cond_false];rw[hi,hp,Nat.mul_mod,Nat.mod_mod,←Nat.mul_mod,←Nat.pow_succ'];congr 2; omega
   ·have h1':Nat.beq (e%2) 1=false:=Kg h1;rw[h1'];simp only[cond_false];rw[hi,hp];congr 2; omega
def Oy (n:Nat):Nat→Bool
 | 0=>true
 | k+1=>(Nat.beq k 0 || !(Nat.beq (n%(k+1)) 0))&&Oy n k
theorem Io (n:Nat):∀k,Oy n k=true→∀m,2≤m→m≤k→¬m∣n:=by
 intro k
 induction k with
 | zero=>intro _ m h1 h2; omega
 | succ k ih =>
  intro h m h1 h2;unfold Oy at h;rw[Bool.and_eq_true]at h
  by_cases hm:m=k+1
  ·subst hm;have hk:Nat.beq k 0=false:=Kg (by omega);rw[hk]at h;simp at h;intro hd;rw[Nat.mod_eq_zero_of_dvd hd]at h;exact absurd h.1 (by decide)
  ·exact ih h.2 m h1 (by omega)
theorem aS (n k:Nat) (h1:1<n) (hk:n<(k+1)*(k+1)) (h:Oy n k=true):eJ n:=by
 refine⟨h1,fun m hm => ?_⟩;have hs:=Io n k h;obtain⟨c,hc⟩:=hm;have hm0:m≠0:=fun e=>by subst e; omega
 have hc0:c≠0:=fun e=>by subst e; omega
 by_cases h2:m=1
 ·exact Or.inl h2
 ·by_cases h3:c=1
  ·subst h3; right; omega
  ·exfalso
   by_cases h4:m≤k
   ·exact hs m (by omega) h4 ⟨c,hc⟩
   ·by_cases h5:c≤k
    ·exact hs c (by omega) h5 ⟨m,by rw[hc,Nat.mul_comm]⟩
    ·have:=Nat.mul_le_mul (show k+1≤m by omega) (show k+1≤c by omega);omega
theorem xX:∀(l:List Nat) (m:Nat),m∣l.foldr (· * ·) 1→1<m→(∀q,q∈l→eJ q)→∃q,q∈l∧q∣m:=by
 intro l
 induction l with
 | nil=>intro m h h1 _; simp at h; omega
 | cons q l ih =>
  intro m h h1 hq;rw[List.foldr_cons]at h
  rcases (hq q List.mem_cons_self).2 (Nat.gcd m q) (Nat.gcd_dvd_right m q)with g|g
  ·have:=Nat.Coprime.dvd_of_dvd_mul_left (show Nat.Coprime m q from g) h;obtain⟨q',h',h''⟩:=ih m this h1 (fun q' h'=>hq q' (List.mem_cons_of_mem _ h'));exact⟨q',List.mem_cons_of_mem _ h',h''⟩
  ·exact⟨q,List.mem_cons_self,g▸Nat.gcd_dvd_left m q⟩
theorem jI (g a b n:Nat):g^(a+b)%n=(g^a%n)*(g^b%n)%n:=by rw[Nat.pow_add,Nat.mul_mod]
theorem sS {g o n:Nat} (h1:1<n) (h:g^o%n=1) (k:Nat):g^(o*k)%n=1:=by
 rw[Nat.pow_mul,Nat.pow_mod,h,Nat.one_pow,Nat.mod_eq_of_lt h1]
theorem aDB {P:Nat→Prop}:∀n,P n→∃m,P m∧∀k,k<m→¬P k:=by
 intro n
 induction n using Nat.strongRecOn with
 | ind n ih =>
  intro h
  by_cases hk:∃k,k<n∧P k
  ·obtain⟨k,h1,h2⟩:=hk; exact ih k h1 h2
  ·exact⟨n,h,fun k h1 h2=>hk ⟨k,h1,h2⟩⟩
theorem Ig {n g:Nat} (l:List Nat) (h1:1<n) (hl:l.foldr (· * ·) 1=n-1) (hp:∀q,q∈l→eJ q) (hg:g^(n-1)%n=1) (hq:∀q,q∈l→g^((n-1)/q)%n≠1) :
  ∀k,0<k→k<n-1→g^k%n≠1:=by
 obtain⟨o,⟨ho0,ho⟩,hmin⟩:=aDB (P:=fun k=>0<k∧g^k%n=1) (n-1) ⟨by omega,hg⟩;have hdiv:∀k,g^k%n=1→o∣k:=by
  intro k hk;have e:o*(k/o)+k%o=k:=Nat.div_add_mod k o;rw[←e,jI,sS h1 ho,Nat.one_mul,Nat.mod_mod]at hk;have hlt:=Nat.mod_lt k ho0
  by_cases hz:k%o=0
  ·exact Nat.dvd_of_mod_eq_zero hz
  ·exact absurd ⟨by omega,hk⟩ (hmin (k%o) hlt)
 obtain⟨m,hm⟩:=hdiv (n-1) hg;have hm1:m=1:=by
  by_cases h:m=1
  ·exact h
  ·exfalso;have hm0:m≠0:=fun e=>by subst e; omega
   obtain⟨q,hq1,c,hc⟩:=xX l m (by rw[hl,hm]; exact Nat.dvd_mul_left _ _) (by omega) hp;have hq0:0<q:=Nat.lt_of_lt_of_le (by omega) (Nat.le_of_lt (hp q hq1).1);refine hq q hq1 ?_;have:(n-1)/q=o*c:=by
    rw[hm,hc,←Nat.mul_assoc,Nat.mul_comm o q,Nat.mul_assoc,Nat.mul_div_cancel_left _ hq0]
   rw[this,sS h1 ho]
 subst hm1;intro k hk0 hk hk1;have:=Nat.le_of_dvd hk0 (hdiv k hk1);omega
theorem aBW:∀(n:Nat) (f:Nat→Nat),(∀i,i<n→f i<n)→(∀i j,i<n→j<n→f i=f j→i=j)→∀y,y<n→∃i,i<n∧f i=y:=by
 intro n
 induction n with
 | zero=>intro f _ _ y hy; omega
 | succ n ih =>
  intro f hf hi y hy
  by_cases hn:f n=n
  ·by_cases hyn:y=n
   ·exact⟨n,by omega,by omega⟩
   ·have hf':∀i,i<n→f i<n:=fun i h=>by
     have:=hf i (by omega);have hne:f i≠n:=fun e=>by have:=hi i n (by omega) (by omega) (by omega); omega
     omega
    obtain⟨i,h1,h2⟩:=ih f hf' (fun i j h h'=>hi i j (by omega) (by omega)) y (by omega);exact⟨i,by omega,h2⟩
  ·have hfn:=hf n (by omega);have key:=ih (fun i=>if f i=n then f n else f i)
    (fun i h=>by
     have:=hf i (by omega);split<;>omega)
    (fun i j h h' e=>by
     split at e<;>split at e
     ·exact hi i j (by omega) (by omega) (by omega)
     ·have:=hi n j (by omega) (by omega) e; omega
     ·have:=hi i n (by omega) (by omega) e; omega
     ·exact hi i j (by omega) (by omega) e)
   by_cases hyn:y=n
   ·obtain⟨i,h1,h2⟩:=key (f n) (by omega)
    by_cases h3:f i=n
    ·exact⟨i,by omega,by omega⟩
    ·rw[if_neg h3]at h2;have:=hi i n (by omega) (by omega) h2;omega
   ·obtain⟨i,h1,h2⟩:=key y (by omega)
    by_cases h3:f i=n
    ·rw[if_pos h3]at h2; exact⟨n,by omega,h2⟩
    ·rw[if_neg h3]at h2; exact⟨i,by omega,h2⟩
def Root (n g:Nat):Prop:=1<n∧g^(n-1)%n=1∧(∀k,0<k→k<n-1→g^k%n≠1)∧∀a,0<a→a<n→∃k,k<n-1∧g^k%n=a
theorem aIg {n g:Nat} (l:List Nat) (h1:1<n) (hl:l.foldr (· * ·) 1=n-1) (hp:∀q,q∈l→eJ q) (hg:g^(n-1)%n=1) (hq:∀q,q∈l→g^((n-1)/q)%n≠1):Root n g:=by
 have ho:=Ig l h1 hl hp hg hq;refine⟨h1,hg,ho,fun a ha han => ?_⟩;have hnz:∀i,i≤n-1→g^i%n≠0:=by
  intro i hi e;have:g^(n-1)%n=0:=by
   have:n-1=i+(n-1-i):=by omega
   rw[this,jI,e,Nat.zero_mul,Nat.zero_mod]
  omega
 have hdis:∀i j,i<n-1→j<n-1→i<j→g^i%n≠g^j%n:=by
  intro i j hi hj hij e;have e1:g^(n-1-i+i)%n=1:=by rw[show n-1-i+i=n-1 by omega]; exact hg
  have e2:g^(n-1-i+j)%n=1:=by rw[jI,←e,←jI]; exact e1
  rw[show n-1-i+j=n-1+(j-i) by omega,jI,hg,Nat.one_mul,Nat.mod_mod]at e2;exact ho (j-i) (by omega) (by omega) e2
 obtain⟨i,hi,he⟩:=aBW (n-1) (fun i=>g^i%n-1)
  (fun i h=>by
   have:=Nat.mod_lt (g^i) (show 0<n by omega);have:=hnz i (by omega);omega)
  (fun i j h h' e=>by
   have a1:=hnz i (by omega);have a2:=hnz j (by omega);have e':g^i%n=g^j%n:=by omega
   rcases Nat.lt_trichotomy i j with q|q|q
   ·exact absurd e' (hdis i j h h' q)
   ·exact q
   ·exact absurd e'.symm (hdis j i h' h q))
  (a-1) (by omega)
 refine⟨i,hi,?_⟩;have:=hnz i (by omega);omega
theorem Root.prm {n g:Nat} (h:Root n g):eJ n:=by
 obtain⟨h1,hg,_,hs⟩:=h;refine⟨h1,fun m hm => ?_⟩
 by_cases h2:m=n
 ·exact Or.inr h2
 ·left;have hm0:m≠0:=fun e=>by subst e; have:=Nat.eq_zero_of_zero_dvd hm; omega
  have hle:=Nat.le_of_dvd (by omega) hm;obtain⟨k,hk,e⟩:=hs m (by omega) (by omega);have e1:g^(k+(n-1-k))%n=1:=by rw[show k+(n-1-k)=n-1 by omega]; exact hg
  rw[jI,e]at e1;have hd:m∣(m*(g^(n-1-k)%n))%n:=(Nat.dvd_mod_iff hm).2 (Nat.dvd_mul_right _ _);rw[e1]at hd;exact Nat.dvd_one.1 hd
def aWV (n g:Nat) (l:List Nat):Bool :=
 Nat.blt 1 n&&(Nat.beq (l.foldr (· * ·) 1) (n-1)&&(Nat.blt n (2^255)&&(Nat.beq (pm n 256 g (n-1)) 1&&l.all fun q => !(Nat.beq (pm n 256 g ((n-1)/q)) 1))))
theorem bF {n g:Nat} {l:List Nat} (h:aWV n g l=true) (hp:∀q,q∈l→eJ q):Root n g:=by
 unfold aWV at h;simp only[Bool.and_eq_true]at h;obtain⟨h1,h2,h3,h4,h5⟩:=h;have h1:1<n:=by unfold Nat.blt at h1; exact Nat.le_of_ble_eq_true h1
 have h3:n<2^255:=by
  unfold Nat.blt at h3; exact Nat.le_of_ble_eq_true h3
 have h2:=Nat.eq_of_beq_eq_true h2;have h4:=Nat.eq_of_beq_eq_true h4;have hb:∀e,e≤n-1→e<2^256:=fun e he=>by
  rw[Nat.pow_succ]; omega
 rw[CF n 256 g _ (hb _ (Nat.le_refl _))]at h4;refine aIg l h1 h2 hp h4 fun q hq e => ?_
 have:=List.all_eq_true.1 h5 q hq;rw[CF n 256 g _ (hb _ (Nat.div_le_self _ _)),e]at this;exact absurd this (by decide)
end Go.Proofs.YtjkpglhlmknciaaGreat
namespace Go.Proofs.YtjkpglhlmknciaaGreat.Ex
open Go.Proofs.Tryz
def cho:Nat→Nat→Nat
 | _,0=>1
 | 0,_+1=>0
 | n+1,k+1=>cho n k+cho n (k+1)
theorem ER:∀(n k:Nat),n<k→cho n k=0
 | 0,k+1,_=>rfl
 | n+1,k+1,h=>by show cho n k+cho n (k+1)=0; rw[ER n k (by omega),ER n (k+1) (by omega)]
 | _,0,h=>by omega
theorem Cq:∀n,cho n n=1
 | 0=>rfl
 | n+1=>by show cho n n+cho n (n+1)=1; rw[Cq n,ER n (n+1) (by omega)]
theorem EQ:∀(n k:Nat),(k+1)*cho (n+1) (k+1)=(n+1)*cho n k
 | 0,0=>rfl
 | 0,k+1=>by show (k+2)*(0+0)=1*0; omega
 | n+1,0=>by
  have:=EQ n 0;show 1*(cho (n+1) 0+cho (n+1) 1)=(n+2)*cho (n+1) 0;have h0:cho (n+1) 0=1:=rfl;have h1:cho n 0=1:=by cases n<;>rfl
  rw[h0];rw[h1]at this;have h2:cho (n+1) 1=n+1:=by simpa using this
  omega
 | n+1,k+1=>by
  have h1:=EQ n k;have h2:=EQ n (k+1);show (k+2)*(cho (n+1) (k+1)+cho (n+1) (k+2))=(n+2)*cho (n+1) (k+1);have h3:(k+2)*cho (n+1) (k+2)=(n+1)*cho n (k+1):=h2;have h4:cho (n+1) (k+1)=cho n k+cho n (k+1):=rfl;rw[Nat.mul_add,h3];have h5:(n+2)*cho (n+1) (k+1)=(n+1)*cho (n+1) (k+1)+cho (n+1) (k+1):=by rw[show n+2=(n+1)+1 from rfl,Nat.add_mul (n+1) 1,Nat.one_mul]
  have h6:(n+1)*cho (n+1) (k+1)=(n+1)*cho n k+(n+1)*cho n (k+1):=by rw[h4,Nat.mul_add]
  have h7:(k+2)*cho (n+1) (k+1)=(k+1)*cho (n+1) (k+1)+cho (n+1) (k+1):=by rw[show k+2=(k+1)+1 from rfl,Nat.add_mul (k+1) 1,Nat.one_mul]
  omega
theorem Yk {q:Nat} (hq:eJ q) {k:Nat} (h0:0<k) (hk:k<q):∃m,cho q k=q*m:=by
 obtain⟨j,rfl⟩:∃j,k=j+1:=⟨k-1,by omega⟩
 obtain⟨n,rfl⟩:∃n,q=n+1:=⟨q-1,by omega⟩
 have h:=EQ n j;have hd:(n+1)∣(j+1)*cho (n+1) (j+1):=⟨cho n j,h⟩;have hc:Nat.Coprime (n+1) (j+1):=by
  rcases hq.2 (Nat.gcd (n+1) (j+1)) (Nat.gcd_dvd_left _ _)with e|e
  ·exact e
  ·have:=Nat.le_of_dvd h0 (Nat.gcd_dvd_right (n+1) (j+1));omega
 obtain⟨m,hm⟩:=hc.dvd_of_dvd_mul_left hd;exact⟨m,hm⟩
section
variable {R:Type} (K:CR R)
def bZ (x:R):Nat→R
 | 0=>K.one
 | n+1=>K.mul (bZ x n) x
theorem cT (x:R) (m:Nat):∀n,bZ K x (m+n)=K.mul (bZ K x m) (bZ K x n)
 | 0=>(K.mul_one _).symm
 | n+1=>by show K.mul (bZ K x (m+n)) x=K.mul _ (K.mul _ _); rw[cT x m n,K.mul_assoc]
theorem mR (x y:R):∀n,bZ K (K.mul x y) n=K.mul (bZ K x n) (bZ K y n)
 | 0=>(K.one_mul _).symm
 | n+1=>by
  show K.mul (bZ K (K.mul x y) n) (K.mul x y)=K.mul (K.mul _ _) (K.mul _ _);rw[mR x y n];exact aE K (aW K [bZ K x n,bZ K y n,x,y]) (Z0*Z1*(Z2*Z3)) (Z0*Z2*(Z1*Z3)) (by decide)
theorem eF (x:R) (m:Nat):∀n,bZ K x (m*n)=bZ K (bZ K x m) n
 | 0=>rfl
 | n+1=>by rw[Nat.mul_add,Nat.mul_one,cT,eF x m n]; rfl
theorem oE:∀n,bZ K K.one n=K.one
 | 0=>rfl
 | n+1=>by show K.mul (bZ K K.one n) K.one=_; rw[oE n,K.mul_one]
def jL (f:Nat→R):Nat→R
 | 0=>K.zero
 | n+1=>K.add (jL f n) (f n)
theorem qK (f:Nat→R):∀n,jL K f (n+1)=K.add (f 0) (jL K (fun k=>f (k+1)) n)
 | 0=>by show K.add K.zero (f 0)=K.add (f 0) K.zero; rw[K.add_comm]
 | n+1=>by
  show K.add (jL K f (n+1)) (f (n+1))=K.add (f 0) (K.add _ _);rw[qK f n,K.add_assoc]
theorem VN (f g:Nat→R):∀n,jL K (fun k=>K.add (f k) (g k)) n=K.add (jL K f n) (jL K g n)
 | 0=>(K.add_zero _).symm
 | n+1=>by
  show K.add (jL K (fun k=>K.add (f k) (g k)) n) (K.add (f n) (g n))=K.add (K.add _ _) (K.add _ _);rw[VN f g n];exact aE K (aW K [jL K f n,jL K g n,f n,g n]) (Z0+Z1+(Z2+Z3)) (Z0+Z2+(Z1+Z3)) (by decide)
theorem FL (f:Nat→R) (c:R):∀n,K.mul (jL K f n) c=jL K (fun k=>K.mul (f k) c) n
 | 0=>K.zero_mul _
 | n+1=>by show K.mul (K.add _ _) c=K.add _ _; rw[K.add_mul,FL f c n]
theorem nA {f g:Nat→R}:∀n,(∀k,k<n→f k=g k)→jL K f n=jL K g n
 | 0,_=>rfl
 | n+1,h=>by show K.add _ _=K.add _ _; rw[nA n (fun k hk=>h k (by omega)),h n (by omega)]
theorem MB {f:Nat→R}:∀n,(∀k,k<n→f k=K.zero)→jL K f n=K.zero
 | 0,_=>rfl
 | n+1,h=>by show K.add _ _=_; rw[MB n (fun k hk=>h k (by omega)),h n (by omega),K.add_zero]
theorem IJ (x c:R):∀n,K.mul (nt K x n) c=nt K (K.mul x c) n
 | 0=>K.zero_mul _
 | n+1=>by show K.mul (K.add _ _) c=K.add _ _; rw[K.add_mul,IJ x c n]
theorem aMj (x:R) (m:Nat):∀n,nt K x (m*n)=nt K (nt K x m) n
 | 0=>rfl
 | n+1=>by rw[Nat.mul_add,Nat.mul_one,tA,aMj x m n]; rfl
theorem aMX (x y:R):∀n,bZ K (K.add x y) n=jL K (fun k=>nt K (K.mul (bZ K x k) (bZ K y (n-k))) (cho n k)) (n+1)
 | 0=>by show K.one=K.add K.zero (K.add K.zero (K.mul K.one K.one)); rw[K.zero_add,K.zero_add,K.one_mul]
 | n+1=>by
  show K.mul (bZ K (K.add x y) n) (K.add x y)=_;rw[aMX x y n,K.mul_add,FL,FL,qK K _ (n+1)];have e1:jL K (fun k=>K.mul (nt K (K.mul (bZ K x k) (bZ K y (n-k))) (cho n k)) x) (n+1)=jL K (fun k=>nt K (K.mul (bZ K x (k+1)) (bZ K y (n-k))) (cho n k)) (n+1) :=
   nA K _ fun k hk=>by
    rw[IJ];congr 1;exact aE K (aW K [bZ K x k,bZ K y (n-k),x]) (Z0*Z1*Z2) (Z0*Z2*Z1) (by decide)
  have e2:jL K (fun k=>K.mul (nt K (K.mul (bZ K x k) (bZ K y (n-k))) (cho n k)) y) (n+1)=K.add (nt K (K.mul (bZ K x 0) (bZ K y (n+1-0))) (cho (n+1) 0)) (jL K (fun k=>nt K (K.mul (bZ K x (k+1)) (bZ K y (n-k))) (cho n (k+1))) (n+1)):=by
   have h1:jL K (fun k=>K.mul (nt K (K.mul (bZ K x k) (bZ K y (n-k))) (cho n k)) y) (n+1)=jL K (fun k=>nt K (K.mul (bZ K x k) (bZ K y (n+1-k))) (cho n k)) (n+1) :=
    nA K _ fun k hk=>by
     rw[IJ,K.mul_assoc,show n+1-k=(n-k)+1 by omega];rfl
   rw[h1,qK];have h2:jL K (fun k=>nt K (K.mul (bZ K x (k+1)) (bZ K y (n-k))) (cho n (k+1))) (n+1)=jL K (fun k=>nt K (K.mul (bZ K x (k+1)) (bZ K y (n+1-(k+1)))) (cho n (k+1))) n:=by
    show K.add _ (nt K _ (cho n (n+1)))=_;rw[ER n (n+1) (by omega)];show K.add _ K.zero=_;rw[K.add_zero];exact nA K _ fun k hk=>by rw[show n+1-(k+1)=n-k by omega]
   rw[h2];congr 1;cases n<;>rfl
  rw[e1,e2];have e3:jL K (fun k=>nt K (K.mul (bZ K x (k+1)) (bZ K y (n+1-(k+1)))) (cho (n+1) (k+1))) (n+1)=K.add (jL K (fun k=>nt K (K.mul (bZ K x (k+1)) (bZ K y (n-k))) (cho n k)) (n+1)) (jL K (fun k=>nt K (K.mul (bZ K x (k+1)) (bZ K y (n-k))) (cho n (k+1))) (n+1)):=by
   rw[←VN];exact nA K _ fun k hk=>by
    rw[show n+1-(k+1)=n-k by omega];exact tA K _ _ _
  rw[e3,←K.add_assoc,←K.add_assoc,K.add_comm (jL K _ _) (nt K _ _)]
theorem Qi {q:Nat} (hq:eJ q) (hc:∀x,nt K x q=K.zero) (x y:R):bZ K (K.add x y) q=K.add (bZ K x q) (bZ K y q):=by
 rw[aMX];obtain⟨n,rfl⟩:∃n,q=n+1:=⟨q-1,by have:=hq.1; omega⟩
 show K.add (jL K _ (n+1)) _=_;rw[qK];have h0:jL K (fun k=>nt K (K.mul (bZ K x (k+1)) (bZ K y (n+1-(k+1)))) (cho (n+1) (k+1))) n=K.zero:=MB K _ fun k hk=>by
  obtain⟨m,hm⟩:=Yk hq (k:=k+1) (by omega) (by omega);rw[hm,aMj,hc];clear hm
  induction m with
  | zero=>rfl
  | succ m ih=>show K.add (nt K K.zero m) K.zero=_; rw[ih,K.add_zero]
 rw[h0,K.add_zero];show K.add (nt K (K.mul (bZ K x 0) (bZ K y (n+1-0))) (cho (n+1) 0)) (nt K (K.mul (bZ K x (n+1)) (bZ K y (n+1-(n+1)))) (cho (n+1) (n+1)))=_;rw[Cq];have h1:cho (n+1) 0=1:=rfl;rw[h1,Nat.sub_self,Nat.sub_zero];show K.add (K.add K.zero (K.mul K.one (bZ K y (n+1)))) (K.add K.zero (K.mul (bZ K x (n+1)) K.one))=_;rw[K.zero_add,K.zero_add,K.one_mul,K.mul_one,K.add_comm]
end
end Go.Proofs.YtjkpglhlmknciaaGreat.Ex
