/- Et06 -/
import Derived.RangeFuncNested
import Derived.RangeFuncLeaves
import Derived.TacticsIn
import Derived.Laws.IdiomCopy
import Derived.Deep.LoopGhost
import Derived.RegionTactic
import Derived.Laws.OwnMore
import Derived.Laws.MakeOwn
import Derived.Test.YtpjlhhpjpnacmaaGreatDoorEt03
import Derived.Test.YtpjlhhpjpnacmaaGreatDoorEt04
import Derived.Test.YtpjlhhpjpnacmaaGreatDoorEt05
import Derived.Test.YtpjlhhpjpnacmaaGreatDoorProg
set_option maxRecDepth 100000
set_option linter.unusedVariables false
set_option linter.unusedSimpArgs false
set_option linter.unnecessarySimpa false
noncomputable section
namespace Go.Proofs.YtpjlhhpjpnacmaaGreatDoor.Ex
open Go.Proofs.Tryz
open Go.RowKit
def IK (ops:Array Oper):Bool:=ops.toList.all fun o=>match o.op with | .defer _=>false|_=>true
theorem Bc {ops:Array Oper} (h:IK ops=true) {i:Nat} {o:Oper} (ho:ops[i]?=some o):∀c,o.op ≠ .defer c:=by
 intro c hc;have hm:o∈ops.toList:=by
  have:ops.toList[i]?=some o:=by rw[Array.getElem?_toList]; exact ho
  exact List.mem_of_getElem? this
 have:=List.all_eq_true.1 h o hm;rw[hc]at this;cases this
abbrev rF (r:Option Nat):Fence:={ Fence.wide with round:=r }
theorem zO (r:Option Nat) (ρ:Operand→Value) (o:Oper) (h:∀c,o.op ≠ .defer c):Oper.semAt r ρ o=execOp ρ o:=by
 cases r with
 | none=>rfl
 | some l=>exact Oper.semAt_some l ρ o h
section
variable {r:Option Nat} {n:Nat} {P:Program}
theorem MV {o:Oper} {a:Act} {w:World} {K K':Act→World→Prop} {Q Q':Exit→Act→World→Prop} (hd:∀c,o.op ≠ .defer c)
  (hK:∀a w,K a w→K' a w) (hl:¬LetsOut Q) (hQ:∀e a w,e ≠ .normal→Q e a w→Q' e a w) (h:o.wp P a w K Q):o.wpIn (rF r) n P a w K' Q':=by
 refine⟨fun _ _=>trivial,?_⟩;show o.uponIn (rF r) n P a K' Q' ((o.semAt r a.eval).run P w);rw[zO r _ o hd];unfold Oper.wp at h;generalize (execOp a.eval o).run P w=res at h;cases res with
 | ok nx w' =>
  cases nx with
  | value v=>exact hK _ _ h
  | skip=>exact hK _ _ h
  | defer d=>exact hK _ _ h
  | enter f args =>
   refine⟨fun e=>absurd e (by simp[Fence.wide]),?_⟩;show CallsIn Fence.wide (n-1) P f args w' _;refine callsIn_wide.2 (Calls.mono h fun e w'' he => ?_);cases e with
   | returned v=>exact hK _ _ he
   | panicked c=>exact hQ _ _ _ (by simp) he
   | outgrown=>exact (hl he).elim
  | row row args =>
   refine⟨fun e=>absurd e (by simp[Fence.wide]),fun c cs _ => ?_⟩;obtain⟨v,w'',r1,s⟩:=h c cs;exact⟨v,w'',hK _ _ r1,stepsIn_wide.2 s⟩
  | _=>exact h.elim
 | halt x w' =>
  cases x with
  | panic v=>exact hQ _ _ _ (by simp) h
  | _=>exact h.elim
theorem AA {ops:Array Oper} {Q Q':Exit→Act→World→Prop} {R:List Nat} (hnd:IK ops=true) (hl:¬LetsOut Q) (hn:∀a w,Q .normal a w→wpOpsIn (rF r) n P ops Q' R a w) (hQ:∀e a w,e ≠ .normal→Q e a w→Q' e a w) :
  ∀(l:List Nat) (a:Act) (w:World),wpOps P ops Q l a w→wpOpsIn (rF r) n P ops Q' (l++R) a w
 | [],a,w,h=>hn a w h
 | i::l,a,w,h=>by
  simp only[wpOps]at h;show wpOpsIn (rF r) n P ops Q' (i::(l++R)) a w;simp only[wpOpsIn];cases ho:ops[i]? with
  | none =>
   rw[ho]at h;exact AA hnd hl hn hQ l a w h
  | some o =>
   rw[ho]at h;simp only at h ⊢
   by_cases hw:Region.wanted o (yielded ops a.tmps)=true
   ·rw[if_pos hw]at h ⊢
    rcases h with h|⟨_,h⟩
    ·exact MV (Bc hnd ho) (fun a w=>AA hnd hl hn hQ l a w) hl hQ h
    ·exact (hl h).elim
   ·rw[if_neg hw]at h ⊢;exact⟨fun _ _=>trivial,AA hnd hl hn hQ l _ w h⟩
def iF (K:Act→World→Prop):Exit→Act→World→Prop:=fun e a w=>e=.normal∧K a w
theorem oU {K:Act→World→Prop}:¬LetsOut (iF K):=by
 rintro⟨a,w,h,_⟩
 cases h
variable {nt base:Nat} {w0:World}
theorem QL {E:Env} {draw:Bool} {ops:Array Oper} {A A':List Fact} {ps:List Prop} {a:Act} {w:World} {Q:Exit→Act→World→Prop} (hm:E.P.follows .mixedOrders=true) (hT:∀d,TabOkW E.P (E.T d) base w0) (hq:bQ E.P E.q base w0) (h:zE E draw ops A=some (ps,A')) (hps:bC ps) (hA:Holds E.nt base w0 A a w)
  (hQ:∀a w,Holds E.nt base w0 A' a w→Q .normal a w):(draw=false→wpOps E.P ops Q (List.range ops.size) a w)∧(draw=true→∀t,wpOps E.P ops Q (Region.schedule (E.P.follows .mixedOrders) ops t) a { w with drawn:=w.drawn+1 }):=by
 unfold zE at h;split at h
 ·rename_i ps' TF rs hrun;cases hc:(Hn draw ops rs&&Hj draw ops)<;>rw[hc]at h
  ·cases h
  ·cases h;rw[Bool.and_eq_true]at hc;cases draw with
   | false =>
    refine⟨fun _ => ?_,fun e=>by cases e⟩;rw[List.range_eq_range'];exact BZ hT hq hrun hps hc.1 (fun a w hI=>hQ a w (pC hrun (fun _ h=>h) hI)) ops.size 0 a w (by omega) (by
     have:(fun i=>i<0)=fun _:Nat=>False:=funext fun i=>propext ⟨fun h=>by omega,fun h=>h.elim⟩
     rw[this];exact jX hrun hA)
   | true =>
    refine⟨fun e=>absurd e (by simp[Fence.wide]),fun _ t => ?_⟩;simp only[Region.schedule,hm,Bool.true_or,if_true];refine wpAny_sound ops.size t _ a _ ?_;have hsz:∀n,fr n (Array.replicate ops.size false)=n:=fun n=>by
     induction n with
     | zero=>rfl
     | succ n ih=>unfold fr; rw[ih]; by_cases hn:n<ops.size<;>simp[Array.getD,hn]
    refine SM hT hq hrun hps hc.1 hc.2 (fun a w hI=>hQ a w (pC hrun (fun _ h=>h) hI)) ops.size _ a _ (by simp) (hsz _) ?_;have:(fun i=>(Array.replicate ops.size false).getD i false=true)=fun _:Nat=>False:=funext fun i=>propext (by by_cases hi:i<ops.size<;>simp[Array.getD,hi])
    rw[this];exact jX hrun hA.drew
 ·cases h
theorem MD {id:Nat} {q:EqT} {c:Cfg} {draw:Bool} {ops:Array Oper} {A K L:List Fact} {ps:List Prop} {Q:Exit→Act→World→Prop} (hm:P.follows .mixedOrders=true) (hT:∀d,TabOkW P (c.T d) base w0) (hq:bQ P q base w0)
  (h:aX P q nt (fun _=>c) 1 (.region id ops draw) A K=some (ps,.nrm,L)) (hps:bC ps) (hnd:IK ops=true) {a:Act} {w:World} (hA:Holds nt base w0 A a w)
  (hQ:∀a w,Holds nt base w0 L a w→Q .normal a w):(Code.region id ops draw).wpIn (rF r) n P Q a w:=by
 unfold aX at h;simp only[run]at h;split at h
 ·rename_i ps' e' A1 h1;split at h1
  ·rename_i p A2 h2;cases h1;split at h
   ·rename_i L' h3;cases h;have key:=QL (E:=Sr P q nt c) (Q:=iF fun a w=>Holds nt base w0 L a w) hm hT hq h2 hps hA fun a w hA1=>⟨rfl,hA1.sub (iE h3)⟩
    have fin:∀l a w,wpOps P ops (iF fun a w=>Holds nt base w0 L a w) l a w→wpOpsIn (rF r) n P ops Q l a w:=fun l a w hw=>by
     have:=AA (r:=r) (n:=n) (Q':=Q) (R:=[]) hnd oU (fun a w hK=>hQ a w hK.2) (fun e a w he hK=>(he hK.1).elim) l a w hw
     rwa [List.append_nil]at this
    cases draw with
    | false=>exact wpIn_region (fin _ _ _ (key.1 rfl))
    | true=>exact wpIn_region_draw fun t=>fin _ _ _ (key.2 rfl t)
   ·cases h
  ·cases h1
 ·cases h
theorem sE {s e:Nat} {q:EqT} {c:Cfg} {big:Array Oper} {A K L:List Fact} {ps:List Prop} {Q:Exit→Act→World→Prop} {R:List Nat} (hT:∀d,TabOkW P (c.T d) base w0) (hq:bQ P q base w0) (h:cX P q nt c (big.extract s e) A K=some (ps,L)) (hps:bC ps)
  (hg:(big.extract s e).toList.all (fun o=>o.guard.isNone)=true) (hnd:IK big=true) {a:Act} {w:World} (hA:Holds nt base w0 A a w)
  (hQ:∀a w,Holds nt base w0 L a w→wpOpsIn (rF r) n P big Q R a w):wpOpsIn (rF r) n P big Q (List.range' s (big.extract s e).size++R) a w:=by
 have h1:=aJ (Q:=iF fun a w=>Holds nt base w0 L a w) (R:=[]) hT hq h hps hg hA fun a w hA=>⟨rfl,hA⟩
 rw[List.append_nil]at h1;exact AA hnd oU (fun a w hK=>hQ a w hK.2) (fun e a w he hK=>(he hK.1).elim) _ _ _ h1
theorem CS {big:Array Oper} {Q:Exit→Act→World→Prop} {R:List Nat} {i:Nat} {o:Oper} (ho:big[i]?=some o) (hg:o.guard=none) {a:Act} {w:World} (h:o.wpIn (rF r) n P a w (fun a w=>wpOpsIn (rF r) n P big Q R a w) Q):wpOpsIn (rF r) n P big Q (i::R) a w:=by
 simp only[wpOpsIn];rw[ho];simp only;have hw:∀y,Region.wanted o y=true:=fun y=>by unfold Region.wanted; rw[hg]
 rw[if_pos (hw _)];exact h
def _root_.Go.Act.md (a:Act) (d:List Deferred):Act:={ a with defers:=d }
def BS (o:Oper):Bool:=match o.op with
 | .move _=>true
 | .assign _=>true
 | .load _ _=>true
 | .extract _ _=>true
 | _=>false
theorem Ic {s:Sem Value} {w w':World} {nx:Next} (h:(do pure (.value (←s)):Sem Next).run P w=.ok nx w'):∃v,nx=.value v:=by
 rw[Sem.run_bind]at h;cases hs:s.run P w with
 | ok v w1 =>
  rw[hs]at h;simp only[Result.andThen_ok,Sem.run_pure]at h;injection h with h1 h2;exact⟨v,h1.symm⟩
 | halt x w1 =>
  rw[hs]at h;cases h
theorem YI {ρ:Operand→Value} {o:Oper} {w w':World} {nx:Next} (ht:BS o=true) (h:(execOp ρ o).run P w=.ok nx w'):∃v,nx=.value v:=by
 unfold execOp at h;cases ho:o.op<;>simp only[BS,ho]at ht<;>first
  | (cases ht; done)
  | (simp only[ho]at h; exact Ic h)
  | (simp only[ho,Sem.run_pure]at h; injection h with h1 h2; exact⟨_,h1.symm⟩)
def MZ (ops:Array Oper):Bool:=ops.toList.all BS
theorem UC {ops:Array Oper} (h:MZ ops=true) {i:Nat} {o:Oper} (ho:ops[i]?=some o):BS o=true:=by
 have hm:o∈ops.toList:=by
  have:ops.toList[i]?=some o:=by rw[Array.getElem?_toList]; exact ho
  exact List.mem_of_getElem? this
 exact List.all_eq_true.1 h o hm
theorem CQ {d:List Deferred} {ops:Array Oper} {K:Act→World→Prop} {Q:Exit→Act→World→Prop} (ht:MZ ops=true) (hn:∀a w,K a w→Q .normal (a.md d) w) :
  ∀(l:List Nat) (a:Act) (w:World),wpOps P ops (iF K) l a w→wpOps P ops Q l (a.md d) w
 | [],a,w,h=>hn a w h.2
 | i::l,a,w,h=>by
  simp only[wpOps]at h ⊢;have hp:∀(o:Oper) v,(a.md d).put o.dst v=(a.put o.dst v).md d:=fun o v=>by cases o.dst<;>rfl
  cases ho:ops[i]? with
  | none =>
   rw[ho]at h;exact CQ ht hn l a w h
  | some o =>
   rw[ho]at h;simp only at h ⊢;have hy:(a.md d).tmps=a.tmps:=rfl;rw[hy]
   by_cases hw:Region.wanted o (yielded ops a.tmps)=true
   ·rw[if_pos hw]at h ⊢
    rcases h with h|⟨_,h⟩
    ·refine Or.inl ?_;unfold Oper.wp at h ⊢;have he:(a.md d).eval=a.eval:=rfl;rw[he];cases hres:(execOp a.eval o).run P w with
     | ok nx w' =>
      obtain⟨v,rfl⟩:=YI (UC ht ho) hres;rw[hres]at h;show wpOps P ops Q l ((a.md d).put o.dst v) w';rw[hp];exact CQ ht hn l _ _ h
     | halt x w' =>
      rw[hres]at h;cases x with
      | panic v=>cases h.1
      | _=>exact h.elim
    ·exact (oU h).elim
   ·rw[if_neg hw]at h ⊢;rw[hp];exact CQ ht hn l _ _ h
theorem ZL {id:Nat} {d:List Deferred} {q:EqT} {c:Cfg} {ops:Array Oper} {A K L:List Fact} {ps:List Prop} {Q:Exit→Act→World→Prop} (hm:P.follows .mixedOrders=true) (hT:∀d,TabOkW P (c.T d) base w0) (hq:bQ P q base w0)
  (h:aX P q nt (fun _=>c) 1 (.region id ops false) A K=some (ps,.nrm,L)) (hps:bC ps) (ht:MZ ops=true) {a:Act} {w:World} (hA:Holds nt base w0 A a w)
  (hQ:∀a w,Holds nt base w0 L a w→Q .normal (a.md d) w):(Code.region id ops false).wp P Q (a.md d) w:=by
 unfold aX at h;simp only[run]at h;split at h
 ·rename_i ps' e' A1 h1;split at h1
  ·rename_i p A2 h2;cases h1;split at h
   ·rename_i L' h3;cases h;have key:=QL (E:=Sr P q nt c) (Q:=iF fun a w=>Holds nt base w0 L a w) hm hT hq h2 hps hA fun a w hA1=>⟨rfl,hA1.sub (iE h3)⟩
    exact wp_region (CQ ht hQ _ _ _ (key.1 rfl))
   ·cases h
  ·cases h1
 ·cases h
theorem zM {g:Operand} {ps:Array Tmp} {assign body:Code} {Q:Exit→Act→World→Prop} {a:Act} {w:World} {gf:Nat} {lb:Array Value} (hg:a.eval g=.func (.func gf) #[] lb) (eg:∀args w,(callFunc gf args).run P w=.ok (.enter gf args) w)
  (h:∀fn,Calls P gf (#[.func (.yield (w.heap.size+1)) #[] #[]]++lb) ((w.alloc (.deferred (some []))).alloc (.loop { state:=.ready,pending:=none,fn,tmps:=a.tmps,params:=ps,assign,body,defers:=w.heap.size })) fun e W'=>∃v rec,e=.returned v∧W'.heap[w.heap.size+1]?=some (.loop rec)∧rec.state ≠ .busy∧rec.pending=none∧Q .normal (a.md ({ target:=.collected w.heap.size,args:=#[] }::a.defers)) (W'.putObj (w.heap.size+1) (.loop { rec with state:=.exhausted }))) :
  (Code.rangeFunc g ps assign body).wp P Q a w:=by
 refine (wpIn_wide (n:=0)).1 (wpIn_rangeFunc fun fn _ => ?_);have h0:=h fn;have he:=run_enterLoop_outer (P:=P) (w:=w) fn a.tmps ps assign body;generalize hW1:(w.alloc (.deferred (some []))).alloc (.loop { state:=.ready,pending:=none,fn,tmps:=a.tmps,params:=ps,assign,body,defers:=w.heap.size })=W1 at h0 he;refine⟨w.heap.size+1,[{ target:=.collected w.heap.size,args:=#[] }],W1,{ target:=.fn (.func gf) lb,args:=#[.func (.yield (w.heap.size+1)) #[] #[]] },W1,gf,#[.func (.yield (w.heap.size+1)) #[] #[]]++lb,W1,he,?_,fun _ _=>trivial,?_,fun e=>absurd e (by simp[Fence.wide]),?_⟩
 ·simp only[resolve,hg];simp[go_sem]
 ·simp[invoke,go_sem,eg]
 ·refine callsIn_wide.2 (Calls.mono h0 ?_)
  rintro e W' ⟨v,rec,rfl,h1,h2,h3,h4⟩
  refine⟨none,_,?_,h4⟩;rw[run_endLoop (P:=P) h1 h2];exact congrArg (fun p=>Result.ok p _) h3
end
def AD (k:Nat):Fact→Bool
 | .row k' _ _ => !(Nat.beq k' k)
 | _=>true
theorem Ba {k:Nat} {o:Bool} {l:List At} (h:AD k (.row k o l)=true):False:=by
 have h:(!(Nat.beq k k))=true:=h;rw[Nat.beq_refl]at h;cases h
theorem Holds.wr {nt base:Nat} {w0:World} {A:List Fact} {a:Act} {w:World} (h:Holds nt base w0 A a w) {k b o:Nat} {l l':List At} {vs:List Value} (h1:Fact.row k true l∈A) (h2:Fact.at k b∈A) (hlen:o+vs.length≤dN l)
  (hl:∀j v,(aA l')[j]?=some v→(o≤j∧vs[j-o]?=some v)∨((j<o∨o+vs.length≤j)∧(aA l)[j]?=some v)) :
  Holds nt base w0 (.row k true l'::A.filter (AD k)) a (w.setCells b o vs):=by
 obtain⟨β,g1,g2,g3,gt⟩:=h.facts;obtain⟨e1,e2,e3,_⟩:=g1 _ h1;obtain⟨e4,e5,e6⟩:=e3 rfl;have e7:=g1 _ h2;simp only[Fact.ok]at e7;obtain⟨rfl,_⟩:=e7;rw[e5]at e2;have old:∀φ,φ∈A.filter (AD k)→φ∈A∧AD k φ=true:=fun φ hφ=>List.mem_filter.1 hφ
 have hth:∀q,q<vs.length→(w.cell? ⟨(β k).1,o+q,none⟩).isSome=true:=fun q hq=>by
  have hlt:o+q<(aA l).length:=by rw[aS]; omega
  have:=e2 (o+q) ((aA l)[o+q]'hlt) (List.getElem?_eq_getElem _);rw[Nat.zero_add]at this;rw[this]; rfl
 have up:∀k1 o1 l1,Fact.row k1 o1 l1∈(Fact.row k true l'::A.filter (AD k))→∃l2,Fact.row k1 o1 l2∈A:=fun k1 o1 l1 e=>by
  rcases List.mem_cons.1 e with e|e
  ·cases e; exact⟨_,h1⟩
  ·exact⟨_,(old _ e).1⟩
 refine⟨h.defers,h.size,fS e4 _ _ _ _ h.below,by rw[dC]; exact h.heap,β,fun φ hφ => ?_,fun k1 k2 o2 l1 l2 q1 q2 hne => ?_,fun k1 l1 e => ?_,?_⟩
 ·rcases List.mem_cons.1 hφ with rfl|hφ
  ·refine⟨by rw[dC]; exact e1,fun j v hj => ?_,fun _=>⟨e4,e5,fun j=>by rw[World.frozen?_setCells]; exact e6 j⟩,fun h=>by cases h⟩;rw[e5,Nat.zero_add]
   rcases hl j v hj with⟨q1,q2⟩|⟨q1,q2⟩
   ·have hlt:j-o<vs.length:=(List.getElem?_eq_some_iff.1 q2).1;have:=World.cell?_setCells_in (β k).1 vs o w hth (j-o) hlt;rw[show o+(j-o)=j by omega]at this;rw[this,←q2,List.getElem?_eq_getElem hlt]
   ·rw[World.cell?_setCells_out _ _ _ _ _ (fun _ _=>q1)];have:=e2 j v q2
    rwa [Nat.zero_add]at this
  ·obtain⟨hin,hno⟩:=old _ hφ;have e:=g1 φ hin;cases φ with
   | slot s v=>exact e
   | row k1 ow l1 =>
    obtain⟨q1,q2,q3,q4⟩:=e;have hk:k≠k1:=fun hk=>by subst hk; exact Ba hno
    have hb:=g2 k k1 ow l l1 h1 hin hk;refine⟨by rw[dC]; exact q1,fun j v hj => ?_,fun ho => ?_,fun _=>trivial⟩
    ·rw[World.cell?_setCells_out _ _ _ _ _ (fun q _=>absurd q.symm hb)];exact q2 j v hj
    ·obtain⟨r1,r2,r3⟩:=q3 ho;exact⟨r1,r2,fun j=>by rw[World.frozen?_setCells]; exact r3 j⟩
   | «at» k1 b1=>exact e
   | app k1 e' sz n=>exact AppAt.shape (dV _ _ _ _) e
 ·obtain⟨m1,r1⟩:=up _ _ _ q1;obtain⟨m2,r2⟩:=up _ _ _ q2;exact g2 k1 k2 o2 m1 m2 r1 r2 hne
 ·obtain⟨m1,r1⟩:=up _ _ _ e;exact g3 k1 m1 r1
 ·refine⟨by rw[dC]; exact gt.size,fun p p1 p2 => ?_,gt.shape.trans (dV _ _ _ _)⟩;have hne:p.block≠(β k).1:=by
   rcases g3 k l h1 with q|q<;>omega
  rw[World.cell?_setCells_out _ _ _ _ _ (fun q _=>absurd q hne),World.frozen?_setCells];exact gt.mem p p1 p2
section
variable {P:Program} {n:Nat}
theorem ET {o:Oper} {a:Act} {w:World} {K:Act→World→Prop} {Q:Exit→Act→World→Prop} {x:Operand} {xs:Array Operand} {ts:Array TypeId} {l:Nat} {vs:Array Value} {rec:Loop} (ho:o.op=.call ⟨.value x,xs,ts⟩) (hx:a.eval x=.func (.yield l) #[] #[]) (hv:xs.map a.eval=vs)
  (hl:w.heap[l]?=some (.loop rec)) (hs:vs.size=rec.params.size)
  (hR:RoundIn Fence.wide (n-1) P l rec.fn ((rec.params.zip vs).foldl (fun t (p,v)=>t.setIfInBounds p v) rec.tmps) rec.assign rec.body w fun e W'=>∃v,e=.returned v∧K (a.put o.dst v) W'):o.wpIn (rF none) n P a w K Q:=by
 refine⟨fun _ _=>trivial,?_⟩;show o.uponIn (rF none) n P a K Q ((o.semAt none a.eval).run P w);rw[zO none _ o (fun c h=>by rw[ho]at h; cases h)];have hy:=run_yield (P:=P) (args:=vs) hl hs;have hrun:(execOp a.eval o).run P w=.ok (.round l rec.fn ((rec.params.zip vs).foldl (fun t (p,v)=>t.setIfInBounds p v) rec.tmps) rec.assign rec.body) w:=by
  simp[execOp,ho,resolve,Deferred.ofValue,hx,hv,invoke,hy]
 rw[hrun];refine⟨fun e=>absurd e (by simp[Fence.wide]),hR.mono ?_⟩
 rintro e W' ⟨v,rfl,hK⟩
 exact hK
theorem FX {l:Nat} {fn:FuncId} {tmps:Array Value} {assign body:Code} {w:World} {R:Ending→World→Prop} {K0:Act→World→Prop} (ha:assign.wpIn (rF (some l)) n P (iF K0) { tmps:=tmps,defers:=[] } w)
  (h:∀a1 w1,K0 a1 w1→∃rec,w1.heap[l]?=some (.loop rec)∧rec.state=.ready∧body.wpIn (rF (some l)) n P (iF fun _ W3=>∃rec3,W3.heap[l]?=some (.loop rec3)∧R (.returned (.bool true)) (W3.putObj l (.loop { rec3 with state:=.ready,pending:=none }))) a1 (w1.putObj l (.loop { rec with state:=.busy }))) :
  RoundIn Fence.wide n P l fn tmps assign body w R:=by
 refine roundIn_of_wpIn (F:=Fence.wide) trivial (wpIn_mono ha ?_)
 rintro e a1 w1 ⟨rfl,hK⟩
 obtain⟨rec,h1,h2,h3⟩:=h a1 w1 hK;refine⟨_,run_beginRound h1 h2,wpIn_mono h3 ?_⟩
 rintro e a3 W3 ⟨rfl,rec3,h4,h5⟩
 exact⟨_,_,run_endRound none h4,h5⟩
end
theorem lQ {w:World} {l:Nat} {r:Loop} {o:Obj} (h:w.heap[l]?=some (.loop r)) {p:Addr} (hp:p.block≠l):(w.putObj l o).cell? p=w.cell? p∧(w.putObj l o).frozen? p=w.frozen? p :=
 ⟨World.cell?_of_block (World.putObj_heap_other hp),World.frozen?_of_block (World.putObj_heap_other hp)⟩
theorem lO {w:World} {l:Nat} {r:Loop} {o:Obj} (h:w.heap[l]?=some (.loop r)) {b s:Nat} {vs:List Value} (hb:b≠l) (hr:w.rangeAt b s vs):(w.putObj l o).rangeAt b s vs:=fun j v hj=>by
 rw[(lQ h (p:=⟨b,s+j,none⟩) hb).1]; exact hr j v hj
theorem gV {B l:Nat} {w0 w:World} (h:Below B w0 w) (hB:B≤l) (o:Obj):Below B w0 (w.putObj l o) :=
 ⟨h.os,h.tape,h.output,by rw[World.putObj_size]; exact h.size,fun k hk=>(World.putObj_heap_other (by omega)).trans (h.block k hk)⟩
end Go.Proofs.YtpjlhhpjpnacmaaGreatDoor.Ex
namespace Go.Proofs.YtpjlhhpjpnacmaaGreatDoor
open Go.Proofs.Tryz
open Go.RowKit
def jD (B:Nat→Nat) (s:Nat):Nat→Nat
 | 0=>0
 | n+1=>jD B s n*256+B (s+n)
theorem uC {B:Nat→Nat} (hB:∀k,B k<256) (s:Nat):∀n,jD B s n<256^n
 | 0=>by simp[jD]
 | n+1=>by
  have h1:=uC hB s n;have h2:=hB (s+n);show jD B s n*256+B (s+n)<256^n*256;omega
theorem AH (B:Nat→Nat) (s n:Nat):∀m,jD B s (n+m)=jD B s n*256^m+jD B (s+n) m
 | 0=>by simp[jD]
 | m+1=>by
  show jD B s (n+m)*256+B (s+(n+m))=jD B s n*(256^m*256)+(jD B (s+n) m*256+B (s+n+m));rw[AH B s n m,Nat.add_mul,Nat.mul_assoc,Nat.add_assoc s n m,Nat.add_assoc]
theorem QD (B:Nat→Nat) (s:Nat):∀n,fE 256 (fun k=>B (s+n-1-k)) n=jD B s n
 | 0=>rfl
 | n+1=>by
  rw[tE];show B (s+(n+1)-1-0)+256*fE 256 (fun k=>B (s+(n+1)-1-(1+k))) n=jD B s n*256+B (s+n);have e:(fun k=>B (s+(n+1)-1-(1+k)))=fun k=>B (s+n-1-k):=by
   funext k; congr 1; omega
  rw[e,QD B s n,Nat.mul_comm,show s+(n+1)-1-0=s+n by omega];omega
def bF (A p:Nat):Nat:=A/256^(31-p)%256
theorem jZ (A p:Nat):bF A p<256:=Nat.mod_lt _ (by omega)
theorem AI (A:Nat) (h:A<256^32):∀n,n≤32→jD (bF A) 0 n=A/256^(32-n)
 | 0,_=>by
  show 0=_;rw[Nat.div_eq_of_lt (by simpa using h)]
 | n+1,hn=>by
  show jD (bF A) 0 n*256+bF A (0+n)=_;rw[AI A h n (by omega),Nat.zero_add];unfold bF;rw[show 32-n=(32-(n+1))+1 by omega,show 31-n=32-(n+1) by omega,Nat.pow_succ,←Nat.div_div_eq_div_mul];generalize A/256^(32-(n+1))=X;omega
theorem sO {A:Nat} (h:A<115792089237316195423570985008687907853269984665640564039457584007913129639936):jD (bF A) 0 32=A:=by
 have:=AI A (by simpa using h) 32 (by omega);simpa using this
theorem SV (P:Nat→Nat) (hP:∀k,P k<18446744073709551616) (n j m:Nat) (hj:j<n) (hm:m<8):P j/2^(8*m)%256=fE 18446744073709551616 P n/256^(8*j+m)%256:=by
 obtain⟨q,rfl⟩:∃q,n=j+(q+1):=⟨n-j-1,by omega⟩
 have h1:=iO 18446744073709551616 P j (q+1);have h2:=tE 18446744073709551616 (fun k=>P (j+k)) q;have h3:=wC 18446744073709551616 P (by omega) j (fun k _=>hP k);have e1:256^(8*j+m)=18446744073709551616^j*2^(8*m):=by
  rw[Nat.pow_add,Nat.pow_mul,Nat.pow_mul]
 rw[h1,h2,e1,←Nat.div_div_eq_div_mul,Nat.add_mul_div_left _ _ (by exact Nat.pow_pos (by omega)),Nat.div_eq_of_lt h3,Nat.zero_add];have e:18446744073709551616=2^(8*m)*(256*2^(56-8*m)):=by
  rw[show (256:Nat)=2^8 from rfl,←Nat.pow_add,←Nat.pow_add,show 8*m+(8+(56-8*m))=64 by omega]
 show _=(P j+18446744073709551616*_)/2^(8*m)%256;generalize fE 18446744073709551616 (fun k=>P (j+(1+k))) q=H;rw[show 18446744073709551616*H=2^(8*m)*(256*2^(56-8*m))*H by rw[←e],Nat.mul_assoc,Nat.add_mul_div_left _ _ (by exact Nat.pow_pos (by omega)),Nat.mul_assoc,Nat.add_mul_mod_self_left]
theorem Te {i:Nat} (h:i<32):∃j m s p:Nat,(i:Int)/8=(j:Int)∧(i:Int)%8=(m:Int)∧(m:Int)*8=(s:Int)∧(31:Int)-(i:Int)=(p:Int)∧j<4∧m<8∧s≤56∧p<32∧Hid (i=8*j+m∧s=8*m∧p=31-i) :=
 ⟨i/8,i%8,i%8*8,31-i,by omega,by omega,by omega,by omega,by omega,by omega,by omega,by omega,Lib.hid (by omega)⟩
theorem Ou {x s b:Nat} (hx:x<18446744073709551616) (hb:x/2^s%256=b):∃t:Nat,(x:Int)/2^s=(t:Int)∧IntKind.u8.wrap (t:Int)=(b:Int)∧t<18446744073709551616:=by
 have hs:x/2^s<18446744073709551616:=Nat.lt_of_le_of_lt (Nat.div_le_self _ _) hx;refine⟨x/2^s,by rw[Int.natCast_ediv,Int.natCast_pow]; rfl,?_,hs⟩;generalize x/2^s=q at *;simp only[IntKind.wrap,IntKind.bits,IntKind.signed];simp;omega
theorem XU (R:Nat) (P:Nat→Nat) (j:Nat):∀n,j<n→P j*R^j≤fE R P n
 | 0,h=>absurd h (by omega)
 | n+1,h=>by
  rw[dI]
  rcases Nat.lt_or_ge j n with hj|hj
  ·have:=XU R P j n hj; omega
  ·obtain rfl:j=n:=by omega
   omega
theorem TP {P:Nat→Nat} {V i j m s d:Nat} (hj:j<4) (hm:m<8) (e:i=8*j+m) (es:s=8*m) (hV:fE 18446744073709551616 P 4=V) (hlt:V<256^i):P j<2^s∧fE 18446744073709551616 (jW P j (P j+d*2^s)) 4=V+d*256^i:=by
 have e1:256^i=18446744073709551616^j*2^s:=by
  rw[e,es,Nat.pow_add,Nat.pow_mul,Nat.pow_mul]
 refine⟨?_,?_⟩
 ·have h1:=XU 18446744073709551616 P j 4 hj;rw[hV]at h1;have h2:=Nat.lt_of_le_of_lt h1 hlt;rw[e1,Nat.mul_comm]at h2;exact Nat.lt_of_mul_lt_mul_left h2
 ·have h:=rJ 18446744073709551616 P j (P j+d*2^s) 4 hj;rw[Nat.add_mul]at h;rw[e1,Nat.mul_comm (18446744073709551616^j),←Nat.mul_assoc,←hV];omega
theorem Zx {x d s:Nat} (hd:d<256) (hs:s≤56) (hx:x<2^s):∃u z:Nat,IntKind.u64.wrap ((d:Int)*2^s)=(u:Int)∧bits .or .u64 (x:Int) (u:Int)=(z:Int)∧u<18446744073709551616∧z<18446744073709551616∧Hid (z=x+d*2^s):=by
 have h1:d*2^s<18446744073709551616:=by
  have a:=Nat.mul_lt_mul_of_pos_right hd (Nat.two_pow_pos s);have b:256*2^s≤18446744073709551616:=by
   rw[show (256:Nat)=2^8 from rfl,←Nat.pow_add,show 18446744073709551616=2^64 by simp];exact Nat.pow_le_pow_right (by omega) (by omega)
  omega
 have h2:x<18446744073709551616:=Nat.lt_of_lt_of_le hx (by
  rw[show 18446744073709551616=2^64 by simp]; exact Nat.pow_le_pow_right (by omega) (by omega))
 obtain⟨z,e1,e2,e3⟩:=oF (k:=s) h2 h1 (Lib.hid hx) (Lib.hid ⟨d,Nat.mul_comm _ _⟩);exact⟨d*2^s,z,by rw[gD,lG _ h1],e1,h1,e2,e3⟩
def RowB (w:World) (b n:Nat) (P:Nat→Nat):Prop:=∀k,k<n→w.cell? ⟨b,k,none⟩=some (.int .u8 (P k:Nat))∧w.frozen? ⟨b,k,none⟩=false
theorem RowB.set {w:World} {b n i v:Nat} {P:Nat→Nat} (h:RowB w b n P) (hi:i<n):RowB (w.setCell ⟨b,i,none⟩ (.int .u8 (v:Nat))) b n (jW P i v):=by
 intro k hk;refine⟨?_,by rw[World.frozen?_setCell]; exact (h k hk).2⟩;unfold jW
 by_cases e:k=i
 ·subst e; rw[if_pos rfl]; exact World.cell?_setCell_same (h:=(h k hk).1) ..
 ·rw[if_neg e,World.cell?_setCell_other (h:=fun he=>e (by simpa using (congrArg Addr.off he).symm)) ..]; exact (h k hk).1
theorem RowB.ext {w:World} {b n:Nat} {P R:Nat→Nat} (h:RowB w b n P) (e:∀k,k<n→P k=R k):RowB w b n R:=fun k hk=>⟨by rw[←e k hk]; exact (h k hk).1,(h k hk).2⟩
def kK (P:Nat→Nat→Prop) (w:World) (e:Ending) (w':World):Prop :=
 ∃s0 s1 s2 s3 c:Nat,e=.returned (.tuple #[.agg #[.int .u64 s0,.int .u64 s1,.int .u64 s2,.int .u64 s3],.int .i64 c])∧cF s0 s1 s2 s3∧P (aC s0 s1 s2 s3) c∧Below w.heap.size w w'
set_option maxHeartbeats 1000000 in
theorem CK (g off cap:Nat) (B:Nat→Nat) (hB:∀k,B k<256) (w:World) (hg:g<w.heap.size) (hc:∀k,k<32→w.cell? ⟨g,off+k,none⟩=some (.int .u8 (B k:Nat))) :
  Calls prog 39 #[.slice (some ⟨g,off,none⟩) 32 cap] w (kK (fun n c=>n=jD B 0 32∧c=0) w):=by
 have HC:=Lib.hid hc;have HB:=Lib.hid hB;have HE:=Lib.hid (QD B 0 32);have HT:=Lib.hid (fun i=>wC 256 (fun k=>B (0+32-1-k)) (by omega) i (fun k _=>hB _));clear hc hB;generalize eD:(fun k=>B (0+32-1-k))=D at *;have hD:∀i p,i<32→p=31-i→B p=D i:=fun i p hi hp=>by
  rw[←eD,hp]
 have HD:=Lib.hid hD;clear hD eD
 go_enter func39,ntmps39
 go_wp2_with fail;have R0:=Lib.hid (Row4.new (w.alloc (.cells #[.int .u64 0,.int .u64 0,.int .u64 0,.int .u64 0] 24)) 0 0 0 0 24).rows;have Z0:=Lib.hid ((Row4.new w 0 0 0 0 24).alloc (by simp) (.cells #[.int .u64 0,.int .u64 0,.int .u64 0,.int .u64 0] 24))
 go_loopw [10] (fun x wr=>∃(i:Nat) (P:Nat→Nat),i≤32∧x=.int .i64 i∧(∀k,P k<18446744073709551616)∧Hid (fE 18446744073709551616 P 4=fE 256 D i)∧RowIs wr (w.heap.size+1) 4 P∧Row4 wr w.heap.size 0 0 0 0∧Below w.heap.size w wr∧w.heap.size+1<wr.heap.size) (fun x _=>32-(intOf x).toNat)
 case atStart =>
  refine⟨0,fH [0,0,0,0],by omega,rfl,fun k=>DO ⟨by omega,by omega,by omega,by omega⟩ k,Lib.hid rfl,by simpa using R0.out,Z0.out,?_,by simp⟩;exact ((Below.refl _ _).alloc (Nat.le_refl _) _).alloc (by simp) _
 case round =>
  obtain⟨i,P,hi,rfl,lP,tP,rP,z0,hb,hz⟩:=hrel;have HBl:=Lib.hid hb;have HZ:=Lib.hid z0;have HlP:=Lib.hid lP;have HR:=Lib.hid rP
  by_cases hlt:i<32
  ·obtain⟨j,m,s,p,q1,q2,q3,q4,hj,hm,hs,hp,e⟩:=Te hlt;have cx:=rP.cell hj;have fx:=rP.free hj;have cb:wr.cell? ⟨g,off+p,none⟩=some (.int .u8 (B p:Nat)):=(hb.cell (p:=⟨g,off+p,none⟩) hg).trans (HC.out p hp);have lb:=HB.out p;have hbD:=HD.out i p hlt e.out.2.2;have st:=TP (d:=D i) hj hm e.out.1 e.out.2.1 tP.out (HT.out i);obtain⟨u,z,e1,e2,lu,lz,ez⟩:=Zx lb hs st.1;have HN:=Lib.hid (show fE 18446744073709551616 (jW P j z) 4=fE 256 D (i+1) by
    rw[ez.out,hbD,st.2,dI])
   have lx:=lP j;generalize P j=x at *;generalize B p=b at *;clear z0 hb rP lP tP st hbD e ez;go_wp2_with fail
   go_region
   go_wp2_with fail
   go_roundw
   case rel=>exact⟨i+1,jW P j z,by omega,by go_num,fun k=>by unfold jW; split; exact lz; exact HlP.out k,HN,(HR.out.drewN 1).set hj,(HZ.out.drewN 1).other (by omega) _,(HBl.out.drew).setCell (p:=⟨w.heap.size+1,j,none⟩) (by simp) _,by show _<(wr.setCell _ _).heap.size; rw[World.size_setCell]; exact hz⟩
   case measure=>first|(simp[intOf]; done)|(simp[intOf]; omega)
  ·obtain rfl:i=32:=by omega
   have HF:=Lib.hid ((jA P).trans (tP.out.trans HE.out));have c0:=rP.cell (show 0<4 by omega); have c1:=rP.cell (show 1<4 by omega); have c2:=rP.cell (show 2<4 by omega); have c3:=rP.cell (show 3<4 by omega);have k0:=z0.c0; have k1:=z0.c1; have k2:=z0.c2; have k3:=z0.c3; have kf:=z0.fr;have l0:=lP 0; have l1:=lP 1; have l2:=lP 2; have l3:=lP 3;clear rP z0 hb lP tP;go_wp2_with fail;refine bodyPost_ret (v:=.tuple #[.agg #[.int .u64 (P 0),.int .u64 (P 1),.int .u64 (P 2),.int .u64 (P 3)],.int .i64 0]) (by simp[results,results39,go_sem, *]) rfl ?_;exact⟨P 0,P 1,P 2,P 3,0,rfl,⟨l0,l1,l2,l3⟩,⟨HF.out,rfl⟩,aZ HBl.out (by omega) _ _ _ _⟩
end Go.Proofs.YtpjlhhpjpnacmaaGreatDoor
namespace Go.Proofs.YtpjlhhpjpnacmaaGreatDoor.Ex
open Go.Proofs.Tryz
open Go.RowKit
def gU (x:Nat):List At:=[.c (.int .u8 (Int.ofNat x))]
def Tq (N:Nat):List At:=cJ (fun k=>gU (bF N k)) 0 32
theorem pA {f:Nat→Nat}:∀(n s j:Nat),j<n→(aA (cJ (fun k=>gU (f k)) s n))[j]?=some (.int .u8 (Int.ofNat (f (s+j))))
 | n+1,s,0,_=>rfl
 | n+1,s,j+1,h=>by
  show (aA (gU (f s)++cJ (fun k=>gU (f k)) (s+1) n))[j+1]?=_;rw[aP];show ([Value.int .u8 (Int.ofNat (f s))]++aA (cJ (fun k=>gU (f k)) (s+1) n))[j+1]?=_;rw[show s+(j+1)=s+1+j by omega];exact pA n (s+1) j (by omega)
theorem uD {f:Nat→Nat} (n s:Nat):(aA (cJ (fun k=>gU (f k)) s n)).length=n:=by
 rw[aS,iG (c:=1) (fun _=>rfl)]; omega
def BM (w:World) (g o n:Nat) (f:Nat→Nat):Prop:=g<w.heap.size∧(∀j,f j<256)∧∀j,j<n→w.cell? ⟨g,o+j,none⟩=some (.int .u8 (Int.ofNat (f j)))
theorem BM.on {w w':World} {g o n:Nat} {f:Nat→Nat} (h:BM w g o n f) (hb:Below w.heap.size w w'):BM w' g o n f :=
 ⟨Nat.lt_of_lt_of_le h.1 hb.size,h.2.1,fun j hj=>(hb.cell (p:=⟨g,o+j,none⟩) h.1).trans (h.2.2 j hj)⟩
abbrev hN (f:Nat→Nat) (n:Nat):Nat:=Go.Proofs.YtpjlhhpjpnacmaaGreatDoor.jD f 0 n
theorem Da {f:Nat→Nat} (hf:∀j,f j<256) {n:Nat} (hn:n≤32):hN f n<aG:=by
 have h1:=uC hf 0 n;have h2:256^n≤256^32:=Nat.pow_le_pow_right (by omega) hn;exact Nat.lt_of_lt_of_le h1 (Nat.le_trans h2 (by decide))
theorem aJG {f:Nat→Nat} (hf:∀j,f j<256) {n:Nat} (hn:n≤31):hN f n<RM:=by
 have h1:=uC hf 0 n;have h2:256^n≤256^31:=Nat.pow_le_pow_right (by omega) hn;exact Nat.lt_of_lt_of_le h1 (Nat.le_trans h2 (by decide))
theorem Mz {f:Nat→Nat} (hf:∀j,f j<256) {n k:Nat} (hn:n≤32) (hk:k<32):bF (hN f n) k=if k<32-n then 0 else f (k-(32-n)):=by
 unfold bF hN
 by_cases h:k<32-n
 ·rw[if_pos h];have h1:=uC hf 0 n;have h2:256^n≤256^(31-k):=Nat.pow_le_pow_right (by omega) (by omega);rw[Nat.div_eq_of_lt (Nat.lt_of_lt_of_le h1 h2)]
 ·rw[if_neg h];obtain⟨a,ha⟩:∃a,n=(a+1)+(31-k):=⟨k-(32-n),by omega⟩
  have hsp:=AH f 0 (a+1) (31-k);rw[←ha]at hsp;have hlt:=uC hf (0+(a+1)) (31-k);rw[hsp,Nat.mul_comm,Nat.mul_add_div (Nat.pow_pos (by omega)),Nat.div_eq_of_lt hlt,Nat.add_zero];show (Go.Proofs.YtpjlhhpjpnacmaaGreatDoor.jD f 0 a*256+f (0+a))%256=_;rw[Nat.mul_comm,Nat.mul_add_mod,Nat.mod_eq_of_lt (hf _),show k-(32-n)=0+a by omega]
def No (N:Nat):gE
 | [.s l 32 m]=>some ([aA l=aA (Tq N),N<aG],.many [.fl [.q N],.im (.int .i64 0)])
 | _=>none
theorem Nn (N:Nat):∀cs pre r,No N cs=some (pre,r)→bC pre→∀(args:List Value) (w:World),cP w cs args→bG prog 39 r args w:=by
 intro cs pre r hg hp args w ha;unfold No at hg;split at hg
 ·rename_i l m;cases hg;obtain⟨h1,h2,_⟩:=hp
  match args,ha with
  | [v],ha =>
   obtain⟨b,o,rfl,hb,hr⟩:=ha.1;have h:=CK b o m (bF N) (jZ N) w hb fun k hk=>hr k _ (by rw[h1]; have:=pA (f:=bF N) 32 0 k hk; rwa [Nat.zero_add]at this)
   refine h.mono ?_
   rintro e w' ⟨s0,s1,s2,s3,c',rfl,hs,⟨h3,rfl⟩,hbl⟩
   rw[sO h2]at h3;obtain⟨rfl,rfl,rfl,rfl⟩:=gY hs h2 h3;exact⟨rfl,hbl⟩
  | [],ha=>exact ha.elim
  | _::_::_,ha=>exact ha.2.elim
 ·cases hg
theorem Holds.ptV {nt base:Nat} {w0:World} {A:List Fact} {a:Act} {w:World} (h:Holds nt base w0 A a w) {s k o b:Nat} (h1:Fact.slot s (.pt k o)∈A) (h2:Fact.at k b∈A):a.eval (.tmp s)=ptV b o:=by
 obtain⟨β,g1,_⟩:=h.facts;have e1:=g1 _ h1;have e2:=g1 _ h2;simp only[Fact.ok]at e1 e2;simp[Act.eval,e1,AV.den,e2,Go.Proofs.YtpjlhhpjpnacmaaGreatDoor.Ex.ptV]
theorem Holds.imV {nt base:Nat} {w0:World} {A:List Fact} {a:Act} {w:World} (h:Holds nt base w0 A a w) {s:Nat} {v:Value} (h1:Fact.slot s (.im v)∈A):a.eval (.tmp s)=v:=by
 have e1:=h.slot h1;simp[Act.eval,e1]
theorem GK {A:List Fact} {d:Nat} (h:A.all (fun φ => !(qT (some d) none φ))=true):∀φ∈A,qT (some d) none φ=false:=fun φ hφ=>by
 have:=List.all_eq_true.1 h φ hφ;simpa using this
def tC (T:Tab) (num:Nat→Option Value):Cfg:=⟨fun _=>T,fun _=>true,num⟩
theorem Sc:(prog.info? 5).map (·.size)=some 1:=by kernel_rfl
theorem BP:prog.underlying 25=some (.slice 5):=by kernel_rfl
theorem Id:prog.underlying 239=some (.array 32 5):=by kernel_rfl
theorem LQ (w:World):(sizeOf 5).run prog w=.ok 1 w:=by
 have h:=Sc;cases hq:prog.info? 5 with
 | none=>rw[hq]at h; cases h
 | some i =>
  rw[hq]at h;have:i.size=1:=by simpa using h
  simp[sizeOf,typeInfo,hq,this]
def qK:Code:=(f145.body).getD .skip
def Be:Code:=cB (cB qK)
noncomputable abbrev nmT:Nat:=f145.ntmps
theorem Lw:qK=.seq (cA qK) (.seq (cA (cB qK)) (.seq (.region 2 (aE (cA Be)) false) (.seq (cA (cB Be)) (.seq (cA (cB (cB Be))) .ret)))):=by kernel_rfl
def zl:List At:=List.replicate 32 (.c (.int .u8 0))
def nA (v:Value):List Fact:=[.slot 0 (.im v),.slot 2 (.pt 2 0),.row 2 true [.f ⟨0,dB⟩]]
def nB (v:Value) (L:List At):List Fact:=[.slot 3 (.pt 3 0),.row 3 true L,.slot 0 (.im v),.slot 2 (.pt 2 0),.row 2 true [.f ⟨0,dB⟩]]
theorem aDH (v:Value):aX prog (qG prog) nmT (fun _=>tC T0 fun _=>none) 40 (cA qK) (fJ 0 [.v (.im v)]) (nA v)=some ([],.nrm,nA v):=by kernel_rfl
theorem aDG (v:Value):aX prog (qG prog) nmT (fun _=>tC T0 fun _=>none) 40 (cA (cB qK)) (nA v) (nB v zl)=some ([],.nrm,nB v zl):=by kernel_rfl
theorem aDF (g o k m b:Nat):cX prog (qG prog) nmT (tC T0 (assoc [(8,iI (32-k))])) ((aE (cA Be)).extract 0 3) (.at 3 b::nB (aM g o k m) zl) (.slot 8 (.im (iI (32-k))) :: .at 3 b::nB (aM g o k m) zl)=some ([aN .sub .i64 32 (Int.ofNat k)=some (iI (32-k))],.slot 8 (.im (iI (32-k))) :: .at 3 b::nB (aM g o k m) zl):=by kernel_rfl
theorem aDE (v s:Value) (b:Nat):cX prog (qG prog) nmT (tC T0 fun _=>none) ((aE (cA Be)).extract 4 5) (.slot 9 (.im s) :: .at 3 b::nB v zl) (.slot 10 (.im v) :: .slot 9 (.im s) :: .at 3 b::nB v zl)=some ([],.slot 10 (.im v) :: .slot 9 (.im s) :: .at 3 b::nB v zl):=by kernel_rfl
theorem aDD (v:Value) (N:Nat):aX prog (qG prog) nmT (fun _=>tC (T0.add 39 (No N)) fun _=>none) 40 (cA (cB Be)) (nB v (Tq N)) [.slot 4 (.pt 4 0),.row 4 true [.q N],.slot 2 (.pt 2 0),.row 2 true [.f ⟨0,dB⟩]]=some ([aA (Tq N)=aA (Tq N),N<aG],.nrm,[.slot 4 (.pt 4 0),.row 4 true [.q N],.slot 2 (.pt 2 0),.row 2 true [.f ⟨0,dB⟩]]):=by kernel_rfl
theorem aDC (N:Nat):aX prog (qG prog) nmT (fun _=>tC T0 fun _=>none) 40 (cA (cB (cB Be))) [.slot 4 (.pt 4 0),.row 4 true [.q N],.slot 2 (.pt 2 0),.row 2 true [.f ⟨0,dB⟩]] [.slot 2 (.pt 2 0),.row 2 true [.q N]]=some ([],.nrm,[.slot 2 (.pt 2 0),.row 2 true [.q N]]):=by kernel_rfl
theorem Lr {k:Nat} (h:k≤32):aN .sub .i64 32 (Int.ofNat k)=some (iI (32-k)):=nV (i:=32) h (by decide)
theorem Vs {b lo:Nat} (h:lo<32) (w:World):(Instr.sliceAt 239 (ptV b 0) (some (iI lo)) none none).run prog w=.ok (aM b lo (32-lo) (32-lo)) w:=by
 simp[Instr.sliceAt,Instr.sureAddr,ptV,aM,iI,run_underlying Id,Instr.sliceBounds,Instr.sliceBound,asIntOf,LQ,Nat.le_of_lt h,Addr.add_mid];omega
theorem Bd {w0:World} {g o k m:Nat} {f:Nat→Nat} (hv:BM w0 g o k f) (h1:1≤k) (h2:k≤31):bG prog 145 (.one (.fl [.q (hN f k)])) [aM g o k m] w0:=by
 have hG:bQ prog (qG prog) w0.heap.size w0:=(aV _).w _ _;have hT:∀n d:Nat,TabOkW prog T0 w0.heap.size w0:=fun _ _=>(bP _).w _ _
 refine cM func145 (cs:=[.v (.im (aM g o k m))]) (args:=[aM g o k m]) (c:=qK) rfl ⟨rfl,trivial⟩ (Nat.le_of_ble_eq_true (by kernel_rfl)) fun a w hA => ?_
 rw[Lw];refine wp_seq (aB aI hT hG (aDH _) trivial hA fun a w hA => ?_);refine wp_seq (aB aI hT hG (aDG _) trivial hA fun a w hA => ?_);obtain⟨b,hA⟩:=hA.at (k:=3) (l:=zl) (by simp[nB]);refine wp_seq (bK (l:=List.range' 0 ((aE (cA Be)).extract 0 3).size++(3::(List.range' 4 ((aE (cA Be)).extract 4 5).size++(5::[])))) (by kernel_rfl) ?_);refine aJ (c:=tC T0 _) (hT 0) hG (aDF g o k m b) ⟨Lr (by omega),trivial⟩ (by kernel_rfl) hA fun a w hA => ?_
 obtain⟨o3,ho3,hop3,hd3,hg3⟩:∃x,(aE (cA Be))[3]?=some x∧x.op=.slice 239 (.tmp 3) (some (.tmp 8)) none none∧x.dst=some 9∧x.guard=none:=⟨_,rfl,rfl,rfl,rfl⟩
 have e3:=hA.ptV (s:=3) (k:=3) (o:=0) (b:=b) (by simp[nB]) (by simp);have e8:=hA.imV (s:=8) (v:=iI (32-k)) (by simp);have hrun:(execOp a.eval o3).run prog w=.ok (.value (aM b (32-k) k k)) w:=by
  have:=Vs (b:=b) (lo:=32-k) (by omega) w;rw[show 32-(32-k)=k by omega]at this;unfold execOp;simp only[hop3,Option.map_some,Option.map_none,e3,e8,Sem.run_bind,this,Result.andThen_ok,Sem.run_pure]
 refine bE ho3 hg3 (cD hrun ?_);rw[hd3];have hA:=(hA.put (Below.refl _ _) (d:=9) (Nat.le_of_ble_eq_true (by kernel_rfl)) (.im (aM b (32-k) k k)) (GK (by kernel_rfl))).sub (A':=.slot 9 (.im (aM b (32-k) k k)) :: .at 3 b::nB (aM g o k m) zl) (fun φ h=>by
  rcases List.mem_cons.1 h with rfl|h
  ·exact List.mem_cons_self
  ·exact List.mem_cons_of_mem _ (List.mem_cons_of_mem _ h))
 refine aJ (c:=tC T0 _) (hT 0) hG (aDE (aM g o k m) (aM b (32-k) k k) b) trivial (by kernel_rfl) hA fun a w hA => ?_
 obtain⟨o5,ho5,hop5,hd5,hg5⟩:∃x,(aE (cA Be))[5]?=some x∧x.op=.call ⟨.builtin .copy,#[.tmp 9,.tmp 10],#[25,25]⟩∧x.dst=some 11∧x.guard=none:=⟨_,rfl,rfl,rfl,rfl⟩
 have e9:=hA.imV (s:=9) (v:=aM b (32-k) k k) (by simp);have e10:=hA.imV (s:=10) (v:=aM g o k m) (by simp);have hB:=hv.on hA.below;have hrow:=hA.old (k:=3) (l:=zl) (b:=b) (by simp[nB]) (by simp);have hfz:∀j,w.frozen? ⟨b,j,none⟩=false:=by
  obtain⟨β,g1,_⟩:=hA.facts;obtain⟨_,_,q,_⟩:=g1 (.row 3 true zl) (by simp[nB]);have e:=g1 (.at 3 b) (by simp);simp only[Fact.ok]at e;obtain⟨rfl,_⟩:=e;exact (q rfl).2.2
 have hcs:∀j v,(aA (cJ (fun j=>gU (f j)) 0 k))[j]?=some v→w.cell? ((⟨g,o,none⟩:Addr).add j)=some v:=fun j v hj=>by
  have hlt:j<k:=by have:=(List.getElem?_eq_some_iff.1 hj).1; rwa [uD]at this
  rw[pA k 0 j hlt]at hj;rw[←hj,show (⟨g,o,none⟩:Addr).add j=⟨g,o+j,none⟩ by simp[Addr.add],hB.2.2 j hlt,Nat.zero_add]
 have hz32:dN zl=32:=by kernel_rfl
 have hcell:∀j,j<(aA (cJ (fun j=>gU (f j)) 0 k)).length→(w.cell? ⟨b,32-k+j,none⟩).isSome=true:=fun j hj=>by
  rw[uD]at hj;have hlt:32-k+j<(aA zl).length:=by rw[aS,hz32]; omega
  have:=hrow.2 (32-k+j) _ (List.getElem?_eq_getElem hlt);rw[Nat.zero_add]at this;rw[this]; rfl
 have hone:∀x∈aA (cJ (fun j=>gU (f j)) 0 k),x.oneCell'=true:=fun x hx=>by
  obtain⟨j,hj⟩:=List.mem_iff_getElem?.1 hx;have hlt:j<k:=by have:=(List.getElem?_eq_some_iff.1 hj).1; rwa [uD]at this
  rw[pA k 0 j hlt]at hj;cases hj; rfl
 have hcp:=run_copy_cells (P:=prog) w 25 25 o5.type 5 b (32-k) k k ⟨g,o,none⟩ k m (aA (cJ (fun j=>gU (f j)) 0 k)) BP Sc (by rw[uD]; exact (Nat.min_self k).symm) hcs hcell (fun j _=>hfz _) hone;have hrun:(execOp a.eval o5).run prog w=.ok (.value (goInt (aA (cJ (fun j=>gU (f j)) 0 k)).length)) (w.setCells b (32-k) (aA (cJ (fun j=>gU (f j)) 0 k))):=by
  unfold execOp;simp only[hop5,resolve,invoke,builtin,Sem.run_bind,Sem.run_pure,Result.andThen_ok,List.map_toArray,List.map_cons,List.map_nil,e9,e10,aM,hcp]
 refine bE ho5 hg5 (cD hrun ?_);rw[hd5];have hA:=hA.wr (k:=3) (b:=b) (o:=32-k) (l:=zl) (l':=Tq (hN f k)) (vs:=aA (cJ (fun j=>gU (f j)) 0 k)) (by simp[nB]) (by simp) (by rw[uD,hz32]; omega) (fun j v hj=>by
  have hlt:j<32:=by have:=(List.getElem?_eq_some_iff.1 hj).1; unfold Tq at this; rwa [uD]at this
  have hc:=pA (f:=bF (hN f k)) 32 0 j hlt;unfold Tq at hj;rw[hc,Nat.zero_add,Mz hB.2.1 (by omega) hlt]at hj
  by_cases h:j<32-k
  ·right;rw[if_pos h]at hj;refine⟨Or.inl h,?_⟩;rw[←hj];have e:∀q,q<32→(aA zl)[q]?=some (.int .u8 0):=by
    have:aA zl=List.replicate 32 (.int .u8 0):=by kernel_rfl
    intro q hq;rw[this,List.getElem?_replicate,if_pos hq]
   exact e j hlt
  ·left;rw[if_neg h]at hj;refine⟨by omega,?_⟩;rw[pA k 0 (j-(32-k)) (by omega),Nat.zero_add];exact hj)
 have hA:=hA.put (Below.refl _ _) (d:=11) (Nat.le_of_ble_eq_true (by kernel_rfl)) (.im (goInt (aA (cJ (fun j=>gU (f j)) 0 k)).length)) (GK (by kernel_rfl));have hA:=hA.sub (A':=nB (aM g o k m) (Tq (hN f k))) (fun φ h=>by
  simp only[nB,List.mem_cons,List.not_mem_nil,or_false]at h
  rcases h with rfl|rfl|rfl|rfl|rfl<;>simp[nB,AD,TV.av,show Nat.beq 2 3=false from rfl])
 have hT2:∀n d:Nat,TabOkW prog (T0.add 39 (No (hN f k))) w0.heap.size w0:=fun _ _=>((bP _).ad func39 (Nn _)).w _ _
 show (Code.seq _ _).wp _ _ _ _;refine wp_seq (aB aI hT2 hG (aDD (aM g o k m) (hN f k)) ⟨rfl,Da hv.2.1 (by omega),trivial⟩ hA fun a w hA => ?_);refine wp_seq (aB aI hT hG (aDC (hN f k)) trivial hA fun a w hA => ?_);exact wp_ret (lZ (l:=[.fl [.q (hN f k)]]) (r:=.one (.fl [.q (hN f k)])) (by kernel_rfl) (by kernel_rfl) hA)
def Qr:Nat→List TV→List Fact
 | _,[]=>[]
 | i,t::r=>.slot i t.av::Qr (i+1) r
theorem SJ {base:Nat} {β:Nat→Bk} (a:Act) (w:World):∀(ts:List TV) (i:Nat),(∀j t,ts[j]?=some t→a.tmps[i+j]?=some t.den)→∀φ∈Qr i ts,φ.ok base β a w
 | [],i,_,φ,h=>by cases h
 | t::r,i,ha,φ,h=>by
  rcases List.mem_cons.1 h with rfl|h
  ·show a.tmps[i]?=_;rw[TV.av_den];exact ha 0 t rfl
  ·exact SJ a w r (i+1) (fun j u hj=>by have:=ha (j+1) u (by simpa using hj); rwa [show i+(j+1)=i+1+j by omega]at this) φ h
theorem yO:∀(ts:List TV) (i:Nat) (k:Nat) (o:Bool) (l:List At),Fact.row k o l∈Qr i ts→False
 | [],i,k,o,l,h=>by cases h
 | t::r,i,k,o,l,h=>by
  rcases List.mem_cons.1 h with h|h
  ·cases h
  ·exact yO r (i+1) k o l h
structure Own (w:World) (b:Nat) (l:List At):Prop where
 lt:b<w.heap.size
 row:w.rangeAt b 0 (aA l)
 free:∀j,w.frozen? ⟨b,j,none⟩=false
def Wr (b:Nat) (w:World) (r:RV) (l:List At) (e:Ending) (w':World):Prop:=e=.returned r.den∧WrC w w' b∧w'.rangeAt b 0 (aA l)
def WF (nt b N:Nat) (x:AV) (l:List At) (ts:List TV):List Fact:=.slot 0 x :: .row 0 true l :: .at 0 b :: .at nt N::Qr 1 ts
def PK (nt b N o:Nat) (l:List At) (ts:List TV):List Fact:=WF nt b N (.pt 0 o) l ts
theorem Holds.wrc {nt b:Nat} {w w':World} {A:List Fact} {a:Act} (h:Holds nt b w A a w') {l:List At} (h1:Fact.row 0 true l∈A) (h2:Fact.at 0 b∈A) (h3:Fact.at nt w.heap.size∈A):WrC w w' b∧w'.rangeAt b 0 (aA l):=by
 obtain⟨β,g1,g2,g3,gt⟩:=h.facts;obtain⟨e1,e2,e4,_⟩:=g1 _ h1;obtain⟨e5,e6,e7⟩:=e4 rfl;have e3:=g1 _ h2;have e8:=g1 _ h3;simp only[Fact.ok]at e3 e8;rw[e6]at e2;rw[e3.1]at e2;refine⟨⟨h.below,fun p hp hne => ?_,gt.shape,fun j => ?_⟩,e2⟩
 ·rcases Nat.lt_or_ge p.block b with q|q
  ·exact⟨h.below.cell q,h.below.frozen q⟩
  ·exact gt.mem p (by omega) (by rw[e8.1]; exact hp)
 ·have:=e7 j
  rwa [e3.1]at this
section
variable {P:Program} {w:World} {R:Ending→World→Prop}
theorem UY {f:FuncId} {fn:Func} (hf:P.funcs[f]?=some fn) {c:Code} (hb:fn.body=some c) {b:Nat} {x:AV} {v:Value} (hx:∀β:Nat→Bk,β 0=(b,0,0)→x.den β=v) {l:List At} {ts:List TV} (hO:Own w b l) (hn:ts.length+1≤fn.ntmps)
  (h:∀a w',Holds fn.ntmps b w (WF fn.ntmps b w.heap.size x l ts) a w'→c.wp P (bodyPost P fn R) a w'):Calls P f (v::ts.map TV.den).toArray w R:=by
 refine calls_of_wp hf hb (h _ _ ?_);have hg:∀j u,(v::ts.map TV.den)[j]?=some u→((v::ts.map TV.den).toArray++Array.replicate (fn.ntmps-(v::ts.map TV.den).toArray.size) undef)[j]?=some u:=fun j u hj=>by
  have hlt:=(List.getElem?_eq_some_iff.1 hj).1;rw[Array.getElem?_append_left (by simpa using hlt)];simpa using hj
 have hz:Nat.beq 0 fn.ntmps=false:=by
  cases hb:Nat.beq 0 fn.ntmps
  ·rfl
  ·have:=Nat.eq_of_beq_eq_true hb; omega
 have h0:∀k l0,Fact.row k true l0∈WF fn.ntmps b w.heap.size x l ts→k=0:=fun k l0 hk=>by
  simp only[WF,List.mem_cons,reduceCtorEq,false_or]at hk
  rcases hk with hk|hk
  ·cases hk; rfl
  ·exact (yO ts 1 k true l0 hk).elim
 refine⟨rfl,by simp; omega,Below.refl _ _,Nat.le_of_lt hO.lt,fun k=>bif Nat.beq k fn.ntmps then (w.heap.size,0,0)else (b,0,0),fun φ hφ => ?_,fun k k' o' l1 l2 h1 h2 hne => ?_,fun k l1 h1=>Or.inl ?_,?_,fun p q1 q2=>⟨rfl,rfl⟩,Shape.refl _⟩
 ·simp only[WF,List.mem_cons]at hφ
  rcases hφ with rfl|rfl|rfl|rfl|hφ
  ·exact (hg 0 _ rfl).trans (congrArg some (hx _ (by simp only[hz,cond_false])).symm)
  ·refine⟨?_,?_,fun _=>⟨?_,?_,?_⟩,fun h=>by cases h⟩<;>simp only[hz,cond_false]
   ·exact hO.lt
   ·exact hO.row
   ·exact Nat.le_refl _
   ·exact hO.free
  ·simp only[Fact.ok,hz,cond_false,and_self]
  ·simp[Fact.ok]
  ·exact SJ _ _ ts 1 (fun j t hj=>hg (1+j) _ (by rw[Nat.add_comm]; simp[hj])) φ hφ
 ·cases o' with
  | true=>exact (hne ((h0 k l1 h1).trans (h0 k' l2 h2).symm)).elim
  | false =>
   simp only[WF,List.mem_cons,reduceCtorEq,false_or,Fact.row.injEq,Bool.false_eq_true,false_and,and_false]at h2;exact (yO ts 1 k' false l2 h2).elim
 ·rw[h0 k l1 h1];simp only[hz,cond_false]
 ·simp
theorem uG {f:FuncId} {fn:Func} (hf:P.funcs[f]?=some fn) {c:Code} (hb:fn.body=some c) {b o:Nat} {l:List At} {ts:List TV} (hO:Own w b l) (hn:ts.length+1≤fn.ntmps)
  (h:∀a w',Holds fn.ntmps b w (PK fn.ntmps b w.heap.size o l ts) a w'→c.wp P (bodyPost P fn R) a w'):Calls P f (ptV b o::ts.map TV.den).toArray w R :=
 UY hf hb (x:=.pt 0 o) (fun β h=>by simp[AV.den,ptV,h]) hO hn h
end
def Zs (P:Program) (q:EqT) (C:Nat→Cfg) (fn:Func) (n b N o:Nat) (l:List At) (ts:List TV):Option (List Prop×RV×List At×Nat×Nat) :=
 match fn.body with
 | some c=>bif Nat.ble (ts.length+1) fn.ntmps then (match run P q fn.ntmps C n c (PK fn.ntmps b N o l ts)with
   | some (ps,.rt,A)=>match rZ P A fn.results.toList,dZ A 0,uJ A 0,uJ A fn.ntmps with
    | some x,some (true,L),some b',some N'=>match rv x with|some r=>some (ps,r,L,b',N')|none=>none
    | _,_,_,_=>none
   | _=>none)else none
 | none=>none
theorem NY {P:Program} {q:EqT} {C:Nat→Cfg} {w:World} {b o:Nat} (hm:P.follows .mixedOrders=true) (hT:∀n d,TabOkW P ((C n).T d) b w) (hq:bQ P q b w) {f:FuncId} {fn:Func} (hf:P.funcs[f]?=some fn) {n:Nat} {l L:List At} {ts:List TV} {ps:List Prop} {r:RV}
  (h:Zs P q C fn n b w.heap.size o l ts=some (ps,r,L,b,w.heap.size)) (hps:bC ps) (hO:Own w b l):Calls P f (ptV b o::ts.map TV.den).toArray w (Wr b w r L):=by
 unfold Zs at h;split at h
 ·rename_i c hb;cases hle:Nat.ble (ts.length+1) fn.ntmps<;>rw[hle]at h
  ·cases h
  ·simp only[cond_true]at h;split at h
   ·rename_i ps' A hrun;split at h
    ·rename_i x L' b' N' hx hrow hb' hN';split at h
     ·rename_i r' hr;cases h;refine uG hf hb hO (Nat.le_of_ble_eq_true hle) fun a w' hH=>(eG (P:=P) (q:=q) (nt:=fn.ntmps) (C:=C) hm hT hq n c _ A ps .rt a w' _ hrun hps hH fun a w' hA => ?_).1
      exact cN hx hr hA ⟨rfl,hA.wrc (bM hrow) (fM hb') (fM hN')⟩
     ·cases h
    ·cases h
   ·cases h
 ·cases h
def qPx (P:Program) (ld st:Nat→Option (List At)) (idx:Nat→Option Nat) (gen:Nat→Option Value) (T5:Tab5):EqT:={ qG P with x:={ Ext.none with ld:=ld,st:=st,idx:=idx,gen:=gen,T5:=T5 } }
theorem nP {P:Program} {ld st:Nat→Option (List At)} {idx:Nat→Option Nat} {gen:Nat→Option Value} {T5:Tab5} (h5:PtOk P T5) (base:Nat) (w0:World):bQ P (qPx P ld st idx gen T5) base w0 :=
 ⟨(aV P).1,fun w' _=>⟨fun _ _ _ h=>h.elim,fun _ _ _ _ h=>(by cases h),fun _ _ _ _ h=>(by cases h),fun _ _ _ _ _ h=>(by cases h),fun f cs pre j r l hg hp=>⟨(h5 f cs pre j r l hg hp).1,fun args ha b o hj hz _=>(h5 f cs pre j r l hg hp).2 args w' ha b o hj hz⟩,fun _ _ _ _ _ _ _ h=>(by cases h)⟩⟩
def pe0 (l0:List At) (o0:Nat) (r:RV) (l1:List At):List CA→Option (List Prop×Nat×RV×List At)
 | [.p l o]=>some ([l=l0,o=o0],0,r,l1)
 | _=>none
def Ua (P:Program) (f:FuncId) (l0:List At) (o0:Nat) (ts:List Value) (r:RV) (l1:List At):Prop:=∀(w:World) (b:Nat),Own w b l0→Calls P f (ptV b o0::ts).toArray w (Wr b w r l1)
theorem Xl {P:Program} {f:FuncId} {l0:List At} {o0:Nat} {r0:RV} {l1:List At} (h:Ua P f l0 o0 [] r0 l1):∀cs pre j r l,pe0 l0 o0 r0 l1 cs=some (pre,j,r,l)→bC pre→∀(args:List Value) (w:World),cP w cs args→∀b o,args[j]?=some (.pointer (some ⟨b,o,none⟩))→(∀q,w.frozen? ⟨b,q,none⟩=false) →
  Calls P f args.toArray w (fun e w'=>e=.returned r.den∧WrC w w' b∧w'.rangeAt b 0 (aA l)):=by
 intro cs pre j r l hg hp args w ha b o hj hz;unfold pe0 at hg;split at hg
 ·cases hg;obtain⟨rfl,rfl,_⟩:=hp
  match args,ha with
  | [v],ha =>
   obtain⟨⟨b',rfl,h1,h2⟩,_⟩:=ha;cases hj;exact h w b ⟨h1,h2,hz⟩
  | [],ha=>exact ha.elim
  | _::_::_,ha=>exact ha.2.elim
 ·cases hg
def T5n:Tab5:=fun _ _=>none
theorem aBs (P:Program):PtOk P T5n:=fun _ _ _ _ _ _ h=>by cases h
theorem Ke (b N n m c n' m':Nat) (p p':Option Addr):Zs prog (qPx prog (fun _=>none) (fun _=>none) (fun _=>none) (assoc [(12,.slice p' n' m')]) T5n) (fun _=>tC T0 (assoc [(6,iI c)])) f188 60 b N 0 [.c (.slice p n m)] []=some ([Value.int .i64 (if Int.ofNat n<31 then Int.ofNat n else 31)=iI c,c≤m,∀w:World,(Instr.sliceAt 25 (.slice p n m) (some (iI c)) none none).run prog w=.ok (.slice p' n' m') w],.one (.im (.slice p c m)),[.c (.slice p' n' m')],b,N):=by kernel_rfl
theorem YV {g o n m c:Nat} (h:c≤n) (hm:n≤m) (w:World):(Instr.sliceAt 25 (aM g o n m) (some (iI c)) none none).run prog w=.ok (aM g (if m=c then o else o+c) (n-c) (m-c)) w:=by
 by_cases e:m=c
 ·rw[if_pos e];simp[Instr.sliceAt,Instr.slice,aM,iI,run_underlying BP,Instr.sliceBounds,Instr.sliceBound,asIntOf,LQ,h,e]
 ·rw[if_neg e];simp[Instr.sliceAt,Instr.slice,aM,iI,run_underlying BP,Instr.sliceBounds,Instr.sliceBound,asIntOf,LQ,h,e,Addr.add_mid]
def WQ (g o N i:Nat) (v:Value):Prop:=∃p m,v=.slice p (N-31*i) m∧N-31*i≤m∧(0<N-31*i→p=some ⟨g,o+31*i,none⟩)
def nD (N i:Nat):Nat:=min (N-31*i) 31
theorem VO {w:World} {r g o N i:Nat} {v:Value} (hr:WQ g o N i v) (h0:0<N-31*i) (hO:Own w r [.c v]):∃m v',WQ g o N (i+1) v'∧(∃p' n' m',v'=.slice p' n' m')∧nD N i≤m∧Calls prog 188 #[ptV r 0] w (Wr r w (.one (.im (aM g (o+31*i) (nD N i) m))) [.c v']):=by
 obtain⟨p,m,rfl,hm,hp⟩:=hr;obtain rfl:=hp h0;have hc:nD N i≤N-31*i:=Nat.min_le_left _ _;have e:N-31*i-nD N i=N-31*(i+1):=by unfold nD; omega
 refine⟨m,aM g (if m=nD N i then o+31*i else o+31*i+nD N i) (N-31*i-nD N i) (m-nD N i),⟨_,_,by rw[e]; rfl,by omega,fun h => ?_⟩,⟨_,_,_,rfl⟩,by omega,?_⟩
 ·have:nD N i=31:=by unfold nD; omega
  rw[if_neg (by omega),this,show o+31*i+31=o+31*(i+1) by omega]
 ·have h1:Value.int .i64 (if Int.ofNat (N-31*i)<31 then Int.ofNat (N-31*i)else 31)=iI (nD N i):=by
   unfold nD
   by_cases h:N-31*i<31
   ·rw[if_pos (by show ((N-31*i:Nat):Int)<31; omega),Nat.min_eq_left (by omega)]; rfl
   ·rw[if_neg (by show ¬((N-31*i:Nat):Int)<31; omega),Nat.min_eq_right (by omega)]; rfl
  exact NY (ts:=[]) aI (fun _ _=>(bP _).w _ _) (nP (aBs _) _ _) func188 (Ke r w.heap.size (N-31*i) m (nD N i) _ _ _ _) ⟨h1,by omega,fun w=>YV hc hm w,trivial⟩ hO
theorem EU {P:Program} {o:Oper} {a:Act} {w:World} {K:Act→World→Prop} {Q:Exit→Act→World→Prop} {x:Operand} {xs:Array Operand} {ts:Array TypeId} {id:Nat} {cap vs:Array Value} {R:Ending→World→Prop} (ho:o.op=.call ⟨.value x,xs,ts⟩) (hx:a.eval x=.func (.func id) #[] cap) (hv:xs.map a.eval=vs)
  (he:∀xs,(callFunc id xs).run P w=.ok (.enter id xs) w) (hc:Calls P id (vs++cap) w R) (hK:∀e w',R e w'→∃v,e=.returned v∧K (a.put o.dst v) w'):o.wp P a w K Q:=by
 have hrun:(execOp a.eval o).run P w=.ok (.enter id (vs++cap)) w:=by
  simp[execOp,ho,resolve,Deferred.ofValue,hx,hv,invoke,he]
 unfold Oper.wp;rw[hrun];refine Calls.mono hc fun e w' hR => ?_
 obtain⟨v,rfl,h⟩:=hK e w' hR;exact h
theorem WrC.own {w w':World} {r:Nat} {l:List At} (h:WrC w w' r) (hlt:r<w.heap.size) (hr:w'.rangeAt r 0 (aA l)):Own w' r l:=⟨Nat.lt_of_lt_of_le hlt h.below.size,hr,h.free⟩
theorem WrC.trans {a b c:World} {r:Nat} (h:WrC a b r) (k:WrC b c r):WrC a c r :=
 ⟨h.below.trans k.below,fun p hp hne=>by
  have h1:=h.mem p hp hne;have h2:=k.mem p (Nat.lt_of_lt_of_le hp h.below.size) hne;exact⟨h2.1.trans h1.1,h2.2.trans h1.2⟩,h.shape.trans k.shape,k.free⟩
theorem Holds.wrcK {nt b k:Nat} {w w':World} {A:List Fact} {a:Act} (h:Holds nt b w A a w') {l:List At} (h1:Fact.row k true l∈A) (h2:Fact.at k b∈A) (h3:Fact.at nt w.heap.size∈A):WrC w w' b∧w'.rangeAt b 0 (aA l):=by
 obtain⟨β,g1,g2,g3,gt⟩:=h.facts;obtain⟨e1,e2,e4,_⟩:=g1 _ h1;obtain⟨e5,e6,e7⟩:=e4 rfl;have e3:=g1 _ h2;have e8:=g1 _ h3;simp only[Fact.ok]at e3 e8;rw[e6]at e2;rw[e3.1]at e2;refine⟨⟨h.below,fun p hp hne => ?_,gt.shape,fun j => ?_⟩,e2⟩
 ·rcases Nat.lt_or_ge p.block b with q|q
  ·exact⟨h.below.cell q,h.below.frozen q⟩
  ·exact gt.mem p (by omega) (by rw[e8.1]; exact hp)
 ·have:=e7 j
  rwa [e3.1]at this
theorem Own.holds {nt k r:Nat} {w:World} {l:List At} {a:Act} {ts:List (Nat×Value)} (h:Own w r l) (hd:a.defers=[]) (hs:a.tmps.size=nt) (hk:Nat.beq k nt=false) (hp:a.tmps[k]?=some (ptV r 0)) (ht:∀x∈ts,a.tmps[x.1]?=some x.2) :
  Holds nt r w (.slot k (.pt k 0) :: .row k true l :: .at k r :: .at nt w.heap.size::ts.map fun x=>.slot x.1 (.im x.2)) a w:=by
 refine⟨hd,hs,Below.refl _ _,Nat.le_of_lt h.lt,fun q=>bif Nat.beq q nt then (w.heap.size,0,0)else (r,0,0),fun φ hφ => ?_,fun k1 k2 o' l1 l2 h1 h2 hne => ?_,fun k1 l1 h1=>Or.inl ?_,?_,fun p q1 q2=>⟨rfl,rfl⟩,Shape.refl _⟩
 ·simp only[List.mem_cons,List.mem_map]at hφ
  rcases hφ with rfl|rfl|rfl|rfl|⟨x,hx,rfl⟩
  ·show a.tmps[k]?=_;rw[hp];simp[AV.den,hk,Go.Proofs.YtpjlhhpjpnacmaaGreatDoor.Ex.ptV]
  ·refine⟨?_,?_,fun _=>⟨?_,?_,?_⟩,fun h=>by cases h⟩<;>simp only[hk,cond_false]
   ·exact h.lt
   ·exact h.row
   ·exact Nat.le_refl _
   ·exact h.free
  ·simp only[Fact.ok,hk,cond_false,and_self]
  ·simp[Fact.ok]
  ·exact ht x hx
 ·have e:∀k3 o3 l3,Fact.row k3 o3 l3∈(Fact.slot k (.pt k 0) :: .row k true l :: .at k r :: .at nt w.heap.size::ts.map fun x=>Fact.slot x.1 (.im x.2))→k3=k:=fun k3 o3 l3 h3=>by
   simp only[List.mem_cons,reduceCtorEq,false_or,List.mem_map,and_false,exists_const,or_false]at h3;cases h3; rfl
  exact (hne ((e _ _ _ h1).trans (e _ _ _ h2).symm)).elim
 ·have e:k1=k:=by
   simp only[List.mem_cons,reduceCtorEq,false_or,List.mem_map,and_false,exists_const,or_false]at h1;cases h1; rfl
  subst e;simp only[hk,cond_false]
 ·simp
noncomputable abbrev itF:Func:=f187
def qN:Code:=(f187.body).getD .skip
def mQ:Code:=jV (jV (cB (cB qN)))
def WV:Code:=jV (cB mQ)
theorem Ms:qN=.seq (cA qN) (.seq (cA (cB qN)) (.block 0 (.loop mQ))):=by kernel_rfl
theorem Mr:mQ=.seq (cA mQ) (.block 1 (.seq (.region 3 (aE (cA WV)) false) (.cond (.tmp 14) .ret .skip))):=by kernel_rfl
def yV (l:Nat):Value:=.func (.yield l) #[] #[]
def vH (r:Nat):Value:=.func (.func 188) #[] #[ptV r 0]
theorem aEn:itF.ntmps=15:=by kernel_rfl
def iA (l r N:Nat) (v:Value):List Fact:=[.slot 3 (.pt 3 0),.row 3 true [.c v],.at 3 r,.at 15 N,.slot 0 (.im (yV l)),.slot 4 (.im (vH r))]
theorem aEm (w:World) (l bb n m:Nat) (p:Option Addr):aX prog { qG prog with x:=xO w (fun _=>none) (fun _=>none) (assoc [(5,.slice p n m)]) } itF.ntmps (fun _=>tC T0 fun _=>none) 40 (cA qN) (fJ 0 [.v (.im (yV l)),.v (.im (ptV bb 0))]) [.slot 3 (.pt 3 0),.row 3 true [.c (.slice p n m)],.slot 0 (.im (yV l))]=some ([oldOf w bb 0 [.c (.slice p n m)]],.nrm,[.slot 3 (.pt 3 0),.row 3 true [.c (.slice p n m)],.slot 0 (.im (yV l))]):=by kernel_rfl
theorem aEl (l r:Nat) (v:Value):aX prog (qG prog) itF.ntmps (fun _=>tC T0 fun _=>none) 40 (cA (cB qN)) [.at 3 r,.slot 3 (.pt 3 0),.row 3 true [.c v],.slot 0 (.im (yV l))] [.slot 4 (.im (vH r)),.at 3 r,.slot 3 (.pt 3 0),.row 3 true [.c v],.slot 0 (.im (yV l))]=some ([],.nrm,[.slot 4 (.im (vH r)),.at 3 r,.slot 3 (.pt 3 0),.row 3 true [.c v],.slot 0 (.im (yV l))]):=by kernel_rfl
theorem aEp (l r N n m:Nat) (p:Option Addr):aX prog (qG prog) 15 (fun _=>tC T0 (assoc [(9,.bool true)])) 40 (cA mQ) (iA l r N (.slice p n m)) (iA l r N (.slice p n m))=some ([aN .gtr .i64 (Int.ofNat n) 0=some (.bool true)],.nrm,iA l r N (.slice p n m)):=by kernel_rfl
theorem Yi (l r N n m:Nat) (p:Option Addr):aX prog (qG prog) 15 (fun _=>tC T0 (assoc [(9,.bool false)])) 40 (cA mQ) (iA l r N (.slice p n m)) (iA l r N (.slice p n m))=some ([aN .gtr .i64 (Int.ofNat n) 0=some (.bool false)],.ex 0,iA l r N (.slice p n m)):=by kernel_rfl
theorem aEo (l r N:Nat) (v:Value):cX prog (qG prog) 15 (tC T0 fun _=>none) ((aE (cA WV)).extract 0 2) (iA l r N v) (.slot 11 (.im (vH r)) :: .slot 10 (.im (yV l))::iA l r N v)=some ([],.slot 11 (.im (vH r)) :: .slot 10 (.im (yV l))::iA l r N v):=by kernel_rfl
theorem Yh (l r N:Nat) (v:Value):cX prog (qG prog) 15 (tC T0 fun _=>none) ((aE (cA WV)).extract 4 5) [.slot 3 (.pt 3 0),.row 3 true [.c v],.at 3 r,.at 15 N,.slot 0 (.im (yV l)),.slot 4 (.im (vH r)),.slot 13 (.im (.bool true))] (.slot 14 (.im (.bool false))::iA l r N v)=some ([],.slot 14 (.im (.bool false))::iA l r N v):=by kernel_rfl
theorem Sz {a:Nat} (h:0<a):aN .gtr .i64 (Int.ofNat a) 0=some (.bool true):=by
 show some (Value.bool (decide (Int.ofNat a>0)))=_;rw[decide_eq_true (by show (0:Int)<(a:Int); omega)]
theorem aEK {a:Nat} (h:a=0):aN .gtr .i64 (Int.ofNat a) 0=some (.bool false):=by rw[h]; rfl
theorem aQ {a:Act} {d s:Nat} {u v:Value} (h:a.tmps[s]?=some v) (hd:d≠s):(a.put (some d) u).tmps[s]?=some v:=by
 rw[gI _ _ _ _ (fun e=>hd (by injection e))]; exact h
structure ItS (l r:Nat) (v:Value) (a:Act) (w:World):Prop where
 defers:a.defers=[]
 size:a.tmps.size=15
 t0:a.tmps[0]?=some (yV l)
 t3:a.tmps[3]?=some (ptV r 0)
 t4:a.tmps[4]?=some (vH r)
 own:Own w r [.c v]
theorem ItS.holds {l r:Nat} {v:Value} {a:Act} {w:World} (h:ItS l r v a w):Holds 15 r w (iA l r w.heap.size v) a w :=
 h.own.holds (k:=3) (ts:=[(0,yV l),(4,vH r)]) h.defers h.size rfl h.t3 (fun x hx=>by
  simp only[List.mem_cons,List.not_mem_nil,or_false]at hx
  rcases hx with rfl|rfl
  ·exact h.t0
  ·exact h.t4)
theorem Holds.its {l r:Nat} {v:Value} {A:List Fact} {a:Act} {w w':World} (h:Holds 15 r w A a w') (hA:∀φ∈iA l r w.heap.size v,φ∈A) (hlt:r<w.heap.size):ItS l r v a w'∧WrC w w' r:=by
 have hW:=h.wrcK (k:=3) (l:=[.c v]) (hA _ (by simp[iA])) (hA _ (by simp[iA])) (hA _ (by simp[iA]));refine⟨⟨h.defers,h.size,h.slot (hA _ (by simp[iA])),?_,h.slot (hA _ (by simp[iA])),hW.1.own hlt hW.2⟩,hW.1⟩;obtain⟨β,g1,_⟩:=h.facts;have e1:=g1 _ (hA (.slot 3 (.pt 3 0)) (by simp[iA]));have e2:=g1 _ (hA (.at 3 r) (by simp[iA]));simp only[Fact.ok]at e1 e2;rw[e1];simp[AV.den,e2,Go.Proofs.YtpjlhhpjpnacmaaGreatDoor.Ex.ptV]
theorem Cr {W1:World} {l g o N bb:Nat} {v:Value} (hv:WQ g o N 0 v) (hbox:oldOf W1 bb 0 [.c v]) (J:Nat→Nat→World→Prop)
  (hJ0:∀r W,W1.heap.size≤r→Below W1.heap.size W1 W→r<W.heap.size→Shape W1 W→J r 0 W) (hJw:∀r i W W',W1.heap.size≤r→J r i W→WrC W W' r→J r i W')
  (hR:∀r i W v' m,W1.heap.size≤r→31*i<N→J r i W→Own W r [.c v']→nD N i≤m→∃rec,W.heap[l]?=some (.loop rec)∧rec.params.size=1 ∧
   RoundIn Fence.wide 0 prog l rec.fn ((rec.params.zip #[aM g (o+31*i) (nD N i) m]).foldl (fun t (p,v)=>t.setIfInBounds p v) rec.tmps) rec.assign rec.body W fun e W'=>e=.returned (.bool true)∧J r (i+1) W'∧Own W' r [.c v']) :
  Calls prog 187 #[yV l,ptV bb 0] W1 fun e W'=>(∃v,e=.returned v)∧∃r,J r ((N+30)/31) W':=by
 obtain⟨p,m,rfl,hm,hp⟩:=hv;have hG:∀base w,bQ prog (qG prog) base w:=fun _ _=>(aV _).w _ _
 have hT:∀base w,∀n d:Nat,TabOkW prog T0 base w:=fun _ _ _ _=>(bP _).w _ _
 refine cM func187 (cs:=[.v (.im (yV l)),.v (.im (ptV bb 0))]) (args:=[yV l,ptV bb 0]) (c:=qN) rfl ⟨rfl,rfl,trivial⟩ (Nat.le_of_ble_eq_true (by kernel_rfl)) fun a w hA => ?_
 rw[Ms];refine wp_seq (aB aI (hT _ _) (dS W1 _ _ _) (aEm W1 l bb (N-31*0) m p) ⟨hbox,trivial⟩ hA fun a w hA => ?_);obtain⟨r,hA⟩:=hA.at (k:=3) (l:=[.c (.slice p (N-31*0) m)]) (by simp);refine wp_seq (aB aI (hT _ _) (hG _ _) (aEl l r _) trivial hA fun a w hA => ?_);have hnt:f187.ntmps=15:=aEn;have hge:W1.heap.size≤r∧r<w.heap.size∧(∀j,w.frozen? ⟨r,j,none⟩=false)∧Shape W1 w:=by
  obtain⟨β,g1,_,_,gt⟩:=hA.facts;obtain⟨q1,_,q2,_⟩:=g1 (.row 3 true [.c (.slice p (N-31*0) m)]) (by simp);have e:=g1 (.at 3 r) (by simp);simp only[Fact.ok]at e;obtain⟨rfl,_⟩:=e;exact⟨(q2 rfl).1,q1,(q2 rfl).2.2,gt.shape⟩
 have hS:ItS l r (.slice p (N-31*0) m) a w:=⟨hA.defers,hA.size.trans hnt,hA.slot (s:=0) (by simp),by
  have:=hA.ptV (s:=3) (k:=3) (o:=0) (b:=r) (by simp) (by simp);obtain⟨β,g1,_⟩:=hA.facts;have e1:=g1 (.slot 3 (.pt 3 0)) (by simp);have e2:=g1 (.at 3 r) (by simp);simp only[Fact.ok]at e1 e2;rw[e1];simp[AV.den,e2,Go.Proofs.YtpjlhhpjpnacmaaGreatDoor.Ex.ptV],hA.slot (s:=4) (by simp),hge.2.1,by
  have:=hA.old (k:=3) (l:=[.c (.slice p (N-31*0) m)]) (b:=r) (by simp) (by simp);exact this.2,hge.2.2.1⟩
 have hJ:=hJ0 r w hge.1 hA.below hge.2.1 hge.2.2.2;have hv:WQ g o N 0 (.slice p (N-31*0) m):=⟨p,m,rfl,hm,hp⟩;have hB1:=hge.1;clear hge hA hm hp hbox;refine wp_block ?_;refine dU (n:=(N+30)/31+1) ?_;have wl:∀Q a w,(Code.seq (cA mQ) (.block 1 (.seq (.region 3 (aE (cA WV)) false) (.cond (.tmp 14) .ret .skip)))).wp prog Q a w→mQ.wp prog Q a w:=fun Q a w h=>by rw[Mr]; exact h
 have key:∀k i a w v,i+k=(N+30)/31→WQ g o N i v→ItS l r v a w→J r i w→Un prog mQ (Exit.inBlock 0 (bodyPost prog f187 fun e W'=>(∃v,e=.returned v)∧∃r,J r ((N+30)/31) W')) (k+1) a w:=by
  intro k
  induction k with
  | zero =>
   intro i a w v hi hv hS hJ;unfold Un;refine wl _ _ _ ?_;obtain⟨p,m,rfl,hm,hp⟩:=hv;refine wp_seq (aB aI (hT _ _) (hG _ _) (Yi l r w.heap.size (N-31*i) m p) ⟨aEK (by omega),trivial⟩ hS.holds fun a w' hA => ?_);obtain⟨hS',hW⟩:=hA.its (fun φ h=>h) hS.own.lt;have hJ':=hJw r i w w' hB1 hJ hW;have hi':i=(N+30)/31:=by omega
   subst hi';simp only[EA.out,Exit.then,Exit.inBlock,if_true];refine⟨hS'.defers,.tuple #[],?_,⟨_,rfl⟩,r,hJ'⟩;simp[results,show f187.results = #[] by kernel_rfl]
  | succ k ih =>
   intro i a w v hi hv hS hJ;have hlt:31*i<N:=by omega
   unfold Un;refine wl _ _ _ ?_;have hv0:=hv;obtain⟨p,m,rfl,hm,hp⟩:=hv;refine wp_seq (aB aI (hT _ _) (hG _ _) (aEp l r w.heap.size (N-31*i) m p) ⟨Sz (by omega),trivial⟩ hS.holds fun a1 w1 h1 => ?_);refine wp_block ?_;refine wp_seq ?_;refine (wpIn_wide (n:=1)).1 ?_;show Code.wpIn (rF none) 1 _ _ _ _ _;refine wpIn_region ?_;rw[show List.range (aE (cA WV)).size=List.range' 0 ((aE (cA WV)).extract 0 2).size++(2::3::(List.range' 4 ((aE (cA WV)).extract 4 5).size++[])) by kernel_rfl];refine sE (c:=tC T0 _) (hT _ _ 0) (hG _ _) (aEo l r w.heap.size _) trivial (by kernel_rfl) (by kernel_rfl) h1 fun a2 w2 h2 => ?_
   obtain⟨hS2,hW2⟩:=h2.its (fun φ h=>List.mem_cons_of_mem _ (List.mem_cons_of_mem _ h)) hS.own.lt;have t10:=h2.slot (s:=10) (v:=yV l) (by simp);have t11:=h2.slot (s:=11) (v:=vH r) (by simp);obtain⟨o2,ho2,⟨ts2,hop2⟩,hd2,hg2⟩:∃x,(aE (cA WV))[2]?=some x∧(∃ts,x.op=.call ⟨.value (.tmp 11),#[],ts⟩)∧x.dst=some 12∧x.guard=none:=⟨_,rfl,⟨_,rfl⟩,rfl,rfl⟩
   obtain⟨o3,ho3,⟨ts3,hop3⟩,hd3,hg3⟩:∃x,(aE (cA WV))[3]?=some x∧(∃ts,x.op=.call ⟨.value (.tmp 10),#[.tmp 12],ts⟩)∧x.dst=some 13∧x.guard=none:=⟨_,rfl,⟨_,rfl⟩,rfl,rfl⟩
   obtain⟨mm,v',hv',_,hmm,hcut⟩:=VO hv0 (by omega) hS2.own;refine CS ho2 hg2 (MV (Q:=fun _ _ _=>False) (K:=fun a w=>wpOpsIn (rF none) 1 prog (aE (cA WV)) _ (3::(List.range' 4 ((aE (cA WV)).extract 4 5).size++[])) a w) (fun c e=>by rw[hop2]at e; cases e) (fun _ _ h=>h) (fun⟨_,_,h⟩=>h) (fun _ _ _ _ h=>h.elim) (EU hop2 (cap:=#[ptV r 0]) (vs:=#[]) (by simp[Act.eval,t11,vH]) (by simp) (fun args=>cC func188 (by kernel_rfl) (by kernel_rfl) args _) hcut ?_))
   rintro e w3 ⟨rfl,hW3,hr3⟩
   refine⟨_,rfl,?_⟩;rw[hd2];have hO3:Own w3 r [.c v']:=hW3.own hS2.own.lt hr3;have hJ3:=hJw r i w w3 hB1 hJ (hW2.trans hW3);obtain⟨rec,hrec,hsz,hround⟩:=hR r i w3 v' mm hB1 hlt hJ3 hO3 hmm;refine CS ho3 hg3 (ET (l:=l) (vs:=#[aM g (o+31*i) (nD N i) mm]) hop3 (by
    have:=aQ (d:=12) (u:=aM g (o+31*i) (nD N i) mm) t10 (by decide);simp only[Act.eval];show (a2.put (some 12) (aM g (o+31*i) (nD N i) mm)).tmps.getD 10 undef=_;simp[this,yV]) (by
    have:=aT a2 12 (aM g (o+31*i) (nD N i) mm) (by rw[hS2.size]; decide);show Array.map (a2.put (some 12) (aM g (o+31*i) (nD N i) mm)).eval #[.tmp 12]=_;simp[Act.eval,this]) hrec (by rw[hsz]; rfl) (hround.mono ?_))
   rintro e W' ⟨rfl,hJ',hO'⟩
   refine⟨_,rfl,?_⟩;rw[hd3];change wpOpsIn (rF none) 1 prog (aE (cA WV)) _ _ ((a2.put (some 12) (aM g (o+31*i) (nD N i) mm)).put (some 13) (.bool true)) W';generalize ha4:(a2.put (some 12) (aM g (o+31*i) (nD N i) mm)).put (some 13) (.bool true)=a4;have hH:Holds 15 r W' [.slot 3 (.pt 3 0),.row 3 true [.c v'],.at 3 r,.at 15 W'.heap.size,.slot 0 (.im (yV l)),.slot 4 (.im (vH r)),.slot 13 (.im (.bool true))] a4 W' :=
    hO'.holds (k:=3) (ts:=[(0,yV l),(4,vH r),(13,.bool true)]) (by rw[←ha4]; exact hS2.defers) (by rw[←ha4]; simp only[aH]; exact hS2.size) rfl (by rw[←ha4]; exact aQ (aQ hS2.t3 (by decide)) (by decide)) (fun x hx=>by
     simp only[List.mem_cons,List.not_mem_nil,or_false]at hx;rw[←ha4]
     rcases hx with rfl|rfl|rfl
     ·exact aQ (aQ hS2.t0 (by simp)) (by simp)
     ·exact aQ (aQ hS2.t4 (by simp)) (by simp)
     ·exact aT _ _ _ (by rw[aH,hS2.size]; decide))
   refine sE (c:=tC T0 _) (hT _ _ 0) (hG _ _) (Yh l r W'.heap.size v') trivial (by kernel_rfl) (by kernel_rfl) hH fun a5 w5 h5 => ?_
   obtain⟨hS5,hW5⟩:=h5.its (fun φ h=>List.mem_cons_of_mem _ h) hO'.lt;have hc:=h5.imV (s:=14) (v:=.bool false) (by simp);show (Code.cond (.tmp 14) .ret .skip).wp _ _ _ _;exact wp_cond_false hc (wp_skip (ih (i+1) a5 w5 v' (by omega) hv' hS5 (hJw r (i+1) W' w5 hB1 hJ' hW5)))
 exact key _ 0 a w _ (by omega) hv hS hJ
structure Only2 (a b:Nat) (w w':World):Prop where
 below:∀B,B≤a→B≤b→Below B w w'
 mem:∀p:Addr,p.block<w.heap.size→p.block≠a→p.block≠b→w'.cell? p=w.cell? p∧w'.frozen? p=w.frozen? p
 shape:Shape w w'
theorem Only2.trans {a b:Nat} {u v w:World} (h:Only2 a b u v) (k:Only2 a b v w):Only2 a b u w :=
 ⟨fun B h1 h2=>(h.below B h1 h2).trans (k.below B h1 h2),fun p hp h1 h2=>by
  have e1:=h.mem p hp h1 h2;have e2:=k.mem p (Nat.lt_of_lt_of_le hp h.shape.2.size) h1 h2;exact⟨e2.1.trans e1.1,e2.2.trans e1.2⟩,h.shape.trans k.shape⟩
theorem Only2.of_below {a b:Nat} {w w':World} (h:Below w.heap.size w w') (ha:a<w.heap.size) (hb:b<w.heap.size):Only2 a b w w' :=
 ⟨fun B h1 h2=>h.mono (by omega),fun p hp _ _=>⟨h.cell hp,h.frozen hp⟩,Shape.below h⟩
theorem Only2.of_grown {a b:Nat} {w w':World} (h:w.grownBy w' (some b)) (hs:Shape w w') (hb:b<w.heap.size) (ha:a<w.heap.size):Only2 a b w w' :=
 ⟨fun B h1 h2=>(Below.refl B w).grown h (Nat.le_trans h2 (Nat.le_of_lt hb)) (fun k e=>(by cases e; exact h2)),fun p hp _ h2=>by
  have:=h.block p.block hp (fun e=>h2 (Option.some.inj e));exact⟨World.cell?_of_block this,World.frozen?_of_block this⟩,hs⟩
theorem Only2.of_set {a b o:Nat} {w:World} {vs:List Value}:Only2 a b w (w.setCells a o vs) :=
 ⟨fun B h1 _=>fS h1 _ _ _ _ (Below.refl _ _),fun p _ h1 _=>⟨World.cell?_setCells_out _ _ _ _ _ (fun q _=>absurd q h1),World.frozen?_setCells _ _ _ _ _⟩,dV _ _ _ _⟩
theorem Only2.own {a b:Nat} {w w':World} (h:Only2 a b w w') {r:Nat} {l:List At} (hO:Own w r l) (h1:r≠a) (h2:r≠b):Own w' r l :=
 ⟨Nat.lt_of_lt_of_le hO.lt h.shape.2.size,fun j v hj=>(h.mem ⟨r,0+j,none⟩ hO.lt h1 h2).1.trans (hO.row j v hj),fun j=>(h.mem ⟨r,j,none⟩ hO.lt h1 h2).2.trans (hO.free j)⟩
theorem Only2.range {a b:Nat} {w w':World} (h:Only2 a b w w') {r o:Nat} {l:List Value} (hlt:r<w.heap.size) (hO:w.rangeAt r o l) (h1:r≠a) (h2:r≠b):w'.rangeAt r o l :=
 fun j v hj=>(h.mem ⟨r,o+j,none⟩ hlt h1 h2).1.trans (hO j v hj)
structure ElM (w:World) (a b n C:Nat) (g:Nat→Nat):Prop where
 box:Own w a [.c (aM b 0 n C)]
 app:AppAt w b 27 4 n C
 lt:b<w.heap.size
 row:w.rangeAt b 0 (aA (cJ (el g) 0 n))
 ne:a≠b
theorem AppAt.free {w:World} {b e sz n C:Nat} (h:AppAt w b e sz n C) (j:Nat):w.frozen? ⟨b,j,none⟩=false:=by
 obtain⟨cur,h1,_⟩:=h;simp[World.frozen?,h1]
theorem ElM.wrc {w w':World} {a b n C r:Nat} {g:Nat→Nat} (h:ElM w a b n C g) (hW:WrC w w' r) (ha:a≠r) (hb:b≠r):ElM w' a b n C g :=
 ⟨⟨Nat.lt_of_lt_of_le h.box.lt hW.below.size,fun j v hj=>(hW.mem ⟨a,0+j,none⟩ h.box.lt ha).1.trans (h.box.row j v hj),fun j=>(hW.mem ⟨a,j,none⟩ h.box.lt ha).2.trans (h.box.free j)⟩,h.app.shape hW.shape,Nat.lt_of_lt_of_le h.lt hW.below.size,
  fun j v hj=>(hW.mem ⟨b,0+j,none⟩ h.lt hb).1.trans (h.row j v hj),h.ne⟩
theorem ElM.on {w w':World} {a b n C:Nat} {g:Nat→Nat} (h:ElM w a b n C g) (hW:Below w.heap.size w w'):ElM w' a b n C g :=
 ⟨⟨Nat.lt_of_lt_of_le h.box.lt hW.size,bJ hW h.box.lt h.box.row,fun j=>(hW.frozen (p:=⟨a,j,none⟩) h.box.lt).trans (h.box.free j)⟩,h.app.shape (Shape.below hW),Nat.lt_of_lt_of_le h.lt hW.size,bJ hW h.lt h.row,h.ne⟩
theorem ElM.putL {w:World} {a b n C l:Nat} {g:Nat→Nat} {r:Loop} {o:Obj} (h:ElM w a b n C g) (hl:w.heap[l]?=some (.loop r)):ElM (w.putObj l o) a b n C g:=by
 have hb:b≠l:=fun e=>by
  obtain⟨cur,h1,_⟩:=h.app;rw[e,hl]at h1; cases h1
 have ha:a≠l:=fun e=>by
  have:=h.box.row 0 _ rfl;rw[Nat.zero_add,e]at this;simp[World.cell?,hl]at this
 refine⟨⟨by rw[World.putObj_size]; exact h.box.lt,lO hl ha h.box.row,fun j=>(lQ hl (p:=⟨a,j,none⟩) ha).2.trans (h.box.free j)⟩,?_,by rw[World.putObj_size]; exact h.lt,lO hl hb h.row,h.ne⟩;obtain⟨cur,h1,h2,h3,h4⟩:=h.app;exact⟨cur,(World.putObj_heap_other hb).trans h1,h2,h3,h4⟩
theorem Own.putL {w:World} {r l:Nat} {c:Value} {rec:Loop} {o:Obj} (h:Own w r [.c c]) (hl:w.heap[l]?=some (.loop rec)):Own (w.putObj l o) r [.c c]:=by
 have ha:r≠l:=fun e=>by
  have:=h.row 0 _ rfl;rw[Nat.zero_add,e]at this;simp[World.cell?,hl]at this
 exact⟨by rw[World.putObj_size]; exact h.lt,lO hl ha h.row,fun j=>(lQ hl (p:=⟨r,j,none⟩) ha).2.trans (h.free j)⟩
theorem ZP (x:Nat):∀v∈aA [At.q x],v.oneCell'=true:=fun v hv=>by
 have e:aA [At.q x]=w4 x:=by simp[aA,At.cells]
 rw[e]at hv;simp only[w4,List.mem_cons,List.not_mem_nil,or_false]at hv
 rcases hv with rfl|rfl|rfl|rfl<;>rfl
theorem oK (f:Nat→Nat):∀n s,(aA (cJ (el f) s n)).length=n*4
 | 0,s=>rfl
 | n+1,s=>by
  show (aA (el f s++cJ (el f) (s+1) n)).length=_;rw[aP,List.length_append,oK f n (s+1)];show 4+n*4=_;omega
theorem fY {f g:Nat→Nat}:∀(n s:Nat),(∀j,j<n→f (s+j)=g (s+j))→cJ (el f) s n=cJ (el g) s n
 | 0,s,h=>rfl
 | n+1,s,h=>by
  have h0:f s=g s:=h 0 (by omega);have h1:cJ (el f) (s+1) n=cJ (el g) (s+1) n:=fY n (s+1) fun j hj=>by
   have e:s+1+j=s+(j+1):=by omega
   rw[e];exact h (j+1) (by omega)
  show [At.q (f s)]++cJ (el f) (s+1) n=[At.q (g s)]++cJ (el g) (s+1) n;rw[h0,h1]
theorem VC:apT prog 56=some (27,4,32):=by kernel_rfl
theorem Gh {w:World} {b n C c m x:Nat} {g:Nat→Nat} (ha:AppAt w b 27 4 n C) (hr:w.rangeAt b 0 (aA (cJ (el g) 0 n))) (hx:w.rangeAt c 0 (aA [At.q x])) (hC:n+1≤C) (ty:TypeId) :
  ∃w',(Builtin.append_ #[56,56] ty #[aM b 0 n C,aM c 0 1 m]).run prog w=.ok (aM b 0 (n+1) C) w'∧AppAt w' b 27 4 (n+1) C ∧
   w'.rangeAt b 0 (aA (cJ (el fun j=>if j<n then g j else x) 0 (n+1)))∧w.grownBy w' (some b)∧Shape w w':=by
 obtain⟨ht,i,z,hi,hz,hsize,hby,hzs,hsz⟩:=jG VC;have hown:=Am ha hr (oK g n 0);have hnews:∀j v,(aA [At.q x])[j]?=some v→w.cell? ((⟨c,0,none⟩:Addr).add j)=some v:=fun j v hj=>by
  have:=hx j v hj
  rwa [show (⟨c,0,none⟩:Addr).add j=⟨c,0+j,none⟩ by simp[Addr.add]<;>omega]
 obtain⟨w',hr',hown',hg⟩:=run_append_fits (P:=prog) w 0 56 ty 27 i 4 ht hi hsize b n C _ hown ⟨c,0,none⟩ 1 m (aA [At.q x]) (by kernel_rfl) hnews (ZP x) hC;obtain⟨a1,a2,a3,a4,a5⟩:=sH hown';refine⟨w',hr',a1,?_,hg,⟨fun q cur e' hq => ?_,KeepsOthers.of_grownBy hg fun j o e ho => ?_⟩⟩
 ·have e:aA (cJ (el fun j=>if j<n then g j else x) 0 (n+1))=aA (cJ (el g) 0 n)++aA [At.q x]:=by
   rw[yI,aP];congr 1
   ·exact congrArg aA (fY n 0 fun j hj=>by rw[Nat.zero_add,if_pos hj])
   ·show aA [At.q (if 0+n<n then g (0+n)else x)]=_;rw[if_neg (by omega)]
  rw[e]; exact a4
 ·by_cases hqb:q=b
  ·subst hqb;obtain⟨c0,k1,k2,k3,k4⟩:=ha;rw[k1]at hq;cases hq;obtain⟨c1,m1,m2,m3,m4⟩:=a1;exact⟨c1,m1,by rw[m4,k4]⟩
  ·exact⟨cur,(hg.block q (Array.getElem?_eq_some_iff.1 hq).1 (by simpa using hqb)).trans hq,rfl⟩
 ·obtain⟨c0,k1,_⟩:=ha;cases e;rw[k1]at ho;cases ho;rfl
theorem aAV (w:World) (x:Nat):∃e,(Instr.buildSlice 56 1 #[(0,.agg (aA [At.q x]).toArray)]).run prog w=.ok (aM w.heap.size 0 1 1) (w.alloc (.cells (aA [At.q x]).toArray e)):=by
 obtain⟨ht,i,z,hi,hz,hsize,hby,hzs,hsz⟩:=jG VC;refine⟨27,run_buildSlice w 56 27 1 #[(0,.agg (aA [At.q x]).toArray)] (aA [At.q x]).toArray i z ht hi hz (by rw[hsize]; decide) (by rw[hsize]; decide) ?_⟩;rw[hsize];have hl:((Array.range (1*4)).map (z.cells[· % z.cells.size]!)).size=4:=by simp
 generalize (Array.range (1*4)).map (z.cells[· % z.cells.size]!)=Z at hl;obtain⟨Z⟩:=Z
 match Z,hl with
 | [z0,z1,z2,z3],_ =>
  show Instr.fill _ _ _=some _
  kernel_rfl
theorem sU {a:Act} {s:Nat} {v:Value} (h:a.tmps[s]?=some v):a.eval (.tmp s)=v:=by simp[Act.eval,h]
section
variable {ops:Array Oper} {o:Oper} {a:Act} {v:Value} {s:Nat} {S:World→Prop}
theorem PY (hop:o.op=.move (.tmp s)) (hg:o.guard=none) (h:a.tmps[s]?=some v):YieldsIf prog ops S o v a :=
 Or.inl ⟨by simp[Region.wanted,hg],fun wx _=>by simp only[execOp,hop,Sem.run_bind,Sem.run_pure,Result.andThen_ok,sU h]⟩
theorem BK {t b:Nat} (hop:o.op=.load t (.tmp s)) (hg:o.guard=none) (h:a.tmps[s]?=some (ptV b 0)) (ht:jM prog t=true) (hS:∀wx,S wx→wx.cell? ⟨b,0,none⟩=some v):YieldsIf prog ops S o v a :=
 Or.inl ⟨by simp[Region.wanted,hg],fun wx hw=>by
  have:=kD (P:=prog) wx ⟨b,0,none⟩ ht (hS wx hw);simp[execOp,hop,sU h,ptV,Instr.loadAt,Instr.sureAddr,this]⟩
theorem Uj {t e:Nat} {p:Option Addr} {n m:Nat} (hop:o.op=.call ⟨.builtin .len,#[.tmp s],#[t]⟩) (hg:o.guard=none) (h:a.tmps[s]?=some (.slice p n m)) (hu:prog.underlying t=some (.slice e)):YieldsIf prog ops S o (iI n) a :=
 Or.inl ⟨by simp[Region.wanted,hg],fun wx hw=>by
  simp[execOp,hop,resolve,invoke,builtin,sU h,Builtin.len_,Builtin.lenOf,iI,goInt,run_underlying hu]⟩
theorem Hu {src dst:Nat} {u:Value} (hop:o.op=.convert src dst (.tmp s)) (hg:o.guard=none) (h:a.tmps[s]?=some v) (hc:∀w:World,(convert src dst v).run prog w=.ok u w):YieldsIf prog ops S o u a :=
 Or.inl ⟨by simp[Region.wanted,hg],fun wx hw=>by simp[execOp,hop,sU h,hc wx]⟩
end
theorem vA {w:World} {b:Nat} {t:Nat} {v:Value} (hc:(w.cell? ⟨b,0,none⟩).isSome=true) (hf:w.frozen? ⟨b,0,none⟩=false) (hi:(prog.info? t).map (·.size)=some 1) (hv:v.cells = #[v]) (h1:v.oneCell'=true):(storeVar t ⟨b,0,none⟩ v).run prog w=.ok () (w.setCells b 0 [v]):=by
 have hst:=run_storeVar_mid (P:=prog) w b 0 t #[v] (fun j hj=>by
  have:j=0:=by simp at hj; omega
  subst this;exact⟨hc,hf⟩) (by rw[hi]; rfl) (by simp[h1])
 unfold storeVar at hst ⊢;rw[hv];exact hst
def boxS (b3 bl n C:Nat) (wx:World):Prop:=wx.cell? ⟨b3,0,none⟩=some (aM bl 0 n C)
theorem ElM.boxS {w:World} {b3 bl n C:Nat} {g:Nat→Nat} (h:ElM w b3 bl n C g):boxS b3 bl n C w:=by
 have:=h.box.row 0 _ rfl
 rwa [Nat.zero_add]at this
theorem SL {ops:Array Oper} {i j k:Nat} {got:Array Bool} {a:Act} {w:World} {b3 bl n C x d1 d2 s sl t3:Nat} {g:Nat→Nat} {K:Act→World→Prop} {o1 o2 o3:Oper}
  (hr1:Region.ready .any ops got=[i]) (hr2:Region.ready .any ops (got.setIfInBounds i true)=[j]) (hr3:Region.ready .any ops ((got.setIfInBounds i true).setIfInBounds j true)=[k]) (hr4:Region.ready .any ops (((got.setIfInBounds i true).setIfInBounds j true).setIfInBounds k true)=[])
  (ho1:ops[i]?=some o1) (hop1:o1.op=.buildSlice 56 1 #[(0,.tmp s)]) (hd1:o1.dst=some d1) (hg1:o1.guard=none)
  (ho2:ops[j]?=some o2) (hop2:o2.op=.call ⟨.builtin .append,#[.tmp sl,.tmp d1],#[56,56]⟩) (hd2:o2.dst=some d2) (hg2:o2.guard=none)
  (ho3:ops[k]?=some o3) (hop3:o3.op=.store 56 (.tmp t3) (.tmp d2)) (hd3:o3.dst=none) (hg3:o3.guard=none)
  (hE:ElM w b3 bl n C g) (hC:n+1≤C) (hx:a.tmps[s]?=some (.agg (aA [At.q x]).toArray)) (hsl:a.tmps[sl]?=some (aM bl 0 n C)) (h3:a.tmps[t3]?=some (ptV b3 0))
  (hne1:d1≠sl) (hne2:d1≠t3) (hne3:d2≠t3) (hlt1:d1<a.tmps.size) (hlt2:d2<a.tmps.size)
  (hK:∀a' w',a'.defers=a.defers→a'.tmps.size=a.tmps.size→(∀q,d1≠q→d2≠q→a'.tmps[q]?=a.tmps[q]?)→Only2 b3 bl w w'→ElM w' b3 bl (n+1) C (fun q=>if q<n then g q else x)→K a' w') :
  dQ prog .any ops (iF K) (Go.Proofs.YtpjlhhpjpnacmaaGreatDoor.Ex.boxS b3 bl n C) k 3 got a w:=by
 refine aF hr1 ho1 fun K1 hK1 => ?_
 rw[if_pos (by simp[Region.wanted,hg1])];obtain⟨e,hb⟩:=aAV w x;have hrun1:(execOp a.eval o1).run prog w=.ok (.value (aM w.heap.size 0 1 1)) (w.alloc (.cells (aA [At.q x]).toArray e)):=by
  simp[execOp,hop1,sU hx,hb]
 refine cD hrun1 ?_;rw[hd1];have hB1:Below w.heap.size w (w.alloc (.cells (aA [At.q x]).toArray e)):=(Below.refl _ w).alloc (Nat.le_refl _) _;have hE1:=hE.on hB1;have hO1:Only2 b3 bl w (w.alloc (.cells (aA [At.q x]).toArray e)):=Only2.of_below hB1 hE.box.lt hE.lt;have hnew:(w.alloc (.cells (aA [At.q x]).toArray e)).rangeAt w.heap.size 0 (aA [At.q x]):=fun q v hq=>by
  have h0:(w.alloc (.cells (aA [At.q x]).toArray e)).heap[w.heap.size]?=some (.cells (aA [At.q x]).toArray e):=World.alloc_heap_new _ _;rw[cell_of_row _ _ (0+q) _ e (0,0) h0,Nat.zero_add];simpa using hq
 generalize hw1:w.alloc (.cells (aA [At.q x]).toArray e)=w1 at *;refine hK1.out _ _ (Or.inr hE1.boxS) fun _ => ?_
 clear hK1 hrun1;have hsl1:=aQ (d:=d1) (u:=aM w.heap.size 0 1 1) hsl hne1;have hd1':=aT a d1 (aM w.heap.size 0 1 1) hlt1;have h31:=aQ (d:=d1) (u:=aM w.heap.size 0 1 1) h3 hne2;refine aF hr2 ho2 fun K2 hK2 => ?_
 rw[if_pos (by simp[Region.wanted,hg2])];obtain⟨w2,hr,ha2,hrow2,hgr,EP⟩:=Gh hE1.app hE1.row hnew hC (m:=1) o2.type;have hrun2:(execOp (a.put (some d1) (aM w.heap.size 0 1 1)).eval o2).run prog w1=.ok (.value (aM bl 0 (n+1) C)) w2:=by
  unfold execOp;simp only[hop2,resolve,invoke,builtin,Sem.run_bind,Sem.run_pure,Result.andThen_ok,List.map_toArray,List.map_cons,List.map_nil,sU hsl1,sU hd1',hr]
 refine cD hrun2 ?_;rw[hd2];have hO2:Only2 b3 bl w1 w2:=Only2.of_grown hgr EP hE1.lt hE1.box.lt;have hbox2:Own w2 b3 [.c (aM bl 0 n C)]:=by
  have hb3:=hgr.block b3 hE1.box.lt (fun e=>hE1.ne (Option.some.inj e));exact⟨Nat.lt_of_lt_of_le hE1.box.lt EP.2.size,fun q v hq=>(World.cell?_of_block hb3).trans (hE1.box.row q v hq),fun q=>(World.frozen?_of_block hb3).trans (hE1.box.free q)⟩
 have hS2:Go.Proofs.YtpjlhhpjpnacmaaGreatDoor.Ex.boxS b3 bl n C w2:=by
  have:=hbox2.row 0 _ rfl
  rwa [Nat.zero_add]at this
 refine hK2.out _ _ (Or.inr hS2) fun _ => ?_
 clear hK2 hrun2;have hd2':=aT (a.put (some d1) (aM w.heap.size 0 1 1)) d2 (aM bl 0 (n+1) C) (by rw[aH]; exact hlt2);have h32:=aQ (d:=d2) (u:=aM bl 0 (n+1) C) h31 hne3;refine aF hr3 ho3 fun K3 hK3 => ?_
 rw[if_pos (by simp[Region.wanted,hg3])];have hst:=vA (w:=w2) (b:=b3) (t:=56) (v:=aM bl 0 (n+1) C) (by rw[hS2]; rfl) (hbox2.free 0) (by kernel_rfl) rfl rfl;have hrun3:(execOp ((a.put (some d1) (aM w.heap.size 0 1 1)).put (some d2) (aM bl 0 (n+1) C)).eval o3).run prog w2=.ok .skip (w2.setCells b3 0 [aM bl 0 (n+1) C]):=by
  simp[execOp,hop3,Instr.storeAt,sU h32,sU hd2',ptV,Instr.sureAddr,hst]
 unfold Oper.wp;rw[hrun3];show K3 _ _;rw[hd3];refine hK3.out _ _ (Or.inl rfl) fun _=>bR hr4 ⟨rfl,?_⟩
 have hO3:Only2 b3 bl w2 (w2.setCells b3 0 [aM bl 0 (n+1) C]):=Only2.of_set;refine hK _ _ rfl (by show (((a.put (some d1) _).put (some d2) _)).tmps.size=_; rw[aH,aH]) (fun q h1 h2=>by
  show (((a.put (some d1) _).put (some d2) _)).tmps[q]?=_;rw[gI _ _ _ _ (fun e=>h2 (by injection e)),gI _ _ _ _ (fun e=>h1 (by injection e))]) (hO1.trans (hO2.trans hO3)) ?_
 have hlt2:bl<w2.heap.size:=Nat.lt_of_lt_of_le hE1.lt EP.2.size;refine⟨⟨by rw[dC]; exact hbox2.lt,fun q v hq => ?_,fun q=>by rw[World.frozen?_setCells]; exact hbox2.free q⟩,ha2.shape (dV _ _ _ _),by rw[dC]; exact hlt2,fun q v hq => ?_,hE.ne⟩
 ·have hq0:q=0:=by have:=(List.getElem?_eq_some_iff.1 hq).1; simpa[aA,At.cells]using this
  subst hq0;have:=World.cell?_setCells_in b3 [aM bl 0 (n+1) C] 0 w2 (fun q hq=>by
   have:q=0:=by simpa using hq
   subst this;rw[Nat.zero_add,hS2]; rfl) 0 (by simp)
  rw[this,←hq];rfl
 ·rw[World.cell?_setCells_out _ _ _ _ _ (fun e _=>absurd e.symm hE.ne)];exact hrow2 q v hq
theorem zD {r:Option Nat} {n:Nat} (S:World→Prop) (L:Nat) {id:Nat} {ops:Array Oper} {K:Act→World→Prop} {Q:Exit→Act→World→Prop} {a:Act} {w:World} (hnd:IK ops=true) (h:dQ prog .any ops (iF K) S L ops.size (Array.replicate ops.size false) a w.drew) (hQ:∀a w,K a w→Q .normal a w) :
  (Code.region id ops true).wpIn (rF r) n prog Q a w:=by
 refine wpIn_region_draw fun t => ?_
 simp only[Region.schedule,aI,Bool.true_or,if_true];have:=AA (r:=r) (n:=n) (Q':=Q) (R:=[]) hnd oU (fun a w hK=>hQ a w hK.2) (fun e a w he hK=>(he hK.1).elim) _ a _ (wpAny_sound ops.size t _ a _ (oO _ _ _ _ h))
 rwa [List.append_nil]at this
def Hh (bb:Nat):Value:=.func (.func 187) #[] #[ptV bb 0]
def tS:Code:=(f144.body).getD .skip
theorem Lo:tS=.seq (cA tS) (.seq (cA (cB tS)) .ret):=by kernel_rfl
theorem aDu (p:Option Addr) (n m:Nat):aX prog (qG prog) f144.ntmps (fun _=>tC T0 fun _=>none) 40 (cA tS) (fJ 0 [.v (.im (.slice p n m))]) [.slot 1 (.pt 1 0),.row 1 true [.c (.slice p n m)]]=some ([],.nrm,[.slot 1 (.pt 1 0),.row 1 true [.c (.slice p n m)]]):=by kernel_rfl
theorem aDt (bb:Nat) (v:Value):aX prog (qG prog) f144.ntmps (fun _=>tC T0 fun _=>none) 40 (cA (cB tS)) [.at 1 bb,.slot 1 (.pt 1 0),.row 1 true [.c v]] [.slot 2 (.im (Hh bb)),.at 1 bb,.row 1 true [.c v]]=some ([],.nrm,[.slot 2 (.im (Hh bb)),.at 1 bb,.row 1 true [.c v]]):=by kernel_rfl
theorem Aj (w0:World) (p:Option Addr) (n m:Nat):Calls prog 144 #[.slice p n m] w0 fun e w'=>∃bb,e=.returned (Hh bb)∧Below w0.heap.size w0 w'∧oldOf w' bb 0 [.c (.slice p n m)]:=by
 have hG:bQ prog (qG prog) w0.heap.size w0:=(aV _).w _ _;have hT:∀n d:Nat,TabOkW prog T0 w0.heap.size w0:=fun _ _=>(bP _).w _ _
 refine cM func144 (cs:=[.v (.im (.slice p n m))]) (args:=[.slice p n m]) (c:=tS) rfl ⟨rfl,trivial⟩ (Nat.le_of_ble_eq_true (by kernel_rfl)) fun a w hA => ?_
 rw[Lo];refine wp_seq (aB aI hT hG (aDu p n m) trivial hA fun a w hA => ?_);obtain⟨bb,hA⟩:=hA.at (k:=1) (l:=[.c (.slice p n m)]) (by simp);refine wp_seq (aB aI hT hG (aDt bb _) trivial hA fun a w hA=>wp_ret ?_);have ho:=hA.old (k:=1) (l:=[.c (.slice p n m)]) (b:=bb) (by simp) (by simp);exact cN (l:=[.im (Hh bb)]) (r:=.one (.im (Hh bb))) (by kernel_rfl) (by kernel_rfl) hA ⟨bb,rfl,hA.below,ho⟩
def WW (f:Nat→Nat) (N i:Nat):Nat:=if i=0 then N else hN (fun j=>f (31*(i-1)+j)) (nD N (i-1))
noncomputable abbrev eF:Func:=f90
def uW:Code:=(f90.body).getD .skip
def e1C:Code:=cA (cB uW)
def WY:Code:=cA (cB (cB uW))
def Pd:Code:=cB (cB (cB uW))
def e3C:Code:=cA (cA Pd)
def eRF:Code:=jV (cB (cA Pd))
def Wf:Code→Code
 | .rangeFunc _ _ a _=>a
 | c=>c
def rfB:Code→Code
 | .rangeFunc _ _ _ b=>b
 | c=>c
def VI:Code:=jV (rfB eRF)
theorem aAk:uW=.seq (cA uW) (.seq (.region 1 (aE e1C) false) (.seq (.region 2 (aE WY) true) (.seq (.seq (.region 3 (aE e3C) false) (.block 0 (.rangeFunc (.tmp 18) #[19] (.region 4 (aE (Wf eRF)) false) (.block 1 (.region 5 (aE VI) true))))) (.seq (.region 6 (aE (cA (cB Pd))) false) .ret)))):=by kernel_rfl
theorem aKi:eF.ntmps=26:=by kernel_rfl
theorem aKe (v:Value):aX prog (qG prog) 26 (fun _=>tC T0 fun _=>none) 40 (cA uW) (fJ 0 [.v (.im v)]) [.slot 0 (.im v)]=some ([],.nrm,[.slot 0 (.im v)]):=by kernel_rfl
theorem aKd (p:Option Addr) (N m:Nat):cX prog (qG prog) 26 (tC T0 (assoc [(7,iI (N/31)),(8,iI (2+N/31))])) ((aE e1C).extract 0 4) [.slot 0 (.im (.slice p N m))] [.slot 8 (.im (iI (2+N/31))),.slot 0 (.im (.slice p N m))]=some ([aN .quo .i64 (Int.ofNat N) 31=some (iI (N/31)),aN .add .i64 2 (Int.ofNat (N/31))=some (iI (2+N/31))],[.slot 8 (.im (iI (2+N/31))),.slot 0 (.im (.slice p N m))]):=by kernel_rfl
theorem aFs (v:Value) (bl C:Nat):cX prog (qG prog) 26 (tC T0 fun _=>none) ((aE e1C).extract 5 7) [.slot 9 (.im (aM bl 0 0 C)),.slot 0 (.im v)] [.slot 3 (.pt 3 0),.row 3 true [.c (aM bl 0 0 C)],.slot 0 (.im v)]=some ([],[.slot 3 (.pt 3 0),.row 3 true [.c (aM bl 0 0 C)],.slot 0 (.im v)]):=by kernel_rfl
theorem aKc (v:Value) (b3:Nat):cX prog (qG prog) 26 (tC T0 fun _=>none) ((aE e3C).extract 0 1) [.slot 0 (.im v),.slot 3 (.im (ptV b3 0))] [.slot 17 (.im v),.slot 0 (.im v),.slot 3 (.im (ptV b3 0))]=some ([],[.slot 17 (.im v),.slot 0 (.im v),.slot 3 (.im (ptV b3 0))]):=by kernel_rfl
theorem aKb (v:Value) (b3:Nat):aX prog (qG prog) 26 (fun _=>tC T0 fun _=>none) 1 (.region 4 (aE (Wf eRF)) false) [.slot 19 (.im v),.slot 3 (.im (ptV b3 0))] [.slot 4 (.im v),.slot 3 (.im (ptV b3 0))]=some ([],.nrm,[.slot 4 (.im v),.slot 3 (.im (ptV b3 0))]):=by kernel_rfl
theorem aU {nt:Nat} {w:World} {a:Act} {ts:List (Nat×Value)} (hd:a.defers=[]) (hs:a.tmps.size=nt) (ht:∀x∈ts,a.tmps[x.1]?=some x.2):Holds nt w.heap.size w (ts.map fun x=>.slot x.1 (.im x.2)) a w:=by
 refine⟨hd,hs,Below.refl _ _,Nat.le_refl _,fun _=>(w.heap.size,0,0),fun φ hφ => ?_,fun k k' o' l l' h1 => ?_,fun k l h1 => ?_,Nat.le_refl _,fun p h1 h2=>⟨rfl,rfl⟩,Shape.refl _⟩
 ·obtain⟨x,hx,rfl⟩:=List.mem_map.1 hφ;exact ht x hx
 ·obtain⟨x,_,e⟩:=List.mem_map.1 h1; cases e
 ·obtain⟨x,_,e⟩:=List.mem_map.1 h1; cases e
theorem DW {n:Nat} (h:n<18446744073709551616) (w:World):(convert 3 22 (iI n)).run prog w=.ok (.int .u64 (Int.ofNat n)) w:=by
 have h1:prog.underlying 3=some (.int .i64):=by kernel_rfl
 have h2:prog.underlying 22=some (.int .u64):=by kernel_rfl
 have h3:IntKind.u64.wrap (n:Int)=n:=by rw[IntKind.wrap_u64]; omega
 simp[convert,iI,run_underlying h1,run_underlying h2,h3,go_sem]
theorem Mb {C:Nat} (h:C≤8796093022208) (w:World):∃w',(Instr.makeSlice 56 (iI 0) (iI C)).run prog w=.ok (aM w.heap.size 0 0 C) w'∧Below w.heap.size w w'∧AppAt w' w.heap.size 27 4 0 C∧w'.heap.size=w.heap.size+1:=by
 obtain⟨ht,i,z,hi,hz,hsize,hby,hzs,hsz⟩:=jG VC;have hr:=Go.run_make (P:=prog) w 56 27 i z ht hi hz .i64 .i64 0 (C:Int) (by omega) (by omega) (by rw[hby]; omega) (by omega);refine⟨_,hr,(Below.refl _ w).alloc (Nat.le_refl _) _,⟨_,World.alloc_heap_new _ _,Nat.zero_le _,by unfold maxLen; omega,?_⟩,by simp⟩;simp[madeCells,hsize]
theorem iM {K:Act→World→Prop} {c:List PanicEntry} {a a':Act} {w w':World} (h:iF K (.panic c) a w):iF K (.panic c) a' w':=by cases h.1
theorem aKg {w:World} {a:Act} {b3 bl n C k gg oo m:Nat} {g ff:Nat→Nat} (hE:ElM w b3 bl n C g) (hC:n+1≤C) (h3:a.tmps[3]?=some (ptV b3 0)) (h4:a.tmps[4]?=some (aM gg oo k m)) (hB:BM w gg oo k ff) (hk1:1≤k) (hk2:k≤31) (hsz:a.tmps.size=26)
  {K:Act→World→Prop} (hK:∀a' w',Only2 b3 bl w w'→ElM w' b3 bl (n+1) C (fun q=>if q<n then g q else hN ff k)→K a' w') :
  dQ prog .any (aE VI) (iF K) (boxS b3 bl n C) 5 (aE VI).size (Array.replicate (aE VI).size false) a w.drew:=by
 have hd:Below w.heap.size w w.drew:=(Below.refl _ w).drew;have hE:=hE.on hd;obtain⟨o0,ho0,hop0,hd0,hg0⟩:∃x,(aE VI)[0]?=some x∧x.op=.load 56 (.tmp 3)∧x.dst=some 20∧x.guard=none:=⟨_,rfl,rfl,rfl,rfl⟩
 refine aD (i:=0) (v:=aM bl 0 n C) ho0 (by kernel_rfl) (by kernel_rfl) (by kernel_rfl) (by kernel_rfl) (fun _ _ _ h=>iM h) hE.boxS (BK hop0 hg0 h3 (by kernel_rfl) fun _ h=>h) ?_;rw[hd0];obtain⟨o1,ho1,hop1,hd1,hg1⟩:∃x,(aE VI)[1]?=some x∧x.op=.move (.tmp 4)∧x.dst=some 21∧x.guard=none:=⟨_,rfl,rfl,rfl,rfl⟩
 refine aD (i:=1) (v:=aM gg oo k m) ho1 (by kernel_rfl) (by kernel_rfl) (by kernel_rfl) (by kernel_rfl) (fun _ _ _ h=>iM h) hE.boxS (PY hop1 hg1 (aQ h4 (by decide))) ?_;rw[hd1];obtain⟨o2,ho2,⟨ts2,hop2⟩,hd2,hg2⟩:∃x,(aE VI)[2]?=some x∧(∃ts,x.op=.call ⟨.value (.func 145),#[.tmp 21],ts⟩)∧x.dst=some 22∧x.guard=none:=⟨_,rfl,⟨_,rfl⟩,rfl,rfl⟩
 refine aF (i:=2) (by kernel_rfl) ho2 fun K2 hK2 => ?_
 rw[if_pos (by simp[Region.wanted,hg2])];have h21:((a.put (some 20) (aM bl 0 n C)).put (some 21) (aM gg oo k m)).tmps[21]?=some (aM gg oo k m):=aT _ _ _ (by rw[aH,hsz]; decide);refine vX hop2 (vs:=[aM gg oo k m]) (by simp[sU h21]) (fun args=>cC func145 (by kernel_rfl) (by kernel_rfl) args _) (Bd (hB.on hd) hk1 hk2) fun w2 hb2 => ?_
 rw[hd2];have hE2:=hE.on hb2;refine hK2.out _ _ (Or.inr hE2.boxS) fun _ => ?_
 clear hK2;obtain⟨o3,ho3,hop3,hd3,hg3⟩:∃x,(aE VI)[3]?=some x∧x.op=.buildSlice 56 1 #[(0,.tmp 22)]∧x.dst=some 23∧x.guard=none:=⟨_,rfl,rfl,rfl,rfl⟩
 obtain⟨o4,ho4,hop4,hd4,hg4⟩:∃x,(aE VI)[4]?=some x∧x.op=.call ⟨.builtin .append,#[.tmp 20,.tmp 23],#[56,56]⟩∧x.dst=some 24∧x.guard=none:=⟨_,rfl,rfl,rfl,rfl⟩
 obtain⟨o5,ho5,hop5,hd5,hg5⟩:∃x,(aE VI)[5]?=some x∧x.op=.store 56 (.tmp 3) (.tmp 24)∧x.dst=none∧x.guard=none:=⟨_,rfl,rfl,rfl,rfl⟩
 exact SL (by kernel_rfl) (by kernel_rfl) (by kernel_rfl) (by kernel_rfl) ho3 hop3 hd3 hg3 ho4 hop4 hd4 hg4 ho5 hop5 hd5 hg5 hE2 hC
  (aT _ _ _ (by rw[aH,aH,hsz]; decide)) (aQ (aQ (aT _ _ _ (by rw[hsz]; decide)) (by decide)) (by decide)) (aQ (aQ (aQ h3 (by decide)) (by decide)) (by decide)) (by decide) (by decide) (by decide) (by rw[aH,aH,aH,hsz]; decide) (by rw[aH,aH,aH,hsz]; decide)
  fun a' w' _ _ _ hO hE'=>hK a' w' ((Only2.of_below hd (by exact hE.box.lt) (by exact hE.lt)).trans ((Only2.of_below hb2 hE.box.lt hE.lt).trans hO)) hE'
theorem aKh {w:World} {a:Act} {b3 bl C N m:Nat} {p:Option Addr} {g:Nat→Nat} (hE:ElM w b3 bl 0 C g) (hC:1≤C) (hN:N<18446744073709551616) (h0:a.tmps[0]?=some (.slice p N m)) (h3:a.tmps[3]?=some (ptV b3 0)) (hsz:a.tmps.size=26)
  {K:Act→World→Prop} (hK:∀a' w',a'.defers=a.defers→a'.tmps.size=26→a'.tmps[0]?=some (.slice p N m)→a'.tmps[3]?=some (ptV b3 0)→Only2 b3 bl w w'→ElM w' b3 bl 1 C (fun q=>if q<0 then g q else N)→K a' w') :
  dQ prog .any (aE WY) (iF K) (boxS b3 bl 0 C) 7 (aE WY).size (Array.replicate (aE WY).size false) a w.drew:=by
 have hd:Below w.heap.size w w.drew:=(Below.refl _ w).drew;have hE:=hE.on hd;obtain⟨o0,ho0,hop0,hd0,hg0⟩:∃x,(aE WY)[0]?=some x∧x.op=.load 56 (.tmp 3)∧x.dst=some 10∧x.guard=none:=⟨_,rfl,rfl,rfl,rfl⟩
 refine aD (i:=0) (v:=aM bl 0 0 C) ho0 (by kernel_rfl) (by kernel_rfl) (by kernel_rfl) (by kernel_rfl) (fun _ _ _ h=>iM h) hE.boxS (BK hop0 hg0 h3 (by kernel_rfl) fun _ h=>h) ?_;rw[hd0];obtain⟨o1,ho1,hop1,hd1,hg1⟩:∃x,(aE WY)[1]?=some x∧x.op=.move (.tmp 0)∧x.dst=some 11∧x.guard=none:=⟨_,rfl,rfl,rfl,rfl⟩
 refine aD (i:=1) (v:=.slice p N m) ho1 (by kernel_rfl) (by kernel_rfl) (by kernel_rfl) (by kernel_rfl) (fun _ _ _ h=>iM h) hE.boxS (PY hop1 hg1 (aQ h0 (by decide))) ?_;rw[hd1];have hg11:((a.put (some 10) (aM bl 0 0 C)).put (some 11) (.slice p N m)).tmps[11]?=some (.slice p N m):=aT _ _ _ (by rw[aH,hsz]; decide);obtain⟨o2,ho2,hop2,hd2,hg2⟩:∃x,(aE WY)[2]?=some x∧x.op=.call ⟨.builtin .len,#[.tmp 11],#[25]⟩∧x.dst=some 12∧x.guard=none:=⟨_,rfl,rfl,rfl,rfl⟩
 refine aD (i:=2) (v:=iI N) ho2 (by kernel_rfl) (by kernel_rfl) (by kernel_rfl) (by kernel_rfl) (fun _ _ _ h=>iM h) hE.boxS (Uj hop2 hg2 hg11 BP) ?_;rw[hd2];have hg12:(((a.put (some 10) (aM bl 0 0 C)).put (some 11) (.slice p N m)).put (some 12) (iI N)).tmps[12]?=some (iI N):=aT _ _ _ (by rw[aH,aH,hsz]; decide);obtain⟨o3,ho3,hop3,hd3,hg3⟩:∃x,(aE WY)[3]?=some x∧x.op=.convert 3 22 (.tmp 12)∧x.dst=some 13∧x.guard=none:=⟨_,rfl,rfl,rfl,rfl⟩
 refine aD (i:=3) (v:=.int .u64 (Int.ofNat N)) ho3 (by kernel_rfl) (by kernel_rfl) (by kernel_rfl) (by kernel_rfl) (fun _ _ _ h=>iM h) hE.boxS (Hu hop3 hg3 hg12 (DW hN)) ?_;rw[hd3];have hg13:((((a.put (some 10) (aM bl 0 0 C)).put (some 11) (.slice p N m)).put (some 12) (iI N)).put (some 13) (.int .u64 (Int.ofNat N))).tmps[13]?=some (.int .u64 (Int.ofNat N)):=aT _ _ _ (by rw[aH,aH,aH,hsz]; decide);obtain⟨o4,ho4,⟨ts4,hop4⟩,hd4,hg4⟩:∃x,(aE WY)[4]?=some x∧(∃ts,x.op=.call ⟨.value (.func 106),#[.tmp 13],ts⟩)∧x.dst=some 14∧x.guard=none:=⟨_,rfl,⟨_,rfl⟩,rfl,rfl⟩
 refine aF (i:=4) (by kernel_rfl) ho4 fun K4 hK4 => ?_
 rw[if_pos (by simp[Region.wanted,hg4])];refine vX hop4 (vs:=[.int .u64 (Int.ofNat N)]) (List.cons_eq_cons.2 ⟨sU hg13,rfl⟩) (fun args=>cC func106 (by kernel_rfl) (by kernel_rfl) args _) (Wk [.v (.im (.int .u64 (Int.ofNat N)))] _ _ rfl ⟨hN,trivial⟩ [.int .u64 (Int.ofNat N)] w.drew ⟨rfl,trivial⟩) fun w2 hb2 => ?_
 rw[hd4];have hE2:=hE.on hb2;refine hK4.out _ _ (Or.inr hE2.boxS) fun _ => ?_
 clear hK4;obtain⟨o5,ho5,hop5,hd5,hg5⟩:∃x,(aE WY)[5]?=some x∧x.op=.buildSlice 56 1 #[(0,.tmp 14)]∧x.dst=some 15∧x.guard=none:=⟨_,rfl,rfl,rfl,rfl⟩
 obtain⟨o6,ho6,hop6,hd6,hg6⟩:∃x,(aE WY)[6]?=some x∧x.op=.call ⟨.builtin .append,#[.tmp 10,.tmp 15],#[56,56]⟩∧x.dst=some 16∧x.guard=none:=⟨_,rfl,rfl,rfl,rfl⟩
 obtain⟨o7,ho7,hop7,hd7,hg7⟩:∃x,(aE WY)[7]?=some x∧x.op=.store 56 (.tmp 3) (.tmp 16)∧x.dst=none∧x.guard=none:=⟨_,rfl,rfl,rfl,rfl⟩
 exact SL (n:=0) (x:=N) (by kernel_rfl) (by kernel_rfl) (by kernel_rfl) (by kernel_rfl) ho5 hop5 hd5 hg5 ho6 hop6 hd6 hg6 ho7 hop7 hd7 hg7 hE2 hC
  (aT _ _ _ (by simp only[aH,hsz]; decide)) (aQ (aQ (aQ (aQ (aT _ _ _ (by rw[hsz]; decide)) (by decide)) (by decide)) (by decide)) (by decide)) (aQ (aQ (aQ (aQ (aQ h3 (by decide)) (by decide)) (by decide)) (by decide)) (by decide)) (by decide) (by decide) (by decide) (by simp only[aH,hsz]; decide) (by simp only[aH,hsz]; decide)
  fun a' w' e1 e2 e3 hO hE'=>hK a' w' e1 (by rw[e2]; simp only[aH,hsz]) ((e3 0 (by decide) (by decide)).trans (aQ (aQ (aQ (aQ (aQ h0 (by decide)) (by decide)) (by decide)) (by decide)) (by decide))) ((e3 3 (by decide) (by decide)).trans (aQ (aQ (aQ (aQ (aQ h3 (by decide)) (by decide)) (by decide)) (by decide)) (by decide))) ((Only2.of_below hd (by exact hE.box.lt) (by exact hE.lt)).trans ((Only2.of_below hb2 hE.box.lt hE.lt).trans hO)) hE'
end Go.Proofs.YtpjlhhpjpnacmaaGreatDoor.Ex
