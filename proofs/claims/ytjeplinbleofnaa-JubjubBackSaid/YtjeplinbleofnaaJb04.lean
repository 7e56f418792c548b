/- Jb04 -/
import Derived.KernelRfl
import Derived.Laws.StructEq
import Derived.Laws.AppendOwn
import Derived.Laws.OwnMore
import Derived.Deep.LoopGhost
import Derived.Test.YtjeplinbleofnaaJb03
import Derived.Test.YtjeplinbleofnaaJb02
import Derived.Test.YtjeplinbleofnaaProg
set_option maxRecDepth 100000
set_option linter.unusedVariables false
set_option linter.unusedSimpArgs false
set_option linter.unnecessarySimpa false
namespace Go.Proofs.Ytjeplinbleofnaa.Ex
open Go.Proofs.Try
open Go.RowKit
def fL (dst kill:Option Nat):Fact→Bool
 | .slot s v=>fF dst s||(match v.key with|some k=>fF dst k|none=>false)
 | .row k _ _=>fF dst k||fF kill k
 | .at k _=>fF dst k
 | .app k _ _ _=>fF dst k
structure Rec where
 M:List (Option Nat×Fact)
 dst:Option Nat
 kill:Option Nat
def HO (draw:Bool) (ops:Array Oper) (i j:Nat):Bool :=
 bif draw then (match ops[i]? with|some o=>o.after.toList.any (fun e=>Region.binds .any e&&Nat.beq e.on j)|none=>false)else Nat.blt j i
def OB (φ:Fact):List Rec→Nat→Option Nat→Bool
 | [],_,_=>true
 | r::rs,j,b=>(bif (match b with|none=>true|some b'=>Nat.blt b' j)then !(fL r.dst r.kill φ)else true)&&OB φ rs (j+1) b
def DA (draw:Bool) (ops:Array Oper) (i:Nat) (rs:List Rec) (x:Option Nat×Fact):Bool :=
 (match x.1 with|none=>true|some b=>HO draw ops i b)&&OB x.2 rs 0 x.1
def tmps:List Operand→List Nat
 | []=>[]
 | .tmp s::r=>s::tmps r
 | _::r=>tmps r
def JO (ops:Array Oper) (o:Oper):List Nat :=
 match o.guard with
 | some (g,_)=>(match (ops[g]?).bind (·.dst)with|some s=>s::tmps o.op.operands.toList|none=>tmps o.op.operands.toList)
 | none=>tmps o.op.operands.toList
def UD:Op→Bool
 | .load _ _=>true
 | .store _ _ _=>true
 | .call _=>true
 | _=>false
def lD (l:List Nat):List (Option Nat×Fact)→List Nat
 | []=>[]
 | (_,.slot s v)::r=>bif l.any (Nat.beq s)then (match v.key with|some k=>k::lD l r|none=>lD l r)else lD l r
 | _::r=>lD l r
def YJ (l ks:List Nat) (x:Option Nat×Fact):Bool :=
 match x.2 with
 | .slot s _=>l.any (Nat.beq s)
 | .row k _ _=>ks.any (Nat.beq k)
 | .at _ _=>true
 | .app k _ _ _=>ks.any (Nat.beq k)
def VH:Op→Bool
 | .call c=>(match c.callee with | .value (.tmp _)=>true|_=>false)
 | _=>false
def Ag (ops:Array Oper) (o:Oper) (M:List (Option Nat×Fact)):List (Option Nat×Fact) :=
 match JO ops o with
 | l=>match (bif UD o.op then (bif VH o.op then 0::lD l M else lD l M)else [])with
  | ks=>M.filter (YJ l ks)
theorem JR {ops:Array Oper} {o:Oper} {M:List (Option Nat×Fact)} {x:Option Nat×Fact} (h:x∈Ag ops o M):x∈M:=(List.mem_filter.1 h).1
def oV (E:Env) (draw:Bool) (ops:Array Oper):List Oper→Nat→List (Option Nat×Fact)→List Rec→List Prop→Option (List Prop×List (Option Nat×Fact)×List Rec)
 | [],_,TF,rs,ps=>some (ps,TF,rs)
 | o::rest,i,TF,rs,ps =>
  match Ag ops o (TF.filter (DA draw ops i rs))with
  | M=>match SS E ops (M.map (·.2)) o with
   | some (pre,out,kill)=>oV E draw ops rest (i+1) (out.map (fun φ=>(some i,φ))++TF) (rs++[⟨M,o.dst,kill⟩]) (ps++pre)
   | none=>none
def jN {α:Type} (p:Nat→α→Bool):Nat→List α→Bool
 | _,[]=>true
 | k,x::r=>p k x&&jN p (k+1) r
theorem eN {α:Type} {p:Nat→α→Bool}:∀{l:List α} {k:Nat},jN p k l=true→∀i x,l[i]?=some x→p (k+i) x=true
 | [],k,_,i,x,hx=>by simp at hx
 | y::r,k,h,i,x,hx=>by
  unfold jN at h;rw[Bool.and_eq_true]at h;cases i with
  | zero=>cases hx; exact h.1
  | succ i =>
   have:=eN h.2 i x (by simpa using hx)
   rwa [show k+1+i=k+(i+1) by omega]at this
def zT (draw:Bool) (ops:Array Oper) (x:Option Nat×Fact) (j:Nat) (r:Rec):Bool :=
 fF x.1 j||(!(fL r.dst r.kill x.2)||(match x.1 with|some b=>HO draw ops b j|none=>false))
def RW (draw:Bool) (ops:Array Oper) (rs:List Rec):Bool :=
 jN (fun i r=>r.M.all fun x=>jN (fun j r'=>Nat.beq j i||(HO draw ops j i||zT draw ops x j r')) 0 rs) 0 rs
def UZ (draw:Bool) (ops:Array Oper):Bool :=
 bif draw then jN (fun i (o:Oper)=>o.after.toList.all fun e => !(Region.binds .any e)||Nat.blt e.on i) 0 ops.toList else true
def FT (draw:Bool) (ops:Array Oper) (rs:List Rec) (x:Option Nat×Fact):Bool:=jN (fun j r=>zT draw ops x j r) 0 rs
def AL (E:Env) (draw:Bool) (ops:Array Oper) (A:List Fact):Option (List Prop×List Fact) :=
 match oV E draw ops ops.toList 0 (A.map fun φ=>(none,φ)) [] []with
 | some (ps,TF,rs)=>bif RW draw ops rs&&UZ draw ops then some (ps,(TF.filter (FT draw ops rs)).map (·.2))else none
 | none=>none
section
variable {E:Env} {draw:Bool} {ops:Array Oper}
theorem iM:∀{rem:List Oper} {i:Nat} {TF TF':List (Option Nat×Fact)} {rs rs':List Rec} {ps ps':List Prop},oV E draw ops rem i TF rs ps=some (ps',TF',rs')→rs.length=i →
  (∀x∈TF,x∈TF')∧(∀x∈TF',x∈TF∨∃b,x.1=some b∧i≤b∧b<i+rem.length)∧(aQ ps'→aQ ps)∧(∀j,j<i→rs'[j]?=rs[j]?)∧rs'.length=i+rem.length ∧
  ∀j o,rem[j]?=some o→∃r pre out,rs'[i+j]?=some r∧r.dst=o.dst∧SS E ops (r.M.map (·.2)) o=some (pre,out,r.kill)∧(aQ ps'→aQ pre) ∧
   (∀x∈r.M,x∈TF'∧∀b,x.1=some b→HO draw ops (i+j) b=true)∧∀φ,(some (i+j),φ)∈TF'→(some (i+j),φ)∈TF∨φ∈out
 | [],i,TF,TF',rs,rs',ps,ps',h,hl=>by
  cases h;exact⟨fun _ h=>h,fun _ h=>Or.inl h,fun h=>h,fun _ _=>rfl,by simp[hl],fun j o ho=>by simp at ho⟩
 | o::rest,i,TF,TF',rs,rs',ps,ps',h,hl=>by
  unfold oV at h;simp only at h;split at h
  ·rename_i pre out kill ho;obtain⟨h1,h2,h3,h4,h5,h6⟩:=iM h (by simp[hl]);have hps:aQ ps'→aQ ps∧aQ pre:=fun h=>bT.1 (h3 h)
   refine⟨fun x hx=>h1 x (List.mem_append_right _ hx),fun x hx => ?_,fun h=>(hps h).1,fun j hj => ?_,by rw[h5]; simp; omega,?_⟩
   ·rcases h2 x hx with hx|⟨b,hb,hi,hlt⟩
    ·rcases List.mem_append.1 hx with hx|hx
     ·obtain⟨φ,_,rfl⟩:=List.mem_map.1 hx;exact Or.inr ⟨i,rfl,Nat.le_refl _,by simp⟩
     ·exact Or.inl hx
    ·exact Or.inr ⟨b,hb,by omega,by simp; omega⟩
   ·rw[h4 j (by omega),List.getElem?_append_left (by omega)]
   ·intro j o' hj;cases j with
    | zero =>
     cases hj;refine⟨_,pre,out,by rw[Nat.add_zero,h4 i (by omega),List.getElem?_append_right (by omega),hl,Nat.sub_self]; rfl,rfl,ho,fun h=>(hps h).2,fun x hx => ?_,fun φ hφ => ?_⟩
     ·obtain⟨hx1,hx2⟩:=List.mem_filter.1 (JR hx);refine⟨h1 x (List.mem_append_right _ hx1),fun b hb => ?_⟩;unfold DA at hx2;rw[hb]at hx2;simp only[Bool.and_eq_true]at hx2;exact hx2.1
     ·rcases h2 _ hφ with hx|⟨b,hb,hi,hlt⟩
      ·rcases List.mem_append.1 hx with hx|hx
       ·obtain⟨ψ,hψ,e⟩:=List.mem_map.1 hx;cases e;exact Or.inr hψ
       ·exact Or.inl hx
      ·simp only[Nat.add_zero,Option.some.injEq]at hb;omega
    | succ j =>
     obtain⟨r,pre',out',e1,e2,e3,e4,e5,e6⟩:=h6 j o' (by simpa using hj);rw[show i+1+j=i+(j+1) by omega]at e1 e5 e6;refine⟨r,pre',out',e1,e2,e3,e4,e5,fun φ hφ => ?_⟩
     rcases e6 φ hφ with hx|hx
     ·rcases List.mem_append.1 hx with hx|hx
      ·obtain⟨ψ,hψ,e⟩:=List.mem_map.1 hx;simp only[Prod.mk.injEq,Option.some.injEq]at e;omega
      ·exact Or.inl hx
     ·exact Or.inr hx
  ·cases h
def fV (draw:Bool) (ops:Array Oper) (rs:List Rec) (G:Nat→Prop) (x:Option Nat×Fact):Prop :=
 (∀b,x.1=some b→G b)∧∀j r,rs[j]?=some r→G j→x.1≠some j→fL r.dst r.kill x.2=true→∃b,x.1=some b∧HO draw ops b j=true
structure Tail (nt base:Nat) (w0:World) (β:Nat→Bk) (w:World):Prop where
 size:(β nt).1≤w.heap.size
 mem:∀p:Addr,base<p.block→p.block<(β nt).1→w.cell? p=w0.cell? p∧w.frozen? p=w0.frozen? p
 shape:Shape w0 w
structure Inv (E:Env) (draw:Bool) (ops:Array Oper) (base:Nat) (w0:World) (TF:List (Option Nat×Fact)) (rs:List Rec) (G:Nat→Prop) (a:Act) (w:World):Prop where
 defers:a.defers=[]
 size:a.tmps.size=E.nt
 below:Below base w0 w
 heap:base≤w.heap.size
 closed:∀i j,G i→HO draw ops i j=true→G j
 facts:∃β:Nat→Bk,(∀x∈TF,fV draw ops rs G x→x.2.ok base β a w) ∧
  (∀x∈TF,∀y∈TF,fV draw ops rs G x→fV draw ops rs G y→∀k k' o' l l',x.2=.row k true l→y.2=.row k' o' l'→k≠k'→(β k).1≠(β k').1) ∧
  (∀x∈TF,fV draw ops rs G x→∀k l,x.2=.row k true l→(β k).1=base∨(β E.nt).1≤(β k).1)∧Tail E.nt base w0 β w
theorem QJ {base:Nat} {β β':Nat→Bk} {a a':Act} {w w':World} {dst kill:Option Nat} {M out:List Fact} (hP:PostB base β β' a w dst M out kill a' w') {φ:Fact} (h:φ.ok base β a w) (hc:fL dst kill φ=false)
  (hk:∀kk k mP l,kill=some kk→φ=.row k mP l→(β kk).1≠(β k).1):φ.ok base β' a' w':=by
 cases φ with
 | slot s v =>
  simp only[fL,Bool.or_eq_false_iff]at hc;have h1:dst≠some s:=fun e=>by have:=bO.2 e; rw[hc.1]at this; cases this
  have h2:∀k,v.key=some k→β' k=β k:=fun k hv=>hP.beta k fun e=>by
   have h3:=hc.2;rw[hv]at h3;have:=bO.2 e;simp only at h3;rw[h3]at this; cases this
  show a'.tmps[s]?=_;rw[hP.tmps s h1,AV.den_eq v h2];exact h
 | row k mP l =>
  simp only[fL,Bool.or_eq_false_iff]at hc;have h1:dst≠some k:=fun e=>by have:=bO.2 e; rw[hc.1]at this; cases this
  obtain⟨g1,g2,g3,g4⟩:=h;have hm:∀j,w'.cell? ⟨(β k).1,j,none⟩=w.cell? ⟨(β k).1,j,none⟩∧w'.frozen? ⟨(β k).1,j,none⟩=w.frozen? ⟨(β k).1,j,none⟩:=fun j=>hP.mem ⟨(β k).1,j,none⟩ g1 fun kk hkk e=>hk kk k mP l hkk rfl e.symm
  refine⟨?_,?_,?_,g4⟩<;>rw[hP.beta k h1]
  ·exact Nat.lt_of_lt_of_le g1 hP.heap
  ·intro j v hj;rw[(hm _).1];exact g2 j v hj
  ·exact fun ho=>⟨(g3 ho).1,(g3 ho).2.1,fun j=>by rw[(hm _).2]; exact (g3 ho).2.2 j⟩
 | «at» k b =>
  have h1:dst≠some k:=fun e=>by have:=bO.2 e; rw[show fF dst k=false from hc]at this; cases this
  show (β' k).1=b∧(β' k).2.1=0;rw[hP.beta k h1];exact h
 | app k e sz n =>
  have h1:dst≠some k:=fun e=>by have:=bO.2 e; rw[show fF dst k=false from hc]at this; cases this
  show AppAt w' (β' k).1 e sz n (β' k).2.2;rw[hP.beta k h1];exact AppAt.shape hP.shape h
theorem nC {base:Nat} {w0:World} {A:List Fact} {TF:List (Option Nat×Fact)} {rs:List Rec} {ps:List Prop} (hT:∀d,TabOkW E.P (E.T d) base w0) (hq:dA E.P E.q base w0)
  (hrun:oV E draw ops ops.toList 0 (A.map fun φ=>(none,φ)) [] []=some (ps,TF,rs)) (hps:aQ ps) (hchk:RW draw ops rs=true) {Q:Exit→Act→World→Prop}
  {G:Nat→Prop} {a:Act} {w:World} (hI:Inv E draw ops base w0 TF rs G a w) {i:Nat} {o:Oper} (ho:ops[i]?=some o) (hi:¬G i) (hdeps:∀j,HO draw ops i j=true→G j) :
  if Region.wanted o (yielded ops a.tmps)=true then o.wp E.P a w (Inv E draw ops base w0 TF rs (fun j=>j=i∨G j)) Q else Inv E draw ops base w0 TF rs (fun j=>j=i∨G j) (a.put o.dst undef) w:=by
 obtain⟨_,_,_,_,_,hops⟩:=iM hrun rfl;obtain⟨r,pre,out,hr,hdst,hop,hpre,hM,hborn⟩:=hops i o (by simpa using ho);rw[Nat.zero_add]at hr hM hborn;obtain⟨β,hok,hinj,hown,htl⟩:=hI.facts;have hMv:∀x∈r.M,fV draw ops rs G x:=fun x hx=>by
  refine⟨fun b hb=>hdeps b ((hM x hx).2 b hb),fun j r' hj hG hne hcl => ?_⟩;have h1:=eN hchk i r hr;rw[List.all_eq_true]at h1;have h2:=eN (h1 x hx) j r' hj;rw[Nat.zero_add,Nat.zero_add]at h2;rw[Bool.or_eq_true,Bool.or_eq_true]at h2
  rcases h2 with h2|h2|h2
  ·exact absurd (Nat.eq_of_beq_eq_true h2▸hG) hi
  ·exact absurd (hI.closed j i hG h2) hi
  ·unfold zT at h2;rw[Bool.or_eq_true,Bool.or_eq_true,hcl]at h2
   rcases h2 with h2|h2|h2
   ·exact absurd (bO.1 h2) hne
   ·cases h2
   ·split at h2
    ·rename_i b hb; exact⟨b,hb,h2⟩
    ·cases h2
 refine ES (ops:=ops) (fun d=>hT d w hI.below) (hq.2 w hI.below) hq.1 (M:=r.M.map (·.2)) (out:=out) (kill:=r.kill) (β:=β) (base:=base) (fun φ hφ => ?_) hI.heap hI.size (fun β' a' w' hP => ?_) hop (hpre hps)
 ·obtain⟨x,hx,rfl⟩:=List.mem_map.1 hφ;exact hok x (hM x hx).1 (hMv x hx)
 have hnt:β' E.nt=β E.nt:=hP.beta E.nt fun e=>Nat.lt_irrefl _ (PX hop e)
 have hrowM:∀k l0,Fact.row k true l0∈r.M.map (·.2)→∃x∈TF,fV draw ops rs G x∧x.2=.row k true l0:=fun k l0 h=>by
  obtain⟨x,hx,e⟩:=List.mem_map.1 h;exact⟨x,(hM x hx).1,hMv x hx,e⟩
 have hkill:∀x∈TF,fV draw ops rs G x→fL o.dst r.kill x.2=false→∀kk k mP l,r.kill=some kk→x.2=.row k mP l→(β kk).1≠(β k).1:=fun x hx hv hc kk k mP l hkk hφ=>by
  obtain⟨l0,hl0⟩:=hP.kills kk hkk;obtain⟨y,hy,hyv,hye⟩:=hrowM kk l0 hl0;have hne:kk≠k:=fun e=>by
   rw[hφ]at hc;simp only[fL,Bool.or_eq_false_iff]at hc;have:=bO.2 (e▸hkk:r.kill=some k);rw[hc.2]at this; cases this
  exact hinj y hy x hx hyv hv kk k mP l0 l hye hφ hne
 have hold:∀x∈TF,fV draw ops rs (fun j=>j=i∨G j) x→x.1≠some i→fV draw ops rs G x∧fL o.dst r.kill x.2=false:=fun x hx hv hne=>by
  refine⟨⟨fun b hb=>(hv.1 b hb).resolve_left fun e=>hne (by rw[hb,e]),fun j r' hj hG=>hv.2 j r' hj (Or.inr hG)⟩,?_⟩;cases hc:fL o.dst r.kill x.2 with
  | false=>rfl
  | true =>
   obtain⟨b,hb,hd⟩:=hv.2 i r hr (Or.inl rfl) hne (by rw[hdst]; exact hc);exact absurd (hI.closed b i ((hv.1 b hb).resolve_left fun e=>hne (by rw[hb,e])) hd) hi
 have hnew:∀x∈TF,x.1=some i→x.2∈out:=fun x hx e=>by
  obtain⟨b,φ⟩:=x;simp only at e;subst e
  rcases hborn φ hx with h|h
  ·obtain⟨ψ,_,e⟩:=List.mem_map.1 h;cases e
  ·exact h
 have hβ:∀x∈TF,fV draw ops rs (fun j=>j=i∨G j) x→x.1≠some i→∀k mP l,x.2=.row k mP l→β' k=β k:=fun x hx hv hne k mP l hφ=>by
  obtain⟨_,hc⟩:=hold x hx hv hne;rw[hφ]at hc;simp only[fL,Bool.or_eq_false_iff]at hc;exact hP.beta k fun e=>by have:=bO.2 e; rw[hc.1]at this; cases this
 have hno:∀x∈TF,∀y∈TF,x.1=some i→fV draw ops rs (fun j=>j=i∨G j) y→y.1≠some i→∀k k' o' l l',x.2=.row k true l→y.2=.row k' o' l'→k≠k'→(β' k).1≠(β' k').1:=fun x hx y hy hxi hyv hyi k k' o' l l' hxe hye hkk=>by
  obtain⟨hyo,_⟩:=hold y hy hyv hyi;rw[hβ y hy hyv hyi k' o' l' hye];have h1:=hnew x hx hxi;rw[hxe]at h1
  rcases hP.rows k l h1 with⟨h2,_⟩|⟨h2,l0,h3⟩|⟨h2,k0,l0,hk0,he,h3⟩
  ·have h4:=hok y hy hyo;rw[hye]at h4;have:=h4.1;omega
  ·obtain⟨z,hz,hzv,hze⟩:=hrowM k l0 h3;rw[hP.beta k h2];exact hinj z hz y hy hzv hyo k k' o' l0 l' hze hye hkk
  ·obtain⟨z,hz,hzv,hze⟩:=hrowM k0 l0 h3;rw[he];refine hinj z hz y hy hzv hyo k0 k' o' l0 l' hze hye fun e => ?_
   subst e;have hc:=(hold y hy hyv hyi).2;rw[hye]at hc;simp only[fL,Bool.or_eq_false_iff]at hc;have:=bO.2 hk0;rw[hc.2]at this; cases this
 refine⟨by rw[hP.defers]; exact hI.defers,by rw[hP.size]; exact hI.size,hP.below w0 hI.below,Nat.le_trans hI.heap hP.heap,?_,β',?_,?_,?_,?_⟩
 ·intro p q hp hpq
  rcases hp with rfl|hp
  ·exact Or.inr (hdeps q hpq)
  ·exact Or.inr (hI.closed p q hp hpq)
 ·intro x hx hv
  by_cases e:x.1=some i
  ·exact hP.ok _ (hnew x hx e)
  ·obtain⟨h1,h2⟩:=hold x hx hv e;exact QJ hP (hok x hx h1) h2 (hkill x hx h1 h2)
 ·intro x hx y hy hxv hyv k k' o' l l' hxe hye hkk
  by_cases e1:x.1=some i
  ·by_cases e2:y.1=some i
   ·have h1:=hnew x hx e1;have h2:=hnew y hy e2;rw[hxe]at h1;rw[hye]at h2;cases o' with
    | true=>exact absurd (hP.one k k' l l' h1 h2) hkk
    | false=>exact (hP.onlyOwn k' l' h2).elim
   ·exact hno x hx y hy e1 hyv e2 k k' o' l l' hxe hye hkk
  ·by_cases e2:y.1=some i
   ·cases o' with
    | true=>exact fun e=>hno y hy x hx e2 hxv e1 k' k true l' l hye hxe (Ne.symm hkk) e.symm
    | false=>exact (hP.onlyOwn k' l' (hye▸hnew y hy e2)).elim
   ·rw[hβ x hx hxv e1 k true l hxe,hβ y hy hyv e2 k' o' l' hye];exact hinj x hx y hy (hold x hx hxv e1).1 (hold y hy hyv e2).1 k k' o' l l' hxe hye hkk
 ·intro x hx hv k l hxe;rw[hnt]
  by_cases e:x.1=some i
  ·have h1:=hnew x hx e;rw[hxe]at h1
   rcases hP.rows k l h1 with⟨h2,_⟩|⟨h2,l0,h3⟩|⟨h2,k0,l0,hk0,he,h3⟩
   ·exact Or.inr (Nat.le_trans htl.size h2)
   ·obtain⟨z,hz,hzv,hze⟩:=hrowM k l0 h3;rw[hP.beta k h2];exact hown z hz hzv k l0 hze
   ·obtain⟨z,hz,hzv,hze⟩:=hrowM k0 l0 h3;rw[he];exact hown z hz hzv k0 l0 hze
  ·rw[hβ x hx hv e k true l hxe];exact hown x hx (hold x hx hv e).1 k l hxe
 ·refine⟨by rw[hnt]; exact Nat.le_trans htl.size hP.heap,fun p h1 h2 => ?_,htl.shape.trans hP.shape⟩;rw[hnt]at h2;have h3:=hP.mem p (Nat.lt_of_lt_of_le h2 htl.size) fun kk hkk e=>by
   obtain⟨l0,hl0⟩:=hP.kills kk hkk;obtain⟨z,hz,hzv,hze⟩:=hrowM kk l0 hl0
   rcases hown z hz hzv kk l0 hze with h4|h4<;>omega
  have h4:=htl.mem p h1 h2;exact⟨h3.1.trans h4.1,h3.2.trans h4.2⟩
end
structure Holds (nt base:Nat) (w0:World) (A:List Fact) (a:Act) (w:World):Prop where
 defers:a.defers=[]
 size:a.tmps.size=nt
 below:Below base w0 w
 heap:base≤w.heap.size
 facts:∃β:Nat→Bk,(∀φ∈A,φ.ok base β a w)∧(∀k k' o' l l',Fact.row k true l∈A→Fact.row k' o' l'∈A→k≠k'→(β k).1≠(β k').1)∧(∀k l,Fact.row k true l∈A→(β k).1=base∨(β nt).1≤(β k).1)∧Tail nt base w0 β w
theorem Holds.drew {nt base:Nat} {w0:World} {A:List Fact} {a:Act} {w:World} (h:Holds nt base w0 A a w):Holds nt base w0 A a w.drew :=
 h.facts.elim fun β hβ=>⟨h.defers,h.size,h.below.drew,h.heap,β,hβ.1,hβ.2.1,hβ.2.2.1,hβ.2.2.2.size,hβ.2.2.2.mem,hβ.2.2.2.shape.trans (Shape.drew _)⟩
section
variable {E:Env} {draw:Bool} {ops:Array Oper} {base:Nat} {w0:World} {A A':List Fact} {TF:List (Option Nat×Fact)} {rs:List Rec} {ps:List Prop} {a:Act} {w:World} {Q:Exit→Act→World→Prop}
theorem kR (hrun:oV E draw ops ops.toList 0 (A.map fun φ=>(none,φ)) [] []=some (ps,TF,rs)) (h:Holds E.nt base w0 A a w):Inv E draw ops base w0 TF rs (fun _=>False) a w:=by
 obtain⟨_,h2,_⟩:=iM hrun rfl;obtain⟨β,hok,hinj,hown,htl⟩:=h.facts;have hA:∀x∈TF,fV draw ops rs (fun _=>False) x→x.2∈A:=fun x hx hv=>by
  rcases h2 x hx with hx|⟨b,hb,_⟩
  ·obtain⟨φ,hφ,rfl⟩:=List.mem_map.1 hx;exact hφ
  ·exact (hv.1 b hb).elim
 exact⟨h.defers,h.size,h.below,h.heap,fun _ _ h=>h.elim,β,fun x hx hv=>hok _ (hA x hx hv),fun x hx y hy hxv hyv k k' o' l l' hxe hye hkk=>hinj k k' o' l l' (hxe▸hA x hx hxv) (hye▸hA y hy hyv) hkk,fun x hx hv k l hxe=>hown k l (hxe▸hA x hx hv),htl⟩
theorem rT (hrun:oV E draw ops ops.toList 0 (A.map fun φ=>(none,φ)) [] []=some (ps,TF,rs)) {G:Nat→Prop} (hG:∀i,i<ops.size→G i) (h:Inv E draw ops base w0 TF rs G a w) :
  Holds E.nt base w0 ((TF.filter (FT draw ops rs)).map (·.2)) a w:=by
 obtain⟨_,h2,_⟩:=iM hrun rfl;obtain⟨β,hok,hinj,hown,htl⟩:=h.facts;have hv:∀φ∈(TF.filter (FT draw ops rs)).map (·.2),∃x∈TF,fV draw ops rs G x∧x.2=φ:=fun φ hφ=>by
  obtain⟨x,hx,rfl⟩:=List.mem_map.1 hφ;obtain⟨h3,h4⟩:=List.mem_filter.1 hx;refine⟨x,h3,⟨fun b hb => ?_,fun j r hj _ hne hc => ?_⟩,rfl⟩
  ·rcases h2 x h3 with h5|⟨b',hb',_,hlt⟩
   ·obtain⟨ψ,_,rfl⟩:=List.mem_map.1 h5;cases hb
   ·rw[hb']at hb;cases hb;exact hG b (by simpa using hlt)
  ·have h5:=eN h4 j r hj;rw[Nat.zero_add]at h5;unfold zT at h5;rw[Bool.or_eq_true,Bool.or_eq_true,hc]at h5
   rcases h5 with h5|h5|h5
   ·exact absurd (bO.1 h5) hne
   ·cases h5
   ·split at h5
    ·rename_i b hb; exact⟨b,hb,h5⟩
    ·cases h5
 refine⟨h.defers,h.size,h.below,h.heap,β,fun φ hφ => ?_,fun k k' o' l l' hk hk' hne => ?_,fun k l hk => ?_,htl⟩
 ·obtain⟨x,h1,h2,rfl⟩:=hv φ hφ;exact hok x h1 h2
 ·obtain⟨x,h1,h2,e1⟩:=hv _ hk;obtain⟨y,h3,h4,e2⟩:=hv _ hk';exact hinj x h1 y h3 h2 h4 k k' o' l l' e1 e2 hne
 ·obtain⟨x,h1,h2,e1⟩:=hv _ hk;exact hown x h1 h2 k l e1
def fr:Nat→Array Bool→Nat
 | 0,_=>0
 | n+1,g=>fr n g+(bif g.getD n false then 0 else 1)
theorem zH:∀{n:Nat} {g:Array Bool},fr n g=0→∀i,i<n→g.getD i false=true
 | 0,g,_,i,hi=>by omega
 | n+1,g,h,i,hi=>by
  unfold fr at h
  by_cases e:i=n
  ·subst e;cases hb:g.getD i false
   ·rw[hb]at h; simp at h
   ·rfl
  ·exact zH (n:=n) (by omega) i (by omega)
theorem uF {g:Array Bool} {i j:Nat} (hi:i<g.size):(g.setIfInBounds i true).getD j false=true↔j=i∨g.getD j false=true:=by
 by_cases e:j=i
 ·subst e; simp[Array.getD,hi]
 ·have:¬i=j:=fun h=>e h.symm
  simp[Array.getD_eq_getD_getElem?,Array.getElem?_setIfInBounds_ne this,e]
theorem GI:∀{n:Nat} {g:Array Bool} {i:Nat},n≤i→fr n (g.setIfInBounds i true)=fr n g
 | 0,_,_,_=>rfl
 | n+1,g,i,h=>by
  have:¬i=n:=by omega
  unfold fr;rw[GI (by omega)];simp[Array.getD_eq_getD_getElem?,Array.getElem?_setIfInBounds_ne this]
theorem GH:∀{n:Nat} {g:Array Bool} {i:Nat},i<n→i<g.size→g.getD i false=false→fr n (g.setIfInBounds i true)+1=fr n g
 | 0,_,_,h,_,_=>by omega
 | n+1,g,i,h,hs,hg=>by
  unfold fr
  by_cases e:i=n
  ·subst e;rw[GI (Nat.le_refl _),(uF hs).2 (Or.inl rfl),hg];simp
  ·have h1:=GH (n:=n) (g:=g) (by omega) hs hg;have h2:(g.setIfInBounds i true).getD n false=g.getD n false:=by
    have:¬i=n:=e;simp[Array.getD_eq_getD_getElem?,Array.getElem?_setIfInBounds_ne this]
   rw[h2]; omega
theorem HL {i j:Nat}:HO true ops i j=true↔∃o,ops[i]?=some o∧∃e∈o.after,Region.binds .any e=true∧e.on=j:=by
 unfold HO;simp only[cond_true];cases ho:ops[i]? with
 | none=>simp
 | some o =>
  simp only[List.any_eq_true];constructor
  ·rintro⟨e,he,h⟩
   rw[Bool.and_eq_true]at h;exact⟨o,rfl,e,by simpa using he,h.1,Nat.eq_of_beq_eq_true h.2⟩
  ·rintro⟨o',e1,e,he,hb,rfl⟩
   cases e1;exact⟨e,by simpa using he,by rw[hb]; simp⟩
theorem MI (hT:∀d,TabOkW E.P (E.T d) base w0) (hq:dA E.P E.q base w0) (hrun:oV E true ops ops.toList 0 (A.map fun φ=>(none,φ)) [] []=some (ps,TF,rs)) (hps:aQ ps) (hchk:RW true ops rs=true) (hlow:UZ true ops=true)
  (hQ:∀a w,Inv E true ops base w0 TF rs (fun i=>i<ops.size) a w→Q .normal a w) :
  ∀(m:Nat) (g:Array Bool) (a:Act) (w:World),g.size=ops.size→fr ops.size g=m→Inv E true ops base w0 TF rs (fun i=>g.getD i false=true) a w→wpAny E.P .any ops Q m g a w:=by
 have hfin:∀(g:Array Bool) (a:Act) (w:World),g.size=ops.size→(∀i,i<ops.size→g.getD i false=true)→Inv E true ops base w0 TF rs (fun i=>g.getD i false=true) a w→Q .normal a w:=fun g a w hs hall hI=>by
  refine hQ a w ?_;have:(fun i=>g.getD i false=true)=fun i=>i<ops.size:=funext fun i=>propext ⟨fun h=>by
   rw[←hs]
   by_cases hi:i<g.size
   ·exact hi
   ·simp[Array.getD,hi]at h,hall i⟩
  rwa [this]at hI
 have hready:∀(g:Array Bool),g.size=ops.size→Region.ready .any ops g=[]→∀i,i<ops.size→g.getD i false=true:=fun g hs hr i=>by
  induction i using Nat.strongRecOn with
  | _ i ih =>
   intro hi;cases hb:g.getD i false with
   | true=>rfl
   | false =>
    exfalso;have:i∈Region.ready .any ops g:=by
     refine mem_ready.2 ⟨?_,ops[i],Array.getElem?_eq_getElem hi,fun e he hbi => ?_⟩
     ·have:i<g.size:=by omega
      simp[Array.getD,this]at hb ⊢;exact hb
     ·unfold UZ at hlow;simp only[cond_true]at hlow;have:=eN hlow i ops[i] (by simp[hi]);rw[List.all_eq_true]at this;have:=this e (by simpa using he);rw[hbi]at this;have hlt:e.on<i:=by simpa using this
      exact ih e.on hlt (by omega)
    rw[hr]at this;cases this
 intro m
 induction m with
 | zero =>
  intro g a w hs hf hI;have hall:=zH hf;refine⟨?_,hfin g a w hs hall hI⟩;apply List.eq_nil_iff_forall_not_mem.2;intro i hi;obtain⟨h1,o,ho,_⟩:=mem_ready.1 hi;have hlt:i<ops.size:=(Array.getElem?_eq_some_iff.1 ho).1;have h2:=hall i hlt;have:i<g.size:=by omega
  simp[Array.getD,this]at h1 h2;rw[h1]at h2; cases h2
 | succ m ih =>
  intro g a w hs hf hI;refine⟨fun hr=>hfin g a w hs (hready g hs hr) hI,fun i hi => ?_⟩;obtain⟨h1,o,ho,h2⟩:=mem_ready.1 hi;have hlt:i<ops.size:=(Array.getElem?_eq_some_iff.1 ho).1;have hg:i<g.size:=by omega
  have hgi:g.getD i false=false:=by
   simp[Array.getD,hg]at h1 ⊢;exact h1
  have hst:=nC hT hq hrun hps hchk (Q:=Q) hI ho (by rw[hgi]; simp) (fun j hj=>by
   obtain⟨o',ho',e,he,hb,rfl⟩:=HL.1 hj;rw[ho]at ho';cases ho';exact h2 e he hb)
  unfold wpOp;rw[ho];simp only;have hnext:∀a' w',Inv E true ops base w0 TF rs (fun j=>j=i∨g.getD j false=true) a' w'→wpAny E.P .any ops Q m (g.setIfInBounds i true) a' w':=fun a' w' h=>by
   refine ih _ a' w' (by simp[hs]) (by have:=GH hlt hg hgi; omega) ?_;have:(fun j=>(g.setIfInBounds i true).getD j false=true)=fun j=>j=i∨g.getD j false=true:=funext fun j=>propext (uF hg)
   rwa [this]
  by_cases hw:Region.wanted o (yielded ops a.tmps)=true
  ·rw[if_pos hw]at hst ⊢;exact Or.inl (Oper.wp_mono hnext hst)
  ·rw[if_neg hw]at hst ⊢;exact hnext _ _ hst
theorem yL (hT:∀d,TabOkW E.P (E.T d) base w0) (hq:dA E.P E.q base w0) (hrun:oV E false ops ops.toList 0 (A.map fun φ=>(none,φ)) [] []=some (ps,TF,rs)) (hps:aQ ps) (hchk:RW false ops rs=true)
  (hQ:∀a w,Inv E false ops base w0 TF rs (fun i=>i<ops.size) a w→Q .normal a w) :
  ∀(m k:Nat) (a:Act) (w:World),k+m=ops.size→Inv E false ops base w0 TF rs (fun i=>i<k) a w→wpOps E.P ops Q (List.range' k m) a w
 | 0,k,a,w,hk,hI=>by
  have:k=ops.size:=by omega
  subst this;exact hQ a w hI
 | m+1,k,a,w,hk,hI=>by
  have hlt:k<ops.size:=by omega
  have ho:ops[k]?=some ops[k]:=Array.getElem?_eq_getElem hlt;have hst:=nC hT hq hrun hps hchk (Q:=Q) hI ho (Nat.lt_irrefl k) (fun j hj=>by unfold HO at hj; simpa using hj);simp only[List.range'_succ,wpOps];rw[ho];simp only;have hnext:∀a' w',Inv E false ops base w0 TF rs (fun j=>j=k∨j<k) a' w'→wpOps E.P ops Q (List.range' (k+1) m) a' w':=fun a' w' h=>by
   refine yL hT hq hrun hps hchk hQ m (k+1) a' w' (by omega) ?_;have:(fun j=>j<k+1)=fun j=>j=k∨j<k:=funext fun j=>propext (by omega)
   rwa [this]
  by_cases hw:Region.wanted ops[k] (yielded ops a.tmps)=true
  ·rw[if_pos hw]at hst ⊢;exact Or.inl (Oper.wp_mono hnext hst)
  ·rw[if_neg hw]at hst ⊢;exact hnext _ _ hst
theorem AK {id:Nat} (hm:E.P.follows .mixedOrders=true) (hT:∀d,TabOkW E.P (E.T d) base w0) (hq:dA E.P E.q base w0) (h:AL E draw ops A=some (ps,A')) (hps:aQ ps) (hA:Holds E.nt base w0 A a w)
  (hQ:∀a w,Holds E.nt base w0 A' a w→Q .normal a w):(Code.region id ops draw).wp E.P Q a w:=by
 unfold AL at h;split at h
 ·rename_i ps' TF rs hrun;cases hc:(RW draw ops rs&&UZ draw ops)<;>rw[hc]at h
  ·cases h
  ·cases h;rw[Bool.and_eq_true]at hc;cases draw with
   | false =>
    refine wp_region ?_;rw[List.range_eq_range'];exact yL hT hq hrun hps hc.1 (fun a w hI=>hQ a w (rT hrun (fun _ h=>h) hI)) ops.size 0 a w (by omega) (by
     have:(fun i=>i<0)=fun _:Nat=>False:=funext fun i=>propext ⟨fun h=>by omega,fun h=>h.elim⟩
     rw[this];exact kR hrun hA)
   | true =>
    refine wp_region_any hm ?_;have hsz:∀n,fr n (Array.replicate ops.size false)=n:=fun n=>by
     induction n with
     | zero=>rfl
     | succ n ih=>unfold fr; rw[ih]; by_cases hn:n<ops.size<;>simp[Array.getD,hn]
    refine MI hT hq hrun hps hc.1 hc.2 (fun a w hI=>hQ a w (rT hrun (fun _ h=>h) hI)) ops.size _ a _ (by simp) (hsz _) ?_;have:(fun i=>(Array.replicate ops.size false).getD i false=true)=fun _:Nat=>False:=funext fun i=>propext (by by_cases hi:i<ops.size<;>simp[Array.getD,hi])
    rw[this];exact kR hrun hA.drew
 ·cases h
end
inductive EA|nrm|ex (id:Nat)|rt
def EA.out:EA→Exit
 | .nrm=>.normal
 | .ex id=>.exit id
 | .rt=>.ret
structure Cfg where
 T:Nat→Tab
 hint:Nat→Bool
 num:Nat→Option Value
def XR (P:Program) (q:EqT) (nt:Nat) (c:Cfg):Env:=⟨P,c.T,q,c.hint,c.num,nt⟩
def run (P:Program) (q:EqT) (nt:Nat) (C:Nat→Cfg):Nat→Code→List Fact→Option (List Prop×EA×List Fact)
 | 0,_,_=>none
 | n+1,c,A=>match c with
  | .skip=>some ([],.nrm,A)
  | .ret=>some ([],.rt,A)
  | .exit id=>some ([],.ex id,A)
  | .region id ops draw=>match AL (XR P q nt (C n)) draw ops A with|some (p,A')=>some (p,.nrm,A')|none=>none
  | .seq x y=>match run P q nt C n x A with
   | some (p,.nrm,A1)=>match run P q nt C n y A1 with|some (p2,e,A2)=>some (p++p2,e,A2)|none=>none
   | r=>r
  | .cond c x y=>match ev A c with|some (.im (.bool b))=>run P q nt C n (bif b then x else y) A|_=>none
  | .block id x=>match run P q nt C n x A with
   | some (p,.ex j,A1)=>some (p,bif Nat.beq j id then .nrm else .ex j,A1)
   | r=>r
  | .loop x=>match run P q nt C n x A with
   | some (p,.nrm,A1)=>match run P q nt C n (.loop x) A1 with|some (p2,e,A2)=>some (p++p2,e,A2)|none=>none
   | r=>r
  | _=>none
def Un (P:Program) (c:Code) (Q:Exit→Act→World→Prop):Nat→Act→World→Prop
 | 0,_,_=>False
 | n+1,a,w=>c.wp P (Exit.then (Un P c Q n) Q) a w
theorem FO {p:Nat→Prop}:∀n,p n→∃m,p m∧∀k,p k→m≤k:=fun n h=>by
 induction n using Nat.strongRecOn with
 | _ n ih =>
  by_cases hk:∃k,k<n∧p k
  ·obtain⟨k,h1,h2⟩:=hk;exact ih k h1 h2
  ·exact⟨n,h,fun k hp=>Nat.le_of_not_lt fun hlt=>hk ⟨k,hlt,hp⟩⟩
theorem mW {P:Program} {c:Code} {Q:Exit→Act→World→Prop} {n:Nat} {a:Act} {w:World} (h:Un P c Q n a w):(Code.loop c).wp P Q a w:=by
 classical
 have hmin:∀a w,(∃n,Un P c Q n a w)→∃m,Un P c Q m a w∧∀k,Un P c Q k a w→m≤k:=fun a w ⟨n,h⟩=>FO n h
 refine wp_loop (fun a w=>∃n,Un P c Q n a w) (fun a w=>if h:∃n,Un P c Q n a w then (hmin a w h).choose else 0) ⟨n,h⟩ ?_;intro a w hI;have hs:=(hmin a w hI).choose_spec;rw[dif_pos hI];generalize (hmin a w hI).choose=m at hs;cases m with
 | zero=>exact hs.1.elim
 | succ m =>
  refine Code.wp_mono (fun e a' w' he => ?_) hs.1;cases e with
  | normal =>
   have hI':∃n,Un P c Q n a' w':=⟨m,he⟩
   refine⟨hI',?_⟩;rw[dif_pos hI'];exact Nat.lt_succ_of_le ((hmin a' w' hI').choose_spec.2 m he)
  | _=>exact he
section
variable {P:Program} {q:EqT} {nt:Nat} {C:Nat→Cfg} {base:Nat} {w0:World}
theorem cI (hm:P.follows .mixedOrders=true) (hT:∀n d,TabOkW P ((C n).T d) base w0) (hq:dA P q base w0):∀(n:Nat) (c:Code) (A A':List Fact) (ps:List Prop) (e:EA) (a:Act) (w:World) (Q:Exit→Act→World→Prop),
  run P q nt C n c A=some (ps,e,A')→aQ ps→Holds nt base w0 A a w→(∀a w,Holds nt base w0 A' a w→Q e.out a w)→c.wp P Q a w∧∀x,c=.loop x→Un P x Q n a w
 | 0,c,A,A',ps,e,a,w,Q,h,hps,hA,hQ=>by cases h
 | n+1,c,A,A',ps,e,a,w,Q,h,hps,hA,hQ=>by
  cases c with
  | skip=>cases h; exact⟨wp_skip (hQ a w hA),fun x e=>by cases e⟩
  | ret=>cases h; exact⟨wp_ret (hQ a w hA),fun x e=>by cases e⟩
  | exit id=>cases h; exact⟨wp_exit (hQ a w hA),fun x e=>by cases e⟩
  | region id ops draw =>
   refine⟨?_,fun x e=>by cases e⟩;simp only[run]at h;split at h
   ·rename_i p A1 h1;cases h;exact AK (E:=XR P q nt (C n)) hm (hT n) hq h1 hps hA hQ
   ·cases h
  | seq x y =>
   refine⟨?_,fun x e=>by cases e⟩;simp only[run]at h;split at h
   ·rename_i p A1 h1;split at h
    ·rename_i ps2 e2 A2 h2;cases h;obtain⟨p1,p2⟩:=bT.1 hps;refine wp_seq (cI hm hT hq n x A A1 p .nrm a w _ h1 p1 hA fun a w hA1 => ?_).1;exact (cI hm hT hq n y A1 A' ps2 e a w Q h2 p2 hA1 hQ).1
    ·cases h
   ·rename_i r hr;refine wp_seq (cI hm hT hq n x A A' ps e a w _ h hps hA fun a w hA1 => ?_).1;cases e with
    | nrm=>exact (hr _ _ h).elim
    | ex id=>exact hQ a w hA1
    | rt=>exact hQ a w hA1
  | cond c x y =>
   refine⟨?_,fun x e=>by cases e⟩;simp only[run]at h;split at h
   ·rename_i b hb;obtain⟨β,hok,_⟩:=hA.facts;have hc:a.eval c=.bool b:=aD hok hb;refine wp_cond hc ?_;have:=(cI hm hT hq n _ A A' ps e a w Q h hps hA hQ).1;cases b<;>exact this
   ·cases h
  | block id x =>
   refine⟨?_,fun x e=>by cases e⟩;simp only[run]at h;split at h
   ·rename_i p j A1 h1;cases h;refine wp_block (cI hm hT hq n x A A' ps (.ex j) a w _ h1 hps hA fun a w hA1 => ?_).1;show if j=id then Q .normal a w else Q (.exit j) a w
    cases hj:Nat.beq j id
    ·rw[if_neg (fun e=>by rw[e]at hj; simp at hj)];have:=hQ a w hA1;rw[hj]at this;exact this
    ·rw[if_pos (Nat.eq_of_beq_eq_true hj)];have:=hQ a w hA1;rw[hj]at this;exact this
   ·rename_i r hr;refine wp_block (cI hm hT hq n x A A' ps e a w _ h hps hA fun a w hA1 => ?_).1;cases e with
    | ex id=>exact (hr _ _ _ h).elim
    | nrm=>exact hQ a w hA1
    | rt=>exact hQ a w hA1
  | loop x =>
   have hun:Un P x Q (n+1) a w:=by
    simp only[run]at h;unfold Un;split at h
    ·rename_i p A1 h1;split at h
     ·rename_i ps2 e2 A2 h2;cases h;obtain⟨p1,p2⟩:=bT.1 hps;refine (cI hm hT hq n x A A1 p .nrm a w _ h1 p1 hA fun a w hA1 => ?_).1;exact (cI hm hT hq n (.loop x) A1 A' ps2 e a w Q h2 p2 hA1 hQ).2 x rfl
     ·cases h
    ·rename_i r hr;refine (cI hm hT hq n x A A' ps e a w _ h hps hA fun a w hA1 => ?_).1;cases e with
     | nrm=>exact (hr _ _ h).elim
     | ex id=>exact hQ a w hA1
     | rt=>exact hQ a w hA1
   exact⟨mW hun,fun y e=>by cases e; exact hun⟩
  | _=>simp only[run]at h; cases h
end
def kN:Nat→List CA→List Fact
 | _,[]=>[]
 | i,.v x::r=>.slot i x.av::kN (i+1) r
 | i,.s l n m::r=>.slot i (.sl i 0 n m) :: .row i false l::kN (i+1) r
 | i,.so l n::r=>.slot i (.so i n) :: .row i false l::kN (i+1) r
 | i,.p l o::r=>.slot i (.pt i o) :: .row i false l::kN (i+1) r
def JY (P:Program) (A:List Fact):ResultVar→Option TV
 | .tmp t=>match lC A t with|some (.im v)=>some (.im v)|some (.fl l)=>some (.fl l)|_=>none
 | .cell t ty=>match lC A t with
  | some (.pt k o)=>match cE A k,cD P ty,jG P ty with
   | some (_,l),some n,true=>match CM l o n with|some s=>some (.fl s)|none=>none
   | _,_,_=>none
  | _=>none
def lN (P:Program) (A:List Fact):List ResultVar→Option (List TV)
 | []=>some []
 | x::r=>match JY P A x,lN P A r with|some t,some l=>some (t::l)|_,_=>none
def rv:List TV→Option RV
 | []=>none
 | [t]=>some (.one t)
 | l=>some (.many l)
def cL (P:Program) (q:EqT) (C:Nat→Cfg) (fn:Func) (n:Nat) (cs:List CA):Option (List Prop×RV) :=
 match fn.body with
 | some c=>bif Nat.ble cs.length fn.ntmps then
   (match run P q fn.ntmps C n c (kN 0 cs)with
   | some (ps,.ex _,_)=>none
   | some (ps,_,A)=>match lN P A fn.results.toList with
    | some l=>match rv l with|some r=>some (ps,r)|none=>none
    | none=>none
   | none=>none)else none
 | none=>none
def jH (P:Program) (T:Tab) (q:EqT) (hint:Nat→Bool) (fn:Func) (n:Nat) (cs:List CA):Option (List Prop×RV):=cL P q (fun _=>⟨fun _=>T,hint,fun _=>none⟩) fn n cs
theorem fG:∀(cs:List CA) (i:Nat) (φ:Fact),φ∈kN i cs→(∀s v,φ=.slot s v→∀k,v.key=some k→i≤k)∧(∀k o l,φ=.row k o l→i≤k)∧(∀k b,φ ≠ .at k b)∧∀k e s n,φ ≠ .app k e s n
 | [],i,φ,h=>by cases h
 | .v x::r,i,φ,h=>by
  rcases List.mem_cons.1 h with rfl|h
  ·refine⟨fun s v e k hk => ?_,(fun k o l e=>by cases e),(fun k b e=>by cases e),fun k e s n q=>by cases q⟩;cases e;cases x<;>cases hk
  ·obtain⟨h1,h2,h3⟩:=fG r (i+1) φ h;exact⟨fun s v e k hk=>Nat.le_of_succ_le (h1 s v e k hk),fun k o l e=>Nat.le_of_succ_le (h2 k o l e),h3⟩
 | .s l n m::r,i,φ,h=>by
  rcases List.mem_cons.1 h with rfl|h
  ·refine⟨fun s v e k hk => ?_,(fun k o l e=>by cases e),(fun k b e=>by cases e),fun k e s n q=>by cases q⟩;cases e;cases hk;exact Nat.le_refl _
  ·rcases List.mem_cons.1 h with rfl|h
   ·exact⟨fun s v e=>by (cases e),(fun k o l e=>by cases e; exact Nat.le_refl _),(fun k b e=>by cases e),fun k e s n q=>by cases q⟩
   ·obtain⟨h1,h2,h3⟩:=fG r (i+1) φ h;exact⟨fun s v e k hk=>Nat.le_of_succ_le (h1 s v e k hk),fun k o l e=>Nat.le_of_succ_le (h2 k o l e),h3⟩
 | .so l n::r,i,φ,h=>by
  rcases List.mem_cons.1 h with rfl|h
  ·refine⟨fun s v e k hk => ?_,(fun k o l e=>by cases e),(fun k b e=>by cases e),fun k e s n q=>by cases q⟩;cases e;cases hk;exact Nat.le_refl _
  ·rcases List.mem_cons.1 h with rfl|h
   ·exact⟨fun s v e=>by (cases e),(fun k o l e=>by cases e; exact Nat.le_refl _),(fun k b e=>by cases e),fun k e s n q=>by cases q⟩
   ·obtain⟨h1,h2,h3⟩:=fG r (i+1) φ h;exact⟨fun s v e k hk=>Nat.le_of_succ_le (h1 s v e k hk),fun k o l e=>Nat.le_of_succ_le (h2 k o l e),h3⟩
 | .p l o0::r,i,φ,h=>by
  rcases List.mem_cons.1 h with rfl|h
  ·refine⟨fun s v e k hk => ?_,(fun k o l e=>by cases e),(fun k b e=>by cases e),fun k e s n q=>by cases q⟩;cases e;cases hk;exact Nat.le_refl _
  ·rcases List.mem_cons.1 h with rfl|h
   ·exact⟨fun s v e=>by (cases e),(fun k o l e=>by cases e; exact Nat.le_refl _),(fun k b e=>by cases e),fun k e s n q=>by cases q⟩
   ·obtain⟨h1,h2,h3⟩:=fG r (i+1) φ h;exact⟨fun s v e k hk=>Nat.le_of_succ_le (h1 s v e k hk),fun k o l e=>Nat.le_of_succ_le (h2 k o l e),h3⟩
theorem zV (a:Act) (w:World) (B:Bk) (K:Nat):∀(cs:List CA) (vs:List Value) (i:Nat),i+cs.length≤K→bZ w cs vs→(∀j v,vs[j]?=some v→a.tmps[i+j]?=some v)→∃β:Nat→Bk,β K=B∧∀φ∈kN i cs,φ.ok w.heap.size β a w
 | [],vs,i,_,_,_=>⟨fun _=>B,rfl,fun φ h=>by cases h⟩
 | c::cs,[],i,_,h,_=>by cases c<;>exact h.elim
 | c::cs,v::vs,i,hK,h,ha=>by
  have hKi:Nat.beq K i=false:=by
   cases hb:Nat.beq K i
   ·rfl
   ·have:=Nat.eq_of_beq_eq_true hb;simp only[List.length_cons]at hK;omega
  obtain⟨h1,h2⟩:c.ok w v∧bZ w cs vs:=by cases c<;>exact h
  obtain⟨β,hB,hβ⟩:=zV a w B K cs vs (i+1) (by simp only[List.length_cons]at hK; omega) h2 (fun j u hj=>by have:=ha (j+1) u (by simpa using hj); rwa [show i+(j+1)=i+1+j by omega]at this);have h0:=ha 0 v rfl;rw[Nat.add_zero]at h0;cases c with
  | v x =>
   refine⟨β,hB,fun φ hφ => ?_⟩
   rcases List.mem_cons.1 hφ with rfl|hφ
   ·show a.tmps[i]?=_;rw[h0,TV.av_den];exact congrArg some h1
   ·exact hβ φ hφ
  | s l n m =>
   obtain⟨b,o,rfl,hb,hr⟩:=h1;refine⟨fun k=>bif Nat.beq k i then (b,o,0)else β k,by simp only[hKi]; exact hB,fun φ hφ => ?_⟩;have hbi:(bif Nat.beq i i then (b,o,0)else β i)=(b,o,0):=by simp
   rcases List.mem_cons.1 hφ with rfl|hφ
   ·show a.tmps[i]?=_;rw[h0];show _=some (Value.slice (some ⟨(bif Nat.beq i i then (b,o,0)else β i).1,(bif Nat.beq i i then (b,o,0)else β i).2.1+0,none⟩) n m);rw[hbi];rfl
   ·rcases List.mem_cons.1 hφ with rfl|hφ
    ·refine⟨?_,?_,(fun h=>by cases h),fun _=>trivial⟩<;>simp only[hbi]
     ·exact hb
     ·exact hr
    ·obtain⟨k1,k2,k3,k4⟩:=fG cs (i+1) φ hφ;have hne:∀k,i+1≤k→(bif Nat.beq k i then (b,o,0)else β k)=β k:=fun k hk=>by
      cases hq:Nat.beq k i
      ·rfl
      ·have:=Nat.eq_of_beq_eq_true hq; omega
     have hold:=hβ φ hφ;cases φ with
     | slot s u =>
      show a.tmps[s]?=_;rw[AV.den_eq (β:=β) u (fun k hk=>hne k (k1 s u rfl k hk))];exact hold
     | row k ow l' =>
      have e:=hne k (k2 k ow l' rfl);simp only[Fact.ok]at hold ⊢;simp only[e];exact hold
     | «at» k b=>exact (k3 k b rfl).elim
     | app k e s n=>exact (k4 k e s n rfl).elim
  | so l n =>
   obtain⟨b,o,m,rfl,hb,hr⟩:=h1;refine⟨fun k=>bif Nat.beq k i then (b,o,m)else β k,by simp only[hKi]; exact hB,fun φ hφ => ?_⟩;have hbi:(bif Nat.beq i i then (b,o,m)else β i)=(b,o,m):=by simp
   rcases List.mem_cons.1 hφ with rfl|hφ
   ·show a.tmps[i]?=_;rw[h0];show _=some (Value.slice (some ⟨(bif Nat.beq i i then (b,o,m)else β i).1,(bif Nat.beq i i then (b,o,m)else β i).2.1,none⟩) n (bif Nat.beq i i then (b,o,m)else β i).2.2);rw[hbi]
   ·rcases List.mem_cons.1 hφ with rfl|hφ
    ·refine⟨?_,?_,(fun h=>by cases h),fun _=>trivial⟩<;>simp only[hbi]
     ·exact hb
     ·exact hr
    ·obtain⟨k1,k2,k3,k4⟩:=fG cs (i+1) φ hφ;have hne:∀k,i+1≤k→(bif Nat.beq k i then (b,o,m)else β k)=β k:=fun k hk=>by
      cases hq:Nat.beq k i
      ·rfl
      ·have:=Nat.eq_of_beq_eq_true hq; omega
     have hold:=hβ φ hφ;cases φ with
     | slot s u =>
      show a.tmps[s]?=_;rw[AV.den_eq (β:=β) u (fun k hk=>hne k (k1 s u rfl k hk))];exact hold
     | row k ow l' =>
      have e:=hne k (k2 k ow l' rfl);simp only[Fact.ok]at hold ⊢;simp only[e];exact hold
     | «at» k b=>exact (k3 k b rfl).elim
     | app k e s n=>exact (k4 k e s n rfl).elim
  | p l o0 =>
   obtain⟨b,rfl,hb,hr⟩:=h1;refine⟨fun k=>bif Nat.beq k i then (b,0,0)else β k,by simp only[hKi]; exact hB,fun φ hφ => ?_⟩;have hbi:(bif Nat.beq i i then (b,0,0)else β i)=(b,0,0):=by simp
   rcases List.mem_cons.1 hφ with rfl|hφ
   ·show a.tmps[i]?=_;rw[h0];show _=some (Value.pointer (some ⟨(bif Nat.beq i i then (b,0,0)else β i).1,(bif Nat.beq i i then (b,0,0)else β i).2.1+o0,none⟩));rw[hbi];simp
   ·rcases List.mem_cons.1 hφ with rfl|hφ
    ·refine⟨?_,?_,(fun h=>by cases h),fun _=>trivial⟩<;>simp only[hbi]
     ·exact hb
     ·exact hr
    ·obtain⟨k1,k2,k3,k4⟩:=fG cs (i+1) φ hφ;have hne:∀k,i+1≤k→(bif Nat.beq k i then (b,0,0)else β k)=β k:=fun k hk=>by
      cases hq:Nat.beq k i
      ·rfl
      ·have:=Nat.eq_of_beq_eq_true hq; omega
     have hold:=hβ φ hφ;cases φ with
     | slot s u =>
      show a.tmps[s]?=_;rw[AV.den_eq (β:=β) u (fun k hk=>hne k (k1 s u rfl k hk))];exact hold
     | row k ow l' =>
      have e:=hne k (k2 k ow l' rfl);simp only[Fact.ok]at hold ⊢;simp only[e];exact hold
     | «at» k b=>exact (k3 k b rfl).elim
     | app k e s n=>exact (k4 k e s n rfl).elim
def mE (tmps:Array Value):ResultVar→Sem Value
 | .tmp t=>pure (tmps.getD t undef)
 | .cell p t=>do loadVar t (←asAddr (tmps.getD p undef))
theorem AJ {P:Program} {A:List Fact} {base:Nat} {β:Nat→Bk} {a:Act} {w:World} (hA:∀φ∈A,φ.ok base β a w) {x:ResultVar} {t:TV} (h1:JY P A x=some t):(mE a.tmps x).run P w=.ok t.den w:=by
 cases x with
 | tmp s =>
  have:a.tmps.getD s undef=t.den:=by
   simp only[JY]at h1;split at h1
   ·rename_i v hl; cases h1; have:=hA _ (cW hl); simp only[Fact.ok]at this; simp[this]; rfl
   ·rename_i v hl; cases h1; have:=hA _ (cW hl); simp only[Fact.ok]at this; simp[this]; rfl
   ·cases h1
  show (pure (a.tmps.getD s undef):Sem Value).run P w=_;rw[this];rfl
 | cell s ty =>
  simp only[JY]at h1;split at h1
  ·rename_i k o hl;split at h1
   ·rename_i ow row n hr hs ht;split at h1
    ·rename_i sg hg;cases h1;obtain⟨i',hi,hn⟩:=eW hs;obtain⟨ds,hu,hd'⟩:=eG ht;obtain⟨g1,g2,_⟩:=hA _ (aP hr);have hl':=hA _ (cW hl);simp only[Fact.ok,AV.den]at hl';have hv:a.tmps.getD s undef=.pointer (some ⟨(β k).1,(β k).2.1+o,none⟩):=by simp[hl']
     have:=run_loadVar_mid (P:=P) w _ _ ty (aA sg) ds (pG g2 hg) hu hd' (by rw[hi]; simp[aF,sK hg,hn]);show (do loadVar ty (←asAddr (a.tmps.getD s undef)):Sem Value).run P w=_;rw[hv];simp[asAddr,this,TV.den]
    ·cases h1
   ·cases h1
  ·cases h1
theorem fC {P:Program} {A:List Fact} {base:Nat} {β:Nat→Bk} {a:Act} {w:World} (hA:∀φ∈A,φ.ok base β a w):∀{xs:List ResultVar} {l:List TV},lN P A xs=some l→(xs.mapM (mE a.tmps)).run P w=.ok (l.map TV.den) w
 | [],l,h=>by cases h; simp
 | x::r,l,h=>by
  unfold lN at h;split at h
  ·rename_i t l' h1 h2;cases h;have ih:=fC hA h2;have hx:=AJ hA h1;simp[List.mapM_cons,ih,hx]
  ·cases h
theorem qR {l:List TV} {r:RV} (h:rv l=some r):(if h:(l.map TV.den).toArray.size=1 then (l.map TV.den).toArray[0]else Value.tuple (l.map TV.den).toArray)=r.den:=by
 cases l with
 | nil=>cases h
 | cons t l =>
  cases l with
  | nil=>cases h; rfl
  | cons u l=>cases h; rw[dif_neg (by simp)]; rfl
theorem MF {w:World}:∀(cs:List CA) (vs:List Value),bZ w cs vs→cs.length=vs.length:=fun cs=>by
 induction cs with
 | nil=>intro vs h; cases vs with|nil=>rfl|cons _ _=>exact h.elim
 | cons c cs ih=>intro vs h; cases vs with|nil=>cases c<;>exact h.elim|cons v vs=>cases c<;>exact congrArg (· + 1) (ih vs h.2)
theorem uV:∀(cs:List CA) (i:Nat) (k:Nat) (l:List At),Fact.row k true l∈kN i cs→False:=fun cs=>by
 induction cs with
 | nil=>intro i k l h; cases h
 | cons c cs ih =>
  intro i k l h;cases c with
  | v x=>rcases List.mem_cons.1 h with h|h; cases h; exact ih _ _ _ h
  | _ =>
   rcases List.mem_cons.1 h with h|h
   ·cases h
   ·rcases List.mem_cons.1 h with h|h
    ·cases h
    ·exact ih _ _ _ h
theorem lM {nt:Nat} {cs:List CA} {args:List Value} {w:World} (ha:bZ w cs args) (hn:cs.length≤nt):Holds nt w.heap.size w (kN 0 cs) { tmps:=args.toArray++Array.replicate (nt-args.toArray.size) undef,defers:=[] } w:=by
 have hle':args.length≤nt:=by rw[←MF cs args ha]; exact hn
 obtain⟨β,hB,hβ⟩:=zV { tmps:=args.toArray++Array.replicate (nt-args.toArray.size) undef,defers:=[] } w (w.heap.size,0,0) nt cs args 0 (by omega) ha (fun j v hj=>by
  have hlt:j<args.length:=(List.getElem?_eq_some_iff.1 hj).1;simp only[Nat.zero_add];rw[Array.getElem?_append_left (by simpa using hlt)];simpa using hj)
 exact⟨rfl,by simp; omega,Below.refl _ _,Nat.le_refl _,β,hβ,fun k k' o' l l' hk=>(uV cs 0 k l hk).elim,fun k l hk=>(uV cs 0 k l hk).elim,by rw[hB]; exact Nat.le_refl _,fun p h1 h2=>by (rw[hB]at h2; exact absurd h1 (by show ¬w.heap.size<p.block; have h2:p.block<w.heap.size:=h2; omega)),Shape.refl _⟩
theorem fP {P:Program} {q:EqT} {C:Nat→Cfg} {w:World} (hm:P.follows .mixedOrders=true) (hT:∀n d,TabOkW P ((C n).T d) w.heap.size w) (hq:dA P q w.heap.size w) {f:FuncId} {fn:Func} (hf:P.funcs[f]?=some fn) {n:Nat} {cs:List CA} {ps:List Prop} {r:RV}
  (h:cL P q C fn n cs=some (ps,r)) (hps:aQ ps) {args:List Value} (ha:bZ w cs args):Calls P f args.toArray w (fun e w'=>e=.returned r.den∧Below w.heap.size w w'):=by
 unfold cL at h;cases hb:fn.body with
 | none=>rw[hb]at h; cases h
 | some c =>
  rw[hb]at h;simp only at h;cases hle:Nat.ble cs.length fn.ntmps<;>rw[hle]at h
  ·cases h
  ·simp only[cond_true]at h;refine calls_of_wp hf hb ?_;have hH:=lM (nt:=fn.ntmps) ha (Nat.le_of_ble_eq_true hle);have hfin:∀(e:EA) (A:List Fact),(∀j,e ≠ .ex j)→(∃l,lN P A fn.results.toList=some l∧rv l=some r)→∀a w',Holds fn.ntmps w.heap.size w A a w'→bodyPost P fn (fun e w'=>e=.returned r.den∧Below w.heap.size w w') e.out a w':=fun e A he ⟨l,h1,h2⟩ a w' hA=>by
    obtain⟨β',hok,_⟩:=hA.facts;have hres:(results fn a.tmps).run P w'=.ok r.den w':=by
     have:=fC hok h1;show ((fn.results.mapM (mE a.tmps)) >>= fun vs=>pure (if h:vs.size=1 then vs[0]else .tuple vs):Sem Value).run P w'=_;have hm:(List.toArray <$> fn.results.toList.mapM (mE a.tmps)).run P w'=.ok (l.map TV.den).toArray w':=by simp[this]
     rw[Array.mapM_eq_mapM_toList,Sem.run_bind,hm,Result.andThen_ok,Sem.run_pure];exact congrArg (fun x=>Result.ok x w') (qR h2)
    cases e with
    | nrm=>exact⟨hA.defers,_,hres,rfl,hA.below⟩
    | rt=>exact⟨hA.defers,_,hres,rfl,hA.below⟩
    | ex j=>exact (he j rfl).elim
   split at h
   ·cases h
   ·rename_i ps' e A hne hrun;split at h
    ·rename_i l hl;split at h
     ·rename_i r' hr';cases h;exact (cI (P:=P) (q:=q) (nt:=fn.ntmps) (C:=C) hm hT hq n c _ A ps e _ w _ hrun hps hH (hfin e A (fun j e'=>hne j e') ⟨l,hl,hr'⟩)).1
     ·cases h
    ·cases h
   ·cases h
theorem aK {P:Program} {q:EqT} {C:Nat→Cfg} (hm:P.follows .mixedOrders=true) (hT:∀n d,TabOk P ((C n).T d)) (hq:EqOk P q) {f:FuncId} {fn:Func} (hf:P.funcs[f]?=some fn) {n:Nat} {cs:List CA} {ps:List Prop} {r:RV}
  (h:cL P q C fn n cs=some (ps,r)) (hps:aQ ps) {args:List Value} {w:World} (ha:bZ w cs args):Calls P f args.toArray w (fun e w'=>e=.returned r.den∧Below w.heap.size w w') :=
 fP hm (fun n d=>(hT n d).w _ _) (hq.w _ _) hf h hps ha
theorem bI {P:Program} {T:Tab} {q:EqT} {hint:Nat→Bool} (hm:P.follows .mixedOrders=true) (hT:TabOk P T) (hq:EqOk P q) {f:FuncId} {fn:Func} (hf:P.funcs[f]?=some fn) {n:Nat} {cs:List CA} {ps:List Prop} {r:RV}
  (h:jH P T q hint fn n cs=some (ps,r)) (hps:aQ ps) {args:List Value} {w:World} (ha:bZ w cs args):Calls P f args.toArray w (fun e w'=>e=.returned r.den∧Below w.heap.size w w') :=
 aK hm (fun _ _=>hT) hq hf h hps ha
theorem dT {P:Program} {f:FuncId} {fn:Func} (hf:P.funcs[f]?=some fn) (hn:(fn.name == "runtime.NumGoroutine")=false) (hb:fn.body.isNone=false) (args:Array Value) (w:World):(callFunc f args).run P w=.ok (.enter f args) w:=by
 have hn':¬fn.name = "runtime.NumGoroutine":=by simpa using hn
 have hb':¬fn.body=none:=fun e=>by rw[e]at hb; cases hb
 simp[callFunc,hf,hn',hb']
def T0:Tab:=fun _ _=>none
theorem jA (P:Program):TabOk P T0:=fun _ _ _ _ h=>by cases h
def Tab.add (T:Tab) (f:Nat) (g:List CA→Option (List Prop×RV)):Tab:=fun f' cs=>bif Nat.beq f' f then g cs else T f' cs
theorem TabOk.add {P:Program} {T:Tab} (hT:TabOk P T) {f:Nat} {fn:Func} (hf:P.funcs[f]?=some fn) (hn:(fn.name == "runtime.NumGoroutine")=false) (hb:fn.body.isNone=false) {g:List CA→Option (List Prop×RV)}
  (h:∀cs pre r,g cs=some (pre,r)→aQ pre→∀(args:List Value) (w:World),bZ w cs args→Calls P f args.toArray w (fun e w'=>e=.returned r.den∧Below w.heap.size w w')):TabOk P (T.add f g):=by
 intro f' cs pre r hg hp;unfold Tab.add at hg;cases hb':Nat.beq f' f<;>rw[hb']at hg
 ·exact hT f' cs pre r hg hp
 ·cases Nat.eq_of_beq_eq_true hb';exact⟨dT hf hn hb,h cs pre r hg hp⟩
theorem TabOk.ad {P:Program} {T:Tab} (hT:TabOk P T) {f:Nat} {fn:Func} (hf:P.funcs[f]?=some fn) {g:List CA→Option (List Prop×RV)}
 (h:∀cs pre r,g cs=some (pre,r)→aQ pre→∀(args:List Value) (w:World),bZ w cs args→Calls P f args.toArray w (fun e w'=>e=.returned r.den∧Below w.heap.size w w')) (hn:(fn.name == "runtime.NumGoroutine")=false:=by kernel_rfl) (hb:fn.body.isNone=false:=by kernel_rfl):TabOk P (T.add f g):=hT.add hf hn hb h
theorem Holds.sub {nt base:Nat} {w0:World} {A A':List Fact} {a:Act} {w:World} (h:Holds nt base w0 A a w) (hs:∀φ∈A',φ∈A):Holds nt base w0 A' a w:=by
 obtain⟨β,h1,h2⟩:=h.facts;exact⟨h.defers,h.size,h.below,h.heap,β,fun φ hφ=>h1 φ (hs φ hφ),fun k k' o' l l' hk hk'=>h2.1 k k' o' l l' (hs _ hk) (hs _ hk'),fun k l hk=>h2.2.1 k l (hs _ hk),h2.2.2⟩
def pick (A:List Fact):List Fact→Option (List Fact)
 | []=>some []
 | .slot s _::r=>match lC A s,pick A r with|some v,some l=>some (.slot s v::l)|_,_=>none
 | .row k _ _::r=>match cE A k,pick A r with|some (o,l),some m=>some (.row k o l::m)|_,_=>none
 | .at k _::r=>match oL A k,pick A r with|some b,some m=>some (.at k b::m)|_,_=>none
 | .app k _ _ _::r=>match kO A k,pick A r with|some (e,sz,n),some m=>some (.app k e sz n::m)|_,_=>none
theorem fZ {A:List Fact}:∀{K L:List Fact},pick A K=some L→∀φ∈L,φ∈A
 | [],L,h,φ,hφ=>by cases h; cases hφ
 | .slot s v::r,L,h,φ,hφ=>by
  unfold pick at h;split at h
  ·rename_i u l h1 h2;cases h
   rcases List.mem_cons.1 hφ with rfl|hφ
   ·exact cW h1
   ·exact fZ h2 φ hφ
  ·cases h
 | .row k o m::r,L,h,φ,hφ=>by
  unfold pick at h;split at h
  ·rename_i o' l' m' h1 h2;cases h
   rcases List.mem_cons.1 hφ with rfl|hφ
   ·exact aP h1
   ·exact fZ h2 φ hφ
  ·cases h
 | .at k b::r,L,h,φ,hφ=>by
  unfold pick at h;split at h
  ·rename_i b' m' h1 h2;cases h
   rcases List.mem_cons.1 hφ with rfl|hφ
   ·exact dI h1
   ·exact fZ h2 φ hφ
  ·cases h
 | .app k e' sz' n'::r,L,h,φ,hφ=>by
  unfold pick at h;split at h
  ·rename_i e sz n m' h1 h2;cases h
   rcases List.mem_cons.1 hφ with rfl|hφ
   ·exact dZ h1
   ·exact fZ h2 φ hφ
  ·cases h
def dP (P:Program) (q:EqT) (nt:Nat) (C:Nat→Cfg) (n:Nat) (c:Code) (A K:List Fact):Option (List Prop×EA×List Fact) :=
 match run P q nt C n c A with
 | some (ps,e,A1)=>match pick A1 K with|some L=>some (ps,e,L)|none=>none
 | none=>none
section
variable {P:Program} {q:EqT} {nt base:Nat} {w0:World} {Q:Exit→Act→World→Prop}
theorem aN (hm:P.follows .mixedOrders=true) {C:Nat→Cfg} (hT:∀n d,TabOkW P ((C n).T d) base w0) (hq:dA P q base w0) {n:Nat} {c:Code} {A K L:List Fact} {ps:List Prop} {e:EA} {a:Act} {w:World}
  (h:dP P q nt C n c A K=some (ps,e,L)) (hps:aQ ps) (hA:Holds nt base w0 A a w) (hQ:∀a w,Holds nt base w0 L a w→Q e.out a w):c.wp P Q a w:=by
 unfold dP at h;split at h
 ·rename_i ps' e' A1 h1;split at h
  ·rename_i L' h2;cases h;exact (cI hm hT hq n c A A1 ps e a w Q h1 hps hA fun a w hA1=>hQ a w (hA1.sub (fZ h2))).1
  ·cases h
 ·cases h
theorem kE {f:FuncId} {fn:Func} (hf:P.funcs[f]?=some fn) {c:Code} (hb:fn.body=some c) {cs:List CA} {args:List Value} {w:World} (ha:bZ w cs args) (hn:cs.length≤fn.ntmps) {R:Ending→World→Prop}
  (h:∀a w',Holds fn.ntmps w.heap.size w (kN 0 cs) a w'→c.wp P (bodyPost P fn R) a w'):Calls P f args.toArray w R:=by
 exact calls_of_wp hf hb (h _ _ (lM ha hn))
theorem oA {fn:Func} {A:List Fact} {l:List TV} {r:RV} {w:World} (h1:lN P A fn.results.toList=some l) (h2:rv l=some r) {a:Act} {w':World} (hA:Holds nt w.heap.size w A a w'):bodyPost P fn (fun e w'=>e=.returned r.den∧Below w.heap.size w w') .ret a w':=by
 obtain⟨β',hok,_⟩:=hA.facts;have hres:(results fn a.tmps).run P w'=.ok r.den w':=by
  have:=fC hok h1;show ((fn.results.mapM (mE a.tmps)) >>= fun vs=>pure (if h:vs.size=1 then vs[0]else .tuple vs):Sem Value).run P w'=_;have hm:(List.toArray <$> fn.results.toList.mapM (mE a.tmps)).run P w'=.ok (l.map TV.den).toArray w':=by simp[this]
  rw[Array.mapM_eq_mapM_toList,Sem.run_bind,hm,Result.andThen_ok,Sem.run_pure];exact congrArg (fun x=>Result.ok x w') (qR h2)
 exact⟨hA.defers,_,hres,rfl,hA.below⟩
end
def cA:Code→Code
 | .seq a _=>a
 | c=>c
def cB:Code→Code
 | .seq _ b=>b
 | c=>c
def Av:Code→Code
 | .block _ c=>c
 | .loop c=>c
 | c=>c
def gM (P:Program) (t:Nat):Bool:=match P.underlying t with
 | some (.struct _)=>true
 | some (.array _ _)=>true
 | _=>false
def XQ:Bool→List Value→Value
 | true,xs=>.agg xs.toArray
 | false,x::_=>x
 | false,[]=>undef
def rF (P:Program) (t k:Nat):Bool:=match cD P t with|some m=>Nat.beq m k|none=>false
def zO (P:Program) (g:Nat→Option Nat):Nat→List Field→Option Nat
 | o,[]=>some o
 | o,f::r=>match g f.type with
  | some k=>bif (f.name != "_")&&(Nat.beq f.offset o&&rF P f.type k)then zO P g (o+k) r else none
  | none=>none
def FU:Value→Option Bool
 | .int .u64 _=>some false
 | .bool _=>some true
 | _=>none
def XS:List (Option Bool)→Option Bool→Bool
 | [some a],some b=>a==b
 | _,_=>false
def fK (P:Program):Nat→Nat→Option Nat
 | 0,_=>none
 | d+1,t=>match P.underlying t with
  | some (.int .u64)=>bif rF P t 1 then some 1 else none
  | some .bool=>bif rF P t 1 then some 1 else none
  | some (.array n e)=>match fK P d e with
   | some k=>bif rF P e k&&rF P t (n*k)then some (n*k)else none
   | none=>none
  | some (.struct fs)=>match zO P (fK P d) 0 fs.toList with
   | some m=>bif rF P t m && !(P.stoodInHeld t)then some m else none
   | none=>none
  | _=>none
def MJ (f:Nat→Bool):Nat→Bool
 | 0=>true
 | n+1=>f n&&MJ f n
theorem lI {f:Nat→Bool}:∀{n:Nat},MJ f n=true→∀i,i<n→f i=true
 | 0,_,i,hi=>by omega
 | n+1,h,i,hi=>by
  unfold MJ at h;rw[Bool.and_eq_true]at h
  by_cases e:i=n
  ·rw[e]; exact h.1
  ·exact lI h.2 i (by omega)
def uJ (P:Program) (g:Nat→Option Nat) (h:Nat→List (Option Bool)→Bool) (ks:List (Option Bool)):Nat→List Field→Bool
 | _,[]=>true
 | o,f::r=>match g f.type with
  | some k=>h f.type ((ks.drop o).take k)&&uJ P g h ks (o+k) r
  | none=>false
def pA (P:Program):Nat→Nat→List (Option Bool)→Bool
 | 0,_,_=>false
 | d+1,t,ks=>match P.underlying t with
  | some (.int .u64)=>XS ks (some false)
  | some .bool=>XS ks (some true)
  | some (.array n e)=>match fK P d e with
   | some k=>MJ (fun i=>pA P d e ((ks.drop (i*k)).take k)) n
   | none=>false
  | some (.struct fs)=>uJ P (fK P d) (pA P d) ks 0 fs.toList
  | _=>false
def kA:At→List (Option Bool)
 | .c v=>[FU v]
 | _=>[some false,some false,some false,some false]
def ST:List At→List (Option Bool)
 | []=>[]
 | a::r=>kA a++ST r
theorem nT:∀l:List At,(aA l).map FU=ST l
 | []=>rfl
 | a::r=>by
  show (a.cells++aA r).map FU=kA a++ST r;rw[List.map_append,nT r];cases a<;>rfl
theorem iD {P:Program} {t k:Nat} (h:rF P t k=true):cD P t=some k:=by
 unfold rF at h;split at h
 ·rename_i m hm; rw[hm,Nat.eq_of_beq_eq_true h]
 ·cases h
theorem jW {P:Program} {t n:Nat} (hs:cD P t=some n) (ht:(P.underlying t).isSome=true) (hn:gM P t=false→n=1) (cs:List Value) (off:Nat) (hl:off+n≤cs.length) (w:World) :
  (part t cs.toArray off).run P w=.ok (XQ (gM P t) ((cs.drop off).take n)) w:=by
 obtain⟨ds,hu⟩:=Option.isSome_iff_exists.1 ht;have hagg:(isAgg t).run P w=.ok (gM P t) w:=by
  unfold isAgg gM;rw[Sem.run_bind,run_underlying hu w,hu];cases ds<;>simp_all
 cases ha:gM P t
 ·have h1:=hn ha;subst h1;rw[ha]at hagg;have hc:cs.toArray[off]?=some cs[off]:=by simp
  have hd:(cs.drop off).take 1=[cs[off]]:=by
   rw[List.drop_eq_getElem_cons (by omega)];rfl
  unfold part;rw[Sem.run_bind,hagg];simp only[Result.andThen_ok,Bool.false_eq_true,if_false];rw[hc,hd];rfl
 ·rw[ha]at hagg;simp[part,hagg,aT hs,List.extract_eq_take_drop,XQ]
def gG (d e n:Nat) (xs ys:Array Value):Nat→Nat→Sem Bool
 | _,0=>pure true
 | i,c+1=>do
  let a ←part e xs (i*n)
  let b ←part e ys (i*n)
  let r ←Op.equalIn d e a b
  if (!r)=true then pure false else gG d e n xs ys (i+1) c
theorem jS {P:Program} (w:World) (d t len e n:Nat) (xs ys:Array Value) (ht:P.underlying t=some (.array len e)) (hs:cD P e=some n) :
  (Op.equalIn (d+1) t (.agg xs) (.agg ys)).run P w=(gG d e n xs ys 0 len).run P w:=by
 simp only[Op.equalIn,Sem.run_bind,run_underlying ht,Result.andThen_ok,aT hs];rw[Std.Legacy.Range.forIn_eq_forIn_range'];simp only[Std.Legacy.Range.size,Nat.sub_zero,Nat.add_sub_cancel,Nat.div_one];clear ht;generalize (0:Nat)=i
 induction len generalizing i w with
 | zero=>simp[gG]
 | succ len ih =>
  simp only[List.range'_succ,List.forIn_cons,gG,Sem.run_bind,Sem.run_ite];generalize (part e xs (i*n)).run P w=r1;cases r1 with
  | ok a w1 =>
   simp only[Result.andThen_ok];generalize (part e ys (i*n)).run P w1=r2;cases r2 with
   | ok b w2 =>
    simp only[Result.andThen_ok];generalize (Op.equalIn d e a b).run P w2=r3;cases r3 with
    | ok r w3 =>
     cases r
     ·simp only[Result.andThen_ok,Bool.not_false,if_true,Sem.run_pure]
     ·simp only[Result.andThen_ok,Bool.not_true,Bool.false_eq_true,if_false,Sem.run_pure];exact ih w3 (i+1)
    | halt x w3=>simp[Result.andThen]
   | halt x w2=>simp[Result.andThen]
  | halt x w1=>simp[Result.andThen]
theorem uO:∀{P:Program} {d t n:Nat},fK P d t=some n→cD P t=some n∧(P.underlying t).isSome=true∧(gM P t=false→n=1)
 | P,0,t,n,h=>by cases h
 | P,d+1,t,n,h=>by
  unfold fK at h;unfold gM;split at h
  ·rename_i hu;cases hb:rF P t 1<;>rw[hb]at h
   ·cases h
   ·cases h;exact⟨iD hb,by rw[hu]; rfl,fun _=>rfl⟩
  ·rename_i hu;cases hb:rF P t 1<;>rw[hb]at h
   ·cases h
   ·cases h;exact⟨iD hb,by rw[hu]; rfl,fun _=>rfl⟩
  ·rename_i len e hu;split at h
   ·rename_i k hk;cases hb:(rF P e k&&rF P t (len*k))<;>rw[hb]at h
    ·cases h
    ·cases h;rw[Bool.and_eq_true]at hb;exact⟨iD hb.2,by rw[hu]; rfl,fun h=>by rw[hu]at h; cases h⟩
   ·cases h
  ·rename_i fs hu;split at h
   ·rename_i m hm;cases hb:(rF P t m && !(P.stoodInHeld t))<;>rw[hb]at h
    ·cases h
    ·cases h;rw[Bool.and_eq_true]at hb;exact⟨iD hb.1,by rw[hu]; rfl,fun h=>by rw[hu]at h; cases h⟩
   ·cases h
  ·cases h
theorem qM {α:Type} {xs ys:List α} {o k:Nat}:(xs.drop o=ys.drop o)↔((xs.drop o).take k=(ys.drop o).take k∧xs.drop (o+k)=ys.drop (o+k)):=by
 constructor
 ·intro h;refine⟨by rw[h],?_⟩;rw[←List.drop_drop,←List.drop_drop,h]
 ·rintro⟨h1,h2⟩
  rw[←List.take_append_drop k (xs.drop o),←List.take_append_drop k (ys.drop o),h1,List.drop_drop,List.drop_drop,h2]
theorem iP (xs:List Value) (o k:Nat):((xs.drop o).take k).map FU=((xs.map FU).drop o).take k:=by rw[List.map_take,List.map_drop]
theorem tX {x:Value} (h:XS [FU x] (some false)=true):∃n:Int,x=.int .u64 n:=by
 cases x with
 | int k n=>cases k<;>first|exact⟨n,rfl⟩|cases h
 | bool b=>cases h
 | _=>cases h
theorem tY {x:Value} (h:XS [FU x] (some true)=true):∃b:Bool,x=.bool b:=by
 cases x with
 | int k n=>cases k<;>cases h
 | bool b=>exact⟨b,rfl⟩
 | _=>cases h
open Classical in
theorem rV {P:Program}:∀{d t n:Nat},fK P d t=some n→∀(D:Nat),d≤D→∀(xs ys:List Value) (w:World),xs.length=n→ys.length=n→pA P d t (xs.map FU)=true→pA P d t (ys.map FU)=true →
  (Op.equalIn D t (XQ (gM P t) xs) (XQ (gM P t) ys)).run P w=.ok (decide (xs=ys)) w
 | 0,t,n,h=>by cases h
 | d+1,t,n,h=>by
  intro D hD xs ys w hx hy wx wy
  match D,hD with
  | D+1,hD =>
  have hd:d≤D:=by omega
  unfold fK at h;unfold pA at wx wy;split at h
  ·rename_i hu;rw[hu]at wx wy;cases hb:rF P t 1<;>rw[hb]at h
   ·cases h
   ·cases h;have ha:gM P t=false:=by unfold gM; rw[hu]
    rw[ha]
    match xs,ys,hx,hy with
    | [x],[y],_,_ =>
     obtain⟨a,rfl⟩:=tX wx;obtain⟨b,rfl⟩:=tX wy;refine (run_equalIn_int w D t .u64 .u64 a b hu).trans ?_;congr 1
     by_cases e:a=b<;>simp[e]
  ·rename_i hu;rw[hu]at wx wy;cases hb:rF P t 1<;>rw[hb]at h
   ·cases h
   ·cases h;have ha:gM P t=false:=by unfold gM; rw[hu]
    rw[ha]
    match xs,ys,hx,hy with
    | [x],[y],_,_ =>
     obtain⟨a,rfl⟩:=tY wx;obtain⟨b,rfl⟩:=tY wy;refine (run_equalIn_bool w D t a b hu).trans ?_;congr 1
     by_cases e:a=b<;>simp[e]
  ·rename_i len e hu;split at h
   ·rename_i k hk;cases hb:(rF P e k&&rF P t (len*k))<;>rw[hb]at h
    ·cases h
    ·cases h;rw[Bool.and_eq_true]at hb;have ha:gM P t=true:=by unfold gM; rw[hu]
     rw[ha];refine (jS w D t len e k _ _ hu (iD hb.1)).trans ?_;obtain⟨p1,p2,p3⟩:=uO hk;rw[hu]at wx wy;simp only[hk]at wx wy;have key:∀(c i:Nat) (w:World),i+c=len→(gG D e k xs.toArray ys.toArray i c).run P w=.ok (decide (xs.drop (i*k)=ys.drop (i*k))) w:=by
      intro c
      induction c with
      | zero =>
       intro i w hi;have hi':i=len:=by omega
       subst hi';have h1:xs.length≤i*k:=by omega
       have h2:ys.length≤i*k:=by omega
       simp[gG,List.drop_of_length_le h1,List.drop_of_length_le h2]
      | succ c ih =>
       intro i w hi;have hle:i*k+k≤len*k:=by
        have:=Nat.mul_le_mul_right k (show i+1≤len by omega);rw[Nat.add_mul,Nat.one_mul]at this;exact this
       unfold gG;simp only[Sem.run_bind,jW p1 p2 p3 xs (i*k) (by omega),jW p1 p2 p3 ys (i*k) (by omega),Result.andThen_ok];rw[rV hk D hd ((xs.drop (i*k)).take k) ((ys.drop (i*k)).take k) w (by simp; omega) (by simp; omega) (by rw[iP]; exact lI wx i (by omega)) (by rw[iP]; exact lI wy i (by omega))];simp only[Result.andThen_ok];have hs:=qM (xs:=xs) (ys:=ys) (o:=i*k) (k:=k);rw[show i*k+k=(i+1)*k by rw[Nat.add_mul,Nat.one_mul]]at hs
       by_cases q:(xs.drop (i*k)).take k=(ys.drop (i*k)).take k
       ·rw[decide_eq_true q];simp only[Bool.not_true,Bool.false_eq_true,if_false];rw[ih (i+1) w (by omega)];congr 1;rw[decide_eq_decide];exact⟨fun h=>hs.2 ⟨q,h⟩,fun h=>(hs.1 h).2⟩
       ·rw[decide_eq_false q,decide_eq_false (fun h=>q (hs.1 h).1)];simp
     have:=key len 0 w (by omega);rw[Nat.zero_mul,List.drop_zero,List.drop_zero]at this;exact this
   ·cases h
  ·rename_i fs hu;split at h
   ·rename_i m hm;cases hb:(rF P t m && !(P.stoodInHeld t))<;>rw[hb]at h
    ·cases h
    ·cases h;rw[Bool.and_eq_true,Bool.not_eq_true']at hb;have ha:gM P t=true:=by unfold gM; rw[hu]
     rw[ha];have hf:P.fieldsOf t=fs:=by simp[Program.fieldsOf,hu]
     refine (run_equalIn_struct w D t xs.toArray ys.toArray (by rw[hf]; exact hu) hb.2).trans ?_;rw[hf];rw[hu]at wx wy;have key:∀(l:List Field) (o m:Nat) (w:World),uJ P (fK P d) (pA P d) (xs.map FU) o l=true→uJ P (fK P d) (pA P d) (ys.map FU) o l=true→zO P (fK P d) o l=some m→m≤xs.length→xs.length=ys.length→o≤m∧(Op.eqFields D xs.toArray ys.toArray l).run P w=.ok (decide ((xs.drop o).take (m-o)=(ys.drop o).take (m-o))) w:=by
      intro l
      induction l with
      | nil =>
       intro o m w _ _ h1 h2 h3;cases h1;simp[Op.eqFields]
      | cons f r ih =>
       intro o m w vx vy h1 h2 h3;unfold zO at h1;unfold uJ at vx vy;split at h1
       ·rename_i k hk;simp only[hk]at vx vy;rw[Bool.and_eq_true]at vx vy;cases hc:((f.name != "_")&&(Nat.beq f.offset o&&rF P f.type k))<;>rw[hc]at h1
        ·cases h1
        ·simp only[cond_true]at h1;rw[Bool.and_eq_true,Bool.and_eq_true]at hc;obtain⟨c1,c2,c3⟩:=hc;have ho:=Nat.eq_of_beq_eq_true c2;obtain⟨g1,g2⟩:=ih (o+k) m w vx.2 vy.2 h1 h2 h3;refine⟨by omega,?_⟩;obtain⟨p1,p2,p3⟩:=uO hk;unfold Op.eqFields;rw[if_pos (by simpa using c1),ho];simp only[Sem.run_bind,jW p1 p2 p3 xs o (by omega),jW p1 p2 p3 ys o (by omega),Result.andThen_ok];rw[rV hk D hd ((xs.drop o).take k) ((ys.drop o).take k) w (by simp; omega) (by simp; omega) (by rw[iP]; exact vx.1) (by rw[iP]; exact vy.1)];simp only[Result.andThen_ok];have hs:((xs.drop o).take (m-o)=(ys.drop o).take (m-o))↔((xs.drop o).take k=(ys.drop o).take k∧(xs.drop (o+k)).take (m-(o+k))=(ys.drop (o+k)).take (m-(o+k))):=by
          have e:m-o=k+(m-(o+k)):=by omega
          rw[e,List.take_add,List.take_add,List.drop_drop,List.drop_drop];constructor
          ·intro h;exact List.append_inj h (by simp; omega)
          ·rintro⟨a,b⟩
           rw[a,b]
         by_cases q:(xs.drop o).take k=(ys.drop o).take k
         ·rw[decide_eq_true q];simp only[Bool.not_true,Bool.false_eq_true,if_false];rw[g2];congr 1;rw[decide_eq_decide];exact⟨fun h=>hs.2 ⟨q,h⟩,fun h=>(hs.1 h).2⟩
         ·rw[decide_eq_false q,decide_eq_false (fun h=>q (hs.1 h).1)];simp
       ·cases h1
     have:=(key fs.toList 0 _ w wx wy hm (by omega) (by omega)).2;rw[Nat.sub_zero,List.drop_zero,List.drop_zero,List.take_of_length_le (by omega),List.take_of_length_le (by omega)]at this;exact this
   ·cases h
  ·cases h
def gq (P:Program) (t:Nat):Option Nat:=match fK P 9 t with
 | some n=>bif gM P t && !(P.eqGuardType P.depth t)then some n else none
 | none=>none
def qG (P:Program):EqT:={ q:=gq P,n:=gq P,fit:=fun t l=>pA P 9 t (ST l) }
open Classical in
theorem aX (P:Program):EqOk P (qG P):=by
 have h0:∀t n,gq P t=some n→P.eqGuardType P.depth t=false∧∀(l m:List At) (w:World),dV l=n→dV m=n→pA P 9 t (ST l)=true→pA P 9 t (ST m)=true→(Op.equalIn 10000 t (.agg (aA l).toArray) (.agg (aA m).toArray)).run P w=.ok (decide (aA l=aA m)) w:=by
  intro t n h;unfold gq at h;split at h
  ·rename_i k hk;cases hb:(gM P t && !(P.eqGuardType P.depth t))<;>rw[hb]at h
   ·cases h
   ·cases h;rw[Bool.and_eq_true,Bool.not_eq_true']at hb;refine⟨hb.2,fun l m w h1 h2 h3 h4 => ?_⟩;have:=rV hk 10000 (by omega) (aA l) (aA m) w (by rw[aF,h1]) (by rw[aF,h2]) (by rw[nT]; exact h3) (by rw[nT]; exact h4);rw[hb.1]at this;exact this
  ·cases h
 refine⟨⟨fun t n h => ?_,fun t n h => ?_⟩,rfl⟩
 ·obtain⟨h1,h2⟩:=h0 t n h;exact⟨h1,fun l w hl hn=>by rw[h2 l l w hl hl hn hn,decide_eq_true rfl]⟩
 ·obtain⟨h1,h2⟩:=h0 t n h;exact⟨h1,fun l m w hl hm hn hn' hne=>by rw[h2 l m w hl hm hn hn',decide_eq_false hne]⟩
def oldOf (w:World) (b o:Nat) (l:List At):Prop:=b<w.heap.size∧w.rangeAt b o (aA l)
theorem eK {base:Nat} {w w':World} (h:Below base w w') {b o:Nat} {l:List Value} (hb:b<base) (hr:w.rangeAt b o l):w'.rangeAt b o l:=fun j v hj=>by
 rw[h.cell hb];exact hr j v hj
abbrev Tab2:=Nat→List CA→Option (List Prop×FR)
def TH:Tab2:=fun _ _=>none
def FrOk (P:Program) (T:Tab2):Prop:=∀f cs pre r,T f cs=some (pre,r)→aQ pre →
 (∀args w,(callFunc f args).run P w=.ok (.enter f args) w)∧∀(args:List Value) (w:World),bZ w cs args→Calls P f args.toArray w (fun e w'=>r.ok w e w')
theorem yA (P:Program):FrOk P TH:=fun _ _ _ _ h=>by cases h
def Tab2.add (T:Tab2) (f:Nat) (g:List CA→Option (List Prop×FR)):Tab2:=fun f' cs=>bif Nat.beq f' f then g cs else T f' cs
theorem FrOk.add {P:Program} {T:Tab2} (hT:FrOk P T) {f:Nat} {fn:Func} (hf:P.funcs[f]?=some fn) (hn:(fn.name == "runtime.NumGoroutine")=false) (hb:fn.body.isNone=false) {g:List CA→Option (List Prop×FR)}
  (h:∀cs pre r,g cs=some (pre,r)→aQ pre→∀(args:List Value) (w:World),bZ w cs args→Calls P f args.toArray w (fun e w'=>r.ok w e w')):FrOk P (T.add f g):=by
 intro f' cs pre r hg hp;unfold Tab2.add at hg;cases hb':Nat.beq f' f<;>rw[hb']at hg
 ·exact hT f' cs pre r hg hp
 ·cases Nat.eq_of_beq_eq_true hb';exact⟨dT hf hn hb,h cs pre r hg hp⟩
abbrev Tab3:=Nat→List CA→Option (List Prop×FS)
abbrev Tab4:=Nat→List CA→Option (List Prop×Nat×List At)
def FsOk (P:Program) (T:Tab3):Prop:=∀f cs pre r,T f cs=some (pre,r)→aQ pre →
 (∀args w,(callFunc f args).run P w=.ok (.enter f args) w)∧∀(args:List Value) (w:World),bZ w cs args→Calls P f args.toArray w (fun e w'=>r.ok w e w')
def WrOk (P:Program) (T:Tab4):Prop:=∀f cs pre j l,T f cs=some (pre,j,l)→aQ pre →
 (∀args w,(callFunc f args).run P w=.ok (.enter f args) w)∧∀(args:List Value) (w:World),bZ w cs args→∀b o n m,args[j]?=some (.slice (some ⟨b,o,none⟩) n m)→(∀q,w.frozen? ⟨b,q,none⟩=false) →
  Calls P f args.toArray w (fun e w'=>e=.returned (.slice (some ⟨b,o,none⟩) n m)∧WrAt w w' b l∧w'.rangeAt b o (aA l))
abbrev Tab5:=Nat→List CA→Option (List Prop×Nat×RV×List At)
def PtOk (P:Program) (T:Tab5):Prop:=∀f cs pre j r l,T f cs=some (pre,j,r,l)→aQ pre →
 (∀args w,(callFunc f args).run P w=.ok (.enter f args) w)∧∀(args:List Value) (w:World),bZ w cs args→∀b o,args[j]?=some (.pointer (some ⟨b,o,none⟩))→(∀q,w.frozen? ⟨b,q,none⟩=false) →
  Calls P f args.toArray w (fun e w'=>e=.returned r.den∧WrC w w' b∧w'.rangeAt b 0 (aA l))
def XD:Tab5:=fun _ _=>none
theorem lK (P:Program):PtOk P XD:=fun _ _ _ _ _ _ h=>by cases h
def Tab5.add (T:Tab5) (f:Nat) (g:List CA→Option (List Prop×Nat×RV×List At)):Tab5:=fun f' cs=>bif Nat.beq f' f then g cs else T f' cs
theorem PtOk.add {P:Program} {T:Tab5} (hT:PtOk P T) {f:Nat} {fn:Func} (hf:P.funcs[f]?=some fn) (hn:(fn.name == "runtime.NumGoroutine")=false) (hb:fn.body.isNone=false) {g:List CA→Option (List Prop×Nat×RV×List At)}
  (h:∀cs pre j r l,g cs=some (pre,j,r,l)→aQ pre→∀(args:List Value) (w:World),bZ w cs args→∀b o,args[j]?=some (.pointer (some ⟨b,o,none⟩))→(∀q,w.frozen? ⟨b,q,none⟩=false) →
   Calls P f args.toArray w (fun e w'=>e=.returned r.den∧WrC w w' b∧w'.rangeAt b 0 (aA l))):PtOk P (T.add f g):=by
 intro f' cs pre j r l hg hp;unfold Tab5.add at hg;cases hb':Nat.beq f' f<;>rw[hb']at hg
 ·exact hT f' cs pre j r l hg hp
 ·cases Nat.eq_of_beq_eq_true hb';exact⟨dT hf hn hb,h cs pre j r l hg hp⟩
theorem PtOk.ad {P:Program} {T:Tab5} (hT:PtOk P T) {f:Nat} {fn:Func} (hf:P.funcs[f]?=some fn) {g:List CA→Option (List Prop×Nat×RV×List At)}
 (h:∀cs pre j r l,g cs=some (pre,j,r,l)→aQ pre→∀(args:List Value) (w:World),bZ w cs args→∀b o,args[j]?=some (.pointer (some ⟨b,o,none⟩))→(∀q,w.frozen? ⟨b,q,none⟩=false)→Calls P f args.toArray w (fun e w'=>e=.returned r.den∧WrC w w' b∧w'.rangeAt b 0 (aA l))) (hn:(fn.name == "runtime.NumGoroutine")=false:=by kernel_rfl) (hb:fn.body.isNone=false:=by kernel_rfl):PtOk P (T.add f g):=hT.add hf hn hb h
abbrev Tab6:=Nat→Nat→List At→List CB→Option (List Prop×RV×List At)
def IW (b:Nat) (w:World) (r:RV) (l:List At) (e:Ending) (w':World):Prop:=e=.returned r.den∧WrC w w' b∧w'.rangeAt b 0 (aA l)
def PbOk (P:Program) (T:Tab6):Prop:=∀f b row cs pre r l,T f b row cs=some (pre,r,l)→aQ pre→(∀args w,(callFunc f args).run P w=.ok (.enter f args) w) ∧
 ∀(args:List Value) (w:World),b<w.heap.size→w.rangeAt b 0 (aA row)→(∀q,w.frozen? ⟨b,q,none⟩=false)→CBs w b cs args→Calls P f args.toArray w (IW b w r l)
def YB:Tab6:=fun _ _ _ _=>none
theorem oO (P:Program):PbOk P YB:=fun _ _ _ _ _ _ _ h=>by cases h
def Tab6.add (T:Tab6) (f:Nat) (g:Nat→List At→List CB→Option (List Prop×RV×List At)):Tab6:=fun f' b row cs=>bif Nat.beq f' f then g b row cs else T f' b row cs
theorem PbOk.add {P:Program} {T:Tab6} (hT:PbOk P T) {f:Nat} {fn:Func} (hf:P.funcs[f]?=some fn) (hn:(fn.name == "runtime.NumGoroutine")=false) (hb:fn.body.isNone=false) {g:Nat→List At→List CB→Option (List Prop×RV×List At)}
  (h:∀b row cs pre r l,g b row cs=some (pre,r,l)→aQ pre→∀(args:List Value) (w:World),b<w.heap.size→w.rangeAt b 0 (aA row)→(∀q,w.frozen? ⟨b,q,none⟩=false)→CBs w b cs args→Calls P f args.toArray w (IW b w r l)):PbOk P (T.add f g):=by
 intro f' b row cs pre r l hg hp;unfold Tab6.add at hg;cases hb':Nat.beq f' f<;>rw[hb']at hg
 ·exact hT f' b row cs pre r l hg hp
 ·cases Nat.eq_of_beq_eq_true hb';exact⟨dT hf hn hb,h b row cs pre r l hg hp⟩
def TG:Tab3:=fun _ _=>none
def WY:Tab4:=fun _ _=>none
theorem xY (P:Program):FsOk P TG:=fun _ _ _ _ h=>by cases h
theorem sB (P:Program):WrOk P WY:=fun _ _ _ _ _ h=>by cases h
def Tab3.add (T:Tab3) (f:Nat) (g:List CA→Option (List Prop×FS)):Tab3:=fun f' cs=>bif Nat.beq f' f then g cs else T f' cs
def Tab4.add (T:Tab4) (f:Nat) (g:List CA→Option (List Prop×Nat×List At)):Tab4:=fun f' cs=>bif Nat.beq f' f then g cs else T f' cs
theorem FsOk.add {P:Program} {T:Tab3} (hT:FsOk P T) {f:Nat} {fn:Func} (hf:P.funcs[f]?=some fn) (hn:(fn.name == "runtime.NumGoroutine")=false) (hb:fn.body.isNone=false) {g:List CA→Option (List Prop×FS)}
  (h:∀cs pre r,g cs=some (pre,r)→aQ pre→∀(args:List Value) (w:World),bZ w cs args→Calls P f args.toArray w (fun e w'=>r.ok w e w')):FsOk P (T.add f g):=by
 intro f' cs pre r hg hp;unfold Tab3.add at hg;cases hb':Nat.beq f' f<;>rw[hb']at hg
 ·exact hT f' cs pre r hg hp
 ·cases Nat.eq_of_beq_eq_true hb';exact⟨dT hf hn hb,h cs pre r hg hp⟩
theorem FsOk.ad {P:Program} {T:Tab3} (hT:FsOk P T) {f:Nat} {fn:Func} (hf:P.funcs[f]?=some fn) {g:List CA→Option (List Prop×FS)}
 (h:∀cs pre r,g cs=some (pre,r)→aQ pre→∀(args:List Value) (w:World),bZ w cs args→Calls P f args.toArray w (fun e w'=>r.ok w e w')) (hn:(fn.name == "runtime.NumGoroutine")=false:=by kernel_rfl) (hb:fn.body.isNone=false:=by kernel_rfl):FsOk P (T.add f g):=hT.add hf hn hb h
theorem WrOk.add {P:Program} {T:Tab4} (hT:WrOk P T) {f:Nat} {fn:Func} (hf:P.funcs[f]?=some fn) (hn:(fn.name == "runtime.NumGoroutine")=false) (hb:fn.body.isNone=false) {g:List CA→Option (List Prop×Nat×List At)}
  (h:∀cs pre j l,g cs=some (pre,j,l)→aQ pre→∀(args:List Value) (w:World),bZ w cs args→∀b o n m,args[j]?=some (.slice (some ⟨b,o,none⟩) n m)→(∀q,w.frozen? ⟨b,q,none⟩=false) →
   Calls P f args.toArray w (fun e w'=>e=.returned (.slice (some ⟨b,o,none⟩) n m)∧WrAt w w' b l∧w'.rangeAt b o (aA l))):WrOk P (T.add f g):=by
 intro f' cs pre j l hg hp;unfold Tab4.add at hg;cases hb':Nat.beq f' f<;>rw[hb']at hg
 ·exact hT f' cs pre j l hg hp
 ·cases Nat.eq_of_beq_eq_true hb';exact⟨dT hf hn hb,h cs pre j l hg hp⟩
theorem WrOk.ad {P:Program} {T:Tab4} (hT:WrOk P T) {f:Nat} {fn:Func} (hf:P.funcs[f]?=some fn) {g:List CA→Option (List Prop×Nat×List At)}
 (h:∀cs pre j l,g cs=some (pre,j,l)→aQ pre→∀(args:List Value) (w:World),bZ w cs args→∀b o n m,args[j]?=some (.slice (some ⟨b,o,none⟩) n m)→(∀q,w.frozen? ⟨b,q,none⟩=false)→Calls P f args.toArray w (fun e w'=>e=.returned (.slice (some ⟨b,o,none⟩) n m)∧WrAt w w' b l∧w'.rangeAt b o (aA l))) (hn:(fn.name == "runtime.NumGoroutine")=false:=by kernel_rfl) (hb:fn.body.isNone=false:=by kernel_rfl):WrOk P (T.add f g):=hT.add hf hn hb h
theorem LW {P:Program} {x:Ext} {w:World} (h2:FrOk P x.T2) (ho:∀b o l,x.old b o l→oldOf w b o l) (h3:FsOk P x.T3) (h4:WrOk P x.T4) (h5:PtOk P x.T5:=by exact lK _) (h6:PbOk P x.T6:=by exact oO _):ExtOk P x w.heap.size w:=fun w' hb =>
 ⟨fun b o l h=>eK hb (ho b o l h).1 (ho b o l h).2,fun f cs pre r hg hp=>⟨(h2 f cs pre r hg hp).1,fun args ha=>(h2 f cs pre r hg hp).2 args w' ha⟩,
  fun f cs pre r hg hp=>⟨(h3 f cs pre r hg hp).1,fun args ha=>(h3 f cs pre r hg hp).2 args w' ha⟩,fun f cs pre j l hg hp=>⟨(h4 f cs pre j l hg hp).1,fun args ha=>(h4 f cs pre j l hg hp).2 args w' ha⟩,fun f cs pre j r l hg hp=>⟨(h5 f cs pre j r l hg hp).1,fun args ha=>(h5 f cs pre j r l hg hp).2 args w' ha⟩,fun f b row cs pre r l hg hp=>⟨(h6 f b row cs pre r l hg hp).1,fun args=>(h6 f b row cs pre r l hg hp).2 args w'⟩⟩
def FrAt (P:Program) (T:Tab2) (w:World):Prop:=∀f cs pre r,T f cs=some (pre,r)→aQ pre→(∀args w,(callFunc f args).run P w=.ok (.enter f args) w)∧∀(args:List Value),bZ w cs args→Calls P f args.toArray w (fun e w'=>r.ok w e w')
def FsAt (P:Program) (T:Tab3) (w:World):Prop:=∀f cs pre r,T f cs=some (pre,r)→aQ pre→(∀args w,(callFunc f args).run P w=.ok (.enter f args) w)∧∀(args:List Value),bZ w cs args→Calls P f args.toArray w (fun e w'=>r.ok w e w')
theorem FrAt.none (P:Program) (w:World):FrAt P TH w:=fun _ _ _ _ h=>by cases h
theorem FsAt.none (P:Program) (w:World):FsAt P TG w:=fun _ _ _ _ h=>by cases h
theorem FrAt.add {P:Program} {T:Tab2} {w:World} (hT:FrAt P T w) {f:Nat} {fn:Func} (hf:P.funcs[f]?=some fn) (hn:(fn.name == "runtime.NumGoroutine")=false) (hb:fn.body.isNone=false) {g:List CA→Option (List Prop×FR)}
  (h:∀cs pre r,g cs=some (pre,r)→aQ pre→∀(args:List Value),bZ w cs args→Calls P f args.toArray w (fun e w'=>r.ok w e w')):FrAt P (T.add f g) w:=by
 intro f' cs pre r hg hp;unfold Tab2.add at hg;cases hb':Nat.beq f' f<;>rw[hb']at hg
 ·exact hT f' cs pre r hg hp
 ·cases Nat.eq_of_beq_eq_true hb';exact⟨dT hf hn hb,h cs pre r hg hp⟩
theorem FsAt.add {P:Program} {T:Tab3} {w:World} (hT:FsAt P T w) {f:Nat} {fn:Func} (hf:P.funcs[f]?=some fn) (hn:(fn.name == "runtime.NumGoroutine")=false) (hb:fn.body.isNone=false) {g:List CA→Option (List Prop×FS)}
  (h:∀cs pre r,g cs=some (pre,r)→aQ pre→∀(args:List Value),bZ w cs args→Calls P f args.toArray w (fun e w'=>r.ok w e w')):FsAt P (T.add f g) w:=by
 intro f' cs pre r hg hp;unfold Tab3.add at hg;cases hb':Nat.beq f' f<;>rw[hb']at hg
 ·exact hT f' cs pre r hg hp
 ·cases Nat.eq_of_beq_eq_true hb';exact⟨dT hf hn hb,h cs pre r hg hp⟩
theorem LX {P:Program} {x:Ext} {base:Nat} {w:World} (ho:∀b o l,x.old b o l→b<base∧w.rangeAt b o (aA l)) (h2:∀w',Below base w w'→FrAt P x.T2 w') (h3:∀w',Below base w w'→FsAt P x.T3 w') (h4:WrOk P x.T4:=by exact sB _) (h5:PtOk P x.T5:=by exact lK _) (h6:PbOk P x.T6:=by exact oO _):ExtOk P x base w:=fun w' hb =>
 ⟨fun b o l h=>eK hb (ho b o l h).1 (ho b o l h).2,h2 w' hb,h3 w' hb,fun f cs pre j l hg hp=>⟨(h4 f cs pre j l hg hp).1,fun args ha=>(h4 f cs pre j l hg hp).2 args w' ha⟩,fun f cs pre j r l hg hp=>⟨(h5 f cs pre j r l hg hp).1,fun args ha=>(h5 f cs pre j r l hg hp).2 args w' ha⟩,fun f b row cs pre r l hg hp=>⟨(h6 f b row cs pre r l hg hp).1,fun args=>(h6 f b row cs pre r l hg hp).2 args w'⟩⟩
def qY (P:Program) (x:Ext):EqT:={ qG P with x:=x }
theorem EE {P:Program} {x:Ext} {w:World} (h2:FrOk P x.T2) (ho:∀b o l,x.old b o l→oldOf w b o l) (h3:FsOk P x.T3) (h4:WrOk P x.T4) (h5:PtOk P x.T5:=by exact lK _) (h6:PbOk P x.T6:=by exact oO _):dA P (qY P x) w.heap.size w:=⟨(aX P).1,LW h2 ho h3 h4 h5 h6⟩
def NH (P:Program) (A:List Fact):List ResultVar→Option FR
 | .tmp s::rest=>(match lC A s with
  | some (.sl k 0 n m)=>(match cE A k,lN P A rest with
   | some (true,l),some post=>some ⟨l,n,m,post⟩
   | _,_=>none)
  | _=>none)
 | _=>none
theorem pT {P:Program} {fn:Func} {A:List Fact} {r:FR} {w:World} (h:NH P A fn.results.toList=some r) {a:Act} {w':World} (hA:Holds fn.ntmps w.heap.size w A a w'):bodyPost P fn (fun e w'=>r.ok w e w') .ret a w':=by
 obtain⟨β,hok,_⟩:=hA.facts;unfold NH at h;split at h
 ·rename_i s rest hx;split at h
  ·rename_i k n m hl;split at h
   ·rename_i l post hr hp;cases h;obtain⟨g1,g2,g3,_⟩:=hok _ (aP hr);obtain⟨g4,g5,g6⟩:=g3 rfl;have hs:=hok _ (cW hl);simp only[Fact.ok,AV.den]at hs;rw[g5]at hs g2;have hv:a.tmps.getD s undef=.slice (some ⟨(β k).1,0,none⟩) n m:=by simp[hs]
    have h1:(mE a.tmps (.tmp s)).run P w'=.ok (.slice (some ⟨(β k).1,0,none⟩) n m) w':=by
     show (pure (a.tmps.getD s undef):Sem Value).run P w'=_;rw[hv]; rfl
    have h2:=fC hok hp;have hres:(results fn a.tmps).run P w'=.ok ((⟨l,n,m,post⟩:FR).val (β k).1) w':=by
     show ((fn.results.mapM (mE a.tmps)) >>= fun vs=>pure (if h:vs.size=1 then vs[0]else .tuple vs):Sem Value).run P w'=_;have hm:(List.toArray <$> fn.results.toList.mapM (mE a.tmps)).run P w'=.ok (.slice (some ⟨(β k).1,0,none⟩) n m::post.map TV.den).toArray w':=by
      rw[hx];simp[List.mapM_cons,h1,h2]
     rw[Array.mapM_eq_mapM_toList,Sem.run_bind,hm,Result.andThen_ok,Sem.run_pure];refine congrArg (fun x=>Result.ok x w') ?_;unfold FR.val;cases post with
     | nil=>rfl
     | cons t ts=>rw[dif_neg (by simp)]; rfl
    exact⟨hA.defers,_,hres,(β k).1,rfl,hA.below,g4,g1,g2,g6⟩
   ·cases h
  ·cases h
 ·cases h
theorem Holds.at {nt base:Nat} {w0:World} {A:List Fact} {a:Act} {w:World} (h:Holds nt base w0 A a w) {k:Nat} {l:List At} (hk:Fact.row k true l∈A):∃b,Holds nt base w0 (.at k b::A) a w:=by
 obtain⟨β,h1,h2,h3⟩:=h.facts;obtain⟨_,_,g3,_⟩:=h1 _ hk;have up:∀k1 o1 l1,Fact.row k1 o1 l1∈(Fact.at k (β k).1::A)→Fact.row k1 o1 l1∈A:=fun k1 o1 l1 e=>by
  rcases List.mem_cons.1 e with e|e
  ·cases e
  ·exact e
 refine⟨(β k).1,h.defers,h.size,h.below,h.heap,β,fun φ hφ => ?_,fun k1 k2 o2 l1 l2 e1 e2=>h2 k1 k2 o2 l1 l2 (up _ _ _ e1) (up _ _ _ e2),fun k1 l1 e=>h3.1 k1 l1 (up _ _ _ e),h3.2⟩
 rcases List.mem_cons.1 hφ with rfl|hφ
 ·exact⟨rfl,(g3 rfl).2.1⟩
 ·exact h1 φ hφ
end Go.Proofs.Ytjeplinbleofnaa.Ex
namespace Go.Proofs.Ytjeplinbleofnaa
open Go.Proofs.Try
open Go.RowKit
theorem LA:∃o:Obj,(∀w,(Instr.makeSlice 50 (.int .i64 32) (.int .i64 32)).run prog w=.ok (.slice (some ⟨w.heap.size,0,none⟩) 32 32) (w.alloc o))∧(∀(w:World) (b:Nat),b=w.heap.size→RowB (w.alloc o) b 32 (fun _=>0))∧(∀(w:World) (b:Nat),b=w.heap.size→∀j,(w.alloc o).frozen? ⟨b,j,none⟩=false):=by
 refine⟨.cells (Array.replicate 32 (.int .u8 0)) 5,fun _=>by kernel_rfl,fun w b hb k hk => ?_,fun w b hb j => ?_⟩
 ·subst hb;refine⟨?_,World.frozen?_alloc_new _ _ _ _⟩;rw[World.cell?_alloc_new];simp[hk]
 ·subst hb;exact World.frozen?_alloc_new _ _ _ _
set_option maxHeartbeats 1000000 in
theorem rX (a0 a1 a2 a3:Nat) (ha:bQ a0 a1 a2 a3) (w:World) :
  Calls prog 80 #[.agg #[.int .u64 a0,.int .u64 a1,.int .u64 a2,.int .u64 a3]] w (fun e w'=>∃b:Nat,e=.returned (.slice (some ⟨b,0,none⟩) 32 32)∧w.heap.size≤b∧b<w'.heap.size∧RowB w' b 32 (aS (aB a0 a1 a2 a3))∧Below w.heap.size w w'∧∀j,w'.frozen? ⟨b,j,none⟩=false):=by
 obtain⟨o,hmk,ho,hof⟩:=LA;have Hof:=Lib.hid hof;have hix:∀W,Row4 W w.heap.size a0 a1 a2 a3→RowIs W w.heap.size 4 (dG [a0,a1,a2,a3]):=fun W h=>h.rows
 have hP:=rN ha;have HA:=Lib.hid (yD a0 a1 a2 a3);have Ho:=Lib.hid ho;have R0:=Lib.hid ((RowIs.mk w 27 [a0,a1,a2,a3] w.heap.size rfl).alloc (by simp) o);have HP:=Lib.hid hP;clear ho hix hP hof;generalize dG [a0,a1,a2,a3]=P at *;rw[HA.out];clear HA;generalize hv:fT 18446744073709551616 P 4=A;have Hv:=Lib.hid hv;clear hv
 go_enter func80,ntmps80
 go_wp2_with fail
 go_loopw [6] (fun x wr=>∃i:Nat,i≤32∧x=.int .i64 i∧RowIs wr w.heap.size 4 P∧RowB wr (w.heap.size+1) 32 (fun p=>if 32≤p+i then aS A p else 0)∧Below w.heap.size w wr∧w.heap.size+1<wr.heap.size∧Hid (∀j,wr.frozen? ⟨w.heap.size+1,j,none⟩=false)) (fun x _=>32-(intOf x).toNat)
 case atStart =>
  refine⟨0,by omega,rfl,R0.out,(Ho.out _ _ (by simp)).ext (fun k hk=>by rw[if_neg (by omega)]),?_,by simp,Lib.hid (fun j=>Hof.out _ _ (by simp) j)⟩;exact ((Below.refl _ _).alloc (Nat.le_refl _) _).alloc (by simp) _
 case round =>
  obtain⟨i,hi,rfl,rP,rB,hb,hz,HF⟩:=hrel;have HB:=Lib.hid hb
  by_cases hlt:i<32
  ·obtain⟨j,m,s,p,q1,q2,q3,q4,hj,hm,hs,hp,e⟩:=NV hlt;have cx:=rP.cell hj;have cb:=(rB p hp).1;have fb:=(rB p hp).2;have lx:=HP.out j;obtain⟨t,e1,e2,lt⟩:=LZ (b:=aS A p) (s:=s) lx (by
    obtain⟨k1,k2,k3⟩:=e.out;rw[k2,AB P HP.out 4 j m hj hm,Hv.out,←k1];unfold aS;rw[k3,show 31-(31-i)=i by omega])
   have HrP:=Lib.hid rP;have HrB:=Lib.hid ((rB.set (v:=aS A p) hp).ext (R:=fun k=>if 32≤k+(i+1)then aS A k else 0) (fun k hk=>by
    obtain⟨k1,k2,k3⟩:=e.out;unfold oP
    by_cases h:k=p
    ·rw[if_pos h,if_pos (by omega),h]
    ·rw[if_neg h];show (if 32≤k+i then aS A k else 0)=_
     by_cases h':32≤k+i
     ·rw[if_pos h',if_pos (by omega)]
     ·rw[if_neg h',if_neg (by omega)]))
   have lb:=iS A p;generalize P j=x at *;generalize aS A p=b at *;clear rP rB hb e;go_wp2_with fail
   go_roundw
   case rel=>exact⟨i+1,by omega,by go_num,HrP.out.other (by omega) _,HrB.out,HB.out.setCell (p:=⟨w.heap.size+1,p,none⟩) (by simp) _,by rw[World.size_setCell]; exact hz,Lib.hid (fun j=>by rw[World.frozen?_setCell]; exact HF.out j)⟩
   case measure=>first|(simp[intOf]; done)|(simp[intOf]; omega)
  ·obtain rfl:i=32:=by omega
   have HrB:=Lib.hid (rB.ext (R:=aS A) (fun k hk=>by rw[if_pos (by omega)]));clear rB rP hb;go_wp2_with fail;go_ret;exact⟨w.heap.size+1,rfl,by omega,hz,HrB.out,HB.out,HF.out⟩
structure CR (R:Type) where
 add:R→R→R
 mul:R→R→R
 neg:R→R
 zero:R
 one:R
 add_assoc:∀a b c,add (add a b) c=add a (add b c)
 add_comm:∀a b,add a b=add b a
 zero_add:∀a,add zero a=a
 neg_add:∀a,add (neg a) a=zero
 mul_assoc:∀a b c,mul (mul a b) c=mul a (mul b c)
 mul_comm:∀a b,mul a b=mul b a
 one_mul:∀a,mul one a=a
 mul_add:∀a b c,mul a (add b c)=add (mul a b) (mul a c)
namespace CR
variable {R:Type} (K:CR R)
theorem add_left_comm (a b c:R):K.add a (K.add b c)=K.add b (K.add a c):=by rw[←K.add_assoc,K.add_comm a b,K.add_assoc]
theorem mul_left_comm (a b c:R):K.mul a (K.mul b c)=K.mul b (K.mul a c):=by rw[←K.mul_assoc,K.mul_comm a b,K.mul_assoc]
theorem add_mul (a b c:R):K.mul (K.add a b) c=K.add (K.mul a c) (K.mul b c):=by rw[K.mul_comm,K.mul_add,K.mul_comm c a,K.mul_comm c b]
theorem add_zero (a:R):K.add a K.zero=a:=by rw[K.add_comm,K.zero_add]
theorem add_neg (a:R):K.add a (K.neg a)=K.zero:=by rw[K.add_comm,K.neg_add]
theorem add_cancel {a b c:R} (h:K.add a b=K.add a c):b=c:=by
 have:=congrArg (K.add (K.neg a)) h
 rwa [←K.add_assoc,←K.add_assoc,K.neg_add,K.zero_add,K.zero_add]at this
theorem mul_zero (a:R):K.mul a K.zero=K.zero:=by
 apply K.add_cancel (a:=K.mul a K.zero);rw[←K.mul_add,K.add_zero,K.add_zero]
theorem zero_mul (a:R):K.mul K.zero a=K.zero:=by rw[K.mul_comm,K.mul_zero]
theorem mul_one (a:R):K.mul a K.one=a:=by rw[K.mul_comm,K.one_mul]
theorem neg_mul (a b:R):K.mul (K.neg a) b=K.neg (K.mul a b):=by
 apply K.add_cancel (a:=K.mul a b);rw[←K.add_mul,K.add_neg,K.zero_mul,K.add_neg]
theorem neg_neg (a:R):K.neg (K.neg a)=a:=by
 apply K.add_cancel (a:=K.neg a);rw[K.add_neg,K.neg_add]
theorem neg_add' (a b:R):K.neg (K.add a b)=K.add (K.neg a) (K.neg b):=by
 apply K.add_cancel (a:=K.add a b);rw[K.add_neg,K.add_assoc,K.add_left_comm b,K.add_neg,K.add_zero,K.add_neg]
theorem mul_neg (a b:R):K.mul a (K.neg b)=K.neg (K.mul a b):=by rw[K.mul_comm,K.neg_mul,K.mul_comm]
def sub (a b:R):R:=K.add a (K.neg b)
def sq (q:R):CR (R×R) where
 add x y:=(K.add x.1 y.1,K.add x.2 y.2)
 mul x y:=(K.add (K.mul x.1 y.1) (K.mul q (K.mul x.2 y.2)),K.add (K.mul x.1 y.2) (K.mul x.2 y.1))
 neg x:=(K.neg x.1,K.neg x.2)
 zero:=(K.zero,K.zero)
 one:=(K.one,K.zero)
 add_assoc a b c:=by simp only[K.add_assoc]
 add_comm a b:=by rw[K.add_comm a.1,K.add_comm a.2]
 zero_add a:=by simp only[K.zero_add]
 neg_add a:=by simp only[K.neg_add]
 mul_assoc a b c:=by
  simp only[K.mul_add,K.add_mul,K.mul_assoc,K.mul_left_comm,K.add_assoc,K.add_left_comm,K.add_comm]
 mul_comm a b:=by
  simp only[K.mul_comm,K.add_comm]
 one_mul a:=by simp only[K.one_mul,K.zero_mul,K.mul_zero,K.add_zero]
 mul_add a b c:=by
  simp only[K.mul_add,K.add_assoc,Prod.mk.injEq];constructor<;>(simp only[K.add_left_comm])
end CR
def ZE (M:Nat) (h:1<M):CR (Fin M) where
 add a b:=⟨(a.1+b.1)%M,Nat.mod_lt _ (by omega)⟩
 mul a b:=⟨a.1*b.1%M,Nat.mod_lt _ (by omega)⟩
 neg a:=⟨(0+M-a.1)%M,Nat.mod_lt _ (by omega)⟩
 zero:=⟨0,by omega⟩
 one:=⟨1,h⟩
 add_assoc a b c:=Fin.ext (by show ((a.1+b.1)%M+c.1)%M=(a.1+(b.1+c.1)%M)%M; rw[Nat.mod_add_mod,Nat.add_mod_mod,Nat.add_assoc])
 add_comm a b:=Fin.ext (by show (a.1+b.1)%M=(b.1+a.1)%M; rw[Nat.add_comm])
 zero_add a:=Fin.ext (by show (0+a.1)%M=a.1; rw[Nat.zero_add,Nat.mod_eq_of_lt a.2])
 neg_add a:=Fin.ext (by
  show ((0+M-a.1)%M+a.1)%M=0;have:=a.2;rw[Nat.mod_add_mod,show 0+M-a.1+a.1=M by omega,Nat.mod_self])
 mul_assoc a b c:=Fin.ext (by show a.1*b.1%M*c.1%M=a.1*(b.1*c.1%M)%M; rw[Nat.mod_mul_mod,Nat.mul_mod_mod,Nat.mul_assoc])
 mul_comm a b:=Fin.ext (by show a.1*b.1%M=b.1*a.1%M; rw[Nat.mul_comm])
 one_mul a:=Fin.ext (by show 1*a.1%M=a.1; rw[Nat.one_mul,Nat.mod_eq_of_lt a.2])
 mul_add a b c:=Fin.ext (by show a.1*((b.1+c.1)%M)%M=(a.1*b.1%M+a.1*c.1%M)%M; rw[Nat.mul_mod_mod,Nat.mul_add,Nat.add_mod])
end Go.Proofs.Ytjeplinbleofnaa
namespace Go.Proofs.Ytjeplinbleofnaa.Ex
open Go.Proofs.Try
inductive RE|v (i:Nat)|add (a b:RE)|mul (a b:RE)|neg (a:RE)|zero|one
instance:Add RE:=⟨.add⟩
instance:Mul RE:=⟨.mul⟩
instance:Neg RE:=⟨.neg⟩
instance:Sub RE:=⟨fun a b=>.add a (.neg b)⟩
abbrev Z0:RE:=.v 0
abbrev Z1:RE:=.v 1
abbrev Z2:RE:=.v 2
abbrev Z3:RE:=.v 3
abbrev Z4:RE:=.v 4
abbrev Z5:RE:=.v 5
abbrev Z6:RE:=.v 6
abbrev Z7:RE:=.v 7
abbrev Z8:RE:=.v 8
abbrev Z9:RE:=.v 9
abbrev Z10:RE:=.v 10
abbrev Z11:RE:=.v 11
section
variable {R:Type} (K:CR R) (env:Nat→R)
def RE.den:RE→R
 | .v i=>env i
 | .add a b=>K.add (a.den) (b.den)
 | .mul a b=>K.mul (a.den) (b.den)
 | .neg a=>K.neg a.den
 | .zero=>K.zero
 | .one=>K.one
def nt (x:R):Nat→R
 | 0=>K.zero
 | n+1=>K.add (nt x n) x
def zt (x:R):Int→R
 | .ofNat n=>nt K x n
 | .negSucc n=>K.neg (nt K x (n+1))
def mono:List Nat→R
 | []=>K.one
 | i::r=>K.mul (env i) (mono r)
def eO:List (Int×List Nat)→R
 | []=>K.zero
 | (c,m)::r=>K.add (zt K (mono K env m) c) (eO r)
end
def YY:List Nat→List Nat→Bool
 | [],[]=>false
 | [],_::_=>true
 | _::_,[]=>false
 | a::r,b::s=>bif Nat.blt a b then true else bif Nat.blt b a then false else YY r s
def VQ:List Nat→List Nat→Bool
 | [],[]=>true
 | a::r,b::s=>bif Nat.beq a b then VQ r s else false
 | _,_=>false
theorem GR:∀{a b:List Nat},VQ a b=true→a=b
 | [],[],_=>rfl
 | a::r,b::s,h=>by
  unfold VQ at h;cases hb:Nat.beq a b<;>rw[hb]at h
  ·cases h
  ·rw[Nat.eq_of_beq_eq_true hb,GR h]
 | [],_::_,h=>by cases h
 | _::_,[],h=>by cases h
def NS (c:Int) (m:List Nat):List (Int×List Nat)→List (Int×List Nat)
 | []=>[(c,m)]
 | (d,k)::r=>bif VQ m k then (c+d,k)::r else bif YY m k then (c,m)::(d,k)::r else (d,k)::NS c m r
def wB:List (Int×List Nat)→List (Int×List Nat)→List (Int×List Nat)
 | [],q=>q
 | (c,m)::r,q=>NS c m (wB r q)
def BG (i:Nat):List Nat→List Nat
 | []=>[i]
 | j::r=>bif Nat.ble i j then i::j::r else j::BG i r
def FG:List Nat→List Nat→List Nat
 | [],m=>m
 | i::r,m=>BG i (FG r m)
def tK (c:Int) (m:List Nat):List (Int×List Nat)→List (Int×List Nat)
 | []=>[]
 | (d,k)::r=>NS (c*d) (FG m k) (tK c m r)
def EP:List (Int×List Nat)→List (Int×List Nat)→List (Int×List Nat)
 | [],_=>[]
 | (c,m)::r,q=>wB (tK c m q) (EP r q)
def EO:List (Int×List Nat)→List (Int×List Nat)
 | []=>[]
 | (c,m)::r=>(-c,m)::EO r
def RE.norm:RE→List (Int×List Nat)
 | .v i=>[(1,[i])]
 | .add a b=>wB a.norm b.norm
 | .mul a b=>EP a.norm b.norm
 | .neg a=>EO a.norm
 | .zero=>[]
 | .one=>[(1,[])]
def YZ:List (Int×List Nat)→Bool
 | []=>true
 | (.ofNat 0,_)::r=>YZ r
 | _=>false
section
variable {R:Type} (K:CR R) (env:Nat→R)
theorem kZ (x:R) (n:Nat):∀m,nt K x (n+m)=K.add (nt K x n) (nt K x m)
 | 0=>(K.add_zero _).symm
 | m+1=>by show K.add (nt K x (n+m)) x=_; rw[kZ x n m,K.add_assoc]; rfl
theorem bW:K.neg K.zero=K.zero:=by
 apply K.add_cancel (a:=K.zero);rw[K.add_neg,K.add_zero]
theorem CT (x:R) (n m:Nat):zt K x (Int.subNatNat n m)=K.add (nt K x n) (K.neg (nt K x m)):=by
 unfold Int.subNatNat;split
 ·rename_i h;have:n=m+(n-m):=by omega
  show nt K x (n-m)=_
  conv=>rhs; rw[this,kZ]
  rw[K.add_comm (nt K x m),K.add_assoc,K.add_neg,K.add_zero]
 ·rename_i k h;have:m=n+(k+1):=by omega
  show K.neg (nt K x (k+1))=K.add (nt K x n) (K.neg (nt K x m));rw[this,kZ K x n (k+1),K.neg_add' (nt K x n),←K.add_assoc,K.add_neg,K.zero_add]
theorem CU (x:R) (a b:Int):zt K x (a+b)=K.add (zt K x a) (zt K x b):=by
 cases a with
 | ofNat n =>
  cases b with
  | ofNat m=>exact kZ K x n m
  | negSucc m=>exact CT K x n (m+1)
 | negSucc n =>
  cases b with
  | ofNat m=>show zt K x (Int.subNatNat m (n+1))=_; rw[CT,K.add_comm]; rfl
  | negSucc m =>
   show K.neg (nt K x (n+m+1+1))=K.add (K.neg (nt K x (n+1))) (K.neg (nt K x (m+1)));rw[←K.neg_add',←kZ,show n+1+(m+1)=n+m+1+1 by omega]
theorem jB (x:R) (a:Int):zt K x (-a)=K.neg (zt K x a):=by
 apply K.add_cancel (a:=zt K x a);rw[←CU,K.add_neg,Int.add_right_neg];rfl
theorem wE (x y:R) (n:Nat):∀m,K.mul (nt K x n) (nt K y m)=nt K (K.mul x y) (n*m)
 | 0=>K.mul_zero _
 | m+1=>by
  show K.mul _ (K.add (nt K y m) y)=_;rw[K.mul_add,wE x y n m,Nat.mul_add,Nat.mul_one,kZ];congr 1;clear wE
  induction n with
  | zero=>exact K.zero_mul _
  | succ n ih=>show K.mul (K.add (nt K x n) x) y=_; rw[K.add_mul,ih]; rfl
theorem OG (x y:R) (a b:Int):K.mul (zt K x a) (zt K y b)=zt K (K.mul x y) (a*b):=by
 have hn:∀(c:Int),∃n:Nat,c=n∨c = -(n:Int):=fun c=>⟨c.natAbs,Int.natAbs_eq c⟩
 have h0:∀n m:Nat,K.mul (zt K x n) (zt K y m)=zt K (K.mul x y) ((n:Int)*m):=fun n m=>by
  rw[←Int.natCast_mul]; exact wE K x y n m
 obtain⟨n,rfl|rfl⟩:=hn a
 ·obtain⟨m,rfl|rfl⟩:=hn b
  ·exact h0 n m
  ·rw[jB,K.mul_neg,h0,Int.mul_neg,jB]
 ·obtain⟨m,rfl|rfl⟩:=hn b
  ·rw[jB,K.neg_mul,h0,Int.neg_mul,jB]
  ·rw[jB,jB,K.neg_mul,K.mul_neg,K.neg_neg,h0,Int.neg_mul_neg]
theorem rG (c:Int) (m:List Nat):∀q,eO K env (NS c m q)=K.add (zt K (mono K env m) c) (eO K env q)
 | []=>rfl
 | (d,k)::r=>by
  unfold NS;cases he:VQ m k
  ·cases hl:YY m k
   ·show K.add (zt K (mono K env k) d) (eO K env (NS c m r))=K.add _ (K.add _ _);rw[rG c m r,K.add_left_comm]
   ·rfl
  ·rw[GR he];show K.add (zt K (mono K env k) (c+d)) (eO K env r)=K.add _ (K.add _ _);rw[CU,K.add_assoc]
theorem nL:∀p q,eO K env (wB p q)=K.add (eO K env p) (eO K env q)
 | [],q=>(K.zero_add _).symm
 | (c,m)::r,q=>by
  show eO K env (NS c m (wB r q))=K.add (K.add _ _) _;rw[rG,nL r q,K.add_assoc]
theorem uB (i:Nat):∀m,mono K env (BG i m)=K.mul (env i) (mono K env m)
 | []=>rfl
 | j::r=>by
  unfold BG;cases Nat.ble i j
  ·show K.mul (env j) (mono K env (BG i r))=K.mul _ (K.mul _ _);rw[uB i r,K.mul_left_comm]
  ·rfl
theorem tV:∀m k,mono K env (FG m k)=K.mul (mono K env m) (mono K env k)
 | [],k=>(K.one_mul _).symm
 | i::r,k=>by
  show mono K env (BG i (FG r k))=K.mul (K.mul _ _) _;rw[uB,tV r k,K.mul_assoc]
theorem pJ (c:Int) (m:List Nat):∀q,eO K env (tK c m q)=K.mul (zt K (mono K env m) c) (eO K env q)
 | []=>(K.mul_zero _).symm
 | (d,k)::r=>by
  show eO K env (NS (c*d) (FG m k) (tK c m r))=K.mul _ (K.add _ _);rw[rG,pJ c m r,K.mul_add,tV,OG]
theorem tJ:∀p q,eO K env (EP p q)=K.mul (eO K env p) (eO K env q)
 | [],q=>(K.zero_mul _).symm
 | (c,m)::r,q=>by
  show eO K env (wB (tK c m q) (EP r q))=K.mul (K.add _ _) _;rw[nL,pJ,tJ r q,K.add_mul]
theorem tI:∀p,eO K env (EO p)=K.neg (eO K env p)
 | []=>(bW K).symm
 | (c,m)::r=>by
  show K.add (zt K (mono K env m) (-c)) (eO K env (EO r))=K.neg (K.add _ _);rw[tI r,K.neg_add',jB]
theorem gA:∀e:RE,eO K env e.norm=e.den K env
 | .v i=>by show K.add (K.add K.zero (K.mul (env i) K.one)) K.zero=env i; rw[K.add_zero,K.zero_add,K.mul_one]
 | .add a b=>by show eO K env (wB _ _)=K.add _ _; rw[nL,gA a,gA b]
 | .mul a b=>by show eO K env (EP _ _)=K.mul _ _; rw[tJ,gA a,gA b]
 | .neg a=>by show eO K env (EO _)=K.neg _; rw[tI,gA a]
 | .zero=>rfl
 | .one=>by show K.add (K.add K.zero K.one) K.zero=K.one; rw[K.add_zero,K.zero_add]
theorem zE:∀p,YZ p=true→eO K env p=K.zero
 | [],_=>rfl
 | (.ofNat 0,m)::r,h=>by
  show K.add K.zero (eO K env r)=_;rw[K.zero_add];exact zE r h
 | (.ofNat (_+1),_)::_,h=>by cases h
 | (.negSucc _,_)::_,h=>by cases h
theorem aI (a b:RE) (h:YZ (RE.norm (.add a (.neg b)))=true):a.den K env=b.den K env:=by
 have:=zE K env _ h;rw[gA]at this;have h2:K.add (K.add (a.den K env) (K.neg (b.den K env))) (b.den K env)=K.add K.zero (b.den K env):=congrArg (fun x=>K.add x (b.den K env)) this
 rwa [K.add_assoc,K.neg_add,K.add_zero,K.zero_add]at h2
end
def bA {R:Type} (K:CR R) (l:List R) (i:Nat):R:=(l[i]?).getD K.zero
end Go.Proofs.Ytjeplinbleofnaa.Ex
