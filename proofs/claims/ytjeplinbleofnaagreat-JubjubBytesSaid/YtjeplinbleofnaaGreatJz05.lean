/- Jz05 -/
import Derived.KernelRfl
import Derived.Laws.StructEq
import Derived.Test.YtjeplinbleofnaaGreatJz04
import Derived.Test.YtjeplinbleofnaaGreatJz02
import Derived.Test.YtjeplinbleofnaaGreatProg
set_option maxRecDepth 100000
set_option linter.unusedVariables false
set_option linter.unusedSimpArgs false
set_option linter.unnecessarySimpa false
namespace Go.Proofs.YtjeplinbleofnaaGreat.Ex
open Go.Proofs.Tryz
open Go.RowKit
def gV (dst kill:Option Nat):Fact→Bool
 | .slot s v=>gN dst s||(match v.key with|some k=>gN dst k|none=>false)
 | .row k _ _=>gN dst k||gN kill k
 | .at k _=>gN dst k
 | .app k _ _ _=>gN dst k
structure Rec where
 M:List (Option Nat×Fact)
 dst:Option Nat
 kill:Option Nat
def RO (draw:Bool) (ops:Array Oper) (i j:Nat):Bool :=
 bif draw then (match ops[i]? with|some o=>o.after.toList.any (fun e=>Region.binds .any e&&Nat.beq e.on j)|none=>false)else Nat.blt j i
def ZF (φ:Fact):List Rec→Nat→Option Nat→Bool
 | [],_,_=>true
 | r::rs,j,b=>(bif (match b with|none=>true|some b'=>Nat.blt b' j)then !(gV r.dst r.kill φ)else true)&&ZF φ rs (j+1) b
def MJ (draw:Bool) (ops:Array Oper) (i:Nat) (rs:List Rec) (x:Option Nat×Fact):Bool :=
 (match x.1 with|none=>true|some b=>RO draw ops i b)&&ZF x.2 rs 0 x.1
def tmps:List Operand→List Nat
 | []=>[]
 | .tmp s::r=>s::tmps r
 | _::r=>tmps r
def TQ (ops:Array Oper) (o:Oper):List Nat :=
 match o.guard with
 | some (g,_)=>(match (ops[g]?).bind (·.dst)with|some s=>s::tmps o.op.operands.toList|none=>tmps o.op.operands.toList)
 | none=>tmps o.op.operands.toList
def Iu:Op→Bool
 | .load _ _=>true
 | .store _ _ _=>true
 | .call _=>true
 | _=>false
def oW (l:List Nat):List (Option Nat×Fact)→List Nat
 | []=>[]
 | (_,.slot s v)::r=>bif l.any (Nat.beq s)then (match v.key with|some k=>k::oW l r|none=>oW l r)else oW l r
 | _::r=>oW l r
def Ov (l ks:List Nat) (x:Option Nat×Fact):Bool :=
 match x.2 with
 | .slot s _=>l.any (Nat.beq s)
 | .row k _ _=>ks.any (Nat.beq k)
 | .at _ _=>true
 | .app k _ _ _=>ks.any (Nat.beq k)
def Km:Op→Bool
 | .call c=>(match c.callee with | .value (.tmp _)=>true|_=>false)
 | _=>false
def Qw (ops:Array Oper) (o:Oper) (M:List (Option Nat×Fact)):List (Option Nat×Fact) :=
 match TQ ops o with
 | l=>match (bif Iu o.op then (bif Km o.op then 0::oW l M else oW l M)else [])with
  | ks=>M.filter (Ov l ks)
theorem TS {ops:Array Oper} {o:Oper} {M:List (Option Nat×Fact)} {x:Option Nat×Fact} (h:x∈Qw ops o M):x∈M:=(List.mem_filter.1 h).1
def tG (E:Env) (draw:Bool) (ops:Array Oper):List Oper→Nat→List (Option Nat×Fact)→List Rec→List Prop→Option (List Prop×List (Option Nat×Fact)×List Rec)
 | [],_,TF,rs,ps=>some (ps,TF,rs)
 | o::rest,i,TF,rs,ps =>
  match Qw ops o (TF.filter (MJ draw ops i rs))with
  | M=>match Gh E ops (M.map (·.2)) o with
   | some (pre,out,kill)=>tG E draw ops rest (i+1) (out.map (fun φ=>(some i,φ))++TF) (rs++[⟨M,o.dst,kill⟩]) (ps++pre)
   | none=>none
def mR {α:Type} (p:Nat→α→Bool):Nat→List α→Bool
 | _,[]=>true
 | k,x::r=>p k x&&mR p (k+1) r
theorem fT {α:Type} {p:Nat→α→Bool}:∀{l:List α} {k:Nat},mR p k l=true→∀i x,l[i]?=some x→p (k+i) x=true
 | [],k,_,i,x,hx=>by simp at hx
 | y::r,k,h,i,x,hx=>by
  unfold mR at h;rw[Bool.and_eq_true]at h;cases i with
  | zero=>cases hx; exact h.1
  | succ i =>
   have:=fT h.2 i x (by simpa using hx)
   rwa [show k+1+i=k+(i+1) by omega]at this
def IA (draw:Bool) (ops:Array Oper) (x:Option Nat×Fact) (j:Nat) (r:Rec):Bool :=
 gN x.1 j||(!(gV r.dst r.kill x.2)||(match x.1 with|some b=>RO draw ops b j|none=>false))
def Fb (draw:Bool) (ops:Array Oper) (rs:List Rec):Bool :=
 mR (fun i r=>r.M.all fun x=>mR (fun j r'=>Nat.beq j i||(RO draw ops j i||IA draw ops x j r')) 0 rs) 0 rs
def Ka (draw:Bool) (ops:Array Oper):Bool :=
 bif draw then mR (fun i (o:Oper)=>o.after.toList.all fun e => !(Region.binds .any e)||Nat.blt e.on i) 0 ops.toList else true
def PU (draw:Bool) (ops:Array Oper) (rs:List Rec) (x:Option Nat×Fact):Bool:=mR (fun j r=>IA draw ops x j r) 0 rs
def JD (E:Env) (draw:Bool) (ops:Array Oper) (A:List Fact):Option (List Prop×List Fact) :=
 match tG E draw ops ops.toList 0 (A.map fun φ=>(none,φ)) [] []with
 | some (ps,TF,rs)=>bif Fb draw ops rs&&Ka draw ops then some (ps,(TF.filter (PU draw ops rs)).map (·.2))else none
 | none=>none
section
variable {E:Env} {draw:Bool} {ops:Array Oper}
theorem lK:∀{rem:List Oper} {i:Nat} {TF TF':List (Option Nat×Fact)} {rs rs':List Rec} {ps ps':List Prop},tG E draw ops rem i TF rs ps=some (ps',TF',rs')→rs.length=i →
  (∀x∈TF,x∈TF')∧(∀x∈TF',x∈TF∨∃b,x.1=some b∧i≤b∧b<i+rem.length)∧(aP ps'→aP ps)∧(∀j,j<i→rs'[j]?=rs[j]?)∧rs'.length=i+rem.length ∧
  ∀j o,rem[j]?=some o→∃r pre out,rs'[i+j]?=some r∧r.dst=o.dst∧Gh E ops (r.M.map (·.2)) o=some (pre,out,r.kill)∧(aP ps'→aP pre) ∧
   (∀x∈r.M,x∈TF'∧∀b,x.1=some b→RO draw ops (i+j) b=true)∧∀φ,(some (i+j),φ)∈TF'→(some (i+j),φ)∈TF∨φ∈out
 | [],i,TF,TF',rs,rs',ps,ps',h,hl=>by
  cases h;exact⟨fun _ h=>h,fun _ h=>Or.inl h,fun h=>h,fun _ _=>rfl,by simp[hl],fun j o ho=>by simp at ho⟩
 | o::rest,i,TF,TF',rs,rs',ps,ps',h,hl=>by
  unfold tG at h;simp only at h;split at h
  ·rename_i pre out kill ho;obtain⟨h1,h2,h3,h4,h5,h6⟩:=lK h (by simp[hl]);have hps:aP ps'→aP ps∧aP pre:=fun h=>cZ.1 (h3 h)
   refine⟨fun x hx=>h1 x (List.mem_append_right _ hx),fun x hx => ?_,fun h=>(hps h).1,fun j hj => ?_,by rw[h5]; simp; omega,?_⟩
   ·rcases h2 x hx with hx|⟨b,hb,hi,hlt⟩
    ·rcases List.mem_append.1 hx with hx|hx
     ·obtain⟨φ,_,rfl⟩:=List.mem_map.1 hx;exact Or.inr ⟨i,rfl,Nat.le_refl _,by simp⟩
     ·exact Or.inl hx
    ·exact Or.inr ⟨b,hb,by omega,by simp; omega⟩
   ·rw[h4 j (by omega),List.getElem?_append_left (by omega)]
   ·intro j o' hj;cases j with
    | zero =>
     cases hj;refine⟨_,pre,out,by rw[Nat.add_zero,h4 i (by omega),List.getElem?_append_right (by omega),hl,Nat.sub_self]; rfl,rfl,ho,fun h=>(hps h).2,fun x hx => ?_,fun φ hφ => ?_⟩
     ·obtain⟨hx1,hx2⟩:=List.mem_filter.1 (TS hx);refine⟨h1 x (List.mem_append_right _ hx1),fun b hb => ?_⟩;unfold MJ at hx2;rw[hb]at hx2;simp only[Bool.and_eq_true]at hx2;exact hx2.1
     ·rcases h2 _ hφ with hx|⟨b,hb,hi,hlt⟩
      ·rcases List.mem_append.1 hx with hx|hx
       ·obtain⟨ψ,hψ,e⟩:=List.mem_map.1 hx;cases e;exact Or.inr hψ
       ·exact Or.inl hx
      ·simp only[Nat.add_zero,Option.some.injEq]at hb;omega
    | succ j =>
     obtain⟨r,pre',out',e1,e2,e3,e4,e5,e6⟩:=h6 j o' (by simpa using hj);rw[show i+1+j=i+(j+1) by omega]at e1 e5 e6;refine⟨r,pre',out',e1,e2,e3,e4,e5,fun φ hφ => ?_⟩
     rcases e6 φ hφ with hx|hx
     ·rcases List.mem_append.1 hx with hx|hx
      ·obtain⟨ψ,hψ,e⟩:=List.mem_map.1 hx;simp only[Prod.mk.injEq,Option.some.injEq]at e;omega
      ·exact Or.inl hx
     ·exact Or.inr hx
  ·cases h
def iJ (draw:Bool) (ops:Array Oper) (rs:List Rec) (G:Nat→Prop) (x:Option Nat×Fact):Prop :=
 (∀b,x.1=some b→G b)∧∀j r,rs[j]?=some r→G j→x.1≠some j→gV r.dst r.kill x.2=true→∃b,x.1=some b∧RO draw ops b j=true
structure Tail (nt base:Nat) (w0:World) (β:Nat→Bk) (w:World):Prop where
 size:(β nt).1≤w.heap.size
 mem:∀p:Addr,base<p.block→p.block<(β nt).1→w.cell? p=w0.cell? p∧w.frozen? p=w0.frozen? p
 shape:Shape w0 w
structure Inv (E:Env) (draw:Bool) (ops:Array Oper) (base:Nat) (w0:World) (TF:List (Option Nat×Fact)) (rs:List Rec) (G:Nat→Prop) (a:Act) (w:World):Prop where
 defers:a.defers=[]
 size:a.tmps.size=E.nt
 below:Below base w0 w
 heap:base≤w.heap.size
 closed:∀i j,G i→RO draw ops i j=true→G j
 facts:∃β:Nat→Bk,(∀x∈TF,iJ draw ops rs G x→x.2.ok base β a w) ∧
  (∀x∈TF,∀y∈TF,iJ draw ops rs G x→iJ draw ops rs G y→∀k k' o' l l',x.2=.row k true l→y.2=.row k' o' l'→k≠k'→(β k).1≠(β k').1) ∧
  (∀x∈TF,iJ draw ops rs G x→∀k l,x.2=.row k true l→(β k).1=base∨(β E.nt).1≤(β k).1)∧Tail E.nt base w0 β w
theorem Dd {base:Nat} {β β':Nat→Bk} {a a':Act} {w w':World} {dst kill:Option Nat} {M out:List Fact} (hP:PostB base β β' a w dst M out kill a' w') {φ:Fact} (h:φ.ok base β a w) (hc:gV dst kill φ=false)
  (hk:∀kk k qO l,kill=some kk→φ=.row k qO l→(β kk).1≠(β k).1):φ.ok base β' a' w':=by
 cases φ with
 | slot s v =>
  simp only[gV,Bool.or_eq_false_iff]at hc;have h1:dst≠some s:=fun e=>by have:=cS.2 e; rw[hc.1]at this; cases this
  have h2:∀k,v.key=some k→β' k=β k:=fun k hv=>hP.beta k fun e=>by
   have h3:=hc.2;rw[hv]at h3;have:=cS.2 e;simp only at h3;rw[h3]at this; cases this
  show a'.tmps[s]?=_;rw[hP.tmps s h1,AV.den_eq v h2];exact h
 | row k qO l =>
  simp only[gV,Bool.or_eq_false_iff]at hc;have h1:dst≠some k:=fun e=>by have:=cS.2 e; rw[hc.1]at this; cases this
  obtain⟨g1,g2,g3,g4⟩:=h;have hm:∀j,w'.cell? ⟨(β k).1,j,none⟩=w.cell? ⟨(β k).1,j,none⟩∧w'.frozen? ⟨(β k).1,j,none⟩=w.frozen? ⟨(β k).1,j,none⟩:=fun j=>hP.mem ⟨(β k).1,j,none⟩ g1 fun kk hkk e=>hk kk k qO l hkk rfl e.symm
  refine⟨?_,?_,?_,g4⟩<;>rw[hP.beta k h1]
  ·exact Nat.lt_of_lt_of_le g1 hP.heap
  ·intro j v hj;rw[(hm _).1];exact g2 j v hj
  ·exact fun ho=>⟨(g3 ho).1,(g3 ho).2.1,fun j=>by rw[(hm _).2]; exact (g3 ho).2.2 j⟩
 | «at» k b =>
  have h1:dst≠some k:=fun e=>by have:=cS.2 e; rw[show gN dst k=false from hc]at this; cases this
  show (β' k).1=b∧(β' k).2.1=0;rw[hP.beta k h1];exact h
 | app k e sz n =>
  have h1:dst≠some k:=fun e=>by have:=cS.2 e; rw[show gN dst k=false from hc]at this; cases this
  show AppAt w' (β' k).1 e sz n (β' k).2.2;rw[hP.beta k h1];exact AppAt.shape hP.shape h
theorem rC {base:Nat} {w0:World} {A:List Fact} {TF:List (Option Nat×Fact)} {rs:List Rec} {ps:List Prop} (hT:∀d,TabOkW E.P (E.T d) base w0) (hq:dH E.P E.q base w0)
  (hrun:tG E draw ops ops.toList 0 (A.map fun φ=>(none,φ)) [] []=some (ps,TF,rs)) (hps:aP ps) (hchk:Fb draw ops rs=true) {Q:Exit→Act→World→Prop}
  {G:Nat→Prop} {a:Act} {w:World} (hI:Inv E draw ops base w0 TF rs G a w) {i:Nat} {o:Oper} (ho:ops[i]?=some o) (hi:¬G i) (hdeps:∀j,RO draw ops i j=true→G j) :
  if Region.wanted o (yielded ops a.tmps)=true then o.wp E.P a w (Inv E draw ops base w0 TF rs (fun j=>j=i∨G j)) Q else Inv E draw ops base w0 TF rs (fun j=>j=i∨G j) (a.put o.dst undef) w:=by
 obtain⟨_,_,_,_,_,hops⟩:=lK hrun rfl;obtain⟨r,pre,out,hr,hdst,hop,hpre,hM,hborn⟩:=hops i o (by simpa using ho);rw[Nat.zero_add]at hr hM hborn;obtain⟨β,hok,hinj,hown,htl⟩:=hI.facts;have hMv:∀x∈r.M,iJ draw ops rs G x:=fun x hx=>by
  refine⟨fun b hb=>hdeps b ((hM x hx).2 b hb),fun j r' hj hG hne hcl => ?_⟩;have h1:=fT hchk i r hr;rw[List.all_eq_true]at h1;have h2:=fT (h1 x hx) j r' hj;rw[Nat.zero_add,Nat.zero_add]at h2;rw[Bool.or_eq_true,Bool.or_eq_true]at h2
  rcases h2 with h2|h2|h2
  ·exact absurd (Nat.eq_of_beq_eq_true h2▸hG) hi
  ·exact absurd (hI.closed j i hG h2) hi
  ·unfold IA at h2;rw[Bool.or_eq_true,Bool.or_eq_true,hcl]at h2
   rcases h2 with h2|h2|h2
   ·exact absurd (cS.1 h2) hne
   ·cases h2
   ·split at h2
    ·rename_i b hb; exact⟨b,hb,h2⟩
    ·cases h2
 refine OU (ops:=ops) (fun d=>hT d w hI.below) (hq.2 w hI.below) hq.1 (M:=r.M.map (·.2)) (out:=out) (kill:=r.kill) (β:=β) (base:=base) (fun φ hφ => ?_) hI.heap hI.size (fun β' a' w' hP => ?_) hop (hpre hps)
 ·obtain⟨x,hx,rfl⟩:=List.mem_map.1 hφ;exact hok x (hM x hx).1 (hMv x hx)
 have hnt:β' E.nt=β E.nt:=hP.beta E.nt fun e=>Nat.lt_irrefl _ (Cf hop e)
 have hrowM:∀k l0,Fact.row k true l0∈r.M.map (·.2)→∃x∈TF,iJ draw ops rs G x∧x.2=.row k true l0:=fun k l0 h=>by
  obtain⟨x,hx,e⟩:=List.mem_map.1 h;exact⟨x,(hM x hx).1,hMv x hx,e⟩
 have hkill:∀x∈TF,iJ draw ops rs G x→gV o.dst r.kill x.2=false→∀kk k qO l,r.kill=some kk→x.2=.row k qO l→(β kk).1≠(β k).1:=fun x hx hv hc kk k qO l hkk hφ=>by
  obtain⟨l0,hl0⟩:=hP.kills kk hkk;obtain⟨y,hy,hyv,hye⟩:=hrowM kk l0 hl0;have hne:kk≠k:=fun e=>by
   rw[hφ]at hc;simp only[gV,Bool.or_eq_false_iff]at hc;have:=cS.2 (e▸hkk:r.kill=some k);rw[hc.2]at this; cases this
  exact hinj y hy x hx hyv hv kk k qO l0 l hye hφ hne
 have hold:∀x∈TF,iJ draw ops rs (fun j=>j=i∨G j) x→x.1≠some i→iJ draw ops rs G x∧gV o.dst r.kill x.2=false:=fun x hx hv hne=>by
  refine⟨⟨fun b hb=>(hv.1 b hb).resolve_left fun e=>hne (by rw[hb,e]),fun j r' hj hG=>hv.2 j r' hj (Or.inr hG)⟩,?_⟩;cases hc:gV o.dst r.kill x.2 with
  | false=>rfl
  | true =>
   obtain⟨b,hb,hd⟩:=hv.2 i r hr (Or.inl rfl) hne (by rw[hdst]; exact hc);exact absurd (hI.closed b i ((hv.1 b hb).resolve_left fun e=>hne (by rw[hb,e])) hd) hi
 have hnew:∀x∈TF,x.1=some i→x.2∈out:=fun x hx e=>by
  obtain⟨b,φ⟩:=x;simp only at e;subst e
  rcases hborn φ hx with h|h
  ·obtain⟨ψ,_,e⟩:=List.mem_map.1 h;cases e
  ·exact h
 have hβ:∀x∈TF,iJ draw ops rs (fun j=>j=i∨G j) x→x.1≠some i→∀k qO l,x.2=.row k qO l→β' k=β k:=fun x hx hv hne k qO l hφ=>by
  obtain⟨_,hc⟩:=hold x hx hv hne;rw[hφ]at hc;simp only[gV,Bool.or_eq_false_iff]at hc;exact hP.beta k fun e=>by have:=cS.2 e; rw[hc.1]at this; cases this
 have hno:∀x∈TF,∀y∈TF,x.1=some i→iJ draw ops rs (fun j=>j=i∨G j) y→y.1≠some i→∀k k' o' l l',x.2=.row k true l→y.2=.row k' o' l'→k≠k'→(β' k).1≠(β' k').1:=fun x hx y hy hxi hyv hyi k k' o' l l' hxe hye hkk=>by
  obtain⟨hyo,_⟩:=hold y hy hyv hyi;rw[hβ y hy hyv hyi k' o' l' hye];have h1:=hnew x hx hxi;rw[hxe]at h1
  rcases hP.rows k l h1 with⟨h2,_⟩|⟨h2,l0,h3⟩|⟨h2,k0,l0,hk0,he,h3⟩
  ·have h4:=hok y hy hyo;rw[hye]at h4;have:=h4.1;omega
  ·obtain⟨z,hz,hzv,hze⟩:=hrowM k l0 h3;rw[hP.beta k h2];exact hinj z hz y hy hzv hyo k k' o' l0 l' hze hye hkk
  ·obtain⟨z,hz,hzv,hze⟩:=hrowM k0 l0 h3;rw[he];refine hinj z hz y hy hzv hyo k0 k' o' l0 l' hze hye fun e => ?_
   subst e;have hc:=(hold y hy hyv hyi).2;rw[hye]at hc;simp only[gV,Bool.or_eq_false_iff]at hc;have:=cS.2 hk0;rw[hc.2]at this; cases this
 refine⟨by rw[hP.defers]; exact hI.defers,by rw[hP.size]; exact hI.size,hP.below w0 hI.below,Nat.le_trans hI.heap hP.heap,?_,β',?_,?_,?_,?_⟩
 ·intro p q hp hpq
  rcases hp with rfl|hp
  ·exact Or.inr (hdeps q hpq)
  ·exact Or.inr (hI.closed p q hp hpq)
 ·intro x hx hv
  by_cases e:x.1=some i
  ·exact hP.ok _ (hnew x hx e)
  ·obtain⟨h1,h2⟩:=hold x hx hv e;exact Dd hP (hok x hx h1) h2 (hkill x hx h1 h2)
 ·intro x hx y hy hxv hyv k k' o' l l' hxe hye hkk
  by_cases e1:x.1=some i
  ·by_cases e2:y.1=some i
   ·have h1:=hnew x hx e1;have h2:=hnew y hy e2;rw[hxe]at h1;rw[hye]at h2;cases o' with
    | true=>exact absurd (hP.one k k' l l' h1 h2) hkk
    | false=>exact (hP.onlyOwn k' l' h2).elim
   ·exact hno x hx y hy e1 hyv e2 k k' o' l l' hxe hye hkk
  ·by_cases e2:y.1=some i
   ·cases o' with
    | true=>exact fun e=>hno y hy x hx e2 hxv e1 k' k true l' l hye hxe (Ne.symm hkk) e.symm
    | false=>exact (hP.onlyOwn k' l' (hye▸hnew y hy e2)).elim
   ·rw[hβ x hx hxv e1 k true l hxe,hβ y hy hyv e2 k' o' l' hye];exact hinj x hx y hy (hold x hx hxv e1).1 (hold y hy hyv e2).1 k k' o' l l' hxe hye hkk
 ·intro x hx hv k l hxe;rw[hnt]
  by_cases e:x.1=some i
  ·have h1:=hnew x hx e;rw[hxe]at h1
   rcases hP.rows k l h1 with⟨h2,_⟩|⟨h2,l0,h3⟩|⟨h2,k0,l0,hk0,he,h3⟩
   ·exact Or.inr (Nat.le_trans htl.size h2)
   ·obtain⟨z,hz,hzv,hze⟩:=hrowM k l0 h3;rw[hP.beta k h2];exact hown z hz hzv k l0 hze
   ·obtain⟨z,hz,hzv,hze⟩:=hrowM k0 l0 h3;rw[he];exact hown z hz hzv k0 l0 hze
  ·rw[hβ x hx hv e k true l hxe];exact hown x hx (hold x hx hv e).1 k l hxe
 ·refine⟨by rw[hnt]; exact Nat.le_trans htl.size hP.heap,fun p h1 h2 => ?_,htl.shape.trans hP.shape⟩;rw[hnt]at h2;have h3:=hP.mem p (Nat.lt_of_lt_of_le h2 htl.size) fun kk hkk e=>by
   obtain⟨l0,hl0⟩:=hP.kills kk hkk;obtain⟨z,hz,hzv,hze⟩:=hrowM kk l0 hl0
   rcases hown z hz hzv kk l0 hze with h4|h4<;>omega
  have h4:=htl.mem p h1 h2;exact⟨h3.1.trans h4.1,h3.2.trans h4.2⟩
end
structure Holds (nt base:Nat) (w0:World) (A:List Fact) (a:Act) (w:World):Prop where
 defers:a.defers=[]
 size:a.tmps.size=nt
 below:Below base w0 w
 heap:base≤w.heap.size
 facts:∃β:Nat→Bk,(∀φ∈A,φ.ok base β a w)∧(∀k k' o' l l',Fact.row k true l∈A→Fact.row k' o' l'∈A→k≠k'→(β k).1≠(β k').1)∧(∀k l,Fact.row k true l∈A→(β k).1=base∨(β nt).1≤(β k).1)∧Tail nt base w0 β w
theorem Holds.drew {nt base:Nat} {w0:World} {A:List Fact} {a:Act} {w:World} (h:Holds nt base w0 A a w):Holds nt base w0 A a w.drew :=
 h.facts.elim fun β hβ=>⟨h.defers,h.size,h.below.drew,h.heap,β,hβ.1,hβ.2.1,hβ.2.2.1,hβ.2.2.2.size,hβ.2.2.2.mem,hβ.2.2.2.shape.trans (Shape.drew _)⟩
section
variable {E:Env} {draw:Bool} {ops:Array Oper} {base:Nat} {w0:World} {A A':List Fact} {TF:List (Option Nat×Fact)} {rs:List Rec} {ps:List Prop} {a:Act} {w:World} {Q:Exit→Act→World→Prop}
theorem oH (hrun:tG E draw ops ops.toList 0 (A.map fun φ=>(none,φ)) [] []=some (ps,TF,rs)) (h:Holds E.nt base w0 A a w):Inv E draw ops base w0 TF rs (fun _=>False) a w:=by
 obtain⟨_,h2,_⟩:=lK hrun rfl;obtain⟨β,hok,hinj,hown,htl⟩:=h.facts;have hA:∀x∈TF,iJ draw ops rs (fun _=>False) x→x.2∈A:=fun x hx hv=>by
  rcases h2 x hx with hx|⟨b,hb,_⟩
  ·obtain⟨φ,hφ,rfl⟩:=List.mem_map.1 hx;exact hφ
  ·exact (hv.1 b hb).elim
 exact⟨h.defers,h.size,h.below,h.heap,fun _ _ h=>h.elim,β,fun x hx hv=>hok _ (hA x hx hv),fun x hx y hy hxv hyv k k' o' l l' hxe hye hkk=>hinj k k' o' l l' (hxe▸hA x hx hxv) (hye▸hA y hy hyv) hkk,fun x hx hv k l hxe=>hown k l (hxe▸hA x hx hv),htl⟩
theorem wR (hrun:tG E draw ops ops.toList 0 (A.map fun φ=>(none,φ)) [] []=some (ps,TF,rs)) {G:Nat→Prop} (hG:∀i,i<ops.size→G i) (h:Inv E draw ops base w0 TF rs G a w) :
  Holds E.nt base w0 ((TF.filter (PU draw ops rs)).map (·.2)) a w:=by
 obtain⟨_,h2,_⟩:=lK hrun rfl;obtain⟨β,hok,hinj,hown,htl⟩:=h.facts;have hv:∀φ∈(TF.filter (PU draw ops rs)).map (·.2),∃x∈TF,iJ draw ops rs G x∧x.2=φ:=fun φ hφ=>by
  obtain⟨x,hx,rfl⟩:=List.mem_map.1 hφ;obtain⟨h3,h4⟩:=List.mem_filter.1 hx;refine⟨x,h3,⟨fun b hb => ?_,fun j r hj _ hne hc => ?_⟩,rfl⟩
  ·rcases h2 x h3 with h5|⟨b',hb',_,hlt⟩
   ·obtain⟨ψ,_,rfl⟩:=List.mem_map.1 h5;cases hb
   ·rw[hb']at hb;cases hb;exact hG b (by simpa using hlt)
  ·have h5:=fT h4 j r hj;rw[Nat.zero_add]at h5;unfold IA at h5;rw[Bool.or_eq_true,Bool.or_eq_true,hc]at h5
   rcases h5 with h5|h5|h5
   ·exact absurd (cS.1 h5) hne
   ·cases h5
   ·split at h5
    ·rename_i b hb; exact⟨b,hb,h5⟩
    ·cases h5
 refine⟨h.defers,h.size,h.below,h.heap,β,fun φ hφ => ?_,fun k k' o' l l' hk hk' hne => ?_,fun k l hk => ?_,htl⟩
 ·obtain⟨x,h1,h2,rfl⟩:=hv φ hφ;exact hok x h1 h2
 ·obtain⟨x,h1,h2,e1⟩:=hv _ hk;obtain⟨y,h3,h4,e2⟩:=hv _ hk';exact hinj x h1 y h3 h2 h4 k k' o' l l' e1 e2 hne
 ·obtain⟨x,h1,h2,e1⟩:=hv _ hk;exact hown x h1 h2 k l e1
def fr:Nat→Array Bool→Nat
 | 0,_=>0
 | n+1,g=>fr n g+(bif g.getD n false then 0 else 1)
theorem GK:∀{n:Nat} {g:Array Bool},fr n g=0→∀i,i<n→g.getD i false=true
 | 0,g,_,i,hi=>by omega
 | n+1,g,h,i,hi=>by
  unfold fr at h
  by_cases e:i=n
  ·subst e;cases hb:g.getD i false
   ·rw[hb]at h; simp at h
   ·rfl
  ·exact GK (n:=n) (by omega) i (by omega)
theorem zO {g:Array Bool} {i j:Nat} (hi:i<g.size):(g.setIfInBounds i true).getD j false=true↔j=i∨g.getD j false=true:=by
 by_cases e:j=i
 ·subst e; simp[Array.getD,hi]
 ·have:¬i=j:=fun h=>e h.symm
  simp[Array.getD_eq_getD_getElem?,Array.getElem?_setIfInBounds_ne this,e]
theorem QP:∀{n:Nat} {g:Array Bool} {i:Nat},n≤i→fr n (g.setIfInBounds i true)=fr n g
 | 0,_,_,_=>rfl
 | n+1,g,i,h=>by
  have:¬i=n:=by omega
  unfold fr;rw[QP (by omega)];simp[Array.getD_eq_getD_getElem?,Array.getElem?_setIfInBounds_ne this]
theorem QO:∀{n:Nat} {g:Array Bool} {i:Nat},i<n→i<g.size→g.getD i false=false→fr n (g.setIfInBounds i true)+1=fr n g
 | 0,_,_,h,_,_=>by omega
 | n+1,g,i,h,hs,hg=>by
  unfold fr
  by_cases e:i=n
  ·subst e;rw[QP (Nat.le_refl _),(zO hs).2 (Or.inl rfl),hg];simp
  ·have h1:=QO (n:=n) (g:=g) (by omega) hs hg;have h2:(g.setIfInBounds i true).getD n false=g.getD n false:=by
    have:¬i=n:=e;simp[Array.getD_eq_getD_getElem?,Array.getElem?_setIfInBounds_ne this]
   rw[h2]; omega
theorem RN {i j:Nat}:RO true ops i j=true↔∃o,ops[i]?=some o∧∃e∈o.after,Region.binds .any e=true∧e.on=j:=by
 unfold RO;simp only[cond_true];cases ho:ops[i]? with
 | none=>simp
 | some o =>
  simp only[List.any_eq_true];constructor
  ·rintro⟨e,he,h⟩
   rw[Bool.and_eq_true]at h;exact⟨o,rfl,e,by simpa using he,h.1,Nat.eq_of_beq_eq_true h.2⟩
  ·rintro⟨o',e1,e,he,hb,rfl⟩
   cases e1;exact⟨e,by simpa using he,by rw[hb]; simp⟩
theorem XJ (hT:∀d,TabOkW E.P (E.T d) base w0) (hq:dH E.P E.q base w0) (hrun:tG E true ops ops.toList 0 (A.map fun φ=>(none,φ)) [] []=some (ps,TF,rs)) (hps:aP ps) (hchk:Fb true ops rs=true) (hlow:Ka true ops=true)
  (hQ:∀a w,Inv E true ops base w0 TF rs (fun i=>i<ops.size) a w→Q .normal a w) :
  ∀(m:Nat) (g:Array Bool) (a:Act) (w:World),g.size=ops.size→fr ops.size g=m→Inv E true ops base w0 TF rs (fun i=>g.getD i false=true) a w→wpAny E.P .any ops Q m g a w:=by
 have hfin:∀(g:Array Bool) (a:Act) (w:World),g.size=ops.size→(∀i,i<ops.size→g.getD i false=true)→Inv E true ops base w0 TF rs (fun i=>g.getD i false=true) a w→Q .normal a w:=fun g a w hs hall hI=>by
  refine hQ a w ?_;have:(fun i=>g.getD i false=true)=fun i=>i<ops.size:=funext fun i=>propext ⟨fun h=>by
   rw[←hs]
   by_cases hi:i<g.size
   ·exact hi
   ·simp[Array.getD,hi]at h,hall i⟩
  rwa [this]at hI
 have hready:∀(g:Array Bool),g.size=ops.size→Region.ready .any ops g=[]→∀i,i<ops.size→g.getD i false=true:=fun g hs hr i=>by
  induction i using Nat.strongRecOn with
  | _ i ih =>
   intro hi;cases hb:g.getD i false with
   | true=>rfl
   | false =>
    exfalso;have:i∈Region.ready .any ops g:=by
     refine mem_ready.2 ⟨?_,ops[i],Array.getElem?_eq_getElem hi,fun e he hbi => ?_⟩
     ·have:i<g.size:=by omega
      simp[Array.getD,this]at hb ⊢;exact hb
     ·unfold Ka at hlow;simp only[cond_true]at hlow;have:=fT hlow i ops[i] (by simp[hi]);rw[List.all_eq_true]at this;have:=this e (by simpa using he);rw[hbi]at this;have hlt:e.on<i:=by simpa using this
      exact ih e.on hlt (by omega)
    rw[hr]at this;cases this
 intro m
 induction m with
 | zero =>
  intro g a w hs hf hI;have hall:=GK hf;refine⟨?_,hfin g a w hs hall hI⟩;apply List.eq_nil_iff_forall_not_mem.2;intro i hi;obtain⟨h1,o,ho,_⟩:=mem_ready.1 hi;have hlt:i<ops.size:=(Array.getElem?_eq_some_iff.1 ho).1;have h2:=hall i hlt;have:i<g.size:=by omega
  simp[Array.getD,this]at h1 h2;rw[h1]at h2; cases h2
 | succ m ih =>
  intro g a w hs hf hI;refine⟨fun hr=>hfin g a w hs (hready g hs hr) hI,fun i hi => ?_⟩;obtain⟨h1,o,ho,h2⟩:=mem_ready.1 hi;have hlt:i<ops.size:=(Array.getElem?_eq_some_iff.1 ho).1;have hg:i<g.size:=by omega
  have hgi:g.getD i false=false:=by
   simp[Array.getD,hg]at h1 ⊢;exact h1
  have hst:=rC hT hq hrun hps hchk (Q:=Q) hI ho (by rw[hgi]; simp) (fun j hj=>by
   obtain⟨o',ho',e,he,hb,rfl⟩:=RN.1 hj;rw[ho]at ho';cases ho';exact h2 e he hb)
  unfold wpOp;rw[ho];simp only;have hnext:∀a' w',Inv E true ops base w0 TF rs (fun j=>j=i∨g.getD j false=true) a' w'→wpAny E.P .any ops Q m (g.setIfInBounds i true) a' w':=fun a' w' h=>by
   refine ih _ a' w' (by simp[hs]) (by have:=QO hlt hg hgi; omega) ?_;have:(fun j=>(g.setIfInBounds i true).getD j false=true)=fun j=>j=i∨g.getD j false=true:=funext fun j=>propext (zO hg)
   rwa [this]
  by_cases hw:Region.wanted o (yielded ops a.tmps)=true
  ·rw[if_pos hw]at hst ⊢;exact Or.inl (Oper.wp_mono hnext hst)
  ·rw[if_neg hw]at hst ⊢;exact hnext _ _ hst
theorem EV (hT:∀d,TabOkW E.P (E.T d) base w0) (hq:dH E.P E.q base w0) (hrun:tG E false ops ops.toList 0 (A.map fun φ=>(none,φ)) [] []=some (ps,TF,rs)) (hps:aP ps) (hchk:Fb false ops rs=true)
  (hQ:∀a w,Inv E false ops base w0 TF rs (fun i=>i<ops.size) a w→Q .normal a w) :
  ∀(m k:Nat) (a:Act) (w:World),k+m=ops.size→Inv E false ops base w0 TF rs (fun i=>i<k) a w→wpOps E.P ops Q (List.range' k m) a w
 | 0,k,a,w,hk,hI=>by
  have:k=ops.size:=by omega
  subst this;exact hQ a w hI
 | m+1,k,a,w,hk,hI=>by
  have hlt:k<ops.size:=by omega
  have ho:ops[k]?=some ops[k]:=Array.getElem?_eq_getElem hlt;have hst:=rC hT hq hrun hps hchk (Q:=Q) hI ho (Nat.lt_irrefl k) (fun j hj=>by unfold RO at hj; simpa using hj);simp only[List.range'_succ,wpOps];rw[ho];simp only;have hnext:∀a' w',Inv E false ops base w0 TF rs (fun j=>j=k∨j<k) a' w'→wpOps E.P ops Q (List.range' (k+1) m) a' w':=fun a' w' h=>by
   refine EV hT hq hrun hps hchk hQ m (k+1) a' w' (by omega) ?_;have:(fun j=>j<k+1)=fun j=>j=k∨j<k:=funext fun j=>propext (by omega)
   rwa [this]
  by_cases hw:Region.wanted ops[k] (yielded ops a.tmps)=true
  ·rw[if_pos hw]at hst ⊢;exact Or.inl (Oper.wp_mono hnext hst)
  ·rw[if_neg hw]at hst ⊢;exact hnext _ _ hst
theorem JC {id:Nat} (hm:E.P.follows .mixedOrders=true) (hT:∀d,TabOkW E.P (E.T d) base w0) (hq:dH E.P E.q base w0) (h:JD E draw ops A=some (ps,A')) (hps:aP ps) (hA:Holds E.nt base w0 A a w)
  (hQ:∀a w,Holds E.nt base w0 A' a w→Q .normal a w):(Code.region id ops draw).wp E.P Q a w:=by
 unfold JD at h;split at h
 ·rename_i ps' TF rs hrun;cases hc:(Fb draw ops rs&&Ka draw ops)<;>rw[hc]at h
  ·cases h
  ·cases h;rw[Bool.and_eq_true]at hc;cases draw with
   | false =>
    refine wp_region ?_;rw[List.range_eq_range'];exact EV hT hq hrun hps hc.1 (fun a w hI=>hQ a w (wR hrun (fun _ h=>h) hI)) ops.size 0 a w (by omega) (by
     have:(fun i=>i<0)=fun _:Nat=>False:=funext fun i=>propext ⟨fun h=>by omega,fun h=>h.elim⟩
     rw[this];exact oH hrun hA)
   | true =>
    refine wp_region_any hm ?_;have hsz:∀n,fr n (Array.replicate ops.size false)=n:=fun n=>by
     induction n with
     | zero=>rfl
     | succ n ih=>unfold fr; rw[ih]; by_cases hn:n<ops.size<;>simp[Array.getD,hn]
    refine XJ hT hq hrun hps hc.1 hc.2 (fun a w hI=>hQ a w (wR hrun (fun _ h=>h) hI)) ops.size _ a _ (by simp) (hsz _) ?_;have:(fun i=>(Array.replicate ops.size false).getD i false=true)=fun _:Nat=>False:=funext fun i=>propext (by by_cases hi:i<ops.size<;>simp[Array.getD,hi])
    rw[this];exact oH hrun hA.drew
 ·cases h
end
inductive EA|nrm|ex (id:Nat)|rt
def EA.out:EA→Exit
 | .nrm=>.normal
 | .ex id=>.exit id
 | .rt=>.ret
structure Cfg where
 T:Nat→Tab
 hint:Nat→Bool
 num:Nat→Option Value
def Nr (P:Program) (q:EqT) (nt:Nat) (c:Cfg):Env:=⟨P,c.T,q,c.hint,c.num,nt⟩
def run (P:Program) (q:EqT) (nt:Nat) (C:Nat→Cfg):Nat→Code→List Fact→Option (List Prop×EA×List Fact)
 | 0,_,_=>none
 | n+1,c,A=>match c with
  | .skip=>some ([],.nrm,A)
  | .ret=>some ([],.rt,A)
  | .exit id=>some ([],.ex id,A)
  | .region id ops draw=>match JD (Nr P q nt (C n)) draw ops A with|some (p,A')=>some (p,.nrm,A')|none=>none
  | .seq x y=>match run P q nt C n x A with
   | some (p,.nrm,A1)=>match run P q nt C n y A1 with|some (p2,e,A2)=>some (p++p2,e,A2)|none=>none
   | r=>r
  | .cond c x y=>match ev A c with|some (.im (.bool b))=>run P q nt C n (bif b then x else y) A|_=>none
  | .block id x=>match run P q nt C n x A with
   | some (p,.ex j,A1)=>some (p,bif Nat.beq j id then .nrm else .ex j,A1)
   | r=>r
  | .loop x=>match run P q nt C n x A with
   | some (p,.nrm,A1)=>match run P q nt C n (.loop x) A1 with|some (p2,e,A2)=>some (p++p2,e,A2)|none=>none
   | r=>r
  | _=>none
def Un (P:Program) (c:Code) (Q:Exit→Act→World→Prop):Nat→Act→World→Prop
 | 0,_,_=>False
 | n+1,a,w=>c.wp P (Exit.then (Un P c Q n) Q) a w
theorem PT {p:Nat→Prop}:∀n,p n→∃m,p m∧∀k,p k→m≤k:=fun n h=>by
 induction n using Nat.strongRecOn with
 | _ n ih =>
  by_cases hk:∃k,k<n∧p k
  ·obtain⟨k,h1,h2⟩:=hk;exact ih k h1 h2
  ·exact⟨n,h,fun k hp=>Nat.le_of_not_lt fun hlt=>hk ⟨k,hlt,hp⟩⟩
theorem qU {P:Program} {c:Code} {Q:Exit→Act→World→Prop} {n:Nat} {a:Act} {w:World} (h:Un P c Q n a w):(Code.loop c).wp P Q a w:=by
 classical
 have hmin:∀a w,(∃n,Un P c Q n a w)→∃m,Un P c Q m a w∧∀k,Un P c Q k a w→m≤k:=fun a w ⟨n,h⟩=>PT n h
 refine wp_loop (fun a w=>∃n,Un P c Q n a w) (fun a w=>if h:∃n,Un P c Q n a w then (hmin a w h).choose else 0) ⟨n,h⟩ ?_;intro a w hI;have hs:=(hmin a w hI).choose_spec;rw[dif_pos hI];generalize (hmin a w hI).choose=m at hs;cases m with
 | zero=>exact hs.1.elim
 | succ m =>
  refine Code.wp_mono (fun e a' w' he => ?_) hs.1;cases e with
  | normal =>
   have hI':∃n,Un P c Q n a' w':=⟨m,he⟩
   refine⟨hI',?_⟩;rw[dif_pos hI'];exact Nat.lt_succ_of_le ((hmin a' w' hI').choose_spec.2 m he)
  | _=>exact he
section
variable {P:Program} {q:EqT} {nt:Nat} {C:Nat→Cfg} {base:Nat} {w0:World}
theorem dN (hm:P.follows .mixedOrders=true) (hT:∀n d,TabOkW P ((C n).T d) base w0) (hq:dH P q base w0):∀(n:Nat) (c:Code) (A A':List Fact) (ps:List Prop) (e:EA) (a:Act) (w:World) (Q:Exit→Act→World→Prop),
  run P q nt C n c A=some (ps,e,A')→aP ps→Holds nt base w0 A a w→(∀a w,Holds nt base w0 A' a w→Q e.out a w)→c.wp P Q a w∧∀x,c=.loop x→Un P x Q n a w
 | 0,c,A,A',ps,e,a,w,Q,h,hps,hA,hQ=>by cases h
 | n+1,c,A,A',ps,e,a,w,Q,h,hps,hA,hQ=>by
  cases c with
  | skip=>cases h; exact⟨wp_skip (hQ a w hA),fun x e=>by cases e⟩
  | ret=>cases h; exact⟨wp_ret (hQ a w hA),fun x e=>by cases e⟩
  | exit id=>cases h; exact⟨wp_exit (hQ a w hA),fun x e=>by cases e⟩
  | region id ops draw =>
   refine⟨?_,fun x e=>by cases e⟩;simp only[run]at h;split at h
   ·rename_i p A1 h1;cases h;exact JC (E:=Nr P q nt (C n)) hm (hT n) hq h1 hps hA hQ
   ·cases h
  | seq x y =>
   refine⟨?_,fun x e=>by cases e⟩;simp only[run]at h;split at h
   ·rename_i p A1 h1;split at h
    ·rename_i ps2 e2 A2 h2;cases h;obtain⟨p1,p2⟩:=cZ.1 hps;refine wp_seq (dN hm hT hq n x A A1 p .nrm a w _ h1 p1 hA fun a w hA1 => ?_).1;exact (dN hm hT hq n y A1 A' ps2 e a w Q h2 p2 hA1 hQ).1
    ·cases h
   ·rename_i r hr;refine wp_seq (dN hm hT hq n x A A' ps e a w _ h hps hA fun a w hA1 => ?_).1;cases e with
    | nrm=>exact (hr _ _ h).elim
    | ex id=>exact hQ a w hA1
    | rt=>exact hQ a w hA1
  | cond c x y =>
   refine⟨?_,fun x e=>by cases e⟩;simp only[run]at h;split at h
   ·rename_i b hb;obtain⟨β,hok,_⟩:=hA.facts;have hc:a.eval c=.bool b:=aG hok hb;refine wp_cond hc ?_;have:=(dN hm hT hq n _ A A' ps e a w Q h hps hA hQ).1;cases b<;>exact this
   ·cases h
  | block id x =>
   refine⟨?_,fun x e=>by cases e⟩;simp only[run]at h;split at h
   ·rename_i p j A1 h1;cases h;refine wp_block (dN hm hT hq n x A A' ps (.ex j) a w _ h1 hps hA fun a w hA1 => ?_).1;show if j=id then Q .normal a w else Q (.exit j) a w
    cases hj:Nat.beq j id
    ·rw[if_neg (fun e=>by rw[e]at hj; simp at hj)];have:=hQ a w hA1;rw[hj]at this;exact this
    ·rw[if_pos (Nat.eq_of_beq_eq_true hj)];have:=hQ a w hA1;rw[hj]at this;exact this
   ·rename_i r hr;refine wp_block (dN hm hT hq n x A A' ps e a w _ h hps hA fun a w hA1 => ?_).1;cases e with
    | ex id=>exact (hr _ _ _ h).elim
    | nrm=>exact hQ a w hA1
    | rt=>exact hQ a w hA1
  | loop x =>
   have hun:Un P x Q (n+1) a w:=by
    simp only[run]at h;unfold Un;split at h
    ·rename_i p A1 h1;split at h
     ·rename_i ps2 e2 A2 h2;cases h;obtain⟨p1,p2⟩:=cZ.1 hps;refine (dN hm hT hq n x A A1 p .nrm a w _ h1 p1 hA fun a w hA1 => ?_).1;exact (dN hm hT hq n (.loop x) A1 A' ps2 e a w Q h2 p2 hA1 hQ).2 x rfl
     ·cases h
    ·rename_i r hr;refine (dN hm hT hq n x A A' ps e a w _ h hps hA fun a w hA1 => ?_).1;cases e with
     | nrm=>exact (hr _ _ h).elim
     | ex id=>exact hQ a w hA1
     | rt=>exact hQ a w hA1
   exact⟨qU hun,fun y e=>by cases e; exact hun⟩
  | _=>simp only[run]at h; cases h
end
def jZ:Nat→List CA→List Fact
 | _,[]=>[]
 | i,.v x::r=>.slot i x.av::jZ (i+1) r
 | i,.s l n m::r=>.slot i (.sl i 0 n m) :: .row i false l::jZ (i+1) r
 | i,.so l n::r=>.slot i (.so i n) :: .row i false l::jZ (i+1) r
 | i,.p l o::r=>.slot i (.pt i o) :: .row i false l::jZ (i+1) r
def UI (P:Program) (A:List Fact):ResultVar→Option TV
 | .tmp t=>match oU A t with|some (.im v)=>some (.im v)|some (.fl l)=>some (.fl l)|_=>none
 | .cell t ty=>match oU A t with
  | some (.pt k o)=>match dG A k,dF P ty,mN P ty with
   | some (_,l),some n,true=>match LW l o n with|some s=>some (.fl s)|none=>none
   | _,_,_=>none
  | _=>none
def kK (P:Program) (A:List Fact):List ResultVar→Option (List TV)
 | []=>some []
 | x::r=>match UI P A x,kK P A r with|some t,some l=>some (t::l)|_,_=>none
def rv:List TV→Option RV
 | []=>none
 | [t]=>some (.one t)
 | l=>some (.many l)
def cK (P:Program) (q:EqT) (C:Nat→Cfg) (fn:Func) (n:Nat) (cs:List CA):Option (List Prop×RV) :=
 match fn.body with
 | some c=>bif Nat.ble cs.length fn.ntmps then
   (match run P q fn.ntmps C n c (jZ 0 cs)with
   | some (ps,.ex _,_)=>none
   | some (ps,_,A)=>match kK P A fn.results.toList with
    | some l=>match rv l with|some r=>some (ps,r)|none=>none
    | none=>none
   | none=>none)else none
 | none=>none
def jY (P:Program) (T:Tab) (q:EqT) (hint:Nat→Bool) (fn:Func) (n:Nat) (cs:List CA):Option (List Prop×RV):=cK P q (fun _=>⟨fun _=>T,hint,fun _=>none⟩) fn n cs
theorem gS:∀(cs:List CA) (i:Nat) (φ:Fact),φ∈jZ i cs→(∀s v,φ=.slot s v→∀k,v.key=some k→i≤k)∧(∀k o l,φ=.row k o l→i≤k)∧(∀k b,φ ≠ .at k b)∧∀k e s n,φ ≠ .app k e s n
 | [],i,φ,h=>by cases h
 | .v x::r,i,φ,h=>by
  rcases List.mem_cons.1 h with rfl|h
  ·refine⟨fun s v e k hk => ?_,(fun k o l e=>by cases e),(fun k b e=>by cases e),fun k e s n q=>by cases q⟩;cases e;cases x<;>cases hk
  ·obtain⟨h1,h2,h3⟩:=gS r (i+1) φ h;exact⟨fun s v e k hk=>Nat.le_of_succ_le (h1 s v e k hk),fun k o l e=>Nat.le_of_succ_le (h2 k o l e),h3⟩
 | .s l n m::r,i,φ,h=>by
  rcases List.mem_cons.1 h with rfl|h
  ·refine⟨fun s v e k hk => ?_,(fun k o l e=>by cases e),(fun k b e=>by cases e),fun k e s n q=>by cases q⟩;cases e;cases hk;exact Nat.le_refl _
  ·rcases List.mem_cons.1 h with rfl|h
   ·exact⟨fun s v e=>by (cases e),(fun k o l e=>by cases e; exact Nat.le_refl _),(fun k b e=>by cases e),fun k e s n q=>by cases q⟩
   ·obtain⟨h1,h2,h3⟩:=gS r (i+1) φ h;exact⟨fun s v e k hk=>Nat.le_of_succ_le (h1 s v e k hk),fun k o l e=>Nat.le_of_succ_le (h2 k o l e),h3⟩
 | .so l n::r,i,φ,h=>by
  rcases List.mem_cons.1 h with rfl|h
  ·refine⟨fun s v e k hk => ?_,(fun k o l e=>by cases e),(fun k b e=>by cases e),fun k e s n q=>by cases q⟩;cases e;cases hk;exact Nat.le_refl _
  ·rcases List.mem_cons.1 h with rfl|h
   ·exact⟨fun s v e=>by (cases e),(fun k o l e=>by cases e; exact Nat.le_refl _),(fun k b e=>by cases e),fun k e s n q=>by cases q⟩
   ·obtain⟨h1,h2,h3⟩:=gS r (i+1) φ h;exact⟨fun s v e k hk=>Nat.le_of_succ_le (h1 s v e k hk),fun k o l e=>Nat.le_of_succ_le (h2 k o l e),h3⟩
 | .p l o0::r,i,φ,h=>by
  rcases List.mem_cons.1 h with rfl|h
  ·refine⟨fun s v e k hk => ?_,(fun k o l e=>by cases e),(fun k b e=>by cases e),fun k e s n q=>by cases q⟩;cases e;cases hk;exact Nat.le_refl _
  ·rcases List.mem_cons.1 h with rfl|h
   ·exact⟨fun s v e=>by (cases e),(fun k o l e=>by cases e; exact Nat.le_refl _),(fun k b e=>by cases e),fun k e s n q=>by cases q⟩
   ·obtain⟨h1,h2,h3⟩:=gS r (i+1) φ h;exact⟨fun s v e k hk=>Nat.le_of_succ_le (h1 s v e k hk),fun k o l e=>Nat.le_of_succ_le (h2 k o l e),h3⟩
theorem IC (a:Act) (w:World) (B:Bk) (K:Nat):∀(cs:List CA) (vs:List Value) (i:Nat),i+cs.length≤K→cE w cs vs→(∀j v,vs[j]?=some v→a.tmps[i+j]?=some v)→∃β:Nat→Bk,β K=B∧∀φ∈jZ i cs,φ.ok w.heap.size β a w
 | [],vs,i,_,_,_=>⟨fun _=>B,rfl,fun φ h=>by cases h⟩
 | c::cs,[],i,_,h,_=>by cases c<;>exact h.elim
 | c::cs,v::vs,i,hK,h,ha=>by
  have hKi:Nat.beq K i=false:=by
   cases hb:Nat.beq K i
   ·rfl
   ·have:=Nat.eq_of_beq_eq_true hb;simp only[List.length_cons]at hK;omega
  obtain⟨h1,h2⟩:c.ok w v∧cE w cs vs:=by cases c<;>exact h
  obtain⟨β,hB,hβ⟩:=IC a w B K cs vs (i+1) (by simp only[List.length_cons]at hK; omega) h2 (fun j u hj=>by have:=ha (j+1) u (by simpa using hj); rwa [show i+(j+1)=i+1+j by omega]at this);have h0:=ha 0 v rfl;rw[Nat.add_zero]at h0;cases c with
  | v x =>
   refine⟨β,hB,fun φ hφ => ?_⟩
   rcases List.mem_cons.1 hφ with rfl|hφ
   ·show a.tmps[i]?=_;rw[h0,TV.av_den];exact congrArg some h1
   ·exact hβ φ hφ
  | s l n m =>
   obtain⟨b,o,rfl,hb,hr⟩:=h1;refine⟨fun k=>bif Nat.beq k i then (b,o,0)else β k,by simp only[hKi]; exact hB,fun φ hφ => ?_⟩;have hbi:(bif Nat.beq i i then (b,o,0)else β i)=(b,o,0):=by simp
   rcases List.mem_cons.1 hφ with rfl|hφ
   ·show a.tmps[i]?=_;rw[h0];show _=some (Value.slice (some ⟨(bif Nat.beq i i then (b,o,0)else β i).1,(bif Nat.beq i i then (b,o,0)else β i).2.1+0,none⟩) n m);rw[hbi];rfl
   ·rcases List.mem_cons.1 hφ with rfl|hφ
    ·refine⟨?_,?_,(fun h=>by cases h),fun _=>trivial⟩<;>simp only[hbi]
     ·exact hb
     ·exact hr
    ·obtain⟨k1,k2,k3,k4⟩:=gS cs (i+1) φ hφ;have hne:∀k,i+1≤k→(bif Nat.beq k i then (b,o,0)else β k)=β k:=fun k hk=>by
      cases hq:Nat.beq k i
      ·rfl
      ·have:=Nat.eq_of_beq_eq_true hq; omega
     have hold:=hβ φ hφ;cases φ with
     | slot s u =>
      show a.tmps[s]?=_;rw[AV.den_eq (β:=β) u (fun k hk=>hne k (k1 s u rfl k hk))];exact hold
     | row k ow l' =>
      have e:=hne k (k2 k ow l' rfl);simp only[Fact.ok]at hold ⊢;simp only[e];exact hold
     | «at» k b=>exact (k3 k b rfl).elim
     | app k e s n=>exact (k4 k e s n rfl).elim
  | so l n =>
   obtain⟨b,o,m,rfl,hb,hr⟩:=h1;refine⟨fun k=>bif Nat.beq k i then (b,o,m)else β k,by simp only[hKi]; exact hB,fun φ hφ => ?_⟩;have hbi:(bif Nat.beq i i then (b,o,m)else β i)=(b,o,m):=by simp
   rcases List.mem_cons.1 hφ with rfl|hφ
   ·show a.tmps[i]?=_;rw[h0];show _=some (Value.slice (some ⟨(bif Nat.beq i i then (b,o,m)else β i).1,(bif Nat.beq i i then (b,o,m)else β i).2.1,none⟩) n (bif Nat.beq i i then (b,o,m)else β i).2.2);rw[hbi]
   ·rcases List.mem_cons.1 hφ with rfl|hφ
    ·refine⟨?_,?_,(fun h=>by cases h),fun _=>trivial⟩<;>simp only[hbi]
     ·exact hb
     ·exact hr
    ·obtain⟨k1,k2,k3,k4⟩:=gS cs (i+1) φ hφ;have hne:∀k,i+1≤k→(bif Nat.beq k i then (b,o,m)else β k)=β k:=fun k hk=>by
      cases hq:Nat.beq k i
      ·rfl
      ·have:=Nat.eq_of_beq_eq_true hq; omega
     have hold:=hβ φ hφ;cases φ with
     | slot s u =>
      show a.tmps[s]?=_;rw[AV.den_eq (β:=β) u (fun k hk=>hne k (k1 s u rfl k hk))];exact hold
     | row k ow l' =>
      have e:=hne k (k2 k ow l' rfl);simp only[Fact.ok]at hold ⊢;simp only[e];exact hold
     | «at» k b=>exact (k3 k b rfl).elim
     | app k e s n=>exact (k4 k e s n rfl).elim
  | p l o0 =>
   obtain⟨b,rfl,hb,hr⟩:=h1;refine⟨fun k=>bif Nat.beq k i then (b,0,0)else β k,by simp only[hKi]; exact hB,fun φ hφ => ?_⟩;have hbi:(bif Nat.beq i i then (b,0,0)else β i)=(b,0,0):=by simp
   rcases List.mem_cons.1 hφ with rfl|hφ
   ·show a.tmps[i]?=_;rw[h0];show _=some (Value.pointer (some ⟨(bif Nat.beq i i then (b,0,0)else β i).1,(bif Nat.beq i i then (b,0,0)else β i).2.1+o0,none⟩));rw[hbi];simp
   ·rcases List.mem_cons.1 hφ with rfl|hφ
    ·refine⟨?_,?_,(fun h=>by cases h),fun _=>trivial⟩<;>simp only[hbi]
     ·exact hb
     ·exact hr
    ·obtain⟨k1,k2,k3,k4⟩:=gS cs (i+1) φ hφ;have hne:∀k,i+1≤k→(bif Nat.beq k i then (b,0,0)else β k)=β k:=fun k hk=>by
      cases hq:Nat.beq k i
      ·rfl
      ·have:=Nat.eq_of_beq_eq_true hq; omega
     have hold:=hβ φ hφ;cases φ with
     | slot s u =>
      show a.tmps[s]?=_;rw[AV.den_eq (β:=β) u (fun k hk=>hne k (k1 s u rfl k hk))];exact hold
     | row k ow l' =>
      have e:=hne k (k2 k ow l' rfl);simp only[Fact.ok]at hold ⊢;simp only[e];exact hold
     | «at» k b=>exact (k3 k b rfl).elim
     | app k e s n=>exact (k4 k e s n rfl).elim
def qC (tmps:Array Value):ResultVar→Sem Value
 | .tmp t=>pure (tmps.getD t undef)
 | .cell p t=>do loadVar t (←asAddr (tmps.getD p undef))
theorem JA {P:Program} {A:List Fact} {base:Nat} {β:Nat→Bk} {a:Act} {w:World} (hA:∀φ∈A,φ.ok base β a w) {x:ResultVar} {t:TV} (h1:UI P A x=some t):(qC a.tmps x).run P w=.ok t.den w:=by
 cases x with
 | tmp s =>
  have:a.tmps.getD s undef=t.den:=by
   simp only[UI]at h1;split at h1
   ·rename_i v hl; cases h1; have:=hA _ (eJ hl); simp only[Fact.ok]at this; simp[this]; rfl
   ·rename_i v hl; cases h1; have:=hA _ (eJ hl); simp only[Fact.ok]at this; simp[this]; rfl
   ·cases h1
  show (pure (a.tmps.getD s undef):Sem Value).run P w=_;rw[this];rfl
 | cell s ty =>
  simp only[UI]at h1;split at h1
  ·rename_i k o hl;split at h1
   ·rename_i ow row n hr hs ht;split at h1
    ·rename_i sg hg;cases h1;obtain⟨i',hi,hn⟩:=gI hs;obtain⟨ds,hu,hd'⟩:=fP ht;obtain⟨g1,g2,_⟩:=hA _ (aY hr);have hl':=hA _ (eJ hl);simp only[Fact.ok,AV.den]at hl';have hv:a.tmps.getD s undef=.pointer (some ⟨(β k).1,(β k).2.1+o,none⟩):=by simp[hl']
     have:=run_loadVar_mid (P:=P) w _ _ ty (aD sg) ds (tX g2 hg) hu hd' (by rw[hi]; simp[aM,xN hg,hn]);show (do loadVar ty (←asAddr (a.tmps.getD s undef)):Sem Value).run P w=_;rw[hv];simp[asAddr,this,TV.den]
    ·cases h1
   ·cases h1
  ·cases h1
theorem gK {P:Program} {A:List Fact} {base:Nat} {β:Nat→Bk} {a:Act} {w:World} (hA:∀φ∈A,φ.ok base β a w):∀{xs:List ResultVar} {l:List TV},kK P A xs=some l→(xs.mapM (qC a.tmps)).run P w=.ok (l.map TV.den) w
 | [],l,h=>by cases h; simp
 | x::r,l,h=>by
  unfold kK at h;split at h
  ·rename_i t l' h1 h2;cases h;have ih:=gK hA h2;have hx:=JA hA h1;simp[List.mapM_cons,ih,hx]
  ·cases h
theorem vK {l:List TV} {r:RV} (h:rv l=some r):(if h:(l.map TV.den).toArray.size=1 then (l.map TV.den).toArray[0]else Value.tuple (l.map TV.den).toArray)=r.den:=by
 cases l with
 | nil=>cases h
 | cons t l =>
  cases l with
  | nil=>cases h; rfl
  | cons u l=>cases h; rw[dif_neg (by simp)]; rfl
theorem XE {w:World}:∀(cs:List CA) (vs:List Value),cE w cs vs→cs.length=vs.length:=fun cs=>by
 induction cs with
 | nil=>intro vs h; cases vs with|nil=>rfl|cons _ _=>exact h.elim
 | cons c cs ih=>intro vs h; cases vs with|nil=>cases c<;>exact h.elim|cons v vs=>cases c<;>exact congrArg (· + 1) (ih vs h.2)
theorem AN:∀(cs:List CA) (i:Nat) (k:Nat) (l:List At),Fact.row k true l∈jZ i cs→False:=fun cs=>by
 induction cs with
 | nil=>intro i k l h; cases h
 | cons c cs ih =>
  intro i k l h;cases c with
  | v x=>rcases List.mem_cons.1 h with h|h; cases h; exact ih _ _ _ h
  | _ =>
   rcases List.mem_cons.1 h with h|h
   ·cases h
   ·rcases List.mem_cons.1 h with h|h
    ·cases h
    ·exact ih _ _ _ h
theorem pE {nt:Nat} {cs:List CA} {args:List Value} {w:World} (ha:cE w cs args) (hn:cs.length≤nt):Holds nt w.heap.size w (jZ 0 cs) { tmps:=args.toArray++Array.replicate (nt-args.toArray.size) undef,defers:=[] } w:=by
 have hle':args.length≤nt:=by rw[←XE cs args ha]; exact hn
 obtain⟨β,hB,hβ⟩:=IC { tmps:=args.toArray++Array.replicate (nt-args.toArray.size) undef,defers:=[] } w (w.heap.size,0,0) nt cs args 0 (by omega) ha (fun j v hj=>by
  have hlt:j<args.length:=(List.getElem?_eq_some_iff.1 hj).1;simp only[Nat.zero_add];rw[Array.getElem?_append_left (by simpa using hlt)];simpa using hj)
 exact⟨rfl,by simp; omega,Below.refl _ _,Nat.le_refl _,β,hβ,fun k k' o' l l' hk=>(AN cs 0 k l hk).elim,fun k l hk=>(AN cs 0 k l hk).elim,by rw[hB]; exact Nat.le_refl _,fun p h1 h2=>by (rw[hB]at h2; exact absurd h1 (by show ¬w.heap.size<p.block; have h2:p.block<w.heap.size:=h2; omega)),Shape.refl _⟩
theorem pP {P:Program} {q:EqT} {C:Nat→Cfg} {w:World} (hm:P.follows .mixedOrders=true) (hT:∀n d,TabOkW P ((C n).T d) w.heap.size w) (hq:dH P q w.heap.size w) {f:FuncId} {fn:Func} (hf:P.funcs[f]?=some fn) {n:Nat} {cs:List CA} {ps:List Prop} {r:RV}
  (h:cK P q C fn n cs=some (ps,r)) (hps:aP ps) {args:List Value} (ha:cE w cs args):Calls P f args.toArray w (fun e w'=>e=.returned r.den∧Below w.heap.size w w'):=by
 unfold cK at h;cases hb:fn.body with
 | none=>rw[hb]at h; cases h
 | some c =>
  rw[hb]at h;simp only at h;cases hle:Nat.ble cs.length fn.ntmps<;>rw[hle]at h
  ·cases h
  ·simp only[cond_true]at h;refine calls_of_wp hf hb ?_;have hH:=pE (nt:=fn.ntmps) ha (Nat.le_of_ble_eq_true hle);have hfin:∀(e:EA) (A:List Fact),(∀j,e ≠ .ex j)→(∃l,kK P A fn.results.toList=some l∧rv l=some r)→∀a w',Holds fn.ntmps w.heap.size w A a w'→bodyPost P fn (fun e w'=>e=.returned r.den∧Below w.heap.size w w') e.out a w':=fun e A he ⟨l,h1,h2⟩ a w' hA=>by
    obtain⟨β',hok,_⟩:=hA.facts;have hres:(results fn a.tmps).run P w'=.ok r.den w':=by
     have:=gK hok h1;show ((fn.results.mapM (qC a.tmps)) >>= fun vs=>pure (if h:vs.size=1 then vs[0]else .tuple vs):Sem Value).run P w'=_;have hm:(List.toArray <$> fn.results.toList.mapM (qC a.tmps)).run P w'=.ok (l.map TV.den).toArray w':=by simp[this]
     rw[Array.mapM_eq_mapM_toList,Sem.run_bind,hm,Result.andThen_ok,Sem.run_pure];exact congrArg (fun x=>Result.ok x w') (vK h2)
    cases e with
    | nrm=>exact⟨hA.defers,_,hres,rfl,hA.below⟩
    | rt=>exact⟨hA.defers,_,hres,rfl,hA.below⟩
    | ex j=>exact (he j rfl).elim
   split at h
   ·cases h
   ·rename_i ps' e A hne hrun;split at h
    ·rename_i l hl;split at h
     ·rename_i r' hr';cases h;exact (dN (P:=P) (q:=q) (nt:=fn.ntmps) (C:=C) hm hT hq n c _ A ps e _ w _ hrun hps hH (hfin e A (fun j e'=>hne j e') ⟨l,hl,hr'⟩)).1
     ·cases h
    ·cases h
   ·cases h
theorem aH {P:Program} {q:EqT} {C:Nat→Cfg} (hm:P.follows .mixedOrders=true) (hT:∀n d,TabOk P ((C n).T d)) (hq:EqOk P q) {f:FuncId} {fn:Func} (hf:P.funcs[f]?=some fn) {n:Nat} {cs:List CA} {ps:List Prop} {r:RV}
  (h:cK P q C fn n cs=some (ps,r)) (hps:aP ps) {args:List Value} {w:World} (ha:cE w cs args):Calls P f args.toArray w (fun e w'=>e=.returned r.den∧Below w.heap.size w w') :=
 pP hm (fun n d=>(hT n d).w _ _) (hq.w _ _) hf h hps ha
theorem bR {P:Program} {T:Tab} {q:EqT} {hint:Nat→Bool} (hm:P.follows .mixedOrders=true) (hT:TabOk P T) (hq:EqOk P q) {f:FuncId} {fn:Func} (hf:P.funcs[f]?=some fn) {n:Nat} {cs:List CA} {ps:List Prop} {r:RV}
  (h:jY P T q hint fn n cs=some (ps,r)) (hps:aP ps) {args:List Value} {w:World} (ha:cE w cs args):Calls P f args.toArray w (fun e w'=>e=.returned r.den∧Below w.heap.size w w') :=
 aH hm (fun _ _=>hT) hq hf h hps ha
theorem fG {P:Program} {f:FuncId} {fn:Func} (hf:P.funcs[f]?=some fn) (hn:(fn.name == "runtime.NumGoroutine")=false) (hb:fn.body.isNone=false) (args:Array Value) (w:World):(callFunc f args).run P w=.ok (.enter f args) w:=by
 have hn':¬fn.name = "runtime.NumGoroutine":=by simpa using hn
 have hb':¬fn.body=none:=fun e=>by rw[e]at hb; cases hb
 simp[callFunc,hf,hn',hb']
def T0:Tab:=fun _ _=>none
theorem fV (P:Program):TabOk P T0:=fun _ _ _ _ h=>by cases h
def Tab.add (T:Tab) (f:Nat) (g:List CA→Option (List Prop×RV)):Tab:=fun f' cs=>bif Nat.beq f' f then g cs else T f' cs
theorem TabOk.add {P:Program} {T:Tab} (hT:TabOk P T) {f:Nat} {fn:Func} (hf:P.funcs[f]?=some fn) (hn:(fn.name == "runtime.NumGoroutine")=false) (hb:fn.body.isNone=false) {g:List CA→Option (List Prop×RV)}
  (h:∀cs pre r,g cs=some (pre,r)→aP pre→∀(args:List Value) (w:World),cE w cs args→Calls P f args.toArray w (fun e w'=>e=.returned r.den∧Below w.heap.size w w')):TabOk P (T.add f g):=by
 intro f' cs pre r hg hp;unfold Tab.add at hg;cases hb':Nat.beq f' f<;>rw[hb']at hg
 ·exact hT f' cs pre r hg hp
 ·cases Nat.eq_of_beq_eq_true hb';exact⟨fG hf hn hb,h cs pre r hg hp⟩
theorem TabOk.ad {P:Program} {T:Tab} (hT:TabOk P T) {f:Nat} {fn:Func} (hf:P.funcs[f]?=some fn) {g:List CA→Option (List Prop×RV)}
 (h:∀cs pre r,g cs=some (pre,r)→aP pre→∀(args:List Value) (w:World),cE w cs args→Calls P f args.toArray w (fun e w'=>e=.returned r.den∧Below w.heap.size w w')) (hn:(fn.name == "runtime.NumGoroutine")=false:=by kernel_rfl) (hb:fn.body.isNone=false:=by kernel_rfl):TabOk P (T.add f g):=hT.add hf hn hb h
theorem Holds.sub {nt base:Nat} {w0:World} {A A':List Fact} {a:Act} {w:World} (h:Holds nt base w0 A a w) (hs:∀φ∈A',φ∈A):Holds nt base w0 A' a w:=by
 obtain⟨β,h1,h2⟩:=h.facts;exact⟨h.defers,h.size,h.below,h.heap,β,fun φ hφ=>h1 φ (hs φ hφ),fun k k' o' l l' hk hk'=>h2.1 k k' o' l l' (hs _ hk) (hs _ hk'),fun k l hk=>h2.2.1 k l (hs _ hk),h2.2.2⟩
def pick (A:List Fact):List Fact→Option (List Fact)
 | []=>some []
 | .slot s _::r=>match oU A s,pick A r with|some v,some l=>some (.slot s v::l)|_,_=>none
 | .row k _ _::r=>match dG A k,pick A r with|some (o,l),some m=>some (.row k o l::m)|_,_=>none
 | .at k _::r=>match sY A k,pick A r with|some b,some m=>some (.at k b::m)|_,_=>none
 | .app k _ _ _::r=>match oF A k,pick A r with|some (e,sz,n),some m=>some (.app k e sz n::m)|_,_=>none
theorem iR {A:List Fact}:∀{K L:List Fact},pick A K=some L→∀φ∈L,φ∈A
 | [],L,h,φ,hφ=>by cases h; cases hφ
 | .slot s v::r,L,h,φ,hφ=>by
  unfold pick at h;split at h
  ·rename_i u l h1 h2;cases h
   rcases List.mem_cons.1 hφ with rfl|hφ
   ·exact eJ h1
   ·exact iR h2 φ hφ
  ·cases h
 | .row k o m::r,L,h,φ,hφ=>by
  unfold pick at h;split at h
  ·rename_i o' l' m' h1 h2;cases h
   rcases List.mem_cons.1 hφ with rfl|hφ
   ·exact aY h1
   ·exact iR h2 φ hφ
  ·cases h
 | .at k b::r,L,h,φ,hφ=>by
  unfold pick at h;split at h
  ·rename_i b' m' h1 h2;cases h
   rcases List.mem_cons.1 hφ with rfl|hφ
   ·exact eS h1
   ·exact iR h2 φ hφ
  ·cases h
 | .app k e' sz' n'::r,L,h,φ,hφ=>by
  unfold pick at h;split at h
  ·rename_i e sz n m' h1 h2;cases h
   rcases List.mem_cons.1 hφ with rfl|hφ
   ·exact fK h1
   ·exact iR h2 φ hφ
  ·cases h
def bT (P:Program) (q:EqT) (nt:Nat) (C:Nat→Cfg) (n:Nat) (c:Code) (A K:List Fact):Option (List Prop×EA×List Fact) :=
 match run P q nt C n c A with
 | some (ps,e,A1)=>match pick A1 K with|some L=>some (ps,e,L)|none=>none
 | none=>none
section
variable {P:Program} {q:EqT} {nt base:Nat} {w0:World} {Q:Exit→Act→World→Prop}
theorem aF (hm:P.follows .mixedOrders=true) {C:Nat→Cfg} (hT:∀n d,TabOkW P ((C n).T d) base w0) (hq:dH P q base w0) {n:Nat} {c:Code} {A K L:List Fact} {ps:List Prop} {e:EA} {a:Act} {w:World}
  (h:bT P q nt C n c A K=some (ps,e,L)) (hps:aP ps) (hA:Holds nt base w0 A a w) (hQ:∀a w,Holds nt base w0 L a w→Q e.out a w):c.wp P Q a w:=by
 unfold bT at h;split at h
 ·rename_i ps' e' A1 h1;split at h
  ·rename_i L' h2;cases h;exact (dN hm hT hq n c A A1 ps e a w Q h1 hps hA fun a w hA1=>hQ a w (hA1.sub (iR h2))).1
  ·cases h
 ·cases h
theorem fQ {f:FuncId} {fn:Func} (hf:P.funcs[f]?=some fn) {c:Code} (hb:fn.body=some c) {cs:List CA} {args:List Value} {w:World} (ha:cE w cs args) (hn:cs.length≤fn.ntmps) {R:Ending→World→Prop}
  (h:∀a w',Holds fn.ntmps w.heap.size w (jZ 0 cs) a w'→c.wp P (bodyPost P fn R) a w'):Calls P f args.toArray w R:=by
 exact calls_of_wp hf hb (h _ _ (pE ha hn))
theorem gP {fn:Func} {A:List Fact} {l:List TV} {r:RV} {w:World} (h1:kK P A fn.results.toList=some l) (h2:rv l=some r) {a:Act} {w':World} (hA:Holds nt w.heap.size w A a w'):bodyPost P fn (fun e w'=>e=.returned r.den∧Below w.heap.size w w') .ret a w':=by
 obtain⟨β',hok,_⟩:=hA.facts;have hres:(results fn a.tmps).run P w'=.ok r.den w':=by
  have:=gK hok h1;show ((fn.results.mapM (qC a.tmps)) >>= fun vs=>pure (if h:vs.size=1 then vs[0]else .tuple vs):Sem Value).run P w'=_;have hm:(List.toArray <$> fn.results.toList.mapM (qC a.tmps)).run P w'=.ok (l.map TV.den).toArray w':=by simp[this]
  rw[Array.mapM_eq_mapM_toList,Sem.run_bind,hm,Result.andThen_ok,Sem.run_pure];exact congrArg (fun x=>Result.ok x w') (vK h2)
 exact⟨hA.defers,_,hres,rfl,hA.below⟩
end
def cA:Code→Code
 | .seq a _=>a
 | c=>c
def cB:Code→Code
 | .seq _ b=>b
 | c=>c
def Ob:Code→Code
 | .block _ c=>c
 | .loop c=>c
 | c=>c
def jQ (P:Program) (t:Nat):Bool:=match P.underlying t with
 | some (.struct _)=>true
 | some (.array _ _)=>true
 | _=>false
def Nq:Bool→List Value→Value
 | true,xs=>.agg xs.toArray
 | false,x::_=>x
 | false,[]=>undef
def wE (P:Program) (t k:Nat):Bool:=match dF P t with|some m=>Nat.beq m k|none=>false
def GU (P:Program) (g:Nat→Option Nat):Nat→List Field→Option Nat
 | o,[]=>some o
 | o,f::r=>match g f.type with
  | some k=>bif (f.name != "_")&&(Nat.beq f.offset o&&wE P f.type k)then GU P g (o+k) r else none
  | none=>none
def PV:Value→Option Bool
 | .int .u64 _=>some false
 | .bool _=>some true
 | _=>none
def Nv:List (Option Bool)→Option Bool→Bool
 | [some a],some b=>a==b
 | _,_=>false
def bG (P:Program):Nat→Nat→Option Nat
 | 0,_=>none
 | d+1,t=>match P.underlying t with
  | some (.int .u64)=>bif wE P t 1 then some 1 else none
  | some .bool=>bif wE P t 1 then some 1 else none
  | some (.array n e)=>match bG P d e with
   | some k=>bif wE P e k&&wE P t (n*k)then some (n*k)else none
   | none=>none
  | some (.struct fs)=>match GU P (bG P d) 0 fs.toList with
   | some m=>bif wE P t m && !(P.stoodInHeld t)then some m else none
   | none=>none
  | _=>none
def XK (f:Nat→Bool):Nat→Bool
 | 0=>true
 | n+1=>f n&&XK f n
theorem pB {f:Nat→Bool}:∀{n:Nat},XK f n=true→∀i,i<n→f i=true
 | 0,_,i,hi=>by omega
 | n+1,h,i,hi=>by
  unfold XK at h;rw[Bool.and_eq_true]at h
  by_cases e:i=n
  ·rw[e]; exact h.1
  ·exact pB h.2 i (by omega)
def zT (P:Program) (g:Nat→Option Nat) (h:Nat→List (Option Bool)→Bool) (ks:List (Option Bool)):Nat→List Field→Bool
 | _,[]=>true
 | o,f::r=>match g f.type with
  | some k=>h f.type ((ks.drop o).take k)&&zT P g h ks (o+k) r
  | none=>false
def tM (P:Program):Nat→Nat→List (Option Bool)→Bool
 | 0,_,_=>false
 | d+1,t,ks=>match P.underlying t with
  | some (.int .u64)=>Nv ks (some false)
  | some .bool=>Nv ks (some true)
  | some (.array n e)=>match bG P d e with
   | some k=>XK (fun i=>tM P d e ((ks.drop (i*k)).take k)) n
   | none=>false
  | some (.struct fs)=>zT P (bG P d) (tM P d) ks 0 fs.toList
  | _=>false
def kA:At→List (Option Bool)
 | .c v=>[PV v]
 | _=>[some false,some false,some false,some false]
def Gk:List At→List (Option Bool)
 | []=>[]
 | a::r=>kA a++Gk r
theorem sF:∀l:List At,(aD l).map PV=Gk l
 | []=>rfl
 | a::r=>by
  show (a.cells++aD r).map PV=kA a++Gk r;rw[List.map_append,sF r];cases a<;>rfl
theorem kU {P:Program} {t k:Nat} (h:wE P t k=true):dF P t=some k:=by
 unfold wE at h;split at h
 ·rename_i m hm; rw[hm,Nat.eq_of_beq_eq_true h]
 ·cases h
theorem nG {P:Program} {t n:Nat} (hs:dF P t=some n) (ht:(P.underlying t).isSome=true) (hn:jQ P t=false→n=1) (cs:List Value) (off:Nat) (hl:off+n≤cs.length) (w:World) :
  (part t cs.toArray off).run P w=.ok (Nq (jQ P t) ((cs.drop off).take n)) w:=by
 obtain⟨ds,hu⟩:=Option.isSome_iff_exists.1 ht;have hagg:(isAgg t).run P w=.ok (jQ P t) w:=by
  unfold isAgg jQ;rw[Sem.run_bind,run_underlying hu w,hu];cases ds<;>simp_all
 cases ha:jQ P t
 ·have h1:=hn ha;subst h1;rw[ha]at hagg;have hc:cs.toArray[off]?=some cs[off]:=by simp
  have hd:(cs.drop off).take 1=[cs[off]]:=by
   rw[List.drop_eq_getElem_cons (by omega)];rfl
  unfold part;rw[Sem.run_bind,hagg];simp only[Result.andThen_ok,Bool.false_eq_true,if_false];rw[hc,hd];rfl
 ·rw[ha]at hagg;simp[part,hagg,bC hs,List.extract_eq_take_drop,Nq]
def jM (d e n:Nat) (xs ys:Array Value):Nat→Nat→Sem Bool
 | _,0=>pure true
 | i,c+1=>do
  let a ←part e xs (i*n)
  let b ←part e ys (i*n)
  let r ←Op.equalIn d e a b
  if (!r)=true then pure false else jM d e n xs ys (i+1) c
theorem nB {P:Program} (w:World) (d t len e n:Nat) (xs ys:Array Value) (ht:P.underlying t=some (.array len e)) (hs:dF P e=some n) :
  (Op.equalIn (d+1) t (.agg xs) (.agg ys)).run P w=(jM d e n xs ys 0 len).run P w:=by
 simp only[Op.equalIn,Sem.run_bind,run_underlying ht,Result.andThen_ok,bC hs];rw[Std.Legacy.Range.forIn_eq_forIn_range'];simp only[Std.Legacy.Range.size,Nat.sub_zero,Nat.add_sub_cancel,Nat.div_one];clear ht;generalize (0:Nat)=i
 induction len generalizing i w with
 | zero=>simp[jM]
 | succ len ih =>
  simp only[List.range'_succ,List.forIn_cons,jM,Sem.run_bind,Sem.run_ite];generalize (part e xs (i*n)).run P w=r1;cases r1 with
  | ok a w1 =>
   simp only[Result.andThen_ok];generalize (part e ys (i*n)).run P w1=r2;cases r2 with
   | ok b w2 =>
    simp only[Result.andThen_ok];generalize (Op.equalIn d e a b).run P w2=r3;cases r3 with
    | ok r w3 =>
     cases r
     ·simp only[Result.andThen_ok,Bool.not_false,if_true,Sem.run_pure]
     ·simp only[Result.andThen_ok,Bool.not_true,Bool.false_eq_true,if_false,Sem.run_pure];exact ih w3 (i+1)
    | halt x w3=>simp[Result.andThen]
   | halt x w2=>simp[Result.andThen]
  | halt x w1=>simp[Result.andThen]
theorem AE:∀{P:Program} {d t n:Nat},bG P d t=some n→dF P t=some n∧(P.underlying t).isSome=true∧(jQ P t=false→n=1)
 | P,0,t,n,h=>by cases h
 | P,d+1,t,n,h=>by
  unfold bG at h;unfold jQ;split at h
  ·rename_i hu;cases hb:wE P t 1<;>rw[hb]at h
   ·cases h
   ·cases h;exact⟨kU hb,by rw[hu]; rfl,fun _=>rfl⟩
  ·rename_i hu;cases hb:wE P t 1<;>rw[hb]at h
   ·cases h
   ·cases h;exact⟨kU hb,by rw[hu]; rfl,fun _=>rfl⟩
  ·rename_i len e hu;split at h
   ·rename_i k hk;cases hb:(wE P e k&&wE P t (len*k))<;>rw[hb]at h
    ·cases h
    ·cases h;rw[Bool.and_eq_true]at hb;exact⟨kU hb.2,by rw[hu]; rfl,fun h=>by rw[hu]at h; cases h⟩
   ·cases h
  ·rename_i fs hu;split at h
   ·rename_i m hm;cases hb:(wE P t m && !(P.stoodInHeld t))<;>rw[hb]at h
    ·cases h
    ·cases h;rw[Bool.and_eq_true]at hb;exact⟨kU hb.1,by rw[hu]; rfl,fun h=>by rw[hu]at h; cases h⟩
   ·cases h
  ·cases h
theorem vG {α:Type} {xs ys:List α} {o k:Nat}:(xs.drop o=ys.drop o)↔((xs.drop o).take k=(ys.drop o).take k∧xs.drop (o+k)=ys.drop (o+k)):=by
 constructor
 ·intro h;refine⟨by rw[h],?_⟩;rw[←List.drop_drop,←List.drop_drop,h]
 ·rintro⟨h1,h2⟩
  rw[←List.take_append_drop k (xs.drop o),←List.take_append_drop k (ys.drop o),h1,List.drop_drop,List.drop_drop,h2]
theorem lO (xs:List Value) (o k:Nat):((xs.drop o).take k).map PV=((xs.map PV).drop o).take k:=by rw[List.map_take,List.map_drop]
theorem zG {x:Value} (h:Nv [PV x] (some false)=true):∃n:Int,x=.int .u64 n:=by
 cases x with
 | int k n=>cases k<;>first|exact⟨n,rfl⟩|cases h
 | bool b=>cases h
 | _=>cases h
theorem zH {x:Value} (h:Nv [PV x] (some true)=true):∃b:Bool,x=.bool b:=by
 cases x with
 | int k n=>cases k<;>cases h
 | bool b=>exact⟨b,rfl⟩
 | _=>cases h
open Classical in
theorem wT {P:Program}:∀{d t n:Nat},bG P d t=some n→∀(D:Nat),d≤D→∀(xs ys:List Value) (w:World),xs.length=n→ys.length=n→tM P d t (xs.map PV)=true→tM P d t (ys.map PV)=true →
  (Op.equalIn D t (Nq (jQ P t) xs) (Nq (jQ P t) ys)).run P w=.ok (decide (xs=ys)) w
 | 0,t,n,h=>by cases h
 | d+1,t,n,h=>by
  intro D hD xs ys w hx hy wx wy
  match D,hD with
  | D+1,hD =>
  have hd:d≤D:=by omega
  unfold bG at h;unfold tM at wx wy;split at h
  ·rename_i hu;rw[hu]at wx wy;cases hb:wE P t 1<;>rw[hb]at h
   ·cases h
   ·cases h;have ha:jQ P t=false:=by unfold jQ; rw[hu]
    rw[ha]
    match xs,ys,hx,hy with
    | [x],[y],_,_ =>
     obtain⟨a,rfl⟩:=zG wx;obtain⟨b,rfl⟩:=zG wy;refine (run_equalIn_int w D t .u64 .u64 a b hu).trans ?_;congr 1
     by_cases e:a=b<;>simp[e]
  ·rename_i hu;rw[hu]at wx wy;cases hb:wE P t 1<;>rw[hb]at h
   ·cases h
   ·cases h;have ha:jQ P t=false:=by unfold jQ; rw[hu]
    rw[ha]
    match xs,ys,hx,hy with
    | [x],[y],_,_ =>
     obtain⟨a,rfl⟩:=zH wx;obtain⟨b,rfl⟩:=zH wy;refine (run_equalIn_bool w D t a b hu).trans ?_;congr 1
     by_cases e:a=b<;>simp[e]
  ·rename_i len e hu;split at h
   ·rename_i k hk;cases hb:(wE P e k&&wE P t (len*k))<;>rw[hb]at h
    ·cases h
    ·cases h;rw[Bool.and_eq_true]at hb;have ha:jQ P t=true:=by unfold jQ; rw[hu]
     rw[ha];refine (nB w D t len e k _ _ hu (kU hb.1)).trans ?_;obtain⟨p1,p2,p3⟩:=AE hk;rw[hu]at wx wy;simp only[hk]at wx wy;have key:∀(c i:Nat) (w:World),i+c=len→(jM D e k xs.toArray ys.toArray i c).run P w=.ok (decide (xs.drop (i*k)=ys.drop (i*k))) w:=by
      intro c
      induction c with
      | zero =>
       intro i w hi;have hi':i=len:=by omega
       subst hi';have h1:xs.length≤i*k:=by omega
       have h2:ys.length≤i*k:=by omega
       simp[jM,List.drop_of_length_le h1,List.drop_of_length_le h2]
      | succ c ih =>
       intro i w hi;have hle:i*k+k≤len*k:=by
        have:=Nat.mul_le_mul_right k (show i+1≤len by omega);rw[Nat.add_mul,Nat.one_mul]at this;exact this
       unfold jM;simp only[Sem.run_bind,nG p1 p2 p3 xs (i*k) (by omega),nG p1 p2 p3 ys (i*k) (by omega),Result.andThen_ok];rw[wT hk D hd ((xs.drop (i*k)).take k) ((ys.drop (i*k)).take k) w (by simp; omega) (by simp; omega) (by rw[lO]; exact pB wx i (by omega)) (by rw[lO]; exact pB wy i (by omega))];simp only[Result.andThen_ok];have hs:=vG (xs:=xs) (ys:=ys) (o:=i*k) (k:=k);rw[show i*k+k=(i+1)*k by rw[Nat.add_mul,Nat.one_mul]]at hs
       by_cases q:(xs.drop (i*k)).take k=(ys.drop (i*k)).take k
       ·rw[decide_eq_true q];simp only[Bool.not_true,Bool.false_eq_true,if_false];rw[ih (i+1) w (by omega)];congr 1;rw[decide_eq_decide];exact⟨fun h=>hs.2 ⟨q,h⟩,fun h=>(hs.1 h).2⟩
       ·rw[decide_eq_false q,decide_eq_false (fun h=>q (hs.1 h).1)];simp
     have:=key len 0 w (by omega);rw[Nat.zero_mul,List.drop_zero,List.drop_zero]at this;exact this
   ·cases h
  ·rename_i fs hu;split at h
   ·rename_i m hm;cases hb:(wE P t m && !(P.stoodInHeld t))<;>rw[hb]at h
    ·cases h
    ·cases h;rw[Bool.and_eq_true,Bool.not_eq_true']at hb;have ha:jQ P t=true:=by unfold jQ; rw[hu]
     rw[ha];have hf:P.fieldsOf t=fs:=by simp[Program.fieldsOf,hu]
     refine (run_equalIn_struct w D t xs.toArray ys.toArray (by rw[hf]; exact hu) hb.2).trans ?_;rw[hf];rw[hu]at wx wy;have key:∀(l:List Field) (o m:Nat) (w:World),zT P (bG P d) (tM P d) (xs.map PV) o l=true→zT P (bG P d) (tM P d) (ys.map PV) o l=true→GU P (bG P d) o l=some m→m≤xs.length→xs.length=ys.length→o≤m∧(Op.eqFields D xs.toArray ys.toArray l).run P w=.ok (decide ((xs.drop o).take (m-o)=(ys.drop o).take (m-o))) w:=by
      intro l
      induction l with
      | nil =>
       intro o m w _ _ h1 h2 h3;cases h1;simp[Op.eqFields]
      | cons f r ih =>
       intro o m w vx vy h1 h2 h3;unfold GU at h1;unfold zT at vx vy;split at h1
       ·rename_i k hk;simp only[hk]at vx vy;rw[Bool.and_eq_true]at vx vy;cases hc:((f.name != "_")&&(Nat.beq f.offset o&&wE P f.type k))<;>rw[hc]at h1
        ·cases h1
        ·simp only[cond_true]at h1;rw[Bool.and_eq_true,Bool.and_eq_true]at hc;obtain⟨c1,c2,c3⟩:=hc;have ho:=Nat.eq_of_beq_eq_true c2;obtain⟨g1,g2⟩:=ih (o+k) m w vx.2 vy.2 h1 h2 h3;refine⟨by omega,?_⟩;obtain⟨p1,p2,p3⟩:=AE hk;unfold Op.eqFields;rw[if_pos (by simpa using c1),ho];simp only[Sem.run_bind,nG p1 p2 p3 xs o (by omega),nG p1 p2 p3 ys o (by omega),Result.andThen_ok];rw[wT hk D hd ((xs.drop o).take k) ((ys.drop o).take k) w (by simp; omega) (by simp; omega) (by rw[lO]; exact vx.1) (by rw[lO]; exact vy.1)];simp only[Result.andThen_ok];have hs:((xs.drop o).take (m-o)=(ys.drop o).take (m-o))↔((xs.drop o).take k=(ys.drop o).take k∧(xs.drop (o+k)).take (m-(o+k))=(ys.drop (o+k)).take (m-(o+k))):=by
          have e:m-o=k+(m-(o+k)):=by omega
          rw[e,List.take_add,List.take_add,List.drop_drop,List.drop_drop];constructor
          ·intro h;exact List.append_inj h (by simp; omega)
          ·rintro⟨a,b⟩
           rw[a,b]
         by_cases q:(xs.drop o).take k=(ys.drop o).take k
         ·rw[decide_eq_true q];simp only[Bool.not_true,Bool.false_eq_true,if_false];rw[g2];congr 1;rw[decide_eq_decide];exact⟨fun h=>hs.2 ⟨q,h⟩,fun h=>(hs.1 h).2⟩
         ·rw[decide_eq_false q,decide_eq_false (fun h=>q (hs.1 h).1)];simp
       ·cases h1
     have:=(key fs.toList 0 _ w wx wy hm (by omega) (by omega)).2;rw[Nat.sub_zero,List.drop_zero,List.drop_zero,List.take_of_length_le (by omega),List.take_of_length_le (by omega)]at this;exact this
   ·cases h
  ·cases h
def gq (P:Program) (t:Nat):Option Nat:=match bG P 9 t with
 | some n=>bif jQ P t && !(P.eqGuardType P.depth t)then some n else none
 | none=>none
def qG (P:Program):EqT:={ q:=gq P,n:=gq P,fit:=fun t l=>tM P 9 t (Gk l) }
open Classical in
theorem aW (P:Program):EqOk P (qG P):=by
 have h0:∀t n,gq P t=some n→P.eqGuardType P.depth t=false∧∀(l m:List At) (w:World),fI l=n→fI m=n→tM P 9 t (Gk l)=true→tM P 9 t (Gk m)=true→(Op.equalIn 10000 t (.agg (aD l).toArray) (.agg (aD m).toArray)).run P w=.ok (decide (aD l=aD m)) w:=by
  intro t n h;unfold gq at h;split at h
  ·rename_i k hk;cases hb:(jQ P t && !(P.eqGuardType P.depth t))<;>rw[hb]at h
   ·cases h
   ·cases h;rw[Bool.and_eq_true,Bool.not_eq_true']at hb;refine⟨hb.2,fun l m w h1 h2 h3 h4 => ?_⟩;have:=wT hk 10000 (by omega) (aD l) (aD m) w (by rw[aM,h1]) (by rw[aM,h2]) (by rw[sF]; exact h3) (by rw[sF]; exact h4);rw[hb.1]at this;exact this
  ·cases h
 refine⟨⟨fun t n h => ?_,fun t n h => ?_⟩,rfl⟩
 ·obtain⟨h1,h2⟩:=h0 t n h;exact⟨h1,fun l w hl hn=>by rw[h2 l l w hl hl hn hn,decide_eq_true rfl]⟩
 ·obtain⟨h1,h2⟩:=h0 t n h;exact⟨h1,fun l m w hl hm hn hn' hne=>by rw[h2 l m w hl hm hn hn',decide_eq_false hne]⟩
def oldOf (w:World) (b o:Nat) (l:List At):Prop:=b<w.heap.size∧w.rangeAt b o (aD l)
theorem fS {base:Nat} {w w':World} (h:Below base w w') {b o:Nat} {l:List Value} (hb:b<base) (hr:w.rangeAt b o l):w'.rangeAt b o l:=fun j v hj=>by
 rw[h.cell hb];exact hr j v hj
abbrev Tab2:=Nat→List CA→Option (List Prop×FR)
def ZO:Tab2:=fun _ _=>none
def FrOk (P:Program) (T:Tab2):Prop:=∀f cs pre r,T f cs=some (pre,r)→aP pre →
 (∀args w,(callFunc f args).run P w=.ok (.enter f args) w)∧∀(args:List Value) (w:World),cE w cs args→Calls P f args.toArray w (fun e w'=>r.ok w e w')
theorem tC (P:Program):FrOk P ZO:=fun _ _ _ _ h=>by cases h
def Tab2.add (T:Tab2) (f:Nat) (g:List CA→Option (List Prop×FR)):Tab2:=fun f' cs=>bif Nat.beq f' f then g cs else T f' cs
theorem FrOk.add {P:Program} {T:Tab2} (hT:FrOk P T) {f:Nat} {fn:Func} (hf:P.funcs[f]?=some fn) (hn:(fn.name == "runtime.NumGoroutine")=false) (hb:fn.body.isNone=false) {g:List CA→Option (List Prop×FR)}
  (h:∀cs pre r,g cs=some (pre,r)→aP pre→∀(args:List Value) (w:World),cE w cs args→Calls P f args.toArray w (fun e w'=>r.ok w e w')):FrOk P (T.add f g):=by
 intro f' cs pre r hg hp;unfold Tab2.add at hg;cases hb':Nat.beq f' f<;>rw[hb']at hg
 ·exact hT f' cs pre r hg hp
 ·cases Nat.eq_of_beq_eq_true hb';exact⟨fG hf hn hb,h cs pre r hg hp⟩
abbrev Tab3:=Nat→List CA→Option (List Prop×FS)
abbrev Tab4:=Nat→List CA→Option (List Prop×Nat×List At)
def FsOk (P:Program) (T:Tab3):Prop:=∀f cs pre r,T f cs=some (pre,r)→aP pre →
 (∀args w,(callFunc f args).run P w=.ok (.enter f args) w)∧∀(args:List Value) (w:World),cE w cs args→Calls P f args.toArray w (fun e w'=>r.ok w e w')
def WrOk (P:Program) (T:Tab4):Prop:=∀f cs pre j l,T f cs=some (pre,j,l)→aP pre →
 (∀args w,(callFunc f args).run P w=.ok (.enter f args) w)∧∀(args:List Value) (w:World),cE w cs args→∀b o n m,args[j]?=some (.slice (some ⟨b,o,none⟩) n m)→(∀q,w.frozen? ⟨b,q,none⟩=false) →
  Calls P f args.toArray w (fun e w'=>e=.returned (.slice (some ⟨b,o,none⟩) n m)∧WrAt w w' b l∧w'.rangeAt b o (aD l))
abbrev Tab5:=Nat→List CA→Option (List Prop×Nat×RV×List At)
def PtOk (P:Program) (T:Tab5):Prop:=∀f cs pre j r l,T f cs=some (pre,j,r,l)→aP pre →
 (∀args w,(callFunc f args).run P w=.ok (.enter f args) w)∧∀(args:List Value) (w:World),cE w cs args→∀b o,args[j]?=some (.pointer (some ⟨b,o,none⟩))→(∀q,w.frozen? ⟨b,q,none⟩=false) →
  Calls P f args.toArray w (fun e w'=>e=.returned r.den∧WrC w w' b∧w'.rangeAt b 0 (aD l))
def Fx:Tab5:=fun _ _=>none
theorem lF (P:Program):PtOk P Fx:=fun _ _ _ _ _ _ h=>by cases h
def Tab5.add (T:Tab5) (f:Nat) (g:List CA→Option (List Prop×Nat×RV×List At)):Tab5:=fun f' cs=>bif Nat.beq f' f then g cs else T f' cs
theorem PtOk.add {P:Program} {T:Tab5} (hT:PtOk P T) {f:Nat} {fn:Func} (hf:P.funcs[f]?=some fn) (hn:(fn.name == "runtime.NumGoroutine")=false) (hb:fn.body.isNone=false) {g:List CA→Option (List Prop×Nat×RV×List At)}
  (h:∀cs pre j r l,g cs=some (pre,j,r,l)→aP pre→∀(args:List Value) (w:World),cE w cs args→∀b o,args[j]?=some (.pointer (some ⟨b,o,none⟩))→(∀q,w.frozen? ⟨b,q,none⟩=false) →
   Calls P f args.toArray w (fun e w'=>e=.returned r.den∧WrC w w' b∧w'.rangeAt b 0 (aD l))):PtOk P (T.add f g):=by
 intro f' cs pre j r l hg hp;unfold Tab5.add at hg;cases hb':Nat.beq f' f<;>rw[hb']at hg
 ·exact hT f' cs pre j r l hg hp
 ·cases Nat.eq_of_beq_eq_true hb';exact⟨fG hf hn hb,h cs pre j r l hg hp⟩
theorem PtOk.ad {P:Program} {T:Tab5} (hT:PtOk P T) {f:Nat} {fn:Func} (hf:P.funcs[f]?=some fn) {g:List CA→Option (List Prop×Nat×RV×List At)}
 (h:∀cs pre j r l,g cs=some (pre,j,r,l)→aP pre→∀(args:List Value) (w:World),cE w cs args→∀b o,args[j]?=some (.pointer (some ⟨b,o,none⟩))→(∀q,w.frozen? ⟨b,q,none⟩=false)→Calls P f args.toArray w (fun e w'=>e=.returned r.den∧WrC w w' b∧w'.rangeAt b 0 (aD l))) (hn:(fn.name == "runtime.NumGoroutine")=false:=by kernel_rfl) (hb:fn.body.isNone=false:=by kernel_rfl):PtOk P (T.add f g):=hT.add hf hn hb h
abbrev Tab6:=Nat→Nat→List At→List CB→Option (List Prop×RV×List At)
def SP (b:Nat) (w:World) (r:RV) (l:List At) (e:Ending) (w':World):Prop:=e=.returned r.den∧WrC w w' b∧w'.rangeAt b 0 (aD l)
def PbOk (P:Program) (T:Tab6):Prop:=∀f b row cs pre r l,T f b row cs=some (pre,r,l)→aP pre→(∀args w,(callFunc f args).run P w=.ok (.enter f args) w) ∧
 ∀(args:List Value) (w:World),b<w.heap.size→w.rangeAt b 0 (aD row)→(∀q,w.frozen? ⟨b,q,none⟩=false)→CBs w b cs args→Calls P f args.toArray w (SP b w r l)
def Gw:Tab6:=fun _ _ _ _=>none
theorem mS (P:Program):PbOk P Gw:=fun _ _ _ _ _ _ _ h=>by cases h
def Tab6.add (T:Tab6) (f:Nat) (g:Nat→List At→List CB→Option (List Prop×RV×List At)):Tab6:=fun f' b row cs=>bif Nat.beq f' f then g b row cs else T f' b row cs
theorem PbOk.add {P:Program} {T:Tab6} (hT:PbOk P T) {f:Nat} {fn:Func} (hf:P.funcs[f]?=some fn) (hn:(fn.name == "runtime.NumGoroutine")=false) (hb:fn.body.isNone=false) {g:Nat→List At→List CB→Option (List Prop×RV×List At)}
  (h:∀b row cs pre r l,g b row cs=some (pre,r,l)→aP pre→∀(args:List Value) (w:World),b<w.heap.size→w.rangeAt b 0 (aD row)→(∀q,w.frozen? ⟨b,q,none⟩=false)→CBs w b cs args→Calls P f args.toArray w (SP b w r l)):PbOk P (T.add f g):=by
 intro f' b row cs pre r l hg hp;unfold Tab6.add at hg;cases hb':Nat.beq f' f<;>rw[hb']at hg
 ·exact hT f' b row cs pre r l hg hp
 ·cases Nat.eq_of_beq_eq_true hb';exact⟨fG hf hn hb,h b row cs pre r l hg hp⟩
def ZN:Tab3:=fun _ _=>none
def Fs:Tab4:=fun _ _=>none
theorem tB (P:Program):FsOk P ZN:=fun _ _ _ _ h=>by cases h
theorem pC (P:Program):WrOk P Fs:=fun _ _ _ _ _ h=>by cases h
def Tab3.add (T:Tab3) (f:Nat) (g:List CA→Option (List Prop×FS)):Tab3:=fun f' cs=>bif Nat.beq f' f then g cs else T f' cs
def Tab4.add (T:Tab4) (f:Nat) (g:List CA→Option (List Prop×Nat×List At)):Tab4:=fun f' cs=>bif Nat.beq f' f then g cs else T f' cs
theorem FsOk.add {P:Program} {T:Tab3} (hT:FsOk P T) {f:Nat} {fn:Func} (hf:P.funcs[f]?=some fn) (hn:(fn.name == "runtime.NumGoroutine")=false) (hb:fn.body.isNone=false) {g:List CA→Option (List Prop×FS)}
  (h:∀cs pre r,g cs=some (pre,r)→aP pre→∀(args:List Value) (w:World),cE w cs args→Calls P f args.toArray w (fun e w'=>r.ok w e w')):FsOk P (T.add f g):=by
 intro f' cs pre r hg hp;unfold Tab3.add at hg;cases hb':Nat.beq f' f<;>rw[hb']at hg
 ·exact hT f' cs pre r hg hp
 ·cases Nat.eq_of_beq_eq_true hb';exact⟨fG hf hn hb,h cs pre r hg hp⟩
theorem FsOk.ad {P:Program} {T:Tab3} (hT:FsOk P T) {f:Nat} {fn:Func} (hf:P.funcs[f]?=some fn) {g:List CA→Option (List Prop×FS)}
 (h:∀cs pre r,g cs=some (pre,r)→aP pre→∀(args:List Value) (w:World),cE w cs args→Calls P f args.toArray w (fun e w'=>r.ok w e w')) (hn:(fn.name == "runtime.NumGoroutine")=false:=by kernel_rfl) (hb:fn.body.isNone=false:=by kernel_rfl):FsOk P (T.add f g):=hT.add hf hn hb h
theorem WrOk.add {P:Program} {T:Tab4} (hT:WrOk P T) {f:Nat} {fn:Func} (hf:P.funcs[f]?=some fn) (hn:(fn.name == "runtime.NumGoroutine")=false) (hb:fn.body.isNone=false) {g:List CA→Option (List Prop×Nat×List At)}
  (h:∀cs pre j l,g cs=some (pre,j,l)→aP pre→∀(args:List Value) (w:World),cE w cs args→∀b o n m,args[j]?=some (.slice (some ⟨b,o,none⟩) n m)→(∀q,w.frozen? ⟨b,q,none⟩=false) →
   Calls P f args.toArray w (fun e w'=>e=.returned (.slice (some ⟨b,o,none⟩) n m)∧WrAt w w' b l∧w'.rangeAt b o (aD l))):WrOk P (T.add f g):=by
 intro f' cs pre j l hg hp;unfold Tab4.add at hg;cases hb':Nat.beq f' f<;>rw[hb']at hg
 ·exact hT f' cs pre j l hg hp
 ·cases Nat.eq_of_beq_eq_true hb';exact⟨fG hf hn hb,h cs pre j l hg hp⟩
theorem WrOk.ad {P:Program} {T:Tab4} (hT:WrOk P T) {f:Nat} {fn:Func} (hf:P.funcs[f]?=some fn) {g:List CA→Option (List Prop×Nat×List At)}
 (h:∀cs pre j l,g cs=some (pre,j,l)→aP pre→∀(args:List Value) (w:World),cE w cs args→∀b o n m,args[j]?=some (.slice (some ⟨b,o,none⟩) n m)→(∀q,w.frozen? ⟨b,q,none⟩=false)→Calls P f args.toArray w (fun e w'=>e=.returned (.slice (some ⟨b,o,none⟩) n m)∧WrAt w w' b l∧w'.rangeAt b o (aD l))) (hn:(fn.name == "runtime.NumGoroutine")=false:=by kernel_rfl) (hb:fn.body.isNone=false:=by kernel_rfl):WrOk P (T.add f g):=hT.add hf hn hb h
theorem WR {P:Program} {x:Ext} {w:World} (h2:FrOk P x.T2) (ho:∀b o l,x.old b o l→oldOf w b o l) (h3:FsOk P x.T3) (h4:WrOk P x.T4) (h5:PtOk P x.T5:=by exact lF _) (h6:PbOk P x.T6:=by exact mS _):ExtOk P x w.heap.size w:=fun w' hb =>
 ⟨fun b o l h=>fS hb (ho b o l h).1 (ho b o l h).2,fun f cs pre r hg hp=>⟨(h2 f cs pre r hg hp).1,fun args ha=>(h2 f cs pre r hg hp).2 args w' ha⟩,
  fun f cs pre r hg hp=>⟨(h3 f cs pre r hg hp).1,fun args ha=>(h3 f cs pre r hg hp).2 args w' ha⟩,fun f cs pre j l hg hp=>⟨(h4 f cs pre j l hg hp).1,fun args ha=>(h4 f cs pre j l hg hp).2 args w' ha⟩,fun f cs pre j r l hg hp=>⟨(h5 f cs pre j r l hg hp).1,fun args ha=>(h5 f cs pre j r l hg hp).2 args w' ha⟩,fun f b row cs pre r l hg hp=>⟨(h6 f b row cs pre r l hg hp).1,fun args=>(h6 f b row cs pre r l hg hp).2 args w'⟩⟩
def FrAt (P:Program) (T:Tab2) (w:World):Prop:=∀f cs pre r,T f cs=some (pre,r)→aP pre→(∀args w,(callFunc f args).run P w=.ok (.enter f args) w)∧∀(args:List Value),cE w cs args→Calls P f args.toArray w (fun e w'=>r.ok w e w')
def FsAt (P:Program) (T:Tab3) (w:World):Prop:=∀f cs pre r,T f cs=some (pre,r)→aP pre→(∀args w,(callFunc f args).run P w=.ok (.enter f args) w)∧∀(args:List Value),cE w cs args→Calls P f args.toArray w (fun e w'=>r.ok w e w')
theorem FrAt.none (P:Program) (w:World):FrAt P ZO w:=fun _ _ _ _ h=>by cases h
theorem FsAt.none (P:Program) (w:World):FsAt P ZN w:=fun _ _ _ _ h=>by cases h
theorem FrAt.add {P:Program} {T:Tab2} {w:World} (hT:FrAt P T w) {f:Nat} {fn:Func} (hf:P.funcs[f]?=some fn) (hn:(fn.name == "runtime.NumGoroutine")=false) (hb:fn.body.isNone=false) {g:List CA→Option (List Prop×FR)}
  (h:∀cs pre r,g cs=some (pre,r)→aP pre→∀(args:List Value),cE w cs args→Calls P f args.toArray w (fun e w'=>r.ok w e w')):FrAt P (T.add f g) w:=by
 intro f' cs pre r hg hp;unfold Tab2.add at hg;cases hb':Nat.beq f' f<;>rw[hb']at hg
 ·exact hT f' cs pre r hg hp
 ·cases Nat.eq_of_beq_eq_true hb';exact⟨fG hf hn hb,h cs pre r hg hp⟩
theorem FsAt.add {P:Program} {T:Tab3} {w:World} (hT:FsAt P T w) {f:Nat} {fn:Func} (hf:P.funcs[f]?=some fn) (hn:(fn.name == "runtime.NumGoroutine")=false) (hb:fn.body.isNone=false) {g:List CA→Option (List Prop×FS)}
  (h:∀cs pre r,g cs=some (pre,r)→aP pre→∀(args:List Value),cE w cs args→Calls P f args.toArray w (fun e w'=>r.ok w e w')):FsAt P (T.add f g) w:=by
 intro f' cs pre r hg hp;unfold Tab3.add at hg;cases hb':Nat.beq f' f<;>rw[hb']at hg
 ·exact hT f' cs pre r hg hp
 ·cases Nat.eq_of_beq_eq_true hb';exact⟨fG hf hn hb,h cs pre r hg hp⟩
theorem WS {P:Program} {x:Ext} {base:Nat} {w:World} (ho:∀b o l,x.old b o l→b<base∧w.rangeAt b o (aD l)) (h2:∀w',Below base w w'→FrAt P x.T2 w') (h3:∀w',Below base w w'→FsAt P x.T3 w') (h4:WrOk P x.T4:=by exact pC _) (h5:PtOk P x.T5:=by exact lF _) (h6:PbOk P x.T6:=by exact mS _):ExtOk P x base w:=fun w' hb =>
 ⟨fun b o l h=>fS hb (ho b o l h).1 (ho b o l h).2,h2 w' hb,h3 w' hb,fun f cs pre j l hg hp=>⟨(h4 f cs pre j l hg hp).1,fun args ha=>(h4 f cs pre j l hg hp).2 args w' ha⟩,fun f cs pre j r l hg hp=>⟨(h5 f cs pre j r l hg hp).1,fun args ha=>(h5 f cs pre j r l hg hp).2 args w' ha⟩,fun f b row cs pre r l hg hp=>⟨(h6 f b row cs pre r l hg hp).1,fun args=>(h6 f b row cs pre r l hg hp).2 args w'⟩⟩
def qY (P:Program) (x:Ext):EqT:={ qG P with x:=x }
theorem yC {P:Program} {x:Ext} {w:World} (h2:FrOk P x.T2) (ho:∀b o l,x.old b o l→oldOf w b o l) (h3:FsOk P x.T3) (h4:WrOk P x.T4) (h5:PtOk P x.T5:=by exact lF _) (h6:PbOk P x.T6:=by exact mS _):dH P (qY P x) w.heap.size w:=⟨(aW P).1,WR h2 ho h3 h4 h5 h6⟩
def YE (P:Program) (A:List Fact):List ResultVar→Option FR
 | .tmp s::rest=>(match oU A s with
  | some (.sl k 0 n m)=>(match dG A k,kK P A rest with
   | some (true,l),some post=>some ⟨l,n,m,post⟩
   | _,_=>none)
  | _=>none)
 | _=>none
theorem lS {P:Program} {fn:Func} {A:List Fact} {r:FR} {w:World} (h:YE P A fn.results.toList=some r) {a:Act} {w':World} (hA:Holds fn.ntmps w.heap.size w A a w'):bodyPost P fn (fun e w'=>r.ok w e w') .ret a w':=by
 obtain⟨β,hok,_⟩:=hA.facts;unfold YE at h;split at h
 ·rename_i s rest hx;split at h
  ·rename_i k n m hl;split at h
   ·rename_i l post hr hp;cases h;obtain⟨g1,g2,g3,_⟩:=hok _ (aY hr);obtain⟨g4,g5,g6⟩:=g3 rfl;have hs:=hok _ (eJ hl);simp only[Fact.ok,AV.den]at hs;rw[g5]at hs g2;have hv:a.tmps.getD s undef=.slice (some ⟨(β k).1,0,none⟩) n m:=by simp[hs]
    have h1:(qC a.tmps (.tmp s)).run P w'=.ok (.slice (some ⟨(β k).1,0,none⟩) n m) w':=by
     show (pure (a.tmps.getD s undef):Sem Value).run P w'=_;rw[hv]; rfl
    have h2:=gK hok hp;have hres:(results fn a.tmps).run P w'=.ok ((⟨l,n,m,post⟩:FR).val (β k).1) w':=by
     show ((fn.results.mapM (qC a.tmps)) >>= fun vs=>pure (if h:vs.size=1 then vs[0]else .tuple vs):Sem Value).run P w'=_;have hm:(List.toArray <$> fn.results.toList.mapM (qC a.tmps)).run P w'=.ok (.slice (some ⟨(β k).1,0,none⟩) n m::post.map TV.den).toArray w':=by
      rw[hx];simp[List.mapM_cons,h1,h2]
     rw[Array.mapM_eq_mapM_toList,Sem.run_bind,hm,Result.andThen_ok,Sem.run_pure];refine congrArg (fun x=>Result.ok x w') ?_;unfold FR.val;cases post with
     | nil=>rfl
     | cons t ts=>rw[dif_neg (by simp)]; rfl
    exact⟨hA.defers,_,hres,(β k).1,rfl,hA.below,g4,g1,g2,g6⟩
   ·cases h
  ·cases h
 ·cases h
theorem Holds.at {nt base:Nat} {w0:World} {A:List Fact} {a:Act} {w:World} (h:Holds nt base w0 A a w) {k:Nat} {l:List At} (hk:Fact.row k true l∈A):∃b,Holds nt base w0 (.at k b::A) a w:=by
 obtain⟨β,h1,h2,h3⟩:=h.facts;obtain⟨_,_,g3,_⟩:=h1 _ hk;have up:∀k1 o1 l1,Fact.row k1 o1 l1∈(Fact.at k (β k).1::A)→Fact.row k1 o1 l1∈A:=fun k1 o1 l1 e=>by
  rcases List.mem_cons.1 e with e|e
  ·cases e
  ·exact e
 refine⟨(β k).1,h.defers,h.size,h.below,h.heap,β,fun φ hφ => ?_,fun k1 k2 o2 l1 l2 e1 e2=>h2 k1 k2 o2 l1 l2 (up _ _ _ e1) (up _ _ _ e2),fun k1 l1 e=>h3.1 k1 l1 (up _ _ _ e),h3.2⟩
 rcases List.mem_cons.1 hφ with rfl|hφ
 ·exact⟨rfl,(g3 rfl).2.1⟩
 ·exact h1 φ hφ
end Go.Proofs.YtjeplinbleofnaaGreat.Ex
namespace Go.Proofs.YtjeplinbleofnaaGreat
open Go.Proofs.Tryz
open Go.RowKit
theorem VP:∃o:Obj,(∀w,(Instr.makeSlice 27 (.int .i64 32) (.int .i64 32)).run prog w=.ok (.slice (some ⟨w.heap.size,0,none⟩) 32 32) (w.alloc o))∧(∀(w:World) (b:Nat),b=w.heap.size→RowB (w.alloc o) b 32 (fun _=>0))∧(∀(w:World) (b:Nat),b=w.heap.size→∀j,(w.alloc o).frozen? ⟨b,j,none⟩=false):=by
 refine⟨.cells (Array.replicate 32 (.int .u8 0)) 5,fun _=>by kernel_rfl,fun w b hb k hk => ?_,fun w b hb j => ?_⟩
 ·subst hb;refine⟨?_,World.frozen?_alloc_new _ _ _ _⟩;rw[World.cell?_alloc_new];simp[hk]
 ·subst hb;exact World.frozen?_alloc_new _ _ _ _
set_option maxHeartbeats 1000000 in
theorem wV (a0 a1 a2 a3:Nat) (ha:aX a0 a1 a2 a3) (w:World) :
  Calls prog 39 #[.agg #[.int .u64 a0,.int .u64 a1,.int .u64 a2,.int .u64 a3]] w (fun e w'=>∃b:Nat,e=.returned (.slice (some ⟨b,0,none⟩) 32 32)∧w.heap.size≤b∧b<w'.heap.size∧RowB w' b 32 (bH (aA a0 a1 a2 a3))∧Below w.heap.size w w'∧∀j,w'.frozen? ⟨b,j,none⟩=false):=by
 obtain⟨o,hmk,ho,hof⟩:=VP;have Hof:=Lib.hid hof;have hix:∀W,Row4 W w.heap.size a0 a1 a2 a3→RowIs W w.heap.size 4 (cG [a0,a1,a2,a3]):=fun W h=>h.rows
 have hP:=iD ha;have HA:=Lib.hid (mV a0 a1 a2 a3);have Ho:=Lib.hid ho;have R0:=Lib.hid ((RowIs.mk w 49 [a0,a1,a2,a3] w.heap.size rfl).alloc (by simp) o);have HP:=Lib.hid hP;clear ho hix hP hof;generalize cG [a0,a1,a2,a3]=P at *;rw[HA.out];clear HA;generalize hv:bP 18446744073709551616 P 4=A;have Hv:=Lib.hid hv;clear hv
 go_enter func39,ntmps39
 go_wp2_with fail
 go_loopw [6] (fun x wr=>∃i:Nat,i≤32∧x=.int .i64 i∧RowIs wr w.heap.size 4 P∧RowB wr (w.heap.size+1) 32 (fun p=>if 32≤p+i then bH A p else 0)∧Below w.heap.size w wr∧w.heap.size+1<wr.heap.size∧Hid (∀j,wr.frozen? ⟨w.heap.size+1,j,none⟩=false)) (fun x _=>32-(intOf x).toNat)
 case atStart =>
  refine⟨0,by omega,rfl,R0.out,(Ho.out _ _ (by simp)).ext (fun k hk=>by rw[if_neg (by omega)]),?_,by simp,Lib.hid (fun j=>Hof.out _ _ (by simp) j)⟩;exact ((Below.refl _ _).alloc (Nat.le_refl _) _).alloc (by simp) _
 case round =>
  obtain⟨i,hi,rfl,rP,rB,hb,hz,HF⟩:=hrel;have HB:=Lib.hid hb
  by_cases hlt:i<32
  ·obtain⟨j,m,s,p,q1,q2,q3,q4,hj,hm,hs,hp,e⟩:=YW hlt;have cx:=rP.cell hj;have cb:=(rB p hp).1;have fb:=(rB p hp).2;have lx:=HP.out j;obtain⟨t,e1,e2,lt⟩:=GM (b:=bH A p) (s:=s) lx (by
    obtain⟨k1,k2,k3⟩:=e.out;rw[k2,tO P HP.out 4 j m hj hm,Hv.out,←k1];unfold bH;rw[k3,show 31-(31-i)=i by omega])
   have HrP:=Lib.hid rP;have HrB:=Lib.hid ((rB.set (v:=bH A p) hp).ext (R:=fun k=>if 32≤k+(i+1)then bH A k else 0) (fun k hk=>by
    obtain⟨k1,k2,k3⟩:=e.out;unfold cN
    by_cases h:k=p
    ·rw[if_pos h,if_pos (by omega),h]
    ·rw[if_neg h];show (if 32≤k+i then bH A k else 0)=_
     by_cases h':32≤k+i
     ·rw[if_pos h',if_pos (by omega)]
     ·rw[if_neg h',if_neg (by omega)]))
   have lb:=pA A p;generalize P j=x at *;generalize bH A p=b at *;clear rP rB hb e;go_wp2_with fail
   go_roundw
   case rel=>exact⟨i+1,by omega,by go_num,HrP.out.other (by omega) _,HrB.out,HB.out.setCell (p:=⟨w.heap.size+1,p,none⟩) (by simp) _,by rw[World.size_setCell]; exact hz,Lib.hid (fun j=>by rw[World.frozen?_setCell]; exact HF.out j)⟩
   case measure=>first|(simp[intOf]; done)|(simp[intOf]; omega)
  ·obtain rfl:i=32:=by omega
   have HrB:=Lib.hid (rB.ext (R:=bH A) (fun k hk=>by rw[if_pos (by omega)]));clear rB rP hb;go_wp2_with fail;go_ret;exact⟨w.heap.size+1,rfl,by omega,hz,HrB.out,HB.out,HF.out⟩
set_option maxHeartbeats 4000000 in
theorem qD (a0 a1 a2 a3:Nat) (ha:aX a0 a1 a2 a3) (w:World) :
  Calls prog 17 #[.agg #[.int .u64 a0,.int .u64 a1,.int .u64 a2,.int .u64 a3]] w fun e w'=>∃b cap:Nat,e=.returned (.slice (some ⟨b,0,none⟩) 32 cap)∧w.heap.size≤b∧b<w'.heap.size∧(∀k,k<32→w'.cell? ⟨b,k,none⟩=some (.int .u8 (bH (aA a0 a1 a2 a3) k:Nat)))∧Below w.heap.size w w'∧(∀j,w'.frozen? ⟨b,j,none⟩=false)∧Ex.AppAt w' b 5 1 32 cap:=by
 have hP:=iD ha;have HA:=Lib.hid (mV a0 a1 a2 a3);have HRow:=Lib.hid (RowIs.mk w 49 [a0,a1,a2,a3] w.heap.size rfl);have HP:=Lib.hid hP;clear hP;generalize cG [a0,a1,a2,a3]=P at *;rw[HA.out];clear HA;generalize hv:bP 18446744073709551616 P 4=A;have Hv:=Lib.hid hv;clear hv;obtain⟨i0,hi,hz0,hz1,hz2⟩:=info_parts qJ
 go_enter func17,ntmps17
 go_wp2_with fail;have HW0:=Lib.hid (show Below w.heap.size w (w.alloc (.cells #[.int .u64 a0,.int .u64 a1,.int .u64 a2,.int .u64 a3] 49))∧RowIs (w.alloc (.cells #[.int .u64 a0,.int .u64 a1,.int .u64 a2,.int .u64 a3] 49)) w.heap.size 4 P∧(w.alloc (.cells #[.int .u64 a0,.int .u64 a1,.int .u64 a2,.int .u64 a3] 49)).heap.size=w.heap.size+1 from⟨(Below.refl _ _).alloc (Nat.le_refl _) _,HRow.out,by simp⟩);clear HRow;generalize w.alloc (.cells #[.int .u64 a0,.int .u64 a1,.int .u64 a2,.int .u64 a3] 49)=W0 at HW0 ⊢
 go_loopw [3,4] (fun v x wr=>∃(q:Nat) (m:Int),q≤4∧Hid (m=3-(q:Int))∧x=.int .i64 m∧wr.ownsRow (w.heap.size+1) 5 1 v (8*q) (lD A (8*q))∧Below (w.heap.size+1) W0 wr) (fun _ x _=>(intOf x+1).toNat)
 case atStart=>exact⟨0,3,by omega,Lib.hid (by omega),rfl,⟨rfl,Or.inl ⟨rfl,rfl⟩⟩,Below.refl _ _⟩
 case round =>
  obtain⟨q,m,hq,hm,rfl,hown,hb⟩:=hrel
  by_cases hlt:q<4
  ·have Hown:=Lib.hid hown;have HB:=Lib.hid hb;obtain⟨j,rfl,hj⟩:∃j:Nat,m=(j:Int)∧j=3-q:=⟨3-q,by have:=hm.out; omega,rfl⟩
   have lj:j<4:=by omega
   have Hj:=Lib.hid hj;have t1:decide ((0:Int)≤(j:Int))=true:=decide_eq_true (by omega);clear hown hb hj hm;obtain⟨wo,rfl⟩:∃wo:World,wo=wr:=⟨_,rfl⟩
   go_wp2_with fail
   go_loopw [3,5] (fun v x wi=>∃(n:Nat) (m:Int),n≤8∧Hid (m=7-(n:Int))∧x=.int .i64 m∧wi.ownsRow (w.heap.size+1) 5 1 v (8*q+n) (lD A (8*q+n))∧Below (w.heap.size+1) W0 wi) (fun _ x _=>(intOf x+1).toNat)
   case atStart=>exact⟨0,7,by omega,Lib.hid (by omega),rfl,Hown.out,HB.out⟩
   case round =>
    clear Hown HB;obtain⟨n,m,hn,hm,rfl,hown,hb⟩:=hrel
    by_cases hn8:n<8
    ·obtain⟨kk,hkk⟩:∃kk:Nat,m=(kk:Int):=⟨7-n,by have:=hm.out; omega⟩
     subst hkk;have hk':kk=7-n:=by have:=hm.out; omega
     have lk:kk≤7:=by omega
     have t2:decide ((0:Int)≤(kk:Int))=true:=decide_eq_true (by omega);obtain⟨sh,hsh,lsh,esh⟩:∃sh:Nat,(8:Int)*(kk:Int)=(sh:Int)∧sh≤56∧sh=8*kk:=⟨8*kk,by omega,by omega,rfl⟩
     have cx:=(HW0.out.2.1.below hb (by omega)).cell lj;have lx:=HP.out j;have hby:P j/2^sh%256=bH A (8*q+n):=by
      rw[esh,tO P HP.out 4 j kk lj (by omega),Hv.out];unfold bH;have:=Hj.out;rw[show 8*j+kk=31-(8*q+n) by omega]
     obtain⟨t,e1,e2,lt⟩:=GM lx hby;have hbl:=pA A (8*q+n);have HS:=Lib.hid (AK A (8*q+n));generalize bH A (8*q+n)=b at *;generalize P j=x at cx lx e1;have HO:=Lib.hid hown;have HB:=Lib.hid hb;have Hk:=Lib.hid hk';have hz:w.heap.size+1≤wr.heap.size:=by have:=hb.size; have:=HW0.out.2.2; omega
     clear hown hb hk' hm hby esh;go_wp2_with (at_builtin; refine wpList_append_own _ rfl _ _ 27 rfl (w.heap.size+1) 5 i0 (.int .u8 0) 1 1 underlying27 hi hz0 hz1 hz2 rfl (by decide) _ _ _ rfl (HO.out.alloc _) ⟨wr.heap.size,0,none⟩ 1 1 [.int .u8 (b:Nat)] rfl rfl ?c1 ?c2 ?c3 ?c4 ?c5 ?_)
     case c1 =>
      intro j u hj
      match j,hj with
      | 0,hj=>simp at hj; subst hj; simp[go_sem,Addr.add]
      | j+1,hj=>simp at hj
     case c2=>intro u hu; simp at hu; subst hu; rfl
     case c3=>unfold maxLen; omega
     case c4=>omega
     case c5=>simp; omega
     intro v' w1 hown1 hgrow hne;have HO1:=Lib.hid (show w1.ownsRow (w.heap.size+1) 5 1 v' (8*q+(n+1)) (lD A (8*q+(n+1))) by
      rw[show 8*q+(n+1)=8*q+n+1 by omega,HS.out]; exact hown1)
     have HB1:=Lib.hid ((HB.out.alloc (by have:=HW0.out.2.2; have:=HB.out.size; omega) _).grown hgrow (by simp; omega) (fun k hk=>Cb HO.out hk));clear hown1 hgrow hne;go_wp2_with fail
     go_roundw
     case rel=>exact⟨n+1,(kk:Int)-1,by omega,Lib.hid (by have:=Hk.out; omega),by first|rfl|go_num,HO1.out,HB1.out⟩
     case measure=>first|(simp[intOf]; done)|(simp[intOf]; omega)
    ·obtain rfl:n=8:=by omega
     obtain rfl:m = -1:=by have:=hm.out; omega
     have HO:=Lib.hid hown;have HB:=Lib.hid hb;clear hown hb hm;go_wp2_with fail
     go_roundw
     case rel=>exact⟨q+1,(j:Int)-1,by omega,Lib.hid (by have:=Hj.out; omega),by first|rfl|go_num,HO.out,HB.out⟩
     case measure=>first|(simp[intOf]; done)|(simp[intOf]; omega)
  ·obtain rfl:q=4:=by omega
   obtain rfl:m = -1:=by have:=hm.out; omega
   obtain⟨g,cap,hu,hg,lg⟩:=yU hown (by omega);subst hu;have HF:=Lib.hid (fun k (hk:k<32)=>OR hown k hk);have HO:=Lib.hid (Ex.nH hown);have HB:=Lib.hid (HW0.out.1.trans (hb.mono (Nat.le_succ _)));clear hown hb hm;go_wp2_with fail;go_ret;exact⟨g,cap,rfl,by have:=HO.out.2.1; omega,lg,HF.out,HB.out,HO.out.2.2.2.2,HO.out.1⟩
structure CR (R:Type) where
 add:R→R→R
 mul:R→R→R
 neg:R→R
 zero:R
 one:R
 add_assoc:∀a b c,add (add a b) c=add a (add b c)
 add_comm:∀a b,add a b=add b a
 zero_add:∀a,add zero a=a
 neg_add:∀a,add (neg a) a=zero
 mul_assoc:∀a b c,mul (mul a b) c=mul a (mul b c)
 mul_comm:∀a b,mul a b=mul b a
 one_mul:∀a,mul one a=a
 mul_add:∀a b c,mul a (add b c)=add (mul a b) (mul a c)
namespace CR
variable {R:Type} (K:CR R)
theorem add_left_comm (a b c:R):K.add a (K.add b c)=K.add b (K.add a c):=by rw[←K.add_assoc,K.add_comm a b,K.add_assoc]
theorem mul_left_comm (a b c:R):K.mul a (K.mul b c)=K.mul b (K.mul a c):=by rw[←K.mul_assoc,K.mul_comm a b,K.mul_assoc]
theorem add_mul (a b c:R):K.mul (K.add a b) c=K.add (K.mul a c) (K.mul b c):=by rw[K.mul_comm,K.mul_add,K.mul_comm c a,K.mul_comm c b]
theorem add_zero (a:R):K.add a K.zero=a:=by rw[K.add_comm,K.zero_add]
theorem add_neg (a:R):K.add a (K.neg a)=K.zero:=by rw[K.add_comm,K.neg_add]
theorem add_cancel {a b c:R} (h:K.add a b=K.add a c):b=c:=by
 have:=congrArg (K.add (K.neg a)) h
 rwa [←K.add_assoc,←K.add_assoc,K.neg_add,K.zero_add,K.zero_add]at this
theorem mul_zero (a:R):K.mul a K.zero=K.zero:=by
 apply K.add_cancel (a:=K.mul a K.zero);rw[←K.mul_add,K.add_zero,K.add_zero]
theorem zero_mul (a:R):K.mul K.zero a=K.zero:=by rw[K.mul_comm,K.mul_zero]
theorem mul_one (a:R):K.mul a K.one=a:=by rw[K.mul_comm,K.one_mul]
theorem neg_mul (a b:R):K.mul (K.neg a) b=K.neg (K.mul a b):=by
 apply K.add_cancel (a:=K.mul a b);rw[←K.add_mul,K.add_neg,K.zero_mul,K.add_neg]
theorem neg_neg (a:R):K.neg (K.neg a)=a:=by
 apply K.add_cancel (a:=K.neg a);rw[K.add_neg,K.neg_add]
theorem neg_add' (a b:R):K.neg (K.add a b)=K.add (K.neg a) (K.neg b):=by
 apply K.add_cancel (a:=K.add a b);rw[K.add_neg,K.add_assoc,K.add_left_comm b,K.add_neg,K.add_zero,K.add_neg]
theorem mul_neg (a b:R):K.mul a (K.neg b)=K.neg (K.mul a b):=by rw[K.mul_comm,K.neg_mul,K.mul_comm]
def sub (a b:R):R:=K.add a (K.neg b)
def sq (q:R):CR (R×R) where
 add x y:=(K.add x.1 y.1,K.add x.2 y.2)
 mul x y:=(K.add (K.mul x.1 y.1) (K.mul q (K.mul x.2 y.2)),K.add (K.mul x.1 y.2) (K.mul x.2 y.1))
 neg x:=(K.neg x.1,K.neg x.2)
 zero:=(K.zero,K.zero)
 one:=(K.one,K.zero)
 add_assoc a b c:=by simp only[K.add_assoc]
 add_comm a b:=by rw[K.add_comm a.1,K.add_comm a.2]
 zero_add a:=by simp only[K.zero_add]
 neg_add a:=by simp only[K.neg_add]
 mul_assoc a b c:=by
  simp only[K.mul_add,K.add_mul,K.mul_assoc,K.mul_left_comm,K.add_assoc,K.add_left_comm,K.add_comm]
 mul_comm a b:=by
  simp only[K.mul_comm,K.add_comm]
 one_mul a:=by simp only[K.one_mul,K.zero_mul,K.mul_zero,K.add_zero]
 mul_add a b c:=by
  simp only[K.mul_add,K.add_assoc,Prod.mk.injEq];constructor<;>(simp only[K.add_left_comm])
end CR
def Pu (M:Nat) (h:1<M):CR (Fin M) where
 add a b:=⟨(a.1+b.1)%M,Nat.mod_lt _ (by omega)⟩
 mul a b:=⟨a.1*b.1%M,Nat.mod_lt _ (by omega)⟩
 neg a:=⟨(0+M-a.1)%M,Nat.mod_lt _ (by omega)⟩
 zero:=⟨0,by omega⟩
 one:=⟨1,h⟩
 add_assoc a b c:=Fin.ext (by show ((a.1+b.1)%M+c.1)%M=(a.1+(b.1+c.1)%M)%M; rw[Nat.mod_add_mod,Nat.add_mod_mod,Nat.add_assoc])
 add_comm a b:=Fin.ext (by show (a.1+b.1)%M=(b.1+a.1)%M; rw[Nat.add_comm])
 zero_add a:=Fin.ext (by show (0+a.1)%M=a.1; rw[Nat.zero_add,Nat.mod_eq_of_lt a.2])
 neg_add a:=Fin.ext (by
  show ((0+M-a.1)%M+a.1)%M=0;have:=a.2;rw[Nat.mod_add_mod,show 0+M-a.1+a.1=M by omega,Nat.mod_self])
 mul_assoc a b c:=Fin.ext (by show a.1*b.1%M*c.1%M=a.1*(b.1*c.1%M)%M; rw[Nat.mod_mul_mod,Nat.mul_mod_mod,Nat.mul_assoc])
 mul_comm a b:=Fin.ext (by show a.1*b.1%M=b.1*a.1%M; rw[Nat.mul_comm])
 one_mul a:=Fin.ext (by show 1*a.1%M=a.1; rw[Nat.one_mul,Nat.mod_eq_of_lt a.2])
 mul_add a b c:=Fin.ext (by show a.1*((b.1+c.1)%M)%M=(a.1*b.1%M+a.1*c.1%M)%M; rw[Nat.mul_mod_mod,Nat.mul_add,Nat.add_mod])
end Go.Proofs.YtjeplinbleofnaaGreat
