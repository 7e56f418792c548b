/- Eb02 -/
import Derived.KernelRfl
import Derived.Laws.Externs
import Derived.Laws.StructEq
import Derived.Test.YtpjlhhpjpnacmaaGreatEb01
import Derived.Test.YtpjlhhpjpnacmaaGreatProg
set_option maxRecDepth 100000
set_option linter.unusedVariables false
set_option linter.unusedSimpArgs false
set_option linter.unnecessarySimpa false
namespace Go.Proofs.YtpjlhhpjpnacmaaGreat.Ex
open Go.Proofs.Tryz
open Go.RowKit
def iN (dst kill:Option Nat):Fact→Bool
 | .slot s v=>iH dst s||(match v.key with|some k=>iH dst k|none=>false)
 | .row k _ _=>iH dst k||iH kill k
 | .at k _=>iH dst k
 | .app k _ _ _=>iH dst k
structure Rec where
 M:List (Option Nat×Fact)
 dst:Option Nat
 kill:Option Nat
def UP (draw:Bool) (ops:Array Oper) (i j:Nat):Bool :=
 bif draw then (match ops[i]? with|some o=>o.after.toList.any (fun e=>Region.binds .any e&&Nat.beq e.on j)|none=>false)else Nat.blt j i
def Eh (φ:Fact):List Rec→Nat→Option Nat→Bool
 | [],_,_=>true
 | r::rs,j,b=>(bif (match b with|none=>true|some b'=>Nat.blt b' j)then !(iN r.dst r.kill φ)else true)&&Eh φ rs (j+1) b
def PG (draw:Bool) (ops:Array Oper) (i:Nat) (rs:List Rec) (x:Option Nat×Fact):Bool :=
 (match x.1 with|none=>true|some b=>UP draw ops i b)&&Eh x.2 rs 0 x.1
def tmps:List Operand→List Nat
 | []=>[]
 | .tmp s::r=>s::tmps r
 | _::r=>tmps r
def XE (ops:Array Oper) (o:Oper):List Nat :=
 match o.guard with
 | some (g,_)=>(match (ops[g]?).bind (·.dst)with|some s=>s::tmps o.op.operands.toList|none=>tmps o.op.operands.toList)
 | none=>tmps o.op.operands.toList
def Oj:Op→Bool
 | .load _ _=>true
 | .store _ _ _=>true
 | .call _=>true
 | _=>false
def qD (l:List Nat):List (Option Nat×Fact)→List Nat
 | []=>[]
 | (_,.slot s v)::r=>bif l.any (Nat.beq s)then (match v.key with|some k=>k::qD l r|none=>qD l r)else qD l r
 | _::r=>qD l r
def Vn (l ks:List Nat) (x:Option Nat×Fact):Bool :=
 match x.2 with
 | .slot s _=>l.any (Nat.beq s)
 | .row k _ _=>ks.any (Nat.beq k)
 | .at _ _=>true
 | .app k _ _ _=>ks.any (Nat.beq k)
def Qg:Op→Bool
 | .call c=>(match c.callee with | .value (.tmp _)=>true|_=>false)
 | _=>false
def Xw (ops:Array Oper) (o:Oper) (M:List (Option Nat×Fact)):List (Option Nat×Fact) :=
 match XE ops o with
 | l=>match (bif Oj o.op then (bif Qg o.op then 0::qD l M else qD l M)else [])with
  | ks=>M.filter (Vn l ks)
theorem XG {ops:Array Oper} {o:Oper} {M:List (Option Nat×Fact)} {x:Option Nat×Fact} (h:x∈Xw ops o M):x∈M:=(List.mem_filter.1 h).1
def uJ (E:Env) (draw:Bool) (ops:Array Oper):List Oper→Nat→List (Option Nat×Fact)→List Rec→List Prop→Option (List Prop×List (Option Nat×Fact)×List Rec)
 | [],_,TF,rs,ps=>some (ps,TF,rs)
 | o::rest,i,TF,rs,ps =>
  match Xw ops o (TF.filter (PG draw ops i rs))with
  | M=>match Me E ops (M.map (·.2)) o with
   | some (pre,out,kill)=>uJ E draw ops rest (i+1) (out.map (fun φ=>(some i,φ))++TF) (rs++[⟨M,o.dst,kill⟩]) (ps++pre)
   | none=>none
def nW {α:Type} (p:Nat→α→Bool):Nat→List α→Bool
 | _,[]=>true
 | k,x::r=>p k x&&nW p (k+1) r
theorem gS {α:Type} {p:Nat→α→Bool}:∀{l:List α} {k:Nat},nW p k l=true→∀i x,l[i]?=some x→p (k+i) x=true
 | [],k,_,i,x,hx=>by simp at hx
 | y::r,k,h,i,x,hx=>by
  unfold nW at h;rw[Bool.and_eq_true]at h;cases i with
  | zero=>cases hx; exact h.1
  | succ i =>
   have:=gS h.2 i x (by simpa using hx)
   rwa [show k+1+i=k+(i+1) by omega]at this
def KH (draw:Bool) (ops:Array Oper) (x:Option Nat×Fact) (j:Nat) (r:Rec):Bool :=
 iH x.1 j||(!(iN r.dst r.kill x.2)||(match x.1 with|some b=>UP draw ops b j|none=>false))
def Ld (draw:Bool) (ops:Array Oper) (rs:List Rec):Bool :=
 nW (fun i r=>r.M.all fun x=>nW (fun j r'=>Nat.beq j i||(UP draw ops j i||KH draw ops x j r')) 0 rs) 0 rs
def Pz (draw:Bool) (ops:Array Oper):Bool :=
 bif draw then nW (fun i (o:Oper)=>o.after.toList.all fun e => !(Region.binds .any e)||Nat.blt e.on i) 0 ops.toList else true
def SW (draw:Bool) (ops:Array Oper) (rs:List Rec) (x:Option Nat×Fact):Bool:=nW (fun j r=>KH draw ops x j r) 0 rs
def LH (E:Env) (draw:Bool) (ops:Array Oper) (A:List Fact):Option (List Prop×List Fact) :=
 match uJ E draw ops ops.toList 0 (A.map fun φ=>(none,φ)) [] []with
 | some (ps,TF,rs)=>bif Ld draw ops rs&&Pz draw ops then some (ps,(TF.filter (SW draw ops rs)).map (·.2))else none
 | none=>none
section
variable {E:Env} {draw:Bool} {ops:Array Oper}
theorem mL:∀{rem:List Oper} {i:Nat} {TF TF':List (Option Nat×Fact)} {rs rs':List Rec} {ps ps':List Prop},uJ E draw ops rem i TF rs ps=some (ps',TF',rs')→rs.length=i →
  (∀x∈TF,x∈TF')∧(∀x∈TF',x∈TF∨∃b,x.1=some b∧i≤b∧b<i+rem.length)∧(aS ps'→aS ps)∧(∀j,j<i→rs'[j]?=rs[j]?)∧rs'.length=i+rem.length ∧
  ∀j o,rem[j]?=some o→∃r pre out,rs'[i+j]?=some r∧r.dst=o.dst∧Me E ops (r.M.map (·.2)) o=some (pre,out,r.kill)∧(aS ps'→aS pre) ∧
   (∀x∈r.M,x∈TF'∧∀b,x.1=some b→UP draw ops (i+j) b=true)∧∀φ,(some (i+j),φ)∈TF'→(some (i+j),φ)∈TF∨φ∈out
 | [],i,TF,TF',rs,rs',ps,ps',h,hl=>by
  cases h;exact⟨fun _ h=>h,fun _ h=>Or.inl h,fun h=>h,fun _ _=>rfl,by simp[hl],fun j o ho=>by simp at ho⟩
 | o::rest,i,TF,TF',rs,rs',ps,ps',h,hl=>by
  unfold uJ at h;simp only at h;split at h
  ·rename_i pre out kill ho;obtain⟨h1,h2,h3,h4,h5,h6⟩:=mL h (by simp[hl]);have hps:aS ps'→aS ps∧aS pre:=fun h=>dK.1 (h3 h)
   refine⟨fun x hx=>h1 x (List.mem_append_right _ hx),fun x hx => ?_,fun h=>(hps h).1,fun j hj => ?_,by rw[h5]; simp; omega,?_⟩
   ·rcases h2 x hx with hx|⟨b,hb,hi,hlt⟩
    ·rcases List.mem_append.1 hx with hx|hx
     ·obtain⟨φ,_,rfl⟩:=List.mem_map.1 hx;exact Or.inr ⟨i,rfl,Nat.le_refl _,by simp⟩
     ·exact Or.inl hx
    ·exact Or.inr ⟨b,hb,by omega,by simp; omega⟩
   ·rw[h4 j (by omega),List.getElem?_append_left (by omega)]
   ·intro j o' hj;cases j with
    | zero =>
     cases hj;refine⟨_,pre,out,by rw[Nat.add_zero,h4 i (by omega),List.getElem?_append_right (by omega),hl,Nat.sub_self]; rfl,rfl,ho,fun h=>(hps h).2,fun x hx => ?_,fun φ hφ => ?_⟩
     ·obtain⟨hx1,hx2⟩:=List.mem_filter.1 (XG hx);refine⟨h1 x (List.mem_append_right _ hx1),fun b hb => ?_⟩;unfold PG at hx2;rw[hb]at hx2;simp only[Bool.and_eq_true]at hx2;exact hx2.1
     ·rcases h2 _ hφ with hx|⟨b,hb,hi,hlt⟩
      ·rcases List.mem_append.1 hx with hx|hx
       ·obtain⟨ψ,hψ,e⟩:=List.mem_map.1 hx;cases e;exact Or.inr hψ
       ·exact Or.inl hx
      ·simp only[Nat.add_zero,Option.some.injEq]at hb;omega
    | succ j =>
     obtain⟨r,pre',out',e1,e2,e3,e4,e5,e6⟩:=h6 j o' (by simpa using hj);rw[show i+1+j=i+(j+1) by omega]at e1 e5 e6;refine⟨r,pre',out',e1,e2,e3,e4,e5,fun φ hφ => ?_⟩
     rcases e6 φ hφ with hx|hx
     ·rcases List.mem_append.1 hx with hx|hx
      ·obtain⟨ψ,hψ,e⟩:=List.mem_map.1 hx;simp only[Prod.mk.injEq,Option.some.injEq]at e;omega
      ·exact Or.inl hx
     ·exact Or.inr hx
  ·cases h
def jC (draw:Bool) (ops:Array Oper) (rs:List Rec) (G:Nat→Prop) (x:Option Nat×Fact):Prop :=
 (∀b,x.1=some b→G b)∧∀j r,rs[j]?=some r→G j→x.1≠some j→iN r.dst r.kill x.2=true→∃b,x.1=some b∧UP draw ops b j=true
structure Tail (nt base:Nat) (w0:World) (β:Nat→Bk) (w:World):Prop where
 size:(β nt).1≤w.heap.size
 mem:∀p:Addr,base<p.block→p.block<(β nt).1→w.cell? p=w0.cell? p∧w.frozen? p=w0.frozen? p
 shape:Shape w0 w
structure Inv (E:Env) (draw:Bool) (ops:Array Oper) (base:Nat) (w0:World) (TF:List (Option Nat×Fact)) (rs:List Rec) (G:Nat→Prop) (a:Act) (w:World):Prop where
 defers:a.defers=[]
 size:a.tmps.size=E.nt
 below:Below base w0 w
 heap:base≤w.heap.size
 closed:∀i j,G i→UP draw ops i j=true→G j
 facts:∃β:Nat→Bk,(∀x∈TF,jC draw ops rs G x→x.2.ok base β a w) ∧
  (∀x∈TF,∀y∈TF,jC draw ops rs G x→jC draw ops rs G y→∀k k' o' l l',x.2=.row k true l→y.2=.row k' o' l'→k≠k'→(β k).1≠(β k').1) ∧
  (∀x∈TF,jC draw ops rs G x→∀k l,x.2=.row k true l→(β k).1=base∨(β E.nt).1≤(β k).1)∧Tail E.nt base w0 β w
theorem Iv {base:Nat} {β β':Nat→Bk} {a a':Act} {w w':World} {dst kill:Option Nat} {M out:List Fact} (hP:PostB base β β' a w dst M out kill a' w') {φ:Fact} (h:φ.ok base β a w) (hc:iN dst kill φ=false)
  (hk:∀kk k own l,kill=some kk→φ=.row k own l→(β kk).1≠(β k).1):φ.ok base β' a' w':=by
 cases φ with
 | slot s v =>
  simp only[iN,Bool.or_eq_false_iff]at hc;have h1:dst≠some s:=fun e=>by have:=dE.2 e; rw[hc.1]at this; cases this
  have h2:∀k,v.key=some k→β' k=β k:=fun k hv=>hP.beta k fun e=>by
   have h3:=hc.2;rw[hv]at h3;have:=dE.2 e;simp only at h3;rw[h3]at this; cases this
  show a'.tmps[s]?=_;rw[hP.tmps s h1,AV.den_eq v h2];exact h
 | row k own l =>
  simp only[iN,Bool.or_eq_false_iff]at hc;have h1:dst≠some k:=fun e=>by have:=dE.2 e; rw[hc.1]at this; cases this
  obtain⟨g1,g2,g3,g4⟩:=h;have hm:∀j,w'.cell? ⟨(β k).1,j,none⟩=w.cell? ⟨(β k).1,j,none⟩∧w'.frozen? ⟨(β k).1,j,none⟩=w.frozen? ⟨(β k).1,j,none⟩:=fun j=>hP.mem ⟨(β k).1,j,none⟩ g1 fun kk hkk e=>hk kk k own l hkk rfl e.symm
  refine⟨?_,?_,?_,g4⟩<;>rw[hP.beta k h1]
  ·exact Nat.lt_of_lt_of_le g1 hP.heap
  ·intro j v hj;rw[(hm _).1];exact g2 j v hj
  ·exact fun ho=>⟨(g3 ho).1,(g3 ho).2.1,fun j=>by rw[(hm _).2]; exact (g3 ho).2.2 j⟩
 | «at» k b =>
  have h1:dst≠some k:=fun e=>by have:=dE.2 e; rw[show iH dst k=false from hc]at this; cases this
  show (β' k).1=b∧(β' k).2.1=0;rw[hP.beta k h1];exact h
 | app k e sz n =>
  have h1:dst≠some k:=fun e=>by have:=dE.2 e; rw[show iH dst k=false from hc]at this; cases this
  show AppAt w' (β' k).1 e sz n (β' k).2.2;rw[hP.beta k h1];exact AppAt.shape hP.shape h
theorem sJ {base:Nat} {w0:World} {A:List Fact} {TF:List (Option Nat×Fact)} {rs:List Rec} {ps:List Prop} (hT:∀d,TabOkW E.P (E.T d) base w0) (hq:dC E.P E.q base w0)
  (hrun:uJ E draw ops ops.toList 0 (A.map fun φ=>(none,φ)) [] []=some (ps,TF,rs)) (hps:aS ps) (hchk:Ld draw ops rs=true) {Q:Exit→Act→World→Prop}
  {G:Nat→Prop} {a:Act} {w:World} (hI:Inv E draw ops base w0 TF rs G a w) {i:Nat} {o:Oper} (ho:ops[i]?=some o) (hi:¬G i) (hdeps:∀j,UP draw ops i j=true→G j) :
  if Region.wanted o (yielded ops a.tmps)=true then o.wp E.P a w (Inv E draw ops base w0 TF rs (fun j=>j=i∨G j)) Q else Inv E draw ops base w0 TF rs (fun j=>j=i∨G j) (a.put o.dst undef) w:=by
 obtain⟨_,_,_,_,_,hops⟩:=mL hrun rfl;obtain⟨r,pre,out,hr,hdst,hop,hpre,hM,hborn⟩:=hops i o (by simpa using ho);rw[Nat.zero_add]at hr hM hborn;obtain⟨β,hok,hinj,hown,htl⟩:=hI.facts;have hMv:∀x∈r.M,jC draw ops rs G x:=fun x hx=>by
  refine⟨fun b hb=>hdeps b ((hM x hx).2 b hb),fun j r' hj hG hne hcl => ?_⟩;have h1:=gS hchk i r hr;rw[List.all_eq_true]at h1;have h2:=gS (h1 x hx) j r' hj;rw[Nat.zero_add,Nat.zero_add]at h2;rw[Bool.or_eq_true,Bool.or_eq_true]at h2
  rcases h2 with h2|h2|h2
  ·exact absurd (Nat.eq_of_beq_eq_true h2▸hG) hi
  ·exact absurd (hI.closed j i hG h2) hi
  ·unfold KH at h2;rw[Bool.or_eq_true,Bool.or_eq_true,hcl]at h2
   rcases h2 with h2|h2|h2
   ·exact absurd (dE.1 h2) hne
   ·cases h2
   ·split at h2
    ·rename_i b hb; exact⟨b,hb,h2⟩
    ·cases h2
 refine RU (ops:=ops) (fun d=>hT d w hI.below) (hq.2 w hI.below) hq.1 (M:=r.M.map (·.2)) (out:=out) (kill:=r.kill) (β:=β) (base:=base) (fun φ hφ => ?_) hI.heap hI.size (fun β' a' w' hP => ?_) hop (hpre hps)
 ·obtain⟨x,hx,rfl⟩:=List.mem_map.1 hφ;exact hok x (hM x hx).1 (hMv x hx)
 have hnt:β' E.nt=β E.nt:=hP.beta E.nt fun e=>Nat.lt_irrefl _ (Hy hop e)
 have hrowM:∀k l0,Fact.row k true l0∈r.M.map (·.2)→∃x∈TF,jC draw ops rs G x∧x.2=.row k true l0:=fun k l0 h=>by
  obtain⟨x,hx,e⟩:=List.mem_map.1 h;exact⟨x,(hM x hx).1,hMv x hx,e⟩
 have hkill:∀x∈TF,jC draw ops rs G x→iN o.dst r.kill x.2=false→∀kk k own l,r.kill=some kk→x.2=.row k own l→(β kk).1≠(β k).1:=fun x hx hv hc kk k own l hkk hφ=>by
  obtain⟨l0,hl0⟩:=hP.kills kk hkk;obtain⟨y,hy,hyv,hye⟩:=hrowM kk l0 hl0;have hne:kk≠k:=fun e=>by
   rw[hφ]at hc;simp only[iN,Bool.or_eq_false_iff]at hc;have:=dE.2 (e▸hkk:r.kill=some k);rw[hc.2]at this; cases this
  exact hinj y hy x hx hyv hv kk k own l0 l hye hφ hne
 have hold:∀x∈TF,jC draw ops rs (fun j=>j=i∨G j) x→x.1≠some i→jC draw ops rs G x∧iN o.dst r.kill x.2=false:=fun x hx hv hne=>by
  refine⟨⟨fun b hb=>(hv.1 b hb).resolve_left fun e=>hne (by rw[hb,e]),fun j r' hj hG=>hv.2 j r' hj (Or.inr hG)⟩,?_⟩;cases hc:iN o.dst r.kill x.2 with
  | false=>rfl
  | true =>
   obtain⟨b,hb,hd⟩:=hv.2 i r hr (Or.inl rfl) hne (by rw[hdst]; exact hc);exact absurd (hI.closed b i ((hv.1 b hb).resolve_left fun e=>hne (by rw[hb,e])) hd) hi
 have hnew:∀x∈TF,x.1=some i→x.2∈out:=fun x hx e=>by
  obtain⟨b,φ⟩:=x;simp only at e;subst e
  rcases hborn φ hx with h|h
  ·obtain⟨ψ,_,e⟩:=List.mem_map.1 h;cases e
  ·exact h
 have hβ:∀x∈TF,jC draw ops rs (fun j=>j=i∨G j) x→x.1≠some i→∀k own l,x.2=.row k own l→β' k=β k:=fun x hx hv hne k own l hφ=>by
  obtain⟨_,hc⟩:=hold x hx hv hne;rw[hφ]at hc;simp only[iN,Bool.or_eq_false_iff]at hc;exact hP.beta k fun e=>by have:=dE.2 e; rw[hc.1]at this; cases this
 have hno:∀x∈TF,∀y∈TF,x.1=some i→jC draw ops rs (fun j=>j=i∨G j) y→y.1≠some i→∀k k' o' l l',x.2=.row k true l→y.2=.row k' o' l'→k≠k'→(β' k).1≠(β' k').1:=fun x hx y hy hxi hyv hyi k k' o' l l' hxe hye hkk=>by
  obtain⟨hyo,_⟩:=hold y hy hyv hyi;rw[hβ y hy hyv hyi k' o' l' hye];have h1:=hnew x hx hxi;rw[hxe]at h1
  rcases hP.rows k l h1 with⟨h2,_⟩|⟨h2,l0,h3⟩|⟨h2,k0,l0,hk0,he,h3⟩
  ·have h4:=hok y hy hyo;rw[hye]at h4;have:=h4.1;omega
  ·obtain⟨z,hz,hzv,hze⟩:=hrowM k l0 h3;rw[hP.beta k h2];exact hinj z hz y hy hzv hyo k k' o' l0 l' hze hye hkk
  ·obtain⟨z,hz,hzv,hze⟩:=hrowM k0 l0 h3;rw[he];refine hinj z hz y hy hzv hyo k0 k' o' l0 l' hze hye fun e => ?_
   subst e;have hc:=(hold y hy hyv hyi).2;rw[hye]at hc;simp only[iN,Bool.or_eq_false_iff]at hc;have:=dE.2 hk0;rw[hc.2]at this; cases this
 refine⟨by rw[hP.defers]; exact hI.defers,by rw[hP.size]; exact hI.size,hP.below w0 hI.below,Nat.le_trans hI.heap hP.heap,?_,β',?_,?_,?_,?_⟩
 ·intro p q hp hpq
  rcases hp with rfl|hp
  ·exact Or.inr (hdeps q hpq)
  ·exact Or.inr (hI.closed p q hp hpq)
 ·intro x hx hv
  by_cases e:x.1=some i
  ·exact hP.ok _ (hnew x hx e)
  ·obtain⟨h1,h2⟩:=hold x hx hv e;exact Iv hP (hok x hx h1) h2 (hkill x hx h1 h2)
 ·intro x hx y hy hxv hyv k k' o' l l' hxe hye hkk
  by_cases e1:x.1=some i
  ·by_cases e2:y.1=some i
   ·have h1:=hnew x hx e1;have h2:=hnew y hy e2;rw[hxe]at h1;rw[hye]at h2;cases o' with
    | true=>exact absurd (hP.one k k' l l' h1 h2) hkk
    | false=>exact (hP.onlyOwn k' l' h2).elim
   ·exact hno x hx y hy e1 hyv e2 k k' o' l l' hxe hye hkk
  ·by_cases e2:y.1=some i
   ·cases o' with
    | true=>exact fun e=>hno y hy x hx e2 hxv e1 k' k true l' l hye hxe (Ne.symm hkk) e.symm
    | false=>exact (hP.onlyOwn k' l' (hye▸hnew y hy e2)).elim
   ·rw[hβ x hx hxv e1 k true l hxe,hβ y hy hyv e2 k' o' l' hye];exact hinj x hx y hy (hold x hx hxv e1).1 (hold y hy hyv e2).1 k k' o' l l' hxe hye hkk
 ·intro x hx hv k l hxe;rw[hnt]
  by_cases e:x.1=some i
  ·have h1:=hnew x hx e;rw[hxe]at h1
   rcases hP.rows k l h1 with⟨h2,_⟩|⟨h2,l0,h3⟩|⟨h2,k0,l0,hk0,he,h3⟩
   ·exact Or.inr (Nat.le_trans htl.size h2)
   ·obtain⟨z,hz,hzv,hze⟩:=hrowM k l0 h3;rw[hP.beta k h2];exact hown z hz hzv k l0 hze
   ·obtain⟨z,hz,hzv,hze⟩:=hrowM k0 l0 h3;rw[he];exact hown z hz hzv k0 l0 hze
  ·rw[hβ x hx hv e k true l hxe];exact hown x hx (hold x hx hv e).1 k l hxe
 ·refine⟨by rw[hnt]; exact Nat.le_trans htl.size hP.heap,fun p h1 h2 => ?_,htl.shape.trans hP.shape⟩;rw[hnt]at h2;have h3:=hP.mem p (Nat.lt_of_lt_of_le h2 htl.size) fun kk hkk e=>by
   obtain⟨l0,hl0⟩:=hP.kills kk hkk;obtain⟨z,hz,hzv,hze⟩:=hrowM kk l0 hl0
   rcases hown z hz hzv kk l0 hze with h4|h4<;>omega
  have h4:=htl.mem p h1 h2;exact⟨h3.1.trans h4.1,h3.2.trans h4.2⟩
end
structure Holds (nt base:Nat) (w0:World) (A:List Fact) (a:Act) (w:World):Prop where
 defers:a.defers=[]
 size:a.tmps.size=nt
 below:Below base w0 w
 heap:base≤w.heap.size
 facts:∃β:Nat→Bk,(∀φ∈A,φ.ok base β a w)∧(∀k k' o' l l',Fact.row k true l∈A→Fact.row k' o' l'∈A→k≠k'→(β k).1≠(β k').1)∧(∀k l,Fact.row k true l∈A→(β k).1=base∨(β nt).1≤(β k).1)∧Tail nt base w0 β w
theorem Holds.drew {nt base:Nat} {w0:World} {A:List Fact} {a:Act} {w:World} (h:Holds nt base w0 A a w):Holds nt base w0 A a w.drew :=
 h.facts.elim fun β hβ=>⟨h.defers,h.size,h.below.drew,h.heap,β,hβ.1,hβ.2.1,hβ.2.2.1,hβ.2.2.2.size,hβ.2.2.2.mem,hβ.2.2.2.shape.trans (Shape.drew _)⟩
section
variable {E:Env} {draw:Bool} {ops:Array Oper} {base:Nat} {w0:World} {A A':List Fact} {TF:List (Option Nat×Fact)} {rs:List Rec} {ps:List Prop} {a:Act} {w:World} {Q:Exit→Act→World→Prop}
theorem pP (hrun:uJ E draw ops ops.toList 0 (A.map fun φ=>(none,φ)) [] []=some (ps,TF,rs)) (h:Holds E.nt base w0 A a w):Inv E draw ops base w0 TF rs (fun _=>False) a w:=by
 obtain⟨_,h2,_⟩:=mL hrun rfl;obtain⟨β,hok,hinj,hown,htl⟩:=h.facts;have hA:∀x∈TF,jC draw ops rs (fun _=>False) x→x.2∈A:=fun x hx hv=>by
  rcases h2 x hx with hx|⟨b,hb,_⟩
  ·obtain⟨φ,hφ,rfl⟩:=List.mem_map.1 hx;exact hφ
  ·exact (hv.1 b hb).elim
 exact⟨h.defers,h.size,h.below,h.heap,fun _ _ h=>h.elim,β,fun x hx hv=>hok _ (hA x hx hv),fun x hx y hy hxv hyv k k' o' l l' hxe hye hkk=>hinj k k' o' l l' (hxe▸hA x hx hxv) (hye▸hA y hy hyv) hkk,fun x hx hv k l hxe=>hown k l (hxe▸hA x hx hv),htl⟩
theorem yF (hrun:uJ E draw ops ops.toList 0 (A.map fun φ=>(none,φ)) [] []=some (ps,TF,rs)) {G:Nat→Prop} (hG:∀i,i<ops.size→G i) (h:Inv E draw ops base w0 TF rs G a w) :
  Holds E.nt base w0 ((TF.filter (SW draw ops rs)).map (·.2)) a w:=by
 obtain⟨_,h2,_⟩:=mL hrun rfl;obtain⟨β,hok,hinj,hown,htl⟩:=h.facts;have hv:∀φ∈(TF.filter (SW draw ops rs)).map (·.2),∃x∈TF,jC draw ops rs G x∧x.2=φ:=fun φ hφ=>by
  obtain⟨x,hx,rfl⟩:=List.mem_map.1 hφ;obtain⟨h3,h4⟩:=List.mem_filter.1 hx;refine⟨x,h3,⟨fun b hb => ?_,fun j r hj _ hne hc => ?_⟩,rfl⟩
  ·rcases h2 x h3 with h5|⟨b',hb',_,hlt⟩
   ·obtain⟨ψ,_,rfl⟩:=List.mem_map.1 h5;cases hb
   ·rw[hb']at hb;cases hb;exact hG b (by simpa using hlt)
  ·have h5:=gS h4 j r hj;rw[Nat.zero_add]at h5;unfold KH at h5;rw[Bool.or_eq_true,Bool.or_eq_true,hc]at h5
   rcases h5 with h5|h5|h5
   ·exact absurd (dE.1 h5) hne
   ·cases h5
   ·split at h5
    ·rename_i b hb; exact⟨b,hb,h5⟩
    ·cases h5
 refine⟨h.defers,h.size,h.below,h.heap,β,fun φ hφ => ?_,fun k k' o' l l' hk hk' hne => ?_,fun k l hk => ?_,htl⟩
 ·obtain⟨x,h1,h2,rfl⟩:=hv φ hφ;exact hok x h1 h2
 ·obtain⟨x,h1,h2,e1⟩:=hv _ hk;obtain⟨y,h3,h4,e2⟩:=hv _ hk';exact hinj x h1 y h3 h2 h4 k k' o' l l' e1 e2 hne
 ·obtain⟨x,h1,h2,e1⟩:=hv _ hk;exact hown x h1 h2 k l e1
def fr:Nat→Array Bool→Nat
 | 0,_=>0
 | n+1,g=>fr n g+(bif g.getD n false then 0 else 1)
theorem JR:∀{n:Nat} {g:Array Bool},fr n g=0→∀i,i<n→g.getD i false=true
 | 0,g,_,i,hi=>by omega
 | n+1,g,h,i,hi=>by
  unfold fr at h
  by_cases e:i=n
  ·subst e;cases hb:g.getD i false
   ·rw[hb]at h; simp at h
   ·rfl
  ·exact JR (n:=n) (by omega) i (by omega)
theorem BG {g:Array Bool} {i j:Nat} (hi:i<g.size):(g.setIfInBounds i true).getD j false=true↔j=i∨g.getD j false=true:=by
 by_cases e:j=i
 ·subst e; simp[Array.getD,hi]
 ·have:¬i=j:=fun h=>e h.symm
  simp[Array.getD_eq_getD_getElem?,Array.getElem?_setIfInBounds_ne this,e]
theorem TR:∀{n:Nat} {g:Array Bool} {i:Nat},n≤i→fr n (g.setIfInBounds i true)=fr n g
 | 0,_,_,_=>rfl
 | n+1,g,i,h=>by
  have:¬i=n:=by omega
  unfold fr;rw[TR (by omega)];simp[Array.getD_eq_getD_getElem?,Array.getElem?_setIfInBounds_ne this]
theorem TQ:∀{n:Nat} {g:Array Bool} {i:Nat},i<n→i<g.size→g.getD i false=false→fr n (g.setIfInBounds i true)+1=fr n g
 | 0,_,_,h,_,_=>by omega
 | n+1,g,i,h,hs,hg=>by
  unfold fr
  by_cases e:i=n
  ·subst e;rw[TR (Nat.le_refl _),(BG hs).2 (Or.inl rfl),hg];simp
  ·have h1:=TQ (n:=n) (g:=g) (by omega) hs hg;have h2:(g.setIfInBounds i true).getD n false=g.getD n false:=by
    have:¬i=n:=e;simp[Array.getD_eq_getD_getElem?,Array.getElem?_setIfInBounds_ne this]
   rw[h2]; omega
theorem UO {i j:Nat}:UP true ops i j=true↔∃o,ops[i]?=some o∧∃e∈o.after,Region.binds .any e=true∧e.on=j:=by
 unfold UP;simp only[cond_true];cases ho:ops[i]? with
 | none=>simp
 | some o =>
  simp only[List.any_eq_true];constructor
  ·rintro⟨e,he,h⟩
   rw[Bool.and_eq_true]at h;exact⟨o,rfl,e,by simpa using he,h.1,Nat.eq_of_beq_eq_true h.2⟩
  ·rintro⟨o',e1,e,he,hb,rfl⟩
   cases e1;exact⟨e,by simpa using he,by rw[hb]; simp⟩
theorem Ce (hT:∀d,TabOkW E.P (E.T d) base w0) (hq:dC E.P E.q base w0) (hrun:uJ E true ops ops.toList 0 (A.map fun φ=>(none,φ)) [] []=some (ps,TF,rs)) (hps:aS ps) (hchk:Ld true ops rs=true) (hlow:Pz true ops=true)
  (hQ:∀a w,Inv E true ops base w0 TF rs (fun i=>i<ops.size) a w→Q .normal a w) :
  ∀(m:Nat) (g:Array Bool) (a:Act) (w:World),g.size=ops.size→fr ops.size g=m→Inv E true ops base w0 TF rs (fun i=>g.getD i false=true) a w→wpAny E.P .any ops Q m g a w:=by
 have hfin:∀(g:Array Bool) (a:Act) (w:World),g.size=ops.size→(∀i,i<ops.size→g.getD i false=true)→Inv E true ops base w0 TF rs (fun i=>g.getD i false=true) a w→Q .normal a w:=fun g a w hs hall hI=>by
  refine hQ a w ?_;have:(fun i=>g.getD i false=true)=fun i=>i<ops.size:=funext fun i=>propext ⟨fun h=>by
   rw[←hs]
   by_cases hi:i<g.size
   ·exact hi
   ·simp[Array.getD,hi]at h,hall i⟩
  rwa [this]at hI
 have hready:∀(g:Array Bool),g.size=ops.size→Region.ready .any ops g=[]→∀i,i<ops.size→g.getD i false=true:=fun g hs hr i=>by
  induction i using Nat.strongRecOn with
  | _ i ih =>
   intro hi;cases hb:g.getD i false with
   | true=>rfl
   | false =>
    exfalso;have:i∈Region.ready .any ops g:=by
     refine mem_ready.2 ⟨?_,ops[i],Array.getElem?_eq_getElem hi,fun e he hbi => ?_⟩
     ·have:i<g.size:=by omega
      simp[Array.getD,this]at hb ⊢;exact hb
     ·unfold Pz at hlow;simp only[cond_true]at hlow;have:=gS hlow i ops[i] (by simp[hi]);rw[List.all_eq_true]at this;have:=this e (by simpa using he);rw[hbi]at this;have hlt:e.on<i:=by simpa using this
      exact ih e.on hlt (by omega)
    rw[hr]at this;cases this
 intro m
 induction m with
 | zero =>
  intro g a w hs hf hI;have hall:=JR hf;refine⟨?_,hfin g a w hs hall hI⟩;apply List.eq_nil_iff_forall_not_mem.2;intro i hi;obtain⟨h1,o,ho,_⟩:=mem_ready.1 hi;have hlt:i<ops.size:=(Array.getElem?_eq_some_iff.1 ho).1;have h2:=hall i hlt;have:i<g.size:=by omega
  simp[Array.getD,this]at h1 h2;rw[h1]at h2; cases h2
 | succ m ih =>
  intro g a w hs hf hI;refine⟨fun hr=>hfin g a w hs (hready g hs hr) hI,fun i hi => ?_⟩;obtain⟨h1,o,ho,h2⟩:=mem_ready.1 hi;have hlt:i<ops.size:=(Array.getElem?_eq_some_iff.1 ho).1;have hg:i<g.size:=by omega
  have hgi:g.getD i false=false:=by
   simp[Array.getD,hg]at h1 ⊢;exact h1
  have hst:=sJ hT hq hrun hps hchk (Q:=Q) hI ho (by rw[hgi]; simp) (fun j hj=>by
   obtain⟨o',ho',e,he,hb,rfl⟩:=UO.1 hj;rw[ho]at ho';cases ho';exact h2 e he hb)
  unfold wpOp;rw[ho];simp only;have hnext:∀a' w',Inv E true ops base w0 TF rs (fun j=>j=i∨g.getD j false=true) a' w'→wpAny E.P .any ops Q m (g.setIfInBounds i true) a' w':=fun a' w' h=>by
   refine ih _ a' w' (by simp[hs]) (by have:=TQ hlt hg hgi; omega) ?_;have:(fun j=>(g.setIfInBounds i true).getD j false=true)=fun j=>j=i∨g.getD j false=true:=funext fun j=>propext (BG hg)
   rwa [this]
  by_cases hw:Region.wanted o (yielded ops a.tmps)=true
  ·rw[if_pos hw]at hst ⊢;exact Or.inl (Oper.wp_mono hnext hst)
  ·rw[if_neg hw]at hst ⊢;exact hnext _ _ hst
theorem IE (hT:∀d,TabOkW E.P (E.T d) base w0) (hq:dC E.P E.q base w0) (hrun:uJ E false ops ops.toList 0 (A.map fun φ=>(none,φ)) [] []=some (ps,TF,rs)) (hps:aS ps) (hchk:Ld false ops rs=true)
  (hQ:∀a w,Inv E false ops base w0 TF rs (fun i=>i<ops.size) a w→Q .normal a w) :
  ∀(m k:Nat) (a:Act) (w:World),k+m=ops.size→Inv E false ops base w0 TF rs (fun i=>i<k) a w→wpOps E.P ops Q (List.range' k m) a w
 | 0,k,a,w,hk,hI=>by
  have:k=ops.size:=by omega
  subst this;exact hQ a w hI
 | m+1,k,a,w,hk,hI=>by
  have hlt:k<ops.size:=by omega
  have ho:ops[k]?=some ops[k]:=Array.getElem?_eq_getElem hlt;have hst:=sJ hT hq hrun hps hchk (Q:=Q) hI ho (Nat.lt_irrefl k) (fun j hj=>by unfold UP at hj; simpa using hj);simp only[List.range'_succ,wpOps];rw[ho];simp only;have hnext:∀a' w',Inv E false ops base w0 TF rs (fun j=>j=k∨j<k) a' w'→wpOps E.P ops Q (List.range' (k+1) m) a' w':=fun a' w' h=>by
   refine IE hT hq hrun hps hchk hQ m (k+1) a' w' (by omega) ?_;have:(fun j=>j<k+1)=fun j=>j=k∨j<k:=funext fun j=>propext (by omega)
   rwa [this]
  by_cases hw:Region.wanted ops[k] (yielded ops a.tmps)=true
  ·rw[if_pos hw]at hst ⊢;exact Or.inl (Oper.wp_mono hnext hst)
  ·rw[if_neg hw]at hst ⊢;exact hnext _ _ hst
theorem LG {id:Nat} (hm:E.P.follows .mixedOrders=true) (hT:∀d,TabOkW E.P (E.T d) base w0) (hq:dC E.P E.q base w0) (h:LH E draw ops A=some (ps,A')) (hps:aS ps) (hA:Holds E.nt base w0 A a w)
  (hQ:∀a w,Holds E.nt base w0 A' a w→Q .normal a w):(Code.region id ops draw).wp E.P Q a w:=by
 unfold LH at h;split at h
 ·rename_i ps' TF rs hrun;cases hc:(Ld draw ops rs&&Pz draw ops)<;>rw[hc]at h
  ·cases h
  ·cases h;rw[Bool.and_eq_true]at hc;cases draw with
   | false =>
    refine wp_region ?_;rw[List.range_eq_range'];exact IE hT hq hrun hps hc.1 (fun a w hI=>hQ a w (yF hrun (fun _ h=>h) hI)) ops.size 0 a w (by omega) (by
     have:(fun i=>i<0)=fun _:Nat=>False:=funext fun i=>propext ⟨fun h=>by omega,fun h=>h.elim⟩
     rw[this];exact pP hrun hA)
   | true =>
    refine wp_region_any hm ?_;have hsz:∀n,fr n (Array.replicate ops.size false)=n:=fun n=>by
     induction n with
     | zero=>rfl
     | succ n ih=>unfold fr; rw[ih]; by_cases hn:n<ops.size<;>simp[Array.getD,hn]
    refine Ce hT hq hrun hps hc.1 hc.2 (fun a w hI=>hQ a w (yF hrun (fun _ h=>h) hI)) ops.size _ a _ (by simp) (hsz _) ?_;have:(fun i=>(Array.replicate ops.size false).getD i false=true)=fun _:Nat=>False:=funext fun i=>propext (by by_cases hi:i<ops.size<;>simp[Array.getD,hi])
    rw[this];exact pP hrun hA.drew
 ·cases h
end
inductive EA|nrm|ex (id:Nat)|rt
def EA.out:EA→Exit
 | .nrm=>.normal
 | .ex id=>.exit id
 | .rt=>.ret
structure Cfg where
 T:Nat→Tab
 hint:Nat→Bool
 num:Nat→Option Value
def Uo (P:Program) (q:EqT) (nt:Nat) (c:Cfg):Env:=⟨P,c.T,q,c.hint,c.num,nt⟩
def run (P:Program) (q:EqT) (nt:Nat) (C:Nat→Cfg):Nat→Code→List Fact→Option (List Prop×EA×List Fact)
 | 0,_,_=>none
 | n+1,c,A=>match c with
  | .skip=>some ([],.nrm,A)
  | .ret=>some ([],.rt,A)
  | .exit id=>some ([],.ex id,A)
  | .region id ops draw=>match LH (Uo P q nt (C n)) draw ops A with|some (p,A')=>some (p,.nrm,A')|none=>none
  | .seq x y=>match run P q nt C n x A with
   | some (p,.nrm,A1)=>match run P q nt C n y A1 with|some (p2,e,A2)=>some (p++p2,e,A2)|none=>none
   | r=>r
  | .cond c x y=>match ev A c with|some (.im (.bool b))=>run P q nt C n (bif b then x else y) A|_=>none
  | .block id x=>match run P q nt C n x A with
   | some (p,.ex j,A1)=>some (p,bif Nat.beq j id then .nrm else .ex j,A1)
   | r=>r
  | .loop x=>match run P q nt C n x A with
   | some (p,.nrm,A1)=>match run P q nt C n (.loop x) A1 with|some (p2,e,A2)=>some (p++p2,e,A2)|none=>none
   | r=>r
  | _=>none
def Un (P:Program) (c:Code) (Q:Exit→Act→World→Prop):Nat→Act→World→Prop
 | 0,_,_=>False
 | n+1,a,w=>c.wp P (Exit.then (Un P c Q n) Q) a w
theorem SV {p:Nat→Prop}:∀n,p n→∃m,p m∧∀k,p k→m≤k:=fun n h=>by
 induction n using Nat.strongRecOn with
 | _ n ih =>
  by_cases hk:∃k,k<n∧p k
  ·obtain⟨k,h1,h2⟩:=hk;exact ih k h1 h2
  ·exact⟨n,h,fun k hp=>Nat.le_of_not_lt fun hlt=>hk ⟨k,hlt,hp⟩⟩
theorem nE {P:Program} {c:Code} {Q:Exit→Act→World→Prop} {n:Nat} {a:Act} {w:World} (h:Un P c Q n a w):(Code.loop c).wp P Q a w:=by
 classical
 have hmin:∀a w,(∃n,Un P c Q n a w)→∃m,Un P c Q m a w∧∀k,Un P c Q k a w→m≤k:=fun a w ⟨n,h⟩=>SV n h
 refine wp_loop (fun a w=>∃n,Un P c Q n a w) (fun a w=>if h:∃n,Un P c Q n a w then (hmin a w h).choose else 0) ⟨n,h⟩ ?_;intro a w hI;have hs:=(hmin a w hI).choose_spec;rw[dif_pos hI];generalize (hmin a w hI).choose=m at hs;cases m with
 | zero=>exact hs.1.elim
 | succ m =>
  refine Code.wp_mono (fun e a' w' he => ?_) hs.1;cases e with
  | normal =>
   have hI':∃n,Un P c Q n a' w':=⟨m,he⟩
   refine⟨hI',?_⟩;rw[dif_pos hI'];exact Nat.lt_succ_of_le ((hmin a' w' hI').choose_spec.2 m he)
  | _=>exact he
section
variable {P:Program} {q:EqT} {nt:Nat} {C:Nat→Cfg} {base:Nat} {w0:World}
theorem dT (hm:P.follows .mixedOrders=true) (hT:∀n d,TabOkW P ((C n).T d) base w0) (hq:dC P q base w0):∀(n:Nat) (c:Code) (A A':List Fact) (ps:List Prop) (e:EA) (a:Act) (w:World) (Q:Exit→Act→World→Prop),
  run P q nt C n c A=some (ps,e,A')→aS ps→Holds nt base w0 A a w→(∀a w,Holds nt base w0 A' a w→Q e.out a w)→c.wp P Q a w∧∀x,c=.loop x→Un P x Q n a w
 | 0,c,A,A',ps,e,a,w,Q,h,hps,hA,hQ=>by cases h
 | n+1,c,A,A',ps,e,a,w,Q,h,hps,hA,hQ=>by
  cases c with
  | skip=>cases h; exact⟨wp_skip (hQ a w hA),fun x e=>by cases e⟩
  | ret=>cases h; exact⟨wp_ret (hQ a w hA),fun x e=>by cases e⟩
  | exit id=>cases h; exact⟨wp_exit (hQ a w hA),fun x e=>by cases e⟩
  | region id ops draw =>
   refine⟨?_,fun x e=>by cases e⟩;simp only[run]at h;split at h
   ·rename_i p A1 h1;cases h;exact LG (E:=Uo P q nt (C n)) hm (hT n) hq h1 hps hA hQ
   ·cases h
  | seq x y =>
   refine⟨?_,fun x e=>by cases e⟩;simp only[run]at h;split at h
   ·rename_i p A1 h1;split at h
    ·rename_i ps2 e2 A2 h2;cases h;obtain⟨p1,p2⟩:=dK.1 hps;refine wp_seq (dT hm hT hq n x A A1 p .nrm a w _ h1 p1 hA fun a w hA1 => ?_).1;exact (dT hm hT hq n y A1 A' ps2 e a w Q h2 p2 hA1 hQ).1
    ·cases h
   ·rename_i r hr;refine wp_seq (dT hm hT hq n x A A' ps e a w _ h hps hA fun a w hA1 => ?_).1;cases e with
    | nrm=>exact (hr _ _ h).elim
    | ex id=>exact hQ a w hA1
    | rt=>exact hQ a w hA1
  | cond c x y =>
   refine⟨?_,fun x e=>by cases e⟩;simp only[run]at h;split at h
   ·rename_i b hb;obtain⟨β,hok,_⟩:=hA.facts;have hc:a.eval c=.bool b:=aH hok hb;refine wp_cond hc ?_;have:=(dT hm hT hq n _ A A' ps e a w Q h hps hA hQ).1;cases b<;>exact this
   ·cases h
  | block id x =>
   refine⟨?_,fun x e=>by cases e⟩;simp only[run]at h;split at h
   ·rename_i p j A1 h1;cases h;refine wp_block (dT hm hT hq n x A A' ps (.ex j) a w _ h1 hps hA fun a w hA1 => ?_).1;show if j=id then Q .normal a w else Q (.exit j) a w
    cases hj:Nat.beq j id
    ·rw[if_neg (fun e=>by rw[e]at hj; simp at hj)];have:=hQ a w hA1;rw[hj]at this;exact this
    ·rw[if_pos (Nat.eq_of_beq_eq_true hj)];have:=hQ a w hA1;rw[hj]at this;exact this
   ·rename_i r hr;refine wp_block (dT hm hT hq n x A A' ps e a w _ h hps hA fun a w hA1 => ?_).1;cases e with
    | ex id=>exact (hr _ _ _ h).elim
    | nrm=>exact hQ a w hA1
    | rt=>exact hQ a w hA1
  | loop x =>
   have hun:Un P x Q (n+1) a w:=by
    simp only[run]at h;unfold Un;split at h
    ·rename_i p A1 h1;split at h
     ·rename_i ps2 e2 A2 h2;cases h;obtain⟨p1,p2⟩:=dK.1 hps;refine (dT hm hT hq n x A A1 p .nrm a w _ h1 p1 hA fun a w hA1 => ?_).1;exact (dT hm hT hq n (.loop x) A1 A' ps2 e a w Q h2 p2 hA1 hQ).2 x rfl
     ·cases h
    ·rename_i r hr;refine (dT hm hT hq n x A A' ps e a w _ h hps hA fun a w hA1 => ?_).1;cases e with
     | nrm=>exact (hr _ _ h).elim
     | ex id=>exact hQ a w hA1
     | rt=>exact hQ a w hA1
   exact⟨nE hun,fun y e=>by cases e; exact hun⟩
  | _=>simp only[run]at h; cases h
end
def iO:Nat→List CA→List Fact
 | _,[]=>[]
 | i,.v x::r=>.slot i x.av::iO (i+1) r
 | i,.s l n m::r=>.slot i (.sl i 0 n m) :: .row i false l::iO (i+1) r
 | i,.so l n::r=>.slot i (.so i n) :: .row i false l::iO (i+1) r
 | i,.p l o::r=>.slot i (.pt i o) :: .row i false l::iO (i+1) r
def QS (P:Program) (A:List Fact):ResultVar→Option TV
 | .tmp t=>match oW A t with|some (.im v)=>some (.im v)|some (.fl l)=>some (.fl l)|_=>none
 | .cell t ty=>match oW A t with
  | some (.pt k o)=>match dI A k,dU P ty,nO P ty with
   | some (_,l),some n,true=>match CM l o n with|some s=>some (.fl s)|none=>none
   | _,_,_=>none
  | _=>none
def iT (P:Program) (A:List Fact):List ResultVar→Option (List TV)
 | []=>some []
 | x::r=>match QS P A x,iT P A r with|some t,some l=>some (t::l)|_,_=>none
def rv:List TV→Option RV
 | []=>none
 | [t]=>some (.one t)
 | l=>some (.many l)
def bR (P:Program) (q:EqT) (C:Nat→Cfg) (fn:Func) (n:Nat) (cs:List CA):Option (List Prop×RV) :=
 match fn.body with
 | some c=>bif Nat.ble cs.length fn.ntmps then
   (match run P q fn.ntmps C n c (iO 0 cs)with
   | some (ps,.ex _,_)=>none
   | some (ps,_,A)=>match iT P A fn.results.toList with
    | some l=>match rv l with|some r=>some (ps,r)|none=>none
    | none=>none
   | none=>none)else none
 | none=>none
def kW (P:Program) (T:Tab) (q:EqT) (hint:Nat→Bool) (fn:Func) (n:Nat) (cs:List CA):Option (List Prop×RV):=bR P q (fun _=>⟨fun _=>T,hint,fun _=>none⟩) fn n cs
theorem iL:∀(cs:List CA) (i:Nat) (φ:Fact),φ∈iO i cs→(∀s v,φ=.slot s v→∀k,v.key=some k→i≤k)∧(∀k o l,φ=.row k o l→i≤k)∧(∀k b,φ ≠ .at k b)∧∀k e s n,φ ≠ .app k e s n
 | [],i,φ,h=>by cases h
 | .v x::r,i,φ,h=>by
  rcases List.mem_cons.1 h with rfl|h
  ·refine⟨fun s v e k hk => ?_,(fun k o l e=>by cases e),(fun k b e=>by cases e),fun k e s n q=>by cases q⟩;cases e;cases x<;>cases hk
  ·obtain⟨h1,h2,h3⟩:=iL r (i+1) φ h;exact⟨fun s v e k hk=>Nat.le_of_succ_le (h1 s v e k hk),fun k o l e=>Nat.le_of_succ_le (h2 k o l e),h3⟩
 | .s l n m::r,i,φ,h=>by
  rcases List.mem_cons.1 h with rfl|h
  ·refine⟨fun s v e k hk => ?_,(fun k o l e=>by cases e),(fun k b e=>by cases e),fun k e s n q=>by cases q⟩;cases e;cases hk;exact Nat.le_refl _
  ·rcases List.mem_cons.1 h with rfl|h
   ·exact⟨fun s v e=>by (cases e),(fun k o l e=>by cases e; exact Nat.le_refl _),(fun k b e=>by cases e),fun k e s n q=>by cases q⟩
   ·obtain⟨h1,h2,h3⟩:=iL r (i+1) φ h;exact⟨fun s v e k hk=>Nat.le_of_succ_le (h1 s v e k hk),fun k o l e=>Nat.le_of_succ_le (h2 k o l e),h3⟩
 | .so l n::r,i,φ,h=>by
  rcases List.mem_cons.1 h with rfl|h
  ·refine⟨fun s v e k hk => ?_,(fun k o l e=>by cases e),(fun k b e=>by cases e),fun k e s n q=>by cases q⟩;cases e;cases hk;exact Nat.le_refl _
  ·rcases List.mem_cons.1 h with rfl|h
   ·exact⟨fun s v e=>by (cases e),(fun k o l e=>by cases e; exact Nat.le_refl _),(fun k b e=>by cases e),fun k e s n q=>by cases q⟩
   ·obtain⟨h1,h2,h3⟩:=iL r (i+1) φ h;exact⟨fun s v e k hk=>Nat.le_of_succ_le (h1 s v e k hk),fun k o l e=>Nat.le_of_succ_le (h2 k o l e),h3⟩
 | .p l o0::r,i,φ,h=>by
  rcases List.mem_cons.1 h with rfl|h
  ·refine⟨fun s v e k hk => ?_,(fun k o l e=>by cases e),(fun k b e=>by cases e),fun k e s n q=>by cases q⟩;cases e;cases hk;exact Nat.le_refl _
  ·rcases List.mem_cons.1 h with rfl|h
   ·exact⟨fun s v e=>by (cases e),(fun k o l e=>by cases e; exact Nat.le_refl _),(fun k b e=>by cases e),fun k e s n q=>by cases q⟩
   ·obtain⟨h1,h2,h3⟩:=iL r (i+1) φ h;exact⟨fun s v e k hk=>Nat.le_of_succ_le (h1 s v e k hk),fun k o l e=>Nat.le_of_succ_le (h2 k o l e),h3⟩
theorem KJ (a:Act) (w:World) (B:Bk) (K:Nat):∀(cs:List CA) (vs:List Value) (i:Nat),i+cs.length≤K→cH w cs vs→(∀j v,vs[j]?=some v→a.tmps[i+j]?=some v)→∃β:Nat→Bk,β K=B∧∀φ∈iO i cs,φ.ok w.heap.size β a w
 | [],vs,i,_,_,_=>⟨fun _=>B,rfl,fun φ h=>by cases h⟩
 | c::cs,[],i,_,h,_=>by cases c<;>exact h.elim
 | c::cs,v::vs,i,hK,h,ha=>by
  have hKi:Nat.beq K i=false:=by
   cases hb:Nat.beq K i
   ·rfl
   ·have:=Nat.eq_of_beq_eq_true hb;simp only[List.length_cons]at hK;omega
  obtain⟨h1,h2⟩:c.ok w v∧cH w cs vs:=by cases c<;>exact h
  obtain⟨β,hB,hβ⟩:=KJ a w B K cs vs (i+1) (by simp only[List.length_cons]at hK; omega) h2 (fun j u hj=>by have:=ha (j+1) u (by simpa using hj); rwa [show i+(j+1)=i+1+j by omega]at this);have h0:=ha 0 v rfl;rw[Nat.add_zero]at h0;cases c with
  | v x =>
   refine⟨β,hB,fun φ hφ => ?_⟩
   rcases List.mem_cons.1 hφ with rfl|hφ
   ·show a.tmps[i]?=_;rw[h0,TV.av_den];exact congrArg some h1
   ·exact hβ φ hφ
  | s l n m =>
   obtain⟨b,o,rfl,hb,hr⟩:=h1;refine⟨fun k=>bif Nat.beq k i then (b,o,0)else β k,by simp only[hKi]; exact hB,fun φ hφ => ?_⟩;have hbi:(bif Nat.beq i i then (b,o,0)else β i)=(b,o,0):=by simp
   rcases List.mem_cons.1 hφ with rfl|hφ
   ·show a.tmps[i]?=_;rw[h0];show _=some (Value.slice (some ⟨(bif Nat.beq i i then (b,o,0)else β i).1,(bif Nat.beq i i then (b,o,0)else β i).2.1+0,none⟩) n m);rw[hbi];rfl
   ·rcases List.mem_cons.1 hφ with rfl|hφ
    ·refine⟨?_,?_,(fun h=>by cases h),fun _=>trivial⟩<;>simp only[hbi]
     ·exact hb
     ·exact hr
    ·obtain⟨k1,k2,k3,k4⟩:=iL cs (i+1) φ hφ;have hne:∀k,i+1≤k→(bif Nat.beq k i then (b,o,0)else β k)=β k:=fun k hk=>by
      cases hq:Nat.beq k i
      ·rfl
      ·have:=Nat.eq_of_beq_eq_true hq; omega
     have hold:=hβ φ hφ;cases φ with
     | slot s u =>
      show a.tmps[s]?=_;rw[AV.den_eq (β:=β) u (fun k hk=>hne k (k1 s u rfl k hk))];exact hold
     | row k ow l' =>
      have e:=hne k (k2 k ow l' rfl);simp only[Fact.ok]at hold ⊢;simp only[e];exact hold
     | «at» k b=>exact (k3 k b rfl).elim
     | app k e s n=>exact (k4 k e s n rfl).elim
  | so l n =>
   obtain⟨b,o,m,rfl,hb,hr⟩:=h1;refine⟨fun k=>bif Nat.beq k i then (b,o,m)else β k,by simp only[hKi]; exact hB,fun φ hφ => ?_⟩;have hbi:(bif Nat.beq i i then (b,o,m)else β i)=(b,o,m):=by simp
   rcases List.mem_cons.1 hφ with rfl|hφ
   ·show a.tmps[i]?=_;rw[h0];show _=some (Value.slice (some ⟨(bif Nat.beq i i then (b,o,m)else β i).1,(bif Nat.beq i i then (b,o,m)else β i).2.1,none⟩) n (bif Nat.beq i i then (b,o,m)else β i).2.2);rw[hbi]
   ·rcases List.mem_cons.1 hφ with rfl|hφ
    ·refine⟨?_,?_,(fun h=>by cases h),fun _=>trivial⟩<;>simp only[hbi]
     ·exact hb
     ·exact hr
    ·obtain⟨k1,k2,k3,k4⟩:=iL cs (i+1) φ hφ;have hne:∀k,i+1≤k→(bif Nat.beq k i then (b,o,m)else β k)=β k:=fun k hk=>by
      cases hq:Nat.beq k i
      ·rfl
      ·have:=Nat.eq_of_beq_eq_true hq; omega
     have hold:=hβ φ hφ;cases φ with
     | slot s u =>
      show a.tmps[s]?=_;rw[AV.den_eq (β:=β) u (fun k hk=>hne k (k1 s u rfl k hk))];exact hold
     | row k ow l' =>
      have e:=hne k (k2 k ow l' rfl);simp only[Fact.ok]at hold ⊢;simp only[e];exact hold
     | «at» k b=>exact (k3 k b rfl).elim
     | app k e s n=>exact (k4 k e s n rfl).elim
  | p l o0 =>
   obtain⟨b,rfl,hb,hr⟩:=h1;refine⟨fun k=>bif Nat.beq k i then (b,0,0)else β k,by simp only[hKi]; exact hB,fun φ hφ => ?_⟩;have hbi:(bif Nat.beq i i then (b,0,0)else β i)=(b,0,0):=by simp
   rcases List.mem_cons.1 hφ with rfl|hφ
   ·show a.tmps[i]?=_;rw[h0];show _=some (Value.pointer (some ⟨(bif Nat.beq i i then (b,0,0)else β i).1,(bif Nat.beq i i then (b,0,0)else β i).2.1+o0,none⟩));rw[hbi];simp
   ·rcases List.mem_cons.1 hφ with rfl|hφ
    ·refine⟨?_,?_,(fun h=>by cases h),fun _=>trivial⟩<;>simp only[hbi]
     ·exact hb
     ·exact hr
    ·obtain⟨k1,k2,k3,k4⟩:=iL cs (i+1) φ hφ;have hne:∀k,i+1≤k→(bif Nat.beq k i then (b,0,0)else β k)=β k:=fun k hk=>by
      cases hq:Nat.beq k i
      ·rfl
      ·have:=Nat.eq_of_beq_eq_true hq; omega
     have hold:=hβ φ hφ;cases φ with
     | slot s u =>
      show a.tmps[s]?=_;rw[AV.den_eq (β:=β) u (fun k hk=>hne k (k1 s u rfl k hk))];exact hold
     | row k ow l' =>
      have e:=hne k (k2 k ow l' rfl);simp only[Fact.ok]at hold ⊢;simp only[e];exact hold
     | «at» k b=>exact (k3 k b rfl).elim
     | app k e s n=>exact (k4 k e s n rfl).elim
def lG (tmps:Array Value):ResultVar→Sem Value
 | .tmp t=>pure (tmps.getD t undef)
 | .cell p t=>do loadVar t (←asAddr (tmps.getD p undef))
theorem vB {P:Program} {A:List Fact} {base:Nat} {β:Nat→Bk} {a:Act} {w:World} (hA:∀φ∈A,φ.ok base β a w) {x:ResultVar} {t:TV} (h1:QS P A x=some t):(lG a.tmps x).run P w=.ok t.den w:=by
 cases x with
 | tmp s =>
  have:a.tmps.getD s undef=t.den:=by
   simp only[QS]at h1;split at h1
   ·rename_i v hl; cases h1; have:=hA _ (eH hl); simp only[Fact.ok]at this; simp[this]; rfl
   ·rename_i v hl; cases h1; have:=hA _ (eH hl); simp only[Fact.ok]at this; simp[this]; rfl
   ·cases h1
  show (pure (a.tmps.getD s undef):Sem Value).run P w=_;rw[this];rfl
 | cell s ty =>
  simp only[QS]at h1;split at h1
  ·rename_i k o hl;split at h1
   ·rename_i ow row n hr hs ht;split at h1
    ·rename_i sg hg;cases h1;obtain⟨i',hi,hn⟩:=iD hs;obtain⟨ds,hu,hd'⟩:=gQ ht;obtain⟨g1,g2,_⟩:=hA _ (aX hr);have hl':=hA _ (eH hl);simp only[Fact.ok,AV.den]at hl';have hv:a.tmps.getD s undef=.pointer (some ⟨(β k).1,(β k).2.1+o,none⟩):=by simp[hl']
     have:=run_loadVar_mid (P:=P) w _ _ ty (aB sg) ds (mM g2 hg) hu hd' (by rw[hi]; simp[aJ,zF hg,hn]);show (do loadVar ty (←asAddr (a.tmps.getD s undef)):Sem Value).run P w=_;rw[hv];simp[asAddr,this,TV.den]
    ·cases h1
   ·cases h1
  ·cases h1
theorem gJ {P:Program} {A:List Fact} {base:Nat} {β:Nat→Bk} {a:Act} {w:World} (hA:∀φ∈A,φ.ok base β a w):∀{xs:List ResultVar} {l:List TV},iT P A xs=some l→(xs.mapM (lG a.tmps)).run P w=.ok (l.map TV.den) w
 | [],l,h=>by cases h; simp
 | x::r,l,h=>by
  unfold iT at h;split at h
  ·rename_i t l' h1 h2;cases h;have ih:=gJ hA h2;have hx:=vB hA h1;simp[List.mapM_cons,ih,hx]
  ·cases h
theorem wX {l:List TV} {r:RV} (h:rv l=some r):(if h:(l.map TV.den).toArray.size=1 then (l.map TV.den).toArray[0]else Value.tuple (l.map TV.den).toArray)=r.den:=by
 cases l with
 | nil=>cases h
 | cons t l =>
  cases l with
  | nil=>cases h; rfl
  | cons u l=>cases h; rw[dif_neg (by simp)]; rfl
theorem Bx {w:World}:∀(cs:List CA) (vs:List Value),cH w cs vs→cs.length=vs.length:=fun cs=>by
 induction cs with
 | nil=>intro vs h; cases vs with|nil=>rfl|cons _ _=>exact h.elim
 | cons c cs ih=>intro vs h; cases vs with|nil=>cases c<;>exact h.elim|cons v vs=>cases c<;>exact congrArg (· + 1) (ih vs h.2)
theorem CG:∀(cs:List CA) (i:Nat) (k:Nat) (l:List At),Fact.row k true l∈iO i cs→False:=fun cs=>by
 induction cs with
 | nil=>intro i k l h; cases h
 | cons c cs ih =>
  intro i k l h;cases c with
  | v x=>rcases List.mem_cons.1 h with h|h; cases h; exact ih _ _ _ h
  | _ =>
   rcases List.mem_cons.1 h with h|h
   ·cases h
   ·rcases List.mem_cons.1 h with h|h
    ·cases h
    ·exact ih _ _ _ h
theorem qO {nt:Nat} {cs:List CA} {args:List Value} {w:World} (ha:cH w cs args) (hn:cs.length≤nt):Holds nt w.heap.size w (iO 0 cs) { tmps:=args.toArray++Array.replicate (nt-args.toArray.size) undef,defers:=[] } w:=by
 have hle':args.length≤nt:=by rw[←Bx cs args ha]; exact hn
 obtain⟨β,hB,hβ⟩:=KJ { tmps:=args.toArray++Array.replicate (nt-args.toArray.size) undef,defers:=[] } w (w.heap.size,0,0) nt cs args 0 (by omega) ha (fun j v hj=>by
  have hlt:j<args.length:=(List.getElem?_eq_some_iff.1 hj).1;simp only[Nat.zero_add];rw[Array.getElem?_append_left (by simpa using hlt)];simpa using hj)
 exact⟨rfl,by simp; omega,Below.refl _ _,Nat.le_refl _,β,hβ,fun k k' o' l l' hk=>(CG cs 0 k l hk).elim,fun k l hk=>(CG cs 0 k l hk).elim,by rw[hB]; exact Nat.le_refl _,fun p h1 h2=>by (rw[hB]at h2; exact absurd h1 (by show ¬w.heap.size<p.block; have h2:p.block<w.heap.size:=h2; omega)),Shape.refl _⟩
theorem qZ {P:Program} {q:EqT} {C:Nat→Cfg} {w:World} (hm:P.follows .mixedOrders=true) (hT:∀n d,TabOkW P ((C n).T d) w.heap.size w) (hq:dC P q w.heap.size w) {f:FuncId} {fn:Func} (hf:P.funcs[f]?=some fn) {n:Nat} {cs:List CA} {ps:List Prop} {r:RV}
  (h:bR P q C fn n cs=some (ps,r)) (hps:aS ps) {args:List Value} (ha:cH w cs args):Calls P f args.toArray w (fun e w'=>e=.returned r.den∧Below w.heap.size w w'):=by
 unfold bR at h;cases hb:fn.body with
 | none=>rw[hb]at h; cases h
 | some c =>
  rw[hb]at h;simp only at h;cases hle:Nat.ble cs.length fn.ntmps<;>rw[hle]at h
  ·cases h
  ·simp only[cond_true]at h;refine calls_of_wp hf hb ?_;have hH:=qO (nt:=fn.ntmps) ha (Nat.le_of_ble_eq_true hle);have hfin:∀(e:EA) (A:List Fact),(∀j,e ≠ .ex j)→(∃l,iT P A fn.results.toList=some l∧rv l=some r)→∀a w',Holds fn.ntmps w.heap.size w A a w'→bodyPost P fn (fun e w'=>e=.returned r.den∧Below w.heap.size w w') e.out a w':=fun e A he ⟨l,h1,h2⟩ a w' hA=>by
    obtain⟨β',hok,_⟩:=hA.facts;have hres:(results fn a.tmps).run P w'=.ok r.den w':=by
     have:=gJ hok h1;show ((fn.results.mapM (lG a.tmps)) >>= fun vs=>pure (if h:vs.size=1 then vs[0]else .tuple vs):Sem Value).run P w'=_;have hm:(List.toArray <$> fn.results.toList.mapM (lG a.tmps)).run P w'=.ok (l.map TV.den).toArray w':=by simp[this]
     rw[Array.mapM_eq_mapM_toList,Sem.run_bind,hm,Result.andThen_ok,Sem.run_pure];exact congrArg (fun x=>Result.ok x w') (wX h2)
    cases e with
    | nrm=>exact⟨hA.defers,_,hres,rfl,hA.below⟩
    | rt=>exact⟨hA.defers,_,hres,rfl,hA.below⟩
    | ex j=>exact (he j rfl).elim
   split at h
   ·cases h
   ·rename_i ps' e A hne hrun;split at h
    ·rename_i l hl;split at h
     ·rename_i r' hr';cases h;exact (dT (P:=P) (q:=q) (nt:=fn.ntmps) (C:=C) hm hT hq n c _ A ps e _ w _ hrun hps hH (hfin e A (fun j e'=>hne j e') ⟨l,hl,hr'⟩)).1
     ·cases h
    ·cases h
   ·cases h
theorem aG {P:Program} {q:EqT} {C:Nat→Cfg} (hm:P.follows .mixedOrders=true) (hT:∀n d,TabOk P ((C n).T d)) (hq:EqOk P q) {f:FuncId} {fn:Func} (hf:P.funcs[f]?=some fn) {n:Nat} {cs:List CA} {ps:List Prop} {r:RV}
  (h:bR P q C fn n cs=some (ps,r)) (hps:aS ps) {args:List Value} {w:World} (ha:cH w cs args):Calls P f args.toArray w (fun e w'=>e=.returned r.den∧Below w.heap.size w w') :=
 qZ hm (fun n d=>(hT n d).w _ _) (hq.w _ _) hf h hps ha
theorem cF {P:Program} {T:Tab} {q:EqT} {hint:Nat→Bool} (hm:P.follows .mixedOrders=true) (hT:TabOk P T) (hq:EqOk P q) {f:FuncId} {fn:Func} (hf:P.funcs[f]?=some fn) {n:Nat} {cs:List CA} {ps:List Prop} {r:RV}
  (h:kW P T q hint fn n cs=some (ps,r)) (hps:aS ps) {args:List Value} {w:World} (ha:cH w cs args):Calls P f args.toArray w (fun e w'=>e=.returned r.den∧Below w.heap.size w w') :=
 aG hm (fun _ _=>hT) hq hf h hps ha
theorem eJ {P:Program} {f:FuncId} {fn:Func} (hf:P.funcs[f]?=some fn) (hn:(fn.name == "runtime.NumGoroutine")=false) (hb:fn.body.isNone=false) (args:Array Value) (w:World):(callFunc f args).run P w=.ok (.enter f args) w:=by
 have hn':¬fn.name = "runtime.NumGoroutine":=by simpa using hn
 have hb':¬fn.body=none:=fun e=>by rw[e]at hb; cases hb
 simp[callFunc,hf,hn',hb']
def T0:Tab:=fun _ _=>none
theorem dV (P:Program):TabOk P T0:=fun _ _ _ _ h=>by cases h
def Tab.add (T:Tab) (f:Nat) (g:List CA→Option (List Prop×RV)):Tab:=fun f' cs=>bif Nat.beq f' f then g cs else T f' cs
theorem TabOk.add {P:Program} {T:Tab} (hT:TabOk P T) {f:Nat} {fn:Func} (hf:P.funcs[f]?=some fn) (hn:(fn.name == "runtime.NumGoroutine")=false) (hb:fn.body.isNone=false) {g:List CA→Option (List Prop×RV)}
  (h:∀cs pre r,g cs=some (pre,r)→aS pre→∀(args:List Value) (w:World),cH w cs args→Calls P f args.toArray w (fun e w'=>e=.returned r.den∧Below w.heap.size w w')):TabOk P (T.add f g):=by
 intro f' cs pre r hg hp;unfold Tab.add at hg;cases hb':Nat.beq f' f<;>rw[hb']at hg
 ·exact hT f' cs pre r hg hp
 ·cases Nat.eq_of_beq_eq_true hb';exact⟨eJ hf hn hb,h cs pre r hg hp⟩
theorem TabOk.ad {P:Program} {T:Tab} (hT:TabOk P T) {f:Nat} {fn:Func} (hf:P.funcs[f]?=some fn) {g:List CA→Option (List Prop×RV)}
 (h:∀cs pre r,g cs=some (pre,r)→aS pre→∀(args:List Value) (w:World),cH w cs args→Calls P f args.toArray w (fun e w'=>e=.returned r.den∧Below w.heap.size w w')) (hn:(fn.name == "runtime.NumGoroutine")=false:=by kernel_rfl) (hb:fn.body.isNone=false:=by kernel_rfl):TabOk P (T.add f g):=hT.add hf hn hb h
end Go.Proofs.YtpjlhhpjpnacmaaGreat.Ex
namespace Go.Proofs.YtpjlhhpjpnacmaaGreat
open Go.Proofs.Tryz
structure CR (R:Type) where
 add:R→R→R
 mul:R→R→R
 neg:R→R
 zero:R
 one:R
 add_assoc:∀a b c,add (add a b) c=add a (add b c)
 add_comm:∀a b,add a b=add b a
 zero_add:∀a,add zero a=a
 neg_add:∀a,add (neg a) a=zero
 mul_assoc:∀a b c,mul (mul a b) c=mul a (mul b c)
 mul_comm:∀a b,mul a b=mul b a
 one_mul:∀a,mul one a=a
 mul_add:∀a b c,mul a (add b c)=add (mul a b) (mul a c)
namespace CR
variable {R:Type} (K:CR R)
theorem add_left_comm (a b c:R):K.add a (K.add b c)=K.add b (K.add a c):=by rw[←K.add_assoc,K.add_comm a b,K.add_assoc]
theorem mul_left_comm (a b c:R):K.mul a (K.mul b c)=K.mul b (K.mul a c):=by rw[←K.mul_assoc,K.mul_comm a b,K.mul_assoc]
theorem add_mul (a b c:R):K.mul (K.add a b) c=K.add (K.mul a c) (K.mul b c):=by rw[K.mul_comm,K.mul_add,K.mul_comm c a,K.mul_comm c b]
theorem add_zero (a:R):K.add a K.zero=a:=by rw[K.add_comm,K.zero_add]
theorem add_neg (a:R):K.add a (K.neg a)=K.zero:=by rw[K.add_comm,K.neg_add]
theorem add_cancel {a b c:R} (h:K.add a b=K.add a c):b=c:=by
 have:=congrArg (K.add (K.neg a)) h
 rwa [←K.add_assoc,←K.add_assoc,K.neg_add,K.zero_add,K.zero_add]at this
theorem mul_zero (a:R):K.mul a K.zero=K.zero:=by
 apply K.add_cancel (a:=K.mul a K.zero);rw[←K.mul_add,K.add_zero,K.add_zero]
theorem zero_mul (a:R):K.mul K.zero a=K.zero:=by rw[K.mul_comm,K.mul_zero]
theorem mul_one (a:R):K.mul a K.one=a:=by rw[K.mul_comm,K.one_mul]
theorem neg_mul (a b:R):K.mul (K.neg a) b=K.neg (K.mul a b):=by
 apply K.add_cancel (a:=K.mul a b);rw[←K.add_mul,K.add_neg,K.zero_mul,K.add_neg]
theorem neg_neg (a:R):K.neg (K.neg a)=a:=by
 apply K.add_cancel (a:=K.neg a);rw[K.add_neg,K.neg_add]
theorem neg_add' (a b:R):K.neg (K.add a b)=K.add (K.neg a) (K.neg b):=by
 apply K.add_cancel (a:=K.add a b);rw[K.add_neg,K.add_assoc,K.add_left_comm b,K.add_neg,K.add_zero,K.add_neg]
theorem mul_neg (a b:R):K.mul a (K.neg b)=K.neg (K.mul a b):=by rw[K.mul_comm,K.neg_mul,K.mul_comm]
def sub (a b:R):R:=K.add a (K.neg b)
def sq (q:R):CR (R×R) where
 add x y:=(K.add x.1 y.1,K.add x.2 y.2)
 mul x y:=(K.add (K.mul x.1 y.1) (K.mul q (K.mul x.2 y.2)),K.add (K.mul x.1 y.2) (K.mul x.2 y.1))
 neg x:=(K.neg x.1,K.neg x.2)
 zero:=(K.zero,K.zero)
 one:=(K.one,K.zero)
 add_assoc a b c:=by simp only[K.add_assoc]
 add_comm a b:=by rw[K.add_comm a.1,K.add_comm a.2]
 zero_add a:=by simp only[K.zero_add]
 neg_add a:=by simp only[K.neg_add]
 mul_assoc a b c:=by
  simp only[K.mul_add,K.add_mul,K.mul_assoc,K.mul_left_comm,K.add_assoc,K.add_left_comm,K.add_comm]
 mul_comm a b:=by
  simp only[K.mul_comm,K.add_comm]
 one_mul a:=by simp only[K.one_mul,K.zero_mul,K.mul_zero,K.add_zero]
 mul_add a b c:=by
  simp only[K.mul_add,K.add_assoc,Prod.mk.injEq];constructor<;>(simp only[K.add_left_comm])
end CR
def Wq (M:Nat) (h:1<M):CR (Fin M) where
 add a b:=⟨(a.1+b.1)%M,Nat.mod_lt _ (by omega)⟩
 mul a b:=⟨a.1*b.1%M,Nat.mod_lt _ (by omega)⟩
 neg a:=⟨(0+M-a.1)%M,Nat.mod_lt _ (by omega)⟩
 zero:=⟨0,by omega⟩
 one:=⟨1,h⟩
 add_assoc a b c:=Fin.ext (by show ((a.1+b.1)%M+c.1)%M=(a.1+(b.1+c.1)%M)%M; rw[Nat.mod_add_mod,Nat.add_mod_mod,Nat.add_assoc])
 add_comm a b:=Fin.ext (by show (a.1+b.1)%M=(b.1+a.1)%M; rw[Nat.add_comm])
 zero_add a:=Fin.ext (by show (0+a.1)%M=a.1; rw[Nat.zero_add,Nat.mod_eq_of_lt a.2])
 neg_add a:=Fin.ext (by
  show ((0+M-a.1)%M+a.1)%M=0;have:=a.2;rw[Nat.mod_add_mod,show 0+M-a.1+a.1=M by omega,Nat.mod_self])
 mul_assoc a b c:=Fin.ext (by show a.1*b.1%M*c.1%M=a.1*(b.1*c.1%M)%M; rw[Nat.mod_mul_mod,Nat.mul_mod_mod,Nat.mul_assoc])
 mul_comm a b:=Fin.ext (by show a.1*b.1%M=b.1*a.1%M; rw[Nat.mul_comm])
 one_mul a:=Fin.ext (by show 1*a.1%M=a.1; rw[Nat.one_mul,Nat.mod_eq_of_lt a.2])
 mul_add a b c:=Fin.ext (by show a.1*((b.1+c.1)%M)%M=(a.1*b.1%M+a.1*c.1%M)%M; rw[Nat.mul_mod_mod,Nat.mul_add,Nat.add_mod])
end Go.Proofs.YtpjlhhpjpnacmaaGreat
namespace Go.Proofs.YtpjlhhpjpnacmaaGreat.Ex
open Go.Proofs.Tryz
open Go.RowKit
def fm (n:Nat):Fq:=⟨n%FP.M,Nat.mod_lt _ cN⟩
abbrev Q2:=Fq×Fq
abbrev Q6:=Q2×Q2×Q2
abbrev Yw:=Q6×Q6
def e1 (x:Fq):List At:=[.f x]
def e2 (x:Q2):List At:=[.f x.1,.f x.2]
def e6 (x:Q6):List At:=[.f x.1.1,.f x.1.2,.f x.2.1.1,.f x.2.1.2,.f x.2.2.1,.f x.2.2.2]
def Zz (x:Yw):List At:=[.f x.1.1.1,.f x.1.1.2,.f x.1.2.1.1,.f x.1.2.1.2,.f x.1.2.2.1,.f x.1.2.2.2,.f x.2.1.1,.f x.2.1.2,.f x.2.2.1.1,.f x.2.2.1.2,.f x.2.2.2.1,.f x.2.2.2.2]
abbrev N2:=Nat×Nat
abbrev N6:=N2×N2×N2
abbrev N12:=N6×N6
def q1 (x:Nat):List At:=[.q x]
def q2 (x:N2):List At:=[.q x.1,.q x.2]
def Wc:At→Option Nat
 | .f x=>some x.1
 | .q x=>some x
 | .c _=>none
def AT:List At→Option (List Nat)
 | []=>some []
 | a::r=>match Wc a,AT r with|some x,some l=>some (x::l)|_,_=>none
def jV (l:List At):Option Nat:=match AT l with|some [a]=>some a|_=>none
def WF (l:List At):Option N2:=match AT l with|some [a,b]=>some (a,b)|_=>none
def wv (x:Nat):Nat:=aA (fw x 0) (fw x 1) (fw x 2) (fw x 3)
def m1 (x:Nat):Fq:=fm (wv x)
def m2 (x:N2):Q2:=(m1 x.1,m1 x.2)
def m6 (x:N6):Q6:=(m2 x.1,m2 x.2.1,m2 x.2.2)
def Xx (x:N12):Yw:=(m6 x.1,m6 x.2)
def Rd {α:Type} (rd:List At→Option α) (en:α→List At):Prop:=∀l x,rd l=some x→aB l=aB (en x)
theorem oV:∀{l:List At} {m:List Nat},AT l=some m→aB l=aB (m.map .q)
 | [],m,h=>by cases h; rfl
 | a::r,m,h=>by
  unfold AT at h;split at h
  ·rename_i x l' h1 h2;cases h;show a.cells++aB r=w4 x++aB (l'.map .q);rw[oV h2];cases a<;>cases h1<;>rfl
  ·cases h
theorem bQ:Rd jV q1:=fun l x h=>by
 unfold jV at h;split at h
 ·rename_i hn; cases h; rw[oV hn]; rfl
 ·cases h
theorem lF:Rd WF q2:=fun l x h=>by
 unfold WF at h;split at h
 ·rename_i hn; cases h; rw[oV hn]; rfl
 ·cases h
abbrev gP:=List CA→Option (List Prop×RV)
def g0 (r:RV):gP
 | []=>some ([],r)
 | _=>none
def g1 {α:Type} (rd:List At→Option α) (op:α→List Prop×RV):gP
 | [.v (.fl l)]=>match rd l with|some x=>some (op x)|none=>none
 | _=>none
def g2 {α γ:Type} (rd:List At→Option α) (rd':List At→Option γ) (op:α→γ→List Prop×RV):gP
 | [.v (.fl l),.v (.fl m)]=>match rd l,rd' m with|some x,some y=>some (op x y)|_,_=>none
 | _=>none
def bC (P:Program) (f:FuncId) (r:RV) (args:List Value) (w:World):Prop:=Calls P f args.toArray w (fun e w'=>e=.returned r.den∧Below w.heap.size w w')
theorem nA {P:Program} {f:FuncId} {r:RV} (h:∀w,bC P f r [] w):∀cs pre r',g0 r cs=some (pre,r')→aS pre→∀(args:List Value) (w:World),cH w cs args→bC P f r' args w:=by
 intro cs pre r' hg hp args w ha;unfold g0 at hg;split at hg
 ·cases hg;cases args with
  | nil=>exact h w
  | cons _ _=>exact ha.elim
 ·cases hg
theorem hZ {P:Program} {f:FuncId} {α:Type} {rd:List At→Option α} {en:α→List At} (hr:Rd rd en) {op:α→List Prop×RV} (h:∀x,aS (op x).1→∀args w,cH w [.v (.fl (en x))] args→bC P f (op x).2 args w) :
  ∀cs pre r,g1 rd op cs=some (pre,r)→aS pre→∀(args:List Value) (w:World),cH w cs args→bC P f r args w:=by
 intro cs pre r hg hp args w ha;unfold g1 at hg;split at hg
 ·rename_i l;split at hg
  ·rename_i x hx;have e:op x=(pre,r):=by simpa using hg
   have:=h x (by rw[e]; exact hp) args w (by
    cases args with
    | nil=>exact ha.elim
    | cons v vs =>
     refine⟨?_,ha.2⟩;show v=.agg (aB (en x)).toArray;rw[←hr l x hx];exact ha.1)
   rw[e]at this;exact this
  ·cases hg
 ·cases hg
theorem vS {P:Program} {f:FuncId} {α γ:Type} {rd:List At→Option α} {en:α→List At} {rd':List At→Option γ} {en':γ→List At} (hr:Rd rd en) (hr':Rd rd' en') {op:α→γ→List Prop×RV}
  (h:∀x y,aS (op x y).1→∀args w,cH w [.v (.fl (en x)),.v (.fl (en' y))] args→bC P f (op x y).2 args w) :
  ∀cs pre r,g2 rd rd' op cs=some (pre,r)→aS pre→∀(args:List Value) (w:World),cH w cs args→bC P f r args w:=by
 intro cs pre r hg hp args w ha;unfold g2 at hg;split at hg
 ·rename_i l m;split at hg
  ·rename_i x y hx hy;have e:op x y=(pre,r):=by simpa using hg
   have:=h x y (by rw[e]; exact hp) args w (by
    cases args with
    | nil=>exact ha.elim
    | cons v vs =>
     cases vs with
     | nil=>exact ha.2.elim
     | cons u us =>
      refine⟨?_,?_,ha.2.2⟩
      ·show v=.agg (aB (en x)).toArray;rw[←hr l x hx];exact ha.1
      ·show u=.agg (aB (en' y)).toArray;rw[←hr' m y hy];exact ha.2.1)
   rw[e]at this;exact this
  ·cases hg
 ·cases hg
end Go.Proofs.YtpjlhhpjpnacmaaGreat.Ex
namespace Go.Proofs.YtpjlhhpjpnacmaaGreat
open Go.Proofs.Tryz
theorem GO {a b:Nat} (h:a≠b):Nat.beq a b=false:=by cases q:Nat.beq a b with|false=>rfl|true=>exact absurd (Nat.eq_of_beq_eq_true q) h
def fX (q:Nat):Prop:=1<q∧∀m,m∣q→m=1∨m=q
def pm (n:Nat):Nat→Nat→Nat→Nat
 | 0,_,_=>1%n
 | f+1,b,e=>bif Nat.beq e 0 then 1%n else bif Nat.beq (e%2) 1 then b*pm n f (b*b%n) (e/2)%n else pm n f (b*b%n) (e/2)
theorem IP (n:Nat):∀f b e,e<2^f→pm n f b e=b^e%n:=by
 intro f
 induction f with
 | zero =>
  intro b e h;have:e=0:=by omega
  subst this;simp[pm]
 | succ f ih =>
  intro b e h;rw[Nat.pow_succ]at h;unfold pm
  by_cases h0:e=0
  ·subst h0; simp
  ·have h0':Nat.beq e 0=false:=GO h0;rw[h0'];have hi:=ih (b*b%n) (e/2) (by omega);have hp:(b*b%n)^(e/2)%n=b^(2*(e/2))%n:=by
    rw[←Nat.pow_mod,Nat.pow_mul,Nat.pow_two]
   by_cases h1:e%2=1
   ·have h1':Nat.beq (e%2) 1=true:=by rw[h1]; rfl
    rw[h1'];simp only[cond_true,cond_false];rw[hi,hp,Nat.mul_mod,Nat.mod_mod,←Nat.mul_mod,←Nat.pow_succ'];congr 2; omega
   ·have h1':Nat.beq (e%2) 1=false:=GO h1;rw[h1'];simp only[cond_false];rw[hi,hp];congr 2; omega
def JC (n:Nat):Nat→Bool
 | 0=>true
 | k+1=>(Nat.beq k 0 || !(Nat.beq (n%(k+1)) 0))&&JC n k
theorem EP (n:Nat):∀k,JC n k=true→∀m,2≤m→m≤k→¬m∣n:=by
 intro k
 induction k with
 | zero=>intro _ m h1 h2; omega
 | succ k ih =>
  intro h m h1 h2;unfold JC at h;rw[Bool.and_eq_true]at h
  by_cases hm:m=k+1
  ·subst hm;have hk:Nat.beq k 0=false:=GO (by omega);rw[hk]at h;simp at h;intro hd;rw[Nat.mod_eq_zero_of_dvd hd]at h;exact absurd h.1 (by decide)
  ·exact ih h.2 m h1 (by omega)
theorem aV (n k:Nat) (h1:1<n) (hk:n<(k+1)*(k+1)) (h:JC n k=true):fX n:=by
 refine⟨h1,fun m hm => ?_⟩;have hs:=EP n k h;obtain⟨c,hc⟩:=hm;have hm0:m≠0:=fun e=>by subst e; omega
 have hc0:c≠0:=fun e=>by subst e; omega
 by_cases h2:m=1
 ·exact Or.inl h2
 ·by_cases h3:c=1
  ·subst h3; right; omega
  ·exfalso
   by_cases h4:m≤k
   ·exact hs m (by omega) h4 ⟨c,hc⟩
   ·by_cases h5:c≤k
    ·exact hs c (by omega) h5 ⟨m,by rw[hc,Nat.mul_comm]⟩
    ·have:=Nat.mul_le_mul (show k+1≤m by omega) (show k+1≤c by omega);omega
theorem oO:∀(l:List Nat) (m:Nat),m∣l.foldr (· * ·) 1→1<m→(∀q,q∈l→fX q)→∃q,q∈l∧q∣m:=by
 intro l
 induction l with
 | nil=>intro m h h1 _; simp at h; omega
 | cons q l ih =>
  intro m h h1 hq;rw[List.foldr_cons]at h
  rcases (hq q List.mem_cons_self).2 (Nat.gcd m q) (Nat.gcd_dvd_right m q)with g|g
  ·have:=Nat.Coprime.dvd_of_dvd_mul_left (show Nat.Coprime m q from g) h;obtain⟨q',h',h''⟩:=ih m this h1 (fun q' h'=>hq q' (List.mem_cons_of_mem _ h'));exact⟨q',List.mem_cons_of_mem _ h',h''⟩
  ·exact⟨q,List.mem_cons_self,g▸Nat.gcd_dvd_left m q⟩
theorem fG (g a b n:Nat):g^(a+b)%n=(g^a%n)*(g^b%n)%n:=by rw[Nat.pow_add,Nat.mul_mod]
theorem lL {g o n:Nat} (h1:1<n) (h:g^o%n=1) (k:Nat):g^(o*k)%n=1:=by
 rw[Nat.pow_mul,Nat.pow_mod,h,Nat.one_pow,Nat.mod_eq_of_lt h1]
theorem SV {P:Nat→Prop}:∀n,P n→∃m,P m∧∀k,k<m→¬P k:=by
 intro n
 induction n using Nat.strongRecOn with
 | ind n ih =>
  intro h
  by_cases hk:∃k,k<n∧P k
  ·obtain⟨k,h1,h2⟩:=hk; exact ih k h1 h2
  ·exact⟨n,h,fun k h1 h2=>hk ⟨k,h1,h2⟩⟩
theorem EH {n g:Nat} (l:List Nat) (h1:1<n) (hl:l.foldr (· * ·) 1=n-1) (hp:∀q,q∈l→fX q) (hg:g^(n-1)%n=1) (hq:∀q,q∈l→g^((n-1)/q)%n≠1) :
  ∀k,0<k→k<n-1→g^k%n≠1:=by
 obtain⟨o,⟨ho0,ho⟩,hmin⟩:=SV (P:=fun k=>0<k∧g^k%n=1) (n-1) ⟨by omega,hg⟩;have hdiv:∀k,g^k%n=1→o∣k:=by
  intro k hk;have e:o*(k/o)+k%o=k:=Nat.div_add_mod k o;rw[←e,fG,lL h1 ho,Nat.one_mul,Nat.mod_mod]at hk;have hlt:=Nat.mod_lt k ho0
  by_cases hz:k%o=0
  ·exact Nat.dvd_of_mod_eq_zero hz
  ·exact absurd ⟨by omega,hk⟩ (hmin (k%o) hlt)
 obtain⟨m,hm⟩:=hdiv (n-1) hg;have hm1:m=1:=by
  by_cases h:m=1
  ·exact h
  ·exfalso;have hm0:m≠0:=fun e=>by subst e; omega
   obtain⟨q,hq1,c,hc⟩:=oO l m (by rw[hl,hm]; exact Nat.dvd_mul_left _ _) (by omega) hp;have hq0:0<q:=Nat.lt_of_lt_of_le (by omega) (Nat.le_of_lt (hp q hq1).1);refine hq q hq1 ?_;have:(n-1)/q=o*c:=by
    rw[hm,hc,←Nat.mul_assoc,Nat.mul_comm o q,Nat.mul_assoc,Nat.mul_div_cancel_left _ hq0]
   rw[this,lL h1 ho]
 subst hm1;intro k hk0 hk hk1;have:=Nat.le_of_dvd hk0 (hdiv k hk1);omega
theorem Hr:∀(n:Nat) (f:Nat→Nat),(∀i,i<n→f i<n)→(∀i j,i<n→j<n→f i=f j→i=j)→∀y,y<n→∃i,i<n∧f i=y:=by
 intro n
 induction n with
 | zero=>intro f _ _ y hy; omega
 | succ n ih =>
  intro f hf hi y hy
  by_cases hn:f n=n
  ·by_cases hyn:y=n
   ·exact⟨n,by omega,by omega⟩
   ·have hf':∀i,i<n→f i<n:=fun i h=>by
     have:=hf i (by omega);have hne:f i≠n:=fun e=>by have:=hi i n (by omega) (by omega) (by omega); omega
     omega
    obtain⟨i,h1,h2⟩:=ih f hf' (fun i j h h'=>hi i j (by omega) (by omega)) y (by omega);exact⟨i,by omega,h2⟩
  ·have hfn:=hf n (by omega);have key:=ih (fun i=>if f i=n then f n else f i)
    (fun i h=>by
     have:=hf i (by omega);split<;>omega)
    (fun i j h h' e=>by
     split at e<;>split at e
     ·exact hi i j (by omega) (by omega) (by omega)
     ·have:=hi n j (by omega) (by omega) e; omega
     ·have:=hi i n (by omega) (by omega) e; omega
     ·exact hi i j (by omega) (by omega) e)
   by_cases hyn:y=n
   ·obtain⟨i,h1,h2⟩:=key (f n) (by omega)
    by_cases h3:f i=n
    ·exact⟨i,by omega,by omega⟩
    ·rw[if_neg h3]at h2;have:=hi i n (by omega) (by omega) h2;omega
   ·obtain⟨i,h1,h2⟩:=key y (by omega)
    by_cases h3:f i=n
    ·rw[if_pos h3]at h2; exact⟨n,by omega,h2⟩
    ·rw[if_neg h3]at h2; exact⟨i,by omega,h2⟩
def Root (n g:Nat):Prop:=1<n∧g^(n-1)%n=1∧(∀k,0<k→k<n-1→g^k%n≠1)∧∀a,0<a→a<n→∃k,k<n-1∧g^k%n=a
theorem XT {n g:Nat} (l:List Nat) (h1:1<n) (hl:l.foldr (· * ·) 1=n-1) (hp:∀q,q∈l→fX q) (hg:g^(n-1)%n=1) (hq:∀q,q∈l→g^((n-1)/q)%n≠1):Root n g:=by
 have ho:=EH l h1 hl hp hg hq;refine⟨h1,hg,ho,fun a ha han => ?_⟩;have hnz:∀i,i≤n-1→g^i%n≠0:=by
  intro i hi e;have:g^(n-1)%n=0:=by
   have:n-1=i+(n-1-i):=by omega
   rw[this,fG,e,Nat.zero_mul,Nat.zero_mod]
  omega
 have hdis:∀i j,i<n-1→j<n-1→i<j→g^i%n≠g^j%n:=by
  intro i j hi hj hij e;have e1:g^(n-1-i+i)%n=1:=by rw[show n-1-i+i=n-1 by omega]; exact hg
  have e2:g^(n-1-i+j)%n=1:=by rw[fG,←e,←fG]; exact e1
  rw[show n-1-i+j=n-1+(j-i) by omega,fG,hg,Nat.one_mul,Nat.mod_mod]at e2;exact ho (j-i) (by omega) (by omega) e2
 obtain⟨i,hi,he⟩:=Hr (n-1) (fun i=>g^i%n-1)
  (fun i h=>by
   have:=Nat.mod_lt (g^i) (show 0<n by omega);have:=hnz i (by omega);omega)
  (fun i j h h' e=>by
   have a1:=hnz i (by omega);have a2:=hnz j (by omega);have e':g^i%n=g^j%n:=by omega
   rcases Nat.lt_trichotomy i j with q|q|q
   ·exact absurd e' (hdis i j h h' q)
   ·exact q
   ·exact absurd e'.symm (hdis j i h' h q))
  (a-1) (by omega)
 refine⟨i,hi,?_⟩;have:=hnz i (by omega);omega
theorem Root.prm {n g:Nat} (h:Root n g):fX n:=by
 obtain⟨h1,hg,_,hs⟩:=h;refine⟨h1,fun m hm => ?_⟩
 by_cases h2:m=n
 ·exact Or.inr h2
 ·left;have hm0:m≠0:=fun e=>by subst e; have:=Nat.eq_zero_of_zero_dvd hm; omega
  have hle:=Nat.le_of_dvd (by omega) hm;obtain⟨k,hk,e⟩:=hs m (by omega) (by omega);have e1:g^(k+(n-1-k))%n=1:=by rw[show k+(n-1-k)=n-1 by omega]; exact hg
  rw[fG,e]at e1;have hd:m∣(m*(g^(n-1-k)%n))%n:=(Nat.dvd_mod_iff hm).2 (Nat.dvd_mul_right _ _);rw[e1]at hd;exact Nat.dvd_one.1 hd
def Sy (n g:Nat) (l:List Nat):Bool :=
 Nat.blt 1 n&&(Nat.beq (l.foldr (· * ·) 1) (n-1)&&(Nat.blt n (2^255)&&(Nat.beq (pm n 256 g (n-1)) 1&&l.all fun q => !(Nat.beq (pm n 256 g ((n-1)/q)) 1))))
theorem bZ {n g:Nat} {l:List Nat} (h:Sy n g l=true) (hp:∀q,q∈l→fX q):Root n g:=by
 unfold Sy at h;simp only[Bool.and_eq_true]at h;obtain⟨h1,h2,h3,h4,h5⟩:=h;have h1:1<n:=by unfold Nat.blt at h1; exact Nat.le_of_ble_eq_true h1
 have h3:n<2^255:=by
  unfold Nat.blt at h3; exact Nat.le_of_ble_eq_true h3
 have h2:=Nat.eq_of_beq_eq_true h2;have h4:=Nat.eq_of_beq_eq_true h4;have hb:∀e,e≤n-1→e<2^256:=fun e he=>by
  rw[Nat.pow_succ]; omega
 rw[IP n 256 g _ (hb _ (Nat.le_refl _))]at h4;refine XT l h1 h2 hp h4 fun q hq e => ?_
 have:=List.all_eq_true.1 h5 q hq;rw[IP n 256 g _ (hb _ (Nat.div_le_self _ _)),e]at this;exact absurd this (by decide)
end Go.Proofs.YtpjlhhpjpnacmaaGreat
namespace Go.Proofs.YtpjlhhpjpnacmaaGreat.Ex
open Go.Proofs.Tryz
open Go.RowKit
theorem aQ:prog.follows .mixedOrders=true:=by kernel_rfl
def Wb:Nat→List At→Option (List Fq)
 | 0,_=>some []
 | n+1,.f a::r=>match Wb n r with|some l=>some (a::l)|none=>none
 | _,_=>none
theorem Holds.sub {nt base:Nat} {w0:World} {A A':List Fact} {a:Act} {w:World} (h:Holds nt base w0 A a w) (hs:∀φ∈A',φ∈A):Holds nt base w0 A' a w:=by
 obtain⟨β,h1,h2⟩:=h.facts;exact⟨h.defers,h.size,h.below,h.heap,β,fun φ hφ=>h1 φ (hs φ hφ),fun k k' o' l l' hk hk'=>h2.1 k k' o' l l' (hs _ hk) (hs _ hk'),fun k l hk=>h2.2.1 k l (hs _ hk),h2.2.2⟩
def pick (A:List Fact):List Fact→Option (List Fact)
 | []=>some []
 | .slot s _::r=>match oW A s,pick A r with|some v,some l=>some (.slot s v::l)|_,_=>none
 | .row k _ _::r=>match dI A k,pick A r with|some (o,l),some m=>some (.row k o l::m)|_,_=>none
 | .at k _::r=>match uC A k,pick A r with|some b,some m=>some (.at k b::m)|_,_=>none
 | .app k _ _ _::r=>match nC A k,pick A r with|some (e,sz,n),some m=>some (.app k e sz n::m)|_,_=>none
theorem jK {A:List Fact}:∀{K L:List Fact},pick A K=some L→∀φ∈L,φ∈A
 | [],L,h,φ,hφ=>by cases h; cases hφ
 | .slot s v::r,L,h,φ,hφ=>by
  unfold pick at h;split at h
  ·rename_i u l h1 h2;cases h
   rcases List.mem_cons.1 hφ with rfl|hφ
   ·exact eH h1
   ·exact jK h2 φ hφ
  ·cases h
 | .row k o m::r,L,h,φ,hφ=>by
  unfold pick at h;split at h
  ·rename_i o' l' m' h1 h2;cases h
   rcases List.mem_cons.1 hφ with rfl|hφ
   ·exact aX h1
   ·exact jK h2 φ hφ
  ·cases h
 | .at k b::r,L,h,φ,hφ=>by
  unfold pick at h;split at h
  ·rename_i b' m' h1 h2;cases h
   rcases List.mem_cons.1 hφ with rfl|hφ
   ·exact fS h1
   ·exact jK h2 φ hφ
  ·cases h
 | .app k e' sz' n'::r,L,h,φ,hφ=>by
  unfold pick at h;split at h
  ·rename_i e sz n m' h1 h2;cases h
   rcases List.mem_cons.1 hφ with rfl|hφ
   ·exact fW h1
   ·exact jK h2 φ hφ
  ·cases h
def bJ (P:Program) (q:EqT) (nt:Nat) (C:Nat→Cfg) (n:Nat) (c:Code) (A K:List Fact):Option (List Prop×EA×List Fact) :=
 match run P q nt C n c A with
 | some (ps,e,A1)=>match pick A1 K with|some L=>some (ps,e,L)|none=>none
 | none=>none
section
variable {P:Program} {q:EqT} {nt base:Nat} {w0:World} {Q:Exit→Act→World→Prop}
theorem aE (hm:P.follows .mixedOrders=true) {C:Nat→Cfg} (hT:∀n d,TabOkW P ((C n).T d) base w0) (hq:dC P q base w0) {n:Nat} {c:Code} {A K L:List Fact} {ps:List Prop} {e:EA} {a:Act} {w:World}
  (h:bJ P q nt C n c A K=some (ps,e,L)) (hps:aS ps) (hA:Holds nt base w0 A a w) (hQ:∀a w,Holds nt base w0 L a w→Q e.out a w):c.wp P Q a w:=by
 unfold bJ at h;split at h
 ·rename_i ps' e' A1 h1;split at h
  ·rename_i L' h2;cases h;exact (dT hm hT hq n c A A1 ps e a w Q h1 hps hA fun a w hA1=>hQ a w (hA1.sub (jK h2))).1
  ·cases h
 ·cases h
theorem eT {f:FuncId} {fn:Func} (hf:P.funcs[f]?=some fn) {c:Code} (hb:fn.body=some c) {cs:List CA} {args:List Value} {w:World} (ha:cH w cs args) (hn:cs.length≤fn.ntmps) {R:Ending→World→Prop}
  (h:∀a w',Holds fn.ntmps w.heap.size w (iO 0 cs) a w'→c.wp P (bodyPost P fn R) a w'):Calls P f args.toArray w R:=by
 exact calls_of_wp hf hb (h _ _ (qO ha hn))
theorem lT {fn:Func} {A:List Fact} {l:List TV} {r:RV} {w:World} (h1:iT P A fn.results.toList=some l) (h2:rv l=some r) {a:Act} {w':World} (hA:Holds nt w.heap.size w A a w'):bodyPost P fn (fun e w'=>e=.returned r.den∧Below w.heap.size w w') .ret a w':=by
 obtain⟨β',hok,_⟩:=hA.facts;have hres:(results fn a.tmps).run P w'=.ok r.den w':=by
  have:=gJ hok h1;show ((fn.results.mapM (lG a.tmps)) >>= fun vs=>pure (if h:vs.size=1 then vs[0]else .tuple vs):Sem Value).run P w'=_;have hm:(List.toArray <$> fn.results.toList.mapM (lG a.tmps)).run P w'=.ok (l.map TV.den).toArray w':=by simp[this]
  rw[Array.mapM_eq_mapM_toList,Sem.run_bind,hm,Result.andThen_ok,Sem.run_pure];exact congrArg (fun x=>Result.ok x w') (wX h2)
 exact⟨hA.defers,_,hres,rfl,hA.below⟩
end
def cA:Code→Code
 | .seq a _=>a
 | c=>c
def cB:Code→Code
 | .seq _ b=>b
 | c=>c
def By:Code→Code
 | .block _ c=>c
 | .loop c=>c
 | c=>c
def kN (P:Program) (t:Nat):Bool:=match P.underlying t with
 | some (.struct _)=>true
 | some (.array _ _)=>true
 | _=>false
def Ul:Bool→List Value→Value
 | true,xs=>.agg xs.toArray
 | false,x::_=>x
 | false,[]=>undef
def xS (P:Program) (t k:Nat):Bool:=match dU P t with|some m=>Nat.beq m k|none=>false
def KD (P:Program) (g:Nat→Option Nat):Nat→List Field→Option Nat
 | o,[]=>some o
 | o,f::r=>match g f.type with
  | some k=>bif (f.name != "_")&&(Nat.beq f.offset o&&xS P f.type k)then KD P g (o+k) r else none
  | none=>none
def SX:Value→Option Bool
 | .int .u64 _=>some false
 | .bool _=>some true
 | _=>none
def Up:List (Option Bool)→Option Bool→Bool
 | [some a],some b=>a==b
 | _,_=>false
def bF (P:Program):Nat→Nat→Option Nat
 | 0,_=>none
 | d+1,t=>match P.underlying t with
  | some (.int .u64)=>bif xS P t 1 then some 1 else none
  | some .bool=>bif xS P t 1 then some 1 else none
  | some (.array n e)=>match bF P d e with
   | some k=>bif xS P e k&&xS P t (n*k)then some (n*k)else none
   | none=>none
  | some (.struct fs)=>match KD P (bF P d) 0 fs.toList with
   | some m=>bif xS P t m && !(P.stoodInHeld t)then some m else none
   | none=>none
  | _=>none
def Cf (f:Nat→Bool):Nat→Bool
 | 0=>true
 | n+1=>f n&&Cf f n
theorem qK {f:Nat→Bool}:∀{n:Nat},Cf f n=true→∀i,i<n→f i=true
 | 0,_,i,hi=>by omega
 | n+1,h,i,hi=>by
  unfold Cf at h;rw[Bool.and_eq_true]at h
  by_cases e:i=n
  ·rw[e]; exact h.1
  ·exact qK h.2 i (by omega)
def BK (P:Program) (g:Nat→Option Nat) (h:Nat→List (Option Bool)→Bool) (ks:List (Option Bool)):Nat→List Field→Bool
 | _,[]=>true
 | o,f::r=>match g f.type with
  | some k=>h f.type ((ks.drop o).take k)&&BK P g h ks (o+k) r
  | none=>false
def uP (P:Program):Nat→Nat→List (Option Bool)→Bool
 | 0,_,_=>false
 | d+1,t,ks=>match P.underlying t with
  | some (.int .u64)=>Up ks (some false)
  | some .bool=>Up ks (some true)
  | some (.array n e)=>match bF P d e with
   | some k=>Cf (fun i=>uP P d e ((ks.drop (i*k)).take k)) n
   | none=>false
  | some (.struct fs)=>BK P (bF P d) (uP P d) ks 0 fs.toList
  | _=>false
def kA:At→List (Option Bool)
 | .c v=>[SX v]
 | _=>[some false,some false,some false,some false]
def Mf:List At→List (Option Bool)
 | []=>[]
 | a::r=>kA a++Mf r
theorem tJ:∀l:List At,(aB l).map SX=Mf l
 | []=>rfl
 | a::r=>by
  show (a.cells++aB r).map SX=kA a++Mf r;rw[List.map_append,tJ r];cases a<;>rfl
theorem lS {P:Program} {t k:Nat} (h:xS P t k=true):dU P t=some k:=by
 unfold xS at h;split at h
 ·rename_i m hm; rw[hm,Nat.eq_of_beq_eq_true h]
 ·cases h
theorem oQ {P:Program} {t n:Nat} (hs:dU P t=some n) (ht:(P.underlying t).isSome=true) (hn:kN P t=false→n=1) (cs:List Value) (off:Nat) (hl:off+n≤cs.length) (w:World) :
  (part t cs.toArray off).run P w=.ok (Ul (kN P t) ((cs.drop off).take n)) w:=by
 obtain⟨ds,hu⟩:=Option.isSome_iff_exists.1 ht;have hagg:(isAgg t).run P w=.ok (kN P t) w:=by
  unfold isAgg kN;rw[Sem.run_bind,run_underlying hu w,hu];cases ds<;>simp_all
 cases ha:kN P t
 ·have h1:=hn ha;subst h1;rw[ha]at hagg;have hc:cs.toArray[off]?=some cs[off]:=by simp
  have hd:(cs.drop off).take 1=[cs[off]]:=by
   rw[List.drop_eq_getElem_cons (by omega)];rfl
  unfold part;rw[Sem.run_bind,hagg];simp only[Result.andThen_ok,Bool.false_eq_true,if_false];rw[hc,hd];rfl
 ·rw[ha]at hagg;simp[part,hagg,bG hs,List.extract_eq_take_drop,Ul]
def kH (d e n:Nat) (xs ys:Array Value):Nat→Nat→Sem Bool
 | _,0=>pure true
 | i,c+1=>do
  let a ←part e xs (i*n)
  let b ←part e ys (i*n)
  let r ←Op.equalIn d e a b
  if (!r)=true then pure false else kH d e n xs ys (i+1) c
theorem oK {P:Program} (w:World) (d t len e n:Nat) (xs ys:Array Value) (ht:P.underlying t=some (.array len e)) (hs:dU P e=some n) :
  (Op.equalIn (d+1) t (.agg xs) (.agg ys)).run P w=(kH d e n xs ys 0 len).run P w:=by
 simp only[Op.equalIn,Sem.run_bind,run_underlying ht,Result.andThen_ok,bG hs];rw[Std.Legacy.Range.forIn_eq_forIn_range'];simp only[Std.Legacy.Range.size,Nat.sub_zero,Nat.add_sub_cancel,Nat.div_one];clear ht;generalize (0:Nat)=i
 induction len generalizing i w with
 | zero=>simp[kH]
 | succ len ih =>
  simp only[List.range'_succ,List.forIn_cons,kH,Sem.run_bind,Sem.run_ite];generalize (part e xs (i*n)).run P w=r1;cases r1 with
  | ok a w1 =>
   simp only[Result.andThen_ok];generalize (part e ys (i*n)).run P w1=r2;cases r2 with
   | ok b w2 =>
    simp only[Result.andThen_ok];generalize (Op.equalIn d e a b).run P w2=r3;cases r3 with
    | ok r w3 =>
     cases r
     ·simp only[Result.andThen_ok,Bool.not_false,if_true,Sem.run_pure]
     ·simp only[Result.andThen_ok,Bool.not_true,Bool.false_eq_true,if_false,Sem.run_pure];exact ih w3 (i+1)
    | halt x w3=>simp[Result.andThen]
   | halt x w2=>simp[Result.andThen]
  | halt x w1=>simp[Result.andThen]
theorem BT:∀{P:Program} {d t n:Nat},bF P d t=some n→dU P t=some n∧(P.underlying t).isSome=true∧(kN P t=false→n=1)
 | P,0,t,n,h=>by cases h
 | P,d+1,t,n,h=>by
  unfold bF at h;unfold kN;split at h
  ·rename_i hu;cases hb:xS P t 1<;>rw[hb]at h
   ·cases h
   ·cases h;exact⟨lS hb,by rw[hu]; rfl,fun _=>rfl⟩
  ·rename_i hu;cases hb:xS P t 1<;>rw[hb]at h
   ·cases h
   ·cases h;exact⟨lS hb,by rw[hu]; rfl,fun _=>rfl⟩
  ·rename_i len e hu;split at h
   ·rename_i k hk;cases hb:(xS P e k&&xS P t (len*k))<;>rw[hb]at h
    ·cases h
    ·cases h;rw[Bool.and_eq_true]at hb;exact⟨lS hb.2,by rw[hu]; rfl,fun h=>by rw[hu]at h; cases h⟩
   ·cases h
  ·rename_i fs hu;split at h
   ·rename_i m hm;cases hb:(xS P t m && !(P.stoodInHeld t))<;>rw[hb]at h
    ·cases h
    ·cases h;rw[Bool.and_eq_true]at hb;exact⟨lS hb.1,by rw[hu]; rfl,fun h=>by rw[hu]at h; cases h⟩
   ·cases h
  ·cases h
theorem wR {α:Type} {xs ys:List α} {o k:Nat}:(xs.drop o=ys.drop o)↔((xs.drop o).take k=(ys.drop o).take k∧xs.drop (o+k)=ys.drop (o+k)):=by
 constructor
 ·intro h;refine⟨by rw[h],?_⟩;rw[←List.drop_drop,←List.drop_drop,h]
 ·rintro⟨h1,h2⟩
  rw[←List.take_append_drop k (xs.drop o),←List.take_append_drop k (ys.drop o),h1,List.drop_drop,List.drop_drop,h2]
theorem mQ (xs:List Value) (o k:Nat):((xs.drop o).take k).map SX=((xs.map SX).drop o).take k:=by rw[List.map_take,List.map_drop]
theorem AY {x:Value} (h:Up [SX x] (some false)=true):∃n:Int,x=.int .u64 n:=by
 cases x with
 | int k n=>cases k<;>first|exact⟨n,rfl⟩|cases h
 | bool b=>cases h
 | _=>cases h
theorem AZ {x:Value} (h:Up [SX x] (some true)=true):∃b:Bool,x=.bool b:=by
 cases x with
 | int k n=>cases k<;>cases h
 | bool b=>exact⟨b,rfl⟩
 | _=>cases h
open Classical in
theorem yI {P:Program}:∀{d t n:Nat},bF P d t=some n→∀(D:Nat),d≤D→∀(xs ys:List Value) (w:World),xs.length=n→ys.length=n→uP P d t (xs.map SX)=true→uP P d t (ys.map SX)=true →
  (Op.equalIn D t (Ul (kN P t) xs) (Ul (kN P t) ys)).run P w=.ok (decide (xs=ys)) w
 | 0,t,n,h=>by cases h
 | d+1,t,n,h=>by
  intro D hD xs ys w hx hy wx wy
  match D,hD with
  | D+1,hD =>
  have hd:d≤D:=by omega
  unfold bF at h;unfold uP at wx wy;split at h
  ·rename_i hu;rw[hu]at wx wy;cases hb:xS P t 1<;>rw[hb]at h
   ·cases h
   ·cases h;have ha:kN P t=false:=by unfold kN; rw[hu]
    rw[ha]
    match xs,ys,hx,hy with
    | [x],[y],_,_ =>
     obtain⟨a,rfl⟩:=AY wx;obtain⟨b,rfl⟩:=AY wy;refine (run_equalIn_int w D t .u64 .u64 a b hu).trans ?_;congr 1
     by_cases e:a=b<;>simp[e]
  ·rename_i hu;rw[hu]at wx wy;cases hb:xS P t 1<;>rw[hb]at h
   ·cases h
   ·cases h;have ha:kN P t=false:=by unfold kN; rw[hu]
    rw[ha]
    match xs,ys,hx,hy with
    | [x],[y],_,_ =>
     obtain⟨a,rfl⟩:=AZ wx;obtain⟨b,rfl⟩:=AZ wy;refine (run_equalIn_bool w D t a b hu).trans ?_;congr 1
     by_cases e:a=b<;>simp[e]
  ·rename_i len e hu;split at h
   ·rename_i k hk;cases hb:(xS P e k&&xS P t (len*k))<;>rw[hb]at h
    ·cases h
    ·cases h;rw[Bool.and_eq_true]at hb;have ha:kN P t=true:=by unfold kN; rw[hu]
     rw[ha];refine (oK w D t len e k _ _ hu (lS hb.1)).trans ?_;obtain⟨p1,p2,p3⟩:=BT hk;rw[hu]at wx wy;simp only[hk]at wx wy;have key:∀(c i:Nat) (w:World),i+c=len→(kH D e k xs.toArray ys.toArray i c).run P w=.ok (decide (xs.drop (i*k)=ys.drop (i*k))) w:=by
      intro c
      induction c with
      | zero =>
       intro i w hi;have hi':i=len:=by omega
       subst hi';have h1:xs.length≤i*k:=by omega
       have h2:ys.length≤i*k:=by omega
       simp[kH,List.drop_of_length_le h1,List.drop_of_length_le h2]
      | succ c ih =>
       intro i w hi;have hle:i*k+k≤len*k:=by
        have:=Nat.mul_le_mul_right k (show i+1≤len by omega);rw[Nat.add_mul,Nat.one_mul]at this;exact this
       unfold kH;simp only[Sem.run_bind,oQ p1 p2 p3 xs (i*k) (by omega),oQ p1 p2 p3 ys (i*k) (by omega),Result.andThen_ok];rw[yI hk D hd ((xs.drop (i*k)).take k) ((ys.drop (i*k)).take k) w (by simp; omega) (by simp; omega) (by rw[mQ]; exact qK wx i (by omega)) (by rw[mQ]; exact qK wy i (by omega))];simp only[Result.andThen_ok];have hs:=wR (xs:=xs) (ys:=ys) (o:=i*k) (k:=k);rw[show i*k+k=(i+1)*k by rw[Nat.add_mul,Nat.one_mul]]at hs
       by_cases q:(xs.drop (i*k)).take k=(ys.drop (i*k)).take k
       ·rw[decide_eq_true q];simp only[Bool.not_true,Bool.false_eq_true,if_false];rw[ih (i+1) w (by omega)];congr 1;rw[decide_eq_decide];exact⟨fun h=>hs.2 ⟨q,h⟩,fun h=>(hs.1 h).2⟩
       ·rw[decide_eq_false q,decide_eq_false (fun h=>q (hs.1 h).1)];simp
     have:=key len 0 w (by omega);rw[Nat.zero_mul,List.drop_zero,List.drop_zero]at this;exact this
   ·cases h
  ·rename_i fs hu;split at h
   ·rename_i m hm;cases hb:(xS P t m && !(P.stoodInHeld t))<;>rw[hb]at h
    ·cases h
    ·cases h;rw[Bool.and_eq_true,Bool.not_eq_true']at hb;have ha:kN P t=true:=by unfold kN; rw[hu]
     rw[ha];have hf:P.fieldsOf t=fs:=by simp[Program.fieldsOf,hu]
     refine (run_equalIn_struct w D t xs.toArray ys.toArray (by rw[hf]; exact hu) hb.2).trans ?_;rw[hf];rw[hu]at wx wy;have key:∀(l:List Field) (o m:Nat) (w:World),BK P (bF P d) (uP P d) (xs.map SX) o l=true→BK P (bF P d) (uP P d) (ys.map SX) o l=true→KD P (bF P d) o l=some m→m≤xs.length→xs.length=ys.length→o≤m∧(Op.eqFields D xs.toArray ys.toArray l).run P w=.ok (decide ((xs.drop o).take (m-o)=(ys.drop o).take (m-o))) w:=by
      intro l
      induction l with
      | nil =>
       intro o m w _ _ h1 h2 h3;cases h1;simp[Op.eqFields]
      | cons f r ih =>
       intro o m w vx vy h1 h2 h3;unfold KD at h1;unfold BK at vx vy;split at h1
       ·rename_i k hk;simp only[hk]at vx vy;rw[Bool.and_eq_true]at vx vy;cases hc:((f.name != "_")&&(Nat.beq f.offset o&&xS P f.type k))<;>rw[hc]at h1
        ·cases h1
        ·simp only[cond_true]at h1;rw[Bool.and_eq_true,Bool.and_eq_true]at hc;obtain⟨c1,c2,c3⟩:=hc;have ho:=Nat.eq_of_beq_eq_true c2;obtain⟨g1,g2⟩:=ih (o+k) m w vx.2 vy.2 h1 h2 h3;refine⟨by omega,?_⟩;obtain⟨p1,p2,p3⟩:=BT hk;unfold Op.eqFields;rw[if_pos (by simpa using c1),ho];simp only[Sem.run_bind,oQ p1 p2 p3 xs o (by omega),oQ p1 p2 p3 ys o (by omega),Result.andThen_ok];rw[yI hk D hd ((xs.drop o).take k) ((ys.drop o).take k) w (by simp; omega) (by simp; omega) (by rw[mQ]; exact vx.1) (by rw[mQ]; exact vy.1)];simp only[Result.andThen_ok];have hs:((xs.drop o).take (m-o)=(ys.drop o).take (m-o))↔((xs.drop o).take k=(ys.drop o).take k∧(xs.drop (o+k)).take (m-(o+k))=(ys.drop (o+k)).take (m-(o+k))):=by
          have e:m-o=k+(m-(o+k)):=by omega
          rw[e,List.take_add,List.take_add,List.drop_drop,List.drop_drop];constructor
          ·intro h;exact List.append_inj h (by simp; omega)
          ·rintro⟨a,b⟩
           rw[a,b]
         by_cases q:(xs.drop o).take k=(ys.drop o).take k
         ·rw[decide_eq_true q];simp only[Bool.not_true,Bool.false_eq_true,if_false];rw[g2];congr 1;rw[decide_eq_decide];exact⟨fun h=>hs.2 ⟨q,h⟩,fun h=>(hs.1 h).2⟩
         ·rw[decide_eq_false q,decide_eq_false (fun h=>q (hs.1 h).1)];simp
       ·cases h1
     have:=(key fs.toList 0 _ w wx wy hm (by omega) (by omega)).2;rw[Nat.sub_zero,List.drop_zero,List.drop_zero,List.take_of_length_le (by omega),List.take_of_length_le (by omega)]at this;exact this
   ·cases h
  ·cases h
def gq (P:Program) (t:Nat):Option Nat:=match bF P 9 t with
 | some n=>bif kN P t && !(P.eqGuardType P.depth t)then some n else none
 | none=>none
def qG (P:Program):EqT:={ q:=gq P,n:=gq P,fit:=fun t l=>uP P 9 t (Mf l) }
open Classical in
theorem aT (P:Program):EqOk P (qG P):=by
 have h0:∀t n,gq P t=some n→P.eqGuardType P.depth t=false∧∀(l m:List At) (w:World),eS l=n→eS m=n→uP P 9 t (Mf l)=true→uP P 9 t (Mf m)=true→(Op.equalIn 10000 t (.agg (aB l).toArray) (.agg (aB m).toArray)).run P w=.ok (decide (aB l=aB m)) w:=by
  intro t n h;unfold gq at h;split at h
  ·rename_i k hk;cases hb:(kN P t && !(P.eqGuardType P.depth t))<;>rw[hb]at h
   ·cases h
   ·cases h;rw[Bool.and_eq_true,Bool.not_eq_true']at hb;refine⟨hb.2,fun l m w h1 h2 h3 h4 => ?_⟩;have:=yI hk 10000 (by omega) (aB l) (aB m) w (by rw[aJ,h1]) (by rw[aJ,h2]) (by rw[tJ]; exact h3) (by rw[tJ]; exact h4);rw[hb.1]at this;exact this
  ·cases h
 refine⟨⟨fun t n h => ?_,fun t n h => ?_⟩,rfl⟩
 ·obtain⟨h1,h2⟩:=h0 t n h;exact⟨h1,fun l w hl hn=>by rw[h2 l l w hl hl hn hn,decide_eq_true rfl]⟩
 ·obtain⟨h1,h2⟩:=h0 t n h;exact⟨h1,fun l m w hl hm hn hn' hne=>by rw[h2 l m w hl hm hn hn',decide_eq_false hne]⟩
end Go.Proofs.YtpjlhhpjpnacmaaGreat.Ex
