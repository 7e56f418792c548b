/- Jj02 -/
import Derived.RangeFuncOwn
import Derived.Test.YtjeplinbleofnaaJj01
import Derived.Test.YtjeplinbleofnaaProg
set_option maxRecDepth 100000
set_option linter.unusedVariables false
set_option linter.unusedSimpArgs false
set_option linter.unnecessarySimpa false
namespace Go.Proofs.Ytjeplinbleofnaa.Ex
open Go.Proofs.Try
open Go.RowKit
inductive CA|v (x:TV)|s (l:List At) (n m:Nat)|so (l:List At) (n:Nat)|p (l:List At) (o:Nat)
inductive RV|one (t:TV)|many (l:List TV)
def RV.av:RV→AV
 | .one t=>t.av
 | .many l=>.tu l
def RV.den:RV→Value
 | .one t=>t.den
 | .many l=>.tuple (l.map TV.den).toArray
theorem RV.av_den (β:Nat→Bk) (r:RV):r.av.den β=r.den:=by cases r with|one t=>exact TV.av_den β t|many l=>rfl
def CA.ok (w:World):CA→Value→Prop
 | .v x,u=>u=x.den
 | .s l n m,u=>∃b o,u=.slice (some ⟨b,o,none⟩) n m∧b<w.heap.size∧w.rangeAt b o (aB l)
 | .so l n,u=>∃b o m,u=.slice (some ⟨b,o,none⟩) n m∧b<w.heap.size∧w.rangeAt b o (aB l)
 | .p l o,u=>∃b,u=.pointer (some ⟨b,o,none⟩)∧b<w.heap.size∧w.rangeAt b 0 (aB l)
def cE (w:World):List CA→List Value→Prop
 | [],[]=>True
 | c::cs,v::vs=>c.ok w v∧cE w cs vs
 | _,_=>False
abbrev Tab:=Nat→List CA→Option (List Prop×RV)
def aU:List Prop→Prop
 | []=>True
 | p::r=>p∧aU r
theorem cS:∀{l m:List Prop},aU (l++m)↔aU l∧aU m
 | [],m=>by simp[aU]
 | p::r,m=>by simp[aU,cS (l:=r),and_assoc]
def TabOk (P:Program) (T:Tab):Prop:=∀f cs pre r,T f cs=some (pre,r)→aU pre →
 (∀args w,(callFunc f args).run P w=.ok (.enter f args) w)∧∀(args:List Value) (w:World),cE w cs args→Calls P f args.toArray w (fun e w'=>e=.returned r.den∧Below w.heap.size w w')
def Fe:At→Bool
 | .c _=>false
 | _=>true
structure FR where
 l:List At
 n:Nat
 m:Nat
 post:List TV
def FR.val (r:FR) (b:Nat):Value:=bif r.post.isEmpty then .slice (some ⟨b,0,none⟩) r.n r.m else .tuple (.slice (some ⟨b,0,none⟩) r.n r.m::r.post.map TV.den).toArray
def FR.ok (r:FR) (w:World) (e:Ending) (w':World):Prop:=∃b,e=.returned (r.val b)∧Below w.heap.size w w'∧w.heap.size≤b∧b<w'.heap.size∧w'.rangeAt b 0 (aB r.l)∧∀j,w'.frozen? ⟨b,j,none⟩=false
structure FS where
 l:List At
 n:Nat
 e:Nat
 sz:Nat
 ap:Bool
 ante:List TV
 post:List TV
def FS.lone (r:FS):Bool:=r.ante.isEmpty&&r.post.isEmpty
def FS.val (r:FS) (b cap:Nat):Value:=bif r.lone then .slice (some ⟨b,0,none⟩) r.n cap else .tuple (r.ante.map TV.den ++ .slice (some ⟨b,0,none⟩) r.n cap::r.post.map TV.den).toArray
def FS.ok (r:FS) (w:World) (e:Ending) (w':World):Prop:=∃b cap,e=.returned (r.val b cap)∧Below w.heap.size w w'∧w.heap.size≤b∧b<w'.heap.size∧w'.rangeAt b 0 (aB r.l)∧(∀j,w'.frozen? ⟨b,j,none⟩=false)∧(r.ap=true→AppAt w' b r.e r.sz r.n cap)
def Shape (w w':World):Prop:=(∀(b:Nat) (cur:Array Value) (e:Nat),w.heap[b]?=some (Obj.cells cur e (0,0))→∃cur':Array Value,w'.heap[b]?=some (Obj.cells cur' e (0,0))∧cur'.size=cur.size)∧KeepsOthers w w'
structure WrAt (w w':World) (b:Nat) (l:List At):Prop where
 os:w'.os=w.os
 tape:w'.tape=w.tape
 output:w'.output=w.output
 size:w.heap.size≤w'.heap.size
 block:∀k,k<w.heap.size→k≠b→w'.heap[k]?=w.heap[k]?
 shape:Shape w w'
 frozen:∀j,w'.frozen? ⟨b,j,none⟩=w.frozen? ⟨b,j,none⟩
structure WrC (w w':World) (b:Nat):Prop where
 below:Below b w w'
 mem:∀p:Addr,p.block<w.heap.size→p.block≠b→w'.cell? p=w.cell? p∧w'.frozen? p=w.frozen? p
 shape:Shape w w'
 free:∀j,w'.frozen? ⟨b,j,none⟩=false
inductive CB|v (x:TV)|sl (o n m:Nat)|pt (o:Nat)|r (l:List At) (n m:Nat)
def CB.ok (w:World) (b:Nat):CB→Value→Prop
 | .v x,u=>u=x.den
 | .sl o n m,u=>u=.slice (some ⟨b,o,none⟩) n m
 | .pt o,u=>u=.pointer (some ⟨b,o,none⟩)
 | .r l n m,u=>∃b' o,u=.slice (some ⟨b',o,none⟩) n m∧b'<w.heap.size∧b'≠b∧w.rangeAt b' o (aB l)
def CBs (w:World) (b:Nat):List CB→List Value→Prop
 | [],[]=>True
 | c::cs,v::vs=>c.ok w b v∧CBs w b cs vs
 | _,_=>False
structure Ext where
 idx:Nat→Option Nat
 ld:Nat→Option (List At)
 st:Nat→Option (List At)
 gen:Nat→Option Value
 mks:Nat→Option (Nat×List At)
 ky:Nat→Option Nat
 old:Nat→Nat→List At→Prop
 T2:Nat→List CA→Option (List Prop×FR)
 T3:Nat→List CA→Option (List Prop×FS):=fun _ _=>Option.none
 T4:Nat→List CA→Option (List Prop×Nat×List At):=fun _ _=>Option.none
 T5:Nat→List CA→Option (List Prop×Nat×RV×List At):=fun _ _=>Option.none
 T6:Nat→Nat→List At→List CB→Option (List Prop×RV×List At):=fun _ _ _ _=>Option.none
def Ext.none:Ext:=⟨fun _=>.none,fun _=>.none,fun _=>.none,fun _=>.none,fun _=>.none,fun _=>.none,fun _ _ _=>False,fun _ _=>.none,fun _ _=>.none,fun _ _=>.none,fun _ _=>.none,fun _ _ _ _=>.none⟩
def CL (P:Program) (T:Tab) (w:World):Prop:=∀f cs pre r,T f cs=some (pre,r)→aU pre →
 (∀args w,(callFunc f args).run P w=.ok (.enter f args) w)∧∀(args:List Value),cE w cs args→Calls P f args.toArray w (fun e w'=>e=.returned r.den∧Below w.heap.size w w')
def TabOkW (P:Program) (T:Tab) (base:Nat) (w0:World):Prop:=∀w,Below base w0 w→CL P T w
theorem TabOk.w {P:Program} {T:Tab} (h:TabOk P T) (base:Nat) (w0:World):TabOkW P T base w0:=fun w _ f cs pre r hg hp=>⟨(h f cs pre r hg hp).1,fun args ha=>(h f cs pre r hg hp).2 args w ha⟩
def sM (P:Program) (x:Ext) (w:World):Prop:=(∀b o l,x.old b o l→w.rangeAt b o (aB l))∧(∀f cs pre r,x.T2 f cs=some (pre,r)→aU pre →
 (∀args w,(callFunc f args).run P w=.ok (.enter f args) w)∧∀(args:List Value),cE w cs args→Calls P f args.toArray w (fun e w'=>r.ok w e w')) ∧
 (∀f cs pre r,x.T3 f cs=some (pre,r)→aU pre→(∀args w,(callFunc f args).run P w=.ok (.enter f args) w)∧∀(args:List Value),cE w cs args→Calls P f args.toArray w (fun e w'=>r.ok w e w')) ∧
 (∀f cs pre j l,x.T4 f cs=some (pre,j,l)→aU pre→(∀args w,(callFunc f args).run P w=.ok (.enter f args) w)∧∀(args:List Value),cE w cs args→∀b o n m,args[j]?=some (.slice (some ⟨b,o,none⟩) n m)→(∀q,w.frozen? ⟨b,q,none⟩=false) →
  Calls P f args.toArray w (fun e w'=>e=.returned (.slice (some ⟨b,o,none⟩) n m)∧WrAt w w' b l∧w'.rangeAt b o (aB l))) ∧
 (∀f cs pre j r l,x.T5 f cs=some (pre,j,r,l)→aU pre→(∀args w,(callFunc f args).run P w=.ok (.enter f args) w)∧∀(args:List Value),cE w cs args→∀b o,args[j]?=some (.pointer (some ⟨b,o,none⟩))→(∀q,w.frozen? ⟨b,q,none⟩=false) →
  Calls P f args.toArray w (fun e w'=>e=.returned r.den∧WrC w w' b∧w'.rangeAt b 0 (aB l))) ∧
 ∀f b row cs pre r l,x.T6 f b row cs=some (pre,r,l)→aU pre→(∀args w,(callFunc f args).run P w=.ok (.enter f args) w)∧∀(args:List Value),b<w.heap.size→w.rangeAt b 0 (aB row)→(∀q,w.frozen? ⟨b,q,none⟩=false)→CBs w b cs args →
  Calls P f args.toArray w (fun e w'=>e=.returned r.den∧WrC w w' b∧w'.rangeAt b 0 (aB l))
def ExtOk (P:Program) (x:Ext) (base:Nat) (w0:World):Prop:=∀w,Below base w0 w→sM P x w
structure EqT where
 q:Nat→Option Nat
 n:Nat→Option Nat
 x:Ext:=Ext.none
 fit:Nat→List At→Bool:=fun _ l=>l.all Fe
def sN (P:Program) (q:EqT):Prop:=(∀t n,q.q t=some n→P.eqGuardType P.depth t=false∧∀(l:List At) (w:World),fA l=n→q.fit t l=true→(Op.equalIn 10000 t (.agg (aB l).toArray) (.agg (aB l).toArray)).run P w=.ok true w) ∧
 (∀t n,q.n t=some n→P.eqGuardType P.depth t=false∧∀(l m:List At) (w:World),fA l=n→fA m=n→q.fit t l=true→q.fit t m=true→aB l≠aB m→(Op.equalIn 10000 t (.agg (aB l).toArray) (.agg (aB m).toArray)).run P w=.ok false w)
theorem ExtOk.none (P:Program) (base:Nat) (w0:World):ExtOk P Ext.none base w0:=fun w _=>⟨fun _ _ _ h=>h.elim,fun _ _ _ _ h=>(by cases h),fun _ _ _ _ h=>(by cases h),fun _ _ _ _ _ h=>(by cases h),fun _ _ _ _ _ _ h=>(by cases h),fun _ _ _ _ _ _ _ h=>(by cases h)⟩
def EqOk (P:Program) (q:EqT):Prop:=sN P q∧q.x=Ext.none
def iW (P:Program) (q:EqT) (base:Nat) (w0:World):Prop:=sN P q∧ExtOk P q.x base w0
theorem EqOk.w {P:Program} {q:EqT} (h:EqOk P q) (base:Nat) (w0:World):iW P q base w0:=⟨h.1,h.2▸ExtOk.none P base w0⟩
structure Env where
 P:Program
 T:Nat→Tab
 q:EqT
 hint:Nat→Bool
 num:Nat→Option Value
 nt:Nat
def WD (l:List At) (o:Nat):Option (List At):=bif Nat.beq o 0 then some l else dp l o
theorem qC {l:List At} {n:Nat} {r:List At} (h:WD l n=some r):∃t,l=t++r∧fA t=n:=by
 unfold WD at h;cases hb:Nat.beq n 0<;>rw[hb]at h
 ·exact mG l n r h
 ·cases h; exact⟨[],rfl,(Nat.eq_of_beq_eq_true hb).symm⟩
def FB (M:List Fact):AV→Option CA
 | .im v=>some (.v (.im v))
 | .fl l=>some (.v (.fl l))
 | .sl k o n m=>match dA M k with
  | some (_,l)=>match WD l o with|some r=>some (.s r n m)|none=>none
  | none=>none
 | .so k n=>match dA M k with
  | some (_,l)=>some (.so l n)
  | none=>none
 | .pt k o=>match dA M k with
  | some (true,l)=>some (.p l o)
  | _=>none
 | _=>none
def sI (M:List Fact):List AV→Option (List CA)
 | []=>some []
 | v::r=>match FB M v,sI M r with|some c,some l=>some (c::l)|_,_=>none
theorem FA {M:List Fact} {base:Nat} {β:Nat→Bk} {a:Act} {w:World} (hM:∀φ∈M,φ.ok base β a w) {v:AV} {c:CA} (h:FB M v=some c):c.ok w (v.den β):=by
 cases v with
 | im v=>cases h; rfl
 | fl l=>cases h; rfl
 | sl k o n m =>
  unfold FB at h;cases hr:dA M k with
  | none=>simp[hr]at h
  | some x =>
   obtain⟨ow,l⟩:=x;simp only[hr]at h;cases hd:WD l o with
   | none=>simp[hd]at h
   | some r =>
    simp only[hd]at h;cases h;obtain⟨h1,h2,_⟩:=hM _ (aW hr);obtain⟨p,e,hp⟩:=qC hd;refine⟨_,_,rfl,h1,fun j u hj => ?_⟩;have:=h2 (o+j) u (by rw[e,aO,List.getElem?_append_right (by rw[aM,hp]; omega),aM,hp]; simpa using hj)
    rwa [←Nat.add_assoc]at this
 | so k n =>
  unfold FB at h;cases hr:dA M k with
  | none=>simp[hr]at h
  | some x =>
   obtain⟨ow,l⟩:=x;simp only[hr]at h;cases h;obtain⟨h1,h2,_⟩:=hM _ (aW hr);exact⟨_,_,_,rfl,h1,h2⟩
 | pt k o =>
  unfold FB at h;cases hr:dA M k with
  | none=>simp[hr]at h
  | some x =>
   obtain⟨ow,l⟩:=x;cases ow with
   | false=>simp[hr]at h
   | true =>
    simp only[hr]at h;cases h;obtain⟨h1,h2,h3,_⟩:=hM _ (aW hr);obtain⟨_,h5,_⟩:=h3 rfl;rw[h5]at h2;exact⟨(β k).1,by simp[AV.den,h5],h1,h2⟩
 | _=>cases h
theorem lI {M:List Fact} {base:Nat} {β:Nat→Bk} {a:Act} {w:World} (hM:∀φ∈M,φ.ok base β a w):∀{l:List AV} {cs:List CA},sI M l=some cs→cE w cs (l.map (AV.den β))
 | [],cs,h=>by cases h; trivial
 | v::r,cs,h=>by
  unfold sI at h;cases hv:FB M v with
  | none=>simp[hv]at h
  | some c =>
   cases hr:sI M r with
   | none=>simp[hv,hr]at h
   | some l =>
    simp only[hv,hr]at h;cases h;exact⟨FA hM hv,lI hM hr⟩
def lC (P:Program) (t:Nat):Bool:=match P.underlying t with|some d=>d.isRow|none=>false
def cO (P:Program) (t:Nat):Option Nat:=match P.info? t with|some i=>some i.size|none=>none
def QS (P:Program) (t:Nat):Option (List At):=match P.info? t with
 | some i=>match i.zero with|some z=>some (nz z.cells.toList)|none=>none
 | none=>none
def WI (z:List Value):List (Nat×List At)→List At
 | (_,[.c _])::_=>z.map .c
 | _=>nz z
theorem pW:∀z:List Value,aB (z.map .c)=z
 | []=>rfl
 | v::r=>by show [v]++aB (r.map .c)=_; rw[pW r]; rfl
theorem oS (z:List Value) (ps:List (Nat×List At)):aB (WI z ps)=z:=by
 unfold WI;split
 ·exact pW z
 ·exact BL z
def AK (P:Program) (t:Nat) (ps:List (Nat×List At)):Option (List At) :=
 match P.info? t,P.underlying t with
 | some it,some (.array _ e)=>match it.zero,P.info? e with
  | some z,some ie=>rZ (fun i=>some (i*ie.size,ie.size)) (WI z.cells.toList ps) ps
  | _,_=>none
 | some it,some (.struct fields)=>match it.zero,fields.toList.mapM (fun f=>(P.info? f.type).map fun i=>(f.offset,i.size))with
  | some z,some places=>rZ (places.toArray[·]?) (WI z.cells.toList ps) ps
  | _,_=>none
 | _,_=>none
theorem xK {P:Program} {M:List Fact} {base:Nat} {β:Nat→Bk} {a:Act} {w:World} (hM:∀φ∈M,φ.ok base β a w) {t:Nat} {xs:List (Nat×Operand)} {ps:List (Nat×List At)} {l:List At}
  (hp:kT M xs=some ps) (h:AK P t ps=some l):P.built t (xs.map fun (i,x)=>(i,a.eval x))=some (aB l).toArray:=by
 unfold AK at h;unfold Program.built;cases hi:P.info? t with
 | none=>simp[hi]at h
 | some it =>
  cases hu:P.underlying t with
  | none=>simp[hi,hu]at h
  | some d =>
   cases d<;>simp only[hi,hu]at h ⊢ <;> try (cases h; done)
   ·rename_i n e;cases hz:it.zero with
    | none=>simp[hz]at h
    | some z =>
     cases he:P.info? e with
     | none=>simp[hz,he]at h
     | some ie =>
      simp only[hz,he]at h ⊢;have:=iP hM _ xs ps _ _ hp h
      rwa [oS,Array.toArray_toList]at this
   ·rename_i fs;cases hz:it.zero with
    | none=>simp[hz]at h
    | some z =>
     cases hm:fs.toList.mapM (fun f=>(P.info? f.type).map fun i=>(f.offset,i.size))with
     | none=>simp[hz,hm]at h
     | some pl =>
      simp only[hz,hm]at h ⊢;have:=iP hM _ xs ps _ _ hp h
      rwa [oS,Array.toArray_toList]at this
def CI (P:Program) (t len:Nat) (ps:List (Nat×List At)):Option (List At) :=
 match P.underlying t with
 | some (.slice e)=>match P.info? e with
  | some ie=>match ie.zero with
   | some z=>bif Nat.ble (len*ie.size) 4096 && !(Nat.beq (len*ie.size) 0)then
     rZ (fun i=>some (i*ie.size,ie.size)) (WI ((Array.range (len*ie.size)).map (z.cells[· % z.cells.size]!)).toList ps) ps else none
   | none=>none
  | none=>none
 | _=>none
structure PostB (base:Nat) (β β':Nat→Bk) (a:Act) (w:World) (dst:Option Nat) (M out:List Fact) (kill:Option Nat) (a':Act) (w':World):Prop where
 defers:a'.defers=a.defers
 size:a'.tmps.size=a.tmps.size
 tmps:∀s,dst≠some s→a'.tmps[s]?=a.tmps[s]?
 beta:∀k,dst≠some k→β' k=β k
 heap:w.heap.size≤w'.heap.size
 mem:∀p:Addr,p.block<w.heap.size→(∀k,kill=some k→p.block≠(β k).1)→w'.cell? p=w.cell? p∧w'.frozen? p=w.frozen? p
 shape:Shape w w'
 below:∀w0,Below base w0 w→Below base w0 w'
 ok:∀φ∈out,φ.ok base β' a' w'
 rows:∀k l,Fact.row k true l∈out→(w.heap.size≤(β' k).1∧dst=some k)∨(dst≠some k∧∃l0,Fact.row k true l0∈M)∨(dst=some k∧∃k0 l0,kill=some k0∧(β' k).1=(β k0).1∧Fact.row k0 true l0∈M)
 one:∀k k' l l',Fact.row k true l∈out→Fact.row k' true l'∈out→k=k'
 kills:∀k,kill=some k→∃l0,Fact.row k true l0∈M
 onlyOwn:∀k l,Fact.row k false l∈out→False:=by first|(intro k l h; simp only[List.mem_cons,List.not_mem_nil,or_false,reduceCtorEq,false_or,Fact.row.injEq,Bool.false_eq_true,false_and,and_false]at h)|(intro k l h; cases h)
theorem Shape.refl (w:World):Shape w w:=⟨fun b cur e h=>⟨cur,h,rfl⟩,KeepsOthers.refl w⟩
theorem Shape.below {w w':World} (h:Below w.heap.size w w'):Shape w w':=⟨fun b cur e hb=>⟨cur,(h.block b (Array.getElem?_eq_some_iff.1 hb).1).trans hb,rfl⟩,h.size,fun b o hb _=>(h.block b (Array.getElem?_eq_some_iff.1 hb).1).trans hb⟩
theorem Shape.alloc (w:World) (o:Obj):Shape w (w.alloc o):=⟨fun b cur e hb=>⟨cur,(Below.heap_alloc w o b (Array.getElem?_eq_some_iff.1 hb).1).trans hb,rfl⟩,KeepsOthers.alloc w o⟩
theorem Shape.trans {a b c:World} (h:Shape a b) (k:Shape b c):Shape a c:=⟨fun q cur e hq=>by
 obtain⟨c1,h1,s1⟩:=h.1 q cur e hq;obtain⟨c2,h2,s2⟩:=k.1 q c1 e h1;exact⟨c2,h2,s2.trans s1⟩,h.2.trans k.2⟩
theorem Shape.drew (w:World):Shape w w.drew:=⟨fun q cur e h=>⟨cur,h,rfl⟩,Nat.le_refl _,fun k o h _=>h⟩
theorem AppAt.shape {w w':World} (h:Shape w w') {b e sz n cap:Nat} (ha:AppAt w b e sz n cap):AppAt w' b e sz n cap:=by
 obtain⟨cur,h1,h2,h3,h4⟩:=ha;obtain⟨c',h5,h6⟩:=h.1 b cur e h1;exact⟨c',h5,h2,h3,h6.trans h4⟩
theorem fL (a:Act) (d:Nat) (v:Value) (h:d<a.tmps.size):(a.put (some d) v).tmps[d]?=some v:=by
 simp[Act.put,h]
theorem iH (a:Act) (d s:Nat) (v:Value) (h:some d≠some s):(a.put (some d) v).tmps[s]?=a.tmps[s]?:=by
 have:d≠s:=fun e=>h (by rw[e])
 simp[Act.put,Array.getElem?_setIfInBounds_ne this]
theorem dT (a:Act) (d:Option Nat) (v:Value):(a.put d v).tmps.size=a.tmps.size:=by cases d<;>simp[Act.put]
theorem iJ (a:Act) (d:Option Nat) (v:Value):(a.put d v).defers=a.defers:=by cases d<;>rfl
theorem rK {base:Nat} {β:Nat→Bk} {a:Act} {w:World} {d:Nat} {M:List Fact} (v:AV) (h:d<a.tmps.size):PostB base β β a w (some d) M [.slot d v] none (a.put (some d) (v.den β)) w where
 defers:=rfl
 size:=dT _ _ _
 tmps s hs:=iH _ _ _ _ hs
 beta k _:=rfl
 heap:=Nat.le_refl _
 mem p _ _:=⟨rfl,rfl⟩
 shape:=Shape.refl _
 below _ h:=h
 ok φ hφ:=by cases List.mem_singleton.1 hφ; exact fL _ _ _ h
 rows k l hk:=by cases List.mem_singleton.1 hk
 one k k' l l' hk:=by cases List.mem_singleton.1 hk
 kills k hk:=by cases hk
theorem mV {base:Nat} {β:Nat→Bk} {a:Act} {w w':World} {d:Nat} {M:List Fact} (v:AV) (h:d<a.tmps.size) (hB:base≤w.heap.size) (hb:Below w.heap.size w w'):PostB base β β a w (some d) M [.slot d v] none (a.put (some d) (v.den β)) w' where
 defers:=rfl
 size:=dT _ _ _
 tmps s hs:=iH _ _ _ _ hs
 beta k _:=rfl
 heap:=hb.size
 mem p hp _:=⟨hb.cell hp,hb.frozen hp⟩
 shape:=Shape.below hb
 below _ h:=h.trans (hb.mono hB)
 ok φ hφ:=by cases List.mem_singleton.1 hφ; exact fL _ _ _ h
 rows k l hk:=by cases List.mem_singleton.1 hk
 one k k' l l' hk:=by cases List.mem_singleton.1 hk
 kills k hk:=by cases hk
def MD (β:Nat→Bk) (d b:Nat):Nat→Bk:=fun k=>bif Nat.beq k d then (b,0,0)else β k
def MB (β:Nat→Bk) (d b cap:Nat):Nat→Bk:=fun k=>bif Nat.beq k d then (b,0,cap)else β k
theorem bZ (β:Nat→Bk) (d b cap:Nat):MB β d b cap d=(b,0,cap):=by simp[MB]
theorem FQ (β:Nat→Bk) (d b cap k:Nat) (h:some d≠some k):MB β d b cap k=β k:=by
 have:k≠d:=fun e=>h (by rw[e])
 unfold MB;cases h2:Nat.beq k d
 ·rfl
 ·exact absurd (Nat.eq_of_beq_eq_true h2) this
theorem cD (β:Nat→Bk) (d b:Nat):MD β d b d=(b,0,0):=by simp[MD]
theorem FT (β:Nat→Bk) (d b k:Nat) (h:some d≠some k):MD β d b k=β k:=by
 have:k≠d:=fun e=>h (by rw[e])
 unfold MD;cases h2:Nat.beq k d
 ·rfl
 ·exact absurd (Nat.eq_of_beq_eq_true h2) this
theorem IK {base:Nat} {β:Nat→Bk} {a:Act} {w:World} {d:Nat} {M:List Fact} (v:AV) (l:List At) (t:TypeId) (h:d<a.tmps.size) (hB:base≤w.heap.size) :
  PostB base β (MD β d w.heap.size) a w (some d) M [.slot d v,.row d true l] none (a.put (some d) (v.den (MD β d w.heap.size))) (w.alloc (.cells (aB l).toArray t)) where
 defers:=rfl
 size:=dT _ _ _
 tmps s hs:=iH _ _ _ _ hs
 beta k hk:=FT _ _ _ _ hk
 heap:=by simp
 mem p hp _:=⟨World.cell?_alloc_lt _ _ _ hp,World.frozen?_alloc_past _ _ _ hp⟩
 shape:=Shape.alloc _ _
 below _ h:=h.alloc hB _
 ok φ hφ:=by
  rcases List.mem_cons.1 hφ with rfl|hφ
  ·exact fL _ _ _ h
  ·cases List.mem_singleton.1 hφ;refine⟨by rw[cD]; simp,fun j u hj => ?_,fun _=>⟨by rw[cD]; exact hB,by rw[cD],fun j=>by rw[cD]; exact World.frozen?_alloc_new _ _ _ _⟩,fun h=>by cases h⟩;rw[cD];show World.cell? _ ⟨_,0+j,none⟩=_;rw[Nat.zero_add,World.cell?_alloc_new];simpa using hj
 rows k l' hk:=by
  rcases List.mem_cons.1 hk with hk|hk
  ·cases hk
  ·cases List.mem_singleton.1 hk;exact Or.inl ⟨by rw[cD]; exact Nat.le_refl _,rfl⟩
 one k k' l1 l2 hk hk':=by
  rcases List.mem_cons.1 hk with hk|hk
  ·cases hk
  ·rcases List.mem_cons.1 hk' with hk'|hk'
   ·cases hk'
   ·cases List.mem_singleton.1 hk; cases List.mem_singleton.1 hk'; rfl
 kills k hk:=by cases hk
abbrev WG:=Option (List Prop×List Fact×Option Nat)
def WF:At→Bool
 | .c v=>pS v
 | _=>true
def EG (M:List Fact):List AV→Option (List Value)
 | []=>some []
 | .im v::r=>match EG M r with|some l=>some (v::l)|none=>none
 | .pt k o::r=>match qK M k,EG M r with|some b,some l=>some (.pointer (some ⟨b,o,none⟩)::l)|_,_=>none
 | _::_=>none
def BQ (M:List Fact) (ky:Option Nat) (v:Value):Option (List Prop×AV) :=
 match ky with
 | none=>some ([],.im v)
 | some k=>match v,qK M k with
  | .slice (some ⟨b,0,none⟩) n m,some b'=>some ([b=b'],.sl k 0 n m)
  | .pointer (some ⟨b,0,none⟩),some b'=>some ([b=b'],.pt k 0)
  | _,_=>none
def bJ (op:BinOp) (k:IntKind) (a b:Int):Option Value :=
 match op with
 | .add=>some (.int k (k.wrap (a+b)))
 | .sub=>some (.int k (k.wrap (a-b)))
 | .mul=>some (.int k (k.wrap (a*b)))
 | .rem=>if b=0 then none else some (.int k (a.tmod b))
 | .quo=>if b=0 then none else some (.int k (k.wrap (a.tdiv b)))
 | .eql=>some (.bool (a==b))
 | .neq=>some (.bool (a != b))
 | .lss=>some (.bool (decide (a<b)))
 | .leq=>some (.bool (decide (a≤b)))
 | .gtr=>some (.bool (decide (a>b)))
 | .geq=>some (.bool (decide (a≥b)))
 | _=>none
def Ac (E:Env) (d:Nat) (op:BinOp) (t:Nat) (x y:AV):WG :=
 match x,y with
 | .im (.int k a),.im (.int k' b)=>if k=k' then (match E.num d with
  | some v=>some ([bJ op k a b=some v],[.slot d (.im v)],none)
  | none=>match bJ op k a b with|some v=>some ([],[.slot d (.im v)],none)|none=>none)else none
 | .im (.bool a),.im (.bool b)=>match E.P.underlying t with
  | some .bool=>(match op with
   | .eql=>some ([],[.slot d (.im (.bool (a==b)))],none)
   | .neq=>some ([],[.slot d (.im (.bool (a != b)))],none)
   | _=>none)
  | _=>none
 | .fl l,.fl m=>bif E.q.fit t l&&E.q.fit t m then
   (bif E.hint d then (match E.q.q t with
    | some n=>bif Nat.beq (fA l) n&&Nat.beq (fA m) n then
      (match op with
      | .eql=>some ([aB l=aB m],[.slot d (.im (.bool true))],none)
      | .neq=>some ([aB l=aB m],[.slot d (.im (.bool false))],none)
      | _=>none)else none
    | none=>none)
   else (match E.q.n t with
    | some n=>bif Nat.beq (fA l) n&&Nat.beq (fA m) n then
      (match op with
      | .eql=>some ([aB l≠aB m],[.slot d (.im (.bool false))],none)
      | .neq=>some ([aB l≠aB m],[.slot d (.im (.bool true))],none)
      | _=>none)else none
    | none=>none))else none
 | _,_=>none
def Bo (P:Program) (t:Nat):Option (Nat×Nat×Nat):=match P.underlying t with
 | some (.slice e)=>(match P.info? e with
  | some i=>(match i.zero with
   | some z=>bif Nat.beq z.cells.size i.size&&Nat.blt 0 i.size then some (e,i.size,i.bytes)else none
   | none=>none)
  | none=>none)
 | _=>none
def Bp (M:List Fact) (sz:Nat):AV→Option (Nat×List At)
 | .sl k o n m=>match dA M k with
  | some (_,l)=>(match WD l o with|some r=>(match tk r (n*sz)with|some t=>some (n,t)|none=>none)|none=>none)
  | none=>none
 | .so k n=>match dA M k with
  | some (_,l)=>(match tk l (n*sz)with|some t=>some (n,t)|none=>none)
  | none=>none
 | _=>none
def Eh (M:List Fact) (e sz:Nat):AV→Option (Nat×List At×Option Nat)
 | .im (.slice none 0 0)=>some (0,[],none)
 | .so k n=>match dA M k,mK M k with
  | some (true,l),some (e',sz',n')=>bif Nat.beq e e'&&(Nat.beq sz sz'&&(Nat.beq n n'&&Nat.beq (fA l) (n*sz)))then some (n,l,some k)else none
  | _,_=>none
 | _=>none
def Df (E:Env) (M:List Fact) (sz d:Nat) (v:AV):Option (Nat×List At×List Prop):=match E.q.x.ld d with
 | some news=>(match v with
  | .sl k o n _=>(match dA M k with|some (_,l)=>some (n,news,[FL l o (n*sz)=some news])|none=>none)
  | .so k n=>(match dA M k with|some (_,l)=>some (n,news,[FL l 0 (n*sz)=some news])|none=>none)
  | .im (.slice (some ⟨b,o,.none⟩) n _)=>some (n,news,[E.q.x.old b o news,fA news=n*sz])
  | _=>none)
 | none=>(match Bp M sz v with|some (m,t)=>some (m,t,[])|none=>none)
def De (M:List Fact) (e sz:Nat):AV→Option (Nat×List At×Option Nat×List Prop)
 | .im (.slice none 0 0)=>some (0,[],none,[])
 | .so k n=>match dA M k,mK M k with
  | some (true,l),some (e',sz',n')=>bif Nat.beq e e'&&Nat.beq sz sz' then some (n,l,some k,[n=n',fA l=n*sz])else none
  | _,_=>none
 | _=>none
def zI (P:Program) (t:Nat) (name:String):Option Nat :=
 match P.info? t,P.underlying t with
 | some i,some d=>(match d with
  | .pointer _=>none
  | _=>(match i.methods.find? (·.name==name)with
   | some m=>(match m.path.toList,m.func with
    | [],some (f,false)=>some f
    | _,_=>none)
   | none=>none))
 | _,_=>none
def JW (P:Program) (t:Nat):Bool:=match P.underlying t with|some (.interface _)=>true|some _=>false|none=>true
def gK (P:Program) (t:Nat):Bool:=match P.underlying t with|some (.struct _)=>false|some (.array _ _)=>false|some _=>true|none=>false
def Dp (M:List Fact) (d:Nat) (pre:List Prop) (v:Option AV) (l':List At):WG:=match v with
 | some (.so k n)=>(match dA M k with
  | some (true,l)=>bif !(Nat.beq k d)then some (pre,[.slot d (.so k n),.row k true l'],some k)else none
  | _=>none)
 | some (.sl k 0 n m)=>(match dA M k with
  | some (true,l)=>bif !(Nat.beq k d)then some (pre,[.slot d (.sl k 0 n m),.row k true l'],some k)else none
  | _=>none)
 | _=>none
def Do (M:List Fact) (d:Nat) (pre:List Prop) (v:Option AV) (r:RV) (l':List At):WG:=match v with
 | some (.pt k o)=>(match dA M k with
  | some (true,l)=>bif !(Nat.beq k d)then some (pre,[.slot d r.av,.row k true l'],some k)else none
  | _=>none)
 | _=>none
def fV:Option Nat→Nat→Bool
 | some d,s=>Nat.beq d s
 | none,_=>false
theorem cF {d:Option Nat} {s:Nat}:fV d s=true↔d=some s:=by
 cases d with
 | none=>simp[fV]
 | some x=>simp[fV]
def Bm (M:List Fact) (k b:Nat):AV→Option (List Prop×CB)
 | .im v=>some ([],.v (.im v))
 | .fl l=>some ([],.v (.fl l))
 | .sl k' o n m=>bif Nat.beq k' k then some ([],.sl o n m)else (match dA M k',qK M k' with
  | some (_,l),some b'=>(match WD l o with|some r=>some ([b'≠b],.r r n m)|none=>none)
  | _,_=>none)
 | .pt k' o=>bif Nat.beq k' k then some ([],.pt o)else none
 | _=>none
def QF (M:List Fact) (k b:Nat):List AV→Option (List Prop×List CB)
 | []=>some ([],[])
 | v::r=>match Bm M k b v,QF M k b r with|some (p,c),some (ps,l)=>some (p++ps,c::l)|_,_=>none
def LO (j:Option Nat) (b:Nat):Nat→List Value→List Prop×List CB
 | _,[]=>([],[])
 | i,v::r=>match LO j b (i+1) r with
  | (ps,l)=>bif fV j i then (match v with
   | .pointer (some ⟨c,o,.none⟩)=>((c=b)::ps,.pt o::l)
   | v=>(ps,.v (.im v)::l))else (ps,.v (.im v)::l)
def bD (E:Env) (M:List Fact) (d:Nat):Op→WG
 | .move x=>match ev M x with|some v=>some ([],[.slot d v],none)|none=>none
 | .assign x=>match ev M x with|some v=>some ([],[.slot d v],none)|none=>none
 | .pick c x y=>match ev M c,ev M x,ev M y with
  | some (.im (.bool b)),some v,some u=>some ([],[.slot d (bif b then v else u)],none)
  | _,_,_=>none
 | .alloc t=>match QS E.P t with|some l=>some ([],[.slot d (.pt d 0),.row d true l],none)|none=>none
 | .box t x=>match ev M x with
  | some v=>match wE v with|some p=>some ([],[.slot d (.pt d 0),.row d true p],none)|none=>none
  | none=>none
 | .build t ps=>match kT M ps.toList with
  | some qs=>match AK E.P t qs with
   | some l=>(match E.q.x.ld d with
    | some l'=>some ([aB l=aB l'],[.slot d (.fl l')],none)
    | none=>some ([],[.slot d (.fl (nq l))],none))
   | none=>none
  | none=>none
 | .buildSlice t n ps=>match kT M ps.toList with
  | some qs=>match CI E.P t n qs with|some l=>some ([],[.slot d (.sl d 0 n n),.row d true l],none)|none=>none
  | none=>none
 | .load t x=>match ev M x with
  | some (.pt k o)=>match dA M k,cO E.P t,lC E.P t with
   | some (_,l),some n,true=>match E.q.x.ld d with
    | some s=>some ([FL l o n=some s],[.slot d (.fl s)],none)
    | none=>match FL l o n with|some s=>some ([],[.slot d (.fl s)],none)|none=>none
   | some (_,l),some 1,false=>bif gK E.P t then (match E.q.x.gen d with
    | some v=>(match BQ M (E.q.x.ky d) v with|some (p,u)=>some ((cellAt l o=some v)::p,[.slot d u],none)|none=>none)
    | none=>match cellAt l o with
     | some v=>(match BQ M (E.q.x.ky d) v with|some (p,u)=>some (p,[.slot d u],none)|none=>none)
     | none=>none)else none
   | _,_,_=>none
  | some (.im (.pointer (some ⟨b,o,.none⟩)))=>match cO E.P t,lC E.P t with
   | some n,true=>(match E.q.x.ld d with
    | some s=>some ([E.q.x.old b o s,fA s=n],[.slot d (.fl s)],none)
    | none=>none)
   | some 1,false=>bif gK E.P t then (match E.q.x.gen d with
    | some v=>some ([E.q.x.old b o [.c v]],[.slot d (.im v)],none)
    | none=>none)else none
   | _,_=>none
  | _=>none
 | .makeInterface t x=>match ev M x with
  | some (.fl l)=>bif JW E.P t then none else some ([],[.slot d (.ic t l)],none)
  | _=>none
 | .nilCheck x=>match ev M x with
  | some (.pt k o)=>some ([],[.slot d (.pt k o)],none)
  | some (.im (.pointer (some p)))=>some ([],[.slot d (.im (.pointer (some p)))],none)
  | _=>none
 | .fieldAddr s x i=>match ev M x,E.P.underlying s with
  | some (.pt k o),some (.struct fs)=>match fs[i]? with
   | some f=>match cO E.P f.type with
    | some n=>bif Nat.beq n 0 then none else some ([],[.slot d (.pt k (o+f.offset))],none)
    | none=>none
   | none=>none
  | some (.im (.pointer (some ⟨b,o,.none⟩))),some (.struct fs)=>match fs[i]? with
   | some f=>match cO E.P f.type with
    | some n=>bif Nat.beq n 0 then none else some ([],[.slot d (.im (.pointer (some ⟨b,o+f.offset,.none⟩)))],none)
    | none=>none
   | none=>none
  | _,_=>none
 | .indexAddr t x y=>match E.q.x.idx d with
  | some j=>(match ev M x,ev M y,E.P.underlying t with
   | some (.pt k o),some (.im (.int kd i)),some (.array n e)=>(match cO E.P e with
    | some s=>some ([i=Int.ofNat j,j<n],[.slot d (.pt k (o+j*s))],none)
    | none=>none)
   | some (.sl k o n m),some (.im (.int kd i)),some (.slice e)=>(match cO E.P e with
    | some s=>some ([i=Int.ofNat j,j<n],[.slot d (.pt k (o+j*s))],none)
    | none=>none)
   | some (.im (.pointer (some ⟨b,o,.none⟩))),some (.im (.int kd i)),some (.array n e)=>(match cO E.P e with
    | some s=>some ([i=Int.ofNat j,j<n],[.slot d (.im (.pointer (some ⟨b,o+j*s,.none⟩)))],none)
    | none=>none)
   | some (.im (.slice (some ⟨b,o,.none⟩) n m)),some (.im (.int kd i)),some (.slice e)=>(match cO E.P e with
    | some s=>some ([i=Int.ofNat j,j<n],[.slot d (.im (.pointer (some ⟨b,o+j*s,.none⟩)))],none)
    | none=>none)
   | _,_,_=>none)
  | none=>match ev M x,ev M y with
  | some (.pt k o),some (.im (.int kd (.ofNat i)))=>match E.P.underlying t with
   | some (.array n e)=>match cO E.P e with
    | some s=>bif Nat.blt i n then some ([],[.slot d (.pt k (o+i*s))],none)else none
    | none=>none
   | _=>none
  | some (.sl k o n m),some (.im (.int kd (.ofNat i)))=>match E.P.underlying t with
   | some (.slice e)=>match cO E.P e with
    | some s=>bif Nat.blt i n then some ([],[.slot d (.pt k (o+i*s))],none)else none
    | none=>none
   | _=>none
  | some (.so k n),some (.im (.int kd (.ofNat i)))=>match E.P.underlying t with
   | some (.slice e)=>match cO E.P e with
    | some s=>bif Nat.blt i n then some ([],[.slot d (.pt k (i*s))],none)else none
    | none=>none
   | _=>none
  | _,_=>none
 | .index t x y=>match E.q.x.gen d with
  | some v=>(match ev M x,ev M y,E.P.underlying t with
   | some (.fl l),some (.im (.int kd (.ofNat i))),some (.array n e)=>(match cO E.P e with
    | some 1=>bif gK E.P e then some ([i<n,cellAt l i=some v],[.slot d (.im v)],none)else none
    | _=>none)
   | _,_,_=>none)
  | none=>match ev M x,ev M y with
  | some (.fl l),some (.im (.int kd (.ofNat i)))=>match E.P.underlying t with
   | some (.array n e)=>match cO E.P e,lC E.P e with
    | some s,true=>bif Nat.blt i n then (match FL l (i*s) s with|some r=>some ([],[.slot d (.fl r)],none)|none=>none)else none
    | some 1,false=>bif gK E.P e&&Nat.blt i n then (match cellAt l i with|some v=>some ([],[.slot d (.im v)],none)|none=>none)else none
    | _,_=>none
   | _=>none
  | _,_=>none
 | .field s x i=>match ev M x,E.P.underlying s with
  | some (.fl l),some (.struct fs)=>match fs[i]? with
   | some f=>match cO E.P f.type,lC E.P f.type with
    | some n,true=>(match FL l f.offset n with|some r=>some ([],[.slot d (.fl r)],none)|none=>none)
    | some 1,false=>bif gK E.P f.type then (match cellAt l f.offset with|some v=>some ([],[.slot d (.im v)],none)|none=>none)else none
    | _,_=>none
   | none=>none
  | _,_=>none
 | .extract x i=>match ev M x with
  | some (.tu l)=>match l[i]? with|some t=>some ([],[.slot d t.av],none)|none=>none
  | some (.tf k n m post)=>match i with
   | 0=>some ([],[.slot d (.sl k 0 n m)],none)
   | i+1=>match post[i]? with|some t=>some ([],[.slot d t.av],none)|none=>none
  | some (.tg k n ante post)=>bif Nat.blt i ante.length then (match ante[i]? with|some t=>some ([],[.slot d t.av],none)|none=>none)
   else bif Nat.beq i ante.length then some ([],[.slot d (.so k n)],none)
   else (match post[i-ante.length-1]? with|some t=>some ([],[.slot d t.av],none)|none=>none)
  | _=>none
 | .slice t x (some lo) (some hi) none=>match E.q.x.gen d with
  | some r=>(match ev M x,ev M lo,ev M hi with
   | some (.im v),some (.im u),some (.im u')=>some ([∀w:World,(Instr.sliceAt t v (some u) (some u') none).run E.P w=.ok r w],[.slot d (.im r)],none)
   | _,_,_=>none)
  | none=>match ev M x,ev M lo,ev M hi,E.P.underlying t with
  | some (.sl k o n m),some (.im (.int _ (.ofNat i))),some (.im (.int _ (.ofNat j))),some (.slice e)=>match cO E.P e with
   | some s=>some ([i≤j,j≤m,i<m],[.slot d (.sl k (o+i*s) (j-i) (m-i))],none)
   | none=>none
  | _,_,_,_=>none
 | .slice t x (some lo) none none=>match E.q.x.gen d with
  | some r=>(match ev M x,ev M lo with
   | some (.im v),some (.im u)=>some ([∀w:World,(Instr.sliceAt t v (some u) none none).run E.P w=.ok r w],[.slot d (.im r)],none)
   | _,_=>none)
  | none=>match ev M x,ev M lo,E.P.underlying t with
   | some (.sl k o n m),some (.im (.int _ (.ofNat i))),some (.slice e)=>(match cO E.P e with
    | some s=>some ([i≤n,n≤m,i<m],[.slot d (.sl k (o+i*s) (n-i) (m-i))],none)
    | none=>none)
   | _,_,_=>none
 | .slice t x none hi none=>match ev M x,E.P.underlying t with
  | some (.pt k o),some (.array n e)=>match cO E.P e with
   | some s=>match hi with
    | none=>some ([],[.slot d (.sl k o n n)],none)
    | some y=>match ev M y with
     | some (.im (.int kd (.ofNat h)))=>bif Nat.ble h n then some ([],[.slot d (.sl k o h n)],none)else none
     | _=>none
   | none=>none
  | some (.sl k o n m),some (.slice e)=>match hi with
   | some y=>(match ev M y,cO E.P e with
    | some (.im (.int kd (.ofNat h))),some s=>some ([h≤m],[.slot d (.sl k o h m)],none)
    | _,_=>none)
   | none=>none
  | some (.im (.slice p n m)),some (.slice e)=>match hi with
   | some y=>(match ev M y,cO E.P e with
    | some (.im (.int kd (.ofNat h))),some s=>some ([h≤m],[.slot d (.im (.slice p h m))],none)
    | _,_=>none)
   | none=>none
  | _,_=>none
 | .binOp op t x y _=>match E.q.x.gen d with
  | some r=>(match ev M x,ev M y with
   | some (.im v),some (.im u)=>some ([∀w:World,(do eqGuard op t x y v u; binOp op t v u:Sem Value).run E.P w=.ok r w],[.slot d (.im r)],none)
   | _,_=>none)
  | none=>match ev M x,ev M y with|some v,some u=>Ac E d op t v u|_,_=>none
 | .convert src dst x=>match E.q.x.gen d,ev M x with
  | some r,some (.im v)=>some ([∀w:World,(convert src dst v).run E.P w=.ok r w],[.slot d (.im r)],none)
  | _,_=>none
 | .makeFunc fn first captured=>match fn with
  | .func id=>bif Nat.beq first.size 0 then (match VD M captured.toList with
   | some l=>(match EG M l with|some vs=>some ([],[.slot d (.im (.func (.func id) #[] vs.toArray))],none)|none=>none)
   | none=>none)else none
  | _=>none
 | .makeSlice t l c=>match E.q.x.mks d,ev M l,ev M c with
  | some (n,L),some (.im v),some (.im u)=>some ([∃e,∀w:World,(Instr.makeSlice t v u).run E.P w=.ok (.slice (some ⟨w.heap.size,0,none⟩) n n) (w.alloc (.cells (aB L).toArray e))],[.slot d (.sl d 0 n n),.row d true L],none)
  | _,_,_=>none
 | .unOp op _ x=>match E.q.x.gen d with
  | some r=>(match ev M x with
   | some (.im v)=>some ([∀w:World,(Op.unary op v).run E.P w=.ok r w],[.slot d (.im r)],none)
   | _=>none)
  | none=>match op,ev M x with
  | .not,some (.im (.bool b))=>match E.num d with
   | some v=>some ([Value.bool (!b)=v],[.slot d (.im v)],none)
   | none=>some ([],[.slot d (.im (.bool (!b)))],none)
  | _,_=>none
 | .call c=>match c.callee with
  | .builtin .len=>match c.args.toList,c.argTypes.toList with
   | [x],[t]=>match ev M x,E.P.underlying t with
    | some (.sl k o n m),some (.slice e)=>some ([],[.slot d (.im (goInt n))],none)
    | some (.im (.slice p n m)),some (.slice e)=>some ([],[.slot d (.im (goInt n))],none)
    | some (.so k n),some (.slice e)=>some ([],[.slot d (.im (goInt n))],none)
    | _,_=>none
   | _,_=>none
  | .builtin .append=>match c.args.toList,c.argTypes.toList with
   | [x,y],[t,t']=>bif Nat.beq t t' then (match ev M x,ev M y,Bo E.P t with
    | some u,some v,some (e,sz,by8)=>(match E.q.x.mks d with
     | some (N',L')=>(match Df E M sz d v,De M e sz u with
      | some (m,news,p1),some (n,l,kl,p2)=>some (p1++(p2++[∀x∈aB news,x.oneCell'=true,0<m,(n+m)*by8≤140737488355328,n+m≤4611686018427387904,N'=n+m,aB L'=aB (l++news)]),[.slot d (.so d N'),.row d true L',.app d e sz N'],kl)
      | _,_=>none)
     | none=>match Bp M sz v,Eh M e sz u with
     | some (m,news),some (n,l,kl)=>bif news.all WF&&(Nat.blt 0 m&&(Nat.ble ((n+m)*by8) 140737488355328&&Nat.ble (n+m) 4611686018427387904))then some ([],[.slot d (.so d (n+m)),.row d true (l++news),.app d e sz (n+m)],kl)else none
     | _,_=>none)
    | _,_,_=>none)else none
   | _,_=>none
  | .builtin .max=>match c.args.toList with
   | [x,y]=>match ev M x,ev M y with
    | some (.im (.int k a)),some (.im (.int k' b))=>match E.num d with
     | some v=>some ([Value.int k (if b>a then b else a)=v],[.slot d (.im v)],none)
     | none=>some ([],[.slot d (.im (.int k (if b>a then b else a)))],none)
    | _,_=>none
   | _=>none
  | .builtin .min=>match c.args.toList with
   | [x,y,z]=>match ev M x,ev M y,ev M z,E.num d with
    | some (.im (.int k a)),some (.im (.int k' b)),some (.im (.int k'' c)),some v=>some ([Value.int k (if c<(if b<a then b else a)then c else (if b<a then b else a))=v],[.slot d (.im v)],none)
    | _,_,_,_=>none
   | [x,y]=>match ev M x,ev M y,E.num d with
    | some (.im (.int k a)),some (.im (.int k' b)),some v=>some ([Value.int k (if b<a then b else a)=v],[.slot d (.im v)],none)
    | _,_,_=>none
   | _=>none
  | .builtin .complex=>match E.q.x.gen d,c.args.toList with
   | some r,[x,y]=>(match ev M x,ev M y with
    | some (.im v),some (.im u)=>some ([∀w:World,(Builtin.complex_ #[] 0 #[v,u]).run E.P w=.ok r w],[.slot d (.im r)],none)
    | _,_=>none)
   | _,_=>none
  | .builtin .real=>match E.q.x.gen d,c.args.toList with
   | some r,[x]=>(match ev M x with
    | some (.im v)=>some ([∀w:World,(Builtin.real_ #[] 0 #[v]).run E.P w=.ok r w],[.slot d (.im r)],none)
    | _=>none)
   | _,_=>none
  | .builtin .imag=>match E.q.x.gen d,c.args.toList with
   | some r,[x]=>(match ev M x with
    | some (.im v)=>some ([∀w:World,(Builtin.imag_ #[] 0 #[v]).run E.P w=.ok r w],[.slot d (.im r)],none)
    | _=>none)
   | _,_=>none
  | .value f=>match ev M f with
   | some (.im (.func (.func id) first captured))=>bif Nat.beq first.size 0 then
     (match VD M c.args.toList with
     | some l=>match E.q.x.ky d with
      | some k=>(match dA M k,qK M k with
       | some (true,row),some b=>(match QF M k b l,LO (E.q.x.idx d) b 0 captured.toList with
        | some (p1,cbs),(p2,cps)=>(match E.q.x.T6 id b row (cbs++cps)with
         | some (pre,r,row')=>bif !(Nat.beq k d)then some (p1++(p2++pre),[.slot d r.av,.row k true row'],some k)else none
         | none=>none)
        | _,_=>none)
       | _,_=>none)
      | none=>match sI M l with
      | some cs=>match E.T d id (cs++captured.toList.map fun v=>.v (.im v))with
       | some (pre,r)=>some (pre,[.slot d r.av],none)
       | none=>match E.q.x.T2 id (cs++captured.toList.map fun v=>.v (.im v))with
        | some (pre,r)=>some (pre,[.slot d (bif r.post.isEmpty then .sl d 0 r.n r.m else .tf d r.n r.m r.post),.row d true r.l],none)
        | none=>match E.q.x.T3 id (cs++captured.toList.map fun v=>.v (.im v))with
         | some (pre,r)=>some (pre,.slot d (bif r.lone then .so d r.n else .tg d r.n r.ante r.post) :: .row d true r.l::(bif r.ap then [.app d r.e r.sz r.n]else []),none)
         | none=>match E.q.x.T4 id (cs++captured.toList.map fun v=>.v (.im v))with
          | some (pre,j,l')=>Dp M d pre (l[j]?) l'
          | none=>match E.q.x.T5 id (cs++captured.toList.map fun v=>.v (.im v))with
           | some (pre,j,r,l')=>Do M d pre (l[j]?) r l'
           | none=>none
      | none=>none
     | none=>none)else none
   | _=>none
  | .invoke x name=>match ev M x with
   | some (.ic t l0)=>(match zI E.P t name with
    | some id=>(match VD M c.args.toList with
     | some l=>match sI M l with
      | some cs=>match E.T d id (.v (.fl l0)::cs)with
       | some (pre,r)=>some (pre,[.slot d r.av],none)
       | none=>none
      | none=>none
     | none=>none)
    | none=>none)
   | _=>none
  | _=>none
 | _=>none
def SL (E:Env):Operand→Option (List At)
 | .tmp s=>E.q.x.st s
 | _=>none
def sS (E:Env) (M:List Fact):Op→WG
 | .store t x y=>match ev M x,ev M y with
  | some (.pt k o),some v=>match wE v,dA M k,cO E.P t with
   | some p,some (true,l),some n=>bif Nat.beq n (fA p)&&p.all WF then
     (match SL E x with
     | some l'=>some ([put l o p=some l'],[.row k true l'],some k)
     | none=>match put l o p with|some l'=>some ([],[.row k true l'],some k)|none=>none)else none
   | _,_,_=>none
  | _,_=>none
 | _=>none
def tS (ops:Array Oper) (M:List Fact):Option (Nat×Bool)→Option Bool
 | none=>some true
 | some (g,b)=>match (ops[g]?).bind (·.dst)with
  | some s=>match oG M s with|some (.im (.bool c))=>some (c==b)|some (.im (.tuple _))=>some false|_=>none
  | none=>none
def VY (E:Env) (ops:Array Oper) (M:List Fact) (o:Oper):WG :=
 match tS ops M o.guard with
 | some true=>(match o.dst with
  | some d=>bif Nat.blt d E.nt then bD E M d o.op else none
  | none=>sS E M o.op)
 | some false=>(match o.dst with
  | some d=>bif Nat.blt d E.nt then some ([],[.slot d (.im undef)],none)else none
  | none=>none)
 | none=>none
theorem mC {ops:Array Oper} {M:List Fact} {base:Nat} {β:Nat→Bk} {a:Act} {w:World} (hM:∀φ∈M,φ.ok base β a w) {o:Oper} {t:Bool} (h:tS ops M o.guard=some t):Region.wanted o (yielded ops a.tmps)=t:=by
 unfold Region.wanted;cases hg:o.guard with
 | none=>rw[hg]at h; cases h; rfl
 | some gb =>
  obtain⟨g,b⟩:=gb;rw[hg]at h;unfold tS at h;simp only at h ⊢;unfold yielded;cases hs:(ops[g]?).bind (·.dst)with
  | none=>rw[hs]at h; cases h
  | some s =>
   rw[hs]at h;simp only at h;cases hl:oG M s with
   | none=>rw[hl]at h; cases h
   | some v =>
    rw[hl]at h;have:=hM _ (dU hl);simp only[Fact.ok]at this;cases v with
    | im u =>
     cases u<;>first|(cases h; done)|skip
     all_goals
      cases h;simp[this,AV.den]
    | _=>cases h
theorem lL {P:Program} {o:Oper} {a:Act} {w w':World} {K:Act→World→Prop} {Q:Exit→Act→World→Prop} {v:Value} (h:(execOp a.eval o).run P w=.ok (.value v) w') (hK:K (a.put o.dst v) w'):o.wp P a w K Q:=by
 unfold Oper.wp;rw[h];exact hK
theorem LM {base:Nat} {β:Nat→Bk} {a:Act} {w:World} {M:List Fact} (hM:∀φ∈M,φ.ok base β a w) {k b:Nat} (hat:(β k).1=b∧(β k).2.1=0) {v:AV} {p:List Prop} {c:CB} (h:Bm M k b v=some (p,c)) (hp:aU p):c.ok w b (v.den β):=by
 cases v with
 | im v=>cases h; rfl
 | fl l=>cases h; rfl
 | sl k' o n m =>
  unfold Bm at h;simp only at h;cases hb:Nat.beq k' k<;>rw[hb]at h
  ·simp only[cond_false]at h;split at h
   ·rename_i ow l b' hr ha;split at h
    ·rename_i r hd;cases h;obtain⟨h1,h2,_⟩:=hM _ (aW hr);obtain⟨e1,e2⟩:=hM _ (dV ha);obtain⟨q,e,hq⟩:=qC hd;refine⟨(β k').1,(β k').2.1+o,rfl,h1,by rw[e1]; exact hp.1,fun j u hj => ?_⟩;have:=h2 (o+j) u (by rw[e,aO,List.getElem?_append_right (by rw[aM,hq]; omega),aM,hq]; simpa using hj)
     rwa [←Nat.add_assoc]at this
    ·cases h
   ·cases h
  ·cases Nat.eq_of_beq_eq_true hb;cases h;show Value.slice (some ⟨(β _).1,(β _).2.1+o,none⟩) n m=_;rw[hat.1,hat.2,Nat.zero_add]
 | pt k' o =>
  unfold Bm at h;simp only at h;cases hb:Nat.beq k' k<;>rw[hb]at h
  ·cases h
  ·cases Nat.eq_of_beq_eq_true hb;cases h;show Value.pointer (some ⟨(β _).1,(β _).2.1+o,none⟩)=_;rw[hat.1,hat.2,Nat.zero_add]
 | _=>cases h
theorem sH {base:Nat} {β:Nat→Bk} {a:Act} {w:World} {M:List Fact} (hM:∀φ∈M,φ.ok base β a w) {k b:Nat} (hat:(β k).1=b∧(β k).2.1=0):∀{l:List AV} {p:List Prop} {cs:List CB},QF M k b l=some (p,cs)→aU p→CBs w b cs (l.map (AV.den β))
 | [],p,cs,h,hp=>by cases h; trivial
 | v::r,p,cs,h,hp=>by
  unfold QF at h;split at h
  ·rename_i p1 c1 p2 c2 h1 h2;cases h;rw[cS]at hp;exact⟨LM hM hat h1 hp.1,sH hM hat h2 hp.2⟩
  ·cases h
theorem kG {w:World} {j:Option Nat} {b:Nat}:∀{l:List Value} {i:Nat} {p:List Prop} {cs:List CB},LO j b i l=(p,cs)→aU p→CBs w b cs l
 | [],i,p,cs,h,hp=>by cases h; trivial
 | v::r,i,p,cs,h,hp=>by
  unfold LO at h;cases hr:LO j b (i+1) r with
  | mk ps l =>
   rw[hr]at h;simp only at h;cases hb:fV j i<;>rw[hb]at h
   ·cases h;exact⟨rfl,kG hr hp⟩
   ·simp only[cond_true]at h;split at h
    ·cases h;exact⟨by rw[hp.1]; rfl,kG hr hp.2⟩
    ·cases h;exact⟨rfl,kG hr hp⟩
theorem CBs.app {w:World} {b:Nat}:∀{cs ds:List CB} {vs us:List Value},CBs w b cs vs→CBs w b ds us→CBs w b (cs++ds) (vs++us)
 | [],ds,[],us,_,h=>h
 | [],ds,_::_,us,h,_=>h.elim
 | c::cs,ds,[],us,h,_=>by cases c<;>exact h.elim
 | c::cs,ds,v::vs,us,h,h2=>⟨h.1,CBs.app h.2 h2⟩
end Go.Proofs.Ytjeplinbleofnaa.Ex
