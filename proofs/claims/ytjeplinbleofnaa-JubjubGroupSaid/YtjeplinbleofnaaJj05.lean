/- Jj05 -/
import Derived.Laws.MakeOwn
import Derived.WalkKit
import Derived.WalkLawsBesides
import Derived.WalkSpells
import Derived.ProofKit
import Derived.RegionTactic
import Derived.BigRegion
import Derived.BigQuiet
import Derived.Deep.QuietTactic
import Derived.ChangeAlike
import Derived.Laws.Externs
import Derived.LoopN
import Derived.Below
import Derived.Lib.Hide
import Derived.Shelf.Strconv.Itoa0
import Derived.Shelf.Bits.Mul64
import Derived.StillTailTactics
import Derived.Laws.Bits64b
import Derived.Laws.Bits64
import Derived.Deep.Draws
import Derived.LoopTactic
import Derived.Deep.LoopGhost
import Derived.KernelRfl
import Derived.Deep.RegionWith
import Derived.Outline
import Derived.Test.YtjeplinbleofnaaJj04
import Derived.Test.YtjeplinbleofnaaProg
import Derived.Test.YtjeplinbleofnaaJj01
set_option maxRecDepth 100000
set_option linter.unusedVariables false
set_option linter.unusedSimpArgs false
set_option linter.unnecessarySimpa false
namespace Go.Proofs.Ytjeplinbleofnaa.Ex
open Go.Proofs.Try
open Go.RowKit
section
variable {E:Env} {ops big:Array Oper} {base:Nat} {w0:World} {A A':List Fact} {TF:List (Option Nat×Fact)} {rs:List Rec} {ps:List Prop} {Q:Exit→Act→World→Prop}
end
section
variable {P:Program} {nt base:Nat} {w0:World} {A:List Fact} {a:Act} {w:World}
theorem Holds.im (h:Holds nt base w0 A a w) {s k o n m b:Nat} (h1:Fact.slot s (.sl k o n m)∈A) (h2:Fact.at k b∈A):Holds nt base w0 (.slot s (.im (Bu b o n m))::A) a w:=by
 obtain⟨β,g1,g2,g3⟩:=h.facts;have e1:=g1 _ h1;have e2:=g1 _ h2;simp only[Fact.ok]at e1 e2;have up:∀k1 o1 l1,Fact.row k1 o1 l1∈(Fact.slot s (.im (Bu b o n m))::A)→Fact.row k1 o1 l1∈A:=fun k1 o1 l1 e=>by
  rcases List.mem_cons.1 e with e|e
  ·cases e
  ·exact e
 refine⟨h.defers,h.size,h.below,h.heap,β,fun φ hφ => ?_,fun k1 k2 o2 l1 l2 q1 q2=>g2 k1 k2 o2 l1 l2 (up _ _ _ q1) (up _ _ _ q2),fun k1 l1 e=>g3.1 k1 l1 (up _ _ _ e),g3.2⟩
 rcases List.mem_cons.1 hφ with rfl|hφ
 ·show a.tmps[s]?=_;rw[e1];simp[AV.den,e2,Bu]
 ·exact g1 φ hφ
theorem Holds.old (h:Holds nt base w0 A a w) {k b:Nat} {l:List At} (h1:Fact.row k true l∈A) (h2:Fact.at k b∈A):oldOf w b 0 l:=by
 obtain⟨β,g1,g2⟩:=h.facts;obtain⟨e1,e2,_⟩:=g1 _ h1;have e3:=g1 _ h2;simp only[Fact.ok]at e3;rw[e3.1]at e1 e2;rw[e3.2]at e2;exact⟨e1,e2⟩
theorem Holds.slot (h:Holds nt base w0 A a w) {s:Nat} {v:Value} (h1:Fact.slot s (.im v)∈A):a.tmps[s]?=some v:=by
 obtain⟨β,g1,g2⟩:=h.facts;exact g1 _ h1
theorem Holds.put (h:Holds nt base w0 A a w) {w':World} (hb:Below w.heap.size w w') {d:Nat} (hd:d<nt) (v:TV) (hA:∀φ∈A,gH (some d) none φ=false):Holds nt base w0 (.slot d v.av::A) (a.put (some d) v.den) w':=by
 obtain⟨β,g1,g2,g3,gt⟩:=h.facts;have hP:=mV (base:=base) (β:=β) (a:=a) (w:=w) (w':=w') (M:=A) v.av (d:=d) (by rw[h.size]; exact hd) h.heap hb;rw[TV.av_den]at hP;have up:∀k1 o1 l1,Fact.row k1 o1 l1∈(Fact.slot d v.av::A)→Fact.row k1 o1 l1∈A:=fun k1 o1 l1 e=>by
  rcases List.mem_cons.1 e with e|e
  ·cases e
  ·exact e
 refine⟨by rw[iJ]; exact h.defers,by rw[dT]; exact h.size,h.below.trans (hb.mono h.heap),Nat.le_trans h.heap hb.size,β,fun φ hφ => ?_,fun k1 k2 o2 l1 l2 q1 q2=>g2 k1 k2 o2 l1 l2 (up _ _ _ q1) (up _ _ _ q2),fun k1 l1 e=>g3 k1 l1 (up _ _ _ e),Nat.le_trans gt.size hb.size,fun p h1 h2 => ?_,gt.shape.trans (Shape.below hb)⟩
 ·rcases List.mem_cons.1 hφ with rfl|hφ
  ·exact hP.ok _ (List.mem_singleton.2 rfl)
  ·exact UQ hP (g1 φ hφ) (hA φ hφ) fun kk k nM l q=>by cases q
 ·have hlt:=Nat.lt_of_lt_of_le h2 gt.size;have:=gt.mem p h1 h2;exact⟨(hb.cell hlt).trans this.1,(hb.frozen hlt).trans this.2⟩
end
def LN (f:Nat→List At):Nat→Nat→List At
 | _,0=>[]
 | s,n+1=>f s++LN f (s+1) n
theorem xI {f:Nat→List At} {c:Nat} (h:∀j,fA (f j)=c):∀n s,fA (LN f s n)=n*c
 | 0,s=>by simp[LN,fA]
 | n+1,s=>by
  show fA (f s++LN f (s+1) n)=_;rw[zR,h,xI h n,Nat.add_mul,Nat.one_mul,Nat.add_comm]
def Fd (f:Nat→List At) (z:List At) (N i:Nat):List At:=LN f 0 i++LN (fun _=>z) i (N-i)
def xR (l:List Value) (v:Value):Prop:=l=List.replicate l.length v
theorem GP {l m:List Value} {v:Value} (h:xR l v) (k:xR m v):xR (l++m) v:=by
 unfold xR at *;rw[h,k];simp[List.replicate_append_replicate]
theorem xJ {z:List At} {v:Value} (h:xR (aB z) v):∀n s,xR (aB (LN (fun _=>z) s n)) v
 | 0,s=>rfl
 | n+1,s=>by
  show xR (aB (z++LN (fun _=>z) (s+1) n)) v;rw[aO];exact GP h (xJ h n (s+1))
theorem Fb {P:Program} {t e:TypeId} {i:TypeInfo} {zv:Value} {z:List At} {v:Value} {N:Nat} (ht:P.underlying t=some (.slice e)) (hi:P.info? e=some i) (hz:i.zero=some zv) (hs:i.size=fA z) (hv:zv.cells.toList=List.replicate i.size v) (hsame:xR (aB z) v) (h0:0<fA z)
  (hb:i.bytes*N≤281474976710656) (hN:N<4611686018427387904) :
  ∃e,∀w:World,(Instr.makeSlice t (iI N) (iI N)).run P w=.ok (.slice (some ⟨w.heap.size,0,none⟩) N N) (w.alloc (.cells (aB (LN (fun _=>z) 0 N)).toArray e)):=by
 refine⟨e,fun w => ?_⟩;have hr:=Go.run_make (P:=P) w t e i zv ht hi hz .i64 .i64 (N:Int) (N:Int) (by omega) (Int.le_refl _) (by rw[←Int.natCast_mul]; omega) (by omega);refine Eq.trans hr ?_;have hsz:zv.cells.size=i.size:=by rw[←Array.length_toList,hv,List.length_replicate]
 have hc:madeCells zv.cells (N*i.size)=(aB (LN (fun _=>z) 0 N)).toArray:=by
  have hl:=xI (f:=fun _=>z) (c:=fA z) (fun _=>rfl) N 0;have h2:=xJ hsame N 0;rw[h2,aM,hl,←hs];unfold madeCells;apply Array.ext
  ·simp
  ·intro j h1 h3;simp only[Array.getElem_map,Array.getElem_range,List.getElem_toArray,List.getElem_replicate];have hj:j%zv.cells.size<zv.cells.size:=Nat.mod_lt _ (by rw[hsz,hs]; exact h0);have e1:zv.cells.toList[j%zv.cells.size]?=some v:=by
    rw[hv,List.getElem?_replicate,if_pos (by omega)]
   rw[Array.getElem?_toList]at e1;rw[getElem!_def,e1]
 simp only[Int.toNat_natCast,hc]
theorem Holds.now {nt base:Nat} {w0:World} {A:List Fact} {a:Act} {w:World} (h:Holds nt base w0 A a w):Holds nt base w A a w:=by
 obtain⟨β,h1,h2,h3,h4⟩:=h.facts;exact⟨h.defers,h.size,Below.refl _ _,h.heap,β,h1,h2,h3,h4.size,fun _ _ _=>⟨rfl,rfl⟩,Shape.refl _⟩
theorem WrAt.refl (w:World) (b:Nat):WrAt w w b []:=⟨rfl,rfl,rfl,Nat.le_refl _,fun _ _ _=>rfl,Shape.refl _,fun _=>rfl⟩
theorem WrAt.below {w w1 w2:World} {b:Nat} (hb:b<w.heap.size) (h:WrAt w w1 b []) (h2:Below w.heap.size w1 w2):WrAt w w2 b [] :=
 ⟨h2.os.trans h.os,h2.tape.trans h.tape,h2.output.trans h.output,Nat.le_trans h.size h2.size,fun k hk hne=>(h2.block k hk).trans (h.block k hk hne),
  ⟨fun q cur e hq=>by
   obtain⟨c,h3,h4⟩:=h.shape.1 q cur e hq;exact⟨c,(h2.block q (Array.getElem?_eq_some_iff.1 hq).1).trans h3,h4⟩,Nat.le_trans h.size h2.size,fun q o hq ho=>(h2.block q (Array.getElem?_eq_some_iff.1 hq).1).trans (h.shape.2.same q o hq ho)⟩,fun j=>(World.frozen?_of_block (h2.block b hb)).trans (h.frozen j)⟩
theorem jE (b:Nat):∀(vs:List Value) (o:Nat) (w:World) (k:Nat),k≠b→(w.setCells b o vs).heap[k]?=w.heap[k]?
 | [],_,_,_,_=>rfl
 | v::r,o,w,k,h=>by
  rw[World.setCells,jE b r (o+1) _ k h];exact Below.heap_setCell w _ v k h
theorem gJ (b:Nat):∀(vs:List Value) (o:Nat) (w:World),(w.setCells b o vs).os=w.os∧(w.setCells b o vs).tape=w.tape∧(w.setCells b o vs).output=w.output
 | [],_,_=>⟨rfl,rfl,rfl⟩
 | v::r,o,w=>by rw[World.setCells]; exact gJ b r (o+1) _
theorem WrAt.set {w w1:World} {b:Nat} (h:WrAt w w1 b []) (o:Nat) (vs:List Value):WrAt w (w1.setCells b o vs) b [] :=
 ⟨(gJ b vs o w1).1.trans h.os,(gJ b vs o w1).2.1.trans h.tape,(gJ b vs o w1).2.2.trans h.output,by rw[eR]; exact h.size,fun k hk hne=>(jE b vs o w1 k hne).trans (h.block k hk hne),
  h.shape.trans (fT b vs o w1),fun j=>by rw[World.frozen?_setCells]; exact h.frozen j⟩
theorem Holds.post {nt base:Nat} {w0:World} {A:List Fact} {a:Act} {w:World} (h:Holds nt base w0 A a w) {dst kill:Option Nat} {out:List Fact} {a':Act} {w':World}
  (hP:∀β,(∀φ∈A,φ.ok base β a w)→∃β',PostB base β β' a w dst A out kill a' w') (hd:fV dst nt=false:=by kernel_rfl):Holds nt base w0 (out++A.filter (fun φ => !(gH dst kill φ))) a' w':=by
 obtain⟨β,g1,g2,g3,gt⟩:=h.facts;obtain⟨β',P⟩:=hP β g1;have hkill:∀φ∈A,gH dst kill φ=false→∀kk k nM l,kill=some kk→φ=.row k nM l→(β kk).1≠(β k).1:=fun φ hφ hc kk k nM l hkk e=>by
  obtain⟨l0,hl0⟩:=P.kills kk hkk;have hne:kk≠k:=fun e2=>by
   rw[e]at hc;simp only[gH,Bool.or_eq_false_iff]at hc;have:=cF.2 (e2▸hkk:kill=some k);rw[hc.2]at this; cases this
  subst e;exact g2 kk k nM l0 l hl0 hφ hne
 have hmem:∀φ∈A.filter (fun φ => !(gH dst kill φ)),φ∈A∧gH dst kill φ=false:=fun φ hφ=>by
  obtain⟨h1,h2⟩:=List.mem_filter.1 hφ;exact⟨h1,by simpa using h2⟩
 have hβ:∀k nM l,Fact.row k nM l∈A.filter (fun φ => !(gH dst kill φ))→β' k=β k:=fun k nM l hφ=>by
  obtain⟨_,hc⟩:=hmem _ hφ;simp only[gH,Bool.or_eq_false_iff]at hc;exact P.beta k fun e=>by have:=cF.2 e; rw[hc.1]at this; cases this
 have hno:∀k l k' o' l',Fact.row k true l∈out→Fact.row k' o' l'∈A.filter (fun φ => !(gH dst kill φ))→k≠k'→(β' k).1≠(β' k').1:=fun k l k' o' l' hk hk' hne=>by
  rw[hβ k' o' l' hk'];obtain⟨hA',hc⟩:=hmem _ hk'
  rcases P.rows k l hk with⟨h2,_⟩|⟨h2,l0,h3⟩|⟨h2,k0,l0,hk0,he,h3⟩
  ·have:=(g1 _ hA').1;omega
  ·rw[P.beta k h2];exact g2 k k' o' l0 l' h3 hA' hne
  ·rw[he];refine g2 k0 k' o' l0 l' h3 hA' fun e => ?_
   subst e;simp only[gH,Bool.or_eq_false_iff]at hc;have:=cF.2 hk0;rw[hc.2]at this; cases this
 have hnt:β' nt=β nt:=P.beta nt fun e=>by have:=cF.2 e; rw[hd]at this; cases this
 refine⟨by rw[P.defers]; exact h.defers,by rw[P.size]; exact h.size,P.below w0 h.below,Nat.le_trans h.heap P.heap,β',fun φ hφ => ?_,fun k k' o' l l' hk hk' hne => ?_,fun k l hk => ?_,by rw[hnt]; exact Nat.le_trans gt.size P.heap,fun p q1 q2 => ?_,gt.shape.trans P.shape⟩
 ·rcases List.mem_append.1 hφ with hφ|hφ
  ·exact P.ok φ hφ
  ·obtain⟨h1,h2⟩:=hmem φ hφ;exact UQ P (g1 φ h1) h2 (hkill φ h1 h2)
 ·rcases List.mem_append.1 hk with hk|hk
  ·rcases List.mem_append.1 hk' with hk'|hk'
   ·cases o' with
    | true=>exact absurd (P.one k k' l l' hk hk') hne
    | false=>exact (P.onlyOwn k' l' hk').elim
   ·exact hno k l k' o' l' hk hk' hne
  ·rcases List.mem_append.1 hk' with hk'|hk'
   ·cases o' with
    | true=>exact fun e=>hno k' l' k true l hk' hk (Ne.symm hne) e.symm
    | false=>exact (P.onlyOwn k' l' hk').elim
   ·rw[hβ k true l hk,hβ k' o' l' hk'];exact g2 k k' o' l l' (hmem _ hk).1 (hmem _ hk').1 hne
 ·rw[hnt]
  rcases List.mem_append.1 hk with hk|hk
  ·rcases P.rows k l hk with⟨h2,_⟩|⟨h2,l0,h3⟩|⟨h2,k0,l0,hk0,he,h3⟩
   ·exact Or.inr (Nat.le_trans gt.size h2)
   ·rw[P.beta k h2];exact g3 k l0 h3
   ·rw[he];exact g3 k0 l0 h3
  ·rw[hβ k true l hk];exact g3 k l (hmem _ hk).1
 ·rw[hnt]at q2;have h3:=P.mem p (Nat.lt_of_lt_of_le q2 gt.size) fun kk hkk e=>by
   obtain⟨l0,hl0⟩:=P.kills kk hkk
   rcases g3 kk l0 hl0 with h4|h4<;>omega
  have h4:=gt.mem p q1 q2;exact⟨h3.1.trans h4.1,h3.2.trans h4.2⟩
end Go.Proofs.Ytjeplinbleofnaa.Ex
namespace Go.Proofs.Ytjeplinbleofnaa
open Go.Proofs.Try
open Go.RowKit
theorem mM (x y c:Nat) (hc:c≤1) (w:World) :
  (callFunc 118 #[.int .u64 (x:Int),.int .u64 (y:Int),.int .u64 (c:Int)]).run prog w =
   .ok (.value (.tuple #[.int .u64 (AM x y c:Nat),.int .u64 (qY x y c:Nat)])) w:=by
 rw[run_callFunc_extern func118 (by kernel_rfl) (by kernel_rfl) (by kernel_rfl) (e:=add64Entry) (by kernel_rfl),run_add64 x y c (by omega) (by omega) (by omega) (by omega)];simp only[Result.andThen];unfold AM qY;congr 5<;>omega
theorem yL (x y:Nat) (w:World) :
  (callFunc 118 #[.int .u64 (x:Int),.int .u64 (y:Int),.int .u64 0]).run prog w =
   .ok (.value (.tuple #[.int .u64 (AM x y 0:Nat),.int .u64 (qY x y 0:Nat)])) w:=mM x y 0 (by omega) w
def GG:Array Value→Sem Value:=fun args=>do
 let (x,y,b) ←Extern.MathBitsCarry.three "Sub64" args
 pure (Extern.MathBitsCarry.pair ((x+Extern.MathBitsCarry.m64-y-b)%Extern.MathBitsCarry.m64) (if x<y+b then 1 else 0))
theorem yH {P:Program} (x y b:Nat) (hb:b≤1) (w:World) :
  (GG #[.int .u64 x,.int .u64 y,.int .u64 b]).run P w=.ok (.tuple #[.int .u64 (yB x y b:Nat),.int .u64 (yC x y b:Nat)]) w:=by
 have:b=0∨b=1:=by omega
 rcases this with rfl|rfl<;>rfl
theorem rE (x y c:Nat) (hc:c≤1) (w:World) :
  (callFunc 99 #[.int .u64 (x:Int),.int .u64 (y:Int),.int .u64 (c:Int)]).run prog w =
   .ok (.value (.tuple #[.int .u64 (yB x y c:Nat),.int .u64 (yC x y c:Nat)])) w:=by
 rw[run_callFunc_extern func99 (by kernel_rfl) (by kernel_rfl) (by kernel_rfl) (e:=GG) (by kernel_rfl),yH x y c hc];rfl
theorem yK (x y:Nat) (w:World) :
  (callFunc 99 #[.int .u64 (x:Int),.int .u64 (y:Int),.int .u64 0]).run prog w =
   .ok (.value (.tuple #[.int .u64 (yB x y 0:Nat),.int .u64 (yC x y 0:Nat)])) w:=rE x y 0 (by omega) w
theorem qA {x y c:Nat} (hx:x<18446744073709551616) (hy:y<18446744073709551616) (hc:c≤1):∃d b:Nat,(∀w,(callFunc 118 #[.int .u64 (x:Int),.int .u64 (y:Int),.int .u64 (c:Int)]).run prog w =
   .ok (.value (.tuple #[.int .u64 (d:Int),.int .u64 (b:Int)])) w)∧d<18446744073709551616∧b≤1∧Hid (d+18446744073709551616*b=x+y+c) :=
 ⟨_,_,mM x y c hc,uE _ _ _,uF hx hy hc,LU x y c⟩
theorem nI {x y:Nat} (hx:x<18446744073709551616) (hy:y<18446744073709551616):∃d b:Nat,(∀w,(callFunc 118 #[.int .u64 (x:Int),.int .u64 (y:Int),.int .u64 0]).run prog w =
   .ok (.value (.tuple #[.int .u64 (d:Int),.int .u64 (b:Int)])) w)∧d<18446744073709551616∧b≤1∧Hid (d+18446744073709551616*b=x+y) :=
 ⟨_,_,yL x y,uE _ _ _,uF hx hy (Nat.zero_le _),LU x y 0⟩
theorem iA {x y c:Nat} (hx:x<18446744073709551616) (hy:y<18446744073709551616) (hc:c≤1):∃d b:Nat,(∀w,(callFunc 99 #[.int .u64 (x:Int),.int .u64 (y:Int),.int .u64 (c:Int)]).run prog w =
   .ok (.value (.tuple #[.int .u64 (d:Int),.int .u64 (b:Int)])) w)∧d<18446744073709551616∧b≤1∧Hid (d+y+c=x+18446744073709551616*b) :=
 ⟨_,_,rE x y c hc,AU _ _ _,AW _ _ _,QU hx hy hc⟩
theorem sA {x y:Nat} (hx:x<18446744073709551616) (hy:y<18446744073709551616):∃d b:Nat,(∀w,(callFunc 99 #[.int .u64 (x:Int),.int .u64 (y:Int),.int .u64 0]).run prog w =
   .ok (.value (.tuple #[.int .u64 (d:Int),.int .u64 (b:Int)])) w)∧d<18446744073709551616∧b≤1∧Hid (d+y=x+18446744073709551616*b) :=
 ⟨_,_,yK x y,AU _ _ _,AW _ _ _,QU hx hy (Nat.zero_le _)⟩
def CP (A B:Nat) (w:World) (e:Ending) (w':World):Prop :=
 ∃s0 s1 s2 s3 c:Nat,e=.returned (.tuple #[.agg #[.int .u64 s0,.int .u64 s1,.int .u64 s2,.int .u64 s3],.int .u64 c])∧bH s0 s1 s2 s3∧c≤1∧aA s0 s1 s2 s3+115792089237316195423570985008687907853269984665640564039457584007913129639936*c=A+B∧Below w.heap.size w w'
def CM (A B:Nat) (w:World) (e:Ending) (w':World):Prop :=
 ∃s0 s1 s2 s3 c:Nat,e=.returned (.tuple #[.agg #[.int .u64 s0,.int .u64 s1,.int .u64 s2,.int .u64 s3],.int .u64 c])∧bH s0 s1 s2 s3∧c≤1∧aA s0 s1 s2 s3+B=A+115792089237316195423570985008687907853269984665640564039457584007913129639936*c∧Below w.heap.size w w'
theorem CT (a0 a1 a2 a3 b0 b1 b2 b3:Nat) (ha:bH a0 a1 a2 a3) (hb:bH b0 b1 b2 b3) (w:World) :
  Calls prog 121 #[.agg #[.int .u64 a0,.int .u64 a1,.int .u64 a2,.int .u64 a3],.agg #[.int .u64 b0,.int .u64 b1,.int .u64 b2,.int .u64 b3]] w (CM (aA a0 a1 a2 a3) (aA b0 b1 b2 b3) w):=by
 obtain⟨s0,c0,r0,bs0,bc0,e0⟩:=sA ha.1 hb.1;obtain⟨s1,c1,r1,bs1,bc1,e1⟩:=iA ha.2.1 hb.2.1 bc0;obtain⟨s2,c2,r2,bs2,bc2,e2⟩:=iA ha.2.2.1 hb.2.2.1 bc1;obtain⟨s3,c3,r3,bs3,bc3,e3⟩:=iA ha.2.2.2 hb.2.2.2 bc2
 go_enter func121,ntmps121
 go_wp2
 refine wp_loop_rounds 5 ?_;rw[rounds_succ]
 go_wp2
 go_region
 go_wp2
 rw[rounds_succ]
 go_wp2
 go_region
 go_wp2
 rw[rounds_succ]
 go_wp2
 go_region
 go_wp2
 rw[rounds_succ]
 go_wp2
 go_region
 go_wp2
 rw[rounds_succ]
 go_wp2
 refine bodyPost_ret (v:=.tuple #[.agg #[.int .u64 s0,.int .u64 s1,.int .u64 s2,.int .u64 s3],.int .u64 c3]) (by simp[results,results121,go_sem]) rfl ?_;refine⟨_,_,_,_,_,rfl,⟨bs0,bs1,bs2,bs3⟩,bc3,by have:=e0.out; have:=e1.out; have:=e2.out; have:=e3.out; unfold aA; omega,?_⟩
 repeat (first|exact Below.refl _ _|refine Below.drew ?_|refine Below.alloc ?_ (by first|(simp; done)|(simp; omega)) _)
theorem qJ {W w1:World} (hb:Below W.heap.size W w1):(∀b o,b<W.heap.size→w1.cell? ⟨b,o,none⟩=W.cell? ⟨b,o,none⟩)∧(∀b o,b<W.heap.size→w1.frozen? ⟨b,o,none⟩=W.frozen? ⟨b,o,none⟩) :=
 ⟨fun b o h=>hb.cell (p:=⟨b,o,none⟩) h,fun b o h=>hb.frozen (p:=⟨b,o,none⟩) h⟩
def KU (a0 a1 a2 a3 b0 b1 b2 b3:Nat):Bool:=decide (a0=b0∧a1=b1∧a2=b2∧a3=b3)
theorem qB (d:Nat) (a0 a1 a2 a3 b0 b1 b2 b3:Nat) (w:World):(Op.equalIn (d+1+1) 27 (.agg #[.int .u64 a0,.int .u64 a1,.int .u64 a2,.int .u64 a3]) (.agg #[.int .u64 b0,.int .u64 b1,.int .u64 b2,.int .u64 b3])).run prog w=.ok (KU a0 a1 a2 a3 b0 b1 b2 b3) w:=by
 have h0:∀(x y:Int) (w:World),(Op.equalIn (d+1) 22 (.int .u64 x) (.int .u64 y)).run prog w=.ok (x==y) w:=fun x y w=>run_equalIn_int w d 22 .u64 .u64 x y underlying22
 rw[Op.equalIn];simp only[Sem.run_bind,run_underlying underlying27,Result.andThen_ok,Try.sizeOf22];simp[Std.Legacy.Range.forIn_eq_forIn_range',Std.Legacy.Range.size,List.range',part,h0,Sem.run_bind,Result.andThen_ok];unfold KU
 by_cases q0:a0=b0<;>by_cases q1:a1=b1<;>by_cases q2:a2=b2<;>by_cases q3:a3=b3<;>simp[q0,q1,q2,q3]<;>omega
theorem KW:prog.eqGuardType prog.depth 27=false:=by kernel_rfl
theorem oQ {a0 a1 a2 a3 b0 b1 b2 b3:Nat} (ha:bH a0 a1 a2 a3) (hb:bH b0 b1 b2 b3):KU a0 a1 a2 a3 b0 b1 b2 b3=true↔aA a0 a1 a2 a3=aA b0 b1 b2 b3:=by
 unfold KU; rw[decide_eq_true_iff];exact⟨fun⟨h0,h1,h2,h3⟩=>by rw[h0,h1,h2,h3],uJ ha hb⟩
def cG (A B:Nat):Int:=if A=B then 0 else if A<B then -1 else 1
end Go.Proofs.Ytjeplinbleofnaa
namespace Go.Proofs
open Go.Shelf
def Try.lays129_ren:Go.Shelf.Ren:=⟨fun|129=>94|n=>n,fun|53=>22|3=>3|4=>4|46=>74|5=>5|9=>9|n=>n,fun|n=>n⟩
theorem Try.lays129:Go.Proofs.Lays.n129 prog Try.lays129_ren:={
 mixed:=by kernel_rfl
 f129:=func94.trans (congrArg some (by kernel_rfl))
 t3:=underlying3
 a3:=Try.isAgg3
 z3:=Try.sizeOf3
 v3:=Try.zeroValue3
 t4:=underlying4
 a4:=Try.isAgg4
 z4:=Try.sizeOf4
 v4:=Try.zeroValue4
 t5:=underlying5
 a5:=Try.isAgg5
 z5:=Try.sizeOf5
 v5:=Try.zeroValue5
 t9:=underlying9
 a9:=Try.isAgg9
 z9:=Try.sizeOf9
 v9:=Try.zeroValue9
 t46:=underlying74
 a46:=Try.isAgg74
 z46:=Try.sizeOf74
 v46:=Try.zeroValue74
 t53:=underlying22
 a53:=Try.isAgg22
 z53:=Try.sizeOf22
 v53:=Try.zeroValue22 }
theorem Try.bits_Len64 (x:Int) (w:World) (h0:0≤x) (h1:x≤18446744073709551615) :
  Calls prog 94 #[.int .u64 x] w fun e w'=>e=.returned (.int .i64 (Lib.bitLen x.toNat))∧w'=w:=Any.bits_Len64 Try.lays129 x w h0 h1
def Try.lays264_ren:Go.Shelf.Ren:=⟨fun|264=>124|n=>n,fun|53=>22|46=>74|n=>n,fun|n=>n⟩
theorem Try.lays264:Go.Proofs.Lays.n264 prog Try.lays264_ren:={
 mixed:=by kernel_rfl
 f264:=func124.trans (congrArg some (by kernel_rfl))
 t46:=underlying74
 a46:=Try.isAgg74
 z46:=Try.sizeOf74
 v46:=Try.zeroValue74
 t53:=underlying22
 a53:=Try.isAgg22
 z53:=Try.sizeOf22
 v53:=Try.zeroValue22 }
open Go.RowKit Go.Lib in
theorem Try.bits_Mul64 (x y:Nat) (hx:x<18446744073709551616) (hy:y<18446744073709551616) (w:World) :
  Calls prog 124 #[.int .u64 x,.int .u64 y] w fun e w'=>e=.returned (.tuple #[.int .u64 ((x*y/18446744073709551616:Nat):Int),.int .u64 ((x*y%18446744073709551616:Nat):Int)])∧w'=w:=Any.bits_Mul64 Try.lays264 x y hx hy w
end Go.Proofs
namespace Go.Proofs.Ytjeplinbleofnaa
open Go.Proofs.Try
open Go.RowKit
theorem wO (x y:Nat) (hx:x<18446744073709551616) (hy:y<18446744073709551616) (w:World) :
  Calls prog 124 #[.int .u64 x,.int .u64 y] w fun e w'=>e=.returned (.tuple #[.int .u64 (JE x y:Nat),.int .u64 (JD x y:Nat)])∧w'=w :=
 Try.bits_Mul64 x y hx hy w
theorem KS {x y:Nat} (hx:x<18446744073709551616) (hy:y<18446744073709551616):∃h l:Nat,(∀w,Calls prog 124 #[.int .u64 x,.int .u64 y] w fun e w'=>e=.returned (.tuple #[.int .u64 (h:Nat),.int .u64 (l:Nat)])∧w'=w)∧h≤18446744073709551614∧l<18446744073709551616∧Hid (l+18446744073709551616*h=x*y) :=
 ⟨_,_,wO x y hx hy,OT hx hy,OS _ _,XX x y⟩
theorem qZ (x:Nat) (h:x<18446744073709551616):IntKind.u64.wrap (x:Int)=(x:Int):=by rw[IntKind.wrap_u64]; omega
theorem iB (x:Nat):IntKind.u64.wrap (x:Int)=((x%18446744073709551616:Nat):Int):=by rw[IntKind.wrap_u64]; omega
theorem uB (x S:Nat):(x:Int)*2^S=((x*2^S:Nat):Int):=by rw[Int.natCast_mul,Int.natCast_pow]; rfl
theorem DM (S:Nat) (h:S≤63):2^(64-S)*2^S=18446744073709551616:=by
 rw[←Nat.pow_add,show 64-S+S=64 by omega]
theorem PZ {Y:Nat} (h:Y<18446744073709551616):∃a b:Nat,(Y:Int)/4294967296=(a:Int)∧bits .and .u64 (Y:Int) 4294967295=(b:Int)∧a<4294967296∧b<4294967296∧Y=a*4294967296+b:=by
 refine⟨Y/4294967296,Y%4294967296,by omega,?_,by omega,by omega,by omega⟩;have h':=bits_and_u64_nat Y 4294967295 h (by omega);rw[show Y &&& 4294967295=Y%4294967296 from Nat.and_two_pow_sub_one_eq_mod Y 32]at h';exact h'
section
variable {y1 y0 u u1 q r:Nat}
end
theorem UO {y:Nat} (h0:1≤y) (hy:y<18446744073709551616):Lib.bitLen y=y.log2+1∧2^y.log2≤y∧y<2^(y.log2+1)∧y.log2≤63:=by
 have a:=Nat.log2_self_le (show y≠0 by omega);have b:y<2^(y.log2+1):=Nat.lt_log2_self;refine⟨?_,a,b,?_⟩
 ·rw[Lib.bitLen_shift y.log2 y a hy];have:y/2^y.log2=1:=by
   rw[Nat.pow_succ]at b;exact (Nat.div_eq_iff (Nat.two_pow_pos _)).2 ⟨by omega,by omega⟩
  rw[this]; rfl
 ·have:=(Nat.log2_lt (show y≠0 by omega)).2 (show y<2^64 from hy);omega
def RowIs (w:World) (b n:Nat) (P:Nat→Nat):Prop:=∀k,k<n→w.cell? ⟨b,k,none⟩=some (.int .u64 (P k:Nat))∧w.frozen? ⟨b,k,none⟩=false
def cH (P:Nat→Nat) (i v:Nat):Nat→Nat:=fun k=>if k=i then v else P k
def bV (l:List Nat):Nat→Nat:=fun k=>l.getD k 0
section
variable {w w':World} {b n i v:Nat} {P:Nat→Nat}
theorem RowIs.cell (h:RowIs w b n P) (hi:i<n):w.cell? ⟨b,i,none⟩=some (.int .u64 (P i:Nat)):=(h i hi).1
theorem RowIs.free (h:RowIs w b n P) (hi:i<n):w.frozen? ⟨b,i,none⟩=false:=(h i hi).2
theorem RowIs.set (h:RowIs w b n P) (hi:i<n):RowIs (w.setCell ⟨b,i,none⟩ (.int .u64 (v:Nat))) b n (cH P i v):=by
 intro k hk;refine⟨?_,by rw[World.frozen?_setCell]; exact h.free hk⟩;unfold cH
 by_cases e:k=i
 ·subst e; rw[if_pos rfl]; exact World.cell?_setCell_same (h:=h.cell hk) ..
 ·rw[if_neg e,World.cell?_setCell_other (h:=fun he=>e (by simpa using (congrArg Addr.off he).symm)) ..]; exact h.cell hk
theorem RowIs.other (h:RowIs w b n P) {c:Nat} (hc:c≠b) (x:Value):RowIs (w.setCell ⟨c,i,none⟩ x) b n P:=by
 intro k hk;exact⟨by rw[World.cell?_setCell_other (h:=fun he=>hc (by simpa using congrArg Addr.block he)) ..]; exact h.cell hk,by rw[World.frozen?_setCell]; exact h.free hk⟩
theorem RowIs.drew (h:RowIs w b n P):RowIs w.drew b n P:=h
theorem RowIs.drewN (h:RowIs w b n P) (m:Nat):RowIs (w.drewN m) b n P:=h
theorem RowIs.below (h:RowIs w b n P) {B:Nat} (hb:Below B w w') (hB:b<B):RowIs w' b n P:=by
 intro k hk;exact⟨by rw[hb.cell (p:=⟨b,k,none⟩) hB]; exact h.cell hk,by rw[hb.frozen (p:=⟨b,k,none⟩) hB]; exact h.free hk⟩
theorem RowIs.alloc (h:RowIs w b n P) (hb:b<w.heap.size) (o:Obj):RowIs (w.alloc o) b n P :=
 h.below ((Below.refl w.heap.size w).alloc (Nat.le_refl _) o) hb
theorem RowIs.mk (w:World) (t:TypeId) (l:List Nat) (b:Nat) (hb:b=w.heap.size):RowIs (w.alloc (.cells (l.map fun x=>Value.int .u64 (x:Nat)).toArray t)) b l.length (bV l):=by
 subst hb;intro k hk;refine⟨?_,World.frozen?_alloc_new _ _ _ _⟩;rw[World.cell?_alloc_new];simp[bV,hk]
end
structure Row4 (w:World) (b:Nat) (c0 c1 c2 c3:Nat):Prop where
 c0:w.cell? ⟨b,0,none⟩=some (.int .u64 c0)
 c1:w.cell? ⟨b,1,none⟩=some (.int .u64 c1)
 c2:w.cell? ⟨b,2,none⟩=some (.int .u64 c2)
 c3:w.cell? ⟨b,3,none⟩=some (.int .u64 c3)
 fr:∀k,w.frozen? ⟨b,k,none⟩=false
theorem Row4.below {w w':World} {b:Nat} {c0 c1 c2 c3:Nat} (h:Row4 w b c0 c1 c2 c3) {B:Nat} (hb:Below B w w') (hB:b<B):Row4 w' b c0 c1 c2 c3 :=
 ⟨by rw[hb.cell (p:=⟨b,0,none⟩) hB]; exact h.c0,by rw[hb.cell (p:=⟨b,1,none⟩) hB]; exact h.c1,by rw[hb.cell (p:=⟨b,2,none⟩) hB]; exact h.c2,by rw[hb.cell (p:=⟨b,3,none⟩) hB]; exact h.c3,
  fun k=>by rw[hb.frozen (p:=⟨b,k,none⟩) hB]; exact h.fr k⟩
theorem Row4.alloc {w:World} {b:Nat} {c0 c1 c2 c3:Nat} (h:Row4 w b c0 c1 c2 c3) (hb:b<w.heap.size) (o:Obj):Row4 (w.alloc o) b c0 c1 c2 c3 :=
 h.below ((Below.refl w.heap.size w).alloc (Nat.le_refl _) o) hb
theorem Row4.drewN {w:World} {b:Nat} {c0 c1 c2 c3:Nat} (h:Row4 w b c0 c1 c2 c3) (n:Nat):Row4 (w.drewN n) b c0 c1 c2 c3:=⟨h.c0,h.c1,h.c2,h.c3,h.fr⟩
theorem Row4.new (w:World) (c0 c1 c2 c3:Nat) (t:TypeId):Row4 (w.alloc (.cells #[.int .u64 c0,.int .u64 c1,.int .u64 c2,.int .u64 c3] t)) w.heap.size c0 c1 c2 c3 :=
 ⟨by rw[World.cell?_alloc_new]; rfl,by rw[World.cell?_alloc_new]; rfl,by rw[World.cell?_alloc_new]; rfl,by rw[World.cell?_alloc_new]; rfl,fun k=>World.frozen?_alloc_new _ _ _ _⟩
theorem Row4.other {w:World} {b d i:Nat} {c0 c1 c2 c3:Nat} (h:Row4 w b c0 c1 c2 c3) (hd:d≠b) (v:Value):Row4 (w.setCell ⟨d,i,none⟩ v) b c0 c1 c2 c3 :=
 ⟨by rw[World.cell?_setCell_other (h:=fun he=>hd (by simpa using congrArg Addr.block he)) ..]; exact h.c0,by rw[World.cell?_setCell_other (h:=fun he=>hd (by simpa using congrArg Addr.block he)) ..]; exact h.c1,
  by rw[World.cell?_setCell_other (h:=fun he=>hd (by simpa using congrArg Addr.block he)) ..]; exact h.c2,by rw[World.cell?_setCell_other (h:=fun he=>hd (by simpa using congrArg Addr.block he)) ..]; exact h.c3,
  fun k=>by rw[World.frozen?_setCell]; exact h.fr k⟩
def set4 (w:World) (b:Nat) (d0 d1 d2 d3:Nat):World:=(((w.setCell ⟨b,0,none⟩ (.int .u64 d0)).setCell ⟨b,1,none⟩ (.int .u64 d1)).setCell ⟨b,2,none⟩ (.int .u64 d2)).setCell ⟨b,3,none⟩ (.int .u64 d3)
theorem Row4.rows {w:World} {b:Nat} {c0 c1 c2 c3:Nat} (h:Row4 w b c0 c1 c2 c3):RowIs w b 4 (bV [c0,c1,c2,c3]):=by
 intro k hk;refine⟨?_,h.fr k⟩
 match k,hk with
 | 0,_=>exact h.c0
 | 1,_=>exact h.c1
 | 2,_=>exact h.c2
 | 3,_=>exact h.c3
theorem Row4.set4 {w:World} {b:Nat} {c0 c1 c2 c3:Nat} (h:Row4 w b c0 c1 c2 c3) (d0 d1 d2 d3:Nat):Row4 (set4 w b d0 d1 d2 d3) b d0 d1 d2 d3:=by
 have r:=(((h.rows.set (show 0<4 by omega) (v:=d0)).set (show 1<4 by omega) (v:=d1)).set (show 2<4 by omega) (v:=d2)).set (show 3<4 by omega) (v:=d3);exact⟨r.cell (by omega),r.cell (show 1<4 by omega),r.cell (show 2<4 by omega),r.cell (show 3<4 by omega),fun k=>by
  show World.frozen? (((_:World).setCell _ _)) _=_;rw[World.frozen?_setCell,World.frozen?_setCell,World.frozen?_setCell,World.frozen?_setCell]; exact h.fr k⟩
theorem Row4.set4_other {w:World} {b d:Nat} {c0 c1 c2 c3:Nat} (h:Row4 w b c0 c1 c2 c3) (hd:d≠b) (e0 e1 e2 e3:Nat):Row4 (Go.Proofs.Ytjeplinbleofnaa.set4 w d e0 e1 e2 e3) b c0 c1 c2 c3 :=
 (((h.other hd _).other hd _).other hd _).other hd _
theorem aV {B:Nat} {w w':World} {b:Nat} (h:Below B w w') (hb:B≤b) (d0 d1 d2 d3:Nat):Below B w (set4 w' b d0 d1 d2 d3) :=
 (((h.setCell (p:=⟨b,0,none⟩) hb _).setCell (p:=⟨b,1,none⟩) hb _).setCell (p:=⟨b,2,none⟩) hb _).setCell (p:=⟨b,3,none⟩) hb _
theorem aP (B:Nat) (w:World) (n:Nat):Below B w (w.drewN n):=⟨rfl,rfl,rfl,Nat.le_refl _,fun _ _=>rfl⟩
def bO (B:Nat) (P:Nat→Nat):Nat→Nat
 | 0=>0
 | n+1=>bO B P n+P n*B^n
theorem aX (B:Nat) (P:Nat→Nat) (n:Nat):bO B P (n+1)=bO B P n+P n*B^n:=rfl
theorem cU (B:Nat) (P:Nat→Nat) (k v:Nat):∀n,n≤k→bO B (cH P k v) n=bO B P n
 | 0,_=>rfl
 | n+1,h=>by
  rw[aX,aX,cU B P k v n (by omega)];unfold cH;rw[if_neg (by omega)]
theorem oI (B:Nat) (P:Nat→Nat) (k v:Nat):∀n,k<n→bO B (cH P k v) n+P k*B^k=bO B P n+v*B^k
 | n+1,h=>by
  rw[aX,aX]
  by_cases e:k=n
  ·subst e;rw[cU B P k v k (Nat.le_refl _)];unfold cH;rw[if_pos rfl]; omega
  ·have:=oI B P k v n (by omega);have e':cH P k v n=P n:=by unfold cH; rw[if_neg (by omega)]
   rw[e']; omega
theorem oW (B:Nat) (P:Nat→Nat) (h:∀k,P k=0):∀n,bO B P n=0
 | 0=>rfl
 | n+1=>by rw[aX,oW B P h n,h n,Nat.zero_mul]
theorem xY (B:Nat) (P:Nat→Nat) (hB:0<B):∀n,(∀k,k<n→P k<B)→bO B P n<B^n
 | 0,_=>by simp[bO]
 | n+1,h=>by
  have h1:=xY B P hB n (fun k hk=>h k (by omega));have h2:=Nat.mul_le_mul_right (B^n) (show P n+1≤B by have:=h n (by omega); omega);rw[aX,Nat.pow_succ,Nat.mul_comm (B^n) B];rw[Nat.add_mul,Nat.one_mul]at h2;omega
theorem oX {B:Nat} {P:Nat→Nat} {n k x o d o' T:Nat} (hk:k<n) (he:d+B*o'=x+P k+o) (hT:bO B P n+o*B^k=T) :
  bO B (cH P k d) n+o'*B^(k+1)=T+x*B^k:=by
 have h1:=oI B P k d n hk;have h2:d*B^k+o'*B^(k+1)=x*B^k+P k*B^k+o*B^k:=by
  rw[Nat.pow_succ,←Nat.add_mul,←Nat.add_mul,←he,Nat.add_mul];congr 1;rw[Nat.mul_comm (B^k) B,←Nat.mul_assoc,Nat.mul_comm o' B]
 omega
section
variable {R n:Nat} {A B P:Nat→Nat} {i j o d o':Nat}
def MI (R n:Nat) (A B:Nat→Nat) (i j o:Nat) (P:Nat→Nat):Prop :=
 (∀k,i+n≤k→P k=0)∧bO R P (n+n)+o*R^(i+j)=bO R A i*bO R B n+A i*R^i*bO R B j
def MO (R n:Nat) (A B:Nat→Nat) (i:Nat) (P:Nat→Nat):Prop :=
 (∀k,i+n≤k→P k=0)∧bO R P (n+n)=bO R A i*bO R B n
theorem OX (hi:i<n) (hj:j<n) (h:MI R n A B i j o P) (he:d+R*o'=A i*B j+P (i+j)+o):MI R n A B i (j+1) o' (cH P (i+j) d):=by
 refine⟨fun k hk=>by unfold cH; rw[if_neg (by omega)]; exact h.1 k hk,?_⟩;have e:A i*B j*R^(i+j)=A i*R^i*(B j*R^j):=by
  rw[Nat.pow_add,Nat.mul_assoc,Nat.mul_assoc,Nat.mul_left_comm (B j)]
 have:=oX (P:=P) (k:=i+j) (by omega) he h.2;rw[show i+(j+1)=i+j+1 by omega,this,aX,e,Nat.mul_add,Nat.add_assoc]
theorem UK (hi:i<n) (h:MI R n A B i n o P):MO R n A B (i+1) (cH P (i+n) o):=by
 refine⟨fun k hk=>by unfold cH; rw[if_neg (by omega)]; exact h.1 k (by omega),?_⟩;have h1:=oI R P (i+n) o (n+n) (by omega);rw[h.1 (i+n) (Nat.le_refl _),Nat.zero_mul,Nat.add_zero]at h1;rw[h1,h.2,aX,←Nat.add_mul]
theorem JK (h:MO R n A B i P):MI R n A B i 0 0 P:=⟨h.1,by rw[h.2,Nat.zero_mul]; rfl⟩
theorem JJ (h:∀k,P k=0):MO R n A B 0 P:=⟨fun k _=>h k,by rw[oW R P h]; show _=0*_; rw[Nat.zero_mul]⟩
theorem jY (R:Nat) (P:Nat→Nat) (n:Nat):∀m,bO R P (n+m)=bO R P n+R^n*bO R (fun k=>P (n+k)) m
 | 0=>by rw[Nat.add_zero]; show _=_+R^n*0; rw[Nat.mul_zero,Nat.add_zero]
 | m+1=>by
  rw[show n+(m+1)=n+m+1 by omega,aX,jY R P n m,aX,Nat.mul_add,Nat.pow_add,←Nat.mul_assoc (R^n),Nat.add_assoc];rw[Nat.mul_comm (P (n+m)) (R^n*R^m),Nat.mul_right_comm]
end
theorem jA (P:Nat→Nat):aA (P 0) (P 1) (P 2) (P 3)=bO 18446744073709551616 P 4:=by
 unfold aA;simp only[bO];omega
def QQ (A B:Nat) (w:World) (e:Ending) (w':World):Prop :=
 ∃h0 h1 h2 h3 l0 l1 l2 l3:Nat,e=.returned (.tuple #[.agg #[.int .u64 h0,.int .u64 h1,.int .u64 h2,.int .u64 h3],.agg #[.int .u64 l0,.int .u64 l1,.int .u64 l2,.int .u64 l3]])∧bH h0 h1 h2 h3∧bH l0 l1 l2 l3∧aA l0 l1 l2 l3+115792089237316195423570985008687907853269984665640564039457584007913129639936*aA h0 h1 h2 h3=A*B∧Below w.heap.size w w'
structure MW (w wr:World) (A B P:Nat→Nat):Prop where
 below:Below w.heap.size w wr
 size:wr.heap.size=w.heap.size+1+1+1+1+1
 rowA:RowIs wr w.heap.size 4 A
 rowB:RowIs wr (w.heap.size+1) 4 B
 rowH:∃H,RowIs wr (w.heap.size+1+1) 4 H
 rowL:∃L,RowIs wr (w.heap.size+1+1+1) 4 L
 rowP:RowIs wr (w.heap.size+1+1+1+1) 8 P
 lt:∀k,P k<18446744073709551616
theorem MW.set {w wr:World} {A B P:Nat→Nat} (h:MW w wr A B P) {k d:Nat} (hk:k<8) (hd:d<18446744073709551616) :
  MW w (wr.setCell ⟨w.heap.size+1+1+1+1,k,none⟩ (.int .u64 (d:Nat))) A B (cH P k d) :=
 ⟨h.below.setCell (p:=⟨w.heap.size+1+1+1+1,k,none⟩) (by simp; omega) _,by rw[World.size_setCell]; exact h.size,h.rowA.other (by omega) _,h.rowB.other (by omega) _,
  h.rowH.elim fun H x=>⟨H,x.other (by omega) _⟩,h.rowL.elim fun L x=>⟨L,x.other (by omega) _⟩,h.rowP.set hk,
  fun x=>by unfold cH; split; exact hd; exact h.lt x⟩
theorem MW.drewN {w wr:World} {A B P:Nat→Nat} (h:MW w wr A B P) (n:Nat):MW w (wr.drewN n) A B P :=
 ⟨h.below.trans (aP _ _ _),h.size,h.rowA,h.rowB,h.rowH,h.rowL,h.rowP,h.lt⟩
theorem RowIs.mk4 {w:World} {b:Nat} {c0 c1 c2 c3:Nat} (h0:w.cell? ⟨b,0,none⟩=some (.int .u64 c0)) (h1:w.cell? ⟨b,1,none⟩=some (.int .u64 c1)) (h2:w.cell? ⟨b,2,none⟩=some (.int .u64 c2)) (h3:w.cell? ⟨b,3,none⟩=some (.int .u64 c3))
  (hf:∀k,w.frozen? ⟨b,k,none⟩=false):RowIs w b 4 (bV [c0,c1,c2,c3]):=by
 intro k hk;refine⟨?_,hf k⟩
 match k,hk with
 | 0,_=>exact h0
 | 1,_=>exact h1
 | 2,_=>exact h2
 | 3,_=>exact h3
theorem RowIs.mk8z {w:World} {b:Nat} (h:∀k,k<8→w.cell? ⟨b,k,none⟩=some (.int .u64 0)) (hf:∀k,w.frozen? ⟨b,k,none⟩=false):RowIs w b 8 (fun _=>0) :=
 fun k hk=>⟨h k hk,hf k⟩
theorem jQ {a0 a1 a2 a3:Nat} (ha:bH a0 a1 a2 a3) (k:Nat):bV [a0,a1,a2,a3] k<18446744073709551616:=by
 obtain⟨h0,h1,h2,h3⟩:=ha;unfold bV
 match k with
 | 0=>exact h0
 | 1=>exact h1
 | 2=>exact h2
 | 3=>exact h3
 | k+4=>simp
def fD (P:Nat→Prop) (w:World) (e:Ending) (w':World):Prop :=
 ∃s0 s1 s2 s3:Nat,e=.returned (.agg #[.int .u64 s0,.int .u64 s1,.int .u64 s2,.int .u64 s3])∧bH s0 s1 s2 s3∧P (aA s0 s1 s2 s3)∧Below w.heap.size w w'
def Mem (w wr:World) (rs:List (Nat×Nat×Nat×Nat×Nat)):Prop :=
 Below w.heap.size w wr∧∀r,r∈rs→r.1<wr.heap.size∧Row4 wr r.1 r.2.1 r.2.2.1 r.2.2.2.1 r.2.2.2.2
theorem Mem.nil (w:World):Mem w w []:=⟨Below.refl _ _,fun _ h=>by cases h⟩
theorem Mem.on {w wr w':World} {rs:List (Nat×Nat×Nat×Nat×Nat)} (h:Mem w wr rs) (hb:Below wr.heap.size wr w'):Mem w w' rs :=
 ⟨h.1.trans (hb.mono h.1.size),fun r hr=>⟨Nat.lt_of_lt_of_le (h.2 r hr).1 hb.size,(h.2 r hr).2.below hb (h.2 r hr).1⟩⟩
theorem Mem.drewN {w wr:World} {rs:List (Nat×Nat×Nat×Nat×Nat)} (h:Mem w wr rs) (n:Nat):Mem w (wr.drewN n) rs:=h.on (aP _ _ n)
theorem Mem.new {w wr:World} {rs:List (Nat×Nat×Nat×Nat×Nat)} (h:Mem w wr rs) (b c0 c1 c2 c3:Nat) (t:TypeId) (hb:b=wr.heap.size) :
  Mem w (wr.alloc (.cells #[.int .u64 c0,.int .u64 c1,.int .u64 c2,.int .u64 c3] t)) ((b,c0,c1,c2,c3)::rs):=by
 subst hb;have hB:Below wr.heap.size wr (wr.alloc (.cells #[.int .u64 c0,.int .u64 c1,.int .u64 c2,.int .u64 c3] t)):=(Below.refl _ _).alloc (Nat.le_refl _) _;refine⟨(h.on hB).1,fun r hr => ?_⟩
 rcases List.mem_cons.1 hr with e|hr
 ·rw[e];exact⟨by simp,Row4.new wr c0 c1 c2 c3 t⟩
 ·exact (h.on hB).2 r hr
theorem Mem.get {w wr:World} {rs:List (Nat×Nat×Nat×Nat×Nat)} (h:Mem w wr rs) {b c0 c1 c2 c3:Nat} (hm:(b,c0,c1,c2,c3)∈rs):b<wr.heap.size∧Row4 wr b c0 c1 c2 c3:=h.2 _ hm
theorem Mem.sub {w wr:World} {rs rs':List (Nat×Nat×Nat×Nat×Nat)} (h:Mem w wr rs) (hs:∀r,r∈rs'→r∈rs):Mem w wr rs':=⟨h.1,fun r hr=>h.2 r (hs r hr)⟩
theorem Mem.put {w wr:World} {rs:List (Nat×Nat×Nat×Nat×Nat)} {b c0 c1 c2 c3:Nat} (h:Mem w wr ((b,c0,c1,c2,c3)::rs)) (d0 d1 d2 d3:Nat) (hw:w.heap.size≤b) (hne:∀r,r∈rs→r.1≠b) :
  Mem w (set4 wr b d0 d1 d2 d3) ((b,d0,d1,d2,d3)::rs):=by
 refine⟨aV h.1 hw _ _ _ _,fun r hr => ?_⟩;have hs:(set4 wr b d0 d1 d2 d3).heap.size=wr.heap.size:=by unfold set4; simp only[World.size_setCell]
 rcases List.mem_cons.1 hr with e|hr
 ·rw[e];exact⟨by rw[hs]; exact (h.2 _ List.mem_cons_self).1,(h.2 _ List.mem_cons_self).2.set4 _ _ _ _⟩
 ·exact⟨by rw[hs]; exact (h.2 r (List.mem_cons_of_mem _ hr)).1,(h.2 r (List.mem_cons_of_mem _ hr)).2.set4_other (fun e=>hne r hr e.symm) _ _ _ _⟩
theorem sB {x c:Nat} (hx:x<18446744073709551616) (hc:c≤1):∃d b:Nat,(∀w,(callFunc 118 #[.int .u64 (x:Int),.int .u64 0,.int .u64 (c:Int)]).run prog w =
   .ok (.value (.tuple #[.int .u64 (d:Int),.int .u64 (b:Int)])) w)∧d<18446744073709551616∧b≤1∧Hid (d+18446744073709551616*b=x+c) :=
 ⟨_,_,mM x 0 c hc,uE _ _ _,uF hx (by omega) hc,Lib.hid (by have:=LU x 0 c; omega)⟩
set_option maxHeartbeats 1000000 in
theorem nS {a b c d:Nat} (ha:a<18446744073709551616) (hb:b<18446744073709551616) (hc:c<18446744073709551616) (hd:d<18446744073709551616):∃h l:Nat,
  (∀w,Calls prog 120 #[.int .u64 a,.int .u64 b,.int .u64 c,.int .u64 d] w fun e w'=>e=.returned (.tuple #[.int .u64 (h:Nat),.int .u64 (l:Nat)])∧w'=w) ∧
  h<18446744073709551616∧l<18446744073709551616∧Hid (l+18446744073709551616*h=a*b+c+d):=by
 obtain⟨h,l,r,hh,hl,e⟩:=KS ha hb;obtain⟨l1,c1,r1,hl1,hc1,e1⟩:=nI hl hc;obtain⟨h1,z1,r2,hh1,hz1,e2⟩:=sB (show h<18446744073709551616 by omega) hc1;obtain⟨l2,c2,r3,hl2,hc2,e3⟩:=nI hl1 hd;obtain⟨h2,z2,r4,hh2,hz2,e4⟩:=sB hh1 hc2;have hab:=tM (show a≤18446744073709551615 by omega) (show b≤18446744073709551615 by omega);refine⟨h2,l2,fun w => ?_,hh2,hl2,Lib.hid (by have:=e.out; have:=e1.out; have:=e2.out; have:=e3.out; have:=e4.out; omega)⟩;clear e e1 e2 e3 e4 hab
 go_enter func120,ntmps120
 go_wp2_with fail;refine (r _).mono ?_
 rintro e w' ⟨rfl,rfl⟩
 go_wp2_with fail
 go_ret2
 exact⟨rfl,rfl⟩
structure KIs (w:World) (b:Nat) (F:FC):Prop where
 k0:w.cell? ⟨b,0,none⟩=some (.int .u64 F.m0)
 k1:w.cell? ⟨b,1,none⟩=some (.int .u64 F.m1)
 k2:w.cell? ⟨b,2,none⟩=some (.int .u64 F.m2)
 k3:w.cell? ⟨b,3,none⟩=some (.int .u64 F.m3)
 k4:w.cell? ⟨b,4,none⟩=some (.int .u64 F.inv)
 k5:w.cell? ⟨b,5,none⟩=some (.int .u64 F.s0)
 k6:w.cell? ⟨b,6,none⟩=some (.int .u64 F.s1)
 k7:w.cell? ⟨b,7,none⟩=some (.int .u64 F.s2)
 k8:w.cell? ⟨b,8,none⟩=some (.int .u64 F.s3)
 lt:b<w.heap.size
theorem KIs.below {w w':World} {b:Nat} {F:FC} (h:KIs w b F) {B:Nat} (hb:Below B w w') (hB:b<B):KIs w' b F :=
 ⟨by rw[hb.cell (p:=⟨b,0,none⟩) hB]; exact h.k0,by rw[hb.cell (p:=⟨b,1,none⟩) hB]; exact h.k1,by rw[hb.cell (p:=⟨b,2,none⟩) hB]; exact h.k2,by rw[hb.cell (p:=⟨b,3,none⟩) hB]; exact h.k3,
  by rw[hb.cell (p:=⟨b,4,none⟩) hB]; exact h.k4,by rw[hb.cell (p:=⟨b,5,none⟩) hB]; exact h.k5,by rw[hb.cell (p:=⟨b,6,none⟩) hB]; exact h.k6,by rw[hb.cell (p:=⟨b,7,none⟩) hB]; exact h.k7,by rw[hb.cell (p:=⟨b,8,none⟩) hB]; exact h.k8,Nat.lt_of_lt_of_le h.lt hb.size⟩
theorem KIs.same {w w':World} {b:Nat} {F:FC} (h:KIs w b F) (hb:Below w.heap.size w w'):KIs w' b F:=h.below hb h.lt
theorem KIs.drewN {w:World} {b:Nat} {F:FC} (h:KIs w b F) (n:Nat):KIs (w.drewN n) b F:=⟨h.k0,h.k1,h.k2,h.k3,h.k4,h.k5,h.k6,h.k7,h.k8,h.lt⟩
theorem KIs.other {w:World} {b d i:Nat} {F:FC} (h:KIs w b F) (hd:d≠b) (v:Value):KIs (w.setCell ⟨d,i,none⟩ v) b F :=
 ⟨by rw[World.cell?_setCell_other (h:=fun he=>hd (by simpa using congrArg Addr.block he)) ..]; exact h.k0,by rw[World.cell?_setCell_other (h:=fun he=>hd (by simpa using congrArg Addr.block he)) ..]; exact h.k1,
  by rw[World.cell?_setCell_other (h:=fun he=>hd (by simpa using congrArg Addr.block he)) ..]; exact h.k2,by rw[World.cell?_setCell_other (h:=fun he=>hd (by simpa using congrArg Addr.block he)) ..]; exact h.k3,
  by rw[World.cell?_setCell_other (h:=fun he=>hd (by simpa using congrArg Addr.block he)) ..]; exact h.k4,by rw[World.cell?_setCell_other (h:=fun he=>hd (by simpa using congrArg Addr.block he)) ..]; exact h.k5,
  by rw[World.cell?_setCell_other (h:=fun he=>hd (by simpa using congrArg Addr.block he)) ..]; exact h.k6,by rw[World.cell?_setCell_other (h:=fun he=>hd (by simpa using congrArg Addr.block he)) ..]; exact h.k7,
  by rw[World.cell?_setCell_other (h:=fun he=>hd (by simpa using congrArg Addr.block he)) ..]; exact h.k8,by rw[World.size_setCell]; exact h.lt⟩
theorem tX {a0 a1 a2 a3 b0 b1 b2 b3:Nat} (ha:bH a0 a1 a2 a3) (hb:bH b0 b1 b2 b3):∃d0 c0 d1 c1 d2 c2 d3 c3:Nat,
  (∀w,(callFunc 99 #[.int .u64 (a0:Int),.int .u64 (b0:Int),.int .u64 0]).run prog w=.ok (.value (.tuple #[.int .u64 (d0:Int),.int .u64 (c0:Int)])) w) ∧
  (∀w,(callFunc 99 #[.int .u64 (a1:Int),.int .u64 (b1:Int),.int .u64 (c0:Int)]).run prog w=.ok (.value (.tuple #[.int .u64 (d1:Int),.int .u64 (c1:Int)])) w) ∧
  (∀w,(callFunc 99 #[.int .u64 (a2:Int),.int .u64 (b2:Int),.int .u64 (c1:Int)]).run prog w=.ok (.value (.tuple #[.int .u64 (d2:Int),.int .u64 (c2:Int)])) w) ∧
  (∀w,(callFunc 99 #[.int .u64 (a3:Int),.int .u64 (b3:Int),.int .u64 (c2:Int)]).run prog w=.ok (.value (.tuple #[.int .u64 (d3:Int),.int .u64 (c3:Int)])) w) ∧
  bH d0 d1 d2 d3∧c3≤1∧Hid (aA d0 d1 d2 d3+aA b0 b1 b2 b3=aA a0 a1 a2 a3+115792089237316195423570985008687907853269984665640564039457584007913129639936*c3):=by
 obtain⟨d0,c0,r0,h0,k0,e0⟩:=sA ha.1 hb.1;obtain⟨d1,c1,r1,h1,k1,e1⟩:=iA ha.2.1 hb.2.1 k0;obtain⟨d2,c2,r2,h2,k2,e2⟩:=iA ha.2.2.1 hb.2.2.1 k1;obtain⟨d3,c3,r3,h3,k3,e3⟩:=iA ha.2.2.2 hb.2.2.2 k2;exact⟨d0,c0,d1,c1,d2,c2,d3,c3,r0,r1,r2,r3,⟨h0,h1,h2,h3⟩,k3,Lib.hid (by have:=e0.out; have:=e1.out; have:=e2.out; have:=e3.out; unfold aA; omega)⟩
theorem BX {a0 a1 a2 a3 b0 b1 b2 b3:Nat} (ha:bH a0 a1 a2 a3) (hb:bH b0 b1 b2 b3):∃d0 c0 d1 c1 d2 c2 d3 c3:Nat,
  (∀w,(callFunc 118 #[.int .u64 (a0:Int),.int .u64 (b0:Int),.int .u64 0]).run prog w=.ok (.value (.tuple #[.int .u64 (d0:Int),.int .u64 (c0:Int)])) w) ∧
  (∀w,(callFunc 118 #[.int .u64 (a1:Int),.int .u64 (b1:Int),.int .u64 (c0:Int)]).run prog w=.ok (.value (.tuple #[.int .u64 (d1:Int),.int .u64 (c1:Int)])) w) ∧
  (∀w,(callFunc 118 #[.int .u64 (a2:Int),.int .u64 (b2:Int),.int .u64 (c1:Int)]).run prog w=.ok (.value (.tuple #[.int .u64 (d2:Int),.int .u64 (c2:Int)])) w) ∧
  (∀w,(callFunc 118 #[.int .u64 (a3:Int),.int .u64 (b3:Int),.int .u64 (c2:Int)]).run prog w=.ok (.value (.tuple #[.int .u64 (d3:Int),.int .u64 (c3:Int)])) w) ∧
  bH d0 d1 d2 d3∧c3≤1∧Hid (aA d0 d1 d2 d3+115792089237316195423570985008687907853269984665640564039457584007913129639936*c3=aA a0 a1 a2 a3+aA b0 b1 b2 b3):=by
 obtain⟨d0,c0,r0,h0,k0,e0⟩:=nI ha.1 hb.1;obtain⟨d1,c1,r1,h1,k1,e1⟩:=qA ha.2.1 hb.2.1 k0;obtain⟨d2,c2,r2,h2,k2,e2⟩:=qA ha.2.2.1 hb.2.2.1 k1;obtain⟨d3,c3,r3,h3,k3,e3⟩:=qA ha.2.2.2 hb.2.2.2 k2;exact⟨d0,c0,d1,c1,d2,c2,d3,c3,r0,r1,r2,r3,⟨h0,h1,h2,h3⟩,k3,Lib.hid (by have:=e0.out; have:=e1.out; have:=e2.out; have:=e3.out; unfold aA; omega)⟩
def dK (V:Nat) (w:World) (e:Ending) (w':World):Prop :=
 ∃s0 s1 s2 s3:Nat,e=.returned (.agg #[.int .u64 s0,.int .u64 s1,.int .u64 s2,.int .u64 s3])∧bH s0 s1 s2 s3∧aA s0 s1 s2 s3=V∧Below w.heap.size w w'
set_option maxHeartbeats 1000000 in
theorem pJ (F:FC) (hF:F.Ok) (b t0 t1 t2 t3:Nat) (ht:bH t0 t1 t2 t3) (hlt:aA t0 t1 t2 t3<2*F.M) (w:World) (hk:KIs w b F) :
  Calls prog 119 #[.pointer (some ⟨b,0,none⟩),.int .u64 t0,.int .u64 t1,.int .u64 t2,.int .u64 t3] w (dK (aA t0 t1 t2 t3%F.M) w):=by
 obtain⟨d0,c0,d1,c1,d2,c2,d3,c3,r0,r1,r2,r3,hd,hc,e⟩:=tX ht hF.okm;have vd:=bW hd;have vt:=bW ht;have HV:=Lib.hid (IW hlt);have HM:=Lib.hid (show F.M=aA F.m0 F.m1 F.m2 F.m3 from rfl);have hL:=hk.lt;have k0:=hk.k0; have k1:=hk.k1; have k2:=hk.k2; have k3:=hk.k3;clear hk hF hlt;have hc':c3=0∨c3=1:=by omega
 rcases hc' with rfl|rfl
 ·go_enter func119,ntmps119
  go_wp2_with fail;refine bodyPost_ret (v:=.agg #[.int .u64 d0,.int .u64 d1,.int .u64 d2,.int .u64 d3]) (by simp[results,results119,go_sem]) rfl ?_;refine⟨_,_,_,_,rfl,hd,?_,?_⟩
  ·rw[HV.out,if_neg (by have:=e.out; have:=HM.out; omega)]; have:=e.out; have:=HM.out; omega
  ·repeat (first|exact Below.refl _ _|refine Below.drew ?_|refine Below.alloc ?_ (by first|(simp; done)|(simp; omega)) _|refine Below.setCell ?_ (by simp) _)
 ·go_enter func119,ntmps119
  go_wp2_with fail;refine bodyPost_ret (v:=.agg #[.int .u64 t0,.int .u64 t1,.int .u64 t2,.int .u64 t3]) (by simp[results,results119,go_sem]) rfl ?_;refine⟨_,_,_,_,rfl,ht,?_,?_⟩
  ·rw[HV.out,if_pos (by have:=e.out; have:=HM.out; omega)]
  ·repeat (first|exact Below.refl _ _|refine Below.drew ?_|refine Below.alloc ?_ (by first|(simp; done)|(simp; omega)) _|refine Below.setCell ?_ (by simp) _)
theorem KN (F:FC) (hF:F.Ok) {x y0 y1 y2 y3 t0 t1 t2 t3:Nat} {X:Nat→Nat} {k:Nat} (hk:k<4) (hx:x<18446744073709551616) (hX:X k=x) (hy:bH y0 y1 y2 y3) (hY:aA y0 y1 y2 y3<F.M) (ht:bH t0 t1 t2 t3) (g:AP F.M X (aA y0 y1 y2 y3) k (aA t0 t1 t2 t3)) :
  ∃o0 l0 cl c0 z o1 l1 c1 n0 o2 l2 c2 n1 o3 l3 c3 n2 n3:Nat,
  (∀w,Calls prog 120 #[.int .u64 x,.int .u64 y0,.int .u64 t0,.int .u64 0] w fun e w'=>e=.returned (.tuple #[.int .u64 (o0:Nat),.int .u64 (l0:Nat)])∧w'=w) ∧
  IntKind.u64.wrap ((l0:Int)*(F.inv:Int))=(cl:Int) ∧
  (∀w,Calls prog 120 #[.int .u64 cl,.int .u64 F.m0,.int .u64 l0,.int .u64 0] w fun e w'=>e=.returned (.tuple #[.int .u64 (c0:Nat),.int .u64 (z:Nat)])∧w'=w) ∧
  (∀w,Calls prog 120 #[.int .u64 x,.int .u64 y1,.int .u64 t1,.int .u64 o0] w fun e w'=>e=.returned (.tuple #[.int .u64 (o1:Nat),.int .u64 (l1:Nat)])∧w'=w) ∧
  (∀w,Calls prog 120 #[.int .u64 cl,.int .u64 F.m1,.int .u64 l1,.int .u64 c0] w fun e w'=>e=.returned (.tuple #[.int .u64 (c1:Nat),.int .u64 (n0:Nat)])∧w'=w) ∧
  (∀w,Calls prog 120 #[.int .u64 x,.int .u64 y2,.int .u64 t2,.int .u64 o1] w fun e w'=>e=.returned (.tuple #[.int .u64 (o2:Nat),.int .u64 (l2:Nat)])∧w'=w) ∧
  (∀w,Calls prog 120 #[.int .u64 cl,.int .u64 F.m2,.int .u64 l2,.int .u64 c1] w fun e w'=>e=.returned (.tuple #[.int .u64 (c2:Nat),.int .u64 (n1:Nat)])∧w'=w) ∧
  (∀w,Calls prog 120 #[.int .u64 x,.int .u64 y3,.int .u64 t3,.int .u64 o2] w fun e w'=>e=.returned (.tuple #[.int .u64 (o3:Nat),.int .u64 (l3:Nat)])∧w'=w) ∧
  (∀w,Calls prog 120 #[.int .u64 cl,.int .u64 F.m3,.int .u64 l3,.int .u64 c2] w fun e w'=>e=.returned (.tuple #[.int .u64 (c3:Nat),.int .u64 (n2:Nat)])∧w'=w) ∧
  (o3:Int)+(c3:Int)=(n3:Int)∧o3+c3<18446744073709551616∧bH n0 n1 n2 n3∧Hid (AP F.M X (aA y0 y1 y2 y3) (k+1) (aA n0 n1 n2 n3)):=by
 obtain⟨o0,l0,r0,bo0,bl0,e0⟩:=nS hx hy.1 ht.1 (show 0<18446744073709551616 by omega);obtain⟨cl,hcl⟩:∃cl,cl=l0*F.inv%18446744073709551616:=⟨_,rfl⟩
 have bcl:cl<18446744073709551616:=by omega
 obtain⟨c0,z,s0,bc0,bz,f0⟩:=nS bcl hF.okm.1 bl0 (show 0<18446744073709551616 by omega);obtain⟨o1,l1,r1,bo1,bl1,e1⟩:=nS hx hy.2.1 ht.2.1 bo0;obtain⟨c1,n0,s1,bc1,bn0,f1⟩:=nS bcl hF.okm.2.1 bl1 bc0;obtain⟨o2,l2,r2,bo2,bl2,e2⟩:=nS hx hy.2.2.1 ht.2.2.1 bo1;obtain⟨c2,n1,s2,bc2,bn1,f2⟩:=nS bcl hF.okm.2.2.1 bl2 bc1;obtain⟨o3,l3,r3,bo3,bl3,e3⟩:=nS hx hy.2.2.2 ht.2.2.2 bo2;obtain⟨c3,n2,s3,bc3,bn2,f3⟩:=nS bcl hF.okm.2.2.2 bl3 bc2;have hz:z=0:=by
  have h:=AI (l:=l0) hF.turn;rw[←hcl]at h;have:=f0.out;omega
 subst hz;have ha:=vB (e0.out) (f0.out) e1.out f1.out e2.out f2.out e3.out f3.out;have hg:=EJ (X:=X) hk g (by rw[hX]; exact hx) hY bcl (N:=aA n0 n1 n2 (o3+c3)) (by rw[hX]; exact ha);have hn3:o3+c3<18446744073709551616:=FZ (B:=0) (Nat.lt_trans hg.1 hF.two);refine⟨o0,l0,cl,c0,0,o1,l1,c1,n0,o2,l2,c2,n1,o3,l3,c3,n2,o3+c3,r0,?_,s0,r1,s1,r2,s2,r3,s3,?_,hn3,⟨bn0,bn1,bn2,hn3⟩,Lib.hid hg⟩
 ·rw[hcl,←Int.natCast_mul]; exact iB _
 ·exact (Int.natCast_add _ _).symm
theorem zN (x0 x1 x2 x3 k:Nat) (hk:k<4) (w:World):(Instr.index 99 (.agg #[.int .u64 x0,.int .u64 x1,.int .u64 x2,.int .u64 x3]) (.int .i64 k)).run prog w=.ok (.int .u64 (bV [x0,x1,x2,x3] k:Nat)) w:=by
 have h0:∀w,(Instr.index 99 (.agg #[.int .u64 x0,.int .u64 x1,.int .u64 x2,.int .u64 x3]) (.int .i64 0)).run prog w=.ok (.int .u64 x0) w:=fun _=>by kernel_rfl
 have h1:∀w,(Instr.index 99 (.agg #[.int .u64 x0,.int .u64 x1,.int .u64 x2,.int .u64 x3]) (.int .i64 1)).run prog w=.ok (.int .u64 x1) w:=fun _=>by kernel_rfl
 have h2:∀w,(Instr.index 99 (.agg #[.int .u64 x0,.int .u64 x1,.int .u64 x2,.int .u64 x3]) (.int .i64 2)).run prog w=.ok (.int .u64 x2) w:=fun _=>by kernel_rfl
 have h3:∀w,(Instr.index 99 (.agg #[.int .u64 x0,.int .u64 x1,.int .u64 x2,.int .u64 x3]) (.int .i64 3)).run prog w=.ok (.int .u64 x3) w:=fun _=>by kernel_rfl
 have:k=0∨k=1∨k=2∨k=3:=by omega
 rcases this with rfl|rfl|rfl|rfl
 ·exact h0 w
 ·exact h1 w
 ·exact h2 w
 ·exact h3 w
set_option maxHeartbeats 4000000 in
theorem eV (F:FC) (hF:F.Ok) (b x0 x1 x2 x3 y0 y1 y2 y3:Nat) (hx:bH x0 x1 x2 x3) (hy:bH y0 y1 y2 y3) (hY:aA y0 y1 y2 y3<F.M) (w:World) (hk:KIs w b F) :
  Calls prog 109 #[.pointer (some ⟨b,0,none⟩),.agg #[.int .u64 x0,.int .u64 x1,.int .u64 x2,.int .u64 x3],.agg #[.int .u64 y0,.int .u64 y1,.int .u64 y2,.int .u64 y3]] w (dK (aA x0 x1 x2 x3*aA y0 y1 y2 y3*F.Ri%F.M) w):=by
 obtain⟨X,eX⟩:∃X,X=bV [x0,x1,x2,x3]:=⟨_,rfl⟩
 have HX:=Lib.hid eX;have hXlt:=jQ hx;have HXlt:=Lib.hid hXlt;have HY:=Lib.hid hY;have HF:=Lib.hid hF;have HK:=Lib.hid hk;have HI:=Lib.hid (zN x0 x1 x2 x3);have hL:=hk.lt;have hL1:b<w.heap.size+1:=by omega
 have hL2:b<w.heap.size+1+1:=by omega
 have k0:=hk.k0; have k1:=hk.k1; have k2:=hk.k2; have k3:=hk.k3; have k4:=hk.k4;have bi:=hF.inv;have HG:=Lib.hid (EI (Y:=aA y0 y1 y2 y3) X (show 0<F.M by have:=hF.gt; omega));clear eX hXlt hY hF hk
 go_enter func109,ntmps109
 go_wp2_with fail
 go_loop [8,9,10,11,23] (fun v0 v1 v2 v3 i=>∃k t0 t1 t2 t3:Nat,k≤4∧i=.int .i64 k∧v0=.int .u64 t0∧v1=.int .u64 t1∧v2=.int .u64 t2∧v3=.int .u64 t3∧bH t0 t1 t2 t3∧Hid (AP F.M X (aA y0 y1 y2 y3) k (aA t0 t1 t2 t3))) (fun _ _ _ _ i=>4-(intOf i).toNat)
 case atStart=>exact⟨0,0,0,0,0,by omega,rfl,rfl,rfl,rfl,rfl,⟨by omega,by omega,by omega,by omega⟩,HG⟩
 case round =>
  obtain⟨k,t0,t1,t2,t3,hk,rfl,rfl,rfl,rfl,rfl,ht,g⟩:=hrel
  by_cases hlt:k<4
  ·obtain⟨x,ex⟩:∃x,x=bV [x0,x1,x2,x3] k:=⟨_,rfl⟩
   have hi:=HI.out k hlt;rw[←ex]at hi;have bx:x<18446744073709551616:=by rw[ex]; exact HXlt.out k
   obtain⟨o0,l0,cl,c0,z,o1,l1,c1,n0,o2,l2,c2,n1,o3,l3,c3,n2,n3,r0,q,s0,r1,s1,r2,s2,r3,s3,p,hp,hn,hg⟩:=KN F HF.out hlt bx (by rw[ex,HX.out]) hy HY.out ht g.out;clear ex g;go_wp2_with (first|(with_reducible refine (r0 _).mono ?_; rintro e w' ⟨rfl,rfl⟩)|(with_reducible refine (s0 _).mono ?_; rintro e w' ⟨rfl,rfl⟩)|(with_reducible refine (r1 _).mono ?_; rintro e w' ⟨rfl,rfl⟩)|(with_reducible refine (s1 _).mono ?_; rintro e w' ⟨rfl,rfl⟩)|(with_reducible refine (r2 _).mono ?_; rintro e w' ⟨rfl,rfl⟩)|(with_reducible refine (s2 _).mono ?_; rintro e w' ⟨rfl,rfl⟩)|(with_reducible refine (r3 _).mono ?_; rintro e w' ⟨rfl,rfl⟩)|(with_reducible refine (s3 _).mono ?_; rintro e w' ⟨rfl,rfl⟩))
   go_round
   case rel=>exact⟨k+1,n0,n1,n2,n3,by omega,by go_num,rfl,rfl,rfl,rfl,hn,hg⟩
   case measure=>simp[intOf]; omega
  ·obtain rfl:k=4:=by omega
   obtain⟨ge,gv⟩:=JY HF.out (x0:=x0) (x1:=x1) (x2:=x2) (x3:=x3) (by rw[HX.out]; rfl) (by rw[HX.out]; rfl) (by rw[HX.out]; rfl) (by rw[HX.out]; rfl) g.out;have HGV:=Lib.hid gv;clear gv g;go_wp2_with fail;refine (pJ F HF.out b t0 t1 t2 t3 ht ge _ (HK.out.same ?_)).mono ?_
   ·repeat (first|exact Below.refl _ _|refine Below.drew ?_|refine Below.alloc ?_ (by first|(simp; done)|(simp; omega)) _)
   rintro e w1 ⟨s0,s1,s2,s3,rfl,hs,hv,hbl⟩
   have HV:=Lib.hid hv;obtain⟨hc,hf⟩:=qJ hbl;have hz:w.heap.size+1+1<w1.heap.size:=by have:=hbl.size; simp at this; omega
   have HBL:=Lib.hid hbl;clear hv hbl;go_wp2_with fail;refine bodyPost_ret (v:=.agg #[.int .u64 s0,.int .u64 s1,.int .u64 s2,.int .u64 s3]) (by simp[results,results109,go_sem, *]) rfl ?_;refine⟨_,_,_,_,rfl,hs,HV.out.trans HGV.out,?_⟩;refine aV (Below.trans ?_ (HBL.out.mono (by simp; omega))) (by omega) _ _ _ _
   repeat (first|exact Below.refl _ _|refine Below.drew ?_|refine Below.alloc ?_ (by first|(simp; done)|(simp; omega)) _)
def xU (V M:Nat):Bool:=decide (V<M)
theorem UR {V M c D:Nat} (hD:D<115792089237316195423570985008687907853269984665640564039457584007913129639936) (hc:c≤1) (e:D+M=V+115792089237316195423570985008687907853269984665640564039457584007913129639936*c) (hM:M<115792089237316195423570985008687907853269984665640564039457584007913129639936) (hV:V<115792089237316195423570985008687907853269984665640564039457584007913129639936):((c:Int)==1)=xU V M:=by
 have:c=0∨c=1:=by omega
 unfold xU
 rcases this with rfl|rfl
 ·rw[decide_eq_false (by omega)]; rfl
 ·rw[decide_eq_true (by omega)]; rfl
theorem vL {a b:Bool} (h:a=b):Ending.returned (.bool a)=.returned (.bool b):=by rw[h]
set_option maxHeartbeats 1000000 in
theorem dJ (F:FC) (hF:F.Ok) (b a0 a1 a2 a3:Nat) (ha:bH a0 a1 a2 a3) (w:World) (hk:KIs w b F) :
  Calls prog 78 #[.pointer (some ⟨b,0,none⟩),.agg #[.int .u64 a0,.int .u64 a1,.int .u64 a2,.int .u64 a3]] w fun e w'=>e=.returned (.bool (xU (aA a0 a1 a2 a3) F.M))∧Below w.heap.size w w':=by
 obtain⟨d0,c0,d1,c1,d2,c2,d3,c3,r0,r1,r2,r3,hd,hc,e⟩:=tX ha hF.okm;have HB:=Lib.hid (UR (bW hd) hc e.out (bW hF.okm) (bW ha));have hL:=hk.lt;have hL':b≠w.heap.size:=by omega
 have k0:=hk.k0; have k1:=hk.k1; have k2:=hk.k2; have k3:=hk.k3;clear hk hF e
 go_enter func78,ntmps78
 go_wp2_with fail
 go_quiet (fail)
 go_wp2_with fail
 go_quiet (fail)
 go_wp2_with fail
 go_quiet (fail)
 go_wp2_with fail
 go_quiet (fail)
 go_wp2_with fail;go_ret;exact⟨vL HB.out,by repeat (first|exact Below.refl _ _|refine Below.drew ?_|exact aP _ _ _|refine Below.alloc ?_ (by first|(simp; done)|(simp; omega)) _|refine Below.trans ?_ (aP _ _ _))⟩
set_option maxHeartbeats 1000000 in
theorem zB (F:FC) (hF:F.Ok) (b a0 a1 a2 a3 b0 b1 b2 b3:Nat) (ha:bH a0 a1 a2 a3) (hb:bH b0 b1 b2 b3) (la:aA a0 a1 a2 a3<F.M) (lb:aA b0 b1 b2 b3<F.M) (w:World) (hk:KIs w b F) :
  Calls prog 108 #[.pointer (some ⟨b,0,none⟩),.agg #[.int .u64 a0,.int .u64 a1,.int .u64 a2,.int .u64 a3],.agg #[.int .u64 b0,.int .u64 b1,.int .u64 b2,.int .u64 b3]] w (dK ((aA a0 a1 a2 a3+aA b0 b1 b2 b3)%F.M) w):=by
 obtain⟨d0,c0,d1,c1,d2,c2,d3,c3,r0,r1,r2,r3,hd,hc,e⟩:=BX ha hb;have e':aA d0 d1 d2 d3=aA a0 a1 a2 a3+aA b0 b1 b2 b3:=by have:=e.out; have:=hF.two; omega
 rw[←e'];have hlt:aA d0 d1 d2 d3<2*F.M:=by omega
 have HK:=Lib.hid hk;have hL:=hk.lt;clear e e' hk
 go_enter func108,ntmps108
 go_wp2_with fail;refine (pJ F hF b d0 d1 d2 d3 hd hlt _ (HK.out.same ?_)).mono ?_
 ·repeat (first|exact Below.refl _ _|refine Below.drew ?_|refine Below.alloc ?_ (by first|(simp; done)|(simp; omega)) _)
 rintro e w1 ⟨s0,s1,s2,s3,rfl,hs,hv,hbl⟩
 have HV:=Lib.hid hv;obtain⟨hc,hf⟩:=qJ hbl;have hz:w.heap.size+1+1<w1.heap.size:=by have:=hbl.size; simp at this; omega
 have HBL:=Lib.hid hbl;clear hv hbl;go_wp2_with fail;refine bodyPost_ret (v:=.agg #[.int .u64 s0,.int .u64 s1,.int .u64 s2,.int .u64 s3]) (by simp[results,results108,go_sem, *]) rfl ?_;refine⟨_,_,_,_,rfl,hs,HV.out,?_⟩;refine aV (Below.trans ?_ (HBL.out.mono (by simp; omega))) (by omega) _ _ _ _
 repeat (first|exact Below.refl _ _|refine Below.drew ?_|refine Below.alloc ?_ (by first|(simp; done)|(simp; omega)) _)
theorem DW {A B D M c:Nat} (ha:A<M) (hb:B<M) (e:D+B=A+115792089237316195423570985008687907853269984665640564039457584007913129639936*c) (hc:c≤1) (hD:D<115792089237316195423570985008687907853269984665640564039457584007913129639936) (hM:2*M<115792089237316195423570985008687907853269984665640564039457584007913129639936) :
  (c=0→D=(A+M-B)%M)∧(c=1→∀E c',E+115792089237316195423570985008687907853269984665640564039457584007913129639936*c'=D+M→c'≤1→E<115792089237316195423570985008687907853269984665640564039457584007913129639936→E=(A+M-B)%M):=by
 refine⟨fun h => ?_,fun h E c' e' hc' hE => ?_⟩
 ·subst h;rw[show A+M-B=(A-B)+M by omega,Nat.add_mod_right,Nat.mod_eq_of_lt (by omega)]; omega
 ·subst h;have:c'=0∨c'=1:=by omega
  rw[Nat.mod_eq_of_lt (by omega)]; omega
set_option maxHeartbeats 1000000 in
theorem wP (F:FC) (hF:F.Ok) (b a0 a1 a2 a3 b0 b1 b2 b3:Nat) (ha:bH a0 a1 a2 a3) (hb:bH b0 b1 b2 b3) (la:aA a0 a1 a2 a3<F.M) (lb:aA b0 b1 b2 b3<F.M) (w:World) (hk:KIs w b F) :
  Calls prog 106 #[.pointer (some ⟨b,0,none⟩),.agg #[.int .u64 a0,.int .u64 a1,.int .u64 a2,.int .u64 a3],.agg #[.int .u64 b0,.int .u64 b1,.int .u64 b2,.int .u64 b3]] w (dK ((aA a0 a1 a2 a3+F.M-aA b0 b1 b2 b3)%F.M) w):=by
 obtain⟨d0,c0,d1,c1,d2,c2,d3,c3,r0,r1,r2,r3,hd,hc,e⟩:=tX ha hb;have hv:=DW la lb e.out hc (bW hd) hF.two;have hL:=hk.lt;have hL1:b<w.heap.size+1:=by omega
 have hL2:b<w.heap.size+1+1:=by omega
 have k0:=hk.k0; have k1:=hk.k1; have k2:=hk.k2; have k3:=hk.k3;have HM:=Lib.hid (show F.M=aA F.m0 F.m1 F.m2 F.m3 from rfl);clear la lb e hk;have hc':c3=0∨c3=1:=by omega
 rcases hc' with rfl|rfl
 ·have HV:=Lib.hid (hv.1 rfl);clear hv hF
  go_enter func106,ntmps106
  go_wp2_with fail;refine bodyPost_ret (v:=.agg #[.int .u64 d0,.int .u64 d1,.int .u64 d2,.int .u64 d3]) (by simp[results,results106,go_sem]) rfl ?_;refine⟨_,_,_,_,rfl,hd,HV.out,?_⟩
  repeat (first|exact Below.refl _ _|refine Below.drew ?_|refine Below.alloc ?_ (by first|(simp; done)|(simp; omega)) _|refine Below.setCell ?_ (by simp) _)
 ·obtain⟨n0,g0,n1,g1,n2,g2,n3,g3,q0,q1,q2,q3,hn,hg,f⟩:=BX hd hF.okm;have HV:=Lib.hid (hv.2 rfl _ _ (by rw[HM.out]; exact f.out) hg (bW hn));clear hv f hF
  go_enter func106,ntmps106
  go_wp2_with fail;refine bodyPost_ret (v:=.agg #[.int .u64 n0,.int .u64 n1,.int .u64 n2,.int .u64 n3]) (by simp[results,results106,go_sem]) rfl ?_;refine⟨_,_,_,_,rfl,hn,HV.out,?_⟩
  repeat (first|exact Below.refl _ _|refine Below.drew ?_|refine Below.alloc ?_ (by first|(simp; done)|(simp; omega)) _|refine Below.setCell ?_ (by simp) _)
theorem aN:cT 2:=aK 2 1 (by decide) (by decide) (by kernel_rfl)
theorem dN:cT 3:=aK 3 1 (by decide) (by decide) (by kernel_rfl)
theorem pE:cT 13:=aK 13 3 (by decide) (by decide) (by kernel_rfl)
theorem IF:cT 29:=aK 29 5 (by decide) (by decide) (by kernel_rfl)
theorem TS:cT 67:=aK 67 8 (by decide) (by decide) (by kernel_rfl)
theorem BE:cT 229:=aK 229 15 (by decide) (by decide) (by kernel_rfl)
theorem OB:cT 311:=aK 311 17 (by decide) (by decide) (by kernel_rfl)
theorem BD:cT 983:=aK 983 31 (by decide) (by decide) (by kernel_rfl)
theorem rI:cT 11003:=aK 11003 104 (by decide) (by decide) (by kernel_rfl)
theorem mU:cT 11:=aK 11 3 (by decide) (by decide) (by kernel_rfl)
theorem ID:cT 3691:=aK 3691 60 (by decide) (by decide) (by kernel_rfl)
theorem IA:cT 4999:=aK 4999 70 (by decide) (by decide) (by kernel_rfl)
theorem oZ:Root 405928799 22:=by
 refine aT (l:=[2,11,3691,4999]) (by kernel_rfl) fun q hq => ?_
 simp only[List.mem_cons,List.not_mem_nil,or_false]at hq
 rcases hq with rfl|rfl|rfl|rfl
 ·exact aN
 ·exact mU
 ·exact ID
 ·exact IA
theorem kL:cT 405928799:=oZ.prm
theorem fH:cT 5:=aK 5 2 (by decide) (by decide) (by kernel_rfl)
theorem pD:cT 7:=aK 7 2 (by decide) (by decide) (by kernel_rfl)
theorem mT:cT 19:=aK 19 4 (by decide) (by decide) (by kernel_rfl)
theorem IC:cT 37:=aK 37 6 (by decide) (by decide) (by kernel_rfl)
theorem OE:cT 233:=aK 233 15 (by decide) (by decide) (by kernel_rfl)
theorem vE:Root 327599 19:=by
 refine aT (l:=[2,19,37,233]) (by kernel_rfl) fun q hq => ?_
 simp only[List.mem_cons,List.not_mem_nil,or_false]at hq
 rcases hq with rfl|rfl|rfl|rfl
 ·exact aN
 ·exact mT
 ·exact IC
 ·exact OE
theorem yW:cT 327599:=vE.prm
theorem mQ:Root 11465965001 3:=by
 refine aT (l:=[2,2,2,5,5,5,5,7,327599]) (by kernel_rfl) fun q hq => ?_
 simp only[List.mem_cons,List.not_mem_nil,or_false]at hq
 rcases hq with rfl|rfl|rfl|rfl|rfl|rfl|rfl|rfl|rfl
 ·exact aN
 ·exact aN
 ·exact aN
 ·exact fH
 ·exact fH
 ·exact fH
 ·exact fH
 ·exact pD
 ·exact yW
theorem oF:cT 11465965001:=mQ.prm
theorem OC:cT 271:=aK 271 16 (by decide) (by decide) (by kernel_rfl)
theorem sZ:Root 1853641 17:=by
 refine aT (l:=[2,2,2,3,3,5,19,271]) (by kernel_rfl) fun q hq => ?_
 simp only[List.mem_cons,List.not_mem_nil,or_false]at hq
 rcases hq with rfl|rfl|rfl|rfl|rfl|rfl|rfl|rfl
 ·exact aN
 ·exact aN
 ·exact aN
 ·exact dN
 ·exact dN
 ·exact fH
 ·exact mT
 ·exact OC
theorem vT:cT 1853641:=sZ.prm
theorem IH:cT 17:=aK 17 4 (by decide) (by decide) (by kernel_rfl)
theorem BF:cT 109:=aK 109 10 (by decide) (by decide) (by kernel_rfl)
theorem II:cT 1231:=aK 1231 35 (by decide) (by decide) (by kernel_rfl)
theorem sY:Root 4562087 5:=by
 refine aT (l:=[2,17,109,1231]) (by kernel_rfl) fun q hq => ?_
 simp only[List.mem_cons,List.not_mem_nil,or_false]at hq
 rcases hq with rfl|rfl|rfl|rfl
 ·exact aN
 ·exact IH
 ·exact BF
 ·exact II
theorem vS:cT 4562087:=sY.prm
theorem TR:cT 73:=aK 73 8 (by decide) (by decide) (by kernel_rfl)
theorem TP:cT 89:=aK 89 9 (by decide) (by decide) (by kernel_rfl)
theorem DL:cT 13327:=aK 13327 115 (by decide) (by decide) (by kernel_rfl)
theorem pA:Root 173171039 13:=by
 refine aT (l:=[2,73,89,13327]) (by kernel_rfl) fun q hq => ?_
 simp only[List.mem_cons,List.not_mem_nil,or_false]at hq
 rcases hq with rfl|rfl|rfl|rfl
 ·exact aN
 ·exact TR
 ·exact TP
 ·exact DL
theorem qW:cT 173171039:=pA.prm
theorem TT:cT 41:=aK 41 6 (by decide) (by decide) (by kernel_rfl)
theorem NT:cT 911:=aK 911 30 (by decide) (by decide) (by kernel_rfl)
theorem IE:cT 3557:=aK 3557 59 (by decide) (by decide) (by kernel_rfl)
theorem oB:Root 1263766531 10:=by
 refine aT (l:=[2,3,5,13,911,3557]) (by kernel_rfl) fun q hq => ?_
 simp only[List.mem_cons,List.not_mem_nil,or_false]at hq
 rcases hq with rfl|rfl|rfl|rfl|rfl|rfl
 ·exact aN
 ·exact dN
 ·exact fH
 ·exact pE
 ·exact NT
 ·exact IE
theorem pF:cT 1263766531:=oB.prm
theorem mN:Root 35385462869 2:=by
 refine aT (l:=[2,2,7,1263766531]) (by kernel_rfl) fun q hq => ?_
 simp only[List.mem_cons,List.not_mem_nil,or_false]at hq
 rcases hq with rfl|rfl|rfl|rfl
 ·exact aN
 ·exact aN
 ·exact pD
 ·exact pF
theorem oC:cT 35385462869:=mN.prm
theorem iX:Root 2480874801745591 6:=by
 refine aT (l:=[2,3,3,5,19,41,35385462869]) (by kernel_rfl) fun q hq => ?_
 simp only[List.mem_cons,List.not_mem_nil,or_false]at hq
 rcases hq with rfl|rfl|rfl|rfl|rfl|rfl|rfl
 ·exact aN
 ·exact dN
 ·exact dN
 ·exact fH
 ·exact mT
 ·exact TT
 ·exact oC
theorem jI:cT 2480874801745591:=iX.prm
theorem cV:Root 13427688667394608761327070753331941386769 17:=by
 refine aT (l:=[2,2,2,2,3,7,11,1853641,4562087,173171039,2480874801745591]) (by kernel_rfl) fun q hq => ?_
 simp only[List.mem_cons,List.not_mem_nil,or_false]at hq
 rcases hq with rfl|rfl|rfl|rfl|rfl|rfl|rfl|rfl|rfl|rfl|rfl
 ·exact aN
 ·exact aN
 ·exact aN
 ·exact aN
 ·exact dN
 ·exact pD
 ·exact mU
 ·exact vT
 ·exact vS
 ·exact qW
 ·exact jI
theorem dB:cT 13427688667394608761327070753331941386769:=cV.prm
theorem SW:Root 21888242871839275222246405745257275088696311157297823662689037894645226208583 3:=by
 refine aT (l:=[2,3,3,13,29,67,229,311,983,11003,405928799,11465965001,13427688667394608761327070753331941386769]) (by kernel_rfl) fun q hq => ?_
 simp only[List.mem_cons,List.not_mem_nil,or_false]at hq
 rcases hq with rfl|rfl|rfl|rfl|rfl|rfl|rfl|rfl|rfl|rfl|rfl|rfl|rfl
 ·exact aN
 ·exact dN
 ·exact dN
 ·exact pE
 ·exact IF
 ·exact TS
 ·exact BE
 ·exact OB
 ·exact BD
 ·exact rI
 ·exact kL
 ·exact oF
 ·exact dB
theorem NY:cT 449:=aK 449 21 (by decide) (by decide) (by kernel_rfl)
theorem vG:Root 237073 15:=by
 refine aT (l:=[2,2,2,2,3,11,449]) (by kernel_rfl) fun q hq => ?_
 simp only[List.mem_cons,List.not_mem_nil,or_false]at hq
 rcases hq with rfl|rfl|rfl|rfl|rfl|rfl|rfl
 ·exact aN
 ·exact aN
 ·exact aN
 ·exact aN
 ·exact dN
 ·exact mU
 ·exact NY
theorem yY:cT 237073:=vG.prm
theorem OG:cT 107:=aK 107 10 (by decide) (by decide) (by kernel_rfl)
theorem NW:cT 661:=aK 661 25 (by decide) (by decide) (by kernel_rfl)
theorem DG:cT 93001:=aK 93001 304 (by decide) (by decide) (by kernel_rfl)
theorem mP:Root 12048837557 2:=by
 refine aT (l:=[2,2,7,7,661,93001]) (by kernel_rfl) fun q hq => ?_
 simp only[List.mem_cons,List.not_mem_nil,or_false]at hq
 rcases hq with rfl|rfl|rfl|rfl|rfl|rfl
 ·exact aN
 ·exact aN
 ·exact pD
 ·exact pD
 ·exact NW
 ·exact DG
theorem oE:cT 12048837557:=mP.prm
theorem kP:Root 5156902474397 2:=by
 refine aT (l:=[2,2,107,12048837557]) (by kernel_rfl) fun q hq => ?_
 simp only[List.mem_cons,List.not_mem_nil,or_false]at hq
 rcases hq with rfl|rfl|rfl|rfl
 ·exact aN
 ·exact aN
 ·exact OG
 ·exact oE
theorem lS:cT 5156902474397:=kP.prm
theorem iY:Root 1670836401704629 2:=by
 refine aT (l:=[2,2,3,3,3,3,5156902474397]) (by kernel_rfl) fun q hq => ?_
 simp only[List.mem_cons,List.not_mem_nil,or_false]at hq
 rcases hq with rfl|rfl|rfl|rfl|rfl|rfl|rfl
 ·exact aN
 ·exact aN
 ·exact dN
 ·exact dN
 ·exact dN
 ·exact dN
 ·exact lS
theorem jJ:cT 1670836401704629:=iY.prm
theorem NV:cT 823:=aK 823 28 (by decide) (by decide) (by kernel_rfl)
theorem DI:cT 41927:=aK 41927 204 (by decide) (by decide) (by kernel_rfl)
theorem tA:Root 1593227 2:=by
 refine aT (l:=[2,19,41927]) (by kernel_rfl) fun q hq => ?_
 simp only[List.mem_cons,List.not_mem_nil,or_false]at hq
 rcases hq with rfl|rfl|rfl
 ·exact aN
 ·exact mT
 ·exact DI
theorem vV:cT 1593227:=tA.prm
theorem TQ:cT 83:=aK 83 9 (by decide) (by decide) (by kernel_rfl)
theorem NZ:cT 379:=aK 379 19 (by decide) (by decide) (by kernel_rfl)
theorem vU:cT 1637:=aK 1637 40 (by decide) (by decide) (by kernel_rfl)
theorem NU:cT 853:=aK 853 29 (by decide) (by decide) (by kernel_rfl)
theorem oY:Root 639533339 2:=by
 refine aT (l:=[2,229,853,1637]) (by kernel_rfl) fun q hq => ?_
 simp only[List.mem_cons,List.not_mem_nil,or_false]at hq
 rcases hq with rfl|rfl|rfl|rfl
 ·exact aN
 ·exact BE
 ·exact NU
 ·exact vU
theorem qV:cT 639533339:=oY.prm
theorem iG:Root 65865678001877903 5:=by
 refine aT (l:=[2,83,379,1637,639533339]) (by kernel_rfl) fun q hq => ?_
 simp only[List.mem_cons,List.not_mem_nil,or_false]at hq
 rcases hq with rfl|rfl|rfl|rfl|rfl
 ·exact aN
 ·exact TQ
 ·exact NZ
 ·exact vU
 ·exact qV
theorem iZ:cT 65865678001877903:=iG.prm
theorem dW:Root 13818364434197438864469338081 3:=by
 refine aT (l:=[2,2,2,2,2,5,823,1593227,65865678001877903]) (by kernel_rfl) fun q hq => ?_
 simp only[List.mem_cons,List.not_mem_nil,or_false]at hq
 rcases hq with rfl|rfl|rfl|rfl|rfl|rfl|rfl|rfl|rfl
 ·exact aN
 ·exact aN
 ·exact aN
 ·exact aN
 ·exact aN
 ·exact fH
 ·exact NV
 ·exact vV
 ·exact iZ
theorem eD:cT 13818364434197438864469338081:=dW.prm
theorem GT:Root 21888242871839275222246405745257275088548364400416034343698204186575808495617 5:=by
 refine aT (l:=[2,2,2,2,2,2,2,2,2,2,2,2,2,2,2,2,2,2,2,2,2,2,2,2,2,2,2,2,3,3,13,29,983,11003,237073,405928799,1670836401704629,13818364434197438864469338081]) (by kernel_rfl) fun q hq => ?_
 simp only[List.mem_cons,List.not_mem_nil,or_false]at hq
 rcases hq with rfl|rfl|rfl|rfl|rfl|rfl|rfl|rfl|rfl|rfl|rfl|rfl|rfl|rfl|rfl|rfl|rfl|rfl|rfl|rfl|rfl|rfl|rfl|rfl|rfl|rfl|rfl|rfl|rfl|rfl|rfl|rfl|rfl|rfl|rfl|rfl|rfl|rfl
 ·exact aN
 ·exact aN
 ·exact aN
 ·exact aN
 ·exact aN
 ·exact aN
 ·exact aN
 ·exact aN
 ·exact aN
 ·exact aN
 ·exact aN
 ·exact aN
 ·exact aN
 ·exact aN
 ·exact aN
 ·exact aN
 ·exact aN
 ·exact aN
 ·exact aN
 ·exact aN
 ·exact aN
 ·exact aN
 ·exact aN
 ·exact aN
 ·exact aN
 ·exact aN
 ·exact aN
 ·exact aN
 ·exact dN
 ·exact dN
 ·exact pE
 ·exact IF
 ·exact BD
 ·exact rI
 ·exact yY
 ·exact kL
 ·exact jJ
 ·exact eD
section
variable {M g:Nat}
theorem wD (a n:Nat):(a%M)^n%M=a^n%M:=(Nat.pow_mod a n M).symm
theorem kD (a b:Nat):a%M*b%M=a*b%M:=by rw[Nat.mul_mod,Nat.mod_mod,←Nat.mul_mod]
theorem nC (a b:Nat):a*(b%M)%M=a*b%M:=by rw[Nat.mul_mod,Nat.mod_mod,←Nat.mul_mod]
theorem KL (hr:Root M g) {a:Nat} (h0:0<a) (h:a<M):a^(M-1)%M=1:=by
 obtain⟨h1,hg,_,hs⟩:=hr;obtain⟨k,hk,rfl⟩:=hs a h0 h;rw[wD,←Nat.pow_mul,Nat.mul_comm,jK h1 hg]
theorem BT (hr:Root M g) {a:Nat} (h2:2≤M) (h0:0<a) (h:a<M):a*(a^(M-2)%M)%M=1:=by
 rw[nC,←Nat.pow_succ',show (M-2).succ=M-1 by omega,KL hr h0 h]
theorem LP (hr:Root M g) {a b c:Nat} (h2:2≤M) (h0:0<a) (h:a<M) (e:a*b%M=a*c%M):b%M=c%M:=by
 have hi:=BT hr h2 h0 h;have key:∀x,a^(M-2)%M*(a*x%M)%M=x%M:=fun x=>by
  rw[nC,←Nat.mul_assoc,Nat.mul_mod,Nat.mul_comm _ a,hi,Nat.one_mul,Nat.mod_mod]
 rw[←key b,e,key c]
theorem uI (hr:Root M g) {a b:Nat} (h2:2≤M) (h0:0<a) (h:a<M) (e:a*b%M=0):b%M=0:=by
 have:=LP hr (c:=0) h2 h0 h (by rw[e,Nat.mul_zero,Nat.zero_mod]);rw[this,Nat.zero_mod]
theorem AC {x y:Nat} (hxy:y≤x) (e:x*x%M=y*y%M):(x-y)*(x+y)%M=0:=by
 have h:(x-y)*(x+y)=x*x-y*y:=by
  obtain⟨d,rfl⟩:∃d,x=y+d:=⟨x-y,by omega⟩
  rw[show y+d-y=d by omega];have:(y+d)*(y+d)=y*y+d*(y+d+y):=by
   simp only[Nat.add_mul,Nat.mul_add,Nat.mul_comm d y]; omega
  omega
 rw[h];exact Nat.sub_mod_eq_zero_of_mod_eq e
theorem QV (hr:Root M g) {x y:Nat} (h2:2≤M) (hx:x<M) (hxy:y≤x) (e:x*x%M=y*y%M):x=y∨x+y=M:=by
 have hd:=AC hxy e
 by_cases h:x=y
 ·exact Or.inl h
 ·right;have:=uI hr h2 (show 0<x-y by omega) (by omega) hd;obtain⟨k,hk⟩:=Nat.dvd_of_mod_eq_zero this;have hk1:k<2:=by
   rcases Nat.lt_or_ge k 2 with q|q
   ·exact q
   ·have:=Nat.mul_le_mul_left M q; omega
  have:k=0∨k=1:=by omega
  rcases this with rfl|rfl<;>omega
theorem SM (hr:Root M g) {x y:Nat} (h2:2≤M) (hx:x<M) (hy:y<M) (e:x*x%M=y*y%M):x=y∨x+y=M:=by
 rcases Nat.le_total y x with h|h
 ·exact QV hr h2 hx h e
 ·rcases QV hr h2 hy h e.symm with q|q
  ·exact Or.inl q.symm
  ·exact Or.inr (by omega)
theorem mul_ne (hr:Root M g) {a b:Nat} (h2:2≤M) (ha0:0<a) (ha:a<M) (hb0:0<b) (hb:b<M):0<a*b%M:=by
 rcases Nat.eq_zero_or_pos (a*b%M)with h|h
 ·have:=uI hr h2 ha0 ha h;rw[Nat.mod_eq_of_lt hb]at this; omega
 ·exact h
theorem UP (hr:Root M g) {a:Nat} (ho:M%2=1) (h0:0<a) (h:a<M):(a*a%M)^(M/2)%M=1:=by
 have h1:=hr.1;rw[wD,←Nat.pow_two,←Nat.pow_mul,show 2*(M/2)=M-1 by omega,KL hr h0 h]
end
def kp (F:FC) (a:Nat):Nat:=a*F.R%F.M
section
variable {F:FC}
theorem RK (hF:F.Ok) (a:Nat):kp F a<F.M:=Nat.mod_lt _ (by have:=hF.gt; omega)
theorem kB (hF:F.Ok) (x:Nat):x*F.R*F.Ri%F.M=x%F.M:=by
 rw[Nat.mul_assoc,Nat.mul_mod,hF.ri,Nat.mul_one,Nat.mod_mod]
theorem iS {M a b c d:Nat} (h:a%M=b%M) (h':c%M=d%M):a*c%M=b*d%M:=by rw[Nat.mul_mod,h,h',←Nat.mul_mod]
theorem lH (M a:Nat):a%M%M=a%M:=Nat.mod_mod _ _
theorem wQ (hF:F.Ok) (a b:Nat):kp F a*kp F b*F.Ri%F.M=kp F (a*b%F.M):=by
 have h:kp F a*kp F b*F.Ri%F.M=a*F.R*(b*F.R)*F.Ri%F.M:=iS (iS (lH _ _) (lH _ _)) rfl;have e:a*F.R*(b*F.R)=a*b*F.R*F.R:=by rw[Nat.mul_mul_mul_comm,Nat.mul_assoc (a*b)]
 rw[h,e,kB hF];unfold kp;rw[kD]
theorem BP (hF:F.Ok) (a:Nat):a*aA F.s0 F.s1 F.s2 F.s3*F.Ri%F.M=kp F a:=by
 have h:a*aA F.s0 F.s1 F.s2 F.s3*F.Ri%F.M=a*(F.R*F.R)*F.Ri%F.M:=by rw[hF.sq]; exact iS (iS rfl (lH _ _)) rfl
 rw[h,←Nat.mul_assoc,kB hF];rfl
theorem pO (hF:F.Ok) (a b:Nat):kp F a*b*F.Ri%F.M=a*b%F.M:=by
 have h:kp F a*b*F.Ri%F.M=a*F.R*b*F.Ri%F.M:=iS (iS (lH _ _) rfl) rfl;rw[h,Nat.mul_right_comm a,kB hF]
theorem tO (F:FC) (a:Nat):kp F (a%F.M)=kp F a:=by unfold kp; rw[kD]
theorem nQ (F:FC) (a n b:Nat) (h:b=0∨b=1):(b=0→kp F (a^(2*n+b))=kp F (a^n*a^n%F.M))∧(b=1→kp F (a^(2*n+b))=kp F (a^n*a^n%F.M*a%F.M)):=by
 have e:a^(2*n)=a^n*a^n:=by rw[Nat.two_mul,Nat.pow_add]
 refine⟨fun h => ?_,fun h => ?_⟩
 ·subst h; rw[Nat.add_zero,tO,e]
 ·subst h; rw[tO,Nat.pow_succ,e,←tO F (_%_*a),kD,tO]
end
theorem FC.Ok.sqlt {F:FC} (hF:F.Ok):aA F.s0 F.s1 F.s2 F.s3<F.M:=by rw[hF.sq]; exact Nat.mod_lt _ (by have:=hF.gt; omega)
theorem FC.Ok.pos {F:FC} (hF:F.Ok):0<F.M:=by have:=hF.gt; omega
set_option maxHeartbeats 1000000 in
theorem lD (F:FC) (hF:F.Ok) (b a0 a1 a2 a3:Nat) (ha:bH a0 a1 a2 a3) (w:World) (hk:KIs w b F) :
  Calls prog 104 #[.pointer (some ⟨b,0,none⟩),.agg #[.int .u64 a0,.int .u64 a1,.int .u64 a2,.int .u64 a3]] w (dK (kp F (aA a0 a1 a2 a3)) w):=by
 have HK:=Lib.hid hk;have HF:=Lib.hid hF;have hL:=hk.lt;have hL1:b<w.heap.size+1:=by omega
 have hL2:b<w.heap.size+1+1:=by omega
 have k5:=hk.k5; have k6:=hk.k6; have k7:=hk.k7; have k8:=hk.k8;clear hk hF
 go_enter func104,ntmps104
 go_wp2_with fail
 go_region_with (go_at_call 109; refine (eV F HF.out b a0 a1 a2 a3 F.s0 F.s1 F.s2 F.s3 ha HF.out.oks HF.out.sqlt _ (HK.out.same (by repeat (first|exact Below.refl _ _|refine Below.drew ?_|refine Below.trans ?_ (aP _ _ _)|refine Below.alloc ?_ (by first|(simp; done)|(simp; omega)) _)))).mono ?_; rintro e ws ⟨s0,s1,s2,s3,rfl,hs,hv,hbl⟩; have HVs:=Lib.hid hv; obtain⟨hcs,hfs⟩:=qJ hbl; have hzs:w.heap.size+1<ws.heap.size:=by { have:=hbl.size; simp at this; omega }; have HBLs:=Lib.hid hbl; clear hv hbl)
 all_goals (
  go_wp2_with fail;refine bodyPost_ret (v:=.agg #[.int .u64 s0,.int .u64 s1,.int .u64 s2,.int .u64 s3]) (by simp[results,results104,go_sem, *]) rfl ?_;refine⟨_,_,_,_,rfl,hs,HVs.out.trans (BP HF.out _),?_⟩;refine aV (Below.trans ?_ (HBLs.out.mono (by first|(simp; done)|(simp; omega)))) (by omega) _ _ _ _
  repeat (first|exact Below.refl _ _|refine Below.drew ?_|refine Below.trans ?_ (aP _ _ _)|refine Below.alloc ?_ (by first|(simp; done)|(simp; omega)) _)
 )
theorem wK (n:Nat) (hn:n<18446744073709551616) (w:World):Calls prog 46 #[.int .u64 n] w fun e w'=>e=.returned (.agg #[.int .u64 n,.int .u64 0,.int .u64 0,.int .u64 0])∧Below w.heap.size w w':=by
 go_enter func46,ntmps46
 go_wp2_with fail;refine bodyPost_ret (v:=.agg #[.int .u64 n,.int .u64 0,.int .u64 0,.int .u64 0]) (by simp[results,results46,go_sem]) rfl ?_;exact⟨rfl,by repeat (first|exact Below.refl _ _|refine Below.drew ?_|refine Below.alloc ?_ (by first|(simp; done)|(simp; omega)) _|refine Below.setCell ?_ (by simp) _)⟩
set_option maxHeartbeats 1000000 in
theorem DQ (F:FC) (hF:F.Ok) (b:Nat)  (w:World) (hk:KIs w b F) :
  Calls prog 122 #[.pointer (some ⟨b,0,none⟩)] w (dK (kp F 1) w):=by
 have HK:=Lib.hid hk;have HF:=Lib.hid hF;have hL:=hk.lt;have hL1:b<w.heap.size+1:=by omega
 have hL2:b<w.heap.size+1+1:=by omega
 clear hk hF
 go_enter func122,ntmps122
 go_wp2_with fail;refine (wK 1 (by omega) _).mono ?_
 rintro e w1 ⟨rfl,hb1⟩
 have hz1:w.heap.size<w1.heap.size:=by have:=hb1.size; simp at this; omega
 obtain⟨hc1,hf1⟩:=qJ hb1;have HB1:=Lib.hid hb1;have HK1:=Lib.hid ((HK.out.same (by repeat (first|exact Below.refl _ _|refine Below.drew ?_|refine Below.trans ?_ (aP _ _ _)|refine Below.alloc ?_ (by first|(simp; done)|(simp; omega)) _)):KIs (w.alloc _) b F).same hb1);clear hb1;go_wp2_with fail;refine (lD F HF.out b 1 0 0 0 ⟨by omega,by omega,by omega,by omega⟩ _ HK1.out).mono ?_
 rintro e ws ⟨s0,s1,s2,s3,rfl,hs,hv,hbl⟩
 have HVs:=Lib.hid hv;obtain⟨hcs,hfs⟩:=qJ hbl;have hzs:w.heap.size<ws.heap.size:=by have:=hbl.size; omega
 have HBLs:=Lib.hid (HB1.out.trans (hbl.mono HB1.out.size));clear hv hbl;go_wp2_with fail;refine bodyPost_ret (v:=.agg #[.int .u64 s0,.int .u64 s1,.int .u64 s2,.int .u64 s3]) (by simp[results,results122,go_sem, *]) rfl ?_;refine⟨_,_,_,_,rfl,hs,HVs.out,?_⟩;refine aV (Below.trans ?_ (HBLs.out.mono (by first|(simp; done)|(simp; omega)))) (by omega) _ _ _ _
 repeat (first|exact Below.refl _ _|refine Below.drew ?_|refine Below.trans ?_ (aP _ _ _)|refine Below.alloc ?_ (by first|(simp; done)|(simp; omega)) _)
set_option maxHeartbeats 1000000 in
theorem qU (F:FC) (hF:F.Ok) (b a0 a1 a2 a3 b0 b1 b2 b3:Nat) (ha:bH a0 a1 a2 a3) (hb:bH b0 b1 b2 b3) (lb:aA b0 b1 b2 b3<F.M) (w:World) (hk:KIs w b F) :
  Calls prog 107 #[.pointer (some ⟨b,0,none⟩),.agg #[.int .u64 a0,.int .u64 a1,.int .u64 a2,.int .u64 a3],.agg #[.int .u64 b0,.int .u64 b1,.int .u64 b2,.int .u64 b3]] w (dK (aA a0 a1 a2 a3*aA b0 b1 b2 b3%F.M) w):=by
 have HK:=Lib.hid hk;have HF:=Lib.hid hF;have hL:=hk.lt;have hL1:b<w.heap.size+1:=by omega
 have hL2:b<w.heap.size+1+1:=by omega
 have HLB:=Lib.hid lb;clear lb;clear hk hF
 go_enter func107,ntmps107
 go_wp2_with fail
 go_region_with (first|(go_at_call 104; refine (lD F HF.out b a0 a1 a2 a3 ha _ (HK.out.same (by repeat (first|exact Below.refl _ _|refine Below.drew ?_|refine Below.trans ?_ (aP _ _ _)|refine Below.alloc ?_ (by first|(simp; done)|(simp; omega)) _)))).mono ?_; rintro e ws ⟨s0,s1,s2,s3,rfl,hs,hv,hbl⟩; have HVs:=Lib.hid hv; obtain⟨hcs,hfs⟩:=qJ hbl; have hzs:w.heap.size+1+1<ws.heap.size:=by { have:=hbl.size; simp at this; omega }; have HBLs:=Lib.hid hbl; clear hv hbl; have HKs:=Lib.hid (KIs.same (F:=F) (b:=b) (HK.out.same (by repeat (first|exact Below.refl _ _|refine Below.drew ?_|refine Below.trans ?_ (aP _ _ _)|refine Below.alloc ?_ (by first|(simp; done)|(simp; omega)) _))) HBLs.out))|(go_at_call 109; refine (eV F HF.out b s0 s1 s2 s3 b0 b1 b2 b3 hs hb HLB.out _ HKs.out).mono ?_; rintro e wp ⟨p0,p1,p2,p3,rfl,hp,hv,hbl⟩; have HVp:=Lib.hid hv; obtain⟨hcp,hfp⟩:=qJ hbl; have hzp:w.heap.size+1+1<wp.heap.size:=by { have:=hbl.size; omega }; have HBLp:=Lib.hid (HBLs.out.trans (hbl.mono HBLs.out.size)); clear hv hbl))
 all_goals (
  go_wp2_with fail;refine bodyPost_ret (v:=.agg #[.int .u64 p0,.int .u64 p1,.int .u64 p2,.int .u64 p3]) (by simp[results,results107,go_sem, *]) rfl ?_;refine⟨_,_,_,_,rfl,hp,HVp.out.trans (by rw[HVs.out]; exact pO HF.out _ _),?_⟩;refine aV (Below.trans ?_ (HBLp.out.mono (by first|(simp; done)|(simp; omega)))) (by omega) _ _ _ _
  repeat (first|exact Below.refl _ _|refine Below.drew ?_|refine Below.trans ?_ (aP _ _ _)|refine Below.alloc ?_ (by first|(simp; done)|(simp; omega)) _)
 )
theorem eU {a p:Nat} (ha:a<18446744073709551616) (hp:p≤63):∃lo up:Nat,(a:Int)/2^p=(lo:Int)∧IntKind.u64.wrap ((a:Int)*2^(64-p))=(up:Int) ∧
  lo<18446744073709551616∧up<18446744073709551616∧Hid (∃m,a=lo*2^p+m∧m<2^p∧up*2^p=m*18446744073709551616)∧Hid (lo<2^(64-p))∧Hid (∃t,up=2^(64-p)*t):=by
 have hps:=DM p hp;have hpos:0<2^p:=Nat.two_pow_pos p;refine⟨a/2^p,a%2^p*2^(64-p),?_,?_,Nat.lt_of_le_of_lt (Nat.div_le_self _ _) ha,?_,Lib.hid ⟨a%2^p,?_,Nat.mod_lt _ hpos,?_⟩,Lib.hid ?_,Lib.hid ⟨a%2^p,Nat.mul_comm _ _⟩⟩
 ·rw[Int.natCast_ediv,Int.natCast_pow]; rfl
 ·rw[uB,iB];congr 1;rw[show 18446744073709551616=2^p*2^(64-p) by rw[Nat.mul_comm,hps],Nat.mul_mod_mul_right]
 ·have:=Nat.mul_lt_mul_of_pos_right (Nat.mod_lt a hpos) (Nat.two_pow_pos (64-p));rw[Nat.mul_comm (2^p),hps]at this;exact this
 ·rw[Nat.mul_comm]; exact (Nat.div_add_mod a (2^p)).symm
 ·rw[Nat.mul_assoc,hps]
 ·rw[Nat.div_lt_iff_lt_mul hpos,hps]; exact ha
theorem lF {lo up k:Nat} (hl:lo<18446744073709551616) (hu:up<18446744073709551616) (h1:Hid (lo<2^k)) (h2:Hid (∃t,up=2^k*t)):∃s:Nat,bits .or .u64 (lo:Int) (up:Int)=(s:Int)∧s<18446744073709551616∧Hid (s=lo+up):=by
 obtain⟨t,ht⟩:=h2.out;have e:lo ||| up=lo+up:=by rw[Nat.or_comm,ht,←Nat.two_pow_add_eq_or_of_lt h1.out,Nat.add_comm]
 refine⟨lo+up,by rw[bits_or_u64_nat _ _ hl hu,e],?_,Lib.hid rfl⟩;rw[←e]; exact Nat.or_lt_two_pow (n:=64) hl hu
theorem PV {n:Int} (h0:0≤n) (q:Int) (h:n/64=q) (h1:0≤q):∃p:Nat,n%64=(p:Int)∧p≤63∧n.toNat=64*q.toNat+p :=
 ⟨(n%64).toNat,by omega,by omega,by omega⟩
theorem rJ (q p:Nat):2^(64*q+p)=18446744073709551616^q*2^p:=by rw[Nat.pow_add,Nat.pow_mul]
theorem oR {r x T m:Nat} (h:r*T+m=x) (hm:m<T):r=x/T:=by
 subst h;rw[Nat.mul_comm,Nat.mul_add_div (by omega),Nat.div_eq_of_lt hm,Nat.add_zero]
def LenIs (n L:Nat):Prop:=n<2^L∧(0<L→2^(L-1)≤n)
theorem LenIs.uniq {n L M:Nat} (h:LenIs n L) (k:LenIs n M):L=M:=by
 rcases Nat.lt_trichotomy L M with c|c|c
 ·have h1:=k.2 (by omega);have h2:=Nat.pow_le_pow_right (show 0<2 by omega) (show L≤M-1 by omega);have:=h.1; omega
 ·exact c
 ·have h1:=h.2 (by omega);have h2:=Nat.pow_le_pow_right (show 0<2 by omega) (show M≤L-1 by omega);have:=k.1; omega
theorem LenIs.zero:LenIs 0 0:=⟨by simp,fun h=>absurd h (by omega)⟩
theorem LenIs.up {n x L k:Nat} (hn:n<2^k) (hx:0<x) (h:LenIs x L):LenIs (n+x*2^k) (k+L):=by
 have hL:0<L:=by
  rcases Nat.eq_zero_or_pos L with e|e
  ·subst e; have:=h.1; simp at this; omega
  ·exact e
 constructor
 ·have:=Nat.mul_le_mul_right (2^k) (show x+1≤2^L from h.1);rw[Nat.add_mul,Nat.one_mul]at this;rw[Nat.pow_add,Nat.mul_comm (2^k)]; omega
 ·intro _;have:=Nat.mul_le_mul_right (2^k) (h.2 hL);rw[show k+L-1=k+(L-1) by omega,Nat.pow_add,Nat.mul_comm (2^k)]; omega
theorem KP {y:Nat} (h0:0<y) (hy:y<18446744073709551616):∃S:Nat,(∀w,Calls prog 94 #[.int .u64 y] w fun e w'=>e=.returned (.int .i64 S)∧w'=w)∧S≤64∧Hid (LenIs y S):=by
 obtain⟨hl,ha,hb,hk⟩:=UO h0 hy;refine⟨y.log2+1,fun w => ?_,by omega,Lib.hid ⟨hb,fun _=>ha⟩⟩;have:=Try.bits_Len64 (y:Int) w (by omega) (by omega);rw[Int.toNat_natCast,hl]at this;exact this
theorem uX (a0 a1 a2 a3:Nat) (w:World):(Instr.index 27 (.agg #[.int .u64 a0,.int .u64 a1,.int .u64 a2,.int .u64 a3]) (.int .i64 (0:Nat))).run prog w=.ok (.int .u64 (a0:Nat)) w:=by kernel_rfl
theorem uW (a0 a1 a2 a3:Nat) (w:World):(Instr.index 27 (.agg #[.int .u64 a0,.int .u64 a1,.int .u64 a2,.int .u64 a3]) (.int .i64 (1:Nat))).run prog w=.ok (.int .u64 (a1:Nat)) w:=by kernel_rfl
theorem uV (a0 a1 a2 a3:Nat) (w:World):(Instr.index 27 (.agg #[.int .u64 a0,.int .u64 a1,.int .u64 a2,.int .u64 a3]) (.int .i64 (2:Nat))).run prog w=.ok (.int .u64 (a2:Nat)) w:=by kernel_rfl
theorem uU (a0 a1 a2 a3:Nat) (w:World):(Instr.index 27 (.agg #[.int .u64 a0,.int .u64 a1,.int .u64 a2,.int .u64 a3]) (.int .i64 (3:Nat))).run prog w=.ok (.int .u64 (a3:Nat)) w:=by kernel_rfl
theorem yJ (a0 a1 a2 a3 k:Nat) (hk:k<4) (w:World):(Instr.index 27 (.agg #[.int .u64 a0,.int .u64 a1,.int .u64 a2,.int .u64 a3]) (.int .i64 (k:Nat))).run prog w=.ok (.int .u64 (bV [a0,a1,a2,a3] k:Nat)) w:=by
 match k,hk with
 | 0,_=>exact uX a0 a1 a2 a3 w
 | 1,_=>exact uW a0 a1 a2 a3 w
 | 2,_=>exact uV a0 a1 a2 a3 w
 | 3,_=>exact uU a0 a1 a2 a3 w
def QR (A:Nat) (w:World) (e:Ending) (w':World):Prop :=
 ∃L:Nat,e=.returned (.int .i64 L)∧L≤256∧LenIs A L∧Below w.heap.size w w'
theorem JM {A:Nat→Nat} {k L S:Nat} (hA:∀j,j<k→A j<18446744073709551616) (h0:0<A k) (hS:LenIs (A k) S):LenIs (bO 18446744073709551616 A (k+1)) (64*k+S):=by
 have h1:=xY 18446744073709551616 A (by omega) k hA;rw[show 18446744073709551616^k=2^(64*k) by rw[Nat.pow_mul]]at h1;rw[aX,show 18446744073709551616^k=2^(64*k) by rw[Nat.pow_mul]];exact LenIs.up h1 h0 hS
theorem rT (a0 a1 a2 a3:Nat) (ha:bH a0 a1 a2 a3) (w:World) :
  Calls prog 68 #[.agg #[.int .u64 a0,.int .u64 a1,.int .u64 a2,.int .u64 a3]] w (QR (aA a0 a1 a2 a3) w):=by
 have lA:∀k,bV [a0,a1,a2,a3] k<18446744073709551616:=fun k=>by
  obtain⟨h0,h1,h2,h3⟩:=ha;unfold bV
  match k with
  | 0=>exact h0
  | 1=>exact h1
  | 2=>exact h2
  | 3=>exact h3
  | k+4=>simp
 obtain⟨A,eA⟩:∃A,A=bV [a0,a1,a2,a3]:=⟨_,rfl⟩
 have hix:=fun k hk w=>yJ a0 a1 a2 a3 k hk w
 rw[←eA]at lA;simp only[←eA]at hix;have hv:aA a0 a1 a2 a3=bO 18446744073709551616 A 4:=by rw[←jA,eA]; rfl
 have HV:=Lib.hid hv; have HlA:=Lib.hid lA; have Hix:=Lib.hid hix;clear eA lA hv hix
 go_enter func68,ntmps68
 go_wp2_with fail
 go_loop [3,7] (fun l i=>∃k L:Nat,k≤4∧i=.int .i64 k∧l=.int .i64 L∧L≤64*k∧Hid (LenIs (bO 18446744073709551616 A k) L)) (fun _ i=>4-(intOf i).toNat)
 case atStart=>exact⟨0,0,by omega,rfl,rfl,by omega,Lib.hid LenIs.zero⟩
 case round =>
  obtain⟨k,L,hk,rfl,rfl,hL,hl⟩:=hrel
  by_cases hlt:k<4
  ·obtain⟨x,ex⟩:∃x,x=A k:=⟨_,rfl⟩
   have hx:=Hix.out k hlt;rw[←ex]at hx;have bx:x<18446744073709551616:=by rw[ex]; exact HlA.out k
   rcases Nat.eq_zero_or_pos x with h0|h0
   ·have t0:((x:Int) != 0)=false:=by simp[h0]
    have HN:Hid (LenIs (bO 18446744073709551616 A (k+1)) L):=Lib.hid (by rw[aX,←ex,h0,Nat.zero_mul,Nat.add_zero]; exact hl.out);clear h0 ex;go_wp2_with fail
    go_round
    case rel=>exact⟨k+1,L,by omega,by go_num,rfl,by omega,HN⟩
    case measure=>simp[intOf]; omega
   ·have t0:((x:Int) != 0)=true:=by simp; omega
    obtain⟨S,rS,bS,hS⟩:=KP h0 bx;have HN:Hid (LenIs (bO 18446744073709551616 A (k+1)) (64*k+S)):=Lib.hid (JM (L:=L) (fun j _=>HlA.out j) (by omega) (by rw[←ex]; exact hS.out));clear h0 ex;go_wp2_with fail;refine (rS _).mono ?_
    rintro e w' ⟨rfl,rfl⟩
    go_wp2_with fail
    go_round
    case rel=>exact⟨k+1,64*k+S,by omega,by go_num,by go_num,by omega,HN⟩
    case measure=>simp[intOf]; omega
  ·obtain rfl:k=4:=by omega
   go_wp2_with fail;go_ret;exact⟨L,rfl,by omega,by rw[HV.out]; exact hl.out,(Below.refl _ _).alloc (Nat.le_refl _) _⟩
def bU (A i:Nat):Nat:=A/2^i%2
theorem gD (A i:Nat):bU A i=0∨bU A i=1:=by unfold bU; omega
theorem CS (R:Nat) (P:Nat→Nat) (n:Nat):bO R P (n+1)=P 0+R*bO R (fun k=>P (1+k)) n:=by
 have:=jY R P 1 n;rw[Nat.add_comm n 1,this];simp[bO]
theorem FX (P:Nat→Nat) (hP:∀k,P k<18446744073709551616) (n j k:Nat) (hj:j<n) (hk:k<64):bU (bO 18446744073709551616 P n) (64*j+k)=P j/2^k%2:=by
 obtain⟨m,rfl⟩:∃m,n=j+(m+1):=⟨n-j-1,by omega⟩
 have h1:=jY 18446744073709551616 P j (m+1);have h2:=CS 18446744073709551616 (fun k=>P (j+k)) m;have h3:=xY 18446744073709551616 P (by omega) j (fun k _=>hP k);unfold bU;rw[h1,h2,rJ,←Nat.div_div_eq_div_mul,Nat.add_mul_div_left _ _ (by exact Nat.pow_pos (by omega)),Nat.div_eq_of_lt h3,Nat.zero_add];have e:18446744073709551616=2^k*(2*2^(63-k)):=by
  rw[←Nat.pow_succ',←Nat.pow_add,show k+(63-k).succ=64 by omega]
 show (P j+18446744073709551616*_)/2^k%2=_;generalize bO 18446744073709551616 (fun k=>P (j+(1+k))) m=H;rw[show 18446744073709551616*H=2^k*(2*2^(63-k))*H by rw[←e],Nat.mul_assoc,Nat.add_mul_div_left _ _ (by exact Nat.pow_pos (by omega)),Nat.mul_assoc,Nat.add_mul_mod_self_left]
theorem EU {x k:Nat} (h:x/2^k%2=0):∃t l,x=2^(k+1)*t+l∧l<2^k:=by
 refine⟨x/2^k/2,x%2^k,?_,Nat.mod_lt _ (Nat.pow_pos (by omega))⟩;have h1:=Nat.div_add_mod x (2^k);have h2:x/2^k=2*(x/2^k/2):=by omega
 rw[Nat.pow_succ,Nat.mul_assoc,←h2,h1]
theorem IR {x k:Nat} (h:x/2^k%2=0):x ||| 2^k=x+2^k:=by
 obtain⟨t,l,rfl,hl⟩:=EU h;have h1:l<2^(k+1):=by rw[Nat.pow_succ]; omega
 have h2:2^k+l<2^(k+1):=by rw[Nat.pow_succ]; omega
 have e1:=Nat.two_pow_add_eq_or_of_lt hl 1;have e2:=Nat.two_pow_add_eq_or_of_lt h1 t;have e3:=Nat.two_pow_add_eq_or_of_lt h2 t;rw[Nat.mul_one]at e1;rw[e2,Nat.or_assoc,Nat.or_comm l,←e1,←e3];omega
theorem VO {x k:Nat} (hx:x<18446744073709551616) (hk:k<64) (h:x/2^k%2=0):x+2^k<18446744073709551616:=by
 have hk':2^k<2^64:=Nat.pow_lt_pow_right (by omega) hk;rw[←IR h];have:=Nat.or_lt_two_pow (n:=64) (x:=x) (y:=2^k) (by simpa using hx) hk';simpa using this
theorem BW {i:Nat} (h:i<256):∃j k:Nat,(i:Int)/64=(j:Int)∧(i:Int)%64=(k:Int)∧j<4∧k<64∧Hid (i=64*j+k) :=
 ⟨i/64,i%64,by omega,by omega,by omega,by omega,Lib.hid (by omega)⟩
theorem FE (x:Nat) (hx:x<18446744073709551616):bits .and .u64 (x:Int) 1=((x%2:Nat):Int):=by
 rw[show (1:Int)=((1:Nat):Int)from rfl,bits_and_u64_nat _ _ hx (by omega),Nat.and_one_is_mod]
theorem zV {x k b:Nat} (hx:x<18446744073709551616) (hb:x/2^k%2=b):∃s:Nat,(x:Int)/2^k=(s:Int)∧bits .and .u64 (s:Int) 1=(b:Int)∧s<18446744073709551616:=by
 have hs:x/2^k<18446744073709551616:=Nat.lt_of_le_of_lt (Nat.div_le_self _ _) hx;exact⟨x/2^k,by rw[Int.natCast_ediv,Int.natCast_pow]; rfl,by rw[FE _ hs,hb],hs⟩
theorem VC {x k:Nat} (hx:x<18446744073709551616) (hk:k<64) (h:x/2^k%2=0):∃t s:Nat,(2:Int)^k=(t:Int)∧bits .or .u64 (x:Int) (t:Int)=(s:Int)∧t<18446744073709551616∧s<18446744073709551616∧Hid (s=x+2^k):=by
 have hk':2^k<2^64:=Nat.pow_lt_pow_right (by omega) hk;have hk2:2^k<18446744073709551616:=by simpa using hk'
 exact⟨2^k,x+2^k,by rw[Int.natCast_pow]; rfl,by rw[bits_or_u64_nat _ _ hx hk2,IR h],hk2,VO hx hk h,Lib.hid rfl⟩
theorem uM {P:Nat→Nat} {j k n:Nat} (hj:j<n):bO 18446744073709551616 (cH P j (P j+2^k)) n=bO 18446744073709551616 P n+2^(64*j+k):=by
 have h:=oI 18446744073709551616 P j (P j+2^k) n hj;rw[Nat.add_mul]at h;rw[rJ,Nat.mul_comm (18446744073709551616^j)];omega
theorem mJ (A i:Nat):A/2^i=2*(A/2^(i+1))+bU A i:=by
 unfold bU;rw[Nat.pow_succ,←Nat.div_div_eq_div_mul];omega
def gO (T i:Nat):Nat:=T/2^i*2^i
theorem EM (T i:Nat):gO T i=gO T (i+1)+bU T i*2^i:=by
 unfold gO;rw[mJ T i,Nat.add_mul,Nat.pow_succ,Nat.mul_comm 2 (T/_),Nat.mul_assoc,Nat.mul_comm 2]
theorem KF (T i:Nat):bU (gO T (i+1)) i=0:=by
 unfold gO bU;rw[Nat.pow_succ,Nat.mul_comm (2^i) 2,←Nat.mul_assoc,Nat.mul_div_cancel _ (Nat.pow_pos (by omega))];omega
theorem KE {T i:Nat} (h:T<2^i):gO T i=0:=by unfold gO; rw[Nat.div_eq_of_lt h,Nat.zero_mul]
theorem KG {T i:Nat} (h:2^i∣T):gO T i=T:=Nat.div_mul_cancel h
theorem QI (A n i:Nat) (h:i<256) (hn:n≤i):bU (A*2^n%115792089237316195423570985008687907853269984665640564039457584007913129639936) i=bU A (i-n):=by
 unfold bU;have e:115792089237316195423570985008687907853269984665640564039457584007913129639936=2^i*(2*2^(255-i)):=by
  rw[←Nat.pow_succ',←Nat.pow_add,show i+(255-i).succ=256 by omega]
 obtain⟨d,rfl⟩:∃d,i=n+d:=⟨i-n,by omega⟩
 rw[e,Nat.mod_mul_right_div_self,Nat.pow_add,show n+d-n=d by omega,Nat.mul_comm A,Nat.mul_div_mul_left _ _ (Nat.pow_pos (by omega)),Nat.mod_mul_right_mod]
def CO (b:Nat) (w:World) (e:Ending) (w':World):Prop:=e=.returned (.int .i64 b)∧Below w.heap.size w w'
theorem nH {a0 a1 a2 a3:Nat} (ha:bH a0 a1 a2 a3) (k:Nat):bV [a0,a1,a2,a3] k<18446744073709551616:=by
 obtain⟨h0,h1,h2,h3⟩:=ha;unfold bV
 match k with
 | 0=>exact h0
 | 1=>exact h1
 | 2=>exact h2
 | 3=>exact h3
 | k+4=>simp
theorem sO (a0 a1 a2 a3:Nat):aA a0 a1 a2 a3=bO 18446744073709551616 (bV [a0,a1,a2,a3]) 4:=by rw[←jA]; rfl
theorem uC {a0 a1 a2 a3 i j k:Nat} (ha:bH a0 a1 a2 a3) (hj:j<4) (hk:k<64) (e:i=64*j+k):bV [a0,a1,a2,a3] j/2^k%2=bU (aA a0 a1 a2 a3) i:=by
 rw[sO,e,FX _ (nH ha) 4 j k hj hk]
theorem lX (w:World) (t:TypeId) (a0 a1 a2 a3 j:Nat) (hj:j<4):(w.alloc (.cells #[.int .u64 a0,.int .u64 a1,.int .u64 a2,.int .u64 a3] t)).cell? ⟨w.heap.size,j,none⟩=some (.int .u64 (bV [a0,a1,a2,a3] j:Nat)) :=
 (RowIs.mk w t [a0,a1,a2,a3] w.heap.size rfl).cell hj
theorem mS (a0 a1 a2 a3 i:Nat) (ha:bH a0 a1 a2 a3) (hi:i<256) (w:World) :
  Calls prog 49 #[.agg #[.int .u64 a0,.int .u64 a1,.int .u64 a2,.int .u64 a3],.int .i64 i] w (CO (bU (aA a0 a1 a2 a3) i) w):=by
 obtain⟨j,k,q,r,hj,hk,e⟩:=BW hi;have hc:=lX w 27 a0 a1 a2 a3 j hj;have hx:=nH ha j;obtain⟨s,e1,e2,hs⟩:=zV hx (uC ha hj hk e.out);have hb:=gD (aA a0 a1 a2 a3) i;generalize bU (aA a0 a1 a2 a3) i=b at *;generalize bV [a0,a1,a2,a3] j=x at *;have hb':b≤1:=by omega
 clear hb e;have t0:decide ((i:Int)<0)=false:=decide_eq_false (by omega);have t1:decide ((255:Int)<(i:Int))=false:=decide_eq_false (by omega)
 go_enter func49,ntmps49
 go_wp2_with fail;go_ret;exact⟨rfl,(Below.refl _ _).alloc (Nat.le_refl _) _⟩
theorem VP (a0 a1 a2 a3 i:Nat) (ha:bH a0 a1 a2 a3) (hi:i<256) (w:World) :
  Calls prog 123 #[.agg #[.int .u64 a0,.int .u64 a1,.int .u64 a2,.int .u64 a3],.int .i64 i] w (CO (bU (aA a0 a1 a2 a3) i) w):=by
 obtain⟨j,k,q,r,hj,hk,e⟩:=BW hi;have hc:=lX w 27 a0 a1 a2 a3 j hj;have hx:=nH ha j;obtain⟨s,e1,e2,hs⟩:=zV hx (uC ha hj hk e.out);have hb:=gD (aA a0 a1 a2 a3) i;generalize bU (aA a0 a1 a2 a3) i=b at *;generalize bV [a0,a1,a2,a3] j=x at *;have hb':b≤1:=by omega
 clear hb e;have t0:decide ((i:Int)<0)=false:=decide_eq_false (by omega);have t1:decide ((256:Int)≤(i:Int))=false:=decide_eq_false (by omega)
 go_enter func123,ntmps123
 go_wp2_with fail;go_ret;exact⟨rfl,(Below.refl _ _).alloc (Nat.le_refl _) _⟩
end Go.Proofs.Ytjeplinbleofnaa
